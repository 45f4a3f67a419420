/- Contracts of a line's Insert and Delete in all cases: what is told, and what the line then is. -/
import Derived.Test.YtchngdhmloahbabDoorLineDel
import Derived.Test.YtchngdhmloahbabDoorLineLaw
set_option linter.unusedVariables false
namespace Go.Proofs.YtchngdhmloahbabDoor
open Go.RowKit Go.Lib Go.Sort
open scoped Classical

/-- What an act leaves: the line, and all else but its own blocks. -/
def ActOk (base : Nat) (w : World) (p : Nat) (v : Value) (M : List Ltr) (w' : World) : Prop :=
  ∃ v', LineAt base w' p v' M ∧ Keeps (fun k => k = p ∨ some k = v.ownBlock) w w' ∧ (v'.ownBlock = v.ownBlock ∨ ∀ g, v'.ownBlock = some g → w.heap.size ≤ g)
theorem ActOk.of_below {base : Nat} {w w' : World} {p : Nat} {v : Value} {L : List Ltr} (h : LineAt base w p v L) (hb : Below w.heap.size w w') : ActOk base w p v L w' :=
  ⟨v, h.later hb, (keeps_of_below hb).mono (fun k hk e => by omega), .inl rfl⟩
theorem ActOk.of_put {base : Nat} {w w' : World} {p : Nat} {v : Value} {M : List Ltr} (h : PutOk base w p v M w') : ActOk base w p v M w' := by
  obtain ⟨v', h1, h2, h3⟩ := h
  exact ⟨v', h1, h2, h3⟩
/-- The number of Insert's error. -/
def insE (id behind : Int) (L : List Ltr) : Nat :=
  if 4 ≤ id ∧ id < 4294967300 ∧ 0 ≤ behind ∧ behind < id then (if id ∈ L.map (·.1) then 7 else if behind = 0 ∨ behind ∈ L.map (·.1) then 0 else 6) else 3
/-- The line behind it. -/
def insL (id behind : Int) (c : Nat) (L : List Ltr) : List Ltr := if insE id behind L = 0 then put behind (id, c, false) L else L
/-- An error by its number. -/
def errN (ad : Nat → Addr) (c : Nat) : Value := if c = 0 then .nilIface else .iface 109 (.pointer (some (ad (c - 1))))

theorem insert_all {ad : Nat → Addr} (w : World) (base p : Nat) (v : Value) (L : List Ltr) (id behind : Int) (c : Nat) (hE : Ln4 ad w) (hT : LineAt base w p v L) (hbase : base ≤ w.heap.size) (hL : L.length ≤ 900) (hi : -9223372036854775808 ≤ id ∧ id ≤ 9223372036854775807) (hc : c < 256) :
    Calls Tryd.prog 9 #[.pointer (some ⟨p, 0, none⟩), .int .i64 id, .int .i64 behind, .int .u8 (c : Int)] w fun e w' => e = .returned (errN ad (insE id behind L)) ∧ ActOk base w p v (insL id behind c L) w' := by
  unfold insL insE
  by_cases h1 : 4 ≤ id ∧ id < 4294967300 ∧ 0 ≤ behind ∧ behind < id
  · rw [if_pos h1]
    by_cases h2 : id ∈ L.map (·.1)
    · rw [if_pos h2, if_neg (by omega)]
      refine (insert_exist w base p v L id behind c hE hT (by omega) h1 h2).mono ?_
      rintro e w' ⟨rfl, hb⟩
      exact ⟨rfl, ActOk.of_below hT hb⟩
    · rw [if_neg h2]
      by_cases h3 : behind = 0 ∨ behind ∈ L.map (·.1)
      · rw [if_pos h3, if_pos rfl]
        refine (insert_ok w base p v L id behind c hT hbase hL h1 hc h2 h3).mono ?_
        rintro e w' ⟨rfl, hp⟩
        exact ⟨rfl, ActOk.of_put hp⟩
      · rw [if_neg h3, if_neg (by omega)]
        refine (insert_none w base p v L id behind c hE hT (by omega) h1 h2 (fun e => h3 (.inl e)) (fun e => h3 (.inr e))).mono ?_
        rintro e w' ⟨rfl, hb⟩
        exact ⟨rfl, ActOk.of_below hT hb⟩
  · rw [if_neg h1, if_neg (by omega)]
    refine (insert_shape w p id behind c hE hi h1).mono ?_
    rintro e w' ⟨rfl, hb⟩
    exact ⟨rfl, ActOk.of_below hT hb⟩

/-- The number of Delete's error, and the line behind it. -/
def delE (id : Int) (L : List Ltr) : Nat := match findL id L with
  | none => 6
  | some _ => 0
def delL (id : Int) (L : List Ltr) : List Ltr := match findL id L with
  | none => L
  | some i => L.set i (id, 0, true)
theorem delete_all {ad : Nat → Addr} (w : World) (base p : Nat) (v : Value) (L : List Ltr) (id : Int) (hE : Ln4 ad w) (hT : LineAt base w p v L) (hL : L.length ≤ 1000) :
    Calls Tryd.prog 10 #[.pointer (some ⟨p, 0, none⟩), .int .i64 id] w fun e w' => e = .returned (errN ad (delE id L)) ∧ ActOk base w p v (delL id L) w' := by
  unfold delE delL
  cases hf : findL id L with
  | none =>
    refine (delete_none w base p v L id hE hT hL (fun hm => ?_)).mono ?_
    · obtain ⟨l, hl, e⟩ := List.mem_map.1 hm
      exact findL_none hf l hl e
    · rintro e w' ⟨rfl, hb⟩
      exact ⟨rfl, ActOk.of_below hT hb⟩
  | some i =>
    refine (delete_ok w base p i v L id hT hL hf).mono ?_
    rintro e w' ⟨rfl, h1, h2⟩
    exact ⟨rfl, v, h1, h2.mono (fun k _ e => .inr e), .inl rfl⟩

theorem ActOk.step {base : Nat} {w0 w w' : World} {p : Nat} {v : Value} {L M : List Ltr} (h : ActOk base w p v M w') (hT : LineAt base w p v L) (hB : Below w0.heap.size w0 w) (hp : w0.heap.size ≤ p) :
    ∃ v', LineAt base w' p v' M ∧ Below w0.heap.size w0 w' ∧ Keeps (fun k => k = p ∨ some k = v.ownBlock) w w' ∧ (v'.ownBlock = v.ownBlock ∨ ∀ g, v'.ownBlock = some g → w.heap.size ≤ g) := by
  obtain ⟨v', h1, h2, h3⟩ := h
  have hlow := hT.low
  refine ⟨v', h1, hB.trans (h2.below hB.size ?_), h2, h3⟩
  rintro k (rfl | e)
  · exact hp
  · have := (hT.ne k e.symm).2.2
    omega

theorem insL_len (id behind : Int) (c : Nat) (L : List Ltr) : L.length ≤ (insL id behind c L).length ∧ (insL id behind c L).length ≤ L.length + 1 := by
  unfold insL
  split
  · rename_i h
    have hb : behind = 0 ∨ behind ∈ L.map (·.1) := by
      unfold insE at h
      split at h
      · split at h
        · cases h
        · split at h
          · assumption
          · cases h
      · cases h
    rw [put_len hb]
    omega
  · omega
theorem insE_zero {id behind : Int} {L : List Ltr} (h : insE id behind L = 0) : behind = 0 ∨ behind ∈ L.map (·.1) := by
  unfold insE at h
  split at h
  · split at h
    · cases h
    · split at h
      · assumption
      · cases h
  · cases h
theorem insL_text (id behind : Int) (c : Nat) (L : List Ltr) : (textL (insL id behind c L)).length = (textL L).length + (if insE id behind L = 0 then 1 else 0) := by
  unfold insL textL
  rw [List.length_map, List.length_map]
  split
  · rename_i h
    rw [seenOf_put (insE_zero h)]
  · rfl
theorem insL_sub (id behind : Int) (c : Nat) (L : List Ltr) : (L.map (·.1)).Sublist ((insL id behind c L).map (·.1)) := by
  unfold insL
  split
  · rename_i h
    exact (put_sub (insE_zero h)).map _
  · exact List.Sublist.refl _
theorem delL_ids (id : Int) (L : List Ltr) : (delL id L).map (·.1) = L.map (·.1) := by
  unfold delL
  cases hf : findL id L with
  | none => rfl
  | some i =>
    obtain ⟨l, h1, rfl⟩ := findL_some hf
    exact set_ids h1 0 true
theorem delL_len (id : Int) (L : List Ltr) : (delL id L).length = L.length := by
  have := congrArg List.length (delL_ids id L)
  simpa using this
theorem delL_text (id : Int) (L : List Ltr) : (textL (delL id L)).length ≤ (textL L).length ∧ (textL L).length ≤ (textL (delL id L)).length + 1 := by
  unfold textL
  rw [List.length_map, List.length_map]
  unfold delL
  cases hf : findL id L with
  | none => dsimp only; omega
  | some i =>
    obtain ⟨l, h1, _⟩ := findL_some hf
    exact seenOf_set h1 id 0
end Go.Proofs.YtchngdhmloahbabDoor
