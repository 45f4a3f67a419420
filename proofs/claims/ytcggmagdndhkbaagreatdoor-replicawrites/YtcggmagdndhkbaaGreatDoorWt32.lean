import Derived.Test.YtcggmagdndhkbaaGreatDoorWt19
import Derived.Test.YtcggmagdndhkbaaGreatDoorWt20
import Derived.Test.YtcggmagdndhkbaaGreatDoorWt31
section
set_option linter.unusedVariables false
set_option linter.unusedSimpArgs false
namespace Go.Proofs.YtcggmagdndhkbaaGreatDoor
open Go.RowKit Go.Lib Go.Sort Go.Maps
open scoped Classical
structure StSt (w : World) (S : Nat) (W1 : World) (v0 : Value) (ls : List (List UInt8)) (v : Value) (wr : World) : Prop where
  st : TellSt S ls v wr
  below : Below S w wr
  keeps : Keeps (fun k => k = S ∨ v0.ownBlock = some k) W1 wr
  own : ∀ k, v.ownBlock = some k → v0.ownBlock = some k ∨ W1.heap.size ≤ k
theorem StSt.start {w W : World} {S : Nat} {ls : List (List UInt8)} {v : Value} (h : TellSt S ls v W) (hb : Below S w W) : StSt w S W v ls v W := ⟨h, hb, Keeps.refl _ _, fun k hk => .inl hk⟩
theorem StSt.later {w W1 wr w' : World} {S : Nat} {ls : List (List UInt8)} {v0 v : Value} (h : StSt w S W1 v0 ls v wr) (hb : Below wr.heap.size wr w') : StSt w S W1 v0 ls v w' :=
  ⟨h.st.later hb, h.below.trans (hb.mono (Nat.le_of_lt h.st.lt)), h.keeps.trans ((keeps_of_below hb).mono (fun k hk e => absurd hk (by omega))), h.own⟩
theorem StSt.tell {w W1 wr w' : World} {S : Nat} {ls : List (List UInt8)} {v0 v : Value} {line : List UInt8} {e : Ending} (h : StSt w S W1 v0 ls v wr) (ht : TellOut S line ls v wr e w') : ∃ v', e = .returned (.tuple #[]) ∧ StSt w S W1 v0 (ls ++ [line]) v' w' := by
  obtain ⟨v', rfl, h1, h2, h3⟩ := ht
  have hs := h.keeps.size
  refine ⟨v', rfl, h1, ?_, h.keeps.then h2 (fun i hi q => q.imp id (fun q => ?_)), fun k hk => ?_⟩
  · refine h.below.trans (h2.below (Nat.le_of_lt h.st.lt) (fun k q => ?_))
    rcases q with rfl | q
    · exact Nat.le_refl _
    · have := (h.st.row.lt k q).1
      omega
  · rcases h.own i q with q | q
    · exact q
    · omega
  · rcases h3 k hk with q | q
    · exact h.own k q
    · exact .inr (by omega)
theorem StSt.kept {w W1 wr : World} {S : Nat} {ls : List (List UInt8)} {v0 v : Value} (h : StSt w S W1 v0 ls v wr) {g : Nat} (hg : g < W1.heap.size) (h1 : g ≠ S) (h2 : v0.ownBlock ≠ some g) : wr.heap[g]? = W1.heap[g]? := h.keeps.block g hg (fun e => e.elim h1 h2)
theorem StSt.inRow {α : Type} {enc : α → List Value} {w W1 wr : World} {S : Nat} {ls : List (List UInt8)} {v0 v : Value} (h : StSt w S W1 v0 ls v wr) {ao : Option Addr} {zs : List α} (hz : InRow enc W1 ao zs) (hk : ∀ g o, ao = some ⟨g, o, none⟩ → g < W1.heap.size ∧ g ≠ S ∧ v0.ownBlock ≠ some g) : InRow enc wr ao zs :=
  hz.kept (fun g o e => h.kept (hk g o e).1 (hk g o e).2.1 (hk g o e).2.2)
theorem inRow_lt {α : Type} {enc : α → List Value} {k : Nat} (hlen : ∀ x, (enc x).length = k) (hk : 0 < k) {w : World} {ao : Option Addr} {zs : List α} (h : InRow enc w ao zs) (hz : zs ≠ []) {g o : Nat} (e : ao = some ⟨g, o, none⟩) : g < w.heap.size := by
  cases zs with
  | nil => exact absurd rfl hz
  | cons x t =>
    obtain ⟨b, o', e', hc⟩ := h.get hlen (i := 0) (x := x) rfl
    rw [e] at e'
    cases e'
    cases hx : enc x with
    | nil => have := hlen x; rw [hx] at this; simp at this; omega
    | cons u r => exact World.block_lt_of_cell? w ⟨g, _, none⟩ (hc 0 u (by rw [hx]; rfl))
theorem pls_in {w : World} {v : Value} {qs : List Plc} (h : PlsAt w v qs) : ∃ ao cap, v = .slice ao qs.length cap ∧ InRow cellsP w ao qs ∧ ∀ g o, ao = some ⟨g, o, none⟩ → v.ownBlock = some g ∧ g < w.heap.size := by
  rcases h with ⟨rfl, rfl⟩ | ⟨g, cap, rfl, hl, hc⟩
  · exact ⟨none, 0, rfl, .inl rfl, fun g o e => by cases e⟩
  · exact ⟨some ⟨g, 0, none⟩, cap, rfl, .inr ⟨g, 0, rfl, fun j u hj => by rw [Nat.zero_add]; exact hc j u hj⟩, fun g' o e => by cases e; exact ⟨rfl, hl⟩⟩
theorem itoa_len (n : Int) (h0 : 0 ≤ n) (h1 : n < 2 ^ 62) : (Lib.itoa n).length ≤ 100 := by
  have := Lib.itoa_length_le n (by omega) (by omega)
  omega
theorem join_le (M : Nat) : ∀ ls : List (List UInt8), (∀ l ∈ ls, l.length ≤ M) → (Lib.join ls [10]).length ≤ ls.length * (M + 1)
  | [], _ => by simp [Lib.join_nil]
  | x :: r, h => by
    rw [Lib.join_length]
    have : ∀ r : List (List UInt8), (∀ l ∈ r, l.length ≤ M) → Lib.lens r ≤ r.length * M := fun r => by
      induction r with
      | nil => intro _; simp [Lib.lens]
      | cons y r ih =>
        intro h
        have h1 := h y (by simp)
        have h2 := ih (fun l hl => h l (by simp [hl]))
        simp only [Lib.lens, List.map_cons, List.sum_cons, List.length_cons] at h2 ⊢
        rw [Nat.add_mul]
        omega
    have := this (x :: r) h
    simp only [List.length_cons, List.length_nil] at this ⊢
    rw [Nat.mul_add, Nat.mul_one]
    omega
theorem mark_of {A : List OpX} {mm : List Mrk} (h : IsMarks (madeO A) mm) {m : Mrk} (hm : m ∈ mm) : 0 ≤ m.1 ∧ m.1 < 2 ^ 40 ∧ m.2.1.size ≤ 12 ∧ m.2.2.size ≤ 12 := by
  obtain ⟨-, s, hs⟩ := (h.mem m).1 hm
  have hb := bestC_fold (marksO A) (keyM m)
  unfold madeO at hs
  rw [hs] at hb
  have hmem : (keyM m, (m.2.2, s)) ∈ marksO A := hb.1
  obtain ⟨x, hx, e⟩ := List.mem_filterMap.1 hmem
  have hx0 : errO x = 0 := by
    unfold markO at e
    split at e
    · rename_i q; exact q.1
    · cases e
  have ek := markO_some e
  have q := opE_zero hx0
  have e1 : m.1 = x.2.2.2.2.1 := congrArg (fun z => z.1.1) ek
  have e2 : m.2.1 = x.2.2.2.2.2.2.1 := congrArg (fun z => z.1.2) ek
  have e3 : m.2.2 = x.2.2.2.2.2.2.2 := congrArg (fun z => z.2.1) ek
  have l1 : x.2.2.2.2.2.2.1.data.toList.length = x.2.2.2.2.2.2.1.size := by simp
  have l2 : x.2.2.2.2.2.2.2.data.toList.length = x.2.2.2.2.2.2.2.size := by simp
  rw [e1, e2, e3]
  omega
theorem take_map {α β : Type} (f : α → β) (l : List α) {k : Nat} {x : α} (h : l[k]? = some x) : (l.take (k + 1)).map f = (l.take k).map f ++ [f x] := by
  rw [List.take_add_one, h, List.map_append]
  rfl
theorem texts_of (A : List OpX) : ∃ tf : Int → List UInt8, Aside (∀ nd L, LineIs A nd L → tf nd = textL L) := by
  refine ⟨fun nd => if h : ∃ L, LineIs A nd L then textL h.choose else [], fun nd L hL => ?_⟩
  have h : ∃ L, LineIs A nd L := ⟨L, hL⟩
  simp only [dif_pos h]
  rw [h.choose_spec.unique hL]
def encI1 (k : Int) : List Value := [.int .i64 k]
theorem encI1_len (k : Int) : (encI1 k).length = 1 := rfl
theorem flat_ints : ∀ ks : List Int, flat encI1 ks = intsV ks
  | [] => rfl
  | k :: r => by rw [flat_cons, flat_ints r]; rfl
theorem line_len (nd : Int) (ws : List (List UInt8)) (h0 : 0 ≤ nd) (h1 : nd < 2 ^ 62) (hj : (Lib.join ws [32]).length ≤ 5000) : (lineB nd ws).length ≤ 10000 := by
  have := itoa_len nd h0 h1
  unfold lineB
  simp only [List.length_append, List.length_cons, List.length_nil]
  omega
theorem place_words {p : Plc} (h : FineP p) : (Lib.join [[105, 110], Lib.itoa p.2.1, p.2.2.data.toList] [32]).length ≤ 100000 := by
  have h1 := itoa_len p.2.1 h.lo' h.hi'
  have h2 := h.sz
  have h3 : p.2.2.data.toList.length = p.2.2.size := by simp
  simp only [Lib.join_length, Lib.lens, List.map_cons, List.map_nil, List.length_cons, List.length_nil, List.sum_cons, List.sum_nil]
  omega
theorem place_len {p : Plc} (h : FineP p) : (placeB p).length ≤ 10000 := by
  refine line_len _ _ h.lo h.hi ?_
  have h1 := itoa_len p.2.1 h.lo' h.hi'
  have h2 := h.sz
  have h3 : p.2.2.data.toList.length = p.2.2.size := by simp
  simp only [Lib.join_length, Lib.lens, List.map_cons, List.map_nil, List.length_cons, List.length_nil, List.sum_cons, List.sum_nil]
  omega
theorem text_len {t : Int × List UInt8} (h : t.2.length ≤ 1000) (h0 : 0 ≤ t.1) (h1 : t.1 < 2 ^ 40) : (textB t).length ≤ 10000 := by
  refine line_len _ _ h0 (by omega) ?_
  simp only [Lib.join_length, Lib.lens, List.map_cons, List.map_nil, List.length_cons, List.length_nil, List.sum_cons, List.sum_nil]
  omega
theorem mark_len {m : Mrk} (h : 0 ≤ m.1 ∧ m.1 < 2 ^ 40 ∧ m.2.1.size ≤ 12 ∧ m.2.2.size ≤ 12) : (markB m).length ≤ 10000 := by
  refine line_len _ _ h.1 (by omega) ?_
  have h3 : m.2.1.data.toList.length = m.2.1.size := by simp
  have h4 : m.2.2.data.toList.length = m.2.2.size := by simp
  simp only [Lib.join_length, Lib.lens, List.map_cons, List.map_nil, List.length_cons, List.length_nil, List.sum_cons, List.sum_nil]
  omega
theorem joinLines (w : World) (S : Nat) (ls : List (List UInt8)) (v : Value) (h : TellSt S ls v w) (hl : ls.length ≤ 1000000) (hm : ∀ l ∈ ls, l.length ≤ 10000) :
    Calls Tryz.prog 65 #[v, .string ⟨#[10]⟩] w fun e w' => e = .returned (.string ⟨(Lib.join ls [10]).toArray⟩) ∧ Below w.heap.size w w' := by
  have hlen := join_le 10000 ls hm
  have hr := h.row
  rcases h.row.2 with ⟨rfl, h0⟩ | ⟨g, cap, cur, rfl, hbg, hgb, r1, r2, r3, r4⟩
  · have : ls = [] := List.length_eq_zero_iff.1 h0
    subst this
    exact (Tryz.strings_Join_none none 0 ⟨#[10]⟩ w).mono fun e w' ⟨h1, h2⟩ => ⟨h1, by rw [h2]; exact Below.refl _ _⟩
  · have e1 : (ls.map fun l => (⟨l.toArray⟩ : ByteArray)).map (·.data.toList) = ls := by
      rw [List.map_map]
      exact (List.map_congr_left (fun l _ => rfl)).trans (List.map_id ls)
    have e2 : (ls.map fun l => (⟨l.toArray⟩ : ByteArray)).length = ls.length := List.length_map _
    have := Tryz.strings_Join g 0 cap (ls.map fun l => (⟨l.toArray⟩ : ByteArray)) ⟨#[10]⟩ w (fun j x hj => by
      rw [Nat.zero_add]
      obtain ⟨l, hl', rfl⟩ : ∃ l, ls[j]? = some l ∧ (⟨l.toArray⟩ : ByteArray) = x := by
        rw [List.getElem?_map] at hj
        cases hq : ls[j]? with
        | none => rw [hq] at hj; cases hj
        | some l => rw [hq] at hj; cases hj; exact ⟨l, rfl, rfl⟩
      have hjl : j < ls.length := (List.getElem?_eq_some_iff.1 hl').1
      rw [hr.cellAt j (by omega)]
      unfold strsV
      rw [List.getElem?_map, hl']
      rfl) (Array.getElem?_eq_some_iff.1 hgb).1 (by rw [e2]; omega) (by rw [e2]; exact r1) (by rw [e1]; show (Lib.join ls [10]).length ≤ _; omega)
    rw [e1, e2] at this
    exact this
end Go.Proofs.YtcggmagdndhkbaaGreatDoor
end
