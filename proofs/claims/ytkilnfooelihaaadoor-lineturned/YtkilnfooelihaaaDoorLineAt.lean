/- A line in its blocks; contracts of its searches: slices.IndexFunc at letters, find, pass. -/
import Derived.Test.YtkilnfooelihaaaDoorLineIns
import Derived.Test.YtkilnfooelihaaaDoorLineNorm
import Derived.Lib.Hide
import Derived.WalkSpells
import Derived.Sort.Grow
namespace Go.Proofs.YtkilnfooelihaaaDoor
open Go.RowKit Go.Lib Go.Sort

def encL (l : Ltr) : List Value := [.int .i64 l.1, .int .u8 (l.2.1 : Int), .bool (!l.2.2)]
theorem encL_len (l : Ltr) : (encL l).length = 3 := rfl
theorem encL_one (l : Ltr) : ∀ v ∈ encL l, v.oneCell' = true := by
  intro v hv
  simp [encL] at hv
  rcases hv with rfl | rfl | rfl <;> rfl
theorem cellStays {w w' : World} {b o : Nat} {v : Value} (hb : Below w.heap.size w w') (h : w.cell? ⟨b, o, none⟩ = some v) : w'.cell? ⟨b, o, none⟩ = some v := by
  rw [hb.cell (p := ⟨b, o, none⟩) (World.block_lt_of_cell? w ⟨b, o, none⟩ h)]; exact h
/-- Letters behind an address, if there are any. -/
def LtrsIn (w : World) (ao : Option Addr) (zs : List Ltr) : Prop := zs = [] ∨ ∃ blk off, ao = some ⟨blk, off, none⟩ ∧ ∀ j u, (flat encL zs)[j]? = some u → w.cell? ⟨blk, off + j, none⟩ = some u
theorem LtrsIn.later {w w' : World} {ao : Option Addr} {zs : List Ltr} (h : LtrsIn w ao zs) (hb : Below w.heap.size w w') : LtrsIn w' ao zs := by
  rcases h with h | ⟨g, o, h1, h2⟩
  · exact .inl h
  · exact .inr ⟨g, o, h1, fun j u hj => cellStays hb (h2 j u hj)⟩
theorem LtrsIn.at {w : World} {ao : Option Addr} {zs : List Ltr} (h : LtrsIn w ao zs) {i : Nat} {a : Int} {c : Nat} {g : Bool} (hi : zs[i]? = some (a, c, g)) : ∃ blk off, ao = some ⟨blk, off, none⟩ ∧ w.cell? ⟨blk, off + i * 3, none⟩ = some (.int .i64 a) ∧ w.cell? ⟨blk, off + i * 3 + 1, none⟩ = some (.int .u8 (c : Int)) ∧ w.cell? ⟨blk, off + i * 3 + 2, none⟩ = some (.bool (!g)) := by
  rcases h with h | ⟨b, o, h1, h2⟩
  · subst h; simp at hi
  · have hg := fun k hk => flat_get (enc := encL) (k := 3) encL_len (c := k) hi hk
    refine ⟨b, o, h1, ?_, ?_, ?_⟩
    · exact h2 (i * 3 + 0) _ (hg 0 (by omega))
    · rw [Nat.add_assoc]; exact h2 _ _ (hg 1 (by omega))
    · rw [Nat.add_assoc]; exact h2 _ _ (hg 2 (by omega))

/-- What is asked of a test of letters: it may lay blocks of its own. -/
def PredL (g : Nat) (lb : Array Value) (p : Ltr → Bool) (w : World) : Prop :=
  ∀ (W : World) (a : Int) (c : Nat) (gn : Bool), Below w.heap.size w W → Calls Tryd.prog g (#[.agg #[.int .i64 a, .int .u8 (c : Int), .bool (!gn)]] ++ lb) W fun e w' => e = .returned (.bool (p (a, c, gn))) ∧ Below w.heap.size w w'

set_option maxHeartbeats 2000000 in
theorem idxFunc_any (p : Ltr → Bool) (g : Nat) (lb : Array Value) (eg : ∀ args w, (callFunc g args).run Tryd.prog w = .ok (.enter g args) w) (ao : Option Addr) (cap : Nat) (zs : List Ltr) (w : World) (hp : PredL g lb p w) (hbig : zs.length ≤ 1000000) (hin : LtrsIn w ao zs) :
    Calls Tryd.prog 124 #[.slice ao zs.length cap, .func (.func g) #[] lb] w fun e w' => ∃ r : Int, e = .returned (.int .i64 r) ∧ Aside (IdxIs p zs r ∧ Below w.heap.size w w') := by
  have HP : Aside (PredL g lb p w) := hp
  have HI : Aside (LtrsIn w ao zs) := hin
  clear hp hin
  go_enter Tryd.func124, Tryd.ntmps124
  go_wp2
  go_loopg [5, 8] zs.length (fun kx _ s8 wr => ∃ (k : Nat), s8 = .int .i64 (k : Int) ∧ k ≤ zs.length ∧ zs.length - k ≤ kx ∧ Aside (Below w.heap.size w wr ∧ ∀ j l, j < k → zs[j]? = some l → p l = false))
  case atStart => exact ⟨0, rfl, Nat.zero_le _, Nat.le_refl _, ⟨Below.refl _ w, fun j l hj => by omega⟩⟩
  case round =>
    obtain ⟨k, rfl, hk, hkx, A⟩ := hrel
    by_cases hlt : k < zs.length
    · have hltz : decide ((k : Int) < (zs.length : Int)) = true := by simp; omega
      have ek : ((k : Int)).toNat = k := by omega
      have pk : (0 : Int) ≤ (k : Int) := by omega
      have bk : (k : Int) < (zs.length : Int) := by omega
      obtain ⟨⟨a, c, gn⟩, hl⟩ : ∃ l, Aside (zs[k]? = some l) := ⟨zs[k], List.getElem?_eq_getElem hlt⟩
      obtain ⟨blk, off, rfl, c0, c1, c2⟩ := (HI.out.later A.out.1).at hl.out
      have hcall := HP.out wr a c gn A.out.1
      cases hq : p (a, c, gn) with
      | true =>
        rw [hq] at hcall
        have HQ := Lib.hid hq
        clear hq
        go_wp2_with (go_at_fn g; refine hcall.mono ?_; rintro e w' ⟨rfl, hb'⟩)
        go_ret
        exact ⟨_, rfl, .inr ⟨k, _, rfl, hl.out, HQ.out, A.out.2⟩, hb'⟩
      | false =>
        rw [hq] at hcall
        have HQ := Lib.hid hq
        clear hq
        go_wp2_with (go_at_fn g; refine hcall.mono ?_; rintro e w' ⟨rfl, hb'⟩)
        go_roundg (zs.length - (k + 1))
        case measure => omega
        case rel =>
          refine ⟨k + 1, by go_num, by omega, Nat.le_refl _, ⟨hb', fun j l hj e => ?_⟩⟩
          rcases Nat.lt_or_ge j k with h | h
          · exact A.out.2 j l h e
          · obtain rfl : j = k := by omega
            rw [hl.out] at e
            cases e
            exact HQ.out
    · have hltz : decide ((k : Int) < (zs.length : Int)) = false := by simp; omega
      go_wp2
      go_ret
      refine ⟨_, rfl, .inl ⟨rfl, fun l hl => ?_⟩, A.out.1⟩
      obtain ⟨j, hj, rfl⟩ := List.getElem_of_mem hl
      exact A.out.2 j _ (by omega) (List.getElem?_eq_getElem hj)

/-- The test of find: this id. -/
theorem find1_is (id : Int) (B : Nat) (w : World) (hB : B < w.heap.size) (hc : w.cell? ⟨B, 0, none⟩ = some (.int .i64 id)) : PredL 125 #[.pointer (some ⟨B, 0, none⟩)] (fun l => decide (l.1 = id)) w := fun W a c gn hb => by
  have hc' : W.cell? ⟨B, 0, none⟩ = some (.int .i64 id) := (hb.cell (p := ⟨B, 0, none⟩) hB).trans hc
  have hBW : B < W.heap.size := Nat.lt_of_lt_of_le hB hb.size
  have hne : B ≠ W.heap.size := by omega
  clear hc
  show Calls Tryd.prog 125 #[.agg #[.int .i64 a, .int .u8 (c : Int), .bool (!gn)], .pointer (some ⟨B, 0, none⟩)] W _
  go_enter Tryd.func125, Tryd.ntmps125
  go_wp2
  all_goals (go_ret; exact ⟨by simp [BEq.beq], hb.alloc hb.size _⟩)
/-- The test of pass: a lesser id. -/
theorem pass1_is (id : Int) (B : Nat) (w : World) (hB : B < w.heap.size) (hc : w.cell? ⟨B, 0, none⟩ = some (.int .i64 id)) : PredL 128 #[.pointer (some ⟨B, 0, none⟩)] (fun l => decide (l.1 < id)) w := fun W a c gn hb => by
  have hc' : W.cell? ⟨B, 0, none⟩ = some (.int .i64 id) := (hb.cell (p := ⟨B, 0, none⟩) hB).trans hc
  have hBW : B < W.heap.size := Nat.lt_of_lt_of_le hB hb.size
  have hne : B ≠ W.heap.size := by omega
  clear hc
  show Calls Tryd.prog 128 #[.agg #[.int .i64 a, .int .u8 (c : Int), .bool (!gn)], .pointer (some ⟨B, 0, none⟩)] W _
  go_enter Tryd.func128, Tryd.ntmps128
  go_wp2
  all_goals (go_ret; exact ⟨rfl, hb.alloc hb.size _⟩)

/-- A line in its blocks. -/
structure LineAt (base : Nat) (w : World) (p : Nat) (v : Value) (L : List Ltr) : Prop where
  cell : w.heap[p]? = some (.cells #[v] 151 (0, 0))
  row : w.ownsRow base 155 3 v L.length (flat encL L)
  low : p < base
  nodup : (L.map (·.1)).Nodup
  pos : ∀ l ∈ L, l.1 ≠ 0
  small : ∀ l ∈ L, l.2.1 < 256
theorem LineAt.c0 {base : Nat} {w : World} {p : Nat} {v : Value} {L : List Ltr} (h : LineAt base w p v L) : w.cell? ⟨p, 0, none⟩ = some v := by simp [World.cell?, h.cell]
theorem LineAt.fz {base : Nat} {w : World} {p : Nat} {v : Value} {L : List Ltr} (h : LineAt base w p v L) : w.frozen? ⟨p, 0, none⟩ = false := by simp [World.frozen?, h.cell]
theorem LineAt.lt {base : Nat} {w : World} {p : Nat} {v : Value} {L : List Ltr} (h : LineAt base w p v L) : p < w.heap.size := (Array.getElem?_eq_some_iff.1 h.cell).1
theorem ownsSame {w w' : World} {base n : Nat} {e : TypeId} {k : Nat} {v : Value} {xs : List Value} (h : w.ownsRow base e k v n xs) (hs : ∀ g, v.ownBlock = some g → w'.heap[g]? = w.heap[g]?) : w'.ownsRow base e k v n xs := by
  refine ⟨h.1, ?_⟩
  rcases h.2 with h0 | ⟨g, cap, cur, rfl, h1, hg, h2⟩
  · exact .inl h0
  · exact .inr ⟨g, cap, cur, rfl, h1, (hs g rfl).trans hg, h2⟩
theorem LineAt.same {base : Nat} {w w' : World} {p : Nat} {v : Value} {L : List Ltr} (h : LineAt base w p v L) (h1 : w'.heap[p]? = w.heap[p]?) (h2 : ∀ g, v.ownBlock = some g → w'.heap[g]? = w.heap[g]?) : LineAt base w' p v L :=
  ⟨h1.trans h.cell, ownsSame h.row h2, h.low, h.nodup, h.pos, h.small⟩
theorem LineAt.later {base : Nat} {w w' : World} {p : Nat} {v : Value} {L : List Ltr} (h : LineAt base w p v L) (hb : Below w.heap.size w w') : LineAt base w' p v L :=
  h.same (hb.block _ h.lt) (fun g hg => hb.block g (h.row.lt g hg).2)
theorem rowShape {w : World} {base n k : Nat} {v : Value} {e : TypeId} {xs : List Value} (h : w.ownsRow base e k v n xs) : ∃ ao cap, v = .slice ao n cap := by
  rcases h.2 with ⟨h1, h2⟩ | ⟨g, cap, cur, rfl, _⟩
  · subst h2; exact ⟨_, _, h1⟩
  · exact ⟨_, _, rfl⟩
theorem rowIn {w : World} {base : Nat} {ao : Option Addr} {cap : Nat} {L : List Ltr} (h : w.ownsRow base 155 3 (.slice ao L.length cap) L.length (flat encL L)) : LtrsIn w ao L := by
  have h' := h
  rcases h.2 with ⟨h1, h2⟩ | ⟨g, cap', cur, hv, _⟩
  · exact .inl (List.length_eq_zero_iff.1 h2)
  · cases hv
    refine .inr ⟨g, 0, rfl, fun j u hj => ?_⟩
    have hl : j < (flat encL L).length := (List.getElem?_eq_some_iff.1 hj).1
    rw [flat_len encL_len] at hl
    rw [Nat.zero_add, h'.cellAt j hl, hj]
theorem lineNew (w : World) : Calls Tryd.prog 63 #[] w fun e w' => e = .returned (.pointer (some ⟨w.heap.size, 0, none⟩)) ∧ w' = w.alloc (.cells #[.slice none 0 0] 151) := by
  go_enter Tryd.func63, Tryd.ntmps63
  go_wp2
  go_ret
  exact ⟨rfl, rfl⟩
theorem lineAt_new (w : World) (base : Nat) (hb : w.heap.size < base) : LineAt base (w.alloc (.cells #[.slice none 0 0] 151)) w.heap.size (.slice none 0 0) [] :=
  ⟨heap_alloc_new w _, World.ownsRow_nil _ _ _ _, hb, by simp, fun l hl => by simp at hl, fun l hl => by simp at hl⟩
theorem new_line (w : World) : Calls Tryd.prog 63 #[] w fun e w' => e = .returned (.pointer (some ⟨w.heap.size, 0, none⟩)) ∧ w'.heap.size = w.heap.size + 1 ∧ (∀ base, w.heap.size < base → LineAt base w' w.heap.size (.slice none 0 0) []) ∧ Below w.heap.size w w' := by
  refine (lineNew w).mono ?_
  rintro e w' ⟨rfl, rfl⟩
  exact ⟨rfl, by simp, fun base hb => lineAt_new w base hb, (Below.refl _ w).alloc (Nat.le_refl _) _⟩

set_option maxHeartbeats 1000000 in
theorem find_any (w : World) (base p : Nat) (v : Value) (L : List Ltr) (id : Int) (h : LineAt base w p v L) (hL : L.length ≤ 1000) :
    Calls Tryd.prog 96 #[.pointer (some ⟨p, 0, none⟩), .int .i64 id] w fun e w' => e = .returned (.int .i64 (findI id L)) ∧ Below w.heap.size w w' := by
  obtain ⟨ao, cap, rfl⟩ := rowShape h.row
  have eg : ∀ args w, (callFunc 125 args).run Tryd.prog w = .ok (.enter 125 args) w := enters_of Tryd.func125 (by kernel_rfl) rfl
  have hbx : Below w.heap.size w (w.alloc (.cells #[.int .i64 id] 3)) := (Below.refl _ w).alloc (Nat.le_refl _) _
  have hc := idxFunc_any (fun l => decide (l.1 = id)) 125 #[.pointer (some ⟨w.heap.size, 0, none⟩)] eg ao cap L (w.alloc (.cells #[.int .i64 id] 3)) (find1_is id w.heap.size _ (by simp) (by simp [go_sem])) (by omega) ((rowIn h.row).later hbx)
  have c0 := h.c0
  have hpl := h.lt
  have HB := Lib.hid hbx
  clear h eg hbx
  go_enter Tryd.func96, Tryd.ntmps96
  go_wp2_with fail
  refine hc.mono ?_
  rintro e w1 ⟨r, rfl, hr⟩
  go_wp2
  go_ret
  exact ⟨by rw [findI_is hr.out.1]; rfl, HB.out.trans (hr.out.2.mono (by simp))⟩

set_option maxHeartbeats 2000000 in
theorem pass_any (w : World) (base p k : Nat) (v : Value) (L : List Ltr) (id : Int) (h : LineAt base w p v L) (hL : L.length ≤ 1000) (hk : k ≤ L.length) (hn : id ∉ L.map (·.1)) :
    Calls Tryd.prog 98 #[.pointer (some ⟨p, 0, none⟩), .int .i64 (k : Int), .int .i64 id] w fun e w' => e = .returned (.int .i64 ((k + skipN id (L.drop k) : Nat) : Int)) ∧ Below w.heap.size w w' := by
  have HN : Aside (id ∉ (L.drop k).map (·.1)) := fun hm => hn (by
    obtain ⟨l, hl, e⟩ := List.mem_map.1 hm
    exact List.mem_map.2 ⟨l, List.mem_of_mem_drop hl, e⟩)
  have HS : Aside (skipN id (L.drop k) ≤ L.length - k) := by have := skipN_le id (L.drop k); rwa [List.length_drop] at this
  obtain ⟨ao, cap, rfl⟩ := rowShape h.row
  have hLc : L.length ≤ cap := by
    rcases h.row.2 with ⟨h1, h2⟩ | ⟨g, cap', cur, hv, _, _, h3, _⟩
    · omega
    · cases hv; exact h3
  have eg : ∀ args w, (callFunc 128 args).run Tryd.prog w = .ok (.enter 128 args) w := enters_of Tryd.func128 (by kernel_rfl) rfl
  have hbx : Below w.heap.size w (w.alloc (.cells #[.int .i64 id] 3)) := (Below.refl _ w).alloc (Nat.le_refl _) _
  have hdl : (L.drop k).length = L.length - k := List.length_drop
  have hc : ∀ ap, LtrsIn w ap (L.drop k) → Calls Tryd.prog 124 #[.slice ap (L.length - k) (cap - k), .func (.func 128) #[] #[.pointer (some ⟨w.heap.size, 0, none⟩)]] (w.alloc (.cells #[.int .i64 id] 3)) _ := fun ap hap => by
    have := idxFunc_any (fun l => decide (l.1 < id)) 128 #[.pointer (some ⟨w.heap.size, 0, none⟩)] eg ap (cap - k) (L.drop k) (w.alloc (.cells #[.int .i64 id] 3)) (pass1_is id w.heap.size _ (by simp) (by simp [go_sem])) (by rw [hdl]; omega) (hap.later hbx)
    rw [hdl] at this
    exact this
  have c0 := h.c0
  have hpl := h.lt
  have HI : Aside (LtrsIn w ao L) := rowIn h.row
  have HB := Lib.hid hbx
  clear h eg hbx
  obtain ⟨q, hq⟩ : ∃ q, Aside (skipN id (L.drop k) = q) := ⟨_, rfl⟩
  rw [hq.out] at HS ⊢
  have hq2 : q ≤ L.length - k := HS.out
  have d0 : decide ((q : Int) < 0) = false := by simp
  have e0 : IntKind.i64.wrap ((k : Int) + (q : Int)) = (k : Int) + (q : Int) := by rw [IntKind.wrap_i64]; omega
  have HD := Lib.hid hdl
  clear hdl HS
  go_enter Tryd.func98, Tryd.ntmps98
  go_wp2_with fail
  · have hd0 : L.drop k = [] := List.drop_of_length_le (by omega)
    have hc' := hc ao (.inl hd0)
    rw [show cap - k = 0 by omega] at hc'
    have hf : L.length = k + q := by rw [← hq.out, hd0]; simp only [skipN]; omega
    have HF := Lib.hid hf
    have hck : cap = k := by assumption
    have c0' : w.cell? ⟨p, 0, none⟩ = some (Value.slice ao L.length k) := by rw [← hck]; exact c0
    refine hc'.mono ?_
    rintro e w1 ⟨r, rfl, hr⟩
    have hr1 : r = -1 := by
      rcases hr.out.1 with ⟨h, _⟩ | ⟨i, l, _, hl, _⟩
      · exact h
      · rw [hd0] at hl; simp at hl
    subst hr1
    have hB1 : Below w.heap.size w w1 := HB.out.trans (hr.out.2.mono (by simp))
    have c1 := cellStays hB1 c0'
    have H1 := Lib.hid hB1
    clear hB1 hr hc' hf hd0 hck c0 c0' hc hLc
    go_wp2
    go_ret
    exact ⟨by rw [HF.out]; rfl, H1.out⟩
  · have hLp : LtrsIn w (ao.map (fun x => x.add (k * 3))) (L.drop k) := by
      rcases HI.out with h0 | ⟨b, o, rfl, hcell⟩
      · subst h0; exact .inl (by simp)
      · refine .inr ⟨b, o + k * 3, by simp [Addr.add], fun j u hj => ?_⟩
        rw [← flat_drop encL_len L k hk, List.getElem?_drop] at hj
        rw [Nat.add_assoc]
        exact hcell _ u hj
    refine (hc _ hLp).mono ?_
    clear hc HI hLp
    rintro e w1 ⟨r, rfl, hr⟩
    have hB1 : Below w.heap.size w w1 := HB.out.trans (hr.out.2.mono (by simp))
    have c1 := cellStays hB1 c0
    have H1 := Lib.hid hB1
    rcases skip_is HN.out hr.out.1 with ⟨rfl, hs⟩ | hs
    · have hf : L.length = k + q := by rw [hq.out, HD.out] at hs; omega
      have HF := Lib.hid hf
      clear hB1 hr hs hf
      go_wp2
      go_ret
      exact ⟨by rw [HF.out]; rfl, H1.out⟩
    · rw [hq.out] at hs
      subst hs
      clear hB1 hr
      go_wp2
      go_ret
      exact ⟨by simp, H1.out⟩
end Go.Proofs.YtkilnfooelihaaaDoor
