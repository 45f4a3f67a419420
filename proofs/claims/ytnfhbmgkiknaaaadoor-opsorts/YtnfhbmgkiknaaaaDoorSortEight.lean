/- Cells of an operation, the reference's IsLess, and SortedOf of none, over the translation's bodies. -/
import Derived.Test.YtnfhbmgkiknaaaaDoorSortIns
import Derived.BigQuiet
namespace Go.Proofs.YtnfhbmgkiknaaaaDoor
open Go.Shelf Go.RowKit Go.Lib Go.Sort

theorem isLess_grow (t b t' b' : Int) (w : World) :
    Calls Tryd.prog 19 #[.agg #[.int .i64 t, .int .i64 b], .agg #[.int .i64 t', .int .i64 b']] w fun e w' => e = .returned (.bool (lessB t b t' b')) ∧ ∃ q os, w' = grow (w.drewN q) os := by
  unfold lessB
  by_cases h : t = t'
  · have hl : decide (t < t') = false := by simp; omega
    have hd : (t == t') = true := by simp [h]
    rw [if_pos h]
    clear h
    go_enter Tryd.func19, Tryd.ntmps19
    go_wp2
    go_ret
    exact ⟨rfl, 0, _, by rw [alloc_eq_grow, alloc_eq_grow, grow_grow]; rfl⟩
  · by_cases hlt : t < t'
    · have hl : decide (t < t') = true := by simp; omega
      rw [if_neg h, hl]
      clear h
      go_enter Tryd.func19, Tryd.ntmps19
      go_wp2
      go_ret
      exact ⟨rfl, 0, _, by rw [alloc_eq_grow, alloc_eq_grow, grow_grow]; rfl⟩
    · have hl : decide (t < t') = false := by simp; omega
      have hd : (t == t') = false := by simp [h]
      rw [if_neg h, hl]
      clear h
      go_enter Tryd.func19, Tryd.ntmps19
      go_wp2
      go_ret
      exact ⟨rfl, 0, _, by rw [alloc_eq_grow, alloc_eq_grow, grow_grow]; rfl⟩

theorem isLess_is (t b t' b' : Int) (z : Bool) (w : World) (hz : lessB t b t' b' = z) :
    Calls Tryd.prog 19 #[.agg #[.int .i64 t, .int .i64 b], .agg #[.int .i64 t', .int .i64 b']] w fun e w' => e = .returned (.bool z) ∧ ∃ q os, w' = grow (w.drewN q) os := by rw [← hz]; exact isLess_grow t b t' b' w

theorem isLess_b (t b t' b' : Int) (z : Bool) (w : World) (hz : lessB t b t' b' = z) :
    Calls Tryd.prog 19 #[.agg #[.int .i64 t, .int .i64 b], .agg #[.int .i64 t', .int .i64 b']] w fun e w' => e = .returned (.bool z) ∧ Below w.heap.size w w' :=
  (isLess_is t b t' b' z w hz).mono fun _ _ h => ⟨h.1, below_grows h.2⟩

/-- Two stamps in their cells. -/
def Four (u : World) (g1 p1 g2 p2 : Nat) (t b t' b' : Int) (w' : World) : Prop := w'.cell? ⟨g1, p1, none⟩ = some (.int .i64 t) ∧ w'.cell? ⟨g1, p1 + 1, none⟩ = some (.int .i64 b) ∧ w'.cell? ⟨g2, p2, none⟩ = some (.int .i64 t') ∧ w'.cell? ⟨g2, p2 + 1, none⟩ = some (.int .i64 b') ∧ Below u.heap.size u w'
theorem Four.later {u w w' : World} {g1 p1 g2 p2 : Nat} {t b t' b' : Int} (h : Four u g1 p1 g2 p2 t b t' b' w) (hb : Below w.heap.size w w') : Four u g1 p1 g2 p2 t b t' b' w' :=
  ⟨cellKept hb h.1, cellKept hb h.2.1, cellKept hb h.2.2.1, cellKept hb h.2.2.2.1, h.2.2.2.2.trans (hb.mono h.2.2.2.2.size)⟩

/-- What the sorted ones lie in: nothing yet, or a row with room for them. -/
def OutAt (w : World) (v : Value) (ys : List OpX) : Prop :=
  (v = .slice none 0 0 ∧ ys = []) ∨ ∃ g o c, v = .slice (some ⟨g, o, none⟩) ys.length c ∧ ys.length ≤ c ∧ ∀ j u, (cellsOf ys)[j]? = some u → w.cell? ⟨g, o + j, none⟩ = some u
theorem OutAt.ops {w : World} {v : Value} {ys : List OpX} (h : OutAt w v ys) : OpsAt w v ys := by
  rcases h with h | ⟨g, o, c, h1, _, h2⟩
  · exact .inl h
  · exact .inr ⟨g, o, c, h1, h2⟩
theorem ownsOut {w : World} {base n : Nat} {v : Value} {ys : List OpX} {cs : List Value} (h : w.ownsRow base 77 8 v n cs) (hn : n = ys.length) (hc : cs = cellsOf ys) : OutAt w v ys := by
  subst hn hc
  have h' := h
  rcases h.2 with ⟨h1, h2⟩ | ⟨g, cap, cur, rfl, _, _, hr, _⟩
  · exact .inl ⟨h1, List.length_eq_zero_iff.1 h2⟩
  · refine .inr ⟨g, 0, cap, rfl, hr, fun j u hj => ?_⟩
    have hl : j < (cellsOf ys).length := (List.getElem?_eq_some_iff.1 hj).1
    rw [cellsOf_len] at hl
    rw [Nat.zero_add, h'.cellAt j hl, hj]
theorem cellsOf_ins (ys : List OpX) (k : Nat) (x : OpX) : cellsOf (ys.take k) ++ encX x ++ cellsOf (ys.drop k) = cellsOf (ys.take k ++ x :: ys.drop k) := by
  rw [cellsOf_app, cellsOf_cons, List.append_assoc]
theorem take_cells {w : World} {g o : Nat} {ys : List OpX} (k : Nat) (h : ∀ j u, (cellsOf ys)[j]? = some u → w.cell? ⟨g, o + j, none⟩ = some u) (j : Nat) (u : Value) (hj : (cellsOf (ys.take k))[j]? = some u) : w.cell? ((⟨g, o, none⟩ : Addr).add j) = some u := by
  rw [Addr.add_lit]
  refine h j u ?_
  have e : cellsOf ys = cellsOf (ys.take k) ++ cellsOf (ys.drop k) := by rw [← cellsOf_app, List.take_append_drop]
  rw [e, List.getElem?_append_left (List.getElem?_eq_some_iff.1 hj).1]
  exact hj
theorem drop_cells {w : World} {g o : Nat} {ys : List OpX} (k : Nat) (hk : k ≤ ys.length) (h : ∀ j u, (cellsOf ys)[j]? = some u → w.cell? ⟨g, o + j, none⟩ = some u) (j : Nat) (u : Value) (hj : (cellsOf (ys.drop k))[j]? = some u) : w.cell? ((⟨g, o + k * 8, none⟩ : Addr).add j) = some u := by
  rw [Addr.add_lit, Nat.add_assoc]
  refine h _ u ?_
  have e : cellsOf ys = cellsOf (ys.take k) ++ cellsOf (ys.drop k) := by rw [← cellsOf_app, List.take_append_drop]
  have hl : (cellsOf (ys.take k)).length = k * 8 := by rw [cellsOf_len, List.length_take]; congr 1; omega
  rw [e, List.getElem?_append_right (by omega), hl, Nat.add_sub_cancel_left]
  exact hj
theorem cell_grows {w : World} {g p : Nat} {v : Value} (h : w.cell? ⟨g, p, none⟩ = some v) (q : Nat) (os : Array Obj) : (grow (w.drewN q) os).cell? ⟨g, p, none⟩ = some v :=
  cellKept (below_grow ⟨rfl, rfl, rfl, Nat.le_refl _, fun _ _ => rfl⟩ (Nat.le_refl _)) h

set_option maxHeartbeats 4000000 in
theorem sortedOf_zero (ao : Option Addr) (cap : Nat) (w : World) :
    Calls Tryd.prog 47 #[.slice ao 0 cap] w fun e w' => e = .returned (.slice none 0 0) ∧ w' = w := by
  go_enter Tryd.func47, Tryd.ntmps47
  go_wp2
  refine wp_loop_rounds 1 ?_
  rw [rounds_succ]
  go_wp2
  go_ret
  exact ⟨rfl, rfl⟩
end Go.Proofs.YtnfhbmgkiknaaaaDoor
