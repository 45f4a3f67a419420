/- The reference's marks in their blocks: a list in order. -/
import Derived.Test.YtfpmmgboodcfiaaDoorRowAt
import Derived.Test.YtfpmmgboodcfiaaDoorCellList
import Derived.Test.YtfpmmgboodcfiaaDoorProg
import Derived.KernelRfl
import Derived.Deep.LoopGhost
import Derived.Laws.Rows
namespace Go.Proofs.YtfpmmgboodcfiaaDoor
open Go Go.RowKit

def encQ (m : CKey × CMark) : List Value := [.int .i64 m.1.1, .string m.1.2, .string m.2.1, .int .i64 m.2.2.1, .int .i64 m.2.2.2]
theorem encQ_len (m : CKey × CMark) : (encQ m).length = 5 := rfl
theorem encQ_one (m : CKey × CMark) : ∀ v ∈ encQ m, v.oneCell' = true := by
  intro v hv
  simp [encQ] at hv
  rcases hv with rfl | rfl | rfl | rfl | rfl <;> rfl
theorem infoMk : (Tryd.prog.info? 48).map (fun i => (i.zero, i.size, i.bytes)) = some (some (.agg #[.int .i64 0, .string ⟨#[]⟩, .string ⟨#[]⟩, .int .i64 0, .int .i64 0]), 5, 56) := by kernel_rfl
/-- A mark of a row, in its cells. -/
theorem InRow.mark {w : World} {ao : Option Addr} {zs : List (CKey × CMark)} (h : InRow encQ w ao zs) {i : Nat} {a t b : Int} {s c : ByteArray} (hi : zs[i]? = some ((a, s), (c, (t, b)))) : ∃ blk off, ao = some ⟨blk, off, none⟩ ∧ w.cell? ⟨blk, off + i * 5, none⟩ = some (.int .i64 a) ∧ w.cell? ⟨blk, off + i * 5 + 1, none⟩ = some (.string s) ∧ w.cell? ⟨blk, off + i * 5 + 2, none⟩ = some (.string c) ∧ w.cell? ⟨blk, off + i * 5 + 3, none⟩ = some (.int .i64 t) ∧ w.cell? ⟨blk, off + i * 5 + 4, none⟩ = some (.int .i64 b) := by
  obtain ⟨blk, off, h1, h2⟩ := h.get encQ_len hi
  exact ⟨blk, off, h1, h2 0 _ rfl, h2 1 _ rfl, h2 2 _ rfl, h2 3 _ rfl, h2 4 _ rfl⟩
/-- append of marks that may be none. -/
theorem append_mks {w : World} {base n : Nat} {v : Value} {xs : List Value} (ho : w.ownsRow base 48 5 v n xs) (hn : n ≤ 2000) (hbase : base ≤ w.heap.size) (ap : Option Addr) (c : Nat) (ys : List (CKey × CMark)) (hy : ys.length ≤ 2000) (hap : InRow encQ w ap ys) (hc : ap = none → c = 0) (ty : TypeId) :
    ∃ v' w', (Builtin.append_ #[28, 28] ty #[v, .slice ap ys.length c]).run Tryd.prog w = .ok v' w' ∧ w'.ownsRow base 48 5 v' (n + ys.length) (xs ++ flat encQ ys) ∧ w.grownBy w' v.ownBlock :=
  append_row Tryd.underlying28 infoMk (by omega) (by omega) rfl encQ_len encQ_one ho hn hbase ap c ys hy hap hc ty

/-- Marks of the reference in their blocks. -/
structure MksAt (base : Nat) (w : World) (p : Nat) (v : Value) (L : List (CKey × CMark)) : Prop where
  cell : w.heap[p]? = some (.cells #[v] 30 (0, 0))
  row : w.ownsRow base 48 5 v L.length (flat encQ L)
  low : p < base
theorem MksAt.c0 {base : Nat} {w : World} {p : Nat} {v : Value} {L : List (CKey × CMark)} (h : MksAt base w p v L) : w.cell? ⟨p, 0, none⟩ = some v := by simp [World.cell?, h.cell]
theorem MksAt.fz {base : Nat} {w : World} {p : Nat} {v : Value} {L : List (CKey × CMark)} (h : MksAt base w p v L) : w.frozen? ⟨p, 0, none⟩ = false := by simp [World.frozen?, h.cell]
theorem MksAt.lt {base : Nat} {w : World} {p : Nat} {v : Value} {L : List (CKey × CMark)} (h : MksAt base w p v L) : p < w.heap.size := (Array.getElem?_eq_some_iff.1 h.cell).1
theorem MksAt.ne {base : Nat} {w : World} {p : Nat} {v : Value} {L : List (CKey × CMark)} (h : MksAt base w p v L) : ∀ g, v.ownBlock = some g → g ≠ p ∧ g < w.heap.size ∧ base ≤ g := fun g hg => by
  have h1 := h.row.lt g hg
  have h2 := h.low
  exact ⟨by omega, h1.2, h1.1⟩
theorem MksAt.same {base : Nat} {w w' : World} {p : Nat} {v : Value} {L : List (CKey × CMark)} (h : MksAt base w p v L) (h1 : w'.heap[p]? = w.heap[p]?) (h2 : ∀ g, v.ownBlock = some g → w'.heap[g]? = w.heap[g]?) : MksAt base w' p v L :=
  ⟨h1.trans h.cell, ownsHeld h.row h2, h.low⟩
theorem MksAt.later {base : Nat} {w w' : World} {p : Nat} {v : Value} {L : List (CKey × CMark)} (h : MksAt base w p v L) (hb : Below w.heap.size w w') : MksAt base w' p v L :=
  h.same (hb.block _ h.lt) (fun g hg => hb.block g (h.row.lt g hg).2)
/-- What a mark that is laid in leaves behind: the marks, and what else is as it was. -/
def LaidIn (base : Nat) (w : World) (p : Nat) (v : Value) (L' : List (CKey × CMark)) (w' : World) : Prop :=
  ∃ v', MksAt base w' p v' L' ∧ Keeps (fun b => b = p ∨ some b = v.ownBlock) w w' ∧ (∀ g, v'.ownBlock = some g → v.ownBlock = some g ∨ w.heap.size ≤ g)

/-- The three appends that lay a mark in at a place: what they come to. -/
theorem ins_runs (u : World) (base p k : Nat) (ao : Option Addr) (cap : Nat) (L : List (CKey × CMark)) (a : Int) (s c : ByteArray) (t b : Int) (h : MksAt base u p (.slice ao L.length cap) L) (hbase : base ≤ u.heap.size) (hL : L.length ≤ 900) (hk : k ≤ L.length) :
    ∃ v1 W1 v3 W3, (∃ a1 c1, v1 = Value.slice a1 k c1) ∧ (∃ a3 c3, v3 = Value.slice a3 (k + 1) c3) ∧
      (Builtin.append_ #[28, 28] 28 #[.slice none 0 0, .slice ao k cap]).run Tryd.prog u = .ok v1 W1 ∧
      (Builtin.append_ #[28, 28] 28 #[v1, .slice (some ⟨W1.heap.size, 0, none⟩) 1 1]).run Tryd.prog (W1.alloc (.cells #[.int .i64 a, .string s, .string c, .int .i64 t, .int .i64 b] 48)) = .ok v3 W3 ∧
      Keeps (fun _ => False) u W1 ∧ W3.cell? ⟨p, 0, none⟩ = some (.slice ao L.length cap) ∧
      (InRow encQ W3 (ao.map (fun x => x.add (k * 5))) (L.drop k)) ∧
      ∀ ap c', InRow encQ W3 ap (L.drop k) → (ap = none → c' = 0) → ∃ v4 W4, (∃ a4 n4 c4, v4 = Value.slice a4 n4 c4) ∧ (Builtin.append_ #[28, 28] 28 #[v3, .slice ap (L.length - k) c']).run Tryd.prog W3 = .ok v4 W4 ∧ W4.cell? ⟨p, 0, none⟩ = some (.slice ao L.length cap) ∧ W4.frozen? ⟨p, 0, none⟩ = false ∧
        Aside (MksAt base (W4.setCell ⟨p, 0, none⟩ v4) p v4 (L.take k ++ ((a, s), (c, (t, b))) :: L.drop k) ∧ Keeps (fun b => b = p) u (W4.setCell ⟨p, 0, none⟩ v4) ∧ (∀ g, v4.ownBlock = some g → u.heap.size ≤ g)) := by
  have hnc : ao = none → cap = 0 := by
    rcases h.row.2 with ⟨h1, h2⟩ | ⟨g, cap', cur, hv, _⟩
    · simp only [Value.slice.injEq] at h1
      exact fun _ => h1.2.2
    · cases hv; exact fun e => (by cases e)
  have hlt : ∀ g o, ao = some ⟨g, o, none⟩ → g < u.heap.size := fun g o e => by
    subst e
    rcases h.row.2 with ⟨h1, _⟩ | ⟨g', cap', cur, hv, _⟩
    · simp at h1
    · cases hv
      exact (h.row.lt g rfl).2
  have hIn := rowIn encQ_len h.row
  have l1 : (L.take k).length = k := by rw [List.length_take]; omega
  obtain ⟨v1, W1, r1, o1, g1⟩ := append_mks (w := u) (base := u.heap.size) (n := 0) (v := .slice none 0 0) (xs := []) (World.ownsRow_nil _ _ _ _) (by omega) (by omega) ao cap (L.take k) (by omega) (hIn.part encQ_len k hk).1 hnc 28
  rw [l1] at r1 o1
  have hk1 : Keeps (fun _ => False) u W1 := (keeps_of_grown g1).mono (fun b _ e => by cases e)
  have hs1 := hk1.size
  obtain ⟨W2, hW2⟩ : ∃ W2, W2 = W1.alloc (.cells #[.int .i64 a, .string s, .string c, .int .i64 t, .int .i64 b] 48) := ⟨_, rfl⟩
  have hk2 : Keeps (fun _ => False) W1 W2 := by rw [hW2]; exact (Keeps.refl _ W1).alloc _
  have hs2 : W2.heap.size = W1.heap.size + 1 := by rw [hW2]; simp
  have hx2 : W2.heap[W1.heap.size]? = some (.cells #[.int .i64 a, .string s, .string c, .int .i64 t, .int .i64 b] 48 (0, 0)) := by rw [hW2]; exact heap_alloc_new W1 _
  have hI2 : InRow encQ W2 (some ⟨W1.heap.size, 0, none⟩) [((a, s), (c, (t, b)))] := .inr ⟨_, 0, rfl, fun j x hj => by
    simp only [World.cell?, hx2]
    rw [← hj]
    simp [flat, encQ]⟩
  have o2 : W2.ownsRow u.heap.size 48 5 v1 (0 + k) ([] ++ flat encQ (L.take k)) := ownsHeld o1 (fun g hg => hk2.block g (o1.lt g hg).2 (fun e => e))
  obtain ⟨v3, W3, r3, o3, g3⟩ := append_mks (base := u.heap.size) (by rw [Nat.zero_add] at o2; exact o2) (by omega) (by omega) (some ⟨W1.heap.size, 0, none⟩) 1 [((a, s), (c, (t, b)))] (by simp) hI2 (fun e => by cases e) 28
  have hk3 : Keeps (fun b => some b = v1.ownBlock) W2 W3 := keeps_of_grown g3
  have hs3 := hk3.size
  have hv1 : ∀ b, some b = v1.ownBlock → u.heap.size ≤ b := fun b e => (o1.lt b e.symm).1
  have hI3 : InRow encQ W3 ao L := hIn.kept (fun g o e => by
    have hg := hlt g o e
    rw [hk3.block g (by omega) (fun e' => by have := hv1 g e'; omega), hk2.block g (by omega) (fun e => e), hk1.block g (by omega) (fun e => e)])
  have hp3 : W3.heap[p]? = u.heap[p]? := by
    have hg := h.lt
    rw [hk3.block p (by omega) (fun e' => by have := hv1 p e'; omega), hk2.block p (by omega) (fun e => e), hk1.block p (by omega) (fun e => e)]
  have ld : (L.drop k).length = L.length - k := List.length_drop
  have o3' : W3.ownsRow u.heap.size 48 5 v3 (k + 1) (flat encQ (L.take k ++ [((a, s), (c, (t, b)))])) := by rw [flat_append]; exact o3
  refine ⟨v1, W1, v3, W3, ?_, rowIs o3', r1, by rw [← hW2]; exact r3, hk1, by rw [World.cell?_of_block (a := ⟨p, 0, none⟩) hp3]; exact h.c0, (hI3.part encQ_len k hk).2, fun ap c' hap hc' => ?_⟩
  · obtain ⟨a1, c1, e⟩ := rowIs o1
    exact ⟨a1, c1, by rw [e, Nat.zero_add]⟩
  obtain ⟨v4, W4, r4, o4, g4⟩ := append_mks (base := u.heap.size) o3' (by omega) (by omega) ap c' (L.drop k) (by omega) hap hc' 28
  rw [ld] at r4
  have hk4 : Keeps (fun b => some b = v3.ownBlock) W3 W4 := keeps_of_grown g4
  have hv3 : ∀ b, some b = v3.ownBlock → u.heap.size ≤ b := fun b e => (o3.lt b e.symm).1
  have hg := h.lt
  have hp4 : W4.heap[p]? = u.heap[p]? := (hk4.block p (by omega) (fun e' => by have := hv3 p e'; omega)).trans hp3
  have hc4 : W4.heap[p]? = some (.cells #[.slice ao L.length cap] 30 (0, 0)) := hp4.trans h.cell
  refine ⟨v4, W4, (by obtain ⟨a4, c4, e⟩ := rowIs o4; exact ⟨_, _, _, e⟩), r4, by simp [World.cell?, hc4], by simp [World.frozen?, hc4], ?_, ?_, fun g hg => (o4.lt g hg).1⟩
  · have hks : Keeps (fun b => b = p) W4 (W4.setCell ⟨p, 0, none⟩ v4) := setCells_keeps p [_] 0 W4
    have e1 : flat encQ (L.take k ++ [((a, s), (c, (t, b)))]) ++ flat encQ (L.drop k) = flat encQ (L.take k ++ ((a, s), (c, (t, b))) :: L.drop k) := by rw [← flat_append]; simp
    have e2 : k + 1 + (L.drop k).length = (L.take k ++ ((a, s), (c, (t, b))) :: L.drop k).length := by simp; omega
    rw [e1, e2] at o4
    have o5 : (W4.setCell ⟨p, 0, none⟩ v4).ownsRow base 48 5 v4 (L.take k ++ ((a, s), (c, (t, b))) :: L.drop k).length (flat encQ (L.take k ++ ((a, s), (c, (t, b))) :: L.drop k)) :=
      ownsLow (ownsHeld (w' := W4.setCell ⟨p, 0, none⟩ v4) o4 (fun g hg' => hks.block g (o4.lt g hg').2 (fun e => by have := (o4.lt g hg').1; omega))) hbase
    exact ⟨heap_setCell_same W4 p 0 _ _ _ hc4, o5, h.low⟩
  · refine ((((hk1.mono (fun _ _ e => e.elim)).then hk2 (fun _ _ e => e.elim)).then hk3 (fun b hb e => ?_)).then hk4 (fun b hb e => ?_)).then (setCells_keeps p [v4] 0 W4) (fun b _ e => e)
    · have := hv1 b e; omega
    · have := hv3 b e; omega
end Go.Proofs.YtfpmmgboodcfiaaDoor
