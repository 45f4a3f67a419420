/- What the law TreeTurned keeps of its operations: right moves of stamps that differ. -/
import Derived.Test.YtnfhbmgkiknaaaaDoorTurnParts
import Derived.Test.YtnfhbmgkiknaaaaDoorTreePick
import Derived.Test.YtnfhbmgkiknaaaaDoorRefOp
namespace Go.Proofs.YtnfhbmgkiknaaaaDoor
open Go.RowKit Go.Lib Go.Sort Go.Maps

theorem below_drewN {B : Nat} {w w' : World} (h : Below B w w') (q : Nat) : Below B w (w'.drewN q) := ⟨h.os, h.tape, h.output, h.size, h.block⟩

theorem new_at (w : World) : Calls Tryd.prog 51 #[] w fun e w' => e = .returned (.pointer (some ⟨w.heap.size + 1, 0, none⟩)) ∧ w'.heap.size = w.heap.size + 2 ∧ (∀ base, TreeAt base w' (w.heap.size + 1) w.heap.size (.slice none 0 0) []) ∧ Below w.heap.size w w' := by
  refine (treeNew w).mono ?_
  rintro e w' ⟨rfl, rfl⟩
  exact ⟨rfl, by simp, treeAt_new w, ((Below.refl _ w).alloc (Nat.le_refl _) _).alloc (by simp) _⟩

def stX (x : OpX) : Int × Int := (x.1, x.2.1)
def movX (x : OpX) : Mov := (stX x, (x.2.2.2.2.1, x.2.2.2.2.2.1, x.2.2.2.2.2.2.1))
def errX (x : OpX) : Nat := opE x.1 x.2.1 x.2.2.1 x.2.2.2.1 x.2.2.2.2.1 x.2.2.2.2.2.1 x.2.2.2.2.2.2.1.data.toList x.2.2.2.2.2.2.2.data.toList
/-- A right move. -/
def GoodX (x : OpX) : Prop := errX x = 0 ∧ x.2.2.2.1 = 109
structure OwnSet (ys : List OpX) : Prop where
  good : ∀ y ∈ ys, GoodX y ∧ Short y
  apart : Apart stX ys
theorem ownSet_nil : OwnSet [] := ⟨fun y hy => by simp at hy, apart_nil _⟩
theorem OwnSet.snoc {ys : List OpX} {x : OpX} (h : OwnSet ys) (hx : GoodX x) (hs : Short x) (hn : ∀ j, j < ys.length → stX ys[j]! ≠ stX x) : OwnSet (ys ++ [x]) := by
  refine ⟨fun y hy => ?_, apart_snoc h.apart fun y hy => ?_⟩
  · rcases List.mem_append.1 hy with h' | h'
    · exact h.good y h'
    · obtain rfl : y = x := by simpa using h'
      exact ⟨hx, hs⟩
  · obtain ⟨j, hj, rfl⟩ := List.getElem_of_mem hy
    have := hn j hj
    rwa [getElem!_pos ys j hj] at this
/-- Whole numbers behind an address, if there are any. -/
def IntsIn (w : World) (aq : Option Addr) (n : Nat) : Prop := n = 0 ∨ ∃ blk off, aq = some ⟨blk, off, none⟩ ∧ ∀ j, j < n → ∃ z : Int, w.cell? ⟨blk, off + j, none⟩ = some (.int .i64 z)
theorem IntsIn.later {w w' : World} {aq : Option Addr} {n : Nat} (h : IntsIn w aq n) (hb : Below w.heap.size w w') : IntsIn w' aq n := by
  rcases h with h | ⟨g, o, h1, h2⟩
  · exact .inl h
  · exact .inr ⟨g, o, h1, fun j hj => (h2 j hj).imp fun z hz => cellKept hb hz⟩
theorem row_some {w : World} {base n k : Nat} {ao : Option Addr} {cap : Nat} {e : TypeId} {xs : List Value} (h : w.ownsRow base e k (.slice ao n cap) n xs) (hn : 0 < n) : ∃ g, ao = some ⟨g, 0, none⟩ := by
  rcases h.2 with ⟨h1, h2⟩ | ⟨g, cap', cur, h1, _⟩
  · omega
  · cases h1; exact ⟨g, rfl⟩
theorem own_cells {w : World} {base g cap : Nat} {ys : List OpX} (h : w.ownsRow base 77 8 (.slice (some ⟨g, 0, none⟩) ys.length cap) ys.length (cellsOf ys)) : ∀ j u, (cellsOf ys)[j]? = some u → w.cell? ⟨g, 0 + j, none⟩ = some u := fun j u hj => by
  have hl : j < (cellsOf ys).length := (List.getElem?_eq_some_iff.1 hj).1
  rw [cellsOf_len] at hl
  rw [Nat.zero_add, h.cellAt j hl, hj]
end Go.Proofs.YtnfhbmgkiknaaaaDoor
