/- Operations in a row of cells; slices.Clone of them, over the translation's bodies. -/
import Derived.Test.YtnfhbmgkiknaaaaDoorSortFn
import Derived.Shelf.SlicesE.Clone
import Derived.Laws.OwnMore
namespace Go.Proofs.YtnfhbmgkiknaaaaDoor
open Go.Shelf Go.RowKit Go.Lib Go.Sort

def cloneRen : Ren := ⟨fun | 41 => 73 | n => n, fun | 4 => 4 | 22 => 71 | 23 => 77 | n => n, fun n => n⟩
theorem clone_lays : SlLaysE0.n41 Tryd.prog cloneRen where
  mixed := by kernel_rfl
  f41 := ⟨ "slices.Clone[[]concordat/api.Op,concordat/api.Op]", by kernel_rfl, Tryd.func73.trans (congrArg some (by kernel_rfl))⟩
  t4 := Tryd.underlying4
  a4 := Tryd.isAgg4
  z4 := Tryd.sizeOf4
  v4 := Tryd.zeroValue4
  t22 := Tryd.underlying71
  a22 := Tryd.isAgg71
  z22 := Tryd.sizeOf71
  v22 := Tryd.zeroValue71

theorem clone_some (w : World) (b off c : Nat) (xs : List OpX) (hn : xs.length ≤ 1000) (hc : ∀ j u, (cellsOf xs)[j]? = some u → w.cell? ⟨b, off + j, none⟩ = some u) :
    Calls Tryd.prog 73 #[.slice (some ⟨b, off, none⟩) xs.length c] w fun e w' => ∃ v', e = .returned v' ∧ w'.ownsRow w.heap.size 77 8 v' xs.length (cellsOf xs) ∧ v' ≠ .slice none 0 0 ∧ Below w.heap.size w w' := by
  obtain ⟨i0, hi, hz0, hz1, hz2⟩ := info_parts infoOp
  exact AnyE.slices_Clone clone_lays i0 _ 8 80 hi hz0 hz1 hz2 rfl (by omega) Tryd.sizeOf77 b off xs.length c (cellsOf xs) w (cellsOf_len xs) (by simp only [maxLen]; omega) (by omega) hc (cellsOf_one xs)
theorem clone_nil (w : World) : Calls Tryd.prog 73 #[.slice none 0 0] w fun e w' => e = .returned (.slice none 0 0) ∧ w' = w :=
  AnyE.slices_Clone_nil clone_lays 0 0 w

/-- Each with the place at which it stands. -/
def tagged (xs : List OpX) : Array (OpX × Nat) := xs.zipIdx.toArray
theorem tagged_size (xs : List OpX) : (tagged xs).size = xs.length := by simp [tagged]
theorem tagged_at (xs : List OpX) (i : Nat) (hi : i < xs.length) : (tagged xs)[i]! = (xs[i]!, i) := by
  rw [getElem!_pos _ i (by rw [tagged_size]; exact hi), getElem!_pos xs i hi]
  simp [tagged]

theorem row_of {w : World} {base n g cap : Nat} {xs : List OpX} (hn : n = xs.length) (h : w.ownsRow base 77 8 (.slice (some ⟨g, 0, none⟩) n cap) n (cellsOf xs)) : RowK encT 8 w g 0 (tagged xs) where
  hk := encT_len
  h1 := encT_one
  hblk := (h.lt g rfl).2
  hH := fun j hj => by
    rw [size_flatK, tagged_size] at hj
    have h1 : j / 8 < xs.length := by omega
    have h2 : j / 8 * 8 + j % 8 = j := by omega
    refine ⟨?_, by rw [Nat.zero_add]; exact h.frozenAt j⟩
    rw [Nat.zero_add, h.cellAt j (by omega), get_flatK _ _ _ _ (by rw [tagged_size]; exact hj), tagged_at xs _ h1]
    have := cellsOf_get xs (j / 8) (j % 8) h1 (by omega)
    rw [h2] at this
    exact this
end Go.Proofs.YtnfhbmgkiknaaaaDoor
