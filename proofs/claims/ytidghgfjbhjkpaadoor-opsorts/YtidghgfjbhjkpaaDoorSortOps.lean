/- Operations in a row of cells; slices.Clone of them, over the translation's bodies. -/
import Derived.Test.YtidghgfjbhjkpaaDoorSortFn
import Derived.Shelf.SlicesE.Clone
import Derived.Laws.OwnMore
namespace Go.Proofs.YtidghgfjbhjkpaaDoor
open Go.Shelf Go.RowKit Go.Lib Go.Sort

def cellsOf (xs : List OpX) : List Value := xs.flatMap encX
theorem cellsOf_cons (x : OpX) (xs : List OpX) : cellsOf (x :: xs) = encX x ++ cellsOf xs := rfl
theorem encX_len (x : OpX) : (encX x).length = 8 := rfl
theorem cellsOf_len : ∀ xs : List OpX, (cellsOf xs).length = xs.length * 8
  | [] => rfl
  | x :: xs => by rw [cellsOf_cons, List.length_append, cellsOf_len xs, encX_len, List.length_cons]; omega
theorem cellsOf_one (xs : List OpX) : ∀ u ∈ cellsOf xs, u.oneCell' = true := by
  intro u hu
  obtain ⟨x, _, hx⟩ := List.mem_flatMap.1 hu
  exact encT_one (x, 0) u hx
theorem cellsOf_get : ∀ (xs : List OpX) (i c : Nat), i < xs.length → c < 8 → (cellsOf xs)[i * 8 + c]? = some ((encX xs[i]!)[c]!)
  | [], i, _, hi, _ => absurd hi (by simp)
  | x :: xs, 0, c, _, hc => by
    have e : 0 * 8 + c = c := by omega
    rw [cellsOf_cons, e, List.getElem?_append_left (by rw [encX_len]; exact hc), List.getElem?_eq_getElem (by rw [encX_len]; exact hc)]
    rw [getElem!_pos _ c (by rw [encX_len]; exact hc)]
    rfl
  | x :: xs, i + 1, c, hi, hc => by
    rw [cellsOf_cons, List.getElem?_append_right (by rw [encX_len]; omega), encX_len, show (i + 1) * 8 + c - 8 = i * 8 + c by omega, cellsOf_get xs i c (by simpa using hi) hc]
    simp

/-- A slice that holds operations. -/
def OpsAt (w : World) (v : Value) (xs : List OpX) : Prop :=
  (v = .slice none 0 0 ∧ xs = []) ∨ ∃ blk off cap, v = .slice (some ⟨blk, off, none⟩) xs.length cap ∧ ∀ j u, (cellsOf xs)[j]? = some u → w.cell? ⟨blk, off + j, none⟩ = some u

theorem infoOp : (Tryd.prog.info? 77).map (fun i => (i.zero, i.size, i.bytes)) = some (some (.agg #[.int .i64 0, .int .i64 0, .int .i64 0, .int .u8 0, .int .i64 0, .int .i64 0, .string ⟨#[]⟩, .string ⟨#[]⟩]), 8, 80) := by kernel_rfl

def cloneRen : Ren := ⟨fun | 41 => 60 | n => n, fun | 4 => 4 | 22 => 71 | 23 => 77 | n => n, fun n => n⟩
theorem clone_lays : SlLaysE0.n41 Tryd.prog cloneRen where
  mixed := by kernel_rfl
  f41 := ⟨"slices.Clone[[]concordat/api.Op,concordat/api.Op]", by kernel_rfl, Tryd.func60.trans (congrArg some (by kernel_rfl))⟩
  t4 := Tryd.underlying4
  a4 := Tryd.isAgg4
  z4 := Tryd.sizeOf4
  v4 := Tryd.zeroValue4
  t22 := Tryd.underlying71
  a22 := Tryd.isAgg71
  z22 := Tryd.sizeOf71
  v22 := Tryd.zeroValue71

theorem clone_some (w : World) (b off c : Nat) (xs : List OpX) (hn : xs.length ≤ 1000) (hc : ∀ j u, (cellsOf xs)[j]? = some u → w.cell? ⟨b, off + j, none⟩ = some u) :
    Calls Tryd.prog 60 #[.slice (some ⟨b, off, none⟩) xs.length c] w fun e w' => ∃ v', e = .returned v' ∧ w'.ownsRow w.heap.size 77 8 v' xs.length (cellsOf xs) ∧ v' ≠ .slice none 0 0 ∧ Below w.heap.size w w' := by
  obtain ⟨i0, hi, hz0, hz1, hz2⟩ := info_parts infoOp
  exact AnyE.slices_Clone clone_lays i0 _ 8 80 hi hz0 hz1 hz2 rfl (by omega) Tryd.sizeOf77 b off xs.length c (cellsOf xs) w (cellsOf_len xs) (by simp only [maxLen]; omega) (by omega) hc (cellsOf_one xs)
theorem clone_nil (w : World) : Calls Tryd.prog 60 #[.slice none 0 0] w fun e w' => e = .returned (.slice none 0 0) ∧ w' = w :=
  AnyE.slices_Clone_nil clone_lays 0 0 w

/-- Each with the place at which it stands. -/
def tagged (xs : List OpX) : Array (OpX × Nat) := xs.zipIdx.toArray
theorem tagged_size (xs : List OpX) : (tagged xs).size = xs.length := by simp [tagged]
theorem tagged_at (xs : List OpX) (i : Nat) (hi : i < xs.length) : (tagged xs)[i]! = (xs[i]!, i) := by
  rw [getElem!_pos _ i (by rw [tagged_size]; exact hi), getElem!_pos xs i hi]
  simp [tagged]

theorem row_of {w : World} {base n g cap : Nat} {xs : List OpX} (hn : n = xs.length) (h : w.ownsRow base 77 8 (.slice (some ⟨g, 0, none⟩) n cap) n (cellsOf xs)) : RowK encT 8 w g 0 (tagged xs) where
  hk := encT_len
  h1 := encT_one
  hblk := (h.lt g rfl).2
  hH := fun j hj => by
    rw [size_flatK, tagged_size] at hj
    have h1 : j / 8 < xs.length := by omega
    have h2 : j / 8 * 8 + j % 8 = j := by omega
    refine ⟨?_, by rw [Nat.zero_add]; exact h.frozenAt j⟩
    rw [Nat.zero_add, h.cellAt j (by omega), get_flatK _ _ _ _ (by rw [tagged_size]; exact hj), tagged_at xs _ h1]
    have := cellsOf_get xs (j / 8) (j % 8) h1 (by omega)
    rw [h2] at this
    exact this
end Go.Proofs.YtidghgfjbhjkpaaDoor
