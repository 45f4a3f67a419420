/- Plain facts, of no program: operations that set marks, in whatever order and out of parts. -/
import Derived.Test.YtfpmmgboodcfiaaDoorCellColl
import Derived.Test.YtfpmmgboodcfiaaDoorOpPure
import Derived.Test.YtfpmmgboodcfiaaDoorOpsIn
namespace Go.Proofs.YtfpmmgboodcfiaaDoor

def errO (x : OpX) : Nat := opE x.1 x.2.1 x.2.2.1 x.2.2.2.1 x.2.2.2.2.1 x.2.2.2.2.2.1 x.2.2.2.2.2.2.1.data.toList x.2.2.2.2.2.2.2.data.toList
def keyO (x : OpX) : CKey := (x.2.2.2.2.1, x.2.2.2.2.2.2.1)
def cellO (x : OpX) : CMark := (x.2.2.2.2.2.2.2, (x.1, x.2.1))
def markO (x : OpX) : Option (CKey × CMark) := if errO x = 0 ∧ x.2.2.2.1 = 115 then some (keyO x, cellO x) else none
def marksO (xs : List OpX) : List (CKey × CMark) := xs.filterMap markO
theorem marksO_app (xs ys : List OpX) : marksO (xs ++ ys) = marksO xs ++ marksO ys := List.filterMap_append
/-- What operations make, one behind the other. -/
def madeO (xs : List OpX) : CSta := foldC (marksO xs) noC
def stepO (f : CSta) (x : OpX) : CSta := if errO x = 0 ∧ x.2.2.2.1 = 115 then setC f (keyO x, cellO x) else f
theorem madeO_snoc (xs : List OpX) (x : OpX) : madeO (xs ++ [x]) = stepO (madeO xs) x := by
  unfold madeO stepO
  rw [marksO_app]
  by_cases h : errO x = 0 ∧ x.2.2.2.1 = 115
  · have e : marksO [x] = [(keyO x, cellO x)] := by simp [marksO, markO, h]
    rw [e, foldC_snoc, if_pos h]
  · have e : marksO [x] = [] := by simp [marksO, markO, h]
    rw [e, List.append_nil, if_neg h]
theorem madeO_nil : madeO [] = noC := rfl

/-- Of one stamp there is one operation. -/
def OneO (xs : List OpX) : Prop := ∀ x ∈ xs, ∀ y ∈ xs, x.1 = y.1 → x.2.1 = y.2.1 → x = y
theorem markO_some {x : OpX} {m : CKey × CMark} (h : markO x = some m) : m = (keyO x, cellO x) := by
  unfold markO at h
  split at h
  · exact (Option.some.inj h).symm
  · cases h
theorem OneO.marks {xs : List OpX} (h : OneO xs) : OneC (marksO xs) := by
  intro k c d hc hd e
  obtain ⟨x, hx, ex⟩ := List.mem_filterMap.1 hc
  obtain ⟨y, hy, ey⟩ := List.mem_filterMap.1 hd
  have e1 := markO_some ex
  have e2 := markO_some ey
  have c1 : c = cellO x := (Prod.mk.inj e1).2
  have d1 : d = cellO y := (Prod.mk.inj e2).2
  subst c1
  subst d1
  have e3 : (x.1, x.2.1) = (y.1, y.2.1) := e
  rw [h x hx y hy (Prod.mk.inj e3).1 (Prod.mk.inj e3).2]
theorem oneO_of {xs : List OpX} (h : ∀ i k, k < i → i < xs.length → (xs[k]!).1 = (xs[i]!).1 → (xs[k]!).2.1 = (xs[i]!).2.1 → xs[k]! = xs[i]!) : OneO xs := by
  intro x hx y hy e1 e2
  obtain ⟨i, hi, rfl⟩ := List.getElem_of_mem hx
  obtain ⟨j, hj, rfl⟩ := List.getElem_of_mem hy
  rw [← getElem!_pos xs i hi, ← getElem!_pos xs j hj] at *
  rcases Nat.lt_trichotomy i j with q | q | q
  · exact h j i q hj e1 e2
  · rw [q]
  · exact (h i j q hi e1.symm e2.symm).symm

theorem mem_marksO_rev {xs : List OpX} (m : CKey × CMark) : m ∈ marksO xs.reverse ↔ m ∈ marksO xs := by
  unfold marksO
  simp only [List.mem_filterMap, List.mem_reverse]
/-- The other way round it is the same. -/
theorem madeO_rev {xs : List OpX} (h : OneO xs) : madeO xs.reverse = madeO xs :=
  (foldC_turned (fun m => (mem_marksO_rev m).symm) h.marks).symm
/-- Joined out of two parts it is the same. -/
theorem madeO_parts {xs : List OpX} (h : OneO xs) (c : Nat) : joinC (madeO (xs.take c)) (madeO (xs.drop c)) = madeO xs := by
  refine joinC_fold (fun m => ?_) h.marks
  rw [← marksO_app, List.take_append_drop]
/-- Joined again it is the same. -/
theorem madeO_again {xs : List OpX} (h : OneO xs) (c : Nat) : joinC (madeO (xs.drop c)) (madeO xs) = madeO xs := by
  refine joinC_fold (fun m => ?_) h.marks
  rw [List.mem_append]
  constructor
  · rintro (q | q)
    · rw [← List.take_append_drop c xs, marksO_app]
      exact List.mem_append_right _ q
    · exact q
  · exact .inr
end Go.Proofs.YtfpmmgboodcfiaaDoor
