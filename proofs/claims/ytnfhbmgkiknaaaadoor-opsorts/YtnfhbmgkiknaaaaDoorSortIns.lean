/- Plain facts of the reference's sort: one operation more, laid behind all that are not later. -/
import Derived.Test.YtnfhbmgkiknaaaaDoorSortOnce
namespace Go.Proofs.YtnfhbmgkiknaaaaDoor
open Go.Shelf Go.RowKit Go.Lib Go.Sort

/-- The first i of xs, by their stamps, the same ones as they stood. -/
def InsOf (xs : List OpX) (i : Nat) (ys : List OpX) : Prop := ∃ D : List (OpX × Nat), D.Perm (xs.take i).zipIdx ∧ D.Pairwise (fun u v => slt ltX v u = false) ∧ ys = D.map Prod.fst

theorem InsOf.zero (xs : List OpX) : InsOf xs 0 [] := ⟨[], by simp, List.Pairwise.nil, rfl⟩
theorem InsOf.len {xs ys : List OpX} {i : Nat} (h : InsOf xs i ys) (hi : i ≤ xs.length) : ys.length = i := by
  obtain ⟨D, hp, _, rfl⟩ := h
  rw [List.length_map, hp.length_eq, List.length_zipIdx, List.length_take]
  omega

/-- One more. -/
theorem InsOf.next {xs ys : List OpX} {i k : Nat} (h : InsOf xs i ys) (hi : i < xs.length) (hk : k ≤ ys.length) (h1 : 0 < k → ltX xs[i]! ys[k - 1]! = false) (h2 : ∀ p, k ≤ p → p < ys.length → ltX xs[i]! ys[p]! = true) :
    InsOf xs (i + 1) (ys.take k ++ xs[i]! :: ys.drop k) := by
  obtain ⟨D, hp, hs, rfl⟩ := h
  rw [List.length_map] at hk h2
  refine ⟨D.take k ++ (xs[i]!, i) :: D.drop k, ?_, ?_, by simp⟩
  · have e : (xs.take (i + 1)).zipIdx = (xs.take i).zipIdx ++ [(xs[i]!, i)] := by
      rw [List.take_add_one, List.getElem?_eq_getElem hi, getElem!_pos xs i hi, List.zipIdx_append]
      simp
      omega
    rw [e]
    refine (List.perm_middle.trans ?_)
    rw [List.take_append_drop]
    exact (List.Perm.cons _ hp).trans (List.perm_append_singleton _ _).symm
  · refine pair_ins ltX_swo D (xs[i]!, i) k hk hs ?_ ?_ ?_
    · intro u hu
      have := hp.mem_iff.1 hu
      obtain ⟨a, n⟩ := u
      rw [List.mem_zipIdx_iff_getElem?] at this
      have h3 := (List.getElem?_eq_some_iff.1 this).1
      rw [List.length_take] at h3
      show n < i
      omega
    · intro u hu hk0
      have h3 := h1 hk0
      have h4 := (List.getElem?_eq_some_iff.1 hu).1
      rw [getElem!_pos (D.map Prod.fst) (k - 1) (by rw [List.length_map]; exact h4)] at h3
      rw [← (List.getElem?_eq_some_iff.1 hu).2]
      simpa using h3
    · intro u hu
      obtain ⟨p, hp1, rfl⟩ := List.mem_iff_getElem.1 hu
      rw [List.length_drop] at hp1
      have h3 := h2 (k + p) (by omega) (by omega)
      rw [getElem!_pos (D.map Prod.fst) (k + p) (by rw [List.length_map]; omega)] at h3
      simpa using h3

theorem InsOf.all {xs ys : List OpX} (h : InsOf xs xs.length ys) : StableOf xs ys := by
  obtain ⟨D, hp, hs, rfl⟩ := h
  rw [List.take_length] at hp
  have hl : D.length = xs.length := by rw [hp.length_eq, List.length_zipIdx]
  refine ⟨D.toArray, ⟨⟨by rw [tagged_size]; simpa using hl, ?_, ?_⟩, ?_⟩, by simp⟩
  · intro j hj
    have h1 : ¬ j < D.toArray.size := by simp; omega
    have h2 : ¬ j < (tagged xs).size := by rw [tagged_size]; omega
    rw [getElem!_neg D.toArray j h1, getElem!_neg (tagged xs) j h2]
  · have e1 : (D.toArray.extract 0 xs.length).toList = D := by simp [← hl]
    have e2 : ((tagged xs).extract 0 xs.length).toList = xs.zipIdx := by simp [tagged]; exact List.take_of_length_le (by simp)
    rw [e1, e2]
    exact hp
  · intro a b _ hab hb
    have h := List.pairwise_iff_getElem.1 hs a b (by omega) (by omega) hab
    rw [getElem!_pos D.toArray a (by simp; omega), getElem!_pos D.toArray b (by simp; omega)]
    simpa using h
end Go.Proofs.YtnfhbmgkiknaaaaDoor
