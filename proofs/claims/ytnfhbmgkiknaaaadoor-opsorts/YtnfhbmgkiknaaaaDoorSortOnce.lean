/- What a stable sort gives is one list. -/
import Derived.Test.YtnfhbmgkiknaaaaDoorSortLong
namespace Go.Proofs.YtnfhbmgkiknaaaaDoor
open Go.Shelf Go.RowKit Go.Lib Go.Sort

theorem permIn_list {d d' : Array (OpX × Nat)} (h : PermIn 0 d.size d d') : d.toList.Perm d'.toList := by
  have h2 := h.2.2
  have e : d'.size = d.size := h.1
  have e1 : d'.toList.take d.size = d'.toList := by rw [← e, ← Array.length_toList, List.take_length]
  have e2 : d.toList.take d.size = d.toList := by rw [← Array.length_toList, List.take_length]
  first
    | simpa using h2
    | (simp at h2; rw [e1] at h2; exact h2)
    | (simp at h2; rw [e1] at h2; exact h2.symm)

theorem tagged_nodup (xs : List OpX) : ((tagged xs).toList.map Prod.snd).Nodup := by
  simp [tagged, List.nodup_range']

theorem stable_one {xs ys zs : List OpX} (h1 : StableOf xs ys) (h2 : StableOf xs zs) : ys = zs := by
  obtain ⟨d1, ⟨p1, s1⟩, rfl⟩ := h1
  obtain ⟨d2, ⟨p2, s2⟩, rfl⟩ := h2
  rw [← tagged_size xs] at p1 s1 p2 s2
  have q1 := permIn_list p1
  have q2 := permIn_list p2
  rw [← p1.1] at s1
  rw [← p2.1] at s2
  rw [one_sorted ltX_swo d1.toList d2.toList (q1.symm.trans q2) ((q1.map Prod.snd).nodup_iff.1 (tagged_nodup xs)) (sorted_list d1 s1) (sorted_list d2 s2)]
/-- What is sorted stays as it is. -/
theorem stable_again {xs ys : List OpX} (h : StableOf xs ys) : StableOf ys ys := by
  obtain ⟨d1, ⟨p1, s1⟩, rfl⟩ := h
  refine ⟨tagged (d1.toList.map Prod.fst), ⟨permIn_refl _ _ _, ?_⟩, ?_⟩
  · intro i j hi hij hj
    have hl : (d1.toList.map Prod.fst).length = d1.size := by simp
    have e1 : d1.size = xs.length := by rw [p1.1, tagged_size]
    rw [tagged_at _ j (by omega), tagged_at _ i (by omega), slt_false]
    have s := (slt_false (lt := ltX)).1 (s1 i j hi hij (by omega))
    rw [getElem!_pos (d1.toList.map Prod.fst) i (by omega), getElem!_pos (d1.toList.map Prod.fst) j (by omega)]
    rw [getElem!_pos d1 i (by omega), getElem!_pos d1 j (by omega)] at s
    refine ⟨by simpa using s.1, .inr (by show i ≤ j; omega)⟩
  · simp [tagged]
end Go.Proofs.YtnfhbmgkiknaaaaDoor
