/- Contract of the laws' closed fact 'celled', over the translation's body. -/
import Derived.Test.YtfpmmgboodcfiaaDoorCellSet
import Derived.Test.YtfpmmgboodcfiaaDoorCellMarks
namespace Go.Proofs.YtfpmmgboodcfiaaDoor
open Go.RowKit Go.Maps

/-- The mark of the closed fact. -/
def mark0 : CKey × CMark := ((4, ⟨#[97]⟩), (⟨#[120]⟩, (5, 0)))
theorem set0 : setC noC mark0 = fun k => if k = mark0.1 then some mark0.2 else none := by rw [setC_goes (by rfl)]; rfl
theorem set0_at : setC noC mark0 (4, ⟨#[97]⟩) = some (⟨#[120]⟩, (5, 0)) := by rw [set0]; exact if_pos rfl
theorem marks0 : IsMarks (setC noC mark0) [(4, ⟨#[97]⟩, ⟨#[120]⟩)] := by
  refine ⟨List.pairwise_singleton _ _, fun p => ?_⟩
  rw [set0, List.mem_singleton]
  constructor
  · rintro rfl
    exact ⟨by decide, (5, 0), if_pos rfl⟩
  · rintro ⟨_, s, h⟩
    dsimp only at h
    split at h
    · rename_i hk
      obtain ⟨a, nm, c⟩ := p
      have e1 : (a, nm) = ((4, ⟨#[97]⟩) : CKey) := hk
      have e2 : ((⟨#[120]⟩, (5, 0)) : CMark) = (c, s) := Option.some.inj h
      cases e1
      cases e2
      rfl
    · cases h

set_option maxRecDepth 100000 in
set_option maxHeartbeats 2000000 in
/-- A mark. -/
theorem celled_any {ad : Nat → Addr} (w : World) (hE : Op4 ad w) : Calls Tryd.prog 5 #[] w fun e w' => e = .returned (.bool true) ∧ Below w.heap.size w w' := by
  have HE : Aside (Op4 ad w) := hE
  clear hE
  obtain ⟨B, hB⟩ : ∃ B, Aside (w.heap.size = B) := ⟨_, rfl⟩
  go_enter Tryd.func5, Tryd.ntmps5
  go_wp2_with fail
  refine (new_cells w).mono ?_
  rintro e w1 ⟨rfl, hs1, hc1, hb1⟩
  rw [hB.out] at hs1 hc1 ⊢
  have hset := cset_ok (ad := ad) w1 (B + 1) B 0 noC 5 0 1 4 0 ⟨#[97]⟩ ⟨#[120]⟩ (HE.out.later hb1) hc1 (by omega) (by decide) (by decide) (by decide)
  have H1 : Aside (Below w.heap.size w w1 ∧ w1.heap.size = B + 2) := ⟨hb1, hs1⟩
  clear hs1 hc1 hb1
  go_wp2_with fail
  refine hset.mono ?_
  clear hset
  rintro e w2 ⟨rfl, hP⟩
  have hd : goesC noC (4, ⟨#[97]⟩) (⟨#[120]⟩, ((5 : Int), (0 : Int))) = true := rfl
  rw [hd]
  have hC2 : CellsAt w2 (B + 1) B 1 (setC noC mark0) := hP.1
  have hb2 : Below w.heap.size w w2 := H1.out.1.trans (hP.2.below H1.out.1.size (fun k e => by have := hB.out; omega))
  have hget := get_any w2 (B + 1) B 1 (setC noC mark0) 4 ⟨#[97]⟩ hC2 (wfK_of (by decide) (by decide) (by decide))
  rw [set0_at] at hget
  have H2 : Aside (CellsAt w2 (B + 1) B 1 (setC noC mark0) ∧ Below w.heap.size w w2) := ⟨hC2, hb2⟩
  clear hP hC2 hb2 hd H1
  go_wp2_with fail
  refine hget.mono ?_
  clear hget
  rintro e w3 ⟨rfl, hb3⟩
  have H3 : Aside (CellsAt w3 (B + 1) B 1 (setC noC mark0) ∧ Below w.heap.size w w3) := ⟨H2.out.1.later hb3, H2.out.2.trans (hb3.mono H2.out.2.size)⟩
  clear hb3 H2
  simp only [Option.getD_some, Option.isSome_some]
  go_wp2_with fail
  refine (marks_any _ (B + 1) B 1 (setC noC mark0) (H3.out.1.later ((Below.refl _ w3).alloc (Nat.le_refl _) _)) (by omega)).mono ?_
  rintro e w4 ⟨ao, cap, qs, rfl, hM, -, -, hb4⟩
  obtain rfl := hM.unique marks0
  have H4 : Aside (Below w.heap.size w w4) := H3.out.2.trans (((Below.refl _ w3).alloc (Nat.le_refl _) _).trans (hb4.mono (by simp)) |>.mono H3.out.2.size)
  clear hb4 hM H3
  go_wp2
  go_ret
  exact ⟨rfl, H4.out⟩
end Go.Proofs.YtfpmmgboodcfiaaDoor
