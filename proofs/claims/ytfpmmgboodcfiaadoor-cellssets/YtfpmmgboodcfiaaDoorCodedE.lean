/- The law's coded at an error by its number. -/
import Derived.Test.YtfpmmgboodcfiaaDoorCodeWalks
import Derived.Test.YtfpmmgboodcfiaaDoorOpCheck
namespace Go.Proofs.YtfpmmgboodcfiaaDoor
open Go.RowKit

theorem opE_le (t b n : Int) (k : Nat) (node other : Int) (name value : List UInt8) : opE t b n k node other name value ≤ 12 := by
  unfold opE kindE moveE insE delE setE
  repeat' split
  all_goals omega

theorem Errs.op4 {B : Nat} {ad : Nat → Addr} {w : World} (h : Errs B ad w) : Op4 ad w := ⟨h.c1, h.c2, h.c3, h.c4⟩
theorem coded_e {D : Nat} {ad : Nat → Addr} (c : Nat) (w : World) (h : Errs D ad w) (hc : c ≤ 12) : Calls Tryd.prog 10 #[eV ad c, .int .i64 (c : Int)] w fun e w' => e = .returned (.bool true) ∧ Below w.heap.size w w' := by
  unfold eV
  by_cases h0 : c = 0
  · subst h0
    refine (coded_nil _ w).mono ?_
    rintro e w' ⟨rfl, rfl⟩
    exact ⟨rfl, Below.refl _ _⟩
  · rw [if_neg h0]
    refine (coded_sent w h (c - 1) (by omega) _).mono ?_
    rintro e w' ⟨rfl, hb⟩
    refine ⟨?_, hb⟩
    have : (codeOf (c - 1) == (c : Int)) = true := by
      unfold codeOf
      rw [if_pos (by omega)]
      simp
      omega
    rw [this]
end Go.Proofs.YtfpmmgboodcfiaaDoor
