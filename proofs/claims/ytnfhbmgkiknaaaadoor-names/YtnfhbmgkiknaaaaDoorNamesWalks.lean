/- The walk of the law Names. -/
import Derived.Test.YtnfhbmgkiknaaaaDoorCodeWalks
import Derived.Test.YtnfhbmgkiknaaaaDoorSameInts
namespace Go.Proofs.YtnfhbmgkiknaaaaDoor
open Go.RowKit

/-- errors.New. -/
theorem new_any (s : ByteArray) (w : World) : Calls Tryd.prog 16 #[.string s] w fun e w' => e = .returned (.iface 105 (.pointer (some ⟨w.heap.size, 0, none⟩))) ∧ w' = w.alloc (.cells #[.string s] 107) := by
  go_enter Tryd.func16, Tryd.ntmps16
  go_wp2
  go_ret
  exact ⟨rfl, rfl⟩

def numsOf (i : Nat) : Int := [4, 1073741824, 400, 12, 65536, 30, 3000, 100, 16, 0, 1, 109, 105, 100, 115].getD i 0
theorem fifteen (i : Nat) (h : i < 15) : (#[Value.int .i64 4, .int .i64 1073741824, .int .i64 400, .int .i64 12, .int .i64 65536, .int .i64 30, .int .i64 3000, .int .i64 100, .int .i64 16, .int .i64 0, .int .i64 1, .int .i64 109, .int .i64 105, .int .i64 100, .int .i64 115])[i]? = some (.int .i64 (numsOf i)) := by
  match i, h with
  | 0, _ => rfl
  | 1, _ => rfl
  | 2, _ => rfl
  | 3, _ => rfl
  | 4, _ => rfl
  | 5, _ => rfl
  | 6, _ => rfl
  | 7, _ => rfl
  | 8, _ => rfl
  | 9, _ => rfl
  | 10, _ => rfl
  | 11, _ => rfl
  | 12, _ => rfl
  | 13, _ => rfl
  | 14, _ => rfl
  | n + 15, h => omega

theorem codeOf_lt (j : Nat) (h : j < 12) : codeOf j = (j : Int) + 1 := by unfold codeOf; rw [if_pos h]

set_option maxHeartbeats 2000000 in
theorem names_any {ad : Nat → Addr} (w : World) (h : Errs w.heap.size ad w) :
    Calls Tryd.prog 3 #[] w fun e w' => e = .returned (.bool true) ∧ Below w.heap.size w w' := by
  have h0 : Errs w.heap.size ad ((w.alloc (.cells #[.int .i64 4, .int .i64 1073741824, .int .i64 400, .int .i64 12, .int .i64 65536, .int .i64 30, .int .i64 3000, .int .i64 100, .int .i64 16, .int .i64 0, .int .i64 1, .int .i64 109, .int .i64 105, .int .i64 100, .int .i64 115] 3)).alloc (.cells #[.int .i64 4, .int .i64 1073741824, .int .i64 400, .int .i64 12, .int .i64 65536, .int .i64 30, .int .i64 3000, .int .i64 100, .int .i64 16, .int .i64 0, .int .i64 1, .int .i64 109, .int .i64 105, .int .i64 100, .int .i64 115] 3)) := h.later (((Below.refl _ _).alloc (Nat.le_refl _) _).alloc (by simp) _)
  have B0 : Below w.heap.size w ((w.alloc (.cells #[.int .i64 4, .int .i64 1073741824, .int .i64 400, .int .i64 12, .int .i64 65536, .int .i64 30, .int .i64 3000, .int .i64 100, .int .i64 16, .int .i64 0, .int .i64 1, .int .i64 109, .int .i64 105, .int .i64 100, .int .i64 115] 3)).alloc (.cells #[.int .i64 4, .int .i64 1073741824, .int .i64 400, .int .i64 12, .int .i64 65536, .int .i64 30, .int .i64 3000, .int .i64 100, .int .i64 16, .int .i64 0, .int .i64 1, .int .i64 109, .int .i64 105, .int .i64 100, .int .i64 115] 3)) := ((Below.refl _ _).alloc (Nat.le_refl _) _).alloc (by simp) _
  go_enter Tryd.func3, Tryd.ntmps3
  go_wp2_with fail
  refine (sameInts_true w.heap.size 0 15 (w.heap.size + 1) 0 15 15 numsOf _ (by decide) ?_ ?_).mono ?_
  · intro i hi
    rw [Nat.zero_add, World.cell?_alloc_lt _ _ _ (by simp), World.cell?_alloc_at _ _ _ _ rfl]
    exact fifteen i hi
  · intro i hi
    rw [Nat.zero_add, World.cell?_alloc_at _ _ _ _ (by simp)]
    exact fifteen i hi
  rintro e w1 ⟨rfl, hb1⟩
  have H1 := h0.later hb1
  have B1 := B0.trans (hb1.mono (by simp; omega))
  clear h0 B0 hb1
  have z1 := B1.size
  have H2 := fun o => H1.later ((Below.refl _ _).alloc (Nat.le_refl _) o)
  obtain ⟨c0, c1, c2, c3, c4, c5, c6, c7, c8, c9, c10, c11, et, lt, row, ne, big, size⟩ := H1
  clear et row ne lt big size
  go_wp2_with fail
  have hcell : ∀ j, j < 12 → (w1.alloc (.cells #[.iface 105 (.pointer (some (ad 0))), .iface 105 (.pointer (some (ad 1))), .iface 105 (.pointer (some (ad 2))), .iface 105 (.pointer (some (ad 3))), .iface 105 (.pointer (some (ad 4))), .iface 105 (.pointer (some (ad 5))), .iface 105 (.pointer (some (ad 6))), .iface 105 (.pointer (some (ad 7))), .iface 105 (.pointer (some (ad 8))), .iface 105 (.pointer (some (ad 9))), .iface 105 (.pointer (some (ad 10))), .iface 105 (.pointer (some (ad 11)))] 25)).cell? ⟨w1.heap.size, j, none⟩ = some (.iface 105 (.pointer (some (ad j)))) :=
    fun j hj => by rw [World.cell?_alloc_at _ _ _ _ rfl]; exact twelve ad j hj
  have H3 := H2 (.cells #[.iface 105 (.pointer (some (ad 0))), .iface 105 (.pointer (some (ad 1))), .iface 105 (.pointer (some (ad 2))), .iface 105 (.pointer (some (ad 3))), .iface 105 (.pointer (some (ad 4))), .iface 105 (.pointer (some (ad 5))), .iface 105 (.pointer (some (ad 6))), .iface 105 (.pointer (some (ad 7))), .iface 105 (.pointer (some (ad 8))), .iface 105 (.pointer (some (ad 9))), .iface 105 (.pointer (some (ad 10))), .iface 105 (.pointer (some (ad 11)))] 25)
  have B3 := B1.alloc z1 (.cells #[.iface 105 (.pointer (some (ad 0))), .iface 105 (.pointer (some (ad 1))), .iface 105 (.pointer (some (ad 2))), .iface 105 (.pointer (some (ad 3))), .iface 105 (.pointer (some (ad 4))), .iface 105 (.pointer (some (ad 5))), .iface 105 (.pointer (some (ad 6))), .iface 105 (.pointer (some (ad 7))), .iface 105 (.pointer (some (ad 8))), .iface 105 (.pointer (some (ad 9))), .iface 105 (.pointer (some (ad 10))), .iface 105 (.pointer (some (ad 11)))] 25)
  generalize w1.alloc (.cells #[.iface 105 (.pointer (some (ad 0))), .iface 105 (.pointer (some (ad 1))), .iface 105 (.pointer (some (ad 2))), .iface 105 (.pointer (some (ad 3))), .iface 105 (.pointer (some (ad 4))), .iface 105 (.pointer (some (ad 5))), .iface 105 (.pointer (some (ad 6))), .iface 105 (.pointer (some (ad 7))), .iface 105 (.pointer (some (ad 8))), .iface 105 (.pointer (some (ad 9))), .iface 105 (.pointer (some (ad 10))), .iface 105 (.pointer (some (ad 11)))] 25) = W2 at hcell H3 B3 ⊢
  generalize w1.heap.size = b1 at hcell ⊢
  clear c0 c1 c2 c3 c4 c5 c6 c7 c8 c9 c10 c11 H2 B1 z1 h
  have HC : Hid (∀ j, j < 12 → W2.cell? ⟨b1, j, none⟩ = some (.iface 105 (.pointer (some (ad j))))) := hcell
  clear hcell
  go_loopw [4] (fun i w' => ∃ j : Nat, j ≤ 12 ∧ i = .int .i64 j ∧ Below W2.heap.size W2 w') (fun i _ => 12 - (intOf i).toNat)
  case atStart => exact ⟨0, Nat.zero_le _, rfl, Below.refl _ _⟩
  case round =>
    obtain ⟨j, hj, rfl, hB⟩ := hrel
    have HR := H3.later hB
    by_cases h12 : j < 12
    · have hc := cell_later hB (HC.out j h12)
      have hd : decide ((j : Int) < 12) = true := by simp; omega
      have hkc := codeOf_lt j h12
      have HK : Hid (codeOf j = (j : Int) + 1) := hkc
      clear hkc
      go_wp2_with fail
      refine (code_fault _ (HR.later ((Below.refl _ _).alloc (Nat.le_refl _) _)) wr.heap.size 0 7 j h12 (by simp [go_sem]) (by simp [go_sem])).mono ?_
      rintro e w3 ⟨rfl, hb3⟩
      have hB3 : Below W2.heap.size W2 w3 := (hB.alloc hB.size _).trans (hb3.mono (by have := hB.size; simp; omega))
      have E3 := H3.later hB3
      have hc3 := cell_later hB3 (HC.out j h12)
      clear hb3 hc HR
      rw [HK.out]
      go_wp2_with fail
      refine (coded_sent _ E3 j h12 _).mono ?_
      rintro e w4 ⟨rfl, hb4⟩
      have hB4 : Below W2.heap.size W2 w4 := hB3.trans (hb4.mono hB3.size)
      have hq : (codeOf j == (j : Int) + 1) = true := by rw [HK.out]; simp
      rw [hq]
      clear hq hb4 E3
      go_wp2
      refine ⟨⟨j + 1, by omega, by go_num, hB4⟩, ?_⟩
      simp [intOf]
      omega
    · have hd : decide ((j : Int) < 12) = false := by simp; omega
      have Bw : Below w.heap.size w wr := B3.trans (hB.mono B3.size)
      go_wp2_with fail
      refine (new_any _ _).mono ?_
      rintro e w3 ⟨rfl, hw⟩
      subst hw
      go_wp2_with fail
      refine (code_else _ (HR.later ((Below.refl _ _).alloc (Nat.le_refl _) _)) ⟨wr.heap.size, 0, none⟩ _ _ (heap_alloc_new _ _) (by simp) Bw.size).mono ?_
      rintro e w4 ⟨rfl, hb4⟩
      have Bz : Below w.heap.size w w4 := (Bw.alloc Bw.size _).trans (hb4.mono (by have := Bw.size; simp; omega))
      clear hb4
      go_wp2_with fail
      refine (coded_nil _ _).mono ?_
      rintro e w5 ⟨rfl, hw⟩
      subst hw
      go_wp2
      go_ret
      exact ⟨rfl, Bz⟩
end Go.Proofs.YtnfhbmgkiknaaaaDoor
