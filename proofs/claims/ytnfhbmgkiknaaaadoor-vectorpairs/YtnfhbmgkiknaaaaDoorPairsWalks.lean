/- The walk of the law VectorPairs, at numbers that are not too great and a text that is not too long. -/
import Derived.Test.YtnfhbmgkiknaaaaDoorPairsEnds
import Derived.Deep.Cut
import Derived.Deep.CutRange
import Derived.Deep.DeepCutAuto
import Derived.Deep.QuietTactic
import Derived.BigQuiet
namespace Go.Proofs.YtnfhbmgkiknaaaaDoor
open Go.RowKit

set_option maxRecDepth 100000 in
set_option maxHeartbeats 4000000 in
theorem pairs_main {D : Nat} {ad : Nat → Addr} {m : Int} (a0 a1 a2 a3 b0 b1 b2 b3 : Int) (s : ByteArray) (w : World) (h : EnvS D ad m w) (hs : s.size ≤ 100) (ht : tameP a0 a1 a2 a3) (hu : tameP b0 b1 b2 b3) :
    Calls Tryd.prog 7 #[.agg #[.int .i64 a0, .int .i64 a1, .int .i64 a2, .int .i64 a3], .agg #[.int .i64 b0, .int .i64 b1, .int .i64 b2, .int .i64 b3], .string s] w fun e w' => e = .returned (.bool true) ∧ Below w.heap.size w w' := by
  have V0 : VecAt ((w.alloc (.cells #[.int .i64 a0, .int .i64 a1, .int .i64 a2, .int .i64 a3] 52)).alloc (.cells #[.int .i64 b0, .int .i64 b1, .int .i64 b2, .int .i64 b3] 52)) w.heap.size a0 a1 a2 a3 ∧ VecAt ((w.alloc (.cells #[.int .i64 a0, .int .i64 a1, .int .i64 a2, .int .i64 a3] 52)).alloc (.cells #[.int .i64 b0, .int .i64 b1, .int .i64 b2, .int .i64 b3] 52)) (w.heap.size + 1) b0 b1 b2 b3 := by simp [VecAt, go_sem]
  have B0 : Below w.heap.size w ((w.alloc (.cells #[.int .i64 a0, .int .i64 a1, .int .i64 a2, .int .i64 a3] 52)).alloc (.cells #[.int .i64 b0, .int .i64 b1, .int .i64 b2, .int .i64 b3] 52)) := ((Below.refl _ _).alloc (Nat.le_refl _) _).alloc (by simp) _
  have z0 : w.heap.size + 2 ≤ ((w.alloc (.cells #[.int .i64 a0, .int .i64 a1, .int .i64 a2, .int .i64 a3] 52)).alloc (.cells #[.int .i64 b0, .int .i64 b1, .int .i64 b2, .int .i64 b3] 52)).heap.size := by simp
  have hd : decide (100 < (s.size : Int)) = false := by simp; omega
  have HT := Lib.hid ht
  have HU := Lib.hid hu
  clear ht hu
  go_enter Tryd.func7, Tryd.ntmps7
  go_wp2_with fail
  generalize ((w.alloc (.cells #[.int .i64 a0, .int .i64 a1, .int .i64 a2, .int .i64 a3] 52)).alloc (.cells #[.int .i64 b0, .int .i64 b1, .int .i64 b2, .int .i64 b3] 52)) = u at V0 B0 z0 ⊢
  refine (counted_any _ (h.later B0).tab).mono ?_
  rintro e w1 ⟨rfl, hb⟩
  have V1 := V0.1.later hb
  have V2 := V0.2.later hb
  have B1 : Below w.heap.size w w1 := B0.trans (hb.mono B0.size)
  have z1 : w.heap.size + 2 ≤ w1.heap.size := Nat.le_trans z0 hb.size
  clear hb V0 B0 z0
  obtain ⟨A0, A1, A2, A3⟩ := id V1
  go_wp2_with fail
  refine (tame_any _ _ _ _ _).mono ?_
  rintro e w2 ⟨rfl, hb⟩
  rw [decide_eq_true HT.out]
  have B2 : Below w.heap.size w w2 := B1.trans (hb.mono B1.size)
  have z2 : w.heap.size + 2 ≤ w2.heap.size := Nat.le_trans z1 hb.size
  have V3 := V1.later hb
  have V4 := V2.later hb
  clear hb A0 A1 A2 A3 V1 V2 B1 z1
  obtain ⟨A4, A5, A6, A7⟩ := id V4
  go_wp2_with fail
  refine (tame_any _ _ _ _ _).mono ?_
  rintro e w3 ⟨rfl, hb⟩
  rw [decide_eq_true HU.out]
  have B3 : Below w.heap.size w w3 := B2.trans (hb.mono B2.size)
  have z3 : w.heap.size + 2 ≤ w3.heap.size := Nat.le_trans z2 hb.size
  have V5 := V3.later hb
  have V6 := V4.later hb
  clear hb A4 A5 A6 A7 V3 V4 B2 z2
  have L0 : LoopS w D ad m w3.heap.size a0 a1 a2 a3 b0 b1 b2 b3 0 0 0 0 (((w3.alloc (.cells #[.int .i64 a0, .int .i64 a1, .int .i64 a2, .int .i64 a3] 54)).alloc (.cells #[.int .i64 b0, .int .i64 b1, .int .i64 b2, .int .i64 b3] 54)).alloc (.cells #[.int .i64 0, .int .i64 0, .int .i64 0, .int .i64 0] 52)) := by
    have hb3 : Below w3.heap.size w3 (((w3.alloc (.cells #[.int .i64 a0, .int .i64 a1, .int .i64 a2, .int .i64 a3] 54)).alloc (.cells #[.int .i64 b0, .int .i64 b1, .int .i64 b2, .int .i64 b3] 54)).alloc (.cells #[.int .i64 0, .int .i64 0, .int .i64 0, .int .i64 0] 52)) := (((Below.refl _ _).alloc (Nat.le_refl _) _).alloc (by simp) _).alloc (by simp; omega) _
    have hbw : Below w.heap.size w (((w3.alloc (.cells #[.int .i64 a0, .int .i64 a1, .int .i64 a2, .int .i64 a3] 54)).alloc (.cells #[.int .i64 b0, .int .i64 b1, .int .i64 b2, .int .i64 b3] 54)).alloc (.cells #[.int .i64 0, .int .i64 0, .int .i64 0, .int .i64 0] 52)) := B3.trans (hb3.mono B3.size)
    exact ⟨V5.later hb3, V6.later hb3, by simp [VecAt, go_sem], by simp [VecAt, go_sem], by simp [VecAt, go_sem], by simp [go_sem], by simp [go_sem], by simp [go_sem], by simp [go_sem], h.later hbw, hbw, z3⟩
  obtain ⟨A0, A1, A2, A3⟩ := V5
  have q2 : ∀ o, VecAt (w3.alloc o) (w.heap.size + 1) b0 b1 b2 b3 := fun o => V6.later ((Below.refl _ _).alloc (Nat.le_refl _) _)
  have A4 := fun o => (q2 o).1
  have A5 := fun o => (q2 o).2.1
  have A6 := fun o => (q2 o).2.2.1
  have A7 := fun o => (q2 o).2.2.2
  clear V6 q2
  go_wp2
  clear A0 A1 A2 A3 A4 A5 A6 A7
  generalize (((w3.alloc (.cells #[.int .i64 a0, .int .i64 a1, .int .i64 a2, .int .i64 a3] 54)).alloc (.cells #[.int .i64 b0, .int .i64 b1, .int .i64 b2, .int .i64 b3] 54)).alloc (.cells #[.int .i64 0, .int .i64 0, .int .i64 0, .int .i64 0] 52)) = w4 at L0 ⊢
  generalize w3.heap.size = kx at L0 z3 ⊢
  have n1 : ¬ kx + 1 + 1 = w.heap.size := by omega
  have n2 : ¬ kx + 1 = w.heap.size := by omega
  have n3 : ¬ w.heap.size = kx + 1 + 1 := by omega
  have n4 : ¬ w.heap.size = kx + 1 := by omega
  have n5 : ¬ kx + 1 + 1 = w.heap.size + 1 := by omega
  have n6 : ¬ w.heap.size + 1 = kx + 1 + 1 := by omega
  clear B3 z3
  go_loopw [11, 12, 13, 14] (fun l ab un i wr => ∃ (k : Nat) (L : Int) (p q : Bool), k ≤ 4 ∧ l = .int .i64 L ∧ ab = .bool p ∧ un = .bool q ∧ i = .int .i64 (k : Int) ∧ Hid (L = lackK k a0 a1 a2 a3 b0 b1 b2 b3 ∧ p = moreK k b0 b1 b2 b3 a0 a1 a2 a3 ∧ q = moreK k a0 a1 a2 a3 b0 b1 b2 b3) ∧ LoopS w D ad m kx a0 a1 a2 a3 b0 b1 b2 b3 (jAt k 0 (mx a0 b0)) (jAt k 1 (mx a1 b1)) (jAt k 2 (mx a2 b2)) (jAt k 3 (mx a3 b3)) wr) (fun _ _ _ i _ => 4 - (intOf i).toNat)
  case atStart => exact ⟨0, 0, false, false, Nat.zero_le _, rfl, rfl, rfl, rfl, Lib.hid (by simp [lackK, moreK]), L0.cast (by simp [jAt]) (by simp [jAt]) (by simp [jAt]) (by simp [jAt])⟩
  case round =>
    obtain ⟨k, L, p, q, hk, rfl, rfl, rfl, rfl, HS, hL⟩ := hrel
    clear L0
    have hk5 : k = 0 ∨ k = 1 ∨ k = 2 ∨ k = 3 ∨ k = 4 := by omega
    rcases hk5 with rfl | rfl | rfl | rfl | rfl
    · have ca : wr.cell? ⟨w.heap.size, 0, none⟩ = some (.int .i64 a0) := hL.a.1
      have cb : wr.cell? ⟨w.heap.size + 1, 0, none⟩ = some (.int .i64 b0) := hL.b.1
      have cj := hL.j.1
      have fj := hL.f0
      have hlb : -18000000000000 ≤ L ∧ L ≤ 18000000000000 := by
        have h1 := HT.out; have h2 := HU.out; have h3 := HS.out.1
        rw [h3]; simp only [lackK, mx]; simp only [tameP] at h1 h2; omega
      obtain ⟨hl1, hl2⟩ := hlb
      have ha0 : -1099511627776 ≤ a0 ∧ a0 ≤ 1099511627776 := by have h1 := HT.out; simp only [tameP] at h1; omega
      have hb0 : -1099511627776 ≤ b0 ∧ b0 ≤ 1099511627776 := by have h1 := HU.out; simp only [tameP] at h1; omega
      obtain ⟨ha1, ha2⟩ := ha0
      obtain ⟨hb1, hb2⟩ := hb0
      by_cases hlt : a0 < b0
      · have d1 : decide (a0 < b0) = true := by simp; omega
        have d2 : decide (b0 < a0) = false := by simp; omega
        go_wp2
        go_quiet (fail)
        go_wp2
        go_quiet (fail)
        go_wp2
        go_quiet (fail)
        go_wp2
        refine ⟨⟨1, _, _, _, by omega, rfl, rfl, rfl, rfl, Lib.hid ?_, ?_⟩, ?_⟩
        · obtain ⟨e1, e2, e3⟩ := HS.out
          subst e1 e2 e3
          refine ⟨?_, ?_, ?_⟩
          · simp only [lackK, mx]; simp; omega
          · simp [moreK]; try omega
          · simp [moreK]; try omega
        · exact ((((hL.set0 h a0).draws _).set0 h b0).draws _).cast (by simp [jAt, mx]; omega) (by simp [jAt]) (by simp [jAt]) (by simp [jAt])
        · simp [intOf]
      · have d1 : decide (a0 < b0) = false := by simp; omega
        by_cases hgt : b0 < a0
        · have d2 : decide (b0 < a0) = true := by simp; omega
          go_wp2
          go_quiet (fail)
          go_wp2
          go_quiet (fail)
          go_wp2
          refine ⟨⟨1, _, _, _, by omega, rfl, rfl, rfl, rfl, Lib.hid ?_, ?_⟩, ?_⟩
          · obtain ⟨e1, e2, e3⟩ := HS.out
            subst e1 e2 e3
            refine ⟨?_, ?_, ?_⟩
            · simp only [lackK, mx]; simp; omega
            · simp [moreK]; try omega
            · simp [moreK]; try omega
          · exact ((hL.set0 h a0).draws _).cast (by simp [jAt, mx]; omega) (by simp [jAt]) (by simp [jAt]) (by simp [jAt])
          · simp [intOf]
        · have d2 : decide (b0 < a0) = false := by simp; omega
          go_wp2
          go_quiet (fail)
          go_wp2
          go_quiet (fail)
          go_wp2
          refine ⟨⟨1, _, _, _, by omega, rfl, rfl, rfl, rfl, Lib.hid ?_, ?_⟩, ?_⟩
          · obtain ⟨e1, e2, e3⟩ := HS.out
            subst e1 e2 e3
            refine ⟨?_, ?_, ?_⟩
            · simp only [lackK, mx]; simp; omega
            · simp [moreK]; try omega
            · simp [moreK]; try omega
          · exact ((hL.set0 h a0).draws _).cast (by simp [jAt, mx]; omega) (by simp [jAt]) (by simp [jAt]) (by simp [jAt])
          · simp [intOf]
    · have ca : wr.cell? ⟨w.heap.size, 1, none⟩ = some (.int .i64 a1) := hL.a.2.1
      have cb : wr.cell? ⟨w.heap.size + 1, 1, none⟩ = some (.int .i64 b1) := hL.b.2.1
      have cj := hL.j.2.1
      have fj := hL.f1
      have hlb : -18000000000000 ≤ L ∧ L ≤ 18000000000000 := by
        have h1 := HT.out; have h2 := HU.out; have h3 := HS.out.1
        rw [h3]; simp only [lackK, mx]; simp only [tameP] at h1 h2; omega
      obtain ⟨hl1, hl2⟩ := hlb
      have ha1 : -1099511627776 ≤ a1 ∧ a1 ≤ 1099511627776 := by have h1 := HT.out; simp only [tameP] at h1; omega
      have hb1 : -1099511627776 ≤ b1 ∧ b1 ≤ 1099511627776 := by have h1 := HU.out; simp only [tameP] at h1; omega
      obtain ⟨ha1, ha2⟩ := ha1
      obtain ⟨hb1, hb2⟩ := hb1
      by_cases hlt : a1 < b1
      · have d1 : decide (a1 < b1) = true := by simp; omega
        have d2 : decide (b1 < a1) = false := by simp; omega
        go_wp2
        go_quiet (fail)
        go_wp2
        go_quiet (fail)
        go_wp2
        go_quiet (fail)
        go_wp2
        refine ⟨⟨2, _, _, _, by omega, rfl, rfl, rfl, rfl, Lib.hid ?_, ?_⟩, ?_⟩
        · obtain ⟨e1, e2, e3⟩ := HS.out
          subst e1 e2 e3
          refine ⟨?_, ?_, ?_⟩
          · simp only [lackK, mx]; simp; omega
          · simp [moreK]; try omega
          · simp [moreK]; try omega
        · exact ((((hL.set1 h a1).draws _).set1 h b1).draws _).cast (by simp [jAt]) (by simp [jAt, mx]; omega) (by simp [jAt]) (by simp [jAt])
        · simp [intOf]
      · have d1 : decide (a1 < b1) = false := by simp; omega
        by_cases hgt : b1 < a1
        · have d2 : decide (b1 < a1) = true := by simp; omega
          go_wp2
          go_quiet (fail)
          go_wp2
          go_quiet (fail)
          go_wp2
          refine ⟨⟨2, _, _, _, by omega, rfl, rfl, rfl, rfl, Lib.hid ?_, ?_⟩, ?_⟩
          · obtain ⟨e1, e2, e3⟩ := HS.out
            subst e1 e2 e3
            refine ⟨?_, ?_, ?_⟩
            · simp only [lackK, mx]; simp; omega
            · simp [moreK]; try omega
            · simp [moreK]; try omega
          · exact ((hL.set1 h a1).draws _).cast (by simp [jAt]) (by simp [jAt, mx]; omega) (by simp [jAt]) (by simp [jAt])
          · simp [intOf]
        · have d2 : decide (b1 < a1) = false := by simp; omega
          go_wp2
          go_quiet (fail)
          go_wp2
          go_quiet (fail)
          go_wp2
          refine ⟨⟨2, _, _, _, by omega, rfl, rfl, rfl, rfl, Lib.hid ?_, ?_⟩, ?_⟩
          · obtain ⟨e1, e2, e3⟩ := HS.out
            subst e1 e2 e3
            refine ⟨?_, ?_, ?_⟩
            · simp only [lackK, mx]; simp; omega
            · simp [moreK]; try omega
            · simp [moreK]; try omega
          · exact ((hL.set1 h a1).draws _).cast (by simp [jAt]) (by simp [jAt, mx]; omega) (by simp [jAt]) (by simp [jAt])
          · simp [intOf]
    · have ca : wr.cell? ⟨w.heap.size, 2, none⟩ = some (.int .i64 a2) := hL.a.2.2.1
      have cb : wr.cell? ⟨w.heap.size + 1, 2, none⟩ = some (.int .i64 b2) := hL.b.2.2.1
      have cj := hL.j.2.2.1
      have fj := hL.f2
      have hlb : -18000000000000 ≤ L ∧ L ≤ 18000000000000 := by
        have h1 := HT.out; have h2 := HU.out; have h3 := HS.out.1
        rw [h3]; simp only [lackK, mx]; simp only [tameP] at h1 h2; omega
      obtain ⟨hl1, hl2⟩ := hlb
      have ha2 : -1099511627776 ≤ a2 ∧ a2 ≤ 1099511627776 := by have h1 := HT.out; simp only [tameP] at h1; omega
      have hb2 : -1099511627776 ≤ b2 ∧ b2 ≤ 1099511627776 := by have h1 := HU.out; simp only [tameP] at h1; omega
      obtain ⟨ha1, ha2⟩ := ha2
      obtain ⟨hb1, hb2⟩ := hb2
      by_cases hlt : a2 < b2
      · have d1 : decide (a2 < b2) = true := by simp; omega
        have d2 : decide (b2 < a2) = false := by simp; omega
        go_wp2
        go_quiet (fail)
        go_wp2
        go_quiet (fail)
        go_wp2
        go_quiet (fail)
        go_wp2
        refine ⟨⟨3, _, _, _, by omega, rfl, rfl, rfl, rfl, Lib.hid ?_, ?_⟩, ?_⟩
        · obtain ⟨e1, e2, e3⟩ := HS.out
          subst e1 e2 e3
          refine ⟨?_, ?_, ?_⟩
          · simp only [lackK, mx]; simp; omega
          · simp [moreK]; try omega
          · simp [moreK]; try omega
        · exact ((((hL.set2 h a2).draws _).set2 h b2).draws _).cast (by simp [jAt]) (by simp [jAt]) (by simp [jAt, mx]; omega) (by simp [jAt])
        · simp [intOf]
      · have d1 : decide (a2 < b2) = false := by simp; omega
        by_cases hgt : b2 < a2
        · have d2 : decide (b2 < a2) = true := by simp; omega
          go_wp2
          go_quiet (fail)
          go_wp2
          go_quiet (fail)
          go_wp2
          refine ⟨⟨3, _, _, _, by omega, rfl, rfl, rfl, rfl, Lib.hid ?_, ?_⟩, ?_⟩
          · obtain ⟨e1, e2, e3⟩ := HS.out
            subst e1 e2 e3
            refine ⟨?_, ?_, ?_⟩
            · simp only [lackK, mx]; simp; omega
            · simp [moreK]; try omega
            · simp [moreK]; try omega
          · exact ((hL.set2 h a2).draws _).cast (by simp [jAt]) (by simp [jAt]) (by simp [jAt, mx]; omega) (by simp [jAt])
          · simp [intOf]
        · have d2 : decide (b2 < a2) = false := by simp; omega
          go_wp2
          go_quiet (fail)
          go_wp2
          go_quiet (fail)
          go_wp2
          refine ⟨⟨3, _, _, _, by omega, rfl, rfl, rfl, rfl, Lib.hid ?_, ?_⟩, ?_⟩
          · obtain ⟨e1, e2, e3⟩ := HS.out
            subst e1 e2 e3
            refine ⟨?_, ?_, ?_⟩
            · simp only [lackK, mx]; simp; omega
            · simp [moreK]; try omega
            · simp [moreK]; try omega
          · exact ((hL.set2 h a2).draws _).cast (by simp [jAt]) (by simp [jAt]) (by simp [jAt, mx]; omega) (by simp [jAt])
          · simp [intOf]
    · have ca : wr.cell? ⟨w.heap.size, 3, none⟩ = some (.int .i64 a3) := hL.a.2.2.2
      have cb : wr.cell? ⟨w.heap.size + 1, 3, none⟩ = some (.int .i64 b3) := hL.b.2.2.2
      have cj := hL.j.2.2.2
      have fj := hL.f3
      have hlb : -18000000000000 ≤ L ∧ L ≤ 18000000000000 := by
        have h1 := HT.out; have h2 := HU.out; have h3 := HS.out.1
        rw [h3]; simp only [lackK, mx]; simp only [tameP] at h1 h2; omega
      obtain ⟨hl1, hl2⟩ := hlb
      have ha3 : -1099511627776 ≤ a3 ∧ a3 ≤ 1099511627776 := by have h1 := HT.out; simp only [tameP] at h1; omega
      have hb3 : -1099511627776 ≤ b3 ∧ b3 ≤ 1099511627776 := by have h1 := HU.out; simp only [tameP] at h1; omega
      obtain ⟨ha1, ha2⟩ := ha3
      obtain ⟨hb1, hb2⟩ := hb3
      by_cases hlt : a3 < b3
      · have d1 : decide (a3 < b3) = true := by simp; omega
        have d2 : decide (b3 < a3) = false := by simp; omega
        go_wp2
        go_quiet (fail)
        go_wp2
        go_quiet (fail)
        go_wp2
        go_quiet (fail)
        go_wp2
        refine ⟨⟨4, _, _, _, by omega, rfl, rfl, rfl, rfl, Lib.hid ?_, ?_⟩, ?_⟩
        · obtain ⟨e1, e2, e3⟩ := HS.out
          subst e1 e2 e3
          refine ⟨?_, ?_, ?_⟩
          · simp only [lackK, mx]; simp; omega
          · simp [moreK]; try omega
          · simp [moreK]; try omega
        · exact ((((hL.set3 h a3).draws _).set3 h b3).draws _).cast (by simp [jAt]) (by simp [jAt]) (by simp [jAt]) (by simp [jAt, mx]; omega)
        · simp [intOf]
      · have d1 : decide (a3 < b3) = false := by simp; omega
        by_cases hgt : b3 < a3
        · have d2 : decide (b3 < a3) = true := by simp; omega
          go_wp2
          go_quiet (fail)
          go_wp2
          go_quiet (fail)
          go_wp2
          refine ⟨⟨4, _, _, _, by omega, rfl, rfl, rfl, rfl, Lib.hid ?_, ?_⟩, ?_⟩
          · obtain ⟨e1, e2, e3⟩ := HS.out
            subst e1 e2 e3
            refine ⟨?_, ?_, ?_⟩
            · simp only [lackK, mx]; simp; omega
            · simp [moreK]; try omega
            · simp [moreK]; try omega
          · exact ((hL.set3 h a3).draws _).cast (by simp [jAt]) (by simp [jAt]) (by simp [jAt]) (by simp [jAt, mx]; omega)
          · simp [intOf]
        · have d2 : decide (b3 < a3) = false := by simp; omega
          go_wp2
          go_quiet (fail)
          go_wp2
          go_quiet (fail)
          go_wp2
          refine ⟨⟨4, _, _, _, by omega, rfl, rfl, rfl, rfl, Lib.hid ?_, ?_⟩, ?_⟩
          · obtain ⟨e1, e2, e3⟩ := HS.out
            subst e1 e2 e3
            refine ⟨?_, ?_, ?_⟩
            · simp only [lackK, mx]; simp; omega
            · simp [moreK]; try omega
            · simp [moreK]; try omega
          · exact ((hL.set3 h a3).draws _).cast (by simp [jAt]) (by simp [jAt]) (by simp [jAt]) (by simp [jAt, mx]; omega)
          · simp [intOf]
    · have hdl : decide ((4 : Int) < 4) = false := by decide
      have hM := hL.cast (by simp [jAt] : _ = mx a0 b0) (by simp [jAt] : _ = mx a1 b1) (by simp [jAt] : _ = mx a2 b2) (by simp [jAt] : _ = mx a3 b3)
      obtain ⟨eL, ep, eq⟩ := HS.out
      have CJ : Hid (∀ w, Calls Tryd.prog 31 #[.agg #[.int .i64 a0, .int .i64 a1, .int .i64 a2, .int .i64 a3], .agg #[.int .i64 b0, .int .i64 b1, .int .i64 b2, .int .i64 b3]] w fun e w' => e = .returned (.agg #[.int .i64 (mx a0 b0), .int .i64 (mx a1 b1), .int .i64 (mx a2 b2), .int .i64 (mx a3 b3)]) ∧ Below w.heap.size w w') := Lib.hid (vjoin_any a0 a1 a2 a3 b0 b1 b2 b3)
      have CC : Hid (∀ w, Calls Tryd.prog 32 #[.agg #[.int .i64 a0, .int .i64 a1, .int .i64 a2, .int .i64 a3], .agg #[.int .i64 b0, .int .i64 b1, .int .i64 b2, .int .i64 b3]] w fun e w' => e = .returned (.bool (!q)) ∧ Below w.heap.size w w') := Lib.hid (by rw [eq, ← more_cov]; exact vcovers_any a0 a1 a2 a3 b0 b1 b2 b3)
      have CO : Hid (∀ w, Calls Tryd.prog 33 #[.agg #[.int .i64 a0, .int .i64 a1, .int .i64 a2, .int .i64 a3], .agg #[.int .i64 b0, .int .i64 b1, .int .i64 b2, .int .i64 b3]] w fun e w' => e = .returned (.int .i64 (wantI p q)) ∧ Below w.heap.size w w') := Lib.hid (by rw [ep, eq, ← ord_want]; exact vorder_any a0 a1 a2 a3 b0 b1 b2 b3)
      have CL : Hid (∀ w, Calls Tryd.prog 34 #[.agg #[.int .i64 a0, .int .i64 a1, .int .i64 a2, .int .i64 a3], .agg #[.int .i64 b0, .int .i64 b1, .int .i64 b2, .int .i64 b3]] w fun e w' => e = .returned (.int .i64 L) ∧ Below w.heap.size w w') := Lib.hid (by
        have h1 := HT.out
        have h2 := HU.out
        simp only [tameP] at h1 h2
        rw [eL, lack_all]
        intro w
        exact vlacks_any a0 a1 a2 a3 b0 b1 b2 b3 w h1.1.1 h1.1.2 h1.2.1.1 h1.2.1.2 h1.2.2.1.1 h1.2.2.1.2 h1.2.2.2.1 h1.2.2.2.2 h2.1.1 h2.1.2 h2.2.1.1 h2.2.1.2 h2.2.2.1.1 h2.2.2.1.2 h2.2.2.2.1 h2.2.2.2.2)
      have HI : Hid ((-9223372036854775808 ≤ a0 ∧ a0 ≤ 9223372036854775807) ∧ (-9223372036854775808 ≤ a1 ∧ a1 ≤ 9223372036854775807) ∧ (-9223372036854775808 ≤ a2 ∧ a2 ≤ 9223372036854775807) ∧ (-9223372036854775808 ≤ a3 ∧ a3 ≤ 9223372036854775807)) := Lib.hid (by have h1 := HT.out; simp only [tameP] at h1; omega)
      clear eL ep eq HS hL n1 n2 n3 n4 n5 n6
      go_upto_if 81 with fail
      go_cut [15] (fun s15 wx => s15 = .int .i64 (want1 p) ∧ wx = wr)
      case first =>
        cases p
        · go_wp2_with fail
          go_meet
          exact ⟨rfl, rfl⟩
        · go_wp2_with fail
          go_meet
          exact ⟨rfl, rfl⟩
      case rest =>
      obtain ⟨rfl, rfl⟩ := hcut
      go_upto_if 82 with fail
      go_cut [15] (fun s15 wx => s15 = .int .i64 (want2 p q) ∧ wx = wc)
      case first =>
        cases q
        · go_wp2_with fail
          go_meet
          exact ⟨rfl, rfl⟩
        · go_wp2_with fail
          go_meet
          exact ⟨rfl, rfl⟩
      case rest =>
      obtain ⟨rfl, rfl⟩ := hcut
      go_upto_region 25 with fail
      go_cut [86] (fun s86 wx => s86 = .bool (and p q) ∧ wx = wc)
      case first =>
        cases p
        · cases q
          · go_wp2_with fail
            go_meet
            exact ⟨rfl, rfl⟩
          · go_wp2_with fail
            go_meet
            exact ⟨rfl, rfl⟩
        · cases q
          · go_wp2_with fail
            go_meet
            exact ⟨rfl, rfl⟩
          · go_wp2_with fail
            go_meet
            exact ⟨rfl, rfl⟩
      case rest =>
      obtain ⟨rfl, rfl⟩ := hcut
      go_upto_if 86 with fail
      go_cut [15] (fun s15 wx => s15 = .int .i64 (wantI p q) ∧ wx = wc)
      case first =>
        cases p
        · cases q
          · go_wp2_with fail
            go_meet
            exact ⟨rfl, rfl⟩
          · go_wp2_with fail
            go_meet
            exact ⟨rfl, rfl⟩
        · cases q
          · go_wp2_with fail
            go_meet
            exact ⟨rfl, rfl⟩
          · go_wp2_with fail
            go_meet
            exact ⟨rfl, rfl⟩
      case rest =>
      obtain ⟨rfl, rfl⟩ := hcut
      have hsame : sameB (mx a0 b0) (mx a1 b1) (mx a2 b2) (mx a3 b3) (mx a0 b0) (mx a1 b1) (mx a2 b2) (mx a3 b3) = true := by simp [sameB]
      have eqV := eqVecS
      have R0 : PairR w D ad m kx a0 a1 a2 a3 b0 b1 b2 b3 wc := ⟨hM.x, hM.y, hM.j, hM⟩
      clear hM
      go_upto_region 27 with fail
      go_cut [113] (fun s113 wx => s113 = .bool false ∧ PairR w D ad m kx a0 a1 a2 a3 b0 b1 b2 b3 wx)
      case first =>
        obtain ⟨⟨A0, A1, A2, A3⟩, ⟨A4, A5, A6, A7⟩, ⟨A8, A9, A10, A11⟩, A12⟩ := R0
        go_region_held3 (fun w' => (w'.cell? ⟨kx, 0, none⟩ = some (.int .i64 a0) ∧ w'.cell? ⟨kx, 1, none⟩ = some (.int .i64 a1) ∧ w'.cell? ⟨kx, 2, none⟩ = some (.int .i64 a2) ∧ w'.cell? ⟨kx, 3, none⟩ = some (.int .i64 a3)) ∧ (w'.cell? ⟨(kx + 1), 0, none⟩ = some (.int .i64 b0) ∧ w'.cell? ⟨(kx + 1), 1, none⟩ = some (.int .i64 b1) ∧ w'.cell? ⟨(kx + 1), 2, none⟩ = some (.int .i64 b2) ∧ w'.cell? ⟨(kx + 1), 3, none⟩ = some (.int .i64 b3)) ∧ (w'.cell? ⟨(kx + 1 + 1), 0, none⟩ = some (.int .i64 (mx a0 b0)) ∧ w'.cell? ⟨(kx + 1 + 1), 1, none⟩ = some (.int .i64 (mx a1 b1)) ∧ w'.cell? ⟨(kx + 1 + 1), 2, none⟩ = some (.int .i64 (mx a2 b2)) ∧ w'.cell? ⟨(kx + 1 + 1), 3, none⟩ = some (.int .i64 (mx a3 b3))) ∧ LoopS w D ad m kx a0 a1 a2 a3 b0 b1 b2 b3 (mx a0 b0) (mx a1 b1) (mx a2 b2) (mx a3 b3) w')
          (first
            | assumption
            | exact PairR.drew ⟨⟨A0, A1, A2, A3⟩, ⟨A4, A5, A6, A7⟩, ⟨A8, A9, A10, A11⟩, A12⟩
            | exact PairR.later (by assumption) (by assumption))
          (first
            | (go_at_call 31; refine (CJ.out _).mono ?_; rintro e w' ⟨rfl, hb⟩)
            | (go_at_call 32; refine (CC.out _).mono ?_; rintro e w' ⟨rfl, hb⟩)
            | (go_at_call 33; refine (CO.out _).mono ?_; rintro e w' ⟨rfl, hb⟩)
            | (go_at_call 34; refine (CL.out _).mono ?_; rintro e w' ⟨rfl, hb⟩))
        have R1 : PairR w D ad m kx a0 a1 a2 a3 b0 b1 b2 b3 w' := by assumption
        go_wp2_with fail
        go_meet
        exact ⟨rfl, R1⟩
      case rest =>
      obtain ⟨rfl, R1⟩ := hcut
      have hM := R1.2.2.2
      clear R1 R0 CJ CC CO CL hsame
      obtain ⟨A0, A1, A2, A3⟩ := id hM.a
      cases hbad : badI a0 a1 a2 a3 with
      | none =>
        have HB := Lib.hid ((badI_none _ _ _ _).1 hbad)
        clear hbad
        go_wp2_with fail
        refine (vfault_4 a0 a1 a2 a3 _ HB.out.1.1 HB.out.1.2 HB.out.2.1.1 HB.out.2.1.2 HB.out.2.2.1.1 HB.out.2.2.1.2 HB.out.2.2.2.1 HB.out.2.2.2.2).mono ?_
        rintro e w5 ⟨rfl, hb⟩
        have F0 := FauS.first (hM.later hb) 0 (-1)
        clear hb hM A0 A1 A2 A3
        go_upto_region 30 with fail
        generalize w5.alloc (.cells #[.int .i64 0, .int .i64 (-1)] 59) = w6 at F0 ⊢
        generalize w5.heap.size = kf at F0 ⊢
        go_cut [127] (fun s127 wx => s127 = .bool false ∧ FauR w D ad m kx kf a0 a1 a2 a3 0 (-1) wx)
        case first =>
          obtain ⟨⟨A0, A1, A2, A3⟩, ⟨A4, A5, A6, A7⟩, ⟨A8, A9⟩, A12⟩ := F0.r
          clear F0
          go_region_held3 (fun w' => (w'.cell? ⟨w.heap.size, 0, none⟩ = some (.int .i64 a0) ∧ w'.cell? ⟨w.heap.size, 1, none⟩ = some (.int .i64 a1) ∧ w'.cell? ⟨w.heap.size, 2, none⟩ = some (.int .i64 a2) ∧ w'.cell? ⟨w.heap.size, 3, none⟩ = some (.int .i64 a3)) ∧ (w'.cell? ⟨kx, 0, none⟩ = some (.int .i64 a0) ∧ w'.cell? ⟨kx, 1, none⟩ = some (.int .i64 a1) ∧ w'.cell? ⟨kx, 2, none⟩ = some (.int .i64 a2) ∧ w'.cell? ⟨kx, 3, none⟩ = some (.int .i64 a3)) ∧ (w'.cell? ⟨kf, 0, none⟩ = some (.int .i64 0) ∧ w'.cell? ⟨kf, 1, none⟩ = some (.int .i64 (-1))) ∧ FauS w D ad m kx kf a0 a1 a2 a3 0 (-1) w')
            (first
              | assumption
              | exact FauR.drew ⟨⟨A0, A1, A2, A3⟩, ⟨A4, A5, A6, A7⟩, ⟨A8, A9⟩, A12⟩
              | exact FauR.later (by assumption) (by assumption))
            (first
              | (go_at_call 37; refine (vcheck_ok a0 a1 a2 a3 _ HB.out.1.1 HB.out.1.2 HB.out.2.1.1 HB.out.2.1.2 HB.out.2.2.1.1 HB.out.2.2.1.2 HB.out.2.2.2.1 HB.out.2.2.2.2).mono ?_; rintro e w' ⟨rfl, hb⟩)
              | (go_at_call 36; refine (faulted_nil _).mono ?_; rintro e w' ⟨rfl, hb⟩)
              | (go_at_call 38; refine (vtext_any a0 a1 a2 a3 _ (FauR.env (by assumption)).tab HI.out.1.1 HI.out.1.2 HI.out.2.1.1 HI.out.2.1.2 HI.out.2.2.1.1 HI.out.2.2.1.2 HI.out.2.2.2.1 HI.out.2.2.2.2).mono ?_; rintro e w' ⟨rfl, hb⟩)
              | (go_at_call 39; refine (vectorText_any a0 a1 a2 a3 _ HI.out.1.1 HI.out.1.2 HI.out.2.1.1 HI.out.2.1.2 HI.out.2.2.1.1 HI.out.2.2.1.2 HI.out.2.2.2.1 HI.out.2.2.2.2).mono ?_; rintro e w' ⟨rfl, hb⟩))
          have R1 : FauR w D ad m kx kf a0 a1 a2 a3 0 (-1) w' := by assumption
          go_wp2_with fail
          go_meet
          exact ⟨rfl, R1⟩
        case rest =>
        obtain ⟨rfl, R2⟩ := hcut
        have F1 := R2.2.2.2
        clear R2 F0
        obtain ⟨A4, A5, A6, A7⟩ := id F1.x
        have A8 := F1.f0
        go_wp2_with fail
        refine (vtext_any a0 a1 a2 a3 _ F1.env.tab HI.out.1.1 HI.out.1.2 HI.out.2.1.1 HI.out.2.1.2 HI.out.2.2.1.1 HI.out.2.2.1.2 HI.out.2.2.2.1 HI.out.2.2.2.2).mono ?_
        rintro e w7 ⟨rfl, hb⟩
        have F2 := F1.later hb
        clear hb A4 A5 A6 A7 A8 F1
        go_wp2_with fail
        refine (read_own a0 a1 a2 a3 _ F2.env HB.out).mono ?_
        rintro e w8 ⟨rfl, hb⟩
        have F3 := F2.later hb
        clear hb F2
        have F4 := F3.later ((Below.refl _ _).alloc (Nat.le_refl _) (.cells #[.int .i64 a0, .int .i64 a1, .int .i64 a2, .int .i64 a3] 54))
        have A4 := fun o => (F3.x.later ((Below.refl _ _).alloc (Nat.le_refl _) o)).1
        have A5 := fun o => (F3.x.later ((Below.refl _ _).alloc (Nat.le_refl _) o)).2.1
        have A6 := fun o => (F3.x.later ((Below.refl _ _).alloc (Nat.le_refl _) o)).2.2.1
        have A7 := fun o => (F3.x.later ((Below.refl _ _).alloc (Nat.le_refl _) o)).2.2.2
        have hsame : sameB a0 a1 a2 a3 a0 a1 a2 a3 = true := by simp [sameB]
        clear F3
        go_wp2_with fail
        clear A4 A5 A6 A7 hsame
        generalize w8.alloc (.cells #[.int .i64 a0, .int .i64 a1, .int .i64 a2, .int .i64 a3] 54) = w9 at F4 ⊢
        rcases RV.cases (readL s.data.toList) with hR | ⟨k2, hR⟩ | ⟨n0, n1, n2, n3, hR⟩
        · have HR := Lib.hid hR
          clear hR
          refine (read_text s _ hs F4.env HR.out).mono ?_
          rintro e wA ⟨rfl, hb⟩
          have G1 := F4.later hb
          clear hb F4
          have G2 := G1.later ((Below.refl _ _).alloc (Nat.le_refl _) (.cells #[.int .i64 0, .int .i64 0, .int .i64 0, .int .i64 0] 54))
          have Z2 : VecAt (wA.alloc (.cells #[.int .i64 0, .int .i64 0, .int .i64 0, .int .i64 0] 54)) wA.heap.size 0 0 0 0 := by simp [VecAt, go_sem]
          have hkz : kf < wA.heap.size := World.block_lt_of_cell? wA ⟨kf, 0, none⟩ G1.f0
          clear G1
          go_wp2_with fail
          generalize wA.alloc (.cells #[.int .i64 0, .int .i64 0, .int .i64 0, .int .i64 0] 54) = wB at G2 Z2 ⊢
          generalize wA.heap.size = kz at Z2 hkz ⊢
          refine (vof_text s _ hs HR.out).mono ?_
          rintro e wC ⟨rfl, hb⟩
          have G3 := G2.later hb
          have Z3 := Z2.later hb
          have hlt : kf < wC.heap.size := World.block_lt_of_cell? wC ⟨kf, 0, none⟩ G3.f0
          have ne1 : ¬ kf = wC.heap.size := by omega
          have ne2 : ¬ wC.heap.size = kf := by omega
          clear hb G2 Z2
          have hAl : Below (((wC.setCell ⟨kf, 0, none⟩ (.int .i64 1)).setCell ⟨kf, 1, none⟩ (.int .i64 (-1)))).heap.size ((wC.setCell ⟨kf, 0, none⟩ (.int .i64 1)).setCell ⟨kf, 1, none⟩ (.int .i64 (-1))) (((wC.setCell ⟨kf, 0, none⟩ (.int .i64 1)).setCell ⟨kf, 1, none⟩ (.int .i64 (-1))).alloc (.cells #[.int .i64 0, .int .i64 0, .int .i64 0, .int .i64 0] 52)) := (Below.refl _ _).alloc (Nat.le_refl _) _
          have hBD : Below w.heap.size w (((wC.setCell ⟨kf, 0, none⟩ (.int .i64 1)).setCell ⟨kf, 1, none⟩ (.int .i64 (-1))).alloc (.cells #[.int .i64 0, .int .i64 0, .int .i64 0, .int .i64 0] 52)) :=
            ((G3.below.setCell G3.z _).setCell G3.z _).trans (hAl.mono ((G3.below.setCell (p := ⟨kf, 0, none⟩) G3.z _).setCell (p := ⟨kf, 1, none⟩) G3.z _).size)
          have Z4 : VecAt (((wC.setCell ⟨kf, 0, none⟩ (.int .i64 1)).setCell ⟨kf, 1, none⟩ (.int .i64 (-1))).alloc (.cells #[.int .i64 0, .int .i64 0, .int .i64 0, .int .i64 0] 52)) kz 0 0 0 0 := ((Z3.off (by omega)).off (by omega)).later hAl
          have W4 : VecAt (((wC.setCell ⟨kf, 0, none⟩ (.int .i64 1)).setCell ⟨kf, 1, none⟩ (.int .i64 (-1))).alloc (.cells #[.int .i64 0, .int .i64 0, .int .i64 0, .int .i64 0] 52)) wC.heap.size 0 0 0 0 := by simp [VecAt, go_sem]
          obtain ⟨-, -, f0, f1, g0, g1, -, -, -⟩ := id G3
          go_wp2_with fail
          clear hAl Z3 G3 f0 f1 g0 g1
          generalize (((wC.setCell ⟨kf, 0, none⟩ (.int .i64 1)).setCell ⟨kf, 1, none⟩ (.int .i64 (-1))).alloc (.cells #[.int .i64 0, .int .i64 0, .int .i64 0, .int .i64 0] 52)) = wD at hBD Z4 W4 ⊢
          refine (faulted_text _ (h.later hBD).errs).mono ?_
          rintro e wE ⟨rfl, hb⟩
          have Z5 := Z4.later hb
          have W5 := W4.later hb
          have BE : Below w.heap.size w wE := hBD.trans (hb.mono hBD.size)
          have hsame : sameB 0 0 0 0 0 0 0 0 = true := by simp [sameB]
          clear hb Z4 W4 hBD
          obtain ⟨q0, q1, q2, q3⟩ := Z5
          obtain ⟨q4, q5, q6, q7⟩ := W5
          go_wp2
          go_ret
          exact ⟨rfl, BE⟩
        · have HR := Lib.hid hR
          clear hR
          refine (read_bound s _ hs F4.env k2 HR.out).mono ?_
          rintro e wA ⟨nb, rfl, y0, y1, hb⟩
          have G1 := F4.later hb
          clear hb F4
          have G2 := G1.later ((Below.refl _ _).alloc (Nat.le_refl _) (.cells #[.int .i64 0, .int .i64 0, .int .i64 0, .int .i64 0] 54))
          have Z2 : VecAt (wA.alloc (.cells #[.int .i64 0, .int .i64 0, .int .i64 0, .int .i64 0] 54)) wA.heap.size 0 0 0 0 := by simp [VecAt, go_sem]
          have hkz : kf < wA.heap.size := World.block_lt_of_cell? wA ⟨kf, 0, none⟩ G1.f0
          have hnb : kf ≠ nb := fun e => by
            have := G1.f1
            rw [e, y1] at this
            cases this
          have y2 := cell_later ((Below.refl _ _).alloc (Nat.le_refl _) (.cells #[.int .i64 0, .int .i64 0, .int .i64 0, .int .i64 0] 54)) y0
          have y3 := cell_later ((Below.refl _ _).alloc (Nat.le_refl _) (.cells #[.int .i64 0, .int .i64 0, .int .i64 0, .int .i64 0] 54)) y1
          clear y0 y1
          clear G1
          go_wp2_with fail
          generalize wA.alloc (.cells #[.int .i64 0, .int .i64 0, .int .i64 0, .int .i64 0] 54) = wB at G2 Z2 y2 y3 ⊢
          generalize wA.heap.size = kz at Z2 hkz ⊢
          refine (vof_bound s _ hs k2 HR.out).mono ?_
          rintro e wC ⟨rfl, hb⟩
          have G3 := G2.later hb
          have Z3 := Z2.later hb
          have y4 := cell_later hb y2
          have y5 := cell_later hb y3
          clear y2 y3
          have hlt : kf < wC.heap.size := World.block_lt_of_cell? wC ⟨kf, 0, none⟩ G3.f0
          have ne1 : ¬ kf = wC.heap.size := by omega
          have ne2 : ¬ wC.heap.size = kf := by omega
          clear hb G2 Z2
          have hAl : Below (((wC.setCell ⟨kf, 0, none⟩ (.int .i64 2)).setCell ⟨kf, 1, none⟩ (.int .i64 (k2 : Int)))).heap.size ((wC.setCell ⟨kf, 0, none⟩ (.int .i64 2)).setCell ⟨kf, 1, none⟩ (.int .i64 (k2 : Int))) (((wC.setCell ⟨kf, 0, none⟩ (.int .i64 2)).setCell ⟨kf, 1, none⟩ (.int .i64 (k2 : Int))).alloc (.cells #[.int .i64 0, .int .i64 0, .int .i64 0, .int .i64 0] 52)) := (Below.refl _ _).alloc (Nat.le_refl _) _
          have hBD : Below w.heap.size w (((wC.setCell ⟨kf, 0, none⟩ (.int .i64 2)).setCell ⟨kf, 1, none⟩ (.int .i64 (k2 : Int))).alloc (.cells #[.int .i64 0, .int .i64 0, .int .i64 0, .int .i64 0] 52)) :=
            ((G3.below.setCell G3.z _).setCell G3.z _).trans (hAl.mono ((G3.below.setCell (p := ⟨kf, 0, none⟩) G3.z _).setCell (p := ⟨kf, 1, none⟩) G3.z _).size)
          have Z4 : VecAt (((wC.setCell ⟨kf, 0, none⟩ (.int .i64 2)).setCell ⟨kf, 1, none⟩ (.int .i64 (k2 : Int))).alloc (.cells #[.int .i64 0, .int .i64 0, .int .i64 0, .int .i64 0] 52)) kz 0 0 0 0 := ((Z3.off (by omega)).off (by omega)).later hAl
          have W4 : VecAt (((wC.setCell ⟨kf, 0, none⟩ (.int .i64 2)).setCell ⟨kf, 1, none⟩ (.int .i64 (k2 : Int))).alloc (.cells #[.int .i64 0, .int .i64 0, .int .i64 0, .int .i64 0] 52)) wC.heap.size 0 0 0 0 := by simp [VecAt, go_sem]
          have y6 := Lib.hid (cell_later hAl (((World.cell?_setCell_other _ _ _ _ (fun e => hnb (congrArg Addr.block e))).trans ((World.cell?_setCell_other _ _ _ _ (fun e => hnb (congrArg Addr.block e))).trans y4))))
          have y7 := Lib.hid (cell_later hAl (((World.cell?_setCell_other _ _ _ _ (fun e => hnb (congrArg Addr.block e))).trans ((World.cell?_setCell_other _ _ _ _ (fun e => hnb (congrArg Addr.block e))).trans y5))))
          clear y4 y5
          obtain ⟨-, -, f0, f1, g0, g1, -, -, -⟩ := id G3
          go_wp2_with fail
          clear hAl Z3 G3 f0 f1 g0 g1
          generalize (((wC.setCell ⟨kf, 0, none⟩ (.int .i64 2)).setCell ⟨kf, 1, none⟩ (.int .i64 (k2 : Int))).alloc (.cells #[.int .i64 0, .int .i64 0, .int .i64 0, .int .i64 0] 52)) = wD at hBD Z4 W4 y6 y7 ⊢
          refine (faulted_bound _ (h.later hBD).errs nb _ y6.out y7.out).mono ?_
          rintro e wE ⟨rfl, hb⟩
          have Z5 := Z4.later hb
          have W5 := W4.later hb
          have BE : Below w.heap.size w wE := hBD.trans (hb.mono hBD.size)
          have hsame : sameB 0 0 0 0 0 0 0 0 = true := by simp [sameB]
          clear hb Z4 W4 hBD
          obtain ⟨q0, q1, q2, q3⟩ := Z5
          obtain ⟨q4, q5, q6, q7⟩ := W5
          go_wp2
          go_ret
          exact ⟨rfl, BE⟩
        · have HR := Lib.hid hR
          clear hR
          refine (read_ok s _ hs F4.env n0 n1 n2 n3 HR.out).mono ?_
          rintro e wA ⟨rfl, hb⟩
          have G1 := F4.later hb
          clear hb F4
          have G2 := G1.later ((Below.refl _ _).alloc (Nat.le_refl _) (.cells #[.int .i64 (n0 : Int), .int .i64 (n1 : Int), .int .i64 (n2 : Int), .int .i64 (n3 : Int)] 54))
          have Z2 : VecAt (wA.alloc (.cells #[.int .i64 (n0 : Int), .int .i64 (n1 : Int), .int .i64 (n2 : Int), .int .i64 (n3 : Int)] 54)) wA.heap.size (n0 : Int) (n1 : Int) (n2 : Int) (n3 : Int) := by simp [VecAt, go_sem]
          have hkz : kf < wA.heap.size := World.block_lt_of_cell? wA ⟨kf, 0, none⟩ G1.f0
          clear G1
          go_wp2_with fail
          generalize wA.alloc (.cells #[.int .i64 (n0 : Int), .int .i64 (n1 : Int), .int .i64 (n2 : Int), .int .i64 (n3 : Int)] 54) = wB at G2 Z2 ⊢
          generalize wA.heap.size = kz at Z2 hkz ⊢
          refine (vof_ok s _ hs n0 n1 n2 n3 HR.out).mono ?_
          rintro e wC ⟨rfl, hb⟩
          have G3 := G2.later hb
          have Z3 := Z2.later hb
          have hlt : kf < wC.heap.size := World.block_lt_of_cell? wC ⟨kf, 0, none⟩ G3.f0
          have ne1 : ¬ kf = wC.heap.size := by omega
          have ne2 : ¬ wC.heap.size = kf := by omega
          clear hb G2 Z2
          have hAl : Below (((wC.setCell ⟨kf, 0, none⟩ (.int .i64 0)).setCell ⟨kf, 1, none⟩ (.int .i64 (-1)))).heap.size ((wC.setCell ⟨kf, 0, none⟩ (.int .i64 0)).setCell ⟨kf, 1, none⟩ (.int .i64 (-1))) (((wC.setCell ⟨kf, 0, none⟩ (.int .i64 0)).setCell ⟨kf, 1, none⟩ (.int .i64 (-1))).alloc (.cells #[.int .i64 (n0 : Int), .int .i64 (n1 : Int), .int .i64 (n2 : Int), .int .i64 (n3 : Int)] 52)) := (Below.refl _ _).alloc (Nat.le_refl _) _
          have hBD : Below w.heap.size w (((wC.setCell ⟨kf, 0, none⟩ (.int .i64 0)).setCell ⟨kf, 1, none⟩ (.int .i64 (-1))).alloc (.cells #[.int .i64 (n0 : Int), .int .i64 (n1 : Int), .int .i64 (n2 : Int), .int .i64 (n3 : Int)] 52)) :=
            ((G3.below.setCell G3.z _).setCell G3.z _).trans (hAl.mono ((G3.below.setCell (p := ⟨kf, 0, none⟩) G3.z _).setCell (p := ⟨kf, 1, none⟩) G3.z _).size)
          have Z4 : VecAt (((wC.setCell ⟨kf, 0, none⟩ (.int .i64 0)).setCell ⟨kf, 1, none⟩ (.int .i64 (-1))).alloc (.cells #[.int .i64 (n0 : Int), .int .i64 (n1 : Int), .int .i64 (n2 : Int), .int .i64 (n3 : Int)] 52)) kz (n0 : Int) (n1 : Int) (n2 : Int) (n3 : Int) := ((Z3.off (by omega)).off (by omega)).later hAl
          have W4 : VecAt (((wC.setCell ⟨kf, 0, none⟩ (.int .i64 0)).setCell ⟨kf, 1, none⟩ (.int .i64 (-1))).alloc (.cells #[.int .i64 (n0 : Int), .int .i64 (n1 : Int), .int .i64 (n2 : Int), .int .i64 (n3 : Int)] 52)) wC.heap.size (n0 : Int) (n1 : Int) (n2 : Int) (n3 : Int) := by simp [VecAt, go_sem]
          obtain ⟨-, -, f0, f1, g0, g1, -, -, -⟩ := id G3
          go_wp2_with fail
          clear hAl Z3 G3 f0 f1 g0 g1
          generalize (((wC.setCell ⟨kf, 0, none⟩ (.int .i64 0)).setCell ⟨kf, 1, none⟩ (.int .i64 (-1))).alloc (.cells #[.int .i64 (n0 : Int), .int .i64 (n1 : Int), .int .i64 (n2 : Int), .int .i64 (n3 : Int)] 52)) = wD at hBD Z4 W4 ⊢
          refine (faulted_nil _).mono ?_
          rintro e wE ⟨rfl, hb⟩
          have Z5 := Z4.later hb
          have W5 := W4.later hb
          have BE : Below w.heap.size w wE := hBD.trans (hb.mono hBD.size)
          have hsame : sameB (n0 : Int) (n1 : Int) (n2 : Int) (n3 : Int) (n0 : Int) (n1 : Int) (n2 : Int) (n3 : Int) = true := by simp [sameB]
          clear hb Z4 W4 hBD
          obtain ⟨q0, q1, q2, q3⟩ := Z5
          obtain ⟨q4, q5, q6, q7⟩ := W5
          go_wp2
          go_ret
          exact ⟨rfl, BE⟩
      | some k =>
        have HB := Lib.hid hbad
        clear hbad
        go_wp2_with fail
        refine (vfault_bad a0 a1 a2 a3 k _ HB.out).mono ?_
        rintro e w5 ⟨rfl, hb⟩
        have F0 := FauS.first (hM.later hb) 2 (k : Int)
        clear hb hM A0 A1 A2 A3
        go_upto_region 30 with fail
        generalize w5.alloc (.cells #[.int .i64 2, .int .i64 (k : Int)] 59) = w6 at F0 ⊢
        generalize w5.heap.size = kf at F0 ⊢
        go_cut [127] (fun s127 wx => s127 = .bool false ∧ FauR w D ad m kx kf a0 a1 a2 a3 2 (k : Int) wx)
        case first =>
          obtain ⟨⟨A0, A1, A2, A3⟩, ⟨A4, A5, A6, A7⟩, ⟨A8, A9⟩, A12⟩ := F0.r
          clear F0
          go_region_held3 (fun w' => (w'.cell? ⟨w.heap.size, 0, none⟩ = some (.int .i64 a0) ∧ w'.cell? ⟨w.heap.size, 1, none⟩ = some (.int .i64 a1) ∧ w'.cell? ⟨w.heap.size, 2, none⟩ = some (.int .i64 a2) ∧ w'.cell? ⟨w.heap.size, 3, none⟩ = some (.int .i64 a3)) ∧ (w'.cell? ⟨kx, 0, none⟩ = some (.int .i64 a0) ∧ w'.cell? ⟨kx, 1, none⟩ = some (.int .i64 a1) ∧ w'.cell? ⟨kx, 2, none⟩ = some (.int .i64 a2) ∧ w'.cell? ⟨kx, 3, none⟩ = some (.int .i64 a3)) ∧ (w'.cell? ⟨kf, 0, none⟩ = some (.int .i64 2) ∧ w'.cell? ⟨kf, 1, none⟩ = some (.int .i64 (k : Int))) ∧ FauS w D ad m kx kf a0 a1 a2 a3 2 (k : Int) w')
            (first
              | assumption
              | exact FauR.drew ⟨⟨A0, A1, A2, A3⟩, ⟨A4, A5, A6, A7⟩, ⟨A8, A9⟩, A12⟩
              | exact FauR.later (by assumption) (by assumption))
            (first
              | (go_at_call 37; refine (vcheck_bad a0 a1 a2 a3 k _ _ _ (FauR.env (by assumption)).b HB.out).mono ?_; rintro e w' ⟨rfl, y0, y1, -, hb⟩)
              | (go_at_call 36; refine (faulted_bound _ (FauR.env (by assumption)).errs _ _ (by assumption) (by assumption)).mono ?_; rintro e w' ⟨rfl, hb⟩)
              | (go_at_call 38; refine (vtext_any a0 a1 a2 a3 _ (FauR.env (by assumption)).tab HI.out.1.1 HI.out.1.2 HI.out.2.1.1 HI.out.2.1.2 HI.out.2.2.1.1 HI.out.2.2.1.2 HI.out.2.2.2.1 HI.out.2.2.2.2).mono ?_; rintro e w' ⟨rfl, hb⟩)
              | (go_at_call 39; refine (vectorText_any a0 a1 a2 a3 _ HI.out.1.1 HI.out.1.2 HI.out.2.1.1 HI.out.2.1.2 HI.out.2.2.1.1 HI.out.2.2.1.2 HI.out.2.2.2.1 HI.out.2.2.2.2).mono ?_; rintro e w' ⟨rfl, hb⟩))
          have R1 : FauR w D ad m kx kf a0 a1 a2 a3 2 (k : Int) w' := by assumption
          go_wp2_with fail
          go_meet
          exact ⟨rfl, R1⟩
        case rest =>
        obtain ⟨rfl, R2⟩ := hcut
        have F1 := R2.2.2.2
        clear R2 F0
        have A8 := F1.f0
        go_wp2_with fail
        clear A8
        rcases RV.cases (readL s.data.toList) with hR | ⟨k2, hR⟩ | ⟨n0, n1, n2, n3, hR⟩
        · have HR := Lib.hid hR
          clear hR
          refine (read_text s _ hs F1.env HR.out).mono ?_
          rintro e wA ⟨rfl, hb⟩
          have G1 := F1.later hb
          clear hb F1
          have G2 := G1.later ((Below.refl _ _).alloc (Nat.le_refl _) (.cells #[.int .i64 0, .int .i64 0, .int .i64 0, .int .i64 0] 54))
          have Z2 : VecAt (wA.alloc (.cells #[.int .i64 0, .int .i64 0, .int .i64 0, .int .i64 0] 54)) wA.heap.size 0 0 0 0 := by simp [VecAt, go_sem]
          have hkz : kf < wA.heap.size := World.block_lt_of_cell? wA ⟨kf, 0, none⟩ G1.f0
          clear G1
          go_wp2_with fail
          generalize wA.alloc (.cells #[.int .i64 0, .int .i64 0, .int .i64 0, .int .i64 0] 54) = wB at G2 Z2 ⊢
          generalize wA.heap.size = kz at Z2 hkz ⊢
          refine (vof_text s _ hs HR.out).mono ?_
          rintro e wC ⟨rfl, hb⟩
          have G3 := G2.later hb
          have Z3 := Z2.later hb
          have hlt : kf < wC.heap.size := World.block_lt_of_cell? wC ⟨kf, 0, none⟩ G3.f0
          have ne1 : ¬ kf = wC.heap.size := by omega
          have ne2 : ¬ wC.heap.size = kf := by omega
          clear hb G2 Z2
          have hAl : Below (((wC.setCell ⟨kf, 0, none⟩ (.int .i64 1)).setCell ⟨kf, 1, none⟩ (.int .i64 (-1)))).heap.size ((wC.setCell ⟨kf, 0, none⟩ (.int .i64 1)).setCell ⟨kf, 1, none⟩ (.int .i64 (-1))) (((wC.setCell ⟨kf, 0, none⟩ (.int .i64 1)).setCell ⟨kf, 1, none⟩ (.int .i64 (-1))).alloc (.cells #[.int .i64 0, .int .i64 0, .int .i64 0, .int .i64 0] 52)) := (Below.refl _ _).alloc (Nat.le_refl _) _
          have hBD : Below w.heap.size w (((wC.setCell ⟨kf, 0, none⟩ (.int .i64 1)).setCell ⟨kf, 1, none⟩ (.int .i64 (-1))).alloc (.cells #[.int .i64 0, .int .i64 0, .int .i64 0, .int .i64 0] 52)) :=
            ((G3.below.setCell G3.z _).setCell G3.z _).trans (hAl.mono ((G3.below.setCell (p := ⟨kf, 0, none⟩) G3.z _).setCell (p := ⟨kf, 1, none⟩) G3.z _).size)
          have Z4 : VecAt (((wC.setCell ⟨kf, 0, none⟩ (.int .i64 1)).setCell ⟨kf, 1, none⟩ (.int .i64 (-1))).alloc (.cells #[.int .i64 0, .int .i64 0, .int .i64 0, .int .i64 0] 52)) kz 0 0 0 0 := ((Z3.off (by omega)).off (by omega)).later hAl
          have W4 : VecAt (((wC.setCell ⟨kf, 0, none⟩ (.int .i64 1)).setCell ⟨kf, 1, none⟩ (.int .i64 (-1))).alloc (.cells #[.int .i64 0, .int .i64 0, .int .i64 0, .int .i64 0] 52)) wC.heap.size 0 0 0 0 := by simp [VecAt, go_sem]
          obtain ⟨-, -, f0, f1, g0, g1, -, -, -⟩ := id G3
          go_wp2_with fail
          clear hAl Z3 G3 f0 f1 g0 g1
          generalize (((wC.setCell ⟨kf, 0, none⟩ (.int .i64 1)).setCell ⟨kf, 1, none⟩ (.int .i64 (-1))).alloc (.cells #[.int .i64 0, .int .i64 0, .int .i64 0, .int .i64 0] 52)) = wD at hBD Z4 W4 ⊢
          refine (faulted_text _ (h.later hBD).errs).mono ?_
          rintro e wE ⟨rfl, hb⟩
          have Z5 := Z4.later hb
          have W5 := W4.later hb
          have BE : Below w.heap.size w wE := hBD.trans (hb.mono hBD.size)
          have hsame : sameB 0 0 0 0 0 0 0 0 = true := by simp [sameB]
          clear hb Z4 W4 hBD
          obtain ⟨q0, q1, q2, q3⟩ := Z5
          obtain ⟨q4, q5, q6, q7⟩ := W5
          go_wp2
          go_ret
          exact ⟨rfl, BE⟩
        · have HR := Lib.hid hR
          clear hR
          refine (read_bound s _ hs F1.env k2 HR.out).mono ?_
          rintro e wA ⟨nb, rfl, y0, y1, hb⟩
          have G1 := F1.later hb
          clear hb F1
          have G2 := G1.later ((Below.refl _ _).alloc (Nat.le_refl _) (.cells #[.int .i64 0, .int .i64 0, .int .i64 0, .int .i64 0] 54))
          have Z2 : VecAt (wA.alloc (.cells #[.int .i64 0, .int .i64 0, .int .i64 0, .int .i64 0] 54)) wA.heap.size 0 0 0 0 := by simp [VecAt, go_sem]
          have hkz : kf < wA.heap.size := World.block_lt_of_cell? wA ⟨kf, 0, none⟩ G1.f0
          have hnb : kf ≠ nb := fun e => by
            have := G1.f1
            rw [e, y1] at this
            cases this
          have y2 := cell_later ((Below.refl _ _).alloc (Nat.le_refl _) (.cells #[.int .i64 0, .int .i64 0, .int .i64 0, .int .i64 0] 54)) y0
          have y3 := cell_later ((Below.refl _ _).alloc (Nat.le_refl _) (.cells #[.int .i64 0, .int .i64 0, .int .i64 0, .int .i64 0] 54)) y1
          clear y0 y1
          clear G1
          go_wp2_with fail
          generalize wA.alloc (.cells #[.int .i64 0, .int .i64 0, .int .i64 0, .int .i64 0] 54) = wB at G2 Z2 y2 y3 ⊢
          generalize wA.heap.size = kz at Z2 hkz ⊢
          refine (vof_bound s _ hs k2 HR.out).mono ?_
          rintro e wC ⟨rfl, hb⟩
          have G3 := G2.later hb
          have Z3 := Z2.later hb
          have y4 := cell_later hb y2
          have y5 := cell_later hb y3
          clear y2 y3
          have hlt : kf < wC.heap.size := World.block_lt_of_cell? wC ⟨kf, 0, none⟩ G3.f0
          have ne1 : ¬ kf = wC.heap.size := by omega
          have ne2 : ¬ wC.heap.size = kf := by omega
          clear hb G2 Z2
          have hAl : Below (((wC.setCell ⟨kf, 0, none⟩ (.int .i64 2)).setCell ⟨kf, 1, none⟩ (.int .i64 (k2 : Int)))).heap.size ((wC.setCell ⟨kf, 0, none⟩ (.int .i64 2)).setCell ⟨kf, 1, none⟩ (.int .i64 (k2 : Int))) (((wC.setCell ⟨kf, 0, none⟩ (.int .i64 2)).setCell ⟨kf, 1, none⟩ (.int .i64 (k2 : Int))).alloc (.cells #[.int .i64 0, .int .i64 0, .int .i64 0, .int .i64 0] 52)) := (Below.refl _ _).alloc (Nat.le_refl _) _
          have hBD : Below w.heap.size w (((wC.setCell ⟨kf, 0, none⟩ (.int .i64 2)).setCell ⟨kf, 1, none⟩ (.int .i64 (k2 : Int))).alloc (.cells #[.int .i64 0, .int .i64 0, .int .i64 0, .int .i64 0] 52)) :=
            ((G3.below.setCell G3.z _).setCell G3.z _).trans (hAl.mono ((G3.below.setCell (p := ⟨kf, 0, none⟩) G3.z _).setCell (p := ⟨kf, 1, none⟩) G3.z _).size)
          have Z4 : VecAt (((wC.setCell ⟨kf, 0, none⟩ (.int .i64 2)).setCell ⟨kf, 1, none⟩ (.int .i64 (k2 : Int))).alloc (.cells #[.int .i64 0, .int .i64 0, .int .i64 0, .int .i64 0] 52)) kz 0 0 0 0 := ((Z3.off (by omega)).off (by omega)).later hAl
          have W4 : VecAt (((wC.setCell ⟨kf, 0, none⟩ (.int .i64 2)).setCell ⟨kf, 1, none⟩ (.int .i64 (k2 : Int))).alloc (.cells #[.int .i64 0, .int .i64 0, .int .i64 0, .int .i64 0] 52)) wC.heap.size 0 0 0 0 := by simp [VecAt, go_sem]
          have y6 := Lib.hid (cell_later hAl (((World.cell?_setCell_other _ _ _ _ (fun e => hnb (congrArg Addr.block e))).trans ((World.cell?_setCell_other _ _ _ _ (fun e => hnb (congrArg Addr.block e))).trans y4))))
          have y7 := Lib.hid (cell_later hAl (((World.cell?_setCell_other _ _ _ _ (fun e => hnb (congrArg Addr.block e))).trans ((World.cell?_setCell_other _ _ _ _ (fun e => hnb (congrArg Addr.block e))).trans y5))))
          clear y4 y5
          obtain ⟨-, -, f0, f1, g0, g1, -, -, -⟩ := id G3
          go_wp2_with fail
          clear hAl Z3 G3 f0 f1 g0 g1
          generalize (((wC.setCell ⟨kf, 0, none⟩ (.int .i64 2)).setCell ⟨kf, 1, none⟩ (.int .i64 (k2 : Int))).alloc (.cells #[.int .i64 0, .int .i64 0, .int .i64 0, .int .i64 0] 52)) = wD at hBD Z4 W4 y6 y7 ⊢
          refine (faulted_bound _ (h.later hBD).errs nb _ y6.out y7.out).mono ?_
          rintro e wE ⟨rfl, hb⟩
          have Z5 := Z4.later hb
          have W5 := W4.later hb
          have BE : Below w.heap.size w wE := hBD.trans (hb.mono hBD.size)
          have hsame : sameB 0 0 0 0 0 0 0 0 = true := by simp [sameB]
          clear hb Z4 W4 hBD
          obtain ⟨q0, q1, q2, q3⟩ := Z5
          obtain ⟨q4, q5, q6, q7⟩ := W5
          go_wp2
          go_ret
          exact ⟨rfl, BE⟩
        · have HR := Lib.hid hR
          clear hR
          refine (read_ok s _ hs F1.env n0 n1 n2 n3 HR.out).mono ?_
          rintro e wA ⟨rfl, hb⟩
          have G1 := F1.later hb
          clear hb F1
          have G2 := G1.later ((Below.refl _ _).alloc (Nat.le_refl _) (.cells #[.int .i64 (n0 : Int), .int .i64 (n1 : Int), .int .i64 (n2 : Int), .int .i64 (n3 : Int)] 54))
          have Z2 : VecAt (wA.alloc (.cells #[.int .i64 (n0 : Int), .int .i64 (n1 : Int), .int .i64 (n2 : Int), .int .i64 (n3 : Int)] 54)) wA.heap.size (n0 : Int) (n1 : Int) (n2 : Int) (n3 : Int) := by simp [VecAt, go_sem]
          have hkz : kf < wA.heap.size := World.block_lt_of_cell? wA ⟨kf, 0, none⟩ G1.f0
          clear G1
          go_wp2_with fail
          generalize wA.alloc (.cells #[.int .i64 (n0 : Int), .int .i64 (n1 : Int), .int .i64 (n2 : Int), .int .i64 (n3 : Int)] 54) = wB at G2 Z2 ⊢
          generalize wA.heap.size = kz at Z2 hkz ⊢
          refine (vof_ok s _ hs n0 n1 n2 n3 HR.out).mono ?_
          rintro e wC ⟨rfl, hb⟩
          have G3 := G2.later hb
          have Z3 := Z2.later hb
          have hlt : kf < wC.heap.size := World.block_lt_of_cell? wC ⟨kf, 0, none⟩ G3.f0
          have ne1 : ¬ kf = wC.heap.size := by omega
          have ne2 : ¬ wC.heap.size = kf := by omega
          clear hb G2 Z2
          have hAl : Below (((wC.setCell ⟨kf, 0, none⟩ (.int .i64 0)).setCell ⟨kf, 1, none⟩ (.int .i64 (-1)))).heap.size ((wC.setCell ⟨kf, 0, none⟩ (.int .i64 0)).setCell ⟨kf, 1, none⟩ (.int .i64 (-1))) (((wC.setCell ⟨kf, 0, none⟩ (.int .i64 0)).setCell ⟨kf, 1, none⟩ (.int .i64 (-1))).alloc (.cells #[.int .i64 (n0 : Int), .int .i64 (n1 : Int), .int .i64 (n2 : Int), .int .i64 (n3 : Int)] 52)) := (Below.refl _ _).alloc (Nat.le_refl _) _
          have hBD : Below w.heap.size w (((wC.setCell ⟨kf, 0, none⟩ (.int .i64 0)).setCell ⟨kf, 1, none⟩ (.int .i64 (-1))).alloc (.cells #[.int .i64 (n0 : Int), .int .i64 (n1 : Int), .int .i64 (n2 : Int), .int .i64 (n3 : Int)] 52)) :=
            ((G3.below.setCell G3.z _).setCell G3.z _).trans (hAl.mono ((G3.below.setCell (p := ⟨kf, 0, none⟩) G3.z _).setCell (p := ⟨kf, 1, none⟩) G3.z _).size)
          have Z4 : VecAt (((wC.setCell ⟨kf, 0, none⟩ (.int .i64 0)).setCell ⟨kf, 1, none⟩ (.int .i64 (-1))).alloc (.cells #[.int .i64 (n0 : Int), .int .i64 (n1 : Int), .int .i64 (n2 : Int), .int .i64 (n3 : Int)] 52)) kz (n0 : Int) (n1 : Int) (n2 : Int) (n3 : Int) := ((Z3.off (by omega)).off (by omega)).later hAl
          have W4 : VecAt (((wC.setCell ⟨kf, 0, none⟩ (.int .i64 0)).setCell ⟨kf, 1, none⟩ (.int .i64 (-1))).alloc (.cells #[.int .i64 (n0 : Int), .int .i64 (n1 : Int), .int .i64 (n2 : Int), .int .i64 (n3 : Int)] 52)) wC.heap.size (n0 : Int) (n1 : Int) (n2 : Int) (n3 : Int) := by simp [VecAt, go_sem]
          obtain ⟨-, -, f0, f1, g0, g1, -, -, -⟩ := id G3
          go_wp2_with fail
          clear hAl Z3 G3 f0 f1 g0 g1
          generalize (((wC.setCell ⟨kf, 0, none⟩ (.int .i64 0)).setCell ⟨kf, 1, none⟩ (.int .i64 (-1))).alloc (.cells #[.int .i64 (n0 : Int), .int .i64 (n1 : Int), .int .i64 (n2 : Int), .int .i64 (n3 : Int)] 52)) = wD at hBD Z4 W4 ⊢
          refine (faulted_nil _).mono ?_
          rintro e wE ⟨rfl, hb⟩
          have Z5 := Z4.later hb
          have W5 := W4.later hb
          have BE : Below w.heap.size w wE := hBD.trans (hb.mono hBD.size)
          have hsame : sameB (n0 : Int) (n1 : Int) (n2 : Int) (n3 : Int) (n0 : Int) (n1 : Int) (n2 : Int) (n3 : Int) = true := by simp [sameB]
          clear hb Z4 W4 hBD
          obtain ⟨q0, q1, q2, q3⟩ := Z5
          obtain ⟨q4, q5, q6, q7⟩ := W5
          go_wp2
          go_ret
          exact ⟨rfl, BE⟩
end Go.Proofs.YtnfhbmgkiknaaaaDoor
