/- Contract of slices.rotateCmpFunc at elements of k cells, over the translation's bodies. -/
import Derived.Test.YtnfhbmgkiknaaaaDoorSortSwap
namespace Go.Proofs.YtnfhbmgkiknaaaaDoor
open Go.Shelf Go.RowKit Go.Lib Go.Sort

set_option maxHeartbeats 4000000 in
set_option maxRecDepth 1000000 in
theorem rotate_open {P : Program} {α : Type} [Inhabited α] (k : Nat) (L : STy P k) (hF : P.funcs[(167 : Nat)]? = some Tryd.f167) (hG : P.funcs[(145 : Nat)]? = some Tryd.f145) (enc : α → List Value) (blk off cap a m b : Nat) (d0 d : Array α) (w0 w : World) (cf : Value)
    (R : RowK enc k w0 blk off d0) (hs : d0.size = d.size) (S : SWK enc k w0 blk off d w) (ham : a < m) (hmb : m < b) (hb : b ≤ d.size) (hsz : d.size < 4611686018427387904) :
    Calls P 145 #[.slice (some ⟨blk, off, none⟩) d.size cap, .int .i64 a, .int .i64 m, .int .i64 b, cf] w fun e w' => e = .returned (.tuple #[]) ∧ ∃ d', Rot d d' a m b ∧ SWK enc k w0 blk off d' w' := by
  have mixed := L.mixed; have t0 := L.t0; have a0 := L.a0; have z0 := L.z0; have v0 := L.v0; have t3 := L.t3; have a3 := L.a3; have z3 := L.z3; have v3 := L.v3; have t4 := L.t4; have a4 := L.a4; have z4 := L.z4; have v4 := L.v4; have tS := L.tS; have aS := L.aS; have zS := L.zS; have vS := L.vS; have tC := L.tC; have aC := L.aC; have zC := L.zC; have vC := L.vC; have tU := L.tU; have aU := L.aU; have zU := L.zU; have vU := L.vU; have aE := L.aE; have zE := L.zE
  have eS : ∀ args w, (callFunc 167 args).run P w = .ok (.enter 167 args) w := enters_of hF (by kernel_rfl) rfl
  have S0 : Aside (SWK enc k w0 blk off d w) := S
  clear S
  go_enter hG, Tryd.ntmps145
  go_wp2
  go_loopg [10, 11] (b - a) (fun kx s10 s11 wr => ∃ (i j : Nat) (dk : Array α), s10 = .int .i64 (i : Int) ∧ s11 = .int .i64 (j : Int) ∧ 0 < i ∧ 0 < j ∧ a + i ≤ m ∧ m + j ≤ b ∧ i + j ≤ kx ∧ dk.size = d.size ∧ Aside (∀ d2, Rot dk d2 (m - i) m (m + j) → Rot d d2 a m b) ∧ Aside (SWK enc k w0 blk off dk wr))
  case atStart => exact ⟨m - a, b - m, d, by congr 1; omega, by congr 1; omega, by omega, by omega, by omega, by omega, by omega, rfl, (fun d2 h => by rw [show m - (m - a) = a by omega, show m + (b - m) = b by omega] at h; exact h), S0⟩
  case round =>
    clear S0
    obtain ⟨i, j, dk, rfl, rfl, hi, hj, him, hjm, hkx, hds, RT, S1⟩ := hrel
    rcases Nat.lt_trichotomy i j with hlt | rfl | hgt
    · have q1 : ((i : Int) != (j : Int)) = true := by simp; omega
      have q2 : decide ((j : Int) < (i : Int)) = false := by simp; omega
      go_wp2_with fail
      have c1 : (m : Int) - (i : Int) = ((m - i : Nat) : Int) := by omega
      have c2 : (m : Int) + (j : Int) - (i : Int) = ((m + j - i : Nat) : Int) := by omega
      rw [c1, c2, ← hds]
      clear c1 c2
      refine (swapRange_open k L hF enc blk off cap (m - i) (m + j - i) i d0 dk w0 wr cf R (by omega) S1.out (by omega) (by omega) (by omega)).mono ?_
      rintro e w2 ⟨rfl, d1, EX, S2⟩
      have hd1 : d1.size = d.size := by rw [EX.size, hds]
      have RT2 : Aside (∀ d2, Rot d1 d2 (m - i) m (m + (j - i)) → Rot d d2 a m b) := fun d2 h2 => RT.out d2 (Rot.right (by omega) hlt (by omega) EX h2)
      have S3 : Aside (SWK enc k w0 blk off d1 w2) := S2
      clear EX S2 S1 RT
      rw [hds]
      go_wp2
      go_roundg (i + (j - i))
      case measure => omega
      case rel => exact ⟨i, j - i, d1, rfl, by congr 1; omega, hi, by omega, him, by omega, Nat.le_refl _, hd1, RT2, S3⟩
    · have q1 : ((i : Int) != (i : Int)) = false := by simp
      go_wp2_with fail
      have c1 : (m : Int) - (i : Int) = ((m - i : Nat) : Int) := by omega
      rw [c1, ← hds]
      clear c1
      refine (swapRange_open k L hF enc blk off cap (m - i) m i d0 dk w0 wr cf R (by omega) S1.out (by omega) (by omega) (by omega)).mono ?_
      rintro e w2 ⟨rfl, d1, EX, S2⟩
      have RT2 := RT.out d1 (Rot.both (by omega) (by omega) EX)
      clear EX S1 RT
      go_wp2
      go_end0
      exact ⟨rfl, d1, RT2, S2⟩
    · have q1 : ((i : Int) != (j : Int)) = true := by simp; omega
      have q2 : decide ((j : Int) < (i : Int)) = true := by simp; omega
      go_wp2_with fail
      have c1 : (m : Int) - (i : Int) = ((m - i : Nat) : Int) := by omega
      rw [c1, ← hds]
      clear c1
      refine (swapRange_open k L hF enc blk off cap (m - i) m j d0 dk w0 wr cf R (by omega) S1.out (by omega) (by omega) (by omega)).mono ?_
      rintro e w2 ⟨rfl, d1, EX, S2⟩
      have hd1 : d1.size = d.size := by rw [EX.size, hds]
      have RT2 : Aside (∀ d2, Rot d1 d2 (m - (i - j)) m (m + j) → Rot d d2 a m b) := fun d2 h2 => RT.out d2 (Rot.left (by omega) hgt (by omega) EX h2)
      have S3 : Aside (SWK enc k w0 blk off d1 w2) := S2
      clear EX S2 S1 RT
      rw [hds]
      go_wp2
      go_roundg (i - j + j)
      case measure => omega
      case rel => exact ⟨i - j, j, d1, by congr 1; omega, rfl, by omega, hj, by omega, hjm, Nat.le_refl _, hd1, RT2, S3⟩
end Go.Proofs.YtnfhbmgkiknaaaaDoor
