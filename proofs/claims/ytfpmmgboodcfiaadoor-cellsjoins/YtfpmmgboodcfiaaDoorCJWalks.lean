/- The walk of the law CellsJoins. -/
import Derived.Test.YtfpmmgboodcfiaaDoorCJSt
import Derived.BigQuiet
import Derived.Deep.LoopGhost
import Derived.Deep.Cut
namespace Go.Proofs.YtfpmmgboodcfiaaDoor
open Go.RowKit Go.Lib Go.Sort Go.Maps

theorem belowN {B : Nat} {w w' : World} (h : Below B w w') (q : Nat) : Below B w (w'.drewN q) := ⟨h.os, h.tape, h.output, h.size, h.block⟩

set_option maxRecDepth 100000 in
set_option maxHeartbeats 8000000 in
theorem joins_law {ad : Nat → Addr} (w : World) (ao : Option Addr) (cap : Nat) (xs : List OpX) (cut : Int) (hE : Op4 ad w) (hX : OpsIn w ao xs) (hxn : xs.length < 9223372036854775808) :
    Calls Tryd.prog 4 #[.slice ao xs.length cap, .int .i64 cut] w fun e w' => e = .returned (.bool true) ∧ Below w.heap.size w w' := by
  have HE : Aside (Op4 ad w) := hE
  have HX : Aside (OpsIn w ao xs) := hX
  clear hE hX
  go_enter Tryd.func4, Tryd.ntmps4
  go_wp2_with fail
  refine (celled_any w HE.out).mono ?_
  rintro e w1 ⟨rfl, hb1⟩
  have B1 : Aside (Below w.heap.size w w1) := hb1
  clear hb1
  go_wp2_with fail
  refine (long60 w1 ao cap xs (HX.out.later B1.out) hxn).mono ?_
  rintro e w2 ⟨he, hw⟩
  subst hw
  rcases he with rfl | ⟨rfl, hx60, hshort⟩
  · go_wp2
    go_ret
    exact ⟨rfl, B1.out⟩
  have HS : Aside (∀ j, j < xs.length → Short xs[j]!) := hshort
  clear hshort
  by_cases hc0 : cut < 0
  · have dc : decide (cut < 0) = true := decide_eq_true hc0
    go_wp2
    go_ret
    exact ⟨rfl, B1.out⟩
  have dc : decide (cut < 0) = false := decide_eq_false hc0
  by_cases hc1 : (xs.length : Int) < cut
  · have dl : decide ((xs.length : Int) < cut) = true := decide_eq_true hc1
    go_wp2
    go_ret
    exact ⟨rfl, B1.out⟩
  have dl : decide ((xs.length : Int) < cut) = false := decide_eq_false hc1
  go_wp2
  clear dc dl
  obtain ⟨c, hcc⟩ : ∃ c : Nat, Aside (cut = (c : Int) ∧ c ≤ xs.length) := ⟨cut.toNat, by omega, by omega⟩
  clear hc0 hc1
  go_loopg [6, 7] xs.length (fun kx s6 s7 wr => ∃ (i : Nat) (o7 : Value), s6 = .int .i64 (i : Int) ∧ o7 = s7 ∧ i ≤ xs.length ∧ xs.length - i ≤ kx ∧ Aside (OneTo xs i 0 ∧ Below w.heap.size w wr))
  case atStart => exact ⟨0, _, rfl, rfl, Nat.zero_le _, Nat.le_refl _, oneTo_start xs, B1.out⟩
  case round =>
    obtain ⟨i, o7, rfl, rfl, hix, hkx, A⟩ := hrel
    obtain ⟨u, hu⟩ : ∃ u, u = wr := ⟨_, rfl⟩
    subst hu
    by_cases hlt : i < xs.length
    · have hltz : decide ((i : Int) < (xs.length : Int)) = true := by simp; omega
      have ex : ((i : Int)).toNat = i := by omega
      have px : (0 : Int) ≤ (i : Int) := by omega
      have bx : (i : Int) < (xs.length : Int) := by omega
      go_wp2
      go_loopg [7] i (fun ky s7 wr => ∃ (k : Nat), s7 = .int .i64 (k : Int) ∧ k ≤ i ∧ i - k ≤ ky ∧ Aside (OneTo xs i k ∧ Below w.heap.size w wr))
      case atStart => exact ⟨0, rfl, Nat.zero_le _, Nat.le_refl _, A⟩
      case round =>
        obtain ⟨k, rfl, hki, hky, K⟩ := hrel
        obtain ⟨uk, huk⟩ : ∃ uk, uk = wr := ⟨_, rfl⟩
        subst huk
        by_cases hkl : k < i
        · have hkz : decide ((k : Int) < (i : Int)) = true := by simp; omega
          have hkn : decide (k < i) = true := decide_eq_true hkl
          have ek : ((k : Int)).toNat = k := by omega
          have pk : (0 : Int) ≤ (k : Int) := by omega
          have bk : (k : Int) < (xs.length : Int) := by omega
          obtain ⟨blk, off, t, b, m, kd, node, other, name, value, rfl, E1, hx1⟩ := (HX.out.later K.out.2).at_ (i := k) (by omega)
          obtain ⟨blk', off', t', b', m', kd', node', other', name', value', hao, E2, hx2⟩ := (HX.out.later K.out.2).at_ (i := i) hlt
          obtain ⟨rfl, rfl⟩ : blk = blk' ∧ off = off' := by simpa using hao
          obtain ⟨f0, f1, f2, f3, f4, f5, f6, f7⟩ := E1
          obtain ⟨g0, g1, g2, g3, g4, g5, g6, g7⟩ := E2
          clear hao
          by_cases hs : (t, b) = (t', b')
          · have hq : ∀ w, (Op.equalIn 10000 36 (.agg #[.int .i64 t, .int .i64 b]) (.agg #[.int .i64 t', .int .i64 b'])).run Tryd.prog w = .ok true w := fun w => by rw [eqStB, decide_eq_true hs]
            have HSE := Lib.hid hs
            clear hs
            have hv := eqOp t b m kd node other name value t' b' m' kd' node' other' name' value'
            cases hz : eqB t b m kd node other name value t' b' m' kd' node' other' name' value' with
            | true =>
              rw [hz] at hv
              go_wp2_with fail
              go_quiet (fail)
              clear hq hv f0 f1 f2 f3 f4 f5 f6 f7 g0 g1 g2 g3 g4 g5 g6 g7
              go_wp2
              go_roundg (i - (k + 1))
              case measure => omega
              case rel =>
                refine ⟨k + 1, by go_num, by omega, Nat.le_refl _, K.out.1.step (fun _ _ => ?_), belowN K.out.2 _⟩
                unfold eqB at hz
                obtain ⟨rfl, rfl, rfl, rfl, rfl, rfl, rfl, rfl⟩ := of_decide_eq_true hz
                rw [hx1.out, hx2.out]
            | false =>
              rw [hz] at hv
              go_wp2_with fail
              go_quiet (fail)
              clear hq hv f0 f1 f2 f3 f4 f5 f6 f7 g0 g1 g2 g3 g4 g5 g6 g7
              go_wp2
              go_ret
              exact ⟨rfl, belowN K.out.2 _⟩
          · have hq : ∀ w, (Op.equalIn 10000 36 (.agg #[.int .i64 t, .int .i64 b]) (.agg #[.int .i64 t', .int .i64 b'])).run Tryd.prog w = .ok false w := fun w => by rw [eqStB, decide_eq_false hs]
            have HSE := Lib.hid hs
            clear hs
            go_wp2_with fail
            go_quiet (fail)
            clear hq f0 f1 f2 f3 f4 f5 f6 f7 g0 g1 g2 g3 g4 g5 g6 g7
            go_wp2
            go_roundg (i - (k + 1))
            case measure => omega
            case rel =>
              refine ⟨k + 1, by go_num, by omega, Nat.le_refl _, K.out.1.step (fun e1 e2 => absurd ?_ HSE.out), belowN K.out.2 _⟩
              rw [hx1.out, hx2.out] at e1 e2
              exact Prod.ext e1 e2
        · have hkz : decide ((k : Int) < (i : Int)) = false := by simp; omega
          have hkn : decide (k < i) = false := decide_eq_false hkl
          obtain rfl : k = i := by omega
          go_wp2
          go_roundg (xs.length - (k + 1))
          case measure => omega
          case rel => exact ⟨k + 1, _, by go_num, rfl, by omega, Nat.le_refl _, K.out.1.next, K.out.2⟩
    · have hltz : decide ((i : Int) < (xs.length : Int)) = false := by simp; omega
      obtain rfl : i = xs.length := by omega
      have HO : Aside (OneO xs) := A.out.1.all
      obtain ⟨B, hB⟩ : ∃ B, Aside (u.heap.size = B) := ⟨_, rfl⟩
      go_wp2_with fail
      refine (new_cells u).mono ?_
      rintro e ua ⟨rfl, hsa, hca, hba⟩
      rw [hB.out] at hsa hca ⊢
      have Ha : Aside (ua.heap.size = B + 2 ∧ CellsAt ua (B + 1) B 0 noC ∧ Below u.heap.size u ua) := ⟨hsa, hca, hba⟩
      clear hsa hca hba
      go_wp2_with fail
      refine (new_cells ua).mono ?_
      rintro e ub ⟨rfl, hsb, hcb, hbb⟩
      rw [Ha.out.1] at hsb hcb ⊢
      rw [show B + 2 + 1 = B + 3 from rfl] at hcb ⊢
      have Hb : Aside (ub.heap.size = B + 4 ∧ CellsAt ub (B + 3) (B + 2) 0 noC ∧ Below ua.heap.size ua ub) := ⟨hsb, hcb, hbb⟩
      clear hsb hcb hbb
      go_wp2_with fail
      refine (new_cells ub).mono ?_
      rintro e uc ⟨rfl, hsc, hcc2, hbc⟩
      rw [Hb.out.1] at hsc hcc2 ⊢
      rw [show B + 4 + 1 = B + 5 from rfl] at hcc2 ⊢
      have S0 : Aside (CJ w B 0 0 0 noC noC noC uc) := by
        have h1 := A.out.2.size
        have h2 := hB.out
        have h3 := Ha.out.1
        have h4 := Hb.out.1
        exact ⟨(Ha.out.2.1.later Hb.out.2.2).later hbc, Hb.out.2.1.later hbc, hcc2, A.out.2.trans ((Ha.out.2.2.trans ((Hb.out.2.2.trans (hbc.mono (by omega))).mono (by omega))).mono h1), by omega⟩
      clear hsc hcc2 hbc Ha Hb A B1
      go_wp2
      go_loopg [11] xs.length (fun kx s11 wr => ∃ (j : Nat) (z : Int), s11 = .int .i64 z ∧ j ≤ xs.length ∧ j ≤ kx ∧ Aside (z = (j : Int) - 1 ∧ CJ w B (xs.length - j) 0 0 (madeO (xs.drop j).reverse) noC noC wr))
      case atStart => exact ⟨xs.length, _, rfl, Nat.le_refl _, Nat.le_refl _, rfl, by simpa [madeO_nil] using S0.out⟩
      case round =>
        obtain ⟨j, z, rfl, hj, hjx, A⟩ := hrel
        clear S0
        obtain ⟨u1, hu1⟩ : ∃ u1, u1 = wr := ⟨_, rfl⟩
        subst hu1
        by_cases hj0 : 0 < j
        · obtain ⟨i, rfl⟩ : ∃ i, j = i + 1 := ⟨j - 1, by omega⟩
          have hz := A.out.1
          have dz : decide (0 ≤ z) = true := decide_eq_true (by omega)
          have ez : z.toNat = i := by omega
          have pz : 0 ≤ z := by omega
          have bz : z < (xs.length : Int) := by omega
          have lz : -9223372036854775808 ≤ z - 1 ∧ z - 1 ≤ 9223372036854775807 := by omega
          obtain ⟨blk, off, t, b, m, kd, node, other, name, value, rfl, E1, hx1⟩ := (HX.out.later A.out.2.below).at_ (i := i) (by omega)
          obtain ⟨f0, f1, f2, f3, f4, f5, f6, f7⟩ := E1
          have hsh := HS.out i (by omega)
          rw [hx1.out] at hsh
          have hset := cset_all (ad := ad) u1 (B + 1) B (xs.length - (i + 1)) (madeO (xs.drop (i + 1)).reverse) t b m kd node other name value (HE.out.later A.out.2.below) A.out.2.al (by omega) (by have := hsh.1; dsimp only at this; omega) (by have := hsh.2; dsimp only at this; omega)
          have HZ : Aside (z = ((i + 1 : Nat) : Int) - 1) := hz
          clear hz hsh
          go_wp2_with fail
          refine hset.mono ?_
          clear hset f0 f1 f2 f3 f4 f5 f6 f7
          rintro e u2 ⟨rfl, hok⟩
          have A2 : Aside (z - 1 = (i : Int) - 1 ∧ CJ w B (xs.length - i) 0 0 (madeO (xs.drop i).reverse) noC noC u2) := by
            have h := A.out.2.setL hok
            rw [← hx1.out, ← madeO_snoc, ← drop_rev (by omega), show xs.length - (i + 1) + 1 = xs.length - i by omega] at h
            exact ⟨by have := HZ.out; omega, h⟩
          clear hok
          go_wp2
          go_roundg i
          case measure => omega
          case rel => exact ⟨i, _, rfl, by omega, Nat.le_refl _, A2⟩
        · have hz := A.out.1
          obtain rfl : j = 0 := by omega
          have dz : decide (0 ≤ z) = false := decide_eq_false (by omega)
          clear hz
          have S1 : Aside (CJ w B xs.length 0 0 (madeO xs) noC noC u1) := by
            have h := A.out.2
            rw [List.drop_zero, madeO_rev HO.out, Nat.sub_zero] at h
            exact h
          go_wp2
          go_loopg [12] xs.length (fun kx s12 wr => ∃ (i : Nat), s12 = .int .i64 (i : Int) ∧ i ≤ xs.length ∧ xs.length - i ≤ kx ∧ Aside (CJ w B xs.length i i (madeO xs) (madeO (xs.take (min i c))) (madeO ((xs.take i).drop c)) wr))
          case atStart => exact ⟨0, rfl, Nat.zero_le _, Nat.le_refl _, (by simpa [madeO_nil] using S1.out : CJ w B xs.length 0 0 (madeO xs) (madeO (xs.take (min 0 c))) (madeO ((xs.take 0).drop c)) u1)⟩
          case round =>
            obtain ⟨i, rfl, hix2, hkx2, A2⟩ := hrel
            clear S1 A
            obtain ⟨u2, hu2⟩ : ∃ u2, u2 = wr := ⟨_, rfl⟩
            subst hu2
            by_cases hlt2 : i < xs.length
            · have hltz2 : decide ((i : Int) < (xs.length : Int)) = true := by simp; omega
              have ex : ((i : Int)).toNat = i := by omega
              have px : (0 : Int) ≤ (i : Int) := by omega
              have bx : (i : Int) < (xs.length : Int) := by omega
              obtain ⟨blk, off, t, b, m, kd, node, other, name, value, rfl, E1, hx1⟩ := (HX.out.later A2.out.below).at_ hlt2
              obtain ⟨f0, f1, f2, f3, f4, f5, f6, f7⟩ := E1
              have hsh := HS.out i hlt2
              rw [hx1.out] at hsh
              have hc1 := hcc.out.1
              by_cases hic : i < c
              · have dic : decide ((i : Int) < cut) = true := decide_eq_true (by omega)
                have hset := cset_all (ad := ad) u2 (B + 3) (B + 2) i (madeO (xs.take (min i c))) t b m kd node other name value (HE.out.later A2.out.below) A2.out.a (by omega) (by have := hsh.1; dsimp only at this; omega) (by have := hsh.2; dsimp only at this; omega)
                clear hsh hc1
                go_wp2_with fail
                refine hset.mono ?_
                clear hset f0 f1 f2 f3 f4 f5 f6 f7
                rintro e u3 ⟨rfl, hok⟩
                have A3 : Aside (CJ w B xs.length (i + 1) (i + 1) (madeO xs) (madeO (xs.take (min (i + 1) c))) (madeO ((xs.take (i + 1)).drop c)) u3) := by
                  have h := (A2.out.setA hok).monoB (Nat.le_succ i)
                  rw [← hx1.out, ← madeO_snoc, show min i c = i by omega, ← take_next hlt2] at h
                  rw [show min (i + 1) c = i + 1 by omega]
                  rw [List.drop_eq_nil_of_le (by rw [List.length_take]; omega)] at h ⊢
                  exact h
                clear hok
                go_wp2
                go_roundg (xs.length - (i + 1))
                case measure => omega
                case rel => exact ⟨i + 1, by go_num, by omega, Nat.le_refl _, A3⟩
              · have dic : decide ((i : Int) < cut) = false := decide_eq_false (by omega)
                have hset := cset_all (ad := ad) u2 (B + 5) (B + 4) i (madeO ((xs.take i).drop c)) t b m kd node other name value (HE.out.later A2.out.below) A2.out.b (by omega) (by have := hsh.1; dsimp only at this; omega) (by have := hsh.2; dsimp only at this; omega)
                clear hsh hc1
                go_wp2_with fail
                refine hset.mono ?_
                clear hset f0 f1 f2 f3 f4 f5 f6 f7
                rintro e u3 ⟨rfl, hok⟩
                have A3 : Aside (CJ w B xs.length (i + 1) (i + 1) (madeO xs) (madeO (xs.take (min (i + 1) c))) (madeO ((xs.take (i + 1)).drop c)) u3) := by
                  have h := (A2.out.setB hok).monoA (Nat.le_succ i)
                  rw [← hx1.out, ← madeO_snoc, ← drop_next hlt2 (by omega), show min i c = c by omega] at h
                  rw [show min (i + 1) c = c by omega]
                  exact h
                clear hok
                go_wp2
                go_roundg (xs.length - (i + 1))
                case measure => omega
                case rel => exact ⟨i + 1, by go_num, by omega, Nat.le_refl _, A3⟩
            · have hltz2 : decide ((i : Int) < (xs.length : Int)) = false := by simp; omega
              obtain rfl : i = xs.length := by omega
              have S2 : Aside (CJ w B xs.length xs.length xs.length (madeO xs) (madeO (xs.take c)) (madeO (xs.drop c)) u2) := by
                have h := A2.out
                rw [show min xs.length c = c from by have := hcc.out.2; omega, List.take_length] at h
                exact h
              clear A2
              have hnn : xs.length + xs.length ≤ 100000 := by omega
              go_wp2_with fail
              refine (join_any u2 _ _ xs.length xs.length (madeO (xs.take c)) (madeO (xs.drop c)) (.inr ⟨_, _, rfl, S2.out.a⟩) (.inr ⟨_, _, rfl, S2.out.b⟩) hnn).mono ?_
              rintro e u3 ⟨bx, mx, rfl, hCx, hbx, hmx, hb3⟩
              rw [madeO_parts HO.out] at hCx
              have S3 : Aside (CJ w B xs.length xs.length xs.length (madeO xs) (madeO (xs.take c)) (madeO (xs.drop c)) u3 ∧ CellsAt u3 bx mx (xs.length + xs.length) (madeO xs)) := ⟨S2.out.later hb3, hCx⟩
              clear hCx hbx hmx hb3 S2 hnn
              have hnn : xs.length + (xs.length + xs.length) ≤ 100000 := by omega
              go_wp2_with fail
              refine (join_any u3 _ _ xs.length (xs.length + xs.length) (madeO (xs.drop c)) (madeO xs) (.inr ⟨_, _, rfl, S3.out.1.b⟩) (.inr ⟨_, _, rfl, S3.out.2⟩) hnn).mono ?_
              rintro e u4 ⟨b4, m4, rfl, hC4, -, -, hb4⟩
              rw [madeO_again HO.out] at hC4
              have S4 : Aside (CJ w B xs.length xs.length xs.length (madeO xs) (madeO (xs.take c)) (madeO (xs.drop c)) u4 ∧ CellsAt u4 bx mx (xs.length + xs.length) (madeO xs) ∧ CellsAt u4 b4 m4 (xs.length + (xs.length + xs.length)) (madeO xs)) := ⟨S3.out.1.later hb4, S3.out.2.later hb4, hC4⟩
              clear hC4 hb4 S3 hnn
              have hnn : xs.length + (xs.length + xs.length) + 0 ≤ 100000 := by omega
              go_wp2_with fail
              refine (join_any u4 _ _ (xs.length + (xs.length + xs.length)) 0 (madeO xs) noC (.inr ⟨_, _, rfl, S4.out.2.2⟩) (.inl ⟨rfl, rfl⟩) hnn).mono ?_
              rintro e u5 ⟨b5, m5, rfl, hC5, -, -, hb5⟩
              rw [joinC_noC, Nat.add_zero] at hC5
              have S5 : Aside (CJ w B xs.length xs.length xs.length (madeO xs) (madeO (xs.take c)) (madeO (xs.drop c)) u5 ∧ CellsAt u5 bx mx (xs.length + xs.length) (madeO xs) ∧ CellsAt u5 b5 m5 (xs.length + (xs.length + xs.length)) (madeO xs)) := ⟨S4.out.1.later hb5, S4.out.2.1.later hb5, hC5⟩
              clear hC5 hb5 S4 hnn
              go_wp2_with fail
              refine (marks_any u5 (B + 1) B xs.length (madeO xs) S5.out.1.al (by omega)).mono ?_
              rintro e u6 ⟨ap, cp, qs, rfl, hM, hqn, hIp, hb6⟩
              have S6 : Aside (IsMarks (madeO xs) qs ∧ InRow cellsM u6 ap qs ∧ Below w.heap.size w u6 ∧ CellsAt u6 bx mx (xs.length + xs.length) (madeO xs) ∧ CellsAt u6 b5 m5 (xs.length + (xs.length + xs.length)) (madeO xs)) := ⟨hM, hIp, S5.out.1.below.trans (hb6.mono S5.out.1.below.size), S5.out.2.1.later hb6, S5.out.2.2.later hb6⟩
              clear hM hIp hb6 S5
              go_wp2_with fail
              refine (marks_any u6 bx mx (xs.length + xs.length) (madeO xs) S6.out.2.2.2.1 (by omega)).mono ?_
              rintro e u7 ⟨aq, cq, qs2, rfl, hM, -, hIq, hb7⟩
              obtain rfl : qs = qs2 := S6.out.1.unique hM
              have S7 : Aside (IsMarks (madeO xs) qs ∧ InRow cellsM u7 ap qs ∧ InRow cellsM u7 aq qs ∧ Below w.heap.size w u7 ∧ CellsAt u7 b5 m5 (xs.length + (xs.length + xs.length)) (madeO xs)) := ⟨hM, S6.out.2.1.later hb7, hIq, S6.out.2.2.1.trans (hb7.mono S6.out.2.2.1.size), S6.out.2.2.2.2.later hb7⟩
              clear hM hIq hb7 S6
              go_wp2_with fail
              refine (marks_any u7 b5 m5 (xs.length + (xs.length + xs.length)) (madeO xs) S7.out.2.2.2.2 (by omega)).mono ?_
              rintro e u8 ⟨ar, cr, qs3, rfl, hM, -, hIr, hb8⟩
              obtain rfl : qs = qs3 := S7.out.1.unique hM
              have S8 : Aside (InRow cellsM u8 ap qs ∧ InRow cellsM u8 aq qs ∧ InRow cellsM u8 ar qs ∧ Below w.heap.size w u8) := ⟨S7.out.2.1.later hb8, S7.out.2.2.1.later hb8, hIr, S7.out.2.2.2.1.trans (hb8.mono S7.out.2.2.2.1.size)⟩
              clear hM hIr hb8 S7
              have dq : ((qs.length : Int) != (qs.length : Int)) = false := by simp
              go_wp2
              clear dq
              go_loopg [18] qs.length (fun kx s18 wr => ∃ (i : Nat), s18 = .int .i64 (i : Int) ∧ i ≤ qs.length ∧ qs.length - i ≤ kx ∧ Aside (Below u8.heap.size u8 wr))
              case atStart => exact ⟨0, rfl, Nat.zero_le _, Nat.le_refl _, Below.refl _ _⟩
              case round =>
                obtain ⟨i, rfl, hi9, hkx9, A9⟩ := hrel
                obtain ⟨u9, hu9⟩ : ∃ u9, u9 = wr := ⟨_, rfl⟩
                subst hu9
                by_cases hlt9 : i < qs.length
                · have hltz9 : decide ((i : Int) < (qs.length : Int)) = true := by simp; omega
                  have ex : ((i : Int)).toNat = i := by omega
                  have px : (0 : Int) ≤ (i : Int) := by omega
                  have bx9 : (i : Int) < (qs.length : Int) := by omega
                  obtain ⟨⟨a, s, v⟩, hp⟩ : ∃ p : Mrk, qs[i]? = some p := ⟨_, List.getElem?_eq_getElem hlt9⟩
                  obtain ⟨g1, o1, rfl, h1⟩ := (S8.out.1.later A9.out).get cellsM_len hp
                  obtain ⟨g2, o2, rfl, h2⟩ := (S8.out.2.1.later A9.out).get cellsM_len hp
                  obtain ⟨g3, o3, rfl, h3⟩ := (S8.out.2.2.1.later A9.out).get cellsM_len hp
                  have x0 : u9.cell? ⟨g1, o1 + i * 3, none⟩ = some (.int .i64 a) := h1 0 _ rfl
                  have x1 : u9.cell? ⟨g1, o1 + i * 3 + 1, none⟩ = some (.string s) := h1 1 _ rfl
                  have x2 : u9.cell? ⟨g1, o1 + i * 3 + 2, none⟩ = some (.string v) := h1 2 _ rfl
                  have y0 : u9.cell? ⟨g2, o2 + i * 3, none⟩ = some (.int .i64 a) := h2 0 _ rfl
                  have y1 : u9.cell? ⟨g2, o2 + i * 3 + 1, none⟩ = some (.string s) := h2 1 _ rfl
                  have y2 : u9.cell? ⟨g2, o2 + i * 3 + 2, none⟩ = some (.string v) := h2 2 _ rfl
                  have z0 : u9.cell? ⟨g3, o3 + i * 3, none⟩ = some (.int .i64 a) := h3 0 _ rfl
                  have z1 : u9.cell? ⟨g3, o3 + i * 3 + 1, none⟩ = some (.string s) := h3 1 _ rfl
                  have z2 : u9.cell? ⟨g3, o3 + i * 3 + 2, none⟩ = some (.string v) := h3 2 _ rfl
                  have hq := eqMk a s v
                  clear h1 h2 h3 hp
                  go_wp2_with fail
                  go_quiet (fail)
                  clear hq x0 x1 x2 y0 y1 y2 z0 z1 z2
                  go_wp2
                  go_roundg (qs.length - (i + 1))
                  case measure => omega
                  case rel => exact ⟨i + 1, by go_num, by omega, Nat.le_refl _, belowN A9.out _⟩
                · have hltz9 : decide ((i : Int) < (qs.length : Int)) = false := by simp; omega
                  go_wp2
                  go_ret
                  exact ⟨rfl, S8.out.2.2.2.trans (A9.out.mono S8.out.2.2.2.size)⟩
end Go.Proofs.YtfpmmgboodcfiaaDoor
