/- The walk of the law TreeMoves. -/
import Derived.Test.YtnfhbmgkiknaaaaDoorMovesSt
import Derived.Test.YtnfhbmgkiknaaaaDoorTreeUndo
import Derived.BigQuiet
import Derived.Deep.RegionHeld3
namespace Go.Proofs.YtnfhbmgkiknaaaaDoor
open Go.RowKit Go.Lib Go.Sort Go.Maps
open scoped Classical

/-- The error's number ahead of the look at the stamps. -/
def preX (x : OpX) : Nat := if errX x = 0 then (if x.2.2.2.1 = 109 then 0 else 5) else errX x
/-- So far the look at the stamps. -/
def Look (ys : List OpX) (x : OpX) (k c : Nat) : Prop := (c = preX x ∧ (preX x = 0 → ∀ j, j < k → stX ys[j]! ≠ stX x)) ∨ (c = 7 ∧ preX x = 0 ∧ ∃ j, j < ys.length ∧ stX ys[j]! = stX x)
theorem preX_zero {x : OpX} (h : preX x = 0) : GoodX x := by
  unfold preX at h
  split at h
  · rename_i h1
    split at h
    · rename_i h2; exact ⟨h1, h2⟩
    · cases h
  · rename_i h1; exact absurd h h1
theorem look_ends {ys : List OpX} {x : OpX} {k c : Nat} (h : Look ys x k c) (hk : ys.length ≤ k ∨ c ≠ 0) : (c = 0 ∧ Nxt ys x 0 (ys ++ [x])) ∨ (c ≠ 0 ∧ Nxt ys x c ys) := by
  rcases h with ⟨rfl, h2⟩ | ⟨rfl, h2, j, hj, he⟩
  · by_cases h0 : preX x = 0
    · left
      refine ⟨h0, .inl ⟨rfl, rfl, preX_zero h0, fun y hy => ?_⟩⟩
      obtain ⟨j, hj, rfl⟩ := List.getElem_of_mem hy
      have := h2 h0 j (by rcases hk with hk | hk <;> omega)
      rwa [getElem!_pos ys j hj] at this
    · right
      refine ⟨h0, .inr ⟨h0, rfl, ?_⟩⟩
      unfold preX at h0 ⊢
      split
      · rename_i h1
        rw [if_pos h1] at h0
        split
        · rename_i h2; rw [if_pos h2] at h0; exact absurd rfl h0
        · rename_i h2; exact .inr (.inl ⟨h1, h2, rfl⟩)
      · exact .inl rfl
  · right
    refine ⟨by omega, .inr ⟨by omega, rfl, .inr (.inr ⟨preX_zero h2, rfl, ys[j]!, ?_, he⟩)⟩⟩
    rw [getElem!_pos ys j hj]; exact List.getElem_mem hj

set_option maxRecDepth 100000 in
set_option maxHeartbeats 16000000 in
theorem moves_any {ad : Nat → Addr} (w : World) (ao : Option Addr) (cap : Nat) (xs : List OpX) (nodeA ofA : Int) (hE : Errs w.heap.size ad w) (hX : OpsIn w ao xs) (hxn : xs.length < 9223372036854775808) (hwf : Wf nodeA) (hwx : ∀ x ∈ xs, Wf x.2.2.2.2.1) :
    Calls Tryd.prog 11 #[.slice ao xs.length cap, .int .i64 nodeA, .int .i64 ofA] w fun e w' => e = .returned (.bool true) ∧ Below w.heap.size w w' := by
  obtain ⟨i0, hi, hz0, hz1, hz2⟩ := info_parts infoOp
  have HE : Aside (Errs w.heap.size ad w) := hE
  have HX : Aside (OpsIn w ao xs) := hX
  have HW : Aside (Wf nodeA ∧ ∀ x ∈ xs, Wf x.2.2.2.2.1) := ⟨hwf, hwx⟩
  clear hE hX hwf hwx
  go_enter Tryd.func11, Tryd.ntmps11
  go_wp2_with fail
  refine (grown_any w HE.out.op4).mono ?_
  rintro e w1 ⟨rfl, hb1⟩
  have B1 : Aside (Below w.heap.size w w1) := hb1
  clear hb1
  go_wp2_with fail
  refine (long40 w1 ao cap xs (HX.out.later B1.out) hxn).mono ?_
  rintro e w2 ⟨he, hw⟩
  subst hw
  rcases he with rfl | ⟨rfl, hx40, hshort⟩
  · go_wp2
    go_ret
    exact ⟨rfl, B1.out⟩
  have HS : Aside (∀ j, j < xs.length → Short xs[j]!) := hshort
  clear hshort
  go_wp2_with fail
  refine (new_at w2).mono ?_
  rintro e wa ⟨rfl, hza, Ta, Bwa⟩
  obtain ⟨Bs, hBs⟩ : ∃ Bs, Aside (w2.heap.size = Bs) := ⟨_, rfl⟩
  have S0 : Aside (St5 w Bs [] (.slice none 0 0) (.slice none 0 0) [] wa) := by
    have h1 := B1.out.size
    have h2 := hBs.out
    refine ⟨ownSet_nil, World.ownsRow_nil _ _ _ _, ?_, B1.out.trans (Bwa.mono h1), by omega⟩
    have := Ta w.heap.size
    rwa [h2] at this
  rw [hBs.out]
  clear hza Ta Bwa hBs B1
  go_wp2
  go_loopg [9, 10] xs.length (fun kx s9 s10 wr => ∃ (i : Nat) (ys : List OpX) (ov vt : Value) (ml : List Mov), ov = s9 ∧ s10 = .int .i64 (i : Int) ∧ i ≤ xs.length ∧ xs.length - i ≤ kx ∧ ys.length ≤ i ∧ Aside (St5 w Bs ys ov vt ml wr ∧ ml.Perm (ys.map movX)))
  case atStart => exact ⟨0, [], _, _, _, rfl, rfl, Nat.zero_le _, Nat.le_refl _, Nat.zero_le _, ⟨S0.out, List.Perm.refl _⟩⟩
  case round =>
    obtain ⟨i, ys, ov, vt, ml, rfl, rfl, hix, hkx, hyi, A⟩ := hrel
    clear S0
    obtain ⟨ag, cg, rfl⟩ := row_shape A.out.1.row
    by_cases hlt : i < xs.length
    · have hltz : decide ((i : Int) < (xs.length : Int)) = true := by simp; omega
      have ex : ((i : Int)).toNat = i := by omega
      have px : (0 : Int) ≤ (i : Int) := by omega
      have bx : (i : Int) < (xs.length : Int) := by omega
      obtain ⟨u, hu⟩ : ∃ u, u = wr := ⟨_, rfl⟩
      subst hu
      obtain ⟨blk, off, rfl, hc⟩ : ∃ b off, ao = some ⟨b, off, none⟩ ∧ ∀ j u, (cellsOf xs)[j]? = some u → w.cell? ⟨b, off + j, none⟩ = some u := by
        rcases HX.out with h0 | h1
        · subst h0; simp at hlt
        · exact h1
      obtain ⟨⟨t, b, m, kd, nd, other, name, value⟩, hx⟩ : ∃ x, xs[i]! = x := ⟨_, rfl⟩
      have E8 : Aside (∀ w', Below w.heap.size w w' → Eight w' blk (off + i * 8) t b m kd nd other name value) := fun w' hw' => eight_at (fun j v hj => cellKept hw' (hc j v hj)) i hlt hx
      have SX : Aside (Short (t, b, m, kd, nd, other, name, value) ∧ Wf nd) := by
        refine ⟨by rw [← hx]; exact HS.out i hlt, ?_⟩
        have := HW.out.2 xs[i]! (by rw [getElem!_pos xs i hlt]; exact List.getElem_mem hlt)
        rwa [hx] at this
      clear hx hc
      obtain ⟨f0, f1, f2, f3, f4, f5, f6, f7⟩ := E8.out u A.out.1.below
      go_wp2_with fail
      refine (rop_any t b m kd nd other name value u (by have := SX.out.1.1; simp only at this; omega) (by have := SX.out.1.2; simp only at this; omega)).mono ?_
      rintro e u1 ⟨rfl, hb1⟩
      have A1 : Aside (St5 w Bs ys (.slice ag ys.length cg) vt ml u1 ∧ ml.Perm (ys.map movX)) := ⟨A.out.1.later hb1, A.out.2⟩
      clear hb1 A f0 f1 f2 f3 f4 f5 f6 f7
      obtain ⟨er, her⟩ : ∃ er, Aside (opE t b m kd nd other name.data.toList value.data.toList = er) := ⟨_, rfl⟩
      rw [her.out]
      go_upto_region 12 with fail
      go_cut [51] (fun s51 wx => s51 = .bool (decide (er = 0 ∧ kd ≠ 109)) ∧ wx = u1)
      case first =>
        have g3 := (E8.out u1 A1.out.1.below).c3
        by_cases h0 : er = 0
        · have d0 : ((er : Int) == 0) = true := by simp [h0]
          by_cases h1 : kd = 109
          · have d1 : ((kd : Int) != 109) = false := by simp [h1]
            go_wp2
            go_meet
            exact ⟨congrArg Value.bool (by simp [h1]), rfl⟩
          · have d1 : ((kd : Int) != 109) = true := by simp; omega
            go_wp2
            go_meet
            exact ⟨congrArg Value.bool (by simp [h0, h1]), rfl⟩
        · have d0 : ((er : Int) == 0) = false := by simp [h0]
          go_wp2
          go_meet
          exact ⟨congrArg Value.bool (by simp [h0]), rfl⟩
      case rest =>
        obtain ⟨rfl, rfl⟩ := hcut
        go_upto_if 51 with fail
        go_cut [11] (fun s11 wx => ∃ c : Nat, s11 = .int .i64 (c : Int) ∧ Aside (c = preX (t, b, m, kd, nd, other, name, value)) ∧ wx = wc)
        case first =>
          by_cases hd : er = 0 ∧ kd ≠ 109
          · have dd : decide (er = 0 ∧ kd ≠ 109) = true := decide_eq_true hd
            rw [dd]
            go_wp2
            go_meet
            exact ⟨5, rfl, show 5 = preX _ by unfold preX errX; dsimp only; rw [her.out, if_pos hd.1, if_neg hd.2], rfl⟩
          · have dd : decide (er = 0 ∧ kd ≠ 109) = false := decide_eq_false hd
            rw [dd]
            go_wp2
            go_meet
            refine ⟨er, rfl, show er = preX _ from ?_, rfl⟩
            unfold preX errX
            dsimp only
            rw [her.out]
            by_cases h0 : er = 0
            · rw [if_pos h0, if_pos (Classical.byContradiction fun h1 => hd ⟨h0, h1⟩), h0]
            · rw [if_neg h0]
        case rest =>
          obtain ⟨c0, rfl, C0, rfl⟩ := hcut
          have hy40 : ys.length ≤ 40 := by omega
          obtain ⟨uc, huc⟩ : ∃ uc, uc = wc := ⟨_, rfl⟩
          subst huc
          go_wp2
          go_loopg [11, 12] ys.length (fun ky s11 s12 wr => ∃ (c k : Nat), s11 = .int .i64 (c : Int) ∧ s12 = .int .i64 (k : Int) ∧ k ≤ ys.length ∧ ys.length - k ≤ ky ∧ Aside (Look ys (t, b, m, kd, nd, other, name, value) k c ∧ Below uc.heap.size uc wr))
          case atStart => exact ⟨c0, 0, rfl, rfl, Nat.zero_le _, Nat.le_refl _, ⟨.inl ⟨C0.out, fun _ j hj => absurd hj (Nat.not_lt_zero _)⟩, Below.refl _ _⟩⟩
          case round =>
            obtain ⟨c, k, rfl, rfl, hkl, hky, K⟩ := hrel
            obtain ⟨uk, huk⟩ : ∃ uk, uk = wr := ⟨_, rfl⟩
            subst huk
            clear C0
            go_upto_region 15 with fail
            go_cut [59] (fun s59 wx => s59 = .bool (decide (k < ys.length ∧ c = 0)) ∧ wx = uk)
            case first =>
              by_cases h0 : k < ys.length
              · have d0 : decide ((k : Int) < (ys.length : Int)) = true := by simp; omega
                by_cases h1 : c = 0
                · have d1 : ((c : Int) == 0) = true := by simp [h1]
                  go_wp2
                  go_meet
                  exact ⟨congrArg Value.bool (by simp [h0, h1]), rfl⟩
                · have d1 : ((c : Int) == 0) = false := by simp [h1]
                  go_wp2
                  go_meet
                  exact ⟨congrArg Value.bool (by simp [h1]), rfl⟩
              · have d0 : decide ((k : Int) < (ys.length : Int)) = false := by simp; omega
                go_wp2
                go_meet
                exact ⟨congrArg Value.bool (by simp [h0]), rfl⟩
            case rest =>
              obtain ⟨rfl, rfl⟩ := hcut
              by_cases hd : k < ys.length ∧ c = 0
              · have dd : decide (k < ys.length ∧ c = 0) = true := decide_eq_true hd
                rw [dd]
                obtain ⟨hk1, rfl⟩ := hd
                clear dd
                have ek : ((k : Int)).toNat = k := by omega
                have pk : (0 : Int) ≤ (k : Int) := by omega
                have bk : (k : Int) < (ys.length : Int) := by omega
                obtain ⟨g, rfl⟩ := row_some A1.out.1.row (by omega)
                have hA2 := A1.out.1.later K.out.2
                obtain ⟨s0, s1⟩ := stamp_at (own_cells hA2.row) k hk1
                obtain ⟨t', b', hy⟩ : ∃ t' b', Aside ((ys[k]!).1 = t' ∧ (ys[k]!).2.1 = b') := ⟨_, _, rfl, rfl⟩
                rw [hy.out.1] at s0
                rw [hy.out.2] at s1
                rw [Nat.zero_add] at s0 s1
                have f0 := (E8.out _ hA2.below).c0
                have f1 := (E8.out _ hA2.below).c1
                clear hA2
                have K0 : Aside (preX (t, b, m, kd, nd, other, name, value) = 0 ∧ ∀ j, j < k → stX ys[j]! ≠ (t, b)) := by
                  rcases K.out.1 with ⟨h1, h2⟩ | ⟨h1, _⟩
                  · exact ⟨h1.symm, h2 h1.symm⟩
                  · cases h1
                by_cases hs : (t', b') = (t, b)
                · have hq : ∀ w, (Op.equalIn 10000 36 (.agg #[.int .i64 t', .int .i64 b']) (.agg #[.int .i64 t, .int .i64 b])).run Tryd.prog w = .ok true w := fun w => by rw [eqSt, decide_eq_true hs]
                  have HSE := Lib.hid hs
                  clear hs
                  go_wp2_with fail
                  go_quiet (fail)
                  go_wp2
                  go_roundg (ys.length - (k + 1))
                  case measure => omega
                  case rel =>
                    refine ⟨7, k + 1, rfl, by go_num, by omega, Nat.le_refl _, ⟨.inr ⟨rfl, K0.out.1, k, hk1, ?_⟩, below_drewN K.out.2 _⟩⟩
                    exact (show (_, _) = _ by rw [hy.out.1, hy.out.2]; exact HSE.out)
                · have hq : ∀ w, (Op.equalIn 10000 36 (.agg #[.int .i64 t', .int .i64 b']) (.agg #[.int .i64 t, .int .i64 b])).run Tryd.prog w = .ok false w := fun w => by rw [eqSt, decide_eq_false hs]
                  have HSE := Lib.hid hs
                  clear hs
                  go_wp2_with fail
                  go_quiet (fail)
                  go_wp2
                  go_roundg (ys.length - (k + 1))
                  case measure => omega
                  case rel =>
                    refine ⟨0, k + 1, rfl, by go_num, by omega, Nat.le_refl _, ⟨.inl ⟨K0.out.1.symm, fun _ j hj => ?_⟩, below_drewN K.out.2 _⟩⟩
                    rcases Nat.lt_or_ge j k with h' | h'
                    · exact K0.out.2 j h'
                    · obtain rfl : j = k := by omega
                      exact (show ¬ (_, _) = _ by rw [hy.out.1, hy.out.2]; exact HSE.out)
              · have dd : decide (k < ys.length ∧ c = 0) = false := decide_eq_false hd
                rw [dd]
                have hN := look_ends K.out.1 (by omega)
                have A2 : Aside (St5 w Bs ys (.slice ag ys.length cg) vt ml wc ∧ ml.Perm (ys.map movX)) := ⟨A1.out.1.later K.out.2, A1.out.2⟩
                have HN : Aside _ := hN
                clear hN A1 K hd dd
                go_upto_if 74 with fail
                go_cut [9] (fun s9 wx => ∃ (ys' : List OpX) (ov : Value), ov = s9 ∧ ys'.length ≤ i + 1 ∧ Aside (Nxt ys (t, b, m, kd, nd, other, name, value) c ys' ∧ St5 w Bs ys' ov vt ml wx))
                case first =>
                  rcases HN.out with ⟨hc, hX⟩ | ⟨hc, hX⟩
                  · subst hc
                    obtain ⟨f0, f1, f2, f3, f4, f5, f6, f7⟩ := E8.out wc A2.out.1.below
                    go_wp2_with (at_builtin; refine wpList_append_own _ rfl _ _ 71 rfl w.heap.size 77 i0 _ 8 80 Tryd.underlying71 hi hz0 hz1 hz2 rfl (by omega) _ _ _ rfl (A2.out.1.row.alloc _) ⟨wc.heap.size, 0, none⟩ 1 1 [.int .i64 t, .int .i64 b, .int .i64 m, .int .u8 (kd : Int), .int .i64 nd, .int .i64 other, .string name, .string value] rfl ?qb1 ?qb2 ?qb3 ?qb4 ?qb5 ?qb6 ?_)
                    case qb3 => exact ⟨rfl, rfl, rfl, rfl, rfl, rfl, rfl, rfl⟩
                    case qb4 => simp only [maxLen]; omega
                    case qb5 => omega
                    case qb6 => have := A2.out.1.below.size; simp; omega
                    intro v2 u2 hown hgrow hnil
                    clear hnil f0 f1 f2 f3 f4 f5 f6 f7
                    have R2 : Aside (Nxt ys (t, b, m, kd, nd, other, name, value) 0 (ys ++ [(t, b, m, kd, nd, other, name, value)]) ∧ St5 w Bs (ys ++ [(t, b, m, kd, nd, other, name, value)]) v2 vt ml u2) := by
                      refine ⟨hX, (A2.out.1.later ((Below.refl _ wc).alloc (Nat.le_refl _) _)).grow hgrow ?_ ?_⟩
                      · rcases hX with ⟨_, _, h3, h4⟩ | ⟨h3, _⟩
                        · exact A2.out.1.own.snoc h3 SX.out.1 (fun j hj => h4 _ (by rw [getElem!_pos ys j hj]; exact List.getElem_mem hj))
                        · exact absurd rfl h3
                      · rw [cellsOf_app, List.length_append]
                        exact hown
                    clear hown hgrow
                    go_wp2
                    go_meet
                    exact ⟨_, _, rfl, by rw [List.length_append]; simp; omega, R2⟩
                  · have dc : ((c : Int) == 0) = false := by simp [hc]
                    go_wp2
                    go_meet
                    exact ⟨ys, _, rfl, by omega, ⟨hX, A2.out.1⟩⟩
                case rest =>
                  obtain ⟨ys', ov, rfl, hy', R⟩ := hcut
                  have HP : Aside (ml.Perm (ys.map movX)) := A2.out.2
                  clear A2 HN
                  obtain ⟨ah, ch, rfl⟩ := row_shape R.out.2.row
                  have hy41 : ys'.length ≤ 40 := by omega
                  go_wp2_with fail
                  refine (placesOf_any wc (.slice ah ys'.length ch) ys' (ownsOps R.out.2.row) R.out.2.own hy41).mono ?_
                  rintro e w3 ⟨v13, qs, ms, rfl, hp1, hp2, hp3, hp4, hp5, hb3⟩
                  obtain ⟨aq, cq, rfl⟩ := row_shape hp5
                  have R3 : Aside (ms.Perm (ys'.map movX) ∧ ByStamp ms ∧ IsPlaces (madeBy ms) qs ∧ w3.ownsRow wc.heap.size 98 3 (.slice aq qs.length cq) qs.length (flat cellsP qs) ∧ Below wc.heap.size wc w3 ∧ St5 w Bs ys' (.slice ah ys'.length ch) vt ml w3) := ⟨hp1, hp2, hp3, hp5, hb3, R.out.2.later hb3⟩
                  clear hp1 hp2 hp3 hp5 hb3
                  obtain ⟨f0, f1, f2, f3, f4, f5, f6, f7⟩ := E8.out w3 R3.out.2.2.2.2.2.below
                  go_wp2_with fail
                  refine (apply_all (D := w.heap.size) (ad := ad) (ys := ys) t b m kd nd other name value c (HE.out.later R3.out.2.2.2.2.2.below) R3.out.2.2.2.2.2 HP.out (by omega) R.out.1 SX.out.1).mono ?_
                  rintro e w4 ⟨rfl, vt', ml', hS4, hpm, hk4⟩
                  have R4 : Aside (Bd w Bs ys' (.slice ah ys'.length ch) vt' ml' (.slice aq qs.length cq) qs w4) := bd_of R.out.2 R3.out.2.2.2.1 R3.out.2.2.2.2.1 hk4 hS4 hpm R3.out.1 R3.out.2.1 R3.out.2.2.1
                  have hc12 : c ≤ 12 := R.out.1.le
                  clear hS4 hpm hk4 R3 R HP f0 f1 f2 f3 f4 f5 f6 f7
                  go_wp2_with fail
                  refine (coded_e c w4 (HE.out.later R4.out.st.below) hc12).mono ?_
                  rintro e w5 ⟨rfl, hb5⟩
                  have R5 : Aside (Bd w Bs ys' (.slice ah ys'.length ch) vt' ml' (.slice aq qs.length cq) qs w5) := R4.out.later hb5
                  clear hb5 R4
                  have hml : ml'.length = ys'.length := by rw [R5.out.perm.length_eq, List.length_map]
                  obtain ⟨nn, hnn, hM5⟩ := R5.out.st.tree.map
                  have hPl := places_any w5 (Bs + 1) Bs nn vt' (madeBy ml') R5.out.st.tree.good R5.out.st.tree.cell hM5 (by omega)
                  clear hM5 hnn
                  go_wp2_with fail
                  refine hPl.mono ?_
                  rintro e w6 ⟨v95, q2, rfl, hI6, hl6, hQ6, hb6⟩
                  clear hPl hl6
                  obtain rfl : q2 = qs := hI6.unique R5.out.pls
                  obtain ⟨az, cz, rfl⟩ := hQ6.shape
                  have R6 : Aside (Bd w Bs ys' (.slice ah ys'.length ch) vt' ml' (.slice aq q2.length cq) q2 w6 ∧ PlsAt w6 (.slice az q2.length cz) q2) := ⟨R5.out.later hb6, hQ6⟩
                  clear hb6 R5 hI6 hQ6
                  go_wp2_with fail
                  refine (samePlaces_any w6 az cz aq cq q2 R6.out.2 R6.out.1.at_ (by omega)).mono ?_
                  rintro e w7 ⟨rfl, hb7⟩
                  have R7 : Aside (Bd w Bs ys' (.slice ah ys'.length ch) vt' ml' (.slice aq q2.length cq) q2 w7) := R6.out.1.later hb7
                  clear hb7 R6
                  obtain ⟨LL, hLL, hRR⟩ := R7.out.st.tree.row
                  obtain ⟨al, cl, rfl⟩ := row_shape hRR
                  have hmv := treeMoves w7 (Bs + 1) ml'.length al cl R7.out.st.tree.cell.c1
                  rw [hml] at hmv
                  have hne : ((ys'.length : Int) != (ys'.length : Int)) = false := by simp
                  clear hLL hRR
                  go_wp2_with fail
                  refine hmv.mono ?_
                  rintro e w8 ⟨rfl, hw8⟩
                  subst hw8
                  clear hmv
                  obtain ⟨zz, hzz⟩ : ∃ zz, Aside (insF (madeBy ml') (q2.length + 1) nodeA ofA = zz) := ⟨_, rfl⟩
                  obtain ⟨n8, hn8, hM8⟩ := R7.out.st.tree.map
                  have hIn := inside_is w8 (Bs + 1) Bs n8 (madeBy ml') nodeA ofA zz (by rw [← hzz.out]; exact (ins_enough R7.out.st.tree.good R7.out.pls).symm) R7.out.st.tree.cell.c0 hM8 R7.out.st.tree.good HW.out.1
                  clear hM8 hn8
                  go_wp2_with fail
                  refine hIn.mono ?_
                  rintro e w9 ⟨rfl, hb9⟩
                  have R9 : Aside (Bd w Bs ys' (.slice ah ys'.length ch) (.slice al ml'.length cl) ml' (.slice aq q2.length cq) q2 w9) := R7.out.later hb9
                  clear hb9 R7 hIn hne
                  have hIs := isInside_any w9 aq cq q2 (madeBy ml') nodeA ofA R9.out.st.tree.good R9.out.pls R9.out.at_ (by omega)
                  rw [hzz.out] at hIs
                  have hnz : (zz != zz) = false := by simp
                  go_wp2_with fail
                  refine hIs.mono ?_
                  rintro e w10 ⟨rfl, hw10⟩
                  subst hw10
                  clear hIs
                  have f4 := (E8.out w10 R9.out.st.below).c4
                  obtain ⟨⟨pc, pq, pn⟩, hpp⟩ : ∃ p, Aside ((madeBy ml' nd).getD zeroP = p) := ⟨_, rfl⟩
                  obtain ⟨zs, hzs⟩ : ∃ zs, Aside ((madeBy ml' nd).isSome = zs) := ⟨_, rfl⟩
                  obtain ⟨n10, hn10, hM10⟩ := R9.out.st.tree.map
                  have hPc := place_any w10 (Bs + 1) Bs n10 (madeBy ml') nd R9.out.st.tree.cell.c0 hM10 SX.out.2
                  rw [hpp.out, hzs.out] at hPc
                  unfold plcV at hPc
                  dsimp only at hPc
                  clear hM10 hn10
                  go_wp2_with fail
                  refine hPc.mono ?_
                  rintro e w11 ⟨rfl, hb11⟩
                  have R11 : Aside (Bd w Bs ys' (.slice ah ys'.length ch) (.slice al ml'.length cl) ml' (.slice aq q2.length cq) q2 w11) := R9.out.later hb11
                  clear hb11 R9 hPc f4 hnz
                  go_upto_region 28 with fail
                  have T0 := two_new w11 pc pq pn
                  generalize (w11.alloc (.cells #[.int .i64 pc, .int .i64 pq, .string pn] 95)).alloc (.cells #[.int .i64 0, .int .i64 0, .string ⟨#[]⟩] 95) = wz at T0 ⊢
                  obtain ⟨Bx, hBx⟩ : ∃ Bx, Aside (w11.heap.size = Bx) := ⟨_, rfl⟩
                  rw [hBx.out] at T0 ⊢
                  have T : Aside (Two w11 Bx pc pq pn zeroP wz) := T0
                  clear T0
                  go_wp2
                  go_loopg [17, 18] q2.length (fun ky s17 s18 wr => ∃ (fd : Bool) (k : Nat) (cur : Option Plc), s17 = .bool fd ∧ s18 = .int .i64 (k : Int) ∧ k ≤ q2.length ∧ q2.length - k ≤ ky ∧ Aside (fd = cur.isSome ∧ cur = seenL (q2.take k) nd ∧ Two w11 Bx pc pq pn (cur.getD zeroP) wr))
                  case atStart => exact ⟨false, 0, none, rfl, rfl, Nat.zero_le _, Nat.le_refl _, ⟨rfl, rfl, T.out⟩⟩
                  case round =>
                    obtain ⟨fd, k, cur, rfl, rfl, hkl, hky, K⟩ := hrel
                    clear T
                    by_cases hk1 : k < q2.length
                    · have hltz2 : decide ((k : Int) < (q2.length : Int)) = true := by simp; omega
                      have ek : ((k : Int)).toNat = k := by omega
                      have pk : (0 : Int) ≤ (k : Int) := by omega
                      have bk : (k : Int) < (q2.length : Int) := by omega
                      obtain ⟨⟨c1, c2, c3⟩, hp⟩ : ∃ p : Plc, q2[k]? = some p := ⟨_, List.getElem?_eq_getElem hk1⟩
                      have R12 := R11.out.later K.out.2.2.below
                      obtain ⟨gx, rfl, x0, x1, x2⟩ := R12.at_.three hp
                      have f4 := (E8.out _ R12.st.below).c4
                      have HST : Aside (seenL (q2.take (k + 1)) nd = if c1 = nd then some (c1, c2, c3) else seenL (q2.take k) nd) := seenL_take hp nd
                      clear R12 hp
                      by_cases he : c1 = nd
                      · have de : (c1 == nd) = true := by simp [he]
                        have HQ : Aside (c1 = nd) := he
                        clear he
                        go_wp2_with fail
                        go_quiet (fail)
                        have K1 : Aside (Two w11 Bx pc pq pn (cur.getD zeroP) (wr.drewN nq)) := K.out.2.2.drewN nq
                        have y0 : (wr.drewN nq).cell? ⟨gx, k * 3, none⟩ = some (.int .i64 c1) := x0
                        have y1 : (wr.drewN nq).cell? ⟨gx, k * 3 + 1, none⟩ = some (.int .i64 c2) := x1
                        have y2 : (wr.drewN nq).cell? ⟨gx, k * 3 + 2, none⟩ = some (.string c3) := x2
                        clear x0 x1 x2 f4
                        generalize wr.drewN nq = wd at K1 y0 y1 y2 ⊢
                        have z0 := K1.out.two.fz 0
                        have z1 := K1.out.two.fz 1
                        have z2 := K1.out.two.fz 2
                        have v0 := K1.out.two.c0
                        have v1 := K1.out.two.c1
                        have v2 := K1.out.two.c2
                        generalize (cur.getD zeroP).1 = g0 at v0
                        generalize (cur.getD zeroP).2.1 = g1 at v1
                        generalize (cur.getD zeroP).2.2 = g2 at v2
                        go_wp2_with fail
                        go_region
                        go_wp2
                        go_roundg (q2.length - (k + 1))
                        case measure => omega
                        case rel =>
                          refine ⟨true, k + 1, some (c1, c2, c3), rfl, by go_num, by omega, Nat.le_refl _, ⟨rfl, by rw [HST.out, if_pos HQ.out], ?_⟩⟩
                          first
                            | exact (K1.out.set c1 c2 c3)
                            | exact (K1.out.drew.set c1 c2 c3)
                            | exact (K1.out.set c1 c2 c3).drew
                            | exact (K1.out.set c1 c2 c3).drewN _
                            | exact ((K1.out.drewN _).set c1 c2 c3)
                      · have de : (c1 == nd) = false := by simp [he]
                        have HQ : Aside (¬ c1 = nd) := he
                        clear he
                        go_wp2_with fail
                        go_quiet (fail)
                        go_wp2
                        go_roundg (q2.length - (k + 1))
                        case measure => omega
                        case rel =>
                          exact ⟨fd, k + 1, cur, rfl, by go_num, by omega, Nat.le_refl _, ⟨K.out.1, by rw [HST.out, if_neg HQ.out]; exact K.out.2.1, K.out.2.2.drewN _⟩⟩
                    · have hltz2 : decide ((k : Int) < (q2.length : Int)) = false := by simp; omega
                      have hcur : cur = madeBy ml' nd := by
                        have h1 := K.out.2.1
                        rw [show q2.take k = q2 from List.take_of_length_le (by omega), seen_all R11.out.st.tree.good R11.out.pls nd] at h1
                        exact h1
                      have hfd : fd = zs := by rw [K.out.1, hcur, hzs.out]
                      have hgd : cur.getD zeroP = (pc, pq, pn) := by rw [hcur, hpp.out]
                      have K1 := K.out.2.2
                      rw [hgd] at K1
                      subst hfd
                      have U : Aside (Two w11 Bx pc pq pn (pc, pq, pn) wr) := K1
                      clear K hcur hgd K1 hpp hzs
                      have a0 := U.out.one.c0
                      have a1 := U.out.one.c1
                      have a2 := U.out.one.c2
                      have b0 := U.out.two.c0
                      have b1 := U.out.two.c1
                      have b2 := U.out.two.c2
                      dsimp only at a0 a1 a2 b0 b1 b2
                      have hnf : (fd != fd) = false := by simp
                      have hq : ∀ w, (Op.equalIn 10000 95 (.agg #[.int .i64 pc, .int .i64 pq, .string pn]) (.agg #[.int .i64 pc, .int .i64 pq, .string pn])).run Tryd.prog w = .ok true w := fun w => by
                        have := eqPl (pc, pq, pn) (pc, pq, pn) w
                        rw [decide_eq_true rfl] at this
                        exact this
                      go_wp2
                      go_roundg (xs.length - (i + 1))
                      case measure => omega
                      case rel => exact ⟨i + 1, ys', _, _, ml', rfl, by go_num, by omega, Nat.le_refl _, hy', ⟨R11.out.st.later U.out.below, R11.out.perm⟩⟩
    · have hltz : decide ((i : Int) < (xs.length : Int)) = false := by simp; omega
      go_wp2
      go_ret
      exact ⟨rfl, A.out.1.below⟩
end Go.Proofs.YtnfhbmgkiknaaaaDoor
