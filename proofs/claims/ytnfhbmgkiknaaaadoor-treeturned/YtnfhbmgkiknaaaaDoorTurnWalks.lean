/- The walk of the law TreeTurned. -/
import Derived.Test.YtnfhbmgkiknaaaaDoorTurnSt
import Derived.Test.YtnfhbmgkiknaaaaDoorTreePlaces
import Derived.BigQuiet
import Derived.Deep.RegionHeld3
import Derived.Test.YtnfhbmgkiknaaaaDoorTreeUndo
import Derived.Deep.Cut
import Derived.Deep.CutRange
import Derived.Deep.DeepCutAuto
namespace Go.Proofs.YtnfhbmgkiknaaaaDoor
open Go.RowKit Go.Lib Go.Sort Go.Maps
open scoped Classical

set_option maxRecDepth 100000 in
set_option maxHeartbeats 8000000 in
theorem turned_any {ad : Nat → Addr} (w : World) (ao : Option Addr) (cap : Nat) (xs : List OpX) (aq : Option Addr) (n cq : Nat) (hE : Op4 ad w) (hX : OpsIn w ao xs) (hxn : xs.length < 9223372036854775808) (hQ : IntsIn w aq n) (hnn : n < 9223372036854775808) :
    Calls Tryd.prog 12 #[.slice ao xs.length cap, .slice aq n cq] w fun e w' => e = .returned (.bool true) ∧ Below w.heap.size w w' := by
  obtain ⟨i0, hi, hz0, hz1, hz2⟩ := info_parts infoOp
  have HE : Aside (Op4 ad w) := hE
  have HX : Aside (OpsIn w ao xs) := hX
  have HQ : Aside (IntsIn w aq n) := hQ
  clear hE hX hQ
  go_enter Tryd.func12, Tryd.ntmps12
  go_wp2_with fail
  refine (grown_any w HE.out).mono ?_
  rintro e w1 ⟨rfl, hb1⟩
  have B1 : Aside (Below w.heap.size w w1) := hb1
  clear hb1
  go_wp2_with fail
  refine (long40 w1 ao cap xs (HX.out.later B1.out) hxn).mono ?_
  rintro e w2 ⟨he, hw⟩
  subst hw
  rcases he with rfl | ⟨rfl, hx40, hshort⟩
  · go_wp2
    go_ret
    exact ⟨rfl, B1.out⟩
  have HS : Aside (∀ j, j < xs.length → Short xs[j]!) := hshort
  clear hshort
  by_cases hn60 : 60 < n
  · have d60 : decide ((60 : Int) < (n : Int)) = true := decide_eq_true (by omega)
    go_wp2
    go_ret
    exact ⟨rfl, B1.out⟩
  have d60 : decide ((60 : Int) < (n : Int)) = false := decide_eq_false (by omega)
  go_wp2
  clear d60
  go_loopg [6, 7] xs.length (fun kx s6 s7 wr => ∃ (i : Nat) (ys : List OpX) (ov : Value), ov = s6 ∧ s7 = .int .i64 (i : Int) ∧ i ≤ xs.length ∧ xs.length - i ≤ kx ∧ ys.length ≤ i ∧ Aside (OwnSet ys ∧ wr.ownsRow w.heap.size 77 8 ov ys.length (cellsOf ys) ∧ Below w.heap.size w wr))
  case atStart => exact ⟨0, [], _, rfl, rfl, Nat.zero_le _, Nat.le_refl _, Nat.zero_le _, ⟨ownSet_nil, World.ownsRow_nil _ _ _ _, B1.out⟩⟩
  case round =>
    obtain ⟨i, ys, ov, rfl, rfl, hix, hkx, hyi, A⟩ := hrel
    clear B1
    obtain ⟨ag, cg, rfl⟩ := row_shape A.out.2.1
    by_cases hlt : i < xs.length
    · have hltz : decide ((i : Int) < (xs.length : Int)) = true := by simp; omega
      have ex : ((i : Int)).toNat = i := by omega
      have px : (0 : Int) ≤ (i : Int) := by omega
      have bx : (i : Int) < (xs.length : Int) := by omega
      obtain ⟨u, hu⟩ : ∃ u, u = wr := ⟨_, rfl⟩
      subst hu
      obtain ⟨blk, off, rfl, hc⟩ : ∃ b off, ao = some ⟨b, off, none⟩ ∧ ∀ j u, (cellsOf xs)[j]? = some u → w.cell? ⟨b, off + j, none⟩ = some u := by
        rcases HX.out with h0 | h1
        · subst h0; simp at hlt
        · exact h1
      obtain ⟨⟨t, b, m, kd, node, other, name, value⟩, hx⟩ : ∃ x, xs[i]! = x := ⟨_, rfl⟩
      have E8 : Aside (Eight u blk (off + i * 8) t b m kd node other name value) := eight_at (fun j v hj => cellKept A.out.2.2 (hc j v hj)) i hlt hx
      have SX : Aside (Short (t, b, m, kd, node, other, name, value)) := by rw [← hx]; exact HS.out i hlt
      clear hx hc
      go_upto_region 8 with fail
      go_cut [8] (fun s8 wx => ∃ z : Bool, s8 = .bool z ∧ Aside ((z = true ↔ GoodX (t, b, m, kd, node, other, name, value)) ∧ Below u.heap.size u wx))
      case first =>
        obtain ⟨f0, f1, f2, f3, f4, f5, f6, f7⟩ := E8.out
        go_wp2_with fail
        refine (rop_any t b m kd node other name value u (by have := SX.out.1; simp only at this; omega) (by have := SX.out.2; simp only at this; omega)).mono ?_
        rintro e u1 ⟨rfl, hb1⟩
        have g3 := (E8.out.later hb1).c3
        clear f0 f1 f2 f3 f4 f5 f6 f7
        have BB : Aside (Below u.heap.size u u1) := hb1
        clear hb1
        obtain ⟨er, her⟩ : ∃ er, Aside (opE t b m kd node other name.data.toList value.data.toList = er) := ⟨_, rfl⟩
        rw [her.out]
        by_cases h0 : er = 0
        · have d0 : ((er : Int) == 0) = true := by simp [h0]
          by_cases h1 : kd = 109
          · have d1 : ((kd : Int) == 109) = true := by simp [h1]
            go_wp2
            go_meet
            exact ⟨true, rfl, ⟨fun _ => ⟨her.out.trans h0, h1⟩, fun _ => rfl⟩, BB.out⟩
          · have d1 : ((kd : Int) == 109) = false := by simp; omega
            go_wp2
            go_meet
            exact ⟨false, rfl, ⟨fun h => (by cases h), fun h => absurd h.2 h1⟩, BB.out⟩
        · have d0 : ((er : Int) == 0) = false := by simp [h0]
          go_wp2
          go_meet
          exact ⟨false, rfl, ⟨fun h => (by cases h), fun h => absurd (her.out.symm.trans h.1) h0⟩, BB.out⟩
      case rest =>
        obtain ⟨z, rfl, Z⟩ := hcut
        obtain ⟨uc, huc⟩ : ∃ uc, uc = wc := ⟨_, rfl⟩
        subst huc
        go_wp2
        go_loopg [8, 9] ys.length (fun ky s8 s9 wr => ∃ (z' : Bool) (k : Nat), s8 = .bool z' ∧ s9 = .int .i64 (k : Int) ∧ k ≤ ys.length ∧ ys.length - k ≤ ky ∧ Aside ((z' = true ↔ (GoodX (t, b, m, kd, node, other, name, value) ∧ ∀ j, j < k → stX ys[j]! ≠ (t, b))) ∧ Below u.heap.size u wr))
        case atStart => exact ⟨z, 0, rfl, rfl, Nat.zero_le _, Nat.le_refl _, ⟨Z.out.1.trans ⟨fun h => ⟨h, fun j hj => absurd hj (Nat.not_lt_zero _)⟩, And.left⟩, Z.out.2⟩⟩
        case round =>
          obtain ⟨z', k, rfl, rfl, hk, hky, K⟩ := hrel
          clear Z
          by_cases hkl : k < ys.length
          · have hkz : decide ((k : Int) < (ys.length : Int)) = true := by simp; omega
            have ek : ((k : Int)).toNat = k := by omega
            have pk : (0 : Int) ≤ (k : Int) := by omega
            have bk : (k : Int) < (ys.length : Int) := by omega
            obtain ⟨g, rfl⟩ := row_some A.out.2.1 (by omega)
            obtain ⟨s0, s1⟩ := stamp_at (fun j v hj => cellKept K.out.2 (own_cells A.out.2.1 j v hj)) k hkl
            obtain ⟨t', b', hy⟩ : ∃ t' b', Aside ((ys[k]!).1 = t' ∧ (ys[k]!).2.1 = b') := ⟨_, _, rfl, rfl⟩
            rw [hy.out.1] at s0
            rw [hy.out.2] at s1
            rw [Nat.zero_add] at s0 s1
            have f0 := (E8.out.later K.out.2).c0
            have f1 := (E8.out.later K.out.2).c1
            by_cases hs : (t', b') = (t, b)
            · have hq : ∀ w, (Op.equalIn 10000 36 (.agg #[.int .i64 t', .int .i64 b']) (.agg #[.int .i64 t, .int .i64 b])).run Tryd.prog w = .ok true w := fun w => by rw [eqSt, decide_eq_true hs]
              have HSE := Lib.hid hs
              clear hs
              go_wp2_with fail
              go_quiet (fail)
              go_wp2
              go_roundg (ys.length - (k + 1))
              case measure => omega
              case rel =>
                refine ⟨false, k + 1, rfl, by go_num, by omega, Nat.le_refl _, ⟨⟨fun h => (by cases h), fun h => absurd ?_ (h.2 k (Nat.lt_succ_self k))⟩, below_drewN K.out.2 _⟩⟩
                exact (show (_, _) = _ by rw [hy.out.1, hy.out.2]; exact HSE.out)
            · have hq : ∀ w, (Op.equalIn 10000 36 (.agg #[.int .i64 t', .int .i64 b']) (.agg #[.int .i64 t, .int .i64 b])).run Tryd.prog w = .ok false w := fun w => by rw [eqSt, decide_eq_false hs]
              have HSE := Lib.hid hs
              clear hs
              go_wp2_with fail
              go_quiet (fail)
              go_wp2
              go_roundg (ys.length - (k + 1))
              case measure => omega
              case rel =>
                refine ⟨z', k + 1, rfl, by go_num, by omega, Nat.le_refl _, ⟨K.out.1.trans ⟨fun h => ⟨h.1, fun j hj => ?_⟩, fun h => ⟨h.1, fun j hj => h.2 j (by omega)⟩⟩, below_drewN K.out.2 _⟩⟩
                rcases Nat.lt_or_ge j k with h' | h'
                · exact h.2 j h'
                · obtain rfl : j = k := by omega
                  exact (show ¬ (_, _) = _ by rw [hy.out.1, hy.out.2]; exact HSE.out)
          · have hkz : decide ((k : Int) < (ys.length : Int)) = false := by simp; omega
            obtain ⟨uk, huk⟩ : ∃ uk, uk = wr := ⟨_, rfl⟩
            subst huk
            obtain rfl : k = ys.length := by omega
            have O1 : Aside (uk.ownsRow w.heap.size 77 8 (.slice ag ys.length cg) ys.length (cellsOf ys) ∧ Below w.heap.size w uk) := ⟨owns_same A.out.2.1 (fun g hg => K.out.2.block g (A.out.2.1.lt g hg).2), A.out.2.2.trans (K.out.2.mono A.out.2.2.size)⟩
            cases z' with
            | false =>
              go_wp2
              go_roundg (xs.length - (i + 1))
              case measure => omega
              case rel => exact ⟨i + 1, ys, _, rfl, by go_num, by omega, Nat.le_refl _, by omega, ⟨A.out.1, O1.out⟩⟩
            | true =>
              obtain ⟨f0, f1, f2, f3, f4, f5, f6, f7⟩ := E8.out.later K.out.2
              have hyl : ys.length ≤ 40 := by omega
              have GX : Aside (GoodX (t, b, m, kd, node, other, name, value) ∧ ∀ j, j < ys.length → stX ys[j]! ≠ (t, b)) := K.out.1.1 rfl
              go_wp2_with (at_builtin; refine wpList_append_own _ rfl _ _ 71 rfl w.heap.size 77 i0 _ 8 80 Tryd.underlying71 hi hz0 hz1 hz2 rfl (by omega) _ _ _ rfl (O1.out.1.alloc _) ⟨uk.heap.size, 0, none⟩ 1 1 [.int .i64 t, .int .i64 b, .int .i64 m, .int .u8 (kd : Int), .int .i64 node, .int .i64 other, .string name, .string value] rfl ?qb1 ?qb2 ?qb3 ?qb4 ?qb5 ?qb6 ?_)
              case qb3 => exact ⟨rfl, rfl, rfl, rfl, rfl, rfl, rfl, rfl⟩
              case qb4 => simp only [maxLen]; omega
              case qb5 => omega
              case qb6 => have := O1.out.2.size; simp; omega
              intro v2 u2 hown hgrow hnil
              clear hnil f0 f1 f2 f3 f4 f5 f6 f7
              have W2 : Below w.heap.size w u2 := (O1.out.2.alloc O1.out.2.size _).grown hgrow (by have := O1.out.2.size; simp; omega) (fun k hk => (O1.out.1.lt k hk).1)
              have R2 : Aside (OwnSet (ys ++ [(t, b, m, kd, node, other, name, value)]) ∧ u2.ownsRow w.heap.size 77 8 v2 (ys ++ [(t, b, m, kd, node, other, name, value)]).length (cellsOf (ys ++ [(t, b, m, kd, node, other, name, value)])) ∧ Below w.heap.size w u2) := by
                refine ⟨A.out.1.snoc GX.out.1 SX.out GX.out.2, ?_, W2⟩
                rw [cellsOf_app, List.length_append]
                exact hown
              clear hown hgrow W2
              go_wp2
              go_roundg (xs.length - (i + 1))
              case measure => omega
              case rel => exact ⟨i + 1, _, _, rfl, by go_num, by omega, Nat.le_refl _, by rw [List.length_append]; simp; omega, R2⟩
    · have hltz : decide ((i : Int) < (xs.length : Int)) = false := by simp; omega
      have hy40 : ys.length ≤ 40 := by omega
      clear hkx hyi
      go_wp2_with fail
      refine (new_at wr).mono ?_
      rintro e wa ⟨rfl, hza, Ta, Bwa⟩
      have A2 : Aside (wa.heap.size = wr.heap.size + 2 ∧ (∀ base, TreeAt base wa (wr.heap.size + 1) wr.heap.size (.slice none 0 0) []) ∧ Below wr.heap.size wr wa) := ⟨hza, Ta, Bwa⟩
      clear hza Ta Bwa
      obtain ⟨Bs, hBs⟩ : ∃ Bs, Aside (wr.heap.size = Bs) := ⟨_, rfl⟩
      rw [hBs.out] at A2 ⊢
      go_wp2_with fail
      refine (new_at wa).mono ?_
      rintro e wb ⟨rfl, hzb, Tb, Bwb⟩
      obtain ⟨hza, Ta, Bwa⟩ := A2.out
      rw [hza] at Tb hzb ⊢
      have hsz := hBs.out
      have Ob : wb.ownsRow w.heap.size 77 8 (.slice ag ys.length cg) ys.length (cellsOf ys) := owns_same A.out.2.1 (fun g hg => by rw [Bwb.block g (by have := (A.out.2.1.lt g hg).2; omega), Bwa.block g (by have := (A.out.2.1.lt g hg).2; omega)])
      have Bw : Below w.heap.size w wb := A.out.2.2.trans ((Bwa.trans (Bwb.mono (by omega))).mono (by have := A.out.2.2.size; omega))
      have D : Aside (wb.ownsRow w.heap.size 77 8 (.slice ag ys.length cg) ys.length (cellsOf ys) ∧ Below w.heap.size w wb ∧ (∀ base, TreeAt base wb (Bs + 1) Bs (.slice none 0 0) []) ∧ (∀ base, TreeAt base wb (Bs + 3) (Bs + 2) (.slice none 0 0) []) ∧ wb.heap.size = Bs + 4 ∧ w.heap.size ≤ Bs ∧ (∀ g, (Value.slice ag ys.length cg).ownBlock = some g → g < Bs)) := ⟨Ob, Bw, fun base => (Ta base).later Bwb, Tb, hzb, by have := A.out.2.2.size; omega, fun g hg => by have := (A.out.2.1.lt g hg).2; omega⟩
      have AS : Aside (OwnSet ys) := A.out.1
      clear Ta Tb Bwa Bwb Ob Bw hza hzb hBs A A2 hsz
      obtain ⟨j0, hj, hy0, hy1, hy2⟩ := info_parts infoBool
      obtain ⟨wm, hrun, hwm, hgm⟩ := run_makeSlice_full (P := Tryd.prog) wb (Bs + 4) 100 4 j0 (.bool false) 1 Tryd.underlying100 hj hy0 hy1 .i64 .i64 ys.length (by omega) (by rw [hy2]; omega) (by simp only [maxLen]; omega) (by rw [D.out.2.2.2.2.1]; exact Nat.le_refl _)
      rw [D.out.2.2.2.2.1] at hrun hwm
      have S0 : Aside (St2 w Bs ag cg ys (List.replicate ys.length false) (.slice none 0 0) [] wm) := st2_start D.out (by rw [Nat.mul_one, show (Value.bool false).cells = #[.bool false] from rfl, toList_madeCells_one] at hwm; rw [List.map_replicate]; exact hwm) hgm
      clear hwm hgm D hj hy0 hy1 hy2 hltz hlt hix
      go_wp2
      clear hrun
      go_loopg [13] (n + ys.length) (fun kx s13 wr => ∃ (i : Nat) (d : List Bool) (va : Value) (msa : List Mov), s13 = .int .i64 (i : Int) ∧ i ≤ n + ys.length ∧ n + ys.length - i ≤ kx ∧ Aside (St2 w Bs ag cg ys d va msa wr ∧ msa.Perm ((picked ys d).map movX) ∧ ∀ j, n + j < i → d[j]? = some true))
      case atStart => exact ⟨0, _, _, _, rfl, Nat.zero_le _, Nat.le_refl _, ⟨S0.out, by rw [picked_none]; exact List.Perm.refl _, fun j hj => by omega⟩⟩
      case round =>
        obtain ⟨i2, d, va, msa, rfl, hix, hkx, A⟩ := hrel
        obtain ⟨u, hu⟩ : ∃ u, u = wr := ⟨_, rfl⟩
        subst hu
        by_cases hlt : i2 < n + ys.length
        · have hltz : decide ((i2 : Int) < (n : Int) + (ys.length : Int)) = true := by simp; omega
          have ex : ((i2 : Int)).toNat = i2 := by omega
          have px : (0 : Int) ≤ (i2 : Int) := by omega
          go_upto_if 105 with fail
          go_cut [14] (fun s14 wx => ∃ kz : Int, s14 = .int .i64 kz ∧ (n ≤ i2 → kz = (i2 : Int) - (n : Int)) ∧ wx = u)
          case first =>
            by_cases hq : i2 < n
            · have hqz : decide ((i2 : Int) < (n : Int)) = true := by simp; omega
              have bx : (i2 : Int) < (n : Int) := by omega
              obtain ⟨qb, qo, rfl, hcq⟩ : ∃ b off, aq = some ⟨b, off, none⟩ ∧ ∀ j, j < n → ∃ z : Int, u.cell? ⟨b, off + j, none⟩ = some (.int .i64 z) := by
                rcases HQ.out.later A.out.1.below with h0 | h1
                · omega
                · exact h1
              obtain ⟨kz, hkz⟩ := hcq i2 hq
              clear hcq
              go_wp2
              go_meet
              exact ⟨kz, rfl, fun h => by omega, rfl⟩
            · have hqz : decide ((i2 : Int) < (n : Int)) = false := by simp; omega
              go_wp2
              go_meet
              exact ⟨_, rfl, fun _ => rfl, rfl⟩
          case rest =>
            obtain ⟨kz, rfl, hkn, rfl⟩ := hcut
            have HKN := Lib.hid hkn
            clear hkn
            by_cases hk0 : kz < 0
            · have dk0 : decide (kz < 0) = true := decide_eq_true hk0
              go_wp2
              go_roundg (n + ys.length - (i2 + 1))
              case measure => omega
              case rel => exact ⟨i2 + 1, d, va, msa, by go_num, by omega, Nat.le_refl _, ⟨A.out.1, A.out.2.1, fun j hj => by have := HKN.out (by omega); omega⟩⟩
            have dk0 : decide (kz < 0) = false := decide_eq_false hk0
            by_cases hk1 : (ys.length : Int) ≤ kz
            · have dk1 : decide ((ys.length : Int) ≤ kz) = true := decide_eq_true hk1
              go_wp2
              go_roundg (n + ys.length - (i2 + 1))
              case measure => omega
              case rel => exact ⟨i2 + 1, d, va, msa, by go_num, by omega, Nat.le_refl _, ⟨A.out.1, A.out.2.1, fun j hj => by
                rcases Nat.lt_or_ge (n + j) i2 with h | h
                · exact A.out.2.2 j h
                · have := HKN.out (by omega); omega⟩⟩
            have dk1 : decide ((ys.length : Int) ≤ kz) = false := decide_eq_false hk1
            obtain ⟨k, rfl⟩ : ∃ k : Nat, kz = (k : Int) := ⟨kz.toNat, by omega⟩
            have hky : k < ys.length := by omega
            have ek : ((k : Int)).toNat = k := by omega
            have pk : (0 : Int) ≤ (k : Int) := by omega
            have bk : (k : Int) < (ys.length : Int) := by omega
            obtain ⟨dk, hdk⟩ : ∃ dk, Aside (d[k]? = some dk) := ⟨d[k]'(by rw [A.out.1.dlen]; exact hky), List.getElem?_eq_getElem _⟩
            have cdk : wc.cell? ⟨Bs + 4, k, none⟩ = some (.bool dk) := by
              rw [A.out.1.done.cellAt k (by omega), List.getElem?_map, hdk.out]; rfl
            cases dk with
            | true =>
              go_wp2
              go_roundg (n + ys.length - (i2 + 1))
              case measure => omega
              case rel => exact ⟨i2 + 1, d, va, msa, by go_num, by omega, Nat.le_refl _, ⟨A.out.1, A.out.2.1, fun j hj => by
                rcases Nat.lt_or_ge (n + j) i2 with h | h
                · exact A.out.2.2 j h
                · have := HKN.out (by omega)
                  obtain rfl : j = k := by omega
                  exact hdk.out⟩⟩
            | false =>
              have fz : wc.frozen? ⟨Bs + 4, k, none⟩ = false := A.out.1.done.frozenAt k
              obtain ⟨g, rfl⟩ := row_some A.out.1.own (by omega)
              have S1 := A.out.1.mark k
              go_upto_region 29 with fail
              generalize wc.setCell ⟨Bs + 4, k, none⟩ (.bool true) = wd at S1 ⊢
              have SS : Aside (St2 w Bs (some ⟨g, 0, none⟩) cg ys (d.set k true) va msa wd) := S1
              clear cdk fz S1
              obtain ⟨t, b, m, node, other, name, value, E8, M⟩ := move_cells AS.out SS.out.own hky
              obtain ⟨f0, f1, f2, f3, f4, f5, f6, f7⟩ := E8
              have f3' : wd.cell? ⟨g, k * 8 + 3, none⟩ = some (.int .u8 109) := f3
              clear f3
              go_wp2_with fail
              refine (apply_core undo_ok wd (Bs + 5) (Bs + 1) Bs va msa t b m node other name value (HE.out.later SS.out.below) SS.out.ta SS.out.size (by have := A.out.1.fits A.out.2.1; omega) (by have := M.out.2.2.2.1; omega) (by have := M.out.2.2.2.2; omega) M.out.2.2.1 (by have := new_stamp AS.out A.out.2.1 hky hdk.out; rwa [M.out.2.1] at this)).mono ?_
              rintro e we ⟨rfl, v', ms', hT, hp, hkp, -⟩
              have S2 : Aside (St2 w Bs (some ⟨g, 0, none⟩) cg ys (d.set k true) v' ms' we ∧ ms'.Perm ((picked ys (d.set k true)).map movX) ∧ ∀ j, n + j < i2 + 1 → (d.set k true)[j]? = some true) := by
                refine ⟨SS.out.keep hkp hT, perm_next A.out.2.1 hky hdk.out (by rw [M.out.1]; exact hp), fun j hj => ?_⟩
                rw [List.getElem?_set]
                split
                · rw [if_pos (by rw [A.out.1.dlen]; exact hky)]
                · rename_i hne
                  rcases Nat.lt_or_ge (n + j) i2 with h | h
                  · exact A.out.2.2 j h
                  · have := HKN.out (by omega)
                    omega
              clear hT hp hkp f0 f1 f2 f3' f4 f5 f6 f7 SS
              go_wp2
              go_roundg (n + ys.length - (i2 + 1))
              case measure => omega
              case rel => exact ⟨i2 + 1, _, v', ms', by go_num, by omega, Nat.le_refl _, S2⟩
        · have hltz : decide ((i2 : Int) < (n : Int) + (ys.length : Int)) = false := by simp; omega
          obtain ⟨Bt, hBt⟩ : ∃ Bt, Aside (u.heap.size = Bt) := ⟨_, rfl⟩
          have S3 : Aside (St3 w Bs Bt ag cg ys va msa (.slice none 0 0) [] u ∧ msa.Perm (ys.map movX)) := by
            refine ⟨by rw [← hBt.out]; exact A.out.1.next, ?_⟩
            have e : picked ys d = ys := picked_all ys d A.out.1.dlen (fun b hb => by
              obtain ⟨j, hj, rfl⟩ := List.getElem_of_mem hb
              have h1 := A.out.2.2 j (by rw [A.out.1.dlen] at hj; omega)
              rw [List.getElem?_eq_getElem hj] at h1
              exact Option.some.inj h1)
            have := A.out.2.1
            rwa [e] at this
          clear A S0 hkx hix
          go_wp2
          clear hltz hlt
          go_loopg [15] ys.length (fun kx s15 wr => ∃ (i : Nat) (vb : Value) (msb : List Mov), s15 = .int .i64 (i : Int) ∧ i ≤ ys.length ∧ ys.length - i ≤ kx ∧ Aside (St3 w Bs Bt ag cg ys va msa vb msb wr ∧ msb.Perm ((ys.take i).map movX)))
          case atStart => exact ⟨0, _, _, rfl, Nat.zero_le _, Nat.le_refl _, ⟨S3.out.1, List.Perm.refl _⟩⟩
          case round =>
            obtain ⟨i3, vb, msb, rfl, hix, hkx, A⟩ := hrel
            obtain ⟨u3, hu3⟩ : ∃ u3, u3 = wr := ⟨_, rfl⟩
            subst hu3
            have HP : Aside (msa.Perm (ys.map movX)) := S3.out.2
            clear S3
            by_cases hlt : i3 < ys.length
            · have hltz : decide ((i3 : Int) < (ys.length : Int)) = true := by simp; omega
              have ex : ((i3 : Int)).toNat = i3 := by omega
              have px : (0 : Int) ≤ (i3 : Int) := by omega
              have bx : (i3 : Int) < (ys.length : Int) := by omega
              obtain ⟨g, rfl⟩ := row_some A.out.1.own (by omega)
              obtain ⟨t, b, m, node, other, name, value, E8, M⟩ := move_cells AS.out A.out.1.own hlt
              obtain ⟨f0, f1, f2, f3, f4, f5, f6, f7⟩ := E8
              have f3' : u3.cell? ⟨g, i3 * 8 + 3, none⟩ = some (.int .u8 109) := f3
              clear f3
              go_wp2_with fail
              refine (apply_core undo_ok u3 Bt (Bs + 2 + 1) (Bs + 2) vb msb t b m node other name value (HE.out.later A.out.1.below) A.out.1.tb A.out.1.size (by rw [A.out.2.length_eq, List.length_map, List.length_take]; omega) (by have := M.out.2.2.2.1; omega) (by have := M.out.2.2.2.2; omega) M.out.2.2.1 (by have := new_stamp3 AS.out A.out.2 hlt; rwa [M.out.2.1] at this)).mono ?_
              rintro e we ⟨rfl, v', ms', hT, hp, hkp, -⟩
              have S4 : Aside (St3 w Bs Bt (some ⟨g, 0, none⟩) cg ys va msa v' ms' we ∧ ms'.Perm ((ys.take (i3 + 1)).map movX)) := ⟨A.out.1.keep hkp hT, perm_next3 A.out.2 hlt (by rw [M.out.1]; exact hp)⟩
              clear hT hp hkp f0 f1 f2 f3' f4 f5 f6 f7
              go_wp2
              go_roundg (ys.length - (i3 + 1))
              case measure => omega
              case rel => exact ⟨i3 + 1, v', ms', by go_num, by omega, Nat.le_refl _, S4⟩
            · have hltz : decide ((i3 : Int) < (ys.length : Int)) = false := by simp; omega
              have e3 : ys.take i3 = ys := List.take_of_length_le (by omega)
              have hms : msb = msa := by
                have h1 := A.out.2
                rw [e3] at h1
                exact byStamp_unique (h1.trans HP.out.symm) A.out.1.tb.by_ A.out.1.ta.by_
              subst hms
              obtain ⟨na, hna, Ma⟩ := A.out.1.ta.map
              obtain ⟨nb, hnb, Mb⟩ := A.out.1.tb.map
              have hml : msb.length ≤ 40 := by rw [HP.out.length_eq, List.length_map]; exact hy40
              have hP1 := places_any u3 (Bs + 1) Bs na va (madeBy msb) A.out.1.ta.good A.out.1.ta.cell Ma (by omega)
              have FA : Aside (TreeAt (Bs + 5) u3 (Bs + 1) Bs va msb ∧ TreeAt Bt u3 (Bs + 3) (Bs + 2) vb msb ∧ Below w.heap.size w u3) := ⟨A.out.1.ta, A.out.1.tb, A.out.1.below⟩
              clear A Ma Mb e3 hkx hix hna hnb HP
              go_wp2_with fail
              refine hP1.mono ?_
              rintro e ua ⟨x, qa, rfl, hI1, hl1, hQ1, hb1⟩
              obtain ⟨nb, hnb, Mb⟩ := (FA.out.2.1.later hb1).map
              have hP2 := places_any ua (Bs + 2 + 1) (Bs + 2) nb vb (madeBy msb) FA.out.2.1.good (FA.out.2.1.later hb1).cell Mb (by omega)
              have FB : Aside (TreeAt (Bs + 5) ua (Bs + 1) Bs va msb ∧ IsPlaces (madeBy msb) qa ∧ PlsAt ua x qa ∧ qa.length ≤ na ∧ Below w.heap.size w ua) := ⟨FA.out.1.later hb1, hI1, hQ1, hl1, FA.out.2.2.trans (hb1.mono FA.out.2.2.size)⟩
              have hnb' : nb ≤ 12000 := by omega
              clear hP1 hI1 hl1 hQ1 hb1 hnb Mb FA
              go_wp2_with fail
              refine hP2.mono ?_
              rintro e ub ⟨y, qb, rfl, hI2, hl2, hQ2, hb2⟩
              have hqq : qb = qa := hI2.unique FB.out.2.1
              subst hqq
              have FC : Aside (TreeAt (Bs + 5) ub (Bs + 1) Bs va msb ∧ IsPlaces (madeBy msb) qb ∧ PlsAt ub x qb ∧ PlsAt ub y qb ∧ Below w.heap.size w ub) := ⟨FB.out.1.later hb2, hI2, FB.out.2.2.1.later hb2, hQ2, FB.out.2.2.2.2.trans (hb2.mono FB.out.2.2.2.2.size)⟩
              have hqn : qb.length < 100000 := by omega
              clear hP2 hI2 hl2 hQ2 hb2 FB hnb'
              obtain ⟨ax, cx, rfl⟩ := FC.out.2.2.1.shape
              obtain ⟨ay, cy, rfl⟩ := FC.out.2.2.2.1.shape
              have hne : ((qb.length : Int) != (qb.length : Int)) = false := by simp
              go_wp2
              clear hne
              go_loopg [18] qb.length (fun kx s18 wr => ∃ (i : Nat), s18 = .int .i64 (i : Int) ∧ i ≤ qb.length ∧ qb.length - i ≤ kx ∧ Aside (Below ub.heap.size ub wr))
              case atStart => exact ⟨0, rfl, Nat.zero_le _, Nat.le_refl _, Below.refl _ _⟩
              case round =>
                obtain ⟨i5, rfl, hix, hkx, A⟩ := hrel
                by_cases hlt5 : i5 < qb.length
                · have hltz5 : decide ((i5 : Int) < (qb.length : Int)) = true := by simp; omega
                  have ex : ((i5 : Int)).toNat = i5 := by omega
                  have px : (0 : Int) ≤ (i5 : Int) := by omega
                  have bx : (i5 : Int) < (qb.length : Int) := by omega
                  obtain ⟨⟨c, q, nm⟩, hp⟩ : ∃ p : Plc, qb[i5]? = some p := ⟨_, List.getElem?_eq_getElem hlt5⟩
                  obtain ⟨gx, rfl, x0, x1, x2⟩ := (FC.out.2.2.1.later A.out).three hp
                  obtain ⟨gy, rfl, y0, y1, y2⟩ := (FC.out.2.2.2.1.later A.out).three hp
                  have hq := eqPl (c, q, nm) (c, q, nm)
                  have hfp : madeBy msb c = some (c, q, nm) := (FC.out.2.1.mem (c, q, nm)).1 (List.mem_of_getElem? hp)
                  have HI : Aside (∀ w', Below ub.heap.size ub w' → Calls Tryd.prog 58 #[.pointer (some ⟨Bs + 1, 0, none⟩), .int .i64 c, .int .i64 c] w' fun e w'' => e = .returned (.bool false) ∧ Below w'.heap.size w' w'') := fun w' hw' => by
                    have hT := FC.out.1.later hw'
                    obtain ⟨nn, _, hM⟩ := hT.map
                    obtain ⟨dd, hdd⟩ := hT.good.rank
                    have hfn := hT.good.fine c _ hfp
                    exact inside_is w' (Bs + 1) Bs nn (madeBy msb) c c false ⟨fun h => (by cases h), fun h => absurd h (ranked_ne hdd c)⟩ hT.cell.c0 hM hT.good (wf_of (by have := hfn.lo; simp at this; omega) (by have := hfn.hi; simp at this; omega))
                  have HS6 : Six ub gx gy i5 c q nm wr := ⟨x0, x1, x2, y0, y1, y2, A.out⟩
                  clear hp hfp x0 x1 x2 y0 y1 y2
                  simp only [decide_true] at hq
                  go_wp2_with fail
                  go_region_held3 (Six ub gx gy i5 c q nm)
                    (first
                      | assumption
                      | exact Six.drew (by assumption)
                      | exact Six.later (by assumption) (by assumption))
                    (first | (go_at_call 58; refine (HI.out _ A.out.drew).mono ?_; rintro e wi ⟨rfl, hbi⟩))
                  have A5 : Aside (Below ub.heap.size ub wi) := A.out.drew.trans (hbi.mono A.out.drew.size)
                  clear hbi HS6 hq HI
                  rename_i hHeld
                  clear hHeld
                  go_wp2
                  go_roundg (qb.length - (i5 + 1))
                  case measure => omega
                  case rel => exact ⟨i5 + 1, by go_num, by omega, Nat.le_refl _, A5⟩
                · have hltz5 : decide ((i5 : Int) < (qb.length : Int)) = false := by simp; omega
                  go_wp2
                  go_ret
                  exact ⟨rfl, FC.out.2.2.2.2.trans (A.out.mono FC.out.2.2.2.2.size)⟩
end Go.Proofs.YtnfhbmgkiknaaaaDoor
