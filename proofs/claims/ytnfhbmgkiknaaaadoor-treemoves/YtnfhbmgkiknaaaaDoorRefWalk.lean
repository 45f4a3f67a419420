/- The walk of the reference's PlacesOf, over the translation's bodies. -/
import Derived.Test.YtnfhbmgkiknaaaaDoorRefAll
namespace Go.Proofs.YtnfhbmgkiknaaaaDoor
open Go.RowKit Go.Lib Go.Sort Go.Maps
open scoped Classical

set_option maxRecDepth 100000 in
set_option maxHeartbeats 8000000 in
theorem placesOf_any (w : World) (v : Value) (xs : List OpX) (h : OpsAt w v xs) (hO : OwnSet xs) (hn : xs.length ≤ 40) :
    Calls Tryd.prog 53 #[v] w fun e w' => ∃ v' qs ms, e = .returned v' ∧ ms.Perm (xs.map movX) ∧ ByStamp ms ∧ IsPlaces (madeBy ms) qs ∧ qs.length ≤ 40 ∧ w'.ownsRow w.heap.size 98 3 v' qs.length (flat cellsP qs) ∧ Below w.heap.size w w' := by
  obtain ⟨i0, hi, hz0, hz1, hz2⟩ := info_parts infoRP
  have HO : Aside (OwnSet xs) := hO
  have hS := sortedOf_any w v xs h (by omega) hO.apart
  clear h hO
  go_enter Tryd.func53, Tryd.ntmps53
  go_wp2_with fail
  refine hS.mono ?_
  clear hS
  rintro e w1 ⟨v1, ys, rfl, hOps, hSort, hb1⟩
  obtain ⟨ay, cy, rfl, hIn⟩ := hOps.shape
  have hy40 : ys.length ≤ 40 := by rw [hSort.1.length_eq]; exact hn
  have Y : Aside (OpsIn w1 ay ys ∧ (∀ y ∈ ys, GoodX y ∧ Short y) ∧ (∀ y ∈ ys, FineP (movX y).2) ∧ (ys.map movX).Perm (xs.map movX) ∧ ByStamp (ys.map movX) ∧ Below w.heap.size w w1) := ⟨hIn, (sorted_ok HO.out hSort).1, (sorted_ok HO.out hSort).2.1, (sorted_ok HO.out hSort).2.2.1, (sorted_ok HO.out hSort).2.2.2, hb1⟩
  clear hOps hIn hSort hb1 HO
  go_wp2
  go_loopg [3, 5] ys.length (fun kx s3 s5 wr => ∃ (i : Nat) (qs : List Plc) (ov : Value), ov = s3 ∧ s5 = .int .i64 (i : Int) ∧ i ≤ ys.length ∧ ys.length - i ≤ kx ∧ Aside (St4 w1 ys i qs ov wr))
  case atStart => exact ⟨0, [], _, rfl, rfl, Nat.zero_le _, Nat.le_refl _, ⟨World.ownsRow_nil _ _ _ _, ⟨List.Pairwise.nil, fun p => ⟨fun h => by simp at h, fun h => by simp [madeBy, foldS, noSta] at h⟩⟩, Nat.zero_le _, Below.refl _ _⟩⟩
  case round =>
    obtain ⟨i, qs, ov, rfl, rfl, hix, hkx, A⟩ := hrel
    obtain ⟨ag, cg, rfl⟩ := row_shape A.out.row
    have hq40 : qs.length ≤ 40 := by have := A.out.len; omega
    by_cases hlt : i < ys.length
    · have hltz : decide ((i : Int) < (ys.length : Int)) = true := by simp; omega
      have ex : ((i : Int)).toNat = i := by omega
      have px : (0 : Int) ≤ (i : Int) := by omega
      have bx : (i : Int) < (ys.length : Int) := by omega
      obtain ⟨blk, off, rfl, hc⟩ : ∃ b off, ay = some ⟨b, off, none⟩ ∧ ∀ j u, (cellsOf ys)[j]? = some u → w1.cell? ⟨b, off + j, none⟩ = some u := by
        rcases Y.out.1 with h0 | h1
        · subst h0; simp at hlt
        · exact h1
      obtain ⟨⟨t, b, m, kd, node, other, name, value⟩, hx⟩ : ∃ x, ys[i]! = x := ⟨_, rfl⟩
      have hmem : ys[i]! ∈ ys := by rw [getElem!_pos ys i hlt]; exact List.getElem_mem hlt
      have hkd : kd = 109 := by have := (Y.out.2.1 _ hmem).1.2; rw [hx] at this; exact this
      subst hkd
      obtain ⟨f0, f1, f2, f3, f4, f5, f6, f7⟩ := eight_at (fun j v hj => cellKept A.out.below (hc j v hj)) i hlt hx
      have f3' : wr.cell? ⟨blk, off + i * 8 + 3, none⟩ = some (.int .u8 109) := f3
      have HM : Aside (movX ys[i]! = ((t, b), (node, other, name))) := by show movX ys[i]! = _; rw [hx]; rfl
      clear hx hmem f3 hc
      go_upto_region 7 with fail
      obtain ⟨u, hu⟩ : ∃ u, u = wr.alloc (.cells #[.int .i64 t, .int .i64 b, .int .i64 m, .int .u8 109, .int .i64 node, .int .i64 other, .string name, .string value] 77) := ⟨_, rfl⟩
      have O1 : OpAt u wr.heap.size t b m 109 node other name value := by rw [hu]; exact OpAt.new wr t b m 109 node other name value 77
      have B1 : Below wr.heap.size wr u := by rw [hu]; exact (Below.refl _ wr).alloc (Nat.le_refl _) _
      rw [← hu]
      obtain ⟨Bo, hBo⟩ : ∃ Bo, Aside (wr.heap.size = Bo) := ⟨_, rfl⟩
      rw [hBo.out] at O1 ⊢
      have U : Aside (St4 w1 ys i qs (.slice ag qs.length cg) u ∧ OpAt u Bo t b m 109 node other name value) := ⟨A.out.later B1, O1⟩
      clear hu f0 f1 f2 f3' f4 f5 f6 f7 B1 O1 A
      obtain ⟨g0, g1, g2, g3, g4, g5, g6, g7⟩ := U.out.2
      have g3' : u.cell? ⟨Bo, 3, none⟩ = some (.int .u8 109) := g3
      clear g3 g0 g1 g2 g7
      by_cases hno : node = other
      · have dno : (node == other) = true := by simp [hno]
        have R : Aside (St4 w1 ys (i + 1) qs (.slice ag qs.length cg) u) := U.out.1.idle hlt (Below.refl _ _) (by rw [HM.out]; exact .inl hno)
        clear hno
        go_wp2
        go_roundg (ys.length - (i + 1))
        case measure => omega
        case rel => exact ⟨i + 1, qs, _, rfl, by go_num, by omega, Nat.le_refl _, R⟩
      have dno : (node == other) = false := by simp [hno]
      have HNO := Lib.hid hno
      clear hno
      have hI := isInside_any u ag cg qs _ other node (U.out.1.good Y.out.2.2.1) U.out.1.pls (plsOwn U.out.1.row) (by omega)
      cases hz : insF (madeBy ((ys.take i).map movX)) (qs.length + 1) other node with
      | true =>
        rw [hz] at hI
        have R : Aside (St4 w1 ys (i + 1) qs (.slice ag qs.length cg) u) := U.out.1.idle hlt (Below.refl _ _) (by rw [HM.out]; exact .inr ((ins_enough (U.out.1.good Y.out.2.2.1) U.out.1.pls).2 hz))
        clear hz
        go_wp2_with fail
        refine hI.mono ?_
        rintro e u1 ⟨rfl, hu1⟩
        subst hu1
        go_wp2
        go_roundg (ys.length - (i + 1))
        case measure => omega
        case rel => exact ⟨i + 1, qs, _, rfl, by go_num, by omega, Nat.le_refl _, R⟩
      | false =>
        rw [hz] at hI
        have ID : Aside (madeBy ((ys.take (i + 1)).map movX) = upd (madeBy ((ys.take i).map movX)) node (some (node, other, name))) := by
          show madeBy ((ys.take (i + 1)).map movX) = _
          rw [made_next hlt, HM.out]
          exact step_goes (by
            rintro (h | h)
            · exact HNO.out h
            · rw [(ins_enough (U.out.1.good Y.out.2.2.1) U.out.1.pls).1 h] at hz; cases hz)
        clear hz
        go_wp2_with fail
        refine hI.mono ?_
        rintro e u1 ⟨rfl, hu1⟩
        subst hu1
        clear hI
        go_upto_region 10 with fail
        obtain ⟨ua, hua⟩ : ∃ ua, ua = u1.alloc (.cells #[.int .i64 node, .int .i64 other, .string name] 98) := ⟨_, rfl⟩
        have B2 : Below u1.heap.size u1 ua := by rw [hua]; exact (Below.refl _ u1).alloc (Nat.le_refl _) _
        have q0 : ua.cell? ⟨u1.heap.size, 0, none⟩ = some (.int .i64 node) := by rw [hua]; exact (rp_new u1 node other name).1
        have q1 : ua.cell? ⟨u1.heap.size, 1, none⟩ = some (.int .i64 other) := by rw [hua]; exact (rp_new u1 node other name).2.1
        have q2 : ua.cell? ⟨u1.heap.size, 2, none⟩ = some (.string name) := by rw [hua]; exact (rp_new u1 node other name).2.2
        have k4 := cellKept B2 g4
        rw [← hua]
        obtain ⟨Bp, hBp⟩ : ∃ Bp, Aside (u1.heap.size = Bp) := ⟨_, rfl⟩
        rw [hBp.out] at q0 q1 q2 ⊢
        have V : Aside (St4 w1 ys i qs (.slice ag qs.length cg) ua) := U.out.1.later B2
        clear hua B2 g4 g5 g6 g3' U
        have hP := placeOf_any ua ag cg qs node (plsOwn V.out.row) (by omega)
        cases hk : idxP qs node with
        | some k =>
          have e1 : idxI qs node = (k : Int) := by unfold idxI; rw [hk]
          rw [e1] at hP
          obtain ⟨⟨pc, pq, pn⟩, hpk, -⟩ := idxP_some hk
          have hkl : k < qs.length := (List.getElem?_eq_some_iff.1 hpk).1
          obtain ⟨g, rfl⟩ := row_some V.out.row (by omega)
          obtain ⟨g', hg', y0, y1, y2⟩ := (plsOwn V.out.row).three hpk
          cases hg'
          have z0 := V.out.row.frozenAt (k * 3)
          have z1 := V.out.row.frozenAt (k * 3 + 1)
          have z2 := V.out.row.frozenAt (k * 3 + 2)
          have R := V.out.set (other := other) (name := name) hk ID.out
          have ek : ((k : Int)).toNat = k := by omega
          have pk : (0 : Int) ≤ (k : Int) := by omega
          have bk : (k : Int) < (qs.length : Int) := by omega
          have dk : decide ((0 : Int) ≤ (k : Int)) = true := by simp
          have RR : Aside _ := R
          clear R hk e1 hpk
          go_wp2_with fail
          refine hP.mono ?_
          rintro e u2 ⟨rfl, hu2⟩
          subst hu2
          go_wp2
          go_roundg (ys.length - (i + 1))
          case measure => omega
          case rel => exact ⟨i + 1, _, _, rfl, by go_num, by omega, Nat.le_refl _, RR⟩
        | none =>
          have e1 : idxI qs node = -1 := by unfold idxI; rw [hk]
          rw [e1] at hP
          have HK := Lib.hid hk
          clear hk e1
          go_wp2_with fail
          refine hP.mono ?_
          rintro e u2 ⟨rfl, hu2⟩
          subst hu2
          clear hP
          have Q : Aside (u2.cell? ⟨Bo, 4, none⟩ = some (.int .i64 node) ∧ u2.cell? ⟨Bp, 0, none⟩ = some (.int .i64 node) ∧ u2.cell? ⟨Bp, 1, none⟩ = some (.int .i64 other) ∧ u2.cell? ⟨Bp, 2, none⟩ = some (.string name)) := ⟨k4, q0, q1, q2⟩
          go_wp2
          clear k4 q0 q1 q2
          go_loopg [8] qs.length (fun ky s8 wr => ∃ (k : Nat), s8 = .int .i64 (k : Int) ∧ k ≤ qs.length ∧ qs.length - k ≤ ky ∧ Aside ((∀ j, j < k → (qs[j]!).1 < node) ∧ Below u2.heap.size u2 wr))
          case atStart => exact ⟨0, rfl, Nat.zero_le _, Nat.le_refl _, ⟨fun j hj => absurd hj (Nat.not_lt_zero _), Below.refl _ _⟩⟩
          case round =>
            obtain ⟨k, rfl, hkq, hky, K⟩ := hrel
            go_upto_region 14 with fail
            go_cut [68] (fun s68 wx => ∃ z : Bool, s68 = .bool z ∧ Aside ((z = true ↔ k < qs.length ∧ (qs[k]!).1 < node) ∧ Below u2.heap.size u2 wx))
            case first =>
              by_cases hkl : k < qs.length
              · have hkz : decide ((k : Int) < (qs.length : Int)) = true := by simp; omega
                have ek : ((k : Int)).toNat = k := by omega
                have pk : (0 : Int) ≤ (k : Int) := by omega
                have bk : (k : Int) < (qs.length : Int) := by omega
                obtain ⟨⟨pc, pq, pn⟩, hpk⟩ : ∃ p : Plc, qs[k]? = some p := ⟨_, List.getElem?_eq_getElem hkl⟩
                obtain ⟨g, rfl⟩ := row_some V.out.row (by omega)
                obtain ⟨g', hg', y0, -, -⟩ := (plsOwn (V.out.later K.out.2).row).three hpk
                cases hg'
                have hpc : Aside ((qs[k]!).1 = pc) := by
                  have := (List.getElem?_eq_some_iff.1 hpk).2
                  show (qs[k]!).1 = pc
                  rw [getElem!_pos qs k hkl, this]
                have k4 := cellKept K.out.2 Q.out.1
                clear hpk
                by_cases hl : pc < node
                · have dl : decide (pc < node) = true := decide_eq_true hl
                  go_quiet (fail)
                  go_wp2
                  go_meet
                  exact ⟨true, rfl, ⟨fun _ => ⟨hkl, by rw [hpc.out]; exact hl⟩, fun _ => rfl⟩, below_drewN K.out.2 _⟩
                · have dl : decide (pc < node) = false := decide_eq_false hl
                  go_quiet (fail)
                  go_wp2
                  go_meet
                  exact ⟨false, rfl, ⟨fun h => (by cases h), fun h => by have := h.2; rw [hpc.out] at this; omega⟩, below_drewN K.out.2 _⟩
              · have hkz : decide ((k : Int) < (qs.length : Int)) = false := by simp; omega
                go_quiet (fail)
                go_wp2
                go_meet
                exact ⟨false, rfl, ⟨fun h => (by cases h), fun h => absurd h.1 hkl⟩, below_drewN K.out.2 _⟩
            case rest =>
              obtain ⟨z, rfl, Z⟩ := hcut
              cases z with
              | true =>
                have Z1 : Aside ((k < qs.length ∧ (qs[k]!).1 < node) ∧ Below u2.heap.size u2 wc) := ⟨Z.out.1.1 rfl, Z.out.2⟩
                have hkl := Z1.out.1.1
                clear Z
                go_wp2
                go_roundg (qs.length - (k + 1))
                case measure => omega
                case rel =>
                  refine ⟨k + 1, by go_num, by omega, Nat.le_refl _, ⟨fun j hj => ?_, Z1.out.2⟩⟩
                  rcases Nat.lt_or_ge j k with h | h
                  · exact K.out.1 j h
                  · obtain rfl : j = k := by omega
                    exact Z1.out.1.2
              | false =>
                have Z0 : Aside ((k < qs.length → ¬ (qs[k]!).1 < node) ∧ Below u2.heap.size u2 wc) := ⟨fun h1 h2 => (by have := Z.out.1.2 ⟨h1, h2⟩; cases this), Z.out.2⟩
                have VV : Aside (St4 w1 ys i qs (.slice ag qs.length cg) wc ∧ ∀ j, j < k → (qs[j]!).1 < node) := ⟨V.out.later Z0.out.2, K.out.1⟩
                have QQ : Aside (wc.cell? ⟨Bp, 0, none⟩ = some (.int .i64 node) ∧ wc.cell? ⟨Bp, 1, none⟩ = some (.int .i64 other) ∧ wc.cell? ⟨Bp, 2, none⟩ = some (.string name)) := ⟨cellKept Z0.out.2 Q.out.2.1, cellKept Z0.out.2 Q.out.2.2.1, cellKept Z0.out.2 Q.out.2.2.2⟩
                clear Z K V Q
                have LY : Aside (∀ (v' : Value) (w' : World), w'.ownsRow wc.heap.size 98 3 v' (k + 1 + (qs.length - k)) (flat cellsP (qs.take k) ++ cellsP (node, other, name) ++ flat cellsP (qs.drop k)) → Below wc.heap.size wc w' → St4 w1 ys (i + 1) (qs.take k ++ (node, other, name) :: qs.drop k) v' w') := fun v' w' h1 h2 =>
                  VV.out.1.lay HK.out ID.out hkq VV.out.2 Z0.out.1 (owns_base h1 VV.out.1.below.size) (VV.out.1.below.trans (h2.mono VV.out.1.below.size))
                clear Z0
                rcases VV.out.1.row.2 with ⟨hv, h0⟩ | ⟨g, cap', cur, hv, _, _, hcap, _⟩
                · obtain rfl : qs = [] := List.length_eq_zero_iff.1 h0
                  simp only [Value.slice.injEq] at hv
                  obtain ⟨rfl, -, rfl⟩ := hv
                  obtain rfl : k = 0 := by simpa using hkq
                  obtain ⟨q0, q1, q2⟩ := QQ.out
                  go_wp2_with (at_builtin; refine wpList_append_own _ rfl _ _ 86 rfl wc.heap.size 98 i0 _ 3 32 Tryd.underlying86 hi hz0 hz1 hz2 rfl (by omega) _ _ _ rfl (World.ownsRow_nil (wc.alloc _) _ _ _) ⟨wc.heap.size, 0, none⟩ 1 1 [.int .i64 node, .int .i64 other, .string name] rfl ?qb1 ?qb2 ?qb3 ?qb4 ?qb5 ?qb6 ?_)
                  case qb1 => rfl
                  case qb2 => exact lit_rp wc (node, other, name)
                  case qb3 => exact cellsP_one (node, other, name)
                  case qb4 => simp only [maxLen]; omega
                  case qb5 => omega
                  case qb6 => simp
                  intro v2 u3 hown hgrow hnil
                  clear q0 q1 q2 hnil
                  have W2 : Below wc.heap.size wc u3 := ((Below.refl _ wc).alloc (Nat.le_refl _) _).grown hgrow (by simp) (by intro k hk; simp [Value.ownBlock] at hk)
                  have R3 : Aside (St4 w1 ys (i + 1) [(node, other, name)] v2 u3) := LY.out v2 u3 (by simpa [flat, cellsP] using hown) W2
                  obtain ⟨g2, c2, rfl, hc2⟩ : ∃ g2 c2, v2 = .slice (some ⟨g2, 0, none⟩) 1 c2 ∧ 1 ≤ c2 := by
                    rcases hown.2 with ⟨_, h⟩ | ⟨g2, c2, _, h, _, _, hr, _⟩
                    · exact absurd h (by omega)
                    · exact ⟨g2, c2, h, hr⟩
                  clear hown hgrow W2 LY
                  go_wp2
                  go_roundg (ys.length - (i + 1))
                  case measure => omega
                  case rel => exact ⟨i + 1, _, _, rfl, by go_num, by omega, Nat.le_refl _, R3⟩
                · simp only [Value.slice.injEq] at hv
                  obtain ⟨rfl, -, rfl⟩ := hv
                  have HG : Aside (∀ j v, (flat cellsP qs)[j]? = some v → wc.cell? ⟨g, j, none⟩ = some v) := fun j v hj => by
                    have hl : j < (flat cellsP qs).length := (List.getElem?_eq_some_iff.1 hj).1
                    rw [flat_len (k := 3) (fun _ => rfl)] at hl
                    rw [VV.out.1.row.cellAt j hl, hj]
                  have dk0 : (0 : Int) ≤ (k : Int) := by omega
                  have dk1 : (k : Int) ≤ (cg : Int) := by omega
                  have dk2 : (k : Int) ≤ (qs.length : Int) := by omega
                  have ek : ((k : Int)).toNat = k := by omega
                  have HKL : Aside ((qs.take k).length = k ∧ (qs.drop k).length = qs.length - k) := ⟨by rw [List.length_take]; omega, List.length_drop⟩
                  go_wp2_with (at_builtin; refine wpList_append_own _ rfl _ _ 86 rfl wc.heap.size 98 i0 _ 3 32 Tryd.underlying86 hi hz0 hz1 hz2 rfl (by omega) _ _ _ rfl (World.ownsRow_nil wc _ _ _) ⟨g, 0, none⟩ k cg (flat cellsP (qs.take k)) rfl ?qa1 ?qa2 ?qa3 ?qa4 ?qa5 ?qa6 ?_)
                  case qa1 => rw [flat_len (k := 3) (fun _ => rfl), HKL.out.1]
                  case qa2 => exact flat_take_cells k HG.out
                  case qa3 => exact flat_one cellsP_one _
                  case qa4 => rw [Nat.zero_add]; simp only [maxLen]; omega
                  case qa5 => rw [Nat.zero_add]; omega
                  case qa6 => exact Nat.le_refl _
                  intro v2 u3 hown hgrow hnil
                  clear hnil
                  have B1 : Below wc.heap.size wc u3 := (Below.refl _ wc).grown hgrow (Nat.le_refl _) (by intro k hk; simp [Value.ownBlock] at hk)
                  have O1 : Aside (u3.ownsRow wc.heap.size 98 3 v2 k (flat cellsP (qs.take k)) ∧ Below wc.heap.size wc u3) := ⟨by simpa using hown, B1⟩
                  have q0 := cellKept B1 QQ.out.1
                  have q1 := cellKept B1 QQ.out.2.1
                  have q2 := cellKept B1 QQ.out.2.2
                  clear hown hgrow B1
                  go_wp2_with (at_builtin; refine wpList_append_own _ rfl _ _ 86 rfl wc.heap.size 98 i0 _ 3 32 Tryd.underlying86 hi hz0 hz1 hz2 rfl (by omega) _ _ _ rfl (O1.out.1.alloc _) ⟨u3.heap.size, 0, none⟩ 1 1 [.int .i64 node, .int .i64 other, .string name] rfl ?qb1 ?qb2 ?qb3 ?qb4 ?qb5 ?qb6 ?_)
                  case qb1 => rfl
                  case qb2 => exact lit_rp u3 (node, other, name)
                  case qb3 => exact cellsP_one (node, other, name)
                  case qb4 => simp only [maxLen]; omega
                  case qb5 => omega
                  case qb6 => have := O1.out.2.size; simp; omega
                  intro v3 u4 hown hgrow hnil
                  clear hnil q0 q1 q2
                  have B2 : Below wc.heap.size wc u4 := (O1.out.2.alloc O1.out.2.size _).grown hgrow (by have := O1.out.2.size; simp; omega) (fun k hk => (O1.out.1.lt k hk).1)
                  have O2 : Aside (u4.ownsRow wc.heap.size 98 3 v3 (k + 1) (flat cellsP (qs.take k) ++ cellsP (node, other, name)) ∧ Below wc.heap.size wc u4) := ⟨hown, B2⟩
                  clear hown hgrow B2 O1
                  by_cases hkc : k = cg
                  · subst hkc
                    go_wp2_with (at_builtin; refine wpList_append_own _ rfl _ _ 86 rfl wc.heap.size 98 i0 _ 3 32 Tryd.underlying86 hi hz0 hz1 hz2 rfl (by omega) _ _ _ rfl O2.out.1 ⟨g, 0, none⟩ 0 0 [] rfl ?qd1 ?qd2 ?qd3 ?qd4 ?qd5 ?qd6 ?_)
                    case qd1 => rfl
                    case qd2 => intro j v hj; simp at hj
                    case qd3 => intro v hv; cases hv
                    case qd4 => simp only [maxLen]; omega
                    case qd5 => omega
                    case qd6 => exact O2.out.2.size
                    intro v4 u5 hown hgrow hnil
                    clear hnil
                    have R3 : Aside (St4 w1 ys (i + 1) (qs.take k ++ (node, other, name) :: qs.drop k) v4 u5) := LY.out v4 u5 (by
                      have hdrop : qs.drop k = [] := List.drop_eq_nil_of_le (by omega)
                      have hl0 : qs.length - k = 0 := by omega
                      rw [hdrop, hl0, flat_nil, List.append_nil]
                      exact hown) (O2.out.2.grown hgrow O2.out.2.size (fun k hk => (O2.out.1.lt k hk).1))
                    clear hown hgrow O2 LY
                    go_wp2
                    go_roundg (ys.length - (i + 1))
                    case measure => omega
                    case rel => exact ⟨i + 1, _, _, rfl, by go_num, by omega, Nat.le_refl _, R3⟩
                  · have hne : ¬ cg = k := fun h => hkc h.symm
                    go_wp2_with (at_builtin; refine wpList_append_own _ rfl _ _ 86 rfl wc.heap.size 98 i0 _ 3 32 Tryd.underlying86 hi hz0 hz1 hz2 rfl (by omega) _ _ _ rfl O2.out.1 ⟨g, k * 3, none⟩ (qs.length - k) (cg - k) (flat cellsP (qs.drop k)) rfl ?qd1 ?qd2 ?qd3 ?qd4 ?qd5 ?qd6 ?_)
                    case qd1 => rw [flat_len (k := 3) (fun _ => rfl), HKL.out.2]
                    case qd2 => exact flat_drop_cells k (by omega) (fun j v hj => cellKept O2.out.2 (HG.out j v hj))
                    case qd3 => exact flat_one cellsP_one _
                    case qd4 => simp only [maxLen]; omega
                    case qd5 => omega
                    case qd6 => exact O2.out.2.size
                    intro v4 u5 hown hgrow hnil
                    clear hnil
                    have R3 : Aside (St4 w1 ys (i + 1) (qs.take k ++ (node, other, name) :: qs.drop k) v4 u5) := LY.out v4 u5 (by rw [List.append_assoc]; exact hown) (O2.out.2.grown hgrow O2.out.2.size (fun k hk => (O2.out.1.lt k hk).1))
                    clear hown hgrow O2 LY
                    go_wp2
                    go_roundg (ys.length - (i + 1))
                    case measure => omega
                    case rel => exact ⟨i + 1, _, _, rfl, by go_num, by omega, Nat.le_refl _, R3⟩
    · have hltz : decide ((i : Int) < (ys.length : Int)) = false := by simp; omega
      have R : Aside ((ys.map movX).Perm (xs.map movX) ∧ ByStamp (ys.map movX) ∧ IsPlaces (madeBy (ys.map movX)) qs ∧ qs.length ≤ 40 ∧ wr.ownsRow w.heap.size 98 3 (.slice ag qs.length cg) qs.length (flat cellsP qs) ∧ Below w.heap.size w wr) := by
        obtain rfl : i = ys.length := by omega
        have h1 := A.out.pls
        rw [List.take_length] at h1
        exact ⟨Y.out.2.2.2.1, Y.out.2.2.2.2.1, h1, hq40, owns_base A.out.row Y.out.2.2.2.2.2.size, Y.out.2.2.2.2.2.trans (A.out.below.mono Y.out.2.2.2.2.2.size)⟩
      clear A
      go_wp2
      go_ret
      exact ⟨_, qs, _, rfl, R.out⟩
end Go.Proofs.YtnfhbmgkiknaaaaDoor
