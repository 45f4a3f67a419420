/- The walk of the law LineTurned. -/
import Derived.Test.YtkilnfooelihaaaDoorLTSt
import Derived.Deep.Cut
import Derived.Deep.CutRange
import Derived.Deep.DeepCutAuto
set_option linter.unusedVariables false
namespace Go.Proofs.YtkilnfooelihaaaDoor
open Go.RowKit Go.Lib Go.Sort

theorem getAt {zs : List Int} {i : Nat} (h : i < zs.length) : zs[i]? = some zs[i]! := by rw [getElem!_pos zs i h]; exact List.getElem?_eq_getElem h
theorem intsV_at {zs : List Int} {i : Nat} (h : i < zs.length) : (intsV zs)[i]? = some (.int .i64 zs[i]!) := by simp [intsV, getElem!_pos zs i h, List.getElem?_eq_getElem h]

set_option maxRecDepth 100000 in
set_option maxHeartbeats 8000000 in
theorem lineTurned_any (w : World) (ao : Option Addr) (zs : List Int) (cap : Nat) (aq : Option Addr) (qs : List Int) (cq : Nat) (hZ : IntsZ w ao zs) (hQ : IntsZ w aq qs) (hzn : zs.length < 9223372036854775808) (hqn : qs.length < 9223372036854775808) :
    Calls Tryd.prog 13 #[.slice ao zs.length cap, .slice aq qs.length cq] w fun e w' => e = .returned (.bool true) ∧ Below w.heap.size w w' := by
  have HZ : Aside (IntsZ w ao zs) := hZ
  have HQ : Aside (IntsZ w aq qs) := hQ
  clear hZ hQ
  go_enter Tryd.func13, Tryd.ntmps13
  go_wp2_with fail
  refine (lined_any w).mono ?_
  rintro e w1 ⟨rfl, hb1⟩
  have B1 : Aside (Below w.heap.size w w1) := hb1
  clear hb1
  by_cases hz40 : 40 < zs.length
  · have d40 : decide ((40 : Int) < (zs.length : Int)) = true := decide_eq_true (by omega)
    go_wp2
    go_ret
    exact ⟨rfl, B1.out⟩
  have d40 : decide ((40 : Int) < (zs.length : Int)) = false := decide_eq_false (by omega)
  by_cases hq60 : 60 < qs.length
  · have d60 : decide ((60 : Int) < (qs.length : Int)) = true := decide_eq_true (by omega)
    go_wp2
    go_ret
    exact ⟨rfl, B1.out⟩
  have d60 : decide ((60 : Int) < (qs.length : Int)) = false := decide_eq_false (by omega)
  obtain ⟨i0, hi, hz0, hz1, hz2⟩ := info_parts infoI64
  obtain ⟨wm, hrun, hwm, hgm⟩ := run_makeSlice_full (P := Tryd.prog) w1 w1.heap.size 22 3 i0 (.int .i64 0) 1 Tryd.underlying22 hi hz0 hz1 .i64 .i64 zs.length (by omega) (by rw [hz2]; omega) (by simp only [maxLen]; omega) (Nat.le_refl _)
  obtain ⟨O, hO⟩ : ∃ O, Aside (w1.heap.size = O) := ⟨_, rfl⟩
  have H0 : Aside (wm.ownsRow O 3 1 (.slice (some ⟨O, 0, none⟩) zs.length zs.length) zs.length (intsV (ofTo zs 0)) ∧ Below w.heap.size w wm ∧ w.heap.size ≤ O) := by
    rw [hO.out, Nat.mul_one, show (Value.int .i64 0).cells = #[.int .i64 0] from rfl, toList_madeCells_one] at hwm
    refine ⟨by rw [ofTo_zero]; unfold intsV; rw [List.map_replicate]; exact hwm, B1.out.trans ((Below.refl _ w1).grown hgm (Nat.le_refl _) (fun k hk => by cases hk) |>.mono B1.out.size), by have := B1.out.size; have := hO.out; omega⟩
  rw [hO.out] at hrun
  clear hwm hgm hi hz0 hz1 hz2
  go_wp2
  clear hrun
  go_loopg [8] zs.length (fun kx s8 wr => ∃ (i : Nat), s8 = .int .i64 (i : Int) ∧ i ≤ zs.length ∧ zs.length - i ≤ kx ∧ Aside (wr.ownsRow O 3 1 (.slice (some ⟨O, 0, none⟩) zs.length zs.length) zs.length (intsV (ofTo zs i)) ∧ Below w.heap.size w wr ∧ w.heap.size ≤ O))
  case atStart => exact ⟨0, rfl, Nat.zero_le _, Nat.le_refl _, H0⟩
  case round =>
    obtain ⟨i, rfl, hix, hkx, A⟩ := hrel
    clear H0 B1
    by_cases hlt : i < zs.length
    · have hltz : decide ((i : Int) < (zs.length : Int)) = true := by simp; omega
      have ex : ((i : Int)).toNat = i := by omega
      have px : (0 : Int) ≤ (i : Int) := by omega
      have bx : (i : Int) < (zs.length : Int) := by omega
      obtain ⟨z, hz⟩ : ∃ z, Aside (zs[i]! = z) := ⟨_, rfl⟩
      have hgi := getAt hlt
      rw [hz.out] at hgi
      obtain ⟨blk, off, rfl, cz⟩ := (HZ.out.later A.out.2.1).at hgi
      clear hgi
      by_cases hg : 0 ≤ z ∧ z < (i : Int)
      · have d1 : decide ((0 : Int) ≤ z) = true := decide_eq_true hg.1
        have d2 : decide (z < (i : Int)) = true := decide_eq_true hg.2
        have e4 : IntKind.i64.wrap (4 + z) = 4 + z := by rw [IntKind.wrap_i64]; omega
        have hv : Aside (ofv zs i = 4 + z) := by
          show ofv zs i = 4 + z
          unfold ofv
          rw [hz.out, if_pos hg]
        obtain ⟨u0, c0⟩ : ∃ u0, wr.cell? ⟨O, i, none⟩ = some u0 := ⟨_, (A.out.1.cellAt i (by omega)).trans (intsV_at (by rw [ofTo_len]; exact hlt))⟩
        have f0 : wr.frozen? ⟨O, i, none⟩ = false := A.out.1.frozenAt i
        have A' : Aside ((wr.setCell ⟨O, i, none⟩ (.int .i64 (4 + z))).ownsRow O 3 1 (.slice (some ⟨O, 0, none⟩) zs.length zs.length) zs.length (intsV (ofTo zs (i + 1))) ∧ Below w.heap.size w (wr.setCell ⟨O, i, none⟩ (.int .i64 (4 + z))) ∧ w.heap.size ≤ O) := by
          refine ⟨?_, A.out.2.1.setCell A.out.2.2 _, A.out.2.2⟩
          have := (A.out.1.stored i (.int .i64 (4 + z))).1
          rw [intsV_set, ← hv.out, ofTo_set hlt] at this
          rw [← hv.out]
          exact this
        clear hg
        go_wp2
        go_roundg (zs.length - (i + 1))
        case measure => omega
        case rel => exact ⟨i + 1, by go_num, by omega, Nat.le_refl _, A'⟩
      · have hv : ofTo zs i = ofTo zs (i + 1) := ofTo_skip (by unfold ofv; rw [hz.out, if_neg hg])
        have A' : Aside (wr.ownsRow O 3 1 (.slice (some ⟨O, 0, none⟩) zs.length zs.length) zs.length (intsV (ofTo zs (i + 1))) ∧ Below w.heap.size w wr ∧ w.heap.size ≤ O) := by rw [← hv]; exact A.out
        clear hv
        by_cases hn : 0 ≤ z
        · have d1 : decide ((0 : Int) ≤ z) = true := decide_eq_true hn
          have d2 : decide (z < (i : Int)) = false := decide_eq_false (fun h => hg ⟨hn, h⟩)
          clear hg
          go_wp2
          go_roundg (zs.length - (i + 1))
          case measure => omega
          case rel => exact ⟨i + 1, by go_num, by omega, Nat.le_refl _, A'⟩
        · have d1 : decide ((0 : Int) ≤ z) = false := decide_eq_false hn
          clear hg
          go_wp2
          go_roundg (zs.length - (i + 1))
          case measure => omega
          case rel => exact ⟨i + 1, by go_num, by omega, Nat.le_refl _, A'⟩
    · have hltz : decide ((i : Int) < (zs.length : Int)) = false := by simp; omega
      obtain rfl : i = zs.length := by omega
      have A' : Aside (wr.ownsRow O 3 1 (.slice (some ⟨O, 0, none⟩) zs.length zs.length) zs.length (intsV (ofAll zs)) ∧ Below w.heap.size w wr ∧ w.heap.size ≤ O) := A.out
      clear A hkx
      obtain ⟨pa, hpa⟩ : ∃ pa, Aside (wr.heap.size = pa) := ⟨_, rfl⟩
      go_wp2_with fail
      refine (new_line wr).mono ?_
      rintro e wa ⟨rfl, hsa, Ta, Ba⟩
      rw [hpa.out] at Ta hsa Ba ⊢
      have A2 : Aside (wa.heap.size = pa + 1 ∧ (∀ base, pa < base → LineAt base wa pa (.slice none 0 0) []) ∧ Below pa wr wa) := ⟨hsa, Ta, Ba⟩
      clear hsa Ta Ba
      go_wp2_with fail
      refine (new_line wa).mono ?_
      rintro e wb ⟨rfl, hsb, Tb, Bb⟩
      rw [A2.out.1] at Tb hsb Bb ⊢
      obtain ⟨j0, hj, hy0, hy1, hy2⟩ := info_parts infoBl
      obtain ⟨wd, hrun, hwd, hgd⟩ := run_makeSlice_full (P := Tryd.prog) wb (pa + 2) 100 4 j0 (.bool false) 1 Tryd.underlying100 hj hy0 hy1 .i64 .i64 zs.length (by omega) (by rw [hy2]; omega) (by simp only [maxLen]; omega) (by omega)
      rw [hsb] at hrun hwd
      have el := Lib.hid (ofAll_len zs)
      have S0 : Aside (LT w O pa (pa + 1) (pa + 2) (pa + 3) (ofAll zs) (List.replicate zs.length false) (.slice none 0 0) [] wd) := by
        rw [Nat.mul_one, show (Value.bool false).cells = #[.bool false] from rfl, toList_madeCells_one] at hwd
        have := lt_start (of := ofAll zs) (by rw [el.out]; exact A'.out.1) A'.out.2.1 A'.out.2.2 hpa.out A2.out.1 A2.out.2.1 A2.out.2.2 hsb Tb Bb (by rw [el.out]; exact hwd) hgd
        rw [el.out] at this
        exact this
      clear hwd hgd hj hy0 hy1 hy2 hsb Tb Bb A2 A' hlt hix
      go_wp2
      clear hrun
      go_loopg [12] (qs.length + zs.length) (fun kx s12 wr => ∃ (i : Nat) (d : List Bool) (va : Value) (ks : List Nat), s12 = .int .i64 (i : Int) ∧ i ≤ qs.length + zs.length ∧ qs.length + zs.length - i ≤ kx ∧ Aside (LT w O pa (pa + 1) (pa + 2) (pa + 3) (ofAll zs) d va ks wr ∧ ∀ j, qs.length + j < i → d[j]? = some true))
      case atStart => exact ⟨0, _, _, _, rfl, Nat.zero_le _, Nat.le_refl _, ⟨S0.out, fun j hj => by omega⟩⟩
      case round =>
        obtain ⟨i2, d, va, ks, rfl, hix, hkx, A⟩ := hrel
        clear S0
        obtain ⟨u, hu⟩ : ∃ u, u = wr := ⟨_, rfl⟩
        subst hu
        by_cases hlt : i2 < qs.length + zs.length
        · have hltz : decide ((i2 : Int) < (qs.length : Int) + (zs.length : Int)) = true := by simp; omega
          have ex : ((i2 : Int)).toNat = i2 := by omega
          have px : (0 : Int) ≤ (i2 : Int) := by omega
          go_upto_if 86 with fail
          go_cut [13] (fun s13 wx => ∃ kz : Int, s13 = .int .i64 kz ∧ (qs.length ≤ i2 → kz = (i2 : Int) - (qs.length : Int)) ∧ wx = u)
          case first =>
            by_cases hq : i2 < qs.length
            · have hqz : decide ((i2 : Int) < (qs.length : Int)) = true := by simp; omega
              have bx : (i2 : Int) < (qs.length : Int) := by omega
              obtain ⟨qb, qo, rfl, hcq⟩ := (HQ.out.later A.out.1.below).at (getAt hq)
              go_wp2
              go_meet
              exact ⟨_, rfl, fun h => by omega, rfl⟩
            · have hqz : decide ((i2 : Int) < (qs.length : Int)) = false := by simp; omega
              go_wp2
              go_meet
              exact ⟨_, rfl, fun _ => rfl, rfl⟩
          case rest =>
            obtain ⟨kz, rfl, hkn, rfl⟩ := hcut
            have HKN := Lib.hid hkn
            clear hkn
            by_cases hk0 : kz < 0
            · have dk0 : decide (kz < 0) = true := decide_eq_true hk0
              go_wp2
              go_roundg (qs.length + zs.length - (i2 + 1))
              case measure => omega
              case rel => exact ⟨i2 + 1, d, va, ks, by go_num, by omega, Nat.le_refl _, ⟨A.out.1, fun j hj => by have := HKN.out (by omega); omega⟩⟩
            have dk0 : decide (kz < 0) = false := decide_eq_false hk0
            by_cases hk1 : (zs.length : Int) ≤ kz
            · have dk1 : decide ((zs.length : Int) ≤ kz) = true := decide_eq_true hk1
              go_wp2
              go_roundg (qs.length + zs.length - (i2 + 1))
              case measure => omega
              case rel => exact ⟨i2 + 1, d, va, ks, by go_num, by omega, Nat.le_refl _, ⟨A.out.1, fun j hj => by
                rcases Nat.lt_or_ge (qs.length + j) i2 with h | h
                · exact A.out.2 j h
                · have := HKN.out (by omega); omega⟩⟩
            have dk1 : decide ((zs.length : Int) ≤ kz) = false := decide_eq_false hk1
            obtain ⟨k, rfl⟩ : ∃ k : Nat, kz = (k : Int) := ⟨kz.toNat, by omega⟩
            have hky : k < zs.length := by omega
            have ek : ((k : Int)).toNat = k := by omega
            have pk : (0 : Int) ≤ (k : Int) := by omega
            have bk : (k : Int) < (zs.length : Int) := by omega
            have hdl : d.length = zs.length := by rw [A.out.1.taken.dlen, el.out]
            obtain ⟨dk, hdk⟩ : ∃ dk, Aside (d[k]? = some dk) := ⟨d[k]'(by omega), List.getElem?_eq_getElem _⟩
            have cdk : wc.cell? ⟨pa + 2, k, none⟩ = some (.bool dk) := by
              rw [A.out.1.done.cellAt k (by rw [el.out]; omega), List.getElem?_map, hdk.out]; rfl
            have HDL := Lib.hid hdl
            clear hdl
            cases dk with
            | true =>
              go_wp2
              go_roundg (qs.length + zs.length - (i2 + 1))
              case measure => omega
              case rel => exact ⟨i2 + 1, d, va, ks, by go_num, by omega, Nat.le_refl _, ⟨A.out.1, fun j hj => by
                rcases Nat.lt_or_ge (qs.length + j) i2 with h | h
                · exact A.out.2 j h
                · have := HKN.out (by omega)
                  obtain rfl : j = k := by omega
                  exact hdk.out⟩⟩
            | false =>
              obtain ⟨ov, hov⟩ : ∃ ov, Aside ((ofAll zs)[k]! = ov) := ⟨_, rfl⟩
              have cof : wc.cell? ⟨O, k, none⟩ = some (.int .i64 ov) := by
                rw [A.out.1.own.cellAt k (by rw [el.out]; omega), intsV_at (by rw [el.out]; exact hky), hov.out]
              have hcase := ofAll_get zs hky
              rw [hov.out] at hcase
              have HC := Lib.hid hcase
              clear hcase
              by_cases hw : ∃ j : Nat, ov = (4 : Int) + (j : Int) ∧ j < k ∧ d[j]? = some false
              · obtain ⟨j, rfl, hjk, hdj⟩ := hw
                have cdj : wc.cell? ⟨pa + 2, j, none⟩ = some (.bool false) := by
                  rw [A.out.1.done.cellAt j (by rw [el.out]; omega), List.getElem?_map, hdj]; rfl
                have HDJ := Lib.hid hdj
                clear hdj
                have dj : decide ((0 : Int) < 4 + (j : Int)) = true := decide_eq_true (by omega)
                have ej : IntKind.i64.wrap ((4 : Int) + (j : Int) - 4) = (j : Int) := by rw [IntKind.wrap_i64]; omega
                have pj : (0 : Int) ≤ (j : Int) := by omega
                have bj : (j : Int) < (zs.length : Int) := by omega
                have tj : ((j : Int)).toNat = j := by omega
                go_wp2
                go_roundg (qs.length + zs.length - (i2 + 1))
                case measure => omega
                case rel => exact ⟨i2 + 1, d, va, ks, by go_num, by omega, Nat.le_refl _, ⟨A.out.1, fun j' hj' => by
                  rcases Nat.lt_or_ge (qs.length + j') i2 with h | h
                  · exact A.out.2 j' h
                  · have h1 := HKN.out (by omega)
                    have h2 := A.out.2 j (by omega)
                    rw [HDJ.out] at h2
                    cases h2⟩⟩
              have HB : Aside ((ofAll zs)[k]! = 0 ∨ ∃ j : Nat, (ofAll zs)[k]! = (4 : Int) + (j : Int) ∧ d[j]? = some true) := by
                show _ ∨ _
                rw [hov.out]
                rcases HC.out with h0 | ⟨j, hj, e⟩
                · exact .inl h0
                · refine .inr ⟨j, e, ?_⟩
                  have hjl : j < d.length := by rw [HDL.out]; omega
                  cases hq : d[j] with
                  | true => rw [List.getElem?_eq_getElem hjl, hq]
                  | false => exact absurd ⟨j, e, hj, by rw [List.getElem?_eq_getElem hjl, hq]⟩ hw
              clear hw
              go_upto_region 23 with fail
              go_cut [119] (fun s119 wx => s119 = .bool false ∧ wx = wc)
              case first =>
                have hb := HB.out
                rw [hov.out] at hb
                rcases hb with h0 | ⟨j, e, hj⟩
                · have d0 : decide ((0 : Int) < ov) = false := decide_eq_false (by omega)
                  clear h0
                  go_wp2
                  go_meet
                  exact ⟨rfl, rfl⟩
                · have hjl : j < d.length := (List.getElem?_eq_some_iff.1 hj).1
                  rw [HDL.out] at hjl
                  have cdj : wc.cell? ⟨pa + 2, j, none⟩ = some (.bool true) := by
                    rw [A.out.1.done.cellAt j (by rw [el.out]; omega), List.getElem?_map, hj]; rfl
                  have d0 : decide ((0 : Int) < ov) = true := decide_eq_true (by omega)
                  have ej : IntKind.i64.wrap (ov - 4) = (j : Int) := by rw [IntKind.wrap_i64]; omega
                  have pj : (0 : Int) ≤ (j : Int) := by omega
                  have bj : (j : Int) < (zs.length : Int) := by omega
                  have tj : ((j : Int)).toNat = j := by omega
                  clear hj e
                  go_wp2
                  go_meet
                  exact ⟨rfl, rfl⟩
              case rest =>
                obtain ⟨rfl, hwx⟩ := hcut
                subst hwx
                have fz : wc.frozen? ⟨pa + 2, k, none⟩ = false := A.out.1.done.frozenAt k
                have MK := A.out.1.mark k
                go_upto_region 25 with fail
                generalize wc.setCell ⟨pa + 2, k, none⟩ (.bool true) = we at MK ⊢
                have HM := Lib.hid MK
                have cof' : we.cell? ⟨O, k, none⟩ = some (.int .i64 ov) := by
                  rw [World.cell?_of_block (a := ⟨O, k, none⟩) (MK.2.block O (by have := A.out.1.size; have := A.out.1.ord; omega) (by have := A.out.1.ord; omega))]
                  exact cof
                clear MK cof cdk fz
                have e4 : IntKind.i64.wrap ((4 : Int) + (k : Int)) = 4 + (k : Int) := by rw [IntKind.wrap_i64]; omega
                have hst := A.out.1
                have hTe : LineAt (pa + 3) we pa va (lineOf (ofAll zs) ks) := hst.la.same (HM.out.2.block _ (by have := hst.size; have := hst.ord; omega) (by have := hst.ord; omega)) (fun g hg => HM.out.2.block g (hst.la.ne g hg).2.1 (by have := (hst.la.ne g hg).2.2; have := hst.ord; omega))
                have hsh : ShapeOk ((4 : Int) + (k : Int)) ov := by
                  rcases HC.out with h0 | ⟨j, hj, e⟩
                  · exact ⟨by omega, by omega, by omega, by omega⟩
                  · exact ⟨by omega, by omega, by omega, by omega⟩
                have hins := insert_ok we (pa + 3) pa va (lineOf (ofAll zs) ks) ((4 : Int) + (k : Int)) ov (chr k) hTe (by have := hst.size; have := HM.out.2.size; omega) (by rw [lineOf_len hst.taken]; have := hst.taken.len; rw [el.out] at this; omega) hsh (by unfold chr; omega) (hst.taken.new hdk.out) (by have := hst.taken.behind HB.out; rwa [hov.out] at this)
                rw [show ((chr k : Nat) : Int) = 97 + (k : Int) % 26 by unfold chr; omega] at hins
                clear hTe hsh hst
                go_wp2_with fail
                refine hins.mono ?_
                clear hins
                rintro e wf ⟨rfl, hP⟩
                rw [← hov.out] at hP
                obtain ⟨va', S2⟩ := A.out.1.put HM.out hP hdk.out HB.out
                have R2 : Aside (LT w O pa (pa + 1) (pa + 2) (pa + 3) (ofAll zs) (d.set k true) va' (ks ++ [k]) wf ∧ ∀ j, qs.length + j < i2 + 1 → (d.set k true)[j]? = some true) := by
                  refine ⟨S2, fun j hj => ?_⟩
                  rw [List.getElem?_set]
                  split
                  · rw [if_pos (by rw [HDL.out]; exact hky)]
                  · rename_i hne
                    rcases Nat.lt_or_ge (qs.length + j) i2 with h | h
                    · exact A.out.2 j h
                    · have := HKN.out (by omega)
                      omega
                clear S2 hP cof'
                go_wp2
                go_roundg (qs.length + zs.length - (i2 + 1))
                case measure => omega
                case rel => exact ⟨i2 + 1, _, va', _, by go_num, by omega, Nat.le_refl _, R2⟩
        · have hltz : decide ((i2 : Int) < (qs.length : Int) + (zs.length : Int)) = false := by simp; omega
          obtain ⟨Bt, hBt⟩ : ∃ Bt, Aside (u.heap.size = Bt) := ⟨_, rfl⟩
          have S3 : Aside (LU w O pa (pa + 1) (pa + 3) Bt (ofAll zs) va (.slice none 0 0) ks [] u ∧ Taken (ofAll zs) d ks ∧ ∀ j, j < (ofAll zs).length → d[j]? = some true) := by
            refine ⟨by rw [← hBt.out]; exact A.out.1.next, A.out.1.taken, fun j hj => A.out.2 j (by rw [el.out] at hj; omega)⟩
          clear A hkx hix
          go_wp2
          clear hltz hlt
          go_loopg [14] zs.length (fun kx s14 wr => ∃ (i : Nat) (vb : Value) (d2 : List Bool), s14 = .int .i64 (i : Int) ∧ i ≤ zs.length ∧ zs.length - i ≤ kx ∧ Aside (LU w O pa (pa + 1) (pa + 3) Bt (ofAll zs) va vb ks (List.range i) wr ∧ Taken (ofAll zs) d2 (List.range i)))
          case atStart => exact ⟨0, _, _, rfl, Nat.zero_le _, Nat.le_refl _, ⟨S3.out.1, taken_none _⟩⟩
          case round =>
            obtain ⟨i3, vb, d2, rfl, hix, hkx, A⟩ := hrel
            obtain ⟨u3, hu3⟩ : ∃ u3, u3 = wr := ⟨_, rfl⟩
            subst hu3
            have HP : Aside (Taken (ofAll zs) d ks ∧ ∀ j, j < (ofAll zs).length → d[j]? = some true) := S3.out.2
            clear S3
            by_cases hlt : i3 < zs.length
            · have hltz : decide ((i3 : Int) < (zs.length : Int)) = true := by simp; omega
              have ex : ((i3 : Int)).toNat = i3 := by omega
              have px : (0 : Int) ≤ (i3 : Int) := by omega
              have bx : (i3 : Int) < (zs.length : Int) := by omega
              obtain ⟨ov, hov⟩ : ∃ ov, Aside ((ofAll zs)[i3]! = ov) := ⟨_, rfl⟩
              have cof : u3.cell? ⟨O, i3, none⟩ = some (.int .i64 ov) := by
                rw [A.out.1.own.cellAt i3 (by rw [el.out]; omega), intsV_at (by rw [el.out]; exact hlt), hov.out]
              have hcase := ofAll_get zs hlt
              rw [hov.out] at hcase
              have hdf : Aside (d2[i3]? = some false) := by
                have hl : i3 < d2.length := by rw [A.out.2.dlen, el.out]; exact hlt
                cases hq : d2[i3] with
                | true =>
                  have h1 := (A.out.2.mem i3).2 (by rw [List.getElem?_eq_getElem hl, hq])
                  rw [List.mem_range] at h1
                  omega
                | false => exact (List.getElem?_eq_getElem hl).trans (by rw [hq])
              have HB : Aside ((ofAll zs)[i3]! = 0 ∨ ∃ j : Nat, (ofAll zs)[i3]! = (4 : Int) + (j : Int) ∧ d2[j]? = some true) := by
                show _ ∨ _
                rw [hov.out]
                rcases hcase with h0 | ⟨j, hj, e⟩
                · exact .inl h0
                · exact .inr ⟨j, e, (A.out.2.mem j).1 (List.mem_range.2 hj)⟩
              have hsh : ShapeOk ((4 : Int) + (i3 : Int)) ov := by
                rcases hcase with h0 | ⟨j, hj, e⟩
                · exact ⟨by omega, by omega, by omega, by omega⟩
                · exact ⟨by omega, by omega, by omega, by omega⟩
              have e4 : IntKind.i64.wrap ((4 : Int) + (i3 : Int)) = 4 + (i3 : Int) := by rw [IntKind.wrap_i64]; omega
              have hins := insert_ok u3 Bt (pa + 1) vb (lineOf (ofAll zs) (List.range i3)) ((4 : Int) + (i3 : Int)) ov (chr i3) A.out.1.lb A.out.1.size (by rw [lineOf_len A.out.2]; simp; omega) hsh (by unfold chr; omega) (A.out.2.new hdf.out) (by have := A.out.2.behind HB.out; rwa [hov.out] at this)
              rw [show ((chr i3 : Nat) : Int) = 97 + (i3 : Int) % 26 by unfold chr; omega] at hins
              clear hsh hcase
              go_wp2_with fail
              refine hins.mono ?_
              clear hins
              rintro e wf ⟨rfl, hP⟩
              rw [← hov.out] at hP
              obtain ⟨vb', S2⟩ := A.out.1.put hP
              have R2 : Aside (LU w O pa (pa + 1) (pa + 3) Bt (ofAll zs) va vb' ks (List.range (i3 + 1)) wf ∧ Taken (ofAll zs) (d2.set i3 true) (List.range (i3 + 1))) := by
                rw [List.range_succ]
                exact ⟨S2, A.out.2.next hdf.out HB.out⟩
              clear S2 hP cof
              go_wp2
              go_roundg (zs.length - (i3 + 1))
              case measure => omega
              case rel => exact ⟨i3 + 1, vb', _, by go_num, by omega, Nat.le_refl _, R2⟩
            · have hltz : decide ((i3 : Int) < (zs.length : Int)) = false := by simp; omega
              obtain rfl : i3 = zs.length := by omega
              have hsame : lineOf (ofAll zs) ks = lineOf (ofAll zs) (List.range zs.length) := by
                refine taken_same HP.out.1 A.out.2 HP.out.2 (fun j hj => ?_)
                rw [el.out] at hj
                exact (A.out.2.mem j).1 (List.mem_range.2 hj)
              have hlen : (lineOf (ofAll zs) ks).length = zs.length := by rw [lineOf_len HP.out.1, HP.out.1.all HP.out.2, el.out]
              have hseen := lineOf_seen (ofAll zs) ks
              obtain ⟨M, hM⟩ : ∃ M, lineOf (ofAll zs) ks = M := ⟨_, rfl⟩
              rw [hM] at hsame hlen hseen
              have A2 : Aside (LineAt (pa + 3) u3 pa va M ∧ LineAt Bt u3 (pa + 1) vb M ∧ Below w.heap.size w u3 ∧ M.length = zs.length ∧ (textL M).length = zs.length) := by
                refine ⟨by have := A.out.1.la; rwa [hM] at this, by have := A.out.1.lb; rwa [← hsame] at this, A.out.1.below, hlen, ?_⟩
                unfold textL
                rw [hseen, List.length_map, hlen]
              clear A HP hsame hlen hseen hkx hix hM
              obtain ⟨X, hX⟩ : ∃ X : ByteArray, Aside ((⟨(textL M).toArray⟩ : ByteArray) = X ∧ X.size = zs.length) := ⟨_, rfl, by simpa [ByteArray.size] using A2.out.2.2.2.2⟩
              have hM40 : M.length ≤ 1000 := by have := A2.out.2.2.2.1; omega
              go_wp2_with fail
              refine (text_any u3 (pa + 3) pa va M A2.out.1 hM40).mono ?_
              rintro e u4 ⟨rfl, hb4⟩
              rw [hX.out.1]
              have A4 : Aside (LineAt (pa + 3) u4 pa va M ∧ LineAt Bt u4 (pa + 1) vb M ∧ Below w.heap.size w u4 ∧ M.length = zs.length) := ⟨A2.out.1.later hb4, A2.out.2.1.later hb4, A2.out.2.2.1.trans (hb4.mono A2.out.2.2.1.size), A2.out.2.2.2.1⟩
              clear hb4 A2
              go_wp2_with fail
              refine (text_any u4 Bt (pa + 1) vb M A4.out.2.1 hM40).mono ?_
              rintro e u5 ⟨rfl, hb5⟩
              rw [hX.out.1]
              have A5 : Aside (LineAt (pa + 3) u5 pa va M ∧ LineAt Bt u5 (pa + 1) vb M ∧ Below w.heap.size w u5 ∧ M.length = zs.length) := ⟨A4.out.1.later hb5, A4.out.2.1.later hb5, A4.out.2.2.1.trans (hb5.mono A4.out.2.2.1.size), A4.out.2.2.2⟩
              clear hb5 A4
              have hXX : (X != X) = false := bneBytes X
              go_wp2_with fail
              refine (text_any u5 (pa + 3) pa va M A5.out.1 hM40).mono ?_
              rintro e u6 ⟨rfl, hb6⟩
              rw [hX.out.1]
              have A6 : Aside (LineAt (pa + 3) u6 pa va M ∧ LineAt Bt u6 (pa + 1) vb M ∧ Below w.heap.size w u6 ∧ M.length = zs.length) := ⟨A5.out.1.later hb6, A5.out.2.1.later hb6, A5.out.2.2.1.trans (hb6.mono A5.out.2.2.1.size), A5.out.2.2.2⟩
              clear hb6 A5
              have hXn : ((X.size : Int) != (zs.length : Int)) = false := by simp [hX.out.2]
              go_wp2_with fail
              refine (ids_any u6 (pa + 3) pa va M A6.out.1 hM40).mono ?_
              rintro e u7 ⟨g1, rfl, ho1, hb7⟩
              have A7 : Aside (LineAt Bt u7 (pa + 1) vb M ∧ Below w.heap.size w u7 ∧ u7.ownsRow u6.heap.size 3 1 (.slice (some ⟨g1, 0, none⟩) M.length M.length) M.length (idsV M)) := ⟨A6.out.2.1.later hb7, A6.out.2.2.1.trans (hb7.mono A6.out.2.2.1.size), ho1⟩
              clear hb7 ho1 A6
              go_wp2_with fail
              refine (ids_any u7 Bt (pa + 1) vb M A7.out.1 hM40).mono ?_
              rintro e u8 ⟨g2, rfl, ho2, hb8⟩
              have h1 : ∀ i, i < M.length → u8.cell? ⟨g1, 0 + i, none⟩ = some (.int .i64 (M[i]!).1) := fun i hi => by
                have hc : u7.cell? ⟨g1, i, none⟩ = some (.int .i64 (M[i]!).1) := by
                  rw [A7.out.2.2.cellAt i (by omega)]
                  simp [idsV, getElem!_pos M i hi, List.getElem?_eq_getElem hi]
                rw [Nat.zero_add]
                exact cellStays hb8 hc
              have h2 : ∀ i, i < M.length → u8.cell? ⟨g2, 0 + i, none⟩ = some (.int .i64 (M[i]!).1) := fun i hi => by
                rw [Nat.zero_add, ho2.cellAt i (by omega)]
                simp [idsV, getElem!_pos M i hi, List.getElem?_eq_getElem hi]
              have hsi := sameInts_true g1 0 M.length g2 0 M.length M.length (fun i => (M[i]!).1) u8 (by omega) h1 h2
              have A8 : Aside (Below w.heap.size w u8) := A7.out.2.1.trans (hb8.mono A7.out.2.1.size)
              clear h1 h2 ho2 hb8 A7
              go_wp2_with fail
              refine hsi.mono ?_
              rintro e u9 ⟨rfl, hb9⟩
              have A9 : Aside (Below w.heap.size w u9) := A8.out.trans (hb9.mono A8.out.size)
              clear hb9 hsi
              go_wp2
              go_ret
              exact ⟨rfl, A9.out⟩
end Go.Proofs.YtkilnfooelihaaaDoor
