import Derived.Test.YtcggmagdndhkbaaGreatDoorPt32
import Derived.Test.YtcggmagdndhkbaaGreatDoorPt33
import Derived.Lib.SliceRun
import Derived.Laws.Cover3
import Derived.WalkKit
import Derived.WalkSpells
import Derived.Below
import Derived.LaidEql
import Derived.LoopN
import Derived.KernelRfl
import Derived.Deep.RegionHeld3
import Derived.BigQuiet
section
set_option linter.unusedVariables false
set_option linter.unusedSimpArgs false
namespace Go.Proofs.YtcggmagdndhkbaaGreatDoor
open Go.RowKit Go.Lib Go.Sort Go.Maps
open scoped Classical
structure Told (R : Rws) (ys : List OpX) : Prop where
  well : WellK ys
  time : ByTime ys
  once : ys.Nodup
  mem : ∀ x, x ∈ ys ↔ x ∈ allR R
  len : ys.length = (allR R).length
theorem told_of {R : Rws} (hR : RowsK R) {ys : List OpX} (h : StableOf (allR R) ys) : Told R ys := by
  have hp := stable_by h
  exact ⟨hR.well.congr (fun x => hp.1.mem_iff.symm), hp.2, hp.1.nodup_iff.2 hR.num.nodup, fun x => hp.1.mem_iff, hp.1.length_eq⟩
theorem len_same {R : Rws} (hR : RowsK R) {l : List OpX} (hl : l.Nodup) (hm : ∀ x, x ∈ allR R ↔ x ∈ l) : (allR R).length = l.length := by
  have a := len_sub hR.num.nodup (fun x hx => (hm x).1 hx)
  have b := len_sub hl (fun x hx => (hm x).2 hx)
  omega
theorem Told.compat {R R1 : Rws} {ys : List OpX} (h : Told R ys) (hs : ∀ x, x ∈ allR R1 → x ∈ ys) : Compat (allR R1) ys := fun x hx y hy e1 e2 => h.well.one x (hs x hx) y hy e1 e2
theorem allR_eq {R R' : Rws} (h : ∀ j, j < 4 → R j = R' j) : allR R = allR R' := by
  unfold allR
  rw [h 0 (by omega), h 1 (by omega), h 2 (by omega), h 3 (by omega)]
def GapW (ys : List OpX) (c : Nat) : Prop := ∃ x ∈ ys.drop c, ∃ z ∈ ys.take c, byO x = byO z
theorem opsBy {w : World} {p : Nat} {ys : List OpX} (h : ∀ j u, (cellsOf ys)[j]? = some u → w.cell? ⟨p, 0 + j, none⟩ = some u) {i : Nat} {x : OpX} (hx : ys[i]? = some x) : w.cell? ⟨p, 0 + i * 8 + 1, none⟩ = some (.int .i64 (byO x)) := by
  have hi := (List.getElem?_eq_some_iff.1 hx).1
  have := h (i * 8 + 1) (.int .i64 (byO x)) (by
    rw [cellsOf_get ys i 1 hi (by omega), getElem!_pos ys i hi, (List.getElem?_eq_some_iff.1 hx).2]
    rfl)
  rwa [Nat.add_assoc]
set_option maxRecDepth 100000 in
set_option maxHeartbeats 16000000 in
theorem parts_law {B : Nat} {ad : Nat → Addr} (w : World) (la : Option Addr) (lc : Nat) (l : List Trn) (cut : Int) (hE : EnvP B ad w) (hin : InRow encTr w la l) (hl : l.length < 9223372036854775808) (hwf : ∀ t ∈ l, TrnShort t → TrnOk t) :
    Calls Tryz.prog 5 #[.slice la l.length lc, .int .i64 cut] w fun e w' => e = .returned (.bool true) ∧ Below w.heap.size w w' := by
  have hbg := begun_any w hE.t
  have HE : Aside (EnvP B ad w ∧ InRow encTr w la l) := ⟨hE, hin⟩
  clear hE hin
  go_enter Tryz.func5, Tryz.ntmps5
  go_wp2_with fail
  refine hbg.mono ?_
  clear hbg
  rintro e w1 ⟨rfl, hb1⟩
  have hlg := longT_any w1 la lc l (HE.out.2.later hb1) hl
  have HB1 : Aside (Below w.heap.size w w1) := hb1
  clear hb1
  go_wp2_with fail
  refine hlg.mono ?_
  clear hlg
  rintro e w2 ⟨z, rfl, HZ⟩
  obtain rfl : w2 = w1 := HZ.out.2
  cases z with
  | true =>
    go_wp2
    go_ret
    exact ⟨rfl, HB1.out⟩
  | false =>
    obtain ⟨hl60, hsh⟩ := HZ.out.1 rfl
    by_cases hc0 : cut < 0
    · have d0 : decide (cut < 0) = true := by simp; omega
      go_wp2
      go_ret
      exact ⟨rfl, HB1.out⟩
    · have d0 : decide (cut < 0) = false := by simp; omega
      obtain ⟨c, rfl⟩ : ∃ c : Nat, cut = (c : Int) := ⟨cut.toNat, by omega⟩
      have hpl := played_any w2 la lc l (HE.out.1.t.later HB1.out) (HE.out.2.later HB1.out) hl60 (fun t ht => hwf t ht (hsh t ht))
      have HS : Aside (EnvP w2.heap.size ad w2) := (HE.out.1.later HB1.out).up (HE.out.1.later HB1.out).t.env.size (Nat.le_refl _)
      clear hsh HZ hc0
      go_wp2_with fail
      refine hpl.mono ?_
      clear hpl
      rintro e w3 ⟨g, cap, br, K, rfl, HC⟩
      obtain ⟨n, hn⟩ : ∃ n, n = l.length := ⟨_, rfl⟩
      rw [← hn] at HC
      have hn60 : n ≤ 60 := by omega
      clear hn d0
      obtain ⟨S, hS⟩ : ∃ S, Aside (S = w2.heap.size) := ⟨_, rfl⟩
      rw [← hS.out] at HC HS
      have hnil : ∀ w : World, (binOp .eql 44 (.slice (some ⟨g, 0, none⟩) 4 cap) (.slice none 0 0)).run Tryz.prog w = .ok (.bool false) w := fun w => Lib.run_eql_slice_nil w _ _ _ _ _ _ _ Tryz.underlying44
      have h04 : (0 : Nat) < 4 := by omega
      have r0 := HC.out.cell h04
      have hK0 : Aside ((allR (K 0)).length ≤ 60 ∧ RowsK (K 0)) := ⟨by have := HC.out.len h04; omega, HC.out.rows h04⟩
      have hop := band_opsC (HC.out.band.few (show 1 ≤ 4 by omega)) (show 0 < 1 by omega) (by have := hK0.out.1; omega)
      have HG : Aside (w3.cell? ⟨g, 0, none⟩ = some (.pointer (some ⟨br 0, 0, none⟩)) ∧ g < w3.heap.size) := ⟨r0, HC.out.glt⟩
      go_wp2_with fail
      refine hop.mono ?_
      clear hop hnil r0
      rintro e w4 ⟨ao, cp, ys, sf, rfl, H4⟩
      have HT : Aside (Told (K 0) ys) := told_of hK0.out.2 H4.out.2.2.2.2.1
      have HST : Aside (StableOf (allR (K 0)) ys) := H4.out.2.2.2.2.1
      have hys : ys.length ≤ 60 := by rw [HT.out.len]; exact hK0.out.1
      by_cases hcl : c ≤ ys.length
      · have d1 : decide ((ys.length : Int) < (c : Int)) = false := by simp; omega
        have d1n : decide (ys.length < c) = false := by simp; omega
        obtain ⟨V1, V2, s1, s2, hV⟩ := cut_ops H4.out.2.2.2.1 hcl
        have HV : Aside (∀ W, (∀ p, ao = some ⟨p, 0, none⟩ → ∀ j u, (cellsOf ys)[j]? = some u → W.cell? ⟨p, 0 + j, none⟩ = some u) → OpsAt W V1 (ys.take c) ∧ OpsAt W V2 (ys.drop c)) := hV
        clear hV
        have hn1 : Calls Tryz.prog 9 #[.int .i64 1] w4 fun e w' => ∃ b, e = .returned (.tuple #[.pointer (some ⟨b, 0, none⟩), .nilIface]) ∧ Aside (Band S w2 2 (setAt br 1 b) (setAt K 1 (fun _ => [])) sf w' ∧ Below w4.heap.size w4 w') := band_new H4.out.1 (show 1 < 4 by omega)
        go_wp2_with fail
        refine hn1.mono ?_
        clear hn1
        rintro e w5 ⟨b1, rfl, H5⟩
        have hn2 : Calls Tryz.prog 9 #[.int .i64 2] w5 fun e w' => ∃ b, e = .returned (.tuple #[.pointer (some ⟨b, 0, none⟩), .nilIface]) ∧ Aside (Band S w2 3 (setAt (setAt br 1 b1) 2 b) (setAt (setAt K 1 (fun _ => [])) 2 (fun _ => [])) sf w' ∧ Below w5.heap.size w5 w') := band_new H5.out.1 (show 2 < 4 by omega)
        go_wp2_with fail
        refine hn2.mono ?_
        clear hn2
        rintro e w6 ⟨b2, rfl, H6⟩
        have A6 : Aside (Trio S w2 (br 0) b1 b2 (K 0) (fun _ => []) (fun _ => []) g ao ys w6) := by
          have hb4 := H4.out.2.2.2.2.2
          have hb6 : Below w4.heap.size w4 w6 := H5.out.2.trans (H6.out.2.mono H5.out.2.size)
          have hg4 : g < w4.heap.size := Nat.lt_of_lt_of_le HG.out.2 hb4.size
          have hsf : ∀ k ∈ sf, w6.heap[k]? = w4.heap[k]? := fun k hk => hb6.block k (H4.out.1.safe k hk)
          refine trio_of H6.out.1 (H4.out.2.1 g List.mem_cons_self) (H4.out.2.2.1.act hsf) ?_
          rw [World.cell?_of_block (a := ⟨g, 0, none⟩) (hb6.block g hg4), World.cell?_of_block (a := ⟨g, 0, none⟩) (hb4.block g HG.out.2)]
          exact HG.out.1
        have HN : Aside (NewOps w3 w4 ao cp ys) := H4.out.2.2.2.1
        obtain ⟨b0, hb0⟩ : ∃ b0, Aside (b0 = br 0) := ⟨_, rfl⟩
        obtain ⟨R0, hR0⟩ : ∃ R0, Aside (R0 = K 0) := ⟨_, rfl⟩
        rw [← hb0.out, ← hR0.out] at A6
        rw [← hR0.out] at HT HST
        have HR0 : Aside ((allR R0).length ≤ 60 ∧ RowsK R0) := by rw [hR0.out]; exact hK0.out
        clear H4 H5 H6 HC HG hK0 hb0 hR0 d1 d1n
        have ho1 := ownOps_any w6 V1 (ys.take c) (HV.out w6 A6.out.cells).1 (by rw [List.length_take]; omega)
        go_wp2_with fail
        refine ho1.mono ?_
        clear ho1
        rintro e w7 ⟨v7, rfl, h7, hb7⟩
        have hj1 := trio_join1 (A6.out.later hb7) HS.out.t (ys.take c) v7 (ys.take c) h7 (well_take HT.out.well HT.out.time c) (fun x hx => by simp [allR] at hx) (fun x hx => hx) (fun x hx => .inr hx) (by simp [allR]; omega)
        clear h7 hb7
        go_wp2_with fail
        refine hj1.mono ?_
        clear hj1
        rintro e w8 ⟨m1, R1, rfl, H8⟩
        have hR1 : ∀ x, x ∈ allR R1 ↔ x ∈ ys.take c := fun x => by rw [H8.out.2.1 x]; simp [allR]
        obtain rfl : m1 = c := by
          have q1 := len_same H8.out.1.rows1 (HT.out.once.sublist (List.take_sublist c ys)) hR1
          have q2 := H8.out.2.2
          rw [List.length_take] at q1
          simp [allR] at q2 q1
          omega
        have A8 : Aside (Trio S w2 b0 b1 b2 R0 R1 (fun _ => []) g ao ys w8 ∧ (∀ x, x ∈ allR R1 ↔ x ∈ ys.take m1) ∧ (allR R1).length = m1) := ⟨H8.out.1, hR1, by have := H8.out.2.2; simpa [allR] using this⟩
        clear H8 hR1 A6
        have ho2 := ownOps_any w8 (.slice ao ys.length cp) ys (A8.out.1.at HN.out) (by omega)
        go_wp2_with fail
        refine ho2.mono ?_
        clear ho2
        rintro e w9 ⟨v9, rfl, h9, hb9⟩
        have hj2 := trio_join1 (A8.out.1.later hb9) HS.out.t ys v9 ys h9 HT.out.well (HT.out.compat (fun x hx => List.mem_of_mem_take ((A8.out.2.1 x).1 hx))) (fun x hx => hx) (fun x hx => .inr hx) (by rw [A8.out.2.2]; omega)
        clear h9 hb9
        go_wp2_with fail
        refine hj2.mono ?_
        clear hj2
        rintro e w10 ⟨m2, R2, rfl, H10⟩
        have hR2 : ∀ x, x ∈ allR R2 ↔ x ∈ ys := fun x => by
          rw [H10.out.2.1 x]
          exact ⟨fun q => q.elim (fun q => List.mem_of_mem_take ((A8.out.2.1 x).1 q)) id, .inr⟩
        have hl2 := len_same H10.out.1.rows1 HT.out.once hR2
        have wk : IntKind.i64.wrap ((m1 : Int) + (m2 : Int)) = (ys.length : Int) := by
          have q := H10.out.2.2
          rw [A8.out.2.2, hl2] at q
          rw [IntKind.wrap_i64]
          omega
        have A10 : Aside (Trio S w2 b0 b1 b2 R0 R2 (fun _ => []) g ao ys w10 ∧ (∀ x, x ∈ allR R2 ↔ x ∈ ys) ∧ (allR R2).length = ys.length) := ⟨H10.out.1, hR2, hl2⟩
        clear H10 hR2 hl2 A8 s1
        have ho3 := ownOps_any w10 V2 (ys.drop m1) (HV.out w10 A10.out.1.cells).2 (by rw [List.length_drop]; omega)
        go_wp2_with fail
        refine ho3.mono ?_
        clear ho3 wk
        rintro e w11 ⟨v11, rfl, h11, hb11⟩
        have hj3 := trio_join1 (A10.out.1.later hb11) HS.out.t ys v11 (ys.drop m1) h11 HT.out.well (HT.out.compat (fun x hx => (A10.out.2.1 x).1 hx)) (fun x hx => List.mem_of_mem_drop hx) (fun x hx => .inl ((A10.out.2.1 x).2 hx)) (by rw [A10.out.2.2, List.length_drop]; omega)
        clear h11 hb11
        go_wp2_with fail
        refine hj3.mono ?_
        clear hj3
        rintro e w12 ⟨m3, R3, rfl, H12⟩
        have hR3 : ∀ x, x ∈ allR R3 ↔ x ∈ ys := fun x => by
          rw [H12.out.2.1 x, A10.out.2.1 x]
          exact ⟨fun q => q.elim id (fun q => List.mem_of_mem_drop q), .inl⟩
        have hl3 := len_same H12.out.1.rows1 HT.out.once hR3
        obtain rfl : m3 = 0 := by
          have q := H12.out.2.2
          rw [A10.out.2.2, hl3] at q
          omega
        have A12 : Aside (Trio S w2 b0 b1 b2 R0 R3 (fun _ => []) g ao ys w12 ∧ (∀ x, x ∈ allR R3 ↔ x ∈ ys) ∧ (allR R3).length = ys.length) := ⟨H12.out.1, hR3, hl3⟩
        clear H12 hR3 hl3 A10
        obtain ⟨zc, hzc⟩ : ∃ zc : Bool, Aside (zc = true ↔ (m1 < ys.length ∧ 0 < m1)) := ⟨decide (m1 < ys.length ∧ 0 < m1), by show decide _ = true ↔ _; exact decide_eq_true_iff⟩
        obtain ⟨U, hU⟩ : ∃ U, U = w12 := ⟨_, rfl⟩
        subst hU
        go_upto_region 21 with fail
        go_cut [123] (fun s123 wx => s123 = .bool zc ∧ wx = U)
        case first =>
          by_cases q1 : m1 < ys.length
          · have e1 : decide ((m1 : Int) < (ys.length : Int)) = true := by simp; omega
            have e1n : decide (m1 < ys.length) = true := by simp; omega
            have e2 : decide ((0 : Int) < (m1 : Int)) = zc := by
              rw [Bool.eq_iff_iff, decide_eq_true_iff, hzc.out]
              omega
            have e2n : decide (0 < m1) = zc := by
              rw [Bool.eq_iff_iff, decide_eq_true_iff, hzc.out]
              omega
            go_wp2
            go_meet
            exact ⟨rfl, rfl⟩
          · have e1 : decide ((m1 : Int) < (ys.length : Int)) = false := by simp; omega
            have e1n : decide (m1 < ys.length) = false := by simp; omega
            obtain rfl : zc = false := by
              cases zc with
              | false => rfl
              | true => exact absurd (hzc.out.1 rfl).1 q1
            go_wp2
            go_meet
            exact ⟨rfl, rfl⟩
        case rest =>
        obtain ⟨rfl, rfl⟩ := hcut
        obtain ⟨U1, hU1⟩ : ∃ U1, U1 = wc := ⟨_, rfl⟩
        subst hU1
        go_upto_if 123 with fail
        go_cut [15, 16, 17, 18, 19] (fun _ _ _ _ _ wx => ∃ R4 : Rws, Aside (Trio S w2 b0 b1 b2 R0 R3 R4 g ao ys wx ∧ (∀ x, x ∈ allR R4 → x ∈ ys) ∧ (allR R4).length ≤ 60))
        case first =>
          cases zc with
          | false =>
            go_wp2
            go_meet
            exact ⟨fun _ => [], A12.out.1, fun x hx => by simp [allR] at hx, by simp [allR]⟩
          | true =>
            obtain ⟨hq1, hq2⟩ := hzc.out.1 rfl
            have ho4 := ownOps_any U1 V2 (ys.drop m1) (HV.out U1 A12.out.1.cells).2 (by rw [List.length_drop]; omega)
            go_wp2_with fail
            refine ho4.mono ?_
            clear ho4
            rintro e w13 ⟨v13, rfl, h13, hb13⟩
            have hj4 := trio_some2 (A12.out.1.later hb13) HS.out.t ys v13 (ys.drop m1) h13 HT.out.well (fun x hx => List.mem_of_mem_drop hx) (by rw [List.length_drop]; omega)
            clear h13 hb13
            go_wp2_with fail
            refine hj4.mono ?_
            clear hj4
            rintro e w14 ⟨m4, cd, R4, rfl, H14⟩
            obtain ⟨p, hp⟩ : ∃ p, ao = some ⟨p, 0, none⟩ := by
              rcases HN.out with ⟨_, _, q⟩ | ⟨p, q, _⟩
              · rw [q] at hq1; simp at hq1
              · exact ⟨p, q⟩
            subst hp
            obtain ⟨ev, hev⟩ : ∃ ev, Aside (ev = eV ad cd) := ⟨_, rfl⟩
            rw [← hev.out]
            have hM4 : Aside ((∀ x, x ∈ allR R4 → x ∈ ys) ∧ (allR R4).length ≤ 60) := ⟨fun x hx => List.mem_of_mem_drop (H14.out.2.2.2.1 x hx), by have := H14.out.2.2.2.2; rw [List.length_drop] at this; omega⟩
            have HG9 : Aside ((Gap (ys.drop m1) → cd = 9) ∧ (cd ≠ 0 → allR R4 = [])) := ⟨H14.out.2.1, H14.out.2.2.1⟩
            have A14 : Aside (Trio S w2 b0 b1 b2 R0 R3 R4 g (some ⟨p, 0, none⟩) ys w14) := H14.out.1
            clear H14 A12 s2
            go_wp2
            go_loopg [17, 18] ys.length (fun kx s17 s18 wr => ∃ (zg : Bool) (i : Nat), s17 = .bool zg ∧ s18 = .int .i64 (i : Int) ∧ m1 ≤ i ∧ i ≤ ys.length ∧ ys.length - i ≤ kx ∧ Aside (Trio S w2 b0 b1 b2 R0 R3 R4 g (some ⟨p, 0, none⟩) ys wr ∧ (zg = true → GapW ys m1)))
            case atStart => exact ⟨false, m1, rfl, rfl, Nat.le_refl _, hcl, by omega, A14.out, fun h => by cases h⟩
            case round =>
              obtain ⟨zg, i, rfl, rfl, hi1, hi2, hix, A⟩ := hrel
              clear A14
              by_cases hlt : i < ys.length
              · have d2 : decide ((i : Int) < (ys.length : Int)) = true := by simp; omega
                have d2n : decide (i < ys.length) = true := by simp; omega
                obtain ⟨x, hx⟩ : ∃ x, Aside (ys[i]? = some x) := ⟨ys[i], List.getElem?_eq_getElem hlt⟩
                go_wp2
                clear d2 d2n
                go_loopg [17, 19] m1 (fun kx s17 s19 wr => ∃ (zg : Bool) (j : Nat), s17 = .bool zg ∧ s19 = .int .i64 (j : Int) ∧ j ≤ m1 ∧ m1 - j ≤ kx ∧ Aside (Trio S w2 b0 b1 b2 R0 R3 R4 g (some ⟨p, 0, none⟩) ys wr ∧ (zg = true → GapW ys m1)))
                case atStart => exact ⟨zg, 0, rfl, rfl, Nat.zero_le _, by omega, A.out⟩
                case round =>
                  obtain ⟨zg, j, rfl, rfl, hj1, hjx, A⟩ := hrel
                  by_cases hlj : j < m1
                  · have d3 : decide ((j : Int) < (m1 : Int)) = true := by simp; omega
                    have d3n : decide (j < m1) = true := by simp; omega
                    have hjl : j < ys.length := by omega
                    obtain ⟨z, hz⟩ : ∃ z, Aside (ys[j]? = some z) := ⟨ys[j], List.getElem?_eq_getElem hjl⟩
                    obtain ⟨bx, hbx⟩ : ∃ bx, Aside (bx = byO x) := ⟨_, rfl⟩
                    obtain ⟨bz, hbz⟩ : ∃ bz, Aside (bz = byO z) := ⟨_, rfl⟩
                    have wi : ((i : Int)).toNat = i := by omega
                    have pi : (0 : Int) ≤ (i : Int) := by omega
                    have bi : (i : Int) < (ys.length : Int) := by omega
                    have wj : ((j : Int)).toNat = j := by omega
                    have pj : (0 : Int) ≤ (j : Int) := by omega
                    have bj : (j : Int) < (ys.length : Int) := by omega
                    have T3 : Trio S w2 b0 b1 b2 R0 R3 R4 g (some ⟨p, 0, none⟩) ys wr.drew := A.out.1.later (Below.refl _ wr).drew
                    go_wp2_with fail
                    refine wp_region_H (S := (fun w' => Trio S w2 b0 b1 b2 R0 R3 R4 g (some ⟨p, 0, none⟩) ys w')) (by kernel_rfl) T3 (fun hHeld => ?_)
                    refine wpAnyH_take (i := 0) (v := ?vaa0) rfl (by kernel_rfl) (by kernel_rfl) (by kernel_rfl) (fun _ _ _ h => h) (Or.inl ⟨by rfl, ?hya0⟩) hHeld ?resta0
                    case hya0 => (intro w' _; go_simp; try with_reducible rfl)
                    try simp only [List.getElem_toArray, List.getElem_cons_succ, List.getElem_cons_zero, Act.put, List.setIfInBounds_toArray, List.set_cons_zero, List.set_cons_succ]
                    refine wpAnyH_take (i := 1) (v := ?vaa1) rfl (by kernel_rfl) (by kernel_rfl) (by kernel_rfl) (fun _ _ _ h => h) (Or.inl ⟨by rfl, ?hya1⟩) hHeld ?resta1
                    case hya1 => (intro w' _; go_simp; try with_reducible rfl)
                    try simp only [List.getElem_toArray, List.getElem_cons_succ, List.getElem_cons_zero, Act.put, List.setIfInBounds_toArray, List.set_cons_zero, List.set_cons_succ]
                    refine wpAnyH_take (i := 2) (v := ?vaa2) rfl (by kernel_rfl) (by kernel_rfl) (by kernel_rfl) (fun _ _ _ h => h) (Or.inl ⟨by rfl, ?hya2⟩) hHeld ?resta2
                    case hya2 => (intro w' _; go_simp; try with_reducible rfl)
                    try simp only [List.getElem_toArray, List.getElem_cons_succ, List.getElem_cons_zero, Act.put, List.setIfInBounds_toArray, List.set_cons_zero, List.set_cons_succ]
                    refine wpAnyH_take (i := 3) (v := ?vaa3) rfl (by kernel_rfl) (by kernel_rfl) (by kernel_rfl) (fun _ _ _ h => h) (Or.inl ⟨by rfl, ?hya3⟩) hHeld ?resta3
                    case hya3 => (intro w' _; go_simp; try with_reducible rfl)
                    try simp only [List.getElem_toArray, List.getElem_cons_succ, List.getElem_cons_zero, Act.put, List.setIfInBounds_toArray, List.set_cons_zero, List.set_cons_succ]
                    refine wpAnyH_take (i := 4) (v := ?vaa4) rfl (by kernel_rfl) (by kernel_rfl) (by kernel_rfl) (fun _ _ _ h => h) (Or.inl ⟨by rfl, ?hya4⟩) hHeld ?resta4
                    case hya4 => (intro w' _; go_simp; try with_reducible rfl)
                    try simp only [List.getElem_toArray, List.getElem_cons_succ, List.getElem_cons_zero, Act.put, List.setIfInBounds_toArray, List.set_cons_zero, List.set_cons_succ]
                    refine wpAnyH_take (i := 5) (v := ?vaa5) rfl (by kernel_rfl) (by kernel_rfl) (by kernel_rfl) (fun _ _ _ h => h) (Or.inl ⟨by rfl, ?hya5⟩) hHeld ?resta5
                    case hya5 => (intro w' hSw; have q2 := opsBy (Trio.cells hSw p rfl) hx.out; rw [← hbx.out, Nat.zero_add] at q2; clear hSw; go_simp; try with_reducible rfl)
                    try simp only [List.getElem_toArray, List.getElem_cons_succ, List.getElem_cons_zero, Act.put, List.setIfInBounds_toArray, List.set_cons_zero, List.set_cons_succ]
                    refine wpAnyH_take (i := 6) (v := ?vaa6) rfl (by kernel_rfl) (by kernel_rfl) (by kernel_rfl) (fun _ _ _ h => h) (Or.inl ⟨by rfl, ?hya6⟩) hHeld ?resta6
                    case hya6 => (intro w' _; go_simp; try with_reducible rfl)
                    try simp only [List.getElem_toArray, List.getElem_cons_succ, List.getElem_cons_zero, Act.put, List.setIfInBounds_toArray, List.set_cons_zero, List.set_cons_succ]
                    refine wpAnyH_take (i := 7) (v := ?vaa7) rfl (by kernel_rfl) (by kernel_rfl) (by kernel_rfl) (fun _ _ _ h => h) (Or.inl ⟨by rfl, ?hya7⟩) hHeld ?resta7
                    case hya7 => (intro w' _; go_simp; try with_reducible rfl)
                    try simp only [List.getElem_toArray, List.getElem_cons_succ, List.getElem_cons_zero, Act.put, List.setIfInBounds_toArray, List.set_cons_zero, List.set_cons_succ]
                    refine wpAnyH_take (i := 8) (v := ?vaa8) rfl (by kernel_rfl) (by kernel_rfl) (by kernel_rfl) (fun _ _ _ h => h) (Or.inl ⟨by rfl, ?hya8⟩) hHeld ?resta8
                    case hya8 => (intro w' _; go_simp; try with_reducible rfl)
                    try simp only [List.getElem_toArray, List.getElem_cons_succ, List.getElem_cons_zero, Act.put, List.setIfInBounds_toArray, List.set_cons_zero, List.set_cons_succ]
                    refine wpAnyH_take (i := 9) (v := ?vaa9) rfl (by kernel_rfl) (by kernel_rfl) (by kernel_rfl) (fun _ _ _ h => h) (Or.inl ⟨by rfl, ?hya9⟩) hHeld ?resta9
                    case hya9 => (intro w' _; go_simp; try with_reducible rfl)
                    try simp only [List.getElem_toArray, List.getElem_cons_succ, List.getElem_cons_zero, Act.put, List.setIfInBounds_toArray, List.set_cons_zero, List.set_cons_succ]
                    refine wpAnyH_take (i := 10) (v := ?vaa10) rfl (by kernel_rfl) (by kernel_rfl) (by kernel_rfl) (fun _ _ _ h => h) (Or.inl ⟨by rfl, ?hya10⟩) hHeld ?resta10
                    case hya10 => (intro w' _; go_simp; try with_reducible rfl)
                    try simp only [List.getElem_toArray, List.getElem_cons_succ, List.getElem_cons_zero, Act.put, List.setIfInBounds_toArray, List.set_cons_zero, List.set_cons_succ]
                    refine wpAnyH_take (i := 11) (v := ?vaa11) rfl (by kernel_rfl) (by kernel_rfl) (by kernel_rfl) (fun _ _ _ h => h) (Or.inl ⟨by rfl, ?hya11⟩) hHeld ?resta11
                    case hya11 => (intro w' hSw; have q2 := opsBy (Trio.cells hSw p rfl) hz.out; rw [← hbz.out, Nat.zero_add] at q2; clear hSw; go_simp; try with_reducible rfl)
                    try simp only [List.getElem_toArray, List.getElem_cons_succ, List.getElem_cons_zero, Act.put, List.setIfInBounds_toArray, List.set_cons_zero, List.set_cons_succ]
                    refine wpAnyH_take (i := 12) (v := ?vaa12) rfl (by kernel_rfl) (by kernel_rfl) (by kernel_rfl) (fun _ _ _ h => h) (Or.inl ⟨by rfl, ?hya12⟩) hHeld ?resta12
                    case hya12 => (intro w' _; go_simp; try with_reducible rfl)
                    try simp only [List.getElem_toArray, List.getElem_cons_succ, List.getElem_cons_zero, Act.put, List.setIfInBounds_toArray, List.set_cons_zero, List.set_cons_succ]
                    refine wpAnyH_done (by kernel_rfl) ?_ _
                    try simp only [List.getElem_toArray, List.getElem_cons_succ, List.getElem_cons_zero, Act.put, List.setIfInBounds_toArray, List.set_cons_zero, List.set_cons_succ]
                    have A3 : Aside (Trio S w2 b0 b1 b2 R0 R3 R4 g (some ⟨p, 0, none⟩) ys wr.drew ∧ (zg = true → GapW ys m1)) := ⟨T3, A.out.2⟩
                    generalize wr.drew = u1 at A3 ⊢
                    clear A T3 hHeld
                    by_cases hxz : bx = bz
                    · have e3 : (bx == bz) = true := by simpa using hxz
                      have e3d : decide (bx = bz) = true := by simpa using hxz
                      have HN3 : Aside (Trio S w2 b0 b1 b2 R0 R3 R4 g (some ⟨p, 0, none⟩) ys u1 ∧ GapW ys m1) := by
                        refine ⟨A3.out.1, x, ?_, z, ?_, by rw [← hbx.out, ← hbz.out]; exact hxz⟩
                        · have q := hx.out
                          rw [← List.take_append_drop m1 ys, List.getElem?_append_right (by rw [List.length_take]; omega)] at q
                          exact List.mem_of_getElem? q
                        · have q := hz.out
                          rw [← List.take_append_drop m1 ys, List.getElem?_append_left (by rw [List.length_take]; omega)] at q
                          exact List.mem_of_getElem? q
                      clear A3
                      go_wp2
                      go_roundg (m1 - (j + 1))
                      case measure => omega
                      case rel => exact ⟨true, j + 1, rfl, by go_num, by omega, Nat.le_refl _, HN3.out.1, fun _ => HN3.out.2⟩
                    · have e3 : (bx == bz) = false := by simpa using hxz
                      have e3d : decide (bx = bz) = false := by simpa using hxz
                      go_wp2
                      go_roundg (m1 - (j + 1))
                      case measure => omega
                      case rel => exact ⟨zg, j + 1, rfl, by go_num, by omega, Nat.le_refl _, A3.out⟩
                  · have d3 : decide ((j : Int) < (m1 : Int)) = false := by simp; omega
                    have d3n : decide (j < m1) = false := by simp; omega
                    go_wp2
                    go_roundg (ys.length - (i + 1))
                    case measure => omega
                    case rel => exact ⟨zg, i + 1, rfl, by go_num, by omega, by omega, Nat.le_refl _, A.out⟩
              · have d2 : decide ((i : Int) < (ys.length : Int)) = false := by simp; omega
                have d2n : decide (i < ys.length) = false := by simp; omega
                cases zg with
                | true =>
                  have hcd : cd = 9 := by
                    obtain ⟨x, hx, z, hz, e⟩ := A.out.2 rfl
                    exact HG9.out.1 (gap_drop HT.out.well HT.out.time HT.out.once hx hz e)
                  subst hcd
                  have hR4 : Aside (allR R4 = []) := HG9.out.2 (by omega)
                  obtain rfl : ev = .iface 416 (.pointer (some (ad 8))) := hev.out
                  have hco : Calls Tryz.prog 22 #[.iface 416 (.pointer (some (ad 8))), .int .i64 9] wr fun e w' => e = .returned (.bool true) ∧ Below wr.heap.size wr w' := (coded_sent wr (HS.out.e.mono A.out.1.below) 8 (by omega) 9).mono fun e w' q => ⟨by rw [q.1]; rfl, q.2⟩
                  go_wp2_with fail
                  refine hco.mono ?_
                  clear hco
                  rintro e w15 ⟨rfl, hb15⟩
                  have A5 : Aside (Trio S w2 b0 b1 b2 R0 R3 R4 g (some ⟨p, 0, none⟩) ys w15) := A.out.1.later hb15
                  clear A hb15
                  have hst : Calls Tryz.prog 17 #[.pointer (some ⟨b2, 0, none⟩)] w15 fun e w' => e = .returned (.string ⟨#[]⟩) ∧ Aside (Below w15.heap.size w15 w') := by
                    refine (trio_st2 A5.out HS.out.t (by rw [hR4.out]; simp)).mono ?_
                    rintro e w' ⟨X, he, q⟩
                    have hx := q.out.1
                    rw [hR4.out] at hx
                    have hx2 : X.data.toList = (⟨#[]⟩ : ByteArray).data.toList := state_none hx
                    rw [bytes_eq hx2] at he
                    exact ⟨he, q.out.2⟩
                  go_wp2_with fail
                  refine hst.mono ?_
                  clear hst
                  rintro e w16 ⟨rfl, HB16⟩
                  have A6 : Aside (Trio S w2 b0 b1 b2 R0 R3 R4 g (some ⟨p, 0, none⟩) ys w16) := A5.out.later HB16.out
                  have hno := trio_none2 A6.out hR4.out
                  clear A5 HB16
                  go_wp2_with fail
                  refine hno.mono ?_
                  clear hno
                  rintro e w17 ⟨a17, c17, rfl, HB17⟩
                  have A7 : Aside (Trio S w2 b0 b1 b2 R0 R3 R4 g (some ⟨p, 0, none⟩) ys w17) := A6.out.later HB17.out
                  clear A6 HB17
                  go_wp2
                  go_meet
                  exact ⟨R4, A7.out, hM4.out⟩
                | false =>
                  by_cases hcd : cd = 0
                  · subst hcd
                    obtain rfl : ev = .nilIface := hev.out
                    go_wp2
                    go_meet
                    exact ⟨R4, A.out.1, hM4.out⟩
                  · have hR4 : Aside (allR R4 = []) := HG9.out.2 hcd
                    obtain rfl : ev = .iface 416 (.pointer (some (ad (cd - 1)))) := by rw [hev.out]; unfold eV; rw [if_neg hcd]
                    have A5 : Aside (Trio S w2 b0 b1 b2 R0 R3 R4 g (some ⟨p, 0, none⟩) ys wr) := A.out.1
                    clear A hcd
                    have hst : Calls Tryz.prog 17 #[.pointer (some ⟨b2, 0, none⟩)] wr fun e w' => e = .returned (.string ⟨#[]⟩) ∧ Aside (Below wr.heap.size wr w') := by
                      refine (trio_st2 A5.out HS.out.t (by rw [hR4.out]; simp)).mono ?_
                      rintro e w' ⟨X, he, q⟩
                      have hx := q.out.1
                      rw [hR4.out] at hx
                      have hx2 : X.data.toList = (⟨#[]⟩ : ByteArray).data.toList := state_none hx
                      rw [bytes_eq hx2] at he
                      exact ⟨he, q.out.2⟩
                    go_wp2_with fail
                    refine hst.mono ?_
                    clear hst
                    rintro e w16 ⟨rfl, HB16⟩
                    have A6 : Aside (Trio S w2 b0 b1 b2 R0 R3 R4 g (some ⟨p, 0, none⟩) ys w16) := A5.out.later HB16.out
                    have hno := trio_none2 A6.out hR4.out
                    clear A5 HB16
                    go_wp2_with fail
                    refine hno.mono ?_
                    clear hno
                    rintro e w17 ⟨a17, c17, rfl, HB17⟩
                    have A7 : Aside (Trio S w2 b0 b1 b2 R0 R3 R4 g (some ⟨p, 0, none⟩) ys w17) := A6.out.later HB17.out
                    clear A6 HB17
                    go_wp2
                    go_meet
                    exact ⟨R4, A7.out, hM4.out⟩
        case rest =>
        obtain ⟨R4, H15⟩ := hcut
        obtain ⟨U2, hU2⟩ : ∃ U2, U2 = wc := ⟨_, rfl⟩
        subst hU2
        have hM3 : Aside ((∀ x, x ∈ allR R3 ↔ x ∈ ys) ∧ (allR R3).length = ys.length) := A12.out.2
        clear A12 s2
        have ho5 := ownOps_any U2 (.slice ao ys.length cp) ys (H15.out.1.at HN.out) (by omega)
        go_wp2_with fail
        refine ho5.mono ?_
        clear ho5
        rintro e w16 ⟨v16, rfl, h16, hb16⟩
        have hj5 := trio_join2 (H15.out.1.later hb16) HS.out.t ys v16 ys h16 HT.out.well (HT.out.compat (fun x hx => H15.out.2.1 x hx)) (fun x hx => hx) (fun x hx => .inr hx) (by have := H15.out.2.2; omega)
        clear h16 hb16
        go_wp2_with fail
        refine hj5.mono ?_
        clear hj5
        rintro e w17 ⟨m5, R5, rfl, H17⟩
        have hM5 : Aside (∀ x, x ∈ allR R5 ↔ x ∈ ys) := fun x => by
          rw [H17.out.2.1 x]
          exact ⟨fun q => q.elim (H15.out.2.1 x) id, .inr⟩
        have T0 : Trio S w2 b0 b1 b2 R0 R3 R5 g ao ys w17.drew := H17.out.1.later (Below.refl _ w17).drew
        clear H15 H17
        have hl3 : (allR R3).length ≤ 300 := by rw [hM3.out.2]; omega
        have hl5 : (allR R5).length ≤ 300 := by rw [len_same T0.rows2 HT.out.once hM5.out]; omega
        have hl0 : (allR R0).length ≤ 300 := by have := HR0.out.1; omega
        have p3 : Aside ((allR R3).Perm (allR R0) ∧ (allR R3).Perm (allR R5) ∧ WellK (allR R3)) := by
          have e1 : allR R3 = allR R0 := allR_eq (fun j hj => rows_same T0.rows1.num HR0.out.2.num (fun x => (hM3.out.1 x).trans (HT.out.mem x)) hj)
          have e2 : allR R3 = allR R5 := allR_eq (fun j hj => rows_same T0.rows1.num T0.rows2.num (fun x => (hM3.out.1 x).trans (hM5.out x).symm) hj)
          exact ⟨by rw [e1], by rw [← e2], T0.rows1.well⟩
        have hs1 := trio_st1 T0 HS.out.t hl3
        go_upto_region 37 with fail
        refine wp_region_H (S := (fun w' => Trio S w2 b0 b1 b2 R0 R3 R5 g ao ys w')) (by kernel_rfl) T0 (fun hHeld => ?_)
        refine wpAnyH_take (i := 0) (v := ?vab0) rfl (by kernel_rfl) (by kernel_rfl) (by kernel_rfl) (fun _ _ _ h => h) (Or.inl ⟨by rfl, ?hyb0⟩) hHeld ?restb0
        case hyb0 => (intro w' _; go_simp; try with_reducible rfl)
        try simp only [List.getElem_toArray, List.getElem_cons_succ, List.getElem_cons_zero, Act.put, List.setIfInBounds_toArray, List.set_cons_zero, List.set_cons_succ]
        refine wpAnyH_take (i := 1) (v := ?vab1) rfl (by kernel_rfl) (by kernel_rfl) (by kernel_rfl) (fun _ _ _ h => h) (Or.inl ⟨by rfl, ?hyb1⟩) hHeld ?restb1
        case hyb1 => (intro w' _; go_simp; try with_reducible rfl)
        try simp only [List.getElem_toArray, List.getElem_cons_succ, List.getElem_cons_zero, Act.put, List.setIfInBounds_toArray, List.set_cons_zero, List.set_cons_succ]
        refine wpAnyH_take (i := 2) (v := ?vab2) rfl (by kernel_rfl) (by kernel_rfl) (by kernel_rfl) (fun _ _ _ h => h) (Or.inl ⟨by rfl, ?hyb2⟩) hHeld ?restb2
        case hyb2 => (intro w' _; go_simp; try with_reducible rfl)
        try simp only [List.getElem_toArray, List.getElem_cons_succ, List.getElem_cons_zero, Act.put, List.setIfInBounds_toArray, List.set_cons_zero, List.set_cons_succ]
        refine wpAnyH_take (i := 3) (v := ?vab3) rfl (by kernel_rfl) (by kernel_rfl) (by kernel_rfl) (fun _ _ _ h => h) (Or.inl ⟨by rfl, ?hyb3⟩) hHeld ?restb3
        case hyb3 => (intro w' _; go_simp; try with_reducible rfl)
        try simp only [List.getElem_toArray, List.getElem_cons_succ, List.getElem_cons_zero, Act.put, List.setIfInBounds_toArray, List.set_cons_zero, List.set_cons_succ]
        refine wpAnyH_take (i := 5) (v := ?vab5) rfl (by kernel_rfl) (by kernel_rfl) (by kernel_rfl) (fun _ _ _ h => h) (Or.inl ⟨by rfl, ?hyb5⟩) hHeld ?restb5
        case hyb5 => (intro w' _; go_simp; try with_reducible rfl)
        try simp only [List.getElem_toArray, List.getElem_cons_succ, List.getElem_cons_zero, Act.put, List.setIfInBounds_toArray, List.set_cons_zero, List.set_cons_succ]
        refine wpAnyH_one (i := 4) (by kernel_rfl) rfl (fun K hK => ?_)
        go_simp
        refine hs1.mono ?_
        clear hs1
        rintro e w18 ⟨X, rfl, HX⟩
        have T1 := T0.later HX.out.2
        have hs2 : Calls Tryz.prog 17 #[.pointer (some ⟨b2, 0, none⟩)] w18 fun e w' => e = .returned (.string X) ∧ Aside (Below w18.heap.size w18 w') := (trio_st2 T1 HS.out.t hl5).mono fun e w' q => by
          obtain ⟨Y, he, q⟩ := q
          rw [← HX.out.1.same p3.out.2.2 p3.out.2.1 q.out.1] at he
          exact ⟨he, q.out.2⟩
        refine hK _ _ T1 ?_
        clear hK K
        try simp only [List.getElem_toArray, List.getElem_cons_succ, List.getElem_cons_zero, Act.put, List.setIfInBounds_toArray, List.set_cons_zero, List.set_cons_succ]
        refine wpAnyH_one (i := 6) (by kernel_rfl) rfl (fun K hK => ?_)
        go_simp
        refine hs2.mono ?_
        clear hs2
        rintro e w19 ⟨rfl, HB19⟩
        have T2 := T1.later HB19.out
        have hs3 : Calls Tryz.prog 17 #[.pointer (some ⟨b1, 0, none⟩)] w19 fun e w' => e = .returned (.string X) ∧ Aside (Below w19.heap.size w19 w') := (trio_st1 T2 HS.out.t hl3).mono fun e w' q => by
          obtain ⟨Y, he, q⟩ := q
          rw [← HX.out.1.same p3.out.2.2 (List.Perm.refl _) q.out.1] at he
          exact ⟨he, q.out.2⟩
        refine hK _ _ T2 ?_
        clear hK K T0 T1
        have hXX : (X == X) = true := beqBytes X
        try simp only [List.getElem_toArray, List.getElem_cons_succ, List.getElem_cons_zero, Act.put, List.setIfInBounds_toArray, List.set_cons_zero, List.set_cons_succ]
        refine wpAnyH_take (i := 7) (v := ?vac7) rfl (by kernel_rfl) (by kernel_rfl) (by kernel_rfl) (fun _ _ _ h => h) (Or.inl ⟨by rfl, ?hyc7⟩) T2 ?restc7
        case hyc7 => (intro w' _; go_simp; try with_reducible rfl)
        try simp only [List.getElem_toArray, List.getElem_cons_succ, List.getElem_cons_zero, Act.put, List.setIfInBounds_toArray, List.set_cons_zero, List.set_cons_succ]
        refine wpAnyH_take (i := 8) (v := ?vac8) rfl (by kernel_rfl) (by kernel_rfl) (by kernel_rfl) (fun _ _ _ h => h) (Or.inl ⟨by rfl, ?hyc8⟩) T2 ?restc8
        case hyc8 => (intro w' _; go_simp; try with_reducible rfl)
        try simp only [List.getElem_toArray, List.getElem_cons_succ, List.getElem_cons_zero, Act.put, List.setIfInBounds_toArray, List.set_cons_zero, List.set_cons_succ]
        refine wpAnyH_take (i := 9) (v := ?vac9) rfl (by kernel_rfl) (by kernel_rfl) (by kernel_rfl) (fun _ _ _ h => h) (Or.inl ⟨by rfl, ?hyc9⟩) T2 ?restc9
        case hyc9 => (intro w' _; go_simp; try with_reducible rfl)
        try simp only [List.getElem_toArray, List.getElem_cons_succ, List.getElem_cons_zero, Act.put, List.setIfInBounds_toArray, List.set_cons_zero, List.set_cons_succ]
        refine wpAnyH_take (i := 10) (v := ?vac10) rfl (by kernel_rfl) (by kernel_rfl) (by kernel_rfl) (fun _ _ _ h => h) (Or.inl ⟨by rfl, ?hyc10⟩) T2 ?restc10
        case hyc10 => (intro w' _; go_simp; try with_reducible rfl)
        try simp only [List.getElem_toArray, List.getElem_cons_succ, List.getElem_cons_zero, Act.put, List.setIfInBounds_toArray, List.set_cons_zero, List.set_cons_succ]
        refine wpAnyH_take (i := 12) (v := ?vac12) rfl (by kernel_rfl) (by kernel_rfl) (by kernel_rfl) (fun _ _ _ h => h) (Or.inl ⟨by rfl, ?hyc12⟩) T2 ?restc12
        case hyc12 => (intro w' _; go_simp; try with_reducible rfl)
        try simp only [List.getElem_toArray, List.getElem_cons_succ, List.getElem_cons_zero, Act.put, List.setIfInBounds_toArray, List.set_cons_zero, List.set_cons_succ]
        refine wpAnyH_take (i := 13) (v := ?vac13) rfl (by kernel_rfl) (by kernel_rfl) (by kernel_rfl) (fun _ _ _ h => h) (Or.inl ⟨by rfl, ?hyc13⟩) T2 ?restc13
        case hyc13 => (intro w' _; go_simp; try with_reducible rfl)
        try simp only [List.getElem_toArray, List.getElem_cons_succ, List.getElem_cons_zero, Act.put, List.setIfInBounds_toArray, List.set_cons_zero, List.set_cons_succ]
        refine wpAnyH_take (i := 14) (v := ?vac14) rfl (by kernel_rfl) (by kernel_rfl) (by kernel_rfl) (fun _ _ _ h => h) (Or.inl ⟨by rfl, ?hyc14⟩) T2 ?restc14
        case hyc14 => (intro w' hSw; have q2 := Trio.cell hSw; clear hSw; go_simp; try with_reducible rfl)
        try simp only [List.getElem_toArray, List.getElem_cons_succ, List.getElem_cons_zero, Act.put, List.setIfInBounds_toArray, List.set_cons_zero, List.set_cons_succ]
        refine wpAnyH_one (i := 11) (by kernel_rfl) rfl (fun K hK => ?_)
        go_simp
        refine hs3.mono ?_
        clear hs3
        rintro e w20 ⟨rfl, HB20⟩
        have T3 := T2.later HB20.out
        have hs4 : Calls Tryz.prog 17 #[.pointer (some ⟨b0, 0, none⟩)] w20 fun e w' => e = .returned (.string X) ∧ Aside (Below w20.heap.size w20 w') := (trio_st0 T3 HS.out.t hl0).mono fun e w' q => by
          obtain ⟨Y, he, q⟩ := q
          rw [← HX.out.1.same p3.out.2.2 p3.out.1 q.out.1] at he
          exact ⟨he, q.out.2⟩
        refine hK _ _ T3 ?_
        clear hK K T2
        try simp only [List.getElem_toArray, List.getElem_cons_succ, List.getElem_cons_zero, Act.put, List.setIfInBounds_toArray, List.set_cons_zero, List.set_cons_succ]
        refine wpAnyH_one (i := 15) (by kernel_rfl) rfl (fun K hK => ?_)
        go_simp
        refine hs4.mono ?_
        clear hs4
        rintro e w21 ⟨rfl, HB21⟩
        have T4 := T3.later HB21.out
        have hop := trio_ops1 T4 (by omega)
        refine hK _ _ T4 ?_
        clear hK K T3
        try simp only [List.getElem_toArray, List.getElem_cons_succ, List.getElem_cons_zero, Act.put, List.setIfInBounds_toArray, List.set_cons_zero, List.set_cons_succ]
        refine wpAnyH_take (i := 16) (v := ?vad16) rfl (by kernel_rfl) (by kernel_rfl) (by kernel_rfl) (fun _ _ _ h => h) (Or.inl ⟨by rfl, ?hyd16⟩) T4 ?restd16
        case hyd16 => (intro w' _; go_simp; try with_reducible rfl)
        try simp only [List.getElem_toArray, List.getElem_cons_succ, List.getElem_cons_zero, Act.put, List.setIfInBounds_toArray, List.set_cons_zero, List.set_cons_succ]
        refine wpAnyH_take (i := 17) (v := ?vad17) rfl (by kernel_rfl) (by kernel_rfl) (by kernel_rfl) (fun _ _ _ h => h) (Or.inl ⟨by rfl, ?hyd17⟩) T4 ?restd17
        case hyd17 => (intro w' _; go_simp; try with_reducible rfl)
        try simp only [List.getElem_toArray, List.getElem_cons_succ, List.getElem_cons_zero, Act.put, List.setIfInBounds_toArray, List.set_cons_zero, List.set_cons_succ]
        refine wpAnyH_take (i := 18) (v := ?vad18) rfl (by kernel_rfl) (by kernel_rfl) (by kernel_rfl) (fun _ _ _ h => h) (Or.inl ⟨by rfl, ?hyd18⟩) T4 ?restd18
        case hyd18 => (intro w' _; go_simp; try with_reducible rfl)
        try simp only [List.getElem_toArray, List.getElem_cons_succ, List.getElem_cons_zero, Act.put, List.setIfInBounds_toArray, List.set_cons_zero, List.set_cons_succ]
        refine wpAnyH_take (i := 19) (v := ?vad19) rfl (by kernel_rfl) (by kernel_rfl) (by kernel_rfl) (fun _ _ _ h => h) (Or.inl ⟨by rfl, ?hyd19⟩) T4 ?restd19
        case hyd19 => (intro w' _; go_simp; try with_reducible rfl)
        try simp only [List.getElem_toArray, List.getElem_cons_succ, List.getElem_cons_zero, Act.put, List.setIfInBounds_toArray, List.set_cons_zero, List.set_cons_succ]
        refine wpAnyH_take (i := 21) (v := ?vad21) rfl (by kernel_rfl) (by kernel_rfl) (by kernel_rfl) (fun _ _ _ h => h) (Or.inl ⟨by rfl, ?hyd21⟩) T4 ?restd21
        case hyd21 => (intro w' _; go_simp; try with_reducible rfl)
        try simp only [List.getElem_toArray, List.getElem_cons_succ, List.getElem_cons_zero, Act.put, List.setIfInBounds_toArray, List.set_cons_zero, List.set_cons_succ]
        refine wpAnyH_one (i := 20) (by kernel_rfl) rfl (fun K hK => ?_)
        go_simp
        refine hop.mono ?_
        clear hop
        rintro e w22 ⟨v22, zs, rfl, H22⟩
        have T5 := T4.later H22.out.2.2
        have hsm : Calls Tryz.prog 19 #[v22, .slice ao ys.length cp] w22 fun e w' => e = .returned (.bool true) ∧ Below w22.heap.size w22 w' := by
          have e1 : allR R3 = allR R0 := allR_eq (fun j hj => rows_same T5.rows1.num HR0.out.2.num (fun x => (hM3.out.1 x).trans (HT.out.mem x)) hj)
          have h1 := H22.out.2.1
          rw [e1] at h1
          have e := stable_one h1 HST.out
          have hle : zs.length ≤ 1000 := by rw [e]; omega
          exact same_any w22 v22 _ zs H22.out.1 (by rw [e]; exact T5.at HN.out) hle
        refine hK _ _ T5 ?_
        clear hK K T4
        try simp only [List.getElem_toArray, List.getElem_cons_succ, List.getElem_cons_zero, Act.put, List.setIfInBounds_toArray, List.set_cons_zero, List.set_cons_succ]
        refine wpAnyH_one (i := 22) (by kernel_rfl) rfl (fun K hK => ?_)
        go_simp
        refine hsm.mono ?_
        clear hsm
        rintro e w23 ⟨rfl, hb23⟩
        have T6 := T5.later hb23
        refine hK _ _ T6 ?_
        clear hK K T5
        try simp only [List.getElem_toArray, List.getElem_cons_succ, List.getElem_cons_zero, Act.put, List.setIfInBounds_toArray, List.set_cons_zero, List.set_cons_succ]
        refine wpAnyH_take (i := 23) (v := ?vae23) rfl (by kernel_rfl) (by kernel_rfl) (by kernel_rfl) (fun _ _ _ h => h) (Or.inl ⟨by rfl, ?hye23⟩) T6 ?reste23
        case hye23 => (intro w' _; go_simp; try with_reducible rfl)
        try simp only [List.getElem_toArray, List.getElem_cons_succ, List.getElem_cons_zero, Act.put, List.setIfInBounds_toArray, List.set_cons_zero, List.set_cons_succ]
        refine wpAnyH_take (i := 24) (v := ?vae24) rfl (by kernel_rfl) (by kernel_rfl) (by kernel_rfl) (fun _ _ _ h => h) (Or.inl ⟨by rfl, ?hye24⟩) T6 ?reste24
        case hye24 => (intro w' _; go_simp; try with_reducible rfl)
        try simp only [List.getElem_toArray, List.getElem_cons_succ, List.getElem_cons_zero, Act.put, List.setIfInBounds_toArray, List.set_cons_zero, List.set_cons_succ]
        refine wpAnyH_done (by kernel_rfl) ?_ _
        try simp only [List.getElem_toArray, List.getElem_cons_succ, List.getElem_cons_zero, Act.put, List.setIfInBounds_toArray, List.set_cons_zero, List.set_cons_succ]
        have HF : Aside (Below w.heap.size w w23) := by
          have := T6.below
          rw [hS.out] at this
          exact HB1.out.trans (this.mono HB1.out.size)
        clear T6
        go_wp2
        go_ret
        exact ⟨rfl, HF.out⟩
      · have d1 : decide ((ys.length : Int) < (c : Int)) = true := by simp; omega
        have d1n : decide (ys.length < c) = true := by simp; omega
        have HF : Aside (Below w.heap.size w w4) := by
          have := H4.out.1.below
          rw [hS.out] at this
          exact HB1.out.trans (this.mono HB1.out.size)
        clear H4 HC HG HT HST hK0
        go_wp2
        go_ret
        exact ⟨rfl, HF.out⟩
end Go.Proofs.YtcggmagdndhkbaaGreatDoor
end
