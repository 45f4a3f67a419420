import Derived.Test.YtcggmagdndhkbaaGreatDoorWt05
import Derived.Test.YtcggmagdndhkbaaGreatDoorWt36
import Derived.Lib.SliceRun
import Derived.Laws.Cover3
import Derived.LaidEql
import Derived.Deep.RegionHeld3
import Derived.BigQuiet
import Derived.Deep.Cut
import Derived.Deep.CutRange
import Derived.Deep.DeepCutAuto
section
set_option linter.unusedVariables false
set_option linter.unusedSimpArgs false
namespace Go.Proofs.YtcggmagdndhkbaaGreatDoor
open Go.RowKit Go.Lib Go.Sort Go.Maps
open scoped Classical
def x1 : OpX := (1, 0, 1, 109, 4, 0, ⟨#[102]⟩, ⟨#[]⟩)
theorem err1 : errO x1 = 0 := by decide
theorem next1 : NextOp (fun _ => []) 0 0 x1 := ⟨err1, rfl, rfl, rfl, .inl ⟨rfl, rfl⟩, fun _ => .inl rfl, fun h => by rcases h with ⟨h, _⟩ | h <;> exact absurd h (by decide)⟩
theorem onto1 : Onto [x1] 4 0 [] [] := by
  refine ⟨LineIs.new (fun x hx _ => ?_), fun y hy => ?_, fun y hy => ?_, .inl ⟨rfl, rfl⟩, fun l hl => by simp at hl, ⟨x1, by simp, rfl, rfl, rfl⟩⟩
  · rw [List.mem_singleton.1 hx]; decide
  · rw [List.mem_singleton.1 hy]; exact err1
  · rw [List.mem_singleton.1 hy]; decide
set_option maxRecDepth 100000 in
set_option maxHeartbeats 16000000 in
theorem writes_law {B : Nat} {ad : Nat → Addr} (w : World) (first mine theirs : ByteArray) (cut : Int) (hE : EnvT B ad w) :
    Calls Tryz.prog 3 #[.string first, .string mine, .string theirs, .int .i64 cut] w fun e w' => e = .returned (.bool true) ∧ Below w.heap.size w w' := by
  have hbg := begun_any w hE
  have HE : Aside (EnvT B ad w) := hE
  clear hE
  go_enter Tryz.func3, Tryz.ntmps3
  go_wp2_with fail
  refine hbg.mono ?_
  clear hbg
  rintro e w1 ⟨rfl, hb1⟩
  have HB1 : Aside (Below w.heap.size w w1) := hb1
  clear hb1
  by_cases g1 : first.size ≤ 12
  case neg =>
    have d1 : decide ((12 : Int) < (first.size : Int)) = true := by simp; omega
    have d1n : decide (12 < first.size) = true := by simp; omega
    go_wp2
    go_ret
    exact ⟨rfl, HB1.out⟩
  have d1 : decide ((12 : Int) < (first.size : Int)) = false := by simp; omega
  have d1n : decide (12 < first.size) = false := by simp; omega
  by_cases g2 : mine.size ≤ 8
  case neg =>
    have d2 : decide ((8 : Int) < (mine.size : Int)) = true := by simp; omega
    have d2n : decide (8 < mine.size) = true := by simp; omega
    go_wp2
    go_ret
    exact ⟨rfl, HB1.out⟩
  have d2 : decide ((8 : Int) < (mine.size : Int)) = false := by simp; omega
  have d2n : decide (8 < mine.size) = false := by simp; omega
  by_cases g3 : theirs.size ≤ 8
  case neg =>
    have d3 : decide ((8 : Int) < (theirs.size : Int)) = true := by simp; omega
    have d3n : decide (8 < theirs.size) = true := by simp; omega
    go_wp2
    go_ret
    exact ⟨rfl, HB1.out⟩
  have d3 : decide ((8 : Int) < (theirs.size : Int)) = false := by simp; omega
  have d3n : decide (8 < theirs.size) = false := by simp; omega
  by_cases g4 : 0 ≤ cut
  case neg =>
    have d4 : decide (cut < (0 : Int)) = true := by simp; omega
    go_wp2
    go_ret
    exact ⟨rfl, HB1.out⟩
  obtain ⟨c, rfl⟩ : ∃ c : Nat, cut = (c : Int) := ⟨cut.toNat, by omega⟩
  have d4 : decide ((c : Int) < (0 : Int)) = false := by simp
  clear g4
  by_cases g5 : c ≤ first.size
  case neg =>
    have d5 : decide ((first.size : Int) < (c : Int)) = true := by simp; omega
    have d5n : decide (first.size < c) = true := by simp; omega
    go_wp2
    go_ret
    exact ⟨rfl, HB1.out⟩
  have d5 : decide ((first.size : Int) < (c : Int)) = false := by simp; omega
  have d5n : decide (first.size < c) = false := by simp; omega
  obtain ⟨S, hS⟩ : ∃ S, Aside (S = w1.heap.size) := ⟨_, rfl⟩
  have HS : Aside (EnvT S ad w1) := by rw [hS.out]; exact (HE.out.later HB1.out).up (HE.out.later HB1.out).env.size (Nat.le_refl _)
  have hN0 : Band S w1 0 (two 0 0 0) (two noR noR noR) [] w1 := Band.none (by rw [hS.out]; exact Nat.le_refl _) _ _
  have hn0 : Calls Tryz.prog 9 #[.int .i64 0] w1 fun e w' => ∃ b, e = .returned (.tuple #[.pointer (some ⟨b, 0, none⟩), .nilIface]) ∧ Aside (Band S w1 1 (two 0 b 0) (two noR noR noR) [] w') := (band_new hN0 (show 0 < 4 by omega)).mono (fun e w' q => by
    obtain ⟨b, he, q⟩ := q
    have h1 := q.out.1
    rw [two_set0, two_set0] at h1
    exact ⟨b, he, h1⟩)
  clear hN0
  go_wp2_with fail
  refine hn0.mono ?_
  clear hn0
  rintro e w2 ⟨b0, rfl, H2⟩
  have hn1 : Calls Tryz.prog 9 #[.int .i64 1] w2 fun e w' => ∃ b, e = .returned (.tuple #[.pointer (some ⟨b, 0, none⟩), .nilIface]) ∧ Aside (Duo S w1 b0 b noR noR [] w') := (band_new H2.out (show 1 < 4 by omega)).mono (fun e w' q => by
    obtain ⟨b, he, q⟩ := q
    have h1 := q.out.1
    rw [two_set1, two_set1] at h1
    exact ⟨b, he, h1⟩)
  go_wp2_with fail
  refine hn1.mono ?_
  clear hn1 H2
  rintro e w3 ⟨b1, rfl, H3⟩
  have hmk : Calls Tryz.prog 10 #[.pointer (some ⟨b0, 0, none⟩), .int .i64 0, .string ⟨#[102]⟩] w3 fun e w' => e = .returned (.tuple #[.agg #[.int .i64 1, .int .i64 0, .int .i64 1, .int .u8 109, .int .i64 4, .int .i64 0, .string ⟨#[102]⟩, .string ⟨#[]⟩], .nilIface]) ∧ Aside (Below w3.heap.size w3 w') := by
    obtain ⟨cl, hf, hg⟩ := H3.out.folk
    have hr : RepOwn S w3 (cl 0) b0 ((0 : Nat) : Int) noR := hf.rep 0 (by omega)
    obtain ⟨T, kv, bt, bx, bc, A, hm, hp, ht⟩ := hr.rep.time
    obtain ⟨ao, cap, hM⟩ := hm.norm
    obtain rfl : T = 0 := timeO_unique ht (by unfold allR; exact timeO_nil)
    refine (make_any (i := 0) w3 (cl 0) b0 0 ao cap bt bx bc noR 0 ⟨#[102]⟩ hM.cell hM.rows hr.wellK (HS.out.mono H3.out.below).env (by omega) (by omega) (by omega) (by simp [allR]) (by decide) (by omega) (by omega)).mono (fun e w' q => ?_)
    rcases q with ⟨_, q1, q2⟩ | ⟨q, _⟩
    · have ex : ownX 0 0 ((fun _ => [] : Rws) 0).length 109 0 0 ⟨#[102]⟩ ⟨#[]⟩ = x1 := rfl
      rw [ex, err1, if_pos rfl] at q1
      exact ⟨q1, q2⟩
    · exact absurd (.inl rfl) q
  go_wp2_with fail
  refine hmk.mono ?_
  clear hmk d1 d1n d2 d2n d3 d3n d4 d5 d5n
  rintro e w4 ⟨rfl, HB4⟩
  obtain ⟨V, hV⟩ : ∃ V, Aside (V = w4.alloc (.cells #[.int .i64 1, .int .i64 0, .int .i64 1, .int .u8 109, .int .i64 4, .int .i64 0, .string ⟨#[102]⟩, .string ⟨#[]⟩] 31)) := ⟨_, rfl⟩
  obtain ⟨Z, hZ⟩ : ∃ Z, Aside (Z = w4.heap.size) := ⟨_, rfl⟩
  have hbV : Below w3.heap.size w3 V := by rw [hV.out]; exact HB4.out.alloc HB4.out.size _
  have OV : OpBlk V Z x1 := by rw [hV.out, hZ.out]; exact OpBlk.new w4 x1
  have DV : Duo S w1 b0 b1 noR noR [Z] V := H3.out.guard hbV (by rw [hZ.out]; exact HB4.out.size) OV.lt
  go_upto_region 9 with fail
  rw [← hV.out, ← hZ.out]
  obtain ⟨j0, j1, j2, j3, j4, j5, j6, j7, -⟩ := OV.cells
  dsimp only [x1] at j0 j1 j2 j3 j4 j5 j6 j7
  obtain ⟨X, hX⟩ : ∃ X, Aside (X = V.alloc (.cells #[.int .i64 1, .int .i64 0, .int .i64 1, .int .u8 109, .int .i64 4, .int .i64 0, .string ⟨#[102]⟩, .string ⟨#[]⟩] 31)) := ⟨_, rfl⟩
  have hbX : Below V.heap.size V X := by rw [hX.out]; exact (Below.refl _ V).alloc (Nat.le_refl _) _
  have hin : OpsIn X (some ⟨V.heap.size, 0, none⟩) [x1] := by rw [hX.out]; exact lit_one V x1
  have hjn : Calls Tryz.prog 11 #[.pointer (some ⟨b0, 0, none⟩), .slice (some ⟨V.heap.size, 0, none⟩) 1 1] X fun e w' => ∃ (R' : Rws), e = .returned (.tuple #[.int .i64 1, .nilIface]) ∧ Aside (Duo S w1 b0 b1 R' noR [] w' ∧ (allR R').Perm [x1] ∧ OpBlk w' Z x1) := (band_own (Band.later DV hbX) HS.out (show 2 ≤ 4 by omega) (show 0 < 2 by omega) (some ⟨V.heap.size, 0, none⟩) 1 0 x1 hin next1 timeO_nil (by simp [two, allR])).mono (fun e w' q => by
    obtain ⟨R', he, q⟩ := q
    have h1 := q.out.1
    rw [two_set0] at h1
    exact ⟨R', he, h1.less (by simp), q.out.2.1, (q.out.2.2 Z (by simp)).trans (OV.later hbX)⟩)
  clear hin hbX OV DV hbV H3 HB4
  go_wp2_with fail
  rw [← hX.out]
  refine hjn.mono ?_
  clear hjn j0 j1 j2 j3 j4 j5 j6 j7
  rintro e w5 ⟨Ra, rfl, H5⟩
  obtain ⟨j0, j1, j2, j3, j4, j5, j6, j7, -⟩ := H5.out.2.2.cells
  dsimp only [x1] at j0 j1 j2 j3 j4 j5 j6 j7
  have hla : (allR Ra).length = 1 := by have := H5.out.2.1.length_eq; simpa using this
  have hty := duo_types0 H5.out.1 HS.out onto1 H5.out.2.1 first 0 rfl (by omega) (by omega) (by omega) (M := 1) (by omega) (by omega) (fun x hx => by rw [List.mem_singleton.1 (H5.out.2.1.mem_iff.1 hx)]; decide) (by omega) (by omega)
  go_wp2_with fail
  refine hty.mono ?_
  clear hty j0 j1 j2 j3 j4 j5 j6 j7
  rintro e w6 ⟨z, Ra1, rfl, H6⟩
  have HBF : Aside (∀ (b0 b1 : Nat) (R0 R1 : Rws) (W : World), Duo S w1 b0 b1 R0 R1 [] W → Below w.heap.size w W) := fun _ _ _ _ _ h => by
    have := h.below
    rw [hS.out] at this
    exact HB1.out.trans (this.mono HB1.out.size)
  cases z with
  | false =>
    have HF : Aside (Below w.heap.size w w6) := HBF.out _ _ _ _ _ H6.out.1
    go_wp2
    go_ret
    exact ⟨rfl, HF.out⟩
  | true =>
    obtain ⟨F, hF⟩ := H6.out.2.1 (by first | rfl | trivial)
    obtain ⟨q, hOn⟩ := hF.onto onto1 (n := c) (by simpa using g5)
    have HF1 : Aside (TypedBy [x1] 0 4 0 [] [] Ra1 F first.data.toList ∧ Onto (allR Ra1) 4 q ((F.map opLt).take c) ((F.map opLt).drop c) ∧ (F.map opLt).length = first.size) := ⟨hF, hOn, by have := congrArg List.length hF.lets; simpa using this⟩
    have H6b : Aside (Duo S w1 b0 b1 Ra1 noR [] w6 ∧ (allR Ra1).length ≤ 13 ∧ ∀ x ∈ allR Ra1, x.1 ≤ 13) := ⟨H6.out.1, by have := H6.out.2.2.1; omega, fun x hx => by have := H6.out.2.2.2 x hx; omega⟩
    clear hF hOn H6 H5 hla
    have hop := duo_ops0 H6b.out.1 (by have := H6b.out.2.1; omega)
    go_wp2_with fail
    refine hop.mono ?_
    clear hop
    rintro e w7 ⟨ao, cp, ys, rfl, H7⟩
    have hjb := duo_join1 (Band.later H6b.out.1 H7.out.2.2) HS.out ao cp ys H7.out.1 H7.out.2.1 (fun x hx => by simp [allR] at hx) (by have := H6b.out.2.1; simp [allR]; simp [allR] at this; omega)
    go_wp2_with fail
    refine hjb.mono ?_
    clear hjb
    rintro e w8 ⟨m8, Rb1, rfl, H8⟩
    have hpb : (allR Rb1).Perm (allR Ra1) := same_perm H8.out.1.rows1 H8.out.1.rows0 (fun x => by rw [H8.out.2 x]; simp [allR])
    have HPB : Aside ((allR Rb1).Perm (allR Ra1)) := hpb
    have hlb := hpb.length_eq
    have hlt : ((F.map opLt).take c).length = c := by rw [List.length_take, HF1.out.2.2]; omega
    have ht1 := duo_types0 H8.out.1 HS.out HF1.out.2.1 (List.Perm.refl _) mine c hlt.symm (by omega) (by omega) (by have := H6b.out.2.1; omega) (M := 13) (by omega) (by omega) H6b.out.2.2 (by omega) (by omega)
    have HLT := Lib.hid hlt
    have HLB := Lib.hid hlb
    clear H7 hlt hlb hpb
    go_wp2_with fail
    refine ht1.mono ?_
    clear ht1
    rintro e w9 ⟨z1, Ra2, rfl, H9⟩
    cases z1 with
    | false =>
      have HF : Aside (Below w.heap.size w w9) := HBF.out _ _ _ _ _ H9.out.1
      clear H9 H8 H6b HF1
      go_wp2
      go_ret
      exact ⟨rfl, HF.out⟩
    | true =>
      have ht2 := duo_types1 H9.out.1 HS.out HF1.out.2.1 HPB.out theirs c HLT.out.symm (by omega) (by omega) (by have := H6b.out.2.1; have := HLB.out; omega) (M := 13) (by omega) (by omega) (fun x hx => H6b.out.2.2 x (HPB.out.mem_iff.1 hx)) (by omega) (by omega)
      go_wp2_with fail
      refine ht2.mono ?_
      clear ht2
      rintro e w10 ⟨z2, Rb2, rfl, H10⟩
      cases z2 with
      | false =>
        have HF : Aside (Below w.heap.size w w10) := HBF.out _ _ _ _ _ H10.out.1
        clear H10 H9 H8 H6b HF1
        go_wp2
        go_ret
        exact ⟨rfl, HF.out⟩
      | true =>
        obtain ⟨U, hU⟩ := H9.out.2.1 (by first | rfl | trivial)
        obtain ⟨V2, hV2⟩ := H10.out.2.1 (by first | rfl | trivial)
        have HT : Aside (TypedBy (allR Ra1) 0 4 q ((F.map opLt).take c) ((F.map opLt).drop c) Ra2 U mine.data.toList ∧ TypedBy (allR Ra1) 1 4 q ((F.map opLt).take c) ((F.map opLt).drop c) Rb2 V2 theirs.data.toList) := ⟨hU, hV2⟩
        have hla2 : (allR Ra2).length ≤ 21 := by have := H9.out.2.2.1; have := H6b.out.2.1; omega
        have hlb2 : (allR Rb2).length ≤ 21 := by have := H10.out.2.2.1; have := H6b.out.2.1; have := HLB.out; omega
        have HD : Aside (Duo S w1 b0 b1 Ra2 Rb2 [] w10) := H10.out.1
        clear hU hV2 H10 H9 H8
        -- texts
        obtain ⟨F1, hF1, s1⟩ := cut_left first c g5
        obtain ⟨F2, hF2, s2⟩ := cut_right first c g5
        have hsz1 : F1.size ≤ 12 := by have := congrArg List.length hF1; simp at this; omega
        have hsz2 : F2.size ≤ 12 := by have := congrArg List.length hF2; simp at this; omega
        obtain ⟨M1, hM1, hM1s, a1⟩ := add_two F1 mine (by omega)
        obtain ⟨X1, hX1, hX1s, a2⟩ := add_two M1 F2 (by omega)
        obtain ⟨N1, hN1, hN1s, a3⟩ := add_two F1 theirs (by omega)
        obtain ⟨Y1, hY1, hY1s, a4⟩ := add_two N1 F2 (by omega)
        have hbt := bytes_take F first.data.toList HF1.out.1.lets c
        have HXY : Aside ((∀ s, TextIs (allR Ra2) 4 s → s = X1) ∧ (∀ s, TextIs (allR Rb2) 4 s → s = Y1)) := by
          refine ⟨fun s hs => bytes_ext ?_, fun s hs => bytes_ext ?_⟩
          · rw [HT.out.1.text HF1.out.2.1 hs, hX1, hM1, hF1, hF2, hbt.1, hbt.2]
          · rw [HT.out.2.text HF1.out.2.1 hs, hY1, hN1, hF1, hF2, hbt.1, hbt.2]
        have HSZ : Aside (F1.data.toList = first.data.toList.take c ∧ F2.data.toList = first.data.toList.drop c ∧ M1.data.toList = F1.data.toList ++ mine.data.toList ∧ N1.data.toList = F1.data.toList ++ theirs.data.toList ∧ M1.size ≤ 20 ∧ N1.size ≤ 20) := ⟨hF1, hF2, hM1, hN1, by omega, by omega⟩
        have HBT : Aside (bytesL ((F.map opLt).take c) = first.data.toList.take c ∧ bytesL ((F.map opLt).drop c) = first.data.toList.drop c) := hbt
        clear hX1 hM1 hF1 hF2 hY1 hN1 hM1s hX1s hN1s hY1s hbt
        have hXX : (X1 == X1) = true := beqBytes X1
        have hYY : (Y1 == Y1) = true := beqBytes Y1
        have D0 : Duo S w1 b0 b1 Ra2 Rb2 [] w10.drew := Band.later HD.out (Below.refl _ w10).drew
        have ht0 : Calls Tryz.prog 14 #[.pointer (some ⟨b0, 0, none⟩), .int .i64 4] w10.drew fun e w' => e = .returned (.string X1) ∧ Aside (Below w10.drew.heap.size w10.drew w') := (duo_text0 D0 (by omega) 4 (by omega) (by omega)).mono (fun e w' q => by
          obtain ⟨s, he, q⟩ := q
          rw [HXY.out.1 s q.out.1] at he
          exact ⟨he, q.out.2⟩)
        have HTB : Aside (∀ W, Duo S w1 b0 b1 Ra2 Rb2 [] W → Calls Tryz.prog 14 #[.pointer (some ⟨b1, 0, none⟩), .int .i64 4] W fun e w' => e = .returned (.string Y1) ∧ Aside (Below W.heap.size W w')) := fun W hW => (duo_text1 hW (by omega) 4 (by omega) (by omega)).mono (fun e w' q => by
          obtain ⟨s, he, q⟩ := q
          rw [HXY.out.2 s q.out.1] at he
          exact ⟨he, q.out.2⟩)
        go_upto_region 20 with fail
        refine wp_region_H (S := (fun w' => Duo S w1 b0 b1 Ra2 Rb2 [] w')) (by kernel_rfl) D0 (fun hHeld => ?_)
        refine wpAnyH_take (i := 0) (v := ?vaa0) rfl (by kernel_rfl) (by kernel_rfl) (by kernel_rfl) (fun _ _ _ h => h) (Or.inl ⟨by rfl, ?hya0⟩) hHeld ?resta0
        case hya0 => (intro w' _; go_simp; try with_reducible rfl)
        try simp only [List.getElem_toArray, List.getElem_cons_succ, List.getElem_cons_zero, Act.put, List.setIfInBounds_toArray, List.set_cons_zero, List.set_cons_succ]
        refine wpAnyH_take (i := 1) (v := ?vaa1) rfl (by kernel_rfl) (by kernel_rfl) (by kernel_rfl) (fun _ _ _ h => h) (Or.inl ⟨by rfl, ?hya1⟩) hHeld ?resta1
        case hya1 => (intro w' _; go_simp; try with_reducible rfl)
        try simp only [List.getElem_toArray, List.getElem_cons_succ, List.getElem_cons_zero, Act.put, List.setIfInBounds_toArray, List.set_cons_zero, List.set_cons_succ]
        refine wpAnyH_take (i := 3) (v := ?vaa3) rfl (by kernel_rfl) (by kernel_rfl) (by kernel_rfl) (fun _ _ _ h => h) (Or.inl ⟨by rfl, ?hya3⟩) hHeld ?resta3
        case hya3 => (intro w' _; go_simp; try with_reducible rfl)
        try simp only [List.getElem_toArray, List.getElem_cons_succ, List.getElem_cons_zero, Act.put, List.setIfInBounds_toArray, List.set_cons_zero, List.set_cons_succ]
        refine wpAnyH_take (i := 4) (v := ?vaa4) rfl (by kernel_rfl) (by kernel_rfl) (by kernel_rfl) (fun _ _ _ h => h) (Or.inl ⟨by rfl, ?hya4⟩) hHeld ?resta4
        case hya4 => (intro w' _; go_simp; try with_reducible rfl)
        try simp only [List.getElem_toArray, List.getElem_cons_succ, List.getElem_cons_zero, Act.put, List.setIfInBounds_toArray, List.set_cons_zero, List.set_cons_succ]
        refine wpAnyH_take (i := 5) (v := ?vaa5) rfl (by kernel_rfl) (by kernel_rfl) (by kernel_rfl) (fun _ _ _ h => h) (Or.inl ⟨by rfl, ?hya5⟩) hHeld ?resta5
        case hya5 => (intro w' _; go_simp; try with_reducible rfl)
        try simp only [List.getElem_toArray, List.getElem_cons_succ, List.getElem_cons_zero, Act.put, List.setIfInBounds_toArray, List.set_cons_zero, List.set_cons_succ]
        refine wpAnyH_take (i := 6) (v := ?vaa6) rfl (by kernel_rfl) (by kernel_rfl) (by kernel_rfl) (fun _ _ _ h => h) (Or.inl ⟨by rfl, ?hya6⟩) hHeld ?resta6
        case hya6 => (intro w' _; go_simp; try with_reducible rfl)
        try simp only [List.getElem_toArray, List.getElem_cons_succ, List.getElem_cons_zero, Act.put, List.setIfInBounds_toArray, List.set_cons_zero, List.set_cons_succ]
        refine wpAnyH_take (i := 7) (v := ?vaa7) rfl (by kernel_rfl) (by kernel_rfl) (by kernel_rfl) (fun _ _ _ h => h) (Or.inl ⟨by rfl, ?hya7⟩) hHeld ?resta7
        case hya7 => (intro w' _; go_simp; try with_reducible rfl)
        try simp only [List.getElem_toArray, List.getElem_cons_succ, List.getElem_cons_zero, Act.put, List.setIfInBounds_toArray, List.set_cons_zero, List.set_cons_succ]
        refine wpAnyH_take (i := 8) (v := ?vaa8) rfl (by kernel_rfl) (by kernel_rfl) (by kernel_rfl) (fun _ _ _ h => h) (Or.inl ⟨by rfl, ?hya8⟩) hHeld ?resta8
        case hya8 => (intro w' _; go_simp; try with_reducible rfl)
        try simp only [List.getElem_toArray, List.getElem_cons_succ, List.getElem_cons_zero, Act.put, List.setIfInBounds_toArray, List.set_cons_zero, List.set_cons_succ]
        refine wpAnyH_take (i := 9) (v := ?vaa9) rfl (by kernel_rfl) (by kernel_rfl) (by kernel_rfl) (fun _ _ _ h => h) (Or.inl ⟨by rfl, ?hya9⟩) hHeld ?resta9
        case hya9 => (intro w' _; go_simp; try with_reducible rfl)
        try simp only [List.getElem_toArray, List.getElem_cons_succ, List.getElem_cons_zero, Act.put, List.setIfInBounds_toArray, List.set_cons_zero, List.set_cons_succ]
        refine wpAnyH_take (i := 10) (v := ?vaa10) rfl (by kernel_rfl) (by kernel_rfl) (by kernel_rfl) (fun _ _ _ h => h) (Or.inl ⟨by rfl, ?hya10⟩) hHeld ?resta10
        case hya10 => (intro w' _; go_simp; try with_reducible rfl)
        try simp only [List.getElem_toArray, List.getElem_cons_succ, List.getElem_cons_zero, Act.put, List.setIfInBounds_toArray, List.set_cons_zero, List.set_cons_succ]
        refine wpAnyH_take (i := 11) (v := ?vaa11) rfl (by kernel_rfl) (by kernel_rfl) (by kernel_rfl) (fun _ _ _ h => h) (Or.inl ⟨by rfl, ?hya11⟩) hHeld ?resta11
        case hya11 => (intro w' _; go_simp; try with_reducible rfl)
        try simp only [List.getElem_toArray, List.getElem_cons_succ, List.getElem_cons_zero, Act.put, List.setIfInBounds_toArray, List.set_cons_zero, List.set_cons_succ]
        refine wpAnyH_one (i := 2) (by kernel_rfl) rfl (fun K hK => ?_)
        go_simp
        refine ht0.mono ?_
        clear ht0
        rintro e w20 ⟨rfl, HB20⟩
        have D1 := Band.later D0 HB20.out
        have ht1 := HTB.out w20 D1
        refine hK _ _ D1 ?_
        clear hK K D0
        try simp only [List.getElem_toArray, List.getElem_cons_succ, List.getElem_cons_zero, Act.put, List.setIfInBounds_toArray, List.set_cons_zero, List.set_cons_succ]
        refine wpAnyH_take (i := 12) (v := ?vab12) rfl (by kernel_rfl) (by kernel_rfl) (by kernel_rfl) (fun _ _ _ h => h) (Or.inl ⟨by rfl, ?hyb12⟩) D1 ?restb12
        case hyb12 => (intro w' _; go_simp; try with_reducible rfl)
        try simp only [List.getElem_toArray, List.getElem_cons_succ, List.getElem_cons_zero, Act.put, List.setIfInBounds_toArray, List.set_cons_zero, List.set_cons_succ]
        refine wpAnyH_take (i := 13) (v := ?vab13) rfl (by kernel_rfl) (by kernel_rfl) (by kernel_rfl) (fun _ _ _ h => h) (Or.inl ⟨by rfl, ?hyb13⟩) D1 ?restb13
        case hyb13 => (intro w' _; go_simp; try with_reducible rfl)
        try simp only [List.getElem_toArray, List.getElem_cons_succ, List.getElem_cons_zero, Act.put, List.setIfInBounds_toArray, List.set_cons_zero, List.set_cons_succ]
        refine wpAnyH_take (i := 14) (v := ?vab14) rfl (by kernel_rfl) (by kernel_rfl) (by kernel_rfl) (fun _ _ _ h => h) (Or.inl ⟨by rfl, ?hyb14⟩) D1 ?restb14
        case hyb14 => (intro w' _; go_simp; try with_reducible rfl)
        try simp only [List.getElem_toArray, List.getElem_cons_succ, List.getElem_cons_zero, Act.put, List.setIfInBounds_toArray, List.set_cons_zero, List.set_cons_succ]
        refine wpAnyH_take (i := 15) (v := ?vab15) rfl (by kernel_rfl) (by kernel_rfl) (by kernel_rfl) (fun _ _ _ h => h) (Or.inl ⟨by rfl, ?hyb15⟩) D1 ?restb15
        case hyb15 => (intro w' _; go_simp; try with_reducible rfl)
        try simp only [List.getElem_toArray, List.getElem_cons_succ, List.getElem_cons_zero, Act.put, List.setIfInBounds_toArray, List.set_cons_zero, List.set_cons_succ]
        refine wpAnyH_take (i := 17) (v := ?vab17) rfl (by kernel_rfl) (by kernel_rfl) (by kernel_rfl) (fun _ _ _ h => h) (Or.inl ⟨by rfl, ?hyb17⟩) D1 ?restb17
        case hyb17 => (intro w' _; go_simp; try with_reducible rfl)
        try simp only [List.getElem_toArray, List.getElem_cons_succ, List.getElem_cons_zero, Act.put, List.setIfInBounds_toArray, List.set_cons_zero, List.set_cons_succ]
        refine wpAnyH_take (i := 18) (v := ?vab18) rfl (by kernel_rfl) (by kernel_rfl) (by kernel_rfl) (fun _ _ _ h => h) (Or.inl ⟨by rfl, ?hyb18⟩) D1 ?restb18
        case hyb18 => (intro w' _; go_simp; try with_reducible rfl)
        try simp only [List.getElem_toArray, List.getElem_cons_succ, List.getElem_cons_zero, Act.put, List.setIfInBounds_toArray, List.set_cons_zero, List.set_cons_succ]
        refine wpAnyH_take (i := 19) (v := ?vab19) rfl (by kernel_rfl) (by kernel_rfl) (by kernel_rfl) (fun _ _ _ h => h) (Or.inl ⟨by rfl, ?hyb19⟩) D1 ?restb19
        case hyb19 => (intro w' _; go_simp; try with_reducible rfl)
        try simp only [List.getElem_toArray, List.getElem_cons_succ, List.getElem_cons_zero, Act.put, List.setIfInBounds_toArray, List.set_cons_zero, List.set_cons_succ]
        refine wpAnyH_take (i := 20) (v := ?vab20) rfl (by kernel_rfl) (by kernel_rfl) (by kernel_rfl) (fun _ _ _ h => h) (Or.inl ⟨by rfl, ?hyb20⟩) D1 ?restb20
        case hyb20 => (intro w' _; go_simp; try with_reducible rfl)
        try simp only [List.getElem_toArray, List.getElem_cons_succ, List.getElem_cons_zero, Act.put, List.setIfInBounds_toArray, List.set_cons_zero, List.set_cons_succ]
        refine wpAnyH_take (i := 21) (v := ?vab21) rfl (by kernel_rfl) (by kernel_rfl) (by kernel_rfl) (fun _ _ _ h => h) (Or.inl ⟨by rfl, ?hyb21⟩) D1 ?restb21
        case hyb21 => (intro w' _; go_simp; try with_reducible rfl)
        try simp only [List.getElem_toArray, List.getElem_cons_succ, List.getElem_cons_zero, Act.put, List.setIfInBounds_toArray, List.set_cons_zero, List.set_cons_succ]
        refine wpAnyH_take (i := 22) (v := ?vab22) rfl (by kernel_rfl) (by kernel_rfl) (by kernel_rfl) (fun _ _ _ h => h) (Or.inl ⟨by rfl, ?hyb22⟩) D1 ?restb22
        case hyb22 => (intro w' _; go_simp; try with_reducible rfl)
        try simp only [List.getElem_toArray, List.getElem_cons_succ, List.getElem_cons_zero, Act.put, List.setIfInBounds_toArray, List.set_cons_zero, List.set_cons_succ]
        refine wpAnyH_take (i := 23) (v := ?vab23) rfl (by kernel_rfl) (by kernel_rfl) (by kernel_rfl) (fun _ _ _ h => h) (Or.inl ⟨by rfl, ?hyb23⟩) D1 ?restb23
        case hyb23 => (intro w' _; go_simp; try with_reducible rfl)
        try simp only [List.getElem_toArray, List.getElem_cons_succ, List.getElem_cons_zero, Act.put, List.setIfInBounds_toArray, List.set_cons_zero, List.set_cons_succ]
        refine wpAnyH_take (i := 24) (v := ?vab24) rfl (by kernel_rfl) (by kernel_rfl) (by kernel_rfl) (fun _ _ _ h => h) (Or.inl ⟨by rfl, ?hyb24⟩) D1 ?restb24
        case hyb24 => (intro w' _; go_simp; try with_reducible rfl)
        try simp only [List.getElem_toArray, List.getElem_cons_succ, List.getElem_cons_zero, Act.put, List.setIfInBounds_toArray, List.set_cons_zero, List.set_cons_succ]
        refine wpAnyH_take (i := 25) (v := ?vab25) rfl (by kernel_rfl) (by kernel_rfl) (by kernel_rfl) (fun _ _ _ h => h) (Or.inl ⟨by rfl, ?hyb25⟩) D1 ?restb25
        case hyb25 => (intro w' _; go_simp; try with_reducible rfl)
        try simp only [List.getElem_toArray, List.getElem_cons_succ, List.getElem_cons_zero, Act.put, List.setIfInBounds_toArray, List.set_cons_zero, List.set_cons_succ]
        refine wpAnyH_one (i := 16) (by kernel_rfl) rfl (fun K hK => ?_)
        go_simp
        refine ht1.mono ?_
        clear ht1
        rintro e w21 ⟨rfl, HB21⟩
        have D2 := Band.later D1 HB21.out
        refine hK _ _ D2 ?_
        clear hK K D1
        try simp only [List.getElem_toArray, List.getElem_cons_succ, List.getElem_cons_zero, Act.put, List.setIfInBounds_toArray, List.set_cons_zero, List.set_cons_succ]
        refine wpAnyH_take (i := 26) (v := ?vac26) rfl (by kernel_rfl) (by kernel_rfl) (by kernel_rfl) (fun _ _ _ h => h) (Or.inl ⟨by rfl, ?hyc26⟩) D2 ?restc26
        case hyc26 => (intro w' _; go_simp; try with_reducible rfl)
        try simp only [List.getElem_toArray, List.getElem_cons_succ, List.getElem_cons_zero, Act.put, List.setIfInBounds_toArray, List.set_cons_zero, List.set_cons_succ]
        refine wpAnyH_take (i := 27) (v := ?vac27) rfl (by kernel_rfl) (by kernel_rfl) (by kernel_rfl) (fun _ _ _ h => h) (Or.inl ⟨by rfl, ?hyc27⟩) D2 ?restc27
        case hyc27 => (intro w' _; go_simp; try with_reducible rfl)
        try simp only [List.getElem_toArray, List.getElem_cons_succ, List.getElem_cons_zero, Act.put, List.setIfInBounds_toArray, List.set_cons_zero, List.set_cons_succ]
        refine wpAnyH_done (by kernel_rfl) ?_ _
        try simp only [List.getElem_toArray, List.getElem_cons_succ, List.getElem_cons_zero, Act.put, List.setIfInBounds_toArray, List.set_cons_zero, List.set_cons_succ]
        have HD2 : Aside (Duo S w1 b0 b1 Ra2 Rb2 [] w21) := D2
        clear D2 hXX hYY HB20 HB21 HTB HD
        -- both join
        have ho1 := duo_ops1 HD2.out (by omega)
        go_wp2_with fail
        refine ho1.mono ?_
        clear ho1
        rintro e w22 ⟨ao2, cp2, ys2, rfl, H22⟩
        have hj0 := duo_join0 (Band.later HD2.out H22.out.2.2) HS.out ao2 cp2 ys2 H22.out.1 H22.out.2.1 (compat_two HT.out.1 HT.out.2 (Duo.rows0 HD2.out) (Duo.rows1 HD2.out)) (by omega)
        go_wp2_with fail
        refine hj0.mono ?_
        clear hj0
        rintro e w23 ⟨m23, Ra3, rfl, H23⟩
        have hp3 : (allR Ra3).Perm (U ++ (V2 ++ allR Ra1)) := both_perm HT.out.1 HT.out.2 (Duo.rows0 HD2.out) (Duo.rows1 HD2.out) (Duo.rows0 H23.out.1) H23.out.2
        have hl3 : (allR Ra3).length ≤ 42 := by
          have e0 := hp3.length_eq
          have e1 := HT.out.1.perm.length_eq
          have e2 := HT.out.2.perm.length_eq
          simp only [List.length_append, List.length_reverse] at e0 e1 e2
          omega
        have HP3 : Aside ((allR Ra3).Perm (U ++ (V2 ++ allR Ra1))) := hp3
        have ho2 := duo_ops0 H23.out.1 (by omega)
        clear hp3
        go_wp2_with fail
        refine ho2.mono ?_
        clear ho2 H22
        rintro e w24 ⟨ao3, cp3, ys3, rfl, H24⟩
        have hj1 := duo_join1 (Band.later H23.out.1 H24.out.2.2) HS.out ao3 cp3 ys3 H24.out.1 H24.out.2.1 (fun x hx y hy e1 e2 => (Duo.rows0 H23.out.1).well.one x ((H23.out.2 x).2 (.inr hx)) y hy e1 e2) (by omega)
        go_wp2_with fail
        refine hj1.mono ?_
        clear hj1
        rintro e w25 ⟨m25, Rb3, rfl, H25⟩
        have hp4 : (allR Rb3).Perm (allR Ra3) := same_perm (Duo.rows1 H25.out.1) (Duo.rows0 H25.out.1) (fun x => by
          rw [H25.out.2 x]
          exact ⟨fun k => k.elim (fun k => (H23.out.2 x).2 (.inr k)) id, .inr⟩)
        have HP4 : Aside ((allR Rb3).Perm (allR Ra3)) := hp4
        have hl4 := hp4.length_eq
        have HD3 : Aside (Duo S w1 b0 b1 Ra3 Rb3 [] w25) := H25.out.1
        have hx0 := duo_text0 HD3.out (by omega) 4 (by omega) (by omega)
        clear H23 H24 H25 hp4 HD2
        go_wp2_with fail
        refine hx0.mono ?_
        clear hx0
        rintro e w26 ⟨s0, rfl, H26⟩
        have HD4 : Aside (Duo S w1 b0 b1 Ra3 Rb3 [] w26) := Band.later HD3.out H26.out.2
        have hx1 : Calls Tryz.prog 14 #[.pointer (some ⟨b1, 0, none⟩), .int .i64 4] w26 fun e w' => e = .returned (.string s0) ∧ Aside (Below w26.heap.size w26 w') := (duo_text1 HD4.out (by omega) 4 (by omega) (by omega)).mono (fun e w' q => by
          obtain ⟨s, he, q⟩ := q
          rw [text_same HP4.out q.out.1 H26.out.1] at he
          exact ⟨he, q.out.2⟩)
        go_wp2_with fail
        refine hx1.mono ?_
        clear hx1
        rintro e w27 ⟨rfl, HB27⟩
        have HD5 : Aside (Duo S w1 b0 b1 Ra3 Rb3 [] w27) := Band.later HD4.out HB27.out
        have hss : (s0 == s0) = true := beqBytes s0
        have hx2 : Calls Tryz.prog 14 #[.pointer (some ⟨b0, 0, none⟩), .int .i64 4] w27 fun e w' => e = .returned (.string s0) ∧ Aside (Below w27.heap.size w27 w') := (duo_text0 HD5.out (by omega) 4 (by omega) (by omega)).mono (fun e w' q => by
          obtain ⟨s, he, q⟩ := q
          rw [text_same (List.Perm.refl _) q.out.1 H26.out.1] at he
          exact ⟨he, q.out.2⟩)
        go_wp2_with fail
        refine hx2.mono ?_
        clear hx2
        rintro e w28 ⟨rfl, HB28⟩
        have HF : Aside (Below w.heap.size w w28) := HBF.out _ _ _ _ _ (Band.later HD5.out HB28.out)
        have hend := two_text (by omega) HT.out.1 HT.out.2 HF1.out.2.1 HP3.out H26.out.1
        rw [HBT.out.1, HBT.out.2] at hend
        obtain ⟨E1, hE1, hE1s, a5⟩ := add_two M1 theirs (by have := HSZ.out.2.2.2.2.1; omega)
        obtain ⟨E2, hE2, hE2s, a6⟩ := add_two E1 F2 (by have := HSZ.out.2.2.2.2.1; omega)
        obtain ⟨E3, hE3, hE3s, a7⟩ := add_two N1 mine (by have := HSZ.out.2.2.2.2.2; omega)
        obtain ⟨E4, hE4, hE4s, a8⟩ := add_two E3 F2 (by have := HSZ.out.2.2.2.2.2; omega)
        have HEND : Aside (s0 = E2 ∨ s0 = E4) := by
          rcases hend with k | k
          · left
            apply bytes_ext
            rw [k, hE2, hE1, HSZ.out.2.2.1, HSZ.out.1, HSZ.out.2.1]
          · right
            apply bytes_ext
            rw [k, hE4, hE3, HSZ.out.2.2.2.1, HSZ.out.1, HSZ.out.2.1]
        clear hend hE1 hE2 hE3 hE4 hE1s hE2s hE3s hE4s HD3 HD4 HD5 HB27 HB28 H26 HXY
        by_cases he2 : s0 = E2
        · have hb2 : (s0 == E2) = true := by rw [he2]; exact beqBytes E2
          have hl2 : (s0.toList == E2.toList) = true := by rw [he2]; simp
          have HH := Lib.hid he2
          clear he2
          go_upto_region 27 with fail
          refine wp_region_H (S := (fun _ => True)) (by kernel_rfl) trivial (fun hHeld => ?_)
          refine wpAnyH_take (i := 0) (v := ?vap0) rfl (by kernel_rfl) (by kernel_rfl) (by kernel_rfl) (fun _ _ _ h => h) (Or.inl ⟨by rfl, ?hyp0⟩) trivial ?restp0
          case hyp0 => (intro w' _; go_simp; try with_reducible rfl)
          try simp only [List.getElem_toArray, List.getElem_cons_succ, List.getElem_cons_zero, Act.put, List.setIfInBounds_toArray, List.set_cons_zero, List.set_cons_succ]
          refine wpAnyH_take (i := 1) (v := ?vap1) rfl (by kernel_rfl) (by kernel_rfl) (by kernel_rfl) (fun _ _ _ h => h) (Or.inl ⟨by rfl, ?hyp1⟩) trivial ?restp1
          case hyp1 => (intro w' _; go_simp; try with_reducible rfl)
          try simp only [List.getElem_toArray, List.getElem_cons_succ, List.getElem_cons_zero, Act.put, List.setIfInBounds_toArray, List.set_cons_zero, List.set_cons_succ]
          refine wpAnyH_take (i := 2) (v := ?vap2) rfl (by kernel_rfl) (by kernel_rfl) (by kernel_rfl) (fun _ _ _ h => h) (Or.inl ⟨by rfl, ?hyp2⟩) trivial ?restp2
          case hyp2 => (intro w' _; go_simp; try with_reducible rfl)
          try simp only [List.getElem_toArray, List.getElem_cons_succ, List.getElem_cons_zero, Act.put, List.setIfInBounds_toArray, List.set_cons_zero, List.set_cons_succ]
          refine wpAnyH_take (i := 3) (v := ?vap3) rfl (by kernel_rfl) (by kernel_rfl) (by kernel_rfl) (fun _ _ _ h => h) (Or.inl ⟨by rfl, ?hyp3⟩) trivial ?restp3
          case hyp3 => (intro w' _; go_simp; try with_reducible rfl)
          try simp only [List.getElem_toArray, List.getElem_cons_succ, List.getElem_cons_zero, Act.put, List.setIfInBounds_toArray, List.set_cons_zero, List.set_cons_succ]
          refine wpAnyH_take (i := 4) (v := ?vap4) rfl (by kernel_rfl) (by kernel_rfl) (by kernel_rfl) (fun _ _ _ h => h) (Or.inl ⟨by rfl, ?hyp4⟩) trivial ?restp4
          case hyp4 => (intro w' _; go_simp; try with_reducible rfl)
          try simp only [List.getElem_toArray, List.getElem_cons_succ, List.getElem_cons_zero, Act.put, List.setIfInBounds_toArray, List.set_cons_zero, List.set_cons_succ]
          refine wpAnyH_take (i := 5) (v := ?vap5) rfl (by kernel_rfl) (by kernel_rfl) (by kernel_rfl) (fun _ _ _ h => h) (Or.inl ⟨by rfl, ?hyp5⟩) trivial ?restp5
          case hyp5 => (intro w' _; go_simp; try with_reducible rfl)
          try simp only [List.getElem_toArray, List.getElem_cons_succ, List.getElem_cons_zero, Act.put, List.setIfInBounds_toArray, List.set_cons_zero, List.set_cons_succ]
          refine wpAnyH_take (i := 6) (v := ?vap6) rfl (by kernel_rfl) (by kernel_rfl) (by kernel_rfl) (fun _ _ _ h => h) (Or.inl ⟨by rfl, ?hyp6⟩) trivial ?restp6
          case hyp6 => (intro w' _; go_simp; try with_reducible rfl)
          try simp only [List.getElem_toArray, List.getElem_cons_succ, List.getElem_cons_zero, Act.put, List.setIfInBounds_toArray, List.set_cons_zero, List.set_cons_succ]
          refine wpAnyH_take (i := 7) (v := ?vap7) rfl (by kernel_rfl) (by kernel_rfl) (by kernel_rfl) (fun _ _ _ h => h) (Or.inl ⟨by rfl, ?hyp7⟩) trivial ?restp7
          case hyp7 => (intro w' _; go_simp; try with_reducible rfl)
          try simp only [List.getElem_toArray, List.getElem_cons_succ, List.getElem_cons_zero, Act.put, List.setIfInBounds_toArray, List.set_cons_zero, List.set_cons_succ]
          refine wpAnyH_take (i := 8) (v := ?vap8) rfl (by kernel_rfl) (by kernel_rfl) (by kernel_rfl) (fun _ _ _ h => h) (Or.inl ⟨by rfl, ?hyp8⟩) trivial ?restp8
          case hyp8 => (intro w' _; go_simp; try with_reducible rfl)
          try simp only [List.getElem_toArray, List.getElem_cons_succ, List.getElem_cons_zero, Act.put, List.setIfInBounds_toArray, List.set_cons_zero, List.set_cons_succ]
          refine wpAnyH_take (i := 9) (v := ?vap9) rfl (by kernel_rfl) (by kernel_rfl) (by kernel_rfl) (fun _ _ _ h => h) (Or.inl ⟨by rfl, ?hyp9⟩) trivial ?restp9
          case hyp9 => (intro w' _; go_simp; try with_reducible rfl)
          try simp only [List.getElem_toArray, List.getElem_cons_succ, List.getElem_cons_zero, Act.put, List.setIfInBounds_toArray, List.set_cons_zero, List.set_cons_succ]
          refine wpAnyH_take (i := 10) (v := ?vap10) rfl (by kernel_rfl) (by kernel_rfl) (by kernel_rfl) (fun _ _ _ h => h) (Or.inl ⟨by rfl, ?hyp10⟩) trivial ?restp10
          case hyp10 => (intro w' _; go_simp; try with_reducible rfl)
          try simp only [List.getElem_toArray, List.getElem_cons_succ, List.getElem_cons_zero, Act.put, List.setIfInBounds_toArray, List.set_cons_zero, List.set_cons_succ]
          refine wpAnyH_take (i := 11) (v := ?vap11) rfl (by kernel_rfl) (by kernel_rfl) (by kernel_rfl) (fun _ _ _ h => h) (Or.inl ⟨by rfl, ?hyp11⟩) trivial ?restp11
          case hyp11 => (intro w' _; go_simp; try with_reducible rfl)
          try simp only [List.getElem_toArray, List.getElem_cons_succ, List.getElem_cons_zero, Act.put, List.setIfInBounds_toArray, List.set_cons_zero, List.set_cons_succ]
          refine wpAnyH_take (i := 12) (v := ?vap12) rfl (by kernel_rfl) (by kernel_rfl) (by kernel_rfl) (fun _ _ _ h => h) (Or.inl ⟨by rfl, ?hyp12⟩) trivial ?restp12
          case hyp12 => (intro w' _; go_simp; try with_reducible rfl)
          try simp only [List.getElem_toArray, List.getElem_cons_succ, List.getElem_cons_zero, Act.put, List.setIfInBounds_toArray, List.set_cons_zero, List.set_cons_succ]
          refine wpAnyH_take (i := 13) (v := ?vap13) rfl (by kernel_rfl) (by kernel_rfl) (by kernel_rfl) (fun _ _ _ h => h) (Or.inl ⟨by rfl, ?hyp13⟩) trivial ?restp13
          case hyp13 => (intro w' _; go_simp; try with_reducible rfl)
          try simp only [List.getElem_toArray, List.getElem_cons_succ, List.getElem_cons_zero, Act.put, List.setIfInBounds_toArray, List.set_cons_zero, List.set_cons_succ]
          refine wpAnyH_take (i := 14) (v := undef) rfl (by kernel_rfl) (by kernel_rfl) (by kernel_rfl) (fun _ _ _ h => h) (Or.inr ⟨by rfl, rfl⟩) trivial ?restp14
          try simp only [List.getElem_toArray, List.getElem_cons_succ, List.getElem_cons_zero, Act.put, List.setIfInBounds_toArray, List.set_cons_zero, List.set_cons_succ]
          refine wpAnyH_take (i := 15) (v := undef) rfl (by kernel_rfl) (by kernel_rfl) (by kernel_rfl) (fun _ _ _ h => h) (Or.inr ⟨by rfl, rfl⟩) trivial ?restp15
          try simp only [List.getElem_toArray, List.getElem_cons_succ, List.getElem_cons_zero, Act.put, List.setIfInBounds_toArray, List.set_cons_zero, List.set_cons_succ]
          refine wpAnyH_take (i := 16) (v := undef) rfl (by kernel_rfl) (by kernel_rfl) (by kernel_rfl) (fun _ _ _ h => h) (Or.inr ⟨by rfl, rfl⟩) trivial ?restp16
          try simp only [List.getElem_toArray, List.getElem_cons_succ, List.getElem_cons_zero, Act.put, List.setIfInBounds_toArray, List.set_cons_zero, List.set_cons_succ]
          refine wpAnyH_take (i := 17) (v := undef) rfl (by kernel_rfl) (by kernel_rfl) (by kernel_rfl) (fun _ _ _ h => h) (Or.inr ⟨by rfl, rfl⟩) trivial ?restp17
          try simp only [List.getElem_toArray, List.getElem_cons_succ, List.getElem_cons_zero, Act.put, List.setIfInBounds_toArray, List.set_cons_zero, List.set_cons_succ]
          refine wpAnyH_take (i := 18) (v := undef) rfl (by kernel_rfl) (by kernel_rfl) (by kernel_rfl) (fun _ _ _ h => h) (Or.inr ⟨by rfl, rfl⟩) trivial ?restp18
          try simp only [List.getElem_toArray, List.getElem_cons_succ, List.getElem_cons_zero, Act.put, List.setIfInBounds_toArray, List.set_cons_zero, List.set_cons_succ]
          refine wpAnyH_take (i := 19) (v := undef) rfl (by kernel_rfl) (by kernel_rfl) (by kernel_rfl) (fun _ _ _ h => h) (Or.inr ⟨by rfl, rfl⟩) trivial ?restp19
          try simp only [List.getElem_toArray, List.getElem_cons_succ, List.getElem_cons_zero, Act.put, List.setIfInBounds_toArray, List.set_cons_zero, List.set_cons_succ]
          refine wpAnyH_take (i := 20) (v := undef) rfl (by kernel_rfl) (by kernel_rfl) (by kernel_rfl) (fun _ _ _ h => h) (Or.inr ⟨by rfl, rfl⟩) trivial ?restp20
          try simp only [List.getElem_toArray, List.getElem_cons_succ, List.getElem_cons_zero, Act.put, List.setIfInBounds_toArray, List.set_cons_zero, List.set_cons_succ]
          refine wpAnyH_take (i := 21) (v := undef) rfl (by kernel_rfl) (by kernel_rfl) (by kernel_rfl) (fun _ _ _ h => h) (Or.inr ⟨by rfl, rfl⟩) trivial ?restp21
          try simp only [List.getElem_toArray, List.getElem_cons_succ, List.getElem_cons_zero, Act.put, List.setIfInBounds_toArray, List.set_cons_zero, List.set_cons_succ]
          refine wpAnyH_take (i := 22) (v := undef) rfl (by kernel_rfl) (by kernel_rfl) (by kernel_rfl) (fun _ _ _ h => h) (Or.inr ⟨by rfl, rfl⟩) trivial ?restp22
          try simp only [List.getElem_toArray, List.getElem_cons_succ, List.getElem_cons_zero, Act.put, List.setIfInBounds_toArray, List.set_cons_zero, List.set_cons_succ]
          refine wpAnyH_take (i := 23) (v := undef) rfl (by kernel_rfl) (by kernel_rfl) (by kernel_rfl) (fun _ _ _ h => h) (Or.inr ⟨by rfl, rfl⟩) trivial ?restp23
          try simp only [List.getElem_toArray, List.getElem_cons_succ, List.getElem_cons_zero, Act.put, List.setIfInBounds_toArray, List.set_cons_zero, List.set_cons_succ]
          refine wpAnyH_take (i := 24) (v := undef) rfl (by kernel_rfl) (by kernel_rfl) (by kernel_rfl) (fun _ _ _ h => h) (Or.inr ⟨by rfl, rfl⟩) trivial ?restp24
          try simp only [List.getElem_toArray, List.getElem_cons_succ, List.getElem_cons_zero, Act.put, List.setIfInBounds_toArray, List.set_cons_zero, List.set_cons_succ]
          refine wpAnyH_take (i := 25) (v := undef) rfl (by kernel_rfl) (by kernel_rfl) (by kernel_rfl) (fun _ _ _ h => h) (Or.inr ⟨by rfl, rfl⟩) trivial ?restp25
          try simp only [List.getElem_toArray, List.getElem_cons_succ, List.getElem_cons_zero, Act.put, List.setIfInBounds_toArray, List.set_cons_zero, List.set_cons_succ]
          refine wpAnyH_take (i := 26) (v := undef) rfl (by kernel_rfl) (by kernel_rfl) (by kernel_rfl) (fun _ _ _ h => h) (Or.inr ⟨by rfl, rfl⟩) trivial ?restp26
          try simp only [List.getElem_toArray, List.getElem_cons_succ, List.getElem_cons_zero, Act.put, List.setIfInBounds_toArray, List.set_cons_zero, List.set_cons_succ]
          refine wpAnyH_take (i := 27) (v := ?vap27) rfl (by kernel_rfl) (by kernel_rfl) (by kernel_rfl) (fun _ _ _ h => h) (Or.inl ⟨by rfl, ?hyp27⟩) trivial ?restp27
          case hyp27 => (intro w' _; go_simp; try with_reducible rfl)
          try simp only [List.getElem_toArray, List.getElem_cons_succ, List.getElem_cons_zero, Act.put, List.setIfInBounds_toArray, List.set_cons_zero, List.set_cons_succ]
          refine wpAnyH_take (i := 28) (v := ?vap28) rfl (by kernel_rfl) (by kernel_rfl) (by kernel_rfl) (fun _ _ _ h => h) (Or.inl ⟨by rfl, ?hyp28⟩) trivial ?restp28
          case hyp28 => (intro w' _; go_simp; try with_reducible rfl)
          try simp only [List.getElem_toArray, List.getElem_cons_succ, List.getElem_cons_zero, Act.put, List.setIfInBounds_toArray, List.set_cons_zero, List.set_cons_succ]
          refine wpAnyH_done (by kernel_rfl) ?_ _
          try simp only [List.getElem_toArray, List.getElem_cons_succ, List.getElem_cons_zero, Act.put, List.setIfInBounds_toArray, List.set_cons_zero, List.set_cons_succ]
          go_wp2
          go_ret
          exact ⟨rfl, HF.out.drew⟩
        · have hb2 : (s0 == E2) = false := beq_no he2
          have hb4 : (s0 == E4) = true := by
            rcases HEND.out with k | k
            · exact absurd k he2
            · rw [k]; exact beqBytes E4
          have hl2 : (s0.toList == E2.toList) = false := beqL_no he2
          have hl4 : (s0.toList == E4.toList) = true := by
            rcases HEND.out with k | k
            · exact absurd k he2
            · rw [k]; simp
          have HH := Lib.hid he2
          clear he2
          go_upto_region 27 with fail
          refine wp_region_H (S := (fun _ => True)) (by kernel_rfl) trivial (fun hHeld => ?_)
          refine wpAnyH_take (i := 0) (v := ?vaq0) rfl (by kernel_rfl) (by kernel_rfl) (by kernel_rfl) (fun _ _ _ h => h) (Or.inl ⟨by rfl, ?hyq0⟩) trivial ?restq0
          case hyq0 => (intro w' _; go_simp; try with_reducible rfl)
          try simp only [List.getElem_toArray, List.getElem_cons_succ, List.getElem_cons_zero, Act.put, List.setIfInBounds_toArray, List.set_cons_zero, List.set_cons_succ]
          refine wpAnyH_take (i := 1) (v := ?vaq1) rfl (by kernel_rfl) (by kernel_rfl) (by kernel_rfl) (fun _ _ _ h => h) (Or.inl ⟨by rfl, ?hyq1⟩) trivial ?restq1
          case hyq1 => (intro w' _; go_simp; try with_reducible rfl)
          try simp only [List.getElem_toArray, List.getElem_cons_succ, List.getElem_cons_zero, Act.put, List.setIfInBounds_toArray, List.set_cons_zero, List.set_cons_succ]
          refine wpAnyH_take (i := 2) (v := ?vaq2) rfl (by kernel_rfl) (by kernel_rfl) (by kernel_rfl) (fun _ _ _ h => h) (Or.inl ⟨by rfl, ?hyq2⟩) trivial ?restq2
          case hyq2 => (intro w' _; go_simp; try with_reducible rfl)
          try simp only [List.getElem_toArray, List.getElem_cons_succ, List.getElem_cons_zero, Act.put, List.setIfInBounds_toArray, List.set_cons_zero, List.set_cons_succ]
          refine wpAnyH_take (i := 3) (v := ?vaq3) rfl (by kernel_rfl) (by kernel_rfl) (by kernel_rfl) (fun _ _ _ h => h) (Or.inl ⟨by rfl, ?hyq3⟩) trivial ?restq3
          case hyq3 => (intro w' _; go_simp; try with_reducible rfl)
          try simp only [List.getElem_toArray, List.getElem_cons_succ, List.getElem_cons_zero, Act.put, List.setIfInBounds_toArray, List.set_cons_zero, List.set_cons_succ]
          refine wpAnyH_take (i := 4) (v := ?vaq4) rfl (by kernel_rfl) (by kernel_rfl) (by kernel_rfl) (fun _ _ _ h => h) (Or.inl ⟨by rfl, ?hyq4⟩) trivial ?restq4
          case hyq4 => (intro w' _; go_simp; try with_reducible rfl)
          try simp only [List.getElem_toArray, List.getElem_cons_succ, List.getElem_cons_zero, Act.put, List.setIfInBounds_toArray, List.set_cons_zero, List.set_cons_succ]
          refine wpAnyH_take (i := 5) (v := ?vaq5) rfl (by kernel_rfl) (by kernel_rfl) (by kernel_rfl) (fun _ _ _ h => h) (Or.inl ⟨by rfl, ?hyq5⟩) trivial ?restq5
          case hyq5 => (intro w' _; go_simp; try with_reducible rfl)
          try simp only [List.getElem_toArray, List.getElem_cons_succ, List.getElem_cons_zero, Act.put, List.setIfInBounds_toArray, List.set_cons_zero, List.set_cons_succ]
          refine wpAnyH_take (i := 6) (v := ?vaq6) rfl (by kernel_rfl) (by kernel_rfl) (by kernel_rfl) (fun _ _ _ h => h) (Or.inl ⟨by rfl, ?hyq6⟩) trivial ?restq6
          case hyq6 => (intro w' _; go_simp; try with_reducible rfl)
          try simp only [List.getElem_toArray, List.getElem_cons_succ, List.getElem_cons_zero, Act.put, List.setIfInBounds_toArray, List.set_cons_zero, List.set_cons_succ]
          refine wpAnyH_take (i := 7) (v := ?vaq7) rfl (by kernel_rfl) (by kernel_rfl) (by kernel_rfl) (fun _ _ _ h => h) (Or.inl ⟨by rfl, ?hyq7⟩) trivial ?restq7
          case hyq7 => (intro w' _; go_simp; try with_reducible rfl)
          try simp only [List.getElem_toArray, List.getElem_cons_succ, List.getElem_cons_zero, Act.put, List.setIfInBounds_toArray, List.set_cons_zero, List.set_cons_succ]
          refine wpAnyH_take (i := 8) (v := ?vaq8) rfl (by kernel_rfl) (by kernel_rfl) (by kernel_rfl) (fun _ _ _ h => h) (Or.inl ⟨by rfl, ?hyq8⟩) trivial ?restq8
          case hyq8 => (intro w' _; go_simp; try with_reducible rfl)
          try simp only [List.getElem_toArray, List.getElem_cons_succ, List.getElem_cons_zero, Act.put, List.setIfInBounds_toArray, List.set_cons_zero, List.set_cons_succ]
          refine wpAnyH_take (i := 9) (v := ?vaq9) rfl (by kernel_rfl) (by kernel_rfl) (by kernel_rfl) (fun _ _ _ h => h) (Or.inl ⟨by rfl, ?hyq9⟩) trivial ?restq9
          case hyq9 => (intro w' _; go_simp; try with_reducible rfl)
          try simp only [List.getElem_toArray, List.getElem_cons_succ, List.getElem_cons_zero, Act.put, List.setIfInBounds_toArray, List.set_cons_zero, List.set_cons_succ]
          refine wpAnyH_take (i := 10) (v := ?vaq10) rfl (by kernel_rfl) (by kernel_rfl) (by kernel_rfl) (fun _ _ _ h => h) (Or.inl ⟨by rfl, ?hyq10⟩) trivial ?restq10
          case hyq10 => (intro w' _; go_simp; try with_reducible rfl)
          try simp only [List.getElem_toArray, List.getElem_cons_succ, List.getElem_cons_zero, Act.put, List.setIfInBounds_toArray, List.set_cons_zero, List.set_cons_succ]
          refine wpAnyH_take (i := 11) (v := ?vaq11) rfl (by kernel_rfl) (by kernel_rfl) (by kernel_rfl) (fun _ _ _ h => h) (Or.inl ⟨by rfl, ?hyq11⟩) trivial ?restq11
          case hyq11 => (intro w' _; go_simp; try with_reducible rfl)
          try simp only [List.getElem_toArray, List.getElem_cons_succ, List.getElem_cons_zero, Act.put, List.setIfInBounds_toArray, List.set_cons_zero, List.set_cons_succ]
          refine wpAnyH_take (i := 12) (v := ?vaq12) rfl (by kernel_rfl) (by kernel_rfl) (by kernel_rfl) (fun _ _ _ h => h) (Or.inl ⟨by rfl, ?hyq12⟩) trivial ?restq12
          case hyq12 => (intro w' _; go_simp; try with_reducible rfl)
          try simp only [List.getElem_toArray, List.getElem_cons_succ, List.getElem_cons_zero, Act.put, List.setIfInBounds_toArray, List.set_cons_zero, List.set_cons_succ]
          refine wpAnyH_take (i := 13) (v := ?vaq13) rfl (by kernel_rfl) (by kernel_rfl) (by kernel_rfl) (fun _ _ _ h => h) (Or.inl ⟨by rfl, ?hyq13⟩) trivial ?restq13
          case hyq13 => (intro w' _; go_simp; try with_reducible rfl)
          try simp only [List.getElem_toArray, List.getElem_cons_succ, List.getElem_cons_zero, Act.put, List.setIfInBounds_toArray, List.set_cons_zero, List.set_cons_succ]
          refine wpAnyH_take (i := 14) (v := ?vaq14) rfl (by kernel_rfl) (by kernel_rfl) (by kernel_rfl) (fun _ _ _ h => h) (Or.inl ⟨by rfl, ?hyq14⟩) trivial ?restq14
          case hyq14 => (intro w' _; go_simp; try with_reducible rfl)
          try simp only [List.getElem_toArray, List.getElem_cons_succ, List.getElem_cons_zero, Act.put, List.setIfInBounds_toArray, List.set_cons_zero, List.set_cons_succ]
          refine wpAnyH_take (i := 15) (v := ?vaq15) rfl (by kernel_rfl) (by kernel_rfl) (by kernel_rfl) (fun _ _ _ h => h) (Or.inl ⟨by rfl, ?hyq15⟩) trivial ?restq15
          case hyq15 => (intro w' _; go_simp; try with_reducible rfl)
          try simp only [List.getElem_toArray, List.getElem_cons_succ, List.getElem_cons_zero, Act.put, List.setIfInBounds_toArray, List.set_cons_zero, List.set_cons_succ]
          refine wpAnyH_take (i := 16) (v := ?vaq16) rfl (by kernel_rfl) (by kernel_rfl) (by kernel_rfl) (fun _ _ _ h => h) (Or.inl ⟨by rfl, ?hyq16⟩) trivial ?restq16
          case hyq16 => (intro w' _; go_simp; try with_reducible rfl)
          try simp only [List.getElem_toArray, List.getElem_cons_succ, List.getElem_cons_zero, Act.put, List.setIfInBounds_toArray, List.set_cons_zero, List.set_cons_succ]
          refine wpAnyH_take (i := 17) (v := ?vaq17) rfl (by kernel_rfl) (by kernel_rfl) (by kernel_rfl) (fun _ _ _ h => h) (Or.inl ⟨by rfl, ?hyq17⟩) trivial ?restq17
          case hyq17 => (intro w' _; go_simp; try with_reducible rfl)
          try simp only [List.getElem_toArray, List.getElem_cons_succ, List.getElem_cons_zero, Act.put, List.setIfInBounds_toArray, List.set_cons_zero, List.set_cons_succ]
          refine wpAnyH_take (i := 18) (v := ?vaq18) rfl (by kernel_rfl) (by kernel_rfl) (by kernel_rfl) (fun _ _ _ h => h) (Or.inl ⟨by rfl, ?hyq18⟩) trivial ?restq18
          case hyq18 => (intro w' _; go_simp; try with_reducible rfl)
          try simp only [List.getElem_toArray, List.getElem_cons_succ, List.getElem_cons_zero, Act.put, List.setIfInBounds_toArray, List.set_cons_zero, List.set_cons_succ]
          refine wpAnyH_take (i := 19) (v := ?vaq19) rfl (by kernel_rfl) (by kernel_rfl) (by kernel_rfl) (fun _ _ _ h => h) (Or.inl ⟨by rfl, ?hyq19⟩) trivial ?restq19
          case hyq19 => (intro w' _; go_simp; try with_reducible rfl)
          try simp only [List.getElem_toArray, List.getElem_cons_succ, List.getElem_cons_zero, Act.put, List.setIfInBounds_toArray, List.set_cons_zero, List.set_cons_succ]
          refine wpAnyH_take (i := 20) (v := ?vaq20) rfl (by kernel_rfl) (by kernel_rfl) (by kernel_rfl) (fun _ _ _ h => h) (Or.inl ⟨by rfl, ?hyq20⟩) trivial ?restq20
          case hyq20 => (intro w' _; go_simp; try with_reducible rfl)
          try simp only [List.getElem_toArray, List.getElem_cons_succ, List.getElem_cons_zero, Act.put, List.setIfInBounds_toArray, List.set_cons_zero, List.set_cons_succ]
          refine wpAnyH_take (i := 21) (v := ?vaq21) rfl (by kernel_rfl) (by kernel_rfl) (by kernel_rfl) (fun _ _ _ h => h) (Or.inl ⟨by rfl, ?hyq21⟩) trivial ?restq21
          case hyq21 => (intro w' _; go_simp; try with_reducible rfl)
          try simp only [List.getElem_toArray, List.getElem_cons_succ, List.getElem_cons_zero, Act.put, List.setIfInBounds_toArray, List.set_cons_zero, List.set_cons_succ]
          refine wpAnyH_take (i := 22) (v := ?vaq22) rfl (by kernel_rfl) (by kernel_rfl) (by kernel_rfl) (fun _ _ _ h => h) (Or.inl ⟨by rfl, ?hyq22⟩) trivial ?restq22
          case hyq22 => (intro w' _; go_simp; try with_reducible rfl)
          try simp only [List.getElem_toArray, List.getElem_cons_succ, List.getElem_cons_zero, Act.put, List.setIfInBounds_toArray, List.set_cons_zero, List.set_cons_succ]
          refine wpAnyH_take (i := 23) (v := ?vaq23) rfl (by kernel_rfl) (by kernel_rfl) (by kernel_rfl) (fun _ _ _ h => h) (Or.inl ⟨by rfl, ?hyq23⟩) trivial ?restq23
          case hyq23 => (intro w' _; go_simp; try with_reducible rfl)
          try simp only [List.getElem_toArray, List.getElem_cons_succ, List.getElem_cons_zero, Act.put, List.setIfInBounds_toArray, List.set_cons_zero, List.set_cons_succ]
          refine wpAnyH_take (i := 24) (v := ?vaq24) rfl (by kernel_rfl) (by kernel_rfl) (by kernel_rfl) (fun _ _ _ h => h) (Or.inl ⟨by rfl, ?hyq24⟩) trivial ?restq24
          case hyq24 => (intro w' _; go_simp; try with_reducible rfl)
          try simp only [List.getElem_toArray, List.getElem_cons_succ, List.getElem_cons_zero, Act.put, List.setIfInBounds_toArray, List.set_cons_zero, List.set_cons_succ]
          refine wpAnyH_take (i := 25) (v := ?vaq25) rfl (by kernel_rfl) (by kernel_rfl) (by kernel_rfl) (fun _ _ _ h => h) (Or.inl ⟨by rfl, ?hyq25⟩) trivial ?restq25
          case hyq25 => (intro w' _; go_simp; try with_reducible rfl)
          try simp only [List.getElem_toArray, List.getElem_cons_succ, List.getElem_cons_zero, Act.put, List.setIfInBounds_toArray, List.set_cons_zero, List.set_cons_succ]
          refine wpAnyH_take (i := 26) (v := ?vaq26) rfl (by kernel_rfl) (by kernel_rfl) (by kernel_rfl) (fun _ _ _ h => h) (Or.inl ⟨by rfl, ?hyq26⟩) trivial ?restq26
          case hyq26 => (intro w' _; go_simp; try with_reducible rfl)
          try simp only [List.getElem_toArray, List.getElem_cons_succ, List.getElem_cons_zero, Act.put, List.setIfInBounds_toArray, List.set_cons_zero, List.set_cons_succ]
          refine wpAnyH_take (i := 27) (v := ?vaq27) rfl (by kernel_rfl) (by kernel_rfl) (by kernel_rfl) (fun _ _ _ h => h) (Or.inl ⟨by rfl, ?hyq27⟩) trivial ?restq27
          case hyq27 => (intro w' _; go_simp; try with_reducible rfl)
          try simp only [List.getElem_toArray, List.getElem_cons_succ, List.getElem_cons_zero, Act.put, List.setIfInBounds_toArray, List.set_cons_zero, List.set_cons_succ]
          refine wpAnyH_take (i := 28) (v := ?vaq28) rfl (by kernel_rfl) (by kernel_rfl) (by kernel_rfl) (fun _ _ _ h => h) (Or.inl ⟨by rfl, ?hyq28⟩) trivial ?restq28
          case hyq28 => (intro w' _; go_simp; try with_reducible rfl)
          try simp only [List.getElem_toArray, List.getElem_cons_succ, List.getElem_cons_zero, Act.put, List.setIfInBounds_toArray, List.set_cons_zero, List.set_cons_succ]
          refine wpAnyH_done (by kernel_rfl) ?_ _
          try simp only [List.getElem_toArray, List.getElem_cons_succ, List.getElem_cons_zero, Act.put, List.setIfInBounds_toArray, List.set_cons_zero, List.set_cons_succ]
          go_wp2
          go_ret
          exact ⟨rfl, HF.out.drew⟩
end Go.Proofs.YtcggmagdndhkbaaGreatDoor
end
