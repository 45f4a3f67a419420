import Derived.Test.YtcggmagdndhkbaaGreatDoorWt11
import Derived.Test.YtcggmagdndhkbaaGreatDoorWt21
import Derived.Test.YtcggmagdndhkbaaGreatDoorWt29
import Derived.Test.YtcggmagdndhkbaaGreatDoorWt31
import Derived.Lib.SliceRun
section
set_option linter.unusedVariables false
set_option linter.unusedSimpArgs false
namespace Go.Proofs.YtcggmagdndhkbaaGreatDoor
open Go.RowKit Go.Lib Go.Sort Go.Maps
def WriteAt (A : List OpX) (nd n : Int) (a : Int × Bool) : Prop := (n = 0 ∧ a.1 = 0 ∧ (a.2 = true ↔ KnownN A nd)) ∨ (n ≠ 0 ∧ (¬ KnownN A nd → a = (0, false)) ∧ (KnownN A nd → ∃ L, LineIs A nd L ∧ a = atL (n - 1) L))
theorem knownN_perm {A S : List OpX} (h : A.Perm S) (nd : Int) : KnownN A nd ↔ KnownN S nd := ⟨fun q => q.mono (fun x hx => h.mem_iff.1 hx), fun q => q.mono (fun x hx => h.mem_iff.2 hx)⟩
theorem atL_wrap {mw n : Int} {L : List Ltr} (h : mw = n - 1 ∨ (mw = 9223372036854775807 ∧ n = -9223372036854775808)) (hl : L.length ≤ 1000) : atL mw L = atL (n - 1) L := by
  rcases h with h | ⟨h1, h2⟩
  · rw [h]
  · subst h1 h2
    unfold atL
    rw [if_pos (by omega), if_neg (by omega)]
    have : (seenOf L).length ≤ L.length := List.length_filter_le _ _
    rw [List.getElem?_eq_none (by omega)]
theorem byte_row (w : World) (ch : UInt8) : (w.alloc (.cells #[.int .u8 (ch.toNat : Int)] 5)).ownsRow 0 5 1 (.slice (some ⟨w.heap.size, 0, none⟩) 1 1) 1 (bytesW [ch]) :=
  ⟨rfl, .inr ⟨w.heap.size, 1, #[.int .u8 (ch.toNat : Int)], rfl, Nat.zero_le _, heap_alloc_new w _, Nat.le_refl _, by simp only [maxLen]; omega, rfl, rfl⟩⟩
set_option maxRecDepth 100000 in
set_option maxHeartbeats 8000000 in
theorem write_any {B : Nat} {ad : Nat → Addr} (w : World) (c : Nat → Nat) (br : Nat) (T : Int) (i : Nat) (ao : Nat → Option Addr) (cap : Nat → Nat) (bt bx bc : Nat) (R : Rws) (A : List OpX) (nd n : Int) (ch : UInt8) (hc : RepCell w br T (i : Int) (kvs ao cap R) bt bx bc) (hrows : RowsAt w c (kvs ao cap R) R) (htext : TextC w c bx A) (hperm : A.Perm (allR R)) (hR : RowsK R) (hE : EnvE B ad w) (hi : i < 4) (hT : 0 ≤ T) (hm : T < 1073741824) (hn : (allR R).length ≤ 140) (h2 : -9223372036854775808 ≤ nd) (h3 : nd ≤ 9223372036854775807) (hn1 : -9223372036854775808 ≤ n) (hn2 : n ≤ 9223372036854775807) :
    Calls Tryz.prog 60 #[.pointer (some ⟨br, 0, none⟩), .int .i64 nd, .int .i64 n, .int .u8 (ch.toNat : Int)] w fun e w' => ∃ a, WriteAt A nd n a ∧ MadeOut ad w (a.2 = true) (ownX T i (R i).length 105 nd a.1 ⟨#[]⟩ ⟨#[ch]⟩) e w' := by
  have hrl : ∀ i, i < 4 → (R i).length ≤ 1000 := fun i hi => by have := row_le R hi; omega
  have hAl : A.length ≤ 140 := by have := hperm.length_eq; omega
  obtain ⟨S, hS⟩ : ∃ S, S = w.heap.size := ⟨_, rfl⟩
  obtain ⟨U, hU⟩ : ∃ U, U = w.alloc (.cells #[.int .i64 0, .int .i64 0, .int .i64 0, .int .u8 0, .int .i64 0, .int .i64 0, .string ⟨#[]⟩, .string ⟨#[]⟩] 31) := ⟨_, rfl⟩
  have hbU : Below w.heap.size w U := by rw [hU]; exact (Below.refl _ w).alloc (Nat.le_refl _) _
  have Z0 : OpBlk U S zeroO := by rw [hU, hS]; exact OpBlk.new w zeroO
  have hcU : RepCell U br T (i : Int) (kvs ao cap R) bt bx bc := hc.same (hbU.block _ hc.lt)
  obtain ⟨zb, hzb⟩ : ∃ zb : Bool, zb = true ↔ KnownN (allR R) nd := ⟨@decide _ (Classical.propDecidable _), @decide_eq_true_iff _ (Classical.propDecidable _)⟩
  have hnode := isNode_any U ao cap R nd zb hzb ((hE.later hbU).op4) ((KnownAt.of_rows hrows).later hbU) hR.toN hrl h2 h3
  unfold kV at hnode
  have k2 : U.cell? ⟨br, 2, none⟩ = some (.slice (ao 0) (R 0).length (cap 0)) := hcU.c2
  have k3 : U.cell? ⟨br, 3, none⟩ = some (.slice (ao 1) (R 1).length (cap 1)) := hcU.c3
  have k4 : U.cell? ⟨br, 4, none⟩ = some (.slice (ao 2) (R 2).length (cap 2)) := hcU.c4
  have k5 : U.cell? ⟨br, 5, none⟩ = some (.slice (ao 3) (R 3).length (cap 3)) := hcU.c5
  have htU : TextC U c bx A := htext.kept ⟨fun k hk _ => hbU.block k hk, fun _ _ => rfl⟩ (fun _ _ => ⟨fun k hk _ => hbU.block k hk, fun _ _ => rfl⟩)
  have H0 : Aside (RepCell U br T (i : Int) (kvs ao cap R) bt bx bc ∧ OpBlk U S zeroO ∧ Below w.heap.size w U ∧ S = w.heap.size ∧ EnvE B ad U ∧ B ≤ w.heap.size ∧ (zb = true ↔ KnownN A nd) ∧ TextC U c bx A) := ⟨hcU, Z0, hbU, hS, hE.later hbU, hE.size, hzb.trans (knownN_perm hperm nd).symm, htU⟩
  have HU : Aside (U = w.alloc (.cells #[.int .i64 0, .int .i64 0, .int .i64 0, .int .u8 0, .int .i64 0, .int .i64 0, .string ⟨#[]⟩, .string ⟨#[]⟩] 31)) := hU
  clear hU hcU Z0 hbU hE hc hS hzb hrows hR htext htU
  go_enter Tryz.func60, Tryz.ntmps60
  go_upto_region 1 with fail
  rw [← HU.out, ← H0.out.2.2.2.1]
  go_wp2_with fail
  refine hnode.mono ?_
  clear hnode k2 k3 k4 k5
  rintro e w1 ⟨rfl, hb1⟩
  have Z1 := H0.out.2.1.later hb1
  have H1 : Aside (OpBlk w1 S zeroO ∧ Below w.heap.size w w1 ∧ EnvE B ad w1 ∧ RepCell w1 br T (i : Int) (kvs ao cap R) bt bx bc ∧ TextC w1 c bx A) := ⟨Z1, H0.out.2.2.1.trans (hb1.mono H0.out.2.2.1.size), H0.out.2.2.2.2.1.later hb1, H0.out.1.same (hb1.block _ H0.out.1.lt), H0.out.2.2.2.2.2.2.2.kept ⟨fun k hk _ => hb1.block k hk, fun _ _ => rfl⟩ (fun _ _ => ⟨fun k hk _ => hb1.block k hk, fun _ _ => rfl⟩)⟩
  clear hb1 Z1
  obtain ⟨mw, hmw⟩ : ∃ mw, mw = IntKind.i64.wrap (n - 1) := ⟨_, rfl⟩
  have hmb : -9223372036854775808 ≤ mw ∧ mw ≤ 9223372036854775807 ∧ (mw = n - 1 ∨ (mw = 9223372036854775807 ∧ n = -9223372036854775808)) := by rw [hmw, IntKind.wrap_i64]; omega
  have wrapn : IntKind.i64.wrap (n - 1) = mw := hmw.symm
  have HMB : Aside (mw = n - 1 ∨ (mw = 9223372036854775807 ∧ n = -9223372036854775808)) := hmb.2.2
  clear hmw
  by_cases hn0 : n = 0
  · subst hn0
    clear hmb HMB wrapn
    have HX : Aside (OpBlk w1 S zeroO ∧ Below w.heap.size w w1 ∧ EnvE B ad w1 ∧ RepCell w1 br T (i : Int) (kvs ao cap R) bt bx bc) := ⟨H1.out.1, H1.out.2.1, H1.out.2.2.1, H1.out.2.2.2.1⟩
    have HA : Aside (WriteAt A nd 0 (0, zb)) := .inl ⟨rfl, rfl, H0.out.2.2.2.2.2.2.1⟩
    cases zb with
    | false =>
      obtain ⟨z0, z1, z2, z3, z4, z5, z6, z7, zf⟩ := HX.out.1.cells
      unfold zeroO at z0 z1 z2 z3 z4 z5 z6 z7
      dsimp only at z0 z1 z2 z3 z4 z5 z6 z7
      have eg := HX.out.2.2.1.c5
      have hlo := HX.out.2.2.1.low
      have hSw := H0.out.2.2.2.1
      have hBw := H0.out.2.2.2.2.2.1
      have n1 : 0 ≠ S := by omega
      have n2 : S ≠ 0 := by omega
      clear hlo hSw hBw
      go_wp2_with fail
      go_region
      all_goals
        go_wp2
        (try simp only [Exit.inBlock, Exit.then])
        refine bodyPost_ret (v := .tuple #[encO zeroO, eV ad 6]) ?_ rfl ⟨_, HA.out, .inr ⟨by simp, rfl, ?_⟩⟩
        · rw [results_ct rfl]
          unfold encO zeroO eV
          go_simp
        · exact (below_cells (b := S) HX.out.2.1 (by have := H0.out.2.2.2.1; omega) 0 [.int .i64 0, .int .i64 0, .int .i64 0, .int .u8 0, .int .i64 0, .int .i64 0, .string ⟨#[]⟩, .string ⟨#[]⟩]).drew
    | true =>
      have hbB : Below w1.heap.size w1 (w1.alloc (.cells #[.int .u8 (ch.toNat : Int)] 5)) := (Below.refl _ w1).alloc (Nat.le_refl _) _
      have hconv := conv_row (byte_row w1 ch) rfl
      have hown := own_any (w1.alloc (.cells #[.int .u8 (ch.toNat : Int)] 5)) br T i ao cap bt bx bc R 105 nd 0 ⟨#[]⟩ ⟨#[ch]⟩ (HX.out.2.2.2.same (hbB.block _ HX.out.2.2.2.lt)) (HX.out.2.2.1.later hbB) hi hT hm hn (by decide) (by show (1 : Nat) ≤ 1000000; omega)
      have HB : Aside (Below w.heap.size w (w1.alloc (.cells #[.int .u8 (ch.toNat : Int)] 5)) ∧ OpBlk (w1.alloc (.cells #[.int .u8 (ch.toNat : Int)] 5)) S zeroO) := ⟨HX.out.2.1.trans (hbB.mono HX.out.2.1.size), HX.out.1.later hbB⟩
      unfold encO at hown
      dsimp only at hown
      clear hbB
      go_wp2_with fail
      refine hown.mono ?_
      clear hown hconv
      rintro e w3 ⟨he, hb3⟩
      obtain ⟨y, hy⟩ : ∃ y, y = (if errO (ownX T i (R i).length 105 nd 0 ⟨#[]⟩ ⟨#[ch]⟩) = 0 then ownX T i (R i).length 105 nd 0 ⟨#[]⟩ ⟨#[ch]⟩ else zeroO) := ⟨_, rfl⟩
      obtain ⟨er, her⟩ : ∃ er, er = eV ad (errO (ownX T i (R i).length 105 nd 0 ⟨#[]⟩ ⟨#[ch]⟩)) := ⟨_, rfl⟩
      rw [← hy, ← her] at he
      subst he
      have HY : Aside (y = (if errO (ownX T i (R i).length 105 nd 0 ⟨#[]⟩ ⟨#[ch]⟩) = 0 then ownX T i (R i).length 105 nd 0 ⟨#[]⟩ ⟨#[ch]⟩ else zeroO) ∧ er = eV ad (errO (ownX T i (R i).length 105 nd 0 ⟨#[]⟩ ⟨#[ch]⟩))) := ⟨hy, her⟩
      clear hy her
      obtain ⟨t, b, m, kd, nd', o, s, v⟩ := y
      unfold encO
      dsimp only
      have Z2 := HB.out.2.later hb3
      obtain ⟨z0, z1, z2, z3, z4, z5, z6, z7, zf⟩ := Z2.cells
      unfold zeroO at z0 z1 z2 z3 z4 z5 z6 z7
      dsimp only at z0 z1 z2 z3 z4 z5 z6 z7
      have B2 : Aside (Below w.heap.size w w3) := HB.out.1.trans (hb3.mono HB.out.1.size)
      clear hb3 Z2
      go_wp2
      (try simp only [Exit.inBlock, Exit.then])
      refine bodyPost_ret (v := .tuple #[.agg #[.int .i64 t, .int .i64 b, .int .i64 m, .int .u8 (kd : Int), .int .i64 nd', .int .i64 o, .string s, .string v], er]) ?_ rfl ⟨_, HA.out, .inl ⟨rfl, ⟨by rw [← HY.out.1, ← HY.out.2]; rfl, ?_⟩⟩⟩
      · rw [results_ct rfl]
        go_simp
      · exact below_cells (b := S) B2.out (by have := H0.out.2.2.2.1; omega) 0 [.int .i64 t, .int .i64 b, .int .i64 m, .int .u8 (kd : Int), .int .i64 nd', .int .i64 o, .string s, .string v]
  · have dn0 : (n != 0) = true := by simp [hn0]
    have hlet := letter_any w1 c br T (i : Int) (kvs ao cap R) bt bx bc A nd mw H1.out.2.2.2.1 H1.out.2.2.2.2 (by omega) (by omega) (by omega) ⟨hmb.1, hmb.2.1⟩
    have HN0 := Lib.hid hn0
    clear hn0 hmb
    go_wp2_with fail
    refine hlet.mono ?_
    clear hlet
    rintro e w2 ⟨⟨bh, zz⟩, rfl, ha1, ha2, hb2⟩
    have HX : Aside (OpBlk w2 S zeroO ∧ Below w.heap.size w w2 ∧ EnvE B ad w2 ∧ RepCell w2 br T (i : Int) (kvs ao cap R) bt bx bc) := ⟨H1.out.1.later hb2, H1.out.2.1.trans (hb2.mono H1.out.2.1.size), H1.out.2.2.1.later hb2, H1.out.2.2.2.1.same (hb2.block _ H1.out.2.2.2.1.lt)⟩
    have HA : Aside (WriteAt A nd n (bh, zz)) := .inr ⟨HN0.out, ha1, fun q => by obtain ⟨L, hL, e⟩ := ha2 q; exact ⟨L, hL, e.trans (atL_wrap HMB.out (by have := hL.len; omega))⟩⟩
    clear hb2 ha1 ha2
    dsimp only
    cases zz with
    | false =>
      obtain ⟨z0, z1, z2, z3, z4, z5, z6, z7, zf⟩ := HX.out.1.cells
      unfold zeroO at z0 z1 z2 z3 z4 z5 z6 z7
      dsimp only at z0 z1 z2 z3 z4 z5 z6 z7
      have eg := HX.out.2.2.1.c5
      have hlo := HX.out.2.2.1.low
      have hSw := H0.out.2.2.2.1
      have hBw := H0.out.2.2.2.2.2.1
      have n1 : 0 ≠ S := by omega
      have n2 : S ≠ 0 := by omega
      clear hlo hSw hBw
      go_wp2_with fail
      go_region
      all_goals
        go_wp2
        (try simp only [Exit.inBlock, Exit.then])
        refine bodyPost_ret (v := .tuple #[encO zeroO, eV ad 6]) ?_ rfl ⟨_, HA.out, .inr ⟨by simp, rfl, ?_⟩⟩
        · rw [results_ct rfl]
          unfold encO zeroO eV
          go_simp
        · exact (below_cells (b := S) HX.out.2.1 (by have := H0.out.2.2.2.1; omega) 0 [.int .i64 0, .int .i64 0, .int .i64 0, .int .u8 0, .int .i64 0, .int .i64 0, .string ⟨#[]⟩, .string ⟨#[]⟩]).drew
    | true =>
      have hbB : Below w2.heap.size w2 (w2.alloc (.cells #[.int .u8 (ch.toNat : Int)] 5)) := (Below.refl _ w2).alloc (Nat.le_refl _) _
      have hconv := conv_row (byte_row w2 ch) rfl
      have hown := own_any (w2.alloc (.cells #[.int .u8 (ch.toNat : Int)] 5)) br T i ao cap bt bx bc R 105 nd bh ⟨#[]⟩ ⟨#[ch]⟩ (HX.out.2.2.2.same (hbB.block _ HX.out.2.2.2.lt)) (HX.out.2.2.1.later hbB) hi hT hm hn (by decide) (by show (1 : Nat) ≤ 1000000; omega)
      have HB : Aside (Below w.heap.size w (w2.alloc (.cells #[.int .u8 (ch.toNat : Int)] 5)) ∧ OpBlk (w2.alloc (.cells #[.int .u8 (ch.toNat : Int)] 5)) S zeroO) := ⟨HX.out.2.1.trans (hbB.mono HX.out.2.1.size), HX.out.1.later hbB⟩
      unfold encO at hown
      dsimp only at hown
      clear hbB
      go_wp2_with fail
      refine hown.mono ?_
      clear hown hconv
      rintro e w3 ⟨he, hb3⟩
      obtain ⟨y, hy⟩ : ∃ y, y = (if errO (ownX T i (R i).length 105 nd bh ⟨#[]⟩ ⟨#[ch]⟩) = 0 then ownX T i (R i).length 105 nd bh ⟨#[]⟩ ⟨#[ch]⟩ else zeroO) := ⟨_, rfl⟩
      obtain ⟨er, her⟩ : ∃ er, er = eV ad (errO (ownX T i (R i).length 105 nd bh ⟨#[]⟩ ⟨#[ch]⟩)) := ⟨_, rfl⟩
      rw [← hy, ← her] at he
      subst he
      have HY : Aside (y = (if errO (ownX T i (R i).length 105 nd bh ⟨#[]⟩ ⟨#[ch]⟩) = 0 then ownX T i (R i).length 105 nd bh ⟨#[]⟩ ⟨#[ch]⟩ else zeroO) ∧ er = eV ad (errO (ownX T i (R i).length 105 nd bh ⟨#[]⟩ ⟨#[ch]⟩))) := ⟨hy, her⟩
      clear hy her
      obtain ⟨t, b, m, kd, nd', o, s, v⟩ := y
      unfold encO
      dsimp only
      have Z2 := HB.out.2.later hb3
      obtain ⟨z0, z1, z2, z3, z4, z5, z6, z7, zf⟩ := Z2.cells
      unfold zeroO at z0 z1 z2 z3 z4 z5 z6 z7
      dsimp only at z0 z1 z2 z3 z4 z5 z6 z7
      have B2 : Aside (Below w.heap.size w w3) := HB.out.1.trans (hb3.mono HB.out.1.size)
      clear hb3 Z2
      go_wp2
      (try simp only [Exit.inBlock, Exit.then])
      refine bodyPost_ret (v := .tuple #[.agg #[.int .i64 t, .int .i64 b, .int .i64 m, .int .u8 (kd : Int), .int .i64 nd', .int .i64 o, .string s, .string v], er]) ?_ rfl ⟨_, HA.out, .inl ⟨rfl, ⟨by rw [← HY.out.1, ← HY.out.2]; rfl, ?_⟩⟩⟩
      · rw [results_ct rfl]
        go_simp
      · exact below_cells (b := S) B2.out (by have := H0.out.2.2.2.1; omega) 0 [.int .i64 t, .int .i64 b, .int .i64 m, .int .u8 (kd : Int), .int .i64 nd', .int .i64 o, .string s, .string v]
end Go.Proofs.YtcggmagdndhkbaaGreatDoor
end
section
set_option linter.unusedVariables false
set_option linter.unusedSimpArgs false
namespace Go.Proofs.YtcggmagdndhkbaaGreatDoor
open Go.RowKit Go.Lib Go.Sort Go.Maps
set_option maxRecDepth 100000 in
set_option maxHeartbeats 2000000 in
theorem growOps_any (n : Nat) (w : World) (hn : n ≤ 1000) : Calls Tryz.prog 192 #[.slice none 0 0, .int .i64 (n : Int)] w fun e w' => ∃ v, e = .returned v ∧ w'.ownsRow w.heap.size 31 8 v 0 [] ∧ Below w.heap.size w w' := by
  by_cases h0 : n = 0
  · subst h0
    go_enter Tryz.func192, Tryz.ntmps192
    go_wp2
    go_ret
    exact ⟨_, rfl, World.ownsRow_nil _ _ _ _, Below.refl _ w⟩
  · have d0 : decide ((n : Int) < 0) = false := by simp
    have d1 : decide ((0 : Int) < (n : Int)) = true := by simp; omega
    have d1' : decide (0 < n) = true := by simp; omega
    have e1 : ((n : Int) - 0) = (n : Int) := by omega
    obtain ⟨i0, hi, hz0, hz1, hz2⟩ := info_parts infoOp
    have hrun := fun ty => Lib.run_append_nil_zeros (P := Tryz.prog) w 36 3 ty 31 i0 _ .i64 .i64 Tryz.underlying36 Tryz.underlying3 hi hz0 n (by omega) (by omega) (by omega) (by rw [hz2]; omega)
    obtain ⟨cp, hcp⟩ : ∃ cp, cp = grownCap w n 0 31 := ⟨_, rfl⟩
    rw [← hcp] at hrun
    have hge : n ≤ cp := by rw [hcp]; exact grownCap_ge w n 0 _
    have hle : cp ≤ maxLen := by rw [hcp]; exact grownCap_le_maxLen w n 0 _ (by simp only [maxLen]; omega)
    have HC : Aside (cp = grownCap w n 0 31 ∧ n ≤ cp ∧ cp ≤ maxLen) := ⟨hcp, hge, hle⟩
    have hc63 : (cp : Int) ≤ 9223372036854775807 := by simp only [maxLen] at hle; omega
    clear hcp hge hle
    go_enter Tryz.func192, Tryz.ntmps192
    go_wp2_with (at_builtin; refine Lib.wpList_append_run _ rfl _ _ _ _ rfl _ _ rfl rfl _ _ (hrun _) ?_)
    go_ret
    refine ⟨_, rfl, ⟨rfl, .inr ⟨w.heap.size, cp, _, rfl, Nat.le_refl _, heap_alloc_new w _, Nat.zero_le _, HC.out.2.2, ?_, ?_⟩⟩, ((Below.refl _ w).alloc (Nat.le_refl _) _).drew⟩
    · have := HC.out.2.1
      simp [size_zeroCells]
      omega
    · simp
theorem opsRow {w : World} {ao : Option Addr} {xs : List OpX} (h : OpsIn w ao xs) : InRow encX w ao xs := h
set_option maxRecDepth 100000 in
set_option maxHeartbeats 8000000 in
theorem concat_any (w : World) (Bk : Nat) (ao : Nat → Option Addr) (cap : Nat → Nat) (R : Rws) (hk : KBox w Bk ao cap R) (hK : KnownAt w ao R) (hnil : ∀ i, i < 4 → ao i = none → cap i = 0) (hn : (allR R).length ≤ 1000) :
    Calls Tryz.prog 128 #[.slice (some ⟨Bk, 0, none⟩) 4 4] w fun e w' => ∃ v, e = .returned v ∧ w'.ownsRow w.heap.size 31 8 v (allR R).length (cellsOf (allR R)) ∧ Below w.heap.size w w' := by
  have hl0 := row_le R (i := 0) (by omega)
  have hl1 := row_le R (i := 1) (by omega)
  have hl2 := row_le R (i := 2) (by omega)
  have hl3 := row_le R (i := 3) (by omega)
  have c0 := hk.at (i := 0) (by omega)
  have c1 := hk.at (i := 1) (by omega)
  have c2 := hk.at (i := 2) (by omega)
  have c3 := hk.at (i := 3) (by omega)
  have hsum : (allR R).length = (R 0).length + (R 1).length + (R 2).length + (R 3).length := by unfold allR; simp; omega
  have hgr := growOps_any ((R 0).length + (R 1).length + (R 2).length + (R 3).length) w (by omega)
  have HK : Aside (KnownAt w ao R ∧ ∀ i, i < 4 → ao i = none → cap i = 0) := ⟨hK, hnil⟩
  have HS : Aside ((allR R).length = (R 0).length + (R 1).length + (R 2).length + (R 3).length) := hsum
  have g0 : (((R 0).length + (R 1).length + (R 2).length + (R 3).length : Nat) : Int) = (R 0).length + (R 1).length + (R 2).length + (R 3).length := by omega
  rw [g0] at hgr
  have hT : (R 0).length + (R 1).length + (R 2).length + (R 3).length ≤ 1000 := by omega
  have n1 : decide (((R 0).length : Int) < 0) = false := by simp
  have n2 : decide (((R 0).length : Int) + (R 1).length < 0) = false := by simp; omega
  have n3 : decide (((R 0).length : Int) + (R 1).length + (R 2).length < 0) = false := by simp; omega
  have n4 : decide (((R 0).length : Int) + (R 1).length + (R 2).length + (R 3).length < 0) = false := by simp; omega
  clear hk hK hnil hsum g0
  go_enter Tryz.func128, Tryz.ntmps128
  go_wp2
  refine wp_loop_rounds 5 ?_
  iterate 4
    rw [rounds_succ]
    go_wp2
  rw [rounds_succ]
  go_wp2_with fail
  refine hgr.mono ?_
  clear hgr
  rintro e w0 ⟨v0, rfl, hown0, hb0⟩
  have HB0 : Aside (Below w.heap.size w w0) := hb0
  have hown0 : w0.ownsRow w.heap.size 31 8 v0 0 [] := hown0
  obtain ⟨x0, y0, rfl⟩ := rowIs hown0
  clear hb0
  go_wp2
  refine wp_loop_rounds 5 ?_
  rw [rounds_succ]
  obtain ⟨v1, w1, hrun, hown1, hgrow⟩ := append_row (enc := encX) (k := 8) (S := 36) (T := 31) Tryz.underlying36 infoOp (by omega) (by omega) rfl encX_len encX_one hown0 (by omega) HB0.out.size (ao 0) (cap 0) (R 0) (by omega) (opsRow (HK.out.1.later HB0.out 0 (by omega))) (HK.out.2 0 (by omega)) 36
  have HB1 : Aside (Below w.heap.size w w1) := HB0.out.grown hgrow HB0.out.size (fun g hg => (hown0.lt g hg).1)
  have f0 := cell_later HB0.out c0
  have f1 := cell_later HB0.out c1
  have f2 := cell_later HB0.out c2
  have f3 := cell_later HB0.out c3
  rw [Nat.zero_add] at hown1
  obtain ⟨x1, y1, rfl⟩ := rowIs hown1
  go_wp2_with (at_builtin; refine Lib.wpList_append_run _ rfl _ _ _ _ rfl _ _ rfl rfl _ _ hrun ?_)
  clear hrun hgrow f0 f1 f2 f3
  rw [rounds_succ]
  obtain ⟨v2, w2, hrun, hown2, hgrow⟩ := append_row (enc := encX) (k := 8) (S := 36) (T := 31) Tryz.underlying36 infoOp (by omega) (by omega) rfl encX_len encX_one hown1 (by omega) HB1.out.size (ao 1) (cap 1) (R 1) (by omega) (opsRow (HK.out.1.later HB1.out 1 (by omega))) (HK.out.2 1 (by omega)) 36
  have HB2 : Aside (Below w.heap.size w w2) := HB1.out.grown hgrow HB1.out.size (fun g hg => (hown1.lt g hg).1)
  have f0 := cell_later HB1.out c0
  have f1 := cell_later HB1.out c1
  have f2 := cell_later HB1.out c2
  have f3 := cell_later HB1.out c3
  obtain ⟨x2, y2, rfl⟩ := rowIs hown2
  go_wp2_with (at_builtin; refine Lib.wpList_append_run _ rfl _ _ _ _ rfl _ _ rfl rfl _ _ hrun ?_)
  clear hrun hgrow f0 f1 f2 f3
  rw [rounds_succ]
  obtain ⟨v3, w3, hrun, hown3, hgrow⟩ := append_row (enc := encX) (k := 8) (S := 36) (T := 31) Tryz.underlying36 infoOp (by omega) (by omega) rfl encX_len encX_one hown2 (by omega) HB2.out.size (ao 2) (cap 2) (R 2) (by omega) (opsRow (HK.out.1.later HB2.out 2 (by omega))) (HK.out.2 2 (by omega)) 36
  have HB3 : Aside (Below w.heap.size w w3) := HB2.out.grown hgrow HB2.out.size (fun g hg => (hown2.lt g hg).1)
  have f0 := cell_later HB2.out c0
  have f1 := cell_later HB2.out c1
  have f2 := cell_later HB2.out c2
  have f3 := cell_later HB2.out c3
  obtain ⟨x3, y3, rfl⟩ := rowIs hown3
  go_wp2_with (at_builtin; refine Lib.wpList_append_run _ rfl _ _ _ _ rfl _ _ rfl rfl _ _ hrun ?_)
  clear hrun hgrow f0 f1 f2 f3
  rw [rounds_succ]
  obtain ⟨v4, w4, hrun, hown4, hgrow⟩ := append_row (enc := encX) (k := 8) (S := 36) (T := 31) Tryz.underlying36 infoOp (by omega) (by omega) rfl encX_len encX_one hown3 (by omega) HB3.out.size (ao 3) (cap 3) (R 3) (by omega) (opsRow (HK.out.1.later HB3.out 3 (by omega))) (HK.out.2 3 (by omega)) 36
  have HB4 : Aside (Below w.heap.size w w4) := HB3.out.grown hgrow HB3.out.size (fun g hg => (hown3.lt g hg).1)
  have f0 := cell_later HB3.out c0
  have f1 := cell_later HB3.out c1
  have f2 := cell_later HB3.out c2
  have f3 := cell_later HB3.out c3
  obtain ⟨x4, y4, rfl⟩ := rowIs hown4
  go_wp2_with (at_builtin; refine Lib.wpList_append_run _ rfl _ _ _ _ rfl _ _ rfl rfl _ _ hrun ?_)
  clear hrun hgrow f0 f1 f2 f3
  rw [rounds_succ]
  go_wp2
  go_ret
  refine ⟨_, rfl, ?_, HB4.out⟩
  rw [HS.out]
  rw [show cellsOf (allR R) = [] ++ cellsOf (R 0) ++ cellsOf (R 1) ++ cellsOf (R 2) ++ cellsOf (R 3) by unfold allR; simp [cellsOf_app]]
  exact hown4
end Go.Proofs.YtcggmagdndhkbaaGreatDoor
end
section
set_option linter.unusedVariables false
set_option linter.unusedSimpArgs false
namespace Go.Proofs.YtcggmagdndhkbaaGreatDoor
open Go.RowKit Go.Lib Go.Sort Go.Maps
def AllOut (w : World) (R : Rws) (e : Ending) (w' : World) : Prop := ∃ v ys, e = .returned v ∧ OpsAt w' v ys ∧ StableOf (allR R) ys ∧ Below w.heap.size w w' ∧ ∀ g, v.ownBlock = some g → w.heap.size ≤ g
set_option maxRecDepth 100000 in
set_option maxHeartbeats 2000000 in
theorem kall_any (w : World) (ao : Nat → Option Addr) (cap : Nat → Nat) (R : Rws) (hK : KnownAt w ao R) (hnil : ∀ i, i < 4 → ao i = none → cap i = 0) (hn : (allR R).length ≤ 1000) :
    Calls Tryz.prog 61 #[kV ao cap R] w (AllOut w R) := by
  obtain ⟨W, hW⟩ : ∃ W, W = w.alloc (.cells #[.slice (ao 0) (R 0).length (cap 0), .slice (ao 1) (R 1).length (cap 1), .slice (ao 2) (R 2).length (cap 2), .slice (ao 3) (R 3).length (cap 3)] 79 (0, 0)) := ⟨_, rfl⟩
  have hb : Below w.heap.size w W := by rw [hW]; exact (Below.refl _ w).alloc (Nat.le_refl _) _
  have hbox : KBox W w.heap.size ao cap R := by rw [hW]; exact heap_alloc_new w _
  have hcat := concat_any W w.heap.size ao cap R hbox (hK.later hb) hnil hn
  have H : Aside (W = w.alloc (.cells #[.slice (ao 0) (R 0).length (cap 0), .slice (ao 1) (R 1).length (cap 1), .slice (ao 2) (R 2).length (cap 2), .slice (ao 3) (R 3).length (cap 3)] 79 (0, 0)) ∧ Below w.heap.size w W ∧ (allR R).length ≤ 1000) := ⟨hW, hb, hn⟩
  clear hW hb hbox hK hnil hn
  unfold kV
  go_enter Tryz.func61, Tryz.ntmps61
  go_wp2_with fail
  rw [← H.out.1]
  refine hcat.mono ?_
  clear hcat
  rintro e w1 ⟨v1, rfl, ho1, hb1⟩
  have hs := opSort_new w1 v1 (allR R) (ownsOps ho1) H.out.2.2
  have H1 : Aside (Below w.heap.size w w1) := H.out.2.1.trans (hb1.mono H.out.2.1.size)
  clear ho1 hb1 H
  go_wp2_with fail
  refine hs.mono ?_
  clear hs
  rintro e w2 ⟨v2, ys, rfl, h1, h2, h3, h4⟩
  have H2 : Aside (OpsAt w2 v2 ys ∧ StableOf (allR R) ys ∧ Below w.heap.size w w2 ∧ ∀ g, v2.ownBlock = some g → w.heap.size ≤ g) := ⟨h1, h2, H1.out.trans (h3.mono H1.out.size), fun g hg => Nat.le_trans H1.out.size (h4 g hg)⟩
  clear h1 h2 h3 h4 H1
  go_wp2
  go_ret
  exact ⟨_, _, rfl, H2.out⟩
theorem rows_nil {w : World} {c : Nat → Nat} {ao : Nat → Option Addr} {cap : Nat → Nat} {R : Rws} (h : RowsAt w c (kvs ao cap R) R) : ∀ i, i < 4 → ao i = none → cap i = 0 := fun i hi e => by
  obtain ⟨-, h2⟩ := (h i hi).1
  unfold kvs at h2
  rcases h2 with q | ⟨b, cp, _, q, _⟩
  · have := q.1
    simp only [Value.slice.injEq] at this
    exact this.2.2
  · simp only [Value.slice.injEq] at q
    rw [q.1] at e
    cases e
set_option maxRecDepth 100000 in
set_option maxHeartbeats 2000000 in
theorem rops_any (w : World) (c : Nat → Nat) (br : Nat) (by_ : Int) (R : Rws) (h : RepAt w c br by_ R) (hn : (allR R).length ≤ 1000) :
    Calls Tryz.prog 13 #[.pointer (some ⟨br, 0, none⟩)] w (AllOut w R) := by
  obtain ⟨T, kv, bt, bx, bc, A, hm, hp, hK, hb⟩ := h
  obtain ⟨ao, cap, hM⟩ := hm.norm
  have hall := kall_any w ao cap R (KnownAt.of_rows hM.rows) (rows_nil hM.rows) hn
  unfold kV at hall
  have k2 : w.cell? ⟨br, 2, none⟩ = some (.slice (ao 0) (R 0).length (cap 0)) := hM.cell.c2
  have k3 : w.cell? ⟨br, 3, none⟩ = some (.slice (ao 1) (R 1).length (cap 1)) := hM.cell.c3
  have k4 : w.cell? ⟨br, 4, none⟩ = some (.slice (ao 2) (R 2).length (cap 2)) := hM.cell.c4
  have k5 : w.cell? ⟨br, 5, none⟩ = some (.slice (ao 3) (R 3).length (cap 3)) := hM.cell.c5
  clear hm hM hp hK hb hn
  go_enter Tryz.func13, Tryz.ntmps13
  go_wp2_with fail
  refine hall.mono ?_
  clear hall
  rintro e w2 ⟨v2, ys, rfl, h2⟩
  have H2 : Aside (OpsAt w2 v2 ys ∧ StableOf (allR R) ys ∧ Below w.heap.size w w2 ∧ ∀ g, v2.ownBlock = some g → w.heap.size ≤ g) := h2
  clear h2
  go_wp2
  go_ret
  exact ⟨_, _, rfl, H2.out⟩
end Go.Proofs.YtcggmagdndhkbaaGreatDoor
end
section
set_option linter.unusedVariables false
set_option linter.unusedSimpArgs false
namespace Go.Proofs.YtcggmagdndhkbaaGreatDoor
open Go.RowKit
theorem world_at (W : World) {b : Nat} (hb : b ≤ W.heap.size) : ∃ w0 : World, w0.heap.size = b := ⟨{ W with heap := W.heap.extract 0 b }, by simp; omega⟩
theorem tmap_new {W : World} {b : Nat} (h : W.heap[b]? = some (.map #[] 0)) : TMapAt W b 0 noT := by
  obtain ⟨w0, rfl⟩ := world_at W (Nat.le_of_lt (Array.getElem?_eq_some_iff.1 h).1)
  exact (tmapAt_made w0).same (h.trans (heap_alloc_new w0 _).symm)
theorem cmap_new {W : World} {b : Nat} (h : W.heap[b]? = some (.map #[] 0)) : CMapAt W b 0 noC := by
  obtain ⟨w0, rfl⟩ := world_at W (Nat.le_of_lt (Array.getElem?_eq_some_iff.1 h).1)
  exact (cmapAt_made w0).same (h.trans (heap_alloc_new w0 _).symm)
theorem map_new {W : World} {b : Nat} (h : W.heap[b]? = some (.map #[] 0)) : MapAt Tryz.prog 3 W b 0 noSta := by
  obtain ⟨w0, rfl⟩ := world_at W (Nat.le_of_lt (Array.getElem?_eq_some_iff.1 h).1)
  exact (mapAt_made w0).same (h.trans (heap_alloc_new w0 _).symm)
def newHue (bt bm bx bc cm br : Nat) : Nat → Nat := fun k => if k = br then 1 else if k = bt ∨ k = bm then 2 else if k = bx then 3 else if k = bc ∨ k = cm then 4 else 0
def NewOut (w : World) (by_ : Int) (e : Ending) (w' : World) : Prop := ∃ c br, e = .returned (.tuple #[.pointer (some ⟨br, 0, none⟩), .nilIface]) ∧ RepOwn w.heap.size w' c br by_ (fun _ => []) ∧ Below w.heap.size w w'
theorem new_close {w W : World} {b : Int} (h0 : 0 ≤ b) (h4 : b < 4) (bt bm bx bc cm br : Nat) (hb : Below w.heap.size w W)
    (l1 : w.heap.size ≤ bt) (l2 : w.heap.size ≤ bm) (l3 : w.heap.size ≤ bx) (l4 : w.heap.size ≤ bc) (l5 : w.heap.size ≤ cm) (l6 : w.heap.size ≤ br)
    (d1 : bt ≠ br) (d2 : bm ≠ br) (d3 : bx ≠ br ∧ bx ≠ bt ∧ bx ≠ bm) (d4 : bc ≠ br ∧ bc ≠ bt ∧ bc ≠ bm ∧ bc ≠ bx) (d5 : cm ≠ br ∧ cm ≠ bt ∧ cm ≠ bm ∧ cm ≠ bx)
    (e1 : W.heap[bt]? = some (.cells #[.map (some bm), .slice none 0 0] 185 (0, 0))) (e2 : W.heap[bm]? = some (.map #[] 0)) (e3 : W.heap[bx]? = some (.map #[] 0))
    (e4 : W.heap[bc]? = some (.cells #[.map (some cm)] 188 (0, 0))) (e5 : W.heap[cm]? = some (.map #[] 0))
    (e6 : W.heap[br]? = some (.cells #[.int .i64 0, .int .i64 b, .slice none 0 0, .slice none 0 0, .slice none 0 0, .slice none 0 0, .pointer (some ⟨bt, 0, none⟩), .map (some bx), .pointer (some ⟨bc, 0, none⟩)] 84 (0, 0))) :
    NewOut w b (.returned (.tuple #[.pointer (some ⟨br, 0, none⟩), .nilIface])) W := by
  have hlt : ∀ {k : Nat} {o : Obj}, W.heap[k]? = some o → k < W.heap.size := fun h => (Array.getElem?_eq_some_iff.1 h).1
  have u1 : newHue bt bm bx bc cm br br = 1 := by unfold newHue; simp
  have u2 : newHue bt bm bx bc cm br bt = 2 := by unfold newHue; simp [d1]
  have u3 : newHue bt bm bx bc cm br bm = 2 := by unfold newHue; simp [d2]
  have u4 : newHue bt bm bx bc cm br bx = 3 := by unfold newHue; simp [d3.1, d3.2.1, d3.2.2]
  have u5 : newHue bt bm bx bc cm br bc = 4 := by unfold newHue; simp [d4.1, d4.2.1, d4.2.2.1, d4.2.2.2]
  have u6 : newHue bt bm bx bc cm br cm = 4 := by unfold newHue; simp [d5.1, d5.2.1, d5.2.2.1, d5.2.2.2]
  refine ⟨newHue bt bm bx bc cm br, br, rfl, ⟨⟨0, fun _ => .slice none 0 0, bt, bx, bc, [], ⟨e6, u1, ?_, ?_, ?_, ?_, timeO_nil⟩, by unfold allR; exact List.Perm.refl _, rowsK_nil, h0, h4⟩, fun k hk => ?_, fun k hk => ?_⟩, hb⟩
  · exact fun i hi => ⟨World.ownsRow_nil _ _ _ _, fun g hg => by cases hg⟩
  · refine ⟨bm, .slice none 0 0, [], ⟨e1, ⟨[], logTo_nil, World.ownsRow_nil _ _ _ _⟩, ⟨0, by simp, map_new e2⟩, List.Pairwise.nil, fun m hm => by simp at hm⟩, List.Perm.refl _, u2, u3, fun g hg => by cases hg⟩
  · refine ⟨0, noT, Nat.le_refl _, tmap_new e3, u4, fun nd => ⟨fun h => (by cases h), fun ⟨x, hx, _⟩ => (by cases hx)⟩, fun nd p hp => by cases hp⟩
  · exact ⟨cm, [], ⟨e4, cmap_new e5⟩, List.Perm.refl _, u5, u6⟩
  · by_cases q : k = br ∨ k = bt ∨ k = bm ∨ k = bx ∨ k = bc ∨ k = cm
    · rcases q with rfl | rfl | rfl | rfl | rfl | rfl <;> assumption
    · exact absurd (by unfold newHue; simp only [not_or] at q; simp [q.1, q.2.1, q.2.2.1, q.2.2.2.1, q.2.2.2.2.1, q.2.2.2.2.2]) hk
  · have := hlt e1; have := hlt e2; have := hlt e3; have := hlt e4; have := hlt e5; have := hlt e6
    unfold newHue
    rw [if_neg (by omega), if_neg (by omega), if_neg (by omega), if_neg (by omega)]
end Go.Proofs.YtcggmagdndhkbaaGreatDoor
end
section
set_option linter.unusedVariables false
set_option linter.unusedSimpArgs false
namespace Go.Proofs.YtcggmagdndhkbaaGreatDoor
open Go.RowKit Go.Lib Go.Sort Go.Maps
theorem heap_al (w : World) (o : Obj) : (w.alloc o).heap = w.heap.push o := rfl
theorem heap_dr (w : World) : w.drew.heap = w.heap := rfl
set_option maxRecDepth 100000 in
set_option maxHeartbeats 8000000 in
theorem rnew_ok (w : World) (b : Int) (h0 : 0 ≤ b) (h4 : b < 4) :
    Calls Tryz.prog 9 #[.int .i64 b] w (NewOut w b) := by
  have hmm := @run_makeMap Tryz.prog
  have hc := new_ok b w h0 h4
  go_enter Tryz.func9, Tryz.ntmps9
  go_wp2_with fail
  refine hc.mono ?_
  clear hc
  rintro e w1 ⟨rfl, rfl⟩
  go_upto_region 4 with fail
  go_region_with (first | (go_at_call 50; refine (treeNew _).mono ?_; rintro e w' ⟨rfl, rfl⟩) | (go_at_call 51; refine (cellsNew _).mono ?_; rintro e w' ⟨rfl, rfl⟩))
  all_goals (go_wp2; go_ret2)
  all_goals (first
    | (refine new_close h0 h4 (w.heap.size + 1 + 1) (w.heap.size + 1) (w.heap.size + 1 + 1 + 1 + 1 + 1) (w.heap.size + 1 + 1 + 1 + 1) (w.heap.size + 1 + 1 + 1) (w.heap.size + 1 + 1 + 1 + 1 + 1 + 1) ?_ (by omega) (by omega) (by omega) (by omega) (by omega) (by omega) (by omega) (by omega) (by omega) (by omega) (by omega) ?_ ?_ ?_ ?_ ?_ ?_; all_goals (first | (simp only [heap_al, heap_dr, Array.getElem?_push, Array.size_push]; (try (repeat first | rw [if_pos trivial] | rw [if_neg (by omega)] | rfl)); done) | ((repeat first | exact Below.refl _ _ | refine Below.drew ?_ | refine Below.alloc ?_ (by simp <;> omega) _); done)))
    | (refine new_close h0 h4 (w.heap.size + 1 + 1) (w.heap.size + 1) (w.heap.size + 1 + 1 + 1) (w.heap.size + 1 + 1 + 1 + 1 + 1) (w.heap.size + 1 + 1 + 1 + 1) (w.heap.size + 1 + 1 + 1 + 1 + 1 + 1) ?_ (by omega) (by omega) (by omega) (by omega) (by omega) (by omega) (by omega) (by omega) (by omega) (by omega) (by omega) ?_ ?_ ?_ ?_ ?_ ?_; all_goals (first | (simp only [heap_al, heap_dr, Array.getElem?_push, Array.size_push]; (try (repeat first | rw [if_pos trivial] | rw [if_neg (by omega)] | rfl)); done) | ((repeat first | exact Below.refl _ _ | refine Below.drew ?_ | refine Below.alloc ?_ (by simp <;> omega) _); done)))
    | (refine new_close h0 h4 (w.heap.size + 1 + 1 + 1) (w.heap.size + 1 + 1) (w.heap.size + 1) (w.heap.size + 1 + 1 + 1 + 1 + 1) (w.heap.size + 1 + 1 + 1 + 1) (w.heap.size + 1 + 1 + 1 + 1 + 1 + 1) ?_ (by omega) (by omega) (by omega) (by omega) (by omega) (by omega) (by omega) (by omega) (by omega) (by omega) (by omega) ?_ ?_ ?_ ?_ ?_ ?_; all_goals (first | (simp only [heap_al, heap_dr, Array.getElem?_push, Array.size_push]; (try (repeat first | rw [if_pos trivial] | rw [if_neg (by omega)] | rfl)); done) | ((repeat first | exact Below.refl _ _ | refine Below.drew ?_ | refine Below.alloc ?_ (by simp <;> omega) _); done))))
end Go.Proofs.YtcggmagdndhkbaaGreatDoor
end
section
set_option linter.unusedVariables false
set_option linter.unusedSimpArgs false
namespace Go.Proofs.YtcggmagdndhkbaaGreatDoor
open Go.RowKit Go.Lib Go.Sort Go.Maps
set_option maxRecDepth 100000 in
set_option maxHeartbeats 1000000 in
theorem rtime_any (w : World) (br : Nat) (T by_ : Int) (kv : Nat → Value) (bt bx bc : Nat) (hc : RepCell w br T by_ kv bt bx bc) :
    Calls Tryz.prog 30 #[.pointer (some ⟨br, 0, none⟩)] w fun e w' => e = .returned (.int .i64 T) ∧ w' = w := by
  have h := time_any br T w hc.c0
  clear hc
  go_enter Tryz.func30, Tryz.ntmps30
  go_wp2_with fail
  refine h.mono ?_
  rintro e w' ⟨rfl, rfl⟩
  go_wp2
  go_ret
  exact ⟨rfl, rfl⟩
set_option maxHeartbeats 400000 in
theorem by_any (pb : Nat) (b : Int) (w : World) (hb : w.cell? ⟨pb, 1, none⟩ = some (.int .i64 b)) :
    Calls Tryz.prog 103 #[.pointer (some ⟨pb, 0, none⟩)] w fun e w' => e = .returned (.int .i64 b) ∧ w' = w := by
  go_enter Tryz.func103, Tryz.ntmps103
  go_wp2
  go_ret
  exact ⟨rfl, rfl⟩
set_option maxRecDepth 100000 in
set_option maxHeartbeats 1000000 in
theorem rby_any (w : World) (br : Nat) (T by_ : Int) (kv : Nat → Value) (bt bx bc : Nat) (hc : RepCell w br T by_ kv bt bx bc) :
    Calls Tryz.prog 48 #[.pointer (some ⟨br, 0, none⟩)] w fun e w' => e = .returned (.int .i64 by_) ∧ w' = w := by
  have h := by_any br by_ w hc.c1
  clear hc
  go_enter Tryz.func48, Tryz.ntmps48
  go_wp2_with fail
  refine h.mono ?_
  rintro e w' ⟨rfl, rfl⟩
  go_wp2
  go_ret
  exact ⟨rfl, rfl⟩
end Go.Proofs.YtcggmagdndhkbaaGreatDoor
end
section
set_option linter.unusedVariables false
set_option linter.unusedSimpArgs false
namespace Go.Proofs.YtcggmagdndhkbaaGreatDoor
open Go.RowKit Go.Lib Go.Sort Go.Maps
end Go.Proofs.YtcggmagdndhkbaaGreatDoor
end
section
set_option linter.unusedVariables false
set_option linter.unusedSimpArgs false
namespace Go.Proofs.YtcggmagdndhkbaaGreatDoor
open Go.RowKit Go.Lib Go.Sort Go.Maps
structure OwnAt (w : World) (g : Nat) (ys : List OpX) : Prop where
  cell : ∀ j u, (cellsOf ys)[j]? = some u → w.cell? ⟨g, j, none⟩ = some u
  free : ∀ j, j < ys.length * 8 → w.frozen? ⟨g, j, none⟩ = false
end Go.Proofs.YtcggmagdndhkbaaGreatDoor
end
section
set_option linter.unusedVariables false
set_option linter.unusedSimpArgs false
namespace Go.Proofs.YtcggmagdndhkbaaGreatDoor
open Go.RowKit Go.Lib Go.Sort Go.Maps
structure DelSt (p : OpX → Bool) (ys : List OpX) (i j : Nat) (cs : List OpX) : Prop where
  lt : i < j
  le : j ≤ ys.length
  len : cs.length = ys.length
  stay : cs.take i = (ys.take j).filter (fun x => !p x)
  rest : cs.drop j = ys.drop j
end Go.Proofs.YtcggmagdndhkbaaGreatDoor
end
section
set_option linter.unusedVariables false
set_option linter.unusedSimpArgs false
namespace Go.Proofs.YtcggmagdndhkbaaGreatDoor
open Go.RowKit Go.Lib Go.Sort Go.Maps
abbrev zeroOpV : Value := .agg #[.int .i64 0, .int .i64 0, .int .i64 0, .int .u8 0, .int .i64 0, .int .i64 0, .string ⟨#[]⟩, .string ⟨#[]⟩]
structure EightW (w : World) (g a : Nat) (x : OpX) : Prop where
  c0 : w.cell? ⟨g, a, none⟩ = some (.int .i64 x.1)
  c1 : w.cell? ⟨g, a + 1, none⟩ = some (.int .i64 x.2.1)
  c2 : w.cell? ⟨g, a + 2, none⟩ = some (.int .i64 x.2.2.1)
  c3 : w.cell? ⟨g, a + 3, none⟩ = some (.int .u8 (x.2.2.2.1 : Int))
  c4 : w.cell? ⟨g, a + 4, none⟩ = some (.int .i64 x.2.2.2.2.1)
  c5 : w.cell? ⟨g, a + 5, none⟩ = some (.int .i64 x.2.2.2.2.2.1)
  c6 : w.cell? ⟨g, a + 6, none⟩ = some (.string x.2.2.2.2.2.2.1)
  c7 : w.cell? ⟨g, a + 7, none⟩ = some (.string x.2.2.2.2.2.2.2)
  f0 : w.frozen? ⟨g, a, none⟩ = false
  f1 : w.frozen? ⟨g, a + 1, none⟩ = false
  f2 : w.frozen? ⟨g, a + 2, none⟩ = false
  f3 : w.frozen? ⟨g, a + 3, none⟩ = false
  f4 : w.frozen? ⟨g, a + 4, none⟩ = false
  f5 : w.frozen? ⟨g, a + 5, none⟩ = false
  f6 : w.frozen? ⟨g, a + 6, none⟩ = false
  f7 : w.frozen? ⟨g, a + 7, none⟩ = false
end Go.Proofs.YtcggmagdndhkbaaGreatDoor
end
section
set_option linter.unusedVariables false
set_option linter.unusedSimpArgs false
namespace Go.Proofs.YtcggmagdndhkbaaGreatDoor
open Go.RowKit Go.Lib Go.Sort Go.Maps
end Go.Proofs.YtcggmagdndhkbaaGreatDoor
end
section
set_option linter.unusedVariables false
set_option linter.unusedSimpArgs false
namespace Go.Proofs.YtcggmagdndhkbaaGreatDoor
open Go.RowKit Go.Lib Go.Sort Go.Maps
end Go.Proofs.YtcggmagdndhkbaaGreatDoor
end
section
set_option linter.unusedVariables false
set_option linter.unusedSimpArgs false
namespace Go.Proofs.YtcggmagdndhkbaaGreatDoor
open Go.RowKit Go.Lib Go.Sort Go.Maps
end Go.Proofs.YtcggmagdndhkbaaGreatDoor
end
