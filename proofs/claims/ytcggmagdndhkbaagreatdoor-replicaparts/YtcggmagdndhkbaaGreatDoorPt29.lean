import Derived.Test.YtcggmagdndhkbaaGreatDoorPt25
import Derived.Test.YtcggmagdndhkbaaGreatDoorPt28
section
set_option linter.unusedVariables false
set_option linter.unusedSimpArgs false
namespace Go.Proofs.YtcggmagdndhkbaaGreatDoor
open Go.RowKit Go.Lib Go.Sort Go.Maps
open scoped Classical
def x0 : OpX := (1, 2, 1, 109, 6, 0, ⟨#[97]⟩, ⟨#[]⟩)
theorem err0 : errO x0 = 0 := by decide
theorem next0 : NextOp (fun _ => []) 2 0 x0 := ⟨err0, rfl, rfl, rfl, .inl ⟨rfl, rfl⟩, fun _ => .inl rfl, fun h => by rcases h with ⟨h, _⟩ | h <;> exact absurd h (by decide)⟩
theorem known0 (nd : Int) : KnownN [x0] nd ↔ nd = 6 := by
  constructor
  · rintro ⟨x, hx, _, e, _⟩
    simp only [List.mem_singleton] at hx
    subst hx
    exact e.symm
  · intro e
    exact ⟨x0, by simp, rfl, e.symm, e.symm⟩
theorem line0 : LineIs [x0] 6 [] := ⟨[], List.Perm.refl _, ⟨List.nodup_nil, fun m hm => by simp at hm, fun u m v e => by simp at e⟩, rfl⟩
theorem made_single (m : Mov) (hne : m.2.1 ≠ m.2.2.1) : madeBy [m] = upd noSta m.2.1 (some m.2) := by
  show step noSta m = _
  exact step_goes (fun hi => hi.elim hne (fun h => ins_none rfl h))
theorem text0 : Lib.join (linesB [(6, 0, ⟨#[97]⟩)] [(6, [])] []) [10] = [54, 32, 105, 110, 32, 48, 32, 97] := by
  have h6 : Lib.itoa 6 = [54] := by unfold Lib.itoa; simp [Lib.decDigits]
  have h0 : Lib.itoa 0 = [48] := by unfold Lib.itoa; simp [Lib.decDigits]
  unfold linesB placeB lineB
  simp [h6, h0, fullT, Lib.join_cons, Lib.joinTail]
theorem state0 : StateIs [x0] [54, 32, 105, 110, 32, 48, 32, 97] := by
  refine ⟨[((1, 2), (6, 0, ⟨#[97]⟩))], [(6, 0, ⟨#[97]⟩)], [(6, [])], [x0], [], List.Perm.refl _, List.pairwise_singleton _ _, ?_, ⟨List.pairwise_singleton _ _, fun nd => ?_, fun t ht => ?_⟩, List.Perm.refl _, ⟨List.Pairwise.nil, fun p => ?_⟩, text0.symm⟩
  · rw [made_single _ (by decide)]
    refine ⟨List.pairwise_singleton _ _, fun p => ?_⟩
    obtain ⟨a, b, s⟩ := p
    simp only [List.mem_singleton, upd]
    constructor
    · intro e
      cases e
      simp
    · intro e
      split at e
      · cases e; rfl
      · cases e
  · rw [known0]
    simp
  · simp only [List.mem_singleton] at ht
    subst ht
    exact ⟨[], line0, rfl⟩
  · constructor
    · intro h; simp at h
    · rintro ⟨_, s, hs⟩
      have : madeO [x0] = noC := rfl
      rw [this] at hs
      cases hs
theorem well0 : WellK [x0] := (next0.well rowsK_nil (by omega) (fun y hy => by simp [allR] at hy)).1
set_option maxRecDepth 100000 in
set_option maxHeartbeats 4000000 in
theorem begun_any {B : Nat} {ad : Nat → Addr} (w : World) (hE : EnvT B ad w) :
    Calls Tryz.prog 8 #[] w fun e w' => e = .returned (.bool true) ∧ Below w.heap.size w w' := by
  have hnew := rnew_ok w 2 (by omega) (by omega)
  have HE : Aside (EnvT w.heap.size ad w) := hE.up hE.env.size (Nat.le_refl _)
  clear hE
  go_enter Tryz.func8, Tryz.ntmps8
  go_wp2_with fail
  refine hnew.mono ?_
  clear hnew
  rintro e w1 ⟨c, br, rfl, hR1, hb1⟩
  obtain ⟨T, kv, bt, bx, bc, A, hm, hp, ht⟩ := hR1.rep.time
  obtain ⟨ao, cap, hM⟩ := hm.norm
  obtain rfl : T = 0 := timeO_unique ht (by unfold allR; exact timeO_nil)
  have hmk0 := make_any (i := 2) w1 c br 0 ao cap bt bx bc (fun _ => []) 0 ⟨#[97]⟩ hM.cell hM.rows hR1.wellK (HE.out.later hb1).env (by omega) (by omega) (by omega) (by simp [allR]) (by decide) (by omega) (by omega)
  have hmk : Calls Tryz.prog 10 #[.pointer (some ⟨br, 0, none⟩), .int .i64 0, .string ⟨#[97]⟩] w1 fun e w' => e = .returned (.tuple #[.agg #[.int .i64 1, .int .i64 2, .int .i64 1, .int .u8 109, .int .i64 6, .int .i64 0, .string ⟨#[97]⟩, .string ⟨#[]⟩], .nilIface]) ∧ Aside (Below w1.heap.size w1 w') := hmk0.mono (fun e w' q => by
    rcases q with ⟨_, q1, q2⟩ | ⟨q, _⟩
    · have ex : ownX 0 2 ((fun _ => [] : Rws) 2).length 109 0 0 ⟨#[97]⟩ ⟨#[]⟩ = x0 := rfl
      rw [ex, err0, if_pos rfl] at q1
      exact ⟨q1, q2⟩
    · exact absurd (.inl rfl) q)
  have H1 : Aside (RepOwn w.heap.size w1 c br 2 (fun _ => []) ∧ Below w.heap.size w w1) := ⟨hR1, hb1⟩
  clear hR1 hb1 hm hp ht hM hmk0
  go_wp2_with fail
  refine hmk.mono ?_
  clear hmk
  rintro e w2 ⟨rfl, HB2⟩
  obtain ⟨U, hU⟩ : ∃ U, U = w2.alloc (.cells #[.int .i64 1, .int .i64 2, .int .i64 1, .int .u8 109, .int .i64 6, .int .i64 0, .string ⟨#[97]⟩, .string ⟨#[]⟩] 31) := ⟨_, rfl⟩
  have hbU : Below w1.heap.size w1 U := by rw [hU]; exact HB2.out.alloc HB2.out.size _
  have O0 : OpBlk U w2.heap.size x0 := by rw [hU]; exact OpBlk.new w2 x0
  have hops : Calls Tryz.prog 13 #[.pointer (some ⟨br, 0, none⟩)] U fun e w' => ∃ ao cap, e = .returned (.slice ao 0 cap) ∧ Aside (Below U.heap.size U w') := (rops_any U c br 2 (fun _ => []) (H1.out.1.later hbU).rep (by simp [allR])).mono (fun e w' q => by
    obtain ⟨v, ys, he, h1, h2, h3, _⟩ := q
    have hl := (stable_by h2).1.length_eq
    have : ys = [] := List.length_eq_zero_iff.1 (by rw [hl]; simp [allR])
    subst this
    obtain ⟨ao, cap, rfl, _⟩ := ops_in h1
    exact ⟨ao, cap, he, h3⟩)
  have H2 : Aside (U = w2.alloc (.cells #[.int .i64 1, .int .i64 2, .int .i64 1, .int .u8 109, .int .i64 6, .int .i64 0, .string ⟨#[97]⟩, .string ⟨#[]⟩] 31) ∧ Below w1.heap.size w1 U ∧ OpBlk U w2.heap.size x0) := ⟨hU, hbU, O0⟩
  obtain ⟨P, hP⟩ : ∃ P, Aside (P = w2.heap.size) := ⟨_, rfl⟩
  clear hbU O0 HB2 hU
  go_upto_region 5 with fail
  rw [← H2.out.1, ← hP.out]
  go_wp2_with fail
  refine hops.mono ?_
  clear hops
  rintro e w3 ⟨ao3, cap3, rfl, HB3⟩
  have O3 : OpBlk w3 P x0 := by rw [hP.out]; exact H2.out.2.2.later HB3.out
  have hb3 : Below w1.heap.size w1 w3 := H2.out.2.1.trans (HB3.out.mono H2.out.2.1.size)
  obtain ⟨j0, j1, j2, j3, j4, j5, j6, j7, -⟩ := O3.cells
  dsimp only [x0] at j0 j1 j2 j3 j4 j5 j6 j7
  obtain ⟨V, hV⟩ : ∃ V, V = w3.alloc (.cells #[.int .i64 1, .int .i64 2, .int .i64 1, .int .u8 109, .int .i64 6, .int .i64 0, .string ⟨#[97]⟩, .string ⟨#[]⟩] 31) := ⟨_, rfl⟩
  have hbV : Below w1.heap.size w1 V := by rw [hV]; exact hb3.alloc hb3.size _
  have hinV : OpsIn V (some ⟨w3.heap.size, 0, none⟩) [x0] := by
    refine .inr ⟨w3.heap.size, 0, rfl, fun j u hj => ?_⟩
    rw [hV]
    have := lit_cellsO w3 x0 31 j u (by simpa [cellsOf, flat] using hj)
    rw [Addr.add_lit] at this
    exact this
  have hjn := joined_own (B := w.heap.size) V c br 2 (fun _ => []) (some ⟨w3.heap.size, 0, none⟩) 1 0 x0 (H1.out.1.later hbV) (HE.out.later (H1.out.2.trans (hbV.mono H1.out.2.size))) (by omega) hinV next0 (fun y hy => by simp [allR] at hy) (by simp [allR])
  have hjn2 := hjn.mono (R' := fun e w' => ∃ (c' : Nat → Nat) (R' : Rws), e = .returned (.tuple #[.int .i64 1, .nilIface]) ∧ Aside (RepOwn w.heap.size w' c' br 2 R' ∧ Below w.heap.size w w' ∧ (∀ y, y ∈ allR R' ↔ y = x0) ∧ (allR R').length = 1)) (fun e w' q => by
    obtain ⟨c', R', he, hA, hR', hm, hl⟩ := q
    have hbw : Below w.heap.size w V := H1.out.2.trans (hbV.mono H1.out.2.size)
    exact ⟨c', R', he, hR', hbw.trans ((H1.out.1.later hbV).below hA hbw.size), fun y => by rw [hm y]; simp [allR], by rw [hl]; simp [allR]⟩)
  have H3 : Aside (V = w3.alloc (.cells #[.int .i64 1, .int .i64 2, .int .i64 1, .int .u8 109, .int .i64 6, .int .i64 0, .string ⟨#[97]⟩, .string ⟨#[]⟩] 31)) := hV
  clear hjn hinV hbV hV hb3 O3 HB3
  go_wp2_with fail
  rw [← H3.out]
  refine hjn2.mono ?_
  clear hjn2 j0 j1 j2 j3 j4 j5 j6 j7
  rintro e w4 ⟨c', R', rfl, H4⟩
  have hperm : (allR R').Perm [x0] := by
    match hq : allR R', H4.out.2.2.2 with
    | [a], _ =>
      have := (H4.out.2.2.1 a).1 (by rw [hq]; simp)
      rw [this]
  have hst : Calls Tryz.prog 17 #[.pointer (some ⟨br, 0, none⟩)] w4 fun e w' => e = .returned (.string ⟨#[54, 32, 105, 110, 32, 48, 32, 97]⟩) ∧ Aside (Below w4.heap.size w4 w') := (state_any w4 c' br 2 R' H4.out.1.rep ((HE.out.mono H4.out.2.1).is) (by rw [H4.out.2.2.2]; omega)).mono (fun e w' q => by
    obtain ⟨s, he, hs, hb⟩ := q
    have := state0.same well0 hperm.symm hs
    rw [← this] at he
    exact ⟨he, hb⟩)
  have HP : Aside ((allR R').Perm [x0]) := hperm
  clear hperm
  go_wp2_with fail
  refine hst.mono ?_
  clear hst
  rintro e w5 ⟨rfl, HB5⟩
  obtain ⟨T5, kv5, bt5, bx5, bc5, A5, hm5, hp5, ht5⟩ := (H4.out.1.later HB5.out).rep.time
  have hT5 : T5 = 1 := timeO_unique ht5 ⟨fun x hx => by rw [(H4.out.2.2.1 x).1 hx]; decide, .inr ⟨x0, (H4.out.2.2.1 x0).2 rfl, rfl⟩, by decide⟩
  subst hT5
  have hby := rby_any w5 br 1 2 kv5 bt5 bx5 bc5 hm5.cell
  have htm := rtime_any w5 br 1 2 kv5 bt5 bx5 bc5 hm5.cell
  have H5 : Aside (Below w.heap.size w w5) := H4.out.2.1.trans (HB5.out.mono H4.out.2.1.size)
  clear hm5 hp5 ht5
  go_wp2_with fail
  refine hby.mono ?_
  rintro e w6 ⟨rfl, rfl⟩
  clear hby
  go_wp2_with fail
  refine htm.mono ?_
  rintro e w7 ⟨rfl, rfl⟩
  clear htm
  go_wp2
  go_ret
  exact ⟨rfl, H5.out⟩
end Go.Proofs.YtcggmagdndhkbaaGreatDoor
end
section
set_option linter.unusedVariables false
set_option linter.unusedSimpArgs false
namespace Go.Proofs.YtcggmagdndhkbaaGreatDoor
open Go.RowKit Go.Lib Go.Sort Go.Maps
open scoped Classical
def MoveOut (ad : Nat → Addr) (w : World) (ok : Prop) (x : OpX) (cyc : Prop) (e : Ending) (w' : World) : Prop := Below w.heap.size w w' ∧
  ((¬ ok ∧ e = .returned (.tuple #[encO zeroO, eV ad 6])) ∨ (ok ∧ errO x ≠ 0 ∧ e = .returned (.tuple #[encO zeroO, eV ad (errO x)])) ∨ (ok ∧ errO x = 0 ∧ cyc ∧ e = .returned (.tuple #[encO zeroO, eV ad 10])) ∨ (ok ∧ errO x = 0 ∧ ¬ cyc ∧ e = .returned (.tuple #[encO x, .nilIface])))
set_option maxRecDepth 100000 in
set_option maxHeartbeats 8000000 in
theorem rmove_any {B : Nat} {ad : Nat → Addr} (w : World) (c : Nat → Nat) (br : Nat) (T : Int) (i : Nat) (ao : Nat → Option Addr) (cap : Nat → Nat) (bt bx bc bm n : Nat) (f : Sta) (R : Rws) (nd into : Int) (name : ByteArray) (hc : RepCell w br T (i : Int) (kvs ao cap R) bt bx bc) (hrows : RowsAt w c (kvs ao cap R) R) (ht : w.cell? ⟨bt, 0, none⟩ = some (.map (some bm))) (hmap : MapAt Tryz.prog 3 w bm n f) (hG : Good f) (hR : RowsK R) (hE : EnvE B ad w) (hi : i < 4) (hT : 0 ≤ T) (hm : T < 1073741824) (hn : (allR R).length ≤ 140) (hs1 : name.size ≤ 1000000) (h2 : -9223372036854775808 ≤ nd) (h3 : nd ≤ 9223372036854775807) (h4 : -9223372036854775808 ≤ into) (h5 : into ≤ 9223372036854775807) :
    Calls Tryz.prog 82 #[.pointer (some ⟨br, 0, none⟩), .int .i64 nd, .int .i64 into, .string name] w (MoveOut ad w (KnownN (allR R) nd ∧ (into = 0 ∨ into = 1 ∨ KnownN (allR R) into)) (ownX T i (R i).length 109 nd into name ⟨#[]⟩) (into = nd ∨ Ins f into nd)) := by
  have hrl : ∀ i, i < 4 → (R i).length ≤ 1000 := fun i hi => by have := row_le R hi; omega
  obtain ⟨S, hS⟩ : ∃ S, S = w.heap.size := ⟨_, rfl⟩
  obtain ⟨U, hU⟩ : ∃ U, U = w.alloc (.cells #[.int .i64 0, .int .i64 0, .int .i64 0, .int .u8 0, .int .i64 0, .int .i64 0, .string ⟨#[]⟩, .string ⟨#[]⟩] 31) := ⟨_, rfl⟩
  have hbU : Below w.heap.size w U := by rw [hU]; exact (Below.refl _ w).alloc (Nat.le_refl _) _
  have Z0 : OpBlk U S zeroO := by rw [hU, hS]; exact OpBlk.new w zeroO
  have hcU : RepCell U br T (i : Int) (kvs ao cap R) bt bx bc := hc.same (hbU.block _ hc.lt)
  obtain ⟨zb, hzb⟩ : ∃ zb : Bool, zb = true ↔ KnownN (allR R) nd := ⟨@decide _ (Classical.propDecidable _), @decide_eq_true_iff _ (Classical.propDecidable _)⟩
  obtain ⟨zp, hzp⟩ : ∃ zp : Bool, zp = true ↔ (into = 0 ∨ into = 1 ∨ KnownN (allR R) into) := ⟨@decide _ (Classical.propDecidable _), @decide_eq_true_iff _ (Classical.propDecidable _)⟩
  have hnode := isNode_any U ao cap R nd zb hzb ((hE.later hbU).op4) ((KnownAt.of_rows hrows).later hbU) hR.toN hrl h2 h3
  unfold kV at hnode
  have k2 : U.cell? ⟨br, 2, none⟩ = some (.slice (ao 0) (R 0).length (cap 0)) := hcU.c2
  have k3 : U.cell? ⟨br, 3, none⟩ = some (.slice (ao 1) (R 1).length (cap 1)) := hcU.c3
  have k4 : U.cell? ⟨br, 4, none⟩ = some (.slice (ao 2) (R 2).length (cap 2)) := hcU.c4
  have k5 : U.cell? ⟨br, 5, none⟩ = some (.slice (ao 3) (R 3).length (cap 3)) := hcU.c5
  have HT : Aside (KnownAt U ao R ∧ RowsN R ∧ (∀ i, i < 4 → (R i).length ≤ 1000) ∧ w.cell? ⟨bt, 0, none⟩ = some (.map (some bm)) ∧ MapAt Tryz.prog 3 w bm n f ∧ Good f) := ⟨(KnownAt.of_rows hrows).later hbU, hR.toN, hrl, ht, hmap, hG⟩
  have H0 : Aside (RepCell U br T (i : Int) (kvs ao cap R) bt bx bc ∧ OpBlk U S zeroO ∧ Below w.heap.size w U ∧ S = w.heap.size ∧ EnvE B ad U ∧ B ≤ w.heap.size ∧ (zb = true ↔ KnownN (allR R) nd) ∧ (zp = true ↔ (into = 0 ∨ into = 1 ∨ KnownN (allR R) into))) := ⟨hcU, Z0, hbU, hS, hE.later hbU, hE.size, hzb, hzp⟩
  have HU : Aside (U = w.alloc (.cells #[.int .i64 0, .int .i64 0, .int .i64 0, .int .u8 0, .int .i64 0, .int .i64 0, .string ⟨#[]⟩, .string ⟨#[]⟩] 31)) := hU
  clear hU hcU Z0 hbU hE hc hS hzb hzp hrows hR ht hmap hG hrl
  go_enter Tryz.func82, Tryz.ntmps82
  go_upto_region 1 with fail
  rw [← HU.out, ← H0.out.2.2.2.1]
  go_wp2_with fail
  refine hnode.mono ?_
  clear hnode k2 k3 k4 k5
  rintro e w1 ⟨rfl, hb1⟩
  have Z1 := H0.out.2.1.later hb1
  have H1 : Aside (OpBlk w1 S zeroO ∧ Below w.heap.size w w1 ∧ EnvE B ad w1 ∧ RepCell w1 br T (i : Int) (kvs ao cap R) bt bx bc ∧ KnownAt w1 ao R) := ⟨Z1, H0.out.2.2.1.trans (hb1.mono H0.out.2.2.1.size), H0.out.2.2.2.2.1.later hb1, H0.out.1.same (hb1.block _ H0.out.1.lt), HT.out.1.later hb1⟩
  clear hb1 Z1
  cases zb with
  | false =>
    have HNO := Lib.hid (show ¬ (KnownN (allR R) nd ∧ (into = 0 ∨ into = 1 ∨ KnownN (allR R) into)) from fun q => by have := H0.out.2.2.2.2.2.2.1.2 q.1; cases this)
    obtain ⟨z0, z1, z2, z3, z4, z5, z6, z7, zf⟩ := H1.out.1.cells
    unfold zeroO at z0 z1 z2 z3 z4 z5 z6 z7
    dsimp only at z0 z1 z2 z3 z4 z5 z6 z7
    have eg := H1.out.2.2.1.c5
    have hlo := H1.out.2.2.1.low
    have hSw := H0.out.2.2.2.1
    have hBw := H0.out.2.2.2.2.2.1
    have n1 : 0 ≠ S := by omega
    have n2 : S ≠ 0 := by omega
    clear hlo hSw hBw
    go_wp2_with fail
    go_region
    all_goals
      go_wp2
      (try simp only [Exit.inBlock, Exit.then])
      refine bodyPost_ret (v := .tuple #[encO zeroO, eV ad 6]) ?_ rfl ⟨?_, .inl ⟨HNO.out, rfl⟩⟩
      · rw [results_ct rfl]
        unfold encO zeroO eV
        go_simp
      · exact (below_cells (b := S) H1.out.2.1 (by have := H0.out.2.2.2.1; omega) 0 [.int .i64 0, .int .i64 0, .int .i64 0, .int .u8 0, .int .i64 0, .int .i64 0, .string ⟨#[]⟩, .string ⟨#[]⟩]).drew
  | true =>
    have HK1 : Aside (KnownN (allR R) nd) := H0.out.2.2.2.2.2.2.1.1 rfl
    have hplace := isPlace_any w1 ao cap R into zp H0.out.2.2.2.2.2.2.2 H1.out.2.2.1.op4 H1.out.2.2.2.2 HT.out.2.1 HT.out.2.2.1 h4 h5
    unfold kV at hplace
    have k2 : w1.cell? ⟨br, 2, none⟩ = some (.slice (ao 0) (R 0).length (cap 0)) := H1.out.2.2.2.1.c2
    have k3 : w1.cell? ⟨br, 3, none⟩ = some (.slice (ao 1) (R 1).length (cap 1)) := H1.out.2.2.2.1.c3
    have k4 : w1.cell? ⟨br, 4, none⟩ = some (.slice (ao 2) (R 2).length (cap 2)) := H1.out.2.2.2.1.c4
    have k5 : w1.cell? ⟨br, 5, none⟩ = some (.slice (ao 3) (R 3).length (cap 3)) := H1.out.2.2.2.1.c5
    go_wp2_with fail
    refine hplace.mono ?_
    clear hplace k2 k3 k4 k5
    rintro e w2 ⟨rfl, hb2⟩
    have H2 : Aside (OpBlk w2 S zeroO ∧ Below w.heap.size w w2 ∧ EnvE B ad w2 ∧ RepCell w2 br T (i : Int) (kvs ao cap R) bt bx bc) := ⟨H1.out.1.later hb2, H1.out.2.1.trans (hb2.mono H1.out.2.1.size), H1.out.2.2.1.later hb2, H1.out.2.2.2.1.same (hb2.block _ H1.out.2.2.2.1.lt)⟩
    clear hb2
    cases zp with
    | false =>
      have HNO := Lib.hid (show ¬ (KnownN (allR R) nd ∧ (into = 0 ∨ into = 1 ∨ KnownN (allR R) into)) from fun q => by have := H0.out.2.2.2.2.2.2.2.2 q.2; cases this)
      obtain ⟨z0, z1, z2, z3, z4, z5, z6, z7, zf⟩ := H2.out.1.cells
      unfold zeroO at z0 z1 z2 z3 z4 z5 z6 z7
      dsimp only at z0 z1 z2 z3 z4 z5 z6 z7
      have eg := H2.out.2.2.1.c5
      have hlo := H2.out.2.2.1.low
      have hSw := H0.out.2.2.2.1
      have hBw := H0.out.2.2.2.2.2.1
      have n1 : 0 ≠ S := by omega
      have n2 : S ≠ 0 := by omega
      clear hlo hSw hBw
      go_wp2_with fail
      go_region
      all_goals
        go_wp2
        (try simp only [Exit.inBlock, Exit.then])
        refine bodyPost_ret (v := .tuple #[encO zeroO, eV ad 6]) ?_ rfl ⟨?_, .inl ⟨HNO.out, rfl⟩⟩
        · rw [results_ct rfl]
          unfold encO zeroO eV
          go_simp
        · exact (below_cells (b := S) H2.out.2.1 (by have := H0.out.2.2.2.1; omega) 0 [.int .i64 0, .int .i64 0, .int .i64 0, .int .u8 0, .int .i64 0, .int .i64 0, .string ⟨#[]⟩, .string ⟨#[]⟩]).drew
    | true =>
      have HOK : Aside (KnownN (allR R) nd ∧ (into = 0 ∨ into = 1 ∨ KnownN (allR R) into)) := ⟨HK1.out, H0.out.2.2.2.2.2.2.2.1 rfl⟩
      have hown := own_any w2 br T i ao cap bt bx bc R 109 nd into name ⟨#[]⟩ H2.out.2.2.2 H2.out.2.2.1 hi hT hm hn hs1 (by decide)
      unfold encO at hown
      dsimp only at hown
      go_wp2_with fail
      refine hown.mono ?_
      clear hown
      rintro e w3 ⟨he, hb3⟩
      obtain ⟨x, hx⟩ : ∃ x, x = (ownX T i (R i).length 109 nd into name ⟨#[]⟩) := ⟨_, rfl⟩
      rw [← hx] at he
      have H3 : Aside (OpBlk w3 S zeroO ∧ Below w.heap.size w w3 ∧ EnvE B ad w3 ∧ RepCell w3 br T (i : Int) (kvs ao cap R) bt bx bc) := ⟨H2.out.1.later hb3, H2.out.2.1.trans (hb3.mono H2.out.2.1.size), H2.out.2.2.1.later hb3, H2.out.2.2.2.same (hb3.block _ H2.out.2.2.2.lt)⟩
      have HXE : Aside (x = (ownX T i (R i).length 109 nd into name ⟨#[]⟩)) := hx
      clear hb3 hx
      by_cases he0 : errO x = 0
      · rw [if_pos he0, he0] at he
        subst he
        obtain ⟨t, b, m, kd, nd', o, s, v⟩ := x
        have HX := Lib.hid he0
        clear he0
        unfold encO eV
        dsimp only
        go_upto_region 4 with fail
        obtain ⟨W, hW⟩ : ∃ W, W = w3.alloc (.cells #[.int .i64 t, .int .i64 b, .int .i64 m, .int .u8 (kd : Int), .int .i64 nd', .int .i64 o, .string s, .string v] 31) := ⟨_, rfl⟩
        obtain ⟨V, hV⟩ : ∃ V, V = w3.heap.size := ⟨_, rfl⟩
        rw [← hW, ← hV]
        have hbW : Below w3.heap.size w3 W := by rw [hW]; exact (Below.refl _ w3).alloc (Nat.le_refl _) _
        have hN : OpBlk W V (t, b, m, kd, nd', o, s, v) := by rw [hW, hV]; exact OpBlk.new w3 (t, b, m, kd, nd', o, s, v)
        have hBw' := H3.out.2.1.trans (hbW.mono H3.out.2.1.size)
        have H4 : Aside (OpBlk W S zeroO ∧ Below w.heap.size w W ∧ EnvE B ad W ∧ RepCell W br T (i : Int) (kvs ao cap R) bt bx bc ∧ OpBlk W V (t, b, m, kd, nd', o, s, v) ∧ V = w3.heap.size ∧ S < V) := ⟨H3.out.1.later hbW, hBw', H3.out.2.2.1.later hbW, H3.out.2.2.2.same (hbW.block _ H3.out.2.2.2.lt), hN, hV, by rw [hV]; exact H3.out.1.lt⟩
        obtain ⟨z, hz⟩ : ∃ z : Bool, z = true ↔ Ins f into nd := ⟨@decide _ (Classical.propDecidable _), @decide_eq_true_iff _ (Classical.propDecidable _)⟩
        have hins := inside_is W bt bm n f into nd z hz (cell_later hBw' HT.out.2.2.2.1) (HT.out.2.2.2.2.1.same (hBw'.block _ HT.out.2.2.2.2.1.lt)) HT.out.2.2.2.2.2 (wf_of (by omega) (by omega))
        have HZ : Aside (z = true ↔ Ins f into nd) := hz
        have k6 : W.cell? ⟨br, 6, none⟩ = some (.pointer (some ⟨bt, 0, none⟩)) := H4.out.2.2.2.1.c6
        have HX0 : Aside (errO (ownX T i (R i).length 109 nd into name ⟨#[]⟩) = 0) := by have := HX.out; rw [HXE.out] at this; exact this
        clear hbW hN hBw' hz hW hV
        by_cases hq : into = nd
        · have HCY : Aside (into = nd ∨ Ins f into nd) := .inl hq
          subst hq
          clear hins
          obtain ⟨z0, z1, z2, z3, z4, z5, z6, z7, zf⟩ := H4.out.1.cells
          unfold zeroO at z0 z1 z2 z3 z4 z5 z6 z7
          dsimp only at z0 z1 z2 z3 z4 z5 z6 z7
          have eg := H4.out.2.2.1.c9
          have hlo := H4.out.2.2.1.low
          have hSw := H0.out.2.2.2.1
          have hBw := H0.out.2.2.2.2.2.1
          have n1 : 10 ≠ S := by omega
          have n2 : S ≠ 10 := by omega
          clear hlo hSw hBw
          go_wp2_with fail
          go_region
          all_goals
            go_wp2
            (try simp only [Exit.inBlock, Exit.then])
            refine bodyPost_ret (v := .tuple #[encO zeroO, eV ad 10]) ?_ rfl ⟨?_, .inr (.inr (.inl ⟨HOK.out, HX0.out, HCY.out, rfl⟩))⟩
            · rw [results_ct rfl]
              unfold encO zeroO eV
              go_simp
            · exact (below_cells (b := S) H4.out.2.1 (by have := H0.out.2.2.2.1; omega) 0 [.int .i64 0, .int .i64 0, .int .i64 0, .int .u8 0, .int .i64 0, .int .i64 0, .string ⟨#[]⟩, .string ⟨#[]⟩]).drew
        · have HNQ := Lib.hid hq
          have dq : decide (into = nd) = false := by simp [hq]
          clear hq
          go_wp2_with fail
          refine hins.mono ?_
          clear hins k6
          rintro e w5 ⟨rfl, hb5⟩
          have H5 : Aside (OpBlk w5 S zeroO ∧ Below w.heap.size w w5 ∧ EnvE B ad w5 ∧ OpBlk w5 V (t, b, m, kd, nd', o, s, v)) := ⟨H4.out.1.later hb5, H4.out.2.1.trans (hb5.mono H4.out.2.1.size), H4.out.2.2.1.later hb5, H4.out.2.2.2.2.1.later hb5⟩
          clear hb5
          cases z with
          | true =>
            have HCY : Aside (into = nd ∨ Ins f into nd) := .inr (HZ.out.1 rfl)
            obtain ⟨z0, z1, z2, z3, z4, z5, z6, z7, zf⟩ := H5.out.1.cells
            unfold zeroO at z0 z1 z2 z3 z4 z5 z6 z7
            dsimp only at z0 z1 z2 z3 z4 z5 z6 z7
            have eg := H5.out.2.2.1.c9
            have hlo := H5.out.2.2.1.low
            have hSw := H0.out.2.2.2.1
            have hBw := H0.out.2.2.2.2.2.1
            have n1 : 10 ≠ S := by omega
            have n2 : S ≠ 10 := by omega
            clear hlo hSw hBw
            go_wp2_with fail
            go_region
            all_goals
              go_wp2
              (try simp only [Exit.inBlock, Exit.then])
              refine bodyPost_ret (v := .tuple #[encO zeroO, eV ad 10]) ?_ rfl ⟨?_, .inr (.inr (.inl ⟨HOK.out, HX0.out, HCY.out, rfl⟩))⟩
              · rw [results_ct rfl]
                unfold encO zeroO eV
                go_simp
              · exact (below_cells (b := S) H5.out.2.1 (by have := H0.out.2.2.2.1; omega) 0 [.int .i64 0, .int .i64 0, .int .i64 0, .int .u8 0, .int .i64 0, .int .i64 0, .string ⟨#[]⟩, .string ⟨#[]⟩]).drew
          | false =>
            have HNC := Lib.hid (show ¬ (into = nd ∨ Ins f into nd) from fun q => q.elim HNQ.out (fun q => by have := HZ.out.2 q; cases this))
            obtain ⟨z0, z1, z2, z3, z4, z5, z6, z7, zf⟩ := H5.out.1.cells
            unfold zeroO at z0 z1 z2 z3 z4 z5 z6 z7
            dsimp only at z0 z1 z2 z3 z4 z5 z6 z7
            obtain ⟨y0, y1, y2, y3, y4, y5, y6, y7, yf⟩ := H5.out.2.2.2.cells
            dsimp only at y0 y1 y2 y3 y4 y5 y6 y7
            go_wp2
            (try simp only [Exit.inBlock, Exit.then])
            refine bodyPost_ret (v := .tuple #[.agg #[.int .i64 t, .int .i64 b, .int .i64 m, .int .u8 (kd : Int), .int .i64 nd', .int .i64 o, .string s, .string v], .nilIface]) ?_ rfl ⟨?_, .inr (.inr (.inr ⟨HOK.out, HX0.out, HNC.out, by rw [← HXE.out]; rfl⟩))⟩
            · rw [results_ct rfl]
              go_simp
            · exact below_cells (b := S) H5.out.2.1 (by have := H0.out.2.2.2.1; omega) 0 [.int .i64 t, .int .i64 b, .int .i64 m, .int .u8 (kd : Int), .int .i64 nd', .int .i64 o, .string s, .string v]
      · rw [if_neg he0] at he
        subst he
        have HX0 := Lib.hid (show errO (ownX T i (R i).length 109 nd into name ⟨#[]⟩) ≠ 0 by rw [← HXE.out]; exact he0)
        obtain ⟨er, her⟩ : ∃ er, er = errO x - 1 := ⟨_, rfl⟩
        have hev : eV ad (errO x) = .iface 416 (.pointer (some (ad er))) := by rw [her]; unfold eV; rw [if_neg he0]
        have HEV : Aside (eV ad (errO x) = .iface 416 (.pointer (some (ad er)))) := hev
        rw [hev]
        clear her hev he0
        obtain ⟨z0, z1, z2, z3, z4, z5, z6, z7, zf⟩ := H3.out.1.cells
        unfold zeroO at z0 z1 z2 z3 z4 z5 z6 z7
        dsimp only at z0 z1 z2 z3 z4 z5 z6 z7
        have hlt := H3.out.1.lt
        have nS : S ≠ w3.heap.size := by omega
        have nS' : w3.heap.size ≠ S := by omega
        unfold encO zeroO
        dsimp only
        go_wp2
        (try simp only [Exit.inBlock, Exit.then])
        refine bodyPost_ret (v := .tuple #[encO zeroO, .iface 416 (.pointer (some (ad er)))]) ?_ rfl ⟨?_, .inr (.inl ⟨HOK.out, HX0.out, by rw [← HXE.out, HEV.out]⟩)⟩
        · rw [results_ct rfl]
          unfold encO zeroO
          go_simp
        · have hbl := below_cells (b := S) H3.out.2.1 (by have := H0.out.2.2.2.1; omega) 0 [.int .i64 0, .int .i64 0, .int .i64 0, .int .u8 0, .int .i64 0, .int .i64 0, .string ⟨#[]⟩, .string ⟨#[]⟩]
          exact hbl.alloc hbl.size _
end Go.Proofs.YtcggmagdndhkbaaGreatDoor
end
section
set_option linter.unusedVariables false
set_option linter.unusedSimpArgs false
namespace Go.Proofs.YtcggmagdndhkbaaGreatDoor
open Go.RowKit Go.Lib Go.Sort Go.Maps
set_option maxRecDepth 100000 in
set_option maxHeartbeats 4000000 in
theorem mark_any {B : Nat} {ad : Nat → Addr} (w : World) (c : Nat → Nat) (br : Nat) (T : Int) (i : Nat) (ao : Nat → Option Addr) (cap : Nat → Nat) (bt bx bc : Nat) (R : Rws) (nd : Int) (name value : ByteArray) (hc : RepCell w br T (i : Int) (kvs ao cap R) bt bx bc) (hrows : RowsAt w c (kvs ao cap R) R) (hR : RowsK R) (hE : EnvE B ad w) (hi : i < 4) (hT : 0 ≤ T) (hm : T < 1073741824) (hn : (allR R).length ≤ 140) (hs1 : name.size ≤ 1000000) (hs2 : value.size ≤ 1000000) (h2 : -9223372036854775808 ≤ nd) (h3 : nd ≤ 9223372036854775807) :
    Calls Tryz.prog 84 #[.pointer (some ⟨br, 0, none⟩), .int .i64 nd, .string name, .string value] w (MadeOut ad w (KnownN (allR R) nd) (ownX T i (R i).length 115 nd 0 name value)) := by
  have hrl : ∀ i, i < 4 → (R i).length ≤ 1000 := fun i hi => by have := row_le R hi; omega
  obtain ⟨S, hS⟩ : ∃ S, S = w.heap.size := ⟨_, rfl⟩
  obtain ⟨U, hU⟩ : ∃ U, U = w.alloc (.cells #[.int .i64 0, .int .i64 0, .int .i64 0, .int .u8 0, .int .i64 0, .int .i64 0, .string ⟨#[]⟩, .string ⟨#[]⟩] 31) := ⟨_, rfl⟩
  have hbU : Below w.heap.size w U := by rw [hU]; exact (Below.refl _ w).alloc (Nat.le_refl _) _
  have Z0 : OpBlk U S zeroO := by rw [hU, hS]; exact OpBlk.new w zeroO
  have hcU : RepCell U br T (i : Int) (kvs ao cap R) bt bx bc := hc.same (hbU.block _ hc.lt)
  obtain ⟨zb, hzb⟩ : ∃ zb : Bool, zb = true ↔ (KnownN (allR R) nd) := ⟨@decide _ (Classical.propDecidable _), @decide_eq_true_iff _ (Classical.propDecidable _)⟩
  have hplace := isNode_any U ao cap R nd zb hzb ((hE.later hbU).op4) ((KnownAt.of_rows hrows).later hbU) hR.toN hrl h2 h3
  unfold kV at hplace
  have k2 : U.cell? ⟨br, 2, none⟩ = some (.slice (ao 0) (R 0).length (cap 0)) := hcU.c2
  have k3 : U.cell? ⟨br, 3, none⟩ = some (.slice (ao 1) (R 1).length (cap 1)) := hcU.c3
  have k4 : U.cell? ⟨br, 4, none⟩ = some (.slice (ao 2) (R 2).length (cap 2)) := hcU.c4
  have k5 : U.cell? ⟨br, 5, none⟩ = some (.slice (ao 3) (R 3).length (cap 3)) := hcU.c5
  have H0 : Aside (RepCell U br T (i : Int) (kvs ao cap R) bt bx bc ∧ OpBlk U S zeroO ∧ Below w.heap.size w U ∧ S = w.heap.size ∧ EnvE B ad U ∧ B ≤ w.heap.size ∧ (zb = true ↔ (KnownN (allR R) nd))) := ⟨hcU, Z0, hbU, hS, hE.later hbU, hE.size, hzb⟩
  have HU : Aside (U = w.alloc (.cells #[.int .i64 0, .int .i64 0, .int .i64 0, .int .u8 0, .int .i64 0, .int .i64 0, .string ⟨#[]⟩, .string ⟨#[]⟩] 31)) := hU
  clear hU hcU Z0 hbU hE hc hS hzb hrows hR
  go_enter Tryz.func84, Tryz.ntmps84
  go_upto_region 1 with fail
  rw [← HU.out, ← H0.out.2.2.2.1]
  go_wp2_with fail
  refine hplace.mono ?_
  clear hplace k2 k3 k4 k5
  rintro e w1 ⟨rfl, hb1⟩
  have Z1 := H0.out.2.1.later hb1
  have H1 : Aside (OpBlk w1 S zeroO ∧ Below w.heap.size w w1 ∧ EnvE B ad w1 ∧ RepCell w1 br T (i : Int) (kvs ao cap R) bt bx bc) := ⟨Z1, H0.out.2.2.1.trans (hb1.mono H0.out.2.2.1.size), H0.out.2.2.2.2.1.later hb1, H0.out.1.same (hb1.block _ H0.out.1.lt)⟩
  clear hb1 Z1
  cases zb with
  | false =>
    have hno : ¬ (KnownN (allR R) nd) := fun q => by have := H0.out.2.2.2.2.2.2.2 q; cases this
    obtain ⟨z0, z1, z2, z3, z4, z5, z6, z7, zf⟩ := H1.out.1.cells
    unfold zeroO at z0 z1 z2 z3 z4 z5 z6 z7
    dsimp only at z0 z1 z2 z3 z4 z5 z6 z7
    have eg := H1.out.2.2.1.c5
    have hlo := H1.out.2.2.1.low
    have hSw := H0.out.2.2.2.1
    have hBw := H0.out.2.2.2.2.2.1
    have n1 : 0 ≠ S := by omega
    have n2 : S ≠ 0 := by omega
    have HNO := Lib.hid hno
    clear hlo hSw hBw hno
    go_wp2_with fail
    go_region
    all_goals
      go_wp2
      (try simp only [Exit.inBlock, Exit.then])
      refine bodyPost_ret (v := .tuple #[encO zeroO, eV ad 6]) ?_ rfl (.inr ⟨HNO.out, rfl, ?_⟩)
      · rw [results_ct rfl]
        unfold encO zeroO eV
        go_simp
      · exact (below_cells (b := S) H1.out.2.1 (by have := H0.out.2.2.2.1; omega) 0 [.int .i64 0, .int .i64 0, .int .i64 0, .int .u8 0, .int .i64 0, .int .i64 0, .string ⟨#[]⟩, .string ⟨#[]⟩]).drew
  | true =>
    have HOK : Aside (KnownN (allR R) nd) := H0.out.2.2.2.2.2.2.1 rfl
    have hown := own_any w1 br T i ao cap bt bx bc R 115 nd 0 name value H1.out.2.2.2 H1.out.2.2.1 hi hT hm hn hs1 hs2
    unfold encO at hown
    dsimp only at hown
    go_wp2_with fail
    refine hown.mono ?_
    clear hown
    rintro e w2 ⟨he, hb2⟩
    obtain ⟨y, hy⟩ : ∃ y, y = (if errO (ownX T i (R i).length 115 nd 0 name value) = 0 then ownX T i (R i).length 115 nd 0 name value else zeroO) := ⟨_, rfl⟩
    obtain ⟨er, her⟩ : ∃ er, er = eV ad (errO (ownX T i (R i).length 115 nd 0 name value)) := ⟨_, rfl⟩
    rw [← hy, ← her] at he
    subst he
    have HY : Aside (y = (if errO (ownX T i (R i).length 115 nd 0 name value) = 0 then ownX T i (R i).length 115 nd 0 name value else zeroO) ∧ er = eV ad (errO (ownX T i (R i).length 115 nd 0 name value))) := ⟨hy, her⟩
    clear hy her
    obtain ⟨t, b, n, kd, nd', o, s, v⟩ := y
    unfold encO
    dsimp only
    have Z2 := H1.out.1.later hb2
    obtain ⟨z0, z1, z2, z3, z4, z5, z6, z7, zf⟩ := Z2.cells
    unfold zeroO at z0 z1 z2 z3 z4 z5 z6 z7
    dsimp only at z0 z1 z2 z3 z4 z5 z6 z7
    have B2 : Aside (Below w.heap.size w w2) := H1.out.2.1.trans (hb2.mono H1.out.2.1.size)
    clear hb2 Z2
    go_wp2
    (try simp only [Exit.inBlock, Exit.then])
    refine bodyPost_ret (v := .tuple #[.agg #[.int .i64 t, .int .i64 b, .int .i64 n, .int .u8 (kd : Int), .int .i64 nd', .int .i64 o, .string s, .string v], er]) ?_ rfl (.inl ⟨HOK.out, ⟨by rw [← HY.out.1, ← HY.out.2]; rfl, ?_⟩⟩)
    · rw [results_ct rfl]
      go_simp
    · exact below_cells (b := S) B2.out (by have := H0.out.2.2.2.1; omega) 0 [.int .i64 t, .int .i64 b, .int .i64 n, .int .u8 (kd : Int), .int .i64 nd', .int .i64 o, .string s, .string v]
set_option maxRecDepth 100000 in
set_option maxHeartbeats 8000000 in
theorem erase_any {B : Nat} {ad : Nat → Addr} (w : World) (c : Nat → Nat) (br : Nat) (T : Int) (i : Nat) (ao : Nat → Option Addr) (cap : Nat → Nat) (bt bx bc : Nat) (R : Rws) (A : List OpX) (nd n : Int) (hc : RepCell w br T (i : Int) (kvs ao cap R) bt bx bc) (htext : TextC w c bx A) (hperm : A.Perm (allR R)) (hE : EnvE B ad w) (hi : i < 4) (hT : 0 ≤ T) (hm : T < 1073741824) (hn : (allR R).length ≤ 140) (h2 : -9223372036854775808 ≤ nd) (h3 : nd ≤ 9223372036854775807) (hn1 : -9223372036854775808 ≤ n) (hn2 : n ≤ 9223372036854775807) :
    Calls Tryz.prog 83 #[.pointer (some ⟨br, 0, none⟩), .int .i64 nd, .int .i64 n] w fun e w' => ∃ a : Int × Bool, ((¬ KnownN A nd → a = (0, false)) ∧ (KnownN A nd → ∃ L, LineIs A nd L ∧ a = atL n L)) ∧ MadeOut ad w (a.2 = true) (ownX T i (R i).length 100 nd a.1 ⟨#[]⟩ ⟨#[]⟩) e w' := by
  have hAl : A.length ≤ 140 := by have := hperm.length_eq; omega
  obtain ⟨S, hS⟩ : ∃ S, S = w.heap.size := ⟨_, rfl⟩
  obtain ⟨U, hU⟩ : ∃ U, U = w.alloc (.cells #[.int .i64 0, .int .i64 0, .int .i64 0, .int .u8 0, .int .i64 0, .int .i64 0, .string ⟨#[]⟩, .string ⟨#[]⟩] 31) := ⟨_, rfl⟩
  have hbU : Below w.heap.size w U := by rw [hU]; exact (Below.refl _ w).alloc (Nat.le_refl _) _
  have Z0 : OpBlk U S zeroO := by rw [hU, hS]; exact OpBlk.new w zeroO
  have hcU : RepCell U br T (i : Int) (kvs ao cap R) bt bx bc := hc.same (hbU.block _ hc.lt)
  have htU : TextC U c bx A := htext.kept ⟨fun k hk _ => hbU.block k hk, fun _ _ => rfl⟩ (fun _ _ => ⟨fun k hk _ => hbU.block k hk, fun _ _ => rfl⟩)
  have hlet := letter_any U c br T (i : Int) (kvs ao cap R) bt bx bc A nd n hcU htU (by omega) (by omega) (by omega) ⟨hn1, hn2⟩
  have H0 : Aside (RepCell U br T (i : Int) (kvs ao cap R) bt bx bc ∧ OpBlk U S zeroO ∧ Below w.heap.size w U ∧ S = w.heap.size ∧ EnvE B ad U ∧ B ≤ w.heap.size) := ⟨hcU, Z0, hbU, hS, hE.later hbU, hE.size⟩
  have HU : Aside (U = w.alloc (.cells #[.int .i64 0, .int .i64 0, .int .i64 0, .int .u8 0, .int .i64 0, .int .i64 0, .string ⟨#[]⟩, .string ⟨#[]⟩] 31)) := hU
  clear hU hcU Z0 hbU hE hc hS htext htU
  go_enter Tryz.func83, Tryz.ntmps83
  go_upto_region 1 with fail
  rw [← HU.out, ← H0.out.2.2.2.1]
  go_wp2_with fail
  refine hlet.mono ?_
  clear hlet
  rintro e w1 ⟨⟨into, zb⟩, rfl, ha1, ha2, hb1⟩
  dsimp only
  have HA : Aside ((¬ KnownN A nd → (into, zb) = ((0 : Int), false)) ∧ (KnownN A nd → ∃ L, LineIs A nd L ∧ (into, zb) = atL n L)) := ⟨ha1, ha2⟩
  have Z1 := H0.out.2.1.later hb1
  have H1 : Aside (OpBlk w1 S zeroO ∧ Below w.heap.size w w1 ∧ EnvE B ad w1 ∧ RepCell w1 br T (i : Int) (kvs ao cap R) bt bx bc) := ⟨Z1, H0.out.2.2.1.trans (hb1.mono H0.out.2.2.1.size), H0.out.2.2.2.2.1.later hb1, H0.out.1.same (hb1.block _ H0.out.1.lt)⟩
  clear hb1 Z1 ha1 ha2
  cases zb with
  | false =>
    have hno : ¬ (((into, false) : Int × Bool).2 = true) := by simp
    obtain ⟨z0, z1, z2, z3, z4, z5, z6, z7, zf⟩ := H1.out.1.cells
    unfold zeroO at z0 z1 z2 z3 z4 z5 z6 z7
    dsimp only at z0 z1 z2 z3 z4 z5 z6 z7
    have eg := H1.out.2.2.1.c5
    have hlo := H1.out.2.2.1.low
    have hSw := H0.out.2.2.2.1
    have hBw := H0.out.2.2.2.2.2
    have n1 : 0 ≠ S := by omega
    have n2 : S ≠ 0 := by omega
    have HNO := Lib.hid hno
    clear hlo hSw hBw hno
    go_wp2_with fail
    go_region
    all_goals
      go_wp2
      (try simp only [Exit.inBlock, Exit.then])
      refine bodyPost_ret (v := .tuple #[encO zeroO, eV ad 6]) ?_ rfl ⟨(into, false), HA.out, .inr ⟨HNO.out, rfl, ?_⟩⟩
      · rw [results_ct rfl]
        unfold encO zeroO eV
        go_simp
      · exact (below_cells (b := S) H1.out.2.1 (by have := H0.out.2.2.2.1; omega) 0 [.int .i64 0, .int .i64 0, .int .i64 0, .int .u8 0, .int .i64 0, .int .i64 0, .string ⟨#[]⟩, .string ⟨#[]⟩]).drew
  | true =>
    have HOK : Aside (((into, true) : Int × Bool).2 = true) := rfl
    have hown := own_any w1 br T i ao cap bt bx bc R 100 nd into ⟨#[]⟩ ⟨#[]⟩ H1.out.2.2.2 H1.out.2.2.1 hi hT hm hn (by decide) (by decide)
    unfold encO at hown
    dsimp only at hown
    go_wp2_with fail
    refine hown.mono ?_
    clear hown
    rintro e w2 ⟨he, hb2⟩
    obtain ⟨y, hy⟩ : ∃ y, y = (if errO (ownX T i (R i).length 100 nd into ⟨#[]⟩ ⟨#[]⟩) = 0 then ownX T i (R i).length 100 nd into ⟨#[]⟩ ⟨#[]⟩ else zeroO) := ⟨_, rfl⟩
    obtain ⟨er, her⟩ : ∃ er, er = eV ad (errO (ownX T i (R i).length 100 nd into ⟨#[]⟩ ⟨#[]⟩)) := ⟨_, rfl⟩
    rw [← hy, ← her] at he
    subst he
    have HY : Aside (y = (if errO (ownX T i (R i).length 100 nd into ⟨#[]⟩ ⟨#[]⟩) = 0 then ownX T i (R i).length 100 nd into ⟨#[]⟩ ⟨#[]⟩ else zeroO) ∧ er = eV ad (errO (ownX T i (R i).length 100 nd into ⟨#[]⟩ ⟨#[]⟩))) := ⟨hy, her⟩
    clear hy her
    obtain ⟨t, b, m, kd, nd', o, s, v⟩ := y
    unfold encO
    dsimp only
    have Z2 := H1.out.1.later hb2
    obtain ⟨z0, z1, z2, z3, z4, z5, z6, z7, zf⟩ := Z2.cells
    unfold zeroO at z0 z1 z2 z3 z4 z5 z6 z7
    dsimp only at z0 z1 z2 z3 z4 z5 z6 z7
    have B2 : Aside (Below w.heap.size w w2) := H1.out.2.1.trans (hb2.mono H1.out.2.1.size)
    clear hb2 Z2
    go_wp2
    (try simp only [Exit.inBlock, Exit.then])
    refine bodyPost_ret (v := .tuple #[.agg #[.int .i64 t, .int .i64 b, .int .i64 m, .int .u8 (kd : Int), .int .i64 nd', .int .i64 o, .string s, .string v], er]) ?_ rfl ⟨(into, true), HA.out, .inl ⟨rfl, ⟨by dsimp only; rw [← HY.out.1, ← HY.out.2]; rfl, ?_⟩⟩⟩
    · rw [results_ct rfl]
      go_simp
    · exact below_cells (b := S) B2.out (by have := H0.out.2.2.2.1; omega) 0 [.int .i64 t, .int .i64 b, .int .i64 m, .int .u8 (kd : Int), .int .i64 nd', .int .i64 o, .string s, .string v]
end Go.Proofs.YtcggmagdndhkbaaGreatDoor
end
