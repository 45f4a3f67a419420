import Derived.Test.YtcggmagdndhkbaaGreatDoorAx13
import Derived.Test.YtcggmagdndhkbaaGreatDoorAx18
import Derived.Test.YtcggmagdndhkbaaGreatDoorAx19
import Derived.BigQuiet
import Derived.Test.YtcggmagdndhkbaaGreatDoorProg
import Derived.WalkKit
import Derived.WalkSpells
import Derived.Below
import Derived.LaidEql
import Derived.Stop.Asserts
import Derived.RowKitTokens
import Derived.KernelRfl
section
set_option linter.unusedVariables false
set_option linter.unusedSimpArgs false
namespace Go.Proofs.YtcggmagdndhkbaaGreatDoor
open Go Go.RowKit Go.Lib Go.Sort
def xN : OpX := (1, 0, 1, 109, 4, 0, ⟨#[97]⟩, ⟨#[]⟩)
theorem errN : errJ xN = 0 := by decide
theorem refOpText (x : OpX) (w : World) (h : errJ x = 0) : Calls Tryz.prog 97 #[encJ x] w fun e w' => ∃ t : ByteArray, t.data.toList = textO x ∧ e = .returned (.string t) ∧ Below w.heap.size w w' := by
  obtain ⟨t, b, n, kd, nd, o, s, v⟩ := x
  refine (rtext_any t b n kd nd o s v w h).mono ?_
  rintro e w' ⟨rfl, hb⟩
  exact ⟨_, rfl, rfl, hb⟩
structure NotedAt (d : Nat) (v : Value) (g Q : Nat) (w0 w' : World) : Prop where
  disk : DiskAt w' d v (recL (textO xN), false, false, 0)
  op : OpJ w' Q xN
  row : Eight w' g 0 1 0 1 109 4 0 ⟨#[97]⟩ ⟨#[]⟩
  below : Below w0.heap.size w0 w'
theorem NotedAt.later {d : Nat} {v : Value} {g Q : Nat} {w0 w w' : World} (h : NotedAt d v g Q w0 w) (hb : Below w.heap.size w w') : NotedAt d v g Q w0 w' := ⟨h.disk.later hb, h.op.later hb, h.row.later hb, h.below.trans (hb.mono h.below.size)⟩
theorem row_one {w : World} {base : Nat} {rv : Value} {x : OpX} (h : w.ownsRow base 31 8 rv [x].length (cellsOf [x])) : ∃ g cap, rv = .slice (some ⟨g, 0, none⟩) 1 cap ∧ Eight w g 0 x.1 x.2.1 x.2.2.1 x.2.2.2.1 x.2.2.2.2.1 x.2.2.2.2.2.1 x.2.2.2.2.2.2.1 x.2.2.2.2.2.2.2 := by
  rcases ownsOps h with ⟨_, q⟩ | ⟨b, o, cp, e, hc⟩
  · cases q
  · obtain ⟨t, b', n, kd, nd, oo, s, v⟩ := x
    rcases h.2 with ⟨q, _⟩ | ⟨g, cap, cur, e2, _⟩
    · rw [q] at e; cases e
    · subst e2
      cases e
      refine ⟨_, _, rfl, ?_⟩
      have := eight_at hc 0 (by simp) (t := t) (b := b') (m := n) (kd := kd) (node := nd) (other := oo) (name := s) (value := v) rfl
      simpa using this
set_option maxRecDepth 100000 in
set_option maxHeartbeats 8000000 in
theorem noted_any {B : Nat} {ad : Nat → Addr} (w0 : World) (hE : EnvJ B ad w0) :
    Calls Tryz.prog 35 #[] w0 fun e w' => e = .returned (.bool true) ∧ Below w0.heap.size w0 w' := by
  have hnew := newDisk_any ⟨#[]⟩ w0 (by show (0 : Nat) ≤ 65536; omega)
  have HE : Aside (EnvJ w0.heap.size ad w0) := hE.up hE.size (Nat.le_refl _)
  clear hE
  go_enter Tryz.func35, Tryz.ntmps35
  go_wp2_with fail
  refine hnew.mono ?_
  clear hnew
  rintro e w1 ⟨d, v0, rfl, H1⟩
  obtain ⟨V, hV⟩ : ∃ V, Aside (V = w1.alloc (.cells #[.int .i64 1, .int .i64 0, .int .i64 1, .int .u8 109, .int .i64 4, .int .i64 0, .string ⟨#[97]⟩, .string ⟨#[]⟩] 31)) := ⟨_, rfl⟩
  obtain ⟨Q, hQ⟩ : ∃ Q, Aside (Q = w1.heap.size) := ⟨_, rfl⟩
  have hbV : Below w1.heap.size w1 V := by rw [hV.out]; exact (Below.refl _ w1).alloc (Nat.le_refl _) _
  have OV : OpJ V Q xN := by rw [hV.out, hQ.out]; exact OpJ.new w1 xN
  have HD1 : Aside (DiskAt V d v0 ([], false, false, 0) ∧ EnvJ w0.heap.size ad V ∧ (∀ k, OwnD d v0 k → w0.heap.size ≤ k) ∧ Below w0.heap.size w0 V ∧ ¬ OwnD d v0 Q) := by
    refine ⟨H1.out.1.later hbV, (HE.out.mono H1.out.2.1).later hbV, H1.out.2.2, H1.out.2.1.trans (hbV.mono H1.out.2.1.size), fun q => ?_⟩
    have := H1.out.1.own_lt q
    have := hQ.out
    omega
  have happ := append_any V xN HD1.out.1 HD1.out.2.1 HD1.out.2.2.1 (by decide) (by decide) (by show (0 : Nat) ≤ 65536; omega)
  have hlen : (recL (textO xN)).length ≤ 1010 := by rw [recL_len]; have := textO_len errN; omega
  rw [app_free errN (by show 0 + _ ≤ _; omega)] at happ
  unfold encJ at happ
  dsimp only [xN] at happ
  rw [show eV ad 0 = .nilIface from rfl] at happ
  have happ2 : Calls Tryz.prog 37 #[.pointer (some ⟨d, 0, none⟩), .agg #[.int .i64 1, .int .i64 0, .int .i64 1, .int .u8 109, .int .i64 4, .int .i64 0, .string ⟨#[97]⟩, .string ⟨#[]⟩]] V fun e w' => e = .returned .nilIface ∧ Aside (WroteD d v0 V (recL (textO xN), false, false, 0) w') := happ
  obtain ⟨q0, q1, q2, q3, q4, q5, q6, q7, -⟩ := OV.cells
  dsimp only [xN] at q0 q1 q2 q3 q4 q5 q6 q7
  have HOV : Aside (OpJ V Q xN ∧ (recL (textO xN)).length ≤ 1010) := ⟨OV, hlen⟩
  clear happ hbV OV H1 hlen
  go_upto_region 3 with fail
  rw [← hV.out, ← hQ.out]
  go_wp2_with fail
  refine happ2.mono ?_
  clear happ2 q0 q1 q2 q3 q4 q5 q6 q7
  rintro e w2 ⟨rfl, H2⟩
  obtain ⟨v, hD2, hO2, hK2⟩ := H2.out.own HD1.out.2.1.size HD1.out.2.2.1
  have hb2 : Below w0.heap.size V w2 := H2.out.below HD1.out.2.1.size HD1.out.2.2.1
  have HD2 : Aside (DiskAt w2 d v (recL (textO xN), false, false, 0) ∧ (∀ k, OwnD d v k → w0.heap.size ≤ k) ∧ Below w0.heap.size w0 w2 ∧ OpJ w2 Q xN ∧ Q ≠ d) := ⟨hD2, hO2, HD1.out.2.2.2.1.trans hb2, (hK2.block Q HOV.out.1.lt HD1.out.2.2.2.2).trans HOV.out.1, fun q => HD1.out.2.2.2.2 (.inl q)⟩
  have hrc := recover_any w2 hD2 (HD1.out.2.1.mono hb2) hO2 (by have := HOV.out.2; show (recL (textO xN)).length ≤ 65536; omega)
  have HRL : Aside (readL_ (recL (textO xN)) = ([xN], (recL (textO xN)).length)) := by
    have := readA_nil [xN] (fun x hx => by rw [List.mem_singleton.1 hx]; exact errN)
    have e : recsL [xN] = recL (textO xN) := by show recL (textO xN) ++ [] = _; rw [List.append_nil]
    rw [e] at this
    exact this
  have hrc2 : Calls Tryz.prog 42 #[.pointer (some ⟨d, 0, none⟩)] w2 fun e w' => ∃ g cap, e = .returned (.tuple #[.slice (some ⟨g, 0, none⟩) 1 cap, .nilIface]) ∧ Aside (∃ v', NotedAt d v' g Q w0 w') := hrc.mono (fun e w' q => by
    obtain ⟨rv, he, q⟩ := q
    obtain ⟨q1, q2, q3⟩ := q.out
    rw [HRL.out] at q2
    obtain ⟨g, cap, e2, h8⟩ := row_one q2
    subst e2
    obtain ⟨v', hD', hO', hK'⟩ := q1.own (HD1.out.2.1.mono hb2).size hO2
    refine ⟨g, cap, he, v', ?_, ?_, h8, ?_⟩
    · have e : backSt (recL (textO xN), false, false, 0) = (recL (textO xN), false, false, 0) := by
        unfold backSt
        dsimp only
        rw [HRL.out]
        dsimp only
        rw [List.take_of_length_le (Nat.le_refl _)]
      rw [e] at hD'
      exact hD'
    · exact (q3.block Q HD2.out.2.2.2.1.lt HD2.out.2.2.2.2).trans HD2.out.2.2.2.1
    · exact HD2.out.2.2.1.trans (q1.below (HD1.out.2.1.mono hb2).size hO2))
  clear hrc hD2 hO2 hK2 hb2
  go_wp2_with fail
  refine hrc2.mono ?_
  clear hrc2
  rintro e w4 ⟨g, cap, rfl, H4⟩
  obtain ⟨v', h4⟩ := H4.out
  clear H4 HD2 H2
  obtain ⟨v, hvv⟩ : ∃ v, v = v' := ⟨_, rfl⟩
  subst hvv
  have N0 : NotedAt d v g Q w0 w4.drew := h4.later (Below.refl _ w4).drew
  have hby := bytes_any w4.drew N0.disk
  obtain ⟨X, hX⟩ : ∃ X : ByteArray, Aside (X = ⟨(recL (textO xN)).toArray⟩) := ⟨_, rfl⟩
  dsimp only at hby
  rw [← hX.out] at hby
  obtain ⟨Y, hY⟩ : ∃ Y : ByteArray, Aside (Y = ⟨(textO xN).toArray⟩) := ⟨_, rfl⟩
  have HTX : Aside (∀ W, Calls Tryz.prog 97 #[.agg #[.int .i64 1, .int .i64 0, .int .i64 1, .int .u8 109, .int .i64 4, .int .i64 0, .string ⟨#[97]⟩, .string ⟨#[]⟩]] W fun e w' => e = .returned (.string Y) ∧ Below W.heap.size W w') := fun W => (refOpText xN W errN).mono (fun e w' q => by
    obtain ⟨t, ht, he, hb⟩ := q
    have : t = Y := by apply bytes_ext; rw [ht, hY.out]
    rw [this] at he
    exact ⟨he, hb⟩)
  have HRC : Aside (∀ W, Calls Tryz.prog 96 #[.string Y] W fun e w' => e = .returned (.string X) ∧ Below W.heap.size W w') := fun W => (refRecord_any Y W (by rw [hY.out]; have := textO_len errN; show (textO xN).toArray.size ≤ _; simp; omega)).mono (fun e w' q => by
    obtain ⟨r, hr, he, hb⟩ := q
    have : r = X := by apply bytes_ext; rw [hr, hX.out, hY.out]
    rw [this] at he
    exact ⟨he, hb⟩)
  have heq : ∀ w : World, (Op.equalIn 10000 31 (.agg #[.int .i64 1, .int .i64 0, .int .i64 1, .int .u8 109, .int .i64 4, .int .i64 0, .string ⟨#[97]⟩, .string ⟨#[]⟩]) (.agg #[.int .i64 1, .int .i64 0, .int .i64 1, .int .u8 109, .int .i64 4, .int .i64 0, .string ⟨#[97]⟩, .string ⟨#[]⟩])).run Tryz.prog w = .ok true w := fun w => by
    have := eqOp 1 0 1 109 4 0 ⟨#[97]⟩ ⟨#[]⟩ 1 0 1 109 4 0 ⟨#[97]⟩ ⟨#[]⟩ w
    rw [eqB_self] at this
    exact this
  have hXX : (X.toList == X.toList) = true := by simp
  clear h4
  go_upto_region 6 with fail
  refine wp_region_H (S := (fun w' => NotedAt d v g Q w0 w')) (by kernel_rfl) N0 (fun hHeld => ?_)
  refine wpAnyH_take (i := 0) (v := ?vaa0) rfl (by kernel_rfl) (by kernel_rfl) (by kernel_rfl) (fun _ _ _ h => h) (Or.inl ⟨by rfl, ?hya0⟩) hHeld ?resta0
  case hya0 => (intro w' hSw; clear hSw; go_simp; try with_reducible rfl)
  try simp only [List.getElem_toArray, List.getElem_cons_succ, List.getElem_cons_zero, Act.put, List.setIfInBounds_toArray, List.set_cons_zero, List.set_cons_succ]
  refine wpAnyH_take (i := 1) (v := ?vaa1) rfl (by kernel_rfl) (by kernel_rfl) (by kernel_rfl) (fun _ _ _ h => h) (Or.inl ⟨by rfl, ?hya1⟩) hHeld ?resta1
  case hya1 => (intro w' hSw; clear hSw; go_simp; try with_reducible rfl)
  try simp only [List.getElem_toArray, List.getElem_cons_succ, List.getElem_cons_zero, Act.put, List.setIfInBounds_toArray, List.set_cons_zero, List.set_cons_succ]
  refine wpAnyH_take (i := 2) (v := ?vaa2) rfl (by kernel_rfl) (by kernel_rfl) (by kernel_rfl) (fun _ _ _ h => h) (Or.inl ⟨by rfl, ?hya2⟩) hHeld ?resta2
  case hya2 => (intro w' hSw; clear hSw; go_simp; try with_reducible rfl)
  try simp only [List.getElem_toArray, List.getElem_cons_succ, List.getElem_cons_zero, Act.put, List.setIfInBounds_toArray, List.set_cons_zero, List.set_cons_succ]
  refine wpAnyH_take (i := 3) (v := ?vaa3) rfl (by kernel_rfl) (by kernel_rfl) (by kernel_rfl) (fun _ _ _ h => h) (Or.inl ⟨by rfl, ?hya3⟩) hHeld ?resta3
  case hya3 => (intro w' hSw; clear hSw; go_simp; try with_reducible rfl)
  try simp only [List.getElem_toArray, List.getElem_cons_succ, List.getElem_cons_zero, Act.put, List.setIfInBounds_toArray, List.set_cons_zero, List.set_cons_succ]
  refine wpAnyH_take (i := 4) (v := ?vaa4) rfl (by kernel_rfl) (by kernel_rfl) (by kernel_rfl) (fun _ _ _ h => h) (Or.inl ⟨by rfl, ?hya4⟩) hHeld ?resta4
  case hya4 => (intro w' hSw; clear hSw; go_simp; try with_reducible rfl)
  try simp only [List.getElem_toArray, List.getElem_cons_succ, List.getElem_cons_zero, Act.put, List.setIfInBounds_toArray, List.set_cons_zero, List.set_cons_succ]
  refine wpAnyH_take (i := 5) (v := ?vaa5) rfl (by kernel_rfl) (by kernel_rfl) (by kernel_rfl) (fun _ _ _ h => h) (Or.inl ⟨by rfl, ?hya5⟩) hHeld ?resta5
  case hya5 => (intro w' hSw; clear hSw; go_simp; try with_reducible rfl)
  try simp only [List.getElem_toArray, List.getElem_cons_succ, List.getElem_cons_zero, Act.put, List.setIfInBounds_toArray, List.set_cons_zero, List.set_cons_succ]
  refine wpAnyH_take (i := 6) (v := ?vaa6) rfl (by kernel_rfl) (by kernel_rfl) (by kernel_rfl) (fun _ _ _ h => h) (Or.inl ⟨by rfl, ?hya6⟩) hHeld ?resta6
  case hya6 => (intro w' hSw; clear hSw; go_simp; try with_reducible rfl)
  try simp only [List.getElem_toArray, List.getElem_cons_succ, List.getElem_cons_zero, Act.put, List.setIfInBounds_toArray, List.set_cons_zero, List.set_cons_succ]
  refine wpAnyH_take (i := 7) (v := ?vaa7) rfl (by kernel_rfl) (by kernel_rfl) (by kernel_rfl) (fun _ _ _ h => h) (Or.inl ⟨by rfl, ?hya7⟩) hHeld ?resta7
  case hya7 => (intro w' hSw; clear hSw; go_simp; try with_reducible rfl)
  try simp only [List.getElem_toArray, List.getElem_cons_succ, List.getElem_cons_zero, Act.put, List.setIfInBounds_toArray, List.set_cons_zero, List.set_cons_succ]
  refine wpAnyH_take (i := 8) (v := ?vaa8) rfl (by kernel_rfl) (by kernel_rfl) (by kernel_rfl) (fun _ _ _ h => h) (Or.inl ⟨by rfl, ?hya8⟩) hHeld ?resta8
  case hya8 => (intro w' hSw; clear hSw; go_simp; try with_reducible rfl)
  try simp only [List.getElem_toArray, List.getElem_cons_succ, List.getElem_cons_zero, Act.put, List.setIfInBounds_toArray, List.set_cons_zero, List.set_cons_succ]
  refine wpAnyH_take (i := 9) (v := ?vaa9) rfl (by kernel_rfl) (by kernel_rfl) (by kernel_rfl) (fun _ _ _ h => h) (Or.inl ⟨by rfl, ?hya9⟩) hHeld ?resta9
  case hya9 => (intro w' hSw; clear hSw; go_simp; try with_reducible rfl)
  try simp only [List.getElem_toArray, List.getElem_cons_succ, List.getElem_cons_zero, Act.put, List.setIfInBounds_toArray, List.set_cons_zero, List.set_cons_succ]
  refine wpAnyH_take (i := 10) (v := ?vaa10) rfl (by kernel_rfl) (by kernel_rfl) (by kernel_rfl) (fun _ _ _ h => h) (Or.inl ⟨by rfl, ?hya10⟩) hHeld ?resta10
  case hya10 => (intro w' hSw; obtain ⟨q0, q1, q2, q3, q4, q5, q6, q7⟩ := hSw.row; clear hSw; go_simp; try with_reducible rfl)
  try simp only [List.getElem_toArray, List.getElem_cons_succ, List.getElem_cons_zero, Act.put, List.setIfInBounds_toArray, List.set_cons_zero, List.set_cons_succ]
  refine wpAnyH_take (i := 11) (v := ?vaa11) rfl (by kernel_rfl) (by kernel_rfl) (by kernel_rfl) (fun _ _ _ h => h) (Or.inl ⟨by rfl, ?hya11⟩) hHeld ?resta11
  case hya11 => (intro w' hSw; obtain ⟨q0, q1, q2, q3, q4, q5, q6, q7, -⟩ := OpJ.cells hSw.op; dsimp only [xN] at q0 q1 q2 q3 q4 q5 q6 q7; clear hSw; go_simp; try with_reducible rfl)
  try simp only [List.getElem_toArray, List.getElem_cons_succ, List.getElem_cons_zero, Act.put, List.setIfInBounds_toArray, List.set_cons_zero, List.set_cons_succ]
  refine wpAnyH_take (i := 12) (v := ?vaa12) rfl (by kernel_rfl) (by kernel_rfl) (by kernel_rfl) (fun _ _ _ h => h) (Or.inl ⟨by rfl, ?hya12⟩) hHeld ?resta12
  case hya12 => (intro w' hSw; clear hSw; go_simp; try with_reducible rfl)
  try simp only [List.getElem_toArray, List.getElem_cons_succ, List.getElem_cons_zero, Act.put, List.setIfInBounds_toArray, List.set_cons_zero, List.set_cons_succ]
  refine wpAnyH_take (i := 13) (v := ?vaa13) rfl (by kernel_rfl) (by kernel_rfl) (by kernel_rfl) (fun _ _ _ h => h) (Or.inl ⟨by rfl, ?hya13⟩) hHeld ?resta13
  case hya13 => (intro w' hSw; clear hSw; go_simp; try with_reducible rfl)
  try simp only [List.getElem_toArray, List.getElem_cons_succ, List.getElem_cons_zero, Act.put, List.setIfInBounds_toArray, List.set_cons_zero, List.set_cons_succ]
  refine wpAnyH_take (i := 14) (v := ?vaa14) rfl (by kernel_rfl) (by kernel_rfl) (by kernel_rfl) (fun _ _ _ h => h) (Or.inl ⟨by rfl, ?hya14⟩) hHeld ?resta14
  case hya14 => (intro w' hSw; clear hSw; go_simp; try with_reducible rfl)
  try simp only [List.getElem_toArray, List.getElem_cons_succ, List.getElem_cons_zero, Act.put, List.setIfInBounds_toArray, List.set_cons_zero, List.set_cons_succ]
  refine wpAnyH_take (i := 15) (v := ?vaa15) rfl (by kernel_rfl) (by kernel_rfl) (by kernel_rfl) (fun _ _ _ h => h) (Or.inl ⟨by rfl, ?hya15⟩) hHeld ?resta15
  case hya15 => (intro w' hSw; clear hSw; go_simp; try with_reducible rfl)
  try simp only [List.getElem_toArray, List.getElem_cons_succ, List.getElem_cons_zero, Act.put, List.setIfInBounds_toArray, List.set_cons_zero, List.set_cons_succ]
  refine wpAnyH_take (i := 17) (v := ?vaa17) rfl (by kernel_rfl) (by kernel_rfl) (by kernel_rfl) (fun _ _ _ h => h) (Or.inl ⟨by rfl, ?hya17⟩) hHeld ?resta17
  case hya17 => (intro w' hSw; obtain ⟨q0, q1, q2, q3, q4, q5, q6, q7, -⟩ := OpJ.cells hSw.op; dsimp only [xN] at q0 q1 q2 q3 q4 q5 q6 q7; clear hSw; go_simp; try with_reducible rfl)
  try simp only [List.getElem_toArray, List.getElem_cons_succ, List.getElem_cons_zero, Act.put, List.setIfInBounds_toArray, List.set_cons_zero, List.set_cons_succ]
  refine wpAnyH_one (i := 16) (by kernel_rfl) rfl (fun K hK => ?_)
  go_simp
  refine hby.mono ?_
  clear hby
  rintro e w5 ⟨rfl, rfl⟩
  have htx := HTX.out w4.drew
  refine hK _ _ hHeld ?_
  clear hK K
  try simp only [List.getElem_toArray, List.getElem_cons_succ, List.getElem_cons_zero, Act.put, List.setIfInBounds_toArray, List.set_cons_zero, List.set_cons_succ]
  refine wpAnyH_one (i := 18) (by kernel_rfl) rfl (fun K hK => ?_)
  go_simp
  refine htx.mono ?_
  clear htx
  rintro e w6 ⟨rfl, hb6⟩
  have N1 := hHeld.later hb6
  have hrc := HRC.out w6
  refine hK _ _ N1 ?_
  clear hK K hHeld
  try simp only [List.getElem_toArray, List.getElem_cons_succ, List.getElem_cons_zero, Act.put, List.setIfInBounds_toArray, List.set_cons_zero, List.set_cons_succ]
  refine wpAnyH_one (i := 19) (by kernel_rfl) rfl (fun K hK => ?_)
  go_simp
  refine hrc.mono ?_
  clear hrc
  rintro e w7 ⟨rfl, hb7⟩
  have N2 := N1.later hb7
  refine hK _ _ N2 ?_
  clear hK K N1
  try simp only [List.getElem_toArray, List.getElem_cons_succ, List.getElem_cons_zero, Act.put, List.setIfInBounds_toArray, List.set_cons_zero, List.set_cons_succ]
  refine wpAnyH_take (i := 20) (v := ?vab20) rfl (by kernel_rfl) (by kernel_rfl) (by kernel_rfl) (fun _ _ _ h => h) (Or.inl ⟨by rfl, ?hyb20⟩) N2 ?restb20
  case hyb20 => (intro w' hSw; clear hSw; go_simp; try with_reducible rfl)
  try simp only [List.getElem_toArray, List.getElem_cons_succ, List.getElem_cons_zero, Act.put, List.setIfInBounds_toArray, List.set_cons_zero, List.set_cons_succ]
  refine wpAnyH_take (i := 21) (v := ?vab21) rfl (by kernel_rfl) (by kernel_rfl) (by kernel_rfl) (fun _ _ _ h => h) (Or.inl ⟨by rfl, ?hyb21⟩) N2 ?restb21
  case hyb21 => (intro w' hSw; clear hSw; go_simp; try with_reducible rfl)
  try simp only [List.getElem_toArray, List.getElem_cons_succ, List.getElem_cons_zero, Act.put, List.setIfInBounds_toArray, List.set_cons_zero, List.set_cons_succ]
  refine wpAnyH_take (i := 22) (v := ?vab22) rfl (by kernel_rfl) (by kernel_rfl) (by kernel_rfl) (fun _ _ _ h => h) (Or.inl ⟨by rfl, ?hyb22⟩) N2 ?restb22
  case hyb22 => (intro w' hSw; clear hSw; go_simp; try with_reducible rfl)
  try simp only [List.getElem_toArray, List.getElem_cons_succ, List.getElem_cons_zero, Act.put, List.setIfInBounds_toArray, List.set_cons_zero, List.set_cons_succ]
  refine wpAnyH_done (by kernel_rfl) ?_ _
  try simp only [List.getElem_toArray, List.getElem_cons_succ, List.getElem_cons_zero, Act.put, List.setIfInBounds_toArray, List.set_cons_zero, List.set_cons_succ]
  have HF : Aside (Below w0.heap.size w0 w7) := N2.below
  clear N2
  go_wp2
  go_ret
  exact ⟨rfl, HF.out⟩
end Go.Proofs.YtcggmagdndhkbaaGreatDoor
end
section
namespace Go.Proofs.YtcggmagdndhkbaaGreatDoor
open Go.RowKit Go.Extern.Stop Go.Stop Go.Extern
theorem Tryz.xValueOfPP (t : Addr) (w : World) : (ReflectliteValue.unpack (.iface 242 (.pointer (some t)))).run Tryz.prog w
    = .ok (.agg #[.pointer (some ⟨19, 242, none⟩), .pointer (some ⟨w.heap.size, 0, none⟩), .int .u64 150]) (w.alloc (.cells #[.pointer (some t)] 242)) := by kernel_rfl
theorem Tryz.xTypePP (a : Addr) (w : World) : (ReflectliteValue.methodAny (ReflectliteValue.valueError "reflectlite.Value.Type" 0) (fun t _ _ _ => ReflectliteType.toType t) #[.agg #[.pointer (some ⟨19, 242, none⟩), .pointer (some a), .int .u64 150]]).run Tryz.prog w
    = .ok (.iface 345 (.agg #[.pointer (some ⟨19, 242, none⟩)])) w := by kernel_rfl
theorem Tryz.xMethodKind (h : Value) (w : World) : (Go.method 546 345 (.agg #[h]) "Kind").run Tryz.prog w = .ok (350, h) w := by kernel_rfl
theorem Tryz.xKindPP (w : World) : ((ReflectliteType.abiMethod fun t => Functor.map (fun a : Nat => Value.int IntKind.u8 (a : Int)) (Rtype.kind t)) #[.pointer (some ⟨19, 242, none⟩)]).run Tryz.prog w = .ok (.int .u8 22) w := by kernel_rfl
theorem Tryz.xKindP (w : World) : ((ReflectliteType.abiMethod fun t => Functor.map (fun a : Nat => Value.int IntKind.u8 (a : Int)) (Rtype.kind t)) #[.pointer (some ⟨19, 193, none⟩)]).run Tryz.prog w = .ok (.int .u8 22) w := by kernel_rfl
theorem Tryz.xIsNilPP (a p : Addr) (W : World) (ha : W.cell? a = some (.pointer (some p))) :
    (ReflectliteValue.method (ReflectliteValue.valueError "reflectlite.Value.IsNil" 0) ReflectliteValue.isNil #[.agg #[.pointer (some ⟨19, 242, none⟩), .pointer (some a), .int .u64 150]]).run Tryz.prog W = .ok (.bool false) W := by
  rw [show (ReflectliteValue.method (ReflectliteValue.valueError "reflectlite.Value.IsNil" 0) ReflectliteValue.isNil #[.agg #[.pointer (some ⟨19, 242, none⟩), .pointer (some a), .int .u64 150]]).run Tryz.prog W = (ReflectliteValue.isNil 242 a 150 22).run Tryz.prog W by kernel_rfl]
  simp [ReflectliteValue.isNil, loadVar, isAgg, underlying, Tryz.underlying242, ha, Result.andThen]
theorem Tryz.xMethodElem (h : Value) (w : World) : (Go.method 546 345 (.agg #[h]) "Elem").run Tryz.prog w = .ok (364, .agg #[h]) w := by kernel_rfl
theorem Tryz.xMethodImplements (h : Value) (w : World) : (Go.method 546 345 (.agg #[h]) "Implements").run Tryz.prog w = .ok (365, .agg #[h]) w := by kernel_rfl
theorem Tryz.xMethodAssignableTo (h : Value) (w : World) : (Go.method 546 345 (.agg #[h]) "AssignableTo").run Tryz.prog w = .ok (362, .agg #[h]) w := by kernel_rfl
theorem Tryz.xElemPP (w : World) : (ReflectliteType.method ReflectliteType.elem #[.agg #[.pointer (some ⟨19, 242, none⟩)]]).run Tryz.prog w = .ok (.iface 345 (.agg #[.pointer (some ⟨19, 193, none⟩)])) w := by kernel_rfl
theorem Tryz.xImplementsP (w : World) : (ReflectliteType.relation "Implements" ReflectliteType.implements_ #[.agg #[.pointer (some ⟨19, 193, none⟩)], .iface 345 (.agg #[.pointer (some ⟨19, 25, none⟩)])]).run Tryz.prog w = .ok (.bool true) w := by kernel_rfl
theorem Tryz.xTypeOfS (v : Value) (w : World) : (ReflectliteType.typeOf #[.iface 416 v]).run Tryz.prog w = .ok (.iface 345 (.agg #[.pointer (some ⟨19, 416, none⟩)])) w := by kernel_rfl
theorem Tryz.xAssignableS (w : World) : (ReflectliteType.relation "AssignableTo" ReflectliteType.assignableTo #[.agg #[.pointer (some ⟨19, 416, none⟩)], .iface 345 (.agg #[.pointer (some ⟨19, 193, none⟩)])]).run Tryz.prog w = .ok (.bool false) w := by kernel_rfl
theorem Tryz.xNoAsS (v : Value) (xT : TypeId) (w : World) : (Instr.typeAssert (.iface 416 v) xT 349 true).run Tryz.prog w = .ok (.tuple #[.nilIface, .bool false]) w := run_typeAssert_lacksB Tryz.underlying349 (by kernel_rfl) (by kernel_rfl) v xT w
theorem Tryz.xNoIsS (v : Value) (xT : TypeId) (w : World) : (Instr.typeAssert (.iface 416 v) xT 356 true).run Tryz.prog w = .ok (.tuple #[.nilIface, .bool false]) w := run_typeAssert_lacksB Tryz.underlying356 (by kernel_rfl) (by kernel_rfl) v xT w
theorem Tryz.xNoUnwrapS (v : Value) (xT : TypeId) (w : World) : (Instr.typeAssert (.iface 416 v) xT 352 true).run Tryz.prog w = .ok (.tuple #[.nilIface, .bool false]) w := run_typeAssert_lacksB Tryz.underlying352 (by kernel_rfl) (by kernel_rfl) v xT w
theorem Tryz.xNoUnwrapsS (v : Value) (xT : TypeId) (w : World) : (Instr.typeAssert (.iface 416 v) xT 354 true).run Tryz.prog w = .ok (.tuple #[.nilIface, .bool false]) w := run_typeAssert_lacksB Tryz.underlying354 (by kernel_rfl) (by kernel_rfl) v xT w
def xCmp : Array Value → Sem Value := ReflectliteType.method fun t => do Rtype.noPackHeld "Comparable" t; pure (.bool (← typeInfo t).comparable)
theorem Tryz.xComparable (w : World) : (xCmp #[.agg #[.pointer (some ⟨19, 416, none⟩)]]).run Tryz.prog w = .ok (.bool true) w := by kernel_rfl
theorem Tryz.xMethodComparable (v : Value) (w : World) : (Go.method 546 345 v "Comparable").run Tryz.prog w = .ok (363, v) w := by kernel_rfl
theorem Tryz.xComp : (Tryz.prog.info? 416).map (·.comparable) = some true := by kernel_rfl
theorem Tryz.xSize : (Tryz.prog.info? 434).map (·.size) = some 1 := by kernel_rfl
end Go.Proofs.YtcggmagdndhkbaaGreatDoor
end
section
namespace Go.Proofs.YtcggmagdndhkbaaGreatDoor
open Go.RowKit Go.Extern.Stop Go.Stop Go.Extern
theorem is_same (a : Addr) (w : World) :
    Calls Tryz.prog 145 #[.iface 416 (.pointer (some a)), .iface 416 (.pointer (some a))] w fun e w' => e = .returned (.bool true) ∧ w' = w := by
  obtain ⟨i, hi, hcmp⟩ := Option.map_eq_some_iff.1 Tryz.xComp
  obtain ⟨j, hj, hjs⟩ := Option.map_eq_some_iff.1 Tryz.xSize
  have h8 := @run_callFunc_extern Tryz.prog 208 _ Extern.ReflectliteType.typeOf Tryz.func208 (by kernel_rfl) (by kernel_rfl) (by kernel_rfl) (by kernel_rfl)
  have h32 := @run_callFunc_extern Tryz.prog 363 _ xCmp Tryz.func363 (by kernel_rfl) (by kernel_rfl) (by kernel_rfl) (by kernel_rfl)
  have tT := Tryz.xTypeOfS
  have cT := Tryz.xComparable
  have mR := Tryz.xMethodComparable
  have heq := run_eql_iface_ptr_same (P := Tryz.prog) w a Tryz.underlying25 Tryz.underlying416 hi hcmp hj
  go_enter Tryz.func145, Tryz.ntmps145
  go_wp2
  refine wp_loop_rounds 1 ?_
  rw [rounds_succ]
  go_wp2
  go_ret
  exact ⟨rfl, rfl⟩
theorem is_other (a b : Addr) (ca cb : Array Value) (ta tb : TypeId) (w : World) (hne : a ≠ b) (ha : w.heap[a.block]? = some (.cells ca ta (0, 0))) (hb : w.heap[b.block]? = some (.cells cb tb (0, 0))) :
    Calls Tryz.prog 145 #[.iface 416 (.pointer (some a)), .iface 416 (.pointer (some b))] w fun e w' => e = .returned (.bool false) ∧ w' = w := by
  obtain ⟨i, hi, hcmp⟩ := Option.map_eq_some_iff.1 Tryz.xComp
  obtain ⟨j, hj, hjs⟩ := Option.map_eq_some_iff.1 Tryz.xSize
  have h8 := @run_callFunc_extern Tryz.prog 208 _ Extern.ReflectliteType.typeOf Tryz.func208 (by kernel_rfl) (by kernel_rfl) (by kernel_rfl) (by kernel_rfl)
  have h32 := @run_callFunc_extern Tryz.prog 363 _ xCmp Tryz.func363 (by kernel_rfl) (by kernel_rfl) (by kernel_rfl) (by kernel_rfl)
  have tT := Tryz.xTypeOfS
  have cT := Tryz.xComparable
  have mR := Tryz.xMethodComparable
  have nE := Tryz.xNoIsS
  have uE := Tryz.xNoUnwrapS
  have vE := Tryz.xNoUnwrapsS
  have heq := run_eql_iface_ptr_other (P := Tryz.prog) w Tryz.underlying25 Tryz.underlying416 hi hcmp hj (by rw [hjs]; decide) hne ha hb
  go_enter Tryz.func145, Tryz.ntmps145
  go_wp2
  refine wp_loop_rounds 1 ?_
  rw [rounds_succ]
  go_wp2
  go_ret
  exact ⟨rfl, rfl⟩
end Go.Proofs.YtcggmagdndhkbaaGreatDoor
end
section
namespace Go.Proofs.YtcggmagdndhkbaaGreatDoor
open Go.RowKit Go.Extern.Stop Go.Stop Go.Extern
set_option maxHeartbeats 4000000 in
theorem as_no (a t : Addr) (w : World) (hg : w.cell? ⟨12, 0, none⟩ = some (.iface 345 (.agg #[.pointer (some ⟨19, 25, none⟩)]))) :
    Calls Tryz.prog 144 #[.iface 416 (.pointer (some a)), .iface 242 (.pointer (some t))] w fun ev w' => ev = .returned (.bool false) ∧ Below w.heap.size w w' := by
  have h6 := @run_callFunc_extern Tryz.prog 204 _ (fun args => ReflectliteValue.unpack (args.getD 0 (.tuple #[]))) Tryz.func204 (by kernel_rfl) (by kernel_rfl) (by kernel_rfl) (by kernel_rfl)
  have h7 := @run_callFunc_extern Tryz.prog 205 _ (ReflectliteValue.methodAny (ReflectliteValue.valueError "reflectlite.Value.Type" 0) (fun t _ _ _ => ReflectliteType.toType t)) Tryz.func205 (by kernel_rfl) (by kernel_rfl) (by kernel_rfl) (by kernel_rfl)
  have h8 := @run_callFunc_extern Tryz.prog 206 _ (ReflectliteValue.method (ReflectliteValue.valueError "reflectlite.Value.IsNil" 0) ReflectliteValue.isNil) Tryz.func206 (by kernel_rfl) (by kernel_rfl) (by kernel_rfl) (by kernel_rfl)
  have h27 := @run_callFunc_extern Tryz.prog 350 _ (ReflectliteType.abiMethod fun t => do pure (.int .u8 (← Rtype.kind t))) Tryz.func350 (by kernel_rfl) (by kernel_rfl) (by kernel_rfl) (by kernel_rfl)
  have h37 := @run_callFunc_extern Tryz.prog 364 _ (ReflectliteType.method ReflectliteType.elem) Tryz.func364 (by kernel_rfl) (by kernel_rfl) (by kernel_rfl) (by kernel_rfl)
  have h38 := @run_callFunc_extern Tryz.prog 365 _ (ReflectliteType.relation "Implements" ReflectliteType.implements_) Tryz.func365 (by kernel_rfl) (by kernel_rfl) (by kernel_rfl) (by kernel_rfl)
  have h10 := @run_callFunc_extern Tryz.prog 208 _ ReflectliteType.typeOf Tryz.func208 (by kernel_rfl) (by kernel_rfl) (by kernel_rfl) (by kernel_rfl)
  have h35 := @run_callFunc_extern Tryz.prog 362 _ (ReflectliteType.relation "AssignableTo" ReflectliteType.assignableTo) Tryz.func362 (by kernel_rfl) (by kernel_rfl) (by kernel_rfl) (by kernel_rfl)
  have tO := Tryz.xTypeOfS
  have mA := Tryz.xMethodAssignableTo
  have a25 := Tryz.xAssignableS
  have f6 := Tryz.xValueOfPP
  have f7 := Tryz.xTypePP
  have mK := Tryz.xMethodKind
  have mE := Tryz.xMethodElem
  have mI := Tryz.xMethodImplements
  have k27 := Tryz.xKindPP
  have k25 := Tryz.xKindP
  have e27 := Tryz.xElemPP
  have i25 := Tryz.xImplementsP
  have nA := Tryz.xNoAsS
  have uE := Tryz.xNoUnwrapS
  have vE := Tryz.xNoUnwrapsS
  have n8 := Tryz.xIsNilPP ⟨w.heap.size, 0, none⟩ t ((w.alloc (.cells #[.pointer (some t)] 242)).alloc (.cells #[.pointer (some ⟨19, 242, none⟩), .pointer (some ⟨w.heap.size, 0, none⟩), .int .u64 150] 288)) (by simp)
  have hlt : 12 < w.heap.size := by
    rcases Nat.lt_or_ge 12 w.heap.size with h | h
    · exact h
    · simp [World.cell?, Array.getElem?_eq_none h] at hg
  have hg2 : ((w.alloc (.cells #[.pointer (some t)] 242)).alloc (.cells #[.pointer (some ⟨19, 242, none⟩), .pointer (some ⟨w.heap.size, 0, none⟩), .int .u64 150] 288)).cell? ⟨12, 0, none⟩ = some (.iface 345 (.agg #[.pointer (some ⟨19, 25, none⟩)])) := by
    rw [World.cell?_alloc_lt _ _ ⟨12, 0, none⟩ (by simp; omega), World.cell?_alloc_lt _ _ ⟨12, 0, none⟩ hlt]; exact hg
  go_enter Tryz.func144, Tryz.ntmps144
  go_wp2
  refine wp_loop_rounds 1 ?_
  rw [rounds_succ]
  go_wp2
  go_ret
  exact ⟨rfl, (((Below.refl _ _).alloc (Nat.le_refl _) _).alloc (by simp) _).alloc (by simp; omega) _⟩
end Go.Proofs.YtcggmagdndhkbaaGreatDoor
end
