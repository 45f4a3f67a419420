/- The journal laws' closed fact 'noted': one record is recovered. -/
import Derived.Test.YtcggmagdndhkbaaDoorJrnLaw
import Derived.Test.YtcggmagdndhkbaaDoorJrnSame
import Derived.Test.YtcggmagdndhkbaaDoorRefCrc
import Derived.Test.YtcggmagdndhkbaaDoorRefText
import Derived.BigQuiet
set_option linter.unusedVariables false
set_option linter.unusedSimpArgs false
namespace Go.Proofs.YtcggmagdndhkbaaDoor
open Go Go.RowKit Go.Lib Go.Sort

def xN : OpX := (1, 0, 1, 109, 4, 0, ⟨#[97]⟩, ⟨#[]⟩)
theorem errN : errJ xN = 0 := by decide
/-- The text of an operation, by the reference. -/
theorem refOpText (x : OpX) (w : World) (h : errJ x = 0) : Calls Tryd.prog 16 #[encJ x] w fun e w' => ∃ t : ByteArray, t.data.toList = textO x ∧ e = .returned (.string t) ∧ Below w.heap.size w w' := by
  obtain ⟨t, b, n, kd, nd, o, s, v⟩ := x
  refine (rtext_any t b n kd nd o s v w h).mono ?_
  rintro e w' ⟨rfl, hb⟩
  exact ⟨_, rfl, rfl, hb⟩
structure NotedAt (d : Nat) (v : Value) (g Q : Nat) (w0 w' : World) : Prop where
  disk : DiskAt w' d v (recL (textO xN), false, false, 0)
  op : OpJ w' Q xN
  row : Eight w' g 0 1 0 1 109 4 0 ⟨#[97]⟩ ⟨#[]⟩
  below : Below w0.heap.size w0 w'
theorem NotedAt.later {d : Nat} {v : Value} {g Q : Nat} {w0 w w' : World} (h : NotedAt d v g Q w0 w) (hb : Below w.heap.size w w') : NotedAt d v g Q w0 w' := ⟨h.disk.later hb, h.op.later hb, h.row.later hb, h.below.trans (hb.mono h.below.size)⟩
theorem row_one {w : World} {base : Nat} {rv : Value} {x : OpX} (h : w.ownsRow base 35 8 rv [x].length (cellsOf [x])) : ∃ g cap, rv = .slice (some ⟨g, 0, none⟩) 1 cap ∧ Eight w g 0 x.1 x.2.1 x.2.2.1 x.2.2.2.1 x.2.2.2.2.1 x.2.2.2.2.2.1 x.2.2.2.2.2.2.1 x.2.2.2.2.2.2.2 := by
  rcases ownsOps h with ⟨_, q⟩ | ⟨b, o, cp, e, hc⟩
  · cases q
  · obtain ⟨t, b', n, kd, nd, oo, s, v⟩ := x
    rcases h.2 with ⟨q, _⟩ | ⟨g, cap, cur, e2, _⟩
    · rw [q] at e; cases e
    · subst e2
      cases e
      refine ⟨_, _, rfl, ?_⟩
      have := eight_at hc 0 (by simp) (t := t) (b := b') (m := n) (kd := kd) (node := nd) (other := oo) (name := s) (value := v) rfl
      simpa using this

set_option maxRecDepth 100000 in
set_option maxHeartbeats 8000000 in
theorem noted_any {B : Nat} {ad : Nat → Addr} (w0 : World) (hE : EnvJ B ad w0) :
    Calls Tryd.prog 5 #[] w0 fun e w' => e = .returned (.bool true) ∧ Below w0.heap.size w0 w' := by
  have hnew := newDisk_any ⟨#[]⟩ w0 (by show (0 : Nat) ≤ 65536; omega)
  have HE : Aside (EnvJ w0.heap.size ad w0) := hE.up hE.size (Nat.le_refl _)
  clear hE
  go_enter Tryd.func5, Tryd.ntmps5
  go_wp2_with fail
  refine hnew.mono ?_
  clear hnew
  rintro e w1 ⟨d, v0, rfl, H1⟩
  obtain ⟨V, hV⟩ : ∃ V, Aside (V = w1.alloc (.cells #[.int .i64 1, .int .i64 0, .int .i64 1, .int .u8 109, .int .i64 4, .int .i64 0, .string ⟨#[97]⟩, .string ⟨#[]⟩] 35)) := ⟨_, rfl⟩
  obtain ⟨Q, hQ⟩ : ∃ Q, Aside (Q = w1.heap.size) := ⟨_, rfl⟩
  have hbV : Below w1.heap.size w1 V := by rw [hV.out]; exact (Below.refl _ w1).alloc (Nat.le_refl _) _
  have OV : OpJ V Q xN := by rw [hV.out, hQ.out]; exact OpJ.new w1 xN
  have HD1 : Aside (DiskAt V d v0 ([], false, false, 0) ∧ EnvJ w0.heap.size ad V ∧ (∀ k, OwnD d v0 k → w0.heap.size ≤ k) ∧ Below w0.heap.size w0 V ∧ ¬ OwnD d v0 Q) := by
    refine ⟨H1.out.1.later hbV, (HE.out.mono H1.out.2.1).later hbV, H1.out.2.2, H1.out.2.1.trans (hbV.mono H1.out.2.1.size), fun q => ?_⟩
    have := H1.out.1.own_lt q
    have := hQ.out
    omega
  have happ := append_any V xN HD1.out.1 HD1.out.2.1 HD1.out.2.2.1 (by decide) (by decide) (by show (0 : Nat) ≤ 65536; omega)
  have hlen : (recL (textO xN)).length ≤ 1010 := by rw [recL_len]; have := textO_len errN; omega
  rw [app_free errN (by show 0 + _ ≤ _; omega)] at happ
  unfold encJ at happ
  dsimp only [xN] at happ
  rw [show eV ad 0 = .nilIface from rfl] at happ
  have happ2 : Calls Tryd.prog 9 #[.pointer (some ⟨d, 0, none⟩), .agg #[.int .i64 1, .int .i64 0, .int .i64 1, .int .u8 109, .int .i64 4, .int .i64 0, .string ⟨#[97]⟩, .string ⟨#[]⟩]] V fun e w' => e = .returned .nilIface ∧ Aside (WroteD d v0 V (recL (textO xN), false, false, 0) w') := happ
  obtain ⟨q0, q1, q2, q3, q4, q5, q6, q7, -⟩ := OV.cells
  dsimp only [xN] at q0 q1 q2 q3 q4 q5 q6 q7
  have HOV : Aside (OpJ V Q xN ∧ (recL (textO xN)).length ≤ 1010) := ⟨OV, hlen⟩
  clear happ hbV OV H1 hlen
  go_upto_region 3 with fail
  rw [← hV.out, ← hQ.out]
  go_wp2_with fail
  refine happ2.mono ?_
  clear happ2 q0 q1 q2 q3 q4 q5 q6 q7
  rintro e w2 ⟨rfl, H2⟩
  obtain ⟨v, hD2, hO2, hK2⟩ := H2.out.own HD1.out.2.1.size HD1.out.2.2.1
  have hb2 : Below w0.heap.size V w2 := H2.out.below HD1.out.2.1.size HD1.out.2.2.1
  have HD2 : Aside (DiskAt w2 d v (recL (textO xN), false, false, 0) ∧ (∀ k, OwnD d v k → w0.heap.size ≤ k) ∧ Below w0.heap.size w0 w2 ∧ OpJ w2 Q xN ∧ Q ≠ d) := ⟨hD2, hO2, HD1.out.2.2.2.1.trans hb2, (hK2.block Q HOV.out.1.lt HD1.out.2.2.2.2).trans HOV.out.1, fun q => HD1.out.2.2.2.2 (.inl q)⟩
  have hrc := recover_any w2 hD2 (HD1.out.2.1.mono hb2) hO2 (by have := HOV.out.2; show (recL (textO xN)).length ≤ 65536; omega)
  have HRL : Aside (readL_ (recL (textO xN)) = ([xN], (recL (textO xN)).length)) := by
    have := readA_nil [xN] (fun x hx => by rw [List.mem_singleton.1 hx]; exact errN)
    have e : recsL [xN] = recL (textO xN) := by show recL (textO xN) ++ [] = _; rw [List.append_nil]
    rw [e] at this
    exact this
  have hrc2 : Calls Tryd.prog 10 #[.pointer (some ⟨d, 0, none⟩)] w2 fun e w' => ∃ g cap, e = .returned (.tuple #[.slice (some ⟨g, 0, none⟩) 1 cap, .nilIface]) ∧ Aside (∃ v', NotedAt d v' g Q w0 w') := hrc.mono (fun e w' q => by
    obtain ⟨rv, he, q⟩ := q
    obtain ⟨q1, q2, q3⟩ := q.out
    rw [HRL.out] at q2
    obtain ⟨g, cap, e2, h8⟩ := row_one q2
    subst e2
    obtain ⟨v', hD', hO', hK'⟩ := q1.own (HD1.out.2.1.mono hb2).size hO2
    refine ⟨g, cap, he, v', ?_, ?_, h8, ?_⟩
    · have e : backSt (recL (textO xN), false, false, 0) = (recL (textO xN), false, false, 0) := by
        unfold backSt
        dsimp only
        rw [HRL.out]
        dsimp only
        rw [List.take_of_length_le (Nat.le_refl _)]
      rw [e] at hD'
      exact hD'
    · exact (q3.block Q HD2.out.2.2.2.1.lt HD2.out.2.2.2.2).trans HD2.out.2.2.2.1
    · exact HD2.out.2.2.1.trans (q1.below (HD1.out.2.1.mono hb2).size hO2))
  clear hrc hD2 hO2 hK2 hb2
  go_wp2_with fail
  refine hrc2.mono ?_
  clear hrc2
  rintro e w4 ⟨g, cap, rfl, H4⟩
  obtain ⟨v', h4⟩ := H4.out
  clear H4 HD2 H2
  obtain ⟨v, hvv⟩ : ∃ v, v = v' := ⟨_, rfl⟩
  subst hvv
  have N0 : NotedAt d v g Q w0 w4.drew := h4.later (Below.refl _ w4).drew
  have hby := bytes_any w4.drew N0.disk
  obtain ⟨X, hX⟩ : ∃ X : ByteArray, Aside (X = ⟨(recL (textO xN)).toArray⟩) := ⟨_, rfl⟩
  dsimp only at hby
  rw [← hX.out] at hby
  obtain ⟨Y, hY⟩ : ∃ Y : ByteArray, Aside (Y = ⟨(textO xN).toArray⟩) := ⟨_, rfl⟩
  have HTX : Aside (∀ W, Calls Tryd.prog 16 #[.agg #[.int .i64 1, .int .i64 0, .int .i64 1, .int .u8 109, .int .i64 4, .int .i64 0, .string ⟨#[97]⟩, .string ⟨#[]⟩]] W fun e w' => e = .returned (.string Y) ∧ Below W.heap.size W w') := fun W => (refOpText xN W errN).mono (fun e w' q => by
    obtain ⟨t, ht, he, hb⟩ := q
    have : t = Y := by apply bytes_ext; rw [ht, hY.out]
    rw [this] at he
    exact ⟨he, hb⟩)
  have HRC : Aside (∀ W, Calls Tryd.prog 15 #[.string Y] W fun e w' => e = .returned (.string X) ∧ Below W.heap.size W w') := fun W => (refRecord_any Y W (by rw [hY.out]; have := textO_len errN; show (textO xN).toArray.size ≤ _; simp; omega)).mono (fun e w' q => by
    obtain ⟨r, hr, he, hb⟩ := q
    have : r = X := by apply bytes_ext; rw [hr, hX.out, hY.out]
    rw [this] at he
    exact ⟨he, hb⟩)
  have heq : ∀ w : World, (Op.equalIn 10000 35 (.agg #[.int .i64 1, .int .i64 0, .int .i64 1, .int .u8 109, .int .i64 4, .int .i64 0, .string ⟨#[97]⟩, .string ⟨#[]⟩]) (.agg #[.int .i64 1, .int .i64 0, .int .i64 1, .int .u8 109, .int .i64 4, .int .i64 0, .string ⟨#[97]⟩, .string ⟨#[]⟩])).run Tryd.prog w = .ok true w := fun w => by
    have := eqOp 1 0 1 109 4 0 ⟨#[97]⟩ ⟨#[]⟩ 1 0 1 109 4 0 ⟨#[97]⟩ ⟨#[]⟩ w
    rw [eqB_self] at this
    exact this
  have hXX : (X.toList == X.toList) = true := by simp
  clear h4
  go_upto_region 6 with fail
  refine wp_region_H (S := (fun w' => NotedAt d v g Q w0 w')) (by kernel_rfl) N0 (fun hHeld => ?_)
  refine wpAnyH_take (i := 0) (v := ?vaa0) rfl (by kernel_rfl) (by kernel_rfl) (by kernel_rfl) (fun _ _ _ h => h) (Or.inl ⟨by rfl, ?hya0⟩) hHeld ?resta0
  case hya0 => (intro w' hSw; clear hSw; go_simp; try with_reducible rfl)
  try simp only [List.getElem_toArray, List.getElem_cons_succ, List.getElem_cons_zero, Act.put, List.setIfInBounds_toArray, List.set_cons_zero, List.set_cons_succ]
  refine wpAnyH_take (i := 1) (v := ?vaa1) rfl (by kernel_rfl) (by kernel_rfl) (by kernel_rfl) (fun _ _ _ h => h) (Or.inl ⟨by rfl, ?hya1⟩) hHeld ?resta1
  case hya1 => (intro w' hSw; clear hSw; go_simp; try with_reducible rfl)
  try simp only [List.getElem_toArray, List.getElem_cons_succ, List.getElem_cons_zero, Act.put, List.setIfInBounds_toArray, List.set_cons_zero, List.set_cons_succ]
  refine wpAnyH_take (i := 2) (v := ?vaa2) rfl (by kernel_rfl) (by kernel_rfl) (by kernel_rfl) (fun _ _ _ h => h) (Or.inl ⟨by rfl, ?hya2⟩) hHeld ?resta2
  case hya2 => (intro w' hSw; clear hSw; go_simp; try with_reducible rfl)
  try simp only [List.getElem_toArray, List.getElem_cons_succ, List.getElem_cons_zero, Act.put, List.setIfInBounds_toArray, List.set_cons_zero, List.set_cons_succ]
  refine wpAnyH_take (i := 3) (v := ?vaa3) rfl (by kernel_rfl) (by kernel_rfl) (by kernel_rfl) (fun _ _ _ h => h) (Or.inl ⟨by rfl, ?hya3⟩) hHeld ?resta3
  case hya3 => (intro w' hSw; clear hSw; go_simp; try with_reducible rfl)
  try simp only [List.getElem_toArray, List.getElem_cons_succ, List.getElem_cons_zero, Act.put, List.setIfInBounds_toArray, List.set_cons_zero, List.set_cons_succ]
  refine wpAnyH_take (i := 4) (v := ?vaa4) rfl (by kernel_rfl) (by kernel_rfl) (by kernel_rfl) (fun _ _ _ h => h) (Or.inl ⟨by rfl, ?hya4⟩) hHeld ?resta4
  case hya4 => (intro w' hSw; clear hSw; go_simp; try with_reducible rfl)
  try simp only [List.getElem_toArray, List.getElem_cons_succ, List.getElem_cons_zero, Act.put, List.setIfInBounds_toArray, List.set_cons_zero, List.set_cons_succ]
  refine wpAnyH_take (i := 5) (v := ?vaa5) rfl (by kernel_rfl) (by kernel_rfl) (by kernel_rfl) (fun _ _ _ h => h) (Or.inl ⟨by rfl, ?hya5⟩) hHeld ?resta5
  case hya5 => (intro w' hSw; clear hSw; go_simp; try with_reducible rfl)
  try simp only [List.getElem_toArray, List.getElem_cons_succ, List.getElem_cons_zero, Act.put, List.setIfInBounds_toArray, List.set_cons_zero, List.set_cons_succ]
  refine wpAnyH_take (i := 6) (v := ?vaa6) rfl (by kernel_rfl) (by kernel_rfl) (by kernel_rfl) (fun _ _ _ h => h) (Or.inl ⟨by rfl, ?hya6⟩) hHeld ?resta6
  case hya6 => (intro w' hSw; clear hSw; go_simp; try with_reducible rfl)
  try simp only [List.getElem_toArray, List.getElem_cons_succ, List.getElem_cons_zero, Act.put, List.setIfInBounds_toArray, List.set_cons_zero, List.set_cons_succ]
  refine wpAnyH_take (i := 7) (v := ?vaa7) rfl (by kernel_rfl) (by kernel_rfl) (by kernel_rfl) (fun _ _ _ h => h) (Or.inl ⟨by rfl, ?hya7⟩) hHeld ?resta7
  case hya7 => (intro w' hSw; clear hSw; go_simp; try with_reducible rfl)
  try simp only [List.getElem_toArray, List.getElem_cons_succ, List.getElem_cons_zero, Act.put, List.setIfInBounds_toArray, List.set_cons_zero, List.set_cons_succ]
  refine wpAnyH_take (i := 8) (v := ?vaa8) rfl (by kernel_rfl) (by kernel_rfl) (by kernel_rfl) (fun _ _ _ h => h) (Or.inl ⟨by rfl, ?hya8⟩) hHeld ?resta8
  case hya8 => (intro w' hSw; clear hSw; go_simp; try with_reducible rfl)
  try simp only [List.getElem_toArray, List.getElem_cons_succ, List.getElem_cons_zero, Act.put, List.setIfInBounds_toArray, List.set_cons_zero, List.set_cons_succ]
  refine wpAnyH_take (i := 9) (v := ?vaa9) rfl (by kernel_rfl) (by kernel_rfl) (by kernel_rfl) (fun _ _ _ h => h) (Or.inl ⟨by rfl, ?hya9⟩) hHeld ?resta9
  case hya9 => (intro w' hSw; clear hSw; go_simp; try with_reducible rfl)
  try simp only [List.getElem_toArray, List.getElem_cons_succ, List.getElem_cons_zero, Act.put, List.setIfInBounds_toArray, List.set_cons_zero, List.set_cons_succ]
  refine wpAnyH_take (i := 10) (v := ?vaa10) rfl (by kernel_rfl) (by kernel_rfl) (by kernel_rfl) (fun _ _ _ h => h) (Or.inl ⟨by rfl, ?hya10⟩) hHeld ?resta10
  case hya10 => (intro w' hSw; obtain ⟨q0, q1, q2, q3, q4, q5, q6, q7⟩ := hSw.row; clear hSw; go_simp; try with_reducible rfl)
  try simp only [List.getElem_toArray, List.getElem_cons_succ, List.getElem_cons_zero, Act.put, List.setIfInBounds_toArray, List.set_cons_zero, List.set_cons_succ]
  refine wpAnyH_take (i := 11) (v := ?vaa11) rfl (by kernel_rfl) (by kernel_rfl) (by kernel_rfl) (fun _ _ _ h => h) (Or.inl ⟨by rfl, ?hya11⟩) hHeld ?resta11
  case hya11 => (intro w' hSw; obtain ⟨q0, q1, q2, q3, q4, q5, q6, q7, -⟩ := OpJ.cells hSw.op; dsimp only [xN] at q0 q1 q2 q3 q4 q5 q6 q7; clear hSw; go_simp; try with_reducible rfl)
  try simp only [List.getElem_toArray, List.getElem_cons_succ, List.getElem_cons_zero, Act.put, List.setIfInBounds_toArray, List.set_cons_zero, List.set_cons_succ]
  refine wpAnyH_take (i := 12) (v := ?vaa12) rfl (by kernel_rfl) (by kernel_rfl) (by kernel_rfl) (fun _ _ _ h => h) (Or.inl ⟨by rfl, ?hya12⟩) hHeld ?resta12
  case hya12 => (intro w' hSw; clear hSw; go_simp; try with_reducible rfl)
  try simp only [List.getElem_toArray, List.getElem_cons_succ, List.getElem_cons_zero, Act.put, List.setIfInBounds_toArray, List.set_cons_zero, List.set_cons_succ]
  refine wpAnyH_take (i := 13) (v := ?vaa13) rfl (by kernel_rfl) (by kernel_rfl) (by kernel_rfl) (fun _ _ _ h => h) (Or.inl ⟨by rfl, ?hya13⟩) hHeld ?resta13
  case hya13 => (intro w' hSw; clear hSw; go_simp; try with_reducible rfl)
  try simp only [List.getElem_toArray, List.getElem_cons_succ, List.getElem_cons_zero, Act.put, List.setIfInBounds_toArray, List.set_cons_zero, List.set_cons_succ]
  refine wpAnyH_take (i := 14) (v := ?vaa14) rfl (by kernel_rfl) (by kernel_rfl) (by kernel_rfl) (fun _ _ _ h => h) (Or.inl ⟨by rfl, ?hya14⟩) hHeld ?resta14
  case hya14 => (intro w' hSw; clear hSw; go_simp; try with_reducible rfl)
  try simp only [List.getElem_toArray, List.getElem_cons_succ, List.getElem_cons_zero, Act.put, List.setIfInBounds_toArray, List.set_cons_zero, List.set_cons_succ]
  refine wpAnyH_take (i := 15) (v := ?vaa15) rfl (by kernel_rfl) (by kernel_rfl) (by kernel_rfl) (fun _ _ _ h => h) (Or.inl ⟨by rfl, ?hya15⟩) hHeld ?resta15
  case hya15 => (intro w' hSw; clear hSw; go_simp; try with_reducible rfl)
  try simp only [List.getElem_toArray, List.getElem_cons_succ, List.getElem_cons_zero, Act.put, List.setIfInBounds_toArray, List.set_cons_zero, List.set_cons_succ]
  refine wpAnyH_take (i := 17) (v := ?vaa17) rfl (by kernel_rfl) (by kernel_rfl) (by kernel_rfl) (fun _ _ _ h => h) (Or.inl ⟨by rfl, ?hya17⟩) hHeld ?resta17
  case hya17 => (intro w' hSw; obtain ⟨q0, q1, q2, q3, q4, q5, q6, q7, -⟩ := OpJ.cells hSw.op; dsimp only [xN] at q0 q1 q2 q3 q4 q5 q6 q7; clear hSw; go_simp; try with_reducible rfl)
  try simp only [List.getElem_toArray, List.getElem_cons_succ, List.getElem_cons_zero, Act.put, List.setIfInBounds_toArray, List.set_cons_zero, List.set_cons_succ]
  refine wpAnyH_one (i := 16) (by kernel_rfl) rfl (fun K hK => ?_)
  go_simp
  refine hby.mono ?_
  clear hby
  rintro e w5 ⟨rfl, rfl⟩
  have htx := HTX.out w4.drew
  refine hK _ _ hHeld ?_
  clear hK K
  try simp only [List.getElem_toArray, List.getElem_cons_succ, List.getElem_cons_zero, Act.put, List.setIfInBounds_toArray, List.set_cons_zero, List.set_cons_succ]
  refine wpAnyH_one (i := 18) (by kernel_rfl) rfl (fun K hK => ?_)
  go_simp
  refine htx.mono ?_
  clear htx
  rintro e w6 ⟨rfl, hb6⟩
  have N1 := hHeld.later hb6
  have hrc := HRC.out w6
  refine hK _ _ N1 ?_
  clear hK K hHeld
  try simp only [List.getElem_toArray, List.getElem_cons_succ, List.getElem_cons_zero, Act.put, List.setIfInBounds_toArray, List.set_cons_zero, List.set_cons_succ]
  refine wpAnyH_one (i := 19) (by kernel_rfl) rfl (fun K hK => ?_)
  go_simp
  refine hrc.mono ?_
  clear hrc
  rintro e w7 ⟨rfl, hb7⟩
  have N2 := N1.later hb7
  refine hK _ _ N2 ?_
  clear hK K N1
  try simp only [List.getElem_toArray, List.getElem_cons_succ, List.getElem_cons_zero, Act.put, List.setIfInBounds_toArray, List.set_cons_zero, List.set_cons_succ]
  refine wpAnyH_take (i := 20) (v := ?vab20) rfl (by kernel_rfl) (by kernel_rfl) (by kernel_rfl) (fun _ _ _ h => h) (Or.inl ⟨by rfl, ?hyb20⟩) N2 ?restb20
  case hyb20 => (intro w' hSw; clear hSw; go_simp; try with_reducible rfl)
  try simp only [List.getElem_toArray, List.getElem_cons_succ, List.getElem_cons_zero, Act.put, List.setIfInBounds_toArray, List.set_cons_zero, List.set_cons_succ]
  refine wpAnyH_take (i := 21) (v := ?vab21) rfl (by kernel_rfl) (by kernel_rfl) (by kernel_rfl) (fun _ _ _ h => h) (Or.inl ⟨by rfl, ?hyb21⟩) N2 ?restb21
  case hyb21 => (intro w' hSw; clear hSw; go_simp; try with_reducible rfl)
  try simp only [List.getElem_toArray, List.getElem_cons_succ, List.getElem_cons_zero, Act.put, List.setIfInBounds_toArray, List.set_cons_zero, List.set_cons_succ]
  refine wpAnyH_take (i := 22) (v := ?vab22) rfl (by kernel_rfl) (by kernel_rfl) (by kernel_rfl) (fun _ _ _ h => h) (Or.inl ⟨by rfl, ?hyb22⟩) N2 ?restb22
  case hyb22 => (intro w' hSw; clear hSw; go_simp; try with_reducible rfl)
  try simp only [List.getElem_toArray, List.getElem_cons_succ, List.getElem_cons_zero, Act.put, List.setIfInBounds_toArray, List.set_cons_zero, List.set_cons_succ]
  refine wpAnyH_done (by kernel_rfl) ?_ _
  try simp only [List.getElem_toArray, List.getElem_cons_succ, List.getElem_cons_zero, Act.put, List.setIfInBounds_toArray, List.set_cons_zero, List.set_cons_succ]
  have HF : Aside (Below w0.heap.size w0 w7) := N2.below
  clear N2
  go_wp2
  go_ret
  exact ⟨rfl, HF.out⟩
end Go.Proofs.YtcggmagdndhkbaaDoor
