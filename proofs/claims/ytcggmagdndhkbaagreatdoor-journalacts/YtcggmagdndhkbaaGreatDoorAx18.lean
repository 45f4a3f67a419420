import Derived.Test.YtcggmagdndhkbaaGreatDoorAx06
import Derived.Test.YtcggmagdndhkbaaGreatDoorAx12
import Derived.Test.YtcggmagdndhkbaaGreatDoorAx13
import Derived.Test.YtcggmagdndhkbaaGreatDoorAx17
import Derived.LoopN
section
set_option linter.unusedVariables false
set_option linter.unusedSimpArgs false
namespace Go.Proofs.YtcggmagdndhkbaaGreatDoor
open Go Go.RowKit Go.Lib Go.Sort
theorem cut_bytes (g n cap k : Nat) (w : World) (h : k ≤ cap) : (Instr.slice 173 (.slice (some ⟨g, 0, none⟩) n cap) none (some (.int .i64 (k : Int))) none).run Tryz.prog w = .ok (.slice (some ⟨g, 0, none⟩) k cap) w := by
  have h1 : (k : Int) ≤ (cap : Int) := by omega
  have h0 : (0 : Int) ≤ (k : Int) := by omega
  go_simp
def backSt (st : DSt) : DSt := (st.1.take (readL_ st.1).2, false, false, st.2.2.2)
def BackOut (d : Nat) (v : Value) (w : World) (st : DSt) (e : Ending) (w' : World) : Prop := ∃ rv : Value, e = .returned (.tuple #[rv, .nilIface]) ∧ Aside (WroteD d v w (backSt st) w' ∧ w'.ownsRow w.heap.size 31 8 rv (readL_ st.1).1.length (cellsOf (readL_ st.1).1) ∧ Keeps (fun k => k = d) w w')
set_option maxRecDepth 100000 in
set_option maxHeartbeats 2000000 in
theorem recover_any {B : Nat} {ad : Nat → Addr} {d : Nat} {v : Value} {st : DSt} (w : World) (hD : DiskAt w d v st) (hE : EnvJ B ad w) (hO : ∀ k, OwnD d v k → B ≤ k) (hB : st.1.length ≤ 65536) :
    Calls Tryz.prog 42 #[.pointer (some ⟨d, 0, none⟩)] w (BackOut d v w st) := by
  obtain ⟨B0, off, waits, left⟩ := st
  have hon := on_any w hD
  obtain ⟨g, cap, hvs⟩ := hD.row.shape
  dsimp only at hvs hB
  have H0 : Aside (DiskAt w d v (B0, off, waits, left) ∧ EnvJ B ad w ∧ ∀ k, OwnD d v k → B ≤ k) := ⟨hD, hE, hO⟩
  have HV : Aside (v = .slice (some ⟨g, 0, none⟩) B0.length cap) := hvs
  clear hD hE hO hvs
  go_enter Tryz.func42, Tryz.ntmps42
  go_wp2_with fail
  refine hon.mono ?_
  clear hon
  rintro e w1 ⟨⟨u, rfl⟩, H1⟩
  have hby := bytes_any w1 H1.out.1
  dsimp only at hby
  obtain ⟨s, hs⟩ : ∃ s : ByteArray, Aside (s = ⟨B0.toArray⟩) := ⟨_, rfl⟩
  rw [← hs.out] at hby
  have hsd : s.data.toList = B0 := by rw [hs.out]
  have hss : s.size ≤ 65536 := by rw [hs.out]; simpa [ByteArray.size] using hB
  have hE1 : EnvJ B ad w1 := H0.out.2.1.mono (H1.out.2.below H0.out.2.1.size (fun k e => by rw [e]; exact H0.out.2.2 d (.inl rfl)))
  have hrd := jread_any s w1 hE1 (by omega)
  obtain ⟨T, hT⟩ : ∃ T, Aside (T = readL_ B0) := ⟨_, rfl⟩
  unfold ReadOut at hrd
  rw [hsd, ← hT.out] at hrd
  clear hsd hE1
  go_wp2_with fail
  refine hby.mono ?_
  clear hby
  rintro e w2 ⟨rfl, rfl⟩
  go_wp2_with fail
  refine hrd.mono ?_
  clear hrd
  rintro e w3 ⟨rv, rfl, H3⟩
  have hD3 := H1.out.1.later H3.out.2
  obtain ⟨c0, c1, c2, c3, cf⟩ := hD3.c
  rw [HV.out] at c0
  obtain ⟨k, hk⟩ : ∃ k, Aside (k = T.2) := ⟨_, rfl⟩
  have hkB : k ≤ B0.length := by
    rw [hk.out, hT.out]
    exact (readA_le B0).1
  have hcap : B0.length ≤ cap := by
    obtain ⟨g', cap', cur, fr, e1, _, _, h3, _⟩ := hD3.row
    rw [HV.out] at e1
    cases e1
    exact h3
  have hsl := fun W => cut_bytes g B0.length cap k W (by omega)
  rw [← hk.out]
  have HF : Aside (WroteD d v w (B0.take T.2, false, false, left) (w3.setCell ⟨d, 0, none⟩ (.slice (some ⟨g, 0, none⟩) k cap)) ∧ (w3.setCell ⟨d, 0, none⟩ (.slice (some ⟨g, 0, none⟩) k cap)).ownsRow w.heap.size 31 8 rv T.1.length (cellsOf T.1) ∧ Keeps (fun k => k = d) w (w3.setCell ⟨d, 0, none⟩ (.slice (some ⟨g, 0, none⟩) k cap))) := by
    have hrow : RowB w3 (.slice (some ⟨g, 0, none⟩) k cap) (B0.take T.2) := by
      have := hD3.row
      dsimp only at this
      rw [HV.out] at this
      rw [← hk.out]
      exact this.cut hkB
    have hne : (Value.slice (some ⟨g, 0, none⟩) k cap).ownBlock ≠ some d := by
      have := hD3.ne
      rw [HV.out] at this
      exact this
    have h4 := DiskAt.set0 hD3.cell hrow hne hD3.left
    have hk3 : Keeps (fun k => k = d) w2 w3 := (keeps_of_below H3.out.2).mono (fun k hk q => by omega)
    have hkk : Keeps (fun k => k = d) w (w3.setCell ⟨d, 0, none⟩ (.slice (some ⟨g, 0, none⟩) k cap)) := (H1.out.2.trans hk3).trans h4.2
    refine ⟨⟨_, h4.1, hkk.mono (fun k _ e => .inl e), fun g' hg' => .inl (by rw [HV.out]; exact hg')⟩, ?_, hkk⟩
    have hr := H3.out.1
    have hr' := ownsJ hr (w' := w3.setCell ⟨d, 0, none⟩ (.slice (some ⟨g, 0, none⟩) k cap)) (fun g' hg' => h4.2.block g' (hr.lt g' hg').2 (fun e => by have := (hr.lt g' hg').1; have := H1.out.1.lt; omega))
    have hws : w.heap.size ≤ w2.heap.size := H1.out.2.size
    rcases hr'.2 with q | ⟨g2, cap2, cur2, e1, hb2, rest⟩
    · exact ⟨hr'.1, .inl q⟩
    · exact ⟨hr'.1, .inr ⟨g2, cap2, cur2, e1, Nat.le_trans hws hb2, rest⟩⟩
  clear hD3 c1 c2 c3 hkB hcap H3 H1
  go_wp2
  go_ret2
  refine ⟨rv, rfl, ?_⟩
  unfold backSt
  dsimp only
  rw [← hT.out]
  exact HF.out
end Go.Proofs.YtcggmagdndhkbaaGreatDoor
end
section
set_option linter.unusedVariables false
namespace Go.Proofs.YtcggmagdndhkbaaGreatDoor
open Go
theorem wrAll_free : ∀ (r : List UInt8) (B : List UInt8) (left : Int), wrAll (B, false, false, left) r = (true, (B ++ r, false, false, left))
  | [], B, left => by simp [wrAll]
  | c :: r, B, left => by
    have h : wr1 (B, false, false, left) c = (true, (B ++ [c], false, false, left)) := by unfold wr1; simp
    rw [wrAll, h, if_pos rfl, wrAll_free r]
    simp
theorem wrAll_off (c : UInt8) (r : List UInt8) (B : List UInt8) (left : Int) : wrAll (B, true, false, left) (c :: r) = (false, (B, true, false, left)) := by
  have h : wr1 (B, true, false, left) c = (false, (B, true, false, left)) := by unfold wr1; simp
  rw [wrAll, h, if_neg (by simp)]
theorem wrAll_on : ∀ (r : List UInt8) (B : List UInt8) (left : Nat), wrAll (B, false, true, (left : Int)) r = if r.length ≤ left then (true, (B ++ r, false, true, ((left - r.length : Nat) : Int))) else (false, (B ++ r.take left, true, false, 0))
  | [], B, left => by simp [wrAll]
  | c :: r, B, 0 => by
    have h : wr1 (B, false, true, ((0 : Nat) : Int)) c = (false, (B, true, false, 0)) := by unfold wr1; simp
    rw [wrAll, h, if_neg (by simp), if_neg (by simp)]
    simp
  | c :: r, B, left + 1 => by
    have h : wr1 (B, false, true, ((left + 1 : Nat) : Int)) c = (true, (B ++ [c], false, true, (left : Int))) := by
      unfold wr1
      have : ¬ ((left : Int) + 1 = 0) := by omega
      simp [this]
    rw [wrAll, h, if_pos rfl, wrAll_on r (B ++ [c]) left]
    by_cases hl : r.length ≤ left
    · rw [if_pos hl, if_pos (by simpa using hl)]
      simp
    · rw [if_neg hl, if_neg (by simpa using hl)]
      simp
theorem recL_ne (t : List UInt8) : ∃ c r, recL t = c :: r := by
  cases h : recL t with
  | nil => have := recL_len t; rw [h] at this; simp at this
  | cons c r => exact ⟨c, r, rfl⟩
theorem readA_nil (dn : List OpX) (h : ∀ x ∈ dn, errJ x = 0) : readL_ (recsL dn) = (dn, (recsL dn).length) := by
  have := readA_recs dn [] h readR_nil
  rwa [List.append_nil] at this
theorem app_free {B : List UInt8} {left : Int} {x : OpX} (he : errJ x = 0) (hl : B.length + (recL (textO x)).length ≤ 65536) : appE (B, false, false, left) x = (0, (B ++ recL (textO x), false, false, left)) := by
  unfold appE
  rw [if_neg (fun q => q he), if_neg (by dsimp only; omega), wrAll_free]
  rfl
end Go.Proofs.YtcggmagdndhkbaaGreatDoor
end
section
namespace Go.Proofs.YtcggmagdndhkbaaGreatDoor
open Go.RowKit
theorem add_bytes (x : List UInt8) (y : ByteArray) (h : x.length + y.size ≤ 9223372036854775807) (w : World) : (Op.stringOp .add ⟨x.toArray⟩ y).run Tryz.prog w = .ok (.string ⟨(x ++ y.data.toList).toArray⟩) w := by
  have := add_texts x y.data.toList (by rw [listLen]; exact h) w
  rw [arr_data] at this
  exact this
theorem rtext_steps (c i1 i2 i3 i4 i5 hx : List UInt8) (name : ByteArray) (h : c.length + i1.length + i2.length + i3.length + i4.length + i5.length + hx.length + name.size ≤ 1000000) :
    ∃ U1 T1 U2 T2 U3 T3 U4 T4 U5 T5 V1 V2 V3 V4 : List UInt8,
      (∀ w, (Op.stringOp .add ⟨c.toArray⟩ ⟨#[124]⟩).run Tryz.prog w = .ok (.string ⟨U1.toArray⟩) w) ∧ (∀ w, (Op.stringOp .add ⟨U1.toArray⟩ ⟨i1.toArray⟩).run Tryz.prog w = .ok (.string ⟨T1.toArray⟩) w) ∧
      (∀ w, (Op.stringOp .add ⟨T1.toArray⟩ ⟨#[124]⟩).run Tryz.prog w = .ok (.string ⟨U2.toArray⟩) w) ∧ (∀ w, (Op.stringOp .add ⟨U2.toArray⟩ ⟨i2.toArray⟩).run Tryz.prog w = .ok (.string ⟨T2.toArray⟩) w) ∧
      (∀ w, (Op.stringOp .add ⟨T2.toArray⟩ ⟨#[124]⟩).run Tryz.prog w = .ok (.string ⟨U3.toArray⟩) w) ∧ (∀ w, (Op.stringOp .add ⟨U3.toArray⟩ ⟨i3.toArray⟩).run Tryz.prog w = .ok (.string ⟨T3.toArray⟩) w) ∧
      (∀ w, (Op.stringOp .add ⟨T3.toArray⟩ ⟨#[124]⟩).run Tryz.prog w = .ok (.string ⟨U4.toArray⟩) w) ∧ (∀ w, (Op.stringOp .add ⟨U4.toArray⟩ ⟨i4.toArray⟩).run Tryz.prog w = .ok (.string ⟨T4.toArray⟩) w) ∧
      (∀ w, (Op.stringOp .add ⟨T4.toArray⟩ ⟨#[124]⟩).run Tryz.prog w = .ok (.string ⟨U5.toArray⟩) w) ∧ (∀ w, (Op.stringOp .add ⟨U5.toArray⟩ ⟨i5.toArray⟩).run Tryz.prog w = .ok (.string ⟨T5.toArray⟩) w) ∧
      (∀ w, (Op.stringOp .add ⟨T5.toArray⟩ ⟨#[124]⟩).run Tryz.prog w = .ok (.string ⟨V1.toArray⟩) w) ∧ (∀ w, (Op.stringOp .add ⟨V1.toArray⟩ name).run Tryz.prog w = .ok (.string ⟨V2.toArray⟩) w) ∧
      (∀ w, (Op.stringOp .add ⟨V2.toArray⟩ ⟨#[124]⟩).run Tryz.prog w = .ok (.string ⟨V3.toArray⟩) w) ∧ (∀ w, (Op.stringOp .add ⟨V3.toArray⟩ ⟨hx.toArray⟩).run Tryz.prog w = .ok (.string ⟨V4.toArray⟩) w) ∧
      V4 = joinP 124 [c, i1, i2, i3, i4, i5, name.data.toList, hx] := by
  have hn := listLen name
  refine ⟨_, _, _, _, _, _, _, _, _, _, _, _, _, _, add_texts c [124] (by simp; omega), add_texts _ i1 (by simp; omega), add_texts _ [124] (by simp; omega), add_texts _ i2 (by simp; omega), add_texts _ [124] (by simp; omega), add_texts _ i3 (by simp; omega), add_texts _ [124] (by simp; omega), add_texts _ i4 (by simp; omega), add_texts _ [124] (by simp; omega), add_texts _ i5 (by simp; omega), add_texts _ [124] (by simp; omega), add_bytes _ name (by simp; omega), add_texts _ [124] (by simp; omega), add_texts _ hx (by simp; omega), ?_⟩
  simp [joinP]
structure RTx (w0 : World) (kb : Nat) (t b n : Int) (k : Nat) (node other : Int) (name value : ByteArray) (w : World) : Prop where
  op : OpAt w w0.heap.size t b n k node other name value
  s0 : w.cell? ⟨kb, 0, none⟩ = some (.int .i64 t)
  s1 : w.cell? ⟨kb, 1, none⟩ = some (.int .i64 b)
  s2 : w.cell? ⟨kb, 2, none⟩ = some (.int .i64 n)
  s3 : w.cell? ⟨kb, 3, none⟩ = some (.int .i64 node)
  s4 : w.cell? ⟨kb, 4, none⟩ = some (.int .i64 other)
  below : Below w0.heap.size w0 w
theorem RTx.later {w0 w w' : World} {kb : Nat} {t b n : Int} {k : Nat} {node other : Int} {name value : ByteArray} (h : RTx w0 kb t b n k node other name value w) (hb : Below w.heap.size w w') : RTx w0 kb t b n k node other name value w' :=
  ⟨h.op.later hb, cellLater hb h.s0, cellLater hb h.s1, cellLater hb h.s2, cellLater hb h.s3, cellLater hb h.s4, h.below.trans (hb.mono h.below.size)⟩
abbrev RTr (w0 : World) (name value : ByteArray) (w : World) : Prop := w.cell? ⟨w0.heap.size, 6, none⟩ = some (.string name) ∧ w.cell? ⟨w0.heap.size, 7, none⟩ = some (.string value) ∧ Below w0.heap.size w0 w
theorem RTr.later {w0 w w' : World} {name value : ByteArray} (h : RTr w0 name value w) (hb : Below w.heap.size w w') : RTr w0 name value w' := ⟨cellLater hb h.1, cellLater hb h.2.1, h.2.2.trans (hb.mono h.2.2.size)⟩
theorem RTr.drew {w0 w : World} {name value : ByteArray} (h : RTr w0 name value w) : RTr w0 name value w.drew := h.later (Below.refl _ _).drew
set_option maxRecDepth 100000 in
set_option maxHeartbeats 4000000 in
theorem rtext_any (t b n : Int) (k : Nat) (node other : Int) (name value : ByteArray) (w : World) (hop : opE t b n k node other name.data.toList value.data.toList = 0) :
    Calls Tryz.prog 97 #[.agg #[.int .i64 t, .int .i64 b, .int .i64 n, .int .u8 (k : Int), .int .i64 node, .int .i64 other, .string name, .string value]] w fun e w' => e = .returned (.string ⟨(opTextL t b n k node other name.data.toList value.data.toList).toArray⟩) ∧ Below w.heap.size w w' := by
  obtain ⟨h1, h2, h3, h4, h5, h6, hk, h7, h8, h9, h10, -, hn, hv⟩ := opE_zero hop
  rw [listLen] at hn hv
  have e1 := Lib.itoa_length_le t (by omega) (by omega)
  have e2 := Lib.itoa_length_le b (by omega) (by omega)
  have e3 := Lib.itoa_length_le n (by omega) (by omega)
  have e4 := Lib.itoa_length_le node (by omega) (by omega)
  have e5 := Lib.itoa_length_le other (by omega) (by omega)
  have e6 := hexL_length value.data.toList
  rw [listLen] at e6
  obtain ⟨U1, T1, U2, T2, U3, T3, U4, T4, U5, T5, V1, V2, V3, V4, a1, a2, a3, a4, a5, a6, a7, a8, a9, a10, a11, a12, a13, a14, hE⟩ := rtext_steps [UInt8.ofNat k] (Lib.itoa t) (Lib.itoa b) (Lib.itoa n) (Lib.itoa node) (Lib.itoa other) (hexL value.data.toList) name (by simp only [List.length_cons, List.length_nil]; omega)
  have HE : Hid (opTextL t b n k node other name.data.toList value.data.toList = V4) := Lib.hid hE.symm
  have hk255 : k ≤ 255 := by omega
  have HB : Hid ((1 ≤ t ∧ t ≤ 1073741824) ∧ (0 ≤ b ∧ b < 4) ∧ (1 ≤ n ∧ n ≤ 400) ∧ (0 ≤ node ∧ node ≤ 4294967299) ∧ (0 ≤ other ∧ other ≤ 4294967299) ∧ name.size ≤ 12 ∧ value.size ≤ 12) := Lib.hid (by omega)
  have O0 := OpAt.new w t b n k node other name value 31
  have B0 : Below w.heap.size w (w.alloc (.cells #[.int .i64 t, .int .i64 b, .int .i64 n, .int .u8 (k : Int), .int .i64 node, .int .i64 other, .string name, .string value] 31)) := (Below.refl _ _).alloc (Nat.le_refl _) _
  clear hE hop hk h1 h2 h3 h4 h5 h6 h7 h8 h9 h10 hn hv e1 e2 e3 e4 e5 e6
  rw [HE.out]
  go_enter Tryz.func97, Tryz.ntmps97
  go_wp2_with fail
  generalize w.alloc (.cells #[.int .i64 t, .int .i64 b, .int .i64 n, .int .u8 (k : Int), .int .i64 node, .int .i64 other, .string name, .string value] 31) = u at O0 B0 ⊢
  refine (byte_any k u hk255).mono ?_
  rintro e w1 ⟨rfl, hb⟩
  have hdig : (⟨#[digB k]⟩ : ByteArray) = ⟨[UInt8.ofNat k].toArray⟩ := rfl
  rw [hdig]
  clear hdig
  have O1 := O0.later hb
  have B1 : Below w.heap.size w w1 := B0.trans (hb.mono B0.size)
  clear hb O0 B0
  have R1 : RTx w w1.heap.size t b n k node other name value (w1.alloc (.cells #[.int .i64 t, .int .i64 b, .int .i64 n, .int .i64 node, .int .i64 other] 3)) := by
    have hb2 : Below w1.heap.size w1 (w1.alloc (.cells #[.int .i64 t, .int .i64 b, .int .i64 n, .int .i64 node, .int .i64 other] 3)) := (Below.refl _ _).alloc (Nat.le_refl _) _
    exact ⟨O1.later hb2, by simp [go_sem], by simp [go_sem], by simp [go_sem], by simp [go_sem], by simp [go_sem], B1.trans (hb2.mono B1.size)⟩
  obtain ⟨x0, x1, x2, x3, x4, x5, x6, x7⟩ := O1
  go_wp2
  clear x0 x1 x2 x3 x4 x5 x6 x7 B1
  generalize w1.alloc (.cells #[.int .i64 t, .int .i64 b, .int .i64 n, .int .i64 node, .int .i64 other] 3) = v1 at R1 ⊢
  generalize w1.heap.size = kb at R1 ⊢
  refine wp_loop_rounds 6 ?_
  obtain ⟨-, y0, y1, y2, y3, y4, -⟩ := id R1
  rw [rounds_succ]; go_wp2_with fail
  refine (decimal_any t _ (by have := HB.out; omega) (by have := HB.out; omega)).mono ?_
  rintro e v2 ⟨rfl, hb⟩
  have R2 := R1.later hb
  clear hb R1 y0 y1 y2 y3 y4
  go_wp2
  obtain ⟨-, y0, y1, y2, y3, y4, -⟩ := id R2
  rw [rounds_succ]; go_wp2_with fail
  refine (decimal_any b _ (by have := HB.out; omega) (by have := HB.out; omega)).mono ?_
  rintro e v3 ⟨rfl, hb⟩
  have R3 := R2.later hb
  clear hb R2 y0 y1 y2 y3 y4
  go_wp2
  obtain ⟨-, y0, y1, y2, y3, y4, -⟩ := id R3
  rw [rounds_succ]; go_wp2_with fail
  refine (decimal_any n _ (by have := HB.out; omega) (by have := HB.out; omega)).mono ?_
  rintro e v4 ⟨rfl, hb⟩
  have R4 := R3.later hb
  clear hb R3 y0 y1 y2 y3 y4
  go_wp2
  obtain ⟨-, y0, y1, y2, y3, y4, -⟩ := id R4
  rw [rounds_succ]; go_wp2_with fail
  refine (decimal_any node _ (by have := HB.out; omega) (by have := HB.out; omega)).mono ?_
  rintro e v5 ⟨rfl, hb⟩
  have R5 := R4.later hb
  clear hb R4 y0 y1 y2 y3 y4
  go_wp2
  obtain ⟨-, y0, y1, y2, y3, y4, -⟩ := id R5
  rw [rounds_succ]; go_wp2_with fail
  refine (decimal_any other _ (by have := HB.out; omega) (by have := HB.out; omega)).mono ?_
  rintro e v6 ⟨rfl, hb⟩
  have R6 := R5.later hb
  clear hb R5 y0 y1 y2 y3 y4
  go_wp2
  rw [rounds_succ]; go_wp2_with fail
  have Q0 : RTr w name value v6 := ⟨R6.op.c6, R6.op.c7, R6.below⟩
  obtain ⟨A0, A1, A2⟩ := id Q0
  clear R6
  go_region_held3 (fun w' => w'.cell? ⟨w.heap.size, 6, none⟩ = some (.string name) ∧ w'.cell? ⟨w.heap.size, 7, none⟩ = some (.string value) ∧ Below w.heap.size w w')
    (first
      | with_reducible assumption
      | with_reducible exact RTr.drew Q0
      | with_reducible exact RTr.later (by assumption) (by assumption))
    (first
      | (go_at_call 159; refine (hex_any _ _ (by have := HB.out; omega)).mono ?_; rintro e w' ⟨rfl, hb⟩))
  have Q1 : RTr w name value w' := by assumption
  go_wp2
  go_ret
  exact ⟨rfl, Q1.2.2⟩
end Go.Proofs.YtcggmagdndhkbaaGreatDoor
end
section
set_option linter.unusedVariables false
set_option linter.unusedSimpArgs false
namespace Go.Proofs.YtcggmagdndhkbaaGreatDoor
open Go Go.RowKit Go.Lib Go.Sort
abbrev MSt := List UInt8 × Bool × Int
structure MAt (w : World) (m : Nat) (b : ByteArray) (off : Bool) (cut : Int) : Prop where
  cell : w.heap[m]? = some (.cells #[.string b, .bool off, .int .i64 cut] 94 (0, 0))
  cut : -1 ≤ cut ∧ cut ≤ 9223372036854775807
theorem MAt.lt {w : World} {m : Nat} {b : ByteArray} {off : Bool} {cut : Int} (h : MAt w m b off cut) : m < w.heap.size := (Array.getElem?_eq_some_iff.1 h.cell).1
theorem MAt.same {w w' : World} {m : Nat} {b : ByteArray} {off : Bool} {cut : Int} (h : MAt w m b off cut) (e : w'.heap[m]? = w.heap[m]?) : MAt w' m b off cut := ⟨e.trans h.cell, h.cut⟩
theorem MAt.later {w w' : World} {m : Nat} {b : ByteArray} {off : Bool} {cut : Int} (h : MAt w m b off cut) (hb : Below w.heap.size w w') : MAt w' m b off cut := h.same (hb.block m h.lt)
theorem MAt.c {w : World} {m : Nat} {b : ByteArray} {off : Bool} {cut : Int} (h : MAt w m b off cut) : w.cell? ⟨m, 0, none⟩ = some (.string b) ∧ w.cell? ⟨m, 1, none⟩ = some (.bool off) ∧ w.cell? ⟨m, 2, none⟩ = some (.int .i64 cut) ∧ ∀ o, w.frozen? ⟨m, o, none⟩ = false := by
  have hc := h.cell
  refine ⟨?_, ?_, ?_, fun o => ?_⟩
  · simp [World.cell?, hc]
  · simp [World.cell?, hc]
  · simp [World.cell?, hc]
  · simp [World.frozen?, hc]
theorem MAt.set0 {w : World} {m : Nat} {b : ByteArray} {off : Bool} {cut : Int} (h : MAt w m b off cut) (b' : ByteArray) : MAt (w.setCell ⟨m, 0, none⟩ (.string b')) m b' off cut ∧ Keeps (fun k => k = m) w (w.setCell ⟨m, 0, none⟩ (.string b')) := ⟨⟨heap_setCell_same w m 0 _ _ _ h.cell, h.cut⟩, setCells_keeps m [.string b'] 0 w⟩
theorem MAt.set1 {w : World} {m : Nat} {b : ByteArray} {off : Bool} {cut : Int} (h : MAt w m b off cut) (z : Bool) : MAt (w.setCell ⟨m, 1, none⟩ (.bool z)) m b z cut ∧ Keeps (fun k => k = m) w (w.setCell ⟨m, 1, none⟩ (.bool z)) := ⟨⟨heap_setCell_same w m 1 _ _ _ h.cell, h.cut⟩, setCells_keeps m [.bool z] 1 w⟩
theorem MAt.set2 {w : World} {m : Nat} {b : ByteArray} {off : Bool} {cut : Int} (h : MAt w m b off cut) (z : Int) (hz : -1 ≤ z ∧ z ≤ 9223372036854775807) : MAt (w.setCell ⟨m, 2, none⟩ (.int .i64 z)) m b off z ∧ Keeps (fun k => k = m) w (w.setCell ⟨m, 2, none⟩ (.int .i64 z)) := ⟨⟨heap_setCell_same w m 2 _ _ _ h.cell, hz⟩, setCells_keeps m [.int .i64 z] 2 w⟩
def mApp (B : List UInt8) (off : Bool) (cut : Int) (x : OpX) : Nat × MSt := if errJ x ≠ 0 then (errJ x, (B, off, cut)) else if 65536 < B.length + (recL (textO x)).length then (8, (B, off, cut)) else if off = true then (11, (B, off, cut)) else if 0 ≤ cut ∧ cut < ((recL (textO x)).length : Int) then (11, (B ++ (recL (textO x)).take cut.toNat, true, cut)) else (0, (B ++ recL (textO x), false, if 0 ≤ cut then cut - ((recL (textO x)).length : Int) else cut))
def RelD (st : DSt) (ms : MSt) : Prop := st.1 = ms.1 ∧ st.2.1 = ms.2.1 ∧ ((ms.2.1 = false ∧ st.2.2.1 = true ∧ ms.2.2 = st.2.2.2 ∧ 0 ≤ st.2.2.2) ∨ (ms.2.1 = false ∧ st.2.2.1 = false ∧ ms.2.2 = -1) ∨ (ms.2.1 = true ∧ st.2.2.1 = false))
theorem RelD.app {B : List UInt8} {off waits : Bool} {left : Int} {B' : List UInt8} {off' : Bool} {cut : Int} (h : RelD (B, off, waits, left) (B', off', cut)) (x : OpX) : (appE (B, off, waits, left) x).1 = (mApp B' off' cut x).1 ∧ RelD (appE (B, off, waits, left) x).2 (mApp B' off' cut x).2 := by
  obtain ⟨e1, e2, h3⟩ := id h
  dsimp only at e1 e2 h3
  subst e1
  subst e2
  unfold appE mApp
  dsimp only
  by_cases he : errJ x = 0
  · have hne : ¬ (errJ x ≠ 0) := fun q => q he
    rw [if_neg hne, if_neg hne]
    by_cases hf : 65536 < B.length + (recL (textO x)).length
    · rw [if_pos hf, if_pos hf]
      exact ⟨rfl, h⟩
    · rw [if_neg hf, if_neg hf]
      rcases h3 with ⟨rfl, rfl, rfl, hl⟩ | ⟨rfl, rfl, rfl⟩ | ⟨rfl, rfl⟩
      · obtain ⟨n, rfl⟩ : ∃ n : Nat, cut = (n : Int) := ⟨cut.toNat, by omega⟩
        have hff : ¬ ((false : Bool) = true) := by simp
        rw [wrAll_on]
        by_cases hn : (recL (textO x)).length ≤ n
        · have hc1 : ¬ (0 ≤ (n : Int) ∧ (n : Int) < ((recL (textO x)).length : Int)) := by omega
          have hc2 : 0 ≤ (n : Int) := by omega
          rw [if_pos hn, if_neg hff, if_neg hc1, if_pos hc2]
          exact ⟨rfl, rfl, rfl, .inl ⟨rfl, rfl, by show (n : Int) - _ = ((n - (recL (textO x)).length : Nat) : Int); omega, by show (0 : Int) ≤ ((n - (recL (textO x)).length : Nat) : Int); omega⟩⟩
        · have hc1 : 0 ≤ (n : Int) ∧ (n : Int) < ((recL (textO x)).length : Int) := by omega
          rw [if_neg hn, if_neg hff, if_pos hc1]
          exact ⟨rfl, rfl, rfl, .inr (.inr ⟨rfl, rfl⟩)⟩
      · have hff : ¬ ((false : Bool) = true) := by simp
        have hc1 : ¬ (0 ≤ (-1 : Int) ∧ (-1 : Int) < ((recL (textO x)).length : Int)) := by omega
        have hc2 : ¬ 0 ≤ (-1 : Int) := by omega
        rw [wrAll_free, if_neg hff, if_neg hc1, if_neg hc2]
        exact ⟨rfl, rfl, rfl, .inr (.inl ⟨rfl, rfl, rfl⟩)⟩
      · obtain ⟨c, r', hc⟩ := recL_ne (textO x)
        rw [hc, wrAll_off]
        exact ⟨rfl, rfl, rfl, .inr (.inr ⟨rfl, rfl⟩)⟩
  · rw [if_pos he, if_pos he]
    exact ⟨rfl, h⟩
theorem RelD.cut {B : List UInt8} {off waits : Bool} {left : Int} {B' : List UInt8} {off' : Bool} {cut : Int} (h : RelD (B, off, waits, left) (B', off', cut)) (n : Int) : RelD (cutSt (B, off, waits, left) n) (if cutE off' n = 0 then (B', off', n) else (B', off', cut)) := by
  obtain ⟨e1, e2, h3⟩ := id h
  dsimp only at e1 e2 h3
  subst e1
  subst e2
  unfold cutSt
  dsimp only
  by_cases hc : cutE off n = 0
  · rw [if_pos hc, if_pos hc]
    have hn : off = false ∧ 0 ≤ n := by
      unfold cutE at hc
      by_cases h0 : n < 0
      · rw [if_pos h0] at hc; cases hc
      · rw [if_neg h0] at hc
        cases off with
        | true => simp at hc
        | false => exact ⟨rfl, by omega⟩
    exact ⟨rfl, rfl, .inl ⟨hn.1, rfl, rfl, hn.2⟩⟩
  · rw [if_neg hc, if_neg hc]
    exact h
set_option maxRecDepth 100000 in
set_option maxHeartbeats 1000000 in
theorem setCut_any {m : Nat} {b : ByteArray} {off : Bool} {cut : Int} (w : World) (n : Int) (h : MAt w m b off cut) (hn : n ≤ 9223372036854775807) :
    Calls Tryz.prog 40 #[.pointer (some ⟨m, 0, none⟩), .int .i64 n] w fun e w' => e = .returned (.int .i64 ((cutE off n : Nat) : Int)) ∧ Aside (MAt w' m b off (if cutE off n = 0 then n else cut) ∧ Keeps (fun k => k = m) w w') := by
  obtain ⟨c0, c1, c2, cf⟩ := h.c
  have H : Aside (MAt w m b off cut) := h
  clear h
  by_cases h0 : n < 0
  · have d0 : decide (n < 0) = true := by simp; omega
    have ec : cutE off n = 2 := if_pos h0
    rw [ec]
    go_enter Tryz.func40, Tryz.ntmps40
    go_wp2
    go_ret
    exact ⟨rfl, H.out, Keeps.refl _ _⟩
  · have d0 : decide (n < 0) = false := by simp; omega
    cases off with
    | true =>
      have ec : cutE true n = 11 := by unfold cutE; rw [if_neg h0]; rfl
      rw [ec]
      go_enter Tryz.func40, Tryz.ntmps40
      go_wp2
      go_ret
      exact ⟨rfl, H.out, Keeps.refl _ _⟩
    | false =>
      have ec : cutE false n = 0 := by unfold cutE; rw [if_neg h0]; rfl
      rw [ec]
      go_enter Tryz.func40, Tryz.ntmps40
      go_wp2
      go_ret
      have h1 := H.out.set2 n ⟨by omega, hn⟩
      exact ⟨rfl, h1.1, h1.2⟩
set_option maxRecDepth 100000 in
set_option maxHeartbeats 1000000 in
theorem mrecover_any {m : Nat} {b : ByteArray} {off : Bool} {cut : Int} (w : World) (h : MAt w m b off cut) (hb : b.size ≤ 65536) :
    Calls Tryz.prog 43 #[.pointer (some ⟨m, 0, none⟩)] w fun e w' => ∃ (rv : Value) (F : ByteArray), e = .returned rv ∧ Aside (F.data.toList = b.data.toList.take (readL_ b.data.toList).2 ∧ MAt w' m F false (-1) ∧ w'.ownsRow w.heap.size 31 8 rv (readL_ b.data.toList).1.length (cellsOf (readL_ b.data.toList).1) ∧ Keeps (fun k => k = m) w w') := by
  obtain ⟨c0, c1, c2, cf⟩ := h.c
  have H : Aside (MAt w m b off cut) := h
  clear h
  have hrd := rread_any b w (by omega)
  unfold ReadOut at hrd
  obtain ⟨T, hT⟩ : ∃ T, Aside (T = readL_ b.data.toList) := ⟨_, rfl⟩
  rw [← hT.out] at hrd ⊢
  have hk : T.2 ≤ b.size := by
    have := (readA_le b.data.toList).1
    rw [← hT.out] at this
    simpa using this
  obtain ⟨k, hkk⟩ : ∃ k, Aside (k = T.2) := ⟨_, rfl⟩
  rw [← hkk.out] at hrd hk ⊢
  obtain ⟨F, hF, hsl⟩ := cut_left b k hk
  have HF : Aside (F.data.toList = b.data.toList.take k) := hF
  clear hF
  go_enter Tryz.func43, Tryz.ntmps43
  go_wp2_with fail
  refine hrd.mono ?_
  clear hrd c0 c1 c2 cf
  rintro e w1 ⟨rv, rfl, H1⟩
  have hM := H.out.later H1.out.2
  obtain ⟨c0, c1, c2, cf⟩ := hM.c
  have HM : Aside (MAt w1 m b off cut) := hM
  clear hM
  go_wp2
  go_ret
  have h1 := HM.out.set0 F
  have h2 := h1.1.set1 false
  have h3 := h2.1.set2 (-1) ⟨by omega, by omega⟩
  have hK := (h1.2.trans h2.2).trans h3.2
  refine ⟨rv, F, rfl, HF.out, h3.1, ownsJ H1.out.1 (fun g hg => ?_), ?_⟩
  · exact hK.block g (H1.out.1.lt g hg).2 (fun e => by have := (H1.out.1.lt g hg).1; have := H.out.lt; omega)
  · exact ((keeps_of_below H1.out.2).mono (fun k hk q => by omega)).trans hK
end Go.Proofs.YtcggmagdndhkbaaGreatDoor
end
