/- Contract of the reference's OpText, over the translation. -/
import Derived.Test.YtcggmagdndhkbaaDoorHexRef
import Derived.Test.YtcggmagdndhkbaaDoorOpText
import Derived.LoopN
namespace Go.Proofs.YtcggmagdndhkbaaDoor
open Go.RowKit

theorem add_bytes (x : List UInt8) (y : ByteArray) (h : x.length + y.size ≤ 9223372036854775807) (w : World) : (Op.stringOp .add ⟨x.toArray⟩ y).run Tryd.prog w = .ok (.string ⟨(x ++ y.data.toList).toArray⟩) w := by
  have := add_texts x y.data.toList (by rw [listLen]; exact h) w
  rw [arr_data] at this
  exact this

theorem rtext_steps (c i1 i2 i3 i4 i5 hx : List UInt8) (name : ByteArray) (h : c.length + i1.length + i2.length + i3.length + i4.length + i5.length + hx.length + name.size ≤ 1000000) :
    ∃ U1 T1 U2 T2 U3 T3 U4 T4 U5 T5 V1 V2 V3 V4 : List UInt8,
      (∀ w, (Op.stringOp .add ⟨c.toArray⟩ ⟨#[124]⟩).run Tryd.prog w = .ok (.string ⟨U1.toArray⟩) w) ∧ (∀ w, (Op.stringOp .add ⟨U1.toArray⟩ ⟨i1.toArray⟩).run Tryd.prog w = .ok (.string ⟨T1.toArray⟩) w) ∧
      (∀ w, (Op.stringOp .add ⟨T1.toArray⟩ ⟨#[124]⟩).run Tryd.prog w = .ok (.string ⟨U2.toArray⟩) w) ∧ (∀ w, (Op.stringOp .add ⟨U2.toArray⟩ ⟨i2.toArray⟩).run Tryd.prog w = .ok (.string ⟨T2.toArray⟩) w) ∧
      (∀ w, (Op.stringOp .add ⟨T2.toArray⟩ ⟨#[124]⟩).run Tryd.prog w = .ok (.string ⟨U3.toArray⟩) w) ∧ (∀ w, (Op.stringOp .add ⟨U3.toArray⟩ ⟨i3.toArray⟩).run Tryd.prog w = .ok (.string ⟨T3.toArray⟩) w) ∧
      (∀ w, (Op.stringOp .add ⟨T3.toArray⟩ ⟨#[124]⟩).run Tryd.prog w = .ok (.string ⟨U4.toArray⟩) w) ∧ (∀ w, (Op.stringOp .add ⟨U4.toArray⟩ ⟨i4.toArray⟩).run Tryd.prog w = .ok (.string ⟨T4.toArray⟩) w) ∧
      (∀ w, (Op.stringOp .add ⟨T4.toArray⟩ ⟨#[124]⟩).run Tryd.prog w = .ok (.string ⟨U5.toArray⟩) w) ∧ (∀ w, (Op.stringOp .add ⟨U5.toArray⟩ ⟨i5.toArray⟩).run Tryd.prog w = .ok (.string ⟨T5.toArray⟩) w) ∧
      (∀ w, (Op.stringOp .add ⟨T5.toArray⟩ ⟨#[124]⟩).run Tryd.prog w = .ok (.string ⟨V1.toArray⟩) w) ∧ (∀ w, (Op.stringOp .add ⟨V1.toArray⟩ name).run Tryd.prog w = .ok (.string ⟨V2.toArray⟩) w) ∧
      (∀ w, (Op.stringOp .add ⟨V2.toArray⟩ ⟨#[124]⟩).run Tryd.prog w = .ok (.string ⟨V3.toArray⟩) w) ∧ (∀ w, (Op.stringOp .add ⟨V3.toArray⟩ ⟨hx.toArray⟩).run Tryd.prog w = .ok (.string ⟨V4.toArray⟩) w) ∧
      V4 = joinP 124 [c, i1, i2, i3, i4, i5, name.data.toList, hx] := by
  have hn := listLen name
  refine ⟨_, _, _, _, _, _, _, _, _, _, _, _, _, _, add_texts c [124] (by simp; omega), add_texts _ i1 (by simp; omega), add_texts _ [124] (by simp; omega), add_texts _ i2 (by simp; omega), add_texts _ [124] (by simp; omega), add_texts _ i3 (by simp; omega), add_texts _ [124] (by simp; omega), add_texts _ i4 (by simp; omega), add_texts _ [124] (by simp; omega), add_texts _ i5 (by simp; omega), add_texts _ [124] (by simp; omega), add_bytes _ name (by simp; omega), add_texts _ [124] (by simp; omega), add_texts _ hx (by simp; omega), ?_⟩
  simp [joinP]

/-- The operation, its five numbers in a block; nothing old has turned. -/
structure RTx (w0 : World) (kb : Nat) (t b n : Int) (k : Nat) (node other : Int) (name value : ByteArray) (w : World) : Prop where
  op : OpAt w w0.heap.size t b n k node other name value
  s0 : w.cell? ⟨kb, 0, none⟩ = some (.int .i64 t)
  s1 : w.cell? ⟨kb, 1, none⟩ = some (.int .i64 b)
  s2 : w.cell? ⟨kb, 2, none⟩ = some (.int .i64 n)
  s3 : w.cell? ⟨kb, 3, none⟩ = some (.int .i64 node)
  s4 : w.cell? ⟨kb, 4, none⟩ = some (.int .i64 other)
  below : Below w0.heap.size w0 w
theorem RTx.later {w0 w w' : World} {kb : Nat} {t b n : Int} {k : Nat} {node other : Int} {name value : ByteArray} (h : RTx w0 kb t b n k node other name value w) (hb : Below w.heap.size w w') : RTx w0 kb t b n k node other name value w' :=
  ⟨h.op.later hb, cellLater hb h.s0, cellLater hb h.s1, cellLater hb h.s2, cellLater hb h.s3, cellLater hb h.s4, h.below.trans (hb.mono h.below.size)⟩
/-- What the last region reads. -/
abbrev RTr (w0 : World) (name value : ByteArray) (w : World) : Prop := w.cell? ⟨w0.heap.size, 6, none⟩ = some (.string name) ∧ w.cell? ⟨w0.heap.size, 7, none⟩ = some (.string value) ∧ Below w0.heap.size w0 w
theorem RTr.later {w0 w w' : World} {name value : ByteArray} (h : RTr w0 name value w) (hb : Below w.heap.size w w') : RTr w0 name value w' := ⟨cellLater hb h.1, cellLater hb h.2.1, h.2.2.trans (hb.mono h.2.2.size)⟩
theorem RTr.drew {w0 w : World} {name value : ByteArray} (h : RTr w0 name value w) : RTr w0 name value w.drew := h.later (Below.refl _ _).drew

set_option maxRecDepth 100000 in
set_option maxHeartbeats 4000000 in
theorem rtext_any (t b n : Int) (k : Nat) (node other : Int) (name value : ByteArray) (w : World) (hop : opE t b n k node other name.data.toList value.data.toList = 0) :
    Calls Tryd.prog 16 #[.agg #[.int .i64 t, .int .i64 b, .int .i64 n, .int .u8 (k : Int), .int .i64 node, .int .i64 other, .string name, .string value]] w fun e w' => e = .returned (.string ⟨(opTextL t b n k node other name.data.toList value.data.toList).toArray⟩) ∧ Below w.heap.size w w' := by
  obtain ⟨h1, h2, h3, h4, h5, h6, hk, h7, h8, h9, h10, -, hn, hv⟩ := opE_zero hop
  rw [listLen] at hn hv
  have e1 := Lib.itoa_length_le t (by omega) (by omega)
  have e2 := Lib.itoa_length_le b (by omega) (by omega)
  have e3 := Lib.itoa_length_le n (by omega) (by omega)
  have e4 := Lib.itoa_length_le node (by omega) (by omega)
  have e5 := Lib.itoa_length_le other (by omega) (by omega)
  have e6 := hexL_length value.data.toList
  rw [listLen] at e6
  obtain ⟨U1, T1, U2, T2, U3, T3, U4, T4, U5, T5, V1, V2, V3, V4, a1, a2, a3, a4, a5, a6, a7, a8, a9, a10, a11, a12, a13, a14, hE⟩ := rtext_steps [UInt8.ofNat k] (Lib.itoa t) (Lib.itoa b) (Lib.itoa n) (Lib.itoa node) (Lib.itoa other) (hexL value.data.toList) name (by simp only [List.length_cons, List.length_nil]; omega)
  have HE : Hid (opTextL t b n k node other name.data.toList value.data.toList = V4) := Lib.hid hE.symm
  have hk255 : k ≤ 255 := by omega
  have HB : Hid ((1 ≤ t ∧ t ≤ 1073741824) ∧ (0 ≤ b ∧ b < 4) ∧ (1 ≤ n ∧ n ≤ 400) ∧ (0 ≤ node ∧ node ≤ 4294967299) ∧ (0 ≤ other ∧ other ≤ 4294967299) ∧ name.size ≤ 12 ∧ value.size ≤ 12) := Lib.hid (by omega)
  have O0 := OpAt.new w t b n k node other name value 35
  have B0 : Below w.heap.size w (w.alloc (.cells #[.int .i64 t, .int .i64 b, .int .i64 n, .int .u8 (k : Int), .int .i64 node, .int .i64 other, .string name, .string value] 35)) := (Below.refl _ _).alloc (Nat.le_refl _) _
  clear hE hop hk h1 h2 h3 h4 h5 h6 h7 h8 h9 h10 hn hv e1 e2 e3 e4 e5 e6
  rw [HE.out]
  go_enter Tryd.func16, Tryd.ntmps16
  go_wp2_with fail
  generalize w.alloc (.cells #[.int .i64 t, .int .i64 b, .int .i64 n, .int .u8 (k : Int), .int .i64 node, .int .i64 other, .string name, .string value] 35) = u at O0 B0 ⊢
  refine (byte_any k u hk255).mono ?_
  rintro e w1 ⟨rfl, hb⟩
  have hdig : (⟨#[digB k]⟩ : ByteArray) = ⟨[UInt8.ofNat k].toArray⟩ := rfl
  rw [hdig]
  clear hdig
  have O1 := O0.later hb
  have B1 : Below w.heap.size w w1 := B0.trans (hb.mono B0.size)
  clear hb O0 B0
  have R1 : RTx w w1.heap.size t b n k node other name value (w1.alloc (.cells #[.int .i64 t, .int .i64 b, .int .i64 n, .int .i64 node, .int .i64 other] 3)) := by
    have hb2 : Below w1.heap.size w1 (w1.alloc (.cells #[.int .i64 t, .int .i64 b, .int .i64 n, .int .i64 node, .int .i64 other] 3)) := (Below.refl _ _).alloc (Nat.le_refl _) _
    exact ⟨O1.later hb2, by simp [go_sem], by simp [go_sem], by simp [go_sem], by simp [go_sem], by simp [go_sem], B1.trans (hb2.mono B1.size)⟩
  obtain ⟨x0, x1, x2, x3, x4, x5, x6, x7⟩ := O1
  go_wp2
  clear x0 x1 x2 x3 x4 x5 x6 x7 B1
  generalize w1.alloc (.cells #[.int .i64 t, .int .i64 b, .int .i64 n, .int .i64 node, .int .i64 other] 3) = v1 at R1 ⊢
  generalize w1.heap.size = kb at R1 ⊢
  refine wp_loop_rounds 6 ?_
  obtain ⟨-, y0, y1, y2, y3, y4, -⟩ := id R1
  rw [rounds_succ]; go_wp2_with fail
  refine (decimal_any t _ (by have := HB.out; omega) (by have := HB.out; omega)).mono ?_
  rintro e v2 ⟨rfl, hb⟩
  have R2 := R1.later hb
  clear hb R1 y0 y1 y2 y3 y4
  go_wp2
  obtain ⟨-, y0, y1, y2, y3, y4, -⟩ := id R2
  rw [rounds_succ]; go_wp2_with fail
  refine (decimal_any b _ (by have := HB.out; omega) (by have := HB.out; omega)).mono ?_
  rintro e v3 ⟨rfl, hb⟩
  have R3 := R2.later hb
  clear hb R2 y0 y1 y2 y3 y4
  go_wp2
  obtain ⟨-, y0, y1, y2, y3, y4, -⟩ := id R3
  rw [rounds_succ]; go_wp2_with fail
  refine (decimal_any n _ (by have := HB.out; omega) (by have := HB.out; omega)).mono ?_
  rintro e v4 ⟨rfl, hb⟩
  have R4 := R3.later hb
  clear hb R3 y0 y1 y2 y3 y4
  go_wp2
  obtain ⟨-, y0, y1, y2, y3, y4, -⟩ := id R4
  rw [rounds_succ]; go_wp2_with fail
  refine (decimal_any node _ (by have := HB.out; omega) (by have := HB.out; omega)).mono ?_
  rintro e v5 ⟨rfl, hb⟩
  have R5 := R4.later hb
  clear hb R4 y0 y1 y2 y3 y4
  go_wp2
  obtain ⟨-, y0, y1, y2, y3, y4, -⟩ := id R5
  rw [rounds_succ]; go_wp2_with fail
  refine (decimal_any other _ (by have := HB.out; omega) (by have := HB.out; omega)).mono ?_
  rintro e v6 ⟨rfl, hb⟩
  have R6 := R5.later hb
  clear hb R5 y0 y1 y2 y3 y4
  go_wp2
  rw [rounds_succ]; go_wp2_with fail
  have Q0 : RTr w name value v6 := ⟨R6.op.c6, R6.op.c7, R6.below⟩
  obtain ⟨A0, A1, A2⟩ := id Q0
  clear R6
  go_region_held3 (fun w' => w'.cell? ⟨w.heap.size, 6, none⟩ = some (.string name) ∧ w'.cell? ⟨w.heap.size, 7, none⟩ = some (.string value) ∧ Below w.heap.size w w')
    (first
      | with_reducible assumption
      | with_reducible exact RTr.drew Q0
      | with_reducible exact RTr.later (by assumption) (by assumption))
    (first
      | (go_at_call 25; refine (hex_any _ _ (by have := HB.out; omega)).mono ?_; rintro e w' ⟨rfl, hb⟩))
  have Q1 : RTr w name value w' := by assumption
  go_wp2
  go_ret
  exact ⟨rfl, Q1.2.2⟩
end Go.Proofs.YtcggmagdndhkbaaDoor
