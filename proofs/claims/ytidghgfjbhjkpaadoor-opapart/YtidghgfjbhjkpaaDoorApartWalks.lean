/- The walk of the law OpApart. -/
import Derived.Test.YtidghgfjbhjkpaaDoorOpText
import Derived.Test.YtidghgfjbhjkpaaDoorOpRead3
namespace Go.Proofs.YtidghgfjbhjkpaaDoor
open Go.RowKit

/-- Two operations, compared. -/
def eqB (t b n : Int) (k : Nat) (node other : Int) (name value : ByteArray) (t' b' n' : Int) (k' : Nat) (node' other' : Int) (name' value' : ByteArray) : Bool := decide (t = t' ∧ b = b' ∧ n = n' ∧ k = k' ∧ node = node' ∧ other = other' ∧ name = name' ∧ value = value')
theorem eqOp (t b n : Int) (k : Nat) (node other : Int) (name value : ByteArray) (t' b' n' : Int) (k' : Nat) (node' other' : Int) (name' value' : ByteArray) (w : World) : (Op.equalIn 10000 77 (.agg #[.int .i64 t, .int .i64 b, .int .i64 n, .int .u8 (k : Int), .int .i64 node, .int .i64 other, .string name, .string value]) (.agg #[.int .i64 t', .int .i64 b', .int .i64 n', .int .u8 (k' : Int), .int .i64 node', .int .i64 other', .string name', .string value'])).run Tryd.prog w = .ok (eqB t b n k node other name value t' b' n' k' node' other' name' value') w := by
  have hs : ∀ x y : ByteArray, x.toList = y.toList ↔ x = y := fun x y => ⟨fun h => by rw [ByteArray.toList_eq, ByteArray.toList_eq] at h; exact WideShapes.bytes_inj h, fun h => by rw [h]⟩
  unfold eqB
  go_simp
  simp only [Int.natCast_inj]
  by_cases h1 : t = t' <;> by_cases h2 : b = b' <;> by_cases h3 : n = n' <;> by_cases h4 : k = k' <;> by_cases h5 : node = node' <;> by_cases h6 : other = other' <;> by_cases h7 : name = name' <;> by_cases h8 : value = value' <;> simp [h1, h2, h3, h4, h5, h6, h7, h8]
theorem eqB_self (t b n : Int) (k : Nat) (node other : Int) (name value : ByteArray) : eqB t b n k node other name value t b n k node other name value = true := by simp [eqB]

theorem text_len {t b n : Int} {k : Nat} {node other : Int} {name value : List UInt8} (h : opE t b n k node other name value = 0) : (opTextL t b n k node other name value).length ≤ 1000 := by
  obtain ⟨h1, h2, h3, h4, h5, h6, hk, h7, h8, h9, h10, -, hn, hv⟩ := opE_zero h
  have e1 := Lib.itoa_length_le t (by omega) (by omega)
  have e2 := Lib.itoa_length_le b (by omega) (by omega)
  have e3 := Lib.itoa_length_le n (by omega) (by omega)
  have e4 := Lib.itoa_length_le node (by omega) (by omega)
  have e5 := Lib.itoa_length_le other (by omega) (by omega)
  have e6 := hexL_length value
  unfold opTextL
  simp only [joinP, List.length_append, List.length_cons, List.length_nil]
  omega
theorem same_text (t b n : Int) (k : Nat) (node other : Int) (name value : ByteArray) (t' b' n' : Int) (k' : Nat) (node' other' : Int) (name' value' : ByteArray) (h : opE t b n k node other name.data.toList value.data.toList = 0) (h' : opE t' b' n' k' node' other' name'.data.toList value'.data.toList = 0) : (opTextL t b n k node other name.data.toList value.data.toList == opTextL t' b' n' k' node' other' name'.data.toList value'.data.toList) = eqB t b n k node other name value t' b' n' k' node' other' name' value' := by
  unfold eqB
  by_cases he : opTextL t b n k node other name.data.toList value.data.toList = opTextL t' b' n' k' node' other' name'.data.toList value'.data.toList
  · rw [he]
    have p1 := parts_text h
    rw [he, parts_text h'] at p1
    simp only [Option.some.injEq, Prod.mk.injEq] at p1
    obtain ⟨q0, q1, q2, q3, q4, q5, q6, q7⟩ := p1
    obtain ⟨a1, a2, a3, a4, a5, a6, ak, a7, a8, a9, a10, -, -, -⟩ := opE_zero h
    obtain ⟨b1, b2, b3, b4, b5, b6, bk, b7, b8, b9, b10, -, -, -⟩ := opE_zero h'
    have hk : k = k' := by
      have := congrArg UInt8.toNat q0
      simp at this
      omega
    rw [decide_eq_true]
    · simp
    · exact ⟨by omega, by omega, by omega, hk, by omega, by omega, (WideShapes.bytes_inj q6).symm, (WideShapes.bytes_inj q7).symm⟩
  · rw [decide_eq_false]
    · simpa using he
    · rintro ⟨rfl, rfl, rfl, rfl, rfl, rfl, rfl, rfl⟩
      exact he rfl

/-- What the law's road reaches. -/
structure ApE (ad : Nat → Addr) (m : Int) (w : World) : Prop where
  txt : TxtE ad w
  max : w.cell? ⟨14, 0, none⟩ = some (.int .i64 m)
theorem ApE.later {ad : Nat → Addr} {m : Int} {w w' : World} (h : ApE ad m w) (hb : Below w.heap.size w w') : ApE ad m w' := ⟨h.txt.later hb, cellLater hb h.max⟩

theorem read_back {ad : Nat → Addr} {m : Int} (t b n : Int) (k : Nat) (node other : Int) (name value : ByteArray) (w : World) (hE : ApE ad m w) (h : opE t b n k node other name.data.toList value.data.toList = 0) :
    Calls Tryd.prog 47 #[.string ⟨(opTextL t b n k node other name.data.toList value.data.toList).toArray⟩] w fun e w' => e = .returned (.tuple #[.agg #[.int .i64 t, .int .i64 b, .int .i64 n, .int .u8 (k : Int), .int .i64 node, .int .i64 other, .string name, .string value], .nilIface]) ∧ Below w.heap.size w w' := by
  obtain ⟨h1, h2, h3, h4, h5, h6, hk, h7, h8, h9, h10, -, hn, hv⟩ := opE_zero h
  have hl := text_len h
  have hp := parts_text h
  have hk' : (UInt8.ofNat k).toNat = k := by simp; omega
  have t1 : ((t.toNat : Nat) : Int) = t := by omega
  have t2 : ((b.toNat : Nat) : Int) = b := by omega
  have t3 : ((n.toNat : Nat) : Int) = n := by omega
  have t4 : ((node.toNat : Nat) : Int) = node := by omega
  have t5 : ((other.toNat : Nat) : Int) = other := by omega
  have hr := read_ok (ad := ad) ⟨(opTextL t b n k node other name.data.toList value.data.toList).toArray⟩ w (by rw [sizeOfList]; omega) m hE.max hE.txt.op4 _ _ _ _ _ _ _ _ hp (by omega) (by omega) (by rw [hk', t1, t2, t3, t4, t5]; exact h)
  unfold partsO at hr
  simp only [hk', t1, t2, t3, t4, t5, arr_data] at hr
  exact hr


set_option maxRecDepth 100000 in
set_option maxHeartbeats 4000000 in
theorem apart_long {ad : Nat → Addr} {m : Int} (t b n : Int) (k : Nat) (node other : Int) (name value : ByteArray) (t' b' n' : Int) (k' : Nat) (node' other' : Int) (name' value' : ByteArray) (w : World) (hE : ApE ad m w) (h : 60 < name.size ∨ 60 < value.size ∨ 60 < name'.size ∨ 60 < value'.size) :
    Calls Tryd.prog 10 #[.agg #[.int .i64 t, .int .i64 b, .int .i64 n, .int .u8 (k : Int), .int .i64 node, .int .i64 other, .string name, .string value], .agg #[.int .i64 t', .int .i64 b', .int .i64 n', .int .u8 (k' : Int), .int .i64 node', .int .i64 other', .string name', .string value']] w fun e w' => e = .returned (.bool true) ∧ Below w.heap.size w w' := by
  have X0 : OpAt ((w.alloc (.cells #[.int .i64 t, .int .i64 b, .int .i64 n, .int .u8 (k : Int), .int .i64 node, .int .i64 other, .string name, .string value] 77)).alloc (.cells #[.int .i64 t', .int .i64 b', .int .i64 n', .int .u8 (k' : Int), .int .i64 node', .int .i64 other', .string name', .string value'] 77)) w.heap.size t b n k node other name value := (OpAt.new w t b n k node other name value 77).later ((Below.refl _ _).alloc (Nat.le_refl _) _)
  have Y0 : OpAt ((w.alloc (.cells #[.int .i64 t, .int .i64 b, .int .i64 n, .int .u8 (k : Int), .int .i64 node, .int .i64 other, .string name, .string value] 77)).alloc (.cells #[.int .i64 t', .int .i64 b', .int .i64 n', .int .u8 (k' : Int), .int .i64 node', .int .i64 other', .string name', .string value'] 77)) (w.heap.size + 1) t' b' n' k' node' other' name' value' := by
    have := OpAt.new (w.alloc (.cells #[.int .i64 t, .int .i64 b, .int .i64 n, .int .u8 (k : Int), .int .i64 node, .int .i64 other, .string name, .string value] 77)) t' b' n' k' node' other' name' value' 77
    simpa using this
  have B0 : Below w.heap.size w ((w.alloc (.cells #[.int .i64 t, .int .i64 b, .int .i64 n, .int .u8 (k : Int), .int .i64 node, .int .i64 other, .string name, .string value] 77)).alloc (.cells #[.int .i64 t', .int .i64 b', .int .i64 n', .int .u8 (k' : Int), .int .i64 node', .int .i64 other', .string name', .string value'] 77)) := ((Below.refl _ _).alloc (Nat.le_refl _) _).alloc (by simp) _
  rcases (by omega : 60 < name.size ∨ (name.size ≤ 60 ∧ 60 < value.size) ∨ (name.size ≤ 60 ∧ value.size ≤ 60 ∧ 60 < name'.size) ∨ (name.size ≤ 60 ∧ value.size ≤ 60 ∧ name'.size ≤ 60 ∧ 60 < value'.size)) with h1 | ⟨h1, h2⟩ | ⟨h1, h2, h3⟩ | ⟨h1, h2, h3, h4⟩
  · have d1 : decide (60 < (name.size : Int)) = true := by simp; omega
    clear h
    go_enter Tryd.func10, Tryd.ntmps10
    go_wp2_with fail
    generalize (w.alloc (.cells #[.int .i64 t, .int .i64 b, .int .i64 n, .int .u8 (k : Int), .int .i64 node, .int .i64 other, .string name, .string value] 77)).alloc (.cells #[.int .i64 t', .int .i64 b', .int .i64 n', .int .u8 (k' : Int), .int .i64 node', .int .i64 other', .string name', .string value'] 77) = u at X0 Y0 B0 ⊢
    refine (written_any (ad := ad) _ (hE.later B0).txt).mono ?_
    rintro e w1 ⟨rfl, hb⟩
    have X1 := X0.later hb
    have Y1 := Y0.later hb
    have B1 : Below w.heap.size w w1 := B0.trans (hb.mono B0.size)
    clear hb X0 Y0 B0
    obtain ⟨x0, x1, x2, x3, x4, x5, x6, x7⟩ := id X1
    obtain ⟨y0, y1, y2, y3, y4, y5, y6, y7⟩ := id Y1
    go_wp2
    go_ret
    exact ⟨rfl, B1⟩
  · have d1 : decide (60 < (name.size : Int)) = false := by simp; omega
    have d2 : decide (60 < (value.size : Int)) = true := by simp; omega
    clear h
    go_enter Tryd.func10, Tryd.ntmps10
    go_wp2_with fail
    generalize (w.alloc (.cells #[.int .i64 t, .int .i64 b, .int .i64 n, .int .u8 (k : Int), .int .i64 node, .int .i64 other, .string name, .string value] 77)).alloc (.cells #[.int .i64 t', .int .i64 b', .int .i64 n', .int .u8 (k' : Int), .int .i64 node', .int .i64 other', .string name', .string value'] 77) = u at X0 Y0 B0 ⊢
    refine (written_any (ad := ad) _ (hE.later B0).txt).mono ?_
    rintro e w1 ⟨rfl, hb⟩
    have X1 := X0.later hb
    have Y1 := Y0.later hb
    have B1 : Below w.heap.size w w1 := B0.trans (hb.mono B0.size)
    clear hb X0 Y0 B0
    obtain ⟨x0, x1, x2, x3, x4, x5, x6, x7⟩ := id X1
    obtain ⟨y0, y1, y2, y3, y4, y5, y6, y7⟩ := id Y1
    go_wp2
    go_ret
    exact ⟨rfl, B1⟩
  · have d1 : decide (60 < (name.size : Int)) = false := by simp; omega
    have d2 : decide (60 < (value.size : Int)) = false := by simp; omega
    have d3 : decide (60 < (name'.size : Int)) = true := by simp; omega
    clear h
    go_enter Tryd.func10, Tryd.ntmps10
    go_wp2_with fail
    generalize (w.alloc (.cells #[.int .i64 t, .int .i64 b, .int .i64 n, .int .u8 (k : Int), .int .i64 node, .int .i64 other, .string name, .string value] 77)).alloc (.cells #[.int .i64 t', .int .i64 b', .int .i64 n', .int .u8 (k' : Int), .int .i64 node', .int .i64 other', .string name', .string value'] 77) = u at X0 Y0 B0 ⊢
    refine (written_any (ad := ad) _ (hE.later B0).txt).mono ?_
    rintro e w1 ⟨rfl, hb⟩
    have X1 := X0.later hb
    have Y1 := Y0.later hb
    have B1 : Below w.heap.size w w1 := B0.trans (hb.mono B0.size)
    clear hb X0 Y0 B0
    obtain ⟨x0, x1, x2, x3, x4, x5, x6, x7⟩ := id X1
    obtain ⟨y0, y1, y2, y3, y4, y5, y6, y7⟩ := id Y1
    go_wp2
    go_ret
    exact ⟨rfl, B1⟩
  · have d1 : decide (60 < (name.size : Int)) = false := by simp; omega
    have d2 : decide (60 < (value.size : Int)) = false := by simp; omega
    have d3 : decide (60 < (name'.size : Int)) = false := by simp; omega
    have d4 : decide (60 < (value'.size : Int)) = true := by simp; omega
    clear h
    go_enter Tryd.func10, Tryd.ntmps10
    go_wp2_with fail
    generalize (w.alloc (.cells #[.int .i64 t, .int .i64 b, .int .i64 n, .int .u8 (k : Int), .int .i64 node, .int .i64 other, .string name, .string value] 77)).alloc (.cells #[.int .i64 t', .int .i64 b', .int .i64 n', .int .u8 (k' : Int), .int .i64 node', .int .i64 other', .string name', .string value'] 77) = u at X0 Y0 B0 ⊢
    refine (written_any (ad := ad) _ (hE.later B0).txt).mono ?_
    rintro e w1 ⟨rfl, hb⟩
    have X1 := X0.later hb
    have Y1 := Y0.later hb
    have B1 : Below w.heap.size w w1 := B0.trans (hb.mono B0.size)
    clear hb X0 Y0 B0
    obtain ⟨x0, x1, x2, x3, x4, x5, x6, x7⟩ := id X1
    obtain ⟨y0, y1, y2, y3, y4, y5, y6, y7⟩ := id Y1
    go_wp2
    go_ret
    exact ⟨rfl, B1⟩

set_option maxRecDepth 100000 in
set_option maxHeartbeats 4000000 in
theorem apart_a_b {ad : Nat → Addr} {m : Int} (t b n : Int) (k : Nat) (node other : Int) (name value : ByteArray) (t' b' n' : Int) (k' : Nat) (node' other' : Int) (name' value' : ByteArray) (w : World) (hE : ApE ad m w) (hs : name.size ≤ 60 ∧ value.size ≤ 60 ∧ name'.size ≤ 60 ∧ value'.size ≤ 60) (ha : opE t b n k node other name.data.toList value.data.toList ≠ 0) (hb0 : opE t' b' n' k' node' other' name'.data.toList value'.data.toList = 0) :
    Calls Tryd.prog 10 #[.agg #[.int .i64 t, .int .i64 b, .int .i64 n, .int .u8 (k : Int), .int .i64 node, .int .i64 other, .string name, .string value], .agg #[.int .i64 t', .int .i64 b', .int .i64 n', .int .u8 (k' : Int), .int .i64 node', .int .i64 other', .string name', .string value']] w fun e w' => e = .returned (.bool true) ∧ Below w.heap.size w w' := by
  have X0 : OpAt ((w.alloc (.cells #[.int .i64 t, .int .i64 b, .int .i64 n, .int .u8 (k : Int), .int .i64 node, .int .i64 other, .string name, .string value] 77)).alloc (.cells #[.int .i64 t', .int .i64 b', .int .i64 n', .int .u8 (k' : Int), .int .i64 node', .int .i64 other', .string name', .string value'] 77)) w.heap.size t b n k node other name value := (OpAt.new w t b n k node other name value 77).later ((Below.refl _ _).alloc (Nat.le_refl _) _)
  have Y0 : OpAt ((w.alloc (.cells #[.int .i64 t, .int .i64 b, .int .i64 n, .int .u8 (k : Int), .int .i64 node, .int .i64 other, .string name, .string value] 77)).alloc (.cells #[.int .i64 t', .int .i64 b', .int .i64 n', .int .u8 (k' : Int), .int .i64 node', .int .i64 other', .string name', .string value'] 77)) (w.heap.size + 1) t' b' n' k' node' other' name' value' := by
    have := OpAt.new (w.alloc (.cells #[.int .i64 t, .int .i64 b, .int .i64 n, .int .u8 (k : Int), .int .i64 node, .int .i64 other, .string name, .string value] 77)) t' b' n' k' node' other' name' value' 77
    simpa using this
  have B0 : Below w.heap.size w ((w.alloc (.cells #[.int .i64 t, .int .i64 b, .int .i64 n, .int .u8 (k : Int), .int .i64 node, .int .i64 other, .string name, .string value] 77)).alloc (.cells #[.int .i64 t', .int .i64 b', .int .i64 n', .int .u8 (k' : Int), .int .i64 node', .int .i64 other', .string name', .string value'] 77)) := ((Below.refl _ _).alloc (Nat.le_refl _) _).alloc (by simp) _
  obtain ⟨s1, s2, s3, s4⟩ := hs
  have d1 : decide (60 < (name.size : Int)) = false := by simp; omega
  have d2 : decide (60 < (value.size : Int)) = false := by simp; omega
  have d3 : decide (60 < (name'.size : Int)) = false := by simp; omega
  have d4 : decide (60 < (value'.size : Int)) = false := by simp; omega
  have HA := Lib.hid ha
  have HB := Lib.hid hb0
  clear ha hb0
  go_enter Tryd.func10, Tryd.ntmps10
  go_wp2_with fail
  generalize (w.alloc (.cells #[.int .i64 t, .int .i64 b, .int .i64 n, .int .u8 (k : Int), .int .i64 node, .int .i64 other, .string name, .string value] 77)).alloc (.cells #[.int .i64 t', .int .i64 b', .int .i64 n', .int .u8 (k' : Int), .int .i64 node', .int .i64 other', .string name', .string value'] 77) = u at X0 Y0 B0 ⊢
  refine (written_any (ad := ad) _ (hE.later B0).txt).mono ?_
  rintro e w1 ⟨rfl, hb⟩
  have X1 := X0.later hb
  have Y1 := Y0.later hb
  have B1 : Below w.heap.size w w1 := B0.trans (hb.mono B0.size)
  clear hb X0 Y0 B0
  obtain ⟨x0, x1, x2, x3, x4, x5, x6, x7⟩ := id X1
  obtain ⟨y0, y1, y2, y3, y4, y5, y6, y7⟩ := id Y1
  go_wp2_with fail
  refine (optext_no (ad := ad) t b n k node other name value _ (hE.later B1).txt (by omega) (by omega) HA.out).mono ?_
  rintro e w2 ⟨rfl, hb⟩
  have X2 := X1.later hb
  have Y2 := Y1.later hb
  have B2 : Below w.heap.size w w2 := B1.trans (hb.mono B1.size)
  clear hb x0 x1 x2 x3 x4 x5 x6 x7 y0 y1 y2 y3 y4 y5 y6 y7 X1 Y1 B1
  obtain ⟨x0, x1, x2, x3, x4, x5, x6, x7⟩ := id X2
  obtain ⟨y0, y1, y2, y3, y4, y5, y6, y7⟩ := id Y2
  go_wp2_with fail
  refine (optext_ok (ad := ad) t' b' n' k' node' other' name' value' _ (hE.later B2).txt HB.out).mono ?_
  rintro e w3 ⟨rfl, hb⟩
  have X3 := X2.later hb
  have Y3 := Y2.later hb
  have B3 : Below w.heap.size w w3 := B2.trans (hb.mono B2.size)
  clear hb x0 x1 x2 x3 x4 x5 x6 x7 y0 y1 y2 y3 y4 y5 y6 y7 X2 Y2 B2
  obtain ⟨x0, x1, x2, x3, x4, x5, x6, x7⟩ := id X3
  obtain ⟨y0, y1, y2, y3, y4, y5, y6, y7⟩ := id Y3
  go_wp2
  go_ret
  exact ⟨rfl, B3⟩

set_option maxRecDepth 100000 in
set_option maxHeartbeats 4000000 in
theorem apart_a_nb {ad : Nat → Addr} {m : Int} (t b n : Int) (k : Nat) (node other : Int) (name value : ByteArray) (t' b' n' : Int) (k' : Nat) (node' other' : Int) (name' value' : ByteArray) (w : World) (hE : ApE ad m w) (hs : name.size ≤ 60 ∧ value.size ≤ 60 ∧ name'.size ≤ 60 ∧ value'.size ≤ 60) (ha : opE t b n k node other name.data.toList value.data.toList ≠ 0) (hb0 : opE t' b' n' k' node' other' name'.data.toList value'.data.toList ≠ 0) :
    Calls Tryd.prog 10 #[.agg #[.int .i64 t, .int .i64 b, .int .i64 n, .int .u8 (k : Int), .int .i64 node, .int .i64 other, .string name, .string value], .agg #[.int .i64 t', .int .i64 b', .int .i64 n', .int .u8 (k' : Int), .int .i64 node', .int .i64 other', .string name', .string value']] w fun e w' => e = .returned (.bool true) ∧ Below w.heap.size w w' := by
  have X0 : OpAt ((w.alloc (.cells #[.int .i64 t, .int .i64 b, .int .i64 n, .int .u8 (k : Int), .int .i64 node, .int .i64 other, .string name, .string value] 77)).alloc (.cells #[.int .i64 t', .int .i64 b', .int .i64 n', .int .u8 (k' : Int), .int .i64 node', .int .i64 other', .string name', .string value'] 77)) w.heap.size t b n k node other name value := (OpAt.new w t b n k node other name value 77).later ((Below.refl _ _).alloc (Nat.le_refl _) _)
  have Y0 : OpAt ((w.alloc (.cells #[.int .i64 t, .int .i64 b, .int .i64 n, .int .u8 (k : Int), .int .i64 node, .int .i64 other, .string name, .string value] 77)).alloc (.cells #[.int .i64 t', .int .i64 b', .int .i64 n', .int .u8 (k' : Int), .int .i64 node', .int .i64 other', .string name', .string value'] 77)) (w.heap.size + 1) t' b' n' k' node' other' name' value' := by
    have := OpAt.new (w.alloc (.cells #[.int .i64 t, .int .i64 b, .int .i64 n, .int .u8 (k : Int), .int .i64 node, .int .i64 other, .string name, .string value] 77)) t' b' n' k' node' other' name' value' 77
    simpa using this
  have B0 : Below w.heap.size w ((w.alloc (.cells #[.int .i64 t, .int .i64 b, .int .i64 n, .int .u8 (k : Int), .int .i64 node, .int .i64 other, .string name, .string value] 77)).alloc (.cells #[.int .i64 t', .int .i64 b', .int .i64 n', .int .u8 (k' : Int), .int .i64 node', .int .i64 other', .string name', .string value'] 77)) := ((Below.refl _ _).alloc (Nat.le_refl _) _).alloc (by simp) _
  obtain ⟨s1, s2, s3, s4⟩ := hs
  have d1 : decide (60 < (name.size : Int)) = false := by simp; omega
  have d2 : decide (60 < (value.size : Int)) = false := by simp; omega
  have d3 : decide (60 < (name'.size : Int)) = false := by simp; omega
  have d4 : decide (60 < (value'.size : Int)) = false := by simp; omega
  have HA := Lib.hid ha
  have HB := Lib.hid hb0
  clear ha hb0
  go_enter Tryd.func10, Tryd.ntmps10
  go_wp2_with fail
  generalize (w.alloc (.cells #[.int .i64 t, .int .i64 b, .int .i64 n, .int .u8 (k : Int), .int .i64 node, .int .i64 other, .string name, .string value] 77)).alloc (.cells #[.int .i64 t', .int .i64 b', .int .i64 n', .int .u8 (k' : Int), .int .i64 node', .int .i64 other', .string name', .string value'] 77) = u at X0 Y0 B0 ⊢
  refine (written_any (ad := ad) _ (hE.later B0).txt).mono ?_
  rintro e w1 ⟨rfl, hb⟩
  have X1 := X0.later hb
  have Y1 := Y0.later hb
  have B1 : Below w.heap.size w w1 := B0.trans (hb.mono B0.size)
  clear hb X0 Y0 B0
  obtain ⟨x0, x1, x2, x3, x4, x5, x6, x7⟩ := id X1
  obtain ⟨y0, y1, y2, y3, y4, y5, y6, y7⟩ := id Y1
  go_wp2_with fail
  refine (optext_no (ad := ad) t b n k node other name value _ (hE.later B1).txt (by omega) (by omega) HA.out).mono ?_
  rintro e w2 ⟨rfl, hb⟩
  have X2 := X1.later hb
  have Y2 := Y1.later hb
  have B2 : Below w.heap.size w w2 := B1.trans (hb.mono B1.size)
  clear hb x0 x1 x2 x3 x4 x5 x6 x7 y0 y1 y2 y3 y4 y5 y6 y7 X1 Y1 B1
  obtain ⟨x0, x1, x2, x3, x4, x5, x6, x7⟩ := id X2
  obtain ⟨y0, y1, y2, y3, y4, y5, y6, y7⟩ := id Y2
  go_wp2_with fail
  refine (optext_no (ad := ad) t' b' n' k' node' other' name' value' _ (hE.later B2).txt (by omega) (by omega) HB.out).mono ?_
  rintro e w3 ⟨rfl, hb⟩
  have X3 := X2.later hb
  have Y3 := Y2.later hb
  have B3 : Below w.heap.size w w3 := B2.trans (hb.mono B2.size)
  clear hb x0 x1 x2 x3 x4 x5 x6 x7 y0 y1 y2 y3 y4 y5 y6 y7 X2 Y2 B2
  obtain ⟨x0, x1, x2, x3, x4, x5, x6, x7⟩ := id X3
  obtain ⟨y0, y1, y2, y3, y4, y5, y6, y7⟩ := id Y3
  go_wp2
  go_ret
  exact ⟨rfl, B3⟩

set_option maxRecDepth 100000 in
set_option maxHeartbeats 4000000 in
theorem apart_nb {ad : Nat → Addr} {m : Int} (t b n : Int) (k : Nat) (node other : Int) (name value : ByteArray) (t' b' n' : Int) (k' : Nat) (node' other' : Int) (name' value' : ByteArray) (w : World) (hE : ApE ad m w) (hs : name.size ≤ 60 ∧ value.size ≤ 60 ∧ name'.size ≤ 60 ∧ value'.size ≤ 60) (ha : opE t b n k node other name.data.toList value.data.toList = 0) (hb0 : opE t' b' n' k' node' other' name'.data.toList value'.data.toList ≠ 0) :
    Calls Tryd.prog 10 #[.agg #[.int .i64 t, .int .i64 b, .int .i64 n, .int .u8 (k : Int), .int .i64 node, .int .i64 other, .string name, .string value], .agg #[.int .i64 t', .int .i64 b', .int .i64 n', .int .u8 (k' : Int), .int .i64 node', .int .i64 other', .string name', .string value']] w fun e w' => e = .returned (.bool true) ∧ Below w.heap.size w w' := by
  have X0 : OpAt ((w.alloc (.cells #[.int .i64 t, .int .i64 b, .int .i64 n, .int .u8 (k : Int), .int .i64 node, .int .i64 other, .string name, .string value] 77)).alloc (.cells #[.int .i64 t', .int .i64 b', .int .i64 n', .int .u8 (k' : Int), .int .i64 node', .int .i64 other', .string name', .string value'] 77)) w.heap.size t b n k node other name value := (OpAt.new w t b n k node other name value 77).later ((Below.refl _ _).alloc (Nat.le_refl _) _)
  have Y0 : OpAt ((w.alloc (.cells #[.int .i64 t, .int .i64 b, .int .i64 n, .int .u8 (k : Int), .int .i64 node, .int .i64 other, .string name, .string value] 77)).alloc (.cells #[.int .i64 t', .int .i64 b', .int .i64 n', .int .u8 (k' : Int), .int .i64 node', .int .i64 other', .string name', .string value'] 77)) (w.heap.size + 1) t' b' n' k' node' other' name' value' := by
    have := OpAt.new (w.alloc (.cells #[.int .i64 t, .int .i64 b, .int .i64 n, .int .u8 (k : Int), .int .i64 node, .int .i64 other, .string name, .string value] 77)) t' b' n' k' node' other' name' value' 77
    simpa using this
  have B0 : Below w.heap.size w ((w.alloc (.cells #[.int .i64 t, .int .i64 b, .int .i64 n, .int .u8 (k : Int), .int .i64 node, .int .i64 other, .string name, .string value] 77)).alloc (.cells #[.int .i64 t', .int .i64 b', .int .i64 n', .int .u8 (k' : Int), .int .i64 node', .int .i64 other', .string name', .string value'] 77)) := ((Below.refl _ _).alloc (Nat.le_refl _) _).alloc (by simp) _
  obtain ⟨s1, s2, s3, s4⟩ := hs
  have d1 : decide (60 < (name.size : Int)) = false := by simp; omega
  have d2 : decide (60 < (value.size : Int)) = false := by simp; omega
  have d3 : decide (60 < (name'.size : Int)) = false := by simp; omega
  have d4 : decide (60 < (value'.size : Int)) = false := by simp; omega
  have HA := Lib.hid ha
  have HB := Lib.hid hb0
  clear ha hb0
  go_enter Tryd.func10, Tryd.ntmps10
  go_wp2_with fail
  generalize (w.alloc (.cells #[.int .i64 t, .int .i64 b, .int .i64 n, .int .u8 (k : Int), .int .i64 node, .int .i64 other, .string name, .string value] 77)).alloc (.cells #[.int .i64 t', .int .i64 b', .int .i64 n', .int .u8 (k' : Int), .int .i64 node', .int .i64 other', .string name', .string value'] 77) = u at X0 Y0 B0 ⊢
  refine (written_any (ad := ad) _ (hE.later B0).txt).mono ?_
  rintro e w1 ⟨rfl, hb⟩
  have X1 := X0.later hb
  have Y1 := Y0.later hb
  have B1 : Below w.heap.size w w1 := B0.trans (hb.mono B0.size)
  clear hb X0 Y0 B0
  obtain ⟨x0, x1, x2, x3, x4, x5, x6, x7⟩ := id X1
  obtain ⟨y0, y1, y2, y3, y4, y5, y6, y7⟩ := id Y1
  go_wp2_with fail
  refine (optext_ok (ad := ad) t b n k node other name value _ (hE.later B1).txt HA.out).mono ?_
  rintro e w2 ⟨rfl, hb⟩
  have X2 := X1.later hb
  have Y2 := Y1.later hb
  have B2 : Below w.heap.size w w2 := B1.trans (hb.mono B1.size)
  clear hb x0 x1 x2 x3 x4 x5 x6 x7 y0 y1 y2 y3 y4 y5 y6 y7 X1 Y1 B1
  obtain ⟨x0, x1, x2, x3, x4, x5, x6, x7⟩ := id X2
  obtain ⟨y0, y1, y2, y3, y4, y5, y6, y7⟩ := id Y2
  go_wp2_with fail
  refine (optext_no (ad := ad) t' b' n' k' node' other' name' value' _ (hE.later B2).txt (by omega) (by omega) HB.out).mono ?_
  rintro e w3 ⟨rfl, hb⟩
  have X3 := X2.later hb
  have Y3 := Y2.later hb
  have B3 : Below w.heap.size w w3 := B2.trans (hb.mono B2.size)
  clear hb x0 x1 x2 x3 x4 x5 x6 x7 y0 y1 y2 y3 y4 y5 y6 y7 X2 Y2 B2
  obtain ⟨x0, x1, x2, x3, x4, x5, x6, x7⟩ := id X3
  obtain ⟨y0, y1, y2, y3, y4, y5, y6, y7⟩ := id Y3
  go_wp2
  go_ret
  exact ⟨rfl, B3⟩

set_option maxRecDepth 100000 in
set_option maxHeartbeats 4000000 in
theorem apart_ok {ad : Nat → Addr} {m : Int} (t b n : Int) (k : Nat) (node other : Int) (name value : ByteArray) (t' b' n' : Int) (k' : Nat) (node' other' : Int) (name' value' : ByteArray) (w : World) (hE : ApE ad m w) (hs : name.size ≤ 60 ∧ value.size ≤ 60 ∧ name'.size ≤ 60 ∧ value'.size ≤ 60) (ha : opE t b n k node other name.data.toList value.data.toList = 0) (hb0 : opE t' b' n' k' node' other' name'.data.toList value'.data.toList = 0) :
    Calls Tryd.prog 10 #[.agg #[.int .i64 t, .int .i64 b, .int .i64 n, .int .u8 (k : Int), .int .i64 node, .int .i64 other, .string name, .string value], .agg #[.int .i64 t', .int .i64 b', .int .i64 n', .int .u8 (k' : Int), .int .i64 node', .int .i64 other', .string name', .string value']] w fun e w' => e = .returned (.bool true) ∧ Below w.heap.size w w' := by
  have X0 : OpAt ((w.alloc (.cells #[.int .i64 t, .int .i64 b, .int .i64 n, .int .u8 (k : Int), .int .i64 node, .int .i64 other, .string name, .string value] 77)).alloc (.cells #[.int .i64 t', .int .i64 b', .int .i64 n', .int .u8 (k' : Int), .int .i64 node', .int .i64 other', .string name', .string value'] 77)) w.heap.size t b n k node other name value := (OpAt.new w t b n k node other name value 77).later ((Below.refl _ _).alloc (Nat.le_refl _) _)
  have Y0 : OpAt ((w.alloc (.cells #[.int .i64 t, .int .i64 b, .int .i64 n, .int .u8 (k : Int), .int .i64 node, .int .i64 other, .string name, .string value] 77)).alloc (.cells #[.int .i64 t', .int .i64 b', .int .i64 n', .int .u8 (k' : Int), .int .i64 node', .int .i64 other', .string name', .string value'] 77)) (w.heap.size + 1) t' b' n' k' node' other' name' value' := by
    have := OpAt.new (w.alloc (.cells #[.int .i64 t, .int .i64 b, .int .i64 n, .int .u8 (k : Int), .int .i64 node, .int .i64 other, .string name, .string value] 77)) t' b' n' k' node' other' name' value' 77
    simpa using this
  have B0 : Below w.heap.size w ((w.alloc (.cells #[.int .i64 t, .int .i64 b, .int .i64 n, .int .u8 (k : Int), .int .i64 node, .int .i64 other, .string name, .string value] 77)).alloc (.cells #[.int .i64 t', .int .i64 b', .int .i64 n', .int .u8 (k' : Int), .int .i64 node', .int .i64 other', .string name', .string value'] 77)) := ((Below.refl _ _).alloc (Nat.le_refl _) _).alloc (by simp) _
  obtain ⟨s1, s2, s3, s4⟩ := hs
  have d1 : decide (60 < (name.size : Int)) = false := by simp; omega
  have d2 : decide (60 < (value.size : Int)) = false := by simp; omega
  have d3 : decide (60 < (name'.size : Int)) = false := by simp; omega
  have d4 : decide (60 < (value'.size : Int)) = false := by simp; omega
  have HA := Lib.hid ha
  have HB := Lib.hid hb0
  have HQ := Lib.hid (same_text t b n k node other name value t' b' n' k' node' other' name' value' ha hb0)
  clear ha hb0
  go_enter Tryd.func10, Tryd.ntmps10
  go_wp2_with fail
  generalize (w.alloc (.cells #[.int .i64 t, .int .i64 b, .int .i64 n, .int .u8 (k : Int), .int .i64 node, .int .i64 other, .string name, .string value] 77)).alloc (.cells #[.int .i64 t', .int .i64 b', .int .i64 n', .int .u8 (k' : Int), .int .i64 node', .int .i64 other', .string name', .string value'] 77) = u at X0 Y0 B0 ⊢
  refine (written_any (ad := ad) _ (hE.later B0).txt).mono ?_
  rintro e w1 ⟨rfl, hb⟩
  have X1 := X0.later hb
  have Y1 := Y0.later hb
  have B1 : Below w.heap.size w w1 := B0.trans (hb.mono B0.size)
  clear hb X0 Y0 B0
  obtain ⟨x0, x1, x2, x3, x4, x5, x6, x7⟩ := id X1
  obtain ⟨y0, y1, y2, y3, y4, y5, y6, y7⟩ := id Y1
  go_wp2_with fail
  refine (optext_ok (ad := ad) t b n k node other name value _ (hE.later B1).txt HA.out).mono ?_
  rintro e w2 ⟨rfl, hb⟩
  have X2 := X1.later hb
  have Y2 := Y1.later hb
  have B2 : Below w.heap.size w w2 := B1.trans (hb.mono B1.size)
  clear hb x0 x1 x2 x3 x4 x5 x6 x7 y0 y1 y2 y3 y4 y5 y6 y7 X1 Y1 B1
  obtain ⟨x0, x1, x2, x3, x4, x5, x6, x7⟩ := id X2
  obtain ⟨y0, y1, y2, y3, y4, y5, y6, y7⟩ := id Y2
  go_wp2_with fail
  refine (optext_ok (ad := ad) t' b' n' k' node' other' name' value' _ (hE.later B2).txt HB.out).mono ?_
  rintro e w3 ⟨rfl, hb⟩
  have X3 := X2.later hb
  have Y3 := Y2.later hb
  have B3 : Below w.heap.size w w3 := B2.trans (hb.mono B2.size)
  clear hb x0 x1 x2 x3 x4 x5 x6 x7 y0 y1 y2 y3 y4 y5 y6 y7 X2 Y2 B2
  obtain ⟨x0, x1, x2, x3, x4, x5, x6, x7⟩ := id X3
  obtain ⟨y0, y1, y2, y3, y4, y5, y6, y7⟩ := id Y3
  have hrb := read_back (ad := ad) (m := m) t b n k node other name value w3 (hE.later B3) HA.out
  generalize opTextL t b n k node other name.data.toList value.data.toList = TA at hrb HQ ⊢
  generalize opTextL t' b' n' k' node' other' name'.data.toList value'.data.toList = TB at HQ ⊢
  have HRB := Lib.hid hrb
  clear hrb
  go_wp2_with fail
  refine HRB.out.mono ?_
  rintro e w4 ⟨rfl, hb⟩
  have X4 := X3.later hb
  have Y4 := Y3.later hb
  have B4 : Below w.heap.size w w4 := B3.trans (hb.mono B3.size)
  clear hb x0 x1 x2 x3 x4 x5 x6 x7 y0 y1 y2 y3 y4 y5 y6 y7 X3 Y3 B3 HRB
  have X5 := fun o => X4.later ((Below.refl _ _).alloc (Nat.le_refl _) o)
  have Y5 := fun o => Y4.later ((Below.refl _ _).alloc (Nat.le_refl _) o)
  have x0 := fun o => (X5 o).c0
  have x1 := fun o => (X5 o).c1
  have x2 := fun o => (X5 o).c2
  have x3 := fun o => (X5 o).c3
  have x4 := fun o => (X5 o).c4
  have x5 := fun o => (X5 o).c5
  have x6 := fun o => (X5 o).c6
  have x7 := fun o => (X5 o).c7
  have y0 := fun o => (Y5 o).c0
  have y1 := fun o => (Y5 o).c1
  have y2 := fun o => (Y5 o).c2
  have y3 := fun o => (Y5 o).c3
  have y4 := fun o => (Y5 o).c4
  have y5 := fun o => (Y5 o).c5
  have y6 := fun o => (Y5 o).c6
  have y7 := fun o => (Y5 o).c7
  have z1 := eqOp t b n k node other name value t b n k node other name value
  rw [eqB_self] at z1
  have z2 := eqOp t b n k node other name value t' b' n' k' node' other' name' value'
  have z3 := HQ.out
  generalize eqB t b n k node other name value t' b' n' k' node' other' name' value' = q at z2 z3
  clear X4 Y4 X5 Y5 HQ
  go_wp2
  go_ret
  exact ⟨rfl, B4.alloc B4.size _⟩
end Go.Proofs.YtidghgfjbhjkpaaDoor
