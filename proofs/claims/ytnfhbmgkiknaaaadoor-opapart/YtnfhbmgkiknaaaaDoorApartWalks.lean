/- The walk of the law OpApart. -/
import Derived.Test.YtnfhbmgkiknaaaaDoorOpEq
namespace Go.Proofs.YtnfhbmgkiknaaaaDoor
open Go.RowKit

set_option maxRecDepth 100000 in
set_option maxHeartbeats 4000000 in
theorem apart_long {ad : Nat → Addr} {m : Int} (t b n : Int) (k : Nat) (node other : Int) (name value : ByteArray) (t' b' n' : Int) (k' : Nat) (node' other' : Int) (name' value' : ByteArray) (w : World) (hE : ApE ad m w) (h : 60 < name.size ∨ 60 < value.size ∨ 60 < name'.size ∨ 60 < value'.size) :
    Calls Tryd.prog 10 #[.agg #[.int .i64 t, .int .i64 b, .int .i64 n, .int .u8 (k : Int), .int .i64 node, .int .i64 other, .string name, .string value], .agg #[.int .i64 t', .int .i64 b', .int .i64 n', .int .u8 (k' : Int), .int .i64 node', .int .i64 other', .string name', .string value']] w fun e w' => e = .returned (.bool true) ∧ Below w.heap.size w w' := by
  have X0 : OpAt ((w.alloc (.cells #[.int .i64 t, .int .i64 b, .int .i64 n, .int .u8 (k : Int), .int .i64 node, .int .i64 other, .string name, .string value] 77)).alloc (.cells #[.int .i64 t', .int .i64 b', .int .i64 n', .int .u8 (k' : Int), .int .i64 node', .int .i64 other', .string name', .string value'] 77)) w.heap.size t b n k node other name value := (OpAt.new w t b n k node other name value 77).later ((Below.refl _ _).alloc (Nat.le_refl _) _)
  have Y0 : OpAt ((w.alloc (.cells #[.int .i64 t, .int .i64 b, .int .i64 n, .int .u8 (k : Int), .int .i64 node, .int .i64 other, .string name, .string value] 77)).alloc (.cells #[.int .i64 t', .int .i64 b', .int .i64 n', .int .u8 (k' : Int), .int .i64 node', .int .i64 other', .string name', .string value'] 77)) (w.heap.size + 1) t' b' n' k' node' other' name' value' := by
    have := OpAt.new (w.alloc (.cells #[.int .i64 t, .int .i64 b, .int .i64 n, .int .u8 (k : Int), .int .i64 node, .int .i64 other, .string name, .string value] 77)) t' b' n' k' node' other' name' value' 77
    simpa using this
  have B0 : Below w.heap.size w ((w.alloc (.cells #[.int .i64 t, .int .i64 b, .int .i64 n, .int .u8 (k : Int), .int .i64 node, .int .i64 other, .string name, .string value] 77)).alloc (.cells #[.int .i64 t', .int .i64 b', .int .i64 n', .int .u8 (k' : Int), .int .i64 node', .int .i64 other', .string name', .string value'] 77)) := ((Below.refl _ _).alloc (Nat.le_refl _) _).alloc (by simp) _
  rcases (by omega : 60 < name.size ∨ (name.size ≤ 60 ∧ 60 < value.size) ∨ (name.size ≤ 60 ∧ value.size ≤ 60 ∧ 60 < name'.size) ∨ (name.size ≤ 60 ∧ value.size ≤ 60 ∧ name'.size ≤ 60 ∧ 60 < value'.size)) with h1 | ⟨h1, h2⟩ | ⟨h1, h2, h3⟩ | ⟨h1, h2, h3, h4⟩
  · have d1 : decide (60 < (name.size : Int)) = true := by simp; omega
    clear h
    go_enter Tryd.func10, Tryd.ntmps10
    go_wp2_with fail
    generalize (w.alloc (.cells #[.int .i64 t, .int .i64 b, .int .i64 n, .int .u8 (k : Int), .int .i64 node, .int .i64 other, .string name, .string value] 77)).alloc (.cells #[.int .i64 t', .int .i64 b', .int .i64 n', .int .u8 (k' : Int), .int .i64 node', .int .i64 other', .string name', .string value'] 77) = u at X0 Y0 B0 ⊢
    refine (written_any (ad := ad) _ (hE.later B0).txt).mono ?_
    rintro e w1 ⟨rfl, hb⟩
    have X1 := X0.later hb
    have Y1 := Y0.later hb
    have B1 : Below w.heap.size w w1 := B0.trans (hb.mono B0.size)
    clear hb X0 Y0 B0
    obtain ⟨x0, x1, x2, x3, x4, x5, x6, x7⟩ := id X1
    obtain ⟨y0, y1, y2, y3, y4, y5, y6, y7⟩ := id Y1
    go_wp2
    go_ret
    exact ⟨rfl, B1⟩
  · have d1 : decide (60 < (name.size : Int)) = false := by simp; omega
    have d2 : decide (60 < (value.size : Int)) = true := by simp; omega
    clear h
    go_enter Tryd.func10, Tryd.ntmps10
    go_wp2_with fail
    generalize (w.alloc (.cells #[.int .i64 t, .int .i64 b, .int .i64 n, .int .u8 (k : Int), .int .i64 node, .int .i64 other, .string name, .string value] 77)).alloc (.cells #[.int .i64 t', .int .i64 b', .int .i64 n', .int .u8 (k' : Int), .int .i64 node', .int .i64 other', .string name', .string value'] 77) = u at X0 Y0 B0 ⊢
    refine (written_any (ad := ad) _ (hE.later B0).txt).mono ?_
    rintro e w1 ⟨rfl, hb⟩
    have X1 := X0.later hb
    have Y1 := Y0.later hb
    have B1 : Below w.heap.size w w1 := B0.trans (hb.mono B0.size)
    clear hb X0 Y0 B0
    obtain ⟨x0, x1, x2, x3, x4, x5, x6, x7⟩ := id X1
    obtain ⟨y0, y1, y2, y3, y4, y5, y6, y7⟩ := id Y1
    go_wp2
    go_ret
    exact ⟨rfl, B1⟩
  · have d1 : decide (60 < (name.size : Int)) = false := by simp; omega
    have d2 : decide (60 < (value.size : Int)) = false := by simp; omega
    have d3 : decide (60 < (name'.size : Int)) = true := by simp; omega
    clear h
    go_enter Tryd.func10, Tryd.ntmps10
    go_wp2_with fail
    generalize (w.alloc (.cells #[.int .i64 t, .int .i64 b, .int .i64 n, .int .u8 (k : Int), .int .i64 node, .int .i64 other, .string name, .string value] 77)).alloc (.cells #[.int .i64 t', .int .i64 b', .int .i64 n', .int .u8 (k' : Int), .int .i64 node', .int .i64 other', .string name', .string value'] 77) = u at X0 Y0 B0 ⊢
    refine (written_any (ad := ad) _ (hE.later B0).txt).mono ?_
    rintro e w1 ⟨rfl, hb⟩
    have X1 := X0.later hb
    have Y1 := Y0.later hb
    have B1 : Below w.heap.size w w1 := B0.trans (hb.mono B0.size)
    clear hb X0 Y0 B0
    obtain ⟨x0, x1, x2, x3, x4, x5, x6, x7⟩ := id X1
    obtain ⟨y0, y1, y2, y3, y4, y5, y6, y7⟩ := id Y1
    go_wp2
    go_ret
    exact ⟨rfl, B1⟩
  · have d1 : decide (60 < (name.size : Int)) = false := by simp; omega
    have d2 : decide (60 < (value.size : Int)) = false := by simp; omega
    have d3 : decide (60 < (name'.size : Int)) = false := by simp; omega
    have d4 : decide (60 < (value'.size : Int)) = true := by simp; omega
    clear h
    go_enter Tryd.func10, Tryd.ntmps10
    go_wp2_with fail
    generalize (w.alloc (.cells #[.int .i64 t, .int .i64 b, .int .i64 n, .int .u8 (k : Int), .int .i64 node, .int .i64 other, .string name, .string value] 77)).alloc (.cells #[.int .i64 t', .int .i64 b', .int .i64 n', .int .u8 (k' : Int), .int .i64 node', .int .i64 other', .string name', .string value'] 77) = u at X0 Y0 B0 ⊢
    refine (written_any (ad := ad) _ (hE.later B0).txt).mono ?_
    rintro e w1 ⟨rfl, hb⟩
    have X1 := X0.later hb
    have Y1 := Y0.later hb
    have B1 : Below w.heap.size w w1 := B0.trans (hb.mono B0.size)
    clear hb X0 Y0 B0
    obtain ⟨x0, x1, x2, x3, x4, x5, x6, x7⟩ := id X1
    obtain ⟨y0, y1, y2, y3, y4, y5, y6, y7⟩ := id Y1
    go_wp2
    go_ret
    exact ⟨rfl, B1⟩

set_option maxRecDepth 100000 in
set_option maxHeartbeats 4000000 in
theorem apart_a_b {ad : Nat → Addr} {m : Int} (t b n : Int) (k : Nat) (node other : Int) (name value : ByteArray) (t' b' n' : Int) (k' : Nat) (node' other' : Int) (name' value' : ByteArray) (w : World) (hE : ApE ad m w) (hs : name.size ≤ 60 ∧ value.size ≤ 60 ∧ name'.size ≤ 60 ∧ value'.size ≤ 60) (ha : opE t b n k node other name.data.toList value.data.toList ≠ 0) (hb0 : opE t' b' n' k' node' other' name'.data.toList value'.data.toList = 0) :
    Calls Tryd.prog 10 #[.agg #[.int .i64 t, .int .i64 b, .int .i64 n, .int .u8 (k : Int), .int .i64 node, .int .i64 other, .string name, .string value], .agg #[.int .i64 t', .int .i64 b', .int .i64 n', .int .u8 (k' : Int), .int .i64 node', .int .i64 other', .string name', .string value']] w fun e w' => e = .returned (.bool true) ∧ Below w.heap.size w w' := by
  have X0 : OpAt ((w.alloc (.cells #[.int .i64 t, .int .i64 b, .int .i64 n, .int .u8 (k : Int), .int .i64 node, .int .i64 other, .string name, .string value] 77)).alloc (.cells #[.int .i64 t', .int .i64 b', .int .i64 n', .int .u8 (k' : Int), .int .i64 node', .int .i64 other', .string name', .string value'] 77)) w.heap.size t b n k node other name value := (OpAt.new w t b n k node other name value 77).later ((Below.refl _ _).alloc (Nat.le_refl _) _)
  have Y0 : OpAt ((w.alloc (.cells #[.int .i64 t, .int .i64 b, .int .i64 n, .int .u8 (k : Int), .int .i64 node, .int .i64 other, .string name, .string value] 77)).alloc (.cells #[.int .i64 t', .int .i64 b', .int .i64 n', .int .u8 (k' : Int), .int .i64 node', .int .i64 other', .string name', .string value'] 77)) (w.heap.size + 1) t' b' n' k' node' other' name' value' := by
    have := OpAt.new (w.alloc (.cells #[.int .i64 t, .int .i64 b, .int .i64 n, .int .u8 (k : Int), .int .i64 node, .int .i64 other, .string name, .string value] 77)) t' b' n' k' node' other' name' value' 77
    simpa using this
  have B0 : Below w.heap.size w ((w.alloc (.cells #[.int .i64 t, .int .i64 b, .int .i64 n, .int .u8 (k : Int), .int .i64 node, .int .i64 other, .string name, .string value] 77)).alloc (.cells #[.int .i64 t', .int .i64 b', .int .i64 n', .int .u8 (k' : Int), .int .i64 node', .int .i64 other', .string name', .string value'] 77)) := ((Below.refl _ _).alloc (Nat.le_refl _) _).alloc (by simp) _
  obtain ⟨s1, s2, s3, s4⟩ := hs
  have d1 : decide (60 < (name.size : Int)) = false := by simp; omega
  have d2 : decide (60 < (value.size : Int)) = false := by simp; omega
  have d3 : decide (60 < (name'.size : Int)) = false := by simp; omega
  have d4 : decide (60 < (value'.size : Int)) = false := by simp; omega
  have HA := Lib.hid ha
  have HB := Lib.hid hb0
  clear ha hb0
  go_enter Tryd.func10, Tryd.ntmps10
  go_wp2_with fail
  generalize (w.alloc (.cells #[.int .i64 t, .int .i64 b, .int .i64 n, .int .u8 (k : Int), .int .i64 node, .int .i64 other, .string name, .string value] 77)).alloc (.cells #[.int .i64 t', .int .i64 b', .int .i64 n', .int .u8 (k' : Int), .int .i64 node', .int .i64 other', .string name', .string value'] 77) = u at X0 Y0 B0 ⊢
  refine (written_any (ad := ad) _ (hE.later B0).txt).mono ?_
  rintro e w1 ⟨rfl, hb⟩
  have X1 := X0.later hb
  have Y1 := Y0.later hb
  have B1 : Below w.heap.size w w1 := B0.trans (hb.mono B0.size)
  clear hb X0 Y0 B0
  obtain ⟨x0, x1, x2, x3, x4, x5, x6, x7⟩ := id X1
  obtain ⟨y0, y1, y2, y3, y4, y5, y6, y7⟩ := id Y1
  go_wp2_with fail
  refine (optext_no (ad := ad) t b n k node other name value _ (hE.later B1).txt (by omega) (by omega) HA.out).mono ?_
  rintro e w2 ⟨rfl, hb⟩
  have X2 := X1.later hb
  have Y2 := Y1.later hb
  have B2 : Below w.heap.size w w2 := B1.trans (hb.mono B1.size)
  clear hb x0 x1 x2 x3 x4 x5 x6 x7 y0 y1 y2 y3 y4 y5 y6 y7 X1 Y1 B1
  obtain ⟨x0, x1, x2, x3, x4, x5, x6, x7⟩ := id X2
  obtain ⟨y0, y1, y2, y3, y4, y5, y6, y7⟩ := id Y2
  go_wp2_with fail
  refine (optext_ok (ad := ad) t' b' n' k' node' other' name' value' _ (hE.later B2).txt HB.out).mono ?_
  rintro e w3 ⟨rfl, hb⟩
  have X3 := X2.later hb
  have Y3 := Y2.later hb
  have B3 : Below w.heap.size w w3 := B2.trans (hb.mono B2.size)
  clear hb x0 x1 x2 x3 x4 x5 x6 x7 y0 y1 y2 y3 y4 y5 y6 y7 X2 Y2 B2
  obtain ⟨x0, x1, x2, x3, x4, x5, x6, x7⟩ := id X3
  obtain ⟨y0, y1, y2, y3, y4, y5, y6, y7⟩ := id Y3
  go_wp2
  go_ret
  exact ⟨rfl, B3⟩

set_option maxRecDepth 100000 in
set_option maxHeartbeats 4000000 in
theorem apart_a_nb {ad : Nat → Addr} {m : Int} (t b n : Int) (k : Nat) (node other : Int) (name value : ByteArray) (t' b' n' : Int) (k' : Nat) (node' other' : Int) (name' value' : ByteArray) (w : World) (hE : ApE ad m w) (hs : name.size ≤ 60 ∧ value.size ≤ 60 ∧ name'.size ≤ 60 ∧ value'.size ≤ 60) (ha : opE t b n k node other name.data.toList value.data.toList ≠ 0) (hb0 : opE t' b' n' k' node' other' name'.data.toList value'.data.toList ≠ 0) :
    Calls Tryd.prog 10 #[.agg #[.int .i64 t, .int .i64 b, .int .i64 n, .int .u8 (k : Int), .int .i64 node, .int .i64 other, .string name, .string value], .agg #[.int .i64 t', .int .i64 b', .int .i64 n', .int .u8 (k' : Int), .int .i64 node', .int .i64 other', .string name', .string value']] w fun e w' => e = .returned (.bool true) ∧ Below w.heap.size w w' := by
  have X0 : OpAt ((w.alloc (.cells #[.int .i64 t, .int .i64 b, .int .i64 n, .int .u8 (k : Int), .int .i64 node, .int .i64 other, .string name, .string value] 77)).alloc (.cells #[.int .i64 t', .int .i64 b', .int .i64 n', .int .u8 (k' : Int), .int .i64 node', .int .i64 other', .string name', .string value'] 77)) w.heap.size t b n k node other name value := (OpAt.new w t b n k node other name value 77).later ((Below.refl _ _).alloc (Nat.le_refl _) _)
  have Y0 : OpAt ((w.alloc (.cells #[.int .i64 t, .int .i64 b, .int .i64 n, .int .u8 (k : Int), .int .i64 node, .int .i64 other, .string name, .string value] 77)).alloc (.cells #[.int .i64 t', .int .i64 b', .int .i64 n', .int .u8 (k' : Int), .int .i64 node', .int .i64 other', .string name', .string value'] 77)) (w.heap.size + 1) t' b' n' k' node' other' name' value' := by
    have := OpAt.new (w.alloc (.cells #[.int .i64 t, .int .i64 b, .int .i64 n, .int .u8 (k : Int), .int .i64 node, .int .i64 other, .string name, .string value] 77)) t' b' n' k' node' other' name' value' 77
    simpa using this
  have B0 : Below w.heap.size w ((w.alloc (.cells #[.int .i64 t, .int .i64 b, .int .i64 n, .int .u8 (k : Int), .int .i64 node, .int .i64 other, .string name, .string value] 77)).alloc (.cells #[.int .i64 t', .int .i64 b', .int .i64 n', .int .u8 (k' : Int), .int .i64 node', .int .i64 other', .string name', .string value'] 77)) := ((Below.refl _ _).alloc (Nat.le_refl _) _).alloc (by simp) _
  obtain ⟨s1, s2, s3, s4⟩ := hs
  have d1 : decide (60 < (name.size : Int)) = false := by simp; omega
  have d2 : decide (60 < (value.size : Int)) = false := by simp; omega
  have d3 : decide (60 < (name'.size : Int)) = false := by simp; omega
  have d4 : decide (60 < (value'.size : Int)) = false := by simp; omega
  have HA := Lib.hid ha
  have HB := Lib.hid hb0
  clear ha hb0
  go_enter Tryd.func10, Tryd.ntmps10
  go_wp2_with fail
  generalize (w.alloc (.cells #[.int .i64 t, .int .i64 b, .int .i64 n, .int .u8 (k : Int), .int .i64 node, .int .i64 other, .string name, .string value] 77)).alloc (.cells #[.int .i64 t', .int .i64 b', .int .i64 n', .int .u8 (k' : Int), .int .i64 node', .int .i64 other', .string name', .string value'] 77) = u at X0 Y0 B0 ⊢
  refine (written_any (ad := ad) _ (hE.later B0).txt).mono ?_
  rintro e w1 ⟨rfl, hb⟩
  have X1 := X0.later hb
  have Y1 := Y0.later hb
  have B1 : Below w.heap.size w w1 := B0.trans (hb.mono B0.size)
  clear hb X0 Y0 B0
  obtain ⟨x0, x1, x2, x3, x4, x5, x6, x7⟩ := id X1
  obtain ⟨y0, y1, y2, y3, y4, y5, y6, y7⟩ := id Y1
  go_wp2_with fail
  refine (optext_no (ad := ad) t b n k node other name value _ (hE.later B1).txt (by omega) (by omega) HA.out).mono ?_
  rintro e w2 ⟨rfl, hb⟩
  have X2 := X1.later hb
  have Y2 := Y1.later hb
  have B2 : Below w.heap.size w w2 := B1.trans (hb.mono B1.size)
  clear hb x0 x1 x2 x3 x4 x5 x6 x7 y0 y1 y2 y3 y4 y5 y6 y7 X1 Y1 B1
  obtain ⟨x0, x1, x2, x3, x4, x5, x6, x7⟩ := id X2
  obtain ⟨y0, y1, y2, y3, y4, y5, y6, y7⟩ := id Y2
  go_wp2_with fail
  refine (optext_no (ad := ad) t' b' n' k' node' other' name' value' _ (hE.later B2).txt (by omega) (by omega) HB.out).mono ?_
  rintro e w3 ⟨rfl, hb⟩
  have X3 := X2.later hb
  have Y3 := Y2.later hb
  have B3 : Below w.heap.size w w3 := B2.trans (hb.mono B2.size)
  clear hb x0 x1 x2 x3 x4 x5 x6 x7 y0 y1 y2 y3 y4 y5 y6 y7 X2 Y2 B2
  obtain ⟨x0, x1, x2, x3, x4, x5, x6, x7⟩ := id X3
  obtain ⟨y0, y1, y2, y3, y4, y5, y6, y7⟩ := id Y3
  go_wp2
  go_ret
  exact ⟨rfl, B3⟩

set_option maxRecDepth 100000 in
set_option maxHeartbeats 4000000 in
theorem apart_nb {ad : Nat → Addr} {m : Int} (t b n : Int) (k : Nat) (node other : Int) (name value : ByteArray) (t' b' n' : Int) (k' : Nat) (node' other' : Int) (name' value' : ByteArray) (w : World) (hE : ApE ad m w) (hs : name.size ≤ 60 ∧ value.size ≤ 60 ∧ name'.size ≤ 60 ∧ value'.size ≤ 60) (ha : opE t b n k node other name.data.toList value.data.toList = 0) (hb0 : opE t' b' n' k' node' other' name'.data.toList value'.data.toList ≠ 0) :
    Calls Tryd.prog 10 #[.agg #[.int .i64 t, .int .i64 b, .int .i64 n, .int .u8 (k : Int), .int .i64 node, .int .i64 other, .string name, .string value], .agg #[.int .i64 t', .int .i64 b', .int .i64 n', .int .u8 (k' : Int), .int .i64 node', .int .i64 other', .string name', .string value']] w fun e w' => e = .returned (.bool true) ∧ Below w.heap.size w w' := by
  have X0 : OpAt ((w.alloc (.cells #[.int .i64 t, .int .i64 b, .int .i64 n, .int .u8 (k : Int), .int .i64 node, .int .i64 other, .string name, .string value] 77)).alloc (.cells #[.int .i64 t', .int .i64 b', .int .i64 n', .int .u8 (k' : Int), .int .i64 node', .int .i64 other', .string name', .string value'] 77)) w.heap.size t b n k node other name value := (OpAt.new w t b n k node other name value 77).later ((Below.refl _ _).alloc (Nat.le_refl _) _)
  have Y0 : OpAt ((w.alloc (.cells #[.int .i64 t, .int .i64 b, .int .i64 n, .int .u8 (k : Int), .int .i64 node, .int .i64 other, .string name, .string value] 77)).alloc (.cells #[.int .i64 t', .int .i64 b', .int .i64 n', .int .u8 (k' : Int), .int .i64 node', .int .i64 other', .string name', .string value'] 77)) (w.heap.size + 1) t' b' n' k' node' other' name' value' := by
    have := OpAt.new (w.alloc (.cells #[.int .i64 t, .int .i64 b, .int .i64 n, .int .u8 (k : Int), .int .i64 node, .int .i64 other, .string name, .string value] 77)) t' b' n' k' node' other' name' value' 77
    simpa using this
  have B0 : Below w.heap.size w ((w.alloc (.cells #[.int .i64 t, .int .i64 b, .int .i64 n, .int .u8 (k : Int), .int .i64 node, .int .i64 other, .string name, .string value] 77)).alloc (.cells #[.int .i64 t', .int .i64 b', .int .i64 n', .int .u8 (k' : Int), .int .i64 node', .int .i64 other', .string name', .string value'] 77)) := ((Below.refl _ _).alloc (Nat.le_refl _) _).alloc (by simp) _
  obtain ⟨s1, s2, s3, s4⟩ := hs
  have d1 : decide (60 < (name.size : Int)) = false := by simp; omega
  have d2 : decide (60 < (value.size : Int)) = false := by simp; omega
  have d3 : decide (60 < (name'.size : Int)) = false := by simp; omega
  have d4 : decide (60 < (value'.size : Int)) = false := by simp; omega
  have HA := Lib.hid ha
  have HB := Lib.hid hb0
  clear ha hb0
  go_enter Tryd.func10, Tryd.ntmps10
  go_wp2_with fail
  generalize (w.alloc (.cells #[.int .i64 t, .int .i64 b, .int .i64 n, .int .u8 (k : Int), .int .i64 node, .int .i64 other, .string name, .string value] 77)).alloc (.cells #[.int .i64 t', .int .i64 b', .int .i64 n', .int .u8 (k' : Int), .int .i64 node', .int .i64 other', .string name', .string value'] 77) = u at X0 Y0 B0 ⊢
  refine (written_any (ad := ad) _ (hE.later B0).txt).mono ?_
  rintro e w1 ⟨rfl, hb⟩
  have X1 := X0.later hb
  have Y1 := Y0.later hb
  have B1 : Below w.heap.size w w1 := B0.trans (hb.mono B0.size)
  clear hb X0 Y0 B0
  obtain ⟨x0, x1, x2, x3, x4, x5, x6, x7⟩ := id X1
  obtain ⟨y0, y1, y2, y3, y4, y5, y6, y7⟩ := id Y1
  go_wp2_with fail
  refine (optext_ok (ad := ad) t b n k node other name value _ (hE.later B1).txt HA.out).mono ?_
  rintro e w2 ⟨rfl, hb⟩
  have X2 := X1.later hb
  have Y2 := Y1.later hb
  have B2 : Below w.heap.size w w2 := B1.trans (hb.mono B1.size)
  clear hb x0 x1 x2 x3 x4 x5 x6 x7 y0 y1 y2 y3 y4 y5 y6 y7 X1 Y1 B1
  obtain ⟨x0, x1, x2, x3, x4, x5, x6, x7⟩ := id X2
  obtain ⟨y0, y1, y2, y3, y4, y5, y6, y7⟩ := id Y2
  go_wp2_with fail
  refine (optext_no (ad := ad) t' b' n' k' node' other' name' value' _ (hE.later B2).txt (by omega) (by omega) HB.out).mono ?_
  rintro e w3 ⟨rfl, hb⟩
  have X3 := X2.later hb
  have Y3 := Y2.later hb
  have B3 : Below w.heap.size w w3 := B2.trans (hb.mono B2.size)
  clear hb x0 x1 x2 x3 x4 x5 x6 x7 y0 y1 y2 y3 y4 y5 y6 y7 X2 Y2 B2
  obtain ⟨x0, x1, x2, x3, x4, x5, x6, x7⟩ := id X3
  obtain ⟨y0, y1, y2, y3, y4, y5, y6, y7⟩ := id Y3
  go_wp2
  go_ret
  exact ⟨rfl, B3⟩

set_option maxRecDepth 100000 in
set_option maxHeartbeats 4000000 in
theorem apart_ok {ad : Nat → Addr} {m : Int} (t b n : Int) (k : Nat) (node other : Int) (name value : ByteArray) (t' b' n' : Int) (k' : Nat) (node' other' : Int) (name' value' : ByteArray) (w : World) (hE : ApE ad m w) (hs : name.size ≤ 60 ∧ value.size ≤ 60 ∧ name'.size ≤ 60 ∧ value'.size ≤ 60) (ha : opE t b n k node other name.data.toList value.data.toList = 0) (hb0 : opE t' b' n' k' node' other' name'.data.toList value'.data.toList = 0) :
    Calls Tryd.prog 10 #[.agg #[.int .i64 t, .int .i64 b, .int .i64 n, .int .u8 (k : Int), .int .i64 node, .int .i64 other, .string name, .string value], .agg #[.int .i64 t', .int .i64 b', .int .i64 n', .int .u8 (k' : Int), .int .i64 node', .int .i64 other', .string name', .string value']] w fun e w' => e = .returned (.bool true) ∧ Below w.heap.size w w' := by
  have X0 : OpAt ((w.alloc (.cells #[.int .i64 t, .int .i64 b, .int .i64 n, .int .u8 (k : Int), .int .i64 node, .int .i64 other, .string name, .string value] 77)).alloc (.cells #[.int .i64 t', .int .i64 b', .int .i64 n', .int .u8 (k' : Int), .int .i64 node', .int .i64 other', .string name', .string value'] 77)) w.heap.size t b n k node other name value := (OpAt.new w t b n k node other name value 77).later ((Below.refl _ _).alloc (Nat.le_refl _) _)
  have Y0 : OpAt ((w.alloc (.cells #[.int .i64 t, .int .i64 b, .int .i64 n, .int .u8 (k : Int), .int .i64 node, .int .i64 other, .string name, .string value] 77)).alloc (.cells #[.int .i64 t', .int .i64 b', .int .i64 n', .int .u8 (k' : Int), .int .i64 node', .int .i64 other', .string name', .string value'] 77)) (w.heap.size + 1) t' b' n' k' node' other' name' value' := by
    have := OpAt.new (w.alloc (.cells #[.int .i64 t, .int .i64 b, .int .i64 n, .int .u8 (k : Int), .int .i64 node, .int .i64 other, .string name, .string value] 77)) t' b' n' k' node' other' name' value' 77
    simpa using this
  have B0 : Below w.heap.size w ((w.alloc (.cells #[.int .i64 t, .int .i64 b, .int .i64 n, .int .u8 (k : Int), .int .i64 node, .int .i64 other, .string name, .string value] 77)).alloc (.cells #[.int .i64 t', .int .i64 b', .int .i64 n', .int .u8 (k' : Int), .int .i64 node', .int .i64 other', .string name', .string value'] 77)) := ((Below.refl _ _).alloc (Nat.le_refl _) _).alloc (by simp) _
  obtain ⟨s1, s2, s3, s4⟩ := hs
  have d1 : decide (60 < (name.size : Int)) = false := by simp; omega
  have d2 : decide (60 < (value.size : Int)) = false := by simp; omega
  have d3 : decide (60 < (name'.size : Int)) = false := by simp; omega
  have d4 : decide (60 < (value'.size : Int)) = false := by simp; omega
  have HA := Lib.hid ha
  have HB := Lib.hid hb0
  have HQ := Lib.hid (same_text t b n k node other name value t' b' n' k' node' other' name' value' ha hb0)
  clear ha hb0
  go_enter Tryd.func10, Tryd.ntmps10
  go_wp2_with fail
  generalize (w.alloc (.cells #[.int .i64 t, .int .i64 b, .int .i64 n, .int .u8 (k : Int), .int .i64 node, .int .i64 other, .string name, .string value] 77)).alloc (.cells #[.int .i64 t', .int .i64 b', .int .i64 n', .int .u8 (k' : Int), .int .i64 node', .int .i64 other', .string name', .string value'] 77) = u at X0 Y0 B0 ⊢
  refine (written_any (ad := ad) _ (hE.later B0).txt).mono ?_
  rintro e w1 ⟨rfl, hb⟩
  have X1 := X0.later hb
  have Y1 := Y0.later hb
  have B1 : Below w.heap.size w w1 := B0.trans (hb.mono B0.size)
  clear hb X0 Y0 B0
  obtain ⟨x0, x1, x2, x3, x4, x5, x6, x7⟩ := id X1
  obtain ⟨y0, y1, y2, y3, y4, y5, y6, y7⟩ := id Y1
  go_wp2_with fail
  refine (optext_ok (ad := ad) t b n k node other name value _ (hE.later B1).txt HA.out).mono ?_
  rintro e w2 ⟨rfl, hb⟩
  have X2 := X1.later hb
  have Y2 := Y1.later hb
  have B2 : Below w.heap.size w w2 := B1.trans (hb.mono B1.size)
  clear hb x0 x1 x2 x3 x4 x5 x6 x7 y0 y1 y2 y3 y4 y5 y6 y7 X1 Y1 B1
  obtain ⟨x0, x1, x2, x3, x4, x5, x6, x7⟩ := id X2
  obtain ⟨y0, y1, y2, y3, y4, y5, y6, y7⟩ := id Y2
  go_wp2_with fail
  refine (optext_ok (ad := ad) t' b' n' k' node' other' name' value' _ (hE.later B2).txt HB.out).mono ?_
  rintro e w3 ⟨rfl, hb⟩
  have X3 := X2.later hb
  have Y3 := Y2.later hb
  have B3 : Below w.heap.size w w3 := B2.trans (hb.mono B2.size)
  clear hb x0 x1 x2 x3 x4 x5 x6 x7 y0 y1 y2 y3 y4 y5 y6 y7 X2 Y2 B2
  obtain ⟨x0, x1, x2, x3, x4, x5, x6, x7⟩ := id X3
  obtain ⟨y0, y1, y2, y3, y4, y5, y6, y7⟩ := id Y3
  have hrb := read_back (ad := ad) (m := m) t b n k node other name value w3 (hE.later B3) HA.out
  generalize opTextL t b n k node other name.data.toList value.data.toList = TA at hrb HQ ⊢
  generalize opTextL t' b' n' k' node' other' name'.data.toList value'.data.toList = TB at HQ ⊢
  have HRB := Lib.hid hrb
  clear hrb
  go_wp2_with fail
  refine HRB.out.mono ?_
  rintro e w4 ⟨rfl, hb⟩
  have X4 := X3.later hb
  have Y4 := Y3.later hb
  have B4 : Below w.heap.size w w4 := B3.trans (hb.mono B3.size)
  clear hb x0 x1 x2 x3 x4 x5 x6 x7 y0 y1 y2 y3 y4 y5 y6 y7 X3 Y3 B3 HRB
  have X5 := fun o => X4.later ((Below.refl _ _).alloc (Nat.le_refl _) o)
  have Y5 := fun o => Y4.later ((Below.refl _ _).alloc (Nat.le_refl _) o)
  have x0 := fun o => (X5 o).c0
  have x1 := fun o => (X5 o).c1
  have x2 := fun o => (X5 o).c2
  have x3 := fun o => (X5 o).c3
  have x4 := fun o => (X5 o).c4
  have x5 := fun o => (X5 o).c5
  have x6 := fun o => (X5 o).c6
  have x7 := fun o => (X5 o).c7
  have y0 := fun o => (Y5 o).c0
  have y1 := fun o => (Y5 o).c1
  have y2 := fun o => (Y5 o).c2
  have y3 := fun o => (Y5 o).c3
  have y4 := fun o => (Y5 o).c4
  have y5 := fun o => (Y5 o).c5
  have y6 := fun o => (Y5 o).c6
  have y7 := fun o => (Y5 o).c7
  have z1 := eqOp t b n k node other name value t b n k node other name value
  rw [eqB_self] at z1
  have z2 := eqOp t b n k node other name value t' b' n' k' node' other' name' value'
  have z3 := HQ.out
  generalize eqB t b n k node other name value t' b' n' k' node' other' name' value' = q at z2 z3
  clear X4 Y4 X5 Y5 HQ
  go_wp2
  go_ret
  exact ⟨rfl, B4.alloc B4.size _⟩
end Go.Proofs.YtnfhbmgkiknaaaaDoor
