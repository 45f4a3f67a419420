/- Contract of the reference's OpError, over the translation. -/
import Derived.Test.YtnfhbmgkiknaaaaDoorRefName
import Derived.Test.YtnfhbmgkiknaaaaDoorRefID
import Derived.Test.YtnfhbmgkiknaaaaDoorOpCheck
namespace Go.Proofs.YtnfhbmgkiknaaaaDoor
open Go.RowKit

theorem rname_is (s : ByteArray) (b : Bool) (w : World) (hs : s.size ≤ 1000000) (h : nameOk s.data.toList = b) :
    Calls Tryd.prog 79 #[.string s] w fun e w' => e = .returned (.bool b) ∧ w' = w := by rw [← h]; exact rname_any s w hs
theorem rseen_is (s : ByteArray) (b : Bool) (w : World) (hs : s.size ≤ 1000000) (h : seenOk s.data.toList = b) :
    Calls Tryd.prog 80 #[.string s] w fun e w' => e = .returned (.bool b) ∧ w' = w := by rw [← h]; exact rseen_any s w hs

set_option maxRecDepth 100000 in
set_option maxHeartbeats 4000000 in
theorem rop_stamp (t b n : Int) (k : Nat) (node other : Int) (name value : ByteArray) (w : World) (_hsn : name.size ≤ 1000000) (_hsv : value.size ≤ 1000000) (hst : ¬ (1 ≤ t ∧ t ≤ 1073741824 ∧ 0 ≤ b ∧ b < 4)) :
    Calls Tryd.prog 52 #[.agg #[.int .i64 t, .int .i64 b, .int .i64 n, .int .u8 (k : Int), .int .i64 node, .int .i64 other, .string name, .string value]] w fun e w' => e = .returned (.int .i64 ((opE t b n k node other name.data.toList value.data.toList : Nat) : Int)) ∧ Below w.heap.size w w' := by
  have O0 := OpAt.new w t b n k node other name value 77
  have B0 : Below w.heap.size w (w.alloc (.cells #[.int .i64 t, .int .i64 b, .int .i64 n, .int .u8 (k : Int), .int .i64 node, .int .i64 other, .string name, .string value] 77)) := (Below.refl _ _).alloc (Nat.le_refl _) _
  have hln := listLen name
  have hlv := listLen value
  have HS := Lib.hid hst
  have hcode : opE t b n k node other name.data.toList value.data.toList = 2 := by unfold opE; rw [if_neg (by omega)]
  rw [hcode]
  clear hst
  clear hcode hln hlv
  go_enter Tryd.func52, Tryd.ntmps52
  go_wp2_with fail
  generalize w.alloc (.cells #[.int .i64 t, .int .i64 b, .int .i64 n, .int .u8 (k : Int), .int .i64 node, .int .i64 other, .string name, .string value] 77) = u at O0 B0 ⊢
  refine (stampError_no _ _ _ HS.out).mono ?_
  rintro e w1 ⟨rfl, hb⟩
  have O1 := O0.later hb
  have B1 : Below w.heap.size w w1 := B0.trans (hb.mono B0.size)
  clear hb O0 B0
  obtain ⟨x0, x1, x2, x3, x4, x5, x6, x7⟩ := id O1
  go_wp2
  go_ret
  exact ⟨rfl, B1⟩
set_option maxRecDepth 100000 in
set_option maxHeartbeats 4000000 in
theorem rop_n (t b n : Int) (k : Nat) (node other : Int) (name value : ByteArray) (w : World) (_hsn : name.size ≤ 1000000) (_hsv : value.size ≤ 1000000) (hst : 1 ≤ t ∧ t ≤ 1073741824 ∧ 0 ≤ b ∧ b < 4) (hn : n < 1 ∨ 400 < n) :
    Calls Tryd.prog 52 #[.agg #[.int .i64 t, .int .i64 b, .int .i64 n, .int .u8 (k : Int), .int .i64 node, .int .i64 other, .string name, .string value]] w fun e w' => e = .returned (.int .i64 ((opE t b n k node other name.data.toList value.data.toList : Nat) : Int)) ∧ Below w.heap.size w w' := by
  have O0 := OpAt.new w t b n k node other name value 77
  have B0 : Below w.heap.size w (w.alloc (.cells #[.int .i64 t, .int .i64 b, .int .i64 n, .int .u8 (k : Int), .int .i64 node, .int .i64 other, .string name, .string value] 77)) := (Below.refl _ _).alloc (Nat.le_refl _) _
  have hln := listLen name
  have hlv := listLen value
  obtain ⟨s1, s2, s3, s4⟩ := hst
  rcases hn with h | h
  · have d1 : decide (n < 1) = true := by simp; omega
    have hcode : opE t b n k node other name.data.toList value.data.toList = 2 := by unfold opE; rw [if_neg (by omega)]
    rw [hcode]
    clear hcode hln hlv
    go_enter Tryd.func52, Tryd.ntmps52
    go_wp2_with fail
    generalize w.alloc (.cells #[.int .i64 t, .int .i64 b, .int .i64 n, .int .u8 (k : Int), .int .i64 node, .int .i64 other, .string name, .string value] 77) = u at O0 B0 ⊢
    refine (stampError_ok _ _ _ s1 s2 s3 s4).mono ?_
    rintro e w1 ⟨rfl, hb⟩
    have O1 := O0.later hb
    have B1 : Below w.heap.size w w1 := B0.trans (hb.mono B0.size)
    clear hb O0 B0
    obtain ⟨x0, x1, x2, x3, x4, x5, x6, x7⟩ := id O1
    go_wp2
    go_ret
    exact ⟨rfl, B1⟩
  · have d1 : decide (n < 1) = false := by simp; omega
    have d2 : decide (400 < n) = true := by simp; omega
    have hcode : opE t b n k node other name.data.toList value.data.toList = 2 := by unfold opE; rw [if_neg (by omega)]
    rw [hcode]
    clear hcode hln hlv
    go_enter Tryd.func52, Tryd.ntmps52
    go_wp2_with fail
    generalize w.alloc (.cells #[.int .i64 t, .int .i64 b, .int .i64 n, .int .u8 (k : Int), .int .i64 node, .int .i64 other, .string name, .string value] 77) = u at O0 B0 ⊢
    refine (stampError_ok _ _ _ s1 s2 s3 s4).mono ?_
    rintro e w1 ⟨rfl, hb⟩
    have O1 := O0.later hb
    have B1 : Below w.heap.size w w1 := B0.trans (hb.mono B0.size)
    clear hb O0 B0
    obtain ⟨x0, x1, x2, x3, x4, x5, x6, x7⟩ := id O1
    go_wp2
    go_ret
    exact ⟨rfl, B1⟩
set_option maxRecDepth 100000 in
set_option maxHeartbeats 4000000 in
theorem rop_m (t b n : Int) (k : Nat) (node other : Int) (name value : ByteArray) (w : World) (hsn : name.size ≤ 1000000) (_hsv : value.size ≤ 1000000) (hst : 1 ≤ t ∧ t ≤ 1073741824 ∧ 0 ≤ b ∧ b < 4) (hn : 1 ≤ n ∧ n ≤ 400) (hk : k = 109) :
    Calls Tryd.prog 52 #[.agg #[.int .i64 t, .int .i64 b, .int .i64 n, .int .u8 (k : Int), .int .i64 node, .int .i64 other, .string name, .string value]] w fun e w' => e = .returned (.int .i64 ((opE t b n k node other name.data.toList value.data.toList : Nat) : Int)) ∧ Below w.heap.size w w' := by
  have O0 := OpAt.new w t b n k node other name value 77
  have B0 : Below w.heap.size w (w.alloc (.cells #[.int .i64 t, .int .i64 b, .int .i64 n, .int .u8 (k : Int), .int .i64 node, .int .i64 other, .string name, .string value] 77)) := (Below.refl _ _).alloc (Nat.le_refl _) _
  have hln := listLen name
  have hlv := listLen value
  obtain ⟨s1, s2, s3, s4⟩ := hst
  have d1 : decide (n < 1) = false := by simp; omega
  have d2 : decide (400 < n) = false := by simp; omega
  have hop : opE t b n k node other name.data.toList value.data.toList = moveE (t * 4 + b) node other name.data.toList value.data.toList := by
    unfold opE kindE
    rw [if_pos (by omega)]
    rw [if_pos hk]
  rw [hop]
  clear hop
  have r109 : ((k : Int) == 109) = true := by simp; omega
  clear hk
  by_cases hsh : node < 2 ∨ t * 4 + b < node ∨ other < 0 ∨ t * 4 + b ≤ other
  · have hc : (node < 2) ∨ (¬ (node < 2) ∧ t * 4 + b < node) ∨ (¬ (node < 2) ∧ ¬ (t * 4 + b < node) ∧ other < 0) ∨ (¬ (node < 2) ∧ ¬ (t * 4 + b < node) ∧ ¬ (other < 0) ∧ t * 4 + b ≤ other) := by omega
    rcases hc with h | h | h | h
    · have hx := h
      have hcode : moveE (t * 4 + b) node other name.data.toList value.data.toList = 3 := by unfold moveE; rw [if_pos hsh]
      rw [hcode]
      have q0 : decide (node < 2) = true := by simp; omega
      clear hsh h hx
      clear hcode hln hlv
      go_enter Tryd.func52, Tryd.ntmps52
      go_wp2_with fail
      generalize w.alloc (.cells #[.int .i64 t, .int .i64 b, .int .i64 n, .int .u8 (k : Int), .int .i64 node, .int .i64 other, .string name, .string value] 77) = u at O0 B0 ⊢
      refine (stampError_ok _ _ _ s1 s2 s3 s4).mono ?_
      rintro e w1 ⟨rfl, hb⟩
      have O1 := O0.later hb
      have B1 : Below w.heap.size w w1 := B0.trans (hb.mono B0.size)
      clear hb O0 B0
      obtain ⟨x0, x1, x2, x3, x4, x5, x6, x7⟩ := id O1
      go_wp2_with fail
      refine (idOf_ok _ _ _ s1 s2 s3 s4).mono ?_
      rintro e w2 ⟨rfl, hb⟩
      have O2 := O1.later hb
      have B2 : Below w.heap.size w w2 := B1.trans (hb.mono B1.size)
      clear hb O1 B1 x0 x1 x2 x3 x4 x5 x6 x7
      obtain ⟨x0, x1, x2, x3, x4, x5, x6, x7⟩ := O2
      go_wp2_with (first
    | (go_at_call 79; refine (rname_is _ _ _ (by assumption) (by assumption)).mono ?_; rintro e w' ⟨rfl, rfl⟩)
    | (go_at_call 80; refine (rseen_is _ _ _ (by assumption) (by assumption)).mono ?_; rintro e w' ⟨rfl, rfl⟩))
      go_ret
      exact ⟨rfl, B2⟩
    · have hx := h
      have hcode : moveE (t * 4 + b) node other name.data.toList value.data.toList = 3 := by unfold moveE; rw [if_pos hsh]
      rw [hcode]
      have q0 : decide (node < 2) = false := by simp; omega
      have q1 : decide ((4 * t + b) < node) = true := by simp; omega
      clear hsh h hx
      clear hcode hln hlv
      go_enter Tryd.func52, Tryd.ntmps52
      go_wp2_with fail
      generalize w.alloc (.cells #[.int .i64 t, .int .i64 b, .int .i64 n, .int .u8 (k : Int), .int .i64 node, .int .i64 other, .string name, .string value] 77) = u at O0 B0 ⊢
      refine (stampError_ok _ _ _ s1 s2 s3 s4).mono ?_
      rintro e w1 ⟨rfl, hb⟩
      have O1 := O0.later hb
      have B1 : Below w.heap.size w w1 := B0.trans (hb.mono B0.size)
      clear hb O0 B0
      obtain ⟨x0, x1, x2, x3, x4, x5, x6, x7⟩ := id O1
      go_wp2_with fail
      refine (idOf_ok _ _ _ s1 s2 s3 s4).mono ?_
      rintro e w2 ⟨rfl, hb⟩
      have O2 := O1.later hb
      have B2 : Below w.heap.size w w2 := B1.trans (hb.mono B1.size)
      clear hb O1 B1 x0 x1 x2 x3 x4 x5 x6 x7
      obtain ⟨x0, x1, x2, x3, x4, x5, x6, x7⟩ := O2
      go_wp2_with (first
    | (go_at_call 79; refine (rname_is _ _ _ (by assumption) (by assumption)).mono ?_; rintro e w' ⟨rfl, rfl⟩)
    | (go_at_call 80; refine (rseen_is _ _ _ (by assumption) (by assumption)).mono ?_; rintro e w' ⟨rfl, rfl⟩))
      go_ret
      exact ⟨rfl, B2⟩
    · have hx := h
      have hcode : moveE (t * 4 + b) node other name.data.toList value.data.toList = 3 := by unfold moveE; rw [if_pos hsh]
      rw [hcode]
      have q0 : decide (node < 2) = false := by simp; omega
      have q1 : decide ((4 * t + b) < node) = false := by simp; omega
      have q2 : decide (other < 0) = true := by simp; omega
      clear hsh h hx
      clear hcode hln hlv
      go_enter Tryd.func52, Tryd.ntmps52
      go_wp2_with fail
      generalize w.alloc (.cells #[.int .i64 t, .int .i64 b, .int .i64 n, .int .u8 (k : Int), .int .i64 node, .int .i64 other, .string name, .string value] 77) = u at O0 B0 ⊢
      refine (stampError_ok _ _ _ s1 s2 s3 s4).mono ?_
      rintro e w1 ⟨rfl, hb⟩
      have O1 := O0.later hb
      have B1 : Below w.heap.size w w1 := B0.trans (hb.mono B0.size)
      clear hb O0 B0
      obtain ⟨x0, x1, x2, x3, x4, x5, x6, x7⟩ := id O1
      go_wp2_with fail
      refine (idOf_ok _ _ _ s1 s2 s3 s4).mono ?_
      rintro e w2 ⟨rfl, hb⟩
      have O2 := O1.later hb
      have B2 : Below w.heap.size w w2 := B1.trans (hb.mono B1.size)
      clear hb O1 B1 x0 x1 x2 x3 x4 x5 x6 x7
      obtain ⟨x0, x1, x2, x3, x4, x5, x6, x7⟩ := O2
      go_wp2_with (first
    | (go_at_call 79; refine (rname_is _ _ _ (by assumption) (by assumption)).mono ?_; rintro e w' ⟨rfl, rfl⟩)
    | (go_at_call 80; refine (rseen_is _ _ _ (by assumption) (by assumption)).mono ?_; rintro e w' ⟨rfl, rfl⟩))
      go_ret
      exact ⟨rfl, B2⟩
    · have hx := h
      have hcode : moveE (t * 4 + b) node other name.data.toList value.data.toList = 3 := by unfold moveE; rw [if_pos hsh]
      rw [hcode]
      have q0 : decide (node < 2) = false := by simp; omega
      have q1 : decide ((4 * t + b) < node) = false := by simp; omega
      have q2 : decide (other < 0) = false := by simp; omega
      have q3 : decide ((4 * t + b) ≤ other) = true := by simp; omega
      clear hsh h hx
      clear hcode hln hlv
      go_enter Tryd.func52, Tryd.ntmps52
      go_wp2_with fail
      generalize w.alloc (.cells #[.int .i64 t, .int .i64 b, .int .i64 n, .int .u8 (k : Int), .int .i64 node, .int .i64 other, .string name, .string value] 77) = u at O0 B0 ⊢
      refine (stampError_ok _ _ _ s1 s2 s3 s4).mono ?_
      rintro e w1 ⟨rfl, hb⟩
      have O1 := O0.later hb
      have B1 : Below w.heap.size w w1 := B0.trans (hb.mono B0.size)
      clear hb O0 B0
      obtain ⟨x0, x1, x2, x3, x4, x5, x6, x7⟩ := id O1
      go_wp2_with fail
      refine (idOf_ok _ _ _ s1 s2 s3 s4).mono ?_
      rintro e w2 ⟨rfl, hb⟩
      have O2 := O1.later hb
      have B2 : Below w.heap.size w w2 := B1.trans (hb.mono B1.size)
      clear hb O1 B1 x0 x1 x2 x3 x4 x5 x6 x7
      obtain ⟨x0, x1, x2, x3, x4, x5, x6, x7⟩ := O2
      go_wp2_with (first
    | (go_at_call 79; refine (rname_is _ _ _ (by assumption) (by assumption)).mono ?_; rintro e w' ⟨rfl, rfl⟩)
    | (go_at_call 80; refine (rseen_is _ _ _ (by assumption) (by assumption)).mono ?_; rintro e w' ⟨rfl, rfl⟩))
      go_ret
      exact ⟨rfl, B2⟩
  · have q0 : decide (node < 2) = false := by simp; omega
    have q1 : decide ((4 * t + b) < node) = false := by simp; omega
    have q2 : decide (other < 0) = false := by simp; omega
    have q3 : decide ((4 * t + b) ≤ other) = false := by simp; omega
    cases hn2 : nameOk name.data.toList with
    | false =>
      have hcode : moveE (t * 4 + b) node other name.data.toList value.data.toList = 4 := by unfold moveE; rw [if_neg hsh, if_pos hn2]
      rw [hcode]
      clear hsh
      clear hcode hln hlv
      go_enter Tryd.func52, Tryd.ntmps52
      go_wp2_with fail
      generalize w.alloc (.cells #[.int .i64 t, .int .i64 b, .int .i64 n, .int .u8 (k : Int), .int .i64 node, .int .i64 other, .string name, .string value] 77) = u at O0 B0 ⊢
      refine (stampError_ok _ _ _ s1 s2 s3 s4).mono ?_
      rintro e w1 ⟨rfl, hb⟩
      have O1 := O0.later hb
      have B1 : Below w.heap.size w w1 := B0.trans (hb.mono B0.size)
      clear hb O0 B0
      obtain ⟨x0, x1, x2, x3, x4, x5, x6, x7⟩ := id O1
      go_wp2_with fail
      refine (idOf_ok _ _ _ s1 s2 s3 s4).mono ?_
      rintro e w2 ⟨rfl, hb⟩
      have O2 := O1.later hb
      have B2 : Below w.heap.size w w2 := B1.trans (hb.mono B1.size)
      clear hb O1 B1 x0 x1 x2 x3 x4 x5 x6 x7
      obtain ⟨x0, x1, x2, x3, x4, x5, x6, x7⟩ := O2
      go_wp2_with (first
    | (go_at_call 79; refine (rname_is _ _ _ (by assumption) (by assumption)).mono ?_; rintro e w' ⟨rfl, rfl⟩)
    | (go_at_call 80; refine (rseen_is _ _ _ (by assumption) (by assumption)).mono ?_; rintro e w' ⟨rfl, rfl⟩))
      go_ret
      exact ⟨rfl, B2⟩
    | true =>
      by_cases hv : value.data.toList = []
      · have e1 := empty_yes hv
        have hcode : moveE (t * 4 + b) node other name.data.toList value.data.toList = 0 := by unfold moveE; rw [if_neg hsh, if_neg (by rw [hn2]; simp), if_neg (by rw [hv]; simp)]
        rw [hcode]
        clear hsh hv
        clear hcode hln hlv
        go_enter Tryd.func52, Tryd.ntmps52
        go_wp2_with fail
        generalize w.alloc (.cells #[.int .i64 t, .int .i64 b, .int .i64 n, .int .u8 (k : Int), .int .i64 node, .int .i64 other, .string name, .string value] 77) = u at O0 B0 ⊢
        refine (stampError_ok _ _ _ s1 s2 s3 s4).mono ?_
        rintro e w1 ⟨rfl, hb⟩
        have O1 := O0.later hb
        have B1 : Below w.heap.size w w1 := B0.trans (hb.mono B0.size)
        clear hb O0 B0
        obtain ⟨x0, x1, x2, x3, x4, x5, x6, x7⟩ := id O1
        go_wp2_with fail
        refine (idOf_ok _ _ _ s1 s2 s3 s4).mono ?_
        rintro e w2 ⟨rfl, hb⟩
        have O2 := O1.later hb
        have B2 : Below w.heap.size w w2 := B1.trans (hb.mono B1.size)
        clear hb O1 B1 x0 x1 x2 x3 x4 x5 x6 x7
        obtain ⟨x0, x1, x2, x3, x4, x5, x6, x7⟩ := O2
        go_wp2_with (first
    | (go_at_call 79; refine (rname_is _ _ _ (by assumption) (by assumption)).mono ?_; rintro e w' ⟨rfl, rfl⟩)
    | (go_at_call 80; refine (rseen_is _ _ _ (by assumption) (by assumption)).mono ?_; rintro e w' ⟨rfl, rfl⟩))
        go_ret
        exact ⟨rfl, B2⟩
      · have e1 := empty_no hv
        have hcode : moveE (t * 4 + b) node other name.data.toList value.data.toList = 3 := by unfold moveE; rw [if_neg hsh, if_neg (by rw [hn2]; simp), if_pos hv]
        rw [hcode]
        clear hsh hv
        clear hcode hln hlv
        go_enter Tryd.func52, Tryd.ntmps52
        go_wp2_with fail
        generalize w.alloc (.cells #[.int .i64 t, .int .i64 b, .int .i64 n, .int .u8 (k : Int), .int .i64 node, .int .i64 other, .string name, .string value] 77) = u at O0 B0 ⊢
        refine (stampError_ok _ _ _ s1 s2 s3 s4).mono ?_
        rintro e w1 ⟨rfl, hb⟩
        have O1 := O0.later hb
        have B1 : Below w.heap.size w w1 := B0.trans (hb.mono B0.size)
        clear hb O0 B0
        obtain ⟨x0, x1, x2, x3, x4, x5, x6, x7⟩ := id O1
        go_wp2_with fail
        refine (idOf_ok _ _ _ s1 s2 s3 s4).mono ?_
        rintro e w2 ⟨rfl, hb⟩
        have O2 := O1.later hb
        have B2 : Below w.heap.size w w2 := B1.trans (hb.mono B1.size)
        clear hb O1 B1 x0 x1 x2 x3 x4 x5 x6 x7
        obtain ⟨x0, x1, x2, x3, x4, x5, x6, x7⟩ := O2
        go_wp2_with (first
    | (go_at_call 79; refine (rname_is _ _ _ (by assumption) (by assumption)).mono ?_; rintro e w' ⟨rfl, rfl⟩)
    | (go_at_call 80; refine (rseen_is _ _ _ (by assumption) (by assumption)).mono ?_; rintro e w' ⟨rfl, rfl⟩))
        go_ret
        exact ⟨rfl, B2⟩

set_option maxRecDepth 100000 in
set_option maxHeartbeats 4000000 in
theorem rop_i (t b n : Int) (k : Nat) (node other : Int) (name value : ByteArray) (w : World) (_hsn : name.size ≤ 1000000) (hsv : value.size ≤ 1000000) (hst : 1 ≤ t ∧ t ≤ 1073741824 ∧ 0 ≤ b ∧ b < 4) (hn : 1 ≤ n ∧ n ≤ 400) (hk : k = 105) :
    Calls Tryd.prog 52 #[.agg #[.int .i64 t, .int .i64 b, .int .i64 n, .int .u8 (k : Int), .int .i64 node, .int .i64 other, .string name, .string value]] w fun e w' => e = .returned (.int .i64 ((opE t b n k node other name.data.toList value.data.toList : Nat) : Int)) ∧ Below w.heap.size w w' := by
  have O0 := OpAt.new w t b n k node other name value 77
  have B0 : Below w.heap.size w (w.alloc (.cells #[.int .i64 t, .int .i64 b, .int .i64 n, .int .u8 (k : Int), .int .i64 node, .int .i64 other, .string name, .string value] 77)) := (Below.refl _ _).alloc (Nat.le_refl _) _
  have hln := listLen name
  have hlv := listLen value
  obtain ⟨s1, s2, s3, s4⟩ := hst
  have d1 : decide (n < 1) = false := by simp; omega
  have d2 : decide (400 < n) = false := by simp; omega
  have hop : opE t b n k node other name.data.toList value.data.toList = insE (t * 4 + b) node other name.data.toList value.data.toList := by
    unfold opE kindE
    rw [if_pos (by omega)]
    rw [if_neg (show ¬ k = 109 by omega)]
    rw [if_pos hk]
  rw [hop]
  clear hop
  have r109 : ((k : Int) == 109) = false := by simp; omega
  have r105 : ((k : Int) == 105) = true := by simp; omega
  have r100 : ((k : Int) == 100) = false := by simp; omega
  clear hk
  by_cases hsh : node < 0 ∨ t * 4 + b ≤ node ∨ other < 0 ∨ t * 4 + b ≤ other
  · have hc : (node < 0) ∨ (¬ (node < 0) ∧ t * 4 + b ≤ node) ∨ (¬ (node < 0) ∧ ¬ (t * 4 + b ≤ node) ∧ other < 0) ∨ (¬ (node < 0) ∧ ¬ (t * 4 + b ≤ node) ∧ ¬ (other < 0) ∧ t * 4 + b ≤ other) := by omega
    rcases hc with h | h | h | h
    · have hx := h
      have hcode : insE (t * 4 + b) node other name.data.toList value.data.toList = 3 := by unfold insE; rw [if_pos hsh]
      rw [hcode]
      have q0 : decide (node < 0) = true := by simp; omega
      clear hsh h hx
      clear hcode hln hlv
      go_enter Tryd.func52, Tryd.ntmps52
      go_wp2_with fail
      generalize w.alloc (.cells #[.int .i64 t, .int .i64 b, .int .i64 n, .int .u8 (k : Int), .int .i64 node, .int .i64 other, .string name, .string value] 77) = u at O0 B0 ⊢
      refine (stampError_ok _ _ _ s1 s2 s3 s4).mono ?_
      rintro e w1 ⟨rfl, hb⟩
      have O1 := O0.later hb
      have B1 : Below w.heap.size w w1 := B0.trans (hb.mono B0.size)
      clear hb O0 B0
      obtain ⟨x0, x1, x2, x3, x4, x5, x6, x7⟩ := id O1
      go_wp2_with fail
      refine (idOf_ok _ _ _ s1 s2 s3 s4).mono ?_
      rintro e w2 ⟨rfl, hb⟩
      have O2 := O1.later hb
      have B2 : Below w.heap.size w w2 := B1.trans (hb.mono B1.size)
      clear hb O1 B1 x0 x1 x2 x3 x4 x5 x6 x7
      obtain ⟨x0, x1, x2, x3, x4, x5, x6, x7⟩ := O2
      go_wp2_with (first
    | (go_at_call 79; refine (rname_is _ _ _ (by assumption) (by assumption)).mono ?_; rintro e w' ⟨rfl, rfl⟩)
    | (go_at_call 80; refine (rseen_is _ _ _ (by assumption) (by assumption)).mono ?_; rintro e w' ⟨rfl, rfl⟩))
      go_ret
      exact ⟨rfl, B2⟩
    · have hx := h
      have hcode : insE (t * 4 + b) node other name.data.toList value.data.toList = 3 := by unfold insE; rw [if_pos hsh]
      rw [hcode]
      have q0 : decide (node < 0) = false := by simp; omega
      have q1 : decide ((4 * t + b) ≤ node) = true := by simp; omega
      clear hsh h hx
      clear hcode hln hlv
      go_enter Tryd.func52, Tryd.ntmps52
      go_wp2_with fail
      generalize w.alloc (.cells #[.int .i64 t, .int .i64 b, .int .i64 n, .int .u8 (k : Int), .int .i64 node, .int .i64 other, .string name, .string value] 77) = u at O0 B0 ⊢
      refine (stampError_ok _ _ _ s1 s2 s3 s4).mono ?_
      rintro e w1 ⟨rfl, hb⟩
      have O1 := O0.later hb
      have B1 : Below w.heap.size w w1 := B0.trans (hb.mono B0.size)
      clear hb O0 B0
      obtain ⟨x0, x1, x2, x3, x4, x5, x6, x7⟩ := id O1
      go_wp2_with fail
      refine (idOf_ok _ _ _ s1 s2 s3 s4).mono ?_
      rintro e w2 ⟨rfl, hb⟩
      have O2 := O1.later hb
      have B2 : Below w.heap.size w w2 := B1.trans (hb.mono B1.size)
      clear hb O1 B1 x0 x1 x2 x3 x4 x5 x6 x7
      obtain ⟨x0, x1, x2, x3, x4, x5, x6, x7⟩ := O2
      go_wp2_with (first
    | (go_at_call 79; refine (rname_is _ _ _ (by assumption) (by assumption)).mono ?_; rintro e w' ⟨rfl, rfl⟩)
    | (go_at_call 80; refine (rseen_is _ _ _ (by assumption) (by assumption)).mono ?_; rintro e w' ⟨rfl, rfl⟩))
      go_ret
      exact ⟨rfl, B2⟩
    · have hx := h
      have hcode : insE (t * 4 + b) node other name.data.toList value.data.toList = 3 := by unfold insE; rw [if_pos hsh]
      rw [hcode]
      have q0 : decide (node < 0) = false := by simp; omega
      have q1 : decide ((4 * t + b) ≤ node) = false := by simp; omega
      have q2 : decide (other < 0) = true := by simp; omega
      clear hsh h hx
      clear hcode hln hlv
      go_enter Tryd.func52, Tryd.ntmps52
      go_wp2_with fail
      generalize w.alloc (.cells #[.int .i64 t, .int .i64 b, .int .i64 n, .int .u8 (k : Int), .int .i64 node, .int .i64 other, .string name, .string value] 77) = u at O0 B0 ⊢
      refine (stampError_ok _ _ _ s1 s2 s3 s4).mono ?_
      rintro e w1 ⟨rfl, hb⟩
      have O1 := O0.later hb
      have B1 : Below w.heap.size w w1 := B0.trans (hb.mono B0.size)
      clear hb O0 B0
      obtain ⟨x0, x1, x2, x3, x4, x5, x6, x7⟩ := id O1
      go_wp2_with fail
      refine (idOf_ok _ _ _ s1 s2 s3 s4).mono ?_
      rintro e w2 ⟨rfl, hb⟩
      have O2 := O1.later hb
      have B2 : Below w.heap.size w w2 := B1.trans (hb.mono B1.size)
      clear hb O1 B1 x0 x1 x2 x3 x4 x5 x6 x7
      obtain ⟨x0, x1, x2, x3, x4, x5, x6, x7⟩ := O2
      go_wp2_with (first
    | (go_at_call 79; refine (rname_is _ _ _ (by assumption) (by assumption)).mono ?_; rintro e w' ⟨rfl, rfl⟩)
    | (go_at_call 80; refine (rseen_is _ _ _ (by assumption) (by assumption)).mono ?_; rintro e w' ⟨rfl, rfl⟩))
      go_ret
      exact ⟨rfl, B2⟩
    · have hx := h
      have hcode : insE (t * 4 + b) node other name.data.toList value.data.toList = 3 := by unfold insE; rw [if_pos hsh]
      rw [hcode]
      have q0 : decide (node < 0) = false := by simp; omega
      have q1 : decide ((4 * t + b) ≤ node) = false := by simp; omega
      have q2 : decide (other < 0) = false := by simp; omega
      have q3 : decide ((4 * t + b) ≤ other) = true := by simp; omega
      clear hsh h hx
      clear hcode hln hlv
      go_enter Tryd.func52, Tryd.ntmps52
      go_wp2_with fail
      generalize w.alloc (.cells #[.int .i64 t, .int .i64 b, .int .i64 n, .int .u8 (k : Int), .int .i64 node, .int .i64 other, .string name, .string value] 77) = u at O0 B0 ⊢
      refine (stampError_ok _ _ _ s1 s2 s3 s4).mono ?_
      rintro e w1 ⟨rfl, hb⟩
      have O1 := O0.later hb
      have B1 : Below w.heap.size w w1 := B0.trans (hb.mono B0.size)
      clear hb O0 B0
      obtain ⟨x0, x1, x2, x3, x4, x5, x6, x7⟩ := id O1
      go_wp2_with fail
      refine (idOf_ok _ _ _ s1 s2 s3 s4).mono ?_
      rintro e w2 ⟨rfl, hb⟩
      have O2 := O1.later hb
      have B2 : Below w.heap.size w w2 := B1.trans (hb.mono B1.size)
      clear hb O1 B1 x0 x1 x2 x3 x4 x5 x6 x7
      obtain ⟨x0, x1, x2, x3, x4, x5, x6, x7⟩ := O2
      go_wp2_with (first
    | (go_at_call 79; refine (rname_is _ _ _ (by assumption) (by assumption)).mono ?_; rintro e w' ⟨rfl, rfl⟩)
    | (go_at_call 80; refine (rseen_is _ _ _ (by assumption) (by assumption)).mono ?_; rintro e w' ⟨rfl, rfl⟩))
      go_ret
      exact ⟨rfl, B2⟩
  · have q0 : decide (node < 0) = false := by simp; omega
    have q1 : decide ((4 * t + b) ≤ node) = false := by simp; omega
    have q2 : decide (other < 0) = false := by simp; omega
    have q3 : decide ((4 * t + b) ≤ other) = false := by simp; omega
    by_cases hn2 : name.data.toList = []
    · have e1 := empty_yes hn2
      by_cases hv : value.size = 1
      · have e2 : ((value.size : Int) != 1) = false := by simp; omega
        cases hp : seenOk value.data.toList with
        | false =>
          have hcode : insE (t * 4 + b) node other name.data.toList value.data.toList = 3 := by unfold insE; rw [if_neg hsh, if_neg (by rw [hn2]; simp), if_pos (.inr hp)]
          rw [hcode]
          clear hsh hn2 hv
          clear hcode hln hlv
          go_enter Tryd.func52, Tryd.ntmps52
          go_wp2_with fail
          generalize w.alloc (.cells #[.int .i64 t, .int .i64 b, .int .i64 n, .int .u8 (k : Int), .int .i64 node, .int .i64 other, .string name, .string value] 77) = u at O0 B0 ⊢
          refine (stampError_ok _ _ _ s1 s2 s3 s4).mono ?_
          rintro e w1 ⟨rfl, hb⟩
          have O1 := O0.later hb
          have B1 : Below w.heap.size w w1 := B0.trans (hb.mono B0.size)
          clear hb O0 B0
          obtain ⟨x0, x1, x2, x3, x4, x5, x6, x7⟩ := id O1
          go_wp2_with fail
          refine (idOf_ok _ _ _ s1 s2 s3 s4).mono ?_
          rintro e w2 ⟨rfl, hb⟩
          have O2 := O1.later hb
          have B2 : Below w.heap.size w w2 := B1.trans (hb.mono B1.size)
          clear hb O1 B1 x0 x1 x2 x3 x4 x5 x6 x7
          obtain ⟨x0, x1, x2, x3, x4, x5, x6, x7⟩ := O2
          go_wp2_with (first
    | (go_at_call 79; refine (rname_is _ _ _ (by assumption) (by assumption)).mono ?_; rintro e w' ⟨rfl, rfl⟩)
    | (go_at_call 80; refine (rseen_is _ _ _ (by assumption) (by assumption)).mono ?_; rintro e w' ⟨rfl, rfl⟩))
          go_ret
          exact ⟨rfl, B2⟩
        | true =>
          have hcode : insE (t * 4 + b) node other name.data.toList value.data.toList = 0 := by unfold insE; rw [if_neg hsh, if_neg (by rw [hn2]; simp), if_neg (by rw [hp, hlv]; simp; omega)]
          rw [hcode]
          clear hsh hn2 hv
          clear hcode hln hlv
          go_enter Tryd.func52, Tryd.ntmps52
          go_wp2_with fail
          generalize w.alloc (.cells #[.int .i64 t, .int .i64 b, .int .i64 n, .int .u8 (k : Int), .int .i64 node, .int .i64 other, .string name, .string value] 77) = u at O0 B0 ⊢
          refine (stampError_ok _ _ _ s1 s2 s3 s4).mono ?_
          rintro e w1 ⟨rfl, hb⟩
          have O1 := O0.later hb
          have B1 : Below w.heap.size w w1 := B0.trans (hb.mono B0.size)
          clear hb O0 B0
          obtain ⟨x0, x1, x2, x3, x4, x5, x6, x7⟩ := id O1
          go_wp2_with fail
          refine (idOf_ok _ _ _ s1 s2 s3 s4).mono ?_
          rintro e w2 ⟨rfl, hb⟩
          have O2 := O1.later hb
          have B2 : Below w.heap.size w w2 := B1.trans (hb.mono B1.size)
          clear hb O1 B1 x0 x1 x2 x3 x4 x5 x6 x7
          obtain ⟨x0, x1, x2, x3, x4, x5, x6, x7⟩ := O2
          go_wp2_with (first
    | (go_at_call 79; refine (rname_is _ _ _ (by assumption) (by assumption)).mono ?_; rintro e w' ⟨rfl, rfl⟩)
    | (go_at_call 80; refine (rseen_is _ _ _ (by assumption) (by assumption)).mono ?_; rintro e w' ⟨rfl, rfl⟩))
          go_ret
          exact ⟨rfl, B2⟩
      · have e2 : ((value.size : Int) != 1) = true := by simp; omega
        obtain ⟨sb, hp⟩ : ∃ sb, seenOk value.data.toList = sb := ⟨_, rfl⟩
        have hcode : insE (t * 4 + b) node other name.data.toList value.data.toList = 3 := by unfold insE; rw [if_neg hsh, if_neg (by rw [hn2]; simp), if_pos (.inl (by omega))]
        rw [hcode]
        clear hsh hn2 hv
        clear hcode hln hlv
        go_enter Tryd.func52, Tryd.ntmps52
        go_wp2_with fail
        generalize w.alloc (.cells #[.int .i64 t, .int .i64 b, .int .i64 n, .int .u8 (k : Int), .int .i64 node, .int .i64 other, .string name, .string value] 77) = u at O0 B0 ⊢
        refine (stampError_ok _ _ _ s1 s2 s3 s4).mono ?_
        rintro e w1 ⟨rfl, hb⟩
        have O1 := O0.later hb
        have B1 : Below w.heap.size w w1 := B0.trans (hb.mono B0.size)
        clear hb O0 B0
        obtain ⟨x0, x1, x2, x3, x4, x5, x6, x7⟩ := id O1
        go_wp2_with fail
        refine (idOf_ok _ _ _ s1 s2 s3 s4).mono ?_
        rintro e w2 ⟨rfl, hb⟩
        have O2 := O1.later hb
        have B2 : Below w.heap.size w w2 := B1.trans (hb.mono B1.size)
        clear hb O1 B1 x0 x1 x2 x3 x4 x5 x6 x7
        obtain ⟨x0, x1, x2, x3, x4, x5, x6, x7⟩ := O2
        go_wp2_with (first
    | (go_at_call 79; refine (rname_is _ _ _ (by assumption) (by assumption)).mono ?_; rintro e w' ⟨rfl, rfl⟩)
    | (go_at_call 80; refine (rseen_is _ _ _ (by assumption) (by assumption)).mono ?_; rintro e w' ⟨rfl, rfl⟩))
        go_ret
        exact ⟨rfl, B2⟩
    · have e1 := empty_no hn2
      have hcode : insE (t * 4 + b) node other name.data.toList value.data.toList = 4 := by unfold insE; rw [if_neg hsh, if_pos hn2]
      rw [hcode]
      clear hsh hn2
      clear hcode hln hlv
      go_enter Tryd.func52, Tryd.ntmps52
      go_wp2_with fail
      generalize w.alloc (.cells #[.int .i64 t, .int .i64 b, .int .i64 n, .int .u8 (k : Int), .int .i64 node, .int .i64 other, .string name, .string value] 77) = u at O0 B0 ⊢
      refine (stampError_ok _ _ _ s1 s2 s3 s4).mono ?_
      rintro e w1 ⟨rfl, hb⟩
      have O1 := O0.later hb
      have B1 : Below w.heap.size w w1 := B0.trans (hb.mono B0.size)
      clear hb O0 B0
      obtain ⟨x0, x1, x2, x3, x4, x5, x6, x7⟩ := id O1
      go_wp2_with fail
      refine (idOf_ok _ _ _ s1 s2 s3 s4).mono ?_
      rintro e w2 ⟨rfl, hb⟩
      have O2 := O1.later hb
      have B2 : Below w.heap.size w w2 := B1.trans (hb.mono B1.size)
      clear hb O1 B1 x0 x1 x2 x3 x4 x5 x6 x7
      obtain ⟨x0, x1, x2, x3, x4, x5, x6, x7⟩ := O2
      go_wp2_with (first
    | (go_at_call 79; refine (rname_is _ _ _ (by assumption) (by assumption)).mono ?_; rintro e w' ⟨rfl, rfl⟩)
    | (go_at_call 80; refine (rseen_is _ _ _ (by assumption) (by assumption)).mono ?_; rintro e w' ⟨rfl, rfl⟩))
      go_ret
      exact ⟨rfl, B2⟩

set_option maxRecDepth 100000 in
set_option maxHeartbeats 4000000 in
theorem rop_d (t b n : Int) (k : Nat) (node other : Int) (name value : ByteArray) (w : World) (_hsn : name.size ≤ 1000000) (hsv : value.size ≤ 1000000) (hst : 1 ≤ t ∧ t ≤ 1073741824 ∧ 0 ≤ b ∧ b < 4) (hn : 1 ≤ n ∧ n ≤ 400) (hk : k = 100) :
    Calls Tryd.prog 52 #[.agg #[.int .i64 t, .int .i64 b, .int .i64 n, .int .u8 (k : Int), .int .i64 node, .int .i64 other, .string name, .string value]] w fun e w' => e = .returned (.int .i64 ((opE t b n k node other name.data.toList value.data.toList : Nat) : Int)) ∧ Below w.heap.size w w' := by
  have O0 := OpAt.new w t b n k node other name value 77
  have B0 : Below w.heap.size w (w.alloc (.cells #[.int .i64 t, .int .i64 b, .int .i64 n, .int .u8 (k : Int), .int .i64 node, .int .i64 other, .string name, .string value] 77)) := (Below.refl _ _).alloc (Nat.le_refl _) _
  have hln := listLen name
  have hlv := listLen value
  obtain ⟨s1, s2, s3, s4⟩ := hst
  have d1 : decide (n < 1) = false := by simp; omega
  have d2 : decide (400 < n) = false := by simp; omega
  have hop : opE t b n k node other name.data.toList value.data.toList = delE (t * 4 + b) node other name.data.toList value.data.toList := by
    unfold opE kindE
    rw [if_pos (by omega)]
    rw [if_neg (show ¬ k = 109 by omega)]
    rw [if_neg (show ¬ k = 105 by omega)]
    rw [if_pos hk]
  rw [hop]
  clear hop
  have r109 : ((k : Int) == 109) = false := by simp; omega
  have r105 : ((k : Int) == 105) = false := by simp; omega
  have r100 : ((k : Int) == 100) = true := by simp; omega
  clear hk
  by_cases hsh : node < 0 ∨ t * 4 + b ≤ node ∨ other < 0 ∨ t * 4 + b ≤ other ∨ other = 0
  · have hc : (node < 0) ∨ (¬ (node < 0) ∧ t * 4 + b ≤ node) ∨ (¬ (node < 0) ∧ ¬ (t * 4 + b ≤ node) ∧ other < 0) ∨ (¬ (node < 0) ∧ ¬ (t * 4 + b ≤ node) ∧ ¬ (other < 0) ∧ t * 4 + b ≤ other) ∨ (¬ (node < 0) ∧ ¬ (t * 4 + b ≤ node) ∧ ¬ (other < 0) ∧ ¬ (t * 4 + b ≤ other) ∧ other = 0) := by omega
    rcases hc with h | h | h | h | h
    · have hx := h
      have hcode : delE (t * 4 + b) node other name.data.toList value.data.toList = 3 := by unfold delE; rw [if_pos hsh]
      rw [hcode]
      have q0 : decide (node < 0) = true := by simp; omega
      clear hsh h hx
      clear hcode hln hlv
      go_enter Tryd.func52, Tryd.ntmps52
      go_wp2_with fail
      generalize w.alloc (.cells #[.int .i64 t, .int .i64 b, .int .i64 n, .int .u8 (k : Int), .int .i64 node, .int .i64 other, .string name, .string value] 77) = u at O0 B0 ⊢
      refine (stampError_ok _ _ _ s1 s2 s3 s4).mono ?_
      rintro e w1 ⟨rfl, hb⟩
      have O1 := O0.later hb
      have B1 : Below w.heap.size w w1 := B0.trans (hb.mono B0.size)
      clear hb O0 B0
      obtain ⟨x0, x1, x2, x3, x4, x5, x6, x7⟩ := id O1
      go_wp2_with fail
      refine (idOf_ok _ _ _ s1 s2 s3 s4).mono ?_
      rintro e w2 ⟨rfl, hb⟩
      have O2 := O1.later hb
      have B2 : Below w.heap.size w w2 := B1.trans (hb.mono B1.size)
      clear hb O1 B1 x0 x1 x2 x3 x4 x5 x6 x7
      obtain ⟨x0, x1, x2, x3, x4, x5, x6, x7⟩ := O2
      go_wp2_with (first
    | (go_at_call 79; refine (rname_is _ _ _ (by assumption) (by assumption)).mono ?_; rintro e w' ⟨rfl, rfl⟩)
    | (go_at_call 80; refine (rseen_is _ _ _ (by assumption) (by assumption)).mono ?_; rintro e w' ⟨rfl, rfl⟩))
      go_ret
      exact ⟨rfl, B2⟩
    · have hx := h
      have hcode : delE (t * 4 + b) node other name.data.toList value.data.toList = 3 := by unfold delE; rw [if_pos hsh]
      rw [hcode]
      have q0 : decide (node < 0) = false := by simp; omega
      have q1 : decide ((4 * t + b) ≤ node) = true := by simp; omega
      clear hsh h hx
      clear hcode hln hlv
      go_enter Tryd.func52, Tryd.ntmps52
      go_wp2_with fail
      generalize w.alloc (.cells #[.int .i64 t, .int .i64 b, .int .i64 n, .int .u8 (k : Int), .int .i64 node, .int .i64 other, .string name, .string value] 77) = u at O0 B0 ⊢
      refine (stampError_ok _ _ _ s1 s2 s3 s4).mono ?_
      rintro e w1 ⟨rfl, hb⟩
      have O1 := O0.later hb
      have B1 : Below w.heap.size w w1 := B0.trans (hb.mono B0.size)
      clear hb O0 B0
      obtain ⟨x0, x1, x2, x3, x4, x5, x6, x7⟩ := id O1
      go_wp2_with fail
      refine (idOf_ok _ _ _ s1 s2 s3 s4).mono ?_
      rintro e w2 ⟨rfl, hb⟩
      have O2 := O1.later hb
      have B2 : Below w.heap.size w w2 := B1.trans (hb.mono B1.size)
      clear hb O1 B1 x0 x1 x2 x3 x4 x5 x6 x7
      obtain ⟨x0, x1, x2, x3, x4, x5, x6, x7⟩ := O2
      go_wp2_with (first
    | (go_at_call 79; refine (rname_is _ _ _ (by assumption) (by assumption)).mono ?_; rintro e w' ⟨rfl, rfl⟩)
    | (go_at_call 80; refine (rseen_is _ _ _ (by assumption) (by assumption)).mono ?_; rintro e w' ⟨rfl, rfl⟩))
      go_ret
      exact ⟨rfl, B2⟩
    · have hx := h
      have hcode : delE (t * 4 + b) node other name.data.toList value.data.toList = 3 := by unfold delE; rw [if_pos hsh]
      rw [hcode]
      have q0 : decide (node < 0) = false := by simp; omega
      have q1 : decide ((4 * t + b) ≤ node) = false := by simp; omega
      have q2 : decide (other < 0) = true := by simp; omega
      clear hsh h hx
      clear hcode hln hlv
      go_enter Tryd.func52, Tryd.ntmps52
      go_wp2_with fail
      generalize w.alloc (.cells #[.int .i64 t, .int .i64 b, .int .i64 n, .int .u8 (k : Int), .int .i64 node, .int .i64 other, .string name, .string value] 77) = u at O0 B0 ⊢
      refine (stampError_ok _ _ _ s1 s2 s3 s4).mono ?_
      rintro e w1 ⟨rfl, hb⟩
      have O1 := O0.later hb
      have B1 : Below w.heap.size w w1 := B0.trans (hb.mono B0.size)
      clear hb O0 B0
      obtain ⟨x0, x1, x2, x3, x4, x5, x6, x7⟩ := id O1
      go_wp2_with fail
      refine (idOf_ok _ _ _ s1 s2 s3 s4).mono ?_
      rintro e w2 ⟨rfl, hb⟩
      have O2 := O1.later hb
      have B2 : Below w.heap.size w w2 := B1.trans (hb.mono B1.size)
      clear hb O1 B1 x0 x1 x2 x3 x4 x5 x6 x7
      obtain ⟨x0, x1, x2, x3, x4, x5, x6, x7⟩ := O2
      go_wp2_with (first
    | (go_at_call 79; refine (rname_is _ _ _ (by assumption) (by assumption)).mono ?_; rintro e w' ⟨rfl, rfl⟩)
    | (go_at_call 80; refine (rseen_is _ _ _ (by assumption) (by assumption)).mono ?_; rintro e w' ⟨rfl, rfl⟩))
      go_ret
      exact ⟨rfl, B2⟩
    · have hx := h
      have hcode : delE (t * 4 + b) node other name.data.toList value.data.toList = 3 := by unfold delE; rw [if_pos hsh]
      rw [hcode]
      have q0 : decide (node < 0) = false := by simp; omega
      have q1 : decide ((4 * t + b) ≤ node) = false := by simp; omega
      have q2 : decide (other < 0) = false := by simp; omega
      have q3 : decide ((4 * t + b) ≤ other) = true := by simp; omega
      clear hsh h hx
      clear hcode hln hlv
      go_enter Tryd.func52, Tryd.ntmps52
      go_wp2_with fail
      generalize w.alloc (.cells #[.int .i64 t, .int .i64 b, .int .i64 n, .int .u8 (k : Int), .int .i64 node, .int .i64 other, .string name, .string value] 77) = u at O0 B0 ⊢
      refine (stampError_ok _ _ _ s1 s2 s3 s4).mono ?_
      rintro e w1 ⟨rfl, hb⟩
      have O1 := O0.later hb
      have B1 : Below w.heap.size w w1 := B0.trans (hb.mono B0.size)
      clear hb O0 B0
      obtain ⟨x0, x1, x2, x3, x4, x5, x6, x7⟩ := id O1
      go_wp2_with fail
      refine (idOf_ok _ _ _ s1 s2 s3 s4).mono ?_
      rintro e w2 ⟨rfl, hb⟩
      have O2 := O1.later hb
      have B2 : Below w.heap.size w w2 := B1.trans (hb.mono B1.size)
      clear hb O1 B1 x0 x1 x2 x3 x4 x5 x6 x7
      obtain ⟨x0, x1, x2, x3, x4, x5, x6, x7⟩ := O2
      go_wp2_with (first
    | (go_at_call 79; refine (rname_is _ _ _ (by assumption) (by assumption)).mono ?_; rintro e w' ⟨rfl, rfl⟩)
    | (go_at_call 80; refine (rseen_is _ _ _ (by assumption) (by assumption)).mono ?_; rintro e w' ⟨rfl, rfl⟩))
      go_ret
      exact ⟨rfl, B2⟩
    · have hx := h
      have hcode : delE (t * 4 + b) node other name.data.toList value.data.toList = 3 := by unfold delE; rw [if_pos hsh]
      rw [hcode]
      have q0 : decide (node < 0) = false := by simp; omega
      have q1 : decide ((4 * t + b) ≤ node) = false := by simp; omega
      have q2 : decide (other < 0) = false := by simp; omega
      have q3 : decide ((4 * t + b) ≤ other) = false := by simp; omega
      have q4 : (other == 0) = true := by simp; omega
      clear hsh h hx
      clear hcode hln hlv
      go_enter Tryd.func52, Tryd.ntmps52
      go_wp2_with fail
      generalize w.alloc (.cells #[.int .i64 t, .int .i64 b, .int .i64 n, .int .u8 (k : Int), .int .i64 node, .int .i64 other, .string name, .string value] 77) = u at O0 B0 ⊢
      refine (stampError_ok _ _ _ s1 s2 s3 s4).mono ?_
      rintro e w1 ⟨rfl, hb⟩
      have O1 := O0.later hb
      have B1 : Below w.heap.size w w1 := B0.trans (hb.mono B0.size)
      clear hb O0 B0
      obtain ⟨x0, x1, x2, x3, x4, x5, x6, x7⟩ := id O1
      go_wp2_with fail
      refine (idOf_ok _ _ _ s1 s2 s3 s4).mono ?_
      rintro e w2 ⟨rfl, hb⟩
      have O2 := O1.later hb
      have B2 : Below w.heap.size w w2 := B1.trans (hb.mono B1.size)
      clear hb O1 B1 x0 x1 x2 x3 x4 x5 x6 x7
      obtain ⟨x0, x1, x2, x3, x4, x5, x6, x7⟩ := O2
      go_wp2_with (first
    | (go_at_call 79; refine (rname_is _ _ _ (by assumption) (by assumption)).mono ?_; rintro e w' ⟨rfl, rfl⟩)
    | (go_at_call 80; refine (rseen_is _ _ _ (by assumption) (by assumption)).mono ?_; rintro e w' ⟨rfl, rfl⟩))
      go_ret
      exact ⟨rfl, B2⟩
  · have q0 : decide (node < 0) = false := by simp; omega
    have q1 : decide ((4 * t + b) ≤ node) = false := by simp; omega
    have q2 : decide (other < 0) = false := by simp; omega
    have q3 : decide ((4 * t + b) ≤ other) = false := by simp; omega
    have q4 : (other == 0) = false := by simp; omega
    by_cases hn2 : name.data.toList = []
    · have e1 := empty_yes hn2
      by_cases hv : value.data.toList = []
      · have e2 := empty_yes hv
        have hp : seenOk value.data.toList = true := by rw [hv]; rfl
        have hcode : delE (t * 4 + b) node other name.data.toList value.data.toList = 0 := by unfold delE; rw [if_neg hsh, if_neg (by rw [hn2]; simp), if_neg (by rw [hv]; simp)]
        rw [hcode]
        clear hsh hn2 hv
        clear hcode hln hlv
        go_enter Tryd.func52, Tryd.ntmps52
        go_wp2_with fail
        generalize w.alloc (.cells #[.int .i64 t, .int .i64 b, .int .i64 n, .int .u8 (k : Int), .int .i64 node, .int .i64 other, .string name, .string value] 77) = u at O0 B0 ⊢
        refine (stampError_ok _ _ _ s1 s2 s3 s4).mono ?_
        rintro e w1 ⟨rfl, hb⟩
        have O1 := O0.later hb
        have B1 : Below w.heap.size w w1 := B0.trans (hb.mono B0.size)
        clear hb O0 B0
        obtain ⟨x0, x1, x2, x3, x4, x5, x6, x7⟩ := id O1
        go_wp2_with fail
        refine (idOf_ok _ _ _ s1 s2 s3 s4).mono ?_
        rintro e w2 ⟨rfl, hb⟩
        have O2 := O1.later hb
        have B2 : Below w.heap.size w w2 := B1.trans (hb.mono B1.size)
        clear hb O1 B1 x0 x1 x2 x3 x4 x5 x6 x7
        obtain ⟨x0, x1, x2, x3, x4, x5, x6, x7⟩ := O2
        go_wp2_with (first
    | (go_at_call 79; refine (rname_is _ _ _ (by assumption) (by assumption)).mono ?_; rintro e w' ⟨rfl, rfl⟩)
    | (go_at_call 80; refine (rseen_is _ _ _ (by assumption) (by assumption)).mono ?_; rintro e w' ⟨rfl, rfl⟩))
        go_ret
        exact ⟨rfl, B2⟩
      · have e2 := empty_no hv
        have hcode : delE (t * 4 + b) node other name.data.toList value.data.toList = 3 := by unfold delE; rw [if_neg hsh, if_neg (by rw [hn2]; simp), if_pos hv]
        rw [hcode]
        clear hsh hn2 hv
        clear hcode hln hlv
        go_enter Tryd.func52, Tryd.ntmps52
        go_wp2_with fail
        generalize w.alloc (.cells #[.int .i64 t, .int .i64 b, .int .i64 n, .int .u8 (k : Int), .int .i64 node, .int .i64 other, .string name, .string value] 77) = u at O0 B0 ⊢
        refine (stampError_ok _ _ _ s1 s2 s3 s4).mono ?_
        rintro e w1 ⟨rfl, hb⟩
        have O1 := O0.later hb
        have B1 : Below w.heap.size w w1 := B0.trans (hb.mono B0.size)
        clear hb O0 B0
        obtain ⟨x0, x1, x2, x3, x4, x5, x6, x7⟩ := id O1
        go_wp2_with fail
        refine (idOf_ok _ _ _ s1 s2 s3 s4).mono ?_
        rintro e w2 ⟨rfl, hb⟩
        have O2 := O1.later hb
        have B2 : Below w.heap.size w w2 := B1.trans (hb.mono B1.size)
        clear hb O1 B1 x0 x1 x2 x3 x4 x5 x6 x7
        obtain ⟨x0, x1, x2, x3, x4, x5, x6, x7⟩ := O2
        go_wp2_with (first
    | (go_at_call 79; refine (rname_is _ _ _ (by assumption) (by assumption)).mono ?_; rintro e w' ⟨rfl, rfl⟩)
    | (go_at_call 80; refine (rseen_is _ _ _ (by assumption) (by assumption)).mono ?_; rintro e w' ⟨rfl, rfl⟩))
        go_ret
        exact ⟨rfl, B2⟩
    · have e1 := empty_no hn2
      have hcode : delE (t * 4 + b) node other name.data.toList value.data.toList = 4 := by unfold delE; rw [if_neg hsh, if_pos hn2]
      rw [hcode]
      clear hsh hn2
      clear hcode hln hlv
      go_enter Tryd.func52, Tryd.ntmps52
      go_wp2_with fail
      generalize w.alloc (.cells #[.int .i64 t, .int .i64 b, .int .i64 n, .int .u8 (k : Int), .int .i64 node, .int .i64 other, .string name, .string value] 77) = u at O0 B0 ⊢
      refine (stampError_ok _ _ _ s1 s2 s3 s4).mono ?_
      rintro e w1 ⟨rfl, hb⟩
      have O1 := O0.later hb
      have B1 : Below w.heap.size w w1 := B0.trans (hb.mono B0.size)
      clear hb O0 B0
      obtain ⟨x0, x1, x2, x3, x4, x5, x6, x7⟩ := id O1
      go_wp2_with fail
      refine (idOf_ok _ _ _ s1 s2 s3 s4).mono ?_
      rintro e w2 ⟨rfl, hb⟩
      have O2 := O1.later hb
      have B2 : Below w.heap.size w w2 := B1.trans (hb.mono B1.size)
      clear hb O1 B1 x0 x1 x2 x3 x4 x5 x6 x7
      obtain ⟨x0, x1, x2, x3, x4, x5, x6, x7⟩ := O2
      go_wp2_with (first
    | (go_at_call 79; refine (rname_is _ _ _ (by assumption) (by assumption)).mono ?_; rintro e w' ⟨rfl, rfl⟩)
    | (go_at_call 80; refine (rseen_is _ _ _ (by assumption) (by assumption)).mono ?_; rintro e w' ⟨rfl, rfl⟩))
      go_ret
      exact ⟨rfl, B2⟩

set_option maxRecDepth 100000 in
set_option maxHeartbeats 4000000 in
theorem rop_s (t b n : Int) (k : Nat) (node other : Int) (name value : ByteArray) (w : World) (hsn : name.size ≤ 1000000) (hsv : value.size ≤ 1000000) (hst : 1 ≤ t ∧ t ≤ 1073741824 ∧ 0 ≤ b ∧ b < 4) (hn : 1 ≤ n ∧ n ≤ 400) (hk : k = 115) :
    Calls Tryd.prog 52 #[.agg #[.int .i64 t, .int .i64 b, .int .i64 n, .int .u8 (k : Int), .int .i64 node, .int .i64 other, .string name, .string value]] w fun e w' => e = .returned (.int .i64 ((opE t b n k node other name.data.toList value.data.toList : Nat) : Int)) ∧ Below w.heap.size w w' := by
  have O0 := OpAt.new w t b n k node other name value 77
  have B0 : Below w.heap.size w (w.alloc (.cells #[.int .i64 t, .int .i64 b, .int .i64 n, .int .u8 (k : Int), .int .i64 node, .int .i64 other, .string name, .string value] 77)) := (Below.refl _ _).alloc (Nat.le_refl _) _
  have hln := listLen name
  have hlv := listLen value
  obtain ⟨s1, s2, s3, s4⟩ := hst
  have d1 : decide (n < 1) = false := by simp; omega
  have d2 : decide (400 < n) = false := by simp; omega
  have hop : opE t b n k node other name.data.toList value.data.toList = setE (t * 4 + b) node other name.data.toList value.data.toList := by
    unfold opE kindE
    rw [if_pos (by omega)]
    rw [if_neg (show ¬ k = 109 by omega)]
    rw [if_neg (show ¬ k = 105 by omega)]
    rw [if_neg (show ¬ k = 100 by omega)]
    rw [if_pos hk]
  rw [hop]
  clear hop
  have r109 : ((k : Int) == 109) = false := by simp; omega
  have r105 : ((k : Int) == 105) = false := by simp; omega
  have r100 : ((k : Int) == 100) = false := by simp; omega
  have r115 : ((k : Int) == 115) = true := by simp; omega
  clear hk
  by_cases hsh : node < 0 ∨ t * 4 + b ≤ node ∨ other ≠ 0
  · have hc : (node < 0) ∨ (¬ (node < 0) ∧ t * 4 + b ≤ node) ∨ (¬ (node < 0) ∧ ¬ (t * 4 + b ≤ node) ∧ other ≠ 0) := by omega
    rcases hc with h | h | h
    · have hx := h
      have hcode : setE (t * 4 + b) node other name.data.toList value.data.toList = 3 := by unfold setE; rw [if_pos hsh]
      rw [hcode]
      have q0 : decide (node < 0) = true := by simp; omega
      clear hsh h hx
      clear hcode hln hlv
      go_enter Tryd.func52, Tryd.ntmps52
      go_wp2_with fail
      generalize w.alloc (.cells #[.int .i64 t, .int .i64 b, .int .i64 n, .int .u8 (k : Int), .int .i64 node, .int .i64 other, .string name, .string value] 77) = u at O0 B0 ⊢
      refine (stampError_ok _ _ _ s1 s2 s3 s4).mono ?_
      rintro e w1 ⟨rfl, hb⟩
      have O1 := O0.later hb
      have B1 : Below w.heap.size w w1 := B0.trans (hb.mono B0.size)
      clear hb O0 B0
      obtain ⟨x0, x1, x2, x3, x4, x5, x6, x7⟩ := id O1
      go_wp2_with fail
      refine (idOf_ok _ _ _ s1 s2 s3 s4).mono ?_
      rintro e w2 ⟨rfl, hb⟩
      have O2 := O1.later hb
      have B2 : Below w.heap.size w w2 := B1.trans (hb.mono B1.size)
      clear hb O1 B1 x0 x1 x2 x3 x4 x5 x6 x7
      obtain ⟨x0, x1, x2, x3, x4, x5, x6, x7⟩ := O2
      go_wp2_with (first
    | (go_at_call 79; refine (rname_is _ _ _ (by assumption) (by assumption)).mono ?_; rintro e w' ⟨rfl, rfl⟩)
    | (go_at_call 80; refine (rseen_is _ _ _ (by assumption) (by assumption)).mono ?_; rintro e w' ⟨rfl, rfl⟩))
      go_ret
      exact ⟨rfl, B2⟩
    · have hx := h
      have hcode : setE (t * 4 + b) node other name.data.toList value.data.toList = 3 := by unfold setE; rw [if_pos hsh]
      rw [hcode]
      have q0 : decide (node < 0) = false := by simp; omega
      have q1 : decide ((4 * t + b) ≤ node) = true := by simp; omega
      clear hsh h hx
      clear hcode hln hlv
      go_enter Tryd.func52, Tryd.ntmps52
      go_wp2_with fail
      generalize w.alloc (.cells #[.int .i64 t, .int .i64 b, .int .i64 n, .int .u8 (k : Int), .int .i64 node, .int .i64 other, .string name, .string value] 77) = u at O0 B0 ⊢
      refine (stampError_ok _ _ _ s1 s2 s3 s4).mono ?_
      rintro e w1 ⟨rfl, hb⟩
      have O1 := O0.later hb
      have B1 : Below w.heap.size w w1 := B0.trans (hb.mono B0.size)
      clear hb O0 B0
      obtain ⟨x0, x1, x2, x3, x4, x5, x6, x7⟩ := id O1
      go_wp2_with fail
      refine (idOf_ok _ _ _ s1 s2 s3 s4).mono ?_
      rintro e w2 ⟨rfl, hb⟩
      have O2 := O1.later hb
      have B2 : Below w.heap.size w w2 := B1.trans (hb.mono B1.size)
      clear hb O1 B1 x0 x1 x2 x3 x4 x5 x6 x7
      obtain ⟨x0, x1, x2, x3, x4, x5, x6, x7⟩ := O2
      go_wp2_with (first
    | (go_at_call 79; refine (rname_is _ _ _ (by assumption) (by assumption)).mono ?_; rintro e w' ⟨rfl, rfl⟩)
    | (go_at_call 80; refine (rseen_is _ _ _ (by assumption) (by assumption)).mono ?_; rintro e w' ⟨rfl, rfl⟩))
      go_ret
      exact ⟨rfl, B2⟩
    · have hx := h
      have hcode : setE (t * 4 + b) node other name.data.toList value.data.toList = 3 := by unfold setE; rw [if_pos hsh]
      rw [hcode]
      have q0 : decide (node < 0) = false := by simp; omega
      have q1 : decide ((4 * t + b) ≤ node) = false := by simp; omega
      have q2 : (other != 0) = true := by simp; omega
      clear hsh h hx
      clear hcode hln hlv
      go_enter Tryd.func52, Tryd.ntmps52
      go_wp2_with fail
      generalize w.alloc (.cells #[.int .i64 t, .int .i64 b, .int .i64 n, .int .u8 (k : Int), .int .i64 node, .int .i64 other, .string name, .string value] 77) = u at O0 B0 ⊢
      refine (stampError_ok _ _ _ s1 s2 s3 s4).mono ?_
      rintro e w1 ⟨rfl, hb⟩
      have O1 := O0.later hb
      have B1 : Below w.heap.size w w1 := B0.trans (hb.mono B0.size)
      clear hb O0 B0
      obtain ⟨x0, x1, x2, x3, x4, x5, x6, x7⟩ := id O1
      go_wp2_with fail
      refine (idOf_ok _ _ _ s1 s2 s3 s4).mono ?_
      rintro e w2 ⟨rfl, hb⟩
      have O2 := O1.later hb
      have B2 : Below w.heap.size w w2 := B1.trans (hb.mono B1.size)
      clear hb O1 B1 x0 x1 x2 x3 x4 x5 x6 x7
      obtain ⟨x0, x1, x2, x3, x4, x5, x6, x7⟩ := O2
      go_wp2_with (first
    | (go_at_call 79; refine (rname_is _ _ _ (by assumption) (by assumption)).mono ?_; rintro e w' ⟨rfl, rfl⟩)
    | (go_at_call 80; refine (rseen_is _ _ _ (by assumption) (by assumption)).mono ?_; rintro e w' ⟨rfl, rfl⟩))
      go_ret
      exact ⟨rfl, B2⟩
  · have q0 : decide (node < 0) = false := by simp; omega
    have q1 : decide ((4 * t + b) ≤ node) = false := by simp; omega
    have q2 : (other != 0) = false := by simp; omega
    cases hn2 : nameOk name.data.toList with
    | false =>
      have hcode : setE (t * 4 + b) node other name.data.toList value.data.toList = 4 := by unfold setE; rw [if_neg hsh, if_pos hn2]
      rw [hcode]
      clear hsh
      clear hcode hln hlv
      go_enter Tryd.func52, Tryd.ntmps52
      go_wp2_with fail
      generalize w.alloc (.cells #[.int .i64 t, .int .i64 b, .int .i64 n, .int .u8 (k : Int), .int .i64 node, .int .i64 other, .string name, .string value] 77) = u at O0 B0 ⊢
      refine (stampError_ok _ _ _ s1 s2 s3 s4).mono ?_
      rintro e w1 ⟨rfl, hb⟩
      have O1 := O0.later hb
      have B1 : Below w.heap.size w w1 := B0.trans (hb.mono B0.size)
      clear hb O0 B0
      obtain ⟨x0, x1, x2, x3, x4, x5, x6, x7⟩ := id O1
      go_wp2_with fail
      refine (idOf_ok _ _ _ s1 s2 s3 s4).mono ?_
      rintro e w2 ⟨rfl, hb⟩
      have O2 := O1.later hb
      have B2 : Below w.heap.size w w2 := B1.trans (hb.mono B1.size)
      clear hb O1 B1 x0 x1 x2 x3 x4 x5 x6 x7
      obtain ⟨x0, x1, x2, x3, x4, x5, x6, x7⟩ := O2
      go_wp2_with (first
    | (go_at_call 79; refine (rname_is _ _ _ (by assumption) (by assumption)).mono ?_; rintro e w' ⟨rfl, rfl⟩)
    | (go_at_call 80; refine (rseen_is _ _ _ (by assumption) (by assumption)).mono ?_; rintro e w' ⟨rfl, rfl⟩))
      go_ret
      exact ⟨rfl, B2⟩
    | true =>
      by_cases hv : 12 < value.size
      · have e2 : decide (12 < (value.size : Int)) = true := by simp; omega
        obtain ⟨sb, hp⟩ : ∃ sb, seenOk value.data.toList = sb := ⟨_, rfl⟩
        have hcode : setE (t * 4 + b) node other name.data.toList value.data.toList = 3 := by unfold setE; rw [if_neg hsh, if_neg (by rw [hn2]; simp), if_pos (.inl (by omega))]
        rw [hcode]
        clear hsh
        clear hcode hln hlv
        go_enter Tryd.func52, Tryd.ntmps52
        go_wp2_with fail
        generalize w.alloc (.cells #[.int .i64 t, .int .i64 b, .int .i64 n, .int .u8 (k : Int), .int .i64 node, .int .i64 other, .string name, .string value] 77) = u at O0 B0 ⊢
        refine (stampError_ok _ _ _ s1 s2 s3 s4).mono ?_
        rintro e w1 ⟨rfl, hb⟩
        have O1 := O0.later hb
        have B1 : Below w.heap.size w w1 := B0.trans (hb.mono B0.size)
        clear hb O0 B0
        obtain ⟨x0, x1, x2, x3, x4, x5, x6, x7⟩ := id O1
        go_wp2_with fail
        refine (idOf_ok _ _ _ s1 s2 s3 s4).mono ?_
        rintro e w2 ⟨rfl, hb⟩
        have O2 := O1.later hb
        have B2 : Below w.heap.size w w2 := B1.trans (hb.mono B1.size)
        clear hb O1 B1 x0 x1 x2 x3 x4 x5 x6 x7
        obtain ⟨x0, x1, x2, x3, x4, x5, x6, x7⟩ := O2
        go_wp2_with (first
    | (go_at_call 79; refine (rname_is _ _ _ (by assumption) (by assumption)).mono ?_; rintro e w' ⟨rfl, rfl⟩)
    | (go_at_call 80; refine (rseen_is _ _ _ (by assumption) (by assumption)).mono ?_; rintro e w' ⟨rfl, rfl⟩))
        go_ret
        exact ⟨rfl, B2⟩
      · have e2 : decide (12 < (value.size : Int)) = false := by simp; omega
        cases hp : seenOk value.data.toList with
        | false =>
          have hcode : setE (t * 4 + b) node other name.data.toList value.data.toList = 3 := by unfold setE; rw [if_neg hsh, if_neg (by rw [hn2]; simp), if_pos (.inr hp)]
          rw [hcode]
          clear hsh
          clear hcode hln hlv
          go_enter Tryd.func52, Tryd.ntmps52
          go_wp2_with fail
          generalize w.alloc (.cells #[.int .i64 t, .int .i64 b, .int .i64 n, .int .u8 (k : Int), .int .i64 node, .int .i64 other, .string name, .string value] 77) = u at O0 B0 ⊢
          refine (stampError_ok _ _ _ s1 s2 s3 s4).mono ?_
          rintro e w1 ⟨rfl, hb⟩
          have O1 := O0.later hb
          have B1 : Below w.heap.size w w1 := B0.trans (hb.mono B0.size)
          clear hb O0 B0
          obtain ⟨x0, x1, x2, x3, x4, x5, x6, x7⟩ := id O1
          go_wp2_with fail
          refine (idOf_ok _ _ _ s1 s2 s3 s4).mono ?_
          rintro e w2 ⟨rfl, hb⟩
          have O2 := O1.later hb
          have B2 : Below w.heap.size w w2 := B1.trans (hb.mono B1.size)
          clear hb O1 B1 x0 x1 x2 x3 x4 x5 x6 x7
          obtain ⟨x0, x1, x2, x3, x4, x5, x6, x7⟩ := O2
          go_wp2_with (first
    | (go_at_call 79; refine (rname_is _ _ _ (by assumption) (by assumption)).mono ?_; rintro e w' ⟨rfl, rfl⟩)
    | (go_at_call 80; refine (rseen_is _ _ _ (by assumption) (by assumption)).mono ?_; rintro e w' ⟨rfl, rfl⟩))
          go_ret
          exact ⟨rfl, B2⟩
        | true =>
          have hcode : setE (t * 4 + b) node other name.data.toList value.data.toList = 0 := by unfold setE; rw [if_neg hsh, if_neg (by rw [hn2]; simp), if_neg (by rw [hp, hlv]; simp; omega)]
          rw [hcode]
          clear hsh
          clear hcode hln hlv
          go_enter Tryd.func52, Tryd.ntmps52
          go_wp2_with fail
          generalize w.alloc (.cells #[.int .i64 t, .int .i64 b, .int .i64 n, .int .u8 (k : Int), .int .i64 node, .int .i64 other, .string name, .string value] 77) = u at O0 B0 ⊢
          refine (stampError_ok _ _ _ s1 s2 s3 s4).mono ?_
          rintro e w1 ⟨rfl, hb⟩
          have O1 := O0.later hb
          have B1 : Below w.heap.size w w1 := B0.trans (hb.mono B0.size)
          clear hb O0 B0
          obtain ⟨x0, x1, x2, x3, x4, x5, x6, x7⟩ := id O1
          go_wp2_with fail
          refine (idOf_ok _ _ _ s1 s2 s3 s4).mono ?_
          rintro e w2 ⟨rfl, hb⟩
          have O2 := O1.later hb
          have B2 : Below w.heap.size w w2 := B1.trans (hb.mono B1.size)
          clear hb O1 B1 x0 x1 x2 x3 x4 x5 x6 x7
          obtain ⟨x0, x1, x2, x3, x4, x5, x6, x7⟩ := O2
          go_wp2_with (first
    | (go_at_call 79; refine (rname_is _ _ _ (by assumption) (by assumption)).mono ?_; rintro e w' ⟨rfl, rfl⟩)
    | (go_at_call 80; refine (rseen_is _ _ _ (by assumption) (by assumption)).mono ?_; rintro e w' ⟨rfl, rfl⟩))
          go_ret
          exact ⟨rfl, B2⟩

set_option maxRecDepth 100000 in
set_option maxHeartbeats 4000000 in
theorem rop_o (t b n : Int) (k : Nat) (node other : Int) (name value : ByteArray) (w : World) (_hsn : name.size ≤ 1000000) (_hsv : value.size ≤ 1000000) (hst : 1 ≤ t ∧ t ≤ 1073741824 ∧ 0 ≤ b ∧ b < 4) (hn : 1 ≤ n ∧ n ≤ 400) (hk : k ≠ 109 ∧ k ≠ 105 ∧ k ≠ 100 ∧ k ≠ 115) :
    Calls Tryd.prog 52 #[.agg #[.int .i64 t, .int .i64 b, .int .i64 n, .int .u8 (k : Int), .int .i64 node, .int .i64 other, .string name, .string value]] w fun e w' => e = .returned (.int .i64 ((opE t b n k node other name.data.toList value.data.toList : Nat) : Int)) ∧ Below w.heap.size w w' := by
  have O0 := OpAt.new w t b n k node other name value 77
  have B0 : Below w.heap.size w (w.alloc (.cells #[.int .i64 t, .int .i64 b, .int .i64 n, .int .u8 (k : Int), .int .i64 node, .int .i64 other, .string name, .string value] 77)) := (Below.refl _ _).alloc (Nat.le_refl _) _
  have hln := listLen name
  have hlv := listLen value
  obtain ⟨s1, s2, s3, s4⟩ := hst
  have d1 : decide (n < 1) = false := by simp; omega
  have d2 : decide (400 < n) = false := by simp; omega
  have r109 : ((k : Int) == 109) = false := by simp; omega
  have r105 : ((k : Int) == 105) = false := by simp; omega
  have r100 : ((k : Int) == 100) = false := by simp; omega
  have r115 : ((k : Int) == 115) = false := by simp; omega
  have hcode : opE t b n k node other name.data.toList value.data.toList = 5 := by unfold opE kindE; rw [if_pos (by omega), if_neg hk.1, if_neg hk.2.1, if_neg hk.2.2.1, if_neg hk.2.2.2]
  rw [hcode]
  clear hk
  clear hcode hln hlv
  go_enter Tryd.func52, Tryd.ntmps52
  go_wp2_with fail
  generalize w.alloc (.cells #[.int .i64 t, .int .i64 b, .int .i64 n, .int .u8 (k : Int), .int .i64 node, .int .i64 other, .string name, .string value] 77) = u at O0 B0 ⊢
  refine (stampError_ok _ _ _ s1 s2 s3 s4).mono ?_
  rintro e w1 ⟨rfl, hb⟩
  have O1 := O0.later hb
  have B1 : Below w.heap.size w w1 := B0.trans (hb.mono B0.size)
  clear hb O0 B0
  obtain ⟨x0, x1, x2, x3, x4, x5, x6, x7⟩ := id O1
  go_wp2_with fail
  refine (idOf_ok _ _ _ s1 s2 s3 s4).mono ?_
  rintro e w2 ⟨rfl, hb⟩
  have O2 := O1.later hb
  have B2 : Below w.heap.size w w2 := B1.trans (hb.mono B1.size)
  clear hb O1 B1 x0 x1 x2 x3 x4 x5 x6 x7
  obtain ⟨x0, x1, x2, x3, x4, x5, x6, x7⟩ := O2
  go_wp2_with (first
    | (go_at_call 79; refine (rname_is _ _ _ (by assumption) (by assumption)).mono ?_; rintro e w' ⟨rfl, rfl⟩)
    | (go_at_call 80; refine (rseen_is _ _ _ (by assumption) (by assumption)).mono ?_; rintro e w' ⟨rfl, rfl⟩))
  go_ret
  exact ⟨rfl, B2⟩

theorem rop_any (t b n : Int) (k : Nat) (node other : Int) (name value : ByteArray) (w : World) (hsn : name.size ≤ 1000000) (hsv : value.size ≤ 1000000) :
    Calls Tryd.prog 52 #[.agg #[.int .i64 t, .int .i64 b, .int .i64 n, .int .u8 (k : Int), .int .i64 node, .int .i64 other, .string name, .string value]] w fun e w' => e = .returned (.int .i64 ((opE t b n k node other name.data.toList value.data.toList : Nat) : Int)) ∧ Below w.heap.size w w' := by
  by_cases hst : 1 ≤ t ∧ t ≤ 1073741824 ∧ 0 ≤ b ∧ b < 4
  · by_cases hn : 1 ≤ n ∧ n ≤ 400
    · by_cases h1 : k = 109
      · exact rop_m t b n k node other name value w hsn hsv hst hn h1
      · by_cases h2 : k = 105
        · exact rop_i t b n k node other name value w hsn hsv hst hn h2
        · by_cases h3 : k = 100
          · exact rop_d t b n k node other name value w hsn hsv hst hn h3
          · by_cases h4 : k = 115
            · exact rop_s t b n k node other name value w hsn hsv hst hn h4
            · exact rop_o t b n k node other name value w hsn hsv hst hn ⟨h1, h2, h3, h4⟩
    · exact rop_n t b n k node other name value w hsn hsv hst (by omega)
  · exact rop_stamp t b n k node other name value w hsn hsv hst
end Go.Proofs.YtnfhbmgkiknaaaaDoor
