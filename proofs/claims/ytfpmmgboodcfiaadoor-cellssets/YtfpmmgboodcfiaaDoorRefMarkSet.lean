/- Contracts of the reference's Set, and of the law's sameMarks. -/
import Derived.Test.YtfpmmgboodcfiaaDoorRefMarkLay
import Derived.Test.YtfpmmgboodcfiaaDoorRefOp
import Derived.Test.YtfpmmgboodcfiaaDoorCellSet
import Derived.Test.YtfpmmgboodcfiaaDoorCellMarks
namespace Go.Proofs.YtfpmmgboodcfiaaDoor
open Go Go.RowKit Go.Maps

/-- What the reference's Set makes of its list. -/
def rsetL (L : List (CKey × CMark)) (x : OpX) : List (CKey × CMark) := if errO x = 0 ∧ x.2.2.2.1 = 115 then layC L (keyO x, cellO x) else L
def rsetD (L : List (CKey × CMark)) (x : OpX) : Bool := if errO x = 0 ∧ x.2.2.2.1 = 115 then laidC L (keyO x, cellO x) else false
theorem Lists.set {f : CSta} {L : List (CKey × CMark)} (h : Lists f L) (x : OpX) : Lists (stepO f x) (rsetL L x) ∧ rsetD L x = setD f x := by
  unfold stepO rsetL rsetD setD
  by_cases hx : errO x = 0 ∧ x.2.2.2.1 = 115
  · simp only [if_pos hx]
    exact ⟨h.lay _, h.laid _⟩
  · simp only [if_neg hx]
    exact ⟨h, trivial⟩
theorem rsetL_len (L : List (CKey × CMark)) (x : OpX) : (rsetL L x).length ≤ L.length + 1 := by
  unfold rsetL
  split
  · exact layC_len _ _
  · omega
theorem laidIn_none {base : Nat} {w w' : World} {p : Nat} {v : Value} {L : List (CKey × CMark)} (h : MksAt base w p v L) (hb : Below w.heap.size w w') : LaidIn base w p v L w' :=
  ⟨v, h.later hb, (keeps_of_below hb).mono (fun i hi e => by omega), fun g hg => .inl hg⟩

set_option maxRecDepth 100000 in
set_option maxHeartbeats 2000000 in
theorem mset_any (w : World) (base p : Nat) (v : Value) (L : List (CKey × CMark)) (t b n : Int) (k : Nat) (node other : Int) (name value : ByteArray) (h : MksAt base w p v L) (hbase : base ≤ w.heap.size) (hL : L.length ≤ 900) (hsn : name.size ≤ 1000000) (hsv : value.size ≤ 1000000) :
    Calls Tryd.prog 9 #[.pointer (some ⟨p, 0, none⟩), .agg #[.int .i64 t, .int .i64 b, .int .i64 n, .int .u8 (k : Int), .int .i64 node, .int .i64 other, .string name, .string value]] w fun e w' => e = .returned (.tuple #[.bool (rsetD L (t, b, n, k, node, other, name, value)), .int .i64 ((setE_ (t, b, n, k, node, other, name, value) : Nat) : Int)]) ∧ LaidIn base w p v (rsetL L (t, b, n, k, node, other, name, value)) w' := by
  obtain ⟨w1, hw1⟩ : ∃ w1, w1 = w.alloc (.cells #[.int .i64 t, .int .i64 b, .int .i64 n, .int .u8 (k : Int), .int .i64 node, .int .i64 other, .string name, .string value] 38) := ⟨_, rfl⟩
  have O1 : OpAt w1 w.heap.size t b n k node other name value := by rw [hw1]; exact OpAt.new w t b n k node other name value 38
  have B1 : Below w.heap.size w w1 := by rw [hw1]; exact (Below.refl _ w).alloc (Nat.le_refl _) _
  have hro := rop_any t b n k node other name value w1 hsn hsv
  obtain ⟨er, her⟩ : ∃ er, Aside (opE t b n k node other name.data.toList value.data.toList = er) := ⟨_, rfl⟩
  rw [her.out] at hro
  have H1 : Aside (OpAt w1 w.heap.size t b n k node other name value ∧ Below w.heap.size w w1 ∧ MksAt base w p v L ∧ base ≤ w.heap.size) := ⟨O1, B1, h, hbase⟩
  obtain ⟨S, hS⟩ : ∃ S, Aside (w.heap.size = S) := ⟨_, rfl⟩
  clear O1 B1 h hbase
  by_cases h0 : er = 0
  · have d0 : ((er : Int) == 0) = true := by simp [h0]
    by_cases hk : k = 115
    · have dk : ((k : Int) != 115) = false := by simp; omega
      have e0 := her.out.trans h0
      have hx : errO (t, b, n, k, node, other, name, value) = 0 ∧ k = 115 := ⟨e0, hk⟩
      have e1 : rsetD L (t, b, n, k, node, other, name, value) = laidC L ((node, name), (value, (t, b))) := by unfold rsetD; rw [if_pos hx]; rfl
      have e2 : setE_ (t, b, n, k, node, other, name, value) = 0 := by unfold setE_; rw [if_pos (show errO (t, b, n, k, node, other, name, value) = 0 from e0)]; exact if_pos hk
      have e3 : rsetL L (t, b, n, k, node, other, name, value) = layC L ((node, name), (value, (t, b))) := by unfold rsetL; rw [if_pos hx]; rfl
      rw [e1, e2, e3]
      have dg : decide (0 < er) = false := by simp [h0]
      clear e0 e1 e2 e3 hx h0 hk
      go_enter Tryd.func9, Tryd.ntmps9
      go_wp2_with fail
      rw [← hw1, hS.out]
      clear hw1
      refine hro.mono ?_
      clear hro
      rintro e w2 ⟨rfl, hb2⟩
      obtain ⟨c0, c1, c2, c3, c4, c5, c6, c7⟩ := H1.out.1.later hb2
      rw [hS.out] at c0 c1 c2 c3 c4 c5 c6 c7
      have hbw : Below w.heap.size w w2 := H1.out.2.1.trans (hb2.mono H1.out.2.1.size)
      have hlay := mlay_any w2 base p v L node name value t b (H1.out.2.2.1.later hbw) (Nat.le_trans H1.out.2.2.2 hbw.size) hL
      have H2 : Aside (Below w.heap.size w w2) := hbw
      clear hb2 hbw
      go_wp2_with fail
      refine hlay.mono ?_
      clear hlay
      rintro e w3 ⟨rfl, v', h1, h2, h3⟩
      have HP : Aside (LaidIn base w p v (layC L ((node, name), (value, (t, b)))) w3) := ⟨v', h1, ((keeps_of_below H2.out).mono (fun i hi e => by omega)).then h2 (fun i hi e => e), fun g hg => (h3 g hg).imp (fun e => e) (fun e => Nat.le_trans H2.out.size e)⟩
      clear h1 h2 h3 H2 c0 c1 c2 c3 c4 c5 c6 c7
      go_wp2
      go_ret2
      exact ⟨rfl, HP.out⟩
    · have hx : ¬ (errO (t, b, n, k, node, other, name, value) = 0 ∧ k = 115) := fun h => hk h.2
      have e1 : rsetD L (t, b, n, k, node, other, name, value) = false := by unfold rsetD; rw [if_neg hx]
      have e2 : setE_ (t, b, n, k, node, other, name, value) = 5 := by unfold setE_; rw [if_pos (show errO (t, b, n, k, node, other, name, value) = 0 from her.out.trans h0)]; exact if_neg hk
      have e3 : rsetL L (t, b, n, k, node, other, name, value) = L := by unfold rsetL; rw [if_neg hx]
      rw [e1, e2, e3]
      have dk : ((k : Int) != 115) = true := by simp; omega
      clear e1 e2 e3 hx h0
      go_enter Tryd.func9, Tryd.ntmps9
      go_wp2_with fail
      rw [← hw1, hS.out]
      clear hw1
      refine hro.mono ?_
      clear hro
      rintro e w2 ⟨rfl, hb2⟩
      have c3 := (H1.out.1.later hb2).c3
      rw [hS.out] at c3
      have HP : Aside (LaidIn base w p v L w2) := laidIn_none H1.out.2.2.1 (H1.out.2.1.trans (hb2.mono H1.out.2.1.size))
      clear hb2
      go_wp2
      go_ret2
      exact ⟨rfl, HP.out⟩
  · have d0 : ((er : Int) == 0) = false := by simp [h0]
    have dg : decide (0 < er) = true := by simp; omega
    have hx : ¬ (errO (t, b, n, k, node, other, name, value) = 0 ∧ k = 115) := fun h => h0 (her.out.symm.trans h.1)
    have e1 : rsetD L (t, b, n, k, node, other, name, value) = false := by unfold rsetD; rw [if_neg hx]
    have e2 : setE_ (t, b, n, k, node, other, name, value) = er := by unfold setE_; rw [if_neg (show ¬ errO (t, b, n, k, node, other, name, value) = 0 from fun e => h0 (her.out.symm.trans e))]; exact her.out
    have e3 : rsetL L (t, b, n, k, node, other, name, value) = L := by unfold rsetL; rw [if_neg hx]
    rw [e1, e2, e3]
    clear e1 e2 e3 hx
    go_enter Tryd.func9, Tryd.ntmps9
    go_wp2_with fail
    rw [← hw1, hS.out]
    clear hw1
    refine hro.mono ?_
    clear hro
    rintro e w2 ⟨rfl, hb2⟩
    have HP : Aside (LaidIn base w p v L w2) := laidIn_none H1.out.2.2.1 (H1.out.2.1.trans (hb2.mono H1.out.2.1.size))
    clear hb2
    go_wp2
    go_ret2
    exact ⟨rfl, HP.out⟩

theorem shown_take {L : List (CKey × CMark)} {i : Nat} {m : CKey × CMark} (h : L[i]? = some m) : shown (L.take (i + 1)) = shown (L.take i) ++ (if m.2.1.size ≠ 0 then [shownM m] else []) := by
  rw [List.take_add_one, h]
  unfold shown
  rw [List.filter_append, List.map_append]
  congr 1
  by_cases hm : m.2.1.size ≠ 0
  · rw [if_pos hm]
    simp [fullM, hm]
  · rw [if_neg hm]
    simp only [ne_eq, Decidable.not_not] at hm
    simp [fullM, hm]
theorem shown_at {L : List (CKey × CMark)} {i : Nat} {m : CKey × CMark} (h : L[i]? = some m) (hm : m.2.1.size ≠ 0) : (shown L)[(shown (L.take i)).length]? = some (shownM m) := by
  have hl := (List.getElem?_eq_some_iff.1 h).1
  have e : L = L.take (i + 1) ++ L.drop (i + 1) := (List.take_append_drop _ _).symm
  have e2 : shown L = shown (L.take (i + 1)) ++ shown (L.drop (i + 1)) := by
    conv => lhs; rw [e]
    unfold shown
    rw [List.filter_append, List.map_append]
  rw [e2, shown_take h, if_pos hm, List.append_assoc, List.getElem?_append_right (Nat.le_refl _)]
  simp

set_option maxRecDepth 100000 in
set_option maxHeartbeats 4000000 in
/-- sameMarks holds what is shown of the reference's list against a list of marks: the same. -/
theorem same_marks (w : World) (ap : Option Addr) (cp base p : Nat) (v : Value) (L : List (CKey × CMark)) (hI : InRow cellsM w ap (shown L)) (h : MksAt base w p v L) (hL : L.length ≤ 900) :
    Calls Tryd.prog 11 #[.slice ap (shown L).length cp, .pointer (some ⟨p, 0, none⟩)] w fun e w' => e = .returned (.bool true) ∧ Below w.heap.size w w' := by
  obtain ⟨ao, cap, rfl⟩ := rowIs h.row
  have HM : Aside (InRow cellsM w ap (shown L) ∧ MksAt base w p (.slice ao L.length cap) L) := ⟨hI, h⟩
  obtain ⟨N, hN⟩ : ∃ N, Aside ((shown L).length = N) := ⟨_, rfl⟩
  have hN9 : N ≤ 900 := by
    rw [← hN.out]
    unfold shown
    rw [List.length_map]
    exact Nat.le_trans (List.length_filter_le _ _) hL
  rw [hN.out]
  clear hI h
  go_enter Tryd.func11, Tryd.ntmps11
  go_wp2
  go_loopg [5, 6] L.length (fun kx s5 s6 wr => ∃ (i n : Nat), s5 = .int .i64 (n : Int) ∧ s6 = .int .i64 (i : Int) ∧ i ≤ L.length ∧ L.length - i ≤ kx ∧ Aside (n = (shown (L.take i)).length ∧ Below w.heap.size w wr))
  case atStart => exact ⟨0, 0, rfl, rfl, Nat.zero_le _, Nat.le_refl _, rfl, Below.refl _ _⟩
  case round =>
    obtain ⟨i, n, rfl, rfl, hi, hkx, A⟩ := hrel
    obtain ⟨u, hu⟩ : ∃ u, u = wr := ⟨_, rfl⟩
    subst hu
    have p0 := (HM.out.2.later A.out.2).c0
    by_cases hlt : i < L.length
    · have hltz : decide ((i : Int) < (L.length : Int)) = true := by simp; omega
      have hltn : decide (i < L.length) = true := decide_eq_true hlt
      have ei : ((i : Int)).toNat = i := by omega
      have pi : (0 : Int) ≤ (i : Int) := by omega
      have bi : (i : Int) < (L.length : Int) := by omega
      obtain ⟨⟨⟨a, s⟩, ⟨c, ⟨t, b⟩⟩⟩, hl⟩ : ∃ l, Aside (L[i]? = some l) := ⟨L[i], List.getElem?_eq_getElem hlt⟩
      obtain ⟨blk, off, rfl, f0, f1, f2, f3, f4⟩ := (rowIn encQ_len (HM.out.2.later A.out.2).row).mark hl.out
      clear f3 f4
      by_cases hc : c.size = 0
      · have hce := emptyYes hc
        go_wp2
        go_roundg (L.length - (i + 1))
        case measure => omega
        case rel =>
          refine ⟨i + 1, n, rfl, by go_num, by omega, Nat.le_refl _, ?_, A.out.2⟩
          rw [shown_take hl.out, if_neg (by simpa using hc), List.append_nil]
          exact A.out.1
      · have hce := emptyNo hc
        have hs := shown_at hl.out hc
        rw [← A.out.1] at hs
        have hnN : n < N := by rw [← hN.out]; exact (List.getElem?_eq_some_iff.1 hs).1
        have en : ((n : Int)).toNat = n := by omega
        have pn : (0 : Int) ≤ (n : Int) := by omega
        have bn : (n : Int) < (N : Int) := by omega
        have dn : decide ((N : Int) ≤ (n : Int)) = false := by simp; omega
        have dm : decide (N ≤ n) = false := decide_eq_false (by omega)
        obtain ⟨g, o, rfl, h1⟩ := (HM.out.1.later A.out.2).get cellsM_len hs
        have x0 : u.cell? ⟨g, o + n * 3, none⟩ = some (.int .i64 a) := h1 0 _ rfl
        have x1 : u.cell? ⟨g, o + n * 3 + 1, none⟩ = some (.string s) := h1 1 _ rfl
        have x2 : u.cell? ⟨g, o + n * 3 + 2, none⟩ = some (.string c) := h1 2 _ rfl
        have q0 : (a != a) = false := by simp
        have q1 : (s.toList == s.toList) = true := by simp
        have q2 : (c.toList == c.toList) = true := by simp
        clear h1 hs
        go_wp2_with fail
        go_quiet (fail)
        clear x0 x1 x2 f0 f1 f2 q0 q1 q2 hce
        go_wp2
        go_roundg (L.length - (i + 1))
        case measure => omega
        case rel =>
          refine ⟨i + 1, n + 1, by go_num, by go_num, by omega, Nat.le_refl _, ?_, ⟨A.out.2.os, A.out.2.tape, A.out.2.output, A.out.2.size, A.out.2.block⟩⟩
          rw [shown_take hl.out, if_pos hc, List.length_append, A.out.1]
          rfl
    · have hltz : decide ((i : Int) < (L.length : Int)) = false := by simp; omega
      have hltn : decide (i < L.length) = false := decide_eq_false hlt
      have hnN : n = N := by rw [A.out.1, List.take_of_length_le (by omega)]; exact hN.out
      have dn : ((n : Int) == (N : Int)) = true := by simp [hnN]
      clear hnN
      go_wp2
      go_ret
      exact ⟨rfl, A.out.2⟩
end Go.Proofs.YtfpmmgboodcfiaaDoor
