import Derived.Test.YtehighgebbdenaaGreatDoorVp32
import Derived.Test.YtehighgebbdenaaGreatDoorVp33
section
set_option linter.unusedVariables false
set_option linter.unusedSimpArgs false
namespace Go.Proofs.YtehighgebbdenaaGreatDoor
open Go.RowKit Go.Lib Go.Sort Go.Maps
open scoped Classical
attribute [local go_sem] Oper.semAt_some
def FindOut (w : World) (qs : List Plc) (nms : List (List UInt8)) (e : Ending) (w' : World) : Prop :=
  ((∃ b, e = .returned (.tuple #[.int .i64 b, .bool true]) ∧ WalkTo qs 0 nms b) ∨ (e = .returned (.tuple #[.int .i64 0, .bool false]) ∧ ∃ pre nm rest b, pre ++ nm :: rest = nms ∧ WalkTo qs 0 pre b ∧ NoLead qs b nm)) ∧ Below w.heap.size w w'
structure FindAt (w4 : World) (S B : Nat) (node : Int) (W : World) : Prop where
  node : Boxed W (S + 1 + 1) 3 (.int .i64 node)
  r0 : Boxed W S 3 (.int .i64 0)
  r1 : Boxed W (S + 1) 4 (.bool false)
  size : w4.heap.size ≤ W.heap.size
  keep : Keeps (fun k => k = S + 1 + 1 ∨ k = B + 1) w4 W
theorem FindAt.grow {w4 : World} {S B : Nat} (hSB : S + 1 + 1 < B) {node : Int} {X Y : World} {row : Option Nat} (h : FindAt w4 S B node X) (hg : X.grownBy Y row) (hr : ∀ r, row = some r → r = B + 1 ∨ (w4.heap.size ≤ r ∧ ∃ o : Obj, X.heap[r]? = some o ∧ o.isCells = false)) : FindAt w4 S B node Y := by
  have bx : ∀ {k : Nat} {t : TypeId} {v : Value}, Boxed X k t v → k ≠ B + 1 → Boxed Y k t v := fun {k t v} hb hk => hb.kept hg (fun e => by
    rcases hr k e.symm with q | ⟨_, o, ho, hc⟩
    · exact hk q
    · unfold Boxed at hb
      rw [hb] at ho
      cases ho
      cases hc)
  refine ⟨bx h.node (by omega), bx h.r0 (by omega), bx h.r1 (by omega), Nat.le_trans h.size hg.size, ⟨hg.os.trans h.keep.os, hg.tape.trans h.keep.tape, hg.output.trans h.keep.output, Nat.le_trans h.keep.size hg.size, fun k hk hs => ?_⟩⟩
  rw [← h.keep.block k hk hs]
  refine hg.block k (by have := h.size; omega) (fun e => ?_)
  rcases hr k e.symm with q | ⟨q, _⟩
  · exact hs (.inr q)
  · omega
theorem FindAt.own (w4 : World) (S B : Nat) (hSB : S + 1 + 1 < B) (qs : List Plc) : OwnM w4.heap.size (fun r => r = B + 1) (fun pre W => ∃ node, FindAt w4 S B node W ∧ WalkTo qs 0 pre node) := fun pre X Y row ⟨node, h, hw⟩ hg hr => ⟨node, h.grow hSB hg hr, hw⟩
def LostAt (w4 : World) (S B : Nat) (qs : List Plc) (c : Code) (pre : List (List UInt8)) (W : World) : Prop := c = .ret ∧ (∃ p0 x b node, pre = p0 ++ [x] ∧ WalkTo qs 0 p0 b ∧ NoLead qs b x ∧ FindAt w4 S B node W)
theorem LostAt.own (w4 : World) (S B : Nat) (hSB : S + 1 + 1 < B) (qs : List Plc) (c : Code) : OwnM w4.heap.size (fun r => r = B + 1) (LostAt w4 S B qs c) := fun pre X Y row ⟨hc, p0, x, b, node, h1, h2, h3, h4⟩ hg hr => ⟨hc, p0, x, b, node, h1, h2, h3, h4.grow hSB hg hr⟩
theorem PlsAt.boxes {w W : World} {v : Value} {qs : List Plc} {T : Nat → Prop} (h : PlsAt w v qs) (hk : Keeps T w W) (hT : ∀ k, T k → ∃ t u, Boxed w k t u) : PlsAt W v qs := by
  rcases h with ⟨h1, h2⟩ | ⟨g, cap, h1, hg, hc⟩
  · exact .inl ⟨h1, h2⟩
  · refine .inr ⟨g, cap, h1, Nat.lt_of_lt_of_le hg hk.size, fun j u hj => ?_⟩
    have hne : ¬ T g := fun q => by
      obtain ⟨t, u', hb⟩ := hT g q
      cases qs with
      | nil => simp [flat] at hj
      | cons a r =>
        have k := hc 2 (.string a.2.2) rfl
        unfold Boxed at hb
        simp [World.cell?, hb] at k
    exact (World.cell?_of_block (a := ⟨g, j, none⟩) (hk.block g hg hne)).trans (hc j u hj)
set_option maxRecDepth 100000 in
set_option maxHeartbeats 8000000 in
theorem find_in (w : World) (br bt bm n : Nat) (v : Value) (f : Sta) (h : ViewAt w br bt bm n v f) (qs : List Plc) (hq : IsPlaces f qs) (hql : qs.length ≤ 300) (path : ByteArray) (nm : ByteArray) (hp : path.data.toList = 47 :: nm.data.toList) (hne : nm.data.toList ≠ []) (hsz : path.size ≤ 1000000)
    (htab : Lib.TabIs Tryz.prog w "internal/strconv.uint64pow10" .u64 Lib.pow10Tab) (m : Int) (hmax : w.cell? ⟨13, 0, none⟩ = some (.int .i64 m)) :
    Calls Tryz.prog 33 #[.pointer (some ⟨br, 0, none⟩), .string path] w (FindOut w qs (cutP 47 nm.data.toList)) := by
  have HT : Aside (Lib.TabBelow Tryz.prog w.heap.size w "internal/strconv.uint64pow10" .u64 Lib.pow10Tab) := Lib.tabBelow_of_tabIs htab
  have hc := fun u => Tryz.strings_CutPrefix path ⟨#[47]⟩ u
  have e47 : (⟨#[47]⟩ : ByteArray).data.toList = [47] := rfl
  have ht : Lib.trimPrefix (47 :: nm.data.toList) [47] = nm.data.toList := by simp [Lib.trimPrefix, Lib.hasPrefix]
  have hh : Lib.hasPrefix (47 :: nm.data.toList) [47] = true := by simp [Lib.hasPrefix]
  rw [e47, hp, ht, hh, bytes_back'] at hc
  have hnb : nm.toList.isEmpty = false := empty_no hne
  have hnz : nm.size ≤ 1000000 := by have h1 := listLen path; have h2 := listLen nm; rw [hp, List.length_cons] at h1; omega
  have H : Aside (ViewAt w br bt bm n v f ∧ IsPlaces f qs ∧ (∀ p ∈ qs, FineQ p) ∧ w.cell? ⟨13, 0, none⟩ = some (.int .i64 m)) := ⟨h, hq, fineQ_of h.shown hq, hmax⟩
  have H1 : Aside (∀ W, Below w.heap.size w W → Calls Tryz.prog 89 #[.pointer (some ⟨br, 0, none⟩)] W fun e w' => e = .returned (.pointer (some ⟨bt, 0, none⟩)) ∧ w' = W) := fun W hW => treeOf_any W br bt bm n v f (h.later hW)
  have H3 : Aside (∀ W, Below w.heap.size w W → Calls Tryz.prog 42 #[.pointer (some ⟨bt, 0, none⟩)] W fun e w' => ∃ u, e = .returned u ∧ Aside (PlsAt w' u qs ∧ Below W.heap.size W w')) := fun W hW => placesV W br bt bm n v f (h.later hW) qs hq
  clear h hq hp hne hsz htab hmax e47 ht hh
  obtain ⟨S, hS⟩ : ∃ S, S = w.heap.size := ⟨_, rfl⟩
  refine (callsIn_wide (n := 4)).1 ?_
  refine callsIn_of_wp_marks Tryz.func33 rfl trivial ?_ rfl
  simp only [Tryz.ntmps33, List.size_toArray, List.length_cons, List.length_nil, Nat.reduceAdd, Nat.reduceSub, Array.replicate_succ, Array.replicate_zero, List.push_toArray, List.append_toArray, List.nil_append, List.cons_append]
  gi_wp2_with (refine ⟨trivial, ?_⟩; gi_at_call 90; refine ((callsIn_wide (n := 4 - 1)).2 (hc _)).mono ?_; rintro e w1 ⟨rfl, rfl⟩)
  obtain ⟨U, hU⟩ : ∃ U, U = ((w.alloc (.cells #[.int .i64 0] 3)).alloc (.cells #[.bool false] 4)).alloc (.cells #[.int .i64 0] 3) := ⟨_, rfl⟩
  rw [← hU, ← hS]
  have hbU : Below w.heap.size w U := by rw [hU]; exact (((Below.refl _ w).alloc (Nat.le_refl _) _).alloc (by simp) _).alloc (by simp; omega) _
  have hsU : U.heap.size = S + 3 := by rw [hU, hS]; simp
  have u0 : Boxed U S 3 (.int .i64 0) := by
    have := (blk2 w (.cells #[.int .i64 0] 3) (.cells #[.bool false] 4)).1
    rw [hU, hS]; exact (Below.heap_alloc _ _ _ (by simp; omega)).trans this
  have u1 : Boxed U (S + 1) 4 (.bool false) := by
    have := (blk2 w (.cells #[.int .i64 0] 3) (.cells #[.bool false] 4)).2
    rw [hU, hS]; exact (Below.heap_alloc _ _ _ (by simp)).trans this
  have u2 : Boxed U (S + 1 + 1) 3 (.int .i64 0) := by
    have := heap_alloc_new ((w.alloc (.cells #[.int .i64 0] 3)).alloc (.cells #[.bool false] 4)) (.cells #[.int .i64 0] 3)
    simp only [World.size_alloc] at this
    rw [hU, hS]; exact this
  have h1 := H1.out U hbU
  have h3 := H3.out U hbU
  have HS : Aside (S = w.heap.size ∧ U.heap.size = S + 3 ∧ Below w.heap.size w U ∧ Boxed U S 3 (.int .i64 0) ∧ Boxed U (S + 1) 4 (.bool false) ∧ Boxed U (S + 1 + 1) 3 (.int .i64 0)) := ⟨hS, hsU, hbU, u0, u1, u2⟩
  clear hU hc hS hsU hbU u0 u1 u2
  refine ⟨trivial, ?_⟩
  refine ((callsIn_wide (n := 3)).2 h1).mono ?_
  clear h1
  rintro e w2 ⟨rfl, hw2⟩
  obtain rfl := hw2.symm
  clear hw2
  gi_wp2_with (first
    | (refine ⟨trivial, ?_⟩; gi_at_call 42; refine ((callsIn_wide (n := 4 - 1)).2 h3).mono ?_; rintro e w3 ⟨u, rfl, H4⟩; obtain ⟨ao, cap, rfl, hP⟩ := H4.out.1.isIn)
    | (refine ⟨trivial, ?_⟩; gi_at_call 91; refine ((callsIn_wide (n := 4 - 1)).2 (splitSeq_any _ nm)).mono ?_; rintro e w4 ⟨rfl, rfl⟩))
  obtain ⟨B, hB⟩ : ∃ B, B = w3.heap.size := ⟨_, rfl⟩
  obtain ⟨w4, hw4⟩ : ∃ w4, w4 = ((((w3.alloc (.cells #[.slice ao qs.length cap] 103)).alloc (.cells #[.string nm] 9)).alloc (.cells #[.string ⟨#[47]⟩] 9)).alloc (.cells #[.int .i64 0] 3)) := ⟨_, rfl⟩
  have e4 := blk4 w3 (.cells #[.slice ao qs.length cap] 103) (.cells #[.string nm] 9) (.cells #[.string ⟨#[47]⟩] 9) (.cells #[.int .i64 0] 3)
  have hs4 : w4.heap.size = B + 4 := by rw [hw4, hB]; simp
  have hb34 : Below w3.heap.size w3 w4 := by rw [hw4]; exact ((((Below.refl _ w3).alloc (Nat.le_refl _) _).alloc (by simp) _).alloc (by simp; omega) _).alloc (by simp; omega) _
  rw [← hw4, ← hB] at e4
  rw [← hw4, ← hB]
  obtain ⟨k1, k2, k3, k4⟩ := e4
  have hSB : S + 1 + 1 < B := by have := H4.out.2.size; have := HS.out.2.1; omega
  have hU4 : Below U.heap.size U w4 := H4.out.2.trans (hb34.mono H4.out.2.size)
  have hbw : Below w.heap.size w w4 := HS.out.2.2.1.trans (hU4.mono HS.out.2.2.1.size)
  have hP4 : PlsAt w4 (.slice ao qs.length cap) qs := H4.out.1.later hb34
  have F4 : FindAt w4 S B 0 w4 := ⟨(hU4.block _ HS.out.2.2.2.2.2.lt).trans HS.out.2.2.2.2.2, (hU4.block _ HS.out.2.2.2.1.lt).trans HS.out.2.2.2.1, (hU4.block _ HS.out.2.2.2.2.1.lt).trans HS.out.2.2.2.2.1, Nat.le_refl _, Keeps.refl _ _⟩
  have hmax4 : w4.cell? ⟨13, 0, none⟩ = some (.int .i64 m) := cellKept hbw H.out.2.2.2
  have hGB : B + 1 ≠ 13 := by have := World.block_lt_of_cell? w ⟨13, 0, none⟩ H.out.2.2.2; have := HS.out.1; dsimp only at *; omega
  have X4 : SplAt (B + 1) m nm w4 := ⟨k2, k3, k4, hmax4⟩
  have H5 : Aside (PlsAt w4 (.slice ao qs.length cap) qs ∧ Boxed w4 B 103 (.slice ao qs.length cap) ∧ Below w.heap.size w w4 ∧ w.heap.size ≤ S ∧ Boxed w4 (B + 1) 9 (.string nm)) := ⟨hP4, k1, hbw, by have := HS.out.1; omega, k2⟩
  clear hw4 hB k1 k2 k3 k4 hP h3 hb34 hU4 hmax4 hP4
  refine range_M (M := fun r => r = B + 1) (by omega) (gf := 212) (lb := #[.pointer (some ⟨B + 1 + 1, 0, none⟩), .pointer (some ⟨B + 1, 0, none⟩), .pointer (some ⟨B + 1 + 1 + 1, 0, none⟩)]) rfl (enters_of Tryz.func212 (by kernel_rfl) rfl) (fun r e => by rw [e, hs4]; omega)
    (split_seq (4 - 1) (by omega) (B + 1) m hGB nm hnz w4 X4) KeepS.trans (fun W l r o hl ho => fun k hk => ?kb) rfl
    (fun pre W => ∃ node, FindAt w4 S B node W ∧ WalkTo qs 0 pre node) (LostAt w4 S B qs) (FindAt.own w4 S B hSB qs) (LostAt.own w4 S B hSB qs) ⟨0, F4, rfl⟩
    (fun x a' W => ∃ Bx, w4.heap.size ≤ Bx ∧ Boxed W Bx 9 (.string ⟨x.toArray⟩) ∧ a' = { tmps := #[.pointer (some ⟨br, 0, none⟩), .string path, undef, undef, .pointer (some ⟨S, 0, none⟩), .pointer (some ⟨S + 1, 0, none⟩), .string nm, .bool true, .pointer (some ⟨S + 1 + 1, 0, none⟩), .pointer (some ⟨B, 0, none⟩), .pointer (some ⟨Bx, 0, none⟩), undef, undef, .tuple #[.string nm, .bool true], .string path, .tuple #[.string nm, .bool true], .string nm, .bool true, .pointer (some ⟨br, 0, none⟩), .bool false, .bool false, .bool true, .bool false, .bool false, .string nm, .bool false, undef, .pointer (some ⟨br, 0, none⟩), .pointer (some ⟨bt, 0, none⟩), .slice ao qs.length cap, .string nm, .func (.func 212) #[] #[.pointer (some ⟨B + 1 + 1, 0, none⟩), .pointer (some ⟨B + 1, 0, none⟩), .pointer (some ⟨B + 1 + 1 + 1, 0, none⟩)], .string ⟨x.toArray⟩, undef, undef, undef, undef, undef, undef, undef, undef, undef, undef, undef, undef, undef, undef], defers := [] })
    ?ax ?assign ?body ?done ?stop
  case kb =>
    refine World.putObj_heap_other (fun e => ?_)
    have := World.block_lt_of_cell? w4 ⟨13, 0, none⟩ X4.max
    dsimp only at this
    rcases hk with q | q | q | q <;> omega
  case ax =>
    intro x a' _ X Y row hs hg hr
    obtain ⟨Bx, f1, f2, f3⟩ := hs
    refine ⟨Bx, f1, f2.kept hg (fun e => ?_), f3⟩
    rcases hr Bx e.symm with q | ⟨_, o, ho, hc⟩
    · omega
    · unfold Boxed at f2
      rw [f2] at ho
      cases ho
      cases hc
  case assign =>
    rintro l pre x W K ⟨node, hF, hW⟩ hK
    have hK' : Aside _ := hK
    have hsz := hF.size
    clear hK
    gi_wp2
    refine hK'.out _ _ ((KeepsOthers.alloc _ _).from _) (fun k hk => ?_) ⟨node, hF.grow hSB (World.grownBy_alloc W _ none) (fun r e => by cases e), hW⟩ ⟨W.heap.size, by omega, heap_alloc_new W _, rfl⟩
    refine Below.heap_alloc _ _ _ ?_
    have := World.block_lt_of_cell? w4 ⟨13, 0, none⟩ X4.max
    dsimp only at this
    rcases hk with q | q | q | q <;> omega
  case body =>
    rintro l pre x a' W hl ⟨node, hF, hW⟩ ⟨Bx, hBx, hE, rfl⟩ hlt
    have hBW : Below w.heap.size w W := H5.out.2.2.1.trans (hF.keep.below H5.out.2.2.1.size (fun k e => by have := H5.out.2.2.2.1; rcases e with q | q <;> omega))
    have hPW : PlsAt W (.slice ao qs.length cap) qs := H5.out.1.boxes hF.keep (fun k e => e.elim (fun q => by rw [q]; exact ⟨_, _, F4.node⟩) (fun q => by rw [q]; exact ⟨_, _, H5.out.2.2.2.2⟩))
    have hent := entries_any W (.slice ao qs.length cap) qs node hPW hql H.out.2.2.1 (HT.out W hBW)
    have g9 : W.cell? ⟨B, 0, none⟩ = some (.slice ao qs.length cap) := (World.cell?_of_block (a := ⟨B, 0, none⟩) (hF.keep.block B (by omega) (by rintro (q | q) <;> omega))).trans H5.out.2.1.cell
    have g8 := hF.node.cell
    have HW : Aside (FindAt w4 S B node W ∧ WalkTo qs 0 pre node ∧ Boxed W Bx 9 (.string ⟨x.toArray⟩) ∧ B + 4 ≤ Bx ∧ w4.heap.size = B + 4) := ⟨hF, hW, hE, by omega, hs4⟩
    clear hBW hPW hF hW hE
    gi_wp2_with (refine ⟨trivial, ?_⟩; gi_at_call 88; refine (CallsIn.inRound l ((callsIn_wide (n := 4 - 1 - 1 - 1)).2 hent)).mono ?_; rintro e w5 ⟨v', es, rfl, HE⟩; obtain ⟨ao', cap', rfl, hEin⟩ := HE.out.1.isIn)
    have hidx := idxEn_any (fun e => decide (e.1 = ⟨x.toArray⟩)) 93 #[.pointer (some ⟨Bx, 0, none⟩)] (enters_of Tryz.func93 (by kernel_rfl) rfl) ao' cap' w5.heap.size es w5 (Nat.le_refl _) (fun W' y _ hW' => named_any W' Bx y ⟨x.toArray⟩ (cellKept hW' (cellKept HE.out.2.2 HW.out.2.2.1.cell))) (by
      obtain ⟨R, hR, _, rfl⟩ := HE.out.2.1
      rw [List.length_map, hR.length_eq]
      have := List.length_filter_le (fun p : Plc => !(p.2.1 != node)) qs
      omega) hEin
    refine ⟨trivial, ?_⟩
    refine (CallsIn.inRound l ((callsIn_wide (n := 1)).2 hidx)).mono ?_
    clear hidx hent g8 g9
    rintro e w6 ⟨r, rfl, HR⟩
    have hb6 : Below W.heap.size W w6 := HE.out.2.2.trans (HR.out.2.mono HE.out.2.2.size)
    have F6 : FindAt w4 S B node w6 := HW.out.1.grow hSB (grown_of_below hb6) (fun q e => by cases e)
    have HF : Aside (FindAt w4 S B node w6 ∧ Below W.heap.size W w6) := ⟨F6, hb6⟩
    have xb : ∀ y : ByteArray, y.data.toList = x ↔ y = ⟨x.toArray⟩ := fun y => ⟨fun e => by rw [← e], fun e => by rw [e]⟩
    rcases HR.out.1 with ⟨hr, ha⟩ | ⟨k, e, hr, hk, he, hfst⟩
    · subst hr
      have hno : NoLead qs node x := ⟨es, HE.out.2.1, fun e he q => by
        have := ha e he
        rw [decide_eq_false_iff_not] at this
        exact this ((xb _).1 q)⟩
      have HN := Lib.hid hno
      have r0 := F6.r0.cell
      have r0f := F6.r0.frozen
      have r1 := F6.r1.cell
      have r1f := F6.r1.frozen
      clear ha hno F6 hb6 xb
      gi_wp2
      have g1 := grownBy_setCell' w6 S (.int .i64 0)
      have g2 := grownBy_setCell' (w6.setCell ⟨S, 0, none⟩ (.int .i64 0)) (S + 1) (.bool false)
      have kO : KeepsOthers W ((w6.setCell ⟨S, 0, none⟩ (.int .i64 0)).setCell ⟨S + 1, 0, none⟩ (.bool false)) := ((KeepsOthers.of_grownBy (grown_of_below HF.out.2) (fun j o e => by cases e)).trans (KeepsOthers.setCell _ _ _)).trans (KeepsOthers.setCell _ _ _)
      refine ⟨kO.from _, rfl, pre, x, node, node, rfl, HW.out.2.1, HN.out, ?_⟩
      have F6 := HF.out.1
      have q0 := F6.r0.set (.int .i64 0)
      have q1 := F6.r1.other (B' := S) (by omega) (.int .i64 0)
      have q2 := F6.node.other (B' := S) (by omega) (.int .i64 0)
      refine ⟨q2.other (by omega) _, q0.other (by omega) _, q1.set _, by have := F6.size; have := g1.size; have := g2.size; omega, ⟨g2.os.trans (g1.os.trans F6.keep.os), g2.tape.trans (g1.tape.trans F6.keep.tape), g2.output.trans (g1.output.trans F6.keep.output), by have := F6.size; have := g1.size; have := g2.size; omega, fun k hk hs => ?_⟩⟩
      by_cases k0 : k = S
      · rw [k0]; exact (q0.other (B' := S + 1) (by omega) (.bool false)).trans F4.r0.symm
      · by_cases k1 : k = S + 1
        · rw [k1]; exact (q1.set (.bool false)).trans F4.r1.symm
        · rw [g2.block k (by have := F6.size; have := g1.size; omega) (fun e => by cases e; exact k1 rfl), g1.block k (by have := F6.size; omega) (fun e => by cases e; exact k0 rfl)]
          exact F6.keep.block k hk hs
    · have hlead : LeadsTo qs node x e.2 := ⟨es, k, e, HE.out.2.1, hk, (xb _).2 (of_decide_eq_true he), fun j y hj hy q => by
        have := hfst j y hj hy
        rw [decide_eq_false_iff_not] at this
        exact this ((xb _).1 q), rfl⟩
      have HN := Lib.hid hlead
      obtain ⟨g', off', hao', q0, q1⟩ := (hEin.later HR.out.2).get hk
      subst hao'
      have hkl : k < es.length := (List.getElem?_eq_some_iff.1 hk).1
      have d0 : decide (r < 0) = false := by simp; omega
      have ek : r.toNat = k := by omega
      have p0 : (0 : Int) ≤ r := by omega
      have p1 : r < (es.length : Int) := by omega
      have n8 := F6.node.cell
      have n8f := F6.node.frozen
      clear hlead hk he hfst F6 hb6 xb
      gi_wp2
      have g1 := grownBy_setCell' w6 (S + 1 + 1) (.int .i64 e.2)
      have kO : KeepsOthers W (w6.setCell ⟨S + 1 + 1, 0, none⟩ (.int .i64 e.2)) := (KeepsOthers.of_grownBy (grown_of_below HF.out.2) (fun j o e => by cases e)).trans (KeepsOthers.setCell _ _ _)
      have F6 := HF.out.1
      refine ⟨kO.from _, fun k hk => ?_, e.2, ⟨F6.node.set _, F6.r0.other (by omega) _, F6.r1.other (by omega) _, by have := F6.size; have := g1.size; omega, ⟨g1.os.trans F6.keep.os, g1.tape.trans F6.keep.tape, g1.output.trans F6.keep.output, by have := F6.size; have := g1.size; omega, fun k hk hs => ?_⟩⟩, HW.out.2.1.snoc HN.out⟩
      · have hG := World.block_lt_of_cell? w4 ⟨13, 0, none⟩ X4.max
        have hG2 := World.block_lt_of_cell? w ⟨13, 0, none⟩ H.out.2.2.2
        dsimp only at hG hG2
        have hwS := H5.out.2.2.2.1
        have hWs := HW.out.1.size
        have hkW : k < W.heap.size := by rcases hk with q | q | q | q <;> omega
        have hkS : k ≠ S + 1 + 1 := by rcases hk with q | q | q | q <;> omega
        rw [g1.block k (by have := HF.out.2.size; omega) (fun e => by cases e; exact hkS rfl)]
        exact HF.out.2.block k hkW
      · rw [g1.block k (by have := F6.size; omega) (fun e => by cases e; exact hs (.inl rfl))]
        exact F6.keep.block k hk hs
  case done =>
    rintro D xs W hD hall ⟨node, hF, hW⟩ hK
    subst hall
    have g8 := hF.node.cell
    have r0 := hF.r0.cell
    have r0f := hF.r0.frozen
    have r1 := hF.r1.cell
    have r1f := hF.r1.frozen
    gi_wp2
    have b0 : Boxed (W.setCell ⟨S, 0, none⟩ (.int .i64 node)) S 3 (.int .i64 node) := hF.r0.set _
    have b1 : Boxed (W.setCell ⟨S, 0, none⟩ (.int .i64 node)) (S + 1) 4 (.bool false) := hF.r1.other (by omega) _
    obtain ⟨V, hV⟩ : ∃ V, V = (W.setCell ⟨S, 0, none⟩ (.int .i64 node)).setCell ⟨S + 1, 0, none⟩ (.bool true) := ⟨_, rfl⟩
    have v0 : Boxed V S 3 (.int .i64 node) := by rw [hV]; exact b0.other (by omega) _
    have v1 : Boxed V (S + 1) 4 (.bool true) := by rw [hV]; exact b1.set _
    have g1 := grownBy_setCell' W S (.int .i64 node)
    have g2 := grownBy_setCell' (W.setCell ⟨S, 0, none⟩ (.int .i64 node)) (S + 1) (.bool true)
    rw [← hV] at g2
    have hDl := (Array.getElem?_eq_some_iff.1 hK).1
    have hDV : V.heap[D]? = some (.deferred (some [])) := by
      rw [g2.block D (by have := g1.size; omega) (fun e => by cases e; omega), g1.block D hDl (fun e => by cases e; omega)]
      exact hK
    have hBW : Below w.heap.size w W := H5.out.2.2.1.trans (hF.keep.below H5.out.2.2.1.size (fun k e => by have := H5.out.2.2.2.1; rcases e with q | q <;> omega))
    have hBV : Below w.heap.size w V := (hBW.grown g1 hBW.size (fun k e => by cases e; exact H5.out.2.2.2.1)).grown g2 (by have := hBW.size; have := g1.size; omega) (fun k e => by cases e; have := H5.out.2.2.2.1; omega)
    rw [← hV]
    refine ⟨by simp, .inl ⟨_, _, rfl, run_takeDeferred hDV, ?_⟩⟩
    have z0 : (V.putObj D (.deferred none)).cell? ⟨S, 0, none⟩ = some (.int .i64 node) := (World.cell?_of_block (a := ⟨S, 0, none⟩) (World.putObj_heap_other (show S ≠ D by omega))).trans v0.cell
    have z1 : (V.putObj D (.deferred none)).cell? ⟨S + 1, 0, none⟩ = some (.bool true) := (World.cell?_of_block (a := ⟨S + 1, 0, none⟩) (World.putObj_heap_other (show S + 1 ≠ D by omega))).trans v1.cell
    refine ⟨.tuple #[.int .i64 node, .bool true], by simp [results, Tryz.f33, go_sem, z0, z1], .inl ⟨node, rfl, hW⟩, hBV.trans (belowK_b (w := w) (Nat.le_refl _) V D _ _ (by have := H5.out.2.2.2.1; omega) hDV rfl rfl)⟩
  case stop =>
    rintro D c pre W hD ⟨rest, hrest⟩ ⟨rfl, p0, x, b, node, hp, hw0, hno, hF⟩ hK
    have r0 := hF.r0.cell
    have r1 := hF.r1.cell
    gi_wp2
    have hBW : Below w.heap.size w W := H5.out.2.2.1.trans (hF.keep.below H5.out.2.2.1.size (fun k e => by have := H5.out.2.2.2.1; rcases e with q | q <;> omega))
    refine ⟨by simp, .inl ⟨_, _, rfl, run_takeDeferred hK, ?_⟩⟩
    have z0 : (W.putObj D (.deferred none)).cell? ⟨S, 0, none⟩ = some (.int .i64 0) := (World.cell?_of_block (a := ⟨S, 0, none⟩) (World.putObj_heap_other (show S ≠ D by omega))).trans r0
    have z1 : (W.putObj D (.deferred none)).cell? ⟨S + 1, 0, none⟩ = some (.bool false) := (World.cell?_of_block (a := ⟨S + 1, 0, none⟩) (World.putObj_heap_other (show S + 1 ≠ D by omega))).trans r1
    refine ⟨.tuple #[.int .i64 0, .bool false], by simp [results, Tryz.f33, go_sem, z0, z1], .inr ⟨rfl, p0, x, rest, b, ?_, hw0, hno⟩, hBW.trans (belowK_b (w := w) (Nat.le_refl _) W D _ _ (by have := H5.out.2.2.2.1; omega) hK rfl rfl)⟩
    rw [← hrest, hp, List.append_assoc]
    rfl
end Go.Proofs.YtehighgebbdenaaGreatDoor
end
section
set_option linter.unusedVariables false
set_option linter.unusedSimpArgs false
namespace Go.Proofs.YtehighgebbdenaaGreatDoor
open Go.RowKit Go.Lib Go.Sort Go.Maps
open scoped Classical
theorem up_stops (n : Nat) (hn : 1 ≤ n) (B1 B2 bt bm nn : Nat) (f : Sta) (node : Int) (L : List Plc) (hup : UpL f node L) (G : Good f) (hwf : Wf node) (S : Nat → Prop) (h1S : S B1) (h2S : S B2) (h3S : S bt) (h4S : S bm) (w : World) (hS : ∀ k, S k → k < w.heap.size)
    (c1 : w.cell? ⟨B1, 0, none⟩ = some (.pointer (some ⟨bt, 0, none⟩))) (c2 : w.cell? ⟨B2, 0, none⟩ = some (.int .i64 node)) (ct : w.cell? ⟨bt, 0, none⟩ = some (.map (some bm))) (hm : MapAt Tryz.prog 3 w bm nn f) :
    SeqStopsK Fence.wide n Tryz.prog 162 #[.pointer (some ⟨B1, 0, none⟩), .pointer (some ⟨B2, 0, none⟩)] (fun x : Nat => #[encP (L.getD x zeroP)]) (KeepUp S) (fun ys => ys = List.range L.length) (fun pre => ∃ k, k ≤ L.length ∧ pre = List.range k) L.length w := fun l J Jx W hW hJ _ hY h0 =>
  up1_in n hn l B1 B2 bt bm nn f node L hup G hwf S h1S h2S h3S h4S J Jx hY W hJ (fun k hk => Nat.lt_of_lt_of_le (hS k hk) hW.size) ((hW.cell (p := ⟨B1, 0, none⟩) (hS _ h1S)).trans c1) ((hW.cell (p := ⟨B2, 0, none⟩) (hS _ h2S)).trans c2) ((hW.cell (p := ⟨bt, 0, none⟩) (hS _ h3S)).trans ct) (hm.same (hW.block bm (hS _ h4S))) h0
theorem upward_any (w : World) (bt : Nat) (node : Int) : Calls Tryz.prog 97 #[.pointer (some ⟨bt, 0, none⟩), .int .i64 node] w fun e w' => e = .returned (.func (.func 162) #[] #[.pointer (some ⟨w.heap.size, 0, none⟩), .pointer (some ⟨w.heap.size + 1, 0, none⟩)]) ∧ w' = (w.alloc (.cells #[.pointer (some ⟨bt, 0, none⟩)] 66)).alloc (.cells #[.int .i64 node] 3) := by
  go_enter Tryz.func97, Tryz.ntmps97
  go_wp2
  go_ret
  exact ⟨rfl, rfl⟩
theorem path_out (w : World) (br bt bm n : Nat) (v : Value) (f : Sta) (h : ViewAt w br bt bm n v f) (node : Int) (hwf : Wf node) (h0 : node ≠ 0) (hout : ¬ Ins f node 0) :
    Calls Tryz.prog 37 #[.pointer (some ⟨br, 0, none⟩), .int .i64 node] w fun e w' => e = .returned (.tuple #[.string ⟨#[]⟩, .bool false]) ∧ Below w.heap.size w w' := by
  have h1 := treeOf_any w br bt bm n v f h
  have h2 := insideV w br bt bm n v f h node 0 hwf
  rw [decide_eq_false hout] at h2
  have d0 : (node == 0) = false := by simp [h0]
  clear h hout hwf h0
  go_enter Tryz.func37, Tryz.ntmps37
  go_wp2_with fail
  refine h1.mono ?_
  clear h1
  rintro e w1 ⟨rfl, hw⟩
  obtain rfl := hw.symm
  clear hw
  go_wp2_with fail
  refine h2.mono ?_
  clear h2
  rintro e w2 ⟨rfl, hb⟩
  go_wp2
  go_ret2
  exact ⟨rfl, hb⟩
end Go.Proofs.YtehighgebbdenaaGreatDoor
end
section
set_option linter.unusedVariables false
set_option linter.unusedSimpArgs false
namespace Go.Proofs.YtehighgebbdenaaGreatDoor
open Go.Shelf Go.RowKit Go.Lib Go.Sort Go.Maps
open scoped Classical
theorem row_close {α : Type} {P : Program} {enc : α → List Value} {k : Nat} {S T : TypeId} {z : Value} {bytes : Nat} (hS : P.underlying S = some (.slice T)) (hinfo : (P.info? T).map (fun i => (i.zero, i.size, i.bytes)) = some (some z, k, bytes)) (hb1 : bytes ≤ 1000) (hk0 : 0 < k) (hzc : z.cells.size = k) (hlen : ∀ x, (enc x).length = k) (hone : ∀ x, ∀ v ∈ enc x, v.oneCell' = true)
    {wr w1 : World} {B n : Nat} {v : Value} {xs : List Value} (h : wr.ownsRow B T k v n xs) (hB : B ≤ wr.heap.size) (hb : Below wr.heap.size wr w1) (e : α) (hn : n ≤ 1000) (ty : TypeId) :
    ∃ v' w3, (Builtin.append_ #[S, S] ty #[v, .slice (some ⟨w1.heap.size, 0, none⟩) 1 1]).run P (w1.alloc (.cells (enc e).toArray T)) = .ok v' w3 ∧ Aside (w3.ownsRow B T k v' (n + 1) (xs ++ enc e) ∧ (∀ q, q < w1.heap.size → v.ownBlock ≠ some q → w3.heap[q]? = w1.heap[q]?) ∧ w1.heap.size ≤ w3.heap.size ∧ Below B wr w3) := by
  have hrow : (w1.alloc (.cells (enc e).toArray T)).ownsRow B T k v n xs := by
    refine ownsHeld h (fun q hq => ?_)
    have := (h.lt q hq).2
    rw [Below.heap_alloc _ _ _ (by have := hb.size; omega), hb.block q this]
  have hin : InRow enc (w1.alloc (.cells (enc e).toArray T)) (some ⟨w1.heap.size, 0, none⟩) [e] := by
    refine .inr ⟨w1.heap.size, 0, rfl, fun j u hj => ?_⟩
    have hn := heap_alloc_new w1 (.cells (enc e).toArray T)
    simp only [flat, List.flatMap_cons, List.flatMap_nil, List.append_nil] at hj
    simp only [World.cell?, Nat.zero_add]
    rw [hn]
    simpa using hj
  obtain ⟨v', w3, hrun, hown, hgr⟩ := append_row (enc := enc) (k := k) (S := S) (T := T) hS hinfo hb1 hk0 hzc hlen hone hrow (by omega) (by rw [World.size_alloc]; have := hb.size; omega) (some ⟨w1.heap.size, 0, none⟩) 1 [e] (by simp) hin (fun q => by cases q) ty
  have hbw : Below wr.heap.size wr (w1.alloc (.cells (enc e).toArray T)) := hb.alloc hb.size _
  refine ⟨v', w3, hrun, ?_, fun q hq hne => ?_, ?_, ?_⟩
  · simpa [flat] using hown
  · rw [hgr.block q (by rw [World.size_alloc]; omega) (fun q' => hne q'.symm), Below.heap_alloc _ _ _ hq]
  · have := hgr.size; rw [World.size_alloc] at this; omega
  · exact (hbw.mono hB).grown hgr (by have := hbw.size; omega) (fun q hq => (h.lt q hq).1)
theorem infoI : (Tryz.prog.info? 3).map (fun i => (i.zero, i.size, i.bytes)) = some (some (.int .i64 0), 1, 8) := by kernel_rfl
def encI (k : Int) : List Value := [.int .i64 k]
def lostL (f : Sta) [DecidablePred fun x => Ins f x 1] (L : List Plc) : List Int := (L.filter (fun p => decide (Ins f p.1 1))).map (·.1)
def IntsAt (w : World) (v : Value) (xs : List Int) : Prop := ∃ B, w.ownsRow B 3 1 v xs.length (flat encI xs)
def LostOut (w : World) (xs : List Int) (e : Ending) (w' : World) : Prop := ∃ v', e = .returned v' ∧ Aside (IntsAt w' v' xs ∧ Below w.heap.size w w')
set_option maxRecDepth 100000 in
set_option maxHeartbeats 4000000 in
theorem lost_any (w : World) (br bt bm n : Nat) (v : Value) (f : Sta) (h : ViewAt w br bt bm n v f) (L : List Plc) (hL : IsPlaces f L) (hl : L.length ≤ 300) :
    Calls Tryz.prog 40 #[.pointer (some ⟨br, 0, none⟩)] w (LostOut w (lostL f L)) := by
  have h1 := treeOf_any w br bt bm n v f h
  have h2 := placesV w br bt bm n v f h L hL
  have H : Aside (ViewAt w br bt bm n v f ∧ (∀ p ∈ L, FineQ p)) := ⟨h, fineQ_of h.shown hL⟩
  clear h hL
  go_enter Tryz.func40, Tryz.ntmps40
  go_wp2_with fail
  refine h1.mono ?_
  clear h1
  rintro e w1 ⟨rfl, hw⟩
  obtain rfl := hw.symm
  clear hw
  go_wp2_with fail
  refine h2.mono ?_
  clear h2
  rintro e w2 ⟨u, rfl, H2⟩
  obtain ⟨ao, cap, rfl, hP⟩ := H2.out.1.isIn
  have HP : Aside (PlsIn w2 ao L) := hP
  clear hP
  obtain ⟨B, hB⟩ : ∃ B, Aside (B = w2.heap.size) := ⟨_, rfl⟩
  go_wp2
  go_loopg [4, 14] L.length (fun kx s4 s14 wr => ∃ (k : Nat), s14 = .int .i64 (k : Int) ∧ k ≤ L.length ∧ L.length - k ≤ kx ∧ Aside (Below w2.heap.size w2 wr ∧ wr.ownsRow B 3 1 s4 (lostL f (L.take k)).length (flat encI (lostL f (L.take k)))))
  case atStart => exact ⟨0, rfl, Nat.zero_le _, Nat.le_refl _, Below.refl _ _, World.ownsRow_nil _ _ _ _⟩
  case round =>
    obtain ⟨k, rfl, hk, hkx, A⟩ := hrel
    by_cases hlt : k < L.length
    · have hltz : decide ((k : Int) < (L.length : Int)) = true := by simp; omega
      have ek : ((k : Int)).toNat = k := by omega
      have pk : (0 : Int) ≤ (k : Int) := by omega
      have bk : (k : Int) < (L.length : Int) := by omega
      obtain ⟨⟨nd, j, s⟩, hp⟩ : ∃ p, Aside (L[k]? = some p) := ⟨L[k], List.getElem?_eq_getElem hlt⟩
      obtain ⟨blk, off, hao, r0, r1, r2⟩ := (HP.out.later A.out.1).get hp.out
      subst hao
      dsimp only at r0 r1 r2
      have hfq := H.out.2 _ (List.mem_of_getElem? hp.out)
      have hwf : Wf nd := wf_of (by have := hfq.1; dsimp only at this; omega) (by have := hfq.2.1; dsimp only at this; omega)
      have hbX : Below w.heap.size w (wr.alloc (.cells #[.int .i64 nd, .int .i64 j, .string s] 106)) := (H2.out.2.trans (A.out.1.mono H2.out.2.size)).alloc (by have := H2.out.2.size; have := A.out.1.size; omega) _
      have hi := insideV _ br bt bm n v f (H.out.1.later hbX) nd 1 hwf
      clear hbX hfq hwf
      have hlost : lostL f (L.take (k + 1)) = lostL f (L.take k) ++ (if Ins f nd 1 then [nd] else []) := by
        unfold lostL
        rw [List.take_add_one, hp.out, List.filter_append, List.map_append]
        congr 1
        by_cases q : Ins f nd 1 <;> simp [q]
      by_cases hq : Ins f nd 1
      · rw [decide_eq_true hq] at hi
        rw [if_pos hq] at hlost
        have HL := Lib.hid hlost
        clear hq hlost
        go_wp2_with fail
        refine hi.mono ?_
        clear hi
        rintro e w4 ⟨rfl, hb4⟩
        have hbw : Below wr.heap.size wr w4 := ((Below.refl _ wr).alloc (Nat.le_refl _) _).trans (hb4.mono (by rw [World.size_alloc]; omega))
        have c0 : w4.cell? ⟨wr.heap.size, 0, none⟩ = some (.int .i64 nd) := cellKept hb4 (by simp [go_sem])
        obtain ⟨v', w6, hrun, HO⟩ := row_close (enc := encI) (k := 1) (S := 93) (T := 3) Tryz.underlying93 infoI (by omega) (by omega) rfl (fun _ => rfl) (fun x u hu => by simp only [encI, List.mem_cons, List.not_mem_nil, or_false] at hu; rw [hu]; rfl) A.out.2 (by rw [hB.out]; exact A.out.1.size) hbw nd (by unfold lostL; rw [List.length_map]; have := List.length_filter_le (fun p : Plc => decide (Ins f p.1 1)) (L.take k); rw [List.length_take] at this; omega) 93
        unfold encI at hrun
        have hbw4 : Aside (Below wr.heap.size wr w4) := hbw
        clear hb4 hbw r0 r1 r2
        go_wp2_with (at_builtin; refine Lib.wpList_append_run _ rfl _ _ _ _ rfl _ _ rfl rfl _ _ hrun ?_)
        clear hrun
        go_roundg (L.length - (k + 1))
        case measure => omega
        case rel =>
          have hb6 : Below w2.heap.size w2 w6 := A.out.1.trans (by have := HO.out.2.2.2; rw [hB.out] at this; exact this)
          refine ⟨k + 1, by go_num, by omega, Nat.le_refl _, hb6, ?_⟩
          rw [HL.out, List.length_append, flat_append]
          exact HO.out.1
      · rw [decide_eq_false hq] at hi
        rw [if_neg hq, List.append_nil] at hlost
        have HL := Lib.hid hlost
        clear hq hlost
        go_wp2_with fail
        refine hi.mono ?_
        clear hi
        rintro e w4 ⟨rfl, hb4⟩
        go_wp2
        go_roundg (L.length - (k + 1))
        case measure => omega
        case rel =>
          have hbw : Below wr.heap.size wr w4 := ((Below.refl _ wr).alloc (Nat.le_refl _) _).trans (hb4.mono (by rw [World.size_alloc]; omega))
          refine ⟨k + 1, by go_num, by omega, Nat.le_refl _, A.out.1.trans (hbw.mono A.out.1.size), ?_⟩
          rw [HL.out]
          exact ownsHeld A.out.2 (fun q hq => hbw.block q (A.out.2.lt q hq).2)
    · have hltz : decide ((k : Int) < (L.length : Int)) = false := by simp; omega
      go_wp2
      go_ret
      have hkz : k = L.length := by omega
      subst hkz
      have hrow := A.out.2
      rw [List.take_length] at hrow
      exact ⟨_, rfl, ⟨B, hrow⟩, H2.out.2.trans (A.out.1.mono H2.out.2.size)⟩
end Go.Proofs.YtehighgebbdenaaGreatDoor
end
