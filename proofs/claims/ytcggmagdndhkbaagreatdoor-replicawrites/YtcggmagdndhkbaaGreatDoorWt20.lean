import Derived.Test.YtcggmagdndhkbaaGreatDoorWt07
import Derived.Test.YtcggmagdndhkbaaGreatDoorWt11
import Derived.Test.YtcggmagdndhkbaaGreatDoorWt15
import Derived.Test.YtcggmagdndhkbaaGreatDoorWt17
import Derived.Test.YtcggmagdndhkbaaGreatDoorWt18
import Derived.Test.YtcggmagdndhkbaaGreatDoorWt19
import Derived.Sort.OwnSortedInts
import Derived.Maps.RangeWalk
import Derived.LoopTactic
import Derived.Laws.AppendOwn
section
set_option linter.unusedVariables false
namespace Go.Proofs.YtcggmagdndhkbaaGreatDoor
open Go.RowKit Go.Shelf Go.Maps
open scoped Classical
attribute [local go_sem] Oper.semAt_some
def AllT (f : TSta) (ks : List Int) : Prop := ks.Nodup ∧ ∀ k, k ∈ ks ↔ (f k).isSome = true
def CollT (D : DataW Unit) (f : TSta) (left : Lit → Bool) (ks : List Int) : Prop :=
  ks.Nodup ∧ (∀ k ∈ ks, (f k).isSome = true ∧ left (.int .i64 k) = false) ∧ ∀ k, Wf k → has D (.int .i64 k) = true → left (.int .i64 k) = false → k ∈ ks
theorem collT_start (D : DataW Unit) (f : TSta) : CollT D f (has D) [] := ⟨List.nodup_nil, fun p hp => by simp at hp, fun k _ h1 h2 => by rw [h1] at h2; cases h2⟩
theorem CollT.step {D : DataW Unit} {f : TSta} {left : Lit → Bool} {ks : List Int} (h : CollT D f left ks) {x : Int} (hl : left (.int .i64 x) = true) (hf : (f x).isSome = true) : CollT D f (fun z => left z && !z.sameKey (.int .i64 x)) (ks ++ [x]) := by
  obtain ⟨h1, h2, h3⟩ := h
  refine ⟨?_, fun p hp => ?_, fun k hw hh hlk => ?_⟩
  · rw [List.nodup_append]
    refine ⟨h1, by simp, fun a ha b hb => ?_⟩
    simp only [List.mem_singleton] at hb
    subst hb
    intro e
    subst e
    have := (h2 _ ha).2
    rw [hl] at this
    cases this
  · rcases List.mem_append.1 hp with hp | hp
    · have := h2 p hp
      exact ⟨this.1, by show (left (.int .i64 p) && _) = false; rw [this.2]; rfl⟩
    · simp only [List.mem_singleton] at hp
      subst hp
      refine ⟨hf, ?_⟩
      show (left (.int .i64 p) && !Lit.sameKey (.int .i64 p) (.int .i64 p)) = false
      rw [same_int]
      simp
  · have hlk : (left (.int .i64 k) && !Lit.sameKey (.int .i64 k) (.int .i64 x)) = false := hlk
    rw [same_int] at hlk
    by_cases e : k = x
    · subst e
      simp
    · refine List.mem_append_left _ (h3 k hw hh ?_)
      simpa [e] using hlk
theorem CollT.all {D : DataW Unit} {f : TSta} {left : Lit → Bool} {ks : List Int} (h : CollT D f left ks) (hr : ReadsT D f) (G : GoodT f) (hl : ∀ kl, left kl = false) : AllT f ks := by
  refine ⟨h.1, fun p => ⟨fun hp => (h.2.1 p hp).1, fun hp => ?_⟩⟩
  obtain ⟨q, hq⟩ := Option.isSome_iff_exists.1 hp
  have hw := G p q hq
  exact h.2.2 p hw (by rw [hr.has hw, hp]) (hl _)
set_option maxRecDepth 100000 in
set_option maxHeartbeats 2000000 in
theorem keys1_in (F : Fence) (n : Nat) (h8 : F.fn 138) (hro : F.round = none) (hn : 1 ≤ n) (l Bm b nn : Nat) (D0 : DataW Unit) (f : TSta) (hr : ReadsT D0 f) (G : GoodT f) (J Jx : List Int → World → Prop)
    (hY : ∀ pre x W, J pre W → pre.length < nn → YieldAt F (n - 1) Tryz.prog l #[.int .i64 x] W fun e W' =>
      (e = .returned (.bool true) ∧ J (pre ++ [x]) W' ∧ KeepsWalks W W') ∨ (e = .returned (.bool false) ∧ Jx (pre ++ [x]) W'))
    (W : World) (hJ : AbidesFrom W.heap.size J) (hm : W.cell? ⟨Bm, 0, none⟩ = some (.map (some b))) (hown : W.ownsMap Tryz.prog 3 ptrR b nn D0) (h0 : J [] W) :
    CallsIn F n Tryz.prog 138 #[.func (.yield l) #[] #[], .pointer (some ⟨Bm, 0, none⟩)] W fun e W' => (∃ v, e = .returned v) ∧
      ((∃ xs, AllT f xs ∧ J xs W') ∨ (∃ pre, True ∧ Jx pre W')) := by
  refine callsIn_of_wp Tryz.func138 rfl h8 ?_ hro
  simp only [Tryz.ntmps138, List.size_toArray, List.length_cons, List.length_nil, Nat.reduceAdd, Nat.reduceSub, Array.replicate_succ, Array.replicate_zero, List.push_toArray, List.append_toArray, List.nil_append, List.cons_append]
  have hsn := hown.size_le
  gi_wp2_with (first
    | (gi_at_range; refine wpListIn_range_own _ rfl _ 81 rfl 3 119 (int_keyed Tryz.underlying3) Tryz.underlying81 _ b nn _ rfl hown ?_; intro w0 hrg0 hg0 hs0)
    | gi_in)
  go_frame
  gi_loopw [3] (fun _ wr => ∃ (left : Lit → Bool) (cnt : Nat) (ps : List Int), wr.ranges Tryz.prog 3 ptrR b W.heap.size nn D0 left cnt ∧ ps.length + cnt ≤ nn ∧ CollT D0 f left ps ∧ J ps wr)
    (fun _ wr => wr.rangeLeft b W.heap.size)
  case atStart =>
    exact ⟨_, _, [], hrg0, by simpa using hsn, collT_start D0 f, hJ [] W w0 none h0 hg0 (fun r e => by cases e)⟩
  case round =>
    obtain ⟨left, cnt, ps, hrg, hcs, hC, hJs⟩ := hrel
    gi_wp2_with (first
      | (gi_at_next; refine wpListIn_next_ranges _ rfl _ rfl 3 (int_keyed Tryz.underlying3) ptrR (Value.int .i64) encT_ (fun key kl hk => by obtain ⟨x, hx, _⟩ := Maps.keyOf_int_inv Tryz.underlying3 hk; exact ⟨x, hx⟩) (fun v y hv => by obtain ⟨c, rfl, _⟩ := ptrR_inv hv; exact ⟨c, rfl⟩) b W.heap.size nn _ _ _ rfl hrg ?_ ?_)
      | gi_in)
    · intro hc0 hl0
      gi_wp2
      go_end0
      exact ⟨⟨_, rfl⟩, .inl ⟨ps, hC.all hr G hl0, hJs⟩⟩
    · intro x c1 kl yd yp w2 cnt2 hkey hlk hv hat hrg2 hlt hg2 hs2 hen
      obtain ⟨x', ex, rfl, hwx⟩ := Maps.keyOf_int_inv Tryz.underlying3 hkey
      obtain rfl : x = x' := by simpa using ex
      have hfx : (f x).isSome = true := by rw [← hr.has hwx]; exact has_true_of_atKey hat
      have hJ2 : J ps w2 := hJ ps wr w2 (some W.heap.size) hJs hg2 (fun r e => by cases e; exact ⟨Nat.le_refl _, hrg.iter_walk⟩)
      obtain ⟨fn, tmps, assign, body, hy, hR⟩ := hY ps x _ hJ2 (by omega)
      have hC2 := hC.step hlk hfx
      have H3 : Aside (RoundIn F (n - 1) Tryz.prog l fn tmps assign body _ _) := hR
      clear hs2 hR hJ2
      gi_wp2
      refine RoundIn.mono H3.out ?_
      rintro e W3 (⟨rfl, hJ4, hk4⟩ | ⟨rfl, hJx4⟩)
      · gi_wp2
        have hrg4 := hrg2.of_walks hk4
        go_roundw
        case rel => exact ⟨_, cnt2, ps ++ [x], hrg4, by simp; omega, hC2, hJ4⟩
        case measure => rw [hrg4.left_eq, hrg.left_eq]; exact hlt
      · gi_wp2
        refine bodyPost_ret (results_none rfl _ _ _) rfl ?_
        exact ⟨⟨_, rfl⟩, .inr ⟨ps ++ [x], trivial, hJx4⟩⟩
set_option maxHeartbeats 1000000 in
theorem keysT_in (F : Fence) (n : Nat) (hf : F.fn 68) (hro : F.round = none) (mb : Option Nat) (w : World) :
    CallsIn F n Tryz.prog 68 #[.map mb] w fun e w' => e = .returned (.func (.func 138) #[] #[.pointer (some ⟨w.heap.size, 0, none⟩)]) ∧ w' = w.alloc (.cells #[.map mb] 81) := by
  refine callsIn_of_wp Tryz.func68 rfl hf ?_ hro
  simp only [Tryz.ntmps68, List.size_toArray, List.length_cons, List.length_nil, Nat.reduceAdd, Nat.reduceSub, Array.replicate_succ, Array.replicate_zero, List.push_toArray, List.append_toArray, List.nil_append, List.cons_append]
  gi_wp2
  go_ret
  exact ⟨rfl, rfl⟩
theorem keys_stops (F : Fence) (n : Nat) (h8 : F.fn 138) (hro : F.round = none) (hn : 1 ≤ n) (Bm b nn : Nat) (f : TSta) (w : World) (hBm : Bm < w.heap.size) (hm : w.cell? ⟨Bm, 0, none⟩ = some (.map (some b))) (hM : TMapAt w b nn f) :
    SeqStopsK F n Tryz.prog 138 #[.pointer (some ⟨Bm, 0, none⟩)] (fun x : Int => #[.int .i64 x]) KeepsWalks (fun xs => AllT f xs) (fun _ => True) nn w := fun l J Jx W hW hJ _ hY h0 => by
  have hbl := hM.lt
  obtain ⟨⟨D, hown, hr⟩, G⟩ := hM.same (hW.block b hbl)
  exact keys1_in F n h8 hro hn l Bm b nn D f hr G J Jx hY W hJ ((hW.cell (p := ⟨Bm, 0, none⟩) hBm).trans hm) hown h0
theorem infoI : (Tryz.prog.info? 3).map (fun i => (i.zero, i.size, i.bytes)) = some (some (.int .i64 0), 1, 8) := by kernel_rfl
theorem lit_int (w : World) (x : Int) (j : Nat) (u : Value) (hj : ([Value.int .i64 x] : List Value)[j]? = some u) : (w.alloc (.cells #[.int .i64 x] 3)).cell? ((⟨w.heap.size, 0, none⟩ : Addr).add j) = some u := by
  rw [Addr.add_lit, Nat.zero_add]
  have h := heap_alloc_new w (.cells #[.int .i64 x] 3)
  simp only [World.cell?, h]
  rw [← hj]
  simp
theorem one_int (x : Int) : ∀ u ∈ ([Value.int .i64 x] : List Value), u.oneCell' = true := by simp [Value.oneCell']
def intsV (ks : List Int) : List Value := ks.map fun k => .int .i64 k
set_option maxRecDepth 100000 in
set_option maxHeartbeats 2000000 in
theorem appendInts_any (w : World) (Bm b nn : Nat) (f : TSta) (hBm : Bm < w.heap.size) (hm : w.cell? ⟨Bm, 0, none⟩ = some (.map (some b))) (hM : TMapAt w b nn f) (hnn : nn ≤ 2000000) :
    Calls Tryz.prog 199 #[.slice none 0 0, .func (.func 138) #[] #[.pointer (some ⟨Bm, 0, none⟩)]] w fun e w' => ∃ v ps, e = .returned v ∧ AllT f ps ∧ ps.length ≤ nn ∧ w'.ownsRow w.heap.size 3 1 v ps.length (intsV ps) ∧ Below w.heap.size w w' := by
  obtain ⟨i0, hi, hz0, hz1, hz2⟩ := info_parts infoI
  refine (callsIn_wide (n := 4)).1 ?_
  refine callsIn_of_wp_marks Tryz.func199 rfl trivial ?_ rfl
  simp only [Tryz.ntmps199, List.size_toArray, List.length_cons, List.length_nil, Nat.reduceAdd, Nat.reduceSub, Array.replicate_succ, Array.replicate_zero, List.push_toArray, List.append_toArray, List.nil_append, List.cons_append]
  gi_wp2
  obtain ⟨w1, hw1⟩ : ∃ w1, w1 = w.alloc (.cells #[.slice none 0 0] 42) := ⟨_, rfl⟩
  rw [← hw1]
  have hB0 : Below w.heap.size w w1 := by rw [hw1]; exact (Below.refl w.heap.size w).alloc (Nat.le_refl _) _
  have hs1 : w1.heap.size = w.heap.size + 1 := by rw [hw1]; simp
  obtain ⟨B, hB⟩ : ∃ B, B = w.heap.size := ⟨_, rfl⟩
  have e1 : Boxed w1 B 42 (.slice none 0 0) := by rw [hw1, hB]; exact heap_alloc_new w _
  rw [← hB] at hB0 hs1 hBm ⊢
  have HB : Aside (B = w.heap.size) := hB
  have hBw : B ≤ w.heap.size := by omega
  clear hB
  have hm1 := (hB0.cell (p := ⟨Bm, 0, none⟩) hBm).trans hm
  have hM1 := hM.same (hB0.block b (by have := HB.out; have := hM.lt; omega))
  clear hw1 hm hM
  refine wpIn_rangeFunc_ownH rfl (by omega) (gf := 138) (lb := #[.pointer (some ⟨Bm, 0, none⟩)]) rfl trivial (enters_of Tryz.func138 (by kernel_rfl) rfl)
    (keys_stops Fence.wide (4 - 1) trivial rfl (by omega) Bm b nn f w1 (by omega) hm1 hM1) walksK_t (walksK_b (w := w1)) (Below.refl _ _) (fun _ => rfl)
    (fun pre W => ((∃ v, Boxed W B 42 v ∧ W.ownsRow B 3 1 v pre.length (intsV pre) ∧ pre.length ≤ nn)) ∧ (w1.heap.size ≤ W.heap.size ∧ Below B w W))
    (fun _ _ _ => False)
    (OwnFrom.and (Own.from (holdsRow_own B B 42 3 1 (fun pre => pre.length) (fun pre => intsV pre) (fun pre _ => pre.length ≤ nn)) _) (OwnFrom.and (fun _ X Y row hs hg _ => Nat.le_trans hs hg.size) (ownFrom_below (by omega) (by omega))))
    (fun _ _ _ _ _ hs _ _ => hs)
    ⟨⟨_, e1, World.ownsRow_nil w1 B _ _, Nat.zero_le _⟩, Nat.le_refl _, hB0⟩
    (fun x a' W => a' = { tmps := #[.slice none 0 0, .func (.func 138) #[] #[.pointer (some ⟨Bm, 0, none⟩)], .pointer (some ⟨B, 0, none⟩), undef, .slice none 0 0, .int .i64 x, .func (.func 138) #[] #[.pointer (some ⟨Bm, 0, none⟩)], .int .i64 x, undef, undef, undef, undef, undef], defers := [] })
    (fun x a' => Own.from (fun _ X Y row hs hg hr => hs) _)
    ?assign ?body ?done ?stop
  case assign =>
    rintro l pre x W K ⟨⟨v, hv, hrow, hpl⟩, hsz, hBW⟩ hK
    have hK' : Aside _ := hK
    have hBs : B ≤ W.heap.size := by omega
    clear hK
    gi_wp2
    refine hK'.out _ _ ((KeepsOthers.refl _).from _) (KeepsOthers.refl _).walks ⟨⟨v, hv, hrow, hpl⟩, hsz, hBW⟩ rfl
  case body =>
    rintro l pre x a' W hl _ ⟨⟨v, hv, hrow, hpl⟩, hsz, hBW⟩ rfl hlt
    have g1 := hv.cell
    have hBs : B ≤ W.heap.size := by omega
    gi_wp2_with (gi_at_builtin; refine wpListIn_append_own _ rfl _ _ 42 rfl B 3 i0 _ 1 8 Tryz.underlying42 hi hz0 hz1 hz2 rfl (by omega) _ _ _ rfl (hrow.alloc _) ⟨W.heap.size, 0, none⟩ 1 1 [.int .i64 x] rfl rfl (lit_int W x) (one_int x) (by simp only [maxLen]; omega) (by omega) (by simp; omega) ?_; intro v' w2 hown' hgrow _; obtain ⟨g', cap', rfl⟩ := ownsRow_succ hown'; obtain ⟨hv1, hv2, hr2, hk2, hb2⟩ := hv.appended (by decide) hrow hBs (Nat.le_refl _) hown' hgrow; have hc1 := hv1.cell; have hf1 := hv1.frozen)
    exact ⟨hk2.from _, hk2.walks, ⟨⟨_, hv2, by rw [List.length_append, List.length_singleton]; unfold intsV at *; rw [List.map_append]; simpa using hr2, by simp; omega⟩, by have := hk2.size; omega, hBW.trans hb2⟩⟩
  case done =>
    rintro D ys W hD hall ⟨⟨v, hv, hrow, hpl⟩, hsz, hBW⟩ hK
    have g1 := hv.cell
    gi_wp2
    refine ⟨by simp, .inl ⟨_, _, rfl, run_takeDeferred hK, ?_⟩⟩
    refine ⟨v, by simp [results, Tryz.f199, go_sem], v, ys, rfl, hall, hpl, ?_, ?_⟩
    · rw [← HB.out]
      exact ownsRow_putObj hrow _ hK rfl
    · rw [← HB.out]
      exact hBW.trans (belowK_b (w := w) (by omega) W D _ _ (by have := HB.out; omega) hK rfl rfl)
  case stop =>
    rintro D c pre W _ _ h _
    exact h.elim
set_option maxHeartbeats 1000000 in
theorem collectInts_any (w : World) (Bm b nn : Nat) (f : TSta) (hBm : Bm < w.heap.size) (hm : w.cell? ⟨Bm, 0, none⟩ = some (.map (some b))) (hM : TMapAt w b nn f) (hnn : nn ≤ 2000000) :
    Calls Tryz.prog 136 #[.func (.func 138) #[] #[.pointer (some ⟨Bm, 0, none⟩)]] w fun e w' => ∃ v ps, e = .returned v ∧ AllT f ps ∧ ps.length ≤ nn ∧ w'.ownsRow w.heap.size 3 1 v ps.length (intsV ps) ∧ Below w.heap.size w w' := by
  have ha := appendInts_any w Bm b nn f hBm hm hM hnn
  go_enter Tryz.func136, Tryz.ntmps136
  go_wp2_with fail
  refine ha.mono ?_
  clear ha
  rintro e w1 ⟨v, ps, rfl, h⟩
  have HH : Aside _ := h
  clear h
  go_wp2
  go_ret
  exact ⟨v, ps, rfl, HH.out⟩
theorem rise_sorted {ks : List Int} (hn : ks.Nodup) : (ks.mergeSort fun x y => decide (x ≤ y)).Pairwise (· < ·) := by
  have h1 := List.pairwise_mergeSort (le := fun x y : Int => decide (x ≤ y)) (fun a b c h1 h2 => by simp only [decide_eq_true_eq] at *; omega) (fun a b => by simp only [Bool.or_eq_true, decide_eq_true_eq]; omega) ks
  have h2 : (ks.mergeSort fun x y => decide (x ≤ y)).Nodup := (List.mergeSort_perm ks _).nodup_iff.2 hn
  exact (h1.and h2).imp (fun {a b} h => by have h1 := h.1; have h2 := h.2; simp only [decide_eq_true_eq] at h1; omega)
set_option maxHeartbeats 1000000 in
theorem sortedInts_any (w : World) (Bm b nn : Nat) (f : TSta) (hBm : Bm < w.heap.size) (hm : w.cell? ⟨Bm, 0, none⟩ = some (.map (some b))) (hM : TMapAt w b nn f) (hnn : nn ≤ 100000) :
    Calls Tryz.prog 67 #[.func (.func 138) #[] #[.pointer (some ⟨Bm, 0, none⟩)]] w fun e w' => ∃ v ks, e = .returned v ∧ ks.Pairwise (· < ·) ∧ (∀ k, k ∈ ks ↔ (f k).isSome = true) ∧ ks.length ≤ nn ∧ w'.ownsRow w.heap.size 3 1 v ks.length (intsV ks) ∧ Below w.heap.size w w' := by
  have hc := collectInts_any w Bm b nn f hBm hm hM (by omega)
  go_enter Tryz.func67, Tryz.ntmps67
  go_wp2_with fail
  refine hc.mono ?_
  clear hc
  rintro e w1 ⟨v, ps, rfl, hall, hpl, hown, hb⟩
  rcases hown.2 with ⟨rfl, h0⟩ | ⟨g, cap, cur, rfl, hbg, hgb, r1, r2, r3, r4⟩
  · have hps : ps = [] := List.length_eq_zero_iff.1 h0
    subst hps
    have HH : Aside ((∀ k, k ∈ ([] : List Int) ↔ (f k).isSome = true) ∧ Below w.heap.size w w1) := ⟨hall.2, hb⟩
    have hs := Tryz.slices_Sort_int_none none 0 w1
    clear hall hown hb h0
    go_wp2_with fail
    refine hs.mono ?_
    clear hs
    rintro e w' ⟨rfl, rfl⟩
    go_wp2
    go_ret
    exact ⟨_, [], rfl, List.Pairwise.nil, HH.out.1, Nat.zero_le _, World.ownsRow_nil _ _ _ _, HH.out.2⟩
  · have hH : Sort.Holds (Value.int .i64) w1 g 0 ps.toArray := holds_of_blockI hgb (by simpa [intsV] using r4)
    have hgl : g < w1.heap.size := (Array.getElem?_eq_some_iff.1 hgb).1
    have hs := Tryz.slices_Sort_int g 0 cap ps w1 hH hgl (by omega)
    have hlen : (ps.mergeSort fun x y => decide (x ≤ y)).length = ps.length := List.length_mergeSort _
    have H1 : Aside (∀ n os, (Sort.grow (Sort.putRow (Value.int .i64) (Sort.ahead w1 n) g 0 (ps.mergeSort fun x y => decide (x ≤ y)).toArray) os).ownsRow w.heap.size 3 1 (.slice (some ⟨g, 0, none⟩) ps.length cap) ps.length (intsV (ps.mergeSort fun x y => decide (x ≤ y))) ∧ Below w.heap.size w (Sort.grow (Sort.putRow (Value.int .i64) (Sort.ahead w1 n) g 0 (ps.mergeSort fun x y => decide (x ≤ y)).toArray) os)) := fun n os =>
      ⟨ownsRow_sortedI hlen hbg hgb r1 r2 r3, hb.grown (grownBy_sortedI _) hb.size (fun j hj => by cases hj; exact hbg)⟩
    have HH : Aside (AllT f ps ∧ ps.length ≤ nn) := ⟨hall, hpl⟩
    have HL : Aside ((ps.mergeSort fun x y => decide (x ≤ y)).length = ps.length) := hlen
    clear hall hown hb hpl hbg hgl hgb r1 r2 r3 r4 hH hlen
    go_wp2_with fail
    refine hs.mono ?_
    clear hs
    rintro e w2 ⟨rfl, n, os, rfl⟩
    have H2 := H1.out n os
    generalize Sort.grow (Sort.putRow (Value.int .i64) (Sort.ahead w1 n) g 0 (ps.mergeSort fun x y => decide (x ≤ y)).toArray) os = w2 at H2 ⊢
    have H3 : Aside _ := H2
    clear H1 H2
    go_wp2
    go_ret
    exact ⟨_, ps.mergeSort fun x y => decide (x ≤ y), rfl, rise_sorted HH.out.1.1, fun k => ((List.mergeSort_perm ps _).mem_iff).trans (HH.out.1.2 k), by rw [HL.out]; exact HH.out.2, by rw [HL.out]; exact H3.out.1, H3.out.2⟩
end Go.Proofs.YtcggmagdndhkbaaGreatDoor
end
section
namespace Go.Proofs.YtcggmagdndhkbaaGreatDoor
open Go.RowKit Go.Maps
theorem infoM : (Tryz.prog.info? 137).map (fun i => (i.zero, i.size, i.bytes)) = some (some (.agg #[.int .i64 0, .string ⟨#[]⟩, .string ⟨#[]⟩]), 3, 40) := by kernel_rfl
theorem emptyYes {s : ByteArray} (h : s.size = 0) : s.toList.isEmpty = true := by
  rw [ByteArray.toList_eq]
  have : s.data.toList.length = 0 := by simpa using h
  rw [List.length_eq_zero_iff.1 this]
  rfl
theorem emptyNo {s : ByteArray} (h : s.size ≠ 0) : s.toList.isEmpty = false := by
  rw [ByteArray.toList_eq]
  have : s.data.toList.length ≠ 0 := by simpa using h
  cases hs : s.data.toList with
  | nil => rw [hs] at this; simp at this
  | cons a r => rfl
theorem lit_cellsM (w : World) (a : Int) (s c : ByteArray) (j : Nat) (u : Value) (hj : (cellsM (a, s, c))[j]? = some u) : (w.alloc (.cells #[.int .i64 a, .string s, .string c] 137)).cell? ((⟨w.heap.size, 0, none⟩ : Addr).add j) = some u := by
  rw [Addr.add_lit, Nat.zero_add]
  have h := heap_alloc_new w (.cells #[.int .i64 a, .string s, .string c] 137)
  simp only [World.cell?, h]
  rw [← hj]
  simp [cellsM]
set_option maxRecDepth 100000 in
set_option maxHeartbeats 2000000 in
theorem marks_new (w : World) (bc bm n : Nat) (f : CSta) (hC : CellsAt w bc bm n f) (hn : n ≤ 100000) :
    Calls Tryz.prog 69 #[.pointer (some ⟨bc, 0, none⟩)] w fun e w' => ∃ ao cap qs, e = .returned (.slice ao qs.length cap) ∧ IsMarks f qs ∧ qs.length ≤ n ∧ InRow cellsM w' ao qs ∧ Below w.heap.size w w' ∧ ∀ g o, ao = some ⟨g, o, none⟩ → w.heap.size ≤ g := by
  obtain ⟨i0, hi, hz0, hz1, hz2⟩ := info_parts infoM
  have hall := all_any w bc bm hC.c0
  obtain ⟨⟨D, hown, hr⟩, hg⟩ := hC.map
  have hsn := hown.size_le
  have hlt := hC.lt
  clear hC
  go_enter Tryz.func69, Tryz.ntmps69
  go_wp2_with (first
    | (go_at_call 139; refine hall.mono ?_; clear hall; rintro e w' ⟨rfl, hw'⟩; have hw2 := hw'.symm; subst hw2)
    | (at_range; refine wpList_range_own _ rfl _ 186 rfl 234 236 lawK Tryz.underlying186 _ bm n D rfl hown ?_; intro w0 hrg0 hg0 hs0)
    | go_in)
  go_frame
  have hb0 : Below w.heap.size w w0 := (Below.refl _ w).grown hg0 (Nat.le_refl _) (by intro k hk; cases hk)
  obtain ⟨r, hr0⟩ : ∃ r, Aside (r = w.heap.size) := ⟨_, rfl⟩
  rw [← hr0.out] at hrg0 ⊢
  have H0 : Aside (w0.ranges Tryz.prog 234 mrkR bm r n D (has D) (size D) ∧ Below w.heap.size w w0 ∧ ReadsC D f ∧ GoodC f ∧ bm < w.heap.size) := ⟨hrg0, hb0, hr, hg, hlt.2⟩
  clear hrg0 hg0 hs0 hb0 hr hg hlt hown
  go_loopw [3] (fun s3 wr => ∃ (left : Lit → Bool) (cnt : Nat) (ps : List Mrk) (v : Value), v = s3 ∧ Aside (wr.ranges Tryz.prog 234 mrkR bm r n D left cnt ∧ ps.length + cnt ≤ n ∧ CollM f left ps ∧ wr.ownsRow (r + 1) 137 3 v ps.length (flat cellsM ps) ∧ Below w.heap.size w wr ∧ r < wr.heap.size))
    (fun _ wr => wr.rangeLeft bm r)
  case atStart => exact ⟨_, _, [], _, rfl, ⟨H0.out.1, by simpa using hsn, collM_start H0.out.2.2.1 H0.out.2.2.2.1, World.ownsRow_nil _ _ _ _, H0.out.2.1, H0.out.1.lt⟩⟩
  case round =>
    obtain ⟨left, cnt, ps, v, rfl, A⟩ := hrel
    obtain ⟨u, hu⟩ : ∃ u, u = wr := ⟨_, rfl⟩
    subst hu
    have hrg := A.out.1
    go_wp2_with (first
      | (at_next; refine wpList_next_ranges _ rfl _ rfl 234 lawK mrkR encK encC (fun key kl hk => by obtain ⟨x, _, hx, _⟩ := key_inv hk; exact ⟨x, hx⟩) (fun v y hv => by obtain ⟨c, rfl, _⟩ := mrkR_inv hv; exact ⟨c, rfl⟩) bm r n _ _ _ rfl hrg ?_ ?_)
      | go_in)
    · intro hc0 hl0
      have hall := A.out.2.2.1.all hl0
      have hpn : ps.length ≤ n := by have := A.out.2.1; omega
      have hown := A.out.2.2.2.1
      have hbel := A.out.2.2.2.2.1
      have hr1 := hr0.out
      rcases hown.2 with ⟨rfl, h0⟩ | ⟨g, cap, cur, rfl, hbg, -⟩
      · have hps : ps = [] := List.length_eq_zero_iff.1 h0
        have HH : Aside (IsMarks f [] ∧ Below w.heap.size w u) := ⟨by subst hps; exact hall.marks (List.Perm.refl _) List.Pairwise.nil, hbel⟩
        clear hall hown hbel hps h0 hc0 hl0 hr1
        go_wp2_with (go_at_call 140; refine (sortMk_none none 0 _ _).mono ?_; rintro e w' ⟨rfl, rfl⟩)
        go_ret
        exact ⟨none, 0, [], rfl, HH.out.1, Nat.zero_le _, .inl rfl, HH.out.2, fun g o e => by cases e⟩
      · have hs := sortMk u (r + 1) g cap ps hown (by omega)
        have hgl := (hown.lt g rfl).2
        have HH : Aside (AllM f ps ∧ ps.length ≤ n ∧ Below w.heap.size w u ∧ w.heap.size ≤ g ∧ g < u.heap.size) := ⟨hall, hpn, hbel, by omega, hgl⟩
        clear hall hown hbel hpn hbg hgl hc0 hl0 hr1
        go_wp2_with fail
        refine hs.mono ?_
        clear hs
        rintro e w2 ⟨rfl, qs, hp, hpw, hcells, hk⟩
        have H2 : Aside (IsMarks f qs ∧ qs.length = ps.length ∧ qs.length ≤ n ∧ (∀ j u, (flat cellsM qs)[j]? = some u → w2.cell? ⟨g, j, none⟩ = some u) ∧ Below w.heap.size w w2 ∧ w.heap.size ≤ g) :=
          ⟨HH.out.1.marks hp hpw, hp.length_eq, by have := HH.out.2.1; have := hp.length_eq; omega, hcells, HH.out.2.2.1.trans (hk.below (HH.out.2.2.1.size) (fun k e => by have := HH.out.2.2.2.1; omega)), HH.out.2.2.2.1⟩
        clear hp hpw hcells hk HH
        go_wp2
        go_ret
        exact ⟨_, cap, qs, by rw [H2.out.2.1]; rfl, H2.out.1, H2.out.2.2.1, .inr ⟨g, 0, rfl, fun j u hj => by rw [Nat.zero_add]; exact H2.out.2.2.2.1 j u hj⟩, H2.out.2.2.2.2.1, fun g' o e => by cases e; exact H2.out.2.2.2.2.2⟩
    · intro a nm c t b kl yd yp w2 cnt2 hkey hlk hv hat hrg2 hlt hg2 hs2 hen
      obtain ⟨x', hwx, ex, rfl⟩ := key_inv hkey
      obtain rfl : (a, nm) = x' := encK_inj ex
      obtain ⟨c', ec, ez⟩ := mrkR_inv hv
      obtain rfl : (c, t, b) = c' := encC_inj ec
      obtain rfl : yd = datC (c, t, b) := (Prod.mk.inj ez).1
      have hfx := H0.out.2.2.1.got hwx hat
      have hk2 : Keeps (fun k => k = r) u w2 := (keeps_of_grown hg2).mono (fun k _ e => by cases e; rfl)
      have hb2 : Below w.heap.size w w2 := A.out.2.2.2.2.1.trans (hk2.below A.out.2.2.2.2.1.size (fun k e => by have := hr0.out; omega))
      have ho2 : w2.ownsRow (r + 1) 137 3 v ps.length (flat cellsM ps) := ownsHeld A.out.2.2.2.1 (fun g hg => hk2.block g (A.out.2.2.2.1.lt g hg).2 (by have := (A.out.2.2.2.1.lt g hg).1; omega))
      unfold encK encC at hen ⊢
      dsimp only at hen ⊢
      obtain ⟨S, hS⟩ : ∃ S, Aside (w2.heap.size = S) := ⟨_, rfl⟩
      by_cases hc : c.size = 0
      · have hC2 := A.out.2.2.1.skip H0.out.2.2.2.1 hwx hfx hc
        have hce := emptyYes hc
        have H2 : Aside (w2.ranges Tryz.prog 234 mrkR bm r n D (fun z => left z && !z.sameKey (klit (a, nm))) cnt2 ∧ ps.length + cnt2 ≤ n ∧ CollM f (fun z => left z && !z.sameKey (klit (a, nm))) ps ∧ w2.ownsRow (r + 1) 137 3 v ps.length (flat cellsM ps) ∧ Below w.heap.size w w2 ∧ cnt2 < cnt) := ⟨hrg2, by have := A.out.2.1; omega, hC2, ho2, hb2, hlt⟩
        clear hC2 hrg2 hlt hg2 hs2 hk2 hb2 ho2 hfx hat hv hkey hlk ec ez ex
        go_wp2
        obtain ⟨h1, h2, h3, h4, h5, h6⟩ := H2.out
        refine ⟨⟨_, cnt2, ps, v, rfl, (h1.alloc _).alloc _, h2, h3, (h4.alloc _).alloc _, (h5.alloc h5.size _).alloc (by have := h5.size; simp; omega) _, ((h1.alloc _).alloc _).lt⟩, ?_⟩
        rw [((h1.alloc _).alloc _).left_eq, hrg.left_eq]
        exact h6
      · have hC2 := A.out.2.2.1.step H0.out.2.2.2.1 hwx hlk hfx hc
        have hce := emptyNo hc
        obtain ⟨W3, hW3⟩ : ∃ W3, W3 = (w2.alloc (.cells #[.int .i64 a, .string nm] 234)).alloc (.cells #[.string c, .int .i64 t, .int .i64 b] 236) := ⟨_, rfl⟩
        have hb3 : Below w2.heap.size w2 W3 := by rw [hW3]; exact ((Below.refl _ w2).alloc (Nat.le_refl _) _).alloc (by simp) _
        have hs3 : W3.heap.size = w2.heap.size + 2 := by rw [hW3]; simp
        have q0 : W3.heap[w2.heap.size]? = some (.cells #[.int .i64 a, .string nm] 234 (0, 0)) := by
          rw [hW3, Below.heap_alloc _ _ _ (by simp)]
          exact heap_alloc_new w2 _
        have q1 : W3.heap[w2.heap.size + 1]? = some (.cells #[.string c, .int .i64 t, .int .i64 b] 236 (0, 0)) := by
          have := heap_alloc_new (w2.alloc (.cells #[.int .i64 a, .string nm] 234)) (.cells #[.string c, .int .i64 t, .int .i64 b] 236)
          rw [World.size_alloc] at this
          rw [hW3]
          exact this
        have hrg3 : W3.ranges Tryz.prog 234 mrkR bm r n D (fun z => left z && !z.sameKey (klit (a, nm))) cnt2 := by rw [hW3]; exact (hrg2.alloc _).alloc _
        have ho3 : W3.ownsRow (r + 1) 137 3 v ps.length (flat cellsM ps) := by rw [hW3]; exact (ho2.alloc _).alloc _
        have H2 : Aside (W3.ranges Tryz.prog 234 mrkR bm r n D (fun z => left z && !z.sameKey (klit (a, nm))) cnt2 ∧ ps.length + 1 + cnt2 ≤ n ∧ CollM f (fun z => left z && !z.sameKey (klit (a, nm))) (ps ++ [(a, nm, c)]) ∧ W3.ownsRow (r + 1) 137 3 v ps.length (flat cellsM ps) ∧ Below w.heap.size w W3 ∧ cnt2 < cnt) := ⟨hrg3, by have := A.out.2.1; omega, hC2, ho3, hb2.trans (hb3.mono hb2.size), hlt⟩
        clear hC2 hrg2 hlt hg2 hs2 hk2 hb2 ho2 hfx hat hv hkey hlk ec ez ex hrg3 ho3 hb3
        go_upto_region 6 with fail
        rw [← hW3]
        rw [hS.out] at q0 q1 hs3 ⊢
        have f0 : W3.cell? ⟨S, 0, none⟩ = some (.int .i64 a) := by simp [World.cell?, q0]
        have f1 : W3.cell? ⟨S, 1, none⟩ = some (.string nm) := by simp [World.cell?, q0]
        have f2 : W3.cell? ⟨S + 1, 0, none⟩ = some (.string c) := by simp [World.cell?, q1]
        obtain ⟨X, hX⟩ : ∃ X, Aside (W3.heap.size = X) := ⟨_, rfl⟩
        clear q0 q1 hW3 hen hs3
        have hpn : ps.length + 1 ≤ n := by have := H2.out.2.1; omega
        have hbs : r + 1 ≤ W3.heap.size := H2.out.1.lt
        obtain ⟨va, vc, rfl⟩ := rowIs H2.out.2.2.2.1
        go_wp2_with (at_builtin; refine wpList_append_own _ rfl _ _ 134 rfl (r + 1) 137 i0 _ 3 40 Tryz.underlying134 hi hz0 hz1 hz2 rfl (by omega) _ _ _ rfl (H2.out.2.2.2.1.alloc _) ⟨W3.heap.size, 0, none⟩ 1 1 (cellsM (a, nm, c)) rfl rfl (lit_cellsM W3 a nm c) (cellsM_one _) (by simp only [maxLen]; omega) (by omega) (by simp; omega) ?_)
        intro v2 u2 hown hgrow hnil
        clear hnil f0 f1 f2
        have hrow : ∀ g, (Value.slice va ps.length vc).ownBlock = some g → r + 1 ≤ g := fun g hg => (H2.out.2.2.2.1.lt g hg).1
        have hbm := H0.out.2.2.2.2
        have hr1 := hr0.out
        have h5 := H2.out.2.2.2.2.1
        have hrg4 : u2.ranges Tryz.prog 234 mrkR bm r n D (fun z => left z && !z.sameKey (klit (a, nm))) cnt2 := (H2.out.1.alloc _).kept hgrow (fun e => by have := hrow bm e.symm; omega) (fun e => by have := hrow r e.symm; omega)
        have R4 : Aside (u2.ranges Tryz.prog 234 mrkR bm r n D (fun z => left z && !z.sameKey (klit (a, nm))) cnt2 ∧ (ps ++ [(a, nm, c)]).length + cnt2 ≤ n ∧ CollM f (fun z => left z && !z.sameKey (klit (a, nm))) (ps ++ [(a, nm, c)]) ∧ u2.ownsRow (r + 1) 137 3 v2 (ps ++ [(a, nm, c)]).length (flat cellsM (ps ++ [(a, nm, c)])) ∧ Below w.heap.size w u2 ∧ r < u2.heap.size) := by
          refine ⟨hrg4, by have := H2.out.2.1; simp; omega, H2.out.2.2.1, ?_, (h5.alloc h5.size _).grown hgrow (by have := h5.size; simp; omega) (fun k hk => by have := hrow k hk; omega), hrg4.lt⟩
          rw [List.length_append, flat_append]
          simpa [flat] using hown
        have hm : u2.rangeLeft bm r < u.rangeLeft bm r := by rw [hrg4.left_eq, hrg.left_eq]; exact H2.out.2.2.2.2.2
        clear hown hgrow hrow hrg4 h5 hr1 hbm
        go_wp2
        exact ⟨⟨_, _, _, _, rfl, R4⟩, hm⟩
end Go.Proofs.YtcggmagdndhkbaaGreatDoor
end
section
set_option linter.unusedVariables false
namespace Go.Proofs.YtcggmagdndhkbaaGreatDoor
open Go.RowKit Go.Lib Go.Sort
end Go.Proofs.YtcggmagdndhkbaaGreatDoor
end
section
set_option linter.unusedVariables false
namespace Go.Proofs.YtcggmagdndhkbaaGreatDoor
open Go.RowKit Go.Lib Go.Sort
open scoped Classical
def ActOk (base : Nat) (w : World) (p : Nat) (v : Value) (M : List Ltr) (w' : World) : Prop :=
  ∃ v', LineAt base w' p v' M ∧ Keeps (fun k => k = p ∨ some k = v.ownBlock) w w' ∧ (v'.ownBlock = v.ownBlock ∨ ∀ g, v'.ownBlock = some g → w.heap.size ≤ g)
theorem ActOk.of_below {base : Nat} {w w' : World} {p : Nat} {v : Value} {L : List Ltr} (h : LineAt base w p v L) (hb : Below w.heap.size w w') : ActOk base w p v L w' :=
  ⟨v, h.later hb, (keeps_of_below hb).mono (fun k hk e => by omega), .inl rfl⟩
theorem ActOk.of_put {base : Nat} {w w' : World} {p : Nat} {v : Value} {M : List Ltr} (h : PutOk base w p v M w') : ActOk base w p v M w' := by
  obtain ⟨v', h1, h2, h3⟩ := h
  exact ⟨v', h1, h2, h3⟩
def lnInsE (id behind : Int) (L : List Ltr) : Nat :=
  if 4 ≤ id ∧ id < 4294967300 ∧ 0 ≤ behind ∧ behind < id then (if id ∈ L.map (·.1) then 7 else if behind = 0 ∨ behind ∈ L.map (·.1) then 0 else 6) else 3
def insL (id behind : Int) (c : Nat) (L : List Ltr) : List Ltr := if lnInsE id behind L = 0 then put behind (id, c, false) L else L
def errN (ad : Nat → Addr) (c : Nat) : Value := if c = 0 then .nilIface else .iface 416 (.pointer (some (ad (c - 1))))
theorem insert_all {ad : Nat → Addr} (w : World) (base p : Nat) (v : Value) (L : List Ltr) (id behind : Int) (c : Nat) (hE : Ln4 ad w) (hT : LineAt base w p v L) (hbase : base ≤ w.heap.size) (hL : L.length ≤ 900) (hi : -9223372036854775808 ≤ id ∧ id ≤ 9223372036854775807) (hc : c < 256) :
    Calls Tryz.prog 124 #[.pointer (some ⟨p, 0, none⟩), .int .i64 id, .int .i64 behind, .int .u8 (c : Int)] w fun e w' => e = .returned (errN ad (lnInsE id behind L)) ∧ ActOk base w p v (insL id behind c L) w' := by
  unfold insL lnInsE
  by_cases h1 : 4 ≤ id ∧ id < 4294967300 ∧ 0 ≤ behind ∧ behind < id
  · rw [if_pos h1]
    by_cases h2 : id ∈ L.map (·.1)
    · rw [if_pos h2, if_neg (by omega)]
      refine (insert_exist w base p v L id behind c hE hT (by omega) h1 h2).mono ?_
      rintro e w' ⟨rfl, hb⟩
      exact ⟨rfl, ActOk.of_below hT hb⟩
    · rw [if_neg h2]
      by_cases h3 : behind = 0 ∨ behind ∈ L.map (·.1)
      · rw [if_pos h3, if_pos rfl]
        refine (insert_ok w base p v L id behind c hT hbase hL h1 hc h2 h3).mono ?_
        rintro e w' ⟨rfl, hp⟩
        exact ⟨rfl, ActOk.of_put hp⟩
      · rw [if_neg h3, if_neg (by omega)]
        refine (insert_none w base p v L id behind c hE hT (by omega) h1 h2 (fun e => h3 (.inl e)) (fun e => h3 (.inr e))).mono ?_
        rintro e w' ⟨rfl, hb⟩
        exact ⟨rfl, ActOk.of_below hT hb⟩
  · rw [if_neg h1, if_neg (by omega)]
    refine (insert_shape w p id behind c hE hi h1).mono ?_
    rintro e w' ⟨rfl, hb⟩
    exact ⟨rfl, ActOk.of_below hT hb⟩
def lnDelE (id : Int) (L : List Ltr) : Nat := match findL id L with
  | none => 6
  | some _ => 0
def delL (id : Int) (L : List Ltr) : List Ltr := match findL id L with
  | none => L
  | some i => L.set i (id, 0, true)
theorem delete_all {ad : Nat → Addr} (w : World) (base p : Nat) (v : Value) (L : List Ltr) (id : Int) (hE : Ln4 ad w) (hT : LineAt base w p v L) (hL : L.length ≤ 1000) :
    Calls Tryz.prog 125 #[.pointer (some ⟨p, 0, none⟩), .int .i64 id] w fun e w' => e = .returned (errN ad (lnDelE id L)) ∧ ActOk base w p v (delL id L) w' := by
  unfold lnDelE delL
  cases hf : findL id L with
  | none =>
    refine (delete_none w base p v L id hE hT hL (fun hm => ?_)).mono ?_
    · obtain ⟨l, hl, e⟩ := List.mem_map.1 hm
      exact findL_none hf l hl e
    · rintro e w' ⟨rfl, hb⟩
      exact ⟨rfl, ActOk.of_below hT hb⟩
  | some i =>
    refine (delete_ok w base p i v L id hT hL hf).mono ?_
    rintro e w' ⟨rfl, h1, h2⟩
    exact ⟨rfl, v, h1, h2.mono (fun k _ e => .inr e), .inl rfl⟩
end Go.Proofs.YtcggmagdndhkbaaGreatDoor
end
