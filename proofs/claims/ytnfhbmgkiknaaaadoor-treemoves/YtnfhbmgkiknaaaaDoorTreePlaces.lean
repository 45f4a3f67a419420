/- slices.AppendSeq, Collect, SortedFunc at places, and package tree's Places. -/
import Derived.Test.YtnfhbmgkiknaaaaDoorTreeVals
import Derived.Test.YtnfhbmgkiknaaaaDoorTreeSort
import Derived.Test.YtnfhbmgkiknaaaaDoorTreeDo
namespace Go.Proofs.YtnfhbmgkiknaaaaDoor
open Go.RowKit Go.Shelf Go.Maps

attribute [local go_sem] Oper.semAt_some

theorem infoPl : (Tryd.prog.info? 95).map (fun i => (i.zero, i.size, i.bytes)) = some (some (.agg #[.int .i64 0, .int .i64 0, .string ⟨#[]⟩]), 3, 32) := by kernel_rfl
theorem lit_cellsP (w : World) (p : Plc) (j : Nat) (u : Value) (hj : (cellsP p)[j]? = some u) : (w.alloc (.cells #[.int .i64 p.1, .int .i64 p.2.1, .string p.2.2] 95)).cell? ((⟨w.heap.size, 0, none⟩ : Addr).add j) = some u := by
  rw [Addr.add_lit, Nat.zero_add]
  have h := heap_alloc_new w (.cells #[.int .i64 p.1, .int .i64 p.2.1, .string p.2.2] 95)
  simp only [World.cell?, h]
  rw [← hj]
  simp [cellsP]

set_option maxRecDepth 100000 in
set_option maxHeartbeats 2000000 in
theorem appendSeq_any (w : World) (Bm b nn : Nat) (f : Sta) (G : Good f) (hBm : Bm < w.heap.size) (hm : w.cell? ⟨Bm, 0, none⟩ = some (.map (some b))) (hM : MapAt Tryd.prog 3 w b nn f) (hnn : nn ≤ 2000000) :
    Calls Tryd.prog 132 #[.slice none 0 0, .func (.func 113) #[] #[.pointer (some ⟨Bm, 0, none⟩)]] w fun e w' => ∃ v ps, e = .returned v ∧ AllP f ps ∧ ps.length ≤ nn ∧ w'.ownsRow w.heap.size 95 3 v ps.length (flat cellsP ps) ∧ Below w.heap.size w w' := by
  obtain ⟨i0, hi, hz0, hz1, hz2⟩ := info_parts infoPl
  refine (callsIn_wide (n := 4)).1 ?_
  refine callsIn_of_wp_marks Tryd.func132 rfl trivial ?_ rfl
  simp only [Tryd.ntmps132, List.size_toArray, List.length_cons, List.length_nil, Nat.reduceAdd, Nat.reduceSub, Array.replicate_succ, Array.replicate_zero, List.push_toArray, List.append_toArray, List.nil_append, List.cons_append]
  gi_wp2
  obtain ⟨w1, hw1⟩ : ∃ w1, w1 = w.alloc (.cells #[.slice none 0 0] 90) := ⟨_, rfl⟩
  rw [← hw1]
  have hB0 : Below w.heap.size w w1 := by rw [hw1]; exact (Below.refl w.heap.size w).alloc (Nat.le_refl _) _
  have hs1 : w1.heap.size = w.heap.size + 1 := by rw [hw1]; simp
  obtain ⟨B, hB⟩ : ∃ B, B = w.heap.size := ⟨_, rfl⟩
  have e1 : Boxed w1 B 90 (.slice none 0 0) := by rw [hw1, hB]; exact heap_alloc_new w _
  rw [← hB] at hB0 hs1 hBm ⊢
  have HB : Aside (B = w.heap.size) := hB
  have hBw : B ≤ w.heap.size := by omega
  clear hB
  have hm1 := (hB0.cell (p := ⟨Bm, 0, none⟩) hBm).trans hm
  have hM1 := hM.same (hB0.block b (by have := HB.out; have := hM.lt; omega))
  clear hw1 hm hM
  refine wpIn_rangeFunc_ownH rfl (by omega) (gf := 113) (lb := #[.pointer (some ⟨Bm, 0, none⟩)]) rfl trivial (enters_of Tryd.func113 (by kernel_rfl) rfl)
    (values_stops Fence.wide (4 - 1) trivial rfl (by omega) Bm b nn f G w1 (by omega) hm1 hM1) walksK_t (walksK_b (w := w1)) (Below.refl _ _) (fun _ => rfl)
    (fun pre W => ((∃ v, Boxed W B 90 v ∧ W.ownsRow B 95 3 v pre.length (flat cellsP pre) ∧ pre.length ≤ nn)) ∧ (w1.heap.size ≤ W.heap.size ∧ Below B w W))
    (fun _ _ _ => False)
    (OwnFrom.and (Own.from (holdsRow_own B B 90 95 3 (fun pre => pre.length) (fun pre => flat cellsP pre) (fun pre _ => pre.length ≤ nn)) _) (OwnFrom.and (fun _ X Y row hs hg _ => Nat.le_trans hs hg.size) (ownFrom_below (by omega) (by omega))))
    (fun _ _ _ _ _ hs _ _ => hs)
    ⟨⟨_, e1, World.ownsRow_nil w1 B _ _, Nat.zero_le _⟩, Nat.le_refl _, hB0⟩
    (fun x a' W => ∃ Bx, w1.heap.size ≤ Bx ∧ PlcAt W Bx x ∧ a' = { tmps := #[.slice none 0 0, .func (.func 113) #[] #[.pointer (some ⟨Bm, 0, none⟩)], .pointer (some ⟨B, 0, none⟩), undef, .slice none 0 0, .pointer (some ⟨Bx, 0, none⟩), .func (.func 113) #[] #[.pointer (some ⟨Bm, 0, none⟩)], .agg #[.int .i64 x.1, .int .i64 x.2.1, .string x.2.2], undef, undef, undef, undef, undef], defers := [] })
    (fun x a' => Own.from (fun _ X Y row hs hg hr => by obtain ⟨Bx, f1, f2, f3⟩ := hs; exact ⟨Bx, f1, kept_cells f2 hg hr, f3⟩) _)
    ?assign ?body ?done ?stop
  case assign =>
    rintro l pre x W K ⟨⟨v, hv, hrow, hpl⟩, hsz, hBW⟩ hK
    have hK' : Aside _ := hK
    have hBs : B ≤ W.heap.size := by omega
    clear hK
    unfold encP
    gi_wp2
    refine hK'.out _ _ ((KeepsOthers.alloc _ _).from _) (KeepsOthers.alloc _ _).walks ⟨⟨v, hv.alloc _, hrow.alloc _, hpl⟩, by simp; omega, hBW.alloc hBs _⟩ ⟨W.heap.size, by omega, heap_alloc_new W _, rfl⟩
  case body =>
    rintro l pre x a' W hl _ ⟨⟨v, hv, hrow, hpl⟩, hsz, hBW⟩ ⟨Bx, hBx, hE, rfl⟩ hlt
    have g1 := hv.cell
    have f0 := hE.c0
    have f1 := hE.c1
    have f2 := hE.c2
    have hBs : B ≤ W.heap.size := by omega
    gi_wp2_with (gi_at_builtin; refine wpListIn_append_own _ rfl _ _ 90 rfl B 95 i0 _ 3 32 Tryd.underlying90 hi hz0 hz1 hz2 rfl (by omega) _ _ _ rfl (hrow.alloc _) ⟨W.heap.size, 0, none⟩ 1 1 (cellsP x) rfl rfl (lit_cellsP W x) (cellsP_one x) (by simp only [maxLen]; omega) (by omega) (by simp; omega) ?_; intro v' w2 hown' hgrow _; obtain ⟨g', cap', rfl⟩ := ownsRow_succ hown'; obtain ⟨hv1, hv2, hr2, hk2, hb2⟩ := hv.appended (by decide) hrow hBs (Nat.le_refl _) hown' hgrow; have hc1 := hv1.cell; have hf1 := hv1.frozen)
    exact ⟨hk2.from _, hk2.walks, ⟨⟨_, hv2, by rw [List.length_append, List.length_singleton, flat_append]; simpa [flat] using hr2, by simp; omega⟩, by have := hk2.size; omega, hBW.trans hb2⟩⟩
  case done =>
    rintro D ys W hD hall ⟨⟨v, hv, hrow, hpl⟩, hsz, hBW⟩ hK
    have g1 := hv.cell
    gi_wp2
    refine ⟨by simp, .inl ⟨_, _, rfl, run_takeDeferred hK, ?_⟩⟩
    refine ⟨v, by simp [results, Tryd.f132, go_sem], v, ys, rfl, hall, hpl, ?_, ?_⟩
    · rw [← HB.out]
      exact ownsRow_putObj hrow _ hK rfl
    · rw [← HB.out]
      exact hBW.trans (belowK_b (w := w) (by omega) W D _ _ (by have := HB.out; omega) hK rfl rfl)
  case stop =>
    rintro D c pre W _ _ h _
    exact h.elim
/-- A slice that holds places. -/
def PlsAt (w : World) (v : Value) (qs : List Plc) : Prop := (v = .slice none 0 0 ∧ qs = []) ∨ ∃ g cap, v = .slice (some ⟨g, 0, none⟩) qs.length cap ∧ g < w.heap.size ∧ ∀ j u, (flat cellsP qs)[j]? = some u → w.cell? ⟨g, j, none⟩ = some u
theorem PlsAt.later {w w' : World} {v : Value} {qs : List Plc} (h : PlsAt w v qs) (hb : Below w.heap.size w w') : PlsAt w' v qs := by
  rcases h with h | ⟨g, cap, h1, h2, h3⟩
  · exact .inl h
  · exact .inr ⟨g, cap, h1, Nat.lt_of_lt_of_le h2 hb.size, fun j u hj => (hb.cell (p := ⟨g, j, none⟩) h2).trans (h3 j u hj)⟩

set_option maxHeartbeats 1000000 in
theorem collect_any (w : World) (Bm b nn : Nat) (f : Sta) (G : Good f) (hBm : Bm < w.heap.size) (hm : w.cell? ⟨Bm, 0, none⟩ = some (.map (some b))) (hM : MapAt Tryd.prog 3 w b nn f) (hnn : nn ≤ 2000000) :
    Calls Tryd.prog 111 #[.func (.func 113) #[] #[.pointer (some ⟨Bm, 0, none⟩)]] w fun e w' => ∃ v ps, e = .returned v ∧ AllP f ps ∧ ps.length ≤ nn ∧ w'.ownsRow w.heap.size 95 3 v ps.length (flat cellsP ps) ∧ Below w.heap.size w w' := by
  have hc := appendSeq_any w Bm b nn f G hBm hm hM hnn
  go_enter Tryd.func111, Tryd.ntmps111
  go_wp2_with fail
  refine hc.mono ?_
  clear hc
  rintro e w' ⟨v, ps, rfl, H⟩
  have HH : Aside (AllP f ps ∧ ps.length ≤ nn ∧ w'.ownsRow w.heap.size 95 3 v ps.length (flat cellsP ps) ∧ Below w.heap.size w w') := H
  clear H
  go_wp2
  go_ret
  exact ⟨v, ps, rfl, HH.out⟩

set_option maxHeartbeats 1000000 in
theorem sorted_any (w : World) (Bm b nn : Nat) (f : Sta) (G : Good f) (hBm : Bm < w.heap.size) (hm : w.cell? ⟨Bm, 0, none⟩ = some (.map (some b))) (hM : MapAt Tryd.prog 3 w b nn f) (hnn : nn ≤ 100000) :
    Calls Tryd.prog 86 #[.func (.func 113) #[] #[.pointer (some ⟨Bm, 0, none⟩)], .func (.func 88) #[] #[]] w fun e w' => ∃ v qs, e = .returned v ∧ IsPlaces f qs ∧ qs.length ≤ nn ∧ PlsAt w' v qs ∧ Below w.heap.size w w' := by
  have hc := collect_any w Bm b nn f G hBm hm hM (by omega)
  go_enter Tryd.func86, Tryd.ntmps86
  go_wp2_with fail
  refine hc.mono ?_
  clear hc
  rintro e w1 ⟨v, ps, rfl, hall, hpl, hown, hb⟩
  rcases hown.2 with ⟨rfl, h0⟩ | ⟨g, cap, cur, rfl, hbg, -⟩
  · have hps : ps = [] := List.length_eq_zero_iff.1 h0
    have HH : Aside (IsPlaces f [] ∧ Below w.heap.size w w1) := ⟨by subst hps; exact hall.places (List.Perm.refl _) List.Pairwise.nil, hb⟩
    clear hall hown hb hps h0
    go_wp2_with (go_at_call 112; refine (sortPl_none none 0 _ _).mono ?_; rintro e w' ⟨rfl, rfl⟩)
    go_ret
    exact ⟨_, [], rfl, HH.out.1, Nat.zero_le _, .inl ⟨rfl, rfl⟩, HH.out.2⟩
  · have hs := sortPl w1 w.heap.size g cap ps hown (by omega)
    have hgl := (hown.lt g rfl).2
    have HH : Aside (AllP f ps ∧ ps.length ≤ nn ∧ Below w.heap.size w w1 ∧ w.heap.size ≤ g ∧ g < w1.heap.size) := ⟨hall, hpl, hb, hbg, hgl⟩
    clear hall hown hb hpl hbg hgl
    go_wp2_with fail
    refine hs.mono ?_
    clear hs
    rintro e w2 ⟨rfl, qs, hp, hpw, hcells, hk⟩
    have H2 : Aside (IsPlaces f qs ∧ qs.length = ps.length ∧ qs.length ≤ nn ∧ (∀ j u, (flat cellsP qs)[j]? = some u → w2.cell? ⟨g, j, none⟩ = some u) ∧ Below w.heap.size w w2 ∧ g < w2.heap.size) :=
      ⟨HH.out.1.places hp (List.Pairwise.imp (fun {a b} h => by omega) hpw), hp.length_eq, by have := HH.out.2.1; have := hp.length_eq; omega, hcells, HH.out.2.2.1.trans (hk.below (HH.out.2.2.1.size) (fun k e => by have := HH.out.2.2.2.1; omega)), Nat.lt_of_lt_of_le HH.out.2.2.2.2 hk.size⟩
    clear hp hpw hcells hk HH
    go_wp2
    go_ret
    exact ⟨_, qs, rfl, H2.out.1, H2.out.2.2.1, .inr ⟨g, cap, by rw [H2.out.2.1]; rfl, H2.out.2.2.2.2.2, H2.out.2.2.2.1⟩, H2.out.2.2.2.2.1⟩

set_option maxHeartbeats 1000000 in
theorem places_any (w : World) (bt bm nn : Nat) (v0 : Value) (f : Sta) (G : Good f) (hT : TreeCell w bt bm v0) (hM : MapAt Tryd.prog 3 w bm nn f) (hnn : nn ≤ 100000) :
    Calls Tryd.prog 56 #[.pointer (some ⟨bt, 0, none⟩)] w fun e w' => ∃ v qs, e = .returned v ∧ IsPlaces f qs ∧ qs.length ≤ nn ∧ PlsAt w' v qs ∧ Below w.heap.size w w' := by
  have t0 := hT.c0
  have hv := callsIn_wide.1 (values_in Fence.wide 3 trivial rfl (some bm) w)
  have hb1 : Below w.heap.size w (w.alloc (.cells #[.map (some bm)] 128)) := (Below.refl _ w).alloc (Nat.le_refl _) _
  have hbox : Boxed (w.alloc (.cells #[.map (some bm)] 128)) w.heap.size 128 (.map (some bm)) := heap_alloc_new w _
  have hs := sorted_any (w.alloc (.cells #[.map (some bm)] 128)) w.heap.size bm nn f G (by simp) hbox.cell (hM.same (hb1.block bm hM.lt)) hnn
  go_enter Tryd.func56, Tryd.ntmps56
  go_wp2_with (go_at_call 87; refine hv.mono ?_; clear hv; rintro e w' ⟨rfl, rfl⟩)
  refine hs.mono ?_
  clear hs
  rintro e w2 ⟨v, qs, rfl, h1, h2, h3, h4⟩
  have HH : Aside (IsPlaces f qs ∧ qs.length ≤ nn ∧ PlsAt w2 v qs ∧ Below w.heap.size w w2) := ⟨h1, h2, h3, hb1.trans (h4.mono (by simp))⟩
  clear h1 h2 h3 h4 hb1 hbox
  go_wp2
  go_ret
  exact ⟨v, qs, rfl, HH.out⟩
end Go.Proofs.YtnfhbmgkiknaaaaDoor
