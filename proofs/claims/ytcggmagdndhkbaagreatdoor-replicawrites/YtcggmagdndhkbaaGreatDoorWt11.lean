import Derived.Test.YtcggmagdndhkbaaGreatDoorWt01
import Derived.Test.YtcggmagdndhkbaaGreatDoorWt04
import Derived.Test.YtcggmagdndhkbaaGreatDoorWt06
import Derived.Test.YtcggmagdndhkbaaGreatDoorWt09
import Derived.Test.YtcggmagdndhkbaaGreatDoorWt10
import Derived.Deep.LoopGhost
import Derived.WalkSpells
import Derived.LoopN
import Derived.Deep.Cut
import Derived.Deep.CutRange
import Derived.Deep.DeepCutAuto
import Derived.Test.YtcggmagdndhkbaaGreatDoorProg
import Derived.WalkKit
import Derived.Shelf.Abstract
import Derived.Below
import Derived.LoopTactic
import Derived.Lib.Hide
section
namespace Go.Proofs.YtcggmagdndhkbaaGreatDoor
open Go.RowKit Go.Shelf Go.Maps
attribute [local go_sem] Oper.semAt_some
theorem infoPl : (Tryz.prog.info? 129).map (fun i => (i.zero, i.size, i.bytes)) = some (some (.agg #[.int .i64 0, .int .i64 0, .string ⟨#[]⟩]), 3, 32) := by kernel_rfl
theorem lit_cellsP (w : World) (p : Plc) (j : Nat) (u : Value) (hj : (cellsP p)[j]? = some u) : (w.alloc (.cells #[.int .i64 p.1, .int .i64 p.2.1, .string p.2.2] 129)).cell? ((⟨w.heap.size, 0, none⟩ : Addr).add j) = some u := by
  rw [Addr.add_lit, Nat.zero_add]
  have h := heap_alloc_new w (.cells #[.int .i64 p.1, .int .i64 p.2.1, .string p.2.2] 129)
  simp only [World.cell?, h]
  rw [← hj]
  simp [cellsP]
set_option maxRecDepth 100000 in
set_option maxHeartbeats 2000000 in
theorem appendSeq_any (w : World) (Bm b nn : Nat) (f : Sta) (G : Good f) (hBm : Bm < w.heap.size) (hm : w.cell? ⟨Bm, 0, none⟩ = some (.map (some b))) (hM : MapAt Tryz.prog 3 w b nn f) (hnn : nn ≤ 2000000) :
    Calls Tryz.prog 241 #[.slice none 0 0, .func (.func 198) #[] #[.pointer (some ⟨Bm, 0, none⟩)]] w fun e w' => ∃ v ps, e = .returned v ∧ AllP f ps ∧ ps.length ≤ nn ∧ w'.ownsRow w.heap.size 129 3 v ps.length (flat cellsP ps) ∧ Below w.heap.size w w' := by
  obtain ⟨i0, hi, hz0, hz1, hz2⟩ := info_parts infoPl
  refine (callsIn_wide (n := 4)).1 ?_
  refine callsIn_of_wp_marks Tryz.func241 rfl trivial ?_ rfl
  simp only [Tryz.ntmps241, List.size_toArray, List.length_cons, List.length_nil, Nat.reduceAdd, Nat.reduceSub, Array.replicate_succ, Array.replicate_zero, List.push_toArray, List.append_toArray, List.nil_append, List.cons_append]
  gi_wp2
  obtain ⟨w1, hw1⟩ : ∃ w1, w1 = w.alloc (.cells #[.slice none 0 0] 126) := ⟨_, rfl⟩
  rw [← hw1]
  have hB0 : Below w.heap.size w w1 := by rw [hw1]; exact (Below.refl w.heap.size w).alloc (Nat.le_refl _) _
  have hs1 : w1.heap.size = w.heap.size + 1 := by rw [hw1]; simp
  obtain ⟨B, hB⟩ : ∃ B, B = w.heap.size := ⟨_, rfl⟩
  have e1 : Boxed w1 B 126 (.slice none 0 0) := by rw [hw1, hB]; exact heap_alloc_new w _
  rw [← hB] at hB0 hs1 hBm ⊢
  have HB : Aside (B = w.heap.size) := hB
  have hBw : B ≤ w.heap.size := by omega
  clear hB
  have hm1 := (hB0.cell (p := ⟨Bm, 0, none⟩) hBm).trans hm
  have hM1 := hM.same (hB0.block b (by have := HB.out; have := hM.lt; omega))
  clear hw1 hm hM
  refine wpIn_rangeFunc_ownH rfl (by omega) (gf := 198) (lb := #[.pointer (some ⟨Bm, 0, none⟩)]) rfl trivial (enters_of Tryz.func198 (by kernel_rfl) rfl)
    (values_stops Fence.wide (4 - 1) trivial rfl (by omega) Bm b nn f G w1 (by omega) hm1 hM1) walksK_t (walksK_b (w := w1)) (Below.refl _ _) (fun _ => rfl)
    (fun pre W => ((∃ v, Boxed W B 126 v ∧ W.ownsRow B 129 3 v pre.length (flat cellsP pre) ∧ pre.length ≤ nn)) ∧ (w1.heap.size ≤ W.heap.size ∧ Below B w W))
    (fun _ _ _ => False)
    (OwnFrom.and (Own.from (holdsRow_own B B 126 129 3 (fun pre => pre.length) (fun pre => flat cellsP pre) (fun pre _ => pre.length ≤ nn)) _) (OwnFrom.and (fun _ X Y row hs hg _ => Nat.le_trans hs hg.size) (ownFrom_below (by omega) (by omega))))
    (fun _ _ _ _ _ hs _ _ => hs)
    ⟨⟨_, e1, World.ownsRow_nil w1 B _ _, Nat.zero_le _⟩, Nat.le_refl _, hB0⟩
    (fun x a' W => ∃ Bx, w1.heap.size ≤ Bx ∧ PlcAt W Bx x ∧ a' = { tmps := #[.slice none 0 0, .func (.func 198) #[] #[.pointer (some ⟨Bm, 0, none⟩)], .pointer (some ⟨B, 0, none⟩), undef, .slice none 0 0, .pointer (some ⟨Bx, 0, none⟩), .func (.func 198) #[] #[.pointer (some ⟨Bm, 0, none⟩)], .agg #[.int .i64 x.1, .int .i64 x.2.1, .string x.2.2], undef, undef, undef, undef, undef], defers := [] })
    (fun x a' => Own.from (fun _ X Y row hs hg hr => by obtain ⟨Bx, f1, f2, f3⟩ := hs; exact ⟨Bx, f1, kept_cells f2 hg hr, f3⟩) _)
    ?assign ?body ?done ?stop
  case assign =>
    rintro l pre x W K ⟨⟨v, hv, hrow, hpl⟩, hsz, hBW⟩ hK
    have hK' : Aside _ := hK
    have hBs : B ≤ W.heap.size := by omega
    clear hK
    unfold encP
    gi_wp2
    refine hK'.out _ _ ((KeepsOthers.alloc _ _).from _) (KeepsOthers.alloc _ _).walks ⟨⟨v, hv.alloc _, hrow.alloc _, hpl⟩, by simp; omega, hBW.alloc hBs _⟩ ⟨W.heap.size, by omega, heap_alloc_new W _, rfl⟩
  case body =>
    rintro l pre x a' W hl _ ⟨⟨v, hv, hrow, hpl⟩, hsz, hBW⟩ ⟨Bx, hBx, hE, rfl⟩ hlt
    have g1 := hv.cell
    have f0 := hE.c0
    have f1 := hE.c1
    have f2 := hE.c2
    have hBs : B ≤ W.heap.size := by omega
    gi_wp2_with (gi_at_builtin; refine wpListIn_append_own _ rfl _ _ 126 rfl B 129 i0 _ 3 32 Tryz.underlying126 hi hz0 hz1 hz2 rfl (by omega) _ _ _ rfl (hrow.alloc _) ⟨W.heap.size, 0, none⟩ 1 1 (cellsP x) rfl rfl (lit_cellsP W x) (cellsP_one x) (by simp only [maxLen]; omega) (by omega) (by simp; omega) ?_; intro v' w2 hown' hgrow _; obtain ⟨g', cap', rfl⟩ := ownsRow_succ hown'; obtain ⟨hv1, hv2, hr2, hk2, hb2⟩ := hv.appended (by decide) hrow hBs (Nat.le_refl _) hown' hgrow; have hc1 := hv1.cell; have hf1 := hv1.frozen)
    exact ⟨hk2.from _, hk2.walks, ⟨⟨_, hv2, by rw [List.length_append, List.length_singleton, flat_append]; simpa [flat] using hr2, by simp; omega⟩, by have := hk2.size; omega, hBW.trans hb2⟩⟩
  case done =>
    rintro D ys W hD hall ⟨⟨v, hv, hrow, hpl⟩, hsz, hBW⟩ hK
    have g1 := hv.cell
    gi_wp2
    refine ⟨by simp, .inl ⟨_, _, rfl, run_takeDeferred hK, ?_⟩⟩
    refine ⟨v, by simp [results, Tryz.f241, go_sem], v, ys, rfl, hall, hpl, ?_, ?_⟩
    · rw [← HB.out]
      exact ownsRow_putObj hrow _ hK rfl
    · rw [← HB.out]
      exact hBW.trans (belowK_b (w := w) (by omega) W D _ _ (by have := HB.out; omega) hK rfl rfl)
  case stop =>
    rintro D c pre W _ _ h _
    exact h.elim
def PlsAt (w : World) (v : Value) (qs : List Plc) : Prop := (v = .slice none 0 0 ∧ qs = []) ∨ ∃ g cap, v = .slice (some ⟨g, 0, none⟩) qs.length cap ∧ g < w.heap.size ∧ ∀ j u, (flat cellsP qs)[j]? = some u → w.cell? ⟨g, j, none⟩ = some u
set_option maxHeartbeats 1000000 in
theorem collect_any (w : World) (Bm b nn : Nat) (f : Sta) (G : Good f) (hBm : Bm < w.heap.size) (hm : w.cell? ⟨Bm, 0, none⟩ = some (.map (some b))) (hM : MapAt Tryz.prog 3 w b nn f) (hnn : nn ≤ 2000000) :
    Calls Tryz.prog 196 #[.func (.func 198) #[] #[.pointer (some ⟨Bm, 0, none⟩)]] w fun e w' => ∃ v ps, e = .returned v ∧ AllP f ps ∧ ps.length ≤ nn ∧ w'.ownsRow w.heap.size 129 3 v ps.length (flat cellsP ps) ∧ Below w.heap.size w w' := by
  have hc := appendSeq_any w Bm b nn f G hBm hm hM hnn
  go_enter Tryz.func196, Tryz.ntmps196
  go_wp2_with fail
  refine hc.mono ?_
  clear hc
  rintro e w' ⟨v, ps, rfl, H⟩
  have HH : Aside (AllP f ps ∧ ps.length ≤ nn ∧ w'.ownsRow w.heap.size 129 3 v ps.length (flat cellsP ps) ∧ Below w.heap.size w w') := H
  clear H
  go_wp2
  go_ret
  exact ⟨v, ps, rfl, HH.out⟩
set_option maxHeartbeats 1000000 in
theorem sorted_new (w : World) (Bm b nn : Nat) (f : Sta) (G : Good f) (hBm : Bm < w.heap.size) (hm : w.cell? ⟨Bm, 0, none⟩ = some (.map (some b))) (hM : MapAt Tryz.prog 3 w b nn f) (hnn : nn ≤ 100000) :
    Calls Tryz.prog 133 #[.func (.func 198) #[] #[.pointer (some ⟨Bm, 0, none⟩)], .func (.func 135) #[] #[]] w fun e w' => ∃ v qs, e = .returned v ∧ IsPlaces f qs ∧ qs.length ≤ nn ∧ PlsAt w' v qs ∧ Below w.heap.size w w' ∧ ∀ g, v.ownBlock = some g → w.heap.size ≤ g := by
  have hc := collect_any w Bm b nn f G hBm hm hM (by omega)
  go_enter Tryz.func133, Tryz.ntmps133
  go_wp2_with fail
  refine hc.mono ?_
  clear hc
  rintro e w1 ⟨v, ps, rfl, hall, hpl, hown, hb⟩
  rcases hown.2 with ⟨rfl, h0⟩ | ⟨g, cap, cur, rfl, hbg, -⟩
  · have hps : ps = [] := List.length_eq_zero_iff.1 h0
    have HH : Aside (IsPlaces f [] ∧ Below w.heap.size w w1) := ⟨by subst hps; exact hall.places (List.Perm.refl _) List.Pairwise.nil, hb⟩
    clear hall hown hb hps h0
    go_wp2_with (go_at_call 197; refine (sortPl_none none 0 _ _).mono ?_; rintro e w' ⟨rfl, rfl⟩)
    go_ret
    exact ⟨_, [], rfl, HH.out.1, Nat.zero_le _, .inl ⟨rfl, rfl⟩, HH.out.2, fun g e => by cases e⟩
  · have hs := sortPl w1 w.heap.size g cap ps hown (by omega)
    have hgl := (hown.lt g rfl).2
    have HH : Aside (AllP f ps ∧ ps.length ≤ nn ∧ Below w.heap.size w w1 ∧ w.heap.size ≤ g ∧ g < w1.heap.size) := ⟨hall, hpl, hb, hbg, hgl⟩
    clear hall hown hb hpl hbg hgl
    go_wp2_with fail
    refine hs.mono ?_
    clear hs
    rintro e w2 ⟨rfl, qs, hp, hpw, hcells, hk⟩
    have H2 : Aside (IsPlaces f qs ∧ qs.length = ps.length ∧ qs.length ≤ nn ∧ (∀ j u, (flat cellsP qs)[j]? = some u → w2.cell? ⟨g, j, none⟩ = some u) ∧ Below w.heap.size w w2 ∧ g < w2.heap.size ∧ w.heap.size ≤ g) :=
      ⟨HH.out.1.places hp (List.Pairwise.imp (fun {a b} h => by omega) hpw), hp.length_eq, by have := HH.out.2.1; have := hp.length_eq; omega, hcells, HH.out.2.2.1.trans (hk.below (HH.out.2.2.1.size) (fun k e => by have := HH.out.2.2.2.1; omega)), Nat.lt_of_lt_of_le HH.out.2.2.2.2 hk.size, HH.out.2.2.2.1⟩
    clear hp hpw hcells hk HH
    go_wp2
    go_ret
    exact ⟨_, qs, rfl, H2.out.1, H2.out.2.2.1, .inr ⟨g, cap, by rw [H2.out.2.1]; rfl, H2.out.2.2.2.2.2.1, H2.out.2.2.2.1⟩, H2.out.2.2.2.2.1, fun k e => by cases e; exact H2.out.2.2.2.2.2.2⟩
set_option maxHeartbeats 1000000 in
theorem places_new (w : World) (bt bm nn : Nat) (v0 : Value) (f : Sta) (G : Good f) (hT : TreeCell w bt bm v0) (hM : MapAt Tryz.prog 3 w bm nn f) (hnn : nn ≤ 100000) :
    Calls Tryz.prog 66 #[.pointer (some ⟨bt, 0, none⟩)] w fun e w' => ∃ v qs, e = .returned v ∧ IsPlaces f qs ∧ qs.length ≤ nn ∧ PlsAt w' v qs ∧ Below w.heap.size w w' ∧ ∀ g, v.ownBlock = some g → w.heap.size ≤ g := by
  have t0 := hT.c0
  have hv := callsIn_wide.1 (values_in Fence.wide 3 trivial rfl (some bm) w)
  have hb1 : Below w.heap.size w (w.alloc (.cells #[.map (some bm)] 182)) := (Below.refl _ w).alloc (Nat.le_refl _) _
  have hbox : Boxed (w.alloc (.cells #[.map (some bm)] 182)) w.heap.size 182 (.map (some bm)) := heap_alloc_new w _
  have hs := sorted_new (w.alloc (.cells #[.map (some bm)] 182)) w.heap.size bm nn f G (by simp) hbox.cell (hM.same (hb1.block bm hM.lt)) hnn
  go_enter Tryz.func66, Tryz.ntmps66
  go_wp2_with (go_at_call 134; refine hv.mono ?_; clear hv; rintro e w' ⟨rfl, rfl⟩)
  refine hs.mono ?_
  clear hs
  rintro e w2 ⟨v, qs, rfl, h1, h2, h3, h4, h5⟩
  have HH : Aside (IsPlaces f qs ∧ qs.length ≤ nn ∧ PlsAt w2 v qs ∧ Below w.heap.size w w2 ∧ ∀ g, v.ownBlock = some g → w.heap.size ≤ g) := ⟨h1, h2, h3, hb1.trans (h4.mono (by simp)), fun g hg => by have := h5 g hg; simp at this; omega⟩
  clear h1 h2 h3 h4 h5 hb1 hbox
  go_wp2
  go_ret
  exact ⟨v, qs, rfl, HH.out⟩
end Go.Proofs.YtcggmagdndhkbaaGreatDoor
end
section
namespace Go.Proofs.YtcggmagdndhkbaaGreatDoor
open Go Go.Maps
abbrev NKey := Int × Int
abbrev NSta := NKey → Option OpX
def noN : NSta := fun _ => none
def encN (k : NKey) : Value := .agg #[.int .i64 k.1, .int .i64 k.2]
theorem encN_inj {p q : NKey} (h : encN p = encN q) : p = q := by
  obtain ⟨a, s⟩ := p
  obtain ⟨a', s'⟩ := q
  simp [encN] at h
  obtain ⟨rfl, rfl⟩ := h
  rfl
def encO (x : OpX) : Value := .agg #[.int .i64 x.1, .int .i64 x.2.1, .int .i64 x.2.2.1, .int .u8 (x.2.2.2.1 : Int), .int .i64 x.2.2.2.2.1, .int .i64 x.2.2.2.2.2.1, .string x.2.2.2.2.2.2.1, .string x.2.2.2.2.2.2.2]
def zeroO : OpX := (0, 0, 0, 0, 0, 0, ⟨#[]⟩, ⟨#[]⟩)
def datO (x : OpX) : DataW Unit := .agg [.lit (.int .i64 x.1), .lit (.int .i64 x.2.1), .lit (.int .i64 x.2.2.1), .lit (.int .u8 (x.2.2.2.1 : Int)), .lit (.int .i64 x.2.2.2.2.1), .lit (.int .i64 x.2.2.2.2.2.1), .lit (.string x.2.2.2.2.2.2.1.data.toList), .lit (.string x.2.2.2.2.2.2.2.data.toList)]
theorem datO_inj {p q : OpX} (h : datO p = datO q) : p = q := by
  obtain ⟨t, b, n, k, nd, o, ⟨⟨s⟩⟩, ⟨⟨v⟩⟩⟩ := p
  obtain ⟨t', b', n', k', nd', o', ⟨⟨s'⟩⟩, ⟨⟨v'⟩⟩⟩ := q
  simp [datO] at h
  obtain ⟨rfl, rfl, rfl, h4, rfl, rfl, rfl, rfl⟩ := h
  obtain rfl : k = k' := by omega
  rfl
def opL (l : List Value) : Option (DataW Unit × List MemPlace) := match l with
  | [.int .i64 t, .int .i64 b, .int .i64 n, .int .u8 k, .int .i64 nd, .int .i64 o, .string s, .string v] => if 0 ≤ k then some (datO (t, b, n, k.toNat, nd, o, s, v), []) else none
  | _ => none
def opR (v : Value) : Option (DataW Unit × List MemPlace) := match v with
  | .agg cs => opL cs.toList
  | _ => none
theorem opR_mk (x : OpX) : opR (encO x) = some (datO x, []) := by
  simp [opR, encO, opL]
theorem opL_inv {l : List Value} {z : DataW Unit × List MemPlace} (h : opL l = some z) : ∃ x : OpX, l = encX x ∧ z = (datO x, []) := by
  unfold opL at h
  split at h
  · rename_i t b n k nd o s v
    split at h
    · rename_i hk
      cases h
      refine ⟨(t, b, n, k.toNat, nd, o, s, v), ?_, rfl⟩
      simp [encX, Int.toNat_of_nonneg hk]
    · cases h
  · cases h
theorem opR_inv {v : Value} {z : DataW Unit × List MemPlace} (h : opR v = some z) : ∃ x, v = encO x ∧ z = (datO x, []) := by
  unfold opR at h
  split at h
  · rename_i cs
    obtain ⟨x, e, rfl⟩ := opL_inv h
    refine ⟨x, ?_, rfl⟩
    unfold encO
    unfold encX at e
    rw [← e]
  · cases h
def WfN (k : NKey) : Prop := (Lit.int .i64 k.1).wf = true ∧ (Lit.int .i64 k.2).wf = true
def nlit (k : NKey) : Lit := .string (keyBytes [.int .i64 k.1, .int .i64 k.2])
section
variable {P : Program} {K I : TypeId} {f g : Field}
theorem nkey_mkP (hu : P.underlying K = some (.struct #[f, g])) (f1 : f.type = I) (f2 : f.offset = 0) (f3 : (f.name != "_") = true) (g1 : g.type = I) (g2 : g.offset = 1) (g3 : (g.name != "_") = true) (hI : P.underlying I = some (.int .i64)) (cK : P.cellsOf K = 2) (cI : P.cellsOf I = 1) (hT : P.keyType K = true) (e : Nat) (he : P.types.size = e + 1) {k : NKey} (h : WfN k) : keyOf P K (encN k) = some (nlit k) := by
  obtain ⟨h1, h2⟩ := h
  have hf : (encN k).formed P K = true := by simp [Value.formed, encN, hu, cK]
  unfold keyOf
  rw [hu]
  dsimp only
  rw [hT, hf]
  simp only [Bool.and_self, if_true]
  rw [keyLits_struct hu, he]
  simp [encN, Value.cells, cK, cI, f1, f2, f3, g1, g2, g3, keyLits_int hI, h1, h2, nlit]
end
theorem nkeyRow : 197 < Tryz.prog.types.size := of_decide_eq_true (by kernel_rfl)
theorem nkeyWide : (match Tryz.prog.underlying 197 with | some (.array _ _) | some (.struct _) => true | _ => false) = true := by kernel_rfl
set_option maxRecDepth 100000 in
theorem lawN : Keyed Tryz.prog 197 := Keyed.of_law (deep_law_laid keyOut (m := 2) (by omega) nkeyRow (by kernel_rfl) nkeyWide)
theorem nkeyIs : Tryz.prog.keyType 197 = true := by kernel_rfl
theorem nkeyCells : Tryz.prog.cellsOf 197 = 2 := by kernel_rfl
set_option maxRecDepth 100000 in
theorem nkey_mk {k : NKey} (h : WfN k) : keyOf Tryz.prog 197 (encN k) = some (nlit k) := by
  obtain ⟨e, he⟩ := keySize
  exact nkey_mkP Tryz.underlying197 rfl rfl (by decide) rfl rfl (by decide) Tryz.underlying3 nkeyCells keyCellsI nkeyIs e he h
theorem nlit_ne {a b : NKey} (ha : WfN a) (hb : WfN b) (h : a ≠ b) : nlit a ≠ nlit b := fun e => h (encN_inj (lawN.inj (nkey_mk ha) (by rw [e]; exact nkey_mk hb)))
theorem nlit_is {k : NKey} : WideAt.IsKeyLit (nlit k) := trivial
theorem wfN_of {k : NKey} (h0 : -2 ^ 63 ≤ k.1) (h1 : k.1 < 2 ^ 63) (h2 : -2 ^ 63 ≤ k.2) (h3 : k.2 < 2 ^ 63) : WfN k := ⟨wf_i64 h0 h1, wf_i64 h2 h3⟩
def ReadsN (D : DataW Unit) (f : NSta) : Prop := ∀ k, WfN k → match f k with
  | none => has D (nlit k) = false
  | some c => ∀ z, D.atKey (nlit k) z = datO c
theorem ReadsN.gone {D : DataW Unit} {f : NSta} (h : ReadsN D f) {k : NKey} (hk : WfN k) (hf : f k = none) : has D (nlit k) = false := by
  have := h k hk; rw [hf] at this; exact this
theorem ReadsN.held {D : DataW Unit} {f : NSta} (h : ReadsN D f) {k : NKey} (hk : WfN k) {c : OpX} (hf : f k = some c) (z : DataW Unit) : D.atKey (nlit k) z = datO c := by
  have := h k hk; rw [hf] at this; exact this z
theorem ReadsN.has {D : DataW Unit} {f : NSta} (h : ReadsN D f) {k : NKey} (hk : WfN k) : Maps.has D (nlit k) = (f k).isSome := by
  cases hf : f k with
  | none => rw [h.gone hk hf]; rfl
  | some p => rw [has_true_of_atKey (h.held hk hf)]; rfl
theorem ReadsN.at {D : DataW Unit} {f : NSta} (h : ReadsN D f) {k : NKey} (hk : WfN k) : D.atKey (nlit k) (datO zeroO) = datO ((f k).getD zeroO) := by
  cases hf : f k with
  | none => rw [atKey_of_not_has (h.gone hk hf)]; rfl
  | some p => rw [h.held hk hf]; rfl
theorem readsN_put {D : DataW Unit} {f : NSta} (h : ReadsN D f) (hD : IsMap D) {k : NKey} (hk : WfN k) (c : OpX) : ReadsN (D.put (nlit k) (datO c)) (fun x => if x = k then some c else f x) := by
  intro x hx
  dsimp only
  by_cases e : x = k
  · subst e
    rw [if_pos rfl]
    exact fun z => atKey_put_same hD nlit_is _ _
  · rw [if_neg e]
    cases hf : f x with
    | none => rw [has_put_other (nlit_ne hx hk e)]; exact h.gone hx hf
    | some q => intro z; rw [atKey_put_other (nlit_ne hx hk e)]; exact h.held hx hf z
def NMapAt (w : World) (b n : Nat) (f : NSta) : Prop := ∃ D, w.ownsMap Tryz.prog 197 opR b n D ∧ ReadsN D f
theorem NMapAt.lt {w : World} {b n : Nat} {f : NSta} (h : NMapAt w b n f) : b < w.heap.size := by
  obtain ⟨D, h, _⟩ := h; exact h.lt
theorem NMapAt.same {w w' : World} {b n : Nat} {f : NSta} (h : NMapAt w b n f) (e : w'.heap[b]? = w.heap[b]?) : NMapAt w' b n f := by
  obtain ⟨D, ⟨es, clock, hb, F⟩, r⟩ := h
  exact ⟨D, ⟨es, clock, e.trans hb, F⟩, r⟩
theorem nmapAt_made (w : World) : NMapAt (w.alloc (.map #[] 0)) w.heap.size 0 noN :=
  ⟨_, World.ownsMap_made w Tryz.prog 197 opR, fun _ _ => rfl⟩
theorem zeroOp (w : World) : (zeroValue 31).run Tryz.prog w = .ok (encO zeroO) w := Tryz.zeroValue31 w
theorem NMapAt.look {w : World} {b n : Nat} {f : NSta} (h : NMapAt w b n f) {k : NKey} (hk : WfN k) :
    (Instr.lookup 192 (.map (some b)) (encN k) true).run Tryz.prog w = .ok (.tuple #[encO ((f k).getD zeroO), .bool (f k).isSome]) w := by
  obtain ⟨D, h, r⟩ := h
  obtain ⟨v, ps, hrun, hv⟩ := h.look_ok lawN Tryz.underlying192 (zeroOp w) (opR_mk zeroO) (nkey_mk hk)
  obtain ⟨p, rfl, hp⟩ := opR_inv hv
  rw [r.at hk, Prod.mk.injEq] at hp
  rw [hrun, r.has hk, datO_inj hp.1]
theorem NMapAt.store {w : World} {b n : Nat} {f : NSta} (h : NMapAt w b n f) (hn : n < maxLen) {k : NKey} (hk : WfN k) (c : OpX) :
    ∃ w', (Instr.mapUpdate 192 (.map (some b)) (encN k) (encO c)).run Tryz.prog w = .ok () w' ∧ NMapAt w' b (n + 1) (fun x => if x = k then some c else f x) ∧ w.mapTurned w' b := by
  obtain ⟨D, h, r⟩ := h
  obtain ⟨w', hrun, h', ht⟩ := h.store lawN Tryz.underlying192 hn (nkey_mk hk) (opR_mk c)
  exact ⟨w', hrun, ⟨_, h', readsN_put r h.isMap hk c⟩, ht⟩
end Go.Proofs.YtcggmagdndhkbaaGreatDoor
end
section
set_option linter.unusedVariables false
namespace Go.Proofs.YtcggmagdndhkbaaGreatDoor
open Go.RowKit Go.Lib Go.Sort
def kV (ao : Nat → Option Addr) (cap : Nat → Nat) (R : Rws) : Value := .agg #[.slice (ao 0) (R 0).length (cap 0), .slice (ao 1) (R 1).length (cap 1), .slice (ao 2) (R 2).length (cap 2), .slice (ao 3) (R 3).length (cap 3)]
def KnownAt (w : World) (ao : Nat → Option Addr) (R : Rws) : Prop := ∀ i, i < 4 → OpsIn w (ao i) (R i)
theorem KnownAt.later {w w' : World} {ao : Nat → Option Addr} {R : Rws} (h : KnownAt w ao R) (hb : Below w.heap.size w w') : KnownAt w' ao R := fun i hi => (h i hi).later hb
def KBox (w : World) (b : Nat) (ao : Nat → Option Addr) (cap : Nat → Nat) (R : Rws) : Prop := w.heap[b]? = some (.cells #[.slice (ao 0) (R 0).length (cap 0), .slice (ao 1) (R 1).length (cap 1), .slice (ao 2) (R 2).length (cap 2), .slice (ao 3) (R 3).length (cap 3)] 79 (0, 0))
theorem KBox.at {w : World} {b : Nat} {ao : Nat → Option Addr} {cap : Nat → Nat} {R : Rws} (h : KBox w b ao cap R) {i : Nat} (hi : i < 4) : w.cell? ⟨b, i, none⟩ = some (.slice (ao i) (R i).length (cap i)) := by
  unfold KBox at h
  match i, hi with
  | 0, _ => simp [World.cell?, h]
  | 1, _ => simp [World.cell?, h]
  | 2, _ => simp [World.cell?, h]
  | 3, _ => simp [World.cell?, h]
theorem KBox.fz {w : World} {b : Nat} {ao : Nat → Option Addr} {cap : Nat → Nat} {R : Rws} (h : KBox w b ao cap R) (o : Nat) : w.frozen? ⟨b, o, none⟩ = false := by
  unfold KBox at h; simp [World.frozen?, h]
theorem KBox.lt {w : World} {b : Nat} {ao : Nat → Option Addr} {cap : Nat → Nat} {R : Rws} (h : KBox w b ao cap R) : b < w.heap.size := (Array.getElem?_eq_some_iff.1 h).1
theorem KBox.new (w : World) (ao : Nat → Option Addr) (cap : Nat → Nat) (R : Rws) : KBox (w.alloc (.cells #[.slice (ao 0) (R 0).length (cap 0), .slice (ao 1) (R 1).length (cap 1), .slice (ao 2) (R 2).length (cap 2), .slice (ao 3) (R 3).length (cap 3)] 79)) w.heap.size ao cap R := heap_alloc_new w _
theorem KBox.later {w w' : World} {b : Nat} {ao : Nat → Option Addr} {cap : Nat → Nat} {R : Rws} (h : KBox w b ao cap R) (hb : Below w.heap.size w w') : KBox w' b ao cap R := (hb.block b h.lt).trans h
theorem OpsIn.get {w : World} {ao : Option Addr} {xs : List OpX} (h : OpsIn w ao xs) {i : Nat} {x : OpX} (hi : xs[i]? = some x) : ∃ blk off, ao = some ⟨blk, off, none⟩ ∧ ∀ c u, (encX x)[c]? = some u → w.cell? ⟨blk, off + i * 8 + c, none⟩ = some u := by
  rcases h with h | ⟨b, o, h1, h2⟩
  · subst h; simp at hi
  · refine ⟨b, o, h1, fun c u hc => ?_⟩
    have hl := (List.getElem?_eq_some_iff.1 hi)
    have h8 : c < 8 := (List.getElem?_eq_some_iff.1 hc).1
    have e := cellsOf_get xs i c hl.1 h8
    rw [Nat.add_assoc]
    refine h2 _ _ (e.trans ?_)
    rw [getElem!_pos xs i hl.1, hl.2, getElem!_pos _ c (by rw [encX_len]; exact h8), ← (List.getElem?_eq_some_iff.1 hc).2]
theorem results_ct {fn : Func} {p u : Tmp} {ty : TypeId} (h : fn.results = #[.cell p ty, .tmp u]) (tmps : Array Value) (P : Program) (w : World) :
    (results fn tmps).run P w =
      ((asAddr (tmps.getD p undef)).run P w).andThen fun a w1 => ((loadVar ty a).run P w1).andThen fun v w2 => .ok (.tuple #[v, tmps.getD u undef]) w2 := by
  simp only [results, h]
  simp [Sem.run_bind, Result.andThen]
set_option maxRecDepth 100000 in
set_option maxHeartbeats 1000000 in
theorem number_none (w : World) (ao : Nat → Option Addr) (cap : Nat → Nat) (R : Rws) (i n : Nat) (hi : i < 4) (hx : (R i).length ≤ n) :
    Calls Tryz.prog 109 #[kV ao cap R, .int .i64 (i : Int), .int .i64 ((n : Int) + 1)] w fun e w' => e = .returned (.tuple #[encO zeroO, .bool false]) ∧ Below w.heap.size w w' := by
  unfold kV
  have dn : decide (((R i).length : Int) < (n : Int) + 1) = true := by simp; omega
  have h4 : i = 0 ∨ i = 1 ∨ i = 2 ∨ i = 3 := by omega
  rcases h4 with rfl | rfl | rfl | rfl
  all_goals
    go_enter Tryz.func109, Tryz.ntmps109
    go_wp2
    (try simp only [Exit.inBlock, Exit.then])
    refine bodyPost_ret (v := .tuple #[encO zeroO, .bool false]) ?_ rfl ⟨rfl, ?_⟩
    · rw [results_ct rfl]
      unfold encO zeroO
      go_simp
    · exact ((Below.refl _ w).alloc (Nat.le_refl _) _).alloc (by simp) _
set_option maxRecDepth 100000 in
set_option maxHeartbeats 1000000 in
theorem number_some (w : World) (ao : Nat → Option Addr) (cap : Nat → Nat) (R : Rws) (i n : Nat) (x : OpX) (hK : KnownAt w ao R) (hi : i < 4) (hn : n < 1000) (hx : (R i)[n]? = some x) :
    Calls Tryz.prog 109 #[kV ao cap R, .int .i64 (i : Int), .int .i64 ((n : Int) + 1)] w fun e w' => e = .returned (.tuple #[encO x, .bool true]) ∧ Below w.heap.size w w' := by
  obtain ⟨blk, off, ha, hc⟩ := (hK i hi).get hx
  have hln := (List.getElem?_eq_some_iff.1 hx).1
  obtain ⟨t, b, m, k, nd, o, s, v⟩ := x
  have hbl : blk < w.heap.size := World.block_lt_of_cell? w ⟨blk, off + n * 8 + 0, none⟩ (hc 0 _ rfl)
  have hcell : ∀ o1 o2 c u, (encX (t, b, m, k, nd, o, s, v))[c]? = some u → ((w.alloc o1).alloc o2).cell? ⟨blk, off + n * 8 + c, none⟩ = some u := fun o1 o2 c u hu => by
    rw [(((Below.refl w.heap.size w).alloc (Nat.le_refl _) o1).alloc (by simp) o2).cell (p := ⟨blk, off + n * 8 + c, none⟩) hbl]
    exact hc c u hu
  have r0 := fun o1 o2 => hcell o1 o2 0 _ rfl
  have r1 := fun o1 o2 => hcell o1 o2 1 _ rfl
  have r2 := fun o1 o2 => hcell o1 o2 2 _ rfl
  have r3 := fun o1 o2 => hcell o1 o2 3 _ rfl
  have r4 := fun o1 o2 => hcell o1 o2 4 _ rfl
  have r5 := fun o1 o2 => hcell o1 o2 5 _ rfl
  have r6 := fun o1 o2 => hcell o1 o2 6 _ rfl
  have r7 := fun o1 o2 => hcell o1 o2 7 _ rfl
  simp only [Nat.add_zero] at r0
  clear hcell hc
  have dn : decide (((R i).length : Int) < (n : Int) + 1) = false := by simp; omega
  have en : ((n : Int) + 1 - 1) = (n : Int) := by omega
  have wn : ((n : Int)).toNat = n := by omega
  have pn : (0 : Int) ≤ (n : Int) := by omega
  have bn : (n : Int) < ((R i).length : Int) := by omega
  have h4 : i = 0 ∨ i = 1 ∨ i = 2 ∨ i = 3 := by omega
  unfold kV encO
  rcases h4 with rfl | rfl | rfl | rfl
  all_goals
    rw [ha]
    clear ha
    go_enter Tryz.func109, Tryz.ntmps109
    go_wp2
    (try simp only [Exit.inBlock, Exit.then])
    refine bodyPost_ret (v := .tuple #[.agg #[.int .i64 t, .int .i64 b, .int .i64 m, .int .u8 (k : Int), .int .i64 nd, .int .i64 o, .string s, .string v], .bool true]) ?_ rfl ⟨rfl, ?_⟩
    · rw [results_ct rfl]
      go_simp
    · exact ((Below.refl _ w).alloc (Nat.le_refl _) _).alloc (by simp) _
end Go.Proofs.YtcggmagdndhkbaaGreatDoor
end
section
namespace Go.Proofs.YtcggmagdndhkbaaGreatDoor
open Go.RowKit
def cmpZ (a b : Int) : Int := if a < b then -1 else if b < a then 1 else 0
set_option maxHeartbeats 400000 in
theorem nanI (a : Int) (w : World) : Calls Tryz.prog 178 #[.int .i64 a] w fun e w' => e = .returned (.bool false) ∧ w' = w := by
  have d0 : (a != a) = false := by simp
  go_enter Tryz.func178, Tryz.ntmps178
  go_wp2
  go_ret
  exact ⟨rfl, rfl⟩
set_option maxHeartbeats 400000 in
theorem cmpZ_any (a b : Int) (w : World) : Calls Tryz.prog 113 #[.int .i64 a, .int .i64 b] w fun e w' => e = .returned (.int .i64 (cmpZ a b)) ∧ w' = w := by
  unfold cmpZ
  by_cases h1 : a < b
  · have d1 : decide (a < b) = true := decide_eq_true h1
    rw [if_pos h1]
    go_enter Tryz.func113, Tryz.ntmps113
    go_wp2_with (go_at_call 178; refine (nanI _ _).mono ?_; rintro e w' ⟨rfl, rfl⟩)
    go_ret
    exact ⟨rfl, rfl⟩
  · have d1 : decide (a < b) = false := decide_eq_false h1
    rw [if_neg h1]
    by_cases h2 : b < a
    · have d2 : decide (b < a) = true := decide_eq_true h2
      rw [if_pos h2]
      go_enter Tryz.func113, Tryz.ntmps113
      go_wp2_with (go_at_call 178; refine (nanI _ _).mono ?_; rintro e w' ⟨rfl, rfl⟩)
      go_ret
      exact ⟨rfl, rfl⟩
    · have d2 : decide (b < a) = false := decide_eq_false h2
      rw [if_neg h2]
      go_enter Tryz.func113, Tryz.ntmps113
      go_wp2_with (go_at_call 178; refine (nanI _ _).mono ?_; rintro e w' ⟨rfl, rfl⟩)
      go_ret
      exact ⟨rfl, rfl⟩
end Go.Proofs.YtcggmagdndhkbaaGreatDoor
end
section
set_option linter.unusedVariables false
namespace Go.Proofs.YtcggmagdndhkbaaGreatDoor
open Go.RowKit Go.Lib Go.Sort
set_option maxHeartbeats 1000000 in
theorem closureT (x : OpX) (tm : Int) (w : World) : Calls Tryz.prog 218 #[encO x, .int .i64 tm] w fun e w' => e = .returned (.int .i64 (cmpZ x.1 tm)) ∧ Below w.heap.size w w' := by
  obtain ⟨t, b, n, k, nd, o, s, v⟩ := x
  unfold encO
  dsimp only
  go_enter Tryz.func218, Tryz.ntmps218
  go_wp2_with (go_at_call 113; refine (cmpZ_any _ _ _).mono ?_; rintro e w' ⟨rfl, rfl⟩)
  go_ret
  exact ⟨rfl, (Below.refl _ w).alloc (Nat.le_refl _) _⟩
def BsAt (xs : List OpX) (tm : Int) (i : Nat) (b : Bool) : Prop := i ≤ xs.length ∧ (∀ j x, j < i → xs[j]? = some x → x.1 < tm) ∧ (∀ j x, i ≤ j → xs[j]? = some x → tm ≤ x.1) ∧ (b = true ↔ ∃ x, xs[i]? = some x ∧ x.1 = tm)
def RisesT (xs : List OpX) : Prop := ∀ (i j : Nat) (x y : OpX), i ≤ j → xs[i]? = some x → xs[j]? = some y → x.1 ≤ y.1
set_option maxRecDepth 100000 in
set_option maxHeartbeats 2000000 in
theorem bsearch_any (ao : Option Addr) (cap : Nat) (xs : List OpX) (tm : Int) (w : World) (hin : OpsIn w ao xs) (hr : RisesT xs) (hn : xs.length ≤ 1000) :
    Calls Tryz.prog 217 #[.slice ao xs.length cap, .int .i64 tm, .func (.func 218) #[] #[]] w fun e w' => ∃ (i : Nat) (b : Bool), e = .returned (.tuple #[.int .i64 (i : Int), .bool b]) ∧ BsAt xs tm i b ∧ Below w.heap.size w w' := by
  have HI : Aside (OpsIn w ao xs ∧ RisesT xs) := ⟨hin, hr⟩
  clear hin hr
  go_enter Tryz.func217, Tryz.ntmps217
  go_wp2
  go_loopg [9, 10, 11] (xs.length + 1) (fun kx s9 s10 s11 wr => ∃ (i j : Nat), s9 = .int .i64 (i : Int) ∧ s10 = .int .i64 (j : Int) ∧ i ≤ j ∧ j ≤ xs.length ∧ j - i < kx ∧ Aside (Below w.heap.size w wr ∧ (∀ k x, k < i → xs[k]? = some x → x.1 < tm) ∧ (∀ k x, j ≤ k → xs[k]? = some x → tm ≤ x.1)))
  case atStart => exact ⟨0, xs.length, rfl, rfl, Nat.zero_le _, Nat.le_refl _, by omega, Below.refl _ w, fun k x hk => by omega, fun k x hk h => by have := (List.getElem?_eq_some_iff.1 h).1; omega⟩
  case round =>
    obtain ⟨i, j, rfl, rfl, hij, hj, hkx, A⟩ := hrel
    by_cases hlt : i < j
    · have d1 : decide ((i : Int) < (j : Int)) = true := by simp; omega
      obtain ⟨h, hh⟩ : ∃ h : Nat, h = (i + j) / 2 := ⟨_, rfl⟩
      have eh : ((i : Int) + (j : Int)) / 2 = (h : Int) := by omega
      have hl : h < xs.length := by omega
      have wh : ((h : Int)).toNat = h := by omega
      have ph : (0 : Int) ≤ (h : Int) := by omega
      have bh : (h : Int) < (xs.length : Int) := by omega
      have hih : i ≤ h ∧ h < j := by omega
      clear hh
      obtain ⟨⟨t, b, n, k, nd, o, s, v⟩, hx⟩ : ∃ x, Aside (xs[h]? = some x) := ⟨xs[h], List.getElem?_eq_getElem hl⟩
      obtain ⟨blk, off, hao, hc⟩ := (HI.out.1.later A.out.1).get hx.out
      subst hao
      have r0 := hc 0 _ rfl
      have r1 := hc 1 _ rfl
      have r2 := hc 2 _ rfl
      have r3 := hc 3 _ rfl
      have r4 := hc 4 _ rfl
      have r5 := hc 5 _ rfl
      have r6 := hc 6 _ rfl
      have r7 := hc 7 _ rfl
      simp only [Nat.add_zero] at r0
      clear hc
      have hcall := closureT (t, b, n, k, nd, o, s, v) tm wr
      unfold encO at hcall
      dsimp only at hcall
      by_cases hc : t < tm
      · have ec : cmpZ t tm = -1 := by unfold cmpZ; rw [if_pos hc]
        rw [ec] at hcall
        have HC : Aside (t < tm) := hc
        clear hc ec
        go_wp2_with (go_at_call 218; refine hcall.mono ?_; clear hcall; rintro e w' ⟨rfl, hb'⟩; have A' : Aside (Below w.heap.size w w') := (A.out.1.trans (hb'.mono A.out.1.size)); clear hb' r0 r1 r2 r3 r4 r5 r6 r7)
        go_roundg (j - h)
        case measure => omega
        case rel =>
          refine ⟨h + 1, j, by go_num, rfl, by omega, hj, by omega, A'.out, fun k' x hk hx' => ?_, A.out.2.2⟩
          have := HI.out.2 k' h x _ (by omega) hx' hx.out
          have := HC.out
          dsimp only at *
          omega
      · have hz : 0 ≤ cmpZ t tm := by unfold cmpZ; rw [if_neg hc]; split <;> omega
        obtain ⟨z, ez⟩ : ∃ z, cmpZ t tm = z := ⟨_, rfl⟩
        rw [ez] at hcall hz
        have dz : decide (z < 0) = false := by simp; omega
        have HC : Aside (¬ t < tm) := hc
        clear hc ez
        go_wp2_with (go_at_call 218; refine hcall.mono ?_; clear hcall; rintro e w' ⟨rfl, hb'⟩; have A' : Aside (Below w.heap.size w w') := (A.out.1.trans (hb'.mono A.out.1.size)); clear hb' r0 r1 r2 r3 r4 r5 r6 r7)
        go_roundg (h - i + 1)
        case measure => omega
        case rel =>
          refine ⟨i, h, rfl, rfl, by omega, by omega, by omega, A'.out, A.out.2.1, fun k' x hk hx' => ?_⟩
          have := HI.out.2 h k' _ x (by omega) hx.out hx'
          have := HC.out
          dsimp only at *
          omega
    · have d1 : decide ((i : Int) < (j : Int)) = false := by simp; omega
      obtain rfl : i = j := by omega
      by_cases hil : i < xs.length
      · have d2 : decide ((i : Int) < (xs.length : Int)) = true := by simp; omega
        have wh : ((i : Int)).toNat = i := by omega
        have ph : (0 : Int) ≤ (i : Int) := by omega
        have bh : (i : Int) < (xs.length : Int) := by omega
        obtain ⟨⟨t, b, n, k, nd, o, s, v⟩, hx⟩ : ∃ x, Aside (xs[i]? = some x) := ⟨xs[i], List.getElem?_eq_getElem hil⟩
        obtain ⟨blk, off, hao, hc⟩ := (HI.out.1.later A.out.1).get hx.out
        subst hao
        have r0 := hc 0 _ rfl
        have r1 := hc 1 _ rfl
        have r2 := hc 2 _ rfl
        have r3 := hc 3 _ rfl
        have r4 := hc 4 _ rfl
        have r5 := hc 5 _ rfl
        have r6 := hc 6 _ rfl
        have r7 := hc 7 _ rfl
        simp only [Nat.add_zero] at r0
        clear hc
        have hcall := closureT (t, b, n, k, nd, o, s, v) tm wr
        unfold encO at hcall
        dsimp only at hcall
        have hz : Aside ((cmpZ t tm == 0) = decide (t = tm)) := by
          show (cmpZ t tm == 0) = decide (t = tm)
          unfold cmpZ
          by_cases h1 : t < tm
          · rw [if_pos h1]; have : t ≠ tm := by omega
            simp [this]
          · rw [if_neg h1]
            by_cases h2 : tm < t
            · rw [if_pos h2]; have : t ≠ tm := by omega
              simp [this]
            · rw [if_neg h2]; have : t = tm := by omega
              simp [this]
        obtain ⟨z, ez⟩ : ∃ z, z = cmpZ t tm := ⟨_, rfl⟩
        rw [← ez] at hcall hz
        clear ez
        go_wp2_with (go_at_call 218; refine hcall.mono ?_; clear hcall; rintro e w' ⟨rfl, hb'⟩; have A' : Aside (Below w.heap.size w w') := (A.out.1.trans (hb'.mono A.out.1.size)); clear hb' r0 r1 r2 r3 r4 r5 r6 r7)
        go_ret2
        refine ⟨i, _, rfl, ⟨hj, A.out.2.1, A.out.2.2, ?_⟩, A'.out⟩
        rw [hz.out, decide_eq_true_iff]
        constructor
        · intro e; exact ⟨_, hx.out, e⟩
        · rintro ⟨x, hx', e⟩
          rw [hx.out] at hx'
          cases hx'
          exact e
      · have d2 : decide ((i : Int) < (xs.length : Int)) = false := by simp; omega
        go_wp2
        go_ret2
        refine ⟨i, false, rfl, ⟨hj, A.out.2.1, A.out.2.2, ?_⟩, A.out.1⟩
        constructor
        · intro e; cases e
        · rintro ⟨x, hx', e⟩
          have := (List.getElem?_eq_some_iff.1 hx').1
          omega
end Go.Proofs.YtcggmagdndhkbaaGreatDoor
end
section
namespace Go.Proofs.YtcggmagdndhkbaaGreatDoor
open Go.RowKit
theorem byteAt (s : ByteArray) (k : Nat) (h : k < s.size) : s.data.toList.drop k = s[k] :: s.data.toList.drop (k + 1) := by
  have hl : k < s.data.toList.length := by simpa using h
  rw [List.drop_eq_getElem_cons hl]
  simp
  rfl
theorem dropEnd (s : ByteArray) : s.data.toList.drop s.size = [] := by
  rw [List.drop_eq_nil_iff]; simp
end Go.Proofs.YtcggmagdndhkbaaGreatDoor
end
