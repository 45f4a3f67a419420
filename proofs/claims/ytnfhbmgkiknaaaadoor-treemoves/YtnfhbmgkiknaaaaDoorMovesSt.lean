/- The tree of the law TreeMoves and what lies beside it. -/
import Derived.Test.YtnfhbmgkiknaaaaDoorMovesErr
import Derived.Test.YtnfhbmgkiknaaaaDoorRefWalk
namespace Go.Proofs.YtnfhbmgkiknaaaaDoor
open Go.RowKit Go.Lib Go.Sort Go.Maps
open scoped Classical

/-- The tree, and the moves that it has taken, as the law keeps them. -/
structure St5 (w : World) (Bs : Nat) (ys : List OpX) (mv vt : Value) (ml : List Mov) (wr : World) : Prop where
  own : OwnSet ys
  row : wr.ownsRow w.heap.size 77 8 mv ys.length (cellsOf ys)
  tree : TreeAt w.heap.size wr (Bs + 1) Bs vt ml
  below : Below w.heap.size w wr
  low : w.heap.size ≤ Bs
theorem St5.later {w : World} {Bs : Nat} {ys : List OpX} {mv vt : Value} {ml : List Mov} {wr w' : World} (h : St5 w Bs ys mv vt ml wr) (hb : Below wr.heap.size wr w') : St5 w Bs ys mv vt ml w' :=
  ⟨h.own, owns_same h.row (fun g hg => hb.block g (h.row.lt g hg).2), h.tree.later hb, h.below.trans (hb.mono h.below.size), h.low⟩
/-- The row of moves lies apart from the tree. -/
theorem St5.apart {w : World} {Bs : Nat} {ys : List OpX} {mv vt : Value} {ml : List Mov} {wr : World} (h : St5 w Bs ys mv vt ml wr) {g : Nat} (hg : mv.ownBlock = some g) : g ≠ Bs + 1 ∧ g ≠ Bs ∧ some g ≠ vt.ownBlock := by
  have hr := h.row
  rcases hr.2 with ⟨hv, _⟩ | ⟨g', cap', cur, hv, _, hgb, _⟩
  · rw [hv] at hg; cases hg
  · rw [hv] at hg
    cases hg
    refine ⟨fun e => ?_, fun e => ?_, fun e => ?_⟩
    · have hc := h.tree.cell
      unfold TreeCell at hc
      rw [← e, hgb] at hc
      simp at hc
    · obtain ⟨n, _, hM⟩ := h.tree.map
      obtain ⟨es, ck, hb⟩ := hM.block
      rw [← e, hgb] at hb
      cases hb
    · obtain ⟨L, _, hR⟩ := h.tree.row
      rcases hR.2 with ⟨hv', _⟩ | ⟨g2, cap2, cur2, hv', _, hgb2, _⟩
      · rw [hv'] at e; cases e
      · rw [hv'] at e
        cases e
        rw [hgb] at hgb2
        simp at hgb2
theorem St5.keep {w : World} {Bs : Nat} {ys : List OpX} {mv vt vt' : Value} {ml ml' : List Mov} {wr w' : World} (h : St5 w Bs ys mv vt ml wr)
    (hk : Keeps (fun k => k = Bs + 1 ∨ k = Bs ∨ some k = vt.ownBlock) wr w') (hT : TreeAt w.heap.size w' (Bs + 1) Bs vt' ml') : St5 w Bs ys mv vt' ml' w' := by
  obtain ⟨L, _, hR⟩ := h.tree.row
  have hl := h.low
  refine ⟨h.own, owns_same h.row (fun g hg => hk.block g (h.row.lt g hg).2 (by
    obtain ⟨a1, a2, a3⟩ := h.apart hg
    rintro (e | e | e)
    · exact a1 e
    · exact a2 e
    · exact a3 e)), hT, h.below.trans (hk.below h.below.size (by rintro k (e | e | e) <;> first | omega | exact (hR.lt k e.symm).1)), h.low⟩
theorem St5.grow {w : World} {Bs : Nat} {ys ys' : List OpX} {mv mv' vt : Value} {ml : List Mov} {wr w' : World} (h : St5 w Bs ys mv vt ml wr) (hg : wr.grownBy w' mv.ownBlock) (hO : OwnSet ys') (hrow : w'.ownsRow w.heap.size 77 8 mv' ys'.length (cellsOf ys')) : St5 w Bs ys' mv' vt ml w' := by
  have hk := keeps_of_grown hg
  have hlt := h.tree.lt
  have hne : ∀ k, k < wr.heap.size → (k = Bs + 1 ∨ k = Bs ∨ some k = vt.ownBlock) → w'.heap[k]? = wr.heap[k]? := fun k hkl hs => hk.block k hkl (fun e => by
    obtain ⟨a1, a2, a3⟩ := h.apart e.symm
    rcases hs with e' | e' | e'
    · exact a1 e'
    · exact a2 e'
    · exact a3 e')
  exact ⟨hO, hrow, h.tree.same (hne _ hlt.1 (.inl rfl)) (hne _ hlt.2.1 (.inr (.inl rfl))) (fun g hg => hne g (hlt.2.2 g hg) (.inr (.inr hg.symm))), h.below.grown hg h.below.size (fun k hk => (h.row.lt k hk).1), h.low⟩

/-- What one more operation does: its error's number, and the moves then. -/
def Nxt (ys : List OpX) (x : OpX) (c : Nat) (ys' : List OpX) : Prop :=
  (c = 0 ∧ ys' = ys ++ [x] ∧ GoodX x ∧ ∀ y ∈ ys, stX y ≠ stX x) ∨ (c ≠ 0 ∧ ys' = ys ∧ (c = errX x ∨ (errX x = 0 ∧ x.2.2.2.1 ≠ 109 ∧ c = 5) ∨ (GoodX x ∧ c = 7 ∧ ∃ y ∈ ys, stX y = stX x)))
theorem Nxt.le {ys ys' : List OpX} {x : OpX} {c : Nat} (h : Nxt ys x c ys') : c ≤ 12 := by
  rcases h with ⟨rfl, _⟩ | ⟨_, _, rfl | ⟨_, _, rfl⟩ | ⟨_, rfl, _⟩⟩
  · omega
  · exact opE_le _ _ _ _ _ _ _ _
  · omega
  · omega

theorem apply_all {D : Nat} {ad : Nat → Addr} {w wr : World} {Bs : Nat} {ys ys' : List OpX} {mv vt : Value} {ml : List Mov} (t b n : Int) (k : Nat) (node other : Int) (name value : ByteArray) (c : Nat) (hE : Errs D ad wr) (S : St5 w Bs ys' mv vt ml wr) (hp : ml.Perm (ys.map movX)) (hy : ys.length ≤ 60)
    (hN : Nxt ys (t, b, n, k, node, other, name, value) c ys') (hs : Short (t, b, n, k, node, other, name, value)) :
    Calls Tryd.prog 54 #[.pointer (some ⟨Bs + 1, 0, none⟩), .agg #[.int .i64 t, .int .i64 b, .int .i64 n, .int .u8 (k : Int), .int .i64 node, .int .i64 other, .string name, .string value]] wr fun e w' => e = .returned (eV ad c) ∧ ∃ vt' ml', St5 w Bs ys' mv vt' ml' w' ∧ ml'.Perm (ys'.map movX) ∧ Keeps (fun k => k = Bs + 1 ∨ k = Bs ∨ some k = vt.ownBlock) wr w' := by
  have hn1 : name.size ≤ 1000000 := by have := hs.1; dsimp only at this; omega
  have hv1 : value.size ≤ 1000000 := by have := hs.2; dsimp only at this; omega
  have hml : ml.length ≤ 100 := by rw [hp.length_eq, List.length_map]; omega
  rcases hN with ⟨rfl, rfl, ⟨h1, h2⟩, h3⟩ | ⟨hc, rfl, h⟩
  · unfold errX at h1
    dsimp only at h1 h2
    subst h2
    refine (apply_core undo_ok wr w.heap.size (Bs + 1) Bs vt ml t b n node other name value hE.op4 S.tree S.below.size hml hn1 hv1 h1 (fun m hm => ?_)).mono ?_
    · obtain ⟨y, hy, rfl⟩ := List.mem_map.1 (hp.mem_iff.1 hm)
      exact h3 y hy
    · rintro e w' ⟨rfl, v', ms', hT, hpp, hk, -⟩
      refine ⟨rfl, v', ms', S.keep hk hT, ?_, hk⟩
      rw [List.map_append]
      exact hpp.trans ((hp.cons _).trans (List.perm_append_singleton _ _).symm)
  · rcases h with h | ⟨h1, h2, rfl⟩ | ⟨⟨h1, h2⟩, rfl, y, hym, hye⟩
    · subst h
      refine (apply_wrong wr (Bs + 1) t b n k node other name value hE.op4 hn1 hv1 hc).mono ?_
      rintro e w' ⟨rfl, hb⟩
      exact ⟨rfl, vt, ml, S.later hb, hp, (keeps_of_below hb).mono (fun k h1 h2 => absurd h2 (by omega))⟩
    · refine (apply_kind wr (Bs + 1) t b n k node other name value hE.op4 hn1 hv1 h1 h2).mono ?_
      rintro e w' ⟨rfl, hb⟩
      exact ⟨rfl, vt, ml, S.later hb, hp, (keeps_of_below hb).mono (fun k h1 h2 => absurd h2 (by omega))⟩
    · unfold errX at h1
      dsimp only at h1 h2
      subst h2
      refine (apply_exist wr w.heap.size (Bs + 1) Bs vt ml t b n node other name value hE S.tree hml hn1 hv1 h1 ⟨movX y, hp.mem_iff.2 (List.mem_map.2 ⟨y, hym, rfl⟩), hye⟩).mono ?_
      rintro e w' ⟨rfl, hb⟩
      exact ⟨rfl, vt, ml, S.later hb, hp, (keeps_of_below hb).mono (fun k h1 h2 => absurd h2 (by omega))⟩

theorem plc_over {w : World} {b : Nat} {p : Plc} (h : PlcAt w b p) (c q : Int) (nm : ByteArray) : PlcAt (((w.setCell ⟨b, 0, none⟩ (.int .i64 c)).setCell ⟨b, 1, none⟩ (.int .i64 q)).setCell ⟨b, 2, none⟩ (.string nm)) b (c, q, nm) := by
  unfold PlcAt at h ⊢
  have h1 := heap_setCell_same w b 0 _ _ (.int .i64 c) h
  have h2 := heap_setCell_same (w.setCell ⟨b, 0, none⟩ (.int .i64 c)) b 1 _ _ (.int .i64 q) h1
  have h3 := heap_setCell_same ((w.setCell ⟨b, 0, none⟩ (.int .i64 c)).setCell ⟨b, 1, none⟩ (.int .i64 q)) b 2 _ _ (.string nm) h2
  rw [h3]
  rfl
/-- The two places that the law compares, laid behind w. -/
structure Two (w11 : World) (Bx : Nat) (pc pq : Int) (pn : ByteArray) (cur : Plc) (wr : World) : Prop where
  one : PlcAt wr Bx (pc, pq, pn)
  two : PlcAt wr (Bx + 1) cur
  below : Below w11.heap.size w11 wr
  bx : w11.heap.size = Bx
theorem two_new (w : World) (pc pq : Int) (pn : ByteArray) : Two w w.heap.size pc pq pn zeroP ((w.alloc (.cells #[.int .i64 pc, .int .i64 pq, .string pn] 95)).alloc (.cells #[.int .i64 0, .int .i64 0, .string ⟨#[]⟩] 95)) := by
  refine ⟨?_, ?_, ((Below.refl _ w).alloc (Nat.le_refl _) _).alloc (by simp) _, rfl⟩
  · unfold PlcAt
    rw [Below.heap_alloc _ _ _ (by simp)]
    exact heap_alloc_new w _
  · unfold PlcAt
    have := heap_alloc_new (w.alloc (.cells #[.int .i64 pc, .int .i64 pq, .string pn] 95)) (.cells #[.int .i64 0, .int .i64 0, .string ⟨#[]⟩] 95)
    rw [show (w.alloc (.cells #[.int .i64 pc, .int .i64 pq, .string pn] 95)).heap.size = w.heap.size + 1 by simp] at this
    exact this
theorem Two.drewN {w11 : World} {Bx : Nat} {pc pq : Int} {pn : ByteArray} {cur : Plc} {wr : World} (h : Two w11 Bx pc pq pn cur wr) (q : Nat) : Two w11 Bx pc pq pn cur (wr.drewN q) := ⟨h.one, h.two, below_drewN h.below q, h.bx⟩
theorem Two.drew {w11 : World} {Bx : Nat} {pc pq : Int} {pn : ByteArray} {cur : Plc} {wr : World} (h : Two w11 Bx pc pq pn cur wr) : Two w11 Bx pc pq pn cur wr.drew := ⟨h.one, h.two, h.below.drew, h.bx⟩
theorem Two.set {w11 : World} {Bx : Nat} {pc pq : Int} {pn : ByteArray} {cur : Plc} {wr : World} (h : Two w11 Bx pc pq pn cur wr) (c q : Int) (nm : ByteArray) : Two w11 Bx pc pq pn (c, q, nm) (((wr.setCell ⟨Bx + 1, 0, none⟩ (.int .i64 c)).setCell ⟨Bx + 1, 1, none⟩ (.int .i64 q)).setCell ⟨Bx + 1, 2, none⟩ (.string nm)) := by
  have hk := three_keeps wr (Bx + 1) 0 1 2 (.int .i64 c) (.int .i64 q) (.string nm)
  have hx := h.bx
  refine ⟨?_, plc_over h.two c q nm, h.below.trans (hk.below h.below.size (fun k e => by omega)), h.bx⟩
  have := h.one
  unfold PlcAt at this ⊢
  rw [hk.block Bx (Array.getElem?_eq_some_iff.1 this).1 (by omega)]
  exact this
/-- Both the tree and the reference's places. -/
structure Bd (w : World) (Bs : Nat) (ys : List OpX) (mv vt : Value) (ml : List Mov) (pv : Value) (qs : List Plc) (wr : World) : Prop where
  st : St5 w Bs ys mv vt ml wr
  perm : ml.Perm (ys.map movX)
  pls : IsPlaces (madeBy ml) qs
  at_ : PlsAt wr pv qs
theorem Bd.later {w : World} {Bs : Nat} {ys : List OpX} {mv vt : Value} {ml : List Mov} {pv : Value} {qs : List Plc} {wr w' : World} (h : Bd w Bs ys mv vt ml pv qs wr) (hb : Below wr.heap.size wr w') : Bd w Bs ys mv vt ml pv qs w' :=
  ⟨h.st.later hb, h.perm, h.pls, h.at_.later hb⟩
theorem bd_of {w w0 w3 w4 : World} {Bs : Nat} {ys : List OpX} {mv vt vt' : Value} {ml ml' ms : List Mov} {pv : Value} {qs : List Plc} (h0 : St5 w Bs ys mv vt ml w0) (hrow : w3.ownsRow w0.heap.size 98 3 pv qs.length (flat cellsP qs)) (_hb : Below w0.heap.size w0 w3) (hk : Keeps (fun k => k = Bs + 1 ∨ k = Bs ∨ some k = vt.ownBlock) w3 w4) (h4 : St5 w Bs ys mv vt' ml' w4) (hp : ml'.Perm (ys.map movX)) (hm : ms.Perm (ys.map movX)) (hby : ByStamp ms) (hpl : IsPlaces (madeBy ms) qs) : Bd w Bs ys mv vt' ml' pv qs w4 := by
  obtain rfl : ms = ml' := byStamp_unique (hm.trans hp.symm) hby h4.tree.by_
  refine ⟨h4, hp, hpl, ?_⟩
  have hlt := h0.tree.lt
  refine plsOwn (base := w0.heap.size) (e := 98) (owns_same hrow (fun g hg => hk.block g (hrow.lt g hg).2 (by
    have := (hrow.lt g hg).1
    rintro (e | e | e)
    · omega
    · omega
    · have := hlt.2.2 g e.symm; omega)))
/-- Of a list the last place of a node. -/
def seenL (l : List Plc) (nd : Int) : Option Plc := l.foldl (fun a p => if p.1 = nd then some p else a) none
theorem seenL_snoc (l : List Plc) (p : Plc) (nd : Int) : seenL (l ++ [p]) nd = if p.1 = nd then some p else seenL l nd := by simp [seenL]
theorem seenL_take {qs : List Plc} {k : Nat} {p : Plc} (h : qs[k]? = some p) (nd : Int) : seenL (qs.take (k + 1)) nd = if p.1 = nd then some p else seenL (qs.take k) nd := by
  rw [List.take_add_one, h]
  exact seenL_snoc _ _ _
theorem seenL_some (nd : Int) : ∀ (l : List Plc) (a : Option Plc) (p : Plc), l.foldl (fun a p => if p.1 = nd then some p else a) a = some p → (p ∈ l ∧ p.1 = nd) ∨ a = some p
  | [], a, p, h => .inr h
  | q :: r, a, p, h => by
    rcases seenL_some nd r _ p h with ⟨h1, h2⟩ | h1
    · exact .inl ⟨by simp [h1], h2⟩
    · dsimp only at h1
      split at h1
      · cases h1; exact .inl ⟨by simp, by assumption⟩
      · exact .inr h1
theorem seenL_none (nd : Int) : ∀ (l : List Plc) (a : Option Plc), l.foldl (fun a p => if p.1 = nd then some p else a) a = none → a = none ∧ ∀ p ∈ l, p.1 ≠ nd
  | [], a, h => ⟨h, fun p hp => by simp at hp⟩
  | q :: r, a, h => by
    obtain ⟨h1, h2⟩ := seenL_none nd r _ h
    dsimp only at h1
    split at h1
    · cases h1
    · refine ⟨h1, fun p hp => ?_⟩
      rcases List.mem_cons.1 hp with rfl | hp
      · assumption
      · exact h2 p hp
theorem seen_all {f : Sta} {qs : List Plc} (G : Good f) (hp : IsPlaces f qs) (nd : Int) : seenL qs nd = f nd := by
  cases h : seenL qs nd with
  | none =>
    cases hf : f nd with
    | none => rfl
    | some p =>
      have hk := G.key nd p hf
      exact absurd hk ((seenL_none nd qs none h).2 p ((hp.mem p).2 (by rw [hk]; exact hf)))
  | some p =>
    rcases seenL_some nd qs none p h with ⟨h1, h2⟩ | h1
    · have := (hp.mem p).1 h1
      rw [h2] at this
      exact this.symm
    · cases h1
end Go.Proofs.YtnfhbmgkiknaaaaDoor
