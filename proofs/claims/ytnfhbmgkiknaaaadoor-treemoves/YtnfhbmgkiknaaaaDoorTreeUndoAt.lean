/- Contract of package tree's log: undoFrom, in a tree's words. -/
import Derived.Test.YtnfhbmgkiknaaaaDoorTreeUndo
import Derived.Test.YtnfhbmgkiknaaaaDoorTreeAt
namespace Go.Proofs.YtnfhbmgkiknaaaaDoor
open Go.RowKit Go.Maps
open scoped Classical

/-- The log's entries from a place on, as the iterator reads them. -/
theorem undo_at (w : World) (base bt bm n at_ : Nat) (v : Value) (ms : List Mov) (L : List Ent) (hT : TreeCell w bt bm v) (hL : LogTo ms ms.length L) (hR : w.ownsRow base 138 8 v ms.length (flat encE L)) (hM : MapAt Tryd.prog 3 w bm n (madeBy ms)) (hfine : ∀ m ∈ ms, FineP m.2) (hat : at_ ≤ ms.length) (hlen : ms.length ≤ 1000) (hn : n ≤ 1000000) :
    Calls Tryd.prog 83 #[.pointer (some ⟨bt, 0, none⟩), .int .i64 (at_ : Int)] w fun e w' => (∃ u, e = .returned u) ∧ MapAt Tryd.prog 3 w' bm (n + (ms.length - at_)) (madeBy (ms.take at_)) ∧ Keeps (fun k => k = bm) w w' := by
  have hll : (L.drop at_).length = ms.length - at_ := by rw [List.length_drop, hL.len]
  have hent : ∀ r, r < ms.length - at_ → ∃ x, entR (L.drop at_) r = x ∧ L[ms.length - 1 - r]? = some x := fun r hr => by
    have := entR_at (L := L.drop at_) (r := r) (by omega)
    rw [List.getElem?_drop, hll] at this
    exact ⟨_, rfl, by rw [← this]; congr 1; omega⟩
  have hF : ∀ r, r < (L.drop at_).length → undo (madeBy (ms.take (ms.length - r))) (entR (L.drop at_) r).1.2.1 (entR (L.drop at_) r).2 = madeBy (ms.take (ms.length - (r + 1))) := fun r hr => by
    obtain ⟨x, h1, h2⟩ := hent r (by omega)
    rw [h1]
    have hmx := hL.mov h2
    have hfr := hL.from_ _ x (by omega) h2
    rw [fromAt_some hmx] at hfr
    have hmt := made_take hmx
    have hg : Good (madeBy (ms.take (ms.length - 1 - r))) := good_made (fun m hm => hfine m (List.mem_of_mem_take hm))
    rw [show ms.length - 1 - r + 1 = ms.length - r by omega] at hmt
    rw [hmt, hfr, show ms.length - (r + 1) = ms.length - 1 - r by omega]
    exact undo_step hg
  have hwf : ∀ r, Wf (entR (L.drop at_) r).1.2.1 := fun r => by
    by_cases hr : r < ms.length - at_
    · obtain ⟨x, h1, h2⟩ := hent r hr
      rw [h1]
      exact (wf_fine (hfine _ (List.mem_of_getElem? (hL.mov h2)))).1
    · by_cases h0 : (L.drop at_).length = 0
      · have : L.drop at_ = [] := List.length_eq_zero_iff.1 h0
        rw [this]
        exact (show Wf 0 from wf_of (by decide) (by decide))
      · have hz : (L.drop at_)[(L.drop at_).length - 1 - r]? = some (entR (L.drop at_) r) := by
          unfold entR
          rw [List.getD_eq_getElem?_getD, List.getElem?_eq_getElem (by omega)]
          rfl
        rw [List.getElem?_drop] at hz
        exact (wf_fine (hfine _ (List.mem_of_getElem? (hL.mov hz)))).1
  have h0 : madeBy (ms.take (ms.length - 0)) = madeBy ms := by rw [Nat.sub_zero, List.take_length]
  have hM0 : MapAt Tryd.prog 3 w bm n ((fun r => madeBy (ms.take (ms.length - r))) 0) := by show MapAt _ _ _ _ _ (madeBy (ms.take (ms.length - 0))); rw [h0]; exact hM
  have fin : ∀ g off (ao bo : Option Addr) (cap : Nat), v = .slice ao ms.length cap → (if cap = at_ then ao else Option.map (fun x => x.add (at_ * 8)) ao) = bo → (L.drop at_ = [] ∨ bo = some ⟨g, off, none⟩) → g < w.heap.size → g ≠ bm → RowAt w g off (L.drop at_) →
      Calls Tryd.prog 83 #[.pointer (some ⟨bt, 0, none⟩), .int .i64 (at_ : Int)] w fun e w' => (∃ u, e = .returned u) ∧ MapAt Tryd.prog 3 w' bm (n + (ms.length - at_)) (madeBy (ms.take at_)) ∧ Keeps (fun k => k = bm) w w' := fun g off ao bo cap hv hbo hao hg hgm hrow => by
    refine (undo_core w bt bm g off cap at_ ms.length n ao bo (L.drop at_) (fun r => madeBy (ms.take (ms.length - r))) hat hll.symm hlen hn hT.c0 (by rw [← hv]; exact hT.c1) hbo hao hg hgm hrow hM0 hF hwf).mono ?_
    rintro e w' ⟨h1, h2, h3⟩
    rw [hll] at h2
    rw [show ms.length - (ms.length - at_) = at_ by omega] at h2
    exact ⟨h1, h2, h3⟩
  have hempty : ms.length = at_ → L.drop at_ = [] := fun h => List.length_eq_zero_iff.1 (by rw [hll]; omega)
  have hRow0 : L.drop at_ = [] → ∀ g off, RowAt w g off (L.drop at_) := fun h g off j u hj => by rw [h] at hj; simp [flat] at hj
  rcases hR.2 with ⟨hv, h0⟩ | ⟨g, cap, cur, hv, _, hg, hnc, _⟩
  · exact fin bt 0 none none 0 (by rw [hv, h0]) (by simp) (.inl (hempty (by omega))) hT.lt (hT.ne_map hM) (hRow0 (hempty (by omega)) _ _)
  · subst hv
    have hgl : g < w.heap.size := (Array.getElem?_eq_some_iff.1 hg).1
    have hgm := row_ne_map hR hM
    by_cases hc : cap = at_
    · exact fin g 0 (some ⟨g, 0, none⟩) _ cap rfl rfl (.inl (hempty (by omega))) hgl hgm (hRow0 (hempty (by omega)) _ _)
    · refine fin g (at_ * 8) (some ⟨g, 0, none⟩) (some ⟨g, at_ * 8, none⟩) cap rfl (by rw [if_neg hc, Option.map_some, Addr.add_lit, Nat.zero_add]) (.inr rfl) hgl hgm (fun j u hj => ?_)
      have := row_at hR (at_ * 8 + j) u (by rw [← flat_drop encE_len L at_ (by rw [hL.len]; exact hat), List.getElem?_drop] at hj; exact hj)
      rwa [Nat.zero_add] at this
theorem undo_ok : UndoOk := undo_at
end Go.Proofs.YtnfhbmgkiknaaaaDoor
