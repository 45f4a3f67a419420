/- Contract of the reference's lay: a letter is laid in. -/
import Derived.Test.YtchngdhmloahbabDoorRefLine
set_option linter.unusedVariables false
set_option linter.unusedSimpArgs false
namespace Go.Proofs.YtchngdhmloahbabDoor
open Go.RowKit Go.Lib Go.Sort

theorem LetsIn.kept {w w' : World} {ao : Option Addr} {zs : List Ltr} (h : LetsIn w ao zs) (hk : ∀ g o, ao = some ⟨g, o, none⟩ → w'.heap[g]? = w.heap[g]?) : LetsIn w' ao zs := by
  rcases h with h | ⟨g, o, h1, h2⟩
  · exact .inl h
  · exact .inr ⟨g, o, h1, fun j u hj => by rw [World.cell?_of_block (a := ⟨g, o + j, none⟩) (hk g o h1)]; exact h2 j u hj⟩
theorem LetsIn.part {w : World} {ao : Option Addr} {zs : List Ltr} (h : LetsIn w ao zs) (k : Nat) (hk : k ≤ zs.length) : LetsIn w ao (zs.take k) ∧ LetsIn w (ao.map (fun x => x.add (k * 3))) (zs.drop k) := by
  rcases h with h | ⟨g, o, h1, h2⟩
  · subst h; exact ⟨.inl (by simp), .inl (by simp)⟩
  · refine ⟨.inr ⟨g, o, h1, fun j u hj => h2 j u ?_⟩, .inr ⟨g, o + k * 3, by rw [h1]; simp [Addr.add], fun j u hj => ?_⟩⟩
    · rw [← flat_take encR_len zs k hk, List.getElem?_take] at hj
      split at hj
      · exact hj
      · cases hj
    · rw [← flat_drop encR_len zs k hk, List.getElem?_drop] at hj
      rw [Nat.add_assoc]
      exact h2 _ u hj

set_option maxRecDepth 100000 in
set_option maxHeartbeats 2000000 in
theorem rlay_any (w : World) (base p k : Nat) (v : Value) (L : List Ltr) (id : Int) (c : Nat) (gn : Bool) (h : RefAt base w p v L) (hbase : base ≤ w.heap.size) (hL : L.length ≤ 900) (hk : k ≤ L.length) (hc : c < 256) :
    Calls Tryd.prog 24 #[.pointer (some ⟨p, 0, none⟩), .int .i64 (k : Int), .agg #[.int .i64 id, .int .u8 (c : Int), .bool gn]] w fun e w' => (∃ u, e = .returned u) ∧ ∃ v', RefAt base w' p v' (L.take k ++ (id, c, gn) :: L.drop k) ∧ Keeps (fun b => b = p) w w' ∧ (∀ g, v'.ownBlock = some g → w.heap.size ≤ g) := by
  obtain ⟨ao, cap, rfl⟩ := rowShape h.row
  have hnc : (ao = none → cap = 0) ∧ L.length ≤ cap := by
    rcases h.row.2 with ⟨h1, h2⟩ | ⟨g, cap', cur, hv, _, _, h3, _⟩
    · simp only [Value.slice.injEq] at h1
      exact ⟨fun _ => h1.2.2, by omega⟩
    · cases hv; exact ⟨fun e => (by cases e), h3⟩
  have hlt : ∀ g o, ao = some ⟨g, o, none⟩ → g < w.heap.size := fun g o e => by
    subst e
    rcases h.row.2 with ⟨h1, _⟩ | ⟨g', cap', cur, hv, _⟩
    · simp at h1
    · cases hv
      exact (h.row.lt g rfl).2
  -- the boxed letter
  obtain ⟨W0, hW0⟩ : ∃ W0, W0 = w.alloc (.cells #[.int .i64 id, .int .u8 (c : Int), .bool gn] 45) := ⟨_, rfl⟩
  have hs0 : W0.heap.size = w.heap.size + 1 := by rw [hW0]; simp
  have hk0 : Keeps (fun _ => False) w W0 := by rw [hW0]; exact (Keeps.refl _ w).alloc _
  have hx0 : W0.heap[w.heap.size]? = some (.cells #[.int .i64 id, .int .u8 (c : Int), .bool gn] 45 (0, 0)) := by rw [hW0]; exact heap_alloc_new w _
  have hIn := letsRow h.row
  have hI0 : LetsIn W0 ao L := hIn.kept (fun g o e => hk0.block g (hlt g o e) (fun e => e))
  have l1 : (L.take k).length = k := by rw [List.length_take]; omega
  obtain ⟨v1, W1, r1, o1, g1⟩ := append_lets (w := W0) (base := w.heap.size) (n := 0) (v := .slice none 0 0) (xs := []) (World.ownsRow_nil _ _ _ _) (by omega) (by omega) ao cap (L.take k) (by omega) (hI0.part k hk).1 hnc.1 38
  rw [l1] at r1 o1
  have hk1 : Keeps (fun _ => False) W0 W1 := (keeps_of_grown g1).mono (fun b _ e => by cases e)
  have hs1 := hk1.size
  -- the letter in a row of its own
  obtain ⟨W2, hW2⟩ : ∃ W2, W2 = W1.alloc (.cells #[.int .i64 id, .int .u8 (c : Int), .bool gn] 45) := ⟨_, rfl⟩
  have hk2 : Keeps (fun _ => False) W1 W2 := by rw [hW2]; exact (Keeps.refl _ W1).alloc _
  have hs2 : W2.heap.size = W1.heap.size + 1 := by rw [hW2]; simp
  have hx2 : W2.heap[W1.heap.size]? = some (.cells #[.int .i64 id, .int .u8 (c : Int), .bool gn] 45 (0, 0)) := by rw [hW2]; exact heap_alloc_new W1 _
  have hI2 : LetsIn W2 (some ⟨W1.heap.size, 0, none⟩) [(id, c, gn)] := .inr ⟨_, 0, rfl, fun j u hj => by
    simp only [World.cell?, hx2]
    rw [← hj]
    simp [flat, encR]⟩
  have o2 : W2.ownsRow w.heap.size 45 3 v1 (0 + k) ([] ++ flat encR (L.take k)) := ownsSame o1 (fun g hg => hk2.block g (o1.lt g hg).2 (fun e => e))
  obtain ⟨v3, W3, r3, o3, g3⟩ := append_lets (base := w.heap.size) (by rw [Nat.zero_add] at o2; exact o2) (by omega) (by omega) (some ⟨W1.heap.size, 0, none⟩) 1 [(id, c, gn)] (by simp) hI2 (fun e => by cases e) 38
  have hk3 : Keeps (fun b => some b = v1.ownBlock) W2 W3 := keeps_of_grown g3
  have hs3 := hk3.size
  have hv1 : ∀ b, some b = v1.ownBlock → w.heap.size ≤ b := fun b e => (o1.lt b e.symm).1
  have hI3 : LetsIn W3 ao L := hI0.kept (fun g o e => by
    have hg := hlt g o e
    rw [hk3.block g (by omega) (fun e' => by have := hv1 g e'; omega), hk2.block g (by omega) (fun e => e), hk1.block g (by omega) (fun e => e)])
  have hp3 : W3.heap[p]? = w.heap[p]? := by
    have hg := h.lt
    rw [hk3.block p (by omega) (fun e' => by have := hv1 p e'; omega), hk2.block p (by omega) (fun e => e), hk1.block p (by omega) (fun e => e), hk0.block p (by omega) (fun e => e)]
  have ld : (L.drop k).length = L.length - k := List.length_drop
  have o3' : W3.ownsRow w.heap.size 45 3 v3 (k + 1) (flat encR (L.take k ++ [(id, c, gn)])) := by rw [flat_append]; exact o3
  have hx1 : ∀ j u, (encR (id, c, gn))[j]? = some u → W1.cell? ⟨w.heap.size, j, none⟩ = some u := fun j u hj => by
    rw [World.cell?_of_block (a := ⟨w.heap.size, j, none⟩) (hk1.block w.heap.size (by omega) (fun e => e))]
    simp only [World.cell?, hx0]
    rw [← hj]
    simp [encR]
  have b0 : W1.cell? ⟨w.heap.size, 0, none⟩ = some (.int .i64 id) := hx1 0 _ rfl
  have b1 : W1.cell? ⟨w.heap.size, 1, none⟩ = some (.int .u8 (c : Int)) := hx1 1 _ rfl
  have b2 : W1.cell? ⟨w.heap.size, 2, none⟩ = some (.bool gn) := hx1 2 _ rfl
  have cp0 : W0.cell? ⟨p, 0, none⟩ = some (.slice ao L.length cap) := by rw [World.cell?_of_block (a := ⟨p, 0, none⟩) (hk0.block p h.lt (fun e => e))]; exact h.c0
  have cp3 : W3.cell? ⟨p, 0, none⟩ = some (.slice ao L.length cap) := by rw [World.cell?_of_block (a := ⟨p, 0, none⟩) hp3]; exact h.c0
  have FIN : ∀ ap c', LetsIn W3 ap (L.drop k) → (ap = none → c' = 0) → ∃ v4 W4, (∃ a4 n4 c4, v4 = Value.slice a4 n4 c4) ∧ (Builtin.append_ #[38, 38] 38 #[v3, .slice ap (L.length - k) c']).run Tryd.prog W3 = .ok v4 W4 ∧ W4.cell? ⟨p, 0, none⟩ = some (.slice ao L.length cap) ∧ W4.frozen? ⟨p, 0, none⟩ = false ∧ Aside (RefAt base (W4.setCell ⟨p, 0, none⟩ v4) p v4 (L.take k ++ (id, c, gn) :: L.drop k) ∧ Keeps (fun b => b = p) w (W4.setCell ⟨p, 0, none⟩ v4) ∧ (∀ g, v4.ownBlock = some g → w.heap.size ≤ g)) := fun ap c' hap hc' => by
    obtain ⟨v4, W4, r4, o4, g4⟩ := append_lets (base := w.heap.size) o3' (by omega) (by omega) ap c' (L.drop k) (by omega) hap hc' 38
    rw [ld] at r4
    have hk4 : Keeps (fun b => some b = v3.ownBlock) W3 W4 := keeps_of_grown g4
    have hv3 : ∀ b, some b = v3.ownBlock → w.heap.size ≤ b := fun b e => (o3.lt b e.symm).1
    have hg := h.lt
    have hp4 : W4.heap[p]? = w.heap[p]? := (hk4.block p (by omega) (fun e' => by have := hv3 p e'; omega)).trans hp3
    have hc4 : W4.heap[p]? = some (.cells #[.slice ao L.length cap] 40 (0, 0)) := hp4.trans h.cell
    refine ⟨v4, W4, (by obtain ⟨a4, c4, e⟩ := rowShape o4; exact ⟨_, _, _, e⟩), r4, by simp [World.cell?, hc4], by simp [World.frozen?, hc4], ?_, ?_, fun g hg => (o4.lt g hg).1⟩
    · have hks : Keeps (fun b => b = p) W4 (W4.setCell ⟨p, 0, none⟩ v4) := setCells_keeps p [_] 0 W4
      have e1 : flat encR (L.take k ++ [(id, c, gn)]) ++ flat encR (L.drop k) = flat encR (L.take k ++ (id, c, gn) :: L.drop k) := by rw [← flat_append]; simp
      have e2 : k + 1 + (L.drop k).length = (L.take k ++ (id, c, gn) :: L.drop k).length := by simp; omega
      rw [e1, e2] at o4
      have o5 : (W4.setCell ⟨p, 0, none⟩ v4).ownsRow base 45 3 v4 (L.take k ++ (id, c, gn) :: L.drop k).length (flat encR (L.take k ++ (id, c, gn) :: L.drop k)) := by
        have := ownsSame (w' := W4.setCell ⟨p, 0, none⟩ v4) o4 (fun g hg' => hks.block g (o4.lt g hg').2 (fun e => by have := (o4.lt g hg').1; omega))
        refine ⟨this.1, this.2.imp (fun e => e) ?_⟩
        rintro ⟨g, cap, cur, h1, h2, h3⟩
        exact ⟨g, cap, cur, h1, by omega, h3⟩
      refine ⟨heap_setCell_same W4 p 0 _ _ _ hc4, o5, h.low, fun l hl => ?_⟩
      rcases List.mem_append.1 hl with hl | hl
      · exact h.small l (List.mem_of_mem_take hl)
      · rcases List.mem_cons.1 hl with rfl | hl
        · exact hc
        · exact h.small l (List.mem_of_mem_drop hl)
    · refine ((((((hk0.mono (fun _ _ e => e.elim)).then hk1 (fun _ _ e => e.elim)).then hk2 (fun _ _ e => e.elim)).then hk3 (fun b hb e => ?_)).then hk4 (fun b hb e => ?_)).then (setCells_keeps p [v4] 0 W4) (fun b _ e => e))
      · have := hv1 b e; omega
      · have := hv3 b e; omega
  have HF := Lib.hid FIN
  have HI3 := Lib.hid (hI3.part k hk)
  have hlc := hnc.2
  clear FIN hI3 hI0 o1 o2 o3 o3' hk0 hk1 hk2 hk3 g1 g3 hs0 hs1 hs2 hs3 hx0 hx1 hx2 hI2 hv1 hp3 l1 ld
  rcases hIn with h0 | ⟨g, o, hao, -⟩
  · -- no letter yet
    have hL0 : L.length = 0 := by rw [h0]; rfl
    obtain rfl : k = 0 := by omega
    have hc0 : Aside (∃ v4 W4, (∃ a4 n4 c4, v4 = Value.slice a4 n4 c4) ∧ (Builtin.append_ #[38, 38] 38 #[v3, .slice ao 0 (if cap = 0 then 0 else cap)]).run Tryd.prog W3 = .ok v4 W4 ∧ W4.cell? ⟨p, 0, none⟩ = some (.slice ao L.length cap) ∧ W4.frozen? ⟨p, 0, none⟩ = false ∧ Aside (RefAt base (W4.setCell ⟨p, 0, none⟩ v4) p v4 (L.take 0 ++ (id, c, gn) :: L.drop 0) ∧ Keeps (fun b => b = p) w (W4.setCell ⟨p, 0, none⟩ v4) ∧ (∀ g, v4.ownBlock = some g → w.heap.size ≤ g))) := by
      have := HF.out ao (if cap = 0 then 0 else cap) (.inl (by rw [h0]; rfl)) (fun e => by rw [hnc.1 e]; rfl)
      rwa [hL0] at this ⊢
    obtain ⟨v4, W4, ⟨a4, n4, k4, rfl⟩, r4, c4, z4, H4⟩ := hc0.out
    have HF' := H4
    rw [hL0] at cp0 cp3
    have hcase : ao = none ∨ ∃ g, ao = some ⟨g, 0, none⟩ := by
      rcases h.row.2 with ⟨h1, _⟩ | ⟨g', cap', cur, hv, _⟩
      · simp only [Value.slice.injEq] at h1
        exact .inl h1.1
      · simp only [Value.slice.injEq] at hv
        exact .inr ⟨g', hv.1⟩
    clear HF HI3 H4 hc0 hL0 h0 hlt hlc h
    rcases hcase with rfl | ⟨g, rfl⟩
    · obtain rfl : cap = 0 := hnc.1 rfl
      rw [if_pos rfl] at r4
      clear hnc
      subst hW0 hW2
      go_enter Tryd.func24, Tryd.ntmps24
      go_upto_region 3 with (at_builtin; refine Lib.wpList_append_run _ rfl _ _ _ _ rfl _ _ rfl rfl _ _ r1 ?_)
      go_upto_region 4 with (at_builtin; refine Lib.wpList_append_run _ rfl _ _ _ _ rfl _ _ rfl rfl _ _ r3 ?_)
      go_wp2_with (at_builtin; refine Lib.wpList_append_run _ rfl _ _ _ _ rfl _ _ rfl rfl _ _ r4 ?_)
      go_end0
      exact ⟨⟨_, rfl⟩, _, HF'.out⟩
    · clear hnc
      by_cases hc1 : cap = 0
      · subst hc1
        rw [if_pos rfl] at r4
        subst hW0 hW2
        go_enter Tryd.func24, Tryd.ntmps24
        go_upto_region 3 with (at_builtin; refine Lib.wpList_append_run _ rfl _ _ _ _ rfl _ _ rfl rfl _ _ r1 ?_)
        go_upto_region 4 with (at_builtin; refine Lib.wpList_append_run _ rfl _ _ _ _ rfl _ _ rfl rfl _ _ r3 ?_)
        go_wp2_with (at_builtin; refine Lib.wpList_append_run _ rfl _ _ _ _ rfl _ _ rfl rfl _ _ r4 ?_)
        go_end0
        exact ⟨⟨_, rfl⟩, _, HF'.out⟩
      · rw [if_neg hc1] at r4
        subst hW0 hW2
        go_enter Tryd.func24, Tryd.ntmps24
        go_upto_region 3 with (at_builtin; refine Lib.wpList_append_run _ rfl _ _ _ _ rfl _ _ rfl rfl _ _ r1 ?_)
        go_upto_region 4 with (at_builtin; refine Lib.wpList_append_run _ rfl _ _ _ _ rfl _ _ rfl rfl _ _ r3 ?_)
        go_wp2_with (at_builtin; refine Lib.wpList_append_run _ rfl _ _ _ _ rfl _ _ rfl rfl _ _ r4 ?_)
        go_end0
        exact ⟨⟨_, rfl⟩, _, HF'.out⟩
  · have ho : o = 0 := by
      rcases h.row.2 with ⟨h1, _⟩ | ⟨g', cap', cur, hv, _⟩
      · rw [hao] at h1; simp at h1
      · rw [hao] at hv
        simp only [Value.slice.injEq, Option.some.injEq, Addr.mk.injEq, and_true] at hv
        exact hv.1.2
    subst hao ho
    clear h hlt hnc
    by_cases hck : cap = k
    · subst hck
      have hd0 : L.drop cap = [] := List.drop_of_length_le (by omega)
      obtain ⟨v4, W4, ⟨a4, n4, k4, rfl⟩, r4, c4, z4, H4⟩ := HF.out (some ⟨g, 0, none⟩) 0 (.inl hd0) (fun e => by simp at e)
      have HF' := H4
      clear HF HI3 H4 hd0
      have hz : L.length - cap = 0 := by omega
      rw [hz] at r4
      clear hz
      subst hW0 hW2
      go_enter Tryd.func24, Tryd.ntmps24
      go_upto_region 3 with (at_builtin; refine Lib.wpList_append_run _ rfl _ _ _ _ rfl _ _ rfl rfl _ _ r1 ?_)
      go_upto_region 4 with (at_builtin; refine Lib.wpList_append_run _ rfl _ _ _ _ rfl _ _ rfl rfl _ _ r3 ?_)
      go_wp2_with (at_builtin; refine Lib.wpList_append_run _ rfl _ _ _ _ rfl _ _ rfl rfl _ _ r4 ?_)
      go_end0
      exact ⟨⟨_, rfl⟩, _, HF'.out⟩
    · obtain ⟨v4, W4, ⟨a4, n4, k4, rfl⟩, r4, c4, z4, H4⟩ := HF.out _ (cap - k) HI3.out.2 (fun e => by simp at e)
      have HF' := H4
      clear HF HI3 H4
      simp only [Option.map_some, Addr.add_lit, Nat.zero_add] at r4
      subst hW0 hW2
      go_enter Tryd.func24, Tryd.ntmps24
      go_upto_region 3 with (at_builtin; refine Lib.wpList_append_run _ rfl _ _ _ _ rfl _ _ rfl rfl _ _ r1 ?_)
      go_upto_region 4 with (at_builtin; refine Lib.wpList_append_run _ rfl _ _ _ _ rfl _ _ rfl rfl _ _ r3 ?_)
      go_wp2_with (at_builtin; refine Lib.wpList_append_run _ rfl _ _ _ _ rfl _ _ rfl rfl _ _ r4 ?_)
      go_end0
      exact ⟨⟨_, rfl⟩, _, HF'.out⟩
end Go.Proofs.YtchngdhmloahbabDoor
