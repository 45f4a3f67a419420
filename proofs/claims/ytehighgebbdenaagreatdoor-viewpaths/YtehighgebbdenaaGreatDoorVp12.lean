import Derived.Test.YtehighgebbdenaaGreatDoorVp04
import Derived.Test.YtehighgebbdenaaGreatDoorVp08
import Derived.Test.YtehighgebbdenaaGreatDoorVp09
import Derived.Test.YtehighgebbdenaaGreatDoorVp10
import Derived.Test.YtehighgebbdenaaGreatDoorVp11
import Derived.Deep.RegionHeld3
import Derived.Deep.RegionWith
import Derived.Test.YtehighgebbdenaaGreatDoorProg
import Derived.Shelf.Spec.SlicesInsertGrow
import Derived.Lib.AppendZerosOnto
import Derived.Laws.NewBlocks
import Derived.WalkKit
import Derived.Deep.LoopGhost
import Derived.Lib.Hide
import Derived.WalkSpells
import Derived.Sort.Grow
section
namespace Go.Proofs.YtehighgebbdenaaGreatDoor
open Go.RowKit Go.Maps
open scoped Classical
structure TreeAt (base : Nat) (w : World) (bt bm : Nat) (v : Value) (ms : List Mov) : Prop where
  cell : TreeCell w bt bm v
  row : ∃ L, LogTo ms ms.length L ∧ w.ownsRow base 284 8 v ms.length (flat encE L)
  map : ∃ n, n ≤ 300 * ms.length ∧ MapAt Tryz.prog 3 w bm n (madeBy ms)
  by_ : ByStamp ms
  fine : ∀ m ∈ ms, FineP m.2
theorem TreeAt.good {base : Nat} {w : World} {bt bm : Nat} {v : Value} {ms : List Mov} (h : TreeAt base w bt bm v ms) : Good (madeBy ms) := good_made h.fine
theorem TreeAt.lt {base : Nat} {w : World} {bt bm : Nat} {v : Value} {ms : List Mov} (h : TreeAt base w bt bm v ms) : bt < w.heap.size ∧ bm < w.heap.size ∧ ∀ g, v.ownBlock = some g → g < w.heap.size := by
  obtain ⟨n, _, hM⟩ := h.map
  obtain ⟨L, _, hR⟩ := h.row
  exact ⟨h.cell.lt, hM.lt, fun g hg => (hR.lt g hg).2⟩
theorem owns_same {w w' : World} {base n : Nat} {e : TypeId} {k : Nat} {v : Value} {xs : List Value} (h : w.ownsRow base e k v n xs) (hs : ∀ g, v.ownBlock = some g → w'.heap[g]? = w.heap[g]?) : w'.ownsRow base e k v n xs := by
  refine ⟨h.1, ?_⟩
  rcases h.2 with h0 | ⟨g, cap, cur, rfl, h1, hg, h2⟩
  · exact .inl h0
  · exact .inr ⟨g, cap, cur, rfl, h1, (hs g rfl).trans hg, h2⟩
theorem TreeAt.same {base : Nat} {w w' : World} {bt bm : Nat} {v : Value} {ms : List Mov} (h : TreeAt base w bt bm v ms) (h1 : w'.heap[bt]? = w.heap[bt]?) (h2 : w'.heap[bm]? = w.heap[bm]?) (h3 : ∀ g, v.ownBlock = some g → w'.heap[g]? = w.heap[g]?) : TreeAt base w' bt bm v ms := by
  obtain ⟨n, hn, hM⟩ := h.map
  obtain ⟨L, hL, hR⟩ := h.row
  exact ⟨h1.trans h.cell, ⟨L, hL, owns_same hR h3⟩, ⟨n, hn, hM.same h2⟩, h.by_, h.fine⟩
theorem TreeAt.later {base : Nat} {w w' : World} {bt bm : Nat} {v : Value} {ms : List Mov} (h : TreeAt base w bt bm v ms) (hb : Below w.heap.size w w') : TreeAt base w' bt bm v ms :=
  h.same (hb.block _ h.lt.1) (hb.block _ h.lt.2.1) (fun g hg => hb.block g (h.lt.2.2 g hg))
theorem move_fine {t b n : Int} {node other : Int} {name value : ByteArray} (h : opE t b n 109 node other name.data.toList value.data.toList = 0) : FineP (node, other, name) := by
  have h0 := opE_zero h
  unfold opE at h
  rw [if_pos ⟨h0.1, h0.2.1, h0.2.2.1, h0.2.2.2.1, h0.2.2.2.2.1, h0.2.2.2.2.2.1⟩] at h
  unfold kindE at h
  rw [if_pos rfl] at h
  unfold moveE at h
  split at h
  · cases h
  · rename_i hc
    have hl : name.data.toList.length = name.size := by simp
    obtain ⟨_, _, _, _, _, _, _, _, _, _, _, _, h12, _⟩ := h0
    refine ⟨?_, ?_, ?_, ?_, ?_, ?_⟩ <;> dsimp only <;> omega
def UndoOk : Prop := ∀ (w : World) (base bt bm n at_ : Nat) (v : Value) (ms : List Mov) (L : List Ent), TreeCell w bt bm v → LogTo ms ms.length L → w.ownsRow base 284 8 v ms.length (flat encE L) → MapAt Tryz.prog 3 w bm n (madeBy ms) → (∀ m ∈ ms, FineP m.2) → at_ ≤ ms.length → ms.length ≤ 1000 → n ≤ 1000000 →
    Calls Tryz.prog 188 #[.pointer (some ⟨bt, 0, none⟩), .int .i64 (at_ : Int)] w fun e w' => (∃ u, e = .returned u) ∧ MapAt Tryz.prog 3 w' bm (n + (ms.length - at_)) (madeBy (ms.take at_)) ∧ Keeps (fun k => k = bm) w w'
end Go.Proofs.YtehighgebbdenaaGreatDoor
end
section
set_option linter.unusedVariables false
set_option linter.unusedSimpArgs false
namespace Go.Proofs.YtehighgebbdenaaGreatDoor
open Go.Shelf Go.RowKit Go.Lib
theorem infoLtr : (Tryz.prog.info? 250).map (fun i => (i.zero, i.size, i.bytes)) = some (some (.agg #[.int .i64 0, .int .u8 0, .bool false]), 3, 16) := by kernel_rfl
def LaidL (w : World) (base : Nat) (v : Value) (n : Nat) (ys : List Value) (e : Ending) (w' : World) : Prop :=
  ∃ v', e = .returned v' ∧ w'.ownsRow base 250 3 v' (n + 1) ys ∧ Keeps (fun k => some k = v.ownBlock) w w' ∧ (v'.ownBlock = v.ownBlock ∨ v'.ownBlock = some w.heap.size)
set_option maxRecDepth 100000 in
set_option maxHeartbeats 1000000 in
theorem linsert_end (w : World) (base : Nat) (v : Value) (n : Nat) (xs vs : List Value) (hown : w.ownsRow base 250 3 v n xs) (hn : n ≤ 1000) (vb : Nat) (hv : vs.length = 3)
    (hvs : ∀ j u, vs[j]? = some u → w.cell? ⟨vb, j, none⟩ = some u) (h1v : ∀ u ∈ vs, u.oneCell' = true) (hbase : base ≤ w.heap.size) :
    Calls Tryz.prog 193 #[v, .int .i64 n, .slice (some ⟨vb, 0, none⟩) 1 1] w (LaidL w base v n (xs ++ vs)) := by
  obtain ⟨i0, hi, hz0, hz1, hz2⟩ := info_parts infoLtr
  obtain ⟨v', w', hrun, ho, hg, hb⟩ := append_at (P := Tryz.prog) w base 246 246 250 i0 _ 3 16 Tryz.underlying246 hi hz0 hz1 hz2 rfl (by omega) v n xs hown ⟨vb, 0, none⟩ 1 1 (by omega) vs (by omega)
    (fun j u hj => by rw [Addr.add_lit, Nat.zero_add]; exact hvs j u hj) h1v (by simp only [maxLen]; omega) (by omega) hbase
  have hfin : Aside (LaidL w base v n (xs ++ vs) (.returned v') w') := ⟨v', rfl, ho, keeps_of_grown hg, hb⟩
  rcases hown.2 with ⟨rfl, rfl⟩ | ⟨g, cap, cur, rfl, hbg, hgb, hnc, hcm, hcs, htake⟩
  · clear hown ho hg hb hvs h1v
    go_enter Tryz.func193, Tryz.ntmps193
    go_wp2_with (at_builtin; refine Lib.wpList_append_run _ rfl _ _ _ _ rfl _ _ rfl rfl _ _ hrun ?_)
    go_ret
    exact hfin.out
  · clear hown ho hg hb hvs h1v htake hcs hgb hbg
    go_enter Tryz.func193, Tryz.ntmps193
    go_wp2_with (at_builtin; refine Lib.wpList_append_run _ rfl _ _ _ _ rfl _ _ rfl rfl _ _ hrun ?_)
    all_goals (go_ret; exact hfin.out)
set_option maxRecDepth 100000 in
set_option maxHeartbeats 4000000 in
theorem linsert_room (w : World) (base g n cap i : Nat) (xs vs : List Value) (hown : w.ownsRow base 250 3 (.slice (some ⟨g, 0, none⟩) n cap) n xs) (hn : n ≤ 1000) (vb : Nat) (hv : vs.length = 3)
    (hvs : ∀ j u, vs[j]? = some u → w.cell? ⟨vb, j, none⟩ = some u) (h1v : ∀ u ∈ vs, u.oneCell' = true) (h1x : ∀ u ∈ xs, u.oneCell' = true) (hvb : vb ≠ g) (hsa : w.shape? vb = some (250, 3)) (hfa : ∀ j, w.frozen? ⟨vb, j, none⟩ = false)
    (hi : i < n) (hroom : n + 1 ≤ cap) :
    Calls Tryz.prog 193 #[.slice (some ⟨g, 0, none⟩) n cap, .int .i64 i, .slice (some ⟨vb, 0, none⟩) 1 1] w (LaidL w base (.slice (some ⟨g, 0, none⟩) n cap) n (xs.take (i * 3) ++ vs ++ xs.drop (i * 3))) := by
  have hL : Aside (∀ W : World, W.heap = w.heap → W.os = w.os → W.tape = w.tape → W.output = w.output → LaidL w base (.slice (some ⟨g, 0, none⟩) n cap) n (xs.take (i * 3) ++ vs ++ xs.drop (i * 3)) (.returned (.slice (some ⟨g, 0, none⟩) (n + 1) cap)) ((W.setCells g ((i + 1) * 3) (xs.drop (i * 3))).setCells g (i * 3) vs)) := by
    intro W h0 h2 h3 h4
    have hownW : W.ownsRow base 250 3 (.slice (some ⟨g, 0, none⟩) n cap) n xs := by unfold World.ownsRow; rw [h0]; exact hown
    have k1 := (setCells_keeps g (xs.drop (i * 3)) ((i + 1) * 3) W).trans (setCells_keeps g vs (i * 3) _)
    exact ⟨_, rfl, owns_laidIn hownW hroom (by omega) hv, ⟨k1.os.trans h2, k1.tape.trans h3, k1.output.trans h4, by rw [← h0]; exact k1.size, fun k hk hs => by
      rw [← h0]
      exact k1.block k (by rw [h0]; exact hk) (fun e => hs (by rw [e]; rfl))⟩, .inl rfl⟩
  obtain ⟨hxl, h2⟩ := hown
  rcases h2 with ⟨hc, _⟩ | ⟨g', cap', cur, hc, hbg, hgb, hnc, hcm, hcs, htake⟩
  · cases hc
  cases hc
  have hcm' : cap ≤ 9223372036854775807 := by simp only [maxLen] at hcm; omega
  have hsp : ∀ j, j < (n + 1) * 3 → (w.cell? ⟨g, j, none⟩).isSome = true := fun j hj => by
    have : j < cur.size := by rw [hcs]; omega
    simp [World.cell?, hgb, this]
  have hfz : ∀ j, w.frozen? ⟨g, j, none⟩ = false := fun j => by simp [World.frozen?, hgb]
  have hcell : ∀ j u, xs[j]? = some u → w.cell? ⟨g, j, none⟩ = some u := fun j u hj => by
    have hlt := (List.getElem?_eq_some_iff.1 hj).1
    rw [← htake, List.getElem?_take, if_pos (by omega)] at hj
    simp [World.cell?, hgb, ← hj]
  have hsb : w.shape? g = some (250, cap * 3) := by simp [World.shape?, hgb, hcs]
  have hsz : (Tryz.prog.info? 250).map (·.size) = some 3 := by
    obtain ⟨i0, hi0, _, h1, _⟩ := info_parts infoLtr
    rw [hi0]; simp [h1]
  have hov : ∀ lb cb, (callFunc 232 #[.slice (some ⟨vb, 0, none⟩) 1 1, .slice (some ⟨g, (i + 1) * 3, none⟩) lb cb]).run Tryz.prog w = .ok (.value (.bool false)) w := fun lb cb => by
    rw [run_callFunc_extern Tryz.func232 (by kernel_rfl) (by kernel_rfl) (by kernel_rfl) (e := Extern.SlicesOverlaps.overlaps #[246, 246] #[4]) (by kernel_rfl),
      Lib.run_overlaps_apart w 246 4 250 Tryz.underlying246 3 Tryz.sizeOf250 ⟨vb, 0, none⟩ ⟨g, (i + 1) * 3, none⟩ 1 1 lb cb hvb 250 250 3 (cap * 3) hsa hsb (by omega) (hfa 0) (hfa 3)]
    rfl
  have hdl : (xs.drop (i * 3)).length = n * 3 - i * 3 := by rw [List.length_drop, hxl]
  have hcp1 : ∀ ty dc sc, (Builtin.copy_ #[246, 246] ty #[.slice (some ⟨g, (i + 1) * 3, none⟩) (n - i) dc, .slice (some ⟨g, i * 3, none⟩) (n + 1 - i) sc]).run Tryz.prog w.drew = .ok (goInt ((n - i : Nat) : Int)) (w.drew.setCells g ((i + 1) * 3) (xs.drop (i * 3))) := fun ty dc sc => by
    have hmin : Nat.min (n + 1 - i) (n - i) = n - i := by simp only [Nat.min_def]; split <;> omega
    have := run_copy_k (P := Tryz.prog) w.drew 246 246 ty 250 3 g ((i + 1) * 3) (n - i) dc ⟨g, i * 3, none⟩ (n + 1 - i) sc (xs.drop (i * 3)) Tryz.underlying246 hsz (by rw [hdl, hmin]; omega)
      (fun j u hj => by rw [Addr.add_lit]; exact hcell _ u (by rwa [List.getElem?_drop] at hj))
      (fun j hj => hsp _ (by rw [hdl] at hj; omega)) (fun j _ => hfz _) (fun u hu => h1x u (List.mem_of_mem_drop hu))
    rw [hmin] at this
    exact this
  obtain ⟨W1, hW1⟩ : ∃ W1, W1 = w.drew.setCells g ((i + 1) * 3) (xs.drop (i * 3)) := ⟨_, rfl⟩
  have hsp1 : ∀ j, j < (n + 1) * 3 → (W1.cell? ⟨g, j, none⟩).isSome = true := fun j hj => by
    rw [hW1]
    exact isSome_setCells g (xs.drop (i * 3)) ((i + 1) * 3) w.drew (fun t ht => hsp ((i + 1) * 3 + t) (by rw [hdl] at ht; omega)) _ (hsp j hj)
  have hcp2 : ∀ (W : World), (∀ x, W.cell? x = W1.cell? x) → (∀ x, W.frozen? x = W1.frozen? x) → ∀ ty dc, (Builtin.copy_ #[246, 246] ty #[.slice (some ⟨g, i * 3, none⟩) (n + 1 - i) dc, .slice (some ⟨vb, 0, none⟩) 1 1]).run Tryz.prog W = .ok (goInt 1) (W.setCells g (i * 3) vs) := fun W hWc hWf ty dc => by
    have hmin : Nat.min 1 (n + 1 - i) = 1 := by simp only [Nat.min_def]; split <;> omega
    have := run_copy_k (P := Tryz.prog) W 246 246 ty 250 3 g (i * 3) (n + 1 - i) dc ⟨vb, 0, none⟩ 1 1 vs Tryz.underlying246 hsz (by rw [hmin, hv])
      (fun j u hj => by
        rw [Addr.add_lit, Nat.zero_add, hWc, hW1, World.cell?_setCells_out g _ _ _ _ (fun h _ => absurd h hvb)]
        exact hvs j u hj)
      (fun j hj => by rw [hWc]; exact hsp1 _ (by omega)) (fun j _ => by rw [hWf, hW1, World.frozen?_setCells]; exact hfz _) h1v
    rw [hmin] at this
    exact this
  rw [← hW1] at hcp1
  have hw1 : IntKind.i64.wrap ((i : Int) + 1) = (i : Int) + 1 := by rw [IntKind.wrap_i64]; omega
  have hw2 : IntKind.i64.wrap ((n : Int) + 1) = (n : Int) + 1 := by rw [IntKind.wrap_i64]; omega
  have hb1 : (0 : Int) ≤ (i : Int) + 1 := by omega
  have hz2 : ¬ ((i : Int) = (n : Int)) := by omega
  have hin : i ≤ n := by omega
  have htn : ((i : Int) + 1).toNat = i + 1 := by omega
  have htn2 : ((n : Int) + 1).toNat = n + 1 := by omega
  have hb2 : ¬ (cap = i + 1) := by omega
  have hb3 : (i : Int) ≤ (n : Int) + 1 := by omega
  have hb4 : ¬ (cap = i) := by omega
  have hb5 : ¬ ((cap : Int) < (n : Int) + 1) := by omega
  clear htake hcs hgb hsp hfz hcell hsb hcm hxl hdl hvs h1v h1x hsa hfa hsp1 hbg
  go_enter Tryz.func193, Tryz.ntmps193
  go_wp2_with (simp only [hov])
  have mixed : Tryz.prog.follows .mixedOrders = true := by kernel_rfl
  go_region_law_o (refine step_copy_runI rfl _ _ 246 246 rfl _ _ (by simp [Act.eval, Act.put]) (by simp [Act.eval, Act.put]) (hcp1 _ _ _) ?_)
  clear mixed
  go_wp2_with (at_builtin; refine wpList_copy_runI _ rfl _ _ 246 246 rfl _ _ rfl rfl (hcp2 _ (fun _ => rfl) (fun _ => rfl) _ _) ?_)
  go_ret
  subst hW1
  exact hL.out w.drew rfl rfl rfl rfl
set_option maxRecDepth 100000 in
set_option maxHeartbeats 4000000 in
theorem linsert_grow (w : World) (base g n cap i : Nat) (xs vs : List Value) (hown : w.ownsRow base 250 3 (.slice (some ⟨g, 0, none⟩) n cap) n xs) (hn : n ≤ 1000) (vb : Nat) (hv : vs.length = 3)
    (hvs : ∀ j u, vs[j]? = some u → w.cell? ⟨vb, j, none⟩ = some u) (h1v : ∀ u ∈ vs, u.oneCell' = true) (h1x : ∀ u ∈ xs, u.oneCell' = true) (hbase : base ≤ w.heap.size)
    (hi : i < n) (hroom : cap < n + 1) :
    Calls Tryz.prog 193 #[.slice (some ⟨g, 0, none⟩) n cap, .int .i64 i, .slice (some ⟨vb, 0, none⟩) 1 1] w (LaidL w base (.slice (some ⟨g, 0, none⟩) n cap) n (xs.take (i * 3) ++ vs ++ xs.drop (i * 3))) := by
  obtain ⟨hxl, h2⟩ := hown
  rcases h2 with ⟨hc, _⟩ | ⟨g', cap', cur, hc, hbg, hgb, hnc, hcm, hcs, htake⟩
  · cases hc
  cases hc
  obtain ⟨i0, hi0, hz0, hzs, hzb⟩ := info_parts infoLtr
  have hcell : ∀ j u, xs[j]? = some u → w.cell? ⟨g, j, none⟩ = some u := fun j u hj => by
    have hlt := (List.getElem?_eq_some_iff.1 hj).1
    rw [← htake, List.getElem?_take, if_pos (by omega)] at hj
    simp [World.cell?, hgb, ← hj]
  have hgw : g < w.heap.size := (Array.getElem?_eq_some_iff.1 hgb).1
  have hvw : vb < w.heap.size := block_lt_of_cell (hvs 0 _ (List.getElem?_eq_getElem (by omega)))
  have hsz : (Tryz.prog.info? 250).map (·.size) = some 3 := by rw [hi0]; simp [hzs]
  have htl : (xs.take (i * 3)).length = i * 3 := by rw [List.length_take, hxl]; omega
  have hdl : (xs.drop (i * 3)).length = n * 3 - i * 3 := by rw [List.length_drop, hxl]
  have hold : (Builtin.firstCells i0.size i (.slice (some ⟨g, 0, none⟩) i cap)).run Tryz.prog w.drew = .ok (xs.take (i * 3)).toArray w.drew := by
    rw [hzs]
    exact run_firstCells_some w.drew 3 i ⟨g, 0, none⟩ i cap (xs.take (i * 3)) htl (fun j u hj => by
      rw [Addr.add_lit, Nat.zero_add]
      rw [List.getElem?_take] at hj
      split at hj
      · exact hcell j u hj
      · cases hj)
  have hik : i + (n + 1 - i) = n + 1 := by omega
  have hkk : (n : Int) + 1 - (i : Int) = ((n + 1 - i : Nat) : Int) := by omega
  obtain ⟨Z, hZ⟩ : ∃ Z, Z = (Value.agg #[.int .i64 0, .int .u8 0, .bool false]).cells := ⟨_, rfl⟩
  have hZs : Z.size = 3 := by rw [hZ]; rfl
  obtain ⟨G, hG⟩ : ∃ G, G = grownCap w (n + 1) cap 250 := ⟨_, rfl⟩
  have hGn : n + 1 ≤ G := by rw [hG]; exact grownCap_ge w _ _ _
  have hGm : G ≤ maxLen := by rw [hG]; exact grownCap_le_maxLen w (n + 1) cap 250 (by unfold maxLen; omega)
  obtain ⟨ROW, hROW⟩ : ∃ ROW : Array Value, ROW = (xs.take (i * 3)).toArray ++ Builtin.zeroCells Z (n + 1 - i) ++ Builtin.zeroCells Z (G - (n + 1)) := ⟨_, rfl⟩
  have hrz : ∀ ty, (Builtin.append_ #[246, 3] ty #[.slice (some ⟨g, 0, none⟩) i cap, .int .i64 ((n : Int) + 1 - (i : Int))]).run Tryz.prog w = .ok (.slice (some ⟨w.heap.size, 0, none⟩) (n + 1) G) (w.drew.alloc (.cells ROW 250)) := fun ty => by
    have h := Lib.run_append_grow_zeros w 246 3 ty 250 i0 _ .i64 .i64 Tryz.underlying246 Tryz.underlying3 hi0 hz0 (some ⟨g, 0, none⟩) i cap (xs.take (i * 3)) hold (n + 1 - i) (by omega) (by omega) (by omega) (by omega) (by rw [hzb]; omega) (by rw [hzb, hik]; exact growslice_fits hroom (by omega))
    rw [hik, ← hG, ← hZ, ← hROW] at h
    rw [hkk]
    exact h
  have hRs : ROW.size = G * 3 := by
    rw [hROW]
    simp only [Array.size_append, List.size_toArray, htl, size_zeroCells, hZs]
    omega
  have hRl : ∃ Y, ROW.toList = xs.take (i * 3) ++ Y := ⟨(Builtin.zeroCells Z (n + 1 - i) ++ Builtin.zeroCells Z (G - (n + 1))).toList, by rw [hROW]; simp⟩
  obtain ⟨W1, hW1⟩ : ∃ W1, W1 = w.drew.alloc (.cells ROW 250) := ⟨_, rfl⟩
  rw [← hW1] at hrz
  have hN : ∀ j, j < (n + 1) * 3 → (W1.cell? ⟨w.heap.size, j, none⟩).isSome = true := fun j hj => by
    rw [hW1, World.cell?_alloc_at (w := w.drew) ROW _ w.heap.size j rfl, Array.getElem?_eq_getElem (by omega)]; rfl
  have hNf : ∀ j, W1.frozen? ⟨w.heap.size, j, none⟩ = false := fun j => by rw [hW1]; exact World.frozen?_alloc_at (w := w.drew) ROW _ w.heap.size j rfl
  have hOb : ∀ j u, w.cell? ⟨g, j, none⟩ = some u → W1.cell? ⟨g, j, none⟩ = some u := fun j u h => by rw [hW1, World.cell?_alloc_past (w := w.drew) _ g j hgw]; exact h
  have hOv : ∀ j u, w.cell? ⟨vb, j, none⟩ = some u → W1.cell? ⟨vb, j, none⟩ = some u := fun j u h => by rw [hW1, World.cell?_alloc_past (w := w.drew) _ vb j hvw]; exact h
  have hcpA : ∀ (W : World), (∀ x, W.cell? x = W1.cell? x) → (∀ x, W.frozen? x = W1.frozen? x) → ∀ ty dc, (Builtin.copy_ #[246, 246] ty #[.slice (some ⟨w.heap.size, i * 3, none⟩) (n + 1 - i) dc, .slice (some ⟨vb, 0, none⟩) 1 1]).run Tryz.prog W = .ok (goInt 1) (W.setCells w.heap.size (i * 3) vs) := fun W hWc hWf ty dc => by
    have hmin : Nat.min 1 (n + 1 - i) = 1 := by simp only [Nat.min_def]; split <;> omega
    have := run_copy_k (P := Tryz.prog) W 246 246 ty 250 3 w.heap.size (i * 3) (n + 1 - i) dc ⟨vb, 0, none⟩ 1 1 vs Tryz.underlying246 hsz (by rw [hmin, hv])
      (fun j u hj => by rw [Addr.add_lit, Nat.zero_add, hWc]; exact hOv _ u (hvs j u hj))
      (fun j hj => by rw [hWc]; exact hN _ (by omega)) (fun j _ => by rw [hWf]; exact hNf _) h1v
    rw [hmin] at this
    exact this
  have hgN : g ≠ w.heap.size := by omega
  have hcpB : ∀ (W : World), (∀ x, W.cell? x = (W1.setCells w.heap.size (i * 3) vs).cell? x) → (∀ x, W.frozen? x = (W1.setCells w.heap.size (i * 3) vs).frozen? x) → ∀ ty dc sc, (Builtin.copy_ #[246, 246] ty #[.slice (some ⟨w.heap.size, (i + 1) * 3, none⟩) (n - i) dc, .slice (some ⟨g, i * 3, none⟩) (n - i) sc]).run Tryz.prog W = .ok (goInt ((n - i : Nat) : Int)) (W.setCells w.heap.size ((i + 1) * 3) (xs.drop (i * 3))) := fun W hWc hWf ty dc sc => by
    have hmin : Nat.min (n - i) (n - i) = n - i := by simp [Nat.min_def]
    have := run_copy_k (P := Tryz.prog) W 246 246 ty 250 3 w.heap.size ((i + 1) * 3) (n - i) dc ⟨g, i * 3, none⟩ (n - i) sc (xs.drop (i * 3)) Tryz.underlying246 hsz (by rw [hdl, hmin]; omega)
      (fun j u hj => by
        rw [Addr.add_lit, hWc, World.cell?_setCells_out _ _ _ _ _ (fun h _ => absurd h hgN)]
        exact hOb _ u (hcell _ u (by rwa [List.getElem?_drop] at hj)))
      (fun j hj => by rw [hWc]; exact isSome_setCells w.heap.size vs (i * 3) W1 (fun t ht => hN _ (by omega)) _ (hN _ (by rw [hdl] at hj; omega)))
      (fun j _ => by rw [hWf, World.frozen?_setCells]; exact hNf _) (fun u hu => h1x u (List.mem_of_mem_drop hu))
    rw [hmin] at this
    exact this
  have hL : Aside (∀ W : World, W.heap = W1.heap → W.os = w.os → W.tape = w.tape → W.output = w.output → LaidL w base (.slice (some ⟨g, 0, none⟩) n cap) n (xs.take (i * 3) ++ vs ++ xs.drop (i * 3)) (.returned (.slice (some ⟨w.heap.size, 0, none⟩) (n + 1) G)) ((W.setCells w.heap.size (i * 3) vs).setCells w.heap.size ((i + 1) * 3) (xs.drop (i * 3)))) := by
    intro W h0 h2 h3 h4
    have hgW : W.heap[w.heap.size]? = some (.cells ROW 250 (0, 0)) := by rw [h0, hW1]; exact heap_alloc_new w.drew _
    obtain ⟨Y, hY⟩ := hRl
    have k1 := (setCells_keeps w.heap.size vs (i * 3) W).trans (setCells_keeps w.heap.size (xs.drop (i * 3)) ((i + 1) * 3) _)
    have hWs : W.heap.size = w.heap.size + 1 := by rw [h0, hW1]; simp
    exact ⟨_, rfl, owns_newIn hgW hY hRs hbase hGn hGm (by omega) hxl hv, ⟨k1.os.trans h2, k1.tape.trans h3, k1.output.trans h4, by have := k1.size; omega, fun k hk hs => by
      refine (k1.block k (by omega) (by omega)).trans ?_
      rw [h0, hW1]
      exact Below.heap_alloc w.drew _ k hk⟩, .inr rfl⟩
  have hG63 : G ≤ 9223372036854775807 := by unfold maxLen at hGm; omega
  have hGi : ¬ (G = i) := by omega
  have hGim : ¬ (G = i + 1) := by omega
  have hci : ¬ (cap = i) := by omega
  have hw1 : IntKind.i64.wrap ((i : Int) + 1) = (i : Int) + 1 := by rw [IntKind.wrap_i64]; omega
  have hw2 : IntKind.i64.wrap ((n : Int) + 1) = (n : Int) + 1 := by rw [IntKind.wrap_i64]; omega
  have hw3 : IntKind.i64.wrap ((n : Int) + 1 - (i : Int)) = (n : Int) + 1 - (i : Int) := by rw [IntKind.wrap_i64]; omega
  have hb1 : (0 : Int) ≤ (i : Int) + 1 := by omega
  have hz2 : ¬ ((i : Int) = (n : Int)) := by omega
  have hin : i ≤ n := by omega
  have hin2 : i ≤ cap := by omega
  have htn : ((i : Int) + 1).toNat = i + 1 := by omega
  have hb5 : ((cap : Int) < (n : Int) + 1) := by omega
  have hb6 : ¬ ((n : Int) + 1 ≤ (cap : Int)) := by omega
  have hE1 : ∀ x, ((w.alloc (.cells ROW 250)).drew).cell? x = (w.drew.alloc (.cells ROW 250)).cell? x := fun x => rfl
  have hE2 : ∀ x, ((w.alloc (.cells ROW 250)).drew).frozen? x = (w.drew.alloc (.cells ROW 250)).frozen? x := fun x => rfl
  subst hW1
  have hF1 : ∀ x, (((w.alloc (.cells ROW 250)).drew.setCells w.heap.size (i * 3) vs).drew).cell? x = ((w.drew.alloc (.cells ROW 250)).setCells w.heap.size (i * 3) vs).cell? x := fun x => rfl
  have hF2 : ∀ x, (((w.alloc (.cells ROW 250)).drew.setCells w.heap.size (i * 3) vs).drew).frozen? x = ((w.drew.alloc (.cells ROW 250)).setCells w.heap.size (i * 3) vs).frozen? x := fun x => rfl
  clear htake hcs hgb hcell hcm hxl hdl htl hvs h1v h1x hbg hold hROW hG hRs hRl hN hNf hOb hOv hik hkk hGm hZ hZs hgw hvw
  go_enter Tryz.func193, Tryz.ntmps193
  go_wp2_with (first
    | (at_builtin; refine Lib.wpList_append_run _ rfl _ _ _ _ rfl _ _ rfl rfl _ _ (hrz _) ?_)
    | (at_builtin; refine wpList_copy_runI _ rfl _ _ 246 246 rfl _ _ rfl rfl (hcpA _ hE1 hE2 _ _) ?_))
  have mixed : Tryz.prog.follows .mixedOrders = true := by kernel_rfl
  go_region_law_o (refine step_copy_runI rfl _ _ 246 246 rfl (.slice (some ⟨w.heap.size, (i + 1) * 3, none⟩) (n - i) (G - (i + 1))) (.slice (some ⟨g, i * 3, none⟩) (n - i) (cap - i)) (by simp [Act.eval, Act.put]) (by simp [Act.eval, Act.put]) (hcpB _ hF1 hF2 3 (G - (i + 1)) (cap - i)) ?_)
  clear mixed
  go_wp2
  go_ret
  rw [drew_setCells]
  exact hL.out ((w.alloc (.cells ROW 250)).drew.drew) rfl rfl rfl rfl
theorem layLtr_any (w : World) (base n i : Nat) (v : Value) (xs vs : List Value) (hown : w.ownsRow base 250 3 v n xs) (hn : n ≤ 1000) (vb : Nat) (hv : vs.length = 3)
    (hvs : ∀ j u, vs[j]? = some u → w.cell? ⟨vb, j, none⟩ = some u) (h1v : ∀ u ∈ vs, u.oneCell' = true) (h1x : ∀ u ∈ xs, u.oneCell' = true) (hvb : some vb ≠ v.ownBlock) (hsa : w.shape? vb = some (250, 3)) (hfa : ∀ j, w.frozen? ⟨vb, j, none⟩ = false) (hbase : base ≤ w.heap.size) (hi : i ≤ n) :
    Calls Tryz.prog 193 #[v, .int .i64 i, .slice (some ⟨vb, 0, none⟩) 1 1] w (LaidL w base v n (xs.take (i * 3) ++ vs ++ xs.drop (i * 3))) := by
  by_cases he : i = n
  · subst he
    have e1 : xs.take (i * 3) = xs := List.take_of_length_le (by rw [hown.1]; omega)
    have e2 : xs.drop (i * 3) = [] := List.drop_of_length_le (by rw [hown.1]; omega)
    rw [e1, e2, List.append_nil]
    exact linsert_end w base v i xs vs hown hn vb hv hvs h1v hbase
  · have hown' := hown
    rcases hown.2 with ⟨rfl, rfl⟩ | ⟨g, cap, cur, rfl, -⟩
    · omega
    · by_cases hroom : n + 1 ≤ cap
      · exact linsert_room w base g n cap i xs vs hown hn vb hv hvs h1v h1x (fun e => hvb (by rw [e]; rfl)) hsa hfa (by omega) hroom
      · exact linsert_grow w base g n cap i xs vs hown hn vb hv hvs h1v h1x hbase (by omega) (by omega)
end Go.Proofs.YtehighgebbdenaaGreatDoor
end
section
namespace Go.Proofs.YtehighgebbdenaaGreatDoor
open Go.RowKit Go.Lib Go.Sort
def encL (l : Ltr) : List Value := [.int .i64 l.1, .int .u8 (l.2.1 : Int), .bool (!l.2.2)]
theorem encL_len (l : Ltr) : (encL l).length = 3 := rfl
theorem encL_one (l : Ltr) : ∀ v ∈ encL l, v.oneCell' = true := by
  intro v hv
  simp [encL] at hv
  rcases hv with rfl | rfl | rfl <;> rfl
theorem cellStays {w w' : World} {b o : Nat} {v : Value} (hb : Below w.heap.size w w') (h : w.cell? ⟨b, o, none⟩ = some v) : w'.cell? ⟨b, o, none⟩ = some v := by
  rw [hb.cell (p := ⟨b, o, none⟩) (World.block_lt_of_cell? w ⟨b, o, none⟩ h)]; exact h
def LtrsIn (w : World) (ao : Option Addr) (zs : List Ltr) : Prop := zs = [] ∨ ∃ blk off, ao = some ⟨blk, off, none⟩ ∧ ∀ j u, (flat encL zs)[j]? = some u → w.cell? ⟨blk, off + j, none⟩ = some u
theorem LtrsIn.later {w w' : World} {ao : Option Addr} {zs : List Ltr} (h : LtrsIn w ao zs) (hb : Below w.heap.size w w') : LtrsIn w' ao zs := by
  rcases h with h | ⟨g, o, h1, h2⟩
  · exact .inl h
  · exact .inr ⟨g, o, h1, fun j u hj => cellStays hb (h2 j u hj)⟩
theorem LtrsIn.at {w : World} {ao : Option Addr} {zs : List Ltr} (h : LtrsIn w ao zs) {i : Nat} {a : Int} {c : Nat} {g : Bool} (hi : zs[i]? = some (a, c, g)) : ∃ blk off, ao = some ⟨blk, off, none⟩ ∧ w.cell? ⟨blk, off + i * 3, none⟩ = some (.int .i64 a) ∧ w.cell? ⟨blk, off + i * 3 + 1, none⟩ = some (.int .u8 (c : Int)) ∧ w.cell? ⟨blk, off + i * 3 + 2, none⟩ = some (.bool (!g)) := by
  rcases h with h | ⟨b, o, h1, h2⟩
  · subst h; simp at hi
  · have hg := fun k hk => flat_get (enc := encL) (k := 3) encL_len (c := k) hi hk
    refine ⟨b, o, h1, ?_, ?_, ?_⟩
    · exact h2 (i * 3 + 0) _ (hg 0 (by omega))
    · rw [Nat.add_assoc]; exact h2 _ _ (hg 1 (by omega))
    · rw [Nat.add_assoc]; exact h2 _ _ (hg 2 (by omega))
def PredL (g : Nat) (lb : Array Value) (p : Ltr → Bool) (w : World) : Prop :=
  ∀ (W : World) (a : Int) (c : Nat) (gn : Bool), Below w.heap.size w W → Calls Tryz.prog g (#[.agg #[.int .i64 a, .int .u8 (c : Int), .bool (!gn)]] ++ lb) W fun e w' => e = .returned (.bool (p (a, c, gn))) ∧ Below w.heap.size w w'
set_option maxHeartbeats 2000000 in
theorem idxFunc_any (p : Ltr → Bool) (g : Nat) (lb : Array Value) (eg : ∀ args w, (callFunc g args).run Tryz.prog w = .ok (.enter g args) w) (ao : Option Addr) (cap : Nat) (zs : List Ltr) (w : World) (hp : PredL g lb p w) (hbig : zs.length ≤ 1000000) (hin : LtrsIn w ao zs) :
    Calls Tryz.prog 230 #[.slice ao zs.length cap, .func (.func g) #[] lb] w fun e w' => ∃ r : Int, e = .returned (.int .i64 r) ∧ Aside (IdxIs p zs r ∧ Below w.heap.size w w') := by
  have HP : Aside (PredL g lb p w) := hp
  have HI : Aside (LtrsIn w ao zs) := hin
  clear hp hin
  go_enter Tryz.func230, Tryz.ntmps230
  go_wp2
  go_loopg [5, 8] zs.length (fun kx _ s8 wr => ∃ (k : Nat), s8 = .int .i64 (k : Int) ∧ k ≤ zs.length ∧ zs.length - k ≤ kx ∧ Aside (Below w.heap.size w wr ∧ ∀ j l, j < k → zs[j]? = some l → p l = false))
  case atStart => exact ⟨0, rfl, Nat.zero_le _, Nat.le_refl _, ⟨Below.refl _ w, fun j l hj => by omega⟩⟩
  case round =>
    obtain ⟨k, rfl, hk, hkx, A⟩ := hrel
    by_cases hlt : k < zs.length
    · have hltz : decide ((k : Int) < (zs.length : Int)) = true := by simp; omega
      have ek : ((k : Int)).toNat = k := by omega
      have pk : (0 : Int) ≤ (k : Int) := by omega
      have bk : (k : Int) < (zs.length : Int) := by omega
      obtain ⟨⟨a, c, gn⟩, hl⟩ : ∃ l, Aside (zs[k]? = some l) := ⟨zs[k], List.getElem?_eq_getElem hlt⟩
      obtain ⟨blk, off, rfl, c0, c1, c2⟩ := (HI.out.later A.out.1).at hl.out
      have hcall := HP.out wr a c gn A.out.1
      cases hq : p (a, c, gn) with
      | true =>
        rw [hq] at hcall
        have HQ := Lib.hid hq
        clear hq
        go_wp2_with (go_at_fn g; refine hcall.mono ?_; rintro e w' ⟨rfl, hb'⟩)
        go_ret
        exact ⟨_, rfl, .inr ⟨k, _, rfl, hl.out, HQ.out, A.out.2⟩, hb'⟩
      | false =>
        rw [hq] at hcall
        have HQ := Lib.hid hq
        clear hq
        go_wp2_with (go_at_fn g; refine hcall.mono ?_; rintro e w' ⟨rfl, hb'⟩)
        go_roundg (zs.length - (k + 1))
        case measure => omega
        case rel =>
          refine ⟨k + 1, by go_num, by omega, Nat.le_refl _, ⟨hb', fun j l hj e => ?_⟩⟩
          rcases Nat.lt_or_ge j k with h | h
          · exact A.out.2 j l h e
          · obtain rfl : j = k := by omega
            rw [hl.out] at e
            cases e
            exact HQ.out
    · have hltz : decide ((k : Int) < (zs.length : Int)) = false := by simp; omega
      go_wp2
      go_ret
      refine ⟨_, rfl, .inl ⟨rfl, fun l hl => ?_⟩, A.out.1⟩
      obtain ⟨j, hj, rfl⟩ := List.getElem_of_mem hl
      exact A.out.2 j _ (by omega) (List.getElem?_eq_getElem hj)
theorem find1_is (id : Int) (B : Nat) (w : World) (hB : B < w.heap.size) (hc : w.cell? ⟨B, 0, none⟩ = some (.int .i64 id)) : PredL 231 #[.pointer (some ⟨B, 0, none⟩)] (fun l => decide (l.1 = id)) w := fun W a c gn hb => by
  have hc' : W.cell? ⟨B, 0, none⟩ = some (.int .i64 id) := (hb.cell (p := ⟨B, 0, none⟩) hB).trans hc
  have hBW : B < W.heap.size := Nat.lt_of_lt_of_le hB hb.size
  have hne : B ≠ W.heap.size := by omega
  clear hc
  show Calls Tryz.prog 231 #[.agg #[.int .i64 a, .int .u8 (c : Int), .bool (!gn)], .pointer (some ⟨B, 0, none⟩)] W _
  go_enter Tryz.func231, Tryz.ntmps231
  go_wp2
  all_goals (go_ret; exact ⟨by simp [BEq.beq], hb.alloc hb.size _⟩)
theorem pass1_is (id : Int) (B : Nat) (w : World) (hB : B < w.heap.size) (hc : w.cell? ⟨B, 0, none⟩ = some (.int .i64 id)) : PredL 234 #[.pointer (some ⟨B, 0, none⟩)] (fun l => decide (l.1 < id)) w := fun W a c gn hb => by
  have hc' : W.cell? ⟨B, 0, none⟩ = some (.int .i64 id) := (hb.cell (p := ⟨B, 0, none⟩) hB).trans hc
  have hBW : B < W.heap.size := Nat.lt_of_lt_of_le hB hb.size
  have hne : B ≠ W.heap.size := by omega
  clear hc
  show Calls Tryz.prog 234 #[.agg #[.int .i64 a, .int .u8 (c : Int), .bool (!gn)], .pointer (some ⟨B, 0, none⟩)] W _
  go_enter Tryz.func234, Tryz.ntmps234
  go_wp2
  all_goals (go_ret; exact ⟨rfl, hb.alloc hb.size _⟩)
structure LineAt (base : Nat) (w : World) (p : Nat) (v : Value) (L : List Ltr) : Prop where
  cell : w.heap[p]? = some (.cells #[v] 248 (0, 0))
  row : w.ownsRow base 250 3 v L.length (flat encL L)
  low : p < base
  nodup : (L.map (·.1)).Nodup
  pos : ∀ l ∈ L, l.1 ≠ 0
  small : ∀ l ∈ L, l.2.1 < 256
theorem LineAt.c0 {base : Nat} {w : World} {p : Nat} {v : Value} {L : List Ltr} (h : LineAt base w p v L) : w.cell? ⟨p, 0, none⟩ = some v := by simp [World.cell?, h.cell]
theorem LineAt.fz {base : Nat} {w : World} {p : Nat} {v : Value} {L : List Ltr} (h : LineAt base w p v L) : w.frozen? ⟨p, 0, none⟩ = false := by simp [World.frozen?, h.cell]
theorem LineAt.lt {base : Nat} {w : World} {p : Nat} {v : Value} {L : List Ltr} (h : LineAt base w p v L) : p < w.heap.size := (Array.getElem?_eq_some_iff.1 h.cell).1
theorem ownsSame {w w' : World} {base n : Nat} {e : TypeId} {k : Nat} {v : Value} {xs : List Value} (h : w.ownsRow base e k v n xs) (hs : ∀ g, v.ownBlock = some g → w'.heap[g]? = w.heap[g]?) : w'.ownsRow base e k v n xs := by
  refine ⟨h.1, ?_⟩
  rcases h.2 with h0 | ⟨g, cap, cur, rfl, h1, hg, h2⟩
  · exact .inl h0
  · exact .inr ⟨g, cap, cur, rfl, h1, (hs g rfl).trans hg, h2⟩
theorem LineAt.same {base : Nat} {w w' : World} {p : Nat} {v : Value} {L : List Ltr} (h : LineAt base w p v L) (h1 : w'.heap[p]? = w.heap[p]?) (h2 : ∀ g, v.ownBlock = some g → w'.heap[g]? = w.heap[g]?) : LineAt base w' p v L :=
  ⟨h1.trans h.cell, ownsSame h.row h2, h.low, h.nodup, h.pos, h.small⟩
theorem LineAt.later {base : Nat} {w w' : World} {p : Nat} {v : Value} {L : List Ltr} (h : LineAt base w p v L) (hb : Below w.heap.size w w') : LineAt base w' p v L :=
  h.same (hb.block _ h.lt) (fun g hg => hb.block g (h.row.lt g hg).2)
theorem rowShape {w : World} {base n k : Nat} {v : Value} {e : TypeId} {xs : List Value} (h : w.ownsRow base e k v n xs) : ∃ ao cap, v = .slice ao n cap := by
  rcases h.2 with ⟨h1, h2⟩ | ⟨g, cap, cur, rfl, _⟩
  · subst h2; exact ⟨_, _, h1⟩
  · exact ⟨_, _, rfl⟩
theorem lrowIn {w : World} {base : Nat} {ao : Option Addr} {cap : Nat} {L : List Ltr} (h : w.ownsRow base 250 3 (.slice ao L.length cap) L.length (flat encL L)) : LtrsIn w ao L := by
  have h' := h
  rcases h.2 with ⟨h1, h2⟩ | ⟨g, cap', cur, hv, _⟩
  · exact .inl (List.length_eq_zero_iff.1 h2)
  · cases hv
    refine .inr ⟨g, 0, rfl, fun j u hj => ?_⟩
    have hl : j < (flat encL L).length := (List.getElem?_eq_some_iff.1 hj).1
    rw [flat_len encL_len] at hl
    rw [Nat.zero_add, h'.cellAt j hl, hj]
theorem lineNew (w : World) : Calls Tryz.prog 124 #[] w fun e w' => e = .returned (.pointer (some ⟨w.heap.size, 0, none⟩)) ∧ w' = w.alloc (.cells #[.slice none 0 0] 248) := by
  go_enter Tryz.func124, Tryz.ntmps124
  go_wp2
  go_ret
  exact ⟨rfl, rfl⟩
set_option maxHeartbeats 1000000 in
theorem lfind_any (w : World) (base p : Nat) (v : Value) (L : List Ltr) (id : Int) (h : LineAt base w p v L) (hL : L.length ≤ 1000) :
    Calls Tryz.prog 192 #[.pointer (some ⟨p, 0, none⟩), .int .i64 id] w fun e w' => e = .returned (.int .i64 (findI id L)) ∧ Below w.heap.size w w' := by
  obtain ⟨ao, cap, rfl⟩ := rowShape h.row
  have eg : ∀ args w, (callFunc 231 args).run Tryz.prog w = .ok (.enter 231 args) w := enters_of Tryz.func231 (by kernel_rfl) rfl
  have hbx : Below w.heap.size w (w.alloc (.cells #[.int .i64 id] 3)) := (Below.refl _ w).alloc (Nat.le_refl _) _
  have hc := idxFunc_any (fun l => decide (l.1 = id)) 231 #[.pointer (some ⟨w.heap.size, 0, none⟩)] eg ao cap L (w.alloc (.cells #[.int .i64 id] 3)) (find1_is id w.heap.size _ (by simp) (by simp [go_sem])) (by omega) ((lrowIn h.row).later hbx)
  have c0 := h.c0
  have hpl := h.lt
  have HB := Lib.hid hbx
  clear h eg hbx
  go_enter Tryz.func192, Tryz.ntmps192
  go_wp2_with fail
  refine hc.mono ?_
  rintro e w1 ⟨r, rfl, hr⟩
  go_wp2
  go_ret
  exact ⟨by rw [findI_is hr.out.1]; rfl, HB.out.trans (hr.out.2.mono (by simp))⟩
set_option maxHeartbeats 2000000 in
theorem pass_any (w : World) (base p k : Nat) (v : Value) (L : List Ltr) (id : Int) (h : LineAt base w p v L) (hL : L.length ≤ 1000) (hk : k ≤ L.length) (hn : id ∉ L.map (·.1)) :
    Calls Tryz.prog 194 #[.pointer (some ⟨p, 0, none⟩), .int .i64 (k : Int), .int .i64 id] w fun e w' => e = .returned (.int .i64 ((k + skipN id (L.drop k) : Nat) : Int)) ∧ Below w.heap.size w w' := by
  have HN : Aside (id ∉ (L.drop k).map (·.1)) := fun hm => hn (by
    obtain ⟨l, hl, e⟩ := List.mem_map.1 hm
    exact List.mem_map.2 ⟨l, List.mem_of_mem_drop hl, e⟩)
  have HS : Aside (skipN id (L.drop k) ≤ L.length - k) := by have := skipN_le id (L.drop k); rwa [List.length_drop] at this
  obtain ⟨ao, cap, rfl⟩ := rowShape h.row
  have hLc : L.length ≤ cap := by
    rcases h.row.2 with ⟨h1, h2⟩ | ⟨g, cap', cur, hv, _, _, h3, _⟩
    · omega
    · cases hv; exact h3
  have eg : ∀ args w, (callFunc 234 args).run Tryz.prog w = .ok (.enter 234 args) w := enters_of Tryz.func234 (by kernel_rfl) rfl
  have hbx : Below w.heap.size w (w.alloc (.cells #[.int .i64 id] 3)) := (Below.refl _ w).alloc (Nat.le_refl _) _
  have hdl : (L.drop k).length = L.length - k := List.length_drop
  have hc : ∀ ap, LtrsIn w ap (L.drop k) → Calls Tryz.prog 230 #[.slice ap (L.length - k) (cap - k), .func (.func 234) #[] #[.pointer (some ⟨w.heap.size, 0, none⟩)]] (w.alloc (.cells #[.int .i64 id] 3)) _ := fun ap hap => by
    have := idxFunc_any (fun l => decide (l.1 < id)) 234 #[.pointer (some ⟨w.heap.size, 0, none⟩)] eg ap (cap - k) (L.drop k) (w.alloc (.cells #[.int .i64 id] 3)) (pass1_is id w.heap.size _ (by simp) (by simp [go_sem])) (by rw [hdl]; omega) (hap.later hbx)
    rw [hdl] at this
    exact this
  have c0 := h.c0
  have hpl := h.lt
  have HI : Aside (LtrsIn w ao L) := lrowIn h.row
  have HB := Lib.hid hbx
  clear h eg hbx
  obtain ⟨q, hq⟩ : ∃ q, Aside (skipN id (L.drop k) = q) := ⟨_, rfl⟩
  rw [hq.out] at HS ⊢
  have hq2 : q ≤ L.length - k := HS.out
  have d0 : decide ((q : Int) < 0) = false := by simp
  have e0 : IntKind.i64.wrap ((k : Int) + (q : Int)) = (k : Int) + (q : Int) := by rw [IntKind.wrap_i64]; omega
  have HD := Lib.hid hdl
  clear hdl HS
  go_enter Tryz.func194, Tryz.ntmps194
  go_wp2_with fail
  · have hd0 : L.drop k = [] := List.drop_of_length_le (by omega)
    have hc' := hc ao (.inl hd0)
    rw [show cap - k = 0 by omega] at hc'
    have hf : L.length = k + q := by rw [← hq.out, hd0]; simp only [skipN]; omega
    have HF := Lib.hid hf
    have hck : cap = k := by assumption
    have c0' : w.cell? ⟨p, 0, none⟩ = some (Value.slice ao L.length k) := by rw [← hck]; exact c0
    refine hc'.mono ?_
    rintro e w1 ⟨r, rfl, hr⟩
    have hr1 : r = -1 := by
      rcases hr.out.1 with ⟨h, _⟩ | ⟨i, l, _, hl, _⟩
      · exact h
      · rw [hd0] at hl; simp at hl
    subst hr1
    have hB1 : Below w.heap.size w w1 := HB.out.trans (hr.out.2.mono (by simp))
    have c1 := cellStays hB1 c0'
    have H1 := Lib.hid hB1
    clear hB1 hr hc' hf hd0 hck c0 c0' hc hLc
    go_wp2
    go_ret
    exact ⟨by rw [HF.out]; rfl, H1.out⟩
  · have hLp : LtrsIn w (ao.map (fun x => x.add (k * 3))) (L.drop k) := by
      rcases HI.out with h0 | ⟨b, o, rfl, hcell⟩
      · subst h0; exact .inl (by simp)
      · refine .inr ⟨b, o + k * 3, by simp [Addr.add], fun j u hj => ?_⟩
        rw [← flat_drop encL_len L k hk, List.getElem?_drop] at hj
        rw [Nat.add_assoc]
        exact hcell _ u hj
    refine (hc _ hLp).mono ?_
    clear hc HI hLp
    rintro e w1 ⟨r, rfl, hr⟩
    have hB1 : Below w.heap.size w w1 := HB.out.trans (hr.out.2.mono (by simp))
    have c1 := cellStays hB1 c0
    have H1 := Lib.hid hB1
    rcases skip_is HN.out hr.out.1 with ⟨rfl, hs⟩ | hs
    · have hf : L.length = k + q := by rw [hq.out, HD.out] at hs; omega
      have HF := Lib.hid hf
      clear hB1 hr hs hf
      go_wp2
      go_ret
      exact ⟨by rw [HF.out]; rfl, H1.out⟩
    · rw [hq.out] at hs
      subst hs
      clear hB1 hr
      go_wp2
      go_ret
      exact ⟨by simp, H1.out⟩
end Go.Proofs.YtehighgebbdenaaGreatDoor
end
