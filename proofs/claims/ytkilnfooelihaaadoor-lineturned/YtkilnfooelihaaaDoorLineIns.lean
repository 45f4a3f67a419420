/- slices.Insert at letters: one letter laid in at a place of a row of one's own. -/
import Derived.Test.YtkilnfooelihaaaDoorAppendAt
import Derived.Test.YtkilnfooelihaaaDoorProg
import Derived.Shelf.Spec.SlicesInsertGrow
import Derived.Lib.AppendZerosOnto
import Derived.Laws.NewBlocks
import Derived.WalkKit
import Derived.Deep.LoopGhost
set_option linter.unusedVariables false
set_option linter.unusedSimpArgs false
namespace Go.Proofs.YtkilnfooelihaaaDoor
open Go.Shelf Go.RowKit Go.Lib

theorem infoLtr : (Tryd.prog.info? 155).map (fun i => (i.zero, i.size, i.bytes)) = some (some (.agg #[.int .i64 0, .int .u8 0, .bool false]), 3, 16) := by kernel_rfl

/-- What is handed back: the longer row, in the old block or in a new one. -/
def Laid (w : World) (base : Nat) (v : Value) (n : Nat) (ys : List Value) (e : Ending) (w' : World) : Prop :=
  ∃ v', e = .returned v' ∧ w'.ownsRow base 155 3 v' (n + 1) ys ∧ Keeps (fun k => some k = v.ownBlock) w w' ∧ (v'.ownBlock = v.ownBlock ∨ v'.ownBlock = some w.heap.size)

set_option maxRecDepth 100000 in
set_option maxHeartbeats 1000000 in
theorem insert_end (w : World) (base : Nat) (v : Value) (n : Nat) (xs vs : List Value) (hown : w.ownsRow base 155 3 v n xs) (hn : n ≤ 1000) (vb : Nat) (hv : vs.length = 3)
    (hvs : ∀ j u, vs[j]? = some u → w.cell? ⟨vb, j, none⟩ = some u) (h1v : ∀ u ∈ vs, u.oneCell' = true) (hbase : base ≤ w.heap.size) :
    Calls Tryd.prog 97 #[v, .int .i64 n, .slice (some ⟨vb, 0, none⟩) 1 1] w (Laid w base v n (xs ++ vs)) := by
  obtain ⟨i0, hi, hz0, hz1, hz2⟩ := info_parts infoLtr
  obtain ⟨v', w', hrun, ho, hg, hb⟩ := append_at (P := Tryd.prog) w base 149 149 155 i0 _ 3 16 Tryd.underlying149 hi hz0 hz1 hz2 rfl (by omega) v n xs hown ⟨vb, 0, none⟩ 1 1 (by omega) vs (by omega)
    (fun j u hj => by rw [Addr.add_lit, Nat.zero_add]; exact hvs j u hj) h1v (by simp only [maxLen]; omega) (by omega) hbase
  have hfin : Aside (Laid w base v n (xs ++ vs) (.returned v') w') := ⟨v', rfl, ho, keeps_of_grown hg, hb⟩
  rcases hown.2 with ⟨rfl, rfl⟩ | ⟨g, cap, cur, rfl, hbg, hgb, hnc, hcm, hcs, htake⟩
  · clear hown ho hg hb hvs h1v
    go_enter Tryd.func97, Tryd.ntmps97
    go_wp2_with (at_builtin; refine Lib.wpList_append_run _ rfl _ _ _ _ rfl _ _ rfl rfl _ _ hrun ?_)
    go_ret
    exact hfin.out
  · clear hown ho hg hb hvs h1v htake hcs hgb hbg
    go_enter Tryd.func97, Tryd.ntmps97
    go_wp2_with (at_builtin; refine Lib.wpList_append_run _ rfl _ _ _ _ rfl _ _ rfl rfl _ _ hrun ?_)
    all_goals (go_ret; exact hfin.out)

set_option maxRecDepth 100000 in
set_option maxHeartbeats 4000000 in
theorem insert_room (w : World) (base g n cap i : Nat) (xs vs : List Value) (hown : w.ownsRow base 155 3 (.slice (some ⟨g, 0, none⟩) n cap) n xs) (hn : n ≤ 1000) (vb : Nat) (hv : vs.length = 3)
    (hvs : ∀ j u, vs[j]? = some u → w.cell? ⟨vb, j, none⟩ = some u) (h1v : ∀ u ∈ vs, u.oneCell' = true) (h1x : ∀ u ∈ xs, u.oneCell' = true) (hvb : vb ≠ g) (hsa : w.shape? vb = some (155, 3)) (hfa : ∀ j, w.frozen? ⟨vb, j, none⟩ = false)
    (hi : i < n) (hroom : n + 1 ≤ cap) :
    Calls Tryd.prog 97 #[.slice (some ⟨g, 0, none⟩) n cap, .int .i64 i, .slice (some ⟨vb, 0, none⟩) 1 1] w (Laid w base (.slice (some ⟨g, 0, none⟩) n cap) n (xs.take (i * 3) ++ vs ++ xs.drop (i * 3))) := by
  have hL : Aside (∀ W : World, W.heap = w.heap → W.os = w.os → W.tape = w.tape → W.output = w.output → Laid w base (.slice (some ⟨g, 0, none⟩) n cap) n (xs.take (i * 3) ++ vs ++ xs.drop (i * 3)) (.returned (.slice (some ⟨g, 0, none⟩) (n + 1) cap)) ((W.setCells g ((i + 1) * 3) (xs.drop (i * 3))).setCells g (i * 3) vs)) := by
    intro W h0 h2 h3 h4
    have hownW : W.ownsRow base 155 3 (.slice (some ⟨g, 0, none⟩) n cap) n xs := by unfold World.ownsRow; rw [h0]; exact hown
    have k1 := (setCells_keeps g (xs.drop (i * 3)) ((i + 1) * 3) W).trans (setCells_keeps g vs (i * 3) _)
    exact ⟨_, rfl, owns_laidIn hownW hroom (by omega) hv, ⟨k1.os.trans h2, k1.tape.trans h3, k1.output.trans h4, by rw [← h0]; exact k1.size, fun k hk hs => by
      rw [← h0]
      exact k1.block k (by rw [h0]; exact hk) (fun e => hs (by rw [e]; rfl))⟩, .inl rfl⟩
  obtain ⟨hxl, h2⟩ := hown
  rcases h2 with ⟨hc, _⟩ | ⟨g', cap', cur, hc, hbg, hgb, hnc, hcm, hcs, htake⟩
  · cases hc
  cases hc
  have hcm' : cap ≤ 9223372036854775807 := by simp only [maxLen] at hcm; omega
  have hsp : ∀ j, j < (n + 1) * 3 → (w.cell? ⟨g, j, none⟩).isSome = true := fun j hj => by
    have : j < cur.size := by rw [hcs]; omega
    simp [World.cell?, hgb, this]
  have hfz : ∀ j, w.frozen? ⟨g, j, none⟩ = false := fun j => by simp [World.frozen?, hgb]
  have hcell : ∀ j u, xs[j]? = some u → w.cell? ⟨g, j, none⟩ = some u := fun j u hj => by
    have hlt := (List.getElem?_eq_some_iff.1 hj).1
    rw [← htake, List.getElem?_take, if_pos (by omega)] at hj
    simp [World.cell?, hgb, ← hj]
  have hsb : w.shape? g = some (155, cap * 3) := by simp [World.shape?, hgb, hcs]
  have hsz : (Tryd.prog.info? 155).map (·.size) = some 3 := by
    obtain ⟨i0, hi0, _, h1, _⟩ := info_parts infoLtr
    rw [hi0]; simp [h1]
  have hov : ∀ lb cb, (callFunc 126 #[.slice (some ⟨vb, 0, none⟩) 1 1, .slice (some ⟨g, (i + 1) * 3, none⟩) lb cb]).run Tryd.prog w = .ok (.value (.bool false)) w := fun lb cb => by
    rw [run_callFunc_extern Tryd.func126 (by kernel_rfl) (by kernel_rfl) (by kernel_rfl) (e := Extern.SlicesOverlaps.overlaps #[149, 149] #[4]) (by kernel_rfl),
      Lib.run_overlaps_apart w 149 4 155 Tryd.underlying149 3 Tryd.sizeOf155 ⟨vb, 0, none⟩ ⟨g, (i + 1) * 3, none⟩ 1 1 lb cb hvb 155 155 3 (cap * 3) hsa hsb (by omega) (hfa 0) (hfa 3)]
    rfl
  have hdl : (xs.drop (i * 3)).length = n * 3 - i * 3 := by rw [List.length_drop, hxl]
  have hcp1 : ∀ ty dc sc, (Builtin.copy_ #[149, 149] ty #[.slice (some ⟨g, (i + 1) * 3, none⟩) (n - i) dc, .slice (some ⟨g, i * 3, none⟩) (n + 1 - i) sc]).run Tryd.prog w.drew = .ok (goInt ((n - i : Nat) : Int)) (w.drew.setCells g ((i + 1) * 3) (xs.drop (i * 3))) := fun ty dc sc => by
    have hmin : Nat.min (n + 1 - i) (n - i) = n - i := by simp only [Nat.min_def]; split <;> omega
    have := run_copy_k (P := Tryd.prog) w.drew 149 149 ty 155 3 g ((i + 1) * 3) (n - i) dc ⟨g, i * 3, none⟩ (n + 1 - i) sc (xs.drop (i * 3)) Tryd.underlying149 hsz (by rw [hdl, hmin]; omega)
      (fun j u hj => by rw [Addr.add_lit]; exact hcell _ u (by rwa [List.getElem?_drop] at hj))
      (fun j hj => hsp _ (by rw [hdl] at hj; omega)) (fun j _ => hfz _) (fun u hu => h1x u (List.mem_of_mem_drop hu))
    rw [hmin] at this
    exact this
  obtain ⟨W1, hW1⟩ : ∃ W1, W1 = w.drew.setCells g ((i + 1) * 3) (xs.drop (i * 3)) := ⟨_, rfl⟩
  have hsp1 : ∀ j, j < (n + 1) * 3 → (W1.cell? ⟨g, j, none⟩).isSome = true := fun j hj => by
    rw [hW1]
    exact isSome_setCells g (xs.drop (i * 3)) ((i + 1) * 3) w.drew (fun t ht => hsp ((i + 1) * 3 + t) (by rw [hdl] at ht; omega)) _ (hsp j hj)
  have hcp2 : ∀ (W : World), (∀ x, W.cell? x = W1.cell? x) → (∀ x, W.frozen? x = W1.frozen? x) → ∀ ty dc, (Builtin.copy_ #[149, 149] ty #[.slice (some ⟨g, i * 3, none⟩) (n + 1 - i) dc, .slice (some ⟨vb, 0, none⟩) 1 1]).run Tryd.prog W = .ok (goInt 1) (W.setCells g (i * 3) vs) := fun W hWc hWf ty dc => by
    have hmin : Nat.min 1 (n + 1 - i) = 1 := by simp only [Nat.min_def]; split <;> omega
    have := run_copy_k (P := Tryd.prog) W 149 149 ty 155 3 g (i * 3) (n + 1 - i) dc ⟨vb, 0, none⟩ 1 1 vs Tryd.underlying149 hsz (by rw [hmin, hv])
      (fun j u hj => by
        rw [Addr.add_lit, Nat.zero_add, hWc, hW1, World.cell?_setCells_out g _ _ _ _ (fun h _ => absurd h hvb)]
        exact hvs j u hj)
      (fun j hj => by rw [hWc]; exact hsp1 _ (by omega)) (fun j _ => by rw [hWf, hW1, World.frozen?_setCells]; exact hfz _) h1v
    rw [hmin] at this
    exact this
  rw [← hW1] at hcp1
  have hw1 : IntKind.i64.wrap ((i : Int) + 1) = (i : Int) + 1 := by rw [IntKind.wrap_i64]; omega
  have hw2 : IntKind.i64.wrap ((n : Int) + 1) = (n : Int) + 1 := by rw [IntKind.wrap_i64]; omega
  have hb1 : (0 : Int) ≤ (i : Int) + 1 := by omega
  have hz2 : ¬ ((i : Int) = (n : Int)) := by omega
  have hin : i ≤ n := by omega
  have htn : ((i : Int) + 1).toNat = i + 1 := by omega
  have htn2 : ((n : Int) + 1).toNat = n + 1 := by omega
  have hb2 : ¬ (cap = i + 1) := by omega
  have hb3 : (i : Int) ≤ (n : Int) + 1 := by omega
  have hb4 : ¬ (cap = i) := by omega
  have hb5 : ¬ ((cap : Int) < (n : Int) + 1) := by omega
  clear htake hcs hgb hsp hfz hcell hsb hcm hxl hdl hvs h1v h1x hsa hfa hsp1 hbg
  go_enter Tryd.func97, Tryd.ntmps97
  go_wp2_with (simp only [hov])
  have mixed : Tryd.prog.follows .mixedOrders = true := by kernel_rfl
  go_region_law_o (refine step_copy_runI rfl _ _ 149 149 rfl _ _ (by simp [Act.eval, Act.put]) (by simp [Act.eval, Act.put]) (hcp1 _ _ _) ?_)
  clear mixed
  go_wp2_with (at_builtin; refine wpList_copy_runI _ rfl _ _ 149 149 rfl _ _ rfl rfl (hcp2 _ (fun _ => rfl) (fun _ => rfl) _ _) ?_)
  go_ret
  subst hW1
  exact hL.out w.drew rfl rfl rfl rfl
set_option maxRecDepth 100000 in
set_option maxHeartbeats 4000000 in
theorem insert_grow (w : World) (base g n cap i : Nat) (xs vs : List Value) (hown : w.ownsRow base 155 3 (.slice (some ⟨g, 0, none⟩) n cap) n xs) (hn : n ≤ 1000) (vb : Nat) (hv : vs.length = 3)
    (hvs : ∀ j u, vs[j]? = some u → w.cell? ⟨vb, j, none⟩ = some u) (h1v : ∀ u ∈ vs, u.oneCell' = true) (h1x : ∀ u ∈ xs, u.oneCell' = true) (hbase : base ≤ w.heap.size)
    (hi : i < n) (hroom : cap < n + 1) :
    Calls Tryd.prog 97 #[.slice (some ⟨g, 0, none⟩) n cap, .int .i64 i, .slice (some ⟨vb, 0, none⟩) 1 1] w (Laid w base (.slice (some ⟨g, 0, none⟩) n cap) n (xs.take (i * 3) ++ vs ++ xs.drop (i * 3))) := by
  obtain ⟨hxl, h2⟩ := hown
  rcases h2 with ⟨hc, _⟩ | ⟨g', cap', cur, hc, hbg, hgb, hnc, hcm, hcs, htake⟩
  · cases hc
  cases hc
  obtain ⟨i0, hi0, hz0, hzs, hzb⟩ := info_parts infoLtr
  have hcell : ∀ j u, xs[j]? = some u → w.cell? ⟨g, j, none⟩ = some u := fun j u hj => by
    have hlt := (List.getElem?_eq_some_iff.1 hj).1
    rw [← htake, List.getElem?_take, if_pos (by omega)] at hj
    simp [World.cell?, hgb, ← hj]
  have hgw : g < w.heap.size := (Array.getElem?_eq_some_iff.1 hgb).1
  have hvw : vb < w.heap.size := block_lt_of_cell (hvs 0 _ (List.getElem?_eq_getElem (by omega)))
  have hsz : (Tryd.prog.info? 155).map (·.size) = some 3 := by rw [hi0]; simp [hzs]
  have htl : (xs.take (i * 3)).length = i * 3 := by rw [List.length_take, hxl]; omega
  have hdl : (xs.drop (i * 3)).length = n * 3 - i * 3 := by rw [List.length_drop, hxl]
  have hold : (Builtin.firstCells i0.size i (.slice (some ⟨g, 0, none⟩) i cap)).run Tryd.prog w.drew = .ok (xs.take (i * 3)).toArray w.drew := by
    rw [hzs]
    exact run_firstCells_some w.drew 3 i ⟨g, 0, none⟩ i cap (xs.take (i * 3)) htl (fun j u hj => by
      rw [Addr.add_lit, Nat.zero_add]
      rw [List.getElem?_take] at hj
      split at hj
      · exact hcell j u hj
      · cases hj)
  have hik : i + (n + 1 - i) = n + 1 := by omega
  have hkk : (n : Int) + 1 - (i : Int) = ((n + 1 - i : Nat) : Int) := by omega
  obtain ⟨Z, hZ⟩ : ∃ Z, Z = (Value.agg #[.int .i64 0, .int .u8 0, .bool false]).cells := ⟨_, rfl⟩
  have hZs : Z.size = 3 := by rw [hZ]; rfl
  obtain ⟨G, hG⟩ : ∃ G, G = grownCap w (n + 1) cap 155 := ⟨_, rfl⟩
  have hGn : n + 1 ≤ G := by rw [hG]; exact grownCap_ge w _ _ _
  have hGm : G ≤ maxLen := by rw [hG]; exact grownCap_le_maxLen w (n + 1) cap 155 (by unfold maxLen; omega)
  obtain ⟨ROW, hROW⟩ : ∃ ROW : Array Value, ROW = (xs.take (i * 3)).toArray ++ Builtin.zeroCells Z (n + 1 - i) ++ Builtin.zeroCells Z (G - (n + 1)) := ⟨_, rfl⟩
  have hrz : ∀ ty, (Builtin.append_ #[149, 3] ty #[.slice (some ⟨g, 0, none⟩) i cap, .int .i64 ((n : Int) + 1 - (i : Int))]).run Tryd.prog w = .ok (.slice (some ⟨w.heap.size, 0, none⟩) (n + 1) G) (w.drew.alloc (.cells ROW 155)) := fun ty => by
    have h := Lib.run_append_grow_zeros w 149 3 ty 155 i0 _ .i64 .i64 Tryd.underlying149 Tryd.underlying3 hi0 hz0 (some ⟨g, 0, none⟩) i cap (xs.take (i * 3)) hold (n + 1 - i) (by omega) (by omega) (by omega) (by omega) (by rw [hzb]; omega) (by rw [hzb, hik]; exact growslice_fits hroom (by omega))
    rw [hik, ← hG, ← hZ, ← hROW] at h
    rw [hkk]
    exact h
  have hRs : ROW.size = G * 3 := by
    rw [hROW]
    simp only [Array.size_append, List.size_toArray, htl, size_zeroCells, hZs]
    omega
  have hRl : ∃ Y, ROW.toList = xs.take (i * 3) ++ Y := ⟨(Builtin.zeroCells Z (n + 1 - i) ++ Builtin.zeroCells Z (G - (n + 1))).toList, by rw [hROW]; simp⟩
  obtain ⟨W1, hW1⟩ : ∃ W1, W1 = w.drew.alloc (.cells ROW 155) := ⟨_, rfl⟩
  rw [← hW1] at hrz
  have hN : ∀ j, j < (n + 1) * 3 → (W1.cell? ⟨w.heap.size, j, none⟩).isSome = true := fun j hj => by
    rw [hW1, World.cell?_alloc_at (w := w.drew) ROW _ w.heap.size j rfl, Array.getElem?_eq_getElem (by omega)]; rfl
  have hNf : ∀ j, W1.frozen? ⟨w.heap.size, j, none⟩ = false := fun j => by rw [hW1]; exact World.frozen?_alloc_at (w := w.drew) ROW _ w.heap.size j rfl
  have hOb : ∀ j u, w.cell? ⟨g, j, none⟩ = some u → W1.cell? ⟨g, j, none⟩ = some u := fun j u h => by rw [hW1, World.cell?_alloc_past (w := w.drew) _ g j hgw]; exact h
  have hOv : ∀ j u, w.cell? ⟨vb, j, none⟩ = some u → W1.cell? ⟨vb, j, none⟩ = some u := fun j u h => by rw [hW1, World.cell?_alloc_past (w := w.drew) _ vb j hvw]; exact h
  have hcpA : ∀ (W : World), (∀ x, W.cell? x = W1.cell? x) → (∀ x, W.frozen? x = W1.frozen? x) → ∀ ty dc, (Builtin.copy_ #[149, 149] ty #[.slice (some ⟨w.heap.size, i * 3, none⟩) (n + 1 - i) dc, .slice (some ⟨vb, 0, none⟩) 1 1]).run Tryd.prog W = .ok (goInt 1) (W.setCells w.heap.size (i * 3) vs) := fun W hWc hWf ty dc => by
    have hmin : Nat.min 1 (n + 1 - i) = 1 := by simp only [Nat.min_def]; split <;> omega
    have := run_copy_k (P := Tryd.prog) W 149 149 ty 155 3 w.heap.size (i * 3) (n + 1 - i) dc ⟨vb, 0, none⟩ 1 1 vs Tryd.underlying149 hsz (by rw [hmin, hv])
      (fun j u hj => by rw [Addr.add_lit, Nat.zero_add, hWc]; exact hOv _ u (hvs j u hj))
      (fun j hj => by rw [hWc]; exact hN _ (by omega)) (fun j _ => by rw [hWf]; exact hNf _) h1v
    rw [hmin] at this
    exact this
  have hgN : g ≠ w.heap.size := by omega
  have hcpB : ∀ (W : World), (∀ x, W.cell? x = (W1.setCells w.heap.size (i * 3) vs).cell? x) → (∀ x, W.frozen? x = (W1.setCells w.heap.size (i * 3) vs).frozen? x) → ∀ ty dc sc, (Builtin.copy_ #[149, 149] ty #[.slice (some ⟨w.heap.size, (i + 1) * 3, none⟩) (n - i) dc, .slice (some ⟨g, i * 3, none⟩) (n - i) sc]).run Tryd.prog W = .ok (goInt ((n - i : Nat) : Int)) (W.setCells w.heap.size ((i + 1) * 3) (xs.drop (i * 3))) := fun W hWc hWf ty dc sc => by
    have hmin : Nat.min (n - i) (n - i) = n - i := by simp [Nat.min_def]
    have := run_copy_k (P := Tryd.prog) W 149 149 ty 155 3 w.heap.size ((i + 1) * 3) (n - i) dc ⟨g, i * 3, none⟩ (n - i) sc (xs.drop (i * 3)) Tryd.underlying149 hsz (by rw [hdl, hmin]; omega)
      (fun j u hj => by
        rw [Addr.add_lit, hWc, World.cell?_setCells_out _ _ _ _ _ (fun h _ => absurd h hgN)]
        exact hOb _ u (hcell _ u (by rwa [List.getElem?_drop] at hj)))
      (fun j hj => by rw [hWc]; exact isSome_setCells w.heap.size vs (i * 3) W1 (fun t ht => hN _ (by omega)) _ (hN _ (by rw [hdl] at hj; omega)))
      (fun j _ => by rw [hWf, World.frozen?_setCells]; exact hNf _) (fun u hu => h1x u (List.mem_of_mem_drop hu))
    rw [hmin] at this
    exact this
  have hL : Aside (∀ W : World, W.heap = W1.heap → W.os = w.os → W.tape = w.tape → W.output = w.output → Laid w base (.slice (some ⟨g, 0, none⟩) n cap) n (xs.take (i * 3) ++ vs ++ xs.drop (i * 3)) (.returned (.slice (some ⟨w.heap.size, 0, none⟩) (n + 1) G)) ((W.setCells w.heap.size (i * 3) vs).setCells w.heap.size ((i + 1) * 3) (xs.drop (i * 3)))) := by
    intro W h0 h2 h3 h4
    have hgW : W.heap[w.heap.size]? = some (.cells ROW 155 (0, 0)) := by rw [h0, hW1]; exact heap_alloc_new w.drew _
    obtain ⟨Y, hY⟩ := hRl
    have k1 := (setCells_keeps w.heap.size vs (i * 3) W).trans (setCells_keeps w.heap.size (xs.drop (i * 3)) ((i + 1) * 3) _)
    have hWs : W.heap.size = w.heap.size + 1 := by rw [h0, hW1]; simp
    exact ⟨_, rfl, owns_newIn hgW hY hRs hbase hGn hGm (by omega) hxl hv, ⟨k1.os.trans h2, k1.tape.trans h3, k1.output.trans h4, by have := k1.size; omega, fun k hk hs => by
      refine (k1.block k (by omega) (by omega)).trans ?_
      rw [h0, hW1]
      exact Below.heap_alloc w.drew _ k hk⟩, .inr rfl⟩
  have hG63 : G ≤ 9223372036854775807 := by unfold maxLen at hGm; omega
  have hGi : ¬ (G = i) := by omega
  have hGim : ¬ (G = i + 1) := by omega
  have hci : ¬ (cap = i) := by omega
  have hw1 : IntKind.i64.wrap ((i : Int) + 1) = (i : Int) + 1 := by rw [IntKind.wrap_i64]; omega
  have hw2 : IntKind.i64.wrap ((n : Int) + 1) = (n : Int) + 1 := by rw [IntKind.wrap_i64]; omega
  have hw3 : IntKind.i64.wrap ((n : Int) + 1 - (i : Int)) = (n : Int) + 1 - (i : Int) := by rw [IntKind.wrap_i64]; omega
  have hb1 : (0 : Int) ≤ (i : Int) + 1 := by omega
  have hz2 : ¬ ((i : Int) = (n : Int)) := by omega
  have hin : i ≤ n := by omega
  have hin2 : i ≤ cap := by omega
  have htn : ((i : Int) + 1).toNat = i + 1 := by omega
  have hb5 : ((cap : Int) < (n : Int) + 1) := by omega
  have hb6 : ¬ ((n : Int) + 1 ≤ (cap : Int)) := by omega
  have hE1 : ∀ x, ((w.alloc (.cells ROW 155)).drew).cell? x = (w.drew.alloc (.cells ROW 155)).cell? x := fun x => rfl
  have hE2 : ∀ x, ((w.alloc (.cells ROW 155)).drew).frozen? x = (w.drew.alloc (.cells ROW 155)).frozen? x := fun x => rfl
  subst hW1
  have hF1 : ∀ x, (((w.alloc (.cells ROW 155)).drew.setCells w.heap.size (i * 3) vs).drew).cell? x = ((w.drew.alloc (.cells ROW 155)).setCells w.heap.size (i * 3) vs).cell? x := fun x => rfl
  have hF2 : ∀ x, (((w.alloc (.cells ROW 155)).drew.setCells w.heap.size (i * 3) vs).drew).frozen? x = ((w.drew.alloc (.cells ROW 155)).setCells w.heap.size (i * 3) vs).frozen? x := fun x => rfl
  clear htake hcs hgb hcell hcm hxl hdl htl hvs h1v h1x hbg hold hROW hG hRs hRl hN hNf hOb hOv hik hkk hGm hZ hZs hgw hvw
  go_enter Tryd.func97, Tryd.ntmps97
  go_wp2_with (first
    | (at_builtin; refine Lib.wpList_append_run _ rfl _ _ _ _ rfl _ _ rfl rfl _ _ (hrz _) ?_)
    | (at_builtin; refine wpList_copy_runI _ rfl _ _ 149 149 rfl _ _ rfl rfl (hcpA _ hE1 hE2 _ _) ?_))
  have mixed : Tryd.prog.follows .mixedOrders = true := by kernel_rfl
  go_region_law_o (refine step_copy_runI rfl _ _ 149 149 rfl (.slice (some ⟨w.heap.size, (i + 1) * 3, none⟩) (n - i) (G - (i + 1))) (.slice (some ⟨g, i * 3, none⟩) (n - i) (cap - i)) (by simp [Act.eval, Act.put]) (by simp [Act.eval, Act.put]) (hcpB _ hF1 hF2 3 (G - (i + 1)) (cap - i)) ?_)
  clear mixed
  go_wp2
  go_ret
  rw [drew_setCells]
  exact hL.out ((w.alloc (.cells ROW 155)).drew.drew) rfl rfl rfl rfl

theorem layLtr_any (w : World) (base n i : Nat) (v : Value) (xs vs : List Value) (hown : w.ownsRow base 155 3 v n xs) (hn : n ≤ 1000) (vb : Nat) (hv : vs.length = 3)
    (hvs : ∀ j u, vs[j]? = some u → w.cell? ⟨vb, j, none⟩ = some u) (h1v : ∀ u ∈ vs, u.oneCell' = true) (h1x : ∀ u ∈ xs, u.oneCell' = true) (hvb : some vb ≠ v.ownBlock) (hsa : w.shape? vb = some (155, 3)) (hfa : ∀ j, w.frozen? ⟨vb, j, none⟩ = false) (hbase : base ≤ w.heap.size) (hi : i ≤ n) :
    Calls Tryd.prog 97 #[v, .int .i64 i, .slice (some ⟨vb, 0, none⟩) 1 1] w (Laid w base v n (xs.take (i * 3) ++ vs ++ xs.drop (i * 3))) := by
  by_cases he : i = n
  · subst he
    have e1 : xs.take (i * 3) = xs := List.take_of_length_le (by rw [hown.1]; omega)
    have e2 : xs.drop (i * 3) = [] := List.drop_of_length_le (by rw [hown.1]; omega)
    rw [e1, e2, List.append_nil]
    exact insert_end w base v i xs vs hown hn vb hv hvs h1v hbase
  · have hown' := hown
    rcases hown.2 with ⟨rfl, rfl⟩ | ⟨g, cap, cur, rfl, -⟩
    · omega
    · by_cases hroom : n + 1 ≤ cap
      · exact insert_room w base g n cap i xs vs hown hn vb hv hvs h1v h1x (fun e => hvb (by rw [e]; rfl)) hsa hfa (by omega) hroom
      · exact insert_grow w base g n cap i xs vs hown hn vb hv hvs h1v h1x hbase (by omega) (by omega)
end Go.Proofs.YtkilnfooelihaaaDoor
