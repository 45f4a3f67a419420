import Derived.Test.YtcggmagdndhkbaaGreatDoorWt01
import Derived.Test.YtcggmagdndhkbaaGreatDoorWt04
import Derived.Test.YtcggmagdndhkbaaGreatDoorWt09
import Derived.Test.YtcggmagdndhkbaaGreatDoorWt10
import Derived.Test.YtcggmagdndhkbaaGreatDoorWt13
import Derived.Test.YtcggmagdndhkbaaGreatDoorProg
import Derived.Shelf.Spec.SlicesInsertGrow
import Derived.Lib.AppendZerosOnto
import Derived.Laws.NewBlocks
import Derived.WalkKit
import Derived.Deep.LoopGhost
import Derived.Deep.RegionHeld3
import Derived.Deep.RegionWith
import Derived.Deep.QuietTactic
import Derived.BigQuiet
import Derived.WalkSmall
import Derived.RegionTactic
import Derived.Laws.Pointers
import Derived.Carry
section
set_option linter.unusedVariables false
set_option linter.unusedSimpArgs false
namespace Go.Proofs.YtcggmagdndhkbaaGreatDoor
open Go.Shelf Go.RowKit Go.Lib
theorem infoEnt : (Tryz.prog.info? 269).map (fun i => (i.zero, i.size, i.bytes)) = some (some (.agg #[.int .i64 0, .int .i64 0, .int .i64 0, .int .i64 0, .string ⟨#[]⟩, .int .i64 0, .int .i64 0, .string ⟨#[]⟩]), 8, 80) := by kernel_rfl
def Laid (w : World) (base : Nat) (v : Value) (n : Nat) (ys : List Value) (e : Ending) (w' : World) : Prop :=
  ∃ v', e = .returned v' ∧ w'.ownsRow base 269 8 v' (n + 1) ys ∧ Keeps (fun k => some k = v.ownBlock) w w' ∧ (v'.ownBlock = v.ownBlock ∨ v'.ownBlock = some w.heap.size)
set_option maxRecDepth 100000 in
set_option maxHeartbeats 1000000 in
theorem insert_end (w : World) (base : Nat) (v : Value) (n : Nat) (xs vs : List Value) (hown : w.ownsRow base 269 8 v n xs) (hn : n ≤ 1000) (vb : Nat) (hv : vs.length = 8)
    (hvs : ∀ j u, vs[j]? = some u → w.cell? ⟨vb, j, none⟩ = some u) (h1v : ∀ u ∈ vs, u.oneCell' = true) (hbase : base ≤ w.heap.size) :
    Calls Tryz.prog 184 #[v, .int .i64 n, .slice (some ⟨vb, 0, none⟩) 1 1] w (Laid w base v n (xs ++ vs)) := by
  obtain ⟨i0, hi, hz0, hz1, hz2⟩ := info_parts infoEnt
  obtain ⟨v', w', hrun, ho, hg, hb⟩ := append_at (P := Tryz.prog) w base 183 183 269 i0 _ 8 80 Tryz.underlying183 hi hz0 hz1 hz2 rfl (by omega) v n xs hown ⟨vb, 0, none⟩ 1 1 (by omega) vs (by omega)
    (fun j u hj => by rw [Addr.add_lit, Nat.zero_add]; exact hvs j u hj) h1v (by simp only [maxLen]; omega) (by omega) hbase
  have hfin : Aside (Laid w base v n (xs ++ vs) (.returned v') w') := ⟨v', rfl, ho, keeps_of_grown hg, hb⟩
  rcases hown.2 with ⟨rfl, rfl⟩ | ⟨g, cap, cur, rfl, hbg, hgb, hnc, hcm, hcs, htake⟩
  · clear hown ho hg hb hvs h1v
    go_enter Tryz.func184, Tryz.ntmps184
    go_wp2_with (at_builtin; refine Lib.wpList_append_run _ rfl _ _ _ _ rfl _ _ rfl rfl _ _ hrun ?_)
    go_ret
    exact hfin.out
  · clear hown ho hg hb hvs h1v htake hcs hgb hbg
    go_enter Tryz.func184, Tryz.ntmps184
    go_wp2_with (at_builtin; refine Lib.wpList_append_run _ rfl _ _ _ _ rfl _ _ rfl rfl _ _ hrun ?_)
    all_goals (go_ret; exact hfin.out)
set_option maxRecDepth 100000 in
set_option maxHeartbeats 4000000 in
theorem insert_room (w : World) (base g n cap i : Nat) (xs vs : List Value) (hown : w.ownsRow base 269 8 (.slice (some ⟨g, 0, none⟩) n cap) n xs) (hn : n ≤ 1000) (vb : Nat) (hv : vs.length = 8)
    (hvs : ∀ j u, vs[j]? = some u → w.cell? ⟨vb, j, none⟩ = some u) (h1v : ∀ u ∈ vs, u.oneCell' = true) (h1x : ∀ u ∈ xs, u.oneCell' = true) (hvb : vb ≠ g) (hsa : w.shape? vb = some (269, 8)) (hfa : ∀ j, w.frozen? ⟨vb, j, none⟩ = false)
    (hi : i < n) (hroom : n + 1 ≤ cap) :
    Calls Tryz.prog 184 #[.slice (some ⟨g, 0, none⟩) n cap, .int .i64 i, .slice (some ⟨vb, 0, none⟩) 1 1] w (Laid w base (.slice (some ⟨g, 0, none⟩) n cap) n (xs.take (i * 8) ++ vs ++ xs.drop (i * 8))) := by
  have hL : Aside (∀ W : World, W.heap = w.heap → W.os = w.os → W.tape = w.tape → W.output = w.output → Laid w base (.slice (some ⟨g, 0, none⟩) n cap) n (xs.take (i * 8) ++ vs ++ xs.drop (i * 8)) (.returned (.slice (some ⟨g, 0, none⟩) (n + 1) cap)) ((W.setCells g ((i + 1) * 8) (xs.drop (i * 8))).setCells g (i * 8) vs)) := by
    intro W h0 h2 h3 h4
    have hownW : W.ownsRow base 269 8 (.slice (some ⟨g, 0, none⟩) n cap) n xs := by unfold World.ownsRow; rw [h0]; exact hown
    have k1 := (setCells_keeps g (xs.drop (i * 8)) ((i + 1) * 8) W).trans (setCells_keeps g vs (i * 8) _)
    exact ⟨_, rfl, owns_laidIn hownW hroom (by omega) hv, ⟨k1.os.trans h2, k1.tape.trans h3, k1.output.trans h4, by rw [← h0]; exact k1.size, fun k hk hs => by
      rw [← h0]
      exact k1.block k (by rw [h0]; exact hk) (fun e => hs (by rw [e]; rfl))⟩, .inl rfl⟩
  obtain ⟨hxl, h2⟩ := hown
  rcases h2 with ⟨hc, _⟩ | ⟨g', cap', cur, hc, hbg, hgb, hnc, hcm, hcs, htake⟩
  · cases hc
  cases hc
  have hcm' : cap ≤ 9223372036854775807 := by simp only [maxLen] at hcm; omega
  have hsp : ∀ j, j < (n + 1) * 8 → (w.cell? ⟨g, j, none⟩).isSome = true := fun j hj => by
    have : j < cur.size := by rw [hcs]; omega
    simp [World.cell?, hgb, this]
  have hfz : ∀ j, w.frozen? ⟨g, j, none⟩ = false := fun j => by simp [World.frozen?, hgb]
  have hcell : ∀ j u, xs[j]? = some u → w.cell? ⟨g, j, none⟩ = some u := fun j u hj => by
    have hlt := (List.getElem?_eq_some_iff.1 hj).1
    rw [← htake, List.getElem?_take, if_pos (by omega)] at hj
    simp [World.cell?, hgb, ← hj]
  have hsb : w.shape? g = some (269, cap * 8) := by simp [World.shape?, hgb, hcs]
  have hsz : (Tryz.prog.info? 269).map (·.size) = some 8 := by
    obtain ⟨i0, hi0, _, h1, _⟩ := info_parts infoEnt
    rw [hi0]; simp [h1]
  have hov : ∀ lb cb, (callFunc 228 #[.slice (some ⟨vb, 0, none⟩) 1 1, .slice (some ⟨g, (i + 1) * 8, none⟩) lb cb]).run Tryz.prog w = .ok (.value (.bool false)) w := fun lb cb => by
    rw [run_callFunc_extern Tryz.func228 (by kernel_rfl) (by kernel_rfl) (by kernel_rfl) (e := Extern.SlicesOverlaps.overlaps #[183, 183] #[4]) (by kernel_rfl),
      Lib.run_overlaps_apart w 183 4 269 Tryz.underlying183 8 Tryz.sizeOf269 ⟨vb, 0, none⟩ ⟨g, (i + 1) * 8, none⟩ 1 1 lb cb hvb 269 269 8 (cap * 8) hsa hsb (by omega) (hfa 0) (hfa 8)]
    rfl
  have hdl : (xs.drop (i * 8)).length = n * 8 - i * 8 := by rw [List.length_drop, hxl]
  have hcp1 : ∀ ty dc sc, (Builtin.copy_ #[183, 183] ty #[.slice (some ⟨g, (i + 1) * 8, none⟩) (n - i) dc, .slice (some ⟨g, i * 8, none⟩) (n + 1 - i) sc]).run Tryz.prog w.drew = .ok (goInt ((n - i : Nat) : Int)) (w.drew.setCells g ((i + 1) * 8) (xs.drop (i * 8))) := fun ty dc sc => by
    have hmin : Nat.min (n + 1 - i) (n - i) = n - i := by simp only [Nat.min_def]; split <;> omega
    have := run_copy_k (P := Tryz.prog) w.drew 183 183 ty 269 8 g ((i + 1) * 8) (n - i) dc ⟨g, i * 8, none⟩ (n + 1 - i) sc (xs.drop (i * 8)) Tryz.underlying183 hsz (by rw [hdl, hmin]; omega)
      (fun j u hj => by rw [Addr.add_lit]; exact hcell _ u (by rwa [List.getElem?_drop] at hj))
      (fun j hj => hsp _ (by rw [hdl] at hj; omega)) (fun j _ => hfz _) (fun u hu => h1x u (List.mem_of_mem_drop hu))
    rw [hmin] at this
    exact this
  obtain ⟨W1, hW1⟩ : ∃ W1, W1 = w.drew.setCells g ((i + 1) * 8) (xs.drop (i * 8)) := ⟨_, rfl⟩
  have hsp1 : ∀ j, j < (n + 1) * 8 → (W1.cell? ⟨g, j, none⟩).isSome = true := fun j hj => by
    rw [hW1]
    exact isSome_setCells g (xs.drop (i * 8)) ((i + 1) * 8) w.drew (fun t ht => hsp ((i + 1) * 8 + t) (by rw [hdl] at ht; omega)) _ (hsp j hj)
  have hcp2 : ∀ (W : World), (∀ x, W.cell? x = W1.cell? x) → (∀ x, W.frozen? x = W1.frozen? x) → ∀ ty dc, (Builtin.copy_ #[183, 183] ty #[.slice (some ⟨g, i * 8, none⟩) (n + 1 - i) dc, .slice (some ⟨vb, 0, none⟩) 1 1]).run Tryz.prog W = .ok (goInt 1) (W.setCells g (i * 8) vs) := fun W hWc hWf ty dc => by
    have hmin : Nat.min 1 (n + 1 - i) = 1 := by simp only [Nat.min_def]; split <;> omega
    have := run_copy_k (P := Tryz.prog) W 183 183 ty 269 8 g (i * 8) (n + 1 - i) dc ⟨vb, 0, none⟩ 1 1 vs Tryz.underlying183 hsz (by rw [hmin, hv])
      (fun j u hj => by
        rw [Addr.add_lit, Nat.zero_add, hWc, hW1, World.cell?_setCells_out g _ _ _ _ (fun h _ => absurd h hvb)]
        exact hvs j u hj)
      (fun j hj => by rw [hWc]; exact hsp1 _ (by omega)) (fun j _ => by rw [hWf, hW1, World.frozen?_setCells]; exact hfz _) h1v
    rw [hmin] at this
    exact this
  rw [← hW1] at hcp1
  have hw1 : IntKind.i64.wrap ((i : Int) + 1) = (i : Int) + 1 := by rw [IntKind.wrap_i64]; omega
  have hw2 : IntKind.i64.wrap ((n : Int) + 1) = (n : Int) + 1 := by rw [IntKind.wrap_i64]; omega
  have hb1 : (0 : Int) ≤ (i : Int) + 1 := by omega
  have hz2 : ¬ ((i : Int) = (n : Int)) := by omega
  have hin : i ≤ n := by omega
  have htn : ((i : Int) + 1).toNat = i + 1 := by omega
  have htn2 : ((n : Int) + 1).toNat = n + 1 := by omega
  have hb2 : ¬ (cap = i + 1) := by omega
  have hb3 : (i : Int) ≤ (n : Int) + 1 := by omega
  have hb4 : ¬ (cap = i) := by omega
  have hb5 : ¬ ((cap : Int) < (n : Int) + 1) := by omega
  clear htake hcs hgb hsp hfz hcell hsb hcm hxl hdl hvs h1v h1x hsa hfa hsp1 hbg
  go_enter Tryz.func184, Tryz.ntmps184
  go_wp2_with (simp only [hov])
  have mixed : Tryz.prog.follows .mixedOrders = true := by kernel_rfl
  go_region_law_o (refine step_copy_runI rfl _ _ 183 183 rfl _ _ (by simp [Act.eval, Act.put]) (by simp [Act.eval, Act.put]) (hcp1 _ _ _) ?_)
  clear mixed
  go_wp2_with (at_builtin; refine wpList_copy_runI _ rfl _ _ 183 183 rfl _ _ rfl rfl (hcp2 _ (fun _ => rfl) (fun _ => rfl) _ _) ?_)
  go_ret
  subst hW1
  exact hL.out w.drew rfl rfl rfl rfl
set_option maxRecDepth 100000 in
set_option maxHeartbeats 4000000 in
theorem insert_grow (w : World) (base g n cap i : Nat) (xs vs : List Value) (hown : w.ownsRow base 269 8 (.slice (some ⟨g, 0, none⟩) n cap) n xs) (hn : n ≤ 1000) (vb : Nat) (hv : vs.length = 8)
    (hvs : ∀ j u, vs[j]? = some u → w.cell? ⟨vb, j, none⟩ = some u) (h1v : ∀ u ∈ vs, u.oneCell' = true) (h1x : ∀ u ∈ xs, u.oneCell' = true) (hbase : base ≤ w.heap.size)
    (hi : i < n) (hroom : cap < n + 1) :
    Calls Tryz.prog 184 #[.slice (some ⟨g, 0, none⟩) n cap, .int .i64 i, .slice (some ⟨vb, 0, none⟩) 1 1] w (Laid w base (.slice (some ⟨g, 0, none⟩) n cap) n (xs.take (i * 8) ++ vs ++ xs.drop (i * 8))) := by
  obtain ⟨hxl, h2⟩ := hown
  rcases h2 with ⟨hc, _⟩ | ⟨g', cap', cur, hc, hbg, hgb, hnc, hcm, hcs, htake⟩
  · cases hc
  cases hc
  obtain ⟨i0, hi0, hz0, hzs, hzb⟩ := info_parts infoEnt
  have hcell : ∀ j u, xs[j]? = some u → w.cell? ⟨g, j, none⟩ = some u := fun j u hj => by
    have hlt := (List.getElem?_eq_some_iff.1 hj).1
    rw [← htake, List.getElem?_take, if_pos (by omega)] at hj
    simp [World.cell?, hgb, ← hj]
  have hgw : g < w.heap.size := (Array.getElem?_eq_some_iff.1 hgb).1
  have hvw : vb < w.heap.size := block_lt_of_cell (hvs 0 _ (List.getElem?_eq_getElem (by omega)))
  have hsz : (Tryz.prog.info? 269).map (·.size) = some 8 := by rw [hi0]; simp [hzs]
  have htl : (xs.take (i * 8)).length = i * 8 := by rw [List.length_take, hxl]; omega
  have hdl : (xs.drop (i * 8)).length = n * 8 - i * 8 := by rw [List.length_drop, hxl]
  have hold : (Builtin.firstCells i0.size i (.slice (some ⟨g, 0, none⟩) i cap)).run Tryz.prog w.drew = .ok (xs.take (i * 8)).toArray w.drew := by
    rw [hzs]
    exact run_firstCells_some w.drew 8 i ⟨g, 0, none⟩ i cap (xs.take (i * 8)) htl (fun j u hj => by
      rw [Addr.add_lit, Nat.zero_add]
      rw [List.getElem?_take] at hj
      split at hj
      · exact hcell j u hj
      · cases hj)
  have hik : i + (n + 1 - i) = n + 1 := by omega
  have hkk : (n : Int) + 1 - (i : Int) = ((n + 1 - i : Nat) : Int) := by omega
  obtain ⟨Z, hZ⟩ : ∃ Z, Z = (Value.agg #[.int .i64 0, .int .i64 0, .int .i64 0, .int .i64 0, .string ⟨#[]⟩, .int .i64 0, .int .i64 0, .string ⟨#[]⟩]).cells := ⟨_, rfl⟩
  have hZs : Z.size = 8 := by rw [hZ]; rfl
  obtain ⟨G, hG⟩ : ∃ G, G = grownCap w (n + 1) cap 269 := ⟨_, rfl⟩
  have hGn : n + 1 ≤ G := by rw [hG]; exact grownCap_ge w _ _ _
  have hGm : G ≤ maxLen := by rw [hG]; exact grownCap_le_maxLen w (n + 1) cap 269 (by unfold maxLen; omega)
  obtain ⟨ROW, hROW⟩ : ∃ ROW : Array Value, ROW = (xs.take (i * 8)).toArray ++ Builtin.zeroCells Z (n + 1 - i) ++ Builtin.zeroCells Z (G - (n + 1)) := ⟨_, rfl⟩
  have hrz : ∀ ty, (Builtin.append_ #[183, 3] ty #[.slice (some ⟨g, 0, none⟩) i cap, .int .i64 ((n : Int) + 1 - (i : Int))]).run Tryz.prog w = .ok (.slice (some ⟨w.heap.size, 0, none⟩) (n + 1) G) (w.drew.alloc (.cells ROW 269)) := fun ty => by
    have h := Lib.run_append_grow_zeros w 183 3 ty 269 i0 _ .i64 .i64 Tryz.underlying183 Tryz.underlying3 hi0 hz0 (some ⟨g, 0, none⟩) i cap (xs.take (i * 8)) hold (n + 1 - i) (by omega) (by omega) (by omega) (by omega) (by rw [hzb]; omega) (by rw [hzb, hik]; exact growslice_fits hroom (by omega))
    rw [hik, ← hG, ← hZ, ← hROW] at h
    rw [hkk]
    exact h
  have hRs : ROW.size = G * 8 := by
    rw [hROW]
    simp only [Array.size_append, List.size_toArray, htl, size_zeroCells, hZs]
    omega
  have hRl : ∃ Y, ROW.toList = xs.take (i * 8) ++ Y := ⟨(Builtin.zeroCells Z (n + 1 - i) ++ Builtin.zeroCells Z (G - (n + 1))).toList, by rw [hROW]; simp⟩
  obtain ⟨W1, hW1⟩ : ∃ W1, W1 = w.drew.alloc (.cells ROW 269) := ⟨_, rfl⟩
  rw [← hW1] at hrz
  have hN : ∀ j, j < (n + 1) * 8 → (W1.cell? ⟨w.heap.size, j, none⟩).isSome = true := fun j hj => by
    rw [hW1, World.cell?_alloc_at (w := w.drew) ROW _ w.heap.size j rfl, Array.getElem?_eq_getElem (by omega)]; rfl
  have hNf : ∀ j, W1.frozen? ⟨w.heap.size, j, none⟩ = false := fun j => by rw [hW1]; exact World.frozen?_alloc_at (w := w.drew) ROW _ w.heap.size j rfl
  have hOb : ∀ j u, w.cell? ⟨g, j, none⟩ = some u → W1.cell? ⟨g, j, none⟩ = some u := fun j u h => by rw [hW1, World.cell?_alloc_past (w := w.drew) _ g j hgw]; exact h
  have hOv : ∀ j u, w.cell? ⟨vb, j, none⟩ = some u → W1.cell? ⟨vb, j, none⟩ = some u := fun j u h => by rw [hW1, World.cell?_alloc_past (w := w.drew) _ vb j hvw]; exact h
  have hcpA : ∀ (W : World), (∀ x, W.cell? x = W1.cell? x) → (∀ x, W.frozen? x = W1.frozen? x) → ∀ ty dc, (Builtin.copy_ #[183, 183] ty #[.slice (some ⟨w.heap.size, i * 8, none⟩) (n + 1 - i) dc, .slice (some ⟨vb, 0, none⟩) 1 1]).run Tryz.prog W = .ok (goInt 1) (W.setCells w.heap.size (i * 8) vs) := fun W hWc hWf ty dc => by
    have hmin : Nat.min 1 (n + 1 - i) = 1 := by simp only [Nat.min_def]; split <;> omega
    have := run_copy_k (P := Tryz.prog) W 183 183 ty 269 8 w.heap.size (i * 8) (n + 1 - i) dc ⟨vb, 0, none⟩ 1 1 vs Tryz.underlying183 hsz (by rw [hmin, hv])
      (fun j u hj => by rw [Addr.add_lit, Nat.zero_add, hWc]; exact hOv _ u (hvs j u hj))
      (fun j hj => by rw [hWc]; exact hN _ (by omega)) (fun j _ => by rw [hWf]; exact hNf _) h1v
    rw [hmin] at this
    exact this
  have hgN : g ≠ w.heap.size := by omega
  have hcpB : ∀ (W : World), (∀ x, W.cell? x = (W1.setCells w.heap.size (i * 8) vs).cell? x) → (∀ x, W.frozen? x = (W1.setCells w.heap.size (i * 8) vs).frozen? x) → ∀ ty dc sc, (Builtin.copy_ #[183, 183] ty #[.slice (some ⟨w.heap.size, (i + 1) * 8, none⟩) (n - i) dc, .slice (some ⟨g, i * 8, none⟩) (n - i) sc]).run Tryz.prog W = .ok (goInt ((n - i : Nat) : Int)) (W.setCells w.heap.size ((i + 1) * 8) (xs.drop (i * 8))) := fun W hWc hWf ty dc sc => by
    have hmin : Nat.min (n - i) (n - i) = n - i := by simp [Nat.min_def]
    have := run_copy_k (P := Tryz.prog) W 183 183 ty 269 8 w.heap.size ((i + 1) * 8) (n - i) dc ⟨g, i * 8, none⟩ (n - i) sc (xs.drop (i * 8)) Tryz.underlying183 hsz (by rw [hdl, hmin]; omega)
      (fun j u hj => by
        rw [Addr.add_lit, hWc, World.cell?_setCells_out _ _ _ _ _ (fun h _ => absurd h hgN)]
        exact hOb _ u (hcell _ u (by rwa [List.getElem?_drop] at hj)))
      (fun j hj => by rw [hWc]; exact isSome_setCells w.heap.size vs (i * 8) W1 (fun t ht => hN _ (by omega)) _ (hN _ (by rw [hdl] at hj; omega)))
      (fun j _ => by rw [hWf, World.frozen?_setCells]; exact hNf _) (fun u hu => h1x u (List.mem_of_mem_drop hu))
    rw [hmin] at this
    exact this
  have hL : Aside (∀ W : World, W.heap = W1.heap → W.os = w.os → W.tape = w.tape → W.output = w.output → Laid w base (.slice (some ⟨g, 0, none⟩) n cap) n (xs.take (i * 8) ++ vs ++ xs.drop (i * 8)) (.returned (.slice (some ⟨w.heap.size, 0, none⟩) (n + 1) G)) ((W.setCells w.heap.size (i * 8) vs).setCells w.heap.size ((i + 1) * 8) (xs.drop (i * 8)))) := by
    intro W h0 h2 h3 h4
    have hgW : W.heap[w.heap.size]? = some (.cells ROW 269 (0, 0)) := by rw [h0, hW1]; exact heap_alloc_new w.drew _
    obtain ⟨Y, hY⟩ := hRl
    have k1 := (setCells_keeps w.heap.size vs (i * 8) W).trans (setCells_keeps w.heap.size (xs.drop (i * 8)) ((i + 1) * 8) _)
    have hWs : W.heap.size = w.heap.size + 1 := by rw [h0, hW1]; simp
    exact ⟨_, rfl, owns_newIn hgW hY hRs hbase hGn hGm (by omega) hxl hv, ⟨k1.os.trans h2, k1.tape.trans h3, k1.output.trans h4, by have := k1.size; omega, fun k hk hs => by
      refine (k1.block k (by omega) (by omega)).trans ?_
      rw [h0, hW1]
      exact Below.heap_alloc w.drew _ k hk⟩, .inr rfl⟩
  have hG63 : G ≤ 9223372036854775807 := by unfold maxLen at hGm; omega
  have hGi : ¬ (G = i) := by omega
  have hGim : ¬ (G = i + 1) := by omega
  have hci : ¬ (cap = i) := by omega
  have hw1 : IntKind.i64.wrap ((i : Int) + 1) = (i : Int) + 1 := by rw [IntKind.wrap_i64]; omega
  have hw2 : IntKind.i64.wrap ((n : Int) + 1) = (n : Int) + 1 := by rw [IntKind.wrap_i64]; omega
  have hw3 : IntKind.i64.wrap ((n : Int) + 1 - (i : Int)) = (n : Int) + 1 - (i : Int) := by rw [IntKind.wrap_i64]; omega
  have hb1 : (0 : Int) ≤ (i : Int) + 1 := by omega
  have hz2 : ¬ ((i : Int) = (n : Int)) := by omega
  have hin : i ≤ n := by omega
  have hin2 : i ≤ cap := by omega
  have htn : ((i : Int) + 1).toNat = i + 1 := by omega
  have hb5 : ((cap : Int) < (n : Int) + 1) := by omega
  have hb6 : ¬ ((n : Int) + 1 ≤ (cap : Int)) := by omega
  have hE1 : ∀ x, ((w.alloc (.cells ROW 269)).drew).cell? x = (w.drew.alloc (.cells ROW 269)).cell? x := fun x => rfl
  have hE2 : ∀ x, ((w.alloc (.cells ROW 269)).drew).frozen? x = (w.drew.alloc (.cells ROW 269)).frozen? x := fun x => rfl
  subst hW1
  have hF1 : ∀ x, (((w.alloc (.cells ROW 269)).drew.setCells w.heap.size (i * 8) vs).drew).cell? x = ((w.drew.alloc (.cells ROW 269)).setCells w.heap.size (i * 8) vs).cell? x := fun x => rfl
  have hF2 : ∀ x, (((w.alloc (.cells ROW 269)).drew.setCells w.heap.size (i * 8) vs).drew).frozen? x = ((w.drew.alloc (.cells ROW 269)).setCells w.heap.size (i * 8) vs).frozen? x := fun x => rfl
  clear htake hcs hgb hcell hcm hxl hdl htl hvs h1v h1x hbg hold hROW hG hRs hRl hN hNf hOb hOv hik hkk hGm hZ hZs hgw hvw
  go_enter Tryz.func184, Tryz.ntmps184
  go_wp2_with (first
    | (at_builtin; refine Lib.wpList_append_run _ rfl _ _ _ _ rfl _ _ rfl rfl _ _ (hrz _) ?_)
    | (at_builtin; refine wpList_copy_runI _ rfl _ _ 183 183 rfl _ _ rfl rfl (hcpA _ hE1 hE2 _ _) ?_))
  have mixed : Tryz.prog.follows .mixedOrders = true := by kernel_rfl
  go_region_law_o (refine step_copy_runI rfl _ _ 183 183 rfl (.slice (some ⟨w.heap.size, (i + 1) * 8, none⟩) (n - i) (G - (i + 1))) (.slice (some ⟨g, i * 8, none⟩) (n - i) (cap - i)) (by simp [Act.eval, Act.put]) (by simp [Act.eval, Act.put]) (hcpB _ hF1 hF2 3 (G - (i + 1)) (cap - i)) ?_)
  clear mixed
  go_wp2
  go_ret
  rw [drew_setCells]
  exact hL.out ((w.alloc (.cells ROW 269)).drew.drew) rfl rfl rfl rfl
theorem layEnt_any (w : World) (base n i : Nat) (v : Value) (xs vs : List Value) (hown : w.ownsRow base 269 8 v n xs) (hn : n ≤ 1000) (vb : Nat) (hv : vs.length = 8)
    (hvs : ∀ j u, vs[j]? = some u → w.cell? ⟨vb, j, none⟩ = some u) (h1v : ∀ u ∈ vs, u.oneCell' = true) (h1x : ∀ u ∈ xs, u.oneCell' = true) (hvb : some vb ≠ v.ownBlock) (hsa : w.shape? vb = some (269, 8)) (hfa : ∀ j, w.frozen? ⟨vb, j, none⟩ = false) (hbase : base ≤ w.heap.size) (hi : i ≤ n) :
    Calls Tryz.prog 184 #[v, .int .i64 i, .slice (some ⟨vb, 0, none⟩) 1 1] w (Laid w base v n (xs.take (i * 8) ++ vs ++ xs.drop (i * 8))) := by
  by_cases he : i = n
  · subst he
    have e1 : xs.take (i * 8) = xs := List.take_of_length_le (by rw [hown.1]; omega)
    have e2 : xs.drop (i * 8) = [] := List.drop_of_length_le (by rw [hown.1]; omega)
    rw [e1, e2, List.append_nil]
    exact insert_end w base v i xs vs hown hn vb hv hvs h1v hbase
  · have hown' := hown
    rcases hown.2 with ⟨rfl, rfl⟩ | ⟨g, cap, cur, rfl, -⟩
    · omega
    · by_cases hroom : n + 1 ≤ cap
      · exact insert_room w base g n cap i xs vs hown hn vb hv hvs h1v h1x (fun e => hvb (by rw [e]; rfl)) hsa hfa (by omega) hroom
      · exact insert_grow w base g n cap i xs vs hown hn vb hv hvs h1v h1x hbase (by omega) (by omega)
end Go.Proofs.YtcggmagdndhkbaaGreatDoor
end
section
namespace Go.Proofs.YtcggmagdndhkbaaGreatDoor
open Go.RowKit Go.Maps
open scoped Classical
structure TreeAt (base : Nat) (w : World) (bt bm : Nat) (v : Value) (ms : List Mov) : Prop where
  cell : TreeCell w bt bm v
  row : ∃ L, LogTo ms ms.length L ∧ w.ownsRow base 269 8 v ms.length (flat encE L)
  map : ∃ n, n ≤ 300 * ms.length ∧ MapAt Tryz.prog 3 w bm n (madeBy ms)
  by_ : ByStamp ms
  fine : ∀ m ∈ ms, FineP m.2
theorem TreeAt.good {base : Nat} {w : World} {bt bm : Nat} {v : Value} {ms : List Mov} (h : TreeAt base w bt bm v ms) : Good (madeBy ms) := good_made h.fine
theorem TreeAt.lt {base : Nat} {w : World} {bt bm : Nat} {v : Value} {ms : List Mov} (h : TreeAt base w bt bm v ms) : bt < w.heap.size ∧ bm < w.heap.size ∧ ∀ g, v.ownBlock = some g → g < w.heap.size := by
  obtain ⟨n, _, hM⟩ := h.map
  obtain ⟨L, _, hR⟩ := h.row
  exact ⟨h.cell.lt, hM.lt, fun g hg => (hR.lt g hg).2⟩
theorem owns_same {w w' : World} {base n : Nat} {e : TypeId} {k : Nat} {v : Value} {xs : List Value} (h : w.ownsRow base e k v n xs) (hs : ∀ g, v.ownBlock = some g → w'.heap[g]? = w.heap[g]?) : w'.ownsRow base e k v n xs := by
  refine ⟨h.1, ?_⟩
  rcases h.2 with h0 | ⟨g, cap, cur, rfl, h1, hg, h2⟩
  · exact .inl h0
  · exact .inr ⟨g, cap, cur, rfl, h1, (hs g rfl).trans hg, h2⟩
theorem TreeAt.same {base : Nat} {w w' : World} {bt bm : Nat} {v : Value} {ms : List Mov} (h : TreeAt base w bt bm v ms) (h1 : w'.heap[bt]? = w.heap[bt]?) (h2 : w'.heap[bm]? = w.heap[bm]?) (h3 : ∀ g, v.ownBlock = some g → w'.heap[g]? = w.heap[g]?) : TreeAt base w' bt bm v ms := by
  obtain ⟨n, hn, hM⟩ := h.map
  obtain ⟨L, hL, hR⟩ := h.row
  exact ⟨h1.trans h.cell, ⟨L, hL, owns_same hR h3⟩, ⟨n, hn, hM.same h2⟩, h.by_, h.fine⟩
theorem TreeAt.later {base : Nat} {w w' : World} {bt bm : Nat} {v : Value} {ms : List Mov} (h : TreeAt base w bt bm v ms) (hb : Below w.heap.size w w') : TreeAt base w' bt bm v ms :=
  h.same (hb.block _ h.lt.1) (hb.block _ h.lt.2.1) (fun g hg => hb.block g (h.lt.2.2 g hg))
theorem move_fine {t b n : Int} {node other : Int} {name value : ByteArray} (h : opE t b n 109 node other name.data.toList value.data.toList = 0) : FineP (node, other, name) := by
  have h0 := opE_zero h
  unfold opE at h
  rw [if_pos ⟨h0.1, h0.2.1, h0.2.2.1, h0.2.2.2.1, h0.2.2.2.2.1, h0.2.2.2.2.2.1⟩] at h
  unfold kindE at h
  rw [if_pos rfl] at h
  unfold moveE at h
  split at h
  · cases h
  · rename_i hc
    have hl : name.data.toList.length = name.size := by simp
    obtain ⟨_, _, _, _, _, _, _, _, _, _, _, _, h12, _⟩ := h0
    refine ⟨?_, ?_, ?_, ?_, ?_, ?_⟩ <;> dsimp only <;> omega
def UndoOk : Prop := ∀ (w : World) (base bt bm n at_ : Nat) (v : Value) (ms : List Mov) (L : List Ent), TreeCell w bt bm v → LogTo ms ms.length L → w.ownsRow base 269 8 v ms.length (flat encE L) → MapAt Tryz.prog 3 w bm n (madeBy ms) → (∀ m ∈ ms, FineP m.2) → at_ ≤ ms.length → ms.length ≤ 1000 → n ≤ 1000000 →
    Calls Tryz.prog 183 #[.pointer (some ⟨bt, 0, none⟩), .int .i64 (at_ : Int)] w fun e w' => (∃ u, e = .returned u) ∧ MapAt Tryz.prog 3 w' bm (n + (ms.length - at_)) (madeBy (ms.take at_)) ∧ Keeps (fun k => k = bm) w w'
end Go.Proofs.YtcggmagdndhkbaaGreatDoor
end
section
namespace Go.Proofs.YtcggmagdndhkbaaGreatDoor
open Go.RowKit Go.Maps
structure CellsAt (w : World) (bc bm n : Nat) (f : CSta) : Prop where
  cell : w.heap[bc]? = some (.cells #[.map (some bm)] 188 (0, 0))
  map : CMapAt w bm n f
theorem CellsAt.c0 {w : World} {bc bm n : Nat} {f : CSta} (h : CellsAt w bc bm n f) : w.cell? ⟨bc, 0, none⟩ = some (.map (some bm)) := by simp [World.cell?, h.cell]
theorem CellsAt.lt {w : World} {bc bm n : Nat} {f : CSta} (h : CellsAt w bc bm n f) : bc < w.heap.size ∧ bm < w.heap.size := ⟨(Array.getElem?_eq_some_iff.1 h.cell).1, h.map.lt⟩
theorem CellsAt.ne {w : World} {bc bm n : Nat} {f : CSta} (h : CellsAt w bc bm n f) : bc ≠ bm := fun e => by
  obtain ⟨⟨D, ⟨es, clock, hb, _⟩, _⟩, _⟩ := h.map
  have := h.cell
  rw [e, hb] at this
  cases this
theorem CellsAt.same {w w' : World} {bc bm n : Nat} {f : CSta} (h : CellsAt w bc bm n f) (h1 : w'.heap[bc]? = w.heap[bc]?) (h2 : w'.heap[bm]? = w.heap[bm]?) : CellsAt w' bc bm n f := ⟨h1.trans h.cell, h.map.same h2⟩
theorem CellsAt.later {w w' : World} {bc bm n : Nat} {f : CSta} (h : CellsAt w bc bm n f) (hb : Below w.heap.size w w') : CellsAt w' bc bm n f := h.same (hb.block _ h.lt.1) (hb.block _ h.lt.2)
theorem CellsAt.mono {w : World} {bc bm n n' : Nat} {f : CSta} (h : CellsAt w bc bm n f) (hn : n ≤ n') : CellsAt w bc bm n' f := ⟨h.cell, h.map.mono hn⟩
set_option maxHeartbeats 400000 in
theorem cellsNew (w : World) : Calls Tryz.prog 51 #[] w fun e w' => e = .returned (.pointer (some ⟨w.heap.size + 1, 0, none⟩)) ∧ w' = (w.alloc (.map #[] 0)).alloc (.cells #[.map (some w.heap.size)] 188) := by
  have hmm := @run_makeMap Tryz.prog
  go_enter Tryz.func51, Tryz.ntmps51
  go_wp2
  go_ret
  exact ⟨rfl, rfl⟩
set_option maxHeartbeats 400000 in
theorem all_any (w : World) (bc bm : Nat) (h : w.cell? ⟨bc, 0, none⟩ = some (.map (some bm))) : Calls Tryz.prog 139 #[.pointer (some ⟨bc, 0, none⟩)] w fun e w' => e = .returned (.map (some bm)) ∧ w' = w := by
  go_enter Tryz.func139, Tryz.ntmps139
  go_wp2
  go_ret
  exact ⟨rfl, rfl⟩
theorem lessB_clt (a b : Int × Int) : lessB a.1 a.2 b.1 b.2 = decide (CLt a b) := by
  unfold lessB CLt
  by_cases h : a.1 = b.1
  · rw [if_pos h]
    simp [h]
  · rw [if_neg h]
    simp [h]
def CPutOk (w : World) (bc bm n : Nat) (f : CSta) (m : CKey × CMark) (w' : World) : Prop := CellsAt w' bc bm (n + 1) (setC f m) ∧ Keeps (fun j => j = bm) w w'
set_option maxRecDepth 100000 in
set_option maxHeartbeats 2000000 in
theorem put_any (w : World) (bc bm n : Nat) (f : CSta) (a : Int) (s c : ByteArray) (t b : Int) (h : CellsAt w bc bm n f) (hn : n ≤ 1000000) (hk : WfK (a, s)) :
    Calls Tryz.prog 190 #[.pointer (some ⟨bc, 0, none⟩), .agg #[.int .i64 a, .string s], .agg #[.string c, .int .i64 t, .int .i64 b]] w fun e w' => e = .returned (.bool (goesC f (a, s) (c, (t, b)))) ∧ CPutOk w bc bm n f ((a, s), (c, (t, b))) w' := by
  obtain ⟨S, hS⟩ : ∃ S, S = w.heap.size := ⟨_, rfl⟩
  obtain ⟨U, hU⟩ : ∃ U, U = (w.alloc (.cells #[.int .i64 a, .string s] 234)).alloc (.cells #[.string c, .int .i64 t, .int .i64 b] 236) := ⟨_, rfl⟩
  have hKU : Keeps (fun _ => False) w U := by rw [hU]; exact ((Keeps.refl _ w).alloc _).alloc _
  have hsU : U.heap.size = S + 2 := by rw [hU, hS]; simp
  have hu1 : U.heap[S + 1]? = some (.cells #[.string c, .int .i64 t, .int .i64 b] 236 (0, 0)) := by
    have := heap_alloc_new (w.alloc (.cells #[.int .i64 a, .string s] 234)) (.cells #[.string c, .int .i64 t, .int .i64 b] 236)
    rw [World.size_alloc] at this
    rw [hU, hS]
    exact this
  have hu0 : U.heap[S]? = some (.cells #[.int .i64 a, .string s] 234 (0, 0)) := by
    rw [hU, hS, Below.heap_alloc _ _ _ (by simp)]
    exact heap_alloc_new w _
  have hA : CellsAt U bc bm n f := h.same (hKU.block _ h.lt.1 (fun e => e)) (hKU.block _ h.lt.2 (fun e => e))
  obtain ⟨Z, hZ⟩ : ∃ Z, Z = U.alloc (.cells #[.string ⟨#[]⟩, .int .i64 0, .int .i64 0] 236) := ⟨_, rfl⟩
  have hbZ : Below U.heap.size U Z := by rw [hZ]; exact (Below.refl _ U).alloc (Nat.le_refl _) _
  have hAZ : CellsAt Z bc bm n f := hA.later hbZ
  have c0 : U.cell? ⟨bc, 0, none⟩ = some (.map (some bm)) := hA.c0
  have c1 := hAZ.c0
  have l0 := (hA.later (Below.refl _ U).drew).map.look hk
  have l1 := (hAZ.later (Below.refl _ Z).drew).map.look hk
  have k0 : U.cell? ⟨S, 0, none⟩ = some (.int .i64 a) := by simp [World.cell?, hu0]
  have k1 : U.cell? ⟨S, 1, none⟩ = some (.string s) := by simp [World.cell?, hu0]
  have j0 : Z.cell? ⟨S, 0, none⟩ = some (.int .i64 a) := (hbZ.cell (p := ⟨S, 0, none⟩) (by dsimp only; omega)).trans k0
  have j1 : Z.cell? ⟨S, 1, none⟩ = some (.string s) := (hbZ.cell (p := ⟨S, 1, none⟩) (by dsimp only; omega)).trans k1
  unfold encK at l0 l1
  cases hf : f (a, s) with
  | none =>
    have hg : goesC f (a, s) (c, (t, b)) = true := by unfold goesC; rw [hf]
    rw [hg]
    rw [hf] at l0 l1
    simp only [Option.getD_none, Option.isSome_none] at l0 l1
    unfold encC zeroC at l0 l1
    dsimp only at l0 l1
    have HA : Aside (CellsAt U bc bm n f ∧ Keeps (fun _ => False) w U ∧ U.heap.size = S + 2 ∧ U.heap[S]? = some (.cells #[.int .i64 a, .string s] 234 (0, 0)) ∧ U.heap[S + 1]? = some (.cells #[.string c, .int .i64 t, .int .i64 b] 236 (0, 0))) := ⟨hA, hKU, hsU, hu0, hu1⟩
    clear hA hKU hu0 hu1 hAZ hbZ h hg
    subst hZ
    go_enter Tryz.func190, Tryz.ntmps190
    go_wp2_with fail
    rw [← hU, ← hS]
    have HS : Aside (S = w.heap.size) := hS
    clear hU hS
    have hu1' := HA.out.2.2.2.2
    have hbV := (Below.refl U.heap.size U).alloc (Nat.le_refl _) (.cells #[.string ⟨#[]⟩, .int .i64 0, .int .i64 0] 236)
    have m0 : (U.alloc (.cells #[.string ⟨#[]⟩, .int .i64 0, .int .i64 0] 236)).cell? ⟨S + 1, 0, none⟩ = some (.string c) := (hbV.cell (p := ⟨S + 1, 0, none⟩) (by dsimp only; omega)).trans (by simp [World.cell?, hu1'])
    have m1 : (U.alloc (.cells #[.string ⟨#[]⟩, .int .i64 0, .int .i64 0] 236)).cell? ⟨S + 1, 1, none⟩ = some (.int .i64 t) := (hbV.cell (p := ⟨S + 1, 1, none⟩) (by dsimp only; omega)).trans (by simp [World.cell?, hu1'])
    have m2 : (U.alloc (.cells #[.string ⟨#[]⟩, .int .i64 0, .int .i64 0] 236)).cell? ⟨S + 1, 2, none⟩ = some (.int .i64 b) := (hbV.cell (p := ⟨S + 1, 2, none⟩) (by dsimp only; omega)).trans (by simp [World.cell?, hu1'])
    obtain ⟨w2, hrun, hM2, hT2⟩ := ((HA.out.1.later hbV).later (Below.refl _ _).drew |>.later (Below.refl _ _).drew).map.store (by simp only [maxLen]; omega) hk (c, (t, b))
    have HP : Aside (CPutOk w bc bm n f ((a, s), (c, (t, b))) w2) := by
      have hKV := keeps_of_grown hT2.grown
      have hne := HA.out.1.ne
      have hlt := HA.out.1.lt
      have hs2 := hbV.size
      refine ⟨⟨?_, ?_⟩, ?_⟩
      · rw [hKV.block bc (by simp [World.drew]; omega) (fun e => hne (by simpa using e))]
        exact (hbV.block bc hlt.1).trans HA.out.1.cell
      · have : setC f ((a, s), (c, (t, b))) = fun x => if x = (a, s) then some (c, (t, b)) else f x := setC_goes (by unfold goesC; rw [hf])
        rw [this]
        exact hM2
      · exact ((HA.out.2.1.mono (fun _ _ e => e.elim)).then (((keeps_of_below hbV).drew).drew) (fun i hi e => by have := HA.out.2.1.size; omega)).then hKV (fun i hi e => by simpa using e)
    unfold encK encC at hrun
    dsimp only at hrun
    have HR := HP
    clear hM2 hT2 hbV hu1'
    go_region
    all_goals
      go_wp2_with fail
      go_region
    all_goals
      go_wp2
      go_ret
      exact ⟨rfl, HP.out⟩
  | some o =>
    obtain ⟨vo, tO, bo⟩ := o
    rw [hf] at l0 l1
    simp only [Option.getD_some, Option.isSome_some] at l0 l1
    unfold encC at l0 l1
    dsimp only at l0 l1
    obtain ⟨V, hV⟩ : ∃ V, V = (U.alloc (.cells #[.string vo, .int .i64 tO, .int .i64 bo] 236)).drew := ⟨_, rfl⟩
    have hbV : Below U.heap.size U V := by rw [hV]; exact ((Below.refl U.heap.size U).alloc (Nat.le_refl _) _).drew
    have hv1 : V.heap[S + 1]? = some (.cells #[.string c, .int .i64 t, .int .i64 b] 236 (0, 0)) := (hbV.block _ (by omega)).trans hu1
    have hv0 : V.heap[S]? = some (.cells #[.int .i64 a, .string s] 234 (0, 0)) := (hbV.block _ (by omega)).trans hu0
    have hv2 : V.heap[S + 2]? = some (.cells #[.string vo, .int .i64 tO, .int .i64 bo] 236 (0, 0)) := by
      rw [hV, ← hsU]
      exact heap_alloc_new U _
    have hKV : Keeps (fun _ => False) w V := (hKU.then (keeps_of_below hbV) (fun i hi e => by have := hKU.size; omega))
    have hAV : CellsAt V bc bm n f := hA.later hbV
    have hsV : V.heap.size = S + 3 := by rw [hV]; show (U.alloc _).heap.size = _; rw [World.size_alloc, hsU]
    have hg : goesC f (a, s) (c, (t, b)) = lessB tO bo t b := by unfold goesC; rw [hf]; exact (lessB_clt (tO, bo) (t, b)).symm
    rw [hg]
    have HA : Aside (CellsAt V bc bm n f ∧ Keeps (fun _ => False) w V ∧ V.heap.size = S + 3 ∧ V.heap[S]? = some (.cells #[.int .i64 a, .string s] 234 (0, 0)) ∧ V.heap[S + 1]? = some (.cells #[.string c, .int .i64 t, .int .i64 b] 236 (0, 0)) ∧ V.heap[S + 2]? = some (.cells #[.string vo, .int .i64 tO, .int .i64 bo] 236 (0, 0)) ∧ goesC f (a, s) (c, (t, b)) = lessB tO bo t b) := ⟨hAV, hKV, hsV, hv0, hv1, hv2, hg⟩
    have x1 : V.cell? ⟨S + 1, 1, none⟩ = some (.int .i64 t) := by simp [World.cell?, hv1]
    have x2 : V.cell? ⟨S + 1, 2, none⟩ = some (.int .i64 b) := by simp [World.cell?, hv1]
    have y1 : V.cell? ⟨S + 2, 1, none⟩ = some (.int .i64 tO) := by simp [World.cell?, hv2]
    have y2 : V.cell? ⟨S + 2, 2, none⟩ = some (.int .i64 bo) := by simp [World.cell?, hv2]
    clear hA hKU hu0 hu1 hAZ hbZ h hg hbV hv0 hv1 hv2 hKV hAV hsV
    subst hZ
    go_enter Tryz.func190, Tryz.ntmps190
    go_wp2_with fail
    rw [← hU, ← hS]
    have HS : Aside (S = w.heap.size) := hS
    clear hU hS
    go_region
    all_goals
      rw [← hV]
      clear l0 l1 c0 c1 k0 k1 j0 j1 hV
      go_wp2_with fail
      refine (less_any tO bo t b _).mono ?_
      rintro e w3 ⟨rfl, hb3⟩
      have hA3 : CellsAt w3 bc bm n f := HA.out.1.later hb3
      have hK3 : Keeps (fun _ => False) w w3 := HA.out.2.1.then (keeps_of_below hb3) (fun i hi e => by have := HA.out.2.1.size; omega)
      cases hl : lessB tO bo t b with
      | false =>
        have HP : Aside (CPutOk w bc bm n f ((a, s), (c, (t, b))) w3) := by
          have : setC f ((a, s), (c, (t, b))) = f := setC_stays (HA.out.2.2.2.2.2.2.trans hl)
          exact ⟨by rw [this]; exact hA3.mono (Nat.le_succ n), hK3.mono (fun _ _ e => e.elim)⟩
        clear hA3 hK3 hb3
        go_wp2
        go_ret
        exact ⟨by rw [hl]; rfl, HP.out⟩
      | true =>
        obtain ⟨w2, hrun, hM2, hT2⟩ := (hA3.later (Below.refl _ _).drew).map.store (by simp only [maxLen]; omega) hk (c, (t, b))
        have HP : Aside (CPutOk w bc bm n f ((a, s), (c, (t, b))) w2) := by
          have hKV := keeps_of_grown hT2.grown
          refine ⟨⟨?_, ?_⟩, ?_⟩
          · rw [hKV.block bc hA3.lt.1 (fun e => hA3.ne (by simpa using e))]
            exact hA3.cell
          · have : setC f ((a, s), (c, (t, b))) = fun x => if x = (a, s) then some (c, (t, b)) else f x := setC_goes (HA.out.2.2.2.2.2.2.trans hl)
            rw [this]
            exact hM2
          · exact ((hK3.mono (fun _ _ e => e.elim)).drew).then hKV (fun i hi e => by simpa using e)
        have c3 := hA3.c0
        have hs3 := HA.out.2.2.1
        have k0 : w3.cell? ⟨S, 0, none⟩ = some (.int .i64 a) := (hb3.cell (p := ⟨S, 0, none⟩) (by dsimp only; omega)).trans (by simp [World.cell?, HA.out.2.2.2.1])
        have k1 : w3.cell? ⟨S, 1, none⟩ = some (.string s) := (hb3.cell (p := ⟨S, 1, none⟩) (by dsimp only; omega)).trans (by simp [World.cell?, HA.out.2.2.2.1])
        have m0 : w3.cell? ⟨S + 1, 0, none⟩ = some (.string c) := (hb3.cell (p := ⟨S + 1, 0, none⟩) (by dsimp only; omega)).trans (by simp [World.cell?, HA.out.2.2.2.2.1])
        have m1 : w3.cell? ⟨S + 1, 1, none⟩ = some (.int .i64 t) := (hb3.cell (p := ⟨S + 1, 1, none⟩) (by dsimp only; omega)).trans (by simp [World.cell?, HA.out.2.2.2.2.1])
        have m2 : w3.cell? ⟨S + 1, 2, none⟩ = some (.int .i64 b) := (hb3.cell (p := ⟨S + 1, 2, none⟩) (by dsimp only; omega)).trans (by simp [World.cell?, HA.out.2.2.2.2.1])
        unfold encK encC at hrun
        dsimp only at hrun
        clear hA3 hK3 hb3 hM2 hT2 hs3
        go_wp2_with fail
        go_region
        all_goals
          go_wp2
          go_ret
          exact ⟨by rw [hl]; rfl, HP.out⟩
end Go.Proofs.YtcggmagdndhkbaaGreatDoor
end
