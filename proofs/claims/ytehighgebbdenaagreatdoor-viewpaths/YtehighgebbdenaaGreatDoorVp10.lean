import Derived.Test.YtehighgebbdenaaGreatDoorVp06
import Derived.Test.YtehighgebbdenaaGreatDoorVp07
import Derived.Test.YtehighgebbdenaaGreatDoorVp09
import Derived.Test.YtehighgebbdenaaGreatDoorProg
import Derived.Shelf.Spec.SlicesInsertGrow
import Derived.Lib.AppendZerosOnto
import Derived.Laws.NewBlocks
import Derived.WalkKit
import Derived.Deep.LoopGhost
import Derived.WalkSpells
import Derived.Below
import Derived.LoopN
import Derived.LoopTactic
import Derived.Lib.Hide
section
set_option linter.unusedVariables false
set_option linter.unusedSimpArgs false
namespace Go.Proofs.YtehighgebbdenaaGreatDoor
open Go.Shelf Go.RowKit Go.Lib
theorem infoEnt : (Tryz.prog.info? 284).map (fun i => (i.zero, i.size, i.bytes)) = some (some (.agg #[.int .i64 0, .int .i64 0, .int .i64 0, .int .i64 0, .string ⟨#[]⟩, .int .i64 0, .int .i64 0, .string ⟨#[]⟩]), 8, 80) := by kernel_rfl
def Laid (w : World) (base : Nat) (v : Value) (n : Nat) (ys : List Value) (e : Ending) (w' : World) : Prop :=
  ∃ v', e = .returned v' ∧ w'.ownsRow base 284 8 v' (n + 1) ys ∧ Keeps (fun k => some k = v.ownBlock) w w' ∧ (v'.ownBlock = v.ownBlock ∨ v'.ownBlock = some w.heap.size)
set_option maxRecDepth 100000 in
set_option maxHeartbeats 1000000 in
theorem insert_end (w : World) (base : Nat) (v : Value) (n : Nat) (xs vs : List Value) (hown : w.ownsRow base 284 8 v n xs) (hn : n ≤ 1000) (vb : Nat) (hv : vs.length = 8)
    (hvs : ∀ j u, vs[j]? = some u → w.cell? ⟨vb, j, none⟩ = some u) (h1v : ∀ u ∈ vs, u.oneCell' = true) (hbase : base ≤ w.heap.size) :
    Calls Tryz.prog 189 #[v, .int .i64 n, .slice (some ⟨vb, 0, none⟩) 1 1] w (Laid w base v n (xs ++ vs)) := by
  obtain ⟨i0, hi, hz0, hz1, hz2⟩ := info_parts infoEnt
  obtain ⟨v', w', hrun, ho, hg, hb⟩ := append_at (P := Tryz.prog) w base 185 185 284 i0 _ 8 80 Tryz.underlying185 hi hz0 hz1 hz2 rfl (by omega) v n xs hown ⟨vb, 0, none⟩ 1 1 (by omega) vs (by omega)
    (fun j u hj => by rw [Addr.add_lit, Nat.zero_add]; exact hvs j u hj) h1v (by simp only [maxLen]; omega) (by omega) hbase
  have hfin : Aside (Laid w base v n (xs ++ vs) (.returned v') w') := ⟨v', rfl, ho, keeps_of_grown hg, hb⟩
  rcases hown.2 with ⟨rfl, rfl⟩ | ⟨g, cap, cur, rfl, hbg, hgb, hnc, hcm, hcs, htake⟩
  · clear hown ho hg hb hvs h1v
    go_enter Tryz.func189, Tryz.ntmps189
    go_wp2_with (at_builtin; refine Lib.wpList_append_run _ rfl _ _ _ _ rfl _ _ rfl rfl _ _ hrun ?_)
    go_ret
    exact hfin.out
  · clear hown ho hg hb hvs h1v htake hcs hgb hbg
    go_enter Tryz.func189, Tryz.ntmps189
    go_wp2_with (at_builtin; refine Lib.wpList_append_run _ rfl _ _ _ _ rfl _ _ rfl rfl _ _ hrun ?_)
    all_goals (go_ret; exact hfin.out)
set_option maxRecDepth 100000 in
set_option maxHeartbeats 4000000 in
theorem insert_room (w : World) (base g n cap i : Nat) (xs vs : List Value) (hown : w.ownsRow base 284 8 (.slice (some ⟨g, 0, none⟩) n cap) n xs) (hn : n ≤ 1000) (vb : Nat) (hv : vs.length = 8)
    (hvs : ∀ j u, vs[j]? = some u → w.cell? ⟨vb, j, none⟩ = some u) (h1v : ∀ u ∈ vs, u.oneCell' = true) (h1x : ∀ u ∈ xs, u.oneCell' = true) (hvb : vb ≠ g) (hsa : w.shape? vb = some (284, 8)) (hfa : ∀ j, w.frozen? ⟨vb, j, none⟩ = false)
    (hi : i < n) (hroom : n + 1 ≤ cap) :
    Calls Tryz.prog 189 #[.slice (some ⟨g, 0, none⟩) n cap, .int .i64 i, .slice (some ⟨vb, 0, none⟩) 1 1] w (Laid w base (.slice (some ⟨g, 0, none⟩) n cap) n (xs.take (i * 8) ++ vs ++ xs.drop (i * 8))) := by
  have hL : Aside (∀ W : World, W.heap = w.heap → W.os = w.os → W.tape = w.tape → W.output = w.output → Laid w base (.slice (some ⟨g, 0, none⟩) n cap) n (xs.take (i * 8) ++ vs ++ xs.drop (i * 8)) (.returned (.slice (some ⟨g, 0, none⟩) (n + 1) cap)) ((W.setCells g ((i + 1) * 8) (xs.drop (i * 8))).setCells g (i * 8) vs)) := by
    intro W h0 h2 h3 h4
    have hownW : W.ownsRow base 284 8 (.slice (some ⟨g, 0, none⟩) n cap) n xs := by unfold World.ownsRow; rw [h0]; exact hown
    have k1 := (setCells_keeps g (xs.drop (i * 8)) ((i + 1) * 8) W).trans (setCells_keeps g vs (i * 8) _)
    exact ⟨_, rfl, owns_laidIn hownW hroom (by omega) hv, ⟨k1.os.trans h2, k1.tape.trans h3, k1.output.trans h4, by rw [← h0]; exact k1.size, fun k hk hs => by
      rw [← h0]
      exact k1.block k (by rw [h0]; exact hk) (fun e => hs (by rw [e]; rfl))⟩, .inl rfl⟩
  obtain ⟨hxl, h2⟩ := hown
  rcases h2 with ⟨hc, _⟩ | ⟨g', cap', cur, hc, hbg, hgb, hnc, hcm, hcs, htake⟩
  · cases hc
  cases hc
  have hcm' : cap ≤ 9223372036854775807 := by simp only [maxLen] at hcm; omega
  have hsp : ∀ j, j < (n + 1) * 8 → (w.cell? ⟨g, j, none⟩).isSome = true := fun j hj => by
    have : j < cur.size := by rw [hcs]; omega
    simp [World.cell?, hgb, this]
  have hfz : ∀ j, w.frozen? ⟨g, j, none⟩ = false := fun j => by simp [World.frozen?, hgb]
  have hcell : ∀ j u, xs[j]? = some u → w.cell? ⟨g, j, none⟩ = some u := fun j u hj => by
    have hlt := (List.getElem?_eq_some_iff.1 hj).1
    rw [← htake, List.getElem?_take, if_pos (by omega)] at hj
    simp [World.cell?, hgb, ← hj]
  have hsb : w.shape? g = some (284, cap * 8) := by simp [World.shape?, hgb, hcs]
  have hsz : (Tryz.prog.info? 284).map (·.size) = some 8 := by
    obtain ⟨i0, hi0, _, h1, _⟩ := info_parts infoEnt
    rw [hi0]; simp [h1]
  have hov : ∀ lb cb, (callFunc 228 #[.slice (some ⟨vb, 0, none⟩) 1 1, .slice (some ⟨g, (i + 1) * 8, none⟩) lb cb]).run Tryz.prog w = .ok (.value (.bool false)) w := fun lb cb => by
    rw [run_callFunc_extern Tryz.func228 (by kernel_rfl) (by kernel_rfl) (by kernel_rfl) (e := Extern.SlicesOverlaps.overlaps #[185, 185] #[4]) (by kernel_rfl),
      Lib.run_overlaps_apart w 185 4 284 Tryz.underlying185 8 Tryz.sizeOf284 ⟨vb, 0, none⟩ ⟨g, (i + 1) * 8, none⟩ 1 1 lb cb hvb 284 284 8 (cap * 8) hsa hsb (by omega) (hfa 0) (hfa 8)]
    rfl
  have hdl : (xs.drop (i * 8)).length = n * 8 - i * 8 := by rw [List.length_drop, hxl]
  have hcp1 : ∀ ty dc sc, (Builtin.copy_ #[185, 185] ty #[.slice (some ⟨g, (i + 1) * 8, none⟩) (n - i) dc, .slice (some ⟨g, i * 8, none⟩) (n + 1 - i) sc]).run Tryz.prog w.drew = .ok (goInt ((n - i : Nat) : Int)) (w.drew.setCells g ((i + 1) * 8) (xs.drop (i * 8))) := fun ty dc sc => by
    have hmin : Nat.min (n + 1 - i) (n - i) = n - i := by simp only [Nat.min_def]; split <;> omega
    have := run_copy_k (P := Tryz.prog) w.drew 185 185 ty 284 8 g ((i + 1) * 8) (n - i) dc ⟨g, i * 8, none⟩ (n + 1 - i) sc (xs.drop (i * 8)) Tryz.underlying185 hsz (by rw [hdl, hmin]; omega)
      (fun j u hj => by rw [Addr.add_lit]; exact hcell _ u (by rwa [List.getElem?_drop] at hj))
      (fun j hj => hsp _ (by rw [hdl] at hj; omega)) (fun j _ => hfz _) (fun u hu => h1x u (List.mem_of_mem_drop hu))
    rw [hmin] at this
    exact this
  obtain ⟨W1, hW1⟩ : ∃ W1, W1 = w.drew.setCells g ((i + 1) * 8) (xs.drop (i * 8)) := ⟨_, rfl⟩
  have hsp1 : ∀ j, j < (n + 1) * 8 → (W1.cell? ⟨g, j, none⟩).isSome = true := fun j hj => by
    rw [hW1]
    exact isSome_setCells g (xs.drop (i * 8)) ((i + 1) * 8) w.drew (fun t ht => hsp ((i + 1) * 8 + t) (by rw [hdl] at ht; omega)) _ (hsp j hj)
  have hcp2 : ∀ (W : World), (∀ x, W.cell? x = W1.cell? x) → (∀ x, W.frozen? x = W1.frozen? x) → ∀ ty dc, (Builtin.copy_ #[185, 185] ty #[.slice (some ⟨g, i * 8, none⟩) (n + 1 - i) dc, .slice (some ⟨vb, 0, none⟩) 1 1]).run Tryz.prog W = .ok (goInt 1) (W.setCells g (i * 8) vs) := fun W hWc hWf ty dc => by
    have hmin : Nat.min 1 (n + 1 - i) = 1 := by simp only [Nat.min_def]; split <;> omega
    have := run_copy_k (P := Tryz.prog) W 185 185 ty 284 8 g (i * 8) (n + 1 - i) dc ⟨vb, 0, none⟩ 1 1 vs Tryz.underlying185 hsz (by rw [hmin, hv])
      (fun j u hj => by
        rw [Addr.add_lit, Nat.zero_add, hWc, hW1, World.cell?_setCells_out g _ _ _ _ (fun h _ => absurd h hvb)]
        exact hvs j u hj)
      (fun j hj => by rw [hWc]; exact hsp1 _ (by omega)) (fun j _ => by rw [hWf, hW1, World.frozen?_setCells]; exact hfz _) h1v
    rw [hmin] at this
    exact this
  rw [← hW1] at hcp1
  have hw1 : IntKind.i64.wrap ((i : Int) + 1) = (i : Int) + 1 := by rw [IntKind.wrap_i64]; omega
  have hw2 : IntKind.i64.wrap ((n : Int) + 1) = (n : Int) + 1 := by rw [IntKind.wrap_i64]; omega
  have hb1 : (0 : Int) ≤ (i : Int) + 1 := by omega
  have hz2 : ¬ ((i : Int) = (n : Int)) := by omega
  have hin : i ≤ n := by omega
  have htn : ((i : Int) + 1).toNat = i + 1 := by omega
  have htn2 : ((n : Int) + 1).toNat = n + 1 := by omega
  have hb2 : ¬ (cap = i + 1) := by omega
  have hb3 : (i : Int) ≤ (n : Int) + 1 := by omega
  have hb4 : ¬ (cap = i) := by omega
  have hb5 : ¬ ((cap : Int) < (n : Int) + 1) := by omega
  clear htake hcs hgb hsp hfz hcell hsb hcm hxl hdl hvs h1v h1x hsa hfa hsp1 hbg
  go_enter Tryz.func189, Tryz.ntmps189
  go_wp2_with (simp only [hov])
  have mixed : Tryz.prog.follows .mixedOrders = true := by kernel_rfl
  go_region_law_o (refine step_copy_runI rfl _ _ 185 185 rfl _ _ (by simp [Act.eval, Act.put]) (by simp [Act.eval, Act.put]) (hcp1 _ _ _) ?_)
  clear mixed
  go_wp2_with (at_builtin; refine wpList_copy_runI _ rfl _ _ 185 185 rfl _ _ rfl rfl (hcp2 _ (fun _ => rfl) (fun _ => rfl) _ _) ?_)
  go_ret
  subst hW1
  exact hL.out w.drew rfl rfl rfl rfl
set_option maxRecDepth 100000 in
set_option maxHeartbeats 4000000 in
theorem insert_grow (w : World) (base g n cap i : Nat) (xs vs : List Value) (hown : w.ownsRow base 284 8 (.slice (some ⟨g, 0, none⟩) n cap) n xs) (hn : n ≤ 1000) (vb : Nat) (hv : vs.length = 8)
    (hvs : ∀ j u, vs[j]? = some u → w.cell? ⟨vb, j, none⟩ = some u) (h1v : ∀ u ∈ vs, u.oneCell' = true) (h1x : ∀ u ∈ xs, u.oneCell' = true) (hbase : base ≤ w.heap.size)
    (hi : i < n) (hroom : cap < n + 1) :
    Calls Tryz.prog 189 #[.slice (some ⟨g, 0, none⟩) n cap, .int .i64 i, .slice (some ⟨vb, 0, none⟩) 1 1] w (Laid w base (.slice (some ⟨g, 0, none⟩) n cap) n (xs.take (i * 8) ++ vs ++ xs.drop (i * 8))) := by
  obtain ⟨hxl, h2⟩ := hown
  rcases h2 with ⟨hc, _⟩ | ⟨g', cap', cur, hc, hbg, hgb, hnc, hcm, hcs, htake⟩
  · cases hc
  cases hc
  obtain ⟨i0, hi0, hz0, hzs, hzb⟩ := info_parts infoEnt
  have hcell : ∀ j u, xs[j]? = some u → w.cell? ⟨g, j, none⟩ = some u := fun j u hj => by
    have hlt := (List.getElem?_eq_some_iff.1 hj).1
    rw [← htake, List.getElem?_take, if_pos (by omega)] at hj
    simp [World.cell?, hgb, ← hj]
  have hgw : g < w.heap.size := (Array.getElem?_eq_some_iff.1 hgb).1
  have hvw : vb < w.heap.size := block_lt_of_cell (hvs 0 _ (List.getElem?_eq_getElem (by omega)))
  have hsz : (Tryz.prog.info? 284).map (·.size) = some 8 := by rw [hi0]; simp [hzs]
  have htl : (xs.take (i * 8)).length = i * 8 := by rw [List.length_take, hxl]; omega
  have hdl : (xs.drop (i * 8)).length = n * 8 - i * 8 := by rw [List.length_drop, hxl]
  have hold : (Builtin.firstCells i0.size i (.slice (some ⟨g, 0, none⟩) i cap)).run Tryz.prog w.drew = .ok (xs.take (i * 8)).toArray w.drew := by
    rw [hzs]
    exact run_firstCells_some w.drew 8 i ⟨g, 0, none⟩ i cap (xs.take (i * 8)) htl (fun j u hj => by
      rw [Addr.add_lit, Nat.zero_add]
      rw [List.getElem?_take] at hj
      split at hj
      · exact hcell j u hj
      · cases hj)
  have hik : i + (n + 1 - i) = n + 1 := by omega
  have hkk : (n : Int) + 1 - (i : Int) = ((n + 1 - i : Nat) : Int) := by omega
  obtain ⟨Z, hZ⟩ : ∃ Z, Z = (Value.agg #[.int .i64 0, .int .i64 0, .int .i64 0, .int .i64 0, .string ⟨#[]⟩, .int .i64 0, .int .i64 0, .string ⟨#[]⟩]).cells := ⟨_, rfl⟩
  have hZs : Z.size = 8 := by rw [hZ]; rfl
  obtain ⟨G, hG⟩ : ∃ G, G = grownCap w (n + 1) cap 284 := ⟨_, rfl⟩
  have hGn : n + 1 ≤ G := by rw [hG]; exact grownCap_ge w _ _ _
  have hGm : G ≤ maxLen := by rw [hG]; exact grownCap_le_maxLen w (n + 1) cap 284 (by unfold maxLen; omega)
  obtain ⟨ROW, hROW⟩ : ∃ ROW : Array Value, ROW = (xs.take (i * 8)).toArray ++ Builtin.zeroCells Z (n + 1 - i) ++ Builtin.zeroCells Z (G - (n + 1)) := ⟨_, rfl⟩
  have hrz : ∀ ty, (Builtin.append_ #[185, 3] ty #[.slice (some ⟨g, 0, none⟩) i cap, .int .i64 ((n : Int) + 1 - (i : Int))]).run Tryz.prog w = .ok (.slice (some ⟨w.heap.size, 0, none⟩) (n + 1) G) (w.drew.alloc (.cells ROW 284)) := fun ty => by
    have h := Lib.run_append_grow_zeros w 185 3 ty 284 i0 _ .i64 .i64 Tryz.underlying185 Tryz.underlying3 hi0 hz0 (some ⟨g, 0, none⟩) i cap (xs.take (i * 8)) hold (n + 1 - i) (by omega) (by omega) (by omega) (by omega) (by rw [hzb]; omega) (by rw [hzb, hik]; exact growslice_fits hroom (by omega))
    rw [hik, ← hG, ← hZ, ← hROW] at h
    rw [hkk]
    exact h
  have hRs : ROW.size = G * 8 := by
    rw [hROW]
    simp only [Array.size_append, List.size_toArray, htl, size_zeroCells, hZs]
    omega
  have hRl : ∃ Y, ROW.toList = xs.take (i * 8) ++ Y := ⟨(Builtin.zeroCells Z (n + 1 - i) ++ Builtin.zeroCells Z (G - (n + 1))).toList, by rw [hROW]; simp⟩
  obtain ⟨W1, hW1⟩ : ∃ W1, W1 = w.drew.alloc (.cells ROW 284) := ⟨_, rfl⟩
  rw [← hW1] at hrz
  have hN : ∀ j, j < (n + 1) * 8 → (W1.cell? ⟨w.heap.size, j, none⟩).isSome = true := fun j hj => by
    rw [hW1, World.cell?_alloc_at (w := w.drew) ROW _ w.heap.size j rfl, Array.getElem?_eq_getElem (by omega)]; rfl
  have hNf : ∀ j, W1.frozen? ⟨w.heap.size, j, none⟩ = false := fun j => by rw [hW1]; exact World.frozen?_alloc_at (w := w.drew) ROW _ w.heap.size j rfl
  have hOb : ∀ j u, w.cell? ⟨g, j, none⟩ = some u → W1.cell? ⟨g, j, none⟩ = some u := fun j u h => by rw [hW1, World.cell?_alloc_past (w := w.drew) _ g j hgw]; exact h
  have hOv : ∀ j u, w.cell? ⟨vb, j, none⟩ = some u → W1.cell? ⟨vb, j, none⟩ = some u := fun j u h => by rw [hW1, World.cell?_alloc_past (w := w.drew) _ vb j hvw]; exact h
  have hcpA : ∀ (W : World), (∀ x, W.cell? x = W1.cell? x) → (∀ x, W.frozen? x = W1.frozen? x) → ∀ ty dc, (Builtin.copy_ #[185, 185] ty #[.slice (some ⟨w.heap.size, i * 8, none⟩) (n + 1 - i) dc, .slice (some ⟨vb, 0, none⟩) 1 1]).run Tryz.prog W = .ok (goInt 1) (W.setCells w.heap.size (i * 8) vs) := fun W hWc hWf ty dc => by
    have hmin : Nat.min 1 (n + 1 - i) = 1 := by simp only [Nat.min_def]; split <;> omega
    have := run_copy_k (P := Tryz.prog) W 185 185 ty 284 8 w.heap.size (i * 8) (n + 1 - i) dc ⟨vb, 0, none⟩ 1 1 vs Tryz.underlying185 hsz (by rw [hmin, hv])
      (fun j u hj => by rw [Addr.add_lit, Nat.zero_add, hWc]; exact hOv _ u (hvs j u hj))
      (fun j hj => by rw [hWc]; exact hN _ (by omega)) (fun j _ => by rw [hWf]; exact hNf _) h1v
    rw [hmin] at this
    exact this
  have hgN : g ≠ w.heap.size := by omega
  have hcpB : ∀ (W : World), (∀ x, W.cell? x = (W1.setCells w.heap.size (i * 8) vs).cell? x) → (∀ x, W.frozen? x = (W1.setCells w.heap.size (i * 8) vs).frozen? x) → ∀ ty dc sc, (Builtin.copy_ #[185, 185] ty #[.slice (some ⟨w.heap.size, (i + 1) * 8, none⟩) (n - i) dc, .slice (some ⟨g, i * 8, none⟩) (n - i) sc]).run Tryz.prog W = .ok (goInt ((n - i : Nat) : Int)) (W.setCells w.heap.size ((i + 1) * 8) (xs.drop (i * 8))) := fun W hWc hWf ty dc sc => by
    have hmin : Nat.min (n - i) (n - i) = n - i := by simp [Nat.min_def]
    have := run_copy_k (P := Tryz.prog) W 185 185 ty 284 8 w.heap.size ((i + 1) * 8) (n - i) dc ⟨g, i * 8, none⟩ (n - i) sc (xs.drop (i * 8)) Tryz.underlying185 hsz (by rw [hdl, hmin]; omega)
      (fun j u hj => by
        rw [Addr.add_lit, hWc, World.cell?_setCells_out _ _ _ _ _ (fun h _ => absurd h hgN)]
        exact hOb _ u (hcell _ u (by rwa [List.getElem?_drop] at hj)))
      (fun j hj => by rw [hWc]; exact isSome_setCells w.heap.size vs (i * 8) W1 (fun t ht => hN _ (by omega)) _ (hN _ (by rw [hdl] at hj; omega)))
      (fun j _ => by rw [hWf, World.frozen?_setCells]; exact hNf _) (fun u hu => h1x u (List.mem_of_mem_drop hu))
    rw [hmin] at this
    exact this
  have hL : Aside (∀ W : World, W.heap = W1.heap → W.os = w.os → W.tape = w.tape → W.output = w.output → Laid w base (.slice (some ⟨g, 0, none⟩) n cap) n (xs.take (i * 8) ++ vs ++ xs.drop (i * 8)) (.returned (.slice (some ⟨w.heap.size, 0, none⟩) (n + 1) G)) ((W.setCells w.heap.size (i * 8) vs).setCells w.heap.size ((i + 1) * 8) (xs.drop (i * 8)))) := by
    intro W h0 h2 h3 h4
    have hgW : W.heap[w.heap.size]? = some (.cells ROW 284 (0, 0)) := by rw [h0, hW1]; exact heap_alloc_new w.drew _
    obtain ⟨Y, hY⟩ := hRl
    have k1 := (setCells_keeps w.heap.size vs (i * 8) W).trans (setCells_keeps w.heap.size (xs.drop (i * 8)) ((i + 1) * 8) _)
    have hWs : W.heap.size = w.heap.size + 1 := by rw [h0, hW1]; simp
    exact ⟨_, rfl, owns_newIn hgW hY hRs hbase hGn hGm (by omega) hxl hv, ⟨k1.os.trans h2, k1.tape.trans h3, k1.output.trans h4, by have := k1.size; omega, fun k hk hs => by
      refine (k1.block k (by omega) (by omega)).trans ?_
      rw [h0, hW1]
      exact Below.heap_alloc w.drew _ k hk⟩, .inr rfl⟩
  have hG63 : G ≤ 9223372036854775807 := by unfold maxLen at hGm; omega
  have hGi : ¬ (G = i) := by omega
  have hGim : ¬ (G = i + 1) := by omega
  have hci : ¬ (cap = i) := by omega
  have hw1 : IntKind.i64.wrap ((i : Int) + 1) = (i : Int) + 1 := by rw [IntKind.wrap_i64]; omega
  have hw2 : IntKind.i64.wrap ((n : Int) + 1) = (n : Int) + 1 := by rw [IntKind.wrap_i64]; omega
  have hw3 : IntKind.i64.wrap ((n : Int) + 1 - (i : Int)) = (n : Int) + 1 - (i : Int) := by rw [IntKind.wrap_i64]; omega
  have hb1 : (0 : Int) ≤ (i : Int) + 1 := by omega
  have hz2 : ¬ ((i : Int) = (n : Int)) := by omega
  have hin : i ≤ n := by omega
  have hin2 : i ≤ cap := by omega
  have htn : ((i : Int) + 1).toNat = i + 1 := by omega
  have hb5 : ((cap : Int) < (n : Int) + 1) := by omega
  have hb6 : ¬ ((n : Int) + 1 ≤ (cap : Int)) := by omega
  have hE1 : ∀ x, ((w.alloc (.cells ROW 284)).drew).cell? x = (w.drew.alloc (.cells ROW 284)).cell? x := fun x => rfl
  have hE2 : ∀ x, ((w.alloc (.cells ROW 284)).drew).frozen? x = (w.drew.alloc (.cells ROW 284)).frozen? x := fun x => rfl
  subst hW1
  have hF1 : ∀ x, (((w.alloc (.cells ROW 284)).drew.setCells w.heap.size (i * 8) vs).drew).cell? x = ((w.drew.alloc (.cells ROW 284)).setCells w.heap.size (i * 8) vs).cell? x := fun x => rfl
  have hF2 : ∀ x, (((w.alloc (.cells ROW 284)).drew.setCells w.heap.size (i * 8) vs).drew).frozen? x = ((w.drew.alloc (.cells ROW 284)).setCells w.heap.size (i * 8) vs).frozen? x := fun x => rfl
  clear htake hcs hgb hcell hcm hxl hdl htl hvs h1v h1x hbg hold hROW hG hRs hRl hN hNf hOb hOv hik hkk hGm hZ hZs hgw hvw
  go_enter Tryz.func189, Tryz.ntmps189
  go_wp2_with (first
    | (at_builtin; refine Lib.wpList_append_run _ rfl _ _ _ _ rfl _ _ rfl rfl _ _ (hrz _) ?_)
    | (at_builtin; refine wpList_copy_runI _ rfl _ _ 185 185 rfl _ _ rfl rfl (hcpA _ hE1 hE2 _ _) ?_))
  have mixed : Tryz.prog.follows .mixedOrders = true := by kernel_rfl
  go_region_law_o (refine step_copy_runI rfl _ _ 185 185 rfl (.slice (some ⟨w.heap.size, (i + 1) * 8, none⟩) (n - i) (G - (i + 1))) (.slice (some ⟨g, i * 8, none⟩) (n - i) (cap - i)) (by simp [Act.eval, Act.put]) (by simp [Act.eval, Act.put]) (hcpB _ hF1 hF2 3 (G - (i + 1)) (cap - i)) ?_)
  clear mixed
  go_wp2
  go_ret
  rw [drew_setCells]
  exact hL.out ((w.alloc (.cells ROW 284)).drew.drew) rfl rfl rfl rfl
theorem layEnt_any (w : World) (base n i : Nat) (v : Value) (xs vs : List Value) (hown : w.ownsRow base 284 8 v n xs) (hn : n ≤ 1000) (vb : Nat) (hv : vs.length = 8)
    (hvs : ∀ j u, vs[j]? = some u → w.cell? ⟨vb, j, none⟩ = some u) (h1v : ∀ u ∈ vs, u.oneCell' = true) (h1x : ∀ u ∈ xs, u.oneCell' = true) (hvb : some vb ≠ v.ownBlock) (hsa : w.shape? vb = some (284, 8)) (hfa : ∀ j, w.frozen? ⟨vb, j, none⟩ = false) (hbase : base ≤ w.heap.size) (hi : i ≤ n) :
    Calls Tryz.prog 189 #[v, .int .i64 i, .slice (some ⟨vb, 0, none⟩) 1 1] w (Laid w base v n (xs.take (i * 8) ++ vs ++ xs.drop (i * 8))) := by
  by_cases he : i = n
  · subst he
    have e1 : xs.take (i * 8) = xs := List.take_of_length_le (by rw [hown.1]; omega)
    have e2 : xs.drop (i * 8) = [] := List.drop_of_length_le (by rw [hown.1]; omega)
    rw [e1, e2, List.append_nil]
    exact insert_end w base v i xs vs hown hn vb hv hvs h1v hbase
  · have hown' := hown
    rcases hown.2 with ⟨rfl, rfl⟩ | ⟨g, cap, cur, rfl, -⟩
    · omega
    · by_cases hroom : n + 1 ≤ cap
      · exact insert_room w base g n cap i xs vs hown hn vb hv hvs h1v h1x (fun e => hvb (by rw [e]; rfl)) hsa hfa (by omega) hroom
      · exact insert_grow w base g n cap i xs vs hown hn vb hv hvs h1v h1x hbase (by omega) (by omega)
end Go.Proofs.YtehighgebbdenaaGreatDoor
end
section
namespace Go.Proofs.YtehighgebbdenaaGreatDoor
open Go.RowKit
theorem byteAt (s : ByteArray) (k : Nat) (h : k < s.size) : s.data.toList.drop k = s[k] :: s.data.toList.drop (k + 1) := by
  have hl : k < s.data.toList.length := by simpa using h
  rw [List.drop_eq_getElem_cons hl]
  simp
  rfl
theorem dropEnd (s : ByteArray) : s.data.toList.drop s.size = [] := by
  rw [List.drop_eq_nil_iff]; simp
end Go.Proofs.YtehighgebbdenaaGreatDoor
end
section
namespace Go.Proofs.YtehighgebbdenaaGreatDoor
open Go.RowKit
set_option maxHeartbeats 400000 in
theorem earl_yes (n id : Int) (w : World) (h0 : 0 ≤ n) (h1 : n < id) :
    Calls Tryz.prog 220 #[.int .i64 n, .int .i64 id] w fun e w' => e = .returned (.bool true) ∧ w' = w := by
  go_enter Tryz.func220, Tryz.ntmps220
  go_wp2
  go_ret
  exact ⟨rfl, rfl⟩
set_option maxHeartbeats 400000 in
theorem earl_no (n id : Int) (w : World) (h : n < 0 ∨ id ≤ n) :
    Calls Tryz.prog 220 #[.int .i64 n, .int .i64 id] w fun e w' => e = .returned (.bool false) ∧ w' = w := by
  by_cases h0 : n < 0
  · clear h
    go_enter Tryz.func220, Tryz.ntmps220
    go_wp2
    go_ret
    exact ⟨rfl, rfl⟩
  · have h1 : id ≤ n := by omega
    have h2 : 0 ≤ n := by omega
    have d : decide (n < id) = false := by simp; omega
    clear h h0
    go_enter Tryz.func220, Tryz.ntmps220
    go_wp2
    go_ret
    exact ⟨rfl, rfl⟩
set_option maxHeartbeats 1000000 in
theorem nb_any (c : UInt8) (w : World) :
    Calls Tryz.prog 273 #[.int .u8 (c.toNat : Int)] w fun e w' => e = .returned (.bool (nameB c)) ∧ w' = w := by
  have hb : nameB c = decide (97 ≤ (c.toNat : Int) ∧ (c.toNat : Int) ≤ 122 ∨ 48 ≤ (c.toNat : Int) ∧ (c.toNat : Int) ≤ 57 ∨ (c.toNat : Int) = 45 ∨ (c.toNat : Int) = 46) := by
    unfold nameB
    rw [decide_eq_decide]
    omega
  rw [hb]
  clear hb
  generalize (c.toNat : Int) = x
  rcases (by omega : 122 < x ∨ (97 ≤ x ∧ x ≤ 122) ∨ (57 < x ∧ x < 97) ∨ (48 ≤ x ∧ x ≤ 57) ∨ x = 46 ∨ x = 45 ∨ (x < 48 ∧ x ≠ 46 ∧ x ≠ 45)) with h | ⟨h, h'⟩ | ⟨h, h'⟩ | ⟨h, h'⟩ | h | h | ⟨h, h', h''⟩
  · rw [decide_eq_false (by omega)]
    have d1 : decide (x ≤ 122) = false := by simp; omega
    have d2 : decide (x ≤ 57) = false := by simp; omega
    have e1 : (x == 45) = false := by simp; omega
    have e2 : (x == 46) = false := by simp; omega
    go_enter Tryz.func273, Tryz.ntmps273
    go_wp2
    go_ret
    exact ⟨rfl, rfl⟩
  · rw [decide_eq_true (by omega)]
    go_enter Tryz.func273, Tryz.ntmps273
    go_wp2
    go_ret
    exact ⟨rfl, rfl⟩
  · rw [decide_eq_false (by omega)]
    have d1 : decide (97 ≤ x) = false := by simp; omega
    have d2 : decide (x ≤ 57) = false := by simp; omega
    have e1 : (x == 45) = false := by simp; omega
    have e2 : (x == 46) = false := by simp; omega
    go_enter Tryz.func273, Tryz.ntmps273
    go_wp2
    go_ret
    exact ⟨rfl, rfl⟩
  · rw [decide_eq_true (by omega)]
    have d1 : decide (97 ≤ x) = false := by simp; omega
    go_enter Tryz.func273, Tryz.ntmps273
    go_wp2
    go_ret
    exact ⟨rfl, rfl⟩
  · subst h
    go_enter Tryz.func273, Tryz.ntmps273
    go_wp2
    go_ret
    exact ⟨rfl, rfl⟩
  · subst h
    go_enter Tryz.func273, Tryz.ntmps273
    go_wp2
    go_ret
    exact ⟨rfl, rfl⟩
  · rw [decide_eq_false (by omega)]
    have d1 : decide (97 ≤ x) = false := by simp; omega
    have d2 : decide (48 ≤ x) = false := by simp; omega
    have e1 : (x == 45) = false := by simp; omega
    have e2 : (x == 46) = false := by simp; omega
    go_enter Tryz.func273, Tryz.ntmps273
    go_wp2
    go_ret
    exact ⟨rfl, rfl⟩
theorem all_at (s : ByteArray) (f : UInt8 → Bool) (k : Nat) (h : k < s.size) : (s.data.toList.drop k).all f = (f s[k] && (s.data.toList.drop (k + 1)).all f) := by
  rw [byteAt s k h, List.all_cons]
set_option maxRecDepth 100000 in
set_option maxHeartbeats 1000000 in
theorem name_any (s : ByteArray) (w : World) (hs : s.size ≤ 1000000) :
    Calls Tryz.prog 221 #[.string s] w fun e w' => e = .returned (.bool (nameOk s.data.toList)) ∧ w' = w := by
  have hl : s.data.toList.length = s.size := by simp
  by_cases h1 : s.size < 1
  · have d1 : decide ((s.size : Int) < 1) = true := by simp; omega
    have hr : nameOk s.data.toList = false := by unfold nameOk; rw [hl, decide_eq_false (by omega)]; rfl
    rw [hr]
    go_enter Tryz.func221, Tryz.ntmps221
    go_wp2
    go_ret
    exact ⟨rfl, rfl⟩
  · by_cases h2 : 12 < s.size
    · have d1 : decide ((s.size : Int) < 1) = false := by simp; omega
      have d2 : decide (12 < (s.size : Int)) = true := by simp; omega
      have hr : nameOk s.data.toList = false := by unfold nameOk; rw [hl, decide_eq_false (show ¬ s.size ≤ 12 by omega)]; simp
      rw [hr]
      go_enter Tryz.func221, Tryz.ntmps221
      go_wp2
      go_ret
      exact ⟨rfl, rfl⟩
    · have d1 : decide ((s.size : Int) < 1) = false := by simp; omega
      have d2 : decide (12 < (s.size : Int)) = false := by simp; omega
      have hr : nameOk s.data.toList = s.data.toList.all nameB := by unfold nameOk; rw [hl, decide_eq_true (show s.size ≤ 12 by omega), decide_eq_true (show 1 ≤ s.size by omega)]; rfl
      rw [hr]
      generalize hR : s.data.toList.all nameB = R
      have HR := Lib.hid hR
      clear hR hr hl
      go_enter Tryz.func221, Tryz.ntmps221
      go_wp2
      go_loop [14] (fun i => ∃ k : Nat, k ≤ s.size ∧ i = .int .i64 k ∧ Hid ((s.data.toList.drop k).all nameB = R)) (fun i => s.size - (intOf i).toNat)
      case atStart => exact ⟨0, Nat.zero_le _, rfl, Lib.hid (by simpa using HR.out)⟩
      case round =>
        obtain ⟨k, hk, rfl, HD⟩ := hrel
        by_cases hlt : k < s.size
        · have hd : decide ((k : Int) < (s.size : Int)) = true := by simp; omega
          have HA := Lib.hid ((all_at s nameB k hlt).symm.trans HD.out)
          clear HD
          go_wp2_with fail
          refine (nb_any _ _).mono ?_
          rintro e w' ⟨rfl, rfl⟩
          cases hb : nameB s[k] with
          | true =>
            have HE : Hid ((s.data.toList.drop (k + 1)).all nameB = R) := Lib.hid (by have := HA.out; rw [hb, Bool.true_and] at this; exact this)
            go_wp2
            go_round
            case rel => exact ⟨k + 1, by omega, by go_num, HE⟩
            case measure => simp [intOf]; omega
          | false =>
            have HE : Hid (R = false) := Lib.hid (by have := HA.out; rw [hb, Bool.false_and] at this; exact this.symm)
            go_wp2
            go_ret
            exact ⟨by rw [HE.out]; rfl, rfl⟩
        · have hd : decide ((k : Int) < (s.size : Int)) = false := by simp; omega
          have HE : Hid (R = true) := Lib.hid (by have := HD.out; rw [show k = s.size by omega, dropEnd] at this; exact this.symm)
          go_wp2
          go_ret
          exact ⟨by rw [HE.out]; rfl, rfl⟩
set_option maxRecDepth 100000 in
set_option maxHeartbeats 1000000 in
theorem seen_any (s : ByteArray) (w : World) (hs : s.size ≤ 1000000) :
    Calls Tryz.prog 222 #[.string s] w fun e w' => e = .returned (.bool (seenOk s.data.toList)) ∧ w' = w := by
  unfold seenOk
  generalize hR : s.data.toList.all seenB = R
  have HR := Lib.hid hR
  clear hR
  go_enter Tryz.func222, Tryz.ntmps222
  go_wp2
  go_loop [6] (fun i => ∃ k : Nat, k ≤ s.size ∧ i = .int .i64 k ∧ Hid ((s.data.toList.drop k).all seenB = R)) (fun i => s.size - (intOf i).toNat)
  case atStart => exact ⟨0, Nat.zero_le _, rfl, Lib.hid (by simpa using HR.out)⟩
  case round =>
    obtain ⟨k, hk, rfl, HD⟩ := hrel
    by_cases hlt : k < s.size
    · have hd : decide ((k : Int) < (s.size : Int)) = true := by simp; omega
      have HA := Lib.hid ((all_at s seenB k hlt).symm.trans HD.out)
      clear HD
      by_cases g1 : s[k].toNat < 32
      · have l1 : decide ((s[k].toNat : Int) < 32) = true := by simp; omega
        have HE : Hid (R = false) := Lib.hid (by
          have := HA.out
          rw [show seenB s[k] = false by unfold seenB; rw [decide_eq_false (by omega)], Bool.false_and] at this
          exact this.symm)
        go_wp2
        go_ret
        exact ⟨by rw [HE.out]; rfl, rfl⟩
      · have l1 : decide ((s[k].toNat : Int) < 32) = false := by simp; omega
        by_cases g2 : 126 < s[k].toNat
        · have l2 : decide (126 < (s[k].toNat : Int)) = true := by simp; omega
          have HE : Hid (R = false) := Lib.hid (by
            have := HA.out
            rw [show seenB s[k] = false by unfold seenB; rw [decide_eq_false (by omega)], Bool.false_and] at this
            exact this.symm)
          go_wp2
          go_ret
          exact ⟨by rw [HE.out]; rfl, rfl⟩
        · have l2 : decide (126 < (s[k].toNat : Int)) = false := by simp; omega
          have HE : Hid ((s.data.toList.drop (k + 1)).all seenB = R) := Lib.hid (by
            have := HA.out
            rw [show seenB s[k] = true by unfold seenB; rw [decide_eq_true (by omega)], Bool.true_and] at this
            exact this)
          go_wp2
          go_round
          case rel => exact ⟨k + 1, by omega, by go_num, HE⟩
          case measure => simp [intOf]; omega
    · have hd : decide ((k : Int) < (s.size : Int)) = false := by simp; omega
      have HE : Hid (R = true) := Lib.hid (by have := HD.out; rw [show k = s.size by omega, dropEnd] at this; exact this.symm)
      go_wp2
      go_ret
      exact ⟨by rw [HE.out]; rfl, rfl⟩
end Go.Proofs.YtehighgebbdenaaGreatDoor
end
