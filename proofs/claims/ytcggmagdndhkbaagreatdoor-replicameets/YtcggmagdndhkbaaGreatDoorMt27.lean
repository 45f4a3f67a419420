import Derived.Test.YtcggmagdndhkbaaGreatDoorMt17
import Derived.Test.YtcggmagdndhkbaaGreatDoorMt23
import Derived.Test.YtcggmagdndhkbaaGreatDoorMt24
import Derived.Test.YtcggmagdndhkbaaGreatDoorMt26
import Derived.Lib.SliceRun
section
set_option linter.unusedVariables false
set_option linter.unusedSimpArgs false
namespace Go.Proofs.YtcggmagdndhkbaaGreatDoor
open Go.RowKit Go.Lib Go.Sort Go.Maps
set_option maxRecDepth 100000 in
set_option maxHeartbeats 2000000 in
theorem growOps_any (n : Nat) (w : World) (hn : n ≤ 1000) : Calls Tryz.prog 192 #[.slice none 0 0, .int .i64 (n : Int)] w fun e w' => ∃ v, e = .returned v ∧ w'.ownsRow w.heap.size 31 8 v 0 [] ∧ Below w.heap.size w w' := by
  by_cases h0 : n = 0
  · subst h0
    go_enter Tryz.func192, Tryz.ntmps192
    go_wp2
    go_ret
    exact ⟨_, rfl, World.ownsRow_nil _ _ _ _, Below.refl _ w⟩
  · have d0 : decide ((n : Int) < 0) = false := by simp
    have d1 : decide ((0 : Int) < (n : Int)) = true := by simp; omega
    have d1' : decide (0 < n) = true := by simp; omega
    have e1 : ((n : Int) - 0) = (n : Int) := by omega
    obtain ⟨i0, hi, hz0, hz1, hz2⟩ := info_parts infoOp
    have hrun := fun ty => Lib.run_append_nil_zeros (P := Tryz.prog) w 36 3 ty 31 i0 _ .i64 .i64 Tryz.underlying36 Tryz.underlying3 hi hz0 n (by omega) (by omega) (by omega) (by rw [hz2]; omega)
    obtain ⟨cp, hcp⟩ : ∃ cp, cp = grownCap w n 0 31 := ⟨_, rfl⟩
    rw [← hcp] at hrun
    have hge : n ≤ cp := by rw [hcp]; exact grownCap_ge w n 0 _
    have hle : cp ≤ maxLen := by rw [hcp]; exact grownCap_le_maxLen w n 0 _ (by simp only [maxLen]; omega)
    have HC : Aside (cp = grownCap w n 0 31 ∧ n ≤ cp ∧ cp ≤ maxLen) := ⟨hcp, hge, hle⟩
    have hc63 : (cp : Int) ≤ 9223372036854775807 := by simp only [maxLen] at hle; omega
    clear hcp hge hle
    go_enter Tryz.func192, Tryz.ntmps192
    go_wp2_with (at_builtin; refine Lib.wpList_append_run _ rfl _ _ _ _ rfl _ _ rfl rfl _ _ (hrun _) ?_)
    go_ret
    refine ⟨_, rfl, ⟨rfl, .inr ⟨w.heap.size, cp, _, rfl, Nat.le_refl _, heap_alloc_new w _, Nat.zero_le _, HC.out.2.2, ?_, ?_⟩⟩, ((Below.refl _ w).alloc (Nat.le_refl _) _).drew⟩
    · have := HC.out.2.1
      simp [size_zeroCells]
      omega
    · simp
theorem opsRow {w : World} {ao : Option Addr} {xs : List OpX} (h : OpsIn w ao xs) : InRow encX w ao xs := h
set_option maxRecDepth 100000 in
set_option maxHeartbeats 8000000 in
theorem concat_any (w : World) (Bk : Nat) (ao : Nat → Option Addr) (cap : Nat → Nat) (R : Rws) (hk : KBox w Bk ao cap R) (hK : KnownAt w ao R) (hnil : ∀ i, i < 4 → ao i = none → cap i = 0) (hn : (allR R).length ≤ 1000) :
    Calls Tryz.prog 128 #[.slice (some ⟨Bk, 0, none⟩) 4 4] w fun e w' => ∃ v, e = .returned v ∧ w'.ownsRow w.heap.size 31 8 v (allR R).length (cellsOf (allR R)) ∧ Below w.heap.size w w' := by
  have hl0 := row_le R (i := 0) (by omega)
  have hl1 := row_le R (i := 1) (by omega)
  have hl2 := row_le R (i := 2) (by omega)
  have hl3 := row_le R (i := 3) (by omega)
  have c0 := hk.at (i := 0) (by omega)
  have c1 := hk.at (i := 1) (by omega)
  have c2 := hk.at (i := 2) (by omega)
  have c3 := hk.at (i := 3) (by omega)
  have hsum : (allR R).length = (R 0).length + (R 1).length + (R 2).length + (R 3).length := by unfold allR; simp; omega
  have hgr := growOps_any ((R 0).length + (R 1).length + (R 2).length + (R 3).length) w (by omega)
  have HK : Aside (KnownAt w ao R ∧ ∀ i, i < 4 → ao i = none → cap i = 0) := ⟨hK, hnil⟩
  have HS : Aside ((allR R).length = (R 0).length + (R 1).length + (R 2).length + (R 3).length) := hsum
  have g0 : (((R 0).length + (R 1).length + (R 2).length + (R 3).length : Nat) : Int) = (R 0).length + (R 1).length + (R 2).length + (R 3).length := by omega
  rw [g0] at hgr
  have hT : (R 0).length + (R 1).length + (R 2).length + (R 3).length ≤ 1000 := by omega
  have n1 : decide (((R 0).length : Int) < 0) = false := by simp
  have n2 : decide (((R 0).length : Int) + (R 1).length < 0) = false := by simp; omega
  have n3 : decide (((R 0).length : Int) + (R 1).length + (R 2).length < 0) = false := by simp; omega
  have n4 : decide (((R 0).length : Int) + (R 1).length + (R 2).length + (R 3).length < 0) = false := by simp; omega
  clear hk hK hnil hsum g0
  go_enter Tryz.func128, Tryz.ntmps128
  go_wp2
  refine wp_loop_rounds 5 ?_
  iterate 4
    rw [rounds_succ]
    go_wp2
  rw [rounds_succ]
  go_wp2_with fail
  refine hgr.mono ?_
  clear hgr
  rintro e w0 ⟨v0, rfl, hown0, hb0⟩
  have HB0 : Aside (Below w.heap.size w w0) := hb0
  have hown0 : w0.ownsRow w.heap.size 31 8 v0 0 [] := hown0
  obtain ⟨x0, y0, rfl⟩ := rowIs hown0
  clear hb0
  go_wp2
  refine wp_loop_rounds 5 ?_
  rw [rounds_succ]
  obtain ⟨v1, w1, hrun, hown1, hgrow⟩ := append_row (enc := encX) (k := 8) (S := 36) (T := 31) Tryz.underlying36 infoOp (by omega) (by omega) rfl encX_len encX_one hown0 (by omega) HB0.out.size (ao 0) (cap 0) (R 0) (by omega) (opsRow (HK.out.1.later HB0.out 0 (by omega))) (HK.out.2 0 (by omega)) 36
  have HB1 : Aside (Below w.heap.size w w1) := HB0.out.grown hgrow HB0.out.size (fun g hg => (hown0.lt g hg).1)
  have f0 := cell_later HB0.out c0
  have f1 := cell_later HB0.out c1
  have f2 := cell_later HB0.out c2
  have f3 := cell_later HB0.out c3
  rw [Nat.zero_add] at hown1
  obtain ⟨x1, y1, rfl⟩ := rowIs hown1
  go_wp2_with (at_builtin; refine Lib.wpList_append_run _ rfl _ _ _ _ rfl _ _ rfl rfl _ _ hrun ?_)
  clear hrun hgrow f0 f1 f2 f3
  rw [rounds_succ]
  obtain ⟨v2, w2, hrun, hown2, hgrow⟩ := append_row (enc := encX) (k := 8) (S := 36) (T := 31) Tryz.underlying36 infoOp (by omega) (by omega) rfl encX_len encX_one hown1 (by omega) HB1.out.size (ao 1) (cap 1) (R 1) (by omega) (opsRow (HK.out.1.later HB1.out 1 (by omega))) (HK.out.2 1 (by omega)) 36
  have HB2 : Aside (Below w.heap.size w w2) := HB1.out.grown hgrow HB1.out.size (fun g hg => (hown1.lt g hg).1)
  have f0 := cell_later HB1.out c0
  have f1 := cell_later HB1.out c1
  have f2 := cell_later HB1.out c2
  have f3 := cell_later HB1.out c3
  obtain ⟨x2, y2, rfl⟩ := rowIs hown2
  go_wp2_with (at_builtin; refine Lib.wpList_append_run _ rfl _ _ _ _ rfl _ _ rfl rfl _ _ hrun ?_)
  clear hrun hgrow f0 f1 f2 f3
  rw [rounds_succ]
  obtain ⟨v3, w3, hrun, hown3, hgrow⟩ := append_row (enc := encX) (k := 8) (S := 36) (T := 31) Tryz.underlying36 infoOp (by omega) (by omega) rfl encX_len encX_one hown2 (by omega) HB2.out.size (ao 2) (cap 2) (R 2) (by omega) (opsRow (HK.out.1.later HB2.out 2 (by omega))) (HK.out.2 2 (by omega)) 36
  have HB3 : Aside (Below w.heap.size w w3) := HB2.out.grown hgrow HB2.out.size (fun g hg => (hown2.lt g hg).1)
  have f0 := cell_later HB2.out c0
  have f1 := cell_later HB2.out c1
  have f2 := cell_later HB2.out c2
  have f3 := cell_later HB2.out c3
  obtain ⟨x3, y3, rfl⟩ := rowIs hown3
  go_wp2_with (at_builtin; refine Lib.wpList_append_run _ rfl _ _ _ _ rfl _ _ rfl rfl _ _ hrun ?_)
  clear hrun hgrow f0 f1 f2 f3
  rw [rounds_succ]
  obtain ⟨v4, w4, hrun, hown4, hgrow⟩ := append_row (enc := encX) (k := 8) (S := 36) (T := 31) Tryz.underlying36 infoOp (by omega) (by omega) rfl encX_len encX_one hown3 (by omega) HB3.out.size (ao 3) (cap 3) (R 3) (by omega) (opsRow (HK.out.1.later HB3.out 3 (by omega))) (HK.out.2 3 (by omega)) 36
  have HB4 : Aside (Below w.heap.size w w4) := HB3.out.grown hgrow HB3.out.size (fun g hg => (hown3.lt g hg).1)
  have f0 := cell_later HB3.out c0
  have f1 := cell_later HB3.out c1
  have f2 := cell_later HB3.out c2
  have f3 := cell_later HB3.out c3
  obtain ⟨x4, y4, rfl⟩ := rowIs hown4
  go_wp2_with (at_builtin; refine Lib.wpList_append_run _ rfl _ _ _ _ rfl _ _ rfl rfl _ _ hrun ?_)
  clear hrun hgrow f0 f1 f2 f3
  rw [rounds_succ]
  go_wp2
  go_ret
  refine ⟨_, rfl, ?_, HB4.out⟩
  rw [HS.out]
  rw [show cellsOf (allR R) = [] ++ cellsOf (R 0) ++ cellsOf (R 1) ++ cellsOf (R 2) ++ cellsOf (R 3) by unfold allR; simp [cellsOf_app]]
  exact hown4
end Go.Proofs.YtcggmagdndhkbaaGreatDoor
end
section
set_option linter.unusedVariables false
set_option linter.unusedSimpArgs false
namespace Go.Proofs.YtcggmagdndhkbaaGreatDoor
open Go.RowKit Go.Lib Go.Sort Go.Maps
def AllOut (w : World) (R : Rws) (e : Ending) (w' : World) : Prop := ∃ v ys, e = .returned v ∧ OpsAt w' v ys ∧ StableOf (allR R) ys ∧ Below w.heap.size w w' ∧ ∀ g, v.ownBlock = some g → w.heap.size ≤ g
set_option maxRecDepth 100000 in
set_option maxHeartbeats 2000000 in
theorem kall_any (w : World) (ao : Nat → Option Addr) (cap : Nat → Nat) (R : Rws) (hK : KnownAt w ao R) (hnil : ∀ i, i < 4 → ao i = none → cap i = 0) (hn : (allR R).length ≤ 1000) :
    Calls Tryz.prog 61 #[kV ao cap R] w (AllOut w R) := by
  obtain ⟨W, hW⟩ : ∃ W, W = w.alloc (.cells #[.slice (ao 0) (R 0).length (cap 0), .slice (ao 1) (R 1).length (cap 1), .slice (ao 2) (R 2).length (cap 2), .slice (ao 3) (R 3).length (cap 3)] 79 (0, 0)) := ⟨_, rfl⟩
  have hb : Below w.heap.size w W := by rw [hW]; exact (Below.refl _ w).alloc (Nat.le_refl _) _
  have hbox : KBox W w.heap.size ao cap R := by rw [hW]; exact heap_alloc_new w _
  have hcat := concat_any W w.heap.size ao cap R hbox (hK.later hb) hnil hn
  have H : Aside (W = w.alloc (.cells #[.slice (ao 0) (R 0).length (cap 0), .slice (ao 1) (R 1).length (cap 1), .slice (ao 2) (R 2).length (cap 2), .slice (ao 3) (R 3).length (cap 3)] 79 (0, 0)) ∧ Below w.heap.size w W ∧ (allR R).length ≤ 1000) := ⟨hW, hb, hn⟩
  clear hW hb hbox hK hnil hn
  unfold kV
  go_enter Tryz.func61, Tryz.ntmps61
  go_wp2_with fail
  rw [← H.out.1]
  refine hcat.mono ?_
  clear hcat
  rintro e w1 ⟨v1, rfl, ho1, hb1⟩
  have hs := opSort_new w1 v1 (allR R) (ownsOps ho1) H.out.2.2
  have H1 : Aside (Below w.heap.size w w1) := H.out.2.1.trans (hb1.mono H.out.2.1.size)
  clear ho1 hb1 H
  go_wp2_with fail
  refine hs.mono ?_
  clear hs
  rintro e w2 ⟨v2, ys, rfl, h1, h2, h3, h4⟩
  have H2 : Aside (OpsAt w2 v2 ys ∧ StableOf (allR R) ys ∧ Below w.heap.size w w2 ∧ ∀ g, v2.ownBlock = some g → w.heap.size ≤ g) := ⟨h1, h2, H1.out.trans (h3.mono H1.out.size), fun g hg => Nat.le_trans H1.out.size (h4 g hg)⟩
  clear h1 h2 h3 h4 H1
  go_wp2
  go_ret
  exact ⟨_, _, rfl, H2.out⟩
theorem rows_nil {w : World} {c : Nat → Nat} {ao : Nat → Option Addr} {cap : Nat → Nat} {R : Rws} (h : RowsAt w c (kvs ao cap R) R) : ∀ i, i < 4 → ao i = none → cap i = 0 := fun i hi e => by
  obtain ⟨-, h2⟩ := (h i hi).1
  unfold kvs at h2
  rcases h2 with q | ⟨b, cp, _, q, _⟩
  · have := q.1
    simp only [Value.slice.injEq] at this
    exact this.2.2
  · simp only [Value.slice.injEq] at q
    rw [q.1] at e
    cases e
set_option maxRecDepth 100000 in
set_option maxHeartbeats 2000000 in
theorem rops_any (w : World) (c : Nat → Nat) (br : Nat) (by_ : Int) (R : Rws) (h : RepAt w c br by_ R) (hn : (allR R).length ≤ 1000) :
    Calls Tryz.prog 13 #[.pointer (some ⟨br, 0, none⟩)] w (AllOut w R) := by
  obtain ⟨T, kv, bt, bx, bc, A, hm, hp, hK, hb⟩ := h
  obtain ⟨ao, cap, hM⟩ := hm.norm
  have hall := kall_any w ao cap R (KnownAt.of_rows hM.rows) (rows_nil hM.rows) hn
  unfold kV at hall
  have k2 : w.cell? ⟨br, 2, none⟩ = some (.slice (ao 0) (R 0).length (cap 0)) := hM.cell.c2
  have k3 : w.cell? ⟨br, 3, none⟩ = some (.slice (ao 1) (R 1).length (cap 1)) := hM.cell.c3
  have k4 : w.cell? ⟨br, 4, none⟩ = some (.slice (ao 2) (R 2).length (cap 2)) := hM.cell.c4
  have k5 : w.cell? ⟨br, 5, none⟩ = some (.slice (ao 3) (R 3).length (cap 3)) := hM.cell.c5
  clear hm hM hp hK hb hn
  go_enter Tryz.func13, Tryz.ntmps13
  go_wp2_with fail
  refine hall.mono ?_
  clear hall
  rintro e w2 ⟨v2, ys, rfl, h2⟩
  have H2 : Aside (OpsAt w2 v2 ys ∧ StableOf (allR R) ys ∧ Below w.heap.size w w2 ∧ ∀ g, v2.ownBlock = some g → w.heap.size ≤ g) := h2
  clear h2
  go_wp2
  go_ret
  exact ⟨_, _, rfl, H2.out⟩
set_option maxRecDepth 100000 in
set_option maxHeartbeats 2000000 in
theorem rvector_any (w : World) (c : Nat → Nat) (br : Nat) (by_ : Int) (R : Rws) (h : RepAt w c br by_ R) (hn : (allR R).length ≤ 1000) :
    Calls Tryz.prog 18 #[.pointer (some ⟨br, 0, none⟩)] w fun e w' => e = .returned (.agg #[.int .i64 ((R 0).length : Int), .int .i64 ((R 1).length : Int), .int .i64 ((R 2).length : Int), .int .i64 ((R 3).length : Int)]) ∧ Below w.heap.size w w' := by
  obtain ⟨T, kv, bt, bx, bc, A, hm, hp, hK, hb⟩ := h
  obtain ⟨ao, cap, hM⟩ := hm.norm
  obtain ⟨U, hU⟩ : ∃ U, U = w.alloc (.cells #[.int .i64 0, .int .i64 0, .int .i64 0, .int .i64 0] 48 (0, 0)) := ⟨_, rfl⟩
  have hbU : Below w.heap.size w U := by rw [hU]; exact (Below.refl _ w).alloc (Nat.le_refl _) _
  have hc : RepCell U br T by_ (kvs ao cap R) bt bx bc := hM.cell.same (hbU.block _ hM.cell.lt)
  have hv : U.heap[w.heap.size]? = some (.cells #[.int .i64 0, .int .i64 0, .int .i64 0, .int .i64 0] 48 (0, 0)) := by rw [hU]; exact heap_alloc_new w _
  have hall := kvector_any U ao cap R (fun i hi => Nat.le_trans (row_le R hi) hn)
  unfold kV at hall
  have k2 : U.cell? ⟨br, 2, none⟩ = some (.slice (ao 0) (R 0).length (cap 0)) := hc.c2
  have k3 : U.cell? ⟨br, 3, none⟩ = some (.slice (ao 1) (R 1).length (cap 1)) := hc.c3
  have k4 : U.cell? ⟨br, 4, none⟩ = some (.slice (ao 2) (R 2).length (cap 2)) := hc.c4
  have k5 : U.cell? ⟨br, 5, none⟩ = some (.slice (ao 3) (R 3).length (cap 3)) := hc.c5
  have HU : Aside (U = w.alloc (.cells #[.int .i64 0, .int .i64 0, .int .i64 0, .int .i64 0] 48 (0, 0)) ∧ Below w.heap.size w U ∧ U.heap[w.heap.size]? = some (.cells #[.int .i64 0, .int .i64 0, .int .i64 0, .int .i64 0] 48 (0, 0))) := ⟨hU, hbU, hv⟩
  clear hm hM hp hK hb hn hc hU hbU hv
  go_enter Tryz.func18, Tryz.ntmps18
  go_upto_region 1 with fail
  rw [← HU.out.1]
  go_wp2_with fail
  refine hall.mono ?_
  clear hall
  rintro e w2 ⟨rfl, h2⟩
  have hv2 := (h2.block w.heap.size (Array.getElem?_eq_some_iff.1 HU.out.2.2).1).trans HU.out.2.2
  have s0 : w2.cell? ⟨w.heap.size, 0, none⟩ = some (.int .i64 0) := by simp [World.cell?, hv2]
  have s1 : w2.cell? ⟨w.heap.size, 1, none⟩ = some (.int .i64 0) := by simp [World.cell?, hv2]
  have s2 : w2.cell? ⟨w.heap.size, 2, none⟩ = some (.int .i64 0) := by simp [World.cell?, hv2]
  have s3 : w2.cell? ⟨w.heap.size, 3, none⟩ = some (.int .i64 0) := by simp [World.cell?, hv2]
  have z : ∀ o, w2.frozen? ⟨w.heap.size, o, none⟩ = false := fun o => by simp [World.frozen?, hv2]
  have H2 : Aside (Below w.heap.size w w2) := HU.out.2.1.trans (h2.mono HU.out.2.1.size)
  clear h2 hv2 HU k2 k3 k4 k5
  go_wp2
  (try simp only [Exit.inBlock, Exit.then])
  refine bodyPost_ret (v := .agg #[.int .i64 ((R 0).length : Int), .int .i64 ((R 1).length : Int), .int .i64 ((R 2).length : Int), .int .i64 ((R 3).length : Int)]) ?_ rfl ⟨rfl, ?_⟩
  · rw [results_c rfl]
    go_simp
  · exact (((H2.out.setCell (Nat.le_refl _) _).setCell (Nat.le_refl _) _).setCell (Nat.le_refl _) _).setCell (Nat.le_refl _) _
end Go.Proofs.YtcggmagdndhkbaaGreatDoor
end
section
set_option linter.unusedVariables false
set_option linter.unusedSimpArgs false
namespace Go.Proofs.YtcggmagdndhkbaaGreatDoor
open Go.RowKit
theorem world_at (W : World) {b : Nat} (hb : b ≤ W.heap.size) : ∃ w0 : World, w0.heap.size = b := ⟨{ W with heap := W.heap.extract 0 b }, by simp; omega⟩
theorem tmap_new {W : World} {b : Nat} (h : W.heap[b]? = some (.map #[] 0)) : TMapAt W b 0 noT := by
  obtain ⟨w0, rfl⟩ := world_at W (Nat.le_of_lt (Array.getElem?_eq_some_iff.1 h).1)
  exact (tmapAt_made w0).same (h.trans (heap_alloc_new w0 _).symm)
theorem cmap_new {W : World} {b : Nat} (h : W.heap[b]? = some (.map #[] 0)) : CMapAt W b 0 noC := by
  obtain ⟨w0, rfl⟩ := world_at W (Nat.le_of_lt (Array.getElem?_eq_some_iff.1 h).1)
  exact (cmapAt_made w0).same (h.trans (heap_alloc_new w0 _).symm)
theorem map_new {W : World} {b : Nat} (h : W.heap[b]? = some (.map #[] 0)) : MapAt Tryz.prog 3 W b 0 noSta := by
  obtain ⟨w0, rfl⟩ := world_at W (Nat.le_of_lt (Array.getElem?_eq_some_iff.1 h).1)
  exact (mapAt_made w0).same (h.trans (heap_alloc_new w0 _).symm)
def newHue (bt bm bx bc cm br : Nat) : Nat → Nat := fun k => if k = br then 1 else if k = bt ∨ k = bm then 2 else if k = bx then 3 else if k = bc ∨ k = cm then 4 else 0
def NewOut (w : World) (by_ : Int) (e : Ending) (w' : World) : Prop := ∃ c br, e = .returned (.tuple #[.pointer (some ⟨br, 0, none⟩), .nilIface]) ∧ RepOwn w.heap.size w' c br by_ (fun _ => []) ∧ Below w.heap.size w w'
theorem new_close {w W : World} {b : Int} (h0 : 0 ≤ b) (h4 : b < 4) (bt bm bx bc cm br : Nat) (hb : Below w.heap.size w W)
    (l1 : w.heap.size ≤ bt) (l2 : w.heap.size ≤ bm) (l3 : w.heap.size ≤ bx) (l4 : w.heap.size ≤ bc) (l5 : w.heap.size ≤ cm) (l6 : w.heap.size ≤ br)
    (d1 : bt ≠ br) (d2 : bm ≠ br) (d3 : bx ≠ br ∧ bx ≠ bt ∧ bx ≠ bm) (d4 : bc ≠ br ∧ bc ≠ bt ∧ bc ≠ bm ∧ bc ≠ bx) (d5 : cm ≠ br ∧ cm ≠ bt ∧ cm ≠ bm ∧ cm ≠ bx)
    (e1 : W.heap[bt]? = some (.cells #[.map (some bm), .slice none 0 0] 185 (0, 0))) (e2 : W.heap[bm]? = some (.map #[] 0)) (e3 : W.heap[bx]? = some (.map #[] 0))
    (e4 : W.heap[bc]? = some (.cells #[.map (some cm)] 188 (0, 0))) (e5 : W.heap[cm]? = some (.map #[] 0))
    (e6 : W.heap[br]? = some (.cells #[.int .i64 0, .int .i64 b, .slice none 0 0, .slice none 0 0, .slice none 0 0, .slice none 0 0, .pointer (some ⟨bt, 0, none⟩), .map (some bx), .pointer (some ⟨bc, 0, none⟩)] 84 (0, 0))) :
    NewOut w b (.returned (.tuple #[.pointer (some ⟨br, 0, none⟩), .nilIface])) W := by
  have hlt : ∀ {k : Nat} {o : Obj}, W.heap[k]? = some o → k < W.heap.size := fun h => (Array.getElem?_eq_some_iff.1 h).1
  have u1 : newHue bt bm bx bc cm br br = 1 := by unfold newHue; simp
  have u2 : newHue bt bm bx bc cm br bt = 2 := by unfold newHue; simp [d1]
  have u3 : newHue bt bm bx bc cm br bm = 2 := by unfold newHue; simp [d2]
  have u4 : newHue bt bm bx bc cm br bx = 3 := by unfold newHue; simp [d3.1, d3.2.1, d3.2.2]
  have u5 : newHue bt bm bx bc cm br bc = 4 := by unfold newHue; simp [d4.1, d4.2.1, d4.2.2.1, d4.2.2.2]
  have u6 : newHue bt bm bx bc cm br cm = 4 := by unfold newHue; simp [d5.1, d5.2.1, d5.2.2.1, d5.2.2.2]
  refine ⟨newHue bt bm bx bc cm br, br, rfl, ⟨⟨0, fun _ => .slice none 0 0, bt, bx, bc, [], ⟨e6, u1, ?_, ?_, ?_, ?_, timeO_nil⟩, by unfold allR; exact List.Perm.refl _, rowsK_nil, h0, h4⟩, fun k hk => ?_, fun k hk => ?_⟩, hb⟩
  · exact fun i hi => ⟨World.ownsRow_nil _ _ _ _, fun g hg => by cases hg⟩
  · refine ⟨bm, .slice none 0 0, [], ⟨e1, ⟨[], logTo_nil, World.ownsRow_nil _ _ _ _⟩, ⟨0, by simp, map_new e2⟩, List.Pairwise.nil, fun m hm => by simp at hm⟩, List.Perm.refl _, u2, u3, fun g hg => by cases hg⟩
  · refine ⟨0, noT, Nat.le_refl _, tmap_new e3, u4, fun nd => ⟨fun h => (by cases h), fun ⟨x, hx, _⟩ => (by cases hx)⟩, fun nd p hp => by cases hp⟩
  · exact ⟨cm, [], ⟨e4, cmap_new e5⟩, List.Perm.refl _, u5, u6⟩
  · by_cases q : k = br ∨ k = bt ∨ k = bm ∨ k = bx ∨ k = bc ∨ k = cm
    · rcases q with rfl | rfl | rfl | rfl | rfl | rfl <;> assumption
    · exact absurd (by unfold newHue; simp only [not_or] at q; simp [q.1, q.2.1, q.2.2.1, q.2.2.2.1, q.2.2.2.2.1, q.2.2.2.2.2]) hk
  · have := hlt e1; have := hlt e2; have := hlt e3; have := hlt e4; have := hlt e5; have := hlt e6
    unfold newHue
    rw [if_neg (by omega), if_neg (by omega), if_neg (by omega), if_neg (by omega)]
end Go.Proofs.YtcggmagdndhkbaaGreatDoor
end
section
set_option linter.unusedVariables false
set_option linter.unusedSimpArgs false
namespace Go.Proofs.YtcggmagdndhkbaaGreatDoor
open Go.RowKit Go.Lib Go.Sort Go.Maps
theorem heap_al (w : World) (o : Obj) : (w.alloc o).heap = w.heap.push o := rfl
theorem heap_dr (w : World) : w.drew.heap = w.heap := rfl
set_option maxRecDepth 100000 in
set_option maxHeartbeats 8000000 in
theorem rnew_ok (w : World) (b : Int) (h0 : 0 ≤ b) (h4 : b < 4) :
    Calls Tryz.prog 9 #[.int .i64 b] w (NewOut w b) := by
  have hmm := @run_makeMap Tryz.prog
  have hc := new_ok b w h0 h4
  go_enter Tryz.func9, Tryz.ntmps9
  go_wp2_with fail
  refine hc.mono ?_
  clear hc
  rintro e w1 ⟨rfl, rfl⟩
  go_upto_region 4 with fail
  go_region_with (first | (go_at_call 50; refine (treeNew _).mono ?_; rintro e w' ⟨rfl, rfl⟩) | (go_at_call 51; refine (cellsNew _).mono ?_; rintro e w' ⟨rfl, rfl⟩))
  all_goals (go_wp2; go_ret2)
  all_goals (first
    | (refine new_close h0 h4 (w.heap.size + 1 + 1) (w.heap.size + 1) (w.heap.size + 1 + 1 + 1 + 1 + 1) (w.heap.size + 1 + 1 + 1 + 1) (w.heap.size + 1 + 1 + 1) (w.heap.size + 1 + 1 + 1 + 1 + 1 + 1) ?_ (by omega) (by omega) (by omega) (by omega) (by omega) (by omega) (by omega) (by omega) (by omega) (by omega) (by omega) ?_ ?_ ?_ ?_ ?_ ?_; all_goals (first | (simp only [heap_al, heap_dr, Array.getElem?_push, Array.size_push]; (try (repeat first | rw [if_pos trivial] | rw [if_neg (by omega)] | rfl)); done) | ((repeat first | exact Below.refl _ _ | refine Below.drew ?_ | refine Below.alloc ?_ (by simp <;> omega) _); done)))
    | (refine new_close h0 h4 (w.heap.size + 1 + 1) (w.heap.size + 1) (w.heap.size + 1 + 1 + 1) (w.heap.size + 1 + 1 + 1 + 1 + 1) (w.heap.size + 1 + 1 + 1 + 1) (w.heap.size + 1 + 1 + 1 + 1 + 1 + 1) ?_ (by omega) (by omega) (by omega) (by omega) (by omega) (by omega) (by omega) (by omega) (by omega) (by omega) (by omega) ?_ ?_ ?_ ?_ ?_ ?_; all_goals (first | (simp only [heap_al, heap_dr, Array.getElem?_push, Array.size_push]; (try (repeat first | rw [if_pos trivial] | rw [if_neg (by omega)] | rfl)); done) | ((repeat first | exact Below.refl _ _ | refine Below.drew ?_ | refine Below.alloc ?_ (by simp <;> omega) _); done)))
    | (refine new_close h0 h4 (w.heap.size + 1 + 1 + 1) (w.heap.size + 1 + 1) (w.heap.size + 1) (w.heap.size + 1 + 1 + 1 + 1 + 1) (w.heap.size + 1 + 1 + 1 + 1) (w.heap.size + 1 + 1 + 1 + 1 + 1 + 1) ?_ (by omega) (by omega) (by omega) (by omega) (by omega) (by omega) (by omega) (by omega) (by omega) (by omega) (by omega) ?_ ?_ ?_ ?_ ?_ ?_; all_goals (first | (simp only [heap_al, heap_dr, Array.getElem?_push, Array.size_push]; (try (repeat first | rw [if_pos trivial] | rw [if_neg (by omega)] | rfl)); done) | ((repeat first | exact Below.refl _ _ | refine Below.drew ?_ | refine Below.alloc ?_ (by simp <;> omega) _); done))))
end Go.Proofs.YtcggmagdndhkbaaGreatDoor
end
section
set_option linter.unusedVariables false
set_option linter.unusedSimpArgs false
namespace Go.Proofs.YtcggmagdndhkbaaGreatDoor
open Go.RowKit Go.Lib Go.Sort Go.Maps
set_option maxRecDepth 100000 in
set_option maxHeartbeats 1000000 in
theorem rtime_any (w : World) (br : Nat) (T by_ : Int) (kv : Nat → Value) (bt bx bc : Nat) (hc : RepCell w br T by_ kv bt bx bc) :
    Calls Tryz.prog 30 #[.pointer (some ⟨br, 0, none⟩)] w fun e w' => e = .returned (.int .i64 T) ∧ w' = w := by
  have h := time_any br T w hc.c0
  clear hc
  go_enter Tryz.func30, Tryz.ntmps30
  go_wp2_with fail
  refine h.mono ?_
  rintro e w' ⟨rfl, rfl⟩
  go_wp2
  go_ret
  exact ⟨rfl, rfl⟩
set_option maxHeartbeats 400000 in
theorem by_any (pb : Nat) (b : Int) (w : World) (hb : w.cell? ⟨pb, 1, none⟩ = some (.int .i64 b)) :
    Calls Tryz.prog 103 #[.pointer (some ⟨pb, 0, none⟩)] w fun e w' => e = .returned (.int .i64 b) ∧ w' = w := by
  go_enter Tryz.func103, Tryz.ntmps103
  go_wp2
  go_ret
  exact ⟨rfl, rfl⟩
set_option maxRecDepth 100000 in
set_option maxHeartbeats 1000000 in
theorem rby_any (w : World) (br : Nat) (T by_ : Int) (kv : Nat → Value) (bt bx bc : Nat) (hc : RepCell w br T by_ kv bt bx bc) :
    Calls Tryz.prog 48 #[.pointer (some ⟨br, 0, none⟩)] w fun e w' => e = .returned (.int .i64 by_) ∧ w' = w := by
  have h := by_any br by_ w hc.c1
  clear hc
  go_enter Tryz.func48, Tryz.ntmps48
  go_wp2_with fail
  refine h.mono ?_
  rintro e w' ⟨rfl, rfl⟩
  go_wp2
  go_ret
  exact ⟨rfl, rfl⟩
end Go.Proofs.YtcggmagdndhkbaaGreatDoor
end
section
set_option linter.unusedVariables false
set_option linter.unusedSimpArgs false
namespace Go.Proofs.YtcggmagdndhkbaaGreatDoor
open Go.RowKit Go.Lib Go.Sort Go.Maps
def VecBlk (w : World) (b : Nat) (v : Nat → Int) : Prop := w.heap[b]? = some (.cells #[.int .i64 (v 0), .int .i64 (v 1), .int .i64 (v 2), .int .i64 (v 3)] 48 (0, 0))
theorem VecBlk.lt {w : World} {b : Nat} {v : Nat → Int} (h : VecBlk w b v) : b < w.heap.size := (Array.getElem?_eq_some_iff.1 h).1
theorem VecBlk.later {w w' : World} {b : Nat} {v : Nat → Int} (h : VecBlk w b v) (hb : Below w.heap.size w w') : VecBlk w' b v := (hb.block b h.lt).trans h
theorem VecBlk.at {w : World} {b : Nat} {v : Nat → Int} (h : VecBlk w b v) {i : Nat} (hi : i < 4) : w.cell? ⟨b, i, none⟩ = some (.int .i64 (v i)) := by
  unfold VecBlk at h
  match i, hi with
  | 0, _ => simp [World.cell?, h]
  | 1, _ => simp [World.cell?, h]
  | 2, _ => simp [World.cell?, h]
  | 3, _ => simp [World.cell?, h]
def heldV (v : Nat → Int) (x : OpX) : Bool := decide (x.2.2.1 ≤ v x.2.1.toNat)
set_option maxRecDepth 100000 in
set_option maxHeartbeats 2000000 in
theorem diffFn_any (w : World) (b : Nat) (v : Nat → Int) (x : OpX) (hv : VecBlk w b v) (i : Nat) (hi : i < 4) (hx : x.2.1 = (i : Int)) :
    Calls Tryz.prog 94 #[encO x, .pointer (some ⟨b, 0, none⟩)] w fun e w' => e = .returned (.bool (heldV v x)) ∧ Below w.heap.size w w' := by
  obtain ⟨t, by_, m, kd, nd, o, s, u⟩ := x
  simp only at hx
  subst hx
  have hvl := hv.lt
  have hb : Below w.heap.size w (w.alloc (.cells #[.int .i64 t, .int .i64 (i : Int), .int .i64 m, .int .u8 (kd : Int), .int .i64 nd, .int .i64 o, .string s, .string u] 31)) := (Below.refl _ w).alloc (Nat.le_refl _) _
  have q := (hv.later hb).at hi
  have ei : ((i : Int)).toNat = i := by omega
  have i4 : ((i : Int) < 4) := by omega
  have i0 : (0 : Int) ≤ (i : Int) := by omega
  have HB : Aside (Below w.heap.size w (w.alloc (.cells #[.int .i64 t, .int .i64 (i : Int), .int .i64 m, .int .u8 (kd : Int), .int .i64 nd, .int .i64 o, .string s, .string u] 31))) := hb
  have HH : Aside (heldV v (t, (i : Int), m, kd, nd, o, s, u) = decide (m ≤ v i)) := by show decide (m ≤ v ((i : Int)).toNat) = _; rw [ei]
  clear hb hv
  unfold encO
  dsimp only
  rw [HH.out]
  go_enter Tryz.func94, Tryz.ntmps94
  go_wp2_with fail
  go_quiet (fail)
  go_wp2
  go_ret
  exact ⟨rfl, below_drewN HB.out _⟩
end Go.Proofs.YtcggmagdndhkbaaGreatDoor
end
section
set_option linter.unusedVariables false
set_option linter.unusedSimpArgs false
namespace Go.Proofs.YtcggmagdndhkbaaGreatDoor
open Go.RowKit Go.Lib Go.Sort Go.Maps
structure OwnAt (w : World) (g : Nat) (ys : List OpX) : Prop where
  cell : ∀ j u, (cellsOf ys)[j]? = some u → w.cell? ⟨g, j, none⟩ = some u
  free : ∀ j, j < ys.length * 8 → w.frozen? ⟨g, j, none⟩ = false
theorem OwnAt.has {w : World} {g : Nat} {ys : List OpX} (h : OwnAt w g ys) {j : Nat} (hj : j < ys.length * 8) : (w.cell? ⟨g, j, none⟩).isSome = true := by
  have hl : j < (cellsOf ys).length := by rw [cellsOf_len]; omega
  rw [h.cell j _ (List.getElem?_eq_getElem hl)]
  rfl
theorem OwnAt.at {w : World} {g : Nat} {ys : List OpX} (h : OwnAt w g ys) {i : Nat} {x : OpX} (hi : ys[i]? = some x) {c : Nat} {u : Value} (hc : (encX x)[c]? = some u) : w.cell? ⟨g, i * 8 + c, none⟩ = some u := by
  have hl : i < ys.length := (List.getElem?_eq_some_iff.1 hi).1
  have h8 : c < 8 := by have := (List.getElem?_eq_some_iff.1 hc).1; rw [encX_len] at this; exact this
  refine h.cell _ _ ?_
  have h8' : c < (encX x).length := by rw [encX_len]; exact h8
  rw [cellsOf_get ys i c hl h8, getElem!_pos ys i hl, (List.getElem?_eq_some_iff.1 hi).2, getElem!_pos (encX x) c h8']
  rw [List.getElem?_eq_getElem h8'] at hc
  exact hc
theorem OwnAt.same {w w' : World} {g : Nat} {ys : List OpX} (h : OwnAt w g ys) (e : w'.heap[g]? = w.heap[g]?) : OwnAt w' g ys :=
  ⟨fun j u hj => by have := h.cell j u hj; simp only [World.cell?] at this ⊢; rw [e]; exact this, fun j hj => by have := h.free j hj; simp only [World.frozen?] at this ⊢; rw [e]; exact this⟩
theorem OwnAt.set {w : World} {g : Nat} {cs : List OpX} (h : OwnAt w g cs) {i : Nat} (hi : i < cs.length) (x : OpX) : OwnAt (w.setCells g (i * 8) (encX x)) g (cs.set i x) := by
  constructor
  · intro j u hj
    have hl : j < (cellsOf (cs.set i x)).length := (List.getElem?_eq_some_iff.1 hj).1
    rw [cellsOf_len, List.length_set] at hl
    have h2 : j / 8 * 8 + j % 8 = j := by omega
    have c := cellsOf_get (cs.set i x) (j / 8) (j % 8) (by rw [List.length_set]; omega) (by omega)
    rw [h2, hj] at c
    have hq : j / 8 < (cs.set i x).length := by rw [List.length_set]; omega
    rw [getElem!_pos (cs.set i x) (j / 8) hq, List.getElem_set] at c
    by_cases e : i = j / 8
    · rw [if_pos e] at c
      have hr : j % 8 < (encX x).length := by rw [encX_len]; omega
      have k := World.cell?_setCells_in g (encX x) (i * 8) w (fun q hq' => h.has (by rw [encX_len] at hq'; omega)) (j % 8) hr
      rw [show i * 8 + j % 8 = j by omega] at k
      rw [k]
      rw [getElem!_pos (encX x) (j % 8) hr] at c
      exact c.symm
    · rw [if_neg e] at c
      rw [World.cell?_setCells_out g (encX x) (i * 8) w ⟨g, j, none⟩ (fun _ _ => by rw [encX_len]; show j < i * 8 ∨ i * 8 + 8 ≤ j; omega)]
      refine h.cell j u ?_
      rw [← h2, cellsOf_get cs (j / 8) (j % 8) (by omega) (by omega), getElem!_pos cs (j / 8) (by omega)]
      exact c.symm
  · intro j hj
    rw [World.frozen?_setCells]
    exact h.free j (by rw [List.length_set] at hj; exact hj)
theorem run_clear_cells {P : Program} (w : World) (t e ty : TypeId) (z : Value) (ht : P.underlying t = some (.slice e)) (hv : ∀ w, (zeroValue e).run P w = .ok z w) (b o n c : Nat) (hn : 0 < n)
    (h1 : ∀ v ∈ (Builtin.zeroCells z.cells n).toList, v.oneCell' = true) (hc : ∀ j, j < n * z.cells.size → (w.cell? ⟨b, o + j, none⟩).isSome = true) (hf : ∀ j, j < n * z.cells.size → w.frozen? ⟨b, o + j, none⟩ = false) :
    (Builtin.clear_ #[t] ty #[.slice (some ⟨b, o, none⟩) n c]).run P w = .ok (.tuple #[]) (w.setCells b o (Builtin.zeroCells z.cells n).toList) := by
  have hsz : (Builtin.zeroCells z.cells n).toList.length = n * z.cells.size := by rw [Array.length_toList, size_zeroCells]
  have hst := run_storeCells_cells (P := P) b o (Builtin.zeroCells z.cells n).toList 0 w (by rw [hsz]; simpa using hc) (by rw [hsz]; simpa using hf) h1
  simp only [Nat.add_zero] at hst
  obtain ⟨m, rfl⟩ : ∃ m, n = m + 1 := ⟨n - 1, by omega⟩
  simp [Builtin.clear_, run_underlying ht, hv, hst]
end Go.Proofs.YtcggmagdndhkbaaGreatDoor
end
section
set_option linter.unusedVariables false
set_option linter.unusedSimpArgs false
namespace Go.Proofs.YtcggmagdndhkbaaGreatDoor
open Go.RowKit Go.Lib Go.Sort Go.Maps
def PredB (g : Nat) (lb : Array Value) (xs : List OpX) (p : OpX → Bool) (base : Nat) (w : World) : Prop :=
  ∀ (W : World) (x : OpX), x ∈ xs → Below base w W → Calls Tryz.prog g (#[encO x] ++ lb) W fun e w' => e = .returned (.bool (p x)) ∧ Below W.heap.size W w'
theorem PredB.toO {g : Nat} {lb : Array Value} {xs : List OpX} {p : OpX → Bool} {base : Nat} {w : World} (h : PredB g lb xs p base w) (hb : base ≤ w.heap.size) : PredO g lb xs p w := fun W x hx hW => (h W x hx (hW.mono hb)).mono (by rintro e w' ⟨rfl, q⟩; exact ⟨rfl, hW.trans (q.mono hW.size)⟩)
theorem OwnAt.ops {w : World} {g : Nat} {ys : List OpX} (h : OwnAt w g ys) : OpsIn w (some ⟨g, 0, none⟩) ys := .inr ⟨g, 0, rfl, fun j u hj => by rw [Nat.zero_add]; exact h.cell j u hj⟩
theorem OwnAt.take {w : World} {g : Nat} {cs : List OpX} (h : OwnAt w g cs) {i : Nat} (hi : i ≤ cs.length) (vs : List Value) : OwnAt (w.setCells g (i * 8) vs) g (cs.take i) := by
  have hlen : (cs.take i).length = i := by simp; omega
  constructor
  · intro j u hj
    have hl : j < (cellsOf (cs.take i)).length := (List.getElem?_eq_some_iff.1 hj).1
    rw [cellsOf_len, hlen] at hl
    rw [World.cell?_setCells_out g vs (i * 8) w ⟨g, j, none⟩ (fun _ _ => .inl (by show j < i * 8; omega))]
    refine h.cell j u ?_
    have e : cellsOf cs = cellsOf (cs.take i) ++ cellsOf (cs.drop i) := by rw [← cellsOf_app, List.take_append_drop]
    rw [e, List.getElem?_append_left (by rw [cellsOf_len, hlen]; omega)]
    exact hj
  · intro j hj
    rw [hlen] at hj
    rw [World.frozen?_setCells]
    exact h.free j (by omega)
structure DelSt (p : OpX → Bool) (ys : List OpX) (i j : Nat) (cs : List OpX) : Prop where
  lt : i < j
  le : j ≤ ys.length
  len : cs.length = ys.length
  stay : cs.take i = (ys.take j).filter (fun x => !p x)
  rest : cs.drop j = ys.drop j
theorem DelSt.start {p : OpX → Bool} {ys : List OpX} {k : Nat} {x : OpX} (hx : ys[k]? = some x) (hp : p x = true) (hk : ∀ j y, j < k → ys[j]? = some y → p y = false) : DelSt p ys k (k + 1) ys := by
  have hl : k < ys.length := (List.getElem?_eq_some_iff.1 hx).1
  refine ⟨by omega, by omega, rfl, ?_, rfl⟩
  rw [List.take_add_one, hx, List.filter_append]
  have e1 : (ys.take k).filter (fun x => !p x) = ys.take k := List.filter_eq_self.2 (fun a ha => by
    obtain ⟨q, hq, e⟩ := List.getElem_of_mem ha
    rw [List.length_take] at hq
    rw [List.getElem_take] at e
    rw [hk q a (by omega) (by rw [← e]; exact List.getElem?_eq_getElem (by omega))]
    rfl)
  rw [e1]
  simp [hp]
theorem DelSt.get {p : OpX → Bool} {ys cs : List OpX} {i j : Nat} (h : DelSt p ys i j cs) {x : OpX} (hx : ys[j]? = some x) : cs[j]? = some x := by
  have := congrArg (fun l => l[0]?) h.rest
  simp only [List.getElem?_drop, Nat.add_zero] at this
  rw [this, hx]
theorem DelSt.skip {p : OpX → Bool} {ys cs : List OpX} {i j : Nat} (h : DelSt p ys i j cs) {x : OpX} (hx : ys[j]? = some x) (hp : p x = true) : DelSt p ys i (j + 1) cs := by
  have hl : j < ys.length := (List.getElem?_eq_some_iff.1 hx).1
  refine ⟨by have := h.lt; omega, by omega, h.len, ?_, ?_⟩
  · rw [List.take_add_one, hx, List.filter_append, h.stay]
    simp [hp]
  · have := congrArg (List.drop 1) h.rest
    simpa [List.drop_drop, Nat.add_comm] using this
theorem DelSt.keep {p : OpX → Bool} {ys cs : List OpX} {i j : Nat} (h : DelSt p ys i j cs) {x : OpX} (hx : ys[j]? = some x) (hp : p x = false) : DelSt p ys (i + 1) (j + 1) (cs.set i x) := by
  have hl : j < ys.length := (List.getElem?_eq_some_iff.1 hx).1
  have hlt := h.lt
  have hlen := h.len
  refine ⟨by omega, by omega, by rw [List.length_set]; exact h.len, ?_, ?_⟩
  · rw [List.take_add_one (l := ys), hx, List.filter_append, ← h.stay, List.take_add_one, List.getElem?_set_self (by omega), List.take_set_of_le (Nat.le_refl _)]
    simp [hp]
  · rw [List.drop_set_of_lt (by omega)]
    have := congrArg (List.drop 1) h.rest
    simpa [List.drop_drop, Nat.add_comm] using this
end Go.Proofs.YtcggmagdndhkbaaGreatDoor
end
section
set_option linter.unusedVariables false
set_option linter.unusedSimpArgs false
namespace Go.Proofs.YtcggmagdndhkbaaGreatDoor
open Go.RowKit Go.Lib Go.Sort Go.Maps
abbrev zeroOpV : Value := .agg #[.int .i64 0, .int .i64 0, .int .i64 0, .int .u8 0, .int .i64 0, .int .i64 0, .string ⟨#[]⟩, .string ⟨#[]⟩]
theorem zero_size : zeroOpV.cells.size = 8 := rfl
def zeroRow (n : Nat) : List Value := (Builtin.zeroCells zeroOpV.cells n).toList
theorem zero_one (n : Nat) : ∀ v ∈ (Builtin.zeroCells zeroOpV.cells n).toList, v.oneCell' = true := by
  intro v hv
  unfold Builtin.zeroCells at hv
  rw [Array.toList_map, List.mem_map] at hv
  obtain ⟨a, _, rfl⟩ := hv
  rw [zero_size]
  have h8 : a % 8 < 8 := Nat.mod_lt _ (by omega)
  have key : ∀ q, q < 8 → (zeroOpV.cells[q]!).oneCell' = true := fun q hq => by
    match q, hq with
    | 0, _ => rfl
    | 1, _ => rfl
    | 2, _ => rfl
    | 3, _ => rfl
    | 4, _ => rfl
    | 5, _ => rfl
    | 6, _ => rfl
    | 7, _ => rfl
  exact key _ h8
structure EightW (w : World) (g a : Nat) (x : OpX) : Prop where
  c0 : w.cell? ⟨g, a, none⟩ = some (.int .i64 x.1)
  c1 : w.cell? ⟨g, a + 1, none⟩ = some (.int .i64 x.2.1)
  c2 : w.cell? ⟨g, a + 2, none⟩ = some (.int .i64 x.2.2.1)
  c3 : w.cell? ⟨g, a + 3, none⟩ = some (.int .u8 (x.2.2.2.1 : Int))
  c4 : w.cell? ⟨g, a + 4, none⟩ = some (.int .i64 x.2.2.2.2.1)
  c5 : w.cell? ⟨g, a + 5, none⟩ = some (.int .i64 x.2.2.2.2.2.1)
  c6 : w.cell? ⟨g, a + 6, none⟩ = some (.string x.2.2.2.2.2.2.1)
  c7 : w.cell? ⟨g, a + 7, none⟩ = some (.string x.2.2.2.2.2.2.2)
  f0 : w.frozen? ⟨g, a, none⟩ = false
  f1 : w.frozen? ⟨g, a + 1, none⟩ = false
  f2 : w.frozen? ⟨g, a + 2, none⟩ = false
  f3 : w.frozen? ⟨g, a + 3, none⟩ = false
  f4 : w.frozen? ⟨g, a + 4, none⟩ = false
  f5 : w.frozen? ⟨g, a + 5, none⟩ = false
  f6 : w.frozen? ⟨g, a + 6, none⟩ = false
  f7 : w.frozen? ⟨g, a + 7, none⟩ = false
theorem OwnAt.eight {w : World} {g : Nat} {cs : List OpX} (h : OwnAt w g cs) {i : Nat} {x : OpX} (hi : cs[i]? = some x) : EightW w g (i * 8) x := by
  have hl : i < cs.length := (List.getElem?_eq_some_iff.1 hi).1
  have e0 := h.at hi (c := 0) rfl
  rw [Nat.add_zero] at e0
  exact ⟨e0, h.at hi (c := 1) rfl, h.at hi (c := 2) rfl, h.at hi (c := 3) rfl, h.at hi (c := 4) rfl, h.at hi (c := 5) rfl, h.at hi (c := 6) rfl, h.at hi (c := 7) rfl, h.free _ (by omega), h.free _ (by omega), h.free _ (by omega), h.free _ (by omega), h.free _ (by omega), h.free _ (by omega), h.free _ (by omega), h.free _ (by omega)⟩
theorem set8 (w : World) (g a : Nat) (t b m : Int) (kd : Nat) (nd o : Int) (s u : ByteArray) : ((((((((w.setCell ⟨g, a, none⟩ (.int .i64 t)).setCell ⟨g, a + 1, none⟩ (.int .i64 b)).setCell ⟨g, a + 2, none⟩ (.int .i64 m)).setCell ⟨g, a + 3, none⟩ (.int .u8 (kd : Int))).setCell ⟨g, a + 4, none⟩ (.int .i64 nd)).setCell ⟨g, a + 5, none⟩ (.int .i64 o)).setCell ⟨g, a + 6, none⟩ (.string s)).setCell ⟨g, a + 7, none⟩ (.string u)) = w.setCells g a (encX (t, b, m, kd, nd, o, s, u)) := rfl
def DelOut (w : World) (g cap base : Nat) (zs : List OpX) (e : Ending) (w' : World) : Prop := e = .returned (.slice (some ⟨g, 0, none⟩) zs.length cap) ∧ OwnAt w' g zs ∧ Below base w w'
set_option maxRecDepth 100000 in
set_option maxHeartbeats 8000000 in
theorem delOps_any (p : OpX → Bool) (gf : Nat) (lb : Array Value) (eg : ∀ args w, (callFunc gf args).run Tryz.prog w = .ok (.enter gf args) w) (g cap base : Nat) (ys : List OpX) (w : World) (hbg : base ≤ g) (hbw : base ≤ w.heap.size) (hgw : g < w.heap.size) (hp : PredB gf lb ys p base w) (hn : ys.length ≤ 1000) (hc1 : ys.length ≤ cap) (hc2 : cap ≤ maxLen) (hO : OwnAt w g ys) :
    Calls Tryz.prog 93 #[.slice (some ⟨g, 0, none⟩) ys.length cap, .func (.func gf) #[] lb] w (DelOut w g cap base (ys.filter (fun x => !p x))) := by
  have hidx := idxOps_any p gf lb eg (some ⟨g, 0, none⟩) cap ys w (hp.toO hbw) (by omega) hO.ops
  have H : Aside (PredB gf lb ys p base w ∧ OwnAt w g ys ∧ base ≤ g ∧ base ≤ w.heap.size ∧ g < w.heap.size) := ⟨hp, hO, hbg, hbw, hgw⟩
  clear hp hO hbg hbw hgw
  have hc63 : (cap : Int) ≤ 9223372036854775807 := by simp only [maxLen] at hc2; omega
  clear hc2
  go_enter Tryz.func93, Tryz.ntmps93
  go_wp2_with fail
  refine hidx.mono ?_
  clear hidx
  rintro e w1 ⟨r, rfl, HR⟩
  rcases HR.out.1 with ⟨hr, ha⟩ | ⟨k, x, hr, hx, hpx, hfst⟩
  · subst hr
    have HF : Aside (ys.filter (fun x => !p x) = ys) := List.filter_eq_self.2 (fun a h => by rw [ha a h]; rfl)
    clear ha
    go_wp2
    go_ret
    unfold DelOut
    rw [HF.out]
    exact ⟨rfl, H.out.2.1.same (HR.out.2.block g H.out.2.2.2.2), HR.out.2.mono H.out.2.2.2.1⟩
  · have hkl : k < ys.length := (List.getElem?_eq_some_iff.1 hx).1
    have d0 : decide (((k : Nat) : Int) = -1) = false := by simp
    have H1 : Aside (DelSt p ys k (k + 1) ys ∧ OwnAt w1 g ys ∧ Below base w w1) := ⟨DelSt.start hx hpx hfst, H.out.2.1.same (HR.out.2.block g H.out.2.2.2.2), HR.out.2.mono H.out.2.2.2.1⟩
    subst hr
    clear hx hpx hfst HR
    go_wp2
    go_loopg [5, 6] ys.length (fun kx s5 s6 wr => ∃ (i j : Nat) (cs : List OpX), s5 = .int .i64 (i : Int) ∧ s6 = .int .i64 (j : Int) ∧ ys.length - j ≤ kx ∧ Aside (DelSt p ys i j cs ∧ OwnAt wr g cs ∧ Below base w wr))
    case atStart => exact ⟨k, k + 1, ys, rfl, by simp, by omega, H1.out⟩
    case round =>
      obtain ⟨i, j, cs, rfl, rfl, hkx, A⟩ := hrel
      have hij := A.out.1.lt
      have hjl := A.out.1.le
      have hcl := A.out.1.len
      by_cases hlt : j < ys.length
      · have hltz : decide ((j : Int) < (ys.length : Int)) = true := by simp; omega
        have hgw : g < wr.heap.size := Nat.lt_of_lt_of_le H.out.2.2.2.2 A.out.2.2.size
        have hbr := A.out.2.2.size
        have hbw := H.out.2.2.2.1
        have ej : ((j : Int)).toNat = j := by omega
        have pj : (0 : Int) ≤ (j : Int) := by omega
        have bj : (j : Int) < (ys.length : Int) := by omega
        obtain ⟨⟨t, b, m, kd, nd, o, s, u⟩, hl⟩ : ∃ l, Aside (ys[j]? = some l) := ⟨ys[j], List.getElem?_eq_getElem hlt⟩
        obtain ⟨r0, r1, r2, r3, r4, r5, r6, r7, -, -, -, -, -, -, -, -⟩ := A.out.2.1.eight (A.out.1.get hl.out)
        dsimp only at r0 r1 r2 r3 r4 r5 r6 r7
        have hbW : Below wr.heap.size wr (wr.alloc (.cells #[.int .i64 t, .int .i64 b, .int .i64 m, .int .u8 (kd : Int), .int .i64 nd, .int .i64 o, .string s, .string u] 31)) := (Below.refl _ wr).alloc (Nat.le_refl _) _
        have hBW : Below base w (wr.alloc (.cells #[.int .i64 t, .int .i64 b, .int .i64 m, .int .u8 (kd : Int), .int .i64 nd, .int .i64 o, .string s, .string u] 31)) := A.out.2.2.trans (hbW.mono (by omega))
        have hcall := H.out.1 _ (t, b, m, kd, nd, o, s, u) (List.mem_of_getElem? hl.out) hBW
        have HW : Aside (OpBlk (wr.alloc (.cells #[.int .i64 t, .int .i64 b, .int .i64 m, .int .u8 (kd : Int), .int .i64 nd, .int .i64 o, .string s, .string u] 31)) wr.heap.size (t, b, m, kd, nd, o, s, u) ∧ OwnAt (wr.alloc (.cells #[.int .i64 t, .int .i64 b, .int .i64 m, .int .u8 (kd : Int), .int .i64 nd, .int .i64 o, .string s, .string u] 31)) g cs ∧ Below base w (wr.alloc (.cells #[.int .i64 t, .int .i64 b, .int .i64 m, .int .u8 (kd : Int), .int .i64 nd, .int .i64 o, .string s, .string u] 31)) ∧ g < wr.heap.size) := ⟨OpBlk.new wr (t, b, m, kd, nd, o, s, u), A.out.2.1.same (hbW.block g hgw), hBW, hgw⟩
        clear hbW hBW
        unfold encO at hcall
        dsimp only at hcall
        cases hq : p (t, b, m, kd, nd, o, s, u) with
        | true =>
          rw [hq] at hcall
          have HQ := Lib.hid hq
          clear hq
          go_wp2_with (go_at_fn gf; refine hcall.mono ?_; rintro e w' ⟨rfl, hb'⟩)
          go_roundg (ys.length - (j + 1))
          case measure => omega
          case rel =>
            have hsz : (wr.alloc (.cells #[.int .i64 t, .int .i64 b, .int .i64 m, .int .u8 (kd : Int), .int .i64 nd, .int .i64 o, .string s, .string u] 31)).heap.size = wr.heap.size + 1 := by simp
            exact ⟨i, j + 1, cs, rfl, by go_num, Nat.le_refl _, ⟨A.out.1.skip hl.out HQ.out, HW.out.2.1.same (hb'.block g (by omega)), HW.out.2.2.1.trans (hb'.mono (by omega))⟩⟩
        | false =>
          rw [hq] at hcall
          have HQ := Lib.hid hq
          clear hq
          have ei : ((i : Int)).toNat = i := by omega
          have pi : (0 : Int) ≤ (i : Int) := by omega
          have bi : (i : Int) < (ys.length : Int) := by omega
          obtain ⟨z, hz⟩ : ∃ z, Aside (cs[i]? = some z) := ⟨cs[i], List.getElem?_eq_getElem (by omega)⟩
          go_wp2_with (go_at_fn gf; refine hcall.mono ?_; rintro e w' ⟨rfl, hb'⟩; obtain ⟨q0, q1, q2, q3, q4, q5, q6, q7, -⟩ := (HW.out.1.later hb').cells; dsimp only at q0 q1 q2 q3 q4 q5 q6 q7; obtain ⟨y0, y1, y2, y3, y4, y5, y6, y7, f0, f1, f2, f3, f4, f5, f6, f7⟩ := (HW.out.2.1.same (hb'.block g (by rw [World.size_alloc]; omega))).eight hz.out)
          have hsz : (wr.alloc (.cells #[.int .i64 t, .int .i64 b, .int .i64 m, .int .u8 (kd : Int), .int .i64 nd, .int .i64 o, .string s, .string u] 31)).heap.size = wr.heap.size + 1 := by simp
          have HE : Aside (OwnAt w' g cs ∧ Below base w w') := ⟨HW.out.2.1.same (hb'.block g (by omega)), HW.out.2.2.1.trans (hb'.mono (by omega))⟩
          clear hsz hb' q0 q1 q2 q3 q4 q5 q6 q7 y0 y1 y2 y3 y4 y5 y6 y7 f0 f1 f2 f3 f4 f5 f6 f7 r0 r1 r2 r3 r4 r5 r6 r7 hcall
          go_roundg (ys.length - (j + 1))
          case measure => omega
          case rel =>
            rw [set8 w' g (i * 8) t b m kd nd o s u]
            refine ⟨i + 1, j + 1, cs.set i (t, b, m, kd, nd, o, s, u), ?_, ?_, Nat.le_refl _, ?_⟩
            · go_num
            · go_num
            · exact ⟨A.out.1.keep hl.out HQ.out, HE.out.1.set (by omega) (t, b, m, kd, nd, o, s, u), HE.out.2.trans ((setCells_keeps g (encX (t, b, m, kd, nd, o, s, u)) (i * 8) w').below (Nat.le_trans H.out.2.2.2.1 HE.out.2.size) (fun k e => by have := H.out.2.2.1; omega))⟩
      · have hltz : decide ((j : Int) < (ys.length : Int)) = false := by simp; omega
        have hltn : decide (j < ys.length) = false := by simp; omega
        have hgw : g < wr.heap.size := Nat.lt_of_lt_of_le H.out.2.2.2.2 A.out.2.2.size
        have ei : ((i : Int)).toNat = i := by omega
        have pi : (0 : Int) ≤ (i : Int) := by omega
        have bi : (i : Int) ≤ (ys.length : Int) := by omega
        have bi2 : (i : Int) ≤ (cap : Int) := by omega
        have bl : (ys.length : Int) ≤ (cap : Int) := by omega
        have hclear : ∀ ty, (Builtin.clear_ #[36] ty #[.slice (some ⟨g, i * 8, none⟩) (ys.length - i) (cap - i)]).run Tryz.prog wr = .ok (.tuple #[]) (wr.setCells g (i * 8) (zeroRow (ys.length - i))) := fun ty => run_clear_cells (P := Tryz.prog) wr 36 31 ty _ Tryz.underlying36 Tryz.zeroValue31 g (i * 8) (ys.length - i) (cap - i) (by omega) (zero_one _) (fun q hq => A.out.2.1.has (by rw [zero_size] at hq; omega)) (fun q hq => A.out.2.1.free _ (by rw [zero_size] at hq; omega))
        go_wp2
        go_ret
        have st := A.out.1.stay
        have ejl : j = ys.length := by omega
        rw [ejl, List.take_length] at st
        have hil : (cs.take i).length = i := by rw [List.length_take]; omega
        unfold DelOut
        rw [← st, hil]
        exact ⟨rfl, A.out.2.1.take (by omega) _, A.out.2.2.trans ((setCells_keeps g (zeroRow (ys.length - i)) (i * 8) wr).below (Nat.le_trans H.out.2.2.2.1 A.out.2.2.size) (fun k e => by have := H.out.2.2.1; omega))⟩
end Go.Proofs.YtcggmagdndhkbaaGreatDoor
end
