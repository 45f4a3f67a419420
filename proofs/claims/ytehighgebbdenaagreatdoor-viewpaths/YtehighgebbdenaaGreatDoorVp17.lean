import Derived.Test.YtehighgebbdenaaGreatDoorVp12
import Derived.Test.YtehighgebbdenaaGreatDoorVp13
section
set_option linter.unusedSimpArgs false
set_option linter.unusedVariables false
namespace Go.Proofs.YtehighgebbdenaaGreatDoor
open Go.RowKit Go.Maps
open scoped Classical
theorem find_at (w : World) (base bt bm n : Nat) (v : Value) (ms : List Mov) (L : List Ent) (s : Int × Int) (hT : TreeCell w bt bm v) (hL : LogTo ms ms.length L) (hR : w.ownsRow base 284 8 v ms.length (flat encE L)) (hby : ByStamp ms) (hlen : ms.length ≤ 1000) (_hM : MapAt Tryz.prog 3 w bm n (madeBy ms)) :
    Calls Tryz.prog 187 #[.pointer (some ⟨bt, 0, none⟩), .agg #[.int .i64 s.1, .int .i64 s.2]] w fun e w' => (∃ (i : Nat) (b : Bool), e = .returned (.tuple #[.int .i64 (i : Int), .bool b]) ∧ Found ms s i b) ∧ Below w.heap.size w w' := by
  have hll := hL.len
  rcases hR.2 with ⟨hv, h0⟩ | ⟨g, cap, cur, hv, _, hg, hnc, _⟩
  · have hL0 : L = [] := List.length_eq_zero_iff.1 (by omega)
    subst hv
    exact find_any w bt bt 0 none L ms s hL.movs hby (by omega) (by rw [hll, h0]; exact hT.c1) (.inl hL0) hT.lt (fun j u hj => by rw [hL0] at hj; simp [flat] at hj)
  · subst hv
    exact find_any w bt g cap (some ⟨g, 0, none⟩) L ms s hL.movs hby (by omega) (by rw [hll]; exact hT.c1) (.inr rfl) (Array.getElem?_eq_some_iff.1 hg).1 (row_at hR)
set_option maxRecDepth 100000 in
set_option maxHeartbeats 1000000 in
theorem apply_core (hU : UndoOk) {ad : Nat → Addr} (w : World) (base bt bm : Nat) (v : Value) (ms : List Mov) (t b n node other : Int) (name value : ByteArray) (hE : Op4 ad w) (hT : TreeAt base w bt bm v ms) (hbase : base ≤ w.heap.size) (hlen : ms.length ≤ 140)
    (hsn : name.size ≤ 1000000) (hsv : value.size ≤ 1000000) (hop : opE t b n 109 node other name.data.toList value.data.toList = 0) (hnew : ∀ m ∈ ms, m.1 ≠ (t, b)) :
    Calls Tryz.prog 125 #[.pointer (some ⟨bt, 0, none⟩), .agg #[.int .i64 t, .int .i64 b, .int .i64 n, .int .u8 109, .int .i64 node, .int .i64 other, .string name, .string value]] w fun e w' => e = .returned .nilIface ∧ ∃ v' ms', TreeAt base w' bt bm v' ms' ∧ ms'.Perm (((t, b), (node, other, name)) :: ms) ∧ Keeps (fun k => k = bt ∨ k = bm ∨ some k = v.ownBlock) w w' ∧ (v'.ownBlock = v.ownBlock ∨ ∀ g, v'.ownBlock = some g → w.heap.size ≤ g) := by
  have hbx : ∀ o, Below w.heap.size w (w.alloc o) := fun o => (Below.refl _ w).alloc (Nat.le_refl _) o
  obtain ⟨w1, hw1⟩ : ∃ w1, w1 = w.alloc (.cells #[.int .i64 t, .int .i64 b, .int .i64 n, .int .u8 109, .int .i64 node, .int .i64 other, .string name, .string value] 38) := ⟨_, rfl⟩
  have O1 : OpAt w1 w.heap.size t b n 109 node other name value := by rw [hw1]; exact OpAt.new w t b n 109 node other name value 38
  have B1 : Below w.heap.size w w1 := by rw [hw1]; exact hbx _
  have hck := opcheck_any t b n 109 node other name value w1 (hE.later B1) hsn hsv
  rw [hop] at hck
  have e0 : eV ad 0 = .nilIface := rfl
  rw [e0] at hck
  have s1 : w1.heap.size = w.heap.size + 1 := by rw [hw1]; simp
  have H1 : Aside (OpAt w1 w.heap.size t b n 109 node other name value ∧ TreeAt base w1 bt bm v ms ∧ Below w.heap.size w w1) := ⟨O1, hT.later B1, B1⟩
  have HT : Aside (TreeAt base w bt bm v ms) := hT
  clear hT B1 hE hbx e0
  go_enter Tryz.func125, Tryz.ntmps125
  go_wp2_with fail
  rw [← hw1]
  clear hw1 O1
  refine hck.mono ?_
  clear hck
  rintro e w2 ⟨rfl, hb2⟩
  have H2 : Aside (OpAt w2 w.heap.size t b n 109 node other name value ∧ TreeAt base w2 bt bm v ms ∧ Below w.heap.size w w2 ∧ w.heap.size + 1 ≤ w2.heap.size) := ⟨H1.out.1.later hb2, H1.out.2.1.later hb2, H1.out.2.2.trans (hb2.mono H1.out.2.2.size), by have := hb2.size; omega⟩
  clear hb2 H1
  obtain ⟨c0, c1, c2, c3, c4, c5, c6, c7⟩ := H2.out.1
  have c3 : w2.cell? ⟨w.heap.size, 3, none⟩ = some (.int .u8 109) := c3
  go_wp2_with fail
  obtain ⟨L, hL, hR⟩ := H2.out.2.1.row
  obtain ⟨nn, hnn, hM⟩ := H2.out.2.1.map
  refine (find_at w2 base bt bm nn v ms L (t, b) H2.out.2.1.cell hL hR H2.out.2.1.by_ (by omega) hM).mono ?_
  rintro e w3 ⟨⟨i, bo, rfl, hF⟩, hb3⟩
  obtain ⟨rfl, hil, hF1, hF2⟩ := found_new hF hnew
  have H3 : Aside (OpAt w3 w.heap.size t b n 109 node other name value ∧ TreeAt base w3 bt bm v ms ∧ Below w.heap.size w w3 ∧ w.heap.size + 1 ≤ w3.heap.size ∧ (∀ x ∈ ms.take i, SLt x.1 (t, b)) ∧ (∀ x ∈ ms.drop i, SLt (t, b) x.1)) := ⟨H2.out.1.later hb3, H2.out.2.1.later hb3, H2.out.2.2.1.trans (hb3.mono H2.out.2.2.1.size), by have := H2.out.2.2.2; have := hb3.size; omega, hF1, hF2⟩
  clear hb3 H2 hF hF1 hF2 c0 c1 c2 c3 c4 c5 c6 c7 hM hR hL hnn
  clear L nn
  go_wp2_with fail
  obtain ⟨L, hL, hR⟩ := H3.out.2.1.row
  obtain ⟨nn, hnn, hM⟩ := H3.out.2.1.map
  refine (hU w3 base bt bm nn i v ms L H3.out.2.1.cell hL hR hM H3.out.2.1.fine hil (by omega) (by omega)).mono ?_
  rintro e w4 ⟨⟨u, rfl⟩, hM4, hk4⟩
  have hsz4 := hk4.size
  have htl := H3.out.2.1.lt
  have htm := H3.out.2.1.cell.ne_map hM
  have hbxm : w.heap.size ≠ bm := by
    intro e
    obtain ⟨es, ck, hb⟩ := hM.block
    have := H3.out.1.c0
    rw [e] at this
    simp [World.cell?, hb] at this
  have hT4 : TreeCell w4 bt bm v := (hk4.block bt htl.1 htm).trans H3.out.2.1.cell
  have hR4 : w4.ownsRow base 284 8 v ms.length (flat encE L) := owns_same hR (fun g hg => hk4.block g (htl.2.2 g hg) (by
    rcases hR.2 with ⟨hv, _⟩ | ⟨g', cap', cur, hv, _⟩
    · rw [hv] at hg; cases hg
    · subst hv; cases hg; exact row_ne_map hR hM))
  have hbB : w.heap.size < w3.heap.size := by have := H3.out.2.2.2.1; omega
  have hB4 : w4.heap[w.heap.size]? = w3.heap[w.heap.size]? := hk4.block _ hbB hbxm
  have O4 : OpAt w4 w.heap.size t b n 109 node other name value := by
    have h := fun o => World.cell?_of_block (a := ⟨w.heap.size, o, none⟩) hB4
    exact ⟨(h 0).trans H3.out.1.c0, (h 1).trans H3.out.1.c1, (h 2).trans H3.out.1.c2, (h 3).trans H3.out.1.c3, (h 4).trans H3.out.1.c4, (h 5).trans H3.out.1.c5, (h 6).trans H3.out.1.c6, (h 7).trans H3.out.1.c7⟩
  have hK4 : Keeps (fun k => k = bt ∨ k = bm ∨ some k = v.ownBlock) w w4 := ((keeps_of_below H3.out.2.2.1).mono (fun k hk e => by omega)).then hk4 (fun k _ e => .inr (.inl e))
  obtain ⟨c0, c1, c2, c3, c4, c5, c6, c7⟩ := O4
  have c3 : w4.cell? ⟨w.heap.size, 3, none⟩ = some (.int .u8 109) := c3
  have t1 := hT4.c1
  have z1 := hT4.fz 1
  go_wp2_with fail
  obtain ⟨B, hB⟩ : ∃ B, B = w.heap.size := ⟨_, rfl⟩
  rw [← hB] at c0 c1 c2 c3 c4 c5 c6 c7 hbB hbxm ⊢
  have HB : Aside (B = w.heap.size) := hB
  clear hB
  have hbtg : ∀ g, v.ownBlock = some g → g ≠ bt ∧ g ≠ bm ∧ g < w4.heap.size := fun g hg => by
    rcases hR4.2 with ⟨hv, _⟩ | ⟨g', cap', cur, hv, _⟩
    · rw [hv] at hg; cases hg
    · subst hv; cases hg; exact ⟨row_ne_tree hR4 hT4, row_ne_map hR4 hM4, (hR4.lt _ rfl).2⟩
  have hxw : ∀ X : World, X = (w4.alloc (.cells #[.int .i64 t, .int .i64 b, .int .i64 node, .int .i64 other, .string name, .int .i64 0, .int .i64 0, .string ⟨#[]⟩] 284)).drew → Calls Tryz.prog 189 #[v, .int .i64 (i : Int), .slice (some ⟨w4.heap.size, 0, none⟩) 1 1] X
      fun e w' => ∃ g' cap', e = .returned (.slice (some ⟨g', 0, none⟩) (ms.length + 1) cap') ∧ Aside (w'.ownsRow base 284 8 (.slice (some ⟨g', 0, none⟩) (ms.length + 1) cap') (ms.length + 1) (flat encE (layIn L i (((t, b), (node, other, name)), zeroP))) ∧ Keeps (fun k => some k = v.ownBlock) w4 w' ∧ (some g' = v.ownBlock ∨ w4.heap.size ≤ g')) ∧ w'.cell? ⟨bt, 1, none⟩ = some v ∧ w'.frozen? ⟨bt, 1, none⟩ = false ∧ (w'.cell? ⟨B, 0, none⟩ = some (.int .i64 t) ∧ w'.cell? ⟨B, 1, none⟩ = some (.int .i64 b) ∧ w'.cell? ⟨B, 4, none⟩ = some (.int .i64 node) ∧ w'.cell? ⟨B, 5, none⟩ = some (.int .i64 other) ∧ w'.cell? ⟨B, 6, none⟩ = some (.string name) ∧ w'.cell? ⟨bt, 1, none⟩ = some v) := by
    rintro X rfl
    obtain ⟨Y, hY⟩ : ∃ Y, Y = (w4.alloc (.cells #[.int .i64 t, .int .i64 b, .int .i64 node, .int .i64 other, .string name, .int .i64 0, .int .i64 0, .string ⟨#[]⟩] 284)).drew := ⟨_, rfl⟩
    have hnb : Y.heap[w4.heap.size]? = some (.cells #[.int .i64 t, .int .i64 b, .int .i64 node, .int .i64 other, .string name, .int .i64 0, .int .i64 0, .string ⟨#[]⟩] 284 (0, 0)) := by rw [hY]; exact heap_alloc_new w4 _
    have hYk : Keeps (fun _ => False) w4 Y := by rw [hY]; exact ((Keeps.refl _ w4).alloc _).drew
    have hYs : Y.heap.size = w4.heap.size + 1 := by rw [hY]; simp
    have hRY := owns_same (w' := Y) hR4 (fun g hg => hYk.block g (hbtg g hg).2.2 (fun e => e))
    rw [← hY]
    refine (layEnt_any Y base ms.length i v (flat encE L) (encE (((t, b), (node, other, name)), zeroP)) hRY (by omega) w4.heap.size rfl (fun j u hj => ?_) (encE_one _) (flat_one encE_one L) (fun e => by have := (hbtg _ e.symm).2.2; omega) ?_ (fun j => ?_) (by have := hK4.size; omega) hil).mono ?_
    · simp only [World.cell?, hnb]
      rw [← hj]
      simp [encE, zeroP]
    · simp [World.shape?, hnb]
    · simp [World.frozen?, hnb]
    · rintro e w' ⟨v', rfl, ho, hk, hv'⟩
      obtain ⟨g', cap', rfl⟩ := ownsRow_succ ho
      have hkk : Keeps (fun k => some k = v.ownBlock) w4 w' := (hYk.mono (fun _ _ e => e.elim)).trans hk
      have hTb := hkk.block bt (by omega) (fun e => (hbtg bt e.symm).1 rfl)
      have hT5 : TreeCell w' bt bm v := hTb.trans hT4
      rw [← flat_lay encE_len L i (by rw [hL.len]; exact hil)] at ho
      have hBb := hkk.block B (by omega) (fun e => by have := HT.out.lt.2.2 B e.symm; have := HB.out; omega)
      have hBc := fun o => World.cell?_of_block (a := ⟨B, o, none⟩) hBb
      refine ⟨g', cap', rfl, ⟨ho, hkk, ?_⟩, hT5.c1, hT5.fz 1, (hBc 0).trans c0, (hBc 1).trans c1, (hBc 4).trans c4, (hBc 5).trans c5, (hBc 6).trans c6, hT5.c1⟩
      rcases hv' with e | e
      · exact .inl e
      · right
        have : g' = Y.heap.size := by simpa [Value.ownBlock] using e
        omega
  have t1a : ∀ o, (w4.alloc o).cell? ⟨bt, 1, none⟩ = some v := fun o => (World.cell?_of_block (a := ⟨bt, 1, none⟩) (Below.heap_alloc w4 o bt hT4.lt)).trans t1
  have hbtB : bt ≠ B := by have := HT.out.lt.1; have := HB.out; omega
  have hBbt : B ≠ bt := fun e => hbtB e.symm
  have hBl : B < w4.heap.size := by omega
  have hBn : B ≠ w4.heap.size := by omega
  have hBm : w4.heap.size ≠ B := by omega
  have htn : bt ≠ w4.heap.size := by have := hT4.lt; omega
  have htn' : w4.heap.size ≠ bt := by have := hT4.lt; omega
  refine wp_region_Z (S := (fun w' => w'.cell? ⟨B, 0, none⟩ = some (.int .i64 t) ∧ w'.cell? ⟨B, 1, none⟩ = some (.int .i64 b) ∧ w'.cell? ⟨B, 4, none⟩ = some (.int .i64 node) ∧ w'.cell? ⟨B, 5, none⟩ = some (.int .i64 other) ∧ w'.cell? ⟨B, 6, none⟩ = some (.string name) ∧ w'.cell? ⟨bt, 1, none⟩ = some v)) (z := 20) (by kernel_rfl) ⟨c0, c1, c4, c5, c6, t1⟩ (fun hHeld => ?_)
  refine wpAnyZ_free (i := 0) (v := ?v0) (by decide) rfl (by kernel_rfl) (by kernel_rfl) (by kernel_rfl) (fun _ _ _ h => h) (Or.inl ⟨by rfl, ?hy0⟩) hHeld ?rest0
  case hy0 => (intro w' _; go_simp; try with_reducible rfl)
  simp only [Act.put, List.setIfInBounds_toArray, List.set_cons_zero, List.set_cons_succ]
  refine wpAnyZ_free (i := 1) (v := ?v1) (by decide) rfl (by kernel_rfl) (by kernel_rfl) (by kernel_rfl) (fun _ _ _ h => h) (Or.inl ⟨by rfl, ?hy1⟩) hHeld ?rest1
  case hy1 => (intro w' _; go_simp; try with_reducible rfl)
  simp only [Act.put, List.setIfInBounds_toArray, List.set_cons_zero, List.set_cons_succ]
  refine wpAnyZ_free (i := 2) (v := ?v2) (by decide) rfl (by kernel_rfl) (by kernel_rfl) (by kernel_rfl) (fun _ _ _ h => h) (Or.inl ⟨by rfl, ?hy2⟩) hHeld ?rest2
  case hy2 => (intro w' _; go_simp; try with_reducible rfl)
  simp only [Act.put, List.setIfInBounds_toArray, List.set_cons_zero, List.set_cons_succ]
  refine wpAnyZ_free (i := 3) (v := ?v3) (by decide) rfl (by kernel_rfl) (by kernel_rfl) (by kernel_rfl) (fun _ _ _ h => h) (Or.inl ⟨by rfl, ?hy3⟩) hHeld ?rest3
  case hy3 => (intro w' _; go_simp; try with_reducible rfl)
  simp only [Act.put, List.setIfInBounds_toArray, List.set_cons_zero, List.set_cons_succ]
  refine wpAnyZ_take (i := 4) (v := ?v4) (by decide) (by kernel_rfl) rfl (by kernel_rfl) (by kernel_rfl) (by kernel_rfl) (by kernel_rfl) (fun _ _ _ h => h) (Or.inl ⟨by rfl, ?hy4⟩) hHeld ?rest4
  case hy4 => (intro w' hSw; obtain ⟨k0, k1, k4, k5, k6, k7⟩ := hSw; go_simp; try with_reducible rfl)
  simp only [Act.put, List.setIfInBounds_toArray, List.set_cons_zero, List.set_cons_succ]
  refine wpAnyZ_free (i := 5) (v := ?v5) (by decide) rfl (by kernel_rfl) (by kernel_rfl) (by kernel_rfl) (fun _ _ _ h => h) (Or.inl ⟨by rfl, ?hy5⟩) hHeld ?rest5
  case hy5 => (intro w' _; go_simp; try with_reducible rfl)
  simp only [Act.put, List.setIfInBounds_toArray, List.set_cons_zero, List.set_cons_succ]
  refine wpAnyZ_free (i := 6) (v := ?v6) (by decide) rfl (by kernel_rfl) (by kernel_rfl) (by kernel_rfl) (fun _ _ _ h => h) (Or.inl ⟨by rfl, ?hy6⟩) hHeld ?rest6
  case hy6 => (intro w' _; go_simp; try with_reducible rfl)
  simp only [Act.put, List.setIfInBounds_toArray, List.set_cons_zero, List.set_cons_succ]
  refine wpAnyZ_take (i := 7) (v := ?v7) (by decide) (by kernel_rfl) rfl (by kernel_rfl) (by kernel_rfl) (by kernel_rfl) (by kernel_rfl) (fun _ _ _ h => h) (Or.inl ⟨by rfl, ?hy7⟩) hHeld ?rest7
  case hy7 => (intro w' hSw; obtain ⟨k0, k1, k4, k5, k6, k7⟩ := hSw; go_simp; try with_reducible rfl)
  simp only [Act.put, List.setIfInBounds_toArray, List.set_cons_zero, List.set_cons_succ]
  refine wpAnyZ_free (i := 8) (v := ?v8) (by decide) rfl (by kernel_rfl) (by kernel_rfl) (by kernel_rfl) (fun _ _ _ h => h) (Or.inl ⟨by rfl, ?hy8⟩) hHeld ?rest8
  case hy8 => (intro w' _; go_simp; try with_reducible rfl)
  simp only [Act.put, List.setIfInBounds_toArray, List.set_cons_zero, List.set_cons_succ]
  refine wpAnyZ_take (i := 9) (v := ?v9) (by decide) (by kernel_rfl) rfl (by kernel_rfl) (by kernel_rfl) (by kernel_rfl) (by kernel_rfl) (fun _ _ _ h => h) (Or.inl ⟨by rfl, ?hy9⟩) hHeld ?rest9
  case hy9 => (intro w' hSw; obtain ⟨k0, k1, k4, k5, k6, k7⟩ := hSw; go_simp; try with_reducible rfl)
  simp only [Act.put, List.setIfInBounds_toArray, List.set_cons_zero, List.set_cons_succ]
  refine wpAnyZ_free (i := 10) (v := ?v10) (by decide) rfl (by kernel_rfl) (by kernel_rfl) (by kernel_rfl) (fun _ _ _ h => h) (Or.inl ⟨by rfl, ?hy10⟩) hHeld ?rest10
  case hy10 => (intro w' _; go_simp; try with_reducible rfl)
  simp only [Act.put, List.setIfInBounds_toArray, List.set_cons_zero, List.set_cons_succ]
  refine wpAnyZ_take (i := 11) (v := ?v11) (by decide) (by kernel_rfl) rfl (by kernel_rfl) (by kernel_rfl) (by kernel_rfl) (by kernel_rfl) (fun _ _ _ h => h) (Or.inl ⟨by rfl, ?hy11⟩) hHeld ?rest11
  case hy11 => (intro w' hSw; obtain ⟨k0, k1, k4, k5, k6, k7⟩ := hSw; go_simp; try with_reducible rfl)
  simp only [Act.put, List.setIfInBounds_toArray, List.set_cons_zero, List.set_cons_succ]
  refine wpAnyZ_free (i := 12) (v := ?v12) (by decide) rfl (by kernel_rfl) (by kernel_rfl) (by kernel_rfl) (fun _ _ _ h => h) (Or.inl ⟨by rfl, ?hy12⟩) hHeld ?rest12
  case hy12 => (intro w' _; go_simp; try with_reducible rfl)
  simp only [Act.put, List.setIfInBounds_toArray, List.set_cons_zero, List.set_cons_succ]
  refine wpAnyZ_take (i := 13) (v := ?v13) (by decide) (by kernel_rfl) rfl (by kernel_rfl) (by kernel_rfl) (by kernel_rfl) (by kernel_rfl) (fun _ _ _ h => h) (Or.inl ⟨by rfl, ?hy13⟩) hHeld ?rest13
  case hy13 => (intro w' hSw; obtain ⟨k0, k1, k4, k5, k6, k7⟩ := hSw; go_simp; try with_reducible rfl)
  simp only [Act.put, List.setIfInBounds_toArray, List.set_cons_zero, List.set_cons_succ]
  refine wpAnyZ_free (i := 14) (v := ?v14) (by decide) rfl (by kernel_rfl) (by kernel_rfl) (by kernel_rfl) (fun _ _ _ h => h) (Or.inl ⟨by rfl, ?hy14⟩) hHeld ?rest14
  case hy14 => (intro w' _; go_simp; try with_reducible rfl)
  simp only [Act.put, List.setIfInBounds_toArray, List.set_cons_zero, List.set_cons_succ]
  refine wpAnyZ_free (i := 15) (v := ?v15) (by decide) rfl (by kernel_rfl) (by kernel_rfl) (by kernel_rfl) (fun _ _ _ h => h) (Or.inl ⟨by rfl, ?hy15⟩) hHeld ?rest15
  case hy15 => (intro w' _; go_simp; try with_reducible rfl)
  simp only [Act.put, List.setIfInBounds_toArray, List.set_cons_zero, List.set_cons_succ]
  refine wpAnyZ_one (i := 16) (by kernel_rfl) rfl (fun K hK => ?_)
  go_simp
  refine hK _ _ (.inl ?s16) ?n16
  case s16 =>
    have hbl := fun o => World.cell?_of_block (a := ⟨B, o, none⟩) (Below.heap_alloc w4 (.cells #[.int .i64 t, .int .i64 b, .int .i64 node, .int .i64 other, .string name, .int .i64 0, .int .i64 0, .string ⟨#[]⟩] 284) B hBl)
    exact ⟨(hbl 0).trans c0, (hbl 1).trans c1, (hbl 4).trans c4, (hbl 5).trans c5, (hbl 6).trans c6, t1a _⟩
  clear hK K hHeld
  refine wpAnyZ_one (i := 17) (by kernel_rfl) rfl (fun K hK => ?_)
  go_simp
  refine (hxw _ rfl).mono ?_
  rintro e w5 ⟨g', cap', rfl, H5, u1, u2, u3⟩
  refine hK _ _ (.inl u3) ?_
  clear hK K
  try simp only [Act.put, List.setIfInBounds_toArray, List.set_cons_zero, List.set_cons_succ]
  refine wpAnyZ_free (i := 18) (v := ?v18) (by decide) rfl (by kernel_rfl) (by kernel_rfl) (by kernel_rfl) (fun _ _ _ h => h) (Or.inl ⟨by rfl, ?hy18⟩) u3 ?rest18
  case hy18 => (intro w' _; go_simp; try with_reducible rfl)
  try simp only [Act.put, List.setIfInBounds_toArray, List.set_cons_zero, List.set_cons_succ]
  refine wpAnyZ_free (i := 19) (v := ?v19) (by decide) rfl (by kernel_rfl) (by kernel_rfl) (by kernel_rfl) (fun _ _ _ h => h) (Or.inl ⟨by rfl, ?hy19⟩) u3 ?rest19
  case hy19 => (intro w' _; go_simp; try with_reducible rfl)
  try simp only [Act.put, List.setIfInBounds_toArray, List.set_cons_zero, List.set_cons_succ]
  refine wpAnyZ_one (i := 20) (by kernel_rfl) rfl (fun K hK => ?_)
  go_simp
  refine hK _ _ (.inr ⟨rfl, by decide⟩) ?_
  clear hK K
  refine wpAnyZ_done (by kernel_rfl) ?_ _
  obtain ⟨w6, hw6⟩ : ∃ w6, w6 = w5.setCell ⟨bt, 1, none⟩ (.slice (some ⟨g', 0, none⟩) (ms.length + 1) cap') := ⟨_, rfl⟩
  rw [← hw6]
  have hk45 := H5.out.2.1
  have hT5 : TreeCell w5 bt bm v := (hk45.block bt hT4.lt (fun e => (hbtg bt e.symm).1 rfl)).trans hT4
  have hM5 := hM4.same (hk45.block bm hM4.lt (fun e => (hbtg bm e.symm).2.1 rfl))
  have hgbt := row_ne_tree H5.out.1 hT5
  have hgbm := row_ne_map H5.out.1 hM5
  have hk56 : Keeps (fun k => k = bt) w5 w6 := by rw [hw6]; exact setCells_keeps bt [_] 1 w5
  have hT6 : TreeCell w6 bt bm (.slice (some ⟨g', 0, none⟩) (ms.length + 1) cap') := by rw [hw6]; exact heap_setCell_same w5 bt 1 _ _ _ hT5
  have hM6 := hM5.same (hk56.block bm hM5.lt (fun e => htm e.symm))
  have hgl5 := (H5.out.1.lt g' rfl).2
  have hR6 := row_same H5.out.1 (hk56.block g' hgl5 hgbt)
  have hlen' : (insAt ms i ((t, b), (node, other, name))).length = ms.length + 1 := insAt_length _ _ _
  have hL6 := layIn_to (m := ((t, b), (node, other, name))) hL hil zeroP
  have hfine' : ∀ m ∈ insAt ms i ((t, b), (node, other, name)), FineP m.2 := fun m hm => by
    rcases List.mem_cons.1 ((insAt_perm ms i _).mem_iff.1 hm) with rfl | hm
    · exact move_fine hop
    · exact H3.out.2.1.fine m hm
  have hdo := do_any w6 bt bm base g' cap' i (nn + (ms.length - i)) (layIn L i (((t, b), (node, other, name)), zeroP)) (insAt ms i ((t, b), (node, other, name))) (by rw [hlen']; exact hT6) (by rw [hlen']; exact hR6) hL6 (by rw [insAt_take hil]; exact hM6) hfine' (by omega) (by omega) (by omega)
  have hKF : Aside (Keeps (fun k => k = bt ∨ k = bm ∨ some k = v.ownBlock) w w6 ∧ TreeCell w6 bt bm (.slice (some ⟨g', 0, none⟩) (ms.length + 1) cap') ∧ (some g' = v.ownBlock ∨ w.heap.size ≤ g') ∧ g' ≠ bt ∧ bm ≠ bt ∧ bt < w6.heap.size) :=
    ⟨(hK4.then hk45 (fun _ _ e => .inr (.inr e))).then hk56 (fun _ _ e => .inl e), hT6, H5.out.2.2.imp id (fun h => by have := hK4.size; omega), hgbt, fun e => htm e.symm, hT6.lt⟩
  have hHi : Aside (ByStamp (insAt ms i ((t, b), (node, other, name))) ∧ (∀ m ∈ insAt ms i ((t, b), (node, other, name)), FineP m.2)) := ⟨insAt_by H3.out.2.1.by_ H3.out.2.2.2.2.1 H3.out.2.2.2.2.2, hfine'⟩
  clear hw6 hk45 hT5 hM5 hgbt hgbm hk56 hT6 hM6 hgl5 hR6 hL6 H5 u1 u2 u3 hxw c0 c1 c2 c3 c4 c5 c6 c7 t1 z1 t1a hfine' hK4 hR4 hT4 hM4 hk4 hB4
  go_wp2_with fail
  refine hdo.mono ?_
  clear hdo
  rintro e w7 ⟨⟨u', rfl⟩, L', n', hL', hown', hM', hn', hk'⟩
  have FIN : Aside (∃ v' ms', TreeAt base w7 bt bm v' ms' ∧ ms'.Perm (((t, b), (node, other, name)) :: ms) ∧ Keeps (fun k => k = bt ∨ k = bm ∨ some k = v.ownBlock) w w7 ∧ (v'.ownBlock = v.ownBlock ∨ ∀ g, v'.ownBlock = some g → w.heap.size ≤ g)) := by
    have hgn := hKF.out.2.2.2.1
    refine ⟨.slice (some ⟨g', 0, none⟩) (ms.length + 1) cap', insAt ms i ((t, b), (node, other, name)), ⟨?_, ⟨L', hL', by rw [hlen'] at hown' ⊢; exact hown'⟩, ⟨n', by omega, hM'⟩, hHi.out.1, hHi.out.2⟩, insAt_perm _ _ _, ?_, ?_⟩
    · exact (hk'.block bt hKF.out.2.2.2.2.2 (fun e => e.elim (fun e => hKF.out.2.2.2.2.1 e.symm) (fun e => hgn e.symm))).trans hKF.out.2.1
    · refine hKF.out.1.then hk' (fun k hk e => ?_)
      rcases e with e | e
      · exact .inr (.inl e)
      · rcases hKF.out.2.2.1 with h | h
        · exact .inr (.inr (by rw [e]; exact h))
        · omega
    · rcases hKF.out.2.2.1 with h | h
      · exact .inl h
      · exact .inr (fun g hg => by cases hg; exact h)
  clear hL' hown' hM' hk' hKF hHi hn'
  go_wp2
  go_ret
  exact ⟨rfl, FIN.out⟩
end Go.Proofs.YtehighgebbdenaaGreatDoor
end
