/- Contract of package tree's log: undoFrom. -/
import Derived.Test.YtnfhbmgkiknaaaaDoorTreeFind
import Derived.Test.YtnfhbmgkiknaaaaDoorTreeInside
import Derived.Maps.OwnIn
import Derived.RangeFuncCalls
import Derived.Test.YtnfhbmgkiknaaaaDoorRoundZ
set_option linter.unusedSimpArgs false
set_option linter.unusedVariables false
namespace Go.Proofs.YtnfhbmgkiknaaaaDoor
open Go.RowKit Go.Shelf Go.Maps

attribute [local go_sem] Oper.semAt_some

theorem eqPl (p q : Plc) (w : World) : (Op.equalIn 10000 95 (.agg #[.int .i64 p.1, .int .i64 p.2.1, .string p.2.2]) (.agg #[.int .i64 q.1, .int .i64 q.2.1, .string q.2.2])).run Tryd.prog w = .ok (decide (p = q)) w := by
  obtain ⟨a, b, s⟩ := p
  obtain ⟨a', b', s'⟩ := q
  have hs : ∀ x y : ByteArray, x.toList = y.toList ↔ x = y := fun x y => ⟨fun h => by rw [ByteArray.toList_eq, ByteArray.toList_eq] at h; exact WideShapes.bytes_inj h, fun h => by rw [h]⟩
  go_simp
  by_cases h1 : a = a' <;> by_cases h2 : b = b' <;> by_cases h3 : s = s' <;> simp [h1, h2, h3]

/-- A world that is another one but for one block that is no cells, and for new ones. -/
theorem Keeps.grownFrom {S : Nat → Prop} {w X Y : World} {row : Option Nat} (h : Keeps S w X) (hg : X.grownBy Y row) (hr : ∀ r, row = some r → w.heap.size ≤ r) : Keeps S w Y :=
  h.then (keeps_of_grown hg) (fun i hi e => by have := hr i e.symm; omega)

set_option maxRecDepth 100000 in
set_option maxHeartbeats 2000000 in
theorem undo_core (w : World) (bt bm g off cap at_ len n : Nat) (ao bo : Option Addr) (L : List Ent) (F : Nat → Sta) (hat : at_ ≤ len) (hll : len - at_ = L.length) (hlen : len ≤ 1000) (hn : n ≤ 1000000) (hm0 : w.cell? ⟨bt, 0, none⟩ = some (.map (some bm))) (hsl : w.cell? ⟨bt, 1, none⟩ = some (.slice ao len cap))
    (hbo : (if cap = at_ then ao else Option.map (fun x => x.add (at_ * 8)) ao) = bo) (hao : L = [] ∨ bo = some ⟨g, off, none⟩) (hg : g < w.heap.size) (hgm : g ≠ bm) (hrow : RowAt w g off L) (hM : MapAt Tryd.prog 3 w bm n (F 0))
    (hF : ∀ r, r < L.length → undo (F r) (entR L r).1.2.1 (entR L r).2 = F (r + 1)) (hwf : ∀ r, Wf (entR L r).1.2.1) :
    Calls Tryd.prog 83 #[.pointer (some ⟨bt, 0, none⟩), .int .i64 (at_ : Int)] w fun e w' => (∃ v, e = .returned v) ∧ MapAt Tryd.prog 3 w' bm (n + L.length) (F L.length) ∧ Keeps (fun k => k = bm) w w' := by
  have hbt : bt < w.heap.size := block_lt_of_cell hsl
  have hbm : bm < w.heap.size := hM.lt
  have htm : bt ≠ bm := by
    intro e
    obtain ⟨es, ck, hb⟩ := hM.block
    rw [← e] at hb
    simp [World.cell?, hb] at hm0
  have hsl3 : ∀ o1, (w.alloc o1).cell? ⟨bt, 1, none⟩ = some (.slice ao len cap) := fun o1 =>
    (((Below.refl w.heap.size w).alloc (Nat.le_refl _) o1).cell (p := ⟨bt, 1, none⟩) hbt).trans hsl
  refine (callsIn_wide (n := 4)).1 ?_
  refine callsIn_of_wp_marks Tryd.func83 rfl trivial ?_ rfl
  simp only [Tryd.ntmps83, List.size_toArray, List.length_cons, List.length_nil, Nat.reduceAdd, Nat.reduceSub, Array.replicate_succ, Array.replicate_zero, List.push_toArray, List.append_toArray, List.nil_append, List.cons_append]
  gi_wp2_with (refine ⟨trivial, ?_⟩; gi_at_call 108; refine (back_in Fence.wide (4 - 1) trivial rfl _ _ _ _).mono ?_; rintro e w' ⟨rfl, rfl⟩)
  obtain ⟨w2, hw2⟩ : ∃ w2, w2 = (w.alloc (.cells #[.pointer (some ⟨bt, 0, none⟩)] 83)).alloc (.cells #[.slice bo L.length (cap - at_)] 129) := ⟨_, rfl⟩
  rw [← hw2]
  have hB0 : Below w.heap.size w w2 := by rw [hw2]; exact ((Below.refl w.heap.size w).alloc (Nat.le_refl _) _).alloc (by simp) _
  have hs2 : w2.heap.size = w.heap.size + 2 := by rw [hw2]; simp
  obtain ⟨B, hB⟩ : ∃ B, B = w.heap.size := ⟨_, rfl⟩
  have e1 : Boxed w2 B 83 (.pointer (some ⟨bt, 0, none⟩)) := by rw [hw2, hB]; exact (blk2 w _ _).1
  have e2 : Boxed w2 (B + 1) 129 (.slice bo L.length (cap - at_)) := by rw [hw2, hB]; exact (blk2 w _ _).2
  rw [← hB] at hB0 hs2 hg hbt hbm ⊢
  have HB : Aside (B = w.heap.size) := hB
  have hBw : B ≤ w.heap.size := by omega
  clear hB
  have hrow2 : RowAt w2 g off L := hrow.same (hB0.block g hg)
  have hM2 := hM.same (hB0.block bm hbm)
  have hk2 : Keeps (fun k => k = bm) w w2 := (keeps_of_below hB0).mono (fun k hk e => by have := HB.out; omega)
  clear hw2 hsl3 hrow hM hbo
  refine wpIn_rangeFunc_ownH rfl (by omega) (gf := 130) (lb := #[.pointer (some ⟨B + 1, 0, none⟩)]) rfl trivial (enters_of Tryd.func130 (by kernel_rfl) rfl)
    (back_stops Fence.wide (4 - 1) trivial rfl (by omega) (B + 1) g off (cap - at_) bo L (by omega) hao w2 (by omega) (by omega) e2.cell hrow2) KeepTwo.trans (fun W l o o' hl _ _ _ => KeepTwo.put (N := w2.heap.size) (by omega) (by omega) W l o' hl) (Below.refl _ _) (fun _ => rfl)
    (fun pre W => ((∃ f, MapAt Tryd.prog 3 W bm (n + pre.length) f ∧ (pre = List.range pre.length → f = F pre.length)) ∧ Boxed W B 83 (.pointer (some ⟨bt, 0, none⟩)) ∧ w2.heap.size ≤ W.heap.size) ∧ Keeps (fun k => k = bm) w W)
    (fun _ _ _ => False)
    (fun pre X Y row hs hg hr => by
      obtain ⟨⟨⟨f, q1, q2⟩, q3, q4⟩, q5⟩ := hs
      have hne : some bm ≠ row := fun e => by have := (hr bm e.symm).1; omega
      exact ⟨⟨⟨f, q1.same (hg.block bm q1.lt hne), q2⟩, kept_cells q3 hg (fun r e => (hr r e).2), Nat.le_trans q4 hg.size⟩, q5.grownFrom hg (fun r e => by have := (hr r e).1; have := HB.out; omega)⟩)
    (fun _ _ _ _ _ hs _ _ => hs)
    ⟨⟨⟨F 0, hM2, fun _ => rfl⟩, e1, Nat.le_refl _⟩, hk2⟩
    (fun x a' W => ∃ Bx, w2.heap.size ≤ Bx ∧ EntAt W Bx (entR L x) ∧ a' = { tmps := #[.pointer (some ⟨bt, 0, none⟩), .int .i64 (at_ : Int), .pointer (some ⟨B, 0, none⟩), undef, undef, .pointer (some ⟨Bx, 0, none⟩), .pointer (some ⟨bt, 0, none⟩), .pointer (some ⟨bt, 0, none⟩), .pointer (some ⟨bt, 1, none⟩), .slice ao len cap, .int .i64 (at_ : Int), .slice bo L.length (cap - at_), .func (.func 130) #[] #[.pointer (some ⟨B + 1, 0, none⟩)], .int .i64 ((L.length - 1 - x : Nat) : Int), .agg #[.int .i64 (entR L x).1.1.1, .int .i64 (entR L x).1.1.2, .int .i64 (entR L x).1.2.1, .int .i64 (entR L x).1.2.2.1, .string (entR L x).1.2.2.2, .int .i64 (entR L x).2.1, .int .i64 (entR L x).2.2.1, .string (entR L x).2.2.2], undef, undef, undef, undef, undef, undef, undef, undef, undef, undef, undef, undef, undef, undef, undef, undef, undef, undef, undef, undef], defers := [] })
    (fun x a' => Own.from (fun _ X Y row hs hg hr => by obtain ⟨Bx, f1, f2, f3⟩ := hs; exact ⟨Bx, f1, kept_cells f2 hg hr, f3⟩) _)
    ?assign ?body ?done ?stop
  case assign =>
    rintro l pre x W K ⟨⟨⟨f, hf, hfp⟩, hr1, hsz⟩, hkW⟩ hK
    have hK' : Aside _ := hK
    have hBs : B ≤ W.heap.size := by omega
    clear hK
    unfold encR
    gi_wp2
    refine hK'.out _ _ ((KeepsOthers.alloc _ _).from _) ⟨Below.heap_alloc _ _ _ (by omega), Below.heap_alloc _ _ _ (by omega)⟩ ⟨⟨⟨f, hf.same (Below.heap_alloc _ _ _ hf.lt), hfp⟩, hr1.alloc _, by simp; omega⟩, hkW.alloc _⟩ ⟨W.heap.size, by omega, heap_alloc_new W _, rfl⟩
  case body =>
    rintro l pre x a' W hl _ ⟨⟨⟨f, hf, hfp⟩, hr1, hsz⟩, hkW⟩ ⟨Bx, hBx, hE, rfl⟩ hlt
    have hwx := hwf x
    obtain ⟨y, hy⟩ : ∃ y, y = entR L x := ⟨_, rfl⟩
    rw [← hy] at hE hwx ⊢
    have hFx : x = pre.length → undo (F pre.length) y.1.2.1 y.2 = F (pre.length + 1) := fun e => by rw [hy, e]; exact hF pre.length hlt
    clear hF hwf hy
    obtain ⟨⟨⟨y1, y2⟩, y3, y4, y5⟩, y6, y7, y8⟩ := y
    dsimp only at hwx hFx ⊢
    have g1 := hr1.cell
    have f2 := hE.cell 2 (u := .int .i64 y3) rfl
    have f5 := hE.cell 5 (u := .int .i64 y6) rfl
    have f6 := hE.cell 6 (u := .int .i64 y7) rfl
    have f7 := hE.cell 7 (u := .string y8) rfl
    have htc : W.cell? ⟨bt, 0, none⟩ = some (.map (some bm)) := (hkW.cell (a := ⟨bt, 0, none⟩) (by show bt < _; omega) htm).trans hm0
    have fin : ∀ (w1 : World) (f' : Sta), W.drew.grownBy w1 (some bm) → MapAt Tryd.prog 3 w1 bm (n + pre.length + 1) f' → f' = undo f y3 (y6, y7, y8) →
        Aside (KeepsFrom w2.heap.size W w1 ∧ KeepTwo g (B + 1) W w1 ∧ ((∃ f, MapAt Tryd.prog 3 w1 bm (n + (pre ++ [x]).length) f ∧ (pre ++ [x] = List.range (pre ++ [x]).length → f = F (pre ++ [x]).length)) ∧ Boxed w1 B 83 (.pointer (some ⟨bt, 0, none⟩)) ∧ w2.heap.size ≤ w1.heap.size) ∧ Keeps (fun k => k = bm) w w1) := fun w1 f' hg1 hM1 hf1 => by
      have hg1' : W.grownBy w1 (some bm) := ⟨hg1.os, hg1.tape, hg1.output, hg1.size, hg1.block⟩
      have hsz1 := hg1'.size
      refine ⟨KeepsFrom.of_grownBy hg1' (fun j e => by cases e; omega), ⟨hg1'.block g (by omega) (by simpa using hgm), hg1'.block (B + 1) (by omega) (by simp; omega)⟩, ⟨⟨f', by rw [List.length_append, List.length_singleton, ← Nat.add_assoc]; exact hM1, fun hp => ?_⟩, hr1.kept hg1' (by simp; omega), by omega⟩, hkW.then (keeps_of_grown hg1') (fun i _ e => by simpa using e)⟩
      obtain ⟨hp1, hp2⟩ := range_snoc hp
      rw [hf1, hfp hp1, List.length_append, List.length_singleton, hFx hp2]
    have hBxm : Bx ≠ bm := by omega
    have hBxW : Bx < W.heap.size := (Array.getElem?_eq_some_iff.1 hE).1
    have cells1 : ∀ w1 : World, W.drew.grownBy w1 (some bm) → Aside (w1.cell? ⟨B, 0, none⟩ = some (.pointer (some ⟨bt, 0, none⟩)) ∧ w1.cell? ⟨bt, 0, none⟩ = some (.map (some bm)) ∧ w1.cell? ⟨Bx, 2, none⟩ = some (.int .i64 y3) ∧ w1.cell? ⟨Bx, 5, none⟩ = some (.int .i64 y6) ∧ w1.cell? ⟨Bx, 6, none⟩ = some (.int .i64 y7) ∧ w1.cell? ⟨Bx, 7, none⟩ = some (.string y8)) := fun w1 hg1 => by
      have hb : ∀ k, k < W.heap.size → k ≠ bm → ∀ o, w1.cell? ⟨k, o, none⟩ = W.cell? ⟨k, o, none⟩ := fun k hk hne o => World.cell?_of_block (a := ⟨k, o, none⟩) (hg1.block k hk (by simpa using hne))
      exact ⟨(hb B (by omega) (by omega) 0).trans g1, (hb bt (by omega) htm 0).trans htc, (hb Bx hBxW hBxm 2).trans f2, (hb Bx hBxW hBxm 5).trans f5, (hb Bx hBxW hBxm 6).trans f6, (hb Bx hBxW hBxm 7).trans f7⟩
    by_cases he : ((y6, y7, y8) : Plc) = zeroP
    · have hq : ∀ w', (Op.equalIn 10000 95 (.agg #[.int .i64 y6, .int .i64 y7, .string y8]) (.agg #[.int .i64 0, .int .i64 0, .string ⟨#[]⟩])).run Tryd.prog w' = .ok true w' := fun w' => by
        have := eqPl (y6, y7, y8) zeroP w'
        rw [decide_eq_true he] at this
        exact this
      obtain ⟨w1, hrun, hM1, ht1⟩ := (show MapAt Tryd.prog 3 W.drew bm (n + pre.length) f from hf).drop (T := 128) (E := 95) Tryd.underlying3 Tryd.underlying128 hwx 0
      have X1 := cells1 w1 ht1.grown
      have FIN := fin w1 (upd f y3 none) ht1.grown (hM1.mono (Nat.le_succ _)) (by rw [he]; unfold undo; rw [if_pos rfl])
      clear he fin hM1 ht1 hf hfp hkW hM2 hk2 hrow2 e1 e2 hB0 hE hr1 hao hsl hm0 hll hat hlen hn hsz hBx hl hs2 hbm hbt hg htm hgm hBw HB hwx hlt hFx cells1 hBxm hBxW
      gi_wp2
      refine region_in_round (S := (fun w' => w'.cell? ⟨B, 0, none⟩ = some (.pointer (some ⟨bt, 0, none⟩)) ∧ w'.cell? ⟨bt, 0, none⟩ = some (.map (some bm)) ∧ w'.cell? ⟨Bx, 2, none⟩ = some (.int .i64 y3))) (by kernel_rfl) (by kernel_rfl) (by rintro ⟨_, _, h⟩; exact h) ⟨g1, htc, f2⟩ (fun hHeld => ?_)
      refine wpAnyH_take (i := 0) (v := ?va0) rfl (by kernel_rfl) (by kernel_rfl) (by kernel_rfl) (fun _ _ _ h => h) (Or.inl ⟨by rfl, ?hya0⟩) hHeld ?resta0
      case hya0 => (intro w' hSw; obtain ⟨k0, k1, k2⟩ := hSw; go_simp; try with_reducible rfl)
      try simp only [Act.put, List.setIfInBounds_toArray, List.set_cons_zero, List.set_cons_succ]
      refine wpAnyH_take (i := 1) (v := ?va1) rfl (by kernel_rfl) (by kernel_rfl) (by kernel_rfl) (fun _ _ _ h => h) (Or.inl ⟨by rfl, ?hya1⟩) hHeld ?resta1
      case hya1 => (intro w' hSw; obtain ⟨k0, k1, k2⟩ := hSw; go_simp; try with_reducible rfl)
      try simp only [Act.put, List.setIfInBounds_toArray, List.set_cons_zero, List.set_cons_succ]
      refine wpAnyH_take (i := 2) (v := ?va2) rfl (by kernel_rfl) (by kernel_rfl) (by kernel_rfl) (fun _ _ _ h => h) (Or.inl ⟨by rfl, ?hya2⟩) hHeld ?resta2
      case hya2 => (intro w' hSw; obtain ⟨k0, k1, k2⟩ := hSw; go_simp; try with_reducible rfl)
      try simp only [Act.put, List.setIfInBounds_toArray, List.set_cons_zero, List.set_cons_succ]
      refine wpAnyH_take (i := 3) (v := ?va3) rfl (by kernel_rfl) (by kernel_rfl) (by kernel_rfl) (fun _ _ _ h => h) (Or.inl ⟨by rfl, ?hya3⟩) hHeld ?resta3
      case hya3 => (intro w' hSw; obtain ⟨k0, k1, k2⟩ := hSw; go_simp; try with_reducible rfl)
      try simp only [Act.put, List.setIfInBounds_toArray, List.set_cons_zero, List.set_cons_succ]
      refine wpAnyH_take (i := 4) (v := ?va4) rfl (by kernel_rfl) (by kernel_rfl) (by kernel_rfl) (fun _ _ _ h => h) (Or.inl ⟨by rfl, ?hya4⟩) hHeld ?resta4
      case hya4 => (intro w' hSw; obtain ⟨k0, k1, k2⟩ := hSw; go_simp; try with_reducible rfl)
      try simp only [Act.put, List.setIfInBounds_toArray, List.set_cons_zero, List.set_cons_succ]
      refine wpAnyH_take (i := 5) (v := ?va5) rfl (by kernel_rfl) (by kernel_rfl) (by kernel_rfl) (fun _ _ _ h => h) (Or.inl ⟨by rfl, ?hya5⟩) hHeld ?resta5
      case hya5 => (intro w' hSw; obtain ⟨k0, k1, k2⟩ := hSw; go_simp; try with_reducible rfl)
      try simp only [Act.put, List.setIfInBounds_toArray, List.set_cons_zero, List.set_cons_succ]
      refine wpAnyH_take (i := 6) (v := ?va6) rfl (by kernel_rfl) (by kernel_rfl) (by kernel_rfl) (fun _ _ _ h => h) (Or.inl ⟨by rfl, ?hya6⟩) hHeld ?resta6
      case hya6 => (intro w' hSw; obtain ⟨k0, k1, k2⟩ := hSw; go_simp; try with_reducible rfl)
      try simp only [Act.put, List.setIfInBounds_toArray, List.set_cons_zero, List.set_cons_succ]
      refine wpAnyH_one (i := 7) (by kernel_rfl) rfl (fun K hK => ?_)
      go_simp
      refine hK _ _ ⟨X1.out.1, X1.out.2.1, X1.out.2.2.1⟩ ?_
      clear hK K
      refine wpAnyH_done (by kernel_rfl) ?_ _
      exact FIN.out
    · have hq : ∀ w', (Op.equalIn 10000 95 (.agg #[.int .i64 y6, .int .i64 y7, .string y8]) (.agg #[.int .i64 0, .int .i64 0, .string ⟨#[]⟩])).run Tryd.prog w' = .ok false w' := fun w' => by
        have := eqPl (y6, y7, y8) zeroP w'
        rw [decide_eq_false he] at this
        exact this
      obtain ⟨w1, hrun, hM1, ht1⟩ := (show MapAt Tryd.prog 3 W.drew bm (n + pre.length) f from hf).store (T := 128) (E := 95) Tryd.underlying3 Tryd.underlying128 (by simp only [maxLen]; omega) hwx (y6, y7, y8)
      unfold encP at hrun
      dsimp only at hrun
      have X1 := cells1 w1 ht1.grown
      have FIN := fin w1 (upd f y3 (some (y6, y7, y8))) ht1.grown hM1 (by unfold undo; rw [if_neg he])
      clear he fin hM1 ht1 hf hfp hkW hM2 hk2 hrow2 e1 e2 hB0 hE hr1 hao hsl hm0 hll hat hlen hn hsz hBx hl hs2 hbm hbt hg htm hgm hBw HB hwx hlt hFx cells1 hBxm hBxW
      gi_wp2
      refine region_in_round (S := (fun w' => w'.cell? ⟨B, 0, none⟩ = some (.pointer (some ⟨bt, 0, none⟩)) ∧ w'.cell? ⟨bt, 0, none⟩ = some (.map (some bm)) ∧ w'.cell? ⟨Bx, 2, none⟩ = some (.int .i64 y3) ∧ w'.cell? ⟨Bx, 5, none⟩ = some (.int .i64 y6) ∧ w'.cell? ⟨Bx, 6, none⟩ = some (.int .i64 y7) ∧ w'.cell? ⟨Bx, 7, none⟩ = some (.string y8))) (by kernel_rfl) (by kernel_rfl) (by rintro ⟨_, _, h⟩; exact h) ⟨g1, htc, f2, f5, f6, f7⟩ (fun hHeld => ?_)
      refine wpAnyH_take (i := 0) (v := ?vb0) rfl (by kernel_rfl) (by kernel_rfl) (by kernel_rfl) (fun _ _ _ h => h) (Or.inl ⟨by rfl, ?hyb0⟩) hHeld ?restb0
      case hyb0 => (intro w' hSw; obtain ⟨k0, k1, k2, k3, k4, k5⟩ := hSw; go_simp; try with_reducible rfl)
      try simp only [Act.put, List.setIfInBounds_toArray, List.set_cons_zero, List.set_cons_succ]
      refine wpAnyH_take (i := 1) (v := ?vb1) rfl (by kernel_rfl) (by kernel_rfl) (by kernel_rfl) (fun _ _ _ h => h) (Or.inl ⟨by rfl, ?hyb1⟩) hHeld ?restb1
      case hyb1 => (intro w' hSw; obtain ⟨k0, k1, k2, k3, k4, k5⟩ := hSw; go_simp; try with_reducible rfl)
      try simp only [Act.put, List.setIfInBounds_toArray, List.set_cons_zero, List.set_cons_succ]
      refine wpAnyH_take (i := 2) (v := ?vb2) rfl (by kernel_rfl) (by kernel_rfl) (by kernel_rfl) (fun _ _ _ h => h) (Or.inl ⟨by rfl, ?hyb2⟩) hHeld ?restb2
      case hyb2 => (intro w' hSw; obtain ⟨k0, k1, k2, k3, k4, k5⟩ := hSw; go_simp; try with_reducible rfl)
      try simp only [Act.put, List.setIfInBounds_toArray, List.set_cons_zero, List.set_cons_succ]
      refine wpAnyH_take (i := 3) (v := ?vb3) rfl (by kernel_rfl) (by kernel_rfl) (by kernel_rfl) (fun _ _ _ h => h) (Or.inl ⟨by rfl, ?hyb3⟩) hHeld ?restb3
      case hyb3 => (intro w' hSw; obtain ⟨k0, k1, k2, k3, k4, k5⟩ := hSw; go_simp; try with_reducible rfl)
      try simp only [Act.put, List.setIfInBounds_toArray, List.set_cons_zero, List.set_cons_succ]
      refine wpAnyH_take (i := 4) (v := ?vb4) rfl (by kernel_rfl) (by kernel_rfl) (by kernel_rfl) (fun _ _ _ h => h) (Or.inl ⟨by rfl, ?hyb4⟩) hHeld ?restb4
      case hyb4 => (intro w' hSw; obtain ⟨k0, k1, k2, k3, k4, k5⟩ := hSw; go_simp; try with_reducible rfl)
      try simp only [Act.put, List.setIfInBounds_toArray, List.set_cons_zero, List.set_cons_succ]
      refine wpAnyH_take (i := 5) (v := ?vb5) rfl (by kernel_rfl) (by kernel_rfl) (by kernel_rfl) (fun _ _ _ h => h) (Or.inl ⟨by rfl, ?hyb5⟩) hHeld ?restb5
      case hyb5 => (intro w' hSw; obtain ⟨k0, k1, k2, k3, k4, k5⟩ := hSw; go_simp; try with_reducible rfl)
      try simp only [Act.put, List.setIfInBounds_toArray, List.set_cons_zero, List.set_cons_succ]
      refine wpAnyH_take (i := 6) (v := ?vb6) rfl (by kernel_rfl) (by kernel_rfl) (by kernel_rfl) (fun _ _ _ h => h) (Or.inl ⟨by rfl, ?hyb6⟩) hHeld ?restb6
      case hyb6 => (intro w' hSw; obtain ⟨k0, k1, k2, k3, k4, k5⟩ := hSw; go_simp; try with_reducible rfl)
      try simp only [Act.put, List.setIfInBounds_toArray, List.set_cons_zero, List.set_cons_succ]
      refine wpAnyH_take (i := 7) (v := ?vb7) rfl (by kernel_rfl) (by kernel_rfl) (by kernel_rfl) (fun _ _ _ h => h) (Or.inl ⟨by rfl, ?hyb7⟩) hHeld ?restb7
      case hyb7 => (intro w' hSw; obtain ⟨k0, k1, k2, k3, k4, k5⟩ := hSw; go_simp; try with_reducible rfl)
      try simp only [Act.put, List.setIfInBounds_toArray, List.set_cons_zero, List.set_cons_succ]
      refine wpAnyH_take (i := 8) (v := ?vb8) rfl (by kernel_rfl) (by kernel_rfl) (by kernel_rfl) (fun _ _ _ h => h) (Or.inl ⟨by rfl, ?hyb8⟩) hHeld ?restb8
      case hyb8 => (intro w' hSw; obtain ⟨k0, k1, k2, k3, k4, k5⟩ := hSw; go_simp; try with_reducible rfl)
      try simp only [Act.put, List.setIfInBounds_toArray, List.set_cons_zero, List.set_cons_succ]
      refine wpAnyH_one (i := 9) (by kernel_rfl) rfl (fun K hK => ?_)
      go_simp
      refine hK _ _ ⟨X1.out.1, X1.out.2.1, X1.out.2.2.1, X1.out.2.2.2.1, X1.out.2.2.2.2.1, X1.out.2.2.2.2.2⟩ ?_
      clear hK K
      refine wpAnyH_done (by kernel_rfl) ?_ _
      exact FIN.out
  case done =>
    rintro D ys W hD rfl ⟨⟨⟨f, hf, hfp⟩, hr1, hsz⟩, hkW⟩ hK
    have hfF := hfp (by simp)
    subst hfF
    gi_wp2
    refine ⟨by simp, .inl ⟨_, _, rfl, run_takeDeferred hK, ?_⟩⟩
    have hgp := grownBy_putObj' W D (.deferred none)
    refine ⟨.tuple #[], by simp [results, Tryd.f83, go_sem], ⟨_, rfl⟩, ?_, hkW.grownFrom hgp (fun r e => by cases e; have := HB.out; omega)⟩
    have := hf.same (hgp.block bm hf.lt (by simp; omega))
    simpa using this
  case stop =>
    rintro D c pre W _ _ h _
    exact h.elim
end Go.Proofs.YtnfhbmgkiknaaaaDoor
