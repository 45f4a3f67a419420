import Derived.Test.YtehighgebbdenaaGreatDoorVp02
import Derived.Test.YtehighgebbdenaaGreatDoorVp03
import Derived.Test.YtehighgebbdenaaGreatDoorVp06
import Derived.Test.YtehighgebbdenaaGreatDoorVp12
import Derived.Test.YtehighgebbdenaaGreatDoorVp13
import Derived.Test.YtehighgebbdenaaGreatDoorVp15
import Derived.Test.YtehighgebbdenaaGreatDoorVp16
import Derived.Test.YtehighgebbdenaaGreatDoorVp17
import Derived.Maps.OwnIn
import Derived.RangeFuncCalls
section
set_option linter.unusedSimpArgs false
set_option linter.unusedVariables false
namespace Go.Proofs.YtehighgebbdenaaGreatDoor
open Go.RowKit Go.Shelf Go.Maps
attribute [local go_sem] Oper.semAt_some
theorem eqPl (p q : Plc) (w : World) : (Op.equalIn 10000 106 (.agg #[.int .i64 p.1, .int .i64 p.2.1, .string p.2.2]) (.agg #[.int .i64 q.1, .int .i64 q.2.1, .string q.2.2])).run Tryz.prog w = .ok (decide (p = q)) w := by
  obtain ⟨a, b, s⟩ := p
  obtain ⟨a', b', s'⟩ := q
  have hs : ∀ x y : ByteArray, x.toList = y.toList ↔ x = y := fun x y => ⟨fun h => by rw [ByteArray.toList_eq, ByteArray.toList_eq] at h; exact WideShapes.bytes_inj h, fun h => by rw [h]⟩
  go_simp
  by_cases h1 : a = a' <;> by_cases h2 : b = b' <;> by_cases h3 : s = s' <;> simp [h1, h2, h3]
theorem Keeps.grownFrom {S : Nat → Prop} {w X Y : World} {row : Option Nat} (h : Keeps S w X) (hg : X.grownBy Y row) (hr : ∀ r, row = some r → w.heap.size ≤ r) : Keeps S w Y :=
  h.then (keeps_of_grown hg) (fun i hi e => by have := hr i e.symm; omega)
set_option maxRecDepth 100000 in
set_option maxHeartbeats 2000000 in
theorem undo_core (w : World) (bt bm g off cap at_ len n : Nat) (ao bo : Option Addr) (L : List Ent) (F : Nat → Sta) (hat : at_ ≤ len) (hll : len - at_ = L.length) (hlen : len ≤ 1000) (hn : n ≤ 1000000) (hm0 : w.cell? ⟨bt, 0, none⟩ = some (.map (some bm))) (hsl : w.cell? ⟨bt, 1, none⟩ = some (.slice ao len cap))
    (hbo : (if cap = at_ then ao else Option.map (fun x => x.add (at_ * 8)) ao) = bo) (hao : L = [] ∨ bo = some ⟨g, off, none⟩) (hg : g < w.heap.size) (hgm : g ≠ bm) (hrow : RowAt w g off L) (hM : MapAt Tryz.prog 3 w bm n (F 0))
    (hF : ∀ r, r < L.length → undo (F r) (entR L r).1.2.1 (entR L r).2 = F (r + 1)) (hwf : ∀ r, Wf (entR L r).1.2.1) :
    Calls Tryz.prog 188 #[.pointer (some ⟨bt, 0, none⟩), .int .i64 (at_ : Int)] w fun e w' => (∃ v, e = .returned v) ∧ MapAt Tryz.prog 3 w' bm (n + L.length) (F L.length) ∧ Keeps (fun k => k = bm) w w' := by
  have hbt : bt < w.heap.size := block_lt_of_cell hsl
  have hbm : bm < w.heap.size := hM.lt
  have htm : bt ≠ bm := by
    intro e
    obtain ⟨es, ck, hb⟩ := hM.block
    rw [← e] at hb
    simp [World.cell?, hb] at hm0
  have hsl3 : ∀ o1, (w.alloc o1).cell? ⟨bt, 1, none⟩ = some (.slice ao len cap) := fun o1 =>
    (((Below.refl w.heap.size w).alloc (Nat.le_refl _) o1).cell (p := ⟨bt, 1, none⟩) hbt).trans hsl
  refine (callsIn_wide (n := 4)).1 ?_
  refine callsIn_of_wp_marks Tryz.func188 rfl trivial ?_ rfl
  simp only [Tryz.ntmps188, List.size_toArray, List.length_cons, List.length_nil, Nat.reduceAdd, Nat.reduceSub, Array.replicate_succ, Array.replicate_zero, List.push_toArray, List.append_toArray, List.nil_append, List.cons_append]
  gi_wp2_with (refine ⟨trivial, ?_⟩; gi_at_call 227; refine (back_in Fence.wide (4 - 1) trivial rfl _ _ _ _).mono ?_; rintro e w' ⟨rfl, rfl⟩)
  obtain ⟨w2, hw2⟩ : ∃ w2, w2 = (w.alloc (.cells #[.pointer (some ⟨bt, 0, none⟩)] 66)).alloc (.cells #[.slice bo L.length (cap - at_)] 185) := ⟨_, rfl⟩
  rw [← hw2]
  have hB0 : Below w.heap.size w w2 := by rw [hw2]; exact ((Below.refl w.heap.size w).alloc (Nat.le_refl _) _).alloc (by simp) _
  have hs2 : w2.heap.size = w.heap.size + 2 := by rw [hw2]; simp
  obtain ⟨B, hB⟩ : ∃ B, B = w.heap.size := ⟨_, rfl⟩
  have e1 : Boxed w2 B 66 (.pointer (some ⟨bt, 0, none⟩)) := by rw [hw2, hB]; exact (blk2 w _ _).1
  have e2 : Boxed w2 (B + 1) 185 (.slice bo L.length (cap - at_)) := by rw [hw2, hB]; exact (blk2 w _ _).2
  rw [← hB] at hB0 hs2 hg hbt hbm ⊢
  have HB : Aside (B = w.heap.size) := hB
  have hBw : B ≤ w.heap.size := by omega
  clear hB
  have hrow2 : RowAt w2 g off L := hrow.same (hB0.block g hg)
  have hM2 := hM.same (hB0.block bm hbm)
  have hk2 : Keeps (fun k => k = bm) w w2 := (keeps_of_below hB0).mono (fun k hk e => by have := HB.out; omega)
  clear hw2 hsl3 hrow hM hbo
  refine wpIn_rangeFunc_ownH rfl (by omega) (gf := 282) (lb := #[.pointer (some ⟨B + 1, 0, none⟩)]) rfl trivial (enters_of Tryz.func282 (by kernel_rfl) rfl)
    (back_stops Fence.wide (4 - 1) trivial rfl (by omega) (B + 1) g off (cap - at_) bo L (by omega) hao w2 (by omega) (by omega) e2.cell hrow2) KeepTwo.trans (fun W l o o' hl _ _ _ => KeepTwo.put (N := w2.heap.size) (by omega) (by omega) W l o' hl) (Below.refl _ _) (fun _ => rfl)
    (fun pre W => ((∃ f, MapAt Tryz.prog 3 W bm (n + pre.length) f ∧ (pre = List.range pre.length → f = F pre.length)) ∧ Boxed W B 66 (.pointer (some ⟨bt, 0, none⟩)) ∧ w2.heap.size ≤ W.heap.size) ∧ Keeps (fun k => k = bm) w W)
    (fun _ _ _ => False)
    (fun pre X Y row hs hg hr => by
      obtain ⟨⟨⟨f, q1, q2⟩, q3, q4⟩, q5⟩ := hs
      have hne : some bm ≠ row := fun e => by have := (hr bm e.symm).1; omega
      exact ⟨⟨⟨f, q1.same (hg.block bm q1.lt hne), q2⟩, kept_cells q3 hg (fun r e => (hr r e).2), Nat.le_trans q4 hg.size⟩, q5.grownFrom hg (fun r e => by have := (hr r e).1; have := HB.out; omega)⟩)
    (fun _ _ _ _ _ hs _ _ => hs)
    ⟨⟨⟨F 0, hM2, fun _ => rfl⟩, e1, Nat.le_refl _⟩, hk2⟩
    (fun x a' W => ∃ Bx, w2.heap.size ≤ Bx ∧ EntAt W Bx (entR L x) ∧ a' = { tmps := #[.pointer (some ⟨bt, 0, none⟩), .int .i64 (at_ : Int), .pointer (some ⟨B, 0, none⟩), undef, undef, .pointer (some ⟨Bx, 0, none⟩), .pointer (some ⟨bt, 0, none⟩), .pointer (some ⟨bt, 0, none⟩), .pointer (some ⟨bt, 1, none⟩), .slice ao len cap, .int .i64 (at_ : Int), .slice bo L.length (cap - at_), .func (.func 282) #[] #[.pointer (some ⟨B + 1, 0, none⟩)], .int .i64 ((L.length - 1 - x : Nat) : Int), .agg #[.int .i64 (entR L x).1.1.1, .int .i64 (entR L x).1.1.2, .int .i64 (entR L x).1.2.1, .int .i64 (entR L x).1.2.2.1, .string (entR L x).1.2.2.2, .int .i64 (entR L x).2.1, .int .i64 (entR L x).2.2.1, .string (entR L x).2.2.2], undef, undef, undef, undef, undef, undef, undef, undef, undef, undef, undef, undef, undef, undef, undef, undef, undef, undef, undef, undef], defers := [] })
    (fun x a' => Own.from (fun _ X Y row hs hg hr => by obtain ⟨Bx, f1, f2, f3⟩ := hs; exact ⟨Bx, f1, kept_cells f2 hg hr, f3⟩) _)
    ?assign ?body ?done ?stop
  case assign =>
    rintro l pre x W K ⟨⟨⟨f, hf, hfp⟩, hr1, hsz⟩, hkW⟩ hK
    have hK' : Aside _ := hK
    have hBs : B ≤ W.heap.size := by omega
    clear hK
    unfold encR
    gi_wp2
    refine hK'.out _ _ ((KeepsOthers.alloc _ _).from _) ⟨Below.heap_alloc _ _ _ (by omega), Below.heap_alloc _ _ _ (by omega)⟩ ⟨⟨⟨f, hf.same (Below.heap_alloc _ _ _ hf.lt), hfp⟩, hr1.alloc _, by simp; omega⟩, hkW.alloc _⟩ ⟨W.heap.size, by omega, heap_alloc_new W _, rfl⟩
  case body =>
    rintro l pre x a' W hl _ ⟨⟨⟨f, hf, hfp⟩, hr1, hsz⟩, hkW⟩ ⟨Bx, hBx, hE, rfl⟩ hlt
    have hwx := hwf x
    obtain ⟨y, hy⟩ : ∃ y, y = entR L x := ⟨_, rfl⟩
    rw [← hy] at hE hwx ⊢
    have hFx : x = pre.length → undo (F pre.length) y.1.2.1 y.2 = F (pre.length + 1) := fun e => by rw [hy, e]; exact hF pre.length hlt
    clear hF hwf hy
    obtain ⟨⟨⟨y1, y2⟩, y3, y4, y5⟩, y6, y7, y8⟩ := y
    dsimp only at hwx hFx ⊢
    have g1 := hr1.cell
    have f2 := hE.cell 2 (u := .int .i64 y3) rfl
    have f5 := hE.cell 5 (u := .int .i64 y6) rfl
    have f6 := hE.cell 6 (u := .int .i64 y7) rfl
    have f7 := hE.cell 7 (u := .string y8) rfl
    have htc : W.cell? ⟨bt, 0, none⟩ = some (.map (some bm)) := (hkW.cell (a := ⟨bt, 0, none⟩) (by show bt < _; omega) htm).trans hm0
    have fin : ∀ (w1 : World) (f' : Sta), W.drew.grownBy w1 (some bm) → MapAt Tryz.prog 3 w1 bm (n + pre.length + 1) f' → f' = undo f y3 (y6, y7, y8) →
        Aside (KeepsFrom w2.heap.size W w1 ∧ KeepTwo g (B + 1) W w1 ∧ ((∃ f, MapAt Tryz.prog 3 w1 bm (n + (pre ++ [x]).length) f ∧ (pre ++ [x] = List.range (pre ++ [x]).length → f = F (pre ++ [x]).length)) ∧ Boxed w1 B 66 (.pointer (some ⟨bt, 0, none⟩)) ∧ w2.heap.size ≤ w1.heap.size) ∧ Keeps (fun k => k = bm) w w1) := fun w1 f' hg1 hM1 hf1 => by
      have hg1' : W.grownBy w1 (some bm) := ⟨hg1.os, hg1.tape, hg1.output, hg1.size, hg1.block⟩
      have hsz1 := hg1'.size
      refine ⟨KeepsFrom.of_grownBy hg1' (fun j e => by cases e; omega), ⟨hg1'.block g (by omega) (by simpa using hgm), hg1'.block (B + 1) (by omega) (by simp; omega)⟩, ⟨⟨f', by rw [List.length_append, List.length_singleton, ← Nat.add_assoc]; exact hM1, fun hp => ?_⟩, hr1.kept hg1' (by simp; omega), by omega⟩, hkW.then (keeps_of_grown hg1') (fun i _ e => by simpa using e)⟩
      obtain ⟨hp1, hp2⟩ := range_snoc hp
      rw [hf1, hfp hp1, List.length_append, List.length_singleton, hFx hp2]
    have hBxm : Bx ≠ bm := by omega
    have hBxW : Bx < W.heap.size := (Array.getElem?_eq_some_iff.1 hE).1
    have cells1 : ∀ w1 : World, W.drew.grownBy w1 (some bm) → Aside (w1.cell? ⟨B, 0, none⟩ = some (.pointer (some ⟨bt, 0, none⟩)) ∧ w1.cell? ⟨bt, 0, none⟩ = some (.map (some bm)) ∧ w1.cell? ⟨Bx, 2, none⟩ = some (.int .i64 y3) ∧ w1.cell? ⟨Bx, 5, none⟩ = some (.int .i64 y6) ∧ w1.cell? ⟨Bx, 6, none⟩ = some (.int .i64 y7) ∧ w1.cell? ⟨Bx, 7, none⟩ = some (.string y8)) := fun w1 hg1 => by
      have hb : ∀ k, k < W.heap.size → k ≠ bm → ∀ o, w1.cell? ⟨k, o, none⟩ = W.cell? ⟨k, o, none⟩ := fun k hk hne o => World.cell?_of_block (a := ⟨k, o, none⟩) (hg1.block k hk (by simpa using hne))
      exact ⟨(hb B (by omega) (by omega) 0).trans g1, (hb bt (by omega) htm 0).trans htc, (hb Bx hBxW hBxm 2).trans f2, (hb Bx hBxW hBxm 5).trans f5, (hb Bx hBxW hBxm 6).trans f6, (hb Bx hBxW hBxm 7).trans f7⟩
    by_cases he : ((y6, y7, y8) : Plc) = zeroP
    · have hq : ∀ w', (Op.equalIn 10000 106 (.agg #[.int .i64 y6, .int .i64 y7, .string y8]) (.agg #[.int .i64 0, .int .i64 0, .string ⟨#[]⟩])).run Tryz.prog w' = .ok true w' := fun w' => by
        have := eqPl (y6, y7, y8) zeroP w'
        rw [decide_eq_true he] at this
        exact this
      obtain ⟨w1, hrun, hM1, ht1⟩ := (show MapAt Tryz.prog 3 W.drew bm (n + pre.length) f from hf).drop (T := 184) (E := 106) Tryz.underlying3 Tryz.underlying184 hwx 0
      have X1 := cells1 w1 ht1.grown
      have FIN := fin w1 (upd f y3 none) ht1.grown (hM1.mono (Nat.le_succ _)) (by rw [he]; unfold undo; rw [if_pos rfl])
      clear he fin hM1 ht1 hf hfp hkW hM2 hk2 hrow2 e1 e2 hB0 hE hr1 hao hsl hm0 hll hat hlen hn hsz hBx hl hs2 hbm hbt hg htm hgm hBw HB hwx hlt hFx cells1 hBxm hBxW
      gi_wp2
      refine region_in_round (S := (fun w' => w'.cell? ⟨B, 0, none⟩ = some (.pointer (some ⟨bt, 0, none⟩)) ∧ w'.cell? ⟨bt, 0, none⟩ = some (.map (some bm)) ∧ w'.cell? ⟨Bx, 2, none⟩ = some (.int .i64 y3))) (by kernel_rfl) (by kernel_rfl) (by rintro ⟨_, _, h⟩; exact h) ⟨g1, htc, f2⟩ (fun hHeld => ?_)
      refine wpAnyH_take (i := 0) (v := ?va0) rfl (by kernel_rfl) (by kernel_rfl) (by kernel_rfl) (fun _ _ _ h => h) (Or.inl ⟨by rfl, ?hya0⟩) hHeld ?resta0
      case hya0 => (intro w' hSw; obtain ⟨k0, k1, k2⟩ := hSw; go_simp; try with_reducible rfl)
      try simp only [Act.put, List.setIfInBounds_toArray, List.set_cons_zero, List.set_cons_succ]
      refine wpAnyH_take (i := 1) (v := ?va1) rfl (by kernel_rfl) (by kernel_rfl) (by kernel_rfl) (fun _ _ _ h => h) (Or.inl ⟨by rfl, ?hya1⟩) hHeld ?resta1
      case hya1 => (intro w' hSw; obtain ⟨k0, k1, k2⟩ := hSw; go_simp; try with_reducible rfl)
      try simp only [Act.put, List.setIfInBounds_toArray, List.set_cons_zero, List.set_cons_succ]
      refine wpAnyH_take (i := 2) (v := ?va2) rfl (by kernel_rfl) (by kernel_rfl) (by kernel_rfl) (fun _ _ _ h => h) (Or.inl ⟨by rfl, ?hya2⟩) hHeld ?resta2
      case hya2 => (intro w' hSw; obtain ⟨k0, k1, k2⟩ := hSw; go_simp; try with_reducible rfl)
      try simp only [Act.put, List.setIfInBounds_toArray, List.set_cons_zero, List.set_cons_succ]
      refine wpAnyH_take (i := 3) (v := ?va3) rfl (by kernel_rfl) (by kernel_rfl) (by kernel_rfl) (fun _ _ _ h => h) (Or.inl ⟨by rfl, ?hya3⟩) hHeld ?resta3
      case hya3 => (intro w' hSw; obtain ⟨k0, k1, k2⟩ := hSw; go_simp; try with_reducible rfl)
      try simp only [Act.put, List.setIfInBounds_toArray, List.set_cons_zero, List.set_cons_succ]
      refine wpAnyH_take (i := 4) (v := ?va4) rfl (by kernel_rfl) (by kernel_rfl) (by kernel_rfl) (fun _ _ _ h => h) (Or.inl ⟨by rfl, ?hya4⟩) hHeld ?resta4
      case hya4 => (intro w' hSw; obtain ⟨k0, k1, k2⟩ := hSw; go_simp; try with_reducible rfl)
      try simp only [Act.put, List.setIfInBounds_toArray, List.set_cons_zero, List.set_cons_succ]
      refine wpAnyH_take (i := 5) (v := ?va5) rfl (by kernel_rfl) (by kernel_rfl) (by kernel_rfl) (fun _ _ _ h => h) (Or.inl ⟨by rfl, ?hya5⟩) hHeld ?resta5
      case hya5 => (intro w' hSw; obtain ⟨k0, k1, k2⟩ := hSw; go_simp; try with_reducible rfl)
      try simp only [Act.put, List.setIfInBounds_toArray, List.set_cons_zero, List.set_cons_succ]
      refine wpAnyH_take (i := 6) (v := ?va6) rfl (by kernel_rfl) (by kernel_rfl) (by kernel_rfl) (fun _ _ _ h => h) (Or.inl ⟨by rfl, ?hya6⟩) hHeld ?resta6
      case hya6 => (intro w' hSw; obtain ⟨k0, k1, k2⟩ := hSw; go_simp; try with_reducible rfl)
      try simp only [Act.put, List.setIfInBounds_toArray, List.set_cons_zero, List.set_cons_succ]
      refine wpAnyH_one (i := 7) (by kernel_rfl) rfl (fun K hK => ?_)
      go_simp
      refine hK _ _ ⟨X1.out.1, X1.out.2.1, X1.out.2.2.1⟩ ?_
      clear hK K
      refine wpAnyH_done (by kernel_rfl) ?_ _
      exact FIN.out
    · have hq : ∀ w', (Op.equalIn 10000 106 (.agg #[.int .i64 y6, .int .i64 y7, .string y8]) (.agg #[.int .i64 0, .int .i64 0, .string ⟨#[]⟩])).run Tryz.prog w' = .ok false w' := fun w' => by
        have := eqPl (y6, y7, y8) zeroP w'
        rw [decide_eq_false he] at this
        exact this
      obtain ⟨w1, hrun, hM1, ht1⟩ := (show MapAt Tryz.prog 3 W.drew bm (n + pre.length) f from hf).store (T := 184) (E := 106) Tryz.underlying3 Tryz.underlying184 (by simp only [maxLen]; omega) hwx (y6, y7, y8)
      unfold encP at hrun
      dsimp only at hrun
      have X1 := cells1 w1 ht1.grown
      have FIN := fin w1 (upd f y3 (some (y6, y7, y8))) ht1.grown hM1 (by unfold undo; rw [if_neg he])
      clear he fin hM1 ht1 hf hfp hkW hM2 hk2 hrow2 e1 e2 hB0 hE hr1 hao hsl hm0 hll hat hlen hn hsz hBx hl hs2 hbm hbt hg htm hgm hBw HB hwx hlt hFx cells1 hBxm hBxW
      gi_wp2
      refine region_in_round (S := (fun w' => w'.cell? ⟨B, 0, none⟩ = some (.pointer (some ⟨bt, 0, none⟩)) ∧ w'.cell? ⟨bt, 0, none⟩ = some (.map (some bm)) ∧ w'.cell? ⟨Bx, 2, none⟩ = some (.int .i64 y3) ∧ w'.cell? ⟨Bx, 5, none⟩ = some (.int .i64 y6) ∧ w'.cell? ⟨Bx, 6, none⟩ = some (.int .i64 y7) ∧ w'.cell? ⟨Bx, 7, none⟩ = some (.string y8))) (by kernel_rfl) (by kernel_rfl) (by rintro ⟨_, _, h⟩; exact h) ⟨g1, htc, f2, f5, f6, f7⟩ (fun hHeld => ?_)
      refine wpAnyH_take (i := 0) (v := ?vb0) rfl (by kernel_rfl) (by kernel_rfl) (by kernel_rfl) (fun _ _ _ h => h) (Or.inl ⟨by rfl, ?hyb0⟩) hHeld ?restb0
      case hyb0 => (intro w' hSw; obtain ⟨k0, k1, k2, k3, k4, k5⟩ := hSw; go_simp; try with_reducible rfl)
      try simp only [Act.put, List.setIfInBounds_toArray, List.set_cons_zero, List.set_cons_succ]
      refine wpAnyH_take (i := 1) (v := ?vb1) rfl (by kernel_rfl) (by kernel_rfl) (by kernel_rfl) (fun _ _ _ h => h) (Or.inl ⟨by rfl, ?hyb1⟩) hHeld ?restb1
      case hyb1 => (intro w' hSw; obtain ⟨k0, k1, k2, k3, k4, k5⟩ := hSw; go_simp; try with_reducible rfl)
      try simp only [Act.put, List.setIfInBounds_toArray, List.set_cons_zero, List.set_cons_succ]
      refine wpAnyH_take (i := 2) (v := ?vb2) rfl (by kernel_rfl) (by kernel_rfl) (by kernel_rfl) (fun _ _ _ h => h) (Or.inl ⟨by rfl, ?hyb2⟩) hHeld ?restb2
      case hyb2 => (intro w' hSw; obtain ⟨k0, k1, k2, k3, k4, k5⟩ := hSw; go_simp; try with_reducible rfl)
      try simp only [Act.put, List.setIfInBounds_toArray, List.set_cons_zero, List.set_cons_succ]
      refine wpAnyH_take (i := 3) (v := ?vb3) rfl (by kernel_rfl) (by kernel_rfl) (by kernel_rfl) (fun _ _ _ h => h) (Or.inl ⟨by rfl, ?hyb3⟩) hHeld ?restb3
      case hyb3 => (intro w' hSw; obtain ⟨k0, k1, k2, k3, k4, k5⟩ := hSw; go_simp; try with_reducible rfl)
      try simp only [Act.put, List.setIfInBounds_toArray, List.set_cons_zero, List.set_cons_succ]
      refine wpAnyH_take (i := 4) (v := ?vb4) rfl (by kernel_rfl) (by kernel_rfl) (by kernel_rfl) (fun _ _ _ h => h) (Or.inl ⟨by rfl, ?hyb4⟩) hHeld ?restb4
      case hyb4 => (intro w' hSw; obtain ⟨k0, k1, k2, k3, k4, k5⟩ := hSw; go_simp; try with_reducible rfl)
      try simp only [Act.put, List.setIfInBounds_toArray, List.set_cons_zero, List.set_cons_succ]
      refine wpAnyH_take (i := 5) (v := ?vb5) rfl (by kernel_rfl) (by kernel_rfl) (by kernel_rfl) (fun _ _ _ h => h) (Or.inl ⟨by rfl, ?hyb5⟩) hHeld ?restb5
      case hyb5 => (intro w' hSw; obtain ⟨k0, k1, k2, k3, k4, k5⟩ := hSw; go_simp; try with_reducible rfl)
      try simp only [Act.put, List.setIfInBounds_toArray, List.set_cons_zero, List.set_cons_succ]
      refine wpAnyH_take (i := 6) (v := ?vb6) rfl (by kernel_rfl) (by kernel_rfl) (by kernel_rfl) (fun _ _ _ h => h) (Or.inl ⟨by rfl, ?hyb6⟩) hHeld ?restb6
      case hyb6 => (intro w' hSw; obtain ⟨k0, k1, k2, k3, k4, k5⟩ := hSw; go_simp; try with_reducible rfl)
      try simp only [Act.put, List.setIfInBounds_toArray, List.set_cons_zero, List.set_cons_succ]
      refine wpAnyH_take (i := 7) (v := ?vb7) rfl (by kernel_rfl) (by kernel_rfl) (by kernel_rfl) (fun _ _ _ h => h) (Or.inl ⟨by rfl, ?hyb7⟩) hHeld ?restb7
      case hyb7 => (intro w' hSw; obtain ⟨k0, k1, k2, k3, k4, k5⟩ := hSw; go_simp; try with_reducible rfl)
      try simp only [Act.put, List.setIfInBounds_toArray, List.set_cons_zero, List.set_cons_succ]
      refine wpAnyH_take (i := 8) (v := ?vb8) rfl (by kernel_rfl) (by kernel_rfl) (by kernel_rfl) (fun _ _ _ h => h) (Or.inl ⟨by rfl, ?hyb8⟩) hHeld ?restb8
      case hyb8 => (intro w' hSw; obtain ⟨k0, k1, k2, k3, k4, k5⟩ := hSw; go_simp; try with_reducible rfl)
      try simp only [Act.put, List.setIfInBounds_toArray, List.set_cons_zero, List.set_cons_succ]
      refine wpAnyH_one (i := 9) (by kernel_rfl) rfl (fun K hK => ?_)
      go_simp
      refine hK _ _ ⟨X1.out.1, X1.out.2.1, X1.out.2.2.1, X1.out.2.2.2.1, X1.out.2.2.2.2.1, X1.out.2.2.2.2.2⟩ ?_
      clear hK K
      refine wpAnyH_done (by kernel_rfl) ?_ _
      exact FIN.out
  case done =>
    rintro D ys W hD rfl ⟨⟨⟨f, hf, hfp⟩, hr1, hsz⟩, hkW⟩ hK
    have hfF := hfp (by simp)
    subst hfF
    gi_wp2
    refine ⟨by simp, .inl ⟨_, _, rfl, run_takeDeferred hK, ?_⟩⟩
    have hgp := grownBy_putObj' W D (.deferred none)
    refine ⟨.tuple #[], by simp [results, Tryz.f188, go_sem], ⟨_, rfl⟩, ?_, hkW.grownFrom hgp (fun r e => by cases e; have := HB.out; omega)⟩
    have := hf.same (hgp.block bm hf.lt (by simp; omega))
    simpa using this
  case stop =>
    rintro D c pre W _ _ h _
    exact h.elim
end Go.Proofs.YtehighgebbdenaaGreatDoor
end
section
namespace Go.Proofs.YtehighgebbdenaaGreatDoor
open Go.RowKit Go.Maps
open scoped Classical
theorem undo_at (w : World) (base bt bm n at_ : Nat) (v : Value) (ms : List Mov) (L : List Ent) (hT : TreeCell w bt bm v) (hL : LogTo ms ms.length L) (hR : w.ownsRow base 284 8 v ms.length (flat encE L)) (hM : MapAt Tryz.prog 3 w bm n (madeBy ms)) (hfine : ∀ m ∈ ms, FineP m.2) (hat : at_ ≤ ms.length) (hlen : ms.length ≤ 1000) (hn : n ≤ 1000000) :
    Calls Tryz.prog 188 #[.pointer (some ⟨bt, 0, none⟩), .int .i64 (at_ : Int)] w fun e w' => (∃ u, e = .returned u) ∧ MapAt Tryz.prog 3 w' bm (n + (ms.length - at_)) (madeBy (ms.take at_)) ∧ Keeps (fun k => k = bm) w w' := by
  have hll : (L.drop at_).length = ms.length - at_ := by rw [List.length_drop, hL.len]
  have hent : ∀ r, r < ms.length - at_ → ∃ x, entR (L.drop at_) r = x ∧ L[ms.length - 1 - r]? = some x := fun r hr => by
    have := entR_at (L := L.drop at_) (r := r) (by omega)
    rw [List.getElem?_drop, hll] at this
    exact ⟨_, rfl, by rw [← this]; congr 1; omega⟩
  have hF : ∀ r, r < (L.drop at_).length → undo (madeBy (ms.take (ms.length - r))) (entR (L.drop at_) r).1.2.1 (entR (L.drop at_) r).2 = madeBy (ms.take (ms.length - (r + 1))) := fun r hr => by
    obtain ⟨x, h1, h2⟩ := hent r (by omega)
    rw [h1]
    have hmx := hL.mov h2
    have hfr := hL.from_ _ x (by omega) h2
    rw [fromAt_some hmx] at hfr
    have hmt := made_take hmx
    have hg : Good (madeBy (ms.take (ms.length - 1 - r))) := good_made (fun m hm => hfine m (List.mem_of_mem_take hm))
    rw [show ms.length - 1 - r + 1 = ms.length - r by omega] at hmt
    rw [hmt, hfr, show ms.length - (r + 1) = ms.length - 1 - r by omega]
    exact undo_step hg
  have hwf : ∀ r, Wf (entR (L.drop at_) r).1.2.1 := fun r => by
    by_cases hr : r < ms.length - at_
    · obtain ⟨x, h1, h2⟩ := hent r hr
      rw [h1]
      exact (wf_fine (hfine _ (List.mem_of_getElem? (hL.mov h2)))).1
    · by_cases h0 : (L.drop at_).length = 0
      · have : L.drop at_ = [] := List.length_eq_zero_iff.1 h0
        rw [this]
        exact (show Wf 0 from wf_of (by decide) (by decide))
      · have hz : (L.drop at_)[(L.drop at_).length - 1 - r]? = some (entR (L.drop at_) r) := by
          unfold entR
          rw [List.getD_eq_getElem?_getD, List.getElem?_eq_getElem (by omega)]
          rfl
        rw [List.getElem?_drop] at hz
        exact (wf_fine (hfine _ (List.mem_of_getElem? (hL.mov hz)))).1
  have h0 : madeBy (ms.take (ms.length - 0)) = madeBy ms := by rw [Nat.sub_zero, List.take_length]
  have hM0 : MapAt Tryz.prog 3 w bm n ((fun r => madeBy (ms.take (ms.length - r))) 0) := by show MapAt _ _ _ _ _ (madeBy (ms.take (ms.length - 0))); rw [h0]; exact hM
  have fin : ∀ g off (ao bo : Option Addr) (cap : Nat), v = .slice ao ms.length cap → (if cap = at_ then ao else Option.map (fun x => x.add (at_ * 8)) ao) = bo → (L.drop at_ = [] ∨ bo = some ⟨g, off, none⟩) → g < w.heap.size → g ≠ bm → RowAt w g off (L.drop at_) →
      Calls Tryz.prog 188 #[.pointer (some ⟨bt, 0, none⟩), .int .i64 (at_ : Int)] w fun e w' => (∃ u, e = .returned u) ∧ MapAt Tryz.prog 3 w' bm (n + (ms.length - at_)) (madeBy (ms.take at_)) ∧ Keeps (fun k => k = bm) w w' := fun g off ao bo cap hv hbo hao hg hgm hrow => by
    refine (undo_core w bt bm g off cap at_ ms.length n ao bo (L.drop at_) (fun r => madeBy (ms.take (ms.length - r))) hat hll.symm hlen hn hT.c0 (by rw [← hv]; exact hT.c1) hbo hao hg hgm hrow hM0 hF hwf).mono ?_
    rintro e w' ⟨h1, h2, h3⟩
    rw [hll] at h2
    rw [show ms.length - (ms.length - at_) = at_ by omega] at h2
    exact ⟨h1, h2, h3⟩
  have hempty : ms.length = at_ → L.drop at_ = [] := fun h => List.length_eq_zero_iff.1 (by rw [hll]; omega)
  have hRow0 : L.drop at_ = [] → ∀ g off, RowAt w g off (L.drop at_) := fun h g off j u hj => by rw [h] at hj; simp [flat] at hj
  rcases hR.2 with ⟨hv, h0⟩ | ⟨g, cap, cur, hv, _, hg, hnc, _⟩
  · exact fin bt 0 none none 0 (by rw [hv, h0]) (by simp) (.inl (hempty (by omega))) hT.lt (hT.ne_map hM) (hRow0 (hempty (by omega)) _ _)
  · subst hv
    have hgl : g < w.heap.size := (Array.getElem?_eq_some_iff.1 hg).1
    have hgm := row_ne_map hR hM
    by_cases hc : cap = at_
    · exact fin g 0 (some ⟨g, 0, none⟩) _ cap rfl rfl (.inl (hempty (by omega))) hgl hgm (hRow0 (hempty (by omega)) _ _)
    · refine fin g (at_ * 8) (some ⟨g, 0, none⟩) (some ⟨g, at_ * 8, none⟩) cap rfl (by rw [if_neg hc, Option.map_some, Addr.add_lit, Nat.zero_add]) (.inr rfl) hgl hgm (fun j u hj => ?_)
      have := row_at hR (at_ * 8 + j) u (by rw [← flat_drop encE_len L at_ (by rw [hL.len]; exact hat), List.getElem?_drop] at hj; exact hj)
      rwa [Nat.zero_add] at this
theorem undo_ok : UndoOk := undo_at
end Go.Proofs.YtehighgebbdenaaGreatDoor
end
section
set_option linter.unusedVariables false
set_option linter.unusedSimpArgs false
namespace Go.Proofs.YtehighgebbdenaaGreatDoor
open Go.RowKit Go.Maps
open scoped Classical
set_option maxHeartbeats 1000000 in
theorem opid_is (x : OpX) (w : World) (h : errO x = 0) : Calls Tryz.prog 123 #[encO x] w fun e w' => e = .returned (.int .i64 (idO x)) ∧ Below w.heap.size w w' := by
  have h0 := err_by h
  obtain ⟨t, b, n, k, nd, o, s, v⟩ := x
  unfold encO idO
  dsimp only
  have h1 : 1 ≤ t := h0.1
  have h2 : t ≤ 1073741824 := h0.2.1
  have h3 : 0 ≤ b := h0.2.2.1
  have h4 : b < 4 := h0.2.2.2
  go_enter Tryz.func123, Tryz.ntmps123
  go_wp2_with (go_at_call 176; refine (id_ok t b _ h1 h2 h3 h4).mono ?_; rintro e w1 ⟨rfl, hb⟩; have B1 : Aside (Below w.heap.size w w1) := ((Below.refl _ w).alloc (Nat.le_refl _) _).trans (hb.mono (by simp)); clear hb)
  go_ret
  exact ⟨rfl, B1.out⟩
end Go.Proofs.YtehighgebbdenaaGreatDoor
end
section
set_option linter.unusedVariables false
set_option linter.unusedSimpArgs false
namespace Go.Proofs.YtehighgebbdenaaGreatDoor
open Go.RowKit Go.Maps
open scoped Classical
structure RepPart (w : World) (c : Nat → Nat) (br : Nat) (T by_ : Int) (kv : Nat → Value) (bt bx bc : Nat) (R : Rws) (A : List OpX) : Prop where
  cell : RepCell w br T by_ kv bt bx bc
  hue : c br = 1
  rows : RowsAt w c kv R
  tree : TreeC w c bt A
  text : TextC w c bx A
  marks : CellC w c bc A
theorem RepPart.kept {w w' : World} {c c' : Nat → Nat} {br : Nat} {T by_ : Int} {kv : Nat → Value} {bt bx bc : Nat} {R : Rws} {A : List OpX} (h : RepPart w c br T by_ kv bt bx bc R A) (hk : ∀ i, i ≠ 0 → Kept c i w c' w') : RepPart w' c' br T by_ kv bt bx bc R A := by
  have k1 := hk 1 (by omega)
  exact ⟨h.cell.same (k1.block _ h.cell.lt h.hue), (k1.hue _ h.cell.lt).trans h.hue, h.rows.kept (fun i _ => hk _ (by omega)), h.tree.kept (hk 2 (by omega)), h.text.kept (hk 3 (by omega)) (fun nd _ => hk _ (by unfold hueOf; omega)), h.marks.kept (hk 4 (by omega))⟩
theorem RepPart.later {w w' : World} {c : Nat → Nat} {br : Nat} {T by_ : Int} {kv : Nat → Value} {bt bx bc : Nat} {R : Rws} {A : List OpX} (h : RepPart w c br T by_ kv bt bx bc R A) (hb : Below w.heap.size w w') : RepPart w' c br T by_ kv bt bx bc R A :=
  h.kept (fun i _ => ⟨fun k hk _ => hb.block k hk, fun k _ => rfl⟩)
theorem RepPart.heard {w W w' : World} {c : Nat → Nat} {br : Nat} {T by_ t : Int} {kv : Nat → Value} {bt bx bc : Nat} {R : Rws} {A : List OpX} (h : RepPart w c br T by_ kv bt bx bc R A) (hb : Below w.heap.size w W) (hh : Heard br T t W w') : RepPart w' c br (if T < t then t else T) by_ kv bt bx bc R A ∧ Keeps (fun k => k = br) w w' := by
  have hW := h.later hb
  have hKW : Keeps (fun k => k = br) w W := (keeps_of_below hb).mono (fun k hk e => by omega)
  rcases hh with ⟨hlt, W', hb', hheap, hk⟩ | ⟨hlt, hb'⟩
  · have hW' := hW.later hb'
    have hk3 : Keeps (fun k => k = br) w w' := (hKW.then (keeps_of_below hb') (fun k hk e => by have := hKW.size; omega)).then hk (fun _ _ e => e)
    rw [if_pos hlt]
    have hkept : ∀ i, i ≠ 1 → Kept c i W' c w' := fun i hi => ⟨fun k hkl e => hk.block k hkl (fun e' => by rw [e', hW'.hue] at e; omega), fun _ _ => rfl⟩
    refine ⟨⟨?_, hW'.hue, hW'.rows.kept (fun i _ => hkept _ (by omega)), hW'.tree.kept (hkept 2 (by omega)), hW'.text.kept (hkept 3 (by omega)) (fun nd _ => hkept _ (by unfold hueOf; omega)), hW'.marks.kept (hkept 4 (by omega))⟩, hk3⟩
    have := heap_setCell_same W' br 0 _ _ (.int .i64 t) hW'.cell
    unfold RepCell
    rw [hheap, this]
    simp
  · rw [if_neg hlt]
    exact ⟨hW.later hb', hKW.then (keeps_of_below hb') (fun k hk e => by have := hKW.size; omega)⟩
def paint2 (c : Nat → Nat) (w w' : World) (i : Nat) : Nat → Nat := fun k => if k < w.heap.size then c k else if k < w'.heap.size then i else 0
theorem paint2_old {c : Nat → Nat} {w w' : World} {i k : Nat} (h : k < w.heap.size) : paint2 c w w' i k = c k := if_pos h
theorem paint2_new {c : Nat → Nat} {w w' : World} {i k : Nat} (h : w.heap.size ≤ k) (h' : k < w'.heap.size) : paint2 c w w' i k = i := by unfold paint2; rw [if_neg (by omega), if_pos h']
theorem kept_paint {c : Nat → Nat} {w w' : World} {Sx : Nat → Prop} {i j m : Nat} (hk : Keeps Sx w w') (hS : ∀ k, k < w.heap.size → Sx k → c k = i) (hij : j ≠ i) : Kept c j w (paint2 c w w' m) w' :=
  ⟨fun k hkl e => hk.block k hkl (fun s => hij (by rw [← hS k hkl s, e])), fun k hkl => paint2_old hkl⟩
def AppOk (B : Nat) (w : World) (c : Nat → Nat) (br : Nat) (by_ : Int) (kv : Nat → Value) (bt bx bc : Nat) (R : Rws) (A : List OpX) (T' : Int) (w' : World) : Prop := ∃ c', RepPart w' c' br T' by_ kv bt bx bc R A ∧ Acts w c w' c' ∧ (∀ k, c' k ≠ 0 → B ≤ k) ∧ ∀ k, w'.heap.size ≤ k → c' k = 0
theorem AppOk.of {B : Nat} {w w1 w' : World} {c c1 c' : Nat → Nat} {br : Nat} {by_ : Int} {kv : Nat → Value} {bt bx bc : Nat} {R : Rws} {A : List OpX} {T' : Int} {i : Nat} {Sx : Nat → Prop} (hc : c' = paint2 c1 w1 w' i) (hp : RepPart w' c' br T' by_ kv bt bx bc R A) (h1 : Acts w c w1 c1) (hk : Keeps Sx w1 w') (hS : ∀ k, k < w1.heap.size → Sx k → c1 k ≠ 0) (hB : ∀ k, c1 k ≠ 0 → B ≤ k) (hBw : B ≤ w.heap.size) : AppOk B w c br by_ kv bt bx bc R A T' w' := by
  subst hc
  refine ⟨_, hp, h1.trans ⟨hk.mono hS, fun k hkl => paint2_old hkl⟩, fun k e => ?_, fun k hkl => ?_⟩
  · by_cases hkl : k < w1.heap.size
    · rw [paint2_old hkl] at e; exact hB k e
    · have := h1.keeps.size; omega
  · have := hk.size
    unfold paint2
    rw [if_neg (by omega), if_neg (by omega)]
theorem apply_set_go {B : Nat} {w w1 w' : World} {c : Nat → Nat} {br : Nat} {by_ : Int} {kv : Nat → Value} {bt bx bc : Nat} {R : Rws} {A A' : List OpX} {T' : Int} {o : OpX} {cm : Nat} (h : RepPart w1 c br T' by_ kv bt bx bc R A) (hkd : kdO o = 115) (hA' : A'.Perm A) (hcm : c bc = 4 ∧ c cm = 4) (hset : SetOk w1 bc cm A.length (madeO A') o w') (h1 : Acts w c w1 c) (hB : ∀ k, c k ≠ 0 → B ≤ k) (hBw : B ≤ w.heap.size) : AppOk B w c br by_ kv bt bx bc R (o :: A) T' w' := by
  have hS4 : ∀ k, k < w1.heap.size → (k = cm) → c k = 4 := fun k _ e => by rw [e]; exact hcm.2
  have kp : ∀ j, j ≠ 4 → Kept c j w1 (paint2 c w1 w' 4) w' := fun j hj => kept_paint hset.2 hS4 hj
  have hk115 : kdO o ≠ 109 := by rw [hkd]; decide
  have hbcl := hset.1.lt
  refine AppOk.of (i := 4) rfl ⟨?_, ?_, ?_, ?_, ?_, ?_⟩ h1 hset.2 (fun k hk e => by rw [hS4 k hk e]; decide) hB hBw
  · exact h.cell.same ((kp 1 (by omega)).block _ h.cell.lt h.hue)
  · rw [paint2_old h.cell.lt]; exact h.hue
  · exact h.rows.kept (fun i _ => kp _ (by omega))
  · exact (h.tree.kept (kp 2 (by omega))).skip hk115
  · exact (h.text.kept (kp 3 (by omega)) (fun nd _ => kp _ (by unfold hueOf; omega))).skip ⟨by rw [hkd]; decide, by rw [hkd]; decide⟩ (fun q => hk115 q.1)
  · refine CellC.set (A' := A') (cm := cm) hA' ?_ hset
    obtain ⟨cm0, A0, q1, _⟩ := h.marks
    have hbl : bc < w1.heap.size := q1.lt.1
    have hcl : cm < w'.heap.size := hbcl.2
    refine ⟨by rw [paint2_old hbl]; exact hcm.1, ?_⟩
    by_cases e : cm < w1.heap.size
    · rw [paint2_old e]; exact hcm.2
    · rw [paint2_new (by omega) hcl]
theorem apply_line_go {B : Nat} {w w1 w' : World} {c : Nat → Nat} {br : Nat} {by_ : Int} {kv : Nat → Value} {bt bx bc : Nat} {R : Rws} {A : List OpX} {T' : Int} {o : OpX} {nx : Nat} {tx : TSta} {p : Nat} {v : Value} {L M : List Ltr} (h : RepPart w1 c br T' by_ kv bt bx bc R A) (hA : ∀ x ∈ A, errO x = 0) (hkd : kdO o = 105 ∨ kdO o = 100)
    (t1 : nx ≤ A.length) (t2 : TMapAt w1 bx nx tx) (t3 : c bx = 3) (t4 : ∀ nd, (tx nd).isSome = true ↔ KnownN A nd) (t5 : ∀ nd p, tx nd = some p → LineC w1 c p nd A) (hp : tx (nodeO o) = some p)
    (hL : LineAt (p + 1) w1 p v L) (hue : c p = hueOf (nodeO o) ∧ ∀ g, v.ownBlock = some g → c g = hueOf (nodeO o)) (hact : ActOk (p + 1) w1 p v M w') (hM : LineIs (o :: A) (nodeO o) M) (h1 : Acts w c w1 c) (hB : ∀ k, c k ≠ 0 → B ≤ k) (hBw : B ≤ w.heap.size) : AppOk B w c br by_ kv bt bx bc R (o :: A) T' w' := by
  obtain ⟨v', q1, q2, q3⟩ := hact
  have hS : ∀ k, k < w1.heap.size → (k = p ∨ some k = v.ownBlock) → c k = hueOf (nodeO o) := fun k _ e => e.elim (fun e => by rw [e]; exact hue.1) (fun e => hue.2 k e.symm)
  have kp : ∀ j, j ≠ hueOf (nodeO o) → Kept c j w1 (paint2 c w1 w' (hueOf (nodeO o))) w' := fun j hj => kept_paint q2 hS hj
  have n20 : ∀ i, i < 20 → i ≠ hueOf (nodeO o) := fun i hi => by unfold hueOf; omega
  have hk109 : kdO o ≠ 109 := fun e => by rw [e] at hkd; rcases hkd with k | k <;> exact absurd k (by decide)
  have hk115 : kdO o ≠ 115 := fun e => by rw [e] at hkd; rcases hkd with k | k <;> exact absurd k (by decide)
  have hnd : KnownN A (nodeO o) := (t4 _).1 (by rw [hp]; rfl)
  have hnd4 := known_pos hA hnd
  refine AppOk.of (i := hueOf (nodeO o)) rfl ⟨?_, ?_, ?_, ?_, ?_, ?_⟩ h1 q2 (fun k hk e => by rw [hS k hk e]; unfold hueOf; omega) hB hBw
  · exact h.cell.same ((kp 1 (n20 1 (by omega))).block _ h.cell.lt h.hue)
  · rw [paint2_old h.cell.lt]; exact h.hue
  · exact h.rows.kept (fun i hi => kp _ (n20 _ (by omega)))
  · exact (h.tree.kept (kp 2 (n20 2 (by omega)))).skip hk109
  · have k3 := kp 3 (n20 3 (by omega))
    refine ⟨nx, tx, by simp; omega, t2.same (k3.block _ t2.lt t3), (k3.hue _ t2.lt).trans t3, fun nd => (t4 nd).trans ?_, fun nd p' hp' => ?_⟩
    · rw [known_cons]
      exact ⟨.inl, fun q => q.elim id (fun q => absurd q.1 hk109)⟩
    · by_cases e : nd = nodeO o
      · subst e
        rw [hp] at hp'
        cases hp'
        refine ⟨v', M, q1, hM, by rw [paint2_old hL.lt]; exact hue.1, fun g hg => ?_⟩
        have hgl := q1.kin hg
        by_cases e : g < w1.heap.size
        · rw [paint2_old e]
          rcases q3 with e3 | e3
          · rw [e3] at hg; exact hue.2 g hg
          · have := e3 g hg; omega
        · rw [paint2_new (by omega) hgl]
      · have hnk := (t4 nd).1 (by rw [hp']; rfl)
        have hn4 := known_pos hA hnk
        obtain ⟨v2, L2, k1, k2, k4⟩ := (t5 nd p' hp').kept (kp (hueOf nd) (fun q => e (hue_inj (by omega) (by omega) q)))
        exact ⟨v2, L2, k1, k2.skip (fun q => e q.1.symm), k4⟩
  · exact (h.marks.kept (kp 4 (n20 4 (by omega)))).skip hk115
theorem apply_move_go {B : Nat} {w w1 w' : World} {c c1 : Nat → Nat} {br : Nat} {by_ : Int} {kv : Nat → Value} {bt bx bc : Nat} {R : Rws} {A : List OpX} {T' : Int} {o : OpX} {bm : Nat} {v v' : Value} {ms ms' : List Mov} (hcell : RepCell w1 br T' by_ kv bt bx bc) (hhue : c1 br = 1) (hrows : RowsAt w1 c1 kv R) (htext : TextC w1 c1 bx (o :: A)) (hmarks : CellC w1 c1 bc A) (hkd : kdO o = 109)
    (hT : TreeAt 0 w1 bt bm v ms) (hms : ms.Perm (movsO A)) (hue : c1 bt = 2 ∧ c1 bm = 2 ∧ ∀ g, v.ownBlock = some g → c1 g = 2) (q1 : TreeAt 0 w' bt bm v' ms') (q2 : ms'.Perm (((o.1, o.2.1), (nodeO o, otherO o, o.2.2.2.2.2.2.1)) :: ms)) (q3 : Keeps (fun k => k = bt ∨ k = bm ∨ some k = v.ownBlock) w1 w') (q4 : v'.ownBlock = v.ownBlock ∨ ∀ g, v'.ownBlock = some g → w1.heap.size ≤ g) (h1 : Acts w c w1 c1) (hB : ∀ k, c1 k ≠ 0 → B ≤ k) (hBw : B ≤ w.heap.size) : AppOk B w c br by_ kv bt bx bc R (o :: A) T' w' := by
  have hS : ∀ k, k < w1.heap.size → (k = bt ∨ k = bm ∨ some k = v.ownBlock) → c1 k = 2 := fun k _ e => by
    rcases e with e | e | e
    · rw [e]; exact hue.1
    · rw [e]; exact hue.2.1
    · exact hue.2.2 k e.symm
  have kp : ∀ j, j ≠ 2 → Kept c1 j w1 (paint2 c1 w1 w' 2) w' := fun j hj => kept_paint q3 hS hj
  obtain ⟨l1, l2, l3⟩ := hT.lt
  refine AppOk.of (i := 2) rfl ⟨?_, ?_, ?_, ?_, ?_, ?_⟩ h1 q3 (fun k hk e => by rw [hS k hk e]; decide) hB hBw
  · exact hcell.same ((kp 1 (by omega)).block _ hcell.lt hhue)
  · rw [paint2_old hcell.lt]; exact hhue
  · exact hrows.kept (fun i _ => kp _ (by omega))
  · refine ⟨bm, v', ms', q1, by rw [movs_cons hkd]; exact q2.trans (hms.cons _), by rw [paint2_old l1]; exact hue.1, by rw [paint2_old l2]; exact hue.2.1, fun g hg => ?_⟩
    have hgl := q1.lt.2.2 g hg
    by_cases e : g < w1.heap.size
    · rw [paint2_old e]
      rcases q4 with e4 | e4
      · rw [e4] at hg; exact hue.2.2 g hg
      · have := e4 g hg; omega
    · rw [paint2_new (by omega) hgl]
  · exact htext.kept (kp 3 (by omega)) (fun nd _ => kp _ (by unfold hueOf; omega))
  · exact (hmarks.kept (kp 4 (by omega))).skip (by rw [hkd]; decide)
theorem apply_new_go {w1 w2 : World} {c : Nat → Nat} {br : Nat} {by_ : Int} {kv : Nat → Value} {bt bx bc : Nat} {R : Rws} {A : List OpX} {T' : Int} {o : OpX} {nx p : Nat} {tx : TSta} (h : RepPart w1 c br T' by_ kv bt bx bc R A) (hs : StepOk A o) (hkd : kdO o = 109) (hid : nodeO o = idO o)
    (t1 : nx ≤ A.length) (t2 : TMapAt w2 bx (nx + 1) (fun x => if x = nodeO o then some p else tx x)) (t3 : c bx = 3) (t4 : ∀ nd, (tx nd).isSome = true ↔ KnownN A nd) (t5 : ∀ nd p, tx nd = some p → LineC w1 c p nd A) (hbx : bx < w1.heap.size)
    (hline : w2.heap[p]? = some (.cells #[.slice none 0 0] 248 (0, 0))) (hpn : w1.heap.size ≤ p) (hk : Keeps (fun k => k = bx) w1 w2) :
    RepCell w2 br T' by_ kv bt bx bc ∧ paint2 c w1 w2 (hueOf (nodeO o)) br = 1 ∧ RowsAt w2 (paint2 c w1 w2 (hueOf (nodeO o))) kv R ∧ TreeC w2 (paint2 c w1 w2 (hueOf (nodeO o))) bt A ∧ TextC w2 (paint2 c w1 w2 (hueOf (nodeO o))) bx (o :: A) ∧ CellC w2 (paint2 c w1 w2 (hueOf (nodeO o))) bc A := by
  have hS : ∀ k, k < w1.heap.size → k = bx → c k = 3 := fun k _ e => by rw [e]; exact t3
  have kp : ∀ j, j ≠ 3 → Kept c j w1 (paint2 c w1 w2 (hueOf (nodeO o))) w2 := fun j hj => kept_paint hk hS hj
  have hA : ∀ x ∈ A, errO x = 0 := fun x hx => (hs.all x hx).1
  obtain ⟨hnk, hno⟩ := hs.fresh hid
  have hpl : p < w2.heap.size := (Array.getElem?_eq_some_iff.1 hline).1
  refine ⟨h.cell.same ((kp 1 (by omega)).block _ h.cell.lt h.hue), by rw [paint2_old h.cell.lt]; exact h.hue, h.rows.kept (fun i _ => kp _ (by omega)), h.tree.kept (kp 2 (by omega)), ?_, h.marks.kept (kp 4 (by omega))⟩
  refine ⟨nx + 1, _, by simp; omega, t2, by rw [paint2_old hbx]; exact t3, fun nd => ?_, fun nd p' hp' => ?_⟩
  · rw [known_cons]
    by_cases e : nd = nodeO o
    · subst e
      rw [if_pos rfl]
      exact ⟨fun _ => .inr ⟨hkd, rfl, hid.symm⟩, fun _ => rfl⟩
    · rw [if_neg e, t4 nd]
      exact ⟨.inl, fun q => q.elim id (fun q => absurd q.2.1.symm e)⟩
  · by_cases e : nd = nodeO o
    · subst e
      rw [if_pos rfl] at hp'
      cases hp'
      refine ⟨.slice none 0 0, [], ⟨hline, World.ownsRow_nil _ _ _ _, by omega, by simp, fun l hl => by simp at hl, fun l hl => by simp at hl⟩, ?_, by rw [paint2_new hpn hpl], fun g hg => by cases hg⟩
      exact LineIs.new (fun x hx q => by
        rcases List.mem_cons.1 hx with rfl | hx
        · rw [hkd]; decide
        · exact absurd q (hno x hx))
    · rw [if_neg e] at hp'
      have hnk' := (t4 nd).1 (by rw [hp']; rfl)
      have hn4 := known_pos hA hnk'
      have hno4 := id_pos hs.ok
      obtain ⟨v2, L2, k1, k2, k4⟩ := (t5 nd p' hp').kept (kp (hueOf nd) (by unfold hueOf; omega))
      exact ⟨v2, L2, k1, k2.skip (fun q => e q.1.symm), k4⟩
end Go.Proofs.YtehighgebbdenaaGreatDoor
end
