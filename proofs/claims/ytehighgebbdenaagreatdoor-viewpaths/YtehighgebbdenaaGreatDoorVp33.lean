import Derived.Test.YtehighgebbdenaaGreatDoorVp02
import Derived.Test.YtehighgebbdenaaGreatDoorVp07
import Derived.Test.YtehighgebbdenaaGreatDoorVp32
import Derived.Sort.LoopGhostIn
import Derived.RangeFuncNested
import Derived.RangeFuncBox
import Derived.RangeFuncLeaves
import Derived.RangeFuncCalls
import Derived.Laws.ResultCell
import Derived.Shelf.LaysM
import Derived.Shelf.Strings.Search3
import Derived.Test.YtehighgebbdenaaGreatDoorProg
section
set_option linter.unusedVariables false
set_option linter.unusedSimpArgs false
namespace Go.Proofs.YtehighgebbdenaaGreatDoor
open Go.RowKit Go.Lib Go.Sort Go.Maps
open scoped Classical
set_option maxHeartbeats 1000000 in
theorem placeV (w : World) (bt bm n : Nat) (f : Sta) (node : Int) (ht : w.cell? ⟨bt, 0, none⟩ = some (.map (some bm))) (hm : MapAt Tryz.prog 3 w bm n f) (hk : Wf node) :
    Calls Tryz.prog 163 #[.pointer (some ⟨bt, 0, none⟩), .int .i64 node] w fun e w' => e = .returned (.tuple #[encP ((f node).getD zeroP), .bool (f node).isSome]) ∧ Below w.heap.size w w' := by
  have hbt : bt < w.heap.size := block_lt_of_cell ht
  have hl : ∀ o, (Instr.lookup 184 (.map (some bm)) (.int .i64 node) true).run Tryz.prog (w.alloc o) = .ok (.tuple #[encP ((f node).getD zeroP), .bool (f node).isSome]) (w.alloc o) := fun o => (hm.same (Below.heap_alloc _ _ _ hm.lt)).looks hk
  have hc : ∀ o, (w.alloc o).cell? ⟨bt, 0, none⟩ = some (.map (some bm)) := fun o => by rw [World.cell?_of_block (Below.heap_alloc w o bt hbt)]; exact ht
  generalize (f node).isSome = z at hl ⊢
  generalize (f node).getD zeroP = p at hl ⊢
  obtain ⟨c, q, nm⟩ := p
  unfold encP at hl ⊢
  dsimp only at hl ⊢
  clear ht hm hk
  go_enter Tryz.func163, Tryz.ntmps163
  go_wp2
  (try simp only [Exit.inBlock, Exit.then])
  refine bodyPost_ret (v := .tuple #[.agg #[.int .i64 c, .int .i64 q, .string nm], .bool z]) ?_ rfl ⟨rfl, ((Below.refl _ w).alloc (Nat.le_refl _) _).alloc (by simp) _⟩
  rw [results_cell_tmp rfl]
  go_simp
structure KeepUp (S : Nat → Prop) (W W' : World) : Prop where
  old : ∀ k, S k → W'.heap[k]? = W.heap[k]?
  plc : ∀ (k : Nat) (p : Plc), PlcAt W k p → W'.heap[k]? = W.heap[k]?
theorem KeepUp.refl (S : Nat → Prop) (W : World) : KeepUp S W W := ⟨fun _ _ => rfl, fun _ _ _ => rfl⟩
theorem KeepUp.trans {S : Nat → Prop} {A B C : World} (h : KeepUp S A B) (k : KeepUp S B C) : KeepUp S A C :=
  ⟨fun q hq => (k.old q hq).trans (h.old q hq), fun q p hq => (k.plc q p (hq.same (h.plc q p hq))).trans (h.plc q p hq)⟩
theorem KeepUp.below {S : Nat → Prop} {W W' : World} (hS : ∀ k, S k → k < W.heap.size) (hb : Below W.heap.size W W') : KeepUp S W W' :=
  ⟨fun k hk => hb.block k (hS k hk), fun k p h => hb.block k h.lt⟩
theorem grown_of_below {W W' : World} (hb : Below W.heap.size W W') : W.grownBy W' none := ⟨hb.os, hb.tape, hb.output, hb.size, fun i hi _ => hb.block i hi⟩
theorem lt_of_same {W W' : World} {k : Nat} (h : k < W.heap.size) (e : W'.heap[k]? = W.heap[k]?) : k < W'.heap.size := by
  rw [Array.getElem?_eq_getElem h] at e
  exact (Array.getElem?_eq_some_iff.1 e).1
def upNode (node : Int) (L : List Plc) : Nat → Int
  | 0 => node
  | k + 1 => (L.getD k zeroP).2.1
theorem up_at {f : Sta} : ∀ {L : List Plc} {node : Int}, UpL f node L → ∀ k, k ≤ L.length → f (upNode node L k) = L[k]?
  | [], node, h, 0, _ => h
  | p :: L, node, h, 0, _ => h.1
  | p :: L, node, h, k + 1, hk => by
    have ih := up_at h.2 k (by simpa using hk)
    rw [List.getElem?_cons_succ, ← ih]
    cases k with
    | zero => rfl
    | succ k => rfl
  | [], _, _, k + 1, hk => by simp at hk
set_option maxRecDepth 100000 in
set_option maxHeartbeats 4000000 in
theorem up1_in (n : Nat) (hn : 1 ≤ n) (l B1 B2 bt bm nn : Nat) (f : Sta) (node : Int) (L : List Plc) (hup : UpL f node L) (G : Good f) (hwf : Wf node) (S : Nat → Prop) (h1S : S B1) (h2S : S B2) (h3S : S bt) (h4S : S bm) (J Jx : List Nat → World → Prop)
    (hY : ∀ pre x W, J pre W → pre.length < L.length → YieldAt Fence.wide (n - 1) Tryz.prog l #[encP (L.getD x zeroP)] W fun e W' =>
      (e = .returned (.bool true) ∧ J (pre ++ [x]) W' ∧ KeepUp S W W') ∨ (e = .returned (.bool false) ∧ Jx (pre ++ [x]) W'))
    (W : World) (hJ : AbidesFrom W.heap.size J) (hS : ∀ k, S k → k < W.heap.size) (c1 : W.cell? ⟨B1, 0, none⟩ = some (.pointer (some ⟨bt, 0, none⟩))) (c2 : W.cell? ⟨B2, 0, none⟩ = some (.int .i64 node)) (ct : W.cell? ⟨bt, 0, none⟩ = some (.map (some bm))) (hm : MapAt Tryz.prog 3 W bm nn f) (h0 : J [] W) :
    CallsIn Fence.wide n Tryz.prog 162 #[.func (.yield l) #[] #[], .pointer (some ⟨B1, 0, none⟩), .pointer (some ⟨B2, 0, none⟩)] W fun e W' => (∃ v, e = .returned v) ∧
      ((∃ ys, ys = List.range L.length ∧ J ys W') ∨ (∃ pre, (∃ k, k ≤ L.length ∧ pre = List.range k) ∧ Jx pre W')) := by
  refine callsIn_of_wp Tryz.func162 rfl trivial ?_ rfl
  simp only [Tryz.ntmps162, List.size_toArray, List.length_cons, List.length_nil, Nat.reduceAdd, Nat.reduceSub, Array.replicate_succ, Array.replicate_zero, List.push_toArray, List.append_toArray, List.nil_append, List.cons_append]
  have hp0 := placeV W bt bm nn f node ct hm hwf
  have u0 := up_at hup 0 (Nat.zero_le _)
  have hz0 : (f node).isSome = decide (0 < L.length) := by
    rw [show f node = L[0]? from u0]
    cases L <;> simp
  have hg0 : (f node).getD zeroP = L.getD 0 zeroP := by rw [show f node = L[0]? from u0]; simp [List.getD]
  rw [hz0, hg0] at hp0
  clear u0 hz0 hg0
  obtain ⟨p0, hp0e⟩ : ∃ p, Aside (p = L.getD 0 zeroP) := ⟨_, rfl⟩
  have hp0e' := hp0e.out
  rw [← hp0e'] at hp0
  clear hp0e'
  obtain ⟨c, q, nm⟩ := p0
  unfold encP at hp0
  dsimp only at hp0
  have H : Aside (UpL f node L ∧ (S B1 ∧ S B2 ∧ S bt ∧ S bm) ∧ (∀ k, S k → k < W.heap.size) ∧ W.cell? ⟨bt, 0, none⟩ = some (.map (some bm)) ∧ MapAt Tryz.prog 3 W bm nn f ∧ W.cell? ⟨B1, 0, none⟩ = some (.pointer (some ⟨bt, 0, none⟩)) ∧ J [] W) := ⟨hup, ⟨h1S, h2S, h3S, h4S⟩, hS, ct, hm, c1, h0⟩
  have HJ : Aside (AbidesFrom W.heap.size J) := hJ
  have HY : Aside (∀ pre x W, J pre W → pre.length < L.length → YieldAt Fence.wide (n - 1) Tryz.prog l #[encP (L.getD x zeroP)] W fun e W' => (e = .returned (.bool true) ∧ J (pre ++ [x]) W' ∧ KeepUp S W W') ∨ (e = .returned (.bool false) ∧ Jx (pre ++ [x]) W')) := hY
  clear hup h1S h2S h3S h4S hS hm h0 hJ hY ct
  gi_wp2_with (refine ⟨trivial, ?_⟩; gi_at_call 163; refine ((callsIn_wide (n := n - 1)).2 hp0).mono ?_; rintro e w' ⟨rfl, hb⟩)
  obtain ⟨b0, hb0⟩ : ∃ b, b = w'.heap.size := ⟨_, rfl⟩
  obtain ⟨X, hX⟩ : ∃ X, X = w'.alloc (.cells #[.int .i64 c, .int .i64 q, .string nm] 106) := ⟨_, rfl⟩
  have hPX : PlcAt X b0 (L.getD 0 zeroP) := by rw [hX, hb0, ← hp0e.out]; exact heap_alloc_new w' _
  have hbX : Below W.heap.size W X := by rw [hX]; exact hb.alloc hb.size _
  rw [← hX, ← hb0]
  have H0 : Aside (PlcAt X b0 (L.getD 0 zeroP) ∧ Below W.heap.size W X) := ⟨hPX, hbX⟩
  clear hX hb0 hPX hbX hb hp0 c2
  gi_loopg [4, 5] L.length (fun kx s4 s5 wr => ∃ (k b : Nat), s4 = .pointer (some ⟨b, 0, none⟩) ∧ s5 = .bool (decide (k < L.length)) ∧ k ≤ L.length ∧ L.length - k ≤ kx ∧ Aside (J (List.range k) wr ∧ KeepUp S W wr ∧ PlcAt wr b (L.getD k zeroP)))
  case atStart => exact ⟨0, b0, rfl, rfl, Nat.zero_le _, Nat.le_refl _, HJ.out _ W X none H.out.2.2.2.2.2.2 (grown_of_below H0.out.2) (fun r e => by cases e), KeepUp.below H.out.2.2.1 H0.out.2, H0.out.1⟩
  case round =>
    obtain ⟨k, b, rfl, rfl, hk, hkx, A⟩ := hrel
    by_cases hlt : k < L.length
    · rw [decide_eq_true hlt]
      obtain ⟨p, hpe⟩ : ∃ p, Aside (p = L.getD k zeroP) := ⟨_, rfl⟩
      obtain ⟨fn, tmps, assign, body, hy, hR⟩ := HY.out (List.range k) k wr A.out.1 (by rw [List.length_range]; exact hlt)
      have hPw := A.out.2.2
      rw [← hpe.out] at hy hPw
      have hin : L[k]? = some p := by
        rw [List.getElem?_eq_getElem hlt, hpe.out, List.getD_eq_getElem?_getD, List.getElem?_eq_getElem hlt]; rfl
      have hfp : f (upNode node L k) = some p := by rw [up_at H.out.1 k hk]; exact hin
      have hwj : Wf p.2.1 := (wf_fine (G.fine _ _ hfp)).2
      have u1 := up_at H.out.1 (k + 1) hlt
      have hz1 : (f p.2.1).isSome = decide (k + 1 < L.length) := by
        have e : upNode node L (k + 1) = p.2.1 := by show (L.getD k zeroP).2.1 = _; rw [← hpe.out]
        rw [e] at u1
        rw [u1]
        by_cases q : k + 1 < L.length
        · rw [List.getElem?_eq_getElem q, decide_eq_true q]; rfl
        · rw [List.getElem?_eq_none (by omega), decide_eq_false q]; rfl
      have hg1 : (f p.2.1).getD zeroP = L.getD (k + 1) zeroP := by
        have e : upNode node L (k + 1) = p.2.1 := by show (L.getD k zeroP).2.1 = _; rw [← hpe.out]
        rw [e] at u1
        rw [u1, List.getD_eq_getElem?_getD]
      obtain ⟨nd, j, s⟩ := p
      unfold encP at hy
      dsimp only at hy hwj hz1 hg1
      have x0 := hPw.c0
      have x1 := hPw.c1
      have x2 := hPw.c2
      dsimp only at x0 x1 x2
      have HP : Aside (PlcAt wr b (nd, j, s) ∧ Wf j ∧ (f j).isSome = decide (k + 1 < L.length) ∧ (f j).getD zeroP = L.getD (k + 1) zeroP ∧ k < L.length) := ⟨hPw, hwj, hz1, hg1, hlt⟩
      have hR' : Aside (RoundIn Fence.wide (n - 1) Tryz.prog l fn tmps assign body wr fun e W' => (e = .returned (.bool true) ∧ J (List.range k ++ [k]) W' ∧ KeepUp S wr W') ∨ (e = .returned (.bool false) ∧ Jx (List.range k ++ [k]) W')) := hR
      clear hR hPw hin hfp hwj u1 hz1 hg1 hlt
      gi_wp2
      refine hR'.out.mono ?_
      clear hR' hy x0 x1 x2
      rintro e W3 (⟨rfl, hJ3, hk3⟩ | ⟨rfl, hJx3⟩)
      · have hP3 : PlcAt W3 b (nd, j, s) := HP.out.1.same (hk3.plc b _ HP.out.1)
        have hK3 : KeepUp S W W3 := A.out.2.1.trans hk3
        obtain ⟨W4, hW4⟩ : ∃ W4, W4 = W3.alloc (.cells #[.int .i64 nd, .int .i64 j, .string s] 106) := ⟨_, rfl⟩
        have hb4 : Below W3.heap.size W3 W4 := by rw [hW4]; exact (Below.refl _ W3).alloc (Nat.le_refl _) _
        have hsm : ∀ q, S q → W4.heap[q]? = W.heap[q]? := fun q hq => by
          have e3 := hK3.old q hq
          exact (hb4.block q (lt_of_same (H.out.2.2.1 q hq) e3)).trans e3
        have hpl := placeV W4 bt bm nn f j ((World.cell?_of_block (a := ⟨bt, 0, none⟩) (hsm bt H.out.2.1.2.2.1)).trans H.out.2.2.2.1) (H.out.2.2.2.2.1.same (hsm bm H.out.2.1.2.2.2)) HP.out.2.1
        rw [HP.out.2.2.1, HP.out.2.2.2.1] at hpl
        obtain ⟨p', hpe'⟩ : ∃ p, Aside (p = L.getD (k + 1) zeroP) := ⟨_, rfl⟩
        have hpe'' := hpe'.out
        rw [← hpe''] at hpl
        clear hpe''
        obtain ⟨nd', j', s'⟩ := p'
        unfold encP at hpl
        dsimp only at hpl
        have x0 := hP3.c0
        have x1 := hP3.c1
        have x2 := hP3.c2
        dsimp only at x0 x1 x2
        have y1 : W4.cell? ⟨B1, 0, none⟩ = some (.pointer (some ⟨bt, 0, none⟩)) := (World.cell?_of_block (a := ⟨B1, 0, none⟩) (hsm B1 H.out.2.1.1)).trans H.out.2.2.2.2.2.1
        rw [hW4] at y1
        have H4 : Aside (J (List.range k ++ [k]) W3 ∧ KeepUp S W W3 ∧ Below W3.heap.size W3 W4 ∧ PlcAt W4 W3.heap.size (nd, j, s) ∧ W4.heap.size = W3.heap.size + 1) := ⟨hJ3, hK3, hb4, by rw [hW4]; exact heap_alloc_new W3 _, by rw [hW4, World.size_alloc]⟩
        have z1 := H4.out.2.2.2.1.c1
        dsimp only at z1
        rw [hW4] at z1 hpl
        have hW4' := Lib.hid hW4
        clear hW4 hJ3 hk3 hK3 hb4 hsm hP3
        gi_wp2_with (refine ⟨trivial, ?_⟩; gi_at_call 163; refine ((callsIn_wide (n := n - 1)).2 hpl).mono ?_; rintro e w5 ⟨rfl, hb5⟩; rw [← hW4'.out] at hb5; have q0 := (H4.out.2.2.2.1.same (hb5.block _ H4.out.2.2.2.1.lt)).c0; have q1 := (H4.out.2.2.2.1.same (hb5.block _ H4.out.2.2.2.1.lt)).c1; have q2 := (H4.out.2.2.2.1.same (hb5.block _ H4.out.2.2.2.1.lt)).c2; have f0 := (H4.out.2.2.2.1.same (hb5.block _ H4.out.2.2.2.1.lt)).fz 0; have f1 := (H4.out.2.2.2.1.same (hb5.block _ H4.out.2.2.2.1.lt)).fz 1; have f2 := (H4.out.2.2.2.1.same (hb5.block _ H4.out.2.2.2.1.lt)).fz 2)
        gi_roundg (L.length - (k + 1))
        case measure => have := HP.out.2.2.2.2; omega
        case rel =>
          have hP5 := H4.out.2.2.2.1.same (hb5.block _ H4.out.2.2.2.1.lt)
          have hb35 : Below W3.heap.size W3 w5 := H4.out.2.2.1.trans (hb5.mono (by have := H4.out.2.2.2.2; omega))
          have hbS := PlcAt.storedBelow (nd', j', s') hb35 (Nat.le_refl _)
          refine ⟨k + 1, W3.heap.size, rfl, rfl, HP.out.2.2.2.2, Nat.le_refl _, ?_, ?_, ?_⟩
          · rw [List.range_succ]
            exact HJ.out _ W3 _ none H4.out.1 (grown_of_below hbS) (fun r e => by cases e)
          · exact ⟨fun q hq => (hbS.block q (lt_of_same (H.out.2.2.1 q hq) (H4.out.2.1.old q hq))).trans (H4.out.2.1.old q hq), fun q p hp => by
              have h3 := H4.out.2.1.plc q p hp
              exact (hbS.block q (hp.same h3).lt).trans h3⟩
          · rw [← hpe'.out]
            exact hP5.stored (nd', j', s')
      · gi_wp2
        refine bodyPost_ret (results_none rfl _ _ _) rfl ?_
        exact ⟨⟨_, rfl⟩, .inr ⟨_, ⟨k + 1, by have := HP.out.2.2.2.2; omega, (List.range_succ).symm⟩, hJx3⟩⟩
    · rw [decide_eq_false hlt]
      gi_wp2
      go_end0
      have e : k = L.length := by omega
      subst e
      exact ⟨⟨_, rfl⟩, .inl ⟨_, rfl, A.out.1⟩⟩
end Go.Proofs.YtehighgebbdenaaGreatDoor
end
section
namespace Go.Proofs
open Go.Shelf
def Tryz.lays143_ren : Go.Shelf.Ren := ⟨fun | 143 => 214 | 219 => 272 | 217 => 300 | 225 => 301 | 224 => 302 | 267 => 303 | 266 => 315 | 314 => 316 | n => n, fun | 9 => 9 | 3 => 3 | 4 => 4 | 5 => 5 | 46 => 295 | 146 => 394 | 51 => 351 | n => n, fun | 1 => 13 | n => n⟩
theorem Tryz.lays143 : Go.Proofs.Lays.n143 Tryz.prog Tryz.lays143_ren := {
  mixed := by kernel_rfl
  f143 := Tryz.func214.trans (congrArg some (by kernel_rfl))
  f217 := Tryz.func300.trans (congrArg some (by kernel_rfl))
  f219 := Tryz.func272.trans (congrArg some (by kernel_rfl))
  f224 := Tryz.func302.trans (congrArg some (by kernel_rfl))
  f225 := Tryz.func301.trans (congrArg some (by kernel_rfl))
  f266 := Tryz.func315.trans (congrArg some (by kernel_rfl))
  f267 := Tryz.func303.trans (congrArg some (by kernel_rfl))
  f314 := Tryz.func316.trans (congrArg some (by kernel_rfl))
  t3 := Tryz.underlying3
  a3 := Tryz.isAgg3
  z3 := Tryz.sizeOf3
  v3 := Tryz.zeroValue3
  t4 := Tryz.underlying4
  a4 := Tryz.isAgg4
  z4 := Tryz.sizeOf4
  v4 := Tryz.zeroValue4
  t5 := Tryz.underlying5
  a5 := Tryz.isAgg5
  z5 := Tryz.sizeOf5
  v5 := Tryz.zeroValue5
  t9 := Tryz.underlying9
  a9 := Tryz.isAgg9
  z9 := Tryz.sizeOf9
  v9 := Tryz.zeroValue9
  t46 := Tryz.underlying295
  a46 := Tryz.isAgg295
  z46 := Tryz.sizeOf295
  v46 := Tryz.zeroValue295
  t51 := Tryz.underlying351
  a51 := Tryz.isAgg351
  z51 := Tryz.sizeOf351
  v51 := Tryz.zeroValue351
  t146 := Tryz.underlying394
  a146 := Tryz.isAgg394
  z146 := Tryz.sizeOf394
  v146 := Tryz.zeroValue394
  g1 := by kernel_rfl }
open Go.RowKit Go.Lib in
theorem Tryz.strings_Index (s sub : ByteArray) (m : Int) (w : World) (hs : s.size < 4294967281) (hm : w.cell? ⟨13, 0, none⟩ = some (.int .i64 m)) :
    Calls Tryz.prog 214 #[.string s, .string sub] w fun e w' => e = .returned (.int .i64 (Lib.index s.data.toList sub.data.toList)) ∧ w' = w := Any.strings_Index Tryz.lays143 s sub m w hs hm
end Go.Proofs
end
section
set_option linter.unusedVariables false
set_option linter.unusedSimpArgs false
namespace Go.Proofs.YtehighgebbdenaaGreatDoor
open Go.RowKit Go.Lib Go.Sort Go.Maps
theorem idx_cut (p : UInt8) : ∀ s : List UInt8, (Lib.index s [p] = -1 ∧ p ∉ s) ∨ ∃ a r, s = a ++ p :: r ∧ p ∉ a ∧ Lib.index s [p] = (a.length : Int)
  | [] => .inl ⟨rfl, by simp⟩
  | b :: l => by
    by_cases h : b = p
    · exact .inr ⟨[], l, by rw [h]; rfl, by simp, by simp [Lib.index, h]⟩
    · have hp : [p].isPrefixOf (b :: l) = false := by simp [List.isPrefixOf, Ne.symm h]
      rcases idx_cut p l with ⟨h1, h2⟩ | ⟨a, r, h1, h2, h3⟩
      · exact .inl ⟨by unfold Lib.index; rw [hp, h1]; rfl, by simp [h2, Ne.symm h]⟩
      · refine .inr ⟨b :: a, r, by rw [h1]; rfl, by simp [h2, Ne.symm h], ?_⟩
        unfold Lib.index
        rw [hp, h3]
        have : ((a.length : Int) == -1) = false := by simp
        simp [this]
theorem bytes_back' (x : ByteArray) : (⟨x.data.toList.toArray⟩ : ByteArray) = x := by simp
def KeepS (S : Nat → Prop) (W W' : World) : Prop := ∀ k, S k → W'.heap[k]? = W.heap[k]?
theorem KeepS.trans {S : Nat → Prop} {A B C : World} (h : KeepS S A B) (k : KeepS S B C) : KeepS S A C := fun q hq => (k q hq).trans (h q hq)
structure SplAt (B : Nat) (m : Int) (t : ByteArray) (W : World) : Prop where
  txt : Boxed W B 9 (.string t)
  sep : Boxed W (B + 1) 9 (.string ⟨#[47]⟩)
  num : Boxed W (B + 1 + 1) 3 (.int .i64 0)
  max : W.cell? ⟨13, 0, none⟩ = some (.int .i64 m)
def splS (B k : Nat) : Prop := k = B ∨ k = B + 1 ∨ k = B + 1 + 1 ∨ k = 13
theorem SplAt.keep {B : Nat} {m : Int} {t : ByteArray} {W W' : World} (h : SplAt B m t W) (hk : KeepS (splS B) W W') : SplAt B m t W' :=
  ⟨(hk B (.inl rfl)).trans h.txt, (hk (B + 1) (.inr (.inl rfl))).trans h.sep, (hk (B + 1 + 1) (.inr (.inr (.inl rfl)))).trans h.num, (World.cell?_of_block (a := ⟨13, 0, none⟩) (hk _ (.inr (.inr (.inr rfl))))).trans h.max⟩
theorem SplAt.set {B : Nat} {m : Int} {t : ByteArray} {W : World} (h : SplAt B m t W) (hB : B ≠ 13) (t' : ByteArray) : SplAt B m t' (W.setCell ⟨B, 0, none⟩ (.string t')) :=
  ⟨h.txt.set _, h.sep.other (by omega) _, h.num.other (by omega) _, (World.cell?_of_block (a := ⟨13, 0, none⟩) ((grownBy_setCell' W B _).block _ (World.block_lt_of_cell? W ⟨13, 0, none⟩ h.max) (fun e => by cases e; exact hB rfl))).trans h.max⟩
set_option maxRecDepth 100000 in
set_option maxHeartbeats 4000000 in
theorem split1_in (n : Nat) (hn : 1 ≤ n) (l B : Nat) (m : Int) (hB : B ≠ 13) (s : ByteArray) (hs : s.size ≤ 1000000) (J Jx : List (List UInt8) → World → Prop) (hJ : StabM (fun r => r = B) J)
    (hY : ∀ pre x W, J pre W → pre.length < (cutP 47 s.data.toList).length → YieldAt Fence.wide (n - 1) Tryz.prog l #[.string ⟨x.toArray⟩] W fun e W' => (e = .returned (.bool true) ∧ J (pre ++ [x]) W' ∧ KeepS (splS B) W W') ∨ (e = .returned (.bool false) ∧ Jx (pre ++ [x]) W'))
    (W : World) (h : SplAt B m s W) (h0 : J [] W) :
    CallsIn Fence.wide n Tryz.prog 212 #[.func (.yield l) #[] #[], .pointer (some ⟨B + 1, 0, none⟩), .pointer (some ⟨B, 0, none⟩), .pointer (some ⟨B + 1 + 1, 0, none⟩)] W fun e W' => (∃ v, e = .returned v) ∧ ((∃ xs, xs = cutP 47 s.data.toList ∧ J xs W') ∨ ∃ pre, (∃ rest, pre ++ rest = cutP 47 s.data.toList) ∧ Jx pre W') := by
  refine callsIn_of_wp Tryz.func212 rfl trivial ?_ rfl
  simp only [Tryz.ntmps212, List.size_toArray, List.length_cons, List.length_nil, Nat.reduceAdd, Nat.reduceSub, Array.replicate_succ, Array.replicate_zero, List.push_toArray, List.append_toArray, List.nil_append, List.cons_append]
  have g0 := h.sep.cell
  have H : Aside (SplAt B m s W ∧ J [] W) := ⟨h, h0⟩
  have HJ : Aside (StabM (fun r => r = B) J) := hJ
  have HY : Aside (∀ pre x W, J pre W → pre.length < (cutP 47 s.data.toList).length → YieldAt Fence.wide (n - 1) Tryz.prog l #[.string ⟨x.toArray⟩] W fun e W' => (e = .returned (.bool true) ∧ J (pre ++ [x]) W' ∧ KeepS (splS B) W W') ∨ (e = .returned (.bool false) ∧ Jx (pre ++ [x]) W')) := hY
  clear h h0 hJ hY
  gi_wp2
  gi_loopg [7, 8] s.size (fun kx _ _ wr => ∃ (t : ByteArray) (pre : List (List UInt8)), t.size ≤ kx ∧ t.size ≤ s.size ∧ Aside (SplAt B m t wr ∧ J pre wr ∧ pre ++ cutP 47 t.data.toList = cutP 47 s.data.toList))
  case atStart => exact ⟨s, [], Nat.le_refl _, Nat.le_refl _, H.out.1, H.out.2, rfl⟩
  case round =>
    obtain ⟨t, pre, htk, hts, A⟩ := hrel
    have c0 := A.out.1.txt.cell
    have c1 := A.out.1.sep.cell
    have c2 := A.out.1.num.cell
    have hidx := Tryz.strings_Index t ⟨#[47]⟩ m wr (by omega) A.out.1.max
    have hc := idx_cut 47 t.data.toList
    have e47 : (⟨#[47]⟩ : ByteArray).data.toList = [47] := rfl
    rw [e47] at hidx
    clear e47
    rcases hc with ⟨hi, hno⟩ | ⟨a, r, ht, hno, hi⟩
    · rw [hi] at hidx
      obtain ⟨fn, tmps, assign, body, hy, hR⟩ := HY.out pre t.data.toList wr A.out.2.1 (by rw [← A.out.2.2, cutP_plain _ _ hno]; simp)
      rw [bytes_back'] at hy
      have hR' : Aside (RoundIn Fence.wide (n - 1) Tryz.prog l fn tmps assign body wr fun e W' => (e = .returned (.bool true) ∧ J (pre ++ [t.data.toList]) W' ∧ KeepS (splS B) wr W') ∨ (e = .returned (.bool false) ∧ Jx (pre ++ [t.data.toList]) W')) := hR
      clear hR
      gi_wp2_with (refine ⟨trivial, ?_⟩; gi_at_call 214; refine ((callsIn_wide (n := n - 1)).2 hidx).mono ?_; rintro e w' ⟨rfl, rfl⟩)
      refine hR'.out.mono ?_
      clear hR' hy c0 c1 c2
      rintro e W3 (⟨rfl, hJ3, _⟩ | ⟨rfl, hJx3⟩)
      · gi_wp2
        go_end0
        exact ⟨⟨_, rfl⟩, .inl ⟨_, rfl, by rw [← A.out.2.2, cutP_plain _ _ hno]; exact hJ3⟩⟩
      · gi_wp2
        go_end0
        exact ⟨⟨_, rfl⟩, .inr ⟨_, ⟨[], by rw [List.append_nil, ← A.out.2.2, cutP_plain _ _ hno]⟩, hJx3⟩⟩
    · rw [hi] at hidx
      have hlen : t.size = a.length + 1 + r.length := by
        have := listLen t
        rw [ht] at this
        simp only [List.length_append, List.length_cons] at this
        omega
      have hcut : pre ++ (a :: cutP 47 r) = cutP 47 s.data.toList := by rw [← A.out.2.2, ht, cutP_append _ _ _ hno]
      obtain ⟨fn, tmps, assign, body, hy, hR⟩ := HY.out pre a wr A.out.2.1 (by rw [← hcut]; simp)
      have hR' : Aside (RoundIn Fence.wide (n - 1) Tryz.prog l fn tmps assign body wr fun e W' => (e = .returned (.bool true) ∧ J (pre ++ [a]) W' ∧ KeepS (splS B) wr W') ∨ (e = .returned (.bool false) ∧ Jx (pre ++ [a]) W')) := hR
      have efrag : t.extract 0 a.length = ⟨a.toArray⟩ := by
        apply ByteArray.ext
        apply Array.toList_inj.1
        simp [ht]
      have erest : t.extract (a.length + 1) t.size = ⟨r.toArray⟩ := by
        apply ByteArray.ext
        apply Array.toList_inj.1
        rw [hlen]
        simp [ht]
      have p1 : (0 : Int) ≤ (a.length : Int) := by omega
      have p2 : (a.length : Int) ≤ (t.size : Int) := by omega
      have p3 : (a.length : Int) + 1 ≤ (t.size : Int) := by omega
      have w0 : IntKind.i64.wrap ((a.length : Int) + 0) = (a.length : Int) := by rw [IntKind.wrap_i64]; omega
      have w1 : IntKind.i64.wrap ((a.length : Int) + 1) = (a.length : Int) + 1 := by rw [IntKind.wrap_i64]; omega
      have d0 : decide ((a.length : Int) < 0) = false := by simp
      have HA : Aside (t.data.toList = a ++ 47 :: r ∧ t.size = a.length + 1 + r.length ∧ pre ++ (a :: cutP 47 r) = cutP 47 s.data.toList) := ⟨ht, hlen, hcut⟩
      clear hR ht hlen hcut hi hno
      gi_wp2_with (refine ⟨trivial, ?_⟩; gi_at_call 214; refine ((callsIn_wide (n := n - 1)).2 hidx).mono ?_; rintro e w' ⟨rfl, rfl⟩)
      refine hR'.out.mono ?_
      clear hR' hy c0 c1 c2
      rintro e W3 (⟨rfl, hJ3, hk3⟩ | ⟨rfl, hJx3⟩)
      · have S3 := A.out.1.keep hk3
        have c0 := S3.txt.cell
        have c1 := S3.sep.cell
        have f0 := S3.txt.frozen
        have H3 : Aside (SplAt B m t W3 ∧ J (pre ++ [a]) W3) := ⟨S3, hJ3⟩
        clear S3 hJ3 hk3
        gi_wp2
        gi_roundg r.length
        case measure => have := HA.out.2.1; omega
        case rel =>
          have er : (⟨r.toArray⟩ : ByteArray).size = r.length := by simp [ByteArray.size]
          refine ⟨⟨r.toArray⟩, pre ++ [a], by omega, by have := HA.out.2.1; omega, H3.out.1.set hB _, HJ.out _ W3 _ (some B) H3.out.2 (grownBy_setCell' W3 B _) (fun q e => by cases e; rfl), ?_⟩
          rw [← HA.out.2.2, List.append_assoc]
          rfl
      · gi_wp2
        refine bodyPost_ret (results_none rfl _ _ _) rfl ?_
        exact ⟨⟨_, rfl⟩, .inr ⟨_, ⟨cutP 47 r, by rw [← HA.out.2.2, List.append_assoc]; rfl⟩, hJx3⟩⟩
theorem split_seq (n : Nat) (hn : 1 ≤ n) (B : Nat) (m : Int) (hB : B ≠ 13) (s : ByteArray) (hs : s.size ≤ 1000000) (w : World) (h : SplAt B m s w) :
    SeqM n Tryz.prog 212 #[.pointer (some ⟨B + 1, 0, none⟩), .pointer (some ⟨B, 0, none⟩), .pointer (some ⟨B + 1 + 1, 0, none⟩)] (fun r => r = B) (fun x : List UInt8 => .string ⟨x.toArray⟩) (KeepS (splS B)) (fun xs => xs = cutP 47 s.data.toList) (fun pre => ∃ rest, pre ++ rest = cutP 47 s.data.toList) (cutP 47 s.data.toList).length w := fun l J Jx W hW hJ _ hY h0 => by
  refine split1_in n hn l B m hB s hs J Jx hJ hY W (h.keep fun k hk => hW.block k ?_) h0
  rcases hk with rfl | rfl | rfl | rfl
  · exact h.txt.lt
  · exact h.sep.lt
  · exact h.num.lt
  · exact World.block_lt_of_cell? w ⟨13, 0, none⟩ h.max
theorem splitSeq_any (w : World) (s : ByteArray) : Calls Tryz.prog 91 #[.string s, .string ⟨#[47]⟩] w fun e w' => e = .returned (.func (.func 212) #[] #[.pointer (some ⟨w.heap.size + 1, 0, none⟩), .pointer (some ⟨w.heap.size, 0, none⟩), .pointer (some ⟨w.heap.size + 1 + 1, 0, none⟩)]) ∧ w' = ((w.alloc (.cells #[.string s] 9)).alloc (.cells #[.string ⟨#[47]⟩] 9)).alloc (.cells #[.int .i64 0] 3) := by
  have h1 : Calls Tryz.prog 161 #[.string s, .string ⟨#[47]⟩, .int .i64 0] w fun e w' => e = .returned (.func (.func 212) #[] #[.pointer (some ⟨w.heap.size + 1, 0, none⟩), .pointer (some ⟨w.heap.size, 0, none⟩), .pointer (some ⟨w.heap.size + 1 + 1, 0, none⟩)]) ∧ w' = ((w.alloc (.cells #[.string s] 9)).alloc (.cells #[.string ⟨#[47]⟩] 9)).alloc (.cells #[.int .i64 0] 3) := by
    go_enter Tryz.func161, Tryz.ntmps161
    go_wp2
    go_ret
    exact ⟨rfl, rfl⟩
  go_enter Tryz.func91, Tryz.ntmps91
  go_wp2_with fail
  refine h1.mono ?_
  clear h1
  rintro e w' ⟨rfl, rfl⟩
  go_wp2
  go_ret
  exact ⟨rfl, rfl⟩
end Go.Proofs.YtehighgebbdenaaGreatDoor
end
section
set_option linter.unusedVariables false
set_option linter.unusedSimpArgs false
namespace Go.Proofs.YtehighgebbdenaaGreatDoor
open Go.RowKit Go.Lib Go.Sort Go.Maps
open scoped Classical
def LeadsTo (qs : List Plc) (a : Int) (nm : List UInt8) (b : Int) : Prop := ∃ es k e, IsEnt qs a es ∧ es[k]? = some e ∧ e.1.data.toList = nm ∧ (∀ (j : Nat) y, j < k → es[j]? = some y → y.1.data.toList ≠ nm) ∧ e.2 = b
def NoLead (qs : List Plc) (a : Int) (nm : List UInt8) : Prop := ∃ es, IsEnt qs a es ∧ ∀ e ∈ es, e.1.data.toList ≠ nm
def WalkTo (qs : List Plc) : Int → List (List UInt8) → Int → Prop
  | a, [], b => a = b
  | a, nm :: r, b => ∃ c, LeadsTo qs a nm c ∧ WalkTo qs c r b
theorem WalkTo.snoc {qs : List Plc} : ∀ {pre : List (List UInt8)} {a b c : Int} {nm : List UInt8}, WalkTo qs a pre b → LeadsTo qs b nm c → WalkTo qs a (pre ++ [nm]) c
  | [], a, b, c, nm, h, k => ⟨c, by rw [show a = b from h]; exact k, rfl⟩
  | x :: pre, a, b, c, nm, ⟨d, h1, h2⟩, k => ⟨d, h1, h2.snoc k⟩
end Go.Proofs.YtehighgebbdenaaGreatDoor
end
