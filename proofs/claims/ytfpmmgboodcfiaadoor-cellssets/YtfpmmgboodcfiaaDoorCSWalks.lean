/- The walk of the law CellsSets. -/
import Derived.Test.YtfpmmgboodcfiaaDoorRefMarkSet
import Derived.Test.YtfpmmgboodcfiaaDoorCellLaw
import Derived.Test.YtfpmmgboodcfiaaDoorCodedE
import Derived.BigQuiet
import Derived.Deep.LoopGhost
import Derived.Deep.Cut
namespace Go.Proofs.YtfpmmgboodcfiaaDoor
open Go.RowKit Go.Lib Go.Sort Go.Maps

theorem longs60 (w : World) (ao : Option Addr) (cap : Nat) (xs : List OpX) (h : OpsIn w ao xs) (hn : xs.length < 9223372036854775808) :
    Calls Tryd.prog 6 #[.slice ao xs.length cap, .int .i64 60] w fun e w' => (e = .returned (.int .i64 1) ∨ (e = .returned (.int .i64 0) ∧ xs.length ≤ 60 ∧ ∀ j, j < xs.length → Short xs[j]!)) ∧ w' = w := longN 60 w ao cap xs h hn
theorem eqStC (a b c d : Int) (w : World) : (Op.equalIn 10000 36 (.agg #[.int .i64 a, .int .i64 b]) (.agg #[.int .i64 c, .int .i64 d])).run Tryd.prog w = .ok (decide ((a, b) = (c, d))) w := by
  go_simp
  by_cases h1 : a = c <;> by_cases h2 : b = d <;> simp [h1, h2]
theorem OpsIn.eight {w : World} {ao : Option Addr} {xs : List OpX} (h : OpsIn w ao xs) {i : Nat} (hi : i < xs.length) : ∃ (blk off : Nat) (t b m : Int) (kd : Nat) (node other : Int) (name value : ByteArray), ao = some ⟨blk, off, none⟩ ∧ Eight w blk (off + i * 8) t b m kd node other name value ∧ Aside (xs[i]! = (t, b, m, kd, node, other, name, value)) := by
  obtain ⟨blk, off, rfl, hc⟩ : ∃ b off, ao = some ⟨b, off, none⟩ ∧ ∀ j u, (cellsOf xs)[j]? = some u → w.cell? ⟨b, off + j, none⟩ = some u := by
    rcases h with h0 | h1
    · subst h0; simp at hi
    · exact h1
  obtain ⟨⟨t, b, m, kd, node, other, name, value⟩, hx⟩ : ∃ x, xs[i]! = x := ⟨_, rfl⟩
  exact ⟨blk, off, t, b, m, kd, node, other, name, value, rfl, eight_at hc i hi hx, hx⟩
theorem setE_le (x : OpX) : setE_ x ≤ 12 := by
  unfold setE_ errO
  have := opE_le x.1 x.2.1 x.2.2.1 x.2.2.2.1 x.2.2.2.2.1 x.2.2.2.2.2.1 x.2.2.2.2.2.2.1.data.toList x.2.2.2.2.2.2.2.data.toList
  split
  · split <;> omega
  · exact this

/-- The cells and the reference's marks, side by side. -/
structure CS (w : World) (B i : Nat) (f : CSta) (v : Value) (L : List (CKey × CMark)) (wr : World) : Prop where
  c : CellsAt wr (B + 1) B i f
  m : MksAt (B + 3) wr (B + 2) v L
  ls : Lists f L
  below : Below w.heap.size w wr
  low : w.heap.size ≤ B
theorem CS.size {w wr : World} {B i : Nat} {f : CSta} {v : Value} {L : List (CKey × CMark)} (h : CS w B i f v L wr) : B + 3 ≤ wr.heap.size := h.m.lt
theorem CS.later {w wr wn : World} {B i : Nat} {f : CSta} {v : Value} {L : List (CKey × CMark)} (h : CS w B i f v L wr) (hb : Below wr.heap.size wr wn) : CS w B i f v L wn :=
  ⟨h.c.later hb, h.m.later hb, h.ls, h.below.trans (hb.mono h.below.size), h.low⟩
/-- Behind the program's Set. -/
theorem CS.half {w wr w1 : World} {B i : Nat} {f : CSta} {v : Value} {L : List (CKey × CMark)} {x : OpX} (h : CS w B i f v L wr) (h1 : SetOk wr (B + 1) B i f x w1) : MksAt (B + 3) w1 (B + 2) v L ∧ Below w.heap.size w w1 ∧ B + 3 ≤ w1.heap.size := by
  have hs := h.size
  have hl := h.low
  refine ⟨h.m.same (h1.2.block _ (by omega) (by omega)) (fun g hg => h1.2.block g (h.m.ne g hg).2.1 (by have := (h.m.ne g hg).2.2; omega)), h.below.trans (h1.2.below h.below.size (fun k e => by omega)), by have := h1.2.size; omega⟩
/-- Behind both. -/
theorem CS.step {w wr w1 w2 : World} {B i : Nat} {f : CSta} {v : Value} {L : List (CKey × CMark)} {x : OpX} (h : CS w B i f v L wr) (h1 : SetOk wr (B + 1) B i f x w1) (h2 : LaidIn (B + 3) w1 (B + 2) v (rsetL L x) w2) : ∃ v', CS w B (i + 1) (stepO f x) v' (rsetL L x) w2 := by
  obtain ⟨v', hm, hk, hv⟩ := h2
  have hs := h.size
  have hl := h.low
  obtain ⟨hm1, hb1, hs1⟩ := h.half h1
  have hne : ∀ g, some g = v.ownBlock → B + 3 ≤ g := fun g e => (hm1.ne g e.symm).2.2
  have hS : ∀ k, (k = B + 2 ∨ some k = v.ownBlock) → B + 2 ≤ k := fun k e => by
    rcases e with e | e
    · omega
    · have := hne k e
      omega
  exact ⟨v', h1.1.same (hk.block _ (by omega) (fun e => by have := hS _ e; omega)) (hk.block _ (by omega) (fun e => by have := hS _ e; omega)), hm, (h.ls.set x).1, hb1.trans (hk.below hb1.size (fun k e => by have := hS k e; omega)), h.low⟩
theorem belowM {B : Nat} {w w' : World} (h : Below B w w') (q : Nat) : Below B w (w'.drewN q) := ⟨h.os, h.tape, h.output, h.size, h.block⟩

set_option maxRecDepth 100000 in
set_option maxHeartbeats 8000000 in
theorem sets_law {Be : Nat} {ad : Nat → Addr} (w : World) (ao : Option Addr) (cap : Nat) (xs : List OpX) (node : Int) (name : ByteArray) (hE : Errs Be ad w) (hX : OpsIn w ao xs) (hxn : xs.length < 9223372036854775808) (hnode : (Lit.int .i64 node).wf = true) :
    Calls Tryd.prog 3 #[.slice ao xs.length cap, .int .i64 node, .string name] w fun e w' => e = .returned (.bool true) ∧ Below w.heap.size w w' := by
  have HE : Aside (Errs Be ad w) := hE
  have HX : Aside (OpsIn w ao xs) := hX
  have HN : Aside ((Lit.int .i64 node).wf = true) := hnode
  clear hE hX hnode
  go_enter Tryd.func3, Tryd.ntmps3
  go_wp2_with fail
  refine (celled_any w HE.out.op4).mono ?_
  rintro e w1 ⟨rfl, hb1⟩
  have B1 : Aside (Below w.heap.size w w1) := hb1
  clear hb1
  go_wp2_with fail
  refine (longs60 w1 ao cap xs (HX.out.later B1.out) hxn).mono ?_
  rintro e w2 ⟨he, hw⟩
  subst hw
  rcases he with rfl | ⟨rfl, hx60, hshort⟩
  · go_wp2
    go_ret
    exact ⟨rfl, B1.out⟩
  have HS : Aside (∀ j, j < xs.length → Short xs[j]!) := hshort
  clear hshort
  by_cases hn60 : (60 : Int) < (name.size : Int)
  · have dn : decide ((60 : Int) < (name.size : Int)) = true := decide_eq_true hn60
    go_wp2
    go_ret
    exact ⟨rfl, B1.out⟩
  have dn : decide ((60 : Int) < (name.size : Int)) = false := decide_eq_false hn60
  have HK : Aside (WfK (node, name)) := ⟨HN.out, by simp only [maxLen]; omega⟩
  go_wp2_with fail
  refine (new_cells w2).mono ?_
  rintro e w3 ⟨rfl, hs3, hc3, hb3⟩
  obtain ⟨B, hB⟩ : ∃ B, Aside (w2.heap.size = B) := ⟨_, rfl⟩
  rw [hB.out] at hs3 hc3 ⊢
  have A0 : Aside (∀ o, o = Obj.cells #[.slice none 0 0] 30 → CS w B 0 noC (.slice none 0 0) [] (w3.alloc o)) := by
    rintro o rfl
    have hba : Below w3.heap.size w3 (w3.alloc (.cells #[.slice none 0 0] 30)) := (Below.refl _ w3).alloc (Nat.le_refl _) _
    have h1 := B1.out.size
    have h2 := hB.out
    refine ⟨hc3.later hba, ⟨by rw [← hs3]; exact heap_alloc_new w3 _, World.ownsRow_nil _ _ _ _, by omega⟩, lists_none, ?_, by omega⟩
    exact (B1.out.trans (hb3.mono h1)).alloc (by omega) _
  have H3 : Aside (w3.heap.size = B + 2) := hs3
  clear hs3 hc3 hb3
  go_wp2
  rw [H3.out]
  have A1 := Lib.hid (A0.out _ rfl)
  generalize w3.alloc (.cells #[.slice none 0 0] 30) = w4 at A1 ⊢
  clear dn A0 H3 B1
  go_loopg [10, 11, 12, 13, 14] xs.length (fun kx s10 s11 s12 s13 s14 wr => ∃ (i : Nat) (f : CSta) (v : Value) (L : List (CKey × CMark)) (o11 o12 o13 o14 : Value), s10 = .int .i64 (i : Int) ∧ o11 = s11 ∧ o12 = s12 ∧ o13 = s13 ∧ o14 = s14 ∧ i ≤ xs.length ∧ xs.length - i ≤ kx ∧ L.length ≤ i ∧ Aside (CS w B i f v L wr))
  case atStart => exact ⟨0, _, _, [], _, _, _, _, rfl, rfl, rfl, rfl, rfl, Nat.zero_le _, Nat.le_refl _, by simp, A1.out⟩
  case round =>
    obtain ⟨i, f, v, L, o11, o12, o13, o14, rfl, rfl, rfl, rfl, rfl, hix, hkx, hLi, A⟩ := hrel
    clear A1
    obtain ⟨u, hu⟩ : ∃ u, u = wr := ⟨_, rfl⟩
    subst hu
    by_cases hlt : i < xs.length
    · have hltz : decide ((i : Int) < (xs.length : Int)) = true := by simp; omega
      have ex : ((i : Int)).toNat = i := by omega
      have px : (0 : Int) ≤ (i : Int) := by omega
      have bx : (i : Int) < (xs.length : Int) := by omega
      obtain ⟨blk, off, t, b, m, kd, nd, ot, nm, vl, rfl, E1, hx1⟩ := (HX.out.later A.out.below).eight hlt
      obtain ⟨f0, f1, f2, f3, f4, f5, f6, f7⟩ := E1
      have hsh := HS.out i hlt
      rw [hx1.out] at hsh
      obtain ⟨sh1, sh2⟩ := hsh
      dsimp only at sh1 sh2
      have hset := cset_all (ad := ad) u (B + 1) B i f t b m kd nd ot nm vl (HE.out.later A.out.below).op4 A.out.c (by omega) (by omega) (by omega)
      go_wp2_with fail
      refine hset.mono ?_
      clear hset f0 f1 f2 f3 f4 f5 f6 f7
      rintro e u1 ⟨rfl, hok⟩
      obtain ⟨hm1, hb1, hs1⟩ := A.out.half hok
      obtain ⟨blk', off', t2, b2, m2, kd2, nd2, ot2, nm2, vl2, hao, E2, hx2⟩ := (HX.out.later hb1).eight hlt
      obtain ⟨rfl, rfl⟩ : blk = blk' ∧ off = off' := by simpa using hao
      have hxx := hx1.out.symm.trans hx2.out
      simp only [Prod.mk.injEq] at hxx
      obtain ⟨rfl, rfl, rfl, rfl, rfl, rfl, rfl, rfl⟩ := hxx
      obtain ⟨f0, f1, f2, f3, f4, f5, f6, f7⟩ := E2
      have hrs := mset_any u1 (B + 3) (B + 2) v L t b m kd nd ot nm vl hm1 hs1 (by omega) (by omega) (by omega)
      have HO : Aside (SetOk u (B + 1) B i f (t, b, m, kd, nd, ot, nm, vl) u1) := hok
      clear hao hm1 hb1 hs1 hok
      go_wp2_with fail
      refine hrs.mono ?_
      clear hrs f0 f1 f2 f3 f4 f5 f6 f7
      rintro e u2 ⟨rfl, hla⟩
      obtain ⟨v', hcs⟩ := A.out.step HO.out hla
      have hsd := (A.out.ls.set (t, b, m, kd, nd, ot, nm, vl)).2
      have hln := rsetL_len L (t, b, m, kd, nd, ot, nm, vl)
      rw [hsd]
      have hcod := coded_e (setE_ (t, b, m, kd, nd, ot, nm, vl)) u2 (HE.out.later hcs.below) (setE_le _)
      have A2 : Aside (CS w B (i + 1) (stepO f (t, b, m, kd, nd, ot, nm, vl)) v' (rsetL L (t, b, m, kd, nd, ot, nm, vl)) u2 ∧ (rsetL L (t, b, m, kd, nd, ot, nm, vl)).length ≤ i + 1) := ⟨hcs, by omega⟩
      clear hla hcs hsd hln HO
      generalize stepO f (t, b, m, kd, nd, ot, nm, vl) = f' at A2
      generalize rsetL L (t, b, m, kd, nd, ot, nm, vl) = L' at A2
      generalize setD f (t, b, m, kd, nd, ot, nm, vl) = zd
      generalize setE_ (t, b, m, kd, nd, ot, nm, vl) = er at hcod ⊢
      go_wp2_with fail
      refine hcod.mono ?_
      clear hcod
      rintro e u3 ⟨rfl, hb3⟩
      have A3 : Aside (CS w B (i + 1) f' v' L' u3 ∧ L'.length ≤ i + 1) := ⟨A2.out.1.later hb3, A2.out.2⟩
      have dz : (zd != zd) = false := by simp
      clear hb3 A2
      go_wp2
      go_roundg (xs.length - (i + 1))
      case measure => omega
      case rel => exact ⟨i + 1, f', v', L', _, _, _, _, by go_num, rfl, rfl, rfl, rfl, by omega, Nat.le_refl _, A3.out.2, A3.out.1⟩
    · have hltz : decide ((i : Int) < (xs.length : Int)) = false := by simp; omega
      go_wp2_with fail
      refine (marks_any u (B + 1) B i f A.out.c (by omega)).mono ?_
      rintro e u1 ⟨ap, cp, qs, rfl, hM, -, hIp, hb1⟩
      obtain rfl := hM.unique A.out.ls.shown
      have A1 := Lib.hid (A.out.later hb1)
      have hsm := same_marks u1 ap cp (B + 3) (B + 2) v L hIp A1.out.m (by omega)
      clear hM hIp hb1 A
      go_wp2_with fail
      refine hsm.mono ?_
      clear hsm
      rintro e u2 ⟨rfl, hb2⟩
      have A2 := Lib.hid (A1.out.later hb2)
      clear hb2 A1
      have hget := get_any u2 (B + 1) B i f node name A2.out.c HK.out
      obtain ⟨⟨v0, t0, b0⟩, hx0⟩ : ∃ x, Aside ((f (node, name)).getD zeroC = x) := ⟨_, rfl⟩
      obtain ⟨z, hz0⟩ : ∃ z, Aside ((f (node, name)).isSome = z) := ⟨_, rfl⟩
      rw [hx0.out, hz0.out] at hget
      go_wp2_with fail
      refine hget.mono ?_
      clear hget
      rintro e u3 ⟨rfl, hb3⟩
      have A3 := Lib.hid (A2.out.later hb3)
      clear hb3 A2
      obtain ⟨Y, hY⟩ : ∃ Y, Aside (u3.heap.size = Y) := ⟨_, rfl⟩
      have A4 : Aside (∀ o, o = Obj.cells #[.int .i64 t0, .int .i64 b0] 36 → CS w B i f v L (u3.alloc o) ∧ (u3.alloc o).heap[Y]? = some (.cells #[.int .i64 t0, .int .i64 b0] 36 (0, 0))) := by
        rintro o rfl
        refine ⟨A3.out.later ((Below.refl _ u3).alloc (Nat.le_refl _) _), ?_⟩
        rw [← hY.out]
        exact heap_alloc_new u3 _
      go_wp2
      rw [hY.out]
      have A5 := Lib.hid (A4.out _ rfl)
      generalize u3.alloc (.cells #[.int .i64 t0, .int .i64 b0] 36) = u5 at A5 ⊢
      clear A4 A3
      go_loopg [18] L.length (fun kx s18 wr => ∃ (j : Nat), s18 = .int .i64 (j : Int) ∧ j ≤ L.length ∧ L.length - j ≤ kx ∧ Aside ((∀ (k : Nat) m, k < j → L[k]? = some m → m.1 ≠ (node, name)) ∧ Below u5.heap.size u5 wr))
      case atStart => exact ⟨0, rfl, Nat.zero_le _, Nat.le_refl _, fun k m hk => by omega, Below.refl _ _⟩
      case round =>
        obtain ⟨j, rfl, hj, hjx, A⟩ := hrel
        obtain ⟨u6', hu6⟩ : ∃ u6', u6' = wr := ⟨_, rfl⟩
        subst hu6
        have hC := A5.out.1.later A.out.2
        have p0 := hC.m.c0
        obtain ⟨la, lc, rfl⟩ := rowIs hC.m.row
        have hyb : u6'.heap[Y]? = some (.cells #[.int .i64 t0, .int .i64 b0] 36 (0, 0)) := (A.out.2.block Y (Array.getElem?_eq_some_iff.1 A5.out.2).1).trans A5.out.2
        have y0 : u6'.cell? ⟨Y, 0, none⟩ = some (.int .i64 t0) := by simp [World.cell?, hyb]
        have y1 : u6'.cell? ⟨Y, 1, none⟩ = some (.int .i64 b0) := by simp [World.cell?, hyb]
        by_cases hlj : j < L.length
        · have hjz : decide ((j : Int) < (L.length : Int)) = true := by simp; omega
          have hjn : decide (j < L.length) = true := decide_eq_true hlj
          have ej : ((j : Int)).toNat = j := by omega
          have pj : (0 : Int) ≤ (j : Int) := by omega
          have bj : (j : Int) < (L.length : Int) := by omega
          obtain ⟨⟨⟨a, s⟩, ⟨c, ⟨t, b⟩⟩⟩, hl⟩ : ∃ l, Aside (L[j]? = some l) := ⟨L[j], List.getElem?_eq_getElem hlj⟩
          obtain ⟨blk, off, rfl, f0, f1, f2, f3, f4⟩ := (rowIn encQ_len hC.m.row).mark hl.out
          have HLS : Aside (Lists f L ∧ Below w.heap.size w u6') := ⟨hC.ls, hC.below⟩
          clear hC hyb
          by_cases h1 : a = node
          · have d1 : (a == node) = true := by simp [h1]
            by_cases h2 : s = name
            · have d2 : (s.toList == name.toList) = true := (beqBytes_eq _ _).trans (decide_eq_true h2)
              subst h1 h2
              have hf := HLS.out.1.first hl.out
              dsimp only at hf
              have e1 := hx0.out
              have e2 := hz0.out
              rw [hf] at e1 e2
              simp only [Option.getD_some, Option.isSome_some, Prod.mk.injEq] at e1 e2
              obtain ⟨rfl, rfl, rfl⟩ := e1
              subst e2
              have hq : ∀ w, (Op.equalIn 10000 36 (.agg #[.int .i64 t, .int .i64 b]) (.agg #[.int .i64 t, .int .i64 b])).run Tryd.prog w = .ok true w := fun w => by rw [eqStC]; simp
              have q1 : (c.toList == c.toList) = true := by simp
              clear hf
              go_wp2_with fail
              go_quiet (fail)
              go_wp2
              go_ret
              exact ⟨rfl, belowM HLS.out.2 _⟩
            · have d2 : (s.toList == name.toList) = false := (beqBytes_eq _ _).trans (decide_eq_false h2)
              have HK2 := Lib.hid (show (a, s) ≠ (node, name) from fun e => h2 (Prod.mk.inj e).2)
              clear h1 h2
              go_wp2
              go_roundg (L.length - (j + 1))
              case measure => omega
              case rel =>
                refine ⟨j + 1, by go_num, by omega, Nat.le_refl _, fun k m hk e => ?_, A.out.2⟩
                rcases Nat.lt_or_ge k j with q | q
                · exact A.out.1 k m q e
                · obtain rfl : k = j := by omega
                  rw [hl.out] at e
                  cases e
                  exact HK2.out
          · have d1 : (a == node) = false := by simp [h1]
            have HK2 := Lib.hid (show (a, s) ≠ (node, name) from fun e => h1 (Prod.mk.inj e).1)
            clear h1
            go_wp2
            go_roundg (L.length - (j + 1))
            case measure => omega
            case rel =>
              refine ⟨j + 1, by go_num, by omega, Nat.le_refl _, fun k m hk e => ?_, A.out.2⟩
              rcases Nat.lt_or_ge k j with q | q
              · exact A.out.1 k m q e
              · obtain rfl : k = j := by omega
                rw [hl.out] at e
                cases e
                exact HK2.out
        · have hjz : decide ((j : Int) < (L.length : Int)) = false := by simp; omega
          have hjn : decide (j < L.length) = false := decide_eq_false hlj
          have hf : f (node, name) = none := hC.ls.never (fun k m e => A.out.1 k m (by have := (List.getElem?_eq_some_iff.1 e).1; omega) e)
          have HLS : Aside (Below w.heap.size w u6') := hC.below
          have e1 := hx0.out
          have e2 := hz0.out
          rw [hf] at e1 e2
          simp only [Option.getD_none, Option.isSome_none, zeroC, Prod.mk.injEq] at e1 e2
          obtain ⟨rfl, rfl, rfl⟩ := e1
          subst e2
          have hq : ∀ w, (Op.equalIn 10000 36 (.agg #[.int .i64 0, .int .i64 0]) (.agg #[.int .i64 0, .int .i64 0])).run Tryd.prog w = .ok true w := fun w => by rw [eqStC]; simp
          clear hf hC hyb
          go_wp2
          go_ret
          exact ⟨rfl, HLS.out⟩
end Go.Proofs.YtfpmmgboodcfiaaDoor
