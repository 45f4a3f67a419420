/- Contract of package cells' Join, over the translation's body. -/
import Derived.Test.YtfpmmgboodcfiaaDoorCellWalks
import Derived.Test.YtfpmmgboodcfiaaDoorRowAt
import Derived.Maps.RangeWalk
import Derived.LoopTactic
import Derived.Deep.Cut
import Derived.LoopN
import Derived.Lib.Hide
import Derived.Laws.IdiomRangeMap
namespace Go.Proofs.YtfpmmgboodcfiaaDoor
open Go.RowKit Go.Maps

/-- Cells that are handed over: nil, or in their blocks. -/
def ArgC (w : World) (v : Value) (n : Nat) (f : CSta) : Prop := (v = .pointer none ∧ f = noC) ∨ ∃ bc bm, v = .pointer (some ⟨bc, 0, none⟩) ∧ CellsAt w bc bm n f
theorem ArgC.later {w w' : World} {v : Value} {n : Nat} {f : CSta} (h : ArgC w v n f) (hb : Below w.heap.size w w') : ArgC w' v n f := by
  rcases h with h | ⟨bc, bm, h1, h2⟩
  · exact .inl h
  · exact .inr ⟨bc, bm, h1, h2.later hb⟩
theorem grown_of_keeps {w w' : World} {B : Nat} (h : Keeps (fun j => j = B) w w') : w.grownBy w' (some B) := ⟨h.os, h.tape, h.output, h.size, fun i hi hne => h.block i hi (fun e => hne (by rw [e]))⟩

/-- On the way: the cells that are made, and the two that are joined. -/
structure JoinSt (w : World) (B : Nat) (va vb : Value) (m : Nat) (g : CSta) (wr : World) : Prop where
  both : CellsAt wr (B + 1) B m g
  pair : wr.heap[B + 2]? = some (.cells #[va, vb] 25 (0, 0))
  below : Below w.heap.size w wr
  at_ : B = w.heap.size
theorem JoinSt.size {w wr : World} {B m : Nat} {va vb : Value} {g : CSta} (h : JoinSt w B va vb m g wr) : B + 3 ≤ wr.heap.size := (Array.getElem?_eq_some_iff.1 h.pair).1
theorem JoinSt.later {w wr wn : World} {B m : Nat} {va vb : Value} {g : CSta} (h : JoinSt w B va vb m g wr) (hb : Below wr.heap.size wr wn) : JoinSt w B va vb m g wn :=
  ⟨h.both.later hb, (hb.block _ h.size).trans h.pair, h.below.trans (hb.mono h.below.size), h.at_⟩
/-- What is joined behind the first i. -/
def gAt (fa fb : CSta) (i : Nat) : CSta := if i = 0 then noC else if i = 1 then fa else joinC fa fb
def mAt (na nb i : Nat) : Nat := if i = 0 then 0 else if i = 1 then na else na + nb

set_option maxRecDepth 100000 in
set_option maxHeartbeats 4000000 in
theorem join_any (w : World) (va vb : Value) (na nb : Nat) (fa fb : CSta) (ha : ArgC w va na fa) (hb : ArgC w vb nb fb) (hn : na + nb ≤ 100000) :
    Calls Tryd.prog 14 #[va, vb] w fun e w' => ∃ bc bm, e = .returned (.pointer (some ⟨bc, 0, none⟩)) ∧ CellsAt w' bc bm (na + nb) (joinC fa fb) ∧ w.heap.size ≤ bc ∧ w.heap.size ≤ bm ∧ Below w.heap.size w w' := by
  have hrn := fun w' => run_range_nilMap (P := Tryd.prog) w' 54 60 62 Tryd.underlying54
  have hnn := @run_next_nilMap Tryd.prog
  obtain ⟨B, hB⟩ : ∃ B, Aside (w.heap.size = B) := ⟨_, rfl⟩
  have HA : Aside (ArgC w va na fa ∧ ArgC w vb nb fb) := ⟨ha, hb⟩
  have hpa : ∃ pa, va = .pointer pa := by rcases ha with ⟨rfl, _⟩ | ⟨bc, bm, rfl, _⟩ <;> exact ⟨_, rfl⟩
  have hpb : ∃ pb, vb = .pointer pb := by rcases hb with ⟨rfl, _⟩ | ⟨bc, bm, rfl, _⟩ <;> exact ⟨_, rfl⟩
  obtain ⟨pa, rfl⟩ := hpa
  obtain ⟨pb, rfl⟩ := hpb
  clear ha hb
  go_enter Tryd.func14, Tryd.ntmps14
  go_wp2_with fail
  refine (new_cells w).mono ?_
  rintro e w1 ⟨rfl, hs1, hc1, hb1⟩
  rw [hB.out] at hs1 hc1 ⊢
  have J0 : Aside (∀ o, o = Obj.cells #[.pointer pa, .pointer pb] 25 → JoinSt w B (.pointer pa) (.pointer pb) (mAt na nb 0) (gAt fa fb 0) (w1.alloc o)) := by
    rintro o rfl
    exact ⟨(hc1.later ((Below.refl _ w1).alloc (Nat.le_refl _) _)), by rw [← hs1]; exact heap_alloc_new w1 _, hb1.alloc hb1.size _, hB.out.symm⟩
  have H1 : Aside (w1.heap.size = B + 2) := hs1
  clear hs1 hc1 hb1
  go_wp2
  rw [H1.out]
  have J1 := Lib.hid (J0.out _ rfl)
  generalize w1.alloc (.cells #[.pointer pa, .pointer pb] 25) = w2 at J1 ⊢
  clear J0 H1
  go_loopg [15] 2 (fun kx s15 wr => ∃ (i : Nat), s15 = .int .i64 (i : Int) ∧ i ≤ 2 ∧ 2 - i ≤ kx ∧ Aside (JoinSt w B (.pointer pa) (.pointer pb) (mAt na nb i) (gAt fa fb i) wr))
  case atStart => exact ⟨0, rfl, by omega, Nat.le_refl _, J1.out⟩
  case round =>
    obtain ⟨i, rfl, hi, hkx, A⟩ := hrel
    clear J1
    obtain ⟨u, hu⟩ : ∃ u, u = wr := ⟨_, rfl⟩
    subst hu
    by_cases hlt : i < 2
    · have hltz : decide ((i : Int) < 2) = true := by simp; omega
      have ex : ((i : Int)).toNat = i := by omega
      have px : (0 : Int) ≤ (i : Int) := by omega
      have bx : (i : Int) < 2 := by omega
      obtain ⟨p, ni, fi, hcell, hG⟩ : ∃ (p : Option Addr) (ni : Nat) (fi : CSta), u.cell? ⟨B + 2, i, none⟩ = some (.pointer p) ∧ Aside (ArgC w (.pointer p) ni fi ∧ gAt fa fb (i + 1) = joinC (gAt fa fb i) fi ∧ mAt na nb (i + 1) = mAt na nb i + ni) := by
        have hp := A.out.pair
        match i, hlt with
        | 0, _ => exact ⟨pa, na, fa, by simp [World.cell?, hp], HA.out.1, (noC_joinC fa).symm, by simp [mAt]⟩
        | 1, _ => exact ⟨pb, nb, fb, by simp [World.cell?, hp], HA.out.2, rfl, by simp [mAt]⟩
      rcases hG.out.1 with ⟨hp0, hf0⟩ | ⟨bc, bm, hp1, hC⟩
      · obtain rfl : p = none := by simpa using hp0
        have hall := fun w' => all_nil w'
        go_wp2_with (go_at_call 20; refine (hall _).mono ?_; rintro e w' ⟨rfl, hw'⟩; have hw2 := hw'.symm; subst hw2)
        have JN : Aside (JoinSt w B (.pointer pa) (.pointer pb) (mAt na nb (i + 1)) (gAt fa fb (i + 1)) (u.alloc (.mapIter none 0 #[] 0))) := by
          have h := A.out.later ((Below.refl _ u).alloc (Nat.le_refl _) (.mapIter none 0 #[] 0))
          rw [hG.out.2.1, hG.out.2.2, hf0, joinC_noC]
          exact ⟨h.both.mono (Nat.le_add_right _ _), h.pair, h.below, h.at_⟩
        clear hall
        refine wp_loop_rounds 1 ?_
        rw [rounds_succ]
        go_wp2
        go_roundg (2 - (i + 1))
        case measure => omega
        case rel => exact ⟨i + 1, by go_num, by omega, Nat.le_refl _, JN⟩
      · obtain rfl : p = some ⟨bc, 0, none⟩ := by simpa using hp1
        have hCu := hC.later (A.out.below.mono (Nat.le_refl _))
        have hall := all_any u bc bm hCu.c0
        obtain ⟨⟨D, hown, hr⟩, hg⟩ := hCu.map
        have hsn := hown.size_le
        have hbm : bm < w.heap.size := hC.lt.2
        clear hC hCu hp1
        go_wp2_with (first
          | (go_at_call 20; refine hall.mono ?_; clear hall; rintro e w' ⟨rfl, hw'⟩; have hw2 := hw'.symm; subst hw2)
          | (at_range; refine wpList_range_own _ rfl _ 54 rfl 60 62 lawK Tryd.underlying54 _ bm ni D rfl hown ?_; intro w0 hrg0 hg0 hs0)
          | go_in)
        go_frame
        have hb0 : Below u.heap.size u w0 := (Below.refl _ u).grown hg0 (Nat.le_refl _) (by intro k hk; cases hk)
        obtain ⟨r, hr0⟩ : ∃ r, Aside (r = u.heap.size) := ⟨_, rfl⟩
        rw [← hr0.out] at hrg0 ⊢
        have H0 : Aside (w0.ranges Tryd.prog 60 mrkR bm r ni D (has D) (size D) ∧ JoinSt w B (.pointer pa) (.pointer pb) (mAt na nb i) (gAt fa fb i) w0 ∧ ReadsC D fi ∧ GoodC fi ∧ bm < B ∧ B + 3 ≤ r ∧ size D ≤ ni ∧ mAt na nb (i + 1) ≤ 100000) := by
          refine ⟨hrg0, A.out.later hb0, hr, hg, by have := hB.out; omega, by have := A.out.size; have := hr0.out; omega, hsn, ?_⟩
          unfold mAt
          split
          · omega
          · split <;> omega
        clear hrg0 hg0 hs0 hb0 hr hg hown hbm hsn hcell hrn hnn
        go_loopw [8] (fun _ wr => ∃ (left : Lit → Bool) (cnt m : Nat), Aside (wr.ranges Tryd.prog 60 mrkR bm r ni D left cnt ∧ JoinSt w B (.pointer pa) (.pointer pb) m (partC (gAt fa fb i) fi left) wr ∧ m + cnt ≤ mAt na nb (i + 1)))
          (fun _ wr => wr.rangeLeft bm r)
        case atStart =>
          refine ⟨_, _, mAt na nb i, H0.out.1, ?_, ?_⟩
          · rw [partC_start H0.out.2.2.1 H0.out.2.2.2.1]
            exact H0.out.2.1
          · rw [hG.out.2.2]
            have := H0.out.2.2.2.2.2.2.1
            omega
        case round =>
          obtain ⟨left, cnt, m, A2⟩ := hrel
          obtain ⟨u2, hu2⟩ : ∃ u2, u2 = wr := ⟨_, rfl⟩
          subst hu2
          have hrg := A2.out.1
          go_wp2_with (first
            | (at_next; refine wpList_next_ranges _ rfl _ rfl 60 lawK mrkR encK encC (fun key kl hk => by obtain ⟨x, _, hx, _⟩ := key_inv hk; exact ⟨x, hx⟩) (fun v y hv => by obtain ⟨c, rfl, _⟩ := mrkR_inv hv; exact ⟨c, rfl⟩) bm r ni _ _ _ rfl hrg ?_ ?_)
            | go_in)
          · intro hc0 hl0
            have JN : Aside (JoinSt w B (.pointer pa) (.pointer pb) (mAt na nb (i + 1)) (gAt fa fb (i + 1)) u2) := by
              have h := A2.out.2.1
              rw [partC_all hl0, ← hG.out.2.1] at h
              exact ⟨h.both.mono (by have := A2.out.2.2; omega), h.pair, h.below, h.at_⟩
            clear hc0 hl0 hrg
            go_wp2
            go_roundg (2 - (i + 1))
            case measure => omega
            case rel => exact ⟨i + 1, by go_num, by omega, Nat.le_refl _, JN⟩
          · intro a nm c t b kl yd yp w2 cnt2 hkey hlk hv hat hrg2 hlt2 hg2 hs2 hen
            obtain ⟨x', hwx, ex, rfl⟩ := key_inv hkey
            obtain rfl : (a, nm) = x' := encK_inj ex
            obtain ⟨c', ec, ez⟩ := mrkR_inv hv
            obtain rfl : (c, t, b) = c' := encC_inj ec
            obtain rfl : yd = datC (c, t, b) := (Prod.mk.inj ez).1
            have hfx := H0.out.2.2.1.got hwx hat
            have hk2 : Keeps (fun k => k = r) u2 w2 := (keeps_of_grown hg2).mono (fun k _ e => by cases e; rfl)
            have hrB := H0.out.2.2.2.2.2.1
            have hst := A2.out.2.1
            have J2 : JoinSt w B (.pointer pa) (.pointer pb) m (partC (gAt fa fb i) fi left) w2 := by
              have hs := hst.size
              have ha := hst.at_
              exact ⟨hst.both.same (hk2.block _ (by omega) (by omega)) (hk2.block _ (by omega) (by omega)), (hk2.block _ (by omega) (by omega)).trans hst.pair, hst.below.trans (hk2.below hst.below.size (fun k e => by omega)), hst.at_⟩
            unfold encK encC at hen ⊢
            dsimp only at hen ⊢
            obtain ⟨S, hS⟩ : ∃ S, Aside (w2.heap.size = S) := ⟨_, rfl⟩
            obtain ⟨W3, hW3⟩ : ∃ W3, W3 = (w2.alloc (.cells #[.int .i64 a, .string nm] 60)).alloc (.cells #[.string c, .int .i64 t, .int .i64 b] 62) := ⟨_, rfl⟩
            have hb3 : Below w2.heap.size w2 W3 := by rw [hW3]; exact ((Below.refl _ w2).alloc (Nat.le_refl _) _).alloc (by simp) _
            have q0 : W3.heap[w2.heap.size]? = some (.cells #[.int .i64 a, .string nm] 60 (0, 0)) := by
              rw [hW3, Below.heap_alloc _ _ _ (by simp)]
              exact heap_alloc_new w2 _
            have q1 : W3.heap[w2.heap.size + 1]? = some (.cells #[.string c, .int .i64 t, .int .i64 b] 62 (0, 0)) := by
              have := heap_alloc_new (w2.alloc (.cells #[.int .i64 a, .string nm] 60)) (.cells #[.string c, .int .i64 t, .int .i64 b] 62)
              rw [World.size_alloc] at this
              rw [hW3]
              exact this
            have hrg3 : W3.ranges Tryd.prog 60 mrkR bm r ni D (fun z => left z && !z.sameKey (klit (a, nm))) cnt2 := by rw [hW3]; exact (hrg2.alloc _).alloc _
            have J3 := J2.later hb3
            have hput := put_any W3 (B + 1) B m (partC (gAt fa fb i) fi left) a nm c t b J3.both (by have := A2.out.2.2; have := H0.out.2.2.2.2.2.2.2; omega) hwx
            have H3 : Aside (W3.ranges Tryd.prog 60 mrkR bm r ni D (fun z => left z && !z.sameKey (klit (a, nm))) cnt2 ∧ JoinSt w B (.pointer pa) (.pointer pb) m (partC (gAt fa fb i) fi left) W3 ∧ m + 1 + cnt2 ≤ mAt na nb (i + 1) ∧ cnt2 < cnt ∧ setC (partC (gAt fa fb i) fi left) ((a, nm), (c, (t, b))) = partC (gAt fa fb i) fi (fun z => left z && !z.sameKey (klit (a, nm)))) := ⟨hrg3, J3, by have := A2.out.2.2; omega, hlt2, partC_step H0.out.2.2.2.1 hwx hlk hfx⟩
            clear hrg2 hlt2 hg2 hs2 hk2 hfx hat hv hkey hlk ec ez ex hrg3 hb3 J2 J3 hst hrB
            go_upto_region 8 with fail
            rw [← hW3]
            rw [hS.out] at q0 q1 ⊢
            have f0 : W3.cell? ⟨S, 0, none⟩ = some (.int .i64 a) := by simp [World.cell?, q0]
            have f1 : W3.cell? ⟨S, 1, none⟩ = some (.string nm) := by simp [World.cell?, q0]
            have f2 : W3.cell? ⟨S + 1, 0, none⟩ = some (.string c) := by simp [World.cell?, q1]
            have f3 : W3.cell? ⟨S + 1, 1, none⟩ = some (.int .i64 t) := by simp [World.cell?, q1]
            have f4 : W3.cell? ⟨S + 1, 2, none⟩ = some (.int .i64 b) := by simp [World.cell?, q1]
            clear q0 q1 hW3 hen
            go_wp2_with fail
            refine hput.mono ?_
            clear hput f0 f1 f2 f3 f4
            rintro e w4 ⟨rfl, hP⟩
            have hk4 := hP.2
            have hrg4 : w4.ranges Tryd.prog 60 mrkR bm r ni D (fun z => left z && !z.sameKey (klit (a, nm))) cnt2 := H3.out.1.kept (grown_of_keeps hk4) (fun e => by cases e; have := H0.out.2.2.2.2.1; omega) (fun e => by cases e; have := H0.out.2.2.2.2.2.1; omega)
            have J4 : Aside (w4.ranges Tryd.prog 60 mrkR bm r ni D (fun z => left z && !z.sameKey (klit (a, nm))) cnt2 ∧ JoinSt w B (.pointer pa) (.pointer pb) (m + 1) (partC (gAt fa fb i) fi (fun z => left z && !z.sameKey (klit (a, nm)))) w4 ∧ m + 1 + cnt2 ≤ mAt na nb (i + 1)) := by
              have h := H3.out.2.1
              have hs := h.size
              have ha := h.at_
              refine ⟨hrg4, ⟨?_, (hk4.block _ (by omega) (by omega)).trans h.pair, h.below.trans (hk4.below h.below.size (fun k e => by omega)), h.at_⟩, H3.out.2.2.1⟩
              rw [← H3.out.2.2.2.2]
              exact hP.1
            have hm : w4.rangeLeft bm r < u2.rangeLeft bm r := by rw [hrg4.left_eq, hrg.left_eq]; exact H3.out.2.2.2.1
            clear hP hk4 hrg4 H3
            go_wp2
            exact ⟨⟨_, _, _, J4⟩, hm⟩
    · have hltz : decide ((i : Int) < 2) = false := by simp; omega
      obtain rfl : i = 2 := by omega
      clear hrn hnn
      go_wp2
      go_ret
      have h := A.out
      exact ⟨B + 1, B, rfl, h.both, by have := h.at_; omega, by have := h.at_; omega, h.below⟩
end Go.Proofs.YtfpmmgboodcfiaaDoor
