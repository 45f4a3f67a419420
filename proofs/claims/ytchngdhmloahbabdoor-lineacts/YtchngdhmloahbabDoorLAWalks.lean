/- The walk of the law LineActs. -/
import Derived.Test.YtchngdhmloahbabDoorRefSeen
import Derived.Test.YtchngdhmloahbabDoorActOpen
import Derived.Test.YtchngdhmloahbabDoorCodeWalks
import Derived.Test.YtchngdhmloahbabDoorRoundZ
import Derived.BigQuiet
import Derived.WalkSmall
import Derived.Deep.QuietTactic
set_option linter.unusedVariables false
set_option linter.unusedSimpArgs false
namespace Go.Proofs.YtchngdhmloahbabDoor
open Go.RowKit Go.Lib Go.Sort
open scoped Classical

theorem wp_region_H {P : Program} {ops : Array Oper} {Q : Exit → Act → World → Prop} {S : World → Prop} {id : Nat} {a : Act} {w : World} (hm : P.follows .mixedOrders = true) (hS : S w.drew)
    (h : S w.drew → wpAnyH P .any ops Q S ops.size (Array.replicate ops.size false) a w.drew) : (Code.region id ops true).wp P Q a w :=
  wp_region_any hm (wpAny_of_held _ _ _ _ (h hS))

/-- coded holds an error against its own number. -/
theorem coded_err {B : Nat} {ad : Nat → Addr} (w : World) (h : Errs B ad w) (er : Nat) (her : er ≤ 12) :
    Calls Tryd.prog 12 #[errN ad er, .int .i64 (er : Int)] w fun e w' => e = .returned (.bool true) ∧ Below w.heap.size w w' := by
  by_cases h0 : er = 0
  · subst h0
    refine (coded_nil 0 w).mono ?_
    rintro e w' ⟨rfl, rfl⟩
    exact ⟨rfl, Below.refl _ _⟩
  · have e1 : errN ad er = .iface 109 (.pointer (some (ad (er - 1)))) := by unfold errN; rw [if_neg h0]
    rw [e1]
    refine (coded_sent w h (er - 1) (by omega) (er : Int)).mono ?_
    rintro e w' ⟨rfl, hb⟩
    refine ⟨?_, hb⟩
    have : codeOf (er - 1) = (er : Int) := by unfold codeOf; rw [if_pos (by omega)]; omega
    rw [this]
    simp
theorem insE_le (id behind : Int) (L : List Ltr) : insE id behind L ≤ 12 := by
  unfold insE
  split
  · split
    · omega
    · split <;> omega
  · omega
theorem delE_le (id : Int) (L : List Ltr) : delE id L ≤ 12 := by
  unfold delE
  cases findL id L <;> simp

theorem atL_neg {n : Int} (M : List Ltr) (h : n < 0) : atL n M = (0, false) := by unfold atL; rw [if_neg (by omega)]
theorem atL_past {t : Nat} {M : List Ltr} (h : (seenOf M).length ≤ t) : atL (t : Int) M = (0, false) := by
  unfold atL
  rw [if_pos (by omega), Int.toNat_natCast, List.getElem?_eq_none h]
theorem atL_at {t : Nat} {M : List Ltr} {l : Ltr} (h : (seenOf M)[t]? = some l) : atL (t : Int) M = (l.1, true) := by
  unfold atL
  rw [if_pos (by omega), Int.toNat_natCast, h]

/-- The line and the reference's, side by side. -/
structure LA (w : World) (B : Nat) (v vr : Value) (M : List Ltr) (wr : World) : Prop where
  la : LineAt (B + 2) wr B v (M.map bare)
  ra : RefAt (B + 2) wr (B + 1) vr M
  dis : ∀ g, v.ownBlock = some g → vr.ownBlock = some g → False
  below : Below w.heap.size w wr
  low : w.heap.size ≤ B
  size : B + 2 ≤ wr.heap.size
theorem LA.later {w wr wn : World} {B : Nat} {v vr : Value} {M : List Ltr} (h : LA w B v vr M wr) (hb : Below wr.heap.size wr wn) : LA w B v vr M wn :=
  ⟨h.la.later hb, h.ra.later hb, h.dis, h.below.trans (hb.mono h.below.size), h.low, Nat.le_trans h.size hb.size⟩
/-- The line acted; the reference has not yet. -/
structure LH (w : World) (B : Nat) (v vr : Value) (L M : List Ltr) (wr : World) : Prop where
  la : LineAt (B + 2) wr B v L
  ra : RefAt (B + 2) wr (B + 1) vr M
  dis : ∀ g, v.ownBlock = some g → vr.ownBlock = some g → False
  below : Below w.heap.size w wr
  low : w.heap.size ≤ B
  size : B + 2 ≤ wr.heap.size
theorem LA.half {w wr wn : World} {B : Nat} {v vr : Value} {L M : List Ltr} (h : LA w B v vr M wr) (hA : ActOk (B + 2) wr B v L wn) : ∃ v', LH w B v' vr L M wn ∧ Keeps (fun k => k = B ∨ some k = v.ownBlock) wr wn := by
  obtain ⟨v', a1, a2, a3, a4⟩ := hA.step h.la h.below h.low
  have hs := h.size
  refine ⟨v', ⟨a1, h.ra.same (a3.block _ (by omega) ?_) (fun g hg => a3.block g (h.ra.ne g hg).2.1 ?_), fun g hg hr => ?_, a2, h.low, by have := a3.size; omega⟩, a3⟩
  · rintro (e | e)
    · omega
    · have := (h.la.ne _ e.symm).2.2
      omega
  · rintro (e | e)
    · have := (h.ra.ne g hg).2.2
      omega
    · exact h.dis g e.symm hg
  · rcases a4 with e | e
    · exact h.dis g (by rw [← e]; exact hg) hr
    · have h1 := e g hg
      have h2 := (h.ra.ne g hr).2.1
      omega
/-- The reference acted, too. -/
theorem LH.full {w wr wn : World} {B : Nat} {v vr vr' : Value} {L M M' : List Ltr} (h : LH w B v vr L M wr) (hR : RefAt (B + 2) wn (B + 1) vr' M') (hk : Keeps (fun k => k = B + 1 ∨ some k = vr.ownBlock) wr wn) (hv : vr' = vr ∨ ∀ g, vr'.ownBlock = some g → wr.heap.size ≤ g) (hM : L = M'.map bare) : LA w B v vr' M' wn := by
  have hs := h.size
  have hlow := h.low
  refine ⟨?_, hR, fun g hg hr => ?_, h.below.trans (hk.below (by omega) ?_), h.low, by have := hk.size; omega⟩
  · rw [← hM]
    refine h.la.same (hk.block _ (by omega) ?_) (fun g hg => hk.block g (h.la.ne g hg).2.1 ?_)
    · rintro (e | e)
      · omega
      · have := (h.ra.ne _ e.symm).2.2
        omega
    · rintro (e | e)
      · have := (h.la.ne g hg).2.2
        omega
      · exact h.dis g hg e.symm
  · rcases hv with e | e
    · rw [e] at hr
      exact h.dis g hg hr
    · have h1 := e g hr
      have h2 := (h.la.ne g hg).2.1
      omega
  · rintro k (e | e)
    · omega
    · have := (h.ra.ne k e.symm).2.2
      omega

set_option maxRecDepth 100000 in
set_option maxHeartbeats 8000000 in
theorem lineActs_any {Be : Nat} {ad : Nat → Addr} (w : World) (ao : Option Addr) (cap : Nat) (xs : List ActX) (at_ : Int) (hE : Errs Be ad w) (hBe : Be ≤ w.heap.size) (hX : ActsIn w ao xs) (hxn : xs.length < 9223372036854775808) (hat : -9223372036854775808 ≤ at_ ∧ at_ ≤ 9223372036854775807) :
    Calls Tryd.prog 4 #[.slice ao xs.length cap, .int .i64 at_] w fun e w' => e = .returned (.bool true) ∧ Below w.heap.size w w' := by
  have HE : Aside (Errs Be ad w) := hE
  have HX : Aside (ActsIn w ao xs) := hX
  have HA : Aside (-9223372036854775808 ≤ at_ ∧ at_ ≤ 9223372036854775807) := hat
  clear hE hX hat
  go_enter Tryd.func4, Tryd.ntmps4
  go_wp2_with fail
  refine (lined_any w).mono ?_
  rintro e w1 ⟨rfl, hb1⟩
  have B1 : Aside (Below w.heap.size w w1) := hb1
  clear hb1
  by_cases hx60 : 60 < xs.length
  · have d60 : decide ((60 : Int) < (xs.length : Int)) = true := decide_eq_true (by omega)
    go_wp2
    go_ret
    exact ⟨rfl, B1.out⟩
  have d60 : decide ((60 : Int) < (xs.length : Int)) = false := decide_eq_false (by omega)
  go_wp2_with fail
  refine (new_line w1).mono ?_
  rintro e w2 ⟨rfl, hs2, hT2, hb2⟩
  obtain ⟨B, hB⟩ : ∃ B, Aside (w1.heap.size = B) := ⟨_, rfl⟩
  rw [hB.out] at hs2 hT2 hb2 ⊢
  have A2 : Aside (∀ o, o = Obj.cells #[.slice none 0 0] 40 → LA w B (.slice none 0 0) (.slice none 0 0) [] (w2.alloc o)) := by
    rintro o rfl
    have hba : Below w2.heap.size w2 (w2.alloc (.cells #[.slice none 0 0] 40)) := (Below.refl _ w2).alloc (Nat.le_refl _) _
    refine ⟨(hT2 _ (by omega)).later hba, ⟨by rw [← hs2]; exact heap_alloc_new w2 _, World.ownsRow_nil _ _ _ _, by omega, fun l hl => (by simp at hl)⟩, fun g hg => (by cases hg), ?_, by have := B1.out.size; have := hB.out; omega, by rw [World.size_alloc]; omega⟩
    exact (B1.out.trans (hb2.mono (by have := B1.out.size; have := hB.out; omega))).alloc (by have := B1.out.size; have := hB.out; omega) _
  have H2 : Aside (w2.heap.size = B + 1) := hs2
  clear hs2 hT2 hb2 B1
  go_wp2
  rw [H2.out]
  have A3 := Lib.hid (A2.out _ rfl)
  generalize w2.alloc (.cells #[.slice none 0 0] 40) = w3 at A3 ⊢
  clear d60 A2
  go_loopg [8] xs.length (fun kx s8 wr => ∃ (i : Nat) (v vr : Value) (M : List Ltr), s8 = .int .i64 (i : Int) ∧ i ≤ xs.length ∧ xs.length - i ≤ kx ∧ M.length ≤ i ∧ Aside (LA w B v vr M wr))
  case atStart => exact ⟨0, _, _, [], rfl, Nat.zero_le _, Nat.le_refl _, by simp, A3.out⟩
  case round =>
    obtain ⟨i, v, vr, M, rfl, hix, hkx, hMi, A⟩ := hrel
    clear A3
    obtain ⟨u0, hu0⟩ : ∃ u0, u0 = wr := ⟨_, rfl⟩
    subst hu0
    by_cases hlt : i < xs.length
    · have hltz : decide ((i : Int) < (xs.length : Int)) = true := by simp; omega
      have ex : ((i : Int)).toNat = i := by omega
      have px : (0 : Int) ≤ (i : Int) := by omega
      have bx : (i : Int) < (xs.length : Int) := by omega
      obtain ⟨⟨kd, id, bh, c⟩, hx⟩ : ∃ x, Aside (xs[i]? = some x) := ⟨xs[i], List.getElem?_eq_getElem hlt⟩
      obtain ⟨blk, off, rfl, f0, f1, f2, f3⟩ := (HX.out.later A.out.below).at hx.out
      have HW : Aside (ActWf (kd, id, bh, c)) := HX.out.1 _ (List.mem_of_getElem? hx.out)
      go_upto_if 41 with fail
      have A0 := A.out.later ((Below.refl _ u0).alloc (Nat.le_refl _) (.cells #[.string kd, .int .i64 id, .int .i64 bh, .int .u8 (c : Int)] 30))
      obtain ⟨X, hX⟩ : ∃ X, Aside (u0.heap.size = X) := ⟨_, rfl⟩
      rw [hX.out]
      have hX0 := heap_alloc_new u0 (.cells #[.string kd, .int .i64 id, .int .i64 bh, .int .u8 (c : Int)] 30)
      have hXs : X < (u0.alloc (.cells #[.string kd, .int .i64 id, .int .i64 bh, .int .u8 (c : Int)] 30)).heap.size := by rw [World.size_alloc]; have := hX.out; omega
      rw [hX.out] at hX0
      generalize u0.alloc (.cells #[.string kd, .int .i64 id, .int .i64 bh, .int .u8 (c : Int)] 30) = u1 at A0 hX0 hXs ⊢
      have A1 : Aside (LA w B v vr M u1.drew) := A0.later (Below.refl _ u1).drew
      have X1 : Aside (u1.drew.cell? ⟨X, 1, none⟩ = some (.int .i64 id) ∧ u1.drew.cell? ⟨X, 2, none⟩ = some (.int .i64 bh) ∧ u1.drew.cell? ⟨X, 3, none⟩ = some (.int .u8 (c : Int)) ∧ X < u1.drew.heap.size ∧ (∀ g, v.ownBlock = some g → g < X) ∧ B + 1 < X) := by
        have hX0' : u1.drew.heap[X]? = some (.cells #[.string kd, .int .i64 id, .int .i64 bh, .int .u8 (c : Int)] 30 (0, 0)) := hX0
        exact ⟨by simp [World.cell?, hX0'], by simp [World.cell?, hX0'], by simp [World.cell?, hX0'], hXs, fun g hg => by have := (A.out.la.ne g hg).2.1; have := hX.out; omega, by have := A.out.size; have := hX.out; omega⟩
      have X2 : Aside (X ≠ B + 1 ∧ some X ≠ vr.ownBlock) := ⟨by have := A.out.size; have := hX.out; omega, fun e => by have := (A.out.ra.ne X e.symm).2.1; have := hX.out; omega⟩
      have hMb : (M.map bare).length ≤ 900 := by rw [List.length_map]; omega
      clear A A0 hX0 hXs f0 f1 f2 f3 hX
      go_cut [9] (fun _ wx => ∃ (v' vr' : Value) (M' : List Ltr), M'.length ≤ i + 1 ∧ Aside (LA w B v' vr' M' wx))
      case first =>
        cases hk : (kd.toList == [105, 110, 115, 101, 114, 116]) with
        | true =>
          have hMi' : (insL id bh c M).length ≤ i + 1 := by have := (insL_len id bh c M).2; omega
          have hln : Ln4 ad u1.drew := by
            have h := HE.out.mono (A1.out.below.mono hBe)
            exact ⟨h.c1, h.c2, h.c5, h.c6⟩
          have hact := insert_all u1.drew (B + 2) B v (M.map bare) id bh c hln A1.out.la A1.out.size hMb HW.out.1 HW.out.2.2.1
          clear hln
          go_upto_region 13 with fail
          refine wp_region_H (S := fun w' => w'.cell? ⟨X, 1, none⟩ = some (.int .i64 id) ∧ w'.cell? ⟨X, 2, none⟩ = some (.int .i64 bh) ∧ w'.cell? ⟨X, 3, none⟩ = some (.int .u8 (c : Int))) (by kernel_rfl) ⟨X1.out.1, X1.out.2.1, X1.out.2.2.1⟩ (fun hHeld => ?_)
          refine wpAnyH_take (i := 0) (v := ?va0) rfl (by kernel_rfl) (by kernel_rfl) (by kernel_rfl) (fun _ _ _ h => h) (Or.inl ⟨by rfl, ?hya0⟩) hHeld ?resta0
          case hya0 => (intro w' hSw; obtain ⟨k1, k2, k3⟩ := hSw; go_simp; try with_reducible rfl)
          try simp only [Act.put, List.setIfInBounds_toArray, List.set_cons_zero, List.set_cons_succ]
          refine wpAnyH_take (i := 1) (v := ?va1) rfl (by kernel_rfl) (by kernel_rfl) (by kernel_rfl) (fun _ _ _ h => h) (Or.inl ⟨by rfl, ?hya1⟩) hHeld ?resta1
          case hya1 => (intro w' hSw; obtain ⟨k1, k2, k3⟩ := hSw; go_simp; try with_reducible rfl)
          try simp only [Act.put, List.setIfInBounds_toArray, List.set_cons_zero, List.set_cons_succ]
          refine wpAnyH_take (i := 2) (v := ?va2) rfl (by kernel_rfl) (by kernel_rfl) (by kernel_rfl) (fun _ _ _ h => h) (Or.inl ⟨by rfl, ?hya2⟩) hHeld ?resta2
          case hya2 => (intro w' hSw; obtain ⟨k1, k2, k3⟩ := hSw; go_simp; try with_reducible rfl)
          try simp only [Act.put, List.setIfInBounds_toArray, List.set_cons_zero, List.set_cons_succ]
          refine wpAnyH_take (i := 3) (v := ?va3) rfl (by kernel_rfl) (by kernel_rfl) (by kernel_rfl) (fun _ _ _ h => h) (Or.inl ⟨by rfl, ?hya3⟩) hHeld ?resta3
          case hya3 => (intro w' hSw; obtain ⟨k1, k2, k3⟩ := hSw; go_simp; try with_reducible rfl)
          try simp only [Act.put, List.setIfInBounds_toArray, List.set_cons_zero, List.set_cons_succ]
          refine wpAnyH_take (i := 4) (v := ?va4) rfl (by kernel_rfl) (by kernel_rfl) (by kernel_rfl) (fun _ _ _ h => h) (Or.inl ⟨by rfl, ?hya4⟩) hHeld ?resta4
          case hya4 => (intro w' hSw; obtain ⟨k1, k2, k3⟩ := hSw; go_simp; try with_reducible rfl)
          try simp only [Act.put, List.setIfInBounds_toArray, List.set_cons_zero, List.set_cons_succ]
          refine wpAnyH_take (i := 5) (v := ?va5) rfl (by kernel_rfl) (by kernel_rfl) (by kernel_rfl) (fun _ _ _ h => h) (Or.inl ⟨by rfl, ?hya5⟩) hHeld ?resta5
          case hya5 => (intro w' hSw; obtain ⟨k1, k2, k3⟩ := hSw; go_simp; try with_reducible rfl)
          try simp only [Act.put, List.setIfInBounds_toArray, List.set_cons_zero, List.set_cons_succ]
          refine wpAnyH_take (i := 6) (v := ?va6) rfl (by kernel_rfl) (by kernel_rfl) (by kernel_rfl) (fun _ _ _ h => h) (Or.inl ⟨by rfl, ?hya6⟩) hHeld ?resta6
          case hya6 => (intro w' hSw; obtain ⟨k1, k2, k3⟩ := hSw; go_simp; try with_reducible rfl)
          try simp only [Act.put, List.setIfInBounds_toArray, List.set_cons_zero, List.set_cons_succ]
          refine wpAnyH_take (i := 8) (v := ?va8) rfl (by kernel_rfl) (by kernel_rfl) (by kernel_rfl) (fun _ _ _ h => h) (Or.inl ⟨by rfl, ?hya8⟩) hHeld ?resta8
          case hya8 => (intro w' hSw; obtain ⟨k1, k2, k3⟩ := hSw; go_simp; try with_reducible rfl)
          try simp only [Act.put, List.setIfInBounds_toArray, List.set_cons_zero, List.set_cons_succ]
          refine wpAnyH_take (i := 9) (v := ?va9) rfl (by kernel_rfl) (by kernel_rfl) (by kernel_rfl) (fun _ _ _ h => h) (Or.inl ⟨by rfl, ?hya9⟩) hHeld ?resta9
          case hya9 => (intro w' hSw; obtain ⟨k1, k2, k3⟩ := hSw; go_simp; try with_reducible rfl)
          try simp only [Act.put, List.setIfInBounds_toArray, List.set_cons_zero, List.set_cons_succ]
          refine wpAnyH_take (i := 10) (v := ?va10) rfl (by kernel_rfl) (by kernel_rfl) (by kernel_rfl) (fun _ _ _ h => h) (Or.inl ⟨by rfl, ?hya10⟩) hHeld ?resta10
          case hya10 => (intro w' hSw; obtain ⟨k1, k2, k3⟩ := hSw; go_simp; try with_reducible rfl)
          try simp only [Act.put, List.setIfInBounds_toArray, List.set_cons_zero, List.set_cons_succ]
          refine wpAnyH_take (i := 11) (v := ?va11) rfl (by kernel_rfl) (by kernel_rfl) (by kernel_rfl) (fun _ _ _ h => h) (Or.inl ⟨by rfl, ?hya11⟩) hHeld ?resta11
          case hya11 => (intro w' hSw; obtain ⟨k1, k2, k3⟩ := hSw; go_simp; try with_reducible rfl)
          try simp only [Act.put, List.setIfInBounds_toArray, List.set_cons_zero, List.set_cons_succ]
          refine wpAnyH_take (i := 12) (v := ?va12) rfl (by kernel_rfl) (by kernel_rfl) (by kernel_rfl) (fun _ _ _ h => h) (Or.inl ⟨by rfl, ?hya12⟩) hHeld ?resta12
          case hya12 => (intro w' hSw; obtain ⟨k1, k2, k3⟩ := hSw; go_simp; try with_reducible rfl)
          try simp only [Act.put, List.setIfInBounds_toArray, List.set_cons_zero, List.set_cons_succ]
          refine wpAnyH_take (i := 13) (v := ?va13) rfl (by kernel_rfl) (by kernel_rfl) (by kernel_rfl) (fun _ _ _ h => h) (Or.inl ⟨by rfl, ?hya13⟩) hHeld ?resta13
          case hya13 => (intro w' hSw; obtain ⟨k1, k2, k3⟩ := hSw; go_simp; try with_reducible rfl)
          try simp only [Act.put, List.setIfInBounds_toArray, List.set_cons_zero, List.set_cons_succ]
          refine wpAnyH_take (i := 14) (v := ?va14) rfl (by kernel_rfl) (by kernel_rfl) (by kernel_rfl) (fun _ _ _ h => h) (Or.inl ⟨by rfl, ?hya14⟩) hHeld ?resta14
          case hya14 => (intro w' hSw; obtain ⟨k1, k2, k3⟩ := hSw; go_simp; try with_reducible rfl)
          try simp only [Act.put, List.setIfInBounds_toArray, List.set_cons_zero, List.set_cons_succ]
          refine wpAnyH_one (i := 7) (by kernel_rfl) rfl (fun K hK => ?_)
          go_simp
          refine hact.mono ?_
          rintro e u3 ⟨rfl, hA⟩
          obtain ⟨v', H3, hk3⟩ := A1.out.half hA
          have hS3 : u3.cell? ⟨X, 1, none⟩ = some (.int .i64 id) ∧ u3.cell? ⟨X, 2, none⟩ = some (.int .i64 bh) ∧ u3.cell? ⟨X, 3, none⟩ = some (.int .u8 (c : Int)) := by
            have hbl := fun o => World.cell?_of_block (a := ⟨X, o, none⟩) (hk3.block X X1.out.2.2.2.1 (by
              rintro (e | e)
              · have := X1.out.2.2.2.2.2
                omega
              · have := X1.out.2.2.2.2.1 X e.symm
                omega))
            exact ⟨(hbl 1).trans X1.out.1, (hbl 2).trans X1.out.2.1, (hbl 3).trans X1.out.2.2.1⟩
          have A3 : Aside (LH w B v' vr (insL id bh c (M.map bare)) M u3) := H3
          have hXs3 : X < u3.heap.size := Nat.lt_of_lt_of_le X1.out.2.2.2.1 hk3.size
          refine hK _ _ hS3 ?_
          clear hK K hA H3 hk3 hact
          try simp only [Act.put, List.setIfInBounds_toArray, List.set_cons_zero, List.set_cons_succ]
          refine wpAnyH_one (i := 15) (by kernel_rfl) rfl (fun K hK => ?_)
          go_simp
          refine (rins_all u3 (B + 2) (B + 1) vr M id bh c A3.out.ra A3.out.size (by omega) HW.out.2.2.1).mono ?_
          rintro e u4 ⟨rfl, vr', R4, hk4', hv4⟩
          have hk4 : Keeps (fun k => k = B + 1 ∨ some k = vr.ownBlock) u3 u4 := hk4'.mono (fun k _ e => .inl e)
          have A4 : Aside (LA w B v' vr' (insL id bh c M) u4) := A3.out.full R4 hk4 hv4 (insL_bare id bh c M).symm
          rw [insE_bare]
          clear R4 hk4' hv4
          have hXB : X ≠ B + 1 ∧ some X ≠ vr.ownBlock := X2.out
          have hS4 : u4.cell? ⟨X, 1, none⟩ = some (.int .i64 id) ∧ u4.cell? ⟨X, 2, none⟩ = some (.int .i64 bh) ∧ u4.cell? ⟨X, 3, none⟩ = some (.int .u8 (c : Int)) := by
            have hbl := fun o => World.cell?_of_block (a := ⟨X, o, none⟩) (hk4.block X hXs3 (by
              rintro (e | e)
              · exact hXB.1 e
              · exact hXB.2 e))
            exact ⟨(hbl 1).trans hS3.1, (hbl 2).trans hS3.2.1, (hbl 3).trans hS3.2.2⟩
          have hcod := coded_err u4 (HE.out.mono (A4.out.below.mono hBe)) _ (insE_le id bh M)
          refine hK _ _ hS4 ?_
          clear hK K hk4 hS3 A3
          try simp only [Act.put, List.setIfInBounds_toArray, List.set_cons_zero, List.set_cons_succ]
          refine wpAnyH_one (i := 16) (by kernel_rfl) rfl (fun K hK => ?_)
          go_simp
          refine hcod.mono ?_
          rintro e u5 ⟨rfl, hb5⟩
          have hS5 : u5.cell? ⟨X, 1, none⟩ = some (.int .i64 id) ∧ u5.cell? ⟨X, 2, none⟩ = some (.int .i64 bh) ∧ u5.cell? ⟨X, 3, none⟩ = some (.int .u8 (c : Int)) := ⟨cellStays hb5 hS4.1, cellStays hb5 hS4.2.1, cellStays hb5 hS4.2.2⟩
          have A5 := A4.out.later hb5
          have H5 := Lib.hid A5
          refine hK _ _ hS5 ?_
          clear hK K hb5 hcod hS4 A4 A5
          try simp only [Act.put, List.setIfInBounds_toArray, List.set_cons_zero, List.set_cons_succ]
          refine wpAnyH_one (i := 17) (by kernel_rfl) rfl (fun K hK => ?_)
          go_simp
          refine hK _ _ hS5 ?_
          clear hK K
          refine wpAnyH_done (by kernel_rfl) ?_ _
          clear hS5
          go_wp2
          go_meet
          exact ⟨_, _, _, hMi', H5.out⟩
        | false =>
          have hMi' : (rdelL id M).length ≤ i + 1 := by rw [rdelL_len]; omega
          have hln : Ln4 ad u1.drew := by
            have h := HE.out.mono (A1.out.below.mono hBe)
            exact ⟨h.c1, h.c2, h.c5, h.c6⟩
          have hact := delete_all u1.drew (B + 2) B v (M.map bare) id hln A1.out.la (by omega)
          clear hln
          go_upto_region 15 with fail
          refine wp_region_H (S := fun w' => w'.cell? ⟨X, 1, none⟩ = some (.int .i64 id) ∧ w'.cell? ⟨X, 2, none⟩ = some (.int .i64 bh) ∧ w'.cell? ⟨X, 3, none⟩ = some (.int .u8 (c : Int))) (by kernel_rfl) ⟨X1.out.1, X1.out.2.1, X1.out.2.2.1⟩ (fun hHeld => ?_)
          refine wpAnyH_take (i := 0) (v := ?vd0) rfl (by kernel_rfl) (by kernel_rfl) (by kernel_rfl) (fun _ _ _ h => h) (Or.inl ⟨by rfl, ?hyd0⟩) hHeld ?restd0
          case hyd0 => (intro w' hSw; obtain ⟨k1, k2, k3⟩ := hSw; go_simp; try with_reducible rfl)
          try simp only [Act.put, List.setIfInBounds_toArray, List.set_cons_zero, List.set_cons_succ]
          refine wpAnyH_take (i := 1) (v := ?vd1) rfl (by kernel_rfl) (by kernel_rfl) (by kernel_rfl) (fun _ _ _ h => h) (Or.inl ⟨by rfl, ?hyd1⟩) hHeld ?restd1
          case hyd1 => (intro w' hSw; obtain ⟨k1, k2, k3⟩ := hSw; go_simp; try with_reducible rfl)
          try simp only [Act.put, List.setIfInBounds_toArray, List.set_cons_zero, List.set_cons_succ]
          refine wpAnyH_take (i := 2) (v := ?vd2) rfl (by kernel_rfl) (by kernel_rfl) (by kernel_rfl) (fun _ _ _ h => h) (Or.inl ⟨by rfl, ?hyd2⟩) hHeld ?restd2
          case hyd2 => (intro w' hSw; obtain ⟨k1, k2, k3⟩ := hSw; go_simp; try with_reducible rfl)
          try simp only [Act.put, List.setIfInBounds_toArray, List.set_cons_zero, List.set_cons_succ]
          refine wpAnyH_take (i := 4) (v := ?vd4) rfl (by kernel_rfl) (by kernel_rfl) (by kernel_rfl) (fun _ _ _ h => h) (Or.inl ⟨by rfl, ?hyd4⟩) hHeld ?restd4
          case hyd4 => (intro w' hSw; obtain ⟨k1, k2, k3⟩ := hSw; go_simp; try with_reducible rfl)
          try simp only [Act.put, List.setIfInBounds_toArray, List.set_cons_zero, List.set_cons_succ]
          refine wpAnyH_take (i := 5) (v := ?vd5) rfl (by kernel_rfl) (by kernel_rfl) (by kernel_rfl) (fun _ _ _ h => h) (Or.inl ⟨by rfl, ?hyd5⟩) hHeld ?restd5
          case hyd5 => (intro w' hSw; obtain ⟨k1, k2, k3⟩ := hSw; go_simp; try with_reducible rfl)
          try simp only [Act.put, List.setIfInBounds_toArray, List.set_cons_zero, List.set_cons_succ]
          refine wpAnyH_take (i := 6) (v := ?vd6) rfl (by kernel_rfl) (by kernel_rfl) (by kernel_rfl) (fun _ _ _ h => h) (Or.inl ⟨by rfl, ?hyd6⟩) hHeld ?restd6
          case hyd6 => (intro w' hSw; obtain ⟨k1, k2, k3⟩ := hSw; go_simp; try with_reducible rfl)
          try simp only [Act.put, List.setIfInBounds_toArray, List.set_cons_zero, List.set_cons_succ]
          refine wpAnyH_one (i := 3) (by kernel_rfl) rfl (fun K hK => ?_)
          go_simp
          refine hact.mono ?_
          rintro e u3 ⟨rfl, hA⟩
          obtain ⟨v', H3, hk3⟩ := A1.out.half hA
          have hS3 : u3.cell? ⟨X, 1, none⟩ = some (.int .i64 id) ∧ u3.cell? ⟨X, 2, none⟩ = some (.int .i64 bh) ∧ u3.cell? ⟨X, 3, none⟩ = some (.int .u8 (c : Int)) := by
            have hbl := fun o => World.cell?_of_block (a := ⟨X, o, none⟩) (hk3.block X X1.out.2.2.2.1 (by
              rintro (e | e)
              · have := X1.out.2.2.2.2.2
                omega
              · have := X1.out.2.2.2.2.1 X e.symm
                omega))
            exact ⟨(hbl 1).trans X1.out.1, (hbl 2).trans X1.out.2.1, (hbl 3).trans X1.out.2.2.1⟩
          have A3 : Aside (LH w B v' vr (delL id (M.map bare)) M u3) := H3
          have hXs3 : X < u3.heap.size := Nat.lt_of_lt_of_le X1.out.2.2.2.1 hk3.size
          refine hK _ _ hS3 ?_
          clear hK K hA H3 hk3 hact
          try simp only [Act.put, List.setIfInBounds_toArray, List.set_cons_zero, List.set_cons_succ]
          refine wpAnyH_one (i := 7) (by kernel_rfl) rfl (fun K hK => ?_)
          go_simp
          refine (rdel_all u3 (B + 2) (B + 1) vr M id A3.out.ra (by omega)).mono ?_
          rintro e u4 ⟨rfl, R4, hk4'⟩
          have hk4 : Keeps (fun k => k = B + 1 ∨ some k = vr.ownBlock) u3 u4 := hk4'.mono (fun k _ e => .inr e)
          have A4 : Aside (LA w B v' vr (rdelL id M) u4) := A3.out.full R4 hk4 (.inl rfl) (rdelL_bare id M).symm
          rw [delE_bare]
          clear R4 hk4'
          have hXB : X ≠ B + 1 ∧ some X ≠ vr.ownBlock := X2.out
          have hS4 : u4.cell? ⟨X, 1, none⟩ = some (.int .i64 id) ∧ u4.cell? ⟨X, 2, none⟩ = some (.int .i64 bh) ∧ u4.cell? ⟨X, 3, none⟩ = some (.int .u8 (c : Int)) := by
            have hbl := fun o => World.cell?_of_block (a := ⟨X, o, none⟩) (hk4.block X hXs3 (by
              rintro (e | e)
              · exact hXB.1 e
              · exact hXB.2 e))
            exact ⟨(hbl 1).trans hS3.1, (hbl 2).trans hS3.2.1, (hbl 3).trans hS3.2.2⟩
          have hcod := coded_err u4 (HE.out.mono (A4.out.below.mono hBe)) _ (delE_le id M)
          refine hK _ _ hS4 ?_
          clear hK K hk4 hS3 A3
          try simp only [Act.put, List.setIfInBounds_toArray, List.set_cons_zero, List.set_cons_succ]
          refine wpAnyH_one (i := 8) (by kernel_rfl) rfl (fun K hK => ?_)
          go_simp
          refine hcod.mono ?_
          rintro e u5 ⟨rfl, hb5⟩
          have hS5 : u5.cell? ⟨X, 1, none⟩ = some (.int .i64 id) ∧ u5.cell? ⟨X, 2, none⟩ = some (.int .i64 bh) ∧ u5.cell? ⟨X, 3, none⟩ = some (.int .u8 (c : Int)) := ⟨cellStays hb5 hS4.1, cellStays hb5 hS4.2.1, cellStays hb5 hS4.2.2⟩
          have A5 := A4.out.later hb5
          have H5 := Lib.hid A5
          refine hK _ _ hS5 ?_
          clear hK K hb5 hcod hS4 A4 A5
          try simp only [Act.put, List.setIfInBounds_toArray, List.set_cons_zero, List.set_cons_succ]
          refine wpAnyH_one (i := 9) (by kernel_rfl) rfl (fun K hK => ?_)
          go_simp
          refine hK _ _ hS5 ?_
          clear hK K
          refine wpAnyH_done (by kernel_rfl) ?_ _
          clear hS5
          go_wp2
          go_meet
          exact ⟨_, _, _, hMi', H5.out⟩
      case rest =>
        obtain ⟨v', vr', M', hMi', H⟩ := hcut
        clear A1 X1 X2 hMb HW hx
        have hM1 : M'.length ≤ 1000 := by omega
        obtain ⟨T, hT⟩ : ∃ T : ByteArray, Aside ((⟨(textL M').toArray⟩ : ByteArray) = T) := ⟨_, rfl⟩
        have hTT : (T != T) = false := bneBytes T
        go_wp2_with fail
        refine (text_any wc (B + 2) B v' (M'.map bare) H.out.la (by rw [List.length_map]; exact hM1)).mono ?_
        rintro e u6 ⟨rfl, hb6⟩
        rw [show textL (M'.map bare) = textL M' by unfold textL; rw [bare_seen], hT.out]
        have H6 : Aside (LA w B v' vr' M' u6) := H.out.later hb6
        clear hb6 H
        go_wp2_with fail
        refine (rtext_any u6 (B + 2) (B + 1) vr' M' H6.out.ra hM1).mono ?_
        rintro e u7 ⟨rfl, hb7⟩
        rw [hT.out]
        have H7 : Aside (LA w B v' vr' M' u7) := H6.out.later hb7
        clear hb7 H6
        go_wp2
        go_roundg (xs.length - (i + 1))
        case measure => omega
        case rel => exact ⟨i + 1, v', vr', M', by go_num, by omega, Nat.le_refl _, hMi', H7⟩
    · have hltz : decide ((i : Int) < (xs.length : Int)) = false := by simp; omega
      have hM1 : M.length ≤ 1000 := by omega
      clear HX hkx
      go_wp2_with fail
      refine (ids_any u0 (B + 2) B v (M.map bare) A.out.la (by rw [List.length_map]; exact hM1)).mono ?_
      rintro e u1 ⟨g1, rfl, ho1, hb1⟩
      rw [List.length_map] at ho1 ⊢
      have A1 : Aside (LA w B v vr M u1 ∧ u1.ownsRow u0.heap.size 3 1 (.slice (some ⟨g1, 0, none⟩) M.length M.length) M.length (idsV (M.map bare))) := ⟨A.out.later hb1, ho1⟩
      clear ho1 hb1 A
      obtain ⟨ar, cr, hvr⟩ := rowShape A1.out.1.ra.row
      subst hvr
      have c1 := A1.out.1.ra.c0
      have hnn : ((M.length : Int) != (M.length : Int)) = false := by simp
      go_wp2
      clear c1 hnn
      go_loopg [11] M.length (fun kx s11 wr => ∃ (k : Nat), s11 = .int .i64 (k : Int) ∧ k ≤ M.length ∧ M.length - k ≤ kx ∧ Aside (Below u1.heap.size u1 wr))
      case atStart => exact ⟨0, rfl, Nat.zero_le _, Nat.le_refl _, Below.refl _ _⟩
      case round =>
        obtain ⟨k, rfl, hk, hkk, C⟩ := hrel
        obtain ⟨u2, hu2⟩ : ∃ u2, u2 = wr := ⟨_, rfl⟩
        subst hu2
        by_cases hkl : k < M.length
        · have hklz : decide ((k : Int) < (M.length : Int)) = true := by simp; omega
          have ek : ((k : Int)).toNat = k := by omega
          have pk : (0 : Int) ≤ (k : Int) := by omega
          have bk : (k : Int) < (M.length : Int) := by omega
          obtain ⟨⟨a, ch, gn⟩, hl⟩ : ∃ l, Aside (M[k]? = some l) := ⟨M[k], List.getElem?_eq_getElem hkl⟩
          have ca : u2.cell? ⟨g1, k, none⟩ = some (.int .i64 a) := cellStays C.out (by
            rw [A1.out.2.cellAt k (by omega)]
            unfold idsV
            rw [List.map_map, List.getElem?_map, hl.out]
            simp [bare_id])
          have c1 := cellStays C.out A1.out.1.ra.c0
          obtain ⟨blk2, off2, rfl, f0, f1, f2⟩ := ((letsRow A1.out.1.ra.row).later C.out).at hl.out
          have daa : (a != a) = false := by simp
          go_wp2_with fail
          go_quiet (fail)
          go_wp2
          go_roundg (M.length - (k + 1))
          case measure => omega
          case rel => exact ⟨k + 1, by go_num, by omega, Nat.le_refl _, below_drewN C.out _⟩
        · have hklz : decide ((k : Int) < (M.length : Int)) = false := by simp; omega
          have A2 : Aside (LA w B v (.slice ar M.length cr) M u2) := A1.out.1.later C.out
          clear A1 C hk hkk
          go_wp2_with fail
          refine (rseen_any u2 (B + 2) (B + 1) _ M A2.out.ra hM1).mono ?_
          rintro e u3 ⟨vs, rfl, hos, hb3⟩
          obtain ⟨asn, csn, rfl⟩ := rowShape hos
          have A3 : Aside (LA w B v (.slice ar M.length cr) M u3 ∧ LetsIn u3 asn (seenOf M)) := ⟨A2.out.later hb3, letsRow hos⟩
          clear hos hb3 A2
          have hat := at_any u3 (B + 2) B v (M.map bare) at_ A3.out.1.la (by rw [List.length_map]; exact hM1) HA.out
          rw [show atL at_ (M.map bare) = atL at_ M by unfold atL; rw [bare_seen]] at hat
          have hSl : (seenOf M).length ≤ 1000 := by
            have : (seenOf M).length ≤ M.length := List.length_filter_le _ _
            omega
          obtain ⟨N, hN⟩ : ∃ N, Aside (seenOf M = N) := ⟨_, rfl⟩
          rw [hN.out] at A3 hSl ⊢
          by_cases hneg : at_ < 0
          · have dn : decide (at_ < 0) = true := decide_eq_true hneg
            rw [atL_neg M hneg] at hat
            clear hneg
            go_wp2_with fail
            refine hat.mono ?_
            rintro e u4 ⟨rfl, hb4⟩
            have F : Aside (Below w.heap.size w u4) := A3.out.1.below.trans (hb4.mono A3.out.1.below.size)
            clear hb4 hat
            go_wp2
            go_ret
            exact ⟨rfl, F.out⟩
          · have dn : decide (at_ < 0) = false := decide_eq_false hneg
            obtain ⟨t, rfl⟩ : ∃ t : Nat, at_ = (t : Int) := ⟨at_.toNat, by omega⟩
            by_cases hge : N.length ≤ t
            · have dg : decide ((N.length : Int) ≤ (t : Int)) = true := decide_eq_true (by omega)
              rw [atL_past (M := M) (by rw [hN.out]; exact hge)] at hat
              clear hneg
              go_wp2_with fail
              refine hat.mono ?_
              rintro e u4 ⟨rfl, hb4⟩
              have F : Aside (Below w.heap.size w u4) := A3.out.1.below.trans (hb4.mono A3.out.1.below.size)
              clear hb4 hat
              go_wp2
              go_ret
              exact ⟨rfl, F.out⟩
            · have dg : decide ((N.length : Int) ≤ (t : Int)) = false := decide_eq_false (by omega)
              have htl : t < N.length := by omega
              have et : ((t : Int)).toNat = t := by omega
              have pt : (0 : Int) ≤ (t : Int) := by omega
              have bt : (t : Int) < (N.length : Int) := by omega
              obtain ⟨⟨a, ch, gn⟩, hl⟩ : ∃ l, Aside (N[t]? = some l) := ⟨N[t], List.getElem?_eq_getElem htl⟩
              rw [atL_at (M := M) (by rw [hN.out]; exact hl.out)] at hat
              clear hneg
              go_wp2_with fail
              refine hat.mono ?_
              rintro e u4 ⟨rfl, hb4⟩
              have F : Aside (Below w.heap.size w u4) := A3.out.1.below.trans (hb4.mono A3.out.1.below.size)
              obtain ⟨blk3, off3, rfl, f0, f1, f2⟩ := (A3.out.2.later hb4).at hl.out
              have daa : (a == a) = true := by simp
              clear hb4 hat A3
              go_wp2
              go_ret
              exact ⟨rfl, F.out⟩
end Go.Proofs.YtchngdhmloahbabDoor
