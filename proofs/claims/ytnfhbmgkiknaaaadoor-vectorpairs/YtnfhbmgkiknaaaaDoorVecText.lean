/- Contracts of a vector's Text and Check, and of the law's closed fact 'counted', over the translation. -/
import Derived.Test.YtnfhbmgkiknaaaaDoorVecWalks
import Derived.Test.YtnfhbmgkiknaaaaDoorShelf
import Derived.Lib.AppendIntMem
import Derived.Lib.ItoaLen
namespace Go.Proofs.YtnfhbmgkiknaaaaDoor
open Go.RowKit

theorem itoa_any (n : Int) (h0 : -9223372036854775808 ≤ n) (h1 : n ≤ 9223372036854775807) (w : World) (htab : Lib.TabIs Tryd.prog w "internal/strconv.uint64pow10" .u64 Lib.pow10Tab) :
    Calls Tryd.prog 65 #[.int .i64 n] w fun e w' => e = .returned (.string ⟨(Lib.itoa n).toArray⟩) ∧ Below w.heap.size w w' := by
  refine (Tryd.strconv_Itoa n h0 h1 w htab).mono ?_
  rintro e w' ⟨rfl, k, os, rfl⟩
  exact ⟨rfl, Lib.below_grow _ _ (Nat.le_refl _) _ _⟩

/-- The block of four strings; nothing old has turned. -/
structure TextS (w0 : World) (s0 s1 s2 s3 : Value) (w : World) : Prop where
  c0 : w.cell? ⟨w0.heap.size + 1, 0, none⟩ = some s0
  c1 : w.cell? ⟨w0.heap.size + 1, 1, none⟩ = some s1
  c2 : w.cell? ⟨w0.heap.size + 1, 2, none⟩ = some s2
  c3 : w.cell? ⟨w0.heap.size + 1, 3, none⟩ = some s3
  f0 : w.frozen? ⟨w0.heap.size + 1, 0, none⟩ = false
  f1 : w.frozen? ⟨w0.heap.size + 1, 1, none⟩ = false
  f2 : w.frozen? ⟨w0.heap.size + 1, 2, none⟩ = false
  f3 : w.frozen? ⟨w0.heap.size + 1, 3, none⟩ = false
  b : Below w0.heap.size w0 w
  z : w0.heap.size + 2 ≤ w.heap.size

theorem TextS.later {w0 w w' : World} {s0 s1 s2 s3 : Value} (h : TextS w0 s0 s1 s2 s3 w) (hb : Below w.heap.size w w') : TextS w0 s0 s1 s2 s3 w' := by
  obtain ⟨hc, hf⟩ := (⟨fun b o h => hb.cell (p := ⟨b, o, none⟩) h, fun b o h => hb.frozen (p := ⟨b, o, none⟩) h⟩ : (∀ b o, b < w.heap.size → w'.cell? ⟨b, o, none⟩ = w.cell? ⟨b, o, none⟩) ∧ (∀ b o, b < w.heap.size → w'.frozen? ⟨b, o, none⟩ = w.frozen? ⟨b, o, none⟩))
  have z := h.z
  exact ⟨by rw [hc _ _ (by omega)]; exact h.c0, by rw [hc _ _ (by omega)]; exact h.c1, by rw [hc _ _ (by omega)]; exact h.c2, by rw [hc _ _ (by omega)]; exact h.c3,
    by rw [hf _ _ (by omega)]; exact h.f0, by rw [hf _ _ (by omega)]; exact h.f1, by rw [hf _ _ (by omega)]; exact h.f2, by rw [hf _ _ (by omega)]; exact h.f3,
    h.b.trans (hb.mono (by omega)), Nat.le_trans z hb.size⟩

theorem TextS.set0 {w0 w : World} {s0 s1 s2 s3 : Value} (h : TextS w0 s0 s1 s2 s3 w) (s : Value) : TextS w0 s s1 s2 s3 (w.setCell ⟨w0.heap.size + 1, 0, none⟩ s) :=
  ⟨World.cell?_setCell_same _ _ _ h.c0, (World.cell?_setCell_other _ _ _ _ (by simp)).trans h.c1, (World.cell?_setCell_other _ _ _ _ (by simp)).trans h.c2, (World.cell?_setCell_other _ _ _ _ (by simp)).trans h.c3, by rw [World.frozen?_setCell]; exact h.f0, by rw [World.frozen?_setCell]; exact h.f1, by rw [World.frozen?_setCell]; exact h.f2, by rw [World.frozen?_setCell]; exact h.f3, h.b.setCell (by simp) _, by simpa using h.z⟩
theorem TextS.set1 {w0 w : World} {s0 s1 s2 s3 : Value} (h : TextS w0 s0 s1 s2 s3 w) (s : Value) : TextS w0 s0 s s2 s3 (w.setCell ⟨w0.heap.size + 1, 1, none⟩ s) :=
  ⟨(World.cell?_setCell_other _ _ _ _ (by simp)).trans h.c0, World.cell?_setCell_same _ _ _ h.c1, (World.cell?_setCell_other _ _ _ _ (by simp)).trans h.c2, (World.cell?_setCell_other _ _ _ _ (by simp)).trans h.c3, by rw [World.frozen?_setCell]; exact h.f0, by rw [World.frozen?_setCell]; exact h.f1, by rw [World.frozen?_setCell]; exact h.f2, by rw [World.frozen?_setCell]; exact h.f3, h.b.setCell (by simp) _, by simpa using h.z⟩
theorem TextS.set2 {w0 w : World} {s0 s1 s2 s3 : Value} (h : TextS w0 s0 s1 s2 s3 w) (s : Value) : TextS w0 s0 s1 s s3 (w.setCell ⟨w0.heap.size + 1, 2, none⟩ s) :=
  ⟨(World.cell?_setCell_other _ _ _ _ (by simp)).trans h.c0, (World.cell?_setCell_other _ _ _ _ (by simp)).trans h.c1, World.cell?_setCell_same _ _ _ h.c2, (World.cell?_setCell_other _ _ _ _ (by simp)).trans h.c3, by rw [World.frozen?_setCell]; exact h.f0, by rw [World.frozen?_setCell]; exact h.f1, by rw [World.frozen?_setCell]; exact h.f2, by rw [World.frozen?_setCell]; exact h.f3, h.b.setCell (by simp) _, by simpa using h.z⟩
theorem TextS.set3 {w0 w : World} {s0 s1 s2 s3 : Value} (h : TextS w0 s0 s1 s2 s3 w) (s : Value) : TextS w0 s0 s1 s2 s (w.setCell ⟨w0.heap.size + 1, 3, none⟩ s) :=
  ⟨(World.cell?_setCell_other _ _ _ _ (by simp)).trans h.c0, (World.cell?_setCell_other _ _ _ _ (by simp)).trans h.c1, (World.cell?_setCell_other _ _ _ _ (by simp)).trans h.c2, World.cell?_setCell_same _ _ _ h.c3, by rw [World.frozen?_setCell]; exact h.f0, by rw [World.frozen?_setCell]; exact h.f1, by rw [World.frozen?_setCell]; exact h.f2, by rw [World.frozen?_setCell]; exact h.f3, h.b.setCell (by simp) _, by simpa using h.z⟩

theorem join4 (bk : Nat) (x0 x1 x2 x3 : List UInt8) (w : World) (c0 : w.cell? ⟨bk, 0, none⟩ = some (.string ⟨x0.toArray⟩)) (c1 : w.cell? ⟨bk, 1, none⟩ = some (.string ⟨x1.toArray⟩)) (c2 : w.cell? ⟨bk, 2, none⟩ = some (.string ⟨x2.toArray⟩)) (c3 : w.cell? ⟨bk, 3, none⟩ = some (.string ⟨x3.toArray⟩))
    (hl : x0.length + x1.length + x2.length + x3.length ≤ 1000000) :
    Calls Tryd.prog 66 #[.slice (some ⟨bk, 0, none⟩) 4 4, .string ⟨#[46]⟩] w fun e w' => e = .returned (.string ⟨(Lib.join [x0, x1, x2, x3] [46]).toArray⟩) ∧ Below w.heap.size w w' := by
  have hc : ∀ (j : Nat) x, ([⟨x0.toArray⟩, ⟨x1.toArray⟩, ⟨x2.toArray⟩, ⟨x3.toArray⟩] : List ByteArray)[j]? = some x → w.cell? ⟨bk, 0 + j, none⟩ = some (.string x) := by
    intro j x hx
    match j, hx with
    | 0, hx => simp at hx; subst hx; simpa using c0
    | 1, hx => simp at hx; subst hx; simpa using c1
    | 2, hx => simp at hx; subst hx; simpa using c2
    | 3, hx => simp at hx; subst hx; simpa using c3
    | n + 4, hx => simp at hx
  refine (Tryd.strings_Join bk 0 4 [⟨x0.toArray⟩, ⟨x1.toArray⟩, ⟨x2.toArray⟩, ⟨x3.toArray⟩] ⟨#[46]⟩ w hc (World.block_lt_of_cell? w ⟨bk, 0, none⟩ c0) (by simp) (by simp) ?_).mono ?_
  · simp [Lib.join_cons, Lib.joinTail]; omega
  rintro e w' ⟨rfl, hb⟩
  exact ⟨by simp, hb⟩

/-- A vector's text. -/
def textL (a0 a1 a2 a3 : Int) : List UInt8 := Lib.join [Lib.itoa a0, Lib.itoa a1, Lib.itoa a2, Lib.itoa a3] [46]

set_option maxRecDepth 100000 in
set_option maxHeartbeats 1000000 in
theorem vtext_any (a0 a1 a2 a3 : Int) (w : World) (htab : Lib.TabIs Tryd.prog w "internal/strconv.uint64pow10" .u64 Lib.pow10Tab)
    (l0 : -9223372036854775808 ≤ a0) (g0 : a0 ≤ 9223372036854775807) (l1 : -9223372036854775808 ≤ a1) (g1 : a1 ≤ 9223372036854775807) (l2 : -9223372036854775808 ≤ a2) (g2 : a2 ≤ 9223372036854775807) (l3 : -9223372036854775808 ≤ a3) (g3 : a3 ≤ 9223372036854775807) :
    Calls Tryd.prog 38 #[.agg #[.int .i64 a0, .int .i64 a1, .int .i64 a2, .int .i64 a3]] w fun e w' => e = .returned (.string ⟨(textL a0 a1 a2 a3).toArray⟩) ∧ Below w.heap.size w w' := by
  have i0 : ∀ w : World, (Instr.index 54 (.agg #[.int .i64 a0, .int .i64 a1, .int .i64 a2, .int .i64 a3]) (.int .i64 0)).run Tryd.prog w = .ok (.int .i64 a0) w := fun _ => by kernel_rfl
  have i1 : ∀ w : World, (Instr.index 54 (.agg #[.int .i64 a0, .int .i64 a1, .int .i64 a2, .int .i64 a3]) (.int .i64 1)).run Tryd.prog w = .ok (.int .i64 a1) w := fun _ => by kernel_rfl
  have i2 : ∀ w : World, (Instr.index 54 (.agg #[.int .i64 a0, .int .i64 a1, .int .i64 a2, .int .i64 a3]) (.int .i64 2)).run Tryd.prog w = .ok (.int .i64 a2) w := fun _ => by kernel_rfl
  have i3 : ∀ w : World, (Instr.index 54 (.agg #[.int .i64 a0, .int .i64 a1, .int .i64 a2, .int .i64 a3]) (.int .i64 3)).run Tryd.prog w = .ok (.int .i64 a3) w := fun _ => by kernel_rfl
  have HT : Hid (Lib.TabBelow Tryd.prog w.heap.size w "internal/strconv.uint64pow10" .u64 Lib.pow10Tab) := Lib.tabBelow_of_tabIs htab
  clear htab
  have S0 : TextS w (.string ⟨#[]⟩) (.string ⟨#[]⟩) (.string ⟨#[]⟩) (.string ⟨#[]⟩) ((w.alloc (.cells #[.int .i64 a0, .int .i64 a1, .int .i64 a2, .int .i64 a3] 54)).alloc (.cells #[.string ⟨#[]⟩, .string ⟨#[]⟩, .string ⟨#[]⟩, .string ⟨#[]⟩] 113)) :=
    ⟨by simp [go_sem], by simp [go_sem], by simp [go_sem], by simp [go_sem], by simp [go_sem], by simp [go_sem], by simp [go_sem], by simp [go_sem], ((Below.refl _ _).alloc (Nat.le_refl _) _).alloc (by simp) _, by simp⟩
  go_enter Tryd.func38, Tryd.ntmps38
  go_wp2
  refine wp_loop_rounds 5 ?_
  rw [rounds_succ]; go_wp2_with fail
  refine (itoa_any a0 l0 g0 _ (HT.out _ S0.b)).mono ?_
  rintro e w1 ⟨rfl, hb⟩
  have T0 := S0.later hb
  clear hb S0
  have S1 := T0.set0 (.string ⟨(Lib.itoa a0).toArray⟩)
  obtain ⟨c0, c1, c2, c3, f0, f1, f2, f3, -, -⟩ := T0
  go_wp2
  clear c0 c1 c2 c3 f0 f1 f2 f3
  generalize w1.setCell ⟨w.heap.size + 1, 0, none⟩ (.string ⟨(Lib.itoa a0).toArray⟩) = v1 at S1 ⊢
  rw [rounds_succ]; go_wp2_with fail
  refine (itoa_any a1 l1 g1 _ (HT.out _ S1.b)).mono ?_
  rintro e w2 ⟨rfl, hb⟩
  have T1 := S1.later hb
  clear hb S1
  have S2 := T1.set1 (.string ⟨(Lib.itoa a1).toArray⟩)
  obtain ⟨c0, c1, c2, c3, f0, f1, f2, f3, -, -⟩ := T1
  go_wp2
  clear c0 c1 c2 c3 f0 f1 f2 f3
  generalize w2.setCell ⟨w.heap.size + 1, 1, none⟩ (.string ⟨(Lib.itoa a1).toArray⟩) = v2 at S2 ⊢
  rw [rounds_succ]; go_wp2_with fail
  refine (itoa_any a2 l2 g2 _ (HT.out _ S2.b)).mono ?_
  rintro e w3 ⟨rfl, hb⟩
  have T2 := S2.later hb
  clear hb S2
  have S3 := T2.set2 (.string ⟨(Lib.itoa a2).toArray⟩)
  obtain ⟨c0, c1, c2, c3, f0, f1, f2, f3, -, -⟩ := T2
  go_wp2
  clear c0 c1 c2 c3 f0 f1 f2 f3
  generalize w3.setCell ⟨w.heap.size + 1, 2, none⟩ (.string ⟨(Lib.itoa a2).toArray⟩) = v3 at S3 ⊢
  rw [rounds_succ]; go_wp2_with fail
  refine (itoa_any a3 l3 g3 _ (HT.out _ S3.b)).mono ?_
  rintro e w4 ⟨rfl, hb⟩
  have T3 := S3.later hb
  clear hb S3
  have S4 := T3.set3 (.string ⟨(Lib.itoa a3).toArray⟩)
  obtain ⟨c0, c1, c2, c3, f0, f1, f2, f3, -, -⟩ := T3
  go_wp2
  clear c0 c1 c2 c3 f0 f1 f2 f3
  generalize w4.setCell ⟨w.heap.size + 1, 3, none⟩ (.string ⟨(Lib.itoa a3).toArray⟩) = v4 at S4 ⊢
  rw [rounds_succ]; go_wp2_with fail
  refine (join4 (w.heap.size + 1) (Lib.itoa a0) (Lib.itoa a1) (Lib.itoa a2) (Lib.itoa a3) _ S4.c0 S4.c1 S4.c2 S4.c3 ?_).mono ?_
  · have e0 := Lib.itoa_length_le _ l0 g0
    have e1 := Lib.itoa_length_le _ l1 g1
    have e2 := Lib.itoa_length_le _ l2 g2
    have e3 := Lib.itoa_length_le _ l3 g3
    omega
  rintro e w5 ⟨rfl, hb⟩
  have B5 : Below w.heap.size w w5 := S4.b.trans (hb.mono (by have := S4.z; omega))
  clear hb S4
  go_wp2
  go_ret
  exact ⟨rfl, B5⟩

set_option maxRecDepth 100000 in
set_option maxHeartbeats 1000000 in
theorem vcheck_ok (a0 a1 a2 a3 : Int) (w : World) (h0 : 0 ≤ a0) (g0 : a0 ≤ 400) (h1 : 0 ≤ a1) (g1 : a1 ≤ 400) (h2 : 0 ≤ a2) (g2 : a2 ≤ 400) (h3 : 0 ≤ a3) (g3 : a3 ≤ 400) :
    Calls Tryd.prog 37 #[.agg #[.int .i64 a0, .int .i64 a1, .int .i64 a2, .int .i64 a3]] w fun e w' => e = .returned .nilIface ∧ Below w.heap.size w w' := by
  have i0 : ∀ w : World, (Instr.index 54 (.agg #[.int .i64 a0, .int .i64 a1, .int .i64 a2, .int .i64 a3]) (.int .i64 0)).run Tryd.prog w = .ok (.int .i64 a0) w := fun _ => by kernel_rfl
  have i1 : ∀ w : World, (Instr.index 54 (.agg #[.int .i64 a0, .int .i64 a1, .int .i64 a2, .int .i64 a3]) (.int .i64 1)).run Tryd.prog w = .ok (.int .i64 a1) w := fun _ => by kernel_rfl
  have i2 : ∀ w : World, (Instr.index 54 (.agg #[.int .i64 a0, .int .i64 a1, .int .i64 a2, .int .i64 a3]) (.int .i64 2)).run Tryd.prog w = .ok (.int .i64 a2) w := fun _ => by kernel_rfl
  have i3 : ∀ w : World, (Instr.index 54 (.agg #[.int .i64 a0, .int .i64 a1, .int .i64 a2, .int .i64 a3]) (.int .i64 3)).run Tryd.prog w = .ok (.int .i64 a3) w := fun _ => by kernel_rfl
  go_enter Tryd.func37, Tryd.ntmps37
  go_wp2
  refine wp_loop_rounds 5 ?_
  rw [rounds_succ]; go_wp2
  rw [rounds_succ]; go_wp2
  rw [rounds_succ]; go_wp2
  rw [rounds_succ]; go_wp2
  rw [rounds_succ]; go_wp2
  go_ret
  exact ⟨rfl, (Below.refl _ _).alloc (Nat.le_refl _) _⟩

theorem textL_counted : textL 1 0 12 3 = [49, 46, 48, 46, 49, 50, 46, 51] := by
  unfold textL Lib.itoa
  simp [Lib.decDigits, Lib.join_cons, Lib.joinTail]

set_option maxRecDepth 100000 in
set_option maxHeartbeats 1000000 in
theorem counted_any (w : World) (htab : Lib.TabIs Tryd.prog w "internal/strconv.uint64pow10" .u64 Lib.pow10Tab) :
    Calls Tryd.prog 29 #[] w fun e w' => e = .returned (.bool true) ∧ Below w.heap.size w w' := by
  have hV : VecAt (w.alloc (.cells #[.int .i64 1, .int .i64 0, .int .i64 12, .int .i64 3] 54)) w.heap.size 1 0 12 3 := by simp [VecAt, go_sem]
  have hB : Below w.heap.size w (w.alloc (.cells #[.int .i64 1, .int .i64 0, .int .i64 12, .int .i64 3] 54)) := (Below.refl _ _).alloc (Nat.le_refl _) _
  have HT : Hid (Lib.TabBelow Tryd.prog w.heap.size w "internal/strconv.uint64pow10" .u64 Lib.pow10Tab) := Lib.tabBelow_of_tabIs htab
  clear htab
  go_enter Tryd.func29, Tryd.ntmps29
  go_wp2_with fail
  refine (vtext_any 1 0 12 3 _ (HT.out _ hB) (by omega) (by omega) (by omega) (by omega) (by omega) (by omega) (by omega) (by omega)).mono ?_
  rintro e w1 ⟨rfl, hb⟩
  have V1 := hV.later hb
  have B1 : Below w.heap.size w w1 := hB.trans (hb.mono (by simp))
  have z1 := B1.size
  clear hb hV hB
  rw [textL_counted]
  obtain ⟨c0, c1, c2, c3⟩ := V1
  go_wp2_with fail
  refine (vcheck_ok 1 0 12 3 _ (by omega) (by omega) (by omega) (by omega) (by omega) (by omega) (by omega) (by omega)).mono ?_
  rintro e w2 ⟨rfl, hb⟩
  have B2 : Below w.heap.size w w2 := B1.trans (hb.mono z1)
  clear hb c0 c1 c2 c3
  go_wp2
  go_ret
  exact ⟨rfl, B2⟩
end Go.Proofs.YtnfhbmgkiknaaaaDoor
