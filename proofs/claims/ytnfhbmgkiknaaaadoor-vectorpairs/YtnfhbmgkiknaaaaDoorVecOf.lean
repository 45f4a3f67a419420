/- Contract of the reference's VectorOf, at a text of at most 100 bytes. -/
import Derived.Test.YtnfhbmgkiknaaaaDoorCutWalks
import Derived.Test.YtnfhbmgkiknaaaaDoorVecMore
import Derived.Lib.SmallJoins
import Derived.RegionTactic
import Derived.Deep.RegionWith
namespace Go.Proofs.YtnfhbmgkiknaaaaDoor
open Go.RowKit

/-- What a text's vector is, as a value (the zero one where it is none). -/
def rvVec : RV → Value
  | some (.inr (n0, n1, n2, n3)) => .agg #[.int .i64 (n0 : Nat), .int .i64 (n1 : Nat), .int .i64 (n2 : Nat), .int .i64 (n3 : Nat)]
  | _ => .agg #[.int .i64 0, .int .i64 0, .int .i64 0, .int .i64 0]
/-- .. and its fault, as the reference tells it. -/
def rvFault : RV → Value
  | none => .agg #[.int .i64 1, .int .i64 (-1)]
  | some (.inl k) => .agg #[.int .i64 2, .int .i64 (k : Nat)]
  | some (.inr _) => .agg #[.int .i64 0, .int .i64 (-1)]

/-- The two results' blocks, still zero; nothing old has turned. -/
structure ResS (w0 : World) (w : World) : Prop where
  c0 : w.cell? ⟨w0.heap.size, 0, none⟩ = some (.int .i64 0)
  c1 : w.cell? ⟨w0.heap.size, 1, none⟩ = some (.int .i64 0)
  c2 : w.cell? ⟨w0.heap.size, 2, none⟩ = some (.int .i64 0)
  c3 : w.cell? ⟨w0.heap.size, 3, none⟩ = some (.int .i64 0)
  c4 : w.cell? ⟨w0.heap.size + 1, 0, none⟩ = some (.int .i64 0)
  c5 : w.cell? ⟨w0.heap.size + 1, 1, none⟩ = some (.int .i64 0)
  f0 : w.frozen? ⟨w0.heap.size, 0, none⟩ = false
  f1 : w.frozen? ⟨w0.heap.size, 1, none⟩ = false
  f2 : w.frozen? ⟨w0.heap.size, 2, none⟩ = false
  f3 : w.frozen? ⟨w0.heap.size, 3, none⟩ = false
  f4 : w.frozen? ⟨w0.heap.size + 1, 0, none⟩ = false
  f5 : w.frozen? ⟨w0.heap.size + 1, 1, none⟩ = false
  b : Below w0.heap.size w0 w
  z : w0.heap.size + 2 ≤ w.heap.size

theorem ResS.later {w0 w w' : World} (h : ResS w0 w) (hb : Below w.heap.size w w') : ResS w0 w' := by
  obtain ⟨hc, hf⟩ := vcellb hb
  have z := h.z
  exact ⟨by rw [hc _ _ (by omega)]; exact h.c0, by rw [hc _ _ (by omega)]; exact h.c1, by rw [hc _ _ (by omega)]; exact h.c2, by rw [hc _ _ (by omega)]; exact h.c3, by rw [hc _ _ (by omega)]; exact h.c4, by rw [hc _ _ (by omega)]; exact h.c5,
    by rw [hf _ _ (by omega)]; exact h.f0, by rw [hf _ _ (by omega)]; exact h.f1, by rw [hf _ _ (by omega)]; exact h.f2, by rw [hf _ _ (by omega)]; exact h.f3, by rw [hf _ _ (by omega)]; exact h.f4, by rw [hf _ _ (by omega)]; exact h.f5,
    h.b.trans (hb.mono (by omega)), Nat.le_trans z hb.size⟩

set_option maxHeartbeats 400000 in
theorem bare_exact (n : Int) (w : World) : Calls Tryd.prog 71 #[.int .i64 n] w fun e w' => e = .returned (.agg #[.int .i64 n, .int .i64 (-1)]) ∧ w' = w.alloc (.cells #[.int .i64 n, .int .i64 (-1)] 59) := by
  go_enter Tryd.func71, Tryd.ntmps71
  go_wp2
  exact bodyPost_ret (v := .agg #[.int .i64 n, .int .i64 (-1)]) (by simp [results, Tryd.results71, go_sem]) rfl ⟨rfl, rfl⟩

set_option maxRecDepth 100000 in
set_option maxHeartbeats 2000000 in
theorem vo_len (s : ByteArray) (w : World) (hs : s.size ≤ 100) (h4 : (cutL s.data.toList).length ≠ 4) :
    Calls Tryd.prog 41 #[.string s] w fun e w' => e = .returned (.tuple #[.agg #[.int .i64 0, .int .i64 0, .int .i64 0, .int .i64 0], .agg #[.int .i64 1, .int .i64 (-1)]]) ∧ Below w.heap.size w w' := by
  have S0 : ResS w ((w.alloc (.cells #[.int .i64 0, .int .i64 0, .int .i64 0, .int .i64 0] 52)).alloc (.cells #[.int .i64 0, .int .i64 0] 59)) := by
    constructor <;> first | (simp [go_sem]; done) | exact ((Below.refl _ _).alloc (Nat.le_refl _) _).alloc (by simp) _
  have H4 := Lib.hid h4
  clear h4
  go_enter Tryd.func41, Tryd.ntmps41
  go_wp2_with fail
  refine (cut_any s _ hs).mono ?_
  rintro e w1 ⟨v, P, rfl, hown, hP, hb⟩
  have hl : P.length = (cutL s.data.toList).length := by rw [← hP]; simp
  have hp : 0 < P.length := by rw [hl]; exact List.length_pos_iff.2 (cutL_ne _)
  obtain ⟨g, cap, rfl⟩ := Joins.ownsRow_form hown hp
  have hd : ((P.length : Int) != 4) = true := by have := H4.out; simp; omega
  have S1 := S0.later hb
  clear hl hp hown hP hb S0 H4
  have S2 := S1.later ((Below.refl _ _).alloc (Nat.le_refl _) (.cells #[.int .i64 0, .int .i64 0, .int .i64 0, .int .i64 0] 52))
  have V2 : VecAt (w1.alloc (.cells #[.int .i64 0, .int .i64 0, .int .i64 0, .int .i64 0] 52)) w1.heap.size 0 0 0 0 := by simp [VecAt, go_sem]
  go_wp2_with fail
  generalize w1.alloc (.cells #[.int .i64 0, .int .i64 0, .int .i64 0, .int .i64 0] 52) = w2 at S2 V2 ⊢
  clear S1
  generalize w1.heap.size = kv at V2 ⊢
  have S2d := S2.later (Below.refl _ _).drew
  have V2d := V2.later (Below.refl _ _).drew
  obtain ⟨q0, q1, q2, q3⟩ := id V2
  go_region_with (go_at_call 71; refine (bare_any _ _).mono ?_; rintro e w' ⟨rfl, hb⟩; have S3 := S2d.later hb; have V3 := V2d.later hb; clear hb; obtain ⟨c0, c1, c2, c3, c4, c5, f0, f1, f2, f3, f4, f5, B3, -⟩ := S3; obtain ⟨q0', q1', q2', q3'⟩ := V3)
  all_goals go_wp2
  all_goals
    refine bodyPost_ret (v := .tuple #[.agg #[.int .i64 0, .int .i64 0, .int .i64 0, .int .i64 0], .agg #[.int .i64 1, .int .i64 (-1)]]) (by simp [results, Tryd.results41, go_sem, c0, c1, c2, c3, c4, c5]) rfl ⟨rfl, ?_⟩
    exact (((((B3.setCell (by simp) _).setCell (by simp) _).setCell (by simp) _).setCell (by simp) _).setCell (by simp) _).setCell (by simp) _

theorem numberOf_some (s : ByteArray) (n : Nat) (w : World) (h : numL s.data.toList = some n) : Calls Tryd.prog 72 #[.string s, .int .i64 4] w fun e w' => e = .returned (.int .i64 (n : Int)) ∧ w' = w := by
  have := numberOf_any s w
  rw [h] at this
  exact this
theorem numberOf_none (s : ByteArray) (w : World) (h : numL s.data.toList = none) : Calls Tryd.prog 72 #[.string s, .int .i64 4] w fun e w' => e = .returned (.int .i64 (-1)) ∧ w' = w := by
  have := numberOf_any s w
  rw [h] at this
  exact this

/-- Four pieces: no vector's, a vector that is out of bounds, a vector. -/
theorem four_of (l0 l1 l2 l3 : List UInt8) :
    (numL l0 = none ∧ numsL l0 l1 l2 l3 = RV.text) ∨
    (∃ n0, numL l0 = some n0 ∧ numL l1 = none ∧ numsL l0 l1 l2 l3 = RV.text) ∨
    (∃ n0 n1, numL l0 = some n0 ∧ numL l1 = some n1 ∧ numL l2 = none ∧ numsL l0 l1 l2 l3 = RV.text) ∨
    (∃ n0 n1 n2, numL l0 = some n0 ∧ numL l1 = some n1 ∧ numL l2 = some n2 ∧ numL l3 = none ∧ numsL l0 l1 l2 l3 = RV.text) ∨
    (∃ n0 n1 n2 n3 k, numL l0 = some n0 ∧ numL l1 = some n1 ∧ numL l2 = some n2 ∧ numL l3 = some n3 ∧ badI n0 n1 n2 n3 = some k ∧ numsL l0 l1 l2 l3 = RV.bound k) ∨
    (∃ n0 n1 n2 n3, numL l0 = some n0 ∧ numL l1 = some n1 ∧ numL l2 = some n2 ∧ numL l3 = some n3 ∧ badI n0 n1 n2 n3 = none ∧ numsL l0 l1 l2 l3 = RV.ok n0 n1 n2 n3) := by
  unfold numsL boundL
  cases h0 : numL l0 with
  | none => exact .inl ⟨rfl, rfl⟩
  | some n0 => cases h1 : numL l1 with
    | none => exact .inr (.inl ⟨n0, rfl, rfl, rfl⟩)
    | some n1 => cases h2 : numL l2 with
      | none => exact .inr (.inr (.inl ⟨n0, n1, rfl, rfl, rfl, rfl⟩))
      | some n2 => cases h3 : numL l3 with
        | none => exact .inr (.inr (.inr (.inl ⟨n0, n1, n2, rfl, rfl, rfl, rfl, rfl⟩)))
        | some n3 =>
          dsimp only
          cases hb : badI n0 n1 n2 n3 with
          | none => exact .inr (.inr (.inr (.inr (.inr ⟨n0, n1, n2, n3, rfl, rfl, rfl, rfl, hb, rfl⟩))))
          | some k => exact .inr (.inr (.inr (.inr (.inl ⟨n0, n1, n2, n3, k, rfl, rfl, rfl, rfl, hb, rfl⟩))))

set_option maxRecDepth 100000 in
set_option maxHeartbeats 4000000 in
theorem vo_t0 (s : ByteArray) (w : World) (hs : s.size ≤ 100) (l0 l1 l2 l3 : List UInt8) (h4 : cutL s.data.toList = [l0, l1, l2, l3])  (hn : numL l0 = none) :
    Calls Tryd.prog 41 #[.string s] w fun e w' => e = .returned (.tuple #[.agg #[.int .i64 0, .int .i64 0, .int .i64 0, .int .i64 0], .agg #[.int .i64 1, .int .i64 (-1)]]) ∧ Below w.heap.size w w' := by
  have S0 : ResS w ((w.alloc (.cells #[.int .i64 0, .int .i64 0, .int .i64 0, .int .i64 0] 52)).alloc (.cells #[.int .i64 0, .int .i64 0] 59)) := by
    constructor <;> first | (simp [go_sem]; done) | exact ((Below.refl _ _).alloc (Nat.le_refl _) _).alloc (by simp) _
  have H4 := Lib.hid h4
  clear h4
  go_enter Tryd.func41, Tryd.ntmps41
  go_wp2_with fail
  refine (cut_any s _ hs).mono ?_
  rintro e w1 ⟨v, P, rfl, hown, hP, hb⟩
  rw [H4.out] at hP
  obtain ⟨p0, p1, p2, p3, rfl, e0, e1, e2, e3⟩ : ∃ p0 p1 p2 p3, P = [p0, p1, p2, p3] ∧ p0.data.toList = l0 ∧ p1.data.toList = l1 ∧ p2.data.toList = l2 ∧ p3.data.toList = l3 := by
    match P, hP with
    | [a, b, c, d], hP => simp at hP; exact ⟨a, b, c, d, rfl, hP⟩
  subst e0 e1 e2 e3
  obtain ⟨g, cap, rfl⟩ := Joins.ownsRow_form hown (by simp)
  have hc := hown.cells (g := g) rfl
  have k0 : ∀ o, (w1.alloc o).cell? ⟨g, 0, none⟩ = some (.string p0) := fun o => cell_later ((Below.refl _ _).alloc (Nat.le_refl _) o) (by simpa [Addr.add] using hc 0 _ rfl)
  have k1 : ∀ o, (w1.alloc o).cell? ⟨g, 1, none⟩ = some (.string p1) := fun o => cell_later ((Below.refl _ _).alloc (Nat.le_refl _) o) (by simpa [Addr.add] using hc 1 _ rfl)
  have k2 : ∀ o, (w1.alloc o).cell? ⟨g, 2, none⟩ = some (.string p2) := fun o => cell_later ((Below.refl _ _).alloc (Nat.le_refl _) o) (by simpa [Addr.add] using hc 2 _ rfl)
  have k3 : ∀ o, (w1.alloc o).cell? ⟨g, 3, none⟩ = some (.string p3) := fun o => cell_later ((Below.refl _ _).alloc (Nat.le_refl _) o) (by simpa [Addr.add] using hc 3 _ rfl)
  have S1 := S0.later hb
  have hcap : 4 ≤ cap := by
    obtain ⟨-, h | ⟨g', cap', cur, hv, -, -, hn, -⟩⟩ := hown
    · cases h.1
    · cases hv; simpa using hn
  clear hown hP hb S0 H4 hc
  go_wp2
  refine wp_loop_rounds 5 ?_
  rw [rounds_succ]; go_wp2_with fail
  refine (numberOf_none p0 _ hn).mono ?_
  rintro e w' ⟨rfl, hw⟩
  subst hw
  go_wp2_with fail
  refine (bare_any _ _).mono ?_
  rintro e w3 ⟨rfl, hb⟩
  have S3 := (S1.later ((Below.refl _ _).alloc (Nat.le_refl _) _)).later hb
  clear hb S1 k0 k1 k2 k3
  obtain ⟨c0, c1, c2, c3, c4, c5, f0, f1, f2, f3, f4, f5, B3, -⟩ := S3
  go_wp2
  refine bodyPost_ret (v := .tuple #[.agg #[.int .i64 0, .int .i64 0, .int .i64 0, .int .i64 0], .agg #[.int .i64 1, .int .i64 (-1)]]) (by simp [results, Tryd.results41, go_sem, c0, c1, c2, c3, c4, c5]) rfl ⟨rfl, ?_⟩
  exact (((((B3.setCell (by simp) _).setCell (by simp) _).setCell (by simp) _).setCell (by simp) _).setCell (by simp) _).setCell (by simp) _

set_option maxRecDepth 100000 in
set_option maxHeartbeats 4000000 in
theorem vo_t1 (s : ByteArray) (w : World) (hs : s.size ≤ 100) (l0 l1 l2 l3 : List UInt8) (h4 : cutL s.data.toList = [l0, l1, l2, l3]) (n0 : Nat) (h0 : numL l0 = some n0) (hn : numL l1 = none) :
    Calls Tryd.prog 41 #[.string s] w fun e w' => e = .returned (.tuple #[.agg #[.int .i64 0, .int .i64 0, .int .i64 0, .int .i64 0], .agg #[.int .i64 1, .int .i64 (-1)]]) ∧ Below w.heap.size w w' := by
  have S0 : ResS w ((w.alloc (.cells #[.int .i64 0, .int .i64 0, .int .i64 0, .int .i64 0] 52)).alloc (.cells #[.int .i64 0, .int .i64 0] 59)) := by
    constructor <;> first | (simp [go_sem]; done) | exact ((Below.refl _ _).alloc (Nat.le_refl _) _).alloc (by simp) _
  have H4 := Lib.hid h4
  clear h4
  go_enter Tryd.func41, Tryd.ntmps41
  go_wp2_with fail
  refine (cut_any s _ hs).mono ?_
  rintro e w1 ⟨v, P, rfl, hown, hP, hb⟩
  rw [H4.out] at hP
  obtain ⟨p0, p1, p2, p3, rfl, e0, e1, e2, e3⟩ : ∃ p0 p1 p2 p3, P = [p0, p1, p2, p3] ∧ p0.data.toList = l0 ∧ p1.data.toList = l1 ∧ p2.data.toList = l2 ∧ p3.data.toList = l3 := by
    match P, hP with
    | [a, b, c, d], hP => simp at hP; exact ⟨a, b, c, d, rfl, hP⟩
  subst e0 e1 e2 e3
  obtain ⟨g, cap, rfl⟩ := Joins.ownsRow_form hown (by simp)
  have hc := hown.cells (g := g) rfl
  have k0 : ∀ o, (w1.alloc o).cell? ⟨g, 0, none⟩ = some (.string p0) := fun o => cell_later ((Below.refl _ _).alloc (Nat.le_refl _) o) (by simpa [Addr.add] using hc 0 _ rfl)
  have k1 : ∀ o, (w1.alloc o).cell? ⟨g, 1, none⟩ = some (.string p1) := fun o => cell_later ((Below.refl _ _).alloc (Nat.le_refl _) o) (by simpa [Addr.add] using hc 1 _ rfl)
  have k2 : ∀ o, (w1.alloc o).cell? ⟨g, 2, none⟩ = some (.string p2) := fun o => cell_later ((Below.refl _ _).alloc (Nat.le_refl _) o) (by simpa [Addr.add] using hc 2 _ rfl)
  have k3 : ∀ o, (w1.alloc o).cell? ⟨g, 3, none⟩ = some (.string p3) := fun o => cell_later ((Below.refl _ _).alloc (Nat.le_refl _) o) (by simpa [Addr.add] using hc 3 _ rfl)
  have S1 := S0.later hb
  have hcap : 4 ≤ cap := by
    obtain ⟨-, h | ⟨g', cap', cur, hv, -, -, hn, -⟩⟩ := hown
    · cases h.1
    · cases hv; simpa using hn
  clear hown hP hb S0 H4 hc
  go_wp2
  refine wp_loop_rounds 5 ?_
  rw [rounds_succ]; go_wp2_with fail
  refine (numberOf_some p0 n0 _ h0).mono ?_
  rintro e w' ⟨rfl, hw⟩
  subst hw
  go_wp2
  rw [rounds_succ]; go_wp2_with fail
  refine (numberOf_none p1 _ hn).mono ?_
  rintro e w' ⟨rfl, hw⟩
  subst hw
  go_wp2_with fail
  refine (bare_any _ _).mono ?_
  rintro e w3 ⟨rfl, hb⟩
  have S3 := (S1.later ((Below.refl _ _).alloc (Nat.le_refl _) _)).later hb
  clear hb S1 k0 k1 k2 k3
  obtain ⟨c0, c1, c2, c3, c4, c5, f0, f1, f2, f3, f4, f5, B3, -⟩ := S3
  go_wp2
  refine bodyPost_ret (v := .tuple #[.agg #[.int .i64 0, .int .i64 0, .int .i64 0, .int .i64 0], .agg #[.int .i64 1, .int .i64 (-1)]]) (by simp [results, Tryd.results41, go_sem, c0, c1, c2, c3, c4, c5]) rfl ⟨rfl, ?_⟩
  exact (((((B3.setCell (by simp) _).setCell (by simp) _).setCell (by simp) _).setCell (by simp) _).setCell (by simp) _).setCell (by simp) _

set_option maxRecDepth 100000 in
set_option maxHeartbeats 4000000 in
theorem vo_t2 (s : ByteArray) (w : World) (hs : s.size ≤ 100) (l0 l1 l2 l3 : List UInt8) (h4 : cutL s.data.toList = [l0, l1, l2, l3]) (n0 : Nat) (h0 : numL l0 = some n0) (n1 : Nat) (h1 : numL l1 = some n1) (hn : numL l2 = none) :
    Calls Tryd.prog 41 #[.string s] w fun e w' => e = .returned (.tuple #[.agg #[.int .i64 0, .int .i64 0, .int .i64 0, .int .i64 0], .agg #[.int .i64 1, .int .i64 (-1)]]) ∧ Below w.heap.size w w' := by
  have S0 : ResS w ((w.alloc (.cells #[.int .i64 0, .int .i64 0, .int .i64 0, .int .i64 0] 52)).alloc (.cells #[.int .i64 0, .int .i64 0] 59)) := by
    constructor <;> first | (simp [go_sem]; done) | exact ((Below.refl _ _).alloc (Nat.le_refl _) _).alloc (by simp) _
  have H4 := Lib.hid h4
  clear h4
  go_enter Tryd.func41, Tryd.ntmps41
  go_wp2_with fail
  refine (cut_any s _ hs).mono ?_
  rintro e w1 ⟨v, P, rfl, hown, hP, hb⟩
  rw [H4.out] at hP
  obtain ⟨p0, p1, p2, p3, rfl, e0, e1, e2, e3⟩ : ∃ p0 p1 p2 p3, P = [p0, p1, p2, p3] ∧ p0.data.toList = l0 ∧ p1.data.toList = l1 ∧ p2.data.toList = l2 ∧ p3.data.toList = l3 := by
    match P, hP with
    | [a, b, c, d], hP => simp at hP; exact ⟨a, b, c, d, rfl, hP⟩
  subst e0 e1 e2 e3
  obtain ⟨g, cap, rfl⟩ := Joins.ownsRow_form hown (by simp)
  have hc := hown.cells (g := g) rfl
  have k0 : ∀ o, (w1.alloc o).cell? ⟨g, 0, none⟩ = some (.string p0) := fun o => cell_later ((Below.refl _ _).alloc (Nat.le_refl _) o) (by simpa [Addr.add] using hc 0 _ rfl)
  have k1 : ∀ o, (w1.alloc o).cell? ⟨g, 1, none⟩ = some (.string p1) := fun o => cell_later ((Below.refl _ _).alloc (Nat.le_refl _) o) (by simpa [Addr.add] using hc 1 _ rfl)
  have k2 : ∀ o, (w1.alloc o).cell? ⟨g, 2, none⟩ = some (.string p2) := fun o => cell_later ((Below.refl _ _).alloc (Nat.le_refl _) o) (by simpa [Addr.add] using hc 2 _ rfl)
  have k3 : ∀ o, (w1.alloc o).cell? ⟨g, 3, none⟩ = some (.string p3) := fun o => cell_later ((Below.refl _ _).alloc (Nat.le_refl _) o) (by simpa [Addr.add] using hc 3 _ rfl)
  have S1 := S0.later hb
  have hcap : 4 ≤ cap := by
    obtain ⟨-, h | ⟨g', cap', cur, hv, -, -, hn, -⟩⟩ := hown
    · cases h.1
    · cases hv; simpa using hn
  clear hown hP hb S0 H4 hc
  go_wp2
  refine wp_loop_rounds 5 ?_
  rw [rounds_succ]; go_wp2_with fail
  refine (numberOf_some p0 n0 _ h0).mono ?_
  rintro e w' ⟨rfl, hw⟩
  subst hw
  go_wp2
  rw [rounds_succ]; go_wp2_with fail
  refine (numberOf_some p1 n1 _ h1).mono ?_
  rintro e w' ⟨rfl, hw⟩
  subst hw
  go_wp2
  rw [rounds_succ]; go_wp2_with fail
  refine (numberOf_none p2 _ hn).mono ?_
  rintro e w' ⟨rfl, hw⟩
  subst hw
  go_wp2_with fail
  refine (bare_any _ _).mono ?_
  rintro e w3 ⟨rfl, hb⟩
  have S3 := (S1.later ((Below.refl _ _).alloc (Nat.le_refl _) _)).later hb
  clear hb S1 k0 k1 k2 k3
  obtain ⟨c0, c1, c2, c3, c4, c5, f0, f1, f2, f3, f4, f5, B3, -⟩ := S3
  go_wp2
  refine bodyPost_ret (v := .tuple #[.agg #[.int .i64 0, .int .i64 0, .int .i64 0, .int .i64 0], .agg #[.int .i64 1, .int .i64 (-1)]]) (by simp [results, Tryd.results41, go_sem, c0, c1, c2, c3, c4, c5]) rfl ⟨rfl, ?_⟩
  exact (((((B3.setCell (by simp) _).setCell (by simp) _).setCell (by simp) _).setCell (by simp) _).setCell (by simp) _).setCell (by simp) _

set_option maxRecDepth 100000 in
set_option maxHeartbeats 4000000 in
theorem vo_t3 (s : ByteArray) (w : World) (hs : s.size ≤ 100) (l0 l1 l2 l3 : List UInt8) (h4 : cutL s.data.toList = [l0, l1, l2, l3]) (n0 : Nat) (h0 : numL l0 = some n0) (n1 : Nat) (h1 : numL l1 = some n1) (n2 : Nat) (h2 : numL l2 = some n2) (hn : numL l3 = none) :
    Calls Tryd.prog 41 #[.string s] w fun e w' => e = .returned (.tuple #[.agg #[.int .i64 0, .int .i64 0, .int .i64 0, .int .i64 0], .agg #[.int .i64 1, .int .i64 (-1)]]) ∧ Below w.heap.size w w' := by
  have S0 : ResS w ((w.alloc (.cells #[.int .i64 0, .int .i64 0, .int .i64 0, .int .i64 0] 52)).alloc (.cells #[.int .i64 0, .int .i64 0] 59)) := by
    constructor <;> first | (simp [go_sem]; done) | exact ((Below.refl _ _).alloc (Nat.le_refl _) _).alloc (by simp) _
  have H4 := Lib.hid h4
  clear h4
  go_enter Tryd.func41, Tryd.ntmps41
  go_wp2_with fail
  refine (cut_any s _ hs).mono ?_
  rintro e w1 ⟨v, P, rfl, hown, hP, hb⟩
  rw [H4.out] at hP
  obtain ⟨p0, p1, p2, p3, rfl, e0, e1, e2, e3⟩ : ∃ p0 p1 p2 p3, P = [p0, p1, p2, p3] ∧ p0.data.toList = l0 ∧ p1.data.toList = l1 ∧ p2.data.toList = l2 ∧ p3.data.toList = l3 := by
    match P, hP with
    | [a, b, c, d], hP => simp at hP; exact ⟨a, b, c, d, rfl, hP⟩
  subst e0 e1 e2 e3
  obtain ⟨g, cap, rfl⟩ := Joins.ownsRow_form hown (by simp)
  have hc := hown.cells (g := g) rfl
  have k0 : ∀ o, (w1.alloc o).cell? ⟨g, 0, none⟩ = some (.string p0) := fun o => cell_later ((Below.refl _ _).alloc (Nat.le_refl _) o) (by simpa [Addr.add] using hc 0 _ rfl)
  have k1 : ∀ o, (w1.alloc o).cell? ⟨g, 1, none⟩ = some (.string p1) := fun o => cell_later ((Below.refl _ _).alloc (Nat.le_refl _) o) (by simpa [Addr.add] using hc 1 _ rfl)
  have k2 : ∀ o, (w1.alloc o).cell? ⟨g, 2, none⟩ = some (.string p2) := fun o => cell_later ((Below.refl _ _).alloc (Nat.le_refl _) o) (by simpa [Addr.add] using hc 2 _ rfl)
  have k3 : ∀ o, (w1.alloc o).cell? ⟨g, 3, none⟩ = some (.string p3) := fun o => cell_later ((Below.refl _ _).alloc (Nat.le_refl _) o) (by simpa [Addr.add] using hc 3 _ rfl)
  have S1 := S0.later hb
  have hcap : 4 ≤ cap := by
    obtain ⟨-, h | ⟨g', cap', cur, hv, -, -, hn, -⟩⟩ := hown
    · cases h.1
    · cases hv; simpa using hn
  clear hown hP hb S0 H4 hc
  go_wp2
  refine wp_loop_rounds 5 ?_
  rw [rounds_succ]; go_wp2_with fail
  refine (numberOf_some p0 n0 _ h0).mono ?_
  rintro e w' ⟨rfl, hw⟩
  subst hw
  go_wp2
  rw [rounds_succ]; go_wp2_with fail
  refine (numberOf_some p1 n1 _ h1).mono ?_
  rintro e w' ⟨rfl, hw⟩
  subst hw
  go_wp2
  rw [rounds_succ]; go_wp2_with fail
  refine (numberOf_some p2 n2 _ h2).mono ?_
  rintro e w' ⟨rfl, hw⟩
  subst hw
  go_wp2
  rw [rounds_succ]; go_wp2_with fail
  refine (numberOf_none p3 _ hn).mono ?_
  rintro e w' ⟨rfl, hw⟩
  subst hw
  go_wp2_with fail
  refine (bare_any _ _).mono ?_
  rintro e w3 ⟨rfl, hb⟩
  have S3 := (S1.later ((Below.refl _ _).alloc (Nat.le_refl _) _)).later hb
  clear hb S1 k0 k1 k2 k3
  obtain ⟨c0, c1, c2, c3, c4, c5, f0, f1, f2, f3, f4, f5, B3, -⟩ := S3
  go_wp2
  refine bodyPost_ret (v := .tuple #[.agg #[.int .i64 0, .int .i64 0, .int .i64 0, .int .i64 0], .agg #[.int .i64 1, .int .i64 (-1)]]) (by simp [results, Tryd.results41, go_sem, c0, c1, c2, c3, c4, c5]) rfl ⟨rfl, ?_⟩
  exact (((((B3.setCell (by simp) _).setCell (by simp) _).setCell (by simp) _).setCell (by simp) _).setCell (by simp) _).setCell (by simp) _

end Go.Proofs.YtnfhbmgkiknaaaaDoor
