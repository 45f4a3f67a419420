/- Contract of the program's Read of a vector, at a text of at most 100 bytes. -/
import Derived.Test.YtnfhbmgkiknaaaaDoorVecOf
import Derived.Test.YtnfhbmgkiknaaaaDoorShelf
namespace Go.Proofs.YtnfhbmgkiknaaaaDoor
open Go.RowKit

theorem readNumber_some (s : ByteArray) (n : Nat) (w : World) (h : numL s.data.toList = some n) : Calls Tryd.prog 69 #[.string s, .int .i64 4] w fun e w' => e = .returned (.tuple #[.int .i64 (n : Int), .bool true]) ∧ w' = w := by
  have := readNumber_any s w
  rw [h] at this
  exact this
theorem readNumber_none (s : ByteArray) (w : World) (h : numL s.data.toList = none) : Calls Tryd.prog 69 #[.string s, .int .i64 4] w fun e w' => e = .returned (.tuple #[.int .i64 0, .bool false]) ∧ w' = w := by
  have := readNumber_any s w
  rw [h] at this
  exact this

/-- Split by dots into five pieces at most: four of them just where the text has four. -/
theorem split_any (s : ByteArray) (m : Int) (w : World) (hs : s.size ≤ 100) (hm : w.cell? ⟨14, 0, none⟩ = some (.int .i64 m)) :
    Calls Tryd.prog 68 #[.string s, .string ⟨#[46]⟩, .int .i64 5] w fun e w' => ∃ (P : List ByteArray) (cap g : Nat), e = .returned (.slice (some ⟨g, 0, none⟩) P.length cap) ∧ P.length ≤ cap ∧ (∀ (j : Nat) p, P[j]? = some p → w'.cell? ⟨g, j, none⟩ = some (.string p)) ∧
      ((cutL s.data.toList).length = 4 → P.map (·.data.toList) = cutL s.data.toList) ∧ ((cutL s.data.toList).length ≠ 4 → P.length ≠ 4) ∧ Below w.heap.size w w' := by
  refine (Tryd.strings_SplitN s ⟨#[46]⟩ 5 m w (by omega) hm (by decide) (by decide) (by decide)).mono ?_
  rintro e w' ⟨rfl, rfl⟩
  have hl : s.data.toList.length = s.size := by simp
  have hd : (Lib.splitB ⟨#[46]⟩ 0 (min 5 (s.size + 1) - 1) s).map (·.data.toList) = Lib.splitK [46] 0 (min 5 (s.size + 1) - 1) s.data.toList := Lib.splitB_data ⟨#[46]⟩ 0 _ s
  have hn := split_length s.data.toList (min 5 (s.size + 1) - 1)
  have hle := cutL_length_le s.data.toList
  rw [hl] at hle
  have hlen : (Lib.splitB ⟨#[46]⟩ 0 (min 5 (s.size + 1) - 1) s).length = min (min 5 (s.size + 1) - 1 + 1) (cutL s.data.toList).length := by
    have := congrArg List.length hd
    rw [List.length_map] at this
    rw [this, hn]
  refine ⟨_, _, _, rfl, by rw [hlen]; omega, ?_, fun h4 => ?_, fun h4 => by rw [hlen]; omega, (Below.refl _ _).alloc (Nat.le_refl _) _⟩
  · intro j p hj
    have hj2 : j < (Lib.splitB ⟨#[46]⟩ 0 (min 5 (s.size + 1) - 1) s).length := (List.getElem?_eq_some_iff.1 hj).1
    rw [World.cell?_alloc_at _ _ _ _ rfl]
    unfold Lib.cellsOf
    rw [List.getElem?_toArray, List.getElem?_append_left (by simpa using hj2), List.getElem?_map, hj]
    rfl
  · rw [hd]
    exact split_eq _ _ (by omega)

/-- The result's block, still zero; the two errors; nothing old has turned. -/
structure ReadS (w0 : World) (u0 u1 : TypeId) (x0 x1 : Value) (w : World) : Prop where
  c0 : w.cell? ⟨w0.heap.size, 0, none⟩ = some (.int .i64 0)
  c1 : w.cell? ⟨w0.heap.size, 1, none⟩ = some (.int .i64 0)
  c2 : w.cell? ⟨w0.heap.size, 2, none⟩ = some (.int .i64 0)
  c3 : w.cell? ⟨w0.heap.size, 3, none⟩ = some (.int .i64 0)
  f0 : w.frozen? ⟨w0.heap.size, 0, none⟩ = false
  f1 : w.frozen? ⟨w0.heap.size, 1, none⟩ = false
  f2 : w.frozen? ⟨w0.heap.size, 2, none⟩ = false
  f3 : w.frozen? ⟨w0.heap.size, 3, none⟩ = false
  t : w.cell? ⟨0, 0, none⟩ = some (.iface u0 x0)
  e : w.cell? ⟨1, 0, none⟩ = some (.iface u1 x1)
  b : Below w0.heap.size w0 w
  z : w0.heap.size + 1 ≤ w.heap.size

theorem ReadS.later {w0 w w' : World} {u0 u1 : TypeId} {x0 x1 : Value} (h : ReadS w0 u0 u1 x0 x1 w) (hb : Below w.heap.size w w') : ReadS w0 u0 u1 x0 x1 w' := by
  obtain ⟨hc, hf⟩ := vcellb hb
  have z := h.z
  exact ⟨by rw [hc _ _ (by omega)]; exact h.c0, by rw [hc _ _ (by omega)]; exact h.c1, by rw [hc _ _ (by omega)]; exact h.c2, by rw [hc _ _ (by omega)]; exact h.c3,
    by rw [hf _ _ (by omega)]; exact h.f0, by rw [hf _ _ (by omega)]; exact h.f1, by rw [hf _ _ (by omega)]; exact h.f2, by rw [hf _ _ (by omega)]; exact h.f3,
    cell_later hb h.t, cell_later hb h.e, h.b.trans (hb.mono (by omega)), Nat.le_trans z hb.size⟩

set_option maxRecDepth 100000 in
set_option maxHeartbeats 4000000 in
theorem rd_len (s : ByteArray) (w : World) (hs : s.size ≤ 100) (m : Int) (hm : w.cell? ⟨14, 0, none⟩ = some (.int .i64 m)) (u0 u1 : TypeId) (x0 x1 : Value) (ht : w.cell? ⟨0, 0, none⟩ = some (.iface u0 x0)) (he : w.cell? ⟨1, 0, none⟩ = some (.iface u1 x1)) (h4 : (cutL s.data.toList).length ≠ 4) :
    Calls Tryd.prog 40 #[.string s] w fun e w' => e = .returned (.tuple #[.agg #[.int .i64 0, .int .i64 0, .int .i64 0, .int .i64 0], .iface u0 x0]) ∧ Below w.heap.size w w' := by
  have B0 : Below w.heap.size w (w.alloc (.cells #[.int .i64 0, .int .i64 0, .int .i64 0, .int .i64 0] 54)) := (Below.refl _ _).alloc (Nat.le_refl _) _
  have S0 : ReadS w u0 u1 x0 x1 (w.alloc (.cells #[.int .i64 0, .int .i64 0, .int .i64 0, .int .i64 0] 54)) := ⟨by simp [go_sem], by simp [go_sem], by simp [go_sem], by simp [go_sem], by simp [go_sem], by simp [go_sem], by simp [go_sem], by simp [go_sem], cell_later B0 ht, cell_later B0 he, B0, by simp⟩
  have HM := Lib.hid (cell_later B0 hm)
  have neT0 : 0 < w.heap.size := World.block_lt_of_cell? w ⟨0, 0, none⟩ ht
  have neT1 : ¬ w.heap.size = 0 := by omega
  have neT2 : ¬ 0 = w.heap.size := by omega
  have H4 := Lib.hid h4
  clear h4 hm ht he B0
  go_enter Tryd.func40, Tryd.ntmps40
  go_wp2_with fail
  refine (split_any s m _ hs HM.out).mono ?_
  rintro e w1 ⟨P, cap, g, rfl, hcap, hc, h4e, h4n, hb⟩
  have S1 := S0.later hb
  clear hb S0 HM
  have hd : ((P.length : Int) != 4) = true := by have := h4n H4.out; simp; omega
  clear hcap hc h4e h4n H4
  go_wp2_with fail
  obtain ⟨c0, c1, c2, c3, f0, f1, f2, f3, ct, -, B3, -⟩ := S1
  go_region
  all_goals go_wp2
  all_goals
    refine bodyPost_ret (v := .tuple #[.agg #[.int .i64 0, .int .i64 0, .int .i64 0, .int .i64 0], .iface u0 x0]) (by simp [results, Tryd.results40, go_sem, c0, c1, c2, c3]) rfl ⟨rfl, ?_⟩
    exact ((((B3.setCell (by simp) _).setCell (by simp) _).setCell (by simp) _).setCell (by simp) _).drew

set_option maxRecDepth 100000 in
set_option maxHeartbeats 4000000 in
theorem rd_t0 (s : ByteArray) (w : World) (hs : s.size ≤ 100) (m : Int) (hm : w.cell? ⟨14, 0, none⟩ = some (.int .i64 m)) (u0 u1 : TypeId) (x0 x1 : Value) (ht : w.cell? ⟨0, 0, none⟩ = some (.iface u0 x0)) (he : w.cell? ⟨1, 0, none⟩ = some (.iface u1 x1)) (l0 l1 l2 l3 : List UInt8) (h4 : cutL s.data.toList = [l0, l1, l2, l3])  (hn : numL l0 = none) :
    Calls Tryd.prog 40 #[.string s] w fun e w' => e = .returned (.tuple #[.agg #[.int .i64 0, .int .i64 0, .int .i64 0, .int .i64 0], .iface u0 x0]) ∧ Below w.heap.size w w' := by
  have B0 : Below w.heap.size w (w.alloc (.cells #[.int .i64 0, .int .i64 0, .int .i64 0, .int .i64 0] 54)) := (Below.refl _ _).alloc (Nat.le_refl _) _
  have S0 : ReadS w u0 u1 x0 x1 (w.alloc (.cells #[.int .i64 0, .int .i64 0, .int .i64 0, .int .i64 0] 54)) := ⟨by simp [go_sem], by simp [go_sem], by simp [go_sem], by simp [go_sem], by simp [go_sem], by simp [go_sem], by simp [go_sem], by simp [go_sem], cell_later B0 ht, cell_later B0 he, B0, by simp⟩
  have HM := Lib.hid (cell_later B0 hm)
  have neT0 : 0 < w.heap.size := World.block_lt_of_cell? w ⟨0, 0, none⟩ ht
  have neT1 : ¬ w.heap.size = 0 := by omega
  have neT2 : ¬ 0 = w.heap.size := by omega
  have H4 := Lib.hid h4
  clear h4 hm ht he B0
  go_enter Tryd.func40, Tryd.ntmps40
  go_wp2_with fail
  refine (split_any s m _ hs HM.out).mono ?_
  rintro e w1 ⟨P, cap, g, rfl, hcap, hc, h4e, h4n, hb⟩
  have S1 := S0.later hb
  clear hb S0 HM
  have hP := h4e (by rw [H4.out]; rfl)
  rw [H4.out] at hP
  obtain ⟨p0, p1, p2, p3, rfl, e0, e1, e2, e3⟩ : ∃ p0 p1 p2 p3, P = [p0, p1, p2, p3] ∧ p0.data.toList = l0 ∧ p1.data.toList = l1 ∧ p2.data.toList = l2 ∧ p3.data.toList = l3 := by
    match P, hP with
    | [a, b, c, d], hP => simp at hP; exact ⟨a, b, c, d, rfl, hP⟩
  subst e0 e1 e2 e3
  have k0 : ∀ o, (w1.alloc o).cell? ⟨g, 0, none⟩ = some (.string p0) := fun o => cell_later ((Below.refl _ _).alloc (Nat.le_refl _) o) (hc 0 _ rfl)
  have k1 : ∀ o, (w1.alloc o).cell? ⟨g, 1, none⟩ = some (.string p1) := fun o => cell_later ((Below.refl _ _).alloc (Nat.le_refl _) o) (hc 1 _ rfl)
  have k2 : ∀ o, (w1.alloc o).cell? ⟨g, 2, none⟩ = some (.string p2) := fun o => cell_later ((Below.refl _ _).alloc (Nat.le_refl _) o) (hc 2 _ rfl)
  have k3 : ∀ o, (w1.alloc o).cell? ⟨g, 3, none⟩ = some (.string p3) := fun o => cell_later ((Below.refl _ _).alloc (Nat.le_refl _) o) (hc 3 _ rfl)
  have hcap4 : 4 ≤ cap := by simpa using hcap
  clear hcap hc h4e h4n hP H4
  go_wp2
  refine wp_loop_rounds 5 ?_
  rw [rounds_succ]; go_wp2_with fail
  refine (readNumber_none p0 _ hn).mono ?_
  rintro e w' ⟨rfl, hw⟩
  subst hw
  go_wp2_with fail
  have S2 := S1.later ((Below.refl _ _).alloc (Nat.le_refl _) (.cells #[.int .i64 0, .int .i64 0, .int .i64 0, .int .i64 0] 54))
  clear S1 k0 k1 k2 k3
  generalize w1.alloc (.cells #[.int .i64 0, .int .i64 0, .int .i64 0, .int .i64 0] 54) = w2 at S2 ⊢
  obtain ⟨c0, c1, c2, c3, f0, f1, f2, f3, ct, -, B3, -⟩ := S2
  go_region
  all_goals go_wp2
  all_goals
    refine bodyPost_ret (v := .tuple #[.agg #[.int .i64 0, .int .i64 0, .int .i64 0, .int .i64 0], .iface u0 x0]) (by simp [results, Tryd.results40, go_sem, c0, c1, c2, c3]) rfl ⟨rfl, ?_⟩
    exact ((((B3.setCell (by simp) _).setCell (by simp) _).setCell (by simp) _).setCell (by simp) _).drew

set_option maxRecDepth 100000 in
set_option maxHeartbeats 4000000 in
theorem rd_t1 (s : ByteArray) (w : World) (hs : s.size ≤ 100) (m : Int) (hm : w.cell? ⟨14, 0, none⟩ = some (.int .i64 m)) (u0 u1 : TypeId) (x0 x1 : Value) (ht : w.cell? ⟨0, 0, none⟩ = some (.iface u0 x0)) (he : w.cell? ⟨1, 0, none⟩ = some (.iface u1 x1)) (l0 l1 l2 l3 : List UInt8) (h4 : cutL s.data.toList = [l0, l1, l2, l3]) (n0 : Nat) (h0 : numL l0 = some n0) (hn : numL l1 = none) :
    Calls Tryd.prog 40 #[.string s] w fun e w' => e = .returned (.tuple #[.agg #[.int .i64 0, .int .i64 0, .int .i64 0, .int .i64 0], .iface u0 x0]) ∧ Below w.heap.size w w' := by
  have B0 : Below w.heap.size w (w.alloc (.cells #[.int .i64 0, .int .i64 0, .int .i64 0, .int .i64 0] 54)) := (Below.refl _ _).alloc (Nat.le_refl _) _
  have S0 : ReadS w u0 u1 x0 x1 (w.alloc (.cells #[.int .i64 0, .int .i64 0, .int .i64 0, .int .i64 0] 54)) := ⟨by simp [go_sem], by simp [go_sem], by simp [go_sem], by simp [go_sem], by simp [go_sem], by simp [go_sem], by simp [go_sem], by simp [go_sem], cell_later B0 ht, cell_later B0 he, B0, by simp⟩
  have HM := Lib.hid (cell_later B0 hm)
  have neT0 : 0 < w.heap.size := World.block_lt_of_cell? w ⟨0, 0, none⟩ ht
  have neT1 : ¬ w.heap.size = 0 := by omega
  have neT2 : ¬ 0 = w.heap.size := by omega
  have H4 := Lib.hid h4
  clear h4 hm ht he B0
  go_enter Tryd.func40, Tryd.ntmps40
  go_wp2_with fail
  refine (split_any s m _ hs HM.out).mono ?_
  rintro e w1 ⟨P, cap, g, rfl, hcap, hc, h4e, h4n, hb⟩
  have S1 := S0.later hb
  clear hb S0 HM
  have hP := h4e (by rw [H4.out]; rfl)
  rw [H4.out] at hP
  obtain ⟨p0, p1, p2, p3, rfl, e0, e1, e2, e3⟩ : ∃ p0 p1 p2 p3, P = [p0, p1, p2, p3] ∧ p0.data.toList = l0 ∧ p1.data.toList = l1 ∧ p2.data.toList = l2 ∧ p3.data.toList = l3 := by
    match P, hP with
    | [a, b, c, d], hP => simp at hP; exact ⟨a, b, c, d, rfl, hP⟩
  subst e0 e1 e2 e3
  have k0 : ∀ o, (w1.alloc o).cell? ⟨g, 0, none⟩ = some (.string p0) := fun o => cell_later ((Below.refl _ _).alloc (Nat.le_refl _) o) (hc 0 _ rfl)
  have k1 : ∀ o, (w1.alloc o).cell? ⟨g, 1, none⟩ = some (.string p1) := fun o => cell_later ((Below.refl _ _).alloc (Nat.le_refl _) o) (hc 1 _ rfl)
  have k2 : ∀ o, (w1.alloc o).cell? ⟨g, 2, none⟩ = some (.string p2) := fun o => cell_later ((Below.refl _ _).alloc (Nat.le_refl _) o) (hc 2 _ rfl)
  have k3 : ∀ o, (w1.alloc o).cell? ⟨g, 3, none⟩ = some (.string p3) := fun o => cell_later ((Below.refl _ _).alloc (Nat.le_refl _) o) (hc 3 _ rfl)
  have hcap4 : 4 ≤ cap := by simpa using hcap
  clear hcap hc h4e h4n hP H4
  go_wp2
  refine wp_loop_rounds 5 ?_
  rw [rounds_succ]; go_wp2_with fail
  refine (readNumber_some p0 n0 _ h0).mono ?_
  rintro e w' ⟨rfl, hw⟩
  subst hw
  go_wp2
  rw [rounds_succ]; go_wp2_with fail
  refine (readNumber_none p1 _ hn).mono ?_
  rintro e w' ⟨rfl, hw⟩
  subst hw
  go_wp2_with fail
  have S2 := S1.later ((Below.refl _ _).alloc (Nat.le_refl _) (.cells #[.int .i64 (n0 : Int), .int .i64 0, .int .i64 0, .int .i64 0] 54))
  clear S1 k0 k1 k2 k3
  generalize w1.alloc (.cells #[.int .i64 (n0 : Int), .int .i64 0, .int .i64 0, .int .i64 0] 54) = w2 at S2 ⊢
  obtain ⟨c0, c1, c2, c3, f0, f1, f2, f3, ct, -, B3, -⟩ := S2
  go_region
  all_goals go_wp2
  all_goals
    refine bodyPost_ret (v := .tuple #[.agg #[.int .i64 0, .int .i64 0, .int .i64 0, .int .i64 0], .iface u0 x0]) (by simp [results, Tryd.results40, go_sem, c0, c1, c2, c3]) rfl ⟨rfl, ?_⟩
    exact ((((B3.setCell (by simp) _).setCell (by simp) _).setCell (by simp) _).setCell (by simp) _).drew

set_option maxRecDepth 100000 in
set_option maxHeartbeats 4000000 in
theorem rd_t2 (s : ByteArray) (w : World) (hs : s.size ≤ 100) (m : Int) (hm : w.cell? ⟨14, 0, none⟩ = some (.int .i64 m)) (u0 u1 : TypeId) (x0 x1 : Value) (ht : w.cell? ⟨0, 0, none⟩ = some (.iface u0 x0)) (he : w.cell? ⟨1, 0, none⟩ = some (.iface u1 x1)) (l0 l1 l2 l3 : List UInt8) (h4 : cutL s.data.toList = [l0, l1, l2, l3]) (n0 : Nat) (h0 : numL l0 = some n0) (n1 : Nat) (h1 : numL l1 = some n1) (hn : numL l2 = none) :
    Calls Tryd.prog 40 #[.string s] w fun e w' => e = .returned (.tuple #[.agg #[.int .i64 0, .int .i64 0, .int .i64 0, .int .i64 0], .iface u0 x0]) ∧ Below w.heap.size w w' := by
  have B0 : Below w.heap.size w (w.alloc (.cells #[.int .i64 0, .int .i64 0, .int .i64 0, .int .i64 0] 54)) := (Below.refl _ _).alloc (Nat.le_refl _) _
  have S0 : ReadS w u0 u1 x0 x1 (w.alloc (.cells #[.int .i64 0, .int .i64 0, .int .i64 0, .int .i64 0] 54)) := ⟨by simp [go_sem], by simp [go_sem], by simp [go_sem], by simp [go_sem], by simp [go_sem], by simp [go_sem], by simp [go_sem], by simp [go_sem], cell_later B0 ht, cell_later B0 he, B0, by simp⟩
  have HM := Lib.hid (cell_later B0 hm)
  have neT0 : 0 < w.heap.size := World.block_lt_of_cell? w ⟨0, 0, none⟩ ht
  have neT1 : ¬ w.heap.size = 0 := by omega
  have neT2 : ¬ 0 = w.heap.size := by omega
  have H4 := Lib.hid h4
  clear h4 hm ht he B0
  go_enter Tryd.func40, Tryd.ntmps40
  go_wp2_with fail
  refine (split_any s m _ hs HM.out).mono ?_
  rintro e w1 ⟨P, cap, g, rfl, hcap, hc, h4e, h4n, hb⟩
  have S1 := S0.later hb
  clear hb S0 HM
  have hP := h4e (by rw [H4.out]; rfl)
  rw [H4.out] at hP
  obtain ⟨p0, p1, p2, p3, rfl, e0, e1, e2, e3⟩ : ∃ p0 p1 p2 p3, P = [p0, p1, p2, p3] ∧ p0.data.toList = l0 ∧ p1.data.toList = l1 ∧ p2.data.toList = l2 ∧ p3.data.toList = l3 := by
    match P, hP with
    | [a, b, c, d], hP => simp at hP; exact ⟨a, b, c, d, rfl, hP⟩
  subst e0 e1 e2 e3
  have k0 : ∀ o, (w1.alloc o).cell? ⟨g, 0, none⟩ = some (.string p0) := fun o => cell_later ((Below.refl _ _).alloc (Nat.le_refl _) o) (hc 0 _ rfl)
  have k1 : ∀ o, (w1.alloc o).cell? ⟨g, 1, none⟩ = some (.string p1) := fun o => cell_later ((Below.refl _ _).alloc (Nat.le_refl _) o) (hc 1 _ rfl)
  have k2 : ∀ o, (w1.alloc o).cell? ⟨g, 2, none⟩ = some (.string p2) := fun o => cell_later ((Below.refl _ _).alloc (Nat.le_refl _) o) (hc 2 _ rfl)
  have k3 : ∀ o, (w1.alloc o).cell? ⟨g, 3, none⟩ = some (.string p3) := fun o => cell_later ((Below.refl _ _).alloc (Nat.le_refl _) o) (hc 3 _ rfl)
  have hcap4 : 4 ≤ cap := by simpa using hcap
  clear hcap hc h4e h4n hP H4
  go_wp2
  refine wp_loop_rounds 5 ?_
  rw [rounds_succ]; go_wp2_with fail
  refine (readNumber_some p0 n0 _ h0).mono ?_
  rintro e w' ⟨rfl, hw⟩
  subst hw
  go_wp2
  rw [rounds_succ]; go_wp2_with fail
  refine (readNumber_some p1 n1 _ h1).mono ?_
  rintro e w' ⟨rfl, hw⟩
  subst hw
  go_wp2
  rw [rounds_succ]; go_wp2_with fail
  refine (readNumber_none p2 _ hn).mono ?_
  rintro e w' ⟨rfl, hw⟩
  subst hw
  go_wp2_with fail
  have S2 := S1.later ((Below.refl _ _).alloc (Nat.le_refl _) (.cells #[.int .i64 (n0 : Int), .int .i64 (n1 : Int), .int .i64 0, .int .i64 0] 54))
  clear S1 k0 k1 k2 k3
  generalize w1.alloc (.cells #[.int .i64 (n0 : Int), .int .i64 (n1 : Int), .int .i64 0, .int .i64 0] 54) = w2 at S2 ⊢
  obtain ⟨c0, c1, c2, c3, f0, f1, f2, f3, ct, -, B3, -⟩ := S2
  go_region
  all_goals go_wp2
  all_goals
    refine bodyPost_ret (v := .tuple #[.agg #[.int .i64 0, .int .i64 0, .int .i64 0, .int .i64 0], .iface u0 x0]) (by simp [results, Tryd.results40, go_sem, c0, c1, c2, c3]) rfl ⟨rfl, ?_⟩
    exact ((((B3.setCell (by simp) _).setCell (by simp) _).setCell (by simp) _).setCell (by simp) _).drew

set_option maxRecDepth 100000 in
set_option maxHeartbeats 4000000 in
theorem rd_t3 (s : ByteArray) (w : World) (hs : s.size ≤ 100) (m : Int) (hm : w.cell? ⟨14, 0, none⟩ = some (.int .i64 m)) (u0 u1 : TypeId) (x0 x1 : Value) (ht : w.cell? ⟨0, 0, none⟩ = some (.iface u0 x0)) (he : w.cell? ⟨1, 0, none⟩ = some (.iface u1 x1)) (l0 l1 l2 l3 : List UInt8) (h4 : cutL s.data.toList = [l0, l1, l2, l3]) (n0 : Nat) (h0 : numL l0 = some n0) (n1 : Nat) (h1 : numL l1 = some n1) (n2 : Nat) (h2 : numL l2 = some n2) (hn : numL l3 = none) :
    Calls Tryd.prog 40 #[.string s] w fun e w' => e = .returned (.tuple #[.agg #[.int .i64 0, .int .i64 0, .int .i64 0, .int .i64 0], .iface u0 x0]) ∧ Below w.heap.size w w' := by
  have B0 : Below w.heap.size w (w.alloc (.cells #[.int .i64 0, .int .i64 0, .int .i64 0, .int .i64 0] 54)) := (Below.refl _ _).alloc (Nat.le_refl _) _
  have S0 : ReadS w u0 u1 x0 x1 (w.alloc (.cells #[.int .i64 0, .int .i64 0, .int .i64 0, .int .i64 0] 54)) := ⟨by simp [go_sem], by simp [go_sem], by simp [go_sem], by simp [go_sem], by simp [go_sem], by simp [go_sem], by simp [go_sem], by simp [go_sem], cell_later B0 ht, cell_later B0 he, B0, by simp⟩
  have HM := Lib.hid (cell_later B0 hm)
  have neT0 : 0 < w.heap.size := World.block_lt_of_cell? w ⟨0, 0, none⟩ ht
  have neT1 : ¬ w.heap.size = 0 := by omega
  have neT2 : ¬ 0 = w.heap.size := by omega
  have H4 := Lib.hid h4
  clear h4 hm ht he B0
  go_enter Tryd.func40, Tryd.ntmps40
  go_wp2_with fail
  refine (split_any s m _ hs HM.out).mono ?_
  rintro e w1 ⟨P, cap, g, rfl, hcap, hc, h4e, h4n, hb⟩
  have S1 := S0.later hb
  clear hb S0 HM
  have hP := h4e (by rw [H4.out]; rfl)
  rw [H4.out] at hP
  obtain ⟨p0, p1, p2, p3, rfl, e0, e1, e2, e3⟩ : ∃ p0 p1 p2 p3, P = [p0, p1, p2, p3] ∧ p0.data.toList = l0 ∧ p1.data.toList = l1 ∧ p2.data.toList = l2 ∧ p3.data.toList = l3 := by
    match P, hP with
    | [a, b, c, d], hP => simp at hP; exact ⟨a, b, c, d, rfl, hP⟩
  subst e0 e1 e2 e3
  have k0 : ∀ o, (w1.alloc o).cell? ⟨g, 0, none⟩ = some (.string p0) := fun o => cell_later ((Below.refl _ _).alloc (Nat.le_refl _) o) (hc 0 _ rfl)
  have k1 : ∀ o, (w1.alloc o).cell? ⟨g, 1, none⟩ = some (.string p1) := fun o => cell_later ((Below.refl _ _).alloc (Nat.le_refl _) o) (hc 1 _ rfl)
  have k2 : ∀ o, (w1.alloc o).cell? ⟨g, 2, none⟩ = some (.string p2) := fun o => cell_later ((Below.refl _ _).alloc (Nat.le_refl _) o) (hc 2 _ rfl)
  have k3 : ∀ o, (w1.alloc o).cell? ⟨g, 3, none⟩ = some (.string p3) := fun o => cell_later ((Below.refl _ _).alloc (Nat.le_refl _) o) (hc 3 _ rfl)
  have hcap4 : 4 ≤ cap := by simpa using hcap
  clear hcap hc h4e h4n hP H4
  go_wp2
  refine wp_loop_rounds 5 ?_
  rw [rounds_succ]; go_wp2_with fail
  refine (readNumber_some p0 n0 _ h0).mono ?_
  rintro e w' ⟨rfl, hw⟩
  subst hw
  go_wp2
  rw [rounds_succ]; go_wp2_with fail
  refine (readNumber_some p1 n1 _ h1).mono ?_
  rintro e w' ⟨rfl, hw⟩
  subst hw
  go_wp2
  rw [rounds_succ]; go_wp2_with fail
  refine (readNumber_some p2 n2 _ h2).mono ?_
  rintro e w' ⟨rfl, hw⟩
  subst hw
  go_wp2
  rw [rounds_succ]; go_wp2_with fail
  refine (readNumber_none p3 _ hn).mono ?_
  rintro e w' ⟨rfl, hw⟩
  subst hw
  go_wp2_with fail
  have S2 := S1.later ((Below.refl _ _).alloc (Nat.le_refl _) (.cells #[.int .i64 (n0 : Int), .int .i64 (n1 : Int), .int .i64 (n2 : Int), .int .i64 0] 54))
  clear S1 k0 k1 k2 k3
  generalize w1.alloc (.cells #[.int .i64 (n0 : Int), .int .i64 (n1 : Int), .int .i64 (n2 : Int), .int .i64 0] 54) = w2 at S2 ⊢
  obtain ⟨c0, c1, c2, c3, f0, f1, f2, f3, ct, -, B3, -⟩ := S2
  go_region
  all_goals go_wp2
  all_goals
    refine bodyPost_ret (v := .tuple #[.agg #[.int .i64 0, .int .i64 0, .int .i64 0, .int .i64 0], .iface u0 x0]) (by simp [results, Tryd.results40, go_sem, c0, c1, c2, c3]) rfl ⟨rfl, ?_⟩
    exact ((((B3.setCell (by simp) _).setCell (by simp) _).setCell (by simp) _).setCell (by simp) _).drew

end Go.Proofs.YtnfhbmgkiknaaaaDoor
