/- Contracts of plain.Code and of the laws' helper coded: nil, a sentinel, a Fault that wraps a sentinel. -/
import Derived.Test.YtfpmmgboodcfiaaDoorErrWalks
import Derived.Test.YtfpmmgboodcfiaaDoorAsWalks
namespace Go.Proofs.YtfpmmgboodcfiaaDoor
open Go.RowKit Go.Extern.Stop Go.Stop Go.Extern

/-- The twelve sentinels of package api lie where their variables say, each in a block of its own below B; so does the package errors' own handle of the type error. -/
structure Errs (B : Nat) (ad : Nat → Addr) (w : World) : Prop where
  c0 : w.cell? ⟨2, 0, none⟩ = some (.iface 145 (.pointer (some (ad 0))))
  c1 : w.cell? ⟨1, 0, none⟩ = some (.iface 145 (.pointer (some (ad 1))))
  c2 : w.cell? ⟨3, 0, none⟩ = some (.iface 145 (.pointer (some (ad 2))))
  c3 : w.cell? ⟨4, 0, none⟩ = some (.iface 145 (.pointer (some (ad 3))))
  c4 : w.cell? ⟨0, 0, none⟩ = some (.iface 145 (.pointer (some (ad 4))))
  c5 : w.cell? ⟨5, 0, none⟩ = some (.iface 145 (.pointer (some (ad 5))))
  c6 : w.cell? ⟨6, 0, none⟩ = some (.iface 145 (.pointer (some (ad 6))))
  c7 : w.cell? ⟨7, 0, none⟩ = some (.iface 145 (.pointer (some (ad 7))))
  c8 : w.cell? ⟨8, 0, none⟩ = some (.iface 145 (.pointer (some (ad 8))))
  c9 : w.cell? ⟨9, 0, none⟩ = some (.iface 145 (.pointer (some (ad 9))))
  c10 : w.cell? ⟨10, 0, none⟩ = some (.iface 145 (.pointer (some (ad 10))))
  c11 : w.cell? ⟨11, 0, none⟩ = some (.iface 145 (.pointer (some (ad 11))))
  et : w.cell? ⟨12, 0, none⟩ = some (.iface 123 (.agg #[.pointer (some ⟨13, 32, none⟩)]))
  lt : ∀ i, i < 12 → (ad i).block < B
  row : ∀ i, i < 12 → ∃ c t, w.heap[(ad i).block]? = some (.cells c t (0, 0))
  ne : ∀ i j, i < 12 → j < 12 → i ≠ j → ad i ≠ ad j
  big : 13 ≤ B
  size : B ≤ w.heap.size

theorem Errs.mono {B : Nat} {ad : Nat → Addr} {w w' : World} (h : Errs B ad w) (hb : Below B w w') : Errs B ad w' := by
  have hB := h.big
  have g : ∀ k v, k < 13 → w.cell? ⟨k, 0, none⟩ = some v → w'.cell? ⟨k, 0, none⟩ = some v := fun k v hk hv => by
    rw [hb.cell (p := ⟨k, 0, none⟩) (Nat.lt_of_lt_of_le hk hB)]; exact hv
  refine ⟨g _ _ (by decide) h.c0, g _ _ (by decide) h.c1, g _ _ (by decide) h.c2, g _ _ (by decide) h.c3, g _ _ (by decide) h.c4, g _ _ (by decide) h.c5, g _ _ (by decide) h.c6, g _ _ (by decide) h.c7, g _ _ (by decide) h.c8, g _ _ (by decide) h.c9, g _ _ (by decide) h.c10, g _ _ (by decide) h.c11, g _ _ (by decide) h.et, h.lt, fun i hi => ?_, h.ne, h.big, Nat.le_trans h.size hb.size⟩
  obtain ⟨c, t, e⟩ := h.row i hi
  exact ⟨c, t, by rw [hb.block _ (h.lt i hi)]; exact e⟩

theorem Errs.later {B : Nat} {ad : Nat → Addr} {w w' : World} (h : Errs B ad w) (hb : Below w.heap.size w w') : Errs B ad w' := h.mono (hb.mono h.size)

/-- plain.Code(nil). -/
theorem code_nil (w : World) : Calls Tryd.prog 19 #[.nilIface] w fun e w' => e = .returned (.tuple #[.int .i64 0, .int .i64 (-1)]) ∧ w' = w := by
  go_enter Tryd.func19, Tryd.ntmps19
  go_wp2
  go_ret2
  exact ⟨rfl, rfl⟩

def codeOf (k : Nat) : Int := if k < 12 then (k : Int) + 1 else -1

theorem twelve (ad : Nat → Addr) (j : Nat) (hj : j < 12) : (#[Value.iface 145 (.pointer (some (ad 0))), .iface 145 (.pointer (some (ad 1))), .iface 145 (.pointer (some (ad 2))), .iface 145 (.pointer (some (ad 3))), .iface 145 (.pointer (some (ad 4))), .iface 145 (.pointer (some (ad 5))), .iface 145 (.pointer (some (ad 6))), .iface 145 (.pointer (some (ad 7))), .iface 145 (.pointer (some (ad 8))), .iface 145 (.pointer (some (ad 9))), .iface 145 (.pointer (some (ad 10))), .iface 145 (.pointer (some (ad 11)))])[j]? = some (.iface 145 (.pointer (some (ad j)))) := by
  match j, hj with
  | 0, _ => rfl
  | 1, _ => rfl
  | 2, _ => rfl
  | 3, _ => rfl
  | 4, _ => rfl
  | 5, _ => rfl
  | 6, _ => rfl
  | 7, _ => rfl
  | 8, _ => rfl
  | 9, _ => rfl
  | 10, _ => rfl
  | 11, _ => rfl
  | n + 12, h => omega

set_option maxHeartbeats 1000000 in
/-- plain.Code of an error that errors.As does not find a Fault in, and of which errors.Is says which sentinel it is (12: none). -/
theorem code_plain {B : Nat} {ad : Nat → Addr} (w : World) (h : Errs B ad w) (u : TypeId) (x : Value) (k : Nat) (hk : k ≤ 12)
    (hAs : ∀ (t : Addr) (w1 : World), Errs B ad w1 → Calls Tryd.prog 37 #[.iface u x, .iface 83 (.pointer (some t))] w1 fun e w' => e = .returned (.bool false) ∧ Below w1.heap.size w1 w')
    (hIs : ∀ w1, Errs B ad w1 → Below w.heap.size w w1 → ∀ j, j < 12 → j ≤ k → Calls Tryd.prog 38 #[.iface u x, .iface 145 (.pointer (some (ad j)))] w1 fun e w' => e = .returned (.bool (decide (j = k))) ∧ w' = w1) :
    Calls Tryd.prog 19 #[.iface u x] w fun e w' => e = .returned (.tuple #[.int .i64 (codeOf k), .int .i64 (-1)]) ∧ Below w.heap.size w w' := by
  have hsz := h.size
  have h1 : Errs B ad (w.alloc (.cells #[.pointer none] 81)) := h.later ((Below.refl _ _).alloc (Nat.le_refl _) _)
  go_enter Tryd.func19, Tryd.ntmps19
  go_wp2_with fail
  refine (hAs _ _ h1).mono ?_
  rintro e w1 ⟨rfl, hb1⟩
  have H1 := h1.later hb1
  have B1 : Below w.heap.size w w1 := ((Below.refl _ _).alloc (Nat.le_refl _) _).trans (hb1.mono (by simp))
  have z1 := hb1.size
  simp at z1
  clear hb1 h1 h hAs
  have H2 := fun o => H1.later ((Below.refl _ _).alloc (Nat.le_refl _) o)
  obtain ⟨c0, c1, c2, c3, c4, c5, c6, c7, c8, c9, c10, c11, et, lt, row, ne, big, size⟩ := H1
  clear et row ne lt
  have HI : Hid (∀ w1, Errs B ad w1 → Below w.heap.size w w1 → ∀ j, j < 12 → j ≤ k → Calls Tryd.prog 38 #[.iface u x, .iface 145 (.pointer (some (ad j)))] w1 fun e w' => e = .returned (.bool (decide (j = k))) ∧ w' = w1) := hIs
  clear hIs
  go_wp2_with fail
  have hcell : ∀ j, j < 12 → (w1.alloc (.cells #[.iface 145 (.pointer (some (ad 0))), .iface 145 (.pointer (some (ad 1))), .iface 145 (.pointer (some (ad 2))), .iface 145 (.pointer (some (ad 3))), .iface 145 (.pointer (some (ad 4))), .iface 145 (.pointer (some (ad 5))), .iface 145 (.pointer (some (ad 6))), .iface 145 (.pointer (some (ad 7))), .iface 145 (.pointer (some (ad 8))), .iface 145 (.pointer (some (ad 9))), .iface 145 (.pointer (some (ad 10))), .iface 145 (.pointer (some (ad 11)))] 32)).cell? ⟨w1.heap.size, j, none⟩ = some (.iface 145 (.pointer (some (ad j)))) :=
    fun j hj => by rw [World.cell?_alloc_at _ _ _ _ rfl]; exact twelve ad j hj
  have H3 := H2 (.cells #[.iface 145 (.pointer (some (ad 0))), .iface 145 (.pointer (some (ad 1))), .iface 145 (.pointer (some (ad 2))), .iface 145 (.pointer (some (ad 3))), .iface 145 (.pointer (some (ad 4))), .iface 145 (.pointer (some (ad 5))), .iface 145 (.pointer (some (ad 6))), .iface 145 (.pointer (some (ad 7))), .iface 145 (.pointer (some (ad 8))), .iface 145 (.pointer (some (ad 9))), .iface 145 (.pointer (some (ad 10))), .iface 145 (.pointer (some (ad 11)))] 32)
  have B3 := B1.alloc (by omega) (.cells #[.iface 145 (.pointer (some (ad 0))), .iface 145 (.pointer (some (ad 1))), .iface 145 (.pointer (some (ad 2))), .iface 145 (.pointer (some (ad 3))), .iface 145 (.pointer (some (ad 4))), .iface 145 (.pointer (some (ad 5))), .iface 145 (.pointer (some (ad 6))), .iface 145 (.pointer (some (ad 7))), .iface 145 (.pointer (some (ad 8))), .iface 145 (.pointer (some (ad 9))), .iface 145 (.pointer (some (ad 10))), .iface 145 (.pointer (some (ad 11)))] 32)
  generalize w1.alloc (.cells #[.iface 145 (.pointer (some (ad 0))), .iface 145 (.pointer (some (ad 1))), .iface 145 (.pointer (some (ad 2))), .iface 145 (.pointer (some (ad 3))), .iface 145 (.pointer (some (ad 4))), .iface 145 (.pointer (some (ad 5))), .iface 145 (.pointer (some (ad 6))), .iface 145 (.pointer (some (ad 7))), .iface 145 (.pointer (some (ad 8))), .iface 145 (.pointer (some (ad 9))), .iface 145 (.pointer (some (ad 10))), .iface 145 (.pointer (some (ad 11)))] 32) = W2 at hcell H3 B3 ⊢
  clear c0 c1 c2 c3 c4 c5 c6 c7 c8 c9 c10 c11 H2 B1 big size
  generalize w1.heap.size = b1 at hcell z1 ⊢
  clear z1
  have HI' := HI.out W2 H3 B3
  have HJ : Hid (∀ j, j < 12 → j ≤ k → Calls Tryd.prog 38 #[.iface u x, .iface 145 (.pointer (some (ad j)))] W2 fun e w' => e = .returned (.bool (decide (j = k))) ∧ w' = W2) := HI'
  clear HI HI' H3
  go_loop [3, 30] (fun at' i => ∃ j : Nat, j ≤ k ∧ at' = .int .i64 (-1) ∧ i = .int .i64 j) (fun _ i => 12 - (intOf i).toNat)
  case atStart => exact ⟨0, Nat.zero_le _, rfl, rfl⟩
  case round =>
    obtain ⟨j, hj, rfl, rfl⟩ := hrel
    by_cases h12 : j < 12
    · have hc := hcell j h12
      have hd : decide ((j : Int) < 12) = true := by simp; omega
      go_wp2_with fail
      refine (HJ.out j h12 hj).mono ?_
      rintro e w' ⟨rfl, hw⟩
      subst hw
      by_cases hjk : j = k
      · have hkc : codeOf k = (j : Int) + 1 := by unfold codeOf; rw [if_pos (by omega), hjk]
        have HK : Hid (codeOf k = (j : Int) + 1) := hkc
        rw [decide_eq_true hjk]
        clear hkc hjk
        go_wp2
        go_ret2
        exact ⟨by rw [HK.out]; rfl, B3⟩
      · rw [decide_eq_false hjk]
        go_wp2
        go_round
        case rel => exact ⟨j + 1, by omega, rfl, by go_num⟩
        case measure => simp [intOf]; omega
    · have hd : decide ((j : Int) < 12) = false := by simp; omega
      have hkc : codeOf k = -1 := by unfold codeOf; rw [if_neg (by omega)]
      have HK : Hid (codeOf k = -1) := hkc
      clear hkc
      go_wp2
      go_ret2
      exact ⟨by rw [HK.out]; rfl, B3⟩

set_option maxHeartbeats 1000000 in
/-- plain.Code of a Fault that wraps a sentinel: that one's number, and the place. -/
theorem code_fault {B : Nat} {ad : Nat → Addr} (w : World) (h : Errs B ad w) (pb po : Nat) (n : Int) (k : Nat) (hk : k < 12)
    (hn : w.cell? ⟨pb, po, none⟩ = some (.int .i64 n)) (he : w.cell? ⟨pb, po + 1, none⟩ = some (.iface 145 (.pointer (some (ad k))))) :
    Calls Tryd.prog 19 #[.iface 81 (.pointer (some ⟨pb, po, none⟩))] w fun e w' => e = .returned (.tuple #[.int .i64 (codeOf k), .int .i64 n]) ∧ Below w.heap.size w w' := by
  have hsz := h.size
  have h1 : Errs B ad (w.alloc (.cells #[.pointer none] 81)) := h.later ((Below.refl _ _).alloc (Nat.le_refl _) _)
  go_enter Tryd.func19, Tryd.ntmps19
  go_wp2_with fail
  refine (as_hit' ⟨pb, po, none⟩ _ (.pointer none) _ h1.et (by simp) (by simp)).mono ?_
  rintro e w1 ⟨rfl, ht, hb1, z1⟩
  have B1 : Below w.heap.size w w1 := ((Below.refl _ _).alloc (Nat.le_refl _) _).trans hb1
  have H1 := h.later B1
  have hn1 : w1.cell? ⟨pb, po, none⟩ = some (.int .i64 n) := cell_later B1 hn
  have he1 : w1.cell? ⟨pb, po + 1, none⟩ = some (.iface 145 (.pointer (some (ad k)))) := cell_later B1 he
  simp at z1
  clear hb1 h1 h hn he
  have H2 := fun o => H1.later ((Below.refl _ _).alloc (Nat.le_refl _) o)
  have he2 := fun o => cell_later ((Below.refl w1.heap.size w1).alloc (Nat.le_refl _) o) he1
  clear he1
  obtain ⟨c0, c1, c2, c3, c4, c5, c6, c7, c8, c9, c10, c11, et, lt, row, ne, big, size⟩ := H1
  clear et row ne lt
  have HI : Hid (∀ w1, Errs B ad w1 → w1.cell? ⟨pb, po + 1, none⟩ = some (.iface 145 (.pointer (some (ad k)))) → ∀ j, j < 12 → j ≤ k → Calls Tryd.prog 38 #[.iface 81 (.pointer (some ⟨pb, po, none⟩)), .iface 145 (.pointer (some (ad j)))] w1 fun e w' => e = .returned (.bool (decide (j = k))) ∧ w' = w1) := by
    intro w1 hw1 hc j hj _
    by_cases hjk : j = k
    · subst hjk
      rw [decide_eq_true rfl]
      exact is_fault_same pb po (ad j) w1 hc
    · rw [decide_eq_false hjk]
      obtain ⟨ca, ta, ea⟩ := hw1.row k hk
      obtain ⟨cb, tb, eb⟩ := hw1.row j hj
      exact is_fault_other pb po (ad j) (ad k) ca cb ta tb w1 hc (hw1.ne k j hk hj (fun e => hjk e.symm)) ea eb
  go_wp2_with fail
  have hcell : ∀ j, j < 12 → (w1.alloc (.cells #[.iface 145 (.pointer (some (ad 0))), .iface 145 (.pointer (some (ad 1))), .iface 145 (.pointer (some (ad 2))), .iface 145 (.pointer (some (ad 3))), .iface 145 (.pointer (some (ad 4))), .iface 145 (.pointer (some (ad 5))), .iface 145 (.pointer (some (ad 6))), .iface 145 (.pointer (some (ad 7))), .iface 145 (.pointer (some (ad 8))), .iface 145 (.pointer (some (ad 9))), .iface 145 (.pointer (some (ad 10))), .iface 145 (.pointer (some (ad 11)))] 32)).cell? ⟨w1.heap.size, j, none⟩ = some (.iface 145 (.pointer (some (ad j)))) :=
    fun j hj => by rw [World.cell?_alloc_at _ _ _ _ rfl]; exact twelve ad j hj
  have H3 := H2 (.cells #[.iface 145 (.pointer (some (ad 0))), .iface 145 (.pointer (some (ad 1))), .iface 145 (.pointer (some (ad 2))), .iface 145 (.pointer (some (ad 3))), .iface 145 (.pointer (some (ad 4))), .iface 145 (.pointer (some (ad 5))), .iface 145 (.pointer (some (ad 6))), .iface 145 (.pointer (some (ad 7))), .iface 145 (.pointer (some (ad 8))), .iface 145 (.pointer (some (ad 9))), .iface 145 (.pointer (some (ad 10))), .iface 145 (.pointer (some (ad 11)))] 32)
  have he3 := he2 (.cells #[.iface 145 (.pointer (some (ad 0))), .iface 145 (.pointer (some (ad 1))), .iface 145 (.pointer (some (ad 2))), .iface 145 (.pointer (some (ad 3))), .iface 145 (.pointer (some (ad 4))), .iface 145 (.pointer (some (ad 5))), .iface 145 (.pointer (some (ad 6))), .iface 145 (.pointer (some (ad 7))), .iface 145 (.pointer (some (ad 8))), .iface 145 (.pointer (some (ad 9))), .iface 145 (.pointer (some (ad 10))), .iface 145 (.pointer (some (ad 11)))] 32)
  have B3 := B1.alloc (by omega) (.cells #[.iface 145 (.pointer (some (ad 0))), .iface 145 (.pointer (some (ad 1))), .iface 145 (.pointer (some (ad 2))), .iface 145 (.pointer (some (ad 3))), .iface 145 (.pointer (some (ad 4))), .iface 145 (.pointer (some (ad 5))), .iface 145 (.pointer (some (ad 6))), .iface 145 (.pointer (some (ad 7))), .iface 145 (.pointer (some (ad 8))), .iface 145 (.pointer (some (ad 9))), .iface 145 (.pointer (some (ad 10))), .iface 145 (.pointer (some (ad 11)))] 32)
  generalize w1.alloc (.cells #[.iface 145 (.pointer (some (ad 0))), .iface 145 (.pointer (some (ad 1))), .iface 145 (.pointer (some (ad 2))), .iface 145 (.pointer (some (ad 3))), .iface 145 (.pointer (some (ad 4))), .iface 145 (.pointer (some (ad 5))), .iface 145 (.pointer (some (ad 6))), .iface 145 (.pointer (some (ad 7))), .iface 145 (.pointer (some (ad 8))), .iface 145 (.pointer (some (ad 9))), .iface 145 (.pointer (some (ad 10))), .iface 145 (.pointer (some (ad 11)))] 32) = W2 at hcell H3 B3 he3 ⊢
  clear c0 c1 c2 c3 c4 c5 c6 c7 c8 c9 c10 c11 H2 he2 B1 big size hn1 ht
  generalize w1.heap.size = b1 at hcell z1 ⊢
  clear z1
  have HI' := HI.out W2 H3 he3
  have HJ : Hid (∀ j, j < 12 → j ≤ k → Calls Tryd.prog 38 #[.iface 81 (.pointer (some ⟨pb, po, none⟩)), .iface 145 (.pointer (some (ad j)))] W2 fun e w' => e = .returned (.bool (decide (j = k))) ∧ w' = W2) := HI'
  clear HI HI' H3 he3
  go_loop [3, 30] (fun at' i => ∃ j : Nat, j ≤ k ∧ at' = .int .i64 n ∧ i = .int .i64 j) (fun _ i => 12 - (intOf i).toNat)
  case atStart => exact ⟨0, Nat.zero_le _, rfl, rfl⟩
  case round =>
    obtain ⟨j, hj, rfl, rfl⟩ := hrel
    by_cases h12 : j < 12
    · have hc := hcell j h12
      have hd : decide ((j : Int) < 12) = true := by simp; omega
      go_wp2_with fail
      refine (HJ.out j h12 hj).mono ?_
      rintro e w' ⟨rfl, hw⟩
      subst hw
      by_cases hjk : j = k
      · have hkc : codeOf k = (j : Int) + 1 := by unfold codeOf; rw [if_pos (by omega), hjk]
        have HK : Hid (codeOf k = (j : Int) + 1) := hkc
        rw [decide_eq_true hjk]
        clear hkc hjk
        go_wp2
        go_ret2
        exact ⟨by rw [HK.out]; rfl, B3⟩
      · rw [decide_eq_false hjk]
        go_wp2
        go_round
        case rel => exact ⟨j + 1, by omega, rfl, by go_num⟩
        case measure => simp [intOf]; omega
    · have hd : decide ((j : Int) < 12) = false := by simp; omega
      have hkc : codeOf k = -1 := by unfold codeOf; rw [if_neg (by omega)]
      have HK : Hid (codeOf k = -1) := hkc
      clear hkc
      go_wp2
      go_ret2
      exact ⟨by rw [HK.out]; rfl, B3⟩

/-- plain.Code of a sentinel: its number. -/
theorem code_sent {B : Nat} {ad : Nat → Addr} (w : World) (h : Errs B ad w) (k : Nat) (hk : k < 12) :
    Calls Tryd.prog 19 #[.iface 145 (.pointer (some (ad k)))] w fun e w' => e = .returned (.tuple #[.int .i64 (codeOf k), .int .i64 (-1)]) ∧ Below w.heap.size w w' := by
  refine code_plain w h _ _ k (Nat.le_of_lt hk) (fun t w1 h1 => as_no (ad k) t w1 h1.et) fun w1 hw1 _ j hj _ => ?_
  by_cases hjk : j = k
  · subst hjk
    rw [decide_eq_true rfl]
    exact is_same (ad j) w1
  · rw [decide_eq_false hjk]
    obtain ⟨ca, ta, ea⟩ := hw1.row k hk
    obtain ⟨cb, tb, eb⟩ := hw1.row j hj
    exact is_other (ad k) (ad j) ca cb ta tb w1 (hw1.ne k j hk hj (fun e => hjk e.symm)) ea eb

/-- plain.Code of an error of errors.New's make that is no sentinel: -1. -/
theorem code_else {B : Nat} {ad : Nat → Addr} (w : World) (h : Errs B ad w) (a : Addr) (c : Array Value) (t : TypeId) (ha : w.heap[a.block]? = some (.cells c t (0, 0))) (hlt : a.block < w.heap.size) (hB : B ≤ a.block) :
    Calls Tryd.prog 19 #[.iface 145 (.pointer (some a))] w fun e w' => e = .returned (.tuple #[.int .i64 (-1), .int .i64 (-1)]) ∧ Below w.heap.size w w' := by
  refine code_plain w h _ _ 12 (Nat.le_refl _) (fun t w1 h1 => as_no a t w1 h1.et) fun w1 hw1 hb1 j hj _ => ?_
  rw [decide_eq_false (by omega)]
  obtain ⟨cb, tb, eb⟩ := hw1.row j hj
  refine is_other a (ad j) c cb t tb w1 (fun e => ?_) (by rw [hb1.block _ hlt]; exact ha) eb
  have := hw1.lt j hj
  rw [← e] at this
  omega

set_option maxHeartbeats 400000 in
/-- coded(nil, c). -/
theorem coded_nil (c : Int) (w : World) : Calls Tryd.prog 10 #[.nilIface, .int .i64 c] w fun e w' => e = .returned (.bool (0 == c)) ∧ w' = w := by
  by_cases hc : (0 : Int) = c
  · have hb : ((0 : Int) == c) = true := by simp [hc]
    clear hc
    go_enter Tryd.func10, Tryd.ntmps10
    go_wp2_with fail
    refine (code_nil _).mono ?_
    rintro e w1 ⟨rfl, hw⟩
    subst hw
    go_wp2
    go_ret
    exact ⟨by rw [hb]; rfl, rfl⟩
  · have hb : ((0 : Int) == c) = false := by simp [hc]
    clear hc
    go_enter Tryd.func10, Tryd.ntmps10
    go_wp2_with fail
    refine (code_nil _).mono ?_
    rintro e w1 ⟨rfl, hw⟩
    subst hw
    go_wp2
    go_ret
    exact ⟨by rw [hb]; rfl, rfl⟩

set_option maxHeartbeats 400000 in
/-- coded(a sentinel, c). -/
theorem coded_sent {B : Nat} {ad : Nat → Addr} (w : World) (h : Errs B ad w) (k : Nat) (hk : k < 12) (c : Int) :
    Calls Tryd.prog 10 #[.iface 145 (.pointer (some (ad k))), .int .i64 c] w fun e w' => e = .returned (.bool (codeOf k == c)) ∧ Below w.heap.size w w' := by
  by_cases hc : codeOf k = c
  · have hb : (codeOf k == c) = true := by simp [hc]
    clear hc
    go_enter Tryd.func10, Tryd.ntmps10
    go_wp2_with fail
    refine (code_sent w h k hk).mono ?_
    rintro e w1 ⟨rfl, hw⟩
    go_wp2
    go_ret
    exact ⟨by rw [hb]; rfl, hw⟩
  · have hb : (codeOf k == c) = false := by simp [hc]
    clear hc
    go_enter Tryd.func10, Tryd.ntmps10
    go_wp2_with fail
    refine (code_sent w h k hk).mono ?_
    rintro e w1 ⟨rfl, hw⟩
    go_wp2
    go_ret
    exact ⟨by rw [hb]; rfl, hw⟩
end Go.Proofs.YtfpmmgboodcfiaaDoor
