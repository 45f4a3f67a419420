import Derived.Test.YtcggmagdndhkbaaGreatDoorAx04
import Derived.Test.YtcggmagdndhkbaaGreatDoorAx11
import Derived.Test.YtcggmagdndhkbaaGreatDoorAx19
import Derived.Test.YtcggmagdndhkbaaGreatDoorAx20
import Derived.Laws.OwnMore
import Derived.OwnWalk
section
namespace Go.Proofs.YtcggmagdndhkbaaGreatDoor
open Go.RowKit Go.Extern.Stop Go.Stop Go.Extern
structure Errs (B : Nat) (ad : Nat → Addr) (w : World) : Prop where
  c0 : w.cell? ⟨7, 0, none⟩ = some (.iface 416 (.pointer (some (ad 0))))
  c1 : w.cell? ⟨2, 0, none⟩ = some (.iface 416 (.pointer (some (ad 1))))
  c2 : w.cell? ⟨3, 0, none⟩ = some (.iface 416 (.pointer (some (ad 2))))
  c3 : w.cell? ⟨8, 0, none⟩ = some (.iface 416 (.pointer (some (ad 3))))
  c4 : w.cell? ⟨9, 0, none⟩ = some (.iface 416 (.pointer (some (ad 4))))
  c5 : w.cell? ⟨0, 0, none⟩ = some (.iface 416 (.pointer (some (ad 5))))
  c6 : w.cell? ⟨5, 0, none⟩ = some (.iface 416 (.pointer (some (ad 6))))
  c7 : w.cell? ⟨1, 0, none⟩ = some (.iface 416 (.pointer (some (ad 7))))
  c8 : w.cell? ⟨6, 0, none⟩ = some (.iface 416 (.pointer (some (ad 8))))
  c9 : w.cell? ⟨10, 0, none⟩ = some (.iface 416 (.pointer (some (ad 9))))
  c10 : w.cell? ⟨4, 0, none⟩ = some (.iface 416 (.pointer (some (ad 10))))
  c11 : w.cell? ⟨11, 0, none⟩ = some (.iface 416 (.pointer (some (ad 11))))
  et : w.cell? ⟨12, 0, none⟩ = some (.iface 345 (.agg #[.pointer (some ⟨19, 25, none⟩)]))
  lt : ∀ i, i < 12 → (ad i).block < B
  row : ∀ i, i < 12 → ∃ c t, w.heap[(ad i).block]? = some (.cells c t (0, 0))
  ne : ∀ i j, i < 12 → j < 12 → i ≠ j → ad i ≠ ad j
  big : 13 ≤ B
  size : B ≤ w.heap.size
theorem Errs.mono {B : Nat} {ad : Nat → Addr} {w w' : World} (h : Errs B ad w) (hb : Below B w w') : Errs B ad w' := by
  have hB := h.big
  have g : ∀ k v, k < 13 → w.cell? ⟨k, 0, none⟩ = some v → w'.cell? ⟨k, 0, none⟩ = some v := fun k v hk hv => by
    rw [hb.cell (p := ⟨k, 0, none⟩) (Nat.lt_of_lt_of_le hk hB)]; exact hv
  refine ⟨g _ _ (by decide) h.c0, g _ _ (by decide) h.c1, g _ _ (by decide) h.c2, g _ _ (by decide) h.c3, g _ _ (by decide) h.c4, g _ _ (by decide) h.c5, g _ _ (by decide) h.c6, g _ _ (by decide) h.c7, g _ _ (by decide) h.c8, g _ _ (by decide) h.c9, g _ _ (by decide) h.c10, g _ _ (by decide) h.c11, g _ _ (by decide) h.et, h.lt, fun i hi => ?_, h.ne, h.big, Nat.le_trans h.size hb.size⟩
  obtain ⟨c, t, e⟩ := h.row i hi
  exact ⟨c, t, by rw [hb.block _ (h.lt i hi)]; exact e⟩
theorem Errs.later {B : Nat} {ad : Nat → Addr} {w w' : World} (h : Errs B ad w) (hb : Below w.heap.size w w') : Errs B ad w' := h.mono (hb.mono h.size)
theorem code_nil (w : World) : Calls Tryz.prog 71 #[.nilIface] w fun e w' => e = .returned (.tuple #[.int .i64 0, .int .i64 (-1)]) ∧ w' = w := by
  go_enter Tryz.func71, Tryz.ntmps71
  go_wp2
  go_ret2
  exact ⟨rfl, rfl⟩
def codeOf (k : Nat) : Int := if k < 12 then (k : Int) + 1 else -1
theorem twelve (ad : Nat → Addr) (j : Nat) (hj : j < 12) : (#[Value.iface 416 (.pointer (some (ad 0))), .iface 416 (.pointer (some (ad 1))), .iface 416 (.pointer (some (ad 2))), .iface 416 (.pointer (some (ad 3))), .iface 416 (.pointer (some (ad 4))), .iface 416 (.pointer (some (ad 5))), .iface 416 (.pointer (some (ad 6))), .iface 416 (.pointer (some (ad 7))), .iface 416 (.pointer (some (ad 8))), .iface 416 (.pointer (some (ad 9))), .iface 416 (.pointer (some (ad 10))), .iface 416 (.pointer (some (ad 11)))])[j]? = some (.iface 416 (.pointer (some (ad j)))) := by
  match j, hj with
  | 0, _ => rfl
  | 1, _ => rfl
  | 2, _ => rfl
  | 3, _ => rfl
  | 4, _ => rfl
  | 5, _ => rfl
  | 6, _ => rfl
  | 7, _ => rfl
  | 8, _ => rfl
  | 9, _ => rfl
  | 10, _ => rfl
  | 11, _ => rfl
  | n + 12, h => omega
set_option maxHeartbeats 1000000 in
theorem code_plain {B : Nat} {ad : Nat → Addr} (w : World) (h : Errs B ad w) (u : TypeId) (x : Value) (k : Nat) (hk : k ≤ 12)
    (hAs : ∀ (t : Addr) (w1 : World), Errs B ad w1 → Calls Tryz.prog 144 #[.iface u x, .iface 242 (.pointer (some t))] w1 fun e w' => e = .returned (.bool false) ∧ Below w1.heap.size w1 w')
    (hIs : ∀ w1, Errs B ad w1 → Below w.heap.size w w1 → ∀ j, j < 12 → j ≤ k → Calls Tryz.prog 145 #[.iface u x, .iface 416 (.pointer (some (ad j)))] w1 fun e w' => e = .returned (.bool (decide (j = k))) ∧ w' = w1) :
    Calls Tryz.prog 71 #[.iface u x] w fun e w' => e = .returned (.tuple #[.int .i64 (codeOf k), .int .i64 (-1)]) ∧ Below w.heap.size w w' := by
  have hsz := h.size
  have h1 : Errs B ad (w.alloc (.cells #[.pointer none] 193)) := h.later ((Below.refl _ _).alloc (Nat.le_refl _) _)
  go_enter Tryz.func71, Tryz.ntmps71
  go_wp2_with fail
  refine (hAs _ _ h1).mono ?_
  rintro e w1 ⟨rfl, hb1⟩
  have H1 := h1.later hb1
  have B1 : Below w.heap.size w w1 := ((Below.refl _ _).alloc (Nat.le_refl _) _).trans (hb1.mono (by simp))
  have z1 := hb1.size
  simp at z1
  clear hb1 h1 h hAs
  have H2 := fun o => H1.later ((Below.refl _ _).alloc (Nat.le_refl _) o)
  obtain ⟨c0, c1, c2, c3, c4, c5, c6, c7, c8, c9, c10, c11, et, lt, row, ne, big, size⟩ := H1
  clear et row ne lt
  have HI : Hid (∀ w1, Errs B ad w1 → Below w.heap.size w w1 → ∀ j, j < 12 → j ≤ k → Calls Tryz.prog 145 #[.iface u x, .iface 416 (.pointer (some (ad j)))] w1 fun e w' => e = .returned (.bool (decide (j = k))) ∧ w' = w1) := hIs
  clear hIs
  go_wp2_with fail
  have hcell : ∀ j, j < 12 → (w1.alloc (.cells #[.iface 416 (.pointer (some (ad 0))), .iface 416 (.pointer (some (ad 1))), .iface 416 (.pointer (some (ad 2))), .iface 416 (.pointer (some (ad 3))), .iface 416 (.pointer (some (ad 4))), .iface 416 (.pointer (some (ad 5))), .iface 416 (.pointer (some (ad 6))), .iface 416 (.pointer (some (ad 7))), .iface 416 (.pointer (some (ad 8))), .iface 416 (.pointer (some (ad 9))), .iface 416 (.pointer (some (ad 10))), .iface 416 (.pointer (some (ad 11)))] 25)).cell? ⟨w1.heap.size, j, none⟩ = some (.iface 416 (.pointer (some (ad j)))) :=
    fun j hj => by rw [World.cell?_alloc_at _ _ _ _ rfl]; exact twelve ad j hj
  have H3 := H2 (.cells #[.iface 416 (.pointer (some (ad 0))), .iface 416 (.pointer (some (ad 1))), .iface 416 (.pointer (some (ad 2))), .iface 416 (.pointer (some (ad 3))), .iface 416 (.pointer (some (ad 4))), .iface 416 (.pointer (some (ad 5))), .iface 416 (.pointer (some (ad 6))), .iface 416 (.pointer (some (ad 7))), .iface 416 (.pointer (some (ad 8))), .iface 416 (.pointer (some (ad 9))), .iface 416 (.pointer (some (ad 10))), .iface 416 (.pointer (some (ad 11)))] 25)
  have B3 := B1.alloc (by omega) (.cells #[.iface 416 (.pointer (some (ad 0))), .iface 416 (.pointer (some (ad 1))), .iface 416 (.pointer (some (ad 2))), .iface 416 (.pointer (some (ad 3))), .iface 416 (.pointer (some (ad 4))), .iface 416 (.pointer (some (ad 5))), .iface 416 (.pointer (some (ad 6))), .iface 416 (.pointer (some (ad 7))), .iface 416 (.pointer (some (ad 8))), .iface 416 (.pointer (some (ad 9))), .iface 416 (.pointer (some (ad 10))), .iface 416 (.pointer (some (ad 11)))] 25)
  generalize w1.alloc (.cells #[.iface 416 (.pointer (some (ad 0))), .iface 416 (.pointer (some (ad 1))), .iface 416 (.pointer (some (ad 2))), .iface 416 (.pointer (some (ad 3))), .iface 416 (.pointer (some (ad 4))), .iface 416 (.pointer (some (ad 5))), .iface 416 (.pointer (some (ad 6))), .iface 416 (.pointer (some (ad 7))), .iface 416 (.pointer (some (ad 8))), .iface 416 (.pointer (some (ad 9))), .iface 416 (.pointer (some (ad 10))), .iface 416 (.pointer (some (ad 11)))] 25) = W2 at hcell H3 B3 ⊢
  clear c0 c1 c2 c3 c4 c5 c6 c7 c8 c9 c10 c11 H2 B1 big size
  generalize w1.heap.size = b1 at hcell z1 ⊢
  clear z1
  have HI' := HI.out W2 H3 B3
  have HJ : Hid (∀ j, j < 12 → j ≤ k → Calls Tryz.prog 145 #[.iface u x, .iface 416 (.pointer (some (ad j)))] W2 fun e w' => e = .returned (.bool (decide (j = k))) ∧ w' = W2) := HI'
  clear HI HI' H3
  go_loop [3, 30] (fun at' i => ∃ j : Nat, j ≤ k ∧ at' = .int .i64 (-1) ∧ i = .int .i64 j) (fun _ i => 12 - (intOf i).toNat)
  case atStart => exact ⟨0, Nat.zero_le _, rfl, rfl⟩
  case round =>
    obtain ⟨j, hj, rfl, rfl⟩ := hrel
    by_cases h12 : j < 12
    · have hc := hcell j h12
      have hd : decide ((j : Int) < 12) = true := by simp; omega
      go_wp2_with fail
      refine (HJ.out j h12 hj).mono ?_
      rintro e w' ⟨rfl, hw⟩
      subst hw
      by_cases hjk : j = k
      · have hkc : codeOf k = (j : Int) + 1 := by unfold codeOf; rw [if_pos (by omega), hjk]
        have HK : Hid (codeOf k = (j : Int) + 1) := hkc
        rw [decide_eq_true hjk]
        clear hkc hjk
        go_wp2
        go_ret2
        exact ⟨by rw [HK.out]; rfl, B3⟩
      · rw [decide_eq_false hjk]
        go_wp2
        go_round
        case rel => exact ⟨j + 1, by omega, rfl, by go_num⟩
        case measure => simp [intOf]; omega
    · have hd : decide ((j : Int) < 12) = false := by simp; omega
      have hkc : codeOf k = -1 := by unfold codeOf; rw [if_neg (by omega)]
      have HK : Hid (codeOf k = -1) := hkc
      clear hkc
      go_wp2
      go_ret2
      exact ⟨by rw [HK.out]; rfl, B3⟩
theorem code_sent {B : Nat} {ad : Nat → Addr} (w : World) (h : Errs B ad w) (k : Nat) (hk : k < 12) :
    Calls Tryz.prog 71 #[.iface 416 (.pointer (some (ad k)))] w fun e w' => e = .returned (.tuple #[.int .i64 (codeOf k), .int .i64 (-1)]) ∧ Below w.heap.size w w' := by
  refine code_plain w h _ _ k (Nat.le_of_lt hk) (fun t w1 h1 => as_no (ad k) t w1 h1.et) fun w1 hw1 _ j hj _ => ?_
  by_cases hjk : j = k
  · subst hjk
    rw [decide_eq_true rfl]
    exact is_same (ad j) w1
  · rw [decide_eq_false hjk]
    obtain ⟨ca, ta, ea⟩ := hw1.row k hk
    obtain ⟨cb, tb, eb⟩ := hw1.row j hj
    exact is_other (ad k) (ad j) ca cb ta tb w1 (hw1.ne k j hk hj (fun e => hjk e.symm)) ea eb
end Go.Proofs.YtcggmagdndhkbaaGreatDoor
end
section
namespace Go.Proofs.YtcggmagdndhkbaaGreatDoor
open Go.RowKit Go.Extern.Stop Go.Stop Go.Extern
set_option maxHeartbeats 400000 in
theorem coded_nil (c : Int) (w : World) : Calls Tryz.prog 22 #[.nilIface, .int .i64 c] w fun e w' => e = .returned (.bool (0 == c)) ∧ w' = w := by
  by_cases hc : (0 : Int) = c
  · have hb : ((0 : Int) == c) = true := by simp [hc]
    clear hc
    go_enter Tryz.func22, Tryz.ntmps22
    go_wp2_with fail
    refine (code_nil _).mono ?_
    rintro e w1 ⟨rfl, hw⟩
    subst hw
    go_wp2
    go_ret
    exact ⟨by rw [hb]; rfl, rfl⟩
  · have hb : ((0 : Int) == c) = false := by simp [hc]
    clear hc
    go_enter Tryz.func22, Tryz.ntmps22
    go_wp2_with fail
    refine (code_nil _).mono ?_
    rintro e w1 ⟨rfl, hw⟩
    subst hw
    go_wp2
    go_ret
    exact ⟨by rw [hb]; rfl, rfl⟩
set_option maxHeartbeats 400000 in
theorem coded_sent {B : Nat} {ad : Nat → Addr} (w : World) (h : Errs B ad w) (k : Nat) (hk : k < 12) (c : Int) :
    Calls Tryz.prog 22 #[.iface 416 (.pointer (some (ad k))), .int .i64 c] w fun e w' => e = .returned (.bool (codeOf k == c)) ∧ Below w.heap.size w w' := by
  by_cases hc : codeOf k = c
  · have hb : (codeOf k == c) = true := by simp [hc]
    clear hc
    go_enter Tryz.func22, Tryz.ntmps22
    go_wp2_with fail
    refine (code_sent w h k hk).mono ?_
    rintro e w1 ⟨rfl, hw⟩
    go_wp2
    go_ret
    exact ⟨by rw [hb]; rfl, hw⟩
  · have hb : (codeOf k == c) = false := by simp [hc]
    clear hc
    go_enter Tryz.func22, Tryz.ntmps22
    go_wp2_with fail
    refine (code_sent w h k hk).mono ?_
    rintro e w1 ⟨rfl, hw⟩
    go_wp2
    go_ret
    exact ⟨by rw [hb]; rfl, hw⟩
end Go.Proofs.YtcggmagdndhkbaaGreatDoor
end
section
namespace Go.Proofs.YtcggmagdndhkbaaGreatDoor
open Go Go.RowKit
section
variable {α : Type} {enc : α → List Value} {k : Nat}
def InRow (enc : α → List Value) (w : World) (ao : Option Addr) (zs : List α) : Prop := zs = [] ∨ ∃ blk off, ao = some ⟨blk, off, none⟩ ∧ ∀ j u, (flat enc zs)[j]? = some u → w.cell? ⟨blk, off + j, none⟩ = some u
end
end Go.Proofs.YtcggmagdndhkbaaGreatDoor
end
section
set_option linter.unusedVariables false
set_option linter.unusedSimpArgs false
namespace Go.Proofs.YtcggmagdndhkbaaGreatDoor
open Go Go.RowKit Go.Lib Go.Sort
theorem coded2_e {D : Nat} {ad : Nat → Addr} (c : Nat) (w : World) (h : Errs D ad w) (hc : c ≤ 12) : Calls Tryz.prog 22 #[eV ad c, .int .i64 (c : Int)] w fun e w' => e = .returned (.bool true) ∧ Below w.heap.size w w' := by
  unfold eV
  by_cases h0 : c = 0
  · subst h0
    rw [if_pos rfl]
    refine (coded_nil _ w).mono ?_
    rintro e w' ⟨rfl, rfl⟩
    exact ⟨rfl, Below.refl _ _⟩
  · rw [if_neg h0]
    refine (coded_sent w h (c - 1) (by omega) _).mono ?_
    rintro e w' ⟨rfl, hb⟩
    refine ⟨?_, hb⟩
    have : codeOf (c - 1) = (c : Int) := by unfold codeOf; rw [if_pos (by omega)]; omega
    rw [this]
    simp
abbrev DAct := ByteArray × OpX × Int
def encDA (a : DAct) : List Value := [.string a.1, .int .i64 a.2.1.1, .int .i64 a.2.1.2.1, .int .i64 a.2.1.2.2.1, .int .u8 (a.2.1.2.2.2.1 : Int), .int .i64 a.2.1.2.2.2.2.1, .int .i64 a.2.1.2.2.2.2.2.1, .string a.2.1.2.2.2.2.2.2.1, .string a.2.1.2.2.2.2.2.2.2, .int .i64 a.2.2]
theorem encDA_len (a : DAct) : (encDA a).length = 10 := rfl
def DaJ (W : World) (b : Nat) (a : DAct) : Prop := W.heap[b]? = some (.cells (encDA a).toArray 96 (0, 0))
theorem DaJ.lt {W : World} {b : Nat} {x : DAct} (h : DaJ W b x) : b < W.heap.size := (Array.getElem?_eq_some_iff.1 h).1
theorem DaJ.later {w w' : World} {b : Nat} {x : DAct} (h : DaJ w b x) (hb : Below w.heap.size w w') : DaJ w' b x := (hb.block b h.lt).trans h
theorem DaJ.kept {p : Nat → Prop} {w w' : World} {b : Nat} {x : DAct} (h : DaJ w b x) (hk : Keeps p w w') (hn : ¬ p b) : DaJ w' b x := (hk.block b h.lt hn).trans h
def Ten (W : World) (b o : Nat) (a : DAct) : Prop := W.cell? ⟨b, o, none⟩ = some (.string a.1) ∧ W.cell? ⟨b, o + 1, none⟩ = some (.int .i64 a.2.1.1) ∧ W.cell? ⟨b, o + 2, none⟩ = some (.int .i64 a.2.1.2.1) ∧ W.cell? ⟨b, o + 3, none⟩ = some (.int .i64 a.2.1.2.2.1) ∧ W.cell? ⟨b, o + 4, none⟩ = some (.int .u8 (a.2.1.2.2.2.1 : Int)) ∧ W.cell? ⟨b, o + 5, none⟩ = some (.int .i64 a.2.1.2.2.2.2.1) ∧ W.cell? ⟨b, o + 6, none⟩ = some (.int .i64 a.2.1.2.2.2.2.2.1) ∧ W.cell? ⟨b, o + 7, none⟩ = some (.string a.2.1.2.2.2.2.2.2.1) ∧ W.cell? ⟨b, o + 8, none⟩ = some (.string a.2.1.2.2.2.2.2.2.2) ∧ W.cell? ⟨b, o + 9, none⟩ = some (.int .i64 a.2.2)
theorem DaJ.ten {W : World} {b : Nat} {a : DAct} (h : DaJ W b a) : Ten W b 0 a := by
  unfold DaJ encDA at h
  refine ⟨?_, ?_, ?_, ?_, ?_, ?_, ?_, ?_, ?_, ?_⟩ <;> simp [World.cell?, h]
theorem InRow.ten {w : World} {ao : Option Addr} {xs : List DAct} (h : InRow encDA w ao xs) {i : Nat} {a : DAct} (hx : xs[i]? = some a) : ∃ blk off, ao = some ⟨blk, off, none⟩ ∧ Ten w blk (off + i * 10) a := by
  have hi := (List.getElem?_eq_some_iff.1 hx).1
  rcases h with rfl | ⟨blk, off, rfl, hc⟩
  · simp at hi
  · have g : ∀ c (u : Value), (encDA a)[c]? = some u → w.cell? ⟨blk, off + i * 10 + c, none⟩ = some u := fun c u hu => by
      have hl : c < 10 := by have := (List.getElem?_eq_some_iff.1 hu).1; rwa [encDA_len] at this
      have := hc (i * 10 + c) u (by rw [flat_get encDA_len hx hl]; exact hu)
      rwa [← Nat.add_assoc] at this
    exact ⟨blk, off, rfl, g 0 _ rfl, g 1 _ rfl, g 2 _ rfl, g 3 _ rfl, g 4 _ rfl, g 5 _ rfl, g 6 _ rfl, g 7 _ rfl, g 8 _ rfl, g 9 _ rfl⟩
theorem InRow.laterDA {w w' : World} {ao : Option Addr} {xs : List DAct} (h : InRow encDA w ao xs) (hb : Below w.heap.size w w') : InRow encDA w' ao xs := by
  rcases h with h | ⟨blk, off, e, hc⟩
  · exact .inl h
  · exact .inr ⟨blk, off, e, fun j u hj => cellLater hb (hc j u hj)⟩
structure TwoAt (S D : Nat) (ad : Nat → Addr) (w0 : World) (d m : Nat) (st : DSt) (b : ByteArray) (off : Bool) (cut : Int) (W : World) : Prop where
  disk : ∃ v, DiskAt W d v st ∧ (∀ k, OwnD d v k → S ≤ k) ∧ ¬ OwnD d v m
  mem : MAt W m b off cut
  low : S ≤ m
  below : Below S w0 W
  env : EnvJ S ad W
  errs : Errs D ad W
  dS : D ≤ S
variable {S D : Nat} {ad : Nat → Addr} {w0 u W : World} {d m : Nat} {st sx : DSt} {b b' : ByteArray} {off off' : Bool} {cut cut' : Int}
theorem TwoAt.wrote {v : Value} (h : TwoAt S D ad w0 d m st b off cut u) (hO : ∀ k, OwnD d v k → S ≤ k) (hm : ¬ OwnD d v m) (q : WroteD d v u sx W) : TwoAt S D ad w0 d m sx b off cut W := by
  have hb : Below S u W := q.below h.env.size hO
  obtain ⟨v', h1, h2, h3⟩ := q
  refine ⟨⟨v', h1, fun k hk => ?_, fun hk => ?_⟩, h.mem.same (h2.block m h.mem.lt hm), h.low, h.below.trans hb, h.env.mono hb, h.errs.mono (hb.mono h.dS), h.dS⟩
  · rcases hk with rfl | hk
    · exact hO k (.inl rfl)
    · rcases h3 k hk with q | q
      · exact hO k (.inr q)
      · exact Nat.le_trans h.env.size q
  · rcases hk with e | hk
    · exact hm (.inl e)
    · rcases h3 m hk with q | q
      · exact hm (.inr q)
      · have := h.mem.lt; omega
theorem TwoAt.told (h : TwoAt S D ad w0 d m st b off cut u) (k : Keeps (fun k => k = m) u W) (hM : MAt W m b' off' cut') : TwoAt S D ad w0 d m st b' off' cut' W := by
  obtain ⟨v, h1, h2, h3⟩ := h.disk
  have hb : Below S u W := k.below h.env.size (fun i e => by rw [e]; exact h.low)
  exact ⟨⟨v, h1.same (fun i hi => k.block i (h1.own_lt hi) (fun e => h3 (by rw [← e]; exact hi))), h2, h3⟩, hM, h.low, h.below.trans hb, h.env.mono hb, h.errs.mono (hb.mono h.dS), h.dS⟩
theorem TwoAt.later (h : TwoAt S D ad w0 d m st b off cut u) (hb : Below u.heap.size u W) : TwoAt S D ad w0 d m st b off cut W := by
  obtain ⟨v, h1, h2, h3⟩ := h.disk
  have hb' := hb.mono h.env.size
  exact ⟨⟨v, h1.later hb, h2, h3⟩, h.mem.later hb, h.low, h.below.trans hb', h.env.mono hb', h.errs.mono (hb'.mono h.dS), h.dS⟩
theorem mApp_len {B : List UInt8} {off : Bool} {cut : Int} {x : OpX} (h : B.length ≤ 65536) : (mApp B off cut x).2.1.length ≤ 65536 := by
  unfold mApp
  split
  · exact h
  · split
    · exact h
    · rename_i hf
      split
      · exact h
      · split
        · rw [List.length_append, List.length_take]; omega
        · rw [List.length_append]; omega
theorem mApp_code {B : List UInt8} {off : Bool} {cut : Int} {x : OpX} : (mApp B off cut x).1 ≤ 12 := by
  unfold mApp
  split
  · have : errJ x ≤ 5 := by
      unfold errJ opE kindE moveE insE delE setE
      repeat' split
      all_goals omega
    show errJ x ≤ 12
    omega
  · repeat' split
    all_goals (show _ ≤ 12; omega)
theorem RelD.back {st : DSt} {ms : MSt} (h : RelD st ms) : RelD (backSt st) (ms.1.take (readL_ ms.1).2, false, -1) := by
  unfold backSt
  rw [h.1]
  exact ⟨rfl, rfl, .inr (.inl ⟨rfl, rfl, rfl⟩)⟩
end Go.Proofs.YtcggmagdndhkbaaGreatDoor
end
