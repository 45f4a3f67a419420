/- Contracts of strconv.FormatUint in base 16. -/
import Derived.Test.YtcggmagdndhkbaaDoorJrnSum
import Derived.Test.YtcggmagdndhkbaaDoorRowOver
import Derived.Laws.IdiomStrings
import Derived.Laws.Cover1
import Derived.Deep.Cut
import Derived.Deep.CutRange
import Derived.Deep.DeepCutAuto
set_option linter.unusedVariables false
set_option linter.unusedSimpArgs false
namespace Go.Proofs.YtcggmagdndhkbaaDoor
open Go.RowKit Go.Lib Go.Sort

set_option maxRecDepth 100000 in
set_option maxHeartbeats 1000000 in
theorem tz64 (w : World) (hz : w.cell? ⟨10, 15, none⟩ = some (.int .u8 4)) :
    Calls Tryd.prog 92 #[.int .u64 16] w fun e w' => e = .returned (.int .i64 4) ∧ w' = w := by
  have e0 : IntKind.u64.wrap (-16) = 18446744073709551600 := by decide
  have e1 : bits .and .u64 16 18446744073709551600 = 16 := by decide
  have e2 : IntKind.u64.wrap 4573923408821661840 = 4573923408821661840 := by decide
  go_enter Tryd.func92, Tryd.ntmps92
  go_wp2
  go_ret
  exact ⟨rfl, rfl⟩
set_option maxRecDepth 100000 in
set_option maxHeartbeats 1000000 in
theorem tz16 (w : World) (hz : w.cell? ⟨10, 15, none⟩ = some (.int .u8 4)) :
    Calls Tryd.prog 85 #[.int .u64 16] w fun e w' => e = .returned (.int .i64 4) ∧ w' = w := by
  have h := tz64 w hz
  clear hz
  go_enter Tryd.func85, Tryd.ntmps85
  go_wp2_with fail
  refine h.mono ?_
  rintro e w1 ⟨rfl, rfl⟩
  go_wp2
  go_ret
  exact ⟨rfl, rfl⟩
set_option maxRecDepth 100000 in
set_option maxHeartbeats 1000000 in
theorem pow16 (w : World) : Calls Tryd.prog 84 #[.int .i64 16] w fun e w' => e = .returned (.bool true) ∧ w' = w := by
  have e1 : bits .and .i64 16 15 = 0 := by decide
  go_enter Tryd.func84, Tryd.ntmps84
  go_wp2
  go_ret
  exact ⟨rfl, rfl⟩
theorem digs_front : ∀ (k v : Nat), digs (k + 1) v = hexd (v / 16 ^ k % 16) :: digs k v
  | 0, v => by simp [digs]
  | k + 1, v => by
    show digs (k + 1) (v / 16) ++ [hexd (v % 16)] = hexd (v / 16 ^ (k + 1) % 16) :: (digs k (v / 16) ++ [hexd (v % 16)])
    rw [digs_front k (v / 16), Nat.div_div_eq_div_mul, Nat.pow_succ, Nat.mul_comm 16]
    rfl
/-- Digits, at the end of an array of 65 bytes. -/
def HexAt (W : World) (b k v : Nat) : Prop := ∃ arr : Array Value, W.heap[b]? = some (.cells arr 113 (0, 0)) ∧ arr.size = 65 ∧ ∀ (j : Nat) (c : UInt8), (digs k v)[j]? = some c → arr[65 - k + j]? = some (.int .u8 (c.toNat : Int))
theorem HexAt.start {W : World} {b : Nat} (v : Nat) (h : W.heap[b]? = some (.cells Tryd.zeroCells113 113 (0, 0))) : HexAt W b 0 v := ⟨_, h, by kernel_rfl, fun j c hj => by simp [digs] at hj⟩
theorem HexAt.cell {W : World} {b k v : Nat} (h : HexAt W b k v) {i : Nat} (hi : i < 65) : (∃ o, W.cell? ⟨b, i, none⟩ = some o) ∧ W.frozen? ⟨b, i, none⟩ = false := by
  obtain ⟨arr, h1, h2, _⟩ := h
  refine ⟨⟨arr[i], ?_⟩, by simp [World.frozen?, h1]⟩
  simp [World.cell?, h1, h2, hi]
theorem HexAt.put {W : World} {b k v i : Nat} (h : HexAt W b k v) (hi : i + (k + 1) = 65) : HexAt (W.setCell ⟨b, i, none⟩ (.int .u8 ((hexd (v / 16 ^ k % 16)).toNat : Int))) b (k + 1) v := by
  obtain ⟨arr, h1, h2, h3⟩ := h
  refine ⟨_, heap_setCell_same W b i _ _ _ h1, by simp [h2], fun j c hj => ?_⟩
  rw [digs_front] at hj
  rw [Array.getElem?_setIfInBounds]
  match j, hj with
  | 0, hj =>
    have e : hexd (v / 16 ^ k % 16) = c := by simpa using hj
    rw [if_pos (by omega), if_pos (by omega), e]
  | j + 1, hj =>
    rw [if_neg (by omega)]
    have := h3 j c (by simpa using hj)
    rw [← this]
    congr 1
    omega
theorem idx36 (x : Nat) (w : World) (h1 : x < 16) : (Instr.index 9 (.string ⟨#[48, 49, 50, 51, 52, 53, 54, 55, 56, 57, 97, 98, 99, 100, 101, 102, 103, 104, 105, 106, 107, 108, 109, 110, 111, 112, 113, 114, 115, 116, 117, 118, 119, 120, 121, 122]⟩) (.int .u64 (x : Int))).run Tryd.prog w = .ok (.int .u8 ((hexd x).toNat : Int)) w := by
  rcases (by omega : x = 0 ∨ x = 1 ∨ x = 2 ∨ x = 3 ∨ x = 4 ∨ x = 5 ∨ x = 6 ∨ x = 7 ∨ x = 8 ∨ x = 9 ∨ x = 10 ∨ x = 11 ∨ x = 12 ∨ x = 13 ∨ x = 14 ∨ x = 15) with rfl | rfl | rfl | rfl | rfl | rfl | rfl | rfl | rfl | rfl | rfl | rfl | rfl | rfl | rfl | rfl
  all_goals kernel_rfl
theorem and_15 {u : Nat} (h : u < 4294967296) : bits .and .u64 (u : Int) 15 = ((u % 16 : Nat) : Int) := by
  have := u64_and_nat u 15 (by omega) (by omega)
  rw [show (15 : Nat) = 2 ^ 4 - 1 from rfl, Nat.and_two_pow_sub_one_eq_mod] at this
  exact this
theorem HexAt.conv {W : World} {b k v i : Nat} (h : HexAt W b k v) (hi : i + k = 65) : Sem.run Tryd.prog (convert 46 9 (.slice (some ⟨b, i, none⟩) k k)) W = .ok (.string ⟨(digs k v).toArray⟩) W := by
  obtain ⟨arr, h1, h2, h3⟩ := h
  have hl := digs_len k v
  have := run_convert_bytes_back (P := Tryd.prog) W 46 9 5 ⟨b, i, none⟩ k (digs k v) Tryd.underlying46 Tryd.underlying5 Tryd.underlying9 (fun j hj => by
    have e := h3 j _ (List.getElem?_eq_getElem hj)
    rw [show 65 - k + j = i + j by omega] at e
    rw [Addr.add_lit]
    simp [World.cell?, h1, e])
  rw [hl] at this
  exact this

set_option maxRecDepth 100000 in
set_option maxHeartbeats 4000000 in
theorem fmt16 (v : Nat) (w : World) (hv : v < 4294967296) (hz : w.cell? ⟨10, 15, none⟩ = some (.int .u8 4)) :
    Calls Tryd.prog 72 #[.slice none 0 0, .int .u64 (v : Int), .int .i64 16, .bool false, .bool false] w fun e w' => ∃ k, (1 ≤ k ∧ k ≤ 8 ∧ v < 16 ^ k) ∧ e = .returned (.tuple #[.slice none 0 0, .string ⟨(digs k v).toArray⟩]) ∧ Below w.heap.size w w' := by
  obtain ⟨b, hb⟩ : ∃ b, Aside (b = w.heap.size) := ⟨_, rfl⟩
  obtain ⟨U, hU⟩ : ∃ U, Aside (U = w.alloc (.cells Tryd.zeroCells113 113)) := ⟨_, rfl⟩
  have hbU : Below w.heap.size w U := by rw [hU.out]; exact (Below.refl _ w).alloc (Nat.le_refl _) _
  have H0 : Aside (HexAt U b 0 v ∧ Below w.heap.size w U) := ⟨HexAt.start v (by rw [hU.out, hb.out]; exact heap_alloc_new w _), hbU⟩
  have hp := pow16 U
  have ht := tz16 U (by rw [World.cell?_of_block (a := ⟨10, 15, none⟩) (hbU.block _ (World.block_lt_of_cell? w ⟨10, 15, none⟩ hz))]; exact hz)
  clear hbU hz
  go_enter Tryd.func72, Tryd.ntmps72
  go_upto_region 7 with fail
  rw [← hU.out, ← hb.out]
  go_wp2_with fail
  refine hp.mono ?_
  clear hp
  rintro e w1 ⟨rfl, rfl⟩
  go_wp2_with fail
  refine ht.mono ?_
  clear ht
  rintro e w2 ⟨rfl, rfl⟩
  have HV : Aside (v < 4294967296) := hv
  go_wp2
  go_loopg [1, 13] 8 (fun kx s1 s13 wr => ∃ (k u i : Nat), s1 = .int .u64 (u : Int) ∧ s13 = .int .i64 (i : Int) ∧ i + k = 65 ∧ k ≤ 7 ∧ 8 - k ≤ kx ∧ u < 4294967296 ∧ Aside (u = v / 16 ^ k ∧ HexAt wr b k v ∧ Below w.heap.size w wr))
  case atStart => exact ⟨0, v, 65, rfl, rfl, rfl, by omega, by omega, hv, by simp, H0.out⟩
  case round =>
    obtain ⟨k, u, i, rfl, rfl, hik, hk, hkx, hu, A⟩ := hrel
    clear H0
    obtain ⟨j, hj⟩ : ∃ j, i = j + 1 := ⟨i - 1, by omega⟩
    subst hj
    have hw1 : IntKind.i64.wrap (((j + 1 : Nat) : Int) - 1) = (j : Int) := by rw [IntKind.wrap_i64]; omega
    obtain ⟨⟨o, c1⟩, c2⟩ := A.out.2.1.cell (i := j) (by omega)
    have pj : (0 : Int) ≤ (j : Int) := by omega
    have lj : (j : Int) < 65 := by omega
    by_cases hlt : 16 ≤ u
    · have d1 : decide ((16 : Int) ≤ (u : Int)) = true := by simp; omega
      have d1n : decide (16 ≤ u) = true := by simp; omega
      have ha := and_15 hu
      obtain ⟨r, hr⟩ : ∃ r : Nat, Aside (r = u % 16) := ⟨u % 16, rfl⟩
      rw [← hr.out] at ha
      have hx := idx36 r
      have hr16 : r < 16 := by rw [hr.out]; omega
      have hxr : ∀ w : World, (Instr.index 9 (.string ⟨#[48, 49, 50, 51, 52, 53, 54, 55, 56, 57, 97, 98, 99, 100, 101, 102, 103, 104, 105, 106, 107, 108, 109, 110, 111, 112, 113, 114, 115, 116, 117, 118, 119, 120, 121, 122]⟩) (.int .u64 (r : Int))).run Tryd.prog w = .ok (.int .u8 ((hexd r).toNat : Int)) w := fun w => hx w hr16
      obtain ⟨u', hu'⟩ : ∃ u' : Nat, Aside (u' = u / 16) := ⟨u / 16, rfl⟩
      have hsh : (u : Int) / 16 = (u' : Int) := by rw [hu'.out]; omega
      obtain ⟨hd, hhd⟩ : ∃ hd : Int, Aside (hd = ((hexd r).toNat : Int)) := ⟨_, rfl⟩
      have HN : Aside (u' = v / 16 ^ (k + 1) ∧ HexAt (wr.setCell ⟨b, j, none⟩ (.int .u8 hd)) b (k + 1) v ∧ Below w.heap.size w (wr.setCell ⟨b, j, none⟩ (.int .u8 hd)) ∧ k + 1 ≤ 7 ∧ u' < 4294967296) := by
        have e1 := A.out.1
        have hk7 : k + 1 ≤ 7 := by
          by_cases q : k = 7
          · subst q
            have : v / 16 ^ 7 < 16 := by omega
            omega
          · omega
        refine ⟨?_, ?_, ?_, hk7, by rw [hu'.out]; omega⟩
        · rw [hu'.out, e1, Nat.div_div_eq_div_mul, ← Nat.pow_succ]
        · rw [hhd.out, hr.out, e1]
          exact A.out.2.1.put (by omega)
        · have hkp := setCells_keeps b [.int .u8 hd] j wr
          exact A.out.2.2.trans (hkp.below A.out.2.2.size (fun q e => by have := hb.out; omega))
      rw [← hhd.out] at hxr
      clear A hx
      go_wp2
      go_roundg (8 - (k + 1))
      case measure => omega
      case rel => exact ⟨k + 1, u', j, rfl, rfl, by omega, HN.out.2.2.2.1, Nat.le_refl _, HN.out.2.2.2.2, HN.out.1, HN.out.2.1, HN.out.2.2.1⟩
    · have d1 : decide ((16 : Int) ≤ (u : Int)) = false := by simp; omega
      have d1n : decide (16 ≤ u) = false := by simp; omega
      have hx := idx36 u
      have hxr : ∀ w : World, (Instr.index 9 (.string ⟨#[48, 49, 50, 51, 52, 53, 54, 55, 56, 57, 97, 98, 99, 100, 101, 102, 103, 104, 105, 106, 107, 108, 109, 110, 111, 112, 113, 114, 115, 116, 117, 118, 119, 120, 121, 122]⟩) (.int .u64 (u : Int))).run Tryd.prog w = .ok (.int .u8 ((hexd u).toNat : Int)) w := fun w => hx w (by omega)
      obtain ⟨hd, hhd⟩ : ∃ hd : Int, Aside (hd = ((hexd u).toNat : Int)) := ⟨_, rfl⟩
      have HN : Aside (HexAt (wr.setCell ⟨b, j, none⟩ (.int .u8 hd)) b (k + 1) v ∧ Below w.heap.size w (wr.setCell ⟨b, j, none⟩ (.int .u8 hd)) ∧ v < 16 ^ (k + 1)) := by
        have e1 := A.out.1
        refine ⟨?_, ?_, ?_⟩
        · have e2 : u = v / 16 ^ k % 16 := by omega
          rw [hhd.out, e2]
          exact A.out.2.1.put (by omega)
        · have hkp := setCells_keeps b [.int .u8 hd] j wr
          exact A.out.2.2.trans (hkp.below A.out.2.2.size (fun q e => by have := hb.out; omega))
        · have q := (Nat.div_lt_iff_lt_mul (Nat.pow_pos (n := k) (show 0 < 16 by omega))).1 (show v / 16 ^ k < 16 by rw [← e1]; omega)
          rw [Nat.pow_succ, Nat.mul_comm]
          exact q
      have hcv := HN.out.1.conv (i := j) (by omega)
      rw [← hhd.out] at hxr
      have lk : (65 : Int) - (j : Int) = ((k + 1 : Nat) : Int) := by omega
      have lkn : 65 - j = k + 1 := by omega
      have hsl : ∀ W : World, (Instr.sliceAt 113 (.pointer (some ⟨b, 0, none⟩)) (some (.int .i64 (j : Int))) none none).run Tryd.prog W = .ok (.slice (some ⟨b, j, none⟩) (k + 1) (k + 1)) W := fun W => by
        have e : Tryd.prog.arrayLen 113 = 65 := by kernel_rfl
        rw [run_sliceAt_array_l W 113 ⟨b, 0, none⟩ (by kernel_rfl) .i64 (j : Int) (by omega) (by rw [e]; omega), e]
        have hj65 : ¬ 65 = j := by omega
        simp [go_sem, slicedAt, hj65, lkn, Addr.add]
        omega
      clear A hx
      go_wp2
      go_ret2
      exact ⟨k + 1, ⟨by omega, by omega, HN.out.2.2⟩, rfl, HN.out.2.1⟩
end Go.Proofs.YtcggmagdndhkbaaDoor
