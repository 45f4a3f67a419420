import Derived.Test.YtcggmagdndhkbaaGreatDoorAx04
import Derived.Test.YtcggmagdndhkbaaGreatDoorAx07
import Derived.Laws.IdiomStrings
import Derived.Laws.Cover1
import Derived.Deep.Cut
import Derived.Deep.CutRange
import Derived.Deep.DeepCutAuto
import Derived.Shelf.LaysM
import Derived.Shelf.Strings.Cut
import Derived.Shelf.Strings.Prefix
import Derived.Shelf.Strings.Repeat
import Derived.Test.YtcggmagdndhkbaaGreatDoorProg
section
set_option linter.unusedVariables false
set_option linter.unusedSimpArgs false
namespace Go.Proofs.YtcggmagdndhkbaaGreatDoor
open Go.RowKit Go.Lib Go.Sort
set_option maxRecDepth 100000 in
set_option maxHeartbeats 1000000 in
theorem tz64 (w : World) (hz : w.cell? ⟨16, 15, none⟩ = some (.int .u8 4)) :
    Calls Tryz.prog 319 #[.int .u64 16] w fun e w' => e = .returned (.int .i64 4) ∧ w' = w := by
  have e0 : IntKind.u64.wrap (-16) = 18446744073709551600 := by decide
  have e1 : bits .and .u64 16 18446744073709551600 = 16 := by decide
  have e2 : IntKind.u64.wrap 4573923408821661840 = 4573923408821661840 := by decide
  go_enter Tryz.func319, Tryz.ntmps319
  go_wp2
  go_ret
  exact ⟨rfl, rfl⟩
set_option maxRecDepth 100000 in
set_option maxHeartbeats 1000000 in
theorem tz16 (w : World) (hz : w.cell? ⟨16, 15, none⟩ = some (.int .u8 4)) :
    Calls Tryz.prog 287 #[.int .u64 16] w fun e w' => e = .returned (.int .i64 4) ∧ w' = w := by
  have h := tz64 w hz
  clear hz
  go_enter Tryz.func287, Tryz.ntmps287
  go_wp2_with fail
  refine h.mono ?_
  rintro e w1 ⟨rfl, rfl⟩
  go_wp2
  go_ret
  exact ⟨rfl, rfl⟩
set_option maxRecDepth 100000 in
set_option maxHeartbeats 1000000 in
theorem pow16 (w : World) : Calls Tryz.prog 286 #[.int .i64 16] w fun e w' => e = .returned (.bool true) ∧ w' = w := by
  have e1 : bits .and .i64 16 15 = 0 := by decide
  go_enter Tryz.func286, Tryz.ntmps286
  go_wp2
  go_ret
  exact ⟨rfl, rfl⟩
theorem digs_front : ∀ (k v : Nat), digs (k + 1) v = hexd (v / 16 ^ k % 16) :: digs k v
  | 0, v => by simp [digs]
  | k + 1, v => by
    show digs (k + 1) (v / 16) ++ [hexd (v % 16)] = hexd (v / 16 ^ (k + 1) % 16) :: (digs k (v / 16) ++ [hexd (v % 16)])
    rw [digs_front k (v / 16), Nat.div_div_eq_div_mul, Nat.pow_succ, Nat.mul_comm 16]
    rfl
def HexAt (W : World) (b k v : Nat) : Prop := ∃ arr : Array Value, W.heap[b]? = some (.cells arr 374 (0, 0)) ∧ arr.size = 65 ∧ ∀ (j : Nat) (c : UInt8), (digs k v)[j]? = some c → arr[65 - k + j]? = some (.int .u8 (c.toNat : Int))
theorem HexAt.start {W : World} {b : Nat} (v : Nat) (h : W.heap[b]? = some (.cells Tryz.zeroCells374 374 (0, 0))) : HexAt W b 0 v := ⟨_, h, by kernel_rfl, fun j c hj => by simp [digs] at hj⟩
theorem HexAt.cell {W : World} {b k v : Nat} (h : HexAt W b k v) {i : Nat} (hi : i < 65) : (∃ o, W.cell? ⟨b, i, none⟩ = some o) ∧ W.frozen? ⟨b, i, none⟩ = false := by
  obtain ⟨arr, h1, h2, _⟩ := h
  refine ⟨⟨arr[i], ?_⟩, by simp [World.frozen?, h1]⟩
  simp [World.cell?, h1, h2, hi]
theorem HexAt.put {W : World} {b k v i : Nat} (h : HexAt W b k v) (hi : i + (k + 1) = 65) : HexAt (W.setCell ⟨b, i, none⟩ (.int .u8 ((hexd (v / 16 ^ k % 16)).toNat : Int))) b (k + 1) v := by
  obtain ⟨arr, h1, h2, h3⟩ := h
  refine ⟨_, heap_setCell_same W b i _ _ _ h1, by simp [h2], fun j c hj => ?_⟩
  rw [digs_front] at hj
  rw [Array.getElem?_setIfInBounds]
  match j, hj with
  | 0, hj =>
    have e : hexd (v / 16 ^ k % 16) = c := by simpa using hj
    rw [if_pos (by omega), if_pos (by omega), e]
  | j + 1, hj =>
    rw [if_neg (by omega)]
    have := h3 j c (by simpa using hj)
    rw [← this]
    congr 1
    omega
theorem idx36 (x : Nat) (w : World) (h1 : x < 16) : (Instr.index 9 (.string ⟨#[48, 49, 50, 51, 52, 53, 54, 55, 56, 57, 97, 98, 99, 100, 101, 102, 103, 104, 105, 106, 107, 108, 109, 110, 111, 112, 113, 114, 115, 116, 117, 118, 119, 120, 121, 122]⟩) (.int .u64 (x : Int))).run Tryz.prog w = .ok (.int .u8 ((hexd x).toNat : Int)) w := by
  rcases (by omega : x = 0 ∨ x = 1 ∨ x = 2 ∨ x = 3 ∨ x = 4 ∨ x = 5 ∨ x = 6 ∨ x = 7 ∨ x = 8 ∨ x = 9 ∨ x = 10 ∨ x = 11 ∨ x = 12 ∨ x = 13 ∨ x = 14 ∨ x = 15) with rfl | rfl | rfl | rfl | rfl | rfl | rfl | rfl | rfl | rfl | rfl | rfl | rfl | rfl | rfl | rfl
  all_goals kernel_rfl
theorem and_15 {u : Nat} (h : u < 4294967296) : bits .and .u64 (u : Int) 15 = ((u % 16 : Nat) : Int) := by
  have := u64_and_nat u 15 (by omega) (by omega)
  rw [show (15 : Nat) = 2 ^ 4 - 1 from rfl, Nat.and_two_pow_sub_one_eq_mod] at this
  exact this
theorem HexAt.conv {W : World} {b k v i : Nat} (h : HexAt W b k v) (hi : i + k = 65) : Sem.run Tryz.prog (convert 173 9 (.slice (some ⟨b, i, none⟩) k k)) W = .ok (.string ⟨(digs k v).toArray⟩) W := by
  obtain ⟨arr, h1, h2, h3⟩ := h
  have hl := digs_len k v
  have := run_convert_bytes_back (P := Tryz.prog) W 173 9 5 ⟨b, i, none⟩ k (digs k v) Tryz.underlying173 Tryz.underlying5 Tryz.underlying9 (fun j hj => by
    have e := h3 j _ (List.getElem?_eq_getElem hj)
    rw [show 65 - k + j = i + j by omega] at e
    rw [Addr.add_lit]
    simp [World.cell?, h1, e])
  rw [hl] at this
  exact this
set_option maxRecDepth 100000 in
set_option maxHeartbeats 4000000 in
theorem fmt16 (v : Nat) (w : World) (hv : v < 4294967296) (hz : w.cell? ⟨16, 15, none⟩ = some (.int .u8 4)) :
    Calls Tryz.prog 238 #[.slice none 0 0, .int .u64 (v : Int), .int .i64 16, .bool false, .bool false] w fun e w' => ∃ k, (1 ≤ k ∧ k ≤ 8 ∧ v < 16 ^ k) ∧ e = .returned (.tuple #[.slice none 0 0, .string ⟨(digs k v).toArray⟩]) ∧ Below w.heap.size w w' := by
  obtain ⟨b, hb⟩ : ∃ b, Aside (b = w.heap.size) := ⟨_, rfl⟩
  obtain ⟨U, hU⟩ : ∃ U, Aside (U = w.alloc (.cells Tryz.zeroCells374 374)) := ⟨_, rfl⟩
  have hbU : Below w.heap.size w U := by rw [hU.out]; exact (Below.refl _ w).alloc (Nat.le_refl _) _
  have H0 : Aside (HexAt U b 0 v ∧ Below w.heap.size w U) := ⟨HexAt.start v (by rw [hU.out, hb.out]; exact heap_alloc_new w _), hbU⟩
  have hp := pow16 U
  have ht := tz16 U (by rw [World.cell?_of_block (a := ⟨16, 15, none⟩) (hbU.block _ (World.block_lt_of_cell? w ⟨16, 15, none⟩ hz))]; exact hz)
  clear hbU hz
  go_enter Tryz.func238, Tryz.ntmps238
  go_upto_region 7 with fail
  rw [← hU.out, ← hb.out]
  go_wp2_with fail
  refine hp.mono ?_
  clear hp
  rintro e w1 ⟨rfl, rfl⟩
  go_wp2_with fail
  refine ht.mono ?_
  clear ht
  rintro e w2 ⟨rfl, rfl⟩
  have HV : Aside (v < 4294967296) := hv
  go_wp2
  go_loopg [1, 13] 8 (fun kx s1 s13 wr => ∃ (k u i : Nat), s1 = .int .u64 (u : Int) ∧ s13 = .int .i64 (i : Int) ∧ i + k = 65 ∧ k ≤ 7 ∧ 8 - k ≤ kx ∧ u < 4294967296 ∧ Aside (u = v / 16 ^ k ∧ HexAt wr b k v ∧ Below w.heap.size w wr))
  case atStart => exact ⟨0, v, 65, rfl, rfl, rfl, by omega, by omega, hv, by simp, H0.out⟩
  case round =>
    obtain ⟨k, u, i, rfl, rfl, hik, hk, hkx, hu, A⟩ := hrel
    clear H0
    obtain ⟨j, hj⟩ : ∃ j, i = j + 1 := ⟨i - 1, by omega⟩
    subst hj
    have hw1 : IntKind.i64.wrap (((j + 1 : Nat) : Int) - 1) = (j : Int) := by rw [IntKind.wrap_i64]; omega
    obtain ⟨⟨o, c1⟩, c2⟩ := A.out.2.1.cell (i := j) (by omega)
    have pj : (0 : Int) ≤ (j : Int) := by omega
    have lj : (j : Int) < 65 := by omega
    by_cases hlt : 16 ≤ u
    · have d1 : decide ((16 : Int) ≤ (u : Int)) = true := by simp; omega
      have d1n : decide (16 ≤ u) = true := by simp; omega
      have ha := and_15 hu
      obtain ⟨r, hr⟩ : ∃ r : Nat, Aside (r = u % 16) := ⟨u % 16, rfl⟩
      rw [← hr.out] at ha
      have hx := idx36 r
      have hr16 : r < 16 := by rw [hr.out]; omega
      have hxr : ∀ w : World, (Instr.index 9 (.string ⟨#[48, 49, 50, 51, 52, 53, 54, 55, 56, 57, 97, 98, 99, 100, 101, 102, 103, 104, 105, 106, 107, 108, 109, 110, 111, 112, 113, 114, 115, 116, 117, 118, 119, 120, 121, 122]⟩) (.int .u64 (r : Int))).run Tryz.prog w = .ok (.int .u8 ((hexd r).toNat : Int)) w := fun w => hx w hr16
      obtain ⟨u', hu'⟩ : ∃ u' : Nat, Aside (u' = u / 16) := ⟨u / 16, rfl⟩
      have hsh : (u : Int) / 16 = (u' : Int) := by rw [hu'.out]; omega
      obtain ⟨hd, hhd⟩ : ∃ hd : Int, Aside (hd = ((hexd r).toNat : Int)) := ⟨_, rfl⟩
      have HN : Aside (u' = v / 16 ^ (k + 1) ∧ HexAt (wr.setCell ⟨b, j, none⟩ (.int .u8 hd)) b (k + 1) v ∧ Below w.heap.size w (wr.setCell ⟨b, j, none⟩ (.int .u8 hd)) ∧ k + 1 ≤ 7 ∧ u' < 4294967296) := by
        have e1 := A.out.1
        have hk7 : k + 1 ≤ 7 := by
          by_cases q : k = 7
          · subst q
            have : v / 16 ^ 7 < 16 := by omega
            omega
          · omega
        refine ⟨?_, ?_, ?_, hk7, by rw [hu'.out]; omega⟩
        · rw [hu'.out, e1, Nat.div_div_eq_div_mul, ← Nat.pow_succ]
        · rw [hhd.out, hr.out, e1]
          exact A.out.2.1.put (by omega)
        · have hkp := setCells_keeps b [.int .u8 hd] j wr
          exact A.out.2.2.trans (hkp.below A.out.2.2.size (fun q e => by have := hb.out; omega))
      rw [← hhd.out] at hxr
      clear A hx
      go_wp2
      go_roundg (8 - (k + 1))
      case measure => omega
      case rel => exact ⟨k + 1, u', j, rfl, rfl, by omega, HN.out.2.2.2.1, Nat.le_refl _, HN.out.2.2.2.2, HN.out.1, HN.out.2.1, HN.out.2.2.1⟩
    · have d1 : decide ((16 : Int) ≤ (u : Int)) = false := by simp; omega
      have d1n : decide (16 ≤ u) = false := by simp; omega
      have hx := idx36 u
      have hxr : ∀ w : World, (Instr.index 9 (.string ⟨#[48, 49, 50, 51, 52, 53, 54, 55, 56, 57, 97, 98, 99, 100, 101, 102, 103, 104, 105, 106, 107, 108, 109, 110, 111, 112, 113, 114, 115, 116, 117, 118, 119, 120, 121, 122]⟩) (.int .u64 (u : Int))).run Tryz.prog w = .ok (.int .u8 ((hexd u).toNat : Int)) w := fun w => hx w (by omega)
      obtain ⟨hd, hhd⟩ : ∃ hd : Int, Aside (hd = ((hexd u).toNat : Int)) := ⟨_, rfl⟩
      have HN : Aside (HexAt (wr.setCell ⟨b, j, none⟩ (.int .u8 hd)) b (k + 1) v ∧ Below w.heap.size w (wr.setCell ⟨b, j, none⟩ (.int .u8 hd)) ∧ v < 16 ^ (k + 1)) := by
        have e1 := A.out.1
        refine ⟨?_, ?_, ?_⟩
        · have e2 : u = v / 16 ^ k % 16 := by omega
          rw [hhd.out, e2]
          exact A.out.2.1.put (by omega)
        · have hkp := setCells_keeps b [.int .u8 hd] j wr
          exact A.out.2.2.trans (hkp.below A.out.2.2.size (fun q e => by have := hb.out; omega))
        · have q := (Nat.div_lt_iff_lt_mul (Nat.pow_pos (n := k) (show 0 < 16 by omega))).1 (show v / 16 ^ k < 16 by rw [← e1]; omega)
          rw [Nat.pow_succ, Nat.mul_comm]
          exact q
      have hcv := HN.out.1.conv (i := j) (by omega)
      rw [← hhd.out] at hxr
      have lk : (65 : Int) - (j : Int) = ((k + 1 : Nat) : Int) := by omega
      have lkn : 65 - j = k + 1 := by omega
      have hsl : ∀ W : World, (Instr.sliceAt 374 (.pointer (some ⟨b, 0, none⟩)) (some (.int .i64 (j : Int))) none none).run Tryz.prog W = .ok (.slice (some ⟨b, j, none⟩) (k + 1) (k + 1)) W := fun W => by
        have e : Tryz.prog.arrayLen 374 = 65 := by kernel_rfl
        rw [run_sliceAt_array_l W 374 ⟨b, 0, none⟩ (by kernel_rfl) .i64 (j : Int) (by omega) (by rw [e]; omega), e]
        have hj65 : ¬ 65 = j := by omega
        simp [go_sem, slicedAt, hj65, lkn, Addr.add]
        omega
      clear A hx
      go_wp2
      go_ret2
      exact ⟨k + 1, ⟨by omega, by omega, HN.out.2.2⟩, rfl, HN.out.2.1⟩
end Go.Proofs.YtcggmagdndhkbaaGreatDoor
end
section
namespace Go.Proofs
open Go.Shelf
def Tryz.lays145_ren : Go.Shelf.Ren := ⟨fun | 145 => 162 | 220 => 214 | 219 => 268 | 217 => 306 | 225 => 307 | 224 => 308 | 267 => 309 | 266 => 325 | 314 => 326 | n => n, fun | 9 => 9 | 4 => 4 | 59 => 253 | 3 => 3 | 5 => 5 | 46 => 283 | 146 => 388 | 51 => 303 | n => n, fun | 1 => 14 | n => n⟩
theorem Tryz.lays145 : Go.Proofs.Lays.n145 Tryz.prog Tryz.lays145_ren := {
  mixed := by kernel_rfl
  f145 := Tryz.func162.trans (congrArg some (by kernel_rfl))
  f217 := Tryz.func306.trans (congrArg some (by kernel_rfl))
  f219 := Tryz.func268.trans (congrArg some (by kernel_rfl))
  f220 := Tryz.func214.trans (congrArg some (by kernel_rfl))
  f224 := Tryz.func308.trans (congrArg some (by kernel_rfl))
  f225 := Tryz.func307.trans (congrArg some (by kernel_rfl))
  f266 := Tryz.func325.trans (congrArg some (by kernel_rfl))
  f267 := Tryz.func309.trans (congrArg some (by kernel_rfl))
  f314 := Tryz.func326.trans (congrArg some (by kernel_rfl))
  t3 := Tryz.underlying3
  a3 := Tryz.isAgg3
  z3 := Tryz.sizeOf3
  v3 := Tryz.zeroValue3
  t4 := Tryz.underlying4
  a4 := Tryz.isAgg4
  z4 := Tryz.sizeOf4
  v4 := Tryz.zeroValue4
  t5 := Tryz.underlying5
  a5 := Tryz.isAgg5
  z5 := Tryz.sizeOf5
  v5 := Tryz.zeroValue5
  t9 := Tryz.underlying9
  a9 := Tryz.isAgg9
  z9 := Tryz.sizeOf9
  v9 := Tryz.zeroValue9
  t46 := Tryz.underlying283
  a46 := Tryz.isAgg283
  z46 := Tryz.sizeOf283
  v46 := Tryz.zeroValue283
  t51 := Tryz.underlying303
  a51 := Tryz.isAgg303
  z51 := Tryz.sizeOf303
  v51 := Tryz.zeroValue303
  t59 := Tryz.underlying253
  a59 := Tryz.isAgg253
  z59 := Tryz.sizeOf253
  v59 := Tryz.zeroValue253
  t146 := Tryz.underlying388
  a146 := Tryz.isAgg388
  z146 := Tryz.sizeOf388
  v146 := Tryz.zeroValue388
  g1 := by kernel_rfl }
open Go.RowKit Go.Lib in
theorem Tryz.strings_Cut (s sep : ByteArray) (m : Int) (w : World) (hs : s.size < 4294967281) (hm : w.cell? ⟨14, 0, none⟩ = some (.int .i64 m)) :
    Calls Tryz.prog 162 #[.string s, .string sep] w fun e w' => e = .returned (.tuple #[.string ⟨(Lib.cut s.data.toList sep.data.toList).1.toArray⟩, .string ⟨(Lib.cut s.data.toList sep.data.toList).2.1.toArray⟩, .bool (Lib.cut s.data.toList sep.data.toList).2.2]) ∧ ∃ n, w' = w.drewN n := Any.strings_Cut Tryz.lays145 s sep m w hs hm
def Tryz.lays99_ren : Go.Shelf.Ren := ⟨fun | 99 => 164 | 206 => 216 | n => n, fun | 9 => 9 | 4 => 4 | 3 => 3 | n => n, fun | n => n⟩
theorem Tryz.lays99 : Go.Proofs.Lays.n99 Tryz.prog Tryz.lays99_ren := {
  mixed := by kernel_rfl
  f99 := Tryz.func164.trans (congrArg some (by kernel_rfl))
  f206 := Tryz.func216.trans (congrArg some (by kernel_rfl))
  t3 := Tryz.underlying3
  a3 := Tryz.isAgg3
  z3 := Tryz.sizeOf3
  v3 := Tryz.zeroValue3
  t4 := Tryz.underlying4
  a4 := Tryz.isAgg4
  z4 := Tryz.sizeOf4
  v4 := Tryz.zeroValue4
  t9 := Tryz.underlying9
  a9 := Tryz.isAgg9
  z9 := Tryz.sizeOf9
  v9 := Tryz.zeroValue9 }
open Go.RowKit Go.Lib in
theorem Tryz.strings_HasPrefix (s p : ByteArray) (w : World) :
    Calls Tryz.prog 164 #[.string s, .string p] w fun e w' => e = .returned (.bool (Lib.hasPrefix s.data.toList p.data.toList)) ∧ w' = w := Any.strings_HasPrefix Tryz.lays99 s p w
def Tryz.lays105_ren : Go.Shelf.Ren := ⟨fun | 105 => 213 | 212 => 266 | 99 => 164 | 165 => 130 | 166 => 131 | 170 => 267 | 169 => 132 | 263 => 304 | 264 => 305 | 206 => 216 | 240 => 194 | 241 => 195 | 276 => 239 | 277 => 240 | n => n, fun | 9 => 9 | 3 => 3 | 4 => 4 | 20 => 20 | 0 => 0 | 46 => 283 | 109 => 360 | 5 => 5 | 72 => 223 | 76 => 34 | 51 => 303 | 146 => 388 | 53 => 302 | 148 => 390 | 70 => 221 | 37 => 173 | 75 => 25 | 127 => 276 | 164 => 285 | 80 => 46 | n => n, fun | n => n⟩
theorem Tryz.lays105 : Go.Proofs.Lays.n105 Tryz.prog Tryz.lays105_ren := {
  mixed := by kernel_rfl
  f99 := Tryz.func164.trans (congrArg some (by kernel_rfl))
  f105 := Tryz.func213.trans (congrArg some (by kernel_rfl))
  f165 := Tryz.func130.trans (congrArg some (by kernel_rfl))
  f166 := Tryz.func131.trans (congrArg some (by kernel_rfl))
  f169 := Tryz.func132.trans (congrArg some (by kernel_rfl))
  f170 := Tryz.func267.trans (congrArg some (by kernel_rfl))
  f206 := Tryz.func216.trans (congrArg some (by kernel_rfl))
  f212 := Tryz.func266.trans (congrArg some (by kernel_rfl))
  f240 := Tryz.func194.trans (congrArg some (by kernel_rfl))
  f241 := Tryz.func195.trans (congrArg some (by kernel_rfl))
  f263 := Tryz.func304.trans (congrArg some (by kernel_rfl))
  f264 := Tryz.func305.trans (congrArg some (by kernel_rfl))
  f276 := Tryz.func239.trans (congrArg some (by kernel_rfl))
  f277 := Tryz.func240.trans (congrArg some (by kernel_rfl))
  t0 := Tryz.underlying0
  a0 := Tryz.isAgg0
  z0 := Tryz.sizeOf0
  v0 := Tryz.zeroValue0
  t3 := Tryz.underlying3
  a3 := Tryz.isAgg3
  z3 := Tryz.sizeOf3
  v3 := Tryz.zeroValue3
  t4 := Tryz.underlying4
  a4 := Tryz.isAgg4
  z4 := Tryz.sizeOf4
  v4 := Tryz.zeroValue4
  t5 := Tryz.underlying5
  a5 := Tryz.isAgg5
  z5 := Tryz.sizeOf5
  v5 := Tryz.zeroValue5
  t9 := Tryz.underlying9
  a9 := Tryz.isAgg9
  z9 := Tryz.sizeOf9
  v9 := Tryz.zeroValue9
  t20 := Tryz.underlying20
  a20 := Tryz.isAgg20
  z20 := Tryz.sizeOf20
  v20 := Tryz.zeroValue20
  t37 := Tryz.underlying173
  a37 := Tryz.isAgg173
  z37 := Tryz.sizeOf173
  v37 := Tryz.zeroValue173
  t46 := Tryz.underlying283
  a46 := Tryz.isAgg283
  z46 := Tryz.sizeOf283
  v46 := Tryz.zeroValue283
  t51 := Tryz.underlying303
  a51 := Tryz.isAgg303
  z51 := Tryz.sizeOf303
  v51 := Tryz.zeroValue303
  t53 := Tryz.underlying302
  a53 := Tryz.isAgg302
  z53 := Tryz.sizeOf302
  v53 := Tryz.zeroValue302
  t70 := Tryz.underlying221
  a70 := Tryz.isAgg221
  z70 := Tryz.sizeOf221
  v70 := Tryz.zeroValue221
  t72 := Tryz.underlying223
  a72 := Tryz.isAgg223
  z72 := Tryz.sizeOf223
  v72 := Tryz.zeroValue223
  t75 := Tryz.underlying25
  a75 := Tryz.isAgg25
  z75 := Tryz.sizeOf25
  v75 := Tryz.zeroValue25
  t76 := Tryz.underlying34
  a76 := Tryz.isAgg34
  z76 := Tryz.sizeOf34
  v76 := Tryz.zeroValue34
  t109 := Tryz.underlying360
  a109 := Tryz.isAgg360
  z109 := Tryz.sizeOf360
  v109 := Tryz.zeroValue360
  t127 := Tryz.underlying276
  a127 := Tryz.isAgg276
  z127 := Tryz.sizeOf276
  v127 := Tryz.zeroValue276
  t146 := Tryz.underlying388
  a146 := Tryz.isAgg388
  z146 := Tryz.sizeOf388
  v146 := Tryz.zeroValue388
  t148 := Tryz.underlying390
  a148 := Tryz.isAgg390
  z148 := Tryz.sizeOf390
  v148 := Tryz.zeroValue390
  t164 := Tryz.underlying285
  a164 := Tryz.isAgg285
  z164 := Tryz.sizeOf285
  v164 := Tryz.zeroValue285 }
theorem Tryz.Builder_Extra_105 : Builder.Extra Tryz.prog Tryz.lays105_ren := {
  sizeBuilder := by kernel_rfl
  liesBuilder := by kernel_rfl
  t5 := Tryz.underlying5
  a5 := Tryz.isAgg5
  z5 := Tryz.sizeOf5
  v5 := Tryz.zeroValue5
  infoByte := by kernel_rfl
  cellsByte := by kernel_rfl
  sizeByte := by kernel_rfl
  neB5 := by decide }
open Go.RowKit Go.Lib in
theorem Tryz.strings_Repeat (s : ByteArray) (c : Nat) (w : World) (hc : c ≤ 9223372036854775807) (hlen : s.size * c ≤ 140737488355328) :
    Calls Tryz.prog 213 #[.string s, .int .i64 c] w fun e w' => e = .returned (.string ⟨(Lib.repeatL s.data.toList c).toArray⟩) ∧ Below w.heap.size w w' := Any.strings_Repeat Tryz.lays105 Tryz.Builder_Extra_105 s c w hc hlen
end Go.Proofs
end
section
set_option linter.unusedVariables false
set_option linter.unusedSimpArgs false
namespace Go.Proofs.YtcggmagdndhkbaaGreatDoor
open Go.RowKit Go.Lib Go.Sort
def DeB (w : World) : Prop := w.cell? ⟨16, 15, none⟩ = some (.int .u8 4)
theorem DeB.later {w w' : World} (h : DeB w) (hb : Below w.heap.size w w') : DeB w' := by
  unfold DeB at *
  rw [World.cell?_of_block (a := ⟨16, 15, none⟩) (hb.block _ (World.block_lt_of_cell? w ⟨16, 15, none⟩ h))]
  exact h
set_option maxRecDepth 100000 in
set_option maxHeartbeats 1000000 in
theorem ifmt_any (v : Nat) (w : World) (hv : v < 4294967296) (hz : DeB w) :
    Calls Tryz.prog 264 #[.int .u64 (v : Int), .int .i64 16] w fun e w' => ∃ k, (1 ≤ k ∧ k ≤ 8 ∧ v < 16 ^ k) ∧ e = .returned (.string ⟨(digs k v).toArray⟩) ∧ Below w.heap.size w w' := by
  have h := fmt16 v w hv hz
  clear hz
  go_enter Tryz.func264, Tryz.ntmps264
  go_wp2_with fail
  refine h.mono ?_
  clear h
  rintro e w1 ⟨k, hk, rfl, hb⟩
  have H : Aside ((1 ≤ k ∧ k ≤ 8 ∧ v < 16 ^ k) ∧ Below w.heap.size w w1) := ⟨hk, hb⟩
  clear hk hb
  go_wp2
  go_ret
  exact ⟨k, H.out.1, rfl, H.out.2⟩
set_option maxRecDepth 100000 in
set_option maxHeartbeats 1000000 in
theorem sfmt_any (v : Nat) (w : World) (hv : v < 4294967296) (hz : DeB w) :
    Calls Tryz.prog 211 #[.int .u64 (v : Int), .int .i64 16] w fun e w' => ∃ k, (1 ≤ k ∧ k ≤ 8 ∧ v < 16 ^ k) ∧ e = .returned (.string ⟨(digs k v).toArray⟩) ∧ Below w.heap.size w w' := by
  have h := ifmt_any v w hv hz
  clear hz
  go_enter Tryz.func211, Tryz.ntmps211
  go_wp2_with fail
  refine h.mono ?_
  clear h
  rintro e w1 ⟨k, hk, rfl, hb⟩
  have H : Aside ((1 ≤ k ∧ k ≤ 8 ∧ v < 16 ^ k) ∧ Below w.heap.size w w1) := ⟨hk, hb⟩
  clear hk hb
  go_wp2
  go_ret
  exact ⟨k, H.out.1, rfl, H.out.2⟩
theorem repeat_zero : ∀ n, Lib.repeatL [48] n = List.replicate n 48
  | 0 => rfl
  | n + 1 => by
    show [48] ++ Lib.repeatL [48] n = _
    rw [repeat_zero n]
    rfl
set_option maxRecDepth 100000 in
set_option maxHeartbeats 2000000 in
theorem sumText_any (s : ByteArray) (w : World) (hs : s.size ≤ 1000000) (hz : DeB w) :
    Calls Tryz.prog 161 #[.string s] w fun e w' => e = .returned (.string ⟨(digs 8 (crcOf s.data.toList)).toArray⟩) ∧ Below w.heap.size w w' := by
  have hsum := sum_any s w hs
  obtain ⟨v, hv⟩ : ∃ v : Nat, Aside (v = crcOf s.data.toList) := ⟨_, rfl⟩
  rw [← hv.out] at hsum ⊢
  have hv32 : v < 4294967296 := by rw [hv.out]; exact crcOf_lt _
  have hcv : IntKind.u64.wrap (v : Int) = (v : Int) := by rw [IntKind.wrap_u64]; omega
  have hf := sfmt_any v w hv32 hz
  clear hz
  go_enter Tryz.func161, Tryz.ntmps161
  go_wp2_with fail
  refine hsum.mono ?_
  clear hsum
  rintro e w1 ⟨rfl, rfl⟩
  go_wp2_with fail
  refine hf.mono ?_
  clear hf
  rintro e w2 ⟨k, hk, rfl, hb⟩
  obtain ⟨D, hD⟩ : ∃ D : ByteArray, Aside (D = ⟨(digs k v).toArray⟩) := ⟨_, rfl⟩
  rw [← hD.out]
  have hDs : D.size = k := by rw [hD.out]; simp [ByteArray.size, digs_len]
  obtain ⟨m, hm⟩ : ∃ m : Nat, m + k = 8 := ⟨8 - k, by omega⟩
  have hw : IntKind.i64.wrap (8 - (D.size : Int)) = (m : Int) := by rw [IntKind.wrap_i64, hDs]; omega
  have hr := Tryz.strings_Repeat ⟨#[48]⟩ m w2 (by omega) (by show 1 * m ≤ _; omega)
  obtain ⟨E, hE, hEs, ha⟩ := add_two ⟨(Lib.repeatL [48] m).toArray⟩ D (by rw [hDs, repeat_zero]; simp [ByteArray.size]; omega)
  have HE : Aside (E = ⟨(digs 8 v).toArray⟩) := by
    apply bytes_ext
    rw [hE, hD.out, ← hm, digs_pad m k v hk.2.2, repeat_zero]
  have H : Aside (Below w1.heap.size w1 w2) := hb
  obtain ⟨Z, hZ⟩ : ∃ Z : ByteArray, Aside (Z = ⟨(Lib.repeatL [48] m).toArray⟩) := ⟨_, rfl⟩
  have hr2 : Calls Tryz.prog 213 #[.string ⟨#[48]⟩, .int .i64 (m : Int)] w2 fun e w' => e = .returned (.string Z) ∧ Below w2.heap.size w2 w' := by rw [hZ.out]; exact hr
  rw [← hZ.out] at ha
  clear hE hEs hk hDs hb hr
  go_wp2_with fail
  refine hr2.mono ?_
  clear hr2
  rintro e w3 ⟨rfl, hb3⟩
  have H3 : Aside (Below w1.heap.size w1 w3) := H.out.trans (hb3.mono H.out.size)
  clear hb3
  go_wp2
  go_ret
  exact ⟨by rw [HE.out]; rfl, H3.out⟩
set_option maxRecDepth 100000 in
set_option maxHeartbeats 2000000 in
theorem record_any (s : ByteArray) (w : World) (hs : s.size ≤ 1000000) (hz : DeB w) :
    Calls Tryz.prog 99 #[.string s] w fun e w' => ∃ r : ByteArray, r.data.toList = recL s.data.toList ∧ e = .returned (.string r) ∧ Below w.heap.size w w' := by
  have hst := sumText_any s w hs hz
  obtain ⟨D, hD⟩ : ∃ D : ByteArray, Aside (D = ⟨(digs 8 (crcOf s.data.toList)).toArray⟩) := ⟨_, rfl⟩
  rw [← hD.out] at hst
  have hDs : D.size = 8 := by rw [hD.out]; simp [ByteArray.size, digs_len]
  obtain ⟨E1, h1, h1s, a1⟩ := add_two s ⟨#[35]⟩ (by show s.size + 1 ≤ _; omega)
  have hE1s : E1.size = s.size + 1 := h1s
  obtain ⟨E2, h2, h2s, a2⟩ := add_two E1 D (by omega)
  obtain ⟨E3, h3, h3s, a3⟩ := add_two E2 ⟨#[10]⟩ (by show E2.size + 1 ≤ _; omega)
  have HE : Aside (E3.data.toList = recL s.data.toList) := by
    show _ = _
    rw [h3, h2, h1, hD.out]
    unfold recL
    simp
  clear h1 h2 h3 h1s h2s h3s hE1s hDs hz
  go_enter Tryz.func99, Tryz.ntmps99
  go_wp2_with fail
  refine hst.mono ?_
  clear hst
  rintro e w1 ⟨rfl, hb⟩
  have H : Aside (Below w.heap.size w w1) := hb
  clear hb
  go_wp2
  go_ret
  exact ⟨E3, HE.out, rfl, H.out⟩
end Go.Proofs.YtcggmagdndhkbaaGreatDoor
end
