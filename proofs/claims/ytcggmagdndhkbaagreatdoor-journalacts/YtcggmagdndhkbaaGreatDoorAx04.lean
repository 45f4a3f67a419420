import Derived.Test.YtcggmagdndhkbaaGreatDoorAx03
import Derived.Maps.AppendAt
import Derived.Laws.AppendOwn
import Derived.OwnWalk
import Derived.Laws.IdiomStrings
import Derived.Deep.RegionHeld3
import Derived.Deep.AppendLies
import Derived.Deep.QuietTactic
import Derived.BigQuiet
import Derived.Laws.IdiomCopy
import Derived.Laws.OwnMore
import Derived.Below
import Derived.Lib.AppendZeros
section
namespace Go.Proofs.YtcggmagdndhkbaaGreatDoor
open Go.RowKit
theorem infoByte : (Tryz.prog.info? 5).map (fun i => (i.zero, i.size, i.bytes)) = some (some (.int .u8 0), 1, 1) := by kernel_rfl
def bytesV (l : List UInt8) : List Value := l.map fun c => .int .u8 (c.toNat : Int)
theorem hexIdx (x : Int) (w : World) (h0 : 0 ≤ x) (h1 : x < 16) : (Instr.index 9 (.string ⟨#[48, 49, 50, 51, 52, 53, 54, 55, 56, 57, 97, 98, 99, 100, 101, 102]⟩) (.int .u8 x)).run Tryz.prog w = .ok (.int .u8 ((hexd x.toNat).toNat : Int)) w := by
  rcases (by omega : x = 0 ∨ x = 1 ∨ x = 2 ∨ x = 3 ∨ x = 4 ∨ x = 5 ∨ x = 6 ∨ x = 7 ∨ x = 8 ∨ x = 9 ∨ x = 10 ∨ x = 11 ∨ x = 12 ∨ x = 13 ∨ x = 14 ∨ x = 15) with rfl | rfl | rfl | rfl | rfl | rfl | rfl | rfl | rfl | rfl | rfl | rfl | rfl | rfl | rfl | rfl
  all_goals kernel_rfl
theorem and15 : ∀ c : Fin 256, bits .and .u8 (c.1 : Int) 15 = ((c.1 % 16 : Nat) : Int) := by decide +kernel
theorem or16 : ∀ x y : Fin 16, bits .or .i64 ((16 * x.1 : Nat) : Int) (y.1 : Int) = ((16 * x.1 + y.1 : Nat) : Int) := by decide +kernel
theorem idxHigh (c : UInt8) (w : World) : (Instr.index 9 (.string ⟨#[48, 49, 50, 51, 52, 53, 54, 55, 56, 57, 97, 98, 99, 100, 101, 102]⟩) (.int .u8 ((c.toNat : Int) / 16))).run Tryz.prog w = .ok (.int .u8 ((hexd (c.toNat / 16)).toNat : Int)) w := by
  have := c.toNat_lt
  have e := hexIdx ((c.toNat : Int) / 16) w (by omega) (by omega)
  rw [show ((c.toNat : Int) / 16).toNat = c.toNat / 16 by omega] at e
  exact e
theorem idxLow (c : UInt8) (w : World) : (Instr.index 9 (.string ⟨#[48, 49, 50, 51, 52, 53, 54, 55, 56, 57, 97, 98, 99, 100, 101, 102]⟩) (.int .u8 (bits .and .u8 (c.toNat : Int) 15))).run Tryz.prog w = .ok (.int .u8 ((hexd (c.toNat % 16)).toNat : Int)) w := by
  have := c.toNat_lt
  have e := hexIdx ((c.toNat % 16 : Nat) : Int) w (by omega) (by omega)
  have e2 := and15 ⟨c.toNat, this⟩
  simp only at e2
  rw [e2]
  exact e
theorem bytesV_append (a b : List UInt8) : bytesV (a ++ b) = bytesV a ++ bytesV b := by simp [bytesV]
theorem conv_own {w : World} {base : Nat} {v : Value} {n : Nat} {l : List UInt8} (h : w.ownsRow base 5 1 v n (bytesV l)) (hl : l.length = n) :
    Sem.run Tryz.prog (convert 173 9 v) w = .ok (.string ⟨l.toArray⟩) w := by
  rcases Nat.eq_zero_or_pos n with h0 | h0
  · have hl0 : l = [] := List.length_eq_zero_iff.1 (by omega)
    subst hl0
    rcases h.2 with ⟨hv, _⟩ | ⟨g, cap, cur, hv, _⟩
    · subst hv
      exact run_convert_bytes_nil w _ _ Tryz.underlying173 Tryz.underlying5 0 0 _ Tryz.underlying9
    · subst hv
      subst h0
      exact run_convert_bytes_back w _ _ _ _ _ [] Tryz.underlying173 Tryz.underlying5 Tryz.underlying9 (fun j hj => by simp at hj)
  · obtain ⟨g, cap, rfl, -, -⟩ := h.form h0
    have hc := h.cells (g := g) rfl
    subst hl
    refine run_convert_bytes_back w _ _ _ _ _ l Tryz.underlying173 Tryz.underlying5 Tryz.underlying9 (fun j hj => ?_)
    refine hc j _ ?_
    simp [bytesV, List.getElem?_eq_getElem hj]
theorem hex_step (s : ByteArray) (k : Nat) (h : k < s.size) (done R : List UInt8) (hd : done ++ hexL (s.data.toList.drop k) = R) : (done ++ [hexd (s[k].toNat / 16), hexd (s[k].toNat % 16)]) ++ hexL (s.data.toList.drop (k + 1)) = R := by
  rw [byteAt s k h] at hd
  simpa [hexL] using hd
set_option maxRecDepth 100000 in
set_option maxHeartbeats 2000000 in
theorem hexText_any (s : ByteArray) (w : World) (hs : s.size ≤ 1000000) :
    Calls Tryz.prog 160 #[.string s] w fun e w' => e = .returned (.string ⟨(hexL s.data.toList).toArray⟩) ∧ Below w.heap.size w w' := by
  obtain ⟨i0, hi, hz0, hz1, hz2⟩ := info_parts infoByte
  generalize hR : hexL s.data.toList = R
  have HR := Lib.hid hR
  clear hR
  go_enter Tryz.func160, Tryz.ntmps160
  go_wp2_with (at_make; refine wpList_make_own _ rfl _ _ 173 rfl w.heap.size 5 i0 (.int .u8 0) 1 Tryz.underlying173 hi hz0 hz1 .i64 .i64 _ (2 * s.size) rfl rfl (by omega) (by rw [hz2]; omega) (by unfold maxLen; omega) (Nat.le_refl _) ?_; intro w0 hown0 hgrow0)
  go_loopw [3, 11] (fun v i wr => ∃ (k n : Nat) (done : List UInt8), k ≤ s.size ∧ n = 2 * k ∧ done.length = n ∧ i = .int .i64 (k : Nat) ∧ wr.ownsRow w.heap.size 5 1 v n (bytesV done) ∧ Below w.heap.size w wr ∧ Hid (done ++ hexL (s.data.toList.drop k) = R)) (fun _ i _ => s.size - (intOf i).toNat)
  case atStart => exact ⟨0, 0, [], Nat.zero_le _, rfl, rfl, rfl, hown0, (Below.refl _ _).grown hgrow0 (Nat.le_refl _) (fun k hk => by simp at hk), Lib.hid (by simpa using HR.out)⟩
  case round =>
    obtain ⟨k, n, done, hk, rfl, hdl, rfl, hown, hB, HD⟩ := hrel
    clear hown0 hgrow0
    by_cases hlt : k < s.size
    · have hdt : decide ((k : Int) < (s.size : Int)) = true := by simp; omega
      have HE := Lib.hid (hex_step s k hlt done R HD.out)
      have HL := Lib.hid hdl
      have x1 := idxHigh s[k]
      have x2 := idxLow s[k]
      have hzB := hB.size
      clear HD
      generalize hc1 : hexd (s[k].toNat / 16) = c1 at x1 HE
      generalize hc2 : hexd (s[k].toNat % 16) = c2 at x2 HE
      clear hc1 hc2
      go_wp2_with fail
      go_region_held3 (fun _ => True) (trivial)
        ((refine step_append_lies _ (by rfl) _ _ _ (by rfl) w.heap.size 5 i0 _ 1 1 Tryz.underlying173 hi hz0 hz1 hz2 rfl (by omega) _ (2 * k) (bytesV done) (by rfl) ((hown.alloc _).drew) ⟨wr.heap.size, 0, none⟩ 2 2 [.int .u8 (c1.toNat : Int), .int .u8 (c2.toNat : Int)] (by rfl) (by rfl) (World.news_of_block (cs := #[.int .u8 (c1.toNat : Int), .int .u8 (c2.toNat : Int)]) (t := 5) (fr := (0, 0)) (heap_alloc_new wr _)) (by simp [Value.oneCell']) (by omega) (by unfold maxLen; omega) (by omega) (by simp; omega) (wr.heap.size + 1) (by simp) ?_; intro gg cap w1 hown1 hgrow hat hlt1))
      all_goals go_wp2
      all_goals
        refine ⟨⟨k + 1, 2 * (k + 1), done ++ [c1, c2], by omega, rfl, by have := HL.out; simp; omega, by go_num, by rw [bytesV_append]; exact hown1, (hB.alloc hB.size _).drew.grown hgrow (by simp; omega) (fun k hk => (hown.lt k hk).1), HE⟩, ?_⟩
        simp [intOf]
        omega
    · have hdl' : decide ((k : Int) < (s.size : Int)) = false := by simp; omega
      have HE : Hid (R = done) := Lib.hid (by have := HD.out; rw [show k = s.size by omega, dropEnd] at this; simpa [hexL] using this.symm)
      have hcv := conv_own hown hdl
      go_wp2
      go_ret
      exact ⟨by rw [HE.out]; rfl, hB⟩
def hexI (c : UInt8) : Int := match hexV c with
  | none => -1
  | some x => (x : Int)
theorem hexI_all : ∀ c : Fin 256, Lib.indexByte [48, 49, 50, 51, 52, 53, 54, 55, 56, 57, 97, 98, 99, 100, 101, 102] (UInt8.ofNat c.1) = hexI (UInt8.ofNat c.1) := by decide +kernel
theorem idx_hex (c : UInt8) (w : World) : Calls Tryz.prog 311 #[.string ⟨#[48, 49, 50, 51, 52, 53, 54, 55, 56, 57, 97, 98, 99, 100, 101, 102]⟩, .int .u8 (c.toNat : Int)] w fun e w' => e = .returned (.int .i64 (hexI c)) ∧ w' = w := by
  have h := Tryz.strings_IndexByte ⟨#[48, 49, 50, 51, 52, 53, 54, 55, 56, 57, 97, 98, 99, 100, 101, 102]⟩ (c.toNat : Int) w
  have e := hexI_all ⟨c.toNat, c.toNat_lt⟩
  simp only [UInt8.ofNat_toNat] at e
  have e2 : ((c.toNat : Int).toNat).toUInt8 = c := by simp
  rw [e2] at h
  have e3 : (⟨#[48, 49, 50, 51, 52, 53, 54, 55, 56, 57, 97, 98, 99, 100, 101, 102]⟩ : ByteArray).data.toList = [48, 49, 50, 51, 52, 53, 54, 55, 56, 57, 97, 98, 99, 100, 101, 102] := rfl
  rw [e3, e] at h
  exact h
theorem idx_is (c : UInt8) (z : Int) (w : World) (hz : hexI c = z) : Calls Tryz.prog 311 #[.string ⟨#[48, 49, 50, 51, 52, 53, 54, 55, 56, 57, 97, 98, 99, 100, 101, 102]⟩, .int .u8 (c.toNat : Int)] w fun e w' => e = .returned (.int .i64 z) ∧ w' = w := by rw [← hz]; exact idx_hex c w
theorem drop_two (s : ByteArray) (k : Nat) (h : k + 1 < s.size) : s.data.toList.drop k = s[k] :: s[k + 1] :: s.data.toList.drop (k + 2) := by
  rw [byteAt s k (by omega), byteAt s (k + 1) h]
theorem or_byte (x y : Nat) (hx : x < 16) (hy : y < 16) : bits .or .i64 ((x : Int) * 16) (y : Int) = ((16 * x + y : Nat) : Int) := by
  have := or16 ⟨x, hx⟩ ⟨y, hy⟩
  simp only at this
  rw [show ((16 * x : Nat) : Int) = (x : Int) * 16 by omega] at this
  exact this
theorem below_draws {B : Nat} {w v : World} (h : Below B w v) (n : Nat) : Below B w (v.drewN n) := h.trans ⟨rfl, rfl, rfl, Nat.le_refl _, fun _ _ => rfl⟩
set_option maxRecDepth 100000 in
set_option maxHeartbeats 2000000 in
theorem readHex_even (s : ByteArray) (w : World) (hs : s.size ≤ 1000000) (h2 : s.size % 2 = 0) :
    Calls Tryz.prog 271 #[.string s] w fun e w' => e = .returned (.tuple #[.string ⟨((unhexL s.data.toList).getD []).toArray⟩, .bool (unhexL s.data.toList).isSome]) ∧ Below w.heap.size w w' := by
  obtain ⟨i0, hi, hz0, hz1, hz2⟩ := info_parts infoByte
  generalize hR : unhexL s.data.toList = R
  have HR := Lib.hid hR
  clear hR
  have e2 : ((s.size : Int) % 2 != 0) = false := by simp; omega
  go_enter Tryz.func271, Tryz.ntmps271
  go_wp2_with (at_make; refine wpList_make_own _ rfl _ _ 173 rfl w.heap.size 5 i0 (.int .u8 0) 1 Tryz.underlying173 hi hz0 hz1 .i64 .i64 _ (s.size / 2) rfl rfl (by omega) (by rw [hz2]; omega) (by unfold maxLen; omega) (Nat.le_refl _) ?_; intro w0 hown0 hgrow0)
  clear e2
  go_loopw [4, 5] (fun v i wr => ∃ (k n : Nat) (done : List UInt8), k ≤ s.size ∧ k = 2 * n ∧ done.length = n ∧ i = .int .i64 (k : Nat) ∧ wr.ownsRow w.heap.size 5 1 v n (bytesV done) ∧ Below w.heap.size w wr ∧ Hid ((unhexL (s.data.toList.drop k)).map (done ++ ·) = R)) (fun _ i _ => s.size - (intOf i).toNat)
  case atStart => exact ⟨0, 0, [], Nat.zero_le _, rfl, rfl, rfl, hown0, (Below.refl _ _).grown hgrow0 (Nat.le_refl _) (fun k hk => by simp at hk), Lib.hid (by rw [← HR.out]; simp)⟩
  case round =>
    obtain ⟨k, n, done, hk, hkn, hdl, rfl, hown, hB, HD⟩ := hrel
    have HK := Lib.hid hkn
    have HL := Lib.hid hdl
    clear hown0 hgrow0 HR hdl
    by_cases hlt : k < s.size
    · have hlt1 : k + 1 < s.size := by omega
      clear hkn
      have hdt : decide ((k : Int) < (s.size : Int)) = true := by simp; omega
      have ea : IntKind.i64.wrap ((k : Int) + 1) = (k : Int) + 1 := by rw [IntKind.wrap_i64]; omega
      have eb : (0 : Int) ≤ (k : Int) + 1 := by omega
      have ec : (k : Int) + 1 < (s.size : Int) := by omega
      have ed : ((k : Int) + 1).toNat = k + 1 := by omega
      have HU : Hid ((unhexL (s[k] :: s[k + 1] :: s.data.toList.drop (k + 2))).map (done ++ ·) = R) := Lib.hid (by rw [← drop_two s k hlt1]; exact HD.out)
      clear HD
      cases hx : hexV s[k] with
      | none =>
        have HE : Hid (R = none) := Lib.hid (by have := HU.out; simp only [unhexL, hx, Option.map_none] at this; exact this.symm)
        have z1 : hexI s[k] = -1 := by unfold hexI; rw [hx]
        obtain ⟨y, hy⟩ : ∃ y, hexI s[k + 1] = y := ⟨_, rfl⟩
        have HX := Lib.hid hx
        have HZ := Lib.hid (And.intro z1 hy)
        clear hx z1 hy
        go_wp2_with fail
        go_quiet (first | (go_at_call 311; first | exact Calls.quiet_of_same (idx_is _ _ _ HZ.out.1) | exact Calls.quiet_of_same (idx_is _ _ _ HZ.out.2)))
        go_wp2
        go_ret2
        exact ⟨by rw [HE.out]; rfl, below_draws hB _⟩
      | some x =>
        have hx16 := hexV_lt _ _ hx
        have z1 : hexI s[k] = (x : Int) := by unfold hexI; rw [hx]
        cases hy : hexV s[k + 1] with
        | none =>
          have HE : Hid (R = none) := Lib.hid (by have := HU.out; simp only [unhexL, hx, hy, Option.map_none] at this; exact this.symm)
          have z2 : hexI s[k + 1] = -1 := by unfold hexI; rw [hy]
          have HZ := Lib.hid (And.intro z1 z2)
          clear hx hy z1 z2
          go_wp2_with fail
          go_quiet (first | (go_at_call 311; first | exact Calls.quiet_of_same (idx_is _ _ _ HZ.out.1) | exact Calls.quiet_of_same (idx_is _ _ _ HZ.out.2)))
          go_wp2
          go_ret2
          exact ⟨by rw [HE.out]; rfl, below_draws hB _⟩
        | some y =>
          have hy16 := hexV_lt _ _ hy
          have z2 : hexI s[k + 1] = (y : Int) := by unfold hexI; rw [hy]
          have HE : Hid ((unhexL (s.data.toList.drop (k + 2))).map ((done ++ [UInt8.ofNat (16 * x + y)]) ++ ·) = R) := Lib.hid (by
            have := HU.out
            simp only [unhexL, hx, hy, Option.map_map] at this
            rw [← this]
            congr 1
            funext l
            simp)
          have HZ := Lib.hid (And.intro z1 z2)
          have hor := or_byte x y hx16 hy16
          obtain ⟨c, hc⟩ : ∃ c : UInt8, UInt8.ofNat (16 * x + y) = c := ⟨_, rfl⟩
          have hcn : ((16 * x + y : Nat) : Int) = (c.toNat : Int) := by rw [← hc]; simp; omega
          rw [hcn] at hor
          rw [hc] at HE
          have hc256 := c.toNat_lt
          clear hx hy z1 z2 HU hc hcn
          go_wp2_with fail
          go_quiet (first | (go_at_call 311; first | exact Calls.quiet_of_same (idx_is _ _ _ HZ.out.1) | exact Calls.quiet_of_same (idx_is _ _ _ HZ.out.2)))
          have hownq : (wr.drewN nq).ownsRow w.heap.size 5 1 _ n (bytesV done) := hown
          have hBq := below_draws hB nq
          generalize wr.drewN nq = wq at hownq hBq ⊢
          clear hown hB
          have hzB := hBq.size
          have hn5 : n ≤ 500000 := by have := HK.out; omega
          go_wp2_with (at_builtin; refine wpList_append_own _ rfl _ _ 173 rfl w.heap.size 5 i0 (.int .u8 0) 1 1 Tryz.underlying173 hi hz0 hz1 hz2 rfl (by decide) _ _ _ rfl (hownq.alloc _) _ 1 1 [.int .u8 (c.toNat : Int)] rfl rfl (cell_one_new _ _ _) (by intro u hu; simp at hu; subst hu; rfl) (by unfold maxLen; omega) (by omega) (by simp; omega) ?_; intro v' w5 hown5 hgrow5 _)
          refine ⟨⟨k + 2, n + 1, done ++ [c], by omega, by have := HK.out; omega, by have := HL.out; simp; omega, by go_num, by rw [bytesV_append]; exact hown5, (hBq.alloc hzB _).grown hgrow5 (by simp; omega) (fun k hk => (hownq.lt k hk).1), HE⟩, ?_⟩
          simp [intOf]
          omega
    · have hdt : decide ((k : Int) < (s.size : Int)) = false := by simp; omega
      have HE : Hid (R = some done) := Lib.hid (by have := HD.out; rw [show k = s.size by omega, dropEnd] at this; simpa [unhexL] using this.symm)
      have hcv := conv_own hown HL.out
      go_wp2
      go_ret2
      exact ⟨by rw [HE.out]; rfl, hB⟩
set_option maxHeartbeats 1000000 in
theorem readHex_any (s : ByteArray) (w : World) (hs : s.size ≤ 1000000) :
    Calls Tryz.prog 271 #[.string s] w fun e w' => e = .returned (.tuple #[.string ⟨((unhexL s.data.toList).getD []).toArray⟩, .bool (unhexL s.data.toList).isSome]) ∧ Below w.heap.size w w' := by
  by_cases h2 : s.size % 2 = 0
  · exact readHex_even s w hs h2
  · have e2 : ((s.size : Int) % 2 != 0) = true := by simp; omega
    rw [unhex_odd s.data.toList.length s.data.toList rfl (by simp; omega)]
    go_enter Tryz.func271, Tryz.ntmps271
    go_wp2
    go_ret2
    exact ⟨rfl, Below.refl _ _⟩
end Go.Proofs.YtcggmagdndhkbaaGreatDoor
end
section
namespace Go.Proofs.YtcggmagdndhkbaaGreatDoor
open Go Go.RowKit
structure Keeps (S : Nat → Prop) (w w' : World) : Prop where
  os : w'.os = w.os
  tape : w'.tape = w.tape
  output : w'.output = w.output
  size : w.heap.size ≤ w'.heap.size
  block : ∀ k, k < w.heap.size → ¬ S k → w'.heap[k]? = w.heap[k]?
theorem Keeps.refl (S : Nat → Prop) (w : World) : Keeps S w w := ⟨rfl, rfl, rfl, Nat.le_refl _, fun _ _ _ => rfl⟩
theorem Keeps.trans {S : Nat → Prop} {a b c : World} (h : Keeps S a b) (k : Keeps S b c) : Keeps S a c :=
  ⟨k.os.trans h.os, k.tape.trans h.tape, k.output.trans h.output, Nat.le_trans h.size k.size, fun i hi hs => (k.block i (Nat.lt_of_lt_of_le hi h.size) hs).trans (h.block i hi hs)⟩
theorem Keeps.then {S T : Nat → Prop} {a b c : World} (h : Keeps S a b) (k : Keeps T b c) (hT : ∀ i, i < a.heap.size → T i → S i) : Keeps S a c :=
  ⟨k.os.trans h.os, k.tape.trans h.tape, k.output.trans h.output, Nat.le_trans h.size k.size, fun i hi hs => (k.block i (Nat.lt_of_lt_of_le hi h.size) (fun ht => hs (hT i hi ht))).trans (h.block i hi hs)⟩
theorem Keeps.mono {S T : Nat → Prop} {w w' : World} (h : Keeps S w w') (hs : ∀ k, k < w.heap.size → S k → T k) : Keeps T w w' :=
  ⟨h.os, h.tape, h.output, h.size, fun k hk ht => h.block k hk (fun e => ht (hs k hk e))⟩
theorem keeps_of_grown {w w' : World} {row : Option Nat} (h : w.grownBy w' row) : Keeps (fun k => some k = row) w w' :=
  ⟨h.os, h.tape, h.output, h.size, fun k hk hs => h.block k hk hs⟩
theorem keeps_of_below {B : Nat} {w w' : World} (h : Below B w w') : Keeps (fun k => B ≤ k) w w' :=
  ⟨h.os, h.tape, h.output, h.size, fun k _ hs => h.block k (by omega)⟩
theorem Keeps.below {S : Nat → Prop} {w w' : World} (h : Keeps S w w') {B : Nat} (hB : B ≤ w.heap.size) (hs : ∀ k, S k → B ≤ k) : Below B w w' :=
  ⟨h.os, h.tape, h.output, h.size, fun k hk => h.block k (by omega) (fun e => by have := hs k e; omega)⟩
theorem Keeps.alloc {S : Nat → Prop} {w w' : World} (h : Keeps S w w') (o : Obj) : Keeps S w (w'.alloc o) :=
  h.then (keeps_of_grown (World.grownBy_alloc w' o none)) (fun _ _ e => by cases e)
theorem setCells_keeps (b : Nat) : ∀ (vs : List Value) (o : Nat) (w : World), Keeps (fun k => k = b) w (w.setCells b o vs)
  | [], _, w => Keeps.refl _ w
  | v :: r, o, w => by
    refine Keeps.trans (b := w.setCell ⟨b, o, none⟩ v) ⟨rfl, rfl, rfl, ?_, fun k _ hk => heap_setCell_other w ⟨b, o, none⟩ k v hk⟩ (setCells_keeps b r (o + 1) _)
    simp [World.setCell]
end Go.Proofs.YtcggmagdndhkbaaGreatDoor
end
section
set_option linter.unusedVariables false
set_option linter.unusedSimpArgs false
namespace Go.Proofs.YtcggmagdndhkbaaGreatDoor
open Go Go.RowKit Go.Lib Go.Sort
def RowB (w : World) (v : Value) (B : List UInt8) : Prop := ∃ (g cap : Nat) (cur : Array Value) (fr : Nat × Nat), v = .slice (some ⟨g, 0, none⟩) B.length cap ∧ w.heap[g]? = some (.cells cur 5 fr) ∧ (fr = (0, 0) ∨ cur.size ≤ fr.1) ∧ B.length ≤ cap ∧ cap ≤ maxLen ∧ cur.size = cap ∧ cur.toList.take B.length = bytesV B
theorem bytesV_len (B : List UInt8) : (bytesV B).length = B.length := by simp [bytesV]
theorem RowB.lt {w : World} {v : Value} {B : List UInt8} (h : RowB w v B) {g : Nat} (hg : v.ownBlock = some g) : g < w.heap.size := by
  obtain ⟨g', cap, cur, fr, rfl, h1, _⟩ := h
  cases hg
  exact (Array.getElem?_eq_some_iff.1 h1).1
theorem RowB.same {w w' : World} {v : Value} {B : List UInt8} (h : RowB w v B) (e : ∀ g, v.ownBlock = some g → w'.heap[g]? = w.heap[g]?) : RowB w' v B := by
  obtain ⟨g', cap, cur, fr, rfl, h1, h2⟩ := h
  exact ⟨g', cap, cur, fr, rfl, (e g' rfl).trans h1, h2⟩
theorem RowB.shape {w : World} {v : Value} {B : List UInt8} (h : RowB w v B) : ∃ g cap, v = .slice (some ⟨g, 0, none⟩) B.length cap := by
  obtain ⟨g', cap, cur, fr, rfl, _⟩ := h
  exact ⟨g', cap, rfl⟩
theorem RowB.cells {w : World} {g cap : Nat} {B : List UInt8} (h : RowB w (.slice (some ⟨g, 0, none⟩) B.length cap) B) : ∀ j u, (bytesV B)[j]? = some u → w.cell? ((⟨g, 0, none⟩ : Addr).add j) = some u := by
  obtain ⟨g', cap', cur, fr, e, h1, h2, h3, h4, h5, h6⟩ := h
  cases e
  intro j u hu
  rw [Addr.add_lit]
  have : cur[j]? = some u := by
    rw [← h6, List.getElem?_take] at hu
    split at hu
    · simpa using hu
    · cases hu
  simp [World.cell?, h1, this]
theorem RowB.text {w : World} {v : Value} {B : List UInt8} (h : RowB w v B) : Sem.run Tryz.prog (convert 173 9 v) w = .ok (.string ⟨B.toArray⟩) w := by
  obtain ⟨g, cap, rfl⟩ := h.shape
  have hc := h.cells
  refine run_convert_bytes_back w _ _ _ _ _ B Tryz.underlying173 Tryz.underlying5 Tryz.underlying9 (fun j hj => ?_)
  refine hc j _ ?_
  simp [bytesV, List.getElem?_eq_getElem hj]
theorem row_made (w : World) (s : ByteArray) (hs : s.size ≤ 1000000) : ∃ v w', Sem.run Tryz.prog (convert 9 173 (.string s)) w = .ok v w' ∧ RowB w' v s.data.toList ∧ Below w.heap.size w w' ∧ ∀ g, v.ownBlock = some g → w.heap.size ≤ g := by
  have hge := grownCap_ge w s.size 0 5
  have hle := grownCap_le_maxLen w s.size 0 5 (by simp only [maxLen]; omega)
  obtain ⟨cap, hcap⟩ : ∃ cap, cap = grownCap w s.size 0 5 := ⟨_, rfl⟩
  rw [← hcap] at hge hle
  refine ⟨_, _, run_bytes_of_string w 9 173 5 s Tryz.underlying9 Tryz.underlying173 Tryz.underlying5, ?_, ?_, ?_⟩
  · rw [← hcap]
    have hbs : (bytesRow s cap).size = cap := by
      unfold bytesRow
      simp
      have : s.data.size = s.size := rfl
      omega
    refine ⟨w.heap.size, cap, bytesRow s cap, _, by simp, heap_alloc_new w.drew _, .inr (Nat.le_refl _), by simpa using hge, hle, hbs, ?_⟩
    unfold bytesRow bytesV
    rw [Array.toList_append, List.take_append_of_le_length (by simp)]
    simp
    rw [List.take_of_length_le (by simp)]
  · exact ((Below.refl _ w).drew).alloc (by simp) _
  · intro g hg
    cases hg
    exact Nat.le_refl _
theorem RowB.cut {w : World} {g cap : Nat} {B : List UInt8} (h : RowB w (.slice (some ⟨g, 0, none⟩) B.length cap) B) {n : Nat} (hn : n ≤ B.length) : RowB w (.slice (some ⟨g, 0, none⟩) n cap) (B.take n) := by
  obtain ⟨g', cap', cur, fr, e, h1, h2, h3, h4, h5, h6⟩ := h
  cases e
  refine ⟨g, cap, cur, fr, by rw [List.length_take]; congr 1; omega, h1, h2, by rw [List.length_take]; omega, h4, h5, ?_⟩
  rw [List.length_take, Nat.min_eq_left hn]
  have : (cur.toList.take B.length).take n = (bytesV B).take n := by rw [h6]
  rw [List.take_take, Nat.min_eq_left hn] at this
  rw [this]
  simp [bytesV]
theorem store_byte (w : World) (g n : Nat) (cur : Array Value) (fr : Nat × Nat) (c : UInt8) (hg : w.heap[g]? = some (.cells cur 5 fr)) (hf : fr = (0, 0) ∨ cur.size ≤ fr.1) (hn : n < cur.size) : (storeCells ⟨g, n, none⟩ [.int .u8 (c.toNat : Int)] 0).run Tryz.prog w = .ok () (w.setRow g (cur.setIfInBounds n (.int .u8 (c.toNat : Int)))) := by
  have hadd : (⟨g, n, none⟩ : Addr).add 0 = ⟨g, n, none⟩ := rfl
  have hcell : w.cell? ⟨g, n, none⟩ = some cur[n] := by simp [World.cell?, hg, hn]
  have hfro : w.frozen? ⟨g, n, none⟩ = false := by
    obtain ⟨lo, hi⟩ := fr
    simp only [World.frozen?, hg, Bool.and_eq_false_iff, decide_eq_false_iff_not]
    rcases hf with hf | hf
    · cases hf; right; omega
    · left; simp only at hf; omega
  have hst : (store ((⟨g, n, none⟩ : Addr).add 0) (.int .u8 (c.toNat : Int))).run Tryz.prog w = .ok () (w.setRow g (cur.setIfInBounds n (.int .u8 (c.toNat : Int)))) := by
    rw [hadd, run_store Tryz.prog w _ _ _ rfl, hcell]
    simp [hfro, setCell_eq_setRow w g n cur 5 fr _ hg]
  simp only [storeCells, Sem.run_bind, hst, Result.andThen_ok]
  rfl
theorem row_append {w : World} {v : Value} {B : List UInt8} (h : RowB w v B) (a : Addr) (ty : TypeId) (c : UInt8) (hc : w.cell? a = some (.int .u8 (c.toNat : Int))) (hB : B.length < 1000000) :
    ∃ v' w', (Builtin.append_ #[173, 173] ty #[v, .slice (some a) 1 1]).run Tryz.prog w = .ok v' w' ∧ RowB w' v' (B ++ [c]) ∧ w.grownBy w' v.ownBlock ∧ ∀ g, v'.ownBlock = some g → v.ownBlock = some g ∨ w.heap.size ≤ g := by
  obtain ⟨i0, hi, hz0, hz1, hz2⟩ := info_parts infoByte
  have hnews : ∀ j u, [Value.int .u8 (c.toNat : Int)][j]? = some u → w.cell? (a.add j) = some u := fun j u hj => by
    match j, hj with
    | 0, hj =>
      cases hj
      rw [show a.add 0 = a from rfl]
      exact hc
    | j + 1, hj => simp at hj
  obtain ⟨g, cap, hv⟩ := h.shape
  subst hv
  have hcells := h.cells
  obtain ⟨g', cap', cur, fr, e, h1, h2, h3, h4, h5, h6⟩ := h
  cases e
  by_cases hroom : B.length + 1 ≤ cap
  · have hf := run_firstCells_some (P := Tryz.prog) w 1 1 a 1 1 [.int .u8 (c.toNat : Int)] rfl hnews
    have hst := store_byte w g B.length cur fr c h1 h2 (by omega)
    refine ⟨.slice (some ⟨g, 0, none⟩) (B.length + 1) cap, w.setRow g (cur.setIfInBounds B.length (.int .u8 (c.toNat : Int))), ?_, ?_, ⟨rfl, rfl, rfl, by simp, fun k _ hk => setRow_other w g k _ (fun e => hk (by simp [Value.ownBlock, e]))⟩, fun g hg => .inl hg⟩
    · simp [Builtin.append_, run_underlying Tryz.underlying173, sizeOf, typeInfo, hi, hz1, Builtin.lenOf, hroom, hf, Addr.add_lit, hst]
    · refine ⟨g, cap, _, fr, by simp, setRow_heap w g cur _ _ _ h1, by simpa using h2, by simpa using hroom, h4, by simpa using h5, ?_⟩
      rw [List.length_append, List.length_singleton, Array.toList_setIfInBounds, bytesV_append, ← h6]
      have hl : B.length < cur.toList.length := by simp; omega
      have hl' : B.length < (cur.toList.set B.length (Value.int .u8 (c.toNat : Int))).length := by simpa using hl
      rw [List.take_succ_eq_append_getElem hl', List.take_set_of_le (Nat.le_refl _), List.getElem_set_self]
      rfl
  · have hr := run_append_grow (P := Tryz.prog) w 173 ty 5 i0 (.int .u8 0) Tryz.underlying173 hi hz0 ⟨g, 0, none⟩ B.length cap (bytesV B) (by rw [hz1, bytesV_len]; omega) hcells a 1 1 [.int .u8 (c.toNat : Int)] (by rw [hz1]; rfl) hnews (by omega) (by omega) (by rw [hz2]; exact growslice_fits (by omega) (by omega))
    have hge := grownCap_ge w (B.length + 1) cap 5
    have hcm2 : grownCap w (B.length + 1) cap 5 ≤ maxLen := grownCap_le_maxLen w (B.length + 1) cap 5 (by simp only [maxLen]; omega)
    refine ⟨_, _, hr, ⟨w.heap.size, _, _, (0, 0), by simp, heap_alloc_new w.drew _, .inl rfl, by simpa using hge, hcm2, ?_, ?_⟩, ⟨rfl, rfl, rfl, by simp, fun k hk _ => Below.heap_alloc w.drew _ k (by simpa using hk)⟩, fun k hk => ?_⟩
    · have hz1' : (Value.int IntKind.u8 0).cells.size = 1 := rfl
      simp only [Array.size_append, List.size_toArray, size_zeroCells, hz1', bytesV_len]
      simp
      omega
    · simp only [Array.toList_append, List.append_assoc]
      rw [bytesV_append, ← List.append_assoc]
      rw [List.take_append_of_le_length (by simp [bytesV])]
      rw [List.take_of_length_le (by simp [bytesV])]
      rfl
    · cases hk
      exact .inr (Nat.le_refl _)
end Go.Proofs.YtcggmagdndhkbaaGreatDoor
end
