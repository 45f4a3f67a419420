/- Contracts of package op's hexText and readHex, over the translation. -/
import Derived.Test.YtcggmagdndhkbaaDoorOpSmall
import Derived.Maps.AppendAt
import Derived.Laws.AppendOwn
import Derived.Test.YtcggmagdndhkbaaDoorShelf
import Derived.OwnWalk
import Derived.Laws.IdiomStrings
import Derived.Deep.RegionHeld3
import Derived.Deep.AppendLies
import Derived.Deep.QuietTactic
import Derived.BigQuiet
namespace Go.Proofs.YtcggmagdndhkbaaDoor
open Go.RowKit

theorem infoByte : (Tryd.prog.info? 5).map (fun i => (i.zero, i.size, i.bytes)) = some (some (.int .u8 0), 1, 1) := by kernel_rfl

def bytesV (l : List UInt8) : List Value := l.map fun c => .int .u8 (c.toNat : Int)
theorem hexIdx (x : Int) (w : World) (h0 : 0 ≤ x) (h1 : x < 16) : (Instr.index 9 (.string ⟨#[48, 49, 50, 51, 52, 53, 54, 55, 56, 57, 97, 98, 99, 100, 101, 102]⟩) (.int .u8 x)).run Tryd.prog w = .ok (.int .u8 ((hexd x.toNat).toNat : Int)) w := by
  rcases (by omega : x = 0 ∨ x = 1 ∨ x = 2 ∨ x = 3 ∨ x = 4 ∨ x = 5 ∨ x = 6 ∨ x = 7 ∨ x = 8 ∨ x = 9 ∨ x = 10 ∨ x = 11 ∨ x = 12 ∨ x = 13 ∨ x = 14 ∨ x = 15) with rfl | rfl | rfl | rfl | rfl | rfl | rfl | rfl | rfl | rfl | rfl | rfl | rfl | rfl | rfl | rfl
  all_goals kernel_rfl
theorem and15 : ∀ c : Fin 256, bits .and .u8 (c.1 : Int) 15 = ((c.1 % 16 : Nat) : Int) := by decide +kernel
theorem or16 : ∀ x y : Fin 16, bits .or .i64 ((16 * x.1 : Nat) : Int) (y.1 : Int) = ((16 * x.1 + y.1 : Nat) : Int) := by decide +kernel
theorem idxHigh (c : UInt8) (w : World) : (Instr.index 9 (.string ⟨#[48, 49, 50, 51, 52, 53, 54, 55, 56, 57, 97, 98, 99, 100, 101, 102]⟩) (.int .u8 ((c.toNat : Int) / 16))).run Tryd.prog w = .ok (.int .u8 ((hexd (c.toNat / 16)).toNat : Int)) w := by
  have := c.toNat_lt
  have e := hexIdx ((c.toNat : Int) / 16) w (by omega) (by omega)
  rw [show ((c.toNat : Int) / 16).toNat = c.toNat / 16 by omega] at e
  exact e
theorem idxLow (c : UInt8) (w : World) : (Instr.index 9 (.string ⟨#[48, 49, 50, 51, 52, 53, 54, 55, 56, 57, 97, 98, 99, 100, 101, 102]⟩) (.int .u8 (bits .and .u8 (c.toNat : Int) 15))).run Tryd.prog w = .ok (.int .u8 ((hexd (c.toNat % 16)).toNat : Int)) w := by
  have := c.toNat_lt
  have e := hexIdx ((c.toNat % 16 : Nat) : Int) w (by omega) (by omega)
  have e2 := and15 ⟨c.toNat, this⟩
  simp only at e2
  rw [e2]
  exact e

theorem bytesV_append (a b : List UInt8) : bytesV (a ++ b) = bytesV a ++ bytesV b := by simp [bytesV]
/-- Bytes of the call's own, made into a string. -/
theorem conv_own {w : World} {base : Nat} {v : Value} {n : Nat} {l : List UInt8} (h : w.ownsRow base 5 1 v n (bytesV l)) (hl : l.length = n) :
    Sem.run Tryd.prog (convert 46 9 v) w = .ok (.string ⟨l.toArray⟩) w := by
  rcases Nat.eq_zero_or_pos n with h0 | h0
  · have hl0 : l = [] := List.length_eq_zero_iff.1 (by omega)
    subst hl0
    rcases h.2 with ⟨hv, _⟩ | ⟨g, cap, cur, hv, _⟩
    · subst hv
      exact run_convert_bytes_nil w _ _ Tryd.underlying46 Tryd.underlying5 0 0 _ Tryd.underlying9
    · subst hv
      subst h0
      exact run_convert_bytes_back w _ _ _ _ _ [] Tryd.underlying46 Tryd.underlying5 Tryd.underlying9 (fun j hj => by simp at hj)
  · obtain ⟨g, cap, rfl, -, -⟩ := h.form h0
    have hc := h.cells (g := g) rfl
    subst hl
    refine run_convert_bytes_back w _ _ _ _ _ l Tryd.underlying46 Tryd.underlying5 Tryd.underlying9 (fun j hj => ?_)
    refine hc j _ ?_
    simp [bytesV, List.getElem?_eq_getElem hj]
theorem hex_step (s : ByteArray) (k : Nat) (h : k < s.size) (done R : List UInt8) (hd : done ++ hexL (s.data.toList.drop k) = R) : (done ++ [hexd (s[k].toNat / 16), hexd (s[k].toNat % 16)]) ++ hexL (s.data.toList.drop (k + 1)) = R := by
  rw [byteAt s k h] at hd
  simpa [hexL] using hd

set_option maxRecDepth 100000 in
set_option maxHeartbeats 2000000 in
theorem hexText_any (s : ByteArray) (w : World) (hs : s.size ≤ 1000000) :
    Calls Tryd.prog 29 #[.string s] w fun e w' => e = .returned (.string ⟨(hexL s.data.toList).toArray⟩) ∧ Below w.heap.size w w' := by
  obtain ⟨i0, hi, hz0, hz1, hz2⟩ := info_parts infoByte
  generalize hR : hexL s.data.toList = R
  have HR := Lib.hid hR
  clear hR
  go_enter Tryd.func29, Tryd.ntmps29
  go_wp2_with (at_make; refine wpList_make_own _ rfl _ _ 46 rfl w.heap.size 5 i0 (.int .u8 0) 1 Tryd.underlying46 hi hz0 hz1 .i64 .i64 _ (2 * s.size) rfl rfl (by omega) (by rw [hz2]; omega) (by unfold maxLen; omega) (Nat.le_refl _) ?_; intro w0 hown0 hgrow0)
  go_loopw [3, 11] (fun v i wr => ∃ (k n : Nat) (done : List UInt8), k ≤ s.size ∧ n = 2 * k ∧ done.length = n ∧ i = .int .i64 (k : Nat) ∧ wr.ownsRow w.heap.size 5 1 v n (bytesV done) ∧ Below w.heap.size w wr ∧ Hid (done ++ hexL (s.data.toList.drop k) = R)) (fun _ i _ => s.size - (intOf i).toNat)
  case atStart => exact ⟨0, 0, [], Nat.zero_le _, rfl, rfl, rfl, hown0, (Below.refl _ _).grown hgrow0 (Nat.le_refl _) (fun k hk => by simp at hk), Lib.hid (by simpa using HR.out)⟩
  case round =>
    obtain ⟨k, n, done, hk, rfl, hdl, rfl, hown, hB, HD⟩ := hrel
    clear hown0 hgrow0
    by_cases hlt : k < s.size
    · have hdt : decide ((k : Int) < (s.size : Int)) = true := by simp; omega
      have HE := Lib.hid (hex_step s k hlt done R HD.out)
      have HL := Lib.hid hdl
      have x1 := idxHigh s[k]
      have x2 := idxLow s[k]
      have hzB := hB.size
      clear HD
      generalize hc1 : hexd (s[k].toNat / 16) = c1 at x1 HE
      generalize hc2 : hexd (s[k].toNat % 16) = c2 at x2 HE
      clear hc1 hc2
      go_wp2_with fail
      go_region_held3 (fun _ => True) (trivial)
        ((refine step_append_lies _ (by rfl) _ _ _ (by rfl) w.heap.size 5 i0 _ 1 1 Tryd.underlying46 hi hz0 hz1 hz2 rfl (by omega) _ (2 * k) (bytesV done) (by rfl) ((hown.alloc _).drew) ⟨wr.heap.size, 0, none⟩ 2 2 [.int .u8 (c1.toNat : Int), .int .u8 (c2.toNat : Int)] (by rfl) (by rfl) (World.news_of_block (cs := #[.int .u8 (c1.toNat : Int), .int .u8 (c2.toNat : Int)]) (t := 5) (fr := (0, 0)) (heap_alloc_new wr _)) (by simp [Value.oneCell']) (by omega) (by unfold maxLen; omega) (by omega) (by simp; omega) (wr.heap.size + 1) (by simp) ?_; intro gg cap w1 hown1 hgrow hat hlt1))
      all_goals go_wp2
      all_goals
        refine ⟨⟨k + 1, 2 * (k + 1), done ++ [c1, c2], by omega, rfl, by have := HL.out; simp; omega, by go_num, by rw [bytesV_append]; exact hown1, (hB.alloc hB.size _).drew.grown hgrow (by simp; omega) (fun k hk => (hown.lt k hk).1), HE⟩, ?_⟩
        simp [intOf]
        omega
    · have hdl' : decide ((k : Int) < (s.size : Int)) = false := by simp; omega
      have HE : Hid (R = done) := Lib.hid (by have := HD.out; rw [show k = s.size by omega, dropEnd] at this; simpa [hexL] using this.symm)
      have hcv := conv_own hown hdl
      go_wp2
      go_ret
      exact ⟨by rw [HE.out]; rfl, hB⟩

/-- A digit's number, or -1. -/
def hexI (c : UInt8) : Int := match hexV c with
  | none => -1
  | some x => (x : Int)
theorem hexI_all : ∀ c : Fin 256, Lib.indexByte [48, 49, 50, 51, 52, 53, 54, 55, 56, 57, 97, 98, 99, 100, 101, 102] (UInt8.ofNat c.1) = hexI (UInt8.ofNat c.1) := by decide +kernel
theorem idx_hex (c : UInt8) (w : World) : Calls Tryd.prog 80 #[.string ⟨#[48, 49, 50, 51, 52, 53, 54, 55, 56, 57, 97, 98, 99, 100, 101, 102]⟩, .int .u8 (c.toNat : Int)] w fun e w' => e = .returned (.int .i64 (hexI c)) ∧ w' = w := by
  have h := Tryd.strings_IndexByte ⟨#[48, 49, 50, 51, 52, 53, 54, 55, 56, 57, 97, 98, 99, 100, 101, 102]⟩ (c.toNat : Int) w
  have e := hexI_all ⟨c.toNat, c.toNat_lt⟩
  simp only [UInt8.ofNat_toNat] at e
  have e2 : ((c.toNat : Int).toNat).toUInt8 = c := by simp
  rw [e2] at h
  have e3 : (⟨#[48, 49, 50, 51, 52, 53, 54, 55, 56, 57, 97, 98, 99, 100, 101, 102]⟩ : ByteArray).data.toList = [48, 49, 50, 51, 52, 53, 54, 55, 56, 57, 97, 98, 99, 100, 101, 102] := rfl
  rw [e3, e] at h
  exact h
theorem idx_is (c : UInt8) (z : Int) (w : World) (hz : hexI c = z) : Calls Tryd.prog 80 #[.string ⟨#[48, 49, 50, 51, 52, 53, 54, 55, 56, 57, 97, 98, 99, 100, 101, 102]⟩, .int .u8 (c.toNat : Int)] w fun e w' => e = .returned (.int .i64 z) ∧ w' = w := by rw [← hz]; exact idx_hex c w
theorem drop_two (s : ByteArray) (k : Nat) (h : k + 1 < s.size) : s.data.toList.drop k = s[k] :: s[k + 1] :: s.data.toList.drop (k + 2) := by
  rw [byteAt s k (by omega), byteAt s (k + 1) h]
theorem or_byte (x y : Nat) (hx : x < 16) (hy : y < 16) : bits .or .i64 ((x : Int) * 16) (y : Int) = ((16 * x + y : Nat) : Int) := by
  have := or16 ⟨x, hx⟩ ⟨y, hy⟩
  simp only at this
  rw [show ((16 * x : Nat) : Int) = (x : Int) * 16 by omega] at this
  exact this

theorem below_draws {B : Nat} {w v : World} (h : Below B w v) (n : Nat) : Below B w (v.drewN n) := h.trans ⟨rfl, rfl, rfl, Nat.le_refl _, fun _ _ => rfl⟩

set_option maxRecDepth 100000 in
set_option maxHeartbeats 2000000 in
theorem readHex_even (s : ByteArray) (w : World) (hs : s.size ≤ 1000000) (h2 : s.size % 2 = 0) :
    Calls Tryd.prog 64 #[.string s] w fun e w' => e = .returned (.tuple #[.string ⟨((unhexL s.data.toList).getD []).toArray⟩, .bool (unhexL s.data.toList).isSome]) ∧ Below w.heap.size w w' := by
  obtain ⟨i0, hi, hz0, hz1, hz2⟩ := info_parts infoByte
  generalize hR : unhexL s.data.toList = R
  have HR := Lib.hid hR
  clear hR
  have e2 : ((s.size : Int) % 2 != 0) = false := by simp; omega
  go_enter Tryd.func64, Tryd.ntmps64
  go_wp2_with (at_make; refine wpList_make_own _ rfl _ _ 46 rfl w.heap.size 5 i0 (.int .u8 0) 1 Tryd.underlying46 hi hz0 hz1 .i64 .i64 _ (s.size / 2) rfl rfl (by omega) (by rw [hz2]; omega) (by unfold maxLen; omega) (Nat.le_refl _) ?_; intro w0 hown0 hgrow0)
  clear e2
  go_loopw [4, 5] (fun v i wr => ∃ (k n : Nat) (done : List UInt8), k ≤ s.size ∧ k = 2 * n ∧ done.length = n ∧ i = .int .i64 (k : Nat) ∧ wr.ownsRow w.heap.size 5 1 v n (bytesV done) ∧ Below w.heap.size w wr ∧ Hid ((unhexL (s.data.toList.drop k)).map (done ++ ·) = R)) (fun _ i _ => s.size - (intOf i).toNat)
  case atStart => exact ⟨0, 0, [], Nat.zero_le _, rfl, rfl, rfl, hown0, (Below.refl _ _).grown hgrow0 (Nat.le_refl _) (fun k hk => by simp at hk), Lib.hid (by rw [← HR.out]; simp)⟩
  case round =>
    obtain ⟨k, n, done, hk, hkn, hdl, rfl, hown, hB, HD⟩ := hrel
    have HK := Lib.hid hkn
    have HL := Lib.hid hdl
    clear hown0 hgrow0 HR hdl
    by_cases hlt : k < s.size
    · have hlt1 : k + 1 < s.size := by omega
      clear hkn
      have hdt : decide ((k : Int) < (s.size : Int)) = true := by simp; omega
      have ea : IntKind.i64.wrap ((k : Int) + 1) = (k : Int) + 1 := by rw [IntKind.wrap_i64]; omega
      have eb : (0 : Int) ≤ (k : Int) + 1 := by omega
      have ec : (k : Int) + 1 < (s.size : Int) := by omega
      have ed : ((k : Int) + 1).toNat = k + 1 := by omega
      have HU : Hid ((unhexL (s[k] :: s[k + 1] :: s.data.toList.drop (k + 2))).map (done ++ ·) = R) := Lib.hid (by rw [← drop_two s k hlt1]; exact HD.out)
      clear HD
      cases hx : hexV s[k] with
      | none =>
        have HE : Hid (R = none) := Lib.hid (by have := HU.out; simp only [unhexL, hx, Option.map_none] at this; exact this.symm)
        have z1 : hexI s[k] = -1 := by unfold hexI; rw [hx]
        obtain ⟨y, hy⟩ : ∃ y, hexI s[k + 1] = y := ⟨_, rfl⟩
        have HX := Lib.hid hx
        have HZ := Lib.hid (And.intro z1 hy)
        clear hx z1 hy
        go_wp2_with fail
        go_quiet (first | (go_at_call 80; first | exact Calls.quiet_of_same (idx_is _ _ _ HZ.out.1) | exact Calls.quiet_of_same (idx_is _ _ _ HZ.out.2)))
        go_wp2
        go_ret2
        exact ⟨by rw [HE.out]; rfl, below_draws hB _⟩
      | some x =>
        have hx16 := hexV_lt _ _ hx
        have z1 : hexI s[k] = (x : Int) := by unfold hexI; rw [hx]
        cases hy : hexV s[k + 1] with
        | none =>
          have HE : Hid (R = none) := Lib.hid (by have := HU.out; simp only [unhexL, hx, hy, Option.map_none] at this; exact this.symm)
          have z2 : hexI s[k + 1] = -1 := by unfold hexI; rw [hy]
          have HZ := Lib.hid (And.intro z1 z2)
          clear hx hy z1 z2
          go_wp2_with fail
          go_quiet (first | (go_at_call 80; first | exact Calls.quiet_of_same (idx_is _ _ _ HZ.out.1) | exact Calls.quiet_of_same (idx_is _ _ _ HZ.out.2)))
          go_wp2
          go_ret2
          exact ⟨by rw [HE.out]; rfl, below_draws hB _⟩
        | some y =>
          have hy16 := hexV_lt _ _ hy
          have z2 : hexI s[k + 1] = (y : Int) := by unfold hexI; rw [hy]
          have HE : Hid ((unhexL (s.data.toList.drop (k + 2))).map ((done ++ [UInt8.ofNat (16 * x + y)]) ++ ·) = R) := Lib.hid (by
            have := HU.out
            simp only [unhexL, hx, hy, Option.map_map] at this
            rw [← this]
            congr 1
            funext l
            simp)
          have HZ := Lib.hid (And.intro z1 z2)
          have hor := or_byte x y hx16 hy16
          obtain ⟨c, hc⟩ : ∃ c : UInt8, UInt8.ofNat (16 * x + y) = c := ⟨_, rfl⟩
          have hcn : ((16 * x + y : Nat) : Int) = (c.toNat : Int) := by rw [← hc]; simp; omega
          rw [hcn] at hor
          rw [hc] at HE
          have hc256 := c.toNat_lt
          clear hx hy z1 z2 HU hc hcn
          go_wp2_with fail
          go_quiet (first | (go_at_call 80; first | exact Calls.quiet_of_same (idx_is _ _ _ HZ.out.1) | exact Calls.quiet_of_same (idx_is _ _ _ HZ.out.2)))
          have hownq : (wr.drewN nq).ownsRow w.heap.size 5 1 _ n (bytesV done) := hown
          have hBq := below_draws hB nq
          generalize wr.drewN nq = wq at hownq hBq ⊢
          clear hown hB
          have hzB := hBq.size
          have hn5 : n ≤ 500000 := by have := HK.out; omega
          go_wp2_with (at_builtin; refine wpList_append_own _ rfl _ _ 46 rfl w.heap.size 5 i0 (.int .u8 0) 1 1 Tryd.underlying46 hi hz0 hz1 hz2 rfl (by decide) _ _ _ rfl (hownq.alloc _) _ 1 1 [.int .u8 (c.toNat : Int)] rfl rfl (cell_one_new _ _ _) (by intro u hu; simp at hu; subst hu; rfl) (by unfold maxLen; omega) (by omega) (by simp; omega) ?_; intro v' w5 hown5 hgrow5 _)
          refine ⟨⟨k + 2, n + 1, done ++ [c], by omega, by have := HK.out; omega, by have := HL.out; simp; omega, by go_num, by rw [bytesV_append]; exact hown5, (hBq.alloc hzB _).grown hgrow5 (by simp; omega) (fun k hk => (hownq.lt k hk).1), HE⟩, ?_⟩
          simp [intOf]
          omega
    · have hdt : decide ((k : Int) < (s.size : Int)) = false := by simp; omega
      have HE : Hid (R = some done) := Lib.hid (by have := HD.out; rw [show k = s.size by omega, dropEnd] at this; simpa [unhexL] using this.symm)
      have hcv := conv_own hown HL.out
      go_wp2
      go_ret2
      exact ⟨by rw [HE.out]; rfl, hB⟩

set_option maxHeartbeats 1000000 in
theorem readHex_any (s : ByteArray) (w : World) (hs : s.size ≤ 1000000) :
    Calls Tryd.prog 64 #[.string s] w fun e w' => e = .returned (.tuple #[.string ⟨((unhexL s.data.toList).getD []).toArray⟩, .bool (unhexL s.data.toList).isSome]) ∧ Below w.heap.size w w' := by
  by_cases h2 : s.size % 2 = 0
  · exact readHex_even s w hs h2
  · have e2 : ((s.size : Int) % 2 != 0) = true := by simp; omega
    rw [unhex_odd s.data.toList.length s.data.toList rfl (by simp; omega)]
    go_enter Tryd.func64, Tryd.ntmps64
    go_wp2
    go_ret2
    exact ⟨rfl, Below.refl _ _⟩
end Go.Proofs.YtcggmagdndhkbaaDoor
