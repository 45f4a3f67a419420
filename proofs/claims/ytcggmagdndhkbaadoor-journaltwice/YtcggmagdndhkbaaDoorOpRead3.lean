/- Contract of package op's Read, over the translation. -/
import Derived.Test.YtcggmagdndhkbaaDoorOpRead2
import Derived.RegionTactic
namespace Go.Proofs.YtcggmagdndhkbaaDoor
open Go.RowKit

theorem parts_any (s : ByteArray) (w : World) (hs : s.size ≤ 1000000) (m : Int) (hm : w.cell? ⟨7, 0, none⟩ = some (.int .i64 m)) :
    Calls Tryd.prog 48 #[.string s] w fun e w' => e = .returned (.tuple #[partsO (partsL s.data.toList), .bool (partsL s.data.toList).isSome]) ∧ Below w.heap.size w w' := by
  by_cases h8 : (cutP 124 s.data.toList).length = 8
  · obtain ⟨l0, l1, l2, l3, l4, l5, l6, l7, hl⟩ : ∃ l0 l1 l2 l3 l4 l5 l6 l7, cutP 124 s.data.toList = [l0, l1, l2, l3, l4, l5, l6, l7] := by
      match cutP 124 s.data.toList, h8 with
      | [a0, a1, a2, a3, a4, a5, a6, a7], _ => exact ⟨a0, a1, a2, a3, a4, a5, a6, a7, rfl⟩
    by_cases h0 : l0.length = 1
    · match l0, h0 with
      | [c], _ => exact parts_eight s w hs m hm c l1 l2 l3 l4 l5 l6 l7 hl
    · exact parts_kind s w hs m hm l0 l1 l2 l3 l4 l5 l6 l7 hl h0
  · exact parts_len s w hs m hm h8

/-- A text's error, by its number (0: none). -/
def codeL (l : List UInt8) : Nat := match partsL l with
  | none => 1
  | some (c, n1, n2, n3, n4, n5, nm, v) => opE n1 n2 n3 c.toNat n4 n5 nm v
/-- .. and what is read, if there is none. -/
def okL (l : List UInt8) : Option Parts := if codeL l = 0 then partsL l else none

set_option maxRecDepth 100000 in
set_option maxHeartbeats 2000000 in
theorem read_text {ad : Nat → Addr} (s : ByteArray) (w : World) (hs : s.size ≤ 1000000) (m : Int) (hm : w.cell? ⟨7, 0, none⟩ = some (.int .i64 m)) (ht : w.cell? ⟨5, 0, none⟩ = some (.iface 127 (.pointer (some (ad 0))))) (h : partsL s.data.toList = none) :
    Calls Tryd.prog 32 #[.string s] w fun e w' => e = .returned (.tuple #[partsO none, .iface 127 (.pointer (some (ad 0)))]) ∧ Below w.heap.size w w' := by
  have R0 := ResO.new w 35
  have hb0 : Below w.heap.size w (w.alloc (.cells #[.int .i64 0, .int .i64 0, .int .i64 0, .int .u8 0, .int .i64 0, .int .i64 0, .string ⟨#[]⟩, .string ⟨#[]⟩] 35)) := (Below.refl w.heap.size w).alloc (Nat.le_refl _) _
  have HM := Lib.hid (parts_any s _ hs m (cellLater hb0 hm))
  rw [h] at HM
  have T0 := cellLater hb0 ht
  have neT0 : 5 < w.heap.size := World.block_lt_of_cell? w ⟨5, 0, none⟩ ht
  have neT1 : ¬ w.heap.size = 5 := by omega
  have neT2 : ¬ 5 = w.heap.size := by omega
  clear hm ht hb0 h
  go_enter Tryd.func32, Tryd.ntmps32
  go_wp2_with fail
  generalize w.alloc (.cells #[.int .i64 0, .int .i64 0, .int .i64 0, .int .u8 0, .int .i64 0, .int .i64 0, .string ⟨#[]⟩, .string ⟨#[]⟩] 35) = u at R0 HM T0 ⊢
  refine HM.out.mono ?_
  rintro e w1 ⟨rfl, hb⟩
  have R1 := R0.later hb
  have T1 := cellLater hb T0
  clear hb R0 HM T0
  unfold partsO
  go_wp2_with fail
  have hb2 : Below w1.heap.size w1 (w1.alloc (.cells #[.int .i64 0, .int .i64 0, .int .i64 0, .int .u8 0, .int .i64 0, .int .i64 0, .string ⟨#[]⟩, .string ⟨#[]⟩] 35)) := (Below.refl _ _).alloc (Nat.le_refl _) _
  have R2 := R1.later hb2
  have T2 := cellLater hb2 T1
  clear hb2 R1 T1
  generalize w1.alloc (.cells #[.int .i64 0, .int .i64 0, .int .i64 0, .int .u8 0, .int .i64 0, .int .i64 0, .string ⟨#[]⟩, .string ⟨#[]⟩] 35) = w2 at R2 T2 ⊢
  obtain ⟨⟨c0, c1, c2, c3, c4, c5, c6, c7⟩, f0, f1, f2, f3, f4, f5, f6, f7, B1⟩ := R2
  go_region
  all_goals go_wp2
  all_goals
    refine bodyPost_ret (v := .tuple #[.agg #[.int .i64 0, .int .i64 0, .int .i64 0, .int .u8 0, .int .i64 0, .int .i64 0, .string ⟨#[]⟩, .string ⟨#[]⟩], .iface 127 (.pointer (some (ad 0)))]) (by simp [results, Tryd.results32, go_sem, c0, c1, c2, c3, c4, c5, c6, c7]) rfl ⟨rfl, ?_⟩
    exact ((((((((B1.setCell (by simp) _).setCell (by simp) _).setCell (by simp) _).setCell (by simp) _).setCell (by simp) _).setCell (by simp) _).setCell (by simp) _).setCell (by simp) _).drew

set_option maxRecDepth 100000 in
set_option maxHeartbeats 2000000 in
theorem read_code {ad : Nat → Addr} (s : ByteArray) (w : World) (hs : s.size ≤ 1000000) (m : Int) (hm : w.cell? ⟨7, 0, none⟩ = some (.int .i64 m)) (hE : Op4 ad w) (c : UInt8) (n1 n2 n3 n4 n5 : Nat) (nm v : List UInt8) (h : partsL s.data.toList = some (c, n1, n2, n3, n4, n5, nm, v)) (hn : nm.length ≤ 1000000) (hv : v.length ≤ 1000000) (hc : opE n1 n2 n3 c.toNat n4 n5 nm v ≠ 0) :
    Calls Tryd.prog 32 #[.string s] w fun e w' => e = .returned (.tuple #[partsO none, .iface 127 (.pointer (some (ad (opE n1 n2 n3 c.toNat n4 n5 nm v - 1))))]) ∧ Below w.heap.size w w' := by
  have R0 := ResO.new w 35
  have hb0 : Below w.heap.size w (w.alloc (.cells #[.int .i64 0, .int .i64 0, .int .i64 0, .int .u8 0, .int .i64 0, .int .i64 0, .string ⟨#[]⟩, .string ⟨#[]⟩] 35)) := (Below.refl w.heap.size w).alloc (Nat.le_refl _) _
  have HM := Lib.hid (parts_any s _ hs m (cellLater hb0 hm))
  rw [h] at HM
  have E0 := hE.later hb0
  have hk := fun u hu => opcheck_any (ad := ad) n1 n2 n3 c.toNat n4 n5 ⟨nm.toArray⟩ ⟨v.toArray⟩ u hu (by simpa [ByteArray.size] using hn) (by simpa [ByteArray.size] using hv)
  have hd1 : (⟨nm.toArray⟩ : ByteArray).data.toList = nm := rfl
  have hd2 : (⟨v.toArray⟩ : ByteArray).data.toList = v := rfl
  rw [hd1, hd2] at hk
  generalize opE n1 n2 n3 c.toNat n4 n5 nm v = code at hc hk ⊢
  have HC := Lib.hid hk
  have he : eV ad code = .iface 127 (.pointer (some (ad (code - 1)))) := by unfold eV; rw [if_neg hc]
  have HV := Lib.hid he
  clear hm hb0 h hE hk hd1 hd2 hc he
  go_enter Tryd.func32, Tryd.ntmps32
  go_wp2_with fail
  generalize w.alloc (.cells #[.int .i64 0, .int .i64 0, .int .i64 0, .int .u8 0, .int .i64 0, .int .i64 0, .string ⟨#[]⟩, .string ⟨#[]⟩] 35) = u at R0 HM E0 ⊢
  refine HM.out.mono ?_
  rintro e w1 ⟨rfl, hb⟩
  have R1 := R0.later hb
  have E1 := E0.later hb
  clear hb R0 HM E0
  unfold partsO
  go_wp2_with fail
  have hb2 : Below w1.heap.size w1 (w1.alloc (.cells #[.int .i64 (n1 : Int), .int .i64 (n2 : Int), .int .i64 (n3 : Int), .int .u8 (c.toNat : Int), .int .i64 (n4 : Int), .int .i64 (n5 : Int), .string ⟨nm.toArray⟩, .string ⟨v.toArray⟩] 35)) := (Below.refl _ _).alloc (Nat.le_refl _) _
  have R2 := R1.later hb2
  have E2 := E1.later hb2
  clear hb2 R1 E1
  refine (HC.out _ E2).mono ?_
  rintro e w3 ⟨rfl, hb⟩
  rw [HV.out]
  have R3 := R2.later hb
  clear hb R2 E2 HC HV
  obtain ⟨⟨c0, c1, c2, c3, c4, c5, c6, c7⟩, f0, f1, f2, f3, f4, f5, f6, f7, B1⟩ := R3
  go_wp2
  refine bodyPost_ret (v := .tuple #[.agg #[.int .i64 0, .int .i64 0, .int .i64 0, .int .u8 0, .int .i64 0, .int .i64 0, .string ⟨#[]⟩, .string ⟨#[]⟩], .iface 127 (.pointer (some (ad (code - 1))))]) (by simp [results, Tryd.results32, go_sem, c0, c1, c2, c3, c4, c5, c6, c7]) rfl ⟨rfl, ?_⟩
  exact (((((((B1.setCell (by simp) _).setCell (by simp) _).setCell (by simp) _).setCell (by simp) _).setCell (by simp) _).setCell (by simp) _).setCell (by simp) _).setCell (by simp) _

set_option maxRecDepth 100000 in
set_option maxHeartbeats 2000000 in
theorem read_ok {ad : Nat → Addr} (s : ByteArray) (w : World) (hs : s.size ≤ 1000000) (m : Int) (hm : w.cell? ⟨7, 0, none⟩ = some (.int .i64 m)) (hE : Op4 ad w) (c : UInt8) (n1 n2 n3 n4 n5 : Nat) (nm v : List UInt8) (h : partsL s.data.toList = some (c, n1, n2, n3, n4, n5, nm, v)) (hn : nm.length ≤ 1000000) (hv : v.length ≤ 1000000) (hc : opE n1 n2 n3 c.toNat n4 n5 nm v = 0) :
    Calls Tryd.prog 32 #[.string s] w fun e w' => e = .returned (.tuple #[partsO (some (c, n1, n2, n3, n4, n5, nm, v)), .nilIface]) ∧ Below w.heap.size w w' := by
  have R0 := ResO.new w 35
  have hb0 : Below w.heap.size w (w.alloc (.cells #[.int .i64 0, .int .i64 0, .int .i64 0, .int .u8 0, .int .i64 0, .int .i64 0, .string ⟨#[]⟩, .string ⟨#[]⟩] 35)) := (Below.refl w.heap.size w).alloc (Nat.le_refl _) _
  have HM := Lib.hid (parts_any s _ hs m (cellLater hb0 hm))
  rw [h] at HM
  have E0 := hE.later hb0
  have hk := fun u hu => opcheck_any (ad := ad) n1 n2 n3 c.toNat n4 n5 ⟨nm.toArray⟩ ⟨v.toArray⟩ u hu (by simpa [ByteArray.size] using hn) (by simpa [ByteArray.size] using hv)
  have hd1 : (⟨nm.toArray⟩ : ByteArray).data.toList = nm := rfl
  have hd2 : (⟨v.toArray⟩ : ByteArray).data.toList = v := rfl
  rw [hd1, hd2, hc] at hk
  have HC := Lib.hid hk
  clear hm hb0 h hE hk hd1 hd2 hc
  go_enter Tryd.func32, Tryd.ntmps32
  go_wp2_with fail
  generalize w.alloc (.cells #[.int .i64 0, .int .i64 0, .int .i64 0, .int .u8 0, .int .i64 0, .int .i64 0, .string ⟨#[]⟩, .string ⟨#[]⟩] 35) = u at R0 HM E0 ⊢
  refine HM.out.mono ?_
  rintro e w1 ⟨rfl, hb⟩
  have R1 := R0.later hb
  have E1 := E0.later hb
  clear hb R0 HM E0
  unfold partsO
  go_wp2_with fail
  have hb2 : Below w1.heap.size w1 (w1.alloc (.cells #[.int .i64 (n1 : Int), .int .i64 (n2 : Int), .int .i64 (n3 : Int), .int .u8 (c.toNat : Int), .int .i64 (n4 : Int), .int .i64 (n5 : Int), .string ⟨nm.toArray⟩, .string ⟨v.toArray⟩] 35)) := (Below.refl _ _).alloc (Nat.le_refl _) _
  have R2 := R1.later hb2
  have E2 := E1.later hb2
  have O2 := OpAt.new w1 n1 n2 n3 c.toNat n4 n5 ⟨nm.toArray⟩ ⟨v.toArray⟩ 35
  have ne1 : ¬ w1.heap.size = w.heap.size := by have := R1.lt; omega
  have ne2 : ¬ w.heap.size = w1.heap.size := by omega
  clear hb2 R1 E1
  refine (HC.out _ E2).mono ?_
  rintro e w3 ⟨rfl, hb⟩
  have R3 := R2.later hb
  have O3 := O2.later hb
  clear hb R2 E2 HC O2
  have he : eV ad 0 = .nilIface := rfl
  rw [he]
  clear he
  obtain ⟨⟨c0, c1, c2, c3, c4, c5, c6, c7⟩, f0, f1, f2, f3, f4, f5, f6, f7, B1⟩ := R3
  obtain ⟨x0, x1, x2, x3, x4, x5, x6, x7⟩ := O3
  go_wp2
  refine bodyPost_ret (v := .tuple #[.agg #[.int .i64 (n1 : Int), .int .i64 (n2 : Int), .int .i64 (n3 : Int), .int .u8 (c.toNat : Int), .int .i64 (n4 : Int), .int .i64 (n5 : Int), .string ⟨nm.toArray⟩, .string ⟨v.toArray⟩], .nilIface]) (by simp [results, Tryd.results32, go_sem, c0, c1, c2, c3, c4, c5, c6, c7]) rfl ⟨rfl, ?_⟩
  exact (((((((B1.setCell (by simp) _).setCell (by simp) _).setCell (by simp) _).setCell (by simp) _).setCell (by simp) _).setCell (by simp) _).setCell (by simp) _).setCell (by simp) _
end Go.Proofs.YtcggmagdndhkbaaDoor
