import Derived.Test.YtcggmagdndhkbaaGreatDoorAx03
import Derived.Test.YtcggmagdndhkbaaGreatDoorAx04
import Derived.Test.YtcggmagdndhkbaaGreatDoorAx05
import Derived.WalkKit
import Derived.WalkSpells
import Derived.Below
import Derived.Lib.AppendIntMem
import Derived.Lib.ItoaLen
import Derived.Deep.RegionHeld3
import Derived.OrdersHeld
import Derived.OrdersIn
import Derived.TacticsIn
import Derived.RangeFuncCalls
section
namespace Go.Proofs.YtcggmagdndhkbaaGreatDoor
open Go.RowKit
theorem itoa_any (n : Int) (h0 : -9223372036854775808 ≤ n) (h1 : n ≤ 9223372036854775807) (w : World) (htab : Lib.TabIs Tryz.prog w "internal/strconv.uint64pow10" .u64 Lib.pow10Tab) :
    Calls Tryz.prog 64 #[.int .i64 n] w fun e w' => e = .returned (.string ⟨(Lib.itoa n).toArray⟩) ∧ Below w.heap.size w w' := by
  refine (Tryz.strconv_Itoa n h0 h1 w htab).mono ?_
  rintro e w' ⟨rfl, k, os, rfl⟩
  exact ⟨rfl, Lib.below_grow _ _ (Nat.le_refl _) _ _⟩
end Go.Proofs.YtcggmagdndhkbaaGreatDoor
end
section
namespace Go.Proofs.YtcggmagdndhkbaaGreatDoor
open Go.RowKit
structure TxtE (ad : Nat → Addr) (w : World) : Prop where
  op4 : Op4 ad w
  tab : Lib.TabIs Tryz.prog w "internal/strconv.uint64pow10" .u64 Lib.pow10Tab
theorem TxtE.later {ad : Nat → Addr} {w w' : World} (h : TxtE ad w) (hb : Below w.heap.size w w') : TxtE ad w' := ⟨h.op4.later hb, Lib.tabBelow_of_tabIs h.tab _ hb⟩
def TxtR (w0 : World) (t b n : Int) (k : Nat) (node other : Int) (name value : ByteArray) (w' : World) : Prop := w'.cell? ⟨w0.heap.size, 0, none⟩ = some (.int .i64 t) ∧ w'.cell? ⟨w0.heap.size, 1, none⟩ = some (.int .i64 b) ∧ w'.cell? ⟨w0.heap.size, 2, none⟩ = some (.int .i64 n) ∧ w'.cell? ⟨w0.heap.size, 3, none⟩ = some (.int .u8 (k : Int)) ∧ w'.cell? ⟨w0.heap.size, 4, none⟩ = some (.int .i64 node) ∧ w'.cell? ⟨w0.heap.size, 5, none⟩ = some (.int .i64 other) ∧ w'.cell? ⟨w0.heap.size, 6, none⟩ = some (.string name) ∧ w'.cell? ⟨w0.heap.size, 7, none⟩ = some (.string value) ∧ Lib.TabIs Tryz.prog w' "internal/strconv.uint64pow10" .u64 Lib.pow10Tab ∧ Below w0.heap.size w0 w'
theorem TxtR.later {w0 w w' : World} {t b n : Int} {k : Nat} {node other : Int} {name value : ByteArray} (h : TxtR w0 t b n k node other name value w) (hb : Below w.heap.size w w') : TxtR w0 t b n k node other name value w' :=
  ⟨cellLater hb h.1, cellLater hb h.2.1, cellLater hb h.2.2.1, cellLater hb h.2.2.2.1, cellLater hb h.2.2.2.2.1, cellLater hb h.2.2.2.2.2.1, cellLater hb h.2.2.2.2.2.2.1, cellLater hb h.2.2.2.2.2.2.2.1, Lib.tabBelow_of_tabIs h.2.2.2.2.2.2.2.2.1 _ hb, h.2.2.2.2.2.2.2.2.2.trans (hb.mono h.2.2.2.2.2.2.2.2.2.size)⟩
theorem TxtR.drew {w0 w : World} {t b n : Int} {k : Nat} {node other : Int} {name value : ByteArray} (h : TxtR w0 t b n k node other name value w) : TxtR w0 t b n k node other name value w.drew := h.later (Below.refl _ _).drew
theorem TxtR.new {w0 w : World} {t b n : Int} {k : Nat} {node other : Int} {name value : ByteArray} (h : TxtR w0 t b n k node other name value w) (o : Obj) : TxtR w0 t b n k node other name value (w.alloc o) := h.later ((Below.refl _ _).alloc (Nat.le_refl _) _)
theorem TxtR.tab {w0 w : World} {t b n : Int} {k : Nat} {node other : Int} {name value : ByteArray} (h : TxtR w0 t b n k node other name value w) : Lib.TabIs Tryz.prog w "internal/strconv.uint64pow10" .u64 Lib.pow10Tab := h.2.2.2.2.2.2.2.2.1
theorem join8 (y0 y1 y2 y3 y4 y5 y6 y7 : ByteArray) (w : World) (T : TypeId)
    (hl : y0.size + y1.size + y2.size + y3.size + y4.size + y5.size + y6.size + y7.size ≤ 100000000) :
    Calls Tryz.prog 65 #[.slice (some ⟨w.heap.size, 0, none⟩) 8 8, .string ⟨#[124]⟩] (w.alloc (.cells #[.string y0, .string y1, .string y2, .string y3, .string y4, .string y5, .string y6, .string y7] T)) fun e w' => e = .returned (.string ⟨(joinP 124 [y0.data.toList, y1.data.toList, y2.data.toList, y3.data.toList, y4.data.toList, y5.data.toList, y6.data.toList, y7.data.toList]).toArray⟩) ∧ Below (w.alloc (.cells #[.string y0, .string y1, .string y2, .string y3, .string y4, .string y5, .string y6, .string y7] T)).heap.size (w.alloc (.cells #[.string y0, .string y1, .string y2, .string y3, .string y4, .string y5, .string y6, .string y7] T)) w' := by
  have hc : ∀ (j : Nat) x, ([y0, y1, y2, y3, y4, y5, y6, y7] : List ByteArray)[j]? = some x → (w.alloc (.cells #[.string y0, .string y1, .string y2, .string y3, .string y4, .string y5, .string y6, .string y7] T)).cell? ⟨w.heap.size, 0 + j, none⟩ = some (.string x) := by
    intro j x hx
    rw [World.cell?_alloc_at _ _ _ _ rfl]
    match j, hx with
    | 0, hx => simp at hx; subst hx; rfl
    | 1, hx => simp at hx; subst hx; rfl
    | 2, hx => simp at hx; subst hx; rfl
    | 3, hx => simp at hx; subst hx; rfl
    | 4, hx => simp at hx; subst hx; rfl
    | 5, hx => simp at hx; subst hx; rfl
    | 6, hx => simp at hx; subst hx; rfl
    | 7, hx => simp at hx; subst hx; rfl
    | n + 8, hx => simp at hx
  refine (Tryz.strings_Join w.heap.size 0 8 [y0, y1, y2, y3, y4, y5, y6, y7] ⟨#[124]⟩ _ hc (by simp) (by simp) (by simp) ?_).mono ?_
  · simp [Lib.join_cons, Lib.joinTail]; omega
  rintro e w' ⟨rfl, hb⟩
  refine ⟨?_, hb⟩
  rw [← join_joinP]
  simp
theorem kindRune (k : Nat) (w : World) (hk : k = 109 ∨ k = 105 ∨ k = 100 ∨ k = 115) : Sem.run Tryz.prog (convert 5 21 (.int .u8 (k : Int))) w = .ok (.int .i32 (k : Int)) w := by
  rcases hk with rfl | rfl | rfl | rfl <;> kernel_rfl
theorem kindText (k : Nat) (w : World) (hk : k = 109 ∨ k = 105 ∨ k = 100 ∨ k = 115) : Sem.run Tryz.prog (convert 21 9 (.int .i32 (k : Int))) w = .ok (.string ⟨[UInt8.ofNat k].toArray⟩) w := by
  rcases hk with rfl | rfl | rfl | rfl <;> kernel_rfl
theorem sizeOfList (l : List UInt8) : (⟨l.toArray⟩ : ByteArray).size = l.length := by simp [ByteArray.size]
theorem arr_data (s : ByteArray) : (⟨s.data.toList.toArray⟩ : ByteArray) = s := by simp
set_option maxRecDepth 100000 in
set_option maxHeartbeats 8000000 in
theorem optext_ok {ad : Nat → Addr} (t b n : Int) (k : Nat) (node other : Int) (name value : ByteArray) (w : World) (hE : TxtE ad w) (hop : opE t b n k node other name.data.toList value.data.toList = 0) :
    Calls Tryz.prog 98 #[.agg #[.int .i64 t, .int .i64 b, .int .i64 n, .int .u8 (k : Int), .int .i64 node, .int .i64 other, .string name, .string value]] w fun e w' => e = .returned (.tuple #[.string ⟨(opTextL t b n k node other name.data.toList value.data.toList).toArray⟩, .nilIface]) ∧ Below w.heap.size w w' := by
  obtain ⟨h1, h2, h3, h4, h5, h6, hk, h7, h8, h9, h10, -, hn, hv⟩ := opE_zero hop
  rw [listLen] at hn hv
  have O0 := OpAt.new w t b n k node other name value 31
  have E0 := hE.later ((Below.refl _ _).alloc (Nat.le_refl _) (.cells #[.int .i64 t, .int .i64 b, .int .i64 n, .int .u8 (k : Int), .int .i64 node, .int .i64 other, .string name, .string value] 31))
  have B0 : Below w.heap.size w (w.alloc (.cells #[.int .i64 t, .int .i64 b, .int .i64 n, .int .u8 (k : Int), .int .i64 node, .int .i64 other, .string name, .string value] 31)) := (Below.refl _ _).alloc (Nat.le_refl _) _
  have q1 := fun w => kindRune k w hk
  have q2 := fun w => kindText k w hk
  have HO := Lib.hid hop
  have HB : Hid ((1 ≤ t ∧ t ≤ 1073741824) ∧ (0 ≤ b ∧ b < 4) ∧ (1 ≤ n ∧ n ≤ 400) ∧ (0 ≤ node ∧ node ≤ 4294967299) ∧ (0 ≤ other ∧ other ≤ 4294967299) ∧ name.size ≤ 12 ∧ value.size ≤ 12) := Lib.hid (by omega)
  have HL : Hid ((Lib.itoa t).length ≤ 21 ∧ (Lib.itoa b).length ≤ 21 ∧ (Lib.itoa n).length ≤ 21 ∧ (Lib.itoa node).length ≤ 21 ∧ (Lib.itoa other).length ≤ 21) := Lib.hid ⟨Lib.itoa_length_le _ (by omega) (by omega), Lib.itoa_length_le _ (by omega) (by omega), Lib.itoa_length_le _ (by omega) (by omega), Lib.itoa_length_le _ (by omega) (by omega), Lib.itoa_length_le _ (by omega) (by omega)⟩
  clear hop hk h1 h2 h3 h4 h5 h6 h7 h8 h9 h10 hn hv hE
  unfold opTextL
  generalize hR : joinP 124 [[UInt8.ofNat k], Lib.itoa t, Lib.itoa b, Lib.itoa n, Lib.itoa node, Lib.itoa other, name.data.toList, hexL value.data.toList] = R
  have HR := Lib.hid hR
  clear hR
  go_enter Tryz.func98, Tryz.ntmps98
  go_wp2_with fail
  generalize w.alloc (.cells #[.int .i64 t, .int .i64 b, .int .i64 n, .int .u8 (k : Int), .int .i64 node, .int .i64 other, .string name, .string value] 31) = u at O0 E0 B0 ⊢
  refine (opcheck_any t b n k node other name value u E0.op4 (by have := HB.out; omega) (by have := HB.out; omega)).mono ?_
  rintro e w1 ⟨rfl, hb⟩
  rw [HO.out]
  have R1 : TxtR w t b n k node other name value w1 := by
    have O1 := O0.later hb
    exact ⟨O1.c0, O1.c1, O1.c2, O1.c3, O1.c4, O1.c5, O1.c6, O1.c7, (E0.later hb).tab, B0.trans (hb.mono B0.size)⟩
  clear hb O0 E0 B0
  have e0 : eV ad 0 = .nilIface := rfl
  rw [e0]
  clear e0
  go_wp2_with fail
  obtain ⟨A0, A1, A2, A3, A4, A5, A6, A7, A8, A9⟩ := id R1
  go_region_held3 (fun w' => w'.cell? ⟨w.heap.size, 0, none⟩ = some (.int .i64 t) ∧ w'.cell? ⟨w.heap.size, 1, none⟩ = some (.int .i64 b) ∧ w'.cell? ⟨w.heap.size, 2, none⟩ = some (.int .i64 n) ∧ w'.cell? ⟨w.heap.size, 3, none⟩ = some (.int .u8 (k : Int)) ∧ w'.cell? ⟨w.heap.size, 4, none⟩ = some (.int .i64 node) ∧ w'.cell? ⟨w.heap.size, 5, none⟩ = some (.int .i64 other) ∧ w'.cell? ⟨w.heap.size, 6, none⟩ = some (.string name) ∧ w'.cell? ⟨w.heap.size, 7, none⟩ = some (.string value) ∧ Lib.TabIs Tryz.prog w' "internal/strconv.uint64pow10" .u64 Lib.pow10Tab ∧ Below w.heap.size w w')
    (first
      | assumption
      | exact TxtR.drew ⟨A0, A1, A2, A3, A4, A5, A6, A7, A8, A9⟩
      | exact TxtR.later (by assumption) (by assumption)
      | exact TxtR.new (by assumption) _)
    (first
      | (go_at_call 64; refine (itoa_any _ (by have := HB.out; omega) (by have := HB.out; omega) _ (TxtR.tab (by assumption))).mono ?_; rintro e w' ⟨rfl, hb⟩)
      | (go_at_call 160; refine (hexText_any _ _ (by have := HB.out; omega)).mono ?_; rintro e w' ⟨rfl, hb⟩)
      | (go_at_call 65; refine (join8 _ _ _ _ _ _ _ _ _ _ (by have hb1 := HB.out; have hl1 := HL.out; have hx1 := hexL_length value.data.toList; have hv1 := listLen value; simp only [sizeOfList, List.length_cons, List.length_nil]; omega)).mono ?_; rintro e w' ⟨rfl, hb⟩))
  have R2 : TxtR w t b n k node other name value w' := by assumption
  go_wp2
  go_ret2
  exact ⟨by rw [← HR.out]; rfl, R2.2.2.2.2.2.2.2.2.2⟩
set_option maxHeartbeats 1000000 in
theorem optext_no {ad : Nat → Addr} (t b n : Int) (k : Nat) (node other : Int) (name value : ByteArray) (w : World) (hE : TxtE ad w) (hsn : name.size ≤ 1000000) (hsv : value.size ≤ 1000000) (hop : opE t b n k node other name.data.toList value.data.toList ≠ 0) :
    Calls Tryz.prog 98 #[.agg #[.int .i64 t, .int .i64 b, .int .i64 n, .int .u8 (k : Int), .int .i64 node, .int .i64 other, .string name, .string value]] w fun e w' => e = .returned (.tuple #[.string ⟨#[]⟩, .iface 416 (.pointer (some (ad (opE t b n k node other name.data.toList value.data.toList - 1))))]) ∧ Below w.heap.size w w' := by
  have O0 := OpAt.new w t b n k node other name value 31
  have E0 := hE.later ((Below.refl _ _).alloc (Nat.le_refl _) (.cells #[.int .i64 t, .int .i64 b, .int .i64 n, .int .u8 (k : Int), .int .i64 node, .int .i64 other, .string name, .string value] 31))
  have B0 : Below w.heap.size w (w.alloc (.cells #[.int .i64 t, .int .i64 b, .int .i64 n, .int .u8 (k : Int), .int .i64 node, .int .i64 other, .string name, .string value] 31)) := (Below.refl _ _).alloc (Nat.le_refl _) _
  have hc := fun u hu => opcheck_any (ad := ad) t b n k node other name value u hu hsn hsv
  generalize opE t b n k node other name.data.toList value.data.toList = c at hop hc ⊢
  have HC := Lib.hid hc
  have he : eV ad c = .iface 416 (.pointer (some (ad (c - 1)))) := by unfold eV; rw [if_neg hop]
  have HV := Lib.hid he
  clear hc he hop
  go_enter Tryz.func98, Tryz.ntmps98
  go_wp2_with fail
  generalize w.alloc (.cells #[.int .i64 t, .int .i64 b, .int .i64 n, .int .u8 (k : Int), .int .i64 node, .int .i64 other, .string name, .string value] 31) = u at O0 E0 B0 ⊢
  refine (HC.out u E0.op4).mono ?_
  rintro e w1 ⟨rfl, hb⟩
  rw [HV.out]
  have B1 : Below w.heap.size w w1 := B0.trans (hb.mono B0.size)
  clear hb O0 E0 B0
  go_wp2
  go_ret2
  exact ⟨rfl, B1⟩
end Go.Proofs.YtcggmagdndhkbaaGreatDoor
end
section
namespace Go.Proofs.YtcggmagdndhkbaaGreatDoor
open Go
section
variable {P : Program} {ops : Array Oper} {Q : Exit → Act → World → Prop} {md : Region.Mode} {S : World → Prop}
theorem wpAnyH_one {i : Nat} {o : Oper} {fuel : Nat} {listed : Array Bool} {a : Act} {w : World} (hr : Region.ready md ops listed = [i]) (ho : ops[i]? = some o)
    (h : ∀ K : Act → World → Prop, (∀ a' w', S w' → wpAnyH P md ops Q S fuel (listed.setIfInBounds i true) a' w' → K a' w') → if Region.wanted o (yielded ops a.tmps) = true then Oper.wp P o a w K Q else K (a.put o.dst undef) w) : wpAnyH P md ops Q S (fuel + 1) listed a w := by
  refine ⟨fun h0 => (by rw [h0] at hr; cases hr), fun j hj => ?_⟩
  rw [hr] at hj
  simp only [List.mem_singleton] at hj
  subst hj
  have := h (fun a' w' => S w' ∧ wpAnyH P md ops Q S fuel (listed.setIfInBounds j true) a' w') (fun a' w' h1 h2 => ⟨h1, h2⟩)
  unfold wpOp
  simp only [ho]
  split
  · rename_i hw
    rw [if_pos hw] at this
    exact .inl this
  · rename_i hw
    rw [if_neg hw] at this
    exact this
end
theorem wp_region_H {P : Program} {ops : Array Oper} {Q : Exit → Act → World → Prop} {S : World → Prop} {id : Nat} {a : Act} {w : World} (hm : P.follows .mixedOrders = true) (hS : S w.drew)
    (h : S w.drew → wpAnyH P .any ops Q S ops.size (Array.replicate ops.size false) a w.drew) : (Code.region id ops true).wp P Q a w :=
  wp_region_any hm (wpAny_of_held _ _ _ _ (h hS))
end Go.Proofs.YtcggmagdndhkbaaGreatDoor
end
section
namespace Go.Proofs.YtcggmagdndhkbaaGreatDoor
open Go
section
variable {P : Program} {ops : Array Oper} {Q : Exit → Act → World → Prop} {md : Region.Mode} {S : World → Prop} {z : Nat}
end
end Go.Proofs.YtcggmagdndhkbaaGreatDoor
namespace Go.Proofs.YtcggmagdndhkbaaGreatDoor
open Go
section
variable {P : Program} {ops : Array Oper} {Q : Exit → Act → World → Prop} {md : Region.Mode} {S : World → Prop}
end
end Go.Proofs.YtcggmagdndhkbaaGreatDoor
end
