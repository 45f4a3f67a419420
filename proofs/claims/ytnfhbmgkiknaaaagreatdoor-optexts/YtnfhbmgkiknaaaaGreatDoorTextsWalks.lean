/- The walk of the law OpTexts. -/
import Derived.Test.YtnfhbmgkiknaaaaGreatDoorTextsParts
import Derived.Test.YtnfhbmgkiknaaaaGreatDoorOpEq
namespace Go.Proofs.YtnfhbmgkiknaaaaGreatDoor
open Go.RowKit

/-- What the law's great test reads. -/
abbrev TsR (w0 : World) (D : Nat) (ad : Nat → Addr) (m : Int) (t b n : Int) (k : Nat) (node other : Int) (name value : ByteArray) (w' : World) : Prop := w'.cell? ⟨w0.heap.size, 0, none⟩ = some (.int .i64 t) ∧ w'.cell? ⟨w0.heap.size, 1, none⟩ = some (.int .i64 b) ∧ w'.cell? ⟨w0.heap.size, 2, none⟩ = some (.int .i64 n) ∧ w'.cell? ⟨w0.heap.size, 3, none⟩ = some (.int .u8 (k : Int)) ∧ w'.cell? ⟨w0.heap.size, 4, none⟩ = some (.int .i64 node) ∧ w'.cell? ⟨w0.heap.size, 5, none⟩ = some (.int .i64 other) ∧ w'.cell? ⟨w0.heap.size, 6, none⟩ = some (.string name) ∧ w'.cell? ⟨w0.heap.size, 7, none⟩ = some (.string value) ∧ TsE D ad m w' ∧ Below w0.heap.size w0 w'
theorem TsR.later {w0 w w' : World} {D : Nat} {ad : Nat → Addr} {m : Int} {t b n : Int} {k : Nat} {node other : Int} {name value : ByteArray} (h : TsR w0 D ad m t b n k node other name value w) (hb : Below w.heap.size w w') : TsR w0 D ad m t b n k node other name value w' :=
  ⟨cellLater hb h.1, cellLater hb h.2.1, cellLater hb h.2.2.1, cellLater hb h.2.2.2.1, cellLater hb h.2.2.2.2.1, cellLater hb h.2.2.2.2.2.1, cellLater hb h.2.2.2.2.2.2.1, cellLater hb h.2.2.2.2.2.2.2.1, h.2.2.2.2.2.2.2.2.1.later hb, h.2.2.2.2.2.2.2.2.2.trans (hb.mono h.2.2.2.2.2.2.2.2.2.size)⟩
theorem TsR.drew {w0 w : World} {D : Nat} {ad : Nat → Addr} {m : Int} {t b n : Int} {k : Nat} {node other : Int} {name value : ByteArray} (h : TsR w0 D ad m t b n k node other name value w) : TsR w0 D ad m t b n k node other name value w.drew := h.later (Below.refl _ _).drew
theorem TsR.e {w0 w : World} {D : Nat} {ad : Nat → Addr} {m : Int} {t b n : Int} {k : Nat} {node other : Int} {name value : ByteArray} (h : TsR w0 D ad m t b n k node other name value w) : TsE D ad m w := h.2.2.2.2.2.2.2.2.1
theorem TsR.b {w0 w : World} {D : Nat} {ad : Nat → Addr} {m : Int} {t b n : Int} {k : Nat} {node other : Int} {name value : ByteArray} (h : TsR w0 D ad m t b n k node other name value w) : Below w0.heap.size w0 w := h.2.2.2.2.2.2.2.2.2

/-- What is told of the operation, by one number. -/
structure Told (D : Nat) (ad : Nat → Addr) (m : Int) (t b n : Int) (k : Nat) (node other : Int) (name value : ByteArray) (E : Nat) (T : ByteArray) : Prop where
  le : E ≤ 12
  err : ∀ w, Calls Tryz.prog 5 #[.agg #[.int .i64 t, .int .i64 b, .int .i64 n, .int .u8 (k : Int), .int .i64 node, .int .i64 other, .string name, .string value]] w fun e w' => e = .returned (.int .i64 ((E : Nat) : Int)) ∧ Below w.heap.size w w'
  text : ∀ w, TsE D ad m w → Calls Tryz.prog 6 #[.agg #[.int .i64 t, .int .i64 b, .int .i64 n, .int .u8 (k : Int), .int .i64 node, .int .i64 other, .string name, .string value]] w fun e w' => e = .returned (.tuple #[.string T, eV ad E]) ∧ Below w.heap.size w w'
  check : ∀ w, TsE D ad m w → Calls Tryz.prog 8 #[.agg #[.int .i64 t, .int .i64 b, .int .i64 n, .int .u8 (k : Int), .int .i64 node, .int .i64 other, .string name, .string value]] w fun e w' => e = .returned (eV ad E) ∧ Below w.heap.size w w'
theorem told_bad {D : Nat} {ad : Nat → Addr} {m : Int} (t b n : Int) (k : Nat) (node other : Int) (name value : ByteArray) (hn : name.size ≤ 60) (hv : value.size ≤ 60) (h : opE t b n k node other name.data.toList value.data.toList ≠ 0) : Told D ad m t b n k node other name value (opE t b n k node other name.data.toList value.data.toList) ⟨#[]⟩ := by
  refine ⟨opE_le _ _ _ _ _ _ _ _, fun w => rop_any t b n k node other name value w (by omega) (by omega), fun w hE => ?_, fun w hE => opcheck_any t b n k node other name value w hE.txt.op4 (by omega) (by omega)⟩
  have := optext_no (ad := ad) t b n k node other name value w hE.txt (by omega) (by omega) h
  have e : eV ad (opE t b n k node other name.data.toList value.data.toList) = .iface 143 (.pointer (some (ad (opE t b n k node other name.data.toList value.data.toList - 1)))) := by unfold eV; rw [if_neg h]
  rw [e]
  exact this
theorem told_ok {D : Nat} {ad : Nat → Addr} {m : Int} (t b n : Int) (k : Nat) (node other : Int) (name value : ByteArray) (hn : name.size ≤ 60) (hv : value.size ≤ 60) (h : opE t b n k node other name.data.toList value.data.toList = 0) : Told D ad m t b n k node other name value 0 ⟨(opTextL t b n k node other name.data.toList value.data.toList).toArray⟩ := by
  have e : eV ad 0 = .nilIface := rfl
  refine ⟨by omega, fun w => ?_, fun w hE => ?_, fun w hE => ?_⟩
  · have := rop_any t b n k node other name value w (by omega) (by omega)
    rw [h] at this
    exact this
  · rw [e]; exact optext_ok (ad := ad) t b n k node other name value w hE.txt h
  · have := opcheck_any (ad := ad) t b n k node other name value w hE.txt.op4 (by omega) (by omega)
    rw [h] at this
    exact this


set_option maxRecDepth 100000 in
set_option maxHeartbeats 8000000 in
theorem texts_long {D : Nat} {ad : Nat → Addr} {m : Int} (t b n : Int) (k : Nat) (node other : Int) (name value : ByteArray) (s : ByteArray) (w : World) (hE : TsE D ad m w) (h : 60 < name.size ∨ 60 < value.size ∨ 300 < s.size) :
    Calls Tryz.prog 3 #[.agg #[.int .i64 t, .int .i64 b, .int .i64 n, .int .u8 (k : Int), .int .i64 node, .int .i64 other, .string name, .string value], .string s] w fun e w' => e = .returned (.bool true) ∧ Below w.heap.size w w' := by
  have X0 := OpAt.new w t b n k node other name value 25
  have B0 : Below w.heap.size w (w.alloc (.cells #[.int .i64 t, .int .i64 b, .int .i64 n, .int .u8 (k : Int), .int .i64 node, .int .i64 other, .string name, .string value] 25)) := (Below.refl _ _).alloc (Nat.le_refl _) _
  rcases (by omega : 60 < name.size ∨ (name.size ≤ 60 ∧ 60 < value.size) ∨ (name.size ≤ 60 ∧ value.size ≤ 60 ∧ 300 < s.size)) with h1 | ⟨h1, h2⟩ | ⟨h1, h2, h3⟩
  · have d1 : decide (60 < (name.size : Int)) = true := by simp; omega
    clear h
    go_enter Tryz.func3, Tryz.ntmps3
    go_wp2_with fail
    generalize w.alloc (.cells #[.int .i64 t, .int .i64 b, .int .i64 n, .int .u8 (k : Int), .int .i64 node, .int .i64 other, .string name, .string value] 25) = u at X0 B0 ⊢
    refine (written_any (ad := ad) _ (hE.later B0).txt).mono ?_
    rintro e w1 ⟨rfl, hb⟩
    have X1 := X0.later hb
    have B1 : Below w.heap.size w w1 := B0.trans (hb.mono B0.size)
    clear hb X0 B0
    obtain ⟨x0, x1, x2, x3, x4, x5, x6, x7⟩ := id X1
    go_wp2
    go_ret
    exact ⟨rfl, B1⟩
  · have d1 : decide (60 < (name.size : Int)) = false := by simp; omega
    have d2 : decide (60 < (value.size : Int)) = true := by simp; omega
    clear h
    go_enter Tryz.func3, Tryz.ntmps3
    go_wp2_with fail
    generalize w.alloc (.cells #[.int .i64 t, .int .i64 b, .int .i64 n, .int .u8 (k : Int), .int .i64 node, .int .i64 other, .string name, .string value] 25) = u at X0 B0 ⊢
    refine (written_any (ad := ad) _ (hE.later B0).txt).mono ?_
    rintro e w1 ⟨rfl, hb⟩
    have X1 := X0.later hb
    have B1 : Below w.heap.size w w1 := B0.trans (hb.mono B0.size)
    clear hb X0 B0
    obtain ⟨x0, x1, x2, x3, x4, x5, x6, x7⟩ := id X1
    go_wp2
    go_ret
    exact ⟨rfl, B1⟩
  · have d1 : decide (60 < (name.size : Int)) = false := by simp; omega
    have d2 : decide (60 < (value.size : Int)) = false := by simp; omega
    have d3 : decide (300 < (s.size : Int)) = true := by simp; omega
    clear h
    go_enter Tryz.func3, Tryz.ntmps3
    go_wp2_with fail
    generalize w.alloc (.cells #[.int .i64 t, .int .i64 b, .int .i64 n, .int .u8 (k : Int), .int .i64 node, .int .i64 other, .string name, .string value] 25) = u at X0 B0 ⊢
    refine (written_any (ad := ad) _ (hE.later B0).txt).mono ?_
    rintro e w1 ⟨rfl, hb⟩
    have X1 := X0.later hb
    have B1 : Below w.heap.size w w1 := B0.trans (hb.mono B0.size)
    clear hb X0 B0
    obtain ⟨x0, x1, x2, x3, x4, x5, x6, x7⟩ := id X1
    go_wp2
    go_ret
    exact ⟨rfl, B1⟩

theorem cellsKeep {w w' : World} {a : Nat} {t b n : Int} {k : Nat} {node other : Int} {name value : ByteArray} (hb : Below w.heap.size w w') (h : OpAt w a t b n k node other name value) (o : Obj) : OpAt (w'.alloc o) a t b n k node other name value := (h.later hb).later ((Below.refl _ _).alloc (Nat.le_refl _) _)
theorem codeR_le (r : Option Parts) : codeR r ≤ 12 := by
  unfold codeR
  split
  · omega
  · exact opE_le _ _ _ _ _ _ _ _

set_option maxRecDepth 100000 in
set_option maxHeartbeats 8000000 in
theorem texts_bb {D : Nat} {ad : Nat → Addr} {m : Int} (t b n : Int) (k : Nat) (node other : Int) (name value : ByteArray) (s : ByteArray) (w : World) (hE : TsE D ad m w) (hs : name.size ≤ 60 ∧ value.size ≤ 60 ∧ s.size ≤ 300) (ha : opE t b n k node other name.data.toList value.data.toList ≠ 0) (hc : codeR (partsL s.data.toList) ≠ 0) :
    Calls Tryz.prog 3 #[.agg #[.int .i64 t, .int .i64 b, .int .i64 n, .int .u8 (k : Int), .int .i64 node, .int .i64 other, .string name, .string value], .string s] w fun e w' => e = .returned (.bool true) ∧ Below w.heap.size w w' := by
  have X0 := OpAt.new w t b n k node other name value 25
  have B0 : Below w.heap.size w (w.alloc (.cells #[.int .i64 t, .int .i64 b, .int .i64 n, .int .u8 (k : Int), .int .i64 node, .int .i64 other, .string name, .string value] 25)) := (Below.refl _ _).alloc (Nat.le_refl _) _
  obtain ⟨s1, s2, s3⟩ := hs
  have d1 : decide (60 < (name.size : Int)) = false := by simp; omega
  have d2 : decide (60 < (value.size : Int)) = false := by simp; omega
  have d3 : decide (300 < (s.size : Int)) = false := by simp; omega
  obtain ⟨z, hz⟩ : ∃ z : Int, z = if 1 ≤ t ∧ t ≤ 1073741824 ∧ 0 ≤ b ∧ b < 4 then 4 * t + b else 0 := ⟨_, rfl⟩
  have HZ := Lib.hid hz
  clear hz
  have HT := Lib.hid (told_bad (D := D) (ad := ad) (m := m) t b n k node other name value s1 s2 ha)
  generalize opE t b n k node other name.data.toList value.data.toList = E at ha HT
  have f1 : decide (0 < E) = true := by simp; omega
  have f2 : 0 < E := by omega
  clear ha
  have HBB := Lib.hid (both_bad (D := D) (ad := ad) (m := m) s s3 hc)
  have hc12 : codeR (partsL s.data.toList) ≤ 12 := codeR_le _
  generalize codeR (partsL s.data.toList) = c2 at hc HBB hc12
  have e1 : decide (0 < c2) = true := by simp; omega
  have e2 : 0 < c2 := by omega
  clear hc
  go_enter Tryz.func3, Tryz.ntmps3
  go_wp2_with fail
  generalize w.alloc (.cells #[.int .i64 t, .int .i64 b, .int .i64 n, .int .u8 (k : Int), .int .i64 node, .int .i64 other, .string name, .string value] 25) = u at X0 B0 ⊢
  refine (written_any (ad := ad) _ (hE.later B0).txt).mono ?_
  rintro e w1 ⟨rfl, hb⟩
  have X1 := X0.later hb
  have B1 : Below w.heap.size w w1 := B0.trans (hb.mono B0.size)
  clear hb X0 B0
  obtain ⟨x0, x1, x2, x3, x4, x5, x6, x7⟩ := id X1
  go_wp2_with fail
  refine (HT.out.err _).mono ?_
  rintro e w2 ⟨rfl, hb⟩
  have X2 := X1.later hb
  have B2 : Below w.heap.size w w2 := B1.trans (hb.mono B1.size)
  clear hb X1 B1 x0 x1 x2 x3 x4 x5 x6 x7
  obtain ⟨x0, x1, x2, x3, x4, x5, x6, x7⟩ := id X2
  go_wp2_with fail
  refine (HT.out.text _ (hE.later B2)).mono ?_
  rintro e w3 ⟨rfl, hb⟩
  have X3 := X2.later hb
  have B3 : Below w.heap.size w w3 := B2.trans (hb.mono B2.size)
  clear hb X2 B2 x0 x1 x2 x3 x4 x5 x6 x7
  have Q0 : TsR w D ad m t b n k node other name value w3 := ⟨X3.c0, X3.c1, X3.c2, X3.c3, X3.c4, X3.c5, X3.c6, X3.c7, hE.later B3, B3⟩
  clear X3 B3
  obtain ⟨A0, A1, A2, A3, A4, A5, A6, A7, A8, A9⟩ := id Q0
  go_wp2_with fail
  go_region_held3 (fun w' => w'.cell? ⟨w.heap.size, 0, none⟩ = some (.int .i64 t) ∧ w'.cell? ⟨w.heap.size, 1, none⟩ = some (.int .i64 b) ∧ w'.cell? ⟨w.heap.size, 2, none⟩ = some (.int .i64 n) ∧ w'.cell? ⟨w.heap.size, 3, none⟩ = some (.int .u8 (k : Int)) ∧ w'.cell? ⟨w.heap.size, 4, none⟩ = some (.int .i64 node) ∧ w'.cell? ⟨w.heap.size, 5, none⟩ = some (.int .i64 other) ∧ w'.cell? ⟨w.heap.size, 6, none⟩ = some (.string name) ∧ w'.cell? ⟨w.heap.size, 7, none⟩ = some (.string value) ∧ TsE D ad m w' ∧ Below w.heap.size w w')
    (first
      | with_reducible assumption
      | with_reducible exact TsR.drew Q0
      | with_reducible exact TsR.later (by assumption) (by assumption))
    (first
      | (go_at_call 8; refine (HT.out.check _ (TsR.e (by assumption))).mono ?_; rintro e w' ⟨rfl, hb⟩)
      | (go_at_call 7; refine (coded_eV E _ (TsR.e (by assumption)) HT.out.le).mono ?_; rintro e w' ⟨rfl, hb⟩)
      | (go_at_call 9; refine (opid_any (ad := ad) t b n k node other name value _ (TsR.e (by assumption)).txt.op4 z HZ.out).mono ?_; rintro e w' ⟨rfl, hb⟩)
      | (go_at_call 10; refine (idOf_any t b _ z HZ.out).mono ?_; rintro e w' ⟨rfl, hb⟩))
  have Q1 : TsR w D ad m t b n k node other name value w' := by assumption
  clear Q0 A0 A1 A2 A3 A4 A5 A6 A7 A8 A9
  have Z1 := Q1.b
  go_wp2_with fail
  refine (HBB.out.1 _ (hE.later Z1)).mono ?_
  rintro e y1 ⟨rfl, hb⟩
  have C1 : Below w.heap.size w y1 := Z1.trans (hb.mono Z1.size)
  clear hb
  go_wp2_with fail
  refine (HBB.out.2 _).mono ?_
  rintro e y2 ⟨rfl, hb⟩
  have hn1 := fun o : Obj => cellsKeep hb (OpAt.new y1 0 0 0 0 0 0 ⟨#[]⟩ ⟨#[]⟩ 25) o
  have C2 : Below w.heap.size w y2 := (C1.alloc C1.size _).trans (hb.mono (by have := C1.size; simp; omega))
  have hlt1 : y1.heap.size < y2.heap.size := by have := hb.size; simp at this; omega
  clear hb
  have K1 := hn1 (.cells #[.int .i64 0, .int .i64 0, .int .i64 0, .int .u8 0, .int .i64 0, .int .i64 0, .string ⟨#[]⟩, .string ⟨#[]⟩] 25)
  have K2 : OpAt (y2.alloc (.cells #[.int .i64 0, .int .i64 0, .int .i64 0, .int .u8 0, .int .i64 0, .int .i64 0, .string ⟨#[]⟩, .string ⟨#[]⟩] 25)) y2.heap.size 0 0 0 0 0 0 ⟨#[]⟩ ⟨#[]⟩ := OpAt.new y2 0 0 0 0 0 0 ⟨#[]⟩ ⟨#[]⟩ 25
  have C3 : Below w.heap.size w (y2.alloc (.cells #[.int .i64 0, .int .i64 0, .int .i64 0, .int .u8 0, .int .i64 0, .int .i64 0, .string ⟨#[]⟩, .string ⟨#[]⟩] 25)) := C2.alloc C2.size _
  clear hn1 C2
  go_wp2_with fail
  generalize y2.alloc (.cells #[.int .i64 0, .int .i64 0, .int .i64 0, .int .u8 0, .int .i64 0, .int .i64 0, .string ⟨#[]⟩, .string ⟨#[]⟩] 25) = y3 at K1 K2 C3 ⊢
  generalize y2.heap.size = k2 at K2 ⊢
  refine (coded_eV c2 _ (hE.later C3) hc12).mono ?_
  rintro e y4 ⟨rfl, hb⟩
  have K3 := K1.later hb
  have K4 := K2.later hb
  have C4 : Below w.heap.size w y4 := C3.trans (hb.mono C3.size)
  clear hb K1 K2 C3
  obtain ⟨p0, p1, p2, p3, p4, p5, p6, p7⟩ := K3
  obtain ⟨r0, r1, r2, r3, r4, r5, r6, r7⟩ := K4
  go_wp2
  go_ret
  exact ⟨rfl, C4⟩

set_option maxRecDepth 100000 in
set_option maxHeartbeats 8000000 in
theorem texts_bo {D : Nat} {ad : Nat → Addr} {m : Int} (t b n : Int) (k : Nat) (node other : Int) (name value : ByteArray) (s : ByteArray) (w : World) (hE : TsE D ad m w) (hs : name.size ≤ 60 ∧ value.size ≤ 60 ∧ s.size ≤ 300) (ha : opE t b n k node other name.data.toList value.data.toList ≠ 0) (hc : codeR (partsL s.data.toList) = 0) :
    Calls Tryz.prog 3 #[.agg #[.int .i64 t, .int .i64 b, .int .i64 n, .int .u8 (k : Int), .int .i64 node, .int .i64 other, .string name, .string value], .string s] w fun e w' => e = .returned (.bool true) ∧ Below w.heap.size w w' := by
  have X0 := OpAt.new w t b n k node other name value 25
  have B0 : Below w.heap.size w (w.alloc (.cells #[.int .i64 t, .int .i64 b, .int .i64 n, .int .u8 (k : Int), .int .i64 node, .int .i64 other, .string name, .string value] 25)) := (Below.refl _ _).alloc (Nat.le_refl _) _
  obtain ⟨s1, s2, s3⟩ := hs
  have d1 : decide (60 < (name.size : Int)) = false := by simp; omega
  have d2 : decide (60 < (value.size : Int)) = false := by simp; omega
  have d3 : decide (300 < (s.size : Int)) = false := by simp; omega
  obtain ⟨z, hz⟩ : ∃ z : Int, z = if 1 ≤ t ∧ t ≤ 1073741824 ∧ 0 ≤ b ∧ b < 4 then 4 * t + b else 0 := ⟨_, rfl⟩
  have HZ := Lib.hid hz
  clear hz
  have HT := Lib.hid (told_bad (D := D) (ad := ad) (m := m) t b n k node other name value s1 s2 ha)
  generalize opE t b n k node other name.data.toList value.data.toList = E at ha HT
  have f1 : decide (0 < E) = true := by simp; omega
  have f2 : 0 < E := by omega
  clear ha
  obtain ⟨c, n1, n2, n3, n4, n5, nm, v, hop, htx, hb1, hb2⟩ := both_ok (D := D) (ad := ad) (m := m) s s3 hc
  have HBB := Lib.hid (And.intro hb1 hb2)
  have htt : ∀ w, TsE D ad m w → Calls Tryz.prog 6 #[.agg #[.int .i64 (n1 : Int), .int .i64 (n2 : Int), .int .i64 (n3 : Int), .int .u8 (c.toNat : Int), .int .i64 (n4 : Int), .int .i64 (n5 : Int), .string ⟨nm.toArray⟩, .string ⟨v.toArray⟩]] w fun e w' => e = .returned (.tuple #[.string s, .nilIface]) ∧ Below w.heap.size w w' := fun w hw => by
    have := optext_ok (ad := ad) n1 n2 n3 c.toNat n4 n5 ⟨nm.toArray⟩ ⟨v.toArray⟩ w hw.txt hop
    have hd1 : (⟨nm.toArray⟩ : ByteArray).data.toList = nm := rfl
    have hd2 : (⟨v.toArray⟩ : ByteArray).data.toList = v := rfl
    rw [hd1, hd2, htx, arr_data] at this
    exact this
  have HTT := Lib.hid htt
  clear hc hop htx hb1 hb2 htt
  go_enter Tryz.func3, Tryz.ntmps3
  go_wp2_with fail
  generalize w.alloc (.cells #[.int .i64 t, .int .i64 b, .int .i64 n, .int .u8 (k : Int), .int .i64 node, .int .i64 other, .string name, .string value] 25) = u at X0 B0 ⊢
  refine (written_any (ad := ad) _ (hE.later B0).txt).mono ?_
  rintro e w1 ⟨rfl, hb⟩
  have X1 := X0.later hb
  have B1 : Below w.heap.size w w1 := B0.trans (hb.mono B0.size)
  clear hb X0 B0
  obtain ⟨x0, x1, x2, x3, x4, x5, x6, x7⟩ := id X1
  go_wp2_with fail
  refine (HT.out.err _).mono ?_
  rintro e w2 ⟨rfl, hb⟩
  have X2 := X1.later hb
  have B2 : Below w.heap.size w w2 := B1.trans (hb.mono B1.size)
  clear hb X1 B1 x0 x1 x2 x3 x4 x5 x6 x7
  obtain ⟨x0, x1, x2, x3, x4, x5, x6, x7⟩ := id X2
  go_wp2_with fail
  refine (HT.out.text _ (hE.later B2)).mono ?_
  rintro e w3 ⟨rfl, hb⟩
  have X3 := X2.later hb
  have B3 : Below w.heap.size w w3 := B2.trans (hb.mono B2.size)
  clear hb X2 B2 x0 x1 x2 x3 x4 x5 x6 x7
  have Q0 : TsR w D ad m t b n k node other name value w3 := ⟨X3.c0, X3.c1, X3.c2, X3.c3, X3.c4, X3.c5, X3.c6, X3.c7, hE.later B3, B3⟩
  clear X3 B3
  obtain ⟨A0, A1, A2, A3, A4, A5, A6, A7, A8, A9⟩ := id Q0
  go_wp2_with fail
  go_region_held3 (fun w' => w'.cell? ⟨w.heap.size, 0, none⟩ = some (.int .i64 t) ∧ w'.cell? ⟨w.heap.size, 1, none⟩ = some (.int .i64 b) ∧ w'.cell? ⟨w.heap.size, 2, none⟩ = some (.int .i64 n) ∧ w'.cell? ⟨w.heap.size, 3, none⟩ = some (.int .u8 (k : Int)) ∧ w'.cell? ⟨w.heap.size, 4, none⟩ = some (.int .i64 node) ∧ w'.cell? ⟨w.heap.size, 5, none⟩ = some (.int .i64 other) ∧ w'.cell? ⟨w.heap.size, 6, none⟩ = some (.string name) ∧ w'.cell? ⟨w.heap.size, 7, none⟩ = some (.string value) ∧ TsE D ad m w' ∧ Below w.heap.size w w')
    (first
      | with_reducible assumption
      | with_reducible exact TsR.drew Q0
      | with_reducible exact TsR.later (by assumption) (by assumption))
    (first
      | (go_at_call 8; refine (HT.out.check _ (TsR.e (by assumption))).mono ?_; rintro e w' ⟨rfl, hb⟩)
      | (go_at_call 7; refine (coded_eV E _ (TsR.e (by assumption)) HT.out.le).mono ?_; rintro e w' ⟨rfl, hb⟩)
      | (go_at_call 9; refine (opid_any (ad := ad) t b n k node other name value _ (TsR.e (by assumption)).txt.op4 z HZ.out).mono ?_; rintro e w' ⟨rfl, hb⟩)
      | (go_at_call 10; refine (idOf_any t b _ z HZ.out).mono ?_; rintro e w' ⟨rfl, hb⟩))
  have Q1 : TsR w D ad m t b n k node other name value w' := by assumption
  clear Q0 A0 A1 A2 A3 A4 A5 A6 A7 A8 A9
  have Z1 := Q1.b
  go_wp2_with fail
  refine (HBB.out.1 _ (hE.later Z1)).mono ?_
  rintro e y1 ⟨rfl, hb⟩
  have C1 : Below w.heap.size w y1 := Z1.trans (hb.mono Z1.size)
  clear hb
  go_wp2_with fail
  refine (HBB.out.2 _).mono ?_
  rintro e y2 ⟨rfl, hb⟩
  have hn1 := fun o : Obj => cellsKeep hb (OpAt.new y1 n1 n2 n3 c.toNat n4 n5 ⟨nm.toArray⟩ ⟨v.toArray⟩ 25) o
  have C2 : Below w.heap.size w y2 := (C1.alloc C1.size _).trans (hb.mono (by have := C1.size; simp; omega))
  have hlt1 : y1.heap.size < y2.heap.size := by have := hb.size; simp at this; omega
  clear hb
  have K1 := hn1 (.cells #[.int .i64 (n1 : Int), .int .i64 (n2 : Int), .int .i64 (n3 : Int), .int .u8 (c.toNat : Int), .int .i64 (n4 : Int), .int .i64 (n5 : Int), .string ⟨nm.toArray⟩, .string ⟨v.toArray⟩] 25)
  have K2 := OpAt.new y2 n1 n2 n3 c.toNat n4 n5 ⟨nm.toArray⟩ ⟨v.toArray⟩ 25
  have C3 : Below w.heap.size w (y2.alloc (.cells #[.int .i64 (n1 : Int), .int .i64 (n2 : Int), .int .i64 (n3 : Int), .int .u8 (c.toNat : Int), .int .i64 (n4 : Int), .int .i64 (n5 : Int), .string ⟨nm.toArray⟩, .string ⟨v.toArray⟩] 25)) := C2.alloc C2.size _
  clear hn1 C2
  go_wp2_with fail
  generalize y2.alloc (.cells #[.int .i64 (n1 : Int), .int .i64 (n2 : Int), .int .i64 (n3 : Int), .int .u8 (c.toNat : Int), .int .i64 (n4 : Int), .int .i64 (n5 : Int), .string ⟨nm.toArray⟩, .string ⟨v.toArray⟩] 25) = y3 at K1 K2 C3 ⊢
  generalize y2.heap.size = k2 at K2 ⊢
  have e00 : eV ad 0 = .nilIface := rfl
  rw [← e00]
  clear e00
  refine (coded_eV 0 _ (hE.later C3) (by omega)).mono ?_
  rintro e y4 ⟨rfl, hb⟩
  have K3 := K1.later hb
  have K4 := K2.later hb
  have C4 : Below w.heap.size w y4 := C3.trans (hb.mono C3.size)
  clear hb K1 K2 C3
  obtain ⟨p0, p1, p2, p3, p4, p5, p6, p7⟩ := K3
  obtain ⟨r0, r1, r2, r3, r4, r5, r6, r7⟩ := K4
  have hself := eqOp n1 n2 n3 c.toNat n4 n5 ⟨nm.toArray⟩ ⟨v.toArray⟩ n1 n2 n3 c.toNat n4 n5 ⟨nm.toArray⟩ ⟨v.toArray⟩
  rw [eqB_self] at hself
  go_wp2_with fail
  refine (HTT.out _ (hE.later C4)).mono ?_
  rintro e y5 ⟨rfl, hb⟩
  have C5 : Below w.heap.size w y5 := C4.trans (hb.mono C4.size)
  clear hb p0 p1 p2 p3 p4 p5 p6 p7 r0 r1 r2 r3 r4 r5 r6 r7 C4
  go_wp2
  go_ret
  exact ⟨rfl, C5⟩

set_option maxRecDepth 100000 in
set_option maxHeartbeats 8000000 in
theorem texts_ob {D : Nat} {ad : Nat → Addr} {m : Int} (t b n : Int) (k : Nat) (node other : Int) (name value : ByteArray) (s : ByteArray) (w : World) (hE : TsE D ad m w) (hs : name.size ≤ 60 ∧ value.size ≤ 60 ∧ s.size ≤ 300) (ha : opE t b n k node other name.data.toList value.data.toList = 0) (hc : codeR (partsL s.data.toList) ≠ 0) :
    Calls Tryz.prog 3 #[.agg #[.int .i64 t, .int .i64 b, .int .i64 n, .int .u8 (k : Int), .int .i64 node, .int .i64 other, .string name, .string value], .string s] w fun e w' => e = .returned (.bool true) ∧ Below w.heap.size w w' := by
  have X0 := OpAt.new w t b n k node other name value 25
  have B0 : Below w.heap.size w (w.alloc (.cells #[.int .i64 t, .int .i64 b, .int .i64 n, .int .u8 (k : Int), .int .i64 node, .int .i64 other, .string name, .string value] 25)) := (Below.refl _ _).alloc (Nat.le_refl _) _
  obtain ⟨s1, s2, s3⟩ := hs
  have d1 : decide (60 < (name.size : Int)) = false := by simp; omega
  have d2 : decide (60 < (value.size : Int)) = false := by simp; omega
  have d3 : decide (300 < (s.size : Int)) = false := by simp; omega
  obtain ⟨z, hz⟩ : ∃ z : Int, z = if 1 ≤ t ∧ t ≤ 1073741824 ∧ 0 ≤ b ∧ b < 4 then 4 * t + b else 0 := ⟨_, rfl⟩
  have HZ := Lib.hid hz
  clear hz
  have HT := Lib.hid (told_ok (D := D) (ad := ad) (m := m) t b n k node other name value s1 s2 ha)
  have HRT := Lib.hid (rtext_any t b n k node other name value · ha)
  have HRB := Lib.hid (fun w h => read_back (ad := ad) (m := m) t b n k node other name value w h ha)
  generalize opTextL t b n k node other name.data.toList value.data.toList = TA at HT HRT HRB
  generalize hE0 : (0 : Nat) = E at HT
  have f1 : decide (0 < E) = false := by simp; omega
  have f2 : ¬ 0 < E := by omega
  clear ha hE0
  have HBB := Lib.hid (both_bad (D := D) (ad := ad) (m := m) s s3 hc)
  have hc12 : codeR (partsL s.data.toList) ≤ 12 := codeR_le _
  generalize codeR (partsL s.data.toList) = c2 at hc HBB hc12
  have e1 : decide (0 < c2) = true := by simp; omega
  have e2 : 0 < c2 := by omega
  clear hc
  go_enter Tryz.func3, Tryz.ntmps3
  go_wp2_with fail
  generalize w.alloc (.cells #[.int .i64 t, .int .i64 b, .int .i64 n, .int .u8 (k : Int), .int .i64 node, .int .i64 other, .string name, .string value] 25) = u at X0 B0 ⊢
  refine (written_any (ad := ad) _ (hE.later B0).txt).mono ?_
  rintro e w1 ⟨rfl, hb⟩
  have X1 := X0.later hb
  have B1 : Below w.heap.size w w1 := B0.trans (hb.mono B0.size)
  clear hb X0 B0
  obtain ⟨x0, x1, x2, x3, x4, x5, x6, x7⟩ := id X1
  go_wp2_with fail
  refine (HT.out.err _).mono ?_
  rintro e w2 ⟨rfl, hb⟩
  have X2 := X1.later hb
  have B2 : Below w.heap.size w w2 := B1.trans (hb.mono B1.size)
  clear hb X1 B1 x0 x1 x2 x3 x4 x5 x6 x7
  obtain ⟨x0, x1, x2, x3, x4, x5, x6, x7⟩ := id X2
  go_wp2_with fail
  refine (HT.out.text _ (hE.later B2)).mono ?_
  rintro e w3 ⟨rfl, hb⟩
  have X3 := X2.later hb
  have B3 : Below w.heap.size w w3 := B2.trans (hb.mono B2.size)
  clear hb X2 B2 x0 x1 x2 x3 x4 x5 x6 x7
  have Q0 : TsR w D ad m t b n k node other name value w3 := ⟨X3.c0, X3.c1, X3.c2, X3.c3, X3.c4, X3.c5, X3.c6, X3.c7, hE.later B3, B3⟩
  clear X3 B3
  obtain ⟨A0, A1, A2, A3, A4, A5, A6, A7, A8, A9⟩ := id Q0
  go_wp2_with fail
  go_region_held3 (fun w' => w'.cell? ⟨w.heap.size, 0, none⟩ = some (.int .i64 t) ∧ w'.cell? ⟨w.heap.size, 1, none⟩ = some (.int .i64 b) ∧ w'.cell? ⟨w.heap.size, 2, none⟩ = some (.int .i64 n) ∧ w'.cell? ⟨w.heap.size, 3, none⟩ = some (.int .u8 (k : Int)) ∧ w'.cell? ⟨w.heap.size, 4, none⟩ = some (.int .i64 node) ∧ w'.cell? ⟨w.heap.size, 5, none⟩ = some (.int .i64 other) ∧ w'.cell? ⟨w.heap.size, 6, none⟩ = some (.string name) ∧ w'.cell? ⟨w.heap.size, 7, none⟩ = some (.string value) ∧ TsE D ad m w' ∧ Below w.heap.size w w')
    (first
      | with_reducible assumption
      | with_reducible exact TsR.drew Q0
      | with_reducible exact TsR.later (by assumption) (by assumption))
    (first
      | (go_at_call 8; refine (HT.out.check _ (TsR.e (by assumption))).mono ?_; rintro e w' ⟨rfl, hb⟩)
      | (go_at_call 7; refine (coded_eV E _ (TsR.e (by assumption)) HT.out.le).mono ?_; rintro e w' ⟨rfl, hb⟩)
      | (go_at_call 9; refine (opid_any (ad := ad) t b n k node other name value _ (TsR.e (by assumption)).txt.op4 z HZ.out).mono ?_; rintro e w' ⟨rfl, hb⟩)
      | (go_at_call 10; refine (idOf_any t b _ z HZ.out).mono ?_; rintro e w' ⟨rfl, hb⟩))
  have Q1 : TsR w D ad m t b n k node other name value w' := by assumption
  clear Q0 A0 A1 A2 A3 A4 A5 A6 A7 A8 A9
  go_wp2_with fail
  refine (HRB.out _ ⟨Q1.e.txt, Q1.e.max⟩).mono ?_
  rintro e w5 ⟨rfl, hb⟩
  have Q5 := Q1.later hb
  clear hb Q1
  have Q6 := Q5.later ((Below.refl _ _).alloc (Nat.le_refl _) (.cells #[.int .i64 t, .int .i64 b, .int .i64 n, .int .u8 (k : Int), .int .i64 node, .int .i64 other, .string name, .string value] 25))
  have N6 := OpAt.new w5 t b n k node other name value 25
  clear Q5
  obtain ⟨x0, x1, x2, x3, x4, x5, x6, x7, -, -⟩ := id Q6
  go_wp2_with fail
  generalize w5.alloc (.cells #[.int .i64 t, .int .i64 b, .int .i64 n, .int .u8 (k : Int), .int .i64 node, .int .i64 other, .string name, .string value] 25) = w6 at Q6 N6 x0 x1 x2 x3 x4 x5 x6 x7 ⊢
  generalize w5.heap.size = k5 at N6 ⊢
  refine (HRT.out _).mono ?_
  rintro e w7 ⟨rfl, hb⟩
  have Q7 := Q6.later hb
  have N7 := N6.later hb
  clear hb Q6 N6 x0 x1 x2 x3 x4 x5 x6 x7
  obtain ⟨x0, x1, x2, x3, x4, x5, x6, x7, -, Z7⟩ := id Q7
  obtain ⟨g0, g1, g2, g3, g4, g5, g6, g7⟩ := N7
  have hsa := eqOp t b n k node other name value t b n k node other name value
  rw [eqB_self] at hsa
  go_wp2_with fail
  refine (HBB.out.1 _ (hE.later Z7)).mono ?_
  rintro e y1 ⟨rfl, hb⟩
  have C1 : Below w.heap.size w y1 := Z7.trans (hb.mono Z7.size)
  clear hb
  go_wp2_with fail
  refine (HBB.out.2 _).mono ?_
  rintro e y2 ⟨rfl, hb⟩
  have hn1 := fun o : Obj => cellsKeep hb (OpAt.new y1 0 0 0 0 0 0 ⟨#[]⟩ ⟨#[]⟩ 25) o
  have C2 : Below w.heap.size w y2 := (C1.alloc C1.size _).trans (hb.mono (by have := C1.size; simp; omega))
  have hlt1 : y1.heap.size < y2.heap.size := by have := hb.size; simp at this; omega
  clear hb
  have K1 := hn1 (.cells #[.int .i64 0, .int .i64 0, .int .i64 0, .int .u8 0, .int .i64 0, .int .i64 0, .string ⟨#[]⟩, .string ⟨#[]⟩] 25)
  have K2 : OpAt (y2.alloc (.cells #[.int .i64 0, .int .i64 0, .int .i64 0, .int .u8 0, .int .i64 0, .int .i64 0, .string ⟨#[]⟩, .string ⟨#[]⟩] 25)) y2.heap.size 0 0 0 0 0 0 ⟨#[]⟩ ⟨#[]⟩ := OpAt.new y2 0 0 0 0 0 0 ⟨#[]⟩ ⟨#[]⟩ 25
  have C3 : Below w.heap.size w (y2.alloc (.cells #[.int .i64 0, .int .i64 0, .int .i64 0, .int .u8 0, .int .i64 0, .int .i64 0, .string ⟨#[]⟩, .string ⟨#[]⟩] 25)) := C2.alloc C2.size _
  clear hn1 C2
  go_wp2_with fail
  generalize y2.alloc (.cells #[.int .i64 0, .int .i64 0, .int .i64 0, .int .u8 0, .int .i64 0, .int .i64 0, .string ⟨#[]⟩, .string ⟨#[]⟩] 25) = y3 at K1 K2 C3 ⊢
  generalize y2.heap.size = k2 at K2 ⊢
  refine (coded_eV c2 _ (hE.later C3) hc12).mono ?_
  rintro e y4 ⟨rfl, hb⟩
  have K3 := K1.later hb
  have K4 := K2.later hb
  have C4 : Below w.heap.size w y4 := C3.trans (hb.mono C3.size)
  clear hb K1 K2 C3
  obtain ⟨p0, p1, p2, p3, p4, p5, p6, p7⟩ := K3
  obtain ⟨r0, r1, r2, r3, r4, r5, r6, r7⟩ := K4
  go_wp2
  go_ret
  exact ⟨rfl, C4⟩

set_option maxRecDepth 100000 in
set_option maxHeartbeats 8000000 in
theorem texts_oo {D : Nat} {ad : Nat → Addr} {m : Int} (t b n : Int) (k : Nat) (node other : Int) (name value : ByteArray) (s : ByteArray) (w : World) (hE : TsE D ad m w) (hs : name.size ≤ 60 ∧ value.size ≤ 60 ∧ s.size ≤ 300) (ha : opE t b n k node other name.data.toList value.data.toList = 0) (hc : codeR (partsL s.data.toList) = 0) :
    Calls Tryz.prog 3 #[.agg #[.int .i64 t, .int .i64 b, .int .i64 n, .int .u8 (k : Int), .int .i64 node, .int .i64 other, .string name, .string value], .string s] w fun e w' => e = .returned (.bool true) ∧ Below w.heap.size w w' := by
  have X0 := OpAt.new w t b n k node other name value 25
  have B0 : Below w.heap.size w (w.alloc (.cells #[.int .i64 t, .int .i64 b, .int .i64 n, .int .u8 (k : Int), .int .i64 node, .int .i64 other, .string name, .string value] 25)) := (Below.refl _ _).alloc (Nat.le_refl _) _
  obtain ⟨s1, s2, s3⟩ := hs
  have d1 : decide (60 < (name.size : Int)) = false := by simp; omega
  have d2 : decide (60 < (value.size : Int)) = false := by simp; omega
  have d3 : decide (300 < (s.size : Int)) = false := by simp; omega
  obtain ⟨z, hz⟩ : ∃ z : Int, z = if 1 ≤ t ∧ t ≤ 1073741824 ∧ 0 ≤ b ∧ b < 4 then 4 * t + b else 0 := ⟨_, rfl⟩
  have HZ := Lib.hid hz
  clear hz
  have HT := Lib.hid (told_ok (D := D) (ad := ad) (m := m) t b n k node other name value s1 s2 ha)
  have HRT := Lib.hid (rtext_any t b n k node other name value · ha)
  have HRB := Lib.hid (fun w h => read_back (ad := ad) (m := m) t b n k node other name value w h ha)
  generalize opTextL t b n k node other name.data.toList value.data.toList = TA at HT HRT HRB
  generalize hE0 : (0 : Nat) = E at HT
  have f1 : decide (0 < E) = false := by simp; omega
  have f2 : ¬ 0 < E := by omega
  clear ha hE0
  obtain ⟨c, n1, n2, n3, n4, n5, nm, v, hop, htx, hb1, hb2⟩ := both_ok (D := D) (ad := ad) (m := m) s s3 hc
  have HBB := Lib.hid (And.intro hb1 hb2)
  have htt : ∀ w, TsE D ad m w → Calls Tryz.prog 6 #[.agg #[.int .i64 (n1 : Int), .int .i64 (n2 : Int), .int .i64 (n3 : Int), .int .u8 (c.toNat : Int), .int .i64 (n4 : Int), .int .i64 (n5 : Int), .string ⟨nm.toArray⟩, .string ⟨v.toArray⟩]] w fun e w' => e = .returned (.tuple #[.string s, .nilIface]) ∧ Below w.heap.size w w' := fun w hw => by
    have := optext_ok (ad := ad) n1 n2 n3 c.toNat n4 n5 ⟨nm.toArray⟩ ⟨v.toArray⟩ w hw.txt hop
    have hd1 : (⟨nm.toArray⟩ : ByteArray).data.toList = nm := rfl
    have hd2 : (⟨v.toArray⟩ : ByteArray).data.toList = v := rfl
    rw [hd1, hd2, htx, arr_data] at this
    exact this
  have HTT := Lib.hid htt
  clear hc hop htx hb1 hb2 htt
  go_enter Tryz.func3, Tryz.ntmps3
  go_wp2_with fail
  generalize w.alloc (.cells #[.int .i64 t, .int .i64 b, .int .i64 n, .int .u8 (k : Int), .int .i64 node, .int .i64 other, .string name, .string value] 25) = u at X0 B0 ⊢
  refine (written_any (ad := ad) _ (hE.later B0).txt).mono ?_
  rintro e w1 ⟨rfl, hb⟩
  have X1 := X0.later hb
  have B1 : Below w.heap.size w w1 := B0.trans (hb.mono B0.size)
  clear hb X0 B0
  obtain ⟨x0, x1, x2, x3, x4, x5, x6, x7⟩ := id X1
  go_wp2_with fail
  refine (HT.out.err _).mono ?_
  rintro e w2 ⟨rfl, hb⟩
  have X2 := X1.later hb
  have B2 : Below w.heap.size w w2 := B1.trans (hb.mono B1.size)
  clear hb X1 B1 x0 x1 x2 x3 x4 x5 x6 x7
  obtain ⟨x0, x1, x2, x3, x4, x5, x6, x7⟩ := id X2
  go_wp2_with fail
  refine (HT.out.text _ (hE.later B2)).mono ?_
  rintro e w3 ⟨rfl, hb⟩
  have X3 := X2.later hb
  have B3 : Below w.heap.size w w3 := B2.trans (hb.mono B2.size)
  clear hb X2 B2 x0 x1 x2 x3 x4 x5 x6 x7
  have Q0 : TsR w D ad m t b n k node other name value w3 := ⟨X3.c0, X3.c1, X3.c2, X3.c3, X3.c4, X3.c5, X3.c6, X3.c7, hE.later B3, B3⟩
  clear X3 B3
  obtain ⟨A0, A1, A2, A3, A4, A5, A6, A7, A8, A9⟩ := id Q0
  go_wp2_with fail
  go_region_held3 (fun w' => w'.cell? ⟨w.heap.size, 0, none⟩ = some (.int .i64 t) ∧ w'.cell? ⟨w.heap.size, 1, none⟩ = some (.int .i64 b) ∧ w'.cell? ⟨w.heap.size, 2, none⟩ = some (.int .i64 n) ∧ w'.cell? ⟨w.heap.size, 3, none⟩ = some (.int .u8 (k : Int)) ∧ w'.cell? ⟨w.heap.size, 4, none⟩ = some (.int .i64 node) ∧ w'.cell? ⟨w.heap.size, 5, none⟩ = some (.int .i64 other) ∧ w'.cell? ⟨w.heap.size, 6, none⟩ = some (.string name) ∧ w'.cell? ⟨w.heap.size, 7, none⟩ = some (.string value) ∧ TsE D ad m w' ∧ Below w.heap.size w w')
    (first
      | with_reducible assumption
      | with_reducible exact TsR.drew Q0
      | with_reducible exact TsR.later (by assumption) (by assumption))
    (first
      | (go_at_call 8; refine (HT.out.check _ (TsR.e (by assumption))).mono ?_; rintro e w' ⟨rfl, hb⟩)
      | (go_at_call 7; refine (coded_eV E _ (TsR.e (by assumption)) HT.out.le).mono ?_; rintro e w' ⟨rfl, hb⟩)
      | (go_at_call 9; refine (opid_any (ad := ad) t b n k node other name value _ (TsR.e (by assumption)).txt.op4 z HZ.out).mono ?_; rintro e w' ⟨rfl, hb⟩)
      | (go_at_call 10; refine (idOf_any t b _ z HZ.out).mono ?_; rintro e w' ⟨rfl, hb⟩))
  have Q1 : TsR w D ad m t b n k node other name value w' := by assumption
  clear Q0 A0 A1 A2 A3 A4 A5 A6 A7 A8 A9
  go_wp2_with fail
  refine (HRB.out _ ⟨Q1.e.txt, Q1.e.max⟩).mono ?_
  rintro e w5 ⟨rfl, hb⟩
  have Q5 := Q1.later hb
  clear hb Q1
  have Q6 := Q5.later ((Below.refl _ _).alloc (Nat.le_refl _) (.cells #[.int .i64 t, .int .i64 b, .int .i64 n, .int .u8 (k : Int), .int .i64 node, .int .i64 other, .string name, .string value] 25))
  have N6 := OpAt.new w5 t b n k node other name value 25
  clear Q5
  obtain ⟨x0, x1, x2, x3, x4, x5, x6, x7, -, -⟩ := id Q6
  go_wp2_with fail
  generalize w5.alloc (.cells #[.int .i64 t, .int .i64 b, .int .i64 n, .int .u8 (k : Int), .int .i64 node, .int .i64 other, .string name, .string value] 25) = w6 at Q6 N6 x0 x1 x2 x3 x4 x5 x6 x7 ⊢
  generalize w5.heap.size = k5 at N6 ⊢
  refine (HRT.out _).mono ?_
  rintro e w7 ⟨rfl, hb⟩
  have Q7 := Q6.later hb
  have N7 := N6.later hb
  clear hb Q6 N6 x0 x1 x2 x3 x4 x5 x6 x7
  obtain ⟨x0, x1, x2, x3, x4, x5, x6, x7, -, Z7⟩ := id Q7
  obtain ⟨g0, g1, g2, g3, g4, g5, g6, g7⟩ := N7
  have hsa := eqOp t b n k node other name value t b n k node other name value
  rw [eqB_self] at hsa
  go_wp2_with fail
  refine (HBB.out.1 _ (hE.later Z7)).mono ?_
  rintro e y1 ⟨rfl, hb⟩
  have C1 : Below w.heap.size w y1 := Z7.trans (hb.mono Z7.size)
  clear hb
  go_wp2_with fail
  refine (HBB.out.2 _).mono ?_
  rintro e y2 ⟨rfl, hb⟩
  have hn1 := fun o : Obj => cellsKeep hb (OpAt.new y1 n1 n2 n3 c.toNat n4 n5 ⟨nm.toArray⟩ ⟨v.toArray⟩ 25) o
  have C2 : Below w.heap.size w y2 := (C1.alloc C1.size _).trans (hb.mono (by have := C1.size; simp; omega))
  have hlt1 : y1.heap.size < y2.heap.size := by have := hb.size; simp at this; omega
  clear hb
  have K1 := hn1 (.cells #[.int .i64 (n1 : Int), .int .i64 (n2 : Int), .int .i64 (n3 : Int), .int .u8 (c.toNat : Int), .int .i64 (n4 : Int), .int .i64 (n5 : Int), .string ⟨nm.toArray⟩, .string ⟨v.toArray⟩] 25)
  have K2 := OpAt.new y2 n1 n2 n3 c.toNat n4 n5 ⟨nm.toArray⟩ ⟨v.toArray⟩ 25
  have C3 : Below w.heap.size w (y2.alloc (.cells #[.int .i64 (n1 : Int), .int .i64 (n2 : Int), .int .i64 (n3 : Int), .int .u8 (c.toNat : Int), .int .i64 (n4 : Int), .int .i64 (n5 : Int), .string ⟨nm.toArray⟩, .string ⟨v.toArray⟩] 25)) := C2.alloc C2.size _
  clear hn1 C2
  go_wp2_with fail
  generalize y2.alloc (.cells #[.int .i64 (n1 : Int), .int .i64 (n2 : Int), .int .i64 (n3 : Int), .int .u8 (c.toNat : Int), .int .i64 (n4 : Int), .int .i64 (n5 : Int), .string ⟨nm.toArray⟩, .string ⟨v.toArray⟩] 25) = y3 at K1 K2 C3 ⊢
  generalize y2.heap.size = k2 at K2 ⊢
  have e00 : eV ad 0 = .nilIface := rfl
  rw [← e00]
  clear e00
  refine (coded_eV 0 _ (hE.later C3) (by omega)).mono ?_
  rintro e y4 ⟨rfl, hb⟩
  have K3 := K1.later hb
  have K4 := K2.later hb
  have C4 : Below w.heap.size w y4 := C3.trans (hb.mono C3.size)
  clear hb K1 K2 C3
  obtain ⟨p0, p1, p2, p3, p4, p5, p6, p7⟩ := K3
  obtain ⟨r0, r1, r2, r3, r4, r5, r6, r7⟩ := K4
  have hself := eqOp n1 n2 n3 c.toNat n4 n5 ⟨nm.toArray⟩ ⟨v.toArray⟩ n1 n2 n3 c.toNat n4 n5 ⟨nm.toArray⟩ ⟨v.toArray⟩
  rw [eqB_self] at hself
  go_wp2_with fail
  refine (HTT.out _ (hE.later C4)).mono ?_
  rintro e y5 ⟨rfl, hb⟩
  have C5 : Below w.heap.size w y5 := C4.trans (hb.mono C4.size)
  clear hb p0 p1 p2 p3 p4 p5 p6 p7 r0 r1 r2 r3 r4 r5 r6 r7 C4
  go_wp2
  go_ret
  exact ⟨rfl, C5⟩
end Go.Proofs.YtnfhbmgkiknaaaaGreatDoor
