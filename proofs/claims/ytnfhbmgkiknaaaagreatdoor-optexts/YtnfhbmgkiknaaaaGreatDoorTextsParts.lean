/- What the walk of the law OpTexts holds on to. -/
import Derived.Test.YtnfhbmgkiknaaaaGreatDoorRefOf2
import Derived.Test.YtnfhbmgkiknaaaaGreatDoorRefText
import Derived.Test.YtnfhbmgkiknaaaaGreatDoorCodeWalks
namespace Go.Proofs.YtnfhbmgkiknaaaaGreatDoor
open Go.RowKit

/-- The listed variables that the law reaches. -/
structure TsE (D : Nat) (ad : Nat → Addr) (m : Int) (w : World) : Prop where
  errs : Errs D ad w
  tab : Lib.TabIs Tryz.prog w "internal/strconv.uint64pow10" .u64 Lib.pow10Tab
  max : w.cell? ⟨13, 0, none⟩ = some (.int .i64 m)
theorem TsE.later {D : Nat} {ad : Nat → Addr} {m : Int} {w w' : World} (h : TsE D ad m w) (hb : Below w.heap.size w w') : TsE D ad m w' :=
  ⟨h.errs.later hb, Lib.tabBelow_of_tabIs h.tab _ hb, cellLater hb h.max⟩
theorem TsE.txt {D : Nat} {ad : Nat → Addr} {m : Int} {w : World} (h : TsE D ad m w) : TxtE ad w := ⟨⟨h.errs.c1, h.errs.c2, h.errs.c3, h.errs.c4⟩, h.tab⟩

theorem coded_eV {D : Nat} {ad : Nat → Addr} {m : Int} (c : Nat) (w : World) (h : TsE D ad m w) (hc : c ≤ 12) : Calls Tryz.prog 7 #[eV ad c, .int .i64 (c : Int)] w fun e w' => e = .returned (.bool true) ∧ Below w.heap.size w w' := by
  unfold eV
  by_cases h0 : c = 0
  · subst h0
    refine (coded_nil _ w).mono ?_
    rintro e w' ⟨rfl, rfl⟩
    exact ⟨rfl, Below.refl _ _⟩
  · rw [if_neg h0]
    refine (coded_sent w h.errs (c - 1) (by omega) _).mono ?_
    rintro e w' ⟨rfl, hb⟩
    refine ⟨?_, hb⟩
    have : (codeOf (c - 1) == (c : Int)) = true := by
      unfold codeOf
      rw [if_pos (by omega)]
      simp; omega
    rw [this]

theorem opE_le (t b n : Int) (k : Nat) (node other : Int) (name value : List UInt8) : opE t b n k node other name value ≤ 12 := by
  unfold opE kindE moveE insE delE setE
  repeat' split
  all_goals omega

set_option maxHeartbeats 1000000 in
theorem opid_any {ad : Nat → Addr} (t b n : Int) (k : Nat) (node other : Int) (name value : ByteArray) (w : World) (hE : Op4 ad w) (z : Int) (hz : z = if 1 ≤ t ∧ t ≤ 1073741824 ∧ 0 ≤ b ∧ b < 4 then 4 * t + b else 0) :
    Calls Tryz.prog 9 #[.agg #[.int .i64 t, .int .i64 b, .int .i64 n, .int .u8 (k : Int), .int .i64 node, .int .i64 other, .string name, .string value]] w fun e w' => e = .returned (.int .i64 z) ∧ Below w.heap.size w w' := by
  have O0 := OpAt.new w t b n k node other name value 25
  have E0 := hE.later ((Below.refl _ _).alloc (Nat.le_refl _) (.cells #[.int .i64 t, .int .i64 b, .int .i64 n, .int .u8 (k : Int), .int .i64 node, .int .i64 other, .string name, .string value] 25))
  have B0 : Below w.heap.size w (w.alloc (.cells #[.int .i64 t, .int .i64 b, .int .i64 n, .int .u8 (k : Int), .int .i64 node, .int .i64 other, .string name, .string value] 25)) := (Below.refl _ _).alloc (Nat.le_refl _) _
  by_cases h : 1 ≤ t ∧ t ≤ 1073741824 ∧ 0 ≤ b ∧ b < 4
  · rw [if_pos h] at hz
    obtain ⟨s1, s2, s3, s4⟩ := h
    have HZ : Hid (z = t * 4 + b) := Lib.hid (by omega)
    clear hz
    go_enter Tryz.func9, Tryz.ntmps9
    go_wp2_with fail
    generalize w.alloc (.cells #[.int .i64 t, .int .i64 b, .int .i64 n, .int .u8 (k : Int), .int .i64 node, .int .i64 other, .string name, .string value] 25) = u at O0 E0 B0 ⊢
    refine (id_ok _ _ _ s1 s2 s3 s4).mono ?_
    rintro e w1 ⟨rfl, hb⟩
    have B1 : Below w.heap.size w w1 := B0.trans (hb.mono B0.size)
    clear hb O0 E0 B0
    go_wp2
    go_ret
    exact ⟨by rw [HZ.out]; rfl, B1⟩
  · rw [if_neg h] at hz
    have HS := Lib.hid h
    subst hz
    clear h
    go_enter Tryz.func9, Tryz.ntmps9
    go_wp2_with fail
    generalize w.alloc (.cells #[.int .i64 t, .int .i64 b, .int .i64 n, .int .u8 (k : Int), .int .i64 node, .int .i64 other, .string name, .string value] 25) = u at O0 E0 B0 ⊢
    refine (id_no t b u _ _ E0.c1 (World.block_lt_of_cell? u ⟨0, 0, none⟩ E0.c1) HS.out).mono ?_
    rintro e w1 ⟨rfl, hb⟩
    have B1 : Below w.heap.size w w1 := B0.trans (hb.mono B0.size)
    clear hb O0 E0 B0
    go_wp2
    go_ret
    exact ⟨rfl, B1⟩
theorem idOf_any (t b : Int) (w : World) (z : Int) (hz : z = if 1 ≤ t ∧ t ≤ 1073741824 ∧ 0 ≤ b ∧ b < 4 then 4 * t + b else 0) :
    Calls Tryz.prog 10 #[.agg #[.int .i64 t, .int .i64 b]] w fun e w' => e = .returned (.int .i64 z) ∧ Below w.heap.size w w' := by
  by_cases h : 1 ≤ t ∧ t ≤ 1073741824 ∧ 0 ≤ b ∧ b < 4
  · rw [if_pos h] at hz
    rw [hz]
    exact idOf_ok t b w h.1 h.2.1 h.2.2.1 h.2.2.2
  · rw [if_neg h] at hz
    rw [hz]
    exact idOf_no t b w h

theorem parts_small {l nm v : List UInt8} {c : UInt8} {n1 n2 n3 n4 n5 : Nat} (h : partsL l = some (c, n1, n2, n3, n4, n5, nm, v)) : nm.length ≤ l.length ∧ v.length ≤ l.length := by
  have e := congrArg List.length (text_parts h)
  have hx := hexL_length v
  unfold opTextL at e
  simp only [joinP, List.length_append, List.length_cons, List.length_nil] at e
  omega

/-- What the two readers tell of a text that is no right operation's. -/
theorem both_bad {D : Nat} {ad : Nat → Addr} {m : Int} (s : ByteArray) (hs : s.size ≤ 300) (hc : codeR (partsL s.data.toList) ≠ 0) :
    (∀ w, TsE D ad m w → Calls Tryz.prog 11 #[.string s] w fun e w' => e = .returned (.tuple #[.agg #[.int .i64 0, .int .i64 0, .int .i64 0, .int .u8 0, .int .i64 0, .int .i64 0, .string ⟨#[]⟩, .string ⟨#[]⟩], eV ad (codeR (partsL s.data.toList))]) ∧ Below w.heap.size w w') ∧
    (∀ w, Calls Tryz.prog 13 #[.string s] w fun e w' => e = .returned (.tuple #[.agg #[.int .i64 0, .int .i64 0, .int .i64 0, .int .u8 0, .int .i64 0, .int .i64 0, .string ⟨#[]⟩, .string ⟨#[]⟩], .int .i64 ((codeR (partsL s.data.toList) : Nat) : Int)]) ∧ Below w.heap.size w w') := by
  refine ⟨fun w h => ?_, fun w => ?_⟩
  · cases hp : partsL s.data.toList with
    | none =>
      exact read_text (ad := ad) s w (by omega) m h.max h.errs.c0 hp
    | some r =>
      obtain ⟨c, n1, n2, n3, n4, n5, nm, v⟩ := r
      rw [hp] at hc
      obtain ⟨hn, hv⟩ := parts_small hp
      have hl := listLen s
      have := read_code (ad := ad) s w (by omega) m h.max h.txt.op4 c n1 n2 n3 n4 n5 nm v hp (by omega) (by omega) hc
      have e : eV ad (codeR (some (c, n1, n2, n3, n4, n5, nm, v))) = .iface 143 (.pointer (some (ad (opE n1 n2 n3 c.toNat n4 n5 nm v - 1)))) := by
        have hc' : opE n1 n2 n3 c.toNat n4 n5 nm v ≠ 0 := hc
        unfold eV codeR
        rw [if_neg hc']
      rw [e]
      exact this
  · have := of_any s w hs
    have e : okR (partsL s.data.toList) = none := by unfold okR; rw [if_neg hc]
    rw [e] at this
    exact this
/-- .. and of one that is. -/
theorem both_ok {D : Nat} {ad : Nat → Addr} {m : Int} (s : ByteArray) (hs : s.size ≤ 300) (hc : codeR (partsL s.data.toList) = 0) :
    ∃ (c : UInt8) (n1 n2 n3 n4 n5 : Nat) (nm v : List UInt8), opE n1 n2 n3 c.toNat n4 n5 nm v = 0 ∧ opTextL n1 n2 n3 c.toNat n4 n5 nm v = s.data.toList ∧
    (∀ w, TsE D ad m w → Calls Tryz.prog 11 #[.string s] w fun e w' => e = .returned (.tuple #[.agg #[.int .i64 (n1 : Int), .int .i64 (n2 : Int), .int .i64 (n3 : Int), .int .u8 (c.toNat : Int), .int .i64 (n4 : Int), .int .i64 (n5 : Int), .string ⟨nm.toArray⟩, .string ⟨v.toArray⟩], .nilIface]) ∧ Below w.heap.size w w') ∧
    (∀ w, Calls Tryz.prog 13 #[.string s] w fun e w' => e = .returned (.tuple #[.agg #[.int .i64 (n1 : Int), .int .i64 (n2 : Int), .int .i64 (n3 : Int), .int .u8 (c.toNat : Int), .int .i64 (n4 : Int), .int .i64 (n5 : Int), .string ⟨nm.toArray⟩, .string ⟨v.toArray⟩], .int .i64 0]) ∧ Below w.heap.size w w') := by
  cases hp : partsL s.data.toList with
  | none => rw [hp] at hc; cases hc
  | some r =>
    obtain ⟨c, n1, n2, n3, n4, n5, nm, v⟩ := r
    have hc2 := hc
    rw [hp] at hc
    have hl := listLen s
    obtain ⟨hn, hv⟩ := parts_small hp
    refine ⟨c, n1, n2, n3, n4, n5, nm, v, hc, text_parts hp, fun w h => ?_, fun w => ?_⟩
    · exact read_ok (ad := ad) s w (by omega) m h.max h.txt.op4 c n1 n2 n3 n4 n5 nm v hp (by omega) (by omega) hc
    · have := of_any s w hs
      have e : okR (partsL s.data.toList) = some (c, n1, n2, n3, n4, n5, nm, v) := by unfold okR; rw [if_pos hc2, hp]
      rw [e, hc2] at this
      exact this
end Go.Proofs.YtnfhbmgkiknaaaaGreatDoor
