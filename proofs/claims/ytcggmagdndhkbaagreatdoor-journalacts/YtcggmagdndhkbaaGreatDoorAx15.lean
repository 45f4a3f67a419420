import Derived.Test.YtcggmagdndhkbaaGreatDoorAx11
import Derived.Test.YtcggmagdndhkbaaGreatDoorAx13
import Derived.Test.YtcggmagdndhkbaaGreatDoorAx14
import Derived.Deep.AppendLies
section
namespace Go.Proofs.YtcggmagdndhkbaaGreatDoor
open Go.RowKit
def codeR (r : Option Parts) : Nat := match r with
  | none => 1
  | some (c, n1, n2, n3, n4, n5, nm, v) => opE n1 n2 n3 c.toNat n4 n5 nm v
def okR (r : Option Parts) : Option Parts := if codeR r = 0 then r else none
theorem numsP_odd (c : UInt8) (p1 p2 p3 p4 p5 nm hx : List UInt8) (h : unhexL hx = none) : numsP c p1 p2 p3 p4 p5 nm hx = none := by
  unfold numsP
  rw [h]
  cases numN 10 p1 <;> cases numN 10 p2 <;> cases numN 10 p3 <;> cases numN 10 p4 <;> cases numN 10 p5 <;> rfl
theorem numI_some (s : ByteArray) (n : Nat) (w : World) (h : numN 10 s.data.toList = some n) : Calls Tryz.prog 166 #[.string s, .int .i64 10] w fun e w' => e = .returned (.int .i64 (n : Int)) ∧ w' = w := by
  have := numberN_any 10 (by decide) s w
  rw [h] at this
  exact this
theorem numI_none (s : ByteArray) (w : World) (h : numN 10 s.data.toList = none) : Calls Tryz.prog 166 #[.string s, .int .i64 10] w fun e w' => e = .returned (.int .i64 (-1)) ∧ w' = w := by
  have := numberN_any 10 (by decide) s w
  rw [h] at this
  exact this
theorem cutBar_lies (s : ByteArray) (w : World) (hs : s.size ≤ 70000) :
    Calls Tryz.prog 165 #[.string s, .int .u8 124] w fun e w' => ∃ (P : List ByteArray) (cap g : Nat), e = .returned (.slice (some ⟨g, 0, none⟩) P.length cap) ∧ w.heap.size ≤ g ∧ P.length ≤ cap ∧ (∀ (j : Nat) p, P[j]? = some p → w'.cell? ⟨g, j, none⟩ = some (.string p)) ∧ P.map (·.data.toList) = cutP 124 s.data.toList ∧ Below w.heap.size w w' := by
  refine (cutBar_any s w hs).mono ?_
  rintro e w' ⟨v, P, rfl, hown, hP, hb⟩
  have hpos : 0 < P.length := by
    have := congrArg List.length hP
    rw [List.length_map] at this
    rw [this]; exact List.length_pos_iff.2 (cutP_ne _ _)
  obtain ⟨g, cap, rfl, hg, -⟩ := hown.form hpos
  have hc := hown.cells (g := g) rfl
  have hcap : P.length ≤ cap := by
    obtain ⟨-, h | ⟨g', cap', cur, hv, -, -, hn, -⟩⟩ := hown
    · cases h.1
    · cases hv; simpa using hn
  refine ⟨P, cap, g, rfl, hg, hcap, fun j p hj => ?_, hP, hb⟩
  have := hc j (.string p) (by rw [List.getElem?_map, hj]; rfl)
  rw [Addr.add_lit, Nat.zero_add] at this
  exact this
set_option maxRecDepth 100000 in
set_option maxHeartbeats 4000000 in
theorem of_len (s : ByteArray) (w : World) (hs : s.size ≤ 70000) (h8 : (cutP 124 s.data.toList).length ≠ 8) :
    Calls Tryz.prog 102 #[.string s] w fun e w' => e = .returned (.tuple #[partsO (okR (partsL s.data.toList)), .int .i64 ((codeR (partsL s.data.toList) : Nat) : Int)]) ∧ Below w.heap.size w w' := by
  have R0 := ResO.new w 31
  have H8 := Lib.hid h8
  have HE := Lib.hid (partsL_not h8)
  clear h8
  generalize partsL s.data.toList = R at HE ⊢
  go_enter Tryz.func102, Tryz.ntmps102
  go_wp2_with fail
  refine (cutBar_lies s _ hs).mono ?_
  rintro e w1 ⟨P, cap, g, rfl, hg, hcap, hc, hP, hb⟩
  have R1 := R0.later hb
  have hne : P.length ≠ 8 := fun e => H8.out (by rw [← hP, List.length_map]; exact e)
  have d8 : ((P.length : Int) != 8) = true := by simp; omega
  clear hb R0 hc hP hcap hne hg
  obtain ⟨⟨c0, c1, c2, c3, c4, c5, c6, c7⟩, f0, f1, f2, f3, f4, f5, f6, f7, B1⟩ := R1
  go_wp2
  refine bodyPost_ret (v := .tuple #[.agg #[.int .i64 0, .int .i64 0, .int .i64 0, .int .u8 0, .int .i64 0, .int .i64 0, .string ⟨#[]⟩, .string ⟨#[]⟩], .int .i64 1]) (by simp [results, Tryz.results102, go_sem, c0, c1, c2, c3, c4, c5, c6, c7]) rfl ⟨by rw [HE.out]; rfl, ?_⟩
  exact (((((((B1.setCell (by simp) _).setCell (by simp) _).setCell (by simp) _).setCell (by simp) _).setCell (by simp) _).setCell (by simp) _).setCell (by simp) _).setCell (by simp) _
set_option maxRecDepth 100000 in
set_option maxHeartbeats 4000000 in
theorem of_kind (s : ByteArray) (w : World) (hs : s.size ≤ 70000) (l0 l1 l2 l3 l4 l5 l6 l7 : List UInt8) (h8 : cutP 124 s.data.toList = [l0, l1, l2, l3, l4, l5, l6, l7]) (h0 : l0.length ≠ 1) :
    Calls Tryz.prog 102 #[.string s] w fun e w' => e = .returned (.tuple #[partsO (okR (partsL s.data.toList)), .int .i64 ((codeR (partsL s.data.toList) : Nat) : Int)]) ∧ Below w.heap.size w w' := by
  have R0 := ResO.new w 31
  have H8 := Lib.hid h8
  have HE := Lib.hid (partsL_kind h8 h0)
  clear h8
  generalize partsL s.data.toList = R at HE ⊢
  go_enter Tryz.func102, Tryz.ntmps102
  go_wp2_with fail
  refine (cutBar_lies s _ hs).mono ?_
  rintro e w1 ⟨P, cap, g, rfl, hg, hcap, hc, hP, hb⟩
  have R1 := R0.later hb
  rw [H8.out] at hP
  obtain ⟨p0, p1, p2, p3, p4, p5, p6, p7, rfl, e0, e1, e2, e3, e4, e5, e6, e7⟩ : ∃ p0 p1 p2 p3 p4 p5 p6 p7, P = [p0, p1, p2, p3, p4, p5, p6, p7] ∧ p0.data.toList = l0 ∧ p1.data.toList = l1 ∧ p2.data.toList = l2 ∧ p3.data.toList = l3 ∧ p4.data.toList = l4 ∧ p5.data.toList = l5 ∧ p6.data.toList = l6 ∧ p7.data.toList = l7 := by
    have hlen : P.length = 8 := by have := congrArg List.length hP; simpa using this
    match P, hlen, hP with
    | [a0, a1, a2, a3, a4, a5, a6, a7], _, hP => simp at hP; exact ⟨a0, a1, a2, a3, a4, a5, a6, a7, rfl, hP⟩
  have hcap8 : 8 ≤ cap := by simpa using hcap
  have k0 := hc 0 _ rfl
  have hl0 : p0.size = l0.length := by rw [← e0]; simp
  have d1 : ((p0.size : Int) != 1) = true := by simp; omega
  clear hb R0 hc hP hcap hg e0 e1 e2 e3 e4 e5 e6 e7 hl0 h0 H8
  obtain ⟨⟨c0, c1, c2, c3, c4, c5, c6, c7⟩, f0, f1, f2, f3, f4, f5, f6, f7, B1⟩ := R1
  go_wp2
  refine bodyPost_ret (v := .tuple #[.agg #[.int .i64 0, .int .i64 0, .int .i64 0, .int .u8 0, .int .i64 0, .int .i64 0, .string ⟨#[]⟩, .string ⟨#[]⟩], .int .i64 1]) (by simp [results, Tryz.results102, go_sem, c0, c1, c2, c3, c4, c5, c6, c7]) rfl ⟨by rw [HE.out]; rfl, ?_⟩
  exact (((((((B1.setCell (by simp) _).setCell (by simp) _).setCell (by simp) _).setCell (by simp) _).setCell (by simp) _).setCell (by simp) _).setCell (by simp) _).setCell (by simp) _
set_option maxRecDepth 100000 in
set_option maxHeartbeats 4000000 in
theorem of_odd (s : ByteArray) (w : World) (hs : s.size ≤ 70000) (c : UInt8) (l1 l2 l3 l4 l5 l6 l7 : List UInt8) (h8 : cutP 124 s.data.toList = [[c], l1, l2, l3, l4, l5, l6, l7]) (h2 : l7.length % 2 = 1) :
    Calls Tryz.prog 102 #[.string s] w fun e w' => e = .returned (.tuple #[partsO (okR (partsL s.data.toList)), .int .i64 ((codeR (partsL s.data.toList) : Nat) : Int)]) ∧ Below w.heap.size w w' := by
  have R0 := ResO.new w 31
  have H8 := Lib.hid h8
  have HE : Hid (partsL s.data.toList = none) := Lib.hid (by rw [partsL_eight h8]; exact numsP_odd _ _ _ _ _ _ _ _ (unhex_odd _ l7 rfl h2))
  clear h8
  generalize partsL s.data.toList = R at HE ⊢
  go_enter Tryz.func102, Tryz.ntmps102
  go_wp2_with fail
  refine (cutBar_lies s _ hs).mono ?_
  rintro e w1 ⟨P, cap, g, rfl, hg, hcap, hc, hP, hb⟩
  have R1 := R0.later hb
  rw [H8.out] at hP
  obtain ⟨p0, p1, p2, p3, p4, p5, p6, p7, rfl, e0, e1, e2, e3, e4, e5, e6, e7⟩ : ∃ p0 p1 p2 p3 p4 p5 p6 p7, P = [p0, p1, p2, p3, p4, p5, p6, p7] ∧ p0.data.toList = [c] ∧ p1.data.toList = l1 ∧ p2.data.toList = l2 ∧ p3.data.toList = l3 ∧ p4.data.toList = l4 ∧ p5.data.toList = l5 ∧ p6.data.toList = l6 ∧ p7.data.toList = l7 := by
    have hlen : P.length = 8 := by have := congrArg List.length hP; simpa using this
    match P, hlen, hP with
    | [a0, a1, a2, a3, a4, a5, a6, a7], _, hP => simp at hP; exact ⟨a0, a1, a2, a3, a4, a5, a6, a7, rfl, hP⟩
  have hcap8 : 8 ≤ cap := by simpa using hcap
  have hl0 : p0.size = 1 := by rw [← listLen, e0]; rfl
  have hp0 : p0 = ⟨#[c]⟩ := by
    have : p0.data = #[c] := by rw [← Array.toArray_toList (xs := p0.data), e0]
    cases p0; simp_all
  subst hp0
  have d1 : (((⟨#[c]⟩ : ByteArray).size : Int) != 1) = false := rfl
  have k0 := hc 0 _ rfl
  have k7 := hc 7 _ rfl
  have hl7 : p7.size = l7.length := by rw [← e7]; simp
  have d2 : ((p7.size : Int) % 2 != 0) = true := by simp; omega
  clear hb R0 hc hP hcap hg e0 e1 e2 e3 e4 e5 e6 e7 hl0 h2 hl7 H8
  obtain ⟨⟨c0, c1, c2, c3, c4, c5, c6, c7⟩, f0, f1, f2, f3, f4, f5, f6, f7, B1⟩ := R1
  go_wp2
  refine bodyPost_ret (v := .tuple #[.agg #[.int .i64 0, .int .i64 0, .int .i64 0, .int .u8 0, .int .i64 0, .int .i64 0, .string ⟨#[]⟩, .string ⟨#[]⟩], .int .i64 1]) (by simp [results, Tryz.results102, go_sem, c0, c1, c2, c3, c4, c5, c6, c7]) rfl ⟨by rw [HE.out]; rfl, ?_⟩
  exact (((((((B1.setCell (by simp) _).setCell (by simp) _).setCell (by simp) _).setCell (by simp) _).setCell (by simp) _).setCell (by simp) _).setCell (by simp) _).setCell (by simp) _
end Go.Proofs.YtcggmagdndhkbaaGreatDoor
end
