/- A line that is added to, step by step; the laws' closed fact 'lined'. -/
import Derived.Test.YtkilnfooelihaaaDoorLineRead
set_option linter.unusedVariables false
namespace Go.Proofs.YtkilnfooelihaaaDoor
open Go.RowKit Go.Lib Go.Sort

/-- What Insert leaves, beside what lay there when the law began. -/
theorem PutOk.step {base : Nat} {w0 w w' : World} {p : Nat} {v : Value} {L M : List Ltr} (h : PutOk base w p v M w') (hT : LineAt base w p v L) (hB : Below w0.heap.size w0 w) (hp : w0.heap.size ≤ p) :
    ∃ v', LineAt base w' p v' M ∧ Below w0.heap.size w0 w' ∧ Keeps (fun k => k = p ∨ base ≤ k) w w' := by
  obtain ⟨v', h1, h2, -⟩ := h
  have hlow := hT.low
  have hk : Keeps (fun k => k = p ∨ base ≤ k) w w' := h2.mono (fun k _ e => e.imp id (fun e => (hT.ne k e.symm).2.2))
  exact ⟨v', h1, hB.trans (hk.below hB.size (by rintro k (rfl | e) <;> omega)), hk⟩

set_option maxRecDepth 100000 in
set_option maxHeartbeats 2000000 in
theorem lined_any (w : World) : Calls Tryd.prog 62 #[] w fun e w' => e = .returned (.bool true) ∧ Below w.heap.size w w' := by
  go_enter Tryd.func62, Tryd.ntmps62
  go_wp2_with fail
  refine (new_line w).mono ?_
  rintro e w1 ⟨rfl, hs1, hT1, hb1⟩
  have A1 : Aside (LineAt (w.heap.size + 1) w1 w.heap.size (.slice none 0 0) [] ∧ Below w.heap.size w w1 ∧ w1.heap.size = w.heap.size + 1) := ⟨hT1 _ (by omega), hb1, hs1⟩
  clear hs1 hT1 hb1
  obtain ⟨B, hB⟩ : ∃ B, Aside (w.heap.size = B) := ⟨_, rfl⟩
  rw [hB.out] at A1 ⊢
  go_wp2_with fail
  refine (insert_ok w1 (B + 1) B (.slice none 0 0) [] 8 0 98 A1.out.1 (by have := A1.out.2.2; omega) (by simp) ⟨by omega, by omega, by omega, by omega⟩ (by omega) (by simp) (.inl rfl)).mono ?_
  rintro e w2 ⟨rfl, hP⟩
  obtain ⟨v2, hT2, hb2, -⟩ := hP.step A1.out.1 (by rw [hB.out]; exact A1.out.2.1) (by have := hB.out; omega)
  have A2 : Aside (LineAt (B + 1) w2 B v2 [(8, 98, false)] ∧ Below w.heap.size w w2) := ⟨hT2, hb2⟩
  clear hP hT2 hb2 A1
  go_wp2_with fail
  refine (insert_ok w2 (B + 1) B v2 [(8, 98, false)] 12 0 97 A2.out.1 (by have h1 := (A2.out.1).lt; omega) (by simp) ⟨by omega, by omega, by omega, by omega⟩ (by omega) (by simp) (.inl rfl)).mono ?_
  rintro e w3 ⟨rfl, hP⟩
  obtain ⟨v3, hT3, hb3, -⟩ := hP.step A2.out.1 A2.out.2 (by have := hB.out; omega)
  have A3 : Aside (LineAt (B + 1) w3 B v3 [(12, 97, false), (8, 98, false)] ∧ Below w.heap.size w w3) := ⟨hT3, hb3⟩
  clear hP hT3 hb3 A2
  go_wp2_with fail
  refine (text_any w3 (B + 1) B v3 _ A3.out.1 (by simp)).mono ?_
  rintro e w4 ⟨rfl, hb4⟩
  have A4 : Aside (Below w.heap.size w w4) := A3.out.2.trans (hb4.mono A3.out.2.size)
  have hx : textL [(12, 97, false), (8, 98, false)] = [97, 98] := by decide
  rw [hx]
  clear hb4 A3 hx
  go_wp2
  go_ret
  exact ⟨rfl, A4.out⟩
end Go.Proofs.YtkilnfooelihaaaDoor
