/- Plain facts, of no program: what is on a disk behind Append, Cut and Recover. -/
import Derived.Test.YtcggmagdndhkbaaDoorJrnBack
set_option linter.unusedVariables false
namespace Go.Proofs.YtcggmagdndhkbaaDoor
open Go

theorem wrAll_free : ∀ (r : List UInt8) (B : List UInt8) (left : Int), wrAll (B, false, false, left) r = (true, (B ++ r, false, false, left))
  | [], B, left => by simp [wrAll]
  | c :: r, B, left => by
    have h : wr1 (B, false, false, left) c = (true, (B ++ [c], false, false, left)) := by unfold wr1; simp
    rw [wrAll, h, if_pos rfl, wrAll_free r]
    simp
theorem wrAll_off (c : UInt8) (r : List UInt8) (B : List UInt8) (left : Int) : wrAll (B, true, false, left) (c :: r) = (false, (B, true, false, left)) := by
  have h : wr1 (B, true, false, left) c = (false, (B, true, false, left)) := by unfold wr1; simp
  rw [wrAll, h, if_neg (by simp)]
theorem wrAll_on : ∀ (r : List UInt8) (B : List UInt8) (left : Nat), wrAll (B, false, true, (left : Int)) r = if r.length ≤ left then (true, (B ++ r, false, true, ((left - r.length : Nat) : Int))) else (false, (B ++ r.take left, true, false, 0))
  | [], B, left => by simp [wrAll]
  | c :: r, B, 0 => by
    have h : wr1 (B, false, true, ((0 : Nat) : Int)) c = (false, (B, true, false, 0)) := by unfold wr1; simp
    rw [wrAll, h, if_neg (by simp), if_neg (by simp)]
    simp
  | c :: r, B, left + 1 => by
    have h : wr1 (B, false, true, ((left + 1 : Nat) : Int)) c = (true, (B ++ [c], false, true, (left : Int))) := by
      unfold wr1
      have : ¬ ((left : Int) + 1 = 0) := by omega
      simp [this]
    rw [wrAll, h, if_pos rfl, wrAll_on r (B ++ [c]) left]
    by_cases hl : r.length ≤ left
    · rw [if_pos hl, if_pos (by simpa using hl)]
      simp
    · rw [if_neg hl, if_neg (by simpa using hl)]
      simp
theorem recL_ne (t : List UInt8) : ∃ c r, recL t = c :: r := by
  cases h : recL t with
  | nil => have := recL_len t; rw [h] at this; simp at this
  | cons c r => exact ⟨c, r, rfl⟩
/-- What is on the disk, where a cut waits or has come: all that was done, and perhaps a part of one more. -/
def DInv (st : DSt) (dn : List OpX) : Prop := (∀ x ∈ dn, errJ x = 0) ∧ ((st.2.1 = false ∧ st.2.2.1 = true ∧ st.1 = recsL dn) ∨ (st.2.1 = true ∧ st.2.2.1 = false ∧ ∃ r, st.1 = recsL dn ++ r ∧ r.length ≤ 1010 ∧ readR r = none))
theorem recs_snoc (dn : List OpX) (x : OpX) : recsL (dn ++ [x]) = recsL dn ++ recL (textO x) := by
  rw [recsL_append]
  show recsL dn ++ (recL (textO x) ++ []) = _
  rw [List.append_nil]
theorem DInv.step {st : DSt} {dn : List OpX} (h : DInv st dn) (hl : 0 ≤ st.2.2.2) (x : OpX) : ((appE st x).1 = 0 → DInv (appE st x).2 (dn ++ [x])) ∧ ((appE st x).1 ≠ 0 → DInv (appE st x).2 dn) := by
  obtain ⟨B, off, waits, left⟩ := st
  dsimp only at hl
  obtain ⟨h0, h⟩ := h
  unfold appE
  by_cases he : errJ x = 0
  · rw [if_neg (fun q => q he)]
    by_cases hf : 65536 < B.length + (recL (textO x)).length
    · rw [if_pos hf]
      exact ⟨(fun q => by cases q), fun _ => ⟨h0, h⟩⟩
    · rw [if_neg hf]
      rcases h with ⟨rfl, rfl, hB⟩ | ⟨rfl, rfl, r, hB, hr1, hr2⟩
      · dsimp only at hB
        obtain ⟨n, rfl⟩ : ∃ n : Nat, left = (n : Int) := ⟨left.toNat, by omega⟩
        rw [wrAll_on]
        by_cases hn : (recL (textO x)).length ≤ n
        · rw [if_pos hn]
          dsimp only
          rw [if_pos rfl]
          refine ⟨fun _ => ⟨fun y hy => ?_, .inl ⟨rfl, rfl, ?_⟩⟩, fun q => absurd rfl q⟩
          · rcases List.mem_append.1 hy with q | q
            · exact h0 y q
            · rw [List.mem_singleton.1 q]; exact he
          · rw [recs_snoc, hB]
        · rw [if_neg hn]
          dsimp only
          rw [if_neg (by simp)]
          refine ⟨(fun q => by cases q), fun _ => ⟨h0, .inr ⟨rfl, rfl, (recL (textO x)).take n, by rw [hB], ?_, readR_cut he (by omega)⟩⟩⟩
          have := textO_len he
          have h1 := recL_len (textO x)
          rw [List.length_take]
          omega
      · obtain ⟨c, r', hc⟩ := recL_ne (textO x)
        rw [hc, wrAll_off]
        dsimp only
        rw [if_neg (by simp)]
        exact ⟨(fun q => by cases q), fun _ => ⟨h0, .inr ⟨rfl, rfl, r, hB, hr1, hr2⟩⟩⟩
  · rw [if_pos he]
    exact ⟨fun q => absurd q he, fun _ => ⟨h0, h⟩⟩
theorem recs_len {dn : List OpX} (h : ∀ x ∈ dn, errJ x = 0) : (recsL dn).length ≤ 1010 * dn.length := by
  induction dn with
  | nil => simp [recsL]
  | cons x l ih =>
    have h1 := ih (fun y hy => h y (by simp [hy]))
    have h2 := textO_len (h x (by simp))
    show (recL (textO x) ++ recsL l).length ≤ _
    rw [List.length_append, recL_len, List.length_cons]
    omega
theorem DInv.len {st : DSt} {dn : List OpX} (h : DInv st dn) : st.1.length ≤ 1010 * dn.length + 1010 := by
  have h1 := recs_len h.1
  rcases h.2 with ⟨_, _, hB⟩ | ⟨_, _, r, hB, hr, _⟩
  · rw [hB]; omega
  · rw [hB, List.length_append]; omega
/-- What is recovered. -/
theorem DInv.back {st : DSt} {dn : List OpX} (h : DInv st dn) : readL_ st.1 = (dn, (recsL dn).length) ∧ backSt st = (recsL dn, false, false, st.2.2.2) := by
  have h1 : readL_ st.1 = (dn, (recsL dn).length) := by
    rcases h.2 with ⟨_, _, hB⟩ | ⟨_, _, r, hB, _, hr⟩
    · rw [hB, ← List.append_nil (recsL dn)]
      have := readA_recs dn [] h.1 readR_nil
      rw [List.append_nil] at this ⊢
      exact this
    · rw [hB]
      exact readA_recs dn r h.1 hr
  refine ⟨h1, ?_⟩
  unfold backSt
  rw [h1]
  dsimp only
  rcases h.2 with ⟨_, _, hB⟩ | ⟨_, _, r, hB, _, hr⟩
  · rw [hB, List.take_of_length_le (Nat.le_refl _)]
  · rw [hB, List.take_left]
theorem readA_nil (dn : List OpX) (h : ∀ x ∈ dn, errJ x = 0) : readL_ (recsL dn) = (dn, (recsL dn).length) := by
  have := readA_recs dn [] h readR_nil
  rwa [List.append_nil] at this
/-- What is appended where no cut waits. -/
theorem app_free {B : List UInt8} {left : Int} {x : OpX} (he : errJ x = 0) (hl : B.length + (recL (textO x)).length ≤ 65536) : appE (B, false, false, left) x = (0, (B ++ recL (textO x), false, false, left)) := by
  unfold appE
  rw [if_neg (fun q => q he), if_neg (by dsimp only; omega), wrAll_free]
  rfl
/-- What is recovered of any bytes: it is recovered again. -/
theorem back_any (b : List UInt8) : ∃ r, b = recsL (readL_ b).1 ++ r ∧ (readL_ b).2 = (recsL (readL_ b).1).length ∧ (∀ x ∈ (readL_ b).1, errJ x = 0) ∧ b.take (readL_ b).2 = recsL (readL_ b).1 := by
  obtain ⟨r, h1, h2, h3, h4⟩ := readA_is b.length b (Nat.le_refl _)
  refine ⟨r, h1, h3, h4, ?_⟩
  rw [h3]
  conv => lhs; arg 2; rw [h1]
  exact List.take_left
end Go.Proofs.YtcggmagdndhkbaaDoor
