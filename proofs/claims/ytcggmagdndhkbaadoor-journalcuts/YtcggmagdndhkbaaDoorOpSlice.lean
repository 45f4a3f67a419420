/- A slice of operations that came in, opened: its cells, eight an operation. -/
import Derived.Test.YtcggmagdndhkbaaDoorOpOpen
import Derived.Test.YtcggmagdndhkbaaDoorOpRow
import Derived.Deep.Slices
namespace Go.Proofs.YtcggmagdndhkbaaDoor
open Go.ChangeShapes Go.WideShapes Go.RowKit Go.Deep Go.Sort

theorem op_cells {H : Type} {enc : TypeId × Value → H} {w : World} {base : Nat} {spare : Nat → Bool} {held : Bool} {n : Nat} {a : Addr} {x : DataW H × List MemPlace} {cs : List Value}
    (hc : w.cells? base a 8 = some cs) (h : DataW.trod enc Tryd.prog w base spare held n 35 cs = some x) : ∃ o : OpX, ∀ c, c < 8 → w.cell? (a.add c) = (encX o)[c]? := by
  obtain ⟨t, b, m, k, node, other, name, value, rfl, -, -⟩ := trod_op h
  exact ⟨(t, b, m, k, node, other, name, value), fun c h8 => (World.cells?_some hc).2.2 c h8⟩

theorem cellsOf_map (f : Nat → OpX) (len i c : Nat) (hi : i < len) (h8 : c < 8) : (cellsOf ((List.range len).map f))[i * 8 + c]? = (encX (f i))[c]? := by
  have hl : i < ((List.range len).map f).length := by simpa using hi
  rw [cellsOf_get _ i c hl h8, getElem!_pos ((List.range len).map f) i hl]
  rw [List.getElem?_eq_getElem (by rw [encX_len]; exact h8), getElem!_pos _ c (by rw [encX_len]; exact h8)]
  simp

/-- What the walk asks of a slice of operations. -/
theorem ops_slice {H : Type} {enc : TypeId × Value → H} {W : World} {base : Nat} {sp : Nat → Bool} {held : Bool} {ao : Option Addr} {len cap : Nat} {d : DataW H} {p : List MemPlace}
    (h : DataW.Trod enc Tryd.prog W base sp held 22 (.slice ao len cap) d p) :
    len ≤ maxLen ∧ (len = 0 ∨ ∃ xs : List OpX, xs.length = len ∧ OpsAt W (.slice ao len cap) xs) := by
  obtain ⟨fuel, hf⟩ := h
  rcases open_slice Tryd.underlying22 hf with ⟨hcs, _⟩ | ⟨a, len', cap', m, n, D, Pl, hcs, _, hl, hmax, hm, _, hx⟩
  · simp [Value.cells] at hcs
    obtain ⟨rfl, rfl, rfl⟩ := hcs
    exact ⟨Nat.zero_le _, .inl rfl⟩
  · simp [Value.cells] at hcs
    obtain ⟨rfl, rfl, rfl⟩ := hcs
    refine ⟨by omega, ?_⟩
    have hmm : len ≤ m := by subst hm; split <;> omega
    rcases Nat.eq_zero_or_pos len with h0 | hpos
    · exact .inl h0
    · right
      have key : ∀ i, i < len → ∃ o : OpX, ∀ c, c < 8 → W.cell? ((a.add (i * 8)).add c) = (encX o)[c]? := fun i hi => by
        obtain ⟨cs', h1, h2⟩ := hx i (by omega)
        rw [cellsOp] at h1
        exact op_cells h1 h2
      obtain ⟨f, hf⟩ := choose_lt key
      obtain ⟨b, off, spot⟩ := a
      have h00 : W.cell? ((Addr.add ⟨b, off, spot⟩ (0 * 8)).add 0) = some (.int .i64 (f 0).1) := hf 0 hpos 0 (by omega)
      have hspot : spot = none := by simpa [Addr.add] using World.cell?_spot h00
      subst hspot
      refine ⟨(List.range len).map f, by simp, .inr ⟨b, off, cap, by simp, fun j u hj => ?_⟩⟩
      have hjl := (List.getElem?_eq_some_iff.1 hj).1
      rw [cellsOf_len] at hjl
      have hjl : j < len * 8 := by simpa using hjl
      have e : j / 8 * 8 + j % 8 = j := by omega
      have h1 := hf (j / 8) (by omega) (j % 8) (by omega)
      have h2 := cellsOf_map f len (j / 8) (j % 8) (by omega) (by omega)
      rw [e] at h2
      rw [← h2, hj, add_plain, add_plain, Nat.add_assoc, e] at h1
      exact h1
end Go.Proofs.YtcggmagdndhkbaaDoor
