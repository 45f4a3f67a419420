/- A slice of whole numbers that came in, and one of operations, as the laws on trees ask for them. -/
import Derived.Test.YtnfhbmgkiknaaaaDoorOpSlice
import Derived.Test.YtnfhbmgkiknaaaaDoorTurnKit
namespace Go.Proofs.YtnfhbmgkiknaaaaDoor
open Go.ChangeShapes Go.WideShapes Go.RowKit Go.Deep

theorem int_slice {H : Type} {enc : TypeId × Value → H} {W : World} {base : Nat} {sp : Nat → Bool} {held : Bool} {ao : Option Addr} {len cap : Nat} {d : DataW H} {p : List MemPlace}
    (h : DataW.Trod enc Tryd.prog W base sp held 22 (.slice ao len cap) d p) : len ≤ maxLen ∧ IntsIn W ao len := by
  obtain ⟨fuel, hf⟩ := h
  rcases open_slice Tryd.underlying22 hf with ⟨hcs, _⟩ | ⟨a, len', cap', m, n, D, Pl, hcs, _, hl, hmax, hm, _, hx⟩
  · simp [Value.cells] at hcs
    obtain ⟨rfl, rfl, rfl⟩ := hcs
    exact ⟨Nat.zero_le _, .inl rfl⟩
  · simp [Value.cells] at hcs
    obtain ⟨rfl, rfl, rfl⟩ := hcs
    refine ⟨by omega, ?_⟩
    have hmm : len ≤ m := by subst hm; split <;> omega
    rcases Nat.eq_zero_or_pos len with h0 | hpos
    · exact .inl h0
    · right
      have key : ∀ i, i < len → ∃ z : Int, W.cell? (a.add i) = some (.int .i64 z) := fun i hi => by
        obtain ⟨cs', h1, h2⟩ := hx i (by omega)
        rw [cellsInt] at h1
        obtain ⟨z, e0, _, _⟩ := DataW.trod_int Tryd.underlying3 h2
        have := (World.cells?_some h1).2.2 0 (by omega)
        rw [e0] at this
        rw [Nat.mul_one] at this
        obtain ⟨b, off, spot⟩ := a
        exact ⟨z, by simpa [Addr.add] using this⟩
      obtain ⟨b, off, spot⟩ := a
      have hspot : spot = none := by
        obtain ⟨z, hz⟩ := key 0 hpos
        simpa [Addr.add] using World.cell?_spot hz
      subst hspot
      exact ⟨b, off, rfl, fun j hj => by
        have := key j hj
        simpa [add_plain] using this⟩

theorem ops_in {H : Type} {enc : TypeId × Value → H} {W : World} {base : Nat} {sp : Nat → Bool} {held : Bool} {ao : Option Addr} {len cap : Nat} {d : DataW H} {p : List MemPlace}
    (h : DataW.Trod enc Tryd.prog W base sp held 71 (.slice ao len cap) d p) : ∃ xs : List OpX, xs.length = len ∧ len ≤ maxLen ∧ OpsIn W ao xs := by
  obtain ⟨hm, hx⟩ := ops_slice h
  rcases hx with rfl | ⟨xs, hl, h0 | ⟨b, off, c, he, hc⟩⟩
  · exact ⟨[], rfl, hm, .inl rfl⟩
  · exact ⟨xs, hl, hm, .inl h0.2⟩
  · cases he
    exact ⟨xs, hl, hm, .inr ⟨b, off, rfl, hc⟩⟩
end Go.Proofs.YtnfhbmgkiknaaaaDoor
