/- A slice of whole numbers that came in, opened: its numbers. -/
import Derived.Test.YtkilnfooelihaaaDoorProg
import Derived.ChangeArms
import Derived.ChangeSame
import Derived.WideShapes
import Derived.Deep.Slices
import Derived.Below
namespace Go.Proofs.YtkilnfooelihaaaDoor
open Go.ChangeShapes Go.WideShapes Go.RowKit Go.Deep

theorem cellsIntZ : Tryd.prog.cellsOf 3 = 1 := by kernel_rfl
/-- Numbers behind an address, if there are any. -/
def IntsZ (w : World) (ao : Option Addr) (zs : List Int) : Prop := zs = [] ∨ ∃ blk off, ao = some ⟨blk, off, none⟩ ∧ ∀ j z, zs[j]? = some z → w.cell? ⟨blk, off + j, none⟩ = some (.int .i64 z)
theorem IntsZ.later {w w' : World} {ao : Option Addr} {zs : List Int} (h : IntsZ w ao zs) (hb : Below w.heap.size w w') : IntsZ w' ao zs := by
  rcases h with h | ⟨g, o, h1, h2⟩
  · exact .inl h
  · refine .inr ⟨g, o, h1, fun j z hj => ?_⟩
    rw [hb.cell (p := ⟨g, o + j, none⟩) (World.block_lt_of_cell? w ⟨g, o + j, none⟩ (h2 j z hj))]
    exact h2 j z hj
theorem IntsZ.at {w : World} {ao : Option Addr} {zs : List Int} (h : IntsZ w ao zs) {i : Nat} {z : Int} (hi : zs[i]? = some z) : ∃ blk off, ao = some ⟨blk, off, none⟩ ∧ w.cell? ⟨blk, off + i, none⟩ = some (.int .i64 z) := by
  rcases h with h | ⟨b, o, h1, h2⟩
  · subst h; simp at hi
  · exact ⟨b, o, h1, h2 i z hi⟩

theorem ints_in {H : Type} {enc : TypeId × Value → H} {W : World} {base : Nat} {sp : Nat → Bool} {held : Bool} {ao : Option Addr} {len cap : Nat} {d : DataW H} {p : List MemPlace}
    (h : DataW.Trod enc Tryd.prog W base sp held 22 (.slice ao len cap) d p) : ∃ zs : List Int, zs.length = len ∧ len ≤ maxLen ∧ IntsZ W ao zs := by
  obtain ⟨fuel, hf⟩ := h
  rcases open_slice Tryd.underlying22 hf with ⟨hcs, _⟩ | ⟨a, len', cap', m, n, D, Pl, hcs, _, hl, hmax, hm, _, hx⟩
  · simp [Value.cells] at hcs
    obtain ⟨rfl, rfl, rfl⟩ := hcs
    exact ⟨[], rfl, Nat.zero_le _, .inl rfl⟩
  · simp [Value.cells] at hcs
    obtain ⟨rfl, rfl, rfl⟩ := hcs
    have hmm : len ≤ m := by subst hm; split <;> omega
    rcases Nat.eq_zero_or_pos len with h0 | hpos
    · exact ⟨[], h0.symm, by omega, .inl rfl⟩
    · have key : ∀ i, i < len → ∃ z : Int, W.cell? (a.add i) = some (.int .i64 z) := fun i hi => by
        obtain ⟨cs', h1, h2⟩ := hx i (by omega)
        rw [cellsIntZ] at h1
        obtain ⟨z, e0, _, _⟩ := DataW.trod_int Tryd.underlying3 h2
        have := (World.cells?_some h1).2.2 0 (by omega)
        rw [e0] at this
        rw [Nat.mul_one] at this
        obtain ⟨b, off, spot⟩ := a
        exact ⟨z, by simpa [Addr.add] using this⟩
      obtain ⟨f, hf⟩ := choose_lt key
      obtain ⟨b, off, spot⟩ := a
      have hspot : spot = none := by
        have hz := hf 0 hpos
        simpa [Addr.add] using World.cell?_spot hz
      subst hspot
      refine ⟨(List.range len).map f, by simp, by omega, .inr ⟨b, off, rfl, fun j z hj => ?_⟩⟩
      have hil : j < len := by
        have := (List.getElem?_eq_some_iff.1 hj).1
        simpa using this
      rw [List.getElem?_map, List.getElem?_range hil] at hj
      simp only [Option.map_some, Option.some.injEq] at hj
      subst hj
      have := hf j hil
      simpa [add_plain] using this
end Go.Proofs.YtkilnfooelihaaaDoor
