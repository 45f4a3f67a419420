/- A slice of stamps that came in, opened: its cells, two a stamp. -/
import Derived.Test.YtnfhbmgkiknaaaaDoorProg
import Derived.ProofKit
import Derived.OpenShut
import Derived.Deep.Slices
import Derived.KernelRfl
namespace Go.Proofs.YtnfhbmgkiknaaaaDoor
open Go.ChangeShapes Go.WideShapes Go.RowKit Go.Deep

theorem stamp_cells {H : Type} {enc : TypeId × Value → H} {w : World} {base : Nat} {spare : Nat → Bool} {held : Bool} {n : Nat} {a : Addr} {x : DataW H × List MemPlace} {cs : List Value}
    (hc : w.cells? base a 2 = some cs) (h : DataW.trod enc Tryd.prog w base spare held n 36 cs = some x) : ∃ t b : Int, w.cell? a = some (.int .i64 t) ∧ w.cell? (a.add 1) = some (.int .i64 b) := by
  obtain ⟨y0, y1, m, _, _, h0, h1⟩ := trod_struct2 Tryd.underlying36 h
  have c3 : Tryd.prog.cellsOf 3 = 1 := by kernel_rfl
  obtain ⟨t, e0, _, _⟩ := DataW.trod_int Tryd.underlying3 h0
  obtain ⟨b, e1, _, _⟩ := DataW.trod_int Tryd.underlying3 h1
  rw [c3] at e0 e1
  unfold World.cells? at hc
  split at hc
  · have ha : a.add 0 = a := by cases a; simp [Addr.add]
    simp only [List.range_succ, List.range_zero, List.nil_append, List.cons_append, List.mapM_cons, List.mapM_nil, ha, Option.bind_eq_bind, Option.pure_def, Option.bind_some, Option.bind_eq_some_iff, Option.some.injEq] at hc
    obtain ⟨v0, hv0, l1, ⟨v1, hv1, rfl⟩, rfl⟩ := hc
    simp at e0 e1
    exact ⟨t, b, by rw [hv0, e0], by rw [hv1, e1]⟩
  · cases hc

/-- What the walk asks of a slice of stamps. -/
theorem stamp_slice {H : Type} {enc : TypeId × Value → H} {W : World} {base : Nat} {sp : Nat → Bool} {held : Bool} {ao : Option Addr} {len cap : Nat} {d : DataW H} {p : List MemPlace}
    (h : DataW.Trod enc Tryd.prog W base sp held 45 (.slice ao len cap) d p) :
    ∃ (lb lo : Nat) (ft fb : Nat → Int), (∀ i, i < len → ao = some ⟨lb, lo, none⟩) ∧ ∀ i, i < len → W.cell? ⟨lb, lo + i * 2, none⟩ = some (.int .i64 (ft i)) ∧ W.cell? ⟨lb, lo + i * 2 + 1, none⟩ = some (.int .i64 (fb i)) := by
  obtain ⟨fuel, hf⟩ := h
  rcases open_slice Tryd.underlying45 hf with ⟨hcs, _⟩ | ⟨a, len', cap', m, n, D, Pl, hcs, _, hl, _, hm, _, hx⟩
  · simp [Value.cells] at hcs
    obtain ⟨rfl, rfl, rfl⟩ := hcs
    exact ⟨0, 0, fun _ => 0, fun _ => 0, fun i hi => by omega, fun i hi => by omega⟩
  · simp [Value.cells] at hcs
    obtain ⟨rfl, rfl, rfl⟩ := hcs
    have c36 : Tryd.prog.cellsOf 36 = 2 := by kernel_rfl
    have hmm : len ≤ m := by subst hm; split <;> omega
    have key : ∀ i, i < len → ∃ tb : Int × Int, W.cell? (a.add (i * 2)) = some (.int .i64 tb.1) ∧ W.cell? ((a.add (i * 2)).add 1) = some (.int .i64 tb.2) := fun i hi => by
      obtain ⟨cs', h1, h2⟩ := hx i (by omega)
      rw [c36] at h1
      obtain ⟨t, b, e1, e2⟩ := stamp_cells h1 h2
      exact ⟨(t, b), e1, e2⟩
    obtain ⟨f, hf⟩ := choose_lt key
    obtain ⟨b, off, spot⟩ := a
    rcases Nat.eq_zero_or_pos len with h0 | hpos
    · exact ⟨0, 0, fun _ => 0, fun _ => 0, fun i hi => by omega, fun i hi => by omega⟩
    · have hspot : spot = none := by simpa [Addr.add] using World.cell?_spot (hf 0 hpos).1
      subst hspot
      refine ⟨b, off, fun i => (f i).1, fun i => (f i).2, fun i hi => rfl, fun i hi => ?_⟩
      have := hf i hi
      rw [add_plain, add_plain] at this
      exact this
end Go.Proofs.YtnfhbmgkiknaaaaDoor
