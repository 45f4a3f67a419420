/- What the walk of StampClocks holds on to, and how each step hands it on. -/
import Derived.Test.YtnfhbmgkiknaaaaDoorClockWalks
import Derived.Test.YtnfhbmgkiknaaaaDoorCodeWalks
import Derived.Test.YtnfhbmgkiknaaaaDoorRefStamp
import Derived.Laws.OwnMore
import Derived.Deep.AppendLies
namespace Go.Proofs.YtnfhbmgkiknaaaaDoor
open Go.RowKit

def flat (L : List (Int × Int)) : List Value := L.flatMap fun p => [.int .i64 p.1, .int .i64 p.2]
theorem flat_snoc (L : List (Int × Int)) (p : Int × Int) : flat (L ++ [p]) = flat L ++ [.int .i64 p.1, .int .i64 p.2] := by simp [flat]
theorem flat_at : ∀ (L : List (Int × Int)) (j : Nat) (p : Int × Int), L[j]? = some p → (flat L)[j * 2]? = some (.int .i64 p.1) ∧ (flat L)[j * 2 + 1]? = some (.int .i64 p.2)
  | [], j, p, h => by simp at h
  | q :: L, 0, p, h => by
    simp at h
    subst h
    exact ⟨rfl, rfl⟩
  | q :: L, j + 1, p, h => by
    have ih := flat_at L j p (by simpa using h)
    have e : flat (q :: L) = .int .i64 q.1 :: .int .i64 q.2 :: flat L := rfl
    rw [e, show (j + 1) * 2 = j * 2 + 1 + 1 by omega]
    exact ⟨by simpa using ih.1, by simpa using ih.2⟩

/-- The state: the clock, the row of stamps that the law has gathered, the errors, all that is old. -/
structure CkS (ad : Nat → Addr) (w0 : World) (pb : Nat) (c T : Int) (v : Value) (L : List (Int × Int)) (w : World) : Prop where
  clk : Clk pb T c w
  own : w.ownsRow (pb + 1) 36 2 v L.length (flat L)
  errs : Errs w0.heap.size ad w
  below : Below w0.heap.size w0 w
  hB : w0.heap.size ≤ pb

section
variable {ad : Nat → Addr} {w0 w w' : World} {pb : Nat} {c T : Int} {v : Value} {L : List (Int × Int)}

theorem CkS.lt (h : CkS ad w0 pb c T v L w) : pb < w.heap.size := h.clk.lt

theorem ownsRow_but (h : w.ownsRow (pb + 1) 36 2 v L.length (flat L)) (hb : But pb w w') : w'.ownsRow (pb + 1) 36 2 v L.length (flat L) := by
  refine h.kept (row := some pb) ⟨hb.os, hb.tape, hb.output, hb.size, fun k hk hn => hb.block k hk (fun e => hn (by rw [e]))⟩ ?_
  cases hv : v.ownBlock with
  | none => exact .inl rfl
  | some g => exact .inr (fun e => by have := (h.lt g hv).1; simp at e; omega)

theorem CkS.but (h : CkS ad w0 pb c T v L w) (hb : But pb w w') {T' : Int} (hc : Clk pb T' c w') : CkS ad w0 pb c T' v L w' :=
  have hB := hb.below h.lt
  ⟨hc, ownsRow_but h.own hb, h.errs.mono (hB.mono h.hB), h.below.trans (hB.mono h.hB), h.hB⟩

theorem CkS.later (h : CkS ad w0 pb c T v L w) (hb : Below w.heap.size w w') : CkS ad w0 pb c T v L w' := h.but (But.of_below hb) (h.clk.later hb)

theorem CkS.grown (h : CkS ad w0 pb c T v L w) {v' : Value} {p : Int × Int} (hown : w'.ownsRow (pb + 1) 36 2 v' (L.length + 1) (flat L ++ [.int .i64 p.1, .int .i64 p.2])) (hg : w.grownBy w' v.ownBlock) : CkS ad w0 pb c T v' (L ++ [p]) w' := by
  have hne : some pb ≠ v.ownBlock := fun e => by have := (h.own.lt pb e.symm).1; omega
  have hB : Below w0.heap.size w w' := (Below.refl _ _).grown hg (Nat.le_trans h.hB (Nat.le_of_lt h.lt)) (fun k e => by have := (h.own.lt k e).1; have := h.hB; omega)
  refine ⟨⟨hg.cell h.clk.t hne, hg.cell h.clk.b hne, (hg.frozen_far ⟨pb, 0, none⟩ h.lt hne).trans h.clk.f⟩, ?_, h.errs.mono hB, h.below.trans hB, h.hB⟩
  rw [flat_snoc, List.length_append]
  exact hown

theorem CkS.form (h : CkS ad w0 pb c T v L w) : ∃ ao cap, v = .slice ao L.length cap ∧ ∀ j, j < L.length → ∃ g, ao = some ⟨g, 0, none⟩ ∧ ∀ q, L[j]? = some q → w.cell? ⟨g, j * 2, none⟩ = some (.int .i64 q.1) ∧ w.cell? ⟨g, j * 2 + 1, none⟩ = some (.int .i64 q.2) := by
  rcases h.own.2 with ⟨rfl, h0⟩ | ⟨g, cap, cur, rfl, _⟩
  · exact ⟨none, 0, by rw [h0], fun j hj => by omega⟩
  · refine ⟨some ⟨g, 0, none⟩, cap, rfl, fun j hj => ⟨g, rfl, fun q hq => ?_⟩⟩
    have hf := flat_at L j q hq
    exact ⟨(h.own.cellAt (j * 2) (by omega)).trans hf.1, (h.own.cellAt (j * 2 + 1) (by omega)).trans hf.2⟩
end

theorem Tryd.infoStamp : (Tryd.prog.info? 36).map (fun i => (i.zero, i.size, i.bytes)) = some (some (.agg #[.int .i64 0, .int .i64 0]), 2, 16) := by kernel_rfl
theorem cell_two_stamp (w : World) (x y : Value) (t : TypeId) : ∀ j u, [x, y][j]? = some u → (w.alloc (.cells #[x, y] t)).cell? ((⟨w.heap.size, 0, none⟩ : Addr).add j) = some u := by
  intro j u hj
  match j, hj with
  | 0, hj => simp at hj; subst hj; simp [Addr.add]
  | 1, hj => simp at hj; subst hj; simp [Addr.add]
  | n + 2, hj => simp at hj
theorem code7 : codeOf 7 = 8 := by decide
theorem code1' : codeOf 1 = 2 := by decide
theorem lessB_lt {t b t' b' : Int} (h : t < t') : lessB t b t' b' = true := by unfold lessB; rw [if_neg (by omega)]; simp; exact h
end Go.Proofs.YtnfhbmgkiknaaaaDoor
