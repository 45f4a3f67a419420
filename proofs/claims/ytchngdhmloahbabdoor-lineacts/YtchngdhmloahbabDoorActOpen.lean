/- A slice of acts on a line that came in, opened: its cells, four an act. -/
import Derived.Test.YtchngdhmloahbabDoorProg
import Derived.ChangeArms
import Derived.ChangeSame
import Derived.WideShapes
import Derived.Deep.Slices
import Derived.Below
import Derived.ChangeMaps5
import Derived.Carry
import Derived.Test.YtchngdhmloahbabDoorFlatK
namespace Go.Proofs.YtchngdhmloahbabDoor
open Go.ChangeShapes Go.WideShapes Go.RowKit Go.Deep

/-- An act: its kind, an id, the one behind which it goes, a byte. -/
abbrev ActX := ByteArray × Int × Int × Nat
def encA (x : ActX) : List Value := [.string x.1, .int .i64 x.2.1, .int .i64 x.2.2.1, .int .u8 (x.2.2.2 : Int)]
theorem encA_len (x : ActX) : (encA x).length = 4 := rfl
theorem cellsAct : Tryd.prog.cellsOf 30 = 4 := by kernel_rfl
theorem cellsActI : Tryd.prog.cellsOf 3 = 1 := by kernel_rfl
theorem cellsActB : Tryd.prog.cellsOf 5 = 1 := by kernel_rfl
theorem cellsActS : Tryd.prog.cellsOf 9 = 1 := by kernel_rfl
/-- Its numbers are within what the language has. -/
def ActWf (x : ActX) : Prop := (-9223372036854775808 ≤ x.2.1 ∧ x.2.1 ≤ 9223372036854775807) ∧ (-9223372036854775808 ≤ x.2.2.1 ∧ x.2.2.1 ≤ 9223372036854775807) ∧ x.2.2.2 < 256 ∧ x.1.size ≤ maxLen
theorem wf_i64 {z : Int} (h : (Lit.int .i64 z).wf = true) : -9223372036854775808 ≤ z ∧ z ≤ 9223372036854775807 := by
  simp [Lit.wf, IntKind.min, IntKind.max, IntKind.signed, IntKind.bits] at h
  omega

set_option maxRecDepth 100000 in
set_option maxHeartbeats 1000000 in
theorem trod_act {H : Type} {enc : TypeId × Value → H} {W : World} {base : Nat} {sp : Nat → Bool} {held : Bool} {fuel : Nat} {cs : List Value} {x : DataW H × List MemPlace} (h : DataW.trod enc Tryd.prog W base sp held fuel 30 cs = some x) :
    ∃ o : ActX, cs = encA o ∧ ActWf o := by
  obtain ⟨xs, m, _, rfl, hl, hlen, hf⟩ := DataW.trod_struct Tryd.underlying30 h
  rw [cellsAct] at hl
  match cs, hl with
  | [c0, c1, c2, c3], _ =>
  match xs, hlen with
  | [y0, y1, y2, y3], _ =>
    have g0 := hf 0 _ rfl
    have g1 := hf 1 _ rfl
    have g2 := hf 2 _ rfl
    have g3 := hf 3 _ rfl
    simp [cellsActI, cellsActB, cellsActS] at g0 g1 g2 g3
    obtain ⟨kd, e0, rfl, w0⟩ := DataW.trod_string Tryd.underlying9 g0
    obtain ⟨id, e1, rfl, w1⟩ := DataW.trod_int Tryd.underlying3 g1
    obtain ⟨bh, e2, rfl, w2⟩ := DataW.trod_int Tryd.underlying3 g2
    obtain ⟨c, e3, rfl, w3⟩ := DataW.trod_int Tryd.underlying5 g3
    simp at e0 e1 e2 e3
    subst e0 e1 e2 e3
    have hk : 0 ≤ c ∧ c < 256 := by
      simp [Lit.wf, IntKind.min, IntKind.max, IntKind.signed, IntKind.bits] at w3
      omega
    obtain ⟨c', rfl⟩ : ∃ c' : Nat, c = (c' : Int) := ⟨c.toNat, by omega⟩
    exact ⟨(kd, id, bh, c'), rfl, wf_i64 w1, wf_i64 w2, (by have := hk.2; show c' < 256; omega), w0⟩

theorem act_cells {H : Type} {enc : TypeId × Value → H} {w : World} {base : Nat} {spare : Nat → Bool} {held : Bool} {n : Nat} {a : Addr} {x : DataW H × List MemPlace} {cs : List Value}
    (hc : w.cells? base a 4 = some cs) (h : DataW.trod enc Tryd.prog w base spare held n 30 cs = some x) : ∃ o : ActX, ActWf o ∧ ∀ c, c < 4 → w.cell? (a.add c) = (encA o)[c]? := by
  obtain ⟨o, rfl, hw⟩ := trod_act h
  exact ⟨o, hw, fun c h4 => (World.cells?_some hc).2.2 c h4⟩

/-- Acts behind an address, if there are any. -/
def ActsIn (w : World) (ao : Option Addr) (xs : List ActX) : Prop := (∀ x ∈ xs, ActWf x) ∧ (xs = [] ∨ ∃ blk off, ao = some ⟨blk, off, none⟩ ∧ ∀ i x, xs[i]? = some x → ∀ c, c < 4 → w.cell? ⟨blk, off + i * 4 + c, none⟩ = (encA x)[c]?)
theorem ActsIn.later {w w' : World} {ao : Option Addr} {xs : List ActX} (h : ActsIn w ao xs) (hb : Below w.heap.size w w') : ActsIn w' ao xs := by
  refine ⟨h.1, ?_⟩
  rcases h.2 with h | ⟨g, o, h1, h2⟩
  · exact .inl h
  · refine .inr ⟨g, o, h1, fun i x hx c hc => ?_⟩
    have h3 := h2 i x hx c hc
    obtain ⟨u, hu⟩ : ∃ u, (encA x)[c]? = some u := ⟨_, List.getElem?_eq_getElem (by rw [encA_len]; exact hc)⟩
    rw [hu] at h3 ⊢
    rw [hb.cell (p := ⟨g, o + i * 4 + c, none⟩) (World.block_lt_of_cell? w ⟨g, o + i * 4 + c, none⟩ h3)]
    exact h3
theorem ActsIn.at {w : World} {ao : Option Addr} {xs : List ActX} (h : ActsIn w ao xs) {i : Nat} {kd : ByteArray} {id bh : Int} {c : Nat} (hi : xs[i]? = some (kd, id, bh, c)) : ∃ blk off, ao = some ⟨blk, off, none⟩ ∧ w.cell? ⟨blk, off + i * 4, none⟩ = some (.string kd) ∧ w.cell? ⟨blk, off + i * 4 + 1, none⟩ = some (.int .i64 id) ∧ w.cell? ⟨blk, off + i * 4 + 2, none⟩ = some (.int .i64 bh) ∧ w.cell? ⟨blk, off + i * 4 + 3, none⟩ = some (.int .u8 (c : Int)) := by
  rcases h.2 with h | ⟨b, o, h1, h2⟩
  · subst h; simp at hi
  · exact ⟨b, o, h1, h2 i _ hi 0 (by omega), h2 i _ hi 1 (by omega), h2 i _ hi 2 (by omega), h2 i _ hi 3 (by omega)⟩

theorem acts_in {H : Type} {enc : TypeId × Value → H} {W : World} {base : Nat} {sp : Nat → Bool} {held : Bool} {ao : Option Addr} {len cap : Nat} {d : DataW H} {p : List MemPlace}
    (h : DataW.Trod enc Tryd.prog W base sp held 22 (.slice ao len cap) d p) :
    ∃ xs : List ActX, xs.length = len ∧ len ≤ maxLen ∧ ActsIn W ao xs := by
  obtain ⟨fuel, hf⟩ := h
  rcases open_slice Tryd.underlying22 hf with ⟨hcs, _⟩ | ⟨a, len', cap', m, n, D, Pl, hcs, _, hl, hmax, hm, _, hx⟩
  · simp [Value.cells] at hcs
    obtain ⟨rfl, rfl, rfl⟩ := hcs
    exact ⟨[], rfl, Nat.zero_le _, fun x hx => by simp at hx, .inl rfl⟩
  · simp [Value.cells] at hcs
    obtain ⟨rfl, rfl, rfl⟩ := hcs
    have hmm : len ≤ m := by subst hm; split <;> omega
    rcases Nat.eq_zero_or_pos len with h0 | hpos
    · exact ⟨[], h0.symm, by omega, fun x hx => by simp at hx, .inl rfl⟩
    · have key : ∀ i, i < len → ∃ o : ActX, ActWf o ∧ ∀ c, c < 4 → W.cell? ((a.add (i * 4)).add c) = (encA o)[c]? := fun i hi => by
        obtain ⟨cs', h1, h2⟩ := hx i (by omega)
        rw [cellsAct] at h1
        exact act_cells h1 h2
      obtain ⟨f, hf⟩ := choose_lt key
      obtain ⟨b, off, spot⟩ := a
      have h00 : W.cell? ((Addr.add ⟨b, off, spot⟩ (0 * 4)).add 0) = some (.string (f 0).1) := (hf 0 hpos).2 0 (by omega)
      have hspot : spot = none := by simpa [Addr.add] using World.cell?_spot h00
      subst hspot
      refine ⟨(List.range len).map f, by simp, by omega, fun x hx => ?_, .inr ⟨b, off, rfl, fun i x hx c hc => ?_⟩⟩
      · obtain ⟨i, hi, rfl⟩ := List.mem_map.1 hx
        exact (hf i (List.mem_range.1 hi)).1
      · have hil : i < len := by
          have := (List.getElem?_eq_some_iff.1 hx).1
          simpa using this
        rw [List.getElem?_map, List.getElem?_range hil] at hx
        simp only [Option.map_some, Option.some.injEq] at hx
        subst hx
        have h1 := (hf i hil).2 c hc
        rw [add_plain, add_plain] at h1
        exact h1
end Go.Proofs.YtchngdhmloahbabDoor
