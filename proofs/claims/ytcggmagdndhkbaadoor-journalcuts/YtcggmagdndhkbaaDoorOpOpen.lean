/- How the law's arguments of type api.Op are opened and shut, and how the row's list gives the errors that Check tells. -/
import Derived.Test.YtcggmagdndhkbaaDoorOpCheck
import Derived.Test.YtcggmagdndhkbaaDoorErrSome
import Derived.Test.YtcggmagdndhkbaaDoorCellsInt
import Derived.ChangeArms
import Derived.ChangeSame
namespace Go.Proofs.YtcggmagdndhkbaaDoor
open Go.ChangeShapes Go.WideShapes Go.ChangeAt Go.RowKit Go.Joins

theorem cellsOp : Tryd.prog.cellsOf 35 = 8 := by kernel_rfl
theorem cellsStamp2 : Tryd.prog.cellsOf 33 = 2 := by kernel_rfl
theorem cellsByte1 : Tryd.prog.cellsOf 5 = 1 := by kernel_rfl
theorem cellsStr1 : Tryd.prog.cellsOf 9 = 1 := by kernel_rfl

/-- An operation as data. -/
def opD (H : Type) (t b n : Int) (k : Nat) (node other : Int) (name value : ByteArray) : DataW H := .agg [.agg [.lit (.int .i64 t), .lit (.int .i64 b)], .lit (.int .i64 n), .lit (.int .u8 (k : Int)), .lit (.int .i64 node), .lit (.int .i64 other), .lit (.string name.data.toList), .lit (.string value.data.toList)]
/-- Its numbers and texts are within what the language has. -/
structure OpWf (t b n : Int) (k : Nat) (node other : Int) (name value : ByteArray) : Prop where
  t : (Lit.int .i64 t).wf = true
  b : (Lit.int .i64 b).wf = true
  n : (Lit.int .i64 n).wf = true
  k : (Lit.int .u8 (k : Int)).wf = true
  node : (Lit.int .i64 node).wf = true
  other : (Lit.int .i64 other).wf = true
  name : name.size ≤ maxLen
  value : value.size ≤ maxLen

theorem array8 {α : Type} {cs : List α} (h : cs.length = 8) : ∃ c0 c1 c2 c3 c4 c5 c6 c7, cs = [c0, c1, c2, c3, c4, c5, c6, c7] := by
  match cs, h with
  | [c0, c1, c2, c3, c4, c5, c6, c7], _ => exact ⟨c0, c1, c2, c3, c4, c5, c6, c7, rfl⟩

set_option maxRecDepth 100000 in
set_option maxHeartbeats 1000000 in
theorem trod_op {H : Type} {enc : TypeId × Value → H} {W : World} {base : Nat} {sp : Nat → Bool} {held : Bool} {fuel : Nat} {cs : List Value} {x : DataW H × List MemPlace} (h : DataW.trod enc Tryd.prog W base sp held fuel 35 cs = some x) :
    ∃ (t b n : Int) (k : Nat) (node other : Int) (name value : ByteArray), cs = [.int .i64 t, .int .i64 b, .int .i64 n, .int .u8 (k : Int), .int .i64 node, .int .i64 other, .string name, .string value] ∧ x = (opD H t b n k node other name value, []) ∧ OpWf t b n k node other name value := by
  obtain ⟨xs, m, _, rfl, hl, hlen, hf⟩ := DataW.trod_struct Tryd.underlying35 h
  rw [cellsOp] at hl
  obtain ⟨c0, c1, c2, c3, c4, c5, c6, c7, rfl⟩ := array8 hl
  match xs, hlen with
  | [y0, y1, y2, y3, y4, y5, y6], _ =>
    have g0 := hf 0 _ rfl
    have g1 := hf 1 _ rfl
    have g2 := hf 2 _ rfl
    have g3 := hf 3 _ rfl
    have g4 := hf 4 _ rfl
    have g5 := hf 5 _ rfl
    have g6 := hf 6 _ rfl
    simp [cellsStamp2, cellsInt, cellsByte1, cellsStr1] at g0 g1 g2 g3 g4 g5 g6
    obtain ⟨z0, z1, m2, rfl, -, s0, s1⟩ := trod_struct2 Tryd.underlying33 g0
    simp [cellsInt] at s0 s1
    obtain ⟨t, e0, rfl, w0⟩ := DataW.trod_int Tryd.underlying3 s0
    obtain ⟨b, e1, rfl, w1⟩ := DataW.trod_int Tryd.underlying3 s1
    obtain ⟨n, e2, rfl, w2⟩ := DataW.trod_int Tryd.underlying3 g1
    obtain ⟨k, e3, rfl, w3⟩ := DataW.trod_int Tryd.underlying5 g2
    obtain ⟨node, e4, rfl, w4⟩ := DataW.trod_int Tryd.underlying3 g3
    obtain ⟨other, e5, rfl, w5⟩ := DataW.trod_int Tryd.underlying3 g4
    obtain ⟨name, e6, rfl, w6⟩ := DataW.trod_string Tryd.underlying9 g5
    obtain ⟨value, e7, rfl, w7⟩ := DataW.trod_string Tryd.underlying9 g6
    simp at e0 e1 e2 e3 e4 e5 e6 e7
    subst e0 e1 e2 e3 e4 e5 e6 e7
    have hk : 0 ≤ k := by
      simp [Lit.wf, IntKind.min, IntKind.max, IntKind.signed, IntKind.bits] at w3
      omega
    obtain ⟨k', rfl⟩ : ∃ k' : Nat, k = (k' : Int) := ⟨k.toNat, by omega⟩
    exact ⟨t, b, n, k', node, other, name, value, rfl, by simp [opD], ⟨w0, w1, w2, w3, w4, w5, w6, w7⟩⟩

set_option maxRecDepth 100000 in
theorem trod_op_mk {H : Type} {enc : TypeId × Value → H} {W : World} {base : Nat} {sp : Nat → Bool} {held : Bool} {t b n : Int} {k : Nat} {node other : Int} {name value : ByteArray} (h : OpWf t b n k node other name value) (m : Nat) :
    DataW.trod enc Tryd.prog W base sp held (m + 3) 35 [.int .i64 t, .int .i64 b, .int .i64 n, .int .u8 (k : Int), .int .i64 node, .int .i64 other, .string name, .string value] = some (opD H t b n k node other name value, []) := by
  have s0 : DataW.trod enc Tryd.prog W base sp held (m + 2) 33 [.int .i64 t, .int .i64 b] = some (.agg [.lit (.int .i64 t), .lit (.int .i64 b)], []) := by
    have := trod_struct2_mk (enc := enc) (w := W) (base := base) (spare := sp) (held := held) (n := m + 1) (cs := [.int .i64 t, .int .i64 b]) Tryd.underlying33 (by rw [cellsStamp2]; rfl) (by simpa [cellsInt] using trod_int_mk m Tryd.underlying3 h.t) (by simpa [cellsInt] using trod_int_mk m Tryd.underlying3 h.b)
    simpa using this
  have hi : ∀ x, (Lit.int .i64 x).wf = true → DataW.trod enc Tryd.prog W base sp held (m + 2) 3 [.int .i64 x] = some (.lit (.int .i64 x), []) := fun x hx => trod_int_mk (m + 1) Tryd.underlying3 hx
  have hk : DataW.trod enc Tryd.prog W base sp held (m + 2) 5 [.int .u8 (k : Int)] = some (.lit (.int .u8 (k : Int)), []) := trod_int_mk (m + 1) Tryd.underlying5 h.k
  have hs : ∀ x : ByteArray, x.size ≤ maxLen → DataW.trod enc Tryd.prog W base sp held (m + 2) 9 [.string x] = some (.lit (.string x.data.toList), []) := fun x hx => by simp [DataW.trod, Tryd.underlying9, hx]
  have := trod_struct_mk (enc := enc) (w := W) (base := base) (spare := sp) (held := held) (n := m + 2) (cs := [.int .i64 t, .int .i64 b, .int .i64 n, .int .u8 (k : Int), .int .i64 node, .int .i64 other, .string name, .string value])
    (xs := [(.agg [.lit (.int .i64 t), .lit (.int .i64 b)], []), (.lit (.int .i64 n), []), (.lit (.int .u8 (k : Int)), []), (.lit (.int .i64 node), []), (.lit (.int .i64 other), []), (.lit (.string name.data.toList), []), (.lit (.string value.data.toList), [])])
    Tryd.underlying35 (by rw [cellsOp]; rfl) (by simp [cellsStamp2, cellsInt, cellsByte1, cellsStr1, s0, hi _ h.n, hk, hi _ h.node, hi _ h.other, hs _ h.name, hs _ h.value])
  simpa [opD] using this

set_option maxRecDepth 100000 in
theorem open_op {H : Type} {enc : TypeId × Value → H} {W : World} {base : Nat} {r : Reach} {b0 : Nat} {sp : Nat → Bool} {held : Bool} {v : Value} {d : DataW H} {p : List MemPlace}
    (hv : Value.okWide Tryd.prog W r b0 35 v) (h : DataW.Trod enc Tryd.prog W base sp held 35 v d p) :
    ∃ (t b n : Int) (k : Nat) (node other : Int) (name value : ByteArray), v = .agg #[.int .i64 t, .int .i64 b, .int .i64 n, .int .u8 (k : Int), .int .i64 node, .int .i64 other, .string name, .string value] ∧ d = opD H t b n k node other name value ∧ p = [] ∧ OpWf t b n k node other name value := by
  obtain ⟨cs, rfl, hsz⟩ := okWide_struct Tryd.underlying35 hv
  obtain ⟨fuel, hf⟩ := h
  obtain ⟨t, b, n, k, node, other, name, value, e, hx, hw⟩ := trod_op hf
  obtain ⟨l⟩ := cs
  simp only [Value.cells] at e
  simp only [Prod.mk.injEq] at hx
  refine ⟨t, b, n, k, node, other, name, value, ?_, hx.1, hx.2, hw⟩
  subst e
  rfl

set_option maxRecDepth 100000 in
theorem shut_op {H : Type} {enc : TypeId × Value → H} {W : World} {base : Nat} {sp : Nat → Bool} {held : Bool} {t b n : Int} {k : Nat} {node other : Int} {name value : ByteArray} (h : OpWf t b n k node other name value) :
    DataW.Trod enc Tryd.prog W base sp held 35 (.agg #[.int .i64 t, .int .i64 b, .int .i64 n, .int .u8 (k : Int), .int .i64 node, .int .i64 other, .string name, .string value]) (opD H t b n k node other name value) [] :=
  ⟨3, by simpa [Value.cells] using trod_op_mk h 0⟩

end Go.Proofs.YtcggmagdndhkbaaDoor
