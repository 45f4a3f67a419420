/- Two operations compared; a right operation, written and read back. -/
import Derived.Test.YtnfhbmgkiknaaaaGreatDoorOpText
import Derived.Test.YtnfhbmgkiknaaaaGreatDoorOpRead3
namespace Go.Proofs.YtnfhbmgkiknaaaaGreatDoor
open Go.RowKit

/-- Two operations, compared. -/
def eqB (t b n : Int) (k : Nat) (node other : Int) (name value : ByteArray) (t' b' n' : Int) (k' : Nat) (node' other' : Int) (name' value' : ByteArray) : Bool := decide (t = t' ∧ b = b' ∧ n = n' ∧ k = k' ∧ node = node' ∧ other = other' ∧ name = name' ∧ value = value')
theorem eqOp (t b n : Int) (k : Nat) (node other : Int) (name value : ByteArray) (t' b' n' : Int) (k' : Nat) (node' other' : Int) (name' value' : ByteArray) (w : World) : (Op.equalIn 10000 25 (.agg #[.int .i64 t, .int .i64 b, .int .i64 n, .int .u8 (k : Int), .int .i64 node, .int .i64 other, .string name, .string value]) (.agg #[.int .i64 t', .int .i64 b', .int .i64 n', .int .u8 (k' : Int), .int .i64 node', .int .i64 other', .string name', .string value'])).run Tryz.prog w = .ok (eqB t b n k node other name value t' b' n' k' node' other' name' value') w := by
  have hs : ∀ x y : ByteArray, x.toList = y.toList ↔ x = y := fun x y => ⟨fun h => by rw [ByteArray.toList_eq, ByteArray.toList_eq] at h; exact WideShapes.bytes_inj h, fun h => by rw [h]⟩
  unfold eqB
  go_simp
  simp only [Int.natCast_inj]
  by_cases h1 : t = t' <;> by_cases h2 : b = b' <;> by_cases h3 : n = n' <;> by_cases h4 : k = k' <;> by_cases h5 : node = node' <;> by_cases h6 : other = other' <;> by_cases h7 : name = name' <;> by_cases h8 : value = value' <;> simp [h1, h2, h3, h4, h5, h6, h7, h8]
theorem eqB_self (t b n : Int) (k : Nat) (node other : Int) (name value : ByteArray) : eqB t b n k node other name value t b n k node other name value = true := by simp [eqB]

theorem text_len {t b n : Int} {k : Nat} {node other : Int} {name value : List UInt8} (h : opE t b n k node other name value = 0) : (opTextL t b n k node other name value).length ≤ 1000 := by
  obtain ⟨h1, h2, h3, h4, h5, h6, hk, h7, h8, h9, h10, -, hn, hv⟩ := opE_zero h
  have e1 := Lib.itoa_length_le t (by omega) (by omega)
  have e2 := Lib.itoa_length_le b (by omega) (by omega)
  have e3 := Lib.itoa_length_le n (by omega) (by omega)
  have e4 := Lib.itoa_length_le node (by omega) (by omega)
  have e5 := Lib.itoa_length_le other (by omega) (by omega)
  have e6 := hexL_length value
  unfold opTextL
  simp only [joinP, List.length_append, List.length_cons, List.length_nil]
  omega
theorem same_text (t b n : Int) (k : Nat) (node other : Int) (name value : ByteArray) (t' b' n' : Int) (k' : Nat) (node' other' : Int) (name' value' : ByteArray) (h : opE t b n k node other name.data.toList value.data.toList = 0) (h' : opE t' b' n' k' node' other' name'.data.toList value'.data.toList = 0) : (opTextL t b n k node other name.data.toList value.data.toList == opTextL t' b' n' k' node' other' name'.data.toList value'.data.toList) = eqB t b n k node other name value t' b' n' k' node' other' name' value' := by
  unfold eqB
  by_cases he : opTextL t b n k node other name.data.toList value.data.toList = opTextL t' b' n' k' node' other' name'.data.toList value'.data.toList
  · rw [he]
    have p1 := parts_text h
    rw [he, parts_text h'] at p1
    simp only [Option.some.injEq, Prod.mk.injEq] at p1
    obtain ⟨q0, q1, q2, q3, q4, q5, q6, q7⟩ := p1
    obtain ⟨a1, a2, a3, a4, a5, a6, ak, a7, a8, a9, a10, -, -, -⟩ := opE_zero h
    obtain ⟨b1, b2, b3, b4, b5, b6, bk, b7, b8, b9, b10, -, -, -⟩ := opE_zero h'
    have hk : k = k' := by
      have := congrArg UInt8.toNat q0
      simp at this
      omega
    rw [decide_eq_true]
    · simp
    · exact ⟨by omega, by omega, by omega, hk, by omega, by omega, (WideShapes.bytes_inj q6).symm, (WideShapes.bytes_inj q7).symm⟩
  · rw [decide_eq_false]
    · simpa using he
    · rintro ⟨rfl, rfl, rfl, rfl, rfl, rfl, rfl, rfl⟩
      exact he rfl

/-- What the law's road reaches. -/
structure ApE (ad : Nat → Addr) (m : Int) (w : World) : Prop where
  txt : TxtE ad w
  max : w.cell? ⟨13, 0, none⟩ = some (.int .i64 m)
theorem ApE.later {ad : Nat → Addr} {m : Int} {w w' : World} (h : ApE ad m w) (hb : Below w.heap.size w w') : ApE ad m w' := ⟨h.txt.later hb, cellLater hb h.max⟩

theorem read_back {ad : Nat → Addr} {m : Int} (t b n : Int) (k : Nat) (node other : Int) (name value : ByteArray) (w : World) (hE : ApE ad m w) (h : opE t b n k node other name.data.toList value.data.toList = 0) :
    Calls Tryz.prog 11 #[.string ⟨(opTextL t b n k node other name.data.toList value.data.toList).toArray⟩] w fun e w' => e = .returned (.tuple #[.agg #[.int .i64 t, .int .i64 b, .int .i64 n, .int .u8 (k : Int), .int .i64 node, .int .i64 other, .string name, .string value], .nilIface]) ∧ Below w.heap.size w w' := by
  obtain ⟨h1, h2, h3, h4, h5, h6, hk, h7, h8, h9, h10, -, hn, hv⟩ := opE_zero h
  have hl := text_len h
  have hp := parts_text h
  have hk' : (UInt8.ofNat k).toNat = k := by simp; omega
  have t1 : ((t.toNat : Nat) : Int) = t := by omega
  have t2 : ((b.toNat : Nat) : Int) = b := by omega
  have t3 : ((n.toNat : Nat) : Int) = n := by omega
  have t4 : ((node.toNat : Nat) : Int) = node := by omega
  have t5 : ((other.toNat : Nat) : Int) = other := by omega
  have hr := read_ok (ad := ad) ⟨(opTextL t b n k node other name.data.toList value.data.toList).toArray⟩ w (by rw [sizeOfList]; omega) m hE.max hE.txt.op4 _ _ _ _ _ _ _ _ hp (by omega) (by omega) (by rw [hk', t1, t2, t3, t4, t5]; exact h)
  unfold partsO at hr
  simp only [hk', t1, t2, t3, t4, t5, arr_data] at hr
  exact hr

end Go.Proofs.YtnfhbmgkiknaaaaGreatDoor
