/- A slice of operations that came in, as the laws ask for it. -/
import Derived.Test.YtcggmagdndhkbaaDoorOpSlice
import Derived.Test.YtcggmagdndhkbaaDoorOpsIn
namespace Go.Proofs.YtcggmagdndhkbaaDoor
open Go.ChangeShapes Go.WideShapes Go.RowKit Go.Deep

theorem ops_in {H : Type} {enc : TypeId × Value → H} {W : World} {base : Nat} {sp : Nat → Bool} {held : Bool} {ao : Option Addr} {len cap : Nat} {d : DataW H} {p : List MemPlace}
    (h : DataW.Trod enc Tryd.prog W base sp held 22 (.slice ao len cap) d p) : ∃ xs : List OpX, xs.length = len ∧ len ≤ maxLen ∧ OpsIn W ao xs := by
  obtain ⟨hm, hx⟩ := ops_slice h
  rcases hx with rfl | ⟨xs, hl, h0 | ⟨b, off, c, he, hc⟩⟩
  · exact ⟨[], rfl, hm, .inl rfl⟩
  · exact ⟨xs, hl, hm, .inl h0.2⟩
  · cases he
    exact ⟨xs, hl, hm, .inr ⟨b, off, rfl, hc⟩⟩
end Go.Proofs.YtcggmagdndhkbaaDoor
