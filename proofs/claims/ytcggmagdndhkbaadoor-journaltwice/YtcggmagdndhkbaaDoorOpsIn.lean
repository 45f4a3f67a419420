/- Operations behind an address, and the laws' helper LongOps at any bound, over the translation's bodies. -/
import Derived.Test.YtcggmagdndhkbaaDoorOpRow
namespace Go.Proofs.YtcggmagdndhkbaaDoor
open Go.RowKit Go.Lib Go.Sort

/-- Operations behind an address, if there are any. -/
def OpsIn (w : World) (ao : Option Addr) (xs : List OpX) : Prop := xs = [] ∨ ∃ blk off, ao = some ⟨blk, off, none⟩ ∧ ∀ j u, (cellsOf xs)[j]? = some u → w.cell? ⟨blk, off + j, none⟩ = some u
theorem OpsIn.later {w w' : World} {ao : Option Addr} {xs : List OpX} (h : OpsIn w ao xs) (hb : Below w.heap.size w w') : OpsIn w' ao xs := by
  rcases h with h | ⟨g, o, h1, h2⟩
  · exact .inl h
  · exact .inr ⟨g, o, h1, fun j u hj => cellKept hb (h2 j u hj)⟩
/-- Its texts are short. -/
def Short (x : OpX) : Prop := x.2.2.2.2.2.2.1.size ≤ 60 ∧ x.2.2.2.2.2.2.2.size ≤ 60

set_option maxHeartbeats 4000000 in
theorem longN (m : Nat) (w : World) (ao : Option Addr) (cap : Nat) (xs : List OpX) (h : OpsIn w ao xs) (hn : xs.length < 9223372036854775808) :
    Calls Tryd.prog 6 #[.slice ao xs.length cap, .int .i64 (m : Int)] w fun e w' => (e = .returned (.int .i64 1) ∨ (e = .returned (.int .i64 0) ∧ xs.length ≤ m ∧ ∀ j, j < xs.length → Short xs[j]!)) ∧ w' = w := by
  have HC : Aside (OpsIn w ao xs) := h
  clear h
  by_cases hl : xs.length ≤ m
  · have q0 : decide ((m : Int) < (xs.length : Int)) = false := by simp; omega
    have q1 : decide (m < xs.length) = false := decide_eq_false (by omega)
    go_enter Tryd.func6, Tryd.ntmps6
    go_wp2
    clear q0 q1
    go_loopg [5] xs.length (fun kx s5 wr => ∃ (i : Nat), s5 = .int .i64 (i : Int) ∧ i ≤ xs.length ∧ xs.length - i ≤ kx ∧ wr = w ∧ ∀ j, j < i → Short xs[j]!)
    case atStart => exact ⟨0, rfl, Nat.zero_le _, Nat.le_refl _, rfl, fun j hj => absurd hj (Nat.not_lt_zero _)⟩
    case round =>
      obtain ⟨i, rfl, hi, hkx, rfl, hS⟩ := hrel
      have HS : Aside (∀ j, j < i → Short xs[j]!) := hS
      clear hS
      by_cases hlt : i < xs.length
      · have hltz : decide ((i : Int) < (xs.length : Int)) = true := by simp; omega
        have ex : ((i : Int)).toNat = i := by omega
        have px : (0 : Int) ≤ (i : Int) := by omega
        have bx : (i : Int) < (xs.length : Int) := by omega
        obtain ⟨b, off, rfl, hc⟩ : ∃ b off, ao = some ⟨b, off, none⟩ ∧ ∀ j u, (cellsOf xs)[j]? = some u → wr.cell? ⟨b, off + j, none⟩ = some u := by
          rcases HC.out with h0 | h1
          · subst h0; simp at hlt
          · exact h1
        obtain ⟨nm, c6, e6⟩ : ∃ nm : ByteArray, wr.cell? ⟨b, off + i * 8 + 6, none⟩ = some (.string nm) ∧ Aside (nm = (xs[i]!).2.2.2.2.2.2.1) := ⟨_, field_at hc i 6 hlt (by omega), rfl⟩
        obtain ⟨vl, c7, e7⟩ : ∃ vl : ByteArray, wr.cell? ⟨b, off + i * 8 + 7, none⟩ = some (.string vl) ∧ Aside (vl = (xs[i]!).2.2.2.2.2.2.2) := ⟨_, field_at hc i 7 hlt (by omega), rfl⟩
        clear hc HC
        by_cases h1 : (60 : Int) < (nm.size : Int)
        · have d1 : decide ((60 : Int) < (nm.size : Int)) = true := decide_eq_true h1
          go_wp2
          go_ret
          exact ⟨.inl rfl, rfl⟩
        · have d1 : decide ((60 : Int) < (nm.size : Int)) = false := decide_eq_false h1
          by_cases h2 : (60 : Int) < (vl.size : Int)
          · have d2 : decide ((60 : Int) < (vl.size : Int)) = true := decide_eq_true h2
            go_wp2
            go_ret
            exact ⟨.inl rfl, rfl⟩
          · have d2 : decide ((60 : Int) < (vl.size : Int)) = false := decide_eq_false h2
            go_wp2
            go_roundg (xs.length - (i + 1))
            case measure => omega
            case rel =>
              refine ⟨i + 1, by go_num, by omega, Nat.le_refl _, rfl, fun j hj => ?_⟩
              rcases Nat.lt_or_ge j i with h | h
              · exact HS.out j h
              · obtain rfl : j = i := by omega
                exact ⟨by rw [← e6.out]; omega, by rw [← e7.out]; omega⟩
      · have hltz : decide ((i : Int) < (xs.length : Int)) = false := by simp; omega
        go_wp2
        go_ret
        exact ⟨.inr ⟨rfl, hl, fun j hj => HS.out j (by omega)⟩, rfl⟩
  · have q0 : decide ((m : Int) < (xs.length : Int)) = true := by simp; omega
    have q1 : decide (m < xs.length) = true := decide_eq_true (by omega)
    go_enter Tryd.func6, Tryd.ntmps6
    go_wp2
    go_ret
    exact ⟨.inl rfl, rfl⟩
end Go.Proofs.YtcggmagdndhkbaaDoor
