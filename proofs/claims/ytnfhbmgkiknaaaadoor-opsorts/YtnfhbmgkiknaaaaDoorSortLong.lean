/- Contract of the law's LongOps, over the translation's bodies. -/
import Derived.Test.YtnfhbmgkiknaaaaDoorSortSame2
namespace Go.Proofs.YtnfhbmgkiknaaaaDoor
open Go.Shelf Go.RowKit Go.Lib Go.Sort

set_option maxHeartbeats 4000000 in
theorem long_any (w : World) (v : Value) (xs : List OpX) (h : OpsAt w v xs) (hn : xs.length < 4611686018427387904) :
    Calls Tryd.prog 43 #[v, .int .i64 100] w fun e w' => (e = .returned (.int .i64 1) ∨ (e = .returned (.int .i64 0) ∧ xs.length ≤ 100)) ∧ w' = w := by
  rcases h with ⟨rfl, rfl⟩ | ⟨b, off, c, rfl, hc⟩
  · go_enter Tryd.func43, Tryd.ntmps43
    go_wp2
    refine wp_loop_rounds 1 ?_
    rw [rounds_succ]
    go_wp2
    go_ret
    exact ⟨.inr ⟨rfl, by simp⟩, rfl⟩
  · have HC : Aside (∀ j u, (cellsOf xs)[j]? = some u → w.cell? ⟨b, off + j, none⟩ = some u) := hc
    clear hc
    by_cases hl : xs.length ≤ 100
    · have q0 : decide ((100 : Int) < (xs.length : Int)) = false := by simp; omega
      go_enter Tryd.func43, Tryd.ntmps43
      go_wp2
      clear q0
      go_loopg [5] xs.length (fun kx s5 wr => ∃ (i : Nat), s5 = .int .i64 (i : Int) ∧ i ≤ xs.length ∧ xs.length - i ≤ kx ∧ wr = w)
      case atStart => exact ⟨0, rfl, Nat.zero_le _, Nat.le_refl _, rfl⟩
      case round =>
        obtain ⟨i, rfl, hi, hkx, rfl⟩ := hrel
        by_cases hlt : i < xs.length
        · have hltz : decide ((i : Int) < (xs.length : Int)) = true := by simp; omega
          have ex : ((i : Int)).toNat = i := by omega
          have px : (0 : Int) ≤ (i : Int) := by omega
          have bx : (i : Int) < (xs.length : Int) := by omega
          obtain ⟨nm, c6⟩ : ∃ nm : ByteArray, wr.cell? ⟨b, off + i * 8 + 6, none⟩ = some (.string nm) := ⟨_, field_at HC.out i 6 hlt (by omega)⟩
          obtain ⟨vl, c7⟩ : ∃ vl : ByteArray, wr.cell? ⟨b, off + i * 8 + 7, none⟩ = some (.string vl) := ⟨_, field_at HC.out i 7 hlt (by omega)⟩
          by_cases h1 : (60 : Int) < (nm.size : Int)
          · have d1 : decide ((60 : Int) < (nm.size : Int)) = true := decide_eq_true h1
            go_wp2
            go_ret
            exact ⟨.inl rfl, rfl⟩
          · have d1 : decide ((60 : Int) < (nm.size : Int)) = false := decide_eq_false h1
            by_cases h2 : (60 : Int) < (vl.size : Int)
            · have d2 : decide ((60 : Int) < (vl.size : Int)) = true := decide_eq_true h2
              go_wp2
              go_ret
              exact ⟨.inl rfl, rfl⟩
            · have d2 : decide ((60 : Int) < (vl.size : Int)) = false := decide_eq_false h2
              go_wp2
              go_roundg (xs.length - (i + 1))
              case measure => omega
              case rel => exact ⟨i + 1, by go_num, by omega, Nat.le_refl _, rfl⟩
        · have hltz : decide ((i : Int) < (xs.length : Int)) = false := by simp; omega
          go_wp2
          go_ret
          exact ⟨.inr ⟨rfl, hl⟩, rfl⟩
    · have q0 : decide ((100 : Int) < (xs.length : Int)) = true := by simp; omega
      go_enter Tryd.func43, Tryd.ntmps43
      go_wp2
      go_ret
      exact ⟨.inl rfl, rfl⟩
end Go.Proofs.YtnfhbmgkiknaaaaDoor
