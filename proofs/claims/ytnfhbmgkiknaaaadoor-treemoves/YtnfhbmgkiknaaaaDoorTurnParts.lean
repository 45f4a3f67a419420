/- Contracts of the laws' helpers LongOps (at forty) and grown, over the translation's bodies. -/
import Derived.Test.YtnfhbmgkiknaaaaDoorTreeApply
import Derived.Test.YtnfhbmgkiknaaaaDoorTreeUndoAt
import Derived.Test.YtnfhbmgkiknaaaaDoorTreeInside
import Derived.Test.YtnfhbmgkiknaaaaDoorOpRow
namespace Go.Proofs.YtnfhbmgkiknaaaaDoor
open Go.RowKit Go.Lib Go.Sort Go.Maps
open scoped Classical

/-- Operations behind an address, if there are any. -/
def OpsIn (w : World) (ao : Option Addr) (xs : List OpX) : Prop := xs = [] ∨ ∃ blk off, ao = some ⟨blk, off, none⟩ ∧ ∀ j u, (cellsOf xs)[j]? = some u → w.cell? ⟨blk, off + j, none⟩ = some u
theorem OpsIn.later {w w' : World} {ao : Option Addr} {xs : List OpX} (h : OpsIn w ao xs) (hb : Below w.heap.size w w') : OpsIn w' ao xs := by
  rcases h with h | ⟨g, o, h1, h2⟩
  · exact .inl h
  · exact .inr ⟨g, o, h1, fun j u hj => cellKept hb (h2 j u hj)⟩
/-- Its texts are short. -/
def Short (x : OpX) : Prop := x.2.2.2.2.2.2.1.size ≤ 60 ∧ x.2.2.2.2.2.2.2.size ≤ 60

set_option maxHeartbeats 4000000 in
theorem long40 (w : World) (ao : Option Addr) (cap : Nat) (xs : List OpX) (h : OpsIn w ao xs) (hn : xs.length < 9223372036854775808) :
    Calls Tryd.prog 43 #[.slice ao xs.length cap, .int .i64 40] w fun e w' => (e = .returned (.int .i64 1) ∨ (e = .returned (.int .i64 0) ∧ xs.length ≤ 40 ∧ ∀ j, j < xs.length → Short xs[j]!)) ∧ w' = w := by
  have HC : Aside (OpsIn w ao xs) := h
  clear h
  by_cases hl : xs.length ≤ 40
  · have q0 : decide ((40 : Int) < (xs.length : Int)) = false := by simp; omega
    go_enter Tryd.func43, Tryd.ntmps43
    go_wp2
    clear q0
    go_loopg [5] xs.length (fun kx s5 wr => ∃ (i : Nat), s5 = .int .i64 (i : Int) ∧ i ≤ xs.length ∧ xs.length - i ≤ kx ∧ wr = w ∧ ∀ j, j < i → Short xs[j]!)
    case atStart => exact ⟨0, rfl, Nat.zero_le _, Nat.le_refl _, rfl, fun j hj => absurd hj (Nat.not_lt_zero _)⟩
    case round =>
      obtain ⟨i, rfl, hi, hkx, rfl, hS⟩ := hrel
      have HS : Aside (∀ j, j < i → Short xs[j]!) := hS
      clear hS
      by_cases hlt : i < xs.length
      · have hltz : decide ((i : Int) < (xs.length : Int)) = true := by simp; omega
        have ex : ((i : Int)).toNat = i := by omega
        have px : (0 : Int) ≤ (i : Int) := by omega
        have bx : (i : Int) < (xs.length : Int) := by omega
        obtain ⟨b, off, rfl, hc⟩ : ∃ b off, ao = some ⟨b, off, none⟩ ∧ ∀ j u, (cellsOf xs)[j]? = some u → wr.cell? ⟨b, off + j, none⟩ = some u := by
          rcases HC.out with h0 | h1
          · subst h0; simp at hlt
          · exact h1
        obtain ⟨nm, c6, e6⟩ : ∃ nm : ByteArray, wr.cell? ⟨b, off + i * 8 + 6, none⟩ = some (.string nm) ∧ Aside (nm = (xs[i]!).2.2.2.2.2.2.1) := ⟨_, field_at hc i 6 hlt (by omega), rfl⟩
        obtain ⟨vl, c7, e7⟩ : ∃ vl : ByteArray, wr.cell? ⟨b, off + i * 8 + 7, none⟩ = some (.string vl) ∧ Aside (vl = (xs[i]!).2.2.2.2.2.2.2) := ⟨_, field_at hc i 7 hlt (by omega), rfl⟩
        clear hc HC
        by_cases h1 : (60 : Int) < (nm.size : Int)
        · have d1 : decide ((60 : Int) < (nm.size : Int)) = true := decide_eq_true h1
          go_wp2
          go_ret
          exact ⟨.inl rfl, rfl⟩
        · have d1 : decide ((60 : Int) < (nm.size : Int)) = false := decide_eq_false h1
          by_cases h2 : (60 : Int) < (vl.size : Int)
          · have d2 : decide ((60 : Int) < (vl.size : Int)) = true := decide_eq_true h2
            go_wp2
            go_ret
            exact ⟨.inl rfl, rfl⟩
          · have d2 : decide ((60 : Int) < (vl.size : Int)) = false := decide_eq_false h2
            go_wp2
            go_roundg (xs.length - (i + 1))
            case measure => omega
            case rel =>
              refine ⟨i + 1, by go_num, by omega, Nat.le_refl _, rfl, fun j hj => ?_⟩
              rcases Nat.lt_or_ge j i with h | h
              · exact HS.out j h
              · obtain rfl : j = i := by omega
                exact ⟨by rw [← e6.out]; omega, by rw [← e7.out]; omega⟩
      · have hltz : decide ((i : Int) < (xs.length : Int)) = false := by simp; omega
        go_wp2
        go_ret
        exact ⟨.inr ⟨rfl, hl, fun j hj => HS.out j (by omega)⟩, rfl⟩
  · have q0 : decide ((40 : Int) < (xs.length : Int)) = true := by simp; omega
    go_enter Tryd.func43, Tryd.ntmps43
    go_wp2
    go_ret
    exact ⟨.inl rfl, rfl⟩

theorem row_shape {w : World} {base n k : Nat} {v : Value} {e : TypeId} {xs : List Value} (h : w.ownsRow base e k v n xs) : ∃ ao cap, v = .slice ao n cap := by
  rcases h.2 with ⟨h1, h2⟩ | ⟨g, cap, cur, rfl, _⟩
  · subst h2; exact ⟨_, _, h1⟩
  · exact ⟨_, _, rfl⟩
theorem made_one (m : Mov) (hne : m.2.1 ≠ m.2.2.1) : madeBy [m] = upd noSta m.2.1 (some m.2) := by
  show step noSta m = _
  exact step_goes (fun hi => hi.elim hne (fun h => ins_none rfl h))

set_option maxHeartbeats 1000000 in
/-- A node in Root. -/
theorem grown_any {ad : Nat → Addr} (w : World) (hE : Op4 ad w) :
    Calls Tryd.prog 50 #[] w fun e w' => e = .returned (.bool true) ∧ Below w.heap.size w w' := by
  have HE : Aside (Op4 ad w) := hE
  clear hE
  go_enter Tryd.func50, Tryd.ntmps50
  go_wp2_with fail
  refine (treeNew w).mono ?_
  rintro e w1 ⟨rfl, hw1⟩
  have B1 : Below w.heap.size w w1 := by rw [hw1]; exact ((Below.refl _ w).alloc (Nat.le_refl _) _).alloc (by simp) _
  have T1 : TreeAt w.heap.size w1 (w.heap.size + 1) w.heap.size (.slice none 0 0) [] := by rw [hw1]; exact treeAt_new w _
  have A1 : Aside (TreeAt w.heap.size w1 (w.heap.size + 1) w.heap.size (.slice none 0 0) [] ∧ Below w.heap.size w w1) := ⟨T1, B1⟩
  clear B1 T1 hw1
  obtain ⟨B, hB⟩ : ∃ B, Aside (B = w.heap.size) := ⟨_, rfl⟩
  go_wp2_with fail
  refine (apply_core undo_ok w1 w.heap.size (w.heap.size + 1) w.heap.size (.slice none 0 0) [] 1 0 1 4 0 ⟨#[97]⟩ ⟨#[]⟩ (HE.out.later A1.out.2) A1.out.1 A1.out.2.size (by simp) (by decide) (by decide) (by decide) (by simp)).mono ?_
  rintro e w2 ⟨rfl, v', ms', hT2, hp2, hk2, -⟩
  have hb2 : Below w.heap.size w w2 := A1.out.2.trans (hk2.below A1.out.2.size (by rintro k (rfl | rfl | h) <;> first | omega | simp [Value.ownBlock] at h))
  obtain rfl : ms' = [((1, 0), (4, 0, ⟨#[97]⟩))] := List.perm_singleton.1 hp2
  have hz : true = true ↔ Ins (madeBy [((1, 0), (4, 0, ⟨#[97]⟩))]) 4 0 := by
    rw [made_one _ (by decide)]
    exact ⟨fun _ => (ins_some (p := (4, 0, ⟨#[97]⟩)) (by rw [upd_same])).2 (.inl rfl), fun _ => rfl⟩
  obtain ⟨n, hn, hM⟩ := hT2.map
  have hI := inside_is w2 (w.heap.size + 1) w.heap.size n _ 4 0 true hz hT2.cell.c0 hM hT2.good (wf_of (by decide) (by decide))
  have A2 : Aside (Below w.heap.size w w2 ∧ TreeAt w.heap.size w2 (w.heap.size + 1) w.heap.size v' [((1, 0), (4, 0, ⟨#[97]⟩))]) := ⟨hb2, hT2⟩
  clear hb2 hT2 hM hn hk2 hp2 hz A1
  go_wp2_with fail
  refine hI.mono ?_
  rintro e w3 ⟨rfl, hb3⟩
  obtain ⟨L, hL, hR⟩ := (A2.out.2.later hb3).row
  obtain ⟨ao, cap, rfl⟩ := row_shape hR
  have hm := treeMoves w3 (w.heap.size + 1) 1 ao cap (A2.out.2.later hb3).cell.c1
  have A3 : Aside (Below w.heap.size w w3) := A2.out.1.trans (hb3.mono A2.out.1.size)
  clear hb3 A2 hL hR hI
  go_wp2_with fail
  refine hm.mono ?_
  rintro e w4 ⟨rfl, rfl⟩
  go_wp2
  go_ret
  exact ⟨rfl, A3.out⟩
end Go.Proofs.YtnfhbmgkiknaaaaDoor
