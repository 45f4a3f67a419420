/- Contract of the reference's SameOps where both slices hold the same operations. -/
import Derived.Test.YtcggmagdndhkbaaDoorOpsIn
import Derived.Test.YtcggmagdndhkbaaDoorOpSame
import Derived.Test.YtcggmagdndhkbaaDoorHeldOne
import Derived.WalkKit
import Derived.WalkSpells
import Derived.Below
import Derived.LoopN
import Derived.KernelRfl
import Derived.LaidEql
import Derived.Deep.RegionHeld3
import Derived.Deep.Cut
import Derived.Lib.Hide
set_option linter.unusedVariables false
set_option linter.unusedSimpArgs false
namespace Go.Proofs.YtcggmagdndhkbaaDoor
open Go Go.RowKit Go.Lib Go.Sort

theorem opsIn_of {w : World} {v : Value} {xs : List OpX} (h : OpsAt w v xs) : ∃ ao cap, v = .slice ao xs.length cap ∧ OpsIn w ao xs := by
  rcases h with ⟨rfl, rfl⟩ | ⟨b, o, cp, rfl, hc⟩
  · exact ⟨none, 0, rfl, .inl rfl⟩
  · exact ⟨some ⟨b, o, none⟩, cp, rfl, .inr ⟨b, o, rfl, hc⟩⟩
/-- One of them, in memory. -/
def OneAt (w : World) (ao : Option Addr) (i : Nat) (x : OpX) : Prop := ∃ blk off, ao = some ⟨blk, off, none⟩ ∧ Eight w blk (off + i * 8) x.1 x.2.1 x.2.2.1 x.2.2.2.1 x.2.2.2.2.1 x.2.2.2.2.2.1 x.2.2.2.2.2.2.1 x.2.2.2.2.2.2.2
theorem OpsIn.one {w : World} {ao : Option Addr} {xs : List OpX} (h : OpsIn w ao xs) {i : Nat} {x : OpX} (hx : xs[i]? = some x) : OneAt w ao i x := by
  have hi := (List.getElem?_eq_some_iff.1 hx).1
  rcases h with rfl | ⟨blk, off, rfl, hc⟩
  · simp at hi
  · obtain ⟨t, b, n, kd, nd, o, s, v⟩ := x
    refine ⟨blk, off, rfl, eight_at hc i hi ?_⟩
    rw [getElem!_pos xs i hi]
    exact (List.getElem?_eq_some_iff.1 hx).2
set_option maxRecDepth 100000 in
set_option maxHeartbeats 4000000 in
theorem sameJ (w : World) (v1 v2 : Value) (xs : List OpX) (h1 : OpsAt w v1 xs) (h2 : OpsAt w v2 xs) (hn : xs.length ≤ 1000000) :
    Calls Tryd.prog 11 #[v1, v2] w fun e w' => e = .returned (.bool true) ∧ Below w.heap.size w w' := by
  obtain ⟨a1, c1, rfl, i1⟩ := opsIn_of h1
  obtain ⟨a2, c2, rfl, i2⟩ := opsIn_of h2
  have H : Aside (OpsIn w a1 xs ∧ OpsIn w a2 xs) := ⟨i1, i2⟩
  clear h1 h2 i1 i2
  go_enter Tryd.func11, Tryd.ntmps11
  go_wp2
  go_loopg [5] xs.length (fun kx s5 wr => ∃ (i : Nat), s5 = .int .i64 (i : Int) ∧ i ≤ xs.length ∧ xs.length - i ≤ kx ∧ Aside (Below w.heap.size w wr))
  case atStart => exact ⟨0, rfl, Nat.zero_le _, Nat.le_refl _, Below.refl _ w⟩
  case round =>
    obtain ⟨i, rfl, hi, hix, A⟩ := hrel
    by_cases hlt : i < xs.length
    · have d1 : decide ((i : Int) < (xs.length : Int)) = true := by simp; omega
      have d1n : decide (i < xs.length) = true := by simp; omega
      obtain ⟨x, hx⟩ : ∃ x, Aside (xs[i]? = some x) := ⟨xs[i], List.getElem?_eq_getElem hlt⟩
      obtain ⟨b1, o1, e1, E1⟩ := (H.out.1.later A.out).one hx.out
      obtain ⟨b2, o2, e2, E2⟩ := (H.out.2.later A.out).one hx.out
      obtain ⟨t, b, n, kd, nd, o, s, v⟩ := x
      dsimp only at E1 E2
      subst e1
      subst e2
      have wi : ((i : Int)).toNat = i := by omega
      have pi : (0 : Int) ≤ (i : Int) := by omega
      have bi : (i : Int) < (xs.length : Int) := by omega
      have heq : ∀ w : World, (Op.equalIn 10000 35 (.agg #[.int .i64 t, .int .i64 b, .int .i64 n, .int .u8 (kd : Int), .int .i64 nd, .int .i64 o, .string s, .string v]) (.agg #[.int .i64 t, .int .i64 b, .int .i64 n, .int .u8 (kd : Int), .int .i64 nd, .int .i64 o, .string s, .string v])).run Tryd.prog w = .ok true w := fun w => by
        have := eqOp t b n kd nd o s v t b n kd nd o s v w
        rw [eqB_self] at this
        exact this
      have hh : Eight wr.drew b1 (o1 + i * 8) t b n kd nd o s v ∧ Eight wr.drew b2 (o2 + i * 8) t b n kd nd o s v := ⟨E1.later (Below.refl _ wr).drew, E2.later (Below.refl _ wr).drew⟩
      clear E1 E2
      go_upto_region 6 with fail
      refine wp_region_H (S := (fun w' => Eight w' b1 (o1 + i * 8) t b n kd nd o s v ∧ Eight w' b2 (o2 + i * 8) t b n kd nd o s v)) (by kernel_rfl) hh (fun hHeld => ?_)
      refine wpAnyH_take (i := 0) (v := ?va0) rfl (by kernel_rfl) (by kernel_rfl) (by kernel_rfl) (fun _ _ _ h => h) (Or.inl ⟨by rfl, ?hy0⟩) hHeld ?rest0
      case hy0 => (intro w' hSw; clear hSw; go_simp; try with_reducible rfl)
      try simp only [List.getElem_toArray, List.getElem_cons_succ, List.getElem_cons_zero, Act.put, List.setIfInBounds_toArray, List.set_cons_zero, List.set_cons_succ]
      refine wpAnyH_take (i := 1) (v := ?va1) rfl (by kernel_rfl) (by kernel_rfl) (by kernel_rfl) (fun _ _ _ h => h) (Or.inl ⟨by rfl, ?hy1⟩) hHeld ?rest1
      case hy1 => (intro w' hSw; clear hSw; go_simp; try with_reducible rfl)
      try simp only [List.getElem_toArray, List.getElem_cons_succ, List.getElem_cons_zero, Act.put, List.setIfInBounds_toArray, List.set_cons_zero, List.set_cons_succ]
      refine wpAnyH_take (i := 2) (v := ?va2) rfl (by kernel_rfl) (by kernel_rfl) (by kernel_rfl) (fun _ _ _ h => h) (Or.inl ⟨by rfl, ?hy2⟩) hHeld ?rest2
      case hy2 => (intro w' hSw; clear hSw; go_simp; try with_reducible rfl)
      try simp only [List.getElem_toArray, List.getElem_cons_succ, List.getElem_cons_zero, Act.put, List.setIfInBounds_toArray, List.set_cons_zero, List.set_cons_succ]
      refine wpAnyH_take (i := 3) (v := ?va3) rfl (by kernel_rfl) (by kernel_rfl) (by kernel_rfl) (fun _ _ _ h => h) (Or.inl ⟨by rfl, ?hy3⟩) hHeld ?rest3
      case hy3 => (intro w' hSw; obtain ⟨q0, q1, q2, q3, q4, q5, q6, q7⟩ := hSw.1; clear hSw; go_simp; try with_reducible rfl)
      try simp only [List.getElem_toArray, List.getElem_cons_succ, List.getElem_cons_zero, Act.put, List.setIfInBounds_toArray, List.set_cons_zero, List.set_cons_succ]
      refine wpAnyH_take (i := 4) (v := ?va4) rfl (by kernel_rfl) (by kernel_rfl) (by kernel_rfl) (fun _ _ _ h => h) (Or.inl ⟨by rfl, ?hy4⟩) hHeld ?rest4
      case hy4 => (intro w' hSw; clear hSw; go_simp; try with_reducible rfl)
      try simp only [List.getElem_toArray, List.getElem_cons_succ, List.getElem_cons_zero, Act.put, List.setIfInBounds_toArray, List.set_cons_zero, List.set_cons_succ]
      refine wpAnyH_take (i := 5) (v := ?va5) rfl (by kernel_rfl) (by kernel_rfl) (by kernel_rfl) (fun _ _ _ h => h) (Or.inl ⟨by rfl, ?hy5⟩) hHeld ?rest5
      case hy5 => (intro w' hSw; clear hSw; go_simp; try with_reducible rfl)
      try simp only [List.getElem_toArray, List.getElem_cons_succ, List.getElem_cons_zero, Act.put, List.setIfInBounds_toArray, List.set_cons_zero, List.set_cons_succ]
      refine wpAnyH_take (i := 6) (v := ?va6) rfl (by kernel_rfl) (by kernel_rfl) (by kernel_rfl) (fun _ _ _ h => h) (Or.inl ⟨by rfl, ?hy6⟩) hHeld ?rest6
      case hy6 => (intro w' hSw; clear hSw; go_simp; try with_reducible rfl)
      try simp only [List.getElem_toArray, List.getElem_cons_succ, List.getElem_cons_zero, Act.put, List.setIfInBounds_toArray, List.set_cons_zero, List.set_cons_succ]
      refine wpAnyH_take (i := 7) (v := ?va7) rfl (by kernel_rfl) (by kernel_rfl) (by kernel_rfl) (fun _ _ _ h => h) (Or.inl ⟨by rfl, ?hy7⟩) hHeld ?rest7
      case hy7 => (intro w' hSw; obtain ⟨q0, q1, q2, q3, q4, q5, q6, q7⟩ := hSw.2; clear hSw; go_simp; try with_reducible rfl)
      try simp only [List.getElem_toArray, List.getElem_cons_succ, List.getElem_cons_zero, Act.put, List.setIfInBounds_toArray, List.set_cons_zero, List.set_cons_succ]
      refine wpAnyH_take (i := 8) (v := ?va8) rfl (by kernel_rfl) (by kernel_rfl) (by kernel_rfl) (fun _ _ _ h => h) (Or.inl ⟨by rfl, ?hy8⟩) hHeld ?rest8
      case hy8 => (intro w' hSw; clear hSw; go_simp; try with_reducible rfl)
      try simp only [List.getElem_toArray, List.getElem_cons_succ, List.getElem_cons_zero, Act.put, List.setIfInBounds_toArray, List.set_cons_zero, List.set_cons_succ]
      refine wpAnyH_done (by kernel_rfl) ?_ _
      try simp only [List.getElem_toArray, List.getElem_cons_succ, List.getElem_cons_zero, Act.put, List.setIfInBounds_toArray, List.set_cons_zero, List.set_cons_succ]
      have HB : Aside (Below w.heap.size w wr.drew) := A.out.drew
      clear A hh heq
      go_wp2
      go_roundg (xs.length - (i + 1))
      case measure => omega
      case rel => exact ⟨i + 1, by go_num, by omega, Nat.le_refl _, HB.out⟩
    · have d1 : decide ((i : Int) < (xs.length : Int)) = false := by simp; omega
      have d1n : decide (i < xs.length) = false := by simp; omega
      go_wp2
      go_ret
      exact ⟨rfl, A.out⟩
end Go.Proofs.YtcggmagdndhkbaaDoor
