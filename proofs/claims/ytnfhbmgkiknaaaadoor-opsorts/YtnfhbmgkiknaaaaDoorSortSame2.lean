/- Contract of the reference's SameOps where both slices hold the same operations. -/
import Derived.Test.YtnfhbmgkiknaaaaDoorSortSame
namespace Go.Proofs.YtnfhbmgkiknaaaaDoor
open Go.Shelf Go.RowKit Go.Lib Go.Sort

set_option maxHeartbeats 2000000 in
theorem neq_self (x : OpX) (w : World) : (binOp .neq 77 (.agg (encX x).toArray) (.agg (encX x).toArray)).run Tryd.prog w = .ok (.bool false) w := by
  obtain ⟨t, b, n, k, node, other, name, value⟩ := x
  show Sem.run Tryd.prog (binOp .neq 77 (.agg #[.int .i64 t, .int .i64 b, .int .i64 n, .int .u8 (k : Int), .int .i64 node, .int .i64 other, .string name, .string value]) (.agg #[.int .i64 t, .int .i64 b, .int .i64 n, .int .u8 (k : Int), .int .i64 node, .int .i64 other, .string name, .string value])) w = _
  go_simp

theorem guard_op (op : BinOp) (a b : Operand) (x y : Array Value) (w : World) : Sem.run Tryd.prog (eqGuard op 77 a b (.agg x) (.agg y)) w = .ok () w := run_eqGuard_agg w op 77 a b x y (by kernel_rfl)

theorem load_at {w : World} {b off : Nat} {xs : List OpX} (hc : ∀ j u, (cellsOf xs)[j]? = some u → w.cell? ⟨b, off + j, none⟩ = some u) (i q : Nat) (os : Array Obj) (hi : i < xs.length) :
    Sem.run Tryd.prog (loadCellsFrom ⟨b, off + i * 8, none⟩ 0 8 #[]) (grow (w.drewN q) os) = .ok (encX xs[i]!).toArray (grow (w.drewN q) os) :=
  run_loadCellsFrom_list Tryd.prog _ _ (encX xs[i]!) 8 (encX_len _) (fun c v hcv => by
    have h8 : c < 8 := by have := (List.getElem?_eq_some_iff.1 hcv).1; rwa [encX_len] at this
    have e := cellsOf_get xs i c hi h8
    have h1 := hc (i * 8 + c) v (by rw [e, ← hcv, List.getElem?_eq_getElem (by rw [encX_len]; exact h8), getElem!_pos _ c (by rw [encX_len]; exact h8)])
    rw [Addr.add_lit, Nat.add_assoc]
    exact cellKept (below_grow ⟨rfl, rfl, rfl, Nat.le_refl _, fun _ _ => rfl⟩ (Nat.le_refl _)) h1)

set_option maxHeartbeats 2000000 in
theorem same_none (p p' : Option Addr) (c c' : Nat) (w : World) : Calls Tryd.prog 46 #[.slice p 0 c, .slice p' 0 c'] w fun e w' => e = .returned (.bool true) ∧ w' = w := by
  go_enter Tryd.func46, Tryd.ntmps46
  go_wp2
  refine wp_loop_rounds 1 ?_
  rw [rounds_succ]
  go_wp2
  go_ret
  exact ⟨rfl, rfl⟩

theorem same_any (w : World) (v v' : Value) (xs : List OpX) (h : OpsAt w v xs) (h' : OpsAt w v' xs) (hn : xs.length ≤ 1000) :
    Calls Tryd.prog 46 #[v, v'] w fun e w' => e = .returned (.bool true) ∧ Below w.heap.size w w' := by
  rcases h with ⟨rfl, rfl⟩ | ⟨b, off, c, rfl, hc⟩
  · rcases h' with ⟨rfl, _⟩ | ⟨b', off', c', rfl, _⟩
    · refine (same_none none none 0 0 w).mono ?_
      rintro e w' ⟨rfl, rfl⟩
      exact ⟨rfl, Below.refl _ _⟩
    · refine (same_none none (some ⟨b', off', none⟩) 0 c' w).mono ?_
      rintro e w' ⟨rfl, rfl⟩
      exact ⟨rfl, Below.refl _ _⟩
  · rcases h' with ⟨rfl, rfl⟩ | ⟨b', off', c', rfl, hc'⟩
    · refine (same_none (some ⟨b, off, none⟩) none c 0 w).mono ?_
      rintro e w' ⟨rfl, rfl⟩
      exact ⟨rfl, Below.refl _ _⟩
    · refine (same_open 8 sty_here Tryd.func46 (fun i => (encX xs[i]!).toArray) b off c b' off' c' xs.length w (fun i q os hi => load_at hc i q os hi) (fun i q os hi => load_at hc' i q os hi) (fun i w => neq_self _ w) guard_op (by omega)).mono ?_
      rintro e w' ⟨rfl, q, os, rfl⟩
      exact ⟨rfl, below_grow ⟨rfl, rfl, rfl, Nat.le_refl _, fun _ _ => rfl⟩ (Nat.le_refl _)⟩
end Go.Proofs.YtnfhbmgkiknaaaaDoor
