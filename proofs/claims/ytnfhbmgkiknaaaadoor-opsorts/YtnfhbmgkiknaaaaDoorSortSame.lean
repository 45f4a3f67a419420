/- Contract of the reference's SameOps where both slices hold the same operations, over the translation's bodies. -/
import Derived.Test.YtnfhbmgkiknaaaaDoorSortOwn
namespace Go.Proofs.YtnfhbmgkiknaaaaDoor
open Go.Shelf Go.RowKit Go.Lib Go.Sort

set_option maxHeartbeats 4000000 in
set_option maxRecDepth 1000000 in
theorem same_open {P : Program} (k : Nat) (L : STy P k) (hF : P.funcs[(46 : Nat)]? = some Tryd.f46) (en : Nat → Array Value) (b off cap b' off' cap' n : Nat) (w : World)
    (l1 : ∀ i q os, i < n → Sem.run P (loadCellsFrom ⟨b, off + i * k, none⟩ 0 k #[]) (grow (w.drewN q) os) = .ok (en i) (grow (w.drewN q) os))
    (l2 : ∀ i q os, i < n → Sem.run P (loadCellsFrom ⟨b', off' + i * k, none⟩ 0 k #[]) (grow (w.drewN q) os) = .ok (en i) (grow (w.drewN q) os))
    (hE : (∀ i w, (binOp .neq 77 (.agg (en i)) (.agg (en i))).run P w = .ok (.bool false) w)) (hGd : ∀ (op : BinOp) (a b : Operand) (x y : Array Value) (w : World), Sem.run P (eqGuard op 77 a b (.agg x) (.agg y)) w = .ok () w) (hn : n < 4611686018427387904) :
    Calls P 46 #[.slice (some ⟨b, off, none⟩) n cap, .slice (some ⟨b', off', none⟩) n cap'] w fun e w' => e = .returned (.bool true) ∧ ∃ q os, w' = grow (w.drewN q) os := by
  have mixed := L.mixed; have t0 := L.t0; have a0 := L.a0; have z0 := L.z0; have v0 := L.v0; have t3 := L.t3; have a3 := L.a3; have z3 := L.z3; have v3 := L.v3; have t4 := L.t4; have a4 := L.a4; have z4 := L.z4; have v4 := L.v4; have tS := L.tS; have aS := L.aS; have zS := L.zS; have vS := L.vS; have tC := L.tC; have aC := L.aC; have zC := L.zC; have vC := L.vC; have tU := L.tU; have aU := L.aU; have zU := L.zU; have vU := L.vU; have aE := L.aE; have zE := L.zE
  have L1 : Aside (∀ i q os, i < n → Sem.run P (loadCellsFrom ⟨b, off + i * k, none⟩ 0 k #[]) (grow (w.drewN q) os) = .ok (en i) (grow (w.drewN q) os)) := l1
  have L2 : Aside (∀ i q os, i < n → Sem.run P (loadCellsFrom ⟨b', off' + i * k, none⟩ 0 k #[]) (grow (w.drewN q) os) = .ok (en i) (grow (w.drewN q) os)) := l2
  have HE : Aside (∀ i w, (binOp .neq 77 (.agg (en i)) (.agg (en i))).run P w = .ok (.bool false) w) := hE
  clear l1 l2 hE
  go_enter hF, Tryd.ntmps46
  go_wp2
  go_loopg [5] n (fun kx s5 wr => ∃ (i : Nat), s5 = .int .i64 (i : Int) ∧ i ≤ n ∧ n - i ≤ kx ∧ Aside (∃ q os, wr = grow (w.drewN q) os))
  case atStart => exact ⟨0, rfl, Nat.zero_le _, Nat.le_refl _, ⟨0, #[], by rw [grow_empty]; rfl⟩⟩
  case round =>
    obtain ⟨i, rfl, hi, hkx, W⟩ := hrel
    by_cases hlt : i < n
    · have hltz : decide ((i : Int) < (n : Int)) = true := by simp; omega
      have ex : ((i : Int)).toNat = i := by omega
      have px : (0 : Int) ≤ (i : Int) := by omega
      have bx : (i : Int) < (n : Int) := by omega
      have hG : ∀ q os, ∃ q' os', grow (wr.drewN q) os = grow (w.drewN q') os' := fun q os => grows_trans W.out ⟨q, os, rfl⟩
      have lx : ∀ q os, Sem.run P (loadCellsFrom ⟨b, off + i * k, none⟩ 0 k #[]) (grow (wr.drewN q) os) = .ok (en i) (grow (wr.drewN q) os) := fun q os => by obtain ⟨q', os', e⟩ := hG q os; rw [e]; exact L1.out i q' os' hlt
      have ly : ∀ q os, Sem.run P (loadCellsFrom ⟨b', off' + i * k, none⟩ 0 k #[]) (grow (wr.drewN q) os) = .ok (en i) (grow (wr.drewN q) os) := fun q os => by obtain ⟨q', os', e⟩ := hG q os; rw [e]; exact L2.out i q' os' hlt
      have hq := fun w => HE.out i w
      have HG : Aside (∀ q os, ∃ q' os', grow (wr.drewN q) os = grow (w.drewN q') os') := hG
      clear hG W
      go_wp2_with fail
      go_quiet_grown (fail)
      have W2 : Aside (∃ q os, grow (wr.drewN nq) osq = grow (w.drewN q) os) := HG.out nq osq
      clear lx ly hq HG
      generalize grow (wr.drewN nq) osq = w2 at W2 ⊢
      go_wp2
      go_roundg (n - (i + 1))
      case measure => omega
      case rel => exact ⟨i + 1, by go_num, by omega, Nat.le_refl _, W2⟩
    · have hltz : decide ((i : Int) < (n : Int)) = false := by simp; omega
      go_wp2
      go_ret
      exact ⟨rfl, W.out⟩
end Go.Proofs.YtnfhbmgkiknaaaaDoor
