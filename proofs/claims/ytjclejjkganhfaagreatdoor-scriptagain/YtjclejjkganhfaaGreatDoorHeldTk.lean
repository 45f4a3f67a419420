/- One operation of a drawn region taken, in X7 aaf: what can be found is found by the default proofs. -/
import Derived.OrdersHeld
import Derived.WalkKit
import Derived.BigQuiet
namespace Go.Proofs.YtjclejjkganhfaaGreatDoor
open Go.RowKit

section
variable {P : Program} {ops : Array Oper} {Q : Exit → Act → World → Prop} {md : Region.Mode} {S : World → Prop}
theorem tk (i : Nat) {oi : Oper} {v : Value} {fuel : Nat} {listed : Array Bool} {a : Act} {w : World} {q : Prop} (hS : S w) (h : q)
    (hi : ops[i]? = some oi := by rfl) (hs : Region.noSelect ops = true := by kernel_rfl) (hf : Region.free md ops listed i = true := by kernel_rfl) (hr : (Region.ready md ops listed).contains i = true := by kernel_rfl)
    (hQ : ∀ c a w, Q (.panic c) (a.put oi.dst v) w → Q (.panic c) a w := by exact fun _ _ _ h => h)
    (y : YieldsIf P ops S oi v a := by refine Or.inl ⟨by rfl, ?_⟩; intro w' hSw; clear hSw; go_simp; try with_reducible rfl)
    (hq : wpAnyH P md ops Q S fuel (listed.setIfInBounds i true) (a.put oi.dst v) w = q := by (try simp only [List.getElem_toArray, List.getElem_cons_succ, List.getElem_cons_zero, Act.put, List.setIfInBounds_toArray, List.set_cons_zero, List.set_cons_succ]) <;> rfl) : wpAnyH P md ops Q S (fuel + 1) listed a w :=
  wpAnyH_take hi hs hf hr hQ y hS (hq ▸ h)
end
theorem ty {P : Program} {ops : Array Oper} {S : World → Prop} {o : Oper} {v : Value} {a : Act} (h : ∀ w, S w → (execOp a.eval o).run P w = .ok (.value v) w) (k : Region.wanted o (yielded ops a.tmps) = true := by rfl) : YieldsIf P ops S o v a := .inl ⟨k, h⟩
/-- A frame's slots, read and put. -/
theorem qn {p q : Prop} (h : q) (e : p = q := by (try simp only [List.getElem_toArray, List.getElem_cons_succ, List.getElem_cons_zero, Act.put, List.setIfInBounds_toArray, List.set_cons_zero, List.set_cons_succ]) <;> rfl) : p := e ▸ h
