/- slices.Backward at entries of the log: the iterator's contract. -/
import Derived.Test.YtnfhbmgkiknaaaaDoorFlatK
import Derived.Test.YtnfhbmgkiknaaaaDoorTreeLog
import Derived.Test.YtnfhbmgkiknaaaaDoorTreeMap
import Derived.Test.YtnfhbmgkiknaaaaDoorProg
import Derived.RangeFuncNested
import Derived.RangeFuncBox
import Derived.RangeFuncLeaves
import Derived.Shelf.Abstract
import Derived.WalkKit
import Derived.OwnWalkIn
import Derived.TacticsInMore
import Derived.LoopNIn
import Derived.LoopIn
import Derived.Deep.LoopGhost
namespace Go.Proofs.YtnfhbmgkiknaaaaDoor
open Go.RowKit Go.Shelf

attribute [local go_sem] Oper.semAt_some

def encE (x : Ent) : List Value := [.int .i64 x.1.1.1, .int .i64 x.1.1.2, .int .i64 x.1.2.1, .int .i64 x.1.2.2.1, .string x.1.2.2.2, .int .i64 x.2.1, .int .i64 x.2.2.1, .string x.2.2.2]
theorem encE_len (x : Ent) : (encE x).length = 8 := rfl
theorem encE_one (x : Ent) : ∀ v ∈ encE x, v.oneCell' = true := by
  intro v hv
  simp only [encE, List.mem_cons, List.not_mem_nil, or_false] at hv
  rcases hv with rfl | rfl | rfl | rfl | rfl | rfl | rfl | rfl <;> rfl
def zeroE : Ent := (((0, 0), zeroP), zeroP)
/-- The entry of round r, of so many: the last one first. -/
def entR (L : List Ent) (r : Nat) : Ent := L.getD (L.length - 1 - r) zeroE
def encR (L : List Ent) (r : Nat) : Array Value := #[.int .i64 ((L.length - 1 - r : Nat) : Int), .agg #[.int .i64 (entR L r).1.1.1, .int .i64 (entR L r).1.1.2, .int .i64 (entR L r).1.2.1, .int .i64 (entR L r).1.2.2.1, .string (entR L r).1.2.2.2, .int .i64 (entR L r).2.1, .int .i64 (entR L r).2.2.1, .string (entR L r).2.2.2]]

/-- Two blocks are as they were. -/
def KeepTwo (g h : Nat) (W W' : World) : Prop := W'.heap[g]? = W.heap[g]? ∧ W'.heap[h]? = W.heap[h]?
theorem KeepTwo.refl (g h : Nat) (W : World) : KeepTwo g h W W := ⟨rfl, rfl⟩
theorem KeepTwo.trans {g h : Nat} {A B C : World} (x : KeepTwo g h A B) (y : KeepTwo g h B C) : KeepTwo g h A C := ⟨y.1.trans x.1, y.2.trans x.2⟩
theorem KeepTwo.put {g h N : Nat} (hg : g < N) (hh : h < N) (W : World) (l : Nat) (o' : Obj) (hl : N ≤ l) : KeepTwo g h W (W.putObj l o') :=
  ⟨World.putObj_heap_other (by omega), World.putObj_heap_other (by omega)⟩

/-- The log's entries lie in block g from a place on. -/
def RowAt (W : World) (g off : Nat) (L : List Ent) : Prop := ∀ j u, (flat encE L)[j]? = some u → W.cell? ⟨g, off + j, none⟩ = some u
theorem RowAt.same {W W' : World} {g off : Nat} {L : List Ent} (h : RowAt W g off L) (e : W'.heap[g]? = W.heap[g]?) : RowAt W' g off L := fun j u hj => by
  have := h j u hj
  rw [← this]
  exact World.cell?_of_block (a := ⟨g, off + j, none⟩) e
theorem RowAt.at {W : World} {g off : Nat} {L : List Ent} (h : RowAt W g off L) {i : Nat} {x : Ent} (hx : L[i]? = some x) (c : Nat) {u : Value} (hu : (encE x)[c]? = some u) : W.cell? ⟨g, off + i * 8 + c, none⟩ = some u := by
  have hc : c < 8 := by have := (List.getElem?_eq_some_iff.1 hu).1; rwa [encE_len] at this
  rw [Nat.add_assoc]
  exact h _ u (by rw [flat_get encE_len hx hc]; exact hu)

set_option maxRecDepth 100000 in
set_option maxHeartbeats 2000000 in
theorem back1_in (F : Fence) (n : Nat) (h7 : F.fn 130) (hro : F.round = none) (hn : 1 ≤ n) (l Bs g off cap : Nat) (ao : Option Addr) (L : List Ent) (hlen : L.length ≤ 1000) (hao : L = [] ∨ ao = some ⟨g, off, none⟩) (J Jx : List Nat → World → Prop)
    (hY : ∀ pre x W, J pre W → pre.length < L.length → YieldAt F (n - 1) Tryd.prog l (encR L x) W fun e W' =>
      (e = .returned (.bool true) ∧ J (pre ++ [x]) W' ∧ KeepTwo g Bs W W') ∨ (e = .returned (.bool false) ∧ Jx (pre ++ [x]) W'))
    (W : World) (hBs : W.cell? ⟨Bs, 0, none⟩ = some (.slice ao L.length cap)) (hc : RowAt W g off L) (h0 : J [] W) :
    CallsIn F n Tryd.prog 130 #[.func (.yield l) #[] #[], .pointer (some ⟨Bs, 0, none⟩)] W fun e W' => (∃ v, e = .returned v) ∧
      ((∃ ys, ys = List.range L.length ∧ J ys W') ∨ (∃ pre, (∃ k, k ≤ L.length ∧ pre = List.range k) ∧ Jx pre W')) := by
  refine callsIn_of_wp Tryd.func130 rfl h7 ?_ hro
  simp only [Tryd.ntmps130, List.size_toArray, List.length_cons, List.length_nil, Nat.reduceAdd, Nat.reduceSub, Array.replicate_succ, Array.replicate_zero, List.push_toArray, List.append_toArray, List.nil_append, List.cons_append]
  have hw0 : IntKind.i64.wrap ((L.length : Int) - 1) = (L.length : Int) - 1 := by rw [IntKind.wrap_i64]; omega
  gi_wp2
  gi_loopw [3] (fun i wr => ∃ k : Nat, k ≤ L.length ∧ i = .int .i64 ((L.length : Int) - 1 - k) ∧ J (List.range k) wr ∧ KeepTwo g Bs W wr)
    (fun i _ => (intOf i + 1).toNat)
  case atStart => exact ⟨0, Nat.zero_le _, by simp, h0, KeepTwo.refl _ _ _⟩
  case round =>
    obtain ⟨k, hk, rfl, hJs, hnx⟩ := hrel
    have hBs' : wr.cell? ⟨Bs, 0, none⟩ = some (.slice ao L.length cap) := (World.cell?_of_block (a := ⟨Bs, 0, none⟩) hnx.2).trans hBs
    by_cases hlt : k < L.length
    · have hao' : ao = some ⟨g, off, none⟩ := hao.resolve_left (fun e => by rw [e] at hlt; simp at hlt)
      subst hao'
      obtain ⟨fn, tmps, assign, body, hy, hR⟩ := hY _ k wr hJs (by rw [List.length_range]; exact hlt)
      have hix : L[L.length - 1 - k]? = some (entR L k) := by
        unfold entR
        rw [List.getD_eq_getElem?_getD, List.getElem?_eq_getElem (by omega)]
        rfl
      have hrow := hc.same hnx.1
      obtain ⟨x, hx⟩ : ∃ x, x = entR L k := ⟨_, rfl⟩
      rw [← hx] at hix
      obtain ⟨i, hi⟩ : ∃ i, i = L.length - 1 - k := ⟨_, rfl⟩
      have hil : (L.length : Int) - 1 - k = (i : Int) := by omega
      have hilt : i < L.length := by omega
      unfold encR at hy
      rw [← hx, ← hi] at hy
      rw [← hi] at hix
      have c0 : wr.cell? ⟨g, off + i * 8, none⟩ = some (.int .i64 x.1.1.1) := hrow.at hix 0 (u := .int .i64 x.1.1.1) rfl
      have c1 := hrow.at hix 1 (u := .int .i64 x.1.1.2) rfl
      have c2 := hrow.at hix 2 (u := .int .i64 x.1.2.1) rfl
      have c3 := hrow.at hix 3 (u := .int .i64 x.1.2.2.1) rfl
      have c4 := hrow.at hix 4 (u := .string x.1.2.2.2) rfl
      have c5 := hrow.at hix 5 (u := .int .i64 x.2.1) rfl
      have c6 := hrow.at hix 6 (u := .int .i64 x.2.2.1) rfl
      have c7 := hrow.at hix 7 (u := .string x.2.2.2) rfl
      rw [hil]
      have hw1 : IntKind.i64.wrap ((i : Int) - 1) = (i : Int) - 1 := by rw [IntKind.wrap_i64]; omega
      have hi0 : (0 : Int) ≤ (i : Int) := by omega
      have hib : (i : Int) < (L.length : Int) := by omega
      have HK : Aside (i = L.length - 1 - k ∧ k < L.length ∧ KeepTwo g Bs W wr) := ⟨hi, hlt, hnx⟩
      have hR' : Aside (RoundIn F (n - 1) Tryd.prog l fn tmps assign body wr fun e W' => (e = .returned (.bool true) ∧ J (List.range k ++ [k]) W' ∧ KeepTwo g Bs wr W') ∨ (e = .returned (.bool false) ∧ Jx (List.range k ++ [k]) W')) := hR
      clear hi hil hlt hk hix hx hR hrow hnx hJs hY h0
      gi_wp2
      refine hR'.out.mono ?_
      rintro e W3 (⟨rfl, hJ3, hk3⟩ | ⟨rfl, hJx3⟩)
      · gi_wp2
        go_roundw
        case rel => exact ⟨k + 1, by have := HK.out; omega, by have := HK.out; congr 1; omega, by rw [List.range_succ]; exact hJ3, HK.out.2.2.trans hk3⟩
        case measure => have := HK.out; simp [intOf]
      · gi_wp2
        refine bodyPost_ret (results_none rfl _ _ _) rfl ?_
        exact ⟨⟨_, rfl⟩, .inr ⟨_, ⟨k + 1, by have := HK.out; omega, (List.range_succ).symm⟩, hJx3⟩⟩
    · obtain rfl : k = L.length := by omega
      gi_wp2
      go_end0
      exact ⟨⟨_, rfl⟩, .inl ⟨_, rfl, hJs⟩⟩
end Go.Proofs.YtnfhbmgkiknaaaaDoor
