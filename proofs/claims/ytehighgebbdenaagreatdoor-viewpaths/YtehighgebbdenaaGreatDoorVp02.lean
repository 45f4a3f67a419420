import Derived.Test.YtehighgebbdenaaGreatDoorVp01
import Derived.Test.YtehighgebbdenaaGreatDoorProg
import Derived.RangeFuncNested
import Derived.RangeFuncBox
import Derived.RangeFuncLeaves
import Derived.Shelf.Abstract
import Derived.WalkKit
import Derived.OwnWalkIn
import Derived.TacticsInMore
import Derived.LoopNIn
import Derived.LoopIn
import Derived.Deep.LoopGhost
import Derived.WalkSpells
import Derived.Below
import Derived.LaidEql
section
namespace Go.Proofs.YtehighgebbdenaaGreatDoor
open Go.RowKit Go.Shelf
attribute [local go_sem] Oper.semAt_some
def encE (x : Ent) : List Value := [.int .i64 x.1.1.1, .int .i64 x.1.1.2, .int .i64 x.1.2.1, .int .i64 x.1.2.2.1, .string x.1.2.2.2, .int .i64 x.2.1, .int .i64 x.2.2.1, .string x.2.2.2]
theorem encE_len (x : Ent) : (encE x).length = 8 := rfl
theorem encE_one (x : Ent) : ∀ v ∈ encE x, v.oneCell' = true := by
  intro v hv
  simp only [encE, List.mem_cons, List.not_mem_nil, or_false] at hv
  rcases hv with rfl | rfl | rfl | rfl | rfl | rfl | rfl | rfl <;> rfl
def zeroE : Ent := (((0, 0), zeroP), zeroP)
def entR (L : List Ent) (r : Nat) : Ent := L.getD (L.length - 1 - r) zeroE
def encR (L : List Ent) (r : Nat) : Array Value := #[.int .i64 ((L.length - 1 - r : Nat) : Int), .agg #[.int .i64 (entR L r).1.1.1, .int .i64 (entR L r).1.1.2, .int .i64 (entR L r).1.2.1, .int .i64 (entR L r).1.2.2.1, .string (entR L r).1.2.2.2, .int .i64 (entR L r).2.1, .int .i64 (entR L r).2.2.1, .string (entR L r).2.2.2]]
def KeepTwo (g h : Nat) (W W' : World) : Prop := W'.heap[g]? = W.heap[g]? ∧ W'.heap[h]? = W.heap[h]?
theorem KeepTwo.refl (g h : Nat) (W : World) : KeepTwo g h W W := ⟨rfl, rfl⟩
theorem KeepTwo.trans {g h : Nat} {A B C : World} (x : KeepTwo g h A B) (y : KeepTwo g h B C) : KeepTwo g h A C := ⟨y.1.trans x.1, y.2.trans x.2⟩
theorem KeepTwo.put {g h N : Nat} (hg : g < N) (hh : h < N) (W : World) (l : Nat) (o' : Obj) (hl : N ≤ l) : KeepTwo g h W (W.putObj l o') :=
  ⟨World.putObj_heap_other (by omega), World.putObj_heap_other (by omega)⟩
def RowAt (W : World) (g off : Nat) (L : List Ent) : Prop := ∀ j u, (flat encE L)[j]? = some u → W.cell? ⟨g, off + j, none⟩ = some u
theorem RowAt.same {W W' : World} {g off : Nat} {L : List Ent} (h : RowAt W g off L) (e : W'.heap[g]? = W.heap[g]?) : RowAt W' g off L := fun j u hj => by
  have := h j u hj
  rw [← this]
  exact World.cell?_of_block (a := ⟨g, off + j, none⟩) e
theorem RowAt.at {W : World} {g off : Nat} {L : List Ent} (h : RowAt W g off L) {i : Nat} {x : Ent} (hx : L[i]? = some x) (c : Nat) {u : Value} (hu : (encE x)[c]? = some u) : W.cell? ⟨g, off + i * 8 + c, none⟩ = some u := by
  have hc : c < 8 := by have := (List.getElem?_eq_some_iff.1 hu).1; rwa [encE_len] at this
  rw [Nat.add_assoc]
  exact h _ u (by rw [flat_get encE_len hx hc]; exact hu)
set_option maxRecDepth 100000 in
set_option maxHeartbeats 2000000 in
theorem back1_in (F : Fence) (n : Nat) (h7 : F.fn 282) (hro : F.round = none) (hn : 1 ≤ n) (l Bs g off cap : Nat) (ao : Option Addr) (L : List Ent) (hlen : L.length ≤ 1000) (hao : L = [] ∨ ao = some ⟨g, off, none⟩) (J Jx : List Nat → World → Prop)
    (hY : ∀ pre x W, J pre W → pre.length < L.length → YieldAt F (n - 1) Tryz.prog l (encR L x) W fun e W' =>
      (e = .returned (.bool true) ∧ J (pre ++ [x]) W' ∧ KeepTwo g Bs W W') ∨ (e = .returned (.bool false) ∧ Jx (pre ++ [x]) W'))
    (W : World) (hBs : W.cell? ⟨Bs, 0, none⟩ = some (.slice ao L.length cap)) (hc : RowAt W g off L) (h0 : J [] W) :
    CallsIn F n Tryz.prog 282 #[.func (.yield l) #[] #[], .pointer (some ⟨Bs, 0, none⟩)] W fun e W' => (∃ v, e = .returned v) ∧
      ((∃ ys, ys = List.range L.length ∧ J ys W') ∨ (∃ pre, (∃ k, k ≤ L.length ∧ pre = List.range k) ∧ Jx pre W')) := by
  refine callsIn_of_wp Tryz.func282 rfl h7 ?_ hro
  simp only [Tryz.ntmps282, List.size_toArray, List.length_cons, List.length_nil, Nat.reduceAdd, Nat.reduceSub, Array.replicate_succ, Array.replicate_zero, List.push_toArray, List.append_toArray, List.nil_append, List.cons_append]
  have hw0 : IntKind.i64.wrap ((L.length : Int) - 1) = (L.length : Int) - 1 := by rw [IntKind.wrap_i64]; omega
  gi_wp2
  gi_loopw [3] (fun i wr => ∃ k : Nat, k ≤ L.length ∧ i = .int .i64 ((L.length : Int) - 1 - k) ∧ J (List.range k) wr ∧ KeepTwo g Bs W wr)
    (fun i _ => (intOf i + 1).toNat)
  case atStart => exact ⟨0, Nat.zero_le _, by simp, h0, KeepTwo.refl _ _ _⟩
  case round =>
    obtain ⟨k, hk, rfl, hJs, hnx⟩ := hrel
    have hBs' : wr.cell? ⟨Bs, 0, none⟩ = some (.slice ao L.length cap) := (World.cell?_of_block (a := ⟨Bs, 0, none⟩) hnx.2).trans hBs
    by_cases hlt : k < L.length
    · have hao' : ao = some ⟨g, off, none⟩ := hao.resolve_left (fun e => by rw [e] at hlt; simp at hlt)
      subst hao'
      obtain ⟨fn, tmps, assign, body, hy, hR⟩ := hY _ k wr hJs (by rw [List.length_range]; exact hlt)
      have hix : L[L.length - 1 - k]? = some (entR L k) := by
        unfold entR
        rw [List.getD_eq_getElem?_getD, List.getElem?_eq_getElem (by omega)]
        rfl
      have hrow := hc.same hnx.1
      obtain ⟨x, hx⟩ : ∃ x, x = entR L k := ⟨_, rfl⟩
      rw [← hx] at hix
      obtain ⟨i, hi⟩ : ∃ i, i = L.length - 1 - k := ⟨_, rfl⟩
      have hil : (L.length : Int) - 1 - k = (i : Int) := by omega
      have hilt : i < L.length := by omega
      unfold encR at hy
      rw [← hx, ← hi] at hy
      rw [← hi] at hix
      have c0 : wr.cell? ⟨g, off + i * 8, none⟩ = some (.int .i64 x.1.1.1) := hrow.at hix 0 (u := .int .i64 x.1.1.1) rfl
      have c1 := hrow.at hix 1 (u := .int .i64 x.1.1.2) rfl
      have c2 := hrow.at hix 2 (u := .int .i64 x.1.2.1) rfl
      have c3 := hrow.at hix 3 (u := .int .i64 x.1.2.2.1) rfl
      have c4 := hrow.at hix 4 (u := .string x.1.2.2.2) rfl
      have c5 := hrow.at hix 5 (u := .int .i64 x.2.1) rfl
      have c6 := hrow.at hix 6 (u := .int .i64 x.2.2.1) rfl
      have c7 := hrow.at hix 7 (u := .string x.2.2.2) rfl
      rw [hil]
      have hw1 : IntKind.i64.wrap ((i : Int) - 1) = (i : Int) - 1 := by rw [IntKind.wrap_i64]; omega
      have hi0 : (0 : Int) ≤ (i : Int) := by omega
      have hib : (i : Int) < (L.length : Int) := by omega
      have HK : Aside (i = L.length - 1 - k ∧ k < L.length ∧ KeepTwo g Bs W wr) := ⟨hi, hlt, hnx⟩
      have hR' : Aside (RoundIn F (n - 1) Tryz.prog l fn tmps assign body wr fun e W' => (e = .returned (.bool true) ∧ J (List.range k ++ [k]) W' ∧ KeepTwo g Bs wr W') ∨ (e = .returned (.bool false) ∧ Jx (List.range k ++ [k]) W')) := hR
      clear hi hil hlt hk hix hx hR hrow hnx hJs hY h0
      gi_wp2
      refine hR'.out.mono ?_
      rintro e W3 (⟨rfl, hJ3, hk3⟩ | ⟨rfl, hJx3⟩)
      · gi_wp2
        go_roundw
        case rel => exact ⟨k + 1, by have := HK.out; omega, by have := HK.out; congr 1; omega, by rw [List.range_succ]; exact hJ3, HK.out.2.2.trans hk3⟩
        case measure => have := HK.out; simp [intOf]
      · gi_wp2
        refine bodyPost_ret (results_none rfl _ _ _) rfl ?_
        exact ⟨⟨_, rfl⟩, .inr ⟨_, ⟨k + 1, by have := HK.out; omega, (List.range_succ).symm⟩, hJx3⟩⟩
    · obtain rfl : k = L.length := by omega
      gi_wp2
      go_end0
      exact ⟨⟨_, rfl⟩, .inl ⟨_, rfl, hJs⟩⟩
end Go.Proofs.YtehighgebbdenaaGreatDoor
end
section
namespace Go.Proofs.YtehighgebbdenaaGreatDoor
open Go.RowKit
theorem bcell {W w1 : World} (hb : Below W.heap.size W w1) : (∀ b o, b < W.heap.size → w1.cell? ⟨b, o, none⟩ = W.cell? ⟨b, o, none⟩) ∧ (∀ b o, b < W.heap.size → w1.frozen? ⟨b, o, none⟩ = W.frozen? ⟨b, o, none⟩) :=
  ⟨fun b o h => hb.cell (p := ⟨b, o, none⟩) h, fun b o h => hb.frozen (p := ⟨b, o, none⟩) h⟩
set_option maxHeartbeats 400000 in
theorem check_ok (t b : Int) (w : World) (h1 : 1 ≤ t) (h2 : t ≤ 1073741824) (h3 : 0 ≤ b) (h4 : b < 4) :
    Calls Tryz.prog 219 #[.agg #[.int .i64 t, .int .i64 b]] w fun e w' => e = .returned .nilIface ∧ Below w.heap.size w w' := by
  go_enter Tryz.func219, Tryz.ntmps219
  go_wp2
  go_ret
  exact ⟨rfl, (Below.refl _ _).alloc (Nat.le_refl _) _⟩
set_option maxHeartbeats 400000 in
theorem check_no (t b : Int) (w : World) (eb : Value) (hg : w.cell? ⟨2, 0, none⟩ = some eb) (hz : 2 < w.heap.size) (h : ¬ (1 ≤ t ∧ t ≤ 1073741824 ∧ 0 ≤ b ∧ b < 4)) :
    Calls Tryz.prog 219 #[.agg #[.int .i64 t, .int .i64 b]] w fun e w' => e = .returned eb ∧ Below w.heap.size w w' := by
  by_cases h1 : 1 ≤ t
  · by_cases h2 : t ≤ 1073741824
    · by_cases h3 : 0 ≤ b
      · have h4 : 4 ≤ b := by omega
        have d4 : decide (b < 4) = false := by simp; omega
        clear h
        go_enter Tryz.func219, Tryz.ntmps219
        go_wp2
        go_ret
        exact ⟨rfl, (Below.refl _ _).alloc (Nat.le_refl _) _⟩
      · have h4 : b < 0 := by omega
        clear h h3
        go_enter Tryz.func219, Tryz.ntmps219
        go_wp2
        go_ret
        exact ⟨rfl, (Below.refl _ _).alloc (Nat.le_refl _) _⟩
    · have h4 : 1073741824 < t := by omega
      clear h h2
      go_enter Tryz.func219, Tryz.ntmps219
      go_wp2
      go_ret
      exact ⟨rfl, (Below.refl _ _).alloc (Nat.le_refl _) _⟩
  · have h4 : t < 1 := by omega
    clear h h1
    go_enter Tryz.func219, Tryz.ntmps219
    go_wp2
    go_ret
    exact ⟨rfl, (Below.refl _ _).alloc (Nat.le_refl _) _⟩
end Go.Proofs.YtehighgebbdenaaGreatDoor
end
section
namespace Go.Proofs.YtehighgebbdenaaGreatDoor
open Go.RowKit
set_option maxHeartbeats 400000 in
theorem id_ok (t b : Int) (w : World) (h1 : 1 ≤ t) (h2 : t ≤ 1073741824) (h3 : 0 ≤ b) (h4 : b < 4) :
    Calls Tryz.prog 176 #[.agg #[.int .i64 t, .int .i64 b]] w fun e w' => e = .returned (.tuple #[.int .i64 (t * 4 + b), .nilIface]) ∧ Below w.heap.size w w' := by
  go_enter Tryz.func176, Tryz.ntmps176
  go_wp2_with (go_at_call 219; refine (check_ok _ _ _ h1 h2 h3 h4).mono ?_; rintro e w1 ⟨rfl, hb⟩; obtain ⟨hc, hf⟩ := bcell hb)
  go_ret2
  exact ⟨rfl, ((Below.refl _ _).alloc (Nat.le_refl _) _).trans (hb.mono (by simp))⟩
set_option maxHeartbeats 400000 in
theorem id_no (t b : Int) (w : World) (u : TypeId) (x : Value) (hg : w.cell? ⟨2, 0, none⟩ = some (.iface u x)) (hz : 2 < w.heap.size) (h : ¬ (1 ≤ t ∧ t ≤ 1073741824 ∧ 0 ≤ b ∧ b < 4)) :
    Calls Tryz.prog 176 #[.agg #[.int .i64 t, .int .i64 b]] w fun e w' => e = .returned (.tuple #[.int .i64 0, .iface u x]) ∧ Below w.heap.size w w' := by
  have H : Hid (¬ (1 ≤ t ∧ t ≤ 1073741824 ∧ 0 ≤ b ∧ b < 4)) := h
  clear h
  go_enter Tryz.func176, Tryz.ntmps176
  go_wp2_with fail
  refine (check_no t b _ (.iface u x) (by rw [World.cell?_alloc_lt _ _ _ hz]; exact hg) (by simp <;> omega) H.out).mono ?_
  rintro e w1 ⟨rfl, hb⟩
  obtain ⟨hc, hf⟩ := bcell hb
  go_wp2
  go_ret2
  exact ⟨rfl, ((Below.refl _ _).alloc (Nat.le_refl _) _).trans (hb.mono (by simp))⟩
end Go.Proofs.YtehighgebbdenaaGreatDoor
end
section
namespace Go.Proofs.YtehighgebbdenaaGreatDoor
open Go.RowKit
set_option maxHeartbeats 400000 in
theorem of_ok (n : Int) (w : World) (h1 : 4 ≤ n) (h2 : n < 4294967300) :
    Calls Tryz.prog 191 #[.int .i64 n] w fun e w' => e = .returned (.tuple #[.agg #[.int .i64 (n / 4), .int .i64 (n % 4)], .nilIface]) ∧ Below w.heap.size w w' := by
  go_enter Tryz.func191, Tryz.ntmps191
  go_wp2_with (go_at_call 219; refine (check_ok _ _ _ (by omega) (by omega) (by omega) (by omega)).mono ?_; rintro e w1 ⟨rfl, hb⟩; obtain ⟨hc, hf⟩ := bcell hb)
  have c0 : w1.cell? ⟨w.heap.size, 0, none⟩ = some (.int .i64 0) := by rw [hc _ _ (by simp; omega)]; simp [go_sem]
  have c1 : w1.cell? ⟨w.heap.size, 1, none⟩ = some (.int .i64 0) := by rw [hc _ _ (by simp; omega)]; simp [go_sem]
  refine bodyPost_ret (v := .tuple #[.agg #[.int .i64 (n / 4), .int .i64 (n % 4)], .nilIface]) (by simp [results, Tryz.results191, go_sem, c0, c1]) rfl ⟨rfl, ?_⟩
  exact (((((Below.refl _ _).alloc (Nat.le_refl _) _).alloc (by simp) _).trans (hb.mono (by simp; omega))).setCell (by simp) _).setCell (by simp) _
end Go.Proofs.YtehighgebbdenaaGreatDoor
end
section
namespace Go.Proofs.YtehighgebbdenaaGreatDoor
open Go.RowKit
def lessB (t b t' b' : Int) : Bool := if t = t' then decide (b < b') else decide (t < t')
set_option maxHeartbeats 400000 in
theorem less_any (t b t' b' : Int) (w : World) :
    Calls Tryz.prog 115 #[.agg #[.int .i64 t, .int .i64 b], .agg #[.int .i64 t', .int .i64 b']] w fun e w' => e = .returned (.bool (lessB t b t' b')) ∧ Below w.heap.size w w' := by
  unfold lessB
  by_cases h : t = t'
  · have hd : (t != t') = false := by simp [h]
    rw [if_pos h]
    clear h
    go_enter Tryz.func115, Tryz.ntmps115
    go_wp2
    go_ret
    exact ⟨rfl, ((Below.refl _ _).alloc (Nat.le_refl _) _).alloc (by simp) _⟩
  · have hd : (t != t') = true := by simp [h]
    rw [if_neg h]
    clear h
    go_enter Tryz.func115, Tryz.ntmps115
    go_wp2
    go_ret
    exact ⟨rfl, ((Below.refl _ _).alloc (Nat.le_refl _) _).alloc (by simp) _⟩
end Go.Proofs.YtehighgebbdenaaGreatDoor
end
section
namespace Go.Proofs.YtehighgebbdenaaGreatDoor
open Go.RowKit
end Go.Proofs.YtehighgebbdenaaGreatDoor
end
section
namespace Go.Proofs.YtehighgebbdenaaGreatDoor
open Go.RowKit Go.Shelf
attribute [local go_sem] Oper.semAt_some
theorem eqSt (a b c d : Int) (w : World) : (Op.equalIn 10000 36 (.agg #[.int .i64 a, .int .i64 b]) (.agg #[.int .i64 c, .int .i64 d])).run Tryz.prog w = .ok (decide ((a, b) = (c, d))) w := by
  go_simp
  by_cases h1 : a = c <;> by_cases h2 : b = d <;> simp [h1, h2]
theorem lessB_iff (a b : Int × Int) : lessB a.1 a.2 b.1 b.2 = true ↔ SLt a b := by
  unfold lessB SLt
  split <;> simp <;> omega
set_option maxHeartbeats 1000000 in
theorem back_in (F : Fence) (n : Nat) (h5 : F.fn 227) (hro : F.round = none) (a : Option Addr) (len cap : Nat) (w : World) :
    CallsIn F n Tryz.prog 227 #[.slice a len cap] w fun e w' => e = .returned (.func (.func 282) #[] #[.pointer (some ⟨w.heap.size, 0, none⟩)]) ∧ w' = w.alloc (.cells #[.slice a len cap] 185) := by
  refine callsIn_of_wp Tryz.func227 rfl h5 ?_ hro
  simp only [Tryz.ntmps227, List.size_toArray, List.length_cons, List.length_nil, Nat.reduceAdd, Nat.reduceSub, Array.replicate_succ, Array.replicate_zero, List.push_toArray, List.append_toArray, List.nil_append, List.cons_append]
  gi_wp2
  go_ret
  exact ⟨rfl, rfl⟩
theorem back_stops (F : Fence) (n : Nat) (h7 : F.fn 282) (hro : F.round = none) (hn : 1 ≤ n) (Bs g off cap : Nat) (ao : Option Addr) (L : List Ent) (hlen : L.length ≤ 1000) (hao : L = [] ∨ ao = some ⟨g, off, none⟩) (w : World) (hBs : Bs < w.heap.size) (hg : g < w.heap.size)
    (hc : w.cell? ⟨Bs, 0, none⟩ = some (.slice ao L.length cap)) (hI : RowAt w g off L) :
    SeqStopsK F n Tryz.prog 282 #[.pointer (some ⟨Bs, 0, none⟩)] (encR L) (KeepTwo g Bs) (fun ys => ys = List.range L.length) (fun pre => ∃ k, k ≤ L.length ∧ pre = List.range k) L.length w := fun l J Jx W hW _ _ hY h0 => by
  have hc' := (hW.cell (p := ⟨Bs, 0, none⟩) hBs).trans hc
  exact back1_in F n h7 hro hn l Bs g off cap ao L hlen hao J Jx hY W hc' (hI.same (hW.block g hg)) h0
def StAt (w : World) (b : Nat) (s : Int × Int) : Prop := w.heap[b]? = some (.cells #[.int .i64 s.1, .int .i64 s.2] 36 (0, 0))
theorem StAt.c0 {w : World} {b : Nat} {s : Int × Int} (h : StAt w b s) : w.cell? ⟨b, 0, none⟩ = some (.int .i64 s.1) := by unfold StAt at h; simp [World.cell?, h]
theorem StAt.c1 {w : World} {b : Nat} {s : Int × Int} (h : StAt w b s) : w.cell? ⟨b, 1, none⟩ = some (.int .i64 s.2) := by unfold StAt at h; simp [World.cell?, h]
def EntAt (w : World) (b : Nat) (x : Ent) : Prop := w.heap[b]? = some (.cells #[.int .i64 x.1.1.1, .int .i64 x.1.1.2, .int .i64 x.1.2.1, .int .i64 x.1.2.2.1, .string x.1.2.2.2, .int .i64 x.2.1, .int .i64 x.2.2.1, .string x.2.2.2] 284 (0, 0))
theorem EntAt.cell {w : World} {b : Nat} {x : Ent} (h : EntAt w b x) (c : Nat) {u : Value} (hu : (encE x)[c]? = some u) : w.cell? ⟨b, c, none⟩ = some u := by
  unfold EntAt at h
  simp only [World.cell?, h]
  rw [← hu]
  simp [encE]
theorem kept_cells {X Y : World} {row : Option Nat} {b : Nat} {cs : Array Value} {t : TypeId} {fr : Nat × Nat} (h : X.heap[b]? = some (.cells cs t fr)) (hg : X.grownBy Y row) (hr : ∀ r, row = some r → ∃ o : Obj, X.heap[r]? = some o ∧ o.isCells = false) : Y.heap[b]? = some (.cells cs t fr) := by
  refine (hg.block b (Array.getElem?_eq_some_iff.1 h).1 (fun e => ?_)).trans h
  obtain ⟨o', ho', hc'⟩ := hr b e.symm
  rw [h] at ho'
  cases ho'
  cases hc'
theorem blk2 (w : World) (o1 o2 : Obj) : ((w.alloc o1).alloc o2).heap[w.heap.size]? = some o1 ∧ ((w.alloc o1).alloc o2).heap[w.heap.size + 1]? = some o2 := by
  refine ⟨(Below.heap_alloc _ _ _ (by simp)).trans (heap_alloc_new w o1), ?_⟩
  have := heap_alloc_new (w.alloc o1) o2
  rwa [World.size_alloc] at this
theorem blk4 (w : World) (o1 o2 o3 o4 : Obj) : ((((w.alloc o1).alloc o2).alloc o3).alloc o4).heap[w.heap.size]? = some o1 ∧ ((((w.alloc o1).alloc o2).alloc o3).alloc o4).heap[w.heap.size + 1]? = some o2 ∧ ((((w.alloc o1).alloc o2).alloc o3).alloc o4).heap[w.heap.size + 1 + 1]? = some o3 ∧ ((((w.alloc o1).alloc o2).alloc o3).alloc o4).heap[w.heap.size + 1 + 1 + 1]? = some o4 := by
  obtain ⟨a1, a2⟩ := blk2 w o1 o2
  obtain ⟨a3, a4⟩ := blk2 ((w.alloc o1).alloc o2) o3 o4
  simp only [World.size_alloc] at a3 a4
  exact ⟨(Below.heap_alloc _ _ _ (by simp only [World.size_alloc]; omega)).trans ((Below.heap_alloc _ _ _ (by simp only [World.size_alloc]; omega)).trans a1), (Below.heap_alloc _ _ _ (by simp only [World.size_alloc]; omega)).trans ((Below.heap_alloc _ _ _ (by simp only [World.size_alloc]; omega)).trans a2), a3, a4⟩
theorem two_set {W : World} {b1 b2 : Nat} {t1 t2 : TypeId} {v1 v2 : Value} (u1 u2 : Value) (h1 : Boxed W b1 t1 v1) (h2 : Boxed W b2 t2 v2) (hne : b1 ≠ b2) :
    Boxed ((W.setCell ⟨b1, 0, none⟩ u1).setCell ⟨b2, 0, none⟩ u2) b1 t1 u1 ∧ Boxed ((W.setCell ⟨b1, 0, none⟩ u1).setCell ⟨b2, 0, none⟩ u2) b2 t2 u2 :=
  ⟨(h1.set u1).kept (grownBy_setCell' _ _ _) (by simp [hne]), (h2.kept (grownBy_setCell' _ _ _) (by simp; omega)).set u2⟩
theorem keepsFrom_below {N : Nat} {W W' : World} (h : Below W.heap.size W W') : KeepsFrom N W W' :=
  ⟨h.size, fun k _ _ hk _ => (h.block k (Array.getElem?_eq_some_iff.1 hk).1).trans hk⟩
theorem keepTwo_below {g b : Nat} {W W' : World} (h : Below W.heap.size W W') (hg : g < W.heap.size) (hb : b < W.heap.size) : KeepTwo g b W W' := ⟨h.block g hg, h.block b hb⟩
theorem range_snoc {pre : List Nat} {x : Nat} (h : pre ++ [x] = List.range (pre ++ [x]).length) : pre = List.range pre.length ∧ x = pre.length := by
  rw [List.length_append, List.length_singleton, List.range_succ] at h
  have := List.append_inj' h rfl
  exact ⟨this.1, by simpa using this.2⟩
theorem entR_at {L : List Ent} {r : Nat} (h : r < L.length) : L[L.length - 1 - r]? = some (entR L r) := by
  unfold entR
  rw [List.getD_eq_getElem?_getD, List.getElem?_eq_getElem (by omega)]
  rfl
set_option maxRecDepth 100000 in
set_option maxHeartbeats 2000000 in
theorem find_any (w : World) (bt g cap : Nat) (ao : Option Addr) (L : List Ent) (ms : List Mov) (s : Int × Int) (hm : L.map (·.1) = ms) (hby : ByStamp ms) (hlen : L.length ≤ 1000) (hsl : w.cell? ⟨bt, 1, none⟩ = some (.slice ao L.length cap)) (hao : L = [] ∨ ao = some ⟨g, 0, none⟩) (hg : g < w.heap.size) (hrow : RowAt w g 0 L) :
    Calls Tryz.prog 187 #[.pointer (some ⟨bt, 0, none⟩), .agg #[.int .i64 s.1, .int .i64 s.2]] w fun e w' => (∃ (i : Nat) (b : Bool), e = .returned (.tuple #[.int .i64 (i : Int), .bool b]) ∧ Found ms s i b) ∧ Below w.heap.size w w' := by
  have hbt : bt < w.heap.size := block_lt_of_cell hsl
  have hsl3 : ∀ o1 o2 o3, (((w.alloc o1).alloc o2).alloc o3).cell? ⟨bt, 1, none⟩ = some (.slice ao L.length cap) := fun o1 o2 o3 =>
    (((((Below.refl w.heap.size w).alloc (Nat.le_refl _) o1).alloc (by simp) o2).alloc (by simp; omega) o3).cell (p := ⟨bt, 1, none⟩) hbt).trans hsl
  refine (callsIn_wide (n := 4)).1 ?_
  refine callsIn_of_wp_marks Tryz.func187 rfl trivial ?_ rfl
  simp only [Tryz.ntmps187, List.size_toArray, List.length_cons, List.length_nil, Nat.reduceAdd, Nat.reduceSub, Array.replicate_succ, Array.replicate_zero, List.push_toArray, List.append_toArray, List.nil_append, List.cons_append]
  gi_wp2_with (refine ⟨trivial, ?_⟩; gi_at_call 227; refine (back_in Fence.wide (4 - 1) trivial rfl _ _ _ _).mono ?_; rintro e w' ⟨rfl, rfl⟩)
  obtain ⟨w4, hw4⟩ : ∃ w4, w4 = (((w.alloc (.cells #[.int .i64 s.1, .int .i64 s.2] 36)).alloc (.cells #[.int .i64 0] 3)).alloc (.cells #[.bool false] 4)).alloc (.cells #[.slice ao L.length cap] 185) := ⟨_, rfl⟩
  rw [← hw4]
  have hB0 : Below w.heap.size w w4 := by rw [hw4]; exact (((((Below.refl w.heap.size w).alloc (Nat.le_refl _) _).alloc (by simp) _).alloc (by simp; omega) _).alloc (by simp; omega) _)
  have hs4 : w4.heap.size = w.heap.size + 4 := by rw [hw4]; simp
  obtain ⟨B, hB⟩ : ∃ B, B = w.heap.size := ⟨_, rfl⟩
  have e1 : StAt w4 B s := by rw [hw4, hB]; exact (blk4 w _ _ _ _).1
  have e2 : Boxed w4 (B + 1) 3 (.int .i64 0) := by rw [hw4, hB]; exact (blk4 w _ _ _ _).2.1
  have e3 : Boxed w4 (B + 1 + 1) 4 (.bool false) := by rw [hw4, hB]; exact (blk4 w _ _ _ _).2.2.1
  have e4 : Boxed w4 (B + 1 + 1 + 1) 185 (.slice ao L.length cap) := by rw [hw4, hB]; exact (blk4 w _ _ _ _).2.2.2
  rw [← hB] at hB0 hs4 hg hbt ⊢
  have HB : Aside (B = w.heap.size) := hB
  have hBw : B ≤ w.heap.size := by omega
  clear hB
  have hrow4 : RowAt w4 g 0 L := hrow.same (hB0.block g hg)
  have hms : ms.length = L.length := by rw [← hm]; simp
  clear hw4 hsl3 hrow
  refine wpIn_rangeFunc_ownH rfl (by omega) (gf := 282) (lb := #[.pointer (some ⟨B + 1 + 1 + 1, 0, none⟩)]) rfl trivial (enters_of Tryz.func282 (by kernel_rfl) rfl)
    (back_stops Fence.wide (4 - 1) trivial rfl (by omega) (B + 1 + 1 + 1) g 0 cap ao L hlen hao w4 (by omega) (by omega) e4.cell hrow4) KeepTwo.trans (fun W l o o' hl _ _ _ => KeepTwo.put (N := w4.heap.size) (by omega) (by omega) W l o' hl) (Below.refl _ _) (fun _ => rfl)
    (fun pre W => ((pre = List.range pre.length → Later ms s (L.length - pre.length)) ∧ StAt W B s ∧ Boxed W (B + 1) 3 (.int .i64 0) ∧ Boxed W (B + 1 + 1) 4 (.bool false) ∧ w4.heap.size ≤ W.heap.size) ∧ Below B w W)
    (fun c pre W => (c = .ret ∧ (pre = List.range pre.length → ∃ (i : Nat) (b : Bool), Found ms s i b ∧ Boxed W (B + 1) 3 (.int .i64 (i : Int)) ∧ Boxed W (B + 1 + 1) 4 (.bool b))) ∧ Below B w W)
    (OwnFrom.and (Own.from (fun _ X Y row hs hg hr => ⟨hs.1, kept_cells hs.2.1 hg hr, kept_cells hs.2.2.1 hg hr, kept_cells hs.2.2.2.1 hg hr, Nat.le_trans hs.2.2.2.2 hg.size⟩) _) (ownFrom_below (by omega) (by omega)))
    (fun c => OwnFrom.and (Own.from (fun _ X Y row hs hg hr => ⟨hs.1, fun hp => by obtain ⟨i, b, f1, f2, f3⟩ := hs.2 hp; exact ⟨i, b, f1, kept_cells f2 hg hr, kept_cells f3 hg hr⟩⟩) _) (ownFrom_below (by omega) (by omega)))
    ⟨⟨fun _ => by rw [List.length_nil, Nat.sub_zero, ← hms]; exact later_end ms s, e1, e2, e3, Nat.le_refl _⟩, hB0⟩
    (fun x a' W => ∃ Bx, w4.heap.size ≤ Bx ∧ EntAt W Bx (entR L x) ∧ a' = { tmps := #[.pointer (some ⟨bt, 0, none⟩), .agg #[.int .i64 s.1, .int .i64 s.2], undef, .pointer (some ⟨B, 0, none⟩), .pointer (some ⟨B + 1, 0, none⟩), .pointer (some ⟨B + 1 + 1, 0, none⟩), .int .i64 ((L.length - 1 - x : Nat) : Int), .pointer (some ⟨Bx, 0, none⟩), .pointer (some ⟨bt, 0, none⟩), .pointer (some ⟨bt, 0, none⟩), .pointer (some ⟨bt, 1, none⟩), .slice ao L.length cap, .func (.func 282) #[] #[.pointer (some ⟨B + 1 + 1 + 1, 0, none⟩)], .int .i64 ((L.length - 1 - x : Nat) : Int), .agg #[.int .i64 (entR L x).1.1.1, .int .i64 (entR L x).1.1.2, .int .i64 (entR L x).1.2.1, .int .i64 (entR L x).1.2.2.1, .string (entR L x).1.2.2.2, .int .i64 (entR L x).2.1, .int .i64 (entR L x).2.2.1, .string (entR L x).2.2.2], undef, undef, undef, undef, undef, undef, undef, undef, undef, undef, undef], defers := [] })
    (fun x a' => Own.from (fun _ X Y row hs hg hr => by obtain ⟨Bx, f1, f2, f3⟩ := hs; exact ⟨Bx, f1, kept_cells f2 hg hr, f3⟩) _)
    ?assign ?body ?done ?stop
  case assign =>
    rintro l pre x W K ⟨⟨hlat, hst, hr1, hr2, hsz⟩, hBW⟩ hK
    have hBs : B ≤ W.heap.size := by omega
    have hK' : Aside _ := hK
    have H1 : Aside (StAt W B s ∧ Boxed W (B + 1) 3 (.int .i64 0) ∧ Boxed W (B + 1 + 1) 4 (.bool false) ∧ Below B w W) := ⟨hst, hr1, hr2, hBW⟩
    clear hK hst hr1 hr2 hBW
    unfold encR
    gi_wp2
    refine hK'.out _ _ ((KeepsOthers.alloc _ _).from _) ⟨Below.heap_alloc _ _ _ (by omega), Below.heap_alloc _ _ _ (by omega)⟩ ⟨⟨hlat, ?_, H1.out.2.1.alloc _, H1.out.2.2.1.alloc _, by simp; omega⟩, H1.out.2.2.2.alloc hBs _⟩ ⟨W.heap.size, by omega, heap_alloc_new W _, rfl⟩
    exact (Below.heap_alloc _ _ _ (by omega)).trans H1.out.1
  case body =>
    rintro l pre x a' W hl _ ⟨⟨hlat, hst, hr1, hr2, hsz⟩, hBW⟩ ⟨Bx, hBx, hE, rfl⟩ hlt
    have k0 := hst.c0
    have k1 := hst.c1
    have f0 := hE.cell 0 (u := .int .i64 (entR L x).1.1.1) rfl
    have f1 := hE.cell 1 (u := .int .i64 (entR L x).1.1.2) rfl
    have g1 := hr1.cell
    have g2 := hr1.frozen
    have g3 := hr2.cell
    have g4 := hr2.frozen
    have hq := eqSt (entR L x).1.1.1 (entR L x).1.1.2 s.1 s.2
    by_cases he : (entR L x).1.1 = s
    · have hd : decide (((entR L x).1.1.1, (entR L x).1.1.2) = (s.1, s.2)) = true := decide_eq_true he
      rw [hd] at hq
      gi_wp2
      obtain ⟨q1, q2⟩ := two_set (.int .i64 ((L.length - 1 - x : Nat) : Int)) (.bool true) hr1 hr2 (by omega)
      refine ⟨((KeepsOthers.setCell _ _ _).trans (KeepsOthers.setCell _ _ _)).from _, ⟨rfl, fun hp => ?_⟩, (hBW.setCell (p := ⟨B + 1, 0, none⟩) (by show B ≤ B + 1; omega) _).setCell (p := ⟨B + 1 + 1, 0, none⟩) (by show B ≤ B + 1 + 1; omega) _⟩
      obtain ⟨hp1, hp2⟩ := range_snoc hp
      have hix := entR_at (L := L) (r := x) (by omega)
      exact ⟨L.length - 1 - x, true, found_same (m := (entR L x).1) (by rw [← hm, List.getElem?_map, hix]; rfl) he, q1, q2⟩
    · have hd : decide (((entR L x).1.1.1, (entR L x).1.1.2) = (s.1, s.2)) = false := decide_eq_false he
      rw [hd] at hq
      by_cases hls : SLt (entR L x).1.1 s
      · have hlb := (lessB_iff (entR L x).1.1 s).2 hls
        have hless := less_any (entR L x).1.1.1 (entR L x).1.1.2 s.1 s.2 W
        rw [hlb] at hless
        have hw1 : IntKind.i64.wrap (((L.length - 1 - x : Nat) : Int) + 1) = ((L.length - 1 - x : Nat) : Int) + 1 := by rw [IntKind.wrap_i64]; omega
        have G : Aside (Boxed W (B + 1) 3 (.int .i64 0) ∧ Boxed W (B + 1 + 1) 4 (.bool false)) := ⟨hr1, hr2⟩
        gi_wp2_with (refine ⟨trivial, ?_⟩; gi_at_call 115; refine (CallsIn.inRound l (callsIn_wide.2 hless)).mono ?_; rintro e w' ⟨rfl, hb'⟩; have G1 : Aside (Boxed w' (B + 1) 3 (.int .i64 0) ∧ Boxed w' (B + 1 + 1) 4 (.bool false)) := ⟨(hb'.block _ (by omega)).trans G.out.1, (hb'.block _ (by omega)).trans G.out.2⟩; have m1 := G1.out.1.cell; have m2 := G1.out.1.frozen; have m3 := G1.out.2.cell; have m4 := G1.out.2.frozen)
        obtain ⟨q1, q2⟩ := two_set (.int .i64 (((L.length - 1 - x : Nat) : Int) + 1)) (.bool false) G1.out.1 G1.out.2 (by omega)
        refine ⟨(keepsFrom_below hb').trans (((KeepsOthers.setCell _ _ _).trans (KeepsOthers.setCell _ _ _)).from _), ⟨rfl, fun hp => ?_⟩, ((hBW.trans (hb'.mono (by omega))).setCell (p := ⟨B + 1, 0, none⟩) (by show B ≤ B + 1; omega) _).setCell (p := ⟨B + 1 + 1, 0, none⟩) (by show B ≤ B + 1 + 1; omega) _⟩
        obtain ⟨hp1, hp2⟩ := range_snoc hp
        have hix := entR_at (L := L) (r := x) (by omega)
        exact ⟨L.length - 1 - x + 1, false, found_less (m := (entR L x).1) hby (by have := hlat hp1; rwa [show L.length - pre.length = L.length - 1 - x + 1 by omega] at this) (by rw [← hm, List.getElem?_map, hix]; rfl) hls, q1, q2⟩
      · have hlb : lessB (entR L x).1.1.1 (entR L x).1.1.2 s.1 s.2 = false := by
          cases hh : lessB (entR L x).1.1.1 (entR L x).1.1.2 s.1 s.2 with
          | false => rfl
          | true => exact absurd ((lessB_iff (entR L x).1.1 s).1 hh) hls
        have hless := less_any (entR L x).1.1.1 (entR L x).1.1.2 s.1 s.2 W
        rw [hlb] at hless
        gi_wp2_with (refine ⟨trivial, ?_⟩; gi_at_call 115; refine (CallsIn.inRound l (callsIn_wide.2 hless)).mono ?_; rintro e w' ⟨rfl, hb'⟩)
        refine ⟨keepsFrom_below hb', keepTwo_below hb' (by omega) (by omega), ⟨⟨fun hp => ?_, (hb'.block _ (by omega)).trans hst, (hb'.block _ (by omega)).trans hr1, (hb'.block _ (by omega)).trans hr2, by have := hb'.size; omega⟩, hBW.trans (hb'.mono (by omega))⟩⟩
        obtain ⟨hp1, hp2⟩ := range_snoc hp
        have hix := entR_at (L := L) (r := x) (by omega)
        have h1 := hlat hp1
        rw [show L.length - pre.length = L.length - 1 - x + 1 by omega] at h1
        rw [List.length_append, List.length_singleton, show L.length - (pre.length + 1) = L.length - 1 - x by omega]
        exact later_step (m := (entR L x).1) h1 (by rw [← hm, List.getElem?_map, hix]; rfl) he hls
  case done =>
    rintro D ys W hD rfl ⟨⟨hlat, hst, hr1, hr2, hsz⟩, hBW⟩ hK
    have g1 := hr1.cell
    have g2 := hr1.frozen
    have g3 := hr2.cell
    have g4 := hr2.frozen
    gi_wp2
    have hK' := ((KeepsOthers.setCell W ⟨B + 1, 0, none⟩ (.int .i64 0)).trans (KeepsOthers.setCell _ ⟨B + 1 + 1, 0, none⟩ (.bool false))).same D _ hK rfl
    refine ⟨by simp, .inl ⟨_, _, rfl, run_takeDeferred hK', ?_⟩⟩
    obtain ⟨q1, q2⟩ := two_set (.int .i64 0) (.bool false) hr1 hr2 (by omega)
    have q3 : Boxed _ (B + 1) 3 (.int .i64 0) := kept_cells q1 (grownBy_putObj' _ D (.deferred none)) (fun r e => by cases e; exact ⟨_, hK', rfl⟩)
    have q4 : Boxed _ (B + 1 + 1) 4 (.bool false) := kept_cells q2 (grownBy_putObj' _ D (.deferred none)) (fun r e => by cases e; exact ⟨_, hK', rfl⟩)
    have q5 := q3.cell
    have q6 := q4.cell
    refine ⟨.tuple #[.int .i64 0, .bool false], ?_, ⟨0, false, rfl, found_first (by have := hlat (by simp); simpa using this)⟩, ?_⟩
    · simp [results, Tryz.f187, go_sem, q5, q6]
    · rw [← HB.out]
      exact ((hBW.setCell (p := ⟨B + 1, 0, none⟩) (by show B ≤ B + 1; omega) _).setCell (p := ⟨B + 1 + 1, 0, none⟩) (by show B ≤ B + 1 + 1; omega) _).trans (belowK_b (w := w) (by omega) _ D _ _ (by have := HB.out; omega) hK' rfl rfl)
  case stop =>
    rintro D c pre W hD ⟨k, hk, rfl⟩ ⟨⟨rfl, hf⟩, hBW⟩ hK
    obtain ⟨i, b, hF, hr1, hr2⟩ := hf (by simp)
    gi_wp2
    refine ⟨by simp, .inl ⟨_, _, rfl, run_takeDeferred hK, ?_⟩⟩
    have q3 : Boxed _ (B + 1) 3 (.int .i64 (i : Int)) := kept_cells hr1 (grownBy_putObj' _ D (.deferred none)) (fun r e => by cases e; exact ⟨_, hK, rfl⟩)
    have q4 : Boxed _ (B + 1 + 1) 4 (.bool b) := kept_cells hr2 (grownBy_putObj' _ D (.deferred none)) (fun r e => by cases e; exact ⟨_, hK, rfl⟩)
    have q5 := q3.cell
    have q6 := q4.cell
    refine ⟨.tuple #[.int .i64 (i : Int), .bool b], ?_, ⟨i, b, rfl, hF⟩, ?_⟩
    · simp [results, Tryz.f187, go_sem, q5, q6]
    · rw [← HB.out]
      exact hBW.trans (belowK_b (w := w) (by omega) W D _ _ (by have := HB.out; omega) hK rfl rfl)
end Go.Proofs.YtehighgebbdenaaGreatDoor
end
