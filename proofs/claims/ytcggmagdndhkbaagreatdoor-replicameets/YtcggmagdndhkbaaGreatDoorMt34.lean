import Derived.Test.YtcggmagdndhkbaaGreatDoorMt10
import Derived.Test.YtcggmagdndhkbaaGreatDoorMt32
import Derived.Test.YtcggmagdndhkbaaGreatDoorRows
import Derived.Test.YtcggmagdndhkbaaGreatDoorProg
import Derived.LaidLaws
import Derived.LaidHandle
import Derived.LaidMore
import Derived.KernelRfl
import Derived.ProofKit
import Derived.OpenShut
import Derived.Stop.Joined
import Derived.SevenTiedAt
import Derived.Lib.SmallJoins
import Derived.Lib.LaidU8
import Derived.Lib.LaidTab
import Derived.Lib.ItoaNum
import Derived.Laws.IdiomArrays
import Derived.ChangeArms
import Derived.ChangeSame
import Derived.WideShapes
import Derived.Deep.Slices
import Derived.Below
section
namespace Go.Proofs.YtcggmagdndhkbaaGreatDoor
theorem laid_list {P : Program} {W : World} {ti tp te ts : TypeId} {ms : Array (String × TypeId)} {nm : String} {f : Field}
    (hi : P.underlying ti = some (.interface ms)) (hrow : ∀ u, P.typeName? 3 u = some nm → u = tp) (hp : P.underlying tp = some (.pointer te)) (he : P.underlying te = some (.struct #[f])) (hft : f.type = ts) (hfo : f.offset = 0) (hs : P.underlying ts = some .string) (hc : P.cellsOf te = 1) (hcs : P.cellsOf ts = 1) :
    ∀ (l : List (String × Nat × List UInt8)) (ps : List MemPlace),
      (∀ x ∈ l, P.globalNamed x.1 = some x.2.1 ∧ (P.globals[x.2.1]?).map (·.type) = some ti) →
      DataW.LaidVars P W (l.map fun x => (x.1, .iface nm (.ptr (.agg [.lit (.string x.2.2)])))) ps → ps.Nodup →
      (∀ b off, MemPlace.cell b off ∈ ps → (∃ c t, W.heap[b]? = some (.cells c t (0, 0))) ∧ ∀ u v, W.cell? ⟨b, off, none⟩ = some (.iface u v) → Value.okWide P W .any 0 u v) →
      ∃ az : List Addr, az.length = l.length ∧ (∀ (i : Nat) (x : String × Nat × List UInt8) (a : Addr), l[i]? = some x → az[i]? = some a → W.cell? ⟨x.2.1, 0, none⟩ = some (.iface tp (.pointer (some a)))) ∧
        (∀ a ∈ az, (∃ c t, W.heap[a.block]? = some (.cells c t (0, 0))) ∧ MemPlace.cell a.block a.off ∈ ps) ∧ az.Nodup
  | [], ps, _, _, _, _ => ⟨[], rfl, by simp, by simp, List.nodup_nil⟩
  | x :: l, ps, hx, hv, hnd, hr => by
    obtain ⟨g, t, cs, fuel, p, q, hg, ht, hvar, hd, hq, e⟩ := hv
    subst e
    obtain ⟨hg', ht'⟩ := hx x (List.mem_cons_self)
    obtain rfl := Option.some.inj (hg'.symm.trans hg)
    obtain rfl := Option.some.inj (ht'.symm.trans ht)
    obtain ⟨l0⟩ := cs
    have ok0 : ∀ u v, l0 = [.iface u v] → Value.okWide P W .any 0 u v := fun u v e => by
      subst e
      exact (hr x.2.1 0 (by simp [MemPlace.row])).2 u v (by simpa using World.var?_cell hg hvar 0)
    obtain ⟨a0, s0, rfl, hc0, hs0, hz0, rfl⟩ := errorString_of_trod hi hrow hp he hft hfo hs hc hcs hd ok0
    have hnd2 := List.nodup_append.1 hnd
    obtain ⟨az, hl, h1, h2, h3⟩ := laid_list hi hrow hp he hft hfo hs hc hcs l q (fun y hy => hx y (List.mem_cons_of_mem _ hy)) hq hnd2.2.1 (fun b off hm => hr b off (List.mem_append_right _ hm))
    have hm0 : MemPlace.cell a0.block a0.off ∈ MemPlace.row ⟨x.2.1, 0, none⟩ (#[Value.iface tp (.pointer (some a0))] : Array Value).size ++ MemPlace.row a0 1 := List.mem_append_right _ (by simp [MemPlace.row])
    refine ⟨a0 :: az, by simp [hl], ?_, ?_, ?_⟩
    · intro i y a hy ha
      cases i with
      | zero =>
        simp only [List.getElem?_cons_zero, Option.some.injEq] at hy ha
        subst hy ha
        simpa using World.var?_cell hg hvar 0
      | succ i =>
        simp only [List.getElem?_cons_succ] at hy ha
        exact h1 i y a hy ha
    · intro a ha
      rcases List.mem_cons.1 ha with rfl | ha
      · exact ⟨(hr _ _ (List.mem_append_left _ hm0)).1, List.mem_append_left _ hm0⟩
      · exact ⟨(h2 a ha).1, List.mem_append_right _ (h2 a ha).2⟩
    · refine List.nodup_cons.2 ⟨fun hin => ?_, h3⟩
      exact hnd2.2.2 _ hm0 _ (h2 a0 hin).2 rfl
theorem Tryz.yStar : "*" ++ "errors.errorString" = "*errors.errorString" := by decide
theorem Tryz.yRow (u : TypeId) (h : Tryz.prog.typeName? 3 u = some "*errors.errorString") : u = 416 :=
  typeName_ptr_named (nm := "errors.errorString") (by rw [Tryz.yStar]; kernel_rfl) (by kernel_rfl) (by decide) u (by rw [Tryz.yStar]; exact h)
theorem Tryz.yCellsS : Tryz.prog.cellsOf 434 = 1 := by kernel_rfl
theorem Tryz.yCellsString : Tryz.prog.cellsOf 9 = 1 := by kernel_rfl
end Go.Proofs.YtcggmagdndhkbaaGreatDoor
end
section
namespace Go.Proofs.YtcggmagdndhkbaaGreatDoor
set_option maxRecDepth 100000 in
theorem some_of {W : World} (l : List (String × Nat × List UInt8)) (hn : ∀ x ∈ l, Tryz.prog.globalNamed x.1 = some x.2.1 ∧ (Tryz.prog.globals[x.2.1]?).map (·.type) = some 25)
    (h1 : laidMet Tryz.prog (l.map fun x => (x.1, .iface "*errors.errorString" (.ptr (.agg [.lit (.string x.2.2)])))) W) :
    ∃ az : List Addr, ∀ (i : Nat) x, l[i]? = some x → W.cell? ⟨x.2.1, 0, none⟩ = some (.iface 416 (.pointer (some (az.getD i ⟨0, 0, none⟩)))) := by
  obtain ⟨ps, hv, hnd, hr⟩ := h1
  obtain ⟨az, hl, hcell, -, -⟩ := laid_list Tryz.underlying25 Tryz.yRow Tryz.underlying416 Tryz.underlying434 rfl rfl Tryz.underlying9 Tryz.yCellsS Tryz.yCellsString l ps hn hv hnd hr
  refine ⟨az, fun i x hx => hcell i x _ hx ?_⟩
  have hi : i < az.length := by rw [hl]; exact (List.getElem?_eq_some_iff.1 hx).1
  rw [List.getD_eq_getElem?_getD, List.getElem?_eq_getElem hi]; rfl
end Go.Proofs.YtcggmagdndhkbaaGreatDoor
end
section
namespace Go.Proofs.YtcggmagdndhkbaaGreatDoor
open Go.RowKit
theorem cellsInt : Tryz.prog.cellsOf 3 = 1 := by kernel_rfl
end Go.Proofs.YtcggmagdndhkbaaGreatDoor
end
section
namespace Go.Proofs.YtcggmagdndhkbaaGreatDoor
open Go.ChangeShapes Go.WideShapes Go.ChangeAt Go.RowKit Go.Joins
theorem cellsOp : Tryz.prog.cellsOf 31 = 8 := by kernel_rfl
theorem cellsStamp2 : Tryz.prog.cellsOf 29 = 2 := by kernel_rfl
theorem cellsByte1 : Tryz.prog.cellsOf 5 = 1 := by kernel_rfl
theorem cellsStr1 : Tryz.prog.cellsOf 9 = 1 := by kernel_rfl
def opD (H : Type) (t b n : Int) (k : Nat) (node other : Int) (name value : ByteArray) : DataW H := .agg [.agg [.lit (.int .i64 t), .lit (.int .i64 b)], .lit (.int .i64 n), .lit (.int .u8 (k : Int)), .lit (.int .i64 node), .lit (.int .i64 other), .lit (.string name.data.toList), .lit (.string value.data.toList)]
structure OpWf (t b n : Int) (k : Nat) (node other : Int) (name value : ByteArray) : Prop where
  t : (Lit.int .i64 t).wf = true
  b : (Lit.int .i64 b).wf = true
  n : (Lit.int .i64 n).wf = true
  k : (Lit.int .u8 (k : Int)).wf = true
  node : (Lit.int .i64 node).wf = true
  other : (Lit.int .i64 other).wf = true
  name : name.size ≤ maxLen
  value : value.size ≤ maxLen
theorem array8 {α : Type} {cs : List α} (h : cs.length = 8) : ∃ c0 c1 c2 c3 c4 c5 c6 c7, cs = [c0, c1, c2, c3, c4, c5, c6, c7] := by
  match cs, h with
  | [c0, c1, c2, c3, c4, c5, c6, c7], _ => exact ⟨c0, c1, c2, c3, c4, c5, c6, c7, rfl⟩
set_option maxRecDepth 100000 in
set_option maxHeartbeats 1000000 in
theorem trod_op {H : Type} {enc : TypeId × Value → H} {W : World} {base : Nat} {sp : Nat → Bool} {held : Bool} {fuel : Nat} {cs : List Value} {x : DataW H × List MemPlace} (h : DataW.trod enc Tryz.prog W base sp held fuel 31 cs = some x) :
    ∃ (t b n : Int) (k : Nat) (node other : Int) (name value : ByteArray), cs = [.int .i64 t, .int .i64 b, .int .i64 n, .int .u8 (k : Int), .int .i64 node, .int .i64 other, .string name, .string value] ∧ x = (opD H t b n k node other name value, []) ∧ OpWf t b n k node other name value := by
  obtain ⟨xs, m, _, rfl, hl, hlen, hf⟩ := DataW.trod_struct Tryz.underlying31 h
  rw [cellsOp] at hl
  obtain ⟨c0, c1, c2, c3, c4, c5, c6, c7, rfl⟩ := array8 hl
  match xs, hlen with
  | [y0, y1, y2, y3, y4, y5, y6], _ =>
    have g0 := hf 0 _ rfl
    have g1 := hf 1 _ rfl
    have g2 := hf 2 _ rfl
    have g3 := hf 3 _ rfl
    have g4 := hf 4 _ rfl
    have g5 := hf 5 _ rfl
    have g6 := hf 6 _ rfl
    simp [cellsStamp2, cellsInt, cellsByte1, cellsStr1] at g0 g1 g2 g3 g4 g5 g6
    obtain ⟨z0, z1, m2, rfl, -, s0, s1⟩ := trod_struct2 Tryz.underlying29 g0
    simp [cellsInt] at s0 s1
    obtain ⟨t, e0, rfl, w0⟩ := DataW.trod_int Tryz.underlying3 s0
    obtain ⟨b, e1, rfl, w1⟩ := DataW.trod_int Tryz.underlying3 s1
    obtain ⟨n, e2, rfl, w2⟩ := DataW.trod_int Tryz.underlying3 g1
    obtain ⟨k, e3, rfl, w3⟩ := DataW.trod_int Tryz.underlying5 g2
    obtain ⟨node, e4, rfl, w4⟩ := DataW.trod_int Tryz.underlying3 g3
    obtain ⟨other, e5, rfl, w5⟩ := DataW.trod_int Tryz.underlying3 g4
    obtain ⟨name, e6, rfl, w6⟩ := DataW.trod_string Tryz.underlying9 g5
    obtain ⟨value, e7, rfl, w7⟩ := DataW.trod_string Tryz.underlying9 g6
    simp at e0 e1 e2 e3 e4 e5 e6 e7
    subst e0 e1 e2 e3 e4 e5 e6 e7
    have hk : 0 ≤ k := by
      simp [Lit.wf, IntKind.min, IntKind.max, IntKind.signed, IntKind.bits] at w3
      omega
    obtain ⟨k', rfl⟩ : ∃ k' : Nat, k = (k' : Int) := ⟨k.toNat, by omega⟩
    exact ⟨t, b, n, k', node, other, name, value, rfl, by simp [opD], ⟨w0, w1, w2, w3, w4, w5, w6, w7⟩⟩
end Go.Proofs.YtcggmagdndhkbaaGreatDoor
end
section
namespace Go.Proofs.YtcggmagdndhkbaaGreatDoor
open Go.ChangeShapes Go.WideShapes Go.RowKit Go.Deep
theorem cellsIntZ : Tryz.prog.cellsOf 3 = 1 := by kernel_rfl
def IntsZ (w : World) (ao : Option Addr) (zs : List Int) : Prop := zs = [] ∨ ∃ blk off, ao = some ⟨blk, off, none⟩ ∧ ∀ j z, zs[j]? = some z → w.cell? ⟨blk, off + j, none⟩ = some (.int .i64 z)
theorem IntsZ.later {w w' : World} {ao : Option Addr} {zs : List Int} (h : IntsZ w ao zs) (hb : Below w.heap.size w w') : IntsZ w' ao zs := by
  rcases h with h | ⟨g, o, h1, h2⟩
  · exact .inl h
  · refine .inr ⟨g, o, h1, fun j z hj => ?_⟩
    rw [hb.cell (p := ⟨g, o + j, none⟩) (World.block_lt_of_cell? w ⟨g, o + j, none⟩ (h2 j z hj))]
    exact h2 j z hj
theorem IntsZ.at {w : World} {ao : Option Addr} {zs : List Int} (h : IntsZ w ao zs) {i : Nat} {z : Int} (hi : zs[i]? = some z) : ∃ blk off, ao = some ⟨blk, off, none⟩ ∧ w.cell? ⟨blk, off + i, none⟩ = some (.int .i64 z) := by
  rcases h with h | ⟨b, o, h1, h2⟩
  · subst h; simp at hi
  · exact ⟨b, o, h1, h2 i z hi⟩
theorem ints_in {H : Type} {enc : TypeId × Value → H} {W : World} {base : Nat} {sp : Nat → Bool} {held : Bool} {ao : Option Addr} {len cap : Nat} {d : DataW H} {p : List MemPlace}
    (h : DataW.Trod enc Tryz.prog W base sp held 42 (.slice ao len cap) d p) : ∃ zs : List Int, zs.length = len ∧ len ≤ maxLen ∧ IntsZ W ao zs := by
  obtain ⟨fuel, hf⟩ := h
  rcases open_slice Tryz.underlying42 hf with ⟨hcs, _⟩ | ⟨a, len', cap', m, n, D, Pl, hcs, _, hl, hmax, hm, _, hx⟩
  · simp [Value.cells] at hcs
    obtain ⟨rfl, rfl, rfl⟩ := hcs
    exact ⟨[], rfl, Nat.zero_le _, .inl rfl⟩
  · simp [Value.cells] at hcs
    obtain ⟨rfl, rfl, rfl⟩ := hcs
    have hmm : len ≤ m := by subst hm; split <;> omega
    rcases Nat.eq_zero_or_pos len with h0 | hpos
    · exact ⟨[], h0.symm, by omega, .inl rfl⟩
    · have key : ∀ i, i < len → ∃ z : Int, W.cell? (a.add i) = some (.int .i64 z) := fun i hi => by
        obtain ⟨cs', h1, h2⟩ := hx i (by omega)
        rw [cellsIntZ] at h1
        obtain ⟨z, e0, _, _⟩ := DataW.trod_int Tryz.underlying3 h2
        have := (World.cells?_some h1).2.2 0 (by omega)
        rw [e0] at this
        rw [Nat.mul_one] at this
        obtain ⟨b, off, spot⟩ := a
        exact ⟨z, by simpa [Addr.add] using this⟩
      obtain ⟨f, hf⟩ := choose_lt key
      obtain ⟨b, off, spot⟩ := a
      have hspot : spot = none := by
        have hz := hf 0 hpos
        simpa [Addr.add] using World.cell?_spot hz
      subst hspot
      refine ⟨(List.range len).map f, by simp, by omega, .inr ⟨b, off, rfl, fun j z hj => ?_⟩⟩
      have hil : j < len := by
        have := (List.getElem?_eq_some_iff.1 hj).1
        simpa using this
      rw [List.getElem?_map, List.getElem?_range hil] at hj
      simp only [Option.map_some, Option.some.injEq] at hj
      subst hj
      have := hf j hil
      simpa [add_plain] using this
end Go.Proofs.YtcggmagdndhkbaaGreatDoor
end
section
namespace Go.Proofs.YtcggmagdndhkbaaGreatDoor
open Go.ChangeShapes Go.WideShapes Go.RowKit Go.Deep
theorem cellsTurnT : Tryz.prog.cellsOf 122 = 10 := by kernel_rfl
theorem i64Wf {z : Int} (h : (Lit.int .i64 z).wf = true) : -9223372036854775808 ≤ z ∧ z ≤ 9223372036854775807 := by
  simp [Lit.wf, IntKind.min, IntKind.max, IntKind.signed, IntKind.bits] at h
  omega
theorem u8Wf {k : Nat} (h : (Lit.int .u8 (k : Int)).wf = true) : k < 256 := by
  simp [Lit.wf, IntKind.min, IntKind.max, IntKind.signed, IntKind.bits] at h
  omega
set_option maxRecDepth 100000 in
set_option maxHeartbeats 1000000 in
theorem trod_turn {H : Type} {enc : TypeId × Value → H} {W : World} {base : Nat} {sp : Nat → Bool} {held : Bool} {fuel : Nat} {cs : List Value} {x : DataW H × List MemPlace} (h : DataW.trod enc Tryz.prog W base sp held fuel 122 cs = some x) :
    ∃ t : Trn, cs = encTr t ∧ (TrnShort t → TrnOk t) := by
  obtain ⟨xs, m, _, rfl, hl, hlen, hf⟩ := DataW.trod_struct Tryz.underlying122 h
  rw [cellsTurnT] at hl
  match cs, hl with
  | [c0, c1, c2, c3, c4, c5, c6, c7, c8, c9], _ =>
  match xs, hlen with
  | [y0, y1, y2], _ =>
    have g0 := hf 0 _ rfl
    have g1 := hf 1 _ rfl
    have g2 := hf 2 _ rfl
    simp [cellsInt, cellsOp] at g0 g1 g2
    obtain ⟨a, e0, rfl, w0⟩ := DataW.trod_int Tryz.underlying3 g0
    obtain ⟨f, e1, rfl, w1⟩ := DataW.trod_int Tryz.underlying3 g1
    obtain ⟨t, b, n, k, node, other, name, value, e2, -, wo⟩ := trod_op g2
    simp at e0 e1 e2
    obtain ⟨rfl, rfl, rfl, rfl, rfl, rfl, rfl, rfl⟩ := e2
    subst e0 e1
    exact ⟨(a, f, t, b, n, k, node, other, name, value), rfl, fun hs => ⟨hs.1, hs.2, u8Wf wo.k, i64Wf wo.node, i64Wf wo.other⟩⟩
theorem turns_in {H : Type} {enc : TypeId × Value → H} {W : World} {base : Nat} {sp : Nat → Bool} {held : Bool} {ao : Option Addr} {len cap : Nat} {d : DataW H} {p : List MemPlace}
    (h : DataW.Trod enc Tryz.prog W base sp held 41 (.slice ao len cap) d p) :
    ∃ xs : List Trn, xs.length = len ∧ len ≤ maxLen ∧ InRow encTr W ao xs ∧ ∀ t ∈ xs, TrnShort t → TrnOk t := by
  obtain ⟨fuel, hf⟩ := h
  rcases open_slice Tryz.underlying41 hf with ⟨hcs, _⟩ | ⟨a, len', cap', m, n, D, Pl, hcs, _, hl, hmax, hm, _, hx⟩
  · simp [Value.cells] at hcs
    obtain ⟨rfl, rfl, rfl⟩ := hcs
    exact ⟨[], rfl, Nat.zero_le _, .inl rfl, fun x hx => by simp at hx⟩
  · simp [Value.cells] at hcs
    obtain ⟨rfl, rfl, rfl⟩ := hcs
    have hmm : len ≤ m := by subst hm; split <;> omega
    rcases Nat.eq_zero_or_pos len with h0 | hpos
    · exact ⟨[], h0.symm, by omega, .inl rfl, fun x hx => by simp at hx⟩
    · have key : ∀ i, i < len → ∃ o : Trn, (TrnShort o → TrnOk o) ∧ ∀ c, c < 10 → W.cell? ((a.add (i * 10)).add c) = (encTr o)[c]? := fun i hi => by
        obtain ⟨cs', h1, h2⟩ := hx i (by omega)
        rw [cellsTurnT] at h1
        obtain ⟨o, rfl, ho⟩ := trod_turn h2
        exact ⟨o, ho, fun c h10 => (World.cells?_some h1).2.2 c h10⟩
      obtain ⟨f, hf⟩ := choose_lt key
      obtain ⟨b, off, spot⟩ := a
      have h00 : W.cell? ((Addr.add ⟨b, off, spot⟩ (0 * 10)).add 0) = some (.int .i64 (f 0).1) := (hf 0 hpos).2 0 (by omega)
      have hspot : spot = none := by simpa [Addr.add] using World.cell?_spot h00
      subst hspot
      refine ⟨(List.range len).map f, by simp, by omega, .inr ⟨b, off, rfl, fun j u hj => ?_⟩, fun x hx => ?_⟩
      · have hjl : j < len * 10 := by
          have := (List.getElem?_eq_some_iff.1 hj).1
          rw [flat_len encTr_len] at this
          simpa using this
        have hi : j / 10 < len := by omega
        have e : j / 10 * 10 + j % 10 = j := by omega
        have hm : ((List.range len).map f)[j / 10]? = some (f (j / 10)) := by rw [List.getElem?_map, List.getElem?_range hi]; rfl
        have h2 := flat_get (enc := encTr) encTr_len hm (show j % 10 < 10 by omega)
        rw [e] at h2
        have h1 := (hf (j / 10) hi).2 (j % 10) (by omega)
        rw [← h2, hj, add_plain, add_plain, Nat.add_assoc, e] at h1
        exact h1
      · obtain ⟨i, hi, rfl⟩ := List.mem_map.1 hx
        exact (hf i (List.mem_range.1 hi)).1
theorem intsRow {w : World} {ao : Option Addr} {zs : List Int} (h : IntsZ w ao zs) : InRow encI1 w ao zs := by
  rcases h with h | ⟨b, o, h1, h2⟩
  · exact .inl h
  · refine .inr ⟨b, o, h1, fun j u hj => ?_⟩
    have hjl : j < zs.length := by
      have := (List.getElem?_eq_some_iff.1 hj).1
      rw [flat_len encI1_len] at this
      simpa using this
    have hz : zs[j]? = some zs[j] := List.getElem?_eq_getElem hjl
    have h3 := flat_get (enc := encI1) encI1_len hz (show 0 < 1 by omega)
    have e : j * 1 + 0 = j := by omega
    rw [e, hj] at h3
    have h4 : u = .int .i64 zs[j] := Option.some.inj h3
    rw [h4]
    exact h2 j _ hz
end Go.Proofs.YtcggmagdndhkbaaGreatDoor
end
section
namespace Go.Proofs.YtcggmagdndhkbaaGreatDoor
open Go.ChangeShapes Go.WideShapes Go.ChangeAt Go.RowKit Go.Joins
theorem gPow : Tryz.prog.globalNamed "internal/strconv.uint64pow10" = some 13 := by kernel_rfl
theorem tPow : (Tryz.prog.globals[13]?).map (·.type) = some 373 := by kernel_rfl
theorem cellsPow : Tryz.prog.cellsOf 373 = 20 := by kernel_rfl
theorem cellsU64 : Tryz.prog.cellsOf 302 = 1 := by kernel_rfl
theorem tab_of {W : World} (h : Lib.VarReads Tryz.prog W "internal/strconv.uint64pow10" (Lib.tabData .u64 Lib.pow10Tab)) : Lib.TabIs Tryz.prog W "internal/strconv.uint64pow10" .u64 Lib.pow10Tab := by
  obtain ⟨g, t, cs, fuel, p, hg, ht, hvar, hd⟩ := h
  obtain rfl := Option.some.inj (gPow.symm.trans hg)
  obtain rfl := Option.some.inj (tPow.symm.trans ht)
  unfold Lib.TabIs
  rw [hvar, ← Lib.cells_of_tab Tryz.underlying373 Tryz.underlying302 cellsU64 cellsPow hd]
end Go.Proofs.YtcggmagdndhkbaaGreatDoor
end
