import Derived.Test.YtcggmagdndhkbaaGreatDoorAx05
import Derived.Test.YtcggmagdndhkbaaGreatDoorAx09
import Derived.Test.YtcggmagdndhkbaaGreatDoorAx21
import Derived.Test.YtcggmagdndhkbaaGreatDoorRows
import Derived.Test.YtcggmagdndhkbaaGreatDoorProg
import Derived.LaidLaws
import Derived.LaidHandle
import Derived.LaidMore
import Derived.KernelRfl
import Derived.ProofKit
import Derived.OpenShut
import Derived.Stop.Joined
import Derived.SevenTiedAt
import Derived.Lib.SmallJoins
import Derived.Lib.LaidU8
import Derived.Lib.LaidTab
import Derived.Lib.ItoaNum
import Derived.Laws.IdiomArrays
import Derived.ChangeArms
import Derived.ChangeSame
import Derived.Deep.Slices
section
namespace Go.Proofs.YtcggmagdndhkbaaGreatDoor
theorem laid_list {P : Program} {W : World} {ti tp te ts : TypeId} {ms : Array (String × TypeId)} {nm : String} {f : Field}
    (hi : P.underlying ti = some (.interface ms)) (hrow : ∀ u, P.typeName? 3 u = some nm → u = tp) (hp : P.underlying tp = some (.pointer te)) (he : P.underlying te = some (.struct #[f])) (hft : f.type = ts) (hfo : f.offset = 0) (hs : P.underlying ts = some .string) (hc : P.cellsOf te = 1) (hcs : P.cellsOf ts = 1) :
    ∀ (l : List (String × Nat × List UInt8)) (ps : List MemPlace),
      (∀ x ∈ l, P.globalNamed x.1 = some x.2.1 ∧ (P.globals[x.2.1]?).map (·.type) = some ti) →
      DataW.LaidVars P W (l.map fun x => (x.1, .iface nm (.ptr (.agg [.lit (.string x.2.2)])))) ps → ps.Nodup →
      (∀ b off, MemPlace.cell b off ∈ ps → (∃ c t, W.heap[b]? = some (.cells c t (0, 0))) ∧ ∀ u v, W.cell? ⟨b, off, none⟩ = some (.iface u v) → Value.okWide P W .any 0 u v) →
      ∃ az : List Addr, az.length = l.length ∧ (∀ (i : Nat) (x : String × Nat × List UInt8) (a : Addr), l[i]? = some x → az[i]? = some a → W.cell? ⟨x.2.1, 0, none⟩ = some (.iface tp (.pointer (some a)))) ∧
        (∀ a ∈ az, (∃ c t, W.heap[a.block]? = some (.cells c t (0, 0))) ∧ MemPlace.cell a.block a.off ∈ ps) ∧ az.Nodup
  | [], ps, _, _, _, _ => ⟨[], rfl, by simp, by simp, List.nodup_nil⟩
  | x :: l, ps, hx, hv, hnd, hr => by
    obtain ⟨g, t, cs, fuel, p, q, hg, ht, hvar, hd, hq, e⟩ := hv
    subst e
    obtain ⟨hg', ht'⟩ := hx x (List.mem_cons_self)
    obtain rfl := Option.some.inj (hg'.symm.trans hg)
    obtain rfl := Option.some.inj (ht'.symm.trans ht)
    obtain ⟨l0⟩ := cs
    have ok0 : ∀ u v, l0 = [.iface u v] → Value.okWide P W .any 0 u v := fun u v e => by
      subst e
      exact (hr x.2.1 0 (by simp [MemPlace.row])).2 u v (by simpa using World.var?_cell hg hvar 0)
    obtain ⟨a0, s0, rfl, hc0, hs0, hz0, rfl⟩ := errorString_of_trod hi hrow hp he hft hfo hs hc hcs hd ok0
    have hnd2 := List.nodup_append.1 hnd
    obtain ⟨az, hl, h1, h2, h3⟩ := laid_list hi hrow hp he hft hfo hs hc hcs l q (fun y hy => hx y (List.mem_cons_of_mem _ hy)) hq hnd2.2.1 (fun b off hm => hr b off (List.mem_append_right _ hm))
    have hm0 : MemPlace.cell a0.block a0.off ∈ MemPlace.row ⟨x.2.1, 0, none⟩ (#[Value.iface tp (.pointer (some a0))] : Array Value).size ++ MemPlace.row a0 1 := List.mem_append_right _ (by simp [MemPlace.row])
    refine ⟨a0 :: az, by simp [hl], ?_, ?_, ?_⟩
    · intro i y a hy ha
      cases i with
      | zero =>
        simp only [List.getElem?_cons_zero, Option.some.injEq] at hy ha
        subst hy ha
        simpa using World.var?_cell hg hvar 0
      | succ i =>
        simp only [List.getElem?_cons_succ] at hy ha
        exact h1 i y a hy ha
    · intro a ha
      rcases List.mem_cons.1 ha with rfl | ha
      · exact ⟨(hr _ _ (List.mem_append_left _ hm0)).1, List.mem_append_left _ hm0⟩
      · exact ⟨(h2 a ha).1, List.mem_append_right _ (h2 a ha).2⟩
    · refine List.nodup_cons.2 ⟨fun hin => ?_, h3⟩
      exact hnd2.2.2 _ hm0 _ (h2 a0 hin).2 rfl
theorem Tryz.yStar : "*" ++ "errors.errorString" = "*errors.errorString" := by decide
theorem Tryz.yRow (u : TypeId) (h : Tryz.prog.typeName? 3 u = some "*errors.errorString") : u = 416 :=
  typeName_ptr_named (nm := "errors.errorString") (by rw [Tryz.yStar]; kernel_rfl) (by kernel_rfl) (by decide) u (by rw [Tryz.yStar]; exact h)
theorem Tryz.yCellsS : Tryz.prog.cellsOf 434 = 1 := by kernel_rfl
theorem Tryz.yCellsString : Tryz.prog.cellsOf 9 = 1 := by kernel_rfl
end Go.Proofs.YtcggmagdndhkbaaGreatDoor
end
section
namespace Go.Proofs.YtcggmagdndhkbaaGreatDoor
open Go.RowKit
theorem Tryz.yEt : Tryz.prog.globalNamed "errors.errorType" = some 12 := by kernel_rfl
theorem Tryz.yRt : (Tryz.prog.cutTypes.find? (·.1 == "internal/reflectlite.rtype")).map (·.2) = some 345 := by kernel_rfl
theorem Tryz.yOneRow : ((List.range Tryz.prog.types.size).filter fun t => Tryz.prog.rowNamed t [101, 114, 114, 111, 114]) = [25] := by kernel_rfl
def sents : List (String × Nat × List UInt8) := [("concordat/api.ErrText", 7, [99, 111, 110, 99, 111, 114, 100, 97, 116, 58, 32, 116, 101, 120, 116]), ("concordat/api.ErrBound", 2, [99, 111, 110, 99, 111, 114, 100, 97, 116, 58, 32, 98, 111, 117, 110, 100]), ("concordat/api.ErrShape", 3, [99, 111, 110, 99, 111, 114, 100, 97, 116, 58, 32, 115, 104, 97, 112, 101]), ("concordat/api.ErrName", 8, [99, 111, 110, 99, 111, 114, 100, 97, 116, 58, 32, 110, 97, 109, 101]), ("concordat/api.ErrKind", 9, [99, 111, 110, 99, 111, 114, 100, 97, 116, 58, 32, 107, 105, 110, 100]), ("concordat/api.ErrNone", 0, [99, 111, 110, 99, 111, 114, 100, 97, 116, 58, 32, 110, 111, 110, 101]), ("concordat/api.ErrExist", 5, [99, 111, 110, 99, 111, 114, 100, 97, 116, 58, 32, 101, 120, 105, 115, 116]), ("concordat/api.ErrFull", 1, [99, 111, 110, 99, 111, 114, 100, 97, 116, 58, 32, 102, 117, 108, 108]), ("concordat/api.ErrGap", 6, [99, 111, 110, 99, 111, 114, 100, 97, 116, 58, 32, 103, 97, 112]), ("concordat/api.ErrCycle", 10, [99, 111, 110, 99, 111, 114, 100, 97, 116, 58, 32, 99, 121, 99, 108, 101]), ("concordat/api.ErrOff", 4, [99, 111, 110, 99, 111, 114, 100, 97, 116, 58, 32, 111, 102, 102]), ("concordat/api.ErrSum", 11, [99, 111, 110, 99, 111, 114, 100, 97, 116, 58, 32, 115, 117, 109])]
def sentsLaid : List (String × DataW Unit) := sents.map fun x => (x.1, .iface "*errors.errorString" (.ptr (.agg [.lit (.string x.2.2)])))
def handleLaid : List (String × DataW Unit) := [("errors.errorType", .iface "internal/reflectlite.rtype" (.agg [.ptr (.lit (.string [101, 114, 114, 111, 114]))]))]
theorem sents_named : ∀ x ∈ sents, Tryz.prog.globalNamed x.1 = some x.2.1 ∧ (Tryz.prog.globals[x.2.1]?).map (·.type) = some 25 := by
  have h : (sents.all fun x => (Tryz.prog.globalNamed x.1 == some x.2.1) && ((Tryz.prog.globals[x.2.1]?).map (·.type) == some 25)) = true := by kernel_rfl
  intro x hx
  have := List.all_eq_true.1 h x hx
  simpa using this
theorem errs_of {W : World} (h1 : laidMet Tryz.prog sentsLaid W) (h2 : handlesMet Tryz.prog handleLaid W) : ∃ ad : Nat → Addr, Errs W.heap.size ad W := by
  obtain ⟨ps, hv, hnd, hr⟩ := h1
  obtain ⟨az, hl, hcell, hrow, hn⟩ := laid_list Tryz.underlying25 Tryz.yRow Tryz.underlying416 Tryz.underlying434 rfl rfl Tryz.underlying9 Tryz.yCellsS Tryz.yCellsString sents ps sents_named hv hnd hr
  have hl : az.length = 12 := hl
  have hget : ∀ i, i < 12 → az[i]? = some (az.getD i ⟨0, 0, none⟩) := fun i hi => by
    rw [List.getD_eq_getElem?_getD, List.getElem?_eq_getElem (by omega)]; rfl
  have hat : ∀ i x, i < 12 → sents[i]? = some x → W.cell? ⟨x.2.1, 0, none⟩ = some (.iface 416 (.pointer (some (az.getD i ⟨0, 0, none⟩)))) := fun i x hi hx => hcell i x _ hx (hget i hi)
  have hmem : ∀ i, i < 12 → az.getD i ⟨0, 0, none⟩ ∈ az := fun i hi => List.mem_of_getElem? (hget i hi)
  have het : W.cell? ⟨12, 0, none⟩ = some (.iface 345 (.agg #[.pointer (some ⟨19, 25, none⟩)])) := by
    obtain ⟨name, u, ty, e1, e2, e3, e4, e5⟩ := h2 _ (List.mem_singleton.2 rfl)
    have en : name = [101, 114, 114, 111, 114] := (Option.some.inj e1).symm
    subst en
    obtain rfl := Option.some.inj (Tryz.yRt.symm.trans e2)
    have hm : ty ∈ (List.range Tryz.prog.types.size).filter fun t => Tryz.prog.rowNamed t [101, 114, 114, 111, 114] := List.mem_filter.2 ⟨List.mem_range.2 e3, e4⟩
    rw [Tryz.yOneRow] at hm
    obtain rfl := List.mem_singleton.1 hm
    have hh : typeHandle Tryz.prog 25 = .pointer (some ⟨19, 25, none⟩) := by kernel_rfl
    rw [hh] at e5
    simpa using World.var?_cell Tryz.yEt e5 0
  have lt_of : ∀ (b o : Nat) (v : Value), W.cell? ⟨b, o, none⟩ = some v → b < W.heap.size := fun b o v hc => by
    rcases Nat.lt_or_ge b W.heap.size with h | h
    · exact h
    · simp [World.cell?, Array.getElem?_eq_none h] at hc
  refine ⟨fun i => az.getD i ⟨0, 0, none⟩, hat 0 _ (by decide) rfl, hat 1 _ (by decide) rfl, hat 2 _ (by decide) rfl, hat 3 _ (by decide) rfl, hat 4 _ (by decide) rfl, hat 5 _ (by decide) rfl, hat 6 _ (by decide) rfl, hat 7 _ (by decide) rfl, hat 8 _ (by decide) rfl, hat 9 _ (by decide) rfl, hat 10 _ (by decide) rfl, hat 11 _ (by decide) rfl, het, ?_, ?_, ?_, ?_, Nat.le_refl _⟩
  · intro i hi
    obtain ⟨⟨c, t, e⟩, _⟩ := hrow _ (hmem i hi)
    rcases Nat.lt_or_ge (az.getD i ⟨0, 0, none⟩).block W.heap.size with h | h
    · exact h
    · rw [Array.getElem?_eq_none h] at e; cases e
  · exact fun i hi => (hrow _ (hmem i hi)).1
  · intro i j hi hj hne e
    have e1 := hget i hi
    have e2 := hget j hj
    have e : az.getD i ⟨0, 0, none⟩ = az.getD j ⟨0, 0, none⟩ := e
    rw [e] at e1
    exact hne ((List.getElem?_inj (by omega) hn).1 (e1.trans e2.symm))
  · have l0 := lt_of _ _ _ het
    have l1 := lt_of _ _ _ (hat 0 _ (by decide) rfl)
    have l2 := lt_of _ _ _ (hat 1 _ (by decide) rfl)
    have l3 := lt_of _ _ _ (hat 2 _ (by decide) rfl)
    have l4 := lt_of _ _ _ (hat 3 _ (by decide) rfl)
    have l5 := lt_of _ _ _ (hat 4 _ (by decide) rfl)
    have l6 := lt_of _ _ _ (hat 5 _ (by decide) rfl)
    have l7 := lt_of _ _ _ (hat 6 _ (by decide) rfl)
    have l8 := lt_of _ _ _ (hat 7 _ (by decide) rfl)
    have l9 := lt_of _ _ _ (hat 8 _ (by decide) rfl)
    have l10 := lt_of _ _ _ (hat 9 _ (by decide) rfl)
    have l11 := lt_of _ _ _ (hat 10 _ (by decide) rfl)
    have l12 := lt_of _ _ _ (hat 11 _ (by decide) rfl)
    first | exact l0 | exact l1 | exact l2 | exact l3 | exact l4 | exact l5 | exact l6 | exact l7 | exact l8 | exact l9 | exact l10 | exact l11 | exact l12
end Go.Proofs.YtcggmagdndhkbaaGreatDoor
end
section
namespace Go.Proofs.YtcggmagdndhkbaaGreatDoor
open Go.RowKit
theorem cellsInt : Tryz.prog.cellsOf 3 = 1 := by kernel_rfl
end Go.Proofs.YtcggmagdndhkbaaGreatDoor
end
section
namespace Go.Proofs.YtcggmagdndhkbaaGreatDoor
open Go.ChangeShapes Go.WideShapes Go.ChangeAt Go.RowKit Go.Joins
theorem gPow : Tryz.prog.globalNamed "internal/strconv.uint64pow10" = some 13 := by kernel_rfl
theorem tPow : (Tryz.prog.globals[13]?).map (·.type) = some 373 := by kernel_rfl
theorem cellsPow : Tryz.prog.cellsOf 373 = 20 := by kernel_rfl
theorem cellsU64 : Tryz.prog.cellsOf 302 = 1 := by kernel_rfl
theorem tab_of {W : World} (h : Lib.VarReads Tryz.prog W "internal/strconv.uint64pow10" (Lib.tabData .u64 Lib.pow10Tab)) : Lib.TabIs Tryz.prog W "internal/strconv.uint64pow10" .u64 Lib.pow10Tab := by
  obtain ⟨g, t, cs, fuel, p, hg, ht, hvar, hd⟩ := h
  obtain rfl := Option.some.inj (gPow.symm.trans hg)
  obtain rfl := Option.some.inj (tPow.symm.trans ht)
  unfold Lib.TabIs
  rw [hvar, ← Lib.cells_of_tab Tryz.underlying373 Tryz.underlying302 cellsU64 cellsPow hd]
end Go.Proofs.YtcggmagdndhkbaaGreatDoor
end
section
namespace Go.Proofs.YtcggmagdndhkbaaGreatDoor
end Go.Proofs.YtcggmagdndhkbaaGreatDoor
end
section
namespace Go.Proofs.YtcggmagdndhkbaaGreatDoor
open Go.ChangeShapes Go.WideShapes Go.ChangeAt Go.RowKit Go.Joins
def deBTab : List Int := [0, 1, 56, 2, 57, 49, 28, 3, 61, 58, 42, 50, 38, 29, 17, 4, 62, 47, 59, 36, 45, 43, 51, 22, 53, 39, 33, 30, 24, 18, 12, 5, 63, 55, 48, 27, 60, 41, 37, 16, 46, 35, 44, 21, 52, 32, 23, 11, 54, 26, 40, 15, 34, 20, 31, 10, 25, 14, 19, 9, 13, 8, 7, 6]
theorem gDeb : Tryz.prog.globalNamed "math/bits.deBruijn64tab" = some 16 := by kernel_rfl
theorem tDeb : (Tryz.prog.globals[16]?).map (·.type) = some 407 := by kernel_rfl
theorem cellsDeb : Tryz.prog.cellsOf 407 = 64 := by kernel_rfl
theorem cellsU8 : Tryz.prog.cellsOf 5 = 1 := by kernel_rfl
theorem deb_tab {W : World} (h : Lib.VarReads Tryz.prog W "math/bits.deBruijn64tab" (Lib.tabData .u8 deBTab)) : Lib.TabIs Tryz.prog W "math/bits.deBruijn64tab" .u8 deBTab := by
  obtain ⟨g, t, cs, fuel, p, hg, ht, hvar, hd⟩ := h
  obtain rfl := Option.some.inj (gDeb.symm.trans hg)
  obtain rfl := Option.some.inj (tDeb.symm.trans ht)
  unfold Lib.TabIs
  rw [hvar, ← Lib.cells_of_tab Tryz.underlying407 Tryz.underlying5 cellsU8 cellsDeb hd]
theorem deb_of {W : World} (h : Lib.VarReads Tryz.prog W "math/bits.deBruijn64tab" Rows.laid_math_bits_deBruijn64tab) : DeB W := by
  have h' : Lib.VarReads Tryz.prog W "math/bits.deBruijn64tab" (Lib.tabData .u8 deBTab) := h
  have ht := deb_tab h'
  unfold Lib.TabIs at ht
  exact (World.var?_cell gDeb ht 15).trans (show _ = some (Value.int .u8 4) by kernel_rfl)
theorem FactJ.later {ad : Nat → Addr} {w w' : World} (h : FactJ ad w) (hb : Below w.heap.size w w') : FactJ ad w' := by
  obtain ⟨m, hm⟩ := h.mx
  exact ⟨h.txt.later hb, ⟨cellLater hb h.errd.c1, cellLater hb h.errd.c2, cellLater hb h.errd.c7, cellLater hb h.errd.c10⟩, h.deb.later hb, cellLater hb h.et, m, cellLater hb hm⟩
theorem envJ_of {ad : Nat → Addr} {w : World} (h : FactJ ad w) : EnvJ w.heap.size ad w := ⟨Nat.le_refl _, fun _ hb => h.later hb⟩
end Go.Proofs.YtcggmagdndhkbaaGreatDoor
end
section
namespace Go.Proofs.YtcggmagdndhkbaaGreatDoor
open Go.ChangeShapes Go.WideShapes Go.ChangeAt Go.RowKit Go.Joins
theorem cellsOp : Tryz.prog.cellsOf 31 = 8 := by kernel_rfl
theorem cellsStamp2 : Tryz.prog.cellsOf 29 = 2 := by kernel_rfl
theorem cellsByte1 : Tryz.prog.cellsOf 5 = 1 := by kernel_rfl
theorem cellsStr1 : Tryz.prog.cellsOf 9 = 1 := by kernel_rfl
def opD (H : Type) (t b n : Int) (k : Nat) (node other : Int) (name value : ByteArray) : DataW H := .agg [.agg [.lit (.int .i64 t), .lit (.int .i64 b)], .lit (.int .i64 n), .lit (.int .u8 (k : Int)), .lit (.int .i64 node), .lit (.int .i64 other), .lit (.string name.data.toList), .lit (.string value.data.toList)]
structure OpWf (t b n : Int) (k : Nat) (node other : Int) (name value : ByteArray) : Prop where
  t : (Lit.int .i64 t).wf = true
  b : (Lit.int .i64 b).wf = true
  n : (Lit.int .i64 n).wf = true
  k : (Lit.int .u8 (k : Int)).wf = true
  node : (Lit.int .i64 node).wf = true
  other : (Lit.int .i64 other).wf = true
  name : name.size ≤ maxLen
  value : value.size ≤ maxLen
theorem array8 {α : Type} {cs : List α} (h : cs.length = 8) : ∃ c0 c1 c2 c3 c4 c5 c6 c7, cs = [c0, c1, c2, c3, c4, c5, c6, c7] := by
  match cs, h with
  | [c0, c1, c2, c3, c4, c5, c6, c7], _ => exact ⟨c0, c1, c2, c3, c4, c5, c6, c7, rfl⟩
set_option maxRecDepth 100000 in
set_option maxHeartbeats 1000000 in
theorem trod_op {H : Type} {enc : TypeId × Value → H} {W : World} {base : Nat} {sp : Nat → Bool} {held : Bool} {fuel : Nat} {cs : List Value} {x : DataW H × List MemPlace} (h : DataW.trod enc Tryz.prog W base sp held fuel 31 cs = some x) :
    ∃ (t b n : Int) (k : Nat) (node other : Int) (name value : ByteArray), cs = [.int .i64 t, .int .i64 b, .int .i64 n, .int .u8 (k : Int), .int .i64 node, .int .i64 other, .string name, .string value] ∧ x = (opD H t b n k node other name value, []) ∧ OpWf t b n k node other name value := by
  obtain ⟨xs, m, _, rfl, hl, hlen, hf⟩ := DataW.trod_struct Tryz.underlying31 h
  rw [cellsOp] at hl
  obtain ⟨c0, c1, c2, c3, c4, c5, c6, c7, rfl⟩ := array8 hl
  match xs, hlen with
  | [y0, y1, y2, y3, y4, y5, y6], _ =>
    have g0 := hf 0 _ rfl
    have g1 := hf 1 _ rfl
    have g2 := hf 2 _ rfl
    have g3 := hf 3 _ rfl
    have g4 := hf 4 _ rfl
    have g5 := hf 5 _ rfl
    have g6 := hf 6 _ rfl
    simp [cellsStamp2, cellsInt, cellsByte1, cellsStr1] at g0 g1 g2 g3 g4 g5 g6
    obtain ⟨z0, z1, m2, rfl, -, s0, s1⟩ := trod_struct2 Tryz.underlying29 g0
    simp [cellsInt] at s0 s1
    obtain ⟨t, e0, rfl, w0⟩ := DataW.trod_int Tryz.underlying3 s0
    obtain ⟨b, e1, rfl, w1⟩ := DataW.trod_int Tryz.underlying3 s1
    obtain ⟨n, e2, rfl, w2⟩ := DataW.trod_int Tryz.underlying3 g1
    obtain ⟨k, e3, rfl, w3⟩ := DataW.trod_int Tryz.underlying5 g2
    obtain ⟨node, e4, rfl, w4⟩ := DataW.trod_int Tryz.underlying3 g3
    obtain ⟨other, e5, rfl, w5⟩ := DataW.trod_int Tryz.underlying3 g4
    obtain ⟨name, e6, rfl, w6⟩ := DataW.trod_string Tryz.underlying9 g5
    obtain ⟨value, e7, rfl, w7⟩ := DataW.trod_string Tryz.underlying9 g6
    simp at e0 e1 e2 e3 e4 e5 e6 e7
    subst e0 e1 e2 e3 e4 e5 e6 e7
    have hk : 0 ≤ k := by
      simp [Lit.wf, IntKind.min, IntKind.max, IntKind.signed, IntKind.bits] at w3
      omega
    obtain ⟨k', rfl⟩ : ∃ k' : Nat, k = (k' : Int) := ⟨k.toNat, by omega⟩
    exact ⟨t, b, n, k', node, other, name, value, rfl, by simp [opD], ⟨w0, w1, w2, w3, w4, w5, w6, w7⟩⟩
end Go.Proofs.YtcggmagdndhkbaaGreatDoor
end
section
namespace Go.Proofs.YtcggmagdndhkbaaGreatDoor
open Go.ChangeShapes Go.WideShapes Go.RowKit Go.Deep
theorem cellsDA : Tryz.prog.cellsOf 96 = 10 := by kernel_rfl
set_option maxRecDepth 100000 in
set_option maxHeartbeats 1000000 in
theorem trod_da {H : Type} {enc : TypeId × Value → H} {W : World} {base : Nat} {sp : Nat → Bool} {held : Bool} {fuel : Nat} {cs : List Value} {x : DataW H × List MemPlace} (h : DataW.trod enc Tryz.prog W base sp held fuel 96 cs = some x) :
    ∃ t : DAct, cs = encDA t ∧ t.2.2 ≤ 9223372036854775807 := by
  obtain ⟨xs, m, _, rfl, hl, hlen, hf⟩ := DataW.trod_struct Tryz.underlying96 h
  rw [cellsDA] at hl
  match cs, hl with
  | [c0, c1, c2, c3, c4, c5, c6, c7, c8, c9], _ =>
  match xs, hlen with
  | [y0, y1, y2], _ =>
    have g0 := hf 0 _ rfl
    have g1 := hf 1 _ rfl
    have g2 := hf 2 _ rfl
    simp [cellsInt, cellsOp, cellsStr1] at g0 g1 g2
    obtain ⟨a, e0, rfl, w0⟩ := DataW.trod_string Tryz.underlying9 g0
    obtain ⟨f, e1, rfl, w1⟩ := DataW.trod_int Tryz.underlying3 g2
    obtain ⟨t, b, n, k, node, other, name, value, e2, -, wo⟩ := trod_op g1
    simp at e0 e1 e2
    obtain ⟨rfl, rfl, rfl, rfl, rfl, rfl, rfl, rfl⟩ := e2
    subst e0 e1
    refine ⟨(a, (t, b, n, k, node, other, name, value), f), rfl, ?_⟩
    simp [Lit.wf, IntKind.min, IntKind.max, IntKind.signed, IntKind.bits] at w1
    show f ≤ 9223372036854775807
    omega
theorem acts_in {H : Type} {enc : TypeId × Value → H} {W : World} {base : Nat} {sp : Nat → Bool} {held : Bool} {ao : Option Addr} {len cap : Nat} {d : DataW H} {p : List MemPlace}
    (h : DataW.Trod enc Tryz.prog W base sp held 88 (.slice ao len cap) d p) :
    ∃ xs : List DAct, xs.length = len ∧ len ≤ maxLen ∧ InRow encDA W ao xs ∧ ∀ t ∈ xs, t.2.2 ≤ 9223372036854775807 := by
  obtain ⟨fuel, hf⟩ := h
  rcases open_slice Tryz.underlying88 hf with ⟨hcs, _⟩ | ⟨a, len', cap', m, n, D, Pl, hcs, _, hl, hmax, hm, _, hx⟩
  · simp [Value.cells] at hcs
    obtain ⟨rfl, rfl, rfl⟩ := hcs
    exact ⟨[], rfl, Nat.zero_le _, .inl rfl, fun x hx => by simp at hx⟩
  · simp [Value.cells] at hcs
    obtain ⟨rfl, rfl, rfl⟩ := hcs
    have hmm : len ≤ m := by subst hm; split <;> omega
    rcases Nat.eq_zero_or_pos len with h0 | hpos
    · exact ⟨[], h0.symm, by omega, .inl rfl, fun x hx => by simp at hx⟩
    · have key : ∀ i, i < len → ∃ o : DAct, o.2.2 ≤ 9223372036854775807 ∧ ∀ c, c < 10 → W.cell? ((a.add (i * 10)).add c) = (encDA o)[c]? := fun i hi => by
        obtain ⟨cs', h1, h2⟩ := hx i (by omega)
        rw [cellsDA] at h1
        obtain ⟨o, rfl, ho⟩ := trod_da h2
        exact ⟨o, ho, fun c h10 => (World.cells?_some h1).2.2 c h10⟩
      obtain ⟨f, hf⟩ := choose_lt key
      obtain ⟨b, off, spot⟩ := a
      have h00 : W.cell? ((Addr.add ⟨b, off, spot⟩ (0 * 10)).add 0) = some (.string (f 0).1) := (hf 0 hpos).2 0 (by omega)
      have hspot : spot = none := by simpa [Addr.add] using World.cell?_spot h00
      subst hspot
      refine ⟨(List.range len).map f, by simp, by omega, .inr ⟨b, off, rfl, fun j u hj => ?_⟩, fun x hx => ?_⟩
      · have hjl : j < len * 10 := by
          have := (List.getElem?_eq_some_iff.1 hj).1
          rw [flat_len encDA_len] at this
          simpa using this
        have hi : j / 10 < len := by omega
        have e : j / 10 * 10 + j % 10 = j := by omega
        have hm : ((List.range len).map f)[j / 10]? = some (f (j / 10)) := by rw [List.getElem?_map, List.getElem?_range hi]; rfl
        have h2 := flat_get (enc := encDA) encDA_len hm (show j % 10 < 10 by omega)
        rw [e] at h2
        have h1 := (hf (j / 10) hi).2 (j % 10) (by omega)
        rw [← h2, hj, add_plain, add_plain, Nat.add_assoc, e] at h1
        exact h1
      · obtain ⟨i, hi, rfl⟩ := List.mem_map.1 hx
        exact (hf i (List.mem_range.1 hi)).1
end Go.Proofs.YtcggmagdndhkbaaGreatDoor
end
