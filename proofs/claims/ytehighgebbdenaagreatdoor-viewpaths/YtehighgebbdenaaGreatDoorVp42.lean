/- Proved: for any list of turns and any number the law ViewPaths returns true and leaves its arguments as they were (chapter 9: the path of a node that is inside the tree leads to that node, a node that is not inside has none, and as many are lost as have none); on the condition alone that the listed variables hold what the program's text, and for the tables the library's, lays there. -/
import Derived.Test.YtehighgebbdenaaGreatDoorVp41
import Derived.Deep.Slices
import Derived.ProofKit
import Derived.OpenShut
import Derived.LaidMore
import Derived.Stop.Joined
import Derived.SevenTiedAt
import Derived.Lib.SmallJoins
import Derived.Lib.LaidU8
import Derived.Lib.LaidTab
import Derived.Lib.ItoaNum
import Derived.Laws.IdiomArrays
import Derived.Test.YtehighgebbdenaaGreatDoorRows
import Derived.Test.YtehighgebbdenaaGreatDoorChecked
import Derived.LaidHandle
import Derived.LaidLaws
import Derived.Lay
import Derived.KernelRfl
import Derived.Carry
import Derived.Shelf.Vars
import Derived.ChangeMaps5
import Derived.JoinedOf
import Derived.Test.YtehighgebbdenaaGreatDoorCards
import Derived.Test.YtehighgebbdenaaGreatDoorTie
section
namespace Go.Proofs.YtehighgebbdenaaGreatDoor
open Go.ChangeShapes Go.WideShapes Go.RowKit Go.Deep
theorem cellsTurnT : Tryz.prog.cellsOf 166 = 10 := by kernel_rfl
theorem i64Wf {z : Int} (h : (Lit.int .i64 z).wf = true) : -9223372036854775808 ≤ z ∧ z ≤ 9223372036854775807 := by
  simp [Lit.wf, IntKind.min, IntKind.max, IntKind.signed, IntKind.bits] at h
  omega
theorem u8Wf {k : Nat} (h : (Lit.int .u8 (k : Int)).wf = true) : k < 256 := by
  simp [Lit.wf, IntKind.min, IntKind.max, IntKind.signed, IntKind.bits] at h
  omega
set_option maxRecDepth 100000 in
set_option maxHeartbeats 1000000 in
theorem trod_turn {H : Type} {enc : TypeId × Value → H} {W : World} {base : Nat} {sp : Nat → Bool} {held : Bool} {fuel : Nat} {cs : List Value} {x : DataW H × List MemPlace} (h : DataW.trod enc Tryz.prog W base sp held fuel 166 cs = some x) :
    ∃ t : Trn, cs = encTr t ∧ (TrnShort t → TrnOk t) := by
  obtain ⟨xs, m, _, rfl, hl, hlen, hf⟩ := DataW.trod_struct Tryz.underlying166 h
  rw [cellsTurnT] at hl
  match cs, hl with
  | [c0, c1, c2, c3, c4, c5, c6, c7, c8, c9], _ =>
  match xs, hlen with
  | [y0, y1, y2], _ =>
    have g0 := hf 0 _ rfl
    have g1 := hf 1 _ rfl
    have g2 := hf 2 _ rfl
    simp [cellsInt, cellsOp] at g0 g1 g2
    obtain ⟨a, e0, rfl, w0⟩ := DataW.trod_int Tryz.underlying3 g0
    obtain ⟨f, e1, rfl, w1⟩ := DataW.trod_int Tryz.underlying3 g1
    obtain ⟨t, b, n, k, node, other, name, value, e2, -, wo⟩ := trod_op g2
    simp at e0 e1 e2
    obtain ⟨rfl, rfl, rfl, rfl, rfl, rfl, rfl, rfl⟩ := e2
    subst e0 e1
    exact ⟨(a, f, t, b, n, k, node, other, name, value), rfl, fun hs => ⟨hs.1, hs.2, u8Wf wo.k, i64Wf wo.node, i64Wf wo.other⟩⟩
theorem turns_in {H : Type} {enc : TypeId × Value → H} {W : World} {base : Nat} {sp : Nat → Bool} {held : Bool} {ao : Option Addr} {len cap : Nat} {d : DataW H} {p : List MemPlace}
    (h : DataW.Trod enc Tryz.prog W base sp held 77 (.slice ao len cap) d p) :
    ∃ xs : List Trn, xs.length = len ∧ len ≤ maxLen ∧ InRow encTr W ao xs ∧ ∀ t ∈ xs, TrnShort t → TrnOk t := by
  obtain ⟨fuel, hf⟩ := h
  rcases open_slice Tryz.underlying77 hf with ⟨hcs, _⟩ | ⟨a, len', cap', m, n, D, Pl, hcs, _, hl, hmax, hm, _, hx⟩
  · simp [Value.cells] at hcs
    obtain ⟨rfl, rfl, rfl⟩ := hcs
    exact ⟨[], rfl, Nat.zero_le _, .inl rfl, fun x hx => by simp at hx⟩
  · simp [Value.cells] at hcs
    obtain ⟨rfl, rfl, rfl⟩ := hcs
    have hmm : len ≤ m := by subst hm; split <;> omega
    rcases Nat.eq_zero_or_pos len with h0 | hpos
    · exact ⟨[], h0.symm, by omega, .inl rfl, fun x hx => by simp at hx⟩
    · have key : ∀ i, i < len → ∃ o : Trn, (TrnShort o → TrnOk o) ∧ ∀ c, c < 10 → W.cell? ((a.add (i * 10)).add c) = (encTr o)[c]? := fun i hi => by
        obtain ⟨cs', h1, h2⟩ := hx i (by omega)
        rw [cellsTurnT] at h1
        obtain ⟨o, rfl, ho⟩ := trod_turn h2
        exact ⟨o, ho, fun c h10 => (World.cells?_some h1).2.2 c h10⟩
      obtain ⟨f, hf⟩ := choose_lt key
      obtain ⟨b, off, spot⟩ := a
      have h00 : W.cell? ((Addr.add ⟨b, off, spot⟩ (0 * 10)).add 0) = some (.int .i64 (f 0).1) := (hf 0 hpos).2 0 (by omega)
      have hspot : spot = none := by simpa [Addr.add] using World.cell?_spot h00
      subst hspot
      refine ⟨(List.range len).map f, by simp, by omega, .inr ⟨b, off, rfl, fun j u hj => ?_⟩, fun x hx => ?_⟩
      · have hjl : j < len * 10 := by
          have := (List.getElem?_eq_some_iff.1 hj).1
          rw [flat_len encTr_len] at this
          simpa using this
        have hi : j / 10 < len := by omega
        have e : j / 10 * 10 + j % 10 = j := by omega
        have hm : ((List.range len).map f)[j / 10]? = some (f (j / 10)) := by rw [List.getElem?_map, List.getElem?_range hi]; rfl
        have h2 := flat_get (enc := encTr) encTr_len hm (show j % 10 < 10 by omega)
        rw [e] at h2
        have h1 := (hf (j / 10) hi).2 (j % 10) (by omega)
        rw [← h2, hj, add_plain, add_plain, Nat.add_assoc, e] at h1
        exact h1
      · obtain ⟨i, hi, rfl⟩ := List.mem_map.1 hx
        exact (hf i (List.mem_range.1 hi)).1
end Go.Proofs.YtehighgebbdenaaGreatDoor
end
section
namespace Go.Proofs.YtehighgebbdenaaGreatDoor
open Go.ChangeShapes Go.WideShapes Go.ChangeAt Go.RowKit Go.Joins
theorem gPow : Tryz.prog.globalNamed "internal/strconv.uint64pow10" = some 14 := by kernel_rfl
theorem tPow : (Tryz.prog.globals[14]?).map (·.type) = some 369 := by kernel_rfl
theorem cellsPow : Tryz.prog.cellsOf 369 = 20 := by kernel_rfl
theorem cellsU64 : Tryz.prog.cellsOf 336 = 1 := by kernel_rfl
theorem tab_of {W : World} (h : Lib.VarReads Tryz.prog W "internal/strconv.uint64pow10" (Lib.tabData .u64 Lib.pow10Tab)) : Lib.TabIs Tryz.prog W "internal/strconv.uint64pow10" .u64 Lib.pow10Tab := by
  obtain ⟨g, t, cs, fuel, p, hg, ht, hvar, hd⟩ := h
  obtain rfl := Option.some.inj (gPow.symm.trans hg)
  obtain rfl := Option.some.inj (tPow.symm.trans ht)
  unfold Lib.TabIs
  rw [hvar, ← Lib.cells_of_tab Tryz.underlying369 Tryz.underlying336 cellsU64 cellsPow hd]
end Go.Proofs.YtehighgebbdenaaGreatDoor
end
section
namespace Go.Proofs.YtehighgebbdenaaGreatDoor.Vp
def plainLaid : List (String × DataW Unit) := Rows.viewPathsRow.laid.filter fun x => x.2.handleName?.isNone
set_option maxRecDepth 100000 in
theorem wit_met (os : Os) (args : Array Value) : laidMetH Tryz.prog Rows.viewPathsRow.laid (((World.doorLaid Tryz.prog 400 os).layVars Tryz.prog plainLaid).forCall (fun _ _ => 0) ⟨#[], args, []⟩).memory := by
  have e1 : (plainLaid.filter fun x => (plainLaid.map (·.1)).contains x.1) = plainLaid := List.filter_eq_self.2 fun x hx => List.contains_iff_mem.2 (List.mem_map.2 ⟨x, hx, rfl⟩)
  have e2 : (plainLaid.filter fun x => !(plainLaid.map (·.1)).contains x.1) = [] := List.filter_eq_nil_iff.2 fun x hx => by rw [List.contains_iff_mem.2 (List.mem_map.2 ⟨x, hx, rfl⟩)]; simp
  have h : laidMet Tryz.prog plainLaid ((World.doorLaid Tryz.prog 400 os).layVars Tryz.prog plainLaid) :=
    laidMet_layVars (w0 := World.doorLaid Tryz.prog 400 os) (plainLaid.map (·.1)) [] (by rw [e1]) (by rw [e1]; kernel_rfl) (by rw [e1]; kernel_rfl) (by rw [e2]; exact LaidIn.none)
  have h' := h.of_heap (w' := (((World.doorLaid Tryz.prog 400 os).layVars Tryz.prog plainLaid).forCall (fun _ _ => 0) ⟨#[], args, []⟩).memory) (by simp [World.memory, World.forCall, Input.heap])
  exact laidMetH_of_parts3 (fuel := 8) h' (by kernel_rfl) (by kernel_rfl)
set_option maxRecDepth 100000 in
theorem wit_shaped (os : Os) (args : Array Value) : (((World.doorLaid Tryz.prog 400 os).layVars Tryz.prog plainLaid).forCall (fun _ _ => 0) ⟨#[], args, []⟩).Shaped Tryz.prog :=
  World.shaped_of_ZipB (by kernel_rfl) (by kernel_rfl)
end Go.Proofs.YtehighgebbdenaaGreatDoor.Vp
end
section
namespace Go.Proofs.YtehighgebbdenaaGreatDoor.Vp
open Go.ChangeShapes Go.WideShapes Go.ChangeAt Go.RowKit Go.Joins Go.ChangeMaps
theorem own : ownKnob Tryz.prog.godebug = none := by kernel_rfl
theorem laidOut : laidOutB Tryz.prog = true := by kernel_rfl
def nine : List (String × Nat × List UInt8) := [("concordat/api.ErrBound", 2, [99, 111, 110, 99, 111, 114, 100, 97, 116, 58, 32, 98, 111, 117, 110, 100]), ("concordat/api.ErrShape", 4, [99, 111, 110, 99, 111, 114, 100, 97, 116, 58, 32, 115, 104, 97, 112, 101]), ("concordat/api.ErrName", 5, [99, 111, 110, 99, 111, 114, 100, 97, 116, 58, 32, 110, 97, 109, 101]), ("concordat/api.ErrKind", 6, [99, 111, 110, 99, 111, 114, 100, 97, 116, 58, 32, 107, 105, 110, 100]), ("concordat/api.ErrNone", 0, [99, 111, 110, 99, 111, 114, 100, 97, 116, 58, 32, 110, 111, 110, 101]), ("concordat/api.ErrExist", 7, [99, 111, 110, 99, 111, 114, 100, 97, 116, 58, 32, 101, 120, 105, 115, 116]), ("concordat/api.ErrFull", 1, [99, 111, 110, 99, 111, 114, 100, 97, 116, 58, 32, 102, 117, 108, 108]), ("concordat/api.ErrGap", 8, [99, 111, 110, 99, 111, 114, 100, 97, 116, 58, 32, 103, 97, 112]), ("concordat/api.ErrCycle", 9, [99, 111, 110, 99, 111, 114, 100, 97, 116, 58, 32, 99, 121, 99, 108, 101])]
def nineLaid : List (String × DataW Unit) := nine.map fun x => (x.1, .iface "*errors.errorString" (.ptr (.agg [.lit (.string x.2.2)])))
theorem nine_named : ∀ x ∈ nine, Tryz.prog.globalNamed x.1 = some x.2.1 ∧ (Tryz.prog.globals[x.2.1]?).map (·.type) = some 27 := by
  have h : (nine.all fun x => (Tryz.prog.globalNamed x.1 == some x.2.1) && ((Tryz.prog.globals[x.2.1]?).map (·.type) == some 27)) = true := by kernel_rfl
  intro x hx
  have := List.all_eq_true.1 h x hx
  simpa using this
theorem laidVars_parts {P : Program} {w : World} : ∀ (l1 l2 : List (String × DataW Unit)) (ps : List MemPlace), DataW.LaidVars P w (l1 ++ l2) ps → ∃ q1 q2, DataW.LaidVars P w l1 q1 ∧ DataW.LaidVars P w l2 q2 ∧ ps = q1 ++ q2
  | [], l2, ps, h => ⟨[], ps, rfl, h, rfl⟩
  | x :: l1, l2, ps, h => by
    obtain ⟨g, t, cs, fuel, p, q, a1, a2, a3, a4, a5, rfl⟩ := h
    obtain ⟨q1, q2, b1, b2, rfl⟩ := laidVars_parts l1 l2 q a5
    exact ⟨_, q2, ⟨g, t, cs, fuel, p, q1, a1, a2, a3, a4, b1, rfl⟩, b2, by simp⟩
theorem laidMet_mid {P : Program} {w : World} (l1 l2 l3 : List (String × DataW Unit)) (h : laidMet P (l1 ++ (l2 ++ l3)) w) : laidMet P l2 w := by
  obtain ⟨ps, hv, hnd, hr⟩ := h
  obtain ⟨q1, q2, -, b, rfl⟩ := laidVars_parts l1 (l2 ++ l3) ps hv
  obtain ⟨q3, q4, c, -, rfl⟩ := laidVars_parts l2 l3 q2 b
  exact ⟨q3, c, (List.nodup_append.1 (List.nodup_append.1 hnd).2.1).1, fun b off hm => hr b off (List.mem_append_right _ (List.mem_append_left _ hm))⟩
theorem max_of {W : World} (hsh : W.ShapedOpen Tryz.prog) : ∃ m : Int, W.cell? ⟨13, 0, none⟩ = some (.int .i64 m) :=
  Go.Proofs.cell_of_shapedOpen_int (zero := #[.int .i64 0]) (t := 3) hsh (of_decide_eq_true (by kernel_rfl)) (by kernel_rfl) rfl (by kernel_rfl) (by kernel_rfl) Tryz.underlying3
theorem env_of_row {W : World} (h : laidMetH Tryz.prog Rows.viewPathsRow.laid W) (hsh : W.ShapedOpen Tryz.prog) : ∃ (ad : Nat → Addr) (m : Int), Cyc ad ∧ EnvT W.heap.size ad W ∧ EnvV m W := by
  rw [MakeChecks.laidMetH_plain _ _ _ (by kernel_rfl)] at h
  have h' : laidMet Tryz.prog plainLaid W := h
  have hmid : laidMet Tryz.prog nineLaid W := laidMet_mid [("math/bits.deBruijn32tab", Rows.laid_math_bits_deBruijn32tab), ("math/bits.deBruijn64tab", Rows.laid_math_bits_deBruijn64tab), ("internal/strconv.uint64pow10", Rows.laid_internal_strconv_uint64pow10), ("unicode/utf8.acceptRanges", Rows.laid_unicode_utf8_acceptRanges)] nineLaid [("unicode/utf8.first", Rows.laid_unicode_utf8_first)] h'
  obtain ⟨az, hat⟩ := some_of nine nine_named hmid
  have hp : ("internal/strconv.uint64pow10", Rows.laid_internal_strconv_uint64pow10) ∈ plainLaid := .tail _ (.tail _ (.head _))
  have ht := tab_of (Lib.laidMet.reads h' hp)
  have hg : 14 < W.heap.size := by
    unfold Lib.TabIs at ht
    exact World.block_lt_of_cell? W ⟨14, 0, none⟩ ((World.var?_cell gPow ht 0).trans (show _ = some (Value.int .u64 1) by kernel_rfl))
  obtain ⟨m, hm⟩ := max_of hsh
  exact ⟨fun i => if i = 100 then ⟨1, 0, none⟩ else az.getD (i - 1) ⟨0, 0, none⟩, m, rfl, ⟨⟨⟨hat 0 _ rfl, hat 1 _ rfl, hat 2 _ rfl, hat 3 _ rfl⟩, hat 4 _ rfl, hat 5 _ rfl, hat 6 _ rfl, hat 7 _ rfl, fun _ => hat 8 _ rfl, by omega, Nat.le_refl _⟩, Lib.tabBelow_of_tabIs ht⟩, ⟨ht, hm⟩⟩
theorem handed {H : Type} {enc : TypeId × Value → H} {C : Checked} {os : Os} {f : FuncId} {fn : Func} {s : ChangeSpec} {apart fresh handsOn again : Bool} {X : World → Array Value → Prop}
    (hX : ∀ (w w' : World) (args : Array Value), w.heap = w'.heap → X w args → X w' args)
    (own : ownKnob C.prog.godebug = none) (started : os.Started) (noInit : C.prog.inits.idxOf? f = none) (hfn : C.prog.funcs[f]? = some fn)
    (witness : ∃ (w : World) (tape : Tape) (i : Input), w.os = os ∧ (w.forCall tape i).Shaped C.prog ∧ i.vars = [] ∧ Input.okWide C.prog (w.forCall tape i) .any w.heap.size f i ∧
      ((s.pre enc C.prog fn [] apart (w.forCall tape i).memory i.args ∧ X (w.forCall tape i).memory i.args) ∧ sizedMet enc C.prog fn (OpenSpec.ofChange s) apart (w.forCall tape i).memory i.args) ∧ ({} : Assume).holds C.prog (lone (Frame.enter C.prog f i.args .normal) [] (w.forCall tape i)))
    (contract : ∀ (W : World) (base : Nat) (args : Array Value) (ds gs : List (DataW H)) (before : List MemPlace),
      (∀ (j : Nat) t v, fn.params[j]? = some t → args[j]? = some v → Value.okWide C.prog W .any base t v) →
      DataW.Whole enc C.prog fn.params.toList s.vars apart W args.toList ds gs before → X W args → W.ShapedOpen C.prog →
      Calls C.prog f args W fun e W' => ∃ v, e = .returned v ∧ s.post enc C.prog fn apart fresh handsOn again W args v W') :
    ReturnsInHanded {} C os f .any (fun w args => (s.pre enc C.prog fn [] apart w args ∧ X w args) ∧ sizedMet enc C.prog fn (OpenSpec.ofChange s) apart w args) (s.post enc C.prog fn apart fresh handsOn again) := by
  refine returnsInHanded_of_calls own started noInit witness ?_
  intro w tape i _ shape _ ok pre _
  obtain ⟨-, -, -, g, hg, -, -, -, -, vals⟩ := ok
  obtain rfl : g = fn := Option.some.inj (hg.symm.trans hfn)
  obtain ⟨⟨⟨ds, gs, before, whole, -⟩, listed⟩, -⟩ := pre
  refine (contract (w.forCall tape i) w.heap.size i.args ds gs before vals (DataW.Whole.of_heap (w' := w.forCall tape i) (by rfl) whole) (hX _ _ _ (by rfl) listed) shape).mono ?_
  rintro _ W' ⟨v, rfl, post⟩
  exact ChangeSpec.post_blind post
set_option maxRecDepth 100000 in
theorem lifted (os : Os) (started : os.Started) (H : Type) (enc : TypeId × Value → H) :
    ReturnsInHanded {} Tryz.checked os 5 .any (fun w args => (Rows.viewPathsSpec.pre enc Tryz.prog Tryz.f5 [] false w args ∧ laidMetH Tryz.prog Rows.viewPathsRow.laid w) ∧ sizedMet enc Tryz.prog Tryz.f5 (OpenSpec.ofChange Rows.viewPathsSpec) false w args)
      (Rows.viewPathsSpec.post enc Tryz.prog Tryz.f5 false true false false) := by
  refine handed (C := Tryz.checked) (X := fun w _ => laidMetH Tryz.prog Rows.viewPathsRow.laid w) (fun _ _ _ hh h => h.of_heap hh) own started (by kernel_rfl) Tryz.func5
    (ChangeSpec.witness_shaped (enc := enc) (C := Tryz.checked) (os := os) (X := fun w _ => laidMetH Tryz.prog Rows.viewPathsRow.laid w) false ((World.doorLaid Tryz.prog 400 os).layVars Tryz.prog plainLaid) #[.slice none 0 0, .int .i64 0] 8 (World.layVars_os _ _ _) (wit_shaped os _) (by kernel_rfl) (by kernel_rfl) (by kernel_rfl) (wit_met os _)) ?_
  intro W base args ds gs before hval0 hW hL hsh
  have hval : ∀ (j : Nat) t v, Tryz.f5.params[j]? = some t → args[j]? = some v → Value.okWide Tryz.prog W .any base t v := hval0
  have hW' := hW
  obtain ⟨p, q, hA0, hV0, rfl, hfz, hnd⟩ := hW
  have hA : DataW.TrodAll enc Tryz.prog W 0 (fun _ => true) true Tryz.f5.params.toList args.toList ds p := hA0
  rw [Tryz.params5] at hA hval
  obtain ⟨v0, v1, d0, d1, p0, p1, rfl, rfl, rfl, h0, h1⟩ := trodAll_two hA
  obtain ⟨rfl, rfl⟩ := trodVars_none hV0
  obtain ⟨ao, len, cap, rfl⟩ := okWide_slice Tryz.underlying77 (hval 0 77 v0 rfl rfl)
  obtain ⟨by_, rfl, rfl, rfl, wc⟩ := open_int Tryz.underlying3 (hval 1 3 v1 rfl rfl) h1
  obtain ⟨xs, rfl, hmax, hX, hok⟩ := turns_in h0
  obtain ⟨ad, m, hcy, hE, hV⟩ := env_of_row hL hsh
  have walk : Calls Tryz.prog 5 #[.slice ao xs.length cap, .int .i64 by_] W fun e w' => e = .returned (.bool true) ∧ Below W.heap.size W w' :=
    viewPaths_law W ao cap xs by_ hE hV hcy hX (by simp only [maxLen] at hmax; omega) hok
  refine walk.mono fun e W' ⟨he, hb⟩ => ?_
  subst he
  have hlt0 : ∀ x ∈ p0, x.block < W.heap.size := fun x hx => by simpa using hW'.lt x (by simp [hx])
  refine ⟨_, rfl, _, _, _, [], p0 ++ [], [], hW', ?_, ?_, ?_, hb.frame _, fun h => by cases h⟩
  · exact trodAll_mk1 (shut_bool Tryz.underlying4 true)
  · exact trodAll_mk2 (Below.trod laidOut (by kernel_rfl) (of_decide_eq_true (by kernel_rfl)) h0 hb hlt0) (shut_int Tryz.underlying3 wc)
  · rfl
end Go.Proofs.YtehighgebbdenaaGreatDoor.Vp
end
section
namespace Go.Proofs.YtehighgebbdenaaGreatDoor.Vp
set_option maxRecDepth 100000 in
theorem jfP : (Rows.viewPathsRow.inPlace == Tryz.prog.inPlace 5) = true := by kernel_rfl
set_option maxRecDepth 100000 in
theorem jfU : (Rows.viewPathsRow.unfollowed == Tryz.prog.unfollowed 5) = true := by kernel_rfl
end Go.Proofs.YtehighgebbdenaaGreatDoor.Vp
end
section
namespace Go.Proofs.YtehighgebbdenaaGreatDoor.Vp
set_option maxRecDepth 100000 in
theorem jfR : (Rows.viewPathsRow.recurses == Tryz.prog.recurses 5) = true := by kernel_rfl
set_option maxRecDepth 100000 in
theorem jfN : (Rows.viewPathsRow.named == Tryz.prog.varsNamed 5) = true := by kernel_rfl
end Go.Proofs.YtehighgebbdenaaGreatDoor.Vp
end
section
namespace Go.Proofs.YtehighgebbdenaaGreatDoor.Vp
set_option maxRecDepth 100000 in
theorem closed : joinedFacts Tryz.prog 5 Tryz.f5 Rows.viewPathsSpec Rows.viewPathsRow = true := by
  unfold joinedFacts
  rw [jfP, jfU, jfR, jfN]
  kernel_rfl
end Go.Proofs.YtehighgebbdenaaGreatDoor.Vp
end
section
namespace Go.Proofs.YtehighgebbdenaaGreatDoor.Vp
open Go.ChangeShapes Go.WideShapes Go.ChangeAt Go.RowKit Go.Joins Go.ChangeMaps
theorem said : Rows.ViewPathsSaid :=
  OpenClaim.holds_of_wide 5 Tryz.f5 rfl rfl rfl rfl rfl rfl rfl ⟨rfl, rfl, rfl, rfl, rfl⟩ rfl rfl rfl rfl rfl (by kernel_rfl) Tryz.func5 closed
    (of_decide_eq_true (by kernel_rfl)) (by unfold Func.isWrapper; first | (rw [if_pos (by decide +kernel)]; kernel_rfl) | (rw [if_neg (by decide +kernel)]; exact ⟨rfl, rfl⟩))
    (fun os started H enc _ => lifted os started H enc)
theorem plain (f : FuncId) (fn : Func) (hf : Tryz.pinned.checked.prog.funcNamed "concordat/concordatlaw2.ViewPaths" = some f) (hfn : Tryz.pinned.checked.prog.funcs[f]? = some fn) :
    true = Tryz.pinned.checked.prog.looks [] ∧ ∀ (j : Nat) t, fn.params[j]? = some t → Tryz.pinned.checked.prog.wantsStandIn t = false := by
  obtain rfl : f = 5 := Option.some.inj ((show Tryz.prog.funcNamed "concordat/concordatlaw2.ViewPaths" = some 5 by kernel_rfl).symm.trans hf) |>.symm
  obtain rfl : fn = Tryz.f5 := (Option.some.inj (Tryz.func5.symm.trans hfn)).symm
  refine ⟨by kernel_rfl, fun j t ht => ?_⟩
  rw [Tryz.params5] at ht
  have hm : t ∈ [77, 3] := by simpa using Array.mem_of_getElem? ht
  have hall : ([77, 3].all fun u => !Tryz.prog.wantsStandIn u) = true := by kernel_rfl
  exact (show Tryz.prog.wantsStandIn t = false by simpa using List.all_eq_true.1 hall t hm)
end Go.Proofs.YtehighgebbdenaaGreatDoor.Vp
namespace Go.Proofs.YtehighgebbdenaaGreatDoor
theorem viewPaths_card : Rows.ViewPathsCardSaid :=
  Claim7.holds_tied_plain_at .later [] _ _ _ _ Vp.said (fun _ h => by cases h) (by kernel_rfl) (fun _ h => by cases h) viewPaths_row_tie rfl ⟨rfl, rfl⟩ (by kernel_rfl) rfl Vp.plain (by kernel_rfl)
end Go.Proofs.YtehighgebbdenaaGreatDoor
end
