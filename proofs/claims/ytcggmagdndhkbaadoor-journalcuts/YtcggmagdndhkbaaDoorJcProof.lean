/- Proved: for any operations and any cut the law JournalCuts returns true and leaves its arguments as they were (chapter 8: wherever power is cut, what is recovered is what was appended with no error, and nothing else; it goes on from there); on the condition alone that the listed variables hold what the program's text, and for one table the library's, lays there. -/
import Derived.Test.YtcggmagdndhkbaaDoorCards
import Derived.Test.YtcggmagdndhkbaaDoorTie
import Derived.Test.YtcggmagdndhkbaaDoorJrnCuts
import Derived.Test.YtcggmagdndhkbaaDoorJrnOpen
import Derived.Test.YtcggmagdndhkbaaDoorOpsSlice
import Derived.Carry
import Derived.Test.YtcggmagdndhkbaaDoorTabOpen
import Derived.Test.YtcggmagdndhkbaaDoorJcWit
import Derived.ChangeMaps5
namespace Go.Proofs.YtcggmagdndhkbaaDoor.Cuts
open Go.ChangeShapes Go.WideShapes Go.ChangeAt Go.RowKit Go.Joins Go.ChangeMaps

theorem laidOut : laidOutB Tryd.prog = true := by kernel_rfl
theorem own : ownKnob Tryd.prog.godebug = none := by kernel_rfl

/-- A list of listed variables, in two parts. -/
theorem laidVars_parts {P : Program} {w : World} : ∀ (l1 l2 : List (String × DataW Unit)) (ps : List MemPlace), DataW.LaidVars P w (l1 ++ l2) ps → ∃ q1 q2, DataW.LaidVars P w l1 q1 ∧ DataW.LaidVars P w l2 q2 ∧ ps = q1 ++ q2
  | [], l2, ps, h => ⟨[], ps, rfl, h, rfl⟩
  | x :: l1, l2, ps, h => by
    obtain ⟨g, t, cs, fuel, p, q, a1, a2, a3, a4, a5, rfl⟩ := h
    obtain ⟨q1, q2, b1, b2, rfl⟩ := laidVars_parts l1 l2 q a5
    exact ⟨_, q2, ⟨g, t, cs, fuel, p, q1, a1, a2, a3, a4, b1, rfl⟩, b2, by simp⟩
theorem laidMet_mid {P : Program} {w : World} (l1 l2 l3 : List (String × DataW Unit)) (h : laidMet P (l1 ++ (l2 ++ l3)) w) : laidMet P l2 w := by
  obtain ⟨ps, hv, hnd, hr⟩ := h
  obtain ⟨q1, q2, -, b, rfl⟩ := laidVars_parts l1 (l2 ++ l3) ps hv
  obtain ⟨q3, q4, c, -, rfl⟩ := laidVars_parts l2 l3 q2 b
  exact ⟨q3, c, (List.nodup_append.1 (List.nodup_append.1 hnd).2.1).1, fun b off hm => hr b off (List.mem_append_right _ (List.mem_append_left _ hm))⟩

/-- The row's seven sentinels. -/
def seven : List (String × Nat × List UInt8) := [("concordat/api.ErrText", 5, [99, 111, 110, 99, 111, 114, 100, 97, 116, 58, 32, 116, 101, 120, 116]), ("concordat/api.ErrBound", 0, [99, 111, 110, 99, 111, 114, 100, 97, 116, 58, 32, 98, 111, 117, 110, 100]), ("concordat/api.ErrShape", 2, [99, 111, 110, 99, 111, 114, 100, 97, 116, 58, 32, 115, 104, 97, 112, 101]), ("concordat/api.ErrName", 6, [99, 111, 110, 99, 111, 114, 100, 97, 116, 58, 32, 110, 97, 109, 101]), ("concordat/api.ErrKind", 4, [99, 111, 110, 99, 111, 114, 100, 97, 116, 58, 32, 107, 105, 110, 100]), ("concordat/api.ErrFull", 3, [99, 111, 110, 99, 111, 114, 100, 97, 116, 58, 32, 102, 117, 108, 108]), ("concordat/api.ErrOff", 1, [99, 111, 110, 99, 111, 114, 100, 97, 116, 58, 32, 111, 102, 102])]
def sevenLaid : List (String × DataW Unit) := seven.map fun x => (x.1, .iface "*errors.errorString" (.ptr (.agg [.lit (.string x.2.2)])))
theorem seven_named : ∀ x ∈ seven, Tryd.prog.globalNamed x.1 = some x.2.1 ∧ (Tryd.prog.globals[x.2.1]?).map (·.type) = some 27 := by
  have h : (seven.all fun x => (Tryd.prog.globalNamed x.1 == some x.2.1) && ((Tryd.prog.globals[x.2.1]?).map (·.type) == some 27)) = true := by kernel_rfl
  intro x hx
  have := List.all_eq_true.1 h x hx
  simpa using this

theorem env_of_row {W : World} (h : laidMetH Tryd.prog Rows.journalCutsRow.laid W) (hsh : W.ShapedOpen Tryd.prog) : ∃ (ad : Nat → Addr), EnvJ W.heap.size ad W := by
  rw [MakeChecks.laidMetH_plain _ _ _ (by kernel_rfl)] at h
  have hmid : laidMet Tryd.prog sevenLaid W := laidMet_mid [("math/bits.deBruijn32tab", Rows.laid_math_bits_deBruijn32tab), ("math/bits.deBruijn64tab", Rows.laid_math_bits_deBruijn64tab), ("internal/strconv.uint64pow10", Rows.laid_internal_strconv_uint64pow10), ("unicode/utf8.acceptRanges", Rows.laid_unicode_utf8_acceptRanges)] sevenLaid [("unicode/utf8.first", Rows.laid_unicode_utf8_first)] h
  obtain ⟨az, hat⟩ := some_of seven seven_named hmid
  obtain ⟨m, hm⟩ := Tryd.laysM147.s1_3 W hsh
  have hp : ("internal/strconv.uint64pow10", Rows.laid_internal_strconv_uint64pow10) ∈ Rows.journalCutsRow.laid := .tail _ (.tail _ (.head _))
  have hq : ("math/bits.deBruijn64tab", Rows.laid_math_bits_deBruijn64tab) ∈ Rows.journalCutsRow.laid := .tail _ (.head _)
  exact ⟨fun i => az.getD (if i = 7 then 5 else if i = 10 then 6 else i) ⟨0, 0, none⟩, envJ_of ⟨⟨⟨hat 1 _ rfl, hat 2 _ rfl, hat 3 _ rfl, hat 4 _ rfl⟩, tab_of (Lib.laidMet.reads h hp)⟩, ⟨hat 1 _ rfl, hat 2 _ rfl, hat 5 _ rfl, hat 6 _ rfl⟩, deb_of (Lib.laidMet.reads h hq), hat 0 _ rfl, m, hm⟩⟩

/-- The wrap that hands both on: what the row lists, and the world's shape. -/
theorem handed {H : Type} {enc : TypeId × Value → H} {C : Checked} {os : Os} {f : FuncId} {fn : Func} {s : ChangeSpec} {apart fresh handsOn again : Bool} {X : World → Array Value → Prop}
    (hX : ∀ (w w' : World) (args : Array Value), w.heap = w'.heap → X w args → X w' args)
    (own : ownKnob C.prog.godebug = none) (started : os.Started) (noInit : C.prog.inits.idxOf? f = none) (hfn : C.prog.funcs[f]? = some fn)
    (witness : ∃ (w : World) (tape : Tape) (i : Input), w.os = os ∧ (w.forCall tape i).Shaped C.prog ∧ i.vars = [] ∧ Input.okWide C.prog (w.forCall tape i) .any w.heap.size f i ∧
      ((s.pre enc C.prog fn [] apart (w.forCall tape i).memory i.args ∧ X (w.forCall tape i).memory i.args) ∧ sizedMet enc C.prog fn (OpenSpec.ofChange s) apart (w.forCall tape i).memory i.args) ∧ ({} : Assume).holds C.prog (lone (Frame.enter C.prog f i.args .normal) [] (w.forCall tape i)))
    (contract : ∀ (W : World) (base : Nat) (args : Array Value) (ds gs : List (DataW H)) (before : List MemPlace),
      (∀ (j : Nat) t v, fn.params[j]? = some t → args[j]? = some v → Value.okWide C.prog W .any base t v) →
      DataW.Whole enc C.prog fn.params.toList s.vars apart W args.toList ds gs before → X W args → W.ShapedOpen C.prog →
      Calls C.prog f args W fun e W' => ∃ v, e = .returned v ∧ s.post enc C.prog fn apart fresh handsOn again W args v W') :
    ReturnsInHanded {} C os f .any (fun w args => (s.pre enc C.prog fn [] apart w args ∧ X w args) ∧ sizedMet enc C.prog fn (OpenSpec.ofChange s) apart w args) (s.post enc C.prog fn apart fresh handsOn again) := by
  refine returnsInHanded_of_calls own started noInit witness ?_
  intro w tape i _ shape _ ok pre _
  obtain ⟨-, -, -, g, hg, -, -, -, -, vals⟩ := ok
  obtain rfl : g = fn := Option.some.inj (hg.symm.trans hfn)
  obtain ⟨⟨⟨ds, gs, before, whole, -⟩, listed⟩, -⟩ := pre
  refine (contract (w.forCall tape i) w.heap.size i.args ds gs before vals (DataW.Whole.of_heap (w' := w.forCall tape i) (by rfl) whole) (hX _ _ _ (by rfl) listed) shape).mono ?_
  rintro _ W' ⟨v, rfl, post⟩
  exact ChangeSpec.post_blind post

set_option maxRecDepth 100000 in
theorem lifted (os : Os) (started : os.Started) (H : Type) (enc : TypeId × Value → H) :
    ReturnsInHanded {} Tryd.checked os 3 .any (fun w args => (Rows.journalCutsSpec.pre enc Tryd.prog Tryd.f3 [] false w args ∧ laidMetH Tryd.prog Rows.journalCutsRow.laid w) ∧ sizedMet enc Tryd.prog Tryd.f3 (OpenSpec.ofChange Rows.journalCutsSpec) false w args)
      (Rows.journalCutsSpec.post enc Tryd.prog Tryd.f3 false true false false) := by
  refine handed (C := Tryd.checked) (X := fun w _ => laidMetH Tryd.prog Rows.journalCutsRow.laid w) (fun _ _ _ hh h => h.of_heap hh) own started (by kernel_rfl) Tryd.func3
    (ChangeSpec.witness_shaped (enc := enc) (C := Tryd.checked) (os := os) (X := fun w _ => laidMetH Tryd.prog Rows.journalCutsRow.laid w) false ((World.doorLaid Tryd.prog 400 os).layVars Tryd.prog plainLaid) #[.slice none 0 0, .int .i64 0] 8 (World.layVars_os _ _ _) (wit_shaped os _) (by kernel_rfl) (by kernel_rfl) (by kernel_rfl) (wit_met os _)) ?_
  intro W base args ds gs before hval0 hW hL hsh
  have hval : ∀ (j : Nat) t v, Tryd.f3.params[j]? = some t → args[j]? = some v → Value.okWide Tryd.prog W .any base t v := hval0
  have hW' := hW
  obtain ⟨p, q, hA0, hV, rfl, hfz, hnd⟩ := hW
  have hA : DataW.TrodAll enc Tryd.prog W 0 (fun _ => true) true Tryd.f3.params.toList args.toList ds p := hA0
  rw [Tryd.params3] at hA hval
  obtain ⟨v0, v1, d0, d1, p0, p1, rfl, rfl, rfl, h0, h1⟩ := trodAll_two hA
  obtain ⟨rfl, rfl⟩ := trodVars_none hV
  obtain ⟨ao, len, cap, rfl⟩ := okWide_slice Tryd.underlying22 (hval 0 22 v0 rfl rfl)
  obtain ⟨cut, rfl, rfl, rfl, wc⟩ := open_int Tryd.underlying3 (hval 1 3 v1 rfl rfl) h1
  obtain ⟨xs, rfl, hmax, hX⟩ := ops_in h0
  obtain ⟨ad, hE⟩ := env_of_row hL hsh
  have walk : Calls Tryd.prog 3 #[.slice ao xs.length cap, .int .i64 cut] W fun e w' => e = .returned (.bool true) ∧ Below W.heap.size W w' :=
    cuts_law W ao cap xs cut hE hX (by simp only [maxLen] at hmax; omega) (by have := (show _ ∧ _ by simpa [Lit.wf, IntKind.min, IntKind.max, IntKind.signed, IntKind.bits] using wc).2; omega)
  refine walk.mono fun e W' ⟨he, hb⟩ => ?_
  subst he
  have hlt0 : ∀ x ∈ p0, x.block < W.heap.size := fun x hx => by simpa using hW'.lt x (by simp [hx])
  refine ⟨_, rfl, _, _, _, [], p0 ++ [], [], hW', ?_, ?_, ?_, hb.frame _, fun h => by cases h⟩
  · exact trodAll_mk1 (shut_bool Tryd.underlying4 true)
  · exact trodAll_mk2 (Below.trod laidOut (by kernel_rfl) (of_decide_eq_true (by kernel_rfl)) h0 hb hlt0) (shut_int Tryd.underlying3 wc)
  · rfl

theorem said : Rows.JournalCutsSaid :=
  OpenClaim.holds_of_wide 3 Tryd.f3 rfl rfl rfl rfl rfl rfl rfl ⟨rfl, rfl, rfl, rfl, rfl⟩ rfl rfl rfl rfl rfl (by kernel_rfl) Tryd.func3 (by kernel_rfl)
    (of_decide_eq_true (by kernel_rfl)) (by unfold Func.isWrapper; first | (rw [if_pos (by decide +kernel)]; kernel_rfl) | (rw [if_neg (by decide +kernel)]; exact ⟨rfl, rfl⟩))
    (fun os started H enc _ => lifted os started H enc)

theorem plain (f : FuncId) (fn : Func) (hf : Tryd.pinned.checked.prog.funcNamed "concordat/concordatlaw2.JournalCuts" = some f) (hfn : Tryd.pinned.checked.prog.funcs[f]? = some fn) :
    false = Tryd.pinned.checked.prog.looks [] ∧ ∀ (j : Nat) t, fn.params[j]? = some t → Tryd.pinned.checked.prog.wantsStandIn t = false := by
  obtain rfl : f = 3 := Option.some.inj ((show Tryd.prog.funcNamed "concordat/concordatlaw2.JournalCuts" = some 3 by kernel_rfl).symm.trans hf) |>.symm
  obtain rfl : fn = Tryd.f3 := (Option.some.inj (Tryd.func3.symm.trans hfn)).symm
  refine ⟨by kernel_rfl, fun j t ht => ?_⟩
  rw [Tryd.params3] at ht
  have hm : t ∈ [22, 3] := by simpa using Array.mem_of_getElem? ht
  have hall : ([22, 3].all fun u => !Tryd.prog.wantsStandIn u) = true := by kernel_rfl
  exact (show Tryd.prog.wantsStandIn t = false by simpa using List.all_eq_true.1 hall t hm)
end Go.Proofs.YtcggmagdndhkbaaDoor.Cuts
namespace Go.Proofs.YtcggmagdndhkbaaDoor

theorem journalCuts_card : Rows.JournalCutsCardSaid :=
  Claim7.holds_tied_plain_at .later [] _ _ _ _ Cuts.said (fun _ h => by cases h) (by kernel_rfl) (fun _ h => by cases h) journalCuts_row_tie rfl ⟨rfl, rfl⟩ (by kernel_rfl) rfl Cuts.plain (by kernel_rfl)
end Go.Proofs.YtcggmagdndhkbaaDoor
