import Derived.Test.YtcggmagdndhkbaaGreatDoorAx22
import Derived.Test.YtcggmagdndhkbaaGreatDoorAx23
import Derived.Test.YtcggmagdndhkbaaGreatDoorAx24
import Derived.Test.YtcggmagdndhkbaaGreatDoorRows
import Derived.Test.YtcggmagdndhkbaaGreatDoorChecked
import Derived.Carry
import Derived.ChangeMaps5
section
namespace Go.Proofs.YtcggmagdndhkbaaGreatDoor.Acts
open Go.ChangeShapes Go.WideShapes Go.ChangeAt Go.RowKit Go.Joins Go.ChangeMaps
theorem own : ownKnob Tryz.prog.godebug = none := by kernel_rfl
theorem laidOut : laidOutB Tryz.prog = true := by kernel_rfl
theorem laidVars_parts {P : Program} {w : World} : ∀ (l1 l2 : List (String × DataW Unit)) (ps : List MemPlace), DataW.LaidVars P w (l1 ++ l2) ps → ∃ q1 q2, DataW.LaidVars P w l1 q1 ∧ DataW.LaidVars P w l2 q2 ∧ ps = q1 ++ q2
  | [], l2, ps, h => ⟨[], ps, rfl, h, rfl⟩
  | x :: l1, l2, ps, h => by
    obtain ⟨g, t, cs, fuel, p, q, a1, a2, a3, a4, a5, rfl⟩ := h
    obtain ⟨q1, q2, b1, b2, rfl⟩ := laidVars_parts l1 l2 q a5
    exact ⟨_, q2, ⟨g, t, cs, fuel, p, q1, a1, a2, a3, a4, b1, rfl⟩, b2, by simp⟩
theorem laidMet_mid {P : Program} {w : World} (l1 l2 l3 : List (String × DataW Unit)) (h : laidMet P (l1 ++ (l2 ++ l3)) w) : laidMet P l2 w := by
  obtain ⟨ps, hv, hnd, hr⟩ := h
  obtain ⟨q1, q2, -, b, rfl⟩ := laidVars_parts l1 (l2 ++ l3) ps hv
  obtain ⟨q3, q4, c, -, rfl⟩ := laidVars_parts l2 l3 q2 b
  exact ⟨q3, c, (List.nodup_append.1 (List.nodup_append.1 hnd).2.1).1, fun b off hm => hr b off (List.mem_append_right _ (List.mem_append_left _ hm))⟩
theorem env_of_row {W : World} (h : laidMetH Tryz.prog Rows.journalActsRow.laid W) (hsh : W.ShapedOpen Tryz.prog) : ∃ (ad : Nat → Addr), EnvJ W.heap.size ad W ∧ Errs W.heap.size ad W := by
  have h' : laidMet Tryz.prog plainLaid W ∧ handlesMet Tryz.prog handleLaid W := h
  have hmid : laidMet Tryz.prog sentsLaid W := laidMet_mid [("math/bits.deBruijn32tab", Rows.laid_math_bits_deBruijn32tab), ("math/bits.deBruijn64tab", Rows.laid_math_bits_deBruijn64tab), ("internal/strconv.uint64pow10", Rows.laid_internal_strconv_uint64pow10), ("unicode/utf8.acceptRanges", Rows.laid_unicode_utf8_acceptRanges)] sentsLaid [("unicode/utf8.first", Rows.laid_unicode_utf8_first)] h'.1
  obtain ⟨ad, hE⟩ := errs_of hmid h'.2
  obtain ⟨m, hm⟩ := Tryz.laysM147.s1_3 W hsh
  have hp : ("internal/strconv.uint64pow10", Rows.laid_internal_strconv_uint64pow10) ∈ plainLaid := .tail _ (.tail _ (.head _))
  have hq : ("math/bits.deBruijn64tab", Rows.laid_math_bits_deBruijn64tab) ∈ plainLaid := .tail _ (.head _)
  exact ⟨ad, envJ_of ⟨⟨⟨hE.c1, hE.c2, hE.c3, hE.c4⟩, tab_of (Lib.laidMet.reads h'.1 hp)⟩, ⟨hE.c1, hE.c2, hE.c7, hE.c10⟩, deb_of (Lib.laidMet.reads h'.1 hq), hE.c0, m, hm⟩, hE⟩
theorem handed {H : Type} {enc : TypeId × Value → H} {C : Checked} {os : Os} {f : FuncId} {fn : Func} {s : ChangeSpec} {apart fresh handsOn again : Bool} {X : World → Array Value → Prop}
    (hX : ∀ (w w' : World) (args : Array Value), w.heap = w'.heap → X w args → X w' args)
    (own : ownKnob C.prog.godebug = none) (started : os.Started) (noInit : C.prog.inits.idxOf? f = none) (hfn : C.prog.funcs[f]? = some fn)
    (witness : ∃ (w : World) (tape : Tape) (i : Input), w.os = os ∧ (w.forCall tape i).Shaped C.prog ∧ i.vars = [] ∧ Input.okWide C.prog (w.forCall tape i) .any w.heap.size f i ∧
      ((s.pre enc C.prog fn [] apart (w.forCall tape i).memory i.args ∧ X (w.forCall tape i).memory i.args) ∧ sizedMet enc C.prog fn (OpenSpec.ofChange s) apart (w.forCall tape i).memory i.args) ∧ ({} : Assume).holds C.prog (lone (Frame.enter C.prog f i.args .normal) [] (w.forCall tape i)))
    (contract : ∀ (W : World) (base : Nat) (args : Array Value) (ds gs : List (DataW H)) (before : List MemPlace),
      (∀ (j : Nat) t v, fn.params[j]? = some t → args[j]? = some v → Value.okWide C.prog W .any base t v) →
      DataW.Whole enc C.prog fn.params.toList s.vars apart W args.toList ds gs before → X W args → W.ShapedOpen C.prog →
      Calls C.prog f args W fun e W' => ∃ v, e = .returned v ∧ s.post enc C.prog fn apart fresh handsOn again W args v W') :
    ReturnsInHanded {} C os f .any (fun w args => (s.pre enc C.prog fn [] apart w args ∧ X w args) ∧ sizedMet enc C.prog fn (OpenSpec.ofChange s) apart w args) (s.post enc C.prog fn apart fresh handsOn again) := by
  refine returnsInHanded_of_calls own started noInit witness ?_
  intro w tape i _ shape _ ok pre _
  obtain ⟨-, -, -, g, hg, -, -, -, -, vals⟩ := ok
  obtain rfl : g = fn := Option.some.inj (hg.symm.trans hfn)
  obtain ⟨⟨⟨ds, gs, before, whole, -⟩, listed⟩, -⟩ := pre
  refine (contract (w.forCall tape i) w.heap.size i.args ds gs before vals (DataW.Whole.of_heap (w' := w.forCall tape i) (by rfl) whole) (hX _ _ _ (by rfl) listed) shape).mono ?_
  rintro _ W' ⟨v, rfl, post⟩
  exact ChangeSpec.post_blind post
set_option maxRecDepth 100000 in
theorem lifted (os : Os) (started : os.Started) (H : Type) (enc : TypeId × Value → H) :
    ReturnsInHanded {} Tryz.checked os 7 .any (fun w args => (Rows.journalActsSpec.pre enc Tryz.prog Tryz.f7 [] false w args ∧ laidMetH Tryz.prog Rows.journalActsRow.laid w) ∧ sizedMet enc Tryz.prog Tryz.f7 (OpenSpec.ofChange Rows.journalActsSpec) false w args)
      (Rows.journalActsSpec.post enc Tryz.prog Tryz.f7 false true false false) := by
  refine handed (C := Tryz.checked) (X := fun w _ => laidMetH Tryz.prog Rows.journalActsRow.laid w) (fun _ _ _ hh h => h.of_heap hh) own started (by kernel_rfl) Tryz.func7
    (ChangeSpec.witness_shaped (enc := enc) (C := Tryz.checked) (os := os) (X := fun w _ => laidMetH Tryz.prog Rows.journalActsRow.laid w) false ((World.doorLaid Tryz.prog 400 os).layVars Tryz.prog plainLaid) #[.string ⟨#[]⟩, .slice none 0 0] 8 (World.layVars_os _ _ _) (wit_shaped os _) (by kernel_rfl) (by kernel_rfl) (by kernel_rfl) (wit_met os _)) ?_
  intro W base args ds gs before hval0 hW hL hsh
  have hval : ∀ (j : Nat) t v, Tryz.f7.params[j]? = some t → args[j]? = some v → Value.okWide Tryz.prog W .any base t v := hval0
  have hW' := hW
  obtain ⟨p, q, hA0, hV, rfl, hfz, hnd⟩ := hW
  have hA : DataW.TrodAll enc Tryz.prog W 0 (fun _ => true) true Tryz.f7.params.toList args.toList ds p := hA0
  rw [Tryz.params7] at hA hval
  obtain ⟨v0, v1, d0, d1, p0, p1, rfl, rfl, rfl, h0, h1⟩ := trodAll_two hA
  obtain ⟨rfl, rfl⟩ := trodVars_none hV
  obtain ⟨s0, rfl, rfl, rfl, w0⟩ := open_string Tryz.underlying9 (hval 0 9 v0 rfl rfl) h0
  obtain ⟨ao, len, cap, rfl⟩ := okWide_slice Tryz.underlying88 (hval 1 88 v1 rfl rfl)
  obtain ⟨xs, rfl, hmax, hX, hN⟩ := acts_in h1
  obtain ⟨ad, hE, hR⟩ := env_of_row hL hsh
  have walk : Calls Tryz.prog 7 #[.string s0, .slice ao xs.length cap] W fun e w' => e = .returned (.bool true) ∧ Below W.heap.size W w' :=
    acts_law W s0 ao cap xs hE hR hX (by simp only [maxLen] at hmax; omega) (by simp only [maxLen] at w0; omega) hN
  refine walk.mono fun e W' ⟨he, hb⟩ => ?_
  subst he
  have hlt1 : ∀ x ∈ p1, x.block < W.heap.size := fun x hx => by simpa using hW'.lt x (by simp [hx])
  refine ⟨_, rfl, _, _, _, [], [] ++ p1, [], hW', ?_, ?_, ?_, hb.frame _, fun h => by cases h⟩
  · exact trodAll_mk1 (shut_bool Tryz.underlying4 true)
  · exact trodAll_mk2 (shut_string Tryz.underlying9 w0) (Below.trod laidOut (by kernel_rfl) (of_decide_eq_true (by kernel_rfl)) h1 hb hlt1)
  · rfl
end Go.Proofs.YtcggmagdndhkbaaGreatDoor.Acts
end
