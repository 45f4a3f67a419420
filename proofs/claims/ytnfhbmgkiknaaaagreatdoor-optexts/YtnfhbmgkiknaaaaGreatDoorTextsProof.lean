/- Proved: for any operation and any text the law OpTexts returns true and leaves its arguments as they were (chapter 3: Check, ID, Text and Read answer as the document's reference; a right operation is written and read back; a text that is read has just that text); on the condition alone that the listed variables hold what the program's text, and for one table the library's, lays there. -/
import Derived.Test.YtnfhbmgkiknaaaaGreatDoorCards
import Derived.Test.YtnfhbmgkiknaaaaGreatDoorTie
import Derived.Test.YtnfhbmgkiknaaaaGreatDoorTextsWalks
import Derived.Test.YtnfhbmgkiknaaaaGreatDoorOpOpen
import Derived.Test.YtnfhbmgkiknaaaaGreatDoorTextsWit
import Derived.ChangeMaps5
namespace Go.Proofs.YtnfhbmgkiknaaaaGreatDoor.Texts
open Go.ChangeShapes Go.WideShapes Go.ChangeAt Go.RowKit Go.Joins Go.ChangeMaps

theorem own : ownKnob Tryz.prog.godebug = none := by kernel_rfl

/-- A list of listed variables, in two parts. -/
theorem laidVars_parts {P : Program} {w : World} : ∀ (l1 l2 : List (String × DataW Unit)) (ps : List MemPlace), DataW.LaidVars P w (l1 ++ l2) ps → ∃ q1 q2, DataW.LaidVars P w l1 q1 ∧ DataW.LaidVars P w l2 q2 ∧ ps = q1 ++ q2
  | [], l2, ps, h => ⟨[], ps, rfl, h, rfl⟩
  | x :: l1, l2, ps, h => by
    obtain ⟨g, t, cs, fuel, p, q, a1, a2, a3, a4, a5, rfl⟩ := h
    obtain ⟨q1, q2, b1, b2, rfl⟩ := laidVars_parts l1 l2 q a5
    exact ⟨_, q2, ⟨g, t, cs, fuel, p, q1, a1, a2, a3, a4, b1, rfl⟩, b2, by simp⟩
theorem laidMet_mid {P : Program} {w : World} (l1 l2 l3 : List (String × DataW Unit)) (h : laidMet P (l1 ++ (l2 ++ l3)) w) : laidMet P l2 w := by
  obtain ⟨ps, hv, hnd, hr⟩ := h
  obtain ⟨q1, q2, -, b, rfl⟩ := laidVars_parts l1 (l2 ++ l3) ps hv
  obtain ⟨q3, q4, c, -, rfl⟩ := laidVars_parts l2 l3 q2 b
  exact ⟨q3, c, (List.nodup_append.1 (List.nodup_append.1 hnd).2.1).1, fun b off hm => hr b off (List.mem_append_right _ (List.mem_append_left _ hm))⟩

theorem env_of_row {W : World} (h : laidMetH Tryz.prog Rows.opTextsRow.laid W) (hsh : W.ShapedOpen Tryz.prog) : ∃ (ad : Nat → Addr) (m : Int), TsE W.heap.size ad m W := by
  have h' : laidMet Tryz.prog plainLaid W ∧ handlesMet Tryz.prog handleLaid W := h
  have hmid : laidMet Tryz.prog sentsLaid W := laidMet_mid [("math/bits.deBruijn32tab", Rows.laid_math_bits_deBruijn32tab), ("math/bits.deBruijn64tab", Rows.laid_math_bits_deBruijn64tab), ("internal/strconv.uint64pow10", Rows.laid_internal_strconv_uint64pow10), ("unicode/utf8.acceptRanges", Rows.laid_unicode_utf8_acceptRanges)] sentsLaid [("unicode/utf8.first", Rows.laid_unicode_utf8_first)] h'.1
  obtain ⟨ad, hE⟩ := errs_of hmid h'.2
  obtain ⟨m, hm⟩ := Tryz.laysM147.s1_3 W hsh
  have hp : ("internal/strconv.uint64pow10", Rows.laid_internal_strconv_uint64pow10) ∈ plainLaid := .tail _ (.tail _ (.head _))
  exact ⟨ad, m, hE, tab_of (Lib.laidMet.reads h'.1 hp), hm⟩

/-- The wrap that hands both on: what the row lists, and the world's shape. -/
theorem handed {H : Type} {enc : TypeId × Value → H} {C : Checked} {os : Os} {f : FuncId} {fn : Func} {s : ChangeSpec} {apart fresh handsOn again : Bool} {X : World → Array Value → Prop}
    (hX : ∀ (w w' : World) (args : Array Value), w.heap = w'.heap → X w args → X w' args)
    (own : ownKnob C.prog.godebug = none) (started : os.Started) (noInit : C.prog.inits.idxOf? f = none) (hfn : C.prog.funcs[f]? = some fn)
    (witness : ∃ (w : World) (tape : Tape) (i : Input), w.os = os ∧ (w.forCall tape i).Shaped C.prog ∧ i.vars = [] ∧ Input.okWide C.prog (w.forCall tape i) .any w.heap.size f i ∧
      ((s.pre enc C.prog fn [] apart (w.forCall tape i).memory i.args ∧ X (w.forCall tape i).memory i.args) ∧ sizedMet enc C.prog fn (OpenSpec.ofChange s) apart (w.forCall tape i).memory i.args) ∧ ({} : Assume).holds C.prog (lone (Frame.enter C.prog f i.args .normal) [] (w.forCall tape i)))
    (contract : ∀ (W : World) (base : Nat) (args : Array Value) (ds gs : List (DataW H)) (before : List MemPlace),
      (∀ (j : Nat) t v, fn.params[j]? = some t → args[j]? = some v → Value.okWide C.prog W .any base t v) →
      DataW.Whole enc C.prog fn.params.toList s.vars apart W args.toList ds gs before → X W args → W.ShapedOpen C.prog →
      Calls C.prog f args W fun e W' => ∃ v, e = .returned v ∧ s.post enc C.prog fn apart fresh handsOn again W args v W') :
    ReturnsInHanded {} C os f .any (fun w args => (s.pre enc C.prog fn [] apart w args ∧ X w args) ∧ sizedMet enc C.prog fn (OpenSpec.ofChange s) apart w args) (s.post enc C.prog fn apart fresh handsOn again) := by
  refine returnsInHanded_of_calls own started noInit witness ?_
  intro w tape i _ shape _ ok pre _
  obtain ⟨-, -, -, g, hg, -, -, -, -, vals⟩ := ok
  obtain rfl : g = fn := Option.some.inj (hg.symm.trans hfn)
  obtain ⟨⟨⟨ds, gs, before, whole, -⟩, listed⟩, -⟩ := pre
  refine (contract (w.forCall tape i) w.heap.size i.args ds gs before vals (DataW.Whole.of_heap (w' := w.forCall tape i) (by rfl) whole) (hX _ _ _ (by rfl) listed) shape).mono ?_
  rintro _ W' ⟨v, rfl, post⟩
  exact ChangeSpec.post_blind post

set_option maxRecDepth 100000 in
theorem lifted (os : Os) (started : os.Started) (H : Type) (enc : TypeId × Value → H) :
    ReturnsInHanded {} Tryz.checked os 3 .any (fun w args => (Rows.opTextsSpec.pre enc Tryz.prog Tryz.f3 [] false w args ∧ laidMetH Tryz.prog Rows.opTextsRow.laid w) ∧ sizedMet enc Tryz.prog Tryz.f3 (OpenSpec.ofChange Rows.opTextsSpec) false w args)
      (Rows.opTextsSpec.post enc Tryz.prog Tryz.f3 false true false false) := by
  refine handed (C := Tryz.checked) (X := fun w _ => laidMetH Tryz.prog Rows.opTextsRow.laid w) (fun _ _ _ hh h => h.of_heap hh) own started (by kernel_rfl) Tryz.func3
    (ChangeSpec.witness_shaped (enc := enc) (C := Tryz.checked) (os := os) (X := fun w _ => laidMetH Tryz.prog Rows.opTextsRow.laid w) false ((World.doorLaid Tryz.prog 400 os).layVars Tryz.prog plainLaid) #[.agg #[.int .i64 0, .int .i64 0, .int .i64 0, .int .u8 0, .int .i64 0, .int .i64 0, .string ⟨#[]⟩, .string ⟨#[]⟩], .string ⟨#[]⟩] 8 (World.layVars_os _ _ _) (wit_shaped os _) (by kernel_rfl) (by kernel_rfl) (by kernel_rfl) (wit_met os _)) ?_
  intro W base args ds gs before hval0 hW hL hsh
  have hval : ∀ (j : Nat) t v, Tryz.f3.params[j]? = some t → args[j]? = some v → Value.okWide Tryz.prog W .any base t v := hval0
  have hW' := hW
  obtain ⟨p, q, hA0, hV, rfl, hfz, hnd⟩ := hW
  have hA : DataW.TrodAll enc Tryz.prog W 0 (fun _ => true) true Tryz.f3.params.toList args.toList ds p := hA0
  rw [Tryz.params3] at hA hval
  obtain ⟨v0, v1, d0, d1, p0, p1, rfl, rfl, rfl, h0, h1⟩ := trodAll_two hA
  obtain ⟨rfl, rfl⟩ := trodVars_none hV
  obtain ⟨t, b, n, k, node, other, name, value, rfl, rfl, rfl, wa⟩ := open_op (hval 0 25 v0 rfl rfl) h0
  obtain ⟨s, rfl, rfl, rfl, ws⟩ := open_string Tryz.underlying9 (hval 1 9 v1 rfl rfl) h1
  obtain ⟨ad, m, hE⟩ := env_of_row hL hsh
  have walk : Calls Tryz.prog 3 #[.agg #[.int .i64 t, .int .i64 b, .int .i64 n, .int .u8 (k : Int), .int .i64 node, .int .i64 other, .string name, .string value], .string s] W fun e w' => e = .returned (.bool true) ∧ Below W.heap.size W w' := by
    by_cases hs : name.size ≤ 60 ∧ value.size ≤ 60 ∧ s.size ≤ 300
    · by_cases ha : opE t b n k node other name.data.toList value.data.toList = 0
      · by_cases hc : codeR (partsL s.data.toList) = 0
        · exact texts_oo t b n k node other name value s W hE hs ha hc
        · exact texts_ob t b n k node other name value s W hE hs ha hc
      · by_cases hc : codeR (partsL s.data.toList) = 0
        · exact texts_bo t b n k node other name value s W hE hs ha hc
        · exact texts_bb t b n k node other name value s W hE hs ha hc
    · exact texts_long t b n k node other name value s W hE (by omega)
  refine walk.mono fun e W' ⟨he, hb⟩ => ?_
  subst he
  refine ⟨_, rfl, _, _, _, [], [], [], hW', ?_, ?_, ?_, hb.frame _, fun h => by cases h⟩
  · exact trodAll_mk1 (shut_bool Tryz.underlying4 true)
  · exact trodAll_mk2 (shut_op wa) (shut_string Tryz.underlying9 ws)
  · rfl

theorem said : Rows.OpTextsSaid :=
  OpenClaim.holds_of_wide 3 Tryz.f3 rfl rfl rfl rfl rfl rfl rfl ⟨rfl, rfl, rfl, rfl, rfl⟩ rfl rfl rfl rfl rfl (by kernel_rfl) Tryz.func3 (by kernel_rfl)
    (of_decide_eq_true (by kernel_rfl)) (by unfold Func.isWrapper; first | (rw [if_pos (by decide +kernel)]; kernel_rfl) | (rw [if_neg (by decide +kernel)]; exact ⟨rfl, rfl⟩))
    (fun os started H enc _ => lifted os started H enc)

theorem plain (f : FuncId) (fn : Func) (hf : Tryz.pinned.checked.prog.funcNamed "concordat/concordatlaw1.OpTexts" = some f) (hfn : Tryz.pinned.checked.prog.funcs[f]? = some fn) :
    true = Tryz.pinned.checked.prog.looks [] ∧ ∀ (j : Nat) t, fn.params[j]? = some t → Tryz.pinned.checked.prog.wantsStandIn t = false := by
  obtain rfl : f = 3 := Option.some.inj ((show Tryz.prog.funcNamed "concordat/concordatlaw1.OpTexts" = some 3 by kernel_rfl).symm.trans hf) |>.symm
  obtain rfl : fn = Tryz.f3 := (Option.some.inj (Tryz.func3.symm.trans hfn)).symm
  refine ⟨by kernel_rfl, fun j t ht => ?_⟩
  rw [Tryz.params3] at ht
  have hm : t ∈ [25, 9] := by simpa using Array.mem_of_getElem? ht
  have hall : ([25, 9].all fun u => !Tryz.prog.wantsStandIn u) = true := by kernel_rfl
  exact (show Tryz.prog.wantsStandIn t = false by simpa using List.all_eq_true.1 hall t hm)
end Go.Proofs.YtnfhbmgkiknaaaaGreatDoor.Texts
namespace Go.Proofs.YtnfhbmgkiknaaaaGreatDoor

theorem opTexts_card : Rows.OpTextsCardSaid :=
  Claim7.holds_tied_plain_at .later [] _ _ _ _ Texts.said (fun _ h => by cases h) (by kernel_rfl) (fun _ h => by cases h) opTexts_row_tie rfl ⟨rfl, rfl⟩ (by kernel_rfl) rfl Texts.plain (by kernel_rfl)
end Go.Proofs.YtnfhbmgkiknaaaaGreatDoor
