import Derived.Test.YtcggmagdndhkbaaGreatDoorWt37
import Derived.Test.YtcggmagdndhkbaaGreatDoorWt38
import Derived.Test.YtcggmagdndhkbaaGreatDoorWt39
import Derived.Test.YtcggmagdndhkbaaGreatDoorRows
import Derived.Test.YtcggmagdndhkbaaGreatDoorChecked
import Derived.Carry
import Derived.ChangeMaps5
section
namespace Go.Proofs.YtcggmagdndhkbaaGreatDoor.Writes
open Go.ChangeShapes Go.WideShapes Go.ChangeAt Go.RowKit Go.Joins Go.ChangeMaps
theorem own : ownKnob Tryz.prog.godebug = none := by kernel_rfl
def eight : List (String × Nat × List UInt8) := [("concordat/api.ErrBound", 2, [99, 111, 110, 99, 111, 114, 100, 97, 116, 58, 32, 98, 111, 117, 110, 100]), ("concordat/api.ErrShape", 3, [99, 111, 110, 99, 111, 114, 100, 97, 116, 58, 32, 115, 104, 97, 112, 101]), ("concordat/api.ErrName", 8, [99, 111, 110, 99, 111, 114, 100, 97, 116, 58, 32, 110, 97, 109, 101]), ("concordat/api.ErrKind", 9, [99, 111, 110, 99, 111, 114, 100, 97, 116, 58, 32, 107, 105, 110, 100]), ("concordat/api.ErrNone", 0, [99, 111, 110, 99, 111, 114, 100, 97, 116, 58, 32, 110, 111, 110, 101]), ("concordat/api.ErrExist", 5, [99, 111, 110, 99, 111, 114, 100, 97, 116, 58, 32, 101, 120, 105, 115, 116]), ("concordat/api.ErrFull", 1, [99, 111, 110, 99, 111, 114, 100, 97, 116, 58, 32, 102, 117, 108, 108]), ("concordat/api.ErrGap", 6, [99, 111, 110, 99, 111, 114, 100, 97, 116, 58, 32, 103, 97, 112])]
def eightLaid : List (String × DataW Unit) := eight.map fun x => (x.1, .iface "*errors.errorString" (.ptr (.agg [.lit (.string x.2.2)])))
theorem eight_named : ∀ x ∈ eight, Tryz.prog.globalNamed x.1 = some x.2.1 ∧ (Tryz.prog.globals[x.2.1]?).map (·.type) = some 25 := by
  have h : (eight.all fun x => (Tryz.prog.globalNamed x.1 == some x.2.1) && ((Tryz.prog.globals[x.2.1]?).map (·.type) == some 25)) = true := by kernel_rfl
  intro x hx
  have := List.all_eq_true.1 h x hx
  simpa using this
theorem laidVars_parts {P : Program} {w : World} : ∀ (l1 l2 : List (String × DataW Unit)) (ps : List MemPlace), DataW.LaidVars P w (l1 ++ l2) ps → ∃ q1 q2, DataW.LaidVars P w l1 q1 ∧ DataW.LaidVars P w l2 q2 ∧ ps = q1 ++ q2
  | [], l2, ps, h => ⟨[], ps, rfl, h, rfl⟩
  | x :: l1, l2, ps, h => by
    obtain ⟨g, t, cs, fuel, p, q, a1, a2, a3, a4, a5, rfl⟩ := h
    obtain ⟨q1, q2, b1, b2, rfl⟩ := laidVars_parts l1 l2 q a5
    exact ⟨_, q2, ⟨g, t, cs, fuel, p, q1, a1, a2, a3, a4, b1, rfl⟩, b2, by simp⟩
theorem laidMet_behind {P : Program} {w : World} (l1 l2 : List (String × DataW Unit)) (h : laidMet P (l1 ++ l2) w) : laidMet P l2 w := by
  obtain ⟨ps, hv, hnd, hr⟩ := h
  obtain ⟨q1, q2, -, b, rfl⟩ := laidVars_parts l1 l2 ps hv
  exact ⟨q2, b, (List.nodup_append.1 hnd).2.1, fun b off hm => hr b off (List.mem_append_right _ hm)⟩
theorem env_of_row {W : World} (h : laidMetH Tryz.prog Rows.replicaWritesRow.laid W) : ∃ ad : Nat → Addr, EnvT W.heap.size ad W := by
  rw [MakeChecks.laidMetH_plain _ _ _ (by kernel_rfl)] at h
  have h' : laidMet Tryz.prog plainLaid W := h
  have hmid : laidMet Tryz.prog eightLaid W := laidMet_behind [("math/bits.deBruijn32tab", Rows.laid_math_bits_deBruijn32tab), ("math/bits.deBruijn64tab", Rows.laid_math_bits_deBruijn64tab), ("internal/strconv.uint64pow10", Rows.laid_internal_strconv_uint64pow10)] eightLaid h'
  obtain ⟨az, hat⟩ := some_of eight eight_named hmid
  have hp : ("internal/strconv.uint64pow10", Rows.laid_internal_strconv_uint64pow10) ∈ plainLaid := .tail _ (.tail _ (.head _))
  have ht := tab_of (Lib.laidMet.reads h' hp)
  have hg : 13 < W.heap.size := by
    unfold Lib.TabIs at ht
    exact World.block_lt_of_cell? W ⟨13, 0, none⟩ ((World.var?_cell gPow ht 0).trans (show _ = some (Value.int .u64 1) by kernel_rfl))
  have hn : ¬ Cyc (fun i => if i = 100 then ⟨2, 0, none⟩ else az.getD (i - 1) ⟨0, 0, none⟩) := fun h => by
    unfold Cyc at h
    simp at h
  exact ⟨fun i => if i = 100 then ⟨2, 0, none⟩ else az.getD (i - 1) ⟨0, 0, none⟩, ⟨⟨hat 0 _ rfl, hat 1 _ rfl, hat 2 _ rfl, hat 3 _ rfl⟩, hat 4 _ rfl, hat 5 _ rfl, hat 6 _ rfl, hat 7 _ rfl, fun h => absurd h hn, by omega, Nat.le_refl _⟩, Lib.tabBelow_of_tabIs ht⟩
theorem handed {H : Type} {enc : TypeId × Value → H} {C : Checked} {os : Os} {f : FuncId} {fn : Func} {s : ChangeSpec} {apart fresh handsOn again : Bool} {X : World → Array Value → Prop}
    (hX : ∀ (w w' : World) (args : Array Value), w.heap = w'.heap → X w args → X w' args)
    (own : ownKnob C.prog.godebug = none) (started : os.Started) (noInit : C.prog.inits.idxOf? f = none) (hfn : C.prog.funcs[f]? = some fn)
    (witness : ∃ (w : World) (tape : Tape) (i : Input), w.os = os ∧ (w.forCall tape i).Shaped C.prog ∧ i.vars = [] ∧ Input.okWide C.prog (w.forCall tape i) .any w.heap.size f i ∧
      ((s.pre enc C.prog fn [] apart (w.forCall tape i).memory i.args ∧ X (w.forCall tape i).memory i.args) ∧ sizedMet enc C.prog fn (OpenSpec.ofChange s) apart (w.forCall tape i).memory i.args) ∧ ({} : Assume).holds C.prog (lone (Frame.enter C.prog f i.args .normal) [] (w.forCall tape i)))
    (contract : ∀ (W : World) (base : Nat) (args : Array Value) (ds gs : List (DataW H)) (before : List MemPlace),
      (∀ (j : Nat) t v, fn.params[j]? = some t → args[j]? = some v → Value.okWide C.prog W .any base t v) →
      DataW.Whole enc C.prog fn.params.toList s.vars apart W args.toList ds gs before → X W args → W.ShapedOpen C.prog →
      Calls C.prog f args W fun e W' => ∃ v, e = .returned v ∧ s.post enc C.prog fn apart fresh handsOn again W args v W') :
    ReturnsInHanded {} C os f .any (fun w args => (s.pre enc C.prog fn [] apart w args ∧ X w args) ∧ sizedMet enc C.prog fn (OpenSpec.ofChange s) apart w args) (s.post enc C.prog fn apart fresh handsOn again) := by
  refine returnsInHanded_of_calls own started noInit witness ?_
  intro w tape i _ shape _ ok pre _
  obtain ⟨-, -, -, g, hg, -, -, -, -, vals⟩ := ok
  obtain rfl : g = fn := Option.some.inj (hg.symm.trans hfn)
  obtain ⟨⟨⟨ds, gs, before, whole, -⟩, listed⟩, -⟩ := pre
  refine (contract (w.forCall tape i) w.heap.size i.args ds gs before vals (DataW.Whole.of_heap (w' := w.forCall tape i) (by rfl) whole) (hX _ _ _ (by rfl) listed) shape).mono ?_
  rintro _ W' ⟨v, rfl, post⟩
  exact ChangeSpec.post_blind post
set_option maxRecDepth 100000 in
theorem lifted (os : Os) (started : os.Started) (H : Type) (enc : TypeId × Value → H) :
    ReturnsInHanded {} Tryz.checked os 3 .any (fun w args => (Rows.replicaWritesSpec.pre enc Tryz.prog Tryz.f3 [] false w args ∧ laidMetH Tryz.prog Rows.replicaWritesRow.laid w) ∧ sizedMet enc Tryz.prog Tryz.f3 (OpenSpec.ofChange Rows.replicaWritesSpec) false w args)
      (Rows.replicaWritesSpec.post enc Tryz.prog Tryz.f3 false true false false) := by
  refine handed (C := Tryz.checked) (X := fun w _ => laidMetH Tryz.prog Rows.replicaWritesRow.laid w) (fun _ _ _ hh h => h.of_heap hh) own started (by kernel_rfl) Tryz.func3
    (ChangeSpec.witness_shaped (enc := enc) (C := Tryz.checked) (os := os) (X := fun w _ => laidMetH Tryz.prog Rows.replicaWritesRow.laid w) false ((World.doorLaid Tryz.prog 400 os).layVars Tryz.prog plainLaid) #[.string ⟨#[]⟩, .string ⟨#[]⟩, .string ⟨#[]⟩, .int .i64 0] 8 (World.layVars_os _ _ _) (wit_shaped os _) (by kernel_rfl) (by kernel_rfl) (by kernel_rfl) (wit_met os _)) ?_
  intro W base args ds gs before hval0 hW hL _
  have hval : ∀ (j : Nat) t v, Tryz.f3.params[j]? = some t → args[j]? = some v → Value.okWide Tryz.prog W .any base t v := hval0
  have hW' := hW
  obtain ⟨p, q, hA0, hV, rfl, hfz, hnd⟩ := hW
  have hA : DataW.TrodAll enc Tryz.prog W 0 (fun _ => true) true Tryz.f3.params.toList args.toList ds p := hA0
  rw [Tryz.params3] at hA hval
  obtain ⟨v0, v1, v2, v3, d0, d1, d2, d3, p0, p1, p2, p3, rfl, rfl, rfl, h0, h1, h2, h3⟩ := trodAll_four hA
  obtain ⟨rfl, rfl⟩ := trodVars_none hV
  obtain ⟨s0, rfl, rfl, rfl, w0⟩ := open_string Tryz.underlying9 (hval 0 9 v0 rfl rfl) h0
  obtain ⟨s1, rfl, rfl, rfl, w1⟩ := open_string Tryz.underlying9 (hval 1 9 v1 rfl rfl) h1
  obtain ⟨s2, rfl, rfl, rfl, w2⟩ := open_string Tryz.underlying9 (hval 2 9 v2 rfl rfl) h2
  obtain ⟨cut, rfl, rfl, rfl, w3⟩ := open_int Tryz.underlying3 (hval 3 3 v3 rfl rfl) h3
  obtain ⟨ad, hE⟩ := env_of_row hL
  have walk : Calls Tryz.prog 3 #[.string s0, .string s1, .string s2, .int .i64 cut] W fun e w' => e = .returned (.bool true) ∧ Below W.heap.size W w' :=
    writes_law W s0 s1 s2 cut hE
  refine walk.mono fun e W' ⟨he, hb⟩ => ?_
  subst he
  refine ⟨_, rfl, _, _, _, [], [] ++ ([] ++ ([] ++ [])), [], hW', ?_, ?_, ?_, hb.frame _, fun h => by cases h⟩
  · exact trodAll_mk1 (shut_bool Tryz.underlying4 true)
  · exact trodAll_mk4 (shut_string Tryz.underlying9 w0) (shut_string Tryz.underlying9 w1) (shut_string Tryz.underlying9 w2) (shut_int Tryz.underlying3 w3)
  · rfl
end Go.Proofs.YtcggmagdndhkbaaGreatDoor.Writes
end
