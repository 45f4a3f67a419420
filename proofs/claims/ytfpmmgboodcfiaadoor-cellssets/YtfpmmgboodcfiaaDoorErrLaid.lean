/- From the row's list of package variables to what the walks ask: the twelve sentinels lie apart, each in its own block; the handle of the type error. -/
import Derived.Test.YtfpmmgboodcfiaaDoorRows
import Derived.Test.YtfpmmgboodcfiaaDoorCodeWalks
import Derived.LaidLaws
import Derived.LaidHandle
import Derived.LaidMore
import Derived.KernelRfl
namespace Go.Proofs.YtfpmmgboodcfiaaDoor
open Go.RowKit

/-- A LIST OF SENTINELS: each variable holds a pointer; the pointers are apart; their blocks bear the plain frozen range. -/
theorem laid_list {P : Program} {W : World} {ti tp te ts : TypeId} {ms : Array (String × TypeId)} {nm : String} {f : Field}
    (hi : P.underlying ti = some (.interface ms)) (hrow : ∀ u, P.typeName? 3 u = some nm → u = tp) (hp : P.underlying tp = some (.pointer te)) (he : P.underlying te = some (.struct #[f])) (hft : f.type = ts) (hfo : f.offset = 0) (hs : P.underlying ts = some .string) (hc : P.cellsOf te = 1) (hcs : P.cellsOf ts = 1) :
    ∀ (l : List (String × Nat × List UInt8)) (ps : List MemPlace),
      (∀ x ∈ l, P.globalNamed x.1 = some x.2.1 ∧ (P.globals[x.2.1]?).map (·.type) = some ti) →
      DataW.LaidVars P W (l.map fun x => (x.1, .iface nm (.ptr (.agg [.lit (.string x.2.2)])))) ps → ps.Nodup →
      (∀ b off, MemPlace.cell b off ∈ ps → (∃ c t, W.heap[b]? = some (.cells c t (0, 0))) ∧ ∀ u v, W.cell? ⟨b, off, none⟩ = some (.iface u v) → Value.okWide P W .any 0 u v) →
      ∃ az : List Addr, az.length = l.length ∧ (∀ (i : Nat) (x : String × Nat × List UInt8) (a : Addr), l[i]? = some x → az[i]? = some a → W.cell? ⟨x.2.1, 0, none⟩ = some (.iface tp (.pointer (some a)))) ∧
        (∀ a ∈ az, (∃ c t, W.heap[a.block]? = some (.cells c t (0, 0))) ∧ MemPlace.cell a.block a.off ∈ ps) ∧ az.Nodup
  | [], ps, _, _, _, _ => ⟨[], rfl, by simp, by simp, List.nodup_nil⟩
  | x :: l, ps, hx, hv, hnd, hr => by
    obtain ⟨g, t, cs, fuel, p, q, hg, ht, hvar, hd, hq, e⟩ := hv
    subst e
    obtain ⟨hg', ht'⟩ := hx x (List.mem_cons_self)
    obtain rfl := Option.some.inj (hg'.symm.trans hg)
    obtain rfl := Option.some.inj (ht'.symm.trans ht)
    obtain ⟨l0⟩ := cs
    have ok0 : ∀ u v, l0 = [.iface u v] → Value.okWide P W .any 0 u v := fun u v e => by
      subst e
      exact (hr x.2.1 0 (by simp [MemPlace.row])).2 u v (by simpa using World.var?_cell hg hvar 0)
    obtain ⟨a0, s0, rfl, hc0, hs0, hz0, rfl⟩ := errorString_of_trod hi hrow hp he hft hfo hs hc hcs hd ok0
    have hnd2 := List.nodup_append.1 hnd
    obtain ⟨az, hl, h1, h2, h3⟩ := laid_list hi hrow hp he hft hfo hs hc hcs l q (fun y hy => hx y (List.mem_cons_of_mem _ hy)) hq hnd2.2.1 (fun b off hm => hr b off (List.mem_append_right _ hm))
    have hm0 : MemPlace.cell a0.block a0.off ∈ MemPlace.row ⟨x.2.1, 0, none⟩ (#[Value.iface tp (.pointer (some a0))] : Array Value).size ++ MemPlace.row a0 1 := List.mem_append_right _ (by simp [MemPlace.row])
    refine ⟨a0 :: az, by simp [hl], ?_, ?_, ?_⟩
    · intro i y a hy ha
      cases i with
      | zero =>
        simp only [List.getElem?_cons_zero, Option.some.injEq] at hy ha
        subst hy ha
        simpa using World.var?_cell hg hvar 0
      | succ i =>
        simp only [List.getElem?_cons_succ] at hy ha
        exact h1 i y a hy ha
    · intro a ha
      rcases List.mem_cons.1 ha with rfl | ha
      · exact ⟨(hr _ _ (List.mem_append_left _ hm0)).1, List.mem_append_left _ hm0⟩
      · exact ⟨(h2 a ha).1, List.mem_append_right _ (h2 a ha).2⟩
    · refine List.nodup_cons.2 ⟨fun hin => ?_, h3⟩
      exact hnd2.2.2 _ hm0 _ (h2 a0 hin).2 rfl

theorem Tryd.yStar : "*" ++ "errors.errorString" = "*errors.errorString" := by decide
theorem Tryd.yRow (u : TypeId) (h : Tryd.prog.typeName? 3 u = some "*errors.errorString") : u = 145 :=
  typeName_ptr_named (nm := "errors.errorString") (by rw [Tryd.yStar]; kernel_rfl) (by kernel_rfl) (by decide) u (by rw [Tryd.yStar]; exact h)
theorem Tryd.yCellsS : Tryd.prog.cellsOf 166 = 1 := by kernel_rfl
theorem Tryd.yCellsString : Tryd.prog.cellsOf 9 = 1 := by kernel_rfl
theorem Tryd.yEt : Tryd.prog.globalNamed "errors.errorType" = some 12 := by kernel_rfl
theorem Tryd.yRt : (Tryd.prog.cutTypes.find? (·.1 == "internal/reflectlite.rtype")).map (·.2) = some 123 := by kernel_rfl
theorem Tryd.yOneRow : ((List.range Tryd.prog.types.size).filter fun t => Tryd.prog.rowNamed t [101, 114, 114, 111, 114]) = [32] := by kernel_rfl

/-- The twelve, in plain.Code's own order. -/
def sents : List (String × Nat × List UInt8) := [("concordat/api.ErrText", 2, [99, 111, 110, 99, 111, 114, 100, 97, 116, 58, 32, 116, 101, 120, 116]), ("concordat/api.ErrBound", 1, [99, 111, 110, 99, 111, 114, 100, 97, 116, 58, 32, 98, 111, 117, 110, 100]), ("concordat/api.ErrShape", 3, [99, 111, 110, 99, 111, 114, 100, 97, 116, 58, 32, 115, 104, 97, 112, 101]), ("concordat/api.ErrName", 4, [99, 111, 110, 99, 111, 114, 100, 97, 116, 58, 32, 110, 97, 109, 101]), ("concordat/api.ErrKind", 0, [99, 111, 110, 99, 111, 114, 100, 97, 116, 58, 32, 107, 105, 110, 100]), ("concordat/api.ErrNone", 5, [99, 111, 110, 99, 111, 114, 100, 97, 116, 58, 32, 110, 111, 110, 101]), ("concordat/api.ErrExist", 6, [99, 111, 110, 99, 111, 114, 100, 97, 116, 58, 32, 101, 120, 105, 115, 116]), ("concordat/api.ErrFull", 7, [99, 111, 110, 99, 111, 114, 100, 97, 116, 58, 32, 102, 117, 108, 108]), ("concordat/api.ErrGap", 8, [99, 111, 110, 99, 111, 114, 100, 97, 116, 58, 32, 103, 97, 112]), ("concordat/api.ErrCycle", 9, [99, 111, 110, 99, 111, 114, 100, 97, 116, 58, 32, 99, 121, 99, 108, 101]), ("concordat/api.ErrOff", 10, [99, 111, 110, 99, 111, 114, 100, 97, 116, 58, 32, 111, 102, 102]), ("concordat/api.ErrSum", 11, [99, 111, 110, 99, 111, 114, 100, 97, 116, 58, 32, 115, 117, 109])]
def sentsLaid : List (String × DataW Unit) := sents.map fun x => (x.1, .iface "*errors.errorString" (.ptr (.agg [.lit (.string x.2.2)])))
def handleLaid : List (String × DataW Unit) := [("errors.errorType", .iface "internal/reflectlite.rtype" (.agg [.ptr (.lit (.string [101, 114, 114, 111, 114]))]))]

theorem sents_named : ∀ x ∈ sents, Tryd.prog.globalNamed x.1 = some x.2.1 ∧ (Tryd.prog.globals[x.2.1]?).map (·.type) = some 32 := by
  have h : (sents.all fun x => (Tryd.prog.globalNamed x.1 == some x.2.1) && ((Tryd.prog.globals[x.2.1]?).map (·.type) == some 32)) = true := by kernel_rfl
  intro x hx
  have := List.all_eq_true.1 h x hx
  simpa using this

theorem errs_of {W : World} (h1 : laidMet Tryd.prog sentsLaid W) (h2 : handlesMet Tryd.prog handleLaid W) : ∃ ad : Nat → Addr, Errs W.heap.size ad W := by
  obtain ⟨ps, hv, hnd, hr⟩ := h1
  obtain ⟨az, hl, hcell, hrow, hn⟩ := laid_list Tryd.underlying32 Tryd.yRow Tryd.underlying145 Tryd.underlying166 rfl rfl Tryd.underlying9 Tryd.yCellsS Tryd.yCellsString sents ps sents_named hv hnd hr
  have hl : az.length = 12 := hl
  have hget : ∀ i, i < 12 → az[i]? = some (az.getD i ⟨0, 0, none⟩) := fun i hi => by
    rw [List.getD_eq_getElem?_getD, List.getElem?_eq_getElem (by omega)]; rfl
  have hat : ∀ i x, i < 12 → sents[i]? = some x → W.cell? ⟨x.2.1, 0, none⟩ = some (.iface 145 (.pointer (some (az.getD i ⟨0, 0, none⟩)))) := fun i x hi hx => hcell i x _ hx (hget i hi)
  have hmem : ∀ i, i < 12 → az.getD i ⟨0, 0, none⟩ ∈ az := fun i hi => List.mem_of_getElem? (hget i hi)
  have het : W.cell? ⟨12, 0, none⟩ = some (.iface 123 (.agg #[.pointer (some ⟨13, 32, none⟩)])) := by
    obtain ⟨name, u, ty, e1, e2, e3, e4, e5⟩ := h2 _ (List.mem_singleton.2 rfl)
    have en : name = [101, 114, 114, 111, 114] := (Option.some.inj e1).symm
    subst en
    obtain rfl := Option.some.inj (Tryd.yRt.symm.trans e2)
    have hm : ty ∈ (List.range Tryd.prog.types.size).filter fun t => Tryd.prog.rowNamed t [101, 114, 114, 111, 114] := List.mem_filter.2 ⟨List.mem_range.2 e3, e4⟩
    rw [Tryd.yOneRow] at hm
    obtain rfl := List.mem_singleton.1 hm
    have hh : typeHandle Tryd.prog 32 = .pointer (some ⟨13, 32, none⟩) := by kernel_rfl
    rw [hh] at e5
    simpa using World.var?_cell Tryd.yEt e5 0
  have lt_of : ∀ (b o : Nat) (v : Value), W.cell? ⟨b, o, none⟩ = some v → b < W.heap.size := fun b o v hc => by
    rcases Nat.lt_or_ge b W.heap.size with h | h
    · exact h
    · simp [World.cell?, Array.getElem?_eq_none h] at hc
  refine ⟨fun i => az.getD i ⟨0, 0, none⟩, hat 0 _ (by decide) rfl, hat 1 _ (by decide) rfl, hat 2 _ (by decide) rfl, hat 3 _ (by decide) rfl, hat 4 _ (by decide) rfl, hat 5 _ (by decide) rfl, hat 6 _ (by decide) rfl, hat 7 _ (by decide) rfl, hat 8 _ (by decide) rfl, hat 9 _ (by decide) rfl, hat 10 _ (by decide) rfl, hat 11 _ (by decide) rfl, het, ?_, ?_, ?_, ?_, Nat.le_refl _⟩
  · intro i hi
    obtain ⟨⟨c, t, e⟩, _⟩ := hrow _ (hmem i hi)
    rcases Nat.lt_or_ge (az.getD i ⟨0, 0, none⟩).block W.heap.size with h | h
    · exact h
    · rw [Array.getElem?_eq_none h] at e; cases e
  · exact fun i hi => (hrow _ (hmem i hi)).1
  · intro i j hi hj hne e
    have e1 := hget i hi
    have e2 := hget j hj
    have e : az.getD i ⟨0, 0, none⟩ = az.getD j ⟨0, 0, none⟩ := e
    rw [e] at e1
    exact hne ((List.getElem?_inj (by omega) hn).1 (e1.trans e2.symm))
  · have l0 := lt_of _ _ _ het
    have l1 := lt_of _ _ _ (hat 0 _ (by decide) rfl)
    have l2 := lt_of _ _ _ (hat 1 _ (by decide) rfl)
    have l3 := lt_of _ _ _ (hat 2 _ (by decide) rfl)
    have l4 := lt_of _ _ _ (hat 3 _ (by decide) rfl)
    have l5 := lt_of _ _ _ (hat 4 _ (by decide) rfl)
    have l6 := lt_of _ _ _ (hat 5 _ (by decide) rfl)
    have l7 := lt_of _ _ _ (hat 6 _ (by decide) rfl)
    have l8 := lt_of _ _ _ (hat 7 _ (by decide) rfl)
    have l9 := lt_of _ _ _ (hat 8 _ (by decide) rfl)
    have l10 := lt_of _ _ _ (hat 9 _ (by decide) rfl)
    have l11 := lt_of _ _ _ (hat 10 _ (by decide) rfl)
    have l12 := lt_of _ _ _ (hat 11 _ (by decide) rfl)
    first | exact l0 | exact l1 | exact l2 | exact l3 | exact l4 | exact l5 | exact l6 | exact l7 | exact l8 | exact l9 | exact l10 | exact l11 | exact l12
end Go.Proofs.YtfpmmgboodcfiaaDoor
