/- A list of sentinels that a row lists: their pointers lie apart, each in a block of its own. -/
import Derived.Test.YtcggmagdndhkbaaDoorRows
import Derived.Test.YtcggmagdndhkbaaDoorProg
import Derived.LaidLaws
import Derived.LaidHandle
import Derived.LaidMore
import Derived.KernelRfl
namespace Go.Proofs.YtcggmagdndhkbaaDoor

/-- A LIST OF SENTINELS: each variable holds a pointer; the pointers are apart; their blocks bear the plain frozen range. -/
theorem laid_list {P : Program} {W : World} {ti tp te ts : TypeId} {ms : Array (String × TypeId)} {nm : String} {f : Field}
    (hi : P.underlying ti = some (.interface ms)) (hrow : ∀ u, P.typeName? 3 u = some nm → u = tp) (hp : P.underlying tp = some (.pointer te)) (he : P.underlying te = some (.struct #[f])) (hft : f.type = ts) (hfo : f.offset = 0) (hs : P.underlying ts = some .string) (hc : P.cellsOf te = 1) (hcs : P.cellsOf ts = 1) :
    ∀ (l : List (String × Nat × List UInt8)) (ps : List MemPlace),
      (∀ x ∈ l, P.globalNamed x.1 = some x.2.1 ∧ (P.globals[x.2.1]?).map (·.type) = some ti) →
      DataW.LaidVars P W (l.map fun x => (x.1, .iface nm (.ptr (.agg [.lit (.string x.2.2)])))) ps → ps.Nodup →
      (∀ b off, MemPlace.cell b off ∈ ps → (∃ c t, W.heap[b]? = some (.cells c t (0, 0))) ∧ ∀ u v, W.cell? ⟨b, off, none⟩ = some (.iface u v) → Value.okWide P W .any 0 u v) →
      ∃ az : List Addr, az.length = l.length ∧ (∀ (i : Nat) (x : String × Nat × List UInt8) (a : Addr), l[i]? = some x → az[i]? = some a → W.cell? ⟨x.2.1, 0, none⟩ = some (.iface tp (.pointer (some a)))) ∧
        (∀ a ∈ az, (∃ c t, W.heap[a.block]? = some (.cells c t (0, 0))) ∧ MemPlace.cell a.block a.off ∈ ps) ∧ az.Nodup
  | [], ps, _, _, _, _ => ⟨[], rfl, by simp, by simp, List.nodup_nil⟩
  | x :: l, ps, hx, hv, hnd, hr => by
    obtain ⟨g, t, cs, fuel, p, q, hg, ht, hvar, hd, hq, e⟩ := hv
    subst e
    obtain ⟨hg', ht'⟩ := hx x (List.mem_cons_self)
    obtain rfl := Option.some.inj (hg'.symm.trans hg)
    obtain rfl := Option.some.inj (ht'.symm.trans ht)
    obtain ⟨l0⟩ := cs
    have ok0 : ∀ u v, l0 = [.iface u v] → Value.okWide P W .any 0 u v := fun u v e => by
      subst e
      exact (hr x.2.1 0 (by simp [MemPlace.row])).2 u v (by simpa using World.var?_cell hg hvar 0)
    obtain ⟨a0, s0, rfl, hc0, hs0, hz0, rfl⟩ := errorString_of_trod hi hrow hp he hft hfo hs hc hcs hd ok0
    have hnd2 := List.nodup_append.1 hnd
    obtain ⟨az, hl, h1, h2, h3⟩ := laid_list hi hrow hp he hft hfo hs hc hcs l q (fun y hy => hx y (List.mem_cons_of_mem _ hy)) hq hnd2.2.1 (fun b off hm => hr b off (List.mem_append_right _ hm))
    have hm0 : MemPlace.cell a0.block a0.off ∈ MemPlace.row ⟨x.2.1, 0, none⟩ (#[Value.iface tp (.pointer (some a0))] : Array Value).size ++ MemPlace.row a0 1 := List.mem_append_right _ (by simp [MemPlace.row])
    refine ⟨a0 :: az, by simp [hl], ?_, ?_, ?_⟩
    · intro i y a hy ha
      cases i with
      | zero =>
        simp only [List.getElem?_cons_zero, Option.some.injEq] at hy ha
        subst hy ha
        simpa using World.var?_cell hg hvar 0
      | succ i =>
        simp only [List.getElem?_cons_succ] at hy ha
        exact h1 i y a hy ha
    · intro a ha
      rcases List.mem_cons.1 ha with rfl | ha
      · exact ⟨(hr _ _ (List.mem_append_left _ hm0)).1, List.mem_append_left _ hm0⟩
      · exact ⟨(h2 a ha).1, List.mem_append_right _ (h2 a ha).2⟩
    · refine List.nodup_cons.2 ⟨fun hin => ?_, h3⟩
      exact hnd2.2.2 _ hm0 _ (h2 a0 hin).2 rfl

theorem Tryd.yStar : "*" ++ "errors.errorString" = "*errors.errorString" := by decide
theorem Tryd.yRow (u : TypeId) (h : Tryd.prog.typeName? 3 u = some "*errors.errorString") : u = 127 :=
  typeName_ptr_named (nm := "errors.errorString") (by rw [Tryd.yStar]; kernel_rfl) (by kernel_rfl) (by decide) u (by rw [Tryd.yStar]; exact h)
theorem Tryd.yCellsS : Tryd.prog.cellsOf 141 = 1 := by kernel_rfl
theorem Tryd.yCellsString : Tryd.prog.cellsOf 9 = 1 := by kernel_rfl
end Go.Proofs.YtcggmagdndhkbaaDoor
