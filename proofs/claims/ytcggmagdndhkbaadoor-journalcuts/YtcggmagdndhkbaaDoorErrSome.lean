/- How a row's list of some of the sentinels tells where they lie. -/
import Derived.Test.YtcggmagdndhkbaaDoorLaidList
namespace Go.Proofs.YtcggmagdndhkbaaDoor

set_option maxRecDepth 100000 in
/-- A list of some of the sentinels: where their pointers lie. -/
theorem some_of {W : World} (l : List (String × Nat × List UInt8)) (hn : ∀ x ∈ l, Tryd.prog.globalNamed x.1 = some x.2.1 ∧ (Tryd.prog.globals[x.2.1]?).map (·.type) = some 27)
    (h1 : laidMet Tryd.prog (l.map fun x => (x.1, .iface "*errors.errorString" (.ptr (.agg [.lit (.string x.2.2)])))) W) :
    ∃ az : List Addr, ∀ (i : Nat) x, l[i]? = some x → W.cell? ⟨x.2.1, 0, none⟩ = some (.iface 127 (.pointer (some (az.getD i ⟨0, 0, none⟩)))) := by
  obtain ⟨ps, hv, hnd, hr⟩ := h1
  obtain ⟨az, hl, hcell, -, -⟩ := laid_list Tryd.underlying27 Tryd.yRow Tryd.underlying127 Tryd.underlying141 rfl rfl Tryd.underlying9 Tryd.yCellsS Tryd.yCellsString l ps hn hv hnd hr
  refine ⟨az, fun i x hx => hcell i x _ hx ?_⟩
  have hi : i < az.length := by rw [hl]; exact (List.getElem?_eq_some_iff.1 hx).1
  rw [List.getD_eq_getElem?_getD, List.getElem?_eq_getElem hi]; rfl
end Go.Proofs.YtcggmagdndhkbaaDoor
