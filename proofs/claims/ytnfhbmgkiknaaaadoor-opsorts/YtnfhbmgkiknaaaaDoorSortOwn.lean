/- Contracts of the law's OwnOps and LongOps, over the translation's bodies. -/
import Derived.Test.YtnfhbmgkiknaaaaDoorSortSort
namespace Go.Proofs.YtnfhbmgkiknaaaaDoor
open Go.Shelf Go.RowKit Go.Lib Go.Sort

set_option maxHeartbeats 4000000 in
theorem ownOps_any (w : World) (v : Value) (xs : List OpX) (h : OpsAt w v xs) (hn : xs.length ≤ 1000) :
    Calls Tryd.prog 45 #[v] w fun e w' => ∃ v', e = .returned v' ∧ OpsAt w' v' xs ∧ Below w.heap.size w w' := by
  rcases h with ⟨rfl, rfl⟩ | ⟨blk, off, cap, rfl, hc⟩
  · go_enter Tryd.func45, Tryd.ntmps45
    go_wp2
    go_ret
    exact ⟨_, rfl, .inl ⟨rfl, rfl⟩, Below.refl _ _⟩
  · obtain ⟨i0, hi, hz0, hz1, hz2⟩ := info_parts infoOp
    have A : Aside (∀ j u, (cellsOf xs)[j]? = some u → w.cell? ⟨blk, off + j, none⟩ = some u) := hc
    clear hc
    go_enter Tryd.func45, Tryd.ntmps45
    go_wp2_with (at_builtin; refine wpList_append_own _ rfl _ _ 71 rfl w.heap.size 77 i0 _ 8 80 Tryd.underlying71 hi hz0 hz1 hz2 rfl (by omega) _ _ _ rfl (World.ownsRow_nil w _ _ _) ⟨blk, off, none⟩ xs.length cap (cellsOf xs) rfl ?qc1 ?qc2 ?qc3 ?qc4 ?qc5 ?qc6 ?_)
    case qc1 => exact cellsOf_len xs
    case qc2 =>
      intro j u hj
      rw [Addr.add_lit]
      exact A.out j u hj
    case qc3 => exact cellsOf_one xs
    case qc4 => rw [Nat.zero_add]; simp only [maxLen]; omega
    case qc5 => rw [Nat.zero_add]; omega
    case qc6 => simp
    intro v' w1 hown hgrow hnil
    have F : Aside (OpsAt w1 v' xs ∧ Below w.heap.size w w1) := ⟨ownsOps (by simpa using hown), (Below.refl _ w).grown hgrow (Nat.le_refl _) (by intro k hk; simp [Value.ownBlock] at hk)⟩
    clear hown hgrow hnil A
    go_wp2
    go_ret
    exact ⟨v', rfl, F.out.1, F.out.2⟩
end Go.Proofs.YtnfhbmgkiknaaaaDoor
