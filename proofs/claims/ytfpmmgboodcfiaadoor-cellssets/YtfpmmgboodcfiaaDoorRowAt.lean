/- Things in a row of cells, whatever they are: read, parted, appended to a row of one's own. -/
import Derived.Test.YtfpmmgboodcfiaaDoorFlatK
import Derived.Test.YtfpmmgboodcfiaaDoorRowOver
import Derived.Laws.OwnMore
import Derived.OwnWalk
namespace Go.Proofs.YtfpmmgboodcfiaaDoor
open Go Go.RowKit

theorem cellHeld {w w' : World} {b o : Nat} {v : Value} (hb : Below w.heap.size w w') (h : w.cell? ⟨b, o, none⟩ = some v) : w'.cell? ⟨b, o, none⟩ = some v := by
  rw [hb.cell (p := ⟨b, o, none⟩) (World.block_lt_of_cell? w ⟨b, o, none⟩ h)]; exact h
theorem ownsHeld {w w' : World} {base n : Nat} {e : TypeId} {k : Nat} {v : Value} {xs : List Value} (h : w.ownsRow base e k v n xs) (hs : ∀ g, v.ownBlock = some g → w'.heap[g]? = w.heap[g]?) : w'.ownsRow base e k v n xs := by
  refine ⟨h.1, ?_⟩
  rcases h.2 with h0 | ⟨g, cap, cur, rfl, h1, hg, h2⟩
  · exact .inl h0
  · exact .inr ⟨g, cap, cur, rfl, h1, (hs g rfl).trans hg, h2⟩
theorem ownsLow {w : World} {base base' n : Nat} {e : TypeId} {k : Nat} {v : Value} {xs : List Value} (h : w.ownsRow base e k v n xs) (hb : base' ≤ base) : w.ownsRow base' e k v n xs := by
  refine ⟨h.1, h.2.imp (fun e => e) ?_⟩
  rintro ⟨g, cap, cur, h1, h2, h3⟩
  exact ⟨g, cap, cur, h1, by omega, h3⟩
theorem rowIs {w : World} {base n k : Nat} {v : Value} {e : TypeId} {xs : List Value} (h : w.ownsRow base e k v n xs) : ∃ ao cap, v = .slice ao n cap := by
  rcases h.2 with ⟨h1, h2⟩ | ⟨g, cap, cur, rfl, _⟩
  · subst h2; exact ⟨_, _, h1⟩
  · exact ⟨_, _, rfl⟩

section
variable {α : Type} {enc : α → List Value} {k : Nat}
/-- Things behind an address, if there are any. -/
def InRow (enc : α → List Value) (w : World) (ao : Option Addr) (zs : List α) : Prop := zs = [] ∨ ∃ blk off, ao = some ⟨blk, off, none⟩ ∧ ∀ j u, (flat enc zs)[j]? = some u → w.cell? ⟨blk, off + j, none⟩ = some u
theorem InRow.later {w w' : World} {ao : Option Addr} {zs : List α} (h : InRow enc w ao zs) (hb : Below w.heap.size w w') : InRow enc w' ao zs := by
  rcases h with h | ⟨g, o, h1, h2⟩
  · exact .inl h
  · exact .inr ⟨g, o, h1, fun j u hj => cellHeld hb (h2 j u hj)⟩
theorem InRow.kept {w w' : World} {ao : Option Addr} {zs : List α} (h : InRow enc w ao zs) (hk : ∀ g o, ao = some ⟨g, o, none⟩ → w'.heap[g]? = w.heap[g]?) : InRow enc w' ao zs := by
  rcases h with h | ⟨g, o, h1, h2⟩
  · exact .inl h
  · exact .inr ⟨g, o, h1, fun j u hj => by rw [World.cell?_of_block (a := ⟨g, o + j, none⟩) (hk g o h1)]; exact h2 j u hj⟩
theorem InRow.part (hlen : ∀ x, (enc x).length = k) {w : World} {ao : Option Addr} {zs : List α} (h : InRow enc w ao zs) (i : Nat) (hi : i ≤ zs.length) : InRow enc w ao (zs.take i) ∧ InRow enc w (ao.map (fun x => x.add (i * k))) (zs.drop i) := by
  rcases h with h | ⟨g, o, h1, h2⟩
  · subst h; exact ⟨.inl (by simp), .inl (by simp)⟩
  · refine ⟨.inr ⟨g, o, h1, fun j u hj => h2 j u ?_⟩, .inr ⟨g, o + i * k, by rw [h1]; simp [Addr.add], fun j u hj => ?_⟩⟩
    · rw [← flat_take hlen zs i hi, List.getElem?_take] at hj
      split at hj
      · exact hj
      · cases hj
    · rw [← flat_drop hlen zs i hi, List.getElem?_drop] at hj
      rw [Nat.add_assoc]
      exact h2 _ u hj
theorem InRow.get (hlen : ∀ x, (enc x).length = k) {w : World} {ao : Option Addr} {zs : List α} (h : InRow enc w ao zs) {i : Nat} {x : α} (hi : zs[i]? = some x) : ∃ blk off, ao = some ⟨blk, off, none⟩ ∧ ∀ c u, (enc x)[c]? = some u → w.cell? ⟨blk, off + i * k + c, none⟩ = some u := by
  rcases h with h | ⟨b, o, h1, h2⟩
  · subst h; simp at hi
  · refine ⟨b, o, h1, fun c u hc => ?_⟩
    have hck : c < k := by have := (List.getElem?_eq_some_iff.1 hc).1; rwa [hlen] at this
    rw [Nat.add_assoc]
    exact h2 _ _ ((flat_get (enc := enc) hlen hi hck).trans hc)
theorem rowIn (hlen : ∀ x, (enc x).length = k) {w : World} {base : Nat} {T : TypeId} {ao : Option Addr} {cap : Nat} {L : List α} (h : w.ownsRow base T k (.slice ao L.length cap) L.length (flat enc L)) : InRow enc w ao L := by
  have h' := h
  rcases h.2 with ⟨h1, h2⟩ | ⟨g, cap', cur, hv, _⟩
  · exact .inl (List.length_eq_zero_iff.1 h2)
  · cases hv
    refine .inr ⟨g, 0, rfl, fun j u hj => ?_⟩
    have hl : j < (flat enc L).length := (List.getElem?_eq_some_iff.1 hj).1
    rw [flat_len hlen] at hl
    rw [Nat.zero_add, h'.cellAt j hl, hj]
/-- append of things that may be none. -/
theorem append_row {P : Program} {S T : TypeId} {z : Value} {bytes : Nat} (hS : P.underlying S = some (.slice T)) (hinfo : (P.info? T).map (fun i => (i.zero, i.size, i.bytes)) = some (some z, k, bytes)) (hb1 : bytes ≤ 1000) (hk0 : 0 < k) (hzc : z.cells.size = k)
    (hlen : ∀ x, (enc x).length = k) (hone : ∀ x, ∀ v ∈ enc x, v.oneCell' = true)
    {w : World} {base n : Nat} {v : Value} {xs : List Value} (ho : w.ownsRow base T k v n xs) (hn : n ≤ 2000) (hbase : base ≤ w.heap.size) (ap : Option Addr) (c : Nat) (ys : List α) (hy : ys.length ≤ 2000) (hap : InRow enc w ap ys) (hc : ap = none → c = 0) (ty : TypeId) :
    ∃ v' w', (Builtin.append_ #[S, S] ty #[v, .slice ap ys.length c]).run P w = .ok v' w' ∧ w'.ownsRow base T k v' (n + ys.length) (xs ++ flat enc ys) ∧ w.grownBy w' v.ownBlock := by
  obtain ⟨i0, hi, hz0, hz1, hz2⟩ := info_parts hinfo
  cases ap with
  | none =>
    have h0 : ys = [] := by
      rcases hap with h | ⟨_, _, h, _⟩
      · exact h
      · cases h
    subst h0
    rw [hc rfl]
    refine ⟨v, w, run_append_owned_none w base _ ty _ i0 k hS hi v n xs ho, by simpa [flat] using ho, ⟨rfl, rfl, rfl, Nat.le_refl _, fun _ _ _ => rfl⟩⟩
  | some a =>
    have hl : (flat enc ys).length = ys.length * k := flat_len hlen ys
    obtain ⟨v', w', h1, h2, h3, -⟩ := run_append_own (P := P) w base S ty T i0 _ k bytes hS hi hz0 hz1 hz2 hzc (by omega) v n xs ho a ys.length c (flat enc ys) hl (fun j u hj => by
      rcases hap with h | ⟨b, o, h, hcell⟩
      · subst h; simp [flat] at hj
      · cases h
        rw [Addr.add_lit]
        exact hcell j u hj) (flat_one hone ys) (by simp only [maxLen]; omega) (by have := Nat.mul_le_mul (show n + ys.length ≤ 4000 by omega) hb1; omega) hbase
    exact ⟨v', w', h1, h2, h3⟩
end
end Go.Proofs.YtfpmmgboodcfiaaDoor
