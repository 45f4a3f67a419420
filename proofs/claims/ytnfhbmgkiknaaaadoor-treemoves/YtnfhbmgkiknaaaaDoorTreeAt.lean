/- A tree in its blocks. -/
import Derived.Test.YtnfhbmgkiknaaaaDoorTreeDo
import Derived.Test.YtnfhbmgkiknaaaaDoorTreeIns
import Derived.Test.YtnfhbmgkiknaaaaDoorOpCheck
import Derived.Deep.RegionHeld3
import Derived.Deep.RegionWith
namespace Go.Proofs.YtnfhbmgkiknaaaaDoor
open Go.RowKit Go.Maps
open scoped Classical

/-- A tree, in its blocks: what these moves have made, and their log. -/
structure TreeAt (base : Nat) (w : World) (bt bm : Nat) (v : Value) (ms : List Mov) : Prop where
  cell : TreeCell w bt bm v
  row : ∃ L, LogTo ms ms.length L ∧ w.ownsRow base 138 8 v ms.length (flat encE L)
  map : ∃ n, n ≤ 300 * ms.length ∧ MapAt Tryd.prog 3 w bm n (madeBy ms)
  by_ : ByStamp ms
  fine : ∀ m ∈ ms, FineP m.2
theorem TreeAt.good {base : Nat} {w : World} {bt bm : Nat} {v : Value} {ms : List Mov} (h : TreeAt base w bt bm v ms) : Good (madeBy ms) := good_made h.fine
theorem TreeAt.lt {base : Nat} {w : World} {bt bm : Nat} {v : Value} {ms : List Mov} (h : TreeAt base w bt bm v ms) : bt < w.heap.size ∧ bm < w.heap.size ∧ ∀ g, v.ownBlock = some g → g < w.heap.size := by
  obtain ⟨n, _, hM⟩ := h.map
  obtain ⟨L, _, hR⟩ := h.row
  exact ⟨h.cell.lt, hM.lt, fun g hg => (hR.lt g hg).2⟩
theorem owns_same {w w' : World} {base n : Nat} {e : TypeId} {k : Nat} {v : Value} {xs : List Value} (h : w.ownsRow base e k v n xs) (hs : ∀ g, v.ownBlock = some g → w'.heap[g]? = w.heap[g]?) : w'.ownsRow base e k v n xs := by
  refine ⟨h.1, ?_⟩
  rcases h.2 with h0 | ⟨g, cap, cur, rfl, h1, hg, h2⟩
  · exact .inl h0
  · exact .inr ⟨g, cap, cur, rfl, h1, (hs g rfl).trans hg, h2⟩
/-- It stays while its own blocks stay. -/
theorem TreeAt.same {base : Nat} {w w' : World} {bt bm : Nat} {v : Value} {ms : List Mov} (h : TreeAt base w bt bm v ms) (h1 : w'.heap[bt]? = w.heap[bt]?) (h2 : w'.heap[bm]? = w.heap[bm]?) (h3 : ∀ g, v.ownBlock = some g → w'.heap[g]? = w.heap[g]?) : TreeAt base w' bt bm v ms := by
  obtain ⟨n, hn, hM⟩ := h.map
  obtain ⟨L, hL, hR⟩ := h.row
  exact ⟨h1.trans h.cell, ⟨L, hL, owns_same hR h3⟩, ⟨n, hn, hM.same h2⟩, h.by_, h.fine⟩
theorem TreeAt.later {base : Nat} {w w' : World} {bt bm : Nat} {v : Value} {ms : List Mov} (h : TreeAt base w bt bm v ms) (hb : Below w.heap.size w w') : TreeAt base w' bt bm v ms :=
  h.same (hb.block _ h.lt.1) (hb.block _ h.lt.2.1) (fun g hg => hb.block g (h.lt.2.2 g hg))

/-- A new tree. -/
theorem treeAt_new (w : World) (base : Nat) : TreeAt base ((w.alloc (.map #[] 0)).alloc (.cells #[.map (some w.heap.size), .slice none 0 0] 131)) (w.heap.size + 1) w.heap.size (.slice none 0 0) [] := by
  refine ⟨(blk2 w _ _).2, ⟨[], logTo_nil, World.ownsRow_nil _ _ _ _⟩, ⟨0, by simp, ?_⟩, List.Pairwise.nil, fun m hm => by simp at hm⟩
  exact (mapAt_made (P := Tryd.prog) (K := 3) w).same (Below.heap_alloc _ _ _ (by simp))

theorem move_fine {t b n : Int} {node other : Int} {name value : ByteArray} (h : opE t b n 109 node other name.data.toList value.data.toList = 0) : FineP (node, other, name) := by
  have h0 := opE_zero h
  unfold opE at h
  rw [if_pos ⟨h0.1, h0.2.1, h0.2.2.1, h0.2.2.2.1, h0.2.2.2.2.1, h0.2.2.2.2.2.1⟩] at h
  unfold kindE at h
  rw [if_pos rfl] at h
  unfold moveE at h
  split at h
  · cases h
  · rename_i hc
    have hl : name.data.toList.length = name.size := by simp
    obtain ⟨_, _, _, _, _, _, _, _, _, _, _, _, h12, _⟩ := h0
    refine ⟨?_, ?_, ?_, ?_, ?_, ?_⟩ <;> dsimp only <;> omega

/-- What undoFrom does. -/
def UndoOk : Prop := ∀ (w : World) (base bt bm n at_ : Nat) (v : Value) (ms : List Mov) (L : List Ent), TreeCell w bt bm v → LogTo ms ms.length L → w.ownsRow base 138 8 v ms.length (flat encE L) → MapAt Tryd.prog 3 w bm n (madeBy ms) → (∀ m ∈ ms, FineP m.2) → at_ ≤ ms.length → ms.length ≤ 1000 → n ≤ 1000000 →
    Calls Tryd.prog 83 #[.pointer (some ⟨bt, 0, none⟩), .int .i64 (at_ : Int)] w fun e w' => (∃ u, e = .returned u) ∧ MapAt Tryd.prog 3 w' bm (n + (ms.length - at_)) (madeBy (ms.take at_)) ∧ Keeps (fun k => k = bm) w w'
end Go.Proofs.YtnfhbmgkiknaaaaDoor
