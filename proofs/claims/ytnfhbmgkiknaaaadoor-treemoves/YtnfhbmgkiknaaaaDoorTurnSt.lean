/- The two trees of the law TreeTurned and what lies beside them. -/
import Derived.Test.YtnfhbmgkiknaaaaDoorTurnKit
import Derived.Test.YtnfhbmgkiknaaaaDoorTreePlaces
namespace Go.Proofs.YtnfhbmgkiknaaaaDoor
open Go.RowKit Go.Lib Go.Sort Go.Maps

theorem infoBool : (Tryd.prog.info? 4).map (fun i => (i.zero, i.size, i.bytes)) = some (some (.bool false), 1, 1) := by kernel_rfl
theorem picked_len {β : Type} : ∀ (l : List β) (d : List Bool), (picked l d).length ≤ l.length
  | [], _ => by simp [picked]
  | x :: r, [] => by simp [picked]
  | x :: r, true :: d => by have := picked_len r d; simp [picked]; exact this
  | x :: r, false :: d => by have := picked_len r d; simp [picked]; omega

/-- While the moves go into the first tree in the order that is asked. -/
structure St2 (w : World) (Bs : Nat) (ag : Option Addr) (cg : Nat) (ys : List OpX) (d : List Bool) (va : Value) (msa : List Mov) (wr : World) : Prop where
  own : wr.ownsRow w.heap.size 77 8 (.slice ag ys.length cg) ys.length (cellsOf ys)
  done : wr.ownsRow (Bs + 4) 4 1 (.slice (some ⟨Bs + 4, 0, none⟩) ys.length ys.length) ys.length (d.map Value.bool)
  dlen : d.length = ys.length
  ta : TreeAt (Bs + 5) wr (Bs + 1) Bs va msa
  tb : ∀ base, TreeAt base wr (Bs + 3) (Bs + 2) (.slice none 0 0) []
  below : Below w.heap.size w wr
  size : Bs + 5 ≤ wr.heap.size
  low : w.heap.size ≤ Bs
  lowOwn : ∀ g, (Value.slice ag ys.length cg).ownBlock = some g → g < Bs

theorem st2_start {w wb wm : World} {Bs : Nat} {ag : Option Addr} {cg : Nat} {ys : List OpX}
    (D : wb.ownsRow w.heap.size 77 8 (.slice ag ys.length cg) ys.length (cellsOf ys) ∧ Below w.heap.size w wb ∧ (∀ base, TreeAt base wb (Bs + 1) Bs (.slice none 0 0) []) ∧ (∀ base, TreeAt base wb (Bs + 3) (Bs + 2) (.slice none 0 0) []) ∧ wb.heap.size = Bs + 4 ∧ w.heap.size ≤ Bs ∧ (∀ g, (Value.slice ag ys.length cg).ownBlock = some g → g < Bs))
    (hm : wm.ownsRow (Bs + 4) 4 1 (.slice (some ⟨Bs + 4, 0, none⟩) ys.length ys.length) ys.length ((List.replicate ys.length false).map Value.bool)) (hg : wb.grownBy wm none) : St2 w Bs ag cg ys (List.replicate ys.length false) (.slice none 0 0) [] wm := by
  obtain ⟨h1, h2, h3, h4, h5, h6, h7⟩ := D
  have hb : Below wb.heap.size wb wm := (Below.refl _ wb).grown hg (Nat.le_refl _) (by intro k hk; cases hk)
  exact ⟨owns_same h1 (fun g hg => hb.block g (h1.lt g hg).2), hm, by simp, (h3 _).later hb, fun base => (h4 base).later hb, h2.trans (hb.mono h2.size), (hm.lt _ rfl).2, h6, h7⟩

theorem St2.keep {w wr w' : World} {Bs : Nat} {ag : Option Addr} {cg : Nat} {ys : List OpX} {d : List Bool} {va v' : Value} {msa ms' : List Mov} (h : St2 w Bs ag cg ys d va msa wr)
    (hk : Keeps (fun k => k = Bs + 1 ∨ k = Bs ∨ some k = va.ownBlock) wr w') (hT : TreeAt (Bs + 5) w' (Bs + 1) Bs v' ms') : St2 w Bs ag cg ys d v' ms' w' := by
  obtain ⟨L, _, hR⟩ := h.ta.row
  have hv : ∀ k, some k = va.ownBlock → Bs + 5 ≤ k := fun k hk => (hR.lt k hk.symm).1
  have hs := h.size
  have hl := h.low
  have hb : ∀ k, k < Bs + 5 → k ≠ Bs + 1 → k ≠ Bs → w'.heap[k]? = wr.heap[k]? := fun k h1 h2 h3 => hk.block k (by omega) (by
    rintro (e | e | e)
    · exact h2 e
    · exact h3 e
    · have := hv k e; omega)
  refine ⟨owns_same h.own (fun g hg => hb g (by have := h.lowOwn g hg; omega) (by have := h.lowOwn g hg; omega) (by have := h.lowOwn g hg; omega)), owns_same h.done (fun g hg => ?_), h.dlen, hT, fun base => (h.tb base).same (hb _ (by omega) (by omega) (by omega)) (hb _ (by omega) (by omega) (by omega)) (fun g hg => by simp [Value.ownBlock] at hg), h.below.trans ((hk.below (B := w.heap.size) (by omega) (by rintro k (e | e | e) <;> first | omega | (have := hv k e; omega)))), by have := hk.size; omega, h.low, h.lowOwn⟩
  obtain rfl : Bs + 4 = g := by simpa [Value.ownBlock] using hg
  exact hb _ (by omega) (by omega) (by omega)

theorem St2.mark {w wr : World} {Bs : Nat} {ag : Option Addr} {cg : Nat} {ys : List OpX} {d : List Bool} {va : Value} {msa : List Mov} (h : St2 w Bs ag cg ys d va msa wr) (k : Nat) : St2 w Bs ag cg ys (d.set k true) va msa (wr.setCell ⟨Bs + 4, k, none⟩ (.bool true)) := by
  obtain ⟨hd, hg⟩ := h.done.stored k (.bool true)
  obtain ⟨L, _, hR⟩ := h.ta.row
  have hs := h.size
  have hl := h.low
  have hb : ∀ k', k' < wr.heap.size → k' ≠ Bs + 4 → (wr.setCell ⟨Bs + 4, k, none⟩ (.bool true)).heap[k']? = wr.heap[k']? := fun k' _ h2 => heap_setCell_other wr ⟨Bs + 4, k, none⟩ k' _ h2
  refine ⟨owns_same h.own (fun g hg => hb g (by have := h.lowOwn g hg; omega) (by have := h.lowOwn g hg; omega)), by rw [List.map_set]; exact hd, by rw [List.length_set]; exact h.dlen, h.ta.same (hb _ (by omega) (by omega)) (hb _ (by omega) (by omega)) (fun g hg => hb g (hR.lt g hg).2 (by have := (hR.lt g hg).1; omega)), fun base => (h.tb base).same (hb _ (by omega) (by omega)) (hb _ (by omega) (by omega)) (fun g hg => by simp [Value.ownBlock] at hg), h.below.grown hg (by have := h.below.size; omega) (by intro k hk; cases hk; omega), by have := hg.size; omega, h.low, h.lowOwn⟩

theorem St2.fits {w wr : World} {Bs : Nat} {ag : Option Addr} {cg : Nat} {ys : List OpX} {d : List Bool} {va : Value} {msa : List Mov} (_ : St2 w Bs ag cg ys d va msa wr) (hp : msa.Perm ((picked ys d).map movX)) : msa.length ≤ ys.length := by
  rw [hp.length_eq, List.length_map]
  exact picked_len _ _
theorem new_stamp {ys : List OpX} {d : List Bool} {msa : List Mov} {k : Nat} (hO : OwnSet ys) (hp : msa.Perm ((picked ys d).map movX)) (hk : k < ys.length) (hd : d[k]? = some false) : ∀ m ∈ msa, m.1 ≠ stX ys[k]! := by
  intro m hm
  obtain ⟨y, hy, rfl⟩ := List.mem_map.1 (hp.mem_iff.1 hm)
  exact picked_new hO.apart (x := ys[k]!) (by rw [getElem!_pos ys k hk]; exact List.getElem?_eq_getElem hk) hd y hy
theorem perm_next {ys : List OpX} {d : List Bool} {msa ms' : List Mov} {k : Nat} (hp : msa.Perm ((picked ys d).map movX)) (hk : k < ys.length) (hd : d[k]? = some false) (h : ms'.Perm (movX ys[k]! :: msa)) : ms'.Perm ((picked ys (d.set k true)).map movX) := by
  have h1 := (picked_set ys d k ys[k]! (by rw [getElem!_pos ys k hk]; exact List.getElem?_eq_getElem hk) hd).map movX
  exact h.trans ((hp.cons _).trans h1.symm)

/-- A move of the list, in its cells. -/
theorem move_cells {wr : World} {base g cg k : Nat} {ys : List OpX} (hO : OwnSet ys) (h : wr.ownsRow base 77 8 (.slice (some ⟨g, 0, none⟩) ys.length cg) ys.length (cellsOf ys)) (hk : k < ys.length) :
    ∃ (t b m node other : Int) (name value : ByteArray), Eight wr g (k * 8) t b m 109 node other name value ∧ Aside (movX ys[k]! = ((t, b), (node, other, name)) ∧ stX ys[k]! = (t, b) ∧ opE t b m 109 node other name.data.toList value.data.toList = 0 ∧ name.size ≤ 60 ∧ value.size ≤ 60) := by
  obtain ⟨⟨t, b, m, kd, node, other, name, value⟩, hx⟩ : ∃ x, ys[k]! = x := ⟨_, rfl⟩
  have hm : ys[k]! ∈ ys := by rw [getElem!_pos ys k hk]; exact List.getElem_mem hk
  obtain ⟨⟨h1, h2⟩, h3, h4⟩ := hO.good _ hm
  have E8 := eight_at (own_cells h) k hk hx
  rw [Nat.zero_add] at E8
  rw [hx] at h1 h2 h3 h4
  unfold errX at h1
  dsimp only at h1 h2 h3 h4
  subst h2
  exact ⟨t, b, m, node, other, name, value, E8, ⟨by rw [hx]; rfl, by rw [hx]; rfl, h1, h3, h4⟩⟩

/-- While the moves go into the second tree, one behind the other. -/
structure St3 (w : World) (Bs Bt : Nat) (ag : Option Addr) (cg : Nat) (ys : List OpX) (va : Value) (msa : List Mov) (vb : Value) (msb : List Mov) (wr : World) : Prop where
  own : wr.ownsRow w.heap.size 77 8 (.slice ag ys.length cg) ys.length (cellsOf ys)
  ta : TreeAt (Bs + 5) wr (Bs + 1) Bs va msa
  tb : TreeAt Bt wr (Bs + 3) (Bs + 2) vb msb
  below : Below w.heap.size w wr
  bt : Bs + 5 ≤ Bt
  size : Bt ≤ wr.heap.size
  low : w.heap.size ≤ Bs
  lowOwn : ∀ g, (Value.slice ag ys.length cg).ownBlock = some g → g < Bs
  lowA : ∀ g, va.ownBlock = some g → Bs + 5 ≤ g ∧ g < Bt
theorem St2.next {w wr : World} {Bs : Nat} {ag : Option Addr} {cg : Nat} {ys : List OpX} {d : List Bool} {va : Value} {msa : List Mov} (h : St2 w Bs ag cg ys d va msa wr) : St3 w Bs wr.heap.size ag cg ys va msa (.slice none 0 0) [] wr := by
  obtain ⟨L, _, hR⟩ := h.ta.row
  exact ⟨h.own, h.ta, h.tb _, h.below, h.size, Nat.le_refl _, h.low, h.lowOwn, fun g hg => hR.lt g hg⟩
theorem St3.keep {w wr w' : World} {Bs Bt : Nat} {ag : Option Addr} {cg : Nat} {ys : List OpX} {va vb v' : Value} {msa msb ms' : List Mov} (h : St3 w Bs Bt ag cg ys va msa vb msb wr)
    (hk : Keeps (fun k => k = Bs + 3 ∨ k = Bs + 2 ∨ some k = vb.ownBlock) wr w') (hT : TreeAt Bt w' (Bs + 3) (Bs + 2) v' ms') : St3 w Bs Bt ag cg ys va msa v' ms' w' := by
  obtain ⟨L, _, hR⟩ := h.tb.row
  have hv : ∀ k, some k = vb.ownBlock → Bt ≤ k := fun k hk => (hR.lt k hk.symm).1
  have hs := h.size
  have hl := h.low
  have hbt := h.bt
  have hb : ∀ k, k < Bt → k ≠ Bs + 3 → k ≠ Bs + 2 → w'.heap[k]? = wr.heap[k]? := fun k h1 h2 h3 => hk.block k (by omega) (by
    rintro (e | e | e)
    · exact h2 e
    · exact h3 e
    · have := hv k e; omega)
  exact ⟨owns_same h.own (fun g hg => hb g (by have := h.lowOwn g hg; omega) (by have := h.lowOwn g hg; omega) (by have := h.lowOwn g hg; omega)),
    h.ta.same (hb _ (by omega) (by omega) (by omega)) (hb _ (by omega) (by omega) (by omega)) (fun g hg => hb g (h.lowA g hg).2 (by have := (h.lowA g hg).1; omega) (by have := (h.lowA g hg).1; omega)), hT,
    h.below.trans ((hk.below (B := w.heap.size) (by omega) (by rintro k (e | e | e) <;> first | omega | (have := hv k e; omega)))), hbt, by have := hk.size; omega, h.low, h.lowOwn, h.lowA⟩
theorem new_stamp3 {ys : List OpX} {msb : List Mov} {i : Nat} (hO : OwnSet ys) (hp : msb.Perm ((ys.take i).map movX)) (hi : i < ys.length) : ∀ m ∈ msb, m.1 ≠ stX ys[i]! := by
  intro m hm
  obtain ⟨y, hy, rfl⟩ := List.mem_map.1 (hp.mem_iff.1 hm)
  intro e
  obtain ⟨j, hj, rfl⟩ := List.getElem_of_mem hy
  rw [List.length_take] at hj
  have e' := hO.apart j i ((ys.take i)[j]'(by rw [List.length_take]; exact hj)) ys[i]! (by rw [List.getElem_take]; exact List.getElem?_eq_getElem (by omega)) (by rw [getElem!_pos ys i hi]; exact List.getElem?_eq_getElem hi) e
  omega
theorem perm_next3 {ys : List OpX} {msb ms' : List Mov} {i : Nat} (hp : msb.Perm ((ys.take i).map movX)) (hi : i < ys.length) (h : ms'.Perm (movX ys[i]! :: msb)) : ms'.Perm ((ys.take (i + 1)).map movX) := by
  rw [List.take_add_one, List.getElem?_eq_getElem hi, getElem!_pos ys i hi] at *
  rw [List.map_append]
  exact h.trans ((hp.cons _).trans (List.perm_append_singleton _ _).symm)

/-- Two lists of places, looked at. -/
theorem PlsAt.shape {w : World} {v : Value} {qs : List Plc} (h : PlsAt w v qs) : ∃ ao cap, v = .slice ao qs.length cap := by
  rcases h with ⟨rfl, rfl⟩ | ⟨g, cap, rfl, _⟩
  · exact ⟨none, 0, rfl⟩
  · exact ⟨_, _, rfl⟩
theorem PlsAt.three {w : World} {ao : Option Addr} {cap : Nat} {qs : List Plc} (h : PlsAt w (.slice ao qs.length cap) qs) {i : Nat} {c q : Int} {nm : ByteArray} (hi : qs[i]? = some (c, q, nm)) : ∃ g, ao = some ⟨g, 0, none⟩ ∧ w.cell? ⟨g, i * 3, none⟩ = some (.int .i64 c) ∧ w.cell? ⟨g, i * 3 + 1, none⟩ = some (.int .i64 q) ∧ w.cell? ⟨g, i * 3 + 2, none⟩ = some (.string nm) := by
  rcases h with ⟨_, rfl⟩ | ⟨g, cap', he, _, hc⟩
  · simp at hi
  · cases he
    have hg := fun k hk => flat_get (enc := cellsP) (k := 3) (fun _ => rfl) (c := k) hi hk
    exact ⟨g, rfl, hc _ _ (hg 0 (by omega)), hc _ _ (hg 1 (by omega)), hc _ _ (hg 2 (by omega))⟩
/-- A place, twice, in its cells. -/
abbrev Six (ub : World) (gx gy i : Nat) (c q : Int) (nm : ByteArray) (w : World) : Prop := w.cell? ⟨gx, i * 3, none⟩ = some (.int .i64 c) ∧ w.cell? ⟨gx, i * 3 + 1, none⟩ = some (.int .i64 q) ∧ w.cell? ⟨gx, i * 3 + 2, none⟩ = some (.string nm) ∧ w.cell? ⟨gy, i * 3, none⟩ = some (.int .i64 c) ∧ w.cell? ⟨gy, i * 3 + 1, none⟩ = some (.int .i64 q) ∧ w.cell? ⟨gy, i * 3 + 2, none⟩ = some (.string nm) ∧ Below ub.heap.size ub w
theorem Six.later {ub w w' : World} {gx gy i : Nat} {c q : Int} {nm : ByteArray} (h : Six ub gx gy i c q nm w) (hb : Below w.heap.size w w') : Six ub gx gy i c q nm w' :=
  ⟨cellKept hb h.1, cellKept hb h.2.1, cellKept hb h.2.2.1, cellKept hb h.2.2.2.1, cellKept hb h.2.2.2.2.1, cellKept hb h.2.2.2.2.2.1, h.2.2.2.2.2.2.trans (hb.mono h.2.2.2.2.2.2.size)⟩
theorem Six.drew {ub w : World} {gx gy i : Nat} {c q : Int} {nm : ByteArray} (h : Six ub gx gy i c q nm w) : Six ub gx gy i c q nm w.drew := h.later (Below.refl _ _).drew
end Go.Proofs.YtnfhbmgkiknaaaaDoor
