/- What the law LineTurned keeps: letters that are behind one another, those that were taken, two lines. -/
import Derived.Test.YtkilnfooelihaaaDoorLineLaw
import Derived.Test.YtkilnfooelihaaaDoorLineTake
import Derived.Test.YtkilnfooelihaaaDoorIntOpen
import Derived.Test.YtkilnfooelihaaaDoorSameInts
set_option linter.unusedVariables false
namespace Go.Proofs.YtkilnfooelihaaaDoor
open Go.RowKit Go.Lib Go.Sort

theorem infoBl : (Tryd.prog.info? 4).map (fun i => (i.zero, i.size, i.bytes)) = some (some (.bool false), 1, 1) := by kernel_rfl
/-- Behind which id letter j stands. -/
def ofv (zs : List Int) (j : Nat) : Int := if 0 ≤ zs[j]! ∧ zs[j]! < (j : Int) then 4 + zs[j]! else 0
/-- The same of the first i; of the others none yet. -/
def ofTo (zs : List Int) (i : Nat) : List Int := (List.range zs.length).map fun j => if j < i then ofv zs j else 0
theorem ofTo_len (zs : List Int) (i : Nat) : (ofTo zs i).length = zs.length := by simp [ofTo]
theorem ofTo_zero (zs : List Int) : ofTo zs 0 = List.replicate zs.length 0 := by
  unfold ofTo
  apply List.ext_getElem <;> simp
theorem ofTo_get (zs : List Int) (i j : Nat) (hj : j < zs.length) : (ofTo zs i)[j]! = if j < i then ofv zs j else 0 := by
  rw [getElem!_pos _ j (by rw [ofTo_len]; exact hj)]
  simp [ofTo]
theorem ofTo_set {zs : List Int} {i : Nat} (hi : i < zs.length) : (ofTo zs i).set i (ofv zs i) = ofTo zs (i + 1) := by
  apply List.ext_getElem
  · simp [ofTo]
  · intro j h1 h2
    rw [List.getElem_set]
    simp only [ofTo, List.getElem_map, List.getElem_range]
    by_cases e : i = j
    · subst e; simp
    · rw [if_neg e]
      by_cases h : j < i
      · rw [if_pos h, if_pos (by omega)]
      · rw [if_neg h, if_neg (by omega)]
theorem ofTo_skip {zs : List Int} {i : Nat} (h0 : ofv zs i = 0) : ofTo zs i = ofTo zs (i + 1) := by
  unfold ofTo
  refine List.map_congr_left fun j _ => ?_
  by_cases h : j < i
  · rw [if_pos h, if_pos (by omega)]
  · rw [if_neg h]
    by_cases e : j = i
    · subst e; rw [if_pos (by omega), h0]
    · rw [if_neg (by omega)]
/-- All of them. -/
def ofAll (zs : List Int) : List Int := ofTo zs zs.length
theorem ofAll_len (zs : List Int) : (ofAll zs).length = zs.length := ofTo_len _ _
theorem ofAll_get (zs : List Int) {k : Nat} (hk : k < zs.length) : (ofAll zs)[k]! = 0 ∨ ∃ j : Nat, j < k ∧ (ofAll zs)[k]! = (4 : Int) + (j : Int) := by
  unfold ofAll
  rw [ofTo_get zs _ k hk, if_pos hk]
  unfold ofv
  split
  · rename_i h
    exact .inr ⟨zs[k]!.toNat, by omega, by omega⟩
  · exact .inl rfl
def intsV (zs : List Int) : List Value := zs.map fun z => .int .i64 z
theorem intsV_len (zs : List Int) : (intsV zs).length = zs.length := by simp [intsV]
theorem intsV_set (zs : List Int) (i : Nat) (z : Int) : (intsV zs).set i (.int .i64 z) = intsV (zs.set i z) := by simp [intsV, List.map_set]

structure LT (w : World) (O pa pb D Bs : Nat) (of : List Int) (d : List Bool) (va : Value) (ks : List Nat) (wr : World) : Prop where
  own : wr.ownsRow O 3 1 (.slice (some ⟨O, 0, none⟩) of.length of.length) of.length (intsV of)
  done : wr.ownsRow (D) 4 1 (.slice (some ⟨D, 0, none⟩) of.length of.length) of.length (d.map Value.bool)
  la : LineAt (Bs) wr (pa) va (lineOf of ks)
  lb : ∀ base, pb < base → LineAt base wr (pb) (.slice none 0 0) []
  below : Below w.heap.size w wr
  size : Bs ≤ wr.heap.size
  low : w.heap.size ≤ O
  ord : O < pa ∧ pa < pb ∧ pb < D ∧ D < Bs
  taken : Taken of d ks
theorem LT.mark {w wr : World} {O pa pb D Bs : Nat} {of : List Int} {d : List Bool} {va : Value} {ks : List Nat} (h : LT w O pa pb D Bs of d va ks wr) (k : Nat) :
    (wr.setCell ⟨D, k, none⟩ (.bool true)).ownsRow (D) 4 1 (.slice (some ⟨D, 0, none⟩) of.length of.length) of.length ((d.set k true).map Value.bool) ∧ Keeps (fun b => b = D) wr (wr.setCell ⟨D, k, none⟩ (.bool true)) := by
  obtain ⟨h1, h2⟩ := h.done.stored k (.bool true)
  refine ⟨?_, (keeps_of_grown h2).mono (fun b _ e => by cases e; rfl)⟩
  rw [List.map_set]
  exact h1
/-- A letter goes in: it is marked, then laid. -/
theorem LT.put {w wr wm wn : World} {O pa pb D Bs k : Nat} {of : List Int} {d : List Bool} {va : Value} {ks : List Nat} (h : LT w O pa pb D Bs of d va ks wr)
    (hm : wm.ownsRow (D) 4 1 (.slice (some ⟨D, 0, none⟩) of.length of.length) of.length ((d.set k true).map Value.bool) ∧ Keeps (fun b => b = D) wr wm)
    (hP : PutOk (Bs) wm (pa) va (put of[k]! ((4 : Int) + (k : Int), chr k, false) (lineOf of ks)) wn) (hd : d[k]? = some false) (hb : of[k]! = 0 ∨ ∃ j : Nat, of[k]! = (4 : Int) + (j : Int) ∧ d[j]? = some true) :
    ∃ va', LT w O pa pb D Bs of (d.set k true) va' (ks ++ [k]) wn := by
  obtain ⟨hm1, hm2⟩ := hm
  have hs := h.size
  have hlow := h.low
  have hord := h.ord
  have hTm : LineAt (Bs) wm (pa) va (lineOf of ks) := h.la.same (hm2.block _ (by omega) (by omega)) (fun g hg => hm2.block g (h.la.ne g hg).2.1 (by have := (h.la.ne g hg).2.2; omega))
  have hBm : Below w.heap.size w wm := h.below.trans (hm2.below (by omega) (fun b e => by omega))
  obtain ⟨v', h1, h2, h3⟩ := hP.step hTm hBm (by omega)
  have hsm := hm2.size
  have hsn := h3.size
  refine ⟨v', ownsSame h.own (fun g hg => ?_), ownsSame hm1 (fun g hg => ?_), by rw [lineOf_next]; exact h1, fun base hbs => ?_, h2, by omega, hlow, hord, h.taken.next hd hb⟩
  · have e : g = O := by simpa [Value.ownBlock] using hg.symm
    subst e
    rw [h3.block _ (by omega) (by omega), hm2.block _ (by omega) (by omega)]
  · have e : g = D := by simpa [Value.ownBlock] using hg.symm
    subst e
    exact h3.block _ (by omega) (by omega)
  · refine (h.lb base hbs).same ?_ (fun g hg => by cases hg)
    rw [h3.block _ (by omega) (by omega), hm2.block _ (by omega) (by omega)]

theorem lt_start {w wr wa wb wd : World} {O pa : Nat} {of : List Int} (h0 : wr.ownsRow O 3 1 (.slice (some ⟨O, 0, none⟩) of.length of.length) of.length (intsV of)) (hB : Below w.heap.size w wr) (hlow : w.heap.size ≤ O) (hpa : wr.heap.size = pa)
    (hsa : wa.heap.size = pa + 1) (Ta : ∀ base, pa < base → LineAt base wa pa (.slice none 0 0) []) (Ba : Below pa wr wa) (hsb : wb.heap.size = pa + 1 + 1) (Tb : ∀ base, pa + 1 < base → LineAt base wb (pa + 1) (.slice none 0 0) []) (Bb : Below (pa + 1) wa wb)
    (hd : wd.ownsRow (pa + 2) 4 1 (.slice (some ⟨pa + 2, 0, none⟩) of.length of.length) of.length (List.replicate of.length (Value.bool false))) (hg : wb.grownBy wd none) : LT w O pa (pa + 1) (pa + 2) (pa + 3) of (List.replicate of.length false) (.slice none 0 0) [] wd := by
  have hO := (h0.lt O rfl).2
  have hkd : Keeps (fun _ => False) wb wd := (keeps_of_grown hg).mono (fun b _ e => by cases e)
  have hk : ∀ b, b < pa → wd.heap[b]? = wr.heap[b]? := fun b hb => by
    rw [hkd.block b (by omega) (fun e => e), Bb.block b (by omega), Ba.block b hb]
  have hs : pa + 2 < wd.heap.size := (hd.lt (pa + 2) rfl).2
  refine ⟨ownsSame h0 (fun g hg' => ?_), by rw [List.map_replicate]; exact hd, ?_, fun base hb => ?_, ?_, by omega, hlow, ⟨by omega, by omega, by omega, by omega⟩, taken_none of⟩
  · have e : g = O := by simpa [Value.ownBlock] using hg'.symm
    subst e
    exact hk g (by omega)
  · exact (Ta (pa + 3) (by omega)).same (by rw [hkd.block pa (by omega) (fun e => e), Bb.block pa (by omega)]) (fun g hg => by cases hg)
  · exact (Tb base hb).same (hkd.block _ (by omega) (fun e => e)) (fun g hg => by cases hg)
  · refine hB.trans (Below.trans (b := wa) (Ba.mono (by omega)) (Below.trans (b := wb) (Bb.mono (by omega)) (hkd.below (by omega) (fun b e => e.elim))))

/-- The second line is made. -/
structure LU (w : World) (O pa pb Bs Bt : Nat) (of : List Int) (va vb : Value) (ks js : List Nat) (wr : World) : Prop where
  own : wr.ownsRow O 3 1 (.slice (some ⟨O, 0, none⟩) of.length of.length) of.length (intsV of)
  la : LineAt (Bs) wr (pa) va (lineOf of ks)
  lowA : ∀ g, va.ownBlock = some g → g < Bt
  lb : LineAt Bt wr (pb) vb (lineOf of js)
  below : Below w.heap.size w wr
  size : Bt ≤ wr.heap.size
  bt : Bs ≤ Bt
  low : w.heap.size ≤ O
  ord : O < pa ∧ pa < pb ∧ pb < Bs
theorem LT.next {w wr : World} {O pa pb D Bs : Nat} {of : List Int} {d : List Bool} {va : Value} {ks : List Nat} (h : LT w O pa pb D Bs of d va ks wr) : LU w O pa pb Bs wr.heap.size of va (.slice none 0 0) ks [] wr :=
  ⟨h.own, h.la, fun g hg => (h.la.ne g hg).2.1, h.lb _ (by have := h.size; have := h.ord; omega), h.below, Nat.le_refl _, h.size, h.low, ⟨h.ord.1, h.ord.2.1, by have := h.ord; omega⟩⟩
theorem LU.put {w wr wn : World} {O pa pb Bs Bt k : Nat} {of : List Int} {va vb : Value} {ks js : List Nat} (h : LU w O pa pb Bs Bt of va vb ks js wr)
    (hP : PutOk Bt wr (pb) vb (put of[k]! ((4 : Int) + (k : Int), chr k, false) (lineOf of js)) wn) : ∃ vb', LU w O pa pb Bs Bt of va vb' ks (js ++ [k]) wn := by
  have hs := h.size
  have hbt := h.bt
  have hlow := h.low
  have hord := h.ord
  obtain ⟨v', h1, h2, h3⟩ := hP.step h.lb h.below (by omega)
  have hsn := h3.size
  refine ⟨v', ownsSame h.own (fun g hg => ?_), h.la.same (h3.block _ (by omega) (by omega)) (fun g hg => h3.block g (h.la.ne g hg).2.1 (by have := h.lowA g hg; have := (h.la.ne g hg).2.2; omega)), h.lowA, by rw [lineOf_next]; exact h1, h2, by omega, hbt, hlow, hord⟩
  have e : g = O := by simpa [Value.ownBlock] using hg.symm
  subst e
  exact h3.block _ (by omega) (by omega)
theorem LU.later {w wr wn : World} {O pa pb Bs Bt : Nat} {of : List Int} {va vb : Value} {ks js : List Nat} (h : LU w O pa pb Bs Bt of va vb ks js wr) (hb : Below wr.heap.size wr wn) : LU w O pa pb Bs Bt of va vb ks js wn :=
  ⟨ownsSame h.own (fun g hg => hb.block g (h.own.lt g hg).2), h.la.later hb, h.lowA, h.lb.later hb, h.below.trans (hb.mono h.below.size), Nat.le_trans h.size hb.size, h.bt, h.low, h.ord⟩
end Go.Proofs.YtkilnfooelihaaaDoor
