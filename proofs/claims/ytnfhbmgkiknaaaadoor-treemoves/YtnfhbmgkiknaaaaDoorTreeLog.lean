/- Plain facts, of no program: a log of moves, by stamp, each with the place where its node lay ahead of it; how a stamp is found in it, a move laid in, later ones undone and done anew. -/
import Derived.Test.YtnfhbmgkiknaaaaDoorTreePure
namespace Go.Proofs.YtnfhbmgkiknaaaaDoor
open scoped Classical

abbrev Ent := Mov × Plc
/-- The log of these moves; of the first i it is known where their nodes lay. -/
structure LogTo (ms : List Mov) (i : Nat) (L : List Ent) : Prop where
  movs : L.map (·.1) = ms
  from_ : ∀ j x, j < i → L[j]? = some x → x.2 = fromAt ms j
theorem LogTo.len {ms : List Mov} {i : Nat} {L : List Ent} (h : LogTo ms i L) : L.length = ms.length := by rw [← h.movs]; simp
theorem LogTo.mov {ms : List Mov} {i j : Nat} {L : List Ent} (h : LogTo ms i L) {x : Ent} (hx : L[j]? = some x) : ms[j]? = some x.1 := by rw [← h.movs]; simp [hx]
theorem LogTo.mono {ms : List Mov} {i j : Nat} {L : List Ent} (h : LogTo ms i L) (hj : j ≤ i) : LogTo ms j L := ⟨h.movs, fun k x hk hx => h.from_ k x (by omega) hx⟩
theorem logTo_nil : LogTo [] 0 [] := ⟨rfl, fun _ _ h => by omega⟩

theorem fromAt_some {ms : List Mov} {i : Nat} {m : Mov} (h : ms[i]? = some m) : fromAt ms i = (madeBy (ms.take i) m.2.1).getD zeroP := by unfold fromAt; rw [h]
theorem fromAt_congr {ms ms' : List Mov} {i : Nat} (h : ms.take (i + 1) = ms'.take (i + 1)) : fromAt ms i = fromAt ms' i := by
  have h1 : ms[i]? = ms'[i]? := by
    have e1 : (ms.take (i + 1))[i]? = ms[i]? := by rw [List.getElem?_take, if_pos (by omega)]
    have e2 : (ms'.take (i + 1))[i]? = ms'[i]? := by rw [List.getElem?_take, if_pos (by omega)]
    rw [← e1, ← e2, h]
  have h2 : ms.take i = ms'.take i := by
    have e1 : (ms.take (i + 1)).take i = ms.take i := by rw [List.take_take]; congr 1; omega
    have e2 : (ms'.take (i + 1)).take i = ms'.take i := by rw [List.take_take]; congr 1; omega
    rw [← e1, ← e2, h]
  unfold fromAt
  rw [h1, h2]

def layIn (L : List Ent) (i : Nat) (x : Ent) : List Ent := L.take i ++ x :: L.drop i
theorem layIn_to {ms : List Mov} {L : List Ent} {i : Nat} {m : Mov} (h : LogTo ms ms.length L) (hi : i ≤ ms.length) (fr : Plc) : LogTo (insAt ms i m) i (layIn L i (m, fr)) := by
  refine ⟨?_, fun j x hj hx => ?_⟩
  · unfold layIn insAt
    simp [← h.movs, List.map_take, List.map_drop]
  · have hx' : L[j]? = some x := by
      unfold layIn at hx
      rwa [List.getElem?_append_left (by simp; have := h.len; omega), List.getElem?_take, if_pos hj] at hx
    rw [h.from_ j x (by omega) hx']
    refine fromAt_congr ?_
    unfold insAt
    rw [List.take_append_of_le_length (by simp; omega), List.take_take]
    congr 1
    omega

theorem set_to {ms : List Mov} {L : List Ent} {i : Nat} {x : Ent} (h : LogTo ms i L) (hx : L[i]? = some x) : LogTo ms (i + 1) (L.set i (x.1, fromAt ms i)) := by
  refine ⟨?_, fun j y hj hy => ?_⟩
  · rw [← h.movs, List.map_set]
    apply List.ext_getElem?
    intro j
    by_cases e : j = i
    · subst e
      have hl := (List.getElem?_eq_some_iff.1 hx).1
      rw [List.getElem?_set_self (by simpa using hl)]
      simp [hx]
    · rw [List.getElem?_set_ne (by omega)]
  · by_cases e : j = i
    · subst e
      rw [List.getElem?_set_self (List.getElem?_eq_some_iff.1 hx).1] at hy
      cases hy
      rfl
    · rw [List.getElem?_set_ne (by omega)] at hy
      exact h.from_ j y (by omega) hy

/-- Where a stamp is, or would be. -/
def Found (ms : List Mov) (s : Int × Int) (i : Nat) (b : Bool) : Prop :=
  (b = true ∧ ∃ m, ms[i]? = some m ∧ m.1 = s) ∨ (b = false ∧ i ≤ ms.length ∧ (∀ x ∈ ms.take i, SLt x.1 s) ∧ ∀ x ∈ ms.drop i, SLt s x.1)
/-- All from i on are later. -/
def Later (ms : List Mov) (s : Int × Int) (i : Nat) : Prop := ∀ x ∈ ms.drop i, SLt s x.1
theorem later_end (ms : List Mov) (s : Int × Int) : Later ms s ms.length := fun x hx => by simp at hx
theorem found_same {ms : List Mov} {s : Int × Int} {i : Nat} {m : Mov} (h : ms[i]? = some m) (e : m.1 = s) : Found ms s i true := .inl ⟨rfl, m, h, e⟩
theorem found_less {ms : List Mov} {s : Int × Int} {i : Nat} {m : Mov} (hb : ByStamp ms) (hl : Later ms s (i + 1)) (h : ms[i]? = some m) (e : SLt m.1 s) : Found ms s (i + 1) false := by
  have hi := (List.getElem?_eq_some_iff.1 h).1
  refine .inr ⟨rfl, by omega, fun x hx => ?_, hl⟩
  rw [List.take_add_one, h] at hx
  rcases List.mem_append.1 hx with hx | hx
  · refine slt_trans ?_ e
    have hp : (ms.take i ++ ms.drop i).Pairwise (fun a b => SLt a.1 b.1) := by rw [List.take_append_drop]; exact hb
    refine (List.pairwise_append.1 hp).2.2 x hx m ?_
    rw [List.mem_iff_getElem?]
    exact ⟨0, by rw [List.getElem?_drop, Nat.add_zero, h]⟩
  · simp at hx
    rw [hx]; exact e
theorem later_step {ms : List Mov} {s : Int × Int} {i : Nat} {m : Mov} (hl : Later ms s (i + 1)) (h : ms[i]? = some m) (ne : m.1 ≠ s) (nl : ¬ SLt m.1 s) : Later ms s i := by
  intro x hx
  have hi := (List.getElem?_eq_some_iff.1 h)
  rw [List.drop_eq_getElem_cons hi.1] at hx
  rcases List.mem_cons.1 hx with rfl | hx
  · rw [hi.2]; exact slt_total ne nl
  · exact hl x hx
theorem found_first {ms : List Mov} {s : Int × Int} (hl : Later ms s 0) : Found ms s 0 false := .inr ⟨rfl, Nat.zero_le _, fun x hx => by simp at hx, hl⟩
theorem found_new {ms : List Mov} {s : Int × Int} {i : Nat} {b : Bool} (h : Found ms s i b) (hn : ∀ m ∈ ms, m.1 ≠ s) : b = false ∧ i ≤ ms.length ∧ (∀ x ∈ ms.take i, SLt x.1 s) ∧ ∀ x ∈ ms.drop i, SLt s x.1 := by
  rcases h with ⟨_, m, hm, e⟩ | h
  · exact absurd e (hn m (List.mem_of_getElem? hm))
  · exact h
theorem found_old {ms : List Mov} {s : Int × Int} {i : Nat} {b : Bool} (h : Found ms s i b) (ho : ∃ m ∈ ms, m.1 = s) : b = true := by
  rcases h with ⟨h, _⟩ | ⟨_, _, h1, h2⟩
  · exact h
  · obtain ⟨m, hm, e⟩ := ho
    rw [← List.take_append_drop i ms] at hm
    rcases List.mem_append.1 hm with hm | hm
    · exact absurd (e ▸ h1 m hm) slt_irrefl
    · exact absurd (e ▸ h2 m hm) slt_irrefl
end Go.Proofs.YtnfhbmgkiknaaaaDoor
