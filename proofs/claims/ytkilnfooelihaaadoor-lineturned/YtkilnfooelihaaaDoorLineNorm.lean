/- Plain facts, of no program: what a search answers, where a letter goes by two searches, letters whose bytes are gone. -/
import Derived.Test.YtkilnfooelihaaaDoorLineMore
namespace Go.Proofs.YtkilnfooelihaaaDoor

/-- The number of the first that is meant, or -1. -/
def IdxIs (p : Ltr → Bool) (zs : List Ltr) (r : Int) : Prop :=
  (r = -1 ∧ ∀ l ∈ zs, p l = false) ∨ ∃ (i : Nat) (l : Ltr), r = (i : Int) ∧ zs[i]? = some l ∧ p l = true ∧ ∀ j g, j < i → zs[j]? = some g → p g = false
/-- Where an id stands, or -1. -/
def findI (b : Int) (L : List Ltr) : Int := match findL b L with
  | none => -1
  | some i => (i : Int)
theorem findI_is {b r : Int} {L : List Ltr} (h : IdxIs (fun l => decide (l.1 = b)) L r) : r = findI b L := by
  unfold findI
  rcases h with ⟨rfl, h⟩ | ⟨i, l, rfl, hl, hp, hn⟩
  · cases hf : findL b L with
    | none => rfl
    | some i =>
      obtain ⟨l, h1, h2⟩ := findL_some hf
      have := h l (List.mem_of_getElem? h1)
      simp [h2] at this
  · rw [findL_is hl (by simpa using hp) (fun j g hj hg => by simpa using hn j g hj hg)]
theorem findI_neg {b : Int} {L : List Ltr} (h : b ∉ L.map (·.1)) : findI b L = -1 := by
  unfold findI
  cases hf : findL b L with
  | none => rfl
  | some i =>
    obtain ⟨l, h1, h2⟩ := findL_some hf
    exact absurd (List.mem_map.2 ⟨l, List.mem_of_getElem? h1, h2⟩) h
theorem findI_pos {b : Int} {L : List Ltr} (h : b ∈ L.map (·.1)) : ∃ i : Nat, findI b L = (i : Int) ∧ findL b L = some i ∧ i < L.length := by
  obtain ⟨i, hi⟩ := findL_isSome h
  obtain ⟨l, h1, _⟩ := findL_some hi
  exact ⟨i, by unfold findI; rw [hi], hi, (List.getElem?_eq_some_iff.1 h1).1⟩
/-- How far the second search passes. -/
theorem skip_is {id r : Int} {L : List Ltr} (hn : id ∉ L.map (·.1)) (h : IdxIs (fun l => decide (l.1 < id)) L r) : (r = -1 ∧ skipN id L = L.length) ∨ r = (skipN id L : Int) := by
  have hne : ∀ l ∈ L, l.1 ≠ id := fun l hl e => hn (List.mem_map.2 ⟨l, hl, e⟩)
  rcases h with ⟨rfl, h⟩ | ⟨i, l, rfl, hl, hp, hq⟩
  · refine .inl ⟨rfl, skipN_is (Nat.le_refl _) (fun i l _ e => ?_) (fun l e => by simp at e)⟩
    have h1 := h l (List.mem_of_getElem? e)
    have h2 := hne l (List.mem_of_getElem? e)
    simp at h1
    omega
  · right
    rw [skipN_is (n := i) (Nat.le_of_lt (List.getElem?_eq_some_iff.1 hl).1) (fun j g hj e => ?_) (fun g e => ?_)]
    · have h1 := hq j g hj e
      have h2 := hne g (List.mem_of_getElem? e)
      simp at h1
      omega
    · rw [hl] at e
      cases e
      simp at hp
      omega

/-- A letter that is gone has lost its byte. -/
def bare (l : Ltr) : Ltr := if l.2.2 then (l.1, 0, true) else l
theorem bare_id (l : Ltr) : (bare l).1 = l.1 := by unfold bare; split <;> rfl
theorem bare_ids (L : List Ltr) : (L.map bare).map (·.1) = L.map (·.1) := by rw [List.map_map]; exact List.map_congr_left fun l _ => bare_id l
theorem bare_laid (x : Ltr) (hx : bare x = x) : ∀ L, laid x (L.map bare) = (laid x L).map bare
  | [] => by simp [laid, hx]
  | h :: t => by
    by_cases k : x.1 < h.1
    · rw [laid_yes k, List.map_cons, laid_yes (by rw [bare_id]; exact k), bare_laid x hx t]; rfl
    · rw [laid_no k, List.map_cons, laid_no (by rw [bare_id]; exact k)]; simp [hx]
theorem bare_putB (b : Int) (x : Ltr) (hx : bare x = x) : ∀ L, putB b x (L.map bare) = (putB b x L).map bare
  | [] => rfl
  | h :: t => by
    by_cases k : h.1 = b
    · rw [putB_yes k, List.map_cons, putB_yes (by rw [bare_id]; exact k), bare_laid x hx t]; rfl
    · rw [putB_no k, List.map_cons, putB_no (by rw [bare_id]; exact k), bare_putB b x hx t]; rfl
theorem bare_put (b : Int) (x : Ltr) (hx : bare x = x) (L : List Ltr) : put b x (L.map bare) = (put b x L).map bare := by
  unfold put
  split
  · exact bare_laid x hx L
  · exact bare_putB b x hx L
theorem bare_seen (L : List Ltr) : seenOf (L.map bare) = seenOf L := by
  unfold seenOf
  induction L with
  | nil => rfl
  | cons h t ih =>
    rw [List.map_cons]
    by_cases k : h.2.2 = true
    · have e : bare h = (h.1, 0, true) := by unfold bare; rw [if_pos k]
      rw [e, List.filter_cons_of_neg (by simp), List.filter_cons_of_neg (by simp [k]), ih]
    · have e : bare h = h := by unfold bare; rw [if_neg k]
      rw [e, List.filter_cons, List.filter_cons, ih]
/-- Of both a letter is taken away. -/
theorem bare_set {L : List Ltr} {i : Nat} (id : Int) (c : Nat) : (L.set i (id, c, true)).map bare = (L.map bare).set i (id, 0, true) := by
  rw [List.map_set]
  rfl
theorem set_ids {L : List Ltr} {i : Nat} {l : Ltr} (h : L[i]? = some l) (c : Nat) (g : Bool) : (L.set i (l.1, c, g)).map (·.1) = L.map (·.1) := by
  rw [List.map_set]
  apply List.ext_getElem?
  intro j
  by_cases e : j = i
  · subst e
    have hl := (List.getElem?_eq_some_iff.1 h).1
    rw [List.getElem?_set_self (by simpa using hl)]
    simp [h]
  · rw [List.getElem?_set_ne (by omega)]
theorem findL_map (b : Int) : ∀ L : List Ltr, findL b (L.map bare) = findL b L
  | [] => rfl
  | h :: t => by
    rw [List.map_cons]
    unfold findL
    rw [bare_id, findL_map b t]
theorem put_nodup {b : Int} {x : Ltr} {L : List Ltr} (h : b = 0 ∨ b ∈ L.map (·.1)) (hn : (L.map (·.1)).Nodup) (hx : x.1 ∉ L.map (·.1)) : ((put b x L).map (·.1)).Nodup := by
  rw [(put_ids h).nodup_iff]
  exact List.nodup_cons.2 ⟨hx, hn⟩
end Go.Proofs.YtkilnfooelihaaaDoor
