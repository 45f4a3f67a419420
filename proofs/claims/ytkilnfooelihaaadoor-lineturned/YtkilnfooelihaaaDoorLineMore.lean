/- Plain facts, of no program: where a letter is laid, what a line then holds, and the order of what was there. -/
import Derived.Test.YtkilnfooelihaaaDoorLinePure
namespace Go.Proofs.YtkilnfooelihaaaDoor

/-- How many at the front are greater. -/
def skipN (x : Int) : List Ltr → Nat
  | [] => 0
  | h :: t => if x < h.1 then skipN x t + 1 else 0
/-- The first place of an id. -/
def findL (b : Int) : List Ltr → Option Nat
  | [] => none
  | h :: t => if h.1 = b then some 0 else (findL b t).map (· + 1)
theorem skipN_le (x : Int) : ∀ L, skipN x L ≤ L.length
  | [] => Nat.le_refl _
  | h :: t => by
    unfold skipN
    split
    · have := skipN_le x t; simp; omega
    · omega
theorem skipN_lt (x : Int) : ∀ (L : List Ltr) (i : Nat) (l : Ltr), i < skipN x L → L[i]? = some l → x < l.1
  | [], i, l, h, _ => by simp [skipN] at h
  | g :: t, i, l, h, e => by
    unfold skipN at h
    split at h
    · cases i with
      | zero => cases e; assumption
      | succ i => exact skipN_lt x t i l (by omega) e
    · omega
theorem skipN_at (x : Int) : ∀ (L : List Ltr) (l : Ltr), L[skipN x L]? = some l → ¬ x < l.1
  | [], l, e => by simp at e
  | g :: t, l, e => by
    unfold skipN at e
    split at e
    · exact skipN_at x t l (by simpa using e)
    · cases e; assumption
/-- The number of those that are skipped is known by what stands there. -/
theorem skipN_is {x : Int} : ∀ {L : List Ltr} {n : Nat}, n ≤ L.length → (∀ i l, i < n → L[i]? = some l → x < l.1) → (∀ l, L[n]? = some l → ¬ x < l.1) → skipN x L = n
  | [], n, hn, _, _ => by simp at hn; simp [skipN, hn]
  | g :: t, 0, _, _, h2 => by
    unfold skipN
    rw [if_neg (h2 g rfl)]
  | g :: t, n + 1, hn, h1, h2 => by
    unfold skipN
    rw [if_pos (h1 0 g (by omega) rfl), skipN_is (n := n) (by simpa using hn) (fun i l hi e => h1 (i + 1) l (by omega) (by simpa using e)) (fun l e => h2 l (by simpa using e))]
theorem laid_at (x : Ltr) : ∀ L, laid x L = L.take (skipN x.1 L) ++ x :: L.drop (skipN x.1 L)
  | [] => rfl
  | h :: t => by
    unfold skipN
    by_cases k : x.1 < h.1
    · rw [laid_yes k, if_pos k, laid_at x t]; rfl
    · rw [laid_no k, if_neg k]; rfl
theorem findL_some {b : Int} : ∀ {L : List Ltr} {i : Nat}, findL b L = some i → ∃ l, L[i]? = some l ∧ l.1 = b
  | [], i, h => by simp [findL] at h
  | g :: t, i, h => by
    unfold findL at h
    split at h
    · cases h; exact ⟨g, rfl, by assumption⟩
    · cases hf : findL b t with
      | none => rw [hf] at h; cases h
      | some j =>
        rw [hf] at h
        cases h
        obtain ⟨l, h1, h2⟩ := findL_some hf
        exact ⟨l, by simpa using h1, h2⟩
theorem findL_none {b : Int} : ∀ {L : List Ltr}, findL b L = none → ∀ l ∈ L, l.1 ≠ b
  | [], _, l, hl => by simp at hl
  | g :: t, h, l, hl => by
    unfold findL at h
    split at h
    · cases h
    · have hf : findL b t = none := by simpa using h
      rcases List.mem_cons.1 hl with rfl | hl
      · assumption
      · exact findL_none hf l hl
theorem findL_isSome {b : Int} {L : List Ltr} (h : b ∈ L.map (·.1)) : ∃ i, findL b L = some i := by
  cases hf : findL b L with
  | some i => exact ⟨i, rfl⟩
  | none =>
    obtain ⟨l, hl, e⟩ := List.mem_map.1 h
    exact absurd e (findL_none hf l hl)
/-- The place is known by the first that has the id. -/
theorem findL_is {b : Int} : ∀ {L : List Ltr} {i : Nat} {l : Ltr}, L[i]? = some l → l.1 = b → (∀ j g, j < i → L[j]? = some g → g.1 ≠ b) → findL b L = some i
  | [], i, l, e, _, _ => by simp at e
  | g :: t, 0, l, e, h, _ => by
    cases e
    unfold findL
    rw [if_pos h]
  | g :: t, i + 1, l, e, h, hn => by
    unfold findL
    rw [if_neg (hn 0 g (by omega) rfl), findL_is (L := t) (i := i) (by simpa using e) h (fun j g' hj e' => hn (j + 1) g' (by omega) (by simpa using e'))]
    rfl
theorem putB_at (b : Int) (x : Ltr) : ∀ (L : List Ltr) (i : Nat), findL b L = some i → putB b x L = L.take (i + 1 + skipN x.1 (L.drop (i + 1))) ++ x :: L.drop (i + 1 + skipN x.1 (L.drop (i + 1)))
  | [], i, h => by simp [findL] at h
  | g :: t, i, h => by
    unfold findL at h
    by_cases k : g.1 = b
    · rw [if_pos k] at h
      cases h
      have e : 0 + 1 + skipN x.1 ((g :: t).drop (0 + 1)) = skipN x.1 t + 1 := by show 0 + 1 + skipN x.1 t = _; omega
      rw [putB_yes k, laid_at x t, e]
      rfl
    · rw [if_neg k] at h
      cases hf : findL b t with
      | none => rw [hf] at h; cases h
      | some j =>
        rw [hf] at h
        cases h
        have e : j + 1 + 1 + skipN x.1 ((g :: t).drop (j + 1 + 1)) = j + 1 + skipN x.1 (t.drop (j + 1)) + 1 := by show j + 1 + 1 + skipN x.1 (t.drop (j + 1)) = _; omega
        rw [putB_no k, putB_at b x t j hf, e]
        rfl
/-- Where a letter is laid. -/
def placeL (b id : Int) (L : List Ltr) : Nat := if b = 0 then skipN id L else match findL b L with
  | none => 0
  | some i => i + 1 + skipN id (L.drop (i + 1))
theorem put_at {b : Int} {x : Ltr} {L : List Ltr} (h : b = 0 ∨ b ∈ L.map (·.1)) : placeL b x.1 L ≤ L.length ∧ put b x L = L.take (placeL b x.1 L) ++ x :: L.drop (placeL b x.1 L) := by
  unfold put placeL
  by_cases h0 : b = 0
  · rw [if_pos h0, if_pos h0]
    exact ⟨skipN_le _ _, laid_at x L⟩
  · rw [if_neg h0, if_neg h0]
    obtain ⟨i, hi⟩ := findL_isSome (h.resolve_left h0)
    rw [hi]
    obtain ⟨l, hl, _⟩ := findL_some hi
    have h1 := (List.getElem?_eq_some_iff.1 hl).1
    have h2 := skipN_le x.1 (L.drop (i + 1))
    rw [List.length_drop] at h2
    exact ⟨by dsimp only; omega, putB_at b x L i hi⟩
theorem put_perm {b : Int} {x : Ltr} {L : List Ltr} (h : b = 0 ∨ b ∈ L.map (·.1)) : (put b x L).Perm (x :: L) := by
  rw [(put_at h).2]
  refine List.perm_middle.trans ?_
  rw [List.take_append_drop]
theorem put_len {b : Int} {x : Ltr} {L : List Ltr} (h : b = 0 ∨ b ∈ L.map (·.1)) : (put b x L).length = L.length + 1 := by rw [(put_perm h).length_eq]; rfl
theorem put_sub {b : Int} {x : Ltr} {L : List Ltr} (h : b = 0 ∨ b ∈ L.map (·.1)) : L.Sublist (put b x L) := by
  rw [(put_at h).2]
  conv => lhs; rw [← List.take_append_drop (placeL b x.1 L) L]
  exact List.Sublist.append_left (List.sublist_cons_self _ _) _
theorem put_ids {b : Int} {x : Ltr} {L : List Ltr} (h : b = 0 ∨ b ∈ L.map (·.1)) : ((put b x L).map (·.1)).Perm (x.1 :: L.map (·.1)) := (put_perm h).map _

/-- A letter is seen no more. -/
def gone (id : Int) (L : List Ltr) : List Ltr := L.map fun l => if l.1 = id then (l.1, l.2.1, true) else l
theorem gone_ids (id : Int) (L : List Ltr) : (gone id L).map (·.1) = L.map (·.1) := by
  unfold gone
  rw [List.map_map]
  refine List.map_congr_left fun l _ => ?_
  dsimp only [Function.comp]
  split <;> rfl
theorem gone_none {id : Int} {L : List Ltr} (h : id ∉ L.map (·.1)) : gone id L = L := by
  unfold gone
  conv => rhs; rw [← List.map_id L]
  refine List.map_congr_left fun l hl => ?_
  rw [if_neg (fun e => h (List.mem_map.2 ⟨l, hl, e⟩))]; rfl
/-- With no id twice it is one letter that is turned. -/
theorem gone_set {id : Int} : ∀ {L : List Ltr} {i : Nat} {c : Nat} {g : Bool}, (L.map (·.1)).Nodup → L[i]? = some (id, c, g) → gone id L = L.set i (id, c, true)
  | [], i, c, g, _, e => by simp at e
  | l :: t, 0, c, g, hn, e => by
    cases e
    have h1 : id ∉ t.map (·.1) := (List.nodup_cons.1 hn).1
    show (if (id, c, g).1 = id then _ else _) :: gone id t = _
    rw [if_pos rfl, gone_none h1]; rfl
  | l :: t, i + 1, c, g, hn, e => by
    have h1 : l.1 ∉ t.map (·.1) := (List.nodup_cons.1 hn).1
    have h2 : t[i]? = some (id, c, g) := by simpa using e
    have h3 : l.1 ≠ id := fun e' => h1 (by rw [e']; exact List.mem_map.2 ⟨_, List.mem_of_getElem? h2, rfl⟩)
    show (if l.1 = id then _ else _) :: gone id t = _
    rw [if_neg h3, gone_set (List.nodup_cons.1 hn).2 h2]; rfl

/-- Letters that are seen. -/
def seenOf (L : List Ltr) : List Ltr := L.filter fun l => !l.2.2
theorem seenOf_put {b : Int} {id : Int} {c : Nat} {L : List Ltr} (h : b = 0 ∨ b ∈ L.map (·.1)) : (seenOf (put b (id, c, false) L)).length = (seenOf L).length + 1 := by
  unfold seenOf
  rw [((put_perm (x := (id, c, false)) h).filter _).length_eq, List.filter_cons_of_pos (by rfl)]
  rfl
theorem seenOf_set {L : List Ltr} {i : Nat} {l : Ltr} (e : L[i]? = some l) (id : Int) (c : Nat) : (seenOf (L.set i (id, c, true))).length ≤ (seenOf L).length ∧ (seenOf L).length ≤ (seenOf (L.set i (id, c, true))).length + 1 := by
  obtain ⟨h1, h2⟩ := List.getElem?_eq_some_iff.1 e
  have e1 : L = L.take i ++ l :: L.drop (i + 1) := by
    conv => lhs; rw [← List.take_append_drop i L, List.drop_eq_getElem_cons h1, h2]
  have e2 : L.set i (id, c, true) = L.take i ++ (id, c, true) :: L.drop (i + 1) := by
    rw [List.set_eq_take_append_cons_drop, if_pos h1]
  unfold seenOf
  rw [e2]
  conv => lhs; rhs; rw [e1]
  conv => rhs; lhs; rw [e1]
  rw [List.filter_append, List.filter_append, List.length_append, List.length_append, List.filter_cons_of_neg (by simp)]
  rw [List.filter_cons]
  split
  · simp only [List.length_cons]; omega
  · omega

/-- How many of the second are met in the first, one behind the other. -/
def met : List Int → List Int → Nat
  | [], _ => 0
  | _ :: _, [] => 0
  | n :: ns, w :: ws => if n = w then met ns ws + 1 else met ns (w :: ws)
theorem met_all : ∀ {now was : List Int}, was.Sublist now → met now was = was.length
  | [], was, h => by rw [List.sublist_nil.1 h]; rfl
  | n :: ns, [], _ => rfl
  | n :: ns, w :: ws, h => by
    unfold met
    split
    · rename_i e
      subst e
      rw [met_all (List.cons_sublist_cons.1 h)]; rfl
    · rename_i e
      rw [met_all (now := ns) (was := w :: ws) (by
        cases h with
        | cons _ h => exact h
        | cons_cons _ h => exact absurd rfl e)]
theorem met_end (now : List Int) : met now [] = 0 := by cases now <;> rfl
theorem met_step {now was : List Int} {j k : Nat} {n w : Int} (h1 : now[j]? = some n) (h2 : was[k]? = some w) : met (now.drop j) (was.drop k) = if n = w then met (now.drop (j + 1)) (was.drop (k + 1)) + 1 else met (now.drop (j + 1)) (was.drop k) := by
  obtain ⟨a1, a2⟩ := List.getElem?_eq_some_iff.1 h1
  obtain ⟨b1, b2⟩ := List.getElem?_eq_some_iff.1 h2
  rw [List.drop_eq_getElem_cons a1, List.drop_eq_getElem_cons b1, a2, b2]
  show (if n = w then _ else _) = _
  split
  · rfl
  · rfl
end Go.Proofs.YtkilnfooelihaaaDoor
