/- Plain facts, of no program: letters that are taken one by one, each behind the one it stands behind, till all are taken. -/
import Derived.Test.YtkilnfooelihaaaDoorLineNorm
namespace Go.Proofs.YtkilnfooelihaaaDoor

/-- The byte of a letter's number. -/
def chr (k : Nat) : Nat := 97 + k % 26
/-- The letter of a number, and the id that it stands behind. -/
def ltrOf (of : List Int) (k : Nat) : Int × Ltr := (of[k]!, ((4 : Int) + (k : Int), chr k, false))
/-- Each stands behind one of those ahead of it, or at the beginning. -/
def Behind (of : List Int) : Prop := ∀ k, k < of.length → of[k]! = 0 ∨ ∃ j : Nat, j < k ∧ of[k]! = (4 : Int) + (j : Int)
/-- What was taken, by numbers, in the order in which it came: no one twice, each behind the one it stands behind. -/
structure Taken (of : List Int) (d : List Bool) (ks : List Nat) : Prop where
  dlen : d.length = of.length
  mem : ∀ k, k ∈ ks ↔ d[k]? = some true
  nodup : ks.Nodup
  first : ∀ (u : List Nat) (k : Nat) (v : List Nat), ks = u ++ k :: v → of[k]! = 0 ∨ ∃ j ∈ u, of[k]! = (4 : Int) + (j : Int)
theorem taken_none (of : List Int) : Taken of (List.replicate of.length false) [] := by
  refine ⟨by simp, fun k => ⟨fun h => by simp at h, fun h => ?_⟩, List.nodup_nil, fun u k v h => by simp at h⟩
  rw [List.getElem?_replicate] at h
  split at h <;> simp at h
theorem Taken.lt {of : List Int} {d : List Bool} {ks : List Nat} (h : Taken of d ks) {k : Nat} (hk : k ∈ ks) : k < of.length := by
  have := (List.getElem?_eq_some_iff.1 ((h.mem k).1 hk)).1
  rw [h.dlen] at this
  exact this
theorem Taken.len {of : List Int} {d : List Bool} {ks : List Nat} (h : Taken of d ks) : ks.length ≤ of.length := by
  have hs : ks ⊆ List.range of.length := fun k hk => List.mem_range.2 (h.lt hk)
  have key : ∀ (a b : List Nat), a.Nodup → a ⊆ b → a.length ≤ b.length := by
    intro a
    induction a with
    | nil => intro b _ _; simp
    | cons x t ih =>
      intro b hn hb
      have hx : x ∈ b := hb (by simp)
      have h1 := ih (b.erase x) (List.nodup_cons.1 hn).2 (fun y hy => (List.mem_erase_of_ne (fun e : y = x => (List.nodup_cons.1 hn).1 (by rw [← e]; exact hy))).2 (hb (by simp [hy])))
      rw [List.length_erase_of_mem hx] at h1
      have := List.length_pos_of_mem hx
      simp only [List.length_cons]
      omega
  have := key _ _ h.nodup hs
  simpa using this
theorem Taken.next {of : List Int} {d : List Bool} {ks : List Nat} (h : Taken of d ks) {k : Nat} (hd : d[k]? = some false) (hb : of[k]! = 0 ∨ ∃ j : Nat, of[k]! = (4 : Int) + (j : Int) ∧ d[j]? = some true) : Taken of (d.set k true) (ks ++ [k]) := by
  have hkl := (List.getElem?_eq_some_iff.1 hd).1
  have hkn : k ∉ ks := fun hk => by rw [(h.mem k).1 hk] at hd; cases hd
  refine ⟨by rw [List.length_set]; exact h.dlen, fun j => ?_, ?_, fun u j v e => ?_⟩
  · rw [List.mem_append, List.mem_singleton, List.getElem?_set]
    by_cases e : k = j
    · subst e
      rw [if_pos rfl, if_pos hkl]
      exact ⟨fun _ => rfl, fun _ => .inr rfl⟩
    · rw [if_neg e, ← h.mem j]
      exact ⟨fun h' => h'.resolve_right (fun e' => e e'.symm), .inl⟩
  · rw [List.nodup_append]
    refine ⟨h.nodup, by simp, fun a ha b hb e => ?_⟩
    rw [List.mem_singleton] at hb
    subst hb
    exact hkn (e ▸ ha)
  · rcases List.append_eq_append_iff.1 e with ⟨c, rfl, hc⟩ | ⟨c, rfl, hc⟩
    · cases c with
      | nil =>
        simp only [List.nil_append] at hc
        injection hc with h1 h2
        subst h1
        rcases hb with h0 | ⟨i, h1, h2⟩
        · exact .inl h0
        · exact .inr ⟨i, by rw [List.append_nil]; exact (h.mem i).2 h2, h1⟩
      | cons y c =>
        injection hc with h1 h2
        have := congrArg List.length h2
        simp at this
    · cases c with
      | nil =>
        simp only [List.nil_append] at hc
        injection hc with h1 h2
        subst h1
        rcases hb with h0 | ⟨i, h1, h2⟩
        · exact .inl h0
        · exact .inr ⟨i, (by have := (h.mem i).2 h2; simpa using this), h1⟩
      | cons y c =>
        injection hc with h1 h2
        subst h1
        exact h.first u j c rfl

/-- The line that they make. -/
def lineOf (of : List Int) (ks : List Nat) : List Ltr := putAll (ks.map (ltrOf of)) []
theorem lineOf_next (of : List Int) (ks : List Nat) (k : Nat) : lineOf of (ks ++ [k]) = put of[k]! ((4 : Int) + (k : Int), chr k, false) (lineOf of ks) := by
  unfold lineOf
  rw [List.map_append, putAll_app]
  rfl
theorem first_of {of : List Int} {d : List Bool} {ks : List Nat} (h : Taken of d ks) : First (ks.map (ltrOf of)) := by
  refine ⟨?_, fun m hm => ?_, fun u m v e => ?_⟩
  · rw [List.map_map]
    have hinj : ∀ a ∈ ks, ∀ b ∈ ks, a ≠ b → ((fun x : Int × Ltr => x.2.1) ∘ ltrOf of) a ≠ ((fun x : Int × Ltr => x.2.1) ∘ ltrOf of) b := fun a _ b _ hab e => hab (by
      have e' : (4 : Int) + (a : Int) = 4 + (b : Int) := e
      omega)
    exact List.pairwise_map.2 (h.nodup.imp_of_mem (fun ha hb hab => hinj _ ha _ hb hab))
  · obtain ⟨k, _, rfl⟩ := List.mem_map.1 hm
    show (4 : Int) + (k : Int) ≠ 0
    omega
  · obtain ⟨ku, kr, rfl, rfl, hr⟩ := List.map_eq_append_iff.1 e
    obtain ⟨k, kv, rfl, rfl, rfl⟩ := List.map_eq_cons_iff.1 hr
    rcases h.first ku k kv rfl with h0 | ⟨j, hj, e'⟩
    · exact .inl h0
    · exact .inr ⟨ltrOf of j, List.mem_map.2 ⟨j, hj, rfl⟩, e'.symm⟩
/-- What is there, by ids. -/
theorem lineOf_ids {of : List Int} : ∀ {ks : List Nat} {d : List Bool}, Taken of d ks → ((lineOf of ks).map (·.1)).Perm (ks.map fun k : Nat => (4 : Int) + (k : Int)) := by
  intro ks
  have key : ∀ (n : Nat) (ks : List Nat), ks.length = n → (∀ (u : List Nat) (k : Nat) (v : List Nat), ks = u ++ k :: v → of[k]! = 0 ∨ ∃ j ∈ u, of[k]! = (4 : Int) + (j : Int)) → ((lineOf of ks).map (·.1)).Perm (ks.map fun k : Nat => (4 : Int) + (k : Int)) := by
    intro n
    induction n with
    | zero =>
      intro ks hn _
      obtain rfl := List.length_eq_zero_iff.1 hn
      exact List.Perm.refl _
    | succ n ih =>
      intro ks hn hf
      rcases snoc_cases ks with rfl | ⟨s, m, rfl⟩
      · simp at hn
      · have hs := ih s (by simpa using hn) (fun u k v e => hf u k (v ++ [m]) (by rw [e]; simp))
        rw [lineOf_next]
        have hb : of[m]! = 0 ∨ of[m]! ∈ (lineOf of s).map (·.1) := by
          rcases hf s m [] rfl with h0 | ⟨j, hj, e⟩
          · exact .inl h0
          · exact .inr (hs.mem_iff.2 (List.mem_map.2 ⟨j, hj, e.symm⟩))
        refine (put_ids (x := ((4 : Int) + (m : Int), chr m, false)) hb).trans ?_
        rw [List.map_append]
        exact (hs.cons _).trans (List.perm_append_singleton _ _).symm
  intro d h
  exact key _ ks rfl h.first
theorem Taken.behind {of : List Int} {d : List Bool} {ks : List Nat} (h : Taken of d ks) {k : Nat} (hb : of[k]! = 0 ∨ ∃ j : Nat, of[k]! = (4 : Int) + (j : Int) ∧ d[j]? = some true) : of[k]! = 0 ∨ of[k]! ∈ (lineOf of ks).map (·.1) := by
  rcases hb with h0 | ⟨j, e, hj⟩
  · exact .inl h0
  · exact .inr ((lineOf_ids h).mem_iff.2 (List.mem_map.2 ⟨j, (h.mem j).2 hj, e.symm⟩))
theorem Taken.new {of : List Int} {d : List Bool} {ks : List Nat} (h : Taken of d ks) {k : Nat} (hd : d[k]? = some false) : (4 : Int) + (k : Int) ∉ (lineOf of ks).map (·.1) := fun hm => by
  obtain ⟨j, hj, e⟩ := List.mem_map.1 ((lineOf_ids h).mem_iff.1 hm)
  have : j = k := by omega
  subst this
  rw [(h.mem j).1 hj] at hd
  cases hd
theorem lineOf_len {of : List Int} {d : List Bool} {ks : List Nat} (h : Taken of d ks) : (lineOf of ks).length = ks.length := by
  have := (lineOf_ids h).length_eq
  simpa using this
/-- All taken: what they make is one and the same. -/
theorem taken_same {of : List Int} {d e : List Bool} {ks js : List Nat} (h : Taken of d ks) (h' : Taken of e js) (hd : ∀ k, k < of.length → d[k]? = some true) (he : ∀ k, k < of.length → e[k]? = some true) : lineOf of ks = lineOf of js := by
  refine putAll_turned _ _ _ rfl (List.Perm.map _ ?_) (first_of h) (first_of h')
  rw [List.perm_ext_iff_of_nodup h.nodup h'.nodup]
  intro k
  rw [h.mem k, h'.mem k]
  constructor
  · intro hk
    exact he k (h.lt ((h.mem k).2 hk))
  · intro hk
    exact hd k (h'.lt ((h'.mem k).2 hk))
theorem Taken.all {of : List Int} {d : List Bool} {ks : List Nat} (h : Taken of d ks) (hd : ∀ k, k < of.length → d[k]? = some true) : ks.length = of.length := by
  have hp : ks.Perm (List.range of.length) := by
    rw [List.perm_ext_iff_of_nodup h.nodup List.nodup_range]
    intro k
    rw [List.mem_range]
    exact ⟨fun hk => h.lt hk, fun hk => (h.mem k).2 (hd k hk)⟩
  simpa using hp.length_eq
/-- None is gone. -/
theorem lineOf_seen (of : List Int) (ks : List Nat) : seenOf (lineOf of ks) = lineOf of ks := by
  have key : ∀ (s : List (Int × Ltr)) (L : List Ltr), (∀ m ∈ s, m.2.2.2 = false) → (∀ l ∈ L, l.2.2 = false) → ∀ l ∈ putAll s L, l.2.2 = false := by
    intro s
    induction s with
    | nil => intro L _ hL; exact hL
    | cons m s ih =>
      intro L hs hL
      refine ih _ (fun x hx => hs x (List.mem_cons_of_mem _ hx)) ?_
      intro l hl
      have hlaid : ∀ (M : List Ltr), (∀ l ∈ M, l.2.2 = false) → ∀ l ∈ laid m.2 M, l.2.2 = false := by
        intro M hM l hl
        rw [laid_at] at hl
        rcases List.mem_append.1 hl with hl | hl
        · exact hM l (List.mem_of_mem_take hl)
        · rcases List.mem_cons.1 hl with rfl | hl
          · exact hs m (by simp)
          · exact hM l (List.mem_of_mem_drop hl)
      have hB : ∀ (M : List Ltr), (∀ l ∈ M, l.2.2 = false) → ∀ l ∈ putB m.1 m.2 M, l.2.2 = false := by
        intro M
        induction M with
        | nil => intro _ l hl; simp [putB] at hl
        | cons g t iht =>
          intro hM l hl
          by_cases k : g.1 = m.1
          · rw [putB_yes k] at hl
            rcases List.mem_cons.1 hl with rfl | hl
            · exact hM _ (by simp)
            · exact hlaid t (fun x hx => hM x (by simp [hx])) l hl
          · rw [putB_no k] at hl
            rcases List.mem_cons.1 hl with rfl | hl
            · exact hM _ (by simp)
            · exact iht (fun x hx => hM x (by simp [hx])) l hl
      change l ∈ put m.1 m.2 L at hl
      unfold put at hl
      split at hl
      · exact hlaid L hL l hl
      · exact hB L hL l hl
  unfold seenOf
  rw [List.filter_eq_self]
  intro l hl
  have := key (ks.map (ltrOf of)) [] (fun m hm => by obtain ⟨k, _, rfl⟩ := List.mem_map.1 hm; rfl) (fun l hl => by simp at hl) l hl
  simp [this]
end Go.Proofs.YtkilnfooelihaaaDoor
