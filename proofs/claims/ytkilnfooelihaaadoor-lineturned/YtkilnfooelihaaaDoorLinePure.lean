/- Plain facts, of no program: letters laid into a line behind one another, and that in whatever order they come it is the same. -/
import Derived.Sort.LotA
namespace Go.Proofs.YtkilnfooelihaaaDoor

/-- A letter: its id, its byte, and whether it is gone. -/
abbrev Ltr := Int × Nat × Bool
/-- A letter laid in behind all at the front that are greater. -/
def laid (x : Ltr) : List Ltr → List Ltr
  | [] => [x]
  | h :: t => if x.1 < h.1 then h :: laid x t else x :: h :: t
/-- The same, right behind the letter of this id. -/
def putB (b : Int) (x : Ltr) : List Ltr → List Ltr
  | [] => []
  | h :: t => if h.1 = b then h :: laid x t else h :: putB b x t
/-- The same, or at the beginning. -/
def put (b : Int) (x : Ltr) (L : List Ltr) : List Ltr := if b = 0 then laid x L else putB b x L

theorem laid_yes {x h : Ltr} (k : x.1 < h.1) (t : List Ltr) : laid x (h :: t) = h :: laid x t := by simp [laid, k]
theorem laid_no {x h : Ltr} (k : ¬ x.1 < h.1) (t : List Ltr) : laid x (h :: t) = x :: h :: t := by simp [laid, k]
theorem putB_yes {b : Int} {x h : Ltr} (k : h.1 = b) (t : List Ltr) : putB b x (h :: t) = h :: laid x t := by simp [putB, k]
theorem putB_no {b : Int} {x h : Ltr} (k : h.1 ≠ b) (t : List Ltr) : putB b x (h :: t) = h :: putB b x t := by simp [putB, k]

theorem laid_comm (x y : Ltr) (h : x.1 ≠ y.1) : ∀ L, laid y (laid x L) = laid x (laid y L)
  | [] => by
    by_cases k : x.1 < y.1
    · rw [show laid x [] = [x] from rfl, show laid y [] = [y] from rfl, laid_yes k, laid_no (by omega)]; rfl
    · rw [show laid x [] = [x] from rfl, show laid y [] = [y] from rfl, laid_no k, laid_yes (by omega)]; rfl
  | g :: t => by
    by_cases kx : x.1 < g.1
    · by_cases ky : y.1 < g.1
      · rw [laid_yes kx, laid_yes ky, laid_yes ky, laid_yes kx, laid_comm x y h t]
      · rw [laid_yes kx, laid_no ky, laid_no ky, laid_yes (by omega), laid_yes kx]
    · by_cases ky : y.1 < g.1
      · rw [laid_no kx, laid_yes ky, laid_yes (by omega), laid_yes ky, laid_no kx]
      · rw [laid_no kx, laid_no ky]
        by_cases k : x.1 < y.1
        · rw [laid_no (by omega), laid_yes k, laid_no kx]
        · rw [laid_yes (by omega), laid_no k, laid_no ky]
theorem putB_laid (x y : Ltr) (b : Int) (h : x.1 ≠ y.1) (hb : b ≠ x.1) : ∀ L, putB b y (laid x L) = laid x (putB b y L)
  | [] => by
    rw [show laid x [] = [x] from rfl, putB_no (fun e => hb e.symm)]; rfl
  | g :: t => by
    by_cases kx : x.1 < g.1
    · rw [laid_yes kx]
      by_cases kb : g.1 = b
      · rw [putB_yes kb, putB_yes kb, laid_yes kx, laid_comm x y h t]
      · rw [putB_no kb, putB_no kb, laid_yes kx, putB_laid x y b h hb t]
    · rw [laid_no kx, putB_no (fun e => hb e.symm)]
      by_cases kb : g.1 = b
      · rw [putB_yes kb, laid_no kx]
      · rw [putB_no kb, laid_no kx]
theorem putB_comm (x y : Ltr) (a b : Int) (h : x.1 ≠ y.1) (ha : a ≠ y.1) (hb : b ≠ x.1) : ∀ L, putB b y (putB a x L) = putB a x (putB b y L)
  | [] => rfl
  | g :: t => by
    by_cases ka : g.1 = a
    · rw [putB_yes ka]
      by_cases kb : g.1 = b
      · rw [putB_yes kb, putB_yes kb, putB_yes ka, laid_comm x y h t]
      · rw [putB_no kb, putB_no kb, putB_yes ka, putB_laid x y b h hb t]
    · rw [putB_no ka]
      by_cases kb : g.1 = b
      · rw [putB_yes kb, putB_yes kb, putB_no ka, putB_laid y x a (fun e => h e.symm) ha t]
      · rw [putB_no kb, putB_no kb, putB_no ka, putB_comm x y a b h ha hb t]
/-- Two letters, neither behind the other, may come in either order. -/
theorem put_comm (x y : Ltr) (a b : Int) (h : x.1 ≠ y.1) (ha : a ≠ y.1) (hb : b ≠ x.1) (L : List Ltr) : put b y (put a x L) = put a x (put b y L) := by
  unfold put
  by_cases h0 : a = 0
  · rw [if_pos h0, if_pos h0]
    by_cases h1 : b = 0
    · rw [if_pos h1, if_pos h1, laid_comm x y h]
    · rw [if_neg h1, if_neg h1, putB_laid x y b h hb]
  · rw [if_neg h0, if_neg h0]
    by_cases h1 : b = 0
    · rw [if_pos h1, if_pos h1, putB_laid y x a (fun e => h e.symm) ha]
    · rw [if_neg h1, if_neg h1, putB_comm x y a b h ha hb]

/-- Letters, each with the id that it stands behind, one after the other. -/
def putAll (s : List (Int × Ltr)) (L : List Ltr) : List Ltr := s.foldl (fun L m => put m.1 m.2 L) L
theorem putAll_app (s r : List (Int × Ltr)) (L : List Ltr) : putAll (s ++ r) L = putAll r (putAll s L) := by simp [putAll]
theorem putAll_one (m : Int × Ltr) (L : List Ltr) : putAll [m] L = put m.1 m.2 L := rfl
theorem putAll_past (m : Int × Ltr) : ∀ (r : List (Int × Ltr)) (L : List Ltr), (∀ y ∈ r, m.2.1 ≠ y.2.1 ∧ m.1 ≠ y.2.1 ∧ y.1 ≠ m.2.1) → putAll r (put m.1 m.2 L) = put m.1 m.2 (putAll r L)
  | [], _, _ => rfl
  | y :: r, L, h => by
    obtain ⟨h1, h2, h3⟩ := h y (by simp)
    show putAll r (put y.1 y.2 (put m.1 m.2 L)) = put m.1 m.2 (putAll r (put y.1 y.2 L))
    rw [put_comm m.2 y.2 m.1 y.1 h1 h2 h3]
    exact putAll_past m r _ (fun z hz => h z (by simp [hz]))

/-- Each letter comes behind the one it stands behind; none twice. -/
def First (s : List (Int × Ltr)) : Prop := (s.map (·.2.1)).Nodup ∧ (∀ m ∈ s, m.2.1 ≠ 0) ∧ ∀ u m v, s = u ++ m :: v → m.1 = 0 ∨ ∃ y ∈ u, y.2.1 = m.1
theorem first_init {s : List (Int × Ltr)} {m : Int × Ltr} (h : First (s ++ [m])) : First s := by
  obtain ⟨h1, h2, h3⟩ := h
  rw [List.map_append] at h1
  refine ⟨(List.nodup_append.1 h1).1, fun x hx => h2 x (by simp [hx]), fun u x v e => h3 u x (v ++ [m]) (by rw [e]; simp)⟩
/-- The last of them stands ahead of none. -/
theorem first_last {s : List (Int × Ltr)} {m : Int × Ltr} (h : First (s ++ [m])) : ∀ y ∈ s, y.2.1 ≠ m.2.1 ∧ y.1 ≠ m.2.1 := by
  obtain ⟨h1, h2, h3⟩ := h
  rw [List.map_append] at h1
  have hd : ∀ y ∈ s, y.2.1 ≠ m.2.1 := fun y hy e => (List.nodup_append.1 h1).2.2 _ (List.mem_map.2 ⟨y, hy, rfl⟩) _ (by simp) e
  intro y hy
  refine ⟨hd y hy, fun e => ?_⟩
  obtain ⟨u, v, rfl⟩ := List.append_of_mem hy
  rcases h3 u y (v ++ [m]) (by simp) with h0 | ⟨z, hz, he⟩
  · exact h2 m (by simp) (by rw [← e, h0])
  · exact hd z (by simp [hz]) (by rw [he, e])
theorem first_drop {u v : List (Int × Ltr)} {m : Int × Ltr} (h : First (u ++ m :: v)) (hm : ∀ y ∈ v, y.1 ≠ m.2.1) : First (u ++ v) := by
  obtain ⟨h1, h2, h3⟩ := h
  have hsub : (u ++ v).Sublist (u ++ m :: v) := List.Sublist.append_left (List.sublist_cons_self _ _) u
  refine ⟨h1.sublist (hsub.map _), fun x hx => h2 x (hsub.subset hx), fun a x b e => ?_⟩
  rcases List.append_eq_append_iff.1 e with ⟨c, rfl, hc⟩ | ⟨c, rfl, hc⟩
  · rcases h3 (u ++ m :: c) x b (by rw [hc]; simp) with h0 | ⟨z, hz, he⟩
    · exact .inl h0
    · right
      rcases List.mem_append.1 hz with hz | hz
      · exact ⟨z, by simp [hz], he⟩
      · rcases List.mem_cons.1 hz with rfl | hz
        · exact absurd he.symm (hm x (by rw [hc]; simp))
        · exact ⟨z, by simp [hz], he⟩
  · cases c with
    | nil =>
      simp only [List.append_nil, List.nil_append] at hc h3 ⊢
      rcases h3 (a ++ [m]) x b (by rw [← hc]; simp) with h0 | ⟨z, hz, he⟩
      · exact .inl h0
      · right
        rcases List.mem_append.1 hz with hz | hz
        · exact ⟨z, hz, he⟩
        · rw [List.mem_singleton] at hz
          subst hz
          exact absurd he.symm (hm x (by rw [← hc]; simp))
    | cons y c =>
      injection hc with e1 e2
      subst e1
      exact h3 a x (c ++ m :: v) (by simp)
theorem snoc_cases {α : Type} : ∀ (l : List α), l = [] ∨ ∃ s m, l = s ++ [m]
  | [] => .inl rfl
  | x :: t => by
    rcases snoc_cases t with rfl | ⟨s, m, rfl⟩
    · exact .inr ⟨[], x, rfl⟩
    · exact .inr ⟨x :: s, m, rfl⟩
/-- In whatever order letters come, each behind the one it stands behind, it is the same. -/
theorem putAll_turned : ∀ (n : Nat) (s r : List (Int × Ltr)), s.length = n → s.Perm r → First s → First r → putAll s [] = putAll r []
  | 0, s, r, hn, hp, _, _ => by
    obtain rfl := List.length_eq_zero_iff.1 hn
    rw [hp.symm.eq_nil]
  | n + 1, s, r, hn, hp, hs, hr => by
    rcases snoc_cases s with rfl | ⟨s', m, rfl⟩
    · simp at hn
    · obtain ⟨u, v, rfl⟩ := List.append_of_mem (hp.mem_iff.1 (show m ∈ s' ++ [m] by simp))
      have hl := first_last hs
      have hp' : s'.Perm (u ++ v) := by
        have h1 : (m :: s').Perm (m :: (u ++ v)) := ((List.perm_append_singleton m s').symm.trans hp).trans List.perm_middle
        exact h1.cons_inv
      have hv : ∀ y ∈ v, y.2.1 ≠ m.2.1 ∧ y.1 ≠ m.2.1 := fun y hy => hl y (hp'.mem_iff.2 (by simp [hy]))
      have hmv : ∀ y ∈ v, m.1 ≠ y.2.1 := by
        intro y hy e
        obtain ⟨h1, h2, h3⟩ := hr
        rcases h3 u m v rfl with h0 | ⟨z, hz, he⟩
        · exact h2 y (by simp [hy]) (by rw [← e, h0])
        · rw [List.map_append, List.map_cons] at h1
          exact (List.nodup_append.1 h1).2.2 _ (List.mem_map.2 ⟨z, hz, rfl⟩) _ (List.mem_cons_of_mem _ (List.mem_map.2 ⟨y, hy, rfl⟩)) (by rw [he, e])
      have hr' := first_drop hr (fun y hy => (hv y hy).2)
      have ih := putAll_turned n s' (u ++ v) (by simpa using hn) hp' (first_init hs) hr'
      rw [putAll_app, putAll_one, ih, show u ++ m :: v = u ++ ([m] ++ v) by simp, putAll_app, putAll_app, putAll_app, putAll_one]
      exact (putAll_past m v _ (fun y hy => ⟨fun e => (hv y hy).1 e.symm, hmv y hy, (hv y hy).2⟩)).symm
end Go.Proofs.YtkilnfooelihaaaDoor
