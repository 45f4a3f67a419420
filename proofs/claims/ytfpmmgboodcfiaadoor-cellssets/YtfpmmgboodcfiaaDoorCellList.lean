/- Plain facts, of no program: marks by nodes and names, in order: a list into which they are laid, and what of it is shown. -/
import Derived.Test.YtfpmmgboodcfiaaDoorCellPure
namespace Go.Proofs.YtfpmmgboodcfiaaDoor

/-- A place is ahead of another one: by node, then by name, byte by byte. -/
abbrev KLt (a b : CKey) : Prop := a.1 < b.1 ∨ (a.1 = b.1 ∧ a.2.data.toList < b.2.data.toList)
theorem bytesExt {a b : ByteArray} (h : a.data.toList = b.data.toList) : a = b := by
  rcases a with ⟨⟨a⟩⟩
  rcases b with ⟨⟨b⟩⟩
  simp only at h
  rw [h]
theorem bytesTotal {a b : List UInt8} (h : a ≠ b) : a < b ∨ b < a := by
  by_cases h1 : a < b
  · exact .inl h1
  · by_cases h2 : b < a
    · exact .inr h2
    · exact absurd (List.le_antisymm (List.not_lt.1 h2) (List.not_lt.1 h1)) h
theorem klt_irrefl {a : CKey} : ¬ KLt a a := by
  rintro (h | ⟨_, h⟩)
  · omega
  · exact List.lt_irrefl _ h
theorem klt_trans {a b c : CKey} (h : KLt a b) (k : KLt b c) : KLt a c := by
  rcases h with h | ⟨h1, h2⟩
  · rcases k with k | ⟨k1, _⟩
    · exact .inl (by omega)
    · exact .inl (by omega)
  · rcases k with k | ⟨k1, k2⟩
    · exact .inl (by omega)
    · exact .inr ⟨by omega, List.lt_trans h2 k2⟩
theorem klt_asymm {a b : CKey} (h : KLt a b) : ¬ KLt b a := fun k => klt_irrefl (klt_trans h k)
theorem klt_total {a b : CKey} (h : a ≠ b) : KLt a b ∨ KLt b a := by
  by_cases h1 : a.1 = b.1
  · have h2 : a.2.data.toList ≠ b.2.data.toList := fun e => h (Prod.ext h1 (bytesExt e))
    rcases bytesTotal h2 with k | k
    · exact .inl (.inr ⟨h1, k⟩)
    · exact .inr (.inr ⟨h1.symm, k⟩)
  · by_cases h2 : a.1 < b.1
    · exact .inl (.inl h2)
    · exact .inr (.inl (by omega))

/-- Two rising lists of the same ones are one. -/
theorem rise_unique {α : Type} {R : α → α → Prop} (irr : ∀ a, ¬ R a a) (tr : ∀ a b c, R a b → R b c → R a c) : ∀ {L M : List α}, L.Pairwise R → M.Pairwise R → (∀ p, p ∈ L ↔ p ∈ M) → L = M
  | [], [], _, _, _ => rfl
  | [], b :: r, _, _, h => by have := (h b).2 (by simp); simp at this
  | a :: r, [], _, _, h => by have := (h a).1 (by simp); simp at this
  | a :: r, b :: s, hl, hm, h => by
    obtain ⟨h1, h2⟩ := List.pairwise_cons.1 hl
    obtain ⟨k1, k2⟩ := List.pairwise_cons.1 hm
    have e : a = b := by
      rcases List.mem_cons.1 ((h a).1 (by simp)) with e | ha
      · exact e
      · rcases List.mem_cons.1 ((h b).2 (by simp)) with e | hb
        · exact e.symm
        · exact absurd (tr _ _ _ (h1 b hb) (k1 a ha)) (irr a)
    subst e
    rw [rise_unique irr tr h2 k2 (fun p => ?_)]
    constructor
    · intro hp
      rcases List.mem_cons.1 ((h p).1 (by simp [hp])) with e | hp'
      · subst e; exact absurd (h1 p hp) (irr p)
      · exact hp'
    · intro hp
      rcases List.mem_cons.1 ((h p).2 (by simp [hp])) with e | hp'
      · subst e; exact absurd (k1 p hp) (irr p)
      · exact hp'

theorem setC_goes {f : CSta} {m : CKey × CMark} (h : goesC f m.1 m.2 = true) : setC f m = fun k => if k = m.1 then some m.2 else f k := by unfold setC; rw [if_pos h]
theorem setC_stays {f : CSta} {m : CKey × CMark} (h : goesC f m.1 m.2 = false) : setC f m = f := by unfold setC; rw [if_neg (by rw [h]; simp)]
/-- A mark that is shown: node, name, value. -/
abbrev Mrk := Int × ByteArray × ByteArray
abbrev keyM (m : Mrk) : CKey := (m.1, m.2.1)
/-- All that are not empty, by node, then name. -/
structure IsMarks (f : CSta) (L : List Mrk) : Prop where
  rise : L.Pairwise (fun a b => KLt (keyM a) (keyM b))
  mem : ∀ p : Mrk, p ∈ L ↔ p.2.2.size ≠ 0 ∧ ∃ s, f (keyM p) = some (p.2.2, s)
theorem IsMarks.unique {f : CSta} {L M : List Mrk} (h : IsMarks f L) (k : IsMarks f M) : L = M :=
  rise_unique (R := fun a b => KLt (keyM a) (keyM b)) (fun _ => klt_irrefl) (fun _ _ _ => klt_trans) h.rise k.rise (fun p => (h.mem p).trans (k.mem p).symm)

/-- A list of all marks, in order. -/
structure Lists (f : CSta) (L : List (CKey × CMark)) : Prop where
  rise : L.Pairwise (fun a b => KLt a.1 b.1)
  mem : ∀ k c, (k, c) ∈ L ↔ f k = some c
theorem lists_none : Lists noC [] := ⟨List.Pairwise.nil, fun k c => by simp [noC]⟩
def shownM (m : CKey × CMark) : Mrk := (m.1.1, m.1.2, m.2.1)
def fullM (m : CKey × CMark) : Bool := decide (m.2.1.size ≠ 0)
def shown (L : List (CKey × CMark)) : List Mrk := (L.filter fullM).map shownM
theorem Lists.shown {f : CSta} {L : List (CKey × CMark)} (h : Lists f L) : IsMarks f (shown L) := by
  refine ⟨?_, fun p => ?_⟩
  · unfold Go.Proofs.YtfpmmgboodcfiaaDoor.shown
    rw [List.pairwise_map]
    exact (h.rise.filter _).imp (fun {a b} k => k)
  · unfold Go.Proofs.YtfpmmgboodcfiaaDoor.shown
    rw [List.mem_map]
    constructor
    · rintro ⟨m, hm, rfl⟩
      obtain ⟨h1, h2⟩ := List.mem_filter.1 hm
      exact ⟨of_decide_eq_true h2, m.2.2, (h.mem m.1 m.2).1 h1⟩
    · rintro ⟨h1, s, h2⟩
      exact ⟨(keyM p, (p.2.2, s)), List.mem_filter.2 ⟨(h.mem _ _).2 h2, decide_eq_true h1⟩, rfl⟩

/-- Where a place belongs: behind all that are ahead of it. -/
def spotC (k : CKey) : List (CKey × CMark) → Nat
  | [] => 0
  | m :: r => if KLt m.1 k then spotC k r + 1 else 0
theorem spotC_le (k : CKey) : ∀ L : List (CKey × CMark), spotC k L ≤ L.length
  | [] => Nat.le_refl _
  | m :: r => by
    unfold spotC
    split
    · have := spotC_le k r; simp; exact this
    · exact Nat.zero_le _
theorem spotC_ahead (k : CKey) : ∀ (L : List (CKey × CMark)) (j : Nat) (m : CKey × CMark), j < spotC k L → L[j]? = some m → KLt m.1 k
  | [], j, m, h, _ => by simp [spotC] at h
  | x :: r, j, m, h, e => by
    unfold spotC at h
    split at h
    · rename_i hx
      cases j with
      | zero => simp only [List.getElem?_cons_zero, Option.some.injEq] at e; subst e; exact hx
      | succ j => exact spotC_ahead k r j m (by omega) (by simpa using e)
    · omega
theorem spotC_stop (k : CKey) : ∀ (L : List (CKey × CMark)) (m : CKey × CMark), L[spotC k L]? = some m → ¬ KLt m.1 k
  | [], m, e => by simp at e
  | x :: r, m, e => by
    unfold spotC at e
    split at e
    · exact spotC_stop k r m (by simpa using e)
    · rename_i hx
      simp only [List.getElem?_cons_zero, Option.some.injEq] at e
      subst e
      exact hx
/-- That the walk has come so far. -/
theorem spotC_is (k : CKey) (L : List (CKey × CMark)) (i : Nat) (hi : i ≤ L.length) (h1 : ∀ j m, j < i → L[j]? = some m → KLt m.1 k) (h2 : ∀ m, L[i]? = some m → ¬ KLt m.1 k) : spotC k L = i := by
  have hle := spotC_le k L
  rcases Nat.lt_trichotomy (spotC k L) i with h | h | h
  · have e := List.getElem?_eq_getElem (l := L) (i := spotC k L) (by omega)
    exact absurd (h1 _ _ h e) (spotC_stop k L _ e)
  · exact h
  · have e := List.getElem?_eq_getElem (l := L) (i := i) (by omega)
    exact absurd (spotC_ahead k L i _ h e) (h2 _ e)

/-- A mark is laid in. -/
def layC (L : List (CKey × CMark)) (m : CKey × CMark) : List (CKey × CMark) := match L[spotC m.1 L]? with
  | none => L.take (spotC m.1 L) ++ m :: L.drop (spotC m.1 L)
  | some o => if o.1 = m.1 then (if CLt o.2.2 m.2.2 then L.set (spotC m.1 L) m else L) else L.take (spotC m.1 L) ++ m :: L.drop (spotC m.1 L)
def laidC (L : List (CKey × CMark)) (m : CKey × CMark) : Bool := match L[spotC m.1 L]? with
  | none => true
  | some o => if o.1 = m.1 then decide (CLt o.2.2 m.2.2) else true

theorem Lists.at_spot {f : CSta} {L : List (CKey × CMark)} (h : Lists f L) {k : CKey} {c : CMark} (hf : f k = some c) : L[spotC k L]? = some (k, c) := by
  obtain ⟨i, hi, e⟩ := List.getElem_of_mem ((h.mem k c).2 hf)
  have he : L[i]? = some (k, c) := by rw [List.getElem?_eq_getElem hi, e]
  rw [spotC_is k L i (by omega) (fun j m hj hm => ?_) (fun m hm => ?_)]
  · exact he
  · have hjl : j < L.length := by omega
    rw [List.getElem?_eq_getElem hjl] at hm
    cases hm
    have := List.pairwise_iff_getElem.1 h.rise j i hjl hi hj
    rwa [e] at this
  · rw [he] at hm
    cases hm
    exact klt_irrefl
theorem Lists.laid {f : CSta} {L : List (CKey × CMark)} (h : Lists f L) (m : CKey × CMark) : laidC L m = goesC f m.1 m.2 := by
  unfold laidC goesC
  cases hf : f m.1 with
  | some o =>
    rw [h.at_spot hf]
    simp
  | none =>
    cases hs : L[spotC m.1 L]? with
    | none => rfl
    | some o =>
      have hne : o.1 ≠ m.1 := fun e => by
        have := (h.mem o.1 o.2).1 (List.mem_of_getElem? hs)
        rw [e, hf] at this
        cases this
      simp [hne]
theorem mem_lay {α : Type} (L : List α) (i : Nat) (x p : α) : p ∈ L.take i ++ x :: L.drop i ↔ p = x ∨ p ∈ L := by
  rw [List.mem_append, List.mem_cons]
  constructor
  · rintro (h | h | h)
    · exact .inr (List.mem_of_mem_take h)
    · exact .inl h
    · exact .inr (List.mem_of_mem_drop h)
  · rintro (h | h)
    · exact .inr (.inl h)
    · rw [← List.take_append_drop i L] at h
      rcases List.mem_append.1 h with h | h
      · exact .inl h
      · exact .inr (.inr h)
theorem Lists.fresh {f : CSta} {L : List (CKey × CMark)} (h : Lists f L) {m : CKey × CMark} (hf : f m.1 = none) : Lists (setC f m) (L.take (spotC m.1 L) ++ m :: L.drop (spotC m.1 L)) := by
  refine ⟨?_, fun k c => ?_⟩
  · have hr := h.rise
    rw [← List.take_append_drop (spotC m.1 L) L] at hr
    obtain ⟨r1, r2, r3⟩ := List.pairwise_append.1 hr
    refine List.pairwise_append.2 ⟨r1, List.pairwise_cons.2 ⟨fun b hb => ?_, r2⟩, fun a ha b hb => ?_⟩
    · obtain ⟨j, hj, rfl⟩ := List.getElem_of_mem hb
      rw [List.length_drop] at hj
      rw [List.getElem_drop]
      have h0 := List.getElem?_eq_getElem (l := L) (i := spotC m.1 L) (by omega)
      have hns := spotC_stop m.1 L _ h0
      have hne : L[spotC m.1 L].1 ≠ m.1 := fun e => by
        have := (h.mem L[spotC m.1 L].1 L[spotC m.1 L].2).1 (List.getElem_mem _)
        rw [e, hf] at this
        cases this
      have hgt : KLt m.1 L[spotC m.1 L].1 := by
        rcases klt_total hne with q | q
        · exact absurd q hns
        · exact q
      cases j with
      | zero => exact hgt
      | succ j => exact klt_trans hgt (List.pairwise_iff_getElem.1 h.rise (spotC m.1 L) (spotC m.1 L + (j + 1)) (by omega) (by omega) (by omega))
    · obtain ⟨j, hj, rfl⟩ := List.getElem_of_mem ha
      rw [List.length_take] at hj
      have hjm : KLt (L.take (spotC m.1 L))[j].1 m.1 := by
        rw [List.getElem_take]
        exact spotC_ahead m.1 L j _ (by omega) (List.getElem?_eq_getElem (by omega))
      rcases List.mem_cons.1 hb with e | hb
      · rw [e]; exact hjm
      · exact r3 _ (List.getElem_mem _) b hb
  · rw [mem_lay]
    by_cases hk : k = m.1
    · subst hk
      rw [setC_none hf]
      constructor
      · rintro (e | e)
        · rw [← e]
        · have := (h.mem m.1 c).1 e
          rw [hf] at this
          cases this
      · intro e
        cases e
        exact .inl rfl
    · rw [setC_other hk, h.mem]
      constructor
      · rintro (e | e)
        · exact absurd (by rw [← e]) hk
        · exact e
      · exact .inr
theorem Lists.newer {f : CSta} {L : List (CKey × CMark)} (h : Lists f L) {m : CKey × CMark} {o : CMark} (hf : f m.1 = some o) (hlt : CLt o.2 m.2.2) : Lists (setC f m) (L.set (spotC m.1 L) m) := by
  have hs := h.at_spot hf
  have hl : spotC m.1 L < L.length := (List.getElem?_eq_some_iff.1 hs).1
  have he : L[spotC m.1 L] = (m.1, o) := by rw [List.getElem?_eq_getElem hl] at hs; exact Option.some.inj hs
  obtain ⟨T, hT⟩ : ∃ T, T = L.take (spotC m.1 L) := ⟨_, rfl⟩
  obtain ⟨D, hD⟩ : ∃ D, D = L.drop (spotC m.1 L + 1) := ⟨_, rfl⟩
  have e1 : L = T ++ (m.1, o) :: D := by
    rw [hT, hD, ← he, ← List.drop_eq_getElem_cons hl, List.take_append_drop]
  have e2 : L.set (spotC m.1 L) m = T ++ m :: D := by rw [List.set_eq_take_append_cons_drop, if_pos hl, hT, hD]
  rw [e2]
  have hr := h.rise
  rw [e1] at hr
  obtain ⟨r1, r2, r3⟩ := List.pairwise_append.1 hr
  obtain ⟨r4, r5⟩ := List.pairwise_cons.1 r2
  have hm : ∀ k c, (k, c) ∈ T ++ (m.1, o) :: D ↔ f k = some c := by rw [← e1]; exact h.mem
  refine ⟨List.pairwise_append.2 ⟨r1, List.pairwise_cons.2 ⟨fun b hb => r4 b hb, r5⟩, fun a ha b hb => ?_⟩, fun k c => ?_⟩
  · rcases List.mem_cons.1 hb with e | hb
    · rw [e]
      exact r3 a ha (m.1, o) (by simp)
    · exact r3 a ha b (by simp [hb])
  · rw [List.mem_append, List.mem_cons]
    by_cases hk : k = m.1
    · subst hk
      rw [setC_some hf, if_pos hlt]
      constructor
      · rintro (e | e | e)
        · exact absurd (r3 _ e (m.1, o) (by simp)) klt_irrefl
        · rw [← e]
        · exact absurd (r4 _ e) klt_irrefl
      · intro e
        cases e
        exact .inr (.inl rfl)
    · rw [setC_other hk, ← hm, List.mem_append, List.mem_cons]
      constructor
      · rintro (e | e | e)
        · exact .inl e
        · exact absurd (by rw [← e]) hk
        · exact .inr (.inr e)
      · rintro (e | e | e)
        · exact .inl e
        · exact absurd (Prod.mk.inj e).1 hk
        · exact .inr (.inr e)
theorem Lists.lay {f : CSta} {L : List (CKey × CMark)} (h : Lists f L) (m : CKey × CMark) : Lists (setC f m) (layC L m) := by
  unfold layC
  cases hf : f m.1 with
  | some o =>
    rw [h.at_spot hf]
    dsimp only
    rw [if_pos rfl]
    split
    · rename_i hlt
      exact h.newer hf hlt
    · rename_i hlt
      have : setC f m = f := by unfold setC goesC; rw [hf]; simp [hlt]
      rw [this]
      exact h
  | none =>
    cases hs : L[spotC m.1 L]? with
    | none => exact h.fresh hf
    | some o =>
      have hne : o.1 ≠ m.1 := fun e => by
        have := (h.mem o.1 o.2).1 (List.mem_of_getElem? hs)
        rw [e, hf] at this
        cases this
      dsimp only
      rw [if_neg hne]
      exact h.fresh hf
theorem layC_len (L : List (CKey × CMark)) (m : CKey × CMark) : (layC L m).length ≤ L.length + 1 := by
  have := spotC_le m.1 L
  unfold layC
  split
  · simp; omega
  · split
    · split
      · simp
      · omega
    · simp; omega
/-- The first of a place is what stands there. -/
theorem Lists.first {f : CSta} {L : List (CKey × CMark)} (h : Lists f L) {i : Nat} {m : CKey × CMark} (hi : L[i]? = some m) : f m.1 = some m.2 := (h.mem m.1 m.2).1 (List.mem_of_getElem? hi)
theorem Lists.never {f : CSta} {L : List (CKey × CMark)} (h : Lists f L) {k : CKey} (hn : ∀ (i : Nat) m, L[i]? = some m → m.1 ≠ k) : f k = none := by
  cases hf : f k with
  | none => rfl
  | some c => exact absurd rfl (hn _ _ (h.at_spot hf))
end Go.Proofs.YtfpmmgboodcfiaaDoor
