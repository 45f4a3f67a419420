/- Plain facts, of no program: marks with stamps. In whatever order they are set, and from whichever parts they are joined, they are the same. -/
namespace Go.Proofs.YtfpmmgboodcfiaaDoor

/-- A stamp is ahead of another one: by time, then by replica. -/
abbrev CLt (a b : Int × Int) : Prop := a.1 < b.1 ∨ (a.1 = b.1 ∧ a.2 < b.2)
theorem clt_irrefl {a : Int × Int} : ¬ CLt a a := by unfold CLt; omega
theorem clt_trans {a b c : Int × Int} (h : CLt a b) (k : CLt b c) : CLt a c := by unfold CLt at *; omega
theorem clt_asymm {a b : Int × Int} (h : CLt a b) : ¬ CLt b a := by unfold CLt at *; omega
theorem clt_total {a b : Int × Int} (h : a ≠ b) : CLt a b ∨ CLt b a := by
  unfold CLt
  have : a.1 ≠ b.1 ∨ a.2 ≠ b.2 := by
    rcases a with ⟨x, y⟩
    rcases b with ⟨z, t⟩
    simp only [ne_eq, Prod.mk.injEq] at h
    simp only
    omega
  omega
theorem cnlt {a b : Int × Int} (h : ¬ CLt a b) : b = a ∨ CLt b a := by
  by_cases e : a = b
  · exact .inl e.symm
  · rcases clt_total e with h' | h'
    · exact absurd h' h
    · exact .inr h'

/-- A mark's place: a node, and a name. -/
abbrev CKey := Int × ByteArray
/-- A mark: its value, and its stamp. -/
abbrev CMark := ByteArray × (Int × Int)
/-- Marks by places. -/
abbrev CSta := CKey → Option CMark
def noC : CSta := fun _ => none

/-- Does a mark go in? -/
def goesC (f : CSta) (k : CKey) (c : CMark) : Bool := match f k with
  | none => true
  | some o => decide (CLt o.2 c.2)
/-- A mark is set. -/
def setC (f : CSta) (m : CKey × CMark) : CSta := if goesC f m.1 m.2 then fun k => if k = m.1 then some m.2 else f k else f
/-- One after the other. -/
def foldC (l : List (CKey × CMark)) (f : CSta) : CSta := l.foldl setC f
theorem foldC_snoc (l : List (CKey × CMark)) (m : CKey × CMark) (f : CSta) : foldC (l ++ [m]) f = setC (foldC l f) m := by simp [foldC]
theorem foldC_app (l r : List (CKey × CMark)) (f : CSta) : foldC (l ++ r) f = foldC r (foldC l f) := by simp [foldC]
theorem setC_other {f : CSta} {m : CKey × CMark} {k : CKey} (h : k ≠ m.1) : setC f m k = f k := by
  unfold setC
  split
  · exact if_neg h
  · rfl
theorem setC_none {f : CSta} {m : CKey × CMark} (h : f m.1 = none) : setC f m m.1 = some m.2 := by
  unfold setC goesC
  rw [h]
  simp
theorem setC_some {f : CSta} {m : CKey × CMark} {o : CMark} (h : f m.1 = some o) : setC f m m.1 = if CLt o.2 m.2.2 then some m.2 else some o := by
  unfold setC goesC
  rw [h]
  by_cases k : CLt o.2 m.2.2
  · simp [k]
  · simp [k, h]

/-- What stands at a place: the one of the greatest stamp, or none. -/
def BestC (l : List (CKey × CMark)) (k : CKey) (r : Option CMark) : Prop := match r with
  | none => ∀ c, (k, c) ∉ l
  | some c => (k, c) ∈ l ∧ ∀ d, (k, d) ∈ l → ¬ CLt c.2 d.2
theorem bestC_fold (l : List (CKey × CMark)) (k : CKey) : BestC l k (foldC l noC k) := by
  have key : ∀ (n : Nat) (l : List (CKey × CMark)), l.length = n → BestC l k (foldC l noC k) := by
    intro n
    induction n with
    | zero =>
      intro l hn
      obtain rfl := List.length_eq_zero_iff.1 hn
      exact fun c hc => by simp at hc
    | succ n ih =>
      intro l hn
      obtain ⟨s, m, rfl⟩ : ∃ s m, l = s ++ [m] := by
        refine ⟨l.dropLast, l.getLast (by intro e; rw [e] at hn; cases hn), (List.dropLast_concat_getLast _).symm⟩
      have h := ih s (by simpa using hn)
      rw [foldC_snoc]
      by_cases hk : k = m.1
      · subst hk
        cases hf : foldC s noC m.1 with
        | none =>
          rw [hf] at h
          rw [setC_none hf]
          refine ⟨by simp, fun d hd => ?_⟩
          rcases List.mem_append.1 hd with hd | hd
          · exact absurd hd (h d)
          · have e : (m.1, d) = m := by simpa using hd
            have e2 : d = m.2 := by rw [← e]
            rw [e2]
            exact clt_irrefl
        | some o =>
          rw [hf] at h
          rw [setC_some hf]
          by_cases hlt : CLt o.2 m.2.2
          · rw [if_pos hlt]
            refine ⟨by simp, fun d hd => ?_⟩
            rcases List.mem_append.1 hd with hd | hd
            · exact fun hc => h.2 d hd (clt_trans hlt hc)
            · have e : (m.1, d) = m := by simpa using hd
              have e2 : d = m.2 := by rw [← e]
              rw [e2]
              exact clt_irrefl
          · rw [if_neg hlt]
            refine ⟨List.mem_append_left _ h.1, fun d hd => ?_⟩
            rcases List.mem_append.1 hd with hd | hd
            · exact h.2 d hd
            · have e : (m.1, d) = m := by simpa using hd
              have e2 : d = m.2 := by rw [← e]
              rw [e2]
              exact hlt
      · rw [setC_other hk]
        cases hf : foldC s noC k with
        | none =>
          rw [hf] at h
          intro c hc
          rcases List.mem_append.1 hc with hc | hc
          · exact h c hc
          · have e : (k, c) = m := by simpa using hc
            exact hk (by rw [← e])
        | some o =>
          rw [hf] at h
          refine ⟨List.mem_append_left _ h.1, fun d hd => ?_⟩
          rcases List.mem_append.1 hd with hd | hd
          · exact h.2 d hd
          · have e : (k, d) = m := by simpa using hd
            exact absurd (by rw [← e]) hk
  exact key _ l rfl

/-- At one place no two marks of one stamp. -/
def OneC (l : List (CKey × CMark)) : Prop := ∀ k c d, (k, c) ∈ l → (k, d) ∈ l → c.2 = d.2 → c = d
theorem bestC_one {l r : List (CKey × CMark)} {k : CKey} {x y : Option CMark} (hm : ∀ m, m ∈ l ↔ m ∈ r) (h1 : OneC l) (hx : BestC l k x) (hy : BestC r k y) : x = y := by
  cases x with
  | none =>
    cases y with
    | none => rfl
    | some d => exact absurd ((hm _).2 hy.1) (hx d)
  | some c =>
    cases y with
    | none => exact absurd ((hm _).1 hx.1) (hy c)
    | some d =>
      have a1 := hx.2 d ((hm _).2 hy.1)
      have a2 := hy.2 c ((hm _).1 hx.1)
      rcases cnlt a1 with e | e
      · rw [h1 k c d hx.1 ((hm _).2 hy.1) e.symm]
      · exact absurd e a2
/-- In whatever order, and however often, marks are set: it is the same. -/
theorem foldC_turned {l r : List (CKey × CMark)} (hm : ∀ m, m ∈ l ↔ m ∈ r) (h1 : OneC l) : foldC l noC = foldC r noC := by
  funext k
  exact bestC_one hm h1 (bestC_fold l k) (bestC_fold r k)

/-- Of each mark the one with the greater stamp; of the same stamp the first's. -/
def joinC (f g : CSta) : CSta := fun k => match f k, g k with
  | none, y => y
  | some c, none => some c
  | some c, some d => if CLt c.2 d.2 then some d else some c
theorem bestC_join {l r : List (CKey × CMark)} {k : CKey} {f g : CSta} (hx : BestC l k (f k)) (hy : BestC r k (g k)) : BestC (l ++ r) k (joinC f g k) := by
  unfold joinC
  cases hf : f k with
  | none =>
    rw [hf] at hx
    cases hg : g k with
    | none =>
      rw [hg] at hy
      intro c hc
      rcases List.mem_append.1 hc with hc | hc
      · exact hx c hc
      · exact hy c hc
    | some d =>
      rw [hg] at hy
      refine ⟨List.mem_append_right _ hy.1, fun e he => ?_⟩
      rcases List.mem_append.1 he with he | he
      · exact absurd he (hx e)
      · exact hy.2 e he
  | some c =>
    rw [hf] at hx
    cases hg : g k with
    | none =>
      rw [hg] at hy
      refine ⟨List.mem_append_left _ hx.1, fun e he => ?_⟩
      rcases List.mem_append.1 he with he | he
      · exact hx.2 e he
      · exact absurd he (hy e)
    | some d =>
      rw [hg] at hy
      dsimp only
      split
      · rename_i hlt
        refine ⟨List.mem_append_right _ hy.1, fun e he => ?_⟩
        rcases List.mem_append.1 he with he | he
        · exact fun hc => hx.2 e he (clt_trans hlt hc)
        · exact hy.2 e he
      · rename_i hlt
        refine ⟨List.mem_append_left _ hx.1, fun e he => ?_⟩
        rcases List.mem_append.1 he with he | he
        · exact hx.2 e he
        · intro hc
          rcases cnlt hlt with q | q
          · exact hy.2 e he (by rw [q]; exact hc)
          · exact hy.2 e he (clt_trans q hc)
/-- Joined out of parts it is the same. -/
theorem joinC_fold {l r s : List (CKey × CMark)} (hm : ∀ m, m ∈ l ++ r ↔ m ∈ s) (h1 : OneC s) : joinC (foldC l noC) (foldC r noC) = foldC s noC := by
  funext k
  refine (bestC_one (fun m => (hm m).symm) h1 (bestC_fold s k) (bestC_join (bestC_fold l k) (bestC_fold r k))).symm
end Go.Proofs.YtfpmmgboodcfiaaDoor
