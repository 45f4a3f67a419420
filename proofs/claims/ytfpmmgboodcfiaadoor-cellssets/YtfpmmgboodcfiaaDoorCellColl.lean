/- Marks on the way: what has come out of a map so far; what has been joined so far. -/
import Derived.Test.YtfpmmgboodcfiaaDoorCellMap
namespace Go.Proofs.YtfpmmgboodcfiaaDoor
open Go Go.Maps

/-- All that are not empty, each once. -/
def AllM (f : CSta) (ps : List Mrk) : Prop := (ps.map keyM).Nodup ∧ ∀ p : Mrk, p ∈ ps ↔ p.2.2.size ≠ 0 ∧ ∃ s, f (keyM p) = some (p.2.2, s)
theorem AllM.marks {f : CSta} {ps qs : List Mrk} (h : AllM f ps) (hp : qs.Perm ps) (hs : qs.Pairwise (fun a b => ¬ KLt (keyM b) (keyM a))) : IsMarks f qs := by
  refine ⟨?_, fun p => (hp.mem_iff).trans (h.2 p)⟩
  have hn : (qs.map keyM).Nodup := (hp.map _).nodup_iff.2 h.1
  have hn' : qs.Pairwise (fun a b => keyM a ≠ keyM b) := List.pairwise_map.1 hn
  exact (hs.and hn').imp (fun {a b} h => by
    rcases klt_total h.2 with q | q
    · exact q
    · exact absurd q h.1)

/-- What has come so far. -/
def CollM (f : CSta) (left : Lit → Bool) (ps : List Mrk) : Prop :=
  (ps.map keyM).Nodup ∧ (∀ p ∈ ps, (p.2.2.size ≠ 0 ∧ ∃ s, f (keyM p) = some (p.2.2, s)) ∧ left (klit (keyM p)) = false) ∧ ∀ k c, f k = some c → left (klit k) = false → c.1.size ≠ 0 → (k.1, k.2, c.1) ∈ ps
theorem collM_start {D : DataW Unit} {f : CSta} (hr : ReadsC D f) (hg : GoodC f) : CollM f (has D) [] :=
  ⟨List.nodup_nil, fun p hp => by simp at hp, fun k c hf hl _ => by rw [hr.has (hg k c hf), hf] at hl; cases hl⟩
theorem CollM.skip {f : CSta} {left : Lit → Bool} {ps : List Mrk} (h : CollM f left ps) (hg : GoodC f) {x : CKey} {c : CMark} (hx : WfK x) (hf : f x = some c) (hc : c.1.size = 0) : CollM f (fun z => left z && !z.sameKey (klit x)) ps := by
  obtain ⟨h1, h2, h3⟩ := h
  refine ⟨h1, fun p hp => ⟨(h2 p hp).1, ?_⟩, fun k d hk hl hd => ?_⟩
  · show (left (klit (keyM p)) && _) = false
    rw [(h2 p hp).2]
    rfl
  · have hl : (left (klit k) && !Lit.sameKey (klit k) (klit x)) = false := hl
    rw [same_klit (hg k d hk) hx] at hl
    by_cases e : k = x
    · subst e
      rw [hf] at hk
      cases hk
      exact absurd hc hd
    · exact h3 k d hk (by simpa [e] using hl) hd
theorem CollM.step {f : CSta} {left : Lit → Bool} {ps : List Mrk} (h : CollM f left ps) (hg : GoodC f) {x : CKey} {c : CMark} (hx : WfK x) (hlx : left (klit x) = true) (hf : f x = some c) (hc : c.1.size ≠ 0) : CollM f (fun z => left z && !z.sameKey (klit x)) (ps ++ [(x.1, x.2, c.1)]) := by
  obtain ⟨h1, h2, h3⟩ := h
  refine ⟨?_, fun p hp => ?_, fun k d hk hl hd => ?_⟩
  · rw [List.map_append, List.nodup_append]
    refine ⟨h1, by simp, fun a ha b hb => ?_⟩
    simp only [List.map_cons, List.map_nil, List.mem_singleton] at hb
    subst hb
    intro e
    obtain ⟨p, hp, rfl⟩ := List.mem_map.1 ha
    have := (h2 p hp).2
    rw [e, show keyM (x.1, x.2, c.1) = x from rfl, hlx] at this
    cases this
  · rcases List.mem_append.1 hp with hp | hp
    · refine ⟨(h2 p hp).1, ?_⟩
      show (left (klit (keyM p)) && _) = false
      rw [(h2 p hp).2]
      rfl
    · simp only [List.mem_singleton] at hp
      subst hp
      refine ⟨⟨hc, c.2, hf⟩, ?_⟩
      show (left (klit x) && !Lit.sameKey (klit x) (klit x)) = false
      rw [same_klit hx hx]
      simp
  · have hl : (left (klit k) && !Lit.sameKey (klit k) (klit x)) = false := hl
    rw [same_klit (hg k d hk) hx] at hl
    by_cases e : k = x
    · subst e
      rw [hf] at hk
      cases hk
      simp
    · exact List.mem_append_left _ (h3 k d hk (by simpa [e] using hl) hd)
theorem CollM.all {f : CSta} {left : Lit → Bool} {ps : List Mrk} (h : CollM f left ps) (hl : ∀ kl, left kl = false) : AllM f ps := by
  refine ⟨h.1, fun p => ⟨fun hp => (h.2.1 p hp).1, fun hp => ?_⟩⟩
  obtain ⟨h0, s, hf⟩ := hp
  exact h.2.2 (keyM p) _ hf (hl _) h0

/-- What has been joined so far: all but what is still to come. -/
def partC (g f : CSta) (left : Lit → Bool) : CSta := fun k => if left (klit k) = true then g k else joinC g f k
theorem joinC_none {g f : CSta} {k : CKey} (h : f k = none) : joinC g f k = g k := by
  unfold joinC
  rw [h]
  cases g k <;> rfl
theorem joinC_noC (g : CSta) : joinC g noC = g := funext fun _ => joinC_none rfl
theorem noC_joinC (f : CSta) : joinC noC f = f := funext fun _ => rfl
theorem partC_start {D : DataW Unit} {g f : CSta} (hr : ReadsC D f) (hg : GoodC f) : partC g f (has D) = g := by
  funext k
  unfold partC
  cases hf : f k with
  | none =>
    rw [joinC_none hf]
    simp
  | some c => rw [hr.has (hg k c hf), hf]; simp
theorem partC_all {g f : CSta} {left : Lit → Bool} (hl : ∀ kl, left kl = false) : partC g f left = joinC g f := by
  funext k
  unfold partC
  rw [hl]
  simp
theorem partC_step {g f : CSta} {left : Lit → Bool} (hg : GoodC f) {x : CKey} {c : CMark} (hx : WfK x) (hlx : left (klit x) = true) (hf : f x = some c) : setC (partC g f left) (x, c) = partC g f (fun z => left z && !z.sameKey (klit x)) := by
  funext k
  by_cases e : k = x
  · subst e
    have hp : partC g f left k = g k := by unfold partC; rw [if_pos hlx]
    have hq : partC g f (fun z => left z && !z.sameKey (klit k)) k = joinC g f k := by
      unfold partC
      rw [if_neg (by dsimp only; rw [same_klit hx hx]; simp)]
    rw [hq]
    unfold joinC
    rw [hf]
    cases hgk : g k with
    | none => exact setC_none (m := (k, c)) (hp.trans hgk)
    | some o => exact setC_some (m := (k, c)) (hp.trans hgk)
  · rw [setC_other (m := (x, c)) e]
    unfold partC
    cases hfk : f k with
    | none =>
      rw [joinC_none hfk]
      simp
    | some d =>
      simp [same_klit (hg k d hfk) hx, e]
end Go.Proofs.YtfpmmgboodcfiaaDoor
