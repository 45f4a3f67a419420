/- Plain facts, of no program: of a list those that are marked, and how one more is marked. -/
import Derived.Test.YtnfhbmgkiknaaaaDoorTreePure
namespace Go.Proofs.YtnfhbmgkiknaaaaDoor

section
variable {β : Type}
def picked : List β → List Bool → List β
  | x :: r, true :: d => x :: picked r d
  | _ :: r, false :: d => picked r d
  | _, _ => []
theorem picked_none : ∀ (l : List β), picked l (List.replicate l.length false) = []
  | [] => rfl
  | x :: r => by simp [List.replicate_succ, picked, picked_none r]
theorem picked_all : ∀ (l : List β) (d : List Bool), d.length = l.length → (∀ b ∈ d, b = true) → picked l d = l
  | [], [], _, _ => rfl
  | [], _ :: _, h, _ => by simp at h
  | x :: r, [], h, _ => by simp at h
  | x :: r, b :: d, h, ha => by
    have hb := ha b (by simp)
    subst hb
    rw [picked, picked_all r d (by simpa using h) (fun b hb => ha b (by simp [hb]))]
theorem picked_set : ∀ (l : List β) (d : List Bool) (k : Nat) (x : β), l[k]? = some x → d[k]? = some false → (picked l (d.set k true)).Perm (x :: picked l d)
  | [], _, _, _, h, _ => by simp at h
  | y :: r, [], k, x, _, h => by simp at h
  | y :: r, b :: d, 0, x, h, hd => by
    simp at h hd
    subst h hd
    exact List.Perm.refl _
  | y :: r, b :: d, k + 1, x, h, hd => by
    have ih := picked_set r d k x (by simpa using h) (by simpa using hd)
    cases b with
    | true => exact (ih.cons y).trans (List.Perm.swap x y _)
    | false => exact ih
theorem picked_mem : ∀ (l : List β) (d : List Bool) (y : β), y ∈ picked l d → ∃ j : Nat, l[j]? = some y ∧ d[j]? = some true
  | [], _, _, h => by simp [picked] at h
  | x :: r, [], _, h => by simp [picked] at h
  | x :: r, true :: d, y, h => by
    rcases List.mem_cons.1 h with rfl | h
    · exact ⟨0, rfl, rfl⟩
    · obtain ⟨j, h1, h2⟩ := picked_mem r d y h
      exact ⟨j + 1, h1, h2⟩
  | x :: r, false :: d, y, h => by
    obtain ⟨j, h1, h2⟩ := picked_mem r d y h
    exact ⟨j + 1, h1, h2⟩

/-- No two have one stamp. -/
def Apart (st : β → Int × Int) (l : List β) : Prop := ∀ (i j : Nat) x y, l[i]? = some x → l[j]? = some y → st x = st y → i = j
theorem apart_nil (st : β → Int × Int) : Apart st [] := fun i j x y h => by simp at h
theorem apart_snoc {st : β → Int × Int} {l : List β} {x : β} (h : Apart st l) (hx : ∀ y ∈ l, st y ≠ st x) : Apart st (l ++ [x]) := by
  intro i j a b ha hb e
  rw [List.getElem?_append] at ha hb
  split at ha <;> split at hb
  · exact h i j a b ha hb e
  · have hb' : b = x := by
      have := List.mem_of_getElem? hb
      simpa using this
    subst hb'
    exact absurd e (hx a (List.mem_of_getElem? ha))
  · have ha' : a = x := by
      have := List.mem_of_getElem? ha
      simpa using this
    subst ha'
    exact absurd e.symm (hx b (List.mem_of_getElem? hb))
  · have h1 := (List.getElem?_eq_some_iff.1 ha).1
    have h2 := (List.getElem?_eq_some_iff.1 hb).1
    simp at h1 h2
    omega
theorem picked_new {st : β → Int × Int} {l : List β} {d : List Bool} {k : Nat} {x : β} (h : Apart st l) (hx : l[k]? = some x) (hd : d[k]? = some false) : ∀ y ∈ picked l d, st y ≠ st x := by
  intro y hy e
  obtain ⟨j, h1, h2⟩ := picked_mem l d y hy
  have := h j k y x h1 hx e
  subst this
  rw [hd] at h2
  cases h2
end
end Go.Proofs.YtnfhbmgkiknaaaaDoor
