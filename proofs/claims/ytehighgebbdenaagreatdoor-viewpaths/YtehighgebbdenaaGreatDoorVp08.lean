import Derived.Test.YtehighgebbdenaaGreatDoorVp07
import Derived.Sort.LotA
section
namespace Go.Proofs.YtehighgebbdenaaGreatDoor
def lookK (S : List OpX) (b n : Int) : Option OpX := S.find? (fun x => decide (byO x = b ∧ numO x = n))
theorem lookK_some {S : List OpX} {b n : Int} {x : OpX} (h : lookK S b n = some x) : x ∈ S ∧ byO x = b ∧ numO x = n := by
  unfold lookK at h
  exact ⟨List.mem_of_find?_eq_some h, by simpa using List.find?_some h⟩
theorem lookK_none {S : List OpX} {b n : Int} : lookK S b n = none ↔ ∀ x ∈ S, ¬ (byO x = b ∧ numO x = n) := by
  unfold lookK
  rw [List.find?_eq_none]
  simp
theorem lookK_app (S T : List OpX) (b n : Int) : lookK (S ++ T) b n = (lookK S b n).or (lookK T b n) := by
  unfold lookK
  rw [List.find?_append]
theorem lookK_is {S : List OpX} (h1 : ∀ x ∈ S, ∀ y ∈ S, byO x = byO y → numO x = numO y → x = y) {x : OpX} (hx : x ∈ S) : lookK S (byO x) (numO x) = some x := by
  cases h : lookK S (byO x) (numO x) with
  | none => exact absurd ⟨rfl, rfl⟩ (lookK_none.1 h x hx)
  | some y =>
    obtain ⟨a, b, c⟩ := lookK_some h
    rw [h1 x hx y a b.symm c.symm]
def sameX (x y : OpX) : Bool := decide (x.1 = y.1 ∧ x.2.1 = y.2.1 ∧ x.2.2.1 = y.2.2.1 ∧ x.2.2.2.1 = y.2.2.2.1 ∧ x.2.2.2.2.1 = y.2.2.2.2.1 ∧ x.2.2.2.2.2.1 = y.2.2.2.2.2.1 ∧ x.2.2.2.2.2.2.1.data.toList = y.2.2.2.2.2.2.1.data.toList ∧ x.2.2.2.2.2.2.2.data.toList = y.2.2.2.2.2.2.2.data.toList)
theorem bytes_eq {a b : ByteArray} (h : a.data.toList = b.data.toList) : a = b := by
  cases a; cases b
  simpa [Array.toList_inj] using h
theorem sameX_iff {x y : OpX} : sameX x y = true ↔ x = y := by
  unfold sameX
  rw [decide_eq_true_iff]
  constructor
  · intro h
    obtain ⟨a, b, c, d, e, f, g, i⟩ := x
    obtain ⟨a', b', c', d', e', f', g', i'⟩ := y
    obtain ⟨h1, h2, h3, h4, h5, h6, h7, h8⟩ := h
    simp only at h1 h2 h3 h4 h5 h6 h7 h8
    rw [h1, h2, h3, h4, h5, h6, bytes_eq h7, bytes_eq h8]
  · intro h
    rw [h]
    exact ⟨rfl, rfl, rfl, rfl, rfl, rfl, rfl, rfl⟩
def siftS (S : List OpX) : Nat → List OpX → List OpX → (Nat × Nat) ⊕ List OpX
  | _, fresh, [] => .inr fresh
  | i, fresh, o :: t => if errO o = 0 then (match lookK (S ++ fresh) (byO o) (numO o) with
      | none => siftS S (i + 1) (fresh ++ [o]) t
      | some x => if sameX x o = true then siftS S (i + 1) fresh t else .inl (i, 7)) else .inl (i, errO o)
theorem sift_bad {S fresh t : List OpX} {i : Nat} {o : OpX} (h : errO o ≠ 0) : siftS S i fresh (o :: t) = .inl (i, errO o) := by
  rw [siftS, if_neg h]
theorem sift_new {S fresh t : List OpX} {i : Nat} {o : OpX} (h : errO o = 0) (hl : lookK (S ++ fresh) (byO o) (numO o) = none) : siftS S i fresh (o :: t) = siftS S (i + 1) (fresh ++ [o]) t := by
  rw [siftS, if_pos h, hl]
theorem sift_same {S fresh t : List OpX} {i : Nat} {o : OpX} (h : errO o = 0) (hl : lookK (S ++ fresh) (byO o) (numO o) = some o) : siftS S i fresh (o :: t) = siftS S (i + 1) fresh t := by
  rw [siftS, if_pos h, hl]
  exact if_pos (sameX_iff.2 rfl)
theorem sift_other {S fresh t : List OpX} {i : Nat} {o x : OpX} (h : errO o = 0) (hl : lookK (S ++ fresh) (byO o) (numO o) = some x) (hx : x ≠ o) : siftS S i fresh (o :: t) = .inl (i, 7) := by
  rw [siftS, if_pos h, hl]
  exact if_neg (fun q => hx (sameX_iff.1 q))
structure FreshK (S fresh : List OpX) : Prop where
  ok : ∀ x ∈ fresh, errO x = 0
  off : ∀ x ∈ fresh, ∀ y ∈ S, ¬ (byO y = byO x ∧ numO y = numO x)
  one : fresh.Pairwise (fun x y => ¬ (byO x = byO y ∧ numO x = numO y))
theorem freshK_nil (S : List OpX) : FreshK S [] := ⟨fun x h => by simp at h, fun x h => by simp at h, List.Pairwise.nil⟩
theorem FreshK.snoc {S fresh : List OpX} (h : FreshK S fresh) {o : OpX} (ho : errO o = 0) (hl : lookK (S ++ fresh) (byO o) (numO o) = none) : FreshK S (fresh ++ [o]) := by
  have hn := lookK_none.1 hl
  refine ⟨fun x hx => ?_, fun x hx => ?_, ?_⟩
  · rcases List.mem_append.1 hx with h1 | h1
    · exact h.ok x h1
    · rw [List.mem_singleton.1 h1]; exact ho
  · rcases List.mem_append.1 hx with h1 | h1
    · exact h.off x h1
    · rw [List.mem_singleton.1 h1]
      exact fun y hy => hn y (List.mem_append_left _ hy)
  · refine List.pairwise_append.2 ⟨h.one, List.pairwise_singleton _ _, fun x hx y hy => ?_⟩
    rw [List.mem_singleton.1 hy]
    exact hn x (List.mem_append_right _ hx)
theorem sift_fresh {S : List OpX} : ∀ {l : List OpX} {i : Nat} {fresh out : List OpX}, FreshK S fresh → siftS S i fresh l = .inr out → FreshK S out ∧ (∀ x, x ∈ out → x ∈ fresh ∨ x ∈ l) ∧ (∀ x, x ∈ fresh → x ∈ out) ∧ (∀ x ∈ l, x ∈ S ∨ x ∈ out) ∧ out.length ≤ fresh.length + l.length
  | [], _, _, _, hF, h => by
    rw [siftS] at h
    cases h
    exact ⟨hF, fun x hx => .inl hx, fun x hx => hx, fun x hx => by simp at hx, by simp⟩
  | o :: t, i, fresh, out, hF, h => by
    by_cases ho : errO o = 0
    · cases hl : lookK (S ++ fresh) (byO o) (numO o) with
      | none =>
        rw [sift_new ho hl] at h
        obtain ⟨k1, k2, k3, k4, k5⟩ := sift_fresh (hF.snoc ho hl) h
        refine ⟨k1, fun x hx => ?_, fun x hx => k3 x (List.mem_append_left _ hx), fun x hx => ?_, by simp at k5 ⊢; omega⟩
        · rcases k2 x hx with q | q
          · rcases List.mem_append.1 q with q | q
            · exact .inl q
            · exact .inr (by rw [List.mem_singleton.1 q]; exact List.mem_cons_self)
          · exact .inr (List.mem_cons_of_mem _ q)
        · rcases List.mem_cons.1 hx with rfl | hx
          · exact .inr (k3 x (by simp))
          · exact k4 x hx
      | some x =>
        by_cases hx : x = o
        · subst hx
          rw [sift_same ho hl] at h
          obtain ⟨k1, k2, k3, k4, k5⟩ := sift_fresh hF h
          refine ⟨k1, fun y hy => (k2 y hy).imp (fun q => q) (fun q => List.mem_cons_of_mem _ q), k3, fun y hy => ?_, by simp at k5 ⊢; omega⟩
          rcases List.mem_cons.1 hy with rfl | hy
          · rcases List.mem_append.1 (lookK_some hl).1 with q | q
            · exact .inl q
            · exact .inr (k3 _ q)
          · exact k4 y hy
        · rw [sift_other ho hl hx] at h
          cases h
    · rw [sift_bad ho] at h
      cases h
theorem sift_fine {S T : List OpX} (h1 : ∀ x ∈ S, ∀ y ∈ S, byO x = byO y → numO x = numO y → x = y) (hT : ∀ x ∈ T, ∀ y ∈ T, byO x = byO y → numO x = numO y → x = y) (hc : Compat S T) (hok : ∀ x ∈ T, errO x = 0) :
    ∀ {l : List OpX} (i : Nat) {fresh : List OpX}, (∀ x ∈ l, x ∈ T) → (∀ x ∈ fresh, x ∈ T) → ∃ out, siftS S i fresh l = .inr out ∧ ∀ x ∈ out, x ∈ T
  | [], i, fresh, _, hf => ⟨fresh, rfl, hf⟩
  | o :: t, i, fresh, hl, hf => by
    have ho := hok o (hl o List.mem_cons_self)
    cases hk : lookK (S ++ fresh) (byO o) (numO o) with
    | none =>
      rw [sift_new ho hk]
      refine sift_fine h1 hT hc hok (i + 1) (fun x hx => hl x (List.mem_cons_of_mem _ hx)) (fun x hx => ?_)
      rcases List.mem_append.1 hx with q | q
      · exact hf x q
      · rw [List.mem_singleton.1 q]; exact hl o List.mem_cons_self
    | some x =>
      obtain ⟨a, b, c⟩ := lookK_some hk
      have hx : x = o := by
        rcases List.mem_append.1 a with q | q
        · exact hc x q o (hl o List.mem_cons_self) b c
        · exact hT x (hf x q) o (hl o List.mem_cons_self) b c
      subst hx
      rw [sift_same ho hk]
      exact sift_fine h1 hT hc hok (i + 1) (fun x hx => hl x (List.mem_cons_of_mem _ hx)) hf
abbrev Rws := Nat → List OpX
def allR (R : Rws) : List OpX := R 0 ++ (R 1 ++ (R 2 ++ R 3))
theorem mem_allR {R : Rws} {x : OpX} : x ∈ allR R ↔ ∃ i, i < 4 ∧ x ∈ R i := by
  unfold allR
  simp only [List.mem_append]
  constructor
  · rintro (h | h | h | h)
    · exact ⟨0, by omega, h⟩
    · exact ⟨1, by omega, h⟩
    · exact ⟨2, by omega, h⟩
    · exact ⟨3, by omega, h⟩
  · rintro ⟨i, hi, h⟩
    match i, hi with
    | 0, _ => exact .inl h
    | 1, _ => exact .inr (.inl h)
    | 2, _ => exact .inr (.inr (.inl h))
    | 3, _ => exact .inr (.inr (.inr h))
def NumK (R : Rws) : Prop := ∀ i : Nat, i < 4 → ∀ (j : Nat) (x : OpX), (R i)[j]? = some x → byO x = (i : Int) ∧ numO x = (j : Int) + 1 ∧ errO x = 0
def upR (R : Rws) (i : Nat) (l : List OpX) : Rws := fun j => if j = i then l else R j
theorem numK_nil : NumK (fun _ => []) := fun i _ j x h => by simp at h
theorem by_nat {x : OpX} (h : errO x = 0) : ∃ i : Nat, i < 4 ∧ byO x = (i : Int) ∧ (byO x).toNat = i := by
  have h0 := opE_zero h
  have h1 : 0 ≤ byO x := h0.2.2.1
  have h2 : byO x < 4 := h0.2.2.2.1
  exact ⟨(byO x).toNat, by omega, by omega, rfl⟩
theorem NumK.get {R : Rws} (h : NumK R) {i : Nat} (hi : i < 4) {x : OpX} (hx : x ∈ R i) : ∃ j : Nat, (R i)[j]? = some x ∧ byO x = (i : Int) ∧ numO x = (j : Int) + 1 ∧ errO x = 0 := by
  obtain ⟨j, hj, rfl⟩ := List.getElem_of_mem hx
  have e := List.getElem?_eq_getElem hj
  exact ⟨j, e, h i hi j _ e⟩
theorem NumK.one {R : Rws} (h : NumK R) : ∀ x ∈ allR R, ∀ y ∈ allR R, byO x = byO y → numO x = numO y → x = y := by
  intro x hx y hy e1 e2
  obtain ⟨i, hi, hx⟩ := mem_allR.1 hx
  obtain ⟨k, hk, hy⟩ := mem_allR.1 hy
  obtain ⟨j, a1, a2, a3, _⟩ := h.get hi hx
  obtain ⟨j', b1, b2, b3, _⟩ := h.get hk hy
  obtain rfl : i = k := by omega
  obtain rfl : j = j' := by omega
  rw [a1] at b1
  exact Option.some.inj b1
theorem NumK.ok {R : Rws} (h : NumK R) : ∀ x ∈ allR R, errO x = 0 := by
  intro x hx
  obtain ⟨i, hi, hx⟩ := mem_allR.1 hx
  obtain ⟨_, _, _, _, h⟩ := h.get hi hx
  exact h
theorem NumK.gap {R : Rws} (h : NumK R) : ∀ x ∈ allR R, numO x = 1 ∨ ∃ y ∈ allR R, byO y = byO x ∧ numO y + 1 = numO x := by
  intro x hx
  obtain ⟨i, hi, hx⟩ := mem_allR.1 hx
  obtain ⟨j, a1, a2, a3, _⟩ := h.get hi hx
  cases j with
  | zero => exact .inl (by omega)
  | succ j =>
    have hl := (List.getElem?_eq_some_iff.1 a1).1
    have e := List.getElem?_eq_getElem (show j < (R i).length by omega)
    obtain ⟨b1, b2, _⟩ := h i hi j _ e
    exact .inr ⟨_, mem_allR.2 ⟨i, hi, List.mem_of_getElem? e⟩, by omega, by omega⟩
theorem NumK.look {R : Rws} (h : NumK R) {i n : Nat} (hi : i < 4) : lookK (allR R) (i : Int) ((n : Int) + 1) = (R i)[n]? := by
  cases e : (R i)[n]? with
  | none =>
    refine lookK_none.2 (fun x hx ⟨e1, e2⟩ => ?_)
    obtain ⟨k, hk, hx⟩ := mem_allR.1 hx
    obtain ⟨j, a1, a2, a3, _⟩ := h.get hk hx
    obtain rfl : k = i := by omega
    obtain rfl : j = n := by omega
    rw [a1] at e
    cases e
  | some x =>
    obtain ⟨b1, b2, _⟩ := h i hi n x e
    rw [← b1, ← b2]
    exact lookK_is h.one (mem_allR.2 ⟨i, hi, List.mem_of_getElem? e⟩)
theorem mem_up {R : Rws} {i : Nat} (hi : i < 4) {o : OpX} {x : OpX} : x ∈ allR (upR R i (R i ++ [o])) ↔ x ∈ allR R ∨ x = o := by
  constructor
  · intro h
    obtain ⟨k, hk, h⟩ := mem_allR.1 h
    unfold upR at h
    split at h
    · rename_i e
      subst e
      rcases List.mem_append.1 h with h | h
      · exact .inl (mem_allR.2 ⟨_, hk, h⟩)
      · exact .inr (List.mem_singleton.1 h)
    · exact .inl (mem_allR.2 ⟨k, hk, h⟩)
  · rintro (h | rfl)
    · obtain ⟨k, hk, h⟩ := mem_allR.1 h
      refine mem_allR.2 ⟨k, hk, ?_⟩
      unfold upR
      split
      · rename_i e
        subst e
        exact List.mem_append_left _ h
      · exact h
    · refine mem_allR.2 ⟨i, hi, ?_⟩
      unfold upR
      rw [if_pos rfl]
      simp
theorem NumK.up {R : Rws} (h : NumK R) {i : Nat} {o : OpX} (ho : errO o = 0) (hb : byO o = (i : Int)) (hn : numO o = ((R i).length : Int) + 1) : NumK (upR R i (R i ++ [o])) := by
  intro k hk j x hx
  unfold upR at hx
  split at hx
  · rename_i e
    subst e
    rw [List.getElem?_append] at hx
    split at hx
    · exact h _ hk j x hx
    · rename_i hj
      obtain ⟨d, hd⟩ : ∃ d, d = j - (R k).length := ⟨_, rfl⟩
      rw [← hd] at hx
      cases d with
      | zero =>
        cases hx
        exact ⟨hb, by omega, ho⟩
      | succ d => simp at hx
  · exact h k hk j x hx
def Gap (S : List OpX) : Prop := ∃ x ∈ S, numO x ≠ 1 ∧ ¬ ∃ y ∈ S, byO y = byO x ∧ numO y + 1 = numO x
def Falls (S : List OpX) : Prop := ∃ x ∈ S, ∃ y ∈ S, byO x = byO y ∧ numO x + 1 = numO y ∧ ¬ CLt (stO x) (stO y)
theorem Gap.congr {S T : List OpX} (e : ∀ x, x ∈ S ↔ x ∈ T) (h : Gap S) : Gap T := by
  obtain ⟨x, hx, h1, h2⟩ := h
  exact ⟨x, (e x).1 hx, h1, fun ⟨y, hy, q⟩ => h2 ⟨y, (e y).2 hy, q⟩⟩
theorem Falls.congr {S T : List OpX} (e : ∀ x, x ∈ S ↔ x ∈ T) (h : Falls S) : Falls T := by
  obtain ⟨x, hx, y, hy, q⟩ := h
  exact ⟨x, (e x).1 hx, y, (e y).1 hy, q⟩
theorem NumK.nogap {R : Rws} (h : NumK R) : ¬ Gap (allR R) := fun ⟨x, hx, h1, h2⟩ => by
  rcases h.gap x hx with q | q
  · exact h1 q
  · exact h2 q
def riseB (l : List OpX) (o : OpX) : Bool := match l.getLast? with
  | none => true
  | some y => decide (CLt (stO y) (stO o))
def withGo : Rws → Bool → List OpX → Option (Rws × Bool)
  | R, z, [] => some (R, z)
  | R, z, o :: t => if numO o = ((R (byO o).toNat).length : Int) + 1 then withGo (upR R (byO o).toNat (R (byO o).toNat ++ [o])) (z && riseB (R (byO o).toNat) o) t else none
theorem falls_up {R : Rws} (h : NumK R) {i : Nat} (hi : i < 4) {o : OpX} (hb : byO o = (i : Int)) (hn : numO o = ((R i).length : Int) + 1) : Falls (allR (upR R i (R i ++ [o]))) ↔ Falls (allR R) ∨ riseB (R i) o = false := by
  have hlast : ∀ y, (R i).getLast? = some y → y ∈ allR R ∧ byO y = byO o ∧ numO y + 1 = numO o := fun y hy => by
    have hy' : (R i)[(R i).length - 1]? = some y := by rw [← List.getLast?_eq_getElem?]; exact hy
    have hl := (List.getElem?_eq_some_iff.1 hy').1
    obtain ⟨a, b, _⟩ := h i hi _ y hy'
    exact ⟨mem_allR.2 ⟨i, hi, List.mem_of_getElem? hy'⟩, by omega, by omega⟩
  constructor
  · rintro ⟨x, hx, y, hy, e1, e2, e3⟩
    rcases (mem_up hi).1 hx with hx1 | rfl
    · rcases (mem_up hi).1 hy with hy1 | rfl
      · exact .inl ⟨x, hx1, y, hy1, e1, e2, e3⟩
      · refine .inr ?_
        obtain ⟨k, hk, hx'⟩ := mem_allR.1 hx1
        obtain ⟨j, a1, a2, a3, _⟩ := h.get hk hx'
        obtain rfl : k = i := by omega
        have hj : j = (R k).length - 1 := by omega
        have hlst : (R k).getLast? = some x := by rw [List.getLast?_eq_getElem?, ← hj]; exact a1
        unfold riseB
        rw [hlst]
        exact decide_eq_false e3
    · exfalso
      rcases (mem_up hi).1 hy with hy | rfl
      · obtain ⟨k, hk, hy'⟩ := mem_allR.1 hy
        obtain ⟨j, a1, a2, a3, _⟩ := h.get hk hy'
        obtain rfl : k = i := by omega
        have := (List.getElem?_eq_some_iff.1 a1).1
        omega
      · omega
  · rintro (⟨x, hx, y, hy, q⟩ | hr)
    · exact ⟨x, (mem_up hi).2 (.inl hx), y, (mem_up hi).2 (.inl hy), q⟩
    · unfold riseB at hr
      cases hl : (R i).getLast? with
      | none => rw [hl] at hr; cases hr
      | some y =>
        rw [hl] at hr
        obtain ⟨a, b, c⟩ := hlast y hl
        exact ⟨y, (mem_up hi).2 (.inl a), o, (mem_up hi).2 (.inr rfl), b, c, of_decide_eq_false hr⟩
theorem withGo_is : ∀ (F : List OpX) (R : Rws) (z : Bool), NumK R → FreshK (allR R) F → F.Pairwise (fun a b => numO a ≤ numO b) → (z = true ↔ ¬ Falls (allR R)) →
    (withGo R z F = none ∧ Gap (allR R ++ F)) ∨ ∃ R' z', withGo R z F = some (R', z') ∧ ¬ Gap (allR R ++ F) ∧ NumK R' ∧ (∀ x, x ∈ allR R' ↔ x ∈ allR R ++ F) ∧ (z' = true ↔ ¬ Falls (allR R ++ F)) ∧ (allR R').length = (allR R).length + F.length ∧ ∀ i, ∃ t, R' i = R i ++ t
  | [], R, z, hN, _, _, hz => .inr ⟨R, z, rfl, by rw [List.append_nil]; exact hN.nogap, hN, fun x => by rw [List.append_nil], by rw [List.append_nil]; exact hz, by simp, fun i => ⟨[], by simp⟩⟩
  | o :: t, R, z, hN, hF, hs, hz => by
    have ho := hF.ok o List.mem_cons_self
    obtain ⟨i, hi, hb, hbn⟩ := by_nat ho
    by_cases hn : numO o = ((R i).length : Int) + 1
    · have hN1 := hN.up ho hb hn
      have hF1 : FreshK (allR (upR R i (R i ++ [o]))) t := by
        refine ⟨fun x hx => hF.ok x (List.mem_cons_of_mem _ hx), fun x hx y hy => ?_, (List.pairwise_cons.1 hF.one).2⟩
        rcases (mem_up hi).1 hy with hy | rfl
        · exact hF.off x (List.mem_cons_of_mem _ hx) y hy
        · exact (List.pairwise_cons.1 hF.one).1 x hx
      have hz1 : (z && riseB (R i) o) = true ↔ ¬ Falls (allR (upR R i (R i ++ [o]))) := by
        rw [falls_up hN hi hb hn, Bool.and_eq_true, hz]
        cases riseB (R i) o <;> simp
      have hmem : ∀ x, x ∈ allR (upR R i (R i ++ [o])) ++ t ↔ x ∈ allR R ++ o :: t := fun x => by
        simp only [List.mem_append, mem_up hi, List.mem_cons]
        constructor
        · rintro ((h | h) | h)
          · exact .inl h
          · exact .inr (.inl h)
          · exact .inr (.inr h)
        · rintro (h | h | h)
          · exact .inl (.inl h)
          · exact .inl (.inr h)
          · exact .inr h
      have hg : withGo R z (o :: t) = withGo (upR R i (R i ++ [o])) (z && riseB (R i) o) t := by rw [withGo, hbn, if_pos hn]
      have hlen : (allR (upR R i (R i ++ [o]))).length = (allR R).length + 1 := by
        unfold allR upR
        match i, hi with
        | 0, _ => simp; omega
        | 1, _ => simp; omega
        | 2, _ => simp; omega
        | 3, _ => simp; omega
      rcases withGo_is t _ _ hN1 hF1 (List.pairwise_cons.1 hs).2 hz1 with ⟨a, b⟩ | ⟨R', z', a, b, c, d, e, f, g⟩
      · exact .inl ⟨hg.trans a, b.congr hmem⟩
      · refine .inr ⟨R', z', hg.trans a, fun q => b (q.congr (fun x => (hmem x).symm)), c, fun x => (d x).trans (hmem x), e.trans (not_congr ⟨fun q => q.congr hmem, fun q => q.congr (fun x => (hmem x).symm)⟩), by rw [f, hlen, List.length_cons]; omega, fun k => ?_⟩
        obtain ⟨t', ht'⟩ := g k
        unfold upR at ht'
        split at ht'
        · rename_i ek
          subst ek
          exact ⟨o :: t', by rw [ht']; simp⟩
        · exact ⟨t', ht'⟩
    · refine .inl ⟨by rw [withGo, hbn, if_neg hn], o, by simp, ?_, ?_⟩
      · intro h1
        have hlt : 0 < (R i).length := by omega
        have e := List.getElem?_eq_getElem hlt
        obtain ⟨b1, b2, _⟩ := hN i hi 0 _ e
        exact hF.off o List.mem_cons_self _ (mem_allR.2 ⟨i, hi, List.mem_of_getElem? e⟩) ⟨by omega, by omega⟩
      · rintro ⟨y, hy, e1, e2⟩
        rcases List.mem_append.1 hy with hy | hy
        · obtain ⟨k, hk, hy⟩ := mem_allR.1 hy
          obtain ⟨j, a1, a2, a3, _⟩ := hN.get hk hy
          obtain rfl : k = i := by omega
          have hj := (List.getElem?_eq_some_iff.1 a1).1
          have hl : j + 1 < (R k).length := by
            rcases Nat.lt_or_ge (j + 1) (R k).length with q | q
            · exact q
            · exact absurd (by omega) hn
          have e := List.getElem?_eq_getElem hl
          obtain ⟨b1, b2, _⟩ := hN k hk (j + 1) _ e
          exact hF.off o List.mem_cons_self _ (mem_allR.2 ⟨k, hk, List.mem_of_getElem? e⟩) ⟨by omega, by push_cast at b2; omega⟩
        · rcases List.mem_cons.1 hy with rfl | hy
          · omega
          · have := (List.pairwise_cons.1 hs).1 y hy
            omega
structure RowsK (R : Rws) : Prop where
  num : NumK R
  well : WellK (allR R)
theorem rowsK_nil : RowsK (fun _ => []) := ⟨numK_nil, by unfold allR; exact wellK_nil⟩
theorem RowsK.nofall {R : Rws} (h : RowsK R) : ¬ Falls (allR R) := fun ⟨x, hx, y, hy, e1, e2, e3⟩ => e3 (h.well.rise x hx y hy e1 e2)
theorem RowsK.rise {R : Rws} (h : RowsK R) {i : Nat} (hi : i < 4) : (R i).Pairwise (fun a b => CLt (stO a) (stO b)) := by
  rw [List.pairwise_iff_getElem]
  intro a b ha hb hab
  have ea := List.getElem?_eq_getElem ha
  have eb := List.getElem?_eq_getElem hb
  obtain ⟨a1, a2, _⟩ := h.num i hi a _ ea
  obtain ⟨b1, b2, _⟩ := h.num i hi b _ eb
  exact h.well.less (mem_allR.2 ⟨i, hi, List.mem_of_getElem? ea⟩) (b - a - 1) (mem_allR.2 ⟨i, hi, List.mem_of_getElem? eb⟩) (by omega) (by omega)
structure RowsN (R : Rws) : Prop where
  num : NumK R
  up : ∀ x ∈ allR R, ∀ y ∈ allR R, byO x = byO y → numO x + 1 = numO y → CLt (stO x) (stO y)
theorem RowsK.toN {R : Rws} (h : RowsK R) : RowsN R := ⟨h.num, h.well.rise⟩
theorem RowsN.less {R : Rws} (h : RowsN R) {x : OpX} (hx : x ∈ allR R) : ∀ (d : Nat) {y : OpX}, y ∈ allR R → byO x = byO y → numO x + (d + 1) = numO y → CLt (stO x) (stO y)
  | 0, y, hy, e1, e2 => h.up x hx y hy e1 (by omega)
  | d + 1, y, hy, e1, e2 => by
    rcases h.num.gap y hy with q | ⟨z, hz, z1, z2⟩
    · have := num_pos (h.num.ok x hx)
      omega
    · exact clt_trans (h.less hx d hz (by omega) (by omega)) (h.up z hz y hy z1 z2)
theorem RowsN.stamp {R : Rws} (h : RowsN R) {x y : OpX} (hx : x ∈ allR R) (hy : y ∈ allR R) (e : stO x = stO y) : x = y := by
  have e1 : byO x = byO y := (Prod.mk.inj e).2
  rcases Int.lt_trichotomy (numO x) (numO y) with q | q | q
  · have := h.less hx (numO y - numO x - 1).toNat hy e1 (by omega)
    rw [e] at this
    exact absurd this clt_irrefl
  · exact h.num.one x hx y hy e1 q
  · have := h.less hy (numO x - numO y - 1).toNat hx e1.symm (by omega)
    rw [e] at this
    exact absurd this clt_irrefl
theorem RowsN.rise {R : Rws} (h : RowsN R) {i : Nat} (hi : i < 4) : (R i).Pairwise (fun a b => CLt (stO a) (stO b)) := by
  rw [List.pairwise_iff_getElem]
  intro a b ha hb hab
  have ea := List.getElem?_eq_getElem ha
  have eb := List.getElem?_eq_getElem hb
  obtain ⟨a1, a2, _⟩ := h.num i hi a _ ea
  obtain ⟨b1, b2, _⟩ := h.num i hi b _ eb
  exact h.less (mem_allR.2 ⟨i, hi, List.mem_of_getElem? ea⟩) (b - a - 1) (mem_allR.2 ⟨i, hi, List.mem_of_getElem? eb⟩) (by omega) (by omega)
def JoinIs (S l : List OpX) (a : (Int × Nat) ⊕ List OpX) : Prop := match siftS S 0 [] l with
  | .inl (i, c) => a = .inl ((i : Int), c)
  | .inr fresh => (Gap (S ++ fresh) ∧ a = .inl (-1, 9)) ∨ (¬ Gap (S ++ fresh) ∧ Falls (S ++ fresh) ∧ a = .inl (-1, 3)) ∨ (¬ Gap (S ++ fresh) ∧ ¬ Falls (S ++ fresh) ∧ (∃ x ∈ S ++ fresh, ¬ RefOk (S ++ fresh) x) ∧ a = .inl (-1, 6)) ∨ (WellK (S ++ fresh) ∧ 400 < S.length + fresh.length ∧ a = .inl (-1, 8)) ∨ (WellK (S ++ fresh) ∧ S.length + fresh.length ≤ 400 ∧ a = .inr fresh)
end Go.Proofs.YtehighgebbdenaaGreatDoor
end
section
namespace Go.Proofs.YtehighgebbdenaaGreatDoor
abbrev Ltr := Int × Nat × Bool
def laid (x : Ltr) : List Ltr → List Ltr
  | [] => [x]
  | h :: t => if x.1 < h.1 then h :: laid x t else x :: h :: t
def putB (b : Int) (x : Ltr) : List Ltr → List Ltr
  | [] => []
  | h :: t => if h.1 = b then h :: laid x t else h :: putB b x t
def put (b : Int) (x : Ltr) (L : List Ltr) : List Ltr := if b = 0 then laid x L else putB b x L
theorem laid_yes {x h : Ltr} (k : x.1 < h.1) (t : List Ltr) : laid x (h :: t) = h :: laid x t := by simp [laid, k]
theorem laid_no {x h : Ltr} (k : ¬ x.1 < h.1) (t : List Ltr) : laid x (h :: t) = x :: h :: t := by simp [laid, k]
theorem putB_yes {b : Int} {x h : Ltr} (k : h.1 = b) (t : List Ltr) : putB b x (h :: t) = h :: laid x t := by simp [putB, k]
theorem putB_no {b : Int} {x h : Ltr} (k : h.1 ≠ b) (t : List Ltr) : putB b x (h :: t) = h :: putB b x t := by simp [putB, k]
theorem laid_comm (x y : Ltr) (h : x.1 ≠ y.1) : ∀ L, laid y (laid x L) = laid x (laid y L)
  | [] => by
    by_cases k : x.1 < y.1
    · rw [show laid x [] = [x] from rfl, show laid y [] = [y] from rfl, laid_yes k, laid_no (by omega)]; rfl
    · rw [show laid x [] = [x] from rfl, show laid y [] = [y] from rfl, laid_no k, laid_yes (by omega)]; rfl
  | g :: t => by
    by_cases kx : x.1 < g.1
    · by_cases ky : y.1 < g.1
      · rw [laid_yes kx, laid_yes ky, laid_yes ky, laid_yes kx, laid_comm x y h t]
      · rw [laid_yes kx, laid_no ky, laid_no ky, laid_yes (by omega), laid_yes kx]
    · by_cases ky : y.1 < g.1
      · rw [laid_no kx, laid_yes ky, laid_yes (by omega), laid_yes ky, laid_no kx]
      · rw [laid_no kx, laid_no ky]
        by_cases k : x.1 < y.1
        · rw [laid_no (by omega), laid_yes k, laid_no kx]
        · rw [laid_yes (by omega), laid_no k, laid_no ky]
theorem putB_laid (x y : Ltr) (b : Int) (h : x.1 ≠ y.1) (hb : b ≠ x.1) : ∀ L, putB b y (laid x L) = laid x (putB b y L)
  | [] => by
    rw [show laid x [] = [x] from rfl, putB_no (fun e => hb e.symm)]; rfl
  | g :: t => by
    by_cases kx : x.1 < g.1
    · rw [laid_yes kx]
      by_cases kb : g.1 = b
      · rw [putB_yes kb, putB_yes kb, laid_yes kx, laid_comm x y h t]
      · rw [putB_no kb, putB_no kb, laid_yes kx, putB_laid x y b h hb t]
    · rw [laid_no kx, putB_no (fun e => hb e.symm)]
      by_cases kb : g.1 = b
      · rw [putB_yes kb, laid_no kx]
      · rw [putB_no kb, laid_no kx]
theorem putB_comm (x y : Ltr) (a b : Int) (h : x.1 ≠ y.1) (ha : a ≠ y.1) (hb : b ≠ x.1) : ∀ L, putB b y (putB a x L) = putB a x (putB b y L)
  | [] => rfl
  | g :: t => by
    by_cases ka : g.1 = a
    · rw [putB_yes ka]
      by_cases kb : g.1 = b
      · rw [putB_yes kb, putB_yes kb, putB_yes ka, laid_comm x y h t]
      · rw [putB_no kb, putB_no kb, putB_yes ka, putB_laid x y b h hb t]
    · rw [putB_no ka]
      by_cases kb : g.1 = b
      · rw [putB_yes kb, putB_yes kb, putB_no ka, putB_laid y x a (fun e => h e.symm) ha t]
      · rw [putB_no kb, putB_no kb, putB_no ka, putB_comm x y a b h ha hb t]
theorem put_comm (x y : Ltr) (a b : Int) (h : x.1 ≠ y.1) (ha : a ≠ y.1) (hb : b ≠ x.1) (L : List Ltr) : put b y (put a x L) = put a x (put b y L) := by
  unfold put
  by_cases h0 : a = 0
  · rw [if_pos h0, if_pos h0]
    by_cases h1 : b = 0
    · rw [if_pos h1, if_pos h1, laid_comm x y h]
    · rw [if_neg h1, if_neg h1, putB_laid x y b h hb]
  · rw [if_neg h0, if_neg h0]
    by_cases h1 : b = 0
    · rw [if_pos h1, if_pos h1, putB_laid y x a (fun e => h e.symm) ha]
    · rw [if_neg h1, if_neg h1, putB_comm x y a b h ha hb]
def putAll (s : List (Int × Ltr)) (L : List Ltr) : List Ltr := s.foldl (fun L m => put m.1 m.2 L) L
theorem putAll_app (s r : List (Int × Ltr)) (L : List Ltr) : putAll (s ++ r) L = putAll r (putAll s L) := by simp [putAll]
theorem putAll_one (m : Int × Ltr) (L : List Ltr) : putAll [m] L = put m.1 m.2 L := rfl
theorem putAll_past (m : Int × Ltr) : ∀ (r : List (Int × Ltr)) (L : List Ltr), (∀ y ∈ r, m.2.1 ≠ y.2.1 ∧ m.1 ≠ y.2.1 ∧ y.1 ≠ m.2.1) → putAll r (put m.1 m.2 L) = put m.1 m.2 (putAll r L)
  | [], _, _ => rfl
  | y :: r, L, h => by
    obtain ⟨h1, h2, h3⟩ := h y (by simp)
    show putAll r (put y.1 y.2 (put m.1 m.2 L)) = put m.1 m.2 (putAll r (put y.1 y.2 L))
    rw [put_comm m.2 y.2 m.1 y.1 h1 h2 h3]
    exact putAll_past m r _ (fun z hz => h z (by simp [hz]))
def First (s : List (Int × Ltr)) : Prop := (s.map (·.2.1)).Nodup ∧ (∀ m ∈ s, m.2.1 ≠ 0) ∧ ∀ u m v, s = u ++ m :: v → m.1 = 0 ∨ ∃ y ∈ u, y.2.1 = m.1
theorem first_init {s : List (Int × Ltr)} {m : Int × Ltr} (h : First (s ++ [m])) : First s := by
  obtain ⟨h1, h2, h3⟩ := h
  rw [List.map_append] at h1
  refine ⟨(List.nodup_append.1 h1).1, fun x hx => h2 x (by simp [hx]), fun u x v e => h3 u x (v ++ [m]) (by rw [e]; simp)⟩
theorem first_last {s : List (Int × Ltr)} {m : Int × Ltr} (h : First (s ++ [m])) : ∀ y ∈ s, y.2.1 ≠ m.2.1 ∧ y.1 ≠ m.2.1 := by
  obtain ⟨h1, h2, h3⟩ := h
  rw [List.map_append] at h1
  have hd : ∀ y ∈ s, y.2.1 ≠ m.2.1 := fun y hy e => (List.nodup_append.1 h1).2.2 _ (List.mem_map.2 ⟨y, hy, rfl⟩) _ (by simp) e
  intro y hy
  refine ⟨hd y hy, fun e => ?_⟩
  obtain ⟨u, v, rfl⟩ := List.append_of_mem hy
  rcases h3 u y (v ++ [m]) (by simp) with h0 | ⟨z, hz, he⟩
  · exact h2 m (by simp) (by rw [← e, h0])
  · exact hd z (by simp [hz]) (by rw [he, e])
theorem first_drop {u v : List (Int × Ltr)} {m : Int × Ltr} (h : First (u ++ m :: v)) (hm : ∀ y ∈ v, y.1 ≠ m.2.1) : First (u ++ v) := by
  obtain ⟨h1, h2, h3⟩ := h
  have hsub : (u ++ v).Sublist (u ++ m :: v) := List.Sublist.append_left (List.sublist_cons_self _ _) u
  refine ⟨h1.sublist (hsub.map _), fun x hx => h2 x (hsub.subset hx), fun a x b e => ?_⟩
  rcases List.append_eq_append_iff.1 e with ⟨c, rfl, hc⟩ | ⟨c, rfl, hc⟩
  · rcases h3 (u ++ m :: c) x b (by rw [hc]; simp) with h0 | ⟨z, hz, he⟩
    · exact .inl h0
    · right
      rcases List.mem_append.1 hz with hz | hz
      · exact ⟨z, by simp [hz], he⟩
      · rcases List.mem_cons.1 hz with rfl | hz
        · exact absurd he.symm (hm x (by rw [hc]; simp))
        · exact ⟨z, by simp [hz], he⟩
  · cases c with
    | nil =>
      simp only [List.append_nil, List.nil_append] at hc h3 ⊢
      rcases h3 (a ++ [m]) x b (by rw [← hc]; simp) with h0 | ⟨z, hz, he⟩
      · exact .inl h0
      · right
        rcases List.mem_append.1 hz with hz | hz
        · exact ⟨z, hz, he⟩
        · rw [List.mem_singleton] at hz
          subst hz
          exact absurd he.symm (hm x (by rw [← hc]; simp))
    | cons y c =>
      injection hc with e1 e2
      subst e1
      exact h3 a x (c ++ m :: v) (by simp)
theorem snoc_cases {α : Type} : ∀ (l : List α), l = [] ∨ ∃ s m, l = s ++ [m]
  | [] => .inl rfl
  | x :: t => by
    rcases snoc_cases t with rfl | ⟨s, m, rfl⟩
    · exact .inr ⟨[], x, rfl⟩
    · exact .inr ⟨x :: s, m, rfl⟩
theorem putAll_turned : ∀ (n : Nat) (s r : List (Int × Ltr)), s.length = n → s.Perm r → First s → First r → putAll s [] = putAll r []
  | 0, s, r, hn, hp, _, _ => by
    obtain rfl := List.length_eq_zero_iff.1 hn
    rw [hp.symm.eq_nil]
  | n + 1, s, r, hn, hp, hs, hr => by
    rcases snoc_cases s with rfl | ⟨s', m, rfl⟩
    · simp at hn
    · obtain ⟨u, v, rfl⟩ := List.append_of_mem (hp.mem_iff.1 (show m ∈ s' ++ [m] by simp))
      have hl := first_last hs
      have hp' : s'.Perm (u ++ v) := by
        have h1 : (m :: s').Perm (m :: (u ++ v)) := ((List.perm_append_singleton m s').symm.trans hp).trans List.perm_middle
        exact h1.cons_inv
      have hv : ∀ y ∈ v, y.2.1 ≠ m.2.1 ∧ y.1 ≠ m.2.1 := fun y hy => hl y (hp'.mem_iff.2 (by simp [hy]))
      have hmv : ∀ y ∈ v, m.1 ≠ y.2.1 := by
        intro y hy e
        obtain ⟨h1, h2, h3⟩ := hr
        rcases h3 u m v rfl with h0 | ⟨z, hz, he⟩
        · exact h2 y (by simp [hy]) (by rw [← e, h0])
        · rw [List.map_append, List.map_cons] at h1
          exact (List.nodup_append.1 h1).2.2 _ (List.mem_map.2 ⟨z, hz, rfl⟩) _ (List.mem_cons_of_mem _ (List.mem_map.2 ⟨y, hy, rfl⟩)) (by rw [he, e])
      have hr' := first_drop hr (fun y hy => (hv y hy).2)
      have ih := putAll_turned n s' (u ++ v) (by simpa using hn) hp' (first_init hs) hr'
      rw [putAll_app, putAll_one, ih, show u ++ m :: v = u ++ ([m] ++ v) by simp, putAll_app, putAll_app, putAll_app, putAll_one]
      exact (putAll_past m v _ (fun y hy => ⟨fun e => (hv y hy).1 e.symm, hmv y hy, (hv y hy).2⟩)).symm
end Go.Proofs.YtehighgebbdenaaGreatDoor
end
section
namespace Go.Proofs.YtehighgebbdenaaGreatDoor
def skipN (x : Int) : List Ltr → Nat
  | [] => 0
  | h :: t => if x < h.1 then skipN x t + 1 else 0
def findL (b : Int) : List Ltr → Option Nat
  | [] => none
  | h :: t => if h.1 = b then some 0 else (findL b t).map (· + 1)
theorem skipN_le (x : Int) : ∀ L, skipN x L ≤ L.length
  | [] => Nat.le_refl _
  | h :: t => by
    unfold skipN
    split
    · have := skipN_le x t; simp; omega
    · omega
theorem skipN_is {x : Int} : ∀ {L : List Ltr} {n : Nat}, n ≤ L.length → (∀ i l, i < n → L[i]? = some l → x < l.1) → (∀ l, L[n]? = some l → ¬ x < l.1) → skipN x L = n
  | [], n, hn, _, _ => by simp at hn; simp [skipN, hn]
  | g :: t, 0, _, _, h2 => by
    unfold skipN
    rw [if_neg (h2 g rfl)]
  | g :: t, n + 1, hn, h1, h2 => by
    unfold skipN
    rw [if_pos (h1 0 g (by omega) rfl), skipN_is (n := n) (by simpa using hn) (fun i l hi e => h1 (i + 1) l (by omega) (by simpa using e)) (fun l e => h2 l (by simpa using e))]
theorem laid_at (x : Ltr) : ∀ L, laid x L = L.take (skipN x.1 L) ++ x :: L.drop (skipN x.1 L)
  | [] => rfl
  | h :: t => by
    unfold skipN
    by_cases k : x.1 < h.1
    · rw [laid_yes k, if_pos k, laid_at x t]; rfl
    · rw [laid_no k, if_neg k]; rfl
theorem findL_some {b : Int} : ∀ {L : List Ltr} {i : Nat}, findL b L = some i → ∃ l, L[i]? = some l ∧ l.1 = b
  | [], i, h => by simp [findL] at h
  | g :: t, i, h => by
    unfold findL at h
    split at h
    · cases h; exact ⟨g, rfl, by assumption⟩
    · cases hf : findL b t with
      | none => rw [hf] at h; cases h
      | some j =>
        rw [hf] at h
        cases h
        obtain ⟨l, h1, h2⟩ := findL_some hf
        exact ⟨l, by simpa using h1, h2⟩
theorem findL_none {b : Int} : ∀ {L : List Ltr}, findL b L = none → ∀ l ∈ L, l.1 ≠ b
  | [], _, l, hl => by simp at hl
  | g :: t, h, l, hl => by
    unfold findL at h
    split at h
    · cases h
    · have hf : findL b t = none := by simpa using h
      rcases List.mem_cons.1 hl with rfl | hl
      · assumption
      · exact findL_none hf l hl
theorem findL_isSome {b : Int} {L : List Ltr} (h : b ∈ L.map (·.1)) : ∃ i, findL b L = some i := by
  cases hf : findL b L with
  | some i => exact ⟨i, rfl⟩
  | none =>
    obtain ⟨l, hl, e⟩ := List.mem_map.1 h
    exact absurd e (findL_none hf l hl)
theorem findL_is {b : Int} : ∀ {L : List Ltr} {i : Nat} {l : Ltr}, L[i]? = some l → l.1 = b → (∀ j g, j < i → L[j]? = some g → g.1 ≠ b) → findL b L = some i
  | [], i, l, e, _, _ => by simp at e
  | g :: t, 0, l, e, h, _ => by
    cases e
    unfold findL
    rw [if_pos h]
  | g :: t, i + 1, l, e, h, hn => by
    unfold findL
    rw [if_neg (hn 0 g (by omega) rfl), findL_is (L := t) (i := i) (by simpa using e) h (fun j g' hj e' => hn (j + 1) g' (by omega) (by simpa using e'))]
    rfl
theorem putB_at (b : Int) (x : Ltr) : ∀ (L : List Ltr) (i : Nat), findL b L = some i → putB b x L = L.take (i + 1 + skipN x.1 (L.drop (i + 1))) ++ x :: L.drop (i + 1 + skipN x.1 (L.drop (i + 1)))
  | [], i, h => by simp [findL] at h
  | g :: t, i, h => by
    unfold findL at h
    by_cases k : g.1 = b
    · rw [if_pos k] at h
      cases h
      have e : 0 + 1 + skipN x.1 ((g :: t).drop (0 + 1)) = skipN x.1 t + 1 := by show 0 + 1 + skipN x.1 t = _; omega
      rw [putB_yes k, laid_at x t, e]
      rfl
    · rw [if_neg k] at h
      cases hf : findL b t with
      | none => rw [hf] at h; cases h
      | some j =>
        rw [hf] at h
        cases h
        have e : j + 1 + 1 + skipN x.1 ((g :: t).drop (j + 1 + 1)) = j + 1 + skipN x.1 (t.drop (j + 1)) + 1 := by show j + 1 + 1 + skipN x.1 (t.drop (j + 1)) = _; omega
        rw [putB_no k, putB_at b x t j hf, e]
        rfl
def placeL (b id : Int) (L : List Ltr) : Nat := if b = 0 then skipN id L else match findL b L with
  | none => 0
  | some i => i + 1 + skipN id (L.drop (i + 1))
theorem put_at {b : Int} {x : Ltr} {L : List Ltr} (h : b = 0 ∨ b ∈ L.map (·.1)) : placeL b x.1 L ≤ L.length ∧ put b x L = L.take (placeL b x.1 L) ++ x :: L.drop (placeL b x.1 L) := by
  unfold put placeL
  by_cases h0 : b = 0
  · rw [if_pos h0, if_pos h0]
    exact ⟨skipN_le _ _, laid_at x L⟩
  · rw [if_neg h0, if_neg h0]
    obtain ⟨i, hi⟩ := findL_isSome (h.resolve_left h0)
    rw [hi]
    obtain ⟨l, hl, _⟩ := findL_some hi
    have h1 := (List.getElem?_eq_some_iff.1 hl).1
    have h2 := skipN_le x.1 (L.drop (i + 1))
    rw [List.length_drop] at h2
    exact ⟨by dsimp only; omega, putB_at b x L i hi⟩
theorem put_perm {b : Int} {x : Ltr} {L : List Ltr} (h : b = 0 ∨ b ∈ L.map (·.1)) : (put b x L).Perm (x :: L) := by
  rw [(put_at h).2]
  refine List.perm_middle.trans ?_
  rw [List.take_append_drop]
theorem put_len {b : Int} {x : Ltr} {L : List Ltr} (h : b = 0 ∨ b ∈ L.map (·.1)) : (put b x L).length = L.length + 1 := by rw [(put_perm h).length_eq]; rfl
theorem put_ids {b : Int} {x : Ltr} {L : List Ltr} (h : b = 0 ∨ b ∈ L.map (·.1)) : ((put b x L).map (·.1)).Perm (x.1 :: L.map (·.1)) := (put_perm h).map _
def gone (id : Int) (L : List Ltr) : List Ltr := L.map fun l => if l.1 = id then (l.1, l.2.1, true) else l
def seenOf (L : List Ltr) : List Ltr := L.filter fun l => !l.2.2
end Go.Proofs.YtehighgebbdenaaGreatDoor
end
section
namespace Go.Proofs.YtehighgebbdenaaGreatDoor
def IdxIs (p : Ltr → Bool) (zs : List Ltr) (r : Int) : Prop :=
  (r = -1 ∧ ∀ l ∈ zs, p l = false) ∨ ∃ (i : Nat) (l : Ltr), r = (i : Int) ∧ zs[i]? = some l ∧ p l = true ∧ ∀ j g, j < i → zs[j]? = some g → p g = false
def findI (b : Int) (L : List Ltr) : Int := match findL b L with
  | none => -1
  | some i => (i : Int)
theorem findI_is {b r : Int} {L : List Ltr} (h : IdxIs (fun l => decide (l.1 = b)) L r) : r = findI b L := by
  unfold findI
  rcases h with ⟨rfl, h⟩ | ⟨i, l, rfl, hl, hp, hn⟩
  · cases hf : findL b L with
    | none => rfl
    | some i =>
      obtain ⟨l, h1, h2⟩ := findL_some hf
      have := h l (List.mem_of_getElem? h1)
      simp [h2] at this
  · rw [findL_is hl (by simpa using hp) (fun j g hj hg => by simpa using hn j g hj hg)]
theorem findI_neg {b : Int} {L : List Ltr} (h : b ∉ L.map (·.1)) : findI b L = -1 := by
  unfold findI
  cases hf : findL b L with
  | none => rfl
  | some i =>
    obtain ⟨l, h1, h2⟩ := findL_some hf
    exact absurd (List.mem_map.2 ⟨l, List.mem_of_getElem? h1, h2⟩) h
theorem findI_pos {b : Int} {L : List Ltr} (h : b ∈ L.map (·.1)) : ∃ i : Nat, findI b L = (i : Int) ∧ findL b L = some i ∧ i < L.length := by
  obtain ⟨i, hi⟩ := findL_isSome h
  obtain ⟨l, h1, _⟩ := findL_some hi
  exact ⟨i, by unfold findI; rw [hi], hi, (List.getElem?_eq_some_iff.1 h1).1⟩
theorem skip_is {id r : Int} {L : List Ltr} (hn : id ∉ L.map (·.1)) (h : IdxIs (fun l => decide (l.1 < id)) L r) : (r = -1 ∧ skipN id L = L.length) ∨ r = (skipN id L : Int) := by
  have hne : ∀ l ∈ L, l.1 ≠ id := fun l hl e => hn (List.mem_map.2 ⟨l, hl, e⟩)
  rcases h with ⟨rfl, h⟩ | ⟨i, l, rfl, hl, hp, hq⟩
  · refine .inl ⟨rfl, skipN_is (Nat.le_refl _) (fun i l _ e => ?_) (fun l e => by simp at e)⟩
    have h1 := h l (List.mem_of_getElem? e)
    have h2 := hne l (List.mem_of_getElem? e)
    simp at h1
    omega
  · right
    rw [skipN_is (n := i) (Nat.le_of_lt (List.getElem?_eq_some_iff.1 hl).1) (fun j g hj e => ?_) (fun g e => ?_)]
    · have h1 := hq j g hj e
      have h2 := hne g (List.mem_of_getElem? e)
      simp at h1
      omega
    · rw [hl] at e
      cases e
      simp at hp
      omega
theorem set_ids {L : List Ltr} {i : Nat} {l : Ltr} (h : L[i]? = some l) (c : Nat) (g : Bool) : (L.set i (l.1, c, g)).map (·.1) = L.map (·.1) := by
  rw [List.map_set]
  apply List.ext_getElem?
  intro j
  by_cases e : j = i
  · subst e
    have hl := (List.getElem?_eq_some_iff.1 h).1
    rw [List.getElem?_set_self (by simpa using hl)]
    simp [h]
  · rw [List.getElem?_set_ne (by omega)]
theorem put_nodup {b : Int} {x : Ltr} {L : List Ltr} (h : b = 0 ∨ b ∈ L.map (·.1)) (hn : (L.map (·.1)).Nodup) (hx : x.1 ∉ L.map (·.1)) : ((put b x L).map (·.1)).Nodup := by
  rw [(put_ids h).nodup_iff]
  exact List.nodup_cons.2 ⟨hx, hn⟩
end Go.Proofs.YtehighgebbdenaaGreatDoor
end
