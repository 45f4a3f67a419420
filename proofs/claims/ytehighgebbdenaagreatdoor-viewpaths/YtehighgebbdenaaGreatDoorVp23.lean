import Derived.Test.YtehighgebbdenaaGreatDoorVp02
import Derived.Test.YtehighgebbdenaaGreatDoorVp04
import Derived.Sort.LotA
import Derived.Shelf.SlSortCmp.KitK
import Derived.Deep.LoopGhost
import Derived.Lib.Hide
import Derived.Lib.AppendIntMem
section
namespace Go.Proofs.YtehighgebbdenaaGreatDoor
open Go.Sort
section
variable {β : Type} (lt : β → β → Bool)
def slt (x y : β × Nat) : Bool := lt x.1 y.1 || (!lt y.1 x.1 && decide (x.2 < y.2))
def tlt (x y : β × Nat) : Bool := lt x.1 y.1
end
section
variable {β : Type} {lt : β → β → Bool}
theorem slt_false {x y : β × Nat} : slt lt x y = false ↔ lt x.1 y.1 = false ∧ (lt y.1 x.1 = true ∨ y.2 ≤ x.2) := by
  unfold slt
  cases h1 : lt x.1 y.1 <;> cases h2 : lt y.1 x.1 <;> simp
theorem slt_swo (h : SWO lt) : SWO (slt lt) where
  irrefl x := by rw [slt_false]; exact ⟨h.irrefl _, .inr (Nat.le_refl _)⟩
  trans x y z h1 h2 := by
    have a1 : ¬ slt lt x y = false := by rw [h1]; simp
    have a2 : ¬ slt lt y z = false := by rw [h2]; simp
    rw [← Bool.not_eq_false, slt_false]
    rw [slt_false] at a1 a2
    rintro ⟨b1, b2⟩
    cases xy : lt x.1 y.1 with
    | true =>
      cases yz : lt y.1 z.1 with
      | true => rw [h.trans _ _ _ xy yz] at b1; cases b1
      | false =>
        cases zy : lt z.1 y.1 with
        | true => exact a2 ⟨yz, .inl zy⟩
        | false => rw [h.ntrans _ _ _ b1 zy] at xy; cases xy
    | false =>
      cases yx : lt y.1 x.1 with
      | true => exact a1 ⟨xy, .inl yx⟩
      | false =>
        have n1 : ¬ y.2 ≤ x.2 := fun e => a1 ⟨xy, .inr e⟩
        cases yz : lt y.1 z.1 with
        | true => rw [h.ntrans _ _ _ yx b1] at yz; cases yz
        | false =>
          cases zy : lt z.1 y.1 with
          | true => exact a2 ⟨yz, .inl zy⟩
          | false =>
            have n2 : ¬ z.2 ≤ y.2 := fun e => a2 ⟨yz, .inr e⟩
            rcases b2 with b2 | b2
            · rw [h.ntrans _ _ _ zy yx] at b2; cases b2
            · omega
  ntrans x y z h1 h2 := by
    rw [slt_false] at *
    obtain ⟨xy, a1⟩ := h1
    obtain ⟨yz, a2⟩ := h2
    refine ⟨h.ntrans _ _ _ xy yz, ?_⟩
    cases zx : lt z.1 x.1 with
    | true => exact .inl rfl
    | false =>
      refine .inr ?_
      rcases a1 with yx | e1
      · rw [h.ntrans _ _ _ yz zx] at yx; cases yx
      · rcases a2 with zy | e2
        · rw [h.ntrans _ _ _ zx xy] at zy; cases zy
        · omega
theorem slt_late {x y : β × Nat} (h : y.2 < x.2) : slt lt x y = tlt lt x y := by
  unfold slt tlt
  have : decide (x.2 < y.2) = false := by simp; omega
  simp [this]
theorem slt_asymm (h : SWO lt) {x y : β × Nat} (hx : slt lt x y = true) : slt lt y x = false := (slt_swo h).asymmA hx
end
section
variable {β : Type} [Inhabited β] {lt : β → β → Bool}
theorem insInner_same (a : Nat) : ∀ (j : Nat) (d : Array (β × Nat)), j < d.size → (∀ p, a ≤ p → p < j → d[p]!.2 < d[j]!.2) → insInner (tlt lt) a j d = insInner (slt lt) a j d
  | 0, d, _, _ => rfl
  | j + 1, d, hj, h => by
    unfold insInner
    by_cases ha : a < j + 1
    · have e : slt lt d[j + 1]! d[j]! = tlt lt d[j + 1]! d[j]! := slt_late (h j (by omega) (by omega))
      rw [e]
      split
      · refine insInner_same a j _ (by rw [swp_size]; omega) ?_
        intro p hp hpj
        rw [swp_get d hj (by omega), swp_get d hj (by omega)]
        rw [if_neg (by omega), if_neg (by omega), if_pos rfl]
        exact h p hp (by omega)
      · rfl
    · have e : decide (j + 1 > a) = false := by simp; omega
      simp [e]
theorem insOuter_go {α : Type} [Inhabited α] (lt : α → α → Bool) (a b i : Nat) (d : Array α) (h : i < b) : insOuter lt a b i d = insOuter lt a b (i + 1) (insInner lt a i d) := by
  rw [insOuter, if_pos h]
theorem insOuter_same (hS : SWO lt) (a b : Nat) : ∀ (n i : Nat) (d : Array (β × Nat)), b - i = n → a < i → i ≤ b → b ≤ d.size → SortedIn (slt lt) a i d → (∀ p q, a ≤ p → p < q → i ≤ q → q < b → d[p]!.2 < d[q]!.2) → insOuter (tlt lt) a b i d = insOuter (slt lt) a b i d
  | 0, i, d, hn, _, hib, _, _, _ => by
    obtain rfl : i = b := by omega
    rw [insOuter, if_neg (by omega), insOuter, if_neg (by omega)]
  | n + 1, i, d, hn, hai, hib, hb, hs, ht => by
    have hlt : i < b := by omega
    rw [insOuter_go _ _ _ _ _ hlt, insOuter_go _ _ _ _ _ hlt, insInner_same a i d (by omega) (fun p hp hpi => ht p i hp hpi (Nat.le_refl _) hlt)]
    have h1 := insInner_spec (slt_swo hS) swp_permIn permIn_refl permIn_trans a (i + 1) i (Nat.lt_succ_self _) i d (by omega) (Nat.le_refl _) (by omega) ⟨fun p q hap hpq hqi _ hq => hs p q hap hpq (by omega), fun q h1 h2 => by omega⟩
    refine insOuter_same hS a b n (i + 1) _ (by omega) (by omega) (by omega) (by rw [h1.1.1]; exact hb) h1.2 ?_
    intro p q hap hpq hiq hqb
    rw [h1.1.2.1 q (.inr (by omega))]
    by_cases hp : p < i + 1
    · exact permIn_all d _ a (i + 1) (fun x => x.2 < d[q]!.2) (by omega) h1.1 (fun r h1 h2 => ht r q h1 (by omega) (by omega) hqb) p hap hp
    · rw [h1.1.2.1 p (.inr (by omega))]
      exact ht p q hap hpq (by omega) hqb
theorem ins_stable (hS : SWO lt) (d : Array (β × Nat)) (a b : Nat) (hab : a ≤ b) (hb : b ≤ d.size) (ht : ∀ p q, a ≤ p → p < q → q < b → d[p]!.2 < d[q]!.2) :
    PermIn a b d (insertionSort (tlt lt) d a b) ∧ SortedIn (slt lt) a b (insertionSort (tlt lt) d a b) := by
  have h := insertionSort_holds (slt_swo hS) d a b hab hb
  have e : insertionSort (tlt lt) d a b = insertionSort (slt lt) d a b := by
    unfold insertionSort
    by_cases h1 : a = b
    · subst h1
      rw [insOuter, if_neg (by omega), insOuter, if_neg (by omega)]
    · exact insOuter_same hS a b _ (a + 1) d rfl (by omega) (by omega) hb (fun i j h1 h2 h3 => by omega) (fun p q h1 h2 _ h3 => ht p q h1 h2 h3)
  rw [e]; exact h
end
def rotI (s m e k : Nat) : Nat := if s ≤ k ∧ k < s + (e - m) then k + (m - s) else if s + (e - m) ≤ k ∧ k < e then k - (e - m) else k
section
variable {α : Type} [Inhabited α]
structure Rot (d d' : Array α) (s m e : Nat) : Prop where
  perm : PermIn s e d d'
  at_ : ∀ k, d'[k]! = d[rotI s m e k]!
structure Exch (d d' : Array α) (a b n : Nat) : Prop where
  size : d'.size = d.size
  at_ : ∀ k, d'[k]! = d[if a ≤ k ∧ k < a + n then k + b - a else if b ≤ k ∧ k < b + n then k + a - b else k]!
  perm : ∀ lo hi, lo ≤ a → a + n ≤ hi → lo ≤ b → b + n ≤ hi → hi ≤ d.size → PermIn lo hi d d'
theorem Exch.zero (d : Array α) (a b : Nat) : Exch d d a b 0 :=
  ⟨rfl, fun k => by rw [if_neg (by omega), if_neg (by omega)], fun lo hi _ _ _ _ _ => permIn_refl d lo hi⟩
theorem Exch.next {d d' : Array α} {a b n : Nat} (h : Exch d d' a b n) (hab : a + n < b) (hb : b + n < d.size) : Exch d (swp d' (a + n) (b + n)) a b (n + 1) := by
  refine ⟨by rw [swp_size, h.size], fun k => ?_, fun lo hi h1 h2 h3 h4 h5 => ?_⟩
  · rw [swp_get d' (by rw [h.size]; omega) (by rw [h.size]; omega)]
    rw [h.at_, h.at_, h.at_]
    by_cases k1 : k = b + n
    · subst k1
      rw [if_pos rfl]
      congr 1
      repeat' split
      all_goals omega
    · rw [if_neg k1]
      by_cases k2 : k = a + n
      · subst k2
        rw [if_pos rfl]
        congr 1
        repeat' split
        all_goals omega
      · rw [if_neg k2]
        congr 1
        repeat' split
        all_goals omega
  · have p1 := h.perm lo hi h1 (by omega) h3 (by omega) h5
    exact permIn_trans _ _ _ lo hi p1 (swp_permIn d' lo hi (a + n) (b + n) (by omega) (by omega) (by omega) (by omega) (by rw [h.size]; omega))
theorem Rot.left {d d1 d2 : Array α} {m i j : Nat} (him : i ≤ m) (hij : j < i) (hsz : m + j ≤ d.size) (h1 : Exch d d1 (m - i) m j) (h2 : Rot d1 d2 (m - (i - j)) m (m + j)) : Rot d d2 (m - i) m (m + j) := by
  refine ⟨?_, fun k => ?_⟩
  · have p1 := h1.perm (m - i) (m + j) (by omega) (by omega) (by omega) (by omega) hsz
    exact permIn_trans _ _ _ _ _ p1 (permIn_mono d1 d2 _ _ _ _ (by omega) (Nat.le_refl _) (by rw [h1.size]; exact hsz) h2.perm)
  · rw [h2.at_, h1.at_]
    congr 1
    unfold rotI
    repeat' split
    all_goals omega
theorem Rot.right {d d1 d2 : Array α} {m i j : Nat} (him : i ≤ m) (hij : i < j) (hsz : m + j ≤ d.size) (h1 : Exch d d1 (m - i) (m + j - i) i) (h2 : Rot d1 d2 (m - i) m (m + (j - i))) : Rot d d2 (m - i) m (m + j) := by
  refine ⟨?_, fun k => ?_⟩
  · have p1 := h1.perm (m - i) (m + j) (by omega) (by omega) (by omega) (by omega) hsz
    exact permIn_trans _ _ _ _ _ p1 (permIn_mono d1 d2 _ _ _ _ (Nat.le_refl _) (by omega) (by rw [h1.size]; exact hsz) h2.perm)
  · rw [h2.at_, h1.at_]
    congr 1
    unfold rotI
    repeat' split
    all_goals omega
theorem Rot.both {d d1 : Array α} {m i : Nat} (him : i ≤ m) (hsz : m + i ≤ d.size) (h1 : Exch d d1 (m - i) m i) : Rot d d1 (m - i) m (m + i) := by
  refine ⟨h1.perm (m - i) (m + i) (by omega) (by omega) (by omega) (by omega) hsz, fun k => ?_⟩
  rw [h1.at_]
  congr 1
  unfold rotI
  repeat' split
  all_goals omega
theorem Rot.none (d : Array α) (s m e : Nat) (hs : s ≤ m) (he : m ≤ e) (h : s = m ∨ m = e) : Rot d d s m e := by
  refine ⟨permIn_refl d s e, fun k => ?_⟩
  congr 1
  unfold rotI
  repeat' split
  all_goals omega
theorem Rot.up {d d' : Array α} {a k : Nat} (h : Rot d d' a (a + 1) (k + 1)) (hak : a ≤ k) (hk : k + 1 < d.size) : Rot d (swp d' k (k + 1)) a (a + 1) (k + 2) := by
  have hs : d'.size = d.size := h.perm.1
  refine ⟨permIn_trans _ _ _ _ _ (permIn_mono d d' _ _ _ _ (Nat.le_refl _) (by omega) (by omega) h.perm) (swp_permIn d' a (k + 2) k (k + 1) hak (by omega) (by omega) (by omega) (by omega)), fun x => ?_⟩
  rw [swp_get d' (by omega) (by omega), h.at_, h.at_, h.at_]
  by_cases x1 : x = k + 1
  · subst x1
    rw [if_pos rfl]
    congr 1
    unfold rotI
    repeat' split
    all_goals omega
  · rw [if_neg x1]
    by_cases x2 : x = k
    · subst x2
      rw [if_pos rfl]
      congr 1
      unfold rotI
      repeat' split
      all_goals omega
    · rw [if_neg x2]
      congr 1
      unfold rotI
      repeat' split
      all_goals omega
theorem Rot.down {d d' : Array α} {k m : Nat} (h : Rot d d' (k + 1) m (m + 1)) (hkm : k + 1 ≤ m) (hm : m < d.size) : Rot d (swp d' (k + 1) k) k m (m + 1) := by
  have hs : d'.size = d.size := h.perm.1
  refine ⟨permIn_trans _ _ _ _ _ (permIn_mono d d' _ _ _ _ (by omega) (Nat.le_refl _) (by omega) h.perm) (swp_permIn d' k (m + 1) (k + 1) k (by omega) (by omega) (by omega) (by omega) (by omega)), fun x => ?_⟩
  rw [swp_get d' (by omega) (by omega), h.at_, h.at_, h.at_]
  by_cases x1 : x = k
  · subst x1
    rw [if_pos rfl]
    congr 1
    unfold rotI
    repeat' split
    all_goals omega
  · rw [if_neg x1]
    by_cases x2 : x = k + 1
    · subst x2
      rw [if_pos rfl]
      congr 1
      unfold rotI
      repeat' split
      all_goals omega
    · rw [if_neg x2]
      congr 1
      unfold rotI
      repeat' split
      all_goals omega
end
section
variable {β : Type} [Inhabited β] {lt : β → β → Bool}
structure Runs (lt : β → β → Bool) (a m b : Nat) (d : Array (β × Nat)) : Prop where
  one : SortedIn (slt lt) a m d
  two : SortedIn (slt lt) m b d
  tag : ∀ p q, a ≤ p → p < m → m ≤ q → q < b → d[p]!.2 < d[q]!.2
theorem Runs.le_one {a m b : Nat} {d : Array (β × Nat)} (hS : SWO lt) (h : Runs lt a m b d) {i j : Nat} (hi : a ≤ i) (hij : i ≤ j) (hj : j < m) : slt lt d[j]! d[i]! = false := by
  by_cases e : i = j
  · subst e; exact (slt_swo hS).irrefl _
  · exact h.one i j hi (by omega) hj
theorem Runs.le_two {a m b : Nat} {d : Array (β × Nat)} (hS : SWO lt) (h : Runs lt a m b d) {i j : Nat} (hi : m ≤ i) (hij : i ≤ j) (hj : j < b) : slt lt d[j]! d[i]! = false := by
  by_cases e : i = j
  · subst e; exact (slt_swo hS).irrefl _
  · exact h.two i j hi (by omega) hj
theorem Runs.cut (hS : SWO lt) {a s m e b : Nat} {d d' : Array (β × Nat)} (h : Runs lt a m b d) (h1 : a ≤ s) (h2 : s ≤ m) (h3 : m ≤ e) (h4 : e ≤ b)
    (hlo : a < s → e < b → tlt lt d[e]! d[s - 1]! = false) (hhi : s < m → m < e → tlt lt d[e - 1]! d[s]! = true) (hR : Rot d d' s m e) :
    Runs lt a s (s + (e - m)) d' ∧ Runs lt (s + (e - m)) e b d' ∧ ∀ p q, a ≤ p → p < s + (e - m) → s + (e - m) ≤ q → q < b → slt lt d'[q]! d'[p]! = false := by
  have W := slt_swo hS
  have lo : a < s → e < b → slt lt d[e]! d[s - 1]! = false := fun x y => by rw [slt_late (h.tag (s - 1) e (by omega) (by omega) h3 y)]; exact hlo x y
  have hi : s < m → m < e → slt lt d[s]! d[e - 1]! = false := fun x y => slt_asymm hS (by rw [slt_late (h.tag s (e - 1) h1 x (by omega) (by omega))]; exact hhi x y)
  have g := hR.at_
  refine ⟨⟨?_, ?_, ?_⟩, ⟨?_, ?_, ?_⟩, ?_⟩
  · intro i j hi hij hj
    rw [g, g, rotI, if_neg (by omega), if_neg (by omega), rotI, if_neg (by omega), if_neg (by omega)]
    exact h.one i j hi hij (by omega)
  · intro i j hi hij hj
    rw [g, g, rotI, if_pos (by omega), rotI, if_pos (by omega)]
    exact h.two _ _ (by omega) (by omega) (by omega)
  · intro p q hp hps hq hqb
    rw [g, g, rotI, if_neg (by omega), if_neg (by omega), rotI, if_pos (by omega)]
    exact h.tag _ _ hp (by omega) (by omega) (by omega)
  · intro i j hi hij hj
    rw [g, g, rotI, if_neg (by omega), if_pos (by omega), rotI, if_neg (by omega), if_pos (by omega)]
    exact h.one _ _ (by omega) (by omega) (by omega)
  · intro i j hi hij hj
    rw [g, g, rotI, if_neg (by omega), if_neg (by omega), rotI, if_neg (by omega), if_neg (by omega)]
    exact h.two _ _ (by omega) (by omega) (by omega)
  · intro p q hp hps hq hqb
    rw [g, g, rotI, if_neg (by omega), if_pos (by omega), rotI, if_neg (by omega), if_neg (by omega)]
    exact h.tag _ _ (by omega) (by omega) (by omega) (by omega)
  · intro p q hp hpm hq hqb
    rw [g, g]
    by_cases c1 : p < s
    · rw [show rotI s m e p = p by rw [rotI, if_neg (by omega), if_neg (by omega)]]
      by_cases c2 : q < e
      · rw [show rotI s m e q = q - (e - m) by rw [rotI, if_neg (by omega), if_pos (by omega)]]
        exact h.one _ _ hp (by omega) (by omega)
      · rw [show rotI s m e q = q by rw [rotI, if_neg (by omega), if_neg (by omega)]]
        have x1 := h.le_two hS (i := e) (j := q) (by omega) (by omega) hqb
        have x2 := lo (by omega) (by omega)
        have x3 := h.le_one hS (i := p) (j := s - 1) hp (by omega) (by omega)
        exact W.ntrans _ _ _ x1 (W.ntrans _ _ _ x2 x3)
    · rw [show rotI s m e p = p + (m - s) by rw [rotI, if_pos (by omega)]]
      by_cases c2 : q < e
      · rw [show rotI s m e q = q - (e - m) by rw [rotI, if_neg (by omega), if_pos (by omega)]]
        have x1 := h.le_one hS (i := s) (j := q - (e - m)) (by omega) (by omega) (by omega)
        have x2 := hi (by omega) (by omega)
        have x3 := h.le_two hS (i := p + (m - s)) (j := e - 1) (by omega) (by omega) (by omega)
        exact W.ntrans _ _ _ x1 (W.ntrans _ _ _ x2 x3)
      · rw [show rotI s m e q = q by rw [rotI, if_neg (by omega), if_neg (by omega)]]
        exact h.two _ _ (by omega) (by omega) hqb
theorem Runs.sorted {a m b : Nat} {d : Array (β × Nat)} (h : Runs lt a m b d) (he : a = m ∨ m = b) : SortedIn (slt lt) a b d := by
  rcases he with rfl | rfl
  · exact h.two
  · exact h.one
theorem sorted_parts {a c b : Nat} {d d1 d2 : Array (β × Nat)} (hac : a ≤ c) (hcb : c ≤ b) (hb : b ≤ d.size) (hx : ∀ p q, a ≤ p → p < c → c ≤ q → q < b → slt lt d[q]! d[p]! = false)
    (p1 : PermIn a c d d1) (s1 : SortedIn (slt lt) a c d1) (p2 : PermIn c b d1 d2) (s2 : SortedIn (slt lt) c b d2) : PermIn a b d d2 ∧ SortedIn (slt lt) a b d2 := by
  refine ⟨permIn_trans _ _ _ _ _ (permIn_mono d d1 _ _ _ _ (Nat.le_refl _) hcb hb p1) (permIn_mono d1 d2 _ _ _ _ hac (Nat.le_refl _) (by rw [p1.1]; exact hb) p2), fun i j hi hij hj => ?_⟩
  by_cases h1 : j < c
  · rw [p2.2.1 i (.inl (by omega)), p2.2.1 j (.inl h1)]
    exact s1 i j hi hij h1
  · by_cases h2 : c ≤ i
    · exact s2 i j h2 hij hj
    · rw [p2.2.1 i (.inl (by omega))]
      have q1 : ∀ q, c ≤ q → q < b → slt lt d2[q]! d1[i]! = false := by
        refine permIn_all d1 d2 c b (fun x => slt lt x d1[i]! = false) (by rw [p1.1]; exact hb) p2 ?_
        intro q hq hqb
        rw [p1.2.1 q (.inr hq)]
        exact permIn_all d d1 a c (fun x => slt lt d[q]! x = false) (by omega) p1 (fun r hr hrc => hx r q hr hrc hq hqb) i hi (by omega)
      exact q1 j (by omega) hj
theorem Runs.first (hS : SWO lt) {a i b : Nat} {d d' : Array (β × Nat)} (h : Runs lt a (a + 1) b d) (h1 : a + 1 ≤ i) (h2 : i ≤ b)
    (hlo : a + 1 < i → tlt lt d[i - 1]! d[a]! = true) (hhi : i < b → tlt lt d[i]! d[a]! = false) (hR : Rot d d' a (a + 1) i) : SortedIn (slt lt) a b d' := by
  have W := slt_swo hS
  have lo : a + 1 < i → slt lt d[a]! d[i - 1]! = false := fun x => slt_asymm hS (by rw [slt_late (h.tag a (i - 1) (by omega) (by omega) (by omega) (by omega))]; exact hlo x)
  have hi : i < b → slt lt d[i]! d[a]! = false := fun x => by rw [slt_late (h.tag a i (by omega) (by omega) h1 x)]; exact hhi x
  have g := hR.at_
  intro p q hp hpq hq
  rw [g, g]
  by_cases c1 : q < i - 1
  · rw [rotI, if_pos (by omega), rotI, if_pos (by omega)]
    exact h.two _ _ (by omega) (by omega) (by omega)
  · by_cases c2 : q = i - 1
    · rw [show rotI a (a + 1) i q = a by rw [rotI, if_neg (by omega), if_pos (by omega)]; omega, rotI, if_pos (by omega)]
      have x1 := lo (by omega)
      have x2 := h.le_two hS (i := p + (a + 1 - a)) (j := i - 1) (by omega) (by omega) (by omega)
      exact W.ntrans _ _ _ x1 x2
    · rw [show rotI a (a + 1) i q = q by rw [rotI, if_neg (by omega), if_neg (by omega)]]
      by_cases c3 : p < i - 1
      · rw [rotI, if_pos (by omega)]
        exact h.two _ _ (by omega) (by omega) (by omega)
      · by_cases c4 : p = i - 1
        · rw [show rotI a (a + 1) i p = a by rw [rotI, if_neg (by omega), if_pos (by omega)]; omega]
          have x1 := h.le_two hS (i := i) (j := q) (by omega) (by omega) (by omega)
          exact W.ntrans _ _ _ x1 (hi (by omega))
        · rw [show rotI a (a + 1) i p = p by rw [rotI, if_neg (by omega), if_neg (by omega)]]
          exact h.two _ _ (by omega) (by omega) (by omega)
theorem Runs.last (hS : SWO lt) {a i m : Nat} {d d' : Array (β × Nat)} (h : Runs lt a m (m + 1) d) (h1 : a ≤ i) (h2 : i ≤ m)
    (hlo : a < i → tlt lt d[m]! d[i - 1]! = false) (hhi : i < m → tlt lt d[m]! d[i]! = true) (hR : Rot d d' i m (m + 1)) : SortedIn (slt lt) a (m + 1) d' := by
  have W := slt_swo hS
  have lo : a < i → slt lt d[m]! d[i - 1]! = false := fun x => by rw [slt_late (h.tag (i - 1) m (by omega) (by omega) (by omega) (by omega))]; exact hlo x
  have hi : i < m → slt lt d[i]! d[m]! = false := fun x => slt_asymm hS (by rw [slt_late (h.tag i m h1 x (by omega) (by omega))]; exact hhi x)
  have g := hR.at_
  intro p q hp hpq hq
  rw [g, g]
  by_cases c1 : q < i
  · rw [rotI, if_neg (by omega), if_neg (by omega), rotI, if_neg (by omega), if_neg (by omega)]
    exact h.one _ _ (by omega) (by omega) (by omega)
  · by_cases c2 : q = i
    · rw [show rotI i m (m + 1) q = m by rw [rotI, if_pos (by omega)]; omega, show rotI i m (m + 1) p = p by rw [rotI, if_neg (by omega), if_neg (by omega)]]
      have x2 := h.le_one hS (i := p) (j := i - 1) (by omega) (by omega) (by omega)
      exact W.ntrans _ _ _ (lo (by omega)) x2
    · rw [show rotI i m (m + 1) q = q - 1 by rw [rotI, if_neg (by omega), if_pos (by omega)]; omega]
      by_cases c3 : p < i
      · rw [show rotI i m (m + 1) p = p by rw [rotI, if_neg (by omega), if_neg (by omega)]]
        exact h.one _ _ (by omega) (by omega) (by omega)
      · by_cases c4 : p = i
        · rw [show rotI i m (m + 1) p = m by rw [rotI, if_pos (by omega)]; omega]
          have x1 := h.le_one hS (i := i) (j := q - 1) (by omega) (by omega) (by omega)
          exact W.ntrans _ _ _ x1 (hi (by omega))
        · rw [show rotI i m (m + 1) p = p - 1 by rw [rotI, if_neg (by omega), if_pos (by omega)]; omega]
          exact h.one _ _ (by omega) (by omega) (by omega)
end
section
variable {β : Type} [Inhabited β] {lt : β → β → Bool}
def Same (B i j : Nat) : Prop := ∀ c, c * B ≤ j → c * B ≤ i
structure Blocks (lt : β → β → Bool) (B a n : Nat) (d : Array (β × Nat)) : Prop where
  tag : ∀ p, p < n → ∀ c, c * B ≤ p ↔ c * B ≤ d[p]!.2
  done : ∀ i j, i < j → j < a → Same B i j → slt lt d[j]! d[i]! = false
structure Half (lt : β → β → Bool) (B a n : Nat) (d : Array (β × Nat)) : Prop where
  tag : ∀ p, p < n → ∀ c, c * (2 * B) ≤ p ↔ c * (2 * B) ≤ d[p]!.2
  tag1 : ∀ p, a ≤ p → p < n → ∀ c, c * B ≤ p ↔ c * B ≤ d[p]!.2
  done : ∀ i j, i < j → j < a → Same (2 * B) i j → slt lt d[j]! d[i]! = false
  rest : ∀ i j, a ≤ i → i < j → j < n → Same B i j → slt lt d[j]! d[i]! = false
theorem Blocks.half {B n : Nat} {d : Array (β × Nat)} (h : Blocks lt B n n d) : Half lt B 0 n d := by
  refine ⟨fun p hp c => ?_, fun p _ hp c => h.tag p hp c, fun i j _ hj => by omega, fun i j _ hij hj hs => h.done i j hij hj hs⟩
  have e : c * (2 * B) = (c * 2) * B := by rw [Nat.mul_assoc]
  rw [e]; exact h.tag p hp _
theorem Half.runs {B a n m b c : Nat} {d : Array (β × Nat)} (h : Half lt B a n d) (ha : a = c * (2 * B)) (hm : m = a + B) (hmb : m ≤ b) (hb : b ≤ a + 2 * B) (hbn : b ≤ n) : Runs lt a m b d := by
  have e1 : (2 * c) * B = a := by rw [ha, Nat.mul_comm 2 c, Nat.mul_assoc]
  have e2 : (2 * c + 1) * B = m := by rw [Nat.add_mul, e1, hm]; omega
  have e3 : (2 * c + 2) * B = a + 2 * B := by rw [Nat.add_mul, e1]
  have up : ∀ x y, x ≤ y → x * B ≤ y * B := fun x y hxy => Nat.mul_le_mul_right B hxy
  refine ⟨fun i j hi hij hj => h.rest i j hi hij (by omega) (fun x hx => ?_), fun i j hi hij hj => h.rest i j (by omega) hij (by omega) (fun x hx => ?_), fun p q hp hpm hq hqb => ?_⟩
  · by_cases hx1 : x ≤ 2 * c
    · have := up _ _ hx1; omega
    · have := up (2 * c + 1) x (by omega); omega
  · by_cases hx1 : x ≤ 2 * c + 1
    · have := up _ _ hx1; omega
    · have := up (2 * c + 2) x (by omega); omega
  · have h1 : ¬ (2 * c + 1) * B ≤ d[p]!.2 := fun hx => by have := (h.tag1 p hp (by omega) (2 * c + 1)).2 hx; omega
    have h2 := (h.tag1 q (by omega) (by omega) (2 * c + 1)).1 (by omega)
    omega
theorem Half.step {B a n b c : Nat} {d d' : Array (β × Nat)} (h : Half lt B a n d) (hn : n = d.size) (ha : a = c * (2 * B)) (hab : a ≤ b) (hbn : b ≤ n) (hb : b = a + 2 * B ∨ b = n ∧ n ≤ a + 2 * B) (hp : PermIn a b d d') (hs : SortedIn (slt lt) a b d') : Half lt B b n d' := by
  have e3 : (c + 1) * (2 * B) = a + 2 * B := by rw [Nat.add_mul, ha]; omega
  have up : ∀ x y, x ≤ y → x * (2 * B) ≤ y * (2 * B) := fun x y hxy => Nat.mul_le_mul_right _ hxy
  refine ⟨fun p hpn x => ?_, fun p hbp hpn x => ?_, fun i j hij hj hsm => ?_, fun i j hi hij hj hsm => ?_⟩
  · by_cases h1 : a ≤ p ∧ p < b
    · have key : ∀ q, a ≤ q → q < b → (x * (2 * B) ≤ d'[q]!.2 ↔ x ≤ c) := by
        refine permIn_all d d' a b (fun y => x * (2 * B) ≤ y.2 ↔ x ≤ c) (by omega) hp ?_
        intro q hq hqb
        rw [← h.tag q (by omega) x]
        constructor
        · intro hx
          rcases Nat.lt_or_ge c x with hc | hc
          · have := up (c + 1) x hc; omega
          · exact hc
        · intro hx; have := up _ _ hx; omega
      rw [key p h1.1 h1.2]
      constructor
      · intro hx
        rcases Nat.lt_or_ge c x with hc | hc
        · have := up (c + 1) x hc; omega
        · exact hc
      · intro hx; have := up _ _ hx; omega
    · rw [hp.2.1 p (by omega)]; exact h.tag p hpn x
  · rw [hp.2.1 p (.inr hbp)]; exact h.tag1 p (by omega) hpn x
  · by_cases h1 : j < a
    · rw [hp.2.1 i (.inl (by omega)), hp.2.1 j (.inl h1)]; exact h.done i j hij h1 hsm
    · have := hsm c (by omega)
      exact hs i j (by omega) hij hj
  · rw [hp.2.1 i (.inr (by omega)), hp.2.1 j (.inr (by omega))]; exact h.rest i j (by omega) hij hj hsm
theorem Half.end_ {B a n c : Nat} {d : Array (β × Nat)} (h : Half lt B a n d) (ha : a = c * (2 * B)) (hB : n ≤ a + B) : Blocks lt (2 * B) n n d := by
  refine ⟨h.tag, fun i j hij hj hsm => ?_⟩
  by_cases h1 : j < a
  · exact h.done i j hij h1 hsm
  · have := hsm c (by omega)
    refine h.rest i j (by omega) hij hj (fun x hx => ?_)
    have e1 : (2 * c) * B = a := by rw [ha, Nat.mul_comm 2 c, Nat.mul_assoc]
    have e2 : (2 * c + 1) * B = a + B := by rw [Nat.add_mul, e1]; omega
    by_cases hx1 : x ≤ 2 * c
    · have : x * B ≤ (2 * c) * B := Nat.mul_le_mul_right B hx1; omega
    · have : (2 * c + 1) * B ≤ x * B := Nat.mul_le_mul_right B (by omega); omega
theorem Half.end_all {B n : Nat} {d : Array (β × Nat)} (h : Half lt B n n d) : Blocks lt (2 * B) n n d := ⟨h.tag, h.done⟩
theorem Blocks.step {B a b n c : Nat} {d d' : Array (β × Nat)} (h : Blocks lt B a n d) (hn : n = d.size) (ha : a = c * B) (hbn : b ≤ n) (hb : b = a + B ∨ b = n ∧ n ≤ a + B) (hp : PermIn a b d d') (hs : SortedIn (slt lt) a b d') : Blocks lt B b n d' := by
  have e3 : (c + 1) * B = a + B := by rw [Nat.add_mul, ha]; omega
  have up : ∀ x y, x ≤ y → x * B ≤ y * B := fun x y hxy => Nat.mul_le_mul_right _ hxy
  refine ⟨fun p hpn x => ?_, fun i j hij hj hsm => ?_⟩
  · by_cases h1 : a ≤ p ∧ p < b
    · have key : ∀ q, a ≤ q → q < b → (x * B ≤ d'[q]!.2 ↔ x ≤ c) := by
        refine permIn_all d d' a b (fun y => x * B ≤ y.2 ↔ x ≤ c) (by omega) hp ?_
        intro q hq hqb
        rw [← h.tag q (by omega) x]
        constructor
        · intro hx
          rcases Nat.lt_or_ge c x with hc | hc
          · have := up (c + 1) x hc; omega
          · exact hc
        · intro hx; have := up _ _ hx; omega
      rw [key p h1.1 h1.2]
      constructor
      · intro hx
        rcases Nat.lt_or_ge c x with hc | hc
        · have := up (c + 1) x hc; omega
        · exact hc
      · intro hx; have := up _ _ hx; omega
    · rw [hp.2.1 p (by omega)]; exact h.tag p hpn x
  · by_cases h1 : j < a
    · rw [hp.2.1 i (.inl (by omega)), hp.2.1 j (.inl h1)]; exact h.done i j hij h1 hsm
    · have := hsm c (by omega)
      exact hs i j (by omega) hij hj
theorem Blocks.all {B n : Nat} {d : Array (β × Nat)} (h : Blocks lt B n n d) (hn : n ≤ B) : SortedIn (slt lt) 0 n d := fun i j _ hij hj => h.done i j hij hj fun c hc => by
  cases c with
  | zero => simp
  | succ c =>
    have : 1 * B ≤ (c + 1) * B := Nat.mul_le_mul_right B (by omega)
    omega
end
section
variable {β : Type} {lt : β → β → Bool}
theorem sorted_list {β : Type} [Inhabited β] {lt : β → β → Bool} (d : Array (β × Nat)) (h : SortedIn (slt lt) 0 d.size d) : d.toList.Pairwise (fun u v => slt lt v u = false) := by
  rw [List.pairwise_iff_getElem]
  intro i j hi hj hij
  have := h i j (Nat.zero_le _) hij (by simpa using hj)
  rw [getElem!_pos d i (by simpa using hi), getElem!_pos d j (by simpa using hj)] at this
  simpa using this
end
end Go.Proofs.YtehighgebbdenaaGreatDoor
end
section
namespace Go.Proofs.YtehighgebbdenaaGreatDoor
open Go.Shelf Go.RowKit Go.Lib Go.Sort
def encT (x : OpX × Nat) : List Value := encX x.1
theorem encT_len (x : OpX × Nat) : (encT x).length = 8 := rfl
theorem encT_one (x : OpX × Nat) : ∀ v ∈ encT x, v.oneCell' = true := by
  intro v hv
  simp [encT, encX] at hv
  rcases hv with rfl | rfl | rfl | rfl | rfl | rfl | rfl | rfl <;> rfl
def ltX (x y : OpX) : Bool := lessB x.1 x.2.1 y.1 y.2.1
def cmpX (x y : OpX × Nat) : Int := if ltX x.1 y.1 then -1 else if ltX y.1 x.1 then 1 else 0
theorem cmpX_lt (x y : OpX × Nat) : decide (cmpX x y < 0) = tlt ltX x y := by
  unfold cmpX tlt
  cases h : ltX x.1 y.1 with
  | true => rfl
  | false =>
    simp only [Bool.false_eq_true, if_false]
    split <;> rfl
theorem ltOf_cmpX : ltOf cmpX = tlt ltX := by
  funext x y
  exact cmpX_lt x y
theorem lessB_is (t b t' b' : Int) : lessB t b t' b' = decide (t < t' ∨ (t = t' ∧ b < b')) := by
  unfold lessB
  by_cases h : t = t'
  · subst h; simp
  · rw [if_neg h]; simp [h]
theorem ltX_swo : SWO ltX where
  irrefl x := by unfold ltX; rw [lessB_is]; simp
  trans x y z h1 h2 := by unfold ltX at *; rw [lessB_is] at *; simp at *; omega
  ntrans x y z h1 h2 := by unfold ltX at *; rw [lessB_is] at *; simp at *; omega
theorem grows_trans {w w1 w2 : World} (h1 : ∃ q os, w1 = grow (w.drewN q) os) (h2 : ∃ q os, w2 = grow (w1.drewN q) os) : ∃ q os, w2 = grow (w.drewN q) os := by
  obtain ⟨q, os, rfl⟩ := h1
  obtain ⟨q', os', rfl⟩ := h2
  exact ⟨q + q', os ++ os', by rw [← grow_grow, ← World.drewN_drewN]; rfl⟩
theorem less_grow (t b t' b' : Int) (w : World) :
    Calls Tryz.prog 115 #[.agg #[.int .i64 t, .int .i64 b], .agg #[.int .i64 t', .int .i64 b']] w fun e w' => e = .returned (.bool (lessB t b t' b')) ∧ ∃ q os, w' = grow (w.drewN q) os := by
  unfold lessB
  by_cases h : t = t'
  · have hd : (t != t') = false := by simp [h]
    rw [if_pos h]
    clear h
    go_enter Tryz.func115, Tryz.ntmps115
    go_wp2
    go_ret
    exact ⟨rfl, 0, _, by rw [alloc_eq_grow, alloc_eq_grow, grow_grow]; rfl⟩
  · have hd : (t != t') = true := by simp [h]
    rw [if_neg h]
    clear h
    go_enter Tryz.func115, Tryz.ntmps115
    go_wp2
    go_ret
    exact ⟨rfl, 0, _, by rw [alloc_eq_grow, alloc_eq_grow, grow_grow]; rfl⟩
theorem less_is (t b t' b' : Int) (z : Bool) (w : World) (hz : lessB t b t' b' = z) :
    Calls Tryz.prog 115 #[.agg #[.int .i64 t, .int .i64 b], .agg #[.int .i64 t', .int .i64 b']] w fun e w' => e = .returned (.bool z) ∧ ∃ q os, w' = grow (w.drewN q) os := by rw [← hz]; exact less_grow t b t' b' w
theorem below_grows {w w' : World} (h : ∃ q os, w' = grow (w.drewN q) os) : Below w.heap.size w w' := by
  obtain ⟨q, os, rfl⟩ := h
  exact Lib.below_grow _ _ (Nat.le_refl _) _ _
set_option maxRecDepth 100000 in
set_option maxHeartbeats 2000000 in
theorem closure_any (x y : OpX × Nat) (w : World) :
    Calls Tryz.prog 121 #[.agg (encT x).toArray, .agg (encT y).toArray] w fun e w' => e = .returned (.int .i64 (cmpX x y)) ∧ ∃ q os, w' = grow (w.drewN q) os := by
  obtain ⟨⟨t, b, n, k, node, other, name, value⟩, i⟩ := x
  obtain ⟨⟨t', b', n', k', node', other', name', value'⟩, i'⟩ := y
  have hg : ∃ q os, ((w.alloc (.cells #[.int .i64 t, .int .i64 b, .int .i64 n, .int .u8 (k : Int), .int .i64 node, .int .i64 other, .string name, .string value] 38)).alloc (.cells #[.int .i64 t', .int .i64 b', .int .i64 n', .int .u8 (k' : Int), .int .i64 node', .int .i64 other', .string name', .string value'] 38)) = grow (w.drewN q) os := ⟨0, _, by rw [alloc_eq_grow, alloc_eq_grow, grow_grow]; rfl⟩
  have c0 : ((w.alloc (.cells #[.int .i64 t, .int .i64 b, .int .i64 n, .int .u8 (k : Int), .int .i64 node, .int .i64 other, .string name, .string value] 38)).alloc (.cells #[.int .i64 t', .int .i64 b', .int .i64 n', .int .u8 (k' : Int), .int .i64 node', .int .i64 other', .string name', .string value'] 38)).cell? ⟨w.heap.size, 0, none⟩ = some (.int .i64 t) := by simp [go_sem]
  have c1 : ((w.alloc (.cells #[.int .i64 t, .int .i64 b, .int .i64 n, .int .u8 (k : Int), .int .i64 node, .int .i64 other, .string name, .string value] 38)).alloc (.cells #[.int .i64 t', .int .i64 b', .int .i64 n', .int .u8 (k' : Int), .int .i64 node', .int .i64 other', .string name', .string value'] 38)).cell? ⟨w.heap.size, 1, none⟩ = some (.int .i64 b) := by simp [go_sem]
  have c2 : ((w.alloc (.cells #[.int .i64 t, .int .i64 b, .int .i64 n, .int .u8 (k : Int), .int .i64 node, .int .i64 other, .string name, .string value] 38)).alloc (.cells #[.int .i64 t', .int .i64 b', .int .i64 n', .int .u8 (k' : Int), .int .i64 node', .int .i64 other', .string name', .string value'] 38)).cell? ⟨w.heap.size + 1, 0, none⟩ = some (.int .i64 t') := by simp [go_sem]
  have c3 : ((w.alloc (.cells #[.int .i64 t, .int .i64 b, .int .i64 n, .int .u8 (k : Int), .int .i64 node, .int .i64 other, .string name, .string value] 38)).alloc (.cells #[.int .i64 t', .int .i64 b', .int .i64 n', .int .u8 (k' : Int), .int .i64 node', .int .i64 other', .string name', .string value'] 38)).cell? ⟨w.heap.size + 1, 1, none⟩ = some (.int .i64 b') := by simp [go_sem]
  unfold cmpX ltX
  simp only [encT, encX]
  cases h1 : lessB t b t' b' with
  | true =>
    have H1 := Lib.hid h1
    clear h1
    go_enter Tryz.func121, Tryz.ntmps121
    go_wp2_with fail
    generalize ((w.alloc (.cells #[.int .i64 t, .int .i64 b, .int .i64 n, .int .u8 (k : Int), .int .i64 node, .int .i64 other, .string name, .string value] 38)).alloc (.cells #[.int .i64 t', .int .i64 b', .int .i64 n', .int .u8 (k' : Int), .int .i64 node', .int .i64 other', .string name', .string value'] 38)) = u at hg c0 c1 c2 c3 ⊢
    refine (less_is _ _ _ _ true _ H1.out).mono ?_
    rintro e w1 ⟨rfl, hb⟩
    have hg1 := grows_trans hg hb
    clear hb c0 c1 c2 c3
    go_wp2
    go_ret
    exact ⟨rfl, hg1⟩
  | false =>
    have H1 := Lib.hid h1
    clear h1
    cases h2 : lessB t' b' t b with
    | true =>
      have H2 := Lib.hid h2
      clear h2
      go_enter Tryz.func121, Tryz.ntmps121
      go_wp2_with fail
      generalize ((w.alloc (.cells #[.int .i64 t, .int .i64 b, .int .i64 n, .int .u8 (k : Int), .int .i64 node, .int .i64 other, .string name, .string value] 38)).alloc (.cells #[.int .i64 t', .int .i64 b', .int .i64 n', .int .u8 (k' : Int), .int .i64 node', .int .i64 other', .string name', .string value'] 38)) = u at hg c0 c1 c2 c3 ⊢
      refine (less_is _ _ _ _ false _ H1.out).mono ?_
      rintro e w1 ⟨rfl, hb⟩
      have hg1 := grows_trans hg hb
      have e0 := cellKept (below_grows hb) c0
      have e1 := cellKept (below_grows hb) c1
      have e2 := cellKept (below_grows hb) c2
      have e3 := cellKept (below_grows hb) c3
      clear hb c0 c1 c2 c3 hg
      go_wp2_with fail
      refine (less_is _ _ _ _ true _ H2.out).mono ?_
      rintro e w2 ⟨rfl, hb⟩
      have hg2 := grows_trans hg1 hb
      clear hb e0 e1 e2 e3 hg1
      go_wp2
      go_ret
      exact ⟨rfl, hg2⟩
    | false =>
      have H2 := Lib.hid h2
      clear h2
      go_enter Tryz.func121, Tryz.ntmps121
      go_wp2_with fail
      generalize ((w.alloc (.cells #[.int .i64 t, .int .i64 b, .int .i64 n, .int .u8 (k : Int), .int .i64 node, .int .i64 other, .string name, .string value] 38)).alloc (.cells #[.int .i64 t', .int .i64 b', .int .i64 n', .int .u8 (k' : Int), .int .i64 node', .int .i64 other', .string name', .string value'] 38)) = u at hg c0 c1 c2 c3 ⊢
      refine (less_is _ _ _ _ false _ H1.out).mono ?_
      rintro e w1 ⟨rfl, hb⟩
      have hg1 := grows_trans hg hb
      have e0 := cellKept (below_grows hb) c0
      have e1 := cellKept (below_grows hb) c1
      have e2 := cellKept (below_grows hb) c2
      have e3 := cellKept (below_grows hb) c3
      clear hb c0 c1 c2 c3 hg
      go_wp2_with fail
      refine (less_is _ _ _ _ false _ H2.out).mono ?_
      rintro e w2 ⟨rfl, hb⟩
      have hg2 := grows_trans hg1 hb
      clear hb e0 e1 e2 e3 hg1
      go_wp2
      go_ret
      exact ⟨rfl, hg2⟩
theorem cmp_lays (blk off size : Nat) (w : World) : CmpLays Tryz.prog 121 #[] encT 8 cmpX blk off size w := fun _ _ _ _ x y => closure_any x y _
theorem eg_cmp : ∀ args w, (callFunc 121 args).run Tryz.prog w = .ok (.enter 121 args) w := enters_of Tryz.func121 (by kernel_rfl) rfl
end Go.Proofs.YtehighgebbdenaaGreatDoor
end
