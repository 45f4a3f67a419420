import Derived.Test.YtehighgebbdenaaGreatDoorVp01
import Derived.Test.YtehighgebbdenaaGreatDoorVp08
import Derived.Test.YtehighgebbdenaaGreatDoorProg
import Derived.Laws.AppendOwn
section
namespace Go.Proofs.YtehighgebbdenaaGreatDoor
def letO (x : OpX) : Nat := (x.2.2.2.2.2.2.2.data.toList.headD 0).toNat
def insO (nd : Int) (x : OpX) : Option (Int × Ltr) := if kdO x = 105 ∧ nodeO x = nd then some (otherO x, (idO x, letO x, false)) else none
def GoneIn (A : List OpX) (nd id : Int) : Prop := ∃ x ∈ A, kdO x = 100 ∧ nodeO x = nd ∧ otherO x = id
theorem goneAny (A : List OpX) (nd id : Int) : (A.any fun x => decide (kdO x = 100 ∧ nodeO x = nd ∧ otherO x = id)) = true ↔ GoneIn A nd id := by simp [GoneIn]
def decGone (A : List OpX) (nd id : Int) : Decidable (GoneIn A nd id) := decidable_of_iff _ (goneAny A nd id)
def hideL (A : List OpX) (nd : Int) (l : Ltr) : Ltr := @ite _ (GoneIn A nd l.1) (decGone A nd l.1) (l.1, 0, true) l
theorem hideL_id (A : List OpX) (nd : Int) (l : Ltr) : (hideL A nd l).1 = l.1 := by unfold hideL; split <;> rfl
theorem hide_ids (A : List OpX) (nd : Int) (L : List Ltr) : (L.map (hideL A nd)).map (·.1) = L.map (·.1) := by rw [List.map_map]; exact List.map_congr_left fun l _ => hideL_id A nd l
def LineIs (A : List OpX) (nd : Int) (L : List Ltr) : Prop := ∃ s, s.Perm (A.filterMap (insO nd)) ∧ First s ∧ L = (putAll s []).map (hideL A nd)
theorem laid_map {f : Ltr → Ltr} (hf : ∀ l, (f l).1 = l.1) {x : Ltr} (hx : f x = x) : ∀ L, laid x (L.map f) = (laid x L).map f
  | [] => by simp [laid, hx]
  | h :: t => by
    by_cases k : x.1 < h.1
    · rw [List.map_cons, laid_yes (by rw [hf]; exact k), laid_yes k, List.map_cons, laid_map hf hx t]
    · rw [List.map_cons, laid_no (by rw [hf]; exact k), laid_no k, List.map_cons, List.map_cons, hx]
theorem putB_map {f : Ltr → Ltr} (hf : ∀ l, (f l).1 = l.1) {x : Ltr} (hx : f x = x) (b : Int) : ∀ L, putB b x (L.map f) = (putB b x L).map f
  | [] => by simp [putB]
  | h :: t => by
    by_cases k : h.1 = b
    · rw [List.map_cons, putB_yes (by rw [hf]; exact k), putB_yes k, List.map_cons, laid_map hf hx t]
    · rw [List.map_cons, putB_no (by rw [hf]; exact k), putB_no k, List.map_cons, putB_map hf hx b t]
theorem put_map {f : Ltr → Ltr} (hf : ∀ l, (f l).1 = l.1) {x : Ltr} (hx : f x = x) (b : Int) (L : List Ltr) : put b x (L.map f) = (put b x L).map f := by
  unfold put
  split
  · exact laid_map hf hx L
  · exact putB_map hf hx b L
theorem putAll_ids : ∀ (n : Nat) (s : List (Int × Ltr)), s.length = n → First s → ((putAll s []).map (·.1)).Perm (s.map (·.2.1))
  | 0, s, hn, _ => by rw [List.length_eq_zero_iff.1 hn]; exact List.Perm.refl _
  | n + 1, s, hn, h => by
    rcases snoc_cases s with rfl | ⟨u, m, rfl⟩
    · simp at hn
    · have hu := first_init h
      have ih := putAll_ids n u (by simp at hn; exact hn) hu
      rw [putAll_app, putAll_one]
      have hb : m.1 = 0 ∨ m.1 ∈ (putAll u []).map (·.1) := by
        rcases h.2.2 u m [] (by simp) with q | ⟨y, hy, q⟩
        · exact .inl q
        · exact .inr (ih.mem_iff.2 (List.mem_map.2 ⟨y, hy, q⟩))
      refine (put_ids hb).trans ?_
      rw [List.map_append, List.map_cons, List.map_nil]
      exact ((ih.cons m.2.1)).trans (List.perm_append_comm (l₁ := [m.2.1]))
theorem LineIs.ids {A : List OpX} {nd : Int} {L : List Ltr} (h : LineIs A nd L) : (L.map (·.1)).Perm ((A.filterMap (insO nd)).map (·.2.1)) := by
  obtain ⟨s, h1, h2, rfl⟩ := h
  rw [hide_ids]
  exact (putAll_ids _ s rfl h2).trans (h1.map _)
theorem LineIs.mem {A : List OpX} {nd : Int} {L : List Ltr} (h : LineIs A nd L) {id : Int} : id ∈ L.map (·.1) ↔ LetterN A nd id := by
  rw [h.ids.mem_iff]
  constructor
  · intro q
    obtain ⟨m, hm, rfl⟩ := List.mem_map.1 q
    obtain ⟨x, hx, e⟩ := List.mem_filterMap.1 hm
    unfold insO at e
    split at e
    · rename_i k
      cases e
      exact ⟨x, hx, k.1, k.2, rfl⟩
    · cases e
  · rintro ⟨x, hx, k1, k2, k3⟩
    exact List.mem_map.2 ⟨_, List.mem_filterMap.2 ⟨x, hx, if_pos ⟨k1, k2⟩⟩, k3⟩
theorem LineIs.nodup {A : List OpX} {nd : Int} {L : List Ltr} (h : LineIs A nd L) : (L.map (·.1)).Nodup := by
  obtain ⟨s, h1, h2, rfl⟩ := h
  rw [hide_ids]
  exact (putAll_ids _ s rfl h2).nodup_iff.2 h2.1
theorem LineIs.len {A : List OpX} {nd : Int} {L : List Ltr} (h : LineIs A nd L) : L.length ≤ A.length := by
  have := h.ids.length_eq
  rw [List.length_map, List.length_map] at this
  rw [this]
  exact List.length_filterMap_le _ _
theorem LineIs.perm {A B : List OpX} {nd : Int} {L : List Ltr} (h : LineIs A nd L) (e : A.Perm B) : LineIs B nd L := by
  obtain ⟨s, h1, h2, rfl⟩ := h
  have hg : ∀ id, GoneIn A nd id ↔ GoneIn B nd id := fun id => ⟨fun ⟨x, hx, q⟩ => ⟨x, e.mem_iff.1 hx, q⟩, fun ⟨x, hx, q⟩ => ⟨x, e.mem_iff.2 hx, q⟩⟩
  refine ⟨s, h1.trans (e.filterMap _), h2, List.map_congr_left (fun l _ => ?_)⟩
  unfold hideL
  by_cases q : GoneIn A nd l.1
  · rw [if_pos q, if_pos ((hg _).1 q)]
  · rw [if_neg q, if_neg (fun k => q ((hg _).2 k))]
theorem LineIs.unique {A : List OpX} {nd : Int} {L M : List Ltr} (h : LineIs A nd L) (k : LineIs A nd M) : L = M := by
  obtain ⟨s, h1, h2, rfl⟩ := h
  obtain ⟨r, k1, k2, rfl⟩ := k
  rw [putAll_turned _ s r rfl (h1.trans k1.symm) h2 k2]
theorem LineIs.skip {A : List OpX} {nd : Int} {L : List Ltr} (h : LineIs A nd L) {x : OpX} (hx : ¬ (nodeO x = nd ∧ (kdO x = 105 ∨ kdO x = 100))) : LineIs (x :: A) nd L := by
  obtain ⟨s, h1, h2, rfl⟩ := h
  refine ⟨s, ?_, h2, List.map_congr_left (fun l _ => ?_)⟩
  · rw [List.filterMap_cons_none (show insO nd x = none from if_neg (fun q => hx ⟨q.2, .inl q.1⟩))]
    exact h1
  · have hg : GoneIn (x :: A) nd l.1 ↔ GoneIn A nd l.1 := by
      constructor
      · rintro ⟨y, hy, q⟩
        rcases List.mem_cons.1 hy with rfl | hy
        · exact absurd ⟨q.2.1, .inr q.1⟩ hx
        · exact ⟨y, hy, q⟩
      · rintro ⟨y, hy, q⟩
        exact ⟨y, List.mem_cons_of_mem _ hy, q⟩
    unfold hideL
    by_cases q : GoneIn A nd l.1
    · rw [if_pos q, if_pos (hg.2 q)]
    · rw [if_neg q, if_neg (fun k => q (hg.1 k))]
theorem LineIs.ins {A : List OpX} {nd : Int} {L : List Ltr} (h : LineIs A nd L) {x : OpX} (hk : kdO x = 105) (hn : nodeO x = nd) (hnew : idO x ∉ L.map (·.1)) (hpos : idO x ≠ 0) (ho : otherO x = 0 ∨ otherO x ∈ L.map (·.1)) (hg : ¬ GoneIn A nd (idO x)) : LineIs (x :: A) nd (put (otherO x) (idO x, letO x, false) L) := by
  have hids := h.ids
  obtain ⟨s, h1, h2, rfl⟩ := h
  rw [hide_ids] at hnew ho hids
  have hps := putAll_ids _ s rfl h2
  have hgo : ∀ id, GoneIn (x :: A) nd id ↔ GoneIn A nd id := fun id => by
    constructor
    · rintro ⟨y, hy, q⟩
      rcases List.mem_cons.1 hy with rfl | hy
      · rw [hk] at q; exact absurd q.1 (by decide)
      · exact ⟨y, hy, q⟩
    · rintro ⟨y, hy, q⟩
      exact ⟨y, List.mem_cons_of_mem _ hy, q⟩
  have hhide : ∀ l, hideL (x :: A) nd l = hideL A nd l := fun l => by
    unfold hideL
    by_cases q : GoneIn A nd l.1
    · rw [if_pos q, if_pos ((hgo _).2 q)]
    · rw [if_neg q, if_neg (fun k => q ((hgo _).1 k))]
  have hxl : hideL A nd (idO x, letO x, false) = (idO x, letO x, false) := if_neg hg
  refine ⟨s ++ [(otherO x, (idO x, letO x, false))], ?_, ⟨?_, ?_, ?_⟩, ?_⟩
  · rw [List.filterMap_cons_some (show insO nd x = some _ from if_pos ⟨hk, hn⟩)]
    exact (List.perm_append_comm).trans (h1.cons _)
  · rw [List.map_append, List.nodup_append]
    refine ⟨h2.1, by simp, fun a ha b hb => ?_⟩
    simp at hb
    subst hb
    intro e
    subst e
    exact hnew (hps.mem_iff.2 ha)
  · intro m hm
    rcases List.mem_append.1 hm with hm | hm
    · exact h2.2.1 m hm
    · rw [List.mem_singleton.1 hm]; exact hpos
  · intro u m v e
    rcases snoc_cases v with rfl | ⟨v', q, rfl⟩
    · obtain ⟨rfl, e2⟩ := List.append_inj' e rfl
      cases e2
      rcases ho with ho | ho
      · exact .inl ho
      · obtain ⟨y, hy, e⟩ := List.mem_map.1 (hps.mem_iff.1 ho)
        exact .inr ⟨y, hy, e⟩
    · have e' : s ++ [(otherO x, (idO x, letO x, false))] = (u ++ m :: v') ++ [q] := by rw [e]; simp
      obtain ⟨rfl, _⟩ := List.append_inj' e' rfl
      exact h2.2.2 u m v' rfl
  · rw [putAll_app, putAll_one, put_map (hideL_id A nd) hxl]
    exact List.map_congr_left (fun l _ => (hhide l).symm)
theorem LineIs.del {A : List OpX} {nd : Int} {L : List Ltr} (h : LineIs A nd L) {x : OpX} (hk : kdO x = 100) (hn : nodeO x = nd) {i : Nat} (hf : findL (otherO x) L = some i) : LineIs (x :: A) nd (L.set i (otherO x, 0, true)) := by
  have hnd := h.nodup
  obtain ⟨s, h1, h2, rfl⟩ := h
  refine ⟨s, ?_, h2, ?_⟩
  · rw [List.filterMap_cons_none (show insO nd x = none from if_neg (fun q => by rw [hk] at q; exact absurd q.1 (by decide)))]
    exact h1
  · obtain ⟨l0, hl0, hid⟩ := findL_some hf
    have hgo : ∀ id, GoneIn (x :: A) nd id ↔ id = otherO x ∨ GoneIn A nd id := fun id => by
      constructor
      · rintro ⟨y, hy, q⟩
        rcases List.mem_cons.1 hy with rfl | hy
        · exact .inl q.2.2.symm
        · exact .inr ⟨y, hy, q⟩
      · rintro (rfl | ⟨y, hy, q⟩)
        · exact ⟨x, List.mem_cons_self, hk, hn, rfl⟩
        · exact ⟨y, List.mem_cons_of_mem _ hy, q⟩
    rw [hide_ids] at hnd
    refine List.ext_getElem? (fun j => ?_)
    rw [List.getElem?_set, List.length_map, List.getElem?_map, List.getElem?_map]
    rw [List.getElem?_map] at hl0
    cases hj : (putAll s [])[j]? with
    | none =>
      have hjl := List.getElem?_eq_none_iff.1 hj
      split
      · rename_i e
        subst e
        rw [if_neg (by omega)]
        rfl
      · rfl
    | some l =>
      have hjl := (List.getElem?_eq_some_iff.1 hj).1
      split
      · rename_i e
        subst e
        rw [if_pos hjl]
        rw [hj] at hl0
        cases hl0
        rw [hideL_id] at hid
        have hq : hideL (x :: A) nd l = (l.1, 0, true) := if_pos ((hgo _).2 (.inl hid))
        simp only [Option.map_some, hq, hid]
      · rename_i e
        have hne : l.1 ≠ otherO x := fun q => e (by
          have hil : i < (putAll s []).length := by
            cases hi : (putAll s [])[i]? with
            | none => rw [hi] at hl0; cases hl0
            | some _ => exact (List.getElem?_eq_some_iff.1 hi).1
          have e1 : ((putAll s []).map (·.1))[i]? = some (otherO x) := by
            rw [List.getElem?_map]
            cases hi : (putAll s [])[i]? with
            | none => rw [hi] at hl0; cases hl0
            | some l' =>
              rw [hi] at hl0
              cases hl0
              rw [hideL_id] at hid
              simp [hid]
          have e2 : ((putAll s []).map (·.1))[j]? = some (otherO x) := by rw [List.getElem?_map, hj]; simp [q]
          exact (List.getElem?_inj (by simpa using hil) hnd).1 (e1.trans e2.symm))
        have hq : hideL (x :: A) nd l = hideL A nd l := by
          unfold hideL
          by_cases q : GoneIn A nd l.1
          · rw [if_pos q, if_pos ((hgo _).2 (.inr q))]
          · rw [if_neg q, if_neg (fun k => ((hgo _).1 k).elim hne q)]
        simp only [Option.map_some, hq]
theorem LineIs.new {A : List OpX} {nd : Int} (h : ∀ x ∈ A, nodeO x = nd → kdO x ≠ 105) : LineIs A nd [] := by
  refine ⟨[], ?_, ⟨by simp, fun m hm => by simp at hm, fun u m v e => by simp at e⟩, rfl⟩
  rw [show List.filterMap (insO nd) A = [] from List.filterMap_eq_nil_iff.2 (fun x hx => if_neg (fun q => h x hx q.2 q.1))]
def movO (x : OpX) : Option Mov := if kdO x = 109 then some ((x.1, x.2.1), (nodeO x, otherO x, x.2.2.2.2.2.2.1)) else none
def movsO (A : List OpX) : List Mov := A.filterMap movO
def timeO (A : List OpX) (T : Int) : Prop := (∀ x ∈ A, x.1 ≤ T) ∧ (T = 0 ∨ ∃ x ∈ A, x.1 = T) ∧ 0 ≤ T
theorem timeO_nil : timeO [] 0 := ⟨fun x h => by simp at h, .inl rfl, Int.le_refl _⟩
theorem timeO_cons {A : List OpX} {T : Int} (h : timeO A T) (x : OpX) (hx : 1 ≤ x.1) : timeO (x :: A) (if T < x.1 then x.1 else T) := by
  obtain ⟨h1, h2, h3⟩ := h
  split
  · rename_i q
    refine ⟨fun y hy => ?_, .inr ⟨x, List.mem_cons_self, rfl⟩, by omega⟩
    rcases List.mem_cons.1 hy with rfl | hy
    · exact Int.le_refl _
    · have := h1 y hy; omega
  · rename_i q
    refine ⟨fun y hy => ?_, h2.imp (fun e => e) (fun ⟨y, hy, e⟩ => ⟨y, List.mem_cons_of_mem _ hy, e⟩), h3⟩
    rcases List.mem_cons.1 hy with rfl | hy
    · omega
    · exact h1 y hy
end Go.Proofs.YtehighgebbdenaaGreatDoor
end
section
namespace Go.Proofs.YtehighgebbdenaaGreatDoor
open scoped Classical
theorem err_by {x : OpX} (h : errO x = 0) : 1 ≤ x.1 ∧ x.1 ≤ 1073741824 ∧ 0 ≤ byO x ∧ byO x < 4 := by
  have h0 := opE_zero h
  exact ⟨h0.1, h0.2.1, h0.2.2.1, h0.2.2.2.1⟩
theorem err_refs {x : OpX} (h : errO x = 0) : ((kdO x = 109 ∧ nodeO x ≤ idO x) ∨ nodeO x < idO x) ∧ otherO x < idO x ∧ 0 ≤ nodeO x ∧ 0 ≤ otherO x ∧ (kdO x = 109 → 2 ≤ nodeO x) ∧ (kdO x = 100 → otherO x ≠ 0) := by
  have h0 := opE_zero h
  have hid : 4 ≤ idO x := by unfold idO; have := h0.1; have := h0.2.2.1; omega
  unfold errO opE at h
  rw [if_pos ⟨h0.1, h0.2.1, h0.2.2.1, h0.2.2.2.1, h0.2.2.2.2.1, h0.2.2.2.2.2.1⟩] at h
  have e : x.1 * 4 + x.2.1 = idO x := rfl
  rw [e] at h
  unfold kindE at h
  split at h
  · rename_i hk
    unfold moveE at h
    split at h
    · cases h
    · rename_i hc
      have hk' : kdO x = 109 := hk
      have e1 : x.2.2.2.2.1 = nodeO x := rfl
      have e2 : x.2.2.2.2.2.1 = otherO x := rfl
      rw [e1, e2] at hc
      exact ⟨.inl ⟨hk', by omega⟩, by omega, by omega, by omega, fun _ => by omega, fun k => by rw [hk'] at k; exact absurd k (by decide)⟩
  · rename_i hk
    have hk' : kdO x ≠ 109 := hk
    split at h
    · rename_i hki
      unfold insE at h
      split at h
      · cases h
      · rename_i hc
        have e1 : x.2.2.2.2.1 = nodeO x := rfl
        have e2 : x.2.2.2.2.2.1 = otherO x := rfl
        rw [e1, e2] at hc
        have hki' : kdO x = 105 := hki
        exact ⟨.inr (by omega), by omega, by omega, by omega, fun k => absurd k hk', fun k => by rw [hki'] at k; exact absurd k (by decide)⟩
    · split at h
      · unfold delE at h
        split at h
        · cases h
        · rename_i hc
          have e1 : x.2.2.2.2.1 = nodeO x := rfl
          have e2 : x.2.2.2.2.2.1 = otherO x := rfl
          rw [e1, e2] at hc
          exact ⟨.inr (by omega), by omega, by omega, by omega, fun k => absurd k hk', fun _ => by omega⟩
      · rename_i hkd
        have hkd' : kdO x ≠ 100 := hkd
        split at h
        · unfold setE at h
          split at h
          · cases h
          · rename_i hc
            have e1 : x.2.2.2.2.1 = nodeO x := rfl
            have e2 : x.2.2.2.2.2.1 = otherO x := rfl
            rw [e1, e2] at hc
            exact ⟨.inr (by omega), by omega, by omega, by omega, fun k => absurd k hk', fun k => absurd k hkd'⟩
        · cases h
theorem id_inj {x y : OpX} (hx : errO x = 0) (hy : errO y = 0) (e : idO x = idO y) : stO x = stO y := by
  have h1 := err_by hx
  have h2 := err_by hy
  unfold idO at e
  have e1 : x.2.1 = byO x := rfl
  have e2 : y.2.1 = byO y := rfl
  rw [e1, e2] at e
  have a : x.1 = y.1 := by omega
  have b : byO x = byO y := by omega
  unfold stO
  rw [a, show x.2.1 = y.2.1 from b]
theorem id_lt {x y : OpX} (hx : errO x = 0) (hy : errO y = 0) (h : idO x < idO y) : CLt (stO x) (stO y) := by
  have h1 := err_by hx
  have h2 := err_by hy
  unfold idO at h
  have e1 : x.2.1 = byO x := rfl
  have e2 : y.2.1 = byO y := rfl
  rw [e1, e2] at h
  unfold CLt stO
  dsimp only
  rw [e1, e2]
  omega
theorem id_pos {x : OpX} (hx : errO x = 0) : 4 ≤ idO x := by
  have h1 := err_by hx
  unfold idO
  have e1 : x.2.1 = byO x := rfl
  rw [e1]
  omega
structure StepOk (A : List OpX) (o : OpX) : Prop where
  ok : errO o = 0
  new : ∀ x ∈ A, stO x ≠ stO o
  refs : RefOk (o :: A) o
  all : ∀ x ∈ A, errO x = 0 ∧ RefOk A x
  uniq : ∀ x ∈ A, ∀ y ∈ A, stO x = stO y → x = y
theorem StepOk.perm {A B : List OpX} {o : OpX} (h : StepOk A o) (e : A.Perm B) : StepOk B o :=
  ⟨h.ok, fun x hx => h.new x (e.mem_iff.2 hx), h.refs.mono (fun x hx => by rcases List.mem_cons.1 hx with rfl | hx; exact List.mem_cons_self; exact List.mem_cons_of_mem _ (e.mem_iff.1 hx)), fun x hx => ⟨(h.all x (e.mem_iff.2 hx)).1, (h.all x (e.mem_iff.2 hx)).2.mono (fun y hy => e.mem_iff.1 hy)⟩, fun x hx y hy => h.uniq x (e.mem_iff.2 hx) y (e.mem_iff.2 hy)⟩
theorem StepOk.idnew {A : List OpX} {o : OpX} (h : StepOk A o) : ∀ x ∈ A, idO x ≠ idO o := fun x hx e => h.new x hx (id_inj (h.all x hx).1 h.ok e)
theorem StepOk.fresh {A : List OpX} {o : OpX} (h : StepOk A o) (e : nodeO o = idO o) : (¬ KnownN A (nodeO o)) ∧ ∀ x ∈ A, nodeO x ≠ nodeO o := by
  have hk : ¬ KnownN A (nodeO o) := fun ⟨x, hx, _, _, q⟩ => h.idnew x hx (q.trans e)
  refine ⟨hk, fun x hx q => ?_⟩
  rcases (h.all x hx).2.1 with ⟨_, k⟩ | k
  · exact h.idnew x hx (by rw [k, q, e])
  · rw [q] at k; exact hk k
theorem known_tail {A : List OpX} {o : OpX} {nd : Int} (h : KnownN (o :: A) nd) (hn : nd ≠ idO o) : KnownN A nd := by
  obtain ⟨x, hx, q⟩ := h
  rcases List.mem_cons.1 hx with rfl | hx
  · exact absurd q.2.2.symm hn
  · exact ⟨x, hx, q⟩
theorem letter_tail {A : List OpX} {o : OpX} {nd id : Int} (h : LetterN (o :: A) nd id) (hn : id ≠ idO o) : LetterN A nd id := by
  obtain ⟨x, hx, q⟩ := h
  rcases List.mem_cons.1 hx with rfl | hx
  · exact absurd q.2.2.symm hn
  · exact ⟨x, hx, q⟩
theorem StepOk.node {A : List OpX} {o : OpX} (h : StepOk A o) (e : nodeO o ≠ idO o) : KnownN A (nodeO o) := by
  rcases h.refs.1 with ⟨_, q⟩ | q
  · exact absurd q.symm e
  · exact known_tail q e
theorem StepOk.letter {A : List OpX} {o : OpX} (h : StepOk A o) (hk : (kdO o = 105 ∧ 0 < otherO o) ∨ kdO o = 100) : LetterN A (nodeO o) (otherO o) := by
  have := (err_refs h.ok).2.1
  exact letter_tail (h.refs.2.2 hk) (by omega)
theorem StepOk.line {A : List OpX} {o : OpX} (h : StepOk A o) (hk : kdO o = 105 ∨ kdO o = 100 ∨ kdO o = 115) : nodeO o ≠ idO o := by
  rcases (err_refs h.ok).1 with ⟨q, _⟩ | q
  · rw [q] at hk; rcases hk with k | k | k <;> exact absurd k (by decide)
  · omega
theorem StepOk.ungone {A : List OpX} {o : OpX} (h : StepOk A o) (nd : Int) : ¬ GoneIn A nd (idO o) := fun ⟨x, hx, k, e1, e2⟩ => by
  obtain ⟨y, hy, _, _, q⟩ := (h.all x hx).2.2.2 (.inr k)
  exact h.idnew y hy (q.trans e2)
theorem known_cons {A : List OpX} {o : OpX} {nd : Int} : KnownN (o :: A) nd ↔ KnownN A nd ∨ (kdO o = 109 ∧ nodeO o = nd ∧ idO o = nd) := by
  constructor
  · rintro ⟨x, hx, q⟩
    rcases List.mem_cons.1 hx with rfl | hx
    · exact .inr q
    · exact .inl ⟨x, hx, q⟩
  · rintro (⟨x, hx, q⟩ | q)
    · exact ⟨x, List.mem_cons_of_mem _ hx, q⟩
    · exact ⟨o, List.mem_cons_self, q⟩
theorem prefix_step {S K ys : List OpX} (hW : WellK S) (hS : ∀ x, x ∈ S ↔ x ∈ K ∨ x ∈ ys) (hK : ∀ x ∈ K, RefOk K x) (hs : ys.Pairwise (fun a b => CLt (stO a) (stO b))) (hoff : ∀ x ∈ ys, x ∉ K) {k : Nat} {o : OpX} (ho : ys[k]? = some o) : StepOk (K ++ ys.take k) o := by
  have hoy : o ∈ ys := List.mem_of_getElem? ho
  have hkl := (List.getElem?_eq_some_iff.1 ho).1
  have hsub : ∀ x, x ∈ K ++ ys.take k → x ∈ S := fun x hx => (hS x).2 ((List.mem_append.1 hx).imp (fun q => q) (fun q => List.mem_of_mem_take q))
  have hp := List.pairwise_iff_getElem.1 hs
  -- what lies below the one at j is ahead of it
  have low : ∀ (j : Nat) (x y : OpX), ys[j]? = some x → y ∈ S → idO y < idO x → y ∈ K ++ ys.take j := fun j x y hj hy hlt => by
    have hxS : x ∈ S := (hS x).2 (.inr (List.mem_of_getElem? hj))
    have hc := id_lt (hW.ok y hy) (hW.ok x hxS) hlt
    rcases (hS y).1 hy with q | q
    · exact List.mem_append_left _ q
    · obtain ⟨i, hi, rfl⟩ := List.getElem_of_mem q
      have hij : i < j := by
        rcases Nat.lt_trichotomy i j with h | h | h
        · exact h
        · subst h
          rw [List.getElem?_eq_getElem hi] at hj
          cases hj
          exact absurd hc clt_irrefl
        · obtain ⟨hjl, rfl⟩ := List.getElem?_eq_some_iff.1 hj
          exact absurd (clt_trans hc (hp j i hjl hi h)) clt_irrefl
      refine List.mem_append_right _ (List.mem_of_getElem? (i := i) ?_)
      rw [List.getElem?_take, if_pos hij]
      exact List.getElem?_eq_getElem hi
  have refs : ∀ (j : Nat) (x : OpX), ys[j]? = some x → RefOk (x :: (K ++ ys.take j)) x := fun j x hj => by
    have hxS : x ∈ S := (hS x).2 (.inr (List.mem_of_getElem? hj))
    have hr := hW.refs x hxS
    have he := err_refs (hW.ok x hxS)
    have up : ∀ y, y ∈ S → idO y < idO x → y ∈ x :: (K ++ ys.take j) := fun y hy hl => List.mem_cons_of_mem _ (low j x y hj hy hl)
    refine ⟨?_, fun hk => ?_, fun hk => ?_⟩
    · rcases hr.1 with q | ⟨y, hy, q1, q2, q3⟩
      · exact .inl q
      · rcases he.1 with ⟨q, q'⟩ | q
        · by_cases e : idO x = nodeO x
          · exact .inl ⟨q, e⟩
          · exact .inr ⟨y, up y hy (by omega), q1, q2, q3⟩
        · exact .inr ⟨y, up y hy (by omega), q1, q2, q3⟩
    · rcases hr.2.1 hk with q | q | ⟨y, hy, q1, q2, q3⟩
      · exact .inl q
      · exact .inr (.inl q)
      · exact .inr (.inr ⟨y, up y hy (by omega), q1, q2, q3⟩)
    · obtain ⟨y, hy, q1, q2, q3⟩ := hr.2.2 hk
      exact ⟨y, up y hy (by omega), q1, q2, q3⟩
  refine ⟨hW.ok o ((hS o).2 (.inr hoy)), fun x hx e => ?_, refs k o ho, fun x hx => ⟨hW.ok x (hsub x hx), ?_⟩, fun x hx y hy e => hW.stamp (hsub x hx) (hsub y hy) e⟩
  · rcases List.mem_append.1 hx with q | q
    · have := hW.stamp (hsub x hx) ((hS o).2 (.inr hoy)) e
      subst this
      exact hoff x hoy q
    · obtain ⟨i, hi, rfl⟩ := List.getElem_of_mem q
      have hi' : i < k ∧ i < ys.length := by rw [List.length_take] at hi; omega
      have hc := hp i k hi'.2 hkl hi'.1
      rw [List.getElem_take] at e
      rw [(List.getElem?_eq_some_iff.1 ho).2, e] at hc
      exact clt_irrefl hc
  · rcases List.mem_append.1 hx with q | q
    · exact (hK x q).mono (fun y hy => List.mem_append_left _ hy)
    · obtain ⟨i, hi, e⟩ := List.getElem_of_mem q
      have hi' : i < k ∧ i < ys.length := by rw [List.length_take] at hi; omega
      rw [List.getElem_take] at e
      have hxi : ys[i]? = some x := by rw [← e]; exact List.getElem?_eq_getElem hi'.2
      refine (refs i x hxi).mono (fun y hy => ?_)
      rcases List.mem_cons.1 hy with rfl | hy
      · exact hx
      · rcases List.mem_append.1 hy with hy | hy
        · exact List.mem_append_left _ hy
        · refine List.mem_append_right _ ?_
          have : ys.take i = (ys.take k).take i := by rw [List.take_take]; congr 1; omega
          rw [this] at hy
          exact List.mem_of_mem_take hy
end Go.Proofs.YtehighgebbdenaaGreatDoor
end
section
namespace Go.Proofs.YtehighgebbdenaaGreatDoor
open Go Go.Maps
abbrev TSta := Int → Option Nat
def noT : TSta := fun _ => none
def encT_ (p : Option Nat) : Value := .pointer (p.map fun b => ⟨b, 0, none⟩)
def datT (p : Option Nat) : DataW Unit := match p with
  | none => .agg []
  | some b => .agg [.lit (.int .i64 (b : Int))]
theorem datT_inj {p q : Option Nat} (h : datT p = datT q) : p = q := by
  cases p <;> cases q <;> simp [datT] at h ⊢
  omega
def ptrR (v : Value) : Option (DataW Unit × List MemPlace) := match v with
  | .pointer none => some (datT none, [])
  | .pointer (some ⟨b, 0, none⟩) => some (datT (some b), [])
  | _ => none
theorem ptrR_mk (p : Option Nat) : ptrR (encT_ p) = some (datT p, []) := by cases p <;> rfl
theorem ptrR_inv {v : Value} {z : DataW Unit × List MemPlace} (h : ptrR v = some z) : ∃ p, v = encT_ p ∧ z = (datT p, []) := by
  unfold ptrR at h
  split at h
  · cases h; exact ⟨none, rfl, rfl⟩
  · cases h; exact ⟨some _, rfl, rfl⟩
  · cases h
def ReadsT (D : DataW Unit) (f : TSta) : Prop := ∀ k, Wf k → match f k with
  | none => has D (.int .i64 k) = false
  | some p => ∀ z, D.atKey (.int .i64 k) z = datT (some p)
theorem ReadsT.gone {D : DataW Unit} {f : TSta} (h : ReadsT D f) {k : Int} (hk : Wf k) (hf : f k = none) : has D (.int .i64 k) = false := by
  have := h k hk; rw [hf] at this; exact this
theorem ReadsT.held {D : DataW Unit} {f : TSta} (h : ReadsT D f) {k : Int} (hk : Wf k) {p : Nat} (hf : f k = some p) (z : DataW Unit) : D.atKey (.int .i64 k) z = datT (some p) := by
  have := h k hk; rw [hf] at this; exact this z
theorem ReadsT.has {D : DataW Unit} {f : TSta} (h : ReadsT D f) {k : Int} (hk : Wf k) : Maps.has D (.int .i64 k) = (f k).isSome := by
  cases hf : f k with
  | none => rw [h.gone hk hf]; rfl
  | some p => rw [has_true_of_atKey (h.held hk hf)]; rfl
theorem ReadsT.at {D : DataW Unit} {f : TSta} (h : ReadsT D f) {k : Int} (hk : Wf k) : D.atKey (.int .i64 k) (datT none) = datT (f k) := by
  cases hf : f k with
  | none => rw [atKey_of_not_has (h.gone hk hf)]
  | some p => rw [h.held hk hf]
theorem readsT_put {D : DataW Unit} {f : TSta} (h : ReadsT D f) (hD : IsMap D) (k : Int) (p : Nat) : ReadsT (D.put (.int .i64 k) (datT (some p))) (fun x => if x = k then some p else f x) := by
  intro x hx
  dsimp only
  by_cases e : x = k
  · subst e
    rw [if_pos rfl]
    exact fun z => atKey_put_same hD (show WideAt.IsKeyLit (.int .i64 x) from trivial) _ _
  · rw [if_neg e]
    cases hf : f x with
    | none => rw [has_put_other (lit_ne e)]; exact h.gone hx hf
    | some q => intro z; rw [atKey_put_other (lit_ne e)]; exact h.held hx hf z
def GoodT (f : TSta) : Prop := ∀ k p, f k = some p → Wf k
structure TMapAt (w : World) (b n : Nat) (f : TSta) : Prop where
  reads : ∃ D, w.ownsMap Tryz.prog 3 ptrR b n D ∧ ReadsT D f
  good : GoodT f
theorem TMapAt.lt {w : World} {b n : Nat} {f : TSta} (h : TMapAt w b n f) : b < w.heap.size := by
  obtain ⟨D, h, _⟩ := h.reads; exact h.lt
theorem TMapAt.mono {w : World} {b n n' : Nat} {f : TSta} (h : TMapAt w b n f) (hn : n ≤ n') : TMapAt w b n' f := by
  obtain ⟨⟨D, h, r⟩, g⟩ := h; exact ⟨⟨D, h.mono hn, r⟩, g⟩
theorem TMapAt.same {w w' : World} {b n : Nat} {f : TSta} (h : TMapAt w b n f) (e : w'.heap[b]? = w.heap[b]?) : TMapAt w' b n f := by
  obtain ⟨⟨D, ⟨es, clock, hb, F⟩, r⟩, g⟩ := h
  exact ⟨⟨D, ⟨es, clock, e.trans hb, F⟩, r⟩, g⟩
theorem tmapAt_made (w : World) : TMapAt (w.alloc (.map #[] 0)) w.heap.size 0 noT :=
  ⟨⟨_, World.ownsMap_made w Tryz.prog 3 ptrR, fun _ _ => rfl⟩, fun k p h => by cases h⟩
theorem zeroPtrL (w : World) : (zeroValue 148).run Tryz.prog w = .ok (encT_ none) w := Tryz.zeroValue148 w
theorem TMapAt.look {w : World} {b n : Nat} {f : TSta} (h : TMapAt w b n f) {k : Int} (hk : Wf k) :
    (Instr.lookup 67 (.map (some b)) (.int .i64 k) true).run Tryz.prog w = .ok (.tuple #[encT_ (f k), .bool (f k).isSome]) w := by
  obtain ⟨⟨D, h, r⟩, _⟩ := h
  obtain ⟨v, ps, hrun, hv⟩ := h.look_ok (int_keyed Tryz.underlying3) Tryz.underlying67 (zeroPtrL w) (ptrR_mk none) (keyOf_int_mk Tryz.underlying3 hk)
  obtain ⟨p, rfl, hp⟩ := ptrR_inv hv
  rw [r.at hk, Prod.mk.injEq] at hp
  rw [hrun, r.has hk, datT_inj hp.1]
theorem TMapAt.look1 {w : World} {b n : Nat} {f : TSta} (h : TMapAt w b n f) {k : Int} (hk : Wf k) :
    (Instr.lookup 67 (.map (some b)) (.int .i64 k) false).run Tryz.prog w = .ok (encT_ (f k)) w := by
  obtain ⟨⟨D, h, r⟩, _⟩ := h
  obtain ⟨v, ps, hrun, hv⟩ := h.lookup (int_keyed Tryz.underlying3) Tryz.underlying67 (zeroPtrL w) (ptrR_mk none) (keyOf_int_mk Tryz.underlying3 hk)
  obtain ⟨p, rfl, hp⟩ := ptrR_inv hv
  rw [r.at hk, Prod.mk.injEq] at hp
  rw [hrun, datT_inj hp.1]
theorem TMapAt.store {w : World} {b n : Nat} {f : TSta} (h : TMapAt w b n f) (hn : n < maxLen) {k : Int} (hk : Wf k) (p : Nat) :
    ∃ w', (Instr.mapUpdate 67 (.map (some b)) (.int .i64 k) (encT_ (some p))).run Tryz.prog w = .ok () w' ∧ TMapAt w' b (n + 1) (fun x => if x = k then some p else f x) ∧ w.mapTurned w' b := by
  obtain ⟨⟨D, h, r⟩, g⟩ := h
  obtain ⟨w', hrun, h', ht⟩ := h.store (int_keyed Tryz.underlying3) Tryz.underlying67 hn (keyOf_int_mk Tryz.underlying3 hk) (ptrR_mk (some p))
  refine ⟨w', hrun, ⟨⟨_, h', readsT_put r h.isMap k p⟩, fun x q hx => ?_⟩, ht⟩
  split at hx
  · rename_i e; rw [e]; exact hk
  · exact g x q hx
end Go.Proofs.YtehighgebbdenaaGreatDoor
end
section
namespace Go.Proofs.YtehighgebbdenaaGreatDoor
open Go
theorem append_at {P : Program} (w : World) (base : Nat) (t ty e : TypeId) (i : TypeInfo) (z : Value) (size bytes : Nat) (ht : P.underlying t = some (.slice e)) (hi : P.info? e = some i) (hz : i.zero = some z)
    (hsize : i.size = size) (hby : i.bytes = bytes) (hzs : z.cells.size = size) (hsz : 0 < size)
    (v : Value) (n : Nat) (xs : List Value) (hown : w.ownsRow base e size v n xs)
    (a : Addr) (m c : Nat) (hm0 : 0 < m) (news : List Value) (hl : news.length = m * size) (hnews : ∀ j u, news[j]? = some u → w.cell? (a.add j) = some u) (h1 : ∀ u ∈ news, u.oneCell' = true)
    (h63 : n + m ≤ maxLen) (hbytes : (n + m) * bytes ≤ 140737488355328) (hbase : base ≤ w.heap.size) :
    ∃ v' w', (Builtin.append_ #[t, t] ty #[v, .slice (some a) m c]).run P w = .ok v' w' ∧ w'.ownsRow base e size v' (n + m) (xs ++ news) ∧ w.grownBy w' v.ownBlock ∧
      (v'.ownBlock = v.ownBlock ∨ v'.ownBlock = some w.heap.size) := by
  obtain ⟨v', w', hrun, h', hg', -⟩ := run_append_own (P := P) w base t ty e i z size bytes ht hi hz hsize hby hzs hsz v n xs hown a m c news hl hnews h1 h63 hbytes hbase
  refine ⟨v', w', hrun, h', hg', ?_⟩
  subst hsize
  subst hby
  have hsmall : n + m ≤ 9223372036854775807 := by simp only [maxLen] at h63; omega
  rcases hown.2 with ⟨rfl, rfl⟩ | ⟨g, cap, cur, rfl, hbg, hg, hnc, hcm, hcs, htake⟩
  · have hr := run_append_nil (P := P) w t ty e i z ht hi hz a m c news hl hnews (by omega) (by omega) (by have hb := hbytes; simp only [Nat.zero_add] at hb; omega)
    rw [hr] at hrun
    simp only [Result.ok.injEq] at hrun
    right
    rw [← hrun.1]
    rfl
  · by_cases hroom : n + m ≤ cap
    · have hfit : n * i.size + news.length ≤ cur.size := by rw [hl, hcs, ← Nat.add_mul]; exact Nat.mul_le_mul_right _ hroom
      have hr := run_append_room (P := P) w t ty e i ht hi g n cap cur hg a m c news hl hnews h1 hroom hfit
      rw [hr] at hrun
      simp only [Result.ok.injEq] at hrun
      left
      rw [← hrun.1]
      rfl
    · have holds : ∀ j u, xs[j]? = some u → w.cell? ((⟨g, 0, none⟩ : Addr).add j) = some u := hown.cells (g := g) rfl
      have hr := run_append_grow (P := P) w t ty e i z ht hi hz ⟨g, 0, none⟩ n cap xs hown.1 holds a m c news hl hnews (by omega) (by omega) (growslice_fits (by omega) hbytes)
      rw [hr] at hrun
      simp only [Result.ok.injEq] at hrun
      right
      rw [← hrun.1]
      rfl
end Go.Proofs.YtehighgebbdenaaGreatDoor
end
