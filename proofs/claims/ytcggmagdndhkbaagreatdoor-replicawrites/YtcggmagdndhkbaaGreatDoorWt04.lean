import Derived.Test.YtcggmagdndhkbaaGreatDoorWt02
import Derived.Test.YtcggmagdndhkbaaGreatDoorWt03
import Derived.Laws.IdiomCopy
import Derived.Laws.OwnMore
import Derived.Below
import Derived.Laws.AppendOwn
section
namespace Go.Proofs.YtcggmagdndhkbaaGreatDoor
open scoped Classical
theorem err_by {x : OpX} (h : errO x = 0) : 1 ≤ x.1 ∧ x.1 ≤ 1073741824 ∧ 0 ≤ byO x ∧ byO x < 4 := by
  have h0 := opE_zero h
  exact ⟨h0.1, h0.2.1, h0.2.2.1, h0.2.2.2.1⟩
theorem err_refs {x : OpX} (h : errO x = 0) : ((kdO x = 109 ∧ nodeO x ≤ idO x) ∨ nodeO x < idO x) ∧ otherO x < idO x ∧ 0 ≤ nodeO x ∧ 0 ≤ otherO x ∧ (kdO x = 109 → 2 ≤ nodeO x) ∧ (kdO x = 100 → otherO x ≠ 0) := by
  have h0 := opE_zero h
  have hid : 4 ≤ idO x := by unfold idO; have := h0.1; have := h0.2.2.1; omega
  unfold errO opE at h
  rw [if_pos ⟨h0.1, h0.2.1, h0.2.2.1, h0.2.2.2.1, h0.2.2.2.2.1, h0.2.2.2.2.2.1⟩] at h
  have e : x.1 * 4 + x.2.1 = idO x := rfl
  rw [e] at h
  unfold kindE at h
  split at h
  · rename_i hk
    unfold moveE at h
    split at h
    · cases h
    · rename_i hc
      have hk' : kdO x = 109 := hk
      have e1 : x.2.2.2.2.1 = nodeO x := rfl
      have e2 : x.2.2.2.2.2.1 = otherO x := rfl
      rw [e1, e2] at hc
      exact ⟨.inl ⟨hk', by omega⟩, by omega, by omega, by omega, fun _ => by omega, fun k => by rw [hk'] at k; exact absurd k (by decide)⟩
  · rename_i hk
    have hk' : kdO x ≠ 109 := hk
    split at h
    · rename_i hki
      unfold insE at h
      split at h
      · cases h
      · rename_i hc
        have e1 : x.2.2.2.2.1 = nodeO x := rfl
        have e2 : x.2.2.2.2.2.1 = otherO x := rfl
        rw [e1, e2] at hc
        have hki' : kdO x = 105 := hki
        exact ⟨.inr (by omega), by omega, by omega, by omega, fun k => absurd k hk', fun k => by rw [hki'] at k; exact absurd k (by decide)⟩
    · split at h
      · unfold delE at h
        split at h
        · cases h
        · rename_i hc
          have e1 : x.2.2.2.2.1 = nodeO x := rfl
          have e2 : x.2.2.2.2.2.1 = otherO x := rfl
          rw [e1, e2] at hc
          exact ⟨.inr (by omega), by omega, by omega, by omega, fun k => absurd k hk', fun _ => by omega⟩
      · rename_i hkd
        have hkd' : kdO x ≠ 100 := hkd
        split at h
        · unfold setE at h
          split at h
          · cases h
          · rename_i hc
            have e1 : x.2.2.2.2.1 = nodeO x := rfl
            have e2 : x.2.2.2.2.2.1 = otherO x := rfl
            rw [e1, e2] at hc
            exact ⟨.inr (by omega), by omega, by omega, by omega, fun k => absurd k hk', fun k => absurd k hkd'⟩
        · cases h
theorem id_inj {x y : OpX} (hx : errO x = 0) (hy : errO y = 0) (e : idO x = idO y) : stO x = stO y := by
  have h1 := err_by hx
  have h2 := err_by hy
  unfold idO at e
  have e1 : x.2.1 = byO x := rfl
  have e2 : y.2.1 = byO y := rfl
  rw [e1, e2] at e
  have a : x.1 = y.1 := by omega
  have b : byO x = byO y := by omega
  unfold stO
  rw [a, show x.2.1 = y.2.1 from b]
theorem id_lt {x y : OpX} (hx : errO x = 0) (hy : errO y = 0) (h : idO x < idO y) : CLt (stO x) (stO y) := by
  have h1 := err_by hx
  have h2 := err_by hy
  unfold idO at h
  have e1 : x.2.1 = byO x := rfl
  have e2 : y.2.1 = byO y := rfl
  rw [e1, e2] at h
  unfold CLt stO
  dsimp only
  rw [e1, e2]
  omega
theorem id_pos {x : OpX} (hx : errO x = 0) : 4 ≤ idO x := by
  have h1 := err_by hx
  unfold idO
  have e1 : x.2.1 = byO x := rfl
  rw [e1]
  omega
structure StepOk (A : List OpX) (o : OpX) : Prop where
  ok : errO o = 0
  new : ∀ x ∈ A, stO x ≠ stO o
  refs : RefOk (o :: A) o
  all : ∀ x ∈ A, errO x = 0 ∧ RefOk A x
  uniq : ∀ x ∈ A, ∀ y ∈ A, stO x = stO y → x = y
theorem StepOk.perm {A B : List OpX} {o : OpX} (h : StepOk A o) (e : A.Perm B) : StepOk B o :=
  ⟨h.ok, fun x hx => h.new x (e.mem_iff.2 hx), h.refs.mono (fun x hx => by rcases List.mem_cons.1 hx with rfl | hx; exact List.mem_cons_self; exact List.mem_cons_of_mem _ (e.mem_iff.1 hx)), fun x hx => ⟨(h.all x (e.mem_iff.2 hx)).1, (h.all x (e.mem_iff.2 hx)).2.mono (fun y hy => e.mem_iff.1 hy)⟩, fun x hx y hy => h.uniq x (e.mem_iff.2 hx) y (e.mem_iff.2 hy)⟩
theorem StepOk.idnew {A : List OpX} {o : OpX} (h : StepOk A o) : ∀ x ∈ A, idO x ≠ idO o := fun x hx e => h.new x hx (id_inj (h.all x hx).1 h.ok e)
theorem StepOk.fresh {A : List OpX} {o : OpX} (h : StepOk A o) (e : nodeO o = idO o) : (¬ KnownN A (nodeO o)) ∧ ∀ x ∈ A, nodeO x ≠ nodeO o := by
  have hk : ¬ KnownN A (nodeO o) := fun ⟨x, hx, _, _, q⟩ => h.idnew x hx (q.trans e)
  refine ⟨hk, fun x hx q => ?_⟩
  rcases (h.all x hx).2.1 with ⟨_, k⟩ | k
  · exact h.idnew x hx (by rw [k, q, e])
  · rw [q] at k; exact hk k
theorem known_tail {A : List OpX} {o : OpX} {nd : Int} (h : KnownN (o :: A) nd) (hn : nd ≠ idO o) : KnownN A nd := by
  obtain ⟨x, hx, q⟩ := h
  rcases List.mem_cons.1 hx with rfl | hx
  · exact absurd q.2.2.symm hn
  · exact ⟨x, hx, q⟩
theorem letter_tail {A : List OpX} {o : OpX} {nd id : Int} (h : LetterN (o :: A) nd id) (hn : id ≠ idO o) : LetterN A nd id := by
  obtain ⟨x, hx, q⟩ := h
  rcases List.mem_cons.1 hx with rfl | hx
  · exact absurd q.2.2.symm hn
  · exact ⟨x, hx, q⟩
theorem StepOk.node {A : List OpX} {o : OpX} (h : StepOk A o) (e : nodeO o ≠ idO o) : KnownN A (nodeO o) := by
  rcases h.refs.1 with ⟨_, q⟩ | q
  · exact absurd q.symm e
  · exact known_tail q e
theorem StepOk.letter {A : List OpX} {o : OpX} (h : StepOk A o) (hk : (kdO o = 105 ∧ 0 < otherO o) ∨ kdO o = 100) : LetterN A (nodeO o) (otherO o) := by
  have := (err_refs h.ok).2.1
  exact letter_tail (h.refs.2.2 hk) (by omega)
theorem StepOk.line {A : List OpX} {o : OpX} (h : StepOk A o) (hk : kdO o = 105 ∨ kdO o = 100 ∨ kdO o = 115) : nodeO o ≠ idO o := by
  rcases (err_refs h.ok).1 with ⟨q, _⟩ | q
  · rw [q] at hk; rcases hk with k | k | k <;> exact absurd k (by decide)
  · omega
theorem StepOk.ungone {A : List OpX} {o : OpX} (h : StepOk A o) (nd : Int) : ¬ GoneIn A nd (idO o) := fun ⟨x, hx, k, e1, e2⟩ => by
  obtain ⟨y, hy, _, _, q⟩ := (h.all x hx).2.2.2 (.inr k)
  exact h.idnew y hy (q.trans e2)
theorem known_cons {A : List OpX} {o : OpX} {nd : Int} : KnownN (o :: A) nd ↔ KnownN A nd ∨ (kdO o = 109 ∧ nodeO o = nd ∧ idO o = nd) := by
  constructor
  · rintro ⟨x, hx, q⟩
    rcases List.mem_cons.1 hx with rfl | hx
    · exact .inr q
    · exact .inl ⟨x, hx, q⟩
  · rintro (⟨x, hx, q⟩ | q)
    · exact ⟨x, List.mem_cons_of_mem _ hx, q⟩
    · exact ⟨o, List.mem_cons_self, q⟩
theorem prefix_step {S K ys : List OpX} (hW : WellK S) (hS : ∀ x, x ∈ S ↔ x ∈ K ∨ x ∈ ys) (hK : ∀ x ∈ K, RefOk K x) (hs : ys.Pairwise (fun a b => CLt (stO a) (stO b))) (hoff : ∀ x ∈ ys, x ∉ K) {k : Nat} {o : OpX} (ho : ys[k]? = some o) : StepOk (K ++ ys.take k) o := by
  have hoy : o ∈ ys := List.mem_of_getElem? ho
  have hkl := (List.getElem?_eq_some_iff.1 ho).1
  have hsub : ∀ x, x ∈ K ++ ys.take k → x ∈ S := fun x hx => (hS x).2 ((List.mem_append.1 hx).imp (fun q => q) (fun q => List.mem_of_mem_take q))
  have hp := List.pairwise_iff_getElem.1 hs
  -- what lies below the one at j is ahead of it
  have low : ∀ (j : Nat) (x y : OpX), ys[j]? = some x → y ∈ S → idO y < idO x → y ∈ K ++ ys.take j := fun j x y hj hy hlt => by
    have hxS : x ∈ S := (hS x).2 (.inr (List.mem_of_getElem? hj))
    have hc := id_lt (hW.ok y hy) (hW.ok x hxS) hlt
    rcases (hS y).1 hy with q | q
    · exact List.mem_append_left _ q
    · obtain ⟨i, hi, rfl⟩ := List.getElem_of_mem q
      have hij : i < j := by
        rcases Nat.lt_trichotomy i j with h | h | h
        · exact h
        · subst h
          rw [List.getElem?_eq_getElem hi] at hj
          cases hj
          exact absurd hc clt_irrefl
        · obtain ⟨hjl, rfl⟩ := List.getElem?_eq_some_iff.1 hj
          exact absurd (clt_trans hc (hp j i hjl hi h)) clt_irrefl
      refine List.mem_append_right _ (List.mem_of_getElem? (i := i) ?_)
      rw [List.getElem?_take, if_pos hij]
      exact List.getElem?_eq_getElem hi
  have refs : ∀ (j : Nat) (x : OpX), ys[j]? = some x → RefOk (x :: (K ++ ys.take j)) x := fun j x hj => by
    have hxS : x ∈ S := (hS x).2 (.inr (List.mem_of_getElem? hj))
    have hr := hW.refs x hxS
    have he := err_refs (hW.ok x hxS)
    have up : ∀ y, y ∈ S → idO y < idO x → y ∈ x :: (K ++ ys.take j) := fun y hy hl => List.mem_cons_of_mem _ (low j x y hj hy hl)
    refine ⟨?_, fun hk => ?_, fun hk => ?_⟩
    · rcases hr.1 with q | ⟨y, hy, q1, q2, q3⟩
      · exact .inl q
      · rcases he.1 with ⟨q, q'⟩ | q
        · by_cases e : idO x = nodeO x
          · exact .inl ⟨q, e⟩
          · exact .inr ⟨y, up y hy (by omega), q1, q2, q3⟩
        · exact .inr ⟨y, up y hy (by omega), q1, q2, q3⟩
    · rcases hr.2.1 hk with q | q | ⟨y, hy, q1, q2, q3⟩
      · exact .inl q
      · exact .inr (.inl q)
      · exact .inr (.inr ⟨y, up y hy (by omega), q1, q2, q3⟩)
    · obtain ⟨y, hy, q1, q2, q3⟩ := hr.2.2 hk
      exact ⟨y, up y hy (by omega), q1, q2, q3⟩
  refine ⟨hW.ok o ((hS o).2 (.inr hoy)), fun x hx e => ?_, refs k o ho, fun x hx => ⟨hW.ok x (hsub x hx), ?_⟩, fun x hx y hy e => hW.stamp (hsub x hx) (hsub y hy) e⟩
  · rcases List.mem_append.1 hx with q | q
    · have := hW.stamp (hsub x hx) ((hS o).2 (.inr hoy)) e
      subst this
      exact hoff x hoy q
    · obtain ⟨i, hi, rfl⟩ := List.getElem_of_mem q
      have hi' : i < k ∧ i < ys.length := by rw [List.length_take] at hi; omega
      have hc := hp i k hi'.2 hkl hi'.1
      rw [List.getElem_take] at e
      rw [(List.getElem?_eq_some_iff.1 ho).2, e] at hc
      exact clt_irrefl hc
  · rcases List.mem_append.1 hx with q | q
    · exact (hK x q).mono (fun y hy => List.mem_append_left _ hy)
    · obtain ⟨i, hi, e⟩ := List.getElem_of_mem q
      have hi' : i < k ∧ i < ys.length := by rw [List.length_take] at hi; omega
      rw [List.getElem_take] at e
      have hxi : ys[i]? = some x := by rw [← e]; exact List.getElem?_eq_getElem hi'.2
      refine (refs i x hxi).mono (fun y hy => ?_)
      rcases List.mem_cons.1 hy with rfl | hy
      · exact hx
      · rcases List.mem_append.1 hy with hy | hy
        · exact List.mem_append_left _ hy
        · refine List.mem_append_right _ ?_
          have : ys.take i = (ys.take k).take i := by rw [List.take_take]; congr 1; omega
          rw [this] at hy
          exact List.mem_of_mem_take hy
end Go.Proofs.YtcggmagdndhkbaaGreatDoor
end
section
set_option linter.unusedVariables false
namespace Go.Proofs.YtcggmagdndhkbaaGreatDoor
theorem join_part {R : Rws} (h : RowsK R) {T l : List OpX} (hT : WellK T) (hc : Compat (allR R) T) (hl : ∀ x, x ∈ l → x ∈ T) (hl2 : ∀ x, x ∈ T → x ∈ allR R ∨ x ∈ l) (hlen : (allR R).length + l.length ≤ 400) : ∃ fresh, (∀ a, JoinIs (allR R) l a → a = .inr fresh) ∧ FreshK (allR R) fresh ∧ (∀ x, x ∈ allR R ++ fresh ↔ x ∈ allR R ∨ x ∈ T) ∧ WellK (allR R ++ fresh) := by
  obtain ⟨out, h1, h2⟩ := sift_fine h.num.one hT.one hc hT.ok (l := l) 0 (fresh := []) (fun x hx => hl x hx) (fun x hx => by simp at hx)
  obtain ⟨k1, k2, k3, k4, k5⟩ := sift_fresh (freshK_nil _) h1
  have hmem : ∀ x, x ∈ allR R ++ out ↔ x ∈ allR R ∨ x ∈ T := fun x => by
    rw [List.mem_append]
    constructor
    · rintro (q | q)
      · exact .inl q
      · exact .inr (h2 x q)
    · rintro (q | q)
      · exact .inl q
      · rcases hl2 x q with q | q
        · exact .inl q
        · exact k4 x q
  have hw : WellK (allR R ++ out) := (h.well.union hT hc).congr (fun x => by rw [List.mem_append]; exact (hmem x).symm)
  refine ⟨out, fun a ha => ?_, k1, hmem, hw⟩
  unfold JoinIs at ha
  rw [h1] at ha
  dsimp only at ha
  rcases ha with ⟨⟨x, hx, q1, q2⟩, _⟩ | ⟨_, ⟨x, hx, y, hy, q1, q2, q3⟩, _⟩ | ⟨_, _, ⟨x, hx, q⟩, _⟩ | ⟨_, q, _⟩ | ⟨_, _, q⟩
  · exact ((hw.gap x hx).elim q1 q2).elim
  · exact (q3 (hw.rise x hx y hy q1 q2)).elim
  · exact (q (hw.refs x hx)).elim
  · simp at k5; omega
  · exact q
structure NextOp (R : Rws) (i : Nat) (T : Int) (x : OpX) : Prop where
  ok : errO x = 0
  by_ : byO x = (i : Int)
  num : numO x = ((R i).length : Int) + 1
  time : x.1 = T + 1
  refs : RefOk (x :: allR R) x
theorem num_le {R : Rws} (h : NumK R) {i : Nat} (hi : i < 4) {y : OpX} (hy : y ∈ allR R) (e : byO y = (i : Int)) : numO y ≤ ((R i).length : Int) := by
  obtain ⟨k, hk, hyk⟩ := mem_allR.1 hy
  obtain ⟨j, hj, q1, q2, _⟩ := h.get hk hyk
  have : k = i := by omega
  subst this
  have := (List.getElem?_eq_some_iff.1 hj).1
  omega
theorem NextOp.well {R : Rws} {i : Nat} {T : Int} {x : OpX} (hx : NextOp R i T x) (hR : RowsK R) (hi : i < 4) (hT : ∀ y ∈ allR R, y.1 ≤ T) : WellK (x :: allR R) ∧ ∀ y ∈ allR R, byO y = byO x → numO y < numO x := by
  have hnew : ∀ y ∈ allR R, byO y = byO x → numO y < numO x := fun y hy e => by
    have := num_le hR.num hi hy (e.trans hx.by_)
    have := hx.num
    omega
  refine ⟨hR.well.add hx.ok ?_ hnew (fun y hy => ?_) hx.refs, hnew⟩
  · by_cases h0 : (R i).length = 0
    · left
      have := hx.num
      omega
    · right
      have hl : (R i).length - 1 < (R i).length := by omega
      have hm : (R i)[(R i).length - 1] ∈ R i := List.getElem_mem hl
      obtain ⟨j, hj, q1, q2, _⟩ := hR.num.get hi hm
      have hlast := hR.num i hi ((R i).length - 1) _ (List.getElem?_eq_getElem hl)
      refine ⟨(R i)[(R i).length - 1], mem_allR.2 ⟨i, hi, hm⟩, by rw [q1, hx.by_], ?_⟩
      have h3 := hlast.2.1
      have := hx.num
      omega
  · have h1 := hT y hy
    have h2 := hx.time
    unfold CLt stO
    dsimp only
    omega
theorem compat_own {R : Rws} {i : Nat} {T : Int} {x : OpX} (hx : NextOp R i T x) (hR : RowsK R) (hi : i < 4) (hT : ∀ y ∈ allR R, y.1 ≤ T) : Compat (allR R) (x :: allR R) := fun a ha b hb e1 e2 => by
  rcases List.mem_cons.1 hb with rfl | hb
  · have := (hx.well hR hi hT).2 a ha e1
    omega
  · exact hR.well.one a ha b hb e1 e2
theorem NumK.nodup {R : Rws} (h : NumK R) : (allR R).Nodup := by
  have row : ∀ i, i < 4 → (R i).Nodup := fun i hi => by
    unfold List.Nodup
    rw [List.pairwise_iff_getElem]
    intro a b ha hb hab e
    have h1 := h i hi a _ (List.getElem?_eq_getElem ha)
    have h2 := h i hi b _ (List.getElem?_eq_getElem hb)
    rw [e] at h1
    have := h1.2.1
    have := h2.2.1
    omega
  have off : ∀ i j, i < 4 → j < 4 → i ≠ j → ∀ a ∈ R i, ∀ b ∈ R j, a ≠ b := fun i j hi hj hij a ha b hb e => by
    obtain ⟨_, _, q1, _⟩ := h.get hi ha
    obtain ⟨_, _, q2, _⟩ := h.get hj hb
    rw [e] at q1
    omega
  unfold allR
  simp only [List.nodup_append, List.mem_append]
  refine ⟨row 0 (by omega), ⟨row 1 (by omega), ⟨row 2 (by omega), row 3 (by omega), off 2 3 (by omega) (by omega) (by omega)⟩, fun a ha b hb => ?_⟩, fun a ha b hb => ?_⟩
  · rcases hb with hb | hb
    · exact off 1 2 (by omega) (by omega) (by omega) a ha b hb
    · exact off 1 3 (by omega) (by omega) (by omega) a ha b hb
  · rcases hb with hb | hb | hb
    · exact off 0 1 (by omega) (by omega) (by omega) a ha b hb
    · exact off 0 2 (by omega) (by omega) (by omega) a ha b hb
    · exact off 0 3 (by omega) (by omega) (by omega) a ha b hb
theorem len_sub {α : Type} [DecidableEq α] : ∀ {l H : List α}, l.Nodup → (∀ x, x ∈ l → x ∈ H) → l.length ≤ H.length
  | [], _, _, _ => Nat.zero_le _
  | x :: t, H, hn, hs => by
    obtain ⟨h1, h2⟩ := List.nodup_cons.1 hn
    have hx : x ∈ H := hs x (by simp)
    have := len_sub (l := t) (H := H.erase x) h2 (fun y hy => (List.mem_erase_of_ne (fun e => h1 (by rw [← e]; exact hy))).2 (hs y (by simp [hy])))
    rw [List.length_erase_of_mem hx] at this
    have hp : 0 < H.length := List.length_pos_of_mem hx
    rw [List.length_cons]
    omega
end Go.Proofs.YtcggmagdndhkbaaGreatDoor
end
section
namespace Go.Proofs.YtcggmagdndhkbaaGreatDoor
def typed (p : Int) : List Ltr → List Ltr → List Ltr
  | [], L => L
  | x :: u, L => typed x.1 u (put p x L)
def Ends (p : Int) (A : List Ltr) : Prop := (p = 0 ∧ A = []) ∨ ∃ A' l, A = A' ++ [l] ∧ l.1 = p ∧ p ≠ 0 ∧ ∀ g ∈ A', g.1 ≠ p
theorem putB_end {p : Int} {x l : Ltr} (hl : l.1 = p) : ∀ (A R : List Ltr), (∀ g ∈ A, g.1 ≠ p) → putB p x (A ++ [l] ++ R) = A ++ [l] ++ laid x R
  | [], R, _ => by
    show putB p x (l :: R) = l :: laid x R
    exact putB_yes hl R
  | g :: A, R, h => by
    show putB p x (g :: (A ++ [l] ++ R)) = g :: (A ++ [l] ++ laid x R)
    rw [putB_no (h g (by simp)), putB_end hl A R (fun k hk => h k (by simp [hk]))]
theorem put_end {p : Int} {A R : List Ltr} {x : Ltr} (h : Ends p A) : put p x (A ++ R) = A ++ laid x R := by
  unfold put
  rcases h with ⟨rfl, rfl⟩ | ⟨A', l, rfl, hl, h0, hg⟩
  · rw [if_pos rfl]
    rfl
  · rw [if_neg h0]
    exact putB_end hl A' R hg
theorem laid_past {x : Ltr} : ∀ (V R : List Ltr), (∀ g ∈ V, x.1 < g.1) → (∀ g ∈ R, g.1 < x.1) → laid x (V ++ R) = V ++ x :: R
  | [], [], _, _ => rfl
  | [], r :: R, _, h => by
    have := h r (by simp)
    exact laid_no (by omega) R
  | g :: V, R, h1, h2 => by
    show laid x (g :: (V ++ R)) = g :: (V ++ x :: R)
    rw [laid_yes (h1 g (by simp)), laid_past V R (fun k hk => h1 k (by simp [hk])) h2]
def Rises (u : List Ltr) : Prop := u.Pairwise (fun a b => a.1 < b.1)
theorem ends_snoc {A : List Ltr} {x : Ltr} (h0 : x.1 ≠ 0) (hn : ∀ g ∈ A, g.1 ≠ x.1) : Ends x.1 (A ++ [x]) := .inr ⟨A, x, rfl, rfl, h0, hn⟩
theorem typed_at : ∀ (u : List Ltr) {p : Int} {A V R : List Ltr}, Ends p A → Rises u → (∀ x ∈ u, x.1 ≠ 0) → (∀ x ∈ u, ∀ g ∈ A ++ V, g.1 ≠ x.1) → (∀ x, u.head? = some x → ∀ g ∈ V, x.1 < g.1) → (∀ x ∈ u, ∀ g ∈ R, g.1 < x.1) → typed p u (A ++ V ++ R) = A ++ V ++ u ++ R
  | [], p, A, V, R, _, _, _, _, _, _ => by simp [typed]
  | x :: u, p, A, V, R, hE, hr, h0, hn, hV, hR => by
    obtain ⟨r1, r2⟩ := List.pairwise_cons.1 hr
    show typed x.1 u (put p x (A ++ V ++ R)) = _
    rw [List.append_assoc, put_end hE, laid_past V R (hV x rfl) (hR x (by simp))]
    have e : A ++ (V ++ x :: R) = (A ++ V ++ [x]) ++ [] ++ R := by simp
    rw [e, typed_at u (p := x.1) (A := A ++ V ++ [x]) (V := []) (R := R) (ends_snoc (h0 x (by simp)) (fun g hg => hn x (by simp) g hg)) r2 (fun y hy => h0 y (by simp [hy])) (fun y hy g hg => ?_) (fun _ _ g hg => by simp at hg) (fun y hy => hR y (by simp [hy]))]
    · simp
    · simp only [List.append_nil] at hg
      rcases List.mem_append.1 hg with hg | hg
      · exact hn y (by simp [hy]) g hg
      · obtain rfl : g = x := by simpa using hg
        have := r1 y hy
        omega
theorem typed_two {u v : List Ltr} {p : Int} {A R : List Ltr} (hE : Ends p A) (hu : Rises u) (hv : Rises v) (u0 : ∀ x ∈ u, x.1 ≠ 0) (v0 : ∀ x ∈ v, x.1 ≠ 0) (hA : ∀ x ∈ u ++ v, ∀ g ∈ A, g.1 ≠ x.1) (hR : ∀ x ∈ u ++ v, ∀ g ∈ R, g.1 < x.1) (huv : ∀ x ∈ u, ∀ y ∈ v, x.1 ≠ y.1)
    (hlt : ∀ x, u.head? = some x → ∀ y ∈ v, x.1 < y.1) : typed p u (typed p v (A ++ R)) = A ++ v ++ u ++ R ∧ typed p v (typed p u (A ++ R)) = A ++ v ++ u ++ R := by
  have e1 : typed p v (A ++ R) = A ++ v ++ R := by
    have := typed_at v (p := p) (A := A) (V := []) (R := R) hE hv v0 (fun x hx g hg => hA x (by simp [hx]) g (by simpa using hg)) (fun _ _ g hg => by simp at hg) (fun x hx => hR x (by simp [hx]))
    simpa using this
  have e2 : typed p u (A ++ R) = A ++ u ++ R := by
    have := typed_at u (p := p) (A := A) (V := []) (R := R) hE hu u0 (fun x hx g hg => hA x (by simp [hx]) g (by simpa using hg)) (fun _ _ g hg => by simp at hg) (fun x hx => hR x (by simp [hx]))
    simpa using this
  refine ⟨?_, ?_⟩
  · rw [e1]
    refine typed_at u hE hu u0 (fun x hx g hg => ?_) (fun x hx g hg => hlt x hx g hg) (fun x hx => hR x (by simp [hx]))
    rcases List.mem_append.1 hg with hg | hg
    · exact hA x (by simp [hx]) g hg
    · exact fun e => huv x hx g hg e.symm
  · rw [e2]
    cases u with
    | nil =>
      rw [List.append_nil, e1, List.append_nil]
    | cons x u =>
      cases v with
      | nil => simp [typed]
      | cons y v =>
        -- the first of v goes ahead of u; the others behind it, one by one
        have step : ∀ (v : List Ltr) {q : Int} {C : List Ltr}, Ends q C → Rises v → (∀ z ∈ v, z.1 ≠ 0) → (∀ z ∈ v, ∀ g ∈ C, g.1 ≠ z.1) → (∀ z ∈ v, x.1 < z.1) → typed q v (C ++ (x :: u) ++ R) = C ++ v ++ (x :: u) ++ R := by
          intro v
          induction v with
          | nil => intro q C _ _ _ _ _; simp [typed]
          | cons z v ih =>
            intro q C hC hr h0 hn hx
            obtain ⟨r1, r2⟩ := List.pairwise_cons.1 hr
            show typed z.1 v (put q z (C ++ (x :: u) ++ R)) = _
            have hz := hx z (by simp)
            rw [List.append_assoc, put_end hC, show laid z ((x :: u) ++ R) = z :: ((x :: u) ++ R) from laid_no (by omega) _]
            have e : C ++ z :: ((x :: u) ++ R) = (C ++ [z]) ++ (x :: u) ++ R := by simp
            rw [e, ih (q := z.1) (C := C ++ [z]) (ends_snoc (h0 z (by simp)) (fun g hg => hn z (by simp) g hg)) r2 (fun y hy => h0 y (by simp [hy])) (fun y hy g hg => ?_) (fun y hy => hx y (by simp [hy]))]
            · simp
            · rcases List.mem_append.1 hg with hg | hg
              · exact hn y (by simp [hy]) g hg
              · obtain rfl : g = z := by simpa using hg
                have := r1 y hy
                omega
        exact step (y :: v) hE hv v0 (fun z hz g hg => hA z (by simp only [List.mem_append]; exact .inr hz) g hg) (fun z hz => hlt x rfl z hz)
end Go.Proofs.YtcggmagdndhkbaaGreatDoor
end
section
namespace Go.Proofs.YtcggmagdndhkbaaGreatDoor
open Go Go.RowKit
structure Keeps (S : Nat → Prop) (w w' : World) : Prop where
  os : w'.os = w.os
  tape : w'.tape = w.tape
  output : w'.output = w.output
  size : w.heap.size ≤ w'.heap.size
  block : ∀ k, k < w.heap.size → ¬ S k → w'.heap[k]? = w.heap[k]?
theorem Keeps.refl (S : Nat → Prop) (w : World) : Keeps S w w := ⟨rfl, rfl, rfl, Nat.le_refl _, fun _ _ _ => rfl⟩
theorem Keeps.trans {S : Nat → Prop} {a b c : World} (h : Keeps S a b) (k : Keeps S b c) : Keeps S a c :=
  ⟨k.os.trans h.os, k.tape.trans h.tape, k.output.trans h.output, Nat.le_trans h.size k.size, fun i hi hs => (k.block i (Nat.lt_of_lt_of_le hi h.size) hs).trans (h.block i hi hs)⟩
theorem Keeps.then {S T : Nat → Prop} {a b c : World} (h : Keeps S a b) (k : Keeps T b c) (hT : ∀ i, i < a.heap.size → T i → S i) : Keeps S a c :=
  ⟨k.os.trans h.os, k.tape.trans h.tape, k.output.trans h.output, Nat.le_trans h.size k.size, fun i hi hs => (k.block i (Nat.lt_of_lt_of_le hi h.size) (fun ht => hs (hT i hi ht))).trans (h.block i hi hs)⟩
theorem Keeps.mono {S T : Nat → Prop} {w w' : World} (h : Keeps S w w') (hs : ∀ k, k < w.heap.size → S k → T k) : Keeps T w w' :=
  ⟨h.os, h.tape, h.output, h.size, fun k hk ht => h.block k hk (fun e => ht (hs k hk e))⟩
theorem keeps_of_grown {w w' : World} {row : Option Nat} (h : w.grownBy w' row) : Keeps (fun k => some k = row) w w' :=
  ⟨h.os, h.tape, h.output, h.size, fun k hk hs => h.block k hk hs⟩
theorem keeps_of_below {B : Nat} {w w' : World} (h : Below B w w') : Keeps (fun k => B ≤ k) w w' :=
  ⟨h.os, h.tape, h.output, h.size, fun k _ hs => h.block k (by omega)⟩
theorem Keeps.below {S : Nat → Prop} {w w' : World} (h : Keeps S w w') {B : Nat} (hB : B ≤ w.heap.size) (hs : ∀ k, S k → B ≤ k) : Below B w w' :=
  ⟨h.os, h.tape, h.output, h.size, fun k hk => h.block k (by omega) (fun e => by have := hs k e; omega)⟩
theorem Keeps.drew {S : Nat → Prop} {w w' : World} (h : Keeps S w w') : Keeps S w w'.drew := ⟨h.os, h.tape, h.output, h.size, h.block⟩
theorem Keeps.alloc {S : Nat → Prop} {w w' : World} (h : Keeps S w w') (o : Obj) : Keeps S w (w'.alloc o) :=
  h.then (keeps_of_grown (World.grownBy_alloc w' o none)) (fun _ _ e => by cases e)
theorem Keeps.cell {S : Nat → Prop} {w w' : World} (h : Keeps S w w') {a : Addr} (ha : a.block < w.heap.size) (hs : ¬ S a.block) : w'.cell? a = w.cell? a := World.cell?_of_block (h.block _ ha hs)
def over (c : Array Value) : Nat → List Value → Array Value
  | _, [] => c
  | o, v :: r => over (c.setIfInBounds o v) (o + 1) r
theorem over_size : ∀ (vs : List Value) (o : Nat) (c : Array Value), (over c o vs).size = c.size
  | [], _, _ => rfl
  | v :: r, o, c => by rw [over, over_size r]; simp
theorem over_list : ∀ (vs A B C : List Value) (c : Array Value), c.toList = A ++ B ++ C → B.length = vs.length → (over c A.length vs).toList = A ++ vs ++ C
  | [], A, B, C, c, h, hl => by
    have : B = [] := List.length_eq_zero_iff.1 hl
    subst this
    simpa [over] using h
  | v :: r, A, [], C, c, h, hl => by simp at hl
  | v :: r, A, b :: B, C, c, h, hl => by
    have ih := over_list r (A ++ [v]) B C (c.setIfInBounds A.length v) (by simp [h]) (by simpa using hl)
    rw [over]
    simpa using ih
theorem setCells_heap (b : Nat) : ∀ (vs : List Value) (o : Nat) (w : World) (c : Array Value) (t : TypeId), w.heap[b]? = some (.cells c t (0, 0)) → (w.setCells b o vs).heap[b]? = some (.cells (over c o vs) t (0, 0))
  | [], _, _, _, _, h => h
  | v :: r, o, w, c, t, h => setCells_heap b r (o + 1) _ _ t (heap_setCell_same w b o c t v h)
theorem setCells_keeps (b : Nat) : ∀ (vs : List Value) (o : Nat) (w : World), Keeps (fun k => k = b) w (w.setCells b o vs)
  | [], _, w => Keeps.refl _ w
  | v :: r, o, w => by
    refine Keeps.trans (b := w.setCell ⟨b, o, none⟩ v) ⟨rfl, rfl, rfl, ?_, fun k _ hk => heap_setCell_other w ⟨b, o, none⟩ k v hk⟩ (setCells_keeps b r (o + 1) _)
    simp [World.setCell]
theorem run_copy_k {P : Program} (w : World) (dT sT ty elem : TypeId) (k b o dLen dCap : Nat) (a : Addr) (sLen sCap : Nat) (cs : List Value)
    (hu : P.underlying dT = some (.slice elem)) (hs : (P.info? elem).map (·.size) = some k) (hn : cs.length = Nat.min sLen dLen * k)
    (hsrc : ∀ j v, cs[j]? = some v → w.cell? (a.add j) = some v) (hc : ∀ j, j < cs.length → (w.cell? ⟨b, o + j, none⟩).isSome = true) (hf : ∀ j, j < cs.length → w.frozen? ⟨b, o + j, none⟩ = false) (h1 : ∀ v ∈ cs, v.oneCell' = true) :
    (Builtin.copy_ #[dT, sT] ty #[.slice (some ⟨b, o, none⟩) dLen dCap, .slice (some a) sLen sCap]).run P w = .ok (goInt (Nat.min sLen dLen)) (w.setCells b o cs) := by
  have hl := run_loadCells_list (P := P) w a cs hsrc
  have hst := run_storeCells_cells (P := P) b o cs 0 w (by simpa using hc) (by simpa using hf) h1
  cases hq : P.info? elem with
  | none => simp [hq] at hs
  | some i =>
    have hi : i.size = k := by simpa [hq] using hs
    simp only [Nat.add_zero] at hst
    simp [Builtin.copy_, run_underlying hu, Builtin.lenOf, Builtin.firstCells, sizeOf, typeInfo, hq, hi, ← hn, hl, hst]
theorem owns_laidIn {w : World} {base k g n cap i : Nat} {E : TypeId} {xs vs : List Value} (h : w.ownsRow base E k (.slice (some ⟨g, 0, none⟩) n cap) n xs) (hroom : n + 1 ≤ cap) (hi : i ≤ n) (hv : vs.length = k) :
    ((w.setCells g ((i + 1) * k) (xs.drop (i * k))).setCells g (i * k) vs).ownsRow base E k (.slice (some ⟨g, 0, none⟩) (n + 1) cap) (n + 1) (xs.take (i * k) ++ vs ++ xs.drop (i * k)) := by
  obtain ⟨hl, h2⟩ := h
  rcases h2 with ⟨hc, _⟩ | ⟨g', cap', cur, hc, hb, hg, hn, hm, hs, ht⟩
  · cases hc
  · cases hc
    have hik : i * k ≤ n * k := Nat.mul_le_mul_right k hi
    have hnk : (n + 1) * k = n * k + k := by rw [Nat.succ_mul]
    have hi1 : (i + 1) * k = i * k + k := by rw [Nat.succ_mul]
    have hck : (n + 1) * k ≤ cap * k := Nat.mul_le_mul_right k hroom
    have hcl : cur.toList.length = cap * k := by simpa using hs
    have hcur : cur.toList = xs ++ cur.toList.drop (n * k) := by
      conv => lhs; rw [← List.take_append_drop (n * k) cur.toList]
      rw [ht]
    obtain ⟨C, hC⟩ : ∃ C, C = cur.toList.drop (n * k) := ⟨_, rfl⟩
    rw [← hC] at hcur
    have hCl : C.length = cap * k - n * k := by rw [hC, List.length_drop, hcl]
    have hdl : (xs.drop (i * k)).length = n * k - i * k := by rw [List.length_drop, hl]
    have htl : (xs.take (i * k)).length = i * k := by rw [List.length_take, hl]; omega
    -- the first of the two
    have hg1 := setCells_heap g (xs.drop (i * k)) ((i + 1) * k) w cur E hg
    have e1 : (cur.toList.take ((i + 1) * k)).length = (i + 1) * k := by rw [List.length_take, hcl]; omega
    have o1 := over_list (xs.drop (i * k)) (cur.toList.take ((i + 1) * k)) ((cur.toList.drop ((i + 1) * k)).take (n * k - i * k)) ((cur.toList.drop ((i + 1) * k)).drop (n * k - i * k)) cur
      (by rw [List.append_assoc, List.take_append_drop, List.take_append_drop]) (by rw [List.length_take, List.length_drop, hdl, hcl]; omega)
    rw [e1] at o1
    obtain ⟨c1, hc1⟩ : ∃ c1, c1 = over cur ((i + 1) * k) (xs.drop (i * k)) := ⟨_, rfl⟩
    rw [← hc1] at o1 hg1
    have hs1 : c1.size = cap * k := by rw [hc1, over_size, hs]
    -- the second
    have hg2 := setCells_heap g vs (i * k) _ c1 E hg1
    have hA : cur.toList.take ((i + 1) * k) = xs.take (i * k) ++ (cur.toList.drop (i * k)).take k := by
      rw [hi1, List.take_add]
      congr 1
      rw [hcur, List.take_append_of_le_length (by omega)]
    have o2 := over_list vs (xs.take (i * k)) ((cur.toList.drop (i * k)).take k) (xs.drop (i * k) ++ (cur.toList.drop ((i + 1) * k)).drop (n * k - i * k)) c1
      (by rw [o1, hA]; simp [List.append_assoc]) (by rw [List.length_take, List.length_drop, hcl, hv]; omega)
    rw [htl] at o2
    refine ⟨?_, .inr ⟨g, cap, _, rfl, hb, hg2, hroom, hm, by rw [over_size, hs1], ?_⟩⟩
    · rw [List.length_append, List.length_append, htl, hv, hdl]; omega
    · rw [o2, ← List.append_assoc, List.take_append_of_le_length (by rw [List.length_append, List.length_append, htl, hv, hdl]; omega), List.take_of_length_le (by rw [List.length_append, List.length_append, htl, hv, hdl]; omega)]
theorem owns_newIn {w : World} {base k g n G i : Nat} {E : TypeId} {xs vs Z : List Value} {row : Array Value} (hg : w.heap[g]? = some (.cells row E (0, 0))) (hrow : row.toList = xs.take (i * k) ++ Z) (hs : row.size = G * k)
    (hb : base ≤ g) (hroom : n + 1 ≤ G) (hm : G ≤ maxLen) (hi : i ≤ n) (hl : xs.length = n * k) (hv : vs.length = k) :
    ((w.setCells g (i * k) vs).setCells g ((i + 1) * k) (xs.drop (i * k))).ownsRow base E k (.slice (some ⟨g, 0, none⟩) (n + 1) G) (n + 1) (xs.take (i * k) ++ vs ++ xs.drop (i * k)) := by
  have hik : i * k ≤ n * k := Nat.mul_le_mul_right k hi
  have hnk : (n + 1) * k = n * k + k := by rw [Nat.succ_mul]
  have hi1 : (i + 1) * k = i * k + k := by rw [Nat.succ_mul]
  have hck : (n + 1) * k ≤ G * k := Nat.mul_le_mul_right k hroom
  have hdl : (xs.drop (i * k)).length = n * k - i * k := by rw [List.length_drop, hl]
  have htl : (xs.take (i * k)).length = i * k := by rw [List.length_take, hl]; omega
  have hZl : Z.length = G * k - i * k := by
    have : row.toList.length = G * k := by simpa using hs
    rw [hrow, List.length_append, htl] at this
    omega
  have hg1 := setCells_heap g vs (i * k) w row E hg
  have o1 := over_list vs (xs.take (i * k)) (Z.take k) (Z.drop k) row (by rw [hrow, List.append_assoc, List.take_append_drop]) (by rw [List.length_take, hZl, hv]; omega)
  rw [htl] at o1
  obtain ⟨c1, hc1⟩ : ∃ c1, c1 = over row (i * k) vs := ⟨_, rfl⟩
  rw [← hc1] at o1 hg1
  have hs1 : c1.size = G * k := by rw [hc1, over_size, hs]
  have hg2 := setCells_heap g (xs.drop (i * k)) ((i + 1) * k) _ c1 E hg1
  have hal : (xs.take (i * k) ++ vs).length = (i + 1) * k := by rw [List.length_append, htl, hv, hi1]
  have o2 := over_list (xs.drop (i * k)) (xs.take (i * k) ++ vs) ((Z.drop k).take (n * k - i * k)) ((Z.drop k).drop (n * k - i * k)) c1
    (by rw [o1]; simp only [List.append_assoc, List.take_append_drop]) (by rw [List.length_take, List.length_drop, hZl, hdl]; omega)
  rw [hal] at o2
  refine ⟨?_, .inr ⟨g, G, _, rfl, hb, hg2, hroom, hm, by rw [over_size, hs1], ?_⟩⟩
  · rw [List.length_append, hal, hdl]; omega
  · rw [o2, List.take_append_of_le_length (by rw [List.length_append, hal, hdl]; omega), List.take_of_length_le (by rw [List.length_append, hal, hdl]; omega)]
end Go.Proofs.YtcggmagdndhkbaaGreatDoor
end
section
namespace Go.Proofs.YtcggmagdndhkbaaGreatDoor
open Go
section
variable {α : Type} {enc : α → List Value} {k : Nat}
def flat (enc : α → List Value) (L : List α) : List Value := L.flatMap enc
theorem flat_cons (x : α) (L : List α) : flat enc (x :: L) = enc x ++ flat enc L := rfl
theorem flat_append (L M : List α) : flat enc (L ++ M) = flat enc L ++ flat enc M := by simp [flat]
theorem flat_len (hk : ∀ x, (enc x).length = k) : ∀ L : List α, (flat enc L).length = L.length * k
  | [] => by simp [flat]
  | x :: L => by rw [flat_cons, List.length_append, hk, flat_len hk L, List.length_cons, Nat.succ_mul]; omega
theorem flat_take (hk : ∀ x, (enc x).length = k) (L : List α) (i : Nat) (hi : i ≤ L.length) : (flat enc L).take (i * k) = flat enc (L.take i) := by
  conv => lhs; rw [← List.take_append_drop i L]
  rw [flat_append, List.take_append_of_le_length (by rw [flat_len hk]; simp [Nat.min_eq_left hi]), List.take_of_length_le (by rw [flat_len hk]; simp [Nat.min_eq_left hi])]
theorem flat_drop (hk : ∀ x, (enc x).length = k) (L : List α) (i : Nat) (hi : i ≤ L.length) : (flat enc L).drop (i * k) = flat enc (L.drop i) := by
  conv => lhs; rw [← List.take_append_drop i L]
  rw [flat_append, List.drop_append_of_le_length (by rw [flat_len hk]; simp [Nat.min_eq_left hi]), List.drop_of_length_le (by rw [flat_len hk]; simp [Nat.min_eq_left hi])]
  rfl
theorem flat_get (hk : ∀ x, (enc x).length = k) {L : List α} {i c : Nat} {x : α} (hx : L[i]? = some x) (hc : c < k) : (flat enc L)[i * k + c]? = (enc x)[c]? := by
  obtain ⟨hil, hie⟩ := List.getElem?_eq_some_iff.1 hx
  have h1 : (flat enc L)[i * k + c]? = ((flat enc L).drop (i * k))[c]? := by rw [List.getElem?_drop]
  rw [h1, flat_drop hk L i (by omega), List.drop_eq_getElem_cons hil, hie, flat_cons, List.getElem?_append_left (by rw [hk]; exact hc)]
theorem flat_lay (hk : ∀ x, (enc x).length = k) (L : List α) (i : Nat) (hi : i ≤ L.length) (x : α) : flat enc (L.take i ++ x :: L.drop i) = (flat enc L).take (i * k) ++ enc x ++ (flat enc L).drop (i * k) := by
  rw [flat_append, flat_cons, flat_take hk L i hi, flat_drop hk L i hi, List.append_assoc]
theorem flat_set (hk : ∀ x, (enc x).length = k) (L : List α) (i : Nat) (hi : i < L.length) (x : α) : flat enc (L.set i x) = (flat enc L).take (i * k) ++ enc x ++ (flat enc L).drop ((i + 1) * k) := by
  rw [List.set_eq_take_append_cons_drop, if_pos hi, flat_append, flat_cons, flat_take hk L i (by omega), flat_drop hk L (i + 1) (by omega), List.append_assoc]
theorem flat_one (h1 : ∀ x, ∀ v ∈ enc x, v.oneCell' = true) (L : List α) : ∀ v ∈ flat enc L, v.oneCell' = true := by
  intro v hv
  obtain ⟨x, _, hx⟩ := List.mem_flatMap.1 hv
  exact h1 x v hx
end
theorem owns_over {w : World} {base k g n cap : Nat} {E : TypeId} {A B C vs : List Value} (h : w.ownsRow base E k (.slice (some ⟨g, 0, none⟩) n cap) n (A ++ B ++ C)) (hl : B.length = vs.length) :
    (w.setCells g A.length vs).ownsRow base E k (.slice (some ⟨g, 0, none⟩) n cap) n (A ++ vs ++ C) := by
  obtain ⟨hlen, h2⟩ := h
  rcases h2 with ⟨hc, _⟩ | ⟨g', cap', cur, hc, hb, hg, hn, hm, hs, ht⟩
  · cases hc
  · cases hc
    have hlen' : (A ++ vs ++ C).length = n * k := by rw [← hlen]; simp [hl]
    refine ⟨hlen', .inr ⟨g, cap, _, rfl, hb, setCells_heap g vs A.length w cur E hg, hn, hm, by rw [over_size, hs], ?_⟩⟩
    have hcur : cur.toList = A ++ B ++ (C ++ cur.toList.drop (n * k)) := by
      conv => lhs; rw [← List.take_append_drop (n * k) cur.toList]
      rw [ht]; simp
    rw [over_list vs A B _ cur hcur hl, ← List.append_assoc, List.take_append_of_le_length (by omega), List.take_of_length_le (by omega)]
end Go.Proofs.YtcggmagdndhkbaaGreatDoor
end
section
namespace Go.Proofs.YtcggmagdndhkbaaGreatDoor
open Go
theorem append_at {P : Program} (w : World) (base : Nat) (t ty e : TypeId) (i : TypeInfo) (z : Value) (size bytes : Nat) (ht : P.underlying t = some (.slice e)) (hi : P.info? e = some i) (hz : i.zero = some z)
    (hsize : i.size = size) (hby : i.bytes = bytes) (hzs : z.cells.size = size) (hsz : 0 < size)
    (v : Value) (n : Nat) (xs : List Value) (hown : w.ownsRow base e size v n xs)
    (a : Addr) (m c : Nat) (hm0 : 0 < m) (news : List Value) (hl : news.length = m * size) (hnews : ∀ j u, news[j]? = some u → w.cell? (a.add j) = some u) (h1 : ∀ u ∈ news, u.oneCell' = true)
    (h63 : n + m ≤ maxLen) (hbytes : (n + m) * bytes ≤ 140737488355328) (hbase : base ≤ w.heap.size) :
    ∃ v' w', (Builtin.append_ #[t, t] ty #[v, .slice (some a) m c]).run P w = .ok v' w' ∧ w'.ownsRow base e size v' (n + m) (xs ++ news) ∧ w.grownBy w' v.ownBlock ∧
      (v'.ownBlock = v.ownBlock ∨ v'.ownBlock = some w.heap.size) := by
  obtain ⟨v', w', hrun, h', hg', -⟩ := run_append_own (P := P) w base t ty e i z size bytes ht hi hz hsize hby hzs hsz v n xs hown a m c news hl hnews h1 h63 hbytes hbase
  refine ⟨v', w', hrun, h', hg', ?_⟩
  subst hsize
  subst hby
  have hsmall : n + m ≤ 9223372036854775807 := by simp only [maxLen] at h63; omega
  rcases hown.2 with ⟨rfl, rfl⟩ | ⟨g, cap, cur, rfl, hbg, hg, hnc, hcm, hcs, htake⟩
  · have hr := run_append_nil (P := P) w t ty e i z ht hi hz a m c news hl hnews (by omega) (by omega) (by have hb := hbytes; simp only [Nat.zero_add] at hb; omega)
    rw [hr] at hrun
    simp only [Result.ok.injEq] at hrun
    right
    rw [← hrun.1]
    rfl
  · by_cases hroom : n + m ≤ cap
    · have hfit : n * i.size + news.length ≤ cur.size := by rw [hl, hcs, ← Nat.add_mul]; exact Nat.mul_le_mul_right _ hroom
      have hr := run_append_room (P := P) w t ty e i ht hi g n cap cur hg a m c news hl hnews h1 hroom hfit
      rw [hr] at hrun
      simp only [Result.ok.injEq] at hrun
      left
      rw [← hrun.1]
      rfl
    · have holds : ∀ j u, xs[j]? = some u → w.cell? ((⟨g, 0, none⟩ : Addr).add j) = some u := hown.cells (g := g) rfl
      have hr := run_append_grow (P := P) w t ty e i z ht hi hz ⟨g, 0, none⟩ n cap xs hown.1 holds a m c news hl hnews (by omega) (by omega) (growslice_fits (by omega) hbytes)
      rw [hr] at hrun
      simp only [Result.ok.injEq] at hrun
      right
      rw [← hrun.1]
      rfl
end Go.Proofs.YtcggmagdndhkbaaGreatDoor
end
