import Derived.Test.YtcggmagdndhkbaaGreatDoorPt01
import Derived.Test.YtcggmagdndhkbaaGreatDoorPt03
import Derived.Test.YtcggmagdndhkbaaGreatDoorPt05
import Derived.Deep.LoopGhost
import Derived.WalkSpells
import Derived.LoopN
import Derived.Deep.Cut
import Derived.Deep.CutRange
import Derived.Deep.DeepCutAuto
import Derived.Test.YtcggmagdndhkbaaGreatDoorProg
import Derived.WalkKit
import Derived.Shelf.Abstract
import Derived.Below
import Derived.LoopTactic
import Derived.Lib.Hide
section
namespace Go.Proofs.YtcggmagdndhkbaaGreatDoor
open scoped Classical
theorem err_by {x : OpX} (h : errO x = 0) : 1 ≤ x.1 ∧ x.1 ≤ 1073741824 ∧ 0 ≤ byO x ∧ byO x < 4 := by
  have h0 := opE_zero h
  exact ⟨h0.1, h0.2.1, h0.2.2.1, h0.2.2.2.1⟩
theorem err_refs {x : OpX} (h : errO x = 0) : ((kdO x = 109 ∧ nodeO x ≤ idO x) ∨ nodeO x < idO x) ∧ otherO x < idO x ∧ 0 ≤ nodeO x ∧ 0 ≤ otherO x ∧ (kdO x = 109 → 2 ≤ nodeO x) ∧ (kdO x = 100 → otherO x ≠ 0) := by
  have h0 := opE_zero h
  have hid : 4 ≤ idO x := by unfold idO; have := h0.1; have := h0.2.2.1; omega
  unfold errO opE at h
  rw [if_pos ⟨h0.1, h0.2.1, h0.2.2.1, h0.2.2.2.1, h0.2.2.2.2.1, h0.2.2.2.2.2.1⟩] at h
  have e : x.1 * 4 + x.2.1 = idO x := rfl
  rw [e] at h
  unfold kindE at h
  split at h
  · rename_i hk
    unfold moveE at h
    split at h
    · cases h
    · rename_i hc
      have hk' : kdO x = 109 := hk
      have e1 : x.2.2.2.2.1 = nodeO x := rfl
      have e2 : x.2.2.2.2.2.1 = otherO x := rfl
      rw [e1, e2] at hc
      exact ⟨.inl ⟨hk', by omega⟩, by omega, by omega, by omega, fun _ => by omega, fun k => by rw [hk'] at k; exact absurd k (by decide)⟩
  · rename_i hk
    have hk' : kdO x ≠ 109 := hk
    split at h
    · rename_i hki
      unfold insE at h
      split at h
      · cases h
      · rename_i hc
        have e1 : x.2.2.2.2.1 = nodeO x := rfl
        have e2 : x.2.2.2.2.2.1 = otherO x := rfl
        rw [e1, e2] at hc
        have hki' : kdO x = 105 := hki
        exact ⟨.inr (by omega), by omega, by omega, by omega, fun k => absurd k hk', fun k => by rw [hki'] at k; exact absurd k (by decide)⟩
    · split at h
      · unfold delE at h
        split at h
        · cases h
        · rename_i hc
          have e1 : x.2.2.2.2.1 = nodeO x := rfl
          have e2 : x.2.2.2.2.2.1 = otherO x := rfl
          rw [e1, e2] at hc
          exact ⟨.inr (by omega), by omega, by omega, by omega, fun k => absurd k hk', fun _ => by omega⟩
      · rename_i hkd
        have hkd' : kdO x ≠ 100 := hkd
        split at h
        · unfold setE at h
          split at h
          · cases h
          · rename_i hc
            have e1 : x.2.2.2.2.1 = nodeO x := rfl
            have e2 : x.2.2.2.2.2.1 = otherO x := rfl
            rw [e1, e2] at hc
            exact ⟨.inr (by omega), by omega, by omega, by omega, fun k => absurd k hk', fun k => absurd k hkd'⟩
        · cases h
theorem id_inj {x y : OpX} (hx : errO x = 0) (hy : errO y = 0) (e : idO x = idO y) : stO x = stO y := by
  have h1 := err_by hx
  have h2 := err_by hy
  unfold idO at e
  have e1 : x.2.1 = byO x := rfl
  have e2 : y.2.1 = byO y := rfl
  rw [e1, e2] at e
  have a : x.1 = y.1 := by omega
  have b : byO x = byO y := by omega
  unfold stO
  rw [a, show x.2.1 = y.2.1 from b]
theorem id_lt {x y : OpX} (hx : errO x = 0) (hy : errO y = 0) (h : idO x < idO y) : CLt (stO x) (stO y) := by
  have h1 := err_by hx
  have h2 := err_by hy
  unfold idO at h
  have e1 : x.2.1 = byO x := rfl
  have e2 : y.2.1 = byO y := rfl
  rw [e1, e2] at h
  unfold CLt stO
  dsimp only
  rw [e1, e2]
  omega
theorem id_pos {x : OpX} (hx : errO x = 0) : 4 ≤ idO x := by
  have h1 := err_by hx
  unfold idO
  have e1 : x.2.1 = byO x := rfl
  rw [e1]
  omega
structure StepOk (A : List OpX) (o : OpX) : Prop where
  ok : errO o = 0
  new : ∀ x ∈ A, stO x ≠ stO o
  refs : RefOk (o :: A) o
  all : ∀ x ∈ A, errO x = 0 ∧ RefOk A x
  uniq : ∀ x ∈ A, ∀ y ∈ A, stO x = stO y → x = y
theorem StepOk.perm {A B : List OpX} {o : OpX} (h : StepOk A o) (e : A.Perm B) : StepOk B o :=
  ⟨h.ok, fun x hx => h.new x (e.mem_iff.2 hx), h.refs.mono (fun x hx => by rcases List.mem_cons.1 hx with rfl | hx; exact List.mem_cons_self; exact List.mem_cons_of_mem _ (e.mem_iff.1 hx)), fun x hx => ⟨(h.all x (e.mem_iff.2 hx)).1, (h.all x (e.mem_iff.2 hx)).2.mono (fun y hy => e.mem_iff.1 hy)⟩, fun x hx y hy => h.uniq x (e.mem_iff.2 hx) y (e.mem_iff.2 hy)⟩
theorem StepOk.idnew {A : List OpX} {o : OpX} (h : StepOk A o) : ∀ x ∈ A, idO x ≠ idO o := fun x hx e => h.new x hx (id_inj (h.all x hx).1 h.ok e)
theorem StepOk.fresh {A : List OpX} {o : OpX} (h : StepOk A o) (e : nodeO o = idO o) : (¬ KnownN A (nodeO o)) ∧ ∀ x ∈ A, nodeO x ≠ nodeO o := by
  have hk : ¬ KnownN A (nodeO o) := fun ⟨x, hx, _, _, q⟩ => h.idnew x hx (q.trans e)
  refine ⟨hk, fun x hx q => ?_⟩
  rcases (h.all x hx).2.1 with ⟨_, k⟩ | k
  · exact h.idnew x hx (by rw [k, q, e])
  · rw [q] at k; exact hk k
theorem known_tail {A : List OpX} {o : OpX} {nd : Int} (h : KnownN (o :: A) nd) (hn : nd ≠ idO o) : KnownN A nd := by
  obtain ⟨x, hx, q⟩ := h
  rcases List.mem_cons.1 hx with rfl | hx
  · exact absurd q.2.2.symm hn
  · exact ⟨x, hx, q⟩
theorem letter_tail {A : List OpX} {o : OpX} {nd id : Int} (h : LetterN (o :: A) nd id) (hn : id ≠ idO o) : LetterN A nd id := by
  obtain ⟨x, hx, q⟩ := h
  rcases List.mem_cons.1 hx with rfl | hx
  · exact absurd q.2.2.symm hn
  · exact ⟨x, hx, q⟩
theorem StepOk.node {A : List OpX} {o : OpX} (h : StepOk A o) (e : nodeO o ≠ idO o) : KnownN A (nodeO o) := by
  rcases h.refs.1 with ⟨_, q⟩ | q
  · exact absurd q.symm e
  · exact known_tail q e
theorem StepOk.letter {A : List OpX} {o : OpX} (h : StepOk A o) (hk : (kdO o = 105 ∧ 0 < otherO o) ∨ kdO o = 100) : LetterN A (nodeO o) (otherO o) := by
  have := (err_refs h.ok).2.1
  exact letter_tail (h.refs.2.2 hk) (by omega)
theorem StepOk.line {A : List OpX} {o : OpX} (h : StepOk A o) (hk : kdO o = 105 ∨ kdO o = 100 ∨ kdO o = 115) : nodeO o ≠ idO o := by
  rcases (err_refs h.ok).1 with ⟨q, _⟩ | q
  · rw [q] at hk; rcases hk with k | k | k <;> exact absurd k (by decide)
  · omega
theorem StepOk.ungone {A : List OpX} {o : OpX} (h : StepOk A o) (nd : Int) : ¬ GoneIn A nd (idO o) := fun ⟨x, hx, k, e1, e2⟩ => by
  obtain ⟨y, hy, _, _, q⟩ := (h.all x hx).2.2.2 (.inr k)
  exact h.idnew y hy (q.trans e2)
theorem known_cons {A : List OpX} {o : OpX} {nd : Int} : KnownN (o :: A) nd ↔ KnownN A nd ∨ (kdO o = 109 ∧ nodeO o = nd ∧ idO o = nd) := by
  constructor
  · rintro ⟨x, hx, q⟩
    rcases List.mem_cons.1 hx with rfl | hx
    · exact .inr q
    · exact .inl ⟨x, hx, q⟩
  · rintro (⟨x, hx, q⟩ | q)
    · exact ⟨x, List.mem_cons_of_mem _ hx, q⟩
    · exact ⟨o, List.mem_cons_self, q⟩
theorem prefix_step {S K ys : List OpX} (hW : WellK S) (hS : ∀ x, x ∈ S ↔ x ∈ K ∨ x ∈ ys) (hK : ∀ x ∈ K, RefOk K x) (hs : ys.Pairwise (fun a b => CLt (stO a) (stO b))) (hoff : ∀ x ∈ ys, x ∉ K) {k : Nat} {o : OpX} (ho : ys[k]? = some o) : StepOk (K ++ ys.take k) o := by
  have hoy : o ∈ ys := List.mem_of_getElem? ho
  have hkl := (List.getElem?_eq_some_iff.1 ho).1
  have hsub : ∀ x, x ∈ K ++ ys.take k → x ∈ S := fun x hx => (hS x).2 ((List.mem_append.1 hx).imp (fun q => q) (fun q => List.mem_of_mem_take q))
  have hp := List.pairwise_iff_getElem.1 hs
  -- what lies below the one at j is ahead of it
  have low : ∀ (j : Nat) (x y : OpX), ys[j]? = some x → y ∈ S → idO y < idO x → y ∈ K ++ ys.take j := fun j x y hj hy hlt => by
    have hxS : x ∈ S := (hS x).2 (.inr (List.mem_of_getElem? hj))
    have hc := id_lt (hW.ok y hy) (hW.ok x hxS) hlt
    rcases (hS y).1 hy with q | q
    · exact List.mem_append_left _ q
    · obtain ⟨i, hi, rfl⟩ := List.getElem_of_mem q
      have hij : i < j := by
        rcases Nat.lt_trichotomy i j with h | h | h
        · exact h
        · subst h
          rw [List.getElem?_eq_getElem hi] at hj
          cases hj
          exact absurd hc clt_irrefl
        · obtain ⟨hjl, rfl⟩ := List.getElem?_eq_some_iff.1 hj
          exact absurd (clt_trans hc (hp j i hjl hi h)) clt_irrefl
      refine List.mem_append_right _ (List.mem_of_getElem? (i := i) ?_)
      rw [List.getElem?_take, if_pos hij]
      exact List.getElem?_eq_getElem hi
  have refs : ∀ (j : Nat) (x : OpX), ys[j]? = some x → RefOk (x :: (K ++ ys.take j)) x := fun j x hj => by
    have hxS : x ∈ S := (hS x).2 (.inr (List.mem_of_getElem? hj))
    have hr := hW.refs x hxS
    have he := err_refs (hW.ok x hxS)
    have up : ∀ y, y ∈ S → idO y < idO x → y ∈ x :: (K ++ ys.take j) := fun y hy hl => List.mem_cons_of_mem _ (low j x y hj hy hl)
    refine ⟨?_, fun hk => ?_, fun hk => ?_⟩
    · rcases hr.1 with q | ⟨y, hy, q1, q2, q3⟩
      · exact .inl q
      · rcases he.1 with ⟨q, q'⟩ | q
        · by_cases e : idO x = nodeO x
          · exact .inl ⟨q, e⟩
          · exact .inr ⟨y, up y hy (by omega), q1, q2, q3⟩
        · exact .inr ⟨y, up y hy (by omega), q1, q2, q3⟩
    · rcases hr.2.1 hk with q | q | ⟨y, hy, q1, q2, q3⟩
      · exact .inl q
      · exact .inr (.inl q)
      · exact .inr (.inr ⟨y, up y hy (by omega), q1, q2, q3⟩)
    · obtain ⟨y, hy, q1, q2, q3⟩ := hr.2.2 hk
      exact ⟨y, up y hy (by omega), q1, q2, q3⟩
  refine ⟨hW.ok o ((hS o).2 (.inr hoy)), fun x hx e => ?_, refs k o ho, fun x hx => ⟨hW.ok x (hsub x hx), ?_⟩, fun x hx y hy e => hW.stamp (hsub x hx) (hsub y hy) e⟩
  · rcases List.mem_append.1 hx with q | q
    · have := hW.stamp (hsub x hx) ((hS o).2 (.inr hoy)) e
      subst this
      exact hoff x hoy q
    · obtain ⟨i, hi, rfl⟩ := List.getElem_of_mem q
      have hi' : i < k ∧ i < ys.length := by rw [List.length_take] at hi; omega
      have hc := hp i k hi'.2 hkl hi'.1
      rw [List.getElem_take] at e
      rw [(List.getElem?_eq_some_iff.1 ho).2, e] at hc
      exact clt_irrefl hc
  · rcases List.mem_append.1 hx with q | q
    · exact (hK x q).mono (fun y hy => List.mem_append_left _ hy)
    · obtain ⟨i, hi, e⟩ := List.getElem_of_mem q
      have hi' : i < k ∧ i < ys.length := by rw [List.length_take] at hi; omega
      rw [List.getElem_take] at e
      have hxi : ys[i]? = some x := by rw [← e]; exact List.getElem?_eq_getElem hi'.2
      refine (refs i x hxi).mono (fun y hy => ?_)
      rcases List.mem_cons.1 hy with rfl | hy
      · exact hx
      · rcases List.mem_append.1 hy with hy | hy
        · exact List.mem_append_left _ hy
        · refine List.mem_append_right _ ?_
          have : ys.take i = (ys.take k).take i := by rw [List.take_take]; congr 1; omega
          rw [this] at hy
          exact List.mem_of_mem_take hy
end Go.Proofs.YtcggmagdndhkbaaGreatDoor
end
section
namespace Go.Proofs.YtcggmagdndhkbaaGreatDoor
open Go Go.Maps
abbrev NKey := Int × Int
abbrev NSta := NKey → Option OpX
def noN : NSta := fun _ => none
def encN (k : NKey) : Value := .agg #[.int .i64 k.1, .int .i64 k.2]
theorem encN_inj {p q : NKey} (h : encN p = encN q) : p = q := by
  obtain ⟨a, s⟩ := p
  obtain ⟨a', s'⟩ := q
  simp [encN] at h
  obtain ⟨rfl, rfl⟩ := h
  rfl
def encO (x : OpX) : Value := .agg #[.int .i64 x.1, .int .i64 x.2.1, .int .i64 x.2.2.1, .int .u8 (x.2.2.2.1 : Int), .int .i64 x.2.2.2.2.1, .int .i64 x.2.2.2.2.2.1, .string x.2.2.2.2.2.2.1, .string x.2.2.2.2.2.2.2]
def zeroO : OpX := (0, 0, 0, 0, 0, 0, ⟨#[]⟩, ⟨#[]⟩)
def datO (x : OpX) : DataW Unit := .agg [.lit (.int .i64 x.1), .lit (.int .i64 x.2.1), .lit (.int .i64 x.2.2.1), .lit (.int .u8 (x.2.2.2.1 : Int)), .lit (.int .i64 x.2.2.2.2.1), .lit (.int .i64 x.2.2.2.2.2.1), .lit (.string x.2.2.2.2.2.2.1.data.toList), .lit (.string x.2.2.2.2.2.2.2.data.toList)]
theorem datO_inj {p q : OpX} (h : datO p = datO q) : p = q := by
  obtain ⟨t, b, n, k, nd, o, ⟨⟨s⟩⟩, ⟨⟨v⟩⟩⟩ := p
  obtain ⟨t', b', n', k', nd', o', ⟨⟨s'⟩⟩, ⟨⟨v'⟩⟩⟩ := q
  simp [datO] at h
  obtain ⟨rfl, rfl, rfl, h4, rfl, rfl, rfl, rfl⟩ := h
  obtain rfl : k = k' := by omega
  rfl
def opL (l : List Value) : Option (DataW Unit × List MemPlace) := match l with
  | [.int .i64 t, .int .i64 b, .int .i64 n, .int .u8 k, .int .i64 nd, .int .i64 o, .string s, .string v] => if 0 ≤ k then some (datO (t, b, n, k.toNat, nd, o, s, v), []) else none
  | _ => none
def opR (v : Value) : Option (DataW Unit × List MemPlace) := match v with
  | .agg cs => opL cs.toList
  | _ => none
theorem opR_mk (x : OpX) : opR (encO x) = some (datO x, []) := by
  simp [opR, encO, opL]
theorem opL_inv {l : List Value} {z : DataW Unit × List MemPlace} (h : opL l = some z) : ∃ x : OpX, l = encX x ∧ z = (datO x, []) := by
  unfold opL at h
  split at h
  · rename_i t b n k nd o s v
    split at h
    · rename_i hk
      cases h
      refine ⟨(t, b, n, k.toNat, nd, o, s, v), ?_, rfl⟩
      simp [encX, Int.toNat_of_nonneg hk]
    · cases h
  · cases h
theorem opR_inv {v : Value} {z : DataW Unit × List MemPlace} (h : opR v = some z) : ∃ x, v = encO x ∧ z = (datO x, []) := by
  unfold opR at h
  split at h
  · rename_i cs
    obtain ⟨x, e, rfl⟩ := opL_inv h
    refine ⟨x, ?_, rfl⟩
    unfold encO
    unfold encX at e
    rw [← e]
  · cases h
def WfN (k : NKey) : Prop := (Lit.int .i64 k.1).wf = true ∧ (Lit.int .i64 k.2).wf = true
def nlit (k : NKey) : Lit := .string (keyBytes [.int .i64 k.1, .int .i64 k.2])
section
variable {P : Program} {K I : TypeId} {f g : Field}
theorem nkey_mkP (hu : P.underlying K = some (.struct #[f, g])) (f1 : f.type = I) (f2 : f.offset = 0) (f3 : (f.name != "_") = true) (g1 : g.type = I) (g2 : g.offset = 1) (g3 : (g.name != "_") = true) (hI : P.underlying I = some (.int .i64)) (cK : P.cellsOf K = 2) (cI : P.cellsOf I = 1) (hT : P.keyType K = true) (e : Nat) (he : P.types.size = e + 1) {k : NKey} (h : WfN k) : keyOf P K (encN k) = some (nlit k) := by
  obtain ⟨h1, h2⟩ := h
  have hf : (encN k).formed P K = true := by simp [Value.formed, encN, hu, cK]
  unfold keyOf
  rw [hu]
  dsimp only
  rw [hT, hf]
  simp only [Bool.and_self, if_true]
  rw [keyLits_struct hu, he]
  simp [encN, Value.cells, cK, cI, f1, f2, f3, g1, g2, g3, keyLits_int hI, h1, h2, nlit]
end
theorem nkeyRow : 197 < Tryz.prog.types.size := of_decide_eq_true (by kernel_rfl)
theorem nkeyWide : (match Tryz.prog.underlying 197 with | some (.array _ _) | some (.struct _) => true | _ => false) = true := by kernel_rfl
set_option maxRecDepth 100000 in
theorem lawN : Keyed Tryz.prog 197 := Keyed.of_law (deep_law_laid keyOut (m := 2) (by omega) nkeyRow (by kernel_rfl) nkeyWide)
theorem nkeyIs : Tryz.prog.keyType 197 = true := by kernel_rfl
theorem nkeyCells : Tryz.prog.cellsOf 197 = 2 := by kernel_rfl
set_option maxRecDepth 100000 in
theorem nkey_mk {k : NKey} (h : WfN k) : keyOf Tryz.prog 197 (encN k) = some (nlit k) := by
  obtain ⟨e, he⟩ := keySize
  exact nkey_mkP Tryz.underlying197 rfl rfl (by decide) rfl rfl (by decide) Tryz.underlying3 nkeyCells keyCellsI nkeyIs e he h
theorem nlit_ne {a b : NKey} (ha : WfN a) (hb : WfN b) (h : a ≠ b) : nlit a ≠ nlit b := fun e => h (encN_inj (lawN.inj (nkey_mk ha) (by rw [e]; exact nkey_mk hb)))
theorem nlit_is {k : NKey} : WideAt.IsKeyLit (nlit k) := trivial
theorem wfN_of {k : NKey} (h0 : -2 ^ 63 ≤ k.1) (h1 : k.1 < 2 ^ 63) (h2 : -2 ^ 63 ≤ k.2) (h3 : k.2 < 2 ^ 63) : WfN k := ⟨wf_i64 h0 h1, wf_i64 h2 h3⟩
def ReadsN (D : DataW Unit) (f : NSta) : Prop := ∀ k, WfN k → match f k with
  | none => has D (nlit k) = false
  | some c => ∀ z, D.atKey (nlit k) z = datO c
theorem ReadsN.gone {D : DataW Unit} {f : NSta} (h : ReadsN D f) {k : NKey} (hk : WfN k) (hf : f k = none) : has D (nlit k) = false := by
  have := h k hk; rw [hf] at this; exact this
theorem ReadsN.held {D : DataW Unit} {f : NSta} (h : ReadsN D f) {k : NKey} (hk : WfN k) {c : OpX} (hf : f k = some c) (z : DataW Unit) : D.atKey (nlit k) z = datO c := by
  have := h k hk; rw [hf] at this; exact this z
theorem ReadsN.has {D : DataW Unit} {f : NSta} (h : ReadsN D f) {k : NKey} (hk : WfN k) : Maps.has D (nlit k) = (f k).isSome := by
  cases hf : f k with
  | none => rw [h.gone hk hf]; rfl
  | some p => rw [has_true_of_atKey (h.held hk hf)]; rfl
theorem ReadsN.at {D : DataW Unit} {f : NSta} (h : ReadsN D f) {k : NKey} (hk : WfN k) : D.atKey (nlit k) (datO zeroO) = datO ((f k).getD zeroO) := by
  cases hf : f k with
  | none => rw [atKey_of_not_has (h.gone hk hf)]; rfl
  | some p => rw [h.held hk hf]; rfl
theorem readsN_put {D : DataW Unit} {f : NSta} (h : ReadsN D f) (hD : IsMap D) {k : NKey} (hk : WfN k) (c : OpX) : ReadsN (D.put (nlit k) (datO c)) (fun x => if x = k then some c else f x) := by
  intro x hx
  dsimp only
  by_cases e : x = k
  · subst e
    rw [if_pos rfl]
    exact fun z => atKey_put_same hD nlit_is _ _
  · rw [if_neg e]
    cases hf : f x with
    | none => rw [has_put_other (nlit_ne hx hk e)]; exact h.gone hx hf
    | some q => intro z; rw [atKey_put_other (nlit_ne hx hk e)]; exact h.held hx hf z
def NMapAt (w : World) (b n : Nat) (f : NSta) : Prop := ∃ D, w.ownsMap Tryz.prog 197 opR b n D ∧ ReadsN D f
theorem NMapAt.lt {w : World} {b n : Nat} {f : NSta} (h : NMapAt w b n f) : b < w.heap.size := by
  obtain ⟨D, h, _⟩ := h; exact h.lt
theorem NMapAt.same {w w' : World} {b n : Nat} {f : NSta} (h : NMapAt w b n f) (e : w'.heap[b]? = w.heap[b]?) : NMapAt w' b n f := by
  obtain ⟨D, ⟨es, clock, hb, F⟩, r⟩ := h
  exact ⟨D, ⟨es, clock, e.trans hb, F⟩, r⟩
theorem nmapAt_made (w : World) : NMapAt (w.alloc (.map #[] 0)) w.heap.size 0 noN :=
  ⟨_, World.ownsMap_made w Tryz.prog 197 opR, fun _ _ => rfl⟩
theorem zeroOp (w : World) : (zeroValue 31).run Tryz.prog w = .ok (encO zeroO) w := Tryz.zeroValue31 w
theorem NMapAt.look {w : World} {b n : Nat} {f : NSta} (h : NMapAt w b n f) {k : NKey} (hk : WfN k) :
    (Instr.lookup 192 (.map (some b)) (encN k) true).run Tryz.prog w = .ok (.tuple #[encO ((f k).getD zeroO), .bool (f k).isSome]) w := by
  obtain ⟨D, h, r⟩ := h
  obtain ⟨v, ps, hrun, hv⟩ := h.look_ok lawN Tryz.underlying192 (zeroOp w) (opR_mk zeroO) (nkey_mk hk)
  obtain ⟨p, rfl, hp⟩ := opR_inv hv
  rw [r.at hk, Prod.mk.injEq] at hp
  rw [hrun, r.has hk, datO_inj hp.1]
theorem NMapAt.store {w : World} {b n : Nat} {f : NSta} (h : NMapAt w b n f) (hn : n < maxLen) {k : NKey} (hk : WfN k) (c : OpX) :
    ∃ w', (Instr.mapUpdate 192 (.map (some b)) (encN k) (encO c)).run Tryz.prog w = .ok () w' ∧ NMapAt w' b (n + 1) (fun x => if x = k then some c else f x) ∧ w.mapTurned w' b := by
  obtain ⟨D, h, r⟩ := h
  obtain ⟨w', hrun, h', ht⟩ := h.store lawN Tryz.underlying192 hn (nkey_mk hk) (opR_mk c)
  exact ⟨w', hrun, ⟨_, h', readsN_put r h.isMap hk c⟩, ht⟩
end Go.Proofs.YtcggmagdndhkbaaGreatDoor
end
section
set_option linter.unusedVariables false
namespace Go.Proofs.YtcggmagdndhkbaaGreatDoor
open Go.RowKit Go.Lib Go.Sort
def kV (ao : Nat → Option Addr) (cap : Nat → Nat) (R : Rws) : Value := .agg #[.slice (ao 0) (R 0).length (cap 0), .slice (ao 1) (R 1).length (cap 1), .slice (ao 2) (R 2).length (cap 2), .slice (ao 3) (R 3).length (cap 3)]
def KnownAt (w : World) (ao : Nat → Option Addr) (R : Rws) : Prop := ∀ i, i < 4 → OpsIn w (ao i) (R i)
theorem KnownAt.later {w w' : World} {ao : Nat → Option Addr} {R : Rws} (h : KnownAt w ao R) (hb : Below w.heap.size w w') : KnownAt w' ao R := fun i hi => (h i hi).later hb
def KBox (w : World) (b : Nat) (ao : Nat → Option Addr) (cap : Nat → Nat) (R : Rws) : Prop := w.heap[b]? = some (.cells #[.slice (ao 0) (R 0).length (cap 0), .slice (ao 1) (R 1).length (cap 1), .slice (ao 2) (R 2).length (cap 2), .slice (ao 3) (R 3).length (cap 3)] 79 (0, 0))
theorem KBox.at {w : World} {b : Nat} {ao : Nat → Option Addr} {cap : Nat → Nat} {R : Rws} (h : KBox w b ao cap R) {i : Nat} (hi : i < 4) : w.cell? ⟨b, i, none⟩ = some (.slice (ao i) (R i).length (cap i)) := by
  unfold KBox at h
  match i, hi with
  | 0, _ => simp [World.cell?, h]
  | 1, _ => simp [World.cell?, h]
  | 2, _ => simp [World.cell?, h]
  | 3, _ => simp [World.cell?, h]
theorem KBox.fz {w : World} {b : Nat} {ao : Nat → Option Addr} {cap : Nat → Nat} {R : Rws} (h : KBox w b ao cap R) (o : Nat) : w.frozen? ⟨b, o, none⟩ = false := by
  unfold KBox at h; simp [World.frozen?, h]
theorem KBox.lt {w : World} {b : Nat} {ao : Nat → Option Addr} {cap : Nat → Nat} {R : Rws} (h : KBox w b ao cap R) : b < w.heap.size := (Array.getElem?_eq_some_iff.1 h).1
theorem KBox.new (w : World) (ao : Nat → Option Addr) (cap : Nat → Nat) (R : Rws) : KBox (w.alloc (.cells #[.slice (ao 0) (R 0).length (cap 0), .slice (ao 1) (R 1).length (cap 1), .slice (ao 2) (R 2).length (cap 2), .slice (ao 3) (R 3).length (cap 3)] 79)) w.heap.size ao cap R := heap_alloc_new w _
theorem KBox.later {w w' : World} {b : Nat} {ao : Nat → Option Addr} {cap : Nat → Nat} {R : Rws} (h : KBox w b ao cap R) (hb : Below w.heap.size w w') : KBox w' b ao cap R := (hb.block b h.lt).trans h
theorem OpsIn.get {w : World} {ao : Option Addr} {xs : List OpX} (h : OpsIn w ao xs) {i : Nat} {x : OpX} (hi : xs[i]? = some x) : ∃ blk off, ao = some ⟨blk, off, none⟩ ∧ ∀ c u, (encX x)[c]? = some u → w.cell? ⟨blk, off + i * 8 + c, none⟩ = some u := by
  rcases h with h | ⟨b, o, h1, h2⟩
  · subst h; simp at hi
  · refine ⟨b, o, h1, fun c u hc => ?_⟩
    have hl := (List.getElem?_eq_some_iff.1 hi)
    have h8 : c < 8 := (List.getElem?_eq_some_iff.1 hc).1
    have e := cellsOf_get xs i c hl.1 h8
    rw [Nat.add_assoc]
    refine h2 _ _ (e.trans ?_)
    rw [getElem!_pos xs i hl.1, hl.2, getElem!_pos _ c (by rw [encX_len]; exact h8), ← (List.getElem?_eq_some_iff.1 hc).2]
theorem results_ct {fn : Func} {p u : Tmp} {ty : TypeId} (h : fn.results = #[.cell p ty, .tmp u]) (tmps : Array Value) (P : Program) (w : World) :
    (results fn tmps).run P w =
      ((asAddr (tmps.getD p undef)).run P w).andThen fun a w1 => ((loadVar ty a).run P w1).andThen fun v w2 => .ok (.tuple #[v, tmps.getD u undef]) w2 := by
  simp only [results, h]
  simp [Sem.run_bind, Result.andThen]
set_option maxRecDepth 100000 in
set_option maxHeartbeats 1000000 in
theorem number_none (w : World) (ao : Nat → Option Addr) (cap : Nat → Nat) (R : Rws) (i n : Nat) (hi : i < 4) (hx : (R i).length ≤ n) :
    Calls Tryz.prog 109 #[kV ao cap R, .int .i64 (i : Int), .int .i64 ((n : Int) + 1)] w fun e w' => e = .returned (.tuple #[encO zeroO, .bool false]) ∧ Below w.heap.size w w' := by
  unfold kV
  have dn : decide (((R i).length : Int) < (n : Int) + 1) = true := by simp; omega
  have h4 : i = 0 ∨ i = 1 ∨ i = 2 ∨ i = 3 := by omega
  rcases h4 with rfl | rfl | rfl | rfl
  all_goals
    go_enter Tryz.func109, Tryz.ntmps109
    go_wp2
    (try simp only [Exit.inBlock, Exit.then])
    refine bodyPost_ret (v := .tuple #[encO zeroO, .bool false]) ?_ rfl ⟨rfl, ?_⟩
    · rw [results_ct rfl]
      unfold encO zeroO
      go_simp
    · exact ((Below.refl _ w).alloc (Nat.le_refl _) _).alloc (by simp) _
set_option maxRecDepth 100000 in
set_option maxHeartbeats 1000000 in
theorem number_some (w : World) (ao : Nat → Option Addr) (cap : Nat → Nat) (R : Rws) (i n : Nat) (x : OpX) (hK : KnownAt w ao R) (hi : i < 4) (hn : n < 1000) (hx : (R i)[n]? = some x) :
    Calls Tryz.prog 109 #[kV ao cap R, .int .i64 (i : Int), .int .i64 ((n : Int) + 1)] w fun e w' => e = .returned (.tuple #[encO x, .bool true]) ∧ Below w.heap.size w w' := by
  obtain ⟨blk, off, ha, hc⟩ := (hK i hi).get hx
  have hln := (List.getElem?_eq_some_iff.1 hx).1
  obtain ⟨t, b, m, k, nd, o, s, v⟩ := x
  have hbl : blk < w.heap.size := World.block_lt_of_cell? w ⟨blk, off + n * 8 + 0, none⟩ (hc 0 _ rfl)
  have hcell : ∀ o1 o2 c u, (encX (t, b, m, k, nd, o, s, v))[c]? = some u → ((w.alloc o1).alloc o2).cell? ⟨blk, off + n * 8 + c, none⟩ = some u := fun o1 o2 c u hu => by
    rw [(((Below.refl w.heap.size w).alloc (Nat.le_refl _) o1).alloc (by simp) o2).cell (p := ⟨blk, off + n * 8 + c, none⟩) hbl]
    exact hc c u hu
  have r0 := fun o1 o2 => hcell o1 o2 0 _ rfl
  have r1 := fun o1 o2 => hcell o1 o2 1 _ rfl
  have r2 := fun o1 o2 => hcell o1 o2 2 _ rfl
  have r3 := fun o1 o2 => hcell o1 o2 3 _ rfl
  have r4 := fun o1 o2 => hcell o1 o2 4 _ rfl
  have r5 := fun o1 o2 => hcell o1 o2 5 _ rfl
  have r6 := fun o1 o2 => hcell o1 o2 6 _ rfl
  have r7 := fun o1 o2 => hcell o1 o2 7 _ rfl
  simp only [Nat.add_zero] at r0
  clear hcell hc
  have dn : decide (((R i).length : Int) < (n : Int) + 1) = false := by simp; omega
  have en : ((n : Int) + 1 - 1) = (n : Int) := by omega
  have wn : ((n : Int)).toNat = n := by omega
  have pn : (0 : Int) ≤ (n : Int) := by omega
  have bn : (n : Int) < ((R i).length : Int) := by omega
  have h4 : i = 0 ∨ i = 1 ∨ i = 2 ∨ i = 3 := by omega
  unfold kV encO
  rcases h4 with rfl | rfl | rfl | rfl
  all_goals
    rw [ha]
    clear ha
    go_enter Tryz.func109, Tryz.ntmps109
    go_wp2
    (try simp only [Exit.inBlock, Exit.then])
    refine bodyPost_ret (v := .tuple #[.agg #[.int .i64 t, .int .i64 b, .int .i64 m, .int .u8 (k : Int), .int .i64 nd, .int .i64 o, .string s, .string v], .bool true]) ?_ rfl ⟨rfl, ?_⟩
    · rw [results_ct rfl]
      go_simp
    · exact ((Below.refl _ w).alloc (Nat.le_refl _) _).alloc (by simp) _
end Go.Proofs.YtcggmagdndhkbaaGreatDoor
end
section
namespace Go.Proofs.YtcggmagdndhkbaaGreatDoor
open Go.RowKit
def cmpZ (a b : Int) : Int := if a < b then -1 else if b < a then 1 else 0
set_option maxHeartbeats 400000 in
theorem nanI (a : Int) (w : World) : Calls Tryz.prog 178 #[.int .i64 a] w fun e w' => e = .returned (.bool false) ∧ w' = w := by
  have d0 : (a != a) = false := by simp
  go_enter Tryz.func178, Tryz.ntmps178
  go_wp2
  go_ret
  exact ⟨rfl, rfl⟩
set_option maxHeartbeats 400000 in
theorem cmpZ_any (a b : Int) (w : World) : Calls Tryz.prog 113 #[.int .i64 a, .int .i64 b] w fun e w' => e = .returned (.int .i64 (cmpZ a b)) ∧ w' = w := by
  unfold cmpZ
  by_cases h1 : a < b
  · have d1 : decide (a < b) = true := decide_eq_true h1
    rw [if_pos h1]
    go_enter Tryz.func113, Tryz.ntmps113
    go_wp2_with (go_at_call 178; refine (nanI _ _).mono ?_; rintro e w' ⟨rfl, rfl⟩)
    go_ret
    exact ⟨rfl, rfl⟩
  · have d1 : decide (a < b) = false := decide_eq_false h1
    rw [if_neg h1]
    by_cases h2 : b < a
    · have d2 : decide (b < a) = true := decide_eq_true h2
      rw [if_pos h2]
      go_enter Tryz.func113, Tryz.ntmps113
      go_wp2_with (go_at_call 178; refine (nanI _ _).mono ?_; rintro e w' ⟨rfl, rfl⟩)
      go_ret
      exact ⟨rfl, rfl⟩
    · have d2 : decide (b < a) = false := decide_eq_false h2
      rw [if_neg h2]
      go_enter Tryz.func113, Tryz.ntmps113
      go_wp2_with (go_at_call 178; refine (nanI _ _).mono ?_; rintro e w' ⟨rfl, rfl⟩)
      go_ret
      exact ⟨rfl, rfl⟩
end Go.Proofs.YtcggmagdndhkbaaGreatDoor
end
section
set_option linter.unusedVariables false
namespace Go.Proofs.YtcggmagdndhkbaaGreatDoor
open Go.RowKit Go.Lib Go.Sort
set_option maxHeartbeats 1000000 in
theorem closureT (x : OpX) (tm : Int) (w : World) : Calls Tryz.prog 218 #[encO x, .int .i64 tm] w fun e w' => e = .returned (.int .i64 (cmpZ x.1 tm)) ∧ Below w.heap.size w w' := by
  obtain ⟨t, b, n, k, nd, o, s, v⟩ := x
  unfold encO
  dsimp only
  go_enter Tryz.func218, Tryz.ntmps218
  go_wp2_with (go_at_call 113; refine (cmpZ_any _ _ _).mono ?_; rintro e w' ⟨rfl, rfl⟩)
  go_ret
  exact ⟨rfl, (Below.refl _ w).alloc (Nat.le_refl _) _⟩
def BsAt (xs : List OpX) (tm : Int) (i : Nat) (b : Bool) : Prop := i ≤ xs.length ∧ (∀ j x, j < i → xs[j]? = some x → x.1 < tm) ∧ (∀ j x, i ≤ j → xs[j]? = some x → tm ≤ x.1) ∧ (b = true ↔ ∃ x, xs[i]? = some x ∧ x.1 = tm)
def RisesT (xs : List OpX) : Prop := ∀ (i j : Nat) (x y : OpX), i ≤ j → xs[i]? = some x → xs[j]? = some y → x.1 ≤ y.1
set_option maxRecDepth 100000 in
set_option maxHeartbeats 2000000 in
theorem bsearch_any (ao : Option Addr) (cap : Nat) (xs : List OpX) (tm : Int) (w : World) (hin : OpsIn w ao xs) (hr : RisesT xs) (hn : xs.length ≤ 1000) :
    Calls Tryz.prog 217 #[.slice ao xs.length cap, .int .i64 tm, .func (.func 218) #[] #[]] w fun e w' => ∃ (i : Nat) (b : Bool), e = .returned (.tuple #[.int .i64 (i : Int), .bool b]) ∧ BsAt xs tm i b ∧ Below w.heap.size w w' := by
  have HI : Aside (OpsIn w ao xs ∧ RisesT xs) := ⟨hin, hr⟩
  clear hin hr
  go_enter Tryz.func217, Tryz.ntmps217
  go_wp2
  go_loopg [9, 10, 11] (xs.length + 1) (fun kx s9 s10 s11 wr => ∃ (i j : Nat), s9 = .int .i64 (i : Int) ∧ s10 = .int .i64 (j : Int) ∧ i ≤ j ∧ j ≤ xs.length ∧ j - i < kx ∧ Aside (Below w.heap.size w wr ∧ (∀ k x, k < i → xs[k]? = some x → x.1 < tm) ∧ (∀ k x, j ≤ k → xs[k]? = some x → tm ≤ x.1)))
  case atStart => exact ⟨0, xs.length, rfl, rfl, Nat.zero_le _, Nat.le_refl _, by omega, Below.refl _ w, fun k x hk => by omega, fun k x hk h => by have := (List.getElem?_eq_some_iff.1 h).1; omega⟩
  case round =>
    obtain ⟨i, j, rfl, rfl, hij, hj, hkx, A⟩ := hrel
    by_cases hlt : i < j
    · have d1 : decide ((i : Int) < (j : Int)) = true := by simp; omega
      obtain ⟨h, hh⟩ : ∃ h : Nat, h = (i + j) / 2 := ⟨_, rfl⟩
      have eh : ((i : Int) + (j : Int)) / 2 = (h : Int) := by omega
      have hl : h < xs.length := by omega
      have wh : ((h : Int)).toNat = h := by omega
      have ph : (0 : Int) ≤ (h : Int) := by omega
      have bh : (h : Int) < (xs.length : Int) := by omega
      have hih : i ≤ h ∧ h < j := by omega
      clear hh
      obtain ⟨⟨t, b, n, k, nd, o, s, v⟩, hx⟩ : ∃ x, Aside (xs[h]? = some x) := ⟨xs[h], List.getElem?_eq_getElem hl⟩
      obtain ⟨blk, off, hao, hc⟩ := (HI.out.1.later A.out.1).get hx.out
      subst hao
      have r0 := hc 0 _ rfl
      have r1 := hc 1 _ rfl
      have r2 := hc 2 _ rfl
      have r3 := hc 3 _ rfl
      have r4 := hc 4 _ rfl
      have r5 := hc 5 _ rfl
      have r6 := hc 6 _ rfl
      have r7 := hc 7 _ rfl
      simp only [Nat.add_zero] at r0
      clear hc
      have hcall := closureT (t, b, n, k, nd, o, s, v) tm wr
      unfold encO at hcall
      dsimp only at hcall
      by_cases hc : t < tm
      · have ec : cmpZ t tm = -1 := by unfold cmpZ; rw [if_pos hc]
        rw [ec] at hcall
        have HC : Aside (t < tm) := hc
        clear hc ec
        go_wp2_with (go_at_call 218; refine hcall.mono ?_; clear hcall; rintro e w' ⟨rfl, hb'⟩; have A' : Aside (Below w.heap.size w w') := (A.out.1.trans (hb'.mono A.out.1.size)); clear hb' r0 r1 r2 r3 r4 r5 r6 r7)
        go_roundg (j - h)
        case measure => omega
        case rel =>
          refine ⟨h + 1, j, by go_num, rfl, by omega, hj, by omega, A'.out, fun k' x hk hx' => ?_, A.out.2.2⟩
          have := HI.out.2 k' h x _ (by omega) hx' hx.out
          have := HC.out
          dsimp only at *
          omega
      · have hz : 0 ≤ cmpZ t tm := by unfold cmpZ; rw [if_neg hc]; split <;> omega
        obtain ⟨z, ez⟩ : ∃ z, cmpZ t tm = z := ⟨_, rfl⟩
        rw [ez] at hcall hz
        have dz : decide (z < 0) = false := by simp; omega
        have HC : Aside (¬ t < tm) := hc
        clear hc ez
        go_wp2_with (go_at_call 218; refine hcall.mono ?_; clear hcall; rintro e w' ⟨rfl, hb'⟩; have A' : Aside (Below w.heap.size w w') := (A.out.1.trans (hb'.mono A.out.1.size)); clear hb' r0 r1 r2 r3 r4 r5 r6 r7)
        go_roundg (h - i + 1)
        case measure => omega
        case rel =>
          refine ⟨i, h, rfl, rfl, by omega, by omega, by omega, A'.out, A.out.2.1, fun k' x hk hx' => ?_⟩
          have := HI.out.2 h k' _ x (by omega) hx.out hx'
          have := HC.out
          dsimp only at *
          omega
    · have d1 : decide ((i : Int) < (j : Int)) = false := by simp; omega
      obtain rfl : i = j := by omega
      by_cases hil : i < xs.length
      · have d2 : decide ((i : Int) < (xs.length : Int)) = true := by simp; omega
        have wh : ((i : Int)).toNat = i := by omega
        have ph : (0 : Int) ≤ (i : Int) := by omega
        have bh : (i : Int) < (xs.length : Int) := by omega
        obtain ⟨⟨t, b, n, k, nd, o, s, v⟩, hx⟩ : ∃ x, Aside (xs[i]? = some x) := ⟨xs[i], List.getElem?_eq_getElem hil⟩
        obtain ⟨blk, off, hao, hc⟩ := (HI.out.1.later A.out.1).get hx.out
        subst hao
        have r0 := hc 0 _ rfl
        have r1 := hc 1 _ rfl
        have r2 := hc 2 _ rfl
        have r3 := hc 3 _ rfl
        have r4 := hc 4 _ rfl
        have r5 := hc 5 _ rfl
        have r6 := hc 6 _ rfl
        have r7 := hc 7 _ rfl
        simp only [Nat.add_zero] at r0
        clear hc
        have hcall := closureT (t, b, n, k, nd, o, s, v) tm wr
        unfold encO at hcall
        dsimp only at hcall
        have hz : Aside ((cmpZ t tm == 0) = decide (t = tm)) := by
          show (cmpZ t tm == 0) = decide (t = tm)
          unfold cmpZ
          by_cases h1 : t < tm
          · rw [if_pos h1]; have : t ≠ tm := by omega
            simp [this]
          · rw [if_neg h1]
            by_cases h2 : tm < t
            · rw [if_pos h2]; have : t ≠ tm := by omega
              simp [this]
            · rw [if_neg h2]; have : t = tm := by omega
              simp [this]
        obtain ⟨z, ez⟩ : ∃ z, z = cmpZ t tm := ⟨_, rfl⟩
        rw [← ez] at hcall hz
        clear ez
        go_wp2_with (go_at_call 218; refine hcall.mono ?_; clear hcall; rintro e w' ⟨rfl, hb'⟩; have A' : Aside (Below w.heap.size w w') := (A.out.1.trans (hb'.mono A.out.1.size)); clear hb' r0 r1 r2 r3 r4 r5 r6 r7)
        go_ret2
        refine ⟨i, _, rfl, ⟨hj, A.out.2.1, A.out.2.2, ?_⟩, A'.out⟩
        rw [hz.out, decide_eq_true_iff]
        constructor
        · intro e; exact ⟨_, hx.out, e⟩
        · rintro ⟨x, hx', e⟩
          rw [hx.out] at hx'
          cases hx'
          exact e
      · have d2 : decide ((i : Int) < (xs.length : Int)) = false := by simp; omega
        go_wp2
        go_ret2
        refine ⟨i, false, rfl, ⟨hj, A.out.2.1, A.out.2.2, ?_⟩, A.out.1⟩
        constructor
        · intro e; cases e
        · rintro ⟨x, hx', e⟩
          have := (List.getElem?_eq_some_iff.1 hx').1
          omega
end Go.Proofs.YtcggmagdndhkbaaGreatDoor
end
section
namespace Go.Proofs.YtcggmagdndhkbaaGreatDoor
open Go.RowKit
theorem byteAt (s : ByteArray) (k : Nat) (h : k < s.size) : s.data.toList.drop k = s[k] :: s.data.toList.drop (k + 1) := by
  have hl : k < s.data.toList.length := by simpa using h
  rw [List.drop_eq_getElem_cons hl]
  simp
  rfl
theorem dropEnd (s : ByteArray) : s.data.toList.drop s.size = [] := by
  rw [List.drop_eq_nil_iff]; simp
end Go.Proofs.YtcggmagdndhkbaaGreatDoor
end
section
namespace Go.Proofs.YtcggmagdndhkbaaGreatDoor
open Go.RowKit
set_option maxHeartbeats 400000 in
theorem earl_yes (n id : Int) (w : World) (h0 : 0 ≤ n) (h1 : n < id) :
    Calls Tryz.prog 220 #[.int .i64 n, .int .i64 id] w fun e w' => e = .returned (.bool true) ∧ w' = w := by
  go_enter Tryz.func220, Tryz.ntmps220
  go_wp2
  go_ret
  exact ⟨rfl, rfl⟩
set_option maxHeartbeats 400000 in
theorem earl_no (n id : Int) (w : World) (h : n < 0 ∨ id ≤ n) :
    Calls Tryz.prog 220 #[.int .i64 n, .int .i64 id] w fun e w' => e = .returned (.bool false) ∧ w' = w := by
  by_cases h0 : n < 0
  · clear h
    go_enter Tryz.func220, Tryz.ntmps220
    go_wp2
    go_ret
    exact ⟨rfl, rfl⟩
  · have h1 : id ≤ n := by omega
    have h2 : 0 ≤ n := by omega
    have d : decide (n < id) = false := by simp; omega
    clear h h0
    go_enter Tryz.func220, Tryz.ntmps220
    go_wp2
    go_ret
    exact ⟨rfl, rfl⟩
set_option maxHeartbeats 1000000 in
theorem nb_any (c : UInt8) (w : World) :
    Calls Tryz.prog 272 #[.int .u8 (c.toNat : Int)] w fun e w' => e = .returned (.bool (nameB c)) ∧ w' = w := by
  have hb : nameB c = decide (97 ≤ (c.toNat : Int) ∧ (c.toNat : Int) ≤ 122 ∨ 48 ≤ (c.toNat : Int) ∧ (c.toNat : Int) ≤ 57 ∨ (c.toNat : Int) = 45 ∨ (c.toNat : Int) = 46) := by
    unfold nameB
    rw [decide_eq_decide]
    omega
  rw [hb]
  clear hb
  generalize (c.toNat : Int) = x
  rcases (by omega : 122 < x ∨ (97 ≤ x ∧ x ≤ 122) ∨ (57 < x ∧ x < 97) ∨ (48 ≤ x ∧ x ≤ 57) ∨ x = 46 ∨ x = 45 ∨ (x < 48 ∧ x ≠ 46 ∧ x ≠ 45)) with h | ⟨h, h'⟩ | ⟨h, h'⟩ | ⟨h, h'⟩ | h | h | ⟨h, h', h''⟩
  · rw [decide_eq_false (by omega)]
    have d1 : decide (x ≤ 122) = false := by simp; omega
    have d2 : decide (x ≤ 57) = false := by simp; omega
    have e1 : (x == 45) = false := by simp; omega
    have e2 : (x == 46) = false := by simp; omega
    go_enter Tryz.func272, Tryz.ntmps272
    go_wp2
    go_ret
    exact ⟨rfl, rfl⟩
  · rw [decide_eq_true (by omega)]
    go_enter Tryz.func272, Tryz.ntmps272
    go_wp2
    go_ret
    exact ⟨rfl, rfl⟩
  · rw [decide_eq_false (by omega)]
    have d1 : decide (97 ≤ x) = false := by simp; omega
    have d2 : decide (x ≤ 57) = false := by simp; omega
    have e1 : (x == 45) = false := by simp; omega
    have e2 : (x == 46) = false := by simp; omega
    go_enter Tryz.func272, Tryz.ntmps272
    go_wp2
    go_ret
    exact ⟨rfl, rfl⟩
  · rw [decide_eq_true (by omega)]
    have d1 : decide (97 ≤ x) = false := by simp; omega
    go_enter Tryz.func272, Tryz.ntmps272
    go_wp2
    go_ret
    exact ⟨rfl, rfl⟩
  · subst h
    go_enter Tryz.func272, Tryz.ntmps272
    go_wp2
    go_ret
    exact ⟨rfl, rfl⟩
  · subst h
    go_enter Tryz.func272, Tryz.ntmps272
    go_wp2
    go_ret
    exact ⟨rfl, rfl⟩
  · rw [decide_eq_false (by omega)]
    have d1 : decide (97 ≤ x) = false := by simp; omega
    have d2 : decide (48 ≤ x) = false := by simp; omega
    have e1 : (x == 45) = false := by simp; omega
    have e2 : (x == 46) = false := by simp; omega
    go_enter Tryz.func272, Tryz.ntmps272
    go_wp2
    go_ret
    exact ⟨rfl, rfl⟩
theorem all_at (s : ByteArray) (f : UInt8 → Bool) (k : Nat) (h : k < s.size) : (s.data.toList.drop k).all f = (f s[k] && (s.data.toList.drop (k + 1)).all f) := by
  rw [byteAt s k h, List.all_cons]
set_option maxRecDepth 100000 in
set_option maxHeartbeats 1000000 in
theorem name_any (s : ByteArray) (w : World) (hs : s.size ≤ 1000000) :
    Calls Tryz.prog 221 #[.string s] w fun e w' => e = .returned (.bool (nameOk s.data.toList)) ∧ w' = w := by
  have hl : s.data.toList.length = s.size := by simp
  by_cases h1 : s.size < 1
  · have d1 : decide ((s.size : Int) < 1) = true := by simp; omega
    have hr : nameOk s.data.toList = false := by unfold nameOk; rw [hl, decide_eq_false (by omega)]; rfl
    rw [hr]
    go_enter Tryz.func221, Tryz.ntmps221
    go_wp2
    go_ret
    exact ⟨rfl, rfl⟩
  · by_cases h2 : 12 < s.size
    · have d1 : decide ((s.size : Int) < 1) = false := by simp; omega
      have d2 : decide (12 < (s.size : Int)) = true := by simp; omega
      have hr : nameOk s.data.toList = false := by unfold nameOk; rw [hl, decide_eq_false (show ¬ s.size ≤ 12 by omega)]; simp
      rw [hr]
      go_enter Tryz.func221, Tryz.ntmps221
      go_wp2
      go_ret
      exact ⟨rfl, rfl⟩
    · have d1 : decide ((s.size : Int) < 1) = false := by simp; omega
      have d2 : decide (12 < (s.size : Int)) = false := by simp; omega
      have hr : nameOk s.data.toList = s.data.toList.all nameB := by unfold nameOk; rw [hl, decide_eq_true (show s.size ≤ 12 by omega), decide_eq_true (show 1 ≤ s.size by omega)]; rfl
      rw [hr]
      generalize hR : s.data.toList.all nameB = R
      have HR := Lib.hid hR
      clear hR hr hl
      go_enter Tryz.func221, Tryz.ntmps221
      go_wp2
      go_loop [14] (fun i => ∃ k : Nat, k ≤ s.size ∧ i = .int .i64 k ∧ Hid ((s.data.toList.drop k).all nameB = R)) (fun i => s.size - (intOf i).toNat)
      case atStart => exact ⟨0, Nat.zero_le _, rfl, Lib.hid (by simpa using HR.out)⟩
      case round =>
        obtain ⟨k, hk, rfl, HD⟩ := hrel
        by_cases hlt : k < s.size
        · have hd : decide ((k : Int) < (s.size : Int)) = true := by simp; omega
          have HA := Lib.hid ((all_at s nameB k hlt).symm.trans HD.out)
          clear HD
          go_wp2_with fail
          refine (nb_any _ _).mono ?_
          rintro e w' ⟨rfl, rfl⟩
          cases hb : nameB s[k] with
          | true =>
            have HE : Hid ((s.data.toList.drop (k + 1)).all nameB = R) := Lib.hid (by have := HA.out; rw [hb, Bool.true_and] at this; exact this)
            go_wp2
            go_round
            case rel => exact ⟨k + 1, by omega, by go_num, HE⟩
            case measure => simp [intOf]; omega
          | false =>
            have HE : Hid (R = false) := Lib.hid (by have := HA.out; rw [hb, Bool.false_and] at this; exact this.symm)
            go_wp2
            go_ret
            exact ⟨by rw [HE.out]; rfl, rfl⟩
        · have hd : decide ((k : Int) < (s.size : Int)) = false := by simp; omega
          have HE : Hid (R = true) := Lib.hid (by have := HD.out; rw [show k = s.size by omega, dropEnd] at this; exact this.symm)
          go_wp2
          go_ret
          exact ⟨by rw [HE.out]; rfl, rfl⟩
set_option maxRecDepth 100000 in
set_option maxHeartbeats 1000000 in
theorem seen_any (s : ByteArray) (w : World) (hs : s.size ≤ 1000000) :
    Calls Tryz.prog 222 #[.string s] w fun e w' => e = .returned (.bool (seenOk s.data.toList)) ∧ w' = w := by
  unfold seenOk
  generalize hR : s.data.toList.all seenB = R
  have HR := Lib.hid hR
  clear hR
  go_enter Tryz.func222, Tryz.ntmps222
  go_wp2
  go_loop [6] (fun i => ∃ k : Nat, k ≤ s.size ∧ i = .int .i64 k ∧ Hid ((s.data.toList.drop k).all seenB = R)) (fun i => s.size - (intOf i).toNat)
  case atStart => exact ⟨0, Nat.zero_le _, rfl, Lib.hid (by simpa using HR.out)⟩
  case round =>
    obtain ⟨k, hk, rfl, HD⟩ := hrel
    by_cases hlt : k < s.size
    · have hd : decide ((k : Int) < (s.size : Int)) = true := by simp; omega
      have HA := Lib.hid ((all_at s seenB k hlt).symm.trans HD.out)
      clear HD
      by_cases g1 : s[k].toNat < 32
      · have l1 : decide ((s[k].toNat : Int) < 32) = true := by simp; omega
        have HE : Hid (R = false) := Lib.hid (by
          have := HA.out
          rw [show seenB s[k] = false by unfold seenB; rw [decide_eq_false (by omega)], Bool.false_and] at this
          exact this.symm)
        go_wp2
        go_ret
        exact ⟨by rw [HE.out]; rfl, rfl⟩
      · have l1 : decide ((s[k].toNat : Int) < 32) = false := by simp; omega
        by_cases g2 : 126 < s[k].toNat
        · have l2 : decide (126 < (s[k].toNat : Int)) = true := by simp; omega
          have HE : Hid (R = false) := Lib.hid (by
            have := HA.out
            rw [show seenB s[k] = false by unfold seenB; rw [decide_eq_false (by omega)], Bool.false_and] at this
            exact this.symm)
          go_wp2
          go_ret
          exact ⟨by rw [HE.out]; rfl, rfl⟩
        · have l2 : decide (126 < (s[k].toNat : Int)) = false := by simp; omega
          have HE : Hid ((s.data.toList.drop (k + 1)).all seenB = R) := Lib.hid (by
            have := HA.out
            rw [show seenB s[k] = true by unfold seenB; rw [decide_eq_true (by omega)], Bool.true_and] at this
            exact this)
          go_wp2
          go_round
          case rel => exact ⟨k + 1, by omega, by go_num, HE⟩
          case measure => simp [intOf]; omega
    · have hd : decide ((k : Int) < (s.size : Int)) = false := by simp; omega
      have HE : Hid (R = true) := Lib.hid (by have := HD.out; rw [show k = s.size by omega, dropEnd] at this; exact this.symm)
      go_wp2
      go_ret
      exact ⟨by rw [HE.out]; rfl, rfl⟩
end Go.Proofs.YtcggmagdndhkbaaGreatDoor
end
