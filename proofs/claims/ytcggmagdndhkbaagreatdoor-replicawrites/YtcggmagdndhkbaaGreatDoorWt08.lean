import Derived.Test.YtcggmagdndhkbaaGreatDoorWt03
import Derived.Test.YtcggmagdndhkbaaGreatDoorWt04
import Derived.Test.YtcggmagdndhkbaaGreatDoorWt07
import Derived.Lib.Join
import Derived.Lib.ItoaNum
import Derived.Shelf.Strings.OnBuilder
import Derived.Shelf.Small.Strs
import Derived.Shelf.LaysM
import Derived.Shelf.Strconv.Itoa3
import Derived.Shelf.Strings.Split
import Derived.Shelf.Strings.SplitShaped
import Derived.Test.YtcggmagdndhkbaaGreatDoorProg
import Derived.WalkKit
import Derived.WalkSpells
import Derived.Below
import Derived.Lib.AppendIntMem
import Derived.Lib.ItoaLen
import Derived.Maps.OwnSet
section
set_option linter.unusedVariables false
namespace Go.Proofs.YtcggmagdndhkbaaGreatDoor
open scoped Classical
def lineB (nd : Int) (ws : List (List UInt8)) : List UInt8 := Lib.itoa nd ++ [32] ++ Lib.join ws [32]
def placeB (p : Plc) : List UInt8 := lineB p.1 [[105, 110], Lib.itoa p.2.1, p.2.2.data.toList]
def textB (t : Int × List UInt8) : List UInt8 := lineB t.1 [[116, 101, 120, 116], t.2]
def markB (m : Mrk) : List UInt8 := lineB m.1 [[109, 97, 114, 107], m.2.1.data.toList, m.2.2.data.toList]
def fullT (t : Int × List UInt8) : Bool := decide (t.2 ≠ [])
def linesB (qs : List Plc) (ts : List (Int × List UInt8)) (ms : List Mrk) : List (List UInt8) := qs.map placeB ++ (ts.filter fullT).map textB ++ ms.map markB
structure IsTexts (A : List OpX) (ts : List (Int × List UInt8)) : Prop where
  rise : ts.Pairwise (fun a b => a.1 < b.1)
  mem : ∀ nd, nd ∈ ts.map (·.1) ↔ KnownN A nd
  line : ∀ t ∈ ts, ∃ L, LineIs A t.1 L ∧ t.2 = textL L
theorem IsTexts.perm {A B : List OpX} {ts : List (Int × List UInt8)} (h : IsTexts A ts) (e : A.Perm B) : IsTexts B ts := by
  refine ⟨h.rise, fun nd => (h.mem nd).trans ⟨fun q => q.mono (fun x hx => e.mem_iff.1 hx), fun q => q.mono (fun x hx => e.mem_iff.2 hx)⟩, fun t ht => ?_⟩
  obtain ⟨L, h1, h2⟩ := h.line t ht
  exact ⟨L, h1.perm e, h2⟩
theorem IsTexts.unique {A : List OpX} {ts us : List (Int × List UInt8)} (h : IsTexts A ts) (k : IsTexts A us) : ts = us := by
  have one : ∀ {xs ys : List (Int × List UInt8)}, IsTexts A xs → IsTexts A ys → ∀ p, p ∈ xs → p ∈ ys := fun {xs ys} hx hy p hp => by
    have : p.1 ∈ ys.map (·.1) := (hy.mem _).2 ((hx.mem _).1 (List.mem_map.2 ⟨p, hp, rfl⟩))
    obtain ⟨q, hq, e⟩ := List.mem_map.1 this
    obtain ⟨L, l1, l2⟩ := hx.line p hp
    obtain ⟨M, m1, m2⟩ := hy.line q hq
    have e' : q.1 = p.1 := e
    rw [e'] at m1
    obtain rfl := l1.unique m1
    have : q = p := Prod.ext e' (m2.trans l2.symm)
    rwa [this] at hq
  exact rise_unique (R := fun a b : Int × List UInt8 => a.1 < b.1) (fun a => Int.lt_irrefl _) (fun a b c => Int.lt_trans) h.rise k.rise (fun p => ⟨one h k p, one k h p⟩)
def StateIs (A : List OpX) (s : List UInt8) : Prop := ∃ ms qs ts A' mm, ms.Perm (movsO A) ∧ ByStamp ms ∧ IsPlaces (madeBy ms) qs ∧ IsTexts A ts ∧ A'.Perm A ∧ IsMarks (madeO A') mm ∧ s = Lib.join (linesB qs ts mm) [10]
theorem StateIs.perm {A B : List OpX} {s : List UInt8} (h : StateIs A s) (e : A.Perm B) : StateIs B s := by
  obtain ⟨ms, qs, ts, A', mm, h1, h2, h3, h4, h5, h6, h7⟩ := h
  exact ⟨ms, qs, ts, A', mm, h1.trans (e.filterMap _), h2, h3, h4.perm e, h5.trans e, h6, h7⟩
theorem WellK.oneO {A : List OpX} (h : WellK A) : OneO A := fun x hx y hy e1 e2 => h.stamp hx hy (by unfold stO; rw [e1, e2])
theorem OneO.mono {A B : List OpX} (h : OneO A) (e : ∀ x, x ∈ B → x ∈ A) : OneO B := fun x hx y hy => h x (e x hx) y (e y hy)
theorem madeO_perm {A B : List OpX} (h : OneO A) (e : A.Perm B) : madeO A = madeO B :=
  foldC_turned (fun m => (e.filterMap _).mem_iff) h.marks
theorem StateIs.unique {A : List OpX} {s t : List UInt8} (hA : WellK A) (h : StateIs A s) (k : StateIs A t) : s = t := by
  obtain ⟨ms, qs, ts, A', mm, h1, h2, h3, h4, h5, h6, rfl⟩ := h
  obtain ⟨ms', qs', ts', A'', mm', k1, k2, k3, k4, k5, k6, rfl⟩ := k
  obtain rfl := byStamp_unique (h1.trans k1.symm) h2 k2
  obtain rfl := h3.unique k3
  obtain rfl := h4.unique k4
  have e : madeO A' = madeO A'' := madeO_perm (hA.oneO.mono (fun x hx => h5.mem_iff.1 hx)) (h5.trans k5.symm)
  rw [e] at h6
  obtain rfl := h6.unique k6
  rfl
theorem StateIs.same {A B : List OpX} {s t : List UInt8} (hA : WellK A) (e : A.Perm B) (h : StateIs A s) (k : StateIs B t) : s = t := h.unique hA (k.perm e.symm)
theorem join_nil (x : List UInt8) : Lib.join [] x = [] := rfl
end Go.Proofs.YtcggmagdndhkbaaGreatDoor
end
section
set_option linter.unusedVariables false
namespace Go.Proofs.YtcggmagdndhkbaaGreatDoor
open scoped Classical
theorem idO_eq {x y : OpX} (hx : errO x = 0) (hy : errO y = 0) (h : idO x = idO y) : stO x = stO y := by
  have a := opE_zero hx
  have b := opE_zero hy
  unfold idO at h
  unfold stO
  have h1 : x.1 = y.1 := by omega
  have h2 : x.2.1 = y.2.1 := by omega
  rw [h1, h2]
end Go.Proofs.YtcggmagdndhkbaaGreatDoor
end
section
set_option linter.unusedVariables false
namespace Go.Proofs.YtcggmagdndhkbaaGreatDoor
def opLt (x : OpX) : Ltr := (idO x, letO x, false)
def chainO (nd : Int) : Int → List OpX → Prop
  | _, [] => True
  | p, x :: U => kdO x = 105 ∧ nodeO x = nd ∧ otherO x = p ∧ idO x ≠ 0 ∧ chainO nd (idO x) U
theorem chain_kd {nd : Int} : ∀ {U : List OpX} {p : Int}, chainO nd p U → ∀ x ∈ U, kdO x = 105 ∧ nodeO x = nd ∧ idO x ≠ 0
  | [], _, _, x, hx => by simp at hx
  | y :: U, p, h, x, hx => by
    rcases List.mem_cons.1 hx with rfl | hx
    · exact ⟨h.1, h.2.1, h.2.2.2.1⟩
    · exact chain_kd h.2.2.2.2 x hx
theorem line_chain : ∀ (U : List OpX) {A : List OpX} {nd p : Int} {L : List Ltr}, LineIs A nd L → chainO nd p U → (p = 0 ∨ p ∈ L.map (·.1)) → (∀ x ∈ U, idO x ∉ L.map (·.1)) → (U.map idO).Nodup → (∀ y ∈ A, kdO y ≠ 100) → LineIs (U.reverse ++ A) nd (typed p (U.map opLt) L)
  | [], A, nd, p, L, h, _, _, _, _, _ => h
  | x :: U, A, nd, p, L, h, hc, hp, hn, hd, hg => by
    obtain ⟨c1, c2, c3, c4, c5⟩ := hc
    have h1 := h.ins c1 c2 (hn x (by simp)) c4 (by rw [c3]; exact hp) (fun ⟨y, hy, q, _⟩ => hg y hy q)
    rw [c3] at h1
    have hids := put_ids (x := opLt x) hp
    rw [List.map_cons, List.nodup_cons] at hd
    have ih := line_chain U (p := idO x) h1 c5 (.inr (hids.mem_iff.2 (by simp [opLt]))) (fun y hy q => ?_) hd.2 (fun y hy => ?_)
    · rw [List.reverse_cons, List.append_assoc]
      exact ih
    · rcases List.mem_cons.1 (hids.mem_iff.1 q) with e | e
      · exact hd.1 (List.mem_map.2 ⟨y, hy, e⟩)
      · exact hn y (by simp [hy]) e
    · rcases List.mem_cons.1 hy with rfl | hy
      · rw [c1]; decide
      · exact hg y hy
structure WordOf (A : List OpX) (nd p : Int) (U : List OpX) : Prop where
  chain : chainO nd p U
  ok : ∀ x ∈ U, errO x = 0
  rise : U.Pairwise (fun a b => idO a < idO b)
  above : ∀ x ∈ U, ∀ y ∈ A, y.1 < x.1
theorem id_above {x y : OpX} (hx : errO x = 0) (hy : errO y = 0) (h : y.1 < x.1) : idO y < idO x := by
  have a := opE_zero hx
  have b := opE_zero hy
  unfold idO
  omega
theorem line_ids {A : List OpX} {nd : Int} {L : List Ltr} (h : LineIs A nd L) {g : Ltr} (hg : g ∈ L) : ∃ y ∈ A, idO y = g.1 := by
  obtain ⟨y, hy, _, _, e⟩ := h.mem.1 (List.mem_map.2 ⟨g, hg, rfl⟩)
  exact ⟨y, hy, e⟩
theorem WordOf.less {A U : List OpX} {nd p : Int} (h : WordOf A nd p U) (hA : ∀ y ∈ A, errO y = 0) {L : List Ltr} (hL : LineIs A nd L) {x : OpX} (hx : x ∈ U) {g : Ltr} (hg : g ∈ L) : g.1 < idO x := by
  obtain ⟨y, hy, e⟩ := line_ids hL hg
  rw [← e]
  exact id_above (h.ok x hx) (hA y hy) (h.above x hx y hy)
theorem ends_mem {p : Int} {P R : List Ltr} (h : Ends p P) : p = 0 ∨ p ∈ (P ++ R).map (·.1) := by
  rcases h with ⟨h, _⟩ | ⟨A', l, rfl, e, _⟩
  · exact .inl h
  · refine .inr (List.mem_map.2 ⟨l, ?_, e⟩)
    simp
theorem rises_map {U : List OpX} (h : U.Pairwise (fun a b => idO a < idO b)) : Rises (U.map opLt) := by
  unfold Rises
  rw [List.pairwise_map]
  exact h
theorem ids_nodup {U : List OpX} (h : U.Pairwise (fun a b => idO a < idO b)) : (U.map idO).Nodup := by
  unfold List.Nodup
  rw [List.pairwise_map]
  exact h.imp (fun q e => by omega)
theorem word_at {A U : List OpX} {nd p : Int} {P R : List Ltr} (hL : LineIs A nd (P ++ R)) (hA : ∀ y ∈ A, errO y = 0) (hg : ∀ y ∈ A, kdO y ≠ 100) (hE : Ends p P) (h : WordOf A nd p U) : LineIs (U.reverse ++ A) nd (P ++ U.map opLt ++ R) := by
  have hlt : ∀ x ∈ U, ∀ g ∈ P ++ R, g.1 < idO x := fun x hx g hg => h.less hA hL hx hg
  have h1 := line_chain U hL h.chain (ends_mem hE) (fun x hx q => by
    obtain ⟨g, hg, e⟩ := List.mem_map.1 q
    have := hlt x hx g hg
    omega) (ids_nodup h.rise) hg
  have h2 := typed_at (U.map opLt) (p := p) (A := P) (V := []) (R := R) hE (rises_map h.rise) (fun x hx => by
    obtain ⟨y, hy, rfl⟩ := List.mem_map.1 hx
    exact (chain_kd h.chain y hy).2.2) (fun x hx g hg => by
    obtain ⟨y, hy, rfl⟩ := List.mem_map.1 hx
    have := hlt y hy g (by simp at hg; simp [hg])
    show g.1 ≠ idO y
    omega) (fun _ _ g hg => by simp at hg) (fun x hx g hg => by
    obtain ⟨y, hy, rfl⟩ := List.mem_map.1 hx
    exact hlt y hy g (by simp [hg]))
  simp only [List.append_nil] at h2
  rwa [h2] at h1
theorem words_two {A U V : List OpX} {nd p : Int} {P R : List Ltr} (hL : LineIs A nd (P ++ R)) (hA : ∀ y ∈ A, errO y = 0) (hg : ∀ y ∈ A, kdO y ≠ 100) (hE : Ends p P) (hU : WordOf A nd p U) (hV : WordOf A nd p V) (hne : ∀ x ∈ U, ∀ y ∈ V, idO x ≠ idO y) : LineIs (U ++ (V ++ A)) nd (P ++ V.map opLt ++ U.map opLt ++ R) ∨ LineIs (U ++ (V ++ A)) nd (P ++ U.map opLt ++ V.map opLt ++ R) := by
  have key : ∀ {U V : List OpX}, WordOf A nd p U → WordOf A nd p V → (∀ x ∈ U, ∀ y ∈ V, idO x ≠ idO y) → (∀ x, U.head? = some x → ∀ y ∈ V, idO x < idO y) → LineIs (U ++ (V ++ A)) nd (P ++ V.map opLt ++ U.map opLt ++ R) := by
    intro U V hU hV hne hlt
    have lu : ∀ x ∈ U, ∀ g ∈ P ++ R, g.1 < idO x := fun x hx g hg => hU.less hA hL hx hg
    have lv : ∀ x ∈ V, ∀ g ∈ P ++ R, g.1 < idO x := fun x hx g hg => hV.less hA hL hx hg
    have nu : ∀ x ∈ U, idO x ≠ 0 := fun x hx => (chain_kd hU.chain x hx).2.2
    have nv : ∀ x ∈ V, idO x ≠ 0 := fun x hx => (chain_kd hV.chain x hx).2.2
    have h1 := word_at hL hA hg hE hV
    have h2 := line_chain U (p := p) h1 hU.chain (by rw [List.append_assoc]; exact ends_mem hE) (fun x hx q => by
      obtain ⟨g, hg, e⟩ := List.mem_map.1 q
      have : g ∈ P ++ R ∨ g ∈ V.map opLt := by
        simp only [List.mem_append] at hg ⊢
        rcases hg with (q | q) | q
        · exact .inl (.inl q)
        · exact .inr q
        · exact .inl (.inr q)
      rcases this with q | q
      · have := lu x hx g q; omega
      · obtain ⟨y, hy, rfl⟩ := List.mem_map.1 q
        exact hne x hx y hy e.symm) (ids_nodup hU.rise) (fun y hy => by
      rcases List.mem_append.1 hy with q | q
      · rw [(chain_kd hV.chain y (List.mem_reverse.1 q)).1]; decide
      · exact hg y q)
    have mem : ∀ {W : List OpX} {x : Ltr}, x ∈ W.map opLt → ∃ y ∈ W, x = opLt y := fun {W x} hx => by
      obtain ⟨y, hy, e⟩ := List.mem_map.1 hx
      exact ⟨y, hy, e.symm⟩
    have hpv : typed p (V.map opLt) (P ++ R) = P ++ V.map opLt ++ R := by
      have := typed_at (V.map opLt) (p := p) (A := P) (V := []) (R := R) hE (rises_map hV.rise) (fun x hx => by obtain ⟨y, hy, rfl⟩ := mem hx; exact nv y hy) (fun x hx g hg => by
        obtain ⟨y, hy, rfl⟩ := mem hx
        have := lv y hy g (by simp at hg; simp [hg])
        show g.1 ≠ idO y
        omega) (fun _ _ g hg => by simp at hg) (fun x hx g hg => by obtain ⟨y, hy, rfl⟩ := mem hx; exact lv y hy g (by simp [hg]))
      simpa using this
    have h3 := (typed_two (u := U.map opLt) (v := V.map opLt) (p := p) (A := P) (R := R) hE (rises_map hU.rise) (rises_map hV.rise) (fun x hx => by obtain ⟨y, hy, rfl⟩ := mem hx; exact nu y hy) (fun x hx => by obtain ⟨y, hy, rfl⟩ := mem hx; exact nv y hy) (fun x hx g hg => by
      rcases List.mem_append.1 hx with q | q
      · obtain ⟨y, hy, rfl⟩ := mem q
        have := lu y hy g (by simp [hg])
        show g.1 ≠ idO y
        omega
      · obtain ⟨y, hy, rfl⟩ := mem q
        have := lv y hy g (by simp [hg])
        show g.1 ≠ idO y
        omega) (fun x hx g hg => by
      rcases List.mem_append.1 hx with q | q
      · obtain ⟨y, hy, rfl⟩ := mem q
        exact lu y hy g (by simp [hg])
      · obtain ⟨y, hy, rfl⟩ := mem q
        exact lv y hy g (by simp [hg])) (fun x hx y hy => by
      obtain ⟨a, ha, rfl⟩ := mem hx
      obtain ⟨b, hb, rfl⟩ := mem hy
      exact hne a ha b hb) (fun x hx y hy => by
      obtain ⟨b, hb, rfl⟩ := mem hy
      cases hU0 : U with
      | nil => rw [hU0] at hx; simp at hx
      | cons a t =>
        rw [hU0] at hx
        simp at hx
        subst hx
        exact hlt a (by rw [hU0]; rfl) b hb)).1
    rw [hpv] at h3
    rw [h3] at h2
    exact h2.perm ((List.reverse_perm U).append ((List.reverse_perm V).append (List.Perm.refl A)))
  by_cases hl : ∀ x, U.head? = some x → ∀ y ∈ V, idO x < idO y
  · exact .inl (key hU hV hne hl)
  · right
    have hl' : ∀ y, V.head? = some y → ∀ x ∈ U, idO y < idO x := by
      intro y hy x hx
      cases hU0 : U with
      | nil => rw [hU0] at hx; simp at hx
      | cons a t =>
        have ha : a ∈ U := by rw [hU0]; simp
        have hyV : y ∈ V := List.mem_of_mem_head? hy
        have hya : idO y < idO a := by
          by_cases q : idO y < idO a
          · exact q
          · exfalso
            apply hl
            intro b hb z hz
            rw [hU0] at hb
            simp at hb
            subst hb
            have hyz : idO y ≤ idO z := by
              cases hV0 : V with
              | nil => rw [hV0] at hz; simp at hz
              | cons c t' =>
                rw [hV0] at hy hz
                simp at hy
                subst hy
                rcases List.mem_cons.1 hz with rfl | hz
                · exact Int.le_refl _
                · have := hV.rise
                  rw [hV0] at this
                  exact Int.le_of_lt ((List.pairwise_cons.1 this).1 z hz)
            have := hne a ha y hyV
            omega
        rw [hU0] at hx
        rcases List.mem_cons.1 hx with rfl | hx
        · exact hya
        · have := hU.rise
          rw [hU0] at this
          have := (List.pairwise_cons.1 this).1 x hx
          omega
    refine (key hV hU (fun y hy x hx e => hne x hx y hy e.symm) hl').perm ?_
    rw [← List.append_assoc, ← List.append_assoc]
    exact (List.perm_append_comm).append (List.Perm.refl A)
end Go.Proofs.YtcggmagdndhkbaaGreatDoor
end
section
namespace Go.Proofs
open Go.Shelf
def Tryz.lays156_ren : Go.Shelf.Ren := ⟨fun | 156 => 65 | 165 => 130 | 166 => 131 | 169 => 132 | 240 => 194 | 241 => 195 | 276 => 239 | 277 => 240 | n => n, fun | 31 => 123 | 9 => 9 | 3 => 3 | 4 => 4 | 0 => 0 | 20 => 20 | 72 => 223 | 76 => 34 | 70 => 221 | 37 => 173 | 75 => 25 | 127 => 276 | 164 => 285 | 5 => 5 | 80 => 46 | n => n, fun | n => n⟩
theorem Tryz.lays156 : Go.Proofs.Lays.n156 Tryz.prog Tryz.lays156_ren := {
  mixed := by kernel_rfl
  f156 := Tryz.func65.trans (congrArg some (by kernel_rfl))
  f165 := Tryz.func130.trans (congrArg some (by kernel_rfl))
  f166 := Tryz.func131.trans (congrArg some (by kernel_rfl))
  f169 := Tryz.func132.trans (congrArg some (by kernel_rfl))
  f240 := Tryz.func194.trans (congrArg some (by kernel_rfl))
  f241 := Tryz.func195.trans (congrArg some (by kernel_rfl))
  f276 := Tryz.func239.trans (congrArg some (by kernel_rfl))
  f277 := Tryz.func240.trans (congrArg some (by kernel_rfl))
  t0 := Tryz.underlying0
  a0 := Tryz.isAgg0
  z0 := Tryz.sizeOf0
  v0 := Tryz.zeroValue0
  t3 := Tryz.underlying3
  a3 := Tryz.isAgg3
  z3 := Tryz.sizeOf3
  v3 := Tryz.zeroValue3
  t4 := Tryz.underlying4
  a4 := Tryz.isAgg4
  z4 := Tryz.sizeOf4
  v4 := Tryz.zeroValue4
  t9 := Tryz.underlying9
  a9 := Tryz.isAgg9
  z9 := Tryz.sizeOf9
  v9 := Tryz.zeroValue9
  t20 := Tryz.underlying20
  a20 := Tryz.isAgg20
  z20 := Tryz.sizeOf20
  v20 := Tryz.zeroValue20
  t31 := Tryz.underlying123
  a31 := Tryz.isAgg123
  z31 := Tryz.sizeOf123
  v31 := Tryz.zeroValue123
  t37 := Tryz.underlying173
  a37 := Tryz.isAgg173
  z37 := Tryz.sizeOf173
  v37 := Tryz.zeroValue173
  t70 := Tryz.underlying221
  a70 := Tryz.isAgg221
  z70 := Tryz.sizeOf221
  v70 := Tryz.zeroValue221
  t72 := Tryz.underlying223
  a72 := Tryz.isAgg223
  z72 := Tryz.sizeOf223
  v72 := Tryz.zeroValue223
  t75 := Tryz.underlying25
  a75 := Tryz.isAgg25
  z75 := Tryz.sizeOf25
  v75 := Tryz.zeroValue25
  t76 := Tryz.underlying34
  a76 := Tryz.isAgg34
  z76 := Tryz.sizeOf34
  v76 := Tryz.zeroValue34
  t127 := Tryz.underlying276
  a127 := Tryz.isAgg276
  z127 := Tryz.sizeOf276
  v127 := Tryz.zeroValue276
  t164 := Tryz.underlying285
  a164 := Tryz.isAgg285
  z164 := Tryz.sizeOf285
  v164 := Tryz.zeroValue285 }
theorem Tryz.Builder_Extra_156 : Builder.Extra Tryz.prog Tryz.lays156_ren := {
  sizeBuilder := by kernel_rfl
  liesBuilder := by kernel_rfl
  t5 := Tryz.underlying5
  a5 := Tryz.isAgg5
  z5 := Tryz.sizeOf5
  v5 := Tryz.zeroValue5
  infoByte := by kernel_rfl
  cellsByte := by kernel_rfl
  sizeByte := by kernel_rfl
  neB5 := by decide }
open Go.RowKit in
theorem Tryz.strings_Join_none (a : Option Addr) (c : Nat) (sep : ByteArray) (w : World) :
    Calls Tryz.prog 65 #[.slice a 0 c, .string sep] w fun e w' => e = .returned (.string ⟨#[]⟩) ∧ w' = w := Any.strings_Join_none Tryz.lays156 Tryz.Builder_Extra_156 a c sep w
open Go.RowKit in
theorem Tryz.strings_Join (bk o c : Nat) (xs : List ByteArray) (sep : ByteArray) (w : World) (hcells : ∀ (j : Nat) x, xs[j]? = some x → w.cell? ⟨bk, o + j, none⟩ = some (.string x)) (hbk : bk < w.heap.size) (hN : xs.length ≤ 140737488355328) (hcap : xs.length ≤ c) (hlen : (Lib.join (xs.map (·.data.toList)) sep.data.toList).length ≤ 140737488355328) :
    Calls Tryz.prog 65 #[.slice (some ⟨bk, o, none⟩) xs.length c, .string sep] w fun e w' => e = .returned (.string ⟨(Lib.join (xs.map (·.data.toList)) sep.data.toList).toArray⟩) ∧ Below w.heap.size w w' := Any.strings_Join Tryz.lays156 Tryz.Builder_Extra_156 bk o c xs sep w hcells hbk hN hcap hlen
def Tryz.laysM171_ren : Go.Shelf.Ren := ⟨fun | 171 => 64 | 243 => 129 | 246 => 193 | 283 => 235 | 284 => 236 | 285 => 237 | 286 => 238 | 129 => 253 | 317 => 284 | 318 => 285 | 319 => 286 | 320 => 287 | 337 => 318 | 338 => 319 | n => n, fun | 3 => 3 | 9 => 9 | 2 => 2 | 4 => 4 | 171 => 322 | 0 => 0 | 53 => 302 | 37 => 173 | 5 => 5 | 173 => 325 | 212 => 373 | 51 => 303 | 20 => 20 | 213 => 374 | 46 => 283 | 232 => 406 | 233 => 407 | n => n, fun | 17 => 13 | 18 => 15 | 19 => 16 | n => n⟩
theorem Tryz.laysM171 : Go.Proofs.LaysM.n171 Tryz.prog Tryz.laysM171_ren := {
  mixed := by kernel_rfl
  f129 := Tryz.func253.trans (congrArg some (by kernel_rfl))
  f171 := Tryz.func64.trans (congrArg some (by kernel_rfl))
  f243 := Tryz.func129.trans (congrArg some (by kernel_rfl))
  f246 := Tryz.func193.trans (congrArg some (by kernel_rfl))
  f283 := Tryz.func235.trans (congrArg some (by kernel_rfl))
  f284 := Tryz.func236.trans (congrArg some (by kernel_rfl))
  f285 := Tryz.func237.trans (congrArg some (by kernel_rfl))
  f286 := Tryz.func238.trans (congrArg some (by kernel_rfl))
  f317 := Tryz.func284.trans (congrArg some (by kernel_rfl))
  f318 := Tryz.func285.trans (congrArg some (by kernel_rfl))
  f319 := Tryz.func286.trans (congrArg some (by kernel_rfl))
  f320 := Tryz.func287.trans (congrArg some (by kernel_rfl))
  f337 := Tryz.func318.trans (congrArg some (by kernel_rfl))
  f338 := Tryz.func319.trans (congrArg some (by kernel_rfl))
  t0 := Tryz.underlying0
  a0 := Tryz.isAgg0
  z0 := Tryz.sizeOf0
  v0 := Tryz.zeroValue0
  t2 := Tryz.underlying2
  a2 := Tryz.isAgg2
  z2 := Tryz.sizeOf2
  v2 := Tryz.zeroValue2
  t3 := Tryz.underlying3
  a3 := Tryz.isAgg3
  z3 := Tryz.sizeOf3
  v3 := Tryz.zeroValue3
  t4 := Tryz.underlying4
  a4 := Tryz.isAgg4
  z4 := Tryz.sizeOf4
  v4 := Tryz.zeroValue4
  t5 := Tryz.underlying5
  a5 := Tryz.isAgg5
  z5 := Tryz.sizeOf5
  v5 := Tryz.zeroValue5
  t9 := Tryz.underlying9
  a9 := Tryz.isAgg9
  z9 := Tryz.sizeOf9
  v9 := Tryz.zeroValue9
  t20 := Tryz.underlying20
  a20 := Tryz.isAgg20
  z20 := Tryz.sizeOf20
  v20 := Tryz.zeroValue20
  t37 := Tryz.underlying173
  a37 := Tryz.isAgg173
  z37 := Tryz.sizeOf173
  v37 := Tryz.zeroValue173
  t46 := Tryz.underlying283
  a46 := Tryz.isAgg283
  z46 := Tryz.sizeOf283
  v46 := Tryz.zeroValue283
  t51 := Tryz.underlying303
  a51 := Tryz.isAgg303
  z51 := Tryz.sizeOf303
  v51 := Tryz.zeroValue303
  t53 := Tryz.underlying302
  a53 := Tryz.isAgg302
  z53 := Tryz.sizeOf302
  v53 := Tryz.zeroValue302
  t171 := Tryz.underlying322
  a171 := Tryz.isAgg322
  z171 := Tryz.sizeOf322
  v171 := Tryz.zeroValue322
  t173 := Tryz.underlying325
  a173 := Tryz.isAgg325
  z173 := Tryz.sizeOf325
  v173 := Tryz.zeroValue325
  t212 := Tryz.underlying373
  a212 := Tryz.isAgg373
  z212 := Tryz.sizeOf373
  v212 := Tryz.zeroValue373
  t213 := Tryz.underlying374
  a213 := Tryz.isAgg374
  z213 := Tryz.sizeOf374
  t232 := Tryz.underlying406
  a232 := Tryz.isAgg406
  z232 := Tryz.sizeOf406
  v232 := Tryz.zeroValue406
  t233 := Tryz.underlying407
  a233 := Tryz.isAgg407
  z233 := Tryz.sizeOf407
  v233 := Tryz.zeroValue407
  g17 := by kernel_rfl
  g18 := by kernel_rfl
  g19 := by kernel_rfl
  i0 := by kernel_rfl
  i2 := by kernel_rfl
  i3 := by kernel_rfl
  i4 := by kernel_rfl
  i5 := by kernel_rfl
  i9 := by kernel_rfl
  i20 := by kernel_rfl
  i37 := by kernel_rfl
  i46 := by kernel_rfl
  i51 := by kernel_rfl
  i53 := by kernel_rfl
  i171 := by kernel_rfl
  i173 := by kernel_rfl
  i212 := by kernel_rfl
  i232 := by kernel_rfl
  i233 := by kernel_rfl
  m17 := by kernel_rfl
  m18 := by kernel_rfl
  m19 := by kernel_rfl }
open Go.RowKit Go.Sort Go.Lib in
theorem Tryz.strconv_Itoa (n : Int) (h0 : -9223372036854775808 ≤ n) (h1 : n ≤ 9223372036854775807) (w : World) (htab : Lib.TabIs Tryz.prog w "internal/strconv.uint64pow10" .u64 Lib.pow10Tab) :
    Calls Tryz.prog 64 #[.int .i64 n] w fun e w' => e = .returned (.string ⟨(Lib.itoa n).toArray⟩) ∧ ∃ k os, w' = grow (w.drewN k) os := Any.strconv_Itoa Tryz.laysM171 n h0 h1 w htab
end Go.Proofs
end
section
namespace Go.Proofs.YtcggmagdndhkbaaGreatDoor
open Go.RowKit
theorem itoa_any (n : Int) (h0 : -9223372036854775808 ≤ n) (h1 : n ≤ 9223372036854775807) (w : World) (htab : Lib.TabIs Tryz.prog w "internal/strconv.uint64pow10" .u64 Lib.pow10Tab) :
    Calls Tryz.prog 64 #[.int .i64 n] w fun e w' => e = .returned (.string ⟨(Lib.itoa n).toArray⟩) ∧ Below w.heap.size w w' := by
  refine (Tryz.strconv_Itoa n h0 h1 w htab).mono ?_
  rintro e w' ⟨rfl, k, os, rfl⟩
  exact ⟨rfl, Lib.below_grow _ _ (Nat.le_refl _) _ _⟩
end Go.Proofs.YtcggmagdndhkbaaGreatDoor
end
section
namespace Go.Proofs.YtcggmagdndhkbaaGreatDoor
open scoped Classical
abbrev Ent := Mov × Plc
structure LogTo (ms : List Mov) (i : Nat) (L : List Ent) : Prop where
  movs : L.map (·.1) = ms
  from_ : ∀ j x, j < i → L[j]? = some x → x.2 = fromAt ms j
theorem LogTo.len {ms : List Mov} {i : Nat} {L : List Ent} (h : LogTo ms i L) : L.length = ms.length := by rw [← h.movs]; simp
theorem LogTo.mov {ms : List Mov} {i j : Nat} {L : List Ent} (h : LogTo ms i L) {x : Ent} (hx : L[j]? = some x) : ms[j]? = some x.1 := by rw [← h.movs]; simp [hx]
theorem logTo_nil : LogTo [] 0 [] := ⟨rfl, fun _ _ h => by omega⟩
theorem fromAt_some {ms : List Mov} {i : Nat} {m : Mov} (h : ms[i]? = some m) : fromAt ms i = (madeBy (ms.take i) m.2.1).getD zeroP := by unfold fromAt; rw [h]
theorem fromAt_congr {ms ms' : List Mov} {i : Nat} (h : ms.take (i + 1) = ms'.take (i + 1)) : fromAt ms i = fromAt ms' i := by
  have h1 : ms[i]? = ms'[i]? := by
    have e1 : (ms.take (i + 1))[i]? = ms[i]? := by rw [List.getElem?_take, if_pos (by omega)]
    have e2 : (ms'.take (i + 1))[i]? = ms'[i]? := by rw [List.getElem?_take, if_pos (by omega)]
    rw [← e1, ← e2, h]
  have h2 : ms.take i = ms'.take i := by
    have e1 : (ms.take (i + 1)).take i = ms.take i := by rw [List.take_take]; congr 1; omega
    have e2 : (ms'.take (i + 1)).take i = ms'.take i := by rw [List.take_take]; congr 1; omega
    rw [← e1, ← e2, h]
  unfold fromAt
  rw [h1, h2]
def layIn (L : List Ent) (i : Nat) (x : Ent) : List Ent := L.take i ++ x :: L.drop i
theorem layIn_to {ms : List Mov} {L : List Ent} {i : Nat} {m : Mov} (h : LogTo ms ms.length L) (hi : i ≤ ms.length) (fr : Plc) : LogTo (insAt ms i m) i (layIn L i (m, fr)) := by
  refine ⟨?_, fun j x hj hx => ?_⟩
  · unfold layIn insAt
    simp [← h.movs, List.map_take, List.map_drop]
  · have hx' : L[j]? = some x := by
      unfold layIn at hx
      rwa [List.getElem?_append_left (by simp; have := h.len; omega), List.getElem?_take, if_pos hj] at hx
    rw [h.from_ j x (by omega) hx']
    refine fromAt_congr ?_
    unfold insAt
    rw [List.take_append_of_le_length (by simp; omega), List.take_take]
    congr 1
    omega
theorem set_to {ms : List Mov} {L : List Ent} {i : Nat} {x : Ent} (h : LogTo ms i L) (hx : L[i]? = some x) : LogTo ms (i + 1) (L.set i (x.1, fromAt ms i)) := by
  refine ⟨?_, fun j y hj hy => ?_⟩
  · rw [← h.movs, List.map_set]
    apply List.ext_getElem?
    intro j
    by_cases e : j = i
    · subst e
      have hl := (List.getElem?_eq_some_iff.1 hx).1
      rw [List.getElem?_set_self (by simpa using hl)]
      simp [hx]
    · rw [List.getElem?_set_ne (by omega)]
  · by_cases e : j = i
    · subst e
      rw [List.getElem?_set_self (List.getElem?_eq_some_iff.1 hx).1] at hy
      cases hy
      rfl
    · rw [List.getElem?_set_ne (by omega)] at hy
      exact h.from_ j y (by omega) hy
def Found (ms : List Mov) (s : Int × Int) (i : Nat) (b : Bool) : Prop :=
  (b = true ∧ ∃ m, ms[i]? = some m ∧ m.1 = s) ∨ (b = false ∧ i ≤ ms.length ∧ (∀ x ∈ ms.take i, SLt x.1 s) ∧ ∀ x ∈ ms.drop i, SLt s x.1)
def Later (ms : List Mov) (s : Int × Int) (i : Nat) : Prop := ∀ x ∈ ms.drop i, SLt s x.1
theorem later_end (ms : List Mov) (s : Int × Int) : Later ms s ms.length := fun x hx => by simp at hx
theorem found_same {ms : List Mov} {s : Int × Int} {i : Nat} {m : Mov} (h : ms[i]? = some m) (e : m.1 = s) : Found ms s i true := .inl ⟨rfl, m, h, e⟩
theorem found_less {ms : List Mov} {s : Int × Int} {i : Nat} {m : Mov} (hb : ByStamp ms) (hl : Later ms s (i + 1)) (h : ms[i]? = some m) (e : SLt m.1 s) : Found ms s (i + 1) false := by
  have hi := (List.getElem?_eq_some_iff.1 h).1
  refine .inr ⟨rfl, by omega, fun x hx => ?_, hl⟩
  rw [List.take_add_one, h] at hx
  rcases List.mem_append.1 hx with hx | hx
  · refine slt_trans ?_ e
    have hp : (ms.take i ++ ms.drop i).Pairwise (fun a b => SLt a.1 b.1) := by rw [List.take_append_drop]; exact hb
    refine (List.pairwise_append.1 hp).2.2 x hx m ?_
    rw [List.mem_iff_getElem?]
    exact ⟨0, by rw [List.getElem?_drop, Nat.add_zero, h]⟩
  · simp at hx
    rw [hx]; exact e
theorem later_step {ms : List Mov} {s : Int × Int} {i : Nat} {m : Mov} (hl : Later ms s (i + 1)) (h : ms[i]? = some m) (ne : m.1 ≠ s) (nl : ¬ SLt m.1 s) : Later ms s i := by
  intro x hx
  have hi := (List.getElem?_eq_some_iff.1 h)
  rw [List.drop_eq_getElem_cons hi.1] at hx
  rcases List.mem_cons.1 hx with rfl | hx
  · rw [hi.2]; exact slt_total ne nl
  · exact hl x hx
theorem found_first {ms : List Mov} {s : Int × Int} (hl : Later ms s 0) : Found ms s 0 false := .inr ⟨rfl, Nat.zero_le _, fun x hx => by simp at hx, hl⟩
theorem found_new {ms : List Mov} {s : Int × Int} {i : Nat} {b : Bool} (h : Found ms s i b) (hn : ∀ m ∈ ms, m.1 ≠ s) : b = false ∧ i ≤ ms.length ∧ (∀ x ∈ ms.take i, SLt x.1 s) ∧ ∀ x ∈ ms.drop i, SLt s x.1 := by
  rcases h with ⟨_, m, hm, e⟩ | h
  · exact absurd e (hn m (List.mem_of_getElem? hm))
  · exact h
end Go.Proofs.YtcggmagdndhkbaaGreatDoor
end
section
namespace Go.Proofs.YtcggmagdndhkbaaGreatDoor
open Go Go.Maps
def cellsP (p : Plc) : List Value := [.int .i64 p.1, .int .i64 p.2.1, .string p.2.2]
def encP (p : Plc) : Value := .agg #[.int .i64 p.1, .int .i64 p.2.1, .string p.2.2]
theorem encP_inj {p q : Plc} (h : encP p = encP q) : p = q := by
  obtain ⟨a, b, s⟩ := p
  obtain ⟨a', b', s'⟩ := q
  simp [encP] at h
  obtain ⟨rfl, rfl, rfl⟩ := h
  rfl
def dat (p : Plc) : DataW Unit := .agg [.lit (.int .i64 p.1), .lit (.int .i64 p.2.1), .lit (.string p.2.2.data.toList)]
theorem dat_inj {p q : Plc} (h : dat p = dat q) : p = q := by
  obtain ⟨a, b, ⟨⟨s⟩⟩⟩ := p
  obtain ⟨a', b', ⟨⟨s'⟩⟩⟩ := q
  simp [dat] at h
  obtain ⟨rfl, rfl, rfl⟩ := h
  rfl
def plcL (l : List Value) : Option (DataW Unit × List MemPlace) := match l with
  | [.int .i64 a, .int .i64 b, .string s] => some (dat (a, b, s), [])
  | _ => none
def plcR (v : Value) : Option (DataW Unit × List MemPlace) := match v with
  | .agg cs => plcL cs.toList
  | _ => none
theorem plcR_mk (p : Plc) : plcR (encP p) = some (dat p, []) := rfl
theorem plcL_inv {l : List Value} {z : DataW Unit × List MemPlace} (h : plcL l = some z) : ∃ p : Plc, l = [.int .i64 p.1, .int .i64 p.2.1, .string p.2.2] ∧ z = (dat p, []) := by
  unfold plcL at h
  split at h
  · rename_i a b s
    cases h
    exact ⟨(a, b, s), rfl, rfl⟩
  · cases h
theorem plcR_inv {v : Value} {z : DataW Unit × List MemPlace} (h : plcR v = some z) : ∃ p, v = encP p ∧ z = (dat p, []) := by
  unfold plcR at h
  split at h
  · rename_i cs
    obtain ⟨p, e, rfl⟩ := plcL_inv h
    refine ⟨p, ?_, rfl⟩
    unfold encP
    rw [← e]
  · cases h
def Wf (k : Int) : Prop := (Lit.int .i64 k).wf = true
theorem wf_of {k : Int} (h0 : -2 ^ 63 ≤ k) (h1 : k < 2 ^ 63) : Wf k := by
  unfold Wf
  have e1 : IntKind.i64.min = -2 ^ 63 := by decide
  have e2 : IntKind.i64.max = 2 ^ 63 - 1 := by decide
  simp only [Lit.wf, e1, e2, Bool.and_eq_true, decide_eq_true_eq]
  omega
theorem wf_fine {p : Plc} (h : FineP p) : Wf p.1 ∧ Wf p.2.1 := by
  have h1 := h.lo; have h2 := h.hi; have h3 := h.lo'; have h4 := h.hi'
  exact ⟨wf_of (by omega) (by omega), wf_of (by omega) (by omega)⟩
theorem wf_key {f : Sta} (G : Good f) {k : Int} {p : Plc} (h : f k = some p) : Wf k := by
  have := (wf_fine (G.fine k p h)).1
  rwa [G.key k p h] at this
def ReadsAs (D : DataW Unit) (f : Sta) : Prop := ∀ k, Wf k → match f k with
  | none => has D (.int .i64 k) = false
  | some p => ∀ z, D.atKey (.int .i64 k) z = dat p
theorem ReadsAs.none {D : DataW Unit} {f : Sta} (h : ReadsAs D f) {k : Int} (hk : Wf k) (hf : f k = none) : has D (.int .i64 k) = false := by
  have := h k hk; rw [hf] at this; exact this
theorem ReadsAs.some {D : DataW Unit} {f : Sta} (h : ReadsAs D f) {k : Int} (hk : Wf k) {p : Plc} (hf : f k = some p) (z : DataW Unit) : D.atKey (.int .i64 k) z = dat p := by
  have := h k hk; rw [hf] at this; exact this z
theorem ReadsAs.has {D : DataW Unit} {f : Sta} (h : ReadsAs D f) {k : Int} (hk : Wf k) : Maps.has D (.int .i64 k) = (f k).isSome := by
  cases hf : f k with
  | none => rw [h.none hk hf]; rfl
  | some p => rw [has_true_of_atKey (h.some hk hf)]; rfl
theorem ReadsAs.at {D : DataW Unit} {f : Sta} (h : ReadsAs D f) {k : Int} (hk : Wf k) : D.atKey (.int .i64 k) (dat zeroP) = dat ((f k).getD zeroP) := by
  cases hf : f k with
  | none => rw [atKey_of_not_has (h.none hk hf)]; rfl
  | some p => rw [h.some hk hf]; rfl
theorem lit_ne {a b : Int} (h : a ≠ b) : Lit.int .i64 a ≠ Lit.int .i64 b := fun e => h (by injection e)
section
variable {P : Program} {K E T : TypeId}
def MapAt (P : Program) (K : TypeId) (w : World) (b n : Nat) (f : Sta) : Prop := ∃ D, w.ownsMap P K plcR b n D ∧ ReadsAs D f
theorem MapAt.lt {w : World} {b n : Nat} {f : Sta} (h : MapAt P K w b n f) : b < w.heap.size := by
  obtain ⟨D, h, _⟩ := h; exact h.lt
theorem MapAt.mono {w : World} {b n n' : Nat} {f : Sta} (h : MapAt P K w b n f) (hn : n ≤ n') : MapAt P K w b n' f := by
  obtain ⟨D, h, r⟩ := h; exact ⟨D, h.mono hn, r⟩
theorem MapAt.same {w w' : World} {b n : Nat} {f : Sta} (h : MapAt P K w b n f) (e : w'.heap[b]? = w.heap[b]?) : MapAt P K w' b n f := by
  obtain ⟨D, ⟨es, clock, hb, F⟩, r⟩ := h
  exact ⟨D, ⟨es, clock, e.trans hb, F⟩, r⟩
theorem MapAt.block {w : World} {b n : Nat} {f : Sta} (h : MapAt P K w b n f) : ∃ es clock, w.heap[b]? = some (.map es clock) := by
  obtain ⟨D, ⟨es, clock, hb, F⟩, r⟩ := h
  exact ⟨es, clock, hb⟩
theorem mapAt_made (w : World) : MapAt P K (w.alloc (.map #[] 0)) w.heap.size 0 noSta :=
  ⟨_, World.ownsMap_made w P K plcR, fun _ _ => rfl⟩
theorem MapAt.look {w : World} {b n : Nat} {f : Sta} (h : MapAt P K w b n f) (hK : P.underlying K = some (.int .i64)) (hT : P.underlying T = some (.map K E)) (hz : (zeroValue E).run P w = .ok (encP zeroP) w) {k : Int} (hk : Wf k) :
    (Instr.lookup T (.map (some b)) (.int .i64 k) true).run P w = .ok (.tuple #[encP ((f k).getD zeroP), .bool (f k).isSome]) w := by
  obtain ⟨D, h, r⟩ := h
  obtain ⟨v, ps, hrun, hv⟩ := h.look_ok (int_keyed hK) hT hz (plcR_mk zeroP) (keyOf_int_mk hK hk)
  obtain ⟨p, rfl, hp⟩ := plcR_inv hv
  rw [r.at hk, Prod.mk.injEq] at hp
  rw [hrun, r.has hk, dat_inj hp.1]
theorem MapAt.look1 {w : World} {b n : Nat} {f : Sta} (h : MapAt P K w b n f) (hK : P.underlying K = some (.int .i64)) (hT : P.underlying T = some (.map K E)) (hz : (zeroValue E).run P w = .ok (encP zeroP) w) {k : Int} (hk : Wf k) :
    (Instr.lookup T (.map (some b)) (.int .i64 k) false).run P w = .ok (encP ((f k).getD zeroP)) w := by
  obtain ⟨D, h, r⟩ := h
  obtain ⟨v, ps, hrun, hv⟩ := h.lookup (int_keyed hK) hT hz (plcR_mk zeroP) (keyOf_int_mk hK hk)
  obtain ⟨p, rfl, hp⟩ := plcR_inv hv
  rw [r.at hk, Prod.mk.injEq] at hp
  rw [hrun, dat_inj hp.1]
theorem reads_put {D : DataW Unit} {f : Sta} (h : ReadsAs D f) (hD : IsMap D) (k : Int) (p : Plc) : ReadsAs (D.put (.int .i64 k) (dat p)) (upd f k (some p)) := by
  intro x hx
  by_cases e : x = k
  · subst e
    rw [upd_same]
    exact fun z => atKey_put_same hD (show WideAt.IsKeyLit (.int .i64 x) from trivial) _ _
  · rw [upd_other e]
    cases hf : f x with
    | none => rw [has_put_other (lit_ne e)]; exact h.none hx hf
    | some q => intro z; rw [atKey_put_other (lit_ne e)]; exact h.some hx hf z
theorem reads_del {D : DataW Unit} {f : Sta} (h : ReadsAs D f) (k : Int) : ReadsAs (D.del (.int .i64 k)) (upd f k none) := by
  intro x hx
  by_cases e : x = k
  · subst e
    rw [upd_same]
    exact has_del_same
  · rw [upd_other e]
    cases hf : f x with
    | none => rw [has_del_other (lit_ne e)]; exact h.none hx hf
    | some q => intro z; rw [atKey_del_other (lit_ne e)]; exact h.some hx hf z
theorem MapAt.store {w : World} {b n : Nat} {f : Sta} (h : MapAt P K w b n f) (hK : P.underlying K = some (.int .i64)) (hT : P.underlying T = some (.map K E)) (hn : n < maxLen) {k : Int} (hk : Wf k) (p : Plc) :
    ∃ w', (Instr.mapUpdate T (.map (some b)) (.int .i64 k) (encP p)).run P w = .ok () w' ∧ MapAt P K w' b (n + 1) (upd f k (some p)) ∧ w.mapTurned w' b := by
  obtain ⟨D, h, r⟩ := h
  obtain ⟨w', hrun, h', ht⟩ := h.store (int_keyed hK) hT hn (keyOf_int_mk hK hk) (plcR_mk p)
  exact ⟨w', hrun, ⟨_, h', reads_put r h.isMap k p⟩, ht⟩
theorem MapAt.drop {w : World} {b n : Nat} {f : Sta} (h : MapAt P K w b n f) (hK : P.underlying K = some (.int .i64)) (hT : P.underlying T = some (.map K E)) {k : Int} (hk : Wf k) (ty : TypeId) :
    ∃ w', (Builtin.delete_ #[T, K] ty #[.map (some b), .int .i64 k]).run P w = .ok (.tuple #[]) w' ∧ MapAt P K w' b n (upd f k none) ∧ w.mapTurned w' b := by
  obtain ⟨D, h, r⟩ := h
  obtain ⟨w', hrun, h', ht⟩ := h.drop (int_keyed hK) hT (keyOf_int_mk hK hk) ty
  exact ⟨w', hrun, ⟨_, h', reads_del r k⟩, ht⟩
end
end Go.Proofs.YtcggmagdndhkbaaGreatDoor
end
