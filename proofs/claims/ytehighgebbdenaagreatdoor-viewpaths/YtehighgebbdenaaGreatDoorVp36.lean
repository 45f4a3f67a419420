import Derived.Test.YtehighgebbdenaaGreatDoorVp04
import Derived.Test.YtehighgebbdenaaGreatDoorVp05
import Derived.Test.YtehighgebbdenaaGreatDoorVp06
import Derived.Test.YtehighgebbdenaaGreatDoorVp09
import Derived.Test.YtehighgebbdenaaGreatDoorVp13
import Derived.Test.YtehighgebbdenaaGreatDoorVp14
import Derived.Test.YtehighgebbdenaaGreatDoorVp15
import Derived.Test.YtehighgebbdenaaGreatDoorVp22
import Derived.Test.YtehighgebbdenaaGreatDoorVp27
import Derived.Test.YtehighgebbdenaaGreatDoorVp29
import Derived.Test.YtehighgebbdenaaGreatDoorVp30
import Derived.Test.YtehighgebbdenaaGreatDoorVp34
import Derived.Test.YtehighgebbdenaaGreatDoorVp35
import Derived.Lib.Join
import Derived.Lib.ItoaNum
import Derived.Lib.LaidTab
import Derived.Shelf.LaysM
import Derived.Shelf.Sort.Plain
import Derived.Shelf.Slices.In.SortNone
import Derived.Test.YtehighgebbdenaaGreatDoorProg
import Derived.Sort.OwnSortedInts
import Derived.Maps.RangeWalk
import Derived.LoopTactic
import Derived.Laws.AppendOwn
section
set_option linter.unusedVariables false
set_option linter.unusedSimpArgs false
namespace Go.Proofs.YtehighgebbdenaaGreatDoor
open Go.RowKit
open scoped Classical
def layP (p : Plc) : List Plc → List Plc
  | [] => [p]
  | q :: r => if q.1 < p.1 then q :: layP p r else if q.1 = p.1 then p :: r else p :: q :: r
theorem layP_mem {p : Plc} : ∀ {L : List Plc}, L.Pairwise (fun a b => a.1 < b.1) → ∀ x, x ∈ layP p L ↔ x = p ∨ (x ∈ L ∧ x.1 ≠ p.1)
  | [], _, x => by simp [layP]
  | q :: r, h, x => by
    have hr := List.pairwise_cons.1 h
    unfold layP
    split
    · rename_i k
      rw [List.mem_cons, layP_mem hr.2 x, List.mem_cons]
      constructor
      · rintro (e | e | ⟨e, e'⟩)
        · exact .inr ⟨.inl e, by rw [e]; omega⟩
        · exact .inl e
        · exact .inr ⟨.inr e, e'⟩
      · rintro (e | ⟨e | e, e'⟩)
        · exact .inr (.inl e)
        · exact .inl e
        · exact .inr (.inr ⟨e, e'⟩)
    · rename_i k
      split
      · rename_i k'
        rw [List.mem_cons, List.mem_cons]
        constructor
        · rintro (e | e)
          · exact .inl e
          · exact .inr ⟨.inr e, by have := hr.1 x e; omega⟩
        · rintro (e | ⟨e | e, e'⟩)
          · exact .inl e
          · exact absurd (by rw [e]; exact k') e'
          · exact .inr e
      · rename_i k'
        rw [List.mem_cons, List.mem_cons]
        constructor
        · rintro (e | e | e)
          · exact .inl e
          · exact .inr ⟨.inl e, by rw [e]; omega⟩
          · exact .inr ⟨.inr e, by have := hr.1 x e; omega⟩
        · rintro (e | ⟨e | e, e'⟩)
          · exact .inl e
          · exact .inr (.inl e)
          · exact .inr (.inr e)
theorem layP_rise {p : Plc} : ∀ {L : List Plc}, L.Pairwise (fun a b => a.1 < b.1) → (layP p L).Pairwise (fun a b => a.1 < b.1)
  | [], _ => by simp [layP]
  | q :: r, h => by
    have hr := List.pairwise_cons.1 h
    unfold layP
    split
    · rename_i k
      refine List.pairwise_cons.2 ⟨fun x hx => ?_, layP_rise hr.2⟩
      rcases (layP_mem hr.2 x).1 hx with e | ⟨e, _⟩
      · rw [e]; exact k
      · exact hr.1 x e
    · rename_i k
      split
      · rename_i k'
        exact List.pairwise_cons.2 ⟨fun x hx => by have := hr.1 x hx; omega, hr.2⟩
      · rename_i k'
        refine List.pairwise_cons.2 ⟨fun x hx => ?_, h⟩
        rcases List.mem_cons.1 hx with e | e
        · rw [e]; omega
        · have := hr.1 x e; omega
theorem layP_len (p : Plc) : ∀ L : List Plc, (layP p L).length ≤ L.length + 1
  | [] => by simp [layP]
  | q :: r => by
    have := layP_len p r
    unfold layP
    split
    · simp; omega
    · split <;> simp
theorem places_fold : ∀ (ms : List Mov) (f : Sta) (L : List Plc), IsPlaces f L → (∀ k p, f k = some p → p.1 = k) → ∃ L', IsPlaces (foldS f ms) L' ∧ L'.length ≤ L.length + ms.length
  | [], f, L, h, _ => ⟨L, h, by simp⟩
  | m :: ms, f, L, h, hk => by
    by_cases hi : Idle f m.2
    · obtain ⟨L', h1, h2⟩ := places_fold ms (step f m) L (by rw [step_idle hi]; exact h) (by rw [step_idle hi]; exact hk)
      exact ⟨L', h1, by simp only [List.length_cons]; omega⟩
    · have hs : IsPlaces (step f m) (layP m.2 L) := by
        rw [step_goes hi]
        refine ⟨layP_rise h.rise, fun x => ?_⟩
        rw [layP_mem h.rise x]
        unfold upd
        by_cases e : x.1 = m.2.1
        · rw [if_pos e]
          constructor
          · rintro (q | ⟨_, q⟩)
            · rw [q]
            · exact absurd e q
          · intro q
            exact .inl (Option.some.inj q).symm
        · rw [if_neg e, ← h.mem x]
          constructor
          · rintro (q | ⟨q, _⟩)
            · exact absurd (by rw [q]) e
            · exact q
          · exact fun q => .inr ⟨q, e⟩
      obtain ⟨L', h1, h2⟩ := places_fold ms (step f m) (layP m.2 L) hs (fun k p q => by
        rw [step_goes hi] at q
        unfold upd at q
        split at q
        · rename_i e
          rw [← Option.some.inj q]; exact e.symm
        · exact hk k p q)
      refine ⟨L', h1, ?_⟩
      have := layP_len m.2 L
      simp only [List.length_cons]
      omega
theorem places_exist (ms : List Mov) : ∃ L, IsPlaces (madeBy ms) L ∧ L.length ≤ ms.length := by
  obtain ⟨L, h1, h2⟩ := places_fold ms noSta [] ⟨List.Pairwise.nil, fun p => by simp [noSta]⟩ (fun k p h => by simp [noSta] at h)
  exact ⟨L, h1, by simpa using h2⟩
theorem RepAt.view {w : World} {c : Nat → Nat} {br : Nat} {by_ : Int} {R : Rws} (h : RepAt w c br by_ R) (hl : (allR R).length ≤ 300) :
    ∃ bt bm n v ms qs, ViewAt w br bt bm n v (madeBy ms) ∧ ms.Perm (movsO (allR R)) ∧ IsPlaces (madeBy ms) qs ∧ qs.length ≤ 300 ∧ ByStamp ms := by
  obtain ⟨T, kv, bt, bx, bc, A, hm, hp, hR, _, _⟩ := h
  obtain ⟨bm, v, ms, hT, hpm, _, _, _⟩ := hm.tree
  obtain ⟨n, hn, hM⟩ := hT.map
  have hpA : ms.Perm (movsO (allR R)) := hpm.trans (hp.filterMap movO)
  have hml : ms.length ≤ 300 := by
    rw [hpA.length_eq]
    exact Nat.le_trans (List.length_filterMap_le _ _) hl
  obtain ⟨qs, hq, hql⟩ := places_exist ms
  exact ⟨bt, bm, n, v, ms, qs, ⟨hm.cell.c6, hT.cell, hM, by omega, shown_of hR.well hpA hT.by_ hT.fine⟩, hpA, hq, by omega, hT.by_⟩
end Go.Proofs.YtehighgebbdenaaGreatDoor
end
section
set_option linter.unusedVariables false
namespace Go.Proofs.YtehighgebbdenaaGreatDoor
open scoped Classical
def lineB (nd : Int) (ws : List (List UInt8)) : List UInt8 := Lib.itoa nd ++ [32] ++ Lib.join ws [32]
def placeB (p : Plc) : List UInt8 := lineB p.1 [[105, 110], Lib.itoa p.2.1, p.2.2.data.toList]
def textB (t : Int × List UInt8) : List UInt8 := lineB t.1 [[116, 101, 120, 116], t.2]
def markB (m : Mrk) : List UInt8 := lineB m.1 [[109, 97, 114, 107], m.2.1.data.toList, m.2.2.data.toList]
def fullT (t : Int × List UInt8) : Bool := decide (t.2 ≠ [])
def linesB (qs : List Plc) (ts : List (Int × List UInt8)) (ms : List Mrk) : List (List UInt8) := qs.map placeB ++ (ts.filter fullT).map textB ++ ms.map markB
structure IsTexts (A : List OpX) (ts : List (Int × List UInt8)) : Prop where
  rise : ts.Pairwise (fun a b => a.1 < b.1)
  mem : ∀ nd, nd ∈ ts.map (·.1) ↔ KnownN A nd
  line : ∀ t ∈ ts, ∃ L, LineIs A t.1 L ∧ t.2 = textL L
theorem IsTexts.perm {A B : List OpX} {ts : List (Int × List UInt8)} (h : IsTexts A ts) (e : A.Perm B) : IsTexts B ts := by
  refine ⟨h.rise, fun nd => (h.mem nd).trans ⟨fun q => q.mono (fun x hx => e.mem_iff.1 hx), fun q => q.mono (fun x hx => e.mem_iff.2 hx)⟩, fun t ht => ?_⟩
  obtain ⟨L, h1, h2⟩ := h.line t ht
  exact ⟨L, h1.perm e, h2⟩
theorem IsTexts.unique {A : List OpX} {ts us : List (Int × List UInt8)} (h : IsTexts A ts) (k : IsTexts A us) : ts = us := by
  have one : ∀ {xs ys : List (Int × List UInt8)}, IsTexts A xs → IsTexts A ys → ∀ p, p ∈ xs → p ∈ ys := fun {xs ys} hx hy p hp => by
    have : p.1 ∈ ys.map (·.1) := (hy.mem _).2 ((hx.mem _).1 (List.mem_map.2 ⟨p, hp, rfl⟩))
    obtain ⟨q, hq, e⟩ := List.mem_map.1 this
    obtain ⟨L, l1, l2⟩ := hx.line p hp
    obtain ⟨M, m1, m2⟩ := hy.line q hq
    have e' : q.1 = p.1 := e
    rw [e'] at m1
    obtain rfl := l1.unique m1
    have : q = p := Prod.ext e' (m2.trans l2.symm)
    rwa [this] at hq
  exact rise_unique (R := fun a b : Int × List UInt8 => a.1 < b.1) (fun a => Int.lt_irrefl _) (fun a b c => Int.lt_trans) h.rise k.rise (fun p => ⟨one h k p, one k h p⟩)
def StateIs (A : List OpX) (s : List UInt8) : Prop := ∃ ms qs ts A' mm, ms.Perm (movsO A) ∧ ByStamp ms ∧ IsPlaces (madeBy ms) qs ∧ IsTexts A ts ∧ A'.Perm A ∧ IsMarks (madeO A') mm ∧ s = Lib.join (linesB qs ts mm) [10]
theorem StateIs.perm {A B : List OpX} {s : List UInt8} (h : StateIs A s) (e : A.Perm B) : StateIs B s := by
  obtain ⟨ms, qs, ts, A', mm, h1, h2, h3, h4, h5, h6, h7⟩ := h
  exact ⟨ms, qs, ts, A', mm, h1.trans (e.filterMap _), h2, h3, h4.perm e, h5.trans e, h6, h7⟩
theorem WellK.oneO {A : List OpX} (h : WellK A) : OneO A := fun x hx y hy e1 e2 => h.stamp hx hy (by unfold stO; rw [e1, e2])
theorem OneO.mono {A B : List OpX} (h : OneO A) (e : ∀ x, x ∈ B → x ∈ A) : OneO B := fun x hx y hy => h x (e x hx) y (e y hy)
theorem madeO_perm {A B : List OpX} (h : OneO A) (e : A.Perm B) : madeO A = madeO B :=
  foldC_turned (fun m => (e.filterMap _).mem_iff) h.marks
theorem StateIs.unique {A : List OpX} {s t : List UInt8} (hA : WellK A) (h : StateIs A s) (k : StateIs A t) : s = t := by
  obtain ⟨ms, qs, ts, A', mm, h1, h2, h3, h4, h5, h6, rfl⟩ := h
  obtain ⟨ms', qs', ts', A'', mm', k1, k2, k3, k4, k5, k6, rfl⟩ := k
  obtain rfl := byStamp_unique (h1.trans k1.symm) h2 k2
  obtain rfl := h3.unique k3
  obtain rfl := h4.unique k4
  have e : madeO A' = madeO A'' := madeO_perm (hA.oneO.mono (fun x hx => h5.mem_iff.1 hx)) (h5.trans k5.symm)
  rw [e] at h6
  obtain rfl := h6.unique k6
  rfl
theorem StateIs.same {A B : List OpX} {s t : List UInt8} (hA : WellK A) (e : A.Perm B) (h : StateIs A s) (k : StateIs B t) : s = t := h.unique hA (k.perm e.symm)
end Go.Proofs.YtehighgebbdenaaGreatDoor
end
section
set_option linter.unusedVariables false
set_option linter.unusedSimpArgs false
namespace Go.Proofs.YtehighgebbdenaaGreatDoor
open Go.RowKit Go.Shelf Go.Maps
section
variable {P : Program} {ops : Array Oper} {Q : Exit → Act → World → Prop} {md : Region.Mode} {S : World → Prop} {z : Nat}
end
def strsV (ls : List (List UInt8)) : List Value := ls.map fun l => .string ⟨l.toArray⟩
structure TellSt (b : Nat) (ls : List (List UInt8)) (v : Value) (w : World) : Prop where
  box : Boxed w b 141 v
  row : w.ownsRow (b + 1) 9 1 v ls.length (strsV ls)
theorem TellSt.lt {b : Nat} {ls : List (List UInt8)} {v : Value} {w : World} (h : TellSt b ls v w) : b < w.heap.size := (Array.getElem?_eq_some_iff.1 h.box).1
theorem TellSt.later {b : Nat} {ls : List (List UInt8)} {v : Value} {w w' : World} (h : TellSt b ls v w) (hb : Below w.heap.size w w') : TellSt b ls v w' :=
  ⟨(hb.block b h.lt).trans h.box, ownsHeld h.row (fun g hg => hb.block g (h.row.lt g hg).2)⟩
end Go.Proofs.YtehighgebbdenaaGreatDoor
end
section
namespace Go.Proofs
open Go.Shelf
end Go.Proofs
end
section
set_option linter.unusedVariables false
namespace Go.Proofs.YtehighgebbdenaaGreatDoor
open Go.RowKit Go.Shelf Go.Maps
open scoped Classical
attribute [local go_sem] Oper.semAt_some
def AllT (f : TSta) (ks : List Int) : Prop := ks.Nodup ∧ ∀ k, k ∈ ks ↔ (f k).isSome = true
def CollT (D : DataW Unit) (f : TSta) (left : Lit → Bool) (ks : List Int) : Prop :=
  ks.Nodup ∧ (∀ k ∈ ks, (f k).isSome = true ∧ left (.int .i64 k) = false) ∧ ∀ k, Wf k → has D (.int .i64 k) = true → left (.int .i64 k) = false → k ∈ ks
theorem CollT.step {D : DataW Unit} {f : TSta} {left : Lit → Bool} {ks : List Int} (h : CollT D f left ks) {x : Int} (hl : left (.int .i64 x) = true) (hf : (f x).isSome = true) : CollT D f (fun z => left z && !z.sameKey (.int .i64 x)) (ks ++ [x]) := by
  obtain ⟨h1, h2, h3⟩ := h
  refine ⟨?_, fun p hp => ?_, fun k hw hh hlk => ?_⟩
  · rw [List.nodup_append]
    refine ⟨h1, by simp, fun a ha b hb => ?_⟩
    simp only [List.mem_singleton] at hb
    subst hb
    intro e
    subst e
    have := (h2 _ ha).2
    rw [hl] at this
    cases this
  · rcases List.mem_append.1 hp with hp | hp
    · have := h2 p hp
      exact ⟨this.1, by show (left (.int .i64 p) && _) = false; rw [this.2]; rfl⟩
    · simp only [List.mem_singleton] at hp
      subst hp
      refine ⟨hf, ?_⟩
      show (left (.int .i64 p) && !Lit.sameKey (.int .i64 p) (.int .i64 p)) = false
      rw [same_int]
      simp
  · have hlk : (left (.int .i64 k) && !Lit.sameKey (.int .i64 k) (.int .i64 x)) = false := hlk
    rw [same_int] at hlk
    by_cases e : k = x
    · subst e
      simp
    · refine List.mem_append_left _ (h3 k hw hh ?_)
      simpa [e] using hlk
theorem CollT.all {D : DataW Unit} {f : TSta} {left : Lit → Bool} {ks : List Int} (h : CollT D f left ks) (hr : ReadsT D f) (G : GoodT f) (hl : ∀ kl, left kl = false) : AllT f ks := by
  refine ⟨h.1, fun p => ⟨fun hp => (h.2.1 p hp).1, fun hp => ?_⟩⟩
  obtain ⟨q, hq⟩ := Option.isSome_iff_exists.1 hp
  have hw := G p q hq
  exact h.2.2 p hw (by rw [hr.has hw, hp]) (hl _)
theorem infoIT : (Tryz.prog.info? 3).map (fun i => (i.zero, i.size, i.bytes)) = some (some (.int .i64 0), 1, 8) := by kernel_rfl
end Go.Proofs.YtehighgebbdenaaGreatDoor
end
section
namespace Go.Proofs.YtehighgebbdenaaGreatDoor
open Go.RowKit Go.Maps
theorem emptyYes {s : ByteArray} (h : s.size = 0) : s.toList.isEmpty = true := by
  rw [ByteArray.toList_eq]
  have : s.data.toList.length = 0 := by simpa using h
  rw [List.length_eq_zero_iff.1 this]
  rfl
theorem emptyNo {s : ByteArray} (h : s.size ≠ 0) : s.toList.isEmpty = false := by
  rw [ByteArray.toList_eq]
  have : s.data.toList.length ≠ 0 := by simpa using h
  cases hs : s.data.toList with
  | nil => rw [hs] at this; simp at this
  | cons a r => rfl
end Go.Proofs.YtehighgebbdenaaGreatDoor
end
section
set_option linter.unusedVariables false
set_option linter.unusedSimpArgs false
namespace Go.Proofs.YtehighgebbdenaaGreatDoor
open Go.RowKit Go.Lib Go.Sort Go.Maps
open scoped Classical
structure StSt (w : World) (S : Nat) (W1 : World) (v0 : Value) (ls : List (List UInt8)) (v : Value) (wr : World) : Prop where
  st : TellSt S ls v wr
  below : Below S w wr
  keeps : Keeps (fun k => k = S ∨ v0.ownBlock = some k) W1 wr
  own : ∀ k, v.ownBlock = some k → v0.ownBlock = some k ∨ W1.heap.size ≤ k
theorem StSt.start {w W : World} {S : Nat} {ls : List (List UInt8)} {v : Value} (h : TellSt S ls v W) (hb : Below S w W) : StSt w S W v ls v W := ⟨h, hb, Keeps.refl _ _, fun k hk => .inl hk⟩
theorem StSt.later {w W1 wr w' : World} {S : Nat} {ls : List (List UInt8)} {v0 v : Value} (h : StSt w S W1 v0 ls v wr) (hb : Below wr.heap.size wr w') : StSt w S W1 v0 ls v w' :=
  ⟨h.st.later hb, h.below.trans (hb.mono (Nat.le_of_lt h.st.lt)), h.keeps.trans ((keeps_of_below hb).mono (fun k hk e => absurd hk (by omega))), h.own⟩
theorem StSt.kept {w W1 wr : World} {S : Nat} {ls : List (List UInt8)} {v0 v : Value} (h : StSt w S W1 v0 ls v wr) {g : Nat} (hg : g < W1.heap.size) (h1 : g ≠ S) (h2 : v0.ownBlock ≠ some g) : wr.heap[g]? = W1.heap[g]? := h.keeps.block g hg (fun e => e.elim h1 h2)
end Go.Proofs.YtehighgebbdenaaGreatDoor
end
section
set_option linter.unusedVariables false
set_option linter.unusedSimpArgs false
namespace Go.Proofs.YtehighgebbdenaaGreatDoor
open Go.RowKit Go.Lib Go.Sort Go.Maps
open scoped Classical
end Go.Proofs.YtehighgebbdenaaGreatDoor
end
section
set_option linter.unusedVariables false
set_option linter.unusedSimpArgs false
namespace Go.Proofs.YtehighgebbdenaaGreatDoor
open Go.RowKit
theorem world_at (W : World) {b : Nat} (hb : b ≤ W.heap.size) : ∃ w0 : World, w0.heap.size = b := ⟨{ W with heap := W.heap.extract 0 b }, by simp; omega⟩
theorem tmap_new {W : World} {b : Nat} (h : W.heap[b]? = some (.map #[] 0)) : TMapAt W b 0 noT := by
  obtain ⟨w0, rfl⟩ := world_at W (Nat.le_of_lt (Array.getElem?_eq_some_iff.1 h).1)
  exact (tmapAt_made w0).same (h.trans (heap_alloc_new w0 _).symm)
theorem cmap_new {W : World} {b : Nat} (h : W.heap[b]? = some (.map #[] 0)) : CMapAt W b 0 noC := by
  obtain ⟨w0, rfl⟩ := world_at W (Nat.le_of_lt (Array.getElem?_eq_some_iff.1 h).1)
  exact (cmapAt_made w0).same (h.trans (heap_alloc_new w0 _).symm)
theorem map_new {W : World} {b : Nat} (h : W.heap[b]? = some (.map #[] 0)) : MapAt Tryz.prog 3 W b 0 noSta := by
  obtain ⟨w0, rfl⟩ := world_at W (Nat.le_of_lt (Array.getElem?_eq_some_iff.1 h).1)
  exact (mapAt_made w0).same (h.trans (heap_alloc_new w0 _).symm)
def newHue (bt bm bx bc cm br : Nat) : Nat → Nat := fun k => if k = br then 1 else if k = bt ∨ k = bm then 2 else if k = bx then 3 else if k = bc ∨ k = cm then 4 else 0
def NewOut (w : World) (by_ : Int) (e : Ending) (w' : World) : Prop := ∃ c br, e = .returned (.tuple #[.pointer (some ⟨br, 0, none⟩), .nilIface]) ∧ RepOwn w.heap.size w' c br by_ (fun _ => []) ∧ Below w.heap.size w w'
theorem new_close {w W : World} {b : Int} (h0 : 0 ≤ b) (h4 : b < 4) (bt bm bx bc cm br : Nat) (hb : Below w.heap.size w W)
    (l1 : w.heap.size ≤ bt) (l2 : w.heap.size ≤ bm) (l3 : w.heap.size ≤ bx) (l4 : w.heap.size ≤ bc) (l5 : w.heap.size ≤ cm) (l6 : w.heap.size ≤ br)
    (d1 : bt ≠ br) (d2 : bm ≠ br) (d3 : bx ≠ br ∧ bx ≠ bt ∧ bx ≠ bm) (d4 : bc ≠ br ∧ bc ≠ bt ∧ bc ≠ bm ∧ bc ≠ bx) (d5 : cm ≠ br ∧ cm ≠ bt ∧ cm ≠ bm ∧ cm ≠ bx)
    (e1 : W.heap[bt]? = some (.cells #[.map (some bm), .slice none 0 0] 187 (0, 0))) (e2 : W.heap[bm]? = some (.map #[] 0)) (e3 : W.heap[bx]? = some (.map #[] 0))
    (e4 : W.heap[bc]? = some (.cells #[.map (some cm)] 193 (0, 0))) (e5 : W.heap[cm]? = some (.map #[] 0))
    (e6 : W.heap[br]? = some (.cells #[.int .i64 0, .int .i64 b, .slice none 0 0, .slice none 0 0, .slice none 0 0, .slice none 0 0, .pointer (some ⟨bt, 0, none⟩), .map (some bx), .pointer (some ⟨bc, 0, none⟩)] 70 (0, 0))) :
    NewOut w b (.returned (.tuple #[.pointer (some ⟨br, 0, none⟩), .nilIface])) W := by
  have hlt : ∀ {k : Nat} {o : Obj}, W.heap[k]? = some o → k < W.heap.size := fun h => (Array.getElem?_eq_some_iff.1 h).1
  have u1 : newHue bt bm bx bc cm br br = 1 := by unfold newHue; simp
  have u2 : newHue bt bm bx bc cm br bt = 2 := by unfold newHue; simp [d1]
  have u3 : newHue bt bm bx bc cm br bm = 2 := by unfold newHue; simp [d2]
  have u4 : newHue bt bm bx bc cm br bx = 3 := by unfold newHue; simp [d3.1, d3.2.1, d3.2.2]
  have u5 : newHue bt bm bx bc cm br bc = 4 := by unfold newHue; simp [d4.1, d4.2.1, d4.2.2.1, d4.2.2.2]
  have u6 : newHue bt bm bx bc cm br cm = 4 := by unfold newHue; simp [d5.1, d5.2.1, d5.2.2.1, d5.2.2.2]
  refine ⟨newHue bt bm bx bc cm br, br, rfl, ⟨⟨0, fun _ => .slice none 0 0, bt, bx, bc, [], ⟨e6, u1, ?_, ?_, ?_, ?_, timeO_nil⟩, by unfold allR; exact List.Perm.refl _, rowsK_nil, h0, h4⟩, fun k hk => ?_, fun k hk => ?_⟩, hb⟩
  · exact fun i hi => ⟨World.ownsRow_nil _ _ _ _, fun g hg => by cases hg⟩
  · refine ⟨bm, .slice none 0 0, [], ⟨e1, ⟨[], logTo_nil, World.ownsRow_nil _ _ _ _⟩, ⟨0, by simp, map_new e2⟩, List.Pairwise.nil, fun m hm => by simp at hm⟩, List.Perm.refl _, u2, u3, fun g hg => by cases hg⟩
  · refine ⟨0, noT, Nat.le_refl _, tmap_new e3, u4, fun nd => ⟨fun h => (by cases h), fun ⟨x, hx, _⟩ => (by cases hx)⟩, fun nd p hp => by cases hp⟩
  · exact ⟨cm, [], ⟨e4, cmap_new e5⟩, List.Perm.refl _, u5, u6⟩
  · by_cases q : k = br ∨ k = bt ∨ k = bm ∨ k = bx ∨ k = bc ∨ k = cm
    · rcases q with rfl | rfl | rfl | rfl | rfl | rfl <;> assumption
    · exact absurd (by unfold newHue; simp only [not_or] at q; simp [q.1, q.2.1, q.2.2.1, q.2.2.2.1, q.2.2.2.2.1, q.2.2.2.2.2]) hk
  · have := hlt e1; have := hlt e2; have := hlt e3; have := hlt e4; have := hlt e5; have := hlt e6
    unfold newHue
    rw [if_neg (by omega), if_neg (by omega), if_neg (by omega), if_neg (by omega)]
end Go.Proofs.YtehighgebbdenaaGreatDoor
end
section
set_option linter.unusedVariables false
set_option linter.unusedSimpArgs false
namespace Go.Proofs.YtehighgebbdenaaGreatDoor
open Go.RowKit Go.Lib Go.Sort Go.Maps
theorem heap_al (w : World) (o : Obj) : (w.alloc o).heap = w.heap.push o := rfl
theorem heap_dr (w : World) : w.drew.heap = w.heap := rfl
set_option maxRecDepth 100000 in
set_option maxHeartbeats 8000000 in
theorem rnew_ok (w : World) (b : Int) (h0 : 0 ≤ b) (h4 : b < 4) :
    Calls Tryz.prog 7 #[.int .i64 b] w (NewOut w b) := by
  have hmm := @run_makeMap Tryz.prog
  have hc := new_ok b w h0 h4
  go_enter Tryz.func7, Tryz.ntmps7
  go_wp2_with fail
  refine hc.mono ?_
  clear hc
  rintro e w1 ⟨rfl, rfl⟩
  go_upto_region 4 with fail
  go_region_with (first | (go_at_call 46; refine (treeNew _).mono ?_; rintro e w' ⟨rfl, rfl⟩) | (go_at_call 47; refine (cellsNew _).mono ?_; rintro e w' ⟨rfl, rfl⟩))
  all_goals (go_wp2; go_ret2)
  all_goals (first
    | (refine new_close h0 h4 (w.heap.size + 1 + 1) (w.heap.size + 1) (w.heap.size + 1 + 1 + 1 + 1 + 1) (w.heap.size + 1 + 1 + 1 + 1) (w.heap.size + 1 + 1 + 1) (w.heap.size + 1 + 1 + 1 + 1 + 1 + 1) ?_ (by omega) (by omega) (by omega) (by omega) (by omega) (by omega) (by omega) (by omega) (by omega) (by omega) (by omega) ?_ ?_ ?_ ?_ ?_ ?_; all_goals (first | (simp only [heap_al, heap_dr, Array.getElem?_push, Array.size_push]; (try (repeat first | rw [if_pos trivial] | rw [if_neg (by omega)] | rfl)); done) | ((repeat first | exact Below.refl _ _ | refine Below.drew ?_ | refine Below.alloc ?_ (by simp <;> omega) _); done)))
    | (refine new_close h0 h4 (w.heap.size + 1 + 1) (w.heap.size + 1) (w.heap.size + 1 + 1 + 1) (w.heap.size + 1 + 1 + 1 + 1 + 1) (w.heap.size + 1 + 1 + 1 + 1) (w.heap.size + 1 + 1 + 1 + 1 + 1 + 1) ?_ (by omega) (by omega) (by omega) (by omega) (by omega) (by omega) (by omega) (by omega) (by omega) (by omega) (by omega) ?_ ?_ ?_ ?_ ?_ ?_; all_goals (first | (simp only [heap_al, heap_dr, Array.getElem?_push, Array.size_push]; (try (repeat first | rw [if_pos trivial] | rw [if_neg (by omega)] | rfl)); done) | ((repeat first | exact Below.refl _ _ | refine Below.drew ?_ | refine Below.alloc ?_ (by simp <;> omega) _); done)))
    | (refine new_close h0 h4 (w.heap.size + 1 + 1 + 1) (w.heap.size + 1 + 1) (w.heap.size + 1) (w.heap.size + 1 + 1 + 1 + 1 + 1) (w.heap.size + 1 + 1 + 1 + 1) (w.heap.size + 1 + 1 + 1 + 1 + 1 + 1) ?_ (by omega) (by omega) (by omega) (by omega) (by omega) (by omega) (by omega) (by omega) (by omega) (by omega) (by omega) ?_ ?_ ?_ ?_ ?_ ?_; all_goals (first | (simp only [heap_al, heap_dr, Array.getElem?_push, Array.size_push]; (try (repeat first | rw [if_pos trivial] | rw [if_neg (by omega)] | rfl)); done) | ((repeat first | exact Below.refl _ _ | refine Below.drew ?_ | refine Below.alloc ?_ (by simp <;> omega) _); done))))
end Go.Proofs.YtehighgebbdenaaGreatDoor
end
section
set_option linter.unusedVariables false
set_option linter.unusedSimpArgs false
namespace Go.Proofs.YtehighgebbdenaaGreatDoor
open Go.RowKit Go.Lib Go.Sort Go.Maps
end Go.Proofs.YtehighgebbdenaaGreatDoor
end
section
set_option linter.unusedVariables false
set_option linter.unusedSimpArgs false
namespace Go.Proofs.YtehighgebbdenaaGreatDoor
open Go.RowKit Go.Lib Go.Sort Go.Maps
def PredB (g : Nat) (lb : Array Value) (xs : List OpX) (p : OpX → Bool) (base : Nat) (w : World) : Prop :=
  ∀ (W : World) (x : OpX), x ∈ xs → Below base w W → Calls Tryz.prog g (#[encO x] ++ lb) W fun e w' => e = .returned (.bool (p x)) ∧ Below W.heap.size W w'
theorem PredB.toO {g : Nat} {lb : Array Value} {xs : List OpX} {p : OpX → Bool} {base : Nat} {w : World} (h : PredB g lb xs p base w) (hb : base ≤ w.heap.size) : PredO g lb xs p w := fun W x hx hW => (h W x hx (hW.mono hb)).mono (by rintro e w' ⟨rfl, q⟩; exact ⟨rfl, hW.trans (q.mono hW.size)⟩)
theorem OwnAt.ops {w : World} {g : Nat} {ys : List OpX} (h : OwnAt w g ys) : OpsIn w (some ⟨g, 0, none⟩) ys := .inr ⟨g, 0, rfl, fun j u hj => by rw [Nat.zero_add]; exact h.cell j u hj⟩
theorem OwnAt.take {w : World} {g : Nat} {cs : List OpX} (h : OwnAt w g cs) {i : Nat} (hi : i ≤ cs.length) (vs : List Value) : OwnAt (w.setCells g (i * 8) vs) g (cs.take i) := by
  have hlen : (cs.take i).length = i := by simp; omega
  constructor
  · intro j u hj
    have hl : j < (cellsOf (cs.take i)).length := (List.getElem?_eq_some_iff.1 hj).1
    rw [cellsOf_len, hlen] at hl
    rw [World.cell?_setCells_out g vs (i * 8) w ⟨g, j, none⟩ (fun _ _ => .inl (by show j < i * 8; omega))]
    refine h.cell j u ?_
    have e : cellsOf cs = cellsOf (cs.take i) ++ cellsOf (cs.drop i) := by rw [← cellsOf_app, List.take_append_drop]
    rw [e, List.getElem?_append_left (by rw [cellsOf_len, hlen]; omega)]
    exact hj
  · intro j hj
    rw [hlen] at hj
    rw [World.frozen?_setCells]
    exact h.free j (by omega)
structure DelSt (p : OpX → Bool) (ys : List OpX) (i j : Nat) (cs : List OpX) : Prop where
  lt : i < j
  le : j ≤ ys.length
  len : cs.length = ys.length
  stay : cs.take i = (ys.take j).filter (fun x => !p x)
  rest : cs.drop j = ys.drop j
theorem DelSt.start {p : OpX → Bool} {ys : List OpX} {k : Nat} {x : OpX} (hx : ys[k]? = some x) (hp : p x = true) (hk : ∀ j y, j < k → ys[j]? = some y → p y = false) : DelSt p ys k (k + 1) ys := by
  have hl : k < ys.length := (List.getElem?_eq_some_iff.1 hx).1
  refine ⟨by omega, by omega, rfl, ?_, rfl⟩
  rw [List.take_add_one, hx, List.filter_append]
  have e1 : (ys.take k).filter (fun x => !p x) = ys.take k := List.filter_eq_self.2 (fun a ha => by
    obtain ⟨q, hq, e⟩ := List.getElem_of_mem ha
    rw [List.length_take] at hq
    rw [List.getElem_take] at e
    rw [hk q a (by omega) (by rw [← e]; exact List.getElem?_eq_getElem (by omega))]
    rfl)
  rw [e1]
  simp [hp]
theorem DelSt.get {p : OpX → Bool} {ys cs : List OpX} {i j : Nat} (h : DelSt p ys i j cs) {x : OpX} (hx : ys[j]? = some x) : cs[j]? = some x := by
  have := congrArg (fun l => l[0]?) h.rest
  simp only [List.getElem?_drop, Nat.add_zero] at this
  rw [this, hx]
theorem DelSt.skip {p : OpX → Bool} {ys cs : List OpX} {i j : Nat} (h : DelSt p ys i j cs) {x : OpX} (hx : ys[j]? = some x) (hp : p x = true) : DelSt p ys i (j + 1) cs := by
  have hl : j < ys.length := (List.getElem?_eq_some_iff.1 hx).1
  refine ⟨by have := h.lt; omega, by omega, h.len, ?_, ?_⟩
  · rw [List.take_add_one, hx, List.filter_append, h.stay]
    simp [hp]
  · have := congrArg (List.drop 1) h.rest
    simpa [List.drop_drop, Nat.add_comm] using this
theorem DelSt.keep {p : OpX → Bool} {ys cs : List OpX} {i j : Nat} (h : DelSt p ys i j cs) {x : OpX} (hx : ys[j]? = some x) (hp : p x = false) : DelSt p ys (i + 1) (j + 1) (cs.set i x) := by
  have hl : j < ys.length := (List.getElem?_eq_some_iff.1 hx).1
  have hlt := h.lt
  have hlen := h.len
  refine ⟨by omega, by omega, by rw [List.length_set]; exact h.len, ?_, ?_⟩
  · rw [List.take_add_one (l := ys), hx, List.filter_append, ← h.stay, List.take_add_one, List.getElem?_set_self (by omega), List.take_set_of_le (Nat.le_refl _)]
    simp [hp]
  · rw [List.drop_set_of_lt (by omega)]
    have := congrArg (List.drop 1) h.rest
    simpa [List.drop_drop, Nat.add_comm] using this
end Go.Proofs.YtehighgebbdenaaGreatDoor
end
section
set_option linter.unusedVariables false
set_option linter.unusedSimpArgs false
namespace Go.Proofs.YtehighgebbdenaaGreatDoor
open Go.RowKit Go.Lib Go.Sort Go.Maps
abbrev zeroOpV : Value := .agg #[.int .i64 0, .int .i64 0, .int .i64 0, .int .u8 0, .int .i64 0, .int .i64 0, .string ⟨#[]⟩, .string ⟨#[]⟩]
theorem zero_size : zeroOpV.cells.size = 8 := rfl
def zeroRow (n : Nat) : List Value := (Builtin.zeroCells zeroOpV.cells n).toList
theorem zero_one (n : Nat) : ∀ v ∈ (Builtin.zeroCells zeroOpV.cells n).toList, v.oneCell' = true := by
  intro v hv
  unfold Builtin.zeroCells at hv
  rw [Array.toList_map, List.mem_map] at hv
  obtain ⟨a, _, rfl⟩ := hv
  rw [zero_size]
  have h8 : a % 8 < 8 := Nat.mod_lt _ (by omega)
  have key : ∀ q, q < 8 → (zeroOpV.cells[q]!).oneCell' = true := fun q hq => by
    match q, hq with
    | 0, _ => rfl
    | 1, _ => rfl
    | 2, _ => rfl
    | 3, _ => rfl
    | 4, _ => rfl
    | 5, _ => rfl
    | 6, _ => rfl
    | 7, _ => rfl
  exact key _ h8
structure EightW (w : World) (g a : Nat) (x : OpX) : Prop where
  c0 : w.cell? ⟨g, a, none⟩ = some (.int .i64 x.1)
  c1 : w.cell? ⟨g, a + 1, none⟩ = some (.int .i64 x.2.1)
  c2 : w.cell? ⟨g, a + 2, none⟩ = some (.int .i64 x.2.2.1)
  c3 : w.cell? ⟨g, a + 3, none⟩ = some (.int .u8 (x.2.2.2.1 : Int))
  c4 : w.cell? ⟨g, a + 4, none⟩ = some (.int .i64 x.2.2.2.2.1)
  c5 : w.cell? ⟨g, a + 5, none⟩ = some (.int .i64 x.2.2.2.2.2.1)
  c6 : w.cell? ⟨g, a + 6, none⟩ = some (.string x.2.2.2.2.2.2.1)
  c7 : w.cell? ⟨g, a + 7, none⟩ = some (.string x.2.2.2.2.2.2.2)
  f0 : w.frozen? ⟨g, a, none⟩ = false
  f1 : w.frozen? ⟨g, a + 1, none⟩ = false
  f2 : w.frozen? ⟨g, a + 2, none⟩ = false
  f3 : w.frozen? ⟨g, a + 3, none⟩ = false
  f4 : w.frozen? ⟨g, a + 4, none⟩ = false
  f5 : w.frozen? ⟨g, a + 5, none⟩ = false
  f6 : w.frozen? ⟨g, a + 6, none⟩ = false
  f7 : w.frozen? ⟨g, a + 7, none⟩ = false
theorem OwnAt.eight {w : World} {g : Nat} {cs : List OpX} (h : OwnAt w g cs) {i : Nat} {x : OpX} (hi : cs[i]? = some x) : EightW w g (i * 8) x := by
  have hl : i < cs.length := (List.getElem?_eq_some_iff.1 hi).1
  have e0 := h.at hi (c := 0) rfl
  rw [Nat.add_zero] at e0
  exact ⟨e0, h.at hi (c := 1) rfl, h.at hi (c := 2) rfl, h.at hi (c := 3) rfl, h.at hi (c := 4) rfl, h.at hi (c := 5) rfl, h.at hi (c := 6) rfl, h.at hi (c := 7) rfl, h.free _ (by omega), h.free _ (by omega), h.free _ (by omega), h.free _ (by omega), h.free _ (by omega), h.free _ (by omega), h.free _ (by omega), h.free _ (by omega)⟩
theorem set8 (w : World) (g a : Nat) (t b m : Int) (kd : Nat) (nd o : Int) (s u : ByteArray) : ((((((((w.setCell ⟨g, a, none⟩ (.int .i64 t)).setCell ⟨g, a + 1, none⟩ (.int .i64 b)).setCell ⟨g, a + 2, none⟩ (.int .i64 m)).setCell ⟨g, a + 3, none⟩ (.int .u8 (kd : Int))).setCell ⟨g, a + 4, none⟩ (.int .i64 nd)).setCell ⟨g, a + 5, none⟩ (.int .i64 o)).setCell ⟨g, a + 6, none⟩ (.string s)).setCell ⟨g, a + 7, none⟩ (.string u)) = w.setCells g a (encX (t, b, m, kd, nd, o, s, u)) := rfl
def DelOut (w : World) (g cap base : Nat) (zs : List OpX) (e : Ending) (w' : World) : Prop := e = .returned (.slice (some ⟨g, 0, none⟩) zs.length cap) ∧ OwnAt w' g zs ∧ Below base w w'
set_option maxRecDepth 100000 in
set_option maxHeartbeats 8000000 in
theorem delOps_any (p : OpX → Bool) (gf : Nat) (lb : Array Value) (eg : ∀ args w, (callFunc gf args).run Tryz.prog w = .ok (.enter gf args) w) (g cap base : Nat) (ys : List OpX) (w : World) (hbg : base ≤ g) (hbw : base ≤ w.heap.size) (hgw : g < w.heap.size) (hp : PredB gf lb ys p base w) (hn : ys.length ≤ 1000) (hc1 : ys.length ≤ cap) (hc2 : cap ≤ maxLen) (hO : OwnAt w g ys) :
    Calls Tryz.prog 83 #[.slice (some ⟨g, 0, none⟩) ys.length cap, .func (.func gf) #[] lb] w (DelOut w g cap base (ys.filter (fun x => !p x))) := by
  have hidx := idxOps_any p gf lb eg (some ⟨g, 0, none⟩) cap ys w (hp.toO hbw) (by omega) hO.ops
  have H : Aside (PredB gf lb ys p base w ∧ OwnAt w g ys ∧ base ≤ g ∧ base ≤ w.heap.size ∧ g < w.heap.size) := ⟨hp, hO, hbg, hbw, hgw⟩
  clear hp hO hbg hbw hgw
  have hc63 : (cap : Int) ≤ 9223372036854775807 := by simp only [maxLen] at hc2; omega
  clear hc2
  go_enter Tryz.func83, Tryz.ntmps83
  go_wp2_with fail
  refine hidx.mono ?_
  clear hidx
  rintro e w1 ⟨r, rfl, HR⟩
  rcases HR.out.1 with ⟨hr, ha⟩ | ⟨k, x, hr, hx, hpx, hfst⟩
  · subst hr
    have HF : Aside (ys.filter (fun x => !p x) = ys) := List.filter_eq_self.2 (fun a h => by rw [ha a h]; rfl)
    clear ha
    go_wp2
    go_ret
    unfold DelOut
    rw [HF.out]
    exact ⟨rfl, H.out.2.1.same (HR.out.2.block g H.out.2.2.2.2), HR.out.2.mono H.out.2.2.2.1⟩
  · have hkl : k < ys.length := (List.getElem?_eq_some_iff.1 hx).1
    have d0 : decide (((k : Nat) : Int) = -1) = false := by simp
    have H1 : Aside (DelSt p ys k (k + 1) ys ∧ OwnAt w1 g ys ∧ Below base w w1) := ⟨DelSt.start hx hpx hfst, H.out.2.1.same (HR.out.2.block g H.out.2.2.2.2), HR.out.2.mono H.out.2.2.2.1⟩
    subst hr
    clear hx hpx hfst HR
    go_wp2
    go_loopg [5, 6] ys.length (fun kx s5 s6 wr => ∃ (i j : Nat) (cs : List OpX), s5 = .int .i64 (i : Int) ∧ s6 = .int .i64 (j : Int) ∧ ys.length - j ≤ kx ∧ Aside (DelSt p ys i j cs ∧ OwnAt wr g cs ∧ Below base w wr))
    case atStart => exact ⟨k, k + 1, ys, rfl, by simp, by omega, H1.out⟩
    case round =>
      obtain ⟨i, j, cs, rfl, rfl, hkx, A⟩ := hrel
      have hij := A.out.1.lt
      have hjl := A.out.1.le
      have hcl := A.out.1.len
      by_cases hlt : j < ys.length
      · have hltz : decide ((j : Int) < (ys.length : Int)) = true := by simp; omega
        have hgw : g < wr.heap.size := Nat.lt_of_lt_of_le H.out.2.2.2.2 A.out.2.2.size
        have hbr := A.out.2.2.size
        have hbw := H.out.2.2.2.1
        have ej : ((j : Int)).toNat = j := by omega
        have pj : (0 : Int) ≤ (j : Int) := by omega
        have bj : (j : Int) < (ys.length : Int) := by omega
        obtain ⟨⟨t, b, m, kd, nd, o, s, u⟩, hl⟩ : ∃ l, Aside (ys[j]? = some l) := ⟨ys[j], List.getElem?_eq_getElem hlt⟩
        obtain ⟨r0, r1, r2, r3, r4, r5, r6, r7, -, -, -, -, -, -, -, -⟩ := A.out.2.1.eight (A.out.1.get hl.out)
        dsimp only at r0 r1 r2 r3 r4 r5 r6 r7
        have hbW : Below wr.heap.size wr (wr.alloc (.cells #[.int .i64 t, .int .i64 b, .int .i64 m, .int .u8 (kd : Int), .int .i64 nd, .int .i64 o, .string s, .string u] 38)) := (Below.refl _ wr).alloc (Nat.le_refl _) _
        have hBW : Below base w (wr.alloc (.cells #[.int .i64 t, .int .i64 b, .int .i64 m, .int .u8 (kd : Int), .int .i64 nd, .int .i64 o, .string s, .string u] 38)) := A.out.2.2.trans (hbW.mono (by omega))
        have hcall := H.out.1 _ (t, b, m, kd, nd, o, s, u) (List.mem_of_getElem? hl.out) hBW
        have HW : Aside (OpBlk (wr.alloc (.cells #[.int .i64 t, .int .i64 b, .int .i64 m, .int .u8 (kd : Int), .int .i64 nd, .int .i64 o, .string s, .string u] 38)) wr.heap.size (t, b, m, kd, nd, o, s, u) ∧ OwnAt (wr.alloc (.cells #[.int .i64 t, .int .i64 b, .int .i64 m, .int .u8 (kd : Int), .int .i64 nd, .int .i64 o, .string s, .string u] 38)) g cs ∧ Below base w (wr.alloc (.cells #[.int .i64 t, .int .i64 b, .int .i64 m, .int .u8 (kd : Int), .int .i64 nd, .int .i64 o, .string s, .string u] 38)) ∧ g < wr.heap.size) := ⟨OpBlk.new wr (t, b, m, kd, nd, o, s, u), A.out.2.1.same (hbW.block g hgw), hBW, hgw⟩
        clear hbW hBW
        unfold encO at hcall
        dsimp only at hcall
        cases hq : p (t, b, m, kd, nd, o, s, u) with
        | true =>
          rw [hq] at hcall
          have HQ := Lib.hid hq
          clear hq
          go_wp2_with (go_at_fn gf; refine hcall.mono ?_; rintro e w' ⟨rfl, hb'⟩)
          go_roundg (ys.length - (j + 1))
          case measure => omega
          case rel =>
            have hsz : (wr.alloc (.cells #[.int .i64 t, .int .i64 b, .int .i64 m, .int .u8 (kd : Int), .int .i64 nd, .int .i64 o, .string s, .string u] 38)).heap.size = wr.heap.size + 1 := by simp
            exact ⟨i, j + 1, cs, rfl, by go_num, Nat.le_refl _, ⟨A.out.1.skip hl.out HQ.out, HW.out.2.1.same (hb'.block g (by omega)), HW.out.2.2.1.trans (hb'.mono (by omega))⟩⟩
        | false =>
          rw [hq] at hcall
          have HQ := Lib.hid hq
          clear hq
          have ei : ((i : Int)).toNat = i := by omega
          have pi : (0 : Int) ≤ (i : Int) := by omega
          have bi : (i : Int) < (ys.length : Int) := by omega
          obtain ⟨z, hz⟩ : ∃ z, Aside (cs[i]? = some z) := ⟨cs[i], List.getElem?_eq_getElem (by omega)⟩
          go_wp2_with (go_at_fn gf; refine hcall.mono ?_; rintro e w' ⟨rfl, hb'⟩; obtain ⟨q0, q1, q2, q3, q4, q5, q6, q7, -⟩ := (HW.out.1.later hb').cells; dsimp only at q0 q1 q2 q3 q4 q5 q6 q7; obtain ⟨y0, y1, y2, y3, y4, y5, y6, y7, f0, f1, f2, f3, f4, f5, f6, f7⟩ := (HW.out.2.1.same (hb'.block g (by rw [World.size_alloc]; omega))).eight hz.out)
          have hsz : (wr.alloc (.cells #[.int .i64 t, .int .i64 b, .int .i64 m, .int .u8 (kd : Int), .int .i64 nd, .int .i64 o, .string s, .string u] 38)).heap.size = wr.heap.size + 1 := by simp
          have HE : Aside (OwnAt w' g cs ∧ Below base w w') := ⟨HW.out.2.1.same (hb'.block g (by omega)), HW.out.2.2.1.trans (hb'.mono (by omega))⟩
          clear hsz hb' q0 q1 q2 q3 q4 q5 q6 q7 y0 y1 y2 y3 y4 y5 y6 y7 f0 f1 f2 f3 f4 f5 f6 f7 r0 r1 r2 r3 r4 r5 r6 r7 hcall
          go_roundg (ys.length - (j + 1))
          case measure => omega
          case rel =>
            rw [set8 w' g (i * 8) t b m kd nd o s u]
            refine ⟨i + 1, j + 1, cs.set i (t, b, m, kd, nd, o, s, u), ?_, ?_, Nat.le_refl _, ?_⟩
            · go_num
            · go_num
            · exact ⟨A.out.1.keep hl.out HQ.out, HE.out.1.set (by omega) (t, b, m, kd, nd, o, s, u), HE.out.2.trans ((setCells_keeps g (encX (t, b, m, kd, nd, o, s, u)) (i * 8) w').below (Nat.le_trans H.out.2.2.2.1 HE.out.2.size) (fun k e => by have := H.out.2.2.1; omega))⟩
      · have hltz : decide ((j : Int) < (ys.length : Int)) = false := by simp; omega
        have hltn : decide (j < ys.length) = false := by simp; omega
        have hgw : g < wr.heap.size := Nat.lt_of_lt_of_le H.out.2.2.2.2 A.out.2.2.size
        have ei : ((i : Int)).toNat = i := by omega
        have pi : (0 : Int) ≤ (i : Int) := by omega
        have bi : (i : Int) ≤ (ys.length : Int) := by omega
        have bi2 : (i : Int) ≤ (cap : Int) := by omega
        have bl : (ys.length : Int) ≤ (cap : Int) := by omega
        have hclear : ∀ ty, (Builtin.clear_ #[32] ty #[.slice (some ⟨g, i * 8, none⟩) (ys.length - i) (cap - i)]).run Tryz.prog wr = .ok (.tuple #[]) (wr.setCells g (i * 8) (zeroRow (ys.length - i))) := fun ty => run_clear_cells (P := Tryz.prog) wr 32 38 ty _ Tryz.underlying32 Tryz.zeroValue38 g (i * 8) (ys.length - i) (cap - i) (by omega) (zero_one _) (fun q hq => A.out.2.1.has (by rw [zero_size] at hq; omega)) (fun q hq => A.out.2.1.free _ (by rw [zero_size] at hq; omega))
        go_wp2
        go_ret
        have st := A.out.1.stay
        have ejl : j = ys.length := by omega
        rw [ejl, List.take_length] at st
        have hil : (cs.take i).length = i := by rw [List.length_take]; omega
        unfold DelOut
        rw [← st, hil]
        exact ⟨rfl, A.out.2.1.take (by omega) _, A.out.2.2.trans ((setCells_keeps g (zeroRow (ys.length - i)) (i * 8) wr).below (Nat.le_trans H.out.2.2.2.1 A.out.2.2.size) (fun k e => by have := H.out.2.2.1; omega))⟩
end Go.Proofs.YtehighgebbdenaaGreatDoor
end
