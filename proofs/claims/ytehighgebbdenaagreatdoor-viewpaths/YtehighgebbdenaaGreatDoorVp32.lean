import Derived.Test.YtehighgebbdenaaGreatDoorVp05
import Derived.Test.YtehighgebbdenaaGreatDoorVp09
import Derived.Test.YtehighgebbdenaaGreatDoorVp13
import Derived.Test.YtehighgebbdenaaGreatDoorVp31
import Derived.RangeFuncNested
import Derived.RangeFuncBox
import Derived.RangeFuncLeaves
import Derived.RangeFuncCalls
section
namespace Go.Proofs.YtehighgebbdenaaGreatDoor
open scoped Classical
theorem moveV_fine {x : OpX} (h : errO x = 0) (hk : kdO x = 109) : 2 ≤ nodeO x ∧ nodeO x ≤ idO x ∧ 0 ≤ otherO x ∧ otherO x < idO x ∧ nameOk x.2.2.2.2.2.2.1.data.toList = true := by
  unfold errO opE at h
  split at h
  · unfold kindE at h
    rw [if_pos hk] at h
    unfold moveE at h
    split at h
    · cases h
    · rename_i hn
      split at h
      · cases h
      · rename_i hm
        refine ⟨?_, ?_, ?_, ?_, ?_⟩
        · show 2 ≤ x.2.2.2.2.1; omega
        · show x.2.2.2.2.1 ≤ x.1 * 4 + x.2.1; omega
        · show 0 ≤ x.2.2.2.2.2.1; omega
        · show x.2.2.2.2.2.1 < x.1 * 4 + x.2.1; omega
        · simpa using hm
  · cases h
theorem made_from : ∀ (ms : List Mov) (f : Sta) (k : Int) (p : Plc), foldS f ms k = some p → f k = some p ∨ ∃ m ∈ ms, m.2 = p ∧ p.1 = k
  | [], f, k, p, h => .inl h
  | m :: ms, f, k, p, h => by
    rcases made_from ms (step f m) k p h with q | ⟨m', hm', q⟩
    · by_cases hi : Idle f m.2
      · rw [step_idle hi] at q; exact .inl q
      · rw [step_goes hi] at q
        unfold upd at q
        split at q
        · rename_i e; have := Option.some.inj q
          exact .inr ⟨m, List.mem_cons_self, this, by rw [← this]; exact e.symm⟩
        · exact .inl q
    · exact .inr ⟨m', List.mem_cons_of_mem _ hm', q⟩
theorem some_step {f : Sta} {m : Mov} {k : Int} (h : (f k).isSome = true) : (step f m k).isSome = true := by
  by_cases hi : Idle f m.2
  · rw [step_idle hi]; exact h
  · rw [step_goes hi]; unfold upd; split
    · rfl
    · exact h
theorem some_fold : ∀ (ms : List Mov) {f : Sta} {k : Int}, (f k).isSome = true → (foldS f ms k).isSome = true
  | [], _, _, h => h
  | _ :: ms, _, _, h => some_fold ms (some_step h)
theorem ins_last {f : Sta} {of : Int} : ∀ (n : Nat) (x : Int), insF f n x of = true → ∃ k p, f k = some p ∧ p.2.1 = of
  | 0, x, h => by simp [insF] at h
  | n + 1, x, h => by
    cases hx : f x with
    | none => rw [insF_none hx] at h; cases h
    | some p =>
      rw [insF_some hx] at h
      simp only [Bool.or_eq_true, decide_eq_true_eq] at h
      rcases h with h | h
      · exact ⟨x, p, hx, h⟩
      · exact ins_last n _ h
structure Shown (f : Sta) : Prop where
  good : Good f
  two : ∀ k p, f k = some p → 2 ≤ k
  up : ∀ k p, f k = some p → p.2.1 = 0 ∨ p.2.1 = 1 ∨ (f p.2.1).isSome = true
  name : ∀ k p, f k = some p → nameOk p.2.2.data.toList = true
theorem Shown.none0 {f : Sta} (h : Shown f) : f 0 = none := by
  cases e : f 0 with
  | none => rfl
  | some p => exact absurd (h.two 0 p e) (by omega)
theorem Shown.none1 {f : Sta} (h : Shown f) : f 1 = none := by
  cases e : f 1 with
  | none => rfl
  | some p => exact absurd (h.two 1 p e) (by omega)
theorem mov_id {x : OpX} {m : Mov} (h : movO x = some m) : kdO x = 109 ∧ m = ((x.1, x.2.1), (nodeO x, otherO x, x.2.2.2.2.2.2.1)) := by
  unfold movO at h
  split at h
  · rename_i e; exact ⟨e, (Option.some.inj h).symm⟩
  · cases h
theorem mem_movs {A : List OpX} {m : Mov} (h : m ∈ movsO A) : ∃ x ∈ A, kdO x = 109 ∧ m = ((x.1, x.2.1), (nodeO x, otherO x, x.2.2.2.2.2.2.1)) := by
  obtain ⟨x, hx, e⟩ := List.mem_filterMap.1 h
  exact ⟨x, hx, mov_id e⟩
theorem stamp_id {x y : OpX} (hx : errO x = 0) (hy : errO y = 0) (h : SLt (x.1, x.2.1) (y.1, y.2.1)) : idO x < idO y := by
  have a := opE_zero hx; have b := opE_zero hy
  unfold SLt at h; unfold idO
  obtain ⟨_, _, a3, a4, _⟩ := a; obtain ⟨_, _, b3, b4, _⟩ := b
  dsimp only at h
  omega
theorem shown_of {A : List OpX} (hA : WellK A) {ms : List Mov} (hp : ms.Perm (movsO A)) (hb : ByStamp ms) (hf : ∀ m ∈ ms, FineP m.2) : Shown (madeBy ms) := by
  have G := good_made hf
  have src : ∀ k p, madeBy ms k = some p → ∃ x ∈ A, kdO x = 109 ∧ p = (nodeO x, otherO x, x.2.2.2.2.2.2.1) ∧ nodeO x = k := fun k p h => by
    rcases made_from ms noSta k p h with q | ⟨m, hm, e1, e2⟩
    · simp [noSta] at q
    · obtain ⟨x, hx, hk, e⟩ := mem_movs (hp.mem_iff.1 hm)
      refine ⟨x, hx, hk, by rw [← e1, e], ?_⟩
      rw [← e1, e] at e2; exact e2
  have known : ∀ nd, KnownN A nd → (madeBy ms nd).isSome = true := fun nd ⟨x, hx, hk, hn, hid⟩ => by
    have hm : ((x.1, x.2.1), (nodeO x, otherO x, x.2.2.2.2.2.2.1)) ∈ ms := hp.mem_iff.2 (List.mem_filterMap.2 ⟨x, hx, by unfold movO; rw [if_pos hk]⟩)
    obtain ⟨a, b, e⟩ := List.append_of_mem hm
    have hni : ¬ Idle (madeBy a) (nodeO x, otherO x, x.2.2.2.2.2.2.1) := by
      have mf := moveV_fine (hA.ok x hx) hk
      rintro (q | ⟨n, q⟩)
      · dsimp only at q; omega
      · obtain ⟨k, p, h1, h2⟩ := ins_last n _ q
        dsimp only at h2
        rcases made_from a noSta k p h1 with q' | ⟨m, hm', e1, _⟩
        · simp [noSta] at q'
        · obtain ⟨y, hy, hky, e'⟩ := mem_movs (hp.mem_iff.1 (by rw [e]; exact List.mem_append_left _ hm'))
          have my := moveV_fine (hA.ok y hy) hky
          have lt : SLt m.1 (x.1, x.2.1) := by
            unfold ByStamp at hb
            rw [e] at hb
            exact (List.pairwise_append.1 hb).2.2 m hm' _ List.mem_cons_self
          rw [e'] at lt
          have li := stamp_id (hA.ok y hy) (hA.ok x hx) lt
          rw [← e1, e'] at h2
          dsimp only at h2
          omega
    rw [e]
    show (foldS noSta (a ++ _ :: b) nd).isSome = true
    have e2 : foldS noSta (a ++ ((x.1, x.2.1), (nodeO x, otherO x, x.2.2.2.2.2.2.1)) :: b) = foldS (step (madeBy a) ((x.1, x.2.1), (nodeO x, otherO x, x.2.2.2.2.2.2.1))) b := by
      unfold madeBy foldS; rw [List.foldl_append]; rfl
    rw [e2]
    refine some_fold b ?_
    rw [step_goes hni]
    unfold upd
    rw [if_pos hn.symm]; rfl
  refine ⟨G, fun k p h => ?_, fun k p h => ?_, fun k p h => ?_⟩
  · obtain ⟨x, hx, hk, _, e⟩ := src k p h
    have := (moveV_fine (hA.ok x hx) hk).1; omega
  · obtain ⟨x, hx, hk, e, _⟩ := src k p h
    rcases (hA.refs x hx).2.1 hk with q | q | q
    · exact .inl (by rw [e]; exact q)
    · exact .inr (.inl (by rw [e]; exact q))
    · exact .inr (.inr (by rw [e]; exact known _ q))
  · obtain ⟨x, hx, hk, e, _⟩ := src k p h
    rw [e]; exact (moveV_fine (hA.ok x hx) hk).2.2.2.2
theorem Shown.ends {f : Sta} (h : Shown f) : ∀ (n : Nat) (d : Int → Nat), Ranked f d → ∀ x, d x < n → (f x).isSome = true → (Ins f x 0 ∨ Ins f x 1) ∧ ¬ (Ins f x 0 ∧ Ins f x 1)
  | 0, _, _, _, hn, _ => by omega
  | n + 1, d, hd, x, hn, hx => by
    obtain ⟨p, hp⟩ := Option.isSome_iff_exists.1 hx
    have lt := hd x p hp
    rw [ins_some hp, ins_some hp]
    rcases h.up x p hp with q | q | q
    · rw [q]
      have n1 : ¬ Ins f 0 1 := ins_none h.none0
      exact ⟨.inl (.inl rfl), fun ⟨_, k⟩ => k.elim (fun z => by omega) n1⟩
    · rw [q]
      have n1 : ¬ Ins f 1 0 := ins_none h.none1
      exact ⟨.inr (.inl rfl), fun ⟨k, _⟩ => k.elim (fun z => by omega) n1⟩
    · have ih := h.ends n d hd p.2.1 (by omega) q
      obtain ⟨r, hr⟩ := Option.isSome_iff_exists.1 q
      have n0 : p.2.1 ≠ 0 := fun e => by rw [e, h.none0] at hr; cases hr
      have n1 : p.2.1 ≠ 1 := fun e => by rw [e, h.none1] at hr; cases hr
      exact ⟨ih.1.imp .inr .inr, fun ⟨a, b⟩ => ih.2 ⟨a.resolve_left n0, b.resolve_left n1⟩⟩
theorem Shown.lost {f : Sta} (h : Shown f) {x : Int} {p : Plc} (hx : f x = some p) : Ins f x 1 ↔ ¬ Ins f x 0 := by
  obtain ⟨d, hd⟩ := h.good.rank
  have := h.ends (d x + 1) d hd x (by omega) (by rw [hx]; rfl)
  exact ⟨fun a b => this.2 ⟨b, a⟩, fun a => this.1.resolve_left a⟩
def UpL (f : Sta) : Int → List Plc → Prop
  | x, [] => f x = none
  | x, p :: l => f x = some p ∧ UpL f p.2.1 l
theorem up_exists {f : Sta} {d : Int → Nat} (hd : Ranked f d) : ∀ (n : Nat) (x : Int), d x < n → ∃ l, UpL f x l
  | 0, _, h => by omega
  | n + 1, x, h => by
    cases e : f x with
    | none => exact ⟨[], e⟩
    | some p =>
      obtain ⟨l, hl⟩ := up_exists hd n p.2.1 (by have := hd x p e; omega)
      exact ⟨p :: l, e, hl⟩
theorem up_get {f : Sta} : ∀ {l : List Plc} {x : Int}, UpL f x l → ∀ p ∈ l, f p.1 = some p ∨ ∃ y, f y = some p
  | [], _, _, _, hp => by simp at hp
  | _ :: l, x, h, p, hp => by
    rcases List.mem_cons.1 hp with e | e
    · subst e; exact .inr ⟨x, h.1⟩
    · exact up_get h.2 p e
theorem up_rank {f : Sta} {d : Int → Nat} (G : Good f) (hd : Ranked f d) : ∀ {l : List Plc} {x : Int}, UpL f x l → (∀ p ∈ l, d p.1 ≤ d x) ∧ l.Pairwise (fun a b => d b.1 < d a.1)
  | [], _, _ => ⟨fun _ h => by simp at h, List.Pairwise.nil⟩
  | p :: l, x, h => by
    have ih := up_rank G hd h.2
    have lt := hd x p h.1
    have ek := G.key x p h.1
    refine ⟨fun q hq => ?_, List.pairwise_cons.2 ⟨fun q hq => ?_, ih.2⟩⟩
    · rcases List.mem_cons.1 hq with e | e
      · rw [e, ek]; exact Nat.le_refl _
      · have := ih.1 q e; omega
    · have := ih.1 q hq; rw [ek]; omega
theorem up_len {f : Sta} (G : Good f) {L : List Plc} (hL : IsPlaces f L) {l : List Plc} {x : Int} (h : UpL f x l) : l.length ≤ L.length := by
  obtain ⟨d, hd⟩ := G.rank
  have hn : l.Nodup := (up_rank G hd h).2.imp (fun {a b} q e => by rw [e] at q; omega)
  refine hn.length_le_of_subset fun p hp => (hL.mem p).2 ?_
  rcases up_get h p hp with q | ⟨y, q⟩
  · exact q
  · rw [G.key y p q]; exact q
end Go.Proofs.YtehighgebbdenaaGreatDoor
end
section
set_option linter.unusedVariables false
set_option linter.unusedSimpArgs false
namespace Go.Proofs.YtehighgebbdenaaGreatDoor
open Go.Shelf Go.RowKit Go.Lib Go.Sort Go.Maps
open scoped Classical
structure ViewAt (w : World) (br bt bm n : Nat) (v : Value) (f : Sta) : Prop where
  ptr : w.cell? ⟨br, 6, none⟩ = some (.pointer (some ⟨bt, 0, none⟩))
  cell : TreeCell w bt bm v
  map : MapAt Tryz.prog 3 w bm n f
  small : n ≤ 100000
  shown : Shown f
theorem ViewAt.later {w w' : World} {br bt bm n : Nat} {v : Value} {f : Sta} (h : ViewAt w br bt bm n v f) (hb : Below w.heap.size w w') : ViewAt w' br bt bm n v f :=
  ⟨cellKept hb h.ptr, (hb.block bt h.cell.lt).trans h.cell, h.map.below hb h.map.lt, h.small, h.shown⟩
theorem fineQ_of {f : Sta} {L : List Plc} (h : Shown f) (hL : IsPlaces f L) : ∀ p ∈ L, FineQ p := fun p hp => by
  have k := h.good.fine p.1 p ((hL.mem p).1 hp)
  exact ⟨k.lo, k.hi, k.sz⟩
theorem treeOf_any (w : World) (br bt bm n : Nat) (v : Value) (f : Sta) (h : ViewAt w br bt bm n v f) :
    Calls Tryz.prog 89 #[.pointer (some ⟨br, 0, none⟩)] w fun e w' => e = .returned (.pointer (some ⟨bt, 0, none⟩)) ∧ w' = w := by
  have c6 := h.ptr
  have ht : Calls Tryz.prog 41 #[.pointer (some ⟨br, 0, none⟩)] w fun e w' => e = .returned (.pointer (some ⟨bt, 0, none⟩)) ∧ w' = w := by
    clear h
    go_enter Tryz.func41, Tryz.ntmps41
    go_wp2
    go_ret
    exact ⟨rfl, rfl⟩
  clear c6 h
  go_enter Tryz.func89, Tryz.ntmps89
  go_wp2_with fail
  refine ht.mono ?_
  clear ht
  rintro e w' ⟨rfl, rfl⟩
  go_wp2
  go_ret
  exact ⟨rfl, rfl⟩
theorem placesV (w : World) (br bt bm n : Nat) (v : Value) (f : Sta) (h : ViewAt w br bt bm n v f) (L : List Plc) (hL : IsPlaces f L) :
    Calls Tryz.prog 42 #[.pointer (some ⟨bt, 0, none⟩)] w fun e w' => ∃ u, e = .returned u ∧ Aside (PlsAt w' u L ∧ Below w.heap.size w w') :=
  (places_any w bt bm n v f h.shown.good h.cell h.map h.small).mono fun _ _ ⟨u, qs, h1, h2, _, h4, h5⟩ => ⟨u, h1, by rw [hL.unique h2]; exact ⟨h4, h5⟩⟩
theorem insideV (w : World) (br bt bm n : Nat) (v : Value) (f : Sta) (h : ViewAt w br bt bm n v f) (node of : Int) (hk : Wf node) :
    Calls Tryz.prog 96 #[.pointer (some ⟨bt, 0, none⟩), .int .i64 node, .int .i64 of] w fun e w' => e = .returned (.bool (decide (Ins f node of))) ∧ Below w.heap.size w w' :=
  inside_is w bt bm n f node of (decide (Ins f node of)) (by simp) h.cell.c0 h.map h.shown.good hk
set_option maxHeartbeats 2000000 in
theorem list_any (w : World) (br bt bm n : Nat) (v : Value) (f : Sta) (h : ViewAt w br bt bm n v f) (L : List Plc) (hL : IsPlaces f L) (hl : L.length ≤ 300) (i : Int) (htab : Lib.TabIs Tryz.prog w "internal/strconv.uint64pow10" .u64 Lib.pow10Tab) :
    Calls Tryz.prog 31 #[.pointer (some ⟨br, 0, none⟩), .int .i64 i] w (EntOut w L i) := by
  have HT : Aside (Lib.TabBelow Tryz.prog w.heap.size w "internal/strconv.uint64pow10" .u64 Lib.pow10Tab) := Lib.tabBelow_of_tabIs htab
  have h1 := treeOf_any w br bt bm n v f h
  have h2 := placesV w br bt bm n v f h L hL
  have HF : Aside (∀ p ∈ L, FineQ p) := fineQ_of h.shown hL
  clear h hL htab
  go_enter Tryz.func31, Tryz.ntmps31
  go_wp2_with fail
  refine h1.mono ?_
  clear h1
  rintro e w1 ⟨rfl, rfl⟩
  go_wp2_with fail
  refine h2.mono ?_
  clear h2
  rintro e w2 ⟨u, rfl, H2⟩
  have h3 := entries_any w2 u L i H2.out.1 hl HF.out (HT.out w2 H2.out.2)
  go_wp2_with fail
  refine h3.mono ?_
  clear h3
  rintro e w3 ⟨v', es, rfl, H3⟩
  go_wp2
  go_ret
  exact ⟨v', es, rfl, H3.out.1, H3.out.2.1, H2.out.2.trans (H3.out.2.2.mono H2.out.2.size)⟩
end Go.Proofs.YtehighgebbdenaaGreatDoor
end
section
set_option linter.unusedVariables false
set_option linter.unusedSimpArgs false
namespace Go.Proofs.YtehighgebbdenaaGreatDoor
open Go.RowKit Go.Lib Go.Sort
def encEV (e : Enx) : Value := .agg #[.string e.1, .int .i64 e.2]
def EnsIn (w : World) (ao : Option Addr) (es : List Enx) : Prop := es = [] ∨ ∃ g off, ao = some ⟨g, off, none⟩ ∧ ∀ j u, (flat encEn es)[j]? = some u → w.cell? ⟨g, off + j, none⟩ = some u
theorem EnsIn.later {w w' : World} {ao : Option Addr} {es : List Enx} (h : EnsIn w ao es) (hb : Below w.heap.size w w') : EnsIn w' ao es := by
  rcases h with h | ⟨g, o, h1, h2⟩
  · exact .inl h
  · exact .inr ⟨g, o, h1, fun j u hj => cellKept hb (h2 j u hj)⟩
theorem EnsAt.isIn {w : World} {v : Value} {es : List Enx} (h : EnsAt w v es) : ∃ ao cap, v = .slice ao es.length cap ∧ EnsIn w ao es := by
  rcases h with ⟨h, e⟩ | ⟨g, cap, h, _, hc⟩
  · exact ⟨none, 0, by rw [h, e]; rfl, .inl e⟩
  · exact ⟨some ⟨g, 0, none⟩, cap, h, .inr ⟨g, 0, rfl, fun j u hj => by rw [Nat.zero_add]; exact hc j u hj⟩⟩
theorem EnsIn.get {w : World} {ao : Option Addr} {es : List Enx} (h : EnsIn w ao es) {k : Nat} {p : Enx} (hk : es[k]? = some p) : ∃ g off, ao = some ⟨g, off, none⟩ ∧ w.cell? ⟨g, off + k * 2, none⟩ = some (.string p.1) ∧ w.cell? ⟨g, off + k * 2 + 1, none⟩ = some (.int .i64 p.2) := by
  rcases h with h | ⟨g, off, h1, h2⟩
  · rw [h] at hk; simp at hk
  · refine ⟨g, off, h1, ?_, ?_⟩
    · exact h2 (k * 2) _ (by have := flat_get encEn_len hk (c := 0) (by omega); rw [Nat.add_zero] at this; rw [this]; rfl)
    · rw [Nat.add_assoc]; exact h2 (k * 2 + 1) _ (by rw [flat_get encEn_len hk (by omega)]; rfl)
def PredE (g : Nat) (lb : Array Value) (xs : List Enx) (p : Enx → Bool) (base : Nat) (w : World) : Prop :=
  ∀ (W : World) (x : Enx), x ∈ xs → Below base w W → Calls Tryz.prog g (#[encEV x] ++ lb) W fun e w' => e = .returned (.bool (p x)) ∧ Below W.heap.size W w'
def IdxE (p : Enx → Bool) (zs : List Enx) (r : Int) : Prop :=
  (r = -1 ∧ ∀ x ∈ zs, p x = false) ∨ ∃ k x, r = ((k : Nat) : Int) ∧ zs[k]? = some x ∧ p x = true ∧ ∀ j y, j < k → zs[j]? = some y → p y = false
set_option maxHeartbeats 2000000 in
theorem idxEn_any (p : Enx → Bool) (g : Nat) (lb : Array Value) (eg : ∀ args w, (callFunc g args).run Tryz.prog w = .ok (.enter g args) w) (ao : Option Addr) (cap base : Nat) (zs : List Enx) (w : World) (hbase : base ≤ w.heap.size) (hp : PredE g lb zs p base w) (hbig : zs.length ≤ 1000000) (hin : EnsIn w ao zs) :
    Calls Tryz.prog 92 #[.slice ao zs.length cap, .func (.func g) #[] lb] w fun e w' => ∃ r : Int, e = .returned (.int .i64 r) ∧ Aside (IdxE p zs r ∧ Below w.heap.size w w') := by
  have HP : Aside (PredE g lb zs p base w ∧ base ≤ w.heap.size) := ⟨hp, hbase⟩
  have HI : Aside (EnsIn w ao zs) := hin
  clear hp hin hbase
  go_enter Tryz.func92, Tryz.ntmps92
  go_wp2
  go_loopg [5, 8] zs.length (fun kx _ s8 wr => ∃ (k : Nat), s8 = .int .i64 (k : Int) ∧ k ≤ zs.length ∧ zs.length - k ≤ kx ∧ Aside (Below w.heap.size w wr ∧ ∀ j l, j < k → zs[j]? = some l → p l = false))
  case atStart => exact ⟨0, rfl, Nat.zero_le _, Nat.le_refl _, ⟨Below.refl _ w, fun j l hj => by omega⟩⟩
  case round =>
    obtain ⟨k, rfl, hk, hkx, A⟩ := hrel
    by_cases hlt : k < zs.length
    · have hltz : decide ((k : Int) < (zs.length : Int)) = true := by simp; omega
      have ek : ((k : Int)).toNat = k := by omega
      have pk : (0 : Int) ≤ (k : Int) := by omega
      have bk : (k : Int) < (zs.length : Int) := by omega
      obtain ⟨⟨s, nd⟩, hl⟩ : ∃ l, Aside (zs[k]? = some l) := ⟨zs[k], List.getElem?_eq_getElem hlt⟩
      obtain ⟨blk, off, hao, r0, r1⟩ := (HI.out.later A.out.1).get hl.out
      subst hao
      dsimp only at r0 r1
      have hcall := HP.out.1 wr (s, nd) (List.mem_of_getElem? hl.out) (A.out.1.mono HP.out.2)
      unfold encEV at hcall
      dsimp only at hcall
      cases hq : p (s, nd) with
      | true =>
        rw [hq] at hcall
        have HQ := Lib.hid hq
        clear hq
        go_wp2_with (go_at_fn g; refine hcall.mono ?_; rintro e w' ⟨rfl, hb'⟩)
        go_ret
        exact ⟨_, rfl, .inr ⟨k, _, rfl, hl.out, HQ.out, A.out.2⟩, A.out.1.trans (hb'.mono A.out.1.size)⟩
      | false =>
        rw [hq] at hcall
        have HQ := Lib.hid hq
        clear hq
        go_wp2_with (go_at_fn g; refine hcall.mono ?_; rintro e w' ⟨rfl, hb'⟩)
        go_roundg (zs.length - (k + 1))
        case measure => omega
        case rel =>
          refine ⟨k + 1, by go_num, by omega, Nat.le_refl _, ⟨A.out.1.trans (hb'.mono A.out.1.size), fun j l hj e => ?_⟩⟩
          rcases Nat.lt_or_ge j k with h | h
          · exact A.out.2 j l h e
          · obtain rfl : j = k := by omega
            rw [hl.out] at e
            cases e
            exact HQ.out
    · have hltz : decide ((k : Int) < (zs.length : Int)) = false := by simp; omega
      go_wp2
      go_ret
      refine ⟨_, rfl, .inl ⟨rfl, fun l hl => ?_⟩, A.out.1⟩
      obtain ⟨j, hj, rfl⟩ := List.getElem_of_mem hl
      exact A.out.2 j _ (by omega) (List.getElem?_eq_getElem hj)
theorem named_any (W : World) (B : Nat) (q : Enx) (nm : ByteArray) (hB : W.cell? ⟨B, 0, none⟩ = some (.string nm)) :
    Calls Tryz.prog 93 (#[encEV q] ++ #[.pointer (some ⟨B, 0, none⟩)]) W fun e w' => e = .returned (.bool (decide (q.1 = nm))) ∧ Below W.heap.size W w' := by
  obtain ⟨s, n⟩ := q
  have hlt := World.block_lt_of_cell? W ⟨B, 0, none⟩ hB
  have g0 := fun o => cellKept ((Below.refl _ W).alloc (Nat.le_refl _) o) hB
  have e0 := strEq s nm
  clear hB
  unfold encEV
  dsimp only at hlt ⊢
  rw [← e0]
  clear e0
  go_enter Tryz.func93, Tryz.ntmps93
  go_wp2
  go_ret
  exact ⟨rfl, (Below.refl _ W).alloc (Nat.le_refl _) _⟩
end Go.Proofs.YtehighgebbdenaaGreatDoor
end
section
set_option linter.unusedVariables false
namespace Go.Proofs.YtehighgebbdenaaGreatDoor
open Go Go.RowKit
def StabM {σ : Type} (M : Nat → Prop) (J : σ → World → Prop) : Prop := ∀ s W W' row, J s W → W.grownBy W' row → (∀ r, row = some r → M r) → J s W'
def SeqM {α : Type} (n : Nat) (P : Program) (gf : Nat) (lb : Array Value) (M : Nat → Prop) (enc : α → Value) (Kp : World → World → Prop) (All Sp : List α → Prop) (N : Nat) (w : World) : Prop :=
  ∀ (l : Nat) (J Jx : List α → World → Prop) (W : World), Below w.heap.size w W → StabM M J → StabM M Jx →
    (∀ pre x W1, J pre W1 → pre.length < N → YieldAt Fence.wide (n - 1) P l #[enc x] W1 fun e W' => (e = .returned (.bool true) ∧ J (pre ++ [x]) W' ∧ Kp W1 W') ∨ (e = .returned (.bool false) ∧ Jx (pre ++ [x]) W')) →
    J [] W → CallsIn Fence.wide n P gf (#[.func (.yield l) #[] #[]] ++ lb) W fun e W' => (∃ v, e = .returned v) ∧ ((∃ xs, All xs ∧ J xs W') ∨ ∃ pre, Sp pre ∧ Jx pre W')
structure Book (l D : Nat) (r : Loop) (W : World) : Prop where
  loop : W.heap[l]? = some (.loop r)
  put : W.heap[D]? = some (.deferred (some []))
theorem Book.lt {l D : Nat} {r : Loop} {W : World} (h : Book l D r W) : l < W.heap.size := (Array.getElem?_eq_some_iff.1 h.loop).1
theorem Book.stab {l D : Nat} {r : Loop} {W W' : World} {row : Option Nat} {M : Nat → Prop} (h : Book l D r W) (hg : W.grownBy W' row) (hr : ∀ q, row = some q → M q) (hl : ¬ M l) (hD : ¬ M D) : Book l D r W' :=
  ⟨(hg.block l h.lt (fun e => hl (hr l e.symm))).trans h.loop, (hg.block D (Array.getElem?_eq_some_iff.1 h.put).1 (fun e => hD (hr D e.symm))).trans h.put⟩
theorem Book.kept {B l D : Nat} {r : Loop} {W W' : World} (h : Book l D r W) (hk : KeepsFrom B W W') (hl : B ≤ l) (hD : B ≤ D) : Book l D r W' := ⟨hk.same l _ hl h.loop rfl, hk.same D _ hD h.put rfl⟩
theorem Book.turn {l D : Nat} {r : Loop} {W : World} (h : Book l D r W) (hne : l ≠ D) (r' : Loop) : Book l D r' (W.putObj l (.loop r')) :=
  ⟨World.putObj_heap_same h.lt, (World.putObj_heap_other (fun e => hne e.symm)).trans h.put⟩
def OwnM {σ : Type} (B : Nat) (M : Nat → Prop) (I : σ → World → Prop) : Prop := ∀ s W W' row, I s W → W.grownBy W' row → (∀ r, row = some r → M r ∨ (B ≤ r ∧ ∃ o : Obj, W.heap[r]? = some o ∧ o.isCells = false)) → I s W'
theorem OwnM.put {σ : Type} {B : Nat} {M : Nat → Prop} {I : σ → World → Prop} (h : OwnM B M I) {s : σ} {W : World} (hs : I s W) {l : Nat} {r : Loop} (hB : B ≤ l) (hl : W.heap[l]? = some (.loop r)) (o : Obj) : I s (W.putObj l o) :=
  h s W _ (some l) hs (grownBy_putObj' W l o) (fun q e => by cases e; exact .inr ⟨hB, _, hl, rfl⟩)
section
variable {P : Program} {α : Type} {g : Operand} {ps : Array Tmp} {assign body : Code} {Q : Exit → Act → World → Prop} {a : Act} {w : World} {n gf : Nat} {lb : Array Value} {M : Nat → Prop} {enc : α → Value} {Kp : World → World → Prop} {All Sp : List α → Prop} {N : Nat}
theorem range_M (hn : 1 ≤ n) (hg : a.eval g = .func (.func gf) #[] lb) (eg : ∀ args w, (callFunc gf args).run P w = .ok (.enter gf args) w)
    (hM : ∀ r, M r → r < w.heap.size) (hseq : SeqM (n - 1) P gf lb M enc Kp All Sp N w) (hKt : ∀ {A B C : World}, Kp A B → Kp B C → Kp A C)
    (hKb : ∀ (W : World) (l : Nat) (r : Loop) (o : Obj), w.heap.size ≤ l → W.heap[l]? = some (.loop r) → Kp W (W.putObj l o)) (hps : ps.size = 1)
    (I : List α → World → Prop) (Ix : Code → List α → World → Prop) (hI : OwnM w.heap.size M I) (hIx : ∀ c, OwnM w.heap.size M (Ix c)) (h0 : I [] w)
    (Ax : α → Act → World → Prop) (hAx : ∀ x a', OwnM w.heap.size M (fun (_ : Unit) W => Ax x a' W))
    (hassign : ∀ (l : Nat) (pre : List α) (x : α) (W : World) (K : Act → World → Prop), I pre W → (∀ a' W', KeepsFrom w.heap.size W W' → Kp W W' → I pre W' → Ax x a' W' → K a' W') →
      assign.wpIn (Fence.wide.inRound l) (n - 1 - 1) P (Exit.then K (fun _ _ _ => False)) { tmps := (ps.zip #[enc x]).foldl (fun t (p, v) => t.setIfInBounds p v) a.tmps, defers := [] } W)
    (hbody : ∀ (l : Nat) (pre : List α) (x : α) (a' : Act) (W : World), w.heap.size ≤ l → I pre W → Ax x a' W → pre.length < N → body.wpIn (Fence.wide.inRound l) (n - 1 - 1) P (ownPostG w.heap.size Kp I Ix (pre ++ [x]) W) a' W)
    (hdone : ∀ (D : Nat) (xs : List α) (W : World), w.heap.size ≤ D → All xs → I xs W → W.heap[D]? = some (.deferred (some [])) → Q .normal { a with defers := { target := .collected D, args := #[] } :: a.defers } W)
    (hstop : ∀ (D : Nat) (c : Code) (pre : List α) (W : World), w.heap.size ≤ D → Sp pre → Ix c pre W → W.heap[D]? = some (.deferred (some [])) → c.wpIn Fence.wide n P Q { a with defers := { target := .collected D, args := #[] } :: a.defers } W) :
    (Code.rangeFunc g ps assign body).wpIn Fence.wide n P Q a w := by
  refine wpIn_rangeFunc fun fn hfn => ?_
  obtain ⟨D, hD⟩ : ∃ D, D = w.heap.size := ⟨_, rfl⟩
  obtain ⟨mk, hmk⟩ : ∃ mk : LoopState → Option Code → Loop, mk = fun st pe => { state := st, pending := pe, fn := fn, tmps := a.tmps, params := ps, assign := assign, body := body, defers := D } := ⟨_, rfl⟩
  obtain ⟨V, hV⟩ : ∃ V, V = (w.alloc (.deferred (some []))).alloc (.loop (mk .ready none)) := ⟨_, rfl⟩
  have hsV : V.heap.size = D + 2 := by rw [hV, hD]; simp
  have bV : Book (D + 1) D (mk .ready none) V := by
    constructor
    · have := heap_alloc_new (w.alloc (.deferred (some []))) (.loop (mk .ready none))
      rw [World.size_alloc] at this
      rw [hV, hD]; exact this
    · rw [hV, hD, Below.heap_alloc _ _ _ (by simp)]; exact heap_alloc_new w _
  have hbV : Below w.heap.size w V := by rw [hV]; exact ((Below.refl _ w).alloc (Nat.le_refl _) _).alloc (by simp) _
  have iV : I [] V := hI [] w V none h0 ⟨hbV.os, hbV.tape, hbV.output, hbV.size, fun i hi _ => hbV.block i hi⟩ (fun r e => by cases e)
  have nM1 : ¬ M (D + 1) := fun q => by have := hM _ q; omega
  have nM0 : ¬ M D := fun q => by have := hM _ q; omega
  refine ⟨D + 1, [{ target := .collected D, args := #[] }], V, { target := .fn (.func gf) lb, args := #[.func (.yield (D + 1)) #[] #[]] }, V, gf, #[.func (.yield (D + 1)) #[] #[]] ++ lb, V, ?_, ?_, ?_, ?_, fun _ => hn, ?_⟩
  · rw [hV, hmk, hD]; exact run_enterLoop_outer fn a.tmps ps assign body
  · simp only [resolve, hg]; simp [go_sem]
  · intro f' hf'; trivial
  · simp [invoke, go_sem, eg]
  refine (hseq (D + 1) (fun pre W => I pre W ∧ Book (D + 1) D (mk .ready none) W) (fun pre W => ∃ c, Ix c pre W ∧ Book (D + 1) D (mk .done (some c)) W) V hbV
    (fun s A B row hs hgr hr => ⟨hI s A B row hs.1 hgr (fun r e => .inl (hr r e)), hs.2.stab hgr hr nM1 nM0⟩)
    (fun s A B row hs hgr hr => by obtain ⟨c, h1, h2⟩ := hs; exact ⟨c, hIx c s A B row h1 hgr (fun r e => .inl (hr r e)), h2.stab hgr hr nM1 nM0⟩) ?_ ⟨iV, bV⟩).mono ?_
  · rintro pre x W ⟨hi, hb⟩ hlen
    have hy := run_yield (P := P) (args := #[enc x]) hb.loop (by rw [hmk]; exact hps.symm)
    rw [hmk] at hy
    refine ⟨fn, _, assign, body, hy, roundIn_of_wpIn hfn (hassign (D + 1) pre x W _ hi fun a' W1 hk1 hp1 hi1 hx1 => ?_)⟩
    clear hy
    have b1 := hb.kept hk1 (by omega) (by omega)
    obtain ⟨bz, hbz⟩ : ∃ bz, bz = { mk .ready none with state := .busy } := ⟨_, rfl⟩
    have e1 := run_beginRound (P := P) b1.loop (by rw [hmk])
    rw [← hbz] at e1
    have b2 : Book (D + 1) D bz (W1.putObj (D + 1) (.loop bz)) := b1.turn (by omega) bz
    have k2 : Kp W1 (W1.putObj (D + 1) (.loop bz)) := hKb W1 (D + 1) _ _ (by omega) b1.loop
    refine ⟨_, e1, wpIn_mono (hbody (D + 1) pre x a' _ (by omega) (hI.put hi1 (by omega) b1.loop _) ((hAx x a').put (s := ()) hx1 (by omega) b1.loop _) hlen) ?_⟩
    have fin : ∀ (j : Option Code) (W3 : World), KeepsFrom w.heap.size (W1.putObj (D + 1) (.loop bz)) W3 → ∃ r', r' = mk (if j.isNone then .ready else .done) j ∧ (Instr.endRound (D + 1) j).run P W3 = .ok (.bool j.isNone) (W3.putObj (D + 1) (.loop r')) ∧ Book (D + 1) D bz W3 ∧ Book (D + 1) D r' (W3.putObj (D + 1) (.loop r')) := fun j W3 k3 => by
      have b3 := b2.kept k3 (by omega) (by omega)
      have e := run_endRound (P := P) j b3.loop
      refine ⟨_, rfl, ?_, b3, b3.turn (by omega) _⟩
      rw [hbz, hmk] at e
      rw [hmk]
      exact e
    intro e a3 W3 hp
    cases e with
    | normal =>
      obtain ⟨k3, p3, i3⟩ := hp
      obtain ⟨r', hr', e3, b3, b4⟩ := fin none W3 k3
      rw [show mk (if (none : Option Code).isNone then .ready else .done) none = mk .ready none from rfl] at hr'
      exact ⟨_, _, e3, .inl ⟨rfl, ⟨hI.put i3 (by omega) b3.loop _, hr' ▸ b4⟩, hKt hp1 (hKt k2 (hKt p3 (hKb W3 (D + 1) _ _ (by omega) b3.loop)))⟩⟩
    | ret =>
      obtain ⟨k3, i3⟩ := hp
      obtain ⟨r', hr', e3, b3, b4⟩ := fin (some .ret) W3 k3
      exact ⟨_, _, e3, .inr ⟨rfl, .ret, (hIx _).put i3 (by omega) b3.loop _, hr' ▸ b4⟩⟩
    | exit id =>
      obtain ⟨k3, i3⟩ := hp
      obtain ⟨r', hr', e3, b3, b4⟩ := fin (some (.exit id)) W3 k3
      exact ⟨_, _, e3, .inr ⟨rfl, .exit id, (hIx _).put i3 (by omega) b3.loop _, hr' ▸ b4⟩⟩
    | goto t =>
      obtain ⟨k3, i3⟩ := hp
      obtain ⟨r', hr', e3, b3, b4⟩ := fin (some (.goto t)) W3 k3
      exact ⟨_, _, e3, .inr ⟨rfl, .goto t, (hIx _).put i3 (by omega) b3.loop _, hr' ▸ b4⟩⟩
    | panic ch => exact hp.elim
    | outgrown => exact hp.elim
  · rintro e W2 ⟨⟨v, rfl⟩, (⟨xs, hall, hi, hb⟩ | ⟨pre, hsp, c, hi, hb⟩)⟩
    · have e2 := run_endLoop (P := P) hb.loop (by rw [hmk]; simp)
      have b2 := hb.turn (by omega) { mk .ready none with state := .exhausted }
      refine ⟨none, _, ?_, hdone D xs _ (by omega) hall (hI.put hi (by omega) hb.loop _) b2.put⟩
      rw [hmk] at e2 ⊢
      exact e2
    · have e2 := run_endLoop (P := P) hb.loop (by rw [hmk]; simp)
      have b2 := hb.turn (by omega) { mk .done (some c) with state := .exhausted }
      refine ⟨some c, _, ?_, hstop D c pre _ (by omega) hsp ((hIx c).put hi (by omega) hb.loop _) b2.put⟩
      rw [hmk] at e2 ⊢
      exact e2
end
end Go.Proofs.YtehighgebbdenaaGreatDoor
end
