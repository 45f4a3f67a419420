/- maps.Values at a map of places: the iterator's contract. -/
import Derived.Test.YtnfhbmgkiknaaaaDoorTreeFind
import Derived.Maps.RangeWalk
import Derived.Sort.MapsRangeIn
import Derived.RangeFuncMany
namespace Go.Proofs.YtnfhbmgkiknaaaaDoor
open Go.RowKit Go.Shelf Go.Maps
open scoped Classical

attribute [local go_sem] Oper.semAt_some

/-- All that lie in something, each once. -/
def AllP (f : Sta) (ps : List Plc) : Prop := (ps.map (·.1)).Nodup ∧ ∀ p, p ∈ ps ↔ f p.1 = some p
theorem AllP.places {f : Sta} {ps qs : List Plc} (h : AllP f ps) (hp : qs.Perm ps) (hs : qs.Pairwise (fun a b => ¬ b.1 < a.1)) : IsPlaces f qs := by
  refine ⟨?_, fun p => (hp.mem_iff).trans (h.2 p)⟩
  have hn : (qs.map (·.1)).Nodup := (hp.map _).nodup_iff.2 h.1
  have hn' : qs.Pairwise (fun a b => a.1 ≠ b.1) := List.pairwise_map.1 hn
  exact (hs.and hn').imp (fun {a b} h => by have h1 := h.1; have h2 := h.2; omega)

/-- What has come so far. -/
def CollP (D : DataW Unit) (f : Sta) (left : Lit → Bool) (ps : List Plc) : Prop :=
  (ps.map (·.1)).Nodup ∧ (∀ p ∈ ps, f p.1 = some p ∧ left (.int .i64 p.1) = false) ∧ ∀ k, Wf k → has D (.int .i64 k) = true → left (.int .i64 k) = false → k ∈ ps.map (·.1)
theorem collP_start (D : DataW Unit) (f : Sta) : CollP D f (has D) [] := ⟨List.nodup_nil, fun p hp => by simp at hp, fun k _ h1 h2 => by rw [h1] at h2; cases h2⟩
theorem same_int (a b : Int) : Lit.sameKey (.int .i64 a) (.int .i64 b) = decide (a = b) := by
  by_cases h : a = b
  · subst h
    rw [WideAt.sameKey_self (show WideAt.IsKeyLit (.int .i64 a) from trivial)]
    simp
  · rw [sameKey_ne (lit_ne h)]
    simp [h]
theorem CollP.step {D : DataW Unit} {f : Sta} {left : Lit → Bool} {ps : List Plc} (h : CollP D f left ps) {x : Int} {c : Plc} (hl : left (.int .i64 x) = true) (hf : f x = some c) (hk : c.1 = x) : CollP D f (fun z => left z && !z.sameKey (.int .i64 x)) (ps ++ [c]) := by
  obtain ⟨h1, h2, h3⟩ := h
  refine ⟨?_, fun p hp => ?_, fun k hw hh hlk => ?_⟩
  · rw [List.map_append, List.nodup_append]
    refine ⟨h1, by simp, fun a ha b hb => ?_⟩
    simp only [List.map_cons, List.map_nil, List.mem_singleton] at hb
    subst hb
    intro e
    obtain ⟨p, hp, rfl⟩ := List.mem_map.1 ha
    have := (h2 p hp).2
    rw [e, hk, hl] at this
    cases this
  · rcases List.mem_append.1 hp with hp | hp
    · have := h2 p hp
      exact ⟨this.1, by show (left (.int .i64 p.1) && _) = false; rw [this.2]; rfl⟩
    · simp only [List.mem_singleton] at hp
      subst hp
      refine ⟨by rw [hk]; exact hf, ?_⟩
      show (left (.int .i64 p.1) && !Lit.sameKey (.int .i64 p.1) (.int .i64 x)) = false
      rw [hk, same_int]
      simp
  · have hlk : (left (.int .i64 k) && !Lit.sameKey (.int .i64 k) (.int .i64 x)) = false := hlk
    rw [same_int] at hlk
    rw [List.map_append]
    by_cases e : k = x
    · subst e
      simp [hk]
    · refine List.mem_append_left _ (h3 k hw hh ?_)
      simpa [e] using hlk
theorem CollP.all {D : DataW Unit} {f : Sta} {left : Lit → Bool} {ps : List Plc} (h : CollP D f left ps) (hr : ReadsAs D f) (G : Good f) (hl : ∀ kl, left kl = false) : AllP f ps := by
  refine ⟨h.1, fun p => ⟨fun hp => (h.2.1 p hp).1, fun hp => ?_⟩⟩
  have hw := wf_key G hp
  have hm := h.2.2 p.1 hw (by rw [hr.has hw, hp]; rfl) (hl _)
  obtain ⟨q, hq, e⟩ := List.mem_map.1 hm
  have := (h.2.1 q hq).1
  rw [e, hp] at this
  cases this
  exact hq
theorem at_some {D : DataW Unit} {f : Sta} (hr : ReadsAs D f) (G : Good f) {x : Int} {c : Plc} (hw : Wf x) (hat : ∀ zd, D.atKey (.int .i64 x) zd = dat c) : f x = some c ∧ c.1 = x := by
  have hh := hr.has hw
  rw [has_true_of_atKey hat] at hh
  cases hf : f x with
  | none => rw [hf] at hh; cases hh
  | some p =>
    have := hr.some hw hf .nil
    rw [hat] at this
    rw [dat_inj this]
    exact ⟨rfl, G.key x p hf⟩

set_option maxRecDepth 100000 in
set_option maxHeartbeats 2000000 in
theorem values1_in (F : Fence) (n : Nat) (h8 : F.fn 113) (hro : F.round = none) (hn : 1 ≤ n) (l Bm b nn : Nat) (D0 : DataW Unit) (f : Sta) (hr : ReadsAs D0 f) (G : Good f) (J Jx : List Plc → World → Prop)
    (hY : ∀ pre x W, J pre W → pre.length < nn → YieldAt F (n - 1) Tryd.prog l #[encP x] W fun e W' =>
      (e = .returned (.bool true) ∧ J (pre ++ [x]) W' ∧ KeepsWalks W W') ∨ (e = .returned (.bool false) ∧ Jx (pre ++ [x]) W'))
    (W : World) (hJ : AbidesFrom W.heap.size J) (hm : W.cell? ⟨Bm, 0, none⟩ = some (.map (some b))) (hown : W.ownsMap Tryd.prog 3 plcR b nn D0) (h0 : J [] W) :
    CallsIn F n Tryd.prog 113 #[.func (.yield l) #[] #[], .pointer (some ⟨Bm, 0, none⟩)] W fun e W' => (∃ v, e = .returned v) ∧
      ((∃ xs, AllP f xs ∧ J xs W') ∨ (∃ pre, True ∧ Jx pre W')) := by
  refine callsIn_of_wp Tryd.func113 rfl h8 ?_ hro
  simp only [Tryd.ntmps113, List.size_toArray, List.length_cons, List.length_nil, Nat.reduceAdd, Nat.reduceSub, Array.replicate_succ, Array.replicate_zero, List.push_toArray, List.append_toArray, List.nil_append, List.cons_append]
  have hsn := hown.size_le
  gi_wp2_with (first
    | (gi_at_range; refine wpListIn_range_own _ rfl _ 128 rfl 3 95 (int_keyed Tryd.underlying3) Tryd.underlying128 _ b nn _ rfl hown ?_; intro w0 hrg0 hg0 hs0)
    | gi_in)
  go_frame
  gi_loopw [4] (fun _ wr => ∃ (left : Lit → Bool) (cnt : Nat) (ps : List Plc), wr.ranges Tryd.prog 3 plcR b W.heap.size nn D0 left cnt ∧ ps.length + cnt ≤ nn ∧ CollP D0 f left ps ∧ J ps wr)
    (fun _ wr => wr.rangeLeft b W.heap.size)
  case atStart =>
    exact ⟨_, _, [], hrg0, by simpa using hsn, collP_start D0 f, hJ [] W w0 none h0 hg0 (fun r e => by cases e)⟩
  case round =>
    obtain ⟨left, cnt, ps, hrg, hcs, hC, hJs⟩ := hrel
    gi_wp2_with (first
      | (gi_at_next; refine wpListIn_next_ranges _ rfl _ rfl 3 (int_keyed Tryd.underlying3) plcR (Value.int .i64) encP (fun key kl hk => by obtain ⟨x, hx, _⟩ := Maps.keyOf_int_inv Tryd.underlying3 hk; exact ⟨x, hx⟩) (fun v y hv => by obtain ⟨c, rfl, _⟩ := plcR_inv hv; exact ⟨c, rfl⟩) b W.heap.size nn _ _ _ rfl hrg ?_ ?_)
      | gi_in)
    · intro hc0 hl0
      gi_wp2
      go_end0
      exact ⟨⟨_, rfl⟩, .inl ⟨ps, hC.all hr G hl0, hJs⟩⟩
    · intro x c1 c2 c3 kl yd yp w2 cnt2 hkey hlk hv hat hrg2 hlt hg2 hs2 hen
      obtain ⟨x', ex, rfl, hwx⟩ := Maps.keyOf_int_inv Tryd.underlying3 hkey
      obtain rfl : x = x' := by simpa using ex
      obtain ⟨c', ec, ez⟩ := plcR_inv hv
      obtain rfl : (c1, c2, c3) = c' := encP_inj ec
      obtain rfl : yd = dat (c1, c2, c3) := (Prod.mk.inj ez).1
      obtain ⟨hfx, hcx⟩ := at_some hr G hwx hat
      have hcx : c1 = x := hcx
      subst hcx
      have hJ2 : J ps w2 := hJ ps wr w2 (some W.heap.size) hJs hg2 (fun r e => by cases e; exact ⟨Nat.le_refl _, hrg.iter_walk⟩)
      have hJ3 : J ps (w2.alloc (.cells #[.int .i64 c1, .int .i64 c2, .string c3] 95)) := hJ ps w2 _ none hJ2 (World.grownBy_alloc w2 _ none) (fun r e => by cases e)
      obtain ⟨fn, tmps, assign, body, hy, hR⟩ := hY ps (c1, c2, c3) _ hJ3 (by omega)
      unfold encP at hy hen
      dsimp only at hy hen
      have hrg3 := hrg2.alloc (.cells #[.int .i64 c1, .int .i64 c2, .string c3] 95)
      have hC2 := hC.step hlk hfx rfl
      have H3 : Aside (RoundIn F (n - 1) Tryd.prog l fn tmps assign body _ _) := hR
      clear hs2 hR hJ2 hJ3
      unfold encP
      dsimp only
      gi_wp2
      refine RoundIn.mono H3.out ?_
      rintro e W3 (⟨rfl, hJ4, hk4⟩ | ⟨rfl, hJx4⟩)
      · gi_wp2
        have hrg4 := hrg3.of_walks hk4
        go_roundw
        case rel => exact ⟨_, cnt2, ps ++ [(c1, c2, c3)], hrg4, by simp; omega, hC2, hJ4⟩
        case measure => rw [hrg4.left_eq, hrg.left_eq]; exact hlt
      · gi_wp2
        refine bodyPost_ret (results_none rfl _ _ _) rfl ?_
        exact ⟨⟨_, rfl⟩, .inr ⟨ps ++ [(c1, c2, c3)], trivial, hJx4⟩⟩

set_option maxHeartbeats 1000000 in
theorem values_in (F : Fence) (n : Nat) (hf : F.fn 87) (hro : F.round = none) (mb : Option Nat) (w : World) :
    CallsIn F n Tryd.prog 87 #[.map mb] w fun e w' => e = .returned (.func (.func 113) #[] #[.pointer (some ⟨w.heap.size, 0, none⟩)]) ∧ w' = w.alloc (.cells #[.map mb] 128) := by
  refine callsIn_of_wp Tryd.func87 rfl hf ?_ hro
  simp only [Tryd.ntmps87, List.size_toArray, List.length_cons, List.length_nil, Nat.reduceAdd, Nat.reduceSub, Array.replicate_succ, Array.replicate_zero, List.push_toArray, List.append_toArray, List.nil_append, List.cons_append]
  gi_wp2
  go_ret
  exact ⟨rfl, rfl⟩

/-- maps.Values(m): a value that hands on all places of m. -/
theorem values_stops (F : Fence) (n : Nat) (h8 : F.fn 113) (hro : F.round = none) (hn : 1 ≤ n) (Bm b nn : Nat) (f : Sta) (G : Good f) (w : World) (hBm : Bm < w.heap.size) (hm : w.cell? ⟨Bm, 0, none⟩ = some (.map (some b))) (hM : MapAt Tryd.prog 3 w b nn f) :
    SeqStopsK F n Tryd.prog 113 #[.pointer (some ⟨Bm, 0, none⟩)] (fun x : Plc => #[encP x]) KeepsWalks (fun xs => AllP f xs) (fun _ => True) nn w := fun l J Jx W hW hJ _ hY h0 => by
  have hbl := hM.lt
  obtain ⟨D, hown, hr⟩ := hM.same (hW.block b hbl)
  exact values1_in F n h8 hro hn l Bm b nn D f hr G J Jx hY W hJ ((hW.cell (p := ⟨Bm, 0, none⟩) hBm).trans hm) hown h0
end Go.Proofs.YtnfhbmgkiknaaaaDoor
