import Derived.Test.YtehighgebbdenaaGreatDoorVp09
import Derived.Test.YtehighgebbdenaaGreatDoorVp28
import Derived.Test.YtehighgebbdenaaGreatDoorVp36
section
set_option linter.unusedVariables false
set_option linter.unusedSimpArgs false
namespace Go.Proofs.YtehighgebbdenaaGreatDoor
open Go.RowKit Go.Lib Go.Sort Go.Maps
def SortOut (w : World) (xs : List OpX) (e : Ending) (w' : World) : Prop := ∃ v ys, e = .returned v ∧ ((v = .slice none 0 0 ∧ ys = []) ∨ ∃ g cap, v = .slice (some ⟨g, 0, none⟩) ys.length cap ∧ w.heap.size ≤ g ∧ g < w'.heap.size ∧ ys.length ≤ cap ∧ cap ≤ maxLen ∧ OwnAt w' g ys) ∧ StableOf xs ys ∧ Below w.heap.size w w'
set_option maxHeartbeats 4000000 in
theorem opSort_own (w : World) (v : Value) (xs : List OpX) (h : OpsAt w v xs) (hn : xs.length ≤ 1000) :
    Calls Tryz.prog 53 #[v] w (SortOut w xs) := by
  rcases h with ⟨rfl, rfl⟩ | ⟨blk, off, cap, rfl, hc⟩
  · go_enter Tryz.func53, Tryz.ntmps53
    go_wp2_with fail
    refine (clone_nil _).mono ?_
    rintro e w' ⟨rfl, rfl⟩
    go_wp2_with fail
    refine (sortStable_nil _ _).mono ?_
    rintro e w1 ⟨rfl, rfl⟩
    go_wp2
    go_ret
    exact ⟨_, [], rfl, .inl ⟨rfl, rfl⟩, ⟨#[], ⟨permIn_refl _ _ _, fun i j _ _ hj => absurd hj (by simp)⟩, rfl⟩, Below.refl _ _⟩
  · have HC : Aside (∀ j u, (cellsOf xs)[j]? = some u → w.cell? ⟨blk, off + j, none⟩ = some u) := hc
    clear hc
    go_enter Tryz.func53, Tryz.ntmps53
    go_wp2_with fail
    refine (clone_some w blk off cap xs hn HC.out).mono ?_
    clear HC
    rintro e w1 ⟨v1, rfl, hown, hnil, hb⟩
    obtain ⟨g, c1, rfl, hg, hc1, hc2⟩ : ∃ g c1, v1 = .slice (some ⟨g, 0, none⟩) xs.length c1 ∧ w.heap.size ≤ g ∧ xs.length ≤ c1 ∧ c1 ≤ maxLen := by
      rcases hown.2 with ⟨h1, _⟩ | ⟨g, c1, cur, h1, h2, _, h3, h4, _⟩
      · exact absurd h1 hnil
      · exact ⟨g, c1, h1, h2, h3, h4⟩
    have R0 : Aside (RowK encT 8 w1 g 0 (tagged xs)) := row_of rfl hown
    have HB : Aside (Below w.heap.size w w1) := hb
    clear hown hnil hb
    go_wp2_with fail
    have C := sortStable_any w1 g 0 c1 (tagged xs) R0.out (fun p hp => by rw [tagged_at xs p (by rw [tagged_size] at hp; exact hp)]) (by rw [tagged_size]; omega)
    rw [tagged_size] at C
    refine C.mono ?_
    clear C
    rintro e w2 ⟨rfl, d', hd, S⟩
    have hl : d'.size = xs.length := by rw [hd.1.1, tagged_size]
    have hl2 : (d'.toList.map Prod.fst).length = xs.length := by rw [List.length_map, Array.length_toList]; exact hl
    have hsz : w1.heap.size ≤ w2.heap.size := (below_sorted (Below.refl 0 w1) (Nat.zero_le _) (Nat.zero_le _) S).size
    have F : Aside (SortOut w xs (.returned (.slice (some ⟨g, 0, none⟩) xs.length c1)) w2) :=
      ⟨_, d'.toList.map Prod.fst, rfl, .inr ⟨g, c1, by rw [hl2], hg, Nat.lt_of_lt_of_le R0.out.hblk hsz, by rw [hl2]; exact hc1, hc2, ⟨fun j u hj => by have := sorted_at R0.out (by rw [hl, tagged_size]) S j u hj; rw [Nat.zero_add] at this; exact this, fun j hj => by
        have H := ((S.holds R0.out.hblk R0.out.hH (by rw [hl, tagged_size])) j (by rw [size_flatK]; rw [hl2] at hj; omega)).2
        rw [Nat.zero_add] at H
        exact H⟩⟩, ⟨d', hd, rfl⟩, below_sorted HB.out hg HB.out.size S⟩
    clear hd S R0 HB hl hl2 hsz hc1 hc2
    go_wp2
    go_ret
    exact F.out
end Go.Proofs.YtehighgebbdenaaGreatDoor
end
section
set_option linter.unusedVariables false
set_option linter.unusedSimpArgs false
namespace Go.Proofs.YtehighgebbdenaaGreatDoor
open Go.RowKit Go.Lib Go.Sort Go.Maps
theorem SortOut.base {w w1 w' : World} {xs : List OpX} {e : Ending} (h : SortOut w1 xs e w') (hb : Below w.heap.size w w1) : SortOut w xs e w' := by
  obtain ⟨v, ys, h1, h2, h3, h4⟩ := h
  refine ⟨v, ys, h1, h2.imp id ?_, h3, hb.trans (h4.mono hb.size)⟩
  rintro ⟨g, cap, k1, k2, k3⟩
  exact ⟨g, cap, k1, Nat.le_trans hb.size k2, k3⟩
set_option maxRecDepth 100000 in
set_option maxHeartbeats 2000000 in
theorem kall_own (w : World) (ao : Nat → Option Addr) (cap : Nat → Nat) (R : Rws) (hK : KnownAt w ao R) (hnil : ∀ i, i < 4 → ao i = none → cap i = 0) (hn : (allR R).length ≤ 1000) :
    Calls Tryz.prog 82 #[kV ao cap R] w (SortOut w (allR R)) := by
  obtain ⟨W, hW⟩ : ∃ W, W = w.alloc (.cells #[.slice (ao 0) (R 0).length (cap 0), .slice (ao 1) (R 1).length (cap 1), .slice (ao 2) (R 2).length (cap 2), .slice (ao 3) (R 3).length (cap 3)] 65 (0, 0)) := ⟨_, rfl⟩
  have hb : Below w.heap.size w W := by rw [hW]; exact (Below.refl _ w).alloc (Nat.le_refl _) _
  have hbox : KBox W w.heap.size ao cap R := by rw [hW]; exact heap_alloc_new w _
  have hcat := concat_any W w.heap.size ao cap R hbox (hK.later hb) hnil hn
  have H : Aside (W = w.alloc (.cells #[.slice (ao 0) (R 0).length (cap 0), .slice (ao 1) (R 1).length (cap 1), .slice (ao 2) (R 2).length (cap 2), .slice (ao 3) (R 3).length (cap 3)] 65 (0, 0)) ∧ Below w.heap.size w W ∧ (allR R).length ≤ 1000) := ⟨hW, hb, hn⟩
  clear hW hb hbox hK hnil hn
  unfold kV
  go_enter Tryz.func82, Tryz.ntmps82
  go_wp2_with fail
  rw [← H.out.1]
  refine hcat.mono ?_
  clear hcat
  rintro e w1 ⟨v1, rfl, ho1, hb1⟩
  have hs := opSort_own w1 v1 (allR R) (ownsOps ho1) H.out.2.2
  have H1 : Aside (Below w.heap.size w w1) := H.out.2.1.trans (hb1.mono H.out.2.1.size)
  clear ho1 hb1 H
  go_wp2_with fail
  refine hs.mono ?_
  clear hs
  intro e w2 hs2
  have hs3 := hs2.base H1.out
  obtain ⟨v2, ys, rfl, h⟩ := hs2
  have H2 : Aside (SortOut w (allR R) (.returned v2) w2) := hs3
  clear h hs3 H1
  go_wp2
  go_ret
  exact H2.out
set_option maxRecDepth 100000 in
set_option maxHeartbeats 2000000 in
theorem rops_own (w : World) (c : Nat → Nat) (br : Nat) (by_ : Int) (R : Rws) (h : RepAt w c br by_ R) (hn : (allR R).length ≤ 1000) :
    Calls Tryz.prog 23 #[.pointer (some ⟨br, 0, none⟩)] w (SortOut w (allR R)) := by
  obtain ⟨T, kv, bt, bx, bc, A, hm, hp, hK, hb⟩ := h
  obtain ⟨ao, cap, hM⟩ := hm.norm
  have hall := kall_own w ao cap R (KnownAt.of_rows hM.rows) (rows_nil hM.rows) hn
  unfold kV at hall
  have k2 : w.cell? ⟨br, 2, none⟩ = some (.slice (ao 0) (R 0).length (cap 0)) := hM.cell.c2
  have k3 : w.cell? ⟨br, 3, none⟩ = some (.slice (ao 1) (R 1).length (cap 1)) := hM.cell.c3
  have k4 : w.cell? ⟨br, 4, none⟩ = some (.slice (ao 2) (R 2).length (cap 2)) := hM.cell.c4
  have k5 : w.cell? ⟨br, 5, none⟩ = some (.slice (ao 3) (R 3).length (cap 3)) := hM.cell.c5
  clear hm hM hp hK hb hn
  go_enter Tryz.func23, Tryz.ntmps23
  go_wp2_with fail
  refine hall.mono ?_
  clear hall
  intro e w2 hs2
  have hs3 := hs2
  obtain ⟨v2, ys, rfl, h⟩ := hs2
  have H2 : Aside (SortOut w (allR R) (.returned v2) w2) := hs3
  clear h hs3
  go_wp2
  go_ret
  exact H2.out
end Go.Proofs.YtehighgebbdenaaGreatDoor
end
section
set_option linter.unusedVariables false
set_option linter.unusedSimpArgs false
namespace Go.Proofs.YtehighgebbdenaaGreatDoor
open Go.RowKit Go.Lib Go.Sort Go.Maps
def DiffOut (w : World) (R : Rws) (v : Nat → Int) (e : Ending) (w' : World) : Prop := ∃ val ys, e = .returned val ∧ StableOf (allR R) ys ∧ ((val = .slice none 0 0 ∧ ys = []) ∨ ∃ g cap, val = .slice (some ⟨g, 0, none⟩) (ys.filter (fun x => !heldV v x)).length cap ∧ w.heap.size ≤ g ∧ OwnAt w' g (ys.filter (fun x => !heldV v x))) ∧ Below w.heap.size w w'
theorem VecBlk.same' {w w' : World} {b B : Nat} {v : Nat → Int} (h : VecBlk w b v) (hb : Below B w w') (hB : b < B) : VecBlk w' b v := (hb.block b hB).trans h
set_option maxRecDepth 100000 in
set_option maxHeartbeats 2000000 in
theorem delNil (p : OpX → Bool) (gf : Nat) (lb : Array Value) (eg : ∀ args w, (callFunc gf args).run Tryz.prog w = .ok (.enter gf args) w) (w : World) :
    Calls Tryz.prog 83 #[.slice none 0 0, .func (.func gf) #[] lb] w fun e w' => e = .returned (.slice none 0 0) ∧ Below w.heap.size w w' := by
  have hidx := idxOps_any p gf lb eg none 0 [] w (fun W x hx => by cases hx) (by simp) (.inl rfl)
  go_enter Tryz.func83, Tryz.ntmps83
  go_wp2_with fail
  refine hidx.mono ?_
  clear hidx
  rintro e w1 ⟨r, rfl, HR⟩
  rcases HR.out.1 with ⟨hr, ha⟩ | ⟨k, x, hr, hx, _⟩
  · subst hr
    clear ha
    go_wp2
    go_ret
    exact ⟨rfl, HR.out.2⟩
  · simp at hx
set_option maxRecDepth 100000 in
set_option maxHeartbeats 4000000 in
theorem rdiff_any (w : World) (c : Nat → Nat) (br : Nat) (by_ : Int) (R : Rws) (v : Nat → Int) (h : RepAt w c br by_ R) (hn : (allR R).length ≤ 1000) :
    Calls Tryz.prog 24 #[.pointer (some ⟨br, 0, none⟩), .agg #[.int .i64 (v 0), .int .i64 (v 1), .int .i64 (v 2), .int .i64 (v 3)]] w (DiffOut w R v) := by
  have eg : ∀ args w, (callFunc 84 args).run Tryz.prog w = .ok (.enter 84 args) w := enters_of Tryz.func84 (by kernel_rfl) rfl
  obtain ⟨U, hU⟩ : ∃ U, U = w.alloc (.cells #[.int .i64 (v 0), .int .i64 (v 1), .int .i64 (v 2), .int .i64 (v 3)] 55 (0, 0)) := ⟨_, rfl⟩
  have hbU : Below w.heap.size w U := by rw [hU]; exact (Below.refl _ w).alloc (Nat.le_refl _) _
  have hv : VecBlk U w.heap.size v := by rw [hU]; exact heap_alloc_new w _
  have hops := rops_own U c br by_ R (h.later hbU) hn
  have hK : RowsK R := by obtain ⟨_, _, _, _, _, _, _, _, k, _⟩ := h; exact k
  have H : Aside (U = w.alloc (.cells #[.int .i64 (v 0), .int .i64 (v 1), .int .i64 (v 2), .int .i64 (v 3)] 55 (0, 0)) ∧ Below w.heap.size w U ∧ VecBlk U w.heap.size v ∧ RowsK R) := ⟨hU, hbU, hv, hK⟩
  clear hU hbU hv hK h
  go_enter Tryz.func24, Tryz.ntmps24
  go_upto_region 1 with fail
  rw [← H.out.1]
  go_wp2_with fail
  refine hops.mono ?_
  clear hops
  rintro e w1 ⟨val, ys, rfl, hval, hst, hb1⟩
  rcases hval with ⟨rfl, rfl⟩ | ⟨g, cap, rfl, hg1, hg2, hc1, hc2, hO⟩
  · have hd := delNil (heldV v) 84 #[.pointer (some ⟨w.heap.size, 0, none⟩)] eg w1
    have H1 : Aside (StableOf (allR R) [] ∧ Below w.heap.size w w1) := ⟨hst, H.out.2.1.trans (hb1.mono H.out.2.1.size)⟩
    clear hst hb1 eg
    go_wp2_with fail
    refine hd.mono ?_
    clear hd
    rintro e w2 ⟨rfl, hb2⟩
    have H2 : Aside (Below w.heap.size w w2) := H1.out.2.trans (hb2.mono H1.out.2.size)
    clear hb2
    go_wp2
    go_ret
    exact ⟨_, [], rfl, H1.out.1, .inl ⟨rfl, rfl⟩, H2.out⟩
  · have hlen : ys.length = (allR R).length := (stable_by hst).1.length_eq
    have hpred : PredB 84 #[.pointer (some ⟨w.heap.size, 0, none⟩)] ys (heldV v) U.heap.size w1 := fun W x hx hW => by
      obtain ⟨i, hi, hb, _⟩ := by_nat (H.out.2.2.2.well.ok x ((stable_by hst).1.mem_iff.1 hx))
      exact diffFn_any W w.heap.size v x ((H.out.2.2.1.later hb1).same' hW H.out.2.2.1.lt) i hi hb
    have hd := delOps_any (heldV v) 84 #[.pointer (some ⟨w.heap.size, 0, none⟩)] eg g cap U.heap.size ys w1 hg1 hb1.size hg2 hpred (by omega) hc1 hc2 hO
    have H1 : Aside (StableOf (allR R) ys ∧ Below w.heap.size w w1 ∧ w.heap.size ≤ g) := ⟨hst, H.out.2.1.trans (hb1.mono H.out.2.1.size), Nat.le_trans H.out.2.1.size hg1⟩
    clear hst hb1 eg hpred hO hlen hg1 hg2 hc1 hc2
    go_wp2_with fail
    refine hd.mono ?_
    clear hd
    rintro e w2 ⟨rfl, hO2, hb2⟩
    have H2 : Aside (Below w.heap.size w w2 ∧ OwnAt w2 g (ys.filter (fun x => !heldV v x))) := ⟨H1.out.2.1.trans (hb2.mono H.out.2.1.size), hO2⟩
    clear hb2 hO2
    go_wp2
    go_ret
    exact ⟨_, ys, rfl, H1.out.1, .inr ⟨g, cap, rfl, H1.out.2.2, H2.out.2⟩, H2.out.1⟩
end Go.Proofs.YtehighgebbdenaaGreatDoor
end
section
set_option linter.unusedVariables false
namespace Go.Proofs.YtehighgebbdenaaGreatDoor
theorem join_part {R : Rws} (h : RowsK R) {T l : List OpX} (hT : WellK T) (hc : Compat (allR R) T) (hl : ∀ x, x ∈ l → x ∈ T) (hl2 : ∀ x, x ∈ T → x ∈ allR R ∨ x ∈ l) (hlen : (allR R).length + l.length ≤ 400) : ∃ fresh, (∀ a, JoinIs (allR R) l a → a = .inr fresh) ∧ FreshK (allR R) fresh ∧ (∀ x, x ∈ allR R ++ fresh ↔ x ∈ allR R ∨ x ∈ T) ∧ WellK (allR R ++ fresh) := by
  obtain ⟨out, h1, h2⟩ := sift_fine h.num.one hT.one hc hT.ok (l := l) 0 (fresh := []) (fun x hx => hl x hx) (fun x hx => by simp at hx)
  obtain ⟨k1, k2, k3, k4, k5⟩ := sift_fresh (freshK_nil _) h1
  have hmem : ∀ x, x ∈ allR R ++ out ↔ x ∈ allR R ∨ x ∈ T := fun x => by
    rw [List.mem_append]
    constructor
    · rintro (q | q)
      · exact .inl q
      · exact .inr (h2 x q)
    · rintro (q | q)
      · exact .inl q
      · rcases hl2 x q with q | q
        · exact .inl q
        · exact k4 x q
  have hw : WellK (allR R ++ out) := (h.well.union hT hc).congr (fun x => by rw [List.mem_append]; exact (hmem x).symm)
  refine ⟨out, fun a ha => ?_, k1, hmem, hw⟩
  unfold JoinIs at ha
  rw [h1] at ha
  dsimp only at ha
  rcases ha with ⟨⟨x, hx, q1, q2⟩, _⟩ | ⟨_, ⟨x, hx, y, hy, q1, q2, q3⟩, _⟩ | ⟨_, _, ⟨x, hx, q⟩, _⟩ | ⟨_, q, _⟩ | ⟨_, _, q⟩
  · exact ((hw.gap x hx).elim q1 q2).elim
  · exact (q3 (hw.rise x hx y hy q1 q2)).elim
  · exact (q (hw.refs x hx)).elim
  · simp at k5; omega
  · exact q
structure NextOp (R : Rws) (i : Nat) (T : Int) (x : OpX) : Prop where
  ok : errO x = 0
  by_ : byO x = (i : Int)
  num : numO x = ((R i).length : Int) + 1
  time : x.1 = T + 1
  refs : RefOk (x :: allR R) x
theorem num_le {R : Rws} (h : NumK R) {i : Nat} (hi : i < 4) {y : OpX} (hy : y ∈ allR R) (e : byO y = (i : Int)) : numO y ≤ ((R i).length : Int) := by
  obtain ⟨k, hk, hyk⟩ := mem_allR.1 hy
  obtain ⟨j, hj, q1, q2, _⟩ := h.get hk hyk
  have : k = i := by omega
  subst this
  have := (List.getElem?_eq_some_iff.1 hj).1
  omega
theorem NextOp.well {R : Rws} {i : Nat} {T : Int} {x : OpX} (hx : NextOp R i T x) (hR : RowsK R) (hi : i < 4) (hT : ∀ y ∈ allR R, y.1 ≤ T) : WellK (x :: allR R) ∧ ∀ y ∈ allR R, byO y = byO x → numO y < numO x := by
  have hnew : ∀ y ∈ allR R, byO y = byO x → numO y < numO x := fun y hy e => by
    have := num_le hR.num hi hy (e.trans hx.by_)
    have := hx.num
    omega
  refine ⟨hR.well.add hx.ok ?_ hnew (fun y hy => ?_) hx.refs, hnew⟩
  · by_cases h0 : (R i).length = 0
    · left
      have := hx.num
      omega
    · right
      have hl : (R i).length - 1 < (R i).length := by omega
      have hm : (R i)[(R i).length - 1] ∈ R i := List.getElem_mem hl
      obtain ⟨j, hj, q1, q2, _⟩ := hR.num.get hi hm
      have hlast := hR.num i hi ((R i).length - 1) _ (List.getElem?_eq_getElem hl)
      refine ⟨(R i)[(R i).length - 1], mem_allR.2 ⟨i, hi, hm⟩, by rw [q1, hx.by_], ?_⟩
      have h3 := hlast.2.1
      have := hx.num
      omega
  · have h1 := hT y hy
    have h2 := hx.time
    unfold CLt stO
    dsimp only
    omega
theorem compat_own {R : Rws} {i : Nat} {T : Int} {x : OpX} (hx : NextOp R i T x) (hR : RowsK R) (hi : i < 4) (hT : ∀ y ∈ allR R, y.1 ≤ T) : Compat (allR R) (x :: allR R) := fun a ha b hb e1 e2 => by
  rcases List.mem_cons.1 hb with rfl | hb
  · have := (hx.well hR hi hT).2 a ha e1
    omega
  · exact hR.well.one a ha b hb e1 e2
theorem NumK.nodup {R : Rws} (h : NumK R) : (allR R).Nodup := by
  have row : ∀ i, i < 4 → (R i).Nodup := fun i hi => by
    unfold List.Nodup
    rw [List.pairwise_iff_getElem]
    intro a b ha hb hab e
    have h1 := h i hi a _ (List.getElem?_eq_getElem ha)
    have h2 := h i hi b _ (List.getElem?_eq_getElem hb)
    rw [e] at h1
    have := h1.2.1
    have := h2.2.1
    omega
  have off : ∀ i j, i < 4 → j < 4 → i ≠ j → ∀ a ∈ R i, ∀ b ∈ R j, a ≠ b := fun i j hi hj hij a ha b hb e => by
    obtain ⟨_, _, q1, _⟩ := h.get hi ha
    obtain ⟨_, _, q2, _⟩ := h.get hj hb
    rw [e] at q1
    omega
  unfold allR
  simp only [List.nodup_append, List.mem_append]
  refine ⟨row 0 (by omega), ⟨row 1 (by omega), ⟨row 2 (by omega), row 3 (by omega), off 2 3 (by omega) (by omega) (by omega)⟩, fun a ha b hb => ?_⟩, fun a ha b hb => ?_⟩
  · rcases hb with hb | hb
    · exact off 1 2 (by omega) (by omega) (by omega) a ha b hb
    · exact off 1 3 (by omega) (by omega) (by omega) a ha b hb
  · rcases hb with hb | hb | hb
    · exact off 0 1 (by omega) (by omega) (by omega) a ha b hb
    · exact off 0 2 (by omega) (by omega) (by omega) a ha b hb
    · exact off 0 3 (by omega) (by omega) (by omega) a ha b hb
theorem len_sub {α : Type} [DecidableEq α] : ∀ {l H : List α}, l.Nodup → (∀ x, x ∈ l → x ∈ H) → l.length ≤ H.length
  | [], _, _, _ => Nat.zero_le _
  | x :: t, H, hn, hs => by
    obtain ⟨h1, h2⟩ := List.nodup_cons.1 hn
    have hx : x ∈ H := hs x (by simp)
    have := len_sub (l := t) (H := H.erase x) h2 (fun y hy => (List.mem_erase_of_ne (fun e => h1 (by rw [← e]; exact hy))).2 (hs y (by simp [hy])))
    rw [List.length_erase_of_mem hx] at this
    have hp : 0 < H.length := List.length_pos_of_mem hx
    rw [List.length_cons]
    omega
end Go.Proofs.YtehighgebbdenaaGreatDoor
end
section
set_option linter.unusedVariables false
set_option linter.unusedSimpArgs false
namespace Go.Proofs.YtehighgebbdenaaGreatDoor
open Go.RowKit Go.Lib Go.Sort Go.Maps
structure EnvT (B : Nat) (ad : Nat → Addr) (w : World) : Prop where
  env : EnvE B ad w
  tab : Lib.TabBelow Tryz.prog B w "internal/strconv.uint64pow10" .u64 Lib.pow10Tab
theorem EnvT.mono {B : Nat} {ad : Nat → Addr} {w w' : World} (h : EnvT B ad w) (hb : Below B w w') : EnvT B ad w' := ⟨h.env.mono hb, fun w'' h' => h.tab w'' (hb.trans h')⟩
theorem EnvT.later {B : Nat} {ad : Nat → Addr} {w w' : World} (h : EnvT B ad w) (hb : Below w.heap.size w w') : EnvT B ad w' := h.mono (hb.mono h.env.size)
theorem EnvT.up {B B' : Nat} {ad : Nat → Addr} {w : World} (h : EnvT B ad w) (hB : B ≤ B') (hs : B' ≤ w.heap.size) : EnvT B' ad w :=
  ⟨⟨h.env.op4, h.env.c5, h.env.c6, h.env.c7, h.env.c8, h.env.c9, Nat.le_trans h.env.low hB, hs⟩, fun w' h' => h.tab w' (h'.mono hB)⟩
theorem EnvT.is {B : Nat} {ad : Nat → Addr} {w : World} (h : EnvT B ad w) : Lib.TabIs Tryz.prog w "internal/strconv.uint64pow10" .u64 Lib.pow10Tab := h.tab w (Below.refl _ w)
theorem RepOwn.below {B : Nat} {w w' : World} {c c' : Nat → Nat} {br : Nat} {by_ : Int} {R : Rws} (h : RepOwn B w c br by_ R) (ha : Acts w c w' c') (hB : B ≤ w.heap.size) : Below B w w' := ha.keeps.below hB (fun k hk => h.low k hk)
theorem RepOwn.down {B B' : Nat} {w : World} {c : Nat → Nat} {br : Nat} {by_ : Int} {R : Rws} (h : RepOwn B w c br by_ R) (hB : B' ≤ B) : RepOwn B' w c br by_ R := ⟨h.rep, fun k hk => Nat.le_trans hB (h.low k hk), h.high⟩
theorem RepAt.rows {w : World} {c : Nat → Nat} {br : Nat} {by_ : Int} {R : Rws} (h : RepAt w c br by_ R) : RowsK R := by obtain ⟨_, _, _, _, _, _, _, _, k, _⟩ := h; exact k
theorem RepOwn.other {B : Nat} {w w' : World} {c c1 c1' : Nat → Nat} {br : Nat} {by_ : Int} {R : Rws} (h : RepOwn B w c br by_ R) (ha : Acts w c1 w' c1') (hd : ∀ k, c1 k = 0 ∨ c k = 0) : RepOwn B w' c br by_ R ∧ ∀ k, c1' k = 0 ∨ c k = 0 := by
  refine ⟨⟨h.rep.kept (fun i hi => ⟨fun k hk e => ha.keeps.block k hk (fun q => ?_), fun _ _ => rfl⟩), h.low, fun k hk => h.high k (Nat.le_trans ha.keeps.size hk)⟩, fun k => ?_⟩
  · rcases hd k with e1 | e1
    · exact q e1
    · rw [e1] at e; exact hi e.symm
  · by_cases hk : k < w.heap.size
    · rw [ha.hue k hk]; exact hd k
    · exact .inr (h.high k (by omega))
structure Folk (B : Nat) (w : World) (n : Nat) (c : Nat → Nat → Nat) (br : Nat → Nat) (by_ : Nat → Int) (R : Nat → Rws) : Prop where
  rep : ∀ r, r < n → RepOwn B w (c r) (br r) (by_ r) (R r)
  apart : ∀ r, r < n → ∀ s, s < n → r ≠ s → ∀ k, c r k = 0 ∨ c s k = 0
theorem Folk.none (B : Nat) (w : World) (c : Nat → Nat → Nat) (br : Nat → Nat) (by_ : Nat → Int) (R : Nat → Rws) : Folk B w 0 c br by_ R := ⟨fun r hr => absurd hr (by omega), fun r hr => absurd hr (by omega)⟩
theorem Folk.later {B : Nat} {w w' : World} {n : Nat} {c : Nat → Nat → Nat} {br : Nat → Nat} {by_ : Nat → Int} {R : Nat → Rws} (h : Folk B w n c br by_ R) (hb : Below w.heap.size w w') : Folk B w' n c br by_ R := ⟨fun r hr => (h.rep r hr).later hb, h.apart⟩
def setAt {α : Type} (f : Nat → α) (a : Nat) (x : α) : Nat → α := fun r => if r = a then x else f r
theorem setAt_is {α : Type} (f : Nat → α) (a : Nat) (x : α) : setAt f a x a = x := if_pos rfl
theorem setAt_ne {α : Type} (f : Nat → α) {a r : Nat} (x : α) (h : r ≠ a) : setAt f a x r = f r := if_neg h
theorem Folk.act {B : Nat} {w w' : World} {n : Nat} {c : Nat → Nat → Nat} {br : Nat → Nat} {by_ : Nat → Int} {R : Nat → Rws} (h : Folk B w n c br by_ R) {a : Nat} (ha : a < n) {c' : Nat → Nat} {R' : Rws} (hA : Acts w (c a) w' c') (hR : RepOwn B w' c' (br a) (by_ a) R') : Folk B w' n (setAt c a c') br by_ (setAt R a R') := by
  refine ⟨fun r hr => ?_, fun r hr s hs hrs => ?_⟩
  · by_cases e : r = a
    · subst e; rw [setAt_is, setAt_is]; exact hR
    · rw [setAt_ne _ _ e, setAt_ne _ _ e]; exact ((h.rep r hr).other hA (h.apart a ha r hr (fun q => e q.symm))).1
  · by_cases e : r = a
    · subst e
      have e' : s ≠ r := fun q => hrs q.symm
      rw [setAt_is, setAt_ne _ _ e']
      exact ((h.rep s hs).other hA (h.apart r ha s hs hrs)).2
    · rw [setAt_ne _ _ e]
      by_cases e' : s = a
      · subst e'
        rw [setAt_is]
        exact fun k => (((h.rep r hr).other hA (h.apart s hs r hr (fun q => e q.symm))).2 k).symm
      · rw [setAt_ne _ _ e']
        exact h.apart r hr s hs hrs
theorem Folk.add {B : Nat} {w w' : World} {n : Nat} {c : Nat → Nat → Nat} {br : Nat → Nat} {by_ : Nat → Int} {R : Nat → Rws} (h : Folk B w n c br by_ R) (hB : B ≤ w.heap.size) {c0 : Nat → Nat} {br0 : Nat} {b : Int} {R0 : Rws} (h0 : RepOwn w.heap.size w' c0 br0 b R0) (hb : Below w.heap.size w w') : Folk B w' (n + 1) (setAt c n c0) (setAt br n br0) (setAt by_ n b) (setAt R n R0) := by
  have off : ∀ r, r < n → ∀ k, c r k = 0 ∨ c0 k = 0 := fun r hr k => by
    by_cases hk : k < w.heap.size
    · right
      by_cases e : c0 k = 0
      · exact e
      · have := h0.low k e; omega
    · exact .inl ((h.rep r hr).high k (by omega))
  refine ⟨fun r hr => ?_, fun r hr s hs hrs => ?_⟩
  · by_cases e : r = n
    · subst e; simp only [setAt_is]; exact h0.down hB
    · rw [setAt_ne _ _ e, setAt_ne _ _ e, setAt_ne _ _ e, setAt_ne _ _ e]; exact (h.later hb).rep r (by omega)
  · by_cases e : r = n
    · subst e
      rw [setAt_is, setAt_ne _ _ (fun q => hrs q.symm)]
      exact fun k => (off s (by omega) k).symm
    · rw [setAt_ne _ _ e]
      by_cases e' : s = n
      · subst e'; rw [setAt_is]; exact off r (by omega)
      · rw [setAt_ne _ _ e']; exact h.apart r (by omega) s (by omega) hrs
theorem RepOwn.wellK {B : Nat} {w : World} {c : Nat → Nat} {br : Nat} {by_ : Int} {R : Rws} (h : RepOwn B w c br by_ R) : RowsK R := h.rep.rows
theorem RepAt.time {w : World} {c : Nat → Nat} {br : Nat} {by_ : Int} {R : Rws} (h : RepAt w c br by_ R) : ∃ T kv bt bx bc A, RepMid w c br T by_ kv bt bx bc R A ∧ A.Perm (allR R) ∧ timeO (allR R) T := by
  obtain ⟨T, kv, bt, bx, bc, A, h1, h2, _⟩ := h
  exact ⟨T, kv, bt, bx, bc, A, h1, h2, ⟨fun x hx => h1.time.1 x (h2.mem_iff.2 hx), h1.time.2.1.imp id (fun ⟨x, hx, e⟩ => ⟨x, h2.mem_iff.1 hx, e⟩), h1.time.2.2⟩⟩
theorem ops_in {w : World} {v : Value} {xs : List OpX} (h : OpsAt w v xs) : ∃ ao cap, v = .slice ao xs.length cap ∧ OpsIn w ao xs := by
  rcases h with ⟨rfl, rfl⟩ | ⟨b, o, cp, rfl, hc⟩
  · exact ⟨none, 0, rfl, .inl rfl⟩
  · exact ⟨some ⟨b, o, none⟩, cp, rfl, .inr ⟨b, o, rfl, hc⟩⟩
end Go.Proofs.YtehighgebbdenaaGreatDoor
end
section
set_option linter.unusedVariables false
set_option linter.unusedSimpArgs false
namespace Go.Proofs.YtehighgebbdenaaGreatDoor
open Go.RowKit Go.Lib Go.Sort Go.Maps
open scoped Classical
theorem sized_ok {l : List OpX} (h : ∀ x ∈ l, errO x = 0) : Sized l := fun x hx => by
  have q := opE_zero (h x hx)
  have l1 : x.2.2.2.2.2.2.1.data.toList.length = x.2.2.2.2.2.2.1.size := by simp
  have l2 : x.2.2.2.2.2.2.2.data.toList.length = x.2.2.2.2.2.2.2.size := by simp
  omega
def JoinedOut (B : Nat) (w : World) (c : Nat → Nat) (br : Nat) (by_ : Int) (R : Rws) (l : List OpX) (e : Ending) (w' : World) : Prop := ∃ (n : Nat) (c' : Nat → Nat) (R' : Rws), e = .returned (.tuple #[.int .i64 (n : Int), .nilIface]) ∧ Acts w c w' c' ∧ RepOwn B w' c' br by_ R' ∧ (∀ x, x ∈ allR R' ↔ x ∈ allR R ∨ x ∈ l) ∧ (allR R').length = (allR R).length + n
theorem perm_len {R R' : Rws} {F : List OpX} (hR : RowsK R) (hR' : RowsK R') (hF : FreshK (allR R) F) (hm : ∀ x, x ∈ allR R' ↔ x ∈ allR R ++ F) : (allR R').length = (allR R).length + F.length := by
  have n1 := hR'.num.nodup
  have n2 : (allR R ++ F).Nodup := by
    rw [List.nodup_append]
    refine ⟨hR.num.nodup, hF.one.imp (fun {a b} h e => h (by rw [e]; exact ⟨rfl, rfl⟩)), fun a ha b hb e => ?_⟩
    subst e
    exact hF.off a hb a ha ⟨rfl, rfl⟩
  have a1 := len_sub n1 (fun x hx => (hm x).1 hx)
  have a2 := len_sub n2 (fun x hx => (hm x).2 hx)
  rw [List.length_append] at a1 a2
  omega
theorem joined {B : Nat} {ad : Nat → Addr} (w : World) (c : Nat → Nat) (br : Nat) (by_ : Int) (R : Rws) (la : Option Addr) (lc : Nat) (T l : List OpX) (h : RepOwn B w c br by_ R) (hE : EnvT B ad w) (hin : OpsIn w la l) (hT : WellK T) (hc : Compat (allR R) T) (hl : ∀ x, x ∈ l → x ∈ T) (hl2 : ∀ x, x ∈ T → x ∈ allR R ∨ x ∈ l) (hn : (allR R).length + l.length ≤ 140) :
    Calls Tryz.prog 10 #[.pointer (some ⟨br, 0, none⟩), .slice la l.length lc] w (JoinedOut B w c br by_ R l) := by
  obtain ⟨fresh, h1, h2, h3, h4⟩ := join_part h.wellK hT hc hl hl2 (by omega)
  refine (join_any w c br by_ R la lc l h hE.env hin (sized_ok (fun x hx => hT.ok x (hl x hx))) hn).mono ?_
  rintro e w' ⟨a, c', hj, hA, hm⟩
  rw [h1 a hj] at hm
  obtain ⟨he, R', hR', hmem⟩ := hm
  refine ⟨fresh.length, c', R', he, hA, hR', fun x => ?_, perm_len h.wellK hR'.wellK h2 hmem⟩
  rw [hmem x, h3 x]
  constructor
  · rintro (q | q)
    · exact .inl q
    · exact hl2 x q
  · rintro (q | q)
    · exact .inl q
    · exact .inr (hl x q)
theorem joined_own {B : Nat} {ad : Nat → Addr} (w : World) (c : Nat → Nat) (br : Nat) (i : Nat) (R : Rws) (la : Option Addr) (lc : Nat) (T : Int) (x : OpX) (h : RepOwn B w c br (i : Int) R) (hE : EnvT B ad w) (hi : i < 4) (hin : OpsIn w la [x]) (hx : NextOp R i T x) (hT : ∀ y ∈ allR R, y.1 ≤ T) (hn : (allR R).length ≤ 130) :
    Calls Tryz.prog 10 #[.pointer (some ⟨br, 0, none⟩), .slice la 1 lc] w fun e w' => ∃ (c' : Nat → Nat) (R' : Rws), e = .returned (.tuple #[.int .i64 1, .nilIface]) ∧ Acts w c w' c' ∧ RepOwn B w' c' br (i : Int) R' ∧ (∀ y, y ∈ allR R' ↔ y = x ∨ y ∈ allR R) ∧ (allR R').length = (allR R).length + 1 := by
  have hw := hx.well h.wellK hi hT
  have hxn : x ∉ allR R := fun q => by have := hw.2 x q rfl; omega
  refine (joined w c br (i : Int) R la lc (x :: allR R) [x] h hE hin hw.1 (compat_own hx h.wellK hi hT) (fun y hy => by simp at hy; rw [hy]; exact List.mem_cons_self) (fun y hy => by rcases List.mem_cons.1 hy with q | q; exact .inr (by simp [q]); exact .inl q) (by simp; omega)).mono ?_
  rintro e w' ⟨n, c', R', he, hA, hR', hm, hlen⟩
  have hm' : ∀ y, y ∈ allR R' ↔ y = x ∨ y ∈ allR R := fun y => by rw [hm y]; simp only [List.mem_singleton]; exact Or.comm
  have n1 : n = 1 := by
    have a1 := len_sub hR'.wellK.num.nodup (H := x :: allR R) (fun y hy => by rcases (hm' y).1 hy with q | q; exact List.mem_cons.2 (.inl q); exact List.mem_cons_of_mem _ q)
    have a2 := len_sub (l := x :: allR R) (H := allR R') (List.nodup_cons.2 ⟨hxn, h.wellK.num.nodup⟩) (fun y hy => (hm' y).2 (List.mem_cons.1 hy))
    rw [List.length_cons] at a1 a2
    omega
  subst n1
  exact ⟨c', R', he, hA, hR', hm', hlen⟩
end Go.Proofs.YtehighgebbdenaaGreatDoor
end
section
set_option linter.unusedVariables false
set_option linter.unusedSimpArgs false
namespace Go.Proofs.YtehighgebbdenaaGreatDoor
open Go.RowKit Go.Lib Go.Sort Go.Maps
open scoped Classical
def x0 : OpX := (1, 2, 1, 109, 6, 0, ⟨#[97]⟩, ⟨#[]⟩)
end Go.Proofs.YtehighgebbdenaaGreatDoor
end
