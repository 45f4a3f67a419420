import Derived.Test.YtehighgebbdenaaGreatDoorVp11
import Derived.Test.YtehighgebbdenaaGreatDoorVp27
import Derived.Test.YtehighgebbdenaaGreatDoorVp36
import Derived.Test.YtehighgebbdenaaGreatDoorVp40
import Derived.BigQuiet
import Derived.Test.YtehighgebbdenaaGreatDoorRows
import Derived.Test.YtehighgebbdenaaGreatDoorProg
import Derived.LaidLaws
import Derived.LaidHandle
import Derived.LaidMore
import Derived.KernelRfl
import Derived.ProofKit
import Derived.OpenShut
import Derived.Stop.Joined
import Derived.SevenTiedAt
import Derived.Lib.SmallJoins
import Derived.Lib.LaidU8
import Derived.Lib.LaidTab
import Derived.Lib.ItoaNum
import Derived.Laws.IdiomArrays
import Derived.ChangeArms
import Derived.ChangeSame
import Derived.WideShapes
import Derived.Deep.Slices
import Derived.Below
section
namespace Go.Proofs.YtehighgebbdenaaGreatDoor
open Go.Shelf Go.RowKit Go.Lib Go.Sort
set_option maxHeartbeats 4000000 in
theorem ownOps_any (w : World) (v : Value) (xs : List OpX) (h : OpsAt w v xs) (hn : xs.length ≤ 1000) :
    Calls Tryz.prog 11 #[v] w fun e w' => ∃ v', e = .returned v' ∧ OpsAt w' v' xs ∧ Below w.heap.size w w' := by
  rcases h with ⟨rfl, rfl⟩ | ⟨blk, off, cap, rfl, hc⟩
  · go_enter Tryz.func11, Tryz.ntmps11
    go_wp2
    go_ret
    exact ⟨_, rfl, .inl ⟨rfl, rfl⟩, Below.refl _ _⟩
  · obtain ⟨i0, hi, hz0, hz1, hz2⟩ := info_parts infoOp
    have A : Aside (∀ j u, (cellsOf xs)[j]? = some u → w.cell? ⟨blk, off + j, none⟩ = some u) := hc
    clear hc
    go_enter Tryz.func11, Tryz.ntmps11
    go_wp2_with (at_builtin; refine wpList_append_own _ rfl _ _ 32 rfl w.heap.size 38 i0 _ 8 80 Tryz.underlying32 hi hz0 hz1 hz2 rfl (by omega) _ _ _ rfl (World.ownsRow_nil w _ _ _) ⟨blk, off, none⟩ xs.length cap (cellsOf xs) rfl ?qc1 ?qc2 ?qc3 ?qc4 ?qc5 ?qc6 ?_)
    case qc1 => exact cellsOf_len xs
    case qc2 =>
      intro j u hj
      rw [Addr.add_lit]
      exact A.out j u hj
    case qc3 => exact cellsOf_one xs
    case qc4 => rw [Nat.zero_add]; simp only [maxLen]; omega
    case qc5 => rw [Nat.zero_add]; omega
    case qc6 => simp
    intro v' w1 hown hgrow hnil
    have F : Aside (OpsAt w1 v' xs ∧ Below w.heap.size w w1) := ⟨ownsOps (by simpa using hown), (Below.refl _ w).grown hgrow (Nat.le_refl _) (by intro k hk; simp [Value.ownBlock] at hk)⟩
    clear hown hgrow hnil A
    go_wp2
    go_ret
    exact ⟨v', rfl, F.out.1, F.out.2⟩
end Go.Proofs.YtehighgebbdenaaGreatDoor
end
section
set_option linter.unusedVariables false
set_option linter.unusedSimpArgs false
namespace Go.Proofs.YtehighgebbdenaaGreatDoor
open Go.RowKit Go.Lib Go.Sort Go.Maps
open scoped Classical
theorem compat_none (T : List OpX) : Compat (allR (fun _ => [])) T := fun x hx => by simp [allR] at hx
set_option maxRecDepth 100000 in
set_option maxHeartbeats 4000000 in
theorem repOf_any {B : Nat} {ad : Nat → Addr} (w : World) (b : Int) (v : Value) (ys : List OpX) (hE : EnvT B ad w) (h0 : 0 ≤ b) (h4 : b < 4) (hv : OpsAt w v ys) (hW : WellK ys) (hl : ys.length ≤ 60) :
    Calls Tryz.prog 87 #[.int .i64 b, v] w fun e w' => ∃ c br R, e = .returned (.pointer (some ⟨br, 0, none⟩)) ∧ Aside (RepOwn w.heap.size w' c br b R ∧ (∀ x, x ∈ allR R ↔ x ∈ ys) ∧ Below w.heap.size w w') := by
  have hnew := rnew_ok w b h0 h4
  have HE : Aside (EnvT w.heap.size ad w ∧ OpsAt w v ys ∧ WellK ys) := ⟨hE.up hE.env.size (Nat.le_refl _), hv, hW⟩
  clear hE hv hW
  go_enter Tryz.func87, Tryz.ntmps87
  go_wp2_with fail
  refine hnew.mono ?_
  clear hnew
  rintro e w1 ⟨c, br, rfl, hR1, hb1⟩
  have hoo := ownOps_any w1 v ys (HE.out.2.1.later hb1) (by omega)
  have H1 : Aside (RepOwn w.heap.size w1 c br b (fun _ => []) ∧ Below w.heap.size w w1) := ⟨hR1, hb1⟩
  clear hR1 hb1
  go_wp2_with fail
  refine hoo.mono ?_
  clear hoo
  rintro e w2 ⟨v2, rfl, ho2, hb2⟩
  obtain ⟨ao, cp, rfl, hin⟩ := ops_in ho2
  have hbw : Below w.heap.size w w2 := H1.out.2.trans (hb2.mono H1.out.2.size)
  have hR2 := H1.out.1.later hb2
  have hjn := joined (B := w.heap.size) w2 c br b (fun _ => []) ao cp ys ys hR2 (HE.out.1.mono hbw) hin HE.out.2.2 (compat_none ys) (fun x hx => hx) (fun x hx => .inr hx) (by simp [allR]; omega)
  have hjn2 := hjn.mono (R' := fun e w' => ∃ (n : Nat) (c' : Nat → Nat) (R' : Rws), e = .returned (.tuple #[.int .i64 (n : Int), .nilIface]) ∧ Aside (RepOwn w.heap.size w' c' br b R' ∧ (∀ x, x ∈ allR R' ↔ x ∈ ys) ∧ Below w.heap.size w w')) (fun e w' q => by
    obtain ⟨n, c', R', he, hA, hR', hm, _⟩ := q
    exact ⟨n, c', R', he, hR', fun x => by rw [hm x]; simp [allR], hbw.trans (hR2.below hA hbw.size)⟩)
  clear hjn hR2 hbw hin ho2 hb2
  go_wp2_with fail
  refine hjn2.mono ?_
  clear hjn2
  rintro e w3 ⟨n, c', R', rfl, H3⟩
  go_wp2
  go_ret
  exact ⟨c', br, R', rfl, H3.out⟩
def TrnShort (t : Trn) : Prop := t.2.2.2.2.2.2.2.2.1.size ≤ 60 ∧ t.2.2.2.2.2.2.2.2.2.size ≤ 60
def LongOut (w : World) (l : List Trn) (e : Ending) (w' : World) : Prop := ∃ z, e = .returned (.bool z) ∧ Aside ((z = false → l.length ≤ 60 ∧ ∀ t ∈ l, TrnShort t) ∧ w' = w)
set_option maxRecDepth 100000 in
set_option maxHeartbeats 4000000 in
theorem longT_any (w : World) (la : Option Addr) (lc : Nat) (l : List Trn) (hin : InRow encTr w la l) (hn : l.length < 9223372036854775808) :
    Calls Tryz.prog 29 #[.slice la l.length lc] w (LongOut w l) := by
  have HI : Aside (InRow encTr w la l) := hin
  clear hin
  by_cases hl : l.length ≤ 60
  · have d0 : decide ((60 : Int) < (l.length : Int)) = false := by simp; omega
    have d0n : decide (60 < l.length) = false := by simp; omega
    go_enter Tryz.func29, Tryz.ntmps29
    go_wp2
    go_loopg [3] l.length (fun kx s3 wr => ∃ (k : Nat), s3 = .int .i64 (k : Int) ∧ k ≤ l.length ∧ l.length - k ≤ kx ∧ Aside ((∀ t ∈ l.take k, TrnShort t) ∧ wr = w))
    case atStart => exact ⟨0, rfl, Nat.zero_le _, Nat.le_refl _, fun t ht => by simp at ht, rfl⟩
    case round =>
      obtain ⟨k, rfl, hk, hkx, A⟩ := hrel
      obtain rfl : wr = w := A.out.2
      by_cases hlt : k < l.length
      · have d2 : decide ((k : Int) < (l.length : Int)) = true := by simp; omega
        have wk : ((k : Int)).toNat = k := by omega
        have pk : (0 : Int) ≤ (k : Int) := by omega
        have bk : (k : Int) < (l.length : Int) := by omega
        obtain ⟨⟨ba, fr, t, b, n, kd, nd, o, s, v⟩, hx⟩ : ∃ x, Aside (l[k]? = some x) := ⟨l[k], List.getElem?_eq_getElem hlt⟩
        obtain ⟨blk, off, hao, hc⟩ := HI.out.get encTr_len hx.out
        subst hao
        have r8 := hc 8 _ rfl
        have r9 := hc 9 _ rfl
        clear hc
        by_cases h1 : s.size ≤ 60
        · have e1 : decide ((60 : Int) < (s.size : Int)) = false := by simp; omega
          have e1n : decide (60 < s.size) = false := by simp; omega
          by_cases h2 : v.size ≤ 60
          · have e2 : decide ((60 : Int) < (v.size : Int)) = false := by simp; omega
            have e2n : decide (60 < v.size) = false := by simp; omega
            have HN : Aside (∀ t ∈ l.take (k + 1), TrnShort t) := fun t ht => by
              rw [List.take_add_one, hx.out] at ht
              rcases List.mem_append.1 ht with ht | ht
              · exact A.out.1 t ht
              · simp at ht
                subst ht
                exact ⟨h1, h2⟩
            clear A h1 h2
            go_wp2
            go_roundg (l.length - (k + 1))
            case measure => omega
            case rel => exact ⟨k + 1, by go_num, by omega, Nat.le_refl _, HN.out, rfl⟩
          · have e2 : decide ((60 : Int) < (v.size : Int)) = true := by simp; omega
            have e2n : decide (60 < v.size) = true := by simp; omega
            go_wp2
            go_ret
            exact ⟨true, rfl, ⟨(fun h => Bool.noConfusion h), rfl⟩⟩
        · have e1 : decide ((60 : Int) < (s.size : Int)) = true := by simp; omega
          have e1n : decide (60 < s.size) = true := by simp; omega
          go_wp2
          go_ret
          exact ⟨true, rfl, ⟨(fun h => Bool.noConfusion h), rfl⟩⟩
      · have d2 : decide ((k : Int) < (l.length : Int)) = false := by simp; omega
        have ek : l.take k = l := List.take_of_length_le (by omega)
        rw [ek] at A
        go_wp2
        go_ret
        exact ⟨false, rfl, ⟨fun _ => ⟨hl, A.out.1⟩, rfl⟩⟩
  · have d0 : decide ((60 : Int) < (l.length : Int)) = true := by simp; omega
    have d0n : decide (60 < l.length) = true := by simp; omega
    go_enter Tryz.func29, Tryz.ntmps29
    go_wp2
    go_ret
    exact ⟨true, rfl, ⟨(fun h => Bool.noConfusion h), rfl⟩⟩
end Go.Proofs.YtehighgebbdenaaGreatDoor
end
section
set_option linter.unusedVariables false
set_option linter.unusedSimpArgs false
namespace Go.Proofs.YtehighgebbdenaaGreatDoor
open Go.RowKit
open scoped Classical
structure EnvV (m : Int) (w : World) : Prop where
  tab : Lib.TabIs Tryz.prog w "internal/strconv.uint64pow10" .u64 Lib.pow10Tab
  max : w.cell? ⟨13, 0, none⟩ = some (.int .i64 m)
theorem EnvV.later {m : Int} {w w' : World} (h : EnvV m w) (hb : Below w.heap.size w w') : EnvV m w' := ⟨Lib.tabBelow_of_tabIs h.tab w' hb, cellKept hb h.max⟩
theorem pathL_len {qs L : List Plc} (h : ∀ p ∈ L, FineQ p) : (pathL qs L).length ≤ L.length * 2001 := by
  rw [pathL_is]
  have h1 := flatten_le (m := 2001) ((namesOf qs L).map (47 :: ·)) (fun y hy => by
    obtain ⟨z, hz, rfl⟩ := List.mem_map.1 hy
    unfold namesOf at hz
    rw [List.mem_reverse] at hz
    obtain ⟨p, hp, rfl⟩ := List.mem_map.1 hz
    have := nmB_size (qs := qs) (h p hp)
    rw [List.length_cons, listLen]
    omega)
  have e : ((namesOf qs L).map (47 :: ·)).length = L.length := by simp [namesOf]
  rw [e] at h1
  exact h1
theorem find_path (w : World) (br bt bm n : Nat) (v : Value) (f : Sta) (h : ViewAt w br bt bm n v f) (qs : List Plc) (hq : IsPlaces f qs) (hql : qs.length ≤ 300) (x : Int) (L : List Plc) (hu : UpL f x L) (hi : Ins f x 0) (m : Int) (hE : EnvV m w) :
    Calls Tryz.prog 33 #[.pointer (some ⟨br, 0, none⟩), .string ⟨(pathL qs L).toArray⟩] w fun e w' => e = .returned (.tuple #[.int .i64 x, .bool true]) ∧ Below w.heap.size w w' := by
  obtain ⟨nm, e1, e2, e3⟩ := path_found h.shown hq hu hi
  have hLl := up_len h.shown.good hq hu
  have hfL : ∀ p ∈ L, FineQ p := fun p hp => by
    rcases up_get hu p hp with k | ⟨y, k⟩
    · exact fineQ_of h.shown hq _ (up_mem h.shown.good hq k)
    · exact fineQ_of h.shown hq _ (up_mem h.shown.good hq k)
  have hlen := pathL_len (qs := qs) hfL
  have k := find_in w br bt bm n v f h qs hq hql ⟨(pathL qs L).toArray⟩ nm (by simpa using e1) e2 (by simp only [ByteArray.size, List.size_toArray]; omega) hE.tab m hE.max
  rw [e3] at k
  refine k.mono ?_
  rintro e w' ⟨hh, hb⟩
  rcases hh with ⟨b, rfl, hw⟩ | ⟨_, pre, nm', rest, b, ee, hw, hno⟩
  · rw [walk_up h.shown hq hu (.inr hi) hw]
    exact ⟨rfl, hb⟩
  · exact absurd hno (walk_not h.shown hq hu (.inr hi) ee hw)
def plcA : Plc := (4, 0, ⟨#[97]⟩)
def movA : Mov := ((1, 0), plcA)
def opA : OpX := (1, 0, 1, 109, 4, 0, ⟨#[97]⟩, ⟨#[]⟩)
theorem one_mov {ms : List Mov} (hb : ByStamp ms) (h1 : ∀ m ∈ ms, m = movA) (h2 : ms ≠ []) : ms = [movA] := by
  match ms, hb, h1, h2 with
  | [], _, _, h2 => exact absurd rfl h2
  | [a], _, h1, _ => rw [h1 a (by simp)]
  | a :: b :: r, hb, h1, _ =>
    have := (List.pairwise_cons.1 hb).1 b (by simp)
    rw [h1 a (by simp), h1 b (by simp)] at this
    exact absurd this slt_irrefl
theorem made_A : madeBy [movA] = upd noSta 4 (some plcA) := by
  show step noSta movA = _
  rw [step_goes]
  · rfl
  · rintro (q | q)
    · revert q; decide
    · exact ins_none (by rfl) q
theorem wellA : WellK [opA] := by
  have h0 : errO opA = 0 := by decide
  refine ⟨fun x hx => ?_, fun x hx y hy _ _ => ?_, fun x hx => ?_, fun x hx y hy _ h => ?_, fun x hx => ?_⟩
  · simp only [List.mem_singleton] at hx; rw [hx]; exact h0
  · simp only [List.mem_singleton] at hx hy; rw [hx, hy]
  · simp only [List.mem_singleton] at hx; rw [hx]; exact .inl rfl
  · simp only [List.mem_singleton] at hx hy; rw [hx, hy] at h; exact absurd h (by decide)
  · simp only [List.mem_singleton] at hx
    rw [hx]
    exact ⟨.inl ⟨rfl, by decide⟩, fun _ => .inl rfl, fun q => by rcases q with ⟨q, _⟩ | q <;> revert q <;> decide⟩
theorem placesA : IsPlaces (madeBy [movA]) [plcA] := by
  rw [made_A]
  refine ⟨by simp, fun p => ?_⟩
  unfold upd
  constructor
  · intro h
    simp only [List.mem_singleton] at h
    rw [h]; rfl
  · intro h
    split at h
    · rw [List.mem_singleton]; exact (Option.some.inj h).symm
    · simp [noSta] at h
theorem fA : madeBy [movA] 4 = some plcA := by rw [made_A]; rfl
theorem fA0 : madeBy [movA] 0 = none := by rw [made_A]; rfl
theorem insA : Ins (madeBy [movA]) 4 0 := (ins_some fA).2 (.inl rfl)
theorem insA1 : ¬ Ins (madeBy [movA]) 4 1 := fun h => by
  rcases (ins_some fA).1 h with q | q
  · revert q; decide
  · exact ins_none fA0 q
theorem upA : UpL (madeBy [movA]) 4 [plcA] := ⟨fA, fA0⟩
theorem pathA : pathL [plcA] [plcA] = [47, 97] := by
  rw [pathL_is]
  have : (nmB [plcA] plcA) = ⟨#[97]⟩ := by unfold nmB; rw [if_neg (by decide)]; rfl
  simp [namesOf, this]
theorem lostA : lostL (madeBy [movA]) [plcA] = [] := by
  unfold lostL
  have : (decide (Ins (madeBy [movA]) plcA.1 1)) = false := decide_eq_false insA1
  simp [this]
set_option maxRecDepth 100000 in
set_option maxHeartbeats 8000000 in
theorem looked_any {B : Nat} {ad : Nat → Addr} {m : Int} (w : World) (hE : EnvT B ad w) (hV : EnvV m w) :
    Calls Tryz.prog 28 #[] w fun e w' => e = .returned (.bool true) ∧ Below w.heap.size w w' := by
  obtain ⟨S, hS⟩ : ∃ S, S = w.heap.size := ⟨_, rfl⟩
  obtain ⟨U, hU⟩ : ∃ U, U = w.alloc (.cells #[.int .i64 1, .int .i64 0, .int .i64 1, .int .u8 109, .int .i64 4, .int .i64 0, .string ⟨#[97]⟩, .string ⟨#[]⟩] 38) := ⟨_, rfl⟩
  have hbU : Below w.heap.size w U := by rw [hU]; exact (Below.refl _ w).alloc (Nat.le_refl _) _
  have hops : OpsAt U (.slice (some ⟨S, 0, none⟩) 1 1) [opA] := by
    have hn : U.heap[S]? = some (.cells #[.int .i64 1, .int .i64 0, .int .i64 1, .int .u8 109, .int .i64 4, .int .i64 0, .string ⟨#[97]⟩, .string ⟨#[]⟩] 38 (0, 0)) := by rw [hU, hS]; exact heap_alloc_new w _
    refine .inr ⟨S, 0, 1, rfl, fun j u hj => ?_⟩
    simp only [World.cell?, Nat.zero_add]
    rw [hn]
    simpa [cellsOf, encX, opA] using hj
  have hrep := repOf_any U 0 (.slice (some ⟨S, 0, none⟩) 1 1) [opA] (hE.later hbU) (by omega) (by omega) hops wellA (by simp)
  have H : Aside (EnvV m U ∧ Below w.heap.size w U) := ⟨hV.later hbU, hbU⟩
  clear hops hE hV hbU
  go_enter Tryz.func28, Tryz.ntmps28
  go_wp2_with fail
  rw [← hU, ← hS]
  clear hU hS
  refine hrep.mono ?_
  clear hrep
  rintro e w1 ⟨c, br, R, rfl, H1⟩
  have hall := H1.out.2.1
  have hRK : RowsK R := by obtain ⟨_, _, _, _, _, _, _, _, q, _, _⟩ := H1.out.1.rep; exact q
  have h1R : ∀ i, i < 4 → (R i).length ≤ 1 := fun i hi => by
    rcases Nat.lt_or_ge 1 (R i).length with q | q
    · have k := hRK.num i hi 1 _ (List.getElem?_eq_getElem q)
      have k2 := (hall _).1 (mem_allR.2 ⟨i, hi, List.getElem_mem q⟩)
      rw [List.mem_singleton] at k2
      rw [k2] at k
      exact absurd k.2.1 (by decide)
    · exact q
  have hv := H1.out.1.rep.view (by
    unfold allR
    simp only [List.length_append]
    have := h1R 0 (by omega); have := h1R 1 (by omega); have := h1R 2 (by omega); have := h1R 3 (by omega)
    omega)
  obtain ⟨bt, bm, n, v, ms, qs, hA, hpm, hq, hql, hby⟩ := hv
  have hms : ms = [movA] := by
    refine one_mov hby (fun q hq' => ?_) (fun e => ?_)
    · obtain ⟨x, hx, _, rfl⟩ := mem_movs (hpm.mem_iff.1 hq')
      have := (hall x).1 hx
      rw [List.mem_singleton] at this
      rw [this]; rfl
    · have : movA ∈ ms := hpm.mem_iff.2 (List.mem_filterMap.2 ⟨opA, (hall opA).2 (by simp), by decide⟩)
      rw [e] at this
      cases this
  subst hms
  have hqs : qs = [plcA] := hq.unique placesA
  subst hqs
  have E1 : EnvV m w1 := H.out.1.later H1.out.2.2
  have hfind := find_path w1 br bt bm n v _ hA [plcA] hq (by simp) 4 [plcA] upA insA m E1
  rw [pathA] at hfind
  have HA : Aside (ViewAt w1 br bt bm n v (madeBy [movA]) ∧ EnvV m w1 ∧ Below w.heap.size w w1) := ⟨hA, E1, H.out.2.trans (H1.out.2.2.mono H.out.2.size)⟩
  clear hA hpm hq hql hby E1 H1 H
  go_wp2_with fail
  refine hfind.mono ?_
  clear hfind
  rintro e w2 ⟨rfl, hb2⟩
  have hpath := path_in w2 br bt bm n v _ (HA.out.1.later hb2) [plcA] placesA (by simp) 4 (wf_of (by decide) (by decide)) (by decide) insA [plcA] upA (HA.out.2.1.later hb2).tab
  rw [pathA] at hpath
  go_wp2_with fail
  refine hpath.mono ?_
  clear hpath
  rintro e w3 ⟨rfl, hb3⟩
  have hb13 : Below w1.heap.size w1 w3 := hb2.trans (hb3.mono hb2.size)
  have hlist := list_any w3 br bt bm n v _ (HA.out.1.later hb13) [plcA] placesA (by simp) 0 (HA.out.2.1.later hb13).tab
  have HB : Aside (Below w1.heap.size w1 w3) := hb13
  clear hb2 hb3 hb13
  go_wp2_with fail
  refine hlist.mono ?_
  clear hlist
  rintro e w4 ⟨v', es, rfl, H4⟩
  have hb14 : Below w1.heap.size w1 w4 := HB.out.trans (H4.out.2.2.mono HB.out.size)
  have hlost := lost_any w4 br bt bm n v _ (HA.out.1.later hb14) [plcA] placesA (by simp)
  rw [lostA] at hlost
  obtain ⟨ao, cap, hvs, _⟩ := H4.out.1.isIn
  have hel : es.length = 1 := by
    obtain ⟨R', hR', _, rfl⟩ := H4.out.2.1
    rw [List.length_map, hR'.length_eq]
    rfl
  rw [hel] at hvs
  subst hvs
  have HC : Aside (Below w1.heap.size w1 w4) := hb14
  clear hb14 hel
  go_wp2_with fail
  refine hlost.mono ?_
  clear hlost
  rintro e w5 ⟨v5, rfl, H5⟩
  have hb5 : Below w.heap.size w w5 := (HA.out.2.2.trans (HC.out.mono HA.out.2.2.size)).trans (H5.out.2.mono (Nat.le_trans HA.out.2.2.size HC.out.size))
  obtain ⟨B5, hrow⟩ := H5.out.1
  obtain ⟨x5, y5, rfl⟩ := rowIs hrow
  clear hrow
  go_wp2
  go_ret
  exact ⟨rfl, hb5⟩
end Go.Proofs.YtehighgebbdenaaGreatDoor
end
section
set_option linter.unusedVariables false
set_option linter.unusedSimpArgs false
namespace Go.Proofs.YtehighgebbdenaaGreatDoor
open Go.RowKit Go.Lib Go.Sort Go.Maps
open scoped Classical
def outN (f : Sta) [DecidablePred fun x => Ins f x 0] (L : List Plc) : Nat := (L.filter (fun p => !decide (Ins f p.1 0))).length
theorem outN_lost {f : Sta} (h : Shown f) {L : List Plc} (hL : IsPlaces f L) : outN f L = (lostL f L).length := by
  unfold outN lostL
  rw [List.length_map]
  congr 1
  apply List.filter_congr
  intro p hp
  have k := h.lost ((hL.mem p).1 hp)
  by_cases q : Ins f p.1 0
  · rw [decide_eq_true q, decide_eq_false (fun z => k.1 z q)]; rfl
  · rw [decide_eq_false q, decide_eq_true (k.2 q)]; rfl
set_option maxRecDepth 100000 in
set_option maxHeartbeats 16000000 in
theorem viewPaths_law {B : Nat} {ad : Nat → Addr} {m : Int} (w : World) (la : Option Addr) (lc : Nat) (l : List Trn) (by_ : Int) (hE : EnvT B ad w) (hV : EnvV m w) (hcy : Aside (Cyc ad)) (hin : InRow encTr w la l) (hl : l.length < 9223372036854775808) (hwf : ∀ t ∈ l, TrnShort t → TrnOk t) :
    Calls Tryz.prog 5 #[.slice la l.length lc, .int .i64 by_] w fun e w' => e = .returned (.bool true) ∧ Below w.heap.size w w' := by
  have hlk := looked_any w hE hV
  have HE : Aside (EnvT B ad w ∧ InRow encTr w la l ∧ EnvV m w) := ⟨hE, hin, hV⟩
  clear hE hin hV
  go_enter Tryz.func5, Tryz.ntmps5
  go_wp2_with fail
  refine hlk.mono ?_
  clear hlk
  rintro e w1 ⟨rfl, hb1⟩
  have hlg := longT_any w1 la lc l (HE.out.2.1.later hb1) hl
  have HB1 : Aside (Below w.heap.size w w1) := hb1
  clear hb1
  go_wp2_with fail
  refine hlg.mono ?_
  clear hlg
  rintro e w2 ⟨z, rfl, HZ⟩
  obtain rfl : w2 = w1 := HZ.out.2
  cases z with
  | true =>
    go_wp2
    go_ret
    exact ⟨rfl, HB1.out⟩
  | false =>
    obtain ⟨hl60, hsh⟩ := HZ.out.1 rfl
    by_cases hby : 0 ≤ by_ ∧ by_ < 4
    · obtain ⟨b, rfl⟩ : ∃ b : Nat, by_ = (b : Int) := ⟨by_.toNat, by omega⟩
      have hb4 : b < 4 := by omega
      have d0 : decide ((b : Int) < 0) = false := by simp
      have d1 : decide ((4 : Int) ≤ (b : Int)) = false := by simp; omega
      have d1n : decide (4 ≤ b) = false := by simp; omega
      have eb : ((b : Int)).toNat = b := by omega
      have pb : (0 : Int) ≤ (b : Int) := by omega
      have qb : (b : Int) < 4 := by omega
      have hpl := played_any w2 la lc l (HE.out.1.later HB1.out) hcy (HE.out.2.1.later HB1.out) hl60 (fun t ht => hwf t ht (hsh t ht))
      clear hsh HZ hby
      go_wp2_with fail
      refine hpl.mono ?_
      clear hpl
      rintro e w3 ⟨g, cap, br, K, rfl, HC⟩
      have hnil : ∀ w : World, (binOp .eql 79 (.slice (some ⟨g, 0, none⟩) 4 cap) (.slice none 0 0)).run Tryz.prog w = .ok (.bool false) w := fun w => Lib.run_eql_slice_nil w _ _ _ _ _ _ _ Tryz.underlying79
      have cb := HC.out.cell hb4
      have hrep : ∃ c, RepAt w3 c (br b) (b : Int) (K b) := by
        obtain ⟨c, hf, _⟩ := HC.out.folk
        exact ⟨_, (hf.rep b hb4).rep⟩
      obtain ⟨c, hrep⟩ := hrep
      obtain ⟨bt, bm, n, v, ms, qs, hA, _, hq, hql, _⟩ := hrep.view (by have := HC.out.len hb4; omega)
      have hb23 : Below w2.heap.size w2 w3 := HC.out.below
      have HA : Aside (ViewAt w3 (br b) bt bm n v (madeBy ms) ∧ IsPlaces (madeBy ms) qs ∧ EnvV m w3 ∧ Below w.heap.size w w3) := ⟨hA, hq, (HE.out.2.2.later HB1.out).later hb23, HB1.out.trans (hb23.mono HB1.out.size)⟩
      have c6 := hA.ptr
      have hpl := placesV w3 (br b) bt bm n v _ hA qs hq
      have ht : Calls Tryz.prog 41 #[.pointer (some ⟨br b, 0, none⟩)] w3 fun e w' => e = .returned (.pointer (some ⟨bt, 0, none⟩)) ∧ w' = w3 := by
        clear hpl hA hq hrep HC HA cb hnil
        go_enter Tryz.func41, Tryz.ntmps41
        go_wp2
        go_ret
        exact ⟨rfl, rfl⟩
      clear hA hrep hq c6
      go_wp2_with fail
      refine ht.mono ?_
      clear ht cb hnil
      rintro e w4 ⟨rfl, hw4⟩
      obtain rfl := hw4.symm
      clear hw4
      go_wp2_with fail
      refine hpl.mono ?_
      clear hpl
      rintro e w5 ⟨u, rfl, H5⟩
      obtain ⟨ao, cp, rfl, hP⟩ := H5.out.1.isIn
      have hlo := lost_any w5 (br b) bt bm n v _ (HA.out.1.later H5.out.2) qs HA.out.2.1 hql
      have HP : Aside (PlsIn w5 ao qs) := hP
      clear hP
      go_wp2_with fail
      refine hlo.mono ?_
      clear hlo
      rintro e w6 ⟨v6, rfl, H6⟩
      obtain ⟨B6, hrow6⟩ := H6.out.1
      obtain ⟨x6, y6, rfl⟩ := rowIs hrow6
      have H7 : Aside (Below w5.heap.size w5 w6 ∧ Below w3.heap.size w3 w6) := ⟨H6.out.2, H5.out.2.trans (H6.out.2.mono H5.out.2.size)⟩
      clear hrow6 H6
      obtain ⟨f, hf⟩ : ∃ f, f = madeBy ms := ⟨_, rfl⟩
      rw [← hf] at HA ⊢
      clear hf
      have hlo60 : (lostL f qs).length ≤ 300 := by unfold lostL; rw [List.length_map]; exact Nat.le_trans (List.length_filter_le _ _) hql
      go_wp2
      go_loopg [10, 11] qs.length (fun kx s10 s11 wr => ∃ (k : Nat), s10 = .int .i64 ((outN f (qs.take k) : Nat) : Int) ∧ s11 = .int .i64 (k : Int) ∧ k ≤ qs.length ∧ qs.length - k ≤ kx ∧ Aside (Below w6.heap.size w6 wr))
      case atStart => exact ⟨0, rfl, rfl, Nat.zero_le _, Nat.le_refl _, Below.refl _ _⟩
      case round =>
        obtain ⟨k, rfl, rfl, hk, hkx, A⟩ := hrel
        by_cases hlt : k < qs.length
        · have hltz : decide ((k : Int) < (qs.length : Int)) = true := by simp; omega
          have ek : ((k : Int)).toNat = k := by omega
          have pk : (0 : Int) ≤ (k : Int) := by omega
          have bk : (k : Int) < (qs.length : Int) := by omega
          obtain ⟨⟨nd, j, s⟩, hp⟩ : ∃ p, Aside (qs[k]? = some p) := ⟨qs[k], List.getElem?_eq_getElem hlt⟩
          have hb5r : Below w5.heap.size w5 wr := H7.out.1.trans (A.out.mono H7.out.1.size)
          have hb3r : Below w3.heap.size w3 wr := H7.out.2.trans (A.out.mono H7.out.2.size)
          obtain ⟨blk, off, hao, r0, r1, r2⟩ := (HP.out.later hb5r).get hp.out
          subst hao
          dsimp only at r0 r1 r2
          have hpm := List.mem_of_getElem? hp.out
          have fp : f nd = some (nd, j, s) := (HA.out.2.1.mem _).1 hpm
          have hwn : Wf nd := wf_key HA.out.1.shown.good fp
          have hn0 : nd ≠ 0 := by have := HA.out.1.shown.two nd _ fp; omega
          have Vr := HA.out.1.later hb3r
          have Er := HA.out.2.2.1.later hb3r
          have hout : outN f (qs.take (k + 1)) = outN f (qs.take k) + (if Ins f nd 0 then 0 else 1) := by
            unfold outN
            rw [List.take_add_one, hp.out, List.filter_append, List.length_append]
            congr 1
            by_cases q : Ins f nd 0 <;> simp [q]
          have HR : Aside (Below w5.heap.size w5 wr ∧ Below w3.heap.size w3 wr) := ⟨hb5r, hb3r⟩
          have hon : outN f (qs.take k) ≤ 300 := by unfold outN; exact Nat.le_trans (List.length_filter_le _ _) (by rw [List.length_take]; omega)
          by_cases hi : Ins f nd 0
          · obtain ⟨d, hd⟩ := HA.out.1.shown.good.rank
            obtain ⟨L, hL⟩ := up_exists hd (d nd + 1) nd (by omega)
            have hpath := path_in wr (br b) bt bm n v f Vr qs HA.out.2.1 hql nd hwn hn0 hi L hL Er.tab
            rw [if_pos hi, Nat.add_zero] at hout
            have HO := Lib.hid hout
            have HI : Aside (Ins f nd 0 ∧ UpL f nd L) := ⟨hi, hL⟩
            clear hd hi hL hout fp hwn hn0 hb5r hb3r Vr Er hpm
            go_wp2_with fail
            refine hpath.mono ?_
            clear hpath
            rintro e w8 ⟨rfl, hb8⟩
            have hfind := find_path w8 (br b) bt bm n v f (HA.out.1.later (HR.out.2.trans (hb8.mono HR.out.2.size))) qs HA.out.2.1 hql nd L HI.out.2 HI.out.1 m (HA.out.2.2.1.later (HR.out.2.trans (hb8.mono HR.out.2.size)))
            have HB8 : Aside (Below wr.heap.size wr w8) := hb8
            clear hb8
            go_wp2_with fail
            refine hfind.mono ?_
            clear hfind
            rintro e w9 ⟨rfl, hb9⟩
            have HB9 : Aside (Below wr.heap.size wr w9) := HB8.out.trans (hb9.mono HB8.out.size)
            have y0 := cellKept HB9.out r0
            clear hb9 r0 r1 r2
            go_wp2
            go_roundg (qs.length - (k + 1))
            case measure => omega
            case rel => exact ⟨k + 1, by rw [HO.out]; rfl, by go_num, by omega, Nat.le_refl _, A.out.trans (HB9.out.mono A.out.size)⟩
          · have hpath := path_out wr (br b) bt bm n v f Vr nd hwn hn0 hi
            rw [if_neg hi] at hout
            have HO := Lib.hid hout
            have hw1 : IntKind.i64.wrap (((outN f (qs.take k) : Nat) : Int) + 1) = ((outN f (qs.take k) : Nat) : Int) + 1 := by rw [IntKind.wrap_i64]; omega
            clear hi hout fp hwn hn0 hb5r hb3r Vr Er hpm
            go_wp2_with fail
            refine hpath.mono ?_
            clear hpath
            rintro e w8 ⟨rfl, hb8⟩
            go_wp2
            go_roundg (qs.length - (k + 1))
            case measure => omega
            case rel => exact ⟨k + 1, by rw [HO.out]; rfl, by go_num, by omega, Nat.le_refl _, A.out.trans (hb8.mono A.out.size)⟩
        · have hltz : decide ((k : Int) < (qs.length : Int)) = false := by simp; omega
          have hkz : k = qs.length := by omega
          have e : (((outN f (qs.take k) : Nat) : Int) == (((lostL f qs).length : Nat) : Int)) = true := by
            rw [hkz, List.take_length, outN_lost HA.out.1.shown HA.out.2.1]; simp
          clear hkz
          go_wp2
          go_ret
          exact ⟨rfl, HA.out.2.2.2.trans ((H7.out.2.trans (A.out.mono H7.out.2.size)).mono HA.out.2.2.2.size)⟩
    · clear hsh HZ hwf
      by_cases hn : by_ < 0
      · have d0 : decide (by_ < 0) = true := by simp; omega
        go_wp2
        go_ret
        exact ⟨rfl, HB1.out⟩
      · have d0 : decide (by_ < 0) = false := by simp; omega
        have d1 : decide ((4 : Int) ≤ by_) = true := by simp; omega
        go_wp2
        go_ret
        exact ⟨rfl, HB1.out⟩
end Go.Proofs.YtehighgebbdenaaGreatDoor
end
section
namespace Go.Proofs.YtehighgebbdenaaGreatDoor
theorem laid_list {P : Program} {W : World} {ti tp te ts : TypeId} {ms : Array (String × TypeId)} {nm : String} {f : Field}
    (hi : P.underlying ti = some (.interface ms)) (hrow : ∀ u, P.typeName? 3 u = some nm → u = tp) (hp : P.underlying tp = some (.pointer te)) (he : P.underlying te = some (.struct #[f])) (hft : f.type = ts) (hfo : f.offset = 0) (hs : P.underlying ts = some .string) (hc : P.cellsOf te = 1) (hcs : P.cellsOf ts = 1) :
    ∀ (l : List (String × Nat × List UInt8)) (ps : List MemPlace),
      (∀ x ∈ l, P.globalNamed x.1 = some x.2.1 ∧ (P.globals[x.2.1]?).map (·.type) = some ti) →
      DataW.LaidVars P W (l.map fun x => (x.1, .iface nm (.ptr (.agg [.lit (.string x.2.2)])))) ps → ps.Nodup →
      (∀ b off, MemPlace.cell b off ∈ ps → (∃ c t, W.heap[b]? = some (.cells c t (0, 0))) ∧ ∀ u v, W.cell? ⟨b, off, none⟩ = some (.iface u v) → Value.okWide P W .any 0 u v) →
      ∃ az : List Addr, az.length = l.length ∧ (∀ (i : Nat) (x : String × Nat × List UInt8) (a : Addr), l[i]? = some x → az[i]? = some a → W.cell? ⟨x.2.1, 0, none⟩ = some (.iface tp (.pointer (some a)))) ∧
        (∀ a ∈ az, (∃ c t, W.heap[a.block]? = some (.cells c t (0, 0))) ∧ MemPlace.cell a.block a.off ∈ ps) ∧ az.Nodup
  | [], ps, _, _, _, _ => ⟨[], rfl, by simp, by simp, List.nodup_nil⟩
  | x :: l, ps, hx, hv, hnd, hr => by
    obtain ⟨g, t, cs, fuel, p, q, hg, ht, hvar, hd, hq, e⟩ := hv
    subst e
    obtain ⟨hg', ht'⟩ := hx x (List.mem_cons_self)
    obtain rfl := Option.some.inj (hg'.symm.trans hg)
    obtain rfl := Option.some.inj (ht'.symm.trans ht)
    obtain ⟨l0⟩ := cs
    have ok0 : ∀ u v, l0 = [.iface u v] → Value.okWide P W .any 0 u v := fun u v e => by
      subst e
      exact (hr x.2.1 0 (by simp [MemPlace.row])).2 u v (by simpa using World.var?_cell hg hvar 0)
    obtain ⟨a0, s0, rfl, hc0, hs0, hz0, rfl⟩ := errorString_of_trod hi hrow hp he hft hfo hs hc hcs hd ok0
    have hnd2 := List.nodup_append.1 hnd
    obtain ⟨az, hl, h1, h2, h3⟩ := laid_list hi hrow hp he hft hfo hs hc hcs l q (fun y hy => hx y (List.mem_cons_of_mem _ hy)) hq hnd2.2.1 (fun b off hm => hr b off (List.mem_append_right _ hm))
    have hm0 : MemPlace.cell a0.block a0.off ∈ MemPlace.row ⟨x.2.1, 0, none⟩ (#[Value.iface tp (.pointer (some a0))] : Array Value).size ++ MemPlace.row a0 1 := List.mem_append_right _ (by simp [MemPlace.row])
    refine ⟨a0 :: az, by simp [hl], ?_, ?_, ?_⟩
    · intro i y a hy ha
      cases i with
      | zero =>
        simp only [List.getElem?_cons_zero, Option.some.injEq] at hy ha
        subst hy ha
        simpa using World.var?_cell hg hvar 0
      | succ i =>
        simp only [List.getElem?_cons_succ] at hy ha
        exact h1 i y a hy ha
    · intro a ha
      rcases List.mem_cons.1 ha with rfl | ha
      · exact ⟨(hr _ _ (List.mem_append_left _ hm0)).1, List.mem_append_left _ hm0⟩
      · exact ⟨(h2 a ha).1, List.mem_append_right _ (h2 a ha).2⟩
    · refine List.nodup_cons.2 ⟨fun hin => ?_, h3⟩
      exact hnd2.2.2 _ hm0 _ (h2 a0 hin).2 rfl
theorem Tryz.yStar : "*" ++ "errors.errorString" = "*errors.errorString" := by decide
theorem Tryz.yRow (u : TypeId) (h : Tryz.prog.typeName? 3 u = some "*errors.errorString") : u = 399 :=
  typeName_ptr_named (nm := "errors.errorString") (by rw [Tryz.yStar]; kernel_rfl) (by kernel_rfl) (by decide) u (by rw [Tryz.yStar]; exact h)
theorem Tryz.yCellsS : Tryz.prog.cellsOf 417 = 1 := by kernel_rfl
theorem Tryz.yCellsString : Tryz.prog.cellsOf 9 = 1 := by kernel_rfl
end Go.Proofs.YtehighgebbdenaaGreatDoor
end
section
namespace Go.Proofs.YtehighgebbdenaaGreatDoor
set_option maxRecDepth 100000 in
theorem some_of {W : World} (l : List (String × Nat × List UInt8)) (hn : ∀ x ∈ l, Tryz.prog.globalNamed x.1 = some x.2.1 ∧ (Tryz.prog.globals[x.2.1]?).map (·.type) = some 27)
    (h1 : laidMet Tryz.prog (l.map fun x => (x.1, .iface "*errors.errorString" (.ptr (.agg [.lit (.string x.2.2)])))) W) :
    ∃ az : List Addr, ∀ (i : Nat) x, l[i]? = some x → W.cell? ⟨x.2.1, 0, none⟩ = some (.iface 399 (.pointer (some (az.getD i ⟨0, 0, none⟩)))) := by
  obtain ⟨ps, hv, hnd, hr⟩ := h1
  obtain ⟨az, hl, hcell, -, -⟩ := laid_list Tryz.underlying27 Tryz.yRow Tryz.underlying399 Tryz.underlying417 rfl rfl Tryz.underlying9 Tryz.yCellsS Tryz.yCellsString l ps hn hv hnd hr
  refine ⟨az, fun i x hx => hcell i x _ hx ?_⟩
  have hi : i < az.length := by rw [hl]; exact (List.getElem?_eq_some_iff.1 hx).1
  rw [List.getD_eq_getElem?_getD, List.getElem?_eq_getElem hi]; rfl
end Go.Proofs.YtehighgebbdenaaGreatDoor
end
section
namespace Go.Proofs.YtehighgebbdenaaGreatDoor
open Go.RowKit
theorem cellsInt : Tryz.prog.cellsOf 3 = 1 := by kernel_rfl
end Go.Proofs.YtehighgebbdenaaGreatDoor
end
section
namespace Go.Proofs.YtehighgebbdenaaGreatDoor
open Go.ChangeShapes Go.WideShapes Go.ChangeAt Go.RowKit Go.Joins
theorem cellsOp : Tryz.prog.cellsOf 38 = 8 := by kernel_rfl
theorem cellsStamp2 : Tryz.prog.cellsOf 36 = 2 := by kernel_rfl
theorem cellsByte1 : Tryz.prog.cellsOf 5 = 1 := by kernel_rfl
theorem cellsStr1 : Tryz.prog.cellsOf 9 = 1 := by kernel_rfl
def opD (H : Type) (t b n : Int) (k : Nat) (node other : Int) (name value : ByteArray) : DataW H := .agg [.agg [.lit (.int .i64 t), .lit (.int .i64 b)], .lit (.int .i64 n), .lit (.int .u8 (k : Int)), .lit (.int .i64 node), .lit (.int .i64 other), .lit (.string name.data.toList), .lit (.string value.data.toList)]
structure OpWf (t b n : Int) (k : Nat) (node other : Int) (name value : ByteArray) : Prop where
  t : (Lit.int .i64 t).wf = true
  b : (Lit.int .i64 b).wf = true
  n : (Lit.int .i64 n).wf = true
  k : (Lit.int .u8 (k : Int)).wf = true
  node : (Lit.int .i64 node).wf = true
  other : (Lit.int .i64 other).wf = true
  name : name.size ≤ maxLen
  value : value.size ≤ maxLen
theorem array8 {α : Type} {cs : List α} (h : cs.length = 8) : ∃ c0 c1 c2 c3 c4 c5 c6 c7, cs = [c0, c1, c2, c3, c4, c5, c6, c7] := by
  match cs, h with
  | [c0, c1, c2, c3, c4, c5, c6, c7], _ => exact ⟨c0, c1, c2, c3, c4, c5, c6, c7, rfl⟩
set_option maxRecDepth 100000 in
set_option maxHeartbeats 1000000 in
theorem trod_op {H : Type} {enc : TypeId × Value → H} {W : World} {base : Nat} {sp : Nat → Bool} {held : Bool} {fuel : Nat} {cs : List Value} {x : DataW H × List MemPlace} (h : DataW.trod enc Tryz.prog W base sp held fuel 38 cs = some x) :
    ∃ (t b n : Int) (k : Nat) (node other : Int) (name value : ByteArray), cs = [.int .i64 t, .int .i64 b, .int .i64 n, .int .u8 (k : Int), .int .i64 node, .int .i64 other, .string name, .string value] ∧ x = (opD H t b n k node other name value, []) ∧ OpWf t b n k node other name value := by
  obtain ⟨xs, m, _, rfl, hl, hlen, hf⟩ := DataW.trod_struct Tryz.underlying38 h
  rw [cellsOp] at hl
  obtain ⟨c0, c1, c2, c3, c4, c5, c6, c7, rfl⟩ := array8 hl
  match xs, hlen with
  | [y0, y1, y2, y3, y4, y5, y6], _ =>
    have g0 := hf 0 _ rfl
    have g1 := hf 1 _ rfl
    have g2 := hf 2 _ rfl
    have g3 := hf 3 _ rfl
    have g4 := hf 4 _ rfl
    have g5 := hf 5 _ rfl
    have g6 := hf 6 _ rfl
    simp [cellsStamp2, cellsInt, cellsByte1, cellsStr1] at g0 g1 g2 g3 g4 g5 g6
    obtain ⟨z0, z1, m2, rfl, -, s0, s1⟩ := trod_struct2 Tryz.underlying36 g0
    simp [cellsInt] at s0 s1
    obtain ⟨t, e0, rfl, w0⟩ := DataW.trod_int Tryz.underlying3 s0
    obtain ⟨b, e1, rfl, w1⟩ := DataW.trod_int Tryz.underlying3 s1
    obtain ⟨n, e2, rfl, w2⟩ := DataW.trod_int Tryz.underlying3 g1
    obtain ⟨k, e3, rfl, w3⟩ := DataW.trod_int Tryz.underlying5 g2
    obtain ⟨node, e4, rfl, w4⟩ := DataW.trod_int Tryz.underlying3 g3
    obtain ⟨other, e5, rfl, w5⟩ := DataW.trod_int Tryz.underlying3 g4
    obtain ⟨name, e6, rfl, w6⟩ := DataW.trod_string Tryz.underlying9 g5
    obtain ⟨value, e7, rfl, w7⟩ := DataW.trod_string Tryz.underlying9 g6
    simp at e0 e1 e2 e3 e4 e5 e6 e7
    subst e0 e1 e2 e3 e4 e5 e6 e7
    have hk : 0 ≤ k := by
      simp [Lit.wf, IntKind.min, IntKind.max, IntKind.signed, IntKind.bits] at w3
      omega
    obtain ⟨k', rfl⟩ : ∃ k' : Nat, k = (k' : Int) := ⟨k.toNat, by omega⟩
    exact ⟨t, b, n, k', node, other, name, value, rfl, by simp [opD], ⟨w0, w1, w2, w3, w4, w5, w6, w7⟩⟩
end Go.Proofs.YtehighgebbdenaaGreatDoor
end
section
namespace Go.Proofs.YtehighgebbdenaaGreatDoor
open Go.ChangeShapes Go.WideShapes Go.RowKit Go.Deep
def IntsZ (w : World) (ao : Option Addr) (zs : List Int) : Prop := zs = [] ∨ ∃ blk off, ao = some ⟨blk, off, none⟩ ∧ ∀ j z, zs[j]? = some z → w.cell? ⟨blk, off + j, none⟩ = some (.int .i64 z)
theorem IntsZ.later {w w' : World} {ao : Option Addr} {zs : List Int} (h : IntsZ w ao zs) (hb : Below w.heap.size w w') : IntsZ w' ao zs := by
  rcases h with h | ⟨g, o, h1, h2⟩
  · exact .inl h
  · refine .inr ⟨g, o, h1, fun j z hj => ?_⟩
    rw [hb.cell (p := ⟨g, o + j, none⟩) (World.block_lt_of_cell? w ⟨g, o + j, none⟩ (h2 j z hj))]
    exact h2 j z hj
theorem IntsZ.at {w : World} {ao : Option Addr} {zs : List Int} (h : IntsZ w ao zs) {i : Nat} {z : Int} (hi : zs[i]? = some z) : ∃ blk off, ao = some ⟨blk, off, none⟩ ∧ w.cell? ⟨blk, off + i, none⟩ = some (.int .i64 z) := by
  rcases h with h | ⟨b, o, h1, h2⟩
  · subst h; simp at hi
  · exact ⟨b, o, h1, h2 i z hi⟩
end Go.Proofs.YtehighgebbdenaaGreatDoor
end
