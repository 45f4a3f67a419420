import Derived.Test.YtcggmagdndhkbaaGreatDoorMt32
import Derived.Lib.SliceRun
import Derived.Laws.Cover3
import Derived.WalkKit
import Derived.WalkSpells
import Derived.Below
import Derived.LaidEql
import Derived.LoopN
import Derived.KernelRfl
import Derived.ChangeKeysEq
import Derived.Deep.RegionHeld3
import Derived.Laws.StructEq
section
set_option linter.unusedVariables false
set_option linter.unusedSimpArgs false
namespace Go.Proofs.YtcggmagdndhkbaaGreatDoor
open Go.RowKit Go.Lib Go.Sort Go.Maps
open scoped Classical
def CrowdE (B : Nat) (w : World) (g cap : Nat) (br : Nat → Nat) (i : Nat) (wr : World) : Prop := ∃ K, Crowd B w g cap br K i [] wr
theorem CrowdE.cell {B : Nat} {w : World} {g cap : Nat} {br : Nat → Nat} {i : Nat} {wr : World} (h : CrowdE B w g cap br i wr) {r : Nat} (hr : r < 4) : wr.cell? ⟨g, r, none⟩ = some (.pointer (some ⟨br r, 0, none⟩)) := by obtain ⟨K, h⟩ := h; exact h.cell hr
theorem crowd_join_ops {B : Nat} {ad : Nat → Addr} {w : World} {g cap : Nat} {br : Nat → Nat} {K : Nat → Rws} {i : Nat} {wr w' : World} (h : Crowd B w g cap br K i [] wr) (hE : EnvT B ad w) (hi : i ≤ 60) {a b : Nat} (ha : a < 4) (hb : b < 4) {ao : Option Addr} {ys : List OpX} (q : OpsIn w' ao ys ∧ StableOf (allR (K b)) ys ∧ Below wr.heap.size wr w') (cp : Nat) :
    Calls Tryz.prog 11 #[.pointer (some ⟨br a, 0, none⟩), .slice ao ys.length cp] w' (CJoinOut B w g cap br K i a [] w' (allR (K b))) := by
  have hp := (stable_by q.2.1).1
  exact crowd_join (h.later q.2.2) hE hi ha hb ao cp ys q.1 (fun x hx => hp.mem_iff.1 hx) (fun x hx => .inr (hp.mem_iff.2 hx)) (by have := h.len hb; rw [hp.length_eq]; omega)
theorem vecSame (a0 a1 a2 a3 : Int) (w : World) : (Op.equalIn 10000 48 (.agg #[.int .i64 a0, .int .i64 a1, .int .i64 a2, .int .i64 a3]) (.agg #[.int .i64 a0, .int .i64 a1, .int .i64 a2, .int .i64 a3])).run Tryz.prog w = .ok true w := by
  have u3 := Tryz.underlying3
  have a3' := Tryz.isAgg3
  have z3 := Tryz.sizeOf3
  have c3 : Tryz.prog.cellsOf 3 = 1 := by kernel_rfl
  have hS : Tryz.prog.underlying 48 = some (.array 4 3) := by kernel_rfl
  obtain ⟨i, hi⟩ := info_of_underlying u3
  rw [show (10000 : Nat) = 9999 + 1 from rfl, run_equalIn_array w 9999 _ _ hS hi, c3]
  simp only [show List.range 4 = [0, 1, 2, 3] from rfl, Op.eqItems]
  go_simp
theorem allR_same {R R' : Rws} (h : ∀ j, j < 4 → R j = R' j) : allR R = allR R' := by
  unfold allR
  rw [h 0 (by omega), h 1 (by omega), h 2 (by omega), h 3 (by omega)]
section
variable {B : Nat} {ad : Nat → Addr} {w : World} {g cap : Nat} {br : Nat → Nat} {K : Nat → Rws} {i : Nat} {sf : List Nat} {wr : World}
theorem crowd_ops2 (h : Crowd B w g cap br K i sf wr) (hi : i ≤ 60) {b : Nat} (hb : b < 4) :
    Calls Tryz.prog 13 #[.pointer (some ⟨br b, 0, none⟩)] wr fun e w' => ∃ v ys, e = .returned v ∧ Aside (OpsAt w' v ys ∧ StableOf (allR (K b)) ys ∧ Below wr.heap.size wr w') := by
  obtain ⟨c, hf, hg⟩ := h.folk
  have hlen := h.len hb
  refine (rops_any wr (c b) (br b) (b : Int) (K b) (hf.rep b hb).rep (by omega)).mono ?_
  rintro e w' ⟨v, ys, he, h1, h2, h3, _⟩
  exact ⟨v, ys, he, h1, h2, h3⟩
def StateT (A : List OpX) (X : ByteArray) : Prop := StateIs A X.data.toList
theorem StateT.same {A B : List OpX} {X Y : ByteArray} (hA : WellK A) (e : A.Perm B) (h : StateT A X) (k : StateT B Y) : X = Y := bytes_eq (StateIs.same hA e h k)
theorem crowd_st (h : Crowd B w g cap br K i sf wr) (hE : EnvT B ad w) (hi : i ≤ 60) {b : Nat} (hb : b < 4) :
    Calls Tryz.prog 17 #[.pointer (some ⟨br b, 0, none⟩)] wr fun e w' => ∃ X, e = .returned (.string X) ∧ Aside (StateT (allR (K b)) X ∧ Below wr.heap.size wr w') := by
  refine (crowd_state h hE hi hb).mono ?_
  rintro e w' ⟨s, he, q⟩
  exact ⟨⟨s.toArray⟩, he, by show StateIs _ (s.toArray.toList); simpa using q.out.1, q.out.2⟩
end
set_option maxRecDepth 100000 in
set_option maxHeartbeats 16000000 in
theorem meets_law {B : Nat} {ad : Nat → Addr} (w : World) (la : Option Addr) (lc : Nat) (l : List Trn) (oa : Option Addr) (oc : Nat) (os : List Int) (hE : EnvT B ad w) (hin : InRow encTr w la l) (hio : InRow encI1 w oa os) (hl : l.length < 9223372036854775808) (hol : os.length < 9223372036854775808) (hwf : ∀ t ∈ l, TrnShort t → TrnOk t) :
    Calls Tryz.prog 4 #[.slice la l.length lc, .slice oa os.length oc] w fun e w' => e = .returned (.bool true) ∧ Below w.heap.size w w' := by
  have hbg := begun_any w hE
  have HE : Aside (EnvT B ad w ∧ InRow encTr w la l ∧ InRow encI1 w oa os) := ⟨hE, hin, hio⟩
  clear hE hin hio
  go_enter Tryz.func4, Tryz.ntmps4
  go_wp2_with fail
  refine hbg.mono ?_
  clear hbg
  rintro e w1 ⟨rfl, hb1⟩
  have hlg := longT_any w1 la lc l (HE.out.2.1.later hb1) hl
  have HB1 : Aside (Below w.heap.size w w1) := hb1
  clear hb1
  go_wp2_with fail
  refine hlg.mono ?_
  clear hlg
  rintro e w2 ⟨z, rfl, HZ⟩
  obtain rfl : w2 = w1 := HZ.out.2
  cases z with
  | true =>
    go_wp2
    go_ret
    exact ⟨rfl, HB1.out⟩
  | false =>
    obtain ⟨hl60, hsh⟩ := HZ.out.1 rfl
    by_cases ho : os.length ≤ 30
    · have d0 : decide ((30 : Int) < (os.length : Int)) = false := by simp; omega
      have d0n : decide (30 < os.length) = false := by simp; omega
      have hpl := played_any w2 la lc l (HE.out.1.later HB1.out) (HE.out.2.1.later HB1.out) hl60 (fun t ht => hwf t ht (hsh t ht))
      have HS : Aside (EnvT w2.heap.size ad w2) := (HE.out.1.later HB1.out).up (HE.out.1.later HB1.out).env.size (Nat.le_refl _)
      clear hsh HZ
      go_wp2_with fail
      refine hpl.mono ?_
      clear hpl
      rintro e w3 ⟨g, cap, br, K, rfl, HC⟩
      obtain ⟨n, hn⟩ : ∃ n, n = l.length := ⟨_, rfl⟩
      rw [← hn] at HC
      have hn60 : n ≤ 60 := by omega
      clear hn
      obtain ⟨S, hS⟩ : ∃ S, Aside (S = w2.heap.size) := ⟨_, rfl⟩
      rw [← hS.out] at HC HS
      have hnil : ∀ w : World, (binOp .eql 44 (.slice (some ⟨g, 0, none⟩) 4 cap) (.slice none 0 0)).run Tryz.prog w = .ok (.bool false) w := fun w => Lib.run_eql_slice_nil w _ _ _ _ _ _ _ Tryz.underlying44
      go_wp2
      clear hnil
      go_loopg [7] os.length (fun kx s7 wr => ∃ (i : Nat) (K : Nat → Rws), s7 = .int .i64 (i : Int) ∧ i ≤ os.length ∧ os.length - i ≤ kx ∧ Aside (Crowd S w2 g cap br K n [] wr))
      case atStart => exact ⟨0, K, rfl, Nat.zero_le _, Nat.le_refl _, HC.out⟩
      case round =>
        obtain ⟨i, K, rfl, hi, hix, A⟩ := hrel
        clear HC
        have wi : IntKind.i64.wrap ((i : Int) + 1) = (i : Int) + 1 := by rw [IntKind.wrap_i64]; omega
        by_cases hlt : i + 1 < os.length
        · have d2 : decide ((i : Int) + 1 < (os.length : Int)) = true := by simp; omega
          have d2n : decide (i + 1 < os.length) = true := by simp; omega
          have wk : ((i : Int)).toNat = i := by omega
          have pk : (0 : Int) ≤ (i : Int) := by omega
          have bk : (i : Int) < (os.length : Int) := by omega
          have wk1 : ((i : Int) + 1).toNat = i + 1 := by omega
          have pk1 : (0 : Int) ≤ (i : Int) + 1 := by omega
          have bk1 : (i : Int) + 1 < (os.length : Int) := by omega
          obtain ⟨oA, hxA⟩ : ∃ x, Aside (os[i]? = some x) := ⟨os[i], List.getElem?_eq_getElem (by omega)⟩
          obtain ⟨oB, hxB⟩ : ∃ x, Aside (os[i + 1]? = some x) := ⟨os[i + 1], List.getElem?_eq_getElem hlt⟩
          have hbw : Below w.heap.size w wr := by
            have := A.out.below
            rw [hS.out] at this
            exact HB1.out.trans (this.mono HB1.out.size)
          obtain ⟨blk, off, hao, hcA⟩ := (HE.out.2.2.later hbw).get encI1_len hxA.out
          have hcB := (HE.out.2.2.later hbw).get encI1_len hxB.out
          subst hao
          obtain ⟨blk', off', hao', hcB⟩ := hcB
          cases hao'
          have r0 := hcA 0 _ rfl
          have r1 := hcB 0 _ rfl
          simp only [Nat.add_zero, Nat.mul_one] at r0 r1
          clear hcA hcB hbw
          obtain ⟨u, hu⟩ : ∃ u, u = wr := ⟨_, rfl⟩
          subst hu
          go_upto_region 12 with fail
          obtain ⟨zo, hzo⟩ : ∃ zo : Bool, Aside (zo = true ↔ ¬ (0 ≤ oA ∧ oA < 4 ∧ 0 ≤ oB ∧ oB < 4)) := ⟨decide (¬ (0 ≤ oA ∧ oA < 4 ∧ 0 ≤ oB ∧ oB < 4)), by show decide _ = true ↔ _; exact decide_eq_true_iff⟩
          go_cut [64] (fun s64 wx => s64 = .bool zo ∧ wx = u)
          case first =>
            by_cases q1 : oA < 0
            · have e1 : decide (oA < 0) = true := by simp; omega
              obtain rfl : zo = true := hzo.out.2 (by omega)
              go_wp2
              go_meet
              exact ⟨rfl, rfl⟩
            · have e1 : decide (oA < 0) = false := by simp; omega
              by_cases q2 : 4 ≤ oA
              · have e2 : decide (4 ≤ oA) = true := by simp; omega
                obtain rfl : zo = true := hzo.out.2 (by omega)
                go_wp2
                go_meet
                exact ⟨rfl, rfl⟩
              · have e2 : decide (4 ≤ oA) = false := by simp; omega
                by_cases q3 : oB < 0
                · have e3 : decide (oB < 0) = true := by simp; omega
                  obtain rfl : zo = true := hzo.out.2 (by omega)
                  go_wp2
                  go_meet
                  exact ⟨rfl, rfl⟩
                · have e3 : decide (oB < 0) = false := by simp; omega
                  have e4 : decide (4 ≤ oB) = zo := by
                    rw [Bool.eq_iff_iff, decide_eq_true_iff, hzo.out]
                    omega
                  go_wp2
                  go_meet
                  exact ⟨rfl, rfl⟩
          case rest =>
          obtain ⟨rfl, rfl⟩ := hcut
          obtain ⟨U1, hU1⟩ : ∃ U1, U1 = wc := ⟨_, rfl⟩
          subst hU1
          clear r0 r1
          cases zo with
          | true =>
            go_wp2
            go_roundg (os.length - (i + 1))
            case measure => omega
            case rel => exact ⟨i + 1, K, by go_num, by omega, Nat.le_refl _, A.out⟩
          | false =>
            have hab : 0 ≤ oA ∧ oA < 4 ∧ 0 ≤ oB ∧ oB < 4 := by
              by_cases q : 0 ≤ oA ∧ oA < 4 ∧ 0 ≤ oB ∧ oB < 4
              · exact q
              · have := hzo.out.2 q; cases this
            obtain ⟨a, rfl⟩ : ∃ a : Nat, oA = (a : Int) := ⟨oA.toNat, by omega⟩
            obtain ⟨b, rfl⟩ : ∃ b : Nat, oB = (b : Int) := ⟨oB.toNat, by omega⟩
            have ha4 : a < 4 := by omega
            have hb4 : b < 4 := by omega
            have wa : ((a : Int)).toNat = a := by omega
            have pa : (0 : Int) ≤ (a : Int) := by omega
            have qa : (a : Int) < 4 := by omega
            have wb : ((b : Int)).toNat = b := by omega
            have pb : (0 : Int) ≤ (b : Int) := by omega
            have qb : (b : Int) < 4 := by omega
            clear hab hzo
            have C0 : Crowd S w2 g cap br K n [] U1.drew := A.out.later (Below.refl _ U1).drew
            have CE0 : CrowdE S w2 g cap br n U1.drew := ⟨K, C0⟩
            have hop := crowd_ops C0 hn60 hb4
            go_upto_region 13 with fail
            refine wp_region_H (S := (fun w' => CrowdE S w2 g cap br n w')) (by kernel_rfl) CE0 (fun hHeld => ?_)
            refine wpAnyH_take (i := 0) (v := ?vaa0) rfl (by kernel_rfl) (by kernel_rfl) (by kernel_rfl) (fun _ _ _ h => h) (Or.inl ⟨by rfl, ?hya0⟩) hHeld ?resta0
            case hya0 => (intro w' _; go_simp; try with_reducible rfl)
            try simp only [List.getElem_toArray, List.getElem_cons_succ, List.getElem_cons_zero, Act.put, List.setIfInBounds_toArray, List.set_cons_zero, List.set_cons_succ]
            refine wpAnyH_take (i := 1) (v := ?vaa1) rfl (by kernel_rfl) (by kernel_rfl) (by kernel_rfl) (fun _ _ _ h => h) (Or.inl ⟨by rfl, ?hya1⟩) hHeld ?resta1
            case hya1 => (intro w' _; go_simp; try with_reducible rfl)
            try simp only [List.getElem_toArray, List.getElem_cons_succ, List.getElem_cons_zero, Act.put, List.setIfInBounds_toArray, List.set_cons_zero, List.set_cons_succ]
            refine wpAnyH_take (i := 2) (v := ?vaa2) rfl (by kernel_rfl) (by kernel_rfl) (by kernel_rfl) (fun _ _ _ h => h) (Or.inl ⟨by rfl, ?hya2⟩) hHeld ?resta2
            case hya2 => (intro w' _; go_simp; try with_reducible rfl)
            try simp only [List.getElem_toArray, List.getElem_cons_succ, List.getElem_cons_zero, Act.put, List.setIfInBounds_toArray, List.set_cons_zero, List.set_cons_succ]
            refine wpAnyH_take (i := 3) (v := ?vaa3) rfl (by kernel_rfl) (by kernel_rfl) (by kernel_rfl) (fun _ _ _ h => h) (Or.inl ⟨by rfl, ?hya3⟩) hHeld ?resta3
            case hya3 => (intro w' hSw; have q2 := CrowdE.cell hSw ha4; clear hSw; go_simp; try with_reducible rfl)
            try simp only [List.getElem_toArray, List.getElem_cons_succ, List.getElem_cons_zero, Act.put, List.setIfInBounds_toArray, List.set_cons_zero, List.set_cons_succ]
            refine wpAnyH_take (i := 4) (v := ?vaa4) rfl (by kernel_rfl) (by kernel_rfl) (by kernel_rfl) (fun _ _ _ h => h) (Or.inl ⟨by rfl, ?hya4⟩) hHeld ?resta4
            case hya4 => (intro w' _; go_simp; try with_reducible rfl)
            try simp only [List.getElem_toArray, List.getElem_cons_succ, List.getElem_cons_zero, Act.put, List.setIfInBounds_toArray, List.set_cons_zero, List.set_cons_succ]
            refine wpAnyH_take (i := 5) (v := ?vaa5) rfl (by kernel_rfl) (by kernel_rfl) (by kernel_rfl) (fun _ _ _ h => h) (Or.inl ⟨by rfl, ?hya5⟩) hHeld ?resta5
            case hya5 => (intro w' _; go_simp; try with_reducible rfl)
            try simp only [List.getElem_toArray, List.getElem_cons_succ, List.getElem_cons_zero, Act.put, List.setIfInBounds_toArray, List.set_cons_zero, List.set_cons_succ]
            refine wpAnyH_take (i := 6) (v := ?vaa6) rfl (by kernel_rfl) (by kernel_rfl) (by kernel_rfl) (fun _ _ _ h => h) (Or.inl ⟨by rfl, ?hya6⟩) hHeld ?resta6
            case hya6 => (intro w' _; go_simp; try with_reducible rfl)
            try simp only [List.getElem_toArray, List.getElem_cons_succ, List.getElem_cons_zero, Act.put, List.setIfInBounds_toArray, List.set_cons_zero, List.set_cons_succ]
            refine wpAnyH_take (i := 7) (v := ?vaa7) rfl (by kernel_rfl) (by kernel_rfl) (by kernel_rfl) (fun _ _ _ h => h) (Or.inl ⟨by rfl, ?hya7⟩) hHeld ?resta7
            case hya7 => (intro w' hSw; have q2 := CrowdE.cell hSw hb4; clear hSw; go_simp; try with_reducible rfl)
            try simp only [List.getElem_toArray, List.getElem_cons_succ, List.getElem_cons_zero, Act.put, List.setIfInBounds_toArray, List.set_cons_zero, List.set_cons_succ]
            refine wpAnyH_one (i := 8) (by kernel_rfl) rfl (fun K hK => ?_)
            go_simp
            refine hop.mono ?_
            clear hop
            rintro e w5 ⟨ax, xc, xs, rfl, HX⟩
            have hjn := crowd_join_ops C0 HS.out hn60 ha4 hb4 HX.out xc
            refine hK _ _ ⟨_, C0.later HX.out.2.2⟩ ?_
            clear hK K
            try simp only [List.getElem_toArray, List.getElem_cons_succ, List.getElem_cons_zero, Act.put, List.setIfInBounds_toArray, List.set_cons_zero, List.set_cons_succ]
            refine wpAnyH_one (i := 9) (by kernel_rfl) rfl (fun K hK => ?_)
            go_simp
            refine hjn.mono ?_
            clear hjn
            rintro e w6 ⟨m, R', rfl, H6⟩
            have CE6 : CrowdE S w2 g cap br n w6 := ⟨_, H6.out.1⟩
            refine hK _ _ CE6 ?_
            clear hK K C0 CE0 HX
            try simp only [List.getElem_toArray, List.getElem_cons_succ, List.getElem_cons_zero, Act.put, List.setIfInBounds_toArray, List.set_cons_zero, List.set_cons_succ]
            refine wpAnyH_take (i := 10) (v := ?vab10) rfl (by kernel_rfl) (by kernel_rfl) (by kernel_rfl) (fun _ _ _ h => h) (Or.inl ⟨by rfl, ?hyb10⟩) CE6 ?restb10
            case hyb10 => (intro w' _; go_simp; try with_reducible rfl)
            try simp only [List.getElem_toArray, List.getElem_cons_succ, List.getElem_cons_zero, Act.put, List.setIfInBounds_toArray, List.set_cons_zero, List.set_cons_succ]
            refine wpAnyH_take (i := 11) (v := ?vab11) rfl (by kernel_rfl) (by kernel_rfl) (by kernel_rfl) (fun _ _ _ h => h) (Or.inl ⟨by rfl, ?hyb11⟩) CE6 ?restb11
            case hyb11 => (intro w' _; go_simp; try with_reducible rfl)
            try simp only [List.getElem_toArray, List.getElem_cons_succ, List.getElem_cons_zero, Act.put, List.setIfInBounds_toArray, List.set_cons_zero, List.set_cons_succ]
            refine wpAnyH_take (i := 12) (v := ?vab12) rfl (by kernel_rfl) (by kernel_rfl) (by kernel_rfl) (fun _ _ _ h => h) (Or.inl ⟨by rfl, ?hyb12⟩) CE6 ?restb12
            case hyb12 => (intro w' _; go_simp; try with_reducible rfl)
            try simp only [List.getElem_toArray, List.getElem_cons_succ, List.getElem_cons_zero, Act.put, List.setIfInBounds_toArray, List.set_cons_zero, List.set_cons_succ]
            refine wpAnyH_take (i := 13) (v := ?vab13) rfl (by kernel_rfl) (by kernel_rfl) (by kernel_rfl) (fun _ _ _ h => h) (Or.inl ⟨by rfl, ?hyb13⟩) CE6 ?restb13
            case hyb13 => (intro w' _; go_simp; try with_reducible rfl)
            try simp only [List.getElem_toArray, List.getElem_cons_succ, List.getElem_cons_zero, Act.put, List.setIfInBounds_toArray, List.set_cons_zero, List.set_cons_succ]
            refine wpAnyH_take (i := 14) (v := ?vab14) rfl (by kernel_rfl) (by kernel_rfl) (by kernel_rfl) (fun _ _ _ h => h) (Or.inl ⟨by rfl, ?hyb14⟩) CE6 ?restb14
            case hyb14 => (intro w' _; go_simp; try with_reducible rfl)
            try simp only [List.getElem_toArray, List.getElem_cons_succ, List.getElem_cons_zero, Act.put, List.setIfInBounds_toArray, List.set_cons_zero, List.set_cons_succ]
            refine wpAnyH_done (by kernel_rfl) ?_ _
            try simp only [List.getElem_toArray, List.getElem_cons_succ, List.getElem_cons_zero, Act.put, List.setIfInBounds_toArray, List.set_cons_zero, List.set_cons_succ]
            clear CE6
            go_wp2
            go_roundg (os.length - (i + 1))
            case measure => omega
            case rel => exact ⟨i + 1, _, by go_num, by omega, Nat.le_refl _, H6.out.1⟩
        · have d2 : decide ((i : Int) + 1 < (os.length : Int)) = false := by simp; omega
          have d2n : decide (i + 1 < os.length) = false := by simp; omega
          obtain ⟨U, hU⟩ : ∃ U : Nat → List OpX, Aside (U = fun r => allR (K r)) := ⟨_, rfl⟩
          have HA : Aside (Crowd S w2 g cap br K n [] wr ∧ Met4 U (fun r => allR (K r)) 0 0) := ⟨A.out, by rw [hU.out]; exact met_start _⟩
          clear A hU
          go_wp2
          clear d2 d2n wi
          go_loopg [12] 2 (fun kx s12 wr => ∃ (k : Nat) (K : Nat → Rws), s12 = .int .i64 (k : Int) ∧ k ≤ 2 ∧ 2 - k ≤ kx ∧ Aside (Crowd S w2 g cap br K n [] wr ∧ (k = 0 → Met4 U (fun r => allR (K r)) 0 0) ∧ (k = 1 → Met4 U (fun r => allR (K r)) 1 0) ∧ (k = 2 → Met4 U (fun r => allR (K r)) 1 4)))
          case atStart => exact ⟨0, K, rfl, by omega, by omega, HA.out.1, fun _ => HA.out.2, fun h => by omega, fun h => by omega⟩
          case round =>
            obtain ⟨k, K, rfl, hk2, hkx, A⟩ := hrel
            clear HA
            by_cases hlt2 : k < 2
            · have d3 : decide ((k : Int) < 2) = true := by simp; omega
              have HA : Aside (Crowd S w2 g cap br K n [] wr ∧ Met4 U (fun r => allR (K r)) k 0) := by
                refine ⟨A.out.1, ?_⟩
                have hk01 : k = 0 ∨ k = 1 := by omega
                rcases hk01 with rfl | rfl
                · exact A.out.2.1 rfl
                · exact A.out.2.2.1 rfl
              clear A
              obtain ⟨u, hu⟩ : ∃ u, u = wr := ⟨_, rfl⟩
              subst hu
              go_wp2
              go_loopg [13] 4 (fun kx s13 wr => ∃ (a : Nat) (K : Nat → Rws), s13 = .int .i64 (a : Int) ∧ a ≤ 4 ∧ 4 - a ≤ kx ∧ Aside (Crowd S w2 g cap br K n [] wr ∧ Met4 U (fun r => allR (K r)) k a))
              case atStart => exact ⟨0, K, rfl, by omega, by omega, HA.out⟩
              case round =>
                obtain ⟨a, K, rfl, ha5, hax, A⟩ := hrel
                clear HA
                by_cases ha4 : a < 4
                · have d4 : decide ((a : Int) < 4) = true := by simp; omega
                  obtain ⟨b, hb⟩ : ∃ b, b = (a + 1) % 4 := ⟨_, rfl⟩
                  have hb4 : b < 4 := by omega
                  have wr1 : IntKind.i64.wrap ((a : Int) + 1) = (a : Int) + 1 := by rw [IntKind.wrap_i64]; omega
                  have hrem : Int.tmod ((a : Int) + 1) 4 = (b : Int) := by rw [Int.tmod_eq_emod_of_nonneg (by omega)]; omega
                  have wa : ((a : Int)).toNat = a := by omega
                  have pa : (0 : Int) ≤ (a : Int) := by omega
                  have qa : (a : Int) < 4 := by omega
                  have wb : ((b : Int)).toNat = b := by omega
                  have pb : (0 : Int) ≤ (b : Int) := by omega
                  have qb : (b : Int) < 4 := by omega
                  have HB : Aside (b = (a + 1) % 4) := hb
                  clear hb
                  obtain ⟨U1, hU1⟩ : ∃ U1, U1 = wr := ⟨_, rfl⟩
                  subst hU1
                  have C0 : Crowd S w2 g cap br K n [] U1.drew := A.out.1.later (Below.refl _ U1).drew
                  have CE0 : CrowdE S w2 g cap br n U1.drew := ⟨K, C0⟩
                  have hop := crowd_ops C0 hn60 hb4
                  go_upto_region 22 with fail
                  refine wp_region_H (S := (fun w' => CrowdE S w2 g cap br n w')) (by kernel_rfl) CE0 (fun hHeld => ?_)
                  refine wpAnyH_take (i := 0) (v := ?vac0) rfl (by kernel_rfl) (by kernel_rfl) (by kernel_rfl) (fun _ _ _ h => h) (Or.inl ⟨by rfl, ?hyc0⟩) hHeld ?restc0
                  case hyc0 => (intro w' _; go_simp; try with_reducible rfl)
                  try simp only [List.getElem_toArray, List.getElem_cons_succ, List.getElem_cons_zero, Act.put, List.setIfInBounds_toArray, List.set_cons_zero, List.set_cons_succ]
                  refine wpAnyH_take (i := 1) (v := ?vac1) rfl (by kernel_rfl) (by kernel_rfl) (by kernel_rfl) (fun _ _ _ h => h) (Or.inl ⟨by rfl, ?hyc1⟩) hHeld ?restc1
                  case hyc1 => (intro w' _; go_simp; try with_reducible rfl)
                  try simp only [List.getElem_toArray, List.getElem_cons_succ, List.getElem_cons_zero, Act.put, List.setIfInBounds_toArray, List.set_cons_zero, List.set_cons_succ]
                  refine wpAnyH_take (i := 2) (v := ?vac2) rfl (by kernel_rfl) (by kernel_rfl) (by kernel_rfl) (fun _ _ _ h => h) (Or.inl ⟨by rfl, ?hyc2⟩) hHeld ?restc2
                  case hyc2 => (intro w' _; go_simp; try with_reducible rfl)
                  try simp only [List.getElem_toArray, List.getElem_cons_succ, List.getElem_cons_zero, Act.put, List.setIfInBounds_toArray, List.set_cons_zero, List.set_cons_succ]
                  refine wpAnyH_take (i := 3) (v := ?vac3) rfl (by kernel_rfl) (by kernel_rfl) (by kernel_rfl) (fun _ _ _ h => h) (Or.inl ⟨by rfl, ?hyc3⟩) hHeld ?restc3
                  case hyc3 => (intro w' hSw; have q2 := CrowdE.cell hSw ha4; clear hSw; go_simp; try with_reducible rfl)
                  try simp only [List.getElem_toArray, List.getElem_cons_succ, List.getElem_cons_zero, Act.put, List.setIfInBounds_toArray, List.set_cons_zero, List.set_cons_succ]
                  refine wpAnyH_take (i := 4) (v := ?vac4) rfl (by kernel_rfl) (by kernel_rfl) (by kernel_rfl) (fun _ _ _ h => h) (Or.inl ⟨by rfl, ?hyc4⟩) hHeld ?restc4
                  case hyc4 => (intro w' _; go_simp; try with_reducible rfl)
                  try simp only [List.getElem_toArray, List.getElem_cons_succ, List.getElem_cons_zero, Act.put, List.setIfInBounds_toArray, List.set_cons_zero, List.set_cons_succ]
                  refine wpAnyH_take (i := 5) (v := ?vac5) rfl (by kernel_rfl) (by kernel_rfl) (by kernel_rfl) (fun _ _ _ h => h) (Or.inl ⟨by rfl, ?hyc5⟩) hHeld ?restc5
                  case hyc5 => (intro w' _; go_simp; try with_reducible rfl)
                  try simp only [List.getElem_toArray, List.getElem_cons_succ, List.getElem_cons_zero, Act.put, List.setIfInBounds_toArray, List.set_cons_zero, List.set_cons_succ]
                  refine wpAnyH_take (i := 6) (v := ?vac6) rfl (by kernel_rfl) (by kernel_rfl) (by kernel_rfl) (fun _ _ _ h => h) (Or.inl ⟨by rfl, ?hyc6⟩) hHeld ?restc6
                  case hyc6 => (intro w' _; go_simp; try with_reducible rfl)
                  try simp only [List.getElem_toArray, List.getElem_cons_succ, List.getElem_cons_zero, Act.put, List.setIfInBounds_toArray, List.set_cons_zero, List.set_cons_succ]
                  refine wpAnyH_take (i := 7) (v := ?vac7) rfl (by kernel_rfl) (by kernel_rfl) (by kernel_rfl) (fun _ _ _ h => h) (Or.inl ⟨by rfl, ?hyc7⟩) hHeld ?restc7
                  case hyc7 => (intro w' _; go_simp; try with_reducible rfl)
                  try simp only [List.getElem_toArray, List.getElem_cons_succ, List.getElem_cons_zero, Act.put, List.setIfInBounds_toArray, List.set_cons_zero, List.set_cons_succ]
                  refine wpAnyH_take (i := 8) (v := ?vac8) rfl (by kernel_rfl) (by kernel_rfl) (by kernel_rfl) (fun _ _ _ h => h) (Or.inl ⟨by rfl, ?hyc8⟩) hHeld ?restc8
                  case hyc8 => (intro w' _; go_simp; try with_reducible rfl)
                  try simp only [List.getElem_toArray, List.getElem_cons_succ, List.getElem_cons_zero, Act.put, List.setIfInBounds_toArray, List.set_cons_zero, List.set_cons_succ]
                  refine wpAnyH_take (i := 9) (v := ?vac9) rfl (by kernel_rfl) (by kernel_rfl) (by kernel_rfl) (fun _ _ _ h => h) (Or.inl ⟨by rfl, ?hyc9⟩) hHeld ?restc9
                  case hyc9 => (intro w' hSw; have q2 := CrowdE.cell hSw hb4; clear hSw; go_simp; try with_reducible rfl)
                  try simp only [List.getElem_toArray, List.getElem_cons_succ, List.getElem_cons_zero, Act.put, List.setIfInBounds_toArray, List.set_cons_zero, List.set_cons_succ]
                  refine wpAnyH_one (i := 10) (by kernel_rfl) rfl (fun K hK => ?_)
                  go_simp
                  refine hop.mono ?_
                  clear hop
                  rintro e w5 ⟨ax, xc, xs, rfl, HX⟩
                  have hjn := crowd_join_ops C0 HS.out hn60 ha4 hb4 HX.out xc
                  refine hK _ _ ⟨_, C0.later HX.out.2.2⟩ ?_
                  clear hK K
                  try simp only [List.getElem_toArray, List.getElem_cons_succ, List.getElem_cons_zero, Act.put, List.setIfInBounds_toArray, List.set_cons_zero, List.set_cons_succ]
                  refine wpAnyH_one (i := 11) (by kernel_rfl) rfl (fun K hK => ?_)
                  go_simp
                  refine hjn.mono ?_
                  clear hjn
                  rintro e w6 ⟨m, R1, rfl, H6⟩
                  have CE6 : CrowdE S w2 g cap br n w6 := ⟨_, H6.out.1⟩
                  refine hK _ _ CE6 ?_
                  clear hK K C0 CE0 HX
                  try simp only [List.getElem_toArray, List.getElem_cons_succ, List.getElem_cons_zero, Act.put, List.setIfInBounds_toArray, List.set_cons_zero, List.set_cons_succ]
                  refine wpAnyH_take (i := 12) (v := ?vad12) rfl (by kernel_rfl) (by kernel_rfl) (by kernel_rfl) (fun _ _ _ h => h) (Or.inl ⟨by rfl, ?hyd12⟩) CE6 ?restd12
                  case hyd12 => (intro w' _; go_simp; try with_reducible rfl)
                  try simp only [List.getElem_toArray, List.getElem_cons_succ, List.getElem_cons_zero, Act.put, List.setIfInBounds_toArray, List.set_cons_zero, List.set_cons_succ]
                  refine wpAnyH_take (i := 13) (v := ?vad13) rfl (by kernel_rfl) (by kernel_rfl) (by kernel_rfl) (fun _ _ _ h => h) (Or.inl ⟨by rfl, ?hyd13⟩) CE6 ?restd13
                  case hyd13 => (intro w' _; go_simp; try with_reducible rfl)
                  try simp only [List.getElem_toArray, List.getElem_cons_succ, List.getElem_cons_zero, Act.put, List.setIfInBounds_toArray, List.set_cons_zero, List.set_cons_succ]
                  refine wpAnyH_take (i := 14) (v := ?vad14) rfl (by kernel_rfl) (by kernel_rfl) (by kernel_rfl) (fun _ _ _ h => h) (Or.inl ⟨by rfl, ?hyd14⟩) CE6 ?restd14
                  case hyd14 => (intro w' _; go_simp; try with_reducible rfl)
                  try simp only [List.getElem_toArray, List.getElem_cons_succ, List.getElem_cons_zero, Act.put, List.setIfInBounds_toArray, List.set_cons_zero, List.set_cons_succ]
                  refine wpAnyH_take (i := 15) (v := ?vad15) rfl (by kernel_rfl) (by kernel_rfl) (by kernel_rfl) (fun _ _ _ h => h) (Or.inl ⟨by rfl, ?hyd15⟩) CE6 ?restd15
                  case hyd15 => (intro w' _; go_simp; try with_reducible rfl)
                  try simp only [List.getElem_toArray, List.getElem_cons_succ, List.getElem_cons_zero, Act.put, List.setIfInBounds_toArray, List.set_cons_zero, List.set_cons_succ]
                  refine wpAnyH_take (i := 16) (v := ?vad16) rfl (by kernel_rfl) (by kernel_rfl) (by kernel_rfl) (fun _ _ _ h => h) (Or.inl ⟨by rfl, ?hyd16⟩) CE6 ?restd16
                  case hyd16 => (intro w' _; go_simp; try with_reducible rfl)
                  try simp only [List.getElem_toArray, List.getElem_cons_succ, List.getElem_cons_zero, Act.put, List.setIfInBounds_toArray, List.set_cons_zero, List.set_cons_succ]
                  refine wpAnyH_done (by kernel_rfl) ?_ _
                  try simp only [List.getElem_toArray, List.getElem_cons_succ, List.getElem_cons_zero, Act.put, List.setIfInBounds_toArray, List.set_cons_zero, List.set_cons_succ]
                  clear CE6
                  obtain ⟨K1, hK1⟩ : ∃ K1, Aside (K1 = setAt K a R1) := ⟨_, rfl⟩
                  have C7 : Crowd S w2 g cap br K1 n [] w6.drew := by rw [hK1.out]; exact H6.out.1.later (Below.refl _ w6).drew
                  have CE7 : CrowdE S w2 g cap br n w6.drew := ⟨K1, C7⟩
                  have hop := crowd_ops C7 hn60 ha4
                  go_upto_region 25 with fail
                  refine wp_region_H (S := (fun w' => CrowdE S w2 g cap br n w')) (by kernel_rfl) CE7 (fun hHeld => ?_)
                  refine wpAnyH_take (i := 0) (v := ?vae0) rfl (by kernel_rfl) (by kernel_rfl) (by kernel_rfl) (fun _ _ _ h => h) (Or.inl ⟨by rfl, ?hye0⟩) hHeld ?reste0
                  case hye0 => (intro w' _; go_simp; try with_reducible rfl)
                  try simp only [List.getElem_toArray, List.getElem_cons_succ, List.getElem_cons_zero, Act.put, List.setIfInBounds_toArray, List.set_cons_zero, List.set_cons_succ]
                  refine wpAnyH_take (i := 1) (v := ?vae1) rfl (by kernel_rfl) (by kernel_rfl) (by kernel_rfl) (fun _ _ _ h => h) (Or.inl ⟨by rfl, ?hye1⟩) hHeld ?reste1
                  case hye1 => (intro w' _; go_simp; try with_reducible rfl)
                  try simp only [List.getElem_toArray, List.getElem_cons_succ, List.getElem_cons_zero, Act.put, List.setIfInBounds_toArray, List.set_cons_zero, List.set_cons_succ]
                  refine wpAnyH_take (i := 2) (v := ?vae2) rfl (by kernel_rfl) (by kernel_rfl) (by kernel_rfl) (fun _ _ _ h => h) (Or.inl ⟨by rfl, ?hye2⟩) hHeld ?reste2
                  case hye2 => (intro w' _; go_simp; try with_reducible rfl)
                  try simp only [List.getElem_toArray, List.getElem_cons_succ, List.getElem_cons_zero, Act.put, List.setIfInBounds_toArray, List.set_cons_zero, List.set_cons_succ]
                  refine wpAnyH_take (i := 3) (v := ?vae3) rfl (by kernel_rfl) (by kernel_rfl) (by kernel_rfl) (fun _ _ _ h => h) (Or.inl ⟨by rfl, ?hye3⟩) hHeld ?reste3
                  case hye3 => (intro w' _; go_simp; try with_reducible rfl)
                  try simp only [List.getElem_toArray, List.getElem_cons_succ, List.getElem_cons_zero, Act.put, List.setIfInBounds_toArray, List.set_cons_zero, List.set_cons_succ]
                  refine wpAnyH_take (i := 4) (v := ?vae4) rfl (by kernel_rfl) (by kernel_rfl) (by kernel_rfl) (fun _ _ _ h => h) (Or.inl ⟨by rfl, ?hye4⟩) hHeld ?reste4
                  case hye4 => (intro w' _; go_simp; try with_reducible rfl)
                  try simp only [List.getElem_toArray, List.getElem_cons_succ, List.getElem_cons_zero, Act.put, List.setIfInBounds_toArray, List.set_cons_zero, List.set_cons_succ]
                  refine wpAnyH_take (i := 5) (v := ?vae5) rfl (by kernel_rfl) (by kernel_rfl) (by kernel_rfl) (fun _ _ _ h => h) (Or.inl ⟨by rfl, ?hye5⟩) hHeld ?reste5
                  case hye5 => (intro w' hSw; have q2 := CrowdE.cell hSw hb4; clear hSw; go_simp; try with_reducible rfl)
                  try simp only [List.getElem_toArray, List.getElem_cons_succ, List.getElem_cons_zero, Act.put, List.setIfInBounds_toArray, List.set_cons_zero, List.set_cons_succ]
                  refine wpAnyH_take (i := 6) (v := ?vae6) rfl (by kernel_rfl) (by kernel_rfl) (by kernel_rfl) (fun _ _ _ h => h) (Or.inl ⟨by rfl, ?hye6⟩) hHeld ?reste6
                  case hye6 => (intro w' _; go_simp; try with_reducible rfl)
                  try simp only [List.getElem_toArray, List.getElem_cons_succ, List.getElem_cons_zero, Act.put, List.setIfInBounds_toArray, List.set_cons_zero, List.set_cons_succ]
                  refine wpAnyH_take (i := 7) (v := ?vae7) rfl (by kernel_rfl) (by kernel_rfl) (by kernel_rfl) (fun _ _ _ h => h) (Or.inl ⟨by rfl, ?hye7⟩) hHeld ?reste7
                  case hye7 => (intro w' _; go_simp; try with_reducible rfl)
                  try simp only [List.getElem_toArray, List.getElem_cons_succ, List.getElem_cons_zero, Act.put, List.setIfInBounds_toArray, List.set_cons_zero, List.set_cons_succ]
                  refine wpAnyH_take (i := 8) (v := ?vae8) rfl (by kernel_rfl) (by kernel_rfl) (by kernel_rfl) (fun _ _ _ h => h) (Or.inl ⟨by rfl, ?hye8⟩) hHeld ?reste8
                  case hye8 => (intro w' _; go_simp; try with_reducible rfl)
                  try simp only [List.getElem_toArray, List.getElem_cons_succ, List.getElem_cons_zero, Act.put, List.setIfInBounds_toArray, List.set_cons_zero, List.set_cons_succ]
                  refine wpAnyH_take (i := 9) (v := ?vae9) rfl (by kernel_rfl) (by kernel_rfl) (by kernel_rfl) (fun _ _ _ h => h) (Or.inl ⟨by rfl, ?hye9⟩) hHeld ?reste9
                  case hye9 => (intro w' hSw; have q2 := CrowdE.cell hSw ha4; clear hSw; go_simp; try with_reducible rfl)
                  try simp only [List.getElem_toArray, List.getElem_cons_succ, List.getElem_cons_zero, Act.put, List.setIfInBounds_toArray, List.set_cons_zero, List.set_cons_succ]
                  refine wpAnyH_one (i := 10) (by kernel_rfl) rfl (fun K hK => ?_)
                  go_simp
                  refine hop.mono ?_
                  clear hop
                  rintro e w8 ⟨ay, yc, ys, rfl, HY⟩
                  have hjn := crowd_join_ops C7 HS.out hn60 hb4 ha4 HY.out yc
                  refine hK _ _ ⟨_, C7.later HY.out.2.2⟩ ?_
                  clear hK K
                  try simp only [List.getElem_toArray, List.getElem_cons_succ, List.getElem_cons_zero, Act.put, List.setIfInBounds_toArray, List.set_cons_zero, List.set_cons_succ]
                  refine wpAnyH_one (i := 11) (by kernel_rfl) rfl (fun K hK => ?_)
                  go_simp
                  refine hjn.mono ?_
                  clear hjn
                  rintro e w9 ⟨m9, R2, rfl, H9⟩
                  have CE9 : CrowdE S w2 g cap br n w9 := ⟨_, H9.out.1⟩
                  refine hK _ _ CE9 ?_
                  clear hK K C7 CE7 HY
                  try simp only [List.getElem_toArray, List.getElem_cons_succ, List.getElem_cons_zero, Act.put, List.setIfInBounds_toArray, List.set_cons_zero, List.set_cons_succ]
                  refine wpAnyH_take (i := 12) (v := ?vaf12) rfl (by kernel_rfl) (by kernel_rfl) (by kernel_rfl) (fun _ _ _ h => h) (Or.inl ⟨by rfl, ?hyf12⟩) CE9 ?restf12
                  case hyf12 => (intro w' _; go_simp; try with_reducible rfl)
                  try simp only [List.getElem_toArray, List.getElem_cons_succ, List.getElem_cons_zero, Act.put, List.setIfInBounds_toArray, List.set_cons_zero, List.set_cons_succ]
                  refine wpAnyH_take (i := 13) (v := ?vaf13) rfl (by kernel_rfl) (by kernel_rfl) (by kernel_rfl) (fun _ _ _ h => h) (Or.inl ⟨by rfl, ?hyf13⟩) CE9 ?restf13
                  case hyf13 => (intro w' _; go_simp; try with_reducible rfl)
                  try simp only [List.getElem_toArray, List.getElem_cons_succ, List.getElem_cons_zero, Act.put, List.setIfInBounds_toArray, List.set_cons_zero, List.set_cons_succ]
                  refine wpAnyH_take (i := 14) (v := ?vaf14) rfl (by kernel_rfl) (by kernel_rfl) (by kernel_rfl) (fun _ _ _ h => h) (Or.inl ⟨by rfl, ?hyf14⟩) CE9 ?restf14
                  case hyf14 => (intro w' _; go_simp; try with_reducible rfl)
                  try simp only [List.getElem_toArray, List.getElem_cons_succ, List.getElem_cons_zero, Act.put, List.setIfInBounds_toArray, List.set_cons_zero, List.set_cons_succ]
                  refine wpAnyH_take (i := 15) (v := ?vaf15) rfl (by kernel_rfl) (by kernel_rfl) (by kernel_rfl) (fun _ _ _ h => h) (Or.inl ⟨by rfl, ?hyf15⟩) CE9 ?restf15
                  case hyf15 => (intro w' _; go_simp; try with_reducible rfl)
                  try simp only [List.getElem_toArray, List.getElem_cons_succ, List.getElem_cons_zero, Act.put, List.setIfInBounds_toArray, List.set_cons_zero, List.set_cons_succ]
                  refine wpAnyH_done (by kernel_rfl) ?_ _
                  try simp only [List.getElem_toArray, List.getElem_cons_succ, List.getElem_cons_zero, Act.put, List.setIfInBounds_toArray, List.set_cons_zero, List.set_cons_succ]
                  clear CE9
                  have HN : Aside (Crowd S w2 g cap br (setAt K1 b R2) n [] w9 ∧ Met4 U (fun r => allR (setAt K1 b R2 r)) k (a + 1)) := by
                    refine ⟨H9.out.1, A.out.2.step (K1 := fun r => allR (K1 r)) ha4 HB.out (by omega) (fun x => ?_) (fun r hr e => ?_) (fun x => ?_) (fun r hr e => ?_)⟩
                    · rw [hK1.out]; (try dsimp only); rw [setAt_is]; exact H6.out.2.1 x
                    · rw [hK1.out]; (try dsimp only); rw [setAt_ne _ _ e]
                    · try dsimp only
                      rw [setAt_is]; exact H9.out.2.1 x
                    · try dsimp only
                      rw [setAt_ne _ _ e]
                  clear A H6 H9 hK1
                  go_wp2
                  go_roundg (4 - (a + 1))
                  case measure => omega
                  case rel => exact ⟨a + 1, _, by go_num, by omega, by omega, HN.out⟩
                · have d4 : decide ((a : Int) < 4) = false := by simp; omega
                  obtain rfl : a = 4 := by omega
                  have HN : Aside (Crowd S w2 g cap br K n [] wr ∧ (k + 1 = 0 → Met4 U (fun r => allR (K r)) 0 0) ∧ (k + 1 = 1 → Met4 U (fun r => allR (K r)) 1 0) ∧ (k + 1 = 2 → Met4 U (fun r => allR (K r)) 1 4)) := by
                    refine ⟨A.out.1, fun h => by omega, fun h => ?_, fun h => ?_⟩
                    · have : k = 0 := by omega
                      subst this
                      exact met_turn A.out.2
                    · have : k = 1 := by omega
                      subst this
                      exact A.out.2
                  clear A
                  go_wp2
                  go_roundg (2 - (k + 1))
                  case measure => omega
                  case rel => exact ⟨k + 1, K, by go_num, by omega, by omega, HN.out⟩
            · have d3 : decide ((k : Int) < 2) = false := by simp; omega
              obtain rfl : k = 2 := by omega
              have HA : Aside (Crowd S w2 g cap br K n [] wr ∧ ∀ r, r < 4 → ∀ j, j < 4 → K r j = K 0 j) := by
                refine ⟨A.out.1, fun r hr j hj => rows_same (A.out.1.rows hr).num (A.out.1.rows (by omega)).num (fun x => (A.out.2.2.2 rfl).all hr x) hj⟩
              clear A
              go_wp2
              clear d3
              go_loopg [16] 4 (fun kx s16 wr => ∃ (a : Nat), s16 = .int .i64 (a : Int) ∧ 1 ≤ a ∧ a ≤ 4 ∧ 4 - a ≤ kx ∧ Aside (Crowd S w2 g cap br K n [] wr))
              case atStart => exact ⟨1, rfl, by omega, by omega, by omega, HA.out.1⟩
              case round =>
                obtain ⟨a, rfl, ha1, ha5, hax, A⟩ := hrel
                by_cases ha4 : a < 4
                · have d4 : decide ((a : Int) < 4) = true := by simp; omega
                  have wa : ((a : Int)).toNat = a := by omega
                  have pa : (0 : Int) ≤ (a : Int) := by omega
                  have qa : (a : Int) < 4 := by omega
                  have h04 : (0 : Nat) < 4 := by omega
                  have hall : allR (K a) = allR (K 0) := allR_same (HA.out.2 a ha4)
                  obtain ⟨U1, hU1⟩ : ∃ U1, U1 = wr := ⟨_, rfl⟩
                  subst hU1
                  have C0 : Crowd S w2 g cap br K n [] U1.drew := A.out.later (Below.refl _ U1).drew
                  have CE0 : CrowdE S w2 g cap br n U1.drew := ⟨K, C0⟩
                  have HW : Aside (WellK (allR (K 0)) ∧ allR (K a) = allR (K 0)) := ⟨(C0.rows h04).well, hall⟩
                  have hst := crowd_st C0 HS.out hn60 ha4
                  clear hall
                  go_upto_region 31 with fail
                  refine wp_region_H (S := (fun w' => CrowdE S w2 g cap br n w')) (by kernel_rfl) CE0 (fun hHeld => ?_)
                  refine wpAnyH_take (i := 0) (v := ?vap0) rfl (by kernel_rfl) (by kernel_rfl) (by kernel_rfl) (fun _ _ _ h => h) (Or.inl ⟨by rfl, ?hyp0⟩) hHeld ?restp0
                  case hyp0 => (intro w' _; go_simp; try with_reducible rfl)
                  try simp only [List.getElem_toArray, List.getElem_cons_succ, List.getElem_cons_zero, Act.put, List.setIfInBounds_toArray, List.set_cons_zero, List.set_cons_succ]
                  refine wpAnyH_take (i := 1) (v := ?vap1) rfl (by kernel_rfl) (by kernel_rfl) (by kernel_rfl) (fun _ _ _ h => h) (Or.inl ⟨by rfl, ?hyp1⟩) hHeld ?restp1
                  case hyp1 => (intro w' _; go_simp; try with_reducible rfl)
                  try simp only [List.getElem_toArray, List.getElem_cons_succ, List.getElem_cons_zero, Act.put, List.setIfInBounds_toArray, List.set_cons_zero, List.set_cons_succ]
                  refine wpAnyH_take (i := 2) (v := ?vap2) rfl (by kernel_rfl) (by kernel_rfl) (by kernel_rfl) (fun _ _ _ h => h) (Or.inl ⟨by rfl, ?hyp2⟩) hHeld ?restp2
                  case hyp2 => (intro w' _; go_simp; try with_reducible rfl)
                  try simp only [List.getElem_toArray, List.getElem_cons_succ, List.getElem_cons_zero, Act.put, List.setIfInBounds_toArray, List.set_cons_zero, List.set_cons_succ]
                  refine wpAnyH_take (i := 3) (v := ?vap3) rfl (by kernel_rfl) (by kernel_rfl) (by kernel_rfl) (fun _ _ _ h => h) (Or.inl ⟨by rfl, ?hyp3⟩) hHeld ?restp3
                  case hyp3 => (intro w' hSw; have q2 := CrowdE.cell hSw ha4; clear hSw; go_simp; try with_reducible rfl)
                  try simp only [List.getElem_toArray, List.getElem_cons_succ, List.getElem_cons_zero, Act.put, List.setIfInBounds_toArray, List.set_cons_zero, List.set_cons_succ]
                  refine wpAnyH_take (i := 5) (v := ?vap5) rfl (by kernel_rfl) (by kernel_rfl) (by kernel_rfl) (fun _ _ _ h => h) (Or.inl ⟨by rfl, ?hyp5⟩) hHeld ?restp5
                  case hyp5 => (intro w' _; go_simp; try with_reducible rfl)
                  try simp only [List.getElem_toArray, List.getElem_cons_succ, List.getElem_cons_zero, Act.put, List.setIfInBounds_toArray, List.set_cons_zero, List.set_cons_succ]
                  refine wpAnyH_take (i := 6) (v := ?vap6) rfl (by kernel_rfl) (by kernel_rfl) (by kernel_rfl) (fun _ _ _ h => h) (Or.inl ⟨by rfl, ?hyp6⟩) hHeld ?restp6
                  case hyp6 => (intro w' _; go_simp; try with_reducible rfl)
                  try simp only [List.getElem_toArray, List.getElem_cons_succ, List.getElem_cons_zero, Act.put, List.setIfInBounds_toArray, List.set_cons_zero, List.set_cons_succ]
                  refine wpAnyH_take (i := 7) (v := ?vap7) rfl (by kernel_rfl) (by kernel_rfl) (by kernel_rfl) (fun _ _ _ h => h) (Or.inl ⟨by rfl, ?hyp7⟩) hHeld ?restp7
                  case hyp7 => (intro w' hSw; have q2 := CrowdE.cell hSw h04; clear hSw; go_simp; try with_reducible rfl)
                  try simp only [List.getElem_toArray, List.getElem_cons_succ, List.getElem_cons_zero, Act.put, List.setIfInBounds_toArray, List.set_cons_zero, List.set_cons_succ]
                  refine wpAnyH_one (i := 4) (by kernel_rfl) rfl (fun K hK => ?_)
                  go_simp
                  refine hst.mono ?_
                  clear hst
                  rintro e w5 ⟨X, rfl, HX⟩
                  have C5 := C0.later HX.out.2
                  have CE5 : CrowdE S w2 g cap br n w5 := ⟨_, C5⟩
                  have hst2 : Calls Tryz.prog 17 #[.pointer (some ⟨br 0, 0, none⟩)] w5 fun e w' => e = .returned (.string X) ∧ Aside (Below w5.heap.size w5 w') := (crowd_st C5 HS.out hn60 h04).mono fun e w' q => by
                    obtain ⟨Y, he, q⟩ := q
                    have hs := HX.out.1
                    rw [HW.out.2] at hs
                    rw [← hs.same HW.out.1 (List.Perm.refl _) q.out.1] at he
                    exact ⟨he, q.out.2⟩
                  refine hK _ _ CE5 ?_
                  clear hK K
                  try simp only [List.getElem_toArray, List.getElem_cons_succ, List.getElem_cons_zero, Act.put, List.setIfInBounds_toArray, List.set_cons_zero, List.set_cons_succ]
                  refine wpAnyH_one (i := 8) (by kernel_rfl) rfl (fun K hK => ?_)
                  go_simp
                  refine hst2.mono ?_
                  clear hst2
                  rintro e w6 ⟨rfl, HB6⟩
                  have C6 := C5.later HB6.out
                  have CE6 : CrowdE S w2 g cap br n w6 := ⟨_, C6⟩
                  refine hK _ _ CE6 ?_
                  clear hK K C0 CE0 C5 CE5
                  have hXX : (X != X) = false := bneBytes X
                  have hvec := crowd_vec C6 hn60 ha4
                  try simp only [List.getElem_toArray, List.getElem_cons_succ, List.getElem_cons_zero, Act.put, List.setIfInBounds_toArray, List.set_cons_zero, List.set_cons_succ]
                  refine wpAnyH_take (i := 9) (v := ?vaq9) rfl (by kernel_rfl) (by kernel_rfl) (by kernel_rfl) (fun _ _ _ h => h) (Or.inl ⟨by rfl, ?hyq9⟩) CE6 ?restq9
                  case hyq9 => (intro w' _; go_simp; try with_reducible rfl)
                  try simp only [List.getElem_toArray, List.getElem_cons_succ, List.getElem_cons_zero, Act.put, List.setIfInBounds_toArray, List.set_cons_zero, List.set_cons_succ]
                  refine wpAnyH_take (i := 10) (v := ?vaq10) rfl (by kernel_rfl) (by kernel_rfl) (by kernel_rfl) (fun _ _ _ h => h) (Or.inl ⟨by rfl, ?hyq10⟩) CE6 ?restq10
                  case hyq10 => (intro w' _; go_simp; try with_reducible rfl)
                  try simp only [List.getElem_toArray, List.getElem_cons_succ, List.getElem_cons_zero, Act.put, List.setIfInBounds_toArray, List.set_cons_zero, List.set_cons_succ]
                  refine wpAnyH_take (i := 11) (v := ?vaq11) rfl (by kernel_rfl) (by kernel_rfl) (by kernel_rfl) (fun _ _ _ h => h) (Or.inl ⟨by rfl, ?hyq11⟩) CE6 ?restq11
                  case hyq11 => (intro w' _; go_simp; try with_reducible rfl)
                  try simp only [List.getElem_toArray, List.getElem_cons_succ, List.getElem_cons_zero, Act.put, List.setIfInBounds_toArray, List.set_cons_zero, List.set_cons_succ]
                  refine wpAnyH_take (i := 12) (v := ?vaq12) rfl (by kernel_rfl) (by kernel_rfl) (by kernel_rfl) (fun _ _ _ h => h) (Or.inl ⟨by rfl, ?hyq12⟩) CE6 ?restq12
                  case hyq12 => (intro w' _; go_simp; try with_reducible rfl)
                  try simp only [List.getElem_toArray, List.getElem_cons_succ, List.getElem_cons_zero, Act.put, List.setIfInBounds_toArray, List.set_cons_zero, List.set_cons_succ]
                  refine wpAnyH_take (i := 13) (v := ?vaq13) rfl (by kernel_rfl) (by kernel_rfl) (by kernel_rfl) (fun _ _ _ h => h) (Or.inl ⟨by rfl, ?hyq13⟩) CE6 ?restq13
                  case hyq13 => (intro w' _; go_simp; try with_reducible rfl)
                  try simp only [List.getElem_toArray, List.getElem_cons_succ, List.getElem_cons_zero, Act.put, List.setIfInBounds_toArray, List.set_cons_zero, List.set_cons_succ]
                  refine wpAnyH_take (i := 14) (v := ?vaq14) rfl (by kernel_rfl) (by kernel_rfl) (by kernel_rfl) (fun _ _ _ h => h) (Or.inl ⟨by rfl, ?hyq14⟩) CE6 ?restq14
                  case hyq14 => (intro w' hSw; have q2 := CrowdE.cell hSw ha4; clear hSw; go_simp; try with_reducible rfl)
                  try simp only [List.getElem_toArray, List.getElem_cons_succ, List.getElem_cons_zero, Act.put, List.setIfInBounds_toArray, List.set_cons_zero, List.set_cons_succ]
                  refine wpAnyH_take (i := 16) (v := ?vaq16) rfl (by kernel_rfl) (by kernel_rfl) (by kernel_rfl) (fun _ _ _ h => h) (Or.inl ⟨by rfl, ?hyq16⟩) CE6 ?restq16
                  case hyq16 => (intro w' _; go_simp; try with_reducible rfl)
                  try simp only [List.getElem_toArray, List.getElem_cons_succ, List.getElem_cons_zero, Act.put, List.setIfInBounds_toArray, List.set_cons_zero, List.set_cons_succ]
                  refine wpAnyH_take (i := 17) (v := ?vaq17) rfl (by kernel_rfl) (by kernel_rfl) (by kernel_rfl) (fun _ _ _ h => h) (Or.inl ⟨by rfl, ?hyq17⟩) CE6 ?restq17
                  case hyq17 => (intro w' _; go_simp; try with_reducible rfl)
                  try simp only [List.getElem_toArray, List.getElem_cons_succ, List.getElem_cons_zero, Act.put, List.setIfInBounds_toArray, List.set_cons_zero, List.set_cons_succ]
                  refine wpAnyH_take (i := 18) (v := ?vaq18) rfl (by kernel_rfl) (by kernel_rfl) (by kernel_rfl) (fun _ _ _ h => h) (Or.inl ⟨by rfl, ?hyq18⟩) CE6 ?restq18
                  case hyq18 => (intro w' hSw; have q2 := CrowdE.cell hSw h04; clear hSw; go_simp; try with_reducible rfl)
                  try simp only [List.getElem_toArray, List.getElem_cons_succ, List.getElem_cons_zero, Act.put, List.setIfInBounds_toArray, List.set_cons_zero, List.set_cons_succ]
                  refine wpAnyH_one (i := 15) (by kernel_rfl) rfl (fun K hK => ?_)
                  go_simp
                  refine hvec.mono ?_
                  clear hvec
                  rintro e w7 ⟨rfl, hb7⟩
                  rw [HA.out.2 a ha4 0 (by omega), HA.out.2 a ha4 1 (by omega), HA.out.2 a ha4 2 (by omega), HA.out.2 a ha4 3 (by omega)]
                  have C7 := C6.later hb7
                  have CE7 : CrowdE S w2 g cap br n w7 := ⟨_, C7⟩
                  refine hK _ _ CE7 ?_
                  clear hK K
                  have hvec := crowd_vec C7 hn60 h04
                  try simp only [List.getElem_toArray, List.getElem_cons_succ, List.getElem_cons_zero, Act.put, List.setIfInBounds_toArray, List.set_cons_zero, List.set_cons_succ]
                  refine wpAnyH_one (i := 19) (by kernel_rfl) rfl (fun K hK => ?_)
                  go_simp
                  refine hvec.mono ?_
                  clear hvec
                  rintro e w8 ⟨rfl, hb8⟩
                  have C8 := C7.later hb8
                  have CE8 : CrowdE S w2 g cap br n w8 := ⟨_, C8⟩
                  refine hK _ _ CE8 ?_
                  clear hK K C6 CE6 C7 CE7
                  have hvs := vecSame ((K 0 0).length : Int) ((K 0 1).length : Int) ((K 0 2).length : Int) ((K 0 3).length : Int)
                  have hop := crowd_ops2 C8 hn60 ha4
                  try simp only [List.getElem_toArray, List.getElem_cons_succ, List.getElem_cons_zero, Act.put, List.setIfInBounds_toArray, List.set_cons_zero, List.set_cons_succ]
                  refine wpAnyH_take (i := 20) (v := ?var20) rfl (by kernel_rfl) (by kernel_rfl) (by kernel_rfl) (fun _ _ _ h => h) (Or.inl ⟨by rfl, ?hyr20⟩) CE8 ?restr20
                  case hyr20 => (intro w' _; go_simp; try with_reducible rfl)
                  try simp only [List.getElem_toArray, List.getElem_cons_succ, List.getElem_cons_zero, Act.put, List.setIfInBounds_toArray, List.set_cons_zero, List.set_cons_succ]
                  refine wpAnyH_take (i := 21) (v := ?var21) rfl (by kernel_rfl) (by kernel_rfl) (by kernel_rfl) (fun _ _ _ h => h) (Or.inl ⟨by rfl, ?hyr21⟩) CE8 ?restr21
                  case hyr21 => (intro w' _; go_simp; try with_reducible rfl)
                  try simp only [List.getElem_toArray, List.getElem_cons_succ, List.getElem_cons_zero, Act.put, List.setIfInBounds_toArray, List.set_cons_zero, List.set_cons_succ]
                  refine wpAnyH_take (i := 22) (v := ?var22) rfl (by kernel_rfl) (by kernel_rfl) (by kernel_rfl) (fun _ _ _ h => h) (Or.inl ⟨by rfl, ?hyr22⟩) CE8 ?restr22
                  case hyr22 => (intro w' _; go_simp; try with_reducible rfl)
                  try simp only [List.getElem_toArray, List.getElem_cons_succ, List.getElem_cons_zero, Act.put, List.setIfInBounds_toArray, List.set_cons_zero, List.set_cons_succ]
                  refine wpAnyH_take (i := 23) (v := ?var23) rfl (by kernel_rfl) (by kernel_rfl) (by kernel_rfl) (fun _ _ _ h => h) (Or.inl ⟨by rfl, ?hyr23⟩) CE8 ?restr23
                  case hyr23 => (intro w' _; go_simp; try with_reducible rfl)
                  try simp only [List.getElem_toArray, List.getElem_cons_succ, List.getElem_cons_zero, Act.put, List.setIfInBounds_toArray, List.set_cons_zero, List.set_cons_succ]
                  refine wpAnyH_take (i := 24) (v := ?var24) rfl (by kernel_rfl) (by kernel_rfl) (by kernel_rfl) (fun _ _ _ h => h) (Or.inl ⟨by rfl, ?hyr24⟩) CE8 ?restr24
                  case hyr24 => (intro w' _; go_simp; try with_reducible rfl)
                  try simp only [List.getElem_toArray, List.getElem_cons_succ, List.getElem_cons_zero, Act.put, List.setIfInBounds_toArray, List.set_cons_zero, List.set_cons_succ]
                  refine wpAnyH_take (i := 25) (v := ?var25) rfl (by kernel_rfl) (by kernel_rfl) (by kernel_rfl) (fun _ _ _ h => h) (Or.inl ⟨by rfl, ?hyr25⟩) CE8 ?restr25
                  case hyr25 => (intro w' _; go_simp; try with_reducible rfl)
                  try simp only [List.getElem_toArray, List.getElem_cons_succ, List.getElem_cons_zero, Act.put, List.setIfInBounds_toArray, List.set_cons_zero, List.set_cons_succ]
                  refine wpAnyH_take (i := 26) (v := ?var26) rfl (by kernel_rfl) (by kernel_rfl) (by kernel_rfl) (fun _ _ _ h => h) (Or.inl ⟨by rfl, ?hyr26⟩) CE8 ?restr26
                  case hyr26 => (intro w' hSw; have q2 := CrowdE.cell hSw ha4; clear hSw; go_simp; try with_reducible rfl)
                  try simp only [List.getElem_toArray, List.getElem_cons_succ, List.getElem_cons_zero, Act.put, List.setIfInBounds_toArray, List.set_cons_zero, List.set_cons_succ]
                  refine wpAnyH_take (i := 28) (v := ?var28) rfl (by kernel_rfl) (by kernel_rfl) (by kernel_rfl) (fun _ _ _ h => h) (Or.inl ⟨by rfl, ?hyr28⟩) CE8 ?restr28
                  case hyr28 => (intro w' _; go_simp; try with_reducible rfl)
                  try simp only [List.getElem_toArray, List.getElem_cons_succ, List.getElem_cons_zero, Act.put, List.setIfInBounds_toArray, List.set_cons_zero, List.set_cons_succ]
                  refine wpAnyH_take (i := 29) (v := ?var29) rfl (by kernel_rfl) (by kernel_rfl) (by kernel_rfl) (fun _ _ _ h => h) (Or.inl ⟨by rfl, ?hyr29⟩) CE8 ?restr29
                  case hyr29 => (intro w' _; go_simp; try with_reducible rfl)
                  try simp only [List.getElem_toArray, List.getElem_cons_succ, List.getElem_cons_zero, Act.put, List.setIfInBounds_toArray, List.set_cons_zero, List.set_cons_succ]
                  refine wpAnyH_take (i := 30) (v := ?var30) rfl (by kernel_rfl) (by kernel_rfl) (by kernel_rfl) (fun _ _ _ h => h) (Or.inl ⟨by rfl, ?hyr30⟩) CE8 ?restr30
                  case hyr30 => (intro w' hSw; have q2 := CrowdE.cell hSw h04; clear hSw; go_simp; try with_reducible rfl)
                  try simp only [List.getElem_toArray, List.getElem_cons_succ, List.getElem_cons_zero, Act.put, List.setIfInBounds_toArray, List.set_cons_zero, List.set_cons_succ]
                  refine wpAnyH_one (i := 27) (by kernel_rfl) rfl (fun K hK => ?_)
                  go_simp
                  refine hop.mono ?_
                  clear hop
                  rintro e w9 ⟨v9, ys, rfl, H9⟩
                  have C9 := C8.later H9.out.2.2
                  have CE9 : CrowdE S w2 g cap br n w9 := ⟨_, C9⟩
                  have hop2 := crowd_ops2 C9 hn60 h04
                  refine hK _ _ CE9 ?_
                  clear hK K
                  try simp only [List.getElem_toArray, List.getElem_cons_succ, List.getElem_cons_zero, Act.put, List.setIfInBounds_toArray, List.set_cons_zero, List.set_cons_succ]
                  refine wpAnyH_one (i := 31) (by kernel_rfl) rfl (fun K hK => ?_)
                  go_simp
                  refine hop2.mono ?_
                  clear hop2
                  rintro e w10 ⟨v10, zs, rfl, H10⟩
                  have C10 := C9.later H10.out.2.2
                  have CE10 : CrowdE S w2 g cap br n w10 := ⟨_, C10⟩
                  have hsm : Calls Tryz.prog 19 #[v9, v10] w10 fun e w' => e = .returned (.bool true) ∧ Below w10.heap.size w10 w' := by
                    have h1 := H9.out.2.1
                    rw [HW.out.2] at h1
                    have e := stable_one h1 H10.out.2.1
                    have hle : ys.length ≤ 1000 := by rw [(stable_by h1).1.length_eq]; have := C10.len h04; omega
                    exact same_any w10 v9 v10 ys (H9.out.1.later H10.out.2.2) (by rw [e]; exact H10.out.1) hle
                  refine hK _ _ CE10 ?_
                  clear hK K C8 CE8 C9 CE9
                  try simp only [List.getElem_toArray, List.getElem_cons_succ, List.getElem_cons_zero, Act.put, List.setIfInBounds_toArray, List.set_cons_zero, List.set_cons_succ]
                  refine wpAnyH_one (i := 32) (by kernel_rfl) rfl (fun K hK => ?_)
                  go_simp
                  refine hsm.mono ?_
                  clear hsm
                  rintro e w11 ⟨rfl, hb11⟩
                  have C11 := C10.later hb11
                  have CE11 : CrowdE S w2 g cap br n w11 := ⟨_, C11⟩
                  refine hK _ _ CE11 ?_
                  clear hK K
                  try simp only [List.getElem_toArray, List.getElem_cons_succ, List.getElem_cons_zero, Act.put, List.setIfInBounds_toArray, List.set_cons_zero, List.set_cons_succ]
                  refine wpAnyH_take (i := 33) (v := ?vas33) rfl (by kernel_rfl) (by kernel_rfl) (by kernel_rfl) (fun _ _ _ h => h) (Or.inl ⟨by rfl, ?hys33⟩) CE11 ?rests33
                  case hys33 => (intro w' _; go_simp; try with_reducible rfl)
                  try simp only [List.getElem_toArray, List.getElem_cons_succ, List.getElem_cons_zero, Act.put, List.setIfInBounds_toArray, List.set_cons_zero, List.set_cons_succ]
                  refine wpAnyH_take (i := 34) (v := ?vas34) rfl (by kernel_rfl) (by kernel_rfl) (by kernel_rfl) (fun _ _ _ h => h) (Or.inl ⟨by rfl, ?hys34⟩) CE11 ?rests34
                  case hys34 => (intro w' _; go_simp; try with_reducible rfl)
                  try simp only [List.getElem_toArray, List.getElem_cons_succ, List.getElem_cons_zero, Act.put, List.setIfInBounds_toArray, List.set_cons_zero, List.set_cons_succ]
                  refine wpAnyH_done (by kernel_rfl) ?_ _
                  try simp only [List.getElem_toArray, List.getElem_cons_succ, List.getElem_cons_zero, Act.put, List.setIfInBounds_toArray, List.set_cons_zero, List.set_cons_succ]
                  have HC11 : Aside (Crowd S w2 g cap br K n [] w11) := C11
                  clear CE11 C11 CE10 C10 hXX hvs A H9 H10 HX HB6
                  go_wp2
                  go_roundg (4 - (a + 1))
                  case measure => omega
                  case rel => exact ⟨a + 1, by go_num, by omega, by omega, by omega, HC11.out⟩
                · have d4 : decide ((a : Int) < 4) = false := by simp; omega
                  have h04 : (0 : Nat) < 4 := by omega
                  have hc0 := A.out.cell h04
                  have hop := crowd_ops2 A.out hn60 h04
                  obtain ⟨U1, hU1⟩ : ∃ U1, U1 = wr := ⟨_, rfl⟩
                  subst hU1
                  go_wp2_with fail
                  refine hop.mono ?_
                  clear hop hc0
                  rintro e w9 ⟨v9, ys, rfl, H9⟩
                  have C9 := A.out.later H9.out.2.2
                  have hys := (stable_by H9.out.2.1).1
                  have hrp := repOf_any w9 3 v9 ys (HS.out.mono C9.below) (by omega) (by omega) H9.out.1 ((C9.rows h04).well.congr (fun x => hys.mem_iff.symm)) (by rw [hys.length_eq]; have := C9.len h04; omega)
                  have HC9 : Aside (Crowd S w2 g cap br K n [] w9 ∧ ys.Perm (allR (K 0))) := ⟨C9, hys⟩
                  clear C9 hys H9 A
                  go_wp2_with fail
                  refine hrp.mono ?_
                  clear hrp
                  rintro e w10 ⟨c5, br5, R5, rfl, H10⟩
                  have C0 : Crowd S w2 g cap br K n [] w10.drew := (HC9.out.1.later H10.out.2.2).later (Below.refl _ w10).drew
                  have CE0 : CrowdE S w2 g cap br n w10.drew := ⟨K, C0⟩
                  have hR5 : allR R5 = allR (K 0) := allR_same (fun j hj => rows_same H10.out.1.wellK.num (C0.rows h04).num (fun x => (H10.out.2.1 x).trans HC9.out.2.mem_iff) hj)
                  have hst : Calls Tryz.prog 17 #[.pointer (some ⟨br5, 0, none⟩)] w10.drew fun e w' => ∃ X, e = .returned (.string X) ∧ Aside (StateT (allR (K 0)) X ∧ Below w10.drew.heap.size w10.drew w') := by
                    refine (state_any w10.drew c5 br5 3 R5 (H10.out.1.later (Below.refl _ w10).drew).rep (HS.out.mono C0.below).is (by rw [hR5]; have := C0.len h04; omega)).mono ?_
                    rintro e w' ⟨s, he, q1, q2⟩
                    refine ⟨⟨s.toArray⟩, he, ?_, q2⟩
                    rw [← hR5]
                    show StateIs _ (s.toArray.toList)
                    simpa using q1
                  have HW : Aside (WellK (allR (K 0))) := (C0.rows h04).well
                  clear hR5
                  go_upto_region 34 with fail
                  refine wp_region_H (S := (fun w' => CrowdE S w2 g cap br n w')) (by kernel_rfl) CE0 (fun hHeld => ?_)
                  refine wpAnyH_take (i := 0) (v := ?vat0) rfl (by kernel_rfl) (by kernel_rfl) (by kernel_rfl) (fun _ _ _ h => h) (Or.inl ⟨by rfl, ?hyt0⟩) hHeld ?restt0
                  case hyt0 => (intro w' _; go_simp; try with_reducible rfl)
                  try simp only [List.getElem_toArray, List.getElem_cons_succ, List.getElem_cons_zero, Act.put, List.setIfInBounds_toArray, List.set_cons_zero, List.set_cons_succ]
                  refine wpAnyH_take (i := 1) (v := ?vat1) rfl (by kernel_rfl) (by kernel_rfl) (by kernel_rfl) (fun _ _ _ h => h) (Or.inl ⟨by rfl, ?hyt1⟩) hHeld ?restt1
                  case hyt1 => (intro w' _; go_simp; try with_reducible rfl)
                  try simp only [List.getElem_toArray, List.getElem_cons_succ, List.getElem_cons_zero, Act.put, List.setIfInBounds_toArray, List.set_cons_zero, List.set_cons_succ]
                  refine wpAnyH_take (i := 2) (v := ?vat2) rfl (by kernel_rfl) (by kernel_rfl) (by kernel_rfl) (fun _ _ _ h => h) (Or.inl ⟨by rfl, ?hyt2⟩) hHeld ?restt2
                  case hyt2 => (intro w' _; go_simp; try with_reducible rfl)
                  try simp only [List.getElem_toArray, List.getElem_cons_succ, List.getElem_cons_zero, Act.put, List.setIfInBounds_toArray, List.set_cons_zero, List.set_cons_succ]
                  refine wpAnyH_take (i := 3) (v := ?vat3) rfl (by kernel_rfl) (by kernel_rfl) (by kernel_rfl) (fun _ _ _ h => h) (Or.inl ⟨by rfl, ?hyt3⟩) hHeld ?restt3
                  case hyt3 => (intro w' _; go_simp; try with_reducible rfl)
                  try simp only [List.getElem_toArray, List.getElem_cons_succ, List.getElem_cons_zero, Act.put, List.setIfInBounds_toArray, List.set_cons_zero, List.set_cons_succ]
                  refine wpAnyH_take (i := 5) (v := ?vat5) rfl (by kernel_rfl) (by kernel_rfl) (by kernel_rfl) (fun _ _ _ h => h) (Or.inl ⟨by rfl, ?hyt5⟩) hHeld ?restt5
                  case hyt5 => (intro w' _; go_simp; try with_reducible rfl)
                  try simp only [List.getElem_toArray, List.getElem_cons_succ, List.getElem_cons_zero, Act.put, List.setIfInBounds_toArray, List.set_cons_zero, List.set_cons_succ]
                  refine wpAnyH_take (i := 6) (v := ?vat6) rfl (by kernel_rfl) (by kernel_rfl) (by kernel_rfl) (fun _ _ _ h => h) (Or.inl ⟨by rfl, ?hyt6⟩) hHeld ?restt6
                  case hyt6 => (intro w' _; go_simp; try with_reducible rfl)
                  try simp only [List.getElem_toArray, List.getElem_cons_succ, List.getElem_cons_zero, Act.put, List.setIfInBounds_toArray, List.set_cons_zero, List.set_cons_succ]
                  refine wpAnyH_take (i := 7) (v := ?vat7) rfl (by kernel_rfl) (by kernel_rfl) (by kernel_rfl) (fun _ _ _ h => h) (Or.inl ⟨by rfl, ?hyt7⟩) hHeld ?restt7
                  case hyt7 => (intro w' hSw; have q2 := CrowdE.cell hSw h04; clear hSw; go_simp; try with_reducible rfl)
                  try simp only [List.getElem_toArray, List.getElem_cons_succ, List.getElem_cons_zero, Act.put, List.setIfInBounds_toArray, List.set_cons_zero, List.set_cons_succ]
                  refine wpAnyH_one (i := 4) (by kernel_rfl) rfl (fun K hK => ?_)
                  go_simp
                  refine hst.mono ?_
                  clear hst
                  rintro e w11 ⟨X, rfl, HX⟩
                  have C5 := C0.later HX.out.2
                  have CE5 : CrowdE S w2 g cap br n w11 := ⟨_, C5⟩
                  have hst2 : Calls Tryz.prog 17 #[.pointer (some ⟨br 0, 0, none⟩)] w11 fun e w' => e = .returned (.string X) ∧ Aside (Below w11.heap.size w11 w') := (crowd_st C5 HS.out hn60 h04).mono fun e w' q => by
                    obtain ⟨Y, he, q⟩ := q
                    rw [← HX.out.1.same HW.out (List.Perm.refl _) q.out.1] at he
                    exact ⟨he, q.out.2⟩
                  refine hK _ _ CE5 ?_
                  clear hK K
                  try simp only [List.getElem_toArray, List.getElem_cons_succ, List.getElem_cons_zero, Act.put, List.setIfInBounds_toArray, List.set_cons_zero, List.set_cons_succ]
                  refine wpAnyH_one (i := 8) (by kernel_rfl) rfl (fun K hK => ?_)
                  go_simp
                  refine hst2.mono ?_
                  clear hst2
                  rintro e w12 ⟨rfl, HB12⟩
                  have C6 := C5.later HB12.out
                  have CE6 : CrowdE S w2 g cap br n w12 := ⟨_, C6⟩
                  refine hK _ _ CE6 ?_
                  clear hK K C0 CE0 C5 CE5
                  have hXX : (X == X) = true := beqBytes X
                  try simp only [List.getElem_toArray, List.getElem_cons_succ, List.getElem_cons_zero, Act.put, List.setIfInBounds_toArray, List.set_cons_zero, List.set_cons_succ]
                  refine wpAnyH_take (i := 9) (v := ?vau9) rfl (by kernel_rfl) (by kernel_rfl) (by kernel_rfl) (fun _ _ _ h => h) (Or.inl ⟨by rfl, ?hyu9⟩) CE6 ?restu9
                  case hyu9 => (intro w' _; go_simp; try with_reducible rfl)
                  try simp only [List.getElem_toArray, List.getElem_cons_succ, List.getElem_cons_zero, Act.put, List.setIfInBounds_toArray, List.set_cons_zero, List.set_cons_succ]
                  refine wpAnyH_take (i := 10) (v := ?vau10) rfl (by kernel_rfl) (by kernel_rfl) (by kernel_rfl) (fun _ _ _ h => h) (Or.inl ⟨by rfl, ?hyu10⟩) CE6 ?restu10
                  case hyu10 => (intro w' _; go_simp; try with_reducible rfl)
                  try simp only [List.getElem_toArray, List.getElem_cons_succ, List.getElem_cons_zero, Act.put, List.setIfInBounds_toArray, List.set_cons_zero, List.set_cons_succ]
                  refine wpAnyH_take (i := 11) (v := ?vau11) rfl (by kernel_rfl) (by kernel_rfl) (by kernel_rfl) (fun _ _ _ h => h) (Or.inl ⟨by rfl, ?hyu11⟩) CE6 ?restu11
                  case hyu11 => (intro w' _; go_simp; try with_reducible rfl)
                  try simp only [List.getElem_toArray, List.getElem_cons_succ, List.getElem_cons_zero, Act.put, List.setIfInBounds_toArray, List.set_cons_zero, List.set_cons_succ]
                  refine wpAnyH_done (by kernel_rfl) ?_ _
                  try simp only [List.getElem_toArray, List.getElem_cons_succ, List.getElem_cons_zero, Act.put, List.setIfInBounds_toArray, List.set_cons_zero, List.set_cons_succ]
                  have HF : Aside (Below w.heap.size w w12) := by
                    have := C6.below
                    rw [hS.out] at this
                    exact HB1.out.trans (this.mono HB1.out.size)
                  clear CE6 C6
                  go_wp2
                  go_ret
                  exact ⟨rfl, HF.out⟩
    · have d0 : decide ((30 : Int) < (os.length : Int)) = true := by simp; omega
      have d0n : decide (30 < os.length) = true := by simp; omega
      go_wp2
      go_ret
      exact ⟨rfl, HB1.out⟩
end Go.Proofs.YtcggmagdndhkbaaGreatDoor
end
