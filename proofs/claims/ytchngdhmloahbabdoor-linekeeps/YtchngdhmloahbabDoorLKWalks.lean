/- The walk of the law LineKeeps. -/
import Derived.Test.YtchngdhmloahbabDoorLineAct
import Derived.Test.YtchngdhmloahbabDoorActOpen
import Derived.Test.YtchngdhmloahbabDoorSameInts
import Derived.Deep.RegionHeld3
import Derived.BigQuiet
import Derived.Deep.Cut
import Derived.Deep.CutRange
import Derived.Deep.DeepCutAuto
set_option linter.unusedVariables false
set_option linter.unusedSimpArgs false
namespace Go.Proofs.YtchngdhmloahbabDoor
open Go.RowKit Go.Lib Go.Sort

/-- The word of an act that inserts. -/
def insW : ByteArray := ⟨#[105, 110, 115, 101, 114, 116]⟩

/-- What stands between two acts. -/
def Mid (w : World) (B i g1 s0 : Nat) (L M : List Ltr) (v' : Value) (wx : World) : Prop :=
  LineAt (B + 1) wx B v' M ∧ Below w.heap.size w wx ∧ w.heap.size ≤ B ∧ B + 1 ≤ wx.heap.size ∧ wx.ownsRow s0 3 1 (.slice (some ⟨g1, 0, none⟩) L.length L.length) L.length (idsV L) ∧ (L.map (·.1)).Sublist (M.map (·.1)) ∧ L.length ≤ M.length ∧ M.length ≤ L.length + 1
theorem Mid.later {w wx wy : World} {B i g1 s0 : Nat} {L M : List Ltr} {v' : Value} (h : Mid w B i g1 s0 L M v' wx) (hb : Below wx.heap.size wx wy) : Mid w B i g1 s0 L M v' wy :=
  ⟨h.1.later hb, h.2.1.trans (hb.mono h.2.1.size), h.2.2.1, Nat.le_trans h.2.2.2.1 hb.size, ownsSame h.2.2.2.2.1 (fun g hg => hb.block g (h.2.2.2.2.1.lt g hg).2), h.2.2.2.2.2⟩
theorem mid_of {w u u' : World} {B i g1 s0 : Nat} {L M : List Ltr} {v : Value} (hA : ActOk (B + 1) u B v M u') (hT : LineAt (B + 1) u B v L) (hB : Below w.heap.size w u) (hp : w.heap.size ≤ B)
    (hr : u.ownsRow s0 3 1 (.slice (some ⟨g1, 0, none⟩) L.length L.length) L.length (idsV L)) (hv : ∀ g, v.ownBlock = some g → g < s0) (hs : B < s0) (hsub : (L.map (·.1)).Sublist (M.map (·.1))) (h1 : L.length ≤ M.length) (h2 : M.length ≤ L.length + 1) :
    ∃ v', Mid w B i g1 s0 L M v' u' := by
  obtain ⟨v', a1, a2, a3⟩ := hA.step hT hB hp
  refine ⟨v', a1, a2, hp, by have := a1.lt; omega, ownsSame hr (fun g hg => ?_), hsub, h1, h2⟩
  have hg1 := hr.lt g hg
  refine a3.block g hg1.2 ?_
  rintro (e | e)
  · omega
  · have := hv g e.symm
    omega

set_option maxRecDepth 100000 in
set_option maxHeartbeats 8000000 in
theorem lineKeeps_any {ad : Nat → Addr} (w : World) (ao : Option Addr) (cap : Nat) (xs : List ActX) (hE : Ln4 ad w) (hX : ActsIn w ao xs) (hxn : xs.length < 9223372036854775808) :
    Calls Tryd.prog 3 #[.slice ao xs.length cap] w fun e w' => e = .returned (.bool true) ∧ Below w.heap.size w w' := by
  have HE : Aside (Ln4 ad w) := hE
  have HX : Aside (ActsIn w ao xs) := hX
  clear hE hX
  go_enter Tryd.func3, Tryd.ntmps3
  go_wp2_with fail
  refine (lined_any w).mono ?_
  rintro e w1 ⟨rfl, hb1⟩
  have B1 : Aside (Below w.heap.size w w1) := hb1
  clear hb1
  by_cases hx60 : 60 < xs.length
  · have d60 : decide ((60 : Int) < (xs.length : Int)) = true := decide_eq_true (by omega)
    go_wp2
    go_ret
    exact ⟨rfl, B1.out⟩
  have d60 : decide ((60 : Int) < (xs.length : Int)) = false := decide_eq_false (by omega)
  go_wp2_with fail
  refine (new_line w1).mono ?_
  rintro e w2 ⟨rfl, hs2, hT2, hb2⟩
  obtain ⟨B, hB⟩ : ∃ B, Aside (w1.heap.size = B) := ⟨_, rfl⟩
  rw [hB.out] at hs2 hT2 hb2 ⊢
  have A2 : Aside (LineAt (B + 1) w2 B (.slice none 0 0) [] ∧ Below w.heap.size w w2 ∧ w.heap.size ≤ B ∧ B + 1 ≤ w2.heap.size) := ⟨hT2 _ (by omega), B1.out.trans (hb2.mono (by have := B1.out.size; have := hB.out; omega)), by have := B1.out.size; have := hB.out; omega, by omega⟩
  clear hs2 hT2 hb2 B1
  go_wp2
  clear d60
  go_loopg [5] xs.length (fun kx s5 wr => ∃ (i : Nat) (v : Value) (L : List Ltr), s5 = .int .i64 (i : Int) ∧ i ≤ xs.length ∧ xs.length - i ≤ kx ∧ L.length ≤ i ∧ Aside (LineAt (B + 1) wr B v L ∧ Below w.heap.size w wr ∧ w.heap.size ≤ B ∧ B + 1 ≤ wr.heap.size))
  case atStart => exact ⟨0, _, [], rfl, Nat.zero_le _, Nat.le_refl _, by simp, A2⟩
  case round =>
    obtain ⟨i, v, L, rfl, hix, hkx, hLi, A⟩ := hrel
    clear A2
    obtain ⟨u0, hu0⟩ : ∃ u0, u0 = wr := ⟨_, rfl⟩
    subst hu0
    by_cases hlt : i < xs.length
    · have hltz : decide ((i : Int) < (xs.length : Int)) = true := by simp; omega
      have ex : ((i : Int)).toNat = i := by omega
      have px : (0 : Int) ≤ (i : Int) := by omega
      have bx : (i : Int) < (xs.length : Int) := by omega
      go_wp2_with fail
      refine (ids_any u0 (B + 1) B v L A.out.1 (by omega)).mono ?_
      rintro e u1 ⟨g1, rfl, ho1, hb1⟩
      have A1 : Aside (LineAt (B + 1) u1 B v L ∧ Below w.heap.size w u1 ∧ w.heap.size ≤ B ∧ B + 1 ≤ u1.heap.size ∧ u1.ownsRow u0.heap.size 3 1 (.slice (some ⟨g1, 0, none⟩) L.length L.length) L.length (idsV L) ∧ (∀ g, v.ownBlock = some g → g < u0.heap.size) ∧ B < u0.heap.size) := ⟨A.out.1.later hb1, A.out.2.1.trans (hb1.mono A.out.2.1.size), A.out.2.2.1, by have := A.out.2.2.2; have := hb1.size; omega, ho1, fun g hg => (A.out.1.ne g hg).2.1, by have := A.out.2.2.2; omega⟩
      clear ho1 hb1 A
      go_wp2_with fail
      refine (text_any u1 (B + 1) B v L A1.out.1 (by omega)).mono ?_
      rintro e u2 ⟨rfl, hb2⟩
      have A2 : Aside (LineAt (B + 1) u2 B v L ∧ Below w.heap.size w u2 ∧ w.heap.size ≤ B ∧ B + 1 ≤ u2.heap.size ∧ u2.ownsRow u0.heap.size 3 1 (.slice (some ⟨g1, 0, none⟩) L.length L.length) L.length (idsV L) ∧ (∀ g, v.ownBlock = some g → g < u0.heap.size) ∧ B < u0.heap.size) := ⟨A1.out.1.later hb2, A1.out.2.1.trans (hb2.mono A1.out.2.1.size), A1.out.2.2.1, by have := A1.out.2.2.2.1; have := hb2.size; omega, ownsSame A1.out.2.2.2.2.1 (fun g hg => hb2.block g (A1.out.2.2.2.2.1.lt g hg).2), A1.out.2.2.2.2.2⟩
      clear hb2 A1
      obtain ⟨X, hXs⟩ : ∃ X : ByteArray, Aside ((⟨(textL L).toArray⟩ : ByteArray) = X ∧ X.size = (textL L).length) := ⟨_, rfl, by simp [ByteArray.size]⟩
      rw [hXs.out.1]
      have hX60 : X.size ≤ 60 := by have := hXs.out.2; have := textL_len L; omega
      obtain ⟨⟨kd, id, bh, c⟩, hx⟩ : ∃ x, Aside (xs[i]? = some x) := ⟨xs[i], List.getElem?_eq_getElem hlt⟩
      obtain ⟨blk, off, rfl, f0, f1, f2, f3⟩ := (HX.out.later A2.out.2.1).at hx.out
      have hwf : ActWf (kd, id, bh, c) := HX.out.1 _ (List.mem_of_getElem? hx.out)
      have HW : Aside (ActWf (kd, id, bh, c)) := hwf
      clear hwf
      -- the act, and what is held against the text's length
      go_upto_if 40 with fail
      go_cut [8] (fun _ wx => ∃ (v' : Value) (M : List Ltr), M.length ≤ i + 1 ∧ Aside (Mid w B i g1 u0.heap.size L M v' wx))
      case first =>
        cases hk : (kd.toList == [105, 110, 115, 101, 114, 116]) with
        | true =>
          have hins := insert_all u2.drew (B + 1) B v L id bh c (HE.out.later A2.out.2.1.drew) (A2.out.1.later (Below.refl _ u2).drew) A2.out.2.2.2.1 (by omega) HW.out.1 HW.out.2.2.1
          go_upto_region 13 with fail
          refine wp_region_Z (S := fun w' => w'.cell? ⟨blk, off + i * 4 + 1, none⟩ = some (.int .i64 id) ∧ w'.cell? ⟨blk, off + i * 4 + 2, none⟩ = some (.int .i64 bh) ∧ w'.cell? ⟨blk, off + i * 4 + 3, none⟩ = some (.int .u8 (c : Int))) (z := 16) (by kernel_rfl) ⟨f1, f2, f3⟩ (fun hHeld => ?_)
          refine wpAnyZ_free (i := 0) (v := ?v0) (by decide) rfl (by kernel_rfl) (by kernel_rfl) (by kernel_rfl) (fun _ _ _ h => h) (Or.inl ⟨by rfl, ?hy0⟩) hHeld ?rest0
          case hy0 => (intro w' _; go_simp; try with_reducible rfl)
          try simp only [Act.put, List.setIfInBounds_toArray, List.set_cons_zero, List.set_cons_succ]
          refine wpAnyZ_free (i := 1) (v := ?v1) (by decide) rfl (by kernel_rfl) (by kernel_rfl) (by kernel_rfl) (fun _ _ _ h => h) (Or.inl ⟨by rfl, ?hy1⟩) hHeld ?rest1
          case hy1 => (intro w' _; go_simp; try with_reducible rfl)
          try simp only [Act.put, List.setIfInBounds_toArray, List.set_cons_zero, List.set_cons_succ]
          refine wpAnyZ_free (i := 2) (v := ?v2) (by decide) rfl (by kernel_rfl) (by kernel_rfl) (by kernel_rfl) (fun _ _ _ h => h) (Or.inl ⟨by rfl, ?hy2⟩) hHeld ?rest2
          case hy2 => (intro w' _; go_simp; try with_reducible rfl)
          try simp only [Act.put, List.setIfInBounds_toArray, List.set_cons_zero, List.set_cons_succ]
          refine wpAnyZ_free (i := 3) (v := ?v3) (by decide) rfl (by kernel_rfl) (by kernel_rfl) (by kernel_rfl) (fun _ _ _ h => h) (Or.inl ⟨by rfl, ?hy3⟩) hHeld ?rest3
          case hy3 => (intro w' _; go_simp; try with_reducible rfl)
          try simp only [Act.put, List.setIfInBounds_toArray, List.set_cons_zero, List.set_cons_succ]
          refine wpAnyZ_free (i := 4) (v := ?v4) (by decide) rfl (by kernel_rfl) (by kernel_rfl) (by kernel_rfl) (fun _ _ _ h => h) (Or.inl ⟨by rfl, ?hy4⟩) hHeld ?rest4
          case hy4 => (intro w' _; go_simp; try with_reducible rfl)
          try simp only [Act.put, List.setIfInBounds_toArray, List.set_cons_zero, List.set_cons_succ]
          refine wpAnyZ_take (i := 5) (v := ?v5) (by decide) (by kernel_rfl) rfl (by kernel_rfl) (by kernel_rfl) (by kernel_rfl) (by kernel_rfl) (fun _ _ _ h => h) (Or.inl ⟨by rfl, ?hy5⟩) hHeld ?rest5
          case hy5 => (intro w' hSw; obtain ⟨k1, k2, k3⟩ := hSw; go_simp; try with_reducible rfl)
          try simp only [Act.put, List.setIfInBounds_toArray, List.set_cons_zero, List.set_cons_succ]
          refine wpAnyZ_free (i := 6) (v := ?v6) (by decide) rfl (by kernel_rfl) (by kernel_rfl) (by kernel_rfl) (fun _ _ _ h => h) (Or.inl ⟨by rfl, ?hy6⟩) hHeld ?rest6
          case hy6 => (intro w' _; go_simp; try with_reducible rfl)
          try simp only [Act.put, List.setIfInBounds_toArray, List.set_cons_zero, List.set_cons_succ]
          refine wpAnyZ_free (i := 7) (v := ?v7) (by decide) rfl (by kernel_rfl) (by kernel_rfl) (by kernel_rfl) (fun _ _ _ h => h) (Or.inl ⟨by rfl, ?hy7⟩) hHeld ?rest7
          case hy7 => (intro w' _; go_simp; try with_reducible rfl)
          try simp only [Act.put, List.setIfInBounds_toArray, List.set_cons_zero, List.set_cons_succ]
          refine wpAnyZ_free (i := 8) (v := ?v8) (by decide) rfl (by kernel_rfl) (by kernel_rfl) (by kernel_rfl) (fun _ _ _ h => h) (Or.inl ⟨by rfl, ?hy8⟩) hHeld ?rest8
          case hy8 => (intro w' _; go_simp; try with_reducible rfl)
          try simp only [Act.put, List.setIfInBounds_toArray, List.set_cons_zero, List.set_cons_succ]
          refine wpAnyZ_free (i := 9) (v := ?v9) (by decide) rfl (by kernel_rfl) (by kernel_rfl) (by kernel_rfl) (fun _ _ _ h => h) (Or.inl ⟨by rfl, ?hy9⟩) hHeld ?rest9
          case hy9 => (intro w' _; go_simp; try with_reducible rfl)
          try simp only [Act.put, List.setIfInBounds_toArray, List.set_cons_zero, List.set_cons_succ]
          refine wpAnyZ_take (i := 10) (v := ?v10) (by decide) (by kernel_rfl) rfl (by kernel_rfl) (by kernel_rfl) (by kernel_rfl) (by kernel_rfl) (fun _ _ _ h => h) (Or.inl ⟨by rfl, ?hy10⟩) hHeld ?rest10
          case hy10 => (intro w' hSw; obtain ⟨k1, k2, k3⟩ := hSw; go_simp; try with_reducible rfl)
          try simp only [Act.put, List.setIfInBounds_toArray, List.set_cons_zero, List.set_cons_succ]
          refine wpAnyZ_free (i := 11) (v := ?v11) (by decide) rfl (by kernel_rfl) (by kernel_rfl) (by kernel_rfl) (fun _ _ _ h => h) (Or.inl ⟨by rfl, ?hy11⟩) hHeld ?rest11
          case hy11 => (intro w' _; go_simp; try with_reducible rfl)
          try simp only [Act.put, List.setIfInBounds_toArray, List.set_cons_zero, List.set_cons_succ]
          refine wpAnyZ_free (i := 12) (v := ?v12) (by decide) rfl (by kernel_rfl) (by kernel_rfl) (by kernel_rfl) (fun _ _ _ h => h) (Or.inl ⟨by rfl, ?hy12⟩) hHeld ?rest12
          case hy12 => (intro w' _; go_simp; try with_reducible rfl)
          try simp only [Act.put, List.setIfInBounds_toArray, List.set_cons_zero, List.set_cons_succ]
          refine wpAnyZ_free (i := 13) (v := ?v13) (by decide) rfl (by kernel_rfl) (by kernel_rfl) (by kernel_rfl) (fun _ _ _ h => h) (Or.inl ⟨by rfl, ?hy13⟩) hHeld ?rest13
          case hy13 => (intro w' _; go_simp; try with_reducible rfl)
          try simp only [Act.put, List.setIfInBounds_toArray, List.set_cons_zero, List.set_cons_succ]
          refine wpAnyZ_free (i := 14) (v := ?v14) (by decide) rfl (by kernel_rfl) (by kernel_rfl) (by kernel_rfl) (fun _ _ _ h => h) (Or.inl ⟨by rfl, ?hy14⟩) hHeld ?rest14
          case hy14 => (intro w' _; go_simp; try with_reducible rfl)
          try simp only [Act.put, List.setIfInBounds_toArray, List.set_cons_zero, List.set_cons_succ]
          refine wpAnyZ_take (i := 15) (v := ?v15) (by decide) (by kernel_rfl) rfl (by kernel_rfl) (by kernel_rfl) (by kernel_rfl) (by kernel_rfl) (fun _ _ _ h => h) (Or.inl ⟨by rfl, ?hy15⟩) hHeld ?rest15
          case hy15 => (intro w' hSw; obtain ⟨k1, k2, k3⟩ := hSw; go_simp; try with_reducible rfl)
          try simp only [Act.put, List.setIfInBounds_toArray, List.set_cons_zero, List.set_cons_succ]
          refine wpAnyZ_one (i := 16) (by kernel_rfl) rfl (fun K hK => ?_)
          go_simp
          refine hins.mono ?_
          rintro e u3 ⟨rfl, hA⟩
          obtain ⟨v', hM3⟩ := mid_of (i := i) (s0 := u0.heap.size) hA (A2.out.1.later (Below.refl _ u2).drew) A2.out.2.1.drew A2.out.2.2.1 (ownsSame A2.out.2.2.2.2.1 (fun g hg => rfl)) A2.out.2.2.2.2.2.1 A2.out.2.2.2.2.2.2 (insL_sub id bh c L) (insL_len id bh c L).1 (insL_len id bh c L).2
          obtain ⟨blk', off', hbo, -, k1, k2, k3⟩ := (HX.out.later hM3.2.1).at hx.out
          cases hbo
          refine hK _ _ (.inl ⟨k1, k2, k3⟩) ?_
          clear hK K
          try simp only [Act.put, List.setIfInBounds_toArray, List.set_cons_zero, List.set_cons_succ]
          refine wpAnyZ_one (i := 17) (by kernel_rfl) rfl (fun K hK => ?_)
          go_simp
          refine hK _ _ (.inl ⟨k1, k2, k3⟩) ?_
          clear hK K
          refine wpAnyZ_done (by kernel_rfl) ?_ _
          have HM : Aside (Mid w B i g1 u0.heap.size L (insL id bh c L) v' u3) := hM3
          clear hM3 hA k1 k2 k3
          have hMl : (insL id bh c L).length ≤ 1000 := by have := (insL_len id bh c L).2; omega
          have hMi : (insL id bh c L).length ≤ i + 1 := by have := (insL_len id bh c L).2; omega
          have hMt := insL_text id bh c L
          obtain ⟨Y, hYs⟩ : ∃ Y : ByteArray, Aside ((⟨(textL (insL id bh c L)).toArray⟩ : ByteArray) = Y ∧ Y.size = (textL (insL id bh c L)).length) := ⟨_, rfl, by simp [ByteArray.size]⟩
          by_cases he : insE id bh L = 0
          · have hYX : ((Y.size : Int) != (X.size : Int) + 1) = false := by
              rw [if_pos he] at hMt
              have h1 := hYs.out.2
              have h2 := hXs.out.2
              simp; omega
            rw [he, show errN ad 0 = .nilIface from rfl]
            clear he hMt
            go_wp2_with fail
            refine (text_any u3 (B + 1) B v' _ HM.out.1 hMl).mono ?_
            rintro e u4 ⟨rfl, hb4⟩
            rw [hYs.out.1]
            have H4 : Aside (Mid w B i g1 u0.heap.size L (insL id bh c L) v' u4) := HM.out.later hb4
            clear hb4
            go_wp2
            go_meet
            exact ⟨v', _, hMi, H4⟩
          · have hYX : ((Y.size : Int) != (X.size : Int)) = false := by
              rw [if_neg he] at hMt
              have h1 := hYs.out.2
              have h2 := hXs.out.2
              simp; omega
            rw [show errN ad (insE id bh L) = .iface 109 (.pointer (some (ad (insE id bh L - 1)))) by unfold errN; rw [if_neg he]]
            clear he hMt
            go_wp2_with fail
            refine (text_any u3 (B + 1) B v' _ HM.out.1 hMl).mono ?_
            rintro e u4 ⟨rfl, hb4⟩
            rw [hYs.out.1]
            have H4 : Aside (Mid w B i g1 u0.heap.size L (insL id bh c L) v' u4) := HM.out.later hb4
            clear hb4
            go_wp2
            go_meet
            exact ⟨v', _, hMi, H4⟩
        | false =>
          go_wp2_with fail
          refine (delete_all u2 (B + 1) B v L id (HE.out.later A2.out.2.1) A2.out.1 (by omega)).mono ?_
          rintro e u3 ⟨rfl, hA⟩
          obtain ⟨v', hM3⟩ := mid_of (i := i) (s0 := u0.heap.size) hA A2.out.1 A2.out.2.1 A2.out.2.2.1 A2.out.2.2.2.2.1 A2.out.2.2.2.2.2.1 A2.out.2.2.2.2.2.2 (by rw [delL_ids]; exact List.Sublist.refl _) (by rw [delL_len]; exact Nat.le_refl _) (by rw [delL_len]; omega)
          have HM : Aside (Mid w B i g1 u0.heap.size L (delL id L) v' u3) := hM3
          clear hM3 hA
          have hMl : (delL id L).length ≤ 1000 := by rw [delL_len]; omega
          have hMi : (delL id L).length ≤ i + 1 := by rw [delL_len]; omega
          obtain ⟨Y, hYs⟩ : ∃ Y : ByteArray, Aside ((⟨(textL (delL id L)).toArray⟩ : ByteArray) = Y ∧ Y.size = (textL (delL id L)).length) := ⟨_, rfl, by simp [ByteArray.size]⟩
          have hMt := delL_text id L
          have q1 : decide ((X.size : Int) < (Y.size : Int)) = false := decide_eq_false (by have h1 := hYs.out.2; have h2 := hXs.out.2; omega)
          have q2 : decide ((Y.size : Int) < (X.size : Int) - 1) = false := decide_eq_false (by have h1 := hYs.out.2; have h2 := hXs.out.2; omega)
          have q3 : Y.size ≤ X.size := by have h1 := hYs.out.2; have h2 := hXs.out.2; omega
          clear hMt
          go_wp2_with fail
          refine (text_any u3 (B + 1) B v' _ HM.out.1 hMl).mono ?_
          rintro e u4 ⟨rfl, hb4⟩
          rw [hYs.out.1]
          have H4 : Aside (Mid w B i g1 u0.heap.size L (delL id L) v' u4) := HM.out.later hb4
          clear hb4
          go_wp2_with fail
          refine (text_any u4 (B + 1) B v' _ H4.out.1 hMl).mono ?_
          rintro e u5 ⟨rfl, hb5⟩
          rw [hYs.out.1]
          have H5 : Aside (Mid w B i g1 u0.heap.size L (delL id L) v' u5) := H4.out.later hb5
          clear hb5
          go_wp2
          go_meet
          exact ⟨v', _, hMi, H5⟩
      case rest =>
        obtain ⟨v', M, hMi, H⟩ := hcut
        clear A2 HX hx f0 f1 f2 f3 HW hXs hX60
        have hM61 : M.length ≤ 1000 := by omega
        go_wp2_with fail
        refine (ids_any wc (B + 1) B v' M H.out.1 hM61).mono ?_
        rintro e u6 ⟨g2, rfl, ho2, hb6⟩
        have H6 : Aside (Mid w B i g1 u0.heap.size L M v' u6 ∧ u6.ownsRow wc.heap.size 3 1 (.slice (some ⟨g2, 0, none⟩) M.length M.length) M.length (idsV M)) := ⟨H.out.later hb6, ho2⟩
        have q1 : L.length ≤ M.length := H.out.2.2.2.2.2.2.1
        have q2 : M.length ≤ L.length + 1 := H.out.2.2.2.2.2.2.2
        have q3 : decide ((M.length : Int) < (L.length : Int)) = false := decide_eq_false (by omega)
        have q4 : decide ((L.length : Int) + 1 < (M.length : Int)) = false := decide_eq_false (by omega)
        have q5 : decide (M.length < L.length) = false := decide_eq_false (by omega)
        clear ho2 hb6 H
        go_wp2
        clear q3 q4
        go_loopg [10, 11] M.length (fun kx s10 s11 wr => ∃ (k j : Nat), s10 = .int .i64 (k : Int) ∧ s11 = .int .i64 (j : Int) ∧ k ≤ L.length ∧ j ≤ M.length ∧ M.length - j ≤ kx ∧ Aside (k + met ((M.map (·.1)).drop j) ((L.map (·.1)).drop k) = L.length ∧ Below u6.heap.size u6 wr))
        case atStart => exact ⟨0, 0, rfl, rfl, Nat.zero_le _, Nat.zero_le _, Nat.le_refl _, ⟨by
          have := met_all H6.out.1.2.2.2.2.2.1
          simpa using this, Below.refl _ _⟩⟩
        case round =>
          obtain ⟨k, j, rfl, rfl, hk, hj, hjx, C⟩ := hrel
          obtain ⟨u7, hu7⟩ : ∃ u7, u7 = wr := ⟨_, rfl⟩
          subst hu7
          by_cases hin : j < M.length ∧ k < L.length
          · have d1 : decide ((j : Int) < (M.length : Int)) = true := decide_eq_true (by omega)
            have d2 : decide ((k : Int) < (L.length : Int)) = true := decide_eq_true (by omega)
            have hj1 : j < M.length := hin.1
            have hk1 : k < L.length := hin.2
            have ej : ((j : Int)).toNat = j := by omega
            have pj : (0 : Int) ≤ (j : Int) := by omega
            have bj : (j : Int) < (M.length : Int) := by omega
            have ek : ((k : Int)).toNat = k := by omega
            have pk : (0 : Int) ≤ (k : Int) := by omega
            have bk : (k : Int) < (L.length : Int) := by omega
            obtain ⟨a, ha⟩ : ∃ a, Aside ((M.map (·.1))[j]? = some a) := ⟨_, List.getElem?_eq_getElem (by simpa using hj1)⟩
            obtain ⟨b, hb⟩ : ∃ b, Aside ((L.map (·.1))[k]? = some b) := ⟨_, List.getElem?_eq_getElem (by simpa using hk1)⟩
            have ca : u7.cell? ⟨g2, j, none⟩ = some (.int .i64 a) := cellStays C.out.2 (by
              rw [H6.out.2.cellAt j (by omega)]
              have := ha.out
              unfold idsV
              rw [List.getElem?_map] at this ⊢
              cases hq : M[j]? with
              | none => rw [hq] at this; cases this
              | some l => rw [hq] at this; simp at this; simp [this])
            have cb : u7.cell? ⟨g1, k, none⟩ = some (.int .i64 b) := cellStays C.out.2 (by
              rw [H6.out.1.2.2.2.2.1.cellAt k (by omega)]
              have := hb.out
              unfold idsV
              rw [List.getElem?_map] at this ⊢
              cases hq : L[k]? with
              | none => rw [hq] at this; cases this
              | some l => rw [hq] at this; simp at this; simp [this])
            have HS := Lib.hid (met_step ha.out hb.out)
            clear hin
            by_cases hab : a = b
            · have dab : (a == b) = true := by simp [hab]
              have HAB := Lib.hid hab
              clear hab
              go_wp2_with fail
              go_quiet (fail)
              go_wp2
              go_roundg (M.length - (j + 1))
              case measure => omega
              case rel => exact ⟨k + 1, j + 1, by go_num, by go_num, by omega, by omega, Nat.le_refl _, ⟨by
                have h1 := C.out.1
                rw [HS.out, if_pos HAB.out] at h1
                omega, below_drewN C.out.2 _⟩⟩
            · have dab : (a == b) = false := by simp [hab]
              have HAB := Lib.hid hab
              clear hab
              go_wp2_with fail
              go_quiet (fail)
              go_wp2
              go_roundg (M.length - (j + 1))
              case measure => omega
              case rel => exact ⟨k, j + 1, rfl, by go_num, by omega, by omega, Nat.le_refl _, ⟨by
                have h1 := C.out.1
                rw [HS.out, if_neg HAB.out] at h1
                exact h1, below_drewN C.out.2 _⟩⟩
          · have hkL : k = L.length := by
              have h1 := C.out.1
              rcases Nat.lt_or_ge j M.length with h | h
              · omega
              · rw [List.drop_of_length_le (by simpa using h)] at h1
                simpa [met] using h1
            subst hkL
            have FIN : Aside (LineAt (B + 1) u7 B v' M ∧ Below w.heap.size w u7 ∧ w.heap.size ≤ B ∧ B + 1 ≤ u7.heap.size) := by
              have := H6.out.1.later C.out.2
              exact ⟨this.1, this.2.1, this.2.2.1, this.2.2.2.1⟩
            by_cases hj1 : j < M.length
            · have d1 : decide ((j : Int) < (M.length : Int)) = true := decide_eq_true (by omega)
              have d2 : decide ((L.length : Int) < (L.length : Int)) = false := by simp
              have d3 : ((L.length : Int) != (L.length : Int)) = false := by simp
              clear hin
              go_wp2
              go_roundg (xs.length - (i + 1))
              case measure => omega
              case rel => exact ⟨i + 1, v', M, by go_num, by omega, Nat.le_refl _, hMi, FIN⟩
            · have d1 : decide ((j : Int) < (M.length : Int)) = false := decide_eq_false (by omega)
              have d3 : ((L.length : Int) != (L.length : Int)) = false := by simp
              clear hin
              go_wp2
              go_roundg (xs.length - (i + 1))
              case measure => omega
              case rel => exact ⟨i + 1, v', M, by go_num, by omega, Nat.le_refl _, hMi, FIN⟩
    · have hltz : decide ((i : Int) < (xs.length : Int)) = false := by simp; omega
      have hL61 : L.length ≤ 1000 := by omega
      go_wp2_with fail
      refine (ids_any u0 (B + 1) B v L A.out.1 hL61).mono ?_
      rintro e u1 ⟨g1, rfl, ho1, hb1⟩
      have A1 : Aside (LineAt (B + 1) u1 B v L ∧ Below w.heap.size w u1 ∧ u1.ownsRow u0.heap.size 3 1 (.slice (some ⟨g1, 0, none⟩) L.length L.length) L.length (idsV L)) := ⟨A.out.1.later hb1, A.out.2.1.trans (hb1.mono A.out.2.1.size), ho1⟩
      clear ho1 hb1
      go_wp2_with fail
      refine (ids_any u1 (B + 1) B v L A1.out.1 hL61).mono ?_
      rintro e u8 ⟨g2, rfl, ho2, hb8⟩
      have h1 : ∀ i, i < L.length → u8.cell? ⟨g1, 0 + i, none⟩ = some (.int .i64 (L[i]!).1) := fun i hi => by
        have hc : u1.cell? ⟨g1, i, none⟩ = some (.int .i64 (L[i]!).1) := by
          rw [A1.out.2.2.cellAt i (by omega)]
          simp [idsV, getElem!_pos L i hi, List.getElem?_eq_getElem hi]
        rw [Nat.zero_add]
        exact cellStays hb8 hc
      have h2 : ∀ i, i < L.length → u8.cell? ⟨g2, 0 + i, none⟩ = some (.int .i64 (L[i]!).1) := fun i hi => by
        rw [Nat.zero_add, ho2.cellAt i (by omega)]
        simp [idsV, getElem!_pos L i hi, List.getElem?_eq_getElem hi]
      have hsi := sameInts_true g1 0 L.length g2 0 L.length L.length (fun i => (L[i]!).1) u8 (by omega) h1 h2
      have A8 : Aside (Below w.heap.size w u8) := A1.out.2.1.trans (hb8.mono A1.out.2.1.size)
      clear h1 h2 ho2 hb8 A1
      go_wp2_with fail
      refine hsi.mono ?_
      rintro e u9 ⟨rfl, hb9⟩
      have A9 : Aside (Below w.heap.size w u9) := A8.out.trans (hb9.mono A8.out.size)
      clear hb9 hsi
      go_wp2
      go_ret
      exact ⟨rfl, A9.out⟩
end Go.Proofs.YtchngdhmloahbabDoor
