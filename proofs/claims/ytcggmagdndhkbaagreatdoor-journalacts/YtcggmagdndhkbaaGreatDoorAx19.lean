import Derived.Test.YtcggmagdndhkbaaGreatDoorAx02
import Derived.Test.YtcggmagdndhkbaaGreatDoorAx06
import Derived.Test.YtcggmagdndhkbaaGreatDoorAx18
import Derived.Test.YtcggmagdndhkbaaGreatDoorProg
import Derived.WalkKit
import Derived.WalkSpells
import Derived.LaidEql
import Derived.WideShapes
import Derived.Below
import Derived.LoopN
import Derived.KernelRfl
import Derived.Deep.RegionHeld3
import Derived.Deep.Cut
import Derived.Lib.Hide
section
set_option linter.unusedVariables false
set_option linter.unusedSimpArgs false
namespace Go.Proofs.YtcggmagdndhkbaaGreatDoor
open Go Go.RowKit Go.Lib Go.Sort
def AppOut (m : Nat) (b : ByteArray) (off : Bool) (cut : Int) (x : OpX) (w : World) (e : Ending) (w' : World) : Prop := ∃ F : ByteArray, e = .returned (.int .i64 (((mApp b.data.toList off cut x).1 : Nat) : Int)) ∧ Aside (F.data.toList = (mApp b.data.toList off cut x).2.1 ∧ MAt w' m F (mApp b.data.toList off cut x).2.2.1 (mApp b.data.toList off cut x).2.2.2 ∧ Keeps (fun k => k = m) w w')
theorem keeps_low {m : Nat} {w w' : World} (h : Below w.heap.size w w') : Keeps (fun k => k = m) w w' := (keeps_of_below h).mono (fun k hk q => by omega)
set_option maxRecDepth 100000 in
set_option maxHeartbeats 4000000 in
theorem mappend_any {m : Nat} {b : ByteArray} {off : Bool} {cut : Int} (w : World) (x : OpX) (h : MAt w m b off cut) (hs1 : x.2.2.2.2.2.2.1.size ≤ 1000000) (hs2 : x.2.2.2.2.2.2.2.size ≤ 1000000) (hB : b.size ≤ 65536) :
    Calls Tryz.prog 38 #[.pointer (some ⟨m, 0, none⟩), encJ x] w (AppOut m b off cut x w) := by
  obtain ⟨t, bb, n, kd, nd, o, s, vl⟩ := x
  dsimp only at hs1 hs2
  obtain ⟨x, hx⟩ : ∃ x : OpX, Aside (x = (t, bb, n, kd, nd, o, s, vl)) := ⟨_, rfl⟩
  have ex : (t, bb, n, kd, nd, o, s, vl) = x := hx.out.symm
  obtain ⟨U, hU⟩ : ∃ U, Aside (U = w.alloc (.cells #[.int .i64 t, .int .i64 bb, .int .i64 n, .int .u8 (kd : Int), .int .i64 nd, .int .i64 o, .string s, .string vl] 31)) := ⟨_, rfl⟩
  have hbU : Below w.heap.size w U := by rw [hU.out]; exact (Below.refl _ w).alloc (Nat.le_refl _) _
  have H0 : Aside (MAt w m b off cut ∧ MAt U m b off cut ∧ Below w.heap.size w U ∧ -1 ≤ cut ∧ cut ≤ 9223372036854775807) := ⟨h, h.later hbU, hbU, h.cut.1, h.cut.2⟩
  have hcut := h.cut
  have hop := rop_any t bb n kd nd o s vl U hs1 hs2
  have e0 : opE t bb n kd nd o s.data.toList vl.data.toList = errJ x := by rw [hx.out]; rfl
  rw [e0] at hop
  have hbl : b.data.toList.length = b.size := by simp
  obtain ⟨S, hS⟩ : ∃ S, Aside (S = w.heap.size) := ⟨_, rfl⟩
  have OU : OpJ U S (t, bb, n, kd, nd, o, s, vl) := by rw [hU.out, hS.out]; exact OpJ.new w (t, bb, n, kd, nd, o, s, vl)
  have HOU : Aside (OpJ U S (t, bb, n, kd, nd, o, s, vl)) := OU
  obtain ⟨q0, q1, q2, q3, q4, q5, q6, q7, qf⟩ := OU.cells
  dsimp only at q0 q1 q2 q3 q4 q5 q6 q7
  obtain ⟨R, hR⟩ : ∃ R, Aside (R = mApp b.data.toList off cut x) := ⟨_, rfl⟩
  obtain ⟨cd, hcd⟩ : ∃ cd, Aside (cd = errJ x) := ⟨_, rfl⟩
  rw [← hcd.out] at hop e0
  clear h hbU OU
  unfold AppOut
  rw [ex, ← hR.out, hx.out]
  unfold encJ
  dsimp only
  go_enter Tryz.func38, Tryz.ntmps38
  go_upto_region 1 with fail
  rw [← hU.out, ← hS.out]
  go_wp2_with fail
  refine hop.mono ?_
  clear hop q0 q1 q2 q3 q4 q5 q6 q7 qf
  rintro e w1 ⟨rfl, hb1⟩
  have H1 : Aside (MAt w1 m b off cut ∧ Below w.heap.size w w1 ∧ OpJ w1 S (t, bb, n, kd, nd, o, s, vl)) := ⟨H0.out.2.1.later hb1, H0.out.2.2.1.trans (hb1.mono H0.out.2.2.1.size), HOU.out.later hb1⟩
  clear hb1 HOU
  by_cases herr : cd = 0
  case neg =>
    have HA : Aside (R = (cd, (b.data.toList, off, cut))) := by
      show _ = _
      rw [hR.out]
      unfold mApp
      rw [← hcd.out, if_pos herr]
    have dc : decide ((0 : Int) < (cd : Int)) = true := by simp; omega
    have dcn : decide (0 < cd) = true := by simp; omega
    have dcp : 0 < cd := by omega
    clear e0 ex herr
    go_wp2
    go_ret
    rw [HA.out]
    exact ⟨b, rfl, rfl, H1.out.1, keeps_low H1.out.2.1⟩
  subst herr
  have hz : errJ x = 0 := hcd.out.symm
  have htx := rtext_any t bb n kd nd o s vl w1 e0
  have hte : opTextL t bb n kd nd o s.data.toList vl.data.toList = textO x := by rw [hx.out]; rfl
  rw [hte] at htx
  obtain ⟨tx, htxx⟩ : ∃ tx : ByteArray, Aside (tx = ⟨(textO x).toArray⟩) := ⟨_, rfl⟩
  rw [← htxx.out] at htx
  have htl : tx.data.toList = textO x := by rw [htxx.out]
  have HTL : Aside (tx.data.toList = textO x) := htl
  have htz : tx.size ≤ 1000 := by
    have h1 := textO_len hz
    rw [← htl] at h1
    simpa using h1
  obtain ⟨q0, q1, q2, q3, q4, q5, q6, q7, qf⟩ := H1.out.2.2.cells
  dsimp only at q0 q1 q2 q3 q4 q5 q6 q7
  clear hte htl e0 ex
  go_wp2_with fail
  refine htx.mono ?_
  clear htx q0 q1 q2 q3 q4 q5 q6 q7 qf
  rintro e w2 ⟨rfl, hb2⟩
  have H2 : Aside (MAt w2 m b off cut ∧ Below w.heap.size w w2) := ⟨H1.out.1.later hb2, H1.out.2.1.trans (hb2.mono H1.out.2.1.size)⟩
  have hrc := refRecord_any tx w2 (by omega)
  clear hb2 H1
  go_wp2_with fail
  refine hrc.mono ?_
  clear hrc
  rintro e w3 ⟨r, hr, rfl, hb3⟩
  have H3 : Aside (MAt w3 m b off cut ∧ Below w.heap.size w w3) := ⟨H2.out.1.later hb3, H2.out.2.trans (hb3.mono H2.out.2.size)⟩
  have HRL : Aside (r.data.toList = recL (textO x)) := by rw [← HTL.out]; exact hr
  have hrs : r.size = (recL (textO x)).length := by
    have := congrArg List.length HRL.out
    simpa using this
  have hrz : r.size ≤ 1010 := by
    have h1 := recL_len tx.data.toList
    rw [← hr] at h1
    have h2 : tx.data.toList.length = tx.size := by simp
    have h3 : r.data.toList.length = r.size := by simp
    omega
  have HRS : Aside (r.size = (recL (textO x)).length) := hrs
  obtain ⟨c0, c1, c2, cf⟩ := H3.out.1.c
  clear hb3 H2 hr hrs
  have hadd : IntKind.i64.wrap ((b.size : Int) + (r.size : Int)) = ((b.size + r.size : Nat) : Int) := by rw [IntKind.wrap_i64]; omega
  have hadd2 : (b.size : Int) + (r.size : Int) = ((b.size + r.size : Nat) : Int) := by omega
  obtain ⟨N, hN⟩ : ∃ N : Nat, Aside (N = b.size + r.size) := ⟨_, rfl⟩
  rw [← hN.out] at hadd hadd2
  by_cases hf : 65536 < N
  · have df : decide ((65536 : Int) < (N : Int)) = true := by simp; omega
    have dfn : decide (65536 < N) = true := by simp; omega
    have HA : Aside (R = (8, (b.data.toList, off, cut))) := by
      show _ = _
      rw [hR.out]
      unfold mApp
      have h1 : ¬ (errJ x ≠ 0) := fun q => q hz
      rw [if_neg h1, if_pos (by rw [hbl, ← HRS.out, ← hN.out]; exact hf)]
    clear hf
    go_wp2
    go_ret
    rw [HA.out]
    exact ⟨b, rfl, rfl, H3.out.1, keeps_low H3.out.2⟩
  · have df : decide ((65536 : Int) < (N : Int)) = false := by simp; omega
    have dfn : decide (65536 < N) = false := by simp; omega
    have HA : Aside (R = if off = true then (11, (b.data.toList, off, cut)) else if 0 ≤ cut ∧ cut < (r.size : Int) then (11, (b.data.toList ++ (recL (textO x)).take cut.toNat, true, cut)) else (0, (b.data.toList ++ recL (textO x), false, if 0 ≤ cut then cut - (r.size : Int) else cut))) := by
      show _ = _
      rw [hR.out]
      unfold mApp
      have h1 : ¬ (errJ x ≠ 0) := fun q => q hz
      rw [if_neg h1, if_neg (by rw [hbl, ← HRS.out, ← hN.out]; exact hf), HRS.out]
    cases off with
    | true =>
      rw [if_pos rfl] at HA
      go_wp2
      go_ret
      rw [HA.out]
      exact ⟨b, rfl, rfl, H3.out.1, keeps_low H3.out.2⟩
    | false =>
      rw [if_neg (by simp)] at HA
      by_cases hc0 : 0 ≤ cut
      · have dg : decide (0 ≤ cut) = true := by simp; omega
        obtain ⟨k, rfl⟩ : ∃ k : Nat, cut = (k : Int) := ⟨cut.toNat, by omega⟩
        by_cases hcl : k < r.size
        · have dl : decide ((k : Int) < (r.size : Int)) = true := by simp; omega
          have dln : decide (k < r.size) = true := by simp; omega
          rw [if_pos (by omega)] at HA
          have hF : (r.extract 0 k).data.toList = r.data.toList.take k := by simp
          have hFs : (r.extract 0 k).size = k := by simp; omega
          have k0 : (0 : Int) ≤ (k : Int) := by omega
          have k1 : (k : Int) ≤ (r.size : Int) := by omega
          obtain ⟨G, hG, hGs, ha⟩ := add_two b (r.extract 0 k) (by omega)
          have HG : Aside (G.data.toList = b.data.toList ++ (recL (textO x)).take ((k : Int)).toNat) := by
            show _ = _
            rw [hG, hF, HRL.out]
            rfl
          clear hFs
          have D0 : w3.drew.cell? ⟨m, 0, none⟩ = some (.string b) := c0
          have D2 : w3.drew.cell? ⟨m, 2, none⟩ = some (.int .i64 (k : Int)) := c2
          have Df : ∀ o, w3.drew.frozen? ⟨m, o, none⟩ = false := cf
          have HM1 : Aside (MAt w3.drew m b false (k : Int) ∧ Below w.heap.size w w3.drew) := ⟨⟨H3.out.1.cell, H3.out.1.cut⟩, H3.out.2.drew⟩
          have HM2 : Aside (MAt (w3.drew.setCell ⟨m, 0, none⟩ (.string G)) m G false (k : Int) ∧ Keeps (fun k => k = m) w3.drew (w3.drew.setCell ⟨m, 0, none⟩ (.string G))) := HM1.out.1.set0 G
          clear hF hG hGs
          go_upto_region 10 with fail
          refine wp_region_H (S := (fun w' => w'.cell? ⟨m, 2, none⟩ = some (.int .i64 (k : Int)))) (by kernel_rfl) D2 (fun hHeld => ?_)
          refine wpAnyH_take (i := 0) (v := ?vaa0) rfl (by kernel_rfl) (by kernel_rfl) (by kernel_rfl) (fun _ _ _ h => h) (Or.inl ⟨by rfl, ?hya0⟩) hHeld ?resta0
          case hya0 => (intro w' hSw; clear hSw; go_simp; try with_reducible rfl)
          try simp only [List.getElem_toArray, List.getElem_cons_succ, List.getElem_cons_zero, Act.put, List.setIfInBounds_toArray, List.set_cons_zero, List.set_cons_succ]
          refine wpAnyH_take (i := 1) (v := ?vaa1) rfl (by kernel_rfl) (by kernel_rfl) (by kernel_rfl) (fun _ _ _ h => h) (Or.inl ⟨by rfl, ?hya1⟩) hHeld ?resta1
          case hya1 => (intro w' hSw; clear hSw; go_simp; try with_reducible rfl)
          try simp only [List.getElem_toArray, List.getElem_cons_succ, List.getElem_cons_zero, Act.put, List.setIfInBounds_toArray, List.set_cons_zero, List.set_cons_succ]
          refine wpAnyH_take (i := 2) (v := ?vaa2) rfl (by kernel_rfl) (by kernel_rfl) (by kernel_rfl) (fun _ _ _ h => h) (Or.inl ⟨by rfl, ?hya2⟩) hHeld ?resta2
          case hya2 => (intro w' hSw; clear hSw; go_simp; try with_reducible rfl)
          try simp only [List.getElem_toArray, List.getElem_cons_succ, List.getElem_cons_zero, Act.put, List.setIfInBounds_toArray, List.set_cons_zero, List.set_cons_succ]
          refine wpAnyH_take (i := 3) (v := ?vaa3) rfl (by kernel_rfl) (by kernel_rfl) (by kernel_rfl) (fun _ _ _ h => h) (Or.inl ⟨by rfl, ?hya3⟩) hHeld ?resta3
          case hya3 => (intro w' hSw; clear hSw; go_simp; try with_reducible rfl)
          try simp only [List.getElem_toArray, List.getElem_cons_succ, List.getElem_cons_zero, Act.put, List.setIfInBounds_toArray, List.set_cons_zero, List.set_cons_succ]
          refine wpAnyH_take (i := 5) (v := ?vaa5) rfl (by kernel_rfl) (by kernel_rfl) (by kernel_rfl) (fun _ _ _ h => h) (Or.inl ⟨by rfl, ?hya5⟩) hHeld ?resta5
          case hya5 => (intro w' hSw; clear hSw; go_simp; try with_reducible rfl)
          try simp only [List.getElem_toArray, List.getElem_cons_succ, List.getElem_cons_zero, Act.put, List.setIfInBounds_toArray, List.set_cons_zero, List.set_cons_succ]
          refine wpAnyH_take (i := 6) (v := ?vaa6) rfl (by kernel_rfl) (by kernel_rfl) (by kernel_rfl) (fun _ _ _ h => h) (Or.inl ⟨by rfl, ?hya6⟩) hHeld ?resta6
          case hya6 => (intro w' hSw; clear hSw; go_simp; try with_reducible rfl)
          try simp only [List.getElem_toArray, List.getElem_cons_succ, List.getElem_cons_zero, Act.put, List.setIfInBounds_toArray, List.set_cons_zero, List.set_cons_succ]
          refine wpAnyH_take (i := 7) (v := ?vaa7) rfl (by kernel_rfl) (by kernel_rfl) (by kernel_rfl) (fun _ _ _ h => h) (Or.inl ⟨by rfl, ?hya7⟩) hHeld ?resta7
          case hya7 => (intro w' hSw; clear hSw; go_simp; try with_reducible rfl)
          try simp only [List.getElem_toArray, List.getElem_cons_succ, List.getElem_cons_zero, Act.put, List.setIfInBounds_toArray, List.set_cons_zero, List.set_cons_succ]
          refine wpAnyH_take (i := 8) (v := ?vaa8) rfl (by kernel_rfl) (by kernel_rfl) (by kernel_rfl) (fun _ _ _ h => h) (Or.inl ⟨by rfl, ?hya8⟩) hHeld ?resta8
          case hya8 => (intro w' hSw; clear hSw; go_simp; try with_reducible rfl)
          try simp only [List.getElem_toArray, List.getElem_cons_succ, List.getElem_cons_zero, Act.put, List.setIfInBounds_toArray, List.set_cons_zero, List.set_cons_succ]
          refine wpAnyH_take (i := 9) (v := ?vaa9) rfl (by kernel_rfl) (by kernel_rfl) (by kernel_rfl) (fun _ _ _ h => h) (Or.inl ⟨by rfl, ?hya9⟩) hHeld ?resta9
          case hya9 => (intro w' hSw; go_simp; try with_reducible rfl)
          try simp only [List.getElem_toArray, List.getElem_cons_succ, List.getElem_cons_zero, Act.put, List.setIfInBounds_toArray, List.set_cons_zero, List.set_cons_succ]
          refine wpAnyH_take (i := 10) (v := ?vaa10) rfl (by kernel_rfl) (by kernel_rfl) (by kernel_rfl) (fun _ _ _ h => h) (Or.inl ⟨by rfl, ?hya10⟩) hHeld ?resta10
          case hya10 => (intro w' hSw; clear hSw; go_simp; try with_reducible rfl)
          try simp only [List.getElem_toArray, List.getElem_cons_succ, List.getElem_cons_zero, Act.put, List.setIfInBounds_toArray, List.set_cons_zero, List.set_cons_succ]
          refine wpAnyH_one (i := 4) (by kernel_rfl) rfl (fun K hK => ?_)
          go_simp
          refine hK _ _ hHeld ?_
          clear hK K
          try simp only [List.getElem_toArray, List.getElem_cons_succ, List.getElem_cons_zero, Act.put, List.setIfInBounds_toArray, List.set_cons_zero, List.set_cons_succ]
          refine wpAnyH_take (i := 11) (v := ?vab11) rfl (by kernel_rfl) (by kernel_rfl) (by kernel_rfl) (fun _ _ _ h => h) (Or.inl ⟨by rfl, ?hyb11⟩) hHeld ?restb11
          case hyb11 => (intro w' hSw; clear hSw; go_simp; try with_reducible rfl)
          try simp only [List.getElem_toArray, List.getElem_cons_succ, List.getElem_cons_zero, Act.put, List.setIfInBounds_toArray, List.set_cons_zero, List.set_cons_succ]
          refine wpAnyH_take (i := 12) (v := ?vab12) rfl (by kernel_rfl) (by kernel_rfl) (by kernel_rfl) (fun _ _ _ h => h) (Or.inl ⟨by rfl, ?hyb12⟩) hHeld ?restb12
          case hyb12 => (intro w' hSw; clear hSw; go_simp; try with_reducible rfl)
          try simp only [List.getElem_toArray, List.getElem_cons_succ, List.getElem_cons_zero, Act.put, List.setIfInBounds_toArray, List.set_cons_zero, List.set_cons_succ]
          refine wpAnyH_take (i := 13) (v := ?vab13) rfl (by kernel_rfl) (by kernel_rfl) (by kernel_rfl) (fun _ _ _ h => h) (Or.inl ⟨by rfl, ?hyb13⟩) hHeld ?restb13
          case hyb13 => (intro w' hSw; clear hSw; go_simp; try with_reducible rfl)
          try simp only [List.getElem_toArray, List.getElem_cons_succ, List.getElem_cons_zero, Act.put, List.setIfInBounds_toArray, List.set_cons_zero, List.set_cons_succ]
          refine wpAnyH_one (i := 14) (by kernel_rfl) rfl (fun K hK => ?_)
          go_simp
          refine hK _ _ HM2.out.1.c.2.2.1 ?_
          clear hK K
          try simp only [List.getElem_toArray, List.getElem_cons_succ, List.getElem_cons_zero, Act.put, List.setIfInBounds_toArray, List.set_cons_zero, List.set_cons_succ]
          refine wpAnyH_done (by kernel_rfl) ?_ _
          try simp only [List.getElem_toArray, List.getElem_cons_succ, List.getElem_cons_zero, Act.put, List.setIfInBounds_toArray, List.set_cons_zero, List.set_cons_succ]
          obtain ⟨y0, y1, y2, yf⟩ := HM2.out.1.c
          go_wp2
          go_ret
          rw [HA.out]
          have h2 := HM2.out.1.set1 true
          exact ⟨G, rfl, HG.out, h2.1, (keeps_low HM1.out.2).trans (HM2.out.2.trans h2.2)⟩
        · have dl : decide ((k : Int) < (r.size : Int)) = false := by simp; omega
          have dln : decide (k < r.size) = false := by simp; omega
          rw [if_neg (by omega), if_pos (by omega)] at HA
          have hsub : IntKind.i64.wrap ((k : Int) - (r.size : Int)) = (k : Int) - (r.size : Int) := by rw [IntKind.wrap_i64]; omega
          obtain ⟨G, hG, hGs, ha⟩ := add_two b r (by omega)
          have HG : Aside (G.data.toList = b.data.toList ++ recL (textO x)) := by
            show _ = _
            rw [hG, HRL.out]
          clear hG hGs
          go_wp2
          go_ret
          rw [HA.out]
          have h1 := H3.out.1.set2 ((k : Int) - (r.size : Int)) (by omega)
          have h2 := h1.1.set0 G
          exact ⟨G, rfl, HG.out, h2.1, (keeps_low H3.out.2).trans (h1.2.trans h2.2)⟩
      · have dg : decide (0 ≤ cut) = false := by simp; omega
        rw [if_neg (by omega), if_neg hc0] at HA
        obtain ⟨G, hG, hGs, ha⟩ := add_two b r (by omega)
        have HG : Aside (G.data.toList = b.data.toList ++ recL (textO x)) := by
          show _ = _
          rw [hG, HRL.out]
        clear hG hGs
        go_wp2
        go_ret
        rw [HA.out]
        have h2 := H3.out.1.set0 G
        exact ⟨G, rfl, HG.out, h2.1, (keeps_low H3.out.2).trans h2.2⟩
end Go.Proofs.YtcggmagdndhkbaaGreatDoor
end
section
namespace Go.Proofs.YtcggmagdndhkbaaGreatDoor
open Go.RowKit Go.Lib Go.Sort
def OpsIn (w : World) (ao : Option Addr) (xs : List OpX) : Prop := xs = [] ∨ ∃ blk off, ao = some ⟨blk, off, none⟩ ∧ ∀ j u, (cellsOf xs)[j]? = some u → w.cell? ⟨blk, off + j, none⟩ = some u
theorem OpsIn.later {w w' : World} {ao : Option Addr} {xs : List OpX} (h : OpsIn w ao xs) (hb : Below w.heap.size w w') : OpsIn w' ao xs := by
  rcases h with h | ⟨g, o, h1, h2⟩
  · exact .inl h
  · exact .inr ⟨g, o, h1, fun j u hj => cellKept hb (h2 j u hj)⟩
end Go.Proofs.YtcggmagdndhkbaaGreatDoor
end
section
namespace Go.Proofs.YtcggmagdndhkbaaGreatDoor
open Go.RowKit
def eqB (t b n : Int) (k : Nat) (node other : Int) (name value : ByteArray) (t' b' n' : Int) (k' : Nat) (node' other' : Int) (name' value' : ByteArray) : Bool := decide (t = t' ∧ b = b' ∧ n = n' ∧ k = k' ∧ node = node' ∧ other = other' ∧ name = name' ∧ value = value')
theorem eqOp (t b n : Int) (k : Nat) (node other : Int) (name value : ByteArray) (t' b' n' : Int) (k' : Nat) (node' other' : Int) (name' value' : ByteArray) (w : World) : (Op.equalIn 10000 31 (.agg #[.int .i64 t, .int .i64 b, .int .i64 n, .int .u8 (k : Int), .int .i64 node, .int .i64 other, .string name, .string value]) (.agg #[.int .i64 t', .int .i64 b', .int .i64 n', .int .u8 (k' : Int), .int .i64 node', .int .i64 other', .string name', .string value'])).run Tryz.prog w = .ok (eqB t b n k node other name value t' b' n' k' node' other' name' value') w := by
  have hs : ∀ x y : ByteArray, x.toList = y.toList ↔ x = y := fun x y => ⟨fun h => by rw [ByteArray.toList_eq, ByteArray.toList_eq] at h; exact WideShapes.bytes_inj h, fun h => by rw [h]⟩
  unfold eqB
  go_simp
  simp only [Int.natCast_inj]
  by_cases h1 : t = t' <;> by_cases h2 : b = b' <;> by_cases h3 : n = n' <;> by_cases h4 : k = k' <;> by_cases h5 : node = node' <;> by_cases h6 : other = other' <;> by_cases h7 : name = name' <;> by_cases h8 : value = value' <;> simp [h1, h2, h3, h4, h5, h6, h7, h8]
theorem eqB_self (t b n : Int) (k : Nat) (node other : Int) (name value : ByteArray) : eqB t b n k node other name value t b n k node other name value = true := by simp [eqB]
end Go.Proofs.YtcggmagdndhkbaaGreatDoor
end
section
set_option linter.unusedVariables false
set_option linter.unusedSimpArgs false
namespace Go.Proofs.YtcggmagdndhkbaaGreatDoor
open Go Go.RowKit Go.Lib Go.Sort
theorem opsIn_of {w : World} {v : Value} {xs : List OpX} (h : OpsAt w v xs) : ∃ ao cap, v = .slice ao xs.length cap ∧ OpsIn w ao xs := by
  rcases h with ⟨rfl, rfl⟩ | ⟨b, o, cp, rfl, hc⟩
  · exact ⟨none, 0, rfl, .inl rfl⟩
  · exact ⟨some ⟨b, o, none⟩, cp, rfl, .inr ⟨b, o, rfl, hc⟩⟩
def OneAt (w : World) (ao : Option Addr) (i : Nat) (x : OpX) : Prop := ∃ blk off, ao = some ⟨blk, off, none⟩ ∧ Eight w blk (off + i * 8) x.1 x.2.1 x.2.2.1 x.2.2.2.1 x.2.2.2.2.1 x.2.2.2.2.2.1 x.2.2.2.2.2.2.1 x.2.2.2.2.2.2.2
theorem OpsIn.one {w : World} {ao : Option Addr} {xs : List OpX} (h : OpsIn w ao xs) {i : Nat} {x : OpX} (hx : xs[i]? = some x) : OneAt w ao i x := by
  have hi := (List.getElem?_eq_some_iff.1 hx).1
  rcases h with rfl | ⟨blk, off, rfl, hc⟩
  · simp at hi
  · obtain ⟨t, b, n, kd, nd, o, s, v⟩ := x
    refine ⟨blk, off, rfl, eight_at hc i hi ?_⟩
    rw [getElem!_pos xs i hi]
    exact (List.getElem?_eq_some_iff.1 hx).2
set_option maxRecDepth 100000 in
set_option maxHeartbeats 4000000 in
theorem sameJ (w : World) (v1 v2 : Value) (xs : List OpX) (h1 : OpsAt w v1 xs) (h2 : OpsAt w v2 xs) (hn : xs.length ≤ 1000000) :
    Calls Tryz.prog 19 #[v1, v2] w fun e w' => e = .returned (.bool true) ∧ Below w.heap.size w w' := by
  obtain ⟨a1, c1, rfl, i1⟩ := opsIn_of h1
  obtain ⟨a2, c2, rfl, i2⟩ := opsIn_of h2
  have H : Aside (OpsIn w a1 xs ∧ OpsIn w a2 xs) := ⟨i1, i2⟩
  clear h1 h2 i1 i2
  go_enter Tryz.func19, Tryz.ntmps19
  go_wp2
  go_loopg [5] xs.length (fun kx s5 wr => ∃ (i : Nat), s5 = .int .i64 (i : Int) ∧ i ≤ xs.length ∧ xs.length - i ≤ kx ∧ Aside (Below w.heap.size w wr))
  case atStart => exact ⟨0, rfl, Nat.zero_le _, Nat.le_refl _, Below.refl _ w⟩
  case round =>
    obtain ⟨i, rfl, hi, hix, A⟩ := hrel
    by_cases hlt : i < xs.length
    · have d1 : decide ((i : Int) < (xs.length : Int)) = true := by simp; omega
      have d1n : decide (i < xs.length) = true := by simp; omega
      obtain ⟨x, hx⟩ : ∃ x, Aside (xs[i]? = some x) := ⟨xs[i], List.getElem?_eq_getElem hlt⟩
      obtain ⟨b1, o1, e1, E1⟩ := (H.out.1.later A.out).one hx.out
      obtain ⟨b2, o2, e2, E2⟩ := (H.out.2.later A.out).one hx.out
      obtain ⟨t, b, n, kd, nd, o, s, v⟩ := x
      dsimp only at E1 E2
      subst e1
      subst e2
      have wi : ((i : Int)).toNat = i := by omega
      have pi : (0 : Int) ≤ (i : Int) := by omega
      have bi : (i : Int) < (xs.length : Int) := by omega
      have heq : ∀ w : World, (Op.equalIn 10000 31 (.agg #[.int .i64 t, .int .i64 b, .int .i64 n, .int .u8 (kd : Int), .int .i64 nd, .int .i64 o, .string s, .string v]) (.agg #[.int .i64 t, .int .i64 b, .int .i64 n, .int .u8 (kd : Int), .int .i64 nd, .int .i64 o, .string s, .string v])).run Tryz.prog w = .ok true w := fun w => by
        have := eqOp t b n kd nd o s v t b n kd nd o s v w
        rw [eqB_self] at this
        exact this
      have hh : Eight wr.drew b1 (o1 + i * 8) t b n kd nd o s v ∧ Eight wr.drew b2 (o2 + i * 8) t b n kd nd o s v := ⟨E1.later (Below.refl _ wr).drew, E2.later (Below.refl _ wr).drew⟩
      clear E1 E2
      go_upto_region 6 with fail
      refine wp_region_H (S := (fun w' => Eight w' b1 (o1 + i * 8) t b n kd nd o s v ∧ Eight w' b2 (o2 + i * 8) t b n kd nd o s v)) (by kernel_rfl) hh (fun hHeld => ?_)
      refine wpAnyH_take (i := 0) (v := ?va0) rfl (by kernel_rfl) (by kernel_rfl) (by kernel_rfl) (fun _ _ _ h => h) (Or.inl ⟨by rfl, ?hy0⟩) hHeld ?rest0
      case hy0 => (intro w' hSw; clear hSw; go_simp; try with_reducible rfl)
      try simp only [List.getElem_toArray, List.getElem_cons_succ, List.getElem_cons_zero, Act.put, List.setIfInBounds_toArray, List.set_cons_zero, List.set_cons_succ]
      refine wpAnyH_take (i := 1) (v := ?va1) rfl (by kernel_rfl) (by kernel_rfl) (by kernel_rfl) (fun _ _ _ h => h) (Or.inl ⟨by rfl, ?hy1⟩) hHeld ?rest1
      case hy1 => (intro w' hSw; clear hSw; go_simp; try with_reducible rfl)
      try simp only [List.getElem_toArray, List.getElem_cons_succ, List.getElem_cons_zero, Act.put, List.setIfInBounds_toArray, List.set_cons_zero, List.set_cons_succ]
      refine wpAnyH_take (i := 2) (v := ?va2) rfl (by kernel_rfl) (by kernel_rfl) (by kernel_rfl) (fun _ _ _ h => h) (Or.inl ⟨by rfl, ?hy2⟩) hHeld ?rest2
      case hy2 => (intro w' hSw; clear hSw; go_simp; try with_reducible rfl)
      try simp only [List.getElem_toArray, List.getElem_cons_succ, List.getElem_cons_zero, Act.put, List.setIfInBounds_toArray, List.set_cons_zero, List.set_cons_succ]
      refine wpAnyH_take (i := 3) (v := ?va3) rfl (by kernel_rfl) (by kernel_rfl) (by kernel_rfl) (fun _ _ _ h => h) (Or.inl ⟨by rfl, ?hy3⟩) hHeld ?rest3
      case hy3 => (intro w' hSw; obtain ⟨q0, q1, q2, q3, q4, q5, q6, q7⟩ := hSw.1; clear hSw; go_simp; try with_reducible rfl)
      try simp only [List.getElem_toArray, List.getElem_cons_succ, List.getElem_cons_zero, Act.put, List.setIfInBounds_toArray, List.set_cons_zero, List.set_cons_succ]
      refine wpAnyH_take (i := 4) (v := ?va4) rfl (by kernel_rfl) (by kernel_rfl) (by kernel_rfl) (fun _ _ _ h => h) (Or.inl ⟨by rfl, ?hy4⟩) hHeld ?rest4
      case hy4 => (intro w' hSw; clear hSw; go_simp; try with_reducible rfl)
      try simp only [List.getElem_toArray, List.getElem_cons_succ, List.getElem_cons_zero, Act.put, List.setIfInBounds_toArray, List.set_cons_zero, List.set_cons_succ]
      refine wpAnyH_take (i := 5) (v := ?va5) rfl (by kernel_rfl) (by kernel_rfl) (by kernel_rfl) (fun _ _ _ h => h) (Or.inl ⟨by rfl, ?hy5⟩) hHeld ?rest5
      case hy5 => (intro w' hSw; clear hSw; go_simp; try with_reducible rfl)
      try simp only [List.getElem_toArray, List.getElem_cons_succ, List.getElem_cons_zero, Act.put, List.setIfInBounds_toArray, List.set_cons_zero, List.set_cons_succ]
      refine wpAnyH_take (i := 6) (v := ?va6) rfl (by kernel_rfl) (by kernel_rfl) (by kernel_rfl) (fun _ _ _ h => h) (Or.inl ⟨by rfl, ?hy6⟩) hHeld ?rest6
      case hy6 => (intro w' hSw; clear hSw; go_simp; try with_reducible rfl)
      try simp only [List.getElem_toArray, List.getElem_cons_succ, List.getElem_cons_zero, Act.put, List.setIfInBounds_toArray, List.set_cons_zero, List.set_cons_succ]
      refine wpAnyH_take (i := 7) (v := ?va7) rfl (by kernel_rfl) (by kernel_rfl) (by kernel_rfl) (fun _ _ _ h => h) (Or.inl ⟨by rfl, ?hy7⟩) hHeld ?rest7
      case hy7 => (intro w' hSw; obtain ⟨q0, q1, q2, q3, q4, q5, q6, q7⟩ := hSw.2; clear hSw; go_simp; try with_reducible rfl)
      try simp only [List.getElem_toArray, List.getElem_cons_succ, List.getElem_cons_zero, Act.put, List.setIfInBounds_toArray, List.set_cons_zero, List.set_cons_succ]
      refine wpAnyH_take (i := 8) (v := ?va8) rfl (by kernel_rfl) (by kernel_rfl) (by kernel_rfl) (fun _ _ _ h => h) (Or.inl ⟨by rfl, ?hy8⟩) hHeld ?rest8
      case hy8 => (intro w' hSw; clear hSw; go_simp; try with_reducible rfl)
      try simp only [List.getElem_toArray, List.getElem_cons_succ, List.getElem_cons_zero, Act.put, List.setIfInBounds_toArray, List.set_cons_zero, List.set_cons_succ]
      refine wpAnyH_done (by kernel_rfl) ?_ _
      try simp only [List.getElem_toArray, List.getElem_cons_succ, List.getElem_cons_zero, Act.put, List.setIfInBounds_toArray, List.set_cons_zero, List.set_cons_succ]
      have HB : Aside (Below w.heap.size w wr.drew) := A.out.drew
      clear A hh heq
      go_wp2
      go_roundg (xs.length - (i + 1))
      case measure => omega
      case rel => exact ⟨i + 1, by go_num, by omega, Nat.le_refl _, HB.out⟩
    · have d1 : decide ((i : Int) < (xs.length : Int)) = false := by simp; omega
      have d1n : decide (i < xs.length) = false := by simp; omega
      go_wp2
      go_ret
      exact ⟨rfl, A.out⟩
end Go.Proofs.YtcggmagdndhkbaaGreatDoor
end
