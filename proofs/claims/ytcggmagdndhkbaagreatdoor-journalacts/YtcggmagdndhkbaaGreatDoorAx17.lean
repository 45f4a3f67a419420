import Derived.Test.YtcggmagdndhkbaaGreatDoorAx02
import Derived.Test.YtcggmagdndhkbaaGreatDoorAx12
import Derived.Test.YtcggmagdndhkbaaGreatDoorAx13
import Derived.Test.YtcggmagdndhkbaaGreatDoorAx16
section
set_option linter.unusedVariables false
set_option linter.unusedSimpArgs false
namespace Go.Proofs.YtcggmagdndhkbaaGreatDoor
open Go Go.RowKit Go.Lib Go.Sort
theorem opof_any (s : ByteArray) (w : World) (hs : s.size ≤ 70000) :
    Calls Tryz.prog 102 #[.string s] w fun e w' => ∃ (x : OpX) (c : Nat), e = .returned (.tuple #[encJ x, .int .i64 (c : Int)]) ∧ Aside (Below w.heap.size w w' ∧ ((c = 0 ∧ readO s.data.toList = some x) ∨ (0 < c ∧ readO s.data.toList = none))) := by
  refine (of_any s w hs).mono ?_
  rintro e w' ⟨rfl, hb⟩
  unfold readO okR codeR
  cases partsL s.data.toList with
  | none => exact ⟨zeroJ, 1, rfl, hb, .inr ⟨by omega, rfl⟩⟩
  | some p =>
    obtain ⟨c, n1, n2, n3, n4, n5, nm, v⟩ := p
    dsimp only
    by_cases he : opE n1 n2 n3 c.toNat n4 n5 nm v = 0
    · rw [if_pos he, he, if_pos rfl]
      exact ⟨((n1 : Int), (n2 : Int), (n3 : Int), c.toNat, (n4 : Int), (n5 : Int), ⟨nm.toArray⟩, ⟨v.toArray⟩), 0, rfl, hb, .inl ⟨rfl, rfl⟩⟩
    · rw [if_neg he, if_neg he]
      exact ⟨zeroJ, _, rfl, hb, .inr ⟨by omega, rfl⟩⟩
theorem beq_yes (x : ByteArray) : (x == x) = true := by
  cases x with
  | mk a =>
    show (a == a) = true
    simp
theorem cut_mid (s : ByteArray) (a b : Nat) (hab : a ≤ b) (h : b ≤ s.size) : ∃ F : ByteArray, F.data.toList = (s.data.toList.drop a).take (b - a) ∧ F.size = b - a ∧ ∀ w, (Instr.slice 9 (.string s) (some (.int .i64 (a : Int))) (some (.int .i64 (b : Int))) none).run Tryz.prog w = .ok (.string F) w := by
  have hd : (s.extract a b).data.toList = (s.data.toList.drop a).take (b - a) := by
    rw [Lib.extract_data]
  refine ⟨s.extract a b, hd, ?_, fun w => ?_⟩
  · have h2 : (s.extract a b).size = min b s.size - a := by simp
    omega
  · have h1 : (b : Int) ≤ (s.size : Int) := by omega
    have h0 : (0 : Int) ≤ (a : Int) := by omega
    have h2 : (a : Int) ≤ (b : Int) := by omega
    go_simp
set_option maxRecDepth 100000 in
set_option maxHeartbeats 4000000 in
theorem rread_any (s : ByteArray) (w : World) (hs : s.size ≤ 66000) :
    Calls Tryz.prog 47 #[.string s] w (ReadOut w s) := by
  obtain ⟨i0, hi0, hz0, hz1, hz2⟩ := info_parts infoOp
  obtain ⟨T, hT⟩ : ∃ T, Aside (T = readL_ s.data.toList) := ⟨_, rfl⟩
  have hsz : s.data.toList.length = s.size := by simp
  unfold ReadOut
  rw [← hT.out]
  go_enter Tryz.func47, Tryz.ntmps47
  go_wp2
  go_loopg [4, 5] s.size (fun kx s4 s5 W => ∃ (a : Nat) (xs : List OpX) (ov : Value), ov = s4 ∧ s5 = .int .i64 (a : Int) ∧ a ≤ s.size ∧ s.size - a ≤ kx ∧ xs.length ≤ 20000 ∧ Aside (W.ownsRow w.heap.size 31 8 ov xs.length (cellsOf xs) ∧ Below w.heap.size w W ∧ T = (xs ++ (readL_ (s.data.toList.drop a)).1, a + (readL_ (s.data.toList.drop a)).2)))
  case atStart => exact ⟨0, [], _, rfl, rfl, Nat.zero_le _, Nat.le_refl _, by simp, ⟨World.ownsRow_nil _ _ _ _, Below.refl _ w, by rw [hT.out]; simp⟩⟩
  case round =>
    obtain ⟨a, xs, ov, rfl, rfl, ha, hax, hxl, A⟩ := hrel
    obtain ⟨u, hu⟩ : ∃ u, u = wr := ⟨_, rfl⟩
    subst hu
    go_wp2
    go_loopg [6] (s.size - a) (fun kx s6 W => ∃ (n : Nat), s6 = .int .i64 (n : Int) ∧ a ≤ n ∧ n ≤ s.size ∧ s.size - n ≤ kx ∧ Aside (Goes s.data.toList a n ∧ W = u))
    case atStart => exact ⟨a, rfl, Nat.le_refl _, ha, Nat.le_refl _, Goes.start _ _, rfl⟩
    case round =>
      obtain ⟨n, rfl, han, hn, hnx, A2⟩ := hrel
      obtain rfl : u = wr := A2.out.2.symm
      have HG : Aside (Goes s.data.toList a n) := A2.out.1
      clear A2
      by_cases hlt : n < s.size
      · have d1 : decide ((n : Int) < (s.size : Int)) = true := by simp; omega
        have d1n : decide (n < s.size) = true := by simp; omega
        have d1g : decide ((s.size : Int) ≤ (n : Int)) = false := by simp; omega
        have d1gn : decide (s.size ≤ n) = false := by simp; omega
        by_cases hc : s[n] = 10
        · have dc : ((s[n].toNat : Int) != 10) = false := by rw [hc]; rfl
          have HB : Aside ((brk (s.data.toList.drop a)).length = n - a) := HG.out.brk han hlt hc
          clear hc HG
          by_cases h9 : n - a < 9
          · have d9 : decide ((n : Int) - (a : Int) < 9) = true := by simp; omega
            have HT : Aside (T = (xs, a)) := by
              show T = (xs, a)
              have hr : readR (s.data.toList.drop a) = none := by
                cases hq : readR (s.data.toList.drop a) with
                | none => rfl
                | some p =>
                  obtain ⟨y, m⟩ := p
                  have := (brk_is hq).1
                  have := HB.out
                  omega
              have := A.out.2.2
              rw [readA_none hr] at this
              simpa using this
            have HV : Aside (u.ownsRow w.heap.size 31 8 ov xs.length (cellsOf xs) ∧ Below w.heap.size w u) := ⟨A.out.1, A.out.2.1⟩
            clear A HB
            go_wp2
            go_ret2
            exact ⟨ov, by rw [HT.out]; rfl, by rw [HT.out]; exact HV.out.1, HV.out.2⟩
          · have d9 : decide ((n : Int) - (a : Int) < 9) = false := by simp; omega
            have e9 : (n : Int) - 9 = ((n - 9 : Nat) : Int) := by omega
            have hw9 : IntKind.i64.wrap ((n : Int) - 9) = ((n - 9 : Nat) : Int) := by rw [IntKind.wrap_i64]; omega
            have hwa : IntKind.i64.wrap ((n : Int) - (a : Int)) = (n : Int) - (a : Int) := by rw [IntKind.wrap_i64]; omega
            have e1 : (n : Int) + 1 = ((n + 1 : Nat) : Int) := by omega
            have hw1 : IntKind.i64.wrap ((n : Int) + 1) = ((n + 1 : Nat) : Int) := by rw [IntKind.wrap_i64]; omega
            obtain ⟨t, ht, hts, hsl⟩ := cut_mid s a (n - 9) (by omega) (by omega)
            obtain ⟨r, hr, hrs, hsr⟩ := cut_mid s a (n + 1) (by omega) (by omega)
            have hop := opof_any t u (by omega)
            have HTX : Aside (t.data.toList = (s.data.toList.drop a).take ((n - a) - 9)) := by
              show _ = _
              rw [ht]
              congr 1
              omega
            have HRX : Aside (r.data.toList = (s.data.toList.drop a).take ((n - a) + 1)) := by
              show _ = _
              rw [hr]
              congr 1
              omega
            have htsz : t.size ≤ 66000 := by omega
            clear ht hr
            go_wp2_with fail
            refine hop.mono ?_
            clear hop
            rintro e w1 ⟨x, c, rfl, H1⟩
            obtain ⟨V, hV⟩ : ∃ V, Aside (V = w1.alloc (.cells #[.int .i64 x.1, .int .i64 x.2.1, .int .i64 x.2.2.1, .int .u8 (x.2.2.2.1 : Int), .int .i64 x.2.2.2.2.1, .int .i64 x.2.2.2.2.2.1, .string x.2.2.2.2.2.2.1, .string x.2.2.2.2.2.2.2] 31)) := ⟨_, rfl⟩
            obtain ⟨Q, hQ⟩ : ∃ Q, Aside (Q = w1.heap.size) := ⟨_, rfl⟩
            have hbV : Below u.heap.size u V := by rw [hV.out]; exact H1.out.1.alloc H1.out.1.size _
            have OV : OpJ V Q x := by rw [hV.out, hQ.out]; exact OpJ.new w1 x
            have HV : Aside (V.ownsRow w.heap.size 31 8 ov xs.length (cellsOf xs) ∧ Below w.heap.size w V) := ⟨ownsJ A.out.1 (fun g hg => hbV.block g (A.out.1.lt g hg).2), A.out.2.1.trans (hbV.mono A.out.2.1.size)⟩
            clear hbV
            unfold encJ
            go_upto_region 7 with fail
            rw [← hV.out, ← hQ.out]
            have H1b : Aside ((c = 0 ∧ readO t.data.toList = some x) ∨ (0 < c ∧ readO t.data.toList = none)) := H1.out.2
            by_cases hc0 : c = 0
            · subst hc0
              have hro : readO t.data.toList = some x := by
                rcases H1b.out with ⟨_, q⟩ | ⟨q, _⟩
                · exact q
                · omega
              obtain ⟨N1, hN1⟩ : ∃ N1 : Nat, Aside (N1 = n + 1) := ⟨_, rfl⟩
              rw [← hN1.out] at e1 hw1
              have hwN : IntKind.i64.wrap (N1 : Int) = (N1 : Int) := by rw [IntKind.wrap_i64]; have := hN1.out; omega
              have k1 : (0 : Int) ≤ (a : Int) := by omega
              have k0 : (0 : Int) ≤ (N1 : Int) := by omega
              have k2 : (a : Int) ≤ (N1 : Int) := by have := hN1.out; omega
              have k3 : (N1 : Int) ≤ (s.size : Int) := by have := hN1.out; omega
              have hrc := refRecord_any t V.drew (by omega)
              have HX : Aside ((s.extract a N1).data.toList = (s.data.toList.drop a).take ((n - a) + 1)) := by
                show _ = _
                rw [Lib.extract_data, hN1.out]
                congr 1
                omega
              have HRO : Aside (readO ((s.data.toList.drop a).take ((n - a) - 9)) = some x) := by rw [← HTX.out]; exact hro
              clear hro H1b H1 hsl hsr
              refine wp_region_H (S := (fun _ => True)) (by kernel_rfl) trivial (fun hHeld => ?_)
              refine wpAnyH_take (i := 0) (v := ?vab0) rfl (by kernel_rfl) (by kernel_rfl) (by kernel_rfl) (fun _ _ _ h => h) (Or.inl ⟨by rfl, ?hyb0⟩) trivial ?restb0
              case hyb0 => (intro w' hSw; clear hSw; go_simp; try with_reducible rfl)
              try simp only [List.getElem_toArray, List.getElem_cons_succ, List.getElem_cons_zero, Act.put, List.setIfInBounds_toArray, List.set_cons_zero, List.set_cons_succ]
              refine wpAnyH_take (i := 1) (v := ?vab1) rfl (by kernel_rfl) (by kernel_rfl) (by kernel_rfl) (fun _ _ _ h => h) (Or.inl ⟨by rfl, ?hyb1⟩) trivial ?restb1
              case hyb1 => (intro w' hSw; clear hSw; go_simp; try with_reducible rfl)
              try simp only [List.getElem_toArray, List.getElem_cons_succ, List.getElem_cons_zero, Act.put, List.setIfInBounds_toArray, List.set_cons_zero, List.set_cons_succ]
              refine wpAnyH_take (i := 2) (v := ?vab2) rfl (by kernel_rfl) (by kernel_rfl) (by kernel_rfl) (fun _ _ _ h => h) (Or.inl ⟨by rfl, ?hyb2⟩) trivial ?restb2
              case hyb2 => (intro w' hSw; clear hSw; go_simp; try with_reducible rfl)
              try simp only [List.getElem_toArray, List.getElem_cons_succ, List.getElem_cons_zero, Act.put, List.setIfInBounds_toArray, List.set_cons_zero, List.set_cons_succ]
              refine wpAnyH_take (i := 3) (v := ?vab3) rfl (by kernel_rfl) (by kernel_rfl) (by kernel_rfl) (fun _ _ _ h => h) (Or.inl ⟨by rfl, ?hyb3⟩) trivial ?restb3
              case hyb3 => (intro w' hSw; clear hSw; go_simp; try with_reducible rfl)
              try simp only [List.getElem_toArray, List.getElem_cons_succ, List.getElem_cons_zero, Act.put, List.setIfInBounds_toArray, List.set_cons_zero, List.set_cons_succ]
              refine wpAnyH_take (i := 5) (v := ?vab5) rfl (by kernel_rfl) (by kernel_rfl) (by kernel_rfl) (fun _ _ _ h => h) (Or.inl ⟨by rfl, ?hyb5⟩) trivial ?restb5
              case hyb5 => (intro w' hSw; clear hSw; go_simp; try with_reducible rfl)
              try simp only [List.getElem_toArray, List.getElem_cons_succ, List.getElem_cons_zero, Act.put, List.setIfInBounds_toArray, List.set_cons_zero, List.set_cons_succ]
              refine wpAnyH_take (i := 6) (v := ?vab6) rfl (by kernel_rfl) (by kernel_rfl) (by kernel_rfl) (fun _ _ _ h => h) (Or.inl ⟨by rfl, ?hyb6⟩) trivial ?restb6
              case hyb6 => (intro w' hSw; clear hSw; go_simp; try with_reducible rfl)
              try simp only [List.getElem_toArray, List.getElem_cons_succ, List.getElem_cons_zero, Act.put, List.setIfInBounds_toArray, List.set_cons_zero, List.set_cons_succ]
              refine wpAnyH_take (i := 7) (v := ?vab7) rfl (by kernel_rfl) (by kernel_rfl) (by kernel_rfl) (fun _ _ _ h => h) (Or.inl ⟨by rfl, ?hyb7⟩) trivial ?restb7
              case hyb7 => (intro w' hSw; clear hSw; go_simp; try with_reducible rfl)
              try simp only [List.getElem_toArray, List.getElem_cons_succ, List.getElem_cons_zero, Act.put, List.setIfInBounds_toArray, List.set_cons_zero, List.set_cons_succ]
              refine wpAnyH_take (i := 8) (v := ?vab8) rfl (by kernel_rfl) (by kernel_rfl) (by kernel_rfl) (fun _ _ _ h => h) (Or.inl ⟨by rfl, ?hyb8⟩) trivial ?restb8
              case hyb8 => (intro w' hSw; clear hSw; go_simp; try with_reducible rfl)
              try simp only [List.getElem_toArray, List.getElem_cons_succ, List.getElem_cons_zero, Act.put, List.setIfInBounds_toArray, List.set_cons_zero, List.set_cons_succ]
              refine wpAnyH_take (i := 9) (v := ?vab9) rfl (by kernel_rfl) (by kernel_rfl) (by kernel_rfl) (fun _ _ _ h => h) (Or.inl ⟨by rfl, ?hyb9⟩) trivial ?restb9
              case hyb9 => (intro w' hSw; clear hSw; go_simp; try with_reducible rfl)
              try simp only [List.getElem_toArray, List.getElem_cons_succ, List.getElem_cons_zero, Act.put, List.setIfInBounds_toArray, List.set_cons_zero, List.set_cons_succ]
              refine wpAnyH_one (i := 4) (by kernel_rfl) rfl (fun K hK => ?_)
              go_simp
              refine hrc.mono ?_
              clear hrc
              rintro e w3 ⟨RR, hRR, rfl, hb3⟩
              refine hK _ _ trivial ?_
              clear hK K
              try simp only [List.getElem_toArray, List.getElem_cons_succ, List.getElem_cons_zero, Act.put, List.setIfInBounds_toArray, List.set_cons_zero, List.set_cons_succ]
              have HR3 : Aside (RR.data.toList = recL t.data.toList) := hRR
              have HB3 : Aside (Below V.heap.size V w3) := ((Below.refl _ V).drew).trans hb3
              clear hRR hb3
              by_cases hq : RR = s.extract a N1
              · have hrec : recL ((s.data.toList.drop a).take ((n - a) - 9)) = (s.data.toList.drop a).take ((n - a) + 1) := by
                  rw [← HTX.out, ← HR3.out, hq, HX.out]
                have hr : readR (s.data.toList.drop a) = some (x, N1 - a) := by
                  have := of_brk HRO.out (by omega) (by rw [List.length_drop, hsz]; omega) hrec
                  rw [this, show n - a + 1 = N1 - a by have := hN1.out; omega]
                have HT : Aside (T = ((xs ++ [x]) ++ (readL_ (s.data.toList.drop N1)).1, N1 + (readL_ (s.data.toList.drop N1)).2) ∧ (xs ++ [x]).length ≤ 20000) := by
                  have h1 := A.out.2.2
                  have hN := hN1.out
                  rw [readA_some hr, List.drop_drop, show a + (N1 - a) = N1 by omega] at h1
                  refine ⟨by rw [h1]; simp; omega, ?_⟩
                  have hle := readA_le s.data.toList
                  rw [← hT.out, h1] at hle
                  simp at hle ⊢
                  omega
                subst hq
                have hqq := beq_yes (s.extract a N1)
                have OV3 := OV.later HB3.out
                have HV3 : Aside (w3.ownsRow w.heap.size 31 8 ov xs.length (cellsOf xs) ∧ Below w.heap.size w w3) := ⟨ownsJ HV.out.1 (fun g hg => HB3.out.block g (HV.out.1.lt g hg).2), HV.out.2.trans (HB3.out.mono HV.out.2.size)⟩
                obtain ⟨j0, j1, j2, j3, j4, j5, j6, j7, jf⟩ := OV3.cells
                clear hrec hr A HV HB3 HR3 HX HRO HTX HRX
                refine wpAnyH_take (i := 10) (v := ?vac10) rfl (by kernel_rfl) (by kernel_rfl) (by kernel_rfl) (fun _ _ _ h => h) (Or.inl ⟨by rfl, ?hyc10⟩) trivial ?restc10
                case hyc10 => (intro w' hSw; clear hSw; go_simp; try with_reducible rfl)
                try simp only [List.getElem_toArray, List.getElem_cons_succ, List.getElem_cons_zero, Act.put, List.setIfInBounds_toArray, List.set_cons_zero, List.set_cons_succ]
                refine wpAnyH_take (i := 11) (v := ?vac11) rfl (by kernel_rfl) (by kernel_rfl) (by kernel_rfl) (fun _ _ _ h => h) (Or.inl ⟨by rfl, ?hyc11⟩) trivial ?restc11
                case hyc11 => (intro w' hSw; clear hSw; go_simp; try with_reducible rfl)
                try simp only [List.getElem_toArray, List.getElem_cons_succ, List.getElem_cons_zero, Act.put, List.setIfInBounds_toArray, List.set_cons_zero, List.set_cons_succ]
                refine wpAnyH_done (by kernel_rfl) ?_ _
                try simp only [List.getElem_toArray, List.getElem_cons_succ, List.getElem_cons_zero, Act.put, List.setIfInBounds_toArray, List.set_cons_zero, List.set_cons_succ]
                go_wp2_with (at_builtin; refine wpList_append_own _ rfl _ _ 36 rfl w.heap.size 31 i0 _ 8 80 Tryz.underlying36 hi0 hz0 hz1 hz2 rfl (by omega) _ _ _ rfl (HV3.out.1.alloc _) ⟨w3.heap.size, 0, none⟩ 1 1 (encX x) rfl ?qc1 ?qc2 ?qc3 ?qc4 ?qc5 ?qc6 ?_)
                case qc1 => rfl
                case qc2 => first | exact litJ w3 x | exact fun j u h => h
                case qc3 => exact oneJ x
                case qc4 => simp only [maxLen]; omega
                case qc5 => omega
                case qc6 => have := HV3.out.2.size; first | omega | (simp; omega)
                intro v' w4 hown hgrow hnil
                have HN : Aside (w4.ownsRow w.heap.size 31 8 v' (xs ++ [x]).length (cellsOf (xs ++ [x])) ∧ Below w.heap.size w w4) := by
                  refine ⟨?_, ?_⟩
                  · rw [cells_snoc, List.length_append]
                    exact hown
                  · exact (HV3.out.2.alloc HV3.out.2.size _).grown hgrow (by simp; have := HV3.out.2.size; omega) (fun k hk => (HV3.out.1.lt k hk).1)
                clear hown hgrow hnil j0 j1 j2 j3 j4 j5 j6 j7 jf OV OV3
                go_wp2
                go_roundg (s.size - N1)
                case measure => have := hN1.out; omega
                case rel => exact ⟨N1, xs ++ [x], _, rfl, rfl, by have := hN1.out; omega, Nat.le_refl _, HT.out.2, HN.out.1, HN.out.2, HT.out.1⟩
              · have hqn := beq_no hq
                have hqn2 := beqL_no hq
                have hqn3 : (RR != s.extract a N1) = true := by
                  show (!(RR == s.extract a N1)) = true
                  rw [hqn]
                  rfl
                have hqn4 := decide_eq_false hq
                have HT : Aside (T = (xs, a)) := by
                  show T = (xs, a)
                  have hr : readR (s.data.toList.drop a) = none := by
                    cases hq2 : readR (s.data.toList.drop a) with
                    | none => rfl
                    | some p =>
                      obtain ⟨y, m⟩ := p
                      exfalso
                      have hi := brk_is hq2
                      rw [HB.out] at hi
                      refine hq (bytes_ext ?_)
                      rw [HR3.out, HX.out, HTX.out, hi.2.2.1, hi.2.2.2.1]
                  have := A.out.2.2
                  rw [readA_none hr] at this
                  simpa using this
                have HV3 : Aside (w3.ownsRow w.heap.size 31 8 ov xs.length (cellsOf xs) ∧ Below w.heap.size w w3) := ⟨ownsJ HV.out.1 (fun g hg => HB3.out.block g (HV.out.1.lt g hg).2), HV.out.2.trans (HB3.out.mono HV.out.2.size)⟩
                clear A HV HB3 HR3 HX HRO HTX HRX hq
                refine wpAnyH_take (i := 10) (v := ?vad10) rfl (by kernel_rfl) (by kernel_rfl) (by kernel_rfl) (fun _ _ _ h => h) (Or.inl ⟨by rfl, ?hyd10⟩) trivial ?restd10
                case hyd10 => (intro w' hSw; clear hSw; go_simp; try with_reducible rfl)
                try simp only [List.getElem_toArray, List.getElem_cons_succ, List.getElem_cons_zero, Act.put, List.setIfInBounds_toArray, List.set_cons_zero, List.set_cons_succ]
                refine wpAnyH_take (i := 11) (v := ?vad11) rfl (by kernel_rfl) (by kernel_rfl) (by kernel_rfl) (fun _ _ _ h => h) (Or.inl ⟨by rfl, ?hyd11⟩) trivial ?restd11
                case hyd11 => (intro w' hSw; clear hSw; go_simp; try with_reducible rfl)
                try simp only [List.getElem_toArray, List.getElem_cons_succ, List.getElem_cons_zero, Act.put, List.setIfInBounds_toArray, List.set_cons_zero, List.set_cons_succ]
                refine wpAnyH_done (by kernel_rfl) ?_ _
                try simp only [List.getElem_toArray, List.getElem_cons_succ, List.getElem_cons_zero, Act.put, List.setIfInBounds_toArray, List.set_cons_zero, List.set_cons_succ]
                go_wp2
                go_ret2
                exact ⟨ov, by rw [HT.out]; rfl, by rw [HT.out]; exact HV3.out.1, HV3.out.2⟩
            · have dc0 : decide ((0 : Int) < (c : Int)) = true := by simp; omega
              have dc0n : decide (0 < c) = true := by simp; omega
              have hcp : 0 < c := by omega
              have hcpi : (0 : Int) < (c : Int) := by omega
              have HT : Aside (T = (xs, a)) := by
                show T = (xs, a)
                have hr : readR (s.data.toList.drop a) = none := by
                  cases hq : readR (s.data.toList.drop a) with
                  | none => rfl
                  | some p =>
                    obtain ⟨y, m⟩ := p
                    exfalso
                    have hi := brk_is hq
                    rw [HB.out] at hi
                    rcases H1b.out with ⟨q, _⟩ | ⟨_, q⟩
                    · exact hc0 q
                    · rw [HTX.out, hi.2.2.1, readO_text hi.2.2.2.2.1] at q
                      cases q
                have := A.out.2.2
                rw [readA_none hr] at this
                simpa using this
              have HV3 : Aside (V.drew.ownsRow w.heap.size 31 8 ov xs.length (cellsOf xs) ∧ Below w.heap.size w V.drew) := ⟨ownsJ HV.out.1 (fun g hg => rfl), HV.out.2.drew⟩
              clear A HB HTX HRX H1b H1 hc0 HV
              refine wp_region_H (S := (fun _ => True)) (by kernel_rfl) trivial (fun hHeld => ?_)
              refine wpAnyH_take (i := 0) (v := ?vaa0) rfl (by kernel_rfl) (by kernel_rfl) (by kernel_rfl) (fun _ _ _ h => h) (Or.inl ⟨by rfl, ?hya0⟩) trivial ?resta0
              case hya0 => (intro w' hSw; clear hSw; go_simp; try with_reducible rfl)
              try simp only [List.getElem_toArray, List.getElem_cons_succ, List.getElem_cons_zero, Act.put, List.setIfInBounds_toArray, List.set_cons_zero, List.set_cons_succ]
              refine wpAnyH_take (i := 1) (v := ?vaa1) rfl (by kernel_rfl) (by kernel_rfl) (by kernel_rfl) (fun _ _ _ h => h) (Or.inl ⟨by rfl, ?hya1⟩) trivial ?resta1
              case hya1 => (intro w' hSw; clear hSw; go_simp; try with_reducible rfl)
              try simp only [List.getElem_toArray, List.getElem_cons_succ, List.getElem_cons_zero, Act.put, List.setIfInBounds_toArray, List.set_cons_zero, List.set_cons_succ]
              refine wpAnyH_take (i := 2) (v := ?vaa2) rfl (by kernel_rfl) (by kernel_rfl) (by kernel_rfl) (fun _ _ _ h => h) (Or.inl ⟨by rfl, ?hya2⟩) trivial ?resta2
              case hya2 => (intro w' hSw; clear hSw; go_simp; try with_reducible rfl)
              try simp only [List.getElem_toArray, List.getElem_cons_succ, List.getElem_cons_zero, Act.put, List.setIfInBounds_toArray, List.set_cons_zero, List.set_cons_succ]
              refine wpAnyH_take (i := 3) (v := undef) rfl (by kernel_rfl) (by kernel_rfl) (by kernel_rfl) (fun _ _ _ h => h) (Or.inr ⟨by rfl, rfl⟩) trivial ?resta3
              try simp only [List.getElem_toArray, List.getElem_cons_succ, List.getElem_cons_zero, Act.put, List.setIfInBounds_toArray, List.set_cons_zero, List.set_cons_succ]
              refine wpAnyH_take (i := 4) (v := undef) rfl (by kernel_rfl) (by kernel_rfl) (by kernel_rfl) (fun _ _ _ h => h) (Or.inr ⟨by rfl, rfl⟩) trivial ?resta4
              try simp only [List.getElem_toArray, List.getElem_cons_succ, List.getElem_cons_zero, Act.put, List.setIfInBounds_toArray, List.set_cons_zero, List.set_cons_succ]
              refine wpAnyH_take (i := 5) (v := undef) rfl (by kernel_rfl) (by kernel_rfl) (by kernel_rfl) (fun _ _ _ h => h) (Or.inr ⟨by rfl, rfl⟩) trivial ?resta5
              try simp only [List.getElem_toArray, List.getElem_cons_succ, List.getElem_cons_zero, Act.put, List.setIfInBounds_toArray, List.set_cons_zero, List.set_cons_succ]
              refine wpAnyH_take (i := 6) (v := undef) rfl (by kernel_rfl) (by kernel_rfl) (by kernel_rfl) (fun _ _ _ h => h) (Or.inr ⟨by rfl, rfl⟩) trivial ?resta6
              try simp only [List.getElem_toArray, List.getElem_cons_succ, List.getElem_cons_zero, Act.put, List.setIfInBounds_toArray, List.set_cons_zero, List.set_cons_succ]
              refine wpAnyH_take (i := 7) (v := undef) rfl (by kernel_rfl) (by kernel_rfl) (by kernel_rfl) (fun _ _ _ h => h) (Or.inr ⟨by rfl, rfl⟩) trivial ?resta7
              try simp only [List.getElem_toArray, List.getElem_cons_succ, List.getElem_cons_zero, Act.put, List.setIfInBounds_toArray, List.set_cons_zero, List.set_cons_succ]
              refine wpAnyH_take (i := 8) (v := undef) rfl (by kernel_rfl) (by kernel_rfl) (by kernel_rfl) (fun _ _ _ h => h) (Or.inr ⟨by rfl, rfl⟩) trivial ?resta8
              try simp only [List.getElem_toArray, List.getElem_cons_succ, List.getElem_cons_zero, Act.put, List.setIfInBounds_toArray, List.set_cons_zero, List.set_cons_succ]
              refine wpAnyH_take (i := 9) (v := undef) rfl (by kernel_rfl) (by kernel_rfl) (by kernel_rfl) (fun _ _ _ h => h) (Or.inr ⟨by rfl, rfl⟩) trivial ?resta9
              try simp only [List.getElem_toArray, List.getElem_cons_succ, List.getElem_cons_zero, Act.put, List.setIfInBounds_toArray, List.set_cons_zero, List.set_cons_succ]
              refine wpAnyH_take (i := 10) (v := undef) rfl (by kernel_rfl) (by kernel_rfl) (by kernel_rfl) (fun _ _ _ h => h) (Or.inr ⟨by rfl, rfl⟩) trivial ?resta10
              try simp only [List.getElem_toArray, List.getElem_cons_succ, List.getElem_cons_zero, Act.put, List.setIfInBounds_toArray, List.set_cons_zero, List.set_cons_succ]
              refine wpAnyH_take (i := 11) (v := ?vaa11) rfl (by kernel_rfl) (by kernel_rfl) (by kernel_rfl) (fun _ _ _ h => h) (Or.inl ⟨by rfl, ?hya11⟩) trivial ?resta11
              case hya11 => (intro w' hSw; clear hSw; go_simp; try with_reducible rfl)
              try simp only [List.getElem_toArray, List.getElem_cons_succ, List.getElem_cons_zero, Act.put, List.setIfInBounds_toArray, List.set_cons_zero, List.set_cons_succ]
              refine wpAnyH_done (by kernel_rfl) ?_ _
              try simp only [List.getElem_toArray, List.getElem_cons_succ, List.getElem_cons_zero, Act.put, List.setIfInBounds_toArray, List.set_cons_zero, List.set_cons_succ]
              go_wp2
              go_ret2
              exact ⟨ov, by rw [HT.out]; rfl, by rw [HT.out]; exact HV3.out.1, HV3.out.2⟩
        · have dc : ((s[n].toNat : Int) != 10) = true := by
            have : ¬ s[n].toNat = 10 := fun e => hc (UInt8.toNat_inj.1 e)
            simp; omega
          have HG2 : Aside (Goes s.data.toList a (n + 1)) := HG.out.next han hlt hc
          clear hc HG
          go_wp2
          go_roundg (s.size - (n + 1))
          case measure => omega
          case rel => exact ⟨n + 1, by go_num, by omega, by omega, Nat.le_refl _, HG2.out, rfl⟩
      · have d1 : decide ((n : Int) < (s.size : Int)) = false := by simp; omega
        have d1n : decide (n < s.size) = false := by simp; omega
        have d1g : decide ((s.size : Int) ≤ (n : Int)) = true := by simp; omega
        have d1gn : decide (s.size ≤ n) = true := by simp; omega
        have HT : Aside (T = (xs, a)) := by
          show T = (xs, a)
          have hb := HG.out.all han (by omega)
          have hr : readR (s.data.toList.drop a) = none := by
            cases hq : readR (s.data.toList.drop a) with
            | none => rfl
            | some p =>
              obtain ⟨y, m⟩ := p
              have := (brk_is hq).2.1
              omega
          have := A.out.2.2
          rw [readA_none hr] at this
          simpa using this
        have HV : Aside (u.ownsRow w.heap.size 31 8 ov xs.length (cellsOf xs) ∧ Below w.heap.size w u) := ⟨A.out.1, A.out.2.1⟩
        clear A HG
        go_wp2
        go_ret2
        exact ⟨ov, by rw [HT.out]; rfl, by rw [HT.out]; exact HV.out.1, HV.out.2⟩
end Go.Proofs.YtcggmagdndhkbaaGreatDoor
end
