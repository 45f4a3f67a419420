import Derived.Test.YtcggmagdndhkbaaGreatDoorAx06
import Derived.Test.YtcggmagdndhkbaaGreatDoorAx11
import Derived.Test.YtcggmagdndhkbaaGreatDoorAx15
import Derived.LoopN
section
namespace Go.Proofs.YtcggmagdndhkbaaGreatDoor
open Go.RowKit
theorem infoInt : (Tryz.prog.info? 3).map (fun i => (i.zero, i.size, i.bytes)) = some (some (.int .i64 0), 1, 8) := by kernel_rfl
theorem PrtR.below {kn g n1 n2 n3 n4 n5 : Nat} {c : UInt8} {p6 : ByteArray} {w w' : World} (h : PrtR kn g n1 n2 n3 n4 n5 c p6 w) (hb : Below w.heap.size w w') : PrtR kn g n1 n2 n3 n4 n5 c p6 w' :=
  ⟨cellLater hb h.1, cellLater hb h.2.1, cellLater hb h.2.2.1, cellLater hb h.2.2.2.1, cellLater hb h.2.2.2.2.1, cellLater hb h.2.2.2.2.2.1, cellLater hb h.2.2.2.2.2.2⟩
theorem PrtR.new {kn g n1 n2 n3 n4 n5 : Nat} {c : UInt8} {p6 : ByteArray} {w : World} (h : PrtR kn g n1 n2 n3 n4 n5 c p6 w) (o : Obj) : PrtR kn g n1 n2 n3 n4 n5 c p6 (w.alloc o) := h.below ((Below.refl _ _).alloc (Nat.le_refl _) _)
theorem own_int {base n : Nat} {w wr w5 : World} {v v' : Value} {l : List Value} {ob : Obj} {u : Value} (h0 : base = w.heap.size) (hown0 : wr.ownsRow base 3 1 v n l) (hb0 : Below base w wr) (hown : w5.ownsRow base 3 1 v' (n + 1) (l ++ [u])) (hg : (wr.alloc ob).grownBy w5 v.ownBlock) : Below base w w5 := by
  subst h0
  exact (hb0.alloc hb0.size _).grown hg (by have := hb0.size; simp; omega) (fun k hk => (hown0.lt k hk).1)
set_option maxRecDepth 100000 in
set_option maxHeartbeats 16000000 in
theorem of_eight (s : ByteArray) (w : World) (hs : s.size ≤ 70000) (c : UInt8) (l1 l2 l3 l4 l5 l6 l7 : List UInt8) (h8 : cutP 124 s.data.toList = [[c], l1, l2, l3, l4, l5, l6, l7]) (h2 : l7.length % 2 = 0) :
    Calls Tryz.prog 102 #[.string s] w fun e w' => e = .returned (.tuple #[partsO (okR (partsL s.data.toList)), .int .i64 ((codeR (partsL s.data.toList) : Nat) : Int)]) ∧ Below w.heap.size w w' := by
  have R0 := ResO.new w 31
  obtain ⟨ii, hi, hz0, hz1, hz2⟩ := info_parts infoInt
  have H8 := Lib.hid h8
  have HR := Lib.hid (partsL_eight h8)
  clear h8
  generalize partsL s.data.toList = R at HR ⊢
  go_enter Tryz.func102, Tryz.ntmps102
  go_wp2_with fail
  refine (cutBar_lies s _ hs).mono ?_
  rintro e w1 ⟨P, cap, g, rfl, hg, hcap, hc, hP, hb⟩
  have R1 := R0.later hb
  rw [H8.out] at hP
  obtain ⟨p0, p1, p2, p3, p4, p5, p6, p7, rfl, e0, e1, e2, e3, e4, e5, e6, e7⟩ : ∃ p0 p1 p2 p3 p4 p5 p6 p7, P = [p0, p1, p2, p3, p4, p5, p6, p7] ∧ p0.data.toList = [c] ∧ p1.data.toList = l1 ∧ p2.data.toList = l2 ∧ p3.data.toList = l3 ∧ p4.data.toList = l4 ∧ p5.data.toList = l5 ∧ p6.data.toList = l6 ∧ p7.data.toList = l7 := by
    have hlen : P.length = 8 := by have := congrArg List.length hP; simpa using this
    match P, hlen, hP with
    | [a0, a1, a2, a3, a4, a5, a6, a7], _, hP => simp at hP; exact ⟨a0, a1, a2, a3, a4, a5, a6, a7, rfl, hP⟩
  have hcap8 : 8 ≤ cap := by simpa using hcap
  have hl0 : p0.size = 1 := by rw [← listLen, e0]; rfl
  have hp0 : p0 = ⟨#[c]⟩ := by
    have : p0.data = #[c] := by rw [← Array.toArray_toList (xs := p0.data), e0]
    cases p0; simp_all
  subst hp0
  have d1 : (((⟨#[c]⟩ : ByteArray).size : Int) != 1) = false := rfl
  have hl7 : p7.size ≤ 70000 := by
    have := cutP_piece 124 s.data.toList l7 (by rw [H8.out]; simp)
    rw [← listLen, e7]
    have := listLen s
    omega
  have hl6 : l6.length ≤ 70000 := by
    have := cutP_piece 124 s.data.toList l6 (by rw [H8.out]; simp)
    have := listLen s
    omega
  have hl7e : p7.size = l7.length := by rw [← e7]; simp
  have d2 : ((p7.size : Int) % 2 != 0) = false := by simp; omega
  have hev : p7.size % 2 = 0 := by omega
  have K0 := hc 0 _ rfl
  have K1 := hc 1 _ rfl
  have K2 := hc 2 _ rfl
  have K3 := hc 3 _ rfl
  have K4 := hc 4 _ rfl
  have K5 := hc 5 _ rfl
  have K6 := hc 6 _ rfl
  have K7 := hc 7 _ rfl
  have ne3 : w.heap.size ≠ g := by simp at hg; omega
  have hgl : g < w1.heap.size := World.block_lt_of_cell? w1 ⟨g, 0, none⟩ K0
  have hrl := R1.lt
  subst e1 e2 e3 e4 e5 e6 e7
  clear hb R0 hc hP hcap hg e0 H8 hl0 h2 hl7e
  go_wp2
  refine wp_loop_rounds 6 ?_
  have W0 : w1.ownsRow w1.heap.size 3 1 (.slice none 0 0) 0 [] := World.ownsRow_nil _ _ _ _
  have Z0 : Below w1.heap.size w1 w1 := Below.refl _ _
  have q1 := cellLater Z0 K1
  rw [rounds_succ]; go_wp2_with fail
  cases hN1 : numN 10 p1.data.toList with
  | none =>
    have HE : Hid (R = none) := Lib.hid (by rw [HR.out, numsP]; simp only [hN1])
    refine (numI_none p1 _ hN1).mono ?_
    rintro e w' ⟨rfl, hw⟩
    replace hw := hw.symm
    subst hw
    have R2 := R1.later Z0
    clear hN1
    obtain ⟨⟨c0, c1, c2, c3, c4, c5, c6, c7⟩, f0, f1, f2, f3, f4, f5, f6, f7, B1⟩ := R2
    go_wp2
    refine bodyPost_ret (v := .tuple #[.agg #[.int .i64 0, .int .i64 0, .int .i64 0, .int .u8 0, .int .i64 0, .int .i64 0, .string ⟨#[]⟩, .string ⟨#[]⟩], .int .i64 1]) (by simp [results, Tryz.results102, go_sem, c0, c1, c2, c3, c4, c5, c6, c7]) rfl ⟨by rw [HE.out]; rfl, ?_⟩
    exact (((((((B1.setCell (by simp) _).setCell (by simp) _).setCell (by simp) _).setCell (by simp) _).setCell (by simp) _).setCell (by simp) _).setCell (by simp) _).setCell (by simp) _
  | some n1 =>
    have b1 := numN_bound _ _ _ hN1
    refine (numI_some p1 n1 _ hN1).mono ?_
    rintro e w' ⟨rfl, hw⟩
    replace hw := hw.symm
    subst hw
    have dn : decide ((n1 : Int) < 0) = false := by simp
    go_wp2_with (at_builtin; refine wpList_append_own _ rfl _ _ 42 rfl w1.heap.size 3 ii (.int .i64 0) 1 8 Tryz.underlying42 hi hz0 hz1 hz2 rfl (by decide) _ _ _ rfl (W0.alloc _) _ 1 1 [.int .i64 (n1 : Int)] rfl rfl (cell_one_new _ _ _) (by intro u hu; simp at hu; subst hu; rfl) (by unfold maxLen; omega) (by omega) (by have := Z0.size; simp <;> omega) ?_; intro v1 u1 W1 G1 _)
    have Z1 : Below w1.heap.size w1 u1 := own_int rfl W0 Z0 W1 G1
    clear G1 q1 dn W0 Z0
    have q2 := cellLater Z1 K2
    rw [rounds_succ]; go_wp2_with fail
    cases hN2 : numN 10 p2.data.toList with
    | none =>
      have HE : Hid (R = none) := Lib.hid (by rw [HR.out, numsP]; simp only [hN1, hN2])
      refine (numI_none p2 _ hN2).mono ?_
      rintro e w' ⟨rfl, hw⟩
      replace hw := hw.symm
      subst hw
      have R2 := R1.later Z1
      clear hN1 hN2
      obtain ⟨⟨c0, c1, c2, c3, c4, c5, c6, c7⟩, f0, f1, f2, f3, f4, f5, f6, f7, B1⟩ := R2
      go_wp2
      refine bodyPost_ret (v := .tuple #[.agg #[.int .i64 0, .int .i64 0, .int .i64 0, .int .u8 0, .int .i64 0, .int .i64 0, .string ⟨#[]⟩, .string ⟨#[]⟩], .int .i64 1]) (by simp [results, Tryz.results102, go_sem, c0, c1, c2, c3, c4, c5, c6, c7]) rfl ⟨by rw [HE.out]; rfl, ?_⟩
      exact (((((((B1.setCell (by simp) _).setCell (by simp) _).setCell (by simp) _).setCell (by simp) _).setCell (by simp) _).setCell (by simp) _).setCell (by simp) _).setCell (by simp) _
    | some n2 =>
      have b2 := numN_bound _ _ _ hN2
      refine (numI_some p2 n2 _ hN2).mono ?_
      rintro e w' ⟨rfl, hw⟩
      replace hw := hw.symm
      subst hw
      have dn : decide ((n2 : Int) < 0) = false := by simp
      go_wp2_with (at_builtin; refine wpList_append_own _ rfl _ _ 42 rfl w1.heap.size 3 ii (.int .i64 0) 1 8 Tryz.underlying42 hi hz0 hz1 hz2 rfl (by decide) _ _ _ rfl (W1.alloc _) _ 1 1 [.int .i64 (n2 : Int)] rfl rfl (cell_one_new _ _ _) (by intro u hu; simp at hu; subst hu; rfl) (by unfold maxLen; omega) (by omega) (by have := Z1.size; simp <;> omega) ?_; intro v2 u2 W2 G2 _)
      have Z2 : Below w1.heap.size w1 u2 := own_int rfl W1 Z1 W2 G2
      clear G2 q2 dn W1 Z1
      have q3 := cellLater Z2 K3
      rw [rounds_succ]; go_wp2_with fail
      cases hN3 : numN 10 p3.data.toList with
      | none =>
        have HE : Hid (R = none) := Lib.hid (by rw [HR.out, numsP]; simp only [hN1, hN2, hN3])
        refine (numI_none p3 _ hN3).mono ?_
        rintro e w' ⟨rfl, hw⟩
        replace hw := hw.symm
        subst hw
        have R2 := R1.later Z2
        clear hN1 hN2 hN3
        obtain ⟨⟨c0, c1, c2, c3, c4, c5, c6, c7⟩, f0, f1, f2, f3, f4, f5, f6, f7, B1⟩ := R2
        go_wp2
        refine bodyPost_ret (v := .tuple #[.agg #[.int .i64 0, .int .i64 0, .int .i64 0, .int .u8 0, .int .i64 0, .int .i64 0, .string ⟨#[]⟩, .string ⟨#[]⟩], .int .i64 1]) (by simp [results, Tryz.results102, go_sem, c0, c1, c2, c3, c4, c5, c6, c7]) rfl ⟨by rw [HE.out]; rfl, ?_⟩
        exact (((((((B1.setCell (by simp) _).setCell (by simp) _).setCell (by simp) _).setCell (by simp) _).setCell (by simp) _).setCell (by simp) _).setCell (by simp) _).setCell (by simp) _
      | some n3 =>
        have b3 := numN_bound _ _ _ hN3
        refine (numI_some p3 n3 _ hN3).mono ?_
        rintro e w' ⟨rfl, hw⟩
        replace hw := hw.symm
        subst hw
        have dn : decide ((n3 : Int) < 0) = false := by simp
        go_wp2_with (at_builtin; refine wpList_append_own _ rfl _ _ 42 rfl w1.heap.size 3 ii (.int .i64 0) 1 8 Tryz.underlying42 hi hz0 hz1 hz2 rfl (by decide) _ _ _ rfl (W2.alloc _) _ 1 1 [.int .i64 (n3 : Int)] rfl rfl (cell_one_new _ _ _) (by intro u hu; simp at hu; subst hu; rfl) (by unfold maxLen; omega) (by omega) (by have := Z2.size; simp <;> omega) ?_; intro v3 u3 W3 G3 _)
        have Z3 : Below w1.heap.size w1 u3 := own_int rfl W2 Z2 W3 G3
        clear G3 q3 dn W2 Z2
        have q4 := cellLater Z3 K4
        rw [rounds_succ]; go_wp2_with fail
        cases hN4 : numN 10 p4.data.toList with
        | none =>
          have HE : Hid (R = none) := Lib.hid (by rw [HR.out, numsP]; simp only [hN1, hN2, hN3, hN4])
          refine (numI_none p4 _ hN4).mono ?_
          rintro e w' ⟨rfl, hw⟩
          replace hw := hw.symm
          subst hw
          have R2 := R1.later Z3
          clear hN1 hN2 hN3 hN4
          obtain ⟨⟨c0, c1, c2, c3, c4, c5, c6, c7⟩, f0, f1, f2, f3, f4, f5, f6, f7, B1⟩ := R2
          go_wp2
          refine bodyPost_ret (v := .tuple #[.agg #[.int .i64 0, .int .i64 0, .int .i64 0, .int .u8 0, .int .i64 0, .int .i64 0, .string ⟨#[]⟩, .string ⟨#[]⟩], .int .i64 1]) (by simp [results, Tryz.results102, go_sem, c0, c1, c2, c3, c4, c5, c6, c7]) rfl ⟨by rw [HE.out]; rfl, ?_⟩
          exact (((((((B1.setCell (by simp) _).setCell (by simp) _).setCell (by simp) _).setCell (by simp) _).setCell (by simp) _).setCell (by simp) _).setCell (by simp) _).setCell (by simp) _
        | some n4 =>
          have b4 := numN_bound _ _ _ hN4
          refine (numI_some p4 n4 _ hN4).mono ?_
          rintro e w' ⟨rfl, hw⟩
          replace hw := hw.symm
          subst hw
          have dn : decide ((n4 : Int) < 0) = false := by simp
          go_wp2_with (at_builtin; refine wpList_append_own _ rfl _ _ 42 rfl w1.heap.size 3 ii (.int .i64 0) 1 8 Tryz.underlying42 hi hz0 hz1 hz2 rfl (by decide) _ _ _ rfl (W3.alloc _) _ 1 1 [.int .i64 (n4 : Int)] rfl rfl (cell_one_new _ _ _) (by intro u hu; simp at hu; subst hu; rfl) (by unfold maxLen; omega) (by omega) (by have := Z3.size; simp <;> omega) ?_; intro v4 u4 W4 G4 _)
          have Z4 : Below w1.heap.size w1 u4 := own_int rfl W3 Z3 W4 G4
          clear G4 q4 dn W3 Z3
          have q5 := cellLater Z4 K5
          rw [rounds_succ]; go_wp2_with fail
          cases hN5 : numN 10 p5.data.toList with
          | none =>
            have HE : Hid (R = none) := Lib.hid (by rw [HR.out, numsP]; simp only [hN1, hN2, hN3, hN4, hN5])
            refine (numI_none p5 _ hN5).mono ?_
            rintro e w' ⟨rfl, hw⟩
            replace hw := hw.symm
            subst hw
            have R2 := R1.later Z4
            clear hN1 hN2 hN3 hN4 hN5
            obtain ⟨⟨c0, c1, c2, c3, c4, c5, c6, c7⟩, f0, f1, f2, f3, f4, f5, f6, f7, B1⟩ := R2
            go_wp2
            refine bodyPost_ret (v := .tuple #[.agg #[.int .i64 0, .int .i64 0, .int .i64 0, .int .u8 0, .int .i64 0, .int .i64 0, .string ⟨#[]⟩, .string ⟨#[]⟩], .int .i64 1]) (by simp [results, Tryz.results102, go_sem, c0, c1, c2, c3, c4, c5, c6, c7]) rfl ⟨by rw [HE.out]; rfl, ?_⟩
            exact (((((((B1.setCell (by simp) _).setCell (by simp) _).setCell (by simp) _).setCell (by simp) _).setCell (by simp) _).setCell (by simp) _).setCell (by simp) _).setCell (by simp) _
          | some n5 =>
            have b5 := numN_bound _ _ _ hN5
            refine (numI_some p5 n5 _ hN5).mono ?_
            rintro e w' ⟨rfl, hw⟩
            replace hw := hw.symm
            subst hw
            have dn : decide ((n5 : Int) < 0) = false := by simp
            go_wp2_with (at_builtin; refine wpList_append_own _ rfl _ _ 42 rfl w1.heap.size 3 ii (.int .i64 0) 1 8 Tryz.underlying42 hi hz0 hz1 hz2 rfl (by decide) _ _ _ rfl (W4.alloc _) _ 1 1 [.int .i64 (n5 : Int)] rfl rfl (cell_one_new _ _ _) (by intro u hu; simp at hu; subst hu; rfl) (by unfold maxLen; omega) (by omega) (by have := Z4.size; simp <;> omega) ?_; intro v5 u5 W5 G5 _)
            have Z5 : Below w1.heap.size w1 u5 := own_int rfl W4 Z4 W5 G5
            clear G5 q5 dn W4 Z4
            obtain ⟨kn, capn, hv5, hkn, -⟩ := W5.form (by omega)
            have hv6 : v5 = .slice (some ⟨kn, 0, none⟩) 5 capn := hv5
            clear hv5
            subst hv6
            have hcn := W5.cells (g := kn) rfl
            have m0 : u5.cell? ⟨kn, 0, none⟩ = some (.int .i64 (n1 : Int)) := by simpa [Addr.add] using hcn 0 _ rfl
            have m1 : u5.cell? ⟨kn, 1, none⟩ = some (.int .i64 (n2 : Int)) := by simpa [Addr.add] using hcn 1 _ rfl
            have m2 : u5.cell? ⟨kn, 2, none⟩ = some (.int .i64 (n3 : Int)) := by simpa [Addr.add] using hcn 2 _ rfl
            have m3 : u5.cell? ⟨kn, 3, none⟩ = some (.int .i64 (n4 : Int)) := by simpa [Addr.add] using hcn 3 _ rfl
            have m4 : u5.cell? ⟨kn, 4, none⟩ = some (.int .i64 (n5 : Int)) := by simpa [Addr.add] using hcn 4 _ rfl
            have hcapn : 5 ≤ capn := by
              obtain ⟨-, h | ⟨g', cap', cur, hv, -, -, hn, -⟩⟩ := W5
              · cases h.1
              · cases hv; simpa using hn
            have X0 : PrtR kn g n1 n2 n3 n4 n5 c p6 u5 := ⟨m0, m1, m2, m3, m4, cellLater Z5 K0, cellLater Z5 K6⟩
            have Y0 := cellLater Z5 K7
            have R5 := R1.later Z5
            have ne2 : w.heap.size ≠ kn := by omega
            clear W5 hcn m0 m1 m2 m3 m4 K0 K1 K2 K3 K4 K5 K6 K7 R1 Z5 hkn hgl hrl
            rw [rounds_succ]; go_wp2
            go_loopw [8, 9] (fun vv i wr => ∃ (j : Nat) (done : List UInt8), 2 * j ≤ p7.size ∧ done.length = j ∧ i = .int .i64 ((2 * j : Nat) : Int) ∧ vv = .string ⟨done.toArray⟩ ∧ Below u5.heap.size u5 wr ∧ Hid ((unhexL (p7.data.toList.drop (2 * j))).map (done ++ ·) = unhexL p7.data.toList)) (fun _ i _ => p7.size - (intOf i).toNat)
            case atStart => exact ⟨0, [], Nat.zero_le _, rfl, rfl, rfl, Below.refl _ _, Lib.hid (by simp)⟩
            case round =>
              obtain ⟨j, done, hj, hdl, rfl, rfl, hB, HD⟩ := hrel
              have y7 := cellLater hB Y0
              by_cases hlt : 2 * j < p7.size
              · have hlt1 : 2 * j + 1 < p7.size := by omega
                have hdt : decide (((2 * j : Nat) : Int) < (p7.size : Int)) = true := by simp; omega
                generalize hjj : 2 * j = jj at *
                have ea : IntKind.i64.wrap ((jj : Int) + 1) = (jj : Int) + 1 := by rw [IntKind.wrap_i64]; omega
                have eb : (0 : Int) ≤ (jj : Int) + 1 := by omega
                have ec : (jj : Int) + 1 < (p7.size : Int) := by omega
                have ed : ((jj : Int) + 1).toNat = jj + 1 := by omega
                have HU : Hid ((unhexL (p7[jj] :: p7[jj + 1] :: p7.data.toList.drop (jj + 2))).map (done ++ ·) = unhexL p7.data.toList) := Lib.hid (by rw [← drop_two p7 jj hlt1]; exact HD.out)
                clear HD
                have R6 := R5.later hB
                cases hx : hexV p7[jj] with
                | none =>
                  have HX : Hid (unhexL p7.data.toList = none) := Lib.hid (by have := HU.out; simp only [unhexL, hx, Option.map_none] at this; exact this.symm)
                  have HE : Hid (R = none) := Lib.hid (by rw [HR.out]; exact numsP_odd _ _ _ _ _ _ _ _ HX.out)
                  have z1 : hexI p7[jj] = -1 := by unfold hexI; rw [hx]
                  obtain ⟨y, hy⟩ : ∃ y, hexI p7[jj + 1] = y := ⟨_, rfl⟩
                  have HZ := Lib.hid (And.intro z1 hy)
                  clear hx z1 hy hN1 hN2 hN3 hN4 hN5
                  obtain ⟨⟨c0, c1, c2, c3, c4, c5, c6, c7⟩, f0, f1, f2, f3, f4, f5, f6, f7, B1⟩ := R6
                  go_wp2_with fail
                  refine (digit_is _ _ _ HZ.out.1).mono ?_
                  rintro e w' ⟨rfl, hw⟩
                  replace hw := hw.symm
                  subst hw
                  go_wp2_with fail
                  refine (digit_is _ _ _ HZ.out.2).mono ?_
                  rintro e w' ⟨rfl, hw⟩
                  replace hw := hw.symm
                  subst hw
                  go_wp2
                  refine bodyPost_ret (v := .tuple #[.agg #[.int .i64 0, .int .i64 0, .int .i64 0, .int .u8 0, .int .i64 0, .int .i64 0, .string ⟨#[]⟩, .string ⟨#[]⟩], .int .i64 1]) (by simp [results, Tryz.results102, go_sem, c0, c1, c2, c3, c4, c5, c6, c7]) rfl ⟨by rw [HE.out]; rfl, ?_⟩
                  exact (((((((B1.setCell (by simp) _).setCell (by simp) _).setCell (by simp) _).setCell (by simp) _).setCell (by simp) _).setCell (by simp) _).setCell (by simp) _).setCell (by simp) _
                | some x =>
                  have hx16 := hexV_lt _ _ hx
                  have z1 : hexI p7[jj] = (x : Int) := by unfold hexI; rw [hx]
                  cases hy : hexV p7[jj + 1] with
                  | none =>
                    have HX : Hid (unhexL p7.data.toList = none) := Lib.hid (by have := HU.out; simp only [unhexL, hx, hy, Option.map_none] at this; exact this.symm)
                    have HE : Hid (R = none) := Lib.hid (by rw [HR.out]; exact numsP_odd _ _ _ _ _ _ _ _ HX.out)
                    have z2 : hexI p7[jj + 1] = -1 := by unfold hexI; rw [hy]
                    have HZ := Lib.hid (And.intro z1 z2)
                    clear hx hy z1 z2 hN1 hN2 hN3 hN4 hN5
                    obtain ⟨⟨c0, c1, c2, c3, c4, c5, c6, c7⟩, f0, f1, f2, f3, f4, f5, f6, f7, B1⟩ := R6
                    go_wp2_with fail
                    refine (digit_is _ _ _ HZ.out.1).mono ?_
                    rintro e w' ⟨rfl, hw⟩
                    replace hw := hw.symm
                    subst hw
                    go_wp2_with fail
                    refine (digit_is _ _ _ HZ.out.2).mono ?_
                    rintro e w' ⟨rfl, hw⟩
                    replace hw := hw.symm
                    subst hw
                    go_wp2
                    refine bodyPost_ret (v := .tuple #[.agg #[.int .i64 0, .int .i64 0, .int .i64 0, .int .u8 0, .int .i64 0, .int .i64 0, .string ⟨#[]⟩, .string ⟨#[]⟩], .int .i64 1]) (by simp [results, Tryz.results102, go_sem, c0, c1, c2, c3, c4, c5, c6, c7]) rfl ⟨by rw [HE.out]; rfl, ?_⟩
                    exact (((((((B1.setCell (by simp) _).setCell (by simp) _).setCell (by simp) _).setCell (by simp) _).setCell (by simp) _).setCell (by simp) _).setCell (by simp) _).setCell (by simp) _
                  | some y =>
                    have hy16 := hexV_lt _ _ hy
                    have z2 : hexI p7[jj + 1] = (y : Int) := by unfold hexI; rw [hy]
                    have HE : Hid ((unhexL (p7.data.toList.drop (jj + 2))).map ((done ++ [digB (16 * x + y)]) ++ ·) = unhexL p7.data.toList) := Lib.hid (by
                      have := HU.out
                      simp only [unhexL, hx, hy, Option.map_map] at this
                      rw [← this]
                      congr 1
                      funext l
                      simp [digB])
                    have HZ := Lib.hid (And.intro z1 z2)
                    have ha := fun w => add_texts done [digB (16 * x + y)] (by simp; omega) w
                    have hcv : (16 : Int) * (x : Int) + (y : Int) = ((16 * x + y : Nat) : Int) := by omega
                    have HCV := Lib.hid hcv
                    clear hx hy z1 z2 HU hcv
                    go_wp2_with fail
                    refine (digit_is _ _ _ HZ.out.1).mono ?_
                    rintro e w' ⟨rfl, hw⟩
                    replace hw := hw.symm
                    subst hw
                    go_wp2_with fail
                    refine (digit_is _ _ _ HZ.out.2).mono ?_
                    rintro e w' ⟨rfl, hw⟩
                    replace hw := hw.symm
                    subst hw
                    go_wp2_with fail
                    rw [HCV.out]
                    refine (byte_any (16 * x + y) wr (by omega)).mono ?_
                    rintro e w7 ⟨rfl, hb⟩
                    go_wp2
                    refine ⟨⟨j + 1, done ++ [digB (16 * x + y)], by omega, by simp; omega, by simp; omega, rfl, hB.trans (hb.mono hB.size), Lib.hid (by rw [show 2 * (j + 1) = jj + 2 by omega]; exact HE.out)⟩, ?_⟩
                    simp [intOf]
                    omega
              · have hdt : decide (((2 * j : Nat) : Int) < (p7.size : Int)) = false := by simp; omega
                have HX : Hid (unhexL p7.data.toList = some done) := Lib.hid (by have := HD.out; rw [show 2 * j = p7.size by omega, dropEnd] at this; simpa [unhexL] using this.symm)
                have HE : Hid (R = some (c, n1, n2, n3, n4, n5, p6.data.toList, done)) := Lib.hid (by rw [HR.out, numsP]; simp only [hN1, hN2, hN3, hN4, hN5, HX.out])
                have R6 := R5.later hB
                have X1 := X0.below hB
                have hdone : done.length ≤ 70000 := by omega
                clear HD X0 Y0 R5 HX hN1 hN2 hN3 hN4 hN5 hdl
                have hidx : ∀ w, (Instr.index 9 (.string ⟨#[c]⟩) (.int .i64 0)).run Tryz.prog w = .ok (.int .u8 (c.toNat : Int)) w := fun _ => by kernel_rfl
                clear d1 d2
                obtain ⟨g0, g1, g2, g3, g4, i0, i6⟩ := id X1
                go_wp2_with fail
                go_region_held3 (fun w' => w'.cell? ⟨kn, 0, none⟩ = some (.int .i64 (n1 : Int)) ∧ w'.cell? ⟨kn, 1, none⟩ = some (.int .i64 (n2 : Int)) ∧ w'.cell? ⟨kn, 2, none⟩ = some (.int .i64 (n3 : Int)) ∧ w'.cell? ⟨kn, 3, none⟩ = some (.int .i64 (n4 : Int)) ∧ w'.cell? ⟨kn, 4, none⟩ = some (.int .i64 (n5 : Int)) ∧ w'.cell? ⟨g, 0, none⟩ = some (.string ⟨#[c]⟩) ∧ w'.cell? ⟨g, 6, none⟩ = some (.string p6))
                  (first
                    | with_reducible assumption
                    | with_reducible exact PrtR.drew X1
                    | with_reducible exact PrtR.drew (PrtR.new X1 _)
                    | with_reducible exact PrtR.new (PrtR.drew X1) _)
                  (fail)
                all_goals
                  have hb7 : Below wr.heap.size wr (wr.alloc (.cells #[.int .i64 (n1 : Int), .int .i64 (n2 : Int), .int .i64 (n3 : Int), .int .u8 (c.toNat : Int), .int .i64 (n4 : Int), .int .i64 (n5 : Int), .string p6, .string ⟨done.toArray⟩] 31)).drew := ((Below.refl _ _).alloc (Nat.le_refl _) _).drew
                  have R7 := R6.later hb7
                  have O7 : OpAt (wr.alloc (.cells #[.int .i64 (n1 : Int), .int .i64 (n2 : Int), .int .i64 (n3 : Int), .int .u8 (c.toNat : Int), .int .i64 (n4 : Int), .int .i64 (n5 : Int), .string p6, .string ⟨done.toArray⟩] 31)).drew wr.heap.size n1 n2 n3 c.toNat n4 n5 p6 ⟨done.toArray⟩ := (OpAt.new wr n1 n2 n3 c.toNat n4 n5 p6 ⟨done.toArray⟩ 31).later (Below.refl _ _).drew
                  have ne8 : ¬ wr.heap.size = w.heap.size := by have := R6.lt; omega
                  have ne9 : ¬ w.heap.size = wr.heap.size := by omega
                  have hop := rop_any n1 n2 n3 c.toNat n4 n5 p6 ⟨done.toArray⟩ (wr.alloc (.cells #[.int .i64 (n1 : Int), .int .i64 (n2 : Int), .int .i64 (n3 : Int), .int .u8 (c.toNat : Int), .int .i64 (n4 : Int), .int .i64 (n5 : Int), .string p6, .string ⟨done.toArray⟩] 31)).drew (by rw [← listLen]; omega) (by rw [sizeOfList]; omega)
                  have hd2 : (⟨done.toArray⟩ : ByteArray).data.toList = done := rfl
                  rw [hd2] at hop
                  clear hd2 hb7 R6 X1 g0 g1 g2 g3 g4 i0 i6 hB hdt y7
                  generalize (wr.alloc (.cells #[.int .i64 (n1 : Int), .int .i64 (n2 : Int), .int .i64 (n3 : Int), .int .u8 (c.toNat : Int), .int .i64 (n4 : Int), .int .i64 (n5 : Int), .string p6, .string ⟨done.toArray⟩] 31)).drew = w8 at R7 O7 hop ⊢
                  generalize wr.heap.size = kr at O7 ne8 ne9 ⊢
                  have HC : Hid (codeR R = opE n1 n2 n3 c.toNat n4 n5 p6.data.toList done) := Lib.hid (by rw [HE.out]; rfl)
                  generalize opE n1 n2 n3 c.toNat n4 n5 p6.data.toList done = E at hop HC
                  have HOP := Lib.hid hop
                  clear hop
                  obtain ⟨x0, x1, x2, x3, x4, x5, x6, x7⟩ := id O7
                  go_wp2_with fail
                  refine HOP.out.mono ?_
                  rintro e w9 ⟨rfl, hb⟩
                  have R9 := R7.later hb
                  have O9 := O7.later hb
                  clear hb R7 O7 HOP x0 x1 x2 x3 x4 x5 x6 x7
                  obtain ⟨⟨c0, c1, c2, c3, c4, c5, c6, c7⟩, f0, f1, f2, f3, f4, f5, f6, f7, B1⟩ := R9
                  obtain ⟨x0, x1, x2, x3, x4, x5, x6, x7⟩ := O9
                  by_cases hE0 : E = 0
                  · have HO : Hid (okR R = some (c, n1, n2, n3, n4, n5, p6.data.toList, done)) := Lib.hid (by unfold okR; rw [HC.out, if_pos hE0, HE.out])
                    have HC0 : Hid (codeR R = 0) := Lib.hid (by rw [HC.out, hE0])
                    subst hE0
                    go_wp2
                    refine bodyPost_ret (v := .tuple #[.agg #[.int .i64 (n1 : Int), .int .i64 (n2 : Int), .int .i64 (n3 : Int), .int .u8 (c.toNat : Int), .int .i64 (n4 : Int), .int .i64 (n5 : Int), .string p6, .string ⟨done.toArray⟩], .int .i64 0]) (by simp [results, Tryz.results102, go_sem, c0, c1, c2, c3, c4, c5, c6, c7]) rfl ⟨by rw [HO.out, HC0.out]; rfl, ?_⟩
                    exact (((((((B1.setCell (by simp) _).setCell (by simp) _).setCell (by simp) _).setCell (by simp) _).setCell (by simp) _).setCell (by simp) _).setCell (by simp) _).setCell (by simp) _
                  · have dz : decide (0 < E) = true := by simp; omega
                    have dp : 0 < E := by omega
                    have HO : Hid (okR R = none) := Lib.hid (by unfold okR; rw [HC.out, if_neg hE0])
                    clear hE0
                    go_wp2
                    refine bodyPost_ret (v := .tuple #[.agg #[.int .i64 0, .int .i64 0, .int .i64 0, .int .u8 0, .int .i64 0, .int .i64 0, .string ⟨#[]⟩, .string ⟨#[]⟩], .int .i64 (E : Int)]) (by simp [results, Tryz.results102, go_sem, c0, c1, c2, c3, c4, c5, c6, c7]) rfl ⟨by rw [HO.out, HC.out]; rfl, ?_⟩
                    exact (((((((B1.setCell (by simp) _).setCell (by simp) _).setCell (by simp) _).setCell (by simp) _).setCell (by simp) _).setCell (by simp) _).setCell (by simp) _).setCell (by simp) _
theorem of_any (s : ByteArray) (w : World) (hs : s.size ≤ 70000) :
    Calls Tryz.prog 102 #[.string s] w fun e w' => e = .returned (.tuple #[partsO (okR (partsL s.data.toList)), .int .i64 ((codeR (partsL s.data.toList) : Nat) : Int)]) ∧ Below w.heap.size w w' := by
  by_cases h8 : (cutP 124 s.data.toList).length = 8
  · obtain ⟨l0, l1, l2, l3, l4, l5, l6, l7, hl⟩ : ∃ l0 l1 l2 l3 l4 l5 l6 l7, cutP 124 s.data.toList = [l0, l1, l2, l3, l4, l5, l6, l7] := by
      match cutP 124 s.data.toList, h8 with
      | [a0, a1, a2, a3, a4, a5, a6, a7], _ => exact ⟨a0, a1, a2, a3, a4, a5, a6, a7, rfl⟩
    by_cases h0 : l0.length = 1
    · match l0, h0 with
      | [c], _ =>
        by_cases h2 : l7.length % 2 = 0
        · exact of_eight s w hs c l1 l2 l3 l4 l5 l6 l7 hl h2
        · exact of_odd s w hs c l1 l2 l3 l4 l5 l6 l7 hl (by omega)
    · exact of_kind s w hs l0 l1 l2 l3 l4 l5 l6 l7 hl h0
  · exact of_len s w hs h8
end Go.Proofs.YtcggmagdndhkbaaGreatDoor
end
