import Derived.Test.YtcggmagdndhkbaaGreatDoorAx19
import Derived.Test.YtcggmagdndhkbaaGreatDoorAx21
section
set_option linter.unusedVariables false
set_option linter.unusedSimpArgs false
namespace Go.Proofs.YtcggmagdndhkbaaGreatDoor
open Go Go.RowKit Go.Lib Go.Sort
theorem DaJ.c {W : World} {b : Nat} {a : DAct} (h : DaJ W b a) : W.cell? ⟨b, 0, none⟩ = some (.string a.1) ∧ W.cell? ⟨b, 1, none⟩ = some (.int .i64 a.2.1.1) ∧ W.cell? ⟨b, 2, none⟩ = some (.int .i64 a.2.1.2.1) ∧ W.cell? ⟨b, 3, none⟩ = some (.int .i64 a.2.1.2.2.1) ∧ W.cell? ⟨b, 4, none⟩ = some (.int .u8 (a.2.1.2.2.2.1 : Int)) ∧ W.cell? ⟨b, 5, none⟩ = some (.int .i64 a.2.1.2.2.2.2.1) ∧ W.cell? ⟨b, 6, none⟩ = some (.int .i64 a.2.1.2.2.2.2.2.1) ∧ W.cell? ⟨b, 7, none⟩ = some (.string a.2.1.2.2.2.2.2.2.1) ∧ W.cell? ⟨b, 8, none⟩ = some (.string a.2.1.2.2.2.2.2.2.2) ∧ W.cell? ⟨b, 9, none⟩ = some (.int .i64 a.2.2) ∧ ∀ o, W.frozen? ⟨b, o, none⟩ = false := by
  obtain ⟨h0, h1, h2, h3, h4, h5, h6, h7, h8, h9⟩ := h.ten
  unfold DaJ at h
  exact ⟨h0, h1, h2, h3, h4, h5, h6, h7, h8, h9, fun o => by simp [World.frozen?, h]⟩
theorem two_bytes {S D : Nat} {ad : Nat → Addr} {w0 W : World} {d m : Nat} {st : DSt} {b : ByteArray} {off : Bool} {cut : Int} (h : TwoAt S D ad w0 d m st b off cut W) (hr : RelD st (b.data.toList, off, cut)) : Calls Tryz.prog 44 #[.pointer (some ⟨d, 0, none⟩)] W.drew fun e w' => e = .returned (.string b) ∧ w' = W.drew := by
  obtain ⟨v, hD, -, -⟩ := h.disk
  refine (bytes_any W.drew (hD.later ((Below.refl _ W).drew))).mono ?_
  rintro e w' ⟨rfl, rfl⟩
  have e1 : (⟨st.1.toArray⟩ : ByteArray) = b := bytes_ext hr.1
  exact ⟨by rw [e1], rfl⟩
theorem two_power {S D : Nat} {ad : Nat → Addr} {w0 W : World} {d m : Nat} {st : DSt} {b : ByteArray} {off : Bool} {cut : Int} (h : TwoAt S D ad w0 d m st b off cut W) (hr : RelD st (b.data.toList, off, cut)) : Calls Tryz.prog 45 #[.pointer (some ⟨d, 0, none⟩)] W.drew fun e w' => e = .returned (.bool (!off)) ∧ w' = W.drew := by
  obtain ⟨v, hD, -, -⟩ := h.disk
  refine (power_any W.drew (hD.later ((Below.refl _ W).drew))).mono ?_
  rintro e w' ⟨rfl, rfl⟩
  have e1 : st.2.1 = off := hr.2.1
  exact ⟨by rw [e1], rfl⟩
theorem newM (w : World) (s : ByteArray) : MAt (w.alloc (.cells #[.string s, .bool false, .int .i64 (-1)] 94)) w.heap.size s false (-1) := ⟨heap_alloc_new w _, by omega, by omega⟩
set_option maxRecDepth 100000 in
set_option maxHeartbeats 8000000 in
theorem acts_law {D : Nat} {ad : Nat → Addr} (w : World) (s : ByteArray) (la : Option Addr) (lc : Nat) (l : List DAct) (hE : EnvJ D ad w) (hR : Errs D ad w) (hin : InRow encDA w la l) (hl : l.length < 9223372036854775808) (hs : s.size < 9223372036854775808) (hN : ∀ a ∈ l, a.2.2 ≤ 9223372036854775807) :
    Calls Tryz.prog 7 #[.string s, .slice la l.length lc] w fun e w' => e = .returned (.bool true) ∧ Below w.heap.size w w' := by
  have hnt := noted_any w hE
  have HE : Aside (EnvJ w.heap.size ad w ∧ Errs D ad w ∧ InRow encDA w la l ∧ D ≤ w.heap.size) := ⟨hE.up hE.size (Nat.le_refl _), hR, hin, hE.size⟩
  clear hE hR hin
  go_enter Tryz.func7, Tryz.ntmps7
  go_wp2_with fail
  refine hnt.mono ?_
  clear hnt
  rintro e w1 ⟨rfl, hb1⟩
  have HB1 : Aside (Below w.heap.size w w1) := hb1
  clear hb1
  by_cases h3 : 3000 < s.size
  · have d3 : decide ((3000 : Int) < (s.size : Int)) = true := by simp; omega
    have d3n : decide (3000 < s.size) = true := by simp; omega
    go_wp2
    go_ret
    exact ⟨rfl, HB1.out⟩
  have d3 : decide ((3000 : Int) < (s.size : Int)) = false := by simp; omega
  have d3n : decide (3000 < s.size) = false := by simp; omega
  by_cases h6 : 60 < l.length
  · have d6 : decide ((60 : Int) < (l.length : Int)) = true := by simp; omega
    have d6n : decide (60 < l.length) = true := by simp; omega
    go_wp2
    go_ret
    exact ⟨rfl, HB1.out⟩
  have d6 : decide ((60 : Int) < (l.length : Int)) = false := by simp; omega
  have d6n : decide (60 < l.length) = false := by simp; omega
  have hnew := newDisk_any s w1 (by omega)
  go_wp2_with fail
  refine hnew.mono ?_
  clear hnew d3 d3n d6 d6n
  rintro e w2 ⟨d, v0, rfl, H2⟩
  obtain ⟨S, hS⟩ : ∃ S, Aside (S = w1.heap.size) := ⟨_, rfl⟩
  obtain ⟨U, hU⟩ : ∃ U, Aside (U = w2.alloc (.cells #[.string s, .bool false, .int .i64 (-1)] 94)) := ⟨_, rfl⟩
  obtain ⟨m, hm⟩ : ∃ m, Aside (m = w2.heap.size) := ⟨_, rfl⟩
  have HT : Aside (TwoAt S D ad w1 d m (s.data.toList, false, false, 0) s false (-1) U ∧ RelD (s.data.toList, false, false, 0) (s.data.toList, false, -1)) := by
    obtain ⟨h1, h2, h3⟩ := H2.out
    have hbU : Below w2.heap.size w2 U := by rw [hU.out]; exact (Below.refl _ w2).alloc (Nat.le_refl _) _
    have hbS : Below S w1 U := by rw [hS.out]; exact h2.trans (hbU.mono h2.size)
    have hE1 : EnvJ S ad w1 := by
      have q := (HE.out.1.mono HB1.out).up HB1.out.size (Nat.le_refl _)
      rw [hS.out]
      exact q
    have hDS : D ≤ S := by rw [hS.out]; exact Nat.le_trans HE.out.2.2.2 HB1.out.size
    refine ⟨⟨⟨v0, h1.later hbU, fun k hk => by rw [hS.out]; exact h3 k hk, fun hk => ?_⟩, by rw [hU.out, hm.out]; exact newM w2 s, by rw [hm.out, hS.out]; exact h2.size, hbS, hE1.mono hbS, (HE.out.2.1.later HB1.out).mono (hbS.mono hDS), hDS⟩, rfl, rfl, .inr (.inl ⟨rfl, rfl, rfl⟩)⟩
    have := h1.own_lt hk
    rw [hm.out] at this
    omega
  have HIN : Aside (∀ W, Below S w1 W → InRow encDA W la l) := fun W hW => by
    rw [hS.out] at hW
    exact (HE.out.2.2.1.laterDA HB1.out).laterDA hW
  clear H2
  go_upto_region 8 with fail
  rw [← hU.out, ← hm.out]
  go_wp2
  go_loopg [9] l.length (fun kx s9 wr => ∃ (i : Nat) (st : DSt) (b : ByteArray) (off : Bool) (cut : Int), s9 = .int .i64 (i : Int) ∧ i ≤ l.length ∧ l.length - i ≤ kx ∧ Aside (TwoAt S D ad w1 d m st b off cut wr ∧ RelD st (b.data.toList, off, cut) ∧ b.data.toList.length ≤ 65536))
  case atStart => exact ⟨0, _, _, _, _, rfl, Nat.zero_le _, Nat.le_refl _, HT.out.1, HT.out.2, Nat.le_trans (Nat.le_of_eq (show s.data.toList.length = s.size by simp)) (by omega)⟩
  case round =>
    obtain ⟨i, st, b, off, cut, rfl, hi, hix, A⟩ := hrel
    clear HT hU
    obtain ⟨u, hu⟩ : ∃ u, u = wr := ⟨_, rfl⟩
    subst hu
    by_cases hlt : i < l.length
    · have d1 : decide ((i : Int) < (l.length : Int)) = true := by simp; omega
      have d1n : decide (i < l.length) = true := by simp; omega
      obtain ⟨⟨kk, ⟨t, bb, n, kd, nd, o, nm, vl⟩, an⟩, hx⟩ : ∃ x, Aside (l[i]? = some x) := ⟨l[i], List.getElem?_eq_getElem hlt⟩
      have HAN : Aside (an ≤ 9223372036854775807) := hN _ (List.mem_of_getElem? hx.out)
      obtain ⟨b1, o1, e1, E1⟩ := (HIN.out u A.out.1.below).ten hx.out
      obtain ⟨q0, q1, q2, q3, q4, q5, q6, q7, q8, q9⟩ := E1
      dsimp only at q0 q1 q2 q3 q4 q5 q6 q7 q8 q9
      subst e1
      have wi : ((i : Int)).toNat = i := by omega
      have pi : (0 : Int) ≤ (i : Int) := by omega
      have bi : (i : Int) < (l.length : Int) := by omega
      obtain ⟨V, hV⟩ : ∃ V, Aside (V = u.alloc (.cells #[.string kk, .int .i64 t, .int .i64 bb, .int .i64 n, .int .u8 (kd : Int), .int .i64 nd, .int .i64 o, .string nm, .string vl, .int .i64 an] 96)) := ⟨_, rfl⟩
      obtain ⟨Q, hQ⟩ : ∃ Q, Aside (Q = u.heap.size) := ⟨_, rfl⟩
      have hbV : Below u.heap.size u V := by rw [hV.out]; exact (Below.refl _ u).alloc (Nat.le_refl _) _
      have HV : Aside (TwoAt S D ad w1 d m st b off cut V ∧ DaJ V Q (kk, (t, bb, n, kd, nd, o, nm, vl), an) ∧ u.heap.size ≤ Q ∧ TwoAt S D ad w1 d m st b off cut u) := ⟨A.out.1.later hbV, by rw [hV.out, hQ.out]; exact heap_alloc_new u _, by rw [hQ.out]; exact Nat.le_refl _, A.out.1⟩
      clear hbV
      go_upto_region 12 with fail
      rw [← hV.out, ← hQ.out]
      clear q0 q1 q2 q3 q4 q5 q6 q7 q8 q9
      obtain ⟨q0, q1, q2, q3, q4, q5, q6, q7, q8, q9, qf⟩ := HV.out.2.1.c
      dsimp only at q0 q1 q2 q3 q4 q5 q6 q7 q8 q9
      have HW : Aside (∀ W, Below S w1 W → Below w.heap.size w W) := fun W hW => by
        rw [hS.out] at hW
        exact HB1.out.trans (hW.mono HB1.out.size)
      by_cases hn60 : 60 < nm.size
      · have dn : decide ((60 : Int) < (nm.size : Int)) = true := by simp; omega
        have dnn : decide (60 < nm.size) = true := by simp; omega
        go_wp2
        go_ret
        exact ⟨rfl, HW.out _ HV.out.1.below⟩
      have dn : decide ((60 : Int) < (nm.size : Int)) = false := by simp; omega
      have dnn : decide (60 < nm.size) = false := by simp; omega
      by_cases hv60 : 60 < vl.size
      · have dv : decide ((60 : Int) < (vl.size : Int)) = true := by simp; omega
        have dvn : decide (60 < vl.size) = true := by simp; omega
        go_wp2
        go_ret
        exact ⟨rfl, HW.out _ HV.out.1.below⟩
      have dv : decide ((60 : Int) < (vl.size : Int)) = false := by simp; omega
      have dvn : decide (60 < vl.size) = false := by simp; omega
      obtain ⟨v, hD, hO, hnm⟩ := HV.out.1.disk
      have hnQ : ¬ OwnD d v Q ∧ Q ≠ m := by
        obtain ⟨v', hD', hO', hnm'⟩ := HV.out.2.2.2.disk
        have ev : v' = v := by
          have e1 := hD.cell
          rw [hV.out] at e1
          rw [Below.heap_alloc u _ d hD'.lt, hD'.cell] at e1
          simpa using e1
        rw [ev] at hD'
        have h1 := HV.out.2.2.1
        refine ⟨fun q => ?_, fun e => ?_⟩
        · have := hD'.own_lt q; omega
        · have := HV.out.2.2.2.mem.lt; omega
      have HQ : Aside ((¬ OwnD d v Q ∧ Q ≠ m) ∧ DiskAt V d v st ∧ (∀ k, OwnD d v k → S ≤ k) ∧ ¬ OwnD d v m) := ⟨hnQ, hD, hO, hnm⟩
      have hbl : b.data.toList.length = b.size := by simp
      have hbz : b.size ≤ 65536 := by have := A.out.2.2; omega
      have N0 : DaJ V.drew Q (kk, (t, bb, n, kd, nd, o, nm, vl), an) := HV.out.2.1
      have hVd : Below V.heap.size V V.drew := (Below.refl _ V).drew
      clear hD hO hnm hnQ
      by_cases hA : kk = ⟨#[97, 112, 112, 101, 110, 100]⟩
      · obtain ⟨cd, sx, hcs⟩ : ∃ cd sx, Aside (appE st (t, bb, n, kd, nd, o, nm, vl) = (cd, sx)) := ⟨_, _, rfl⟩
        obtain ⟨cd', MB, oX, cX, hmp⟩ : ∃ cd' MB oX cX, Aside (mApp b.data.toList off cut (t, bb, n, kd, nd, o, nm, vl) = (cd', (MB, oX, cX))) := ⟨_, _, _, _, rfl⟩
        have hrl : cd = cd' ∧ RelD sx (MB, oX, cX) ∧ MB.length ≤ 65536 ∧ cd' ≤ 12 := by
          obtain ⟨B0, off0, wt0, lf0⟩ := st
          have h1 := A.out.2.1.app (t, bb, n, kd, nd, o, nm, vl)
          rw [hcs.out, hmp.out] at h1
          have h2 := mApp_len (off := off) (cut := cut) (x := (t, bb, n, kd, nd, o, nm, vl)) A.out.2.2
          rw [hmp.out] at h2
          have h3 := mApp_code (B := b.data.toList) (off := off) (cut := cut) (x := (t, bb, n, kd, nd, o, nm, vl))
          rw [hmp.out] at h3
          exact ⟨h1.1, h1.2, h2, h3⟩
        obtain ⟨hcc, HRL⟩ := hrl
        subst hcc
        have HRL2 : Aside (RelD sx (MB, oX, cX) ∧ MB.length ≤ 65536 ∧ cd ≤ 12) := HRL
        clear HRL
        have happ : Calls Tryz.prog 37 #[.pointer (some ⟨d, 0, none⟩), .agg #[.int .i64 t, .int .i64 bb, .int .i64 n, .int .u8 (kd : Int), .int .i64 nd, .int .i64 o, .string nm, .string vl]] V.drew fun e w' => e = .returned (eV ad cd) ∧ Aside (TwoAt S D ad w1 d m sx b off cut w' ∧ DaJ w' Q (kk, (t, bb, n, kd, nd, o, nm, vl), an)) := by
          have h0 := append_any V.drew (t, bb, n, kd, nd, o, nm, vl) (HQ.out.2.1.later hVd) (HV.out.1.env.later hVd) HQ.out.2.2.1 (by dsimp only; omega) (by dsimp only; omega) (by have h1 := A.out.2.1.1; rw [h1]; exact A.out.2.2)
          rw [hcs.out] at h0
          refine h0.mono (fun e w' q => ⟨q.1, ?_, ?_⟩)
          · exact (HV.out.1.later hVd).wrote HQ.out.2.2.1 HQ.out.2.2.2 q.2.out
          · obtain ⟨v', h1, h2, h3⟩ := q.2.out
            exact N0.kept h2 HQ.out.1.1
        have HMAP : Aside (∀ W1, (TwoAt S D ad w1 d m sx b off cut W1 ∧ DaJ W1 Q (kk, (t, bb, n, kd, nd, o, nm, vl), an)) → Calls Tryz.prog 38 #[.pointer (some ⟨m, 0, none⟩), .agg #[.int .i64 t, .int .i64 bb, .int .i64 n, .int .u8 (kd : Int), .int .i64 nd, .int .i64 o, .string nm, .string vl]] W1 fun e w' => ∃ F : ByteArray, e = .returned (.int .i64 (cd : Int)) ∧ Aside ((TwoAt S D ad w1 d m sx F oX cX w' ∧ F.data.toList = MB) ∧ DaJ w' Q (kk, (t, bb, n, kd, nd, o, nm, vl), an))) := fun W1 hW1 => by
          have h0 := mappend_any W1 (t, bb, n, kd, nd, o, nm, vl) hW1.1.mem (by dsimp only; omega) (by dsimp only; omega) hbz
          unfold AppOut at h0
          rw [hmp.out] at h0
          refine h0.mono (fun e w' q => ?_)
          obtain ⟨F, he, q⟩ := q
          exact ⟨F, he, ⟨hW1.1.told q.out.2.2 q.out.2.1, q.out.1⟩, hW1.2.kept q.out.2.2 HQ.out.1.2⟩
        have HCOD : Aside (∀ W2 (F : ByteArray), ((TwoAt S D ad w1 d m sx F oX cX W2 ∧ F.data.toList = MB) ∧ DaJ W2 Q (kk, (t, bb, n, kd, nd, o, nm, vl), an)) → Calls Tryz.prog 22 #[eV ad cd, .int .i64 (cd : Int)] W2 fun e w' => e = .returned (.bool true) ∧ Aside ((TwoAt S D ad w1 d m sx F oX cX w' ∧ F.data.toList = MB) ∧ DaJ w' Q (kk, (t, bb, n, kd, nd, o, nm, vl), an))) := fun W2 F hW2 => by
          refine (coded2_e cd W2 hW2.1.1.errs HRL2.out.2.2).mono (fun e w' q => ⟨q.1, ⟨hW2.1.1.later q.2, hW2.1.2⟩, hW2.2.later q.2⟩)
        subst hA
        clear hVd
        go_upto_region 20 with fail
        clear q0 q1 q2 q3 q4 q5 q6 q7 q8 q9 qf
        refine wp_region_H (S := (fun w' => DaJ w' Q (⟨#[97, 112, 112, 101, 110, 100]⟩, (t, bb, n, kd, nd, o, nm, vl), an))) (by kernel_rfl) N0 (fun hHeld => ?_)
        refine wpAnyH_take (i := 0) (v := ?vaa0) rfl (by kernel_rfl) (by kernel_rfl) (by kernel_rfl) (fun _ _ _ h => h) (Or.inl ⟨by rfl, ?hya0⟩) hHeld ?resta0
        case hya0 => (intro w' hSw; clear hSw; go_simp; try with_reducible rfl)
        try simp only [List.getElem_toArray, List.getElem_cons_succ, List.getElem_cons_zero, Act.put, List.setIfInBounds_toArray, List.set_cons_zero, List.set_cons_succ]
        refine wpAnyH_take (i := 1) (v := ?vaa1) rfl (by kernel_rfl) (by kernel_rfl) (by kernel_rfl) (fun _ _ _ h => h) (Or.inl ⟨by rfl, ?hya1⟩) hHeld ?resta1
        case hya1 => (intro w' hSw; clear hSw; go_simp; try with_reducible rfl)
        try simp only [List.getElem_toArray, List.getElem_cons_succ, List.getElem_cons_zero, Act.put, List.setIfInBounds_toArray, List.set_cons_zero, List.set_cons_succ]
        refine wpAnyH_take (i := 2) (v := ?vaa2) rfl (by kernel_rfl) (by kernel_rfl) (by kernel_rfl) (fun _ _ _ h => h) (Or.inl ⟨by rfl, ?hya2⟩) hHeld ?resta2
        case hya2 => (intro w' hSw; obtain ⟨q0, q1, q2, q3, q4, q5, q6, q7, q8, q9, -⟩ := DaJ.c hSw; dsimp only at q0 q1 q2 q3 q4 q5 q6 q7 q8 q9; clear hSw; go_simp; try with_reducible rfl)
        try simp only [List.getElem_toArray, List.getElem_cons_succ, List.getElem_cons_zero, Act.put, List.setIfInBounds_toArray, List.set_cons_zero, List.set_cons_succ]
        refine wpAnyH_take (i := 4) (v := ?vaa4) rfl (by kernel_rfl) (by kernel_rfl) (by kernel_rfl) (fun _ _ _ h => h) (Or.inl ⟨by rfl, ?hya4⟩) hHeld ?resta4
        case hya4 => (intro w' hSw; clear hSw; go_simp; try with_reducible rfl)
        try simp only [List.getElem_toArray, List.getElem_cons_succ, List.getElem_cons_zero, Act.put, List.setIfInBounds_toArray, List.set_cons_zero, List.set_cons_succ]
        refine wpAnyH_take (i := 5) (v := ?vaa5) rfl (by kernel_rfl) (by kernel_rfl) (by kernel_rfl) (fun _ _ _ h => h) (Or.inl ⟨by rfl, ?hya5⟩) hHeld ?resta5
        case hya5 => (intro w' hSw; clear hSw; go_simp; try with_reducible rfl)
        try simp only [List.getElem_toArray, List.getElem_cons_succ, List.getElem_cons_zero, Act.put, List.setIfInBounds_toArray, List.set_cons_zero, List.set_cons_succ]
        refine wpAnyH_take (i := 6) (v := ?vaa6) rfl (by kernel_rfl) (by kernel_rfl) (by kernel_rfl) (fun _ _ _ h => h) (Or.inl ⟨by rfl, ?hya6⟩) hHeld ?resta6
        case hya6 => (intro w' hSw; obtain ⟨q0, q1, q2, q3, q4, q5, q6, q7, q8, q9, -⟩ := DaJ.c hSw; dsimp only at q0 q1 q2 q3 q4 q5 q6 q7 q8 q9; clear hSw; go_simp; try with_reducible rfl)
        try simp only [List.getElem_toArray, List.getElem_cons_succ, List.getElem_cons_zero, Act.put, List.setIfInBounds_toArray, List.set_cons_zero, List.set_cons_succ]
        refine wpAnyH_one (i := 3) (by kernel_rfl) rfl (fun K hK => ?_)
        go_simp
        refine happ.mono ?_
        clear happ
        rintro e W1 ⟨rfl, H1⟩
        have N1 := H1.out.2
        have hmap := HMAP.out W1 H1.out
        refine hK _ _ N1 ?_
        clear hK K
        try simp only [List.getElem_toArray, List.getElem_cons_succ, List.getElem_cons_zero, Act.put, List.setIfInBounds_toArray, List.set_cons_zero, List.set_cons_succ]
        refine wpAnyH_one (i := 7) (by kernel_rfl) rfl (fun K hK => ?_)
        go_simp
        refine hmap.mono ?_
        clear hmap
        rintro e W2 ⟨F, rfl, H2⟩
        have N2 := H2.out.2
        have hcod := HCOD.out W2 F H2.out
        refine hK _ _ N2 ?_
        clear hK K
        try simp only [List.getElem_toArray, List.getElem_cons_succ, List.getElem_cons_zero, Act.put, List.setIfInBounds_toArray, List.set_cons_zero, List.set_cons_succ]
        refine wpAnyH_one (i := 8) (by kernel_rfl) rfl (fun K hK => ?_)
        go_simp
        refine hcod.mono ?_
        clear hcod
        rintro e W3 ⟨rfl, H3⟩
        have N3 := H3.out.2
        refine hK _ _ N3 ?_
        clear hK K
        try simp only [List.getElem_toArray, List.getElem_cons_succ, List.getElem_cons_zero, Act.put, List.setIfInBounds_toArray, List.set_cons_zero, List.set_cons_succ]
        refine wpAnyH_take (i := 9) (v := ?vab9) rfl (by kernel_rfl) (by kernel_rfl) (by kernel_rfl) (fun _ _ _ h => h) (Or.inl ⟨by rfl, ?hyb9⟩) N3 ?restb9
        case hyb9 => (intro w' hSw; clear hSw; go_simp; try with_reducible rfl)
        try simp only [List.getElem_toArray, List.getElem_cons_succ, List.getElem_cons_zero, Act.put, List.setIfInBounds_toArray, List.set_cons_zero, List.set_cons_succ]
        refine wpAnyH_done (by kernel_rfl) ?_ _
        try simp only [List.getElem_toArray, List.getElem_cons_succ, List.getElem_cons_zero, Act.put, List.setIfInBounds_toArray, List.set_cons_zero, List.set_cons_succ]
        have HX : Aside (TwoAt S D ad w1 d m sx F oX cX W3 ∧ RelD sx (F.data.toList, oX, cX) ∧ F.data.toList.length ≤ 65536) := ⟨H3.out.1.1, by rw [H3.out.1.2]; exact HRL2.out.1, by rw [H3.out.1.2]; exact HRL2.out.2.1⟩
        clear N1 N2 N3 H1 H2 H3 HMAP HCOD N0 HRL2
        obtain ⟨u4, hu4⟩ : ∃ u4, u4 = W3 := ⟨_, rfl⟩
        have hby := two_bytes HX.out.1 HX.out.2.1
        have hpw := two_power HX.out.1 HX.out.2.1
        have hYY := beq_yes F
        have hYN : (F != F) = false := by show (!(F == F)) = false; rw [hYY]; rfl
        have hOO : ((!oX) == oX) = false := by first | rfl | (cases oX <;> rfl)
        have hOO2 : (!oX == oX) = false := by first | rfl | (cases oX <;> rfl)
        have NM : MAt W3.drew m F oX cX := HX.out.1.mem.later ((Below.refl _ W3).drew)
        have HXd : Aside (TwoAt S D ad w1 d m sx F oX cX W3.drew ∧ RelD sx (F.data.toList, oX, cX) ∧ F.data.toList.length ≤ 65536) := ⟨HX.out.1.later ((Below.refl _ W3).drew), HX.out.2.1, HX.out.2.2⟩
        go_upto_region 29 with fail
        refine wp_region_H (S := (fun w' => MAt w' m F oX cX)) (by kernel_rfl) NM (fun hHeld => ?_)
        refine wpAnyH_take (i := 0) (v := ?vatp0) rfl (by kernel_rfl) (by kernel_rfl) (by kernel_rfl) (fun _ _ _ h => h) (Or.inl ⟨by rfl, ?hytp0⟩) hHeld ?resttp0
        case hytp0 => (intro w' hSw; clear hSw; go_simp; try with_reducible rfl)
        try simp only [List.getElem_toArray, List.getElem_cons_succ, List.getElem_cons_zero, Act.put, List.setIfInBounds_toArray, List.set_cons_zero, List.set_cons_succ]
        refine wpAnyH_take (i := 2) (v := ?vatp2) rfl (by kernel_rfl) (by kernel_rfl) (by kernel_rfl) (fun _ _ _ h => h) (Or.inl ⟨by rfl, ?hytp2⟩) hHeld ?resttp2
        case hytp2 => (intro w' hSw; clear hSw; go_simp; try with_reducible rfl)
        try simp only [List.getElem_toArray, List.getElem_cons_succ, List.getElem_cons_zero, Act.put, List.setIfInBounds_toArray, List.set_cons_zero, List.set_cons_succ]
        refine wpAnyH_take (i := 3) (v := ?vatp3) rfl (by kernel_rfl) (by kernel_rfl) (by kernel_rfl) (fun _ _ _ h => h) (Or.inl ⟨by rfl, ?hytp3⟩) hHeld ?resttp3
        case hytp3 => (intro w' hSw; clear hSw; go_simp; try with_reducible rfl)
        try simp only [List.getElem_toArray, List.getElem_cons_succ, List.getElem_cons_zero, Act.put, List.setIfInBounds_toArray, List.set_cons_zero, List.set_cons_succ]
        refine wpAnyH_take (i := 4) (v := ?vatp4) rfl (by kernel_rfl) (by kernel_rfl) (by kernel_rfl) (fun _ _ _ h => h) (Or.inl ⟨by rfl, ?hytp4⟩) hHeld ?resttp4
        case hytp4 => (intro w' hSw; clear hSw; go_simp; try with_reducible rfl)
        try simp only [List.getElem_toArray, List.getElem_cons_succ, List.getElem_cons_zero, Act.put, List.setIfInBounds_toArray, List.set_cons_zero, List.set_cons_succ]
        refine wpAnyH_take (i := 5) (v := ?vatp5) rfl (by kernel_rfl) (by kernel_rfl) (by kernel_rfl) (fun _ _ _ h => h) (Or.inl ⟨by rfl, ?hytp5⟩) hHeld ?resttp5
        case hytp5 => (intro w' hSw; obtain ⟨q0, q1, q2, -⟩ := MAt.c hSw; clear hSw; go_simp; try with_reducible rfl)
        try simp only [List.getElem_toArray, List.getElem_cons_succ, List.getElem_cons_zero, Act.put, List.setIfInBounds_toArray, List.set_cons_zero, List.set_cons_succ]
        refine wpAnyH_one (i := 1) (by kernel_rfl) rfl (fun K hK => ?_)
        go_simp
        refine hby.mono ?_
        clear hby
        rintro e W5 ⟨rfl, rfl⟩
        refine hK _ _ hHeld ?_
        clear hK K
        try simp only [List.getElem_toArray, List.getElem_cons_succ, List.getElem_cons_zero, Act.put, List.setIfInBounds_toArray, List.set_cons_zero, List.set_cons_succ]
        refine wpAnyH_take (i := 6) (v := ?vatp6) rfl (by kernel_rfl) (by kernel_rfl) (by kernel_rfl) (fun _ _ _ h => h) (Or.inl ⟨by rfl, ?hytp6⟩) hHeld ?resttp6
        case hytp6 => (intro w' hSw; clear hSw; go_simp; try with_reducible rfl)
        try simp only [List.getElem_toArray, List.getElem_cons_succ, List.getElem_cons_zero, Act.put, List.setIfInBounds_toArray, List.set_cons_zero, List.set_cons_succ]
        refine wpAnyH_take (i := 7) (v := ?vatp7) rfl (by kernel_rfl) (by kernel_rfl) (by kernel_rfl) (fun _ _ _ h => h) (Or.inl ⟨by rfl, ?hytp7⟩) hHeld ?resttp7
        case hytp7 => (intro w' hSw; clear hSw; go_simp; try with_reducible rfl)
        try simp only [List.getElem_toArray, List.getElem_cons_succ, List.getElem_cons_zero, Act.put, List.setIfInBounds_toArray, List.set_cons_zero, List.set_cons_succ]
        refine wpAnyH_take (i := 8) (v := ?vatp8) rfl (by kernel_rfl) (by kernel_rfl) (by kernel_rfl) (fun _ _ _ h => h) (Or.inl ⟨by rfl, ?hytp8⟩) hHeld ?resttp8
        case hytp8 => (intro w' hSw; clear hSw; go_simp; try with_reducible rfl)
        try simp only [List.getElem_toArray, List.getElem_cons_succ, List.getElem_cons_zero, Act.put, List.setIfInBounds_toArray, List.set_cons_zero, List.set_cons_succ]
        refine wpAnyH_take (i := 10) (v := ?vatp10) rfl (by kernel_rfl) (by kernel_rfl) (by kernel_rfl) (fun _ _ _ h => h) (Or.inl ⟨by rfl, ?hytp10⟩) hHeld ?resttp10
        case hytp10 => (intro w' hSw; clear hSw; go_simp; try with_reducible rfl)
        try simp only [List.getElem_toArray, List.getElem_cons_succ, List.getElem_cons_zero, Act.put, List.setIfInBounds_toArray, List.set_cons_zero, List.set_cons_succ]
        refine wpAnyH_take (i := 11) (v := ?vatp11) rfl (by kernel_rfl) (by kernel_rfl) (by kernel_rfl) (fun _ _ _ h => h) (Or.inl ⟨by rfl, ?hytp11⟩) hHeld ?resttp11
        case hytp11 => (intro w' hSw; clear hSw; go_simp; try with_reducible rfl)
        try simp only [List.getElem_toArray, List.getElem_cons_succ, List.getElem_cons_zero, Act.put, List.setIfInBounds_toArray, List.set_cons_zero, List.set_cons_succ]
        refine wpAnyH_take (i := 12) (v := ?vatp12) rfl (by kernel_rfl) (by kernel_rfl) (by kernel_rfl) (fun _ _ _ h => h) (Or.inl ⟨by rfl, ?hytp12⟩) hHeld ?resttp12
        case hytp12 => (intro w' hSw; clear hSw; go_simp; try with_reducible rfl)
        try simp only [List.getElem_toArray, List.getElem_cons_succ, List.getElem_cons_zero, Act.put, List.setIfInBounds_toArray, List.set_cons_zero, List.set_cons_succ]
        refine wpAnyH_take (i := 13) (v := ?vatp13) rfl (by kernel_rfl) (by kernel_rfl) (by kernel_rfl) (fun _ _ _ h => h) (Or.inl ⟨by rfl, ?hytp13⟩) hHeld ?resttp13
        case hytp13 => (intro w' hSw; obtain ⟨q0, q1, q2, -⟩ := MAt.c hSw; clear hSw; go_simp; try with_reducible rfl)
        try simp only [List.getElem_toArray, List.getElem_cons_succ, List.getElem_cons_zero, Act.put, List.setIfInBounds_toArray, List.set_cons_zero, List.set_cons_succ]
        refine wpAnyH_one (i := 9) (by kernel_rfl) rfl (fun K hK => ?_)
        go_simp
        refine hpw.mono ?_
        clear hpw
        rintro e W6 ⟨rfl, rfl⟩
        refine hK _ _ hHeld ?_
        clear hK K
        try simp only [List.getElem_toArray, List.getElem_cons_succ, List.getElem_cons_zero, Act.put, List.setIfInBounds_toArray, List.set_cons_zero, List.set_cons_succ]
        refine wpAnyH_take (i := 14) (v := ?vatp14) rfl (by kernel_rfl) (by kernel_rfl) (by kernel_rfl) (fun _ _ _ h => h) (Or.inl ⟨by rfl, ?hytp14⟩) hHeld ?resttp14
        case hytp14 => (intro w' hSw; clear hSw; go_simp; try with_reducible rfl)
        try simp only [List.getElem_toArray, List.getElem_cons_succ, List.getElem_cons_zero, Act.put, List.setIfInBounds_toArray, List.set_cons_zero, List.set_cons_succ]
        refine wpAnyH_take (i := 15) (v := ?vatp15) rfl (by kernel_rfl) (by kernel_rfl) (by kernel_rfl) (fun _ _ _ h => h) (Or.inl ⟨by rfl, ?hytp15⟩) hHeld ?resttp15
        case hytp15 => (intro w' hSw; clear hSw; go_simp; try with_reducible rfl)
        try simp only [List.getElem_toArray, List.getElem_cons_succ, List.getElem_cons_zero, Act.put, List.setIfInBounds_toArray, List.set_cons_zero, List.set_cons_succ]
        refine wpAnyH_done (by kernel_rfl) ?_ _
        try simp only [List.getElem_toArray, List.getElem_cons_succ, List.getElem_cons_zero, Act.put, List.setIfInBounds_toArray, List.set_cons_zero, List.set_cons_succ]
        clear hYY hYN hOO hOO2 NM HX A
        go_wp2
        go_roundg (l.length - (i + 1))
        case measure => omega
        case rel => exact ⟨i + 1, sx, F, oX, cX, by go_num, by omega, Nat.le_refl _, HXd.out⟩
      have hA1 := beq_no hA
      have hA2 := beqL_no hA
      have hA3 := decide_eq_false hA
      have hA4 : (kk.toList == [97, 112, 112, 101, 110, 100]) = false := by have q := hA2; rw [ByteArray.toList_eq, ByteArray.toList_eq] at q; rw [ByteArray.toList_eq]; exact q
      by_cases hB : kk = ⟨#[99, 117, 116]⟩
      · obtain ⟨B0, off0, wt0, lf0⟩ := st
        obtain ⟨sX, hsX⟩ : ∃ sX, Aside (sX = cutSt (B0, off0, wt0, lf0) an) := ⟨_, rfl⟩
        obtain ⟨cd, hcd⟩ : ∃ cd, Aside (cd = cutE off an) := ⟨_, rfl⟩
        obtain ⟨cX, hcX⟩ : ∃ cX, Aside (cX = if cutE off an = 0 then an else cut) := ⟨_, rfl⟩
        have e1 : off0 = off := A.out.2.1.2.1
        subst e1
        have HRL2 : Aside (RelD sX (b.data.toList, off0, cX) ∧ b.data.toList.length ≤ 65536 ∧ cd ≤ 12) := by
          refine ⟨?_, A.out.2.2, ?_⟩
          · have h1 := A.out.2.1.cut an
            rw [hsX.out, hcX.out]
            by_cases q : cutE off0 an = 0
            · rw [if_pos q] at h1 ⊢
              exact h1
            · rw [if_neg q] at h1 ⊢
              exact h1
          · rw [hcd.out]
            unfold cutE
            repeat' split
            all_goals omega
        have hct : Calls Tryz.prog 39 #[.pointer (some ⟨d, 0, none⟩), .int .i64 an] V.drew fun e w' => e = .returned (eV ad cd) ∧ Aside (TwoAt S D ad w1 d m sX b off0 cut w' ∧ DaJ w' Q (kk, (t, bb, n, kd, nd, o, nm, vl), an)) := by
          have h0 := cut_any V.drew an (HQ.out.2.1.later hVd) (HV.out.1.env.later hVd).here.errd HAN.out
          rw [← hcd.out, ← hsX.out] at h0
          refine h0.mono (fun e w' q => ⟨q.1, ?_, ?_⟩)
          · exact (HV.out.1.later hVd).wrote HQ.out.2.2.1 HQ.out.2.2.2 ⟨v, q.2.out.1, q.2.out.2.mono (fun k _ e => .inl e), fun g hg => .inl hg⟩
          · exact N0.kept q.2.out.2 (fun e => HQ.out.1.1 (.inl e))
        have HSC : Aside (∀ W1, (TwoAt S D ad w1 d m sX b off0 cut W1 ∧ DaJ W1 Q (kk, (t, bb, n, kd, nd, o, nm, vl), an)) → Calls Tryz.prog 40 #[.pointer (some ⟨m, 0, none⟩), .int .i64 an] W1 fun e w' => e = .returned (.int .i64 (cd : Int)) ∧ Aside (TwoAt S D ad w1 d m sX b off0 cX w' ∧ DaJ w' Q (kk, (t, bb, n, kd, nd, o, nm, vl), an))) := fun W1 hW1 => by
          have h0 := setCut_any W1 an hW1.1.mem HAN.out
          rw [← hcX.out, ← hcd.out] at h0
          exact h0.mono (fun e w' q => ⟨q.1, hW1.1.told q.2.out.2 q.2.out.1, hW1.2.kept q.2.out.2 HQ.out.1.2⟩)
        have HCOD : Aside (∀ W2, (TwoAt S D ad w1 d m sX b off0 cX W2 ∧ DaJ W2 Q (kk, (t, bb, n, kd, nd, o, nm, vl), an)) → Calls Tryz.prog 22 #[eV ad cd, .int .i64 (cd : Int)] W2 fun e w' => e = .returned (.bool true) ∧ Aside (TwoAt S D ad w1 d m sX b off0 cX w' ∧ DaJ w' Q (kk, (t, bb, n, kd, nd, o, nm, vl), an))) := fun W2 hW2 => by
          exact (coded2_e cd W2 hW2.1.errs HRL2.out.2.2).mono (fun e w' q => ⟨q.1, hW2.1.later q.2, hW2.2.later q.2⟩)
        subst hB
        clear hVd
        go_upto_region 23 with fail
        clear q0 q1 q2 q3 q4 q5 q6 q7 q8 q9 qf
        refine wp_region_H (S := (fun w' => DaJ w' Q (⟨#[99, 117, 116]⟩, (t, bb, n, kd, nd, o, nm, vl), an))) (by kernel_rfl) N0 (fun hHeld => ?_)
        refine wpAnyH_take (i := 0) (v := ?vac0) rfl (by kernel_rfl) (by kernel_rfl) (by kernel_rfl) (fun _ _ _ h => h) (Or.inl ⟨by rfl, ?hyc0⟩) hHeld ?restc0
        case hyc0 => (intro w' hSw; clear hSw; go_simp; try with_reducible rfl)
        try simp only [List.getElem_toArray, List.getElem_cons_succ, List.getElem_cons_zero, Act.put, List.setIfInBounds_toArray, List.set_cons_zero, List.set_cons_succ]
        refine wpAnyH_take (i := 1) (v := ?vac1) rfl (by kernel_rfl) (by kernel_rfl) (by kernel_rfl) (fun _ _ _ h => h) (Or.inl ⟨by rfl, ?hyc1⟩) hHeld ?restc1
        case hyc1 => (intro w' hSw; clear hSw; go_simp; try with_reducible rfl)
        try simp only [List.getElem_toArray, List.getElem_cons_succ, List.getElem_cons_zero, Act.put, List.setIfInBounds_toArray, List.set_cons_zero, List.set_cons_succ]
        refine wpAnyH_take (i := 2) (v := ?vac2) rfl (by kernel_rfl) (by kernel_rfl) (by kernel_rfl) (fun _ _ _ h => h) (Or.inl ⟨by rfl, ?hyc2⟩) hHeld ?restc2
        case hyc2 => (intro w' hSw; obtain ⟨q0, q1, q2, q3, q4, q5, q6, q7, q8, q9, -⟩ := DaJ.c hSw; dsimp only at q0 q1 q2 q3 q4 q5 q6 q7 q8 q9; clear hSw; go_simp; try with_reducible rfl)
        try simp only [List.getElem_toArray, List.getElem_cons_succ, List.getElem_cons_zero, Act.put, List.setIfInBounds_toArray, List.set_cons_zero, List.set_cons_succ]
        refine wpAnyH_take (i := 4) (v := ?vac4) rfl (by kernel_rfl) (by kernel_rfl) (by kernel_rfl) (fun _ _ _ h => h) (Or.inl ⟨by rfl, ?hyc4⟩) hHeld ?restc4
        case hyc4 => (intro w' hSw; clear hSw; go_simp; try with_reducible rfl)
        try simp only [List.getElem_toArray, List.getElem_cons_succ, List.getElem_cons_zero, Act.put, List.setIfInBounds_toArray, List.set_cons_zero, List.set_cons_succ]
        refine wpAnyH_take (i := 5) (v := ?vac5) rfl (by kernel_rfl) (by kernel_rfl) (by kernel_rfl) (fun _ _ _ h => h) (Or.inl ⟨by rfl, ?hyc5⟩) hHeld ?restc5
        case hyc5 => (intro w' hSw; clear hSw; go_simp; try with_reducible rfl)
        try simp only [List.getElem_toArray, List.getElem_cons_succ, List.getElem_cons_zero, Act.put, List.setIfInBounds_toArray, List.set_cons_zero, List.set_cons_succ]
        refine wpAnyH_take (i := 6) (v := ?vac6) rfl (by kernel_rfl) (by kernel_rfl) (by kernel_rfl) (fun _ _ _ h => h) (Or.inl ⟨by rfl, ?hyc6⟩) hHeld ?restc6
        case hyc6 => (intro w' hSw; obtain ⟨q0, q1, q2, q3, q4, q5, q6, q7, q8, q9, -⟩ := DaJ.c hSw; dsimp only at q0 q1 q2 q3 q4 q5 q6 q7 q8 q9; clear hSw; go_simp; try with_reducible rfl)
        try simp only [List.getElem_toArray, List.getElem_cons_succ, List.getElem_cons_zero, Act.put, List.setIfInBounds_toArray, List.set_cons_zero, List.set_cons_succ]
        refine wpAnyH_one (i := 3) (by kernel_rfl) rfl (fun K hK => ?_)
        go_simp
        refine hct.mono ?_
        clear hct
        rintro e W1 ⟨rfl, H1⟩
        have N1 := H1.out.2
        have hsc := HSC.out W1 H1.out
        refine hK _ _ N1 ?_
        clear hK K
        try simp only [List.getElem_toArray, List.getElem_cons_succ, List.getElem_cons_zero, Act.put, List.setIfInBounds_toArray, List.set_cons_zero, List.set_cons_succ]
        refine wpAnyH_one (i := 7) (by kernel_rfl) rfl (fun K hK => ?_)
        go_simp
        refine hsc.mono ?_
        clear hsc
        rintro e W2 ⟨rfl, H2⟩
        have N2 := H2.out.2
        have hcod := HCOD.out W2 H2.out
        refine hK _ _ N2 ?_
        clear hK K
        try simp only [List.getElem_toArray, List.getElem_cons_succ, List.getElem_cons_zero, Act.put, List.setIfInBounds_toArray, List.set_cons_zero, List.set_cons_succ]
        refine wpAnyH_one (i := 8) (by kernel_rfl) rfl (fun K hK => ?_)
        go_simp
        refine hcod.mono ?_
        clear hcod
        rintro e W3 ⟨rfl, H3⟩
        have N3 := H3.out.2
        refine hK _ _ N3 ?_
        clear hK K
        try simp only [List.getElem_toArray, List.getElem_cons_succ, List.getElem_cons_zero, Act.put, List.setIfInBounds_toArray, List.set_cons_zero, List.set_cons_succ]
        refine wpAnyH_take (i := 9) (v := ?vad9) rfl (by kernel_rfl) (by kernel_rfl) (by kernel_rfl) (fun _ _ _ h => h) (Or.inl ⟨by rfl, ?hyd9⟩) N3 ?restd9
        case hyd9 => (intro w' hSw; clear hSw; go_simp; try with_reducible rfl)
        try simp only [List.getElem_toArray, List.getElem_cons_succ, List.getElem_cons_zero, Act.put, List.setIfInBounds_toArray, List.set_cons_zero, List.set_cons_succ]
        refine wpAnyH_done (by kernel_rfl) ?_ _
        try simp only [List.getElem_toArray, List.getElem_cons_succ, List.getElem_cons_zero, Act.put, List.setIfInBounds_toArray, List.set_cons_zero, List.set_cons_succ]
        have HX : Aside (TwoAt S D ad w1 d m sX b off0 cX W3 ∧ RelD sX (b.data.toList, off0, cX) ∧ b.data.toList.length ≤ 65536) := ⟨H3.out.1, HRL2.out.1, HRL2.out.2.1⟩
        clear N1 N2 N3 H1 H2 H3 HSC HCOD N0 HRL2
        obtain ⟨u4, hu4⟩ : ∃ u4, u4 = W3 := ⟨_, rfl⟩
        have hby := two_bytes HX.out.1 HX.out.2.1
        have hpw := two_power HX.out.1 HX.out.2.1
        have hYY := beq_yes b
        have hYN : (b != b) = false := by show (!(b == b)) = false; rw [hYY]; rfl
        have hOO : ((!off0) == off0) = false := by first | rfl | (cases off0 <;> rfl)
        have hOO2 : (!off0 == off0) = false := by first | rfl | (cases off0 <;> rfl)
        have NM : MAt W3.drew m b off0 cX := HX.out.1.mem.later ((Below.refl _ W3).drew)
        have HXd : Aside (TwoAt S D ad w1 d m sX b off0 cX W3.drew ∧ RelD sX (b.data.toList, off0, cX) ∧ b.data.toList.length ≤ 65536) := ⟨HX.out.1.later ((Below.refl _ W3).drew), HX.out.2.1, HX.out.2.2⟩
        go_upto_region 29 with fail
        refine wp_region_H (S := (fun w' => MAt w' m b off0 cX)) (by kernel_rfl) NM (fun hHeld => ?_)
        refine wpAnyH_take (i := 0) (v := ?vatq0) rfl (by kernel_rfl) (by kernel_rfl) (by kernel_rfl) (fun _ _ _ h => h) (Or.inl ⟨by rfl, ?hytq0⟩) hHeld ?resttq0
        case hytq0 => (intro w' hSw; clear hSw; go_simp; try with_reducible rfl)
        try simp only [List.getElem_toArray, List.getElem_cons_succ, List.getElem_cons_zero, Act.put, List.setIfInBounds_toArray, List.set_cons_zero, List.set_cons_succ]
        refine wpAnyH_take (i := 2) (v := ?vatq2) rfl (by kernel_rfl) (by kernel_rfl) (by kernel_rfl) (fun _ _ _ h => h) (Or.inl ⟨by rfl, ?hytq2⟩) hHeld ?resttq2
        case hytq2 => (intro w' hSw; clear hSw; go_simp; try with_reducible rfl)
        try simp only [List.getElem_toArray, List.getElem_cons_succ, List.getElem_cons_zero, Act.put, List.setIfInBounds_toArray, List.set_cons_zero, List.set_cons_succ]
        refine wpAnyH_take (i := 3) (v := ?vatq3) rfl (by kernel_rfl) (by kernel_rfl) (by kernel_rfl) (fun _ _ _ h => h) (Or.inl ⟨by rfl, ?hytq3⟩) hHeld ?resttq3
        case hytq3 => (intro w' hSw; clear hSw; go_simp; try with_reducible rfl)
        try simp only [List.getElem_toArray, List.getElem_cons_succ, List.getElem_cons_zero, Act.put, List.setIfInBounds_toArray, List.set_cons_zero, List.set_cons_succ]
        refine wpAnyH_take (i := 4) (v := ?vatq4) rfl (by kernel_rfl) (by kernel_rfl) (by kernel_rfl) (fun _ _ _ h => h) (Or.inl ⟨by rfl, ?hytq4⟩) hHeld ?resttq4
        case hytq4 => (intro w' hSw; clear hSw; go_simp; try with_reducible rfl)
        try simp only [List.getElem_toArray, List.getElem_cons_succ, List.getElem_cons_zero, Act.put, List.setIfInBounds_toArray, List.set_cons_zero, List.set_cons_succ]
        refine wpAnyH_take (i := 5) (v := ?vatq5) rfl (by kernel_rfl) (by kernel_rfl) (by kernel_rfl) (fun _ _ _ h => h) (Or.inl ⟨by rfl, ?hytq5⟩) hHeld ?resttq5
        case hytq5 => (intro w' hSw; obtain ⟨q0, q1, q2, -⟩ := MAt.c hSw; clear hSw; go_simp; try with_reducible rfl)
        try simp only [List.getElem_toArray, List.getElem_cons_succ, List.getElem_cons_zero, Act.put, List.setIfInBounds_toArray, List.set_cons_zero, List.set_cons_succ]
        refine wpAnyH_one (i := 1) (by kernel_rfl) rfl (fun K hK => ?_)
        go_simp
        refine hby.mono ?_
        clear hby
        rintro e W5 ⟨rfl, rfl⟩
        refine hK _ _ hHeld ?_
        clear hK K
        try simp only [List.getElem_toArray, List.getElem_cons_succ, List.getElem_cons_zero, Act.put, List.setIfInBounds_toArray, List.set_cons_zero, List.set_cons_succ]
        refine wpAnyH_take (i := 6) (v := ?vatq6) rfl (by kernel_rfl) (by kernel_rfl) (by kernel_rfl) (fun _ _ _ h => h) (Or.inl ⟨by rfl, ?hytq6⟩) hHeld ?resttq6
        case hytq6 => (intro w' hSw; clear hSw; go_simp; try with_reducible rfl)
        try simp only [List.getElem_toArray, List.getElem_cons_succ, List.getElem_cons_zero, Act.put, List.setIfInBounds_toArray, List.set_cons_zero, List.set_cons_succ]
        refine wpAnyH_take (i := 7) (v := ?vatq7) rfl (by kernel_rfl) (by kernel_rfl) (by kernel_rfl) (fun _ _ _ h => h) (Or.inl ⟨by rfl, ?hytq7⟩) hHeld ?resttq7
        case hytq7 => (intro w' hSw; clear hSw; go_simp; try with_reducible rfl)
        try simp only [List.getElem_toArray, List.getElem_cons_succ, List.getElem_cons_zero, Act.put, List.setIfInBounds_toArray, List.set_cons_zero, List.set_cons_succ]
        refine wpAnyH_take (i := 8) (v := ?vatq8) rfl (by kernel_rfl) (by kernel_rfl) (by kernel_rfl) (fun _ _ _ h => h) (Or.inl ⟨by rfl, ?hytq8⟩) hHeld ?resttq8
        case hytq8 => (intro w' hSw; clear hSw; go_simp; try with_reducible rfl)
        try simp only [List.getElem_toArray, List.getElem_cons_succ, List.getElem_cons_zero, Act.put, List.setIfInBounds_toArray, List.set_cons_zero, List.set_cons_succ]
        refine wpAnyH_take (i := 10) (v := ?vatq10) rfl (by kernel_rfl) (by kernel_rfl) (by kernel_rfl) (fun _ _ _ h => h) (Or.inl ⟨by rfl, ?hytq10⟩) hHeld ?resttq10
        case hytq10 => (intro w' hSw; clear hSw; go_simp; try with_reducible rfl)
        try simp only [List.getElem_toArray, List.getElem_cons_succ, List.getElem_cons_zero, Act.put, List.setIfInBounds_toArray, List.set_cons_zero, List.set_cons_succ]
        refine wpAnyH_take (i := 11) (v := ?vatq11) rfl (by kernel_rfl) (by kernel_rfl) (by kernel_rfl) (fun _ _ _ h => h) (Or.inl ⟨by rfl, ?hytq11⟩) hHeld ?resttq11
        case hytq11 => (intro w' hSw; clear hSw; go_simp; try with_reducible rfl)
        try simp only [List.getElem_toArray, List.getElem_cons_succ, List.getElem_cons_zero, Act.put, List.setIfInBounds_toArray, List.set_cons_zero, List.set_cons_succ]
        refine wpAnyH_take (i := 12) (v := ?vatq12) rfl (by kernel_rfl) (by kernel_rfl) (by kernel_rfl) (fun _ _ _ h => h) (Or.inl ⟨by rfl, ?hytq12⟩) hHeld ?resttq12
        case hytq12 => (intro w' hSw; clear hSw; go_simp; try with_reducible rfl)
        try simp only [List.getElem_toArray, List.getElem_cons_succ, List.getElem_cons_zero, Act.put, List.setIfInBounds_toArray, List.set_cons_zero, List.set_cons_succ]
        refine wpAnyH_take (i := 13) (v := ?vatq13) rfl (by kernel_rfl) (by kernel_rfl) (by kernel_rfl) (fun _ _ _ h => h) (Or.inl ⟨by rfl, ?hytq13⟩) hHeld ?resttq13
        case hytq13 => (intro w' hSw; obtain ⟨q0, q1, q2, -⟩ := MAt.c hSw; clear hSw; go_simp; try with_reducible rfl)
        try simp only [List.getElem_toArray, List.getElem_cons_succ, List.getElem_cons_zero, Act.put, List.setIfInBounds_toArray, List.set_cons_zero, List.set_cons_succ]
        refine wpAnyH_one (i := 9) (by kernel_rfl) rfl (fun K hK => ?_)
        go_simp
        refine hpw.mono ?_
        clear hpw
        rintro e W6 ⟨rfl, rfl⟩
        refine hK _ _ hHeld ?_
        clear hK K
        try simp only [List.getElem_toArray, List.getElem_cons_succ, List.getElem_cons_zero, Act.put, List.setIfInBounds_toArray, List.set_cons_zero, List.set_cons_succ]
        refine wpAnyH_take (i := 14) (v := ?vatq14) rfl (by kernel_rfl) (by kernel_rfl) (by kernel_rfl) (fun _ _ _ h => h) (Or.inl ⟨by rfl, ?hytq14⟩) hHeld ?resttq14
        case hytq14 => (intro w' hSw; clear hSw; go_simp; try with_reducible rfl)
        try simp only [List.getElem_toArray, List.getElem_cons_succ, List.getElem_cons_zero, Act.put, List.setIfInBounds_toArray, List.set_cons_zero, List.set_cons_succ]
        refine wpAnyH_take (i := 15) (v := ?vatq15) rfl (by kernel_rfl) (by kernel_rfl) (by kernel_rfl) (fun _ _ _ h => h) (Or.inl ⟨by rfl, ?hytq15⟩) hHeld ?resttq15
        case hytq15 => (intro w' hSw; clear hSw; go_simp; try with_reducible rfl)
        try simp only [List.getElem_toArray, List.getElem_cons_succ, List.getElem_cons_zero, Act.put, List.setIfInBounds_toArray, List.set_cons_zero, List.set_cons_succ]
        refine wpAnyH_done (by kernel_rfl) ?_ _
        try simp only [List.getElem_toArray, List.getElem_cons_succ, List.getElem_cons_zero, Act.put, List.setIfInBounds_toArray, List.set_cons_zero, List.set_cons_succ]
        clear hYY hYN hOO hOO2 NM HX A
        go_wp2
        go_roundg (l.length - (i + 1))
        case measure => omega
        case rel => exact ⟨i + 1, sX, b, off0, cX, by go_num, by omega, Nat.le_refl _, HXd.out⟩
      have hB1 := beq_no hB
      have hB2 := beqL_no hB
      have hB3 := decide_eq_false hB
      have hB4 : (kk.toList == [99, 117, 116]) = false := by have q := hB2; rw [ByteArray.toList_eq, ByteArray.toList_eq] at q; rw [ByteArray.toList_eq]; exact q
      by_cases hC : kk = ⟨#[111, 110]⟩
      · obtain ⟨B0, off0, wt0, lf0⟩ := st
        have hon : Calls Tryz.prog 41 #[.pointer (some ⟨d, 0, none⟩)] V fun e w' => (∃ x, e = .returned x) ∧ Aside (TwoAt S D ad w1 d m (B0, false, false, lf0) b off cut w') := by
          refine (on_any V HQ.out.2.1).mono (fun e w' q => ⟨q.1, ?_⟩)
          exact HV.out.1.wrote HQ.out.2.2.1 HQ.out.2.2.2 ⟨v, q.2.out.1, q.2.out.2.mono (fun k _ e => .inl e), fun g hg => .inl hg⟩
        have HRL2 : Aside (RelD (B0, false, false, lf0) (b.data.toList, false, -1) ∧ b.data.toList.length ≤ 65536) := ⟨⟨A.out.2.1.1, rfl, .inr (.inl ⟨rfl, rfl, rfl⟩)⟩, A.out.2.2⟩
        subst hC
        clear hVd N0
        go_wp2_with fail
        refine hon.mono ?_
        clear hon q0 q1 q2 q3 q4 q5 q6 q7 q8 q9 qf
        rintro e W1 ⟨⟨x, rfl⟩, H1⟩
        obtain ⟨c0, c1, c2, cf⟩ := H1.out.mem.c
        obtain ⟨W4, hW4⟩ : ∃ W4, Aside (W4 = (W1.setCell ⟨m, 1, none⟩ (.bool false)).setCell ⟨m, 2, none⟩ (.int .i64 (-1))) := ⟨_, rfl⟩
        have HX : Aside (TwoAt S D ad w1 d m (B0, false, false, lf0) b false (-1) W4 ∧ RelD (B0, false, false, lf0) (b.data.toList, false, -1) ∧ b.data.toList.length ≤ 65536) := by
          have h1 := H1.out.mem.set1 false
          have h2 := h1.1.set2 (-1) ⟨by omega, by omega⟩
          refine ⟨?_, HRL2.out.1, HRL2.out.2⟩
          rw [hW4.out]
          exact H1.out.told (h1.2.trans h2.2) h2.1
        clear H1 HRL2
        go_upto_region 29 with fail
        rw [← hW4.out]
        clear c0 c1 c2 cf
        obtain ⟨u4, hu4⟩ : ∃ u4, u4 = W4 := ⟨_, rfl⟩
        have hby := two_bytes HX.out.1 HX.out.2.1
        have hpw := two_power HX.out.1 HX.out.2.1
        have hYY := beq_yes b
        have hYN : (b != b) = false := by show (!(b == b)) = false; rw [hYY]; rfl
        have hOO : ((!false) == false) = false := by first | rfl | (cases false <;> rfl)
        have hOO2 : (!false == false) = false := by first | rfl | (cases false <;> rfl)
        have NM : MAt W4.drew m b false (-1) := HX.out.1.mem.later ((Below.refl _ W4).drew)
        have HXd : Aside (TwoAt S D ad w1 d m (B0, false, false, lf0) b false (-1) W4.drew ∧ RelD (B0, false, false, lf0) (b.data.toList, false, (-1)) ∧ b.data.toList.length ≤ 65536) := ⟨HX.out.1.later ((Below.refl _ W4).drew), HX.out.2.1, HX.out.2.2⟩
        go_upto_region 29 with fail
        refine wp_region_H (S := (fun w' => MAt w' m b false (-1))) (by kernel_rfl) NM (fun hHeld => ?_)
        refine wpAnyH_take (i := 0) (v := ?vatr0) rfl (by kernel_rfl) (by kernel_rfl) (by kernel_rfl) (fun _ _ _ h => h) (Or.inl ⟨by rfl, ?hytr0⟩) hHeld ?resttr0
        case hytr0 => (intro w' hSw; clear hSw; go_simp; try with_reducible rfl)
        try simp only [List.getElem_toArray, List.getElem_cons_succ, List.getElem_cons_zero, Act.put, List.setIfInBounds_toArray, List.set_cons_zero, List.set_cons_succ]
        refine wpAnyH_take (i := 2) (v := ?vatr2) rfl (by kernel_rfl) (by kernel_rfl) (by kernel_rfl) (fun _ _ _ h => h) (Or.inl ⟨by rfl, ?hytr2⟩) hHeld ?resttr2
        case hytr2 => (intro w' hSw; clear hSw; go_simp; try with_reducible rfl)
        try simp only [List.getElem_toArray, List.getElem_cons_succ, List.getElem_cons_zero, Act.put, List.setIfInBounds_toArray, List.set_cons_zero, List.set_cons_succ]
        refine wpAnyH_take (i := 3) (v := ?vatr3) rfl (by kernel_rfl) (by kernel_rfl) (by kernel_rfl) (fun _ _ _ h => h) (Or.inl ⟨by rfl, ?hytr3⟩) hHeld ?resttr3
        case hytr3 => (intro w' hSw; clear hSw; go_simp; try with_reducible rfl)
        try simp only [List.getElem_toArray, List.getElem_cons_succ, List.getElem_cons_zero, Act.put, List.setIfInBounds_toArray, List.set_cons_zero, List.set_cons_succ]
        refine wpAnyH_take (i := 4) (v := ?vatr4) rfl (by kernel_rfl) (by kernel_rfl) (by kernel_rfl) (fun _ _ _ h => h) (Or.inl ⟨by rfl, ?hytr4⟩) hHeld ?resttr4
        case hytr4 => (intro w' hSw; clear hSw; go_simp; try with_reducible rfl)
        try simp only [List.getElem_toArray, List.getElem_cons_succ, List.getElem_cons_zero, Act.put, List.setIfInBounds_toArray, List.set_cons_zero, List.set_cons_succ]
        refine wpAnyH_take (i := 5) (v := ?vatr5) rfl (by kernel_rfl) (by kernel_rfl) (by kernel_rfl) (fun _ _ _ h => h) (Or.inl ⟨by rfl, ?hytr5⟩) hHeld ?resttr5
        case hytr5 => (intro w' hSw; obtain ⟨q0, q1, q2, -⟩ := MAt.c hSw; clear hSw; go_simp; try with_reducible rfl)
        try simp only [List.getElem_toArray, List.getElem_cons_succ, List.getElem_cons_zero, Act.put, List.setIfInBounds_toArray, List.set_cons_zero, List.set_cons_succ]
        refine wpAnyH_one (i := 1) (by kernel_rfl) rfl (fun K hK => ?_)
        go_simp
        refine hby.mono ?_
        clear hby
        rintro e W5 ⟨rfl, rfl⟩
        refine hK _ _ hHeld ?_
        clear hK K
        try simp only [List.getElem_toArray, List.getElem_cons_succ, List.getElem_cons_zero, Act.put, List.setIfInBounds_toArray, List.set_cons_zero, List.set_cons_succ]
        refine wpAnyH_take (i := 6) (v := ?vatr6) rfl (by kernel_rfl) (by kernel_rfl) (by kernel_rfl) (fun _ _ _ h => h) (Or.inl ⟨by rfl, ?hytr6⟩) hHeld ?resttr6
        case hytr6 => (intro w' hSw; clear hSw; go_simp; try with_reducible rfl)
        try simp only [List.getElem_toArray, List.getElem_cons_succ, List.getElem_cons_zero, Act.put, List.setIfInBounds_toArray, List.set_cons_zero, List.set_cons_succ]
        refine wpAnyH_take (i := 7) (v := ?vatr7) rfl (by kernel_rfl) (by kernel_rfl) (by kernel_rfl) (fun _ _ _ h => h) (Or.inl ⟨by rfl, ?hytr7⟩) hHeld ?resttr7
        case hytr7 => (intro w' hSw; clear hSw; go_simp; try with_reducible rfl)
        try simp only [List.getElem_toArray, List.getElem_cons_succ, List.getElem_cons_zero, Act.put, List.setIfInBounds_toArray, List.set_cons_zero, List.set_cons_succ]
        refine wpAnyH_take (i := 8) (v := ?vatr8) rfl (by kernel_rfl) (by kernel_rfl) (by kernel_rfl) (fun _ _ _ h => h) (Or.inl ⟨by rfl, ?hytr8⟩) hHeld ?resttr8
        case hytr8 => (intro w' hSw; clear hSw; go_simp; try with_reducible rfl)
        try simp only [List.getElem_toArray, List.getElem_cons_succ, List.getElem_cons_zero, Act.put, List.setIfInBounds_toArray, List.set_cons_zero, List.set_cons_succ]
        refine wpAnyH_take (i := 10) (v := ?vatr10) rfl (by kernel_rfl) (by kernel_rfl) (by kernel_rfl) (fun _ _ _ h => h) (Or.inl ⟨by rfl, ?hytr10⟩) hHeld ?resttr10
        case hytr10 => (intro w' hSw; clear hSw; go_simp; try with_reducible rfl)
        try simp only [List.getElem_toArray, List.getElem_cons_succ, List.getElem_cons_zero, Act.put, List.setIfInBounds_toArray, List.set_cons_zero, List.set_cons_succ]
        refine wpAnyH_take (i := 11) (v := ?vatr11) rfl (by kernel_rfl) (by kernel_rfl) (by kernel_rfl) (fun _ _ _ h => h) (Or.inl ⟨by rfl, ?hytr11⟩) hHeld ?resttr11
        case hytr11 => (intro w' hSw; clear hSw; go_simp; try with_reducible rfl)
        try simp only [List.getElem_toArray, List.getElem_cons_succ, List.getElem_cons_zero, Act.put, List.setIfInBounds_toArray, List.set_cons_zero, List.set_cons_succ]
        refine wpAnyH_take (i := 12) (v := ?vatr12) rfl (by kernel_rfl) (by kernel_rfl) (by kernel_rfl) (fun _ _ _ h => h) (Or.inl ⟨by rfl, ?hytr12⟩) hHeld ?resttr12
        case hytr12 => (intro w' hSw; clear hSw; go_simp; try with_reducible rfl)
        try simp only [List.getElem_toArray, List.getElem_cons_succ, List.getElem_cons_zero, Act.put, List.setIfInBounds_toArray, List.set_cons_zero, List.set_cons_succ]
        refine wpAnyH_take (i := 13) (v := ?vatr13) rfl (by kernel_rfl) (by kernel_rfl) (by kernel_rfl) (fun _ _ _ h => h) (Or.inl ⟨by rfl, ?hytr13⟩) hHeld ?resttr13
        case hytr13 => (intro w' hSw; obtain ⟨q0, q1, q2, -⟩ := MAt.c hSw; clear hSw; go_simp; try with_reducible rfl)
        try simp only [List.getElem_toArray, List.getElem_cons_succ, List.getElem_cons_zero, Act.put, List.setIfInBounds_toArray, List.set_cons_zero, List.set_cons_succ]
        refine wpAnyH_one (i := 9) (by kernel_rfl) rfl (fun K hK => ?_)
        go_simp
        refine hpw.mono ?_
        clear hpw
        rintro e W6 ⟨rfl, rfl⟩
        refine hK _ _ hHeld ?_
        clear hK K
        try simp only [List.getElem_toArray, List.getElem_cons_succ, List.getElem_cons_zero, Act.put, List.setIfInBounds_toArray, List.set_cons_zero, List.set_cons_succ]
        refine wpAnyH_take (i := 14) (v := ?vatr14) rfl (by kernel_rfl) (by kernel_rfl) (by kernel_rfl) (fun _ _ _ h => h) (Or.inl ⟨by rfl, ?hytr14⟩) hHeld ?resttr14
        case hytr14 => (intro w' hSw; clear hSw; go_simp; try with_reducible rfl)
        try simp only [List.getElem_toArray, List.getElem_cons_succ, List.getElem_cons_zero, Act.put, List.setIfInBounds_toArray, List.set_cons_zero, List.set_cons_succ]
        refine wpAnyH_take (i := 15) (v := ?vatr15) rfl (by kernel_rfl) (by kernel_rfl) (by kernel_rfl) (fun _ _ _ h => h) (Or.inl ⟨by rfl, ?hytr15⟩) hHeld ?resttr15
        case hytr15 => (intro w' hSw; clear hSw; go_simp; try with_reducible rfl)
        try simp only [List.getElem_toArray, List.getElem_cons_succ, List.getElem_cons_zero, Act.put, List.setIfInBounds_toArray, List.set_cons_zero, List.set_cons_succ]
        refine wpAnyH_done (by kernel_rfl) ?_ _
        try simp only [List.getElem_toArray, List.getElem_cons_succ, List.getElem_cons_zero, Act.put, List.setIfInBounds_toArray, List.set_cons_zero, List.set_cons_succ]
        clear hYY hYN hOO hOO2 NM HX A
        go_wp2
        go_roundg (l.length - (i + 1))
        case measure => omega
        case rel => exact ⟨i + 1, (B0, false, false, lf0), b, false, (-1), by go_num, by omega, Nat.le_refl _, HXd.out⟩
      have hC1 := beq_no hC
      have hC2 := beqL_no hC
      have hC3 := decide_eq_false hC
      have hC4 : (kk.toList == [111, 110]) = false := by have q := hC2; rw [ByteArray.toList_eq, ByteArray.toList_eq] at q; rw [ByteArray.toList_eq]; exact q
      obtain ⟨T, hT⟩ : ∃ T, Aside (T = readL_ b.data.toList) := ⟨_, rfl⟩
      have hTl : T.1.length ≤ 65536 := by
        have h1 := (readA_le b.data.toList).2
        rw [← hT.out] at h1
        omega
      have hrc : Calls Tryz.prog 42 #[.pointer (some ⟨d, 0, none⟩)] V fun e w' => ∃ rv, e = .returned (.tuple #[rv, .nilIface]) ∧ Aside (TwoAt S D ad w1 d m (backSt st) b off cut w' ∧ w'.ownsRow V.heap.size 31 8 rv T.1.length (cellsOf T.1)) := by
        have e0 : st.1 = b.data.toList := A.out.2.1.1
        refine (recover_any V HQ.out.2.1 HV.out.1.env HQ.out.2.2.1 (by rw [e0]; exact A.out.2.2)).mono (fun e w' q => ?_)
        obtain ⟨rv, he, q⟩ := q
        have q' := q.out
        rw [e0, ← hT.out] at q'
        exact ⟨rv, he, HV.out.1.wrote HQ.out.2.2.1 HQ.out.2.2.2 q'.1, q'.2.1⟩
      have HRL2 : Aside (RelD (backSt st) (b.data.toList.take T.2, false, -1) ∧ b.data.toList.length ≤ 65536) := by
        refine ⟨?_, A.out.2.2⟩
        have h1 := A.out.2.1.back
        dsimp only at h1
        rw [← hT.out] at h1
        exact h1
      clear hVd N0
      go_wp2_with fail
      refine hrc.mono ?_
      clear hrc q0 q1 q2 q3 q4 q5 q6 q7 q8 q9 qf
      rintro e W1 ⟨rv, rfl, H1⟩
      have hmr := mrecover_any W1 H1.out.1.mem hbz
      rw [← hT.out] at hmr
      go_wp2_with fail
      refine hmr.mono ?_
      clear hmr
      rintro e W2 ⟨rw2, F, rfl, H2⟩
      have H2b : Aside (TwoAt S D ad w1 d m (backSt st) F false (-1) W2 ∧ RelD (backSt st) (F.data.toList, false, -1) ∧ F.data.toList.length ≤ 65536) := by
        refine ⟨H1.out.1.told H2.out.2.2.2 H2.out.2.1, by rw [H2.out.1]; exact HRL2.out.1, ?_⟩
        rw [H2.out.1, List.length_take]
        have := HRL2.out.2
        omega
      have hrow : W2.ownsRow V.heap.size 31 8 rv T.1.length (cellsOf T.1) := ownsJ H1.out.2 (fun g hg => H2.out.2.2.2.block g (H1.out.2.lt g hg).2 (fun e => by have := (H1.out.2.lt g hg).1; have := HV.out.1.mem.lt; omega))
      have hsm := sameJ W2 rv rw2 T.1 (ownsOps hrow) (ownsOps H2.out.2.2.1) (by omega)
      clear hrow H1 H2 HRL2
      go_wp2_with fail
      refine hsm.mono ?_
      clear hsm
      rintro e W4 ⟨rfl, hb4⟩
      have HX : Aside (TwoAt S D ad w1 d m (backSt st) F false (-1) W4 ∧ RelD (backSt st) (F.data.toList, false, -1) ∧ F.data.toList.length ≤ 65536) := ⟨H2b.out.1.later hb4, H2b.out.2⟩
      clear hb4 H2b
      obtain ⟨u4, hu4⟩ : ∃ u4, u4 = W4 := ⟨_, rfl⟩
      have hby := two_bytes HX.out.1 HX.out.2.1
      have hpw := two_power HX.out.1 HX.out.2.1
      have hYY := beq_yes F
      have hYN : (F != F) = false := by show (!(F == F)) = false; rw [hYY]; rfl
      have hOO : ((!false) == false) = false := by first | rfl | (cases false <;> rfl)
      have hOO2 : (!false == false) = false := by first | rfl | (cases false <;> rfl)
      have NM : MAt W4.drew m F false (-1) := HX.out.1.mem.later ((Below.refl _ W4).drew)
      have HXd : Aside (TwoAt S D ad w1 d m (backSt st) F false (-1) W4.drew ∧ RelD (backSt st) (F.data.toList, false, (-1)) ∧ F.data.toList.length ≤ 65536) := ⟨HX.out.1.later ((Below.refl _ W4).drew), HX.out.2.1, HX.out.2.2⟩
      go_upto_region 29 with fail
      refine wp_region_H (S := (fun w' => MAt w' m F false (-1))) (by kernel_rfl) NM (fun hHeld => ?_)
      refine wpAnyH_take (i := 0) (v := ?vats0) rfl (by kernel_rfl) (by kernel_rfl) (by kernel_rfl) (fun _ _ _ h => h) (Or.inl ⟨by rfl, ?hyts0⟩) hHeld ?restts0
      case hyts0 => (intro w' hSw; clear hSw; go_simp; try with_reducible rfl)
      try simp only [List.getElem_toArray, List.getElem_cons_succ, List.getElem_cons_zero, Act.put, List.setIfInBounds_toArray, List.set_cons_zero, List.set_cons_succ]
      refine wpAnyH_take (i := 2) (v := ?vats2) rfl (by kernel_rfl) (by kernel_rfl) (by kernel_rfl) (fun _ _ _ h => h) (Or.inl ⟨by rfl, ?hyts2⟩) hHeld ?restts2
      case hyts2 => (intro w' hSw; clear hSw; go_simp; try with_reducible rfl)
      try simp only [List.getElem_toArray, List.getElem_cons_succ, List.getElem_cons_zero, Act.put, List.setIfInBounds_toArray, List.set_cons_zero, List.set_cons_succ]
      refine wpAnyH_take (i := 3) (v := ?vats3) rfl (by kernel_rfl) (by kernel_rfl) (by kernel_rfl) (fun _ _ _ h => h) (Or.inl ⟨by rfl, ?hyts3⟩) hHeld ?restts3
      case hyts3 => (intro w' hSw; clear hSw; go_simp; try with_reducible rfl)
      try simp only [List.getElem_toArray, List.getElem_cons_succ, List.getElem_cons_zero, Act.put, List.setIfInBounds_toArray, List.set_cons_zero, List.set_cons_succ]
      refine wpAnyH_take (i := 4) (v := ?vats4) rfl (by kernel_rfl) (by kernel_rfl) (by kernel_rfl) (fun _ _ _ h => h) (Or.inl ⟨by rfl, ?hyts4⟩) hHeld ?restts4
      case hyts4 => (intro w' hSw; clear hSw; go_simp; try with_reducible rfl)
      try simp only [List.getElem_toArray, List.getElem_cons_succ, List.getElem_cons_zero, Act.put, List.setIfInBounds_toArray, List.set_cons_zero, List.set_cons_succ]
      refine wpAnyH_take (i := 5) (v := ?vats5) rfl (by kernel_rfl) (by kernel_rfl) (by kernel_rfl) (fun _ _ _ h => h) (Or.inl ⟨by rfl, ?hyts5⟩) hHeld ?restts5
      case hyts5 => (intro w' hSw; obtain ⟨q0, q1, q2, -⟩ := MAt.c hSw; clear hSw; go_simp; try with_reducible rfl)
      try simp only [List.getElem_toArray, List.getElem_cons_succ, List.getElem_cons_zero, Act.put, List.setIfInBounds_toArray, List.set_cons_zero, List.set_cons_succ]
      refine wpAnyH_one (i := 1) (by kernel_rfl) rfl (fun K hK => ?_)
      go_simp
      refine hby.mono ?_
      clear hby
      rintro e W5 ⟨rfl, rfl⟩
      refine hK _ _ hHeld ?_
      clear hK K
      try simp only [List.getElem_toArray, List.getElem_cons_succ, List.getElem_cons_zero, Act.put, List.setIfInBounds_toArray, List.set_cons_zero, List.set_cons_succ]
      refine wpAnyH_take (i := 6) (v := ?vats6) rfl (by kernel_rfl) (by kernel_rfl) (by kernel_rfl) (fun _ _ _ h => h) (Or.inl ⟨by rfl, ?hyts6⟩) hHeld ?restts6
      case hyts6 => (intro w' hSw; clear hSw; go_simp; try with_reducible rfl)
      try simp only [List.getElem_toArray, List.getElem_cons_succ, List.getElem_cons_zero, Act.put, List.setIfInBounds_toArray, List.set_cons_zero, List.set_cons_succ]
      refine wpAnyH_take (i := 7) (v := ?vats7) rfl (by kernel_rfl) (by kernel_rfl) (by kernel_rfl) (fun _ _ _ h => h) (Or.inl ⟨by rfl, ?hyts7⟩) hHeld ?restts7
      case hyts7 => (intro w' hSw; clear hSw; go_simp; try with_reducible rfl)
      try simp only [List.getElem_toArray, List.getElem_cons_succ, List.getElem_cons_zero, Act.put, List.setIfInBounds_toArray, List.set_cons_zero, List.set_cons_succ]
      refine wpAnyH_take (i := 8) (v := ?vats8) rfl (by kernel_rfl) (by kernel_rfl) (by kernel_rfl) (fun _ _ _ h => h) (Or.inl ⟨by rfl, ?hyts8⟩) hHeld ?restts8
      case hyts8 => (intro w' hSw; clear hSw; go_simp; try with_reducible rfl)
      try simp only [List.getElem_toArray, List.getElem_cons_succ, List.getElem_cons_zero, Act.put, List.setIfInBounds_toArray, List.set_cons_zero, List.set_cons_succ]
      refine wpAnyH_take (i := 10) (v := ?vats10) rfl (by kernel_rfl) (by kernel_rfl) (by kernel_rfl) (fun _ _ _ h => h) (Or.inl ⟨by rfl, ?hyts10⟩) hHeld ?restts10
      case hyts10 => (intro w' hSw; clear hSw; go_simp; try with_reducible rfl)
      try simp only [List.getElem_toArray, List.getElem_cons_succ, List.getElem_cons_zero, Act.put, List.setIfInBounds_toArray, List.set_cons_zero, List.set_cons_succ]
      refine wpAnyH_take (i := 11) (v := ?vats11) rfl (by kernel_rfl) (by kernel_rfl) (by kernel_rfl) (fun _ _ _ h => h) (Or.inl ⟨by rfl, ?hyts11⟩) hHeld ?restts11
      case hyts11 => (intro w' hSw; clear hSw; go_simp; try with_reducible rfl)
      try simp only [List.getElem_toArray, List.getElem_cons_succ, List.getElem_cons_zero, Act.put, List.setIfInBounds_toArray, List.set_cons_zero, List.set_cons_succ]
      refine wpAnyH_take (i := 12) (v := ?vats12) rfl (by kernel_rfl) (by kernel_rfl) (by kernel_rfl) (fun _ _ _ h => h) (Or.inl ⟨by rfl, ?hyts12⟩) hHeld ?restts12
      case hyts12 => (intro w' hSw; clear hSw; go_simp; try with_reducible rfl)
      try simp only [List.getElem_toArray, List.getElem_cons_succ, List.getElem_cons_zero, Act.put, List.setIfInBounds_toArray, List.set_cons_zero, List.set_cons_succ]
      refine wpAnyH_take (i := 13) (v := ?vats13) rfl (by kernel_rfl) (by kernel_rfl) (by kernel_rfl) (fun _ _ _ h => h) (Or.inl ⟨by rfl, ?hyts13⟩) hHeld ?restts13
      case hyts13 => (intro w' hSw; obtain ⟨q0, q1, q2, -⟩ := MAt.c hSw; clear hSw; go_simp; try with_reducible rfl)
      try simp only [List.getElem_toArray, List.getElem_cons_succ, List.getElem_cons_zero, Act.put, List.setIfInBounds_toArray, List.set_cons_zero, List.set_cons_succ]
      refine wpAnyH_one (i := 9) (by kernel_rfl) rfl (fun K hK => ?_)
      go_simp
      refine hpw.mono ?_
      clear hpw
      rintro e W6 ⟨rfl, rfl⟩
      refine hK _ _ hHeld ?_
      clear hK K
      try simp only [List.getElem_toArray, List.getElem_cons_succ, List.getElem_cons_zero, Act.put, List.setIfInBounds_toArray, List.set_cons_zero, List.set_cons_succ]
      refine wpAnyH_take (i := 14) (v := ?vats14) rfl (by kernel_rfl) (by kernel_rfl) (by kernel_rfl) (fun _ _ _ h => h) (Or.inl ⟨by rfl, ?hyts14⟩) hHeld ?restts14
      case hyts14 => (intro w' hSw; clear hSw; go_simp; try with_reducible rfl)
      try simp only [List.getElem_toArray, List.getElem_cons_succ, List.getElem_cons_zero, Act.put, List.setIfInBounds_toArray, List.set_cons_zero, List.set_cons_succ]
      refine wpAnyH_take (i := 15) (v := ?vats15) rfl (by kernel_rfl) (by kernel_rfl) (by kernel_rfl) (fun _ _ _ h => h) (Or.inl ⟨by rfl, ?hyts15⟩) hHeld ?restts15
      case hyts15 => (intro w' hSw; clear hSw; go_simp; try with_reducible rfl)
      try simp only [List.getElem_toArray, List.getElem_cons_succ, List.getElem_cons_zero, Act.put, List.setIfInBounds_toArray, List.set_cons_zero, List.set_cons_succ]
      refine wpAnyH_done (by kernel_rfl) ?_ _
      try simp only [List.getElem_toArray, List.getElem_cons_succ, List.getElem_cons_zero, Act.put, List.setIfInBounds_toArray, List.set_cons_zero, List.set_cons_succ]
      clear hYY hYN hOO hOO2 NM HX A
      go_wp2
      go_roundg (l.length - (i + 1))
      case measure => omega
      case rel => exact ⟨i + 1, (backSt st), F, false, (-1), by go_num, by omega, Nat.le_refl _, HXd.out⟩
    · have d1 : decide ((i : Int) < (l.length : Int)) = false := by simp; omega
      have d1n : decide (i < l.length) = false := by simp; omega
      have hbl : b.data.toList.length = b.size := by simp
      have hbz : b.size ≤ 65536 := by have := A.out.2.2; omega
      have hj := jread_any b u A.out.1.env (by omega)
      unfold ReadOut at hj
      obtain ⟨T, hT⟩ : ∃ T, Aside (T = readL_ b.data.toList) := ⟨_, rfl⟩
      rw [← hT.out] at hj
      have hTl : T.1.length ≤ 65536 := by
        have h1 := (readA_le b.data.toList).2
        rw [← hT.out] at h1
        omega
      obtain ⟨k, hk⟩ : ∃ k, Aside (k = T.2) := ⟨_, rfl⟩
      rw [← hk.out] at hj
      obtain ⟨c0, c1, c2, cf⟩ := A.out.1.mem.c
      go_wp2_with fail
      refine hj.mono ?_
      clear hj c0 c1 c2 cf
      rintro e W1 ⟨v1, rfl, H1⟩
      obtain ⟨c0, c1, c2, cf⟩ := (A.out.1.mem.later H1.out.2).c
      have hr := rread_any b W1 (by omega)
      unfold ReadOut at hr
      rw [← hT.out, ← hk.out] at hr
      go_wp2_with fail
      refine hr.mono ?_
      clear hr c0 c1 c2 cf
      rintro e W2 ⟨v2, rfl, H2⟩
      have hsm := sameJ W2 v1 v2 T.1 (ownsOps (ownsJ H1.out.1 (fun g hg => H2.out.2.block g (H1.out.1.lt g hg).2))) (ownsOps H2.out.1) (by omega)
      have HB : Aside (Below u.heap.size u W2) := H1.out.2.trans (H2.out.2.mono H1.out.2.size)
      clear H1 H2
      go_wp2_with fail
      refine hsm.mono ?_
      clear hsm
      rintro e W3 ⟨rfl, hb3⟩
      have HF : Aside (Below w.heap.size w W3) := by
        have h1 := HB.out.trans (hb3.mono HB.out.size)
        have h2 := A.out.1.below.trans (h1.mono A.out.1.env.size)
        rw [hS.out] at h2
        exact HB1.out.trans (h2.mono HB1.out.size)
      clear hb3 HB A
      go_wp2
      go_ret
      exact ⟨rfl, HF.out⟩
end Go.Proofs.YtcggmagdndhkbaaGreatDoor
end
