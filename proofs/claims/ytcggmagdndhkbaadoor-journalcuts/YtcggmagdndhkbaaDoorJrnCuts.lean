/- The law JournalCuts, over the translation's body. -/
import Derived.Test.YtcggmagdndhkbaaDoorJrnNoted
set_option linter.unusedVariables false
set_option linter.unusedSimpArgs false
namespace Go.Proofs.YtcggmagdndhkbaaDoor
open Go Go.RowKit Go.Lib Go.Sort

def xZ : OpX := (9, 0, 1, 109, 36, 0, ⟨#[122]⟩, ⟨#[]⟩)
theorem errZ : errJ xZ = 0 := by decide
/-- A disk and a row of operations have no block together. -/
theorem sepJ {w : World} {d : Nat} {v : Value} {st : DSt} {base n : Nat} {ov : Value} {xs : List Value} (hd : DiskAt w d v st) (hr : w.ownsRow base 35 8 ov n xs) : ∀ g, ov.ownBlock = some g → ¬ OwnD d v g := by
  intro g hg ho
  have hgb : ∃ cur fr, w.heap[g]? = some (.cells cur 35 fr) := by
    rcases hr.2 with ⟨rfl, _⟩ | ⟨g', cap, cur, rfl, _, h, _⟩
    · cases hg
    · cases hg
      exact ⟨cur, _, h⟩
  obtain ⟨cur, fr, h1⟩ := hgb
  rcases ho with rfl | ho
  · rw [hd.cell] at h1
    cases h1
  · obtain ⟨g2, cap, cur2, fr2, rfl, h2, _⟩ := hd.row
    cases ho
    rw [h2] at h1
    cases h1
/-- Behind some acts: what is done, and the disk. -/
structure CutSt (S : Nat) (ad : Nat → Addr) (w1 : World) (d : Nat) (dn : List OpX) (ov : Value) (st : DSt) (wr : World) : Prop where
  disk : ∃ v, DiskAt wr d v st ∧ ∀ k, OwnD d v k → S ≤ k
  row : wr.ownsRow S 35 8 ov dn.length (cellsOf dn)
  inv : DInv st dn
  below : Below S w1 wr
  env : EnvJ S ad wr
theorem CutSt.app {S : Nat} {ad : Nat → Addr} {w1 : World} {d : Nat} {dn : List OpX} {ov v : Value} {st st' : DSt} {wr w' : World} (h : CutSt S ad w1 d dn ov st wr) (hd : DiskAt wr d v st) (hO : ∀ k, OwnD d v k → S ≤ k) (hw : WroteD d v wr st' w') : (∃ v', DiskAt w' d v' st' ∧ ∀ k, OwnD d v' k → S ≤ k) ∧ w'.ownsRow S 35 8 ov dn.length (cellsOf dn) ∧ Below S w1 w' ∧ EnvJ S ad w' := by
  obtain ⟨v', h1, h2, h3⟩ := hw.own h.env.size hO
  have hb := hw.below h.env.size hO
  exact ⟨⟨v', h1, h2⟩, ownsJ h.row (fun g hg => h3.block g (h.row.lt g hg).2 (sepJ hd h.row g hg)), h.below.trans hb, h.env.mono hb⟩
set_option maxRecDepth 100000 in
set_option maxHeartbeats 8000000 in
theorem cuts_law {B : Nat} {ad : Nat → Addr} (w : World) (la : Option Addr) (lc : Nat) (l : List OpX) (cut : Int) (hE : EnvJ B ad w) (hin : OpsIn w la l) (hl : l.length < 9223372036854775808) (hc : cut ≤ 9223372036854775807) :
    Calls Tryd.prog 3 #[.slice la l.length lc, .int .i64 cut] w fun e w' => e = .returned (.bool true) ∧ Below w.heap.size w w' := by
  have hnt := noted_any w hE
  have HE : Aside (EnvJ w.heap.size ad w ∧ OpsIn w la l) := ⟨hE.up hE.size (Nat.le_refl _), hin⟩
  clear hE hin
  go_enter Tryd.func3, Tryd.ntmps3
  go_wp2_with fail
  refine hnt.mono ?_
  clear hnt
  rintro e w1 ⟨rfl, hb1⟩
  have HB1 : Aside (Below w.heap.size w w1) := hb1
  have hlg := longN 60 w1 la lc l (HE.out.2.later hb1) hl
  clear hb1
  go_wp2_with fail
  refine hlg.mono ?_
  clear hlg
  rintro e w2 ⟨he, rfl⟩
  rcases he with rfl | ⟨rfl, hl60, hshort⟩
  · go_wp2
    go_ret
    exact ⟨rfl, HB1.out⟩
  by_cases h0 : cut < 0
  · have d0 : decide (cut < 0) = true := by simp; omega
    go_wp2
    go_ret
    exact ⟨rfl, HB1.out⟩
  have d0 : decide (cut < 0) = false := by simp; omega
  have hnew := newDisk_any ⟨#[]⟩ w2 (by show (0 : Nat) ≤ 65536; omega)
  go_wp2_with fail
  refine hnew.mono ?_
  clear hnew d0
  rintro e w3 ⟨d, v0, rfl, H3⟩
  obtain ⟨S, hS⟩ : ∃ S, Aside (S = w2.heap.size) := ⟨_, rfl⟩
  have hE2 : EnvJ S ad w2 := by
    have h1 := HE.out.1.mono HB1.out
    have h2 := h1.up HB1.out.size (Nat.le_refl _)
    rw [hS.out]
    exact h2
  have H3' : DiskAt w3 d v0 ([], false, false, 0) ∧ Below S w2 w3 ∧ ∀ k, OwnD d v0 k → S ≤ k := by rw [hS.out]; exact H3.out
  have hct := cut_any w3 cut H3'.1 (hE2.mono H3'.2.1).here.errd hc
  have ec : cutE false cut = 0 := by unfold cutE; rw [if_neg (by omega)]; rfl
  have es : cutSt ([], false, false, 0) cut = ([], false, true, cut) := by unfold cutSt; dsimp only; rw [if_pos ec]
  rw [ec, es, show eV ad 0 = .nilIface from rfl] at hct
  have HD3 : Aside (DiskAt w3 d v0 ([], false, false, 0) ∧ Below S w2 w3 ∧ (∀ k, OwnD d v0 k → S ≤ k) ∧ EnvJ S ad w3) := ⟨H3'.1, H3'.2.1, H3'.2.2, hE2.mono H3'.2.1⟩
  clear ec es H3 H3' hE2
  go_wp2_with fail
  refine hct.mono ?_
  clear hct
  rintro e w4 ⟨rfl, H4⟩
  have HC4 : Aside (CutSt S ad w2 d [] (.slice none 0 0) ([], false, true, cut) w4) := by
    have hb4 : Below S w3 w4 := H4.out.2.below HD3.out.2.2.2.size (fun k e => by rw [e]; exact HD3.out.2.2.1 d (.inl rfl))
    exact ⟨⟨v0, H4.out.1, HD3.out.2.2.1⟩, World.ownsRow_nil _ _ _ _, ⟨fun x hx => by simp at hx, .inl ⟨rfl, rfl, rfl⟩⟩, HD3.out.2.1.trans hb4, HD3.out.2.2.2.mono hb4⟩
  have HIN : Aside (∀ W, Below S w2 W → OpsIn W la l) := fun W hW => by
    rw [hS.out] at hW
    exact (HE.out.2.later HB1.out).later hW
  have HSH : Aside (∀ x ∈ l, Short x) := fun x hx => by
    obtain ⟨j, hj, rfl⟩ := List.mem_iff_getElem.1 hx
    have := hshort j hj
    rwa [getElem!_pos l j hj] at this
  obtain ⟨i0, hi0, hz0, hz1, hz2⟩ := info_parts infoOp
  clear H4 HD3 hshort
  go_wp2
  go_loopg [8, 9] l.length (fun kx s8 s9 wr => ∃ (i : Nat) (dn : List OpX) (ov : Value) (st : DSt), ov = s8 ∧ s9 = .int .i64 (i : Int) ∧ i ≤ l.length ∧ l.length - i ≤ kx ∧ dn.length ≤ i ∧ Aside (CutSt S ad w2 d dn ov st wr))
  case atStart => exact ⟨0, [], _, _, rfl, rfl, Nat.zero_le _, Nat.le_refl _, Nat.le_refl _, HC4.out⟩
  case round =>
    obtain ⟨i, dn, ov, st, rfl, rfl, hi, hix, hdn, A⟩ := hrel
    clear HC4
    obtain ⟨u, hu⟩ : ∃ u, u = wr := ⟨_, rfl⟩
    subst hu
    by_cases hlt : i < l.length
    · have d1 : decide ((i : Int) < (l.length : Int)) = true := by simp; omega
      have d1n : decide (i < l.length) = true := by simp; omega
      obtain ⟨x, hx⟩ : ∃ x, Aside (l[i]? = some x) := ⟨l[i], List.getElem?_eq_getElem hlt⟩
      obtain ⟨v, hD, hO⟩ := A.out.disk
      have hsh := HSH.out x (List.mem_of_getElem? hx.out)
      have happ := append_any u x hD A.out.env hO (by have := hsh.1; omega) (by have := hsh.2; omega) (by have := A.out.inv.len; omega)
      obtain ⟨cd, sx, hcs⟩ : ∃ cd sx, Aside (appE st x = (cd, sx)) := ⟨(appE st x).1, (appE st x).2, rfl⟩
      rw [hcs.out] at happ
      dsimp only at happ
      have happ2 : Calls Tryd.prog 9 #[.pointer (some ⟨d, 0, none⟩), encJ x] u fun e w' => e = .returned (eV ad cd) ∧ Aside ((∃ v', DiskAt w' d v' sx ∧ ∀ k, OwnD d v' k → S ≤ k) ∧ w'.ownsRow S 35 8 ov dn.length (cellsOf dn) ∧ Below S w2 w' ∧ EnvJ S ad w') := happ.mono (fun e w' q => ⟨q.1, A.out.app hD hO q.2.out⟩)
      have HST : Aside ((cd = 0 → DInv sx (dn ++ [x])) ∧ (cd ≠ 0 → DInv sx dn)) := by
        have := A.out.inv.step hD.left.1 x
        rw [hcs.out] at this
        exact this
      obtain ⟨b1, o1, e1, E1⟩ := (HIN.out u A.out.below).one hx.out
      have HE1 : Aside (∀ W, Below S w2 W → OneAt W la i x) := fun W hW => (HIN.out W hW).one hx.out
      obtain ⟨t, b', n, kd, nd, o, s, vl⟩ := x
      dsimp only at E1
      unfold encJ at happ2
      dsimp only at happ2
      subst e1
      have wi : ((i : Int)).toNat = i := by omega
      have pi : (0 : Int) ≤ (i : Int) := by omega
      have bi : (i : Int) < (l.length : Int) := by omega
      obtain ⟨q0, q1, q2, q3, q4, q5, q6, q7⟩ := E1
      clear hD hO hsh happ
      go_wp2_with fail
      refine happ2.mono ?_
      clear happ2 q0 q1 q2 q3 q4 q5 q6 q7
      rintro e w5 ⟨rfl, H5⟩
      by_cases hcd : cd = 0
      · subst hcd
        rw [show eV ad 0 = .nilIface from rfl]
        obtain ⟨b2, o2, e2, E2⟩ := HE1.out w5 H5.out.2.2.1
        cases e2
        obtain ⟨q0, q1, q2, q3, q4, q5, q6, q7⟩ := E2
        dsimp only at q0 q1 q2 q3 q4 q5 q6 q7
        go_wp2_with (at_builtin; refine wpList_append_own _ rfl _ _ 22 rfl S 35 i0 _ 8 80 Tryd.underlying22 hi0 hz0 hz1 hz2 rfl (by omega) _ _ _ rfl (H5.out.2.1.alloc _) ⟨w5.heap.size, 0, none⟩ 1 1 (encX (t, b', n, kd, nd, o, s, vl)) rfl ?qc1 ?qc2 ?qc3 ?qc4 ?qc5 ?qc6 ?_)
        case qc1 => rfl
        case qc2 => first | exact litJ w5 (t, b', n, kd, nd, o, s, vl) | exact fun j u h => h
        case qc3 => exact oneJ _
        case qc4 => simp only [maxLen]; omega
        case qc5 => omega
        case qc6 => have := H5.out.2.2.2.size; first | omega | (simp; omega)
        intro v' w6 hown hgrow hnil
        have HN : Aside (CutSt S ad w2 d (dn ++ [(t, b', n, kd, nd, o, s, vl)]) v' sx w6) := by
          obtain ⟨⟨vd, hDd, hOd⟩, hrow, hbw, henv⟩ := H5.out
          have hbA : Below w5.heap.size w5 (w5.alloc (.cells #[.int .i64 t, .int .i64 b', .int .i64 n, .int .u8 (kd : Int), .int .i64 nd, .int .i64 o, .string s, .string vl] 35)) := (Below.refl _ w5).alloc (Nat.le_refl _) _
          have K6 := keeps_of_grown hgrow
          have hlow : ∀ g, some g = ov.ownBlock → S ≤ g := fun g hg => (hrow.lt g hg.symm).1
          have hb6 : Below S w5 w6 := (hbA.mono henv.size).trans (K6.below (Nat.le_trans henv.size hbA.size) hlow)
          refine ⟨⟨vd, (hDd.later hbA).same (fun k hk => K6.block k ((hDd.later hbA).own_lt hk) (fun e => sepJ hDd hrow k e.symm hk)), hOd⟩, ?_, HST.out.1 (by first | rfl | trivial), hbw.trans hb6, henv.mono hb6⟩
          rw [cells_snoc, List.length_append]
          exact hown
        have hlen : (dn ++ [(t, b', n, kd, nd, o, s, vl)]).length ≤ i + 1 := by simp; omega
        have HLN := Lib.hid hlen
        clear hown hgrow hnil q0 q1 q2 q3 q4 q5 q6 q7 hlen H5 A HST
        go_wp2
        go_roundg (l.length - (i + 1))
        case measure => omega
        case rel => exact ⟨i + 1, _, _, sx, rfl, by go_num, by omega, Nat.le_refl _, HLN.out, HN.out⟩
      · have hev : eV ad cd = .iface 127 (.pointer (some (ad (cd - 1)))) := if_neg hcd
        have HN : Aside (CutSt S ad w2 d dn ov sx w5) := ⟨H5.out.1, H5.out.2.1, HST.out.2 hcd, H5.out.2.2.1, H5.out.2.2.2⟩
        rw [hev]
        clear hev hcd H5 A HST
        go_wp2
        go_roundg (l.length - (i + 1))
        case measure => omega
        case rel => exact ⟨i + 1, dn, _, sx, rfl, by go_num, by omega, Nat.le_refl _, by omega, HN.out⟩
    · have d1 : decide ((i : Int) < (l.length : Int)) = false := by simp; omega
      have d1n : decide (i < l.length) = false := by simp; omega
      have hdl : dn.length ≤ 60 := by omega
      obtain ⟨v, hD, hO⟩ := A.out.disk
      have hrc := recover_any u hD A.out.env hO (by have := A.out.inv.len; omega)
      obtain ⟨B0, off0, wt0, lf⟩ := st
      have hbk := A.out.inv.back
      dsimp only at hbk
      have hrc2 : Calls Tryd.prog 10 #[.pointer (some ⟨d, 0, none⟩)] u fun e w' => ∃ rv, e = .returned (.tuple #[rv, .nilIface]) ∧ Aside (w'.ownsRow u.heap.size 35 8 rv dn.length (cellsOf dn) ∧ (∃ v', DiskAt w' d v' (recsL dn, false, false, lf) ∧ ∀ k, OwnD d v' k → S ≤ k) ∧ w'.ownsRow S 35 8 ov dn.length (cellsOf dn) ∧ Below S w2 w' ∧ EnvJ S ad w') := hrc.mono (fun e w' q => by
        obtain ⟨rv, he, q⟩ := q
        have q' := q.out
        rw [hbk.2] at q'
        dsimp only at q'
        rw [hbk.1] at q'
        exact ⟨rv, he, q'.2.1, A.out.app hD hO q'.1⟩)
      have HI : Aside (∀ x ∈ dn, errJ x = 0) := A.out.inv.1
      clear hrc hbk hD hO
      go_wp2_with fail
      refine hrc2.mono ?_
      clear hrc2 d1 d1n A
      rintro e w5 ⟨rv, rfl, H5⟩
      have hsm := sameJ w5 rv ov dn (ownsOps H5.out.1) (ownsOps H5.out.2.2.1) (by omega)
      go_wp2_with fail
      refine hsm.mono ?_
      clear hsm
      rintro e w6 ⟨rfl, hb6⟩
      obtain ⟨⟨v5, hD5, hO5⟩, hrow5, hbw5, henv5⟩ := H5.out.2
      have HD6 : Aside (DiskAt w6 d v5 (recsL dn, false, false, lf) ∧ (∀ k, OwnD d v5 k → S ≤ k) ∧ Below S w2 w6 ∧ EnvJ S ad w6) := ⟨hD5.later hb6, hO5, hbw5.trans (hb6.mono henv5.size), henv5.later hb6⟩
      obtain ⟨ao, oc, hov, -⟩ := opsIn_of (ownsOps hrow5)
      subst hov
      have hpw := power_any w6 HD6.out.1
      dsimp only at hpw
      clear hD5 hO5 hrow5 hbw5 henv5 hb6 H5
      go_wp2_with fail
      refine hpw.mono ?_
      clear hpw
      rintro e w7 ⟨rfl, rfl⟩
      obtain ⟨V, hV⟩ : ∃ V, Aside (V = w7.alloc (.cells #[.int .i64 9, .int .i64 0, .int .i64 1, .int .u8 109, .int .i64 36, .int .i64 0, .string ⟨#[122]⟩, .string ⟨#[]⟩] 35)) := ⟨_, rfl⟩
      obtain ⟨Q, hQ⟩ : ∃ Q, Aside (Q = w7.heap.size) := ⟨_, rfl⟩
      have hbV : Below w7.heap.size w7 V := by rw [hV.out]; exact (Below.refl _ w7).alloc (Nat.le_refl _) _
      have OV : OpJ V Q xZ := by rw [hV.out, hQ.out]; exact OpJ.new w7 xZ
      have HDV : Aside (DiskAt V d v5 (recsL dn, false, false, lf) ∧ (∀ k, OwnD d v5 k → S ≤ k) ∧ Below S w2 V ∧ EnvJ S ad V ∧ OpJ V Q xZ ∧ ¬ OwnD d v5 Q) := by
        refine ⟨HD6.out.1.later hbV, HD6.out.2.1, HD6.out.2.2.1.trans (hbV.mono HD6.out.2.2.2.size), HD6.out.2.2.2.later hbV, OV, fun q => ?_⟩
        have := HD6.out.1.own_lt q
        have := hQ.out
        omega
      have hzl : (recL (textO xZ)).length ≤ 1010 := by rw [recL_len]; have := textO_len errZ; omega
      have hrl := recs_len HI.out
      have happ := append_any V xZ HDV.out.1 HDV.out.2.2.2.1 HDV.out.2.1 (by decide) (by decide) (by dsimp only; omega)
      rw [app_free errZ (by omega)] at happ
      unfold encJ at happ
      dsimp only [xZ] at happ
      rw [show eV ad 0 = .nilIface from rfl] at happ
      obtain ⟨X, hX⟩ : ∃ X : ByteArray, Aside (X.data.toList = recsL (dn ++ [xZ])) := ⟨⟨(recsL (dn ++ [xZ])).toArray⟩, rfl⟩
      have hall : ∀ x ∈ dn ++ [xZ], errJ x = 0 := fun x hx => by
        rcases List.mem_append.1 hx with q | q
        · exact HI.out x q
        · rw [List.mem_singleton.1 q]; exact errZ
      have HRX : Aside (readL_ X.data.toList = (dn ++ [xZ], X.size) ∧ X.size ≤ 65536) := by
        have h2 : X.data.toList.length = X.size := by simp
        have h1 := readA_nil (dn ++ [xZ]) hall
        rw [← hX.out, h2] at h1
        refine ⟨h1, ?_⟩
        rw [← h2, hX.out, recs_snoc, List.length_append]
        omega
      have happ2 : Calls Tryd.prog 9 #[.pointer (some ⟨d, 0, none⟩), .agg #[.int .i64 9, .int .i64 0, .int .i64 1, .int .u8 109, .int .i64 36, .int .i64 0, .string ⟨#[122]⟩, .string ⟨#[]⟩]] V fun e w' => e = .returned .nilIface ∧ Aside (∃ v6, DiskAt w' d v6 (X.data.toList, false, false, lf) ∧ Below S w2 w' ∧ EnvJ S ad w' ∧ OpJ w' Q xZ) := happ.mono (fun e w' q => by
        obtain ⟨v6, h1, h2, h3⟩ := q.2.out.own HDV.out.2.2.2.1.size HDV.out.2.1
        have hb := q.2.out.below HDV.out.2.2.2.1.size HDV.out.2.1
        have e1 : X.data.toList = recsL dn ++ recL (textO xZ) := by rw [hX.out, recs_snoc]
        refine ⟨q.1, v6, ?_, HDV.out.2.2.1.trans hb, HDV.out.2.2.2.1.mono hb, (h3.block Q HDV.out.2.2.2.2.1.lt HDV.out.2.2.2.2.2).trans HDV.out.2.2.2.2.1⟩
        rw [e1]
        exact h1)
      obtain ⟨q0, q1, q2, q3, q4, q5, q6, q7, -⟩ := OV.cells
      dsimp only [xZ] at q0 q1 q2 q3 q4 q5 q6 q7
      clear happ hbV OV hzl hrl hall
      go_upto_region 17 with fail
      rw [← hV.out, ← hQ.out]
      go_wp2_with fail
      refine happ2.mono ?_
      clear happ2 q0 q1 q2 q3 q4 q5 q6 q7
      rintro e w8 ⟨rfl, H8⟩
      obtain ⟨v6, hD8, hb8, hE8, hO8⟩ := H8.out
      have hby := bytes_any w8 hD8
      dsimp only at hby
      rw [show (⟨X.data.toList.toArray⟩ : ByteArray) = X by simp] at hby
      have hrd := jread_any X w8 hE8 (by have := HRX.out.2; omega)
      unfold ReadOut at hrd
      rw [HRX.out.1] at hrd
      dsimp only at hrd
      have H8' : Aside (DiskAt w8 d v6 (X.data.toList, false, false, lf) ∧ Below S w2 w8 ∧ OpJ w8 Q xZ) := ⟨hD8, hb8, hO8⟩
      clear hD8 hb8 hE8 hO8 H8
      go_wp2_with fail
      refine hby.mono ?_
      clear hby
      rintro e w9 ⟨rfl, rfl⟩
      go_wp2_with fail
      refine hrd.mono ?_
      clear hrd
      rintro e w10 ⟨rv2, rfl, H10⟩
      obtain ⟨m, hm⟩ : ∃ m, Aside (m = dn.length + 1) := ⟨_, rfl⟩
      obtain ⟨g, cp, hrv, h8⟩ : ∃ g cp, rv2 = .slice (some ⟨g, 0, none⟩) m cp ∧ Eight w10 g (dn.length * 8) 9 0 1 109 36 0 ⟨#[122]⟩ ⟨#[]⟩ := by
        have hr := H10.out.1
        rcases hr.2 with ⟨_, q⟩ | ⟨g, cap, cur, e2, _⟩
        · simp at q
        · refine ⟨g, cap, ?_, ?_⟩
          · rw [e2, hm.out]; simp
          · rcases ownsOps hr with ⟨q, _⟩ | ⟨b, o, cp, e, hc⟩
            · rw [q] at e2; cases e2
            · rw [e2] at e
              cases e
              have := eight_at hc dn.length (by simp) (t := 9) (b := 0) (m := 1) (kd := 109) (node := 36) (other := 0) (name := ⟨#[122]⟩) (value := ⟨#[]⟩) (by simp [xZ])
              simpa using this
      subst hrv
      have hb10 := H10.out.2
      have N0 : DiskAt w10.drew d v6 (X.data.toList, false, false, lf) ∧ OpJ w10.drew Q xZ ∧ Eight w10.drew g (dn.length * 8) 9 0 1 109 36 0 ⟨#[122]⟩ ⟨#[]⟩ := ⟨H8'.out.1.later hb10.drew, H8'.out.2.2.later hb10.drew, h8.later (Below.refl _ w10).drew⟩
      have HF : Aside (Below w.heap.size w w10.drew) := by
        have h1 := H8'.out.2.1
        rw [hS.out] at h1
        have h2 : Below w.heap.size w w9 := HB1.out.trans (h1.mono HB1.out.size)
        exact h2.trans (hb10.drew.mono h2.size)
      have hby2 := bytes_any w10.drew N0.1
      dsimp only at hby2
      rw [show (⟨X.data.toList.toArray⟩ : ByteArray) = X by simp] at hby2
      have heq : ∀ w : World, (Op.equalIn 10000 35 (.agg #[.int .i64 9, .int .i64 0, .int .i64 1, .int .u8 109, .int .i64 36, .int .i64 0, .string ⟨#[122]⟩, .string ⟨#[]⟩]) (.agg #[.int .i64 9, .int .i64 0, .int .i64 1, .int .u8 109, .int .i64 36, .int .i64 0, .string ⟨#[122]⟩, .string ⟨#[]⟩])).run Tryd.prog w = .ok true w := fun w => by
        have := eqOp 9 0 1 109 36 0 ⟨#[122]⟩ ⟨#[]⟩ 9 0 1 109 36 0 ⟨#[122]⟩ ⟨#[]⟩ w
        rw [eqB_self] at this
        exact this
      have hwm : IntKind.i64.wrap ((dn.length : Int) + 1) = (m : Int) := by rw [IntKind.wrap_i64, hm.out]; omega
      have wi : ((dn.length : Int)).toNat = dn.length := by omega
      have pi : (0 : Int) ≤ (dn.length : Int) := by omega
      have bi : (dn.length : Int) < (m : Int) := by have := hm.out; omega
      clear h8 hb10 H10 H8'
      go_upto_region 20 with fail
      refine wp_region_H (S := (fun w' => DiskAt w' d v6 (X.data.toList, false, false, lf) ∧ OpJ w' Q xZ ∧ Eight w' g (dn.length * 8) 9 0 1 109 36 0 ⟨#[122]⟩ ⟨#[]⟩)) (by kernel_rfl) N0 (fun hHeld => ?_)
      refine wpAnyH_take (i := 0) (v := ?vaa0) rfl (by kernel_rfl) (by kernel_rfl) (by kernel_rfl) (fun _ _ _ h => h) (Or.inl ⟨by rfl, ?hya0⟩) hHeld ?resta0
      case hya0 => (intro w' hSw; clear hSw; go_simp; try with_reducible rfl)
      try simp only [List.getElem_toArray, List.getElem_cons_succ, List.getElem_cons_zero, Act.put, List.setIfInBounds_toArray, List.set_cons_zero, List.set_cons_succ]
      refine wpAnyH_take (i := 1) (v := ?vaa1) rfl (by kernel_rfl) (by kernel_rfl) (by kernel_rfl) (fun _ _ _ h => h) (Or.inl ⟨by rfl, ?hya1⟩) hHeld ?resta1
      case hya1 => (intro w' hSw; clear hSw; go_simp; try with_reducible rfl)
      try simp only [List.getElem_toArray, List.getElem_cons_succ, List.getElem_cons_zero, Act.put, List.setIfInBounds_toArray, List.set_cons_zero, List.set_cons_succ]
      refine wpAnyH_take (i := 2) (v := ?vaa2) rfl (by kernel_rfl) (by kernel_rfl) (by kernel_rfl) (fun _ _ _ h => h) (Or.inl ⟨by rfl, ?hya2⟩) hHeld ?resta2
      case hya2 => (intro w' hSw; clear hSw; go_simp; try with_reducible rfl)
      try simp only [List.getElem_toArray, List.getElem_cons_succ, List.getElem_cons_zero, Act.put, List.setIfInBounds_toArray, List.set_cons_zero, List.set_cons_succ]
      refine wpAnyH_take (i := 3) (v := ?vaa3) rfl (by kernel_rfl) (by kernel_rfl) (by kernel_rfl) (fun _ _ _ h => h) (Or.inl ⟨by rfl, ?hya3⟩) hHeld ?resta3
      case hya3 => (intro w' hSw; clear hSw; go_simp; try with_reducible rfl)
      try simp only [List.getElem_toArray, List.getElem_cons_succ, List.getElem_cons_zero, Act.put, List.setIfInBounds_toArray, List.set_cons_zero, List.set_cons_succ]
      refine wpAnyH_take (i := 4) (v := ?vaa4) rfl (by kernel_rfl) (by kernel_rfl) (by kernel_rfl) (fun _ _ _ h => h) (Or.inl ⟨by rfl, ?hya4⟩) hHeld ?resta4
      case hya4 => (intro w' hSw; clear hSw; go_simp; try with_reducible rfl)
      try simp only [List.getElem_toArray, List.getElem_cons_succ, List.getElem_cons_zero, Act.put, List.setIfInBounds_toArray, List.set_cons_zero, List.set_cons_succ]
      refine wpAnyH_take (i := 5) (v := ?vaa5) rfl (by kernel_rfl) (by kernel_rfl) (by kernel_rfl) (fun _ _ _ h => h) (Or.inl ⟨by rfl, ?hya5⟩) hHeld ?resta5
      case hya5 => (intro w' hSw; clear hSw; go_simp; try with_reducible rfl)
      try simp only [List.getElem_toArray, List.getElem_cons_succ, List.getElem_cons_zero, Act.put, List.setIfInBounds_toArray, List.set_cons_zero, List.set_cons_succ]
      refine wpAnyH_take (i := 6) (v := ?vaa6) rfl (by kernel_rfl) (by kernel_rfl) (by kernel_rfl) (fun _ _ _ h => h) (Or.inl ⟨by rfl, ?hya6⟩) hHeld ?resta6
      case hya6 => (intro w' hSw; clear hSw; go_simp; try with_reducible rfl)
      try simp only [List.getElem_toArray, List.getElem_cons_succ, List.getElem_cons_zero, Act.put, List.setIfInBounds_toArray, List.set_cons_zero, List.set_cons_succ]
      refine wpAnyH_take (i := 7) (v := ?vaa7) rfl (by kernel_rfl) (by kernel_rfl) (by kernel_rfl) (fun _ _ _ h => h) (Or.inl ⟨by rfl, ?hya7⟩) hHeld ?resta7
      case hya7 => (intro w' hSw; clear hSw; go_simp; try with_reducible rfl)
      try simp only [List.getElem_toArray, List.getElem_cons_succ, List.getElem_cons_zero, Act.put, List.setIfInBounds_toArray, List.set_cons_zero, List.set_cons_succ]
      refine wpAnyH_take (i := 8) (v := ?vaa8) rfl (by kernel_rfl) (by kernel_rfl) (by kernel_rfl) (fun _ _ _ h => h) (Or.inl ⟨by rfl, ?hya8⟩) hHeld ?resta8
      case hya8 => (intro w' hSw; clear hSw; go_simp; try with_reducible rfl)
      try simp only [List.getElem_toArray, List.getElem_cons_succ, List.getElem_cons_zero, Act.put, List.setIfInBounds_toArray, List.set_cons_zero, List.set_cons_succ]
      refine wpAnyH_one (i := 9) (by kernel_rfl) rfl (fun K hK => ?_)
      go_simp
      refine hby2.mono ?_
      clear hby2
      rintro e w11 ⟨rfl, rfl⟩
      refine hK _ _ hHeld ?_
      clear hK K
      try simp only [List.getElem_toArray, List.getElem_cons_succ, List.getElem_cons_zero, Act.put, List.setIfInBounds_toArray, List.set_cons_zero, List.set_cons_succ]
      refine wpAnyH_take (i := 10) (v := ?vab10) rfl (by kernel_rfl) (by kernel_rfl) (by kernel_rfl) (fun _ _ _ h => h) (Or.inl ⟨by rfl, ?hyb10⟩) hHeld ?restb10
      case hyb10 => (intro w' hSw; clear hSw; go_simp; try with_reducible rfl)
      try simp only [List.getElem_toArray, List.getElem_cons_succ, List.getElem_cons_zero, Act.put, List.setIfInBounds_toArray, List.set_cons_zero, List.set_cons_succ]
      refine wpAnyH_take (i := 11) (v := ?vab11) rfl (by kernel_rfl) (by kernel_rfl) (by kernel_rfl) (fun _ _ _ h => h) (Or.inl ⟨by rfl, ?hyb11⟩) hHeld ?restb11
      case hyb11 => (intro w' hSw; clear hSw; go_simp; try with_reducible rfl)
      try simp only [List.getElem_toArray, List.getElem_cons_succ, List.getElem_cons_zero, Act.put, List.setIfInBounds_toArray, List.set_cons_zero, List.set_cons_succ]
      refine wpAnyH_take (i := 12) (v := ?vab12) rfl (by kernel_rfl) (by kernel_rfl) (by kernel_rfl) (fun _ _ _ h => h) (Or.inl ⟨by rfl, ?hyb12⟩) hHeld ?restb12
      case hyb12 => (intro w' hSw; clear hSw; go_simp; try with_reducible rfl)
      try simp only [List.getElem_toArray, List.getElem_cons_succ, List.getElem_cons_zero, Act.put, List.setIfInBounds_toArray, List.set_cons_zero, List.set_cons_succ]
      refine wpAnyH_take (i := 13) (v := ?vab13) rfl (by kernel_rfl) (by kernel_rfl) (by kernel_rfl) (fun _ _ _ h => h) (Or.inl ⟨by rfl, ?hyb13⟩) hHeld ?restb13
      case hyb13 => (intro w' hSw; clear hSw; go_simp; try with_reducible rfl)
      try simp only [List.getElem_toArray, List.getElem_cons_succ, List.getElem_cons_zero, Act.put, List.setIfInBounds_toArray, List.set_cons_zero, List.set_cons_succ]
      refine wpAnyH_take (i := 14) (v := ?vab14) rfl (by kernel_rfl) (by kernel_rfl) (by kernel_rfl) (fun _ _ _ h => h) (Or.inl ⟨by rfl, ?hyb14⟩) hHeld ?restb14
      case hyb14 => (intro w' hSw; clear hSw; go_simp; try with_reducible rfl)
      try simp only [List.getElem_toArray, List.getElem_cons_succ, List.getElem_cons_zero, Act.put, List.setIfInBounds_toArray, List.set_cons_zero, List.set_cons_succ]
      refine wpAnyH_take (i := 15) (v := ?vab15) rfl (by kernel_rfl) (by kernel_rfl) (by kernel_rfl) (fun _ _ _ h => h) (Or.inl ⟨by rfl, ?hyb15⟩) hHeld ?restb15
      case hyb15 => (intro w' hSw; clear hSw; go_simp; try with_reducible rfl)
      try simp only [List.getElem_toArray, List.getElem_cons_succ, List.getElem_cons_zero, Act.put, List.setIfInBounds_toArray, List.set_cons_zero, List.set_cons_succ]
      refine wpAnyH_take (i := 16) (v := ?vab16) rfl (by kernel_rfl) (by kernel_rfl) (by kernel_rfl) (fun _ _ _ h => h) (Or.inl ⟨by rfl, ?hyb16⟩) hHeld ?restb16
      case hyb16 => (intro w' hSw; clear hSw; go_simp; try with_reducible rfl)
      try simp only [List.getElem_toArray, List.getElem_cons_succ, List.getElem_cons_zero, Act.put, List.setIfInBounds_toArray, List.set_cons_zero, List.set_cons_succ]
      refine wpAnyH_take (i := 17) (v := ?vab17) rfl (by kernel_rfl) (by kernel_rfl) (by kernel_rfl) (fun _ _ _ h => h) (Or.inl ⟨by rfl, ?hyb17⟩) hHeld ?restb17
      case hyb17 => (intro w' hSw; clear hSw; go_simp; try with_reducible rfl)
      try simp only [List.getElem_toArray, List.getElem_cons_succ, List.getElem_cons_zero, Act.put, List.setIfInBounds_toArray, List.set_cons_zero, List.set_cons_succ]
      refine wpAnyH_take (i := 18) (v := ?vab18) rfl (by kernel_rfl) (by kernel_rfl) (by kernel_rfl) (fun _ _ _ h => h) (Or.inl ⟨by rfl, ?hyb18⟩) hHeld ?restb18
      case hyb18 => (intro w' hSw; obtain ⟨q0, q1, q2, q3, q4, q5, q6, q7⟩ := hSw.2.2; clear hSw; go_simp; try with_reducible rfl)
      try simp only [List.getElem_toArray, List.getElem_cons_succ, List.getElem_cons_zero, Act.put, List.setIfInBounds_toArray, List.set_cons_zero, List.set_cons_succ]
      refine wpAnyH_take (i := 19) (v := ?vab19) rfl (by kernel_rfl) (by kernel_rfl) (by kernel_rfl) (fun _ _ _ h => h) (Or.inl ⟨by rfl, ?hyb19⟩) hHeld ?restb19
      case hyb19 => (intro w' hSw; obtain ⟨q0, q1, q2, q3, q4, q5, q6, q7, -⟩ := OpJ.cells hSw.2.1; dsimp only [xZ] at q0 q1 q2 q3 q4 q5 q6 q7; clear hSw; go_simp; try with_reducible rfl)
      try simp only [List.getElem_toArray, List.getElem_cons_succ, List.getElem_cons_zero, Act.put, List.setIfInBounds_toArray, List.set_cons_zero, List.set_cons_succ]
      refine wpAnyH_take (i := 20) (v := ?vab20) rfl (by kernel_rfl) (by kernel_rfl) (by kernel_rfl) (fun _ _ _ h => h) (Or.inl ⟨by rfl, ?hyb20⟩) hHeld ?restb20
      case hyb20 => (intro w' hSw; clear hSw; go_simp; try with_reducible rfl)
      try simp only [List.getElem_toArray, List.getElem_cons_succ, List.getElem_cons_zero, Act.put, List.setIfInBounds_toArray, List.set_cons_zero, List.set_cons_succ]
      refine wpAnyH_take (i := 21) (v := ?vab21) rfl (by kernel_rfl) (by kernel_rfl) (by kernel_rfl) (fun _ _ _ h => h) (Or.inl ⟨by rfl, ?hyb21⟩) hHeld ?restb21
      case hyb21 => (intro w' hSw; clear hSw; go_simp; try with_reducible rfl)
      try simp only [List.getElem_toArray, List.getElem_cons_succ, List.getElem_cons_zero, Act.put, List.setIfInBounds_toArray, List.set_cons_zero, List.set_cons_succ]
      refine wpAnyH_take (i := 22) (v := ?vab22) rfl (by kernel_rfl) (by kernel_rfl) (by kernel_rfl) (fun _ _ _ h => h) (Or.inl ⟨by rfl, ?hyb22⟩) hHeld ?restb22
      case hyb22 => (intro w' hSw; clear hSw; go_simp; try with_reducible rfl)
      try simp only [List.getElem_toArray, List.getElem_cons_succ, List.getElem_cons_zero, Act.put, List.setIfInBounds_toArray, List.set_cons_zero, List.set_cons_succ]
      refine wpAnyH_done (by kernel_rfl) ?_ _
      try simp only [List.getElem_toArray, List.getElem_cons_succ, List.getElem_cons_zero, Act.put, List.setIfInBounds_toArray, List.set_cons_zero, List.set_cons_succ]
      go_wp2
      go_ret
      exact ⟨rfl, HF.out⟩
end Go.Proofs.YtcggmagdndhkbaaDoor
