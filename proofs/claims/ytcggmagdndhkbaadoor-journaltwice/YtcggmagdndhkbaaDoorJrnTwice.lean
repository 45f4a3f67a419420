/- The law JournalTwice, over the translation's body. -/
import Derived.Test.YtcggmagdndhkbaaDoorJrnNoted
set_option linter.unusedVariables false
set_option linter.unusedSimpArgs false
namespace Go.Proofs.YtcggmagdndhkbaaDoor
open Go Go.RowKit Go.Lib Go.Sort

theorem recs_take (xs : List OpX) (i : Nat) (x : OpX) (h : xs[i]? = some x) : recsL (xs.take (i + 1)) = recsL (xs.take i) ++ recL (textO x) := by
  have hi := (List.getElem?_eq_some_iff.1 h).1
  rw [List.take_succ_eq_append_getElem hi, (List.getElem?_eq_some_iff.1 h).2, recs_snoc]
theorem recs_le (xs : List OpX) (i : Nat) : (recsL (xs.take i)).length ≤ (recsL xs).length := by
  have := recsL_append (xs.take i) (xs.drop i)
  rw [List.take_append_drop] at this
  rw [this, List.length_append]
  omega
/-- The record of an operation in a row, by the reference. -/
theorem refRec (x : OpX) (w : World) (h : errJ x = 0) : Calls Tryd.prog 16 #[encJ x] w fun e w' => ∃ t : ByteArray, t.data.toList = textO x ∧ e = .returned (.string t) ∧ Below w.heap.size w w' := refOpText x w h

set_option maxRecDepth 100000 in
set_option maxHeartbeats 8000000 in
theorem twice_law {B : Nat} {ad : Nat → Addr} (w : World) (b : ByteArray) (hE : EnvJ B ad w) :
    Calls Tryd.prog 4 #[.string b] w fun e w' => e = .returned (.bool true) ∧ Below w.heap.size w w' := by
  have hnt := noted_any w hE
  have HE : Aside (EnvJ w.heap.size ad w) := hE.up hE.size (Nat.le_refl _)
  clear hE
  go_enter Tryd.func4, Tryd.ntmps4
  go_wp2_with fail
  refine hnt.mono ?_
  clear hnt
  rintro e w1 ⟨rfl, hb1⟩
  have HB1 : Aside (Below w.heap.size w w1) := hb1
  clear hb1
  by_cases hbig : b.size ≤ 3000
  case neg =>
    have d1 : decide ((3000 : Int) < (b.size : Int)) = true := by simp; omega
    have d1n : decide (3000 < b.size) = true := by simp; omega
    go_wp2
    go_ret
    exact ⟨rfl, HB1.out⟩
  have d1 : decide ((3000 : Int) < (b.size : Int)) = false := by simp; omega
  have d1n : decide (3000 < b.size) = false := by simp; omega
  have hnew := newDisk_any b w1 (by omega)
  go_wp2_with fail
  refine hnew.mono ?_
  clear hnew d1 d1n
  rintro e w2 ⟨d, v0, rfl, H2⟩
  obtain ⟨S, hS⟩ : ∃ S, Aside (S = w1.heap.size) := ⟨_, rfl⟩
  have HE2 : Aside (EnvJ S ad w2) := by
    have h1 := HE.out.mono HB1.out
    have h2 := h1.up HB1.out.size (Nat.le_refl _)
    rw [hS.out]
    exact h2.mono H2.out.2.1
  have HD2 : Aside (DiskAt w2 d v0 (b.data.toList, false, false, 0) ∧ (∀ k, OwnD d v0 k → S ≤ k) ∧ Below S w1 w2) := by rw [hS.out]; exact ⟨H2.out.1, H2.out.2.2, H2.out.2.1⟩
  have hbl : b.data.toList.length = b.size := by simp
  have hrc := recover_any w2 HD2.out.1 HE2.out HD2.out.2.1 (by dsimp only; omega)
  obtain ⟨T, hT⟩ : ∃ T, Aside (T = readL_ b.data.toList) := ⟨_, rfl⟩
  obtain ⟨xs, nn, hxn⟩ : ∃ xs nn, Aside (T = (xs, nn)) := ⟨T.1, T.2, rfl⟩
  obtain ⟨r, hr1, hr2, hr3, hr4⟩ := back_any b.data.toList
  rw [← hT.out, hxn.out] at hr1 hr2 hr3 hr4
  dsimp only at hr1 hr2 hr3 hr4
  have hnb : nn ≤ b.size := by
    have := congrArg List.length hr1
    rw [List.length_append, hbl] at this
    omega
  have HR : Aside (b.data.toList.take nn = recsL xs ∧ nn = (recsL xs).length ∧ (∀ x ∈ xs, errJ x = 0) ∧ backSt (b.data.toList, false, false, 0) = (recsL xs, false, false, 0) ∧ readL_ (recsL xs) = (xs, nn) ∧ 10 * xs.length ≤ 3000) := by
    refine ⟨hr4, hr2, hr3, ?_, ?_, ?_⟩
    · unfold backSt
      dsimp only
      rw [← hT.out, hxn.out]
      dsimp only
      rw [hr4]
    · rw [readA_nil xs hr3, ← hr2]
    · have := (readA_le b.data.toList).2
      rw [← hT.out, hxn.out] at this
      dsimp only at this
      omega
  have hrc2 : Calls Tryd.prog 10 #[.pointer (some ⟨d, 0, none⟩)] w2 fun e w' => ∃ rv, e = .returned (.tuple #[rv, .nilIface]) ∧ Aside (WroteD d v0 w2 (recsL xs, false, false, 0) w' ∧ w'.ownsRow w2.heap.size 35 8 rv xs.length (cellsOf xs)) := hrc.mono (fun e w' q => by
    obtain ⟨rv, he, q⟩ := q
    have q' := q.out
    rw [HR.out.2.2.2.1] at q'
    dsimp only at q'
    rw [← hT.out, hxn.out] at q'
    exact ⟨rv, he, q'.1, q'.2.1⟩)
  clear hrc hr1 hr2 hr3 hr4 H2 hbl
  go_wp2_with fail
  refine hrc2.mono ?_
  clear hrc2
  rintro e w3 ⟨rv1, rfl, H3⟩
  obtain ⟨v1, hD3, hO3, hK3⟩ := H3.out.1.own HE2.out.size HD2.out.2.1
  have hb3 : Below S w2 w3 := H3.out.1.below HE2.out.size HD2.out.2.1
  have HD3 : Aside (DiskAt w3 d v1 (recsL xs, false, false, 0) ∧ (∀ k, OwnD d v1 k → S ≤ k) ∧ EnvJ S ad w3 ∧ Below S w1 w3 ∧ w3.ownsRow w2.heap.size 35 8 rv1 xs.length (cellsOf xs) ∧ d < w2.heap.size) := ⟨hD3, hO3, HE2.out.mono hb3, HD2.out.2.2.trans hb3, H3.out.2, HD2.out.1.lt⟩
  have hby := bytes_any w3 hD3
  obtain ⟨X, hX⟩ : ∃ X : ByteArray, Aside (X = ⟨(recsL xs).toArray⟩) := ⟨_, rfl⟩
  dsimp only at hby
  rw [← hX.out] at hby
  have hXs : X.size = nn := by rw [hX.out, HR.out.2.1]; simp [ByteArray.size]
  obtain ⟨F, hF, hsl⟩ := cut_left b nn hnb
  have hFX : F = X := by apply bytes_ext; rw [hF, hX.out, HR.out.1]
  subst hFX
  have HXS : Aside (F.size = nn) := hXs
  have d2 : decide ((b.size : Int) < (F.size : Int)) = false := by rw [hXs]; simp; omega
  have d2n : decide (b.size < F.size) = false := by rw [hXs]; simp; omega
  have hsl2 : ∀ w : World, (Instr.slice 9 (.string b) none (some (.int .i64 (F.size : Int))) none).run Tryd.prog w = .ok (.string F) w := by rw [hXs]; exact hsl
  have hFF : (F == F) = true := by show (F.data == F.data) = true; simp
  clear hD3 hO3 hK3 hb3 hsl hF hXs
  go_wp2_with fail
  refine hby.mono ?_
  clear hby
  rintro e w4 ⟨rfl, rfl⟩
  have hrc := recover_any w4 HD3.out.1 HD3.out.2.2.1 HD3.out.2.1 (by dsimp only; have := HR.out.2.1; omega)
  have hrc2 : Calls Tryd.prog 10 #[.pointer (some ⟨d, 0, none⟩)] w4 fun e w' => ∃ rv, e = .returned (.tuple #[rv, .nilIface]) ∧ Aside (WroteD d v1 w4 (recsL xs, false, false, 0) w' ∧ w'.ownsRow w4.heap.size 35 8 rv xs.length (cellsOf xs) ∧ Keeps (fun k => k = d) w4 w') := hrc.mono (fun e w' q => by
    obtain ⟨rv, he, q⟩ := q
    have e1 : backSt (recsL xs, false, false, 0) = (recsL xs, false, false, 0) := by
      unfold backSt
      dsimp only
      rw [HR.out.2.2.2.2.1]
      dsimp only
      rw [HR.out.2.1, List.take_of_length_le (Nat.le_refl _)]
    have q' := q.out
    rw [e1] at q'
    dsimp only at q'
    rw [HR.out.2.2.2.2.1] at q'
    exact ⟨rv, he, q'⟩)
  clear hrc
  go_wp2_with fail
  refine hrc2.mono ?_
  clear hrc2 hsl2 d2 d2n
  rintro e w5 ⟨rv2, rfl, H5⟩
  obtain ⟨v2, hD5, hO5, hK5⟩ := H5.out.1.own HD3.out.2.2.1.size HD3.out.2.1
  have hb5 : Below S w4 w5 := H5.out.1.below HD3.out.2.2.1.size HD3.out.2.1
  have hrow1 : w5.ownsRow w2.heap.size 35 8 rv1 xs.length (cellsOf xs) := ownsJ HD3.out.2.2.2.2.1 (fun g hg => H5.out.2.2.block g (HD3.out.2.2.2.2.1.lt g hg).2 (fun e => by have := (HD3.out.2.2.2.2.1.lt g hg).1; have := HD3.out.2.2.2.2.2; omega))
  have hby := bytes_any w5 hD5
  dsimp only at hby
  rw [← hX.out] at hby
  have hsm := sameJ w5 rv1 rv2 xs (ownsOps hrow1) (ownsOps H5.out.2.1) (by have := HR.out.2.2.2.2.2; omega)
  obtain ⟨ao, cap, hrv, hin⟩ := opsIn_of (ownsOps hrow1)
  subst hrv
  have HD5 : Aside (OpsIn w5 ao xs ∧ Below S w1 w5) := ⟨hin, HD3.out.2.2.2.1.trans hb5⟩
  clear hD5 hO5 hK5 hb5 hrow1 hin H5
  go_wp2_with fail
  refine hby.mono ?_
  clear hby
  rintro e w6 ⟨rfl, rfl⟩
  go_wp2_with fail
  refine hsm.mono ?_
  clear hsm
  rintro e w7 ⟨rfl, hb7⟩
  have HW : Aside (OpsIn w7 ao xs ∧ Below w.heap.size w w7) := by
    refine ⟨HD5.out.1.later hb7, ?_⟩
    have h1 := HD5.out.2
    rw [hS.out] at h1
    have h2 : Below w.heap.size w w6 := HB1.out.trans (h1.mono HB1.out.size)
    exact h2.trans (hb7.mono h2.size)
  clear hb7 HD5 HD3 hFF
  have hxs : xs.length ≤ 300 := by have := HR.out.2.2.2.2.2; omega
  go_wp2
  go_loopg [9, 10] xs.length (fun kx s9 s10 wr => ∃ (i : Nat) (Y : ByteArray), s9 = .string Y ∧ s10 = .int .i64 (i : Int) ∧ i ≤ xs.length ∧ xs.length - i ≤ kx ∧ Aside (Y.data.toList = recsL (xs.take i) ∧ Below w7.heap.size w7 wr))
  case atStart => exact ⟨0, ⟨#[]⟩, rfl, rfl, Nat.zero_le _, Nat.le_refl _, rfl, Below.refl _ w7⟩
  case round =>
    obtain ⟨i, Y, rfl, rfl, hi, hix, A⟩ := hrel
    by_cases hlt : i < xs.length
    · have d2 : decide ((i : Int) < (xs.length : Int)) = true := by simp; omega
      have d2n : decide (i < xs.length) = true := by simp; omega
      obtain ⟨x, hx⟩ : ∃ x, Aside (xs[i]? = some x) := ⟨xs[i], List.getElem?_eq_getElem hlt⟩
      have hex : errJ x = 0 := HR.out.2.2.1 x (List.mem_of_getElem? hx.out)
      obtain ⟨b1, o1, e1, E1⟩ := (HW.out.1.later A.out.2).one hx.out
      have htx := refOpText x wr hex
      have HX : Aside (errJ x = 0 ∧ (textO x).length ≤ 1000) := ⟨hex, textO_len hex⟩
      obtain ⟨t, b', n, kd, nd, o, s, vl⟩ := x
      dsimp only at E1
      unfold encJ at htx
      dsimp only at htx
      subst e1
      have wi : ((i : Int)).toNat = i := by omega
      have pi : (0 : Int) ≤ (i : Int) := by omega
      have bi : (i : Int) < (xs.length : Int) := by omega
      obtain ⟨q0, q1, q2, q3, q4, q5, q6, q7⟩ := E1
      clear hex
      go_wp2_with fail
      refine htx.mono ?_
      clear htx q0 q1 q2 q3 q4 q5 q6 q7
      rintro e w8 ⟨tx, htx, rfl, hb8⟩
      have hrc := refRecord_any tx w8 (by
        have h1 := HX.out.2
        rw [← htx] at h1
        have h2 : tx.data.toList.length = tx.size := by simp
        omega)
      have A8 : Aside (Below w7.heap.size w7 w8 ∧ tx.data.toList = textO (t, b', n, kd, nd, o, s, vl)) := ⟨A.out.2.trans (hb8.mono A.out.2.size), htx⟩
      clear htx hb8
      go_wp2_with fail
      refine hrc.mono ?_
      clear hrc
      rintro e w9 ⟨rc, hrc, rfl, hb9⟩
      have hYs : Y.size ≤ 100000 := by
        have h1 := recs_le xs i
        rw [← A.out.1] at h1
        have h2 : Y.data.toList.length = Y.size := by simp
        have h3 := HR.out.2.1
        omega
      have hrs : rc.size ≤ 100000 := by
        have h1 := congrArg List.length hrc
        rw [recL_len, A8.out.2] at h1
        have h2 : rc.data.toList.length = rc.size := by simp
        have h3 := HX.out.2
        omega
      obtain ⟨Z, hZ, hZs, hadd⟩ := add_two Y rc (by omega)
      have HN : Aside (Z.data.toList = recsL (xs.take (i + 1)) ∧ Below w7.heap.size w7 w9) := by
        refine ⟨?_, A8.out.1.trans (hb9.mono A8.out.1.size)⟩
        rw [hZ, hrc, A8.out.2, A.out.1, recs_take xs i _ hx.out]
      clear hZ hZs hrc hb9 A A8
      go_wp2
      go_roundg (xs.length - (i + 1))
      case measure => omega
      case rel => exact ⟨i + 1, Z, rfl, by go_num, by omega, Nat.le_refl _, HN.out⟩
    · have d2 : decide ((i : Int) < (xs.length : Int)) = false := by simp; omega
      have d2n : decide (i < xs.length) = false := by simp; omega
      have hYF : Y = F := by
        apply bytes_ext
        rw [A.out.1, hX.out, List.take_of_length_le (by omega)]
      have hl : (Y.toList == F.toList) = true := by rw [hYF]; simp
      have HF : Aside (Below w.heap.size w wr) := HW.out.2.trans (A.out.2.mono HW.out.2.size)
      have HYF := Lib.hid hYF
      clear hYF A
      go_wp2
      go_ret
      exact ⟨rfl, HF.out⟩
end Go.Proofs.YtcggmagdndhkbaaDoor
