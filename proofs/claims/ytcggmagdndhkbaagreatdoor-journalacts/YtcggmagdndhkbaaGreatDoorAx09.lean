import Derived.Test.YtcggmagdndhkbaaGreatDoorAx02
import Derived.Test.YtcggmagdndhkbaaGreatDoorAx07
import Derived.Test.YtcggmagdndhkbaaGreatDoorAx08
section
set_option linter.unusedVariables false
set_option linter.unusedSimpArgs false
namespace Go.Proofs.YtcggmagdndhkbaaGreatDoor
open Go Go.RowKit Go.Lib Go.Sort
def encJ (x : OpX) : Value := .agg #[.int .i64 x.1, .int .i64 x.2.1, .int .i64 x.2.2.1, .int .u8 (x.2.2.2.1 : Int), .int .i64 x.2.2.2.2.1, .int .i64 x.2.2.2.2.2.1, .string x.2.2.2.2.2.2.1, .string x.2.2.2.2.2.2.2]
structure FactJ (ad : Nat → Addr) (w : World) : Prop where
  txt : TxtE ad w
  errd : ErrD ad w
  deb : DeB w
  et : w.cell? ⟨7, 0, none⟩ = some (.iface 416 (.pointer (some (ad 0))))
  mx : ∃ m : Int, w.cell? ⟨14, 0, none⟩ = some (.int .i64 m)
structure EnvJ (B : Nat) (ad : Nat → Addr) (w : World) : Prop where
  size : B ≤ w.heap.size
  all : ∀ w', Below B w w' → FactJ ad w'
theorem EnvJ.mono {B : Nat} {ad : Nat → Addr} {w w' : World} (h : EnvJ B ad w) (hb : Below B w w') : EnvJ B ad w' := ⟨Nat.le_trans h.size hb.size, fun w'' h' => h.all w'' (hb.trans h')⟩
theorem EnvJ.later {B : Nat} {ad : Nat → Addr} {w w' : World} (h : EnvJ B ad w) (hb : Below w.heap.size w w') : EnvJ B ad w' := h.mono (hb.mono h.size)
theorem EnvJ.here {B : Nat} {ad : Nat → Addr} {w : World} (h : EnvJ B ad w) : FactJ ad w := h.all w (Below.refl _ _)
theorem EnvJ.up {B B' : Nat} {ad : Nat → Addr} {w : World} (h : EnvJ B ad w) (hB : B ≤ B') (hs : B' ≤ w.heap.size) : EnvJ B' ad w := ⟨hs, fun w' h' => h.all w' (h'.mono hB)⟩
def wrAll : DSt → List UInt8 → Bool × DSt
  | st, [] => (true, st)
  | st, c :: l => if (wr1 st c).1 = true then wrAll (wr1 st c).2 l else (false, (wr1 st c).2)
def appE (st : DSt) (x : OpX) : Nat × DSt := if errJ x ≠ 0 then (errJ x, st) else if 65536 < st.1.length + (recL (textO x)).length then (8, st) else if (wrAll st (recL (textO x))).1 = true then (0, (wrAll st (recL (textO x))).2) else (11, (wrAll st (recL (textO x))).2)
theorem wr1_len (st : DSt) (c : UInt8) : (wr1 st c).2.1.length ≤ st.1.length + 1 := by
  unfold wr1
  split
  · simp
  · split
    · simp
    · simp
theorem WroteD.start {d : Nat} {v : Value} {w : World} {st : DSt} (h : DiskAt w d v st) : WroteD d v w st w := ⟨v, h, Keeps.refl _ _, fun g hg => .inl hg⟩
theorem WroteD.later {d : Nat} {v : Value} {w W W' : World} {st : DSt} (h : WroteD d v w st W) (hb : Below W.heap.size W W') : WroteD d v w st W' := by
  obtain ⟨v', h1, h2, h3⟩ := h
  exact ⟨v', h1.later hb, h2.then (keeps_of_below hb) (fun i hi q => by have := h2.size; omega), h3⟩
theorem WroteD.from {d : Nat} {v : Value} {w W W' : World} {st : DSt} (hb : Below w.heap.size w W) (hd : DiskAt w d v st) {st' : DSt} (h : WroteD d v W st' W') : WroteD d v w st' W' := by
  obtain ⟨v', h1, h2, h3⟩ := h
  refine ⟨v', h1, ?_, fun g hg => (h3 g hg).imp id (fun q => Nat.le_trans hb.size q)⟩
  exact ((keeps_of_below hb).mono (fun k hk q => by omega)).then h2 (fun i _ q => q)
theorem WroteD.next {d : Nat} {v : Value} {w W W' : World} {st st' : DSt} (h : WroteD d v w st W) (k : ∀ v', DiskAt W d v' st → WroteD d v' W st' W') : WroteD d v w st' W' := by
  obtain ⟨v', h1, h2, h3⟩ := h
  obtain ⟨v2, k1, k2, k3⟩ := k v' h1
  refine ⟨v2, k1, h2.then k2 (fun i hi q => ?_), fun g hg => ?_⟩
  · rcases q with rfl | q
    · exact .inl rfl
    · rcases h3 i q with e | e
      · exact .inr e
      · omega
  · rcases k3 g hg with e | e
    · exact h3 g e
    · exact .inr (Nat.le_trans h2.size e)
theorem WroteD.below {d : Nat} {v : Value} {w W : World} {st : DSt} {B : Nat} (h : WroteD d v w st W) (hB : B ≤ w.heap.size) (hO : ∀ k, OwnD d v k → B ≤ k) : Below B w W := by
  obtain ⟨v', h1, h2, h3⟩ := h
  exact h2.below hB hO
theorem WroteD.own {d : Nat} {v : Value} {w W : World} {st : DSt} {B : Nat} (h : WroteD d v w st W) (hB : B ≤ w.heap.size) (hO : ∀ k, OwnD d v k → B ≤ k) : ∃ v', DiskAt W d v' st ∧ (∀ k, OwnD d v' k → B ≤ k) ∧ Keeps (OwnD d v) w W := by
  obtain ⟨v', h1, h2, h3⟩ := h
  refine ⟨v', h1, fun k hk => ?_, h2⟩
  rcases hk with rfl | hk
  · exact hO k (.inl rfl)
  · rcases h3 k hk with e | e
    · exact hO k (.inr e)
    · omega
set_option maxRecDepth 100000 in
set_option maxHeartbeats 4000000 in
theorem append_any {B : Nat} {ad : Nat → Addr} {d : Nat} {v : Value} {st : DSt} (w : World) (x : OpX) (hD : DiskAt w d v st) (hE : EnvJ B ad w) (hO : ∀ k, OwnD d v k → B ≤ k) (hs1 : x.2.2.2.2.2.2.1.size ≤ 1000000) (hs2 : x.2.2.2.2.2.2.2.size ≤ 1000000) (hB : st.1.length ≤ 65536) :
    Calls Tryz.prog 37 #[.pointer (some ⟨d, 0, none⟩), encJ x] w fun e w' => e = .returned (eV ad (appE st x).1) ∧ Aside (WroteD d v w (appE st x).2 w') := by
  obtain ⟨t, b, n, kd, nd, o, s, vl⟩ := x
  dsimp only at hs1 hs2
  obtain ⟨x, hx⟩ : ∃ x : OpX, Aside (x = (t, b, n, kd, nd, o, s, vl)) := ⟨_, rfl⟩
  have ex : (t, b, n, kd, nd, o, s, vl) = x := hx.out.symm
  obtain ⟨U, hU⟩ : ∃ U, Aside (U = w.alloc (.cells #[.int .i64 t, .int .i64 b, .int .i64 n, .int .u8 (kd : Int), .int .i64 nd, .int .i64 o, .string s, .string vl] 31)) := ⟨_, rfl⟩
  have hbU : Below w.heap.size w U := by rw [hU.out]; exact (Below.refl _ w).alloc (Nat.le_refl _) _
  have HD : Aside (DiskAt w d v st ∧ DiskAt U d v st ∧ EnvJ B ad w ∧ EnvJ B ad U ∧ (∀ k, OwnD d v k → B ≤ k) ∧ Below w.heap.size w U) := ⟨hD, hD.later hbU, hE, hE.later hbU, hO, hbU⟩
  clear hD hE hO hbU
  by_cases herr : errJ x = 0
  case neg =>
    have htx := optext_no t b n kd nd o s vl U HD.out.2.2.2.1.here.txt hs1 hs2 (by rw [hx.out] at herr; exact herr)
    have HA : Aside (appE st x = (errJ x, st) ∧ eV ad (errJ x) = .iface 416 (.pointer (some (ad (errJ x - 1))))) := ⟨by unfold appE; rw [if_pos herr], if_neg herr⟩
    have e0 : opE t b n kd nd o s.data.toList vl.data.toList = errJ x := by rw [hx.out]; rfl
    rw [e0] at htx
    obtain ⟨ea, hea⟩ : ∃ ea, Aside (ea = ad (errJ x - 1)) := ⟨_, rfl⟩
    rw [← hea.out] at htx HA
    rw [ex]
    rw [HA.out.1]
    dsimp only
    rw [HA.out.2, hx.out]
    unfold encJ
    dsimp only
    clear e0 ex herr
    go_enter Tryz.func37, Tryz.ntmps37
    go_wp2_with fail
    rw [← hU.out]
    refine htx.mono ?_
    clear htx
    rintro e w1 ⟨rfl, hb1⟩
    have HW : Aside (WroteD d v w st w1) := ((WroteD.start HD.out.2.1).later hb1).from HD.out.2.2.2.2.2 HD.out.1
    clear hb1
    go_wp2
    go_ret
    exact ⟨rfl, HW.out⟩
  case pos =>
    have htx := optext_ok t b n kd nd o s vl U HD.out.2.2.2.1.here.txt (by rw [hx.out] at herr; exact herr)
    have e0 : opTextL t b n kd nd o s.data.toList vl.data.toList = textO x := by rw [hx.out]; rfl
    rw [e0] at htx
    obtain ⟨tx, htx2⟩ : ∃ tx : ByteArray, Aside (tx = ⟨(textO x).toArray⟩) := ⟨_, rfl⟩
    rw [← htx2.out] at htx
    have htl : tx.data.toList = textO x := by rw [htx2.out]
    have hts : tx.size ≤ 1000 := by
      have := textO_len herr
      rw [← htl] at this
      simpa using this
    obtain ⟨g, cap, hvs⟩ := HD.out.1.row.shape
    have HX : Aside (errJ x = 0) := herr
    rw [ex]
    obtain ⟨cd, sx, hcs⟩ : ∃ cd sx, Aside (appE st x = (cd, sx)) := ⟨(appE st x).1, (appE st x).2, rfl⟩
    rw [hcs.out]
    unfold encJ
    rw [hx.out]
    dsimp only
    clear e0 ex herr
    go_enter Tryz.func37, Tryz.ntmps37
    go_wp2_with fail
    rw [← hU.out]
    refine htx.mono ?_
    clear htx
    rintro e w1 ⟨rfl, hb1⟩
    have hD1 := HD.out.2.1.later hb1
    have hE1 := HD.out.2.2.2.1.later hb1
    have hrc := record_any tx w1 (by omega) hE1.here.deb
    go_wp2_with fail
    refine hrc.mono ?_
    clear hrc
    rintro e w2 ⟨r, hr, rfl, hb2⟩
    have hD2 := hD1.later hb2
    have hbw : Below w.heap.size w w2 := HD.out.2.2.2.2.2.trans ((hb1.trans (hb2.mono hb1.size)).mono HD.out.2.2.2.2.2.size)
    rw [htl] at hr
    have H2 : Aside (DiskAt w2 d v st ∧ EnvJ B ad w2 ∧ Below w.heap.size w w2 ∧ r.data.toList = recL (textO x)) := ⟨hD2, hE1.later hb2, hbw, hr⟩
    have hrs : r.size = (recL (textO x)).length := by rw [← hr]; simp
    have hr1 : r.size ≤ 1010 := by
      rw [hrs, recL_len]
      have := textO_len HX.out
      omega
    obtain ⟨c0, c1, c2, c3, cf⟩ := hD2.c
    rw [hvs] at c0
    have e7 := (hE1.later hb2).here.errd.c7
    have HRS : Aside (r.size = (recL (textO x)).length) := hrs
    clear hb1 hb2 hD1 hD2 hE1 hbw hr c1 c2 c3 cf hrs htl hvs
    obtain ⟨tot, htot⟩ : ∃ tot : Nat, Aside (tot = st.1.length + r.size) := ⟨_, rfl⟩
    have hwr : IntKind.i64.wrap ((st.1.length : Int) + (r.size : Int)) = (tot : Int) := by rw [IntKind.wrap_i64, htot.out]; omega
    by_cases hfull : 65536 < st.1.length + r.size
    · have d1 : decide ((65536 : Int) < (tot : Int)) = true := by have := htot.out; simp; omega
      have d1n : decide (65536 < tot) = true := by have := htot.out; simp; omega
      have HA : Aside (eV ad cd = .iface 416 (.pointer (some (ad 7))) ∧ WroteD d v w sx w2) := by
        have ha : appE st x = (8, st) := by
          unfold appE
          rw [if_neg (fun q => q HX.out), if_pos (by rw [← HRS.out]; exact hfull)]
        rw [hcs.out] at ha
        cases ha
        exact ⟨rfl, (WroteD.start H2.out.1).from H2.out.2.2.1 HD.out.1⟩
      clear hfull
      go_wp2
      go_ret
      exact ⟨by rw [HA.out.1]; rfl, HA.out.2⟩
    · have d1 : decide ((65536 : Int) < (tot : Int)) = false := by have := htot.out; simp; omega
      have d1n : decide (65536 < tot) = false := by have := htot.out; simp; omega
      have HA : Aside (∀ z st', wrAll st (recL (textO x)) = (z, st') → (z = true → cd = 0 ∧ sx = st') ∧ (z = false → cd = 11 ∧ sx = st')) := fun z st' hz => by
        have ha : appE st x = if (wrAll st (recL (textO x))).1 = true then (0, (wrAll st (recL (textO x))).2) else (11, (wrAll st (recL (textO x))).2) := by
          unfold appE
          rw [if_neg (fun q => q HX.out), if_neg (by rw [← HRS.out]; exact hfull)]
        rw [hcs.out, hz] at ha
        refine ⟨fun q => ?_, fun q => ?_⟩
        · subst q; cases ha; exact ⟨rfl, rfl⟩
        · subst q; cases ha; exact ⟨rfl, rfl⟩
      go_wp2
      clear c0 e7 d1 d1n hwr
      go_loopg [34] r.size (fun kx s34 W => ∃ (k : Nat) (sk : DSt), s34 = .int .i64 (k : Int) ∧ k ≤ r.size ∧ r.size - k ≤ kx ∧ Aside (WroteD d v w2 sk W ∧ wrAll st (recL (textO x)) = wrAll sk ((recL (textO x)).drop k) ∧ sk.1.length ≤ st.1.length + k))
      case atStart => exact ⟨0, st, rfl, Nat.zero_le _, Nat.le_refl _, WroteD.start H2.out.1, rfl, Nat.le_refl _⟩
      case round =>
        obtain ⟨k, sk, rfl, hk, hkx, A⟩ := hrel
        by_cases hlt : k < r.size
        · have d2 : decide ((k : Int) < (r.size : Int)) = true := by simp; omega
          have d2n : decide (k < r.size) = true := by simp; omega
          obtain ⟨vk, hDk, -, -⟩ := A.out.1.own H2.out.2.1.size HD.out.2.2.2.2.1
          obtain ⟨Bk, ofk, wtk, lfk⟩ := sk
          obtain ⟨ch, hch⟩ : ∃ ch : UInt8, Aside (ch = r[k]) := ⟨r[k], rfl⟩
          obtain ⟨z, sn, hzn⟩ : ∃ z sn, Aside (wr1 (Bk, ofk, wtk, lfk) ch = (z, sn)) := ⟨_, _, rfl⟩
          have hwb : Calls Tryz.prog 100 #[.pointer (some ⟨d, 0, none⟩), .int .u8 (r[k].toNat : Int)] wr fun e w' => e = .returned (.bool z) ∧ Aside (WroteD d v w2 sn w') := by
            obtain ⟨vk, hDk, h2, h3⟩ := A.out.1
            refine (write_byte wr r[k] hDk (by have := A.out.2.2; show Bk.length < 1000000; dsimp only at this; omega)).mono ?_
            rintro e w' ⟨he, H⟩
            rw [← hch.out, hzn.out] at he H
            refine ⟨he, WroteD.next ⟨vk, hDk, h2, h3⟩ (fun v'' hv'' => ?_)⟩
            have : v'' = vk := by
              have e1 := hDk.cell
              rw [hv''.cell] at e1
              simpa using e1
            rw [this]
            exact H.out
          have hdr : (recL (textO x)).drop k = ch :: (recL (textO x)).drop (k + 1) := by
            have := byteAt r k hlt
            rw [H2.out.2.2.2] at this
            rw [hch.out]
            exact this
          have HW : Aside (wrAll st (recL (textO x)) = if z = true then wrAll sn ((recL (textO x)).drop (k + 1)) else (false, sn)) := by
            show _ = _
            rw [A.out.2.1, hdr, wrAll, hzn.out]
          have HL : Aside (sn.1.length ≤ st.1.length + (k + 1)) := by
            have := wr1_len (Bk, ofk, wtk, lfk) ch
            rw [hzn.out] at this
            have h3 := A.out.2.2
            show sn.1.length ≤ _
            dsimp only at this h3
            omega
          clear hDk hdr
          go_wp2_with fail
          refine hwb.mono ?_
          clear hwb
          rintro e w3 ⟨rfl, H3⟩
          cases z with
          | true =>
            have HR : Aside (WroteD d v w2 sn w3 ∧ wrAll st (recL (textO x)) = wrAll sn ((recL (textO x)).drop (k + 1)) ∧ sn.1.length ≤ st.1.length + (k + 1)) := ⟨H3.out, HW.out, HL.out⟩
            clear A HW HL H3
            go_wp2
            go_roundg (r.size - (k + 1))
            case measure => omega
            case rel => exact ⟨k + 1, sn, by go_num, by omega, Nat.le_refl _, HR.out⟩
          | false =>
            have hc := (HA.out false sn HW.out).2 rfl
            have e10 := (H2.out.2.1.mono (H3.out.below H2.out.2.1.size HD.out.2.2.2.2.1)).here.errd.c10
            have HF : Aside (eV ad cd = .iface 416 (.pointer (some (ad 10))) ∧ WroteD d v w sx w3) := by
              refine ⟨by rw [hc.1]; rfl, ?_⟩
              rw [hc.2]
              exact WroteD.from H2.out.2.2.1 HD.out.1 H3.out
            clear A HW HL H3 hc
            go_wp2
            go_ret
            exact ⟨by rw [HF.out.1]; rfl, HF.out.2⟩
        · have d2 : decide ((k : Int) < (r.size : Int)) = false := by simp; omega
          have d2n : decide (k < r.size) = false := by simp; omega
          have HF : Aside (eV ad cd = .nilIface ∧ WroteD d v w sx wr) := by
            have hd : (recL (textO x)).drop k = [] := by
              rw [List.drop_eq_nil_iff, ← HRS.out]
              omega
            have hw := A.out.2.1
            rw [hd] at hw
            have hc := (HA.out true sk hw).1 rfl
            refine ⟨by rw [hc.1]; rfl, ?_⟩
            rw [hc.2]
            exact WroteD.from H2.out.2.2.1 HD.out.1 A.out.1
          clear A
          go_wp2
          go_ret
          exact ⟨by rw [HF.out.1]; rfl, HF.out.2⟩
end Go.Proofs.YtcggmagdndhkbaaGreatDoor
end
