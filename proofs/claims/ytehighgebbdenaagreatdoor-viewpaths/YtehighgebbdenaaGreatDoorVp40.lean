import Derived.Test.YtehighgebbdenaaGreatDoorVp39
import Derived.Lib.AppendZeros
import Derived.Deep.Cut
import Derived.Deep.CutRange
import Derived.Deep.DeepCutAuto
section
set_option linter.unusedVariables false
set_option linter.unusedSimpArgs false
namespace Go.Proofs.YtehighgebbdenaaGreatDoor
open Go.RowKit Go.Lib Go.Sort Go.Maps
open scoped Classical
abbrev Trn := Int × Int × OpX
def encTr (t : Trn) : List Value := [.int .i64 t.1, .int .i64 t.2.1] ++ encX t.2.2
theorem encTr_len (t : Trn) : (encTr t).length = 10 := rfl
def TrnOk (t : Trn) : Prop := t.2.2.2.2.2.2.2.2.1.size ≤ 60 ∧ t.2.2.2.2.2.2.2.2.2.size ≤ 60 ∧ t.2.2.2.2.2.1 < 256 ∧ (-9223372036854775808 ≤ nodeO t.2.2 ∧ nodeO t.2.2 ≤ 9223372036854775807) ∧ (-9223372036854775808 ≤ otherO t.2.2 ∧ otherO t.2.2 ≤ 9223372036854775807)
def TrnBlk (w : World) (b : Nat) (t : Trn) : Prop := w.heap[b]? = some (.cells #[.int .i64 t.1, .int .i64 t.2.1, .int .i64 t.2.2.1, .int .i64 t.2.2.2.1, .int .i64 t.2.2.2.2.1, .int .u8 (t.2.2.2.2.2.1 : Int), .int .i64 t.2.2.2.2.2.2.1, .int .i64 t.2.2.2.2.2.2.2.1, .string t.2.2.2.2.2.2.2.2.1, .string t.2.2.2.2.2.2.2.2.2] 166 (0, 0))
theorem TrnBlk.lt {w : World} {b : Nat} {t : Trn} (h : TrnBlk w b t) : b < w.heap.size := (Array.getElem?_eq_some_iff.1 h).1
theorem TrnBlk.later {w w' : World} {b : Nat} {t : Trn} (h : TrnBlk w b t) (hb : Below w.heap.size w w') : TrnBlk w' b t := (hb.block b h.lt).trans h
theorem TrnBlk.cells {w : World} {b : Nat} {t : Trn} (h : TrnBlk w b t) : w.cell? ⟨b, 0, none⟩ = some (.int .i64 t.1) ∧ w.cell? ⟨b, 1, none⟩ = some (.int .i64 t.2.1) ∧ w.cell? ⟨b, 2, none⟩ = some (.int .i64 t.2.2.1) ∧ w.cell? ⟨b, 3, none⟩ = some (.int .i64 t.2.2.2.1) ∧ w.cell? ⟨b, 4, none⟩ = some (.int .i64 t.2.2.2.2.1) ∧ w.cell? ⟨b, 5, none⟩ = some (.int .u8 (t.2.2.2.2.2.1 : Int)) ∧ w.cell? ⟨b, 6, none⟩ = some (.int .i64 t.2.2.2.2.2.2.1) ∧ w.cell? ⟨b, 7, none⟩ = some (.int .i64 t.2.2.2.2.2.2.2.1) ∧ w.cell? ⟨b, 8, none⟩ = some (.string t.2.2.2.2.2.2.2.2.1) ∧ w.cell? ⟨b, 9, none⟩ = some (.string t.2.2.2.2.2.2.2.2.2) := by
  unfold TrnBlk at h
  refine ⟨?_, ?_, ?_, ?_, ?_, ?_, ?_, ?_, ?_, ?_⟩ <;> simp [World.cell?, h]
def CrowdT (B : Nat) (w : World) (g cap : Nat) (br : Nat → Nat) (K : Nat → Rws) (i : Nat) (P : Nat) (t : Trn) (wr : World) : Prop := Crowd B w g cap br K i [P] wr ∧ TrnBlk wr P t
def CrowdO (B : Nat) (w : World) (g cap : Nat) (br : Nat → Nat) (K : Nat → Rws) (i : Nat) (P : Nat) (t : Trn) (Q : Nat) (wr : World) : Prop := Crowd B w g cap br K i [P] wr ∧ TrnBlk wr P t ∧ OpBlk wr Q t.2.2
def CrowdZ (B : Nat) (w : World) (g cap : Nat) (br : Nat → Nat) (P : Nat) (t : Trn) (Z : Nat) (y : OpX) (wr : World) : Prop := ∃ K j, Crowd B w g cap br K j [Z, P] wr ∧ TrnBlk wr P t ∧ OpBlk wr Z y
structure StartN (B : Nat) (w : World) (n : Nat) (br : Nat → Nat) (v : Value) (wr : World) : Prop where
  folk : ∃ c, Folk B wr n c br (fun r => (r : Int)) (fun _ _ => []) ∧ ∀ g, v.ownBlock = some g → ∀ r, r < n → c r g = 0
  row : wr.ownsRow B 25 1 v n (ptrs br n)
  below : Below B w wr
theorem Folk.still {B : Nat} {w w' : World} {n : Nat} {c : Nat → Nat → Nat} {br : Nat → Nat} {by_ : Nat → Int} {R : Nat → Rws} {S : Nat → Prop} (h : Folk B w n c br by_ R) (hk : Keeps S w w') (hS : ∀ k, S k → ∀ r, r < n → c r k = 0) : Folk B w' n c br by_ R :=
  ⟨fun r hr => ⟨(h.rep r hr).rep.kept (fun i hi => ⟨fun k hkl e => hk.block k hkl (fun q => hi (by rw [← e, hS k q r hr])), fun _ _ => rfl⟩), (h.rep r hr).low, fun k hkl => (h.rep r hr).high k (Nat.le_trans hk.size hkl)⟩, h.apart⟩
theorem StartN.next {B : Nat} {w wr w1 w2 : World} {n : Nat} {br : Nat → Nat} {v v2 : Value} {c0 : Nat → Nat} {br0 : Nat} {o : Obj} (h : StartN B w n br v wr) (hB : B ≤ wr.heap.size) (h0 : RepOwn wr.heap.size w1 c0 br0 (n : Int) (fun _ => [])) (hb : Below wr.heap.size wr w1)
    (hown : w2.ownsRow B 25 1 v2 (n + 1) (ptrs br n ++ [.pointer (some ⟨br0, 0, none⟩)])) (hgrow : (w1.alloc o).grownBy w2 v.ownBlock) (hcase : (∃ g cap, v = .slice (some ⟨g, 0, none⟩) n cap ∧ v2 = .slice (some ⟨g, 0, none⟩) (n + 1) cap) ∨ (v2.ownBlock = some (w1.alloc o).heap.size ∧ (w1.alloc o).grownBy w2 none)) : StartN B w (n + 1) (setAt br n br0) v2 w2 := by
  obtain ⟨c, hf, hg⟩ := h.folk
  have hf1 := hf.add hB h0 hb
  have hz : ∀ g, v.ownBlock = some g → ∀ r, r < n + 1 → setAt c n c0 r g = 0 := fun g hv r hr => by
    by_cases e : r = n
    · subst e
      rw [setAt_is]
      have := (h.row.lt g hv).2
      by_cases q : c0 g = 0
      · exact q
      · have := h0.low g q; omega
    · rw [setAt_ne _ _ e]; exact hg g hv r (by omega)
  have hk1 : Keeps (fun k => v.ownBlock = some k) w1 w2 := ((Keeps.refl _ w1).alloc o).trans ((keeps_of_grown hgrow).mono (fun k _ hk => by rw [← hk]))
  have hf2 := hf1.still hk1 (fun k hk r hr => hz k hk r hr)
  have eR : setAt (fun _ _ => [] : Nat → Rws) n (fun _ => []) = fun _ _ => [] := by funext r; unfold setAt; split <;> rfl
  rw [eR] at hf2
  refine ⟨⟨setAt c n c0, hf2.congr (fun r hr => ?_), fun g hv r hr => ?_⟩, ?_, h.below.trans (hb.mono hB |>.trans ?_)⟩
  · by_cases e : r = n
    · subst e; rw [setAt_is]
    · rw [setAt_ne _ _ e]
  · rcases hcase with ⟨g', cp, e1, e2⟩ | ⟨e1, _⟩
    · rw [e2] at hv
      exact hz g (by rw [e1]; exact hv) r hr
    · rw [hv] at e1
      cases e1
      exact (hf1.rep r hr).high _ (by simp)
  · rw [ptrs_succ, setAt_is, ptrs_congr (br := setAt br n br0) (br' := br) (fun r hr => setAt_ne _ _ (by omega))]
    exact hown
  · exact hk1.below (Nat.le_trans hB hb.size) (fun k hk => (h.row.lt k hk).1)
theorem StartN.crowd {B : Nat} {w wr : World} {br : Nat → Nat} {v : Value} (h : StartN B w 4 br v wr) (hB : B ≤ w.heap.size) : ∃ g cap, v = .slice (some ⟨g, 0, none⟩) 4 cap ∧ Crowd B w g cap br (fun _ _ => []) 0 [] wr := by
  obtain ⟨c, hf, hg⟩ := h.folk
  rcases h.row.2 with ⟨_, h0⟩ | ⟨g, cap, cur, rfl, _⟩
  · cases h0
  · refine ⟨g, cap, rfl, ⟨c, hf, fun r hr k hk => (show k = g by simpa using hk) ▸ hg g rfl r hr⟩, h.row, h.below, hB, ?_, ⟨[], Nat.le_refl _, fun r hr x hx => by simp [allR] at hx⟩, fun k hk => by simp at hk⟩
    have : (fun r => allR ((fun _ _ => [] : Nat → Rws) r)) = fun _ => [] := by funext r; simp [allR]
    rw [this]
    exact folk_start 4
set_option maxRecDepth 100000 in
set_option maxHeartbeats 16000000 in
theorem played_any {B : Nat} {ad : Nat → Addr} (w : World) (la : Option Addr) (lc : Nat) (l : List Trn) (hE0 : EnvT B ad w) (hcy : Aside (Cyc ad)) (hin : InRow encTr w la l) (hl : l.length ≤ 60) (hok : ∀ t ∈ l, TrnOk t) :
    Calls Tryz.prog 30 #[.slice la l.length lc] w fun e w' => ∃ g cap br K, e = .returned (.slice (some ⟨g, 0, none⟩) 4 cap) ∧ Aside (Crowd w.heap.size w g cap br K l.length [] w') := by
  obtain ⟨i0, hi, hz0, hz1, hz2⟩ := info_parts infoPR
  obtain ⟨S, hS⟩ : ∃ S, S = w.heap.size := ⟨_, rfl⟩
  have hE : EnvT S ad w := by rw [hS]; exact hE0.up hE0.env.size (Nat.le_refl _)
  rw [← hS]
  have HE : Aside (EnvT S ad w ∧ InRow encTr w la l ∧ S = w.heap.size) := ⟨hE, hin, hS⟩
  have H0 : Aside (StartN S w 0 (fun _ => 0) (.slice none 0 0) w) := ⟨⟨fun _ _ => 0, Folk.none _ _ _ _ _ _, fun g hg => by cases hg⟩, World.ownsRow_nil _ _ _ _, by rw [hS]; exact Below.refl _ w⟩
  clear hE hE0 hin hS
  go_enter Tryz.func30, Tryz.ntmps30
  go_wp2
  go_loopg [3, 4] 4 (fun kx s3 s4 wr => ∃ (n : Nat) (v : Value) (br : Nat → Nat), v = s3 ∧ s4 = .int .i64 (n : Int) ∧ n ≤ 4 ∧ 4 - n ≤ kx ∧ Aside (StartN S w n br v wr))
  case atStart => exact ⟨0, _, _, rfl, rfl, by omega, by omega, H0.out⟩
  case round =>
    obtain ⟨n, v, br, rfl, rfl, hn4, hnx, A⟩ := hrel
    clear H0
    by_cases hlt : n < 4
    · have d1 : decide ((n : Int) < 4) = true := by simp; omega
      have hB : S ≤ wr.heap.size := by have := A.out.below.size; have := HE.out.2.2; omega
      have hnew := rnew_ok wr (n : Int) (by omega) (by omega)
      obtain ⟨u, hu⟩ : ∃ u, u = wr := ⟨_, rfl⟩
      subst hu
      go_wp2_with fail
      refine hnew.mono ?_
      clear hnew
      rintro e w1 ⟨c0, br0, rfl, hR1, hb1⟩
      obtain ⟨v2, w2, hrun, hown, hgrow, hcase⟩ := append_in (P := Tryz.prog) (w1.alloc (.cells #[.pointer (some ⟨br0, 0, none⟩)] 25)) S 79 79 25 i0 _ 1 8 Tryz.underlying79 hi hz0 hz1 hz2 rfl (by omega) v n (ptrs br n) ((ownsHeld A.out.row (fun k hk => hb1.block k (A.out.row.lt k hk).2)).alloc _) ⟨w1.heap.size, 0, none⟩ 1 1 (by omega) [.pointer (some ⟨br0, 0, none⟩)] rfl
        (World.news_of_block (cs := #[.pointer (some ⟨br0, 0, none⟩)]) (t := 25) (fr := (0, 0)) (heap_alloc_new w1 _)) (by simp [Value.oneCell']) (by simp only [maxLen]; omega) (by omega) (by have := hb1.size; rw [World.size_alloc]; omega)
      have HN : Aside (StartN S w (n + 1) (setAt br n br0) v2 w2) := A.out.next hB hR1 hb1 hown hgrow hcase
      obtain ⟨g2, cp2, rfl⟩ := ownsRow_succ hown
      clear hR1 hb1 hown hgrow hcase A
      go_wp2_with (at_builtin; refine Lib.wpList_append_run _ rfl _ _ _ _ rfl _ _ rfl rfl _ _ hrun ?_)
      go_roundg (4 - (n + 1))
      case measure => omega
      case rel => exact ⟨n + 1, _, setAt br n br0, rfl, by go_num, by omega, by omega, HN.out⟩
    · have d1 : decide ((n : Int) < 4) = false := by simp; omega
      obtain rfl : n = 4 := by omega
      obtain ⟨g, cap, rfl, hC⟩ := A.out.crowd (by have := HE.out.2.2; omega)
      have HC : Aside (Crowd S w g cap br (fun _ _ => []) 0 [] wr) := hC
      clear hC A
      go_wp2
      clear d1
      go_loopg [7] l.length (fun kx s7 wr => ∃ (k : Nat) (K : Nat → Rws), s7 = .int .i64 (k : Int) ∧ k ≤ l.length ∧ l.length - k ≤ kx ∧ Aside (Crowd S w g cap br K k [] wr))
      case atStart => exact ⟨0, _, rfl, Nat.zero_le _, Nat.le_refl _, HC.out⟩
      case round =>
        obtain ⟨k, K0, rfl, hk, hkx, A⟩ := hrel
        clear HC
        by_cases hlt : k < l.length
        · have d2 : decide ((k : Int) < (l.length : Int)) = true := by simp; omega
          have wk : ((k : Int)).toNat = k := by omega
          have pk : (0 : Int) ≤ (k : Int) := by omega
          have bk : (k : Int) < (l.length : Int) := by omega
          obtain ⟨⟨ba, fr, t, b, n, kd, nd, o, s, v⟩, hx⟩ : ∃ x, Aside (l[k]? = some x) := ⟨l[k], List.getElem?_eq_getElem hlt⟩
          have hOk := hok _ (List.mem_of_getElem? hx.out)
          have hbw : Below w.heap.size w wr := by have := A.out.below; rwa [HE.out.2.2] at this
          obtain ⟨blk, off, hao, hc⟩ := (HE.out.2.1.later hbw).get encTr_len hx.out
          subst hao
          have r0 := hc 0 _ rfl
          have r1 := hc 1 _ rfl
          have r2 := hc 2 _ rfl
          have r3 := hc 3 _ rfl
          have r4 := hc 4 _ rfl
          have r5 := hc 5 _ rfl
          have r6 := hc 6 _ rfl
          have r7 := hc 7 _ rfl
          have r8 := hc 8 _ rfl
          have r9 := hc 9 _ rfl
          simp only [Nat.add_zero] at r0
          obtain ⟨P, hP⟩ : ∃ P, Aside (P = wr.heap.size) := ⟨_, rfl⟩
          obtain ⟨U, hU⟩ : ∃ U, Aside (U = wr.alloc (.cells #[.int .i64 ba, .int .i64 fr, .int .i64 t, .int .i64 b, .int .i64 n, .int .u8 (kd : Int), .int .i64 nd, .int .i64 o, .string s, .string v] 166)) := ⟨_, rfl⟩
          have hbU : Below wr.heap.size wr U := by rw [hU.out]; exact (Below.refl _ wr).alloc (Nat.le_refl _) _
          have T0 : TrnBlk U P (ba, fr, t, b, n, kd, nd, o, s, v) := by rw [hU.out, hP.out]; exact heap_alloc_new wr _
          have HC : Aside (Crowd S w g cap br K0 k [P] U ∧ TrnBlk U P (ba, fr, t, b, n, kd, nd, o, s, v) ∧ TrnOk (ba, fr, t, b, n, kd, nd, o, s, v)) := ⟨A.out.guard hbU (by rw [hP.out]; exact Nat.le_refl _) T0.lt, T0, hOk⟩
          obtain ⟨j0, j1, j2, j3, j4, j5, j6, j7, j8, j9⟩ := T0.cells
          dsimp only at j0 j1 j2 j3 j4 j5 j6 j7 j8 j9
          obtain ⟨u, hu⟩ : ∃ u, u = wr := ⟨_, rfl⟩
          subst hu
          clear hbU T0 hOk hbw hc A
          go_upto_region 13 with fail
          rw [← hU.out, ← hP.out]
          clear r0 r1 r2 r3 r4 r5 r6 r7 r8 r9
          by_cases hba : 0 ≤ ba ∧ ba < 4
          · obtain ⟨a, rfl⟩ : ∃ a : Nat, ba = (a : Int) := ⟨ba.toNat, by omega⟩
            have ha4 : a < 4 := by omega
            have e1 : decide ((a : Int) < 0) = false := by simp
            have e2 : decide ((4 : Int) ≤ (a : Int)) = false := by simp; omega
            have e3 : decide (4 ≤ a) = false := by simp; omega
            have wa : ((a : Int)).toNat = a := by omega
            have pa : (0 : Int) ≤ (a : Int) := by omega
            have qa : (a : Int) < 4 := by omega
            clear hba
            have n1 : ¬ ((a : Int) < 0) := by omega
            go_upto_region 14 with fail
            obtain ⟨zf, hzf⟩ : ∃ zf : Bool, Aside (zf = true ↔ 0 ≤ fr ∧ fr < 4) := ⟨decide (0 ≤ fr ∧ fr < 4), by show decide (0 ≤ fr ∧ fr < 4) = true ↔ _; exact decide_eq_true_iff⟩
            go_cut [59] (fun s59 wx => s59 = .bool zf ∧ wx = U)
            case first =>
              by_cases hf0 : 0 ≤ fr
              · have g1 : decide (0 ≤ fr) = true := by simp; omega
                have g3 : decide (fr < 4) = zf := by
                  rw [Bool.eq_iff_iff, decide_eq_true_iff, hzf.out]
                  omega
                go_wp2
                go_meet
                exact ⟨rfl, rfl⟩
              · have g1 : decide (0 ≤ fr) = false := by simp; omega
                have g3 : zf = false := by
                  rw [Bool.eq_false_iff, ne_eq, hzf.out]
                  omega
                subst g3
                go_wp2
                go_meet
                exact ⟨rfl, rfl⟩
            case rest =>
            obtain ⟨rfl, rfl⟩ := hcut
            obtain ⟨U1, hU1⟩ : ∃ U1, U1 = wc := ⟨_, rfl⟩
            subst hU1
            go_upto_if 59 with fail
            go_cut [9, 10, 11] (fun _ _ _ wx => ∃ (K' : Nat → Rws), Aside (Crowd S w g cap br K' k [P] wx ∧ TrnBlk wx P ((a : Int), fr, t, b, n, kd, nd, o, s, v)))
            case first =>
              by_cases hfr : 0 ≤ fr ∧ fr < 4
              · obtain rfl : zf = true := hzf.out.2 hfr
                obtain ⟨f, rfl⟩ : ∃ f : Nat, fr = (f : Int) := ⟨fr.toNat, by omega⟩
                have hf4 : f < 4 := by omega
                have wf : ((f : Int)).toNat = f := by omega
                have pf : (0 : Int) ≤ (f : Int) := by omega
                have qf : (f : Int) < 4 := by omega
                clear hfr
                have CS0 : CrowdT S w g cap br K0 k P ((a : Int), (f : Int), t, b, n, kd, nd, o, s, v) U1.drew := ⟨HC.out.1.later (Below.refl _ U1).drew, HC.out.2.1.later (Below.refl _ U1).drew⟩
                have hvec := crowd_vec CS0.1 (by omega) ha4
                go_upto_region 15 with fail
                refine wp_region_H (S := (fun w' => CrowdT S w g cap br K0 k P ((a : Int), (f : Int), t, b, n, kd, nd, o, s, v) w')) (by kernel_rfl) CS0 (fun hHeld => ?_)
                refine wpAnyH_take (i := 0) (v := ?vaa0) rfl (by kernel_rfl) (by kernel_rfl) (by kernel_rfl) (fun _ _ _ h => h) (Or.inl ⟨by rfl, ?hya0⟩) hHeld ?resta0
                case hya0 => (intro w' _; go_simp; try with_reducible rfl)
                try simp only [Act.put, List.setIfInBounds_toArray, List.set_cons_zero, List.set_cons_succ]
                refine wpAnyH_take (i := 1) (v := ?vaa1) rfl (by kernel_rfl) (by kernel_rfl) (by kernel_rfl) (fun _ _ _ h => h) (Or.inl ⟨by rfl, ?hya1⟩) hHeld ?resta1
                case hya1 => (intro w' _; go_simp; try with_reducible rfl)
                try simp only [Act.put, List.setIfInBounds_toArray, List.set_cons_zero, List.set_cons_succ]
                refine wpAnyH_take (i := 2) (v := ?vaa2) rfl (by kernel_rfl) (by kernel_rfl) (by kernel_rfl) (fun _ _ _ h => h) (Or.inl ⟨by rfl, ?hya2⟩) hHeld ?resta2
                case hya2 => (intro w' hSw; obtain ⟨q1, -⟩ := (TrnBlk.cells hSw.2).2; dsimp only at q1; clear hSw; go_simp; try with_reducible rfl)
                try simp only [Act.put, List.setIfInBounds_toArray, List.set_cons_zero, List.set_cons_succ]
                refine wpAnyH_take (i := 3) (v := ?vaa3) rfl (by kernel_rfl) (by kernel_rfl) (by kernel_rfl) (fun _ _ _ h => h) (Or.inl ⟨by rfl, ?hya3⟩) hHeld ?resta3
                case hya3 => (intro w' _; go_simp; try with_reducible rfl)
                try simp only [Act.put, List.setIfInBounds_toArray, List.set_cons_zero, List.set_cons_succ]
                refine wpAnyH_take (i := 4) (v := ?vaa4) rfl (by kernel_rfl) (by kernel_rfl) (by kernel_rfl) (fun _ _ _ h => h) (Or.inl ⟨by rfl, ?hya4⟩) hHeld ?resta4
                case hya4 => (intro w' hSw; have q2 := hSw.1.cell hf4; clear hSw; go_simp; try with_reducible rfl)
                try simp only [Act.put, List.setIfInBounds_toArray, List.set_cons_zero, List.set_cons_succ]
                refine wpAnyH_take (i := 5) (v := ?vaa5) rfl (by kernel_rfl) (by kernel_rfl) (by kernel_rfl) (fun _ _ _ h => h) (Or.inl ⟨by rfl, ?hya5⟩) hHeld ?resta5
                case hya5 => (intro w' _; go_simp; try with_reducible rfl)
                try simp only [Act.put, List.setIfInBounds_toArray, List.set_cons_zero, List.set_cons_succ]
                refine wpAnyH_take (i := 6) (v := ?vaa6) rfl (by kernel_rfl) (by kernel_rfl) (by kernel_rfl) (fun _ _ _ h => h) (Or.inl ⟨by rfl, ?hya6⟩) hHeld ?resta6
                case hya6 => (intro w' _; go_simp; try with_reducible rfl)
                try simp only [Act.put, List.setIfInBounds_toArray, List.set_cons_zero, List.set_cons_succ]
                refine wpAnyH_take (i := 7) (v := ?vaa7) rfl (by kernel_rfl) (by kernel_rfl) (by kernel_rfl) (fun _ _ _ h => h) (Or.inl ⟨by rfl, ?hya7⟩) hHeld ?resta7
                case hya7 => (intro w' hSw; obtain ⟨q0, -⟩ := TrnBlk.cells hSw.2; dsimp only at q0; clear hSw; go_simp; try with_reducible rfl)
                try simp only [Act.put, List.setIfInBounds_toArray, List.set_cons_zero, List.set_cons_succ]
                refine wpAnyH_take (i := 8) (v := ?vaa8) rfl (by kernel_rfl) (by kernel_rfl) (by kernel_rfl) (fun _ _ _ h => h) (Or.inl ⟨by rfl, ?hya8⟩) hHeld ?resta8
                case hya8 => (intro w' _; go_simp; try with_reducible rfl)
                try simp only [Act.put, List.setIfInBounds_toArray, List.set_cons_zero, List.set_cons_succ]
                refine wpAnyH_take (i := 9) (v := ?vaa9) rfl (by kernel_rfl) (by kernel_rfl) (by kernel_rfl) (fun _ _ _ h => h) (Or.inl ⟨by rfl, ?hya9⟩) hHeld ?resta9
                case hya9 => (intro w' hSw; have q2 := hSw.1.cell ha4; clear hSw; go_simp; try with_reducible rfl)
                try simp only [Act.put, List.setIfInBounds_toArray, List.set_cons_zero, List.set_cons_succ]
                refine wpAnyH_one (i := 10) (by kernel_rfl) rfl (fun K hK => ?_)
                go_simp
                refine hvec.mono ?_
                clear hvec
                rintro e w3 ⟨rfl, hb3⟩
                have C3 : CrowdT S w g cap br K0 k P ((a : Int), (f : Int), t, b, n, kd, nd, o, s, v) w3 := ⟨CS0.1.later hb3, CS0.2.later hb3⟩
                have hdf := crowd_diff C3.1 (by omega) ha4 hf4
                refine hK _ _ C3 ?_
                clear hK K hb3 CS0
                try simp only [Act.put, List.setIfInBounds_toArray, List.set_cons_zero, List.set_cons_succ]
                refine wpAnyH_one (i := 11) (by kernel_rfl) rfl (fun K hK => ?_)
                go_simp
                refine hdf.mono ?_
                clear hdf
                rintro e w4 ⟨ax, xc, xs, rfl, HX⟩
                have C4 : CrowdT S w g cap br K0 k P ((a : Int), (f : Int), t, b, n, kd, nd, o, s, v) w4 := ⟨C3.1.later HX.out.2.2.2.2, C3.2.later HX.out.2.2.2.2⟩
                refine hK _ _ C4 ?_
                clear hK K C3
                try simp only [Act.put, List.setIfInBounds_toArray, List.set_cons_zero, List.set_cons_succ]
                refine wpAnyH_one (i := 12) (by kernel_rfl) rfl (fun K hK => ?_)
                go_simp
                refine hK _ _ C4 ?_
                clear hK K
                refine wpAnyH_done (by kernel_rfl) ?_ _
                try simp only [Act.put, List.setIfInBounds_toArray, List.set_cons_zero, List.set_cons_succ]
                have hjn := crowd_join C4.1 HE.out.1 (by omega) ha4 hf4 ax xc xs HX.out.1 HX.out.2.1 HX.out.2.2.1 HX.out.2.2.2.1
                have hc1 := C4.1.cell ha4
                obtain ⟨y0, y1, -⟩ := C4.2.cells
                dsimp only at y0 y1
                have HC4 : Aside (TrnBlk w4 P ((a : Int), (f : Int), t, b, n, kd, nd, o, s, v)) := C4.2
                clear C4 HX
                go_wp2_with fail
                refine hjn.mono ?_
                clear hjn
                rintro e w5 ⟨m, R', rfl, H5⟩
                clear hc1 y0 y1
                go_wp2
                go_meet
                exact ⟨_, H5.out.1, (H5.out.2.2 P (by simp)).trans HC4.out⟩
              · obtain rfl : zf = false := by
                  rw [Bool.eq_false_iff, ne_eq, hzf.out]
                  exact hfr
                go_wp2
                go_meet
                exact ⟨K0, HC.out.1, HC.out.2.1⟩
            case rest =>
              obtain ⟨K1, HC1⟩ := hcut
              obtain ⟨x0_, x1_, y2, y3, y4, y5, y6, y7, y8, y9⟩ := HC1.out.2.cells
              dsimp only at x0_ x1_ y2 y3 y4 y5 y6 y7 y8 y9
              clear j0 j1 j2 j3 j4 j5 j6 j7 j8 j9
              obtain ⟨V, hV⟩ : ∃ V, Aside (V = wc.alloc (.cells #[.int .i64 t, .int .i64 b, .int .i64 n, .int .u8 (kd : Int), .int .i64 nd, .int .i64 o, .string s, .string v] 38)) := ⟨_, rfl⟩
              obtain ⟨Q, hQ⟩ : ∃ Q, Aside (Q = wc.heap.size) := ⟨_, rfl⟩
              have hbV : Below wc.heap.size wc V := by rw [hV.out]; exact (Below.refl _ wc).alloc (Nat.le_refl _) _
              have O0 : OpBlk V Q (t, b, n, kd, nd, o, s, v) := by rw [hV.out, hQ.out]; exact OpBlk.new wc (t, b, n, kd, nd, o, s, v)
              have HV : Aside (Crowd S w g cap br K1 k [P] V ∧ TrnBlk V P ((a : Int), fr, t, b, n, kd, nd, o, s, v) ∧ OpBlk V Q (t, b, n, kd, nd, o, s, v)) := ⟨HC1.out.1.later hbV, HC1.out.2.later hbV, O0⟩
              clear hbV O0
              go_upto_region 20 with fail
              rw [← hV.out, ← hQ.out]
              clear y2 y3 y4 y5 y6 y7 y8 y9 x0_ x1_
              have CS0 : CrowdO S w g cap br K1 k P ((a : Int), fr, t, b, n, kd, nd, o, s, v) Q V.drew := ⟨HV.out.1.later (Below.refl _ V).drew, HV.out.2.1.later (Below.refl _ V).drew, HV.out.2.2.later (Below.refl _ V).drew⟩
              have hmk := fun (W : World) (hW : CrowdO S w g cap br K1 k P ((a : Int), fr, t, b, n, kd, nd, o, s, v) Q W) => crowd_make hW.1 HE.out.1 hcy (by omega) ha4 (t, b, n, kd, nd, o, s, v) (by have := HC.out.2.2.1; show s.size ≤ 1000000; dsimp only at this; omega) (by have := HC.out.2.2.2.1; show v.size ≤ 1000000; dsimp only at this; omega) HC.out.2.2.2.2.1 HC.out.2.2.2.2.2.1 HC.out.2.2.2.2.2.2
              unfold encO at hmk
              dsimp only at hmk
              have HMK := Lib.hid hmk
              clear hmk
              go_cut [13, 14] (fun s13 s14 wx => ∃ (Z cd : Nat) (y : OpX), s13 = .pointer (some ⟨Z, 0, none⟩) ∧ s14 = eV ad cd ∧ Aside (Crowd S w g cap br K1 k [Z, P] wx ∧ TrnBlk wx P ((a : Int), fr, t, b, n, kd, nd, o, s, v) ∧ OpBlk wx Z y ∧ ((cd ≠ 0 ∧ y = zeroO) ∨ (cd = 0 ∧ ∃ T, timeO (allR (K1 a)) T ∧ NextOp (K1 a) a T y))))
              case first =>
                refine wp_region_H (S := (fun w' => CrowdO S w g cap br K1 k P ((a : Int), fr, t, b, n, kd, nd, o, s, v) Q w')) (by kernel_rfl) CS0 (fun hHeld => ?_)
                refine wpAnyH_take (i := 0) (v := ?vab0) rfl (by kernel_rfl) (by kernel_rfl) (by kernel_rfl) (fun _ _ _ h => h) (Or.inl ⟨by rfl, ?hyb0⟩) hHeld ?restb0
                case hyb0 => (intro w' _; go_simp; try with_reducible rfl)
                try simp only [Act.put, List.setIfInBounds_toArray, List.set_cons_zero, List.set_cons_succ]
                refine wpAnyH_take (i := 1) (v := ?vab1) rfl (by kernel_rfl) (by kernel_rfl) (by kernel_rfl) (fun _ _ _ h => h) (Or.inl ⟨by rfl, ?hyb1⟩) hHeld ?restb1
                case hyb1 => (intro w' _; go_simp; try with_reducible rfl)
                try simp only [Act.put, List.setIfInBounds_toArray, List.set_cons_zero, List.set_cons_succ]
                refine wpAnyH_take (i := 2) (v := ?vab2) rfl (by kernel_rfl) (by kernel_rfl) (by kernel_rfl) (fun _ _ _ h => h) (Or.inl ⟨by rfl, ?hyb2⟩) hHeld ?restb2
                case hyb2 => (intro w' hSw; obtain ⟨q0, -⟩ := TrnBlk.cells hSw.2.1; dsimp only at q0; clear hSw; go_simp; try with_reducible rfl)
                try simp only [Act.put, List.setIfInBounds_toArray, List.set_cons_zero, List.set_cons_succ]
                refine wpAnyH_take (i := 3) (v := ?vab3) rfl (by kernel_rfl) (by kernel_rfl) (by kernel_rfl) (fun _ _ _ h => h) (Or.inl ⟨by rfl, ?hyb3⟩) hHeld ?restb3
                case hyb3 => (intro w' _; go_simp; try with_reducible rfl)
                try simp only [Act.put, List.setIfInBounds_toArray, List.set_cons_zero, List.set_cons_succ]
                refine wpAnyH_take (i := 4) (v := ?vab4) rfl (by kernel_rfl) (by kernel_rfl) (by kernel_rfl) (fun _ _ _ h => h) (Or.inl ⟨by rfl, ?hyb4⟩) hHeld ?restb4
                case hyb4 => (intro w' hSw; have q2 := hSw.1.cell ha4; clear hSw; go_simp; try with_reducible rfl)
                try simp only [Act.put, List.setIfInBounds_toArray, List.set_cons_zero, List.set_cons_succ]
                refine wpAnyH_take (i := 5) (v := ?vab5) rfl (by kernel_rfl) (by kernel_rfl) (by kernel_rfl) (fun _ _ _ h => h) (Or.inl ⟨by rfl, ?hyb5⟩) hHeld ?restb5
                case hyb5 => (intro w' hSw; obtain ⟨o0, o1, o2, o3, o4, o5, o6, o7, -⟩ := OpBlk.cells hSw.2.2; dsimp only at o0 o1 o2 o3 o4 o5 o6 o7; clear hSw; go_simp; try with_reducible rfl)
                try simp only [Act.put, List.setIfInBounds_toArray, List.set_cons_zero, List.set_cons_succ]
                refine wpAnyH_two (i := 6) (j := 10) (by kernel_rfl) rfl rfl (fun K hK => ?ca) (fun K hK => ?al)
                case ca =>
                  go_simp
                  refine (HMK.out V.drew CS0).mono ?_
                  rintro e w6 ⟨y, cd, rfl, H6⟩
                  have C6 : CrowdO S w g cap br K1 k P ((a : Int), fr, t, b, n, kd, nd, o, s, v) Q w6 := ⟨CS0.1.later H6.out.1, CS0.2.1.later H6.out.1, CS0.2.2.later H6.out.1⟩
                  refine hK _ _ C6 ?_
                  clear hK K CS0
                  obtain ⟨t', b', m', kd', nd', o', s', v'⟩ := y
                  obtain ⟨er, her⟩ : ∃ er, Aside (er = eV ad cd) := ⟨_, rfl⟩
                  rw [← her.out]
                  unfold encO
                  dsimp only
                  try simp only [Act.put, List.setIfInBounds_toArray, List.set_cons_zero, List.set_cons_succ]
                  refine wpAnyH_take (i := 7) (v := ?vac7) rfl (by kernel_rfl) (by kernel_rfl) (by kernel_rfl) (fun _ _ _ h => h) (Or.inl ⟨by rfl, ?hyc7⟩) C6 ?restc7
                  case hyc7 => (intro w' _; go_simp; try with_reducible rfl)
                  try simp only [Act.put, List.setIfInBounds_toArray, List.set_cons_zero, List.set_cons_succ]
                  refine wpAnyH_take (i := 8) (v := ?vac8) rfl (by kernel_rfl) (by kernel_rfl) (by kernel_rfl) (fun _ _ _ h => h) (Or.inl ⟨by rfl, ?hyc8⟩) C6 ?restc8
                  case hyc8 => (intro w' _; go_simp; try with_reducible rfl)
                  try simp only [Act.put, List.setIfInBounds_toArray, List.set_cons_zero, List.set_cons_succ]
                  refine wpAnyH_take (i := 9) (v := ?vac9) rfl (by kernel_rfl) (by kernel_rfl) (by kernel_rfl) (fun _ _ _ h => h) (Or.inl ⟨by rfl, ?hyc9⟩) C6 ?restc9
                  case hyc9 => (intro w' _; go_simp; try with_reducible rfl)
                  try simp only [Act.put, List.setIfInBounds_toArray, List.set_cons_zero, List.set_cons_succ]
                  obtain ⟨X, hX⟩ : ∃ X, Aside (X = w6.alloc (.cells #[.int .i64 0, .int .i64 0, .int .i64 0, .int .u8 0, .int .i64 0, .int .i64 0, .string ⟨#[]⟩, .string ⟨#[]⟩] 38)) := ⟨_, rfl⟩
                  have hbX : Below w6.heap.size w6 X := by rw [hX.out]; exact (Below.refl _ w6).alloc (Nat.le_refl _) _
                  have ZX : OpBlk X w6.heap.size zeroO := by rw [hX.out]; exact OpBlk.new w6 zeroO
                  have CX : CrowdO S w g cap br K1 k P ((a : Int), fr, t, b, n, kd, nd, o, s, v) Q X := ⟨C6.1.later hbX, C6.2.1.later hbX, C6.2.2.later hbX⟩
                  refine wpAnyH_one (i := 10) (by kernel_rfl) rfl (fun K hK => ?_)
                  go_simp
                  rw [← hX.out]
                  refine hK _ _ CX ?_
                  clear hK K
                  try simp only [Act.put, List.setIfInBounds_toArray, List.set_cons_zero, List.set_cons_succ]
                  obtain ⟨z0, z1, z2, z3, z4, z5, z6, z7, zf'⟩ := ZX.cells
                  unfold zeroO at z0 z1 z2 z3 z4 z5 z6 z7
                  dsimp only at z0 z1 z2 z3 z4 z5 z6 z7
                  have hb7 : Below w6.heap.size w6 (X.setCells w6.heap.size 0 (encX (t', b', m', kd', nd', o', s', v'))) := hbX.trans ((setCells_keeps w6.heap.size _ 0 X).below hbX.size (fun q e => by omega))
                  have C7 : CrowdO S w g cap br K1 k P ((a : Int), fr, t, b, n, kd, nd, o, s, v) Q (X.setCells w6.heap.size 0 (encX (t', b', m', kd', nd', o', s', v'))) := ⟨C6.1.later hb7, C6.2.1.later hb7, C6.2.2.later hb7⟩
                  have O7 := opBlk_put ZX (t', b', m', kd', nd', o', s', v')
                  refine wpAnyH_one (i := 11) (by kernel_rfl) rfl (fun K hK => ?_)
                  go_simp
                  refine hK _ _ C7 ?_
                  clear hK K z0 z1 z2 z3 z4 z5 z6 z7 zf'
                  try simp only [Act.put, List.setIfInBounds_toArray, List.set_cons_zero, List.set_cons_succ]
                  refine wpAnyH_take (i := 12) (v := ?vag12) rfl (by kernel_rfl) (by kernel_rfl) (by kernel_rfl) (fun _ _ _ h => h) (Or.inl ⟨by rfl, ?hyg12⟩) C7 ?restg12
                  case hyg12 => (intro w' _; go_simp; try with_reducible rfl)
                  try simp only [Act.put, List.setIfInBounds_toArray, List.set_cons_zero, List.set_cons_succ]
                  refine wpAnyH_done (by kernel_rfl) ?_ _
                  try simp only [Act.put, List.setIfInBounds_toArray, List.set_cons_zero, List.set_cons_succ]
                  go_wp2
                  go_meet
                  exact ⟨_, cd, _, rfl, her.out, C6.1.guard hb7 (Nat.le_refl _) O7.lt, C7.2.1, O7, H6.out.2.2⟩
                case al =>
                  obtain ⟨X, hX⟩ : ∃ X, Aside (X = (V.alloc (.cells #[.int .i64 0, .int .i64 0, .int .i64 0, .int .u8 0, .int .i64 0, .int .i64 0, .string ⟨#[]⟩, .string ⟨#[]⟩] 38)).drew) := ⟨_, rfl⟩
                  obtain ⟨ZB, hZB⟩ : ∃ ZB, Aside (ZB = V.drew.heap.size) := ⟨_, rfl⟩
                  have hbX : Below V.drew.heap.size V.drew X := by rw [hX.out]; exact (Below.refl _ V.drew).alloc (Nat.le_refl _) _
                  have ZX : OpBlk X ZB zeroO := by rw [hX.out, hZB.out]; exact OpBlk.new V.drew zeroO
                  have CX : CrowdO S w g cap br K1 k P ((a : Int), fr, t, b, n, kd, nd, o, s, v) Q X := ⟨CS0.1.later hbX, CS0.2.1.later hbX, CS0.2.2.later hbX⟩
                  have hlow : Below V.drew.heap.size V.drew X := hbX
                  go_simp
                  rw [show V.heap.size = ZB from hZB.out.symm, ← hX.out]
                  refine hK _ _ CX ?_
                  clear hK K
                  try simp only [Act.put, List.setIfInBounds_toArray, List.set_cons_zero, List.set_cons_succ]
                  refine wpAnyH_one (i := 6) (by kernel_rfl) rfl (fun K hK => ?_)
                  go_simp
                  refine (HMK.out X CX).mono ?_
                  rintro e w6 ⟨y, cd, rfl, H6⟩
                  have C6 : CrowdO S w g cap br K1 k P ((a : Int), fr, t, b, n, kd, nd, o, s, v) Q w6 := ⟨CX.1.later H6.out.1, CX.2.1.later H6.out.1, CX.2.2.later H6.out.1⟩
                  refine hK _ _ C6 ?_
                  clear hK K
                  obtain ⟨t', b', m', kd', nd', o', s', v'⟩ := y
                  obtain ⟨er, her⟩ : ∃ er, Aside (er = eV ad cd) := ⟨_, rfl⟩
                  rw [← her.out]
                  unfold encO
                  dsimp only
                  try simp only [Act.put, List.setIfInBounds_toArray, List.set_cons_zero, List.set_cons_succ]
                  refine wpAnyH_take (i := 7) (v := ?vad7) rfl (by kernel_rfl) (by kernel_rfl) (by kernel_rfl) (fun _ _ _ h => h) (Or.inl ⟨by rfl, ?hyd7⟩) C6 ?restd7
                  case hyd7 => (intro w' _; go_simp; try with_reducible rfl)
                  try simp only [Act.put, List.setIfInBounds_toArray, List.set_cons_zero, List.set_cons_succ]
                  refine wpAnyH_take (i := 8) (v := ?vad8) rfl (by kernel_rfl) (by kernel_rfl) (by kernel_rfl) (fun _ _ _ h => h) (Or.inl ⟨by rfl, ?hyd8⟩) C6 ?restd8
                  case hyd8 => (intro w' _; go_simp; try with_reducible rfl)
                  try simp only [Act.put, List.setIfInBounds_toArray, List.set_cons_zero, List.set_cons_succ]
                  refine wpAnyH_take (i := 9) (v := ?vad9) rfl (by kernel_rfl) (by kernel_rfl) (by kernel_rfl) (fun _ _ _ h => h) (Or.inl ⟨by rfl, ?hyd9⟩) C6 ?restd9
                  case hyd9 => (intro w' _; go_simp; try with_reducible rfl)
                  try simp only [Act.put, List.setIfInBounds_toArray, List.set_cons_zero, List.set_cons_succ]
                  have Z6 := ZX.later H6.out.1
                  obtain ⟨z0, z1, z2, z3, z4, z5, z6, z7, zf'⟩ := Z6.cells
                  unfold zeroO at z0 z1 z2 z3 z4 z5 z6 z7
                  dsimp only at z0 z1 z2 z3 z4 z5 z6 z7
                  have hb7 : Below V.drew.heap.size V.drew (w6.setCells ZB 0 (encX (t', b', m', kd', nd', o', s', v'))) := (hlow.trans (H6.out.1.mono hlow.size)).trans ((setCells_keeps ZB _ 0 w6).below (Nat.le_trans hlow.size H6.out.1.size) (fun q e => by have := hZB.out; omega))
                  have C7 : CrowdO S w g cap br K1 k P ((a : Int), fr, t, b, n, kd, nd, o, s, v) Q (w6.setCells ZB 0 (encX (t', b', m', kd', nd', o', s', v'))) := ⟨CS0.1.later hb7, CS0.2.1.later hb7, CS0.2.2.later hb7⟩
                  have O7 := opBlk_put Z6 (t', b', m', kd', nd', o', s', v')
                  refine wpAnyH_one (i := 11) (by kernel_rfl) rfl (fun K hK => ?_)
                  go_simp
                  refine hK _ _ C7 ?_
                  clear hK K z0 z1 z2 z3 z4 z5 z6 z7 zf'
                  try simp only [Act.put, List.setIfInBounds_toArray, List.set_cons_zero, List.set_cons_succ]
                  refine wpAnyH_take (i := 12) (v := ?vah12) rfl (by kernel_rfl) (by kernel_rfl) (by kernel_rfl) (fun _ _ _ h => h) (Or.inl ⟨by rfl, ?hyh12⟩) C7 ?resth12
                  case hyh12 => (intro w' _; go_simp; try with_reducible rfl)
                  try simp only [Act.put, List.setIfInBounds_toArray, List.set_cons_zero, List.set_cons_succ]
                  refine wpAnyH_done (by kernel_rfl) ?_ _
                  try simp only [Act.put, List.setIfInBounds_toArray, List.set_cons_zero, List.set_cons_succ]
                  go_wp2
                  go_meet
                  exact ⟨_, cd, _, rfl, her.out, CS0.1.guard hb7 (by rw [hZB.out]; exact Nat.le_refl _) O7.lt, C7.2.1, O7, H6.out.2.2⟩
              case rest =>
                obtain ⟨Z, cd, y, rfl, rfl, HR⟩ := hcut
                obtain ⟨X, hX⟩ : ∃ X, X = wc := ⟨_, rfl⟩
                subst hX
                by_cases hcd : cd = 0
                · subst hcd
                  have hev : eV ad 0 = .nilIface := rfl
                  rw [hev]
                  obtain ⟨T, hT, hN⟩ : ∃ T, timeO (allR (K1 a)) T ∧ NextOp (K1 a) a T y := by
                    rcases HR.out.2.2.2 with ⟨q, _⟩ | ⟨_, q⟩
                    · exact absurd rfl q
                    · exact q
                  have HN : Aside (timeO (allR (K1 a)) T ∧ NextOp (K1 a) a T y) := ⟨hT, hN⟩
                  clear hT hN hev
                  go_upto_region 22 with fail
                  obtain ⟨t', b', m', kd', nd', o', s', v'⟩ := y
                  have CS1 : CrowdZ S w g cap br P ((a : Int), fr, t, b, n, kd, nd, o, s, v) Z (t', b', m', kd', nd', o', s', v') X.drew := ⟨K1, k, HR.out.1.later (Below.refl _ X).drew, HR.out.2.1.later (Below.refl _ X).drew, HR.out.2.2.1.later (Below.refl _ X).drew⟩
                  obtain ⟨Y, hY⟩ : ∃ Y, Aside (Y = (X.alloc (.cells #[.int .i64 t', .int .i64 b', .int .i64 m', .int .u8 (kd' : Int), .int .i64 nd', .int .i64 o', .string s', .string v'] 38)).drew) := ⟨_, rfl⟩
                  have hbY : Below X.heap.size X Y := by rw [hY.out]; exact ((Below.refl _ X).alloc (Nat.le_refl _) _).drew
                  have CY : Crowd S w g cap br K1 k [Z, P] Y ∧ TrnBlk Y P ((a : Int), fr, t, b, n, kd, nd, o, s, v) ∧ OpBlk Y Z (t', b', m', kd', nd', o', s', v') := ⟨HR.out.1.later hbY, HR.out.2.1.later hbY, HR.out.2.2.1.later hbY⟩
                  have hinY : OpsIn Y (some ⟨X.heap.size, 0, none⟩) [(t', b', m', kd', nd', o', s', v')] := by
                    refine .inr ⟨X.heap.size, 0, rfl, fun j u hj => ?_⟩
                    rw [hY.out]
                    have := lit_cellsO X (t', b', m', kd', nd', o', s', v') 38 j u (by simpa [cellsOf, flat] using hj)
                    rw [Addr.add_lit] at this
                    exact this
                  have hjn := crowd_own CY.1 HE.out.1 (by omega) ha4 (some ⟨X.heap.size, 0, none⟩) 1 T (t', b', m', kd', nd', o', s', v') hinY HN.out.1 HN.out.2
                  have hjn2 := hjn.mono (R' := fun e w' => ∃ (R' : Rws), e = .returned (.tuple #[.int .i64 1, .nilIface]) ∧ Aside (Crowd S w g cap br (setAt K1 a R') (k + 1) [Z, P] w') ∧ CrowdZ S w g cap br P ((a : Int), fr, t, b, n, kd, nd, o, s, v) Z (t', b', m', kd', nd', o', s', v') w') (fun e w' q => by
                    obtain ⟨R', he, q⟩ := q
                    exact ⟨R', he, q.out.1, _, _, q.out.1, (q.out.2 P (by simp)).trans CY.2.1, (q.out.2 Z (by simp)).trans CY.2.2⟩)
                  have CYZ : CrowdZ S w g cap br P ((a : Int), fr, t, b, n, kd, nd, o, s, v) Z (t', b', m', kd', nd', o', s', v') Y := ⟨_, _, CY⟩
                  clear hjn hinY hbY CY
                  refine wp_region_H (S := (fun w' => CrowdZ S w g cap br P ((a : Int), fr, t, b, n, kd, nd, o, s, v) Z (t', b', m', kd', nd', o', s', v') w')) (by kernel_rfl) CS1 (fun hHeld => ?_)
                  refine wpAnyH_take (i := 0) (v := ?vae0) rfl (by kernel_rfl) (by kernel_rfl) (by kernel_rfl) (fun _ _ _ h => h) (Or.inl ⟨by rfl, ?hye0⟩) hHeld ?reste0
                  case hye0 => (intro w' _; go_simp; try with_reducible rfl)
                  try simp only [Act.put, List.setIfInBounds_toArray, List.set_cons_zero, List.set_cons_succ]
                  refine wpAnyH_take (i := 1) (v := ?vae1) rfl (by kernel_rfl) (by kernel_rfl) (by kernel_rfl) (fun _ _ _ h => h) (Or.inl ⟨by rfl, ?hye1⟩) hHeld ?reste1
                  case hye1 => (intro w' _; go_simp; try with_reducible rfl)
                  try simp only [Act.put, List.setIfInBounds_toArray, List.set_cons_zero, List.set_cons_succ]
                  refine wpAnyH_take (i := 2) (v := ?vae2) rfl (by kernel_rfl) (by kernel_rfl) (by kernel_rfl) (fun _ _ _ h => h) (Or.inl ⟨by rfl, ?hye2⟩) hHeld ?reste2
                  case hye2 => (intro w' hSw; obtain ⟨_, _, _, qt, _⟩ := hSw; obtain ⟨q0, -⟩ := TrnBlk.cells qt; dsimp only at q0; clear qt; go_simp; try with_reducible rfl)
                  try simp only [Act.put, List.setIfInBounds_toArray, List.set_cons_zero, List.set_cons_succ]
                  refine wpAnyH_take (i := 3) (v := ?vae3) rfl (by kernel_rfl) (by kernel_rfl) (by kernel_rfl) (fun _ _ _ h => h) (Or.inl ⟨by rfl, ?hye3⟩) hHeld ?reste3
                  case hye3 => (intro w' _; go_simp; try with_reducible rfl)
                  try simp only [Act.put, List.setIfInBounds_toArray, List.set_cons_zero, List.set_cons_succ]
                  refine wpAnyH_take (i := 4) (v := ?vae4) rfl (by kernel_rfl) (by kernel_rfl) (by kernel_rfl) (fun _ _ _ h => h) (Or.inl ⟨by rfl, ?hye4⟩) hHeld ?reste4
                  case hye4 => (intro w' hSw; obtain ⟨_, _, qc, _⟩ := hSw; have q2 := qc.cell ha4; clear qc; go_simp; try with_reducible rfl)
                  try simp only [Act.put, List.setIfInBounds_toArray, List.set_cons_zero, List.set_cons_succ]
                  refine wpAnyH_take (i := 5) (v := ?vae5) rfl (by kernel_rfl) (by kernel_rfl) (by kernel_rfl) (fun _ _ _ h => h) (Or.inl ⟨by rfl, ?hye5⟩) hHeld ?reste5
                  case hye5 => (intro w' hSw; obtain ⟨_, _, _, _, qo⟩ := hSw; obtain ⟨o0, o1, o2, o3, o4, o5, o6, o7, -⟩ := OpBlk.cells qo; dsimp only at o0 o1 o2 o3 o4 o5 o6 o7; clear qo; go_simp; try with_reducible rfl)
                  try simp only [Act.put, List.setIfInBounds_toArray, List.set_cons_zero, List.set_cons_succ]
                  refine wpAnyH_one (i := 6) (by kernel_rfl) rfl (fun K hK => ?_)
                  go_simp
                  rw [← hY.out]
                  refine hK _ _ CYZ ?_
                  clear hK K CS1
                  try simp only [Act.put, List.setIfInBounds_toArray, List.set_cons_zero, List.set_cons_succ]
                  refine wpAnyH_one (i := 7) (by kernel_rfl) rfl (fun K hK => ?_)
                  go_simp
                  refine hjn2.mono ?_
                  clear hjn2
                  rintro e w9 ⟨R9, rfl, HC9, C9⟩
                  refine hK _ _ C9 ?_
                  clear hK K CYZ
                  try simp only [Act.put, List.setIfInBounds_toArray, List.set_cons_zero, List.set_cons_succ]
                  refine wpAnyH_take (i := 8) (v := ?vaf8) rfl (by kernel_rfl) (by kernel_rfl) (by kernel_rfl) (fun _ _ _ h => h) (Or.inl ⟨by rfl, ?hyf8⟩) C9 ?restf8
                  case hyf8 => (intro w' _; go_simp; try with_reducible rfl)
                  try simp only [Act.put, List.setIfInBounds_toArray, List.set_cons_zero, List.set_cons_succ]
                  refine wpAnyH_take (i := 9) (v := ?vaf9) rfl (by kernel_rfl) (by kernel_rfl) (by kernel_rfl) (fun _ _ _ h => h) (Or.inl ⟨by rfl, ?hyf9⟩) C9 ?restf9
                  case hyf9 => (intro w' _; go_simp; try with_reducible rfl)
                  try simp only [Act.put, List.setIfInBounds_toArray, List.set_cons_zero, List.set_cons_succ]
                  refine wpAnyH_take (i := 10) (v := ?vaf10) rfl (by kernel_rfl) (by kernel_rfl) (by kernel_rfl) (fun _ _ _ h => h) (Or.inl ⟨by rfl, ?hyf10⟩) C9 ?restf10
                  case hyf10 => (intro w' _; go_simp; try with_reducible rfl)
                  try simp only [Act.put, List.setIfInBounds_toArray, List.set_cons_zero, List.set_cons_succ]
                  refine wpAnyH_take (i := 11) (v := ?vaf11) rfl (by kernel_rfl) (by kernel_rfl) (by kernel_rfl) (fun _ _ _ h => h) (Or.inl ⟨by rfl, ?hyf11⟩) C9 ?restf11
                  case hyf11 => (intro w' _; go_simp; try with_reducible rfl)
                  try simp only [Act.put, List.setIfInBounds_toArray, List.set_cons_zero, List.set_cons_succ]
                  refine wpAnyH_done (by kernel_rfl) ?_ _
                  try simp only [Act.put, List.setIfInBounds_toArray, List.set_cons_zero, List.set_cons_succ]
                  clear C9
                  go_wp2
                  go_roundg (l.length - (k + 1))
                  case measure => omega
                  case rel => exact ⟨k + 1, _, by go_num, by omega, Nat.le_refl _, HC9.out.less (by simp)⟩
                · have hev : eV ad cd = .iface 399 (.pointer (some (ad (cd - 1)))) := if_neg hcd
                  rw [hev]
                  clear hev hcd
                  go_wp2
                  go_roundg (l.length - (k + 1))
                  case measure => omega
                  case rel => exact ⟨k + 1, K1, by go_num, by omega, Nat.le_refl _, (HR.out.1.up (by omega)).less (by simp)⟩
          · have HU : Aside (Crowd S w g cap br K0 k [P] U) := HC.out.1
            by_cases hneg : ba < 0
            · have e1 : decide (ba < 0) = true := by simp; omega
              go_wp2
              go_roundg (l.length - (k + 1))
              case measure => omega
              case rel => exact ⟨k + 1, K0, by go_num, by omega, Nat.le_refl _, (HU.out.up (by omega)).less (by simp)⟩
            · have e1 : decide (ba < 0) = false := by simp; omega
              have e2 : decide (4 ≤ ba) = true := by simp; omega
              go_wp2
              go_roundg (l.length - (k + 1))
              case measure => omega
              case rel => exact ⟨k + 1, K0, by go_num, by omega, Nat.le_refl _, (HU.out.up (by omega)).less (by simp)⟩
        · have d2 : decide ((k : Int) < (l.length : Int)) = false := by simp; omega
          obtain rfl : k = l.length := by omega
          have HA : Aside (Crowd S w g cap br K0 l.length [] wr) := A.out
          clear A
          go_wp2
          go_ret
          exact ⟨g, cap, br, K0, rfl, HA.out⟩
end Go.Proofs.YtehighgebbdenaaGreatDoor
end
