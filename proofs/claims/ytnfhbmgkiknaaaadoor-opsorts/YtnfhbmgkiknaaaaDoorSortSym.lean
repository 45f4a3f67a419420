/- Contract of slices.symMergeCmpFunc at elements of k cells that bear the place at which they stood, over the translation's bodies. -/
import Derived.Test.YtnfhbmgkiknaaaaDoorSortRot
import Derived.Shelf.SlSortCmp.QuietGrown
namespace Go.Proofs.YtnfhbmgkiknaaaaDoor
open Go.Shelf Go.RowKit Go.Lib Go.Sort

/-- What the sort is told, once. -/
structure SEnv (P : Program) {β : Type} [Inhabited β] (lt : β → β → Bool) (k : Nat) (enc : β × Nat → List Value) (cf : β × Nat → β × Nat → Int) (g : Nat) (w0 : World) (blk off : Nat) (d0 : Array (β × Nat)) : Prop where
  ty : STy P k
  fS : P.funcs[(167 : Nat)]? = some Tryd.f167
  fR : P.funcs[(145 : Nat)]? = some Tryd.f145
  fM : P.funcs[(125 : Nat)]? = some Tryd.f125
  row : RowK enc k w0 blk off d0
  less : ∀ x y, decide (cf x y < 0) = tlt lt x y
  swo : SWO lt
  eg : ∀ args w, (callFunc g args).run P w = .ok (.enter g args) w
  cmp : CmpLays P g #[] enc k cf blk off d0.size w0

/-- What symMerge promises. -/
def SymOk (P : Program) {β : Type} [Inhabited β] (lt : β → β → Bool) (k : Nat) (enc : β × Nat → List Value) (g : Nat) (w0 : World) (blk off cap a m b : Nat) (d : Array (β × Nat)) (w : World) : Prop :=
  Calls P 125 #[.slice (some ⟨blk, off, none⟩) d.size cap, .int .i64 a, .int .i64 m, .int .i64 b, .func (.func g) #[] #[]] w fun e w' => e = .returned (.tuple #[]) ∧ ∃ d', (PermIn a b d d' ∧ SortedIn (slt lt) a b d') ∧ SWK enc k w0 blk off d' w'

set_option maxHeartbeats 8000000 in
set_option maxRecDepth 1000000 in
theorem sym_first {P : Program} {β : Type} [Inhabited β] {lt : β → β → Bool} {k : Nat} {enc : β × Nat → List Value} {cf : β × Nat → β × Nat → Int} {g : Nat} {w0 : World} {blk off : Nat} {d0 : Array (β × Nat)} (V : SEnv P lt k enc cf g w0 blk off d0) (cap a m b : Nat) (d : Array (β × Nat)) (w : World)
    (hs : d0.size = d.size) (S : SWK enc k w0 blk off d w) (hr : Runs lt a m b d) (ham : a < m) (hmb : m < b) (hb : b ≤ d.size) (hsz : d.size < 4611686018427387904) (h1 : m = a + 1) :
    SymOk P lt k enc g w0 blk off cap a m b d w := by
  unfold SymOk
  have L := V.ty
  have mixed := L.mixed; have t0 := L.t0; have a0 := L.a0; have z0 := L.z0; have v0 := L.v0; have t3 := L.t3; have a3 := L.a3; have z3 := L.z3; have v3 := L.v3; have t4 := L.t4; have a4 := L.a4; have z4 := L.z4; have v4 := L.v4; have tS := L.tS; have aS := L.aS; have zS := L.zS; have vS := L.vS; have tC := L.tC; have aC := L.aC; have zC := L.zC; have vC := L.vC; have tU := L.tU; have aU := L.aU; have zU := L.zU; have vU := L.vU; have aE := L.aE; have zE := L.zE
  have R := V.row
  have eg := V.eg
  have CMP : Aside (CmpLays P g #[] enc k cf blk off d0.size w0) := V.cmp
  have LT : Aside (∀ x y, decide (cf x y < 0) = tlt lt x y) := V.less
  have S0 : Aside (SWK enc k w0 blk off d w) := S
  have HR : Aside (Runs lt a m b d) := hr
  clear S hr
  have q0 : ((m : Int) - (a : Int) == 1) = true := by simp; omega
  have H1 : Aside (m = a + 1) := h1
  clear h1
  go_enter V.fM, Tryd.ntmps125
  go_wp2
  clear q0
  go_loopg [10, 11] (b - m) (fun kx s10 s11 wr => ∃ (i j : Nat), s10 = .int .i64 (i : Int) ∧ s11 = .int .i64 (j : Int) ∧ m ≤ i ∧ i ≤ j ∧ j ≤ b ∧ j - i ≤ kx ∧ Aside ((m < i → tlt lt d[i - 1]! d[a]! = true) ∧ (j < b → tlt lt d[j]! d[a]! = false)) ∧ Aside (SWK enc k w0 blk off d wr))
  case atStart => exact ⟨m, b, rfl, rfl, Nat.le_refl _, by omega, Nat.le_refl _, Nat.le_refl _, ⟨fun h => by omega, fun h => by omega⟩, S0⟩
  case round =>
    clear S0
    obtain ⟨i, j, rfl, rfl, hi, hij, hj, hkx, ED, S1⟩ := hrel
    by_cases hlt : i < j
    · have hltz : decide ((i : Int) < (j : Int)) = true := by simp; omega
      go_wp2_with fail
      obtain ⟨h, hh⟩ : ∃ h : Nat, h = (i + j) / 2 := ⟨_, rfl⟩
      have hi1 : i ≤ h := by omega
      have hi2 : h < j := by omega
      have hz : ((i : Int) + (j : Int)) / 2 = (h : Int) := by omega
      rw [hz]
      clear hz hh
      have ex : ((h : Int)).toNat = h := by omega
      have px : (0 : Int) ≤ (h : Int) := by omega
      have bdx : (h : Int) < (d.size : Int) := by omega
      have rx : IntKind.i64.wrap ((h : Int)) = (h : Int) := by rw [IntKind.wrap_i64]; omega
      have ey : ((a : Int)).toNat = a := by omega
      have py : (0 : Int) ≤ (a : Int) := by omega
      have bdy : (a : Int) < (d.size : Int) := by omega
      have ry : IntKind.i64.wrap ((a : Int)) = (a : Int) := by rw [IntKind.wrap_i64]; omega
      have lx := S1.out.ld R (by omega) P (h) (by omega)
      have ly := S1.out.ld R (by omega) P (a) (by omega)
      have hc := S1.out.cmp CMP.out (by omega) d[h]! d[a]!
      have hl := LT.out d[h]! d[a]!
      have SG : Aside (∀ n os, SWK enc k w0 blk off d (grow (wr.drewN n) os)) := fun n os => S1.out.grown n os
      generalize cf d[h]! d[a]! = z at hc hl
      have HL := Lib.hid hl
      clear hl
      simp only [Array.append_empty] at hc
      by_cases hlv : z < 0
      · go_wp2_with fail
        go_quiet_grown (first | (go_at_fn g; refine Calls.grown_of (hc _ _)))
        have S2 : Aside (SWK enc k w0 blk off d (grow (wr.drewN nq) osq)) := SG.out nq osq
        have ED2 : Aside ((m < h + 1 → tlt lt d[h + 1 - 1]! d[a]! = true) ∧ (j < b → tlt lt d[j]! d[a]! = false)) := ⟨fun _ => by rw [Nat.add_sub_cancel, ← HL.out]; exact decide_eq_true hlv, ED.out.2⟩
        clear lx ly hc SG S1 ED
        generalize grow (wr.drewN nq) osq = w2 at S2 ⊢
        go_wp2
        go_roundg (j - (h + 1))
        case measure => omega
        case rel => exact ⟨h + 1, j, by go_num, rfl, by omega, by omega, hj, Nat.le_refl _, ED2, S2⟩
      · go_wp2_with fail
        go_quiet_grown (first | (go_at_fn g; refine Calls.grown_of (hc _ _)))
        have S2 : Aside (SWK enc k w0 blk off d (grow (wr.drewN nq) osq)) := SG.out nq osq
        have ED2 : Aside ((m < i → tlt lt d[i - 1]! d[a]! = true) ∧ (h < b → tlt lt d[h]! d[a]! = false)) := ⟨ED.out.1, fun _ => by rw [← HL.out]; exact decide_eq_false (by omega)⟩
        clear lx ly hc SG S1 ED
        generalize grow (wr.drewN nq) osq = w2 at S2 ⊢
        go_wp2
        go_roundg (h - i)
        case measure => omega
        case rel => exact ⟨i, h, rfl, rfl, hi, hi1, by omega, Nat.le_refl _, ED2, S2⟩
    · have hltz : decide ((i : Int) < (j : Int)) = false := by simp; omega
      obtain rfl : i = j := by omega
      have EI := ED
      go_wp2
      clear ED
      go_loopg [13] (i - 1 - a) (fun kx s13 wv => ∃ (t : Nat) (dk : Array (β × Nat)), s13 = .int .i64 (t : Int) ∧ a ≤ t ∧ t + 1 ≤ i ∧ i - 1 - t ≤ kx ∧ dk.size = d.size ∧ Aside (Rot d dk a (a + 1) (t + 1)) ∧ Aside (SWK enc k w0 blk off dk wv))
      case atStart => exact ⟨a, d, rfl, Nat.le_refl _, by omega, Nat.le_refl _, rfl, Rot.none d a (a + 1) (a + 1) (by omega) (by omega) (.inr rfl), S1⟩
      case round =>
        clear S1
        obtain ⟨t, dk, rfl, ht, hti, hkx2, hds, RT, S1⟩ := hrel
        by_cases hlt2 : t + 1 < i
        · have hltz2 : decide ((t : Int) < (i : Int) - 1) = true := by simp; omega
          go_wp2_with fail
          have ex : ((t : Int)).toNat = t := by omega
          have px : (0 : Int) ≤ (t : Int) := by omega
          have bdx : (t : Int) < (d.size : Int) := by omega
          have rx : IntKind.i64.wrap ((t : Int)) = (t : Int) := by rw [IntKind.wrap_i64]; omega
          have ey : ((t : Int) + 1).toNat = t + 1 := by omega
          have py : (0 : Int) ≤ (t : Int) + 1 := by omega
          have bdy : (t : Int) + 1 < (d.size : Int) := by omega
          have ry : IntKind.i64.wrap ((t : Int) + 1) = (t : Int) + 1 := by rw [IntKind.wrap_i64]; omega
          have S2 : Aside (SWK enc k w0 blk off (swp dk (t) (t + 1)) ((wr.drew.setCells blk (off + (t) * k) (enc dk[t + 1]!)).setCells blk (off + (t + 1) * k) (enc dk[t]!))) := S1.out.swapped R (t) (t + 1) (by omega) (by omega)
          have la := S1.out.ld1 R (by omega) P (t) (by omega)
          have lb := S1.out.ld1 R (by omega) P (t + 1) (by omega)
          have sa := S1.out.st1 R (by omega) P (t) (by omega) dk[t + 1]!
          have sb := S1.out.st2 R (by omega) P (t) (t + 1) (by omega) (by omega) dk[t + 1]! dk[t]!
          have na : (enc dk[t]!).length = k := R.hk _
          have nb : (enc dk[t + 1]!).length = k := R.hk _
          generalize enc dk[t]! = cI at S2 la sb na
          generalize enc dk[t + 1]! = cJ at S2 lb sa sb nb
          clear S1
          go_big_region_o
          clear la lb sa sb
          generalize (wr.drew.setCells blk (off + (t) * k) cJ).setCells blk (off + (t + 1) * k) cI = w2 at S2 ⊢
          go_wp2
          go_roundg (i - 1 - (t + 1))
          case measure => omega
          case rel => exact ⟨t + 1, swp dk t (t + 1), by go_num, by omega, by omega, Nat.le_refl _, by rw [swp_size]; exact hds, RT.out.up ht (by omega), S2⟩
        · have hltz2 : decide ((t : Int) < (i : Int) - 1) = false := by simp; omega
          go_wp2
          (try simp only [Exit.inBlock, Exit.then])
          refine bodyPost_ret (results_none rfl _ _ _) rfl ?_
          have ht2 : t + 1 = i := by omega
          have RT2 : Rot d dk a (a + 1) i := by rw [← ht2]; exact RT.out
          have h1 := H1.out
          subst h1
          exact ⟨rfl, dk, ⟨permIn_mono d dk _ _ _ _ (Nat.le_refl _) hj hb RT2.perm, Runs.first V.swo HR.out hi hj (fun h => EI.out.1 h) (fun h => EI.out.2 h) RT2⟩, S1.out⟩

set_option maxHeartbeats 8000000 in
set_option maxRecDepth 1000000 in
theorem sym_last {P : Program} {β : Type} [Inhabited β] {lt : β → β → Bool} {k : Nat} {enc : β × Nat → List Value} {cf : β × Nat → β × Nat → Int} {g : Nat} {w0 : World} {blk off : Nat} {d0 : Array (β × Nat)} (V : SEnv P lt k enc cf g w0 blk off d0) (cap a m b : Nat) (d : Array (β × Nat)) (w : World)
    (hs : d0.size = d.size) (S : SWK enc k w0 blk off d w) (hr : Runs lt a m b d) (ham : a < m) (hmb : m < b) (hb : b ≤ d.size) (hsz : d.size < 4611686018427387904) (h0 : m ≠ a + 1) (h1 : b = m + 1) :
    SymOk P lt k enc g w0 blk off cap a m b d w := by
  unfold SymOk
  have L := V.ty
  have mixed := L.mixed; have t0 := L.t0; have a0 := L.a0; have z0 := L.z0; have v0 := L.v0; have t3 := L.t3; have a3 := L.a3; have z3 := L.z3; have v3 := L.v3; have t4 := L.t4; have a4 := L.a4; have z4 := L.z4; have v4 := L.v4; have tS := L.tS; have aS := L.aS; have zS := L.zS; have vS := L.vS; have tC := L.tC; have aC := L.aC; have zC := L.zC; have vC := L.vC; have tU := L.tU; have aU := L.aU; have zU := L.zU; have vU := L.vU; have aE := L.aE; have zE := L.zE
  have R := V.row
  have eg := V.eg
  have CMP : Aside (CmpLays P g #[] enc k cf blk off d0.size w0) := V.cmp
  have LT : Aside (∀ x y, decide (cf x y < 0) = tlt lt x y) := V.less
  have S0 : Aside (SWK enc k w0 blk off d w) := S
  have HR : Aside (Runs lt a m b d) := hr
  clear S hr
  have q0 : ((m : Int) - (a : Int) == 1) = false := by simp; omega
  have q1 : ((b : Int) - (m : Int) == 1) = true := by simp; omega
  have H1 : Aside (b = m + 1) := h1
  clear h0 h1
  go_enter V.fM, Tryd.ntmps125
  go_wp2
  clear q0 q1
  go_loopg [14, 15] (m - a) (fun kx s10 s11 wr => ∃ (i j : Nat), s10 = .int .i64 (i : Int) ∧ s11 = .int .i64 (j : Int) ∧ a ≤ i ∧ i ≤ j ∧ j ≤ m ∧ j - i ≤ kx ∧ Aside ((a < i → tlt lt d[m]! d[i - 1]! = false) ∧ (j < m → tlt lt d[m]! d[j]! = true)) ∧ Aside (SWK enc k w0 blk off d wr))
  case atStart => exact ⟨a, m, rfl, rfl, Nat.le_refl _, by omega, Nat.le_refl _, Nat.le_refl _, ⟨fun h => by omega, fun h => by omega⟩, S0⟩
  case round =>
    clear S0
    obtain ⟨i, j, rfl, rfl, hi, hij, hj, hkx, ED, S1⟩ := hrel
    by_cases hlt : i < j
    · have hltz : decide ((i : Int) < (j : Int)) = true := by simp; omega
      go_wp2_with fail
      obtain ⟨h, hh⟩ : ∃ h : Nat, h = (i + j) / 2 := ⟨_, rfl⟩
      have hi1 : i ≤ h := by omega
      have hi2 : h < j := by omega
      have hz : ((i : Int) + (j : Int)) / 2 = (h : Int) := by omega
      rw [hz]
      clear hz hh
      have ex : ((m : Int)).toNat = m := by omega
      have px : (0 : Int) ≤ (m : Int) := by omega
      have bdx : (m : Int) < (d.size : Int) := by omega
      have rx : IntKind.i64.wrap ((m : Int)) = (m : Int) := by rw [IntKind.wrap_i64]; omega
      have ey : ((h : Int)).toNat = h := by omega
      have py : (0 : Int) ≤ (h : Int) := by omega
      have bdy : (h : Int) < (d.size : Int) := by omega
      have ry : IntKind.i64.wrap ((h : Int)) = (h : Int) := by rw [IntKind.wrap_i64]; omega
      have lx := S1.out.ld R (by omega) P (m) (by omega)
      have ly := S1.out.ld R (by omega) P (h) (by omega)
      have hc := S1.out.cmp CMP.out (by omega) d[m]! d[h]!
      have hl := LT.out d[m]! d[h]!
      have SG : Aside (∀ n os, SWK enc k w0 blk off d (grow (wr.drewN n) os)) := fun n os => S1.out.grown n os
      generalize cf d[m]! d[h]! = z at hc hl
      have HL := Lib.hid hl
      clear hl
      simp only [Array.append_empty] at hc
      by_cases hlv : z < 0
      · go_wp2_with fail
        go_quiet_grown (first | (go_at_fn g; refine Calls.grown_of (hc _ _)))
        have S2 : Aside (SWK enc k w0 blk off d (grow (wr.drewN nq) osq)) := SG.out nq osq
        have ED2 : Aside ((a < i → tlt lt d[m]! d[i - 1]! = false) ∧ (h < m → tlt lt d[m]! d[h]! = true)) := ⟨ED.out.1, fun _ => by rw [← HL.out]; exact decide_eq_true hlv⟩
        clear lx ly hc SG S1 ED
        generalize grow (wr.drewN nq) osq = w2 at S2 ⊢
        go_wp2
        go_roundg (h - i)
        case measure => omega
        case rel => exact ⟨i, h, rfl, rfl, hi, hi1, by omega, Nat.le_refl _, ED2, S2⟩
      · go_wp2_with fail
        go_quiet_grown (first | (go_at_fn g; refine Calls.grown_of (hc _ _)))
        have S2 : Aside (SWK enc k w0 blk off d (grow (wr.drewN nq) osq)) := SG.out nq osq
        have ED2 : Aside ((a < h + 1 → tlt lt d[m]! d[h + 1 - 1]! = false) ∧ (j < m → tlt lt d[m]! d[j]! = true)) := ⟨fun _ => by rw [Nat.add_sub_cancel, ← HL.out]; exact decide_eq_false (by omega), ED.out.2⟩
        clear lx ly hc SG S1 ED
        generalize grow (wr.drewN nq) osq = w2 at S2 ⊢
        have hd : (!decide (z < 0)) = true := by rw [decide_eq_false (by omega)]; rfl
        go_wp2
        go_roundg (j - (h + 1))
        case measure => omega
        case rel => exact ⟨h + 1, j, by go_num, rfl, by omega, by omega, hj, Nat.le_refl _, ED2, S2⟩
        rename_i hx
        exact Bool.noConfusion (hd.symm.trans hx)
    · have hltz : decide ((i : Int) < (j : Int)) = false := by simp; omega
      obtain rfl : i = j := by omega
      have EI := ED
      go_wp2
      clear ED
      go_loopg [17] (m - i) (fun kx s17 wv => ∃ (t : Nat) (dk : Array (β × Nat)), s17 = .int .i64 (t : Int) ∧ i ≤ t ∧ t ≤ m ∧ t - i ≤ kx ∧ dk.size = d.size ∧ Aside (Rot d dk t m (m + 1)) ∧ Aside (SWK enc k w0 blk off dk wv))
      case atStart => exact ⟨m, d, rfl, hj, Nat.le_refl _, Nat.le_refl _, rfl, Rot.none d m m (m + 1) (by omega) (by omega) (.inl rfl), S1⟩
      case round =>
        clear S1
        obtain ⟨t, dk, rfl, ht, htm, hkx2, hds, RT, S1⟩ := hrel
        by_cases hlt2 : i < t
        · obtain ⟨t', rfl⟩ : ∃ t', t = t' + 1 := ⟨t - 1, by omega⟩
          have hltz2 : decide ((i : Int) < ((t' + 1 : Nat) : Int)) = true := by simp; omega
          have hltz3 : decide ((i : Int) < (t' : Int) + 1) = true := by simp; omega
          go_wp2_with fail
          have ex : ((t' : Int) + 1).toNat = t' + 1 := by omega
          have px : (0 : Int) ≤ (t' : Int) + 1 := by omega
          have bdx : (t' : Int) + 1 < (d.size : Int) := by omega
          have rx : IntKind.i64.wrap ((t' : Int) + 1) = (t' : Int) + 1 := by rw [IntKind.wrap_i64]; omega
          have ey : ((t' : Int)).toNat = t' := by omega
          have py : (0 : Int) ≤ (t' : Int) := by omega
          have bdy : (t' : Int) < (d.size : Int) := by omega
          have ry : IntKind.i64.wrap ((t' : Int)) = (t' : Int) := by rw [IntKind.wrap_i64]; omega
          have S2 : Aside (SWK enc k w0 blk off (swp dk (t' + 1) (t')) ((wr.drew.setCells blk (off + (t' + 1) * k) (enc dk[t']!)).setCells blk (off + (t') * k) (enc dk[t' + 1]!))) := S1.out.swapped R (t' + 1) (t') (by omega) (by omega)
          have la := S1.out.ld1 R (by omega) P (t' + 1) (by omega)
          have lb := S1.out.ld1 R (by omega) P (t') (by omega)
          have sa := S1.out.st1 R (by omega) P (t' + 1) (by omega) dk[t']!
          have sb := S1.out.st2 R (by omega) P (t' + 1) (t') (by omega) (by omega) dk[t']! dk[t' + 1]!
          have na : (enc dk[t' + 1]!).length = k := R.hk _
          have nb : (enc dk[t']!).length = k := R.hk _
          generalize enc dk[t' + 1]! = cI at S2 la sb na
          generalize enc dk[t']! = cJ at S2 lb sa sb nb
          clear S1
          go_big_region_o
          clear la lb sa sb
          generalize (wr.drew.setCells blk (off + (t' + 1) * k) cJ).setCells blk (off + (t') * k) cI = w2 at S2 ⊢
          go_wp2
          go_roundg (t' - i)
          case measure => omega
          case rel => exact ⟨t', swp dk (t' + 1) t', by first | rfl | go_num | (congr 1; omega), by omega, by omega, Nat.le_refl _, by rw [swp_size]; exact hds, RT.out.down (by omega) (by omega), S2⟩
        · have hltz2 : decide ((i : Int) < (t : Int)) = false := by simp; omega
          go_wp2
          (try simp only [Exit.inBlock, Exit.then])
          refine bodyPost_ret (results_none rfl _ _ _) rfl ?_
          have ht2 : t = i := by omega
          have RT2 : Rot d dk i m (m + 1) := by rw [← ht2]; exact RT.out
          have h1 := H1.out
          subst h1
          exact ⟨rfl, dk, ⟨permIn_mono d dk _ _ _ _ hi (Nat.le_refl _) hb RT2.perm, Runs.last V.swo HR.out hi hj (fun h => EI.out.1 h) (fun h => EI.out.2 h) RT2⟩, S1.out⟩
end Go.Proofs.YtnfhbmgkiknaaaaDoor
