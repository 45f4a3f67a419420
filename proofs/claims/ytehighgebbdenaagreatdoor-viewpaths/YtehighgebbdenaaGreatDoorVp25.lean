import Derived.Test.YtehighgebbdenaaGreatDoorVp23
import Derived.Shelf.SlSortCmp.QuietGrown
section
namespace Go.Proofs.YtehighgebbdenaaGreatDoor
open Go.Shelf Go.RowKit Go.Lib Go.Sort
structure STy (P : Program) (k : Nat) : Prop where
  mixed : P.follows .mixedOrders = true
  t0 : P.underlying 0 = some (TypeDesc.tuple #[])
  a0 : ∀ w, (isAgg 0).run P w = .ok false w
  z0 : ∀ w, (Go.sizeOf 0).run P w = .ok 1 w
  v0 : ∀ w, (zeroValue 0).run P w = .ok (Value.tuple #[]) w
  t3 : P.underlying 3 = some (TypeDesc.int IntKind.i64)
  a3 : ∀ w, (isAgg 3).run P w = .ok false w
  z3 : ∀ w, (Go.sizeOf 3).run P w = .ok 1 w
  v3 : ∀ w, (zeroValue 3).run P w = .ok (Value.int IntKind.i64 0) w
  t4 : P.underlying 4 = some (TypeDesc.bool)
  a4 : ∀ w, (isAgg 4).run P w = .ok false w
  z4 : ∀ w, (Go.sizeOf 4).run P w = .ok 1 w
  v4 : ∀ w, (zeroValue 4).run P w = .ok (Value.bool false) w
  tS : P.underlying 32 = some (TypeDesc.slice 38)
  aS : ∀ w, (isAgg 32).run P w = .ok false w
  zS : ∀ w, (Go.sizeOf 32).run P w = .ok 1 w
  vS : ∀ w, (zeroValue 32).run P w = .ok (Value.slice none 0 0) w
  tC : P.underlying 210 = some (TypeDesc.func #[38, 38] #[3] false)
  aC : ∀ w, (isAgg 210).run P w = .ok false w
  zC : ∀ w, (Go.sizeOf 210).run P w = .ok 1 w
  vC : ∀ w, (zeroValue 210).run P w = .ok (Value.nilFunc) w
  tU : P.underlying 295 = some (TypeDesc.int IntKind.u64)
  aU : ∀ w, (isAgg 295).run P w = .ok false w
  zU : ∀ w, (Go.sizeOf 295).run P w = .ok 1 w
  vU : ∀ w, (zeroValue 295).run P w = .ok (Value.int IntKind.u64 0) w
  aE : ∀ w, (isAgg 38).run P w = .ok true w
  zE : ∀ w, (Go.sizeOf 38).run P w = .ok k w
theorem sty_here : STy Tryz.prog 8 := ⟨by kernel_rfl, Tryz.underlying0, Tryz.isAgg0, Tryz.sizeOf0, Tryz.zeroValue0, Tryz.underlying3, Tryz.isAgg3, Tryz.sizeOf3, Tryz.zeroValue3, Tryz.underlying4, Tryz.isAgg4, Tryz.sizeOf4, Tryz.zeroValue4, Tryz.underlying32, Tryz.isAgg32, Tryz.sizeOf32, Tryz.zeroValue32, Tryz.underlying210, Tryz.isAgg210, Tryz.sizeOf210, Tryz.zeroValue210, Tryz.underlying295, Tryz.isAgg295, Tryz.sizeOf295, Tryz.zeroValue295, Tryz.isAgg38, Tryz.sizeOf38⟩
set_option maxHeartbeats 4000000 in
set_option maxRecDepth 1000000 in
theorem swapRange_open {P : Program} {α : Type} [Inhabited α] (k : Nat) (L : STy P k) (hF : P.funcs[(307 : Nat)]? = some Tryz.f307) (enc : α → List Value) (blk off cap a b n : Nat) (d0 d : Array α) (w0 w : World) (cf : Value)
    (R : RowK enc k w0 blk off d0) (hs : d0.size = d.size) (S : SWK enc k w0 blk off d w) (hab : a + n ≤ b) (hb : b + n ≤ d.size) (hsz : d.size < 4611686018427387904) :
    Calls P 307 #[.slice (some ⟨blk, off, none⟩) d.size cap, .int .i64 a, .int .i64 b, .int .i64 n, cf] w fun e w' => e = .returned (.tuple #[]) ∧ ∃ d', Exch d d' a b n ∧ SWK enc k w0 blk off d' w' := by
  have mixed := L.mixed; have t0 := L.t0; have a0 := L.a0; have z0 := L.z0; have v0 := L.v0; have t3 := L.t3; have a3 := L.a3; have z3 := L.z3; have v3 := L.v3; have t4 := L.t4; have a4 := L.a4; have z4 := L.z4; have v4 := L.v4; have tS := L.tS; have aS := L.aS; have zS := L.zS; have vS := L.vS; have tC := L.tC; have aC := L.aC; have zC := L.zC; have vC := L.vC; have tU := L.tU; have aU := L.aU; have zU := L.zU; have vU := L.vU; have aE := L.aE; have zE := L.zE
  have S0 : Aside (SWK enc k w0 blk off d w) := S
  clear S
  go_enter hF, Tryz.ntmps307
  go_wp2
  go_loopg [10] n (fun kx s10 wr => ∃ (i : Nat) (dk : Array α), s10 = .int .i64 i ∧ i ≤ n ∧ n - i ≤ kx ∧ Aside (Exch d dk a b i) ∧ Aside (SWK enc k w0 blk off dk wr))
  case atStart => exact ⟨0, d, rfl, Nat.zero_le _, Nat.le_refl _, Exch.zero d a b, S0⟩
  case round =>
    clear S0
    obtain ⟨i, dk, rfl, hi, hkx, EX, S1⟩ := hrel
    have hds : dk.size = d.size := EX.out.size
    by_cases hlt : i < n
    · have hltz : (i : Int) < (n : Int) := by omega
      go_wp2_with fail
      have ea : ((a : Int) + (i : Int)).toNat = a + i := by omega
      have pa : (0 : Int) ≤ (a : Int) + (i : Int) := by omega
      have ba : (a : Int) + (i : Int) < (d.size : Int) := by omega
      have ra : IntKind.i64.wrap ((a : Int) + (i : Int)) = (a : Int) + (i : Int) := by rw [IntKind.wrap_i64]; omega
      have ec : ((b : Int) + (i : Int)).toNat = b + i := by omega
      have pc : (0 : Int) ≤ (b : Int) + (i : Int) := by omega
      have bc : (b : Int) + (i : Int) < (d.size : Int) := by omega
      have rc : IntKind.i64.wrap ((b : Int) + (i : Int)) = (b : Int) + (i : Int) := by rw [IntKind.wrap_i64]; omega
      have S2 : Aside (SWK enc k w0 blk off (swp dk (a + i) (b + i)) ((wr.drew.setCells blk (off + (a + i) * k) (enc dk[b + i]!)).setCells blk (off + (b + i) * k) (enc dk[a + i]!))) := S1.out.swapped R (a + i) (b + i) (by omega) (by omega)
      have la := S1.out.ld1 R (by omega) P (a + i) (by omega)
      have lb := S1.out.ld1 R (by omega) P (b + i) (by omega)
      have sa := S1.out.st1 R (by omega) P (a + i) (by omega) dk[b + i]!
      have sb := S1.out.st2 R (by omega) P (a + i) (b + i) (by omega) (by omega) dk[b + i]! dk[a + i]!
      have na : (enc dk[a + i]!).length = k := R.hk _
      have nb : (enc dk[b + i]!).length = k := R.hk _
      generalize enc dk[a + i]! = cI at S2 la sb na
      generalize enc dk[b + i]! = cJ at S2 lb sa sb nb
      clear S1
      go_big_region_o
      clear la lb sa sb
      generalize (wr.drew.setCells blk (off + (a + i) * k) cJ).setCells blk (off + (b + i) * k) cI = w2 at S2 ⊢
      go_wp2
      go_roundg (n - (i + 1))
      case measure => omega
      case rel => exact ⟨i + 1, swp dk (a + i) (b + i), by go_num, by omega, Nat.le_refl _, EX.out.next (by omega) (by omega), S2⟩
    · have hltz : ¬ (i : Int) < (n : Int) := by omega
      go_wp2
      go_end0
      have : i = n := by omega
      subst this
      exact ⟨rfl, dk, EX.out, S1.out⟩
end Go.Proofs.YtehighgebbdenaaGreatDoor
end
section
namespace Go.Proofs.YtehighgebbdenaaGreatDoor
open Go.Shelf Go.RowKit Go.Lib Go.Sort
set_option maxHeartbeats 4000000 in
set_option maxRecDepth 1000000 in
theorem rotate_open {P : Program} {α : Type} [Inhabited α] (k : Nat) (L : STy P k) (hF : P.funcs[(307 : Nat)]? = some Tryz.f307) (hG : P.funcs[(281 : Nat)]? = some Tryz.f281) (enc : α → List Value) (blk off cap a m b : Nat) (d0 d : Array α) (w0 w : World) (cf : Value)
    (R : RowK enc k w0 blk off d0) (hs : d0.size = d.size) (S : SWK enc k w0 blk off d w) (ham : a < m) (hmb : m < b) (hb : b ≤ d.size) (hsz : d.size < 4611686018427387904) :
    Calls P 281 #[.slice (some ⟨blk, off, none⟩) d.size cap, .int .i64 a, .int .i64 m, .int .i64 b, cf] w fun e w' => e = .returned (.tuple #[]) ∧ ∃ d', Rot d d' a m b ∧ SWK enc k w0 blk off d' w' := by
  have mixed := L.mixed; have t0 := L.t0; have a0 := L.a0; have z0 := L.z0; have v0 := L.v0; have t3 := L.t3; have a3 := L.a3; have z3 := L.z3; have v3 := L.v3; have t4 := L.t4; have a4 := L.a4; have z4 := L.z4; have v4 := L.v4; have tS := L.tS; have aS := L.aS; have zS := L.zS; have vS := L.vS; have tC := L.tC; have aC := L.aC; have zC := L.zC; have vC := L.vC; have tU := L.tU; have aU := L.aU; have zU := L.zU; have vU := L.vU; have aE := L.aE; have zE := L.zE
  have eS : ∀ args w, (callFunc 307 args).run P w = .ok (.enter 307 args) w := enters_of hF (by kernel_rfl) rfl
  have S0 : Aside (SWK enc k w0 blk off d w) := S
  clear S
  go_enter hG, Tryz.ntmps281
  go_wp2
  go_loopg [10, 11] (b - a) (fun kx s10 s11 wr => ∃ (i j : Nat) (dk : Array α), s10 = .int .i64 (i : Int) ∧ s11 = .int .i64 (j : Int) ∧ 0 < i ∧ 0 < j ∧ a + i ≤ m ∧ m + j ≤ b ∧ i + j ≤ kx ∧ dk.size = d.size ∧ Aside (∀ d2, Rot dk d2 (m - i) m (m + j) → Rot d d2 a m b) ∧ Aside (SWK enc k w0 blk off dk wr))
  case atStart => exact ⟨m - a, b - m, d, by congr 1; omega, by congr 1; omega, by omega, by omega, by omega, by omega, by omega, rfl, (fun d2 h => by rw [show m - (m - a) = a by omega, show m + (b - m) = b by omega] at h; exact h), S0⟩
  case round =>
    clear S0
    obtain ⟨i, j, dk, rfl, rfl, hi, hj, him, hjm, hkx, hds, RT, S1⟩ := hrel
    rcases Nat.lt_trichotomy i j with hlt | rfl | hgt
    · have q1 : ((i : Int) != (j : Int)) = true := by simp; omega
      have q2 : decide ((j : Int) < (i : Int)) = false := by simp; omega
      go_wp2_with fail
      have c1 : (m : Int) - (i : Int) = ((m - i : Nat) : Int) := by omega
      have c2 : (m : Int) + (j : Int) - (i : Int) = ((m + j - i : Nat) : Int) := by omega
      rw [c1, c2, ← hds]
      clear c1 c2
      refine (swapRange_open k L hF enc blk off cap (m - i) (m + j - i) i d0 dk w0 wr cf R (by omega) S1.out (by omega) (by omega) (by omega)).mono ?_
      rintro e w2 ⟨rfl, d1, EX, S2⟩
      have hd1 : d1.size = d.size := by rw [EX.size, hds]
      have RT2 : Aside (∀ d2, Rot d1 d2 (m - i) m (m + (j - i)) → Rot d d2 a m b) := fun d2 h2 => RT.out d2 (Rot.right (by omega) hlt (by omega) EX h2)
      have S3 : Aside (SWK enc k w0 blk off d1 w2) := S2
      clear EX S2 S1 RT
      rw [hds]
      go_wp2
      go_roundg (i + (j - i))
      case measure => omega
      case rel => exact ⟨i, j - i, d1, rfl, by congr 1; omega, hi, by omega, him, by omega, Nat.le_refl _, hd1, RT2, S3⟩
    · have q1 : ((i : Int) != (i : Int)) = false := by simp
      go_wp2_with fail
      have c1 : (m : Int) - (i : Int) = ((m - i : Nat) : Int) := by omega
      rw [c1, ← hds]
      clear c1
      refine (swapRange_open k L hF enc blk off cap (m - i) m i d0 dk w0 wr cf R (by omega) S1.out (by omega) (by omega) (by omega)).mono ?_
      rintro e w2 ⟨rfl, d1, EX, S2⟩
      have RT2 := RT.out d1 (Rot.both (by omega) (by omega) EX)
      clear EX S1 RT
      go_wp2
      go_end0
      exact ⟨rfl, d1, RT2, S2⟩
    · have q1 : ((i : Int) != (j : Int)) = true := by simp; omega
      have q2 : decide ((j : Int) < (i : Int)) = true := by simp; omega
      go_wp2_with fail
      have c1 : (m : Int) - (i : Int) = ((m - i : Nat) : Int) := by omega
      rw [c1, ← hds]
      clear c1
      refine (swapRange_open k L hF enc blk off cap (m - i) m j d0 dk w0 wr cf R (by omega) S1.out (by omega) (by omega) (by omega)).mono ?_
      rintro e w2 ⟨rfl, d1, EX, S2⟩
      have hd1 : d1.size = d.size := by rw [EX.size, hds]
      have RT2 : Aside (∀ d2, Rot d1 d2 (m - (i - j)) m (m + j) → Rot d d2 a m b) := fun d2 h2 => RT.out d2 (Rot.left (by omega) hgt (by omega) EX h2)
      have S3 : Aside (SWK enc k w0 blk off d1 w2) := S2
      clear EX S2 S1 RT
      rw [hds]
      go_wp2
      go_roundg (i - j + j)
      case measure => omega
      case rel => exact ⟨i - j, j, d1, by congr 1; omega, rfl, by omega, hj, by omega, hjm, Nat.le_refl _, hd1, RT2, S3⟩
end Go.Proofs.YtehighgebbdenaaGreatDoor
end
section
namespace Go.Proofs.YtehighgebbdenaaGreatDoor
open Go.Shelf Go.RowKit Go.Lib Go.Sort
structure SEnv (P : Program) {β : Type} [Inhabited β] (lt : β → β → Bool) (k : Nat) (enc : β × Nat → List Value) (cf : β × Nat → β × Nat → Int) (g : Nat) (w0 : World) (blk off : Nat) (d0 : Array (β × Nat)) : Prop where
  ty : STy P k
  fS : P.funcs[(307 : Nat)]? = some Tryz.f307
  fR : P.funcs[(281 : Nat)]? = some Tryz.f281
  fM : P.funcs[(226 : Nat)]? = some Tryz.f226
  row : RowK enc k w0 blk off d0
  less : ∀ x y, decide (cf x y < 0) = tlt lt x y
  swo : SWO lt
  eg : ∀ args w, (callFunc g args).run P w = .ok (.enter g args) w
  cmp : CmpLays P g #[] enc k cf blk off d0.size w0
def SymOk (P : Program) {β : Type} [Inhabited β] (lt : β → β → Bool) (k : Nat) (enc : β × Nat → List Value) (g : Nat) (w0 : World) (blk off cap a m b : Nat) (d : Array (β × Nat)) (w : World) : Prop :=
  Calls P 226 #[.slice (some ⟨blk, off, none⟩) d.size cap, .int .i64 a, .int .i64 m, .int .i64 b, .func (.func g) #[] #[]] w fun e w' => e = .returned (.tuple #[]) ∧ ∃ d', (PermIn a b d d' ∧ SortedIn (slt lt) a b d') ∧ SWK enc k w0 blk off d' w'
set_option maxHeartbeats 8000000 in
set_option maxRecDepth 1000000 in
theorem sym_first {P : Program} {β : Type} [Inhabited β] {lt : β → β → Bool} {k : Nat} {enc : β × Nat → List Value} {cf : β × Nat → β × Nat → Int} {g : Nat} {w0 : World} {blk off : Nat} {d0 : Array (β × Nat)} (V : SEnv P lt k enc cf g w0 blk off d0) (cap a m b : Nat) (d : Array (β × Nat)) (w : World)
    (hs : d0.size = d.size) (S : SWK enc k w0 blk off d w) (hr : Runs lt a m b d) (ham : a < m) (hmb : m < b) (hb : b ≤ d.size) (hsz : d.size < 4611686018427387904) (h1 : m = a + 1) :
    SymOk P lt k enc g w0 blk off cap a m b d w := by
  unfold SymOk
  have L := V.ty
  have mixed := L.mixed; have t0 := L.t0; have a0 := L.a0; have z0 := L.z0; have v0 := L.v0; have t3 := L.t3; have a3 := L.a3; have z3 := L.z3; have v3 := L.v3; have t4 := L.t4; have a4 := L.a4; have z4 := L.z4; have v4 := L.v4; have tS := L.tS; have aS := L.aS; have zS := L.zS; have vS := L.vS; have tC := L.tC; have aC := L.aC; have zC := L.zC; have vC := L.vC; have tU := L.tU; have aU := L.aU; have zU := L.zU; have vU := L.vU; have aE := L.aE; have zE := L.zE
  have R := V.row
  have eg := V.eg
  have CMP : Aside (CmpLays P g #[] enc k cf blk off d0.size w0) := V.cmp
  have LT : Aside (∀ x y, decide (cf x y < 0) = tlt lt x y) := V.less
  have S0 : Aside (SWK enc k w0 blk off d w) := S
  have HR : Aside (Runs lt a m b d) := hr
  clear S hr
  have q0 : ((m : Int) - (a : Int) == 1) = true := by simp; omega
  have H1 : Aside (m = a + 1) := h1
  clear h1
  go_enter V.fM, Tryz.ntmps226
  go_wp2
  clear q0
  go_loopg [10, 11] (b - m) (fun kx s10 s11 wr => ∃ (i j : Nat), s10 = .int .i64 (i : Int) ∧ s11 = .int .i64 (j : Int) ∧ m ≤ i ∧ i ≤ j ∧ j ≤ b ∧ j - i ≤ kx ∧ Aside ((m < i → tlt lt d[i - 1]! d[a]! = true) ∧ (j < b → tlt lt d[j]! d[a]! = false)) ∧ Aside (SWK enc k w0 blk off d wr))
  case atStart => exact ⟨m, b, rfl, rfl, Nat.le_refl _, by omega, Nat.le_refl _, Nat.le_refl _, ⟨fun h => by omega, fun h => by omega⟩, S0⟩
  case round =>
    clear S0
    obtain ⟨i, j, rfl, rfl, hi, hij, hj, hkx, ED, S1⟩ := hrel
    by_cases hlt : i < j
    · have hltz : decide ((i : Int) < (j : Int)) = true := by simp; omega
      go_wp2_with fail
      obtain ⟨h, hh⟩ : ∃ h : Nat, h = (i + j) / 2 := ⟨_, rfl⟩
      have hi1 : i ≤ h := by omega
      have hi2 : h < j := by omega
      have hz : ((i : Int) + (j : Int)) / 2 = (h : Int) := by omega
      rw [hz]
      clear hz hh
      have ex : ((h : Int)).toNat = h := by omega
      have px : (0 : Int) ≤ (h : Int) := by omega
      have bdx : (h : Int) < (d.size : Int) := by omega
      have rx : IntKind.i64.wrap ((h : Int)) = (h : Int) := by rw [IntKind.wrap_i64]; omega
      have ey : ((a : Int)).toNat = a := by omega
      have py : (0 : Int) ≤ (a : Int) := by omega
      have bdy : (a : Int) < (d.size : Int) := by omega
      have ry : IntKind.i64.wrap ((a : Int)) = (a : Int) := by rw [IntKind.wrap_i64]; omega
      have lx := S1.out.ld R (by omega) P (h) (by omega)
      have ly := S1.out.ld R (by omega) P (a) (by omega)
      have hc := S1.out.cmp CMP.out (by omega) d[h]! d[a]!
      have hl := LT.out d[h]! d[a]!
      have SG : Aside (∀ n os, SWK enc k w0 blk off d (grow (wr.drewN n) os)) := fun n os => S1.out.grown n os
      generalize cf d[h]! d[a]! = z at hc hl
      have HL := Lib.hid hl
      clear hl
      simp only [Array.append_empty] at hc
      by_cases hlv : z < 0
      · go_wp2_with fail
        go_quiet_grown (first | (go_at_fn g; refine Calls.grown_of (hc _ _)))
        have S2 : Aside (SWK enc k w0 blk off d (grow (wr.drewN nq) osq)) := SG.out nq osq
        have ED2 : Aside ((m < h + 1 → tlt lt d[h + 1 - 1]! d[a]! = true) ∧ (j < b → tlt lt d[j]! d[a]! = false)) := ⟨fun _ => by rw [Nat.add_sub_cancel, ← HL.out]; exact decide_eq_true hlv, ED.out.2⟩
        clear lx ly hc SG S1 ED
        generalize grow (wr.drewN nq) osq = w2 at S2 ⊢
        go_wp2
        go_roundg (j - (h + 1))
        case measure => omega
        case rel => exact ⟨h + 1, j, by go_num, rfl, by omega, by omega, hj, Nat.le_refl _, ED2, S2⟩
      · go_wp2_with fail
        go_quiet_grown (first | (go_at_fn g; refine Calls.grown_of (hc _ _)))
        have S2 : Aside (SWK enc k w0 blk off d (grow (wr.drewN nq) osq)) := SG.out nq osq
        have ED2 : Aside ((m < i → tlt lt d[i - 1]! d[a]! = true) ∧ (h < b → tlt lt d[h]! d[a]! = false)) := ⟨ED.out.1, fun _ => by rw [← HL.out]; exact decide_eq_false (by omega)⟩
        clear lx ly hc SG S1 ED
        generalize grow (wr.drewN nq) osq = w2 at S2 ⊢
        go_wp2
        go_roundg (h - i)
        case measure => omega
        case rel => exact ⟨i, h, rfl, rfl, hi, hi1, by omega, Nat.le_refl _, ED2, S2⟩
    · have hltz : decide ((i : Int) < (j : Int)) = false := by simp; omega
      obtain rfl : i = j := by omega
      have EI := ED
      go_wp2
      clear ED
      go_loopg [13] (i - 1 - a) (fun kx s13 wv => ∃ (t : Nat) (dk : Array (β × Nat)), s13 = .int .i64 (t : Int) ∧ a ≤ t ∧ t + 1 ≤ i ∧ i - 1 - t ≤ kx ∧ dk.size = d.size ∧ Aside (Rot d dk a (a + 1) (t + 1)) ∧ Aside (SWK enc k w0 blk off dk wv))
      case atStart => exact ⟨a, d, rfl, Nat.le_refl _, by omega, Nat.le_refl _, rfl, Rot.none d a (a + 1) (a + 1) (by omega) (by omega) (.inr rfl), S1⟩
      case round =>
        clear S1
        obtain ⟨t, dk, rfl, ht, hti, hkx2, hds, RT, S1⟩ := hrel
        by_cases hlt2 : t + 1 < i
        · have hltz2 : decide ((t : Int) < (i : Int) - 1) = true := by simp; omega
          go_wp2_with fail
          have ex : ((t : Int)).toNat = t := by omega
          have px : (0 : Int) ≤ (t : Int) := by omega
          have bdx : (t : Int) < (d.size : Int) := by omega
          have rx : IntKind.i64.wrap ((t : Int)) = (t : Int) := by rw [IntKind.wrap_i64]; omega
          have ey : ((t : Int) + 1).toNat = t + 1 := by omega
          have py : (0 : Int) ≤ (t : Int) + 1 := by omega
          have bdy : (t : Int) + 1 < (d.size : Int) := by omega
          have ry : IntKind.i64.wrap ((t : Int) + 1) = (t : Int) + 1 := by rw [IntKind.wrap_i64]; omega
          have S2 : Aside (SWK enc k w0 blk off (swp dk (t) (t + 1)) ((wr.drew.setCells blk (off + (t) * k) (enc dk[t + 1]!)).setCells blk (off + (t + 1) * k) (enc dk[t]!))) := S1.out.swapped R (t) (t + 1) (by omega) (by omega)
          have la := S1.out.ld1 R (by omega) P (t) (by omega)
          have lb := S1.out.ld1 R (by omega) P (t + 1) (by omega)
          have sa := S1.out.st1 R (by omega) P (t) (by omega) dk[t + 1]!
          have sb := S1.out.st2 R (by omega) P (t) (t + 1) (by omega) (by omega) dk[t + 1]! dk[t]!
          have na : (enc dk[t]!).length = k := R.hk _
          have nb : (enc dk[t + 1]!).length = k := R.hk _
          generalize enc dk[t]! = cI at S2 la sb na
          generalize enc dk[t + 1]! = cJ at S2 lb sa sb nb
          clear S1
          go_big_region_o
          clear la lb sa sb
          generalize (wr.drew.setCells blk (off + (t) * k) cJ).setCells blk (off + (t + 1) * k) cI = w2 at S2 ⊢
          go_wp2
          go_roundg (i - 1 - (t + 1))
          case measure => omega
          case rel => exact ⟨t + 1, swp dk t (t + 1), by go_num, by omega, by omega, Nat.le_refl _, by rw [swp_size]; exact hds, RT.out.up ht (by omega), S2⟩
        · have hltz2 : decide ((t : Int) < (i : Int) - 1) = false := by simp; omega
          go_wp2
          (try simp only [Exit.inBlock, Exit.then])
          refine bodyPost_ret (results_none rfl _ _ _) rfl ?_
          have ht2 : t + 1 = i := by omega
          have RT2 : Rot d dk a (a + 1) i := by rw [← ht2]; exact RT.out
          have h1 := H1.out
          subst h1
          exact ⟨rfl, dk, ⟨permIn_mono d dk _ _ _ _ (Nat.le_refl _) hj hb RT2.perm, Runs.first V.swo HR.out hi hj (fun h => EI.out.1 h) (fun h => EI.out.2 h) RT2⟩, S1.out⟩
set_option maxHeartbeats 8000000 in
set_option maxRecDepth 1000000 in
theorem sym_last {P : Program} {β : Type} [Inhabited β] {lt : β → β → Bool} {k : Nat} {enc : β × Nat → List Value} {cf : β × Nat → β × Nat → Int} {g : Nat} {w0 : World} {blk off : Nat} {d0 : Array (β × Nat)} (V : SEnv P lt k enc cf g w0 blk off d0) (cap a m b : Nat) (d : Array (β × Nat)) (w : World)
    (hs : d0.size = d.size) (S : SWK enc k w0 blk off d w) (hr : Runs lt a m b d) (ham : a < m) (hmb : m < b) (hb : b ≤ d.size) (hsz : d.size < 4611686018427387904) (h0 : m ≠ a + 1) (h1 : b = m + 1) :
    SymOk P lt k enc g w0 blk off cap a m b d w := by
  unfold SymOk
  have L := V.ty
  have mixed := L.mixed; have t0 := L.t0; have a0 := L.a0; have z0 := L.z0; have v0 := L.v0; have t3 := L.t3; have a3 := L.a3; have z3 := L.z3; have v3 := L.v3; have t4 := L.t4; have a4 := L.a4; have z4 := L.z4; have v4 := L.v4; have tS := L.tS; have aS := L.aS; have zS := L.zS; have vS := L.vS; have tC := L.tC; have aC := L.aC; have zC := L.zC; have vC := L.vC; have tU := L.tU; have aU := L.aU; have zU := L.zU; have vU := L.vU; have aE := L.aE; have zE := L.zE
  have R := V.row
  have eg := V.eg
  have CMP : Aside (CmpLays P g #[] enc k cf blk off d0.size w0) := V.cmp
  have LT : Aside (∀ x y, decide (cf x y < 0) = tlt lt x y) := V.less
  have S0 : Aside (SWK enc k w0 blk off d w) := S
  have HR : Aside (Runs lt a m b d) := hr
  clear S hr
  have q0 : ((m : Int) - (a : Int) == 1) = false := by simp; omega
  have q1 : ((b : Int) - (m : Int) == 1) = true := by simp; omega
  have H1 : Aside (b = m + 1) := h1
  clear h0 h1
  go_enter V.fM, Tryz.ntmps226
  go_wp2
  clear q0 q1
  go_loopg [14, 15] (m - a) (fun kx s10 s11 wr => ∃ (i j : Nat), s10 = .int .i64 (i : Int) ∧ s11 = .int .i64 (j : Int) ∧ a ≤ i ∧ i ≤ j ∧ j ≤ m ∧ j - i ≤ kx ∧ Aside ((a < i → tlt lt d[m]! d[i - 1]! = false) ∧ (j < m → tlt lt d[m]! d[j]! = true)) ∧ Aside (SWK enc k w0 blk off d wr))
  case atStart => exact ⟨a, m, rfl, rfl, Nat.le_refl _, by omega, Nat.le_refl _, Nat.le_refl _, ⟨fun h => by omega, fun h => by omega⟩, S0⟩
  case round =>
    clear S0
    obtain ⟨i, j, rfl, rfl, hi, hij, hj, hkx, ED, S1⟩ := hrel
    by_cases hlt : i < j
    · have hltz : decide ((i : Int) < (j : Int)) = true := by simp; omega
      go_wp2_with fail
      obtain ⟨h, hh⟩ : ∃ h : Nat, h = (i + j) / 2 := ⟨_, rfl⟩
      have hi1 : i ≤ h := by omega
      have hi2 : h < j := by omega
      have hz : ((i : Int) + (j : Int)) / 2 = (h : Int) := by omega
      rw [hz]
      clear hz hh
      have ex : ((m : Int)).toNat = m := by omega
      have px : (0 : Int) ≤ (m : Int) := by omega
      have bdx : (m : Int) < (d.size : Int) := by omega
      have rx : IntKind.i64.wrap ((m : Int)) = (m : Int) := by rw [IntKind.wrap_i64]; omega
      have ey : ((h : Int)).toNat = h := by omega
      have py : (0 : Int) ≤ (h : Int) := by omega
      have bdy : (h : Int) < (d.size : Int) := by omega
      have ry : IntKind.i64.wrap ((h : Int)) = (h : Int) := by rw [IntKind.wrap_i64]; omega
      have lx := S1.out.ld R (by omega) P (m) (by omega)
      have ly := S1.out.ld R (by omega) P (h) (by omega)
      have hc := S1.out.cmp CMP.out (by omega) d[m]! d[h]!
      have hl := LT.out d[m]! d[h]!
      have SG : Aside (∀ n os, SWK enc k w0 blk off d (grow (wr.drewN n) os)) := fun n os => S1.out.grown n os
      generalize cf d[m]! d[h]! = z at hc hl
      have HL := Lib.hid hl
      clear hl
      simp only [Array.append_empty] at hc
      by_cases hlv : z < 0
      · go_wp2_with fail
        go_quiet_grown (first | (go_at_fn g; refine Calls.grown_of (hc _ _)))
        have S2 : Aside (SWK enc k w0 blk off d (grow (wr.drewN nq) osq)) := SG.out nq osq
        have ED2 : Aside ((a < i → tlt lt d[m]! d[i - 1]! = false) ∧ (h < m → tlt lt d[m]! d[h]! = true)) := ⟨ED.out.1, fun _ => by rw [← HL.out]; exact decide_eq_true hlv⟩
        clear lx ly hc SG S1 ED
        generalize grow (wr.drewN nq) osq = w2 at S2 ⊢
        go_wp2
        go_roundg (h - i)
        case measure => omega
        case rel => exact ⟨i, h, rfl, rfl, hi, hi1, by omega, Nat.le_refl _, ED2, S2⟩
      · go_wp2_with fail
        go_quiet_grown (first | (go_at_fn g; refine Calls.grown_of (hc _ _)))
        have S2 : Aside (SWK enc k w0 blk off d (grow (wr.drewN nq) osq)) := SG.out nq osq
        have ED2 : Aside ((a < h + 1 → tlt lt d[m]! d[h + 1 - 1]! = false) ∧ (j < m → tlt lt d[m]! d[j]! = true)) := ⟨fun _ => by rw [Nat.add_sub_cancel, ← HL.out]; exact decide_eq_false (by omega), ED.out.2⟩
        clear lx ly hc SG S1 ED
        generalize grow (wr.drewN nq) osq = w2 at S2 ⊢
        have hd : (!decide (z < 0)) = true := by rw [decide_eq_false (by omega)]; rfl
        go_wp2
        go_roundg (j - (h + 1))
        case measure => omega
        case rel => exact ⟨h + 1, j, by go_num, rfl, by omega, by omega, hj, Nat.le_refl _, ED2, S2⟩
        rename_i hx
        exact Bool.noConfusion (hd.symm.trans hx)
    · have hltz : decide ((i : Int) < (j : Int)) = false := by simp; omega
      obtain rfl : i = j := by omega
      have EI := ED
      go_wp2
      clear ED
      go_loopg [17] (m - i) (fun kx s17 wv => ∃ (t : Nat) (dk : Array (β × Nat)), s17 = .int .i64 (t : Int) ∧ i ≤ t ∧ t ≤ m ∧ t - i ≤ kx ∧ dk.size = d.size ∧ Aside (Rot d dk t m (m + 1)) ∧ Aside (SWK enc k w0 blk off dk wv))
      case atStart => exact ⟨m, d, rfl, hj, Nat.le_refl _, Nat.le_refl _, rfl, Rot.none d m m (m + 1) (by omega) (by omega) (.inl rfl), S1⟩
      case round =>
        clear S1
        obtain ⟨t, dk, rfl, ht, htm, hkx2, hds, RT, S1⟩ := hrel
        by_cases hlt2 : i < t
        · obtain ⟨t', rfl⟩ : ∃ t', t = t' + 1 := ⟨t - 1, by omega⟩
          have hltz2 : decide ((i : Int) < ((t' + 1 : Nat) : Int)) = true := by simp; omega
          have hltz3 : decide ((i : Int) < (t' : Int) + 1) = true := by simp; omega
          go_wp2_with fail
          have ex : ((t' : Int) + 1).toNat = t' + 1 := by omega
          have px : (0 : Int) ≤ (t' : Int) + 1 := by omega
          have bdx : (t' : Int) + 1 < (d.size : Int) := by omega
          have rx : IntKind.i64.wrap ((t' : Int) + 1) = (t' : Int) + 1 := by rw [IntKind.wrap_i64]; omega
          have ey : ((t' : Int)).toNat = t' := by omega
          have py : (0 : Int) ≤ (t' : Int) := by omega
          have bdy : (t' : Int) < (d.size : Int) := by omega
          have ry : IntKind.i64.wrap ((t' : Int)) = (t' : Int) := by rw [IntKind.wrap_i64]; omega
          have S2 : Aside (SWK enc k w0 blk off (swp dk (t' + 1) (t')) ((wr.drew.setCells blk (off + (t' + 1) * k) (enc dk[t']!)).setCells blk (off + (t') * k) (enc dk[t' + 1]!))) := S1.out.swapped R (t' + 1) (t') (by omega) (by omega)
          have la := S1.out.ld1 R (by omega) P (t' + 1) (by omega)
          have lb := S1.out.ld1 R (by omega) P (t') (by omega)
          have sa := S1.out.st1 R (by omega) P (t' + 1) (by omega) dk[t']!
          have sb := S1.out.st2 R (by omega) P (t' + 1) (t') (by omega) (by omega) dk[t']! dk[t' + 1]!
          have na : (enc dk[t' + 1]!).length = k := R.hk _
          have nb : (enc dk[t']!).length = k := R.hk _
          generalize enc dk[t' + 1]! = cI at S2 la sb na
          generalize enc dk[t']! = cJ at S2 lb sa sb nb
          clear S1
          go_big_region_o
          clear la lb sa sb
          generalize (wr.drew.setCells blk (off + (t' + 1) * k) cJ).setCells blk (off + (t') * k) cI = w2 at S2 ⊢
          go_wp2
          go_roundg (t' - i)
          case measure => omega
          case rel => exact ⟨t', swp dk (t' + 1) t', by first | rfl | go_num | (congr 1; omega), by omega, by omega, Nat.le_refl _, by rw [swp_size]; exact hds, RT.out.down (by omega) (by omega), S2⟩
        · have hltz2 : decide ((i : Int) < (t : Int)) = false := by simp; omega
          go_wp2
          (try simp only [Exit.inBlock, Exit.then])
          refine bodyPost_ret (results_none rfl _ _ _) rfl ?_
          have ht2 : t = i := by omega
          have RT2 : Rot d dk i m (m + 1) := by rw [← ht2]; exact RT.out
          have h1 := H1.out
          subst h1
          exact ⟨rfl, dk, ⟨permIn_mono d dk _ _ _ _ hi (Nat.le_refl _) hb RT2.perm, Runs.last V.swo HR.out hi hj (fun h => EI.out.1 h) (fun h => EI.out.2 h) RT2⟩, S1.out⟩
end Go.Proofs.YtehighgebbdenaaGreatDoor
end
