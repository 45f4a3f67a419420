import Derived.Test.YtehighgebbdenaaGreatDoorVp19
import Derived.Test.YtehighgebbdenaaGreatDoorVp24
import Derived.Test.YtehighgebbdenaaGreatDoorVp26
import Derived.Shelf.SlicesE.Clone
import Derived.Laws.OwnMore
import Derived.Lib.OwnBridge
import Derived.LoopN
section
namespace Go.Proofs.YtehighgebbdenaaGreatDoor
open Go.Shelf Go.RowKit Go.Lib Go.Sort
def InsOk (P : Program) {β : Type} [Inhabited β] (lt : β → β → Bool) (k : Nat) (enc : β × Nat → List Value) (g : Nat) (w0 : World) (blk off cap a b : Nat) (d : Array (β × Nat)) (w : World) : Prop :=
  Calls P 225 #[.slice (some ⟨blk, off, none⟩) d.size cap, .int .i64 a, .int .i64 b, .func (.func g) #[] #[]] w fun e w' => e = .returned (.tuple #[]) ∧ ∃ d', (PermIn a b d d' ∧ SortedIn (slt lt) a b d') ∧ SWK enc k w0 blk off d' w'
set_option maxHeartbeats 16000000 in
set_option maxRecDepth 1000000 in
theorem stable_open {P : Program} {β : Type} [Inhabited β] {lt : β → β → Bool} {k : Nat} {enc : β × Nat → List Value} {cf : β × Nat → β × Nat → Int} {g : Nat} {w0 : World} {blk off : Nat} {d0 : Array (β × Nat)} (V : SEnv P lt k enc cf g w0 blk off d0) (cap : Nat) (d : Array (β × Nat)) (w : World)
    (hF : P.funcs[(185 : Nat)]? = some Tryz.f185)
    (eI : ∀ args w, (callFunc 225 args).run P w = .ok (.enter 225 args) w)
    (INS : ∀ a b d w, d0.size = d.size → SWK enc k w0 blk off d w → a ≤ b → b ≤ d.size → d.size < 4611686018427387904 → (∀ p q, a ≤ p → p < q → q < b → d[p]!.2 < d[q]!.2) → InsOk P lt k enc g w0 blk off cap a b d w)
    (hs : d0.size = d.size) (S : SWK enc k w0 blk off d w) (ht : ∀ p, p < d.size → d[p]!.2 = p) (hsz : d.size < 1152921504606846976) :
    Calls P 185 #[.slice (some ⟨blk, off, none⟩) d.size cap, .int .i64 d.size, .func (.func g) #[] #[]] w fun e w' => e = .returned (.tuple #[]) ∧ ∃ d', (PermIn 0 d.size d d' ∧ SortedIn (slt lt) 0 d.size d') ∧ SWK enc k w0 blk off d' w' := by
  have L := V.ty
  have mixed := L.mixed; have t0 := L.t0; have a0 := L.a0; have z0 := L.z0; have v0 := L.v0; have t3 := L.t3; have a3 := L.a3; have z3 := L.z3; have v3 := L.v3; have t4 := L.t4; have a4 := L.a4; have z4 := L.z4; have v4 := L.v4; have tS := L.tS; have aS := L.aS; have zS := L.zS; have vS := L.vS; have tC := L.tC; have aC := L.aC; have zC := L.zC; have vC := L.vC; have tU := L.tU; have aU := L.aU; have zU := L.zU; have vU := L.vU; have aE := L.aE; have zE := L.zE
  have eM : ∀ args w, (callFunc 226 args).run P w = .ok (.enter 226 args) w := enters_of V.fM (by kernel_rfl) rfl
  have I0 : Aside (∀ a b d w, d0.size = d.size → SWK enc k w0 blk off d w → a ≤ b → b ≤ d.size → d.size < 4611686018427387904 → (∀ p q, a ≤ p → p < q → q < b → d[p]!.2 < d[q]!.2) → InsOk P lt k enc g w0 blk off cap a b d w) := INS
  have S0 : Aside (SWK enc k w0 blk off d w) := S
  have T0 : Aside (∀ p, p < d.size → d[p]!.2 = p) := ht
  clear S ht INS
  go_enter hF, Tryz.ntmps185
  go_wp2
  go_loopg [7, 8] d.size (fun kx s7 s8 wr => ∃ (c a : Nat) (dk : Array (β × Nat)), s7 = .int .i64 (a : Int) ∧ s8 = .int .i64 ((a : Int) + 20) ∧ a ≤ d.size ∧ d.size - a ≤ kx ∧ dk.size = d.size ∧ Aside (a = c * 20) ∧ Aside (Blocks lt 20 a d.size dk) ∧ Aside (∀ p, a ≤ p → p < d.size → dk[p]!.2 = p) ∧ Aside (PermIn 0 d.size d dk) ∧ Aside (SWK enc k w0 blk off dk wr))
  case atStart => exact ⟨0, 0, d, rfl, by first | rfl | (congr 1; omega), Nat.zero_le _, Nat.le_refl _, rfl, (by omega : (0 : Nat) = 0 * 20), ⟨fun p hp c => by rw [T0.out p hp], fun i j _ hj => by omega⟩, fun p _ hp => T0.out p hp, permIn_refl _ _ _, S0⟩
  case round =>
    clear S0 T0
    obtain ⟨c, a, dk, rfl, rfl, han, hkx, hdk, HA, BL, TG, PM, S1⟩ := hrel
    by_cases hlt : a + 20 ≤ d.size
    · have q1 : decide ((a : Int) + 20 ≤ (d.size : Int)) = true := by simp; omega
      go_wp2_with fail
      clear q1
      have c1 : (a : Int) + 20 = ((a + 20 : Nat) : Int) := by omega
      have C := I0.out a (a + 20) dk wr (by omega) S1.out (by omega) (by omega) (by omega) (fun p q hp hpq hq => by rw [TG.out p hp (by omega), TG.out q (by omega) (by omega)]; exact hpq)
      unfold InsOk at C
      rw [hdk, ← c1] at C
      clear c1
      refine C.mono ?_
      clear C
      rintro ex w1 ⟨rfl, d1, ⟨PM1, SO1⟩, S_1⟩
      have S2 : Aside (SWK enc k w0 blk off d1 w1) := S_1
      have hd1 : d1.size = d.size := by rw [PM1.1, hdk]
      have BL2 : Aside (Blocks lt 20 (a + 20) d.size d1) := Blocks.step BL.out hdk.symm HA.out hlt (.inl rfl) PM1 SO1
      have TG2 : Aside (∀ p, a + 20 ≤ p → p < d.size → d1[p]!.2 = p) := fun p hp hpn => by rw [PM1.2.1 p (.inr hp)]; exact TG.out p (by omega) hpn
      have PM2 : Aside (PermIn 0 d.size d d1) := permIn_trans _ _ _ _ _ PM.out (permIn_mono dk d1 _ _ _ _ (Nat.zero_le _) hlt (by omega) PM1)
      have HA2 : Aside (a + 20 = (c + 1) * 20) := by have := HA.out; show _ = _; omega
      clear S_1 PM1 SO1 BL TG PM S1 HA
      go_wp2
      go_roundg (d.size - (a + 20))
      case measure => omega
      case rel => exact ⟨c + 1, a + 20, d1, by go_num, by first | rfl | go_num | (congr 1; omega), hlt, Nat.le_refl _, hd1, HA2, BL2, TG2, PM2, S2⟩
    · have q1 : decide ((a : Int) + 20 ≤ (d.size : Int)) = false := by simp; omega
      go_wp2_with fail
      clear q1
      have C := I0.out a d.size dk wr (by omega) S1.out (by omega) (by omega) (by omega) (fun p q hp hpq hq => by rw [TG.out p hp (by omega), TG.out q (by omega) (by omega)]; exact hpq)
      unfold InsOk at C
      rw [hdk] at C
      refine C.mono ?_
      clear C
      rintro ex w1 ⟨rfl, d1, ⟨PM1, SO1⟩, S_1⟩
      have S2 : Aside (SWK enc k w0 blk off d1 w1) := S_1
      have hd1 : d1.size = d.size := by rw [PM1.1, hdk]
      have BL2 : Aside (Blocks lt 20 d.size d.size d1) := Blocks.step BL.out hdk.symm HA.out (Nat.le_refl _) (.inr ⟨rfl, by omega⟩) PM1 SO1
      have PM2 : Aside (PermIn 0 d.size d d1) := permIn_trans _ _ _ _ _ PM.out (permIn_mono dk d1 _ _ _ _ (Nat.zero_le _) (Nat.le_refl _) (by omega) PM1)
      clear S_1 PM1 SO1 BL TG PM S1 HA hkx hlt
      go_wp2
      go_loopg [6] d.size (fun kx s6 wr => ∃ (B : Nat) (dk : Array (β × Nat)), s6 = .int .i64 (B : Int) ∧ 20 ≤ B ∧ d.size - B ≤ kx ∧ dk.size = d.size ∧ Aside (Blocks lt B d.size d.size dk) ∧ Aside (PermIn 0 d.size d dk) ∧ Aside (SWK enc k w0 blk off dk wr))
      case atStart => exact ⟨20, d1, rfl, Nat.le_refl _, by omega, hd1, BL2, PM2, S2⟩
      case round =>
        clear S2 BL2 PM2 hd1
        obtain ⟨B, dk2, rfl, hB, hkx, hdk2, BL, PM, S1⟩ := hrel
        by_cases hBn : B < d.size
        · have q1 : decide ((B : Int) < (d.size : Int)) = true := by simp; omega
          have HF : Aside (Half lt B 0 d.size dk2) := BL.out.half
          go_wp2
          clear q1 BL
          go_loopg [7, 8] d.size (fun kx s7 s8 wr => ∃ (c a : Nat) (dk : Array (β × Nat)), s7 = .int .i64 (a : Int) ∧ s8 = .int .i64 ((a : Int) + 2 * (B : Int)) ∧ a ≤ d.size ∧ d.size - a ≤ kx ∧ dk.size = d.size ∧ Aside (a = c * (2 * B)) ∧ Aside (Half lt B a d.size dk) ∧ Aside (PermIn 0 d.size d dk) ∧ Aside (SWK enc k w0 blk off dk wr))
          case atStart => exact ⟨0, 0, dk2, rfl, by first | rfl | (congr 1; omega), Nat.zero_le _, Nat.le_refl _, hdk2, (by show 0 = _; rw [Nat.zero_mul]), HF, PM, S1⟩
          case round =>
            clear S1 PM HF hdk2
            obtain ⟨c, a, dk3, rfl, rfl, han, hkx3, hdk3, HA, HF, PM, S1⟩ := hrel
            by_cases hlt : a + 2 * B ≤ d.size
            · have q1 : decide ((a : Int) + 2 * (B : Int) ≤ (d.size : Int)) = true := by simp; omega
              go_wp2_with fail
              clear q1
              have c1 : (a : Int) + (B : Int) = ((a + B : Nat) : Int) := by omega
              have c2 : (a : Int) + 2 * (B : Int) = ((a + 2 * B : Nat) : Int) := by omega
              have C := sym_all V cap _ a (a + B) (a + 2 * B) dk3 wr (Nat.le_refl _) (by omega) S1.out (HF.out.runs HA.out rfl (by omega) (by omega) hlt) (by omega) (by omega) (by omega) (by omega)
              unfold SymOk at C
              rw [hdk3, ← c1, ← c2] at C
              clear c1 c2
              refine C.mono ?_
              clear C
              rintro ex w1 ⟨rfl, d1, ⟨PM1, SO1⟩, S_1⟩
              have S2 : Aside (SWK enc k w0 blk off d1 w1) := S_1
              have hd1 : d1.size = d.size := by rw [PM1.1, hdk3]
              have HF2 : Aside (Half lt B (a + 2 * B) d.size d1) := Half.step HF.out hdk3.symm HA.out (by omega) hlt (.inl rfl) PM1 SO1
              have PM2 : Aside (PermIn 0 d.size d d1) := permIn_trans _ _ _ _ _ PM.out (permIn_mono dk3 d1 _ _ _ _ (Nat.zero_le _) hlt (by omega) PM1)
              have HA2 : Aside (a + 2 * B = (c + 1) * (2 * B)) := by show _ = _; rw [Nat.add_mul, ← HA.out]; omega
              clear S_1 PM1 SO1 HF PM S1 HA
              go_wp2
              go_roundg (d.size - (a + 2 * B))
              case measure => omega
              case rel => exact ⟨c + 1, a + 2 * B, d1, by first | rfl | (congr 1; omega), by first | rfl | (congr 1; omega), hlt, Nat.le_refl _, hd1, HA2, HF2, PM2, S2⟩
            · have q1 : decide ((a : Int) + 2 * (B : Int) ≤ (d.size : Int)) = false := by simp; omega
              by_cases hmn : a + B < d.size
              · have q2 : decide ((a : Int) + (B : Int) < (d.size : Int)) = true := by simp; omega
                go_wp2_with fail
                clear q1 q2
                have c1 : (a : Int) + (B : Int) = ((a + B : Nat) : Int) := by omega
                have C := sym_all V cap _ a (a + B) d.size dk3 wr (Nat.le_refl _) (by omega) S1.out (HF.out.runs HA.out rfl (by omega) (by omega) (Nat.le_refl _)) (by omega) (by omega) (by omega) (by omega)
                unfold SymOk at C
                rw [hdk3, ← c1] at C
                clear c1
                refine C.mono ?_
                clear C
                rintro ex w1 ⟨rfl, d1, ⟨PM1, SO1⟩, S_1⟩
                have S2 : Aside (SWK enc k w0 blk off d1 w1) := S_1
                have hd1 : d1.size = d.size := by rw [PM1.1, hdk3]
                have BL2 : Aside (Blocks lt (2 * B) d.size d.size d1) := (Half.step HF.out hdk3.symm HA.out (by omega) (Nat.le_refl _) (.inr ⟨rfl, by omega⟩) PM1 SO1).end_all
                have PM2 : Aside (PermIn 0 d.size d d1) := permIn_trans _ _ _ _ _ PM.out (permIn_mono dk3 d1 _ _ _ _ (Nat.zero_le _) (Nat.le_refl _) (by omega) PM1)
                clear S_1 PM1 SO1 HF PM S1 HA
                go_wp2
                go_roundg (d.size - 2 * B)
                case measure => omega
                case rel => exact ⟨2 * B, d1, by first | rfl | (congr 1; omega), by omega, Nat.le_refl _, hd1, BL2, PM2, S2⟩
              · have q2 : decide ((a : Int) + (B : Int) < (d.size : Int)) = false := by simp; omega
                have BL2 : Aside (Blocks lt (2 * B) d.size d.size dk3) := HF.out.end_ HA.out (by omega)
                clear HF HA
                go_wp2
                go_roundg (d.size - 2 * B)
                case measure => omega
                case rel => exact ⟨2 * B, dk3, by first | rfl | (congr 1; omega), by omega, Nat.le_refl _, hdk3, BL2, PM, S1⟩
        · have q1 : decide ((B : Int) < (d.size : Int)) = false := by simp; omega
          go_wp2
          go_end0
          exact ⟨rfl, dk2, ⟨PM.out, BL.out.all (by omega)⟩, S1.out⟩
end Go.Proofs.YtehighgebbdenaaGreatDoor
end
section
namespace Go.Proofs.YtehighgebbdenaaGreatDoor
open Go.Shelf Go.RowKit Go.Lib Go.Sort
def insRen : Ren := ⟨fun | 20 => 225 | n => n, fun | 0 => 0 | 3 => 3 | 4 => 4 | 22 => 32 | 24 => 38 | 25 => 210 | n => n, fun n => n⟩
theorem ins_lays : SlLaysF0.n20 Tryz.prog insRen where
  mixed := by kernel_rfl
  f20 := ⟨ "slices.insertionSortCmpFunc[concordat/api.Op]", by kernel_rfl, Tryz.func225.trans (congrArg some (by kernel_rfl))⟩
  t0 := Tryz.underlying0
  a0 := Tryz.isAgg0
  z0 := Tryz.sizeOf0
  v0 := Tryz.zeroValue0
  t3 := Tryz.underlying3
  a3 := Tryz.isAgg3
  z3 := Tryz.sizeOf3
  v3 := Tryz.zeroValue3
  t4 := Tryz.underlying4
  a4 := Tryz.isAgg4
  z4 := Tryz.sizeOf4
  v4 := Tryz.zeroValue4
  t22 := Tryz.underlying32
  a22 := Tryz.isAgg32
  z22 := Tryz.sizeOf32
  v22 := Tryz.zeroValue32
  t25 := Tryz.underlying210
  a25 := Tryz.isAgg210
  z25 := Tryz.sizeOf210
  v25 := Tryz.zeroValue210
theorem ins_ok {w0 : World} {blk off : Nat} {d0 : Array (OpX × Nat)} (R : RowK encT 8 w0 blk off d0) (cap a b : Nat) (d : Array (OpX × Nat)) (w : World) (hs : d0.size = d.size) (S : SWK encT 8 w0 blk off d w) (hab : a ≤ b) (hb : b ≤ d.size) (hsz : d.size < 4611686018427387904) (ht : ∀ p q, a ≤ p → p < q → q < b → d[p]!.2 < d[q]!.2) :
    InsOk Tryz.prog ltX 8 encT 121 w0 blk off cap a b d w := by
  have I := ins_stable ltX_swo d a b hab hb ht
  rw [← ltOf_cmpX] at I
  unfold InsOk
  refine (AnyQ.insertionSortCmpFunc ins_lays 8 Tryz.isAgg38 Tryz.sizeOf38 encT R.hk R.h1 cmpX 121 #[] blk off cap a b d w eg_cmp (cmp_lays blk off d.size w) (S.holds R.hblk R.hH hs.symm) (S.lt R.hblk) hab hb hsz).mono ?_
  rintro e w' ⟨rfl, n, os, rfl⟩
  exact ⟨rfl, _, I, S.on R.hblk n _ os I.1.1⟩
theorem senv_here {w0 : World} {blk off : Nat} {d0 : Array (OpX × Nat)} (R : RowK encT 8 w0 blk off d0) : SEnv Tryz.prog ltX 8 encT cmpX 121 w0 blk off d0 :=
  ⟨sty_here, Tryz.func307, Tryz.func281, Tryz.func226, R, cmpX_lt, ltX_swo, eg_cmp, cmp_lays blk off d0.size w0⟩
theorem sortStable_any (w : World) (blk off cap : Nat) (d : Array (OpX × Nat)) (R : RowK encT 8 w blk off d) (ht : ∀ p, p < d.size → d[p]!.2 = p) (hsz : d.size < 1152921504606846976) :
    Calls Tryz.prog 120 #[.slice (some ⟨blk, off, none⟩) d.size cap, .func (.func 121) #[] #[]] w fun e w' => e = .returned (.tuple #[]) ∧ ∃ d', (PermIn 0 d.size d d' ∧ SortedIn (slt ltX) 0 d.size d') ∧ SWK encT 8 w blk off d' w' := by
  have eS : ∀ args w, (callFunc 185 args).run Tryz.prog w = .ok (.enter 185 args) w := enters_of Tryz.func185 (by kernel_rfl) rfl
  have eI : ∀ args w, (callFunc 225 args).run Tryz.prog w = .ok (.enter 225 args) w := enters_of Tryz.func225 (by kernel_rfl) rfl
  have C := stable_open (senv_here R) cap d w Tryz.func185 eI (ins_ok R cap) rfl (SWK.start R.hH) ht hsz
  have CA : Aside _ := C
  clear C eI ht
  go_enter Tryz.func120, Tryz.ntmps120
  go_wp2_with fail
  refine Calls.mono CA.out ?_
  rintro e w' ⟨rfl, d', hd, S⟩
  have S2 : Aside (SWK encT 8 w blk off d' w') := S
  have H2 : Aside (PermIn 0 d.size d d' ∧ SortedIn (slt ltX) 0 d.size d') := hd
  clear S hd CA
  go_wp2
  go_end0
  exact ⟨rfl, d', H2.out, S2.out⟩
end Go.Proofs.YtehighgebbdenaaGreatDoor
end
section
namespace Go.Proofs.YtehighgebbdenaaGreatDoor
open Go.Shelf Go.RowKit Go.Lib Go.Sort
def cloneRen : Ren := ⟨fun | 41 => 119 | n => n, fun | 4 => 4 | 22 => 32 | 23 => 38 | n => n, fun n => n⟩
theorem clone_lays : SlLaysE0.n41 Tryz.prog cloneRen where
  mixed := by kernel_rfl
  f41 := ⟨ "slices.Clone[[]concordat/api.Op,concordat/api.Op]", by kernel_rfl, Tryz.func119.trans (congrArg some (by kernel_rfl))⟩
  t4 := Tryz.underlying4
  a4 := Tryz.isAgg4
  z4 := Tryz.sizeOf4
  v4 := Tryz.zeroValue4
  t22 := Tryz.underlying32
  a22 := Tryz.isAgg32
  z22 := Tryz.sizeOf32
  v22 := Tryz.zeroValue32
theorem clone_some (w : World) (b off c : Nat) (xs : List OpX) (hn : xs.length ≤ 1000) (hc : ∀ j u, (cellsOf xs)[j]? = some u → w.cell? ⟨b, off + j, none⟩ = some u) :
    Calls Tryz.prog 119 #[.slice (some ⟨b, off, none⟩) xs.length c] w fun e w' => ∃ v', e = .returned v' ∧ w'.ownsRow w.heap.size 38 8 v' xs.length (cellsOf xs) ∧ v' ≠ .slice none 0 0 ∧ Below w.heap.size w w' := by
  obtain ⟨i0, hi, hz0, hz1, hz2⟩ := info_parts infoOp
  exact AnyE.slices_Clone clone_lays i0 _ 8 80 hi hz0 hz1 hz2 rfl (by omega) Tryz.sizeOf38 b off xs.length c (cellsOf xs) w (cellsOf_len xs) (by simp only [maxLen]; omega) (by omega) hc (cellsOf_one xs)
theorem clone_nil (w : World) : Calls Tryz.prog 119 #[.slice none 0 0] w fun e w' => e = .returned (.slice none 0 0) ∧ w' = w :=
  AnyE.slices_Clone_nil clone_lays 0 0 w
def tagged (xs : List OpX) : Array (OpX × Nat) := xs.zipIdx.toArray
theorem tagged_size (xs : List OpX) : (tagged xs).size = xs.length := by simp [tagged]
theorem tagged_at (xs : List OpX) (i : Nat) (hi : i < xs.length) : (tagged xs)[i]! = (xs[i]!, i) := by
  rw [getElem!_pos _ i (by rw [tagged_size]; exact hi), getElem!_pos xs i hi]
  simp [tagged]
theorem row_of {w : World} {base n g cap : Nat} {xs : List OpX} (hn : n = xs.length) (h : w.ownsRow base 38 8 (.slice (some ⟨g, 0, none⟩) n cap) n (cellsOf xs)) : RowK encT 8 w g 0 (tagged xs) where
  hk := encT_len
  h1 := encT_one
  hblk := (h.lt g rfl).2
  hH := fun j hj => by
    rw [size_flatK, tagged_size] at hj
    have h1 : j / 8 < xs.length := by omega
    have h2 : j / 8 * 8 + j % 8 = j := by omega
    refine ⟨?_, by rw [Nat.zero_add]; exact h.frozenAt j⟩
    rw [Nat.zero_add, h.cellAt j (by omega), get_flatK _ _ _ _ (by rw [tagged_size]; exact hj), tagged_at xs _ h1]
    have := cellsOf_get xs (j / 8) (j % 8) h1 (by omega)
    rw [h2] at this
    exact this
end Go.Proofs.YtehighgebbdenaaGreatDoor
end
section
namespace Go.Proofs.YtehighgebbdenaaGreatDoor
open Go.Shelf Go.RowKit Go.Lib Go.Sort
theorem below_grow {B : Nat} {w0 w : World} {os : Array Obj} (h : Below B w0 w) (hB : B ≤ w.heap.size) : Below B w0 (grow w os) :=
  ⟨h.os, h.tape, h.output, by rw [Go.Sort.size_grow]; exact Nat.le_trans h.size (Nat.le_add_right _ _), fun k hk => by
    rw [← h.block k hk]
    simp only [grow]
    rw [Array.getElem?_append_left (by omega)]⟩
theorem below_sorted {B : Nat} {w0 w w' : World} {g : Nat} {d : Array (OpX × Nat)} (h : Below B w0 w) (hg : B ≤ g) (hB : B ≤ w.heap.size) (S : SWK encT 8 w g 0 d w') : Below B w0 w' := by
  obtain ⟨n, os, rfl⟩ := S
  unfold sortWorldK putRowK
  exact below_grow (below_putRow h hg) (by show B ≤ (putRow id _ g 0 _).heap.size; simpa [putRow, mapBlock, Sort.ahead] using hB)
theorem sorted_at {w w' : World} {g : Nat} {d d' : Array (OpX × Nat)} (R : RowK encT 8 w g 0 d) (hs : d'.size = d.size) (S : SWK encT 8 w g 0 d' w') (j : Nat) (u : Value) (hj : (cellsOf (d'.toList.map Prod.fst))[j]? = some u) : w'.cell? ⟨g, 0 + j, none⟩ = some u := by
  have H := S.holds R.hblk R.hH hs
  have hl : j < (cellsOf (d'.toList.map Prod.fst)).length := (List.getElem?_eq_some_iff.1 hj).1
  rw [cellsOf_len, List.length_map, Array.length_toList] at hl
  have h1 : j / 8 < d'.size := by omega
  have h2 : j / 8 * 8 + j % 8 = j := by omega
  have c := cellsOf_get (d'.toList.map Prod.fst) (j / 8) (j % 8) (by rw [List.length_map, Array.length_toList]; exact h1) (by omega)
  rw [h2, hj] at c
  have H1 := (H j (by rw [size_flatK]; omega)).1
  rw [get_flatK _ _ _ _ (by omega)] at H1
  have e : encT d'[j / 8]! = encX (d'.toList.map Prod.fst)[j / 8]! := by
    rw [getElem!_pos d' (j / 8) h1, getElem!_pos (d'.toList.map Prod.fst) (j / 8) (by rw [List.length_map, Array.length_toList]; exact h1)]
    simp [encT]
  rw [H1, c, ← e]
  rfl
def StableOf (xs ys : List OpX) : Prop := ∃ d' : Array (OpX × Nat), (PermIn 0 xs.length (tagged xs) d' ∧ SortedIn (slt ltX) 0 xs.length d') ∧ ys = d'.toList.map Prod.fst
set_option maxHeartbeats 4000000 in
theorem ins_nil (fv : Value) (w : World) : Calls Tryz.prog 225 #[.slice none 0 0, .int .i64 0, .int .i64 0, fv] w fun e w' => e = .returned (.tuple #[]) ∧ w' = w := by
  go_enter Tryz.func225, Tryz.ntmps225
  go_wp2
  refine wp_loop_rounds 1 ?_
  rw [rounds_succ]
  go_wp2
  go_end0
  exact ⟨rfl, rfl⟩
set_option maxHeartbeats 4000000 in
theorem stable_nil (g : Nat) (w : World) : Calls Tryz.prog 185 #[.slice none 0 0, .int .i64 0, .func (.func g) #[] #[]] w fun e w' => e = .returned (.tuple #[]) ∧ w' = w := by
  go_enter Tryz.func185, Tryz.ntmps185
  go_wp2
  refine wp_loop_rounds 1 ?_
  rw [rounds_succ]
  go_wp2_with fail
  refine (ins_nil _ _).mono ?_
  rintro e w' ⟨rfl, rfl⟩
  go_wp2
  refine wp_loop_rounds 1 ?_
  rw [rounds_succ]
  go_wp2
  go_end0
  exact ⟨rfl, rfl⟩
theorem sortStable_nil (g : Nat) (w : World) : Calls Tryz.prog 120 #[.slice none 0 0, .func (.func g) #[] #[]] w fun e w' => e = .returned (.tuple #[]) ∧ w' = w := by
  go_enter Tryz.func120, Tryz.ntmps120
  go_wp2_with fail
  refine (stable_nil _ _).mono ?_
  rintro e w' ⟨rfl, rfl⟩
  go_wp2
  go_end0
  exact ⟨rfl, rfl⟩
set_option maxHeartbeats 4000000 in
theorem opSort_new (w : World) (v : Value) (xs : List OpX) (h : OpsAt w v xs) (hn : xs.length ≤ 1000) :
    Calls Tryz.prog 53 #[v] w fun e w' => ∃ v' ys, e = .returned v' ∧ OpsAt w' v' ys ∧ StableOf xs ys ∧ Below w.heap.size w w' ∧ ∀ g, v'.ownBlock = some g → w.heap.size ≤ g := by
  rcases h with ⟨rfl, rfl⟩ | ⟨blk, off, cap, rfl, hc⟩
  · go_enter Tryz.func53, Tryz.ntmps53
    go_wp2_with fail
    refine (clone_nil _).mono ?_
    rintro e w' ⟨rfl, rfl⟩
    go_wp2_with fail
    refine (sortStable_nil _ _).mono ?_
    rintro e w1 ⟨rfl, rfl⟩
    go_wp2
    go_ret
    exact ⟨_, [], rfl, .inl ⟨rfl, rfl⟩, ⟨#[], ⟨permIn_refl _ _ _, fun i j _ _ hj => absurd hj (by simp)⟩, rfl⟩, Below.refl _ _, fun g hg => by cases hg⟩
  · have HC : Aside (∀ j u, (cellsOf xs)[j]? = some u → w.cell? ⟨blk, off + j, none⟩ = some u) := hc
    clear hc
    go_enter Tryz.func53, Tryz.ntmps53
    go_wp2_with fail
    refine (clone_some w blk off cap xs hn HC.out).mono ?_
    clear HC
    rintro e w1 ⟨v1, rfl, hown, hnil, hb⟩
    obtain ⟨g, c1, rfl, hg⟩ : ∃ g c1, v1 = .slice (some ⟨g, 0, none⟩) xs.length c1 ∧ w.heap.size ≤ g := by
      rcases hown.2 with ⟨h1, _⟩ | ⟨g, c1, cur, h1, h2, _⟩
      · exact absurd h1 hnil
      · exact ⟨g, c1, h1, h2⟩
    have R0 : Aside (RowK encT 8 w1 g 0 (tagged xs)) := row_of rfl hown
    have HB : Aside (Below w.heap.size w w1) := hb
    clear hown hnil hb
    go_wp2_with fail
    have C := sortStable_any w1 g 0 c1 (tagged xs) R0.out (fun p hp => by rw [tagged_at xs p (by rw [tagged_size] at hp; exact hp)]) (by rw [tagged_size]; omega)
    rw [tagged_size] at C
    refine C.mono ?_
    clear C
    rintro e w2 ⟨rfl, d', hd, S⟩
    have hl : d'.size = xs.length := by rw [hd.1.1, tagged_size]
    have hl2 : (d'.toList.map Prod.fst).length = xs.length := by rw [List.length_map, Array.length_toList]; exact hl
    have F : Aside (OpsAt w2 (.slice (some ⟨g, 0, none⟩) xs.length c1) (d'.toList.map Prod.fst) ∧ StableOf xs (d'.toList.map Prod.fst) ∧ Below w.heap.size w w2) :=
      ⟨.inr ⟨g, 0, c1, by rw [hl2], fun j u hj => sorted_at R0.out (by rw [hl, tagged_size]) S j u hj⟩, ⟨d', hd, rfl⟩, below_sorted HB.out hg HB.out.size S⟩
    clear hd S R0 HB hl hl2
    go_wp2
    go_ret
    exact ⟨_, _, rfl, F.out.1, F.out.2.1, F.out.2.2, fun g' hg' => by cases hg'; exact hg⟩
end Go.Proofs.YtehighgebbdenaaGreatDoor
end
section
namespace Go.Proofs.YtehighgebbdenaaGreatDoor
open Go.Shelf Go.RowKit Go.Lib Go.Sort
theorem permIn_list {d d' : Array (OpX × Nat)} (h : PermIn 0 d.size d d') : d.toList.Perm d'.toList := by
  have h2 := h.2.2
  have e : d'.size = d.size := h.1
  have e1 : d'.toList.take d.size = d'.toList := by rw [← e, ← Array.length_toList, List.take_length]
  have e2 : d.toList.take d.size = d.toList := by rw [← Array.length_toList, List.take_length]
  first
    | simpa using h2
    | (simp at h2; rw [e1] at h2; exact h2)
    | (simp at h2; rw [e1] at h2; exact h2.symm)
end Go.Proofs.YtehighgebbdenaaGreatDoor
end
section
set_option linter.unusedVariables false
namespace Go.Proofs.YtehighgebbdenaaGreatDoor
open Go.RowKit Go.Lib Go.Sort
theorem stable_by {xs ys : List OpX} (h : StableOf xs ys) : ys.Perm xs ∧ ys.Pairwise (fun a b => ¬ CLt (stO b) (stO a)) := by
  obtain ⟨d', ⟨hp, hs⟩, rfl⟩ := h
  have hsz : (tagged xs).size = xs.length := tagged_size xs
  have hp' : PermIn 0 (tagged xs).size (tagged xs) d' := by rw [hsz]; exact hp
  have hd : d'.size = xs.length := by have := hp.1; rw [this, hsz]
  have hperm := permIn_list hp'
  have hfst : (tagged xs).toList.map Prod.fst = xs := by
    unfold tagged
    simp
  refine ⟨?_, ?_⟩
  · have := hperm.map Prod.fst
    rw [hfst] at this
    exact this.symm
  · have hl := sorted_list d' (by rw [hd]; exact hs)
    rw [List.pairwise_map]
    refine hl.imp (fun {a b} q => ?_)
    have := (slt_false.1 q).1
    unfold ltX at this
    have e := lessB_clt (stO b.1) (stO a.1)
    intro hc
    have h2 : lessB b.1.1 b.1.2.1 a.1.1 a.1.2.1 = true := e.trans (decide_eq_true hc)
    rw [h2] at this
    cases this
theorem by_stamp {ys : List OpX} (hs : ys.Pairwise (fun a b => ¬ CLt (stO b) (stO a))) (hn : ys.Pairwise (fun a b => stO a ≠ stO b)) : ys.Pairwise (fun a b => CLt (stO a) (stO b)) :=
  (hs.and hn).imp (fun {a b} h => by
    obtain ⟨h1, h2⟩ := h
    unfold CLt at *
    rcases ha : stO a with ⟨a1, a2⟩
    rcases hb : stO b with ⟨b1, b2⟩
    rw [ha, hb] at h1 h2
    dsimp only at *
    have h3 : ¬ (a1 = b1 ∧ a2 = b2) := fun e => h2 (by rw [e.1, e.2])
    omega)
def aoOf (v : Value) : Option Addr := match v with
  | .slice a _ _ => a
  | _ => none
def capOf (v : Value) : Nat := match v with
  | .slice _ _ c => c
  | _ => 0
theorem row_kvs {w : World} {c : Nat → Nat} {kv : Nat → Value} {R : Rws} (h : RowsAt w c kv R) {i : Nat} (hi : i < 4) : kv i = kvs (fun j => aoOf (kv j)) (fun j => capOf (kv j)) R i := by
  obtain ⟨a, cp, e⟩ := rowIs (h i hi).1
  show kv i = .slice (aoOf (kv i)) (R i).length (capOf (kv i))
  rw [e]
  rfl
theorem RowsAt.congr {w : World} {c : Nat → Nat} {kv kv' : Nat → Value} {R : Rws} (h : RowsAt w c kv R) (e : ∀ i, i < 4 → kv i = kv' i) : RowsAt w c kv' R := fun i hi => by rw [← e i hi]; exact h i hi
theorem RepCell.congr {w : World} {br : Nat} {T by_ : Int} {kv kv' : Nat → Value} {bt bx bc : Nat} (h : RepCell w br T by_ kv bt bx bc) (e : ∀ i, i < 4 → kv i = kv' i) : RepCell w br T by_ kv' bt bx bc := by
  unfold RepCell at *
  rw [← e 0 (by omega), ← e 1 (by omega), ← e 2 (by omega), ← e 3 (by omega)]
  exact h
theorem RepMid.norm {w : World} {c : Nat → Nat} {br : Nat} {T by_ : Int} {kv : Nat → Value} {bt bx bc : Nat} {R : Rws} {A : List OpX} (h : RepMid w c br T by_ kv bt bx bc R A) : ∃ ao cap, RepMid w c br T by_ (kvs ao cap R) bt bx bc R A :=
  ⟨_, _, h.cell.congr (fun i hi => row_kvs h.rows hi), h.hue, h.rows.congr (fun i hi => row_kvs h.rows hi), h.tree, h.text, h.marks, h.time⟩
structure RepOwn (B : Nat) (w : World) (c : Nat → Nat) (br : Nat) (by_ : Int) (R : Rws) : Prop where
  rep : RepAt w c br by_ R
  low : ∀ k, c k ≠ 0 → B ≤ k
  high : ∀ k, w.heap.size ≤ k → c k = 0
theorem RepOwn.later {B : Nat} {w w' : World} {c : Nat → Nat} {br : Nat} {by_ : Int} {R : Rws} (h : RepOwn B w c br by_ R) (hb : Below w.heap.size w w') : RepOwn B w' c br by_ R := ⟨h.rep.later hb, h.low, fun k hk => h.high k (Nat.le_trans hb.size hk)⟩
theorem up_perm (R : Rws) {i : Nat} (hi : i < 4) (o : OpX) : (allR (upR R i (R i ++ [o]))).Perm (allR R ++ [o]) := by
  have sw : ∀ (a b : List OpX), (a ++ [o] ++ b).Perm (a ++ b ++ [o]) := fun a b => by
    rw [List.append_assoc, List.append_assoc]
    exact (List.perm_append_comm (l₁ := [o]) (l₂ := b)).append_left a
  unfold allR upR
  have h4 : i = 0 ∨ i = 1 ∨ i = 2 ∨ i = 3 := by omega
  rcases h4 with rfl | rfl | rfl | rfl
  · simpa using sw (R 0) (R 1 ++ (R 2 ++ R 3))
  · simpa using sw (R 0 ++ R 1) (R 2 ++ R 3)
  · simpa using sw (R 0 ++ (R 1 ++ R 2)) (R 3)
  · simp
theorem withGo_perm : ∀ (F : List OpX) (R : Rws) (z : Bool) (R' : Rws) (z' : Bool), (∀ x ∈ F, errO x = 0) → withGo R z F = some (R', z') → (allR R').Perm (allR R ++ F)
  | [], R, z, R', z', _, h => by
    rw [withGo] at h
    cases h
    rw [List.append_nil]
  | o :: t, R, z, R', z', ho, h => by
    obtain ⟨i, hi, hb, hbn⟩ := by_nat (ho o List.mem_cons_self)
    rw [withGo, hbn] at h
    split at h
    · have ih := withGo_perm t _ _ R' z' (fun x hx => ho x (List.mem_cons_of_mem _ hx)) h
      refine ih.trans ?_
      have := (up_perm R hi o).append_right t
      rwa [List.append_assoc] at this
    · cases h
theorem stamps_apart {R : Rws} (h : RowsN R) {ys : List OpX} (hm : ∀ x ∈ ys, x ∈ allR R) (hp : ys.Pairwise (fun x y => ¬ (byO x = byO y ∧ numO x = numO y))) : ys.Pairwise (fun a b => stO a ≠ stO b) :=
  hp.imp_of_mem (fun {a b} ha hb q e => q (by rw [h.stamp (hm a ha) (hm b hb) e]; exact ⟨rfl, rfl⟩))
theorem RepMid.recolor {w : World} {c c' : Nat → Nat} {br : Nat} {T by_ : Int} {kv : Nat → Value} {bt bx bc : Nat} {R : Rws} {A : List OpX} (h : RepMid w c br T by_ kv bt bx bc R A) (e : ∀ k, k < w.heap.size → c' k = c k) : RepMid w c' br T by_ kv bt bx bc R A := h.kept (fun i _ => ⟨fun _ _ _ => rfl, e⟩)
def hueTo (w w' : World) (c c2 : Nat → Nat) : Nat → Nat := fun k => if k < w.heap.size then c k else if k < w'.heap.size then c2 k else 0
theorem hueTo_is {w w' : World} {c c2 : Nat → Nat} (hh : ∀ k, k < w.heap.size → c2 k = c k) {k : Nat} (hk : k < w'.heap.size) : hueTo w w' c c2 k = c2 k := by
  unfold hueTo
  by_cases q : k < w.heap.size
  · rw [if_pos q, hh k q]
  · rw [if_neg q, if_pos hk]
theorem own_close {B : Nat} {w w' : World} {c c2 : Nat → Nat} {br : Nat} {T by_ : Int} {kv : Nat → Value} {bt bx bc : Nat} {R : Rws} {A : List OpX} (hm : RepMid w' c2 br T by_ kv bt bx bc R A) (hp : A.Perm (allR R)) (hK : RowsK R) (hb : 0 ≤ by_ ∧ by_ < 4) (hk : Keeps (fun k => c k ≠ 0) w w') (hh : ∀ k, k < w.heap.size → c2 k = c k) (hB : ∀ k, c k ≠ 0 → B ≤ k) (hBw : B ≤ w.heap.size) : ∃ c', Acts w c w' c' ∧ RepOwn B w' c' br by_ R := by
  refine ⟨hueTo w w' c c2, ⟨hk, fun k q => if_pos q⟩, ⟨_, _, _, _, _, _, hm.recolor (fun k q => hueTo_is hh q), hp, hK, hb⟩, fun k q => ?_, fun k q => ?_⟩
  · unfold hueTo at q
    by_cases e : k < w.heap.size
    · rw [if_pos e] at q; exact hB k q
    · omega
  · have := hk.size
    unfold hueTo
    rw [if_neg (by omega), if_neg (by omega)]
end Go.Proofs.YtehighgebbdenaaGreatDoor
end
