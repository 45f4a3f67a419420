/- Contract of slices.stableCmpFunc at elements of k cells that bear the place at which they stood, over the translation's bodies. -/
import Derived.Test.YtnfhbmgkiknaaaaDoorSortSym2
namespace Go.Proofs.YtnfhbmgkiknaaaaDoor
open Go.Shelf Go.RowKit Go.Lib Go.Sort

/-- What insertionSort promises. -/
def InsOk (P : Program) {β : Type} [Inhabited β] (lt : β → β → Bool) (k : Nat) (enc : β × Nat → List Value) (g : Nat) (w0 : World) (blk off cap a b : Nat) (d : Array (β × Nat)) (w : World) : Prop :=
  Calls P 124 #[.slice (some ⟨blk, off, none⟩) d.size cap, .int .i64 a, .int .i64 b, .func (.func g) #[] #[]] w fun e w' => e = .returned (.tuple #[]) ∧ ∃ d', (PermIn a b d d' ∧ SortedIn (slt lt) a b d') ∧ SWK enc k w0 blk off d' w'

set_option maxHeartbeats 16000000 in
set_option maxRecDepth 1000000 in
theorem stable_open {P : Program} {β : Type} [Inhabited β] {lt : β → β → Bool} {k : Nat} {enc : β × Nat → List Value} {cf : β × Nat → β × Nat → Int} {g : Nat} {w0 : World} {blk off : Nat} {d0 : Array (β × Nat)} (V : SEnv P lt k enc cf g w0 blk off d0) (cap : Nat) (d : Array (β × Nat)) (w : World)
    (hF : P.funcs[(102 : Nat)]? = some Tryd.f102)
    (eI : ∀ args w, (callFunc 124 args).run P w = .ok (.enter 124 args) w)
    (INS : ∀ a b d w, d0.size = d.size → SWK enc k w0 blk off d w → a ≤ b → b ≤ d.size → d.size < 4611686018427387904 → (∀ p q, a ≤ p → p < q → q < b → d[p]!.2 < d[q]!.2) → InsOk P lt k enc g w0 blk off cap a b d w)
    (hs : d0.size = d.size) (S : SWK enc k w0 blk off d w) (ht : ∀ p, p < d.size → d[p]!.2 = p) (hsz : d.size < 1152921504606846976) :
    Calls P 102 #[.slice (some ⟨blk, off, none⟩) d.size cap, .int .i64 d.size, .func (.func g) #[] #[]] w fun e w' => e = .returned (.tuple #[]) ∧ ∃ d', (PermIn 0 d.size d d' ∧ SortedIn (slt lt) 0 d.size d') ∧ SWK enc k w0 blk off d' w' := by
  have L := V.ty
  have mixed := L.mixed; have t0 := L.t0; have a0 := L.a0; have z0 := L.z0; have v0 := L.v0; have t3 := L.t3; have a3 := L.a3; have z3 := L.z3; have v3 := L.v3; have t4 := L.t4; have a4 := L.a4; have z4 := L.z4; have v4 := L.v4; have tS := L.tS; have aS := L.aS; have zS := L.zS; have vS := L.vS; have tC := L.tC; have aC := L.aC; have zC := L.zC; have vC := L.vC; have tU := L.tU; have aU := L.aU; have zU := L.zU; have vU := L.vU; have aE := L.aE; have zE := L.zE
  have eM : ∀ args w, (callFunc 125 args).run P w = .ok (.enter 125 args) w := enters_of V.fM (by kernel_rfl) rfl
  have I0 : Aside (∀ a b d w, d0.size = d.size → SWK enc k w0 blk off d w → a ≤ b → b ≤ d.size → d.size < 4611686018427387904 → (∀ p q, a ≤ p → p < q → q < b → d[p]!.2 < d[q]!.2) → InsOk P lt k enc g w0 blk off cap a b d w) := INS
  have S0 : Aside (SWK enc k w0 blk off d w) := S
  have T0 : Aside (∀ p, p < d.size → d[p]!.2 = p) := ht
  clear S ht INS
  go_enter hF, Tryd.ntmps102
  go_wp2
  go_loopg [7, 8] d.size (fun kx s7 s8 wr => ∃ (c a : Nat) (dk : Array (β × Nat)), s7 = .int .i64 (a : Int) ∧ s8 = .int .i64 ((a : Int) + 20) ∧ a ≤ d.size ∧ d.size - a ≤ kx ∧ dk.size = d.size ∧ Aside (a = c * 20) ∧ Aside (Blocks lt 20 a d.size dk) ∧ Aside (∀ p, a ≤ p → p < d.size → dk[p]!.2 = p) ∧ Aside (PermIn 0 d.size d dk) ∧ Aside (SWK enc k w0 blk off dk wr))
  case atStart => exact ⟨0, 0, d, rfl, by first | rfl | (congr 1; omega), Nat.zero_le _, Nat.le_refl _, rfl, (by omega : (0 : Nat) = 0 * 20), ⟨fun p hp c => by rw [T0.out p hp], fun i j _ hj => by omega⟩, fun p _ hp => T0.out p hp, permIn_refl _ _ _, S0⟩
  case round =>
    clear S0 T0
    obtain ⟨c, a, dk, rfl, rfl, han, hkx, hdk, HA, BL, TG, PM, S1⟩ := hrel
    by_cases hlt : a + 20 ≤ d.size
    · have q1 : decide ((a : Int) + 20 ≤ (d.size : Int)) = true := by simp; omega
      go_wp2_with fail
      clear q1
      have c1 : (a : Int) + 20 = ((a + 20 : Nat) : Int) := by omega
      have C := I0.out a (a + 20) dk wr (by omega) S1.out (by omega) (by omega) (by omega) (fun p q hp hpq hq => by rw [TG.out p hp (by omega), TG.out q (by omega) (by omega)]; exact hpq)
      unfold InsOk at C
      rw [hdk, ← c1] at C
      clear c1
      refine C.mono ?_
      clear C
      rintro ex w1 ⟨rfl, d1, ⟨PM1, SO1⟩, S_1⟩
      have S2 : Aside (SWK enc k w0 blk off d1 w1) := S_1
      have hd1 : d1.size = d.size := by rw [PM1.1, hdk]
      have BL2 : Aside (Blocks lt 20 (a + 20) d.size d1) := Blocks.step BL.out hdk.symm HA.out hlt (.inl rfl) PM1 SO1
      have TG2 : Aside (∀ p, a + 20 ≤ p → p < d.size → d1[p]!.2 = p) := fun p hp hpn => by rw [PM1.2.1 p (.inr hp)]; exact TG.out p (by omega) hpn
      have PM2 : Aside (PermIn 0 d.size d d1) := permIn_trans _ _ _ _ _ PM.out (permIn_mono dk d1 _ _ _ _ (Nat.zero_le _) hlt (by omega) PM1)
      have HA2 : Aside (a + 20 = (c + 1) * 20) := by have := HA.out; show _ = _; omega
      clear S_1 PM1 SO1 BL TG PM S1 HA
      go_wp2
      go_roundg (d.size - (a + 20))
      case measure => omega
      case rel => exact ⟨c + 1, a + 20, d1, by go_num, by first | rfl | go_num | (congr 1; omega), hlt, Nat.le_refl _, hd1, HA2, BL2, TG2, PM2, S2⟩
    · have q1 : decide ((a : Int) + 20 ≤ (d.size : Int)) = false := by simp; omega
      go_wp2_with fail
      clear q1
      have C := I0.out a d.size dk wr (by omega) S1.out (by omega) (by omega) (by omega) (fun p q hp hpq hq => by rw [TG.out p hp (by omega), TG.out q (by omega) (by omega)]; exact hpq)
      unfold InsOk at C
      rw [hdk] at C
      refine C.mono ?_
      clear C
      rintro ex w1 ⟨rfl, d1, ⟨PM1, SO1⟩, S_1⟩
      have S2 : Aside (SWK enc k w0 blk off d1 w1) := S_1
      have hd1 : d1.size = d.size := by rw [PM1.1, hdk]
      have BL2 : Aside (Blocks lt 20 d.size d.size d1) := Blocks.step BL.out hdk.symm HA.out (Nat.le_refl _) (.inr ⟨rfl, by omega⟩) PM1 SO1
      have PM2 : Aside (PermIn 0 d.size d d1) := permIn_trans _ _ _ _ _ PM.out (permIn_mono dk d1 _ _ _ _ (Nat.zero_le _) (Nat.le_refl _) (by omega) PM1)
      clear S_1 PM1 SO1 BL TG PM S1 HA hkx hlt
      go_wp2
      go_loopg [6] d.size (fun kx s6 wr => ∃ (B : Nat) (dk : Array (β × Nat)), s6 = .int .i64 (B : Int) ∧ 20 ≤ B ∧ d.size - B ≤ kx ∧ dk.size = d.size ∧ Aside (Blocks lt B d.size d.size dk) ∧ Aside (PermIn 0 d.size d dk) ∧ Aside (SWK enc k w0 blk off dk wr))
      case atStart => exact ⟨20, d1, rfl, Nat.le_refl _, by omega, hd1, BL2, PM2, S2⟩
      case round =>
        clear S2 BL2 PM2 hd1
        obtain ⟨B, dk2, rfl, hB, hkx, hdk2, BL, PM, S1⟩ := hrel
        by_cases hBn : B < d.size
        · have q1 : decide ((B : Int) < (d.size : Int)) = true := by simp; omega
          have HF : Aside (Half lt B 0 d.size dk2) := BL.out.half
          go_wp2
          clear q1 BL
          go_loopg [7, 8] d.size (fun kx s7 s8 wr => ∃ (c a : Nat) (dk : Array (β × Nat)), s7 = .int .i64 (a : Int) ∧ s8 = .int .i64 ((a : Int) + 2 * (B : Int)) ∧ a ≤ d.size ∧ d.size - a ≤ kx ∧ dk.size = d.size ∧ Aside (a = c * (2 * B)) ∧ Aside (Half lt B a d.size dk) ∧ Aside (PermIn 0 d.size d dk) ∧ Aside (SWK enc k w0 blk off dk wr))
          case atStart => exact ⟨0, 0, dk2, rfl, by first | rfl | (congr 1; omega), Nat.zero_le _, Nat.le_refl _, hdk2, (by show 0 = _; rw [Nat.zero_mul]), HF, PM, S1⟩
          case round =>
            clear S1 PM HF hdk2
            obtain ⟨c, a, dk3, rfl, rfl, han, hkx3, hdk3, HA, HF, PM, S1⟩ := hrel
            by_cases hlt : a + 2 * B ≤ d.size
            · have q1 : decide ((a : Int) + 2 * (B : Int) ≤ (d.size : Int)) = true := by simp; omega
              go_wp2_with fail
              clear q1
              have c1 : (a : Int) + (B : Int) = ((a + B : Nat) : Int) := by omega
              have c2 : (a : Int) + 2 * (B : Int) = ((a + 2 * B : Nat) : Int) := by omega
              have C := sym_all V cap _ a (a + B) (a + 2 * B) dk3 wr (Nat.le_refl _) (by omega) S1.out (HF.out.runs HA.out rfl (by omega) (by omega) hlt) (by omega) (by omega) (by omega) (by omega)
              unfold SymOk at C
              rw [hdk3, ← c1, ← c2] at C
              clear c1 c2
              refine C.mono ?_
              clear C
              rintro ex w1 ⟨rfl, d1, ⟨PM1, SO1⟩, S_1⟩
              have S2 : Aside (SWK enc k w0 blk off d1 w1) := S_1
              have hd1 : d1.size = d.size := by rw [PM1.1, hdk3]
              have HF2 : Aside (Half lt B (a + 2 * B) d.size d1) := Half.step HF.out hdk3.symm HA.out (by omega) hlt (.inl rfl) PM1 SO1
              have PM2 : Aside (PermIn 0 d.size d d1) := permIn_trans _ _ _ _ _ PM.out (permIn_mono dk3 d1 _ _ _ _ (Nat.zero_le _) hlt (by omega) PM1)
              have HA2 : Aside (a + 2 * B = (c + 1) * (2 * B)) := by show _ = _; rw [Nat.add_mul, ← HA.out]; omega
              clear S_1 PM1 SO1 HF PM S1 HA
              go_wp2
              go_roundg (d.size - (a + 2 * B))
              case measure => omega
              case rel => exact ⟨c + 1, a + 2 * B, d1, by first | rfl | (congr 1; omega), by first | rfl | (congr 1; omega), hlt, Nat.le_refl _, hd1, HA2, HF2, PM2, S2⟩
            · have q1 : decide ((a : Int) + 2 * (B : Int) ≤ (d.size : Int)) = false := by simp; omega
              by_cases hmn : a + B < d.size
              · have q2 : decide ((a : Int) + (B : Int) < (d.size : Int)) = true := by simp; omega
                go_wp2_with fail
                clear q1 q2
                have c1 : (a : Int) + (B : Int) = ((a + B : Nat) : Int) := by omega
                have C := sym_all V cap _ a (a + B) d.size dk3 wr (Nat.le_refl _) (by omega) S1.out (HF.out.runs HA.out rfl (by omega) (by omega) (Nat.le_refl _)) (by omega) (by omega) (by omega) (by omega)
                unfold SymOk at C
                rw [hdk3, ← c1] at C
                clear c1
                refine C.mono ?_
                clear C
                rintro ex w1 ⟨rfl, d1, ⟨PM1, SO1⟩, S_1⟩
                have S2 : Aside (SWK enc k w0 blk off d1 w1) := S_1
                have hd1 : d1.size = d.size := by rw [PM1.1, hdk3]
                have BL2 : Aside (Blocks lt (2 * B) d.size d.size d1) := (Half.step HF.out hdk3.symm HA.out (by omega) (Nat.le_refl _) (.inr ⟨rfl, by omega⟩) PM1 SO1).end_all
                have PM2 : Aside (PermIn 0 d.size d d1) := permIn_trans _ _ _ _ _ PM.out (permIn_mono dk3 d1 _ _ _ _ (Nat.zero_le _) (Nat.le_refl _) (by omega) PM1)
                clear S_1 PM1 SO1 HF PM S1 HA
                go_wp2
                go_roundg (d.size - 2 * B)
                case measure => omega
                case rel => exact ⟨2 * B, d1, by first | rfl | (congr 1; omega), by omega, Nat.le_refl _, hd1, BL2, PM2, S2⟩
              · have q2 : decide ((a : Int) + (B : Int) < (d.size : Int)) = false := by simp; omega
                have BL2 : Aside (Blocks lt (2 * B) d.size d.size dk3) := HF.out.end_ HA.out (by omega)
                clear HF HA
                go_wp2
                go_roundg (d.size - 2 * B)
                case measure => omega
                case rel => exact ⟨2 * B, dk3, by first | rfl | (congr 1; omega), by omega, Nat.le_refl _, hdk3, BL2, PM, S1⟩
        · have q1 : decide ((B : Int) < (d.size : Int)) = false := by simp; omega
          go_wp2
          go_end0
          exact ⟨rfl, dk2, ⟨PM.out, BL.out.all (by omega)⟩, S1.out⟩
end Go.Proofs.YtnfhbmgkiknaaaaDoor
