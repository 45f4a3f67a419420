/- What the sort's walks ask of a program, whichever it is: so that the size of an element stays a letter. -/
import Derived.Test.YtnfhbmgkiknaaaaDoorSortKit
namespace Go.Proofs.YtnfhbmgkiknaaaaDoor
open Go.Shelf Go.RowKit Go.Lib Go.Sort

structure STy (P : Program) (k : Nat) : Prop where
  mixed : P.follows .mixedOrders = true
  t0 : P.underlying 0 = some (TypeDesc.tuple #[])
  a0 : ∀ w, (isAgg 0).run P w = .ok false w
  z0 : ∀ w, (Go.sizeOf 0).run P w = .ok 1 w
  v0 : ∀ w, (zeroValue 0).run P w = .ok (Value.tuple #[]) w
  t3 : P.underlying 3 = some (TypeDesc.int IntKind.i64)
  a3 : ∀ w, (isAgg 3).run P w = .ok false w
  z3 : ∀ w, (Go.sizeOf 3).run P w = .ok 1 w
  v3 : ∀ w, (zeroValue 3).run P w = .ok (Value.int IntKind.i64 0) w
  t4 : P.underlying 4 = some (TypeDesc.bool)
  a4 : ∀ w, (isAgg 4).run P w = .ok false w
  z4 : ∀ w, (Go.sizeOf 4).run P w = .ok 1 w
  v4 : ∀ w, (zeroValue 4).run P w = .ok (Value.bool false) w
  tS : P.underlying 71 = some (TypeDesc.slice 77)
  aS : ∀ w, (isAgg 71).run P w = .ok false w
  zS : ∀ w, (Go.sizeOf 71).run P w = .ok 1 w
  vS : ∀ w, (zeroValue 71).run P w = .ok (Value.slice none 0 0) w
  tC : P.underlying 124 = some (TypeDesc.func #[77, 77] #[3] false)
  aC : ∀ w, (isAgg 124).run P w = .ok false w
  zC : ∀ w, (Go.sizeOf 124).run P w = .ok 1 w
  vC : ∀ w, (zeroValue 124).run P w = .ok (Value.nilFunc) w
  tU : P.underlying 167 = some (TypeDesc.int IntKind.u64)
  aU : ∀ w, (isAgg 167).run P w = .ok false w
  zU : ∀ w, (Go.sizeOf 167).run P w = .ok 1 w
  vU : ∀ w, (zeroValue 167).run P w = .ok (Value.int IntKind.u64 0) w
  aE : ∀ w, (isAgg 77).run P w = .ok true w
  zE : ∀ w, (Go.sizeOf 77).run P w = .ok k w
theorem sty_here : STy Tryd.prog 8 := ⟨by kernel_rfl, Tryd.underlying0, Tryd.isAgg0, Tryd.sizeOf0, Tryd.zeroValue0, Tryd.underlying3, Tryd.isAgg3, Tryd.sizeOf3, Tryd.zeroValue3, Tryd.underlying4, Tryd.isAgg4, Tryd.sizeOf4, Tryd.zeroValue4, Tryd.underlying71, Tryd.isAgg71, Tryd.sizeOf71, Tryd.zeroValue71, Tryd.underlying124, Tryd.isAgg124, Tryd.sizeOf124, Tryd.zeroValue124, Tryd.underlying167, Tryd.isAgg167, Tryd.sizeOf167, Tryd.zeroValue167, Tryd.isAgg77, Tryd.sizeOf77⟩

set_option maxHeartbeats 4000000 in
set_option maxRecDepth 1000000 in
theorem swapRange_open {P : Program} {α : Type} [Inhabited α] (k : Nat) (L : STy P k) (hF : P.funcs[(167 : Nat)]? = some Tryd.f167) (enc : α → List Value) (blk off cap a b n : Nat) (d0 d : Array α) (w0 w : World) (cf : Value)
    (R : RowK enc k w0 blk off d0) (hs : d0.size = d.size) (S : SWK enc k w0 blk off d w) (hab : a + n ≤ b) (hb : b + n ≤ d.size) (hsz : d.size < 4611686018427387904) :
    Calls P 167 #[.slice (some ⟨blk, off, none⟩) d.size cap, .int .i64 a, .int .i64 b, .int .i64 n, cf] w fun e w' => e = .returned (.tuple #[]) ∧ ∃ d', Exch d d' a b n ∧ SWK enc k w0 blk off d' w' := by
  have mixed := L.mixed; have t0 := L.t0; have a0 := L.a0; have z0 := L.z0; have v0 := L.v0; have t3 := L.t3; have a3 := L.a3; have z3 := L.z3; have v3 := L.v3; have t4 := L.t4; have a4 := L.a4; have z4 := L.z4; have v4 := L.v4; have tS := L.tS; have aS := L.aS; have zS := L.zS; have vS := L.vS; have tC := L.tC; have aC := L.aC; have zC := L.zC; have vC := L.vC; have tU := L.tU; have aU := L.aU; have zU := L.zU; have vU := L.vU; have aE := L.aE; have zE := L.zE
  have S0 : Aside (SWK enc k w0 blk off d w) := S
  clear S
  go_enter hF, Tryd.ntmps167
  go_wp2
  go_loopg [10] n (fun kx s10 wr => ∃ (i : Nat) (dk : Array α), s10 = .int .i64 i ∧ i ≤ n ∧ n - i ≤ kx ∧ Aside (Exch d dk a b i) ∧ Aside (SWK enc k w0 blk off dk wr))
  case atStart => exact ⟨0, d, rfl, Nat.zero_le _, Nat.le_refl _, Exch.zero d a b, S0⟩
  case round =>
    clear S0
    obtain ⟨i, dk, rfl, hi, hkx, EX, S1⟩ := hrel
    have hds : dk.size = d.size := EX.out.size
    by_cases hlt : i < n
    · have hltz : (i : Int) < (n : Int) := by omega
      go_wp2_with fail
      have ea : ((a : Int) + (i : Int)).toNat = a + i := by omega
      have pa : (0 : Int) ≤ (a : Int) + (i : Int) := by omega
      have ba : (a : Int) + (i : Int) < (d.size : Int) := by omega
      have ra : IntKind.i64.wrap ((a : Int) + (i : Int)) = (a : Int) + (i : Int) := by rw [IntKind.wrap_i64]; omega
      have ec : ((b : Int) + (i : Int)).toNat = b + i := by omega
      have pc : (0 : Int) ≤ (b : Int) + (i : Int) := by omega
      have bc : (b : Int) + (i : Int) < (d.size : Int) := by omega
      have rc : IntKind.i64.wrap ((b : Int) + (i : Int)) = (b : Int) + (i : Int) := by rw [IntKind.wrap_i64]; omega
      have S2 : Aside (SWK enc k w0 blk off (swp dk (a + i) (b + i)) ((wr.drew.setCells blk (off + (a + i) * k) (enc dk[b + i]!)).setCells blk (off + (b + i) * k) (enc dk[a + i]!))) := S1.out.swapped R (a + i) (b + i) (by omega) (by omega)
      have la := S1.out.ld1 R (by omega) P (a + i) (by omega)
      have lb := S1.out.ld1 R (by omega) P (b + i) (by omega)
      have sa := S1.out.st1 R (by omega) P (a + i) (by omega) dk[b + i]!
      have sb := S1.out.st2 R (by omega) P (a + i) (b + i) (by omega) (by omega) dk[b + i]! dk[a + i]!
      have na : (enc dk[a + i]!).length = k := R.hk _
      have nb : (enc dk[b + i]!).length = k := R.hk _
      generalize enc dk[a + i]! = cI at S2 la sb na
      generalize enc dk[b + i]! = cJ at S2 lb sa sb nb
      clear S1
      go_big_region_o
      clear la lb sa sb
      generalize (wr.drew.setCells blk (off + (a + i) * k) cJ).setCells blk (off + (b + i) * k) cI = w2 at S2 ⊢
      go_wp2
      go_roundg (n - (i + 1))
      case measure => omega
      case rel => exact ⟨i + 1, swp dk (a + i) (b + i), by go_num, by omega, Nat.le_refl _, EX.out.next (by omega) (by omega), S2⟩
    · have hltz : ¬ (i : Int) < (n : Int) := by omega
      go_wp2
      go_end0
      have : i = n := by omega
      subst this
      exact ⟨rfl, dk, EX.out, S1.out⟩
end Go.Proofs.YtnfhbmgkiknaaaaDoor
