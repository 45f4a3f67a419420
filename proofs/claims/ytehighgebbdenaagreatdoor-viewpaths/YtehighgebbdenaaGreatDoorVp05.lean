import Derived.Test.YtehighgebbdenaaGreatDoorVp04
import Derived.Shelf.Abstract
import Derived.Shelf.Strings.OnBuilder
import Derived.Shelf.LaysM
import Derived.Shelf.Strconv.Itoa3
import Derived.Test.YtehighgebbdenaaGreatDoorProg
import Derived.WalkKit
import Derived.WalkSpells
import Derived.Below
import Derived.Lib.AppendIntMem
import Derived.Lib.ItoaLen
import Derived.WideShapes
import Derived.Deep.RegionHeld3
import Derived.Shelf.SlLaysF0
import Derived.KernelRfl
section
set_option linter.unusedVariables false
namespace Go.Proofs.YtehighgebbdenaaGreatDoor
open Go.RowKit Go.Lib Go.Sort
def PlsIn (w : World) (ao : Option Addr) (qs : List Plc) : Prop := qs = [] ∨ ∃ g off, ao = some ⟨g, off, none⟩ ∧ ∀ j u, (flat cellsP qs)[j]? = some u → w.cell? ⟨g, off + j, none⟩ = some u
theorem PlsIn.later {w w' : World} {ao : Option Addr} {qs : List Plc} (h : PlsIn w ao qs) (hb : Below w.heap.size w w') : PlsIn w' ao qs := by
  rcases h with h | ⟨g, o, h1, h2⟩
  · exact .inl h
  · exact .inr ⟨g, o, h1, fun j u hj => cellKept hb (h2 j u hj)⟩
theorem PlsAt.isIn {w : World} {v : Value} {qs : List Plc} (h : PlsAt w v qs) : ∃ ao cap, v = .slice ao qs.length cap ∧ PlsIn w ao qs := by
  rcases h with ⟨h, e⟩ | ⟨g, cap, h, _, hc⟩
  · exact ⟨none, 0, by rw [h, e]; rfl, .inl e⟩
  · exact ⟨some ⟨g, 0, none⟩, cap, h, .inr ⟨g, 0, rfl, fun j u hj => by rw [Nat.zero_add]; exact hc j u hj⟩⟩
theorem PlsIn.get {w : World} {ao : Option Addr} {qs : List Plc} (h : PlsIn w ao qs) {k : Nat} {p : Plc} (hk : qs[k]? = some p) : ∃ g off, ao = some ⟨g, off, none⟩ ∧ w.cell? ⟨g, off + k * 3, none⟩ = some (.int .i64 p.1) ∧ w.cell? ⟨g, off + k * 3 + 1, none⟩ = some (.int .i64 p.2.1) ∧ w.cell? ⟨g, off + k * 3 + 2, none⟩ = some (.string p.2.2) := by
  rcases h with h | ⟨g, off, h1, h2⟩
  · rw [h] at hk; simp at hk
  · refine ⟨g, off, h1, ?_, ?_, ?_⟩
    · exact h2 (k * 3) _ (by have := flat_get cellsP_len hk (c := 0) (by omega); rw [Nat.add_zero] at this; rw [this]; rfl)
    · rw [Nat.add_assoc]; exact h2 (k * 3 + 1) _ (by rw [flat_get cellsP_len hk (by omega)]; rfl)
    · rw [Nat.add_assoc]; exact h2 (k * 3 + 2) _ (by rw [flat_get cellsP_len hk (by omega)]; rfl)
def PredP (g : Nat) (lb : Array Value) (xs : List Plc) (p : Plc → Bool) (base : Nat) (w : World) : Prop :=
  ∀ (W : World) (x : Plc), x ∈ xs → Below base w W → Calls Tryz.prog g (#[encP x] ++ lb) W fun e w' => e = .returned (.bool (p x)) ∧ Below W.heap.size W w'
def IdxP (p : Plc → Bool) (zs : List Plc) (r : Int) : Prop :=
  (r = -1 ∧ ∀ x ∈ zs, p x = false) ∨ ∃ k x, r = ((k : Nat) : Int) ∧ zs[k]? = some x ∧ p x = true ∧ ∀ j y, j < k → zs[j]? = some y → p y = false
set_option maxHeartbeats 2000000 in
theorem idxPl_any (p : Plc → Bool) (g : Nat) (lb : Array Value) (eg : ∀ args w, (callFunc g args).run Tryz.prog w = .ok (.enter g args) w) (ao : Option Addr) (cap base : Nat) (zs : List Plc) (w : World) (hbase : base ≤ w.heap.size) (hp : PredP g lb zs p base w) (hbig : zs.length ≤ 1000000) (hin : PlsIn w ao zs) :
    Calls Tryz.prog 208 #[.slice ao zs.length cap, .func (.func g) #[] lb] w fun e w' => ∃ r : Int, e = .returned (.int .i64 r) ∧ Aside (IdxP p zs r ∧ Below w.heap.size w w') := by
  have HP : Aside (PredP g lb zs p base w ∧ base ≤ w.heap.size) := ⟨hp, hbase⟩
  have HI : Aside (PlsIn w ao zs) := hin
  clear hp hin hbase
  go_enter Tryz.func208, Tryz.ntmps208
  go_wp2
  go_loopg [5, 8] zs.length (fun kx _ s8 wr => ∃ (k : Nat), s8 = .int .i64 (k : Int) ∧ k ≤ zs.length ∧ zs.length - k ≤ kx ∧ Aside (Below w.heap.size w wr ∧ ∀ j l, j < k → zs[j]? = some l → p l = false))
  case atStart => exact ⟨0, rfl, Nat.zero_le _, Nat.le_refl _, ⟨Below.refl _ w, fun j l hj => by omega⟩⟩
  case round =>
    obtain ⟨k, rfl, hk, hkx, A⟩ := hrel
    by_cases hlt : k < zs.length
    · have hltz : decide ((k : Int) < (zs.length : Int)) = true := by simp; omega
      have ek : ((k : Int)).toNat = k := by omega
      have pk : (0 : Int) ≤ (k : Int) := by omega
      have bk : (k : Int) < (zs.length : Int) := by omega
      obtain ⟨⟨nd, i, s⟩, hl⟩ : ∃ l, Aside (zs[k]? = some l) := ⟨zs[k], List.getElem?_eq_getElem hlt⟩
      obtain ⟨blk, off, hao, r0, r1, r2⟩ := (HI.out.later A.out.1).get hl.out
      subst hao
      dsimp only at r0 r1 r2
      have hcall := HP.out.1 wr (nd, i, s) (List.mem_of_getElem? hl.out) (A.out.1.mono HP.out.2)
      unfold encP at hcall
      dsimp only at hcall
      cases hq : p (nd, i, s) with
      | true =>
        rw [hq] at hcall
        have HQ := Lib.hid hq
        clear hq
        go_wp2_with (go_at_fn g; refine hcall.mono ?_; rintro e w' ⟨rfl, hb'⟩)
        go_ret
        exact ⟨_, rfl, .inr ⟨k, _, rfl, hl.out, HQ.out, A.out.2⟩, A.out.1.trans (hb'.mono A.out.1.size)⟩
      | false =>
        rw [hq] at hcall
        have HQ := Lib.hid hq
        clear hq
        go_wp2_with (go_at_fn g; refine hcall.mono ?_; rintro e w' ⟨rfl, hb'⟩)
        go_roundg (zs.length - (k + 1))
        case measure => omega
        case rel =>
          refine ⟨k + 1, by go_num, by omega, Nat.le_refl _, ⟨A.out.1.trans (hb'.mono A.out.1.size), fun j l hj e => ?_⟩⟩
          rcases Nat.lt_or_ge j k with h | h
          · exact A.out.2 j l h e
          · obtain rfl : j = k := by omega
            rw [hl.out] at e
            cases e
            exact HQ.out
    · have hltz : decide ((k : Int) < (zs.length : Int)) = false := by simp; omega
      go_wp2
      go_ret
      refine ⟨_, rfl, .inl ⟨rfl, fun l hl => ?_⟩, A.out.1⟩
      obtain ⟨j, hj, rfl⟩ := List.getElem_of_mem hl
      exact A.out.2 j _ (by omega) (List.getElem?_eq_getElem hj)
theorem hasPl_any (p : Plc → Bool) (g : Nat) (lb : Array Value) (eg : ∀ args w, (callFunc g args).run Tryz.prog w = .ok (.enter g args) w) (ao : Option Addr) (cap base : Nat) (zs : List Plc) (w : World) (hbase : base ≤ w.heap.size) (hp : PredP g lb zs p base w) (hbig : zs.length ≤ 1000000) (hin : PlsIn w ao zs) :
    Calls Tryz.prog 164 #[.slice ao zs.length cap, .func (.func g) #[] lb] w fun e w' => e = .returned (.bool (zs.any p)) ∧ Below w.heap.size w w' := by
  have hcall := idxPl_any p g lb eg ao cap base zs w hbase hp hbig hin
  clear hp hin eg
  go_enter Tryz.func164, Tryz.ntmps164
  go_wp2_with fail
  refine hcall.mono ?_
  clear hcall
  rintro e w' ⟨r, rfl, H⟩
  rcases H.out.1 with ⟨hr, ha⟩ | ⟨k, x, hr, hx, hpx, _⟩
  · have HA : Aside (zs.any p = false) := by
      show zs.any p = false
      rw [List.any_eq_false]
      intro x hx
      rw [ha x hx]
      decide
    clear ha
    subst hr
    go_wp2
    go_ret
    exact ⟨by rw [HA.out]; rfl, H.out.2⟩
  · have HA : Aside (zs.any p = true) := List.any_eq_true.2 ⟨x, List.mem_of_getElem? hx, hpx⟩
    have dr : decide (0 ≤ r) = true := by simp; omega
    clear hx hpx hr
    go_wp2
    go_ret
    exact ⟨by rw [HA.out]; rfl, H.out.2⟩
end Go.Proofs.YtehighgebbdenaaGreatDoor
end
section
namespace Go.Proofs
open Go.Shelf
def Tryz.lays156_ren : Go.Shelf.Ren := ⟨fun | 156 => 74 | 165 => 138 | 166 => 139 | 169 => 140 | 240 => 199 | 241 => 200 | 276 => 241 | 277 => 242 | n => n, fun | 31 => 141 | 9 => 9 | 3 => 3 | 4 => 4 | 0 => 0 | 20 => 20 | 72 => 228 | 76 => 42 | 70 => 226 | 37 => 221 | 75 => 27 | 127 => 291 | 164 => 262 | 5 => 5 | 80 => 54 | n => n, fun | n => n⟩
theorem Tryz.lays156 : Go.Proofs.Lays.n156 Tryz.prog Tryz.lays156_ren := {
  mixed := by kernel_rfl
  f156 := Tryz.func74.trans (congrArg some (by kernel_rfl))
  f165 := Tryz.func138.trans (congrArg some (by kernel_rfl))
  f166 := Tryz.func139.trans (congrArg some (by kernel_rfl))
  f169 := Tryz.func140.trans (congrArg some (by kernel_rfl))
  f240 := Tryz.func199.trans (congrArg some (by kernel_rfl))
  f241 := Tryz.func200.trans (congrArg some (by kernel_rfl))
  f276 := Tryz.func241.trans (congrArg some (by kernel_rfl))
  f277 := Tryz.func242.trans (congrArg some (by kernel_rfl))
  t0 := Tryz.underlying0
  a0 := Tryz.isAgg0
  z0 := Tryz.sizeOf0
  v0 := Tryz.zeroValue0
  t3 := Tryz.underlying3
  a3 := Tryz.isAgg3
  z3 := Tryz.sizeOf3
  v3 := Tryz.zeroValue3
  t4 := Tryz.underlying4
  a4 := Tryz.isAgg4
  z4 := Tryz.sizeOf4
  v4 := Tryz.zeroValue4
  t9 := Tryz.underlying9
  a9 := Tryz.isAgg9
  z9 := Tryz.sizeOf9
  v9 := Tryz.zeroValue9
  t20 := Tryz.underlying20
  a20 := Tryz.isAgg20
  z20 := Tryz.sizeOf20
  v20 := Tryz.zeroValue20
  t31 := Tryz.underlying141
  a31 := Tryz.isAgg141
  z31 := Tryz.sizeOf141
  v31 := Tryz.zeroValue141
  t37 := Tryz.underlying221
  a37 := Tryz.isAgg221
  z37 := Tryz.sizeOf221
  v37 := Tryz.zeroValue221
  t70 := Tryz.underlying226
  a70 := Tryz.isAgg226
  z70 := Tryz.sizeOf226
  v70 := Tryz.zeroValue226
  t72 := Tryz.underlying228
  a72 := Tryz.isAgg228
  z72 := Tryz.sizeOf228
  v72 := Tryz.zeroValue228
  t75 := Tryz.underlying27
  a75 := Tryz.isAgg27
  z75 := Tryz.sizeOf27
  v75 := Tryz.zeroValue27
  t76 := Tryz.underlying42
  a76 := Tryz.isAgg42
  z76 := Tryz.sizeOf42
  v76 := Tryz.zeroValue42
  t127 := Tryz.underlying291
  a127 := Tryz.isAgg291
  z127 := Tryz.sizeOf291
  v127 := Tryz.zeroValue291
  t164 := Tryz.underlying262
  a164 := Tryz.isAgg262
  z164 := Tryz.sizeOf262
  v164 := Tryz.zeroValue262 }
theorem Tryz.Builder_Extra_156 : Builder.Extra Tryz.prog Tryz.lays156_ren := {
  sizeBuilder := by kernel_rfl
  liesBuilder := by kernel_rfl
  t5 := Tryz.underlying5
  a5 := Tryz.isAgg5
  z5 := Tryz.sizeOf5
  v5 := Tryz.zeroValue5
  infoByte := by kernel_rfl
  cellsByte := by kernel_rfl
  sizeByte := by kernel_rfl
  neB5 := by decide }
open Go.RowKit in
theorem Tryz.strings_Join (bk o c : Nat) (xs : List ByteArray) (sep : ByteArray) (w : World) (hcells : ∀ (j : Nat) x, xs[j]? = some x → w.cell? ⟨bk, o + j, none⟩ = some (.string x)) (hbk : bk < w.heap.size) (hN : xs.length ≤ 140737488355328) (hcap : xs.length ≤ c) (hlen : (Lib.join (xs.map (·.data.toList)) sep.data.toList).length ≤ 140737488355328) :
    Calls Tryz.prog 74 #[.slice (some ⟨bk, o, none⟩) xs.length c, .string sep] w fun e w' => e = .returned (.string ⟨(Lib.join (xs.map (·.data.toList)) sep.data.toList).toArray⟩) ∧ Below w.heap.size w w' := Any.strings_Join Tryz.lays156 Tryz.Builder_Extra_156 bk o c xs sep w hcells hbk hN hcap hlen
def Tryz.laysM171_ren : Go.Shelf.Ren := ⟨fun | 171 => 73 | 243 => 137 | 246 => 198 | 283 => 237 | 284 => 238 | 285 => 239 | 286 => 240 | 129 => 253 | 317 => 285 | 318 => 286 | 319 => 287 | 320 => 288 | 337 => 310 | 338 => 311 | n => n, fun | 3 => 3 | 9 => 9 | 2 => 2 | 4 => 4 | 171 => 335 | 0 => 0 | 53 => 336 | 37 => 221 | 5 => 5 | 173 => 339 | 212 => 369 | 51 => 351 | 20 => 20 | 213 => 370 | 46 => 295 | 232 => 397 | 233 => 398 | n => n, fun | 17 => 14 | 18 => 17 | 19 => 18 | n => n⟩
theorem Tryz.laysM171 : Go.Proofs.LaysM.n171 Tryz.prog Tryz.laysM171_ren := {
  mixed := by kernel_rfl
  f129 := Tryz.func253.trans (congrArg some (by kernel_rfl))
  f171 := Tryz.func73.trans (congrArg some (by kernel_rfl))
  f243 := Tryz.func137.trans (congrArg some (by kernel_rfl))
  f246 := Tryz.func198.trans (congrArg some (by kernel_rfl))
  f283 := Tryz.func237.trans (congrArg some (by kernel_rfl))
  f284 := Tryz.func238.trans (congrArg some (by kernel_rfl))
  f285 := Tryz.func239.trans (congrArg some (by kernel_rfl))
  f286 := Tryz.func240.trans (congrArg some (by kernel_rfl))
  f317 := Tryz.func285.trans (congrArg some (by kernel_rfl))
  f318 := Tryz.func286.trans (congrArg some (by kernel_rfl))
  f319 := Tryz.func287.trans (congrArg some (by kernel_rfl))
  f320 := Tryz.func288.trans (congrArg some (by kernel_rfl))
  f337 := Tryz.func310.trans (congrArg some (by kernel_rfl))
  f338 := Tryz.func311.trans (congrArg some (by kernel_rfl))
  t0 := Tryz.underlying0
  a0 := Tryz.isAgg0
  z0 := Tryz.sizeOf0
  v0 := Tryz.zeroValue0
  t2 := Tryz.underlying2
  a2 := Tryz.isAgg2
  z2 := Tryz.sizeOf2
  v2 := Tryz.zeroValue2
  t3 := Tryz.underlying3
  a3 := Tryz.isAgg3
  z3 := Tryz.sizeOf3
  v3 := Tryz.zeroValue3
  t4 := Tryz.underlying4
  a4 := Tryz.isAgg4
  z4 := Tryz.sizeOf4
  v4 := Tryz.zeroValue4
  t5 := Tryz.underlying5
  a5 := Tryz.isAgg5
  z5 := Tryz.sizeOf5
  v5 := Tryz.zeroValue5
  t9 := Tryz.underlying9
  a9 := Tryz.isAgg9
  z9 := Tryz.sizeOf9
  v9 := Tryz.zeroValue9
  t20 := Tryz.underlying20
  a20 := Tryz.isAgg20
  z20 := Tryz.sizeOf20
  v20 := Tryz.zeroValue20
  t37 := Tryz.underlying221
  a37 := Tryz.isAgg221
  z37 := Tryz.sizeOf221
  v37 := Tryz.zeroValue221
  t46 := Tryz.underlying295
  a46 := Tryz.isAgg295
  z46 := Tryz.sizeOf295
  v46 := Tryz.zeroValue295
  t51 := Tryz.underlying351
  a51 := Tryz.isAgg351
  z51 := Tryz.sizeOf351
  v51 := Tryz.zeroValue351
  t53 := Tryz.underlying336
  a53 := Tryz.isAgg336
  z53 := Tryz.sizeOf336
  v53 := Tryz.zeroValue336
  t171 := Tryz.underlying335
  a171 := Tryz.isAgg335
  z171 := Tryz.sizeOf335
  v171 := Tryz.zeroValue335
  t173 := Tryz.underlying339
  a173 := Tryz.isAgg339
  z173 := Tryz.sizeOf339
  v173 := Tryz.zeroValue339
  t212 := Tryz.underlying369
  a212 := Tryz.isAgg369
  z212 := Tryz.sizeOf369
  v212 := Tryz.zeroValue369
  t213 := Tryz.underlying370
  a213 := Tryz.isAgg370
  z213 := Tryz.sizeOf370
  t232 := Tryz.underlying397
  a232 := Tryz.isAgg397
  z232 := Tryz.sizeOf397
  v232 := Tryz.zeroValue397
  t233 := Tryz.underlying398
  a233 := Tryz.isAgg398
  z233 := Tryz.sizeOf398
  v233 := Tryz.zeroValue398
  g17 := by kernel_rfl
  g18 := by kernel_rfl
  g19 := by kernel_rfl
  i0 := by kernel_rfl
  i2 := by kernel_rfl
  i3 := by kernel_rfl
  i4 := by kernel_rfl
  i5 := by kernel_rfl
  i9 := by kernel_rfl
  i20 := by kernel_rfl
  i37 := by kernel_rfl
  i46 := by kernel_rfl
  i51 := by kernel_rfl
  i53 := by kernel_rfl
  i171 := by kernel_rfl
  i173 := by kernel_rfl
  i212 := by kernel_rfl
  i232 := by kernel_rfl
  i233 := by kernel_rfl
  m17 := by kernel_rfl
  m18 := by kernel_rfl
  m19 := by kernel_rfl }
open Go.RowKit Go.Sort Go.Lib in
theorem Tryz.strconv_Itoa (n : Int) (h0 : -9223372036854775808 ≤ n) (h1 : n ≤ 9223372036854775807) (w : World) (htab : Lib.TabIs Tryz.prog w "internal/strconv.uint64pow10" .u64 Lib.pow10Tab) :
    Calls Tryz.prog 73 #[.int .i64 n] w fun e w' => e = .returned (.string ⟨(Lib.itoa n).toArray⟩) ∧ ∃ k os, w' = grow (w.drewN k) os := Any.strconv_Itoa Tryz.laysM171 n h0 h1 w htab
end Go.Proofs
end
section
namespace Go.Proofs.YtehighgebbdenaaGreatDoor
open Go.RowKit
theorem itoa_any (n : Int) (h0 : -9223372036854775808 ≤ n) (h1 : n ≤ 9223372036854775807) (w : World) (htab : Lib.TabIs Tryz.prog w "internal/strconv.uint64pow10" .u64 Lib.pow10Tab) :
    Calls Tryz.prog 73 #[.int .i64 n] w fun e w' => e = .returned (.string ⟨(Lib.itoa n).toArray⟩) ∧ Below w.heap.size w w' := by
  refine (Tryz.strconv_Itoa n h0 h1 w htab).mono ?_
  rintro e w' ⟨rfl, k, os, rfl⟩
  exact ⟨rfl, Lib.below_grow _ _ (Nat.le_refl _) _ _⟩
end Go.Proofs.YtehighgebbdenaaGreatDoor
end
section
set_option linter.unusedVariables false
set_option linter.unusedSimpArgs false
namespace Go.Proofs.YtehighgebbdenaaGreatDoor
open Go.RowKit Go.Lib Go.Sort
def aheadB (p q : Plc) : Bool := decide (q.2.1 = p.2.1) && (decide (q.2.2 = p.2.2) && decide (q.1 < p.1))
theorem strEq (x y : ByteArray) : (x.toList == y.toList) = decide (x = y) := by
  have hs : x.toList = y.toList ↔ x = y := ⟨fun h => by rw [ByteArray.toList_eq, ByteArray.toList_eq] at h; exact WideShapes.bytes_inj h, fun h => by rw [h]⟩
  rw [Bool.eq_iff_iff]
  simp [hs]
theorem ahead_any (W : World) (B : Nat) (q p : Plc) (hB : PlcAt W B p) :
    Calls Tryz.prog 165 (#[encP q] ++ #[.pointer (some ⟨B, 0, none⟩)]) W fun e w' => e = .returned (.bool (aheadB p q)) ∧ Below W.heap.size W w' := by
  obtain ⟨n, i, s⟩ := q
  obtain ⟨n', i', s'⟩ := p
  have hlt := hB.lt
  have g0 := fun o => cellKept ((Below.refl _ W).alloc (Nat.le_refl _) o) hB.c0
  have g1 := fun o => cellKept ((Below.refl _ W).alloc (Nat.le_refl _) o) hB.c1
  have g2 := fun o => cellKept ((Below.refl _ W).alloc (Nat.le_refl _) o) hB.c2
  dsimp only at g0 g1 g2
  clear hB
  unfold encP
  dsimp only
  go_enter Tryz.func165, Tryz.ntmps165
  by_cases h1 : i = i'
  · have q1 : (i == i') = true := by simp [h1]
    by_cases h2 : s = s'
    · have q2 : (s.toList == s'.toList) = true := by rw [strEq]; simp [h2]
      have e : aheadB (n', i', s') (n, i, s) = decide (n < n') := by unfold aheadB; simp [h1, h2]
      rw [e]
      clear e h1 h2
      go_wp2
      go_ret
      exact ⟨rfl, (Below.refl _ W).alloc (Nat.le_refl _) _⟩
    · have q2 : (s.toList == s'.toList) = false := by rw [strEq]; simp [h2]
      have e : aheadB (n', i', s') (n, i, s) = false := by unfold aheadB; simp [h2]
      rw [e]
      clear e h1 h2
      go_wp2
      go_ret
      exact ⟨rfl, (Below.refl _ W).alloc (Nat.le_refl _) _⟩
  · have q1 : (i == i') = false := by simp [h1]
    have e : aheadB (n', i', s') (n, i, s) = false := by unfold aheadB; simp [h1]
    rw [e]
    clear e h1
    go_wp2
    go_ret
    exact ⟨rfl, (Below.refl _ W).alloc (Nat.le_refl _) _⟩
def nmB (qs : List Plc) (p : Plc) : ByteArray := if qs.any (aheadB p) = true then (p.2.2 ++ ⟨#[126]⟩) ++ ⟨(Lib.itoa p.1).toArray⟩ else p.2.2
def NmR (w : World) (b : Nat) (n : Int) (s : ByteArray) (w' : World) : Prop := w'.cell? ⟨b, 0, none⟩ = some (.int .i64 n) ∧ w'.cell? ⟨b, 2, none⟩ = some (.string s) ∧ Below w.heap.size w w'
theorem NmR.later {w : World} {b : Nat} {n : Int} {s : ByteArray} {w1 w2 : World} (h : NmR w b n s w1) (hb : Below w1.heap.size w1 w2) : NmR w b n s w2 := ⟨cellKept hb h.1, cellKept hb h.2.1, h.2.2.trans (hb.mono h.2.2.size)⟩
theorem NmR.drew {w : World} {b : Nat} {n : Int} {s : ByteArray} {w1 : World} (h : NmR w b n s w1) : NmR w b n s w1.drew := h.later (Below.refl _ w1).drew
theorem NmR.b {w : World} {b : Nat} {n : Int} {s : ByteArray} {w1 : World} (h : NmR w b n s w1) : Below w.heap.size w w1 := h.2.2
set_option maxHeartbeats 2000000 in
theorem nameOf_any (w : World) (ao : Option Addr) (cap : Nat) (qs : List Plc) (p : Plc) (hin : PlsIn w ao qs) (hl : qs.length ≤ 1000000) (h0 : 0 ≤ p.1) (h1 : p.1 < 2 ^ 62) (hs : p.2.2.size ≤ 60)
    (htab : Lib.TabIs Tryz.prog w "internal/strconv.uint64pow10" .u64 Lib.pow10Tab) :
    Calls Tryz.prog 98 #[.slice ao qs.length cap, encP p] w fun e w' => e = .returned (.string (nmB qs p)) ∧ Below w.heap.size w w' := by
  obtain ⟨n, i, s⟩ := p
  have HT : Aside (Lib.TabBelow Tryz.prog w.heap.size w "internal/strconv.uint64pow10" .u64 Lib.pow10Tab) := Lib.tabBelow_of_tabIs htab
  obtain ⟨b, hb⟩ : ∃ b, b = w.heap.size := ⟨_, rfl⟩
  obtain ⟨U, hU⟩ : ∃ U, U = w.alloc (.cells #[.int .i64 n, .int .i64 i, .string s] 106) := ⟨_, rfl⟩
  have hUb : Below w.heap.size w U := by rw [hU]; exact (Below.refl _ w).alloc (Nat.le_refl _) _
  have hP : PlcAt U b (n, i, s) := by rw [hU, hb]; exact heap_alloc_new w _
  have hcall := hasPl_any (aheadB (n, i, s)) 165 #[.pointer (some ⟨b, 0, none⟩)] (enters_of Tryz.func165 (by kernel_rfl) rfl) ao cap U.heap.size qs U (Nat.le_refl _) (fun W x _ hW => ahead_any W b x (n, i, s) (hP.same (hW.block b hP.lt))) hl (hin.later hUb)
  have HN : Aside (nmB qs (n, i, s) = if qs.any (aheadB (n, i, s)) = true then (s ++ ⟨#[126]⟩) ++ ⟨(Lib.itoa n).toArray⟩ else s) := rfl
  have HP : Aside (PlcAt U b (n, i, s) ∧ Below w.heap.size w U) := ⟨hP, hUb⟩
  have hIL : (Lib.itoa n).length ≤ 1000 := by have := Lib.itoa_length_le n (by omega) (by dsimp only at h1; omega); omega
  dsimp only at h0 h1 hs
  have n1 : ¬ 9223372036854775807 < s.size + 1 := by omega
  have n2 : ¬ 9223372036854775807 < s.size + 1 + (Lib.itoa n).length := by omega
  generalize qs.any (aheadB (n, i, s)) = z at HN hcall
  clear hin htab hP hUb hl
  unfold encP
  dsimp only
  go_enter Tryz.func98, Tryz.ntmps98
  go_wp2_with fail
  rw [← hb, ← hU]
  refine hcall.mono ?_
  clear hcall hU hb
  rintro e w1 ⟨rfl, hb1⟩
  have R1 : NmR w b n s w1 := NmR.later (w1 := U) ⟨HP.out.1.c0, HP.out.1.c2, HP.out.2⟩ hb1
  clear hb1
  cases z with
  | true =>
    have HM : Aside (nmB qs (n, i, s) = (s ++ ⟨#[126]⟩) ++ ⟨(Lib.itoa n).toArray⟩) := by rw [HN.out]; rfl
    clear HN
    go_wp2_with fail
    obtain ⟨A0, A1, A2⟩ := id R1
    go_region_held3 (fun w' => w'.cell? ⟨b, 0, none⟩ = some (.int .i64 n) ∧ w'.cell? ⟨b, 2, none⟩ = some (.string s) ∧ Below w.heap.size w w')
      (first
        | assumption
        | exact NmR.drew ⟨A0, A1, A2⟩
        | exact NmR.later (by assumption) (by assumption))
      (first
        | (go_at_call 73; refine (itoa_any _ (by omega) (by omega) _ (HT.out _ (NmR.b (by assumption)))).mono ?_; rintro e w' ⟨rfl, hb⟩))
    have R2 : NmR w b n s w' := by assumption
    go_wp2
    go_ret
    exact ⟨by rw [HM.out]; rfl, R2.2.2⟩
  | false =>
    have HM : Aside (nmB qs (n, i, s) = s) := by rw [HN.out]; rfl
    clear HN
    obtain ⟨A0, A1, A2⟩ := id R1
    go_wp2
    go_ret
    exact ⟨by rw [HM.out]; rfl, A2⟩
end Go.Proofs.YtehighgebbdenaaGreatDoor
end
section
namespace Go.Proofs.YtehighgebbdenaaGreatDoor
open Go.Shelf
set_option maxRecDepth 100000
end Go.Proofs.YtehighgebbdenaaGreatDoor
end
section
namespace Go.Proofs.YtehighgebbdenaaGreatDoor
open Go.RowKit
def cmpZ (a b : Int) : Int := if a < b then -1 else if b < a then 1 else 0
set_option maxHeartbeats 400000 in
theorem nanI (a : Int) (w : World) : Calls Tryz.prog 168 #[.int .i64 a] w fun e w' => e = .returned (.bool false) ∧ w' = w := by
  have d0 : (a != a) = false := by simp
  go_enter Tryz.func168, Tryz.ntmps168
  go_wp2
  go_ret
  exact ⟨rfl, rfl⟩
set_option maxHeartbeats 400000 in
theorem cmpZ_any (a b : Int) (w : World) : Calls Tryz.prog 103 #[.int .i64 a, .int .i64 b] w fun e w' => e = .returned (.int .i64 (cmpZ a b)) ∧ w' = w := by
  unfold cmpZ
  by_cases h1 : a < b
  · have d1 : decide (a < b) = true := decide_eq_true h1
    rw [if_pos h1]
    go_enter Tryz.func103, Tryz.ntmps103
    go_wp2_with (go_at_call 168; refine (nanI _ _).mono ?_; rintro e w' ⟨rfl, rfl⟩)
    go_ret
    exact ⟨rfl, rfl⟩
  · have d1 : decide (a < b) = false := decide_eq_false h1
    rw [if_neg h1]
    by_cases h2 : b < a
    · have d2 : decide (b < a) = true := decide_eq_true h2
      rw [if_pos h2]
      go_enter Tryz.func103, Tryz.ntmps103
      go_wp2_with (go_at_call 168; refine (nanI _ _).mono ?_; rintro e w' ⟨rfl, rfl⟩)
      go_ret
      exact ⟨rfl, rfl⟩
    · have d2 : decide (b < a) = false := decide_eq_false h2
      rw [if_neg h2]
      go_enter Tryz.func103, Tryz.ntmps103
      go_wp2_with (go_at_call 168; refine (nanI _ _).mono ?_; rintro e w' ⟨rfl, rfl⟩)
      go_ret
      exact ⟨rfl, rfl⟩
end Go.Proofs.YtehighgebbdenaaGreatDoor
end
section
namespace Go.Proofs.YtehighgebbdenaaGreatDoor
abbrev CLt (a b : Int × Int) : Prop := a.1 < b.1 ∨ (a.1 = b.1 ∧ a.2 < b.2)
theorem clt_irrefl {a : Int × Int} : ¬ CLt a a := by unfold CLt; omega
theorem clt_trans {a b c : Int × Int} (h : CLt a b) (k : CLt b c) : CLt a c := by unfold CLt at *; omega
theorem clt_total {a b : Int × Int} (h : a ≠ b) : CLt a b ∨ CLt b a := by
  unfold CLt
  have : a.1 ≠ b.1 ∨ a.2 ≠ b.2 := by
    rcases a with ⟨x, y⟩
    rcases b with ⟨z, t⟩
    simp only [ne_eq, Prod.mk.injEq] at h
    simp only
    omega
  omega
theorem cnlt {a b : Int × Int} (h : ¬ CLt a b) : b = a ∨ CLt b a := by
  by_cases e : a = b
  · exact .inl e.symm
  · rcases clt_total e with h' | h'
    · exact absurd h' h
    · exact .inr h'
abbrev CKey := Int × ByteArray
abbrev CMark := ByteArray × (Int × Int)
abbrev CSta := CKey → Option CMark
def noC : CSta := fun _ => none
def goesC (f : CSta) (k : CKey) (c : CMark) : Bool := match f k with
  | none => true
  | some o => decide (CLt o.2 c.2)
def setC (f : CSta) (m : CKey × CMark) : CSta := if goesC f m.1 m.2 then fun k => if k = m.1 then some m.2 else f k else f
def foldC (l : List (CKey × CMark)) (f : CSta) : CSta := l.foldl setC f
theorem foldC_snoc (l : List (CKey × CMark)) (m : CKey × CMark) (f : CSta) : foldC (l ++ [m]) f = setC (foldC l f) m := by simp [foldC]
theorem setC_other {f : CSta} {m : CKey × CMark} {k : CKey} (h : k ≠ m.1) : setC f m k = f k := by
  unfold setC
  split
  · exact if_neg h
  · rfl
theorem setC_none {f : CSta} {m : CKey × CMark} (h : f m.1 = none) : setC f m m.1 = some m.2 := by
  unfold setC goesC
  rw [h]
  simp
theorem setC_some {f : CSta} {m : CKey × CMark} {o : CMark} (h : f m.1 = some o) : setC f m m.1 = if CLt o.2 m.2.2 then some m.2 else some o := by
  unfold setC goesC
  rw [h]
  by_cases k : CLt o.2 m.2.2
  · simp [k]
  · simp [k, h]
def BestC (l : List (CKey × CMark)) (k : CKey) (r : Option CMark) : Prop := match r with
  | none => ∀ c, (k, c) ∉ l
  | some c => (k, c) ∈ l ∧ ∀ d, (k, d) ∈ l → ¬ CLt c.2 d.2
theorem bestC_fold (l : List (CKey × CMark)) (k : CKey) : BestC l k (foldC l noC k) := by
  have key : ∀ (n : Nat) (l : List (CKey × CMark)), l.length = n → BestC l k (foldC l noC k) := by
    intro n
    induction n with
    | zero =>
      intro l hn
      obtain rfl := List.length_eq_zero_iff.1 hn
      exact fun c hc => by simp at hc
    | succ n ih =>
      intro l hn
      obtain ⟨s, m, rfl⟩ : ∃ s m, l = s ++ [m] := by
        refine ⟨l.dropLast, l.getLast (by intro e; rw [e] at hn; cases hn), (List.dropLast_concat_getLast _).symm⟩
      have h := ih s (by simpa using hn)
      rw [foldC_snoc]
      by_cases hk : k = m.1
      · subst hk
        cases hf : foldC s noC m.1 with
        | none =>
          rw [hf] at h
          rw [setC_none hf]
          refine ⟨by simp, fun d hd => ?_⟩
          rcases List.mem_append.1 hd with hd | hd
          · exact absurd hd (h d)
          · have e : (m.1, d) = m := by simpa using hd
            have e2 : d = m.2 := by rw [← e]
            rw [e2]
            exact clt_irrefl
        | some o =>
          rw [hf] at h
          rw [setC_some hf]
          by_cases hlt : CLt o.2 m.2.2
          · rw [if_pos hlt]
            refine ⟨by simp, fun d hd => ?_⟩
            rcases List.mem_append.1 hd with hd | hd
            · exact fun hc => h.2 d hd (clt_trans hlt hc)
            · have e : (m.1, d) = m := by simpa using hd
              have e2 : d = m.2 := by rw [← e]
              rw [e2]
              exact clt_irrefl
          · rw [if_neg hlt]
            refine ⟨List.mem_append_left _ h.1, fun d hd => ?_⟩
            rcases List.mem_append.1 hd with hd | hd
            · exact h.2 d hd
            · have e : (m.1, d) = m := by simpa using hd
              have e2 : d = m.2 := by rw [← e]
              rw [e2]
              exact hlt
      · rw [setC_other hk]
        cases hf : foldC s noC k with
        | none =>
          rw [hf] at h
          intro c hc
          rcases List.mem_append.1 hc with hc | hc
          · exact h c hc
          · have e : (k, c) = m := by simpa using hc
            exact hk (by rw [← e])
        | some o =>
          rw [hf] at h
          refine ⟨List.mem_append_left _ h.1, fun d hd => ?_⟩
          rcases List.mem_append.1 hd with hd | hd
          · exact h.2 d hd
          · have e : (k, d) = m := by simpa using hd
            exact absurd (by rw [← e]) hk
  exact key _ l rfl
def OneC (l : List (CKey × CMark)) : Prop := ∀ k c d, (k, c) ∈ l → (k, d) ∈ l → c.2 = d.2 → c = d
theorem bestC_one {l r : List (CKey × CMark)} {k : CKey} {x y : Option CMark} (hm : ∀ m, m ∈ l ↔ m ∈ r) (h1 : OneC l) (hx : BestC l k x) (hy : BestC r k y) : x = y := by
  cases x with
  | none =>
    cases y with
    | none => rfl
    | some d => exact absurd ((hm _).2 hy.1) (hx d)
  | some c =>
    cases y with
    | none => exact absurd ((hm _).1 hx.1) (hy c)
    | some d =>
      have a1 := hx.2 d ((hm _).2 hy.1)
      have a2 := hy.2 c ((hm _).1 hx.1)
      rcases cnlt a1 with e | e
      · rw [h1 k c d hx.1 ((hm _).2 hy.1) e.symm]
      · exact absurd e a2
theorem foldC_turned {l r : List (CKey × CMark)} (hm : ∀ m, m ∈ l ↔ m ∈ r) (h1 : OneC l) : foldC l noC = foldC r noC := by
  funext k
  exact bestC_one hm h1 (bestC_fold l k) (bestC_fold r k)
end Go.Proofs.YtehighgebbdenaaGreatDoor
end
section
namespace Go.Proofs.YtehighgebbdenaaGreatDoor
abbrev KLt (a b : CKey) : Prop := a.1 < b.1 ∨ (a.1 = b.1 ∧ a.2.data.toList < b.2.data.toList)
theorem bytesExt {a b : ByteArray} (h : a.data.toList = b.data.toList) : a = b := by
  rcases a with ⟨⟨a⟩⟩
  rcases b with ⟨⟨b⟩⟩
  simp only at h
  rw [h]
theorem bytesTotal {a b : List UInt8} (h : a ≠ b) : a < b ∨ b < a := by
  by_cases h1 : a < b
  · exact .inl h1
  · by_cases h2 : b < a
    · exact .inr h2
    · exact absurd (List.le_antisymm (List.not_lt.1 h2) (List.not_lt.1 h1)) h
theorem klt_irrefl {a : CKey} : ¬ KLt a a := by
  rintro (h | ⟨_, h⟩)
  · omega
  · exact List.lt_irrefl _ h
theorem klt_trans {a b c : CKey} (h : KLt a b) (k : KLt b c) : KLt a c := by
  rcases h with h | ⟨h1, h2⟩
  · rcases k with k | ⟨k1, _⟩
    · exact .inl (by omega)
    · exact .inl (by omega)
  · rcases k with k | ⟨k1, k2⟩
    · exact .inl (by omega)
    · exact .inr ⟨by omega, List.lt_trans h2 k2⟩
theorem klt_total {a b : CKey} (h : a ≠ b) : KLt a b ∨ KLt b a := by
  by_cases h1 : a.1 = b.1
  · have h2 : a.2.data.toList ≠ b.2.data.toList := fun e => h (Prod.ext h1 (bytesExt e))
    rcases bytesTotal h2 with k | k
    · exact .inl (.inr ⟨h1, k⟩)
    · exact .inr (.inr ⟨h1.symm, k⟩)
  · by_cases h2 : a.1 < b.1
    · exact .inl (.inl h2)
    · exact .inr (.inl (by omega))
theorem rise_unique {α : Type} {R : α → α → Prop} (irr : ∀ a, ¬ R a a) (tr : ∀ a b c, R a b → R b c → R a c) : ∀ {L M : List α}, L.Pairwise R → M.Pairwise R → (∀ p, p ∈ L ↔ p ∈ M) → L = M
  | [], [], _, _, _ => rfl
  | [], b :: r, _, _, h => by have := (h b).2 (by simp); simp at this
  | a :: r, [], _, _, h => by have := (h a).1 (by simp); simp at this
  | a :: r, b :: s, hl, hm, h => by
    obtain ⟨h1, h2⟩ := List.pairwise_cons.1 hl
    obtain ⟨k1, k2⟩ := List.pairwise_cons.1 hm
    have e : a = b := by
      rcases List.mem_cons.1 ((h a).1 (by simp)) with e | ha
      · exact e
      · rcases List.mem_cons.1 ((h b).2 (by simp)) with e | hb
        · exact e.symm
        · exact absurd (tr _ _ _ (h1 b hb) (k1 a ha)) (irr a)
    subst e
    rw [rise_unique irr tr h2 k2 (fun p => ?_)]
    constructor
    · intro hp
      rcases List.mem_cons.1 ((h p).1 (by simp [hp])) with e | hp'
      · subst e; exact absurd (h1 p hp) (irr p)
      · exact hp'
    · intro hp
      rcases List.mem_cons.1 ((h p).2 (by simp [hp])) with e | hp'
      · subst e; exact absurd (k1 p hp) (irr p)
      · exact hp'
theorem setC_goes {f : CSta} {m : CKey × CMark} (h : goesC f m.1 m.2 = true) : setC f m = fun k => if k = m.1 then some m.2 else f k := by unfold setC; rw [if_pos h]
theorem setC_stays {f : CSta} {m : CKey × CMark} (h : goesC f m.1 m.2 = false) : setC f m = f := by unfold setC; rw [if_neg (by rw [h]; simp)]
abbrev Mrk := Int × ByteArray × ByteArray
abbrev keyM (m : Mrk) : CKey := (m.1, m.2.1)
structure IsMarks (f : CSta) (L : List Mrk) : Prop where
  rise : L.Pairwise (fun a b => KLt (keyM a) (keyM b))
  mem : ∀ p : Mrk, p ∈ L ↔ p.2.2.size ≠ 0 ∧ ∃ s, f (keyM p) = some (p.2.2, s)
theorem IsMarks.unique {f : CSta} {L M : List Mrk} (h : IsMarks f L) (k : IsMarks f M) : L = M :=
  rise_unique (R := fun a b => KLt (keyM a) (keyM b)) (fun _ => klt_irrefl) (fun _ _ _ => klt_trans) h.rise k.rise (fun p => (h.mem p).trans (k.mem p).symm)
structure Lists (f : CSta) (L : List (CKey × CMark)) : Prop where
  rise : L.Pairwise (fun a b => KLt a.1 b.1)
  mem : ∀ k c, (k, c) ∈ L ↔ f k = some c
def shownM (m : CKey × CMark) : Mrk := (m.1.1, m.1.2, m.2.1)
def fullM (m : CKey × CMark) : Bool := decide (m.2.1.size ≠ 0)
def shown (L : List (CKey × CMark)) : List Mrk := (L.filter fullM).map shownM
theorem Lists.shown {f : CSta} {L : List (CKey × CMark)} (h : Lists f L) : IsMarks f (shown L) := by
  refine ⟨?_, fun p => ?_⟩
  · unfold Go.Proofs.YtehighgebbdenaaGreatDoor.shown
    rw [List.pairwise_map]
    exact (h.rise.filter _).imp (fun {a b} k => k)
  · unfold Go.Proofs.YtehighgebbdenaaGreatDoor.shown
    rw [List.mem_map]
    constructor
    · rintro ⟨m, hm, rfl⟩
      obtain ⟨h1, h2⟩ := List.mem_filter.1 hm
      exact ⟨of_decide_eq_true h2, m.2.2, (h.mem m.1 m.2).1 h1⟩
    · rintro ⟨h1, s, h2⟩
      exact ⟨(keyM p, (p.2.2, s)), List.mem_filter.2 ⟨(h.mem _ _).2 h2, decide_eq_true h1⟩, rfl⟩
def spotC (k : CKey) : List (CKey × CMark) → Nat
  | [] => 0
  | m :: r => if KLt m.1 k then spotC k r + 1 else 0
theorem spotC_le (k : CKey) : ∀ L : List (CKey × CMark), spotC k L ≤ L.length
  | [] => Nat.le_refl _
  | m :: r => by
    unfold spotC
    split
    · have := spotC_le k r; simp; exact this
    · exact Nat.zero_le _
theorem spotC_ahead (k : CKey) : ∀ (L : List (CKey × CMark)) (j : Nat) (m : CKey × CMark), j < spotC k L → L[j]? = some m → KLt m.1 k
  | [], j, m, h, _ => by simp [spotC] at h
  | x :: r, j, m, h, e => by
    unfold spotC at h
    split at h
    · rename_i hx
      cases j with
      | zero => simp only [List.getElem?_cons_zero, Option.some.injEq] at e; subst e; exact hx
      | succ j => exact spotC_ahead k r j m (by omega) (by simpa using e)
    · omega
theorem spotC_stop (k : CKey) : ∀ (L : List (CKey × CMark)) (m : CKey × CMark), L[spotC k L]? = some m → ¬ KLt m.1 k
  | [], m, e => by simp at e
  | x :: r, m, e => by
    unfold spotC at e
    split at e
    · exact spotC_stop k r m (by simpa using e)
    · rename_i hx
      simp only [List.getElem?_cons_zero, Option.some.injEq] at e
      subst e
      exact hx
theorem spotC_is (k : CKey) (L : List (CKey × CMark)) (i : Nat) (hi : i ≤ L.length) (h1 : ∀ j m, j < i → L[j]? = some m → KLt m.1 k) (h2 : ∀ m, L[i]? = some m → ¬ KLt m.1 k) : spotC k L = i := by
  have hle := spotC_le k L
  rcases Nat.lt_trichotomy (spotC k L) i with h | h | h
  · have e := List.getElem?_eq_getElem (l := L) (i := spotC k L) (by omega)
    exact absurd (h1 _ _ h e) (spotC_stop k L _ e)
  · exact h
  · have e := List.getElem?_eq_getElem (l := L) (i := i) (by omega)
    exact absurd (spotC_ahead k L i _ h e) (h2 _ e)
def laidC (L : List (CKey × CMark)) (m : CKey × CMark) : Bool := match L[spotC m.1 L]? with
  | none => true
  | some o => if o.1 = m.1 then decide (CLt o.2.2 m.2.2) else true
theorem Lists.at_spot {f : CSta} {L : List (CKey × CMark)} (h : Lists f L) {k : CKey} {c : CMark} (hf : f k = some c) : L[spotC k L]? = some (k, c) := by
  obtain ⟨i, hi, e⟩ := List.getElem_of_mem ((h.mem k c).2 hf)
  have he : L[i]? = some (k, c) := by rw [List.getElem?_eq_getElem hi, e]
  rw [spotC_is k L i (by omega) (fun j m hj hm => ?_) (fun m hm => ?_)]
  · exact he
  · have hjl : j < L.length := by omega
    rw [List.getElem?_eq_getElem hjl] at hm
    cases hm
    have := List.pairwise_iff_getElem.1 h.rise j i hjl hi hj
    rwa [e] at this
  · rw [he] at hm
    cases hm
    exact klt_irrefl
theorem Lists.laid {f : CSta} {L : List (CKey × CMark)} (h : Lists f L) (m : CKey × CMark) : laidC L m = goesC f m.1 m.2 := by
  unfold laidC goesC
  cases hf : f m.1 with
  | some o =>
    rw [h.at_spot hf]
    simp
  | none =>
    cases hs : L[spotC m.1 L]? with
    | none => rfl
    | some o =>
      have hne : o.1 ≠ m.1 := fun e => by
        have := (h.mem o.1 o.2).1 (List.mem_of_getElem? hs)
        rw [e, hf] at this
        cases this
      simp [hne]
theorem mem_lay {α : Type} (L : List α) (i : Nat) (x p : α) : p ∈ L.take i ++ x :: L.drop i ↔ p = x ∨ p ∈ L := by
  rw [List.mem_append, List.mem_cons]
  constructor
  · rintro (h | h | h)
    · exact .inr (List.mem_of_mem_take h)
    · exact .inl h
    · exact .inr (List.mem_of_mem_drop h)
  · rintro (h | h)
    · exact .inr (.inl h)
    · rw [← List.take_append_drop i L] at h
      rcases List.mem_append.1 h with h | h
      · exact .inl h
      · exact .inr (.inr h)
theorem Lists.fresh {f : CSta} {L : List (CKey × CMark)} (h : Lists f L) {m : CKey × CMark} (hf : f m.1 = none) : Lists (setC f m) (L.take (spotC m.1 L) ++ m :: L.drop (spotC m.1 L)) := by
  refine ⟨?_, fun k c => ?_⟩
  · have hr := h.rise
    rw [← List.take_append_drop (spotC m.1 L) L] at hr
    obtain ⟨r1, r2, r3⟩ := List.pairwise_append.1 hr
    refine List.pairwise_append.2 ⟨r1, List.pairwise_cons.2 ⟨fun b hb => ?_, r2⟩, fun a ha b hb => ?_⟩
    · obtain ⟨j, hj, rfl⟩ := List.getElem_of_mem hb
      rw [List.length_drop] at hj
      rw [List.getElem_drop]
      have h0 := List.getElem?_eq_getElem (l := L) (i := spotC m.1 L) (by omega)
      have hns := spotC_stop m.1 L _ h0
      have hne : L[spotC m.1 L].1 ≠ m.1 := fun e => by
        have := (h.mem L[spotC m.1 L].1 L[spotC m.1 L].2).1 (List.getElem_mem _)
        rw [e, hf] at this
        cases this
      have hgt : KLt m.1 L[spotC m.1 L].1 := by
        rcases klt_total hne with q | q
        · exact absurd q hns
        · exact q
      cases j with
      | zero => exact hgt
      | succ j => exact klt_trans hgt (List.pairwise_iff_getElem.1 h.rise (spotC m.1 L) (spotC m.1 L + (j + 1)) (by omega) (by omega) (by omega))
    · obtain ⟨j, hj, rfl⟩ := List.getElem_of_mem ha
      rw [List.length_take] at hj
      have hjm : KLt (L.take (spotC m.1 L))[j].1 m.1 := by
        rw [List.getElem_take]
        exact spotC_ahead m.1 L j _ (by omega) (List.getElem?_eq_getElem (by omega))
      rcases List.mem_cons.1 hb with e | hb
      · rw [e]; exact hjm
      · exact r3 _ (List.getElem_mem _) b hb
  · rw [mem_lay]
    by_cases hk : k = m.1
    · subst hk
      rw [setC_none hf]
      constructor
      · rintro (e | e)
        · rw [← e]
        · have := (h.mem m.1 c).1 e
          rw [hf] at this
          cases this
      · intro e
        cases e
        exact .inl rfl
    · rw [setC_other hk, h.mem]
      constructor
      · rintro (e | e)
        · exact absurd (by rw [← e]) hk
        · exact e
      · exact .inr
theorem Lists.first {f : CSta} {L : List (CKey × CMark)} (h : Lists f L) {i : Nat} {m : CKey × CMark} (hi : L[i]? = some m) : f m.1 = some m.2 := (h.mem m.1 m.2).1 (List.mem_of_getElem? hi)
end Go.Proofs.YtehighgebbdenaaGreatDoor
end
