import Derived.Test.YtehighgebbdenaaGreatDoorVp01
import Derived.Test.YtehighgebbdenaaGreatDoorVp02
import Derived.Test.YtehighgebbdenaaGreatDoorVp05
import Derived.Test.YtehighgebbdenaaGreatDoorVp09
import Derived.Test.YtehighgebbdenaaGreatDoorVp11
import Derived.Test.YtehighgebbdenaaGreatDoorVp13
import Derived.Test.YtehighgebbdenaaGreatDoorVp15
import Derived.Deep.LoopGhost
import Derived.WalkSpells
import Derived.LoopN
import Derived.Deep.Cut
import Derived.Deep.CutRange
import Derived.Deep.DeepCutAuto
import Derived.Shelf.Abstract
section
set_option linter.unusedVariables false
namespace Go.Proofs.YtehighgebbdenaaGreatDoor
open Go.RowKit Go.Lib Go.Sort
def kV (ao : Nat → Option Addr) (cap : Nat → Nat) (R : Rws) : Value := .agg #[.slice (ao 0) (R 0).length (cap 0), .slice (ao 1) (R 1).length (cap 1), .slice (ao 2) (R 2).length (cap 2), .slice (ao 3) (R 3).length (cap 3)]
def KnownAt (w : World) (ao : Nat → Option Addr) (R : Rws) : Prop := ∀ i, i < 4 → OpsIn w (ao i) (R i)
theorem KnownAt.later {w w' : World} {ao : Nat → Option Addr} {R : Rws} (h : KnownAt w ao R) (hb : Below w.heap.size w w') : KnownAt w' ao R := fun i hi => (h i hi).later hb
def KBox (w : World) (b : Nat) (ao : Nat → Option Addr) (cap : Nat → Nat) (R : Rws) : Prop := w.heap[b]? = some (.cells #[.slice (ao 0) (R 0).length (cap 0), .slice (ao 1) (R 1).length (cap 1), .slice (ao 2) (R 2).length (cap 2), .slice (ao 3) (R 3).length (cap 3)] 65 (0, 0))
theorem KBox.at {w : World} {b : Nat} {ao : Nat → Option Addr} {cap : Nat → Nat} {R : Rws} (h : KBox w b ao cap R) {i : Nat} (hi : i < 4) : w.cell? ⟨b, i, none⟩ = some (.slice (ao i) (R i).length (cap i)) := by
  unfold KBox at h
  match i, hi with
  | 0, _ => simp [World.cell?, h]
  | 1, _ => simp [World.cell?, h]
  | 2, _ => simp [World.cell?, h]
  | 3, _ => simp [World.cell?, h]
theorem KBox.fz {w : World} {b : Nat} {ao : Nat → Option Addr} {cap : Nat → Nat} {R : Rws} (h : KBox w b ao cap R) (o : Nat) : w.frozen? ⟨b, o, none⟩ = false := by
  unfold KBox at h; simp [World.frozen?, h]
theorem KBox.lt {w : World} {b : Nat} {ao : Nat → Option Addr} {cap : Nat → Nat} {R : Rws} (h : KBox w b ao cap R) : b < w.heap.size := (Array.getElem?_eq_some_iff.1 h).1
theorem KBox.new (w : World) (ao : Nat → Option Addr) (cap : Nat → Nat) (R : Rws) : KBox (w.alloc (.cells #[.slice (ao 0) (R 0).length (cap 0), .slice (ao 1) (R 1).length (cap 1), .slice (ao 2) (R 2).length (cap 2), .slice (ao 3) (R 3).length (cap 3)] 65)) w.heap.size ao cap R := heap_alloc_new w _
theorem KBox.later {w w' : World} {b : Nat} {ao : Nat → Option Addr} {cap : Nat → Nat} {R : Rws} (h : KBox w b ao cap R) (hb : Below w.heap.size w w') : KBox w' b ao cap R := (hb.block b h.lt).trans h
theorem OpsIn.get {w : World} {ao : Option Addr} {xs : List OpX} (h : OpsIn w ao xs) {i : Nat} {x : OpX} (hi : xs[i]? = some x) : ∃ blk off, ao = some ⟨blk, off, none⟩ ∧ ∀ c u, (encX x)[c]? = some u → w.cell? ⟨blk, off + i * 8 + c, none⟩ = some u := by
  rcases h with h | ⟨b, o, h1, h2⟩
  · subst h; simp at hi
  · refine ⟨b, o, h1, fun c u hc => ?_⟩
    have hl := (List.getElem?_eq_some_iff.1 hi)
    have h8 : c < 8 := (List.getElem?_eq_some_iff.1 hc).1
    have e := cellsOf_get xs i c hl.1 h8
    rw [Nat.add_assoc]
    refine h2 _ _ (e.trans ?_)
    rw [getElem!_pos xs i hl.1, hl.2, getElem!_pos _ c (by rw [encX_len]; exact h8), ← (List.getElem?_eq_some_iff.1 hc).2]
theorem results_ct {fn : Func} {p u : Tmp} {ty : TypeId} (h : fn.results = #[.cell p ty, .tmp u]) (tmps : Array Value) (P : Program) (w : World) :
    (results fn tmps).run P w =
      ((asAddr (tmps.getD p undef)).run P w).andThen fun a w1 => ((loadVar ty a).run P w1).andThen fun v w2 => .ok (.tuple #[v, tmps.getD u undef]) w2 := by
  simp only [results, h]
  simp [Sem.run_bind, Result.andThen]
set_option maxRecDepth 100000 in
set_option maxHeartbeats 1000000 in
theorem number_none (w : World) (ao : Nat → Option Addr) (cap : Nat → Nat) (R : Rws) (i n : Nat) (hi : i < 4) (hx : (R i).length ≤ n) :
    Calls Tryz.prog 111 #[kV ao cap R, .int .i64 (i : Int), .int .i64 ((n : Int) + 1)] w fun e w' => e = .returned (.tuple #[encO zeroO, .bool false]) ∧ Below w.heap.size w w' := by
  unfold kV
  have dn : decide (((R i).length : Int) < (n : Int) + 1) = true := by simp; omega
  have h4 : i = 0 ∨ i = 1 ∨ i = 2 ∨ i = 3 := by omega
  rcases h4 with rfl | rfl | rfl | rfl
  all_goals
    go_enter Tryz.func111, Tryz.ntmps111
    go_wp2
    (try simp only [Exit.inBlock, Exit.then])
    refine bodyPost_ret (v := .tuple #[encO zeroO, .bool false]) ?_ rfl ⟨rfl, ?_⟩
    · rw [results_ct rfl]
      unfold encO zeroO
      go_simp
    · exact ((Below.refl _ w).alloc (Nat.le_refl _) _).alloc (by simp) _
set_option maxRecDepth 100000 in
set_option maxHeartbeats 1000000 in
theorem number_some (w : World) (ao : Nat → Option Addr) (cap : Nat → Nat) (R : Rws) (i n : Nat) (x : OpX) (hK : KnownAt w ao R) (hi : i < 4) (hn : n < 1000) (hx : (R i)[n]? = some x) :
    Calls Tryz.prog 111 #[kV ao cap R, .int .i64 (i : Int), .int .i64 ((n : Int) + 1)] w fun e w' => e = .returned (.tuple #[encO x, .bool true]) ∧ Below w.heap.size w w' := by
  obtain ⟨blk, off, ha, hc⟩ := (hK i hi).get hx
  have hln := (List.getElem?_eq_some_iff.1 hx).1
  obtain ⟨t, b, m, k, nd, o, s, v⟩ := x
  have hbl : blk < w.heap.size := World.block_lt_of_cell? w ⟨blk, off + n * 8 + 0, none⟩ (hc 0 _ rfl)
  have hcell : ∀ o1 o2 c u, (encX (t, b, m, k, nd, o, s, v))[c]? = some u → ((w.alloc o1).alloc o2).cell? ⟨blk, off + n * 8 + c, none⟩ = some u := fun o1 o2 c u hu => by
    rw [(((Below.refl w.heap.size w).alloc (Nat.le_refl _) o1).alloc (by simp) o2).cell (p := ⟨blk, off + n * 8 + c, none⟩) hbl]
    exact hc c u hu
  have r0 := fun o1 o2 => hcell o1 o2 0 _ rfl
  have r1 := fun o1 o2 => hcell o1 o2 1 _ rfl
  have r2 := fun o1 o2 => hcell o1 o2 2 _ rfl
  have r3 := fun o1 o2 => hcell o1 o2 3 _ rfl
  have r4 := fun o1 o2 => hcell o1 o2 4 _ rfl
  have r5 := fun o1 o2 => hcell o1 o2 5 _ rfl
  have r6 := fun o1 o2 => hcell o1 o2 6 _ rfl
  have r7 := fun o1 o2 => hcell o1 o2 7 _ rfl
  simp only [Nat.add_zero] at r0
  clear hcell hc
  have dn : decide (((R i).length : Int) < (n : Int) + 1) = false := by simp; omega
  have en : ((n : Int) + 1 - 1) = (n : Int) := by omega
  have wn : ((n : Int)).toNat = n := by omega
  have pn : (0 : Int) ≤ (n : Int) := by omega
  have bn : (n : Int) < ((R i).length : Int) := by omega
  have h4 : i = 0 ∨ i = 1 ∨ i = 2 ∨ i = 3 := by omega
  unfold kV encO
  rcases h4 with rfl | rfl | rfl | rfl
  all_goals
    rw [ha]
    clear ha
    go_enter Tryz.func111, Tryz.ntmps111
    go_wp2
    (try simp only [Exit.inBlock, Exit.then])
    refine bodyPost_ret (v := .tuple #[.agg #[.int .i64 t, .int .i64 b, .int .i64 m, .int .u8 (k : Int), .int .i64 nd, .int .i64 o, .string s, .string v], .bool true]) ?_ rfl ⟨rfl, ?_⟩
    · rw [results_ct rfl]
      go_simp
    · exact ((Below.refl _ w).alloc (Nat.le_refl _) _).alloc (by simp) _
end Go.Proofs.YtehighgebbdenaaGreatDoor
end
section
set_option linter.unusedVariables false
namespace Go.Proofs.YtehighgebbdenaaGreatDoor
open Go.RowKit Go.Lib Go.Sort
set_option maxHeartbeats 1000000 in
theorem closureT (x : OpX) (tm : Int) (w : World) : Calls Tryz.prog 236 #[encO x, .int .i64 tm] w fun e w' => e = .returned (.int .i64 (cmpZ x.1 tm)) ∧ Below w.heap.size w w' := by
  obtain ⟨t, b, n, k, nd, o, s, v⟩ := x
  unfold encO
  dsimp only
  go_enter Tryz.func236, Tryz.ntmps236
  go_wp2_with (go_at_call 103; refine (cmpZ_any _ _ _).mono ?_; rintro e w' ⟨rfl, rfl⟩)
  go_ret
  exact ⟨rfl, (Below.refl _ w).alloc (Nat.le_refl _) _⟩
def BsAt (xs : List OpX) (tm : Int) (i : Nat) (b : Bool) : Prop := i ≤ xs.length ∧ (∀ j x, j < i → xs[j]? = some x → x.1 < tm) ∧ (∀ j x, i ≤ j → xs[j]? = some x → tm ≤ x.1) ∧ (b = true ↔ ∃ x, xs[i]? = some x ∧ x.1 = tm)
def RisesT (xs : List OpX) : Prop := ∀ (i j : Nat) (x y : OpX), i ≤ j → xs[i]? = some x → xs[j]? = some y → x.1 ≤ y.1
set_option maxRecDepth 100000 in
set_option maxHeartbeats 2000000 in
theorem bsearch_any (ao : Option Addr) (cap : Nat) (xs : List OpX) (tm : Int) (w : World) (hin : OpsIn w ao xs) (hr : RisesT xs) (hn : xs.length ≤ 1000) :
    Calls Tryz.prog 235 #[.slice ao xs.length cap, .int .i64 tm, .func (.func 236) #[] #[]] w fun e w' => ∃ (i : Nat) (b : Bool), e = .returned (.tuple #[.int .i64 (i : Int), .bool b]) ∧ BsAt xs tm i b ∧ Below w.heap.size w w' := by
  have HI : Aside (OpsIn w ao xs ∧ RisesT xs) := ⟨hin, hr⟩
  clear hin hr
  go_enter Tryz.func235, Tryz.ntmps235
  go_wp2
  go_loopg [9, 10, 11] (xs.length + 1) (fun kx s9 s10 s11 wr => ∃ (i j : Nat), s9 = .int .i64 (i : Int) ∧ s10 = .int .i64 (j : Int) ∧ i ≤ j ∧ j ≤ xs.length ∧ j - i < kx ∧ Aside (Below w.heap.size w wr ∧ (∀ k x, k < i → xs[k]? = some x → x.1 < tm) ∧ (∀ k x, j ≤ k → xs[k]? = some x → tm ≤ x.1)))
  case atStart => exact ⟨0, xs.length, rfl, rfl, Nat.zero_le _, Nat.le_refl _, by omega, Below.refl _ w, fun k x hk => by omega, fun k x hk h => by have := (List.getElem?_eq_some_iff.1 h).1; omega⟩
  case round =>
    obtain ⟨i, j, rfl, rfl, hij, hj, hkx, A⟩ := hrel
    by_cases hlt : i < j
    · have d1 : decide ((i : Int) < (j : Int)) = true := by simp; omega
      obtain ⟨h, hh⟩ : ∃ h : Nat, h = (i + j) / 2 := ⟨_, rfl⟩
      have eh : ((i : Int) + (j : Int)) / 2 = (h : Int) := by omega
      have hl : h < xs.length := by omega
      have wh : ((h : Int)).toNat = h := by omega
      have ph : (0 : Int) ≤ (h : Int) := by omega
      have bh : (h : Int) < (xs.length : Int) := by omega
      have hih : i ≤ h ∧ h < j := by omega
      clear hh
      obtain ⟨⟨t, b, n, k, nd, o, s, v⟩, hx⟩ : ∃ x, Aside (xs[h]? = some x) := ⟨xs[h], List.getElem?_eq_getElem hl⟩
      obtain ⟨blk, off, hao, hc⟩ := (HI.out.1.later A.out.1).get hx.out
      subst hao
      have r0 := hc 0 _ rfl
      have r1 := hc 1 _ rfl
      have r2 := hc 2 _ rfl
      have r3 := hc 3 _ rfl
      have r4 := hc 4 _ rfl
      have r5 := hc 5 _ rfl
      have r6 := hc 6 _ rfl
      have r7 := hc 7 _ rfl
      simp only [Nat.add_zero] at r0
      clear hc
      have hcall := closureT (t, b, n, k, nd, o, s, v) tm wr
      unfold encO at hcall
      dsimp only at hcall
      by_cases hc : t < tm
      · have ec : cmpZ t tm = -1 := by unfold cmpZ; rw [if_pos hc]
        rw [ec] at hcall
        have HC : Aside (t < tm) := hc
        clear hc ec
        go_wp2_with (go_at_call 236; refine hcall.mono ?_; clear hcall; rintro e w' ⟨rfl, hb'⟩; have A' : Aside (Below w.heap.size w w') := (A.out.1.trans (hb'.mono A.out.1.size)); clear hb' r0 r1 r2 r3 r4 r5 r6 r7)
        go_roundg (j - h)
        case measure => omega
        case rel =>
          refine ⟨h + 1, j, by go_num, rfl, by omega, hj, by omega, A'.out, fun k' x hk hx' => ?_, A.out.2.2⟩
          have := HI.out.2 k' h x _ (by omega) hx' hx.out
          have := HC.out
          dsimp only at *
          omega
      · have hz : 0 ≤ cmpZ t tm := by unfold cmpZ; rw [if_neg hc]; split <;> omega
        obtain ⟨z, ez⟩ : ∃ z, cmpZ t tm = z := ⟨_, rfl⟩
        rw [ez] at hcall hz
        have dz : decide (z < 0) = false := by simp; omega
        have HC : Aside (¬ t < tm) := hc
        clear hc ez
        go_wp2_with (go_at_call 236; refine hcall.mono ?_; clear hcall; rintro e w' ⟨rfl, hb'⟩; have A' : Aside (Below w.heap.size w w') := (A.out.1.trans (hb'.mono A.out.1.size)); clear hb' r0 r1 r2 r3 r4 r5 r6 r7)
        go_roundg (h - i + 1)
        case measure => omega
        case rel =>
          refine ⟨i, h, rfl, rfl, by omega, by omega, by omega, A'.out, A.out.2.1, fun k' x hk hx' => ?_⟩
          have := HI.out.2 h k' _ x (by omega) hx.out hx'
          have := HC.out
          dsimp only at *
          omega
    · have d1 : decide ((i : Int) < (j : Int)) = false := by simp; omega
      obtain rfl : i = j := by omega
      by_cases hil : i < xs.length
      · have d2 : decide ((i : Int) < (xs.length : Int)) = true := by simp; omega
        have wh : ((i : Int)).toNat = i := by omega
        have ph : (0 : Int) ≤ (i : Int) := by omega
        have bh : (i : Int) < (xs.length : Int) := by omega
        obtain ⟨⟨t, b, n, k, nd, o, s, v⟩, hx⟩ : ∃ x, Aside (xs[i]? = some x) := ⟨xs[i], List.getElem?_eq_getElem hil⟩
        obtain ⟨blk, off, hao, hc⟩ := (HI.out.1.later A.out.1).get hx.out
        subst hao
        have r0 := hc 0 _ rfl
        have r1 := hc 1 _ rfl
        have r2 := hc 2 _ rfl
        have r3 := hc 3 _ rfl
        have r4 := hc 4 _ rfl
        have r5 := hc 5 _ rfl
        have r6 := hc 6 _ rfl
        have r7 := hc 7 _ rfl
        simp only [Nat.add_zero] at r0
        clear hc
        have hcall := closureT (t, b, n, k, nd, o, s, v) tm wr
        unfold encO at hcall
        dsimp only at hcall
        have hz : Aside ((cmpZ t tm == 0) = decide (t = tm)) := by
          show (cmpZ t tm == 0) = decide (t = tm)
          unfold cmpZ
          by_cases h1 : t < tm
          · rw [if_pos h1]; have : t ≠ tm := by omega
            simp [this]
          · rw [if_neg h1]
            by_cases h2 : tm < t
            · rw [if_pos h2]; have : t ≠ tm := by omega
              simp [this]
            · rw [if_neg h2]; have : t = tm := by omega
              simp [this]
        obtain ⟨z, ez⟩ : ∃ z, z = cmpZ t tm := ⟨_, rfl⟩
        rw [← ez] at hcall hz
        clear ez
        go_wp2_with (go_at_call 236; refine hcall.mono ?_; clear hcall; rintro e w' ⟨rfl, hb'⟩; have A' : Aside (Below w.heap.size w w') := (A.out.1.trans (hb'.mono A.out.1.size)); clear hb' r0 r1 r2 r3 r4 r5 r6 r7)
        go_ret2
        refine ⟨i, _, rfl, ⟨hj, A.out.2.1, A.out.2.2, ?_⟩, A'.out⟩
        rw [hz.out, decide_eq_true_iff]
        constructor
        · intro e; exact ⟨_, hx.out, e⟩
        · rintro ⟨x, hx', e⟩
          rw [hx.out] at hx'
          cases hx'
          exact e
      · have d2 : decide ((i : Int) < (xs.length : Int)) = false := by simp; omega
        go_wp2
        go_ret2
        refine ⟨i, false, rfl, ⟨hj, A.out.2.1, A.out.2.2, ?_⟩, A.out.1⟩
        constructor
        · intro e; cases e
        · rintro ⟨x, hx', e⟩
          have := (List.getElem?_eq_some_iff.1 hx').1
          omega
end Go.Proofs.YtehighgebbdenaaGreatDoor
end
section
set_option linter.unusedVariables false
namespace Go.Proofs.YtehighgebbdenaaGreatDoor
open Go.RowKit Go.Lib Go.Sort
def findK (R : Rws) (id : Int) : Option OpX := (allR R).find? (fun x => decide (idO x = id))
theorem findK_some {R : Rws} {id : Int} {x : OpX} (h : findK R id = some x) : x ∈ allR R ∧ idO x = id := by
  unfold findK at h
  exact ⟨List.mem_of_find?_eq_some h, by simpa using List.find?_some h⟩
theorem findK_none {R : Rws} {id : Int} : findK R id = none ↔ ∀ x ∈ allR R, idO x ≠ id := by
  unfold findK
  rw [List.find?_eq_none]
  simp
theorem findK_is {R : Rws} (h : RowsN R) {x : OpX} (hx : x ∈ allR R) : findK R (idO x) = some x := by
  cases hf : findK R (idO x) with
  | none => exact absurd rfl (findK_none.1 hf x hx)
  | some y =>
    obtain ⟨a, b⟩ := findK_some hf
    rw [h.stamp a hx (id_inj (h.num.ok y a) (h.num.ok x hx) b)]
theorem id_range {x : OpX} (h : errO x = 0) : 4 ≤ idO x ∧ idO x < 4294967300 := by
  have h1 := err_by h
  unfold idO
  have e1 : x.2.1 = byO x := rfl
  rw [e1]
  omega
theorem findK_out {R : Rws} (h : RowsN R) {id : Int} (ho : id < 4 ∨ 4294967300 ≤ id) : findK R id = none :=
  findK_none.2 (fun x hx e => by have := id_range (h.num.ok x hx); omega)
theorem RowsN.risesT {R : Rws} (h : RowsN R) {i : Nat} (hi : i < 4) : ∀ (a b : Nat) (x y : OpX), a < b → (R i)[a]? = some x → (R i)[b]? = some y → x.1 < y.1 := by
  intro a b x y hab hx hy
  obtain ⟨a1, a2, _⟩ := h.num i hi a x hx
  obtain ⟨b1, b2, _⟩ := h.num i hi b y hy
  have hp := List.pairwise_iff_getElem.1 (h.rise hi) a b (List.getElem?_eq_some_iff.1 hx).1 (List.getElem?_eq_some_iff.1 hy).1 hab
  rw [(List.getElem?_eq_some_iff.1 hx).2, (List.getElem?_eq_some_iff.1 hy).2] at hp
  unfold CLt stO at hp
  dsimp only at hp
  have e1 : x.2.1 = byO x := rfl
  have e2 : y.2.1 = byO y := rfl
  omega
theorem RowsN.risesLe {R : Rws} (h : RowsN R) {i : Nat} (hi : i < 4) : RisesT (R i) := fun a b x y hab hx hy => by
  rcases Nat.lt_or_ge a b with q | q
  · have := h.risesT hi a b x y q hx hy; omega
  · obtain rfl : a = b := by omega
    rw [hx] at hy; cases hy; exact Int.le_refl _
theorem findK_bs {R : Rws} (h : RowsN R) {id : Int} {i k : Nat} {b : Bool} (hi : i < 4) (e : id % 4 = (i : Int)) (hb : BsAt (R i) (id / 4) k b) : (b = false → findK R id = none) ∧ (b = true → ∃ x, (R i)[k]? = some x ∧ findK R id = some x) := by
  obtain ⟨h1, h2, h3, h4⟩ := hb
  refine ⟨fun hf => findK_none.2 (fun x hx ex => ?_), fun ht => ?_⟩
  · obtain ⟨m, hm, hxm⟩ := mem_allR.1 hx
    obtain ⟨j, a1, a2, a3, _⟩ := h.num.get hm hxm
    have e1 : x.2.1 = byO x := rfl
    unfold idO at ex
    obtain rfl : m = i := by omega
    have ht : x.1 = id / 4 := by omega
    have hkj : j = k := by
      rcases Nat.lt_trichotomy j k with q | q | q
      · have := h2 j x q a1; omega
      · exact q
      · have hk : k < (R m).length := by have := (List.getElem?_eq_some_iff.1 a1).1; omega
        have ek := List.getElem?_eq_getElem hk
        have := h3 k _ (Nat.le_refl _) ek
        have := h.risesT hm k j _ x q ek a1
        omega
    subst hkj
    rw [hf] at h4
    exact absurd (h4.2 ⟨x, a1, ht⟩) (by decide)
  · obtain ⟨x, hx, et⟩ := h4.1 ht
    refine ⟨x, hx, ?_⟩
    obtain ⟨b1, b2, _⟩ := h.num i hi k x hx
    have e1 : x.2.1 = byO x := rfl
    have : idO x = id := by unfold idO; omega
    rw [← this]
    exact findK_is h (mem_allR.2 ⟨i, hi, List.mem_of_getElem? hx⟩)
def OpBlk (W : World) (b : Nat) (x : OpX) : Prop := W.heap[b]? = some (.cells #[.int .i64 x.1, .int .i64 x.2.1, .int .i64 x.2.2.1, .int .u8 (x.2.2.2.1 : Int), .int .i64 x.2.2.2.2.1, .int .i64 x.2.2.2.2.2.1, .string x.2.2.2.2.2.2.1, .string x.2.2.2.2.2.2.2] 38 (0, 0))
theorem OpBlk.lt {W : World} {b : Nat} {x : OpX} (h : OpBlk W b x) : b < W.heap.size := (Array.getElem?_eq_some_iff.1 h).1
theorem OpBlk.later {W W' : World} {b : Nat} {x : OpX} (h : OpBlk W b x) (hb : Below W.heap.size W W') : OpBlk W' b x := (hb.block b h.lt).trans h
theorem OpBlk.new (W : World) (x : OpX) : OpBlk (W.alloc (.cells #[.int .i64 x.1, .int .i64 x.2.1, .int .i64 x.2.2.1, .int .u8 (x.2.2.2.1 : Int), .int .i64 x.2.2.2.2.1, .int .i64 x.2.2.2.2.2.1, .string x.2.2.2.2.2.2.1, .string x.2.2.2.2.2.2.2] 38)) W.heap.size x := heap_alloc_new W _
theorem OpBlk.cells {W : World} {b : Nat} {x : OpX} (h : OpBlk W b x) : W.cell? ⟨b, 0, none⟩ = some (.int .i64 x.1) ∧ W.cell? ⟨b, 1, none⟩ = some (.int .i64 x.2.1) ∧ W.cell? ⟨b, 2, none⟩ = some (.int .i64 x.2.2.1) ∧ W.cell? ⟨b, 3, none⟩ = some (.int .u8 (x.2.2.2.1 : Int)) ∧ W.cell? ⟨b, 4, none⟩ = some (.int .i64 x.2.2.2.2.1) ∧ W.cell? ⟨b, 5, none⟩ = some (.int .i64 x.2.2.2.2.2.1) ∧ W.cell? ⟨b, 6, none⟩ = some (.string x.2.2.2.2.2.2.1) ∧ W.cell? ⟨b, 7, none⟩ = some (.string x.2.2.2.2.2.2.2) ∧ ∀ c, W.frozen? ⟨b, c, none⟩ = false := by
  unfold OpBlk at h
  refine ⟨?_, ?_, ?_, ?_, ?_, ?_, ?_, ?_, fun c => ?_⟩ <;> simp [World.cell?, World.frozen?, h]
theorem below_cells {w W : World} {b : Nat} (h : Below w.heap.size w W) (hb : w.heap.size ≤ b) (o : Nat) (vs : List Value) : Below w.heap.size w (W.setCells b o vs) := h.trans ((setCells_keeps b vs o W).below h.size (fun k e => by omega))
set_option maxRecDepth 100000 in
set_option maxHeartbeats 2000000 in
theorem kfind_out {ad : Nat → Addr} (w : World) (ao : Nat → Option Addr) (cap : Nat → Nat) (R : Rws) (id : Int) (hE : Op4 ad w) (ho : id < 4 ∨ 4294967300 ≤ id) (h2 : -9223372036854775808 ≤ id) (h3 : id ≤ 9223372036854775807) :
    Calls Tryz.prog 196 #[kV ao cap R, .int .i64 id] w fun e w' => e = .returned (.tuple #[encO zeroO, .bool false]) ∧ Below w.heap.size w w' := by
  unfold kV
  obtain ⟨U, hU⟩ : ∃ U, U = (w.alloc (.cells #[.slice (ao 0) (R 0).length (cap 0), .slice (ao 1) (R 1).length (cap 1), .slice (ao 2) (R 2).length (cap 2), .slice (ao 3) (R 3).length (cap 3)] 65)).alloc (.cells #[.int .i64 0, .int .i64 0, .int .i64 0, .int .u8 0, .int .i64 0, .int .i64 0, .string ⟨#[]⟩, .string ⟨#[]⟩] 38) := ⟨_, rfl⟩
  have hb : Below w.heap.size w U := by rw [hU]; exact ((Below.refl _ w).alloc (Nat.le_refl _) _).alloc (by simp) _
  have hz : U.heap[w.heap.size + 1]? = some (.cells #[.int .i64 0, .int .i64 0, .int .i64 0, .int .u8 0, .int .i64 0, .int .i64 0, .string ⟨#[]⟩, .string ⟨#[]⟩] 38 (0, 0)) := by
    rw [hU]
    have := heap_alloc_new (w.alloc (.cells #[.slice (ao 0) (R 0).length (cap 0), .slice (ao 1) (R 1).length (cap 1), .slice (ao 2) (R 2).length (cap 2), .slice (ao 3) (R 3).length (cap 3)] 65)) (.cells #[.int .i64 0, .int .i64 0, .int .i64 0, .int .u8 0, .int .i64 0, .int .i64 0, .string ⟨#[]⟩, .string ⟨#[]⟩] 38)
    rw [World.size_alloc] at this
    exact this
  have hE1 := (hE.later hb).c1
  have hcall := of_no id U _ _ hE1 (World.block_lt_of_cell? U ⟨2, 0, none⟩ hE1) ho h2 h3
  have HB : Aside (Below w.heap.size w U) := hb
  clear hb hE hE1
  go_enter Tryz.func196, Tryz.ntmps196
  go_wp2_with fail
  rw [← hU]
  clear hU
  refine hcall.mono ?_
  clear hcall
  rintro e w1 ⟨rfl, hb1⟩
  obtain ⟨S, hS⟩ : ∃ S, S = w.heap.size := ⟨_, rfl⟩
  have hz1 : w1.heap[S + 1]? = some (.cells #[.int .i64 0, .int .i64 0, .int .i64 0, .int .u8 0, .int .i64 0, .int .i64 0, .string ⟨#[]⟩, .string ⟨#[]⟩] 38 (0, 0)) := by
    rw [hS, hb1.block _ (Array.getElem?_eq_some_iff.1 hz).1]; exact hz
  have hl1 : S + 1 < w1.heap.size := (Array.getElem?_eq_some_iff.1 hz1).1
  have B1 : Aside (Below w.heap.size w w1) := HB.out.trans (hb1.mono HB.out.size)
  rw [← hS]
  clear hb1 hz HB
  obtain ⟨y0, y1, y2, y3, y4, y5, y6, y7, f8⟩ := OpBlk.cells (x := zeroO) hz1
  unfold zeroO at y0 y1 y2 y3 y4 y5 y6 y7
  dsimp only at y0 y1 y2 y3 y4 y5 y6 y7
  have HS : Aside (S = w.heap.size) := hS
  clear hS hz1
  go_wp2
  (try simp only [Exit.inBlock, Exit.then])
  refine bodyPost_ret (v := .tuple #[encO zeroO, .bool false]) ?_ rfl ⟨rfl, ?_⟩
  · rw [results_ct rfl]
    unfold encO zeroO
    go_simp
  · exact (below_cells (b := S + 1) B1.out (by have := HS.out; omega) 0 [.int .i64 0, .int .i64 0, .int .i64 0, .int .u8 0, .int .i64 0, .int .i64 0, .string ⟨#[]⟩, .string ⟨#[]⟩]).alloc (below_cells (b := S + 1) B1.out (by have := HS.out; omega) 0 _).size _
set_option maxRecDepth 100000 in
set_option maxHeartbeats 2000000 in
theorem kfind_in (w : World) (ao : Nat → Option Addr) (cap : Nat → Nat) (R : Rws) (id : Int) (hK : KnownAt w ao R) (hR : RowsN R) (hl : ∀ i, i < 4 → (R i).length ≤ 1000) (h1 : 4 ≤ id) (h2 : id < 4294967300) :
    Calls Tryz.prog 196 #[kV ao cap R, .int .i64 id] w fun e w' => e = .returned (.tuple #[encO ((findK R id).getD zeroO), .bool (findK R id).isSome]) ∧ Below w.heap.size w w' := by
  obtain ⟨i, hi, ei⟩ : ∃ i : Nat, i < 4 ∧ id % 4 = (i : Int) := ⟨(id % 4).toNat, by omega, by omega⟩
  have wi : ((i : Int)).toNat = i := by omega
  have pi : (0 : Int) ≤ (i : Int) := by omega
  have bi : (i : Int) < 4 := by omega
  unfold kV
  obtain ⟨S, hS⟩ : ∃ S, S = w.heap.size := ⟨_, rfl⟩
  obtain ⟨U, hU⟩ : ∃ U, U = (w.alloc (.cells #[.slice (ao 0) (R 0).length (cap 0), .slice (ao 1) (R 1).length (cap 1), .slice (ao 2) (R 2).length (cap 2), .slice (ao 3) (R 3).length (cap 3)] 65)).alloc (.cells #[.int .i64 0, .int .i64 0, .int .i64 0, .int .u8 0, .int .i64 0, .int .i64 0, .string ⟨#[]⟩, .string ⟨#[]⟩] 38) := ⟨_, rfl⟩
  have hb : Below w.heap.size w U := by rw [hU]; exact ((Below.refl _ w).alloc (Nat.le_refl _) _).alloc (by simp) _
  have hz : OpBlk U (S + 1) zeroO := by
    rw [hU, hS]
    have := heap_alloc_new (w.alloc (.cells #[.slice (ao 0) (R 0).length (cap 0), .slice (ao 1) (R 1).length (cap 1), .slice (ao 2) (R 2).length (cap 2), .slice (ao 3) (R 3).length (cap 3)] 65)) (.cells #[.int .i64 0, .int .i64 0, .int .i64 0, .int .u8 0, .int .i64 0, .int .i64 0, .string ⟨#[]⟩, .string ⟨#[]⟩] 38)
    rw [World.size_alloc] at this
    exact this
  have hk : KBox U S ao cap R := by rw [hU, hS]; exact (Below.heap_alloc _ _ _ (by simp)).trans (KBox.new w ao cap R)
  have hcall := of_ok id U h1 h2
  rw [ei] at hcall
  obtain ⟨tm, etm⟩ : ∃ tm, tm = id / 4 := ⟨_, rfl⟩
  rw [← etm] at hcall
  have HB : Aside (Below w.heap.size w U ∧ KBox U S ao cap R ∧ OpBlk U (S + 1) zeroO) := ⟨hb, hk, hz⟩
  have HS : Aside (S = w.heap.size ∧ tm = id / 4 ∧ id % 4 = (i : Int)) := ⟨hS, etm, ei⟩
  clear hb hz hk etm ei
  go_enter Tryz.func196, Tryz.ntmps196
  go_wp2_with fail
  rw [← hU, ← hS]
  clear hU hS
  refine hcall.mono ?_
  clear hcall
  rintro e w1 ⟨rfl, hb1⟩
  obtain ⟨V, hV⟩ : ∃ V, V = w1.alloc (.cells #[.int .i64 tm, .int .i64 (i : Int)] 36) := ⟨_, rfl⟩
  have bV : Below w1.heap.size w1 V := by rw [hV]; exact (Below.refl _ w1).alloc (Nat.le_refl _) _
  have HV : Aside (Below w.heap.size w V ∧ KBox V S ao cap R ∧ OpBlk V (S + 1) zeroO) := ⟨HB.out.1.trans ((hb1.mono HB.out.1.size).trans (bV.mono (Nat.le_trans HB.out.1.size hb1.size))), (HB.out.2.1.later hb1).later bV, (HB.out.2.2.later hb1).later bV⟩
  have hs1 : V.heap[w1.heap.size]? = some (.cells #[.int .i64 tm, .int .i64 (i : Int)] 36 (0, 0)) := by rw [hV]; exact heap_alloc_new w1 _
  have s0 : V.cell? ⟨w1.heap.size, 0, none⟩ = some (.int .i64 tm) := by simp [World.cell?, hs1]
  have s1 : V.cell? ⟨w1.heap.size, 1, none⟩ = some (.int .i64 (i : Int)) := by simp [World.cell?, hs1]
  have k1 := HV.out.2.1.at hi
  have hbs := bsearch_any (ao i) (cap i) (R i) tm V ((hK.later HV.out.1) i hi) (hR.risesLe hi) (hl i hi)
  clear hb1 HB bV hs1
  go_upto_region 4 with fail
  rw [← hV]
  clear hV
  go_wp2_with fail
  refine hbs.mono ?_
  clear hbs
  rintro e w2 ⟨k, b, rfl, hbk, hb2⟩
  have hfk := findK_bs hR hi HS.out.2.2 (by rw [← HS.out.2.1]; exact hbk)
  have H2 : Aside (Below w.heap.size w w2 ∧ OpBlk w2 (S + 1) zeroO) := ⟨HV.out.1.trans (hb2.mono HV.out.1.size), HV.out.2.2.later hb2⟩
  have hl2 := H2.out.2.lt
  have KN : Aside (KnownAt w2 ao R) := hK.later H2.out.1
  obtain ⟨y0, y1, y2, y3, y4, y5, y6, y7, f8⟩ := H2.out.2.cells
  unfold zeroO at y0 y1 y2 y3 y4 y5 y6 y7
  dsimp only at y0 y1 y2 y3 y4 y5 y6 y7
  clear hb2 HV s0 s1 k1
  cases b with
  | false =>
    have HF : Aside (findK R id = none) := hfk.1 rfl
    clear hfk hbk
    go_wp2
    (try simp only [Exit.inBlock, Exit.then])
    refine bodyPost_ret (v := .tuple #[encO zeroO, .bool false]) ?_ rfl ⟨by rw [HF.out]; rfl, ?_⟩
    · rw [results_ct rfl]
      unfold encO zeroO
      go_simp
    · exact below_cells (b := S + 1) H2.out.1 (by have := HS.out; omega) 0 [.int .i64 0, .int .i64 0, .int .i64 0, .int .u8 0, .int .i64 0, .int .i64 0, .string ⟨#[]⟩, .string ⟨#[]⟩]
  | true =>
    obtain ⟨⟨t, b, n, kd, nd, o, s, v⟩, hx, hf⟩ := hfk.2 rfl
    have HF : Aside (findK R id = some (t, b, n, kd, nd, o, s, v)) := hf
    obtain ⟨blk, off, hao, hc⟩ := (KN.out i hi).get hx
    have hkl := (List.getElem?_eq_some_iff.1 hx).1
    have hll := hl i hi
    have r0 := hc 0 _ rfl
    have r1 := hc 1 _ rfl
    have r2 := hc 2 _ rfl
    have r3 := hc 3 _ rfl
    have r4 := hc 4 _ rfl
    have r5 := hc 5 _ rfl
    have r6 := hc 6 _ rfl
    have r7 := hc 7 _ rfl
    simp only [Nat.add_zero] at r0
    have wk : ((k : Int)).toNat = k := by omega
    have pk : (0 : Int) ≤ (k : Int) := by omega
    have bk : (k : Int) < ((R i).length : Int) := by omega
    rw [hao]
    clear hfk hbk hf hx hc hao
    go_wp2
    (try simp only [Exit.inBlock, Exit.then])
    refine bodyPost_ret (v := .tuple #[.agg #[.int .i64 t, .int .i64 b, .int .i64 n, .int .u8 (kd : Int), .int .i64 nd, .int .i64 o, .string s, .string v], .bool true]) ?_ rfl ⟨by rw [HF.out]; rfl, ?_⟩
    · rw [results_ct rfl]
      go_simp
    · exact below_cells (b := S + 1) H2.out.1 (by have := HS.out; omega) 0 [.int .i64 t, .int .i64 b, .int .i64 n, .int .u8 (kd : Int), .int .i64 nd, .int .i64 o, .string s, .string v]
theorem kfind_any {ad : Nat → Addr} (w : World) (ao : Nat → Option Addr) (cap : Nat → Nat) (R : Rws) (id : Int) (hE : Op4 ad w) (hK : KnownAt w ao R) (hR : RowsN R) (hl : ∀ i, i < 4 → (R i).length ≤ 1000) (h2 : -9223372036854775808 ≤ id) (h3 : id ≤ 9223372036854775807) :
    Calls Tryz.prog 196 #[kV ao cap R, .int .i64 id] w fun e w' => e = .returned (.tuple #[encO ((findK R id).getD zeroO), .bool (findK R id).isSome]) ∧ Below w.heap.size w w' := by
  by_cases h : id < 4 ∨ 4294967300 ≤ id
  · rw [findK_out hR h]
    exact kfind_out w ao cap R id hE h h2 h3
  · exact kfind_in w ao cap R id hK hR hl (by omega) (by omega)
end Go.Proofs.YtehighgebbdenaaGreatDoor
end
section
namespace Go.Proofs.YtehighgebbdenaaGreatDoor
open Go.RowKit
def Cyc (ad : Nat → Addr) : Prop := ad 100 = ⟨1, 0, none⟩
structure EnvE (B : Nat) (ad : Nat → Addr) (w : World) : Prop where
  op4 : Op4 ad w
  c5 : w.cell? ⟨0, 0, none⟩ = some (.iface 399 (.pointer (some (ad 5))))
  c6 : w.cell? ⟨7, 0, none⟩ = some (.iface 399 (.pointer (some (ad 6))))
  c7 : w.cell? ⟨1, 0, none⟩ = some (.iface 399 (.pointer (some (ad 7))))
  c8 : w.cell? ⟨8, 0, none⟩ = some (.iface 399 (.pointer (some (ad 8))))
  c9 : Cyc ad → w.cell? ⟨9, 0, none⟩ = some (.iface 399 (.pointer (some (ad 9))))
  low : 13 ≤ B
  size : B ≤ w.heap.size
theorem EnvE.mono {B : Nat} {ad : Nat → Addr} {w w' : World} (h : EnvE B ad w) (hb : Below B w w') : EnvE B ad w' := by
  have hl := h.low
  have k : ∀ g v, g < B → w.cell? ⟨g, 0, none⟩ = some v → w'.cell? ⟨g, 0, none⟩ = some v := fun g v hg e => (hb.cell (p := ⟨g, 0, none⟩) hg).trans e
  exact ⟨⟨k _ _ (by omega) h.op4.c1, k _ _ (by omega) h.op4.c2, k _ _ (by omega) h.op4.c3, k _ _ (by omega) h.op4.c4⟩, k _ _ (by omega) h.c5, k _ _ (by omega) h.c6, k _ _ (by omega) h.c7, k _ _ (by omega) h.c8, fun q => k _ _ (by omega) (h.c9 q), hl, Nat.le_trans h.size hb.size⟩
theorem EnvE.later {B : Nat} {ad : Nat → Addr} {w w' : World} (h : EnvE B ad w) (hb : Below w.heap.size w w') : EnvE B ad w' := h.mono (hb.mono h.size)
end Go.Proofs.YtehighgebbdenaaGreatDoor
end
