import Derived.Test.YtehighgebbdenaaGreatDoorVp01
import Derived.Test.YtehighgebbdenaaGreatDoorVp02
import Derived.Test.YtehighgebbdenaaGreatDoorVp06
import Derived.Test.YtehighgebbdenaaGreatDoorVp09
import Derived.Test.YtehighgebbdenaaGreatDoorVp12
import Derived.Deep.LoopGhost
import Derived.Deep.QuietTactic
import Derived.BigQuiet
import Derived.WalkKit
import Derived.WalkSmall
import Derived.RegionTactic
import Derived.Laws.Pointers
import Derived.Carry
import Derived.OrdersHeld
import Derived.OrdersIn
import Derived.TacticsIn
import Derived.RangeFuncCalls
section
namespace Go.Proofs.YtehighgebbdenaaGreatDoor
open Go.RowKit Go.Maps
structure CellsAt (w : World) (bc bm n : Nat) (f : CSta) : Prop where
  cell : w.heap[bc]? = some (.cells #[.map (some bm)] 193 (0, 0))
  map : CMapAt w bm n f
theorem CellsAt.c0 {w : World} {bc bm n : Nat} {f : CSta} (h : CellsAt w bc bm n f) : w.cell? ⟨bc, 0, none⟩ = some (.map (some bm)) := by simp [World.cell?, h.cell]
theorem CellsAt.lt {w : World} {bc bm n : Nat} {f : CSta} (h : CellsAt w bc bm n f) : bc < w.heap.size ∧ bm < w.heap.size := ⟨(Array.getElem?_eq_some_iff.1 h.cell).1, h.map.lt⟩
theorem CellsAt.ne {w : World} {bc bm n : Nat} {f : CSta} (h : CellsAt w bc bm n f) : bc ≠ bm := fun e => by
  obtain ⟨⟨D, ⟨es, clock, hb, _⟩, _⟩, _⟩ := h.map
  have := h.cell
  rw [e, hb] at this
  cases this
theorem CellsAt.same {w w' : World} {bc bm n : Nat} {f : CSta} (h : CellsAt w bc bm n f) (h1 : w'.heap[bc]? = w.heap[bc]?) (h2 : w'.heap[bm]? = w.heap[bm]?) : CellsAt w' bc bm n f := ⟨h1.trans h.cell, h.map.same h2⟩
theorem CellsAt.later {w w' : World} {bc bm n : Nat} {f : CSta} (h : CellsAt w bc bm n f) (hb : Below w.heap.size w w') : CellsAt w' bc bm n f := h.same (hb.block _ h.lt.1) (hb.block _ h.lt.2)
theorem CellsAt.mono {w : World} {bc bm n n' : Nat} {f : CSta} (h : CellsAt w bc bm n f) (hn : n ≤ n') : CellsAt w bc bm n' f := ⟨h.cell, h.map.mono hn⟩
set_option maxHeartbeats 400000 in
theorem cellsNew (w : World) : Calls Tryz.prog 47 #[] w fun e w' => e = .returned (.pointer (some ⟨w.heap.size + 1, 0, none⟩)) ∧ w' = (w.alloc (.map #[] 0)).alloc (.cells #[.map (some w.heap.size)] 193) := by
  have hmm := @run_makeMap Tryz.prog
  go_enter Tryz.func47, Tryz.ntmps47
  go_wp2
  go_ret
  exact ⟨rfl, rfl⟩
theorem lessB_clt (a b : Int × Int) : lessB a.1 a.2 b.1 b.2 = decide (CLt a b) := by
  unfold lessB CLt
  by_cases h : a.1 = b.1
  · rw [if_pos h]
    simp [h]
  · rw [if_neg h]
    simp [h]
def CPutOk (w : World) (bc bm n : Nat) (f : CSta) (m : CKey × CMark) (w' : World) : Prop := CellsAt w' bc bm (n + 1) (setC f m) ∧ Keeps (fun j => j = bm) w w'
set_option maxRecDepth 100000 in
set_option maxHeartbeats 2000000 in
theorem put_any (w : World) (bc bm n : Nat) (f : CSta) (a : Int) (s c : ByteArray) (t b : Int) (h : CellsAt w bc bm n f) (hn : n ≤ 1000000) (hk : WfK (a, s)) :
    Calls Tryz.prog 195 #[.pointer (some ⟨bc, 0, none⟩), .agg #[.int .i64 a, .string s], .agg #[.string c, .int .i64 t, .int .i64 b]] w fun e w' => e = .returned (.bool (goesC f (a, s) (c, (t, b)))) ∧ CPutOk w bc bm n f ((a, s), (c, (t, b))) w' := by
  obtain ⟨S, hS⟩ : ∃ S, S = w.heap.size := ⟨_, rfl⟩
  obtain ⟨U, hU⟩ : ∃ U, U = (w.alloc (.cells #[.int .i64 a, .string s] 234)).alloc (.cells #[.string c, .int .i64 t, .int .i64 b] 236) := ⟨_, rfl⟩
  have hKU : Keeps (fun _ => False) w U := by rw [hU]; exact ((Keeps.refl _ w).alloc _).alloc _
  have hsU : U.heap.size = S + 2 := by rw [hU, hS]; simp
  have hu1 : U.heap[S + 1]? = some (.cells #[.string c, .int .i64 t, .int .i64 b] 236 (0, 0)) := by
    have := heap_alloc_new (w.alloc (.cells #[.int .i64 a, .string s] 234)) (.cells #[.string c, .int .i64 t, .int .i64 b] 236)
    rw [World.size_alloc] at this
    rw [hU, hS]
    exact this
  have hu0 : U.heap[S]? = some (.cells #[.int .i64 a, .string s] 234 (0, 0)) := by
    rw [hU, hS, Below.heap_alloc _ _ _ (by simp)]
    exact heap_alloc_new w _
  have hA : CellsAt U bc bm n f := h.same (hKU.block _ h.lt.1 (fun e => e)) (hKU.block _ h.lt.2 (fun e => e))
  obtain ⟨Z, hZ⟩ : ∃ Z, Z = U.alloc (.cells #[.string ⟨#[]⟩, .int .i64 0, .int .i64 0] 236) := ⟨_, rfl⟩
  have hbZ : Below U.heap.size U Z := by rw [hZ]; exact (Below.refl _ U).alloc (Nat.le_refl _) _
  have hAZ : CellsAt Z bc bm n f := hA.later hbZ
  have c0 : U.cell? ⟨bc, 0, none⟩ = some (.map (some bm)) := hA.c0
  have c1 := hAZ.c0
  have l0 := (hA.later (Below.refl _ U).drew).map.look hk
  have l1 := (hAZ.later (Below.refl _ Z).drew).map.look hk
  have k0 : U.cell? ⟨S, 0, none⟩ = some (.int .i64 a) := by simp [World.cell?, hu0]
  have k1 : U.cell? ⟨S, 1, none⟩ = some (.string s) := by simp [World.cell?, hu0]
  have j0 : Z.cell? ⟨S, 0, none⟩ = some (.int .i64 a) := (hbZ.cell (p := ⟨S, 0, none⟩) (by dsimp only; omega)).trans k0
  have j1 : Z.cell? ⟨S, 1, none⟩ = some (.string s) := (hbZ.cell (p := ⟨S, 1, none⟩) (by dsimp only; omega)).trans k1
  unfold encK at l0 l1
  cases hf : f (a, s) with
  | none =>
    have hg : goesC f (a, s) (c, (t, b)) = true := by unfold goesC; rw [hf]
    rw [hg]
    rw [hf] at l0 l1
    simp only [Option.getD_none, Option.isSome_none] at l0 l1
    unfold encC zeroC at l0 l1
    dsimp only at l0 l1
    have HA : Aside (CellsAt U bc bm n f ∧ Keeps (fun _ => False) w U ∧ U.heap.size = S + 2 ∧ U.heap[S]? = some (.cells #[.int .i64 a, .string s] 234 (0, 0)) ∧ U.heap[S + 1]? = some (.cells #[.string c, .int .i64 t, .int .i64 b] 236 (0, 0))) := ⟨hA, hKU, hsU, hu0, hu1⟩
    clear hA hKU hu0 hu1 hAZ hbZ h hg
    subst hZ
    go_enter Tryz.func195, Tryz.ntmps195
    go_wp2_with fail
    rw [← hU, ← hS]
    have HS : Aside (S = w.heap.size) := hS
    clear hU hS
    have hu1' := HA.out.2.2.2.2
    have hbV := (Below.refl U.heap.size U).alloc (Nat.le_refl _) (.cells #[.string ⟨#[]⟩, .int .i64 0, .int .i64 0] 236)
    have m0 : (U.alloc (.cells #[.string ⟨#[]⟩, .int .i64 0, .int .i64 0] 236)).cell? ⟨S + 1, 0, none⟩ = some (.string c) := (hbV.cell (p := ⟨S + 1, 0, none⟩) (by dsimp only; omega)).trans (by simp [World.cell?, hu1'])
    have m1 : (U.alloc (.cells #[.string ⟨#[]⟩, .int .i64 0, .int .i64 0] 236)).cell? ⟨S + 1, 1, none⟩ = some (.int .i64 t) := (hbV.cell (p := ⟨S + 1, 1, none⟩) (by dsimp only; omega)).trans (by simp [World.cell?, hu1'])
    have m2 : (U.alloc (.cells #[.string ⟨#[]⟩, .int .i64 0, .int .i64 0] 236)).cell? ⟨S + 1, 2, none⟩ = some (.int .i64 b) := (hbV.cell (p := ⟨S + 1, 2, none⟩) (by dsimp only; omega)).trans (by simp [World.cell?, hu1'])
    obtain ⟨w2, hrun, hM2, hT2⟩ := ((HA.out.1.later hbV).later (Below.refl _ _).drew |>.later (Below.refl _ _).drew).map.store (by simp only [maxLen]; omega) hk (c, (t, b))
    have HP : Aside (CPutOk w bc bm n f ((a, s), (c, (t, b))) w2) := by
      have hKV := keeps_of_grown hT2.grown
      have hne := HA.out.1.ne
      have hlt := HA.out.1.lt
      have hs2 := hbV.size
      refine ⟨⟨?_, ?_⟩, ?_⟩
      · rw [hKV.block bc (by simp [World.drew]; omega) (fun e => hne (by simpa using e))]
        exact (hbV.block bc hlt.1).trans HA.out.1.cell
      · have : setC f ((a, s), (c, (t, b))) = fun x => if x = (a, s) then some (c, (t, b)) else f x := setC_goes (by unfold goesC; rw [hf])
        rw [this]
        exact hM2
      · exact ((HA.out.2.1.mono (fun _ _ e => e.elim)).then (((keeps_of_below hbV).drew).drew) (fun i hi e => by have := HA.out.2.1.size; omega)).then hKV (fun i hi e => by simpa using e)
    unfold encK encC at hrun
    dsimp only at hrun
    have HR := HP
    clear hM2 hT2 hbV hu1'
    go_region
    all_goals
      go_wp2_with fail
      go_region
    all_goals
      go_wp2
      go_ret
      exact ⟨rfl, HP.out⟩
  | some o =>
    obtain ⟨vo, tO, bo⟩ := o
    rw [hf] at l0 l1
    simp only [Option.getD_some, Option.isSome_some] at l0 l1
    unfold encC at l0 l1
    dsimp only at l0 l1
    obtain ⟨V, hV⟩ : ∃ V, V = (U.alloc (.cells #[.string vo, .int .i64 tO, .int .i64 bo] 236)).drew := ⟨_, rfl⟩
    have hbV : Below U.heap.size U V := by rw [hV]; exact ((Below.refl U.heap.size U).alloc (Nat.le_refl _) _).drew
    have hv1 : V.heap[S + 1]? = some (.cells #[.string c, .int .i64 t, .int .i64 b] 236 (0, 0)) := (hbV.block _ (by omega)).trans hu1
    have hv0 : V.heap[S]? = some (.cells #[.int .i64 a, .string s] 234 (0, 0)) := (hbV.block _ (by omega)).trans hu0
    have hv2 : V.heap[S + 2]? = some (.cells #[.string vo, .int .i64 tO, .int .i64 bo] 236 (0, 0)) := by
      rw [hV, ← hsU]
      exact heap_alloc_new U _
    have hKV : Keeps (fun _ => False) w V := (hKU.then (keeps_of_below hbV) (fun i hi e => by have := hKU.size; omega))
    have hAV : CellsAt V bc bm n f := hA.later hbV
    have hsV : V.heap.size = S + 3 := by rw [hV]; show (U.alloc _).heap.size = _; rw [World.size_alloc, hsU]
    have hg : goesC f (a, s) (c, (t, b)) = lessB tO bo t b := by unfold goesC; rw [hf]; exact (lessB_clt (tO, bo) (t, b)).symm
    rw [hg]
    have HA : Aside (CellsAt V bc bm n f ∧ Keeps (fun _ => False) w V ∧ V.heap.size = S + 3 ∧ V.heap[S]? = some (.cells #[.int .i64 a, .string s] 234 (0, 0)) ∧ V.heap[S + 1]? = some (.cells #[.string c, .int .i64 t, .int .i64 b] 236 (0, 0)) ∧ V.heap[S + 2]? = some (.cells #[.string vo, .int .i64 tO, .int .i64 bo] 236 (0, 0)) ∧ goesC f (a, s) (c, (t, b)) = lessB tO bo t b) := ⟨hAV, hKV, hsV, hv0, hv1, hv2, hg⟩
    have x1 : V.cell? ⟨S + 1, 1, none⟩ = some (.int .i64 t) := by simp [World.cell?, hv1]
    have x2 : V.cell? ⟨S + 1, 2, none⟩ = some (.int .i64 b) := by simp [World.cell?, hv1]
    have y1 : V.cell? ⟨S + 2, 1, none⟩ = some (.int .i64 tO) := by simp [World.cell?, hv2]
    have y2 : V.cell? ⟨S + 2, 2, none⟩ = some (.int .i64 bo) := by simp [World.cell?, hv2]
    clear hA hKU hu0 hu1 hAZ hbZ h hg hbV hv0 hv1 hv2 hKV hAV hsV
    subst hZ
    go_enter Tryz.func195, Tryz.ntmps195
    go_wp2_with fail
    rw [← hU, ← hS]
    have HS : Aside (S = w.heap.size) := hS
    clear hU hS
    go_region
    all_goals
      rw [← hV]
      clear l0 l1 c0 c1 k0 k1 j0 j1 hV
      go_wp2_with fail
      refine (less_any tO bo t b _).mono ?_
      rintro e w3 ⟨rfl, hb3⟩
      have hA3 : CellsAt w3 bc bm n f := HA.out.1.later hb3
      have hK3 : Keeps (fun _ => False) w w3 := HA.out.2.1.then (keeps_of_below hb3) (fun i hi e => by have := HA.out.2.1.size; omega)
      cases hl : lessB tO bo t b with
      | false =>
        have HP : Aside (CPutOk w bc bm n f ((a, s), (c, (t, b))) w3) := by
          have : setC f ((a, s), (c, (t, b))) = f := setC_stays (HA.out.2.2.2.2.2.2.trans hl)
          exact ⟨by rw [this]; exact hA3.mono (Nat.le_succ n), hK3.mono (fun _ _ e => e.elim)⟩
        clear hA3 hK3 hb3
        go_wp2
        go_ret
        exact ⟨by rw [hl]; rfl, HP.out⟩
      | true =>
        obtain ⟨w2, hrun, hM2, hT2⟩ := (hA3.later (Below.refl _ _).drew).map.store (by simp only [maxLen]; omega) hk (c, (t, b))
        have HP : Aside (CPutOk w bc bm n f ((a, s), (c, (t, b))) w2) := by
          have hKV := keeps_of_grown hT2.grown
          refine ⟨⟨?_, ?_⟩, ?_⟩
          · rw [hKV.block bc hA3.lt.1 (fun e => hA3.ne (by simpa using e))]
            exact hA3.cell
          · have : setC f ((a, s), (c, (t, b))) = fun x => if x = (a, s) then some (c, (t, b)) else f x := setC_goes (HA.out.2.2.2.2.2.2.trans hl)
            rw [this]
            exact hM2
          · exact ((hK3.mono (fun _ _ e => e.elim)).drew).then hKV (fun i hi e => by simpa using e)
        have c3 := hA3.c0
        have hs3 := HA.out.2.2.1
        have k0 : w3.cell? ⟨S, 0, none⟩ = some (.int .i64 a) := (hb3.cell (p := ⟨S, 0, none⟩) (by dsimp only; omega)).trans (by simp [World.cell?, HA.out.2.2.2.1])
        have k1 : w3.cell? ⟨S, 1, none⟩ = some (.string s) := (hb3.cell (p := ⟨S, 1, none⟩) (by dsimp only; omega)).trans (by simp [World.cell?, HA.out.2.2.2.1])
        have m0 : w3.cell? ⟨S + 1, 0, none⟩ = some (.string c) := (hb3.cell (p := ⟨S + 1, 0, none⟩) (by dsimp only; omega)).trans (by simp [World.cell?, HA.out.2.2.2.2.1])
        have m1 : w3.cell? ⟨S + 1, 1, none⟩ = some (.int .i64 t) := (hb3.cell (p := ⟨S + 1, 1, none⟩) (by dsimp only; omega)).trans (by simp [World.cell?, HA.out.2.2.2.2.1])
        have m2 : w3.cell? ⟨S + 1, 2, none⟩ = some (.int .i64 b) := (hb3.cell (p := ⟨S + 1, 2, none⟩) (by dsimp only; omega)).trans (by simp [World.cell?, HA.out.2.2.2.2.1])
        unfold encK encC at hrun
        dsimp only at hrun
        clear hA3 hK3 hb3 hM2 hT2 hs3
        go_wp2_with fail
        go_region
        all_goals
          go_wp2
          go_ret
          exact ⟨by rw [hl]; rfl, HP.out⟩
end Go.Proofs.YtehighgebbdenaaGreatDoor
end
section
set_option linter.unusedVariables false
namespace Go.Proofs.YtehighgebbdenaaGreatDoor
open Go.RowKit
open scoped Classical
structure Kept (c : Nat → Nat) (i : Nat) (w : World) (c' : Nat → Nat) (w' : World) : Prop where
  block : ∀ k, k < w.heap.size → c k = i → w'.heap[k]? = w.heap[k]?
  hue : ∀ k, k < w.heap.size → c' k = c k
def hueOf (nd : Int) : Nat := 20 + nd.toNat
def RepCell (w : World) (br : Nat) (T by_ : Int) (kv : Nat → Value) (bt bx bc : Nat) : Prop := w.heap[br]? = some (.cells #[.int .i64 T, .int .i64 by_, kv 0, kv 1, kv 2, kv 3, .pointer (some ⟨bt, 0, none⟩), .map (some bx), .pointer (some ⟨bc, 0, none⟩)] 70 (0, 0))
theorem RepCell.lt {w : World} {br : Nat} {T by_ : Int} {kv : Nat → Value} {bt bx bc : Nat} (h : RepCell w br T by_ kv bt bx bc) : br < w.heap.size := (Array.getElem?_eq_some_iff.1 h).1
theorem RepCell.same {w w' : World} {br : Nat} {T by_ : Int} {kv : Nat → Value} {bt bx bc : Nat} (h : RepCell w br T by_ kv bt bx bc) (e : w'.heap[br]? = w.heap[br]?) : RepCell w' br T by_ kv bt bx bc := e.trans h
theorem RepCell.c0 {w : World} {br : Nat} {T by_ : Int} {kv : Nat → Value} {bt bx bc : Nat} (h : RepCell w br T by_ kv bt bx bc) : w.cell? ⟨br, 0, none⟩ = some (.int .i64 T) := by unfold RepCell at h; simp [World.cell?, h]
theorem RepCell.c1 {w : World} {br : Nat} {T by_ : Int} {kv : Nat → Value} {bt bx bc : Nat} (h : RepCell w br T by_ kv bt bx bc) : w.cell? ⟨br, 1, none⟩ = some (.int .i64 by_) := by unfold RepCell at h; simp [World.cell?, h]
theorem RepCell.c2 {w : World} {br : Nat} {T by_ : Int} {kv : Nat → Value} {bt bx bc : Nat} (h : RepCell w br T by_ kv bt bx bc) : w.cell? ⟨br, 2, none⟩ = some (kv 0) := by unfold RepCell at h; simp [World.cell?, h]
theorem RepCell.c3 {w : World} {br : Nat} {T by_ : Int} {kv : Nat → Value} {bt bx bc : Nat} (h : RepCell w br T by_ kv bt bx bc) : w.cell? ⟨br, 3, none⟩ = some (kv 1) := by unfold RepCell at h; simp [World.cell?, h]
theorem RepCell.c4 {w : World} {br : Nat} {T by_ : Int} {kv : Nat → Value} {bt bx bc : Nat} (h : RepCell w br T by_ kv bt bx bc) : w.cell? ⟨br, 4, none⟩ = some (kv 2) := by unfold RepCell at h; simp [World.cell?, h]
theorem RepCell.c5 {w : World} {br : Nat} {T by_ : Int} {kv : Nat → Value} {bt bx bc : Nat} (h : RepCell w br T by_ kv bt bx bc) : w.cell? ⟨br, 5, none⟩ = some (kv 3) := by unfold RepCell at h; simp [World.cell?, h]
theorem RepCell.c6 {w : World} {br : Nat} {T by_ : Int} {kv : Nat → Value} {bt bx bc : Nat} (h : RepCell w br T by_ kv bt bx bc) : w.cell? ⟨br, 6, none⟩ = some (.pointer (some ⟨bt, 0, none⟩)) := by unfold RepCell at h; simp [World.cell?, h]
theorem RepCell.c7 {w : World} {br : Nat} {T by_ : Int} {kv : Nat → Value} {bt bx bc : Nat} (h : RepCell w br T by_ kv bt bx bc) : w.cell? ⟨br, 7, none⟩ = some (.map (some bx)) := by unfold RepCell at h; simp [World.cell?, h]
theorem RepCell.c8 {w : World} {br : Nat} {T by_ : Int} {kv : Nat → Value} {bt bx bc : Nat} (h : RepCell w br T by_ kv bt bx bc) : w.cell? ⟨br, 8, none⟩ = some (.pointer (some ⟨bc, 0, none⟩)) := by unfold RepCell at h; simp [World.cell?, h]
theorem RepCell.fz {w : World} {br : Nat} {T by_ : Int} {kv : Nat → Value} {bt bx bc : Nat} (h : RepCell w br T by_ kv bt bx bc) (o : Nat) : w.frozen? ⟨br, o, none⟩ = false := by unfold RepCell at h; simp [World.frozen?, h]
def RowsAt (w : World) (c : Nat → Nat) (kv : Nat → Value) (R : Rws) : Prop := ∀ i, i < 4 → w.ownsRow 0 38 8 (kv i) (R i).length (cellsOf (R i)) ∧ ∀ g, (kv i).ownBlock = some g → c g = 10 + i
theorem RowsAt.one {w w' : World} {c c' : Nat → Nat} {kv : Nat → Value} {R : Rws} (h : RowsAt w c kv R) {i : Nat} (hi : i < 4) (hk : Kept c (10 + i) w c' w') : w'.ownsRow 0 38 8 (kv i) (R i).length (cellsOf (R i)) ∧ ∀ g, (kv i).ownBlock = some g → c' g = 10 + i := by
  obtain ⟨h1, h2⟩ := h i hi
  refine ⟨owns_same h1 (fun g hg => hk.block g (h1.lt g hg).2 (h2 g hg)), fun g hg => ?_⟩
  rw [hk.hue g (h1.lt g hg).2]
  exact h2 g hg
theorem RowsAt.kept {w w' : World} {c c' : Nat → Nat} {kv : Nat → Value} {R : Rws} (h : RowsAt w c kv R) (hk : ∀ i, i < 4 → Kept c (10 + i) w c' w') : RowsAt w' c' kv R := fun i hi => h.one hi (hk i hi)
theorem RowsAt.ops {w : World} {c : Nat → Nat} {kv : Nat → Value} {R : Rws} (h : RowsAt w c kv R) {i : Nat} (hi : i < 4) : OpsAt w (kv i) (R i) := ownsOps (h i hi).1
def TreeC (w : World) (c : Nat → Nat) (bt : Nat) (A : List OpX) : Prop := ∃ bm v ms, TreeAt 0 w bt bm v ms ∧ ms.Perm (movsO A) ∧ c bt = 2 ∧ c bm = 2 ∧ ∀ g, v.ownBlock = some g → c g = 2
theorem TreeC.kept {w w' : World} {c c' : Nat → Nat} {bt : Nat} {A : List OpX} (h : TreeC w c bt A) (hk : Kept c 2 w c' w') : TreeC w' c' bt A := by
  obtain ⟨bm, v, ms, h1, h2, h3, h4, h5⟩ := h
  obtain ⟨l1, l2, l3⟩ := h1.lt
  exact ⟨bm, v, ms, h1.same (hk.block _ l1 h3) (hk.block _ l2 h4) (fun g hg => hk.block g (l3 g hg) (h5 g hg)), h2, (hk.hue _ l1).trans h3, (hk.hue _ l2).trans h4, fun g hg => (hk.hue g (l3 g hg)).trans (h5 g hg)⟩
theorem TreeC.perm {w : World} {c : Nat → Nat} {bt : Nat} {A B : List OpX} (h : TreeC w c bt A) (e : A.Perm B) : TreeC w c bt B := by
  obtain ⟨bm, v, ms, h1, h2, h3⟩ := h
  exact ⟨bm, v, ms, h1, h2.trans (e.filterMap _), h3⟩
def LineC (w : World) (c : Nat → Nat) (p : Nat) (nd : Int) (A : List OpX) : Prop := ∃ v L, LineAt (p + 1) w p v L ∧ LineIs A nd L ∧ c p = hueOf nd ∧ ∀ g, v.ownBlock = some g → c g = hueOf nd
theorem LineAt.kin {base : Nat} {w : World} {p : Nat} {v : Value} {L : List Ltr} (h : LineAt base w p v L) {g : Nat} (hg : v.ownBlock = some g) : g < w.heap.size := (h.row.lt g hg).2
theorem LineC.kept {w w' : World} {c c' : Nat → Nat} {p : Nat} {nd : Int} {A : List OpX} (h : LineC w c p nd A) (hk : Kept c (hueOf nd) w c' w') : LineC w' c' p nd A := by
  obtain ⟨v, L, h1, h2, h3, h4⟩ := h
  refine ⟨v, L, ⟨(hk.block p h1.lt h3).trans h1.cell, ownsSame h1.row (fun g hg => hk.block g (h1.kin hg) (h4 g hg)), h1.low, h1.nodup, h1.pos, h1.small⟩, h2, (hk.hue _ h1.lt).trans h3, fun g hg => (hk.hue g (h1.kin hg)).trans (h4 g hg)⟩
def TextC (w : World) (c : Nat → Nat) (bx : Nat) (A : List OpX) : Prop := ∃ n tx, n ≤ A.length ∧ TMapAt w bx n tx ∧ c bx = 3 ∧ (∀ nd, (tx nd).isSome = true ↔ KnownN A nd) ∧ ∀ nd p, tx nd = some p → LineC w c p nd A
theorem TextC.kept {w w' : World} {c c' : Nat → Nat} {bx : Nat} {A : List OpX} (h : TextC w c bx A) (hk : Kept c 3 w c' w') (hl : ∀ nd, KnownN A nd → Kept c (hueOf nd) w c' w') : TextC w' c' bx A := by
  obtain ⟨n, tx, h1, h2, h3, h4, h5⟩ := h
  exact ⟨n, tx, h1, h2.same (hk.block _ h2.lt h3), (hk.hue _ h2.lt).trans h3, h4, fun nd p hp => (h5 nd p hp).kept (hl nd ((h4 nd).1 (by rw [hp]; rfl)))⟩
theorem TextC.perm {w : World} {c : Nat → Nat} {bx : Nat} {A B : List OpX} (h : TextC w c bx A) (e : A.Perm B) : TextC w c bx B := by
  obtain ⟨n, tx, h1, h2, h3, h4, h5⟩ := h
  refine ⟨n, tx, by rw [← e.length_eq]; exact h1, h2, h3, fun nd => (h4 nd).trans ⟨fun q => q.mono (fun x hx => e.mem_iff.1 hx), fun q => q.mono (fun x hx => e.mem_iff.2 hx)⟩, fun nd p hp => ?_⟩
  obtain ⟨v, L, k1, k2, k3⟩ := h5 nd p hp
  exact ⟨v, L, k1, k2.perm e, k3⟩
def CellC (w : World) (c : Nat → Nat) (bc : Nat) (A : List OpX) : Prop := ∃ cm A', CellsAt w bc cm A.length (madeO A') ∧ A'.Perm A ∧ c bc = 4 ∧ c cm = 4
theorem CellC.kept {w w' : World} {c c' : Nat → Nat} {bc : Nat} {A : List OpX} (h : CellC w c bc A) (hk : Kept c 4 w c' w') : CellC w' c' bc A := by
  obtain ⟨cm, A', h1, h2, h3, h4⟩ := h
  exact ⟨cm, A', h1.same (hk.block _ h1.lt.1 h3) (hk.block _ h1.lt.2 h4), h2, (hk.hue _ h1.lt.1).trans h3, (hk.hue _ h1.lt.2).trans h4⟩
theorem CellC.perm {w : World} {c : Nat → Nat} {bc : Nat} {A B : List OpX} (h : CellC w c bc A) (e : A.Perm B) : CellC w c bc B := by
  obtain ⟨cm, A', h1, h2, h3⟩ := h
  exact ⟨cm, A', by rw [← e.length_eq]; exact h1, h2.trans e, h3⟩
structure RepMid (w : World) (c : Nat → Nat) (br : Nat) (T by_ : Int) (kv : Nat → Value) (bt bx bc : Nat) (R : Rws) (A : List OpX) : Prop where
  cell : RepCell w br T by_ kv bt bx bc
  hue : c br = 1
  rows : RowsAt w c kv R
  tree : TreeC w c bt A
  text : TextC w c bx A
  marks : CellC w c bc A
  time : timeO A T
theorem RepMid.kept {w w' : World} {c c' : Nat → Nat} {br : Nat} {T by_ : Int} {kv : Nat → Value} {bt bx bc : Nat} {R : Rws} {A : List OpX} (h : RepMid w c br T by_ kv bt bx bc R A) (hk : ∀ i, i ≠ 0 → Kept c i w c' w') : RepMid w' c' br T by_ kv bt bx bc R A := by
  have k1 := hk 1 (by omega)
  exact ⟨h.cell.same (k1.block _ h.cell.lt h.hue), (k1.hue _ h.cell.lt).trans h.hue, h.rows.kept (fun i _ => hk _ (by omega)), h.tree.kept (hk 2 (by omega)), h.text.kept (hk 3 (by omega)) (fun nd _ => hk _ (by unfold hueOf; omega)), h.marks.kept (hk 4 (by omega)), h.time⟩
theorem RepMid.later {w w' : World} {c : Nat → Nat} {br : Nat} {T by_ : Int} {kv : Nat → Value} {bt bx bc : Nat} {R : Rws} {A : List OpX} (h : RepMid w c br T by_ kv bt bx bc R A) (hb : Below w.heap.size w w') : RepMid w' c br T by_ kv bt bx bc R A :=
  h.kept (fun i _ => ⟨fun k hk _ => hb.block k hk, fun k _ => rfl⟩)
def RepAt (w : World) (c : Nat → Nat) (br : Nat) (by_ : Int) (R : Rws) : Prop := ∃ T kv bt bx bc A, RepMid w c br T by_ kv bt bx bc R A ∧ A.Perm (allR R) ∧ RowsK R ∧ 0 ≤ by_ ∧ by_ < 4
theorem RepAt.kept {w w' : World} {c c' : Nat → Nat} {br : Nat} {by_ : Int} {R : Rws} (h : RepAt w c br by_ R) (hk : ∀ i, i ≠ 0 → Kept c i w c' w') : RepAt w' c' br by_ R := by
  obtain ⟨T, kv, bt, bx, bc, A, h1, h2⟩ := h
  exact ⟨T, kv, bt, bx, bc, A, h1.kept hk, h2⟩
theorem RepAt.later {w w' : World} {c : Nat → Nat} {br : Nat} {by_ : Int} {R : Rws} (h : RepAt w c br by_ R) (hb : Below w.heap.size w w') : RepAt w' c br by_ R :=
  h.kept (fun i _ => ⟨fun k hk _ => hb.block k hk, fun k _ => rfl⟩)
structure Acts (w : World) (c : Nat → Nat) (w' : World) (c' : Nat → Nat) : Prop where
  keeps : Keeps (fun k => c k ≠ 0) w w'
  hue : ∀ k, k < w.heap.size → c' k = c k
theorem Acts.refl (w : World) (c : Nat → Nat) : Acts w c w c := ⟨Keeps.refl _ _, fun _ _ => rfl⟩
theorem Acts.of_below {w w' : World} (c : Nat → Nat) (hb : Below w.heap.size w w') : Acts w c w' c := ⟨(keeps_of_below hb).mono (fun k hk e => absurd hk (by omega)), fun _ _ => rfl⟩
theorem Acts.trans {w w1 w2 : World} {c c1 c2 : Nat → Nat} (h : Acts w c w1 c1) (k : Acts w1 c1 w2 c2) : Acts w c w2 c2 :=
  ⟨h.keeps.then k.keeps (fun i hi e => by rw [h.hue i hi] at e; exact e), fun i hi => (k.hue i (Nat.lt_of_lt_of_le hi h.keeps.size)).trans (h.hue i hi)⟩
end Go.Proofs.YtehighgebbdenaaGreatDoor
end
section
namespace Go.Proofs.YtehighgebbdenaaGreatDoor
open Go
section
variable {P : Program} {ops : Array Oper} {Q : Exit → Act → World → Prop} {md : Region.Mode} {S : World → Prop} {z : Nat}
def waitsOn (md : Region.Mode) (ops : Array Oper) (z i : Nat) : Bool := match ops[z]? with
  | some oz => oz.after.any fun e => Region.binds md e && e.on == i
  | none => false
theorem waitsOn_spec {i : Nat} (h : waitsOn md ops z i = true) {oz : Oper} (hz : ops[z]? = some oz) : ∃ e ∈ oz.after, Region.binds md e = true ∧ e.on = i := by
  unfold waitsOn at h
  rw [hz] at h
  obtain ⟨e, he, h2⟩ := Array.any_eq_true'.1 h
  rw [Bool.and_eq_true] at h2
  exact ⟨e, he, h2.1, by simpa using h2.2⟩
def wpAnyZ (P : Program) (md : Region.Mode) (ops : Array Oper) (Q : Exit → Act → World → Prop) (S : World → Prop) (z : Nat) : Nat → Array Bool → Act → World → Prop
  | 0, listed, a, w => Region.ready md ops listed = [] ∧ Q .normal a w
  | fuel + 1, listed, a, w =>
    (Region.ready md ops listed = [] → Q .normal a w) ∧
    ∀ i ∈ Region.ready md ops listed, wpOp P ops Q i (fun a' w' => (S w' ∨ (listed.setIfInBounds i true).getD z false = true) ∧ wpAnyZ P md ops Q S z fuel (listed.setIfInBounds i true) a' w') a w
theorem wpAny_of_Z : ∀ (fuel : Nat) (listed : Array Bool) (a : Act) (w : World), wpAnyZ P md ops Q S z fuel listed a w → wpAny P md ops Q fuel listed a w
  | 0, _, _, _, h => h
  | fuel + 1, _, _, _, h => ⟨h.1, fun i hi => wpOp_mono (fun a' w' h' => wpAny_of_Z fuel _ a' w' h'.2) (h.2 i hi)⟩
theorem getD_set_other {l : Array Bool} {i z : Nat} (h : i ≠ z) : (l.setIfInBounds i true).getD z false = l.getD z false := by
  simp only [Array.getD_eq_getD_getElem?]
  rw [Array.getElem?_setIfInBounds_ne h]
theorem getD_set_some {l : Array Bool} {i z : Nat} (h : l.getD z false = true) : (l.setIfInBounds i true).getD z false = true := by
  by_cases e : i = z
  · subst e
    have hl : i < l.size := by
      rcases Nat.lt_or_ge i l.size with h' | h'
      · exact h'
      · simp [Array.getElem?_eq_none h'] at h
    simp [hl]
  · rw [getD_set_other e]; exact h
theorem wpAnyZ_first {T : World → Prop} {i : Nat} (hiz : i ≠ z) {oi : Oper} {v : Value} (hi : ops[i]? = some oi) (hsel : ∀ (j : Nat) (o : Oper) cs b, ops[j]? = some o → o.op ≠ .select cs b)
    (hQ : ∀ c a w, Q (.panic c) (a.put oi.dst v) w → Q (.panic c) a w) (hT : (∀ w, T w) ∨ ((∀ w, S w → T w) ∧ waitsOn md ops z i = true)) :
    ∀ (fuel : Nat) (listed : Array Bool) (a : Act) (w : World),
      (∀ j oj, ops[j]? = some oj → j ≠ i → listed.getD j true = false → (∀ e ∈ oj.after, Region.binds md e = true → e.on ≠ i) → oi.apart ops oj = true) →
      i ∈ Region.ready md ops listed → YieldsIf P ops T oi v a → (S w ∨ listed.getD z false = true) → ((∀ w, T w) ∨ listed.getD z false = false) →
      wpAnyZ P md ops Q S z fuel (listed.setIfInBounds i true) (a.put oi.dst v) w → wpAnyZ P md ops Q S z (fuel + 1) listed a w := by
  have hTw : ∀ (listed : Array Bool) (w : World), (S w ∨ listed.getD z false = true) → ((∀ w, T w) ∨ listed.getD z false = false) → T w := fun listed w h1 h2 => by
    rcases hT with hT | hT
    · exact hT w
    · rcases h2 with h2 | h2
      · exact h2 w
      · rcases h1 with h1 | h1
        · exact hT.1 w h1
        · rw [h2] at h1; cases h1
  intro fuel
  induction fuel with
  | zero =>
    intro listed a w _ hr hy hS hz H
    refine ⟨fun h => (by rw [h] at hr; cases hr), fun j hj => ?_⟩
    by_cases hji : j = i
    · subst hji; exact hy.wpOp hi (hTw listed w hS hz) ⟨hS.imp id getD_set_some, H⟩
    · have := ready_mono hj hji
      rw [H.1] at this
      cases this
  | succ fuel ih =>
    intro listed a w hfree hr hy hS hz H
    refine ⟨fun h => (by rw [h] at hr; cases hr), fun j hj => ?_⟩
    by_cases hji : j = i
    · subst hji; exact hy.wpOp hi (hTw listed w hS hz) ⟨hS.imp id getD_set_some, H⟩
    · have h1 := H.2 j (ready_mono hj hji)
      obtain ⟨hjun, oj, hoj, hall⟩ := mem_ready.1 hj
      have hnot : ∀ e ∈ oj.after, Region.binds md e = true → e.on ≠ i := fun e he hb heq => by
        have h1 := hall e he hb
        have h0 := (mem_ready.1 hr).1
        rw [heq] at h1
        rcases Nat.lt_or_ge i listed.size with h' | h'
        · simp [h'] at h0 h1; rw [h0] at h1; cases h1
        · simp [Array.getElem?_eq_none h'] at h1
      have hz' : (∀ w, T w) ∨ (listed.setIfInBounds j true).getD z false = false := by
        rcases hT with hT | ⟨_, hw⟩
        · exact .inl hT
        · rcases hz with hz | hz
          · exact .inl hz
          · right
            rw [getD_set_other]
            · exact hz
            · intro e
              subst e
              obtain ⟨x, hx, hb, ho⟩ := waitsOn_spec hw hoj
              exact hnot x hx hb ho
      have h2 := wpOp_putIf hoj (hfree j oj hoj hji hjun hnot) (fun cs b => hsel i oi cs b hi) (fun cs b => hsel j oj cs b hoj) hQ hy h1
      have hfree' : ∀ k ok, ops[k]? = some ok → k ≠ i → (listed.setIfInBounds j true).getD k true = false →
          (∀ e ∈ ok.after, Region.binds md e = true → e.on ≠ i) → oi.apart ops ok = true := fun k ok hk hki hun hno => by
        refine hfree k ok hk hki ?_ hno
        by_cases hjk : j = k
        · subst hjk; exact hjun
        · rw [getD_set_ne true hjk] at hun; exact hun
      refine wpOp_mono (fun a' w' h3 => ?_) h2
      have hC : S w' ∨ (listed.setIfInBounds j true).getD z false = true := h3.2.1.imp id (fun h => by
        rw [Array.setIfInBounds_comm _ _ (Ne.symm hji), getD_set_other hiz] at h
        exact h)
      refine ⟨hC, ih (listed.setIfInBounds j true) a' w' hfree' (ready_mono hr (Ne.symm hji)) h3.1 hC hz' ?_⟩
      rw [Array.setIfInBounds_comm _ _ hji]
      exact h3.2.2
theorem wpAnyZ_take {i : Nat} (hiz : i ≠ z) (hzz : waitsOn md ops z i = true) {oi : Oper} {v : Value} {fuel : Nat} {listed : Array Bool} {a : Act} {w : World} (hi : ops[i]? = some oi)
    (hs : Region.noSelect ops = true) (hf : Region.free md ops listed i = true) (hr : (Region.ready md ops listed).contains i = true) (hzl : listed.getD z false = false)
    (hQ : ∀ c a w, Q (.panic c) (a.put oi.dst v) w → Q (.panic c) a w) (hy : YieldsIf P ops S oi v a) (hS : S w)
    (h : wpAnyZ P md ops Q S z fuel (listed.setIfInBounds i true) (a.put oi.dst v) w) : wpAnyZ P md ops Q S z (fuel + 1) listed a w :=
  wpAnyZ_first hiz hi (Region.noSelect_spec hs) hQ (.inr ⟨fun _ h => h, hzz⟩) fuel listed a w (Region.free_spec hi hf) (by simpa using hr) hy (.inl hS) (.inr hzl) h
theorem wpAnyZ_free {i : Nat} (hiz : i ≠ z) {oi : Oper} {v : Value} {fuel : Nat} {listed : Array Bool} {a : Act} {w : World} (hi : ops[i]? = some oi)
    (hs : Region.noSelect ops = true) (hf : Region.free md ops listed i = true) (hr : (Region.ready md ops listed).contains i = true)
    (hQ : ∀ c a w, Q (.panic c) (a.put oi.dst v) w → Q (.panic c) a w) (hy : YieldsIf P ops (fun _ => True) oi v a) (hS : S w)
    (h : wpAnyZ P md ops Q S z fuel (listed.setIfInBounds i true) (a.put oi.dst v) w) : wpAnyZ P md ops Q S z (fuel + 1) listed a w :=
  wpAnyZ_first hiz hi (Region.noSelect_spec hs) hQ (.inl fun _ => trivial) fuel listed a w (Region.free_spec hi hf) (by simpa using hr) hy (.inl hS) (.inl fun _ => trivial) h
theorem wpAnyZ_one {i : Nat} {o : Oper} {fuel : Nat} {listed : Array Bool} {a : Act} {w : World} (hr : Region.ready md ops listed = [i]) (ho : ops[i]? = some o)
    (h : ∀ K : Act → World → Prop, (∀ a' w', (S w' ∨ i = z ∧ z < listed.size) → wpAnyZ P md ops Q S z fuel (listed.setIfInBounds i true) a' w' → K a' w') → if Region.wanted o (yielded ops a.tmps) = true then Oper.wp P o a w K Q else K (a.put o.dst undef) w) : wpAnyZ P md ops Q S z (fuel + 1) listed a w := by
  refine ⟨fun h0 => (by rw [h0] at hr; cases hr), fun j hj => ?_⟩
  rw [hr] at hj
  simp only [List.mem_singleton] at hj
  subst hj
  have := h (fun a' w' => (S w' ∨ (listed.setIfInBounds j true).getD z false = true) ∧ wpAnyZ P md ops Q S z fuel (listed.setIfInBounds j true) a' w') (fun a' w' h1 h2 => ⟨h1.imp id (fun h => by
    obtain ⟨e, hl⟩ := h
    subst e
    simp [hl]), h2⟩)
  unfold wpOp
  simp only [ho]
  split
  · rename_i hw
    rw [if_pos hw] at this
    exact .inl this
  · rename_i hw
    rw [if_neg hw] at this
    exact this
theorem wpAnyZ_done {listed : Array Bool} {a : Act} {w : World} (hr : Region.ready md ops listed = []) (h : Q .normal a w) :
    ∀ fuel, wpAnyZ P md ops Q S z fuel listed a w
  | 0 => ⟨hr, h⟩
  | _ + 1 => ⟨fun _ => h, by rw [hr]; simp⟩
theorem wp_region_Z {id : Nat} {a : Act} {w : World} (hm : P.follows .mixedOrders = true) (hS : S w.drew)
    (h : S w.drew → wpAnyZ P .any ops Q S z ops.size (Array.replicate ops.size false) a w.drew) : (Code.region id ops true).wp P Q a w :=
  wp_region_any hm (wpAny_of_Z _ _ _ _ (h hS))
end
end Go.Proofs.YtehighgebbdenaaGreatDoor
namespace Go.Proofs.YtehighgebbdenaaGreatDoor
open Go
section
variable {P : Program} {ops : Array Oper} {Q : Exit → Act → World → Prop} {md : Region.Mode} {S : World → Prop}
theorem oper_in_round {l n : Nat} {o : Oper} (hd : ∀ c, o.op ≠ .defer c) {a : Act} {w : World} {K : Act → World → Prop} (h : o.wp P a w K Q) : o.wpIn (Fence.wide.inRound l) n P a w K Q := by
  refine ⟨fun _ _ => trivial, ?_⟩
  have e : Oper.semAt (Fence.wide.inRound l).round a.eval o = execOp a.eval o := Oper.semAt_some l a.eval o hd
  rw [e]
  unfold Oper.wp at h
  generalize (execOp a.eval o).run P w = r at *
  cases r with
  | ok x w' =>
    cases x <;> simp only [Oper.upon, Oper.uponIn] at h ⊢
    case value v => exact h
    case skip => exact h
    case defer d => exact h
    case enter f args => exact ⟨fun h => (by cases h), CallsIn.inRound l (callsIn_wide.2 h)⟩
    case row row args =>
      refine ⟨fun h => (by cases h), fun c cs _ => ?_⟩
      obtain ⟨v, w'', r, s⟩ := h c cs
      exact ⟨v, w'', r, stepsIn_wide.2 s⟩
  | halt x w' =>
    cases x <;> simp only [Oper.upon, Oper.uponIn] at h ⊢
    case panic u => exact h
def noDefer (ops : Array Oper) : Bool := ops.all fun o => match o.op with | .defer _ => false | _ => true
theorem noDefer_spec (h : noDefer ops = true) {i : Nat} {o : Oper} (hi : ops[i]? = some o) : ∀ c, o.op ≠ .defer c := by
  intro c e
  obtain ⟨hl, he⟩ := Array.getElem?_eq_some_iff.1 hi
  have := (Array.all_eq_true.1 h) i hl
  rw [he, e] at this
  cases this
theorem any_in_round {l n : Nat} (hd : noDefer ops = true) (hno : ¬ LetsOut Q) : ∀ (fuel : Nat) (listed : Array Bool) (a : Act) (w : World), wpAny P md ops Q fuel listed a w → wpAnyIn (Fence.wide.inRound l) n P md ops Q fuel listed a w
  | 0, _, _, _, h => h
  | fuel + 1, listed, a, w, h => by
    refine ⟨h.1, fun i hi => ?_⟩
    have h1 := h.2 i hi
    unfold wpOp at h1
    unfold wpOpIn
    cases ho : ops[i]? with
    | none =>
      rw [ho] at h1
      exact any_in_round hd hno fuel _ a w h1
    | some o =>
      rw [ho] at h1
      dsimp only at h1 ⊢
      split
      · rename_i hw
        rw [if_pos hw] at h1
        rcases h1 with h1 | h1
        · have h2 := oper_in_round (l := l) (n := n) (noDefer_spec hd ho) h1
          have h3 := wpOpIn_mono (F := Fence.wide.inRound l) (n := n) (P := P) (ops := ops) (Q := Q) (i := i) (a := a) (w := w) (fun a' w' h' => any_in_round (l := l) (n := n) hd hno fuel (listed.setIfInBounds i true) a' w' h') (K := wpAny P md ops Q fuel (listed.setIfInBounds i true)) (by unfold wpOpIn; rw [ho]; dsimp only; rw [if_pos hw]; exact h2)
          unfold wpOpIn at h3
          rw [ho] at h3
          dsimp only at h3
          rw [if_pos hw] at h3
          exact h3
        · exact absurd h1.2 hno
      · rename_i hw
        rw [if_neg hw] at h1
        exact ⟨fun _ _ => trivial, any_in_round hd hno fuel _ _ w h1⟩
theorem region_in_round {l n id : Nat} {a : Act} {w : World} (hm : P.follows .mixedOrders = true) (hd : noDefer ops = true) (hno : ¬ LetsOut Q) (hS : S w.drew)
    (h : S w.drew → wpAnyH P .any ops Q S ops.size (Array.replicate ops.size false) a w.drew) : (Code.region id ops true).wpIn (Fence.wide.inRound l) n P Q a w :=
  wpIn_region_any hm (any_in_round hd hno _ _ _ _ (wpAny_of_held _ _ _ _ (h hS)))
end
end Go.Proofs.YtehighgebbdenaaGreatDoor
end
section
namespace Go.Proofs.YtehighgebbdenaaGreatDoor
open Go.RowKit
theorem tdiv_neg_le (n : Int) (h : n < 0) : n.tdiv 4 ≤ 0 := by
  have e : n.tdiv 4 = -((-n).tdiv 4) := by rw [Int.neg_tdiv]; omega
  have e2 : (-n).tdiv 4 = (-n) / 4 := Int.tdiv_eq_ediv_of_nonneg (by omega)
  omega
set_option maxHeartbeats 400000 in
theorem of_no_neg (n : Int) (w : World) (u : TypeId) (x : Value) (hg : w.cell? ⟨2, 0, none⟩ = some (.iface u x)) (hz : 2 < w.heap.size) (h : n < 0) (h2 : -9223372036854775808 ≤ n) :
    Calls Tryz.prog 191 #[.int .i64 n] w fun e w' => e = .returned (.tuple #[.agg #[.int .i64 0, .int .i64 0], .iface u x]) ∧ Below w.heap.size w w' := by
  have hq := tdiv_neg_le n h
  go_enter Tryz.func191, Tryz.ntmps191
  go_wp2_with fail
  refine (check_no _ _ _ (.iface u x) (by rw [World.cell?_alloc_lt _ _ _ (by simp <;> omega), World.cell?_alloc_lt _ _ _ hz]; exact hg) (by simp <;> omega) (by omega)).mono ?_
  rintro e w1 ⟨rfl, hb⟩
  obtain ⟨hc, hf⟩ := bcell hb
  go_wp2
  have c0 : w1.cell? ⟨w.heap.size, 0, none⟩ = some (.int .i64 0) := by rw [hc _ _ (by simp; omega)]; simp [go_sem]
  have c1 : w1.cell? ⟨w.heap.size, 1, none⟩ = some (.int .i64 0) := by rw [hc _ _ (by simp; omega)]; simp [go_sem]
  refine bodyPost_ret (v := .tuple #[.agg #[.int .i64 0, .int .i64 0], .iface u x]) (by simp [results, Tryz.results191, go_sem, c0, c1]) rfl ⟨rfl, ?_⟩
  exact (((((Below.refl _ _).alloc (Nat.le_refl _) _).alloc (by simp) _).trans (hb.mono (by simp; omega))).setCell (by simp) _).setCell (by simp) _
set_option maxHeartbeats 400000 in
theorem of_no_pos (n : Int) (w : World) (u : TypeId) (x : Value) (hg : w.cell? ⟨2, 0, none⟩ = some (.iface u x)) (hz : 2 < w.heap.size) (h : 0 ≤ n) (h2 : n < 4 ∨ 4294967300 ≤ n) (h3 : n ≤ 9223372036854775807) :
    Calls Tryz.prog 191 #[.int .i64 n] w fun e w' => e = .returned (.tuple #[.agg #[.int .i64 0, .int .i64 0], .iface u x]) ∧ Below w.heap.size w w' := by
  have hq : ¬ (1 ≤ n / 4 ∧ n / 4 ≤ 1073741824 ∧ 0 ≤ n % 4 ∧ n % 4 < 4) := by omega
  have H : Hid (¬ (1 ≤ n / 4 ∧ n / 4 ≤ 1073741824 ∧ 0 ≤ n % 4 ∧ n % 4 < 4)) := hq
  clear hq h2
  go_enter Tryz.func191, Tryz.ntmps191
  go_wp2_with fail
  refine (check_no _ _ _ (.iface u x) (by rw [World.cell?_alloc_lt _ _ _ (by simp <;> omega), World.cell?_alloc_lt _ _ _ hz]; exact hg) (by simp <;> omega) H.out).mono ?_
  rintro e w1 ⟨rfl, hb⟩
  obtain ⟨hc, hf⟩ := bcell hb
  go_wp2
  have c0 : w1.cell? ⟨w.heap.size, 0, none⟩ = some (.int .i64 0) := by rw [hc _ _ (by simp; omega)]; simp [go_sem]
  have c1 : w1.cell? ⟨w.heap.size, 1, none⟩ = some (.int .i64 0) := by rw [hc _ _ (by simp; omega)]; simp [go_sem]
  refine bodyPost_ret (v := .tuple #[.agg #[.int .i64 0, .int .i64 0], .iface u x]) (by simp [results, Tryz.results191, go_sem, c0, c1]) rfl ⟨rfl, ?_⟩
  exact (((((Below.refl _ _).alloc (Nat.le_refl _) _).alloc (by simp) _).trans (hb.mono (by simp; omega))).setCell (by simp) _).setCell (by simp) _
theorem of_no (n : Int) (w : World) (u : TypeId) (x : Value) (hg : w.cell? ⟨2, 0, none⟩ = some (.iface u x)) (hz : 2 < w.heap.size) (h : n < 4 ∨ 4294967300 ≤ n) (h2 : -9223372036854775808 ≤ n) (h3 : n ≤ 9223372036854775807) :
    Calls Tryz.prog 191 #[.int .i64 n] w fun e w' => e = .returned (.tuple #[.agg #[.int .i64 0, .int .i64 0], .iface u x]) ∧ Below w.heap.size w w' := by
  by_cases hn : n < 0
  · exact of_no_neg n w u x hg hz hn h2
  · exact of_no_pos n w u x hg hz (by omega) h h3
end Go.Proofs.YtehighgebbdenaaGreatDoor
end
