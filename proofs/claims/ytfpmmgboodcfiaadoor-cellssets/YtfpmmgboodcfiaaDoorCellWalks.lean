/- Contracts of package cells: New, all, put, over the translation's bodies. -/
import Derived.Test.YtfpmmgboodcfiaaDoorCellColl
import Derived.Test.YtfpmmgboodcfiaaDoorRowOver
import Derived.Test.YtfpmmgboodcfiaaDoorStampLess
import Derived.Deep.LoopGhost
import Derived.Deep.QuietTactic
import Derived.BigQuiet
import Derived.WalkKit
import Derived.WalkSmall
import Derived.RegionTactic
import Derived.Laws.Pointers
import Derived.Carry
namespace Go.Proofs.YtfpmmgboodcfiaaDoor
open Go.RowKit Go.Maps

/-- Cells in their blocks. -/
structure CellsAt (w : World) (bc bm n : Nat) (f : CSta) : Prop where
  cell : w.heap[bc]? = some (.cells #[.map (some bm)] 56 (0, 0))
  map : CMapAt w bm n f
theorem CellsAt.c0 {w : World} {bc bm n : Nat} {f : CSta} (h : CellsAt w bc bm n f) : w.cell? ⟨bc, 0, none⟩ = some (.map (some bm)) := by simp [World.cell?, h.cell]
theorem CellsAt.lt {w : World} {bc bm n : Nat} {f : CSta} (h : CellsAt w bc bm n f) : bc < w.heap.size ∧ bm < w.heap.size := ⟨(Array.getElem?_eq_some_iff.1 h.cell).1, h.map.lt⟩
theorem CellsAt.ne {w : World} {bc bm n : Nat} {f : CSta} (h : CellsAt w bc bm n f) : bc ≠ bm := fun e => by
  obtain ⟨⟨D, ⟨es, clock, hb, _⟩, _⟩, _⟩ := h.map
  have := h.cell
  rw [e, hb] at this
  cases this
theorem CellsAt.same {w w' : World} {bc bm n : Nat} {f : CSta} (h : CellsAt w bc bm n f) (h1 : w'.heap[bc]? = w.heap[bc]?) (h2 : w'.heap[bm]? = w.heap[bm]?) : CellsAt w' bc bm n f := ⟨h1.trans h.cell, h.map.same h2⟩
theorem CellsAt.later {w w' : World} {bc bm n : Nat} {f : CSta} (h : CellsAt w bc bm n f) (hb : Below w.heap.size w w') : CellsAt w' bc bm n f := h.same (hb.block _ h.lt.1) (hb.block _ h.lt.2)
theorem CellsAt.mono {w : World} {bc bm n n' : Nat} {f : CSta} (h : CellsAt w bc bm n f) (hn : n ≤ n') : CellsAt w bc bm n' f := ⟨h.cell, h.map.mono hn⟩

set_option maxHeartbeats 400000 in
theorem cellsNew (w : World) : Calls Tryd.prog 7 #[] w fun e w' => e = .returned (.pointer (some ⟨w.heap.size + 1, 0, none⟩)) ∧ w' = (w.alloc (.map #[] 0)).alloc (.cells #[.map (some w.heap.size)] 56) := by
  have hmm := @run_makeMap Tryd.prog
  go_enter Tryd.func7, Tryd.ntmps7
  go_wp2
  go_ret
  exact ⟨rfl, rfl⟩
theorem new_cells (w : World) : Calls Tryd.prog 7 #[] w fun e w' => e = .returned (.pointer (some ⟨w.heap.size + 1, 0, none⟩)) ∧ w'.heap.size = w.heap.size + 2 ∧ CellsAt w' (w.heap.size + 1) w.heap.size 0 noC ∧ Below w.heap.size w w' := by
  refine (cellsNew w).mono ?_
  rintro e w' ⟨rfl, rfl⟩
  have hs : (w.alloc (.map #[] 0)).heap.size = w.heap.size + 1 := by simp
  refine ⟨rfl, by simp, ⟨?_, (cmapAt_made w).same (Below.heap_alloc _ _ _ (by simp))⟩, ((Below.refl _ w).alloc (Nat.le_refl _) _).alloc (by simp) _⟩
  rw [← hs]
  exact heap_alloc_new _ _

set_option maxHeartbeats 400000 in
theorem all_any (w : World) (bc bm : Nat) (h : w.cell? ⟨bc, 0, none⟩ = some (.map (some bm))) : Calls Tryd.prog 20 #[.pointer (some ⟨bc, 0, none⟩)] w fun e w' => e = .returned (.map (some bm)) ∧ w' = w := by
  go_enter Tryd.func20, Tryd.ntmps20
  go_wp2
  go_ret
  exact ⟨rfl, rfl⟩
set_option maxHeartbeats 400000 in
theorem all_nil (w : World) : Calls Tryd.prog 20 #[.pointer none] w fun e w' => e = .returned (.map none) ∧ w' = w := by
  go_enter Tryd.func20, Tryd.ntmps20
  go_wp2
  go_ret
  exact ⟨rfl, rfl⟩

theorem lessB_clt (a b : Int × Int) : lessB a.1 a.2 b.1 b.2 = decide (CLt a b) := by
  unfold lessB CLt
  by_cases h : a.1 = b.1
  · rw [if_pos h]
    simp [h]
  · rw [if_neg h]
    simp [h]

/-- What put leaves behind. -/
def PutOk (w : World) (bc bm n : Nat) (f : CSta) (m : CKey × CMark) (w' : World) : Prop := CellsAt w' bc bm (n + 1) (setC f m) ∧ Keeps (fun j => j = bm) w w'

set_option maxRecDepth 100000 in
set_option maxHeartbeats 2000000 in
theorem put_any (w : World) (bc bm n : Nat) (f : CSta) (a : Int) (s c : ByteArray) (t b : Int) (h : CellsAt w bc bm n f) (hn : n ≤ 1000000) (hk : WfK (a, s)) :
    Calls Tryd.prog 16 #[.pointer (some ⟨bc, 0, none⟩), .agg #[.int .i64 a, .string s], .agg #[.string c, .int .i64 t, .int .i64 b]] w fun e w' => e = .returned (.bool (goesC f (a, s) (c, (t, b)))) ∧ PutOk w bc bm n f ((a, s), (c, (t, b))) w' := by
  obtain ⟨S, hS⟩ : ∃ S, S = w.heap.size := ⟨_, rfl⟩
  obtain ⟨U, hU⟩ : ∃ U, U = (w.alloc (.cells #[.int .i64 a, .string s] 60)).alloc (.cells #[.string c, .int .i64 t, .int .i64 b] 62) := ⟨_, rfl⟩
  have hKU : Keeps (fun _ => False) w U := by rw [hU]; exact ((Keeps.refl _ w).alloc _).alloc _
  have hsU : U.heap.size = S + 2 := by rw [hU, hS]; simp
  have hu1 : U.heap[S + 1]? = some (.cells #[.string c, .int .i64 t, .int .i64 b] 62 (0, 0)) := by
    have := heap_alloc_new (w.alloc (.cells #[.int .i64 a, .string s] 60)) (.cells #[.string c, .int .i64 t, .int .i64 b] 62)
    rw [World.size_alloc] at this
    rw [hU, hS]
    exact this
  have hu0 : U.heap[S]? = some (.cells #[.int .i64 a, .string s] 60 (0, 0)) := by
    rw [hU, hS, Below.heap_alloc _ _ _ (by simp)]
    exact heap_alloc_new w _
  have hA : CellsAt U bc bm n f := h.same (hKU.block _ h.lt.1 (fun e => e)) (hKU.block _ h.lt.2 (fun e => e))
  obtain ⟨Z, hZ⟩ : ∃ Z, Z = U.alloc (.cells #[.string ⟨#[]⟩, .int .i64 0, .int .i64 0] 62) := ⟨_, rfl⟩
  have hbZ : Below U.heap.size U Z := by rw [hZ]; exact (Below.refl _ U).alloc (Nat.le_refl _) _
  have hAZ : CellsAt Z bc bm n f := hA.later hbZ
  have c0 : U.cell? ⟨bc, 0, none⟩ = some (.map (some bm)) := hA.c0
  have c1 := hAZ.c0
  have l0 := (hA.later (Below.refl _ U).drew).map.look hk
  have l1 := (hAZ.later (Below.refl _ Z).drew).map.look hk
  have k0 : U.cell? ⟨S, 0, none⟩ = some (.int .i64 a) := by simp [World.cell?, hu0]
  have k1 : U.cell? ⟨S, 1, none⟩ = some (.string s) := by simp [World.cell?, hu0]
  have j0 : Z.cell? ⟨S, 0, none⟩ = some (.int .i64 a) := (hbZ.cell (p := ⟨S, 0, none⟩) (by dsimp only; omega)).trans k0
  have j1 : Z.cell? ⟨S, 1, none⟩ = some (.string s) := (hbZ.cell (p := ⟨S, 1, none⟩) (by dsimp only; omega)).trans k1
  unfold encK at l0 l1
  cases hf : f (a, s) with
  | none =>
    have hg : goesC f (a, s) (c, (t, b)) = true := by unfold goesC; rw [hf]
    rw [hg]
    rw [hf] at l0 l1
    simp only [Option.getD_none, Option.isSome_none] at l0 l1
    unfold encC zeroC at l0 l1
    dsimp only at l0 l1
    have HA : Aside (CellsAt U bc bm n f ∧ Keeps (fun _ => False) w U ∧ U.heap.size = S + 2 ∧ U.heap[S]? = some (.cells #[.int .i64 a, .string s] 60 (0, 0)) ∧ U.heap[S + 1]? = some (.cells #[.string c, .int .i64 t, .int .i64 b] 62 (0, 0))) := ⟨hA, hKU, hsU, hu0, hu1⟩
    clear hA hKU hu0 hu1 hAZ hbZ h hg
    subst hZ
    go_enter Tryd.func16, Tryd.ntmps16
    go_wp2_with fail
    rw [← hU, ← hS]
    have HS : Aside (S = w.heap.size) := hS
    clear hU hS
    have hu1' := HA.out.2.2.2.2
    have hbV := (Below.refl U.heap.size U).alloc (Nat.le_refl _) (.cells #[.string ⟨#[]⟩, .int .i64 0, .int .i64 0] 62)
    have m0 : (U.alloc (.cells #[.string ⟨#[]⟩, .int .i64 0, .int .i64 0] 62)).cell? ⟨S + 1, 0, none⟩ = some (.string c) := (hbV.cell (p := ⟨S + 1, 0, none⟩) (by dsimp only; omega)).trans (by simp [World.cell?, hu1'])
    have m1 : (U.alloc (.cells #[.string ⟨#[]⟩, .int .i64 0, .int .i64 0] 62)).cell? ⟨S + 1, 1, none⟩ = some (.int .i64 t) := (hbV.cell (p := ⟨S + 1, 1, none⟩) (by dsimp only; omega)).trans (by simp [World.cell?, hu1'])
    have m2 : (U.alloc (.cells #[.string ⟨#[]⟩, .int .i64 0, .int .i64 0] 62)).cell? ⟨S + 1, 2, none⟩ = some (.int .i64 b) := (hbV.cell (p := ⟨S + 1, 2, none⟩) (by dsimp only; omega)).trans (by simp [World.cell?, hu1'])
    obtain ⟨w2, hrun, hM2, hT2⟩ := ((HA.out.1.later hbV).later (Below.refl _ _).drew |>.later (Below.refl _ _).drew).map.store (by simp only [maxLen]; omega) hk (c, (t, b))
    have HP : Aside (PutOk w bc bm n f ((a, s), (c, (t, b))) w2) := by
      have hKV := keeps_of_grown hT2.grown
      have hne := HA.out.1.ne
      have hlt := HA.out.1.lt
      have hs2 := hbV.size
      refine ⟨⟨?_, ?_⟩, ?_⟩
      · rw [hKV.block bc (by simp [World.drew]; omega) (fun e => hne (by simpa using e))]
        exact (hbV.block bc hlt.1).trans HA.out.1.cell
      · have : setC f ((a, s), (c, (t, b))) = fun x => if x = (a, s) then some (c, (t, b)) else f x := setC_goes (by unfold goesC; rw [hf])
        rw [this]
        exact hM2
      · exact ((HA.out.2.1.mono (fun _ _ e => e.elim)).then (((keeps_of_below hbV).drew).drew) (fun i hi e => by have := HA.out.2.1.size; omega)).then hKV (fun i hi e => by simpa using e)
    unfold encK encC at hrun
    dsimp only at hrun
    have HR := HP
    clear hM2 hT2 hbV hu1'
    go_region
    all_goals
      go_wp2_with fail
      go_region
    all_goals
      go_wp2
      go_ret
      exact ⟨rfl, HP.out⟩
  | some o =>
    obtain ⟨vo, to, bo⟩ := o
    rw [hf] at l0 l1
    simp only [Option.getD_some, Option.isSome_some] at l0 l1
    unfold encC at l0 l1
    dsimp only at l0 l1
    obtain ⟨V, hV⟩ : ∃ V, V = (U.alloc (.cells #[.string vo, .int .i64 to, .int .i64 bo] 62)).drew := ⟨_, rfl⟩
    have hbV : Below U.heap.size U V := by rw [hV]; exact ((Below.refl U.heap.size U).alloc (Nat.le_refl _) _).drew
    have hv1 : V.heap[S + 1]? = some (.cells #[.string c, .int .i64 t, .int .i64 b] 62 (0, 0)) := (hbV.block _ (by omega)).trans hu1
    have hv0 : V.heap[S]? = some (.cells #[.int .i64 a, .string s] 60 (0, 0)) := (hbV.block _ (by omega)).trans hu0
    have hv2 : V.heap[S + 2]? = some (.cells #[.string vo, .int .i64 to, .int .i64 bo] 62 (0, 0)) := by
      rw [hV, ← hsU]
      exact heap_alloc_new U _
    have hKV : Keeps (fun _ => False) w V := (hKU.then (keeps_of_below hbV) (fun i hi e => by have := hKU.size; omega))
    have hAV : CellsAt V bc bm n f := hA.later hbV
    have hsV : V.heap.size = S + 3 := by rw [hV]; show (U.alloc _).heap.size = _; rw [World.size_alloc, hsU]
    have hg : goesC f (a, s) (c, (t, b)) = lessB to bo t b := by unfold goesC; rw [hf]; exact (lessB_clt (to, bo) (t, b)).symm
    rw [hg]
    have HA : Aside (CellsAt V bc bm n f ∧ Keeps (fun _ => False) w V ∧ V.heap.size = S + 3 ∧ V.heap[S]? = some (.cells #[.int .i64 a, .string s] 60 (0, 0)) ∧ V.heap[S + 1]? = some (.cells #[.string c, .int .i64 t, .int .i64 b] 62 (0, 0)) ∧ V.heap[S + 2]? = some (.cells #[.string vo, .int .i64 to, .int .i64 bo] 62 (0, 0)) ∧ goesC f (a, s) (c, (t, b)) = lessB to bo t b) := ⟨hAV, hKV, hsV, hv0, hv1, hv2, hg⟩
    have x1 : V.cell? ⟨S + 1, 1, none⟩ = some (.int .i64 t) := by simp [World.cell?, hv1]
    have x2 : V.cell? ⟨S + 1, 2, none⟩ = some (.int .i64 b) := by simp [World.cell?, hv1]
    have y1 : V.cell? ⟨S + 2, 1, none⟩ = some (.int .i64 to) := by simp [World.cell?, hv2]
    have y2 : V.cell? ⟨S + 2, 2, none⟩ = some (.int .i64 bo) := by simp [World.cell?, hv2]
    clear hA hKU hu0 hu1 hAZ hbZ h hg hbV hv0 hv1 hv2 hKV hAV hsV
    subst hZ
    go_enter Tryd.func16, Tryd.ntmps16
    go_wp2_with fail
    rw [← hU, ← hS]
    have HS : Aside (S = w.heap.size) := hS
    clear hU hS
    go_region
    all_goals
      rw [← hV]
      clear l0 l1 c0 c1 k0 k1 j0 j1 hV
      go_wp2_with fail
      refine (less_any to bo t b _).mono ?_
      rintro e w3 ⟨rfl, hb3⟩
      have hA3 : CellsAt w3 bc bm n f := HA.out.1.later hb3
      have hK3 : Keeps (fun _ => False) w w3 := HA.out.2.1.then (keeps_of_below hb3) (fun i hi e => by have := HA.out.2.1.size; omega)
      cases hl : lessB to bo t b with
      | false =>
        have HP : Aside (PutOk w bc bm n f ((a, s), (c, (t, b))) w3) := by
          have : setC f ((a, s), (c, (t, b))) = f := setC_stays (HA.out.2.2.2.2.2.2.trans hl)
          exact ⟨by rw [this]; exact hA3.mono (Nat.le_succ n), hK3.mono (fun _ _ e => e.elim)⟩
        clear hA3 hK3 hb3
        go_wp2
        go_ret
        exact ⟨by rw [hl]; rfl, HP.out⟩
      | true =>
        obtain ⟨w2, hrun, hM2, hT2⟩ := (hA3.later (Below.refl _ _).drew).map.store (by simp only [maxLen]; omega) hk (c, (t, b))
        have HP : Aside (PutOk w bc bm n f ((a, s), (c, (t, b))) w2) := by
          have hKV := keeps_of_grown hT2.grown
          refine ⟨⟨?_, ?_⟩, ?_⟩
          · rw [hKV.block bc hA3.lt.1 (fun e => hA3.ne (by simpa using e))]
            exact hA3.cell
          · have : setC f ((a, s), (c, (t, b))) = fun x => if x = (a, s) then some (c, (t, b)) else f x := setC_goes (HA.out.2.2.2.2.2.2.trans hl)
            rw [this]
            exact hM2
          · exact ((hK3.mono (fun _ _ e => e.elim)).drew).then hKV (fun i hi e => by simpa using e)
        have c3 := hA3.c0
        have hs3 := HA.out.2.2.1
        have k0 : w3.cell? ⟨S, 0, none⟩ = some (.int .i64 a) := (hb3.cell (p := ⟨S, 0, none⟩) (by dsimp only; omega)).trans (by simp [World.cell?, HA.out.2.2.2.1])
        have k1 : w3.cell? ⟨S, 1, none⟩ = some (.string s) := (hb3.cell (p := ⟨S, 1, none⟩) (by dsimp only; omega)).trans (by simp [World.cell?, HA.out.2.2.2.1])
        have m0 : w3.cell? ⟨S + 1, 0, none⟩ = some (.string c) := (hb3.cell (p := ⟨S + 1, 0, none⟩) (by dsimp only; omega)).trans (by simp [World.cell?, HA.out.2.2.2.2.1])
        have m1 : w3.cell? ⟨S + 1, 1, none⟩ = some (.int .i64 t) := (hb3.cell (p := ⟨S + 1, 1, none⟩) (by dsimp only; omega)).trans (by simp [World.cell?, HA.out.2.2.2.2.1])
        have m2 : w3.cell? ⟨S + 1, 2, none⟩ = some (.int .i64 b) := (hb3.cell (p := ⟨S + 1, 2, none⟩) (by dsimp only; omega)).trans (by simp [World.cell?, HA.out.2.2.2.2.1])
        unfold encK encC at hrun
        dsimp only at hrun
        clear hA3 hK3 hb3 hM2 hT2 hs3
        go_wp2_with fail
        go_region
        all_goals
          go_wp2
          go_ret
          exact ⟨by rw [hl]; rfl, HP.out⟩
end Go.Proofs.YtfpmmgboodcfiaaDoor
