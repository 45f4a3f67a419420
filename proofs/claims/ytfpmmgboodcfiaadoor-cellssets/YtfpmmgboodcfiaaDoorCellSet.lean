/- Contracts of package cells: Set and Get, over the translation's bodies. -/
import Derived.Test.YtfpmmgboodcfiaaDoorCellWalks
import Derived.Test.YtfpmmgboodcfiaaDoorCellTurn
import Derived.Test.YtfpmmgboodcfiaaDoorOpCheck
import Derived.Laws.ResultCell
namespace Go.Proofs.YtfpmmgboodcfiaaDoor
open Go.RowKit Go.Maps

/-- The number of the error that Set tells. -/
def setE_ (x : OpX) : Nat := if errO x = 0 then (if x.2.2.2.1 = 115 then 0 else 5) else errO x
/-- Does it set the mark? -/
def setD (f : CSta) (x : OpX) : Bool := if errO x = 0 ∧ x.2.2.2.1 = 115 then goesC f (keyO x) (cellO x) else false
/-- What Set leaves behind. -/
def SetOk (w : World) (bc bm n : Nat) (f : CSta) (x : OpX) (w' : World) : Prop := CellsAt w' bc bm (n + 1) (stepO f x) ∧ Keeps (fun j => j = bm) w w'
theorem setOk_none {w w' : World} {bc bm n : Nat} {f : CSta} {x : OpX} (h : CellsAt w bc bm n f) (hx : ¬ (errO x = 0 ∧ x.2.2.2.1 = 115)) (hb : Below w.heap.size w w') : SetOk w bc bm n f x w' := by
  have : stepO f x = f := by unfold stepO; rw [if_neg hx]
  exact ⟨by rw [this]; exact (h.later hb).mono (Nat.le_succ n), (keeps_of_below hb).mono (fun k hk e => by omega)⟩
theorem wfK_op {t b n : Int} {k : Nat} {node other : Int} {name value : ByteArray} (h : opE t b n k node other name.data.toList value.data.toList = 0) (hs : name.size ≤ 1000000) : WfK (node, name) := by
  obtain ⟨h1, h2, h3, h4, h5, h6, h7, h8, h9, _⟩ := opE_zero h
  exact wfK_of (by dsimp only; omega) (by dsimp only; omega) hs

set_option maxHeartbeats 1000000 in
theorem cset_wrong {ad : Nat → Addr} (w : World) (bc : Nat) (t b n : Int) (k : Nat) (node other : Int) (name value : ByteArray) (hE : Op4 ad w) (hsn : name.size ≤ 1000000) (hsv : value.size ≤ 1000000) (hop : opE t b n k node other name.data.toList value.data.toList ≠ 0) :
    Calls Tryd.prog 8 #[.pointer (some ⟨bc, 0, none⟩), .agg #[.int .i64 t, .int .i64 b, .int .i64 n, .int .u8 (k : Int), .int .i64 node, .int .i64 other, .string name, .string value]] w fun e w' => e = .returned (.tuple #[.bool false, eV ad (opE t b n k node other name.data.toList value.data.toList)]) ∧ Below w.heap.size w w' := by
  obtain ⟨w1, hw1⟩ : ∃ w1, w1 = w.alloc (.cells #[.int .i64 t, .int .i64 b, .int .i64 n, .int .u8 (k : Int), .int .i64 node, .int .i64 other, .string name, .string value] 38) := ⟨_, rfl⟩
  have B1 : Below w.heap.size w w1 := by rw [hw1]; exact (Below.refl _ w).alloc (Nat.le_refl _) _
  have hck := opcheck_any t b n k node other name value w1 (hE.later B1) hsn hsv
  obtain ⟨er, her⟩ : ∃ er, Aside (opE t b n k node other name.data.toList value.data.toList = er) := ⟨_, rfl⟩
  rw [her.out] at hck hop ⊢
  unfold eV at hck ⊢
  rw [if_neg hop] at hck ⊢
  have H1 : Aside (Below w.heap.size w w1) := B1
  clear B1 hE hop
  go_enter Tryd.func8, Tryd.ntmps8
  go_wp2_with fail
  rw [← hw1]
  clear hw1
  refine hck.mono ?_
  clear hck
  rintro e w2 ⟨rfl, hb2⟩
  have H2 : Aside (Below w.heap.size w w2) := H1.out.trans (hb2.mono H1.out.size)
  clear hb2 H1
  go_wp2
  go_ret2
  exact ⟨rfl, H2.out⟩

set_option maxHeartbeats 1000000 in
theorem cset_kind {ad : Nat → Addr} (w : World) (bc : Nat) (t b n : Int) (k : Nat) (node other : Int) (name value : ByteArray) (hE : Op4 ad w) (hsn : name.size ≤ 1000000) (hsv : value.size ≤ 1000000) (hop : opE t b n k node other name.data.toList value.data.toList = 0) (hk : k ≠ 115) :
    Calls Tryd.prog 8 #[.pointer (some ⟨bc, 0, none⟩), .agg #[.int .i64 t, .int .i64 b, .int .i64 n, .int .u8 (k : Int), .int .i64 node, .int .i64 other, .string name, .string value]] w fun e w' => e = .returned (.tuple #[.bool false, eV ad 5]) ∧ Below w.heap.size w w' := by
  obtain ⟨w1, hw1⟩ : ∃ w1, w1 = w.alloc (.cells #[.int .i64 t, .int .i64 b, .int .i64 n, .int .u8 (k : Int), .int .i64 node, .int .i64 other, .string name, .string value] 38) := ⟨_, rfl⟩
  have O1 : OpAt w1 w.heap.size t b n k node other name value := by rw [hw1]; exact OpAt.new w t b n k node other name value 38
  have B1 : Below w.heap.size w w1 := by rw [hw1]; exact (Below.refl _ w).alloc (Nat.le_refl _) _
  have hck := opcheck_any t b n k node other name value w1 (hE.later B1) hsn hsv
  rw [hop] at hck
  have e0 : eV ad 0 = .nilIface := rfl
  rw [e0] at hck
  have e5 : eV ad 5 = .iface 145 (.pointer (some (ad 4))) := rfl
  rw [e5]
  have H1 : Aside (OpAt w1 w.heap.size t b n k node other name value ∧ Op4 ad w1 ∧ Below w.heap.size w w1) := ⟨O1, hE.later B1, B1⟩
  have dk : ((k : Int) != 115) = true := by simp; omega
  clear B1 hE hop O1 e0 e5
  go_enter Tryd.func8, Tryd.ntmps8
  go_wp2_with fail
  rw [← hw1]
  clear hw1
  refine hck.mono ?_
  clear hck
  rintro e w2 ⟨rfl, hb2⟩
  have c3 := (H1.out.1.later hb2).c3
  have g4 := (H1.out.2.1.later hb2).c4
  have H2 : Aside (Below w.heap.size w w2) := H1.out.2.2.trans (hb2.mono H1.out.2.2.size)
  clear hb2 H1
  go_wp2_with fail
  go_quiet (fail)
  go_wp2
  go_ret2
  exact ⟨rfl, ⟨H2.out.os, H2.out.tape, H2.out.output, H2.out.size, H2.out.block⟩⟩

set_option maxHeartbeats 1000000 in
theorem cset_ok {ad : Nat → Addr} (w : World) (bc bm m : Nat) (f : CSta) (t b n node other : Int) (name value : ByteArray) (hE : Op4 ad w) (hC : CellsAt w bc bm m f) (hm : m ≤ 1000000) (hsn : name.size ≤ 1000000) (hsv : value.size ≤ 1000000) (hop : opE t b n 115 node other name.data.toList value.data.toList = 0) :
    Calls Tryd.prog 8 #[.pointer (some ⟨bc, 0, none⟩), .agg #[.int .i64 t, .int .i64 b, .int .i64 n, .int .u8 (115 : Int), .int .i64 node, .int .i64 other, .string name, .string value]] w fun e w' => e = .returned (.tuple #[.bool (goesC f (node, name) (value, (t, b))), .nilIface]) ∧ PutOk w bc bm m f ((node, name), (value, (t, b))) w' := by
  obtain ⟨w1, hw1⟩ : ∃ w1, w1 = w.alloc (.cells #[.int .i64 t, .int .i64 b, .int .i64 n, .int .u8 (115 : Int), .int .i64 node, .int .i64 other, .string name, .string value] 38) := ⟨_, rfl⟩
  have O1 : OpAt w1 w.heap.size t b n 115 node other name value := by rw [hw1]; exact OpAt.new w t b n 115 node other name value 38
  have B1 : Below w.heap.size w w1 := by rw [hw1]; exact (Below.refl _ w).alloc (Nat.le_refl _) _
  have hck := opcheck_any t b n 115 node other name value w1 (hE.later B1) hsn hsv
  have hwf := wfK_op hop hsn
  rw [hop] at hck
  have e0 : eV ad 0 = .nilIface := rfl
  rw [e0] at hck
  have H1 : Aside (OpAt w1 w.heap.size t b n 115 node other name value ∧ CellsAt w1 bc bm m f ∧ Below w.heap.size w w1 ∧ WfK (node, name)) := ⟨O1, hC.later B1, B1, hwf⟩
  clear B1 hE hop O1 e0 hC hwf
  go_enter Tryd.func8, Tryd.ntmps8
  go_wp2_with fail
  rw [← hw1]
  clear hw1
  refine hck.mono ?_
  clear hck
  rintro e w2 ⟨rfl, hb2⟩
  obtain ⟨c0, c1, c2, c3, c4, c5, c6, c7⟩ := H1.out.1.later hb2
  have hput := put_any w2 bc bm m f node name value t b (H1.out.2.1.later hb2) hm H1.out.2.2.2
  have H2 : Aside (Below w.heap.size w w2) := H1.out.2.2.1.trans (hb2.mono H1.out.2.2.1.size)
  clear hb2 H1
  go_wp2_with fail
  refine hput.mono ?_
  clear hput
  rintro e w3 ⟨rfl, hP⟩
  have HP : Aside (PutOk w bc bm m f ((node, name), (value, (t, b))) w3) := ⟨hP.1, (keeps_of_below H2.out).mono (fun k hk e => by omega) |>.then hP.2 (fun i hi e => e)⟩
  clear hP H2
  go_wp2
  go_ret2
  exact ⟨rfl, HP.out⟩

/-- Set, whatever it is given. -/
theorem cset_all {ad : Nat → Addr} (w : World) (bc bm m : Nat) (f : CSta) (t b n : Int) (k : Nat) (node other : Int) (name value : ByteArray) (hE : Op4 ad w) (hC : CellsAt w bc bm m f) (hm : m ≤ 1000000) (hsn : name.size ≤ 1000000) (hsv : value.size ≤ 1000000) :
    Calls Tryd.prog 8 #[.pointer (some ⟨bc, 0, none⟩), .agg #[.int .i64 t, .int .i64 b, .int .i64 n, .int .u8 (k : Int), .int .i64 node, .int .i64 other, .string name, .string value]] w fun e w' => e = .returned (.tuple #[.bool (setD f (t, b, n, k, node, other, name, value)), eV ad (setE_ (t, b, n, k, node, other, name, value))]) ∧ SetOk w bc bm m f (t, b, n, k, node, other, name, value) w' := by
  by_cases h0 : opE t b n k node other name.data.toList value.data.toList = 0
  · by_cases hk : k = 115
    · subst hk
      have hx : errO (t, b, n, 115, node, other, name, value) = 0 ∧ (115 : Nat) = 115 := ⟨h0, rfl⟩
      have e1 : setD f (t, b, n, 115, node, other, name, value) = goesC f (node, name) (value, (t, b)) := by unfold setD; rw [if_pos hx]; rfl
      have e2 : setE_ (t, b, n, 115, node, other, name, value) = 0 := by unfold setE_; rw [if_pos (show errO (t, b, n, 115, node, other, name, value) = 0 from h0)]; rfl
      have e3 : stepO f (t, b, n, 115, node, other, name, value) = setC f ((node, name), (value, (t, b))) := by unfold stepO; rw [if_pos hx]; rfl
      rw [e1, e2]
      refine (cset_ok w bc bm m f t b n node other name value hE hC hm hsn hsv h0).mono ?_
      rintro e w' ⟨rfl, hP⟩
      exact ⟨rfl, by rw [e3]; exact hP.1, hP.2⟩
    · have hx : ¬ (errO (t, b, n, k, node, other, name, value) = 0 ∧ k = 115) := fun h => hk h.2
      have e1 : setD f (t, b, n, k, node, other, name, value) = false := by unfold setD; rw [if_neg hx]
      have e2 : setE_ (t, b, n, k, node, other, name, value) = 5 := by unfold setE_; rw [if_pos (show errO (t, b, n, k, node, other, name, value) = 0 from h0)]; exact if_neg hk
      rw [e1, e2]
      refine (cset_kind w bc t b n k node other name value hE hsn hsv h0 hk).mono ?_
      rintro e w' ⟨rfl, hb⟩
      exact ⟨rfl, setOk_none hC hx hb⟩
  · have hx : ¬ (errO (t, b, n, k, node, other, name, value) = 0 ∧ k = 115) := fun h => h0 h.1
    have e1 : setD f (t, b, n, k, node, other, name, value) = false := by unfold setD; rw [if_neg hx]
    have e2 : setE_ (t, b, n, k, node, other, name, value) = opE t b n k node other name.data.toList value.data.toList := by unfold setE_; rw [if_neg (show ¬ errO (t, b, n, k, node, other, name, value) = 0 from h0)]; rfl
    rw [e1, e2]
    refine (cset_wrong w bc t b n k node other name value hE hsn hsv h0).mono ?_
    rintro e w' ⟨rfl, hb⟩
    exact ⟨rfl, setOk_none hC hx hb⟩

theorem results_tct {fn : Func} {t p u : Tmp} {ty : TypeId} (h : fn.results = #[.tmp t, .cell p ty, .tmp u]) (tmps : Array Value) (P : Program) (w : World) :
    (results fn tmps).run P w =
      ((asAddr (tmps.getD p undef)).run P w).andThen fun a w1 => ((loadVar ty a).run P w1).andThen fun v w2 => .ok (.tuple #[tmps.getD t undef, v, tmps.getD u undef]) w2 := by
  simp only [results, h]
  simp [Sem.run_bind, Result.andThen]

set_option maxRecDepth 100000 in
set_option maxHeartbeats 1000000 in
/-- Get: what stands there, or nothing. -/
theorem get_any (w : World) (bc bm m : Nat) (f : CSta) (node : Int) (name : ByteArray) (hC : CellsAt w bc bm m f) (hk : WfK (node, name)) :
    Calls Tryd.prog 13 #[.pointer (some ⟨bc, 0, none⟩), .int .i64 node, .string name] w fun e w' => e = .returned (.tuple #[.string ((f (node, name)).getD zeroC).1, .agg #[.int .i64 ((f (node, name)).getD zeroC).2.1, .int .i64 ((f (node, name)).getD zeroC).2.2], .bool (f (node, name)).isSome]) ∧ Below w.heap.size w w' := by
  obtain ⟨U, hU⟩ : ∃ U, U = w.alloc (.cells #[.int .i64 0, .int .i64 0] 36) := ⟨_, rfl⟩
  have hb : Below w.heap.size w U := by rw [hU]; exact (Below.refl _ w).alloc (Nat.le_refl _) _
  have hA := hC.later hb
  have hall := all_any U bc bm hA.c0
  have hl := hA.map.look hk
  obtain ⟨⟨v, t, b⟩, hx⟩ : ∃ x, (f (node, name)).getD zeroC = x := ⟨_, rfl⟩
  obtain ⟨z, hz⟩ : ∃ z, (f (node, name)).isSome = z := ⟨_, rfl⟩
  rw [hx, hz] at hl ⊢
  unfold encK encC at hl
  dsimp only at hl ⊢
  obtain ⟨S, hS⟩ : ∃ S, S = w.heap.size := ⟨_, rfl⟩
  have hsU : U.heap.size = S + 1 := by rw [hU, hS]; simp
  have hu : U.heap[S]? = some (.cells #[.int .i64 0, .int .i64 0] 36 (0, 0)) := by rw [hU, hS]; exact heap_alloc_new w _
  obtain ⟨V, hV⟩ : ∃ V, V = U.alloc (.cells #[.string v, .int .i64 t, .int .i64 b] 62) := ⟨_, rfl⟩
  have hv : V.heap[S + 1]? = some (.cells #[.string v, .int .i64 t, .int .i64 b] 62 (0, 0)) := by rw [hV, ← hsU]; exact heap_alloc_new U _
  have hv0 : V.heap[S]? = some (.cells #[.int .i64 0, .int .i64 0] 36 (0, 0)) := by rw [hV, Below.heap_alloc _ _ _ (by omega)]; exact hu
  have x0 : V.cell? ⟨S + 1, 0, none⟩ = some (.string v) := by simp [World.cell?, hv]
  have x1 : V.cell? ⟨S + 1, 1, none⟩ = some (.int .i64 t) := by simp [World.cell?, hv]
  have x2 : V.cell? ⟨S + 1, 2, none⟩ = some (.int .i64 b) := by simp [World.cell?, hv]
  have y0 : V.cell? ⟨S, 0, none⟩ = some (.int .i64 0) := by simp [World.cell?, hv0]
  have y1 : V.cell? ⟨S, 1, none⟩ = some (.int .i64 0) := by simp [World.cell?, hv0]
  have z0 : V.frozen? ⟨S, 0, none⟩ = false := by simp [World.frozen?, hv0]
  have z1 : V.frozen? ⟨S, 1, none⟩ = false := by simp [World.frozen?, hv0]
  have hF : ((V.setCell ⟨S, 0, none⟩ (.int .i64 t)).setCell ⟨S, 1, none⟩ (.int .i64 b)).heap[S]? = some (.cells #[.int .i64 t, .int .i64 b] 36 (0, 0)) := setCells_heap S [.int .i64 t, .int .i64 b] 0 V _ _ hv0
  have g0 : ((V.setCell ⟨S, 0, none⟩ (.int .i64 t)).setCell ⟨S, 1, none⟩ (.int .i64 b)).cell? ⟨S, 0, none⟩ = some (.int .i64 t) := by simp [World.cell?, hF]
  have g1 : ((V.setCell ⟨S, 0, none⟩ (.int .i64 t)).setCell ⟨S, 1, none⟩ (.int .i64 b)).cell? ⟨S, 1, none⟩ = some (.int .i64 b) := by simp [World.cell?, hF]
  have HB : Aside (Below w.heap.size w ((V.setCell ⟨S, 0, none⟩ (.int .i64 t)).setCell ⟨S, 1, none⟩ (.int .i64 b)).drew) := by
    have h1 : Below w.heap.size w V := by rw [hV]; exact hb.alloc hb.size _
    exact (h1.trans ((setCells_keeps S [.int .i64 t, .int .i64 b] 0 V).below h1.size (fun k e => by omega))).drew
  clear hA hb hu hv hv0 hx hz hF
  go_enter Tryd.func13, Tryd.ntmps13
  go_wp2_with fail
  rw [← hU, ← hS]
  clear hU hS
  refine hall.mono ?_
  rintro e w' ⟨rfl, rfl⟩
  clear hall
  go_wp2_with fail
  rw [← hV]
  clear hV hl
  go_region
  all_goals
    go_wp2
    (try simp only [Exit.inBlock, Exit.then])
    refine bodyPost_ret (v := .tuple #[.string v, .agg #[.int .i64 t, .int .i64 b], .bool z]) ?_ rfl ⟨rfl, HB.out⟩
    rw [results_tct rfl]
    go_simp
end Go.Proofs.YtfpmmgboodcfiaaDoor
