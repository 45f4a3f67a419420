/- Contracts of Apply where it tells an error, and of the law's coded, over the translation's bodies. -/
import Derived.Test.YtnfhbmgkiknaaaaDoorTurnSt
import Derived.Test.YtnfhbmgkiknaaaaDoorCodeWalks
import Derived.BigQuiet
import Derived.Laws.ResultCell
namespace Go.Proofs.YtnfhbmgkiknaaaaDoor
open Go.RowKit Go.Lib Go.Sort Go.Maps

set_option maxRecDepth 100000 in
set_option maxHeartbeats 2000000 in
theorem samePlaces_any (w : World) (ax : Option Addr) (cx : Nat) (ay : Option Addr) (cy : Nat) (qs : List Plc) (h : PlsAt w (.slice ax qs.length cx) qs) (h' : PlsAt w (.slice ay qs.length cy) qs) (hn : qs.length ≤ 20000) :
    Calls Tryd.prog 55 #[.slice ax qs.length cx, .slice ay qs.length cy] w fun e w' => e = .returned (.bool true) ∧ Below w.heap.size w w' := by
  have HP : Aside (PlsAt w (.slice ax qs.length cx) qs ∧ PlsAt w (.slice ay qs.length cy) qs) := ⟨h, h'⟩
  clear h h'
  have hne : ((qs.length : Int) != (qs.length : Int)) = false := by simp
  go_enter Tryd.func55, Tryd.ntmps55
  go_wp2
  clear hne
  go_loopg [5] qs.length (fun kx s5 wr => ∃ (i : Nat), s5 = .int .i64 (i : Int) ∧ i ≤ qs.length ∧ qs.length - i ≤ kx ∧ Aside (Below w.heap.size w wr))
  case atStart => exact ⟨0, rfl, Nat.zero_le _, Nat.le_refl _, Below.refl _ _⟩
  case round =>
    obtain ⟨i, rfl, hi, hkx, A⟩ := hrel
    by_cases hlt : i < qs.length
    · have hltz : decide ((i : Int) < (qs.length : Int)) = true := by simp; omega
      have ex : ((i : Int)).toNat = i := by omega
      have px : (0 : Int) ≤ (i : Int) := by omega
      have bx : (i : Int) < (qs.length : Int) := by omega
      obtain ⟨⟨c, q, nm⟩, hp⟩ : ∃ p : Plc, qs[i]? = some p := ⟨_, List.getElem?_eq_getElem hlt⟩
      obtain ⟨gx, rfl, x0, x1, x2⟩ := (HP.out.1.later A.out).three hp
      obtain ⟨gy, rfl, y0, y1, y2⟩ := (HP.out.2.later A.out).three hp
      have d0 : (c != c) = false := by simp
      have d1 : (q != q) = false := by simp
      clear hp
      go_wp2_with fail
      go_quiet (fail)
      go_wp2
      go_roundg (qs.length - (i + 1))
      case measure => omega
      case rel => exact ⟨i + 1, by go_num, by omega, Nat.le_refl _, below_drewN A.out _⟩
    · have hltz : decide ((i : Int) < (qs.length : Int)) = false := by simp; omega
      go_wp2
      go_ret
      exact ⟨rfl, A.out⟩

/-- A place, or the empty one. -/
def plcV (p : Plc) : Value := .agg #[.int .i64 p.1, .int .i64 p.2.1, .string p.2.2]
set_option maxHeartbeats 1000000 in
theorem place_any (w : World) (bt bm n : Nat) (f : Sta) (node : Int) (ht : w.cell? ⟨bt, 0, none⟩ = some (.map (some bm))) (hm : MapAt Tryd.prog 3 w bm n f) (hk : Wf node) :
    Calls Tryd.prog 60 #[.pointer (some ⟨bt, 0, none⟩), .int .i64 node] w fun e w' => e = .returned (.tuple #[plcV ((f node).getD zeroP), .bool (f node).isSome]) ∧ Below w.heap.size w w' := by
  have hbt : bt < w.heap.size := block_lt_of_cell ht
  have hl : ∀ o, (Instr.lookup 128 (.map (some bm)) (.int .i64 node) true).run Tryd.prog (w.alloc o) = .ok (.tuple #[plcV ((f node).getD zeroP), .bool (f node).isSome]) (w.alloc o) := fun o => (hm.same (Below.heap_alloc _ _ _ hm.lt)).looks hk
  have hc : ∀ o, (w.alloc o).cell? ⟨bt, 0, none⟩ = some (.map (some bm)) := fun o => by rw [World.cell?_of_block (Below.heap_alloc w o bt hbt)]; exact ht
  generalize (f node).isSome = z at hl ⊢
  generalize (f node).getD zeroP = p at hl ⊢
  obtain ⟨c, q, nm⟩ := p
  unfold plcV at hl ⊢
  dsimp only at hl ⊢
  clear ht hm hk
  go_enter Tryd.func60, Tryd.ntmps60
  go_wp2
  (try simp only [Exit.inBlock, Exit.then])
  refine bodyPost_ret (v := .tuple #[.agg #[.int .i64 c, .int .i64 q, .string nm], .bool z]) ?_ rfl ⟨rfl, ((Below.refl _ w).alloc (Nat.le_refl _) _).alloc (by simp) _⟩
  rw [results_cell_tmp rfl]
  go_simp
end Go.Proofs.YtnfhbmgkiknaaaaDoor
namespace Go.Proofs.YtnfhbmgkiknaaaaDoor
open Go.RowKit Go.Lib Go.Sort Go.Maps

theorem opE_le (t b n : Int) (k : Nat) (node other : Int) (name value : List UInt8) : opE t b n k node other name value ≤ 12 := by
  unfold opE kindE moveE insE delE setE
  repeat' split
  all_goals omega

theorem Errs.op4 {B : Nat} {ad : Nat → Addr} {w : World} (h : Errs B ad w) : Op4 ad w := ⟨h.c1, h.c2, h.c3, h.c4⟩
theorem coded_e {D : Nat} {ad : Nat → Addr} (c : Nat) (w : World) (h : Errs D ad w) (hc : c ≤ 12) : Calls Tryd.prog 15 #[eV ad c, .int .i64 (c : Int)] w fun e w' => e = .returned (.bool true) ∧ Below w.heap.size w w' := by
  unfold eV
  by_cases h0 : c = 0
  · subst h0
    refine (coded_nil _ w).mono ?_
    rintro e w' ⟨rfl, rfl⟩
    exact ⟨rfl, Below.refl _ _⟩
  · rw [if_neg h0]
    refine (coded_sent w h (c - 1) (by omega) _).mono ?_
    rintro e w' ⟨rfl, hb⟩
    refine ⟨?_, hb⟩
    have : (codeOf (c - 1) == (c : Int)) = true := by
      unfold codeOf
      rw [if_pos (by omega)]
      simp
      omega
    rw [this]

/-- The number of the error that Apply tells. -/
def codeX (x : OpX) (ms : List OpX) : Nat := if errX x ≠ 0 then errX x else if x.2.2.2.1 ≠ 109 then 5 else if (∃ y ∈ ms, stX y = stX x) then 7 else 0

set_option maxHeartbeats 1000000 in
theorem apply_wrong {ad : Nat → Addr} (w : World) (bt : Nat) (t b n : Int) (k : Nat) (node other : Int) (name value : ByteArray) (hE : Op4 ad w) (hsn : name.size ≤ 1000000) (hsv : value.size ≤ 1000000) (hop : opE t b n k node other name.data.toList value.data.toList ≠ 0) :
    Calls Tryd.prog 54 #[.pointer (some ⟨bt, 0, none⟩), .agg #[.int .i64 t, .int .i64 b, .int .i64 n, .int .u8 (k : Int), .int .i64 node, .int .i64 other, .string name, .string value]] w fun e w' => e = .returned (eV ad (opE t b n k node other name.data.toList value.data.toList)) ∧ Below w.heap.size w w' := by
  obtain ⟨w1, hw1⟩ : ∃ w1, w1 = w.alloc (.cells #[.int .i64 t, .int .i64 b, .int .i64 n, .int .u8 (k : Int), .int .i64 node, .int .i64 other, .string name, .string value] 77) := ⟨_, rfl⟩
  have B1 : Below w.heap.size w w1 := by rw [hw1]; exact (Below.refl _ w).alloc (Nat.le_refl _) _
  have hck := opcheck_any t b n k node other name value w1 (hE.later B1) hsn hsv
  obtain ⟨er, her⟩ : ∃ er, Aside (opE t b n k node other name.data.toList value.data.toList = er) := ⟨_, rfl⟩
  rw [her.out] at hck hop ⊢
  unfold eV at hck ⊢
  rw [if_neg hop] at hck ⊢
  have H1 : Aside (Below w.heap.size w w1) := B1
  clear B1 hE hop
  go_enter Tryd.func54, Tryd.ntmps54
  go_wp2_with fail
  rw [← hw1]
  clear hw1
  refine hck.mono ?_
  clear hck
  rintro e w2 ⟨rfl, hb2⟩
  have H2 : Aside (Below w.heap.size w w2) := H1.out.trans (hb2.mono H1.out.size)
  clear hb2 H1
  go_wp2
  go_ret
  exact ⟨rfl, H2.out⟩

set_option maxHeartbeats 1000000 in
theorem apply_kind {ad : Nat → Addr} (w : World) (bt : Nat) (t b n : Int) (k : Nat) (node other : Int) (name value : ByteArray) (hE : Op4 ad w) (hsn : name.size ≤ 1000000) (hsv : value.size ≤ 1000000) (hop : opE t b n k node other name.data.toList value.data.toList = 0) (hk : k ≠ 109) :
    Calls Tryd.prog 54 #[.pointer (some ⟨bt, 0, none⟩), .agg #[.int .i64 t, .int .i64 b, .int .i64 n, .int .u8 (k : Int), .int .i64 node, .int .i64 other, .string name, .string value]] w fun e w' => e = .returned (eV ad 5) ∧ Below w.heap.size w w' := by
  obtain ⟨w1, hw1⟩ : ∃ w1, w1 = w.alloc (.cells #[.int .i64 t, .int .i64 b, .int .i64 n, .int .u8 (k : Int), .int .i64 node, .int .i64 other, .string name, .string value] 77) := ⟨_, rfl⟩
  have O1 : OpAt w1 w.heap.size t b n k node other name value := by rw [hw1]; exact OpAt.new w t b n k node other name value 77
  have B1 : Below w.heap.size w w1 := by rw [hw1]; exact (Below.refl _ w).alloc (Nat.le_refl _) _
  have hck := opcheck_any t b n k node other name value w1 (hE.later B1) hsn hsv
  rw [hop] at hck
  have e0 : eV ad 0 = .nilIface := rfl
  rw [e0] at hck
  have e5 : eV ad 5 = .iface 105 (.pointer (some (ad 4))) := rfl
  rw [e5]
  have H1 : Aside (OpAt w1 w.heap.size t b n k node other name value ∧ Op4 ad w1 ∧ Below w.heap.size w w1) := ⟨O1, hE.later B1, B1⟩
  have dk : ((k : Int) != 109) = true := by simp; omega
  clear B1 hE hop O1 e0 e5
  go_enter Tryd.func54, Tryd.ntmps54
  go_wp2_with fail
  rw [← hw1]
  clear hw1
  refine hck.mono ?_
  clear hck
  rintro e w2 ⟨rfl, hb2⟩
  have c3 := (H1.out.1.later hb2).c3
  have g4 := (H1.out.2.1.later hb2).c4
  have H2 : Aside (Below w.heap.size w w2) := H1.out.2.2.trans (hb2.mono H1.out.2.2.size)
  clear hb2 H1
  go_wp2
  go_ret
  exact ⟨rfl, H2.out⟩

set_option maxRecDepth 100000 in
set_option maxHeartbeats 1000000 in
theorem apply_exist {D : Nat} {ad : Nat → Addr} (w : World) (base bt bm : Nat) (v : Value) (ms : List Mov) (t b n node other : Int) (name value : ByteArray) (hE : Errs D ad w) (hT : TreeAt base w bt bm v ms) (hlen : ms.length ≤ 100)
    (hsn : name.size ≤ 1000000) (hsv : value.size ≤ 1000000) (hop : opE t b n 109 node other name.data.toList value.data.toList = 0) (hold : ∃ m ∈ ms, m.1 = (t, b)) :
    Calls Tryd.prog 54 #[.pointer (some ⟨bt, 0, none⟩), .agg #[.int .i64 t, .int .i64 b, .int .i64 n, .int .u8 109, .int .i64 node, .int .i64 other, .string name, .string value]] w fun e w' => e = .returned (eV ad 7) ∧ Below w.heap.size w w' := by
  obtain ⟨w1, hw1⟩ : ∃ w1, w1 = w.alloc (.cells #[.int .i64 t, .int .i64 b, .int .i64 n, .int .u8 109, .int .i64 node, .int .i64 other, .string name, .string value] 77) := ⟨_, rfl⟩
  have O1 : OpAt w1 w.heap.size t b n 109 node other name value := by rw [hw1]; exact OpAt.new w t b n 109 node other name value 77
  have B1 : Below w.heap.size w w1 := by rw [hw1]; exact (Below.refl _ w).alloc (Nat.le_refl _) _
  have hck := opcheck_any t b n 109 node other name value w1 (hE.op4.later B1) hsn hsv
  rw [hop] at hck
  have e0 : eV ad 0 = .nilIface := rfl
  rw [e0] at hck
  have e7 : eV ad 7 = .iface 105 (.pointer (some (ad 6))) := rfl
  rw [e7]
  have H1 : Aside (OpAt w1 w.heap.size t b n 109 node other name value ∧ TreeAt base w1 bt bm v ms ∧ Errs D ad w1 ∧ Below w.heap.size w w1) := ⟨O1, hT.later B1, hE.later B1, B1⟩
  have HO : Aside (∃ m ∈ ms, m.1 = (t, b)) := hold
  clear hT B1 hE e0 e7 O1 hold hop
  go_enter Tryd.func54, Tryd.ntmps54
  go_wp2_with fail
  rw [← hw1]
  clear hw1
  refine hck.mono ?_
  clear hck
  rintro e w2 ⟨rfl, hb2⟩
  have H2 : Aside (OpAt w2 w.heap.size t b n 109 node other name value ∧ TreeAt base w2 bt bm v ms ∧ Errs D ad w2 ∧ Below w.heap.size w w2) := ⟨H1.out.1.later hb2, H1.out.2.1.later hb2, H1.out.2.2.1.later hb2, H1.out.2.2.2.trans (hb2.mono H1.out.2.2.2.size)⟩
  clear hb2 H1
  obtain ⟨c0, c1, c2, c3, c4, c5, c6, c7⟩ := H2.out.1
  have c3 : w2.cell? ⟨w.heap.size, 3, none⟩ = some (.int .u8 109) := c3
  go_wp2_with fail
  obtain ⟨L, hL, hR⟩ := H2.out.2.1.row
  obtain ⟨nn, hnn, hM⟩ := H2.out.2.1.map
  refine (find_at w2 base bt bm nn v ms L (t, b) H2.out.2.1.cell hL hR H2.out.2.1.by_ (by omega) hM).mono ?_
  rintro e w3 ⟨⟨i, bo, rfl, hF⟩, hb3⟩
  obtain rfl := found_old hF HO.out
  have g6 := (H2.out.2.2.1.later hb3).c6
  have H3 : Aside (Below w.heap.size w w3) := H2.out.2.2.2.trans (hb3.mono H2.out.2.2.2.size)
  clear hb3 H2 hF c0 c1 c2 c3 c4 c5 c6 c7 hM hR hL hnn
  clear L nn
  go_wp2
  go_ret
  exact ⟨rfl, H3.out⟩
end Go.Proofs.YtnfhbmgkiknaaaaDoor
