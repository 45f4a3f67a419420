/- Contract of package tree: Inside. -/
import Derived.Test.YtnfhbmgkiknaaaaDoorTreeIn
import Derived.Lib.Hide
import Derived.Deep.LoopGhost

namespace Go.Proofs.YtnfhbmgkiknaaaaDoor
open Go.RowKit Go.Maps

/-- A place in a variable of its own. -/
def PlcAt (w : World) (b : Nat) (p : Plc) : Prop := w.heap[b]? = some (.cells #[.int .i64 p.1, .int .i64 p.2.1, .string p.2.2] 95 (0, 0))
theorem PlcAt.lt {w : World} {b : Nat} {p : Plc} (h : PlcAt w b p) : b < w.heap.size := (Array.getElem?_eq_some_iff.1 h).1
theorem PlcAt.c0 {w : World} {b : Nat} {p : Plc} (h : PlcAt w b p) : w.cell? ⟨b, 0, none⟩ = some (.int .i64 p.1) := by unfold PlcAt at h; simp [World.cell?, h]
theorem PlcAt.c1 {w : World} {b : Nat} {p : Plc} (h : PlcAt w b p) : w.cell? ⟨b, 1, none⟩ = some (.int .i64 p.2.1) := by unfold PlcAt at h; simp [World.cell?, h]
theorem PlcAt.c2 {w : World} {b : Nat} {p : Plc} (h : PlcAt w b p) : w.cell? ⟨b, 2, none⟩ = some (.string p.2.2) := by unfold PlcAt at h; simp [World.cell?, h]
theorem PlcAt.fz {w : World} {b : Nat} {p : Plc} (h : PlcAt w b p) (o : Nat) : w.frozen? ⟨b, o, none⟩ = false := by unfold PlcAt at h; simp [World.frozen?, h]
theorem PlcAt.same {w w' : World} {b : Nat} {p : Plc} (h : PlcAt w b p) (e : w'.heap[b]? = w.heap[b]?) : PlcAt w' b p := e.trans h

theorem PlcAt.stored {w : World} {b : Nat} {p : Plc} (h : PlcAt w b p) (q : Plc) : PlcAt (((w.setCell ⟨b, 0, none⟩ (.int .i64 q.1)).setCell ⟨b, 1, none⟩ (.int .i64 q.2.1)).setCell ⟨b, 2, none⟩ (.string q.2.2)) b q := by
  have h0 := heap_setCell_same w b 0 _ _ (.int .i64 q.1) h
  have h1 := heap_setCell_same _ b 1 _ _ (.int .i64 q.2.1) h0
  exact heap_setCell_same _ b 2 _ _ (.string q.2.2) h1
theorem PlcAt.storedBelow {w w' : World} {B b : Nat} (q : Plc) (h : Below B w w') (hb : B ≤ b) : Below B w (((w'.setCell ⟨b, 0, none⟩ (.int .i64 q.1)).setCell ⟨b, 1, none⟩ (.int .i64 q.2.1)).setCell ⟨b, 2, none⟩ (.string q.2.2)) :=
  ((h.setCell (p := ⟨b, 0, none⟩) hb _).setCell (p := ⟨b, 1, none⟩) hb _).setCell (p := ⟨b, 2, none⟩) hb _

theorem MapAt.below {w w' : World} {b n : Nat} {f : Sta} (h : MapAt Tryd.prog 3 w b n f) {B : Nat} (hb : Below B w w') (hB : b < B) : MapAt Tryd.prog 3 w' b n f := h.same (hb.block b hB)

set_option maxRecDepth 100000 in
set_option maxHeartbeats 1000000 in
theorem inside_is (w : World) (bt bm n : Nat) (f : Sta) (node of : Int) (z : Bool) (hz : z = true ↔ Ins f node of) (ht : w.cell? ⟨bt, 0, none⟩ = some (.map (some bm))) (hm : MapAt Tryd.prog 3 w bm n f) (G : Good f) (hk : Wf node) :
    Calls Tryd.prog 58 #[.pointer (some ⟨bt, 0, none⟩), .int .i64 node, .int .i64 of] w fun e w' => e = .returned (.bool z) ∧ Below w.heap.size w w' := by
  have hbt : bt < w.heap.size := block_lt_of_cell ht
  obtain ⟨d, hd⟩ := G.rank
  have hl := hm.looks hk
  unfold encP at hl
  go_enter Tryd.func58, Tryd.ntmps58
  go_wp2
  obtain ⟨w0, hw0⟩ : ∃ w0, w0 = w.alloc (.cells #[.int .i64 ((f node).getD zeroP).1, .int .i64 ((f node).getD zeroP).2.1, .string ((f node).getD zeroP).2.2] 95) := ⟨_, rfl⟩
  have hp0 : PlcAt w0 w.heap.size ((f node).getD zeroP) := by rw [hw0]; exact heap_alloc_new w _
  have hb0 : Below w.heap.size w w0 := by rw [hw0]; exact (Below.refl _ w).alloc (Nat.le_refl _) _
  rw [← hw0]
  clear hw0 hl
  go_loopg [7, 8] (d node + 1) (fun kx s7 s8 wr => ∃ (b7 : Nat) (cur : Int), s7 = .pointer (some ⟨b7, 0, none⟩) ∧ s8 = .bool (f cur).isSome ∧ w.heap.size ≤ b7 ∧ PlcAt wr b7 ((f cur).getD zeroP) ∧ Wf cur ∧ (Ins f cur of ↔ Ins f node of) ∧ Below w.heap.size w wr ∧ (∀ p, f cur = some p → d cur < kx))
  case atStart => exact ⟨w.heap.size, node, rfl, rfl, Nat.le_refl _, hp0, hk, Iff.rfl, hb0, fun _ _ => Nat.lt_succ_self _⟩
  case round =>
    obtain ⟨b7, cur, rfl, rfl, hb7, hp, hkc, hi, hb, hkx⟩ := hrel
    clear hp0 hb0 w0
    have ht1 := (hb.cell (p := ⟨bt, 0, none⟩) hbt).trans ht
    have hm1 := hm.below hb hm.lt
    cases hf : f cur with
    | none =>
      have hno : z = false := by
        cases z with
        | false => rfl
        | true => exact absurd (hi.2 (hz.1 rfl)) (ins_none hf)
      subst hno
      rw [hf] at hp
      simp only [Option.isSome_none]
      go_wp2
      go_ret
      exact ⟨rfl, hb⟩
    | some p =>
      rw [hf] at hp
      simp only [Option.isSome_some]
      have hc1 : wr.cell? ⟨b7, 1, none⟩ = some (.int .i64 p.2.1) := hp.c1
      by_cases he : p.2.1 = of
      · have hyes : z = true := hz.2 (hi.1 ((ins_some hf).2 (.inl he)))
        subst hyes
        have q0 : decide (p.2.1 = of) = true := decide_eq_true he
        go_wp2
        go_ret
        exact ⟨rfl, hb⟩
      · have q0 : decide (p.2.1 = of) = false := decide_eq_false he
        have hkn : Wf p.2.1 := (wf_fine (G.fine cur p hf)).2
        have hc0 := hp.c0
        have hc2 := hp.c2
        go_wp2
        obtain ⟨w1, hw1⟩ : ∃ w1, w1 = wr.alloc (.cells #[.int .i64 p.1, .int .i64 p.2.1, .string p.2.2] 95) := ⟨_, rfl⟩
        have hp1 : PlcAt w1 wr.heap.size p := by rw [hw1]; exact heap_alloc_new wr _
        have hb1 : Below w.heap.size w w1 := by rw [hw1]; exact hb.alloc hb.size _
        have hs1 : w.heap.size ≤ wr.heap.size := hb.size
        rw [← hw1]
        obtain ⟨b8, hb8⟩ : ∃ b8, b8 = wr.heap.size := ⟨_, rfl⟩
        rw [← hb8] at hp1 hs1 ⊢
        have ht2 := (hb1.cell (p := ⟨bt, 0, none⟩) hbt).trans ht
        have hm2 := hm.below hb1 hm.lt
        have hl2 := hm2.looks hkn
        have hl3 := (show MapAt Tryd.prog 3 w1.drew bm n f from hm2).looks hkn
        unfold encP at hl2 hl3
        have d0 := hp1.c0
        have d1 := hp1.c1
        have d2 := hp1.c2
        have z0 := hp1.fz 0
        have z1 := hp1.fz 1
        have z2 := hp1.fz 2
        have F : Aside (PlcAt w1 b8 p ∧ Below w.heap.size w w1 ∧ w.heap.size ≤ b8 ∧ Wf p.2.1) := ⟨hp1, hb1, hs1, hkn⟩
        clear hp hc0 hc1 hc2 hp1 hb1 hm2 hm1 ht1 hw1 hb8 hs1 hkn
        go_region
        go_wp2
        go_roundg (d cur)
        case measure => exact hkx p hf
        case rel => exact ⟨b8, p.2.1, rfl, rfl, F.out.2.2.1, F.out.1.stored _, F.out.2.2.2, (by rw [← hi, ins_some hf]; exact ⟨.inr, fun h => h.resolve_left he⟩), (PlcAt.storedBelow _ F.out.2.1 F.out.2.2.1).drew, fun _ _ => hd cur p hf⟩
end Go.Proofs.YtnfhbmgkiknaaaaDoor
