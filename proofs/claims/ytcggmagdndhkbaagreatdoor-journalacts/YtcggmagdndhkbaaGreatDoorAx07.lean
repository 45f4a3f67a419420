import Derived.Test.YtcggmagdndhkbaaGreatDoorAx02
import Derived.Test.YtcggmagdndhkbaaGreatDoorAx04
import Derived.Test.YtcggmagdndhkbaaGreatDoorAx06
import Derived.Deep.Cut
import Derived.Deep.CutRange
import Derived.Deep.DeepCutAuto
import Derived.Test.YtcggmagdndhkbaaGreatDoorProg
import Derived.WalkKit
import Derived.WalkSpells
import Derived.Below
import Derived.Laws.IdiomStrings
import Derived.Laws.Concat
import Derived.Laws.Strings
import Derived.Lib.Hide
import Derived.KernelRfl
import Derived.LoopN
import Derived.LoopTactic
import Derived.Laws.BitsAllLaws
section
set_option linter.unusedVariables false
set_option linter.unusedSimpArgs false
namespace Go.Proofs.YtcggmagdndhkbaaGreatDoor
open Go Go.RowKit Go.Lib Go.Sort
abbrev DSt := List UInt8 × Bool × Bool × Int
structure DiskAt (w : World) (d : Nat) (v : Value) (st : DSt) : Prop where
  cell : w.heap[d]? = some (.cells #[v, .bool st.2.1, .bool st.2.2.1, .int .i64 st.2.2.2] 175 (0, 0))
  row : RowB w v st.1
  ne : v.ownBlock ≠ some d
  left : 0 ≤ st.2.2.2 ∧ st.2.2.2 ≤ 9223372036854775807
def OwnD (d : Nat) (v : Value) (k : Nat) : Prop := k = d ∨ v.ownBlock = some k
theorem DiskAt.lt {w : World} {d : Nat} {v : Value} {st : DSt} (h : DiskAt w d v st) : d < w.heap.size := (Array.getElem?_eq_some_iff.1 h.cell).1
theorem DiskAt.own_lt {w : World} {d : Nat} {v : Value} {st : DSt} (h : DiskAt w d v st) {k : Nat} (hk : OwnD d v k) : k < w.heap.size := by
  rcases hk with rfl | hk
  · exact h.lt
  · exact h.row.lt hk
theorem DiskAt.same {w w' : World} {d : Nat} {v : Value} {st : DSt} (h : DiskAt w d v st) (e : ∀ k, OwnD d v k → w'.heap[k]? = w.heap[k]?) : DiskAt w' d v st :=
  ⟨(e d (.inl rfl)).trans h.cell, h.row.same (fun g hg => e g (.inr hg)), h.ne, h.left⟩
theorem DiskAt.later {w w' : World} {d : Nat} {v : Value} {st : DSt} (h : DiskAt w d v st) (hb : Below w.heap.size w w') : DiskAt w' d v st := h.same (fun k hk => hb.block k (h.own_lt hk))
theorem DiskAt.c {w : World} {d : Nat} {v : Value} {st : DSt} (h : DiskAt w d v st) : w.cell? ⟨d, 0, none⟩ = some v ∧ w.cell? ⟨d, 1, none⟩ = some (.bool st.2.1) ∧ w.cell? ⟨d, 2, none⟩ = some (.bool st.2.2.1) ∧ w.cell? ⟨d, 3, none⟩ = some (.int .i64 st.2.2.2) ∧ ∀ o, w.frozen? ⟨d, o, none⟩ = false := by
  have hc := h.cell
  refine ⟨?_, ?_, ?_, ?_, fun o => ?_⟩
  · simp [World.cell?, hc]
  · simp [World.cell?, hc]
  · simp [World.cell?, hc]
  · simp [World.cell?, hc]
  · simp [World.frozen?, hc]
theorem DiskAt.set1 {w : World} {d : Nat} {v : Value} {B : List UInt8} {off waits : Bool} {left : Int} (h : DiskAt w d v (B, off, waits, left)) (z : Bool) : DiskAt (w.setCell ⟨d, 1, none⟩ (.bool z)) d v (B, z, waits, left) ∧ Keeps (fun k => k = d) w (w.setCell ⟨d, 1, none⟩ (.bool z)) := by
  have hk := setCells_keeps d [.bool z] 1 w
  refine ⟨⟨heap_setCell_same w d 1 _ _ _ h.cell, h.row.same (fun g hg => hk.block g (h.row.lt hg) (fun e => h.ne (by rw [← e]; exact hg))), h.ne, h.left⟩, hk⟩
theorem DiskAt.set2 {w : World} {d : Nat} {v : Value} {B : List UInt8} {off waits : Bool} {left : Int} (h : DiskAt w d v (B, off, waits, left)) (z : Bool) : DiskAt (w.setCell ⟨d, 2, none⟩ (.bool z)) d v (B, off, z, left) ∧ Keeps (fun k => k = d) w (w.setCell ⟨d, 2, none⟩ (.bool z)) := by
  have hk := setCells_keeps d [.bool z] 2 w
  refine ⟨⟨heap_setCell_same w d 2 _ _ _ h.cell, h.row.same (fun g hg => hk.block g (h.row.lt hg) (fun e => h.ne (by rw [← e]; exact hg))), h.ne, h.left⟩, hk⟩
theorem DiskAt.set3 {w : World} {d : Nat} {v : Value} {B : List UInt8} {off waits : Bool} {left : Int} (h : DiskAt w d v (B, off, waits, left)) (z : Int) (hz : 0 ≤ z ∧ z ≤ 9223372036854775807) : DiskAt (w.setCell ⟨d, 3, none⟩ (.int .i64 z)) d v (B, off, waits, z) ∧ Keeps (fun k => k = d) w (w.setCell ⟨d, 3, none⟩ (.int .i64 z)) := by
  have hk := setCells_keeps d [.int .i64 z] 3 w
  refine ⟨⟨heap_setCell_same w d 3 _ _ _ h.cell, h.row.same (fun g hg => hk.block g (h.row.lt hg) (fun e => h.ne (by rw [← e]; exact hg))), h.ne, hz⟩, hk⟩
theorem DiskAt.set0 {w : World} {d : Nat} {v v' : Value} {B' : List UInt8} {off waits : Bool} {left : Int} (h : w.heap[d]? = some (.cells #[v, .bool off, .bool waits, .int .i64 left] 175 (0, 0))) (hr : RowB w v' B') (hn : v'.ownBlock ≠ some d) (hl : 0 ≤ left ∧ left ≤ 9223372036854775807) : DiskAt (w.setCell ⟨d, 0, none⟩ v') d v' (B', off, waits, left) ∧ Keeps (fun k => k = d) w (w.setCell ⟨d, 0, none⟩ v') := by
  have hk := setCells_keeps d [v'] 0 w
  refine ⟨⟨heap_setCell_same w d 0 _ _ _ h, hr.same (fun g hg => hk.block g (hr.lt hg) (fun e => hn (by rw [← e]; exact hg))), hn, hl⟩, hk⟩
set_option maxRecDepth 100000 in
set_option maxHeartbeats 1000000 in
theorem newDisk_any (s : ByteArray) (w : World) (hs : s.size ≤ 65536) :
    Calls Tryz.prog 36 #[.string s] w fun e w' => ∃ d v, e = .returned (.tuple #[.pointer (some ⟨d, 0, none⟩), .nilIface]) ∧ Aside (DiskAt w' d v (s.data.toList, false, false, 0) ∧ Below w.heap.size w w' ∧ ∀ k, OwnD d v k → w.heap.size ≤ k) := by
  obtain ⟨v, w1, hcv, hrow, hb, hv⟩ := row_made w s (by omega)
  have d1 : decide ((65536 : Int) < (s.size : Int)) = false := by simp; omega
  have d1n : decide (65536 < s.size) = false := by simp; omega
  have H : Aside (RowB w1 v s.data.toList ∧ Below w.heap.size w w1 ∧ ∀ g, v.ownBlock = some g → w.heap.size ≤ g) := ⟨hrow, hb, hv⟩
  obtain ⟨g, cap, hvs⟩ := hrow.shape
  subst hvs
  clear hrow hb hv
  go_enter Tryz.func36, Tryz.ntmps36
  go_wp2
  go_ret2
  have hb2 : Below w1.heap.size w1 (w1.alloc (.cells #[.slice (some ⟨g, 0, none⟩) s.data.toList.length cap, .bool false, .bool false, .int .i64 0] 175)) := (Below.refl _ w1).alloc (Nat.le_refl _) _
  refine ⟨w1.heap.size, _, rfl, ⟨heap_alloc_new w1 _, H.out.1.same (fun g hg => hb2.block g (H.out.1.lt hg)), fun e => ?_, ⟨by show (0 : Int) ≤ 0; omega, by show (0 : Int) ≤ 9223372036854775807; omega⟩⟩, H.out.2.1.trans (hb2.mono H.out.2.1.size), fun k hk => ?_⟩
  · have := H.out.1.lt e; omega
  · rcases hk with rfl | hk
    · exact H.out.2.1.size
    · exact H.out.2.2 k hk
set_option maxRecDepth 100000 in
set_option maxHeartbeats 1000000 in
theorem power_any {d : Nat} {v : Value} {st : DSt} (w : World) (h : DiskAt w d v st) :
    Calls Tryz.prog 45 #[.pointer (some ⟨d, 0, none⟩)] w fun e w' => e = .returned (.bool (!st.2.1)) ∧ w' = w := by
  obtain ⟨c0, c1, c2, c3, cf⟩ := h.c
  clear h
  go_enter Tryz.func45, Tryz.ntmps45
  go_wp2
  go_ret
  exact ⟨rfl, rfl⟩
set_option maxRecDepth 100000 in
set_option maxHeartbeats 1000000 in
theorem bytes_any {d : Nat} {v : Value} {st : DSt} (w : World) (h : DiskAt w d v st) :
    Calls Tryz.prog 44 #[.pointer (some ⟨d, 0, none⟩)] w fun e w' => e = .returned (.string ⟨st.1.toArray⟩) ∧ w' = w := by
  obtain ⟨c0, c1, c2, c3, cf⟩ := h.c
  have hcv := h.row.text
  obtain ⟨g, cap, hv⟩ := h.row.shape
  subst hv
  clear h
  go_enter Tryz.func44, Tryz.ntmps44
  go_wp2
  go_ret
  exact ⟨rfl, rfl⟩
set_option maxRecDepth 100000 in
set_option maxHeartbeats 1000000 in
theorem on_any {d : Nat} {v : Value} {B : List UInt8} {off waits : Bool} {left : Int} (w : World) (h : DiskAt w d v (B, off, waits, left)) :
    Calls Tryz.prog 41 #[.pointer (some ⟨d, 0, none⟩)] w fun e w' => (∃ u, e = .returned u) ∧ Aside (DiskAt w' d v (B, false, false, left) ∧ Keeps (fun k => k = d) w w') := by
  obtain ⟨c0, c1, c2, c3, cf⟩ := h.c
  dsimp only at c1 c2 c3
  have H : Aside (DiskAt w d v (B, off, waits, left)) := h
  clear h
  go_enter Tryz.func41, Tryz.ntmps41
  go_wp2
  go_end0
  have h1 := H.out.set1 false
  have h2 := h1.1.set2 false
  exact ⟨⟨_, rfl⟩, h2.1, h1.2.trans h2.2⟩
structure ErrD (ad : Nat → Addr) (w : World) : Prop where
  c1 : w.cell? ⟨2, 0, none⟩ = some (.iface 416 (.pointer (some (ad 1))))
  c2 : w.cell? ⟨3, 0, none⟩ = some (.iface 416 (.pointer (some (ad 2))))
  c7 : w.cell? ⟨1, 0, none⟩ = some (.iface 416 (.pointer (some (ad 7))))
  c10 : w.cell? ⟨4, 0, none⟩ = some (.iface 416 (.pointer (some (ad 10))))
def cutE (off : Bool) (n : Int) : Nat := if n < 0 then 2 else if off then 11 else 0
def cutSt (st : DSt) (n : Int) : DSt := if cutE st.2.1 n = 0 then (st.1, st.2.1, true, n) else st
set_option maxRecDepth 100000 in
set_option maxHeartbeats 1000000 in
theorem cut_any {ad : Nat → Addr} {d : Nat} {v : Value} {B : List UInt8} {off waits : Bool} {left : Int} (w : World) (n : Int) (h : DiskAt w d v (B, off, waits, left)) (hE : ErrD ad w) (hn : n ≤ 9223372036854775807) :
    Calls Tryz.prog 39 #[.pointer (some ⟨d, 0, none⟩), .int .i64 n] w fun e w' => e = .returned (eV ad (cutE off n)) ∧ Aside (DiskAt w' d v (cutSt (B, off, waits, left) n) ∧ Keeps (fun k => k = d) w w') := by
  obtain ⟨c0, c1, c2, c3, cf⟩ := h.c
  dsimp only at c1 c2 c3
  have H : Aside (DiskAt w d v (B, off, waits, left)) := h
  have hp := power_any w h
  dsimp only at hp
  have e1 := hE.c1
  have e10 := hE.c10
  clear h hE
  by_cases h0 : n < 0
  · have d0 : decide (n < 0) = true := by simp; omega
    have ec : cutE off n = 2 := if_pos h0
    have HC : Aside (cutE off n = 2) := ec
    rw [ec]
    clear ec hp
    go_enter Tryz.func39, Tryz.ntmps39
    go_wp2
    go_ret
    refine ⟨rfl, ?_, Keeps.refl _ _⟩
    unfold cutSt
    rw [HC.out]
    exact H.out
  · have d0 : decide (n < 0) = false := by simp; omega
    cases off with
    | true =>
      have HC : Aside (cutE true n = 11) := by unfold cutE; rw [if_neg h0]; rfl
      rw [HC.out]
      go_enter Tryz.func39, Tryz.ntmps39
      go_wp2_with fail
      refine hp.mono ?_
      clear hp
      rintro e w1 ⟨rfl, rfl⟩
      go_wp2
      go_ret
      refine ⟨rfl, ?_, Keeps.refl _ _⟩
      unfold cutSt
      rw [HC.out]
      exact H.out
    | false =>
      have HC : Aside (cutE false n = 0) := by unfold cutE; rw [if_neg h0]; rfl
      rw [HC.out]
      go_enter Tryz.func39, Tryz.ntmps39
      go_wp2_with fail
      refine hp.mono ?_
      clear hp
      rintro e w1 ⟨rfl, rfl⟩
      go_wp2
      go_ret
      have h1 := H.out.set2 true
      have h2 := h1.1.set3 n ⟨by omega, hn⟩
      refine ⟨rfl, ?_, h1.2.trans h2.2⟩
      unfold cutSt
      rw [HC.out]
      exact h2.1
def wr1 (st : DSt) (c : UInt8) : Bool × DSt := if st.2.2.1 = true ∧ st.2.2.2 = 0 then (false, (st.1, true, false, st.2.2.2)) else if st.2.1 = true then (false, st) else (true, (st.1 ++ [c], st.2.1, st.2.2.1, if st.2.2.1 = true then st.2.2.2 - 1 else st.2.2.2))
def WroteD (d : Nat) (v : Value) (w : World) (st' : DSt) (w' : World) : Prop := ∃ v', DiskAt w' d v' st' ∧ Keeps (OwnD d v) w w' ∧ ∀ g, v'.ownBlock = some g → v.ownBlock = some g ∨ w.heap.size ≤ g
theorem laid_byte {w w2 : World} {d : Nat} {v v2 : Value} {B : List UInt8} {off waits : Bool} {left : Int} {c : UInt8} {o : Obj} (h : DiskAt w d v (B, off, waits, left)) (hr : RowB w2 v2 (B ++ [c])) (hg : (w.alloc o).grownBy w2 v.ownBlock) (hv : ∀ g, v2.ownBlock = some g → v.ownBlock = some g ∨ (w.alloc o).heap.size ≤ g) : DiskAt (w2.setCell ⟨d, 0, none⟩ v2) d v2 (B ++ [c], off, waits, left) ∧ Keeps (OwnD d v) w (w2.setCell ⟨d, 0, none⟩ v2) ∧ ∀ g, v2.ownBlock = some g → v.ownBlock = some g ∨ w.heap.size ≤ g := by
  have hd : w2.heap[d]? = some (.cells #[v, .bool off, .bool waits, .int .i64 left] 175 (0, 0)) := by
    have h1 : (w.alloc o).heap[d]? = w.heap[d]? := Below.heap_alloc w o d h.lt
    rw [(keeps_of_grown hg).block d (by simp; have := h.lt; omega) (fun e => h.ne e.symm), h1]
    exact h.cell
  have hn : v2.ownBlock ≠ some d := fun e => by
    rcases hv d e with q | q
    · exact h.ne q
    · have := h.lt; simp at q; omega
  have h1 := DiskAt.set0 hd hr hn h.left
  refine ⟨h1.1, ?_, fun g e => (hv g e).imp id (fun q => by simp at q; omega)⟩
  have k1 : Keeps (OwnD d v) w w2 := ((Keeps.refl _ w).alloc o).trans ((keeps_of_grown hg).mono (fun k _ e => .inr e.symm))
  exact k1.then h1.2 (fun i _ e => .inl e)
set_option maxRecDepth 100000 in
set_option maxHeartbeats 4000000 in
theorem write_byte {d : Nat} {v : Value} {B : List UInt8} {off waits : Bool} {left : Int} (w : World) (c : UInt8) (h : DiskAt w d v (B, off, waits, left)) (hB : B.length < 1000000) :
    Calls Tryz.prog 100 #[.pointer (some ⟨d, 0, none⟩), .int .u8 (c.toNat : Int)] w fun e w' => e = .returned (.bool (wr1 (B, off, waits, left) c).1) ∧ Aside (WroteD d v w (wr1 (B, off, waits, left) c).2 w') := by
  obtain ⟨c0, c1, c2, c3, cf⟩ := h.c
  dsimp only at c1 c2 c3
  have hleft := h.left
  dsimp only at hleft
  have H : Aside (DiskAt w d v (B, off, waits, left)) := h
  obtain ⟨g, cap, hvs⟩ := h.row.shape
  dsimp only at hvs
  obtain ⟨o, ho⟩ : ∃ o : Obj, Aside (o = .cells #[.int .u8 (c.toNat : Int)] 5) := ⟨_, rfl⟩
  have hrA : RowB (w.alloc o) v B := h.row.same (fun k hk => Below.heap_alloc w o k (h.row.lt hk))
  have hcl : (w.alloc o).cell? ⟨w.heap.size, 0, none⟩ = some (.int .u8 (c.toNat : Int)) := by
    have := heap_alloc_new w o
    unfold World.cell?
    dsimp only
    rw [this, ho.out]
    rfl
  obtain ⟨v2, w2, hrun, hr2, hg2, hv2⟩ := row_append hrA ⟨w.heap.size, 0, none⟩ 173 c hcl hB
  have HL : Aside (DiskAt (w2.setCell ⟨d, 0, none⟩ v2) d v2 (B ++ [c], off, waits, left) ∧ Keeps (OwnD d v) w (w2.setCell ⟨d, 0, none⟩ v2) ∧ ∀ g, v2.ownBlock = some g → v.ownBlock = some g ∨ w.heap.size ≤ g) := laid_byte h hr2 hg2 hv2
  have hd2 : w2.heap[d]? = some (.cells #[v, .bool off, .bool waits, .int .i64 left] 175 (0, 0)) := by
    have h1 : (w.alloc o).heap[d]? = w.heap[d]? := Below.heap_alloc w o d h.lt
    rw [(keeps_of_grown hg2).block d (by simp; have := h.lt; omega) (fun e => h.ne e.symm), h1]
    exact h.cell
  obtain ⟨g2, cap2, hvs2⟩ := hr2.shape
  rw [show (B ++ [c]).length = B.length + 1 by simp] at hvs2
  have y0 : w2.cell? ⟨d, 0, none⟩ = some v := by simp [World.cell?, hd2]
  have y2 : w2.cell? ⟨d, 2, none⟩ = some (.bool waits) := by simp [World.cell?, hd2]
  have y3 : w2.cell? ⟨d, 3, none⟩ = some (.int .i64 left) := by simp [World.cell?, hd2]
  have yf : ∀ o, w2.frozen? ⟨d, o, none⟩ = false := fun o => by simp [World.frozen?, hd2]
  rw [ho.out] at hrun
  clear h hrA hcl hr2 hg2 hv2 hd2
  subst hvs
  subst hvs2
  cases waits with
  | true =>
    by_cases h0 : left = 0
    · subst h0
      have HW : Aside (wr1 (B, off, true, 0) c = (false, (B, true, false, 0))) := by unfold wr1; rfl
      rw [HW.out]
      clear hrun HL y0 y2 y3 yf
      go_enter Tryz.func100, Tryz.ntmps100
      go_wp2
      go_ret
      have h1 := H.out.set1 true
      have h2 := h1.1.set2 false
      exact ⟨rfl, _, h2.1, (h1.2.trans h2.2).mono (fun k _ e => .inl e), fun g hg => .inl hg⟩
    · have d0 : (left == 0) = false := by simp [h0]
      cases off with
      | true =>
        have HW : Aside (wr1 (B, true, true, left) c = (false, (B, true, true, left))) := by
          show wr1 (B, true, true, left) c = _
          unfold wr1
          simp [h0]
        rw [HW.out]
        clear hrun HL y0 y2 y3 yf
        go_enter Tryz.func100, Tryz.ntmps100
        go_wp2
        go_ret
        exact ⟨rfl, _, H.out, Keeps.refl _ _, fun g hg => .inl hg⟩
      | false =>
        have HW : Aside (wr1 (B, false, true, left) c = (true, (B ++ [c], false, true, left - 1))) := by
          show wr1 (B, false, true, left) c = _
          unfold wr1
          simp [h0]
        rw [HW.out]
        have hw1 : IntKind.i64.wrap (left - 1) = left - 1 := by rw [IntKind.wrap_i64]; omega
        go_enter Tryz.func100, Tryz.ntmps100
        go_wp2_with (at_builtin; refine Lib.wpList_append_run _ rfl _ _ _ _ rfl _ _ rfl rfl _ _ hrun ?_)
        go_ret
        have h1 := HL.out.1.set3 (left - 1) (by omega)
        exact ⟨rfl, _, h1.1, HL.out.2.1.then h1.2 (fun k _ e => .inl e), HL.out.2.2⟩
  | false =>
    cases off with
    | true =>
      have HW : Aside (wr1 (B, true, false, left) c = (false, (B, true, false, left))) := by
        show wr1 (B, true, false, left) c = _
        unfold wr1
        simp
      rw [HW.out]
      clear hrun HL y0 y2 y3 yf
      go_enter Tryz.func100, Tryz.ntmps100
      go_wp2
      go_ret
      exact ⟨rfl, _, H.out, Keeps.refl _ _, fun g hg => .inl hg⟩
    | false =>
      have HW : Aside (wr1 (B, false, false, left) c = (true, (B ++ [c], false, false, left))) := by
        show wr1 (B, false, false, left) c = _
        unfold wr1
        simp
      rw [HW.out]
      go_enter Tryz.func100, Tryz.ntmps100
      go_wp2_with (at_builtin; refine Lib.wpList_append_run _ rfl _ _ _ _ rfl _ _ rfl rfl _ _ hrun ?_)
      go_ret
      exact ⟨rfl, _, HL.out.1, HL.out.2.1, HL.out.2.2⟩
end Go.Proofs.YtcggmagdndhkbaaGreatDoor
end
section
namespace Go.Proofs.YtcggmagdndhkbaaGreatDoor
open Go.RowKit
theorem cut_left (s : ByteArray) (c : Nat) (h : c ≤ s.size) : ∃ F : ByteArray, F.data.toList = s.data.toList.take c ∧ ∀ w, (Instr.slice 9 (.string s) none (some (.int .i64 (c : Int))) none).run Tryz.prog w = .ok (.string F) w := by
  refine ⟨s.extract 0 c, by simp, fun w => ?_⟩
  have h1 : (c : Int) ≤ (s.size : Int) := by omega
  have h0 : (0 : Int) ≤ (c : Int) := by omega
  go_simp
theorem cut_right (s : ByteArray) (c : Nat) (h : c ≤ s.size) : ∃ F : ByteArray, F.data.toList = s.data.toList.drop c ∧ ∀ w, (Instr.slice 9 (.string s) (some (.int .i64 (c : Int))) none none).run Tryz.prog w = .ok (.string F) w := by
  refine ⟨s.extract c s.size, by simp; rw [List.take_of_length_le (by simp)], fun w => ?_⟩
  have h1 : (c : Int) ≤ (s.size : Int) := by omega
  have h0 : (0 : Int) ≤ (c : Int) := by omega
  go_simp
theorem add_two (x y : ByteArray) (h : x.size + y.size ≤ 9223372036854775807) : ∃ F : ByteArray, F.data.toList = x.data.toList ++ y.data.toList ∧ F.size = x.size + y.size ∧ ∀ w, (Op.stringOp .add x y).run Tryz.prog w = .ok (.string F) w := by
  refine ⟨x ++ y, by simp, by simp, fun w => ?_⟩
  rw [run_string_add_sum w x y h]
theorem bytes_ext {x y : ByteArray} (h : x.data.toList = y.data.toList) : x = y := by
  cases x; cases y
  simp at h
  rw [h]
theorem take_byte (s : ByteArray) (k : Nat) (h : k < s.size) : s.data.toList.take k ++ [s[k]] = s.data.toList.take (k + 1) := by
  have hl : k < s.data.toList.length := by simpa using h
  rw [List.take_succ_eq_append_getElem hl]
  congr 1
theorem beqL_no {x y : ByteArray} (h : x ≠ y) : (x.toList == y.toList) = false := by
  rw [ByteArray.toList_eq, ByteArray.toList_eq]
  exact beq_false_of_ne (fun e => h (bytes_ext e))
theorem beq_no {x y : ByteArray} (h : x ≠ y) : (x == y) = false := by
  cases x with
  | mk a =>
    cases y with
    | mk b =>
      have hab : a ≠ b := fun e => h (by rw [e])
      show (a == b) = false
      simpa using hab
end Go.Proofs.YtcggmagdndhkbaaGreatDoor
end
section
set_option linter.unusedVariables false
set_option linter.unusedSimpArgs false
namespace Go.Proofs.YtcggmagdndhkbaaGreatDoor
open Go.RowKit Go.Lib Go.Sort
theorem and_one {v : Nat} (h : v < 4294967296) : bits .and .u32 (v : Int) 1 = ((v % 2 : Nat) : Int) := by
  have := u32_and_nat v 1 h (by omega)
  rw [Nat.and_one_is_mod] at this
  exact this
theorem xor_poly {v : Nat} (h : v < 4294967296) : bits .xor .u32 (v : Int) 3988292384 = ((v ^^^ 3988292384 : Nat) : Int) := u32_xor_nat v 3988292384 h (by omega)
theorem not_u32 {v : Nat} (h : v < 4294967296) : bits .xor .u32 IntKind.u32.max (v : Int) = ((4294967295 - v : Nat) : Int) := by
  have e : IntKind.u32.max = ((4294967295 : Nat) : Int) := by decide
  rw [e, u32_xor_nat _ _ (by omega) h, xor_all h]
set_option maxRecDepth 100000 in
set_option maxHeartbeats 2000000 in
theorem divide_any (c : Nat) (w : World) (hc : c < 4294967296) :
    Calls Tryz.prog 265 #[.int .u32 (c : Int)] w fun e w' => e = .returned (.int .u32 ((divN 8 c : Nat) : Int)) ∧ w' = w := by
  go_enter Tryz.func265, Tryz.ntmps265
  go_wp2
  go_loopg [0, 4] 8 (fun kx s0 s4 wr => ∃ (j v : Nat), s0 = .int .u32 (v : Int) ∧ s4 = .int .i64 (j : Int) ∧ j ≤ 8 ∧ 8 - j ≤ kx ∧ v < 4294967296 ∧ Aside (v = divN j c ∧ wr = w))
  case atStart => exact ⟨0, c, rfl, rfl, by omega, by omega, hc, rfl, rfl⟩
  case round =>
    obtain ⟨j, v, rfl, rfl, hj, hjx, hv, A⟩ := hrel
    by_cases hlt : j < 8
    · have d1 : decide ((j : Int) < (8 : Int)) = true := by simp; omega
      have d1n : decide (j < 8) = true := by simp; omega
      have ha := and_one hv
      obtain ⟨hf, hhf⟩ : ∃ hf : Nat, Aside (hf = v / 2) := ⟨_, rfl⟩
      have hh : (v : Int) / 2 = (hf : Int) := by rw [hhf.out]; omega
      by_cases hb : v % 2 = 1
      · rw [hb] at ha
        have hx := xor_poly (v := hf) (by rw [hhf.out]; omega)
        have hvj : hf ^^^ 3988292384 = divN (j + 1) c := by rw [divN_succ, ← A.out.1, hhf.out]; unfold div1; rw [if_pos hb]
        obtain ⟨v', hv'⟩ : ∃ v' : Nat, Aside (v' = hf ^^^ 3988292384) := ⟨_, rfl⟩
        rw [← hv'.out] at hx hvj
        have HV : Aside (v' = divN (j + 1) c ∧ wr = w ∧ v' < 4294967296) := ⟨hvj, A.out.2, by rw [hvj]; exact divN_lt _ hc⟩
        clear A hvj
        go_wp2
        go_roundg (8 - (j + 1))
        case measure => omega
        case rel => exact ⟨j + 1, v', rfl, by go_num, by omega, Nat.le_refl _, HV.out.2.2, HV.out.1, HV.out.2.1⟩
      · rw [show v % 2 = 0 by omega] at ha
        have hvj : hf = divN (j + 1) c := by rw [divN_succ, ← A.out.1, hhf.out]; unfold div1; rw [if_neg hb]
        have HV : Aside (hf = divN (j + 1) c ∧ wr = w ∧ hf < 4294967296) := ⟨hvj, A.out.2, by rw [hvj]; exact divN_lt _ hc⟩
        clear A hvj
        go_wp2
        go_roundg (8 - (j + 1))
        case measure => omega
        case rel => exact ⟨j + 1, hf, rfl, by go_num, by omega, Nat.le_refl _, HV.out.2.2, HV.out.1, HV.out.2.1⟩
    · have d1 : decide ((j : Int) < (8 : Int)) = false := by simp; omega
      have d1n : decide (j < 8) = false := by simp; omega
      have HV : Aside (v = divN 8 c ∧ wr = w) := by
        have e8 : j = 8 := by omega
        have := A.out
        rwa [e8] at this
      clear A
      go_wp2
      go_ret
      exact ⟨by rw [HV.out.1]; rfl, HV.out.2⟩
set_option maxRecDepth 100000 in
set_option maxHeartbeats 2000000 in
theorem sum_any (s : ByteArray) (w : World) (hs : s.size ≤ 1000000) :
    Calls Tryz.prog 212 #[.string s] w fun e w' => e = .returned (.int .u32 ((crcOf s.data.toList : Nat) : Int)) ∧ w' = w := by
  go_enter Tryz.func212, Tryz.ntmps212
  go_wp2
  go_loopg [3, 7] s.size (fun kx s3 s7 wr => ∃ (j v : Nat), s3 = .int .u32 (v : Int) ∧ s7 = .int .i64 (j : Int) ∧ j ≤ s.size ∧ s.size - j ≤ kx ∧ v < 4294967296 ∧ Aside (v = crcL 4294967295 (s.data.toList.take j) ∧ wr = w))
  case atStart => exact ⟨0, 4294967295, rfl, rfl, by omega, by omega, by omega, rfl, rfl⟩
  case round =>
    obtain ⟨j, v, rfl, rfl, hj, hjx, hv, A⟩ := hrel
    by_cases hlt : j < s.size
    · have d1 : decide ((j : Int) < (s.size : Int)) = true := by simp; omega
      have d1n : decide (j < s.size) = true := by simp; omega
      obtain ⟨x, hx⟩ : ∃ x : Nat, Aside (x = v ^^^ s[j].toNat) := ⟨v ^^^ s[j].toNat, rfl⟩
      have hb := s[j].toNat_lt
      have hcv : IntKind.u32.wrap (s[j].toNat : Int) = (s[j].toNat : Int) := by rw [IntKind.wrap_u32']; omega
      have hxx : bits .xor .u32 (v : Int) (s[j].toNat : Int) = (x : Int) := by rw [hx.out]; exact u32_xor_nat v s[j].toNat hv (by omega)
      have hx32 : x < 4294967296 := by rw [hx.out]; exact xor_byte hv s[j]
      have hdv := divide_any x wr hx32
      obtain ⟨v', hv'⟩ : ∃ v' : Nat, Aside (v' = divN 8 x) := ⟨_, rfl⟩
      rw [← hv'.out] at hdv
      have HV : Aside (v' = crcL 4294967295 (s.data.toList.take (j + 1)) ∧ wr = w ∧ v' < 4294967296) := ⟨by rw [← take_byte s j hlt, crcL_snoc, ← A.out.1, hv'.out, hx.out], A.out.2, by rw [hv'.out]; exact divN_lt 8 hx32⟩
      clear A
      go_wp2_with fail
      refine hdv.mono ?_
      clear hdv
      rintro e w1 ⟨rfl, rfl⟩
      go_wp2
      go_roundg (s.size - (j + 1))
      case measure => omega
      case rel => exact ⟨j + 1, v', rfl, by go_num, by omega, Nat.le_refl _, HV.out.2.2, HV.out.1, HV.out.2.1⟩
    · have d1 : decide ((j : Int) < (s.size : Int)) = false := by simp; omega
      have d1n : decide (j < s.size) = false := by simp; omega
      have hvv : v = crcL 4294967295 s.data.toList := by
        have := A.out.1
        rwa [List.take_of_length_le (by simp; omega)] at this
      have HV : Aside (crcOf s.data.toList = 4294967295 - v ∧ wr = w) := ⟨by rw [hvv]; rfl, A.out.2⟩
      clear A hvv
      go_wp2
      go_ret
      refine ⟨?_, HV.out.2⟩
      rw [HV.out.1]
      show Ending.returned (Value.int .u32 _) = _
      rw [not_u32 hv]
end Go.Proofs.YtcggmagdndhkbaaGreatDoor
end
