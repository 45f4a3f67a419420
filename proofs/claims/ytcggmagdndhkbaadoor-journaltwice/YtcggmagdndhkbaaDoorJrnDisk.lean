/- Contracts of package journal's Disk. -/
import Derived.Test.YtcggmagdndhkbaaDoorJrnRow
import Derived.Test.YtcggmagdndhkbaaDoorOpText
import Derived.Test.YtcggmagdndhkbaaDoorJrnPure
import Derived.Test.YtcggmagdndhkbaaDoorRoundZ
import Derived.Deep.Cut
import Derived.Deep.CutRange
import Derived.Deep.DeepCutAuto
set_option linter.unusedVariables false
set_option linter.unusedSimpArgs false
namespace Go.Proofs.YtcggmagdndhkbaaDoor
open Go Go.RowKit Go.Lib Go.Sort

/-- Bytes; is there no power; does a cut wait; how many bytes ahead of it. -/
abbrev DSt := List UInt8 × Bool × Bool × Int
structure DiskAt (w : World) (d : Nat) (v : Value) (st : DSt) : Prop where
  cell : w.heap[d]? = some (.cells #[v, .bool st.2.1, .bool st.2.2.1, .int .i64 st.2.2.2] 48 (0, 0))
  row : RowB w v st.1
  ne : v.ownBlock ≠ some d
  left : 0 ≤ st.2.2.2 ∧ st.2.2.2 ≤ 9223372036854775807
/-- The blocks of a disk. -/
def OwnD (d : Nat) (v : Value) (k : Nat) : Prop := k = d ∨ v.ownBlock = some k
theorem DiskAt.lt {w : World} {d : Nat} {v : Value} {st : DSt} (h : DiskAt w d v st) : d < w.heap.size := (Array.getElem?_eq_some_iff.1 h.cell).1
theorem DiskAt.own_lt {w : World} {d : Nat} {v : Value} {st : DSt} (h : DiskAt w d v st) {k : Nat} (hk : OwnD d v k) : k < w.heap.size := by
  rcases hk with rfl | hk
  · exact h.lt
  · exact h.row.lt hk
theorem DiskAt.same {w w' : World} {d : Nat} {v : Value} {st : DSt} (h : DiskAt w d v st) (e : ∀ k, OwnD d v k → w'.heap[k]? = w.heap[k]?) : DiskAt w' d v st :=
  ⟨(e d (.inl rfl)).trans h.cell, h.row.same (fun g hg => e g (.inr hg)), h.ne, h.left⟩
theorem DiskAt.later {w w' : World} {d : Nat} {v : Value} {st : DSt} (h : DiskAt w d v st) (hb : Below w.heap.size w w') : DiskAt w' d v st := h.same (fun k hk => hb.block k (h.own_lt hk))
theorem DiskAt.c {w : World} {d : Nat} {v : Value} {st : DSt} (h : DiskAt w d v st) : w.cell? ⟨d, 0, none⟩ = some v ∧ w.cell? ⟨d, 1, none⟩ = some (.bool st.2.1) ∧ w.cell? ⟨d, 2, none⟩ = some (.bool st.2.2.1) ∧ w.cell? ⟨d, 3, none⟩ = some (.int .i64 st.2.2.2) ∧ ∀ o, w.frozen? ⟨d, o, none⟩ = false := by
  have hc := h.cell
  refine ⟨?_, ?_, ?_, ?_, fun o => ?_⟩
  · simp [World.cell?, hc]
  · simp [World.cell?, hc]
  · simp [World.cell?, hc]
  · simp [World.cell?, hc]
  · simp [World.frozen?, hc]
/-- The cells of the disk itself are written. -/
theorem DiskAt.set1 {w : World} {d : Nat} {v : Value} {B : List UInt8} {off waits : Bool} {left : Int} (h : DiskAt w d v (B, off, waits, left)) (z : Bool) : DiskAt (w.setCell ⟨d, 1, none⟩ (.bool z)) d v (B, z, waits, left) ∧ Keeps (fun k => k = d) w (w.setCell ⟨d, 1, none⟩ (.bool z)) := by
  have hk := setCells_keeps d [.bool z] 1 w
  refine ⟨⟨heap_setCell_same w d 1 _ _ _ h.cell, h.row.same (fun g hg => hk.block g (h.row.lt hg) (fun e => h.ne (by rw [← e]; exact hg))), h.ne, h.left⟩, hk⟩
theorem DiskAt.set2 {w : World} {d : Nat} {v : Value} {B : List UInt8} {off waits : Bool} {left : Int} (h : DiskAt w d v (B, off, waits, left)) (z : Bool) : DiskAt (w.setCell ⟨d, 2, none⟩ (.bool z)) d v (B, off, z, left) ∧ Keeps (fun k => k = d) w (w.setCell ⟨d, 2, none⟩ (.bool z)) := by
  have hk := setCells_keeps d [.bool z] 2 w
  refine ⟨⟨heap_setCell_same w d 2 _ _ _ h.cell, h.row.same (fun g hg => hk.block g (h.row.lt hg) (fun e => h.ne (by rw [← e]; exact hg))), h.ne, h.left⟩, hk⟩
theorem DiskAt.set3 {w : World} {d : Nat} {v : Value} {B : List UInt8} {off waits : Bool} {left : Int} (h : DiskAt w d v (B, off, waits, left)) (z : Int) (hz : 0 ≤ z ∧ z ≤ 9223372036854775807) : DiskAt (w.setCell ⟨d, 3, none⟩ (.int .i64 z)) d v (B, off, waits, z) ∧ Keeps (fun k => k = d) w (w.setCell ⟨d, 3, none⟩ (.int .i64 z)) := by
  have hk := setCells_keeps d [.int .i64 z] 3 w
  refine ⟨⟨heap_setCell_same w d 3 _ _ _ h.cell, h.row.same (fun g hg => hk.block g (h.row.lt hg) (fun e => h.ne (by rw [← e]; exact hg))), h.ne, hz⟩, hk⟩
/-- .. and its row. -/
theorem DiskAt.set0 {w : World} {d : Nat} {v v' : Value} {B' : List UInt8} {off waits : Bool} {left : Int} (h : w.heap[d]? = some (.cells #[v, .bool off, .bool waits, .int .i64 left] 48 (0, 0))) (hr : RowB w v' B') (hn : v'.ownBlock ≠ some d) (hl : 0 ≤ left ∧ left ≤ 9223372036854775807) : DiskAt (w.setCell ⟨d, 0, none⟩ v') d v' (B', off, waits, left) ∧ Keeps (fun k => k = d) w (w.setCell ⟨d, 0, none⟩ v') := by
  have hk := setCells_keeps d [v'] 0 w
  refine ⟨⟨heap_setCell_same w d 0 _ _ _ h, hr.same (fun g hg => hk.block g (hr.lt hg) (fun e => hn (by rw [← e]; exact hg))), hn, hl⟩, hk⟩

set_option maxRecDepth 100000 in
set_option maxHeartbeats 1000000 in
theorem newDisk_any (s : ByteArray) (w : World) (hs : s.size ≤ 65536) :
    Calls Tryd.prog 7 #[.string s] w fun e w' => ∃ d v, e = .returned (.tuple #[.pointer (some ⟨d, 0, none⟩), .nilIface]) ∧ Aside (DiskAt w' d v (s.data.toList, false, false, 0) ∧ Below w.heap.size w w' ∧ ∀ k, OwnD d v k → w.heap.size ≤ k) := by
  obtain ⟨v, w1, hcv, hrow, hb, hv⟩ := row_made w s (by omega)
  have d1 : decide ((65536 : Int) < (s.size : Int)) = false := by simp; omega
  have d1n : decide (65536 < s.size) = false := by simp; omega
  have H : Aside (RowB w1 v s.data.toList ∧ Below w.heap.size w w1 ∧ ∀ g, v.ownBlock = some g → w.heap.size ≤ g) := ⟨hrow, hb, hv⟩
  obtain ⟨g, cap, hvs⟩ := hrow.shape
  subst hvs
  clear hrow hb hv
  go_enter Tryd.func7, Tryd.ntmps7
  go_wp2
  go_ret2
  have hb2 : Below w1.heap.size w1 (w1.alloc (.cells #[.slice (some ⟨g, 0, none⟩) s.data.toList.length cap, .bool false, .bool false, .int .i64 0] 48)) := (Below.refl _ w1).alloc (Nat.le_refl _) _
  refine ⟨w1.heap.size, _, rfl, ⟨heap_alloc_new w1 _, H.out.1.same (fun g hg => hb2.block g (H.out.1.lt hg)), fun e => ?_, ⟨by show (0 : Int) ≤ 0; omega, by show (0 : Int) ≤ 9223372036854775807; omega⟩⟩, H.out.2.1.trans (hb2.mono H.out.2.1.size), fun k hk => ?_⟩
  · have := H.out.1.lt e; omega
  · rcases hk with rfl | hk
    · exact H.out.2.1.size
    · exact H.out.2.2 k hk

set_option maxRecDepth 100000 in
set_option maxHeartbeats 1000000 in
theorem power_any {d : Nat} {v : Value} {st : DSt} (w : World) (h : DiskAt w d v st) :
    Calls Tryd.prog 12 #[.pointer (some ⟨d, 0, none⟩)] w fun e w' => e = .returned (.bool (!st.2.1)) ∧ w' = w := by
  obtain ⟨c0, c1, c2, c3, cf⟩ := h.c
  clear h
  go_enter Tryd.func12, Tryd.ntmps12
  go_wp2
  go_ret
  exact ⟨rfl, rfl⟩
set_option maxRecDepth 100000 in
set_option maxHeartbeats 1000000 in
theorem bytes_any {d : Nat} {v : Value} {st : DSt} (w : World) (h : DiskAt w d v st) :
    Calls Tryd.prog 14 #[.pointer (some ⟨d, 0, none⟩)] w fun e w' => e = .returned (.string ⟨st.1.toArray⟩) ∧ w' = w := by
  obtain ⟨c0, c1, c2, c3, cf⟩ := h.c
  have hcv := h.row.text
  obtain ⟨g, cap, hv⟩ := h.row.shape
  subst hv
  clear h
  go_enter Tryd.func14, Tryd.ntmps14
  go_wp2
  go_ret
  exact ⟨rfl, rfl⟩
set_option maxRecDepth 100000 in
set_option maxHeartbeats 1000000 in
theorem on_any {d : Nat} {v : Value} {B : List UInt8} {off waits : Bool} {left : Int} (w : World) (h : DiskAt w d v (B, off, waits, left)) :
    Calls Tryd.prog 20 #[.pointer (some ⟨d, 0, none⟩)] w fun e w' => (∃ u, e = .returned u) ∧ Aside (DiskAt w' d v (B, false, false, left) ∧ Keeps (fun k => k = d) w w') := by
  obtain ⟨c0, c1, c2, c3, cf⟩ := h.c
  dsimp only at c1 c2 c3
  have H : Aside (DiskAt w d v (B, off, waits, left)) := h
  clear h
  go_enter Tryd.func20, Tryd.ntmps20
  go_wp2
  go_end0
  have h1 := H.out.set1 false
  have h2 := h1.1.set2 false
  exact ⟨⟨_, rfl⟩, h2.1, h1.2.trans h2.2⟩

/-- What is off is told. -/
structure ErrD (ad : Nat → Addr) (w : World) : Prop where
  c1 : w.cell? ⟨0, 0, none⟩ = some (.iface 127 (.pointer (some (ad 1))))
  c2 : w.cell? ⟨2, 0, none⟩ = some (.iface 127 (.pointer (some (ad 2))))
  c7 : w.cell? ⟨3, 0, none⟩ = some (.iface 127 (.pointer (some (ad 7))))
  c10 : w.cell? ⟨1, 0, none⟩ = some (.iface 127 (.pointer (some (ad 10))))
theorem ErrD.later {ad : Nat → Addr} {w w' : World} (h : ErrD ad w) (e : ∀ k, k < w.heap.size → k ∈ [0, 2, 3, 1] → w'.heap[k]? = w.heap[k]?) : ErrD ad w' := by
  refine ⟨?_, ?_, ?_, ?_⟩
  · rw [World.cell?_of_block (a := ⟨0, 0, none⟩) (e _ (World.block_lt_of_cell? w ⟨0, 0, none⟩ h.c1) (by simp))]; exact h.c1
  · rw [World.cell?_of_block (a := ⟨2, 0, none⟩) (e _ (World.block_lt_of_cell? w ⟨2, 0, none⟩ h.c2) (by simp))]; exact h.c2
  · rw [World.cell?_of_block (a := ⟨3, 0, none⟩) (e _ (World.block_lt_of_cell? w ⟨3, 0, none⟩ h.c7) (by simp))]; exact h.c7
  · rw [World.cell?_of_block (a := ⟨1, 0, none⟩) (e _ (World.block_lt_of_cell? w ⟨1, 0, none⟩ h.c10) (by simp))]; exact h.c10
def cutE (off : Bool) (n : Int) : Nat := if n < 0 then 2 else if off then 11 else 0
def cutSt (st : DSt) (n : Int) : DSt := if cutE st.2.1 n = 0 then (st.1, st.2.1, true, n) else st
set_option maxRecDepth 100000 in
set_option maxHeartbeats 1000000 in
theorem cut_any {ad : Nat → Addr} {d : Nat} {v : Value} {B : List UInt8} {off waits : Bool} {left : Int} (w : World) (n : Int) (h : DiskAt w d v (B, off, waits, left)) (hE : ErrD ad w) (hn : n ≤ 9223372036854775807) :
    Calls Tryd.prog 8 #[.pointer (some ⟨d, 0, none⟩), .int .i64 n] w fun e w' => e = .returned (eV ad (cutE off n)) ∧ Aside (DiskAt w' d v (cutSt (B, off, waits, left) n) ∧ Keeps (fun k => k = d) w w') := by
  obtain ⟨c0, c1, c2, c3, cf⟩ := h.c
  dsimp only at c1 c2 c3
  have H : Aside (DiskAt w d v (B, off, waits, left)) := h
  have hp := power_any w h
  dsimp only at hp
  have e1 := hE.c1
  have e10 := hE.c10
  clear h hE
  by_cases h0 : n < 0
  · have d0 : decide (n < 0) = true := by simp; omega
    have ec : cutE off n = 2 := if_pos h0
    have HC : Aside (cutE off n = 2) := ec
    rw [ec]
    clear ec hp
    go_enter Tryd.func8, Tryd.ntmps8
    go_wp2
    go_ret
    refine ⟨rfl, ?_, Keeps.refl _ _⟩
    unfold cutSt
    rw [HC.out]
    exact H.out
  · have d0 : decide (n < 0) = false := by simp; omega
    cases off with
    | true =>
      have HC : Aside (cutE true n = 11) := by unfold cutE; rw [if_neg h0]; rfl
      rw [HC.out]
      go_enter Tryd.func8, Tryd.ntmps8
      go_wp2_with fail
      refine hp.mono ?_
      clear hp
      rintro e w1 ⟨rfl, rfl⟩
      go_wp2
      go_ret
      refine ⟨rfl, ?_, Keeps.refl _ _⟩
      unfold cutSt
      rw [HC.out]
      exact H.out
    | false =>
      have HC : Aside (cutE false n = 0) := by unfold cutE; rw [if_neg h0]; rfl
      rw [HC.out]
      go_enter Tryd.func8, Tryd.ntmps8
      go_wp2_with fail
      refine hp.mono ?_
      clear hp
      rintro e w1 ⟨rfl, rfl⟩
      go_wp2
      go_ret
      have h1 := H.out.set2 true
      have h2 := h1.1.set3 n ⟨by omega, hn⟩
      refine ⟨rfl, ?_, h1.2.trans h2.2⟩
      unfold cutSt
      rw [HC.out]
      exact h2.1

/-- One byte is written, as far as there is power. -/
def wr1 (st : DSt) (c : UInt8) : Bool × DSt := if st.2.2.1 = true ∧ st.2.2.2 = 0 then (false, (st.1, true, false, st.2.2.2)) else if st.2.1 = true then (false, st) else (true, (st.1 ++ [c], st.2.1, st.2.2.1, if st.2.2.1 = true then st.2.2.2 - 1 else st.2.2.2))
def WroteD (d : Nat) (v : Value) (w : World) (st' : DSt) (w' : World) : Prop := ∃ v', DiskAt w' d v' st' ∧ Keeps (OwnD d v) w w' ∧ ∀ g, v'.ownBlock = some g → v.ownBlock = some g ∨ w.heap.size ≤ g
/-- The byte is laid. -/
theorem laid_byte {w w2 : World} {d : Nat} {v v2 : Value} {B : List UInt8} {off waits : Bool} {left : Int} {c : UInt8} {o : Obj} (h : DiskAt w d v (B, off, waits, left)) (hr : RowB w2 v2 (B ++ [c])) (hg : (w.alloc o).grownBy w2 v.ownBlock) (hv : ∀ g, v2.ownBlock = some g → v.ownBlock = some g ∨ (w.alloc o).heap.size ≤ g) : DiskAt (w2.setCell ⟨d, 0, none⟩ v2) d v2 (B ++ [c], off, waits, left) ∧ Keeps (OwnD d v) w (w2.setCell ⟨d, 0, none⟩ v2) ∧ ∀ g, v2.ownBlock = some g → v.ownBlock = some g ∨ w.heap.size ≤ g := by
  have hd : w2.heap[d]? = some (.cells #[v, .bool off, .bool waits, .int .i64 left] 48 (0, 0)) := by
    have h1 : (w.alloc o).heap[d]? = w.heap[d]? := Below.heap_alloc w o d h.lt
    rw [(keeps_of_grown hg).block d (by simp; have := h.lt; omega) (fun e => h.ne e.symm), h1]
    exact h.cell
  have hn : v2.ownBlock ≠ some d := fun e => by
    rcases hv d e with q | q
    · exact h.ne q
    · have := h.lt; simp at q; omega
  have h1 := DiskAt.set0 hd hr hn h.left
  refine ⟨h1.1, ?_, fun g e => (hv g e).imp id (fun q => by simp at q; omega)⟩
  have k1 : Keeps (OwnD d v) w w2 := ((Keeps.refl _ w).alloc o).trans ((keeps_of_grown hg).mono (fun k _ e => .inr e.symm))
  exact k1.then h1.2 (fun i _ e => .inl e)
set_option maxRecDepth 100000 in
set_option maxHeartbeats 4000000 in
theorem write_byte {d : Nat} {v : Value} {B : List UInt8} {off waits : Bool} {left : Int} (w : World) (c : UInt8) (h : DiskAt w d v (B, off, waits, left)) (hB : B.length < 1000000) :
    Calls Tryd.prog 19 #[.pointer (some ⟨d, 0, none⟩), .int .u8 (c.toNat : Int)] w fun e w' => e = .returned (.bool (wr1 (B, off, waits, left) c).1) ∧ Aside (WroteD d v w (wr1 (B, off, waits, left) c).2 w') := by
  obtain ⟨c0, c1, c2, c3, cf⟩ := h.c
  dsimp only at c1 c2 c3
  have hleft := h.left
  dsimp only at hleft
  have H : Aside (DiskAt w d v (B, off, waits, left)) := h
  obtain ⟨g, cap, hvs⟩ := h.row.shape
  dsimp only at hvs
  obtain ⟨o, ho⟩ : ∃ o : Obj, Aside (o = .cells #[.int .u8 (c.toNat : Int)] 5) := ⟨_, rfl⟩
  have hrA : RowB (w.alloc o) v B := h.row.same (fun k hk => Below.heap_alloc w o k (h.row.lt hk))
  have hcl : (w.alloc o).cell? ⟨w.heap.size, 0, none⟩ = some (.int .u8 (c.toNat : Int)) := by
    have := heap_alloc_new w o
    unfold World.cell?
    dsimp only
    rw [this, ho.out]
    rfl
  obtain ⟨v2, w2, hrun, hr2, hg2, hv2⟩ := row_append hrA ⟨w.heap.size, 0, none⟩ 46 c hcl hB
  have HL : Aside (DiskAt (w2.setCell ⟨d, 0, none⟩ v2) d v2 (B ++ [c], off, waits, left) ∧ Keeps (OwnD d v) w (w2.setCell ⟨d, 0, none⟩ v2) ∧ ∀ g, v2.ownBlock = some g → v.ownBlock = some g ∨ w.heap.size ≤ g) := laid_byte h hr2 hg2 hv2
  have hd2 : w2.heap[d]? = some (.cells #[v, .bool off, .bool waits, .int .i64 left] 48 (0, 0)) := by
    have h1 : (w.alloc o).heap[d]? = w.heap[d]? := Below.heap_alloc w o d h.lt
    rw [(keeps_of_grown hg2).block d (by simp; have := h.lt; omega) (fun e => h.ne e.symm), h1]
    exact h.cell
  obtain ⟨g2, cap2, hvs2⟩ := hr2.shape
  rw [show (B ++ [c]).length = B.length + 1 by simp] at hvs2
  have y0 : w2.cell? ⟨d, 0, none⟩ = some v := by simp [World.cell?, hd2]
  have y2 : w2.cell? ⟨d, 2, none⟩ = some (.bool waits) := by simp [World.cell?, hd2]
  have y3 : w2.cell? ⟨d, 3, none⟩ = some (.int .i64 left) := by simp [World.cell?, hd2]
  have yf : ∀ o, w2.frozen? ⟨d, o, none⟩ = false := fun o => by simp [World.frozen?, hd2]
  rw [ho.out] at hrun
  clear h hrA hcl hr2 hg2 hv2 hd2
  subst hvs
  subst hvs2
  cases waits with
  | true =>
    by_cases h0 : left = 0
    · subst h0
      have HW : Aside (wr1 (B, off, true, 0) c = (false, (B, true, false, 0))) := by unfold wr1; rfl
      rw [HW.out]
      clear hrun HL y0 y2 y3 yf
      go_enter Tryd.func19, Tryd.ntmps19
      go_wp2
      go_ret
      have h1 := H.out.set1 true
      have h2 := h1.1.set2 false
      exact ⟨rfl, _, h2.1, (h1.2.trans h2.2).mono (fun k _ e => .inl e), fun g hg => .inl hg⟩
    · have d0 : (left == 0) = false := by simp [h0]
      cases off with
      | true =>
        have HW : Aside (wr1 (B, true, true, left) c = (false, (B, true, true, left))) := by
          show wr1 (B, true, true, left) c = _
          unfold wr1
          simp [h0]
        rw [HW.out]
        clear hrun HL y0 y2 y3 yf
        go_enter Tryd.func19, Tryd.ntmps19
        go_wp2
        go_ret
        exact ⟨rfl, _, H.out, Keeps.refl _ _, fun g hg => .inl hg⟩
      | false =>
        have HW : Aside (wr1 (B, false, true, left) c = (true, (B ++ [c], false, true, left - 1))) := by
          show wr1 (B, false, true, left) c = _
          unfold wr1
          simp [h0]
        rw [HW.out]
        have hw1 : IntKind.i64.wrap (left - 1) = left - 1 := by rw [IntKind.wrap_i64]; omega
        go_enter Tryd.func19, Tryd.ntmps19
        go_wp2_with (at_builtin; refine Lib.wpList_append_run _ rfl _ _ _ _ rfl _ _ rfl rfl _ _ hrun ?_)
        go_ret
        have h1 := HL.out.1.set3 (left - 1) (by omega)
        exact ⟨rfl, _, h1.1, HL.out.2.1.then h1.2 (fun k _ e => .inl e), HL.out.2.2⟩
  | false =>
    cases off with
    | true =>
      have HW : Aside (wr1 (B, true, false, left) c = (false, (B, true, false, left))) := by
        show wr1 (B, true, false, left) c = _
        unfold wr1
        simp
      rw [HW.out]
      clear hrun HL y0 y2 y3 yf
      go_enter Tryd.func19, Tryd.ntmps19
      go_wp2
      go_ret
      exact ⟨rfl, _, H.out, Keeps.refl _ _, fun g hg => .inl hg⟩
    | false =>
      have HW : Aside (wr1 (B, false, false, left) c = (true, (B ++ [c], false, false, left))) := by
        show wr1 (B, false, false, left) c = _
        unfold wr1
        simp
      rw [HW.out]
      go_enter Tryd.func19, Tryd.ntmps19
      go_wp2_with (at_builtin; refine Lib.wpList_append_run _ rfl _ _ _ _ rfl _ _ rfl rfl _ _ hrun ?_)
      go_ret
      exact ⟨rfl, _, HL.out.1, HL.out.2.1, HL.out.2.2⟩
end Go.Proofs.YtcggmagdndhkbaaDoor
