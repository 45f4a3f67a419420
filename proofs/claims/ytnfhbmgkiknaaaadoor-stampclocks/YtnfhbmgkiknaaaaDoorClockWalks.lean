/- Contracts of package stamp's clock (New, Hear, Tick, Time). -/
import Derived.Test.YtnfhbmgkiknaaaaDoorStampWalks
import Derived.Deep.QuietTactic
import Derived.BigQuiet
import Derived.WalkSmall
import Derived.RegionTactic
import Derived.Laws.Pointers
namespace Go.Proofs.YtnfhbmgkiknaaaaDoor
open Go.RowKit

/-- w' is w but for block pb, and for new blocks. -/
structure But (pb : Nat) (w w' : World) : Prop where
  os : w'.os = w.os
  tape : w'.tape = w.tape
  output : w'.output = w.output
  size : w.heap.size ≤ w'.heap.size
  block : ∀ k, k < w.heap.size → k ≠ pb → w'.heap[k]? = w.heap[k]?

theorem But.of_below {pb : Nat} {w w' : World} (h : Below w.heap.size w w') : But pb w w' := ⟨h.os, h.tape, h.output, h.size, fun k hk _ => h.block k hk⟩
theorem But.below {pb : Nat} {w w' : World} (h : But pb w w') (hp : pb < w.heap.size) : Below pb w w' := ⟨h.os, h.tape, h.output, h.size, fun k hk => h.block k (by omega) (by omega)⟩
theorem But.later {pb : Nat} {w w1 w' : World} (h : But pb w w1) (hb : Below w1.heap.size w1 w') : But pb w w' :=
  ⟨hb.os.trans h.os, hb.tape.trans h.tape, hb.output.trans h.output, Nat.le_trans h.size hb.size, fun k hk hn => (hb.block k (Nat.lt_of_lt_of_le hk h.size)).trans (h.block k hk hn)⟩
theorem But.setCell {pb o : Nat} {w w1 : World} (h : But pb w w1) (v : Value) : But pb w (w1.setCell ⟨pb, o, none⟩ v) := by
  have hb : Below 0 w1 (w1.setCell ⟨pb, o, none⟩ v) := (Below.refl 0 w1).setCell (Nat.zero_le _) v
  exact ⟨hb.os.trans h.os, hb.tape.trans h.tape, hb.output.trans h.output, Nat.le_trans h.size hb.size, fun k hk hn => (Below.heap_setCell w1 ⟨pb, o, none⟩ v k hn).trans (h.block k hk hn)⟩
theorem But.setNew {pb : Nat} {w w1 : World} (h : But pb w w1) {p : Addr} (hp : w.heap.size ≤ p.block) (v : Value) : But pb w (w1.setCell p v) := by
  have hb : Below 0 w1 (w1.setCell p v) := (Below.refl 0 w1).setCell (Nat.zero_le _) v
  exact ⟨hb.os.trans h.os, hb.tape.trans h.tape, hb.output.trans h.output, Nat.le_trans h.size hb.size, fun k hk hn => (Below.heap_setCell w1 p v k (by omega)).trans (h.block k hk hn)⟩

set_option maxHeartbeats 400000 in
theorem new_ok (b : Int) (w : World) (h3 : 0 ≤ b) (h4 : b < 4) :
    Calls Tryd.prog 25 #[.int .i64 b] w fun e w' => e = .returned (.tuple #[.pointer (some ⟨w.heap.size, 0, none⟩), .nilIface]) ∧ w' = w.alloc (.cells #[.int .i64 0, .int .i64 b] 111) := by
  go_enter Tryd.func25, Tryd.ntmps25
  go_wp2
  go_ret2
  exact ⟨rfl, rfl⟩

set_option maxHeartbeats 400000 in
theorem new_no (b : Int) (w : World) (eb : Value) (hg : w.cell? ⟨1, 0, none⟩ = some eb) (h : b < 0 ∨ 4 ≤ b) :
    Calls Tryd.prog 25 #[.int .i64 b] w fun e w' => e = .returned (.tuple #[.pointer none, eb]) ∧ Below w.heap.size w w' := by
  rcases h with h | h
  · go_enter Tryd.func25, Tryd.ntmps25
    go_wp2
    go_quiet (fail)
    go_wp2
    go_ret2
    exact ⟨rfl, below_drewN (Below.refl _ _) _⟩
  · have d4 : decide (b < 4) = false := by simp; omega
    go_enter Tryd.func25, Tryd.ntmps25
    go_wp2
    go_quiet (fail)
    go_wp2
    go_ret2
    exact ⟨rfl, below_drewN (Below.refl _ _) _⟩

set_option maxHeartbeats 400000 in
theorem time_any (pb : Nat) (T : Int) (w : World) (hT : w.cell? ⟨pb, 0, none⟩ = some (.int .i64 T)) :
    Calls Tryd.prog 28 #[.pointer (some ⟨pb, 0, none⟩)] w fun e w' => e = .returned (.int .i64 T) ∧ w' = w := by
  go_enter Tryd.func28, Tryd.ntmps28
  go_wp2
  go_ret
  exact ⟨rfl, rfl⟩

/-- The clock at block pb: its time, whose it is, and that it may be written. -/
structure Clk (pb : Nat) (T b : Int) (w : World) : Prop where
  t : w.cell? ⟨pb, 0, none⟩ = some (.int .i64 T)
  b : w.cell? ⟨pb, 1, none⟩ = some (.int .i64 b)
  f : w.frozen? ⟨pb, 0, none⟩ = false
theorem Clk.lt {pb : Nat} {T b : Int} {w : World} (h : Clk pb T b w) : pb < w.heap.size := World.block_lt_of_cell? w ⟨pb, 0, none⟩ h.t
theorem Clk.later {pb : Nat} {T b : Int} {w w' : World} (h : Clk pb T b w) (hb : Below w.heap.size w w') : Clk pb T b w' :=
  ⟨cell_later hb h.t, cell_later hb h.b, (hb.frozen (p := ⟨pb, 0, none⟩) h.lt).trans h.f⟩
theorem Clk.set {pb : Nat} {T b : Int} {w : World} (h : Clk pb T b w) (T' : Int) : Clk pb T' b (w.setCell ⟨pb, 0, none⟩ (.int .i64 T')) :=
  ⟨World.cell?_setCell_same _ _ _ h.t, (World.cell?_setCell_other _ _ _ _ (by simp)).trans h.b, by rw [World.frozen?_setCell]; exact h.f⟩
theorem Clk.setNew {pb : Nat} {T b : Int} {w : World} (h : Clk pb T b w) {p : Addr} (hp : pb ≠ p.block) (v : Value) : Clk pb T b (w.setCell p v) :=
  ⟨(World.cell?_setCell_other _ _ _ _ (fun e => hp (by rw [e]))).trans h.t, (World.cell?_setCell_other _ _ _ _ (fun e => hp (by rw [e]))).trans h.b, by rw [World.frozen?_setCell]; exact h.f⟩

set_option maxHeartbeats 400000 in
theorem hear_no (pb : Nat) (t b : Int) (w : World) (u : TypeId) (x : Value) (hg : w.cell? ⟨1, 0, none⟩ = some (.iface u x)) (h : ¬ (1 ≤ t ∧ t ≤ 1073741824 ∧ 0 ≤ b ∧ b < 4)) :
    Calls Tryd.prog 26 #[.pointer (some ⟨pb, 0, none⟩), .agg #[.int .i64 t, .int .i64 b]] w fun e w' => e = .returned (.iface u x) ∧ Below w.heap.size w w' := by
  have H : Hid (¬ (1 ≤ t ∧ t ≤ 1073741824 ∧ 0 ≤ b ∧ b < 4)) := h
  have hz : 1 < w.heap.size := World.block_lt_of_cell? w ⟨1, 0, none⟩ hg
  clear h
  go_enter Tryd.func26, Tryd.ntmps26
  go_wp2_with fail
  refine (check_no t b _ (.iface u x) (by rw [World.cell?_alloc_lt _ _ _ hz]; exact hg) (by simp <;> omega) H.out).mono ?_
  rintro e w1 ⟨rfl, hb⟩
  go_wp2
  go_ret
  exact ⟨rfl, ((Below.refl _ _).alloc (Nat.le_refl _) _).trans (hb.mono (by simp))⟩

def tmax (T t : Int) : Int := if T < t then t else T

set_option maxHeartbeats 400000 in
theorem hear_ok (pb : Nat) (T c t b : Int) (w : World) (hC : Clk pb T c w) (h1 : 1 ≤ t) (h2 : t ≤ 1073741824) (h3 : 0 ≤ b) (h4 : b < 4) :
    Calls Tryd.prog 26 #[.pointer (some ⟨pb, 0, none⟩), .agg #[.int .i64 t, .int .i64 b]] w fun e w' => e = .returned .nilIface ∧ But pb w w' ∧ Clk pb (tmax T t) c w' := by
  have C0 := hC.later ((Below.refl _ _).alloc (Nat.le_refl _) (.cells #[.int .i64 t, .int .i64 b] 36))
  have hlt := hC.lt
  clear hC
  by_cases hgt : T < t
  · have ht : tmax T t = t := by unfold tmax; rw [if_pos hgt]
    have HT : Hid (tmax T t = t) := ht
    clear ht
    go_enter Tryd.func26, Tryd.ntmps26
    go_wp2_with fail
    refine (check_ok t b _ h1 h2 h3 h4).mono ?_
    rintro e w1 ⟨rfl, hb⟩
    have s0 : w1.cell? ⟨w.heap.size, 0, none⟩ = some (.int .i64 t) := cell_later hb (by simp [go_sem])
    have B1 : Below w.heap.size w w1 := ((Below.refl _ _).alloc (Nat.le_refl _) _).trans (hb.mono (by simp))
    have C1 := C0.later hb
    obtain ⟨k0, k1, kf⟩ := C1
    clear C0 hb
    go_wp2
    go_quiet (fail)
    go_wp2
    go_ret
    exact ⟨rfl, (But.of_below (below_drewN B1 _)).setCell _, by rw [HT.out]; exact Clk.set (T := T) (Clk.later ⟨k0, k1, kf⟩ (below_drewN (Below.refl _ _) _)) t⟩
  · have ht : tmax T t = T := by unfold tmax; rw [if_neg hgt]
    have HT : Hid (tmax T t = T) := ht
    clear ht
    go_enter Tryd.func26, Tryd.ntmps26
    go_wp2_with fail
    refine (check_ok t b _ h1 h2 h3 h4).mono ?_
    rintro e w1 ⟨rfl, hb⟩
    have s0 : w1.cell? ⟨w.heap.size, 0, none⟩ = some (.int .i64 t) := cell_later hb (by simp [go_sem])
    have B1 : Below w.heap.size w w1 := ((Below.refl _ _).alloc (Nat.le_refl _) _).trans (hb.mono (by simp))
    have C1 := C0.later hb
    obtain ⟨k0, k1, kf⟩ := C1
    clear C0 hb
    go_wp2
    go_quiet (fail)
    go_wp2
    go_ret
    exact ⟨rfl, But.of_below (below_drewN B1 _), by rw [HT.out]; exact ⟨k0, k1, kf⟩⟩

set_option maxHeartbeats 400000 in
theorem tick_full (pb : Nat) (T c : Int) (w : World) (eb : Value) (hg : w.cell? ⟨7, 0, none⟩ = some eb) (hC : Clk pb T c w) (hT : 1073741824 ≤ T) :
    Calls Tryd.prog 27 #[.pointer (some ⟨pb, 0, none⟩)] w fun e w' => e = .returned (.tuple #[.agg #[.int .i64 0, .int .i64 0], eb]) ∧ Below w.heap.size w w' := by
  obtain ⟨k0, k1, kf⟩ := hC
  have hz : 7 < w.heap.size := World.block_lt_of_cell? w ⟨7, 0, none⟩ hg
  have hp : pb < w.heap.size := World.block_lt_of_cell? w ⟨pb, 0, none⟩ k0
  go_enter Tryd.func27, Tryd.ntmps27
  go_wp2
  go_region
  all_goals try go_wp2
  exact bodyPost_ret (v := .tuple #[.agg #[.int .i64 0, .int .i64 0], eb]) (by simp [results, Tryd.results27, go_sem]) rfl ⟨rfl, ((Below.refl _ _).alloc (Nat.le_refl _) _).drew⟩

set_option maxHeartbeats 400000 in
theorem tick_ok (pb : Nat) (T c : Int) (w : World) (hC : Clk pb T c w) (h0 : 0 ≤ T) (hT : T < 1073741824) :
    Calls Tryd.prog 27 #[.pointer (some ⟨pb, 0, none⟩)] w fun e w' => e = .returned (.tuple #[.agg #[.int .i64 (T + 1), .int .i64 c], .nilIface]) ∧ But pb w w' ∧ Clk pb (T + 1) c w' := by
  obtain ⟨k0, k1, kf⟩ := hC
  have hp : pb < w.heap.size := World.block_lt_of_cell? w ⟨pb, 0, none⟩ k0
  go_enter Tryd.func27, Tryd.ntmps27
  go_wp2
  exact bodyPost_ret (v := .tuple #[.agg #[.int .i64 (T + 1), .int .i64 c], .nilIface]) (by simp [results, Tryd.results27, go_sem]) rfl
    ⟨rfl, ((But.of_below (Below.refl _ _)).setCell _).later ((Below.refl _ _).alloc (Nat.le_refl _) _), (Clk.set (T := T) ⟨k0, k1, kf⟩ (T + 1)).later ((Below.refl _ _).alloc (Nat.le_refl _) _)⟩
end Go.Proofs.YtnfhbmgkiknaaaaDoor
