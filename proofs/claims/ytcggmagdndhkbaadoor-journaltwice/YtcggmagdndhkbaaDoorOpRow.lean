/- Operations in a row of cells. -/
import Derived.Test.YtcggmagdndhkbaaDoorStampID
import Derived.Sort.Grow
import Derived.Deep.LoopGhost
import Derived.Lib.Hide
import Derived.Lib.AppendIntMem
import Derived.Laws.OwnMore
namespace Go.Proofs.YtcggmagdndhkbaaDoor
open Go.RowKit Go.Lib Go.Sort

/-- An operation: its stamp, and the rest. -/
abbrev OpX := Int × Int × Int × Nat × Int × Int × ByteArray × ByteArray
def encX (x : OpX) : List Value := [.int .i64 x.1, .int .i64 x.2.1, .int .i64 x.2.2.1, .int .u8 (x.2.2.2.1 : Int), .int .i64 x.2.2.2.2.1, .int .i64 x.2.2.2.2.2.1, .string x.2.2.2.2.2.2.1, .string x.2.2.2.2.2.2.2]
theorem encX_one (x : OpX) : ∀ v ∈ encX x, v.oneCell' = true := by
  intro v hv
  simp [encX] at hv
  rcases hv with rfl | rfl | rfl | rfl | rfl | rfl | rfl | rfl <;> rfl

theorem cellKept {w w' : World} {b o : Nat} {v : Value} (hb : Below w.heap.size w w') (h : w.cell? ⟨b, o, none⟩ = some v) : w'.cell? ⟨b, o, none⟩ = some v := by
  rw [hb.cell (p := ⟨b, o, none⟩) (World.block_lt_of_cell? w ⟨b, o, none⟩ h)]; exact h

def cellsOf (xs : List OpX) : List Value := xs.flatMap encX
theorem cellsOf_cons (x : OpX) (xs : List OpX) : cellsOf (x :: xs) = encX x ++ cellsOf xs := rfl
theorem encX_len (x : OpX) : (encX x).length = 8 := rfl
theorem cellsOf_len : ∀ xs : List OpX, (cellsOf xs).length = xs.length * 8
  | [] => rfl
  | x :: xs => by rw [cellsOf_cons, List.length_append, cellsOf_len xs, encX_len, List.length_cons]; omega
theorem cellsOf_one (xs : List OpX) : ∀ u ∈ cellsOf xs, u.oneCell' = true := by
  intro u hu
  obtain ⟨x, _, hx⟩ := List.mem_flatMap.1 hu
  exact encX_one x u hx
theorem cellsOf_get : ∀ (xs : List OpX) (i c : Nat), i < xs.length → c < 8 → (cellsOf xs)[i * 8 + c]? = some ((encX xs[i]!)[c]!)
  | [], i, _, hi, _ => absurd hi (by simp)
  | x :: xs, 0, c, _, hc => by
    have e : 0 * 8 + c = c := by omega
    rw [cellsOf_cons, e, List.getElem?_append_left (by rw [encX_len]; exact hc), List.getElem?_eq_getElem (by rw [encX_len]; exact hc)]
    rw [getElem!_pos _ c (by rw [encX_len]; exact hc)]
    rfl
  | x :: xs, i + 1, c, hi, hc => by
    rw [cellsOf_cons, List.getElem?_append_right (by rw [encX_len]; omega), encX_len, show (i + 1) * 8 + c - 8 = i * 8 + c by omega, cellsOf_get xs i c (by simpa using hi) hc]
    simp
theorem cellsOf_app (a b : List OpX) : cellsOf (a ++ b) = cellsOf a ++ cellsOf b := List.flatMap_append

/-- A slice that holds operations. -/
def OpsAt (w : World) (v : Value) (xs : List OpX) : Prop :=
  (v = .slice none 0 0 ∧ xs = []) ∨ ∃ blk off cap, v = .slice (some ⟨blk, off, none⟩) xs.length cap ∧ ∀ j u, (cellsOf xs)[j]? = some u → w.cell? ⟨blk, off + j, none⟩ = some u
theorem OpsAt.later {w w' : World} {v : Value} {xs : List OpX} (h : OpsAt w v xs) (hb : Below w.heap.size w w') : OpsAt w' v xs := by
  rcases h with h | ⟨g, o, c, h1, h2⟩
  · exact .inl h
  · exact .inr ⟨g, o, c, h1, fun j u hj => cellKept hb (h2 j u hj)⟩

theorem infoOp : (Tryd.prog.info? 35).map (fun i => (i.zero, i.size, i.bytes)) = some (some (.agg #[.int .i64 0, .int .i64 0, .int .i64 0, .int .u8 0, .int .i64 0, .int .i64 0, .string ⟨#[]⟩, .string ⟨#[]⟩]), 8, 80) := by kernel_rfl

theorem field_at {w : World} {b off : Nat} {xs : List OpX} (hc : ∀ j u, (cellsOf xs)[j]? = some u → w.cell? ⟨b, off + j, none⟩ = some u) (i c : Nat) (hi : i < xs.length) (h8 : c < 8) : w.cell? ⟨b, off + i * 8 + c, none⟩ = some ((encX xs[i]!)[c]!) := by
  rw [Nat.add_assoc]; exact hc _ _ (cellsOf_get xs i c hi h8)

theorem ownsOps {w : World} {base : Nat} {v : Value} {xs : List OpX} (h : w.ownsRow base 35 8 v xs.length (cellsOf xs)) : OpsAt w v xs := by
  rcases h.2 with ⟨h1, h2⟩ | ⟨g, cap, cur, rfl, _⟩
  · exact .inl ⟨h1, List.length_eq_zero_iff.1 h2⟩
  · refine .inr ⟨g, 0, cap, rfl, fun j u hj => ?_⟩
    have hl : j < (cellsOf xs).length := (List.getElem?_eq_some_iff.1 hj).1
    rw [cellsOf_len] at hl
    rw [Nat.zero_add, h.cellAt j hl, hj]
theorem lit_cells (w : World) (cs : List Value) (h8 : cs.length = 8) (j : Nat) (u : Value) (hj : cs[j]? = some u) : (w.alloc (.cells cs.toArray 35)).cell? ((⟨w.heap.size, 0, none⟩ : Addr).add j) = some u := by
  have hl : j < 1 * 8 := by have := (List.getElem?_eq_some_iff.1 hj).1; omega
  have h := World.ownsRow_lit (base := 0) (e := 35) (size := 8) w cs.toArray 1 (Nat.zero_le _) (by simp [maxLen]) (by simpa using h8)
  rw [Addr.add_lit, Nat.zero_add, h.cellAt j hl]
  simpa using hj

/-- The cells of one operation. -/
structure Eight (w : World) (g p : Nat) (t b m : Int) (kd : Nat) (node other : Int) (name value : ByteArray) : Prop where
  c0 : w.cell? ⟨g, p, none⟩ = some (.int .i64 t)
  c1 : w.cell? ⟨g, p + 1, none⟩ = some (.int .i64 b)
  c2 : w.cell? ⟨g, p + 2, none⟩ = some (.int .i64 m)
  c3 : w.cell? ⟨g, p + 3, none⟩ = some (.int .u8 (kd : Int))
  c4 : w.cell? ⟨g, p + 4, none⟩ = some (.int .i64 node)
  c5 : w.cell? ⟨g, p + 5, none⟩ = some (.int .i64 other)
  c6 : w.cell? ⟨g, p + 6, none⟩ = some (.string name)
  c7 : w.cell? ⟨g, p + 7, none⟩ = some (.string value)
theorem Eight.later {w w' : World} {g p : Nat} {t b m : Int} {kd : Nat} {node other : Int} {name value : ByteArray} (h : Eight w g p t b m kd node other name value) (hb : Below w.heap.size w w') : Eight w' g p t b m kd node other name value :=
  ⟨cellKept hb h.c0, cellKept hb h.c1, cellKept hb h.c2, cellKept hb h.c3, cellKept hb h.c4, cellKept hb h.c5, cellKept hb h.c6, cellKept hb h.c7⟩
theorem eight_at {w : World} {g o : Nat} {xs : List OpX} (hc : ∀ j u, (cellsOf xs)[j]? = some u → w.cell? ⟨g, o + j, none⟩ = some u) (i : Nat) (hi : i < xs.length) {t b m : Int} {kd : Nat} {node other : Int} {name value : ByteArray} (hx : xs[i]! = (t, b, m, kd, node, other, name, value)) : Eight w g (o + i * 8) t b m kd node other name value := by
  have h := fun c h8 => field_at hc i c hi h8
  rw [hx] at h
  exact ⟨h 0 (by omega), h 1 (by omega), h 2 (by omega), h 3 (by omega), h 4 (by omega), h 5 (by omega), h 6 (by omega), h 7 (by omega)⟩
theorem stamp_at {w : World} {g o : Nat} {xs : List OpX} (hc : ∀ j u, (cellsOf xs)[j]? = some u → w.cell? ⟨g, o + j, none⟩ = some u) (i : Nat) (hi : i < xs.length) : w.cell? ⟨g, o + i * 8, none⟩ = some (.int .i64 (xs[i]!).1) ∧ w.cell? ⟨g, o + i * 8 + 1, none⟩ = some (.int .i64 (xs[i]!).2.1) :=
  ⟨field_at hc i 0 hi (by omega), field_at hc i 1 hi (by omega)⟩
end Go.Proofs.YtcggmagdndhkbaaDoor
