/- Read and VectorOf by what a text is; a vector's own text read; what the end of the law's walk holds on to. -/
import Derived.Test.YtnfhbmgkiknaaaaDoorPairsParts
namespace Go.Proofs.YtnfhbmgkiknaaaaDoor
open Go.RowKit

theorem EnvS.t {D : Nat} {ad : Nat → Addr} {m : Int} {w : World} (h : EnvS D ad m w) : w.cell? ⟨0, 0, none⟩ = some (.iface 105 (.pointer (some (ad 0)))) := h.errs.c0
theorem EnvS.b {D : Nat} {ad : Nat → Addr} {m : Int} {w : World} (h : EnvS D ad m w) : w.cell? ⟨1, 0, none⟩ = some (.iface 105 (.pointer (some (ad 1)))) := h.errs.c1

theorem four_pieces {l : List UInt8} (h : (cutL l).length = 4) : ∃ l0 l1 l2 l3, cutL l = [l0, l1, l2, l3] := by
  match cutL l, h with
  | [a, b, c, d], _ => exact ⟨a, b, c, d, rfl⟩

theorem read_text {D : Nat} {ad : Nat → Addr} {m : Int} (s : ByteArray) (w : World) (hs : s.size ≤ 100) (h : EnvS D ad m w) (hR : readL s.data.toList = RV.text) :
    Calls Tryd.prog 40 #[.string s] w fun e w' => e = .returned (.tuple #[.agg #[.int .i64 0, .int .i64 0, .int .i64 0, .int .i64 0], .iface 105 (.pointer (some (ad 0)))]) ∧ Below w.heap.size w w' := by
  by_cases h4 : (cutL s.data.toList).length = 4
  · obtain ⟨l0, l1, l2, l3, hl⟩ := four_pieces h4
    rw [readL_four hl] at hR
    rcases four_of l0 l1 l2 l3 with ⟨h0, e⟩ | ⟨n0, h0, h1, e⟩ | ⟨n0, n1, h0, h1, h2, e⟩ | ⟨n0, n1, n2, h0, h1, h2, h3, e⟩ | ⟨n0, n1, n2, n3, k', h0, h1, h2, h3, hb, e⟩ | ⟨m0, m1, m2, m3, h0, h1, h2, h3, hb, e⟩
    · exact rd_t0 s w hs m h.max _ _ _ _ h.t h.b l0 l1 l2 l3 hl h0
    · exact rd_t1 s w hs m h.max _ _ _ _ h.t h.b l0 l1 l2 l3 hl n0 h0 h1
    · exact rd_t2 s w hs m h.max _ _ _ _ h.t h.b l0 l1 l2 l3 hl n0 h0 n1 h1 h2
    · exact rd_t3 s w hs m h.max _ _ _ _ h.t h.b l0 l1 l2 l3 hl n0 h0 n1 h1 n2 h2 h3
    · rw [e] at hR; cases hR
    · rw [e] at hR; cases hR
  · exact rd_len s w hs m h.max _ _ _ _ h.t h.b h4

theorem read_bound {D : Nat} {ad : Nat → Addr} {m : Int} (s : ByteArray) (w : World) (hs : s.size ≤ 100) (h : EnvS D ad m w) (k : Nat) (hR : readL s.data.toList = RV.bound k) :
    Calls Tryd.prog 40 #[.string s] w fun e w' => ∃ nb, e = .returned (.tuple #[.agg #[.int .i64 0, .int .i64 0, .int .i64 0, .int .i64 0], .iface 29 (.pointer (some ⟨nb, 0, none⟩))]) ∧ w'.cell? ⟨nb, 0, none⟩ = some (.int .i64 (k : Int)) ∧ w'.cell? ⟨nb, 1, none⟩ = some (.iface 105 (.pointer (some (ad 1)))) ∧ Below w.heap.size w w' := by
  by_cases h4 : (cutL s.data.toList).length = 4
  · obtain ⟨l0, l1, l2, l3, hl⟩ := four_pieces h4
    rw [readL_four hl] at hR
    rcases four_of l0 l1 l2 l3 with ⟨h0, e⟩ | ⟨n0, h0, h1, e⟩ | ⟨n0, n1, h0, h1, h2, e⟩ | ⟨n0, n1, n2, h0, h1, h2, h3, e⟩ | ⟨n0, n1, n2, n3, k', h0, h1, h2, h3, hb, e⟩ | ⟨m0, m1, m2, m3, h0, h1, h2, h3, hb, e⟩
    · rw [e] at hR; cases hR
    · rw [e] at hR; cases hR
    · rw [e] at hR; cases hR
    · rw [e] at hR; cases hR
    · rw [e] at hR; cases hR; exact rd_b s w hs m h.max _ _ _ _ h.t h.b l0 l1 l2 l3 hl n0 h0 n1 h1 n2 h2 n3 h3 _ hb
    · rw [e] at hR; cases hR
  · rw [readL_not h4] at hR; cases hR

theorem read_ok {D : Nat} {ad : Nat → Addr} {m : Int} (s : ByteArray) (w : World) (hs : s.size ≤ 100) (h : EnvS D ad m w) (n0 n1 n2 n3 : Nat) (hR : readL s.data.toList = RV.ok n0 n1 n2 n3) :
    Calls Tryd.prog 40 #[.string s] w fun e w' => e = .returned (.tuple #[.agg #[.int .i64 (n0 : Int), .int .i64 (n1 : Int), .int .i64 (n2 : Int), .int .i64 (n3 : Int)], .nilIface]) ∧ Below w.heap.size w w' := by
  by_cases h4 : (cutL s.data.toList).length = 4
  · obtain ⟨l0, l1, l2, l3, hl⟩ := four_pieces h4
    rw [readL_four hl] at hR
    rcases four_of l0 l1 l2 l3 with ⟨h0, e⟩ | ⟨n0, h0, h1, e⟩ | ⟨n0, n1, h0, h1, h2, e⟩ | ⟨n0, n1, n2, h0, h1, h2, h3, e⟩ | ⟨n0, n1, n2, n3, k', h0, h1, h2, h3, hb, e⟩ | ⟨m0, m1, m2, m3, h0, h1, h2, h3, hb, e⟩
    · rw [e] at hR; cases hR
    · rw [e] at hR; cases hR
    · rw [e] at hR; cases hR
    · rw [e] at hR; cases hR
    · rw [e] at hR; cases hR
    · rw [e] at hR; cases hR; exact rd_ok s w hs m h.max _ _ _ _ h.t h.b l0 l1 l2 l3 hl _ h0 _ h1 _ h2 _ h3 hb
  · rw [readL_not h4] at hR; cases hR

theorem vof_text (s : ByteArray) (w : World) (hs : s.size ≤ 100) (hR : readL s.data.toList = RV.text) :
    Calls Tryd.prog 41 #[.string s] w fun e w' => e = .returned (.tuple #[.agg #[.int .i64 0, .int .i64 0, .int .i64 0, .int .i64 0], .agg #[.int .i64 1, .int .i64 (-1)]]) ∧ Below w.heap.size w w' := by
  have := vectorOf_any s w hs
  rw [hR] at this
  exact this
theorem vof_bound (s : ByteArray) (w : World) (hs : s.size ≤ 100) (k : Nat) (hR : readL s.data.toList = RV.bound k) :
    Calls Tryd.prog 41 #[.string s] w fun e w' => e = .returned (.tuple #[.agg #[.int .i64 0, .int .i64 0, .int .i64 0, .int .i64 0], .agg #[.int .i64 2, .int .i64 (k : Int)]]) ∧ Below w.heap.size w w' := by
  have := vectorOf_any s w hs
  rw [hR] at this
  exact this
theorem vof_ok (s : ByteArray) (w : World) (hs : s.size ≤ 100) (n0 n1 n2 n3 : Nat) (hR : readL s.data.toList = RV.ok n0 n1 n2 n3) :
    Calls Tryd.prog 41 #[.string s] w fun e w' => e = .returned (.tuple #[.agg #[.int .i64 (n0 : Int), .int .i64 (n1 : Int), .int .i64 (n2 : Int), .int .i64 (n3 : Int)], .agg #[.int .i64 0, .int .i64 (-1)]]) ∧ Below w.heap.size w w' := by
  have := vectorOf_any s w hs
  rw [hR] at this
  exact this

/-- A vector's own text is read as the vector. -/
theorem read_own {D : Nat} {ad : Nat → Addr} {m : Int} (a0 a1 a2 a3 : Int) (w : World) (h : EnvS D ad m w) (hB : (0 ≤ a0 ∧ a0 ≤ 400) ∧ (0 ≤ a1 ∧ a1 ≤ 400) ∧ (0 ≤ a2 ∧ a2 ≤ 400) ∧ (0 ≤ a3 ∧ a3 ≤ 400)) :
    Calls Tryd.prog 40 #[.string ⟨(textL a0 a1 a2 a3).toArray⟩] w fun e w' => e = .returned (.tuple #[.agg #[.int .i64 a0, .int .i64 a1, .int .i64 a2, .int .i64 a3], .nilIface]) ∧ Below w.heap.size w w' := by
  obtain ⟨⟨l0, g0⟩, ⟨l1, g1⟩, ⟨l2, g2⟩, l3, g3⟩ := hB
  have i0 := itoa_num a0 l0 g0
  have i1 := itoa_num a1 l1 g1
  have i2 := itoa_num a2 l2 g2
  have i3 := itoa_num a3 l3 g3
  have e0 := Lib.itoa_length_le a0 (by omega) (by omega)
  have e1 := Lib.itoa_length_le a1 (by omega) (by omega)
  have e2 := Lib.itoa_length_le a2 (by omega) (by omega)
  have e3 := Lib.itoa_length_le a3 (by omega) (by omega)
  have hcut : cutL (textL a0 a1 a2 a3) = [Lib.itoa a0, Lib.itoa a1, Lib.itoa a2, Lib.itoa a3] := by
    have : textL a0 a1 a2 a3 = Lib.itoa a0 ++ 46 :: (Lib.itoa a1 ++ 46 :: (Lib.itoa a2 ++ 46 :: Lib.itoa a3)) := by simp [textL, Lib.join_cons, Lib.joinTail]
    rw [this, cutL_append _ _ i0.2, cutL_append _ _ i1.2, cutL_append _ _ i2.2, cutL_plain _ i3.2]
  have hlen : (textL a0 a1 a2 a3).length ≤ 100 := by simp [textL, Lib.join_cons, Lib.joinTail]; omega
  have c0 : ((a0.toNat : Nat) : Int) = a0 := by omega
  have c1 : ((a1.toNat : Nat) : Int) = a1 := by omega
  have c2 : ((a2.toNat : Nat) : Int) = a2 := by omega
  have c3 : ((a3.toNat : Nat) : Int) = a3 := by omega
  have := rd_ok ⟨(textL a0 a1 a2 a3).toArray⟩ w (by simpa [ByteArray.size] using hlen) m h.max _ _ _ _ h.t h.b _ _ _ _ (by simpa using hcut) a0.toNat i0.1 a1.toNat i1.1 a2.toNat i2.1 a3.toNat i3.1 (by rw [badI_none]; omega)
  rw [c0, c1, c2, c3] at this
  exact this

/-- Behind the first great test: the vector in its two blocks, the fault in its block. -/
structure FauS (w0 : World) (D : Nat) (ad : Nat → Addr) (m : Int) (kx kf : Nat) (a0 a1 a2 a3 c p : Int) (w : World) : Prop where
  a : VecAt w w0.heap.size a0 a1 a2 a3
  x : VecAt w kx a0 a1 a2 a3
  f0 : w.cell? ⟨kf, 0, none⟩ = some (.int .i64 c)
  f1 : w.cell? ⟨kf, 1, none⟩ = some (.int .i64 p)
  g0 : w.frozen? ⟨kf, 0, none⟩ = false
  g1 : w.frozen? ⟨kf, 1, none⟩ = false
  env : EnvS D ad m w
  below : Below w0.heap.size w0 w
  z : w0.heap.size ≤ kf

theorem FauS.later {w0 w w' : World} {D : Nat} {ad : Nat → Addr} {m : Int} {kx kf : Nat} {a0 a1 a2 a3 c p : Int} (h : FauS w0 D ad m kx kf a0 a1 a2 a3 c p w) (hb : Below w.heap.size w w') : FauS w0 D ad m kx kf a0 a1 a2 a3 c p w' := by
  obtain ⟨hc, hf⟩ := vcellb hb
  have hlt : kf < w.heap.size := World.block_lt_of_cell? w ⟨kf, 0, none⟩ h.f0
  exact ⟨h.a.later hb, h.x.later hb, cell_later hb h.f0, cell_later hb h.f1, by rw [hf _ _ hlt]; exact h.g0, by rw [hf _ _ hlt]; exact h.g1, h.env.later hb, h.below.trans (hb.mono h.below.size), h.z⟩

theorem FauS.first {w0 w : World} {D : Nat} {ad : Nat → Addr} {m : Int} {kx : Nat} {a0 a1 a2 a3 b0 b1 b2 b3 j0 j1 j2 j3 : Int} (h : LoopS w0 D ad m kx a0 a1 a2 a3 b0 b1 b2 b3 j0 j1 j2 j3 w) (c p : Int) : FauS w0 D ad m kx w.heap.size a0 a1 a2 a3 c p (w.alloc (.cells #[.int .i64 c, .int .i64 p] 59)) := by
  have hb : Below w.heap.size w (w.alloc (.cells #[.int .i64 c, .int .i64 p] 59)) := (Below.refl _ _).alloc (Nat.le_refl _) _
  exact ⟨h.a.later hb, h.x.later hb, by simp [go_sem], by simp [go_sem], by simp [go_sem], by simp [go_sem], h.env.later hb, h.below.trans (hb.mono h.below.size), h.below.size⟩

/-- What the second great test reads. -/
def FauR (w0 : World) (D : Nat) (ad : Nat → Addr) (m : Int) (kx kf : Nat) (a0 a1 a2 a3 c p : Int) (w : World) : Prop :=
  (w.cell? ⟨w0.heap.size, 0, none⟩ = some (.int .i64 a0) ∧ w.cell? ⟨w0.heap.size, 1, none⟩ = some (.int .i64 a1) ∧ w.cell? ⟨w0.heap.size, 2, none⟩ = some (.int .i64 a2) ∧ w.cell? ⟨w0.heap.size, 3, none⟩ = some (.int .i64 a3)) ∧
  (w.cell? ⟨kx, 0, none⟩ = some (.int .i64 a0) ∧ w.cell? ⟨kx, 1, none⟩ = some (.int .i64 a1) ∧ w.cell? ⟨kx, 2, none⟩ = some (.int .i64 a2) ∧ w.cell? ⟨kx, 3, none⟩ = some (.int .i64 a3)) ∧
  (w.cell? ⟨kf, 0, none⟩ = some (.int .i64 c) ∧ w.cell? ⟨kf, 1, none⟩ = some (.int .i64 p)) ∧ FauS w0 D ad m kx kf a0 a1 a2 a3 c p w
theorem FauS.r {w0 w : World} {D : Nat} {ad : Nat → Addr} {m : Int} {kx kf : Nat} {a0 a1 a2 a3 c p : Int} (h : FauS w0 D ad m kx kf a0 a1 a2 a3 c p w) : FauR w0 D ad m kx kf a0 a1 a2 a3 c p w := ⟨h.a, h.x, ⟨h.f0, h.f1⟩, h⟩
theorem FauR.later {w0 w w' : World} {D : Nat} {ad : Nat → Addr} {m : Int} {kx kf : Nat} {a0 a1 a2 a3 c p : Int} (h : FauR w0 D ad m kx kf a0 a1 a2 a3 c p w) (hb : Below w.heap.size w w') : FauR w0 D ad m kx kf a0 a1 a2 a3 c p w' := (h.2.2.2.later hb).r
theorem FauR.drew {w0 w : World} {D : Nat} {ad : Nat → Addr} {m : Int} {kx kf : Nat} {a0 a1 a2 a3 c p : Int} (h : FauR w0 D ad m kx kf a0 a1 a2 a3 c p w) : FauR w0 D ad m kx kf a0 a1 a2 a3 c p w.drew := h.later (Below.refl _ _).drew
theorem FauR.env {w0 w : World} {D : Nat} {ad : Nat → Addr} {m : Int} {kx kf : Nat} {a0 a1 a2 a3 c p : Int} (h : FauR w0 D ad m kx kf a0 a1 a2 a3 c p w) : EnvS D ad m w := h.2.2.2.env
end Go.Proofs.YtnfhbmgkiknaaaaDoor
