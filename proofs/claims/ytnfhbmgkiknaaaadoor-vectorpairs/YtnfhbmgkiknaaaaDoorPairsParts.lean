/- What the walk of the law VectorPairs holds on to. -/
import Derived.Test.YtnfhbmgkiknaaaaDoorVecRead2
import Derived.Test.YtnfhbmgkiknaaaaDoorVecOf2
import Derived.Test.YtnfhbmgkiknaaaaDoorVecOrder
import Derived.Test.YtnfhbmgkiknaaaaDoorDecWalks
namespace Go.Proofs.YtnfhbmgkiknaaaaDoor
open Go.RowKit

/-- The listed variables that the law reaches: the errors, the table of powers of ten; and a number. -/
structure EnvS (D : Nat) (ad : Nat → Addr) (m : Int) (w : World) : Prop where
  errs : Errs D ad w
  tab : Lib.TabIs Tryd.prog w "internal/strconv.uint64pow10" .u64 Lib.pow10Tab
  max : w.cell? ⟨14, 0, none⟩ = some (.int .i64 m)
theorem EnvS.later {D : Nat} {ad : Nat → Addr} {m : Int} {w w' : World} (h : EnvS D ad m w) (hb : Below w.heap.size w w') : EnvS D ad m w' :=
  ⟨h.errs.later hb, Lib.tabBelow_of_tabIs h.tab _ hb, cell_later hb h.max⟩

/-- How far the sums have come. -/
def lackK (k : Nat) (a0 a1 a2 a3 b0 b1 b2 b3 : Int) : Int := (if 0 < k then mx a0 b0 - a0 else 0) + (if 1 < k then mx a1 b1 - a1 else 0) + (if 2 < k then mx a2 b2 - a2 else 0) + (if 3 < k then mx a3 b3 - a3 else 0)
def moreK (k : Nat) (a0 a1 a2 a3 b0 b1 b2 b3 : Int) : Bool := (decide (0 < k) && decide (a0 < b0)) || (decide (1 < k) && decide (a1 < b1)) || (decide (2 < k) && decide (a2 < b2)) || (decide (3 < k) && decide (a3 < b3))
def jAt (k t : Nat) (m : Int) : Int := if t < k then m else 0

/-- The law's vectors in their blocks: the arguments, the two, and the joined one so far. -/
structure LoopS (w0 : World) (D : Nat) (ad : Nat → Addr) (m : Int) (kx : Nat) (a0 a1 a2 a3 b0 b1 b2 b3 j0 j1 j2 j3 : Int) (w : World) : Prop where
  a : VecAt w w0.heap.size a0 a1 a2 a3
  b : VecAt w (w0.heap.size + 1) b0 b1 b2 b3
  x : VecAt w kx a0 a1 a2 a3
  y : VecAt w (kx + 1) b0 b1 b2 b3
  j : VecAt w (kx + 1 + 1) j0 j1 j2 j3
  f0 : w.frozen? ⟨kx + 1 + 1, 0, none⟩ = false
  f1 : w.frozen? ⟨kx + 1 + 1, 1, none⟩ = false
  f2 : w.frozen? ⟨kx + 1 + 1, 2, none⟩ = false
  f3 : w.frozen? ⟨kx + 1 + 1, 3, none⟩ = false
  env : EnvS D ad m w
  below : Below w0.heap.size w0 w
  z : w0.heap.size + 2 ≤ kx

theorem LoopS.later {w0 w w' : World} {D : Nat} {ad : Nat → Addr} {m : Int} {kx : Nat} {a0 a1 a2 a3 b0 b1 b2 b3 j0 j1 j2 j3 : Int} (h : LoopS w0 D ad m kx a0 a1 a2 a3 b0 b1 b2 b3 j0 j1 j2 j3 w) (hb : Below w.heap.size w w') : LoopS w0 D ad m kx a0 a1 a2 a3 b0 b1 b2 b3 j0 j1 j2 j3 w' := by
  obtain ⟨hc, hf⟩ := vcellb hb
  have hz := h.j.lt
  exact ⟨h.a.later hb, h.b.later hb, h.x.later hb, h.y.later hb, h.j.later hb, by rw [hf _ _ hz]; exact h.f0, by rw [hf _ _ hz]; exact h.f1, by rw [hf _ _ hz]; exact h.f2, by rw [hf _ _ hz]; exact h.f3, h.env.later hb, h.below.trans (hb.mono h.below.size), h.z⟩

theorem VecAt.off {w : World} {k c o : Nat} {x0 x1 x2 x3 : Int} {v : Value} (h : VecAt w k x0 x1 x2 x3) (hk : c ≠ k) : VecAt (w.setCell ⟨c, o, none⟩ v) k x0 x1 x2 x3 :=
  ⟨(World.cell?_setCell_other _ _ _ _ (fun e => hk (congrArg Addr.block e))).trans h.1, (World.cell?_setCell_other _ _ _ _ (fun e => hk (congrArg Addr.block e))).trans h.2.1, (World.cell?_setCell_other _ _ _ _ (fun e => hk (congrArg Addr.block e))).trans h.2.2.1, (World.cell?_setCell_other _ _ _ _ (fun e => hk (congrArg Addr.block e))).trans h.2.2.2⟩

theorem Errs.set {D c o : Nat} {ad : Nat → Addr} {w0 w : World} {v : Value} (h0 : Errs D ad w0) (hb : Below w0.heap.size w0 w) (hc : w0.heap.size ≤ c) : Errs D ad (w.setCell ⟨c, o, none⟩ v) := h0.later (hb.setCell hc v)
theorem EnvS.set {D c o : Nat} {ad : Nat → Addr} {m : Int} {w0 w : World} {v : Value} (h0 : EnvS D ad m w0) (hb : Below w0.heap.size w0 w) (hc : w0.heap.size ≤ c) : EnvS D ad m (w.setCell ⟨c, o, none⟩ v) := h0.later (hb.setCell hc v)

theorem LoopS.set0 {w0 w : World} {D : Nat} {ad : Nat → Addr} {m : Int} {kx : Nat} {a0 a1 a2 a3 b0 b1 b2 b3 j0 j1 j2 j3 : Int} (h : LoopS w0 D ad m kx a0 a1 a2 a3 b0 b1 b2 b3 j0 j1 j2 j3 w) (h0 : EnvS D ad m w0) (v : Int) : LoopS w0 D ad m kx a0 a1 a2 a3 b0 b1 b2 b3 v j1 j2 j3 (w.setCell ⟨kx + 1 + 1, 0, none⟩ (.int .i64 v)) := by
  have hz := h.z
  exact ⟨h.a.off (by omega), h.b.off (by omega), h.x.off (by omega), h.y.off (by omega), ⟨World.cell?_setCell_same _ _ _ h.j.1, (World.cell?_setCell_other _ _ _ _ (by simp)).trans h.j.2.1, (World.cell?_setCell_other _ _ _ _ (by simp)).trans h.j.2.2.1, (World.cell?_setCell_other _ _ _ _ (by simp)).trans h.j.2.2.2⟩, by rw [World.frozen?_setCell]; exact h.f0, by rw [World.frozen?_setCell]; exact h.f1, by rw [World.frozen?_setCell]; exact h.f2, by rw [World.frozen?_setCell]; exact h.f3, h0.set h.below (by omega), h.below.setCell (by simp; omega) _, hz⟩
theorem LoopS.set1 {w0 w : World} {D : Nat} {ad : Nat → Addr} {m : Int} {kx : Nat} {a0 a1 a2 a3 b0 b1 b2 b3 j0 j1 j2 j3 : Int} (h : LoopS w0 D ad m kx a0 a1 a2 a3 b0 b1 b2 b3 j0 j1 j2 j3 w) (h0 : EnvS D ad m w0) (v : Int) : LoopS w0 D ad m kx a0 a1 a2 a3 b0 b1 b2 b3 j0 v j2 j3 (w.setCell ⟨kx + 1 + 1, 1, none⟩ (.int .i64 v)) := by
  have hz := h.z
  exact ⟨h.a.off (by omega), h.b.off (by omega), h.x.off (by omega), h.y.off (by omega), ⟨(World.cell?_setCell_other _ _ _ _ (by simp)).trans h.j.1, World.cell?_setCell_same _ _ _ h.j.2.1, (World.cell?_setCell_other _ _ _ _ (by simp)).trans h.j.2.2.1, (World.cell?_setCell_other _ _ _ _ (by simp)).trans h.j.2.2.2⟩, by rw [World.frozen?_setCell]; exact h.f0, by rw [World.frozen?_setCell]; exact h.f1, by rw [World.frozen?_setCell]; exact h.f2, by rw [World.frozen?_setCell]; exact h.f3, h0.set h.below (by omega), h.below.setCell (by simp; omega) _, hz⟩
theorem LoopS.set2 {w0 w : World} {D : Nat} {ad : Nat → Addr} {m : Int} {kx : Nat} {a0 a1 a2 a3 b0 b1 b2 b3 j0 j1 j2 j3 : Int} (h : LoopS w0 D ad m kx a0 a1 a2 a3 b0 b1 b2 b3 j0 j1 j2 j3 w) (h0 : EnvS D ad m w0) (v : Int) : LoopS w0 D ad m kx a0 a1 a2 a3 b0 b1 b2 b3 j0 j1 v j3 (w.setCell ⟨kx + 1 + 1, 2, none⟩ (.int .i64 v)) := by
  have hz := h.z
  exact ⟨h.a.off (by omega), h.b.off (by omega), h.x.off (by omega), h.y.off (by omega), ⟨(World.cell?_setCell_other _ _ _ _ (by simp)).trans h.j.1, (World.cell?_setCell_other _ _ _ _ (by simp)).trans h.j.2.1, World.cell?_setCell_same _ _ _ h.j.2.2.1, (World.cell?_setCell_other _ _ _ _ (by simp)).trans h.j.2.2.2⟩, by rw [World.frozen?_setCell]; exact h.f0, by rw [World.frozen?_setCell]; exact h.f1, by rw [World.frozen?_setCell]; exact h.f2, by rw [World.frozen?_setCell]; exact h.f3, h0.set h.below (by omega), h.below.setCell (by simp; omega) _, hz⟩
theorem LoopS.set3 {w0 w : World} {D : Nat} {ad : Nat → Addr} {m : Int} {kx : Nat} {a0 a1 a2 a3 b0 b1 b2 b3 j0 j1 j2 j3 : Int} (h : LoopS w0 D ad m kx a0 a1 a2 a3 b0 b1 b2 b3 j0 j1 j2 j3 w) (h0 : EnvS D ad m w0) (v : Int) : LoopS w0 D ad m kx a0 a1 a2 a3 b0 b1 b2 b3 j0 j1 j2 v (w.setCell ⟨kx + 1 + 1, 3, none⟩ (.int .i64 v)) := by
  have hz := h.z
  exact ⟨h.a.off (by omega), h.b.off (by omega), h.x.off (by omega), h.y.off (by omega), ⟨(World.cell?_setCell_other _ _ _ _ (by simp)).trans h.j.1, (World.cell?_setCell_other _ _ _ _ (by simp)).trans h.j.2.1, (World.cell?_setCell_other _ _ _ _ (by simp)).trans h.j.2.2.1, World.cell?_setCell_same _ _ _ h.j.2.2.2⟩, by rw [World.frozen?_setCell]; exact h.f0, by rw [World.frozen?_setCell]; exact h.f1, by rw [World.frozen?_setCell]; exact h.f2, by rw [World.frozen?_setCell]; exact h.f3, h0.set h.below (by omega), h.below.setCell (by simp; omega) _, hz⟩
theorem LoopS.draws {w0 w : World} {D : Nat} {ad : Nat → Addr} {m : Int} {kx : Nat} {a0 a1 a2 a3 b0 b1 b2 b3 j0 j1 j2 j3 : Int} (h : LoopS w0 D ad m kx a0 a1 a2 a3 b0 b1 b2 b3 j0 j1 j2 j3 w) (n : Nat) : LoopS w0 D ad m kx a0 a1 a2 a3 b0 b1 b2 b3 j0 j1 j2 j3 (w.drewN n) := h.later ⟨rfl, rfl, rfl, Nat.le_refl _, fun _ _ => rfl⟩
theorem LoopS.cast {w0 w : World} {D : Nat} {ad : Nat → Addr} {m : Int} {kx : Nat} {a0 a1 a2 a3 b0 b1 b2 b3 j0 j1 j2 j3 i0 i1 i2 i3 : Int} (h : LoopS w0 D ad m kx a0 a1 a2 a3 b0 b1 b2 b3 j0 j1 j2 j3 w) (e0 : j0 = i0) (e1 : j1 = i1) (e2 : j2 = i2) (e3 : j3 = i3) : LoopS w0 D ad m kx a0 a1 a2 a3 b0 b1 b2 b3 i0 i1 i2 i3 w := by
  subst e0 e1 e2 e3; exact h
/-- What the first great test reads. -/
def PairR (w0 : World) (D : Nat) (ad : Nat → Addr) (m : Int) (kx : Nat) (a0 a1 a2 a3 b0 b1 b2 b3 : Int) (w : World) : Prop := (w.cell? ⟨kx, 0, none⟩ = some (.int .i64 a0) ∧ w.cell? ⟨kx, 1, none⟩ = some (.int .i64 a1) ∧ w.cell? ⟨kx, 2, none⟩ = some (.int .i64 a2) ∧ w.cell? ⟨kx, 3, none⟩ = some (.int .i64 a3)) ∧ (w.cell? ⟨(kx + 1), 0, none⟩ = some (.int .i64 b0) ∧ w.cell? ⟨(kx + 1), 1, none⟩ = some (.int .i64 b1) ∧ w.cell? ⟨(kx + 1), 2, none⟩ = some (.int .i64 b2) ∧ w.cell? ⟨(kx + 1), 3, none⟩ = some (.int .i64 b3)) ∧ (w.cell? ⟨(kx + 1 + 1), 0, none⟩ = some (.int .i64 (mx a0 b0)) ∧ w.cell? ⟨(kx + 1 + 1), 1, none⟩ = some (.int .i64 (mx a1 b1)) ∧ w.cell? ⟨(kx + 1 + 1), 2, none⟩ = some (.int .i64 (mx a2 b2)) ∧ w.cell? ⟨(kx + 1 + 1), 3, none⟩ = some (.int .i64 (mx a3 b3))) ∧ LoopS w0 D ad m kx a0 a1 a2 a3 b0 b1 b2 b3 (mx a0 b0) (mx a1 b1) (mx a2 b2) (mx a3 b3) w
theorem PairR.later {w' : World} {w0 w : World} {D : Nat} {ad : Nat → Addr} {m : Int} {kx : Nat} {a0 a1 a2 a3 b0 b1 b2 b3 : Int} (h : PairR w0 D ad m kx a0 a1 a2 a3 b0 b1 b2 b3 w) (hb : Below w.heap.size w w') : PairR w0 D ad m kx a0 a1 a2 a3 b0 b1 b2 b3 w' := ⟨VecAt.later h.1 hb, VecAt.later h.2.1 hb, VecAt.later h.2.2.1 hb, h.2.2.2.later hb⟩
theorem PairR.drew {w0 w : World} {D : Nat} {ad : Nat → Addr} {m : Int} {kx : Nat} {a0 a1 a2 a3 b0 b1 b2 b3 : Int} (h : PairR w0 D ad m kx a0 a1 a2 a3 b0 b1 b2 b3 w) : PairR w0 D ad m kx a0 a1 a2 a3 b0 b1 b2 b3 w.drew := h.later (Below.refl _ _).drew

/-- What the law asks of Order, out of its two signs. -/
def want1 (p : Bool) : Int := bif p then 1 else 0
def want2 (p q : Bool) : Int := bif q then -1 else want1 p
def wantI (p q : Bool) : Int := bif p && q then 2 else want2 p q
theorem more_cov (a0 a1 a2 a3 b0 b1 b2 b3 : Int) : covB a0 a1 a2 a3 b0 b1 b2 b3 = !moreK 4 a0 a1 a2 a3 b0 b1 b2 b3 := by
  have e : ∀ a b : Int, (mx a b == a) = !decide (a < b) := fun a b => by
    by_cases h : a < b
    · simp [mx, h]; omega
    · simp [mx, h]; omega
  simp only [covB, e, moreK]
  simp [Bool.and_assoc]
theorem same_more (a0 a1 a2 a3 b0 b1 b2 b3 : Int) : sameB a0 a1 a2 a3 b0 b1 b2 b3 = (!moreK 4 a0 a1 a2 a3 b0 b1 b2 b3 && !moreK 4 b0 b1 b2 b3 a0 a1 a2 a3) := by
  have e : ∀ a b : Int, (a == b) = (!decide (a < b) && !decide (b < a)) := fun a b => by
    by_cases h : a < b
    · have : ¬ a = b := by omega
      simp [h, this]
    · by_cases h2 : b < a
      · have : ¬ a = b := by omega
        simp [h2, this]
      · have : a = b := by omega
        subst this; simp
  simp only [sameB, e, moreK]
  generalize decide (a0 < b0) = x0
  generalize decide (a1 < b1) = x1
  generalize decide (a2 < b2) = x2
  generalize decide (a3 < b3) = x3
  generalize decide (b0 < a0) = y0
  generalize decide (b1 < a1) = y1
  generalize decide (b2 < a2) = y2
  generalize decide (b3 < a3) = y3
  revert x0 x1 x2 x3 y0 y1 y2 y3
  decide
theorem ord_want (a0 a1 a2 a3 b0 b1 b2 b3 : Int) : ordI a0 a1 a2 a3 b0 b1 b2 b3 = wantI (moreK 4 b0 b1 b2 b3 a0 a1 a2 a3) (moreK 4 a0 a1 a2 a3 b0 b1 b2 b3) := by
  unfold ordI wantI
  rw [same_more, more_cov, more_cov]
  cases moreK 4 b0 b1 b2 b3 a0 a1 a2 a3 <;> cases moreK 4 a0 a1 a2 a3 b0 b1 b2 b3 <;> rfl
theorem lack_all (a0 a1 a2 a3 b0 b1 b2 b3 : Int) : lackK 4 a0 a1 a2 a3 b0 b1 b2 b3 = lackI a0 a1 a2 a3 b0 b1 b2 b3 := by simp [lackK, lackI]
end Go.Proofs.YtnfhbmgkiknaaaaDoor
