import Derived.Test.YtcggmagdndhkbaaGreatDoorPt23
import Derived.Test.YtcggmagdndhkbaaGreatDoorPt32
section
namespace Go.Proofs.YtcggmagdndhkbaaGreatDoor
open Go.RowKit Go.Extern.Stop Go.Stop Go.Extern
structure Errs (B : Nat) (ad : Nat → Addr) (w : World) : Prop where
  c0 : w.cell? ⟨7, 0, none⟩ = some (.iface 416 (.pointer (some (ad 0))))
  c1 : w.cell? ⟨2, 0, none⟩ = some (.iface 416 (.pointer (some (ad 1))))
  c2 : w.cell? ⟨3, 0, none⟩ = some (.iface 416 (.pointer (some (ad 2))))
  c3 : w.cell? ⟨8, 0, none⟩ = some (.iface 416 (.pointer (some (ad 3))))
  c4 : w.cell? ⟨9, 0, none⟩ = some (.iface 416 (.pointer (some (ad 4))))
  c5 : w.cell? ⟨0, 0, none⟩ = some (.iface 416 (.pointer (some (ad 5))))
  c6 : w.cell? ⟨5, 0, none⟩ = some (.iface 416 (.pointer (some (ad 6))))
  c7 : w.cell? ⟨1, 0, none⟩ = some (.iface 416 (.pointer (some (ad 7))))
  c8 : w.cell? ⟨6, 0, none⟩ = some (.iface 416 (.pointer (some (ad 8))))
  c9 : w.cell? ⟨10, 0, none⟩ = some (.iface 416 (.pointer (some (ad 9))))
  c10 : w.cell? ⟨4, 0, none⟩ = some (.iface 416 (.pointer (some (ad 10))))
  c11 : w.cell? ⟨11, 0, none⟩ = some (.iface 416 (.pointer (some (ad 11))))
  et : w.cell? ⟨12, 0, none⟩ = some (.iface 345 (.agg #[.pointer (some ⟨19, 25, none⟩)]))
  lt : ∀ i, i < 12 → (ad i).block < B
  row : ∀ i, i < 12 → ∃ c t, w.heap[(ad i).block]? = some (.cells c t (0, 0))
  ne : ∀ i j, i < 12 → j < 12 → i ≠ j → ad i ≠ ad j
  big : 13 ≤ B
  size : B ≤ w.heap.size
theorem Errs.mono {B : Nat} {ad : Nat → Addr} {w w' : World} (h : Errs B ad w) (hb : Below B w w') : Errs B ad w' := by
  have hB := h.big
  have g : ∀ k v, k < 13 → w.cell? ⟨k, 0, none⟩ = some v → w'.cell? ⟨k, 0, none⟩ = some v := fun k v hk hv => by
    rw [hb.cell (p := ⟨k, 0, none⟩) (Nat.lt_of_lt_of_le hk hB)]; exact hv
  refine ⟨g _ _ (by decide) h.c0, g _ _ (by decide) h.c1, g _ _ (by decide) h.c2, g _ _ (by decide) h.c3, g _ _ (by decide) h.c4, g _ _ (by decide) h.c5, g _ _ (by decide) h.c6, g _ _ (by decide) h.c7, g _ _ (by decide) h.c8, g _ _ (by decide) h.c9, g _ _ (by decide) h.c10, g _ _ (by decide) h.c11, g _ _ (by decide) h.et, h.lt, fun i hi => ?_, h.ne, h.big, Nat.le_trans h.size hb.size⟩
  obtain ⟨c, t, e⟩ := h.row i hi
  exact ⟨c, t, by rw [hb.block _ (h.lt i hi)]; exact e⟩
theorem Errs.later {B : Nat} {ad : Nat → Addr} {w w' : World} (h : Errs B ad w) (hb : Below w.heap.size w w') : Errs B ad w' := h.mono (hb.mono h.size)
def codeOf (k : Nat) : Int := if k < 12 then (k : Int) + 1 else -1
theorem twelve (ad : Nat → Addr) (j : Nat) (hj : j < 12) : (#[Value.iface 416 (.pointer (some (ad 0))), .iface 416 (.pointer (some (ad 1))), .iface 416 (.pointer (some (ad 2))), .iface 416 (.pointer (some (ad 3))), .iface 416 (.pointer (some (ad 4))), .iface 416 (.pointer (some (ad 5))), .iface 416 (.pointer (some (ad 6))), .iface 416 (.pointer (some (ad 7))), .iface 416 (.pointer (some (ad 8))), .iface 416 (.pointer (some (ad 9))), .iface 416 (.pointer (some (ad 10))), .iface 416 (.pointer (some (ad 11)))])[j]? = some (.iface 416 (.pointer (some (ad j)))) := by
  match j, hj with
  | 0, _ => rfl
  | 1, _ => rfl
  | 2, _ => rfl
  | 3, _ => rfl
  | 4, _ => rfl
  | 5, _ => rfl
  | 6, _ => rfl
  | 7, _ => rfl
  | 8, _ => rfl
  | 9, _ => rfl
  | 10, _ => rfl
  | 11, _ => rfl
  | n + 12, h => omega
set_option maxHeartbeats 1000000 in
theorem code_plain {B : Nat} {ad : Nat → Addr} (w : World) (h : Errs B ad w) (u : TypeId) (x : Value) (k : Nat) (hk : k ≤ 12)
    (hAs : ∀ (t : Addr) (w1 : World), Errs B ad w1 → Calls Tryz.prog 144 #[.iface u x, .iface 242 (.pointer (some t))] w1 fun e w' => e = .returned (.bool false) ∧ Below w1.heap.size w1 w')
    (hIs : ∀ w1, Errs B ad w1 → Below w.heap.size w w1 → ∀ j, j < 12 → j ≤ k → Calls Tryz.prog 145 #[.iface u x, .iface 416 (.pointer (some (ad j)))] w1 fun e w' => e = .returned (.bool (decide (j = k))) ∧ w' = w1) :
    Calls Tryz.prog 71 #[.iface u x] w fun e w' => e = .returned (.tuple #[.int .i64 (codeOf k), .int .i64 (-1)]) ∧ Below w.heap.size w w' := by
  have hsz := h.size
  have h1 : Errs B ad (w.alloc (.cells #[.pointer none] 193)) := h.later ((Below.refl _ _).alloc (Nat.le_refl _) _)
  go_enter Tryz.func71, Tryz.ntmps71
  go_wp2_with fail
  refine (hAs _ _ h1).mono ?_
  rintro e w1 ⟨rfl, hb1⟩
  have H1 := h1.later hb1
  have B1 : Below w.heap.size w w1 := ((Below.refl _ _).alloc (Nat.le_refl _) _).trans (hb1.mono (by simp))
  have z1 := hb1.size
  simp at z1
  clear hb1 h1 h hAs
  have H2 := fun o => H1.later ((Below.refl _ _).alloc (Nat.le_refl _) o)
  obtain ⟨c0, c1, c2, c3, c4, c5, c6, c7, c8, c9, c10, c11, et, lt, row, ne, big, size⟩ := H1
  clear et row ne lt
  have HI : Hid (∀ w1, Errs B ad w1 → Below w.heap.size w w1 → ∀ j, j < 12 → j ≤ k → Calls Tryz.prog 145 #[.iface u x, .iface 416 (.pointer (some (ad j)))] w1 fun e w' => e = .returned (.bool (decide (j = k))) ∧ w' = w1) := hIs
  clear hIs
  go_wp2_with fail
  have hcell : ∀ j, j < 12 → (w1.alloc (.cells #[.iface 416 (.pointer (some (ad 0))), .iface 416 (.pointer (some (ad 1))), .iface 416 (.pointer (some (ad 2))), .iface 416 (.pointer (some (ad 3))), .iface 416 (.pointer (some (ad 4))), .iface 416 (.pointer (some (ad 5))), .iface 416 (.pointer (some (ad 6))), .iface 416 (.pointer (some (ad 7))), .iface 416 (.pointer (some (ad 8))), .iface 416 (.pointer (some (ad 9))), .iface 416 (.pointer (some (ad 10))), .iface 416 (.pointer (some (ad 11)))] 25)).cell? ⟨w1.heap.size, j, none⟩ = some (.iface 416 (.pointer (some (ad j)))) :=
    fun j hj => by rw [World.cell?_alloc_at _ _ _ _ rfl]; exact twelve ad j hj
  have H3 := H2 (.cells #[.iface 416 (.pointer (some (ad 0))), .iface 416 (.pointer (some (ad 1))), .iface 416 (.pointer (some (ad 2))), .iface 416 (.pointer (some (ad 3))), .iface 416 (.pointer (some (ad 4))), .iface 416 (.pointer (some (ad 5))), .iface 416 (.pointer (some (ad 6))), .iface 416 (.pointer (some (ad 7))), .iface 416 (.pointer (some (ad 8))), .iface 416 (.pointer (some (ad 9))), .iface 416 (.pointer (some (ad 10))), .iface 416 (.pointer (some (ad 11)))] 25)
  have B3 := B1.alloc (by omega) (.cells #[.iface 416 (.pointer (some (ad 0))), .iface 416 (.pointer (some (ad 1))), .iface 416 (.pointer (some (ad 2))), .iface 416 (.pointer (some (ad 3))), .iface 416 (.pointer (some (ad 4))), .iface 416 (.pointer (some (ad 5))), .iface 416 (.pointer (some (ad 6))), .iface 416 (.pointer (some (ad 7))), .iface 416 (.pointer (some (ad 8))), .iface 416 (.pointer (some (ad 9))), .iface 416 (.pointer (some (ad 10))), .iface 416 (.pointer (some (ad 11)))] 25)
  generalize w1.alloc (.cells #[.iface 416 (.pointer (some (ad 0))), .iface 416 (.pointer (some (ad 1))), .iface 416 (.pointer (some (ad 2))), .iface 416 (.pointer (some (ad 3))), .iface 416 (.pointer (some (ad 4))), .iface 416 (.pointer (some (ad 5))), .iface 416 (.pointer (some (ad 6))), .iface 416 (.pointer (some (ad 7))), .iface 416 (.pointer (some (ad 8))), .iface 416 (.pointer (some (ad 9))), .iface 416 (.pointer (some (ad 10))), .iface 416 (.pointer (some (ad 11)))] 25) = W2 at hcell H3 B3 ⊢
  clear c0 c1 c2 c3 c4 c5 c6 c7 c8 c9 c10 c11 H2 B1 big size
  generalize w1.heap.size = b1 at hcell z1 ⊢
  clear z1
  have HI' := HI.out W2 H3 B3
  have HJ : Hid (∀ j, j < 12 → j ≤ k → Calls Tryz.prog 145 #[.iface u x, .iface 416 (.pointer (some (ad j)))] W2 fun e w' => e = .returned (.bool (decide (j = k))) ∧ w' = W2) := HI'
  clear HI HI' H3
  go_loop [3, 30] (fun at' i => ∃ j : Nat, j ≤ k ∧ at' = .int .i64 (-1) ∧ i = .int .i64 j) (fun _ i => 12 - (intOf i).toNat)
  case atStart => exact ⟨0, Nat.zero_le _, rfl, rfl⟩
  case round =>
    obtain ⟨j, hj, rfl, rfl⟩ := hrel
    by_cases h12 : j < 12
    · have hc := hcell j h12
      have hd : decide ((j : Int) < 12) = true := by simp; omega
      go_wp2_with fail
      refine (HJ.out j h12 hj).mono ?_
      rintro e w' ⟨rfl, hw⟩
      subst hw
      by_cases hjk : j = k
      · have hkc : codeOf k = (j : Int) + 1 := by unfold codeOf; rw [if_pos (by omega), hjk]
        have HK : Hid (codeOf k = (j : Int) + 1) := hkc
        rw [decide_eq_true hjk]
        clear hkc hjk
        go_wp2
        go_ret2
        exact ⟨by rw [HK.out]; rfl, B3⟩
      · rw [decide_eq_false hjk]
        go_wp2
        go_round
        case rel => exact ⟨j + 1, by omega, rfl, by go_num⟩
        case measure => simp [intOf]; omega
    · have hd : decide ((j : Int) < 12) = false := by simp; omega
      have hkc : codeOf k = -1 := by unfold codeOf; rw [if_neg (by omega)]
      have HK : Hid (codeOf k = -1) := hkc
      clear hkc
      go_wp2
      go_ret2
      exact ⟨by rw [HK.out]; rfl, B3⟩
theorem code_sent {B : Nat} {ad : Nat → Addr} (w : World) (h : Errs B ad w) (k : Nat) (hk : k < 12) :
    Calls Tryz.prog 71 #[.iface 416 (.pointer (some (ad k)))] w fun e w' => e = .returned (.tuple #[.int .i64 (codeOf k), .int .i64 (-1)]) ∧ Below w.heap.size w w' := by
  refine code_plain w h _ _ k (Nat.le_of_lt hk) (fun t w1 h1 => as_no (ad k) t w1 h1.et) fun w1 hw1 _ j hj _ => ?_
  by_cases hjk : j = k
  · subst hjk
    rw [decide_eq_true rfl]
    exact is_same (ad j) w1
  · rw [decide_eq_false hjk]
    obtain ⟨ca, ta, ea⟩ := hw1.row k hk
    obtain ⟨cb, tb, eb⟩ := hw1.row j hj
    exact is_other (ad k) (ad j) ca cb ta tb w1 (hw1.ne k j hk hj (fun e => hjk e.symm)) ea eb
end Go.Proofs.YtcggmagdndhkbaaGreatDoor
end
section
namespace Go.Proofs.YtcggmagdndhkbaaGreatDoor
open Go.RowKit Go.Extern.Stop Go.Stop Go.Extern
set_option maxHeartbeats 400000 in
theorem coded_sent {B : Nat} {ad : Nat → Addr} (w : World) (h : Errs B ad w) (k : Nat) (hk : k < 12) (c : Int) :
    Calls Tryz.prog 22 #[.iface 416 (.pointer (some (ad k))), .int .i64 c] w fun e w' => e = .returned (.bool (codeOf k == c)) ∧ Below w.heap.size w w' := by
  by_cases hc : codeOf k = c
  · have hb : (codeOf k == c) = true := by simp [hc]
    clear hc
    go_enter Tryz.func22, Tryz.ntmps22
    go_wp2_with fail
    refine (code_sent w h k hk).mono ?_
    rintro e w1 ⟨rfl, hw⟩
    go_wp2
    go_ret
    exact ⟨by rw [hb]; rfl, hw⟩
  · have hb : (codeOf k == c) = false := by simp [hc]
    clear hc
    go_enter Tryz.func22, Tryz.ntmps22
    go_wp2_with fail
    refine (code_sent w h k hk).mono ?_
    rintro e w1 ⟨rfl, hw⟩
    go_wp2
    go_ret
    exact ⟨by rw [hb]; rfl, hw⟩
end Go.Proofs.YtcggmagdndhkbaaGreatDoor
end
section
set_option linter.unusedVariables false
set_option linter.unusedSimpArgs false
namespace Go.Proofs.YtcggmagdndhkbaaGreatDoor
open Go.RowKit Go.Lib Go.Sort Go.Maps
open scoped Classical
structure EnvP (B : Nat) (ad : Nat → Addr) (w : World) : Prop where
  t : EnvT B ad w
  e : Errs B ad w
theorem EnvP.later {B : Nat} {ad : Nat → Addr} {w w' : World} (h : EnvP B ad w) (hb : Below w.heap.size w w') : EnvP B ad w' := ⟨h.t.later hb, h.e.later hb⟩
theorem EnvP.up {B B' : Nat} {ad : Nat → Addr} {w : World} (h : EnvP B ad w) (hB : B ≤ B') (hs : B' ≤ w.heap.size) : EnvP B' ad w :=
  ⟨h.t.up hB hs, ⟨h.e.c0, h.e.c1, h.e.c2, h.e.c3, h.e.c4, h.e.c5, h.e.c6, h.e.c7, h.e.c8, h.e.c9, h.e.c10, h.e.c11, h.e.et, fun i hi => Nat.lt_of_lt_of_le (h.e.lt i hi) hB, h.e.row, h.e.ne, Nat.le_trans h.e.big hB, hs⟩⟩
def OpsSf (w : World) (ao : Option Addr) (ys : List OpX) (sf : List Nat) : Prop := ∀ g, ao = some ⟨g, 0, none⟩ → g ∈ sf ∧ ∀ j u, (cellsOf ys)[j]? = some u → w.cell? ⟨g, 0 + j, none⟩ = some u
theorem OpsSf.act {w w' : World} {ao : Option Addr} {ys : List OpX} {sf : List Nat} (h : OpsSf w ao ys sf) (hk : ∀ k ∈ sf, w'.heap[k]? = w.heap[k]?) : OpsSf w' ao ys sf := fun g e =>
  ⟨(h g e).1, fun j u hj => by rw [World.cell?_of_block (a := ⟨g, 0 + j, none⟩) (hk g (h g e).1)]; exact (h g e).2 j u hj⟩
theorem NewOps.at {w w' W : World} {ao : Option Addr} {cap : Nat} {ys : List OpX} {sf : List Nat} (h : NewOps w w' ao cap ys) (k : OpsSf W ao ys sf) : OpsAt W (.slice ao ys.length cap) ys := by
  rcases h with ⟨rfl, rfl, rfl⟩ | ⟨g, rfl, _⟩
  · exact .inl ⟨rfl, rfl⟩
  · exact .inr ⟨g, 0, cap, rfl, (k g rfl).2⟩
section
variable {B : Nat} {ad : Nat → Addr} {w : World} {n : Nat} {br : Nat → Nat} {K : Nat → Rws} {sf : List Nat} {wr : World}
def BOpsOut (B : Nat) (w : World) (n : Nat) (br : Nat → Nat) (K : Nat → Rws) (b : Nat) (sf : List Nat) (wr : World) (e : Ending) (w' : World) : Prop := ∃ ao cp ys sf', e = .returned (.slice ao ys.length cp) ∧ Aside (Band B w n br K sf' w' ∧ (∀ k ∈ sf, k ∈ sf') ∧ OpsSf w' ao ys sf' ∧ NewOps wr w' ao cp ys ∧ StableOf (allR (K b)) ys ∧ Below wr.heap.size wr w')
theorem band_opsC (h : Band B w n br K sf wr) {b : Nat} (hb : b < n) (hl : (allR (K b)).length ≤ 1000) :
    Calls Tryz.prog 13 #[.pointer (some ⟨br b, 0, none⟩)] wr (BOpsOut B w n br K b sf wr) := by
  obtain ⟨c, hf, hg⟩ := h.folk
  refine (rops_c wr (c b) (br b) (b : Int) (K b) (hf.rep b hb).rep hl).mono ?_
  rintro e w' ⟨ao, cp, ys, he, h1, h2, h3⟩
  rcases h1 with ⟨rfl, rfl, rfl⟩ | ⟨g, rfl, q1, q2, q3, q4⟩
  · exact ⟨none, 0, [], sf, he, h.later h3, fun k hk => hk, (fun g e => by cases e), .inl ⟨rfl, rfl, rfl⟩, h2, h3⟩
  · refine ⟨some ⟨g, 0, none⟩, cp, ys, g :: sf, he, h.guard h3 q1 q2, fun k hk => List.mem_cons_of_mem _ hk, fun g' e => ?_, .inr ⟨g, rfl, q1, q2, q3, q4⟩, h2, h3⟩
    cases e
    exact ⟨List.mem_cons_self, q4⟩
end
structure Trio (B : Nat) (w : World) (b0 b1 b2 : Nat) (R0 R1 R2 : Rws) (g : Nat) (ao : Option Addr) (ys : List OpX) (wr : World) : Prop where
  band : ∃ br K sf, Band B w 3 br K sf wr ∧ br 0 = b0 ∧ br 1 = b1 ∧ br 2 = b2 ∧ K 0 = R0 ∧ K 1 = R1 ∧ K 2 = R2 ∧ g ∈ sf ∧ OpsSf wr ao ys sf
  cell : wr.cell? ⟨g, 0, none⟩ = some (.pointer (some ⟨b0, 0, none⟩))
section
variable {B : Nat} {ad : Nat → Addr} {w : World} {b0 b1 b2 : Nat} {R0 R1 R2 : Rws} {g : Nat} {ao : Option Addr} {ys : List OpX} {wr : World}
theorem Trio.later {w' : World} (h : Trio B w b0 b1 b2 R0 R1 R2 g ao ys wr) (hb : Below wr.heap.size wr w') : Trio B w b0 b1 b2 R0 R1 R2 g ao ys w' := by
  obtain ⟨br, K, sf, h1, e0, e1, e2, k0, k1, k2, hg, ho⟩ := h.band
  refine ⟨⟨br, K, sf, h1.later hb, e0, e1, e2, k0, k1, k2, hg, ho.act (fun k hk => hb.block k (h1.safe k hk))⟩, ?_⟩
  rw [World.cell?_of_block (a := ⟨g, 0, none⟩) (hb.block g (h1.safe g hg))]; exact h.cell
theorem Trio.below (h : Trio B w b0 b1 b2 R0 R1 R2 g ao ys wr) : Below B w wr := by
  obtain ⟨br, K, sf, h1, _⟩ := h.band
  exact h1.below
theorem Trio.rows1 (h : Trio B w b0 b1 b2 R0 R1 R2 g ao ys wr) : RowsK R1 := by
  obtain ⟨br, K, sf, h1, e0, e1, e2, k0, k1, k2, hg, ho⟩ := h.band
  rw [← k1]; exact h1.rows (by omega)
theorem Trio.rows2 (h : Trio B w b0 b1 b2 R0 R1 R2 g ao ys wr) : RowsK R2 := by
  obtain ⟨br, K, sf, h1, e0, e1, e2, k0, k1, k2, hg, ho⟩ := h.band
  rw [← k2]; exact h1.rows (by omega)
theorem Trio.at {w0 w0' : World} {cp : Nat} (h : Trio B w b0 b1 b2 R0 R1 R2 g ao ys wr) (hn : NewOps w0 w0' ao cp ys) : OpsAt wr (.slice ao ys.length cp) ys := by
  obtain ⟨br, K, sf, h1, e0, e1, e2, k0, k1, k2, hg, ho⟩ := h.band
  exact hn.at ho
theorem Trio.cells (h : Trio B w b0 b1 b2 R0 R1 R2 g ao ys wr) : ∀ p, ao = some ⟨p, 0, none⟩ → ∀ j u, (cellsOf ys)[j]? = some u → wr.cell? ⟨p, 0 + j, none⟩ = some u := by
  obtain ⟨br, K, sf, h1, e0, e1, e2, k0, k1, k2, hg, ho⟩ := h.band
  exact fun p e => (ho p e).2
def TJoin1 (B : Nat) (w : World) (b0 b1 b2 : Nat) (R0 R1 R2 : Rws) (g : Nat) (ao : Option Addr) (ys l : List OpX) (e : Ending) (w' : World) : Prop := ∃ (m : Nat) (R' : Rws), e = .returned (.tuple #[.int .i64 (m : Int), .nilIface]) ∧ Aside (Trio B w b0 b1 b2 R0 R' R2 g ao ys w' ∧ (∀ x, x ∈ allR R' ↔ x ∈ allR R1 ∨ x ∈ l) ∧ (allR R').length = (allR R1).length + m)
def TJoin2 (B : Nat) (w : World) (b0 b1 b2 : Nat) (R0 R1 R2 : Rws) (g : Nat) (ao : Option Addr) (ys l : List OpX) (e : Ending) (w' : World) : Prop := ∃ (m : Nat) (R' : Rws), e = .returned (.tuple #[.int .i64 (m : Int), .nilIface]) ∧ Aside (Trio B w b0 b1 b2 R0 R1 R' g ao ys w' ∧ (∀ x, x ∈ allR R' ↔ x ∈ allR R2 ∨ x ∈ l) ∧ (allR R').length = (allR R2).length + m)
theorem trio_join1 (h : Trio B w b0 b1 b2 R0 R1 R2 g ao ys wr) (hE : EnvT B ad w) (T : List OpX) (v : Value) (l : List OpX) (hin : OpsAt wr v l) (hT : WellK T) (hc : Compat (allR R1) T) (hl : ∀ x, x ∈ l → x ∈ T) (hl2 : ∀ x, x ∈ T → x ∈ allR R1 ∨ x ∈ l) (hll : (allR R1).length + l.length ≤ 140) :
    Calls Tryz.prog 11 #[.pointer (some ⟨b1, 0, none⟩), v] wr (TJoin1 B w b0 b1 b2 R0 R1 R2 g ao ys l) := by
  obtain ⟨br, K, sf, h1, rfl, rfl, rfl, rfl, rfl, rfl, hg, ho⟩ := h.band
  obtain ⟨la, lc, rfl, hi⟩ := ops_in hin
  refine (band_join h1 hE (show 1 < 3 by omega) T la lc l hi hT hc hl hl2 hll).mono ?_
  rintro e w' ⟨m, R', he, H⟩
  refine ⟨m, R', he, ⟨⟨br, setAt K 1 R', sf, H.out.1, rfl, rfl, rfl, rfl, rfl, rfl, hg, ho.act H.out.2.2.2⟩, ?_⟩, H.out.2.1, H.out.2.2.1⟩
  rw [World.cell?_of_block (a := ⟨g, 0, none⟩) (H.out.2.2.2 g hg)]; exact h.cell
theorem trio_join2 (h : Trio B w b0 b1 b2 R0 R1 R2 g ao ys wr) (hE : EnvT B ad w) (T : List OpX) (v : Value) (l : List OpX) (hin : OpsAt wr v l) (hT : WellK T) (hc : Compat (allR R2) T) (hl : ∀ x, x ∈ l → x ∈ T) (hl2 : ∀ x, x ∈ T → x ∈ allR R2 ∨ x ∈ l) (hll : (allR R2).length + l.length ≤ 140) :
    Calls Tryz.prog 11 #[.pointer (some ⟨b2, 0, none⟩), v] wr (TJoin2 B w b0 b1 b2 R0 R1 R2 g ao ys l) := by
  obtain ⟨br, K, sf, h1, rfl, rfl, rfl, rfl, rfl, rfl, hg, ho⟩ := h.band
  obtain ⟨la, lc, rfl, hi⟩ := ops_in hin
  refine (band_join h1 hE (show 2 < 3 by omega) T la lc l hi hT hc hl hl2 hll).mono ?_
  rintro e w' ⟨m, R', he, H⟩
  refine ⟨m, R', he, ⟨⟨br, setAt K 2 R', sf, H.out.1, rfl, rfl, rfl, rfl, rfl, rfl, hg, ho.act H.out.2.2.2⟩, ?_⟩, H.out.2.1, H.out.2.2.1⟩
  rw [World.cell?_of_block (a := ⟨g, 0, none⟩) (H.out.2.2.2 g hg)]; exact h.cell
def TSome2 (B : Nat) (ad : Nat → Addr) (w : World) (b0 b1 b2 : Nat) (R0 R1 : Rws) (g : Nat) (ao : Option Addr) (ys l : List OpX) (e : Ending) (w' : World) : Prop := ∃ (m : Nat) (cd : Nat) (R' : Rws), e = .returned (.tuple #[.int .i64 (m : Int), eV ad cd]) ∧ Aside (Trio B w b0 b1 b2 R0 R1 R' g ao ys w' ∧ (Gap l → cd = 9) ∧ (cd ≠ 0 → allR R' = []) ∧ (∀ x, x ∈ allR R' → x ∈ l) ∧ (allR R').length ≤ l.length)
theorem trio_some2 (h : Trio B w b0 b1 b2 R0 R1 (fun _ => []) g ao ys wr) (hE : EnvT B ad w) (T : List OpX) (v : Value) (l : List OpX) (hin : OpsAt wr v l) (hT : WellK T) (hl : ∀ x, x ∈ l → x ∈ T) (hll : l.length ≤ 60) :
    Calls Tryz.prog 11 #[.pointer (some ⟨b2, 0, none⟩), v] wr (TSome2 B ad w b0 b1 b2 R0 R1 g ao ys l) := by
  obtain ⟨br, K, sf, h1, rfl, rfl, rfl, rfl, rfl, k2, hg, ho⟩ := h.band
  obtain ⟨la, lc, rfl, hi⟩ := ops_in hin
  refine (band_some h1 hE (show 2 < 3 by omega) T la lc l hi hT k2 hl hll).mono ?_
  rintro e w' ⟨m, cd, R', he, H⟩
  refine ⟨m, cd, R', he, ⟨⟨br, setAt K 2 R', sf, H.out.1, rfl, rfl, rfl, rfl, rfl, rfl, hg, ho.act H.out.2.2.2.2.2⟩, ?_⟩, H.out.2.1, H.out.2.2.1, H.out.2.2.2.1, H.out.2.2.2.2.1⟩
  rw [World.cell?_of_block (a := ⟨g, 0, none⟩) (H.out.2.2.2.2.2 g hg)]; exact h.cell
def StText (A : List OpX) (X : ByteArray) : Prop := StateIs A X.data.toList
theorem StText.same {A B : List OpX} {X Y : ByteArray} (hA : WellK A) (e : A.Perm B) (h : StText A X) (k : StText B Y) : X = Y := bytes_eq (StateIs.same hA e h k)
theorem band_st {n : Nat} {br : Nat → Nat} {K : Nat → Rws} {sf : List Nat} (h : Band B w n br K sf wr) (hE : EnvT B ad w) {b : Nat} (hb : b < n) (hl : (allR (K b)).length ≤ 300) :
    Calls Tryz.prog 17 #[.pointer (some ⟨br b, 0, none⟩)] wr fun e w' => ∃ X, e = .returned (.string X) ∧ Aside (StText (allR (K b)) X ∧ Below wr.heap.size wr w') := by
  refine (band_state h hE hb hl).mono ?_
  rintro e w' ⟨s, he, q⟩
  exact ⟨⟨s.toArray⟩, he, by show StateIs _ (s.toArray.toList); simpa using q.out.1, q.out.2⟩
theorem trio_st0 (h : Trio B w b0 b1 b2 R0 R1 R2 g ao ys wr) (hE : EnvT B ad w) (hl : (allR R0).length ≤ 300) :
    Calls Tryz.prog 17 #[.pointer (some ⟨b0, 0, none⟩)] wr fun e w' => ∃ X, e = .returned (.string X) ∧ Aside (StText (allR R0) X ∧ Below wr.heap.size wr w') := by
  obtain ⟨br, K, sf, h1, rfl, rfl, rfl, rfl, rfl, rfl, hg, ho⟩ := h.band
  exact band_st h1 hE (show 0 < 3 by omega) hl
theorem trio_st1 (h : Trio B w b0 b1 b2 R0 R1 R2 g ao ys wr) (hE : EnvT B ad w) (hl : (allR R1).length ≤ 300) :
    Calls Tryz.prog 17 #[.pointer (some ⟨b1, 0, none⟩)] wr fun e w' => ∃ X, e = .returned (.string X) ∧ Aside (StText (allR R1) X ∧ Below wr.heap.size wr w') := by
  obtain ⟨br, K, sf, h1, rfl, rfl, rfl, rfl, rfl, rfl, hg, ho⟩ := h.band
  exact band_st h1 hE (show 1 < 3 by omega) hl
theorem trio_st2 (h : Trio B w b0 b1 b2 R0 R1 R2 g ao ys wr) (hE : EnvT B ad w) (hl : (allR R2).length ≤ 300) :
    Calls Tryz.prog 17 #[.pointer (some ⟨b2, 0, none⟩)] wr fun e w' => ∃ X, e = .returned (.string X) ∧ Aside (StText (allR R2) X ∧ Below wr.heap.size wr w') := by
  obtain ⟨br, K, sf, h1, rfl, rfl, rfl, rfl, rfl, rfl, hg, ho⟩ := h.band
  exact band_st h1 hE (show 2 < 3 by omega) hl
theorem trio_ops1 (h : Trio B w b0 b1 b2 R0 R1 R2 g ao ys wr) (hl : (allR R1).length ≤ 1000) :
    Calls Tryz.prog 13 #[.pointer (some ⟨b1, 0, none⟩)] wr fun e w' => ∃ v zs, e = .returned v ∧ Aside (OpsAt w' v zs ∧ StableOf (allR R1) zs ∧ Below wr.heap.size wr w') := by
  obtain ⟨br, K, sf, h1, rfl, rfl, rfl, rfl, rfl, rfl, hg, ho⟩ := h.band
  exact band_ops h1 (show 1 < 3 by omega) hl
theorem trio_none2 (h : Trio B w b0 b1 b2 R0 R1 R2 g ao ys wr) (hl : allR R2 = []) :
    Calls Tryz.prog 13 #[.pointer (some ⟨b2, 0, none⟩)] wr fun e w' => ∃ a c, e = .returned (.slice a 0 c) ∧ Aside (Below wr.heap.size wr w') := by
  obtain ⟨br, K, sf, h1, rfl, rfl, rfl, rfl, rfl, rfl, hg, ho⟩ := h.band
  refine (band_ops h1 (show 2 < 3 by omega) (by rw [hl]; simp)).mono ?_
  rintro e w' ⟨v, zs, he, H⟩
  have hz := (stable_by H.out.2.1).1
  rw [hl] at hz
  obtain rfl := List.Perm.eq_nil hz
  obtain ⟨a, c, rfl, _⟩ := ops_in H.out.1
  exact ⟨a, c, he, H.out.2.2⟩
end
theorem trio_of {B : Nat} {w : World} {br : Nat → Nat} {K : Nat → Rws} {b1 b2 g : Nat} {R1 R2 : Rws} {sf : List Nat} {ao : Option Addr} {ys : List OpX} {wr : World} (h : Band B w 3 (setAt (setAt br 1 b1) 2 b2) (setAt (setAt K 1 R1) 2 R2) sf wr) (hg : g ∈ sf) (ho : OpsSf wr ao ys sf) (hc : wr.cell? ⟨g, 0, none⟩ = some (.pointer (some ⟨br 0, 0, none⟩))) : Trio B w (br 0) b1 b2 (K 0) R1 R2 g ao ys wr :=
  ⟨⟨_, _, sf, h, rfl, rfl, rfl, rfl, rfl, rfl, hg, ho⟩, hc⟩
end Go.Proofs.YtcggmagdndhkbaaGreatDoor
end
section
namespace Go.Proofs.YtcggmagdndhkbaaGreatDoor
open Go.Shelf Go.RowKit Go.Lib Go.Sort
set_option maxHeartbeats 4000000 in
set_option maxRecDepth 1000000 in
theorem same_open {P : Program} (k : Nat) (L : STy P k) (hF : P.funcs[(19 : Nat)]? = some Tryz.f19) (en : Nat → Array Value) (b off cap b' off' cap' n : Nat) (w : World)
    (l1 : ∀ i q os, i < n → Sem.run P (loadCellsFrom ⟨b, off + i * k, none⟩ 0 k #[]) (grow (w.drewN q) os) = .ok (en i) (grow (w.drewN q) os))
    (l2 : ∀ i q os, i < n → Sem.run P (loadCellsFrom ⟨b', off' + i * k, none⟩ 0 k #[]) (grow (w.drewN q) os) = .ok (en i) (grow (w.drewN q) os))
    (hE : (∀ i w, (binOp .neq 31 (.agg (en i)) (.agg (en i))).run P w = .ok (.bool false) w)) (hGd : ∀ (op : BinOp) (a b : Operand) (x y : Array Value) (w : World), Sem.run P (eqGuard op 31 a b (.agg x) (.agg y)) w = .ok () w) (hn : n < 4611686018427387904) :
    Calls P 19 #[.slice (some ⟨b, off, none⟩) n cap, .slice (some ⟨b', off', none⟩) n cap'] w fun e w' => e = .returned (.bool true) ∧ ∃ q os, w' = grow (w.drewN q) os := by
  have mixed := L.mixed; have t0 := L.t0; have a0 := L.a0; have z0 := L.z0; have v0 := L.v0; have t3 := L.t3; have a3 := L.a3; have z3 := L.z3; have v3 := L.v3; have t4 := L.t4; have a4 := L.a4; have z4 := L.z4; have v4 := L.v4; have tS := L.tS; have aS := L.aS; have zS := L.zS; have vS := L.vS; have tC := L.tC; have aC := L.aC; have zC := L.zC; have vC := L.vC; have tU := L.tU; have aU := L.aU; have zU := L.zU; have vU := L.vU; have aE := L.aE; have zE := L.zE
  have L1 : Aside (∀ i q os, i < n → Sem.run P (loadCellsFrom ⟨b, off + i * k, none⟩ 0 k #[]) (grow (w.drewN q) os) = .ok (en i) (grow (w.drewN q) os)) := l1
  have L2 : Aside (∀ i q os, i < n → Sem.run P (loadCellsFrom ⟨b', off' + i * k, none⟩ 0 k #[]) (grow (w.drewN q) os) = .ok (en i) (grow (w.drewN q) os)) := l2
  have HE : Aside (∀ i w, (binOp .neq 31 (.agg (en i)) (.agg (en i))).run P w = .ok (.bool false) w) := hE
  clear l1 l2 hE
  go_enter hF, Tryz.ntmps19
  go_wp2
  go_loopg [5] n (fun kx s5 wr => ∃ (i : Nat), s5 = .int .i64 (i : Int) ∧ i ≤ n ∧ n - i ≤ kx ∧ Aside (∃ q os, wr = grow (w.drewN q) os))
  case atStart => exact ⟨0, rfl, Nat.zero_le _, Nat.le_refl _, ⟨0, #[], by rw [grow_empty]; rfl⟩⟩
  case round =>
    obtain ⟨i, rfl, hi, hkx, W⟩ := hrel
    by_cases hlt : i < n
    · have hltz : decide ((i : Int) < (n : Int)) = true := by simp; omega
      have ex : ((i : Int)).toNat = i := by omega
      have px : (0 : Int) ≤ (i : Int) := by omega
      have bx : (i : Int) < (n : Int) := by omega
      have hG : ∀ q os, ∃ q' os', grow (wr.drewN q) os = grow (w.drewN q') os' := fun q os => grows_trans W.out ⟨q, os, rfl⟩
      have lx : ∀ q os, Sem.run P (loadCellsFrom ⟨b, off + i * k, none⟩ 0 k #[]) (grow (wr.drewN q) os) = .ok (en i) (grow (wr.drewN q) os) := fun q os => by obtain ⟨q', os', e⟩ := hG q os; rw [e]; exact L1.out i q' os' hlt
      have ly : ∀ q os, Sem.run P (loadCellsFrom ⟨b', off' + i * k, none⟩ 0 k #[]) (grow (wr.drewN q) os) = .ok (en i) (grow (wr.drewN q) os) := fun q os => by obtain ⟨q', os', e⟩ := hG q os; rw [e]; exact L2.out i q' os' hlt
      have hq := fun w => HE.out i w
      have HG : Aside (∀ q os, ∃ q' os', grow (wr.drewN q) os = grow (w.drewN q') os') := hG
      clear hG W
      go_wp2_with fail
      go_quiet_grown (fail)
      have W2 : Aside (∃ q os, grow (wr.drewN nq) osq = grow (w.drewN q) os) := HG.out nq osq
      clear lx ly hq HG
      generalize grow (wr.drewN nq) osq = w2 at W2 ⊢
      go_wp2
      go_roundg (n - (i + 1))
      case measure => omega
      case rel => exact ⟨i + 1, by go_num, by omega, Nat.le_refl _, W2⟩
    · have hltz : decide ((i : Int) < (n : Int)) = false := by simp; omega
      go_wp2
      go_ret
      exact ⟨rfl, W.out⟩
end Go.Proofs.YtcggmagdndhkbaaGreatDoor
end
section
namespace Go.Proofs.YtcggmagdndhkbaaGreatDoor
open Go.Shelf Go.RowKit Go.Lib Go.Sort
set_option maxHeartbeats 2000000 in
theorem neq_self (x : OpX) (w : World) : (binOp .neq 31 (.agg (encX x).toArray) (.agg (encX x).toArray)).run Tryz.prog w = .ok (.bool false) w := by
  obtain ⟨t, b, n, k, node, other, name, value⟩ := x
  show Sem.run Tryz.prog (binOp .neq 31 (.agg #[.int .i64 t, .int .i64 b, .int .i64 n, .int .u8 (k : Int), .int .i64 node, .int .i64 other, .string name, .string value]) (.agg #[.int .i64 t, .int .i64 b, .int .i64 n, .int .u8 (k : Int), .int .i64 node, .int .i64 other, .string name, .string value])) w = _
  go_simp
theorem guard_op (op : BinOp) (a b : Operand) (x y : Array Value) (w : World) : Sem.run Tryz.prog (eqGuard op 31 a b (.agg x) (.agg y)) w = .ok () w := run_eqGuard_agg w op 31 a b x y (by kernel_rfl)
theorem load_at {w : World} {b off : Nat} {xs : List OpX} (hc : ∀ j u, (cellsOf xs)[j]? = some u → w.cell? ⟨b, off + j, none⟩ = some u) (i q : Nat) (os : Array Obj) (hi : i < xs.length) :
    Sem.run Tryz.prog (loadCellsFrom ⟨b, off + i * 8, none⟩ 0 8 #[]) (grow (w.drewN q) os) = .ok (encX xs[i]!).toArray (grow (w.drewN q) os) :=
  run_loadCellsFrom_list Tryz.prog _ _ (encX xs[i]!) 8 (encX_len _) (fun c v hcv => by
    have h8 : c < 8 := by have := (List.getElem?_eq_some_iff.1 hcv).1; rwa [encX_len] at this
    have e := cellsOf_get xs i c hi h8
    have h1 := hc (i * 8 + c) v (by rw [e, ← hcv, List.getElem?_eq_getElem (by rw [encX_len]; exact h8), getElem!_pos _ c (by rw [encX_len]; exact h8)])
    rw [Addr.add_lit, Nat.add_assoc]
    exact cellKept (below_grow ⟨rfl, rfl, rfl, Nat.le_refl _, fun _ _ => rfl⟩ (Nat.le_refl _)) h1)
set_option maxHeartbeats 2000000 in
theorem same_none (p p' : Option Addr) (c c' : Nat) (w : World) : Calls Tryz.prog 19 #[.slice p 0 c, .slice p' 0 c'] w fun e w' => e = .returned (.bool true) ∧ w' = w := by
  go_enter Tryz.func19, Tryz.ntmps19
  go_wp2
  refine wp_loop_rounds 1 ?_
  rw [rounds_succ]
  go_wp2
  go_ret
  exact ⟨rfl, rfl⟩
theorem same_any (w : World) (v v' : Value) (xs : List OpX) (h : OpsAt w v xs) (h' : OpsAt w v' xs) (hn : xs.length ≤ 1000) :
    Calls Tryz.prog 19 #[v, v'] w fun e w' => e = .returned (.bool true) ∧ Below w.heap.size w w' := by
  rcases h with ⟨rfl, rfl⟩ | ⟨b, off, c, rfl, hc⟩
  · rcases h' with ⟨rfl, _⟩ | ⟨b', off', c', rfl, _⟩
    · refine (same_none none none 0 0 w).mono ?_
      rintro e w' ⟨rfl, rfl⟩
      exact ⟨rfl, Below.refl _ _⟩
    · refine (same_none none (some ⟨b', off', none⟩) 0 c' w).mono ?_
      rintro e w' ⟨rfl, rfl⟩
      exact ⟨rfl, Below.refl _ _⟩
  · rcases h' with ⟨rfl, rfl⟩ | ⟨b', off', c', rfl, hc'⟩
    · refine (same_none (some ⟨b, off, none⟩) none c 0 w).mono ?_
      rintro e w' ⟨rfl, rfl⟩
      exact ⟨rfl, Below.refl _ _⟩
    · refine (same_open 8 sty_here Tryz.func19 (fun i => (encX xs[i]!).toArray) b off c b' off' c' xs.length w (fun i q os hi => load_at hc i q os hi) (fun i q os hi => load_at hc' i q os hi) (fun i w => neq_self _ w) guard_op (by omega)).mono ?_
      rintro e w' ⟨rfl, q, os, rfl⟩
      exact ⟨rfl, below_grow ⟨rfl, rfl, rfl, Nat.le_refl _, fun _ _ => rfl⟩ (Nat.le_refl _)⟩
end Go.Proofs.YtcggmagdndhkbaaGreatDoor
end
section
namespace Go.Proofs.YtcggmagdndhkbaaGreatDoor
open Go.Shelf Go.RowKit Go.Lib Go.Sort
end Go.Proofs.YtcggmagdndhkbaaGreatDoor
end
section
namespace Go.Proofs.YtcggmagdndhkbaaGreatDoor
open Go.Shelf Go.RowKit Go.Lib Go.Sort
theorem tagged_nodup (xs : List OpX) : ((tagged xs).toList.map Prod.snd).Nodup := by
  simp [tagged, List.nodup_range']
theorem stable_one {xs ys zs : List OpX} (h1 : StableOf xs ys) (h2 : StableOf xs zs) : ys = zs := by
  obtain ⟨d1, ⟨p1, s1⟩, rfl⟩ := h1
  obtain ⟨d2, ⟨p2, s2⟩, rfl⟩ := h2
  rw [← tagged_size xs] at p1 s1 p2 s2
  have q1 := permIn_list p1
  have q2 := permIn_list p2
  rw [← p1.1] at s1
  rw [← p2.1] at s2
  rw [one_sorted ltX_swo d1.toList d2.toList (q1.symm.trans q2) ((q1.map Prod.snd).nodup_iff.1 (tagged_nodup xs)) (sorted_list d1 s1) (sorted_list d2 s2)]
end Go.Proofs.YtcggmagdndhkbaaGreatDoor
end
