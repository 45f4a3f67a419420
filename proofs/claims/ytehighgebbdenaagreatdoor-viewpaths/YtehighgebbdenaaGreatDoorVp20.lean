import Derived.Test.YtehighgebbdenaaGreatDoorVp16
import Derived.Shelf.Abstract
import Derived.Test.YtehighgebbdenaaGreatDoorProg
import Derived.WalkKit
import Derived.WalkSpells
import Derived.LaidEql
import Derived.WideShapes
section
set_option linter.unusedVariables false
namespace Go.Proofs.YtehighgebbdenaaGreatDoor
open Go.RowKit Go.Lib Go.Sort
theorem known_find {R : Rws} (h : RowsN R) {id : Int} : KnownN (allR R) id ↔ ∃ x, findK R id = some x ∧ kdO x = 109 ∧ nodeO x = id := by
  constructor
  · rintro ⟨x, hx, k1, k2, k3⟩
    exact ⟨x, by rw [← k3]; exact findK_is h hx, k1, k2⟩
  · rintro ⟨x, hx, k1, k2⟩
    obtain ⟨a, b⟩ := findK_some hx
    exact ⟨x, a, k1, k2, b⟩
theorem letter_find {R : Rws} (h : RowsN R) {nd id : Int} : LetterN (allR R) nd id ↔ ∃ x, findK R id = some x ∧ kdO x = 105 ∧ nodeO x = nd := by
  constructor
  · rintro ⟨x, hx, k1, k2, k3⟩
    exact ⟨x, by rw [← k3]; exact findK_is h hx, k1, k2⟩
  · rintro ⟨x, hx, k1, k2⟩
    obtain ⟨a, b⟩ := findK_some hx
    exact ⟨x, a, k1, k2, b⟩
set_option maxRecDepth 100000 in
set_option maxHeartbeats 2000000 in
theorem isNode_any {ad : Nat → Addr} (w : World) (ao : Nat → Option Addr) (cap : Nat → Nat) (R : Rws) (id : Int) (z : Bool) (hz : z = true ↔ KnownN (allR R) id) (hE : Op4 ad w) (hK : KnownAt w ao R) (hR : RowsN R) (hl : ∀ i, i < 4 → (R i).length ≤ 1000) (h2 : -9223372036854775808 ≤ id) (h3 : id ≤ 9223372036854775807) :
    Calls Tryz.prog 132 #[kV ao cap R, .int .i64 id] w fun e w' => e = .returned (.bool z) ∧ Below w.heap.size w w' := by
  obtain ⟨U, hU⟩ : ∃ U, U = w.alloc (.cells #[.slice (ao 0) (R 0).length (cap 0), .slice (ao 1) (R 1).length (cap 1), .slice (ao 2) (R 2).length (cap 2), .slice (ao 3) (R 3).length (cap 3)] 65) := ⟨_, rfl⟩
  have hb : Below w.heap.size w U := by rw [hU]; exact (Below.refl _ w).alloc (Nat.le_refl _) _
  have hcall := kfind_any U ao cap R id (hE.later hb) (hK.later hb) hR hl h2 h3
  rw [known_find hR] at hz
  unfold kV at hcall ⊢
  have HB : Aside (Below w.heap.size w U) := hb
  clear hb
  cases hf : findK R id with
  | none =>
    have hzf : z = false := by
      cases z with
      | false => rfl
      | true => obtain ⟨x, e, _⟩ := hz.1 rfl; rw [hf] at e; cases e
    subst hzf
    rw [hf] at hcall
    unfold encO zeroO at hcall
    clear hf hz
    go_enter Tryz.func132, Tryz.ntmps132
    go_wp2_with fail
    rw [← hU]
    clear hU
    refine hcall.mono ?_
    clear hcall
    rintro e w1 ⟨rfl, hb1⟩
    have B1 : Aside (Below w.heap.size w w1) := HB.out.trans (hb1.mono HB.out.size)
    clear hb1 HB
    go_wp2
    go_ret
    exact ⟨rfl, B1.out.alloc B1.out.size _⟩
  | some x =>
    obtain ⟨t, b, n, k, nd, o, s, v⟩ := x
    have HZ : Aside (z = (decide (k = 109) && decide (nd = id))) := by
      show z = (decide (k = 109) && decide (nd = id))
      rw [Bool.eq_iff_iff, hz, Bool.and_eq_true, decide_eq_true_iff, decide_eq_true_iff]
      constructor
      · rintro ⟨x, e, k1, k2⟩
        rw [hf] at e
        cases e
        exact ⟨k1, k2⟩
      · rintro ⟨k1, k2⟩
        exact ⟨_, hf, k1, k2⟩
    rw [hf] at hcall
    unfold encO at hcall
    dsimp only [Option.getD_some] at hcall
    clear hf hz
    by_cases hk : k = 109
    · subst hk
      go_enter Tryz.func132, Tryz.ntmps132
      go_wp2_with fail
      rw [← hU]
      clear hU
      refine hcall.mono ?_
      clear hcall
      rintro e w1 ⟨rfl, hb1⟩
      have B1 : Aside (Below w.heap.size w w1) := HB.out.trans (hb1.mono HB.out.size)
      clear hb1 HB
      go_wp2
      go_ret
      exact ⟨by rw [HZ.out]; simp [BEq.beq], B1.out.alloc B1.out.size _⟩
    · have dk : ((k : Int) == 109) = false := by simp; omega
      go_enter Tryz.func132, Tryz.ntmps132
      go_wp2_with fail
      rw [← hU]
      clear hU
      refine hcall.mono ?_
      clear hcall
      rintro e w1 ⟨rfl, hb1⟩
      have B1 : Aside (Below w.heap.size w w1) := HB.out.trans (hb1.mono HB.out.size)
      clear hb1 HB
      go_wp2
      go_ret
      exact ⟨by rw [HZ.out]; simp [hk], B1.out.alloc B1.out.size _⟩
set_option maxRecDepth 100000 in
set_option maxHeartbeats 2000000 in
theorem isLetter_any {ad : Nat → Addr} (w : World) (ao : Nat → Option Addr) (cap : Nat → Nat) (R : Rws) (node id : Int) (z : Bool) (hz : z = true ↔ LetterN (allR R) node id) (hE : Op4 ad w) (hK : KnownAt w ao R) (hR : RowsN R) (hl : ∀ i, i < 4 → (R i).length ≤ 1000) (h2 : -9223372036854775808 ≤ id) (h3 : id ≤ 9223372036854775807) :
    Calls Tryz.prog 184 #[kV ao cap R, .int .i64 node, .int .i64 id] w fun e w' => e = .returned (.bool z) ∧ Below w.heap.size w w' := by
  obtain ⟨U, hU⟩ : ∃ U, U = w.alloc (.cells #[.slice (ao 0) (R 0).length (cap 0), .slice (ao 1) (R 1).length (cap 1), .slice (ao 2) (R 2).length (cap 2), .slice (ao 3) (R 3).length (cap 3)] 65) := ⟨_, rfl⟩
  have hb : Below w.heap.size w U := by rw [hU]; exact (Below.refl _ w).alloc (Nat.le_refl _) _
  have hcall := kfind_any U ao cap R id (hE.later hb) (hK.later hb) hR hl h2 h3
  rw [letter_find hR] at hz
  unfold kV at hcall ⊢
  have HB : Aside (Below w.heap.size w U) := hb
  clear hb
  cases hf : findK R id with
  | none =>
    have hzf : z = false := by
      cases z with
      | false => rfl
      | true => obtain ⟨x, e, _⟩ := hz.1 rfl; rw [hf] at e; cases e
    subst hzf
    rw [hf] at hcall
    unfold encO zeroO at hcall
    clear hf hz
    go_enter Tryz.func184, Tryz.ntmps184
    go_wp2_with fail
    rw [← hU]
    clear hU
    refine hcall.mono ?_
    clear hcall
    rintro e w1 ⟨rfl, hb1⟩
    have B1 : Aside (Below w.heap.size w w1) := HB.out.trans (hb1.mono HB.out.size)
    clear hb1 HB
    go_wp2
    go_ret
    exact ⟨rfl, B1.out.alloc B1.out.size _⟩
  | some x =>
    obtain ⟨t, b, n, k, nd, o, s, v⟩ := x
    have HZ : Aside (z = (decide (k = 105) && decide (nd = node))) := by
      show z = (decide (k = 105) && decide (nd = node))
      rw [Bool.eq_iff_iff, hz, Bool.and_eq_true, decide_eq_true_iff, decide_eq_true_iff]
      constructor
      · rintro ⟨x, e, k1, k2⟩
        rw [hf] at e
        cases e
        exact ⟨k1, k2⟩
      · rintro ⟨k1, k2⟩
        exact ⟨_, hf, k1, k2⟩
    rw [hf] at hcall
    unfold encO at hcall
    dsimp only [Option.getD_some] at hcall
    clear hf hz
    by_cases hk : k = 105
    · subst hk
      go_enter Tryz.func184, Tryz.ntmps184
      go_wp2_with fail
      rw [← hU]
      clear hU
      refine hcall.mono ?_
      clear hcall
      rintro e w1 ⟨rfl, hb1⟩
      have B1 : Aside (Below w.heap.size w w1) := HB.out.trans (hb1.mono HB.out.size)
      clear hb1 HB
      go_wp2
      go_ret
      exact ⟨by rw [HZ.out]; simp [BEq.beq], B1.out.alloc B1.out.size _⟩
    · have dk : ((k : Int) == 105) = false := by simp; omega
      go_enter Tryz.func184, Tryz.ntmps184
      go_wp2_with fail
      rw [← hU]
      clear hU
      refine hcall.mono ?_
      clear hcall
      rintro e w1 ⟨rfl, hb1⟩
      have B1 : Aside (Below w.heap.size w w1) := HB.out.trans (hb1.mono HB.out.size)
      clear hb1 HB
      go_wp2
      go_ret
      exact ⟨by rw [HZ.out]; simp [hk], B1.out.alloc B1.out.size _⟩
set_option maxRecDepth 100000 in
set_option maxHeartbeats 2000000 in
theorem isPlace_any {ad : Nat → Addr} (w : World) (ao : Nat → Option Addr) (cap : Nat → Nat) (R : Rws) (id : Int) (z : Bool) (hz : z = true ↔ id = 0 ∨ id = 1 ∨ KnownN (allR R) id) (hE : Op4 ad w) (hK : KnownAt w ao R) (hR : RowsN R) (hl : ∀ i, i < 4 → (R i).length ≤ 1000) (h2 : -9223372036854775808 ≤ id) (h3 : id ≤ 9223372036854775807) :
    Calls Tryz.prog 104 #[kV ao cap R, .int .i64 id] w fun e w' => e = .returned (.bool z) ∧ Below w.heap.size w w' := by
  obtain ⟨U, hU⟩ : ∃ U, U = w.alloc (.cells #[.slice (ao 0) (R 0).length (cap 0), .slice (ao 1) (R 1).length (cap 1), .slice (ao 2) (R 2).length (cap 2), .slice (ao 3) (R 3).length (cap 3)] 65) := ⟨_, rfl⟩
  have hb : Below w.heap.size w U := by rw [hU]; exact (Below.refl _ w).alloc (Nat.le_refl _) _
  have HB : Aside (Below w.heap.size w U) := hb
  by_cases h0 : id = 0
  · obtain rfl : z = true := hz.2 (.inl h0)
    subst h0
    unfold kV
    clear hb hz
    go_enter Tryz.func104, Tryz.ntmps104
    go_wp2
    go_ret
    exact ⟨rfl, (Below.refl _ w).alloc (Nat.le_refl _) _⟩
  · by_cases h1 : id = 1
    · obtain rfl : z = true := hz.2 (.inr (.inl h1))
      subst h1
      unfold kV
      clear hb hz
      go_enter Tryz.func104, Tryz.ntmps104
      go_wp2
      go_ret
      exact ⟨rfl, (Below.refl _ w).alloc (Nat.le_refl _) _⟩
    · have hz' : z = true ↔ KnownN (allR R) id := hz.trans ⟨fun q => (q.resolve_left h0).resolve_left h1, fun q => .inr (.inr q)⟩
      have hcall := isNode_any U ao cap R id z hz' (hE.later hb) (hK.later hb) hR hl h2 h3
      have d0 : (id == 0) = false := by simp [h0]
      have d1 : (id == 1) = false := by simp [h1]
      unfold kV at hcall ⊢
      clear hb hz hz'
      go_enter Tryz.func104, Tryz.ntmps104
      go_wp2_with fail
      rw [← hU]
      clear hU
      refine hcall.mono ?_
      clear hcall
      rintro e w1 ⟨rfl, hb1⟩
      have B1 : Aside (Below w.heap.size w w1) := HB.out.trans (hb1.mono HB.out.size)
      clear hb1 HB
      go_wp2
      go_ret
      exact ⟨rfl, B1.out⟩
theorem refOk_iff {S : List OpX} {x : OpX} (hx : x ∈ S) (ho : 0 ≤ otherO x) : RefOk S x ↔ KnownN S (nodeO x) ∧ (kdO x = 109 → otherO x = 0 ∨ otherO x = 1 ∨ KnownN S (otherO x)) ∧ (kdO x = 105 → otherO x = 0 ∨ LetterN S (nodeO x) (otherO x)) ∧ (kdO x = 100 → LetterN S (nodeO x) (otherO x)) := by
  constructor
  · rintro ⟨h1, h2, h3⟩
    refine ⟨?_, h2, fun k => ?_, fun k => h3 (.inr k)⟩
    · rcases h1 with ⟨k, e⟩ | k
      · exact ⟨x, hx, k, rfl, e⟩
      · exact k
    · by_cases e : otherO x = 0
      · exact .inl e
      · exact .inr (h3 (.inl ⟨k, by omega⟩))
  · rintro ⟨h1, h2, h3, h4⟩
    exact ⟨.inr h1, h2, fun k => k.elim (fun k => (h3 k.1).resolve_left (by omega)) h4⟩
set_option maxRecDepth 100000 in
set_option maxHeartbeats 4000000 in
theorem bears_any {ad : Nat → Addr} (w : World) (ao : Nat → Option Addr) (cap : Nat → Nat) (R : Rws) (x : OpX) (hx : x ∈ allR R) (z : Bool) (hz : z = true ↔ RefOk (allR R) x) (hE : Op4 ad w) (hK : KnownAt w ao R) (hR : RowsN R) (hl : ∀ i, i < 4 → (R i).length ≤ 1000) :
    Calls Tryz.prog 118 #[kV ao cap R, encO x] w fun e w' => e = .returned (.bool z) ∧ Below w.heap.size w w' := by
  have hid := id_range (hR.num.ok x hx)
  have hrf := err_refs (hR.num.ok x hx)
  rw [refOk_iff hx (by omega)] at hz
  obtain ⟨t, b, n, k, nd, o, s, v⟩ := x
  have q1 : nd ≤ idO (t, b, n, k, nd, o, s, v) := hrf.1.elim (fun q => q.2) (fun q => Int.le_of_lt q)
  have q2 : o < idO (t, b, n, k, nd, o, s, v) := hrf.2.1
  have q3 : 0 ≤ nd := hrf.2.2.1
  have q4 : 0 ≤ o := hrf.2.2.2.1
  have hn0 : 0 ≤ nd ∧ nd ≤ 4294967300 := ⟨q3, by omega⟩
  have ho0 : 0 ≤ o ∧ o ≤ 4294967300 := ⟨q4, by omega⟩
  clear q1 q2 q3 q4
  change z = true ↔ KnownN (allR R) nd ∧ (k = 109 → o = 0 ∨ o = 1 ∨ KnownN (allR R) o) ∧ (k = 105 → o = 0 ∨ LetterN (allR R) nd o) ∧ (k = 100 → LetterN (allR R) nd o) at hz
  clear hid hrf
  obtain ⟨U, hU⟩ : ∃ U, U = (w.alloc (.cells #[.slice (ao 0) (R 0).length (cap 0), .slice (ao 1) (R 1).length (cap 1), .slice (ao 2) (R 2).length (cap 2), .slice (ao 3) (R 3).length (cap 3)] 65)).alloc (.cells #[.int .i64 t, .int .i64 b, .int .i64 n, .int .u8 (k : Int), .int .i64 nd, .int .i64 o, .string s, .string v] 38) := ⟨_, rfl⟩
  obtain ⟨S, hS⟩ : ∃ S, S = w.heap.size := ⟨_, rfl⟩
  have hb : Below w.heap.size w U := by rw [hU]; exact ((Below.refl _ w).alloc (Nat.le_refl _) _).alloc (by simp) _
  have hz1 : OpBlk U (S + 1) (t, b, n, k, nd, o, s, v) := by
    rw [hU, hS]
    have := heap_alloc_new (w.alloc (.cells #[.slice (ao 0) (R 0).length (cap 0), .slice (ao 1) (R 1).length (cap 1), .slice (ao 2) (R 2).length (cap 2), .slice (ao 3) (R 3).length (cap 3)] 65)) (.cells #[.int .i64 t, .int .i64 b, .int .i64 n, .int .u8 (k : Int), .int .i64 nd, .int .i64 o, .string s, .string v] 38)
    rw [World.size_alloc] at this
    exact this
  have hk : KBox U S ao cap R := by rw [hU, hS]; exact (Below.heap_alloc _ _ _ (by simp)).trans (KBox.new w ao cap R)
  obtain ⟨zn, hzn⟩ : ∃ zn : Bool, zn = true ↔ KnownN (allR R) nd := by
    by_cases q : KnownN (allR R) nd
    · exact ⟨true, by simp [q]⟩
    · exact ⟨false, by simp [q]⟩
  have hcall := isNode_any U ao cap R nd zn hzn (hE.later hb) (hK.later hb) hR hl (by omega) (by omega)
  have HB : Aside (Below w.heap.size w U ∧ KBox U S ao cap R ∧ OpBlk U (S + 1) (t, b, n, k, nd, o, s, v)) := ⟨hb, hk, hz1⟩
  unfold kV at hcall ⊢
  unfold encO
  clear hb hk hz1
  go_enter Tryz.func118, Tryz.ntmps118
  go_wp2_with fail
  rw [← hU, ← hS]
  clear hU hS
  refine hcall.mono ?_
  clear hcall
  rintro e w1 ⟨rfl, hb1⟩
  have H1 : Aside (Below w.heap.size w w1 ∧ KBox w1 S ao cap R ∧ OpBlk w1 (S + 1) (t, b, n, k, nd, o, s, v)) := ⟨HB.out.1.trans (hb1.mono HB.out.1.size), HB.out.2.1.later hb1, HB.out.2.2.later hb1⟩
  obtain ⟨y0, y1, y2, y3, y4, y5, y6, y7, f8⟩ := H1.out.2.2.cells
  dsimp only at y0 y1 y2 y3 y4 y5 y6 y7
  have k0 := H1.out.2.1.at (i := 0) (by omega)
  have k1 := H1.out.2.1.at (i := 1) (by omega)
  have k2 := H1.out.2.1.at (i := 2) (by omega)
  have k3 := H1.out.2.1.at (i := 3) (by omega)
  have hE1 := hE.later H1.out.1
  have hK1 := hK.later H1.out.1
  clear hb1 HB
  cases zn with
  | false =>
    have hzf : z = false := by
      cases z with
      | false => rfl
      | true => exact absurd (hzn.2 (hz.1 rfl).1) (by decide)
    subst hzf
    clear hz hzn
    go_wp2
    go_ret
    exact ⟨rfl, H1.out.1⟩
  | true =>
    have hkn := hzn.1 rfl
    clear hzn
    by_cases hm : k = 109
    · subst hm
      have hz' : z = true ↔ o = 0 ∨ o = 1 ∨ KnownN (allR R) o := hz.trans ⟨fun q => q.2.1 rfl, fun q => ⟨hkn, fun _ => q, fun k => absurd k (by decide), fun k => absurd k (by decide)⟩⟩
      have hcall := isPlace_any w1 ao cap R o z hz' hE1 hK1 hR hl (by omega) (by omega)
      unfold kV at hcall
      clear hz hz'
      go_wp2_with fail
      refine hcall.mono ?_
      clear hcall
      rintro e w2 ⟨rfl, hb2⟩
      have B2 : Aside (Below w.heap.size w w2) := H1.out.1.trans (hb2.mono H1.out.1.size)
      clear hb2
      go_wp2
      go_ret
      exact ⟨rfl, B2.out⟩
    · have dm : ((k : Int) == 109) = false := by simp; omega
      by_cases hi : k = 105
      · subst hi
        by_cases h0 : o = 0
        · subst h0
          obtain rfl : z = true := hz.2 ⟨hkn, fun k => absurd k (by decide), fun _ => .inl rfl, fun k => absurd k (by decide)⟩
          clear hz
          go_wp2
          go_ret
          exact ⟨rfl, H1.out.1⟩
        · have d0 : (o == 0) = false := by simp [h0]
          have hz' : z = true ↔ LetterN (allR R) nd o := hz.trans ⟨fun q => (q.2.2.1 rfl).resolve_left h0, fun q => ⟨hkn, fun k => absurd k (by decide), fun _ => .inr q, fun k => absurd k (by decide)⟩⟩
          have hcall := isLetter_any w1 ao cap R nd o z hz' hE1 hK1 hR hl (by omega) (by omega)
          unfold kV at hcall
          clear hz hz'
          go_wp2_with fail
          refine hcall.mono ?_
          clear hcall
          rintro e w2 ⟨rfl, hb2⟩
          have B2 : Aside (Below w.heap.size w w2) := H1.out.1.trans (hb2.mono H1.out.1.size)
          clear hb2
          go_wp2
          go_ret
          exact ⟨rfl, B2.out⟩
      · have di : ((k : Int) == 105) = false := by simp; omega
        by_cases hd : k = 100
        · subst hd
          have hz' : z = true ↔ LetterN (allR R) nd o := hz.trans ⟨fun q => q.2.2.2 rfl, fun q => ⟨hkn, fun k => absurd k (by decide), fun k => absurd k (by decide), fun _ => q⟩⟩
          have hcall := isLetter_any w1 ao cap R nd o z hz' hE1 hK1 hR hl (by omega) (by omega)
          unfold kV at hcall
          clear hz hz'
          go_wp2_with fail
          refine hcall.mono ?_
          clear hcall
          rintro e w2 ⟨rfl, hb2⟩
          have B2 : Aside (Below w.heap.size w w2) := H1.out.1.trans (hb2.mono H1.out.1.size)
          clear hb2
          go_wp2
          go_ret
          exact ⟨rfl, B2.out⟩
        · have dd : ((k : Int) == 100) = false := by simp; omega
          obtain rfl : z = true := hz.2 ⟨hkn, fun k => absurd k hm, fun k => absurd k hi, fun k => absurd k hd⟩
          clear hz
          go_wp2
          go_ret
          exact ⟨rfl, H1.out.1⟩
end Go.Proofs.YtehighgebbdenaaGreatDoor
end
section
set_option linter.unusedVariables false
namespace Go.Proofs.YtehighgebbdenaaGreatDoor
open Go.RowKit Go.Lib Go.Sort
def PredO (g : Nat) (lb : Array Value) (xs : List OpX) (p : OpX → Bool) (w : World) : Prop :=
  ∀ (W : World) (x : OpX), x ∈ xs → Below w.heap.size w W → Calls Tryz.prog g (#[encO x] ++ lb) W fun e w' => e = .returned (.bool (p x)) ∧ Below w.heap.size w w'
def IdxO (p : OpX → Bool) (zs : List OpX) (r : Int) : Prop :=
  (r = -1 ∧ ∀ x ∈ zs, p x = false) ∨ ∃ k x, r = ((k : Nat) : Int) ∧ zs[k]? = some x ∧ p x = true ∧ ∀ j y, j < k → zs[j]? = some y → p y = false
set_option maxHeartbeats 2000000 in
theorem idxOps_any (p : OpX → Bool) (g : Nat) (lb : Array Value) (eg : ∀ args w, (callFunc g args).run Tryz.prog w = .ok (.enter g args) w) (ao : Option Addr) (cap : Nat) (zs : List OpX) (w : World) (hp : PredO g lb zs p w) (hbig : zs.length ≤ 1000000) (hin : OpsIn w ao zs) :
    Calls Tryz.prog 152 #[.slice ao zs.length cap, .func (.func g) #[] lb] w fun e w' => ∃ r : Int, e = .returned (.int .i64 r) ∧ Aside (IdxO p zs r ∧ Below w.heap.size w w') := by
  have HP : Aside (PredO g lb zs p w) := hp
  have HI : Aside (OpsIn w ao zs) := hin
  clear hp hin
  go_enter Tryz.func152, Tryz.ntmps152
  go_wp2
  go_loopg [5, 8] zs.length (fun kx _ s8 wr => ∃ (k : Nat), s8 = .int .i64 (k : Int) ∧ k ≤ zs.length ∧ zs.length - k ≤ kx ∧ Aside (Below w.heap.size w wr ∧ ∀ j l, j < k → zs[j]? = some l → p l = false))
  case atStart => exact ⟨0, rfl, Nat.zero_le _, Nat.le_refl _, ⟨Below.refl _ w, fun j l hj => by omega⟩⟩
  case round =>
    obtain ⟨k, rfl, hk, hkx, A⟩ := hrel
    by_cases hlt : k < zs.length
    · have hltz : decide ((k : Int) < (zs.length : Int)) = true := by simp; omega
      have ek : ((k : Int)).toNat = k := by omega
      have pk : (0 : Int) ≤ (k : Int) := by omega
      have bk : (k : Int) < (zs.length : Int) := by omega
      obtain ⟨⟨t, b, n, kd, nd, o, s, v⟩, hl⟩ : ∃ l, Aside (zs[k]? = some l) := ⟨zs[k], List.getElem?_eq_getElem hlt⟩
      obtain ⟨blk, off, hao, hc⟩ := (HI.out.later A.out.1).get hl.out
      subst hao
      have r0 := hc 0 _ rfl
      have r1 := hc 1 _ rfl
      have r2 := hc 2 _ rfl
      have r3 := hc 3 _ rfl
      have r4 := hc 4 _ rfl
      have r5 := hc 5 _ rfl
      have r6 := hc 6 _ rfl
      have r7 := hc 7 _ rfl
      simp only [Nat.add_zero] at r0
      clear hc
      have hcall := HP.out wr (t, b, n, kd, nd, o, s, v) (List.mem_of_getElem? hl.out) A.out.1
      unfold encO at hcall
      dsimp only at hcall
      cases hq : p (t, b, n, kd, nd, o, s, v) with
      | true =>
        rw [hq] at hcall
        have HQ := Lib.hid hq
        clear hq
        go_wp2_with (go_at_fn g; refine hcall.mono ?_; rintro e w' ⟨rfl, hb'⟩)
        go_ret
        exact ⟨_, rfl, .inr ⟨k, _, rfl, hl.out, HQ.out, A.out.2⟩, hb'⟩
      | false =>
        rw [hq] at hcall
        have HQ := Lib.hid hq
        clear hq
        go_wp2_with (go_at_fn g; refine hcall.mono ?_; rintro e w' ⟨rfl, hb'⟩)
        go_roundg (zs.length - (k + 1))
        case measure => omega
        case rel =>
          refine ⟨k + 1, by go_num, by omega, Nat.le_refl _, ⟨hb', fun j l hj e => ?_⟩⟩
          rcases Nat.lt_or_ge j k with h | h
          · exact A.out.2 j l h e
          · obtain rfl : j = k := by omega
            rw [hl.out] at e
            cases e
            exact HQ.out
    · have hltz : decide ((k : Int) < (zs.length : Int)) = false := by simp; omega
      go_wp2
      go_ret
      refine ⟨_, rfl, .inl ⟨rfl, fun l hl => ?_⟩, A.out.1⟩
      obtain ⟨j, hj, rfl⟩ := List.getElem_of_mem hl
      exact A.out.2 j _ (by omega) (List.getElem?_eq_getElem hj)
theorem hasOps_any (p : OpX → Bool) (g : Nat) (lb : Array Value) (eg : ∀ args w, (callFunc g args).run Tryz.prog w = .ok (.enter g args) w) (ao : Option Addr) (cap : Nat) (zs : List OpX) (w : World) (hp : PredO g lb zs p w) (hbig : zs.length ≤ 1000000) (hin : OpsIn w ao zs) :
    Calls Tryz.prog 116 #[.slice ao zs.length cap, .func (.func g) #[] lb] w fun e w' => e = .returned (.bool (zs.any p)) ∧ Below w.heap.size w w' := by
  have hcall := idxOps_any p g lb eg ao cap zs w hp hbig hin
  clear hp hin eg
  go_enter Tryz.func116, Tryz.ntmps116
  go_wp2_with fail
  refine hcall.mono ?_
  clear hcall
  rintro e w' ⟨r, rfl, H⟩
  rcases H.out.1 with ⟨hr, ha⟩ | ⟨k, x, hr, hx, hpx, _⟩
  · have HA : Aside (zs.any p = false) := by
      show zs.any p = false
      rw [List.any_eq_false]
      intro x hx
      rw [ha x hx]
      decide
    clear ha
    subst hr
    go_wp2
    go_ret
    exact ⟨by rw [HA.out]; rfl, H.out.2⟩
  · have HA : Aside (zs.any p = true) := List.any_eq_true.2 ⟨x, List.mem_of_getElem? hx, hpx⟩
    have dr : decide (0 ≤ r) = true := by simp; omega
    clear hx hpx hr
    go_wp2
    go_ret
    exact ⟨by rw [HA.out]; rfl, H.out.2⟩
set_option maxRecDepth 100000 in
set_option maxHeartbeats 2000000 in
theorem bearsAll_any {ad : Nat → Addr} (w : World) (ao : Nat → Option Addr) (cap : Nat → Nat) (R : Rws) (fa : Option Addr) (fc : Nat) (fresh : List OpX) (hin : OpsIn w fa fresh) (hx : ∀ x ∈ fresh, x ∈ allR R) (z : Bool) (hz : z = true ↔ ∀ x ∈ fresh, RefOk (allR R) x) (hE : Op4 ad w) (hK : KnownAt w ao R) (hR : RowsN R) (hl : ∀ i, i < 4 → (R i).length ≤ 1000) (hn : fresh.length ≤ 1000) :
    Calls Tryz.prog 51 #[kV ao cap R, .slice fa fresh.length fc] w fun e w' => e = .returned (.bool z) ∧ Below w.heap.size w w' := by
  obtain ⟨U, hU⟩ : ∃ U, U = w.alloc (.cells #[.slice (ao 0) (R 0).length (cap 0), .slice (ao 1) (R 1).length (cap 1), .slice (ao 2) (R 2).length (cap 2), .slice (ao 3) (R 3).length (cap 3)] 65) := ⟨_, rfl⟩
  have hb : Below w.heap.size w U := by rw [hU]; exact (Below.refl _ w).alloc (Nat.le_refl _) _
  have hk : KBox U w.heap.size ao cap R := by rw [hU]; exact KBox.new w ao cap R
  obtain ⟨p, hp⟩ : ∃ p : OpX → Bool, ∀ x, p x = true ↔ ¬ RefOk (allR R) x := by
    refine ⟨fun x => @decide (¬ RefOk (allR R) x) (Classical.propDecidable _), fun x => ?_⟩
    exact @decide_eq_true_iff _ (Classical.propDecidable _)
  have hpred : PredO 117 #[.pointer (some ⟨w.heap.size, 0, none⟩)] fresh p U := by
    intro W x hxf hbW
    have hkW := hk.later hbW
    have hc := bears_any (W.alloc (.cells #[.int .i64 x.1, .int .i64 x.2.1, .int .i64 x.2.2.1, .int .u8 (x.2.2.2.1 : Int), .int .i64 x.2.2.2.2.1, .int .i64 x.2.2.2.2.2.1, .string x.2.2.2.2.2.2.1, .string x.2.2.2.2.2.2.2] 38)) ao cap R x (hx x hxf) (!(p x)) (by
      rw [Bool.not_eq_true']
      constructor
      · intro q
        refine Classical.byContradiction (fun k => ?_)
        rw [(hp x).2 k] at q
        cases q
      · intro q
        cases hq : p x with
        | false => rfl
        | true => exact absurd q ((hp x).1 hq)) ((hE.later hb).later (hbW.alloc hbW.size _)) ((hK.later hb).later (hbW.alloc hbW.size _)) hR hl
    have k0 := hkW.at (i := 0) (by omega)
    have k1 := hkW.at (i := 1) (by omega)
    have k2 := hkW.at (i := 2) (by omega)
    have k3 := hkW.at (i := 3) (by omega)
    have hlt := hkW.lt
    have hsz := hbW.size
    have HB : Aside (Below U.heap.size U W) := hbW
    clear hkW hbW hp
    obtain ⟨t, b, n, kd, nd, o, s, v⟩ := x
    unfold kV encO at hc
    dsimp only at hc
    show Calls Tryz.prog 117 #[encO (t, b, n, kd, nd, o, s, v), .pointer (some ⟨w.heap.size, 0, none⟩)] W _
    unfold encO
    dsimp only
    go_enter Tryz.func117, Tryz.ntmps117
    go_wp2_with fail
    refine hc.mono ?_
    clear hc
    rintro e w1 ⟨rfl, hb1⟩
    have B1 : Aside (Below U.heap.size U w1) := (HB.out.alloc HB.out.size _).trans (hb1.mono (by simp; have := HB.out.size; omega))
    clear hb1
    go_wp2
    go_ret
    exact ⟨by simp, B1.out⟩
  have hcall := hasOps_any p 117 #[.pointer (some ⟨w.heap.size, 0, none⟩)] (enters_of Tryz.func117 (by kernel_rfl) rfl) fa fc fresh U hpred (by omega) (hin.later hb)
  have HB : Aside (Below w.heap.size w U) := hb
  have HZ : Aside (z = !(fresh.any p)) := by
    show z = !(fresh.any p)
    rw [Bool.eq_iff_iff, hz, Bool.not_eq_true', List.any_eq_false]
    exact ⟨fun q x hxf hpx => (hp x).1 hpx (q x hxf), fun q x hxf => Classical.byContradiction (fun k => q x hxf ((hp x).2 k))⟩
  clear hz hp hpred hb hk
  unfold kV
  go_enter Tryz.func51, Tryz.ntmps51
  go_wp2_with fail
  rw [← hU]
  clear hU
  refine hcall.mono ?_
  clear hcall
  rintro e w1 ⟨rfl, hb1⟩
  have B1 : Aside (Below w.heap.size w w1) := HB.out.trans (hb1.mono HB.out.size)
  clear hb1
  go_wp2
  go_ret
  exact ⟨by rw [HZ.out]; rfl, B1.out⟩
theorem kidx (a0 a1 a2 a3 : Value) : (∀ w, (Instr.index 65 (.agg #[a0, a1, a2, a3]) (.int .i64 0)).run Tryz.prog w = .ok a0 w) ∧ (∀ w, (Instr.index 65 (.agg #[a0, a1, a2, a3]) (.int .i64 1)).run Tryz.prog w = .ok a1 w) ∧ (∀ w, (Instr.index 65 (.agg #[a0, a1, a2, a3]) (.int .i64 2)).run Tryz.prog w = .ok a2 w) ∧ ∀ w, (Instr.index 65 (.agg #[a0, a1, a2, a3]) (.int .i64 3)).run Tryz.prog w = .ok a3 w :=
  ⟨fun _ => by kernel_rfl, fun _ => by kernel_rfl, fun _ => by kernel_rfl, fun _ => by kernel_rfl⟩
set_option maxRecDepth 100000 in
set_option maxHeartbeats 2000000 in
theorem count_any (w : World) (ao : Nat → Option Addr) (cap : Nat → Nat) (R : Rws) (hl : ∀ i, i < 4 → (R i).length ≤ 1000) :
    Calls Tryz.prog 52 #[kV ao cap R] w fun e w' => e = .returned (.int .i64 ((allR R).length : Int)) ∧ Below w.heap.size w w' := by
  have h0 := hl 0 (by omega)
  have h1 := hl 1 (by omega)
  have h2 := hl 2 (by omega)
  have h3 := hl 3 (by omega)
  have HL : Aside (((allR R).length : Int) = (R 0).length + (R 1).length + (R 2).length + (R 3).length) := by
    show ((allR R).length : Int) = _
    unfold allR; simp; omega
  obtain ⟨x0, x1, x2, x3⟩ := kidx (.slice (ao 0) (R 0).length (cap 0)) (.slice (ao 1) (R 1).length (cap 1)) (.slice (ao 2) (R 2).length (cap 2)) (.slice (ao 3) (R 3).length (cap 3))
  unfold kV
  go_enter Tryz.func52, Tryz.ntmps52
  go_wp2
  refine wp_loop_rounds 5 ?_
  iterate 5
    rw [rounds_succ]
    go_wp2
  go_ret
  refine ⟨?_, (Below.refl _ w).alloc (Nat.le_refl _) _⟩
  rw [HL.out]
  first | rfl | (refine congrArg _ (congrArg _ ?_); omega)
theorem results_c {fn : Func} {p : Tmp} {ty : TypeId} (h : fn.results = #[.cell p ty]) (tmps : Array Value) (P : Program) (w : World) :
    (results fn tmps).run P w = ((asAddr (tmps.getD p undef)).run P w).andThen fun a w1 => ((loadVar ty a).run P w1) := by
  simp only [results, h]
  simp [Sem.run_bind, Result.andThen]
set_option maxRecDepth 100000 in
set_option maxHeartbeats 2000000 in
theorem kvector_any (w : World) (ao : Nat → Option Addr) (cap : Nat → Nat) (R : Rws) (hl : ∀ i, i < 4 → (R i).length ≤ 1000) :
    Calls Tryz.prog 80 #[kV ao cap R] w fun e w' => e = .returned (.agg #[.int .i64 ((R 0).length : Int), .int .i64 ((R 1).length : Int), .int .i64 ((R 2).length : Int), .int .i64 ((R 3).length : Int)]) ∧ Below w.heap.size w w' := by
  have h0 := hl 0 (by omega)
  have h1 := hl 1 (by omega)
  have h2 := hl 2 (by omega)
  have h3 := hl 3 (by omega)
  obtain ⟨x0, x1, x2, x3⟩ := kidx (.slice (ao 0) (R 0).length (cap 0)) (.slice (ao 1) (R 1).length (cap 1)) (.slice (ao 2) (R 2).length (cap 2)) (.slice (ao 3) (R 3).length (cap 3))
  unfold kV
  go_enter Tryz.func80, Tryz.ntmps80
  go_wp2
  refine wp_loop_rounds 5 ?_
  iterate 5
    rw [rounds_succ]
    go_wp2
  (try simp only [Exit.inBlock, Exit.then])
  refine bodyPost_ret (v := .agg #[.int .i64 ((R 0).length : Int), .int .i64 ((R 1).length : Int), .int .i64 ((R 2).length : Int), .int .i64 ((R 3).length : Int)]) ?_ rfl ⟨rfl, ?_⟩
  · rw [results_c rfl]
    go_simp
  · exact (((Below.refl _ w).alloc (Nat.le_refl _) _).alloc (by simp) _).alloc (by simp; omega) _
end Go.Proofs.YtehighgebbdenaaGreatDoor
end
section
namespace Go.Proofs.YtehighgebbdenaaGreatDoor
open Go.RowKit
def eqB (t b n : Int) (k : Nat) (node other : Int) (name value : ByteArray) (t' b' n' : Int) (k' : Nat) (node' other' : Int) (name' value' : ByteArray) : Bool := decide (t = t' ∧ b = b' ∧ n = n' ∧ k = k' ∧ node = node' ∧ other = other' ∧ name = name' ∧ value = value')
theorem eqOp (t b n : Int) (k : Nat) (node other : Int) (name value : ByteArray) (t' b' n' : Int) (k' : Nat) (node' other' : Int) (name' value' : ByteArray) (w : World) : (Op.equalIn 10000 38 (.agg #[.int .i64 t, .int .i64 b, .int .i64 n, .int .u8 (k : Int), .int .i64 node, .int .i64 other, .string name, .string value]) (.agg #[.int .i64 t', .int .i64 b', .int .i64 n', .int .u8 (k' : Int), .int .i64 node', .int .i64 other', .string name', .string value'])).run Tryz.prog w = .ok (eqB t b n k node other name value t' b' n' k' node' other' name' value') w := by
  have hs : ∀ x y : ByteArray, x.toList = y.toList ↔ x = y := fun x y => ⟨fun h => by rw [ByteArray.toList_eq, ByteArray.toList_eq] at h; exact WideShapes.bytes_inj h, fun h => by rw [h]⟩
  unfold eqB
  go_simp
  simp only [Int.natCast_inj]
  by_cases h1 : t = t' <;> by_cases h2 : b = b' <;> by_cases h3 : n = n' <;> by_cases h4 : k = k' <;> by_cases h5 : node = node' <;> by_cases h6 : other = other' <;> by_cases h7 : name = name' <;> by_cases h8 : value = value' <;> simp [h1, h2, h3, h4, h5, h6, h7, h8]
theorem eqB_self (t b n : Int) (k : Nat) (node other : Int) (name value : ByteArray) : eqB t b n k node other name value t b n k node other name value = true := by simp [eqB]
end Go.Proofs.YtehighgebbdenaaGreatDoor
end
