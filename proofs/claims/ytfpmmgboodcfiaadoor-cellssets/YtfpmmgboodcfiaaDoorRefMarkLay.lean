/- Contract of the reference's Lay: a mark is laid in, if it is newer. -/
import Derived.Test.YtfpmmgboodcfiaaDoorRefMark
import Derived.Test.YtfpmmgboodcfiaaDoorCellMap
import Derived.Test.YtfpmmgboodcfiaaDoorRefLess
import Derived.BigQuiet
import Derived.WalkKit
import Derived.Lib.Hide
import Derived.Deep.LoopGhost
import Derived.Deep.Cut
import Derived.Deep.RegionHeld3
import Derived.Deep.CutRange
import Derived.Deep.DeepCutAuto
import Derived.Laws.AppendOwn
import Derived.Lib.AppendZeros
namespace Go.Proofs.YtfpmmgboodcfiaaDoor
open Go Go.RowKit

theorem beqBytes_eq (x y : ByteArray) : (x.toList == y.toList) = decide (x = y) := by
  rw [ByteArray.toList_eq, ByteArray.toList_eq]
  by_cases h : x = y
  · subst h; simp
  · have : x.data.toList ≠ y.data.toList := fun e => h (bytesExt e)
    rw [decide_eq_false h]
    exact beq_false_of_ne this

theorem layC_same {L : List (CKey × CMark)} {m : CKey × CMark} {k : Nat} {o : CMark} (hk : k = spotC m.1 L) (ho : L[k]? = some (m.1, o)) : layC L m = (if CLt o.2 m.2.2 then L.set k m else L) ∧ laidC L m = decide (CLt o.2 m.2.2) := by
  subst hk
  unfold layC laidC
  rw [ho]
  exact ⟨if_pos rfl, if_pos rfl⟩
theorem layC_new {L : List (CKey × CMark)} {m : CKey × CMark} {k : Nat} (hk : k = spotC m.1 L) (ho : ¬ ∃ o, L[k]? = some (m.1, o)) : layC L m = L.take k ++ m :: L.drop k ∧ laidC L m = true := by
  subst hk
  unfold layC laidC
  cases hs : L[spotC m.1 L]? with
  | none => exact ⟨rfl, rfl⟩
  | some o =>
    have hne : o.1 ≠ m.1 := fun e => ho ⟨o.2, by rw [hs, ← e]⟩
    exact ⟨if_neg hne, if_neg hne⟩

/-- The cells that the test on the stamps reads. -/
abbrev StampCells (U : World) (p S g o : Nat) (v : Value) (t' b' t b : Int) (w : World) : Prop := w.cell? ⟨p, 0, none⟩ = some v ∧ w.cell? ⟨g, o + 3, none⟩ = some (.int .i64 t') ∧ w.cell? ⟨g, o + 4, none⟩ = some (.int .i64 b') ∧ w.cell? ⟨S, 3, none⟩ = some (.int .i64 t) ∧ w.cell? ⟨S, 4, none⟩ = some (.int .i64 b) ∧ Below U.heap.size U w
theorem StampCells.later {U w w' : World} {p S g o : Nat} {v : Value} {t' b' t b : Int} (h : StampCells U p S g o v t' b' t b w) (hb : Below w.heap.size w w') : StampCells U p S g o v t' b' t b w' :=
  ⟨cellHeld hb h.1, cellHeld hb h.2.1, cellHeld hb h.2.2.1, cellHeld hb h.2.2.2.1, cellHeld hb h.2.2.2.2.1, h.2.2.2.2.2.trans (hb.mono h.2.2.2.2.2.size)⟩
theorem StampCells.drew {U w : World} {p S g o : Nat} {v : Value} {t' b' t b : Int} (h : StampCells U p S g o v t' b' t b w) : StampCells U p S g o v t' b' t b w.drew := h.later (Below.refl _ _).drew
theorem drewN_below {B : Nat} {w w' : World} (h : Below B w w') (q : Nat) : Below B w (w'.drewN q) := ⟨h.os, h.tape, h.output, h.size, h.block⟩

theorem lessB_C (t b t' b' : Int) : lessB t b t' b' = decide (CLt (t, b) (t', b')) := by
  unfold lessB CLt
  by_cases h : t = t'
  · rw [if_pos h]
    simp [h]
  · rw [if_neg h]
    simp [h]
/-- A mark of a row, written over. -/
theorem row_set {w : World} {base g cap k : Nat} {L : List (CKey × CMark)} (h : w.ownsRow base 48 5 (.slice (some ⟨g, 0, none⟩) L.length cap) L.length (flat encQ L)) (hk : k < L.length) (a : Int) (s c : ByteArray) (t b : Int) :
    (w.setCells g (k * 5) [.int .i64 a, .string s, .string c, .int .i64 t, .int .i64 b]).ownsRow base 48 5 (.slice (some ⟨g, 0, none⟩) L.length cap) L.length (flat encQ (L.set k ((a, s), (c, (t, b))))) := by
  have h1 := flat_set (enc := encQ) (k := 5) encQ_len L k hk ((a, s), (c, (t, b)))
  have h2 := flat_set (enc := encQ) (k := 5) encQ_len L k hk L[k]
  rw [List.set_getElem_self hk] at h2
  rw [h2] at h
  rw [h1]
  have := owns_over (vs := encQ ((a, s), (c, (t, b)))) h rfl
  rwa [show ((flat encQ L).take (k * 5)).length = k * 5 by rw [List.length_take, flat_len encQ_len]; omega] at this

set_option maxRecDepth 100000 in
set_option maxHeartbeats 8000000 in
theorem mlay_any (w : World) (base p : Nat) (v : Value) (L : List (CKey × CMark)) (a : Int) (s c : ByteArray) (t b : Int) (h : MksAt base w p v L) (hbase : base ≤ w.heap.size) (hL : L.length ≤ 900) :
    Calls Tryd.prog 18 #[.pointer (some ⟨p, 0, none⟩), .agg #[.int .i64 a, .string s, .string c, .int .i64 t, .int .i64 b]] w fun e w' => e = .returned (.bool (laidC L ((a, s), (c, (t, b))))) ∧ LaidIn base w p v (layC L ((a, s), (c, (t, b)))) w' := by
  obtain ⟨ao, cap, rfl⟩ := rowIs h.row
  obtain ⟨S, hS⟩ : ∃ S, Aside (w.heap.size = S) := ⟨_, rfl⟩
  obtain ⟨U, hU⟩ : ∃ U, U = w.alloc (.cells #[.int .i64 a, .string s, .string c, .int .i64 t, .int .i64 b] 48) := ⟨_, rfl⟩
  have hb0 : Below w.heap.size w U := by rw [hU]; exact (Below.refl _ w).alloc (Nat.le_refl _) _
  have hsU : U.heap.size = w.heap.size + 1 := by rw [hU]; simp
  have hu : U.heap[w.heap.size]? = some (.cells #[.int .i64 a, .string s, .string c, .int .i64 t, .int .i64 b] 48 (0, 0)) := by rw [hU]; exact heap_alloc_new w _
  rw [hS.out] at hu hsU
  have HU : Aside (Below w.heap.size w U ∧ U.heap.size = S + 1 ∧ U.heap[S]? = some (.cells #[.int .i64 a, .string s, .string c, .int .i64 t, .int .i64 b] 48 (0, 0)) ∧ MksAt base U p (.slice ao L.length cap) L ∧ base ≤ S) := ⟨hb0, hsU, hu, h.later hb0, by have := hS.out; omega⟩
  clear hb0 hsU hu h hbase
  go_enter Tryd.func18, Tryd.ntmps18
  go_upto_region 1 with fail
  rw [← hU, hS.out]
  clear hU
  iterate 8 (first | go_values | go_skip | go_guarded | go_step | go_upon | go_back)
  go_cut [5] (fun s5 wx => ∃ k : Nat, s5 = .int .i64 (k : Int) ∧ k ≤ L.length ∧ Aside (k = spotC (a, s) L ∧ Below U.heap.size U wx))
  case first =>
    go_wp2
    go_loopg [5] L.length (fun kx s5 wr => ∃ (k : Nat), s5 = .int .i64 (k : Int) ∧ k ≤ L.length ∧ L.length - k ≤ kx ∧ Aside ((∀ (j : Nat) m, j < k → L[j]? = some m → KLt m.1 (a, s)) ∧ Below U.heap.size U wr))
    case atStart => exact ⟨0, rfl, Nat.zero_le _, Nat.le_refl _, fun j m hj => by omega, Below.refl _ _⟩
    case round =>
      obtain ⟨k, rfl, hkl, hkx, A⟩ := hrel
      obtain ⟨u, hu⟩ : ∃ u, u = wr := ⟨_, rfl⟩
      subst hu
      have hM := HU.out.2.2.2.1.later A.out.2
      have p0 := hM.c0
      have hbx : u.heap[S]? = some (.cells #[.int .i64 a, .string s, .string c, .int .i64 t, .int .i64 b] 48 (0, 0)) := (A.out.2.block S (by have := HU.out.2.1; omega)).trans HU.out.2.2.1
      have x0 : u.cell? ⟨S, 0, none⟩ = some (.int .i64 a) := by simp [World.cell?, hbx]
      have x1 : u.cell? ⟨S, 1, none⟩ = some (.string s) := by simp [World.cell?, hbx]
      by_cases hlt : k < L.length
      · have hltz : decide ((k : Int) < (L.length : Int)) = true := by simp; omega
        have hltn : decide (k < L.length) = true := decide_eq_true hlt
        have ek : ((k : Int)).toNat = k := by omega
        have pk : (0 : Int) ≤ (k : Int) := by omega
        have bk : (k : Int) < (L.length : Int) := by omega
        obtain ⟨⟨⟨a', s'⟩, ⟨c', ⟨t', b'⟩⟩⟩, hl⟩ : ∃ l, Aside (L[k]? = some l) := ⟨L[k], List.getElem?_eq_getElem hlt⟩
        obtain ⟨blk, off, rfl, f0, f1, f2, f3, f4⟩ := (rowIn encQ_len hM.row).mark hl.out
        clear hM hbx f2 f3 f4
        by_cases h1 : a' < a
        · have d1 : decide (a' < a) = true := decide_eq_true h1
          go_wp2_with fail
          go_quiet (fail)
          go_wp2
          go_roundg (L.length - (k + 1))
          case measure => omega
          case rel =>
            refine ⟨k + 1, by go_num, by omega, Nat.le_refl _, fun j m hj e => ?_, ⟨A.out.2.os, A.out.2.tape, A.out.2.output, A.out.2.size, A.out.2.block⟩⟩
            rcases Nat.lt_or_ge j k with q | q
            · exact A.out.1 j m q e
            · obtain rfl : j = k := by omega
              rw [hl.out] at e
              cases e
              exact .inl h1
        · have d1 : decide (a' < a) = false := decide_eq_false h1
          by_cases h2 : a' = a
          · have d2 : (a' == a) = true := by simp [h2]
            by_cases h3 : s'.data.toList < s.data.toList
            · have d3 : Op.bytesLess s'.toList s.toList = true := (less_bytes _ _).trans (decide_eq_true h3)
              have HK := Lib.hid (show KLt (a', s') (a, s) from .inr ⟨h2, h3⟩)
              clear h2 h3
              go_wp2_with fail
              go_quiet (fail)
              go_wp2
              go_roundg (L.length - (k + 1))
              case measure => omega
              case rel =>
                refine ⟨k + 1, by go_num, by omega, Nat.le_refl _, fun j m hj e => ?_, drewN_below A.out.2 _⟩
                rcases Nat.lt_or_ge j k with q | q
                · exact A.out.1 j m q e
                · obtain rfl : j = k := by omega
                  rw [hl.out] at e
                  cases e
                  exact HK.out
            · have d3 : Op.bytesLess s'.toList s.toList = false := (less_bytes _ _).trans (decide_eq_false h3)
              have HK := Lib.hid (show ¬ KLt (a', s') (a, s) from fun q => q.elim (fun q => h1 q) (fun q => h3 q.2))
              clear h2 h3
              go_wp2_with fail
              go_quiet (fail)
              go_wp2
              go_meet
              exact ⟨k, rfl, hkl, (spotC_is (a, s) L k hkl A.out.1 (fun m e => by rw [hl.out] at e; cases e; exact HK.out)).symm, drewN_below A.out.2 _⟩
          · have d2 : (a' == a) = false := by simp [h2]
            have HK := Lib.hid (show ¬ KLt (a', s') (a, s) from fun q => q.elim (fun q => h1 q) (fun q => h2 q.1))
            clear h2
            go_wp2_with fail
            go_quiet (fail)
            go_wp2
            go_meet
            exact ⟨k, rfl, hkl, (spotC_is (a, s) L k hkl A.out.1 (fun m e => by rw [hl.out] at e; cases e; exact HK.out)).symm, drewN_below A.out.2 _⟩
      · have hltz : decide ((k : Int) < (L.length : Int)) = false := by simp; omega
        have hltn : decide (k < L.length) = false := decide_eq_false hlt
        clear hM hbx
        go_wp2_with fail
        go_quiet (fail)
        go_wp2
        go_meet
        exact ⟨k, rfl, hkl, (spotC_is (a, s) L k hkl A.out.1 (fun m e => by rw [List.getElem?_eq_none (by omega)] at e; cases e)).symm, drewN_below A.out.2 _⟩
  case rest =>
    obtain ⟨k, rfl, hkl, A⟩ := hcut
    obtain ⟨u, hu⟩ : ∃ u, u = wc := ⟨_, rfl⟩
    subst hu
    have ek : ((k : Int)).toNat = k := by omega
    have pk : (0 : Int) ≤ (k : Int) := by omega
    go_upto_region 4 with fail
    go_cut [87] (fun s87 wx => ∃ z : Bool, s87 = .bool z ∧ Aside ((z = true ↔ ∃ o, L[k]? = some ((a, s), o)) ∧ Below U.heap.size U wx))
    case first =>
      have hM := HU.out.2.2.2.1.later A.out.2
      have p0 := hM.c0
      have hbx : u.heap[S]? = some (.cells #[.int .i64 a, .string s, .string c, .int .i64 t, .int .i64 b] 48 (0, 0)) := (A.out.2.block S (by have := HU.out.2.1; omega)).trans HU.out.2.2.1
      have x0 : u.cell? ⟨S, 0, none⟩ = some (.int .i64 a) := by simp [World.cell?, hbx]
      have x1 : u.cell? ⟨S, 1, none⟩ = some (.string s) := by simp [World.cell?, hbx]
      by_cases hlt : k < L.length
      · have hltz : decide ((k : Int) < (L.length : Int)) = true := by simp; omega
        have hltn : decide (k < L.length) = true := decide_eq_true hlt
        have bk : (k : Int) < (L.length : Int) := by omega
        obtain ⟨⟨⟨a', s'⟩, ⟨c', ⟨t', b'⟩⟩⟩, hl⟩ : ∃ l, Aside (L[k]? = some l) := ⟨L[k], List.getElem?_eq_getElem hlt⟩
        obtain ⟨blk, off, rfl, f0, f1, f2, f3, f4⟩ := (rowIn encQ_len hM.row).mark hl.out
        clear hM hbx f2 f3 f4
        by_cases h2 : a' = a
        · have d2 : (a' == a) = true := by simp [h2]
          by_cases h3 : s' = s
          · have d3 : (s'.toList == s.toList) = true := (beqBytes_eq _ _).trans (decide_eq_true h3)
            have HK := Lib.hid (show (a', s') = (a, s) from Prod.ext h2 h3)
            clear h2 h3
            go_quiet (fail)
            go_wp2
            go_meet
            exact ⟨true, rfl, ⟨fun _ => ⟨_, by rw [hl.out, HK.out]⟩, fun _ => rfl⟩, drewN_below A.out.2 _⟩
          · have d3 : (s'.toList == s.toList) = false := (beqBytes_eq _ _).trans (decide_eq_false h3)
            have HK := Lib.hid (show (a', s') ≠ (a, s) from fun e => h3 (Prod.mk.inj e).2)
            clear h2 h3
            go_quiet (fail)
            go_wp2
            go_meet
            exact ⟨false, rfl, ⟨fun e => (by cases e), fun ⟨o, e⟩ => by rw [hl.out] at e; exact absurd (Prod.mk.inj (Option.some.inj e)).1 HK.out⟩, drewN_below A.out.2 _⟩
        · have d2 : (a' == a) = false := by simp [h2]
          have HK := Lib.hid (show (a', s') ≠ (a, s) from fun e => h2 (Prod.mk.inj e).1)
          clear h2
          go_quiet (fail)
          go_wp2
          go_meet
          exact ⟨false, rfl, ⟨fun e => (by cases e), fun ⟨o, e⟩ => by rw [hl.out] at e; exact absurd (Prod.mk.inj (Option.some.inj e)).1 HK.out⟩, drewN_below A.out.2 _⟩
      · have hltz : decide ((k : Int) < (L.length : Int)) = false := by simp; omega
        have hltn : decide (k < L.length) = false := decide_eq_false hlt
        clear hM hbx
        go_quiet (fail)
        go_wp2
        go_meet
        exact ⟨false, rfl, ⟨fun e => (by cases e), fun ⟨o, e⟩ => by rw [List.getElem?_eq_none (by omega)] at e; cases e⟩, drewN_below A.out.2 _⟩
    case rest =>
      obtain ⟨z, rfl, Z⟩ := hcut
      obtain ⟨u2, hu2⟩ : ∃ u2, u2 = wc := ⟨_, rfl⟩
      subst hu2
      have hM := HU.out.2.2.2.1.later Z.out.2
      have hbx : u2.heap[S]? = some (.cells #[.int .i64 a, .string s, .string c, .int .i64 t, .int .i64 b] 48 (0, 0)) := (Z.out.2.block S (by have := HU.out.2.1; omega)).trans HU.out.2.2.1
      have hbw : Below w.heap.size w u2 := HU.out.1.trans (Z.out.2.mono HU.out.1.size)
      cases z with
      | true =>
        obtain ⟨⟨c', t', b'⟩, hl⟩ := Z.out.1.1 rfl
        have hlt : k < L.length := (List.getElem?_eq_some_iff.1 hl).1
        have bk : (k : Int) < (L.length : Int) := by omega
        obtain ⟨hlay, hlaid⟩ := layC_same (m := ((a, s), (c, (t, b)))) A.out.1 hl
        obtain ⟨g, rfl⟩ : ∃ g, ao = some ⟨g, 0, none⟩ := by
          rcases hM.row.2 with ⟨h1, h2⟩ | ⟨g, cap', cur, hv, _⟩
          · omega
          · cases hv; exact ⟨g, rfl⟩
        obtain ⟨blk, off, hao, f0, f1, f2, f3, f4⟩ := (rowIn encQ_len hM.row).mark hl
        obtain ⟨rfl, rfl⟩ : g = blk ∧ 0 = off := by simpa using hao
        rw [Nat.zero_add] at f0 f1 f2 f3 f4
        have HS5 : StampCells U p S g (k * 5) (.slice (some ⟨g, 0, none⟩) L.length cap) t' b' t b u2 := ⟨hM.c0, f3, f4, by simp [World.cell?, hbx], by simp [World.cell?, hbx], Z.out.2⟩
        have HM : Aside (layC L ((a, s), (c, (t, b))) = (if CLt (t', b') (t, b) then L.set k ((a, s), (c, (t, b))) else L) ∧ laidC L ((a, s), (c, (t, b))) = decide (CLt (t', b') (t, b)) ∧ L[k]? = some ((a, s), (c', (t', b')))) := ⟨hlay, hlaid, hl⟩
        clear hao f0 f1 f2 f3 f4 hlay hlaid hl hM hbx hbw
        go_wp2_with fail
        go_region_held3 (StampCells U p S g (k * 5) (.slice (some ⟨g, 0, none⟩) L.length cap) t' b' t b)
          (first
            | with_reducible assumption
            | with_reducible exact StampCells.drew (by assumption)
            | with_reducible exact StampCells.later (by assumption) (by assumption))
          (first | (go_at_call 36; refine (isLess_any _ _ _ _ _).mono ?_; rintro e wi ⟨rfl, hbi⟩))
        rename_i hHeld
        have hB3 : Below U.heap.size U wi := hHeld.2.2.2.2.2
        clear hHeld HS5 hbi
        cases hz : lessB t' b' t b with
        | false =>
          have HP : Aside (laidC L ((a, s), (c, (t, b))) = false ∧ LaidIn base w p (.slice (some ⟨g, 0, none⟩) L.length cap) (layC L ((a, s), (c, (t, b)))) wi) := by
            have hd : decide (CLt (t', b') (t, b)) = false := (lessB_C _ _ _ _).symm.trans hz
            have hbw : Below w.heap.size w wi := HU.out.1.trans (hB3.mono HU.out.1.size)
            refine ⟨HM.out.2.1.trans hd, _, ?_, (keeps_of_below hbw).mono (fun i hi e => by omega), fun g hg => .inl hg⟩
            rw [HM.out.1, if_neg (of_decide_eq_false hd)]
            exact HU.out.2.2.2.1.later hB3
          clear hB3
          go_wp2
          go_ret
          exact ⟨by rw [HP.out.1]; rfl, HP.out.2⟩
        | true =>
          have hM := HU.out.2.2.2.1.later hB3
          have hbx : wi.heap[S]? = some (.cells #[.int .i64 a, .string s, .string c, .int .i64 t, .int .i64 b] 48 (0, 0)) := (hB3.block S (by have := HU.out.2.1; omega)).trans HU.out.2.2.1
          have p0 := hM.c0
          have x0 : wi.cell? ⟨S, 0, none⟩ = some (.int .i64 a) := by simp [World.cell?, hbx]
          have x1 : wi.cell? ⟨S, 1, none⟩ = some (.string s) := by simp [World.cell?, hbx]
          have x2 : wi.cell? ⟨S, 2, none⟩ = some (.string c) := by simp [World.cell?, hbx]
          have x3 : wi.cell? ⟨S, 3, none⟩ = some (.int .i64 t) := by simp [World.cell?, hbx]
          have x4 : wi.cell? ⟨S, 4, none⟩ = some (.int .i64 b) := by simp [World.cell?, hbx]
          obtain ⟨blk, off, hao, f0, f1, f2, f3, f4⟩ := (rowIn encQ_len hM.row).mark HM.out.2.2
          obtain ⟨rfl, rfl⟩ : g = blk ∧ 0 = off := by simpa using hao
          rw [Nat.zero_add] at f0 f1 f2 f3 f4
          have hgl := hM.ne g rfl
          have z0 := hM.row.frozenAt (k * 5)
          have z1 := hM.row.frozenAt (k * 5 + 1)
          have z2 := hM.row.frozenAt (k * 5 + 2)
          have z3 := hM.row.frozenAt (k * 5 + 3)
          have z4 := hM.row.frozenAt (k * 5 + 4)
          have HP : Aside (laidC L ((a, s), (c, (t, b))) = true ∧ LaidIn base w p (.slice (some ⟨g, 0, none⟩) L.length cap) (layC L ((a, s), (c, (t, b)))) (wi.setCells g (k * 5) [.int .i64 a, .string s, .string c, .int .i64 t, .int .i64 b]).drew) := by
            have hd : decide (CLt (t', b') (t, b)) = true := (lessB_C _ _ _ _).symm.trans hz
            have hbw : Below w.heap.size w wi := HU.out.1.trans (hB3.mono HU.out.1.size)
            have hks := setCells_keeps g [.int .i64 a, .string s, .string c, .int .i64 t, .int .i64 b] (k * 5) wi
            have hrow := row_set hM.row hlt a s c t b
            refine ⟨HM.out.2.1.trans hd, .slice (some ⟨g, 0, none⟩) L.length cap, ?_, ((keeps_of_below hbw).mono (fun i hi e => by omega)).then hks.drew (fun i hi e => .inr (by rw [e]; rfl)), fun g hg => .inl hg⟩
            rw [HM.out.1, if_pos (of_decide_eq_true hd)]
            refine ⟨(hks.block p hM.lt (fun e => hgl.1 e.symm)).trans hM.cell, ?_, hM.low⟩
            rw [List.length_set]
            exact hrow
          clear hB3 hM hbx hao hgl
          go_wp2_with fail
          go_region
          all_goals
            go_wp2
            go_ret
            exact ⟨by rw [HP.out.1]; rfl, HP.out.2⟩
      | false =>
        have HN : Aside (layC L ((a, s), (c, (t, b))) = L.take k ++ ((a, s), (c, (t, b))) :: L.drop k ∧ laidC L ((a, s), (c, (t, b))) = true) := layC_new (m := ((a, s), (c, (t, b)))) A.out.1 (fun h => by have := Z.out.1.2 h; cases this)
        obtain ⟨v1, W1, v3, W3, ⟨a1, c1, rfl⟩, ⟨a3, c3, rfl⟩, r1, r3, hk1, p3, hI3, FIN⟩ := ins_runs u2 base p k ao cap L a s c t b hM (by have := HU.out.2.2.2.2; have := HU.out.2.1; have := Z.out.2.size; omega) hL hkl
        have p0 := hM.c0
        have hbx1 : W1.heap[S]? = some (.cells #[.int .i64 a, .string s, .string c, .int .i64 t, .int .i64 b] 48 (0, 0)) := (hk1.block S (Array.getElem?_eq_some_iff.1 hbx).1 (fun e => e)).trans hbx
        have x0 : W1.cell? ⟨S, 0, none⟩ = some (.int .i64 a) := by simp [World.cell?, hbx1]
        have x1 : W1.cell? ⟨S, 1, none⟩ = some (.string s) := by simp [World.cell?, hbx1]
        have x2 : W1.cell? ⟨S, 2, none⟩ = some (.string c) := by simp [World.cell?, hbx1]
        have x3 : W1.cell? ⟨S, 3, none⟩ = some (.int .i64 t) := by simp [World.cell?, hbx1]
        have x4 : W1.cell? ⟨S, 4, none⟩ = some (.int .i64 b) := by simp [World.cell?, hbx1]
        have HF := Lib.hid FIN
        have HI := Lib.hid hI3
        have HW : Aside (Below w.heap.size w u2) := hbw
        have hcase : (ao = none ∧ L.length = 0 ∧ cap = 0) ∨ ∃ g, ao = some ⟨g, 0, none⟩ ∧ L.length ≤ cap := by
          rcases hM.row.2 with ⟨h1, h2⟩ | ⟨g', cap', cur, hv, _, _, h3, _⟩
          · simp only [Value.slice.injEq] at h1
            exact .inl ⟨h1.1, h2, h1.2.2⟩
          · simp only [Value.slice.injEq] at hv
            exact .inr ⟨g', hv.1, by rw [hv.2.2]; exact h3⟩
        have fin : ∀ (v4 : Value) (W4 : World), (MksAt base (W4.setCell ⟨p, 0, none⟩ v4) p v4 (L.take k ++ ((a, s), (c, (t, b))) :: L.drop k) ∧ Keeps (fun b => b = p) u2 (W4.setCell ⟨p, 0, none⟩ v4) ∧ (∀ g, v4.ownBlock = some g → u2.heap.size ≤ g)) → LaidIn base w p (.slice ao L.length cap) (layC L ((a, s), (c, (t, b)))) (W4.setCell ⟨p, 0, none⟩ v4) := fun v4 W4 h4 => by
          rw [HN.out.1]
          exact ⟨v4, h4.1, ((keeps_of_below HW.out).mono (fun i hi e => by omega)).then h4.2.1 (fun i hi e => .inl e), fun g hg => .inr (Nat.le_trans HW.out.size (h4.2.2 g hg))⟩
        have FF := Lib.hid fin
        clear FIN hI3 hbw hM hbx hbx1 hk1 fin
        rcases hcase with ⟨rfl, hL0, rfl⟩ | ⟨g, rfl, hcap⟩
        · obtain rfl : k = 0 := by omega
          obtain ⟨v4, W4, ⟨a4, n4, c4, rfl⟩, r4, p4, z4, H4⟩ := HF.out none 0 (.inl (List.drop_eq_nil_of_le (by omega))) (fun _ => rfl)
          rw [hL0] at p0 p3 r4 p4
          have HQ := Lib.hid (FF.out _ _ H4)
          clear HF HI FF H4
          go_upto_region 11 with (at_builtin; refine Lib.wpList_append_run _ rfl _ _ _ _ rfl _ _ rfl rfl _ _ r1 ?_)
          go_upto_region 12 with (at_builtin; refine Lib.wpList_append_run _ rfl _ _ _ _ rfl _ _ rfl rfl _ _ r3 ?_)
          go_wp2_with (at_builtin; refine Lib.wpList_append_run _ rfl _ _ _ _ rfl _ _ rfl rfl _ _ r4 ?_)
          go_ret
          exact ⟨by rw [HN.out.2]; rfl, HQ.out⟩
        · by_cases hck : cap = k
          · subst hck
            have hd0 : L.drop cap = [] := List.drop_of_length_le (by omega)
            obtain ⟨v4, W4, ⟨a4, n4, c4, rfl⟩, r4, p4, z4, H4⟩ := HF.out (some ⟨g, 0, none⟩) 0 (.inl hd0) (fun e => by simp at e)
            have HQ := Lib.hid (FF.out _ _ H4)
            have hz : L.length - cap = 0 := by omega
            rw [hz] at r4
            clear HF HI FF H4 hd0 hz
            go_upto_region 11 with (at_builtin; refine Lib.wpList_append_run _ rfl _ _ _ _ rfl _ _ rfl rfl _ _ r1 ?_)
            go_upto_region 12 with (at_builtin; refine Lib.wpList_append_run _ rfl _ _ _ _ rfl _ _ rfl rfl _ _ r3 ?_)
            go_wp2_with (at_builtin; refine Lib.wpList_append_run _ rfl _ _ _ _ rfl _ _ rfl rfl _ _ r4 ?_)
            go_ret
            exact ⟨by rw [HN.out.2]; rfl, HQ.out⟩
          · obtain ⟨v4, W4, ⟨a4, n4, c4, rfl⟩, r4, p4, z4, H4⟩ := HF.out _ (cap - k) HI.out (fun e => by simp at e)
            have HQ := Lib.hid (FF.out _ _ H4)
            simp only [Option.map_some, Addr.add_lit, Nat.zero_add] at r4
            clear HF HI FF H4
            go_upto_region 11 with (at_builtin; refine Lib.wpList_append_run _ rfl _ _ _ _ rfl _ _ rfl rfl _ _ r1 ?_)
            go_upto_region 12 with (at_builtin; refine Lib.wpList_append_run _ rfl _ _ _ _ rfl _ _ rfl rfl _ _ r3 ?_)
            go_wp2_with (at_builtin; refine Lib.wpList_append_run _ rfl _ _ _ _ rfl _ _ rfl rfl _ _ r4 ?_)
            go_ret
            exact ⟨by rw [HN.out.2]; rfl, HQ.out⟩
end Go.Proofs.YtfpmmgboodcfiaaDoor
