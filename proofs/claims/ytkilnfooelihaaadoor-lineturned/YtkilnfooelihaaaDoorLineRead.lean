/- Contracts of a line's Text and IDs. -/
import Derived.Test.YtkilnfooelihaaaDoorLinePut2
import Derived.OwnWalk
import Derived.Laws.IdiomStrings
import Derived.Laws.AppendOwn
import Derived.Lib.AppendIntMem
import Derived.Deep.LoopGhost
import Derived.Deep.AppendLies
set_option linter.unusedVariables false
namespace Go.Proofs.YtkilnfooelihaaaDoor
open Go.RowKit Go.Lib Go.Sort

theorem infoU8 : (Tryd.prog.info? 5).map (fun i => (i.zero, i.size, i.bytes)) = some (some (.int .u8 0), 1, 1) := by kernel_rfl
theorem infoI64 : (Tryd.prog.info? 3).map (fun i => (i.zero, i.size, i.bytes)) = some (some (.int .i64 0), 1, 8) := by kernel_rfl

def bytesW (l : List UInt8) : List Value := l.map fun c => .int .u8 (c.toNat : Int)
theorem bytesW_append (a b : List UInt8) : bytesW (a ++ b) = bytesW a ++ bytesW b := by simp [bytesW]
/-- Bytes of the call's own, made into a string. -/
theorem conv_row {w : World} {base : Nat} {v : Value} {n : Nat} {l : List UInt8} (h : w.ownsRow base 5 1 v n (bytesW l)) (hl : l.length = n) :
    Sem.run Tryd.prog (convert 156 9 v) w = .ok (.string ⟨l.toArray⟩) w := by
  rcases Nat.eq_zero_or_pos n with h0 | h0
  · have hl0 : l = [] := List.length_eq_zero_iff.1 (by omega)
    subst hl0
    rcases h.2 with ⟨hv, _⟩ | ⟨g, cap, cur, hv, _⟩
    · subst hv
      exact run_convert_bytes_nil w _ _ Tryd.underlying156 Tryd.underlying5 0 0 _ Tryd.underlying9
    · subst hv
      subst h0
      exact run_convert_bytes_back w _ _ _ _ _ [] Tryd.underlying156 Tryd.underlying5 Tryd.underlying9 (fun j hj => by simp at hj)
  · obtain ⟨g, cap, rfl⟩ : ∃ g cap, v = .slice (some ⟨g, 0, none⟩) n cap := by
      rcases h.2 with ⟨_, h2⟩ | ⟨g, cap, cur, hv, _⟩
      · omega
      · exact ⟨g, cap, hv⟩
    have hc := h.cells (g := g) rfl
    subst hl
    refine run_convert_bytes_back w _ _ _ _ _ l Tryd.underlying156 Tryd.underlying5 Tryd.underlying9 (fun j hj => ?_)
    refine hc j _ ?_
    simp [bytesW, List.getElem?_eq_getElem hj]

theorem beqBytes (X : ByteArray) : (X == X) = true := by
  show (X.data == X.data) = true
  simp
theorem bneBytes (X : ByteArray) : (X != X) = false := by
  rw [bne, beqBytes]; rfl
/-- The text of letters that are seen. -/
def textL (L : List Ltr) : List UInt8 := (seenOf L).map fun l => UInt8.ofNat l.2.1
theorem textL_nil : textL [] = [] := rfl
theorem seen_next {L : List Ltr} {k : Nat} {l : Ltr} (h : L[k]? = some l) : seenOf (L.take (k + 1)) = seenOf (L.take k) ++ (if l.2.2 then [] else [l]) := by
  unfold seenOf
  rw [List.take_add_one, h, List.filter_append]
  congr 1
  by_cases hg : l.2.2 = true
  · rw [if_pos hg]; simp [hg]
  · rw [if_neg hg]; simp [hg]
theorem textL_next {L : List Ltr} {k : Nat} {a : Int} {c : Nat} {g : Bool} (h : L[k]? = some (a, c, g)) : textL (L.take (k + 1)) = textL (L.take k) ++ (if g then [] else [UInt8.ofNat c]) := by
  unfold textL
  rw [seen_next h, List.map_append]
  cases g <;> rfl
theorem textL_len (L : List Ltr) : (textL L).length ≤ L.length := by
  unfold textL seenOf
  rw [List.length_map]
  exact List.length_filter_le _ _

set_option maxRecDepth 100000 in
set_option maxHeartbeats 2000000 in
theorem text_any (w : World) (base p : Nat) (v : Value) (L : List Ltr) (h : LineAt base w p v L) (hL : L.length ≤ 1000) :
    Calls Tryd.prog 65 #[.pointer (some ⟨p, 0, none⟩)] w fun e w' => e = .returned (.string ⟨(textL L).toArray⟩) ∧ Below w.heap.size w w' := by
  obtain ⟨i0, hi, hz0, hz1, hz2⟩ := info_parts infoU8
  obtain ⟨ao, cap, rfl⟩ := rowShape h.row
  have c0 := h.c0
  have HI : Aside (LtrsIn w ao L ∧ ∀ l ∈ L, l.2.1 < 256) := ⟨rowIn h.row, h.small⟩
  clear h
  go_enter Tryd.func65, Tryd.ntmps65
  go_wp2
  clear c0
  go_loopg [3, 11] L.length (fun kx s3 s11 wr => ∃ (k : Nat) (ov : Value), ov = s3 ∧ s11 = .int .i64 (k : Int) ∧ k ≤ L.length ∧ L.length - k ≤ kx ∧ Aside (wr.ownsRow w.heap.size 5 1 ov (textL (L.take k)).length (bytesW (textL (L.take k))) ∧ Below w.heap.size w wr))
  case atStart => exact ⟨0, _, rfl, rfl, Nat.zero_le _, Nat.le_refl _, ⟨World.ownsRow_nil _ _ _ _, Below.refl _ w⟩⟩
  case round =>
    obtain ⟨k, ov, rfl, rfl, hk, hkx, A⟩ := hrel
    by_cases hlt : k < L.length
    · have hltz : decide ((k : Int) < (L.length : Int)) = true := by simp; omega
      have ek : ((k : Int)).toNat = k := by omega
      have pk : (0 : Int) ≤ (k : Int) := by omega
      have bk : (k : Int) < (L.length : Int) := by omega
      obtain ⟨⟨a, c, gn⟩, hl⟩ : ∃ l, Aside (L[k]? = some l) := ⟨L[k], List.getElem?_eq_getElem hlt⟩
      obtain ⟨blk, off, rfl, f0, f1, f2⟩ := (HI.out.1.later A.out.2).at hl.out
      have HN := Lib.hid (textL_next hl.out)
      have hc256 : c < 256 := HI.out.2 _ (List.mem_of_getElem? hl.out)
      obtain ⟨T, hT⟩ : ∃ T, Aside (textL (L.take k) = T) := ⟨_, rfl⟩
      have A' : Aside (wr.ownsRow w.heap.size 5 1 ov T.length (bytesW T) ∧ Below w.heap.size w wr) := by have := A.out; rw [hT.out] at this; exact this
      have hTl : T.length ≤ 1000 := by have := textL_len (L.take k); rw [hT.out, List.length_take] at this; omega
      obtain ⟨u, hu⟩ : ∃ u, u = wr := ⟨_, rfl⟩
      subst hu
      cases gn with
      | true =>
        have f2' : u.cell? ⟨blk, off + k * 3 + 2, none⟩ = some (.bool false) := f2
        clear f2 A
        go_wp2
        go_roundg (L.length - (k + 1))
        case measure => omega
        case rel =>
          refine ⟨k + 1, _, rfl, by go_num, by omega, Nat.le_refl _, ?_⟩
          have e : textL (L.take (k + 1)) = T := by rw [HN.out, hT.out]; simp
          rw [e]
          exact ⟨A'.out.1.alloc _, A'.out.2.alloc A'.out.2.size _⟩
      | false =>
        have f2' : u.cell? ⟨blk, off + k * 3 + 2, none⟩ = some (.bool true) := f2
        clear f2 A
        obtain ⟨cb, hcb⟩ : ∃ cb : UInt8, Aside (UInt8.ofNat c = cb) := ⟨_, rfl⟩
        have hcn : (c : Int) = (cb.toNat : Int) := by rw [← hcb.out]; simp; omega
        rw [hcn] at f1
        clear hcn
        go_wp2_with (at_builtin; refine wpList_append_own _ rfl _ _ 156 rfl w.heap.size 5 i0 _ 1 1 Tryd.underlying156 hi hz0 hz1 hz2 rfl (by omega) _ _ _ rfl ((A'.out.1.alloc _).alloc _) ⟨u.heap.size + 1, 0, none⟩ 1 1 [.int .u8 (cb.toNat : Int)] rfl ?qb1 ?qb2 ?qb3 ?qb4 ?qb5 ?qb6 ?_)
        case qb1 => rfl
        case qb2 => exact World.news_of_block (cs := #[.int .u8 (cb.toNat : Int)]) (t := 5) (fr := (0, 0)) (by
          have := heap_alloc_new (u.alloc (.cells #[.int .i64 a, .int .u8 (cb.toNat : Int), .bool true] 155)) (.cells #[.int .u8 (cb.toNat : Int)] 5)
          rwa [World.size_alloc] at this)
        case qb3 => simp [Value.oneCell']
        case qb4 => simp only [maxLen]; omega
        case qb5 => omega
        case qb6 => have := A'.out.2.size; simp; omega
        intro v2 u2 hown hgrow hnil
        clear hnil
        have W1 := (A'.out.2.alloc A'.out.2.size (.cells #[.int .i64 a, .int .u8 (cb.toNat : Int), .bool true] 155))
        have W2 : Below w.heap.size w u2 := (W1.alloc W1.size _).grown hgrow (by have := A'.out.2.size; simp; omega) (fun k hk => (A'.out.1.lt k hk).1)
        have R2 : Aside (u2.ownsRow w.heap.size 5 1 v2 (textL (L.take (k + 1))).length (bytesW (textL (L.take (k + 1)))) ∧ Below w.heap.size w u2) := by
          have e : textL (L.take (k + 1)) = T ++ [cb] := by rw [HN.out, hT.out, ← hcb.out]; rfl
          rw [e, bytesW_append, List.length_append]
          exact ⟨hown, W2⟩
        clear hown hgrow W1 W2
        go_wp2
        go_roundg (L.length - (k + 1))
        case measure => omega
        case rel => exact ⟨k + 1, _, rfl, by go_num, by omega, Nat.le_refl _, R2⟩
    · have hltz : decide ((k : Int) < (L.length : Int)) = false := by simp; omega
      have ek : L.take k = L := List.take_of_length_le (by omega)
      rw [ek] at A
      have hcv := conv_row A.out.1 rfl
      clear ek
      go_wp2
      go_ret
      exact ⟨rfl, A.out.2⟩

def idsV (L : List Ltr) : List Value := L.map fun l => .int .i64 l.1
/-- A row of numbers of which the first are written. -/
def idsTo (L : List Ltr) (k : Nat) : List Value := idsV (L.take k) ++ List.replicate (L.length - k) (.int .i64 0)

set_option maxRecDepth 100000 in
set_option maxHeartbeats 2000000 in
theorem ids_any (w : World) (base p : Nat) (v : Value) (L : List Ltr) (h : LineAt base w p v L) (hL : L.length ≤ 1000) :
    Calls Tryd.prog 66 #[.pointer (some ⟨p, 0, none⟩)] w fun e w' => ∃ g, e = .returned (.slice (some ⟨g, 0, none⟩) L.length L.length) ∧ w'.ownsRow w.heap.size 3 1 (.slice (some ⟨g, 0, none⟩) L.length L.length) L.length (idsV L) ∧ Below w.heap.size w w' := by
  obtain ⟨i0, hi, hz0, hz1, hz2⟩ := info_parts infoI64
  obtain ⟨ao, cap, rfl⟩ := rowShape h.row
  have c0 := h.c0
  have HI : Aside (LtrsIn w ao L) := rowIn h.row
  obtain ⟨wm, hrun, hwm, hgm⟩ := run_makeSlice_full (P := Tryd.prog) w w.heap.size 22 3 i0 (.int .i64 0) 1 Tryd.underlying22 hi hz0 hz1 .i64 .i64 L.length (by omega) (by rw [hz2]; omega) (by simp only [maxLen]; omega) (Nat.le_refl _)
  have B0 : Below w.heap.size w wm := (Below.refl _ w).grown hgm (Nat.le_refl _) (fun k hk => by cases hk)
  have c1 := cellStays B0 c0
  have H0 : Aside (wm.ownsRow w.heap.size 3 1 (.slice (some ⟨w.heap.size, 0, none⟩) L.length L.length) L.length (idsTo L 0) ∧ Below w.heap.size w wm) := by
    refine ⟨?_, B0⟩
    rw [Nat.mul_one, show (Value.int .i64 0).cells = #[.int .i64 0] from rfl, toList_madeCells_one] at hwm
    unfold idsTo idsV
    simpa using hwm
  clear h hwm hgm B0
  obtain ⟨B, hB⟩ : ∃ B, Aside (w.heap.size = B) := ⟨_, rfl⟩
  rw [hB.out] at H0 hrun ⊢
  go_enter Tryd.func66, Tryd.ntmps66
  go_wp2
  clear c0 c1 hrun
  go_loopg [17] L.length (fun kx s17 wr => ∃ (k : Nat), s17 = .int .i64 (k : Int) ∧ k ≤ L.length ∧ L.length - k ≤ kx ∧ Aside (wr.ownsRow B 3 1 (.slice (some ⟨B, 0, none⟩) L.length L.length) L.length (idsTo L k) ∧ Below B w wr))
  case atStart => exact ⟨0, rfl, Nat.zero_le _, Nat.le_refl _, H0⟩
  case round =>
    obtain ⟨k, rfl, hk, hkx, A⟩ := hrel
    clear H0
    by_cases hlt : k < L.length
    · have hltz : decide ((k : Int) < (L.length : Int)) = true := by simp; omega
      have ek : ((k : Int)).toNat = k := by omega
      have pk : (0 : Int) ≤ (k : Int) := by omega
      have bk : (k : Int) < (L.length : Int) := by omega
      obtain ⟨⟨a, c, gn⟩, hl⟩ : ∃ l, Aside (L[k]? = some l) := ⟨L[k], List.getElem?_eq_getElem hlt⟩
      obtain ⟨blk, off, rfl, f0, f1, f2⟩ := (HI.out.later (by rw [hB.out]; exact A.out.2)).at hl.out
      have hBw : B < wr.heap.size := (A.out.1.lt B rfl).2
      have ho := fun o => A.out.1.alloc o
      have cB : ∀ o, (wr.alloc o).cell? ⟨B, k, none⟩ = some (.int .i64 0) := fun o => by
        rw [(ho o).cellAt k (by omega)]
        unfold idsTo idsV
        rw [List.getElem?_append_right (by simp; omega), List.getElem?_replicate]
        simp; omega
      have fB : ∀ o, (wr.alloc o).frozen? ⟨B, k, none⟩ = false := fun o => (ho o).frozenAt k
      have HO : Aside (∀ o, (((wr.setCell ⟨B, k, none⟩ (.int .i64 a)).alloc o).ownsRow B 3 1 (.slice (some ⟨B, 0, none⟩) L.length L.length) L.length (idsTo L (k + 1)) ∧ Below B w ((wr.setCell ⟨B, k, none⟩ (.int .i64 a)).alloc o))) := fun o => by
        have e1 : idsTo L k = idsV (L.take k) ++ [.int .i64 0] ++ List.replicate (L.length - (k + 1)) (.int .i64 0) := by
          unfold idsTo
          rw [show L.length - k = (L.length - (k + 1)) + 1 by omega, List.replicate_succ, List.append_assoc]
          rfl
        have e2 : idsTo L (k + 1) = idsV (L.take k) ++ [.int .i64 a] ++ List.replicate (L.length - (k + 1)) (.int .i64 0) := by
          unfold idsTo idsV
          rw [List.take_add_one, hl.out, List.map_append]
          rfl
        have el : (idsV (L.take k)).length = k := by unfold idsV; rw [List.length_map, List.length_take]; omega
        have h1 := A.out.1
        rw [e1] at h1
        have h2 := owns_over (vs := [.int .i64 a]) h1 rfl
        rw [el, ← e2] at h2
        exact ⟨World.ownsRow.alloc h2 o, (A.out.2.setCell (Nat.le_refl _) _).alloc (by simp [World.setCell]; omega) o⟩
      clear ho
      go_wp2
      go_roundg (L.length - (k + 1))
      case measure => omega
      case rel => exact ⟨k + 1, by go_num, by omega, Nat.le_refl _, HO.out _⟩
    · have hltz : decide ((k : Int) < (L.length : Int)) = false := by simp; omega
      have ek : idsTo L k = idsV L := by
        have e : k = L.length := by omega
        unfold idsTo
        rw [e]
        simp
      rw [ek] at A
      clear ek
      go_wp2
      go_ret
      exact ⟨B, rfl, A.out⟩
end Go.Proofs.YtkilnfooelihaaaDoor
