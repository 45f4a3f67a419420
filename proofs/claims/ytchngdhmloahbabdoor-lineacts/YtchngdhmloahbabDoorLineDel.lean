/- Contracts of a line's Delete and At. -/
import Derived.Test.YtchngdhmloahbabDoorLineRead
set_option linter.unusedVariables false
namespace Go.Proofs.YtchngdhmloahbabDoor
open Go.RowKit Go.Lib Go.Sort

set_option maxHeartbeats 1000000 in
theorem delete_none {ad : Nat → Addr} (w : World) (base p : Nat) (v : Value) (L : List Ltr) (id : Int) (hE : Ln4 ad w) (hT : LineAt base w p v L) (hL : L.length ≤ 1000) (hx : id ∉ L.map (·.1)) :
    Calls Tryd.prog 10 #[.pointer (some ⟨p, 0, none⟩), .int .i64 id] w fun e w' => e = .returned (.iface 109 (.pointer (some (ad 5)))) ∧ Below w.heap.size w w' := by
  have HE : Aside (Ln4 ad w) := hE
  have hf := find_any w base p v L id hT hL
  rw [findI_neg hx] at hf
  clear hE hT hx
  go_enter Tryd.func10, Tryd.ntmps10
  go_wp2_with fail
  refine hf.mono ?_
  rintro e w1 ⟨rfl, hb1⟩
  have B1 : Aside (Below w.heap.size w w1) := hb1
  have c5 := (HE.out.later hb1).c5
  clear hb1 hf
  go_wp2
  go_ret
  exact ⟨rfl, B1.out⟩

set_option maxRecDepth 100000 in
set_option maxHeartbeats 2000000 in
theorem delete_ok (w : World) (base p i : Nat) (v : Value) (L : List Ltr) (id : Int) (hT : LineAt base w p v L) (hL : L.length ≤ 1000) (hf : findL id L = some i) :
    Calls Tryd.prog 10 #[.pointer (some ⟨p, 0, none⟩), .int .i64 id] w fun e w' => e = .returned .nilIface ∧ LineAt base w' p v (L.set i (id, 0, true)) ∧ Keeps (fun k => some k = v.ownBlock) w w' := by
  obtain ⟨⟨a, c, gn⟩, hl, rfl⟩ := findL_some hf
  have hil := (List.getElem?_eq_some_iff.1 hl).1
  have hfa := find_any w base p v L a hT hL
  rw [show findI a L = (i : Int) by unfold findI; rw [hf]] at hfa
  obtain ⟨ao, cap, rfl⟩ := rowShape hT.row
  obtain ⟨g, rfl⟩ : ∃ g, ao = some ⟨g, 0, none⟩ := by
    rcases hT.row.2 with ⟨_, h2⟩ | ⟨g, cap', cur, hv, _⟩
    · omega
    · cases hv; exact ⟨g, rfl⟩
  have HT : Aside (LineAt base w p (.slice (some ⟨g, 0, none⟩) L.length cap) L) := hT
  have HL : Aside (L[i]? = some (a, c, gn)) := hl
  have d0 : decide ((i : Int) < 0) = false := by simp
  have ei : ((i : Int)).toNat = i := by omega
  have bi : (i : Int) < (L.length : Int) := by omega
  have pi : (0 : Int) ≤ (i : Int) := by omega
  clear hT hl hf
  go_enter Tryd.func10, Tryd.ntmps10
  go_wp2_with fail
  refine hfa.mono ?_
  rintro e w1 ⟨rfl, hb1⟩
  have H1 : Aside (LineAt base w1 p (.slice (some ⟨g, 0, none⟩) L.length cap) L ∧ Below w.heap.size w w1) := ⟨HT.out.later hb1, hb1⟩
  clear hb1 hfa
  have c0 := H1.out.1.c0
  obtain ⟨blk, off, hbo, f0, f1, f2⟩ := (rowIn H1.out.1.row).at HL.out
  have hoff : blk = g ∧ off = 0 := by
    rcases rowIn H1.out.1.row with h | ⟨b', o', h1, _⟩
    · rw [h] at hil; simp at hil
    · simp only [Option.some.injEq, Addr.mk.injEq, and_true] at hbo
      exact ⟨hbo.1.symm, hbo.2.symm⟩
  obtain ⟨rfl, rfl⟩ := hoff
  rw [Nat.zero_add] at f0 f1 f2
  have z0 : ∀ j, w1.frozen? ⟨blk, j, none⟩ = false := fun j => H1.out.1.row.frozenAt j
  have z1 := z0 (i * 3)
  have z2 := z0 (i * 3 + 1)
  have z3 := z0 (i * 3 + 2)
  have hne : blk ≠ p := (H1.out.1.ne blk rfl).1
  have FIN : Aside (LineAt base (w1.setCells blk (i * 3) [.int .i64 a, .int .u8 0, .bool false]) p (.slice (some ⟨blk, 0, none⟩) L.length cap) (L.set i (a, 0, true)) ∧ Keeps (fun k => some k = some blk) w (w1.setCells blk (i * 3) [.int .i64 a, .int .u8 0, .bool false])) := by
    have hkp := setCells_keeps blk [.int .i64 a, .int .u8 0, .bool false] (i * 3) w1
    have hro := H1.out.1.row
    have hself : L.set i (a, c, gn) = L := by
      have h := List.set_getElem_self hil
      rw [(List.getElem?_eq_some_iff.1 HL.out).2] at h
      exact h
    have e1 : flat encL L = (flat encL L).take (i * 3) ++ encL (a, c, gn) ++ (flat encL L).drop ((i + 1) * 3) := by
      rw [← flat_set encL_len L i hil (a, c, gn), hself]
    have e2 := flat_set encL_len L i hil (a, 0, true)
    have el : ((flat encL L).take (i * 3)).length = i * 3 := by rw [List.length_take, flat_len encL_len]; omega
    rw [e1] at hro
    have ho := owns_over (vs := [.int .i64 a, .int .u8 0, .bool false]) hro rfl
    rw [el] at ho
    have hm : ∀ l ∈ L.set i (a, 0, true), l ∈ L ∨ l = (a, 0, true) := fun l hl => List.mem_or_eq_of_mem_set hl
    refine ⟨⟨(hkp.block p H1.out.1.lt (fun e => hne e.symm)).trans H1.out.1.cell, ?_, H1.out.1.low, ?_, fun l hl => ?_, fun l hl => ?_⟩, ?_⟩
    · rw [List.length_set, e2]
      exact ho
    · rw [set_ids HL.out]
      exact H1.out.1.nodup
    · rcases hm l hl with h | rfl
      · exact H1.out.1.pos l h
      · exact H1.out.1.pos (a, c, gn) (List.mem_of_getElem? HL.out)
    · rcases hm l hl with h | rfl
      · exact H1.out.1.small l h
      · show 0 < 256
        omega
    · exact ((keeps_of_below H1.out.2).mono (fun k hk e => by omega)).then hkp (fun k _ e => by rw [e])
  clear z0
  go_wp2
  go_ret
  exact ⟨rfl, FIN.out⟩

/-- The letter number n that is seen. -/
def atL (n : Int) (L : List Ltr) : Int × Bool := if 0 ≤ n then (match (seenOf L)[n.toNat]? with
  | some l => (l.1, true)
  | none => (0, false)) else (0, false)
theorem atL_hit {n : Int} {L : List Ltr} {k : Nat} {l : Ltr} (h : L[k]? = some l) (hg : l.2.2 = false) (hn : n = ((seenOf (L.take k)).length : Int)) : atL n L = (l.1, true) := by
  have hk := (List.getElem?_eq_some_iff.1 h).1
  have e : seenOf L = seenOf (L.take (k + 1)) ++ seenOf (L.drop (k + 1)) := by
    unfold seenOf
    rw [← List.filter_append, List.take_append_drop]
  unfold atL
  rw [if_pos (by omega), hn, Int.toNat_natCast, e, seen_next h, hg]
  simp
theorem atL_miss {n : Int} {L : List Ltr} (h : ∀ j : Nat, j < (seenOf L).length → n ≠ (j : Int)) : atL n L = (0, false) := by
  unfold atL
  split
  · rw [List.getElem?_eq_none]
    have := h n.toNat
    omega
  · rfl

set_option maxRecDepth 100000 in
set_option maxHeartbeats 2000000 in
theorem at_any (w : World) (base p : Nat) (v : Value) (L : List Ltr) (n : Int) (h : LineAt base w p v L) (hL : L.length ≤ 1000) (hn : -9223372036854775808 ≤ n ∧ n ≤ 9223372036854775807) :
    Calls Tryd.prog 17 #[.pointer (some ⟨p, 0, none⟩), .int .i64 n] w fun e w' => e = .returned (.tuple #[.int .i64 (atL n L).1, .bool (atL n L).2]) ∧ Below w.heap.size w w' := by
  obtain ⟨ao, cap, rfl⟩ := rowShape h.row
  have c0 := h.c0
  have HI : Aside (LtrsIn w ao L) := rowIn h.row
  clear h
  obtain ⟨r1, r2, hr⟩ : ∃ r1 r2, Aside (atL n L = (r1, r2)) := ⟨_, _, rfl⟩
  rw [hr.out]
  show Calls _ _ _ _ fun e w' => e = .returned (.tuple #[.int .i64 r1, .bool r2]) ∧ Below w.heap.size w w'
  go_enter Tryd.func17, Tryd.ntmps17
  go_wp2
  clear c0
  go_loopg [1, 13] L.length (fun kx s1 s13 wr => ∃ (k : Nat) (m : Int), s1 = .int .i64 m ∧ s13 = .int .i64 (k : Int) ∧ k ≤ L.length ∧ L.length - k ≤ kx ∧ Aside (m = IntKind.i64.wrap (n - ((seenOf (L.take k)).length : Int)) ∧ (∀ j : Nat, j < (seenOf (L.take k)).length → n ≠ (j : Int)) ∧ Below w.heap.size w wr))
  case atStart => exact ⟨0, _, rfl, rfl, Nat.zero_le _, Nat.le_refl _, ⟨by rw [IntKind.wrap_i64]; simp [seenOf]; omega, fun j hj => by simp [seenOf] at hj, Below.refl _ w⟩⟩
  case round =>
    obtain ⟨k, m, rfl, rfl, hk, hkx, A⟩ := hrel
    by_cases hlt : k < L.length
    · have hltz : decide ((k : Int) < (L.length : Int)) = true := by simp; omega
      have ek : ((k : Int)).toNat = k := by omega
      have pk : (0 : Int) ≤ (k : Int) := by omega
      have bk : (k : Int) < (L.length : Int) := by omega
      obtain ⟨⟨a, c, gn⟩, hl⟩ : ∃ l, Aside (L[k]? = some l) := ⟨L[k], List.getElem?_eq_getElem hlt⟩
      obtain ⟨blk, off, rfl, f0, f1, f2⟩ := (HI.out.later A.out.2.2).at hl.out
      have HN := Lib.hid (seen_next hl.out)
      have HS := Lib.hid (show (seenOf (L.take k)).length ≤ 1000 by
        have : (seenOf (L.take k)).length ≤ (L.take k).length := List.length_filter_le _ _
        rw [List.length_take] at this; omega)
      obtain ⟨u, hu⟩ : ∃ u, u = wr := ⟨_, rfl⟩
      subst hu
      have HB : Aside (∀ o, Below w.heap.size w (u.alloc o)) := fun o => A.out.2.2.alloc A.out.2.2.size o
      cases gn with
      | true =>
        have f2' : u.cell? ⟨blk, off + k * 3 + 2, none⟩ = some (.bool false) := f2
        clear f2
        go_wp2
        go_roundg (L.length - (k + 1))
        case measure => omega
        case rel =>
          have e : seenOf (L.take (k + 1)) = seenOf (L.take k) := by rw [HN.out]; simp
          exact ⟨k + 1, m, rfl, by go_num, by omega, Nat.le_refl _, ⟨by rw [e]; exact A.out.1, by rw [e]; exact A.out.2.1, HB.out _⟩⟩
      | false =>
        have f2' : u.cell? ⟨blk, off + k * 3 + 2, none⟩ = some (.bool true) := f2
        clear f2
        by_cases hm : m = 0
        · have dm : (m == 0) = true := by simp [hm]
          have hnk : n = ((seenOf (L.take k)).length : Int) := by
            have h1 := A.out.1
            have h2 := HS.out
            rw [hm, IntKind.wrap_i64] at h1
            omega
          have hat := atL_hit hl.out rfl hnk
          rw [hr.out] at hat
          have HR := Lib.hid hat
          clear hm hnk hat
          go_wp2
          go_ret2
          exact ⟨by cases HR.out; rfl, HB.out _⟩
        · have dm : (m == 0) = false := by simp [hm]
          have hne : n ≠ ((seenOf (L.take k)).length : Int) := by
            intro e
            have h1 := A.out.1
            rw [e, IntKind.wrap_i64] at h1
            omega
          have HNE := Lib.hid hne
          clear hm hne
          go_wp2
          go_roundg (L.length - (k + 1))
          case measure => omega
          case rel =>
            have e : (seenOf (L.take (k + 1))).length = (seenOf (L.take k)).length + 1 := by rw [HN.out]; simp
            refine ⟨k + 1, _, rfl, by go_num, by omega, Nat.le_refl _, ⟨?_, fun j hj => ?_, HB.out _⟩⟩
            · have h1 := A.out.1
              have h2 := HS.out
              rw [e, h1, IntKind.wrap_i64, IntKind.wrap_i64]
              unfold wrap64
              omega
            · rw [e] at hj
              rcases Nat.lt_or_ge j (seenOf (L.take k)).length with h | h
              · exact A.out.2.1 j h
              · obtain rfl : j = (seenOf (L.take k)).length := by omega
                exact HNE.out
    · have hltz : decide ((k : Int) < (L.length : Int)) = false := by simp; omega
      have et : L.take k = L := List.take_of_length_le (by omega)
      have hat := atL_miss (n := n) (L := L) (by have := A.out.2.1; rwa [et] at this)
      rw [hr.out] at hat
      have HR := Lib.hid hat
      clear et hat
      go_wp2
      go_ret2
      exact ⟨by cases HR.out; rfl, A.out.2.2⟩
end Go.Proofs.YtchngdhmloahbabDoor
