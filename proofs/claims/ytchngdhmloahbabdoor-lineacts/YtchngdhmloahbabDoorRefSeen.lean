/- Contracts of the reference's Seen and Text. -/
import Derived.Test.YtchngdhmloahbabDoorRefDel
import Derived.Deep.LoopGhost
import Derived.Deep.AppendLies
set_option linter.unusedVariables false
set_option linter.unusedSimpArgs false
namespace Go.Proofs.YtchngdhmloahbabDoor
open Go.RowKit Go.Lib Go.Sort

set_option maxRecDepth 100000 in
set_option maxHeartbeats 2000000 in
theorem rseen_any (w : World) (base p : Nat) (v : Value) (L : List Ltr) (h : RefAt base w p v L) (hL : L.length ≤ 1000) :
    Calls Tryd.prog 16 #[.pointer (some ⟨p, 0, none⟩)] w fun e w' => ∃ vs, e = .returned vs ∧ w'.ownsRow w.heap.size 45 3 vs (seenOf L).length (flat encR (seenOf L)) ∧ Below w.heap.size w w' := by
  obtain ⟨i0, hi, hz0, hz1, hz2⟩ := info_parts infoLet
  obtain ⟨ao, cap, rfl⟩ := rowShape h.row
  have C0 : Aside (w.cell? ⟨p, 0, none⟩ = some (.slice ao L.length cap)) := h.c0
  have c0 := h.c0
  have HI : Aside (LetsIn w ao L) := letsRow h.row
  clear h
  go_enter Tryd.func16, Tryd.ntmps16
  go_wp2
  clear c0
  go_loopg [3, 4] L.length (fun kx s3 s4 wr => ∃ (k : Nat) (ov : Value), ov = s3 ∧ s4 = .int .i64 (k : Int) ∧ k ≤ L.length ∧ L.length - k ≤ kx ∧ Aside (wr.ownsRow w.heap.size 45 3 ov (seenOf (L.take k)).length (flat encR (seenOf (L.take k))) ∧ Below w.heap.size w wr))
  case atStart => exact ⟨0, _, rfl, rfl, Nat.zero_le _, Nat.le_refl _, ⟨World.ownsRow_nil _ _ _ _, Below.refl _ w⟩⟩
  case round =>
    obtain ⟨k, ov, rfl, rfl, hk, hkx, A⟩ := hrel
    have c0 := cellStays A.out.2 C0.out
    by_cases hlt : k < L.length
    · have hltz : decide ((k : Int) < (L.length : Int)) = true := by simp; omega
      have ek : ((k : Int)).toNat = k := by omega
      have pk : (0 : Int) ≤ (k : Int) := by omega
      have bk : (k : Int) < (L.length : Int) := by omega
      obtain ⟨⟨a, c, gn⟩, hl⟩ : ∃ l, Aside (L[k]? = some l) := ⟨L[k], List.getElem?_eq_getElem hlt⟩
      obtain ⟨blk, off, rfl, f0, f1, f2⟩ := (HI.out.later A.out.2).at hl.out
      have HN := Lib.hid (seen_next hl.out)
      obtain ⟨T, hT⟩ : ∃ T, Aside (seenOf (L.take k) = T) := ⟨_, rfl⟩
      have A' : Aside (wr.ownsRow w.heap.size 45 3 ov T.length (flat encR T) ∧ Below w.heap.size w wr) := by have := A.out; rw [hT.out] at this; exact this
      have hTl : T.length ≤ 1000 := by
        have : (seenOf (L.take k)).length ≤ (L.take k).length := List.length_filter_le _ _
        rw [hT.out, List.length_take] at this; omega
      obtain ⟨u, hu⟩ : ∃ u, u = wr := ⟨_, rfl⟩
      subst hu
      cases gn with
      | true =>
        clear A
        go_wp2
        go_roundg (L.length - (k + 1))
        case measure => omega
        case rel =>
          refine ⟨k + 1, _, rfl, by go_num, by omega, Nat.le_refl _, ?_⟩
          have e : seenOf (L.take (k + 1)) = T := by rw [HN.out, hT.out]; simp
          rw [e]
          exact A'.out
      | false =>
        clear A
        go_wp2_with (at_builtin; refine wpList_append_own _ rfl _ _ 38 rfl w.heap.size 45 i0 _ 3 16 Tryd.underlying38 hi hz0 hz1 hz2 rfl (by omega) _ _ _ rfl (A'.out.1.alloc _) ⟨u.heap.size, 0, none⟩ 1 1 [.int .i64 a, .int .u8 (c : Int), .bool false] rfl ?qb1 ?qb2 ?qb3 ?qb4 ?qb5 ?qb6 ?_)
        case qb3 => exact ⟨rfl, rfl, rfl⟩
        case qb4 => simp only [maxLen]; omega
        case qb5 => omega
        case qb6 => have := A'.out.2.size; simp; omega
        intro v2 u2 hown hgrow hnil
        clear hnil
        have W2 : Below w.heap.size w u2 := (A'.out.2.alloc A'.out.2.size _).grown hgrow (by have := A'.out.2.size; simp; omega) (fun k hk => (A'.out.1.lt k hk).1)
        have R2 : Aside (u2.ownsRow w.heap.size 45 3 v2 (seenOf (L.take (k + 1))).length (flat encR (seenOf (L.take (k + 1)))) ∧ Below w.heap.size w u2) := by
          have e : seenOf (L.take (k + 1)) = T ++ [(a, c, false)] := by rw [HN.out, hT.out]; rfl
          rw [e, flat_append, List.length_append]
          exact ⟨hown, W2⟩
        clear hown hgrow W2
        go_wp2
        go_roundg (L.length - (k + 1))
        case measure => omega
        case rel => exact ⟨k + 1, _, rfl, by go_num, by omega, Nat.le_refl _, R2⟩
    · have hltz : decide ((k : Int) < (L.length : Int)) = false := by simp; omega
      have ek : L.take k = L := List.take_of_length_le (by omega)
      rw [ek] at A
      clear ek
      go_wp2
      go_ret
      exact ⟨_, rfl, A.out⟩

set_option maxRecDepth 100000 in
set_option maxHeartbeats 2000000 in
theorem rtext_any (w : World) (base p : Nat) (v : Value) (L : List Ltr) (h : RefAt base w p v L) (hL : L.length ≤ 1000) :
    Calls Tryd.prog 15 #[.pointer (some ⟨p, 0, none⟩)] w fun e w' => e = .returned (.string ⟨(textL L).toArray⟩) ∧ Below w.heap.size w w' := by
  have hS := rseen_any w base p v L h hL
  have HS : Aside ((∀ l ∈ seenOf L, l.2.1 < 256) ∧ (seenOf L).length ≤ 1000) := ⟨fun l hl => h.small l (List.mem_filter.1 hl).1, by
    have : (seenOf L).length ≤ L.length := List.length_filter_le _ _
    omega⟩
  have HX : Aside (textL L = (seenOf L).map fun l => UInt8.ofNat l.2.1) := rfl
  generalize seenOf L = M at hS HS HX
  have hM : M.length ≤ 1000 := HS.out.2
  clear h
  go_enter Tryd.func15, Tryd.ntmps15
  go_wp2_with fail
  refine hS.mono ?_
  clear hS
  rintro e w1 ⟨vs, rfl, ho, hb1⟩
  obtain ⟨ao, cap, rfl⟩ := rowShape ho
  have H1 : Aside (LetsIn w1 ao M ∧ Below w.heap.size w w1) := ⟨letsRow ho, hb1⟩
  clear ho hb1
  go_wp2
  go_loopg [3, 5] M.length (fun kx s3 s5 wr => ∃ (k : Nat), s3 = .string ⟨((M.take k).map fun l => UInt8.ofNat l.2.1).toArray⟩ ∧ s5 = .int .i64 (k : Int) ∧ k ≤ M.length ∧ M.length - k ≤ kx ∧ Aside (Below w1.heap.size w1 wr))
  case atStart => exact ⟨0, rfl, rfl, Nat.zero_le _, Nat.le_refl _, Below.refl _ _⟩
  case round =>
    obtain ⟨k, rfl, rfl, hk, hkx, A⟩ := hrel
    by_cases hlt : k < M.length
    · have hltz : decide ((k : Int) < (M.length : Int)) = true := by simp; omega
      have ek : ((k : Int)).toNat = k := by omega
      have pk : (0 : Int) ≤ (k : Int) := by omega
      have bk : (k : Int) < (M.length : Int) := by omega
      obtain ⟨⟨a, c, gn⟩, hl⟩ : ∃ l, Aside (M[k]? = some l) := ⟨M[k], List.getElem?_eq_getElem hlt⟩
      obtain ⟨blk, off, rfl, f0, f1, f2⟩ := (H1.out.1.later A.out).at hl.out
      have hc : c < 256 := HS.out.1 _ (List.mem_of_getElem? hl.out)
      obtain ⟨T, hT⟩ : ∃ T, Aside (((M.take k).map fun l => UInt8.ofNat l.2.1) = T) := ⟨_, rfl⟩
      rw [hT.out]
      have hTl : T.length ≤ 1000 := by rw [← hT.out, List.length_map, List.length_take]; omega
      have hadd := add_texts T [digB c] (by simp; omega)
      go_wp2_with fail
      refine (byte_any c wr (by omega)).mono ?_
      rintro e w2 ⟨rfl, hb2⟩
      have A2 : Aside (Below w1.heap.size w1 w2) := A.out.trans (hb2.mono A.out.size)
      clear hb2
      go_wp2
      go_roundg (M.length - (k + 1))
      case measure => omega
      case rel =>
        refine ⟨k + 1, ?_, by go_num, by omega, Nat.le_refl _, A2⟩
        rw [List.take_add_one, hl.out, List.map_append, hT.out]
        rfl
    · have hltz : decide ((k : Int) < (M.length : Int)) = false := by simp; omega
      have ek : M.take k = M := List.take_of_length_le (by omega)
      rw [ek, ← HX.out]
      clear ek
      have F : Aside (Below w.heap.size w wr) := H1.out.2.trans (A.out.mono H1.out.2.size)
      go_wp2
      go_ret
      exact ⟨rfl, F.out⟩
end Go.Proofs.YtchngdhmloahbabDoor
