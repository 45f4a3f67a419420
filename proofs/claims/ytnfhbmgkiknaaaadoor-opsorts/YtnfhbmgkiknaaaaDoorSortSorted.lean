/- Contract of the reference's SortedOf, over the translation's bodies. -/
import Derived.Test.YtnfhbmgkiknaaaaDoorSortEight
namespace Go.Proofs.YtnfhbmgkiknaaaaDoor
open Go.Shelf Go.RowKit Go.Lib Go.Sort

set_option maxHeartbeats 8000000 in
set_option maxRecDepth 100000 in
theorem sortedOf_some (w : World) (blk off cap : Nat) (xs : List OpX) (hc : ∀ j u, (cellsOf xs)[j]? = some u → w.cell? ⟨blk, off + j, none⟩ = some u) (hn : xs.length ≤ 1000) :
    Calls Tryd.prog 47 #[.slice (some ⟨blk, off, none⟩) xs.length cap] w fun e w' => ∃ v' ys, e = .returned v' ∧ OpsAt w' v' ys ∧ StableOf xs ys ∧ Below w.heap.size w w' := by
  obtain ⟨i0, hi, hz0, hz1, hz2⟩ := info_parts infoOp
  have HC : Aside (∀ j u, (cellsOf xs)[j]? = some u → w.cell? ⟨blk, off + j, none⟩ = some u) := hc
  clear hc
  go_enter Tryd.func47, Tryd.ntmps47
  go_wp2
  go_loopg [3, 4] xs.length (fun kx s3 s4 wr => ∃ (i : Nat) (ys : List OpX) (ov : Value), ov = s3 ∧ s4 = .int .i64 (i : Int) ∧ i ≤ xs.length ∧ xs.length - i ≤ kx ∧ Aside (InsOf xs i ys ∧ OutAt wr ov ys ∧ Below w.heap.size w wr))
  case atStart => exact ⟨0, [], _, rfl, rfl, Nat.zero_le _, Nat.le_refl _, ⟨InsOf.zero xs, .inl ⟨rfl, rfl⟩, Below.refl _ _⟩⟩
  case round =>
    obtain ⟨i, ys, ov, rfl, rfl, hix, hkx, A⟩ := hrel
    by_cases hlt : i < xs.length
    · have hltz : decide ((i : Int) < (xs.length : Int)) = true := by simp; omega
      have ex : ((i : Int)).toNat = i := by omega
      have px : (0 : Int) ≤ (i : Int) := by omega
      have bx : (i : Int) < (xs.length : Int) := by omega
      obtain ⟨u, hu⟩ : ∃ u, u = wr := ⟨_, rfl⟩
      subst hu
      obtain ⟨⟨t, b, m, kd, node, other, name, value⟩, hx⟩ : ∃ x, xs[i]! = x := ⟨_, rfl⟩
      have HX := Lib.hid hx
      have E8 : Aside (Eight u blk (off + i * 8) t b m kd node other name value) := eight_at (fun j v hj => cellKept A.out.2.2 (HC.out j v hj)) i hlt hx
      clear hx
      have HL : Aside (ys.length = i) := A.out.1.len (by omega)
      rcases A.out.2.1 with ⟨rfl, rfl⟩ | ⟨g, o, c, rfl, hcap, hg⟩
      · go_wp2
        go_loopg [5] 1 (fun ky s5 wr => s5 = .int .i64 0 ∧ ky = ky ∧ Aside (Below u.heap.size u wr))
        case atStart => exact ⟨rfl, rfl, Below.refl _ _⟩
        case round =>
          obtain ⟨rfl, -, Wr⟩ := hrel
          have B0 : Below u.heap.size u wr := Wr.out
          go_wp2_with fail
          refine wp_region_quiet_grown (by kernel_rfl) (by kernel_rfl) ?_
          repeat (go_big_quiet_step (fail))
          refine wpQuiet_nil ?_
          intro _ hw'
          obtain ⟨⟨nq, osq⟩, hw''⟩ := hw'
          change _ = grow (wr.drewN nq) osq at hw''
          subst hw''
          have W0 : Aside (Below u.heap.size u (grow (wr.drewN nq) osq)) := B0.trans ((below_grows ⟨nq, osq, rfl⟩).mono B0.size)
          generalize grow (wr.drewN nq) osq = u1 at W0 ⊢
          clear B0 Wr
          obtain ⟨f0, f1, f2, f3, f4, f5, f6, f7⟩ := E8.out.later W0.out
          go_wp2_with (at_builtin; refine wpList_append_own _ rfl _ _ 71 rfl u.heap.size 77 i0 _ 8 80 Tryd.underlying71 hi hz0 hz1 hz2 rfl (by omega) _ _ _ rfl (World.ownsRow_nil (u1.alloc _) _ _ _) ⟨u1.heap.size, 0, none⟩ 1 1 [.int .i64 t, .int .i64 b, .int .i64 m, .int .u8 (kd : Int), .int .i64 node, .int .i64 other, .string name, .string value] rfl ?qb1 ?qb2 ?qb3 ?qb4 ?qb5 ?qb6 ?_)
          case qb1 => rfl
          case qb2 => exact lit_cells u1 _ rfl
          case qb3 => exact encT_one ((t, b, m, kd, node, other, name, value), 0)
          case qb4 => simp only [maxLen]; omega
          case qb5 => omega
          case qb6 => have := W0.out.size; simp; omega
          intro v2 u2 hown hgrow hnil
          clear f0 f1 f2 f3 f4 f5 f6 f7
          have W2 : Aside (Below u.heap.size u u2) := (W0.out.alloc W0.out.size _).grown hgrow (by have := W0.out.size; simp; omega) (by intro k hk; simp [Value.ownBlock] at hk)
          have O2 : Aside (u2.ownsRow u.heap.size 77 8 v2 1 (encX (t, b, m, kd, node, other, name, value))) := hown
          clear hown hgrow hnil W0
          have R3 : Aside (InsOf xs (i + 1) [xs[i]!] ∧ OutAt u2 v2 [xs[i]!] ∧ Below w.heap.size w u2) := by
            refine ⟨?_, ?_, ?_⟩
            · have := A.out.1.next (k := 0) hlt (Nat.zero_le _) (fun h => by omega) (fun p _ h => by simp at h)
              simpa using this
            · rw [HX.out]
              exact ownsOut O2.out rfl (by simp [cellsOf])
            · exact A.out.2.2.trans (W2.out.mono A.out.2.2.size)
          obtain ⟨g2, c2, rfl, hc2⟩ : ∃ g2 c2, v2 = .slice (some ⟨g2, 0, none⟩) 1 c2 ∧ 1 ≤ c2 := by
            rcases O2.out.2 with ⟨_, h⟩ | ⟨g2, c2, _, h, _, _, hr, _⟩
            · exact absurd h (by omega)
            · exact ⟨g2, c2, h, hr⟩
          clear O2 W2
          go_wp2
          go_roundg (xs.length - (i + 1))
          case measure => omega
          case rel => exact ⟨i + 1, _, _, rfl, by go_num, by omega, Nat.le_refl _, R3⟩
      · have HG0 : Aside (∀ j v, (cellsOf ys)[j]? = some v → u.cell? ⟨g, o + j, none⟩ = some v) := hg
        clear hg
        have hyl : ys.length ≤ 1000 := by rw [HL.out]; omega
        go_wp2
        go_loopg [5] ys.length (fun ky s5 wr => ∃ (k : Nat), s5 = .int .i64 (k : Int) ∧ k ≤ ys.length ∧ k ≤ ky ∧ Aside ((∀ p, k ≤ p → p < ys.length → ltX xs[i]! ys[p]! = true) ∧ Below u.heap.size u wr))
        case atStart => exact ⟨ys.length, rfl, Nat.le_refl _, Nat.le_refl _, ⟨fun p h1 h2 => by omega, Below.refl _ _⟩⟩
        case round =>
          obtain ⟨k, rfl, hk, hky, K0⟩ := hrel
          rcases Nat.eq_zero_or_pos k with hk0 | hk0
          · subst hk0
            go_wp2_with fail
            refine wp_region_quiet_grown (by kernel_rfl) (by kernel_rfl) ?_
            repeat (go_big_quiet_step (fail))
            refine wpQuiet_nil ?_
            intro _ hw'
            obtain ⟨⟨nq, osq⟩, hw''⟩ := hw'
            change _ = grow (wr.drewN nq) osq at hw''
            subst hw''
            have K : Aside ((∀ p, 0 ≤ p → p < ys.length → ltX xs[i]! ys[p]! = true) ∧ Below u.heap.size u (grow (wr.drewN nq) osq)) := ⟨K0.out.1, K0.out.2.trans ((below_grows ⟨nq, osq, rfl⟩).mono K0.out.2.size)⟩
            clear K0
            generalize grow (wr.drewN nq) osq = u0 at K ⊢
            obtain ⟨uo, huo⟩ : ∃ uo, uo = u := ⟨_, rfl⟩
            subst huo
            obtain ⟨u, hu⟩ : ∃ u, u = u0 := ⟨_, rfl⟩
            subst hu
            have E8o := E8
            clear E8
            have E8 : Aside (Eight u blk (off + i * 8) t b m kd node other name value) := E8o.out.later K.out.2
            have HG : Aside (∀ j v, (cellsOf ys)[j]? = some v → u.cell? ⟨g, o + j, none⟩ = some v) := fun j v hj => cellKept K.out.2 (HG0.out j v hj)
            clear E8o HG0
            have dk0 : (0 : Int) ≤ (0 : Int) := by omega
            have dk1 : (0 : Int) ≤ (c : Int) := by omega
            have dk2 : (0 : Int) ≤ (ys.length : Int) := by omega
            have ek : ((0 : Int)).toNat = 0 := by omega
            have hkl : (ys.take (0)).length = 0 := by rw [List.length_take]; omega
            have hdl : (ys.drop (0)).length = ys.length - (0) := List.length_drop
            have HK : Aside ((ys.take (0)).length = 0 ∧ (ys.drop (0)).length = ys.length - (0)) := ⟨hkl, hdl⟩
            clear hkl hdl
            go_wp2_with (at_builtin; refine wpList_append_own _ rfl _ _ 71 rfl u.heap.size 77 i0 _ 8 80 Tryd.underlying71 hi hz0 hz1 hz2 rfl (by omega) _ _ _ rfl (World.ownsRow_nil u _ _ _) ⟨g, o, none⟩ (0) c (cellsOf (ys.take (0))) rfl ?qa1 ?qa2 ?qa3 ?qa4 ?qa5 ?qa6 ?_)
            case qa1 => rw [cellsOf_len, HK.out.1]
            case qa2 => exact take_cells (0) HG.out
            case qa3 => exact cellsOf_one _
            case qa4 => rw [Nat.zero_add]; simp only [maxLen]; omega
            case qa5 => rw [Nat.zero_add]; omega
            case qa6 => exact Nat.le_refl _
            intro v1 u1 hown hgrow hnil
            clear hnil
            have B1 : Below u.heap.size u u1 := (Below.refl _ u).grown hgrow (Nat.le_refl _) (by intro k hk; simp [Value.ownBlock] at hk)
            have hown1 : u1.ownsRow u.heap.size 77 8 v1 (0) (cellsOf (ys.take (0))) := by simpa using hown
            have O1 : Aside (u1.ownsRow u.heap.size 77 8 v1 (0) (cellsOf (ys.take (0)))) := hown1
            have W1 : Aside (Below u.heap.size u u1) := B1
            obtain ⟨f0, f1, f2, f3, f4, f5, f6, f7⟩ := E8.out.later B1
            clear hown hown1 hgrow B1
            go_wp2_with (at_builtin; refine wpList_append_own _ rfl _ _ 71 rfl u.heap.size 77 i0 _ 8 80 Tryd.underlying71 hi hz0 hz1 hz2 rfl (by omega) _ _ _ rfl (O1.out.alloc _) ⟨u1.heap.size, 0, none⟩ 1 1 [.int .i64 t, .int .i64 b, .int .i64 m, .int .u8 (kd : Int), .int .i64 node, .int .i64 other, .string name, .string value] rfl ?qb1 ?qb2 ?qb3 ?qb4 ?qb5 ?qb6 ?_)
            case qb1 => rfl
            case qb2 => exact lit_cells u1 _ rfl
            case qb3 => exact encT_one ((t, b, m, kd, node, other, name, value), 0)
            case qb4 => simp only [maxLen]; omega
            case qb5 => omega
            case qb6 => have := W1.out.size; simp; omega
            intro v2 u2 hown hgrow hnil
            clear hnil f0 f1 f2 f3 f4 f5 f6 f7
            have W2 : Aside (Below u.heap.size u u2) := (W1.out.alloc W1.out.size _).grown hgrow (by have := W1.out.size; simp; omega) (fun k hk => (O1.out.lt k hk).1)
            have O2 : Aside (u2.ownsRow u.heap.size 77 8 v2 (0 + 1) (cellsOf (ys.take (0)) ++ encX (t, b, m, kd, node, other, name, value))) := hown
            clear hown hgrow O1 W1
            go_wp2_with (at_builtin; refine wpList_append_own _ rfl _ _ 71 rfl u.heap.size 77 i0 _ 8 80 Tryd.underlying71 hi hz0 hz1 hz2 rfl (by omega) _ _ _ rfl O2.out ⟨g, o + (0) * 8, none⟩ (ys.length - (0)) (c - (0)) (cellsOf (ys.drop (0))) rfl ?qd1 ?qd2 ?qd3 ?qd4 ?qd5 ?qd6 ?_)
            case qd1 => rw [cellsOf_len, HK.out.2]
            case qd2 => exact drop_cells (0) (by omega) (fun j v hj => cellKept W2.out (HG.out j v hj))
            case qd3 => exact cellsOf_one _
            case qd4 => simp only [maxLen]; omega
            case qd5 => omega
            case qd6 => exact W2.out.size
            intro v3 u3 hown hgrow hnil
            clear hnil
            have R3 : Aside (InsOf xs (i + 1) (ys.take (0) ++ xs[i]! :: ys.drop (0)) ∧ OutAt u3 v3 (ys.take (0) ++ xs[i]! :: ys.drop (0)) ∧ Below w.heap.size w u3) := by
              refine ⟨A.out.1.next hlt (by omega) ?_ ?_, ?_, ?_⟩
              · intro h0
                omega
              · exact K.out.1
              · rw [HX.out]
                exact ownsOut hown (by rw [List.length_append, List.length_cons, HK.out.1, HK.out.2]; omega) (by first | exact cellsOf_ins ys _ _ | simp [cellsOf])
              · have Bu := A.out.2.2.trans (K.out.2.mono A.out.2.2.size)
                exact Bu.trans ((W2.out.grown hgrow W2.out.size (fun k hk => (O2.out.lt k hk).1)).mono Bu.size)
            clear hown hgrow O2 W2 HK
            go_wp2
            go_roundg (xs.length - (i + 1))
            case measure => omega
            case rel => exact ⟨i + 1, _, _, rfl, by go_num, by omega, Nat.le_refl _, R3⟩
          · obtain ⟨q, hkq⟩ : ∃ q, k = q + 1 := ⟨k - 1, by omega⟩
            obtain ⟨s0, s1⟩ := stamp_at (fun j v hj => cellKept K0.out.2 (HG0.out j v hj)) q (by omega)
            obtain ⟨t', b', hy1, hy2⟩ : ∃ t' b', (ys[q]!).1 = t' ∧ (ys[q]!).2.1 = b' := ⟨_, _, rfl, rfl⟩
            rw [hy1] at s0
            rw [hy2] at s1
            have f0 := cell_grows (E8.out.later K0.out.2).c0
            have f1 := cell_grows (E8.out.later K0.out.2).c1
            have r0 := cell_grows s0
            have r1 := cell_grows s1
            have eq1 : ((k : Int) - 1) = (q : Int) := by omega
            have hqy : q < ys.length := by omega
            have HKQ := Lib.hid hkq
            clear hkq
            have ezz : ((q : Int)).toNat = q := by omega
            have pz : (0 : Int) ≤ (q : Int) := by omega
            have bz : (q : Int) < (ys.length : Int) := by omega
            have hgt : decide ((0 : Int) < (k : Int)) = true := decide_eq_true (by omega)
            clear s0 s1
            cases hz : ltX xs[i]! ys[q]! with
            | true =>
              have hz' : lessB t b t' b' = true := by rw [← hz, HX.out]; unfold ltX; rw [hy1, hy2]
              have HZ := Lib.hid hz'
              have K1 : Aside (∀ p, q ≤ p → p < ys.length → ltX xs[i]! ys[p]! = true) := fun p h1 h2 => by
                rcases Nat.eq_or_lt_of_le h1 with e | e
                · rw [← e]; exact hz
                · exact K0.out.1 p (by rw [HKQ.out]; omega) h2
              clear hz hz' hy1 hy2
              go_wp2_with fail
              refine wp_region_quiet_grown (by kernel_rfl) (by kernel_rfl) ?_
              repeat (go_big_quiet_step (first | (go_at_call 19; refine Calls.grown_of (isLess_is _ _ _ _ true _ HZ.out))))
              refine wpQuiet_nil ?_
              intro _ hw'
              obtain ⟨⟨nq, osq⟩, hw''⟩ := hw'
              change _ = grow (wr.drewN nq) osq at hw''
              subst hw''
              have K : Aside ((∀ p, q ≤ p → p < ys.length → ltX xs[i]! ys[p]! = true) ∧ Below u.heap.size u (grow (wr.drewN nq) osq)) := ⟨K1.out, K0.out.2.trans ((below_grows ⟨nq, osq, rfl⟩).mono K0.out.2.size)⟩
              clear K0 K1 f0 f1 r0 r1
              generalize grow (wr.drewN nq) osq = u0 at K ⊢
              go_wp2
              go_roundg q
              case measure => rw [HKQ.out] at hky; omega
              case rel => exact ⟨q, by go_num, by omega, Nat.le_refl _, K⟩
            | false =>
              have hz' : lessB t b t' b' = false := by rw [← hz, HX.out]; unfold ltX; rw [hy1, hy2]
              have HZ := Lib.hid hz'
              have HF := Lib.hid hz
              clear hz hz' hy1 hy2
              go_wp2_with fail
              refine wp_region_quiet_grown (by kernel_rfl) (by kernel_rfl) ?_
              repeat (go_big_quiet_step (first | (go_at_call 19; refine Calls.grown_of (isLess_is _ _ _ _ false _ HZ.out))))
              refine wpQuiet_nil ?_
              intro _ hw'
              obtain ⟨⟨nq, osq⟩, hw''⟩ := hw'
              change _ = grow (wr.drewN nq) osq at hw''
              subst hw''
              have K : Aside ((∀ p, k ≤ p → p < ys.length → ltX xs[i]! ys[p]! = true) ∧ Below u.heap.size u (grow (wr.drewN nq) osq)) := ⟨K0.out.1, K0.out.2.trans ((below_grows ⟨nq, osq, rfl⟩).mono K0.out.2.size)⟩
              clear K0 f0 f1 r0 r1 eq1 ezz pz bz hgt hqy
              generalize grow (wr.drewN nq) osq = u0 at K ⊢
              obtain ⟨uo, huo⟩ : ∃ uo, uo = u := ⟨_, rfl⟩
              subst huo
              obtain ⟨u, hu⟩ : ∃ u, u = u0 := ⟨_, rfl⟩
              subst hu
              have E8o := E8
              clear E8
              have E8 : Aside (Eight u blk (off + i * 8) t b m kd node other name value) := E8o.out.later K.out.2
              have HG : Aside (∀ j v, (cellsOf ys)[j]? = some v → u.cell? ⟨g, o + j, none⟩ = some v) := fun j v hj => cellKept K.out.2 (HG0.out j v hj)
              clear E8o HG0
              have dk0 : (0 : Int) ≤ (k : Int) := by omega
              have dk1 : (k : Int) ≤ (c : Int) := by omega
              have dk2 : (k : Int) ≤ (ys.length : Int) := by omega
              have ek : ((k : Int)).toNat = k := by omega
              have hkl : (ys.take (k)).length = k := by rw [List.length_take]; omega
              have hdl : (ys.drop (k)).length = ys.length - (k) := List.length_drop
              have HK : Aside ((ys.take (k)).length = k ∧ (ys.drop (k)).length = ys.length - (k)) := ⟨hkl, hdl⟩
              clear hkl hdl
              go_wp2_with (at_builtin; refine wpList_append_own _ rfl _ _ 71 rfl u.heap.size 77 i0 _ 8 80 Tryd.underlying71 hi hz0 hz1 hz2 rfl (by omega) _ _ _ rfl (World.ownsRow_nil u _ _ _) ⟨g, o, none⟩ (k) c (cellsOf (ys.take (k))) rfl ?qa1 ?qa2 ?qa3 ?qa4 ?qa5 ?qa6 ?_)
              case qa1 => rw [cellsOf_len, HK.out.1]
              case qa2 => exact take_cells (k) HG.out
              case qa3 => exact cellsOf_one _
              case qa4 => rw [Nat.zero_add]; simp only [maxLen]; omega
              case qa5 => rw [Nat.zero_add]; omega
              case qa6 => exact Nat.le_refl _
              intro v1 u1 hown hgrow hnil
              clear hnil
              have B1 : Below u.heap.size u u1 := (Below.refl _ u).grown hgrow (Nat.le_refl _) (by intro k hk; simp [Value.ownBlock] at hk)
              have hown1 : u1.ownsRow u.heap.size 77 8 v1 (k) (cellsOf (ys.take (k))) := by simpa using hown
              have O1 : Aside (u1.ownsRow u.heap.size 77 8 v1 (k) (cellsOf (ys.take (k)))) := hown1
              have W1 : Aside (Below u.heap.size u u1) := B1
              obtain ⟨f0, f1, f2, f3, f4, f5, f6, f7⟩ := E8.out.later B1
              clear hown hown1 hgrow B1
              go_wp2_with (at_builtin; refine wpList_append_own _ rfl _ _ 71 rfl u.heap.size 77 i0 _ 8 80 Tryd.underlying71 hi hz0 hz1 hz2 rfl (by omega) _ _ _ rfl (O1.out.alloc _) ⟨u1.heap.size, 0, none⟩ 1 1 [.int .i64 t, .int .i64 b, .int .i64 m, .int .u8 (kd : Int), .int .i64 node, .int .i64 other, .string name, .string value] rfl ?qb1 ?qb2 ?qb3 ?qb4 ?qb5 ?qb6 ?_)
              case qb1 => rfl
              case qb2 => exact lit_cells u1 _ rfl
              case qb3 => exact encT_one ((t, b, m, kd, node, other, name, value), 0)
              case qb4 => simp only [maxLen]; omega
              case qb5 => omega
              case qb6 => have := W1.out.size; simp; omega
              intro v2 u2 hown hgrow hnil
              clear hnil f0 f1 f2 f3 f4 f5 f6 f7
              have W2 : Aside (Below u.heap.size u u2) := (W1.out.alloc W1.out.size _).grown hgrow (by have := W1.out.size; simp; omega) (fun k hk => (O1.out.lt k hk).1)
              have O2 : Aside (u2.ownsRow u.heap.size 77 8 v2 (k + 1) (cellsOf (ys.take (k)) ++ encX (t, b, m, kd, node, other, name, value))) := hown
              clear hown hgrow O1 W1
              by_cases hkc : k = c
              · subst hkc
                go_wp2_with (at_builtin; refine wpList_append_own _ rfl _ _ 71 rfl u.heap.size 77 i0 _ 8 80 Tryd.underlying71 hi hz0 hz1 hz2 rfl (by omega) _ _ _ rfl O2.out ⟨g, o, none⟩ 0 0 [] rfl ?qd1 ?qd2 ?qd3 ?qd4 ?qd5 ?qd6 ?_)
                case qd1 => rfl
                case qd2 => intro j v hj; simp at hj
                case qd3 => intro v hv; cases hv
                case qd4 => simp only [maxLen]; omega
                case qd5 => omega
                case qd6 => exact W2.out.size
                intro v3 u3 hown hgrow hnil
                clear hnil
                have R3 : Aside (InsOf xs (i + 1) (ys.take (k) ++ xs[i]! :: ys.drop (k)) ∧ OutAt u3 v3 (ys.take (k) ++ xs[i]! :: ys.drop (k)) ∧ Below w.heap.size w u3) := by
                  refine ⟨A.out.1.next hlt (by omega) ?_ ?_, ?_, ?_⟩
                  · intro h0
                    rw [HKQ.out, Nat.add_sub_cancel]; exact HF.out
                  · exact K.out.1
                  · rw [HX.out]
                    have hdrop : ys.drop k = [] := List.drop_eq_nil_of_le (by omega)
                    exact ownsOut hown (by rw [List.length_append, List.length_cons, HK.out.1, HK.out.2]; omega) (by rw [← cellsOf_ins, hdrop]; simp [cellsOf])
                  · have Bu := A.out.2.2.trans (K.out.2.mono A.out.2.2.size)
                    exact Bu.trans ((W2.out.grown hgrow W2.out.size (fun k hk => (O2.out.lt k hk).1)).mono Bu.size)
                clear hown hgrow O2 W2 HK
                go_wp2
                go_roundg (xs.length - (i + 1))
                case measure => omega
                case rel => exact ⟨i + 1, _, _, rfl, by go_num, by omega, Nat.le_refl _, R3⟩
              · have hne : ¬ c = k := fun h => hkc h.symm
                go_wp2_with (at_builtin; refine wpList_append_own _ rfl _ _ 71 rfl u.heap.size 77 i0 _ 8 80 Tryd.underlying71 hi hz0 hz1 hz2 rfl (by omega) _ _ _ rfl O2.out ⟨g, o + (k) * 8, none⟩ (ys.length - (k)) (c - (k)) (cellsOf (ys.drop (k))) rfl ?qd1 ?qd2 ?qd3 ?qd4 ?qd5 ?qd6 ?_)
                case qd1 => rw [cellsOf_len, HK.out.2]
                case qd2 => exact drop_cells (k) (by omega) (fun j v hj => cellKept W2.out (HG.out j v hj))
                case qd3 => exact cellsOf_one _
                case qd4 => simp only [maxLen]; omega
                case qd5 => omega
                case qd6 => exact W2.out.size
                intro v3 u3 hown hgrow hnil
                clear hnil
                have R3 : Aside (InsOf xs (i + 1) (ys.take (k) ++ xs[i]! :: ys.drop (k)) ∧ OutAt u3 v3 (ys.take (k) ++ xs[i]! :: ys.drop (k)) ∧ Below w.heap.size w u3) := by
                  refine ⟨A.out.1.next hlt (by omega) ?_ ?_, ?_, ?_⟩
                  · intro h0
                    rw [HKQ.out, Nat.add_sub_cancel]; exact HF.out
                  · exact K.out.1
                  · rw [HX.out]
                    exact ownsOut hown (by rw [List.length_append, List.length_cons, HK.out.1, HK.out.2]; omega) (by first | exact cellsOf_ins ys _ _ | simp [cellsOf])
                  · have Bu := A.out.2.2.trans (K.out.2.mono A.out.2.2.size)
                    exact Bu.trans ((W2.out.grown hgrow W2.out.size (fun k hk => (O2.out.lt k hk).1)).mono Bu.size)
                clear hown hgrow O2 W2 HK
                go_wp2
                go_roundg (xs.length - (i + 1))
                case measure => omega
                case rel => exact ⟨i + 1, _, _, rfl, by go_num, by omega, Nat.le_refl _, R3⟩
    · have hltz : decide ((i : Int) < (xs.length : Int)) = false := by simp; omega
      have R : Aside (OpsAt wr ov ys ∧ StableOf xs ys ∧ Below w.heap.size w wr) := by
        obtain rfl : i = xs.length := by omega
        exact ⟨A.out.2.1.ops, A.out.1.all, A.out.2.2⟩
      clear A
      go_wp2
      go_ret
      exact ⟨_, ys, rfl, R.out⟩

theorem sortedOf_any (w : World) (v : Value) (xs : List OpX) (h : OpsAt w v xs) (hn : xs.length ≤ 1000) :
    Calls Tryd.prog 47 #[v] w fun e w' => ∃ v' ys, e = .returned v' ∧ OpsAt w' v' ys ∧ StableOf xs ys ∧ Below w.heap.size w w' := by
  rcases h with ⟨rfl, rfl⟩ | ⟨blk, off, cap, rfl, hc⟩
  · refine (sortedOf_zero none 0 w).mono ?_
    rintro e w' ⟨rfl, rfl⟩
    exact ⟨_, [], rfl, .inl ⟨rfl, rfl⟩, (InsOf.zero []).all, Below.refl _ _⟩
  · exact sortedOf_some w blk off cap xs hc hn
end Go.Proofs.YtnfhbmgkiknaaaaDoor
