import Derived.Test.YtehighgebbdenaaGreatDoorVp27
section
set_option linter.unusedVariables false
set_option linter.unusedSimpArgs false
namespace Go.Proofs.YtehighgebbdenaaGreatDoor
open Go.RowKit Go.Lib Go.Sort
def JoinOut (B : Nat) (ad : Nat → Addr) (w : World) (c : Nat → Nat) (br : Nat) (by_ : Int) (R : Rws) (l : List OpX) (e : Ending) (w' : World) : Prop := ∃ a c', JoinIs (allR R) l a ∧ Acts w c w' c' ∧ (match a with
  | .inl (i, cd) => RepOwn B w' c' br by_ R ∧ ∃ v, e = .returned (.tuple #[.int .i64 0, v]) ∧ ((i = -1 ∧ v = eV ad cd ∧ cd ≠ 0) ∨ (0 ≤ i ∧ FaultIs ad w' v i cd))
  | .inr fresh => e = .returned (.tuple #[.int .i64 (fresh.length : Int), .nilIface]) ∧ ∃ R', RepOwn B w' c' br by_ R' ∧ ∀ x, x ∈ allR R' ↔ x ∈ allR R ++ fresh)
theorem row_le (R : Rws) {i : Nat} (hi : i < 4) : (R i).length ≤ (allR R).length := by
  have h4 : i = 0 ∨ i = 1 ∨ i = 2 ∨ i = 3 := by omega
  unfold allR
  rcases h4 with rfl | rfl | rfl | rfl <;> simp <;> omega
set_option maxRecDepth 100000 in
set_option maxHeartbeats 8000000 in
theorem join_any {B : Nat} {ad : Nat → Addr} (w : World) (c : Nat → Nat) (br : Nat) (by_ : Int) (R : Rws) (la : Option Addr) (lc : Nat) (l : List OpX) (h : RepOwn B w c br by_ R) (hE : EnvE B ad w) (hin : OpsIn w la l) (hs : Sized l) (hn : (allR R).length + l.length ≤ 140) :
    Calls Tryz.prog 10 #[.pointer (some ⟨br, 0, none⟩), .slice la l.length lc] w (JoinOut B ad w c br by_ R l) := by
  obtain ⟨T, kv, bt, bx, bc, A, hM0, hperm, hK, hb0, hb4⟩ := h.rep
  obtain ⟨ao, cap, hM⟩ := hM0.norm
  have hrl : ∀ i, i < 4 → (R i).length ≤ 140 := fun i hi => by have := row_le R hi; omega
  have k2 : w.cell? ⟨br, 2, none⟩ = some (.slice (ao 0) (R 0).length (cap 0)) := hM.cell.c2
  have k3 : w.cell? ⟨br, 3, none⟩ = some (.slice (ao 1) (R 1).length (cap 1)) := hM.cell.c3
  have k4 : w.cell? ⟨br, 4, none⟩ = some (.slice (ao 2) (R 2).length (cap 2)) := hM.cell.c4
  have k5 : w.cell? ⟨br, 5, none⟩ = some (.slice (ao 3) (R 3).length (cap 3)) := hM.cell.c5
  have hsift := sift_any w ao cap R la lc l hE.op4 hE.c6 (KnownAt.of_rows hM.rows) hK.num (fun i hi => by have := hrl i hi; omega) hin hs (by omega)
  unfold kV at hsift
  have H0 : Aside (RepMid w c br T by_ (kvs ao cap R) bt bx bc R A ∧ A.Perm (allR R) ∧ RowsK R ∧ RepOwn B w c br by_ R ∧ EnvE B ad w ∧ 0 ≤ by_ ∧ by_ < 4) := ⟨hM, hperm, hK, h, hE, hb0, hb4⟩
  clear hM hM0 hperm hK h hE hin hs
  go_enter Tryz.func10, Tryz.ntmps10
  go_wp2_with fail
  refine hsift.mono ?_
  clear hsift
  rintro e w1 ⟨hso, hb1⟩
  cases hsf : siftS (allR R) 0 [] l with
  | inl ic =>
    obtain ⟨i, cd⟩ := ic
    rw [hsf] at hso
    obtain ⟨v, rfl, blk, rfl, hblk⟩ := hso
    have HF : Aside (siftS (allR R) 0 [] l = .inl (i, cd) ∧ Below w.heap.size w w1 ∧ w1.heap[blk]? = some (.cells #[.int .i64 (i : Int), eV ad cd] 198 (0, 0))) := ⟨hsf, hb1, hblk⟩
    clear hsf hb1 hblk
    go_wp2
    go_ret2
    refine ⟨.inl ((i : Int), cd), c, ?_, Acts.of_below c HF.out.2.1, H0.out.2.2.2.1.later HF.out.2.1, _, rfl, .inr ⟨Int.natCast_nonneg _, blk, rfl, HF.out.2.2⟩⟩
    unfold JoinIs
    rw [HF.out.1]
  | inr fresh =>
    rw [hsf] at hso
    obtain ⟨v, rfl, hrow⟩ := hso
    obtain ⟨fa, fc, rfl⟩ := rowIs hrow
    obtain ⟨g1, g2, g3, g4, g5⟩ := sift_fresh (freshK_nil _) hsf
    have hfl : fresh.length ≤ l.length := by simpa using g5
    have hops : OpsIn w1 fa fresh := by
      rcases ownsOps hrow with ⟨_, q⟩ | ⟨b, o, cp, q1, q2⟩
      · exact .inl q
      · exact .inr ⟨b, o, (Value.slice.inj q1).1, q2⟩
    have hM1 := H0.out.1.later hb1
    have H1 : Aside (siftS (allR R) 0 [] l = .inr fresh ∧ Below w.heap.size w w1 ∧ FreshK (allR R) fresh ∧ w1.ownsRow w.heap.size 38 8 (.slice fa fresh.length fc) fresh.length (cellsOf fresh) ∧ RepMid w1 c br T by_ (kvs ao cap R) bt bx bc R A ∧ EnvE B ad w1) := ⟨hsf, hb1, g1, hrow, hM1, H0.out.2.2.2.2.1.later hb1⟩
    have hwith := with_any w1 c ao cap R fa fc fresh H1.out.2.2.2.2.2 H0.out.2.2.2.1.low hM1.rows hops g1.ok (fun k hk => H0.out.2.2.2.1.high k (Nat.le_trans hb1.size hk)) (by omega) (fun i hi => by have := hrl i hi; omega)
    have k2' : w1.cell? ⟨br, 2, none⟩ = some (.slice (ao 0) (R 0).length (cap 0)) := hM1.cell.c2
    have k3' : w1.cell? ⟨br, 3, none⟩ = some (.slice (ao 1) (R 1).length (cap 1)) := hM1.cell.c3
    have k4' : w1.cell? ⟨br, 4, none⟩ = some (.slice (ao 2) (R 2).length (cap 2)) := hM1.cell.c4
    have k5' : w1.cell? ⟨br, 5, none⟩ = some (.slice (ao 3) (R 3).length (cap 3)) := hM1.cell.c5
    unfold kV at hwith
    clear hsf hrow g1 g2 g3 g4 g5 hops hM1 k2 k3 k4 k5 hb1
    go_wp2_with fail
    refine hwith.mono ?_
    clear hwith k2' k3' k4' k5'
    rintro e w2 ⟨F, hFp, hFs, c2, hk2, hhue2, hold2, hout⟩
    have hgo := withGo_is F R true H0.out.2.2.1.num (H1.out.2.2.1.perm hFp) hFs (by simp [H0.out.2.2.1.nofall])
    have hmemF : ∀ x, x ∈ allR R ++ F ↔ x ∈ allR R ++ fresh := fun x => by simp only [List.mem_append, hFp.mem_iff]
    have hM2 : RepMid w2 c2 br T by_ (kvs ao cap R) bt bx bc R A := by
      have hm := H1.out.2.2.2.2.1
      have kp : ∀ j, j ≠ 0 → ¬ (10 ≤ j ∧ j < 14) → Kept c j w1 c2 w2 := fun j _ hj => ⟨fun k hk e => hk2.block k hk (fun q => hj (by rw [← e]; exact q)), hhue2⟩
      exact ⟨hm.cell.same ((kp 1 (by omega) (by omega)).block _ hm.cell.lt hm.hue), (hhue2 _ hm.cell.lt).trans hm.hue, hold2, hm.tree.kept (kp 2 (by omega) (by omega)), hm.text.kept (kp 3 (by omega) (by omega)) (fun nd _ => kp _ (by unfold hueOf; omega) (by unfold hueOf; omega)), hm.marks.kept (kp 4 (by omega) (by omega)), hm.time⟩
    have H2 : Aside (RepMid w2 c2 br T by_ (kvs ao cap R) bt bx bc R A ∧ Keeps (fun k => c k ≠ 0) w w2 ∧ (∀ k, k < w.heap.size → c2 k = c k) ∧ EnvE B ad w2 ∧ (∀ x, x ∈ allR R ++ F ↔ x ∈ allR R ++ fresh) ∧ F.Perm fresh ∧ OpsIn w2 fa fresh ∧ (∀ a, fa = some a → w.heap.size ≤ a.block ∨ fresh = [])) := by
      have hrow2 := H1.out.2.2.2.1
      have hfa : ∀ g, (Value.slice fa fresh.length fc).ownBlock = some g → c g = 0 := fun g hg => H0.out.2.2.2.1.high g (hrow2.lt g hg).1
      have hkw : Keeps (fun k => c k ≠ 0) w w2 := ((keeps_of_below H1.out.2.1).mono (fun k hk e => absurd hk (by omega))).then hk2 (fun k _ e => by omega)
      refine ⟨hM2, hkw, fun k hk => hhue2 k (Nat.lt_of_lt_of_le hk H1.out.2.1.size), H0.out.2.2.2.2.1.mono (hkw.below H0.out.2.2.2.2.1.size (fun k e => H0.out.2.2.2.1.low k e)), hmemF, hFp, ?_, ?_⟩
      · rcases ownsOps (owns_same hrow2 (fun g hg => hk2.block g (hrow2.lt g hg).2 (fun q => by have := hfa g hg; omega))) with ⟨_, q⟩ | ⟨b, o, cp, q1, q2⟩
        · exact .inl q
        · exact .inr ⟨b, o, (Value.slice.inj q1).1, q2⟩
      · intro a ha
        rcases hrow2.2 with ⟨_, q⟩ | ⟨g, cp, cur, q1, q2, _⟩
        · exact .inr (List.length_eq_zero_iff.1 q)
        · have := (Value.slice.inj q1).1
          rw [ha] at this
          cases this
          exact .inl q2
    have KC : Aside (∀ w3, Below w2.heap.size w2 w3 → ∃ c', Acts w c w3 c' ∧ RepOwn B w3 c' br by_ R) := fun w3 hb3 => own_close (H2.out.1.later hb3) H0.out.2.1 H0.out.2.2.1 H0.out.2.2.2.2.2 (H2.out.2.1.then (keeps_of_below hb3) (fun k hk e => by have := H2.out.2.1.size; omega)) H2.out.2.2.1 H0.out.2.2.2.1.low H0.out.2.2.2.2.1.size
    clear hk2 hhue2 hold2 hM2 hmemF
    rcases hgo with ⟨hnone, hgap⟩ | ⟨R', z', hsome, hngap, hN', hmem', hz', hlen', hext'⟩
    · rw [hnone] at hout
      subst hout
      have HG : Aside (Gap (allR R ++ fresh)) := hgap.congr H2.out.2.2.2.2.1
      have ev : eV ad 9 = .iface 399 (.pointer (some (ad 8))) := rfl
      rw [ev]
      clear hnone hgap ev
      go_wp2
      go_ret2
      obtain ⟨c', a1, a2⟩ := KC.out _ ((Below.refl _ w2).alloc (Nat.le_refl _) _)
      refine ⟨.inl (-1, 9), c', ?_, a1, a2, _, rfl, .inl ⟨rfl, rfl, by decide⟩⟩
      unfold JoinIs
      rw [H1.out.1]
      exact .inl ⟨HG.out, rfl⟩
    · cases z' with
      | false =>
        rw [hsome] at hout
        have hout : e = .returned (.tuple #[.agg #[.slice none 0 0, .slice none 0 0, .slice none 0 0, .slice none 0 0], eV ad 3]) := hout
        subst hout
        have HG : Aside (¬ Gap (allR R ++ fresh) ∧ Falls (allR R ++ fresh)) := ⟨fun q => hngap (q.congr (fun x => (H2.out.2.2.2.2.1 x).symm)), by
          refine Classical.byContradiction (fun q => ?_)
          have := hz'.2 (fun k => q (k.congr H2.out.2.2.2.2.1))
          cases this⟩
        have ev : eV ad 3 = .iface 399 (.pointer (some (ad 2))) := rfl
        rw [ev]
        clear hsome hngap ev hN' hmem' hz' hlen' hext'
        go_wp2
        go_ret2
        obtain ⟨c', a1, a2⟩ := KC.out _ ((Below.refl _ w2).alloc (Nat.le_refl _) _)
        refine ⟨.inl (-1, 3), c', ?_, a1, a2, _, rfl, .inl ⟨rfl, rfl, by decide⟩⟩
        unfold JoinIs
        rw [H1.out.1]
        exact .inr (.inl ⟨HG.out.1, HG.out.2, rfl⟩)
      | true =>
        rw [hsome] at hout
        obtain ⟨ao', cap', rfl, hnew⟩ := hout
        have hNF : ¬ Falls (allR R ++ fresh) := fun q => (hz'.1 rfl) (q.congr (fun x => (H2.out.2.2.2.2.1 x).symm))
        have hNG : ¬ Gap (allR R ++ fresh) := fun q => hngap (q.congr (fun x => (H2.out.2.2.2.2.1 x).symm))
        have hmem : ∀ x, x ∈ allR R' ↔ x ∈ allR R ++ fresh := fun x => (hmem' x).trans (H2.out.2.2.2.2.1 x)
        have hRN : RowsN R' := ⟨hN', fun x hx y hy e1 e2 => Classical.byContradiction (fun q => hNF ⟨x, (hmem x).1 hx, y, (hmem y).1 hy, e1, e2, q⟩)⟩
        have hl' : (allR R').length ≤ 140 := by have := H2.out.2.2.2.2.2.1.length_eq; omega
        have hrl' : ∀ i, i < 4 → (R' i).length ≤ 1000 := fun i hi => by have := row_le R' hi; omega
        have hokF : ∀ x ∈ F, errO x = 0 := fun x hx => H1.out.2.2.1.ok x (H2.out.2.2.2.2.2.1.mem_iff.1 hx)
        have hpm : (allR R').Perm (allR R ++ fresh) := (withGo_perm F R true R' true hokF hsome).trans (H2.out.2.2.2.2.2.1.append_left _)
        obtain ⟨U, hU⟩ : ∃ U, U = w2.alloc (.cells #[.slice (ao' 0) (R' 0).length (cap' 0), .slice (ao' 1) (R' 1).length (cap' 1), .slice (ao' 2) (R' 2).length (cap' 2), .slice (ao' 3) (R' 3).length (cap' 3)] 65) := ⟨_, rfl⟩
        have hbU : Below w2.heap.size w2 U := by rw [hU]; exact (Below.refl _ w2).alloc (Nat.le_refl _) _
        obtain ⟨Q, hQ⟩ : ∃ Q, Q = w2.heap.size := ⟨_, rfl⟩
        have hkb : KBox U Q ao' cap' R' := by rw [hU, hQ]; exact KBox.new w2 ao' cap' R'
        have hnU : RowsAt U c2 (kvs ao' cap' R') R' := hnew.kept (fun i _ => ⟨fun k hk _ => hbU.block k hk, fun _ _ => rfl⟩)
        obtain ⟨zb, hzb⟩ : ∃ zb : Bool, zb = true ↔ ∀ x ∈ fresh, RefOk (allR R') x := ⟨@decide _ (Classical.propDecidable _), @decide_eq_true_iff _ (Classical.propDecidable _)⟩
        have hbears := bearsAll_any U ao' cap' R' fa fc fresh (H2.out.2.2.2.2.2.2.1.later hbU) (fun x hx => (hmem x).2 (List.mem_append_right _ hx)) zb hzb ((H2.out.2.2.2.1.later hbU).op4) (KnownAt.of_rows hnU) hRN hrl' (by omega)
        have H3 : Aside (RepMid U c2 br T by_ (kvs ao cap R) bt bx bc R A ∧ RowsAt U c2 (kvs ao' cap' R') R' ∧ RowsN R' ∧ (∀ x, x ∈ allR R' ↔ x ∈ allR R ++ fresh) ∧ (allR R').Perm (allR R ++ fresh) ∧ ¬ Gap (allR R ++ fresh) ∧ ¬ Falls (allR R ++ fresh) ∧ (zb = true ↔ ∀ x ∈ fresh, RefOk (allR R') x) ∧ Below w2.heap.size w2 U ∧ KBox U Q ao' cap' R' ∧ Q = w2.heap.size) := ⟨H2.out.1.later hbU, hnU, hRN, hmem, hpm, hNG, hNF, hzb, hbU, hkb, hQ⟩
        have HU : Aside (U = w2.alloc (.cells #[.slice (ao' 0) (R' 0).length (cap' 0), .slice (ao' 1) (R' 1).length (cap' 1), .slice (ao' 2) (R' 2).length (cap' 2), .slice (ao' 3) (R' 3).length (cap' 3)] 65) ∧ Q = w2.heap.size) := ⟨hU, hQ⟩
        have k0 := hkb.at (i := 0) (by omega)
        have k1 := hkb.at (i := 1) (by omega)
        have k2 := hkb.at (i := 2) (by omega)
        have k3 := hkb.at (i := 3) (by omega)
        unfold kV at hbears ⊢
        clear hnew hNF hNG hRN hpm hokF hU hQ hbU hkb hnU hzb hsome hngap hN' hmem' hz' hlen' hext' hmem
        go_upto_region 7 with fail
        rw [← HU.out.1, ← HU.out.2]
        go_wp2_with fail
        refine hbears.mono ?_
        clear hbears
        rintro e w3 ⟨rfl, hb3⟩
        have hM3 := H3.out.1.later hb3
        have hkb3 := H3.out.2.2.2.2.2.2.2.2.2.1.later hb3
        have E3 := (H2.out.2.2.2.1.later H3.out.2.2.2.2.2.2.2.2.1).later hb3
        have H4 : Aside (RepMid w3 c2 br T by_ (kvs ao cap R) bt bx bc R A ∧ RowsAt w3 c2 (kvs ao' cap' R') R' ∧ Below w2.heap.size w2 w3 ∧ KBox w3 Q ao' cap' R' ∧ EnvE B ad w3) := ⟨hM3, H3.out.2.1.kept (fun i _ => ⟨fun k hk _ => hb3.block k hk, fun _ _ => rfl⟩), H3.out.2.2.2.2.2.2.2.2.1.trans (hb3.mono H3.out.2.2.2.2.2.2.2.2.1.size), hkb3, E3⟩
        clear k0 k1 k2 k3
        cases zb with
        | false =>
          have eg := E3.c5
          have HN : Aside (∃ x ∈ allR R ++ fresh, ¬ RefOk (allR R ++ fresh) x) := by
            refine Classical.byContradiction (fun q => ?_)
            have := H3.out.2.2.2.2.2.2.2.1.2 (fun x hx => Classical.byContradiction (fun k => q ⟨x, List.mem_append_right _ hx, fun k' => k (k'.mono (fun y hy => (H3.out.2.2.2.1 y).2 hy))⟩))
            cases this
          clear hM3 hkb3 E3 hb3
          go_wp2_with fail
          go_quiet (fail)
          go_wp2
          go_ret2
          obtain ⟨c', a1, a2⟩ := KC.out _ (below_drewN H4.out.2.2.1 _)
          refine ⟨.inl (-1, 6), c', ?_, a1, a2, _, rfl, .inl ⟨rfl, rfl, by decide⟩⟩
          unfold JoinIs
          rw [H1.out.1]
          exact .inr (.inr (.inl ⟨H3.out.2.2.2.2.2.1, H3.out.2.2.2.2.2.2.1, HN.out, rfl⟩))
        | true =>
          have hall : ∀ x ∈ fresh, RefOk (allR R') x := H3.out.2.2.2.2.2.2.2.1.1 rfl
          have hRN := H3.out.2.2.1
          have hmem := H3.out.2.2.2.1
          have hW : WellK (allR R') := ⟨hRN.num.ok, hRN.num.one, hRN.num.gap, hRN.up, fun x hx => by
            rcases List.mem_append.1 ((hmem x).1 hx) with q | q
            · exact (H0.out.2.2.1.well.refs x q).mono (fun y hy => (hmem y).2 (List.mem_append_left _ hy))
            · exact hall x q⟩
          have HW : Aside (RowsK R') := ⟨hRN.num, hW⟩
          have dn : decide ((400 : Int) < ((allR R').length : Int)) = false := by simp; omega
          have dn' : decide (400 < (allR R').length) = false := by simp; omega
          have hcount := count_any w3 ao' cap' R' hrl'
          unfold kV at hcount
          have k0 := hkb3.at (i := 0) (by omega)
          have k1 := hkb3.at (i := 1) (by omega)
          have k2 := hkb3.at (i := 2) (by omega)
          have k3 := hkb3.at (i := 3) (by omega)
          clear hM3 hkb3 E3 hall hRN hmem hW hb3
          go_wp2_with fail
          refine hcount.mono ?_
          clear hcount k0 k1 k2 k3
          rintro e w4 ⟨rfl, hb4'⟩
          have hM4 := H4.out.1.later hb4'
          have hkb4 := H4.out.2.2.2.1.later hb4'
          have k0 := hkb4.at (i := 0) (by omega)
          have k1 := hkb4.at (i := 1) (by omega)
          have k2 := hkb4.at (i := 2) (by omega)
          have k3 := hkb4.at (i := 3) (by omega)
          have q2 := hM4.cell.c2
          have q3 := hM4.cell.c3
          have q4 := hM4.cell.c4
          have q5 := hM4.cell.c5
          have qf := hM4.cell.fz
          obtain ⟨w5, hw5⟩ : ∃ w5, w5 = (((w4.setCell ⟨br, 2, none⟩ (.slice (ao' 0) (R' 0).length (cap' 0))).setCell ⟨br, 3, none⟩ (.slice (ao' 1) (R' 1).length (cap' 1))).setCell ⟨br, 4, none⟩ (.slice (ao' 2) (R' 2).length (cap' 2))).setCell ⟨br, 5, none⟩ (.slice (ao' 3) (R' 3).length (cap' 3)) := ⟨_, rfl⟩
          have hk5 : Keeps (fun k => k = br) w4 w5 := by rw [hw5]; exact setCells_keeps br [.slice (ao' 0) (R' 0).length (cap' 0), .slice (ao' 1) (R' 1).length (cap' 1), .slice (ao' 2) (R' 2).length (cap' 2), .slice (ao' 3) (R' 3).length (cap' 3)] 2 w4
          have hp5 : RepPart w5 c2 br T by_ (kvs ao' cap' R') bt bx bc R' A := by
            have kp : ∀ i, i ≠ 1 → Kept c2 i w4 c2 w5 := fun i hi => ⟨fun k hk e => hk5.block k hk (fun q => by have q' : k = br := q; rw [q', hM4.hue] at e; omega), fun _ _ => rfl⟩
            have hr4 : RowsAt w4 c2 (kvs ao' cap' R') R' := H4.out.2.1.kept (fun i _ => ⟨fun k hk _ => hb4'.block k hk, fun _ _ => rfl⟩)
            refine ⟨?_, hM4.hue, hr4.kept (fun i _ => kp _ (by omega)), hM4.tree.kept (kp 2 (by omega)), hM4.text.kept (kp 3 (by omega)) (fun nd _ => kp _ (by unfold hueOf; omega)), hM4.marks.kept (kp 4 (by omega))⟩
            have hh := setCells_heap br [.slice (ao' 0) (R' 0).length (cap' 0), .slice (ao' 1) (R' 1).length (cap' 1), .slice (ao' 2) (R' 2).length (cap' 2), .slice (ao' 3) (R' 3).length (cap' 3)] 2 w4 _ _ hM4.cell
            unfold RepCell
            rw [hw5]
            refine Eq.trans hh ?_
            simp [over, kvs]
          have hkw5 : Keeps (fun k => c k ≠ 0) w w5 := ((H2.out.2.1.then (keeps_of_below H4.out.2.2.1) (fun k hk e => by have := H2.out.2.1.size; omega)).then (keeps_of_below hb4') (fun k hk e => by have := H2.out.2.1.size; have := H4.out.2.2.1.size; omega)).then hk5 (fun k hk e => by have e' : k = br := e; have := H2.out.2.2.1 k hk; rw [e'] at this ⊢; rw [← this, H2.out.1.hue]; decide)
          have hops5 : OpsIn w5 fa fresh := by
            have ho := (H2.out.2.2.2.2.2.2.1.later H4.out.2.2.1).later hb4'
            rcases ho with q | ⟨bb, oo, e1, e2⟩
            · exact .inl q
            · refine .inr ⟨bb, oo, e1, fun j u hj => ?_⟩
              have hcell := e2 j u hj
              have hbl := World.block_lt_of_cell? w4 ⟨bb, oo + j, none⟩ hcell
              rw [World.cell?_of_block (a := ⟨bb, oo + j, none⟩) (hk5.block bb hbl (fun q => by
                have q' : bb = br := q
                rcases H2.out.2.2.2.2.2.2.2 _ e1 with q2 | q2
                · have := H0.out.1.cell.lt; dsimp only at q2; omega
                · rw [q2] at hj; simp [cellsOf] at hj))]
              exact hcell
          have H5 : Aside (RepPart w5 c2 br T by_ (kvs ao' cap' R') bt bx bc R' A ∧ Keeps (fun k => c k ≠ 0) w w5 ∧ OpsIn w5 fa fresh ∧ EnvE B ad w5) := ⟨hp5, hkw5, hops5, H0.out.2.2.2.2.1.mono (hkw5.below H0.out.2.2.2.2.1.size (fun k e => H0.out.2.2.2.1.low k e))⟩
          have HW5 : Aside (w5 = (((w4.setCell ⟨br, 2, none⟩ (.slice (ao' 0) (R' 0).length (cap' 0))).setCell ⟨br, 3, none⟩ (.slice (ao' 1) (R' 1).length (cap' 1))).setCell ⟨br, 4, none⟩ (.slice (ao' 2) (R' 2).length (cap' 2))).setCell ⟨br, 5, none⟩ (.slice (ao' 3) (R' 3).length (cap' 3))) := hw5
          have hsort := opSort_new w5 (.slice fa fresh.length fc) fresh (by
            rcases H1.out.2.2.2.1.2 with ⟨e1, e2⟩ | ⟨g, cp, cur, e1, _⟩
            · exact .inl ⟨e1, List.length_eq_zero_iff.1 e2⟩
            · rcases hops5 with q | ⟨bb, oo, e4, e5⟩
              · exact .inr ⟨g, 0, fc, by rw [(Value.slice.inj e1).1], fun j u hj => by rw [q] at hj; simp [cellsOf] at hj⟩
              · exact .inr ⟨bb, oo, fc, by rw [e4], e5⟩) (by omega)
          clear hw5 hk5 hp5 hkw5 hops5 hM4 hkb4 hb4'
          go_upto_region 12 with fail
          rw [← HW5.out]
          clear q2 q3 q4 q5 qf k0 k1 k2 k3
          go_wp2_with fail
          refine hsort.mono ?_
          clear hsort
          rintro e w6 ⟨v6, ys, rfl, hy6, hst, hb6, hnew6⟩
          obtain ⟨va, vc, rfl, hin6⟩ : ∃ va vc, v6 = .slice va ys.length vc ∧ OpsIn w6 va ys := by
            rcases hy6 with ⟨rfl, rfl⟩ | ⟨bb, oo, cp, rfl, e2⟩
            · exact ⟨none, 0, rfl, .inl rfl⟩
            · exact ⟨_, _, rfl, .inr ⟨bb, oo, rfl, e2⟩⟩
          obtain ⟨hyp, hys⟩ := stable_by hst
          have hmem := H3.out.2.2.2.1
          have hmy : ∀ x ∈ ys, x ∈ allR R' := fun x hx => (hmem x).2 (List.mem_append_right _ (hyp.mem_iff.1 hx))
          have hyc : ys.Pairwise (fun a b => CLt (stO a) (stO b)) := by_stamp hys (stamps_apart H3.out.2.2.1 hmy (H1.out.2.2.1.perm hyp).one)
          have hylen : ys.length = fresh.length := hyp.length_eq
          obtain ⟨c6, hc6⟩ : ∃ c6, c6 = hueTo w w5 c c2 := ⟨_, rfl⟩
          have hsz56 := hb6.size
          have hszw := H5.out.2.1.size
          have H6 : Aside (RepPart w6 c6 br T by_ (kvs ao' cap' R') bt bx bc R' A ∧ Acts w c w6 c6 ∧ (∀ k, c6 k ≠ 0 → B ≤ k) ∧ (∀ k, w6.heap.size ≤ k → c6 k = 0) ∧ OpsIn w6 va ys ∧ (∀ a, va = some a → c6 a.block = 0) ∧ (∀ k o, ys[k]? = some o → StepOk (allR R ++ ys.take k) o) ∧ ys.Perm fresh ∧ timeO A T) := by
            have hz5 : ∀ k, w5.heap.size ≤ k → c6 k = 0 := fun k hk => by
              rw [hc6]
              unfold hueTo
              rw [if_neg (by omega), if_neg (by omega)]
            refine ⟨(H5.out.1.kept (fun i _ => ⟨fun _ _ _ => rfl, fun k hk => by rw [hc6]; exact hueTo_is H2.out.2.2.1 hk⟩)).later hb6, ⟨H5.out.2.1.then (keeps_of_below hb6) (fun k hk e => by omega), fun k hk => by rw [hc6]; exact if_pos hk⟩, fun k q => ?_, fun k hk => hz5 k (by omega), hin6, fun a ha => ?_, fun k o hko => ?_, hyp, H0.out.1.time⟩
            · rw [hc6] at q
              unfold hueTo at q
              by_cases e : k < w.heap.size
              · rw [if_pos e] at q; exact H0.out.2.2.2.1.low k q
              · have := H0.out.2.2.2.2.1.size; omega
            · rw [ha] at hnew6
              exact hz5 _ (hnew6 a.block rfl)
            · refine prefix_step HW.out.well (fun x => ?_) H0.out.2.2.1.well.refs hyc (fun x hx hx' => ?_) hko
              · rw [hmem x, List.mem_append]
                exact ⟨fun q => q.imp id (fun q => hyp.mem_iff.2 q), fun q => q.imp id (fun q => hyp.mem_iff.1 q)⟩
              · exact H1.out.2.2.1.off x (hyp.mem_iff.1 hx) x hx' ⟨rfl, rfl⟩
          have hAl : A.length + ys.length ≤ 140 := by have := H0.out.2.1.length_eq; omega
          clear hy6 hst hb6 hnew6 hin6 hyp hys hmem hmy hyc hc6 hsz56 hszw
          go_wp2
          go_loopg [51] ys.length (fun kx s51 wr => ∃ (k : Nat) (TT : Int) (cc : Nat → Nat), s51 = .int .i64 (k : Int) ∧ k ≤ ys.length ∧ ys.length - k ≤ kx ∧ Aside (RepPart wr cc br TT by_ (kvs ao' cap' R') bt bx bc R' ((ys.take k).reverse ++ A) ∧ timeO ((ys.take k).reverse ++ A) TT ∧ Acts w c wr cc ∧ (∀ k, cc k ≠ 0 → B ≤ k) ∧ (∀ k, wr.heap.size ≤ k → cc k = 0) ∧ OpsIn wr va ys ∧ (∀ a, va = some a → cc a.block = 0)))
          case atStart => exact ⟨0, T, c6, rfl, Nat.zero_le _, Nat.le_refl _, by simpa using H6.out.1, by simpa using H6.out.2.2.2.2.2.2.2.2, H6.out.2.1, H6.out.2.2.1, H6.out.2.2.2.1, H6.out.2.2.2.2.1, H6.out.2.2.2.2.2.1⟩
          case round =>
            obtain ⟨k, TT, cc, rfl, hkl, hkx, L⟩ := hrel
            by_cases hlt : k < ys.length
            · have d1 : decide ((k : Int) < (ys.length : Int)) = true := by simp; omega
              have wk : ((k : Int)).toNat = k := by omega
              have pk : (0 : Int) ≤ (k : Int) := by omega
              have bk : (k : Int) < (ys.length : Int) := by omega
              obtain ⟨⟨t, b, n, kd, nd, o, s, v⟩, hx⟩ : ∃ x, Aside (ys[k]? = some x) := ⟨ys[k], List.getElem?_eq_getElem hlt⟩
              have hstep0 := H6.out.2.2.2.2.2.2.1 k _ hx.out
              have hpA : (allR R ++ ys.take k).Perm ((ys.take k).reverse ++ A) := (List.perm_append_comm).trans (((List.reverse_perm _).symm.append_right _).trans (H0.out.2.1.symm.append_left _))
              have hstep := hstep0.perm hpA
              obtain ⟨blk, off, hao, hc⟩ := L.out.2.2.2.2.2.1.get hx.out
              subst hao
              have r0 := hc 0 _ rfl
              have r1 := hc 1 _ rfl
              have r2 := hc 2 _ rfl
              have r3 := hc 3 _ rfl
              have r4 := hc 4 _ rfl
              have r5 := hc 5 _ rfl
              have r6 := hc 6 _ rfl
              have r7 := hc 7 _ rfl
              simp only [Nat.add_zero] at r0
              clear hc
              have hbU : ∀ ob, Below wr.heap.size wr (wr.alloc ob) := fun ob => (Below.refl _ wr).alloc (Nat.le_refl _) ob
              have Ewr := H0.out.2.2.2.2.1.mono (L.out.2.2.1.keeps.below H0.out.2.2.2.2.1.size (fun k e => H0.out.2.2.2.1.low k e))
              have happ := apply_any (wr.alloc (.cells #[.int .i64 t, .int .i64 b, .int .i64 n, .int .u8 (kd : Int), .int .i64 nd, .int .i64 o, .string s, .string v] 38)) cc br TT by_ (kvs ao' cap' R') bt bx bc R' ((ys.take k).reverse ++ A) (t, b, n, kd, nd, o, s, v) (L.out.1.later (hbU _)) hstep (Ewr.later (hbU _)) L.out.2.2.2.1 (fun q hq => L.out.2.2.2.2.1 q (by simp at hq; omega)) (by simp; omega)
              have ht1 : 1 ≤ t := (err_by hstep.ok).1
              unfold encO at happ
              dsimp only at happ
              have HTK : Aside ((ys.take (k + 1)).reverse = (t, b, n, kd, nd, o, s, v) :: (ys.take k).reverse) := by
                show (ys.take (k + 1)).reverse = _
                rw [List.take_add_one, hx.out]
                simp
              clear hstep0 hstep hpA Ewr
              go_wp2_with fail
              refine happ.mono ?_
              clear happ r0 r1 r2 r3 r4 r5 r6 r7
              rintro e w7 ⟨⟨u, rfl⟩, c7, p1, p2, p3, p4⟩
              have LN : Aside (RepPart w7 c7 br (if TT < t then t else TT) by_ (kvs ao' cap' R') bt bx bc R' ((ys.take (k + 1)).reverse ++ A) ∧ timeO ((ys.take (k + 1)).reverse ++ A) (if TT < t then t else TT) ∧ Acts w c w7 c7 ∧ (∀ k, c7 k ≠ 0 → B ≤ k) ∧ (∀ k, w7.heap.size ≤ k → c7 k = 0) ∧ OpsIn w7 (some ⟨blk, off, none⟩) ys ∧ (∀ a, some (⟨blk, off, none⟩ : Addr) = some a → c7 a.block = 0)) := by
                have hbk : blk < wr.heap.size := by
                  obtain ⟨b2, o2, e2, hc2⟩ := L.out.2.2.2.2.2.1.get hx.out
                  cases e2
                  exact World.block_lt_of_cell? wr ⟨blk, off + k * 8 + 0, none⟩ (hc2 0 _ rfl)
                have hc0 : cc blk = 0 := L.out.2.2.2.2.2.2 _ rfl
                refine ⟨by rw [HTK.out]; exact p1, by rw [HTK.out]; exact timeO_cons L.out.2.1 _ ht1, (L.out.2.2.1.trans (Acts.of_below cc (hbU _))).trans p2, p3, p4, ?_, fun a ha => ?_⟩
                · rcases L.out.2.2.2.2.2.1.later (hbU _) with q | ⟨bb, oo, e1, e2⟩
                  · exact .inl q
                  · cases e1
                    refine .inr ⟨blk, off, rfl, fun j u hj => ?_⟩
                    rw [World.cell?_of_block (a := ⟨blk, off + j, none⟩) (p2.keeps.block blk (by simp; omega) (fun q => q hc0))]
                    exact e2 j u hj
                · cases ha
                  rw [p2.hue blk (by simp; omega)]
                  exact hc0
              clear p1 p2 p3 p4
              go_wp2
              go_roundg (ys.length - (k + 1))
              case measure => omega
              case rel => exact ⟨k + 1, _, c7, by go_num, by omega, Nat.le_refl _, LN.out⟩
            · have d1 : decide ((k : Int) < (ys.length : Int)) = false := by simp; omega
              obtain rfl : k = ys.length := by omega
              go_wp2
              go_ret2
              refine ⟨.inr fresh, cc, ?_, L.out.2.2.1, rfl, R', ⟨⟨TT, _, bt, bx, bc, _, ⟨L.out.1.cell, L.out.1.hue, L.out.1.rows, L.out.1.tree, L.out.1.text, L.out.1.marks, L.out.2.1⟩, ?_, HW.out, H0.out.2.2.2.2.2⟩, L.out.2.2.2.1, L.out.2.2.2.2.1⟩, H3.out.2.2.2.1⟩
              · unfold JoinIs
                rw [H1.out.1]
                refine .inr (.inr (.inr (.inr ⟨HW.out.well.congr H3.out.2.2.2.1, by omega, rfl⟩)))
              · rw [List.take_length]
                refine ((List.reverse_perm ys).append_right A).trans (List.perm_append_comm.trans ?_)
                exact ((H0.out.2.1.append_right ys).trans (H6.out.2.2.2.2.2.2.2.1.append_left _)).trans H3.out.2.2.2.2.1.symm
end Go.Proofs.YtehighgebbdenaaGreatDoor
end
