/- Contract of package journal's readRecord. -/
import Derived.Test.YtcggmagdndhkbaaDoorJrnRead
set_option linter.unusedVariables false
set_option linter.unusedSimpArgs false
namespace Go.Proofs.YtcggmagdndhkbaaDoor
open Go Go.RowKit Go.Lib Go.Sort

theorem results_ctt {fn : Func} {p u u' : Tmp} {ty : TypeId} (h : fn.results = #[.cell p ty, .tmp u, .tmp u']) (tmps : Array Value) (P : Program) (w : World) :
    (results fn tmps).run P w =
      ((asAddr (tmps.getD p undef)).run P w).andThen fun a w1 => ((loadVar ty a).run P w1).andThen fun v w2 => .ok (.tuple #[v, tmps.getD u undef, tmps.getD u' undef]) w2 := by
  simp only [results, h]
  simp [Sem.run_bind, Result.andThen]
/-- An operation in a block. -/
def OpJ (W : World) (b : Nat) (x : OpX) : Prop := W.heap[b]? = some (.cells #[.int .i64 x.1, .int .i64 x.2.1, .int .i64 x.2.2.1, .int .u8 (x.2.2.2.1 : Int), .int .i64 x.2.2.2.2.1, .int .i64 x.2.2.2.2.2.1, .string x.2.2.2.2.2.2.1, .string x.2.2.2.2.2.2.2] 35 (0, 0))
theorem OpJ.new (w : World) (x : OpX) : OpJ (w.alloc (.cells #[.int .i64 x.1, .int .i64 x.2.1, .int .i64 x.2.2.1, .int .u8 (x.2.2.2.1 : Int), .int .i64 x.2.2.2.2.1, .int .i64 x.2.2.2.2.2.1, .string x.2.2.2.2.2.2.1, .string x.2.2.2.2.2.2.2] 35)) w.heap.size x := heap_alloc_new w _
theorem OpJ.lt {W : World} {b : Nat} {x : OpX} (h : OpJ W b x) : b < W.heap.size := (Array.getElem?_eq_some_iff.1 h).1
theorem OpJ.later {w w' : World} {b : Nat} {x : OpX} (h : OpJ w b x) (hb : Below w.heap.size w w') : OpJ w' b x := (hb.block b h.lt).trans h
theorem OpJ.cells {W : World} {b : Nat} {x : OpX} (h : OpJ W b x) : W.cell? ⟨b, 0, none⟩ = some (.int .i64 x.1) ∧ W.cell? ⟨b, 1, none⟩ = some (.int .i64 x.2.1) ∧ W.cell? ⟨b, 2, none⟩ = some (.int .i64 x.2.2.1) ∧ W.cell? ⟨b, 3, none⟩ = some (.int .u8 (x.2.2.2.1 : Int)) ∧ W.cell? ⟨b, 4, none⟩ = some (.int .i64 x.2.2.2.2.1) ∧ W.cell? ⟨b, 5, none⟩ = some (.int .i64 x.2.2.2.2.2.1) ∧ W.cell? ⟨b, 6, none⟩ = some (.string x.2.2.2.2.2.2.1) ∧ W.cell? ⟨b, 7, none⟩ = some (.string x.2.2.2.2.2.2.2) ∧ ∀ o, W.frozen? ⟨b, o, none⟩ = false := by
  unfold OpJ at h
  refine ⟨?_, ?_, ?_, ?_, ?_, ?_, ?_, ?_, fun o => ?_⟩
  · simp [World.cell?, h]
  · simp [World.cell?, h]
  · simp [World.cell?, h]
  · simp [World.cell?, h]
  · simp [World.cell?, h]
  · simp [World.cell?, h]
  · simp [World.cell?, h]
  · simp [World.cell?, h]
  · simp [World.frozen?, h]
theorem belowJ {w W : World} {b : Nat} (h : Below w.heap.size w W) (hb : w.heap.size ≤ b) (o : Nat) (vs : List Value) : Below w.heap.size w (W.setCells b o vs) := h.trans ((setCells_keeps b vs o W).below h.size (fun k e => by omega))
/-- What readRecord tells. -/
def RecOut (w : World) (s : ByteArray) (e : Ending) (w' : World) : Prop := ∃ (x : OpX) (n : Nat) (z : Bool), e = .returned (.tuple #[encJ x, .int .i64 (n : Int), .bool z]) ∧ Aside (Below w.heap.size w w' ∧ ((z = true ∧ readR s.data.toList = some (x, n)) ∨ (z = false ∧ readR s.data.toList = none ∧ x = zeroJ ∧ n = 0)))
set_option maxRecDepth 100000 in
set_option maxHeartbeats 4000000 in
theorem readRec_any {B : Nat} {ad : Nat → Addr} (s : ByteArray) (w : World) (hE : EnvJ B ad w) (hs : s.size ≤ 100000) :
    Calls Tryd.prog 21 #[.string s] w (RecOut w s) := by
  obtain ⟨S, hS⟩ : ∃ S, Aside (S = w.heap.size) := ⟨_, rfl⟩
  obtain ⟨U, hU⟩ : ∃ U, Aside (U = w.alloc (.cells #[.int .i64 0, .int .i64 0, .int .i64 0, .int .u8 0, .int .i64 0, .int .i64 0, .string ⟨#[]⟩, .string ⟨#[]⟩] 35)) := ⟨_, rfl⟩
  have hbU : Below w.heap.size w U := by rw [hU.out]; exact (Below.refl _ w).alloc (Nat.le_refl _) _
  have Z0 : OpJ U S zeroJ := by rw [hU.out, hS.out]; exact OpJ.new w zeroJ
  obtain ⟨m, hm⟩ := (hE.later hbU).here.mx
  have hcut := Tryd.strings_Cut s ⟨#[35]⟩ m U (by omega) hm
  obtain ⟨t1, ht1⟩ : ∃ t1 : ByteArray, Aside (t1 = ⟨(Lib.cut s.data.toList (⟨#[35]⟩ : ByteArray).data.toList).1.toArray⟩) := ⟨_, rfl⟩
  obtain ⟨t2, ht2⟩ : ∃ t2 : ByteArray, Aside (t2 = ⟨(Lib.cut s.data.toList (⟨#[35]⟩ : ByteArray).data.toList).2.1.toArray⟩) := ⟨_, rfl⟩
  obtain ⟨zc, hzc⟩ : ∃ zc : Bool, Aside (zc = (Lib.cut s.data.toList (⟨#[35]⟩ : ByteArray).data.toList).2.2) := ⟨_, rfl⟩
  rw [← ht1.out, ← ht2.out, ← hzc.out] at hcut
  have HT : Aside (t1.data.toList = ahead s.data.toList) := by
    show _ = _
    rw [ht1.out]
    exact cut_ahead s.data.toList
  have hts : t1.size ≤ 100000 := by
    have h1 := ahead_len s.data.toList
    rw [← HT.out] at h1
    have h2 : t1.data.toList.length = t1.size := by simp
    have h3 : s.data.toList.length = s.size := by simp
    omega
  have H0 : Aside (OpJ U S zeroJ ∧ EnvJ B ad U ∧ Below w.heap.size w U) := ⟨Z0, hE.later hbU, hbU⟩
  clear hE hbU Z0 hm
  go_enter Tryd.func21, Tryd.ntmps21
  go_upto_region 1 with fail
  rw [← hU.out, ← hS.out]
  go_wp2_with fail
  refine hcut.mono ?_
  clear hcut
  rintro e w1 ⟨rfl, nd, hw1⟩
  have hb1 : Below U.heap.size U w1 := by rw [hw1]; exact ⟨rfl, rfl, rfl, Nat.le_refl _, fun _ _ => rfl⟩
  have H1 : Aside (OpJ w1 S zeroJ ∧ EnvJ B ad w1 ∧ Below w.heap.size w w1) := ⟨H0.out.1.later hb1, H0.out.2.1.later hb1, H0.out.2.2.trans (hb1.mono H0.out.2.2.size)⟩
  clear hw1 hb1
  have hrd := opread_any t1 w1 H1.out.2.1.here (by omega)
  go_wp2_with fail
  refine hrd.mono ?_
  clear hrd
  rintro e w2 ⟨x, er, rfl, H2⟩
  have HR2 : Aside ((readO (ahead s.data.toList) = some x ∧ er = .nilIface) ∨ (readO (ahead s.data.toList) = none ∧ x = zeroJ ∧ ∃ a, er = .iface 127 (.pointer (some a)))) := by
    have := H2.out.2
    rw [HT.out] at this
    exact this
  obtain ⟨V, hV⟩ : ∃ V, Aside (V = w2.alloc (.cells #[.int .i64 x.1, .int .i64 x.2.1, .int .i64 x.2.2.1, .int .u8 (x.2.2.2.1 : Int), .int .i64 x.2.2.2.2.1, .int .i64 x.2.2.2.2.2.1, .string x.2.2.2.2.2.2.1, .string x.2.2.2.2.2.2.2] 35)) := ⟨_, rfl⟩
  obtain ⟨Q, hQ⟩ : ∃ Q, Aside (Q = w2.heap.size) := ⟨_, rfl⟩
  have hbV : Below w1.heap.size w1 V := by rw [hV.out]; exact H2.out.1.alloc H2.out.1.size _
  have OV : OpJ V Q x := by rw [hV.out, hQ.out]; exact OpJ.new w2 x
  have HV : Aside (OpJ V S zeroJ ∧ OpJ V Q x ∧ EnvJ B ad V ∧ Below w.heap.size w V ∧ S < Q) := ⟨H1.out.1.later hbV, OV, H1.out.2.1.later hbV, H1.out.2.2.trans (hbV.mono H1.out.2.2.size), by rw [hQ.out]; exact Nat.lt_of_lt_of_le H1.out.1.lt H2.out.1.size⟩
  clear hbV OV
  unfold encJ
  go_upto_region 3 with fail
  rw [← hV.out, ← hQ.out]
  rcases HR2.out with ⟨hr, he⟩ | ⟨hr, hx, a, he⟩
  · subst he
    have hrc := record_any t1 V (by omega) HV.out.2.2.1.here.deb
    have HRO : Aside (readO (ahead s.data.toList) = some x) := hr
    clear hr HR2
    go_wp2_with fail
    refine hrc.mono ?_
    clear hrc
    rintro e w3 ⟨r, hr, rfl, hb3⟩
    have hpf := Tryd.strings_HasPrefix s r w3
    obtain ⟨z, hz⟩ : ∃ z : Bool, Aside (z = Lib.hasPrefix s.data.toList r.data.toList) := ⟨_, rfl⟩
    rw [← hz.out] at hpf
    rw [HT.out] at hr
    have H3 : Aside (OpJ w3 S zeroJ ∧ OpJ w3 Q x ∧ Below w.heap.size w w3 ∧ r.data.toList = recL (ahead s.data.toList)) := ⟨HV.out.1.later hb3, HV.out.2.1.later hb3, HV.out.2.2.2.1.trans (hb3.mono HV.out.2.2.2.1.size), hr⟩
    clear hr hb3
    go_wp2_with fail
    refine hpf.mono ?_
    clear hpf
    rintro e w4 ⟨rfl, rfl⟩
    obtain ⟨z0, z1, z2, z3, z4, z5, z6, z7, zf⟩ := H3.out.1.cells
    unfold zeroJ at z0 z1 z2 z3 z4 z5 z6 z7
    dsimp only at z0 z1 z2 z3 z4 z5 z6 z7
    obtain ⟨j0, j1, j2, j3, j4, j5, j6, j7, jf⟩ := H3.out.2.1.cells
    cases z with
    | true =>
      have HF : Aside (readR s.data.toList = some (x, r.size)) := by
        have hp : recL (ahead s.data.toList) <+: s.data.toList := by
          have := hz.out
          rw [H3.out.2.2.2] at this
          exact List.isPrefixOf_iff_prefix.1 this.symm
        show readR s.data.toList = _
        unfold readR
        rw [HRO.out]
        dsimp only
        rw [if_pos hp, ← H3.out.2.2.2]
        simp
      go_wp2
      (try simp only [Exit.inBlock, Exit.then])
      refine bodyPost_ret (v := .tuple #[encJ x, .int .i64 (r.size : Int), .bool true]) ?_ rfl ⟨x, r.size, true, rfl, ?_, .inl ⟨rfl, HF.out⟩⟩
      · rw [results_ctt rfl]
        unfold encJ
        go_simp
      · exact belowJ (b := S) H3.out.2.2.1 (by have := hS.out; omega) 0 [.int .i64 x.1, .int .i64 x.2.1, .int .i64 x.2.2.1, .int .u8 (x.2.2.2.1 : Int), .int .i64 x.2.2.2.2.1, .int .i64 x.2.2.2.2.2.1, .string x.2.2.2.2.2.2.1, .string x.2.2.2.2.2.2.2]
    | false =>
      have HF : Aside (readR s.data.toList = none) := by
        have hp : ¬ recL (ahead s.data.toList) <+: s.data.toList := fun q => by
          have h1 := hz.out
          rw [H3.out.2.2.2] at h1
          have h2 : Lib.hasPrefix s.data.toList (recL (ahead s.data.toList)) = true := List.isPrefixOf_iff_prefix.2 q
          rw [h2] at h1
          cases h1
        show readR s.data.toList = _
        unfold readR
        rw [HRO.out]
        dsimp only
        rw [if_neg hp]
      clear j0 j1 j2 j3 j4 j5 j6 j7 jf
      go_wp2
      (try simp only [Exit.inBlock, Exit.then])
      refine bodyPost_ret (v := .tuple #[encJ zeroJ, .int .i64 0, .bool false]) ?_ rfl ⟨zeroJ, 0, false, rfl, ?_, .inr ⟨rfl, HF.out, rfl, rfl⟩⟩
      · rw [results_ctt rfl]
        unfold encJ zeroJ
        go_simp
      · exact belowJ (b := S) H3.out.2.2.1 (by have := hS.out; omega) 0 [.int .i64 0, .int .i64 0, .int .i64 0, .int .u8 0, .int .i64 0, .int .i64 0, .string ⟨#[]⟩, .string ⟨#[]⟩]
  · subst he
    have HF : Aside (readR s.data.toList = none) := by
      show readR s.data.toList = _
      unfold readR
      rw [hr]
    obtain ⟨z0, z1, z2, z3, z4, z5, z6, z7, zf⟩ := HV.out.1.cells
    unfold zeroJ at z0 z1 z2 z3 z4 z5 z6 z7
    dsimp only at z0 z1 z2 z3 z4 z5 z6 z7
    clear hr HR2
    go_wp2
    (try simp only [Exit.inBlock, Exit.then])
    refine bodyPost_ret (v := .tuple #[encJ zeroJ, .int .i64 0, .bool false]) ?_ rfl ⟨zeroJ, 0, false, rfl, ?_, .inr ⟨rfl, HF.out, rfl, rfl⟩⟩
    · rw [results_ctt rfl]
      unfold encJ zeroJ
      go_simp
    · exact belowJ (b := S) HV.out.2.2.2.1 (by have := hS.out; omega) 0 [.int .i64 0, .int .i64 0, .int .i64 0, .int .u8 0, .int .i64 0, .int .i64 0, .string ⟨#[]⟩, .string ⟨#[]⟩]
end Go.Proofs.YtcggmagdndhkbaaDoor
