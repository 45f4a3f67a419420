import Derived.Test.YtcggmagdndhkbaaGreatDoorAx06
import Derived.Test.YtcggmagdndhkbaaGreatDoorAx09
import Derived.Test.YtcggmagdndhkbaaGreatDoorAx11
import Derived.Lib.IndexMore
import Derived.Test.YtcggmagdndhkbaaGreatDoorProg
import Derived.WalkKit
import Derived.WalkSpells
import Derived.Below
import Derived.Laws.IdiomStrings
import Derived.Laws.Concat
import Derived.Lib.Hide
section
set_option linter.unusedVariables false
set_option linter.unusedSimpArgs false
namespace Go.Proofs.YtcggmagdndhkbaaGreatDoor
open Go Go.RowKit Go.Lib Go.Sort
theorem index_cons (c : UInt8) (l : List UInt8) : Lib.index (c :: l) [35] = if c = 35 then 0 else if Lib.index l [35] = -1 then -1 else Lib.index l [35] + 1 := by
  rw [Lib.index]
  by_cases h : c = 35
  · subst h
    rw [if_pos rfl]
    simp
  · rw [if_neg h]
    have : ([35] : List UInt8).isPrefixOf (c :: l) = false := by simp [List.isPrefixOf]; exact fun e => h e.symm
    rw [this]
    simp
theorem cut_ahead : ∀ l : List UInt8, (Lib.cut l [35]).1 = ahead l
  | [] => by
    unfold Lib.cut
    split <;> simp [ahead]
  | c :: l => by
    have ih := cut_ahead l
    unfold Lib.cut at ih ⊢
    have hg := Lib.index_ge l [35]
    rw [index_cons]
    by_cases h : c = 35
    · rw [if_pos h]
      simp [ahead, h]
    · rw [if_neg h]
      unfold ahead
      rw [if_neg h]
      by_cases h1 : Lib.index l [35] = -1
      · rw [if_pos h1, if_neg (by omega)]
        rw [if_neg (by omega)] at ih
        rw [← ih]
      · rw [if_neg h1, if_pos (by omega)]
        rw [if_pos (by omega)] at ih
        rw [← ih, show (Lib.index l [35] + 1).toNat = (Lib.index l [35]).toNat + 1 by omega]
        rfl
def zeroJ : OpX := (0, 0, 0, 0, 0, 0, ⟨#[]⟩, ⟨#[]⟩)
theorem opread_any {ad : Nat → Addr} (s : ByteArray) (w : World) (hE : FactJ ad w) (hs : s.size ≤ 1000000) :
    Calls Tryz.prog 163 #[.string s] w fun e w' => ∃ (x : OpX) (er : Value), e = .returned (.tuple #[encJ x, er]) ∧ Aside (Below w.heap.size w w' ∧ ((readO s.data.toList = some x ∧ er = .nilIface) ∨ (readO s.data.toList = none ∧ x = zeroJ ∧ ∃ a, er = .iface 416 (.pointer (some a))))) := by
  obtain ⟨m, hm⟩ := hE.mx
  cases hp : partsL s.data.toList with
  | none =>
    refine (read_text s w hs m hm hE.et hp).mono ?_
    rintro e w' ⟨rfl, hb⟩
    exact ⟨zeroJ, _, rfl, hb, .inr ⟨by unfold readO; rw [hp], rfl, _, rfl⟩⟩
  | some p =>
    obtain ⟨c, n1, n2, n3, n4, n5, nm, v⟩ := p
    have hl := text_parts hp
    have hlen : nm.length ≤ 1000000 ∧ v.length ≤ 1000000 := by
      have e := congrArg List.length hl
      unfold opTextL at e
      simp only [joinP, List.length_append, List.length_cons, List.length_nil] at e
      have e6 := hexL_length v
      have : s.data.toList.length = s.size := by simp
      omega
    by_cases hc : opE n1 n2 n3 c.toNat n4 n5 nm v = 0
    · refine (read_ok s w hs m hm hE.txt.op4 c n1 n2 n3 n4 n5 nm v hp hlen.1 hlen.2 hc).mono ?_
      rintro e w' ⟨rfl, hb⟩
      exact ⟨((n1 : Int), (n2 : Int), (n3 : Int), c.toNat, (n4 : Int), (n5 : Int), ⟨nm.toArray⟩, ⟨v.toArray⟩), _, rfl, hb, .inl ⟨by unfold readO; rw [hp]; dsimp only; rw [if_pos hc], rfl⟩⟩
    · refine (read_code s w hs m hm hE.txt.op4 c n1 n2 n3 n4 n5 nm v hp hlen.1 hlen.2 hc).mono ?_
      rintro e w' ⟨rfl, hb⟩
      exact ⟨zeroJ, _, rfl, hb, .inr ⟨by unfold readO; rw [hp]; dsimp only; rw [if_neg hc], rfl, _, rfl⟩⟩
end Go.Proofs.YtcggmagdndhkbaaGreatDoor
end
section
set_option linter.unusedVariables false
set_option linter.unusedSimpArgs false
namespace Go.Proofs.YtcggmagdndhkbaaGreatDoor
open Go Go.RowKit Go.Lib Go.Sort
theorem results_ctt {fn : Func} {p u u' : Tmp} {ty : TypeId} (h : fn.results = #[.cell p ty, .tmp u, .tmp u']) (tmps : Array Value) (P : Program) (w : World) :
    (results fn tmps).run P w =
      ((asAddr (tmps.getD p undef)).run P w).andThen fun a w1 => ((loadVar ty a).run P w1).andThen fun v w2 => .ok (.tuple #[v, tmps.getD u undef, tmps.getD u' undef]) w2 := by
  simp only [results, h]
  simp [Sem.run_bind, Result.andThen]
def OpJ (W : World) (b : Nat) (x : OpX) : Prop := W.heap[b]? = some (.cells #[.int .i64 x.1, .int .i64 x.2.1, .int .i64 x.2.2.1, .int .u8 (x.2.2.2.1 : Int), .int .i64 x.2.2.2.2.1, .int .i64 x.2.2.2.2.2.1, .string x.2.2.2.2.2.2.1, .string x.2.2.2.2.2.2.2] 31 (0, 0))
theorem OpJ.new (w : World) (x : OpX) : OpJ (w.alloc (.cells #[.int .i64 x.1, .int .i64 x.2.1, .int .i64 x.2.2.1, .int .u8 (x.2.2.2.1 : Int), .int .i64 x.2.2.2.2.1, .int .i64 x.2.2.2.2.2.1, .string x.2.2.2.2.2.2.1, .string x.2.2.2.2.2.2.2] 31)) w.heap.size x := heap_alloc_new w _
theorem OpJ.lt {W : World} {b : Nat} {x : OpX} (h : OpJ W b x) : b < W.heap.size := (Array.getElem?_eq_some_iff.1 h).1
theorem OpJ.later {w w' : World} {b : Nat} {x : OpX} (h : OpJ w b x) (hb : Below w.heap.size w w') : OpJ w' b x := (hb.block b h.lt).trans h
theorem OpJ.cells {W : World} {b : Nat} {x : OpX} (h : OpJ W b x) : W.cell? ⟨b, 0, none⟩ = some (.int .i64 x.1) ∧ W.cell? ⟨b, 1, none⟩ = some (.int .i64 x.2.1) ∧ W.cell? ⟨b, 2, none⟩ = some (.int .i64 x.2.2.1) ∧ W.cell? ⟨b, 3, none⟩ = some (.int .u8 (x.2.2.2.1 : Int)) ∧ W.cell? ⟨b, 4, none⟩ = some (.int .i64 x.2.2.2.2.1) ∧ W.cell? ⟨b, 5, none⟩ = some (.int .i64 x.2.2.2.2.2.1) ∧ W.cell? ⟨b, 6, none⟩ = some (.string x.2.2.2.2.2.2.1) ∧ W.cell? ⟨b, 7, none⟩ = some (.string x.2.2.2.2.2.2.2) ∧ ∀ o, W.frozen? ⟨b, o, none⟩ = false := by
  unfold OpJ at h
  refine ⟨?_, ?_, ?_, ?_, ?_, ?_, ?_, ?_, fun o => ?_⟩
  · simp [World.cell?, h]
  · simp [World.cell?, h]
  · simp [World.cell?, h]
  · simp [World.cell?, h]
  · simp [World.cell?, h]
  · simp [World.cell?, h]
  · simp [World.cell?, h]
  · simp [World.cell?, h]
  · simp [World.frozen?, h]
theorem belowJ {w W : World} {b : Nat} (h : Below w.heap.size w W) (hb : w.heap.size ≤ b) (o : Nat) (vs : List Value) : Below w.heap.size w (W.setCells b o vs) := h.trans ((setCells_keeps b vs o W).below h.size (fun k e => by omega))
def RecOut (w : World) (s : ByteArray) (e : Ending) (w' : World) : Prop := ∃ (x : OpX) (n : Nat) (z : Bool), e = .returned (.tuple #[encJ x, .int .i64 (n : Int), .bool z]) ∧ Aside (Below w.heap.size w w' ∧ ((z = true ∧ readR s.data.toList = some (x, n)) ∨ (z = false ∧ readR s.data.toList = none ∧ x = zeroJ ∧ n = 0)))
set_option maxRecDepth 100000 in
set_option maxHeartbeats 4000000 in
theorem readRec_any {B : Nat} {ad : Nat → Addr} (s : ByteArray) (w : World) (hE : EnvJ B ad w) (hs : s.size ≤ 100000) :
    Calls Tryz.prog 101 #[.string s] w (RecOut w s) := by
  obtain ⟨S, hS⟩ : ∃ S, Aside (S = w.heap.size) := ⟨_, rfl⟩
  obtain ⟨U, hU⟩ : ∃ U, Aside (U = w.alloc (.cells #[.int .i64 0, .int .i64 0, .int .i64 0, .int .u8 0, .int .i64 0, .int .i64 0, .string ⟨#[]⟩, .string ⟨#[]⟩] 31)) := ⟨_, rfl⟩
  have hbU : Below w.heap.size w U := by rw [hU.out]; exact (Below.refl _ w).alloc (Nat.le_refl _) _
  have Z0 : OpJ U S zeroJ := by rw [hU.out, hS.out]; exact OpJ.new w zeroJ
  obtain ⟨m, hm⟩ := (hE.later hbU).here.mx
  have hcut := Tryz.strings_Cut s ⟨#[35]⟩ m U (by omega) hm
  obtain ⟨t1, ht1⟩ : ∃ t1 : ByteArray, Aside (t1 = ⟨(Lib.cut s.data.toList (⟨#[35]⟩ : ByteArray).data.toList).1.toArray⟩) := ⟨_, rfl⟩
  obtain ⟨t2, ht2⟩ : ∃ t2 : ByteArray, Aside (t2 = ⟨(Lib.cut s.data.toList (⟨#[35]⟩ : ByteArray).data.toList).2.1.toArray⟩) := ⟨_, rfl⟩
  obtain ⟨zc, hzc⟩ : ∃ zc : Bool, Aside (zc = (Lib.cut s.data.toList (⟨#[35]⟩ : ByteArray).data.toList).2.2) := ⟨_, rfl⟩
  rw [← ht1.out, ← ht2.out, ← hzc.out] at hcut
  have HT : Aside (t1.data.toList = ahead s.data.toList) := by
    show _ = _
    rw [ht1.out]
    exact cut_ahead s.data.toList
  have hts : t1.size ≤ 100000 := by
    have h1 := ahead_len s.data.toList
    rw [← HT.out] at h1
    have h2 : t1.data.toList.length = t1.size := by simp
    have h3 : s.data.toList.length = s.size := by simp
    omega
  have H0 : Aside (OpJ U S zeroJ ∧ EnvJ B ad U ∧ Below w.heap.size w U) := ⟨Z0, hE.later hbU, hbU⟩
  clear hE hbU Z0 hm
  go_enter Tryz.func101, Tryz.ntmps101
  go_upto_region 1 with fail
  rw [← hU.out, ← hS.out]
  go_wp2_with fail
  refine hcut.mono ?_
  clear hcut
  rintro e w1 ⟨rfl, nd, hw1⟩
  have hb1 : Below U.heap.size U w1 := by rw [hw1]; exact ⟨rfl, rfl, rfl, Nat.le_refl _, fun _ _ => rfl⟩
  have H1 : Aside (OpJ w1 S zeroJ ∧ EnvJ B ad w1 ∧ Below w.heap.size w w1) := ⟨H0.out.1.later hb1, H0.out.2.1.later hb1, H0.out.2.2.trans (hb1.mono H0.out.2.2.size)⟩
  clear hw1 hb1
  have hrd := opread_any t1 w1 H1.out.2.1.here (by omega)
  go_wp2_with fail
  refine hrd.mono ?_
  clear hrd
  rintro e w2 ⟨x, er, rfl, H2⟩
  have HR2 : Aside ((readO (ahead s.data.toList) = some x ∧ er = .nilIface) ∨ (readO (ahead s.data.toList) = none ∧ x = zeroJ ∧ ∃ a, er = .iface 416 (.pointer (some a)))) := by
    have := H2.out.2
    rw [HT.out] at this
    exact this
  obtain ⟨V, hV⟩ : ∃ V, Aside (V = w2.alloc (.cells #[.int .i64 x.1, .int .i64 x.2.1, .int .i64 x.2.2.1, .int .u8 (x.2.2.2.1 : Int), .int .i64 x.2.2.2.2.1, .int .i64 x.2.2.2.2.2.1, .string x.2.2.2.2.2.2.1, .string x.2.2.2.2.2.2.2] 31)) := ⟨_, rfl⟩
  obtain ⟨Q, hQ⟩ : ∃ Q, Aside (Q = w2.heap.size) := ⟨_, rfl⟩
  have hbV : Below w1.heap.size w1 V := by rw [hV.out]; exact H2.out.1.alloc H2.out.1.size _
  have OV : OpJ V Q x := by rw [hV.out, hQ.out]; exact OpJ.new w2 x
  have HV : Aside (OpJ V S zeroJ ∧ OpJ V Q x ∧ EnvJ B ad V ∧ Below w.heap.size w V ∧ S < Q) := ⟨H1.out.1.later hbV, OV, H1.out.2.1.later hbV, H1.out.2.2.trans (hbV.mono H1.out.2.2.size), by rw [hQ.out]; exact Nat.lt_of_lt_of_le H1.out.1.lt H2.out.1.size⟩
  clear hbV OV
  unfold encJ
  go_upto_region 3 with fail
  rw [← hV.out, ← hQ.out]
  rcases HR2.out with ⟨hr, he⟩ | ⟨hr, hx, a, he⟩
  · subst he
    have hrc := record_any t1 V (by omega) HV.out.2.2.1.here.deb
    have HRO : Aside (readO (ahead s.data.toList) = some x) := hr
    clear hr HR2
    go_wp2_with fail
    refine hrc.mono ?_
    clear hrc
    rintro e w3 ⟨r, hr, rfl, hb3⟩
    have hpf := Tryz.strings_HasPrefix s r w3
    obtain ⟨z, hz⟩ : ∃ z : Bool, Aside (z = Lib.hasPrefix s.data.toList r.data.toList) := ⟨_, rfl⟩
    rw [← hz.out] at hpf
    rw [HT.out] at hr
    have H3 : Aside (OpJ w3 S zeroJ ∧ OpJ w3 Q x ∧ Below w.heap.size w w3 ∧ r.data.toList = recL (ahead s.data.toList)) := ⟨HV.out.1.later hb3, HV.out.2.1.later hb3, HV.out.2.2.2.1.trans (hb3.mono HV.out.2.2.2.1.size), hr⟩
    clear hr hb3
    go_wp2_with fail
    refine hpf.mono ?_
    clear hpf
    rintro e w4 ⟨rfl, rfl⟩
    obtain ⟨z0, z1, z2, z3, z4, z5, z6, z7, zf⟩ := H3.out.1.cells
    unfold zeroJ at z0 z1 z2 z3 z4 z5 z6 z7
    dsimp only at z0 z1 z2 z3 z4 z5 z6 z7
    obtain ⟨j0, j1, j2, j3, j4, j5, j6, j7, jf⟩ := H3.out.2.1.cells
    cases z with
    | true =>
      have HF : Aside (readR s.data.toList = some (x, r.size)) := by
        have hp : recL (ahead s.data.toList) <+: s.data.toList := by
          have := hz.out
          rw [H3.out.2.2.2] at this
          exact List.isPrefixOf_iff_prefix.1 this.symm
        show readR s.data.toList = _
        unfold readR
        rw [HRO.out]
        dsimp only
        rw [if_pos hp, ← H3.out.2.2.2]
        simp
      go_wp2
      (try simp only [Exit.inBlock, Exit.then])
      refine bodyPost_ret (v := .tuple #[encJ x, .int .i64 (r.size : Int), .bool true]) ?_ rfl ⟨x, r.size, true, rfl, ?_, .inl ⟨rfl, HF.out⟩⟩
      · rw [results_ctt rfl]
        unfold encJ
        go_simp
      · exact belowJ (b := S) H3.out.2.2.1 (by have := hS.out; omega) 0 [.int .i64 x.1, .int .i64 x.2.1, .int .i64 x.2.2.1, .int .u8 (x.2.2.2.1 : Int), .int .i64 x.2.2.2.2.1, .int .i64 x.2.2.2.2.2.1, .string x.2.2.2.2.2.2.1, .string x.2.2.2.2.2.2.2]
    | false =>
      have HF : Aside (readR s.data.toList = none) := by
        have hp : ¬ recL (ahead s.data.toList) <+: s.data.toList := fun q => by
          have h1 := hz.out
          rw [H3.out.2.2.2] at h1
          have h2 : Lib.hasPrefix s.data.toList (recL (ahead s.data.toList)) = true := List.isPrefixOf_iff_prefix.2 q
          rw [h2] at h1
          cases h1
        show readR s.data.toList = _
        unfold readR
        rw [HRO.out]
        dsimp only
        rw [if_neg hp]
      clear j0 j1 j2 j3 j4 j5 j6 j7 jf
      go_wp2
      (try simp only [Exit.inBlock, Exit.then])
      refine bodyPost_ret (v := .tuple #[encJ zeroJ, .int .i64 0, .bool false]) ?_ rfl ⟨zeroJ, 0, false, rfl, ?_, .inr ⟨rfl, HF.out, rfl, rfl⟩⟩
      · rw [results_ctt rfl]
        unfold encJ zeroJ
        go_simp
      · exact belowJ (b := S) H3.out.2.2.1 (by have := hS.out; omega) 0 [.int .i64 0, .int .i64 0, .int .i64 0, .int .u8 0, .int .i64 0, .int .i64 0, .string ⟨#[]⟩, .string ⟨#[]⟩]
  · subst he
    have HF : Aside (readR s.data.toList = none) := by
      show readR s.data.toList = _
      unfold readR
      rw [hr]
    obtain ⟨z0, z1, z2, z3, z4, z5, z6, z7, zf⟩ := HV.out.1.cells
    unfold zeroJ at z0 z1 z2 z3 z4 z5 z6 z7
    dsimp only at z0 z1 z2 z3 z4 z5 z6 z7
    clear hr HR2
    go_wp2
    (try simp only [Exit.inBlock, Exit.then])
    refine bodyPost_ret (v := .tuple #[encJ zeroJ, .int .i64 0, .bool false]) ?_ rfl ⟨zeroJ, 0, false, rfl, ?_, .inr ⟨rfl, HF.out, rfl, rfl⟩⟩
    · rw [results_ctt rfl]
      unfold encJ zeroJ
      go_simp
    · exact belowJ (b := S) HV.out.2.2.2.1 (by have := hS.out; omega) 0 [.int .i64 0, .int .i64 0, .int .i64 0, .int .u8 0, .int .i64 0, .int .i64 0, .string ⟨#[]⟩, .string ⟨#[]⟩]
end Go.Proofs.YtcggmagdndhkbaaGreatDoor
end
section
set_option linter.unusedVariables false
set_option linter.unusedSimpArgs false
namespace Go.Proofs.YtcggmagdndhkbaaGreatDoor
open Go Go.RowKit Go.Lib Go.Sort
theorem ownsJ {w w' : World} {base n : Nat} {e : TypeId} {k : Nat} {v : Value} {xs : List Value} (h : w.ownsRow base e k v n xs) (hs : ∀ g, v.ownBlock = some g → w'.heap[g]? = w.heap[g]?) : w'.ownsRow base e k v n xs := by
  refine ⟨h.1, ?_⟩
  rcases h.2 with q | ⟨g, cap, cur, rfl, hb, hg, rest⟩
  · exact .inl q
  · exact .inr ⟨g, cap, cur, rfl, hb, (hs g rfl).trans hg, rest⟩
theorem litJ (w : World) (x : OpX) : ∀ j u, (encX x)[j]? = some u → (w.alloc (.cells #[.int .i64 x.1, .int .i64 x.2.1, .int .i64 x.2.2.1, .int .u8 (x.2.2.2.1 : Int), .int .i64 x.2.2.2.2.1, .int .i64 x.2.2.2.2.2.1, .string x.2.2.2.2.2.2.1, .string x.2.2.2.2.2.2.2] 31)).cell? ((⟨w.heap.size, 0, none⟩ : Addr).add j) = some u :=
  World.news_of_block (cs := #[.int .i64 x.1, .int .i64 x.2.1, .int .i64 x.2.2.1, .int .u8 (x.2.2.2.1 : Int), .int .i64 x.2.2.2.2.1, .int .i64 x.2.2.2.2.2.1, .string x.2.2.2.2.2.2.1, .string x.2.2.2.2.2.2.2]) (t := 31) (fr := (0, 0)) (heap_alloc_new w _)
theorem oneJ (x : OpX) : ∀ u ∈ encX x, u.oneCell' = true := by
  intro u hu
  simp only [encX, List.mem_cons, List.not_mem_nil, or_false] at hu
  rcases hu with rfl | rfl | rfl | rfl | rfl | rfl | rfl | rfl <;> rfl
theorem cells_snoc (xs : List OpX) (x : OpX) : cellsOf (xs ++ [x]) = cellsOf xs ++ encX x := by simp [cellsOf]
theorem drop_text (s : ByteArray) (n : Nat) (h : n ≤ s.size) : ∃ F : ByteArray, F.data.toList = s.data.toList.drop n ∧ F.size = s.size - n ∧ ∀ w, (Instr.slice 9 (.string s) (some (.int .i64 (n : Int))) none none).run Tryz.prog w = .ok (.string F) w := by
  obtain ⟨F, h1, h2⟩ := cut_right s n h
  refine ⟨F, h1, ?_, h2⟩
  have := congrArg List.length h1
  simpa using this
def ReadOut (w : World) (s : ByteArray) (e : Ending) (w' : World) : Prop := ∃ v : Value, e = .returned (.tuple #[v, .int .i64 ((readL_ s.data.toList).2 : Int)]) ∧ Aside (w'.ownsRow w.heap.size 31 8 v (readL_ s.data.toList).1.length (cellsOf (readL_ s.data.toList).1) ∧ Below w.heap.size w w')
theorem readA_le (b : List UInt8) : (readL_ b).2 ≤ b.length ∧ 10 * (readL_ b).1.length ≤ b.length := by
  obtain ⟨r, h1, h2, h3, h4⟩ := readA_is b.length b (Nat.le_refl _)
  have e := congrArg List.length h1
  rw [List.length_append] at e
  refine ⟨by omega, ?_⟩
  have : ∀ l : List OpX, 10 * l.length ≤ (recsL l).length := by
    intro l
    induction l with
    | nil => simp
    | cons x l ih =>
      show _ ≤ (recL (textO x) ++ recsL l).length
      rw [List.length_append, recL_len, List.length_cons]
      omega
  have := this (readL_ b).1
  omega
set_option maxRecDepth 100000 in
set_option maxHeartbeats 4000000 in
theorem jread_any {B : Nat} {ad : Nat → Addr} (s : ByteArray) (w : World) (hE : EnvJ B ad w) (hs : s.size ≤ 100000) :
    Calls Tryz.prog 46 #[.string s] w (ReadOut w s) := by
  obtain ⟨i0, hi0, hz0, hz1, hz2⟩ := info_parts infoOp
  obtain ⟨T, hT⟩ : ∃ T, Aside (T = readL_ s.data.toList) := ⟨_, rfl⟩
  have HE : Aside (EnvJ B ad w) := hE
  clear hE
  unfold ReadOut
  rw [← hT.out]
  go_enter Tryz.func46, Tryz.ntmps46
  go_wp2
  go_loopg [4, 5] s.size (fun kx s4 s5 W => ∃ (n : Nat) (xs : List OpX) (ov : Value), ov = s4 ∧ s5 = .int .i64 (n : Int) ∧ n ≤ s.size ∧ s.size - n ≤ kx ∧ xs.length ≤ 20000 ∧ Aside (W.ownsRow w.heap.size 31 8 ov xs.length (cellsOf xs) ∧ Below w.heap.size w W ∧ T = (xs ++ (readL_ (s.data.toList.drop n)).1, n + (readL_ (s.data.toList.drop n)).2)))
  case atStart => exact ⟨0, [], _, rfl, rfl, Nat.zero_le _, Nat.le_refl _, by simp, ⟨World.ownsRow_nil _ _ _ _, Below.refl _ w, by rw [hT.out]; simp⟩⟩
  case round =>
    obtain ⟨n, xs, ov, rfl, rfl, hn, hnx, hxl, A⟩ := hrel
    obtain ⟨F, hF, hFs, hsl⟩ := drop_text s n hn
    have HFF : Aside (F.data.toList = s.data.toList.drop n) := hF
    have hrr := readRec_any F wr (HE.out.later A.out.2.1) (by omega)
    obtain ⟨u, hu⟩ : ∃ u, u = wr := ⟨_, rfl⟩
    subst hu
    clear hF
    go_wp2_with fail
    refine hrr.mono ?_
    clear hrr
    rintro e w1 ⟨x, m, z, rfl, H1⟩
    have HR : Aside ((z = true ∧ readR (s.data.toList.drop n) = some (x, m)) ∨ (z = false ∧ readR (s.data.toList.drop n) = none ∧ x = zeroJ ∧ m = 0)) := by
      have := H1.out.2
      rw [HFF.out] at this
      exact this
    obtain ⟨V, hV⟩ : ∃ V, Aside (V = w1.alloc (.cells #[.int .i64 x.1, .int .i64 x.2.1, .int .i64 x.2.2.1, .int .u8 (x.2.2.2.1 : Int), .int .i64 x.2.2.2.2.1, .int .i64 x.2.2.2.2.2.1, .string x.2.2.2.2.2.2.1, .string x.2.2.2.2.2.2.2] 31)) := ⟨_, rfl⟩
    obtain ⟨Q, hQ⟩ : ∃ Q, Aside (Q = w1.heap.size) := ⟨_, rfl⟩
    have hbV : Below u.heap.size u V := by rw [hV.out]; exact H1.out.1.alloc H1.out.1.size _
    have OV : OpJ V Q x := by rw [hV.out, hQ.out]; exact OpJ.new w1 x
    have HV : Aside (V.ownsRow w.heap.size 31 8 ov xs.length (cellsOf xs) ∧ Below w.heap.size w V) := ⟨ownsJ A.out.1 (fun g hg => hbV.block g (A.out.1.lt g hg).2), A.out.2.1.trans (hbV.mono A.out.2.1.size)⟩
    clear hbV
    unfold encJ
    go_upto_region 4 with fail
    rw [← hV.out, ← hQ.out]
    cases z with
    | false =>
      have hr : readR (s.data.toList.drop n) = none := by
        rcases HR.out with ⟨q, _⟩ | ⟨_, q, _⟩
        · cases q
        · exact q
      have HT : Aside (T = (xs, n)) := by
        show T = (xs, n)
        have := A.out.2.2
        rw [readA_none hr] at this
        simpa using this
      clear hr A HR OV
      go_wp2
      go_ret2
      exact ⟨ov, by rw [HT.out]; rfl, by rw [HT.out]; exact HV.out.1, HV.out.2⟩
    | true =>
      have hr : readR (s.data.toList.drop n) = some (x, m) := by
        rcases HR.out with ⟨_, q⟩ | ⟨q, _⟩
        · exact q
        · cases q
      have hp := readR_pos hr
      rw [List.length_drop] at hp
      have hsz : s.data.toList.length = s.size := by simp
      rw [hsz] at hp
      have hwr : IntKind.i64.wrap ((n : Int) + (m : Int)) = ((n + m : Nat) : Int) := by rw [IntKind.wrap_i64]; omega
      obtain ⟨nm, hnm⟩ : ∃ nm : Nat, Aside (nm = n + m) := ⟨_, rfl⟩
      rw [← hnm.out] at hwr
      have HT : Aside (T = ((xs ++ [x]) ++ (readL_ (s.data.toList.drop nm)).1, nm + (readL_ (s.data.toList.drop nm)).2) ∧ (xs ++ [x]).length ≤ 20000) := by
        have h1 := A.out.2.2
        rw [readA_some hr, List.drop_drop] at h1
        refine ⟨by rw [h1, hnm.out]; simp; omega, ?_⟩
        have hle := readA_le s.data.toList
        rw [← hT.out, h1] at hle
        simp at hle ⊢
        omega
      obtain ⟨j0, j1, j2, j3, j4, j5, j6, j7, jf⟩ := OV.cells
      clear hr A HR
      go_wp2_with (at_builtin; refine wpList_append_own _ rfl _ _ 36 rfl w.heap.size 31 i0 _ 8 80 Tryz.underlying36 hi0 hz0 hz1 hz2 rfl (by omega) _ _ _ rfl (HV.out.1.alloc _) ⟨V.heap.size, 0, none⟩ 1 1 (encX x) rfl ?qc1 ?qc2 ?qc3 ?qc4 ?qc5 ?qc6 ?_)
      case qc1 => rfl
      case qc2 => first | exact litJ V x | exact fun j u h => h
      case qc3 => exact oneJ x
      case qc4 => simp only [maxLen]; omega
      case qc5 => omega
      case qc6 => have := HV.out.2.size; first | omega | (simp; omega)
      intro v' w4 hown hgrow hnil
      have HN : Aside (w4.ownsRow w.heap.size 31 8 v' (xs ++ [x]).length (cellsOf (xs ++ [x])) ∧ Below w.heap.size w w4) := by
        refine ⟨?_, ?_⟩
        · rw [cells_snoc, List.length_append]
          exact hown
        · exact (HV.out.2.alloc HV.out.2.size _).grown hgrow (by simp; have := HV.out.2.size; omega) (fun k hk => (HV.out.1.lt k hk).1)
      clear hown hgrow hnil j0 j1 j2 j3 j4 j5 j6 j7 jf OV
      go_wp2
      go_roundg (s.size - nm)
      case measure => have := hnm.out; omega
      case rel => exact ⟨nm, xs ++ [x], _, rfl, rfl, by have := hnm.out; omega, Nat.le_refl _, HT.out.2, HN.out.1, HN.out.2, HT.out.1⟩
end Go.Proofs.YtcggmagdndhkbaaGreatDoor
end
section
namespace Go.Proofs.YtcggmagdndhkbaaGreatDoor
open Go.RowKit
def digB (u : Nat) : UInt8 := UInt8.ofNat u
set_option maxRecDepth 100000 in
set_option maxHeartbeats 400000 in
theorem byte_any (u : Nat) (w : World) (h2 : u ≤ 255) :
    Calls Tryz.prog 157 #[.int .i64 (u : Int)] w fun e w' => e = .returned (.string ⟨#[digB u]⟩) ∧ Below w.heap.size w w' := by
  have hcv : (convert 173 9 (.slice (some ⟨w.heap.size, 0, none⟩) 1 1)).run Tryz.prog (w.alloc (.cells #[.int .u8 (u : Int)] 5)) = .ok (.string ⟨#[digB u]⟩) (w.alloc (.cells #[.int .u8 (u : Int)] 5)) := by
    refine run_convert_bytes_back (P := Tryz.prog) _ 173 9 5 ⟨w.heap.size, 0, none⟩ 1 [digB u] Tryz.underlying173 Tryz.underlying5 Tryz.underlying9 ?_
    intro j hj
    have hj0 : j = 0 := by simpa using hj
    subst hj0
    simp [go_sem, Addr.add, digB]
    omega
  go_enter Tryz.func157, Tryz.ntmps157
  go_wp2
  go_ret
  exact ⟨rfl, (Below.refl _ _).alloc (Nat.le_refl _) _⟩
theorem add_texts (x y : List UInt8) (h : x.length + y.length ≤ 9223372036854775807) (w : World) : (Op.stringOp .add ⟨x.toArray⟩ ⟨y.toArray⟩).run Tryz.prog w = .ok (.string ⟨(x ++ y).toArray⟩) w := by
  rw [run_string_add_sum w ⟨x.toArray⟩ ⟨y.toArray⟩ (by simpa [ByteArray.size] using h)]
  congr 2
end Go.Proofs.YtcggmagdndhkbaaGreatDoor
end
section
namespace Go.Proofs.YtcggmagdndhkbaaGreatDoor
open Go.RowKit
theorem decDigits_len (u : Nat) : (Lib.decDigits u).length ≤ u + 1 := by
  induction u using Nat.strongRecOn with
  | ind u ih =>
    by_cases h : u < 10
    · rw [Lib.decDigits, dif_pos h]; simp
    · rw [Lib.decDigits, dif_neg h]
      have := ih (u / 10) (by omega)
      simp; omega
set_option maxHeartbeats 400000 in
theorem below_any (u : Nat) (hu : u ≤ 9223372036854775808) : ∀ (w : World),
    Calls Tryz.prog 154 #[.int .i64 (-(u : Int))] w fun e w' => e = .returned (.string ⟨(Lib.decDigits u).toArray⟩) ∧ Below w.heap.size w w' := by
  induction u using Nat.strongRecOn with
  | ind u ih =>
    intro w
    have IH := Lib.hid ih
    clear ih
    by_cases h : u < 10
    · have hd : decide (-10 < -(u : Int)) = true := by simp; omega
      have HE : Hid (Lib.decDigits u = [digB (48 + u)]) := Lib.hid (by rw [Lib.decDigits, dif_pos h]; rfl)
      go_enter Tryz.func154, Tryz.ntmps154
      go_wp2_with fail
      refine (byte_any (48 + u) w (by omega)).mono ?_
      rintro e w1 ⟨rfl, hb⟩
      go_wp2
      go_ret
      exact ⟨by rw [HE.out]; rfl, hb⟩
    · have hd : decide (-10 < -(u : Int)) = false := by simp; omega
      have HE : Hid (Lib.decDigits u = Lib.decDigits (u / 10) ++ [digB (48 + u % 10)]) := Lib.hid (by rw [Lib.decDigits, dif_neg h]; rfl)
      have hlen := Lib.hid (decDigits_len (u / 10))
      go_enter Tryz.func154, Tryz.ntmps154
      go_wp2_with fail
      refine (IH.out (u / 10) (by omega) (by omega) w).mono ?_
      rintro e w1 ⟨rfl, hb1⟩
      go_wp2_with fail
      refine (byte_any (48 + u % 10) w1 (by omega)).mono ?_
      rintro e w2 ⟨rfl, hb2⟩
      have B2 : Below w.heap.size w w2 := hb1.trans (hb2.mono hb1.size)
      have hadd := add_texts (Lib.decDigits (u / 10)) [digB (48 + u % 10)] (by have := hlen.out; simp; omega)
      clear hb1 hb2
      go_wp2
      go_ret
      exact ⟨by rw [HE.out]; rfl, B2⟩
theorem itoa_neg' (n : Int) (h : n < 0) : Lib.itoa n = 45 :: Lib.decDigits n.natAbs := by rw [Lib.itoa, if_pos h]
theorem itoa_pos' (n : Int) (h : 0 ≤ n) : Lib.itoa n = Lib.decDigits n.natAbs := by
  rw [Lib.itoa, if_neg (by omega)]
  congr 1
  omega
set_option maxHeartbeats 400000 in
theorem decimal_any (n : Int) (w : World) (h0 : -9223372036854775808 ≤ n) (h1 : n ≤ 9223372036854775807) :
    Calls Tryz.prog 90 #[.int .i64 n] w fun e w' => e = .returned (.string ⟨(Lib.itoa n).toArray⟩) ∧ Below w.heap.size w w' := by
  by_cases h : n < 0
  · obtain ⟨u, rfl⟩ : ∃ u : Nat, n = -(u : Int) := ⟨n.natAbs, by omega⟩
    have HE : Hid (Lib.itoa (-(u : Int)) = 45 :: Lib.decDigits u) := Lib.hid (by rw [itoa_neg' _ h]; simp)
    have hd : decide (-(u : Int) < 0) = true := by simpa using h
    have hadd := add_texts [45] (Lib.decDigits u) (by
      have := Lib.itoa_length_le _ h0 h1
      rw [HE.out] at this
      simp at this ⊢
      omega)
    go_enter Tryz.func90, Tryz.ntmps90
    go_wp2_with fail
    refine (below_any u (by omega) w).mono ?_
    rintro e w1 ⟨rfl, hb⟩
    go_wp2
    go_ret
    exact ⟨by rw [HE.out]; rfl, hb⟩
  · obtain ⟨u, rfl⟩ : ∃ u : Nat, n = (u : Int) := ⟨n.natAbs, by omega⟩
    have HE : Hid (Lib.itoa (u : Int) = Lib.decDigits u) := Lib.hid (by rw [itoa_pos' _ (by omega)]; simp)
    have hd : decide ((u : Int) < 0) = false := by simp
    go_enter Tryz.func90, Tryz.ntmps90
    go_wp2_with fail
    refine (below_any u (by omega) w).mono ?_
    rintro e w1 ⟨rfl, hb⟩
    go_wp2
    go_ret
    exact ⟨by rw [HE.out]; rfl, hb⟩
end Go.Proofs.YtcggmagdndhkbaaGreatDoor
end
