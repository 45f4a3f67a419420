import Derived.Test.YtehighgebbdenaaGreatDoorVp05
import Derived.Test.YtehighgebbdenaaGreatDoorVp06
import Derived.Test.YtehighgebbdenaaGreatDoorVp30
import Derived.Shelf.SlicesE.Clone
import Derived.OrdersHeld
import Derived.WalkKit
import Derived.BigQuiet
import Derived.Deep.Cut
import Derived.Deep.CutRange
import Derived.Deep.DeepCutAuto
section
set_option linter.unusedVariables false
set_option linter.unusedSimpArgs false
namespace Go.Proofs.YtehighgebbdenaaGreatDoor
open Go.RowKit Go.Lib Go.Sort Go.Maps
abbrev zeroPV : Value := .agg #[.int .i64 0, .int .i64 0, .string ⟨#[]⟩]
theorem zeroP_size : zeroPV.cells.size = 3 := rfl
def zeroRowP (n : Nat) : List Value := (Builtin.zeroCells zeroPV.cells n).toList
theorem zeroP_one (n : Nat) : ∀ v ∈ (Builtin.zeroCells zeroPV.cells n).toList, v.oneCell' = true := by
  intro v hv
  unfold Builtin.zeroCells at hv
  rw [Array.toList_map, List.mem_map] at hv
  obtain ⟨a, _, rfl⟩ := hv
  rw [zeroP_size]
  have h8 : a % 3 < 3 := Nat.mod_lt _ (by omega)
  have key : ∀ q, q < 3 → (zeroPV.cells[q]!).oneCell' = true := fun q hq => by
    match q, hq with
    | 0, _ => rfl
    | 1, _ => rfl
    | 2, _ => rfl
  exact key _ h8
structure ThreeW (w : World) (g a : Nat) (x : Plc) : Prop where
  c0 : w.cell? ⟨g, a, none⟩ = some (.int .i64 x.1)
  c1 : w.cell? ⟨g, a + 1, none⟩ = some (.int .i64 x.2.1)
  c2 : w.cell? ⟨g, a + 2, none⟩ = some (.string x.2.2)
  f0 : w.frozen? ⟨g, a, none⟩ = false
  f1 : w.frozen? ⟨g, a + 1, none⟩ = false
  f2 : w.frozen? ⟨g, a + 2, none⟩ = false
theorem OwnP.three {w : World} {g : Nat} {cs : List Plc} (h : OwnP w g cs) {i : Nat} {x : Plc} (hi : cs[i]? = some x) : ThreeW w g (i * 3) x := by
  have hl : i < cs.length := (List.getElem?_eq_some_iff.1 hi).1
  have e0 := h.at hi (c := 0) rfl
  rw [Nat.add_zero] at e0
  exact ⟨e0, h.at hi (c := 1) rfl, h.at hi (c := 2) rfl, h.free _ (by omega), h.free _ (by omega), h.free _ (by omega)⟩
theorem set3 (w : World) (g a : Nat) (n i : Int) (s : ByteArray) : (((w.setCell ⟨g, a, none⟩ (.int .i64 n)).setCell ⟨g, a + 1, none⟩ (.int .i64 i)).setCell ⟨g, a + 2, none⟩ (.string s)) = w.setCells g a (cellsP (n, i, s)) := rfl
def DelOutP (w : World) (g cap base : Nat) (zs : List Plc) (e : Ending) (w' : World) : Prop := e = .returned (.slice (some ⟨g, 0, none⟩) zs.length cap) ∧ OwnP w' g zs ∧ Below base w w'
set_option maxRecDepth 100000 in
set_option maxHeartbeats 8000000 in
theorem delPl_any (p : Plc → Bool) (gf : Nat) (lb : Array Value) (eg : ∀ args w, (callFunc gf args).run Tryz.prog w = .ok (.enter gf args) w) (g cap base : Nat) (ys : List Plc) (w : World) (hbg : base ≤ g) (hbw : base ≤ w.heap.size) (hgw : g < w.heap.size) (hp : PredP gf lb ys p base w) (hn : ys.length ≤ 1000) (hc1 : ys.length ≤ cap) (hc2 : cap ≤ maxLen) (hO : OwnP w g ys) :
    Calls Tryz.prog 154 #[.slice (some ⟨g, 0, none⟩) ys.length cap, .func (.func gf) #[] lb] w (DelOutP w g cap base (ys.filter (fun x => !p x))) := by
  have hidx := idxPl_any p gf lb eg (some ⟨g, 0, none⟩) cap base ys w hbw hp (by omega) hO.ins
  have H : Aside (PredP gf lb ys p base w ∧ OwnP w g ys ∧ base ≤ g ∧ base ≤ w.heap.size ∧ g < w.heap.size) := ⟨hp, hO, hbg, hbw, hgw⟩
  clear hp hO hbg hbw hgw
  have hc63 : (cap : Int) ≤ 9223372036854775807 := by simp only [maxLen] at hc2; omega
  clear hc2
  go_enter Tryz.func154, Tryz.ntmps154
  go_wp2_with fail
  refine hidx.mono ?_
  clear hidx
  rintro e w1 ⟨r, rfl, HR⟩
  rcases HR.out.1 with ⟨hr, ha⟩ | ⟨k, x, hr, hx, hpx, hfst⟩
  · subst hr
    have HF : Aside (ys.filter (fun x => !p x) = ys) := List.filter_eq_self.2 (fun a h => by rw [ha a h]; rfl)
    clear ha
    go_wp2
    go_ret
    unfold DelOutP
    rw [HF.out]
    exact ⟨rfl, H.out.2.1.same (HR.out.2.block g H.out.2.2.2.2), HR.out.2.mono H.out.2.2.2.1⟩
  · have hkl : k < ys.length := (List.getElem?_eq_some_iff.1 hx).1
    have d0 : decide (((k : Nat) : Int) = -1) = false := by simp
    have H1 : Aside (DelP p ys k (k + 1) ys ∧ OwnP w1 g ys ∧ Below base w w1) := ⟨DelP.start hx hpx hfst, H.out.2.1.same (HR.out.2.block g H.out.2.2.2.2), HR.out.2.mono H.out.2.2.2.1⟩
    subst hr
    clear hx hpx hfst HR
    go_wp2
    go_loopg [5, 6] ys.length (fun kx s5 s6 wr => ∃ (i j : Nat) (cs : List Plc), s5 = .int .i64 (i : Int) ∧ s6 = .int .i64 (j : Int) ∧ ys.length - j ≤ kx ∧ Aside (DelP p ys i j cs ∧ OwnP wr g cs ∧ Below base w wr))
    case atStart => exact ⟨k, k + 1, ys, rfl, by simp, by omega, H1.out⟩
    case round =>
      obtain ⟨i, j, cs, rfl, rfl, hkx, A⟩ := hrel
      have hij := A.out.1.lt
      have hjl := A.out.1.le
      have hcl := A.out.1.len
      by_cases hlt : j < ys.length
      · have hltz : decide ((j : Int) < (ys.length : Int)) = true := by simp; omega
        have hgw : g < wr.heap.size := Nat.lt_of_lt_of_le H.out.2.2.2.2 A.out.2.2.size
        have hbr := A.out.2.2.size
        have hbw := H.out.2.2.2.1
        have ej : ((j : Int)).toNat = j := by omega
        have pj : (0 : Int) ≤ (j : Int) := by omega
        have bj : (j : Int) < (ys.length : Int) := by omega
        obtain ⟨⟨nd, i_, s⟩, hl⟩ : ∃ l, Aside (ys[j]? = some l) := ⟨ys[j], List.getElem?_eq_getElem hlt⟩
        obtain ⟨r0, r1, r2, -, -, -⟩ := A.out.2.1.three (A.out.1.get hl.out)
        dsimp only at r0 r1 r2
        have hbW : Below wr.heap.size wr (wr.alloc (.cells #[.int .i64 nd, .int .i64 i_, .string s] 106)) := (Below.refl _ wr).alloc (Nat.le_refl _) _
        have hBW : Below base w (wr.alloc (.cells #[.int .i64 nd, .int .i64 i_, .string s] 106)) := A.out.2.2.trans (hbW.mono (by omega))
        have hcall := H.out.1 _ (nd, i_, s) (List.mem_of_getElem? hl.out) hBW
        have HW : Aside (PlcAt (wr.alloc (.cells #[.int .i64 nd, .int .i64 i_, .string s] 106)) wr.heap.size (nd, i_, s) ∧ OwnP (wr.alloc (.cells #[.int .i64 nd, .int .i64 i_, .string s] 106)) g cs ∧ Below base w (wr.alloc (.cells #[.int .i64 nd, .int .i64 i_, .string s] 106)) ∧ g < wr.heap.size) := ⟨heap_alloc_new wr _, A.out.2.1.same (hbW.block g hgw), hBW, hgw⟩
        clear hbW hBW
        unfold encP at hcall
        dsimp only at hcall
        cases hq : p (nd, i_, s) with
        | true =>
          rw [hq] at hcall
          have HQ := Lib.hid hq
          clear hq
          go_wp2_with (go_at_fn gf; refine hcall.mono ?_; rintro e w' ⟨rfl, hb'⟩)
          go_roundg (ys.length - (j + 1))
          case measure => omega
          case rel =>
            have hsz : (wr.alloc (.cells #[.int .i64 nd, .int .i64 i_, .string s] 106)).heap.size = wr.heap.size + 1 := by simp
            exact ⟨i, j + 1, cs, rfl, by go_num, Nat.le_refl _, ⟨A.out.1.skip hl.out HQ.out, HW.out.2.1.same (hb'.block g (by omega)), HW.out.2.2.1.trans (hb'.mono (by omega))⟩⟩
        | false =>
          rw [hq] at hcall
          have HQ := Lib.hid hq
          clear hq
          have ei : ((i : Int)).toNat = i := by omega
          have pi : (0 : Int) ≤ (i : Int) := by omega
          have bi : (i : Int) < (ys.length : Int) := by omega
          obtain ⟨z, hz⟩ : ∃ z, Aside (cs[i]? = some z) := ⟨cs[i], List.getElem?_eq_getElem (by omega)⟩
          go_wp2_with (go_at_fn gf; refine hcall.mono ?_; rintro e w' ⟨rfl, hb'⟩; have q0 := (HW.out.1.same (hb'.block _ HW.out.1.lt)).c0; have q1 := (HW.out.1.same (hb'.block _ HW.out.1.lt)).c1; have q2 := (HW.out.1.same (hb'.block _ HW.out.1.lt)).c2; dsimp only at q0 q1 q2; obtain ⟨y0, y1, y2, f0, f1, f2⟩ := (HW.out.2.1.same (hb'.block g (by rw [World.size_alloc]; omega))).three hz.out)
          have hsz : (wr.alloc (.cells #[.int .i64 nd, .int .i64 i_, .string s] 106)).heap.size = wr.heap.size + 1 := by simp
          have HE : Aside (OwnP w' g cs ∧ Below base w w') := ⟨HW.out.2.1.same (hb'.block g (by omega)), HW.out.2.2.1.trans (hb'.mono (by omega))⟩
          clear hsz hb' q0 q1 q2 y0 y1 y2 f0 f1 f2 r0 r1 r2 hcall
          go_roundg (ys.length - (j + 1))
          case measure => omega
          case rel =>
            rw [set3 w' g (i * 3) nd i_ s]
            refine ⟨i + 1, j + 1, cs.set i (nd, i_, s), ?_, ?_, Nat.le_refl _, ?_⟩
            · go_num
            · go_num
            · exact ⟨A.out.1.keep hl.out HQ.out, HE.out.1.set (by omega) (nd, i_, s), HE.out.2.trans ((setCells_keeps g (cellsP (nd, i_, s)) (i * 3) w').below (Nat.le_trans H.out.2.2.2.1 HE.out.2.size) (fun k e => by have := H.out.2.2.1; omega))⟩
      · have hltz : decide ((j : Int) < (ys.length : Int)) = false := by simp; omega
        have hltn : decide (j < ys.length) = false := by simp; omega
        have hgw : g < wr.heap.size := Nat.lt_of_lt_of_le H.out.2.2.2.2 A.out.2.2.size
        have ei : ((i : Int)).toNat = i := by omega
        have pi : (0 : Int) ≤ (i : Int) := by omega
        have bi : (i : Int) ≤ (ys.length : Int) := by omega
        have bi2 : (i : Int) ≤ (cap : Int) := by omega
        have bl : (ys.length : Int) ≤ (cap : Int) := by omega
        have hclear : ∀ ty, (Builtin.clear_ #[103] ty #[.slice (some ⟨g, i * 3, none⟩) (ys.length - i) (cap - i)]).run Tryz.prog wr = .ok (.tuple #[]) (wr.setCells g (i * 3) (zeroRowP (ys.length - i))) := fun ty => run_clear_cells (P := Tryz.prog) wr 103 106 ty _ Tryz.underlying103 Tryz.zeroValue106 g (i * 3) (ys.length - i) (cap - i) (by omega) (zeroP_one _) (fun q hq => A.out.2.1.has (by rw [zeroP_size] at hq; omega)) (fun q hq => A.out.2.1.free _ (by rw [zeroP_size] at hq; omega))
        go_wp2
        go_ret
        have st := A.out.1.stay
        have ejl : j = ys.length := by omega
        rw [ejl, List.take_length] at st
        have hil : (cs.take i).length = i := by rw [List.length_take]; omega
        unfold DelOutP
        rw [← st, hil]
        exact ⟨rfl, A.out.2.1.take (by omega) _, A.out.2.2.trans ((setCells_keeps g (zeroRowP (ys.length - i)) (i * 3) wr).below (Nat.le_trans H.out.2.2.2.1 A.out.2.2.size) (fun k e => by have := H.out.2.2.1; omega))⟩
end Go.Proofs.YtehighgebbdenaaGreatDoor
end
section
set_option linter.unusedVariables false
set_option linter.unusedSimpArgs false
namespace Go.Proofs.YtehighgebbdenaaGreatDoor
open Go.Shelf Go.RowKit Go.Lib Go.Sort
theorem OwnP.holds {w : World} {g : Nat} {ps : List Plc} (h : OwnP w g ps) : HoldsK cellsP 3 w g 0 ps.toArray := fun j hj => by
  rw [size_flatK] at hj
  simp only [List.size_toArray] at hj
  have h1 : j / 3 < ps.length := by omega
  have h2 : j / 3 * 3 + j % 3 = j := by omega
  refine ⟨?_, by rw [Nat.zero_add]; exact h.free j (by omega)⟩
  rw [Nat.zero_add, get_flatK _ _ _ _ (by simpa using hj)]
  have := flat_get (enc := cellsP) cellsP_len (L := ps) (i := j / 3) (c := j % 3) (x := ps[j / 3]) (List.getElem?_eq_getElem h1) (by omega)
  rw [h2] at this
  rw [getElem!_pos ps.toArray (j / 3) (by simpa using h1), List.getElem_toArray, getElem!_pos _ (j % 3) (by rw [cellsP_len]; omega)]
  refine h.cell j _ ?_
  rw [this, List.getElem?_eq_getElem (by rw [cellsP_len]; omega)]
  rfl
theorem sortEnt (w : World) (g cap : Nat) (ps : List Plc) (hown : OwnP w g ps) (hblk : g < w.heap.size) (hl : ps.length ≤ 100000) :
    Calls Tryz.prog 157 #[.slice (some ⟨g, 0, none⟩) ps.length cap, .func (.func 158) #[] #[]] w fun e w' => e = .returned (.tuple #[]) ∧ ∃ qs : List Plc, qs.Perm ps ∧ qs.Pairwise (fun a b => ¬ NLt (keyE b) (keyE a)) ∧ (∀ j u, (flat cellsP qs)[j]? = some u → w'.cell? ⟨g, j, none⟩ = some u) ∧ Keeps (fun k => k = g) w w' := by
  have hH := hown.holds
  have h := AnyQ.slices_SortFunc sortLays 3 Tryz.isAgg106 Tryz.sizeOf106 cellsP cellsP_len cellsP_one cmpE swo_cmpE 158 #[] g 0 cap ps.toArray w eg_cmpE (cmp_laysE g 0 ps.toArray.size w) hH hblk (by simp; omega)
  refine Calls.mono h ?_
  rintro e w' ⟨rfl, d', n, os, hp, hs, rfl⟩
  simp only [List.size_toArray] at hp hs
  have hsz : d'.size = ps.length := by have := hp.1; simpa using this
  have hperm : d'.toList.Perm ps := by
    have := hp.2.2
    simp only [Array.toList_extract] at this
    rw [List.extract_eq_take_drop, List.extract_eq_take_drop, List.drop_zero, List.drop_zero, Nat.sub_zero, List.take_of_length_le (by simp [hsz]), List.take_of_length_le (by simp)] at this
    exact this
  refine ⟨rfl, d'.toList, hperm, ?_, ?_, sortWorld_keeps w g n d' os⟩
  · rw [List.pairwise_iff_getElem]
    intro i j hi hj hij
    have hi' : i < d'.size := by simpa using hi
    have hj' : j < d'.size := by simpa using hj
    have hq := hs i j (Nat.zero_le _) hij (by omega)
    letI : Decidable (NLt (keyE (d'[j]!)) (keyE (d'[i]!))) := Classical.propDecidable _
    rw [ltOf_cmpE] at hq
    have := of_decide_eq_false hq
    rw [getElem!_pos d' i hi', getElem!_pos d' j hj'] at this
    simpa using this
  · exact holds_cells ((show SWK cellsP 3 w g 0 d' _ from ⟨n, os, rfl⟩).holds hblk hH (by rw [hsz]; simp))
def cloneRenP : Ren := ⟨fun | 41 => 155 | n => n, fun | 4 => 4 | 22 => 103 | 23 => 106 | n => n, fun n => n⟩
theorem cloneP_lays : SlLaysE0.n41 Tryz.prog cloneRenP where
  mixed := by kernel_rfl
  f41 := ⟨ "slices.Clone[[]concordat/tree.Place,concordat/tree.Place]", by kernel_rfl, Tryz.func155.trans (congrArg some (by kernel_rfl))⟩
  t4 := Tryz.underlying4
  a4 := Tryz.isAgg4
  z4 := Tryz.sizeOf4
  v4 := Tryz.zeroValue4
  t22 := Tryz.underlying103
  a22 := Tryz.isAgg103
  z22 := Tryz.sizeOf103
  v22 := Tryz.zeroValue103
theorem ownP_of {w : World} {base : Nat} {v : Value} {ps : List Plc} (h : w.ownsRow base 106 3 v ps.length (flat cellsP ps)) (hv : v ≠ .slice none 0 0) : ∃ g cap, v = .slice (some ⟨g, 0, none⟩) ps.length cap ∧ OwnP w g ps ∧ base ≤ g ∧ g < w.heap.size ∧ ps.length ≤ cap ∧ cap ≤ maxLen := by
  have h2 := h.2
  rcases h2 with ⟨h0, _⟩ | ⟨g, cap, cur, rfl, hbg, hgb, hnc, hcm, hcs, htake⟩
  · exact absurd h0 hv
  · refine ⟨g, cap, rfl, ⟨fun j u hj => ?_, fun j _ => h.frozenAt j⟩, hbg, (h.lt g rfl).2, hnc, hcm⟩
    have hl := (List.getElem?_eq_some_iff.1 hj).1
    rw [plen] at hl
    rw [h.cellAt j (by omega)]
    exact hj
def CloneOut (w : World) (qs : List Plc) (e : Ending) (w' : World) : Prop := (∃ ao cap, qs = [] ∧ e = .returned (.slice ao 0 cap) ∧ w' = w) ∨ ∃ g cap, e = .returned (.slice (some ⟨g, 0, none⟩) qs.length cap) ∧ Aside (OwnP w' g qs ∧ w.heap.size ≤ g ∧ g < w'.heap.size ∧ qs.length ≤ cap ∧ cap ≤ maxLen ∧ Below w.heap.size w w')
theorem clonePl (w : World) (v : Value) (qs : List Plc) (hn : qs.length ≤ 1000) (h : PlsAt w v qs) :
    Calls Tryz.prog 155 #[v] w (CloneOut w qs) := by
  rcases h with ⟨h, e⟩ | ⟨g, cap, h, hg, hc⟩
  · rw [h]
    refine (AnyE.slices_Clone_nil cloneP_lays 0 0 w).mono ?_
    rintro e' w' ⟨rfl, rfl⟩
    exact .inl ⟨none, 0, e, rfl, rfl⟩
  · rw [h]
    obtain ⟨i0, hi, hz0, hz1, hz2⟩ := info_parts infoPl
    have k := AnyE.slices_Clone cloneP_lays i0 _ 3 32 hi hz0 hz1 hz2 rfl (by omega) Tryz.sizeOf106 g 0 qs.length cap (flat cellsP qs) w (plen qs) (by simp only [maxLen]; omega) (by omega) (fun j u hj => by rw [Nat.zero_add]; exact hc j u hj) (flat_one cellsP_one qs)
    refine Calls.mono k ?_
    rintro e' w' ⟨v', rfl, hown, hne, hb⟩
    obtain ⟨g', cap', rfl, hO, h1, h2, h3, h4⟩ := ownP_of hown hne
    exact .inr ⟨g', cap', rfl, hO, h1, h2, h3, h4, hb⟩
theorem delPl_none (gf : Nat) (lb : Array Value) (eg : ∀ args w, (callFunc gf args).run Tryz.prog w = .ok (.enter gf args) w) (ao : Option Addr) (cap : Nat) (w : World) :
    Calls Tryz.prog 154 #[.slice ao 0 cap, .func (.func gf) #[] lb] w fun e w' => e = .returned (.slice ao 0 cap) ∧ Below w.heap.size w w' := by
  have hidx := idxPl_any (fun _ => false) gf lb eg ao cap w.heap.size [] w (Nat.le_refl _) (fun W x hx => by simp at hx) (by simp) (.inl rfl)
  go_enter Tryz.func154, Tryz.ntmps154
  go_wp2_with fail
  refine hidx.mono ?_
  clear hidx
  rintro e w1 ⟨r, rfl, HR⟩
  rcases HR.out.1 with ⟨hr, _⟩ | ⟨k, x, hr, hx, _⟩
  · subst hr
    go_wp2
    go_ret
    exact ⟨rfl, HR.out.2⟩
  · simp at hx
theorem other_any (W : World) (B : Nat) (i : Int) (q : Plc) (hB : W.cell? ⟨B, 0, none⟩ = some (.int .i64 i)) :
    Calls Tryz.prog 156 (#[encP q] ++ #[.pointer (some ⟨B, 0, none⟩)]) W fun e w' => e = .returned (.bool (q.2.1 != i)) ∧ Below W.heap.size W w' := by
  obtain ⟨n, j, s⟩ := q
  have hlt := World.block_lt_of_cell? W ⟨B, 0, none⟩ hB
  have g0 := fun o => cellKept ((Below.refl _ W).alloc (Nat.le_refl _) o) hB
  clear hB
  unfold encP
  dsimp only at hlt ⊢
  go_enter Tryz.func156, Tryz.ntmps156
  go_wp2
  go_ret
  exact ⟨rfl, (Below.refl _ W).alloc (Nat.le_refl _) _⟩
end Go.Proofs.YtehighgebbdenaaGreatDoor
end
section
namespace Go.Proofs.YtehighgebbdenaaGreatDoor
open Go.RowKit
section
variable {P : Program} {ops : Array Oper} {Q : Exit → Act → World → Prop} {md : Region.Mode} {S : World → Prop}
theorem tk (i : Nat) {oi : Oper} {v : Value} {fuel : Nat} {listed : Array Bool} {a : Act} {w : World} {q : Prop} (hS : S w) (h : q)
    (hi : ops[i]? = some oi := by rfl) (hs : Region.noSelect ops = true := by kernel_rfl) (hf : Region.free md ops listed i = true := by kernel_rfl) (hr : (Region.ready md ops listed).contains i = true := by kernel_rfl)
    (hQ : ∀ c a w, Q (.panic c) (a.put oi.dst v) w → Q (.panic c) a w := by exact fun _ _ _ h => h)
    (hy : YieldsIf P ops S oi v a := by refine Or.inl ⟨by rfl, ?_⟩; intro w' hSw; clear hSw; go_simp; try with_reducible rfl)
    (hq : wpAnyH P md ops Q S fuel (listed.setIfInBounds i true) (a.put oi.dst v) w = q := by (try simp only [List.getElem_toArray, List.getElem_cons_succ, List.getElem_cons_zero, Act.put, List.setIfInBounds_toArray, List.set_cons_zero, List.set_cons_succ]) <;> rfl) : wpAnyH P md ops Q S (fuel + 1) listed a w :=
  wpAnyH_take hi hs hf hr hQ hy hS (hq ▸ h)
end
theorem qn {p q : Prop} (h : q) (e : p = q := by (try simp only [List.getElem_toArray, List.getElem_cons_succ, List.getElem_cons_zero, Act.put, List.setIfInBounds_toArray, List.set_cons_zero, List.set_cons_succ]) <;> rfl) : p := e ▸ h
end Go.Proofs.YtehighgebbdenaaGreatDoor
end
section
set_option linter.unusedVariables false
set_option linter.unusedSimpArgs false
namespace Go.Proofs.YtehighgebbdenaaGreatDoor
open Go.Shelf Go.RowKit Go.Lib Go.Sort
abbrev Enx := ByteArray × Int
def encEn (e : Enx) : List Value := [.string e.1, .int .i64 e.2]
theorem encEn_len (x : Enx) : (encEn x).length = 2 := rfl
theorem encEn_one (x : Enx) : ∀ v ∈ encEn x, v.oneCell' = true := by
  intro v hv
  simp only [encEn, List.mem_cons, List.not_mem_nil, or_false] at hv
  rcases hv with rfl | rfl <;> rfl
theorem infoEn : (Tryz.prog.info? 86).map (fun i => (i.zero, i.size, i.bytes)) = some (some (.agg #[.string ⟨#[]⟩, .int .i64 0]), 2, 24) := by kernel_rfl
def EnsAt (w : World) (v : Value) (es : List Enx) : Prop := (v = .slice none 0 0 ∧ es = []) ∨ ∃ g cap, v = .slice (some ⟨g, 0, none⟩) es.length cap ∧ g < w.heap.size ∧ ∀ j u, (flat encEn es)[j]? = some u → w.cell? ⟨g, j, none⟩ = some u
def IsEnt (qs : List Plc) (i : Int) (es : List Enx) : Prop := ∃ R : List Plc, R.Perm (qs.filter (fun p => !(p.2.1 != i))) ∧ R.Pairwise (fun a b => ¬ NLt (keyE b) (keyE a)) ∧ es = R.map (fun p => (nmB qs p, p.1))
def FineQ (p : Plc) : Prop := 0 ≤ p.1 ∧ p.1 < 2 ^ 62 ∧ p.2.2.size ≤ 60
structure EntSt (w : World) (g B : Nat) (R : List Plc) (es : List Enx) (v : Value) (wr : World) : Prop where
  below : Below w.heap.size w wr
  size : B ≤ wr.heap.size
  cells : ∀ j u, (flat cellsP R)[j]? = some u → wr.cell? ⟨g, j, none⟩ = some u
  row : wr.ownsRow B 86 2 v es.length (flat encEn es)
theorem EntSt.in_ {w : World} {g B : Nat} {R : List Plc} {es : List Enx} {v : Value} {wr : World} (h : EntSt w g B R es v wr) : PlsIn wr (some ⟨g, 0, none⟩) R := .inr ⟨g, 0, rfl, fun j u hj => by rw [Nat.zero_add]; exact h.cells j u hj⟩
theorem ent_close {w : World} {g B : Nat} {R : List Plc} {es : List Enx} {v : Value} {wr : World} (h : EntSt w g B R es v wr) (hg : g < B) (hw : w.heap.size ≤ B) {w1 : World} (hb : Below wr.heap.size wr w1) (e : Enx) (hn : es.length ≤ 1000) (ty : TypeId) :
    ∃ v' w3, (Builtin.append_ #[81, 81] ty #[v, .slice (some ⟨w1.heap.size, 0, none⟩) 1 1]).run Tryz.prog (w1.alloc (.cells (encEn e).toArray 86)) = .ok v' w3 ∧ Aside (EntSt w g B R (es ++ [e]) v' w3 ∧ ∀ k, k < w1.heap.size → v.ownBlock ≠ some k → w3.heap[k]? = w1.heap[k]?) := by
  have hrow : (w1.alloc (.cells (encEn e).toArray 86)).ownsRow B 86 2 v es.length (flat encEn es) := by
    refine owns_same h.row (fun q hq => ?_)
    have := (h.row.lt q hq).2
    rw [Below.heap_alloc _ _ _ (by have := hb.size; omega), hb.block q this]
  have hin : InRow encEn (w1.alloc (.cells (encEn e).toArray 86)) (some ⟨w1.heap.size, 0, none⟩) [e] := by
    refine .inr ⟨w1.heap.size, 0, rfl, fun j u hj => ?_⟩
    have hn := heap_alloc_new w1 (.cells (encEn e).toArray 86)
    have hl := (List.getElem?_eq_some_iff.1 hj).1
    rw [flat_len encEn_len] at hl
    simp only [flat, List.flatMap_cons, List.flatMap_nil, List.append_nil] at hj
    simp only [World.cell?, Nat.zero_add]
    rw [hn]
    simpa using hj
  obtain ⟨v', w3, hrun, hown, hgr⟩ := append_row (enc := encEn) (k := 2) (S := 81) (T := 86) Tryz.underlying81 infoEn (by omega) (by omega) rfl encEn_len encEn_one hrow (by omega) (by rw [World.size_alloc]; have := hb.size; have := h.size; omega) (some ⟨w1.heap.size, 0, none⟩) 1 [e] (by simp) hin (fun q => by cases q) ty
  have hbw : Below wr.heap.size wr (w1.alloc (.cells (encEn e).toArray 86)) := hb.alloc hb.size _
  have hkeep : ∀ k, k < w1.heap.size → v.ownBlock ≠ some k → w3.heap[k]? = w1.heap[k]? := fun k hk hne => by
    rw [hgr.block k (by rw [World.size_alloc]; omega) (fun q => hne q.symm), Below.heap_alloc _ _ _ hk]
  refine ⟨v', w3, hrun, ⟨⟨?_, ?_, ?_, ?_⟩, hkeep⟩⟩
  · exact (h.below.trans (hbw.mono h.below.size)).grown hgr (by have := h.below.size; have := hbw.size; omega) (fun k hk => by have := (h.row.lt k hk).1; omega)
  · have := hgr.size; have := hbw.size; have := h.size; omega
  · intro j u hj
    have hc := h.cells j u hj
    have hlt := World.block_lt_of_cell? wr ⟨g, j, none⟩ hc
    dsimp only at hlt
    have e1 : w3.heap[g]? = wr.heap[g]? := by
      rw [hkeep g (by have := hb.size; omega) (fun q => by have := (h.row.lt g q).1; omega), hb.block g hlt]
    simp only [World.cell?] at hc ⊢
    rw [e1]
    exact hc
  · rw [List.length_append, flat_append]
    exact hown
end Go.Proofs.YtehighgebbdenaaGreatDoor
end
section
set_option linter.unusedVariables false
set_option linter.unusedSimpArgs false
namespace Go.Proofs.YtehighgebbdenaaGreatDoor
open Go.Shelf Go.RowKit Go.Lib Go.Sort
def EntOut (w : World) (qs : List Plc) (i : Int) (e : Ending) (w' : World) : Prop := ∃ v' es, e = .returned v' ∧ Aside (EnsAt w' v' es ∧ IsEnt qs i es ∧ Below w.heap.size w w')
set_option maxRecDepth 100000 in
set_option maxHeartbeats 8000000 in
theorem entries_any (w : World) (v : Value) (qs : List Plc) (i : Int) (hin : PlsAt w v qs) (hl : qs.length ≤ 300) (hf : ∀ p ∈ qs, FineQ p) (htab : Lib.TabIs Tryz.prog w "internal/strconv.uint64pow10" .u64 Lib.pow10Tab) :
    Calls Tryz.prog 88 #[v, .int .i64 i] w (EntOut w qs i) := by
  obtain ⟨ao, cap, rfl, hP⟩ := hin.isIn
  obtain ⟨S, hS⟩ : ∃ S, S = w.heap.size := ⟨_, rfl⟩
  obtain ⟨U, hU⟩ : ∃ U, U = w.alloc (.cells #[.int .i64 i] 3) := ⟨_, rfl⟩
  have hUb : Below w.heap.size w U := by rw [hU]; exact (Below.refl _ w).alloc (Nat.le_refl _) _
  have hUs : U.heap.size = S + 1 := by rw [hU, hS, World.size_alloc]
  have hUc : U.cell? ⟨S, 0, none⟩ = some (.int .i64 i) := by rw [hU, hS]; simp [go_sem]
  have HT : Aside (Lib.TabBelow Tryz.prog w.heap.size w "internal/strconv.uint64pow10" .u64 Lib.pow10Tab) := Lib.tabBelow_of_tabIs htab
  have hclone := clonePl U (.slice ao qs.length cap) qs (by omega) (hin.later hUb)
  have H : Aside (PlsIn w ao qs ∧ (∀ p ∈ qs, FineQ p) ∧ Below w.heap.size w U ∧ U.heap.size = S + 1 ∧ S = w.heap.size ∧ U.cell? ⟨S, 0, none⟩ = some (.int .i64 i)) := ⟨hP, hf, hUb, hUs, hS, hUc⟩
  clear hin hf htab hP hUb hUs hUc
  have eg : ∀ args w, (callFunc 156 args).run Tryz.prog w = .ok (.enter 156 args) w := enters_of Tryz.func156 (by kernel_rfl) rfl
  go_enter Tryz.func88, Tryz.ntmps88
  go_wp2_with fail
  rw [← hS, ← hU]
  clear hS hU
  refine hclone.mono ?_
  clear hclone
  rintro e w1 (⟨ao', cap', hq, rfl, rfl⟩ | ⟨g, cap', rfl, HO⟩)
  · subst hq
    have hd := delPl_none 156 #[.pointer (some ⟨S, 0, none⟩)] eg ao' cap' w1
    clear eg
    go_wp2_with fail
    refine hd.mono ?_
    clear hd
    rintro e w2 ⟨rfl, hb2⟩
    have HB : Aside (Below w.heap.size w w2) := H.out.2.2.1.trans (hb2.mono H.out.2.2.1.size)
    clear hb2
    have hs := fun fv => sortPl_none ao' cap' fv w2
    go_wp2_with fail
    refine (hs _).mono ?_
    clear hs
    rintro e w3 ⟨rfl, rfl⟩
    go_wp2
    refine wp_loop_rounds 1 ?_
    rw [rounds_succ]
    go_wp2
    go_ret
    exact ⟨_, [], rfl, .inl ⟨rfl, rfl⟩, ⟨[], List.Perm.refl _, List.Pairwise.nil, rfl⟩, HB.out⟩
  · have hd := delPl_any (fun p => p.2.1 != i) 156 #[.pointer (some ⟨S, 0, none⟩)] eg g cap' U.heap.size qs w1 HO.out.2.1 HO.out.2.2.2.2.2.size HO.out.2.2.1 (fun W x _ hW => other_any W S i x ((hW.cell (p := ⟨S, 0, none⟩) (by have := H.out.2.2.2.1; show S < U.heap.size; omega)).trans ((HO.out.2.2.2.2.2.cell (p := ⟨S, 0, none⟩) (by have := H.out.2.2.2.1; show S < U.heap.size; omega)).trans H.out.2.2.2.2.2))) (by omega) HO.out.2.2.2.1 HO.out.2.2.2.2.1 HO.out.1
    clear eg
    go_wp2_with fail
    refine hd.mono ?_
    clear hd
    rintro e w2 ⟨rfl, hO2, hB2⟩
    obtain ⟨zs, hzs⟩ : ∃ zs, zs = qs.filter (fun x => !(x.2.1 != i)) := ⟨_, rfl⟩
    rw [← hzs] at hO2 ⊢
    have hzl : zs.length ≤ 300 := by rw [hzs]; exact Nat.le_trans (List.length_filter_le _ _) hl
    have hs := sortEnt w2 g cap' zs hO2 (Nat.lt_of_lt_of_le HO.out.2.2.1 hB2.size) (by omega)
    have H2 : Aside (zs = qs.filter (fun x => !(x.2.1 != i)) ∧ Below w.heap.size w w2 ∧ g < w2.heap.size ∧ w.heap.size ≤ g) := ⟨hzs, (H.out.2.2.1.trans (HO.out.2.2.2.2.2.mono H.out.2.2.1.size)).trans (hB2.mono (by have := H.out.2.2.1.size; omega)), Nat.lt_of_lt_of_le HO.out.2.2.1 hB2.size, by have := HO.out.2.1; have := H.out.2.2.1.size; omega⟩
    clear hzs hO2 hB2 HO
    go_wp2_with fail
    refine hs.mono ?_
    clear hs
    rintro e w3 ⟨rfl, R, hperm, hsort, hcells, hkeep⟩
    obtain ⟨B, hB⟩ : ∃ B, B = w3.heap.size := ⟨_, rfl⟩
    have H3 : Aside (R.Perm zs ∧ R.Pairwise (fun a b => ¬ NLt (keyE b) (keyE a)) ∧ Below w.heap.size w w3 ∧ g < B ∧ w.heap.size ≤ B ∧ EntSt w g B R [] (.slice none 0 0) w3) := by
      have h1 := H2.out.2.1.trans (hkeep.below (B := w.heap.size) H2.out.2.1.size (fun k e => by have := H2.out.2.2.2; omega))
      exact ⟨hperm, hsort, h1, by rw [hB]; exact Nat.lt_of_lt_of_le H2.out.2.2.1 hkeep.size, by rw [hB]; exact h1.size, ⟨h1, by rw [hB]; exact Nat.le_refl _, hcells, World.ownsRow_nil _ _ _ _⟩⟩
    have hRl : R.length = zs.length := hperm.length_eq
    clear hperm hsort hcells hkeep hB
    go_wp2
    go_loopg [6, 17] zs.length (fun kx s6 s17 wr => ∃ (k : Nat), s17 = .int .i64 (k : Int) ∧ k ≤ zs.length ∧ zs.length - k ≤ kx ∧ Aside (EntSt w g B R ((R.take k).map (fun p => (nmB qs p, p.1))) s6 wr))
    case atStart => exact ⟨0, rfl, Nat.zero_le _, Nat.le_refl _, H3.out.2.2.2.2.2⟩
    case round =>
      obtain ⟨k, rfl, hk, hkx, A⟩ := hrel
      by_cases hlt : k < zs.length
      · have hltz : decide ((k : Int) < (zs.length : Int)) = true := by simp; omega
        have ek : ((k : Int)).toNat = k := by omega
        have pk : (0 : Int) ≤ (k : Int) := by omega
        have bk : (k : Int) < (zs.length : Int) := by omega
        obtain ⟨⟨nd, j, s⟩, hp⟩ : ∃ p, Aside (R[k]? = some p) := ⟨R[k], List.getElem?_eq_getElem (by omega)⟩
        obtain ⟨_, _, hao, r0, r1, r2⟩ := A.out.in_.get hp.out
        cases hao
        simp only [Nat.zero_add] at r0 r1 r2
        go_upto_region 7 with fail
        obtain ⟨b, hb⟩ : ∃ b, b = wr.heap.size := ⟨_, rfl⟩
        obtain ⟨X, hX⟩ : ∃ X, X = wr.alloc (.cells #[.int .i64 nd, .int .i64 j, .string s] 106) := ⟨_, rfl⟩
        have hPX : PlcAt X b (nd, j, s) := by rw [hX, hb]; exact heap_alloc_new wr _
        have hbX : Below wr.heap.size wr X.drew := by rw [hX]; exact ((Below.refl _ wr).alloc (Nat.le_refl _) _).drew
        have x0 : X.drew.cell? ⟨b, 0, none⟩ = some (.int .i64 nd) := hPX.c0
        have x1 : X.drew.cell? ⟨b, 1, none⟩ = some (.int .i64 j) := hPX.c1
        have x2 : X.drew.cell? ⟨b, 2, none⟩ = some (.string s) := hPX.c2
        have HX : Aside ((X.drew.cell? ⟨b, 0, none⟩ = some (.int .i64 nd) ∧ X.drew.cell? ⟨b, 1, none⟩ = some (.int .i64 j) ∧ X.drew.cell? ⟨b, 2, none⟩ = some (.string s)) ∧ Below wr.heap.size wr X.drew ∧ b = wr.heap.size) := ⟨⟨x0, x1, x2⟩, hbX, hb⟩
        have hpm : (nd, j, s) ∈ qs := by
          have := H3.out.1.mem_iff.1 (List.mem_of_getElem? hp.out)
          rw [H2.out.1] at this
          exact (List.mem_filter.1 this).1
        have hBX : Below w.heap.size w X.drew := A.out.below.trans (hbX.mono A.out.below.size)
        have hname := nameOf_any X.drew ao cap qs (nd, j, s) (H.out.1.later hBX) (by omega) (H.out.2.1 _ hpm).1 (H.out.2.1 _ hpm).2.1 (H.out.2.1 _ hpm).2.2 (HT.out _ hBX)
        unfold encP at hname
        dsimp only at hname
        rw [← hX, ← hb]
        obtain ⟨nm, hnm⟩ : ∃ nm, nm = nmB qs (nd, j, s) := ⟨_, rfl⟩
        rw [← hnm] at hname
        have HN := Lib.hid hnm
        clear hX hb hPX hbX x0 x1 x2 hpm hBX hnm r0 r1 r2
        refine wp_region_H (S := fun w' => w'.cell? ⟨b, 0, none⟩ = some (.int .i64 nd) ∧ w'.cell? ⟨b, 1, none⟩ = some (.int .i64 j) ∧ w'.cell? ⟨b, 2, none⟩ = some (.string s)) (by kernel_rfl) HX.out.1 (fun hHeld => ?_)
        refine tk 0 hHeld ?_
        refine tk 1 hHeld ?_
        refine tk 2 hHeld ?_ (hy := Or.inl ⟨by rfl, by intro w' hSw; obtain ⟨k0, k1, k2⟩ := hSw; go_simp; try with_reducible rfl⟩)
        refine tk 4 hHeld ?_
        refine tk 5 hHeld ?_ (hy := Or.inl ⟨by rfl, by intro w' hSw; obtain ⟨k0, k1, k2⟩ := hSw; go_simp; try with_reducible rfl⟩)
        refine wpAnyH_one (i := 3) (by kernel_rfl) rfl (fun K hK => ?_)
        go_simp
        refine hname.mono ?_
        clear hname
        rintro e w4 ⟨rfl, hb4⟩
        have H4 : Aside ((w4.cell? ⟨b, 0, none⟩ = some (.int .i64 nd) ∧ w4.cell? ⟨b, 1, none⟩ = some (.int .i64 j) ∧ w4.cell? ⟨b, 2, none⟩ = some (.string s)) ∧ Below wr.heap.size wr w4) := ⟨⟨cellKept hb4 HX.out.1.1, cellKept hb4 HX.out.1.2.1, cellKept hb4 HX.out.1.2.2⟩, HX.out.2.1.trans (hb4.mono HX.out.2.1.size)⟩
        clear hb4
        refine hK _ _ H4.out.1 ?_
        clear hK K
        refine qn ?_
        refine tk 6 H4.out.1 ?_
        obtain ⟨v', w6, hrun, HO⟩ := ent_close A.out H3.out.2.2.2.1 H3.out.2.2.2.2.1 H4.out.2 (nm, nd) (by rw [List.length_map, List.length_take]; omega) 81
        have H6 : Aside (w6.cell? ⟨b, 0, none⟩ = some (.int .i64 nd) ∧ w6.cell? ⟨b, 1, none⟩ = some (.int .i64 j) ∧ w6.cell? ⟨b, 2, none⟩ = some (.string s)) := by
          have hblt := World.block_lt_of_cell? w4 ⟨b, 0, none⟩ H4.out.1.1
          have e := HO.out.2 b hblt (fun q => by have := (A.out.row.lt b q).2; have := HX.out.2.2; omega)
          have k := H4.out.1
          simp only [World.cell?] at k ⊢
          rw [e]
          exact k
        have H5 : Aside ((w4.alloc (.cells #[.string nm, .int .i64 nd] 86)).cell? ⟨b, 0, none⟩ = some (.int .i64 nd) ∧ (w4.alloc (.cells #[.string nm, .int .i64 nd] 86)).cell? ⟨b, 1, none⟩ = some (.int .i64 j) ∧ (w4.alloc (.cells #[.string nm, .int .i64 nd] 86)).cell? ⟨b, 2, none⟩ = some (.string s)) := ⟨cellKept ((Below.refl _ w4).alloc (Nat.le_refl _) _) H4.out.1.1, cellKept ((Below.refl _ w4).alloc (Nat.le_refl _) _) H4.out.1.2.1, cellKept ((Below.refl _ w4).alloc (Nat.le_refl _) _) H4.out.1.2.2⟩
        refine wpAnyH_one (i := 7) (by kernel_rfl) rfl (fun K hK => ?_)
        go_simp
        refine hK _ _ H5.out ?_
        clear hK K
        refine qn ?_
        refine wpAnyH_one (i := 8) (by kernel_rfl) rfl (fun K hK => ?_)
        rw [if_pos (by rfl)]
        simp only [List.getElem_toArray, List.getElem_cons_succ, List.getElem_cons_zero]
        refine Lib.wp_append_run _ _ _ _ _ rfl u6 (.slice (some ⟨w4.heap.size, 0, none⟩) 1 1) rfl rfl _ w6 hrun ?_
        refine hK _ _ H6.out ?_
        clear hK K hrun
        refine qn ?_
        refine wpAnyH_one (i := 9) (by kernel_rfl) rfl (fun K hK => ?_)
        go_simp
        refine hK _ _ H6.out ?_
        clear hK K
        refine wpAnyH_done (by kernel_rfl) ?_ _
        clear hHeld
        go_wp2
        go_roundg (zs.length - (k + 1))
        case measure => omega
        case rel =>
          have hE := HO.out.1
          have e : (R.take k).map (fun p => (nmB qs p, p.1)) ++ [(nm, nd)] = (R.take (k + 1)).map (fun p => (nmB qs p, p.1)) := by
            rw [List.take_add_one, hp.out, List.map_append, HN.out]
            rfl
          rw [e] at hE
          exact ⟨k + 1, by go_num, by omega, Nat.le_refl _, hE⟩
      · have hltz : decide ((k : Int) < (zs.length : Int)) = false := by simp; omega
        go_wp2
        go_ret
        have hkz : k = zs.length := by omega
        subst hkz
        have hrow := A.out.row
        rw [List.take_of_length_le (by omega)] at hrow
        refine ⟨_, R.map (fun p => (nmB qs p, p.1)), rfl, ?_, ⟨R, by rw [← H2.out.1]; exact H3.out.1, H3.out.2.1, rfl⟩, A.out.below⟩
        rcases hrow.2 with ⟨h0, h1⟩ | ⟨g', cap', cur, h0, _, _, _, _, _, _⟩
        · refine .inl ⟨h0, ?_⟩
          rw [List.length_map] at h1
          exact List.map_eq_nil_iff.2 (List.length_eq_zero_iff.1 h1)
        · subst h0
          exact .inr ⟨g', cap', rfl, (hrow.lt g' rfl).2, fun j u hj => by
            have hl := (List.getElem?_eq_some_iff.1 hj).1
            rw [flat_len encEn_len] at hl
            rw [hrow.cellAt j (by omega)]; exact hj⟩
end Go.Proofs.YtehighgebbdenaaGreatDoor
end
