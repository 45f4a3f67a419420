import Derived.Test.YtcggmagdndhkbaaGreatDoorWt04
import Derived.Test.YtcggmagdndhkbaaGreatDoorWt08
import Derived.Test.YtcggmagdndhkbaaGreatDoorWt09
import Derived.Shelf.SlSortCmp.WholeK
import Derived.Shelf.SlSortCmp.NoneTotal
import Derived.WalkKit
import Derived.Deep.LoopGhost
import Derived.Test.YtcggmagdndhkbaaGreatDoorProg
import Derived.Deep.QuietTactic
import Derived.BigQuiet
import Derived.WalkSmall
import Derived.RegionTactic
import Derived.Laws.Pointers
import Derived.Carry
import Derived.Lib.Hide
section
namespace Go.Proofs.YtcggmagdndhkbaaGreatDoor
open Go.Shelf Go.RowKit Go.Lib Go.Sort
def cmpI (a b : Int) : Int := if a < b then -1 else if b < a then 1 else 0
set_option maxHeartbeats 400000 in
theorem isNaN_any (a : Int) (w : World) : Calls Tryz.prog 178 #[.int .i64 a] w fun e w' => e = .returned (.bool false) ∧ w' = w := by
  have d0 : (a != a) = false := by simp
  go_enter Tryz.func178, Tryz.ntmps178
  go_wp2
  go_ret
  exact ⟨rfl, rfl⟩
set_option maxHeartbeats 400000 in
theorem compare_any (a b : Int) (w : World) : Calls Tryz.prog 113 #[.int .i64 a, .int .i64 b] w fun e w' => e = .returned (.int .i64 (cmpI a b)) ∧ w' = w := by
  unfold cmpI
  by_cases h1 : a < b
  · have d1 : decide (a < b) = true := decide_eq_true h1
    rw [if_pos h1]
    go_enter Tryz.func113, Tryz.ntmps113
    go_wp2_with (go_at_call 178; refine (isNaN_any _ _).mono ?_; rintro e w' ⟨rfl, rfl⟩)
    go_ret
    exact ⟨rfl, rfl⟩
  · have d1 : decide (a < b) = false := decide_eq_false h1
    rw [if_neg h1]
    by_cases h2 : b < a
    · have d2 : decide (b < a) = true := decide_eq_true h2
      rw [if_pos h2]
      go_enter Tryz.func113, Tryz.ntmps113
      go_wp2_with (go_at_call 178; refine (isNaN_any _ _).mono ?_; rintro e w' ⟨rfl, rfl⟩)
      go_ret
      exact ⟨rfl, rfl⟩
    · have d2 : decide (b < a) = false := decide_eq_false h2
      rw [if_neg h2]
      go_enter Tryz.func113, Tryz.ntmps113
      go_wp2_with (go_at_call 178; refine (isNaN_any _ _).mono ?_; rintro e w' ⟨rfl, rfl⟩)
      go_ret
      exact ⟨rfl, rfl⟩
def cmpP (x y : Plc) : Int := cmpI x.1 y.1
theorem ltOf_cmpP (x y : Plc) : ltOf cmpP x y = decide (x.1 < y.1) := by
  unfold ltOf cmpP cmpI
  by_cases h1 : x.1 < y.1
  · simp [h1]
  · rw [if_neg h1]
    by_cases h2 : y.1 < x.1 <;> simp [h1, h2]
theorem swo_cmpP : SWO (ltOf cmpP) where
  irrefl x := by rw [ltOf_cmpP]; simp
  trans x y z h1 h2 := by rw [ltOf_cmpP] at *; simp at *; omega
  ntrans x y z h1 h2 := by rw [ltOf_cmpP] at *; simp at *; omega
set_option maxHeartbeats 400000 in
theorem closureP (x y : Plc) (w : World) : Calls Tryz.prog 135 (#[.agg (cellsP x).toArray, .agg (cellsP y).toArray] ++ #[]) w fun e w' => e = .returned (.int .i64 (cmpP x y)) ∧ ∃ q os', w' = grow (w.drewN q) os' := by
  have hc : ∀ w', Calls Tryz.prog 113 #[.int .i64 x.1, .int .i64 y.1] w' fun e w'' => e = .returned (.int .i64 (cmpP x y)) ∧ w'' = w' := fun w' => compare_any _ _ _
  unfold cellsP
  go_enter Tryz.func135, Tryz.ntmps135
  go_wp2_with (go_at_call 113; refine (hc _).mono ?_; rintro e w' ⟨rfl, rfl⟩)
  go_ret
  exact ⟨rfl, 0, _, by rw [alloc_eq_grow, alloc_eq_grow, grow_grow]; rfl⟩
theorem cmp_laysP (blk off size : Nat) (w : World) : CmpLays Tryz.prog 135 #[] cellsP 3 cmpP blk off size w := fun _ _ _ _ x y => closureP x y _
theorem eg_cmpP : ∀ args w, (callFunc 135 args).run Tryz.prog w = .ok (.enter 135 args) w := enters_of Tryz.func135 (by kernel_rfl) rfl
theorem cellsP_len (x : Plc) : (cellsP x).length = 3 := rfl
theorem cellsP_one (x : Plc) : ∀ v ∈ cellsP x, v.oneCell' = true := by
  intro v hv
  simp only [cellsP, List.mem_cons, List.not_mem_nil, or_false] at hv
  rcases hv with rfl | rfl | rfl <;> rfl
theorem sortWorld_keeps (w : World) (g n : Nat) (d : Array Plc) (os : Array Obj) : Keeps (fun k => k = g) w (sortWorldK cellsP 3 w g 0 n d os) := by
  refine ⟨rfl, rfl, rfl, ?_, fun k hk hs => ?_⟩
  · simp [sortWorldK, putRowK, putRow, mapBlock, Sort.ahead, grow]
  · have hgk : g ≠ k := fun e => hs e.symm
    simp only [sortWorldK, putRowK, putRow, mapBlock, Sort.ahead, grow]
    rw [Array.getElem?_append_left (by simpa using hk)]
    simp [Array.getElem?_modify, hgk]
theorem holdsP {w : World} {base g cap n : Nat} {ps : List Plc} (h : w.ownsRow base 129 3 (.slice (some ⟨g, 0, none⟩) n cap) n (flat cellsP ps)) (hn : n = ps.length) : HoldsK cellsP 3 w g 0 ps.toArray := fun j hj => by
  rw [size_flatK] at hj
  simp only [List.size_toArray] at hj
  have h1 : j / 3 < ps.length := by omega
  have h2 : j / 3 * 3 + j % 3 = j := by omega
  refine ⟨?_, by rw [Nat.zero_add]; exact h.frozenAt j⟩
  rw [Nat.zero_add, h.cellAt j (by omega), get_flatK _ _ _ _ (by simpa using hj)]
  have := flat_get (enc := cellsP) cellsP_len (L := ps) (i := j / 3) (c := j % 3) (x := ps[j / 3]) (List.getElem?_eq_getElem h1) (by omega)
  rw [h2] at this
  rw [this, getElem!_pos ps.toArray (j / 3) (by simpa using h1), List.getElem_toArray, List.getElem?_eq_getElem (by rw [cellsP_len]; omega), getElem!_pos _ (j % 3) (by rw [cellsP_len]; omega)]
  rfl
theorem holds_cells {w : World} {g : Nat} {d : Array Plc} (h : HoldsK cellsP 3 w g 0 d) (j : Nat) (u : Value) (hj : (flat cellsP d.toList)[j]? = some u) : w.cell? ⟨g, j, none⟩ = some u := by
  have hl := (List.getElem?_eq_some_iff.1 hj).1
  rw [flat_len cellsP_len, Array.length_toList] at hl
  have h1 : j / 3 < d.size := by omega
  have h2 : j / 3 * 3 + j % 3 = j := by omega
  have H := (h j (by rw [size_flatK]; omega)).1
  rw [Nat.zero_add, get_flatK _ _ _ _ (by omega)] at H
  have := flat_get (enc := cellsP) cellsP_len (L := d.toList) (i := j / 3) (c := j % 3) (x := d[j / 3]) (by rw [Array.getElem?_toList, Array.getElem?_eq_getElem h1]) (by omega)
  rw [h2, hj, List.getElem?_eq_getElem (by rw [cellsP_len]; omega)] at this
  rw [H, getElem!_pos d (j / 3) h1, getElem!_pos _ (j % 3) (by rw [cellsP_len]; omega), this]
  rfl
theorem sortPl (w : World) (base g cap : Nat) (ps : List Plc) (hown : w.ownsRow base 129 3 (.slice (some ⟨g, 0, none⟩) ps.length cap) ps.length (flat cellsP ps)) (hl : ps.length ≤ 100000) :
    Calls Tryz.prog 197 #[.slice (some ⟨g, 0, none⟩) ps.length cap, .func (.func 135) #[] #[]] w fun e w' => e = .returned (.tuple #[]) ∧ ∃ qs : List Plc, qs.Perm ps ∧ qs.Pairwise (fun a b => ¬ b.1 < a.1) ∧ (∀ j u, (flat cellsP qs)[j]? = some u → w'.cell? ⟨g, j, none⟩ = some u) ∧ Keeps (fun k => k = g) w w' := by
  have hH := holdsP hown rfl
  have hblk : g < w.heap.size := (hown.lt g rfl).2
  have h := AnyQ.slices_SortFunc sortLays 3 Tryz.isAgg129 Tryz.sizeOf129 cellsP cellsP_len cellsP_one cmpP swo_cmpP 135 #[] g 0 cap ps.toArray w eg_cmpP (cmp_laysP g 0 ps.toArray.size w) hH hblk (by simp; omega)
  refine Calls.mono h ?_
  rintro e w' ⟨rfl, d', n, os, hp, hs, rfl⟩
  simp only [List.size_toArray] at hp hs
  have hsz : d'.size = ps.length := by have := hp.1; simpa using this
  have hperm : d'.toList.Perm ps := by
    have := hp.2.2
    simp only [Array.toList_extract] at this
    rw [List.extract_eq_take_drop, List.extract_eq_take_drop, List.drop_zero, List.drop_zero, Nat.sub_zero, List.take_of_length_le (by simp [hsz]), List.take_of_length_le (by simp)] at this
    exact this
  refine ⟨rfl, d'.toList, hperm, ?_, ?_, sortWorld_keeps w g n d' os⟩
  · rw [List.pairwise_iff_getElem]
    intro i j hi hj hij
    have hi' : i < d'.size := by simpa using hi
    have hj' : j < d'.size := by simpa using hj
    have := hs i j (Nat.zero_le _) hij (by omega)
    rw [ltOf_cmpP, getElem!_pos d' i hi', getElem!_pos d' j hj'] at this
    simpa using this
  · exact holds_cells ((show SWK cellsP 3 w g 0 d' _ from ⟨n, os, rfl⟩).holds hblk hH (by rw [hsz]; simp))
theorem sortPl_none (p : Option Addr) (cap : Nat) (fv : Value) (w : World) : Calls Tryz.prog 197 #[.slice p 0 cap, fv] w fun e w' => e = .returned (.tuple #[]) ∧ w' = w :=
  AnyF.slices_SortFunc_none sortLays p cap fv w
end Go.Proofs.YtcggmagdndhkbaaGreatDoor
end
section
namespace Go.Proofs.YtcggmagdndhkbaaGreatDoor
open Go.RowKit Go.Maps
theorem zeroPl (w : World) : (zeroValue 129).run Tryz.prog w = .ok (encP zeroP) w := Tryz.zeroValue129 w
theorem MapAt.looks {w : World} {b n : Nat} {f : Sta} (h : MapAt Tryz.prog 3 w b n f) {k : Int} (hk : Wf k) :
    (Instr.lookup 182 (.map (some b)) (.int .i64 k) true).run Tryz.prog w = .ok (.tuple #[encP ((f k).getD zeroP), .bool (f k).isSome]) w :=
  h.look Tryz.underlying3 Tryz.underlying182 (zeroPl w) hk
theorem MapAt.looks1 {w : World} {b n : Nat} {f : Sta} (h : MapAt Tryz.prog 3 w b n f) {k : Int} (hk : Wf k) :
    (Instr.lookup 182 (.map (some b)) (.int .i64 k) false).run Tryz.prog w = .ok (encP ((f k).getD zeroP)) w :=
  h.look1 Tryz.underlying3 Tryz.underlying182 (zeroPl w) hk
set_option maxHeartbeats 400000 in
theorem treeNew (w : World) : Calls Tryz.prog 50 #[] w fun e w' => e = .returned (.pointer (some ⟨w.heap.size + 1, 0, none⟩)) ∧ w' = (w.alloc (.map #[] 0)).alloc (.cells #[.map (some w.heap.size), .slice none 0 0] 185) := by
  have hmm := @run_makeMap Tryz.prog
  go_enter Tryz.func50, Tryz.ntmps50
  go_wp2
  go_ret
  exact ⟨rfl, rfl⟩
end Go.Proofs.YtcggmagdndhkbaaGreatDoor
end
section
namespace Go.Proofs.YtcggmagdndhkbaaGreatDoor
open Go.RowKit Go.Maps
def PlcAt (w : World) (b : Nat) (p : Plc) : Prop := w.heap[b]? = some (.cells #[.int .i64 p.1, .int .i64 p.2.1, .string p.2.2] 129 (0, 0))
theorem PlcAt.lt {w : World} {b : Nat} {p : Plc} (h : PlcAt w b p) : b < w.heap.size := (Array.getElem?_eq_some_iff.1 h).1
theorem PlcAt.c0 {w : World} {b : Nat} {p : Plc} (h : PlcAt w b p) : w.cell? ⟨b, 0, none⟩ = some (.int .i64 p.1) := by unfold PlcAt at h; simp [World.cell?, h]
theorem PlcAt.c1 {w : World} {b : Nat} {p : Plc} (h : PlcAt w b p) : w.cell? ⟨b, 1, none⟩ = some (.int .i64 p.2.1) := by unfold PlcAt at h; simp [World.cell?, h]
theorem PlcAt.c2 {w : World} {b : Nat} {p : Plc} (h : PlcAt w b p) : w.cell? ⟨b, 2, none⟩ = some (.string p.2.2) := by unfold PlcAt at h; simp [World.cell?, h]
theorem PlcAt.fz {w : World} {b : Nat} {p : Plc} (h : PlcAt w b p) (o : Nat) : w.frozen? ⟨b, o, none⟩ = false := by unfold PlcAt at h; simp [World.frozen?, h]
theorem PlcAt.same {w w' : World} {b : Nat} {p : Plc} (h : PlcAt w b p) (e : w'.heap[b]? = w.heap[b]?) : PlcAt w' b p := e.trans h
theorem PlcAt.stored {w : World} {b : Nat} {p : Plc} (h : PlcAt w b p) (q : Plc) : PlcAt (((w.setCell ⟨b, 0, none⟩ (.int .i64 q.1)).setCell ⟨b, 1, none⟩ (.int .i64 q.2.1)).setCell ⟨b, 2, none⟩ (.string q.2.2)) b q := by
  have h0 := heap_setCell_same w b 0 _ _ (.int .i64 q.1) h
  have h1 := heap_setCell_same _ b 1 _ _ (.int .i64 q.2.1) h0
  exact heap_setCell_same _ b 2 _ _ (.string q.2.2) h1
theorem PlcAt.storedBelow {w w' : World} {B b : Nat} (q : Plc) (h : Below B w w') (hb : B ≤ b) : Below B w (((w'.setCell ⟨b, 0, none⟩ (.int .i64 q.1)).setCell ⟨b, 1, none⟩ (.int .i64 q.2.1)).setCell ⟨b, 2, none⟩ (.string q.2.2)) :=
  ((h.setCell (p := ⟨b, 0, none⟩) hb _).setCell (p := ⟨b, 1, none⟩) hb _).setCell (p := ⟨b, 2, none⟩) hb _
theorem MapAt.below {w w' : World} {b n : Nat} {f : Sta} (h : MapAt Tryz.prog 3 w b n f) {B : Nat} (hb : Below B w w') (hB : b < B) : MapAt Tryz.prog 3 w' b n f := h.same (hb.block b hB)
set_option maxRecDepth 100000 in
set_option maxHeartbeats 1000000 in
theorem inside_is (w : World) (bt bm n : Nat) (f : Sta) (node of : Int) (z : Bool) (hz : z = true ↔ Ins f node of) (ht : w.cell? ⟨bt, 0, none⟩ = some (.map (some bm))) (hm : MapAt Tryz.prog 3 w bm n f) (G : Good f) (hk : Wf node) :
    Calls Tryz.prog 149 #[.pointer (some ⟨bt, 0, none⟩), .int .i64 node, .int .i64 of] w fun e w' => e = .returned (.bool z) ∧ Below w.heap.size w w' := by
  have hbt : bt < w.heap.size := block_lt_of_cell ht
  obtain ⟨d, hd⟩ := G.rank
  have hl := hm.looks hk
  unfold encP at hl
  go_enter Tryz.func149, Tryz.ntmps149
  go_wp2
  obtain ⟨w0, hw0⟩ : ∃ w0, w0 = w.alloc (.cells #[.int .i64 ((f node).getD zeroP).1, .int .i64 ((f node).getD zeroP).2.1, .string ((f node).getD zeroP).2.2] 129) := ⟨_, rfl⟩
  have hp0 : PlcAt w0 w.heap.size ((f node).getD zeroP) := by rw [hw0]; exact heap_alloc_new w _
  have hb0 : Below w.heap.size w w0 := by rw [hw0]; exact (Below.refl _ w).alloc (Nat.le_refl _) _
  rw [← hw0]
  clear hw0 hl
  go_loopg [7, 8] (d node + 1) (fun kx s7 s8 wr => ∃ (b7 : Nat) (cur : Int), s7 = .pointer (some ⟨b7, 0, none⟩) ∧ s8 = .bool (f cur).isSome ∧ w.heap.size ≤ b7 ∧ PlcAt wr b7 ((f cur).getD zeroP) ∧ Wf cur ∧ (Ins f cur of ↔ Ins f node of) ∧ Below w.heap.size w wr ∧ (∀ p, f cur = some p → d cur < kx))
  case atStart => exact ⟨w.heap.size, node, rfl, rfl, Nat.le_refl _, hp0, hk, Iff.rfl, hb0, fun _ _ => Nat.lt_succ_self _⟩
  case round =>
    obtain ⟨b7, cur, rfl, rfl, hb7, hp, hkc, hi, hb, hkx⟩ := hrel
    clear hp0 hb0 w0
    have ht1 := (hb.cell (p := ⟨bt, 0, none⟩) hbt).trans ht
    have hm1 := hm.below hb hm.lt
    cases hf : f cur with
    | none =>
      have hno : z = false := by
        cases z with
        | false => rfl
        | true => exact absurd (hi.2 (hz.1 rfl)) (ins_none hf)
      subst hno
      rw [hf] at hp
      simp only [Option.isSome_none]
      go_wp2
      go_ret
      exact ⟨rfl, hb⟩
    | some p =>
      rw [hf] at hp
      simp only [Option.isSome_some]
      have hc1 : wr.cell? ⟨b7, 1, none⟩ = some (.int .i64 p.2.1) := hp.c1
      by_cases he : p.2.1 = of
      · have hyes : z = true := hz.2 (hi.1 ((ins_some hf).2 (.inl he)))
        subst hyes
        have q0 : decide (p.2.1 = of) = true := decide_eq_true he
        go_wp2
        go_ret
        exact ⟨rfl, hb⟩
      · have q0 : decide (p.2.1 = of) = false := decide_eq_false he
        have hkn : Wf p.2.1 := (wf_fine (G.fine cur p hf)).2
        have hc0 := hp.c0
        have hc2 := hp.c2
        go_wp2
        obtain ⟨w1, hw1⟩ : ∃ w1, w1 = wr.alloc (.cells #[.int .i64 p.1, .int .i64 p.2.1, .string p.2.2] 129) := ⟨_, rfl⟩
        have hp1 : PlcAt w1 wr.heap.size p := by rw [hw1]; exact heap_alloc_new wr _
        have hb1 : Below w.heap.size w w1 := by rw [hw1]; exact hb.alloc hb.size _
        have hs1 : w.heap.size ≤ wr.heap.size := hb.size
        rw [← hw1]
        obtain ⟨b8, hb8⟩ : ∃ b8, b8 = wr.heap.size := ⟨_, rfl⟩
        rw [← hb8] at hp1 hs1 ⊢
        have ht2 := (hb1.cell (p := ⟨bt, 0, none⟩) hbt).trans ht
        have hm2 := hm.below hb1 hm.lt
        have hl2 := hm2.looks hkn
        have hl3 := (show MapAt Tryz.prog 3 w1.drew bm n f from hm2).looks hkn
        unfold encP at hl2 hl3
        have d0 := hp1.c0
        have d1 := hp1.c1
        have d2 := hp1.c2
        have z0 := hp1.fz 0
        have z1 := hp1.fz 1
        have z2 := hp1.fz 2
        have F : Aside (PlcAt w1 b8 p ∧ Below w.heap.size w w1 ∧ w.heap.size ≤ b8 ∧ Wf p.2.1) := ⟨hp1, hb1, hs1, hkn⟩
        clear hp hc0 hc1 hc2 hp1 hb1 hm2 hm1 ht1 hw1 hb8 hs1 hkn
        go_region
        go_wp2
        go_roundg (d cur)
        case measure => exact hkx p hf
        case rel => exact ⟨b8, p.2.1, rfl, rfl, F.out.2.2.1, F.out.1.stored _, F.out.2.2.2, (by rw [← hi, ins_some hf]; exact ⟨.inr, fun h => h.resolve_left he⟩), (PlcAt.storedBelow _ F.out.2.1 F.out.2.2.1).drew, fun _ _ => hd cur p hf⟩
end Go.Proofs.YtcggmagdndhkbaaGreatDoor
end
section
namespace Go.Proofs.YtcggmagdndhkbaaGreatDoor
open Go.RowKit Go.Maps
open scoped Classical
def headE (x : Ent) : List Value := [.int .i64 x.1.1.1, .int .i64 x.1.1.2, .int .i64 x.1.2.1, .int .i64 x.1.2.2.1, .string x.1.2.2.2]
theorem encE_split (m : Mov) (fr : Plc) : encE (m, fr) = headE (m, fr) ++ cellsP fr := rfl
theorem row_split {L : List Ent} {i : Nat} {x : Ent} (hx : L[i]? = some x) (fr : Plc) : ∃ A C, A.length = i * 8 + 5 ∧ flat encE L = A ++ cellsP x.2 ++ C ∧ flat encE (L.set i (x.1, fr)) = A ++ cellsP fr ++ C := by
  obtain ⟨hl, he⟩ := List.getElem?_eq_some_iff.1 hx
  have h1 := flat_set (enc := encE) (k := 8) encE_len L i hl (x.1, fr)
  have h2 := flat_set (enc := encE) (k := 8) encE_len L i hl (x.1, x.2)
  have hs : L.set i (x.1, x.2) = L := by
    rw [show ((x.1, x.2) : Ent) = x from rfl, ← he]
    exact List.set_getElem_self hl
  rw [hs] at h2
  refine ⟨(flat encE L).take (i * 8) ++ headE x, (flat encE L).drop ((i + 1) * 8), ?_, ?_, ?_⟩
  · rw [List.length_append, List.length_take, flat_len encE_len]
    have : (headE x).length = 5 := rfl
    omega
  · conv => lhs; rw [h2]
    rw [encE_split]
    simp only [List.append_assoc]
  · rw [h1, encE_split]
    simp only [List.append_assoc]
    rfl
theorem three_set {w : World} {base g n cap o : Nat} {A C : List Value} {q : Plc} (p : Plc) (h : w.ownsRow base 269 8 (.slice (some ⟨g, 0, none⟩) n cap) n (A ++ cellsP q ++ C)) (ho : A.length = o) :
    (((w.setCell ⟨g, o, none⟩ (.int .i64 p.1)).setCell ⟨g, o + 1, none⟩ (.int .i64 p.2.1)).setCell ⟨g, o + 2, none⟩ (.string p.2.2)).ownsRow base 269 8 (.slice (some ⟨g, 0, none⟩) n cap) n (A ++ cellsP p ++ C) := by
  subst ho
  exact owns_over (vs := cellsP p) h rfl
theorem three_keeps (w : World) (g o1 o2 o3 : Nat) (v1 v2 v3 : Value) : Keeps (fun k => k = g) w (((w.setCell ⟨g, o1, none⟩ v1).setCell ⟨g, o2, none⟩ v2).setCell ⟨g, o3, none⟩ v3) :=
  ((setCells_keeps g [v1] o1 w).trans (setCells_keeps g [v2] o2 _)).trans (setCells_keeps g [v3] o3 _)
def TreeCell (w : World) (bt bm : Nat) (v : Value) : Prop := w.heap[bt]? = some (.cells #[.map (some bm), v] 185 (0, 0))
theorem TreeCell.c0 {w : World} {bt bm : Nat} {v : Value} (h : TreeCell w bt bm v) : w.cell? ⟨bt, 0, none⟩ = some (.map (some bm)) := by unfold TreeCell at h; simp [World.cell?, h]
theorem TreeCell.c1 {w : World} {bt bm : Nat} {v : Value} (h : TreeCell w bt bm v) : w.cell? ⟨bt, 1, none⟩ = some v := by unfold TreeCell at h; simp [World.cell?, h]
theorem TreeCell.fz {w : World} {bt bm : Nat} {v : Value} (h : TreeCell w bt bm v) (o : Nat) : w.frozen? ⟨bt, o, none⟩ = false := by unfold TreeCell at h; simp [World.frozen?, h]
theorem TreeCell.lt {w : World} {bt bm : Nat} {v : Value} (h : TreeCell w bt bm v) : bt < w.heap.size := (Array.getElem?_eq_some_iff.1 h).1
theorem TreeCell.ne_map {w : World} {bt bm n : Nat} {v : Value} {f : Sta} (h : TreeCell w bt bm v) (hM : MapAt Tryz.prog 3 w bm n f) : bt ≠ bm := by
  intro e
  obtain ⟨es, ck, hb⟩ := hM.block
  unfold TreeCell at h
  rw [e, hb] at h
  cases h
theorem row_block {w : World} {base n : Nat} {g cap k : Nat} {xs : List Value} (h : w.ownsRow base 269 8 (.slice (some ⟨g, 0, none⟩) n cap) k xs) : ∃ cur, w.heap[g]? = some (.cells cur 269 (0, 0)) := by
  rcases h.2 with ⟨hc, _⟩ | ⟨g', cap', cur, hc, _, hg, _⟩
  · cases hc
  · cases hc; exact ⟨cur, hg⟩
theorem row_ne_map {w : World} {base n g cap k bm nn : Nat} {xs : List Value} {f : Sta} (h : w.ownsRow base 269 8 (.slice (some ⟨g, 0, none⟩) n cap) k xs) (hM : MapAt Tryz.prog 3 w bm nn f) : g ≠ bm := by
  intro e
  obtain ⟨cur, hc⟩ := row_block h
  obtain ⟨es, ck, hb⟩ := hM.block
  rw [e, hb] at hc
  cases hc
theorem row_ne_tree {w : World} {base n g cap k bt bm : Nat} {xs : List Value} {v : Value} (h : w.ownsRow base 269 8 (.slice (some ⟨g, 0, none⟩) n cap) k xs) (hT : TreeCell w bt bm v) : g ≠ bt := by
  intro e
  obtain ⟨cur, hc⟩ := row_block h
  unfold TreeCell at hT
  rw [e, hT] at hc
  simp at hc
theorem row_at {w : World} {base g cap n : Nat} {L : List Ent} (h : w.ownsRow base 269 8 (.slice (some ⟨g, 0, none⟩) n cap) n (flat encE L)) : RowAt w g 0 L := fun j u hj => by
  have := h.cells (g := g) rfl j u hj
  rw [Addr.add_lit] at this
  exact this
theorem row_fz {w : World} {base g cap n k : Nat} {xs : List Value} (h : w.ownsRow base 269 8 (.slice (some ⟨g, 0, none⟩) n cap) k xs) (j : Nat) : w.frozen? ⟨g, j, none⟩ = false := by
  obtain ⟨cur, hc⟩ := row_block h
  simp [World.frozen?, hc]
theorem row_same {w w' : World} {base g cap n k : Nat} {xs : List Value} (h : w.ownsRow base 269 8 (.slice (some ⟨g, 0, none⟩) n cap) k xs) (e : w'.heap[g]? = w.heap[g]?) : w'.ownsRow base 269 8 (.slice (some ⟨g, 0, none⟩) n cap) k xs := by
  refine ⟨h.1, ?_⟩
  rcases h.2 with ⟨hc, _⟩ | ⟨g', cap', cur, hc, h1, hg, h2⟩
  · cases hc
  · cases hc; exact .inr ⟨g, cap, cur, rfl, h1, e.trans hg, h2⟩
set_option maxRecDepth 100000 in
set_option maxHeartbeats 1000000 in
theorem do_any (w : World) (bt bm base g cap at_ n : Nat) (L : List Ent) (ms : List Mov) (hT : TreeCell w bt bm (.slice (some ⟨g, 0, none⟩) ms.length cap)) (hown : w.ownsRow base 269 8 (.slice (some ⟨g, 0, none⟩) ms.length cap) ms.length (flat encE L)) (hL : LogTo ms at_ L)
    (hM : MapAt Tryz.prog 3 w bm n (madeBy (ms.take at_))) (hfine : ∀ m ∈ ms, FineP m.2) (hat : at_ ≤ ms.length) (hlen : ms.length ≤ 1000) (hn : n ≤ 1000000) :
    Calls Tryz.prog 185 #[.pointer (some ⟨bt, 0, none⟩), .int .i64 (at_ : Int)] w fun e w' => (∃ u, e = .returned u) ∧ ∃ L' n', LogTo ms ms.length L' ∧ w'.ownsRow base 269 8 (.slice (some ⟨g, 0, none⟩) ms.length cap) ms.length (flat encE L') ∧ MapAt Tryz.prog 3 w' bm n' (madeBy ms) ∧ n' ≤ n + ms.length ∧ Keeps (fun k => k = bm ∨ k = g) w w' := by
  have htm := hT.ne_map hM
  have hgm := row_ne_map hown hM
  have hgt := row_ne_tree hown hT
  have hbt := hT.lt
  have hgw : g < w.heap.size := (Array.getElem?_eq_some_iff.1 (row_block hown).choose_spec).1
  have hbm := hM.lt
  go_enter Tryz.func185, Tryz.ntmps185
  go_wp2
  go_loopg [4] (ms.length - at_) (fun kx s4 wr => ∃ (i : Nat) (L : List Ent) (n' : Nat), s4 = .int .i64 (i : Int) ∧ i ≤ ms.length ∧ ms.length - i ≤ kx ∧ LogTo ms i L ∧ wr.ownsRow base 269 8 (.slice (some ⟨g, 0, none⟩) ms.length cap) ms.length (flat encE L) ∧ MapAt Tryz.prog 3 wr bm n' (madeBy (ms.take i)) ∧ n' ≤ n + i ∧ Keeps (fun k => k = bm ∨ k = g) w wr)
  case atStart => exact ⟨at_, L, n, rfl, hat, Nat.le_refl _, hL, hown, hM, Nat.le_add_right _ _, Keeps.refl _ _⟩
  case round =>
    obtain ⟨i, L, n', rfl, hi, hkx, hL, hown, hM, hn', hk⟩ := hrel
    have hT1 : TreeCell wr bt bm (.slice (some ⟨g, 0, none⟩) ms.length cap) := (hk.block bt hbt (by omega)).trans ‹TreeCell w bt bm _›
    have t0 := hT1.c0
    have t1 := hT1.c1
    have hsz := hk.size
    by_cases hlt : i < ms.length
    · have hltz : decide ((i : Int) < (ms.length : Int)) = true := by simp; omega
      obtain ⟨x, hx⟩ : ∃ x, L[i]? = some x := ⟨_, List.getElem?_eq_getElem (by rw [hL.len]; exact hlt)⟩
      have hmx := hL.mov hx
      have hf : FineP x.1.2 := hfine _ (List.mem_of_getElem? hmx)
      have hrow := row_at hown
      have c2 : wr.cell? ⟨g, i * 8 + 2, none⟩ = some (.int .i64 x.1.2.1) := by have := hrow.at hx 2 (u := .int .i64 x.1.2.1) rfl; rwa [Nat.zero_add] at this
      have c3 : wr.cell? ⟨g, i * 8 + 3, none⟩ = some (.int .i64 x.1.2.2.1) := by have := hrow.at hx 3 (u := .int .i64 x.1.2.2.1) rfl; rwa [Nat.zero_add] at this
      have c4 : wr.cell? ⟨g, i * 8 + 4, none⟩ = some (.string x.1.2.2.2) := by have := hrow.at hx 4 (u := .string x.1.2.2.2) rfl; rwa [Nat.zero_add] at this
      have ex : ((i : Int)).toNat = i := by omega
      have px : (0 : Int) ≤ (i : Int) := by omega
      have bx : (i : Int) < (ms.length : Int) := by omega
      have HH : Aside (LogTo ms i L ∧ wr.ownsRow base 269 8 (.slice (some ⟨g, 0, none⟩) ms.length cap) ms.length (flat encE L) ∧ MapAt Tryz.prog 3 wr bm n' (madeBy (ms.take i)) ∧ Keeps (fun k => k = bm ∨ k = g) w wr ∧ TreeCell wr bt bm (.slice (some ⟨g, 0, none⟩) ms.length cap) ∧ RowAt wr g 0 L ∧ L[i]? = some x ∧ ms[i]? = some x.1) := ⟨hL, hown, hM, hk, hT1, hrow, hx, hmx⟩
      clear hL hown hM hk hT1 hrow hx hmx
      go_wp2
      obtain ⟨w1, hw1⟩ : ∃ w1, w1 = wr.alloc (.cells #[.int .i64 x.1.2.1, .int .i64 x.1.2.2.1, .string x.1.2.2.2] 129) := ⟨_, rfl⟩
      have hp1 : PlcAt w1 wr.heap.size x.1.2 := by rw [hw1]; exact heap_alloc_new wr _
      have hold : ∀ k, k < wr.heap.size → w1.heap[k]? = wr.heap[k]? := fun k hk => by rw [hw1]; exact Below.heap_alloc wr _ k hk
      have hs1 : w1.heap.size = wr.heap.size + 1 := by rw [hw1]; simp
      have hk1 : Keeps (fun k => k = bm ∨ k = g) w w1 := by rw [hw1]; exact HH.out.2.2.2.1.alloc _
      have hown1 := row_same HH.out.2.1 (hold g (by omega))
      have hT1 : TreeCell w1 bt bm (.slice (some ⟨g, 0, none⟩) ms.length cap) := (hold bt (by omega)).trans HH.out.2.2.2.2.1
      have hM1 := HH.out.2.2.1.same (hold bm (by omega))
      obtain ⟨b5, hb5⟩ : ∃ b5, b5 = wr.heap.size := ⟨_, rfl⟩
      rw [← hw1]
      rw [← hb5] at hp1 hs1 ⊢
      have hg5 : g < b5 := by omega
      have hb5w : w.heap.size ≤ b5 := by omega
      have hm5 : bm < b5 := by omega
      have ht5 : bt < b5 := by omega
      clear hw1 hold hb5 t0 t1 c2 c3 c4
      have hrow1 := row_at hown1
      have t0 := hT1.c0
      have t1 := hT1.c1
      have p0 := hp1.c0
      have p1 := hp1.c1
      have p2 := hp1.c2
      have hwn : Wf x.1.2.1 := (wf_fine hf).1
      have l0 := hM1.looks1 hwn
      have l1 := (show MapAt Tryz.prog 3 w1.drew bm n' (madeBy (ms.take i)) from hM1).looks1 hwn
      unfold encP at l0 l1
      have c5 : w1.cell? ⟨g, i * 8 + 5, none⟩ = some (.int .i64 x.2.1) := by have := hrow1.at HH.out.2.2.2.2.2.2.1 5 (u := .int .i64 x.2.1) rfl; rwa [Nat.zero_add] at this
      have c6 : w1.cell? ⟨g, i * 8 + 6, none⟩ = some (.int .i64 x.2.2.1) := by have := hrow1.at HH.out.2.2.2.2.2.2.1 6 (u := .int .i64 x.2.2.1) rfl; rwa [Nat.zero_add] at this
      have c7 : w1.cell? ⟨g, i * 8 + 7, none⟩ = some (.string x.2.2.2) := by have := hrow1.at HH.out.2.2.2.2.2.2.1 7 (u := .string x.2.2.2) rfl; rwa [Nat.zero_add] at this
      have z5 := row_fz hown1 (i * 8 + 5)
      have z6 := row_fz hown1 (i * 8 + 6)
      have z7 := row_fz hown1 (i * 8 + 7)
      obtain ⟨fr, hfr⟩ : ∃ fr, fr = (madeBy (ms.take i) x.1.2.1).getD zeroP := ⟨_, rfl⟩
      rw [← hfr] at l0 l1
      have H1 : Aside (w1.ownsRow base 269 8 (.slice (some ⟨g, 0, none⟩) ms.length cap) ms.length (flat encE L) ∧ MapAt Tryz.prog 3 w1 bm n' (madeBy (ms.take i)) ∧ Keeps (fun k => k = bm ∨ k = g) w w1 ∧ TreeCell w1 bt bm (.slice (some ⟨g, 0, none⟩) ms.length cap) ∧ PlcAt w1 b5 x.1.2 ∧ fr = fromAt ms i) := ⟨hown1, hM1, hk1, hT1, hp1, by rw [hfr, fromAt_some HH.out.2.2.2.2.2.2.2]⟩
      clear hown1 hM1 hk1 hT1 hp1 hrow1 hfr
      go_region
      obtain ⟨w2, hw2⟩ : ∃ w2, w2 = (((w1.setCell ⟨g, i * 8 + 5, none⟩ (.int .i64 fr.1)).setCell ⟨g, i * 8 + 5 + 1, none⟩ (.int .i64 fr.2.1)).setCell ⟨g, i * 8 + 5 + 2, none⟩ (.string fr.2.2)).drew := ⟨_, rfl⟩
      rw [← hw2]
      have hk12 : Keeps (fun k => k = g) w1 w2 := by rw [hw2]; exact (three_keeps w1 g _ _ _ _ _ _).drew
      obtain ⟨A, C, hA, hf1, hf2⟩ := row_split HH.out.2.2.2.2.2.2.1 fr
      have hown2 : w2.ownsRow base 269 8 (.slice (some ⟨g, 0, none⟩) ms.length cap) ms.length (flat encE (L.set i (x.1, fr))) := by
        have := H1.out.1
        rw [hf1] at this
        rw [hw2, hf2]
        exact three_set fr this hA
      have hM2 := H1.out.2.1.same (hk12.block bm (by omega) (by omega))
      have hT2 : TreeCell w2 bt bm (.slice (some ⟨g, 0, none⟩) ms.length cap) := (hk12.block bt (by omega) (by omega)).trans H1.out.2.2.2.1
      have hp2 : PlcAt w2 b5 x.1.2 := H1.out.2.2.2.2.1.same (hk12.block b5 (by omega) (by omega))
      have hk2 : Keeps (fun k => k = bm ∨ k = g) w w2 := H1.out.2.2.1.then hk12 (fun _ _ e => .inr e)
      have hs2 := hk12.size
      have hL2 : LogTo ms (i + 1) (L.set i (x.1, fr)) := by rw [H1.out.2.2.2.2.2]; exact set_to HH.out.1 HH.out.2.2.2.2.2.2.1
      have hmade := made_take HH.out.2.2.2.2.2.2.2
      have hgood : Good (madeBy (ms.take i)) := good_made (fun m hm => hfine m (List.mem_of_mem_take hm))
      have H2 : Aside (w2.ownsRow base 269 8 (.slice (some ⟨g, 0, none⟩) ms.length cap) ms.length (flat encE (L.set i (x.1, fr))) ∧ MapAt Tryz.prog 3 w2 bm n' (madeBy (ms.take i)) ∧ Keeps (fun k => k = bm ∨ k = g) w w2 ∧ TreeCell w2 bt bm (.slice (some ⟨g, 0, none⟩) ms.length cap) ∧ PlcAt w2 b5 x.1.2 ∧ LogTo ms (i + 1) (L.set i (x.1, fr)) ∧ madeBy (ms.take (i + 1)) = step (madeBy (ms.take i)) x.1 ∧ w2.heap.size ≥ w1.heap.size) := ⟨hown2, hM2, hk2, hT2, hp2, hL2, hmade, hs2⟩
      clear hw2 hk12 hA hf1 hf2 hown2 hM2 hT2 hk2 hL2 hmade t0 t1 p0 p1 p2 l0 l1 c5 c6 c7 z5 z6 z7 H1 HH
      have p0 := hp2.c0
      have p1 := hp2.c1
      have p2 := hp2.c2
      have t0 := H2.out.2.2.2.1.c0
      clear hp2
      by_cases he : x.1.2.1 = x.1.2.2.1
      · have d0 : (x.1.2.1 != x.1.2.2.1) = false := by simp [he]
        have hidle : Idle (madeBy (ms.take i)) x.1.2 := .inl he
        have HI : Aside (madeBy (ms.take (i + 1)) = madeBy (ms.take i)) := H2.out.2.2.2.2.2.2.1.trans (step_idle hidle)
        clear he hidle
        go_wp2
        go_roundg (ms.length - (i + 1))
        case measure => omega
        case rel => exact ⟨i + 1, L.set i (x.1, fr), n', by go_num, by omega, Nat.le_refl _, H2.out.2.2.2.2.2.1, H2.out.1, by rw [HI.out]; exact H2.out.2.1, by omega, H2.out.2.2.1⟩
      · have d0 : (x.1.2.1 != x.1.2.2.1) = true := by simp [he]
        have hwo : Wf x.1.2.2.1 := (wf_fine hf).2
        by_cases hin : Ins (madeBy (ms.take i)) x.1.2.2.1 x.1.2.1
        · have hidle : Idle (madeBy (ms.take i)) x.1.2 := .inr hin
          have HI : Aside (madeBy (ms.take (i + 1)) = madeBy (ms.take i)) := H2.out.2.2.2.2.2.2.1.trans (step_idle hidle)
          have hcall := inside_is w2 bt bm n' (madeBy (ms.take i)) x.1.2.2.1 x.1.2.1 true (by simp [hin]) t0 H2.out.2.1 hgood hwo
          clear he hidle hin hgood
          go_wp2_with (go_at_call 149; refine hcall.mono ?_; clear hcall; rintro e w3 ⟨rfl, hb3⟩)
          have hk3 : Keeps (fun k => k = bm ∨ k = g) w w3 := H2.out.2.2.1.then (keeps_of_below hb3) (fun i hi e => by have := H2.out.2.2.1.size; omega)
          have hown3 := row_same H2.out.1 (hb3.block g (by have := H2.out.2.2.2.2.2.2.2; omega))
          have hM3 := H2.out.2.1.same (hb3.block bm (by have := H2.out.2.2.2.2.2.2.2; omega))
          go_roundg (ms.length - (i + 1))
          case measure => omega
          case rel => exact ⟨i + 1, L.set i (x.1, fr), n', by go_num, by omega, Nat.le_refl _, H2.out.2.2.2.2.2.1, hown3, by rw [HI.out]; exact hM3, by omega, hk3⟩
        · have hidle : ¬ Idle (madeBy (ms.take i)) x.1.2 := fun h => h.elim he hin
          have HI : Aside (madeBy (ms.take (i + 1)) = upd (madeBy (ms.take i)) x.1.2.1 (some x.1.2)) := H2.out.2.2.2.2.2.2.1.trans (step_goes hidle)
          have hcall := inside_is w2 bt bm n' (madeBy (ms.take i)) x.1.2.2.1 x.1.2.1 false (by simp [hin]) t0 H2.out.2.1 hgood hwo
          clear he hidle hin hgood
          go_wp2_with (go_at_call 149; refine hcall.mono ?_; clear hcall; rintro e w3 ⟨rfl, hb3⟩)
          have hs3 := H2.out.2.2.2.2.2.2.2
          have hk3 : Keeps (fun k => k = bm ∨ k = g) w w3 := H2.out.2.2.1.then (keeps_of_below hb3) (fun i hi e => by have := H2.out.2.2.1.size; omega)
          have hown3 := row_same H2.out.1 (hb3.block g (by omega))
          have hM3 := H2.out.2.1.same (hb3.block bm (by omega))
          have hT3 : TreeCell w3 bt bm (.slice (some ⟨g, 0, none⟩) ms.length cap) := (hb3.block bt (by omega)).trans H2.out.2.2.2.1
          have hp3 : PlcAt w3 b5 x.1.2 := H2.out.2.2.2.2.1.same (hb3.block b5 (by omega))
          obtain ⟨w4, hrun, hM4, ht4⟩ := (show MapAt Tryz.prog 3 w3.drew bm n' (madeBy (ms.take i)) from hM3).store (T := 182) (E := 129) Tryz.underlying3 Tryz.underlying182 (by simp only [maxLen]; omega) hwn x.1.2
          unfold encP at hrun
          have hg4 := ht4.grown
          have hg4' : w3.grownBy w4 (some bm) := ⟨hg4.os, hg4.tape, hg4.output, hg4.size, hg4.block⟩
          have hk4 : Keeps (fun k => k = bm ∨ k = g) w w4 := hk3.then (keeps_of_grown hg4') (fun i _ e => .inl (by simpa using e))
          have hown4 := row_same hown3 (hg4'.block g (by have := hb3.size; omega) (by simpa using hgm))
          have H4 : Aside (Keeps (fun k => k = bm ∨ k = g) w w4 ∧ w4.ownsRow base 269 8 (.slice (some ⟨g, 0, none⟩) ms.length cap) ms.length (flat encE (L.set i (x.1, fr))) ∧ MapAt Tryz.prog 3 w4 bm (n' + 1) (madeBy (ms.take (i + 1)))) := ⟨hk4, hown4, by rw [HI.out]; exact hM4⟩
          have q0 := hp3.c0
          have q1 := hp3.c1
          have q2 := hp3.c2
          have u0 := hT3.c0
          clear p0 p1 p2 t0 hb3 hk3 hown3 hM3 hT3 hp3 hM4 ht4 hg4 hg4' hk4 hown4
          go_region
          all_goals go_wp2
          go_roundg (ms.length - (i + 1))
          case measure => omega
          case rel => exact ⟨i + 1, L.set i (x.1, fr), n' + 1, by go_num, by omega, Nat.le_refl _, H2.out.2.2.2.2.2.1, H4.out.2.1, H4.out.2.2, by omega, H4.out.1⟩
    · have hltz : decide ((i : Int) < (ms.length : Int)) = false := by simp; omega
      have hie : i = ms.length := by omega
      subst hie
      rw [List.take_length] at hM
      go_wp2
      go_end0
      exact ⟨⟨_, rfl⟩, L, n', hL, hown, hM, hn', hk⟩
end Go.Proofs.YtcggmagdndhkbaaGreatDoor
end
