import Derived.Test.YtehighgebbdenaaGreatDoorVp02
import Derived.Test.YtehighgebbdenaaGreatDoorVp03
import Derived.Sort.Grow
import Derived.Deep.LoopGhost
import Derived.Lib.Hide
import Derived.Lib.AppendIntMem
import Derived.Laws.OwnMore
section
namespace Go.Proofs.YtehighgebbdenaaGreatDoor
open Go.RowKit Go.Maps
open scoped Classical
def headE (x : Ent) : List Value := [.int .i64 x.1.1.1, .int .i64 x.1.1.2, .int .i64 x.1.2.1, .int .i64 x.1.2.2.1, .string x.1.2.2.2]
theorem encE_split (m : Mov) (fr : Plc) : encE (m, fr) = headE (m, fr) ++ cellsP fr := rfl
theorem row_split {L : List Ent} {i : Nat} {x : Ent} (hx : L[i]? = some x) (fr : Plc) : ∃ A C, A.length = i * 8 + 5 ∧ flat encE L = A ++ cellsP x.2 ++ C ∧ flat encE (L.set i (x.1, fr)) = A ++ cellsP fr ++ C := by
  obtain ⟨hl, he⟩ := List.getElem?_eq_some_iff.1 hx
  have h1 := flat_set (enc := encE) (k := 8) encE_len L i hl (x.1, fr)
  have h2 := flat_set (enc := encE) (k := 8) encE_len L i hl (x.1, x.2)
  have hs : L.set i (x.1, x.2) = L := by
    rw [show ((x.1, x.2) : Ent) = x from rfl, ← he]
    exact List.set_getElem_self hl
  rw [hs] at h2
  refine ⟨(flat encE L).take (i * 8) ++ headE x, (flat encE L).drop ((i + 1) * 8), ?_, ?_, ?_⟩
  · rw [List.length_append, List.length_take, flat_len encE_len]
    have : (headE x).length = 5 := rfl
    omega
  · conv => lhs; rw [h2]
    rw [encE_split]
    simp only [List.append_assoc]
  · rw [h1, encE_split]
    simp only [List.append_assoc]
    rfl
theorem three_set {w : World} {base g n cap o : Nat} {A C : List Value} {q : Plc} (p : Plc) (h : w.ownsRow base 284 8 (.slice (some ⟨g, 0, none⟩) n cap) n (A ++ cellsP q ++ C)) (ho : A.length = o) :
    (((w.setCell ⟨g, o, none⟩ (.int .i64 p.1)).setCell ⟨g, o + 1, none⟩ (.int .i64 p.2.1)).setCell ⟨g, o + 2, none⟩ (.string p.2.2)).ownsRow base 284 8 (.slice (some ⟨g, 0, none⟩) n cap) n (A ++ cellsP p ++ C) := by
  subst ho
  exact owns_over (vs := cellsP p) h rfl
theorem three_keeps (w : World) (g o1 o2 o3 : Nat) (v1 v2 v3 : Value) : Keeps (fun k => k = g) w (((w.setCell ⟨g, o1, none⟩ v1).setCell ⟨g, o2, none⟩ v2).setCell ⟨g, o3, none⟩ v3) :=
  ((setCells_keeps g [v1] o1 w).trans (setCells_keeps g [v2] o2 _)).trans (setCells_keeps g [v3] o3 _)
def TreeCell (w : World) (bt bm : Nat) (v : Value) : Prop := w.heap[bt]? = some (.cells #[.map (some bm), v] 187 (0, 0))
theorem TreeCell.c0 {w : World} {bt bm : Nat} {v : Value} (h : TreeCell w bt bm v) : w.cell? ⟨bt, 0, none⟩ = some (.map (some bm)) := by unfold TreeCell at h; simp [World.cell?, h]
theorem TreeCell.c1 {w : World} {bt bm : Nat} {v : Value} (h : TreeCell w bt bm v) : w.cell? ⟨bt, 1, none⟩ = some v := by unfold TreeCell at h; simp [World.cell?, h]
theorem TreeCell.fz {w : World} {bt bm : Nat} {v : Value} (h : TreeCell w bt bm v) (o : Nat) : w.frozen? ⟨bt, o, none⟩ = false := by unfold TreeCell at h; simp [World.frozen?, h]
theorem TreeCell.lt {w : World} {bt bm : Nat} {v : Value} (h : TreeCell w bt bm v) : bt < w.heap.size := (Array.getElem?_eq_some_iff.1 h).1
theorem TreeCell.ne_map {w : World} {bt bm n : Nat} {v : Value} {f : Sta} (h : TreeCell w bt bm v) (hM : MapAt Tryz.prog 3 w bm n f) : bt ≠ bm := by
  intro e
  obtain ⟨es, ck, hb⟩ := hM.block
  unfold TreeCell at h
  rw [e, hb] at h
  cases h
theorem row_block {w : World} {base n : Nat} {g cap k : Nat} {xs : List Value} (h : w.ownsRow base 284 8 (.slice (some ⟨g, 0, none⟩) n cap) k xs) : ∃ cur, w.heap[g]? = some (.cells cur 284 (0, 0)) := by
  rcases h.2 with ⟨hc, _⟩ | ⟨g', cap', cur, hc, _, hg, _⟩
  · cases hc
  · cases hc; exact ⟨cur, hg⟩
theorem row_ne_map {w : World} {base n g cap k bm nn : Nat} {xs : List Value} {f : Sta} (h : w.ownsRow base 284 8 (.slice (some ⟨g, 0, none⟩) n cap) k xs) (hM : MapAt Tryz.prog 3 w bm nn f) : g ≠ bm := by
  intro e
  obtain ⟨cur, hc⟩ := row_block h
  obtain ⟨es, ck, hb⟩ := hM.block
  rw [e, hb] at hc
  cases hc
theorem row_ne_tree {w : World} {base n g cap k bt bm : Nat} {xs : List Value} {v : Value} (h : w.ownsRow base 284 8 (.slice (some ⟨g, 0, none⟩) n cap) k xs) (hT : TreeCell w bt bm v) : g ≠ bt := by
  intro e
  obtain ⟨cur, hc⟩ := row_block h
  unfold TreeCell at hT
  rw [e, hT] at hc
  simp at hc
theorem row_at {w : World} {base g cap n : Nat} {L : List Ent} (h : w.ownsRow base 284 8 (.slice (some ⟨g, 0, none⟩) n cap) n (flat encE L)) : RowAt w g 0 L := fun j u hj => by
  have := h.cells (g := g) rfl j u hj
  rw [Addr.add_lit] at this
  exact this
theorem row_fz {w : World} {base g cap n k : Nat} {xs : List Value} (h : w.ownsRow base 284 8 (.slice (some ⟨g, 0, none⟩) n cap) k xs) (j : Nat) : w.frozen? ⟨g, j, none⟩ = false := by
  obtain ⟨cur, hc⟩ := row_block h
  simp [World.frozen?, hc]
theorem row_same {w w' : World} {base g cap n k : Nat} {xs : List Value} (h : w.ownsRow base 284 8 (.slice (some ⟨g, 0, none⟩) n cap) k xs) (e : w'.heap[g]? = w.heap[g]?) : w'.ownsRow base 284 8 (.slice (some ⟨g, 0, none⟩) n cap) k xs := by
  refine ⟨h.1, ?_⟩
  rcases h.2 with ⟨hc, _⟩ | ⟨g', cap', cur, hc, h1, hg, h2⟩
  · cases hc
  · cases hc; exact .inr ⟨g, cap, cur, rfl, h1, e.trans hg, h2⟩
set_option maxRecDepth 100000 in
set_option maxHeartbeats 1000000 in
theorem do_any (w : World) (bt bm base g cap at_ n : Nat) (L : List Ent) (ms : List Mov) (hT : TreeCell w bt bm (.slice (some ⟨g, 0, none⟩) ms.length cap)) (hown : w.ownsRow base 284 8 (.slice (some ⟨g, 0, none⟩) ms.length cap) ms.length (flat encE L)) (hL : LogTo ms at_ L)
    (hM : MapAt Tryz.prog 3 w bm n (madeBy (ms.take at_))) (hfine : ∀ m ∈ ms, FineP m.2) (hat : at_ ≤ ms.length) (hlen : ms.length ≤ 1000) (hn : n ≤ 1000000) :
    Calls Tryz.prog 190 #[.pointer (some ⟨bt, 0, none⟩), .int .i64 (at_ : Int)] w fun e w' => (∃ u, e = .returned u) ∧ ∃ L' n', LogTo ms ms.length L' ∧ w'.ownsRow base 284 8 (.slice (some ⟨g, 0, none⟩) ms.length cap) ms.length (flat encE L') ∧ MapAt Tryz.prog 3 w' bm n' (madeBy ms) ∧ n' ≤ n + ms.length ∧ Keeps (fun k => k = bm ∨ k = g) w w' := by
  have htm := hT.ne_map hM
  have hgm := row_ne_map hown hM
  have hgt := row_ne_tree hown hT
  have hbt := hT.lt
  have hgw : g < w.heap.size := (Array.getElem?_eq_some_iff.1 (row_block hown).choose_spec).1
  have hbm := hM.lt
  go_enter Tryz.func190, Tryz.ntmps190
  go_wp2
  go_loopg [4] (ms.length - at_) (fun kx s4 wr => ∃ (i : Nat) (L : List Ent) (n' : Nat), s4 = .int .i64 (i : Int) ∧ i ≤ ms.length ∧ ms.length - i ≤ kx ∧ LogTo ms i L ∧ wr.ownsRow base 284 8 (.slice (some ⟨g, 0, none⟩) ms.length cap) ms.length (flat encE L) ∧ MapAt Tryz.prog 3 wr bm n' (madeBy (ms.take i)) ∧ n' ≤ n + i ∧ Keeps (fun k => k = bm ∨ k = g) w wr)
  case atStart => exact ⟨at_, L, n, rfl, hat, Nat.le_refl _, hL, hown, hM, Nat.le_add_right _ _, Keeps.refl _ _⟩
  case round =>
    obtain ⟨i, L, n', rfl, hi, hkx, hL, hown, hM, hn', hk⟩ := hrel
    have hT1 : TreeCell wr bt bm (.slice (some ⟨g, 0, none⟩) ms.length cap) := (hk.block bt hbt (by omega)).trans ‹TreeCell w bt bm _›
    have t0 := hT1.c0
    have t1 := hT1.c1
    have hsz := hk.size
    by_cases hlt : i < ms.length
    · have hltz : decide ((i : Int) < (ms.length : Int)) = true := by simp; omega
      obtain ⟨x, hx⟩ : ∃ x, L[i]? = some x := ⟨_, List.getElem?_eq_getElem (by rw [hL.len]; exact hlt)⟩
      have hmx := hL.mov hx
      have hf : FineP x.1.2 := hfine _ (List.mem_of_getElem? hmx)
      have hrow := row_at hown
      have c2 : wr.cell? ⟨g, i * 8 + 2, none⟩ = some (.int .i64 x.1.2.1) := by have := hrow.at hx 2 (u := .int .i64 x.1.2.1) rfl; rwa [Nat.zero_add] at this
      have c3 : wr.cell? ⟨g, i * 8 + 3, none⟩ = some (.int .i64 x.1.2.2.1) := by have := hrow.at hx 3 (u := .int .i64 x.1.2.2.1) rfl; rwa [Nat.zero_add] at this
      have c4 : wr.cell? ⟨g, i * 8 + 4, none⟩ = some (.string x.1.2.2.2) := by have := hrow.at hx 4 (u := .string x.1.2.2.2) rfl; rwa [Nat.zero_add] at this
      have ex : ((i : Int)).toNat = i := by omega
      have px : (0 : Int) ≤ (i : Int) := by omega
      have bx : (i : Int) < (ms.length : Int) := by omega
      have HH : Aside (LogTo ms i L ∧ wr.ownsRow base 284 8 (.slice (some ⟨g, 0, none⟩) ms.length cap) ms.length (flat encE L) ∧ MapAt Tryz.prog 3 wr bm n' (madeBy (ms.take i)) ∧ Keeps (fun k => k = bm ∨ k = g) w wr ∧ TreeCell wr bt bm (.slice (some ⟨g, 0, none⟩) ms.length cap) ∧ RowAt wr g 0 L ∧ L[i]? = some x ∧ ms[i]? = some x.1) := ⟨hL, hown, hM, hk, hT1, hrow, hx, hmx⟩
      clear hL hown hM hk hT1 hrow hx hmx
      go_wp2
      obtain ⟨w1, hw1⟩ : ∃ w1, w1 = wr.alloc (.cells #[.int .i64 x.1.2.1, .int .i64 x.1.2.2.1, .string x.1.2.2.2] 106) := ⟨_, rfl⟩
      have hp1 : PlcAt w1 wr.heap.size x.1.2 := by rw [hw1]; exact heap_alloc_new wr _
      have hold : ∀ k, k < wr.heap.size → w1.heap[k]? = wr.heap[k]? := fun k hk => by rw [hw1]; exact Below.heap_alloc wr _ k hk
      have hs1 : w1.heap.size = wr.heap.size + 1 := by rw [hw1]; simp
      have hk1 : Keeps (fun k => k = bm ∨ k = g) w w1 := by rw [hw1]; exact HH.out.2.2.2.1.alloc _
      have hown1 := row_same HH.out.2.1 (hold g (by omega))
      have hT1 : TreeCell w1 bt bm (.slice (some ⟨g, 0, none⟩) ms.length cap) := (hold bt (by omega)).trans HH.out.2.2.2.2.1
      have hM1 := HH.out.2.2.1.same (hold bm (by omega))
      obtain ⟨b5, hb5⟩ : ∃ b5, b5 = wr.heap.size := ⟨_, rfl⟩
      rw [← hw1]
      rw [← hb5] at hp1 hs1 ⊢
      have hg5 : g < b5 := by omega
      have hb5w : w.heap.size ≤ b5 := by omega
      have hm5 : bm < b5 := by omega
      have ht5 : bt < b5 := by omega
      clear hw1 hold hb5 t0 t1 c2 c3 c4
      have hrow1 := row_at hown1
      have t0 := hT1.c0
      have t1 := hT1.c1
      have p0 := hp1.c0
      have p1 := hp1.c1
      have p2 := hp1.c2
      have hwn : Wf x.1.2.1 := (wf_fine hf).1
      have l0 := hM1.looks1 hwn
      have l1 := (show MapAt Tryz.prog 3 w1.drew bm n' (madeBy (ms.take i)) from hM1).looks1 hwn
      unfold encP at l0 l1
      have c5 : w1.cell? ⟨g, i * 8 + 5, none⟩ = some (.int .i64 x.2.1) := by have := hrow1.at HH.out.2.2.2.2.2.2.1 5 (u := .int .i64 x.2.1) rfl; rwa [Nat.zero_add] at this
      have c6 : w1.cell? ⟨g, i * 8 + 6, none⟩ = some (.int .i64 x.2.2.1) := by have := hrow1.at HH.out.2.2.2.2.2.2.1 6 (u := .int .i64 x.2.2.1) rfl; rwa [Nat.zero_add] at this
      have c7 : w1.cell? ⟨g, i * 8 + 7, none⟩ = some (.string x.2.2.2) := by have := hrow1.at HH.out.2.2.2.2.2.2.1 7 (u := .string x.2.2.2) rfl; rwa [Nat.zero_add] at this
      have z5 := row_fz hown1 (i * 8 + 5)
      have z6 := row_fz hown1 (i * 8 + 6)
      have z7 := row_fz hown1 (i * 8 + 7)
      obtain ⟨fr, hfr⟩ : ∃ fr, fr = (madeBy (ms.take i) x.1.2.1).getD zeroP := ⟨_, rfl⟩
      rw [← hfr] at l0 l1
      have H1 : Aside (w1.ownsRow base 284 8 (.slice (some ⟨g, 0, none⟩) ms.length cap) ms.length (flat encE L) ∧ MapAt Tryz.prog 3 w1 bm n' (madeBy (ms.take i)) ∧ Keeps (fun k => k = bm ∨ k = g) w w1 ∧ TreeCell w1 bt bm (.slice (some ⟨g, 0, none⟩) ms.length cap) ∧ PlcAt w1 b5 x.1.2 ∧ fr = fromAt ms i) := ⟨hown1, hM1, hk1, hT1, hp1, by rw [hfr, fromAt_some HH.out.2.2.2.2.2.2.2]⟩
      clear hown1 hM1 hk1 hT1 hp1 hrow1 hfr
      go_region
      obtain ⟨w2, hw2⟩ : ∃ w2, w2 = (((w1.setCell ⟨g, i * 8 + 5, none⟩ (.int .i64 fr.1)).setCell ⟨g, i * 8 + 5 + 1, none⟩ (.int .i64 fr.2.1)).setCell ⟨g, i * 8 + 5 + 2, none⟩ (.string fr.2.2)).drew := ⟨_, rfl⟩
      rw [← hw2]
      have hk12 : Keeps (fun k => k = g) w1 w2 := by rw [hw2]; exact (three_keeps w1 g _ _ _ _ _ _).drew
      obtain ⟨A, C, hA, hf1, hf2⟩ := row_split HH.out.2.2.2.2.2.2.1 fr
      have hown2 : w2.ownsRow base 284 8 (.slice (some ⟨g, 0, none⟩) ms.length cap) ms.length (flat encE (L.set i (x.1, fr))) := by
        have := H1.out.1
        rw [hf1] at this
        rw [hw2, hf2]
        exact three_set fr this hA
      have hM2 := H1.out.2.1.same (hk12.block bm (by omega) (by omega))
      have hT2 : TreeCell w2 bt bm (.slice (some ⟨g, 0, none⟩) ms.length cap) := (hk12.block bt (by omega) (by omega)).trans H1.out.2.2.2.1
      have hp2 : PlcAt w2 b5 x.1.2 := H1.out.2.2.2.2.1.same (hk12.block b5 (by omega) (by omega))
      have hk2 : Keeps (fun k => k = bm ∨ k = g) w w2 := H1.out.2.2.1.then hk12 (fun _ _ e => .inr e)
      have hs2 := hk12.size
      have hL2 : LogTo ms (i + 1) (L.set i (x.1, fr)) := by rw [H1.out.2.2.2.2.2]; exact set_to HH.out.1 HH.out.2.2.2.2.2.2.1
      have hmade := made_take HH.out.2.2.2.2.2.2.2
      have hgood : Good (madeBy (ms.take i)) := good_made (fun m hm => hfine m (List.mem_of_mem_take hm))
      have H2 : Aside (w2.ownsRow base 284 8 (.slice (some ⟨g, 0, none⟩) ms.length cap) ms.length (flat encE (L.set i (x.1, fr))) ∧ MapAt Tryz.prog 3 w2 bm n' (madeBy (ms.take i)) ∧ Keeps (fun k => k = bm ∨ k = g) w w2 ∧ TreeCell w2 bt bm (.slice (some ⟨g, 0, none⟩) ms.length cap) ∧ PlcAt w2 b5 x.1.2 ∧ LogTo ms (i + 1) (L.set i (x.1, fr)) ∧ madeBy (ms.take (i + 1)) = step (madeBy (ms.take i)) x.1 ∧ w2.heap.size ≥ w1.heap.size) := ⟨hown2, hM2, hk2, hT2, hp2, hL2, hmade, hs2⟩
      clear hw2 hk12 hA hf1 hf2 hown2 hM2 hT2 hk2 hL2 hmade t0 t1 p0 p1 p2 l0 l1 c5 c6 c7 z5 z6 z7 H1 HH
      have p0 := hp2.c0
      have p1 := hp2.c1
      have p2 := hp2.c2
      have t0 := H2.out.2.2.2.1.c0
      clear hp2
      by_cases he : x.1.2.1 = x.1.2.2.1
      · have d0 : (x.1.2.1 != x.1.2.2.1) = false := by simp [he]
        have hidle : Idle (madeBy (ms.take i)) x.1.2 := .inl he
        have HI : Aside (madeBy (ms.take (i + 1)) = madeBy (ms.take i)) := H2.out.2.2.2.2.2.2.1.trans (step_idle hidle)
        clear he hidle
        go_wp2
        go_roundg (ms.length - (i + 1))
        case measure => omega
        case rel => exact ⟨i + 1, L.set i (x.1, fr), n', by go_num, by omega, Nat.le_refl _, H2.out.2.2.2.2.2.1, H2.out.1, by rw [HI.out]; exact H2.out.2.1, by omega, H2.out.2.2.1⟩
      · have d0 : (x.1.2.1 != x.1.2.2.1) = true := by simp [he]
        have hwo : Wf x.1.2.2.1 := (wf_fine hf).2
        by_cases hin : Ins (madeBy (ms.take i)) x.1.2.2.1 x.1.2.1
        · have hidle : Idle (madeBy (ms.take i)) x.1.2 := .inr hin
          have HI : Aside (madeBy (ms.take (i + 1)) = madeBy (ms.take i)) := H2.out.2.2.2.2.2.2.1.trans (step_idle hidle)
          have hcall := inside_is w2 bt bm n' (madeBy (ms.take i)) x.1.2.2.1 x.1.2.1 true (by simp [hin]) t0 H2.out.2.1 hgood hwo
          clear he hidle hin hgood
          go_wp2_with (go_at_call 96; refine hcall.mono ?_; clear hcall; rintro e w3 ⟨rfl, hb3⟩)
          have hk3 : Keeps (fun k => k = bm ∨ k = g) w w3 := H2.out.2.2.1.then (keeps_of_below hb3) (fun i hi e => by have := H2.out.2.2.1.size; omega)
          have hown3 := row_same H2.out.1 (hb3.block g (by have := H2.out.2.2.2.2.2.2.2; omega))
          have hM3 := H2.out.2.1.same (hb3.block bm (by have := H2.out.2.2.2.2.2.2.2; omega))
          go_roundg (ms.length - (i + 1))
          case measure => omega
          case rel => exact ⟨i + 1, L.set i (x.1, fr), n', by go_num, by omega, Nat.le_refl _, H2.out.2.2.2.2.2.1, hown3, by rw [HI.out]; exact hM3, by omega, hk3⟩
        · have hidle : ¬ Idle (madeBy (ms.take i)) x.1.2 := fun h => h.elim he hin
          have HI : Aside (madeBy (ms.take (i + 1)) = upd (madeBy (ms.take i)) x.1.2.1 (some x.1.2)) := H2.out.2.2.2.2.2.2.1.trans (step_goes hidle)
          have hcall := inside_is w2 bt bm n' (madeBy (ms.take i)) x.1.2.2.1 x.1.2.1 false (by simp [hin]) t0 H2.out.2.1 hgood hwo
          clear he hidle hin hgood
          go_wp2_with (go_at_call 96; refine hcall.mono ?_; clear hcall; rintro e w3 ⟨rfl, hb3⟩)
          have hs3 := H2.out.2.2.2.2.2.2.2
          have hk3 : Keeps (fun k => k = bm ∨ k = g) w w3 := H2.out.2.2.1.then (keeps_of_below hb3) (fun i hi e => by have := H2.out.2.2.1.size; omega)
          have hown3 := row_same H2.out.1 (hb3.block g (by omega))
          have hM3 := H2.out.2.1.same (hb3.block bm (by omega))
          have hT3 : TreeCell w3 bt bm (.slice (some ⟨g, 0, none⟩) ms.length cap) := (hb3.block bt (by omega)).trans H2.out.2.2.2.1
          have hp3 : PlcAt w3 b5 x.1.2 := H2.out.2.2.2.2.1.same (hb3.block b5 (by omega))
          obtain ⟨w4, hrun, hM4, ht4⟩ := (show MapAt Tryz.prog 3 w3.drew bm n' (madeBy (ms.take i)) from hM3).store (T := 184) (E := 106) Tryz.underlying3 Tryz.underlying184 (by simp only [maxLen]; omega) hwn x.1.2
          unfold encP at hrun
          have hg4 := ht4.grown
          have hg4' : w3.grownBy w4 (some bm) := ⟨hg4.os, hg4.tape, hg4.output, hg4.size, hg4.block⟩
          have hk4 : Keeps (fun k => k = bm ∨ k = g) w w4 := hk3.then (keeps_of_grown hg4') (fun i _ e => .inl (by simpa using e))
          have hown4 := row_same hown3 (hg4'.block g (by have := hb3.size; omega) (by simpa using hgm))
          have H4 : Aside (Keeps (fun k => k = bm ∨ k = g) w w4 ∧ w4.ownsRow base 284 8 (.slice (some ⟨g, 0, none⟩) ms.length cap) ms.length (flat encE (L.set i (x.1, fr))) ∧ MapAt Tryz.prog 3 w4 bm (n' + 1) (madeBy (ms.take (i + 1)))) := ⟨hk4, hown4, by rw [HI.out]; exact hM4⟩
          have q0 := hp3.c0
          have q1 := hp3.c1
          have q2 := hp3.c2
          have u0 := hT3.c0
          clear p0 p1 p2 t0 hb3 hk3 hown3 hM3 hT3 hp3 hM4 ht4 hg4 hg4' hk4 hown4
          go_region
          all_goals go_wp2
          go_roundg (ms.length - (i + 1))
          case measure => omega
          case rel => exact ⟨i + 1, L.set i (x.1, fr), n' + 1, by go_num, by omega, Nat.le_refl _, H2.out.2.2.2.2.2.1, H4.out.2.1, H4.out.2.2, by omega, H4.out.1⟩
    · have hltz : decide ((i : Int) < (ms.length : Int)) = false := by simp; omega
      have hie : i = ms.length := by omega
      subst hie
      rw [List.take_length] at hM
      go_wp2
      go_end0
      exact ⟨⟨_, rfl⟩, L, n', hL, hown, hM, hn', hk⟩
end Go.Proofs.YtehighgebbdenaaGreatDoor
end
section
namespace Go.Proofs.YtehighgebbdenaaGreatDoor
open Go.RowKit Go.Shelf Go.Maps
attribute [local go_sem] Oper.semAt_some
theorem infoPl : (Tryz.prog.info? 106).map (fun i => (i.zero, i.size, i.bytes)) = some (some (.agg #[.int .i64 0, .int .i64 0, .string ⟨#[]⟩]), 3, 32) := by kernel_rfl
theorem lit_cellsP (w : World) (p : Plc) (j : Nat) (u : Value) (hj : (cellsP p)[j]? = some u) : (w.alloc (.cells #[.int .i64 p.1, .int .i64 p.2.1, .string p.2.2] 106)).cell? ((⟨w.heap.size, 0, none⟩ : Addr).add j) = some u := by
  rw [Addr.add_lit, Nat.zero_add]
  have h := heap_alloc_new w (.cells #[.int .i64 p.1, .int .i64 p.2.1, .string p.2.2] 106)
  simp only [World.cell?, h]
  rw [← hj]
  simp [cellsP]
set_option maxRecDepth 100000 in
set_option maxHeartbeats 2000000 in
theorem appendSeq_any (w : World) (Bm b nn : Nat) (f : Sta) (G : Good f) (hBm : Bm < w.heap.size) (hm : w.cell? ⟨Bm, 0, none⟩ = some (.map (some b))) (hM : MapAt Tryz.prog 3 w b nn f) (hnn : nn ≤ 2000000) :
    Calls Tryz.prog 215 #[.slice none 0 0, .func (.func 167) #[] #[.pointer (some ⟨Bm, 0, none⟩)]] w fun e w' => ∃ v ps, e = .returned v ∧ AllP f ps ∧ ps.length ≤ nn ∧ w'.ownsRow w.heap.size 106 3 v ps.length (flat cellsP ps) ∧ Below w.heap.size w w' := by
  obtain ⟨i0, hi, hz0, hz1, hz2⟩ := info_parts infoPl
  refine (callsIn_wide (n := 4)).1 ?_
  refine callsIn_of_wp_marks Tryz.func215 rfl trivial ?_ rfl
  simp only [Tryz.ntmps215, List.size_toArray, List.length_cons, List.length_nil, Nat.reduceAdd, Nat.reduceSub, Array.replicate_succ, Array.replicate_zero, List.push_toArray, List.append_toArray, List.nil_append, List.cons_append]
  gi_wp2
  obtain ⟨w1, hw1⟩ : ∃ w1, w1 = w.alloc (.cells #[.slice none 0 0] 103) := ⟨_, rfl⟩
  rw [← hw1]
  have hB0 : Below w.heap.size w w1 := by rw [hw1]; exact (Below.refl w.heap.size w).alloc (Nat.le_refl _) _
  have hs1 : w1.heap.size = w.heap.size + 1 := by rw [hw1]; simp
  obtain ⟨B, hB⟩ : ∃ B, B = w.heap.size := ⟨_, rfl⟩
  have e1 : Boxed w1 B 103 (.slice none 0 0) := by rw [hw1, hB]; exact heap_alloc_new w _
  rw [← hB] at hB0 hs1 hBm ⊢
  have HB : Aside (B = w.heap.size) := hB
  have hBw : B ≤ w.heap.size := by omega
  clear hB
  have hm1 := (hB0.cell (p := ⟨Bm, 0, none⟩) hBm).trans hm
  have hM1 := hM.same (hB0.block b (by have := HB.out; have := hM.lt; omega))
  clear hw1 hm hM
  refine wpIn_rangeFunc_ownH rfl (by omega) (gf := 167) (lb := #[.pointer (some ⟨Bm, 0, none⟩)]) rfl trivial (enters_of Tryz.func167 (by kernel_rfl) rfl)
    (values_stops Fence.wide (4 - 1) trivial rfl (by omega) Bm b nn f G w1 (by omega) hm1 hM1) walksK_t (walksK_b (w := w1)) (Below.refl _ _) (fun _ => rfl)
    (fun pre W => ((∃ v, Boxed W B 103 v ∧ W.ownsRow B 106 3 v pre.length (flat cellsP pre) ∧ pre.length ≤ nn)) ∧ (w1.heap.size ≤ W.heap.size ∧ Below B w W))
    (fun _ _ _ => False)
    (OwnFrom.and (Own.from (holdsRow_own B B 103 106 3 (fun pre => pre.length) (fun pre => flat cellsP pre) (fun pre _ => pre.length ≤ nn)) _) (OwnFrom.and (fun _ X Y row hs hg _ => Nat.le_trans hs hg.size) (ownFrom_below (by omega) (by omega))))
    (fun _ _ _ _ _ hs _ _ => hs)
    ⟨⟨_, e1, World.ownsRow_nil w1 B _ _, Nat.zero_le _⟩, Nat.le_refl _, hB0⟩
    (fun x a' W => ∃ Bx, w1.heap.size ≤ Bx ∧ PlcAt W Bx x ∧ a' = { tmps := #[.slice none 0 0, .func (.func 167) #[] #[.pointer (some ⟨Bm, 0, none⟩)], .pointer (some ⟨B, 0, none⟩), undef, .slice none 0 0, .pointer (some ⟨Bx, 0, none⟩), .func (.func 167) #[] #[.pointer (some ⟨Bm, 0, none⟩)], .agg #[.int .i64 x.1, .int .i64 x.2.1, .string x.2.2], undef, undef, undef, undef, undef], defers := [] })
    (fun x a' => Own.from (fun _ X Y row hs hg hr => by obtain ⟨Bx, f1, f2, f3⟩ := hs; exact ⟨Bx, f1, kept_cells f2 hg hr, f3⟩) _)
    ?assign ?body ?done ?stop
  case assign =>
    rintro l pre x W K ⟨⟨v, hv, hrow, hpl⟩, hsz, hBW⟩ hK
    have hK' : Aside _ := hK
    have hBs : B ≤ W.heap.size := by omega
    clear hK
    unfold encP
    gi_wp2
    refine hK'.out _ _ ((KeepsOthers.alloc _ _).from _) (KeepsOthers.alloc _ _).walks ⟨⟨v, hv.alloc _, hrow.alloc _, hpl⟩, by simp; omega, hBW.alloc hBs _⟩ ⟨W.heap.size, by omega, heap_alloc_new W _, rfl⟩
  case body =>
    rintro l pre x a' W hl _ ⟨⟨v, hv, hrow, hpl⟩, hsz, hBW⟩ ⟨Bx, hBx, hE, rfl⟩ hlt
    have g1 := hv.cell
    have f0 := hE.c0
    have f1 := hE.c1
    have f2 := hE.c2
    have hBs : B ≤ W.heap.size := by omega
    gi_wp2_with (gi_at_builtin; refine wpListIn_append_own _ rfl _ _ 103 rfl B 106 i0 _ 3 32 Tryz.underlying103 hi hz0 hz1 hz2 rfl (by omega) _ _ _ rfl (hrow.alloc _) ⟨W.heap.size, 0, none⟩ 1 1 (cellsP x) rfl rfl (lit_cellsP W x) (cellsP_one x) (by simp only [maxLen]; omega) (by omega) (by simp; omega) ?_; intro v' w2 hown' hgrow _; obtain ⟨g', cap', rfl⟩ := ownsRow_succ hown'; obtain ⟨hv1, hv2, hr2, hk2, hb2⟩ := hv.appended (by decide) hrow hBs (Nat.le_refl _) hown' hgrow; have hc1 := hv1.cell; have hf1 := hv1.frozen)
    exact ⟨hk2.from _, hk2.walks, ⟨⟨_, hv2, by rw [List.length_append, List.length_singleton, flat_append]; simpa [flat] using hr2, by simp; omega⟩, by have := hk2.size; omega, hBW.trans hb2⟩⟩
  case done =>
    rintro D ys W hD hall ⟨⟨v, hv, hrow, hpl⟩, hsz, hBW⟩ hK
    have g1 := hv.cell
    gi_wp2
    refine ⟨by simp, .inl ⟨_, _, rfl, run_takeDeferred hK, ?_⟩⟩
    refine ⟨v, by simp [results, Tryz.f215, go_sem], v, ys, rfl, hall, hpl, ?_, ?_⟩
    · rw [← HB.out]
      exact ownsRow_putObj hrow _ hK rfl
    · rw [← HB.out]
      exact hBW.trans (belowK_b (w := w) (by omega) W D _ _ (by have := HB.out; omega) hK rfl rfl)
  case stop =>
    rintro D c pre W _ _ h _
    exact h.elim
def PlsAt (w : World) (v : Value) (qs : List Plc) : Prop := (v = .slice none 0 0 ∧ qs = []) ∨ ∃ g cap, v = .slice (some ⟨g, 0, none⟩) qs.length cap ∧ g < w.heap.size ∧ ∀ j u, (flat cellsP qs)[j]? = some u → w.cell? ⟨g, j, none⟩ = some u
theorem PlsAt.later {w w' : World} {v : Value} {qs : List Plc} (h : PlsAt w v qs) (hb : Below w.heap.size w w') : PlsAt w' v qs := by
  rcases h with h | ⟨g, cap, h1, h2, h3⟩
  · exact .inl h
  · exact .inr ⟨g, cap, h1, Nat.lt_of_lt_of_le h2 hb.size, fun j u hj => (hb.cell (p := ⟨g, j, none⟩) h2).trans (h3 j u hj)⟩
set_option maxHeartbeats 1000000 in
theorem collect_any (w : World) (Bm b nn : Nat) (f : Sta) (G : Good f) (hBm : Bm < w.heap.size) (hm : w.cell? ⟨Bm, 0, none⟩ = some (.map (some b))) (hM : MapAt Tryz.prog 3 w b nn f) (hnn : nn ≤ 2000000) :
    Calls Tryz.prog 166 #[.func (.func 167) #[] #[.pointer (some ⟨Bm, 0, none⟩)]] w fun e w' => ∃ v ps, e = .returned v ∧ AllP f ps ∧ ps.length ≤ nn ∧ w'.ownsRow w.heap.size 106 3 v ps.length (flat cellsP ps) ∧ Below w.heap.size w w' := by
  have hc := appendSeq_any w Bm b nn f G hBm hm hM hnn
  go_enter Tryz.func166, Tryz.ntmps166
  go_wp2_with fail
  refine hc.mono ?_
  clear hc
  rintro e w' ⟨v, ps, rfl, H⟩
  have HH : Aside (AllP f ps ∧ ps.length ≤ nn ∧ w'.ownsRow w.heap.size 106 3 v ps.length (flat cellsP ps) ∧ Below w.heap.size w w') := H
  clear H
  go_wp2
  go_ret
  exact ⟨v, ps, rfl, HH.out⟩
set_option maxHeartbeats 1000000 in
theorem sorted_new (w : World) (Bm b nn : Nat) (f : Sta) (G : Good f) (hBm : Bm < w.heap.size) (hm : w.cell? ⟨Bm, 0, none⟩ = some (.map (some b))) (hM : MapAt Tryz.prog 3 w b nn f) (hnn : nn ≤ 100000) :
    Calls Tryz.prog 100 #[.func (.func 167) #[] #[.pointer (some ⟨Bm, 0, none⟩)], .func (.func 102) #[] #[]] w fun e w' => ∃ v qs, e = .returned v ∧ IsPlaces f qs ∧ qs.length ≤ nn ∧ PlsAt w' v qs ∧ Below w.heap.size w w' ∧ ∀ g, v.ownBlock = some g → w.heap.size ≤ g := by
  have hc := collect_any w Bm b nn f G hBm hm hM (by omega)
  go_enter Tryz.func100, Tryz.ntmps100
  go_wp2_with fail
  refine hc.mono ?_
  clear hc
  rintro e w1 ⟨v, ps, rfl, hall, hpl, hown, hb⟩
  rcases hown.2 with ⟨rfl, h0⟩ | ⟨g, cap, cur, rfl, hbg, -⟩
  · have hps : ps = [] := List.length_eq_zero_iff.1 h0
    have HH : Aside (IsPlaces f [] ∧ Below w.heap.size w w1) := ⟨by subst hps; exact hall.places (List.Perm.refl _) List.Pairwise.nil, hb⟩
    clear hall hown hb hps h0
    go_wp2_with (go_at_call 157; refine (sortPl_none none 0 _ _).mono ?_; rintro e w' ⟨rfl, rfl⟩)
    go_ret
    exact ⟨_, [], rfl, HH.out.1, Nat.zero_le _, .inl ⟨rfl, rfl⟩, HH.out.2, fun g e => by cases e⟩
  · have hs := sortPl w1 w.heap.size g cap ps hown (by omega)
    have hgl := (hown.lt g rfl).2
    have HH : Aside (AllP f ps ∧ ps.length ≤ nn ∧ Below w.heap.size w w1 ∧ w.heap.size ≤ g ∧ g < w1.heap.size) := ⟨hall, hpl, hb, hbg, hgl⟩
    clear hall hown hb hpl hbg hgl
    go_wp2_with fail
    refine hs.mono ?_
    clear hs
    rintro e w2 ⟨rfl, qs, hp, hpw, hcells, hk⟩
    have H2 : Aside (IsPlaces f qs ∧ qs.length = ps.length ∧ qs.length ≤ nn ∧ (∀ j u, (flat cellsP qs)[j]? = some u → w2.cell? ⟨g, j, none⟩ = some u) ∧ Below w.heap.size w w2 ∧ g < w2.heap.size ∧ w.heap.size ≤ g) :=
      ⟨HH.out.1.places hp (List.Pairwise.imp (fun {a b} h => by omega) hpw), hp.length_eq, by have := HH.out.2.1; have := hp.length_eq; omega, hcells, HH.out.2.2.1.trans (hk.below (HH.out.2.2.1.size) (fun k e => by have := HH.out.2.2.2.1; omega)), Nat.lt_of_lt_of_le HH.out.2.2.2.2 hk.size, HH.out.2.2.2.1⟩
    clear hp hpw hcells hk HH
    go_wp2
    go_ret
    exact ⟨_, qs, rfl, H2.out.1, H2.out.2.2.1, .inr ⟨g, cap, by rw [H2.out.2.1]; rfl, H2.out.2.2.2.2.2.1, H2.out.2.2.2.1⟩, H2.out.2.2.2.2.1, fun k e => by cases e; exact H2.out.2.2.2.2.2.2⟩
set_option maxHeartbeats 1000000 in
theorem places_new (w : World) (bt bm nn : Nat) (v0 : Value) (f : Sta) (G : Good f) (hT : TreeCell w bt bm v0) (hM : MapAt Tryz.prog 3 w bm nn f) (hnn : nn ≤ 100000) :
    Calls Tryz.prog 42 #[.pointer (some ⟨bt, 0, none⟩)] w fun e w' => ∃ v qs, e = .returned v ∧ IsPlaces f qs ∧ qs.length ≤ nn ∧ PlsAt w' v qs ∧ Below w.heap.size w w' ∧ ∀ g, v.ownBlock = some g → w.heap.size ≤ g := by
  have t0 := hT.c0
  have hv := callsIn_wide.1 (values_in Fence.wide 3 trivial rfl (some bm) w)
  have hb1 : Below w.heap.size w (w.alloc (.cells #[.map (some bm)] 184)) := (Below.refl _ w).alloc (Nat.le_refl _) _
  have hbox : Boxed (w.alloc (.cells #[.map (some bm)] 184)) w.heap.size 184 (.map (some bm)) := heap_alloc_new w _
  have hs := sorted_new (w.alloc (.cells #[.map (some bm)] 184)) w.heap.size bm nn f G (by simp) hbox.cell (hM.same (hb1.block bm hM.lt)) hnn
  go_enter Tryz.func42, Tryz.ntmps42
  go_wp2_with (go_at_call 101; refine hv.mono ?_; clear hv; rintro e w' ⟨rfl, rfl⟩)
  refine hs.mono ?_
  clear hs
  rintro e w2 ⟨v, qs, rfl, h1, h2, h3, h4, h5⟩
  have HH : Aside (IsPlaces f qs ∧ qs.length ≤ nn ∧ PlsAt w2 v qs ∧ Below w.heap.size w w2 ∧ ∀ g, v.ownBlock = some g → w.heap.size ≤ g) := ⟨h1, h2, h3, hb1.trans (h4.mono (by simp)), fun g hg => by have := h5 g hg; simp at this; omega⟩
  clear h1 h2 h3 h4 h5 hb1 hbox
  go_wp2
  go_ret
  exact ⟨v, qs, rfl, HH.out⟩
theorem places_any (w : World) (bt bm nn : Nat) (v0 : Value) (f : Sta) (G : Good f) (hT : TreeCell w bt bm v0) (hM : MapAt Tryz.prog 3 w bm nn f) (hnn : nn ≤ 100000) :
    Calls Tryz.prog 42 #[.pointer (some ⟨bt, 0, none⟩)] w fun e w' => ∃ v qs, e = .returned v ∧ IsPlaces f qs ∧ qs.length ≤ nn ∧ PlsAt w' v qs ∧ Below w.heap.size w w' :=
  (places_new w bt bm nn v0 f G hT hM hnn).mono fun _ _ ⟨v, qs, h1, h2, h3, h4, h5, _⟩ => ⟨v, qs, h1, h2, h3, h4, h5⟩
end Go.Proofs.YtehighgebbdenaaGreatDoor
end
section
namespace Go.Proofs.YtehighgebbdenaaGreatDoor
open Go.RowKit Go.Lib Go.Sort
abbrev OpX := Int × Int × Int × Nat × Int × Int × ByteArray × ByteArray
def encX (x : OpX) : List Value := [.int .i64 x.1, .int .i64 x.2.1, .int .i64 x.2.2.1, .int .u8 (x.2.2.2.1 : Int), .int .i64 x.2.2.2.2.1, .int .i64 x.2.2.2.2.2.1, .string x.2.2.2.2.2.2.1, .string x.2.2.2.2.2.2.2]
theorem encX_one (x : OpX) : ∀ v ∈ encX x, v.oneCell' = true := by
  intro v hv
  simp [encX] at hv
  rcases hv with rfl | rfl | rfl | rfl | rfl | rfl | rfl | rfl <;> rfl
theorem cellKept {w w' : World} {b o : Nat} {v : Value} (hb : Below w.heap.size w w') (h : w.cell? ⟨b, o, none⟩ = some v) : w'.cell? ⟨b, o, none⟩ = some v := by
  rw [hb.cell (p := ⟨b, o, none⟩) (World.block_lt_of_cell? w ⟨b, o, none⟩ h)]; exact h
def cellsOf (xs : List OpX) : List Value := xs.flatMap encX
theorem cellsOf_cons (x : OpX) (xs : List OpX) : cellsOf (x :: xs) = encX x ++ cellsOf xs := rfl
theorem encX_len (x : OpX) : (encX x).length = 8 := rfl
theorem cellsOf_len : ∀ xs : List OpX, (cellsOf xs).length = xs.length * 8
  | [] => rfl
  | x :: xs => by rw [cellsOf_cons, List.length_append, cellsOf_len xs, encX_len, List.length_cons]; omega
theorem cellsOf_one (xs : List OpX) : ∀ u ∈ cellsOf xs, u.oneCell' = true := by
  intro u hu
  obtain ⟨x, _, hx⟩ := List.mem_flatMap.1 hu
  exact encX_one x u hx
theorem cellsOf_get : ∀ (xs : List OpX) (i c : Nat), i < xs.length → c < 8 → (cellsOf xs)[i * 8 + c]? = some ((encX xs[i]!)[c]!)
  | [], i, _, hi, _ => absurd hi (by simp)
  | x :: xs, 0, c, _, hc => by
    have e : 0 * 8 + c = c := by omega
    rw [cellsOf_cons, e, List.getElem?_append_left (by rw [encX_len]; exact hc), List.getElem?_eq_getElem (by rw [encX_len]; exact hc)]
    rw [getElem!_pos _ c (by rw [encX_len]; exact hc)]
    rfl
  | x :: xs, i + 1, c, hi, hc => by
    rw [cellsOf_cons, List.getElem?_append_right (by rw [encX_len]; omega), encX_len, show (i + 1) * 8 + c - 8 = i * 8 + c by omega, cellsOf_get xs i c (by simpa using hi) hc]
    simp
theorem cellsOf_app (a b : List OpX) : cellsOf (a ++ b) = cellsOf a ++ cellsOf b := List.flatMap_append
def OpsAt (w : World) (v : Value) (xs : List OpX) : Prop :=
  (v = .slice none 0 0 ∧ xs = []) ∨ ∃ blk off cap, v = .slice (some ⟨blk, off, none⟩) xs.length cap ∧ ∀ j u, (cellsOf xs)[j]? = some u → w.cell? ⟨blk, off + j, none⟩ = some u
theorem OpsAt.later {w w' : World} {v : Value} {xs : List OpX} (h : OpsAt w v xs) (hb : Below w.heap.size w w') : OpsAt w' v xs := by
  rcases h with h | ⟨g, o, c, h1, h2⟩
  · exact .inl h
  · exact .inr ⟨g, o, c, h1, fun j u hj => cellKept hb (h2 j u hj)⟩
theorem infoOp : (Tryz.prog.info? 38).map (fun i => (i.zero, i.size, i.bytes)) = some (some (.agg #[.int .i64 0, .int .i64 0, .int .i64 0, .int .u8 0, .int .i64 0, .int .i64 0, .string ⟨#[]⟩, .string ⟨#[]⟩]), 8, 80) := by kernel_rfl
theorem ownsOps {w : World} {base : Nat} {v : Value} {xs : List OpX} (h : w.ownsRow base 38 8 v xs.length (cellsOf xs)) : OpsAt w v xs := by
  rcases h.2 with ⟨h1, h2⟩ | ⟨g, cap, cur, rfl, _⟩
  · exact .inl ⟨h1, List.length_eq_zero_iff.1 h2⟩
  · refine .inr ⟨g, 0, cap, rfl, fun j u hj => ?_⟩
    have hl : j < (cellsOf xs).length := (List.getElem?_eq_some_iff.1 hj).1
    rw [cellsOf_len] at hl
    rw [Nat.zero_add, h.cellAt j hl, hj]
structure Eight (w : World) (g p : Nat) (t b m : Int) (kd : Nat) (node other : Int) (name value : ByteArray) : Prop where
  c0 : w.cell? ⟨g, p, none⟩ = some (.int .i64 t)
  c1 : w.cell? ⟨g, p + 1, none⟩ = some (.int .i64 b)
  c2 : w.cell? ⟨g, p + 2, none⟩ = some (.int .i64 m)
  c3 : w.cell? ⟨g, p + 3, none⟩ = some (.int .u8 (kd : Int))
  c4 : w.cell? ⟨g, p + 4, none⟩ = some (.int .i64 node)
  c5 : w.cell? ⟨g, p + 5, none⟩ = some (.int .i64 other)
  c6 : w.cell? ⟨g, p + 6, none⟩ = some (.string name)
  c7 : w.cell? ⟨g, p + 7, none⟩ = some (.string value)
theorem Eight.later {w w' : World} {g p : Nat} {t b m : Int} {kd : Nat} {node other : Int} {name value : ByteArray} (h : Eight w g p t b m kd node other name value) (hb : Below w.heap.size w w') : Eight w' g p t b m kd node other name value :=
  ⟨cellKept hb h.c0, cellKept hb h.c1, cellKept hb h.c2, cellKept hb h.c3, cellKept hb h.c4, cellKept hb h.c5, cellKept hb h.c6, cellKept hb h.c7⟩
end Go.Proofs.YtehighgebbdenaaGreatDoor
end
section
namespace Go.Proofs.YtehighgebbdenaaGreatDoor
open Go.RowKit Go.Lib Go.Sort
def OpsIn (w : World) (ao : Option Addr) (xs : List OpX) : Prop := xs = [] ∨ ∃ blk off, ao = some ⟨blk, off, none⟩ ∧ ∀ j u, (cellsOf xs)[j]? = some u → w.cell? ⟨blk, off + j, none⟩ = some u
theorem OpsIn.later {w w' : World} {ao : Option Addr} {xs : List OpX} (h : OpsIn w ao xs) (hb : Below w.heap.size w w') : OpsIn w' ao xs := by
  rcases h with h | ⟨g, o, h1, h2⟩
  · exact .inl h
  · exact .inr ⟨g, o, h1, fun j u hj => cellKept hb (h2 j u hj)⟩
end Go.Proofs.YtehighgebbdenaaGreatDoor
end
