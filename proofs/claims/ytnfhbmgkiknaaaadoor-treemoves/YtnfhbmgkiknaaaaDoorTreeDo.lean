/- Contract of package tree's log: doFrom. -/
import Derived.Test.YtnfhbmgkiknaaaaDoorTreeInside
import Derived.Test.YtnfhbmgkiknaaaaDoorTreeFind
namespace Go.Proofs.YtnfhbmgkiknaaaaDoor
open Go.RowKit Go.Maps
open scoped Classical

def headE (x : Ent) : List Value := [.int .i64 x.1.1.1, .int .i64 x.1.1.2, .int .i64 x.1.2.1, .int .i64 x.1.2.2.1, .string x.1.2.2.2]
theorem encE_split (m : Mov) (fr : Plc) : encE (m, fr) = headE (m, fr) ++ cellsP fr := rfl
theorem row_split {L : List Ent} {i : Nat} {x : Ent} (hx : L[i]? = some x) (fr : Plc) : ∃ A C, A.length = i * 8 + 5 ∧ flat encE L = A ++ cellsP x.2 ++ C ∧ flat encE (L.set i (x.1, fr)) = A ++ cellsP fr ++ C := by
  obtain ⟨hl, he⟩ := List.getElem?_eq_some_iff.1 hx
  have h1 := flat_set (enc := encE) (k := 8) encE_len L i hl (x.1, fr)
  have h2 := flat_set (enc := encE) (k := 8) encE_len L i hl (x.1, x.2)
  have hs : L.set i (x.1, x.2) = L := by
    rw [show ((x.1, x.2) : Ent) = x from rfl, ← he]
    exact List.set_getElem_self hl
  rw [hs] at h2
  refine ⟨(flat encE L).take (i * 8) ++ headE x, (flat encE L).drop ((i + 1) * 8), ?_, ?_, ?_⟩
  · rw [List.length_append, List.length_take, flat_len encE_len]
    have : (headE x).length = 5 := rfl
    omega
  · conv => lhs; rw [h2]
    rw [encE_split]
    simp only [List.append_assoc]
  · rw [h1, encE_split]
    simp only [List.append_assoc]
    rfl

theorem three_set {w : World} {base g n cap o : Nat} {A C : List Value} {q : Plc} (p : Plc) (h : w.ownsRow base 138 8 (.slice (some ⟨g, 0, none⟩) n cap) n (A ++ cellsP q ++ C)) (ho : A.length = o) :
    (((w.setCell ⟨g, o, none⟩ (.int .i64 p.1)).setCell ⟨g, o + 1, none⟩ (.int .i64 p.2.1)).setCell ⟨g, o + 2, none⟩ (.string p.2.2)).ownsRow base 138 8 (.slice (some ⟨g, 0, none⟩) n cap) n (A ++ cellsP p ++ C) := by
  subst ho
  exact owns_over (vs := cellsP p) h rfl
theorem three_keeps (w : World) (g o1 o2 o3 : Nat) (v1 v2 v3 : Value) : Keeps (fun k => k = g) w (((w.setCell ⟨g, o1, none⟩ v1).setCell ⟨g, o2, none⟩ v2).setCell ⟨g, o3, none⟩ v3) :=
  ((setCells_keeps g [v1] o1 w).trans (setCells_keeps g [v2] o2 _)).trans (setCells_keeps g [v3] o3 _)

/-- The tree's own variable. -/
def TreeCell (w : World) (bt bm : Nat) (v : Value) : Prop := w.heap[bt]? = some (.cells #[.map (some bm), v] 131 (0, 0))
theorem TreeCell.c0 {w : World} {bt bm : Nat} {v : Value} (h : TreeCell w bt bm v) : w.cell? ⟨bt, 0, none⟩ = some (.map (some bm)) := by unfold TreeCell at h; simp [World.cell?, h]
theorem TreeCell.c1 {w : World} {bt bm : Nat} {v : Value} (h : TreeCell w bt bm v) : w.cell? ⟨bt, 1, none⟩ = some v := by unfold TreeCell at h; simp [World.cell?, h]
theorem TreeCell.fz {w : World} {bt bm : Nat} {v : Value} (h : TreeCell w bt bm v) (o : Nat) : w.frozen? ⟨bt, o, none⟩ = false := by unfold TreeCell at h; simp [World.frozen?, h]
theorem TreeCell.lt {w : World} {bt bm : Nat} {v : Value} (h : TreeCell w bt bm v) : bt < w.heap.size := (Array.getElem?_eq_some_iff.1 h).1
theorem TreeCell.ne_map {w : World} {bt bm n : Nat} {v : Value} {f : Sta} (h : TreeCell w bt bm v) (hM : MapAt Tryd.prog 3 w bm n f) : bt ≠ bm := by
  intro e
  obtain ⟨es, ck, hb⟩ := hM.block
  unfold TreeCell at h
  rw [e, hb] at h
  cases h
theorem row_block {w : World} {base n : Nat} {g cap k : Nat} {xs : List Value} (h : w.ownsRow base 138 8 (.slice (some ⟨g, 0, none⟩) n cap) k xs) : ∃ cur, w.heap[g]? = some (.cells cur 138 (0, 0)) := by
  rcases h.2 with ⟨hc, _⟩ | ⟨g', cap', cur, hc, _, hg, _⟩
  · cases hc
  · cases hc; exact ⟨cur, hg⟩
theorem row_ne_map {w : World} {base n g cap k bm nn : Nat} {xs : List Value} {f : Sta} (h : w.ownsRow base 138 8 (.slice (some ⟨g, 0, none⟩) n cap) k xs) (hM : MapAt Tryd.prog 3 w bm nn f) : g ≠ bm := by
  intro e
  obtain ⟨cur, hc⟩ := row_block h
  obtain ⟨es, ck, hb⟩ := hM.block
  rw [e, hb] at hc
  cases hc
theorem row_ne_tree {w : World} {base n g cap k bt bm : Nat} {xs : List Value} {v : Value} (h : w.ownsRow base 138 8 (.slice (some ⟨g, 0, none⟩) n cap) k xs) (hT : TreeCell w bt bm v) : g ≠ bt := by
  intro e
  obtain ⟨cur, hc⟩ := row_block h
  unfold TreeCell at hT
  rw [e, hT] at hc
  simp at hc
theorem row_at {w : World} {base g cap n : Nat} {L : List Ent} (h : w.ownsRow base 138 8 (.slice (some ⟨g, 0, none⟩) n cap) n (flat encE L)) : RowAt w g 0 L := fun j u hj => by
  have := h.cells (g := g) rfl j u hj
  rw [Addr.add_lit] at this
  exact this
theorem row_fz {w : World} {base g cap n k : Nat} {xs : List Value} (h : w.ownsRow base 138 8 (.slice (some ⟨g, 0, none⟩) n cap) k xs) (j : Nat) : w.frozen? ⟨g, j, none⟩ = false := by
  obtain ⟨cur, hc⟩ := row_block h
  simp [World.frozen?, hc]
theorem row_same {w w' : World} {base g cap n k : Nat} {xs : List Value} (h : w.ownsRow base 138 8 (.slice (some ⟨g, 0, none⟩) n cap) k xs) (e : w'.heap[g]? = w.heap[g]?) : w'.ownsRow base 138 8 (.slice (some ⟨g, 0, none⟩) n cap) k xs := by
  refine ⟨h.1, ?_⟩
  rcases h.2 with ⟨hc, _⟩ | ⟨g', cap', cur, hc, h1, hg, h2⟩
  · cases hc
  · cases hc; exact .inr ⟨g, cap, cur, rfl, h1, e.trans hg, h2⟩

set_option maxRecDepth 100000 in
set_option maxHeartbeats 1000000 in
theorem do_any (w : World) (bt bm base g cap at_ n : Nat) (L : List Ent) (ms : List Mov) (hT : TreeCell w bt bm (.slice (some ⟨g, 0, none⟩) ms.length cap)) (hown : w.ownsRow base 138 8 (.slice (some ⟨g, 0, none⟩) ms.length cap) ms.length (flat encE L)) (hL : LogTo ms at_ L)
    (hM : MapAt Tryd.prog 3 w bm n (madeBy (ms.take at_))) (hfine : ∀ m ∈ ms, FineP m.2) (hat : at_ ≤ ms.length) (hlen : ms.length ≤ 1000) (hn : n ≤ 1000000) :
    Calls Tryd.prog 85 #[.pointer (some ⟨bt, 0, none⟩), .int .i64 (at_ : Int)] w fun e w' => (∃ u, e = .returned u) ∧ ∃ L' n', LogTo ms ms.length L' ∧ w'.ownsRow base 138 8 (.slice (some ⟨g, 0, none⟩) ms.length cap) ms.length (flat encE L') ∧ MapAt Tryd.prog 3 w' bm n' (madeBy ms) ∧ n' ≤ n + ms.length ∧ Keeps (fun k => k = bm ∨ k = g) w w' := by
  have htm := hT.ne_map hM
  have hgm := row_ne_map hown hM
  have hgt := row_ne_tree hown hT
  have hbt := hT.lt
  have hgw : g < w.heap.size := (Array.getElem?_eq_some_iff.1 (row_block hown).choose_spec).1
  have hbm := hM.lt
  go_enter Tryd.func85, Tryd.ntmps85
  go_wp2
  go_loopg [4] (ms.length - at_) (fun kx s4 wr => ∃ (i : Nat) (L : List Ent) (n' : Nat), s4 = .int .i64 (i : Int) ∧ i ≤ ms.length ∧ ms.length - i ≤ kx ∧ LogTo ms i L ∧ wr.ownsRow base 138 8 (.slice (some ⟨g, 0, none⟩) ms.length cap) ms.length (flat encE L) ∧ MapAt Tryd.prog 3 wr bm n' (madeBy (ms.take i)) ∧ n' ≤ n + i ∧ Keeps (fun k => k = bm ∨ k = g) w wr)
  case atStart => exact ⟨at_, L, n, rfl, hat, Nat.le_refl _, hL, hown, hM, Nat.le_add_right _ _, Keeps.refl _ _⟩
  case round =>
    obtain ⟨i, L, n', rfl, hi, hkx, hL, hown, hM, hn', hk⟩ := hrel
    have hT1 : TreeCell wr bt bm (.slice (some ⟨g, 0, none⟩) ms.length cap) := (hk.block bt hbt (by omega)).trans ‹TreeCell w bt bm _›
    have t0 := hT1.c0
    have t1 := hT1.c1
    have hsz := hk.size
    by_cases hlt : i < ms.length
    · have hltz : decide ((i : Int) < (ms.length : Int)) = true := by simp; omega
      obtain ⟨x, hx⟩ : ∃ x, L[i]? = some x := ⟨_, List.getElem?_eq_getElem (by rw [hL.len]; exact hlt)⟩
      have hmx := hL.mov hx
      have hf : FineP x.1.2 := hfine _ (List.mem_of_getElem? hmx)
      have hrow := row_at hown
      have c2 : wr.cell? ⟨g, i * 8 + 2, none⟩ = some (.int .i64 x.1.2.1) := by have := hrow.at hx 2 (u := .int .i64 x.1.2.1) rfl; rwa [Nat.zero_add] at this
      have c3 : wr.cell? ⟨g, i * 8 + 3, none⟩ = some (.int .i64 x.1.2.2.1) := by have := hrow.at hx 3 (u := .int .i64 x.1.2.2.1) rfl; rwa [Nat.zero_add] at this
      have c4 : wr.cell? ⟨g, i * 8 + 4, none⟩ = some (.string x.1.2.2.2) := by have := hrow.at hx 4 (u := .string x.1.2.2.2) rfl; rwa [Nat.zero_add] at this
      have ex : ((i : Int)).toNat = i := by omega
      have px : (0 : Int) ≤ (i : Int) := by omega
      have bx : (i : Int) < (ms.length : Int) := by omega
      have HH : Aside (LogTo ms i L ∧ wr.ownsRow base 138 8 (.slice (some ⟨g, 0, none⟩) ms.length cap) ms.length (flat encE L) ∧ MapAt Tryd.prog 3 wr bm n' (madeBy (ms.take i)) ∧ Keeps (fun k => k = bm ∨ k = g) w wr ∧ TreeCell wr bt bm (.slice (some ⟨g, 0, none⟩) ms.length cap) ∧ RowAt wr g 0 L ∧ L[i]? = some x ∧ ms[i]? = some x.1) := ⟨hL, hown, hM, hk, hT1, hrow, hx, hmx⟩
      clear hL hown hM hk hT1 hrow hx hmx
      go_wp2
      obtain ⟨w1, hw1⟩ : ∃ w1, w1 = wr.alloc (.cells #[.int .i64 x.1.2.1, .int .i64 x.1.2.2.1, .string x.1.2.2.2] 95) := ⟨_, rfl⟩
      have hp1 : PlcAt w1 wr.heap.size x.1.2 := by rw [hw1]; exact heap_alloc_new wr _
      have hold : ∀ k, k < wr.heap.size → w1.heap[k]? = wr.heap[k]? := fun k hk => by rw [hw1]; exact Below.heap_alloc wr _ k hk
      have hs1 : w1.heap.size = wr.heap.size + 1 := by rw [hw1]; simp
      have hk1 : Keeps (fun k => k = bm ∨ k = g) w w1 := by rw [hw1]; exact HH.out.2.2.2.1.alloc _
      have hown1 := row_same HH.out.2.1 (hold g (by omega))
      have hT1 : TreeCell w1 bt bm (.slice (some ⟨g, 0, none⟩) ms.length cap) := (hold bt (by omega)).trans HH.out.2.2.2.2.1
      have hM1 := HH.out.2.2.1.same (hold bm (by omega))
      obtain ⟨b5, hb5⟩ : ∃ b5, b5 = wr.heap.size := ⟨_, rfl⟩
      rw [← hw1]
      rw [← hb5] at hp1 hs1 ⊢
      have hg5 : g < b5 := by omega
      have hb5w : w.heap.size ≤ b5 := by omega
      have hm5 : bm < b5 := by omega
      have ht5 : bt < b5 := by omega
      clear hw1 hold hb5 t0 t1 c2 c3 c4
      have hrow1 := row_at hown1
      have t0 := hT1.c0
      have t1 := hT1.c1
      have p0 := hp1.c0
      have p1 := hp1.c1
      have p2 := hp1.c2
      have hwn : Wf x.1.2.1 := (wf_fine hf).1
      have l0 := hM1.looks1 hwn
      have l1 := (show MapAt Tryd.prog 3 w1.drew bm n' (madeBy (ms.take i)) from hM1).looks1 hwn
      unfold encP at l0 l1
      have c5 : w1.cell? ⟨g, i * 8 + 5, none⟩ = some (.int .i64 x.2.1) := by have := hrow1.at HH.out.2.2.2.2.2.2.1 5 (u := .int .i64 x.2.1) rfl; rwa [Nat.zero_add] at this
      have c6 : w1.cell? ⟨g, i * 8 + 6, none⟩ = some (.int .i64 x.2.2.1) := by have := hrow1.at HH.out.2.2.2.2.2.2.1 6 (u := .int .i64 x.2.2.1) rfl; rwa [Nat.zero_add] at this
      have c7 : w1.cell? ⟨g, i * 8 + 7, none⟩ = some (.string x.2.2.2) := by have := hrow1.at HH.out.2.2.2.2.2.2.1 7 (u := .string x.2.2.2) rfl; rwa [Nat.zero_add] at this
      have z5 := row_fz hown1 (i * 8 + 5)
      have z6 := row_fz hown1 (i * 8 + 6)
      have z7 := row_fz hown1 (i * 8 + 7)
      obtain ⟨fr, hfr⟩ : ∃ fr, fr = (madeBy (ms.take i) x.1.2.1).getD zeroP := ⟨_, rfl⟩
      rw [← hfr] at l0 l1
      have H1 : Aside (w1.ownsRow base 138 8 (.slice (some ⟨g, 0, none⟩) ms.length cap) ms.length (flat encE L) ∧ MapAt Tryd.prog 3 w1 bm n' (madeBy (ms.take i)) ∧ Keeps (fun k => k = bm ∨ k = g) w w1 ∧ TreeCell w1 bt bm (.slice (some ⟨g, 0, none⟩) ms.length cap) ∧ PlcAt w1 b5 x.1.2 ∧ fr = fromAt ms i) := ⟨hown1, hM1, hk1, hT1, hp1, by rw [hfr, fromAt_some HH.out.2.2.2.2.2.2.2]⟩
      clear hown1 hM1 hk1 hT1 hp1 hrow1 hfr
      go_region
      obtain ⟨w2, hw2⟩ : ∃ w2, w2 = (((w1.setCell ⟨g, i * 8 + 5, none⟩ (.int .i64 fr.1)).setCell ⟨g, i * 8 + 5 + 1, none⟩ (.int .i64 fr.2.1)).setCell ⟨g, i * 8 + 5 + 2, none⟩ (.string fr.2.2)).drew := ⟨_, rfl⟩
      rw [← hw2]
      have hk12 : Keeps (fun k => k = g) w1 w2 := by rw [hw2]; exact (three_keeps w1 g _ _ _ _ _ _).drew
      obtain ⟨A, C, hA, hf1, hf2⟩ := row_split HH.out.2.2.2.2.2.2.1 fr
      have hown2 : w2.ownsRow base 138 8 (.slice (some ⟨g, 0, none⟩) ms.length cap) ms.length (flat encE (L.set i (x.1, fr))) := by
        have := H1.out.1
        rw [hf1] at this
        rw [hw2, hf2]
        exact three_set fr this hA
      have hM2 := H1.out.2.1.same (hk12.block bm (by omega) (by omega))
      have hT2 : TreeCell w2 bt bm (.slice (some ⟨g, 0, none⟩) ms.length cap) := (hk12.block bt (by omega) (by omega)).trans H1.out.2.2.2.1
      have hp2 : PlcAt w2 b5 x.1.2 := H1.out.2.2.2.2.1.same (hk12.block b5 (by omega) (by omega))
      have hk2 : Keeps (fun k => k = bm ∨ k = g) w w2 := H1.out.2.2.1.then hk12 (fun _ _ e => .inr e)
      have hs2 := hk12.size
      have hL2 : LogTo ms (i + 1) (L.set i (x.1, fr)) := by rw [H1.out.2.2.2.2.2]; exact set_to HH.out.1 HH.out.2.2.2.2.2.2.1
      have hmade := made_take HH.out.2.2.2.2.2.2.2
      have hgood : Good (madeBy (ms.take i)) := good_made (fun m hm => hfine m (List.mem_of_mem_take hm))
      have H2 : Aside (w2.ownsRow base 138 8 (.slice (some ⟨g, 0, none⟩) ms.length cap) ms.length (flat encE (L.set i (x.1, fr))) ∧ MapAt Tryd.prog 3 w2 bm n' (madeBy (ms.take i)) ∧ Keeps (fun k => k = bm ∨ k = g) w w2 ∧ TreeCell w2 bt bm (.slice (some ⟨g, 0, none⟩) ms.length cap) ∧ PlcAt w2 b5 x.1.2 ∧ LogTo ms (i + 1) (L.set i (x.1, fr)) ∧ madeBy (ms.take (i + 1)) = step (madeBy (ms.take i)) x.1 ∧ w2.heap.size ≥ w1.heap.size) := ⟨hown2, hM2, hk2, hT2, hp2, hL2, hmade, hs2⟩
      clear hw2 hk12 hA hf1 hf2 hown2 hM2 hT2 hk2 hL2 hmade t0 t1 p0 p1 p2 l0 l1 c5 c6 c7 z5 z6 z7 H1 HH
      have p0 := hp2.c0
      have p1 := hp2.c1
      have p2 := hp2.c2
      have t0 := H2.out.2.2.2.1.c0
      clear hp2
      by_cases he : x.1.2.1 = x.1.2.2.1
      · have d0 : (x.1.2.1 != x.1.2.2.1) = false := by simp [he]
        have hidle : Idle (madeBy (ms.take i)) x.1.2 := .inl he
        have HI : Aside (madeBy (ms.take (i + 1)) = madeBy (ms.take i)) := H2.out.2.2.2.2.2.2.1.trans (step_idle hidle)
        clear he hidle
        go_wp2
        go_roundg (ms.length - (i + 1))
        case measure => omega
        case rel => exact ⟨i + 1, L.set i (x.1, fr), n', by go_num, by omega, Nat.le_refl _, H2.out.2.2.2.2.2.1, H2.out.1, by rw [HI.out]; exact H2.out.2.1, by omega, H2.out.2.2.1⟩
      · have d0 : (x.1.2.1 != x.1.2.2.1) = true := by simp [he]
        have hwo : Wf x.1.2.2.1 := (wf_fine hf).2
        by_cases hin : Ins (madeBy (ms.take i)) x.1.2.2.1 x.1.2.1
        · have hidle : Idle (madeBy (ms.take i)) x.1.2 := .inr hin
          have HI : Aside (madeBy (ms.take (i + 1)) = madeBy (ms.take i)) := H2.out.2.2.2.2.2.2.1.trans (step_idle hidle)
          have hcall := inside_is w2 bt bm n' (madeBy (ms.take i)) x.1.2.2.1 x.1.2.1 true (by simp [hin]) t0 H2.out.2.1 hgood hwo
          clear he hidle hin hgood
          go_wp2_with (go_at_call 58; refine hcall.mono ?_; clear hcall; rintro e w3 ⟨rfl, hb3⟩)
          have hk3 : Keeps (fun k => k = bm ∨ k = g) w w3 := H2.out.2.2.1.then (keeps_of_below hb3) (fun i hi e => by have := H2.out.2.2.1.size; omega)
          have hown3 := row_same H2.out.1 (hb3.block g (by have := H2.out.2.2.2.2.2.2.2; omega))
          have hM3 := H2.out.2.1.same (hb3.block bm (by have := H2.out.2.2.2.2.2.2.2; omega))
          go_roundg (ms.length - (i + 1))
          case measure => omega
          case rel => exact ⟨i + 1, L.set i (x.1, fr), n', by go_num, by omega, Nat.le_refl _, H2.out.2.2.2.2.2.1, hown3, by rw [HI.out]; exact hM3, by omega, hk3⟩
        · have hidle : ¬ Idle (madeBy (ms.take i)) x.1.2 := fun h => h.elim he hin
          have HI : Aside (madeBy (ms.take (i + 1)) = upd (madeBy (ms.take i)) x.1.2.1 (some x.1.2)) := H2.out.2.2.2.2.2.2.1.trans (step_goes hidle)
          have hcall := inside_is w2 bt bm n' (madeBy (ms.take i)) x.1.2.2.1 x.1.2.1 false (by simp [hin]) t0 H2.out.2.1 hgood hwo
          clear he hidle hin hgood
          go_wp2_with (go_at_call 58; refine hcall.mono ?_; clear hcall; rintro e w3 ⟨rfl, hb3⟩)
          have hs3 := H2.out.2.2.2.2.2.2.2
          have hk3 : Keeps (fun k => k = bm ∨ k = g) w w3 := H2.out.2.2.1.then (keeps_of_below hb3) (fun i hi e => by have := H2.out.2.2.1.size; omega)
          have hown3 := row_same H2.out.1 (hb3.block g (by omega))
          have hM3 := H2.out.2.1.same (hb3.block bm (by omega))
          have hT3 : TreeCell w3 bt bm (.slice (some ⟨g, 0, none⟩) ms.length cap) := (hb3.block bt (by omega)).trans H2.out.2.2.2.1
          have hp3 : PlcAt w3 b5 x.1.2 := H2.out.2.2.2.2.1.same (hb3.block b5 (by omega))
          obtain ⟨w4, hrun, hM4, ht4⟩ := (show MapAt Tryd.prog 3 w3.drew bm n' (madeBy (ms.take i)) from hM3).store (T := 128) (E := 95) Tryd.underlying3 Tryd.underlying128 (by simp only [maxLen]; omega) hwn x.1.2
          unfold encP at hrun
          have hg4 := ht4.grown
          have hg4' : w3.grownBy w4 (some bm) := ⟨hg4.os, hg4.tape, hg4.output, hg4.size, hg4.block⟩
          have hk4 : Keeps (fun k => k = bm ∨ k = g) w w4 := hk3.then (keeps_of_grown hg4') (fun i _ e => .inl (by simpa using e))
          have hown4 := row_same hown3 (hg4'.block g (by have := hb3.size; omega) (by simpa using hgm))
          have H4 : Aside (Keeps (fun k => k = bm ∨ k = g) w w4 ∧ w4.ownsRow base 138 8 (.slice (some ⟨g, 0, none⟩) ms.length cap) ms.length (flat encE (L.set i (x.1, fr))) ∧ MapAt Tryd.prog 3 w4 bm (n' + 1) (madeBy (ms.take (i + 1)))) := ⟨hk4, hown4, by rw [HI.out]; exact hM4⟩
          have q0 := hp3.c0
          have q1 := hp3.c1
          have q2 := hp3.c2
          have u0 := hT3.c0
          clear p0 p1 p2 t0 hb3 hk3 hown3 hM3 hT3 hp3 hM4 ht4 hg4 hg4' hk4 hown4
          go_region
          all_goals go_wp2
          go_roundg (ms.length - (i + 1))
          case measure => omega
          case rel => exact ⟨i + 1, L.set i (x.1, fr), n' + 1, by go_num, by omega, Nat.le_refl _, H2.out.2.2.2.2.2.1, H4.out.2.1, H4.out.2.2, by omega, H4.out.1⟩
    · have hltz : decide ((i : Int) < (ms.length : Int)) = false := by simp; omega
      have hie : i = ms.length := by omega
      subst hie
      rw [List.take_length] at hM
      go_wp2
      go_end0
      exact ⟨⟨_, rfl⟩, L, n', hL, hown, hM, hn', hk⟩
end Go.Proofs.YtnfhbmgkiknaaaaDoor
