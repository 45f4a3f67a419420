import Derived.Test.YtehighgebbdenaaGreatDoorVp12
import Derived.Test.YtehighgebbdenaaGreatDoorVp13
import Derived.Deep.Cut
import Derived.Deep.CutRange
import Derived.Deep.DeepCutAuto
import Derived.OwnWalk
import Derived.Laws.IdiomStrings
import Derived.Laws.AppendOwn
import Derived.Lib.AppendIntMem
import Derived.Deep.LoopGhost
import Derived.Deep.AppendLies
section
namespace Go.Proofs.YtehighgebbdenaaGreatDoor
open Go.RowKit Go.Lib Go.Sort
section
variable {P : Program} {ops : Array Oper} {Q : Exit → Act → World → Prop} {md : Region.Mode} {S : World → Prop} {z : Nat}
theorem wpAnyZ_two {i j : Nat} {oi oj : Oper} {fuel : Nat} {listed : Array Bool} {a : Act} {w : World} (hr : Region.ready md ops listed = [i, j]) (hoi : ops[i]? = some oi) (hoj : ops[j]? = some oj)
    (h1 : ∀ K : Act → World → Prop, (∀ a' w', (S w' ∨ i = z ∧ z < listed.size) → wpAnyZ P md ops Q S z fuel (listed.setIfInBounds i true) a' w' → K a' w') → if Region.wanted oi (yielded ops a.tmps) = true then Oper.wp P oi a w K Q else K (a.put oi.dst undef) w)
    (h2 : ∀ K : Act → World → Prop, (∀ a' w', (S w' ∨ j = z ∧ z < listed.size) → wpAnyZ P md ops Q S z fuel (listed.setIfInBounds j true) a' w' → K a' w') → if Region.wanted oj (yielded ops a.tmps) = true then Oper.wp P oj a w K Q else K (a.put oj.dst undef) w) : wpAnyZ P md ops Q S z (fuel + 1) listed a w := by
  refine ⟨fun h0 => (by rw [h0] at hr; cases hr), fun k hk => ?_⟩
  rw [hr] at hk
  simp only [List.mem_cons, List.not_mem_nil, or_false] at hk
  rcases hk with rfl | rfl
  · have := h1 (fun a' w' => (S w' ∨ (listed.setIfInBounds k true).getD z false = true) ∧ wpAnyZ P md ops Q S z fuel (listed.setIfInBounds k true) a' w') (fun a' w' h1 h2 => ⟨h1.imp id (fun h => by
      obtain ⟨e, hl⟩ := h
      subst e
      simp [hl]), h2⟩)
    unfold wpOp
    simp only [hoi]
    split
    · rename_i hw
      rw [if_pos hw] at this
      exact .inl this
    · rename_i hw
      rw [if_neg hw] at this
      exact this
  · have := h2 (fun a' w' => (S w' ∨ (listed.setIfInBounds k true).getD z false = true) ∧ wpAnyZ P md ops Q S z fuel (listed.setIfInBounds k true) a' w') (fun a' w' h1 h2 => ⟨h1.imp id (fun h => by
      obtain ⟨e, hl⟩ := h
      subst e
      simp [hl]), h2⟩)
    unfold wpOp
    simp only [hoj]
    split
    · rename_i hw
      rw [if_pos hw] at this
      exact .inl this
    · rename_i hw
      rw [if_neg hw] at this
      exact this
end
structure Ln4 (ad : Nat → Addr) (w : World) : Prop where
  c1 : w.cell? ⟨2, 0, none⟩ = some (.iface 399 (.pointer (some (ad 1))))
  c2 : w.cell? ⟨4, 0, none⟩ = some (.iface 399 (.pointer (some (ad 2))))
  c5 : w.cell? ⟨0, 0, none⟩ = some (.iface 399 (.pointer (some (ad 5))))
  c6 : w.cell? ⟨7, 0, none⟩ = some (.iface 399 (.pointer (some (ad 6))))
theorem Ln4.later {ad : Nat → Addr} {w w' : World} (h : Ln4 ad w) (hb : Below w.heap.size w w') : Ln4 ad w' :=
  ⟨cellStays hb h.c1, cellStays hb h.c2, cellStays hb h.c5, cellStays hb h.c6⟩
def ShapeOk (id behind : Int) : Prop := 4 ≤ id ∧ id < 4294967300 ∧ 0 ≤ behind ∧ behind < id
set_option maxRecDepth 100000 in
set_option maxHeartbeats 1000000 in
theorem insert_shape {ad : Nat → Addr} (w : World) (p : Nat) (id behind : Int) (c : Nat) (hE : Ln4 ad w) (hi : -9223372036854775808 ≤ id ∧ id ≤ 9223372036854775807) (h : ¬ ShapeOk id behind) :
    Calls Tryz.prog 126 #[.pointer (some ⟨p, 0, none⟩), .int .i64 id, .int .i64 behind, .int .u8 (c : Int)] w fun e w' => e = .returned (.iface 399 (.pointer (some (ad 2)))) ∧ Below w.heap.size w w' := by
  have HE : Aside (Ln4 ad w) := hE
  have hzb : 2 < w.heap.size := World.block_lt_of_cell? w ⟨_, 0, none⟩ hE.c1
  by_cases h1 : 4 ≤ id ∧ id < 4294967300
  · have hof := of_ok id w h1.1 h1.2
    by_cases h2 : behind < 0
    · have d2 : decide (behind < 0) = true := decide_eq_true h2
      clear hE h h1 hi hzb
      go_enter Tryz.func126, Tryz.ntmps126
      go_wp2_with fail
      refine hof.mono ?_
      rintro e w1 ⟨rfl, hb⟩
      have B2 : Aside (∀ o, Below w.heap.size w (w1.alloc o)) := fun o => hb.alloc hb.size o
      have c2 : ∀ o, (w1.alloc o).cell? ⟨4, 0, none⟩ = _ := fun o => (HE.out.later (B2.out o)).c2
      clear hb hof
      go_wp2
      go_ret
      exact ⟨rfl, B2.out _⟩
    · have d2 : decide (behind < 0) = false := decide_eq_false h2
      have d3 : decide (id ≤ behind) = true := decide_eq_true (by unfold ShapeOk at h; omega)
      clear hE h h1 hi hzb
      go_enter Tryz.func126, Tryz.ntmps126
      go_wp2_with fail
      refine hof.mono ?_
      rintro e w1 ⟨rfl, hb⟩
      have B2 : Aside (∀ o, Below w.heap.size w (w1.alloc o)) := fun o => hb.alloc hb.size o
      have c2 : ∀ o, (w1.alloc o).cell? ⟨4, 0, none⟩ = _ := fun o => (HE.out.later (B2.out o)).c2
      clear hb hof
      go_wp2
      go_ret
      exact ⟨rfl, B2.out _⟩
  · have hof := of_no id w _ _ hE.c1 hzb (by omega) hi.1 hi.2
    clear hE h h1 hi hzb
    go_enter Tryz.func126, Tryz.ntmps126
    go_wp2_with fail
    refine hof.mono ?_
    rintro e w1 ⟨rfl, hb⟩
    have B2 : Aside (∀ o, Below w.heap.size w (w1.alloc o)) := fun o => hb.alloc hb.size o
    have c2 : ∀ o, (w1.alloc o).cell? ⟨4, 0, none⟩ = _ := fun o => (HE.out.later (B2.out o)).c2
    clear hb hof
    go_wp2
    go_ret
    exact ⟨rfl, B2.out _⟩
set_option maxRecDepth 100000 in
set_option maxHeartbeats 1000000 in
theorem insert_exist {ad : Nat → Addr} (w : World) (base p : Nat) (v : Value) (L : List Ltr) (id behind : Int) (c : Nat) (hE : Ln4 ad w) (hT : LineAt base w p v L) (hL : L.length ≤ 1000) (h : ShapeOk id behind) (hx : id ∈ L.map (·.1)) :
    Calls Tryz.prog 126 #[.pointer (some ⟨p, 0, none⟩), .int .i64 id, .int .i64 behind, .int .u8 (c : Int)] w fun e w' => e = .returned (.iface 399 (.pointer (some (ad 6)))) ∧ Below w.heap.size w w' := by
  have HE : Aside (Ln4 ad w) := hE
  have HT : Aside (LineAt base w p v L) := hT
  have hof := of_ok id w h.1 h.2.1
  have d2 : decide (behind < 0) = false := decide_eq_false (by have := h.2.2.1; omega)
  have d3 : decide (id ≤ behind) = false := decide_eq_false (by have := h.2.2.2; omega)
  obtain ⟨i, hi, -, hil⟩ := findI_pos hx
  have d4 : decide ((0 : Int) ≤ (i : Int)) = true := by simp
  have HI := Lib.hid hi
  clear hE hT h hx hi
  go_enter Tryz.func126, Tryz.ntmps126
  go_wp2_with fail
  refine hof.mono ?_
  rintro e w1 ⟨rfl, hb⟩
  have B2 : Aside (∀ o, Below w.heap.size w (w1.alloc o)) := fun o => hb.alloc hb.size o
  clear hb hof
  go_wp2_with fail
  refine (lfind_any _ base p v L id (HT.out.later (B2.out _)) hL).mono ?_
  rintro e w2 ⟨rfl, hb2⟩
  rw [HI.out]
  have B3 : Aside (Below w.heap.size w w2) := (B2.out _).trans (hb2.mono (B2.out _).size)
  have c6 := (HE.out.later B3.out).c6
  clear hb2
  go_wp2
  go_ret
  exact ⟨rfl, B3.out⟩
set_option maxRecDepth 100000 in
set_option maxHeartbeats 1000000 in
theorem insert_none {ad : Nat → Addr} (w : World) (base p : Nat) (v : Value) (L : List Ltr) (id behind : Int) (c : Nat) (hE : Ln4 ad w) (hT : LineAt base w p v L) (hL : L.length ≤ 1000) (h : ShapeOk id behind) (hx : id ∉ L.map (·.1)) (h0 : behind ≠ 0) (hy : behind ∉ L.map (·.1)) :
    Calls Tryz.prog 126 #[.pointer (some ⟨p, 0, none⟩), .int .i64 id, .int .i64 behind, .int .u8 (c : Int)] w fun e w' => e = .returned (.iface 399 (.pointer (some (ad 5)))) ∧ Below w.heap.size w w' := by
  have HE : Aside (Ln4 ad w) := hE
  have HT : Aside (LineAt base w p v L) := hT
  have hof := of_ok id w h.1 h.2.1
  have d2 : decide (behind < 0) = false := decide_eq_false (by have := h.2.2.1; omega)
  have d3 : decide (id ≤ behind) = false := decide_eq_false (by have := h.2.2.2; omega)
  have d4 : (behind != 0) = true := by simp [h0]
  have HI := Lib.hid (findI_neg hx)
  have HJ := Lib.hid (findI_neg hy)
  clear hE hT h hx hy h0
  go_enter Tryz.func126, Tryz.ntmps126
  go_wp2_with fail
  refine hof.mono ?_
  rintro e w1 ⟨rfl, hb⟩
  have B2 : Aside (∀ o, Below w.heap.size w (w1.alloc o)) := fun o => hb.alloc hb.size o
  clear hb hof
  go_wp2_with fail
  refine (lfind_any _ base p v L id (HT.out.later (B2.out _)) hL).mono ?_
  rintro e w2 ⟨rfl, hb2⟩
  rw [HI.out]
  have B3 : Aside (Below w.heap.size w w2) := (B2.out _).trans (hb2.mono (B2.out _).size)
  clear hb2
  go_wp2_with fail
  refine (lfind_any _ base p v L behind (HT.out.later B3.out) hL).mono ?_
  rintro e w3 ⟨rfl, hb3⟩
  rw [HJ.out]
  have B4 : Aside (Below w.heap.size w w3) := B3.out.trans (hb3.mono B3.out.size)
  have c5 := (HE.out.later B4.out).c5
  clear hb3
  go_wp2
  go_ret
  exact ⟨rfl, B4.out⟩
end Go.Proofs.YtehighgebbdenaaGreatDoor
end
section
set_option linter.unusedVariables false
set_option linter.unusedSimpArgs false
namespace Go.Proofs.YtehighgebbdenaaGreatDoor
open Go.RowKit Go.Lib Go.Sort
theorem rowSucc {w : World} {base n k : Nat} {v : Value} {e : TypeId} {xs : List Value} (h : w.ownsRow base e k v (n + 1) xs) : ∃ g cap, v = .slice (some ⟨g, 0, none⟩) (n + 1) cap := by
  rcases h.2 with ⟨_, h2⟩ | ⟨g, cap, cur, rfl, _⟩
  · omega
  · exact ⟨g, cap, rfl⟩
theorem LineAt.ne {base : Nat} {w : World} {p : Nat} {v : Value} {L : List Ltr} (h : LineAt base w p v L) : ∀ g, v.ownBlock = some g → g ≠ p ∧ g < w.heap.size ∧ base ≤ g := fun g hg => by
  have h1 := h.row.lt g hg
  have h2 := h.low
  exact ⟨by omega, h1.2, h1.1⟩
theorem lay_letter (X : World) (base p vb k : Nat) (v : Value) (L : List Ltr) (x : Ltr) (hT : LineAt base X p v L) (hbase : base ≤ X.heap.size) (hL : L.length ≤ 900) (hk : k ≤ L.length) (hvb : X.heap[vb]? = some (.cells #[.int .i64 x.1, .int .u8 (x.2.1 : Int), .bool (!x.2.2)] 250 (0, 0))) (hvn : some vb ≠ v.ownBlock) :
    Calls Tryz.prog 193 #[v, .int .i64 (k : Int), .slice (some ⟨vb, 0, none⟩) 1 1] X
      fun e w' => ∃ g' cap', e = .returned (.slice (some ⟨g', 0, none⟩) (L.length + 1) cap') ∧ w'.cell? ⟨p, 0, none⟩ = some v ∧ w'.frozen? ⟨p, 0, none⟩ = false ∧ Aside (w'.ownsRow base 250 3 (.slice (some ⟨g', 0, none⟩) (L.length + 1) cap') (L.length + 1) (flat encL (L.take k ++ x :: L.drop k)) ∧ Keeps (fun k => some k = v.ownBlock) X w' ∧ (some g' = v.ownBlock ∨ X.heap.size ≤ g') ∧ w'.heap[p]? = some (.cells #[v] 248 (0, 0))) := by
  refine (layLtr_any X base L.length k v (flat encL L) (encL x) hT.row (by omega) vb rfl (fun j u hj => ?_) (encL_one x) (flat_one encL_one L) hvn ?_ (fun j => ?_) hbase hk).mono ?_
  · simp only [World.cell?, hvb]
    rw [← hj]
    simp [encL]
  · simp [World.shape?, hvb]
  · simp [World.frozen?, hvb]
  · rintro e w' ⟨v', rfl, ho, hkp, hv'⟩
    obtain ⟨g', cap', rfl⟩ := rowSucc ho
    have hp := hkp.block p hT.lt (fun e => (hT.ne p e.symm).1 rfl)
    have hp' : w'.heap[p]? = some (.cells #[v] 248 (0, 0)) := hp.trans hT.cell
    rw [← flat_lay encL_len L k hk] at ho
    refine ⟨g', cap', rfl, by simp [World.cell?, hp'], by simp [World.frozen?, hp'], ho, hkp, ?_, hp'⟩
    rcases hv' with e | e
    · exact .inl e
    · right
      have : g' = X.heap.size := by simpa [Value.ownBlock] using e
      omega
theorem side_alloc {w wc : World} (hb : Below w.heap.size w wc) (cs : Array Value) (t : TypeId) : ∃ Y, Y = (wc.alloc (.cells cs t)).drew ∧ Below w.heap.size w Y ∧ Y.heap[wc.heap.size]? = some (.cells cs t (0, 0)) ∧ wc.heap.size < Y.heap.size := by
  refine ⟨_, rfl, (hb.alloc hb.size _).drew, ?_, ?_⟩
  · exact heap_alloc_new wc _
  · have h := World.size_alloc wc (.cells cs t)
    have e : (wc.alloc (.cells cs t)).drew.heap.size = (wc.alloc (.cells cs t)).heap.size := rfl
    omega
def PutOk (base : Nat) (w : World) (p : Nat) (v : Value) (M : List Ltr) (w' : World) : Prop :=
  ∃ v', LineAt base w' p v' M ∧ Keeps (fun k => k = p ∨ some k = v.ownBlock) w w' ∧ (v'.ownBlock = v.ownBlock ∨ ∀ g, v'.ownBlock = some g → w.heap.size ≤ g)
theorem put_fin {base : Nat} {w X w5 : World} {p k g' cap' : Nat} {v : Value} {L M : List Ltr} {x : Ltr} (hT : LineAt base w p v L) (hB : Below w.heap.size w X) (hM : M = L.take k ++ x :: L.drop k) (hlen : M.length = L.length + 1)
    (hn : (M.map (·.1)).Nodup) (hpos : ∀ l ∈ M, l.1 ≠ 0) (hsm : ∀ l ∈ M, l.2.1 < 256)
    (h5 : w5.ownsRow base 250 3 (.slice (some ⟨g', 0, none⟩) (L.length + 1) cap') (L.length + 1) (flat encL (L.take k ++ x :: L.drop k)) ∧ Keeps (fun k => some k = v.ownBlock) X w5 ∧ (some g' = v.ownBlock ∨ X.heap.size ≤ g') ∧ w5.heap[p]? = some (.cells #[v] 248 (0, 0))) :
    PutOk base w p v M (w5.setCell ⟨p, 0, none⟩ (.slice (some ⟨g', 0, none⟩) (L.length + 1) cap')) := by
  obtain ⟨ho, hkp, hg, hp⟩ := h5
  obtain ⟨w6, hw6⟩ : ∃ w6, w6 = w5.setCell ⟨p, 0, none⟩ (.slice (some ⟨g', 0, none⟩) (L.length + 1) cap') := ⟨_, rfl⟩
  rw [← hw6]
  have hk56 : Keeps (fun k => k = p) w5 w6 := by rw [hw6]; exact setCells_keeps p [_] 0 w5
  have hgl := ho.lt g' rfl
  have hlow := hT.low
  have hc6 : w6.heap[p]? = some (.cells #[.slice (some ⟨g', 0, none⟩) (L.length + 1) cap'] 248 (0, 0)) := by rw [hw6]; exact heap_setCell_same w5 p 0 _ _ _ hp
  have hr6 := ownsSame (w' := w6) ho (fun g hg' => by
    cases hg'
    exact hk56.block g' hgl.2 (fun e => by omega))
  have hKw : Keeps (fun k => k = p ∨ some k = v.ownBlock) w X := (keeps_of_below hB).mono (fun k hk e => by omega)
  refine ⟨_, ⟨hc6, by rw [hlen, hM]; exact hr6, hT.low, hn, hpos, hsm⟩, (hKw.then hkp (fun _ _ e => .inr e)).then hk56 (fun _ _ e => .inl e), ?_⟩
  rcases hg with h | h
  · exact .inl h
  · refine .inr (fun g hg => ?_)
    have e : g' = g := by simpa [Value.ownBlock] using hg
    have := hB.size
    omega
set_option maxRecDepth 100000 in
set_option maxHeartbeats 1000000 in
theorem insert_ok (w : World) (base p : Nat) (v : Value) (L : List Ltr) (id behind : Int) (c : Nat) (hT : LineAt base w p v L) (hbase : base ≤ w.heap.size) (hL : L.length ≤ 900) (h : ShapeOk id behind) (hc : c < 256) (hx : id ∉ L.map (·.1)) (hy : behind = 0 ∨ behind ∈ L.map (·.1)) :
    Calls Tryz.prog 126 #[.pointer (some ⟨p, 0, none⟩), .int .i64 id, .int .i64 behind, .int .u8 (c : Int)] w fun e w' => e = .returned .nilIface ∧ PutOk base w p v (put behind (id, c, false) L) w' := by
  have HT : Aside (LineAt base w p v L) := hT
  have hof := of_ok id w h.1 h.2.1
  have d2 : decide (behind < 0) = false := decide_eq_false (by have := h.2.2.1; omega)
  have d3 : decide (id ≤ behind) = false := decide_eq_false (by have := h.2.2.2; omega)
  have HI := Lib.hid (findI_neg hx)
  have HX : Aside (id ∉ L.map (·.1)) := hx
  obtain ⟨bf, k, hbf, hbk, hk, hpl⟩ : ∃ (bf : Int) (k : Nat), Aside (findI behind L = bf ∧ ((bf = -1 ∧ behind = 0) ∨ 0 ≤ bf)) ∧ IntKind.i64.wrap (bf + 1) = (k : Int) ∧ k ≤ L.length ∧ Aside (k + skipN id (L.drop k) = placeL behind id L) := by
    unfold placeL
    by_cases h0 : behind = 0
    · refine ⟨-1, 0, ⟨findI_neg (fun hm => ?_), .inl ⟨rfl, h0⟩⟩, by decide, Nat.zero_le _, ?_⟩
      · obtain ⟨l, hl, e⟩ := List.mem_map.1 hm
        exact hT.pos l hl (by rw [e, h0])
      · show _ = _
        rw [if_pos h0]
        simp
    · obtain ⟨i, hi, hf, hil⟩ := findI_pos (hy.resolve_left h0)
      refine ⟨i, i + 1, ⟨hi, .inr (by omega)⟩, ?_, by omega, ?_⟩
      · rw [IntKind.wrap_i64]; omega
      · show _ = _
        rw [if_neg h0, hf]
  have HM : Aside (put behind (id, c, false) L = L.take (placeL behind id L) ++ (id, c, false) :: L.drop (placeL behind id L) ∧ (put behind (id, c, false) L).length = L.length + 1 ∧ ((put behind (id, c, false) L).map (·.1)).Nodup ∧ (∀ l ∈ put behind (id, c, false) L, l.1 ≠ 0) ∧ (∀ l ∈ put behind (id, c, false) L, l.2.1 < 256) ∧ placeL behind id L ≤ L.length) := by
    refine ⟨(put_at hy).2, put_len hy, put_nodup hy hT.nodup hx, fun l hl => ?_, fun l hl => ?_, (put_at (x := (id, c, false)) hy).1⟩
    · rcases List.mem_cons.1 ((put_perm hy).mem_iff.1 hl) with rfl | hl
      · have := h.1
        show id ≠ 0
        omega
      · exact hT.pos l hl
    · rcases List.mem_cons.1 ((put_perm hy).mem_iff.1 hl) with rfl | hl
      · exact hc
      · exact hT.small l hl
  obtain ⟨M, hM⟩ : ∃ M, put behind (id, c, false) L = M := ⟨_, rfl⟩
  rw [hM] at HM ⊢
  obtain ⟨q, hq⟩ : ∃ q, placeL behind id L = q := ⟨_, rfl⟩
  rw [hq] at HM hpl
  clear hM hq hT hy hx h
  go_enter Tryz.func126, Tryz.ntmps126
  go_wp2_with fail
  refine hof.mono ?_
  rintro e w1 ⟨rfl, hb⟩
  have B2 : Aside (∀ o, Below w.heap.size w (w1.alloc o)) := fun o => hb.alloc hb.size o
  clear hb hof
  go_wp2_with fail
  refine (lfind_any _ base p v L id (HT.out.later (B2.out _)) (by omega)).mono ?_
  rintro e w2 ⟨rfl, hb2⟩
  rw [HI.out]
  have B3 : Aside (Below w.heap.size w w2) := (B2.out _).trans (hb2.mono (B2.out _).size)
  clear hb2 B2
  go_wp2_with fail
  refine (lfind_any _ base p v L behind (HT.out.later B3.out) (by omega)).mono ?_
  rintro e w3 ⟨rfl, hb3⟩
  rw [hbf.out.1]
  have B4 : Aside (Below w.heap.size w w3) := B3.out.trans (hb3.mono B3.out.size)
  clear hb3 B3
  go_upto_region 7 with fail
  go_cut [42] (fun s42 wx => s42 = .bool false ∧ wx = w3)
  case first =>
    rcases hbf.out.2 with ⟨rfl, rfl⟩ | hp
    · go_wp2
      go_meet
      exact ⟨rfl, rfl⟩
    · have dp : decide (bf < 0) = false := decide_eq_false (by omega)
      go_wp2
      go_meet
      exact ⟨rfl, rfl⟩
  case rest =>
    obtain ⟨rfl, rfl⟩ := hcut
    go_upto_region 9 with fail
    have hpc := pass_any wc.drew base p k v L id (HT.out.later B4.out.drew) (by omega) hk HX.out
    rw [hpl.out] at hpc
    obtain ⟨Y, hY, BY, hYb, hYs⟩ := side_alloc B4.out #[.int .i64 id, .int .u8 (c : Int), .bool true] 250
    have hpy := pass_any Y base p k v L id (HT.out.later BY) (by omega) hk HX.out
    rw [hpl.out] at hpy
    have hS0 : wc.drew.cell? ⟨p, 0, none⟩ = some v := (HT.out.later B4.out.drew).c0
    refine wp_region_Z (S := fun w' => w'.cell? ⟨p, 0, none⟩ = some v) (z := 17) (by kernel_rfl) hS0 (fun hHeld => ?_)
    refine wpAnyZ_free (i := 0) (v := ?v0) (by decide) rfl (by kernel_rfl) (by kernel_rfl) (by kernel_rfl) (fun _ _ _ h => h) (Or.inl ⟨by rfl, ?hy0⟩) hHeld ?rest0
    case hy0 => (intro w' _; go_simp; try with_reducible rfl)
    try simp only [Act.put, List.setIfInBounds_toArray, List.set_cons_zero, List.set_cons_succ]
    refine wpAnyZ_free (i := 1) (v := ?v1) (by decide) rfl (by kernel_rfl) (by kernel_rfl) (by kernel_rfl) (fun _ _ _ h => h) (Or.inl ⟨by rfl, ?hy1⟩) hHeld ?rest1
    case hy1 => (intro w' _; go_simp; try with_reducible rfl)
    try simp only [Act.put, List.setIfInBounds_toArray, List.set_cons_zero, List.set_cons_succ]
    refine wpAnyZ_free (i := 2) (v := ?v2) (by decide) rfl (by kernel_rfl) (by kernel_rfl) (by kernel_rfl) (fun _ _ _ h => h) (Or.inl ⟨by rfl, ?hy2⟩) hHeld ?rest2
    case hy2 => (intro w' _; go_simp; try with_reducible rfl)
    try simp only [Act.put, List.setIfInBounds_toArray, List.set_cons_zero, List.set_cons_succ]
    refine wpAnyZ_free (i := 3) (v := ?v3) (by decide) rfl (by kernel_rfl) (by kernel_rfl) (by kernel_rfl) (fun _ _ _ h => h) (Or.inl ⟨by rfl, ?hy3⟩) hHeld ?rest3
    case hy3 => (intro w' _; go_simp; try with_reducible rfl)
    try simp only [Act.put, List.setIfInBounds_toArray, List.set_cons_zero, List.set_cons_succ]
    refine wpAnyZ_take (i := 4) (v := ?v4) (by decide) (by kernel_rfl) rfl (by kernel_rfl) (by kernel_rfl) (by kernel_rfl) (by kernel_rfl) (fun _ _ _ h => h) (Or.inl ⟨by rfl, ?hy4⟩) hHeld ?rest4
    case hy4 => (intro w' hSw; go_simp; try with_reducible rfl)
    try simp only [Act.put, List.setIfInBounds_toArray, List.set_cons_zero, List.set_cons_succ]
    refine wpAnyZ_free (i := 5) (v := ?v5) (by decide) rfl (by kernel_rfl) (by kernel_rfl) (by kernel_rfl) (fun _ _ _ h => h) (Or.inl ⟨by rfl, ?hy5⟩) hHeld ?rest5
    case hy5 => (intro w' _; go_simp; try with_reducible rfl)
    try simp only [Act.put, List.setIfInBounds_toArray, List.set_cons_zero, List.set_cons_succ]
    refine wpAnyZ_free (i := 6) (v := ?v6) (by decide) rfl (by kernel_rfl) (by kernel_rfl) (by kernel_rfl) (fun _ _ _ h => h) (Or.inl ⟨by rfl, ?hy6⟩) hHeld ?rest6
    case hy6 => (intro w' _; go_simp; try with_reducible rfl)
    try simp only [Act.put, List.setIfInBounds_toArray, List.set_cons_zero, List.set_cons_succ]
    refine wpAnyZ_free (i := 7) (v := ?v7) (by decide) rfl (by kernel_rfl) (by kernel_rfl) (by kernel_rfl) (fun _ _ _ h => h) (Or.inl ⟨by rfl, ?hy7⟩) hHeld ?rest7
    case hy7 => (intro w' _; go_simp; try with_reducible rfl)
    try simp only [Act.put, List.setIfInBounds_toArray, List.set_cons_zero, List.set_cons_succ]
    refine wpAnyZ_free (i := 8) (v := ?v8) (by decide) rfl (by kernel_rfl) (by kernel_rfl) (by kernel_rfl) (fun _ _ _ h => h) (Or.inl ⟨by rfl, ?hy8⟩) hHeld ?rest8
    case hy8 => (intro w' _; go_simp; try with_reducible rfl)
    try simp only [Act.put, List.setIfInBounds_toArray, List.set_cons_zero, List.set_cons_succ]
    refine wpAnyZ_free (i := 10) (v := ?v10) (by decide) rfl (by kernel_rfl) (by kernel_rfl) (by kernel_rfl) (fun _ _ _ h => h) (Or.inl ⟨by rfl, ?hy10⟩) hHeld ?rest10
    case hy10 => (intro w' _; go_simp; try with_reducible rfl)
    try simp only [Act.put, List.setIfInBounds_toArray, List.set_cons_zero, List.set_cons_succ]
    refine wpAnyZ_free (i := 11) (v := ?v11) (by decide) rfl (by kernel_rfl) (by kernel_rfl) (by kernel_rfl) (fun _ _ _ h => h) (Or.inl ⟨by rfl, ?hy11⟩) hHeld ?rest11
    case hy11 => (intro w' _; go_simp; try with_reducible rfl)
    try simp only [Act.put, List.setIfInBounds_toArray, List.set_cons_zero, List.set_cons_succ]
    refine wpAnyZ_free (i := 12) (v := ?v12) (by decide) rfl (by kernel_rfl) (by kernel_rfl) (by kernel_rfl) (fun _ _ _ h => h) (Or.inl ⟨by rfl, ?hy12⟩) hHeld ?rest12
    case hy12 => (intro w' _; go_simp; try with_reducible rfl)
    try simp only [Act.put, List.setIfInBounds_toArray, List.set_cons_zero, List.set_cons_succ]
    refine wpAnyZ_two (i := 9) (j := 13) (by kernel_rfl) rfl rfl (fun K hK => ?pa) (fun K hK => ?al)
    case pa =>
      go_simp
      refine hpc.mono ?_
      rintro e w4 ⟨rfl, hb4⟩
      have B5 : Below w.heap.size w w4 := B4.out.drew.trans (hb4.mono B4.out.drew.size)
      refine hK _ _ (.inl (HT.out.later B5).c0) ?_
      clear hK K
      try simp only [Act.put, List.setIfInBounds_toArray, List.set_cons_zero, List.set_cons_succ]
      obtain ⟨X, hX⟩ : ∃ X, X = w4.alloc (.cells #[.int .i64 id, .int .u8 (c : Int), .bool true] 250) := ⟨_, rfl⟩
      have BX : Below w.heap.size w X := by rw [hX]; exact B5.alloc B5.size _
      have TX : Aside (LineAt base X p v L ∧ Below w.heap.size w X) := ⟨HT.out.later BX, BX⟩
      have hlay := lay_letter X base p w4.heap.size q v L (id, c, false) TX.out.1 (by have := BX.size; omega) hL HM.out.2.2.2.2.2 (by rw [hX]; exact heap_alloc_new w4 _) (fun e => by have h1 := ((HT.out.later B5).ne _ e.symm).2.1; omega)
      refine wpAnyZ_one (i := 13) (by kernel_rfl) rfl (fun K hK => ?_)
      go_simp
      rw [← hX]
      refine hK _ _ (.inl TX.out.1.c0) ?_
      clear hK K hX
      try simp only [Act.put, List.setIfInBounds_toArray, List.set_cons_zero, List.set_cons_succ]
      refine wpAnyZ_one (i := 14) (by kernel_rfl) rfl (fun K hK => ?_)
      go_simp
      refine hlay.mono ?_
      rintro e w5 ⟨g', cap', rfl, u1, u2, H5⟩
      refine hK _ _ (.inl u1) ?_
      clear hK K
      try simp only [Act.put, List.setIfInBounds_toArray, List.set_cons_zero, List.set_cons_succ]
      refine wpAnyZ_free (i := 15) (v := ?v15) (by decide) rfl (by kernel_rfl) (by kernel_rfl) (by kernel_rfl) (fun _ _ _ h => h) (Or.inl ⟨by rfl, ?hy15⟩) u1 ?rest15
      case hy15 => (intro w' _; go_simp; try with_reducible rfl)
      try simp only [Act.put, List.setIfInBounds_toArray, List.set_cons_zero, List.set_cons_succ]
      refine wpAnyZ_free (i := 16) (v := ?v16) (by decide) rfl (by kernel_rfl) (by kernel_rfl) (by kernel_rfl) (fun _ _ _ h => h) (Or.inl ⟨by rfl, ?hy16⟩) u1 ?rest16
      case hy16 => (intro w' _; go_simp; try with_reducible rfl)
      try simp only [Act.put, List.setIfInBounds_toArray, List.set_cons_zero, List.set_cons_succ]
      refine wpAnyZ_one (i := 17) (by kernel_rfl) rfl (fun K hK => ?_)
      go_simp
      refine hK _ _ (.inr ⟨rfl, by decide⟩) ?_
      clear hK K
      refine wpAnyZ_done (by kernel_rfl) ?_ _
      have FIN : Aside (PutOk base w p v M (w5.setCell ⟨p, 0, none⟩ (.slice (some ⟨g', 0, none⟩) (L.length + 1) cap'))) := put_fin HT.out TX.out.2 HM.out.1 HM.out.2.1 HM.out.2.2.1 HM.out.2.2.2.1 HM.out.2.2.2.2.1 H5.out
      clear H5 u1 u2
      go_wp2
      go_ret
      exact ⟨rfl, FIN.out⟩
    case al =>
      go_simp
      rw [← hY]
      refine hK _ _ (.inl (HT.out.later BY).c0) ?_
      clear hK K hY
      try simp only [Act.put, List.setIfInBounds_toArray, List.set_cons_zero, List.set_cons_succ]
      refine wpAnyZ_one (i := 9) (by kernel_rfl) rfl (fun K hK => ?_)
      go_simp
      refine hpy.mono ?_
      rintro e X ⟨rfl, hbX⟩
      have BX : Below w.heap.size w X := BY.trans (hbX.mono BY.size)
      have TX : Aside (LineAt base X p v L ∧ Below w.heap.size w X) := ⟨HT.out.later BX, BX⟩
      have hlay := lay_letter X base p wc.heap.size q v L (id, c, false) TX.out.1 (by have := BX.size; omega) hL HM.out.2.2.2.2.2 ((hbX.block _ hYs).trans hYb) (fun e => by have h1 := ((HT.out.later B4.out).ne _ e.symm).2.1; omega)
      refine hK _ _ (.inl TX.out.1.c0) ?_
      clear hK K
      try simp only [Act.put, List.setIfInBounds_toArray, List.set_cons_zero, List.set_cons_succ]
      refine wpAnyZ_one (i := 14) (by kernel_rfl) rfl (fun K hK => ?_)
      go_simp
      refine hlay.mono ?_
      rintro e w5 ⟨g', cap', rfl, u1, u2, H5⟩
      refine hK _ _ (.inl u1) ?_
      clear hK K
      try simp only [Act.put, List.setIfInBounds_toArray, List.set_cons_zero, List.set_cons_succ]
      refine wpAnyZ_free (i := 15) (v := ?vb15) (by decide) rfl (by kernel_rfl) (by kernel_rfl) (by kernel_rfl) (fun _ _ _ h => h) (Or.inl ⟨by rfl, ?hyb15⟩) u1 ?restb15
      case hyb15 => (intro w' _; go_simp; try with_reducible rfl)
      try simp only [Act.put, List.setIfInBounds_toArray, List.set_cons_zero, List.set_cons_succ]
      refine wpAnyZ_free (i := 16) (v := ?vb16) (by decide) rfl (by kernel_rfl) (by kernel_rfl) (by kernel_rfl) (fun _ _ _ h => h) (Or.inl ⟨by rfl, ?hyb16⟩) u1 ?restb16
      case hyb16 => (intro w' _; go_simp; try with_reducible rfl)
      try simp only [Act.put, List.setIfInBounds_toArray, List.set_cons_zero, List.set_cons_succ]
      refine wpAnyZ_one (i := 17) (by kernel_rfl) rfl (fun K hK => ?_)
      go_simp
      refine hK _ _ (.inr ⟨rfl, by decide⟩) ?_
      clear hK K
      refine wpAnyZ_done (by kernel_rfl) ?_ _
      have FIN : Aside (PutOk base w p v M (w5.setCell ⟨p, 0, none⟩ (.slice (some ⟨g', 0, none⟩) (L.length + 1) cap'))) := put_fin HT.out TX.out.2 HM.out.1 HM.out.2.1 HM.out.2.2.1 HM.out.2.2.2.1 HM.out.2.2.2.2.1 H5.out
      clear H5 u1 u2
      go_wp2
      go_ret
      exact ⟨rfl, FIN.out⟩
end Go.Proofs.YtehighgebbdenaaGreatDoor
end
section
set_option linter.unusedVariables false
namespace Go.Proofs.YtehighgebbdenaaGreatDoor
open Go.RowKit Go.Lib Go.Sort
def bytesW (l : List UInt8) : List Value := l.map fun c => .int .u8 (c.toNat : Int)
theorem conv_row {w : World} {base : Nat} {v : Value} {n : Nat} {l : List UInt8} (h : w.ownsRow base 5 1 v n (bytesW l)) (hl : l.length = n) :
    Sem.run Tryz.prog (convert 221 9 v) w = .ok (.string ⟨l.toArray⟩) w := by
  rcases Nat.eq_zero_or_pos n with h0 | h0
  · have hl0 : l = [] := List.length_eq_zero_iff.1 (by omega)
    subst hl0
    rcases h.2 with ⟨hv, _⟩ | ⟨g, cap, cur, hv, _⟩
    · subst hv
      exact run_convert_bytes_nil w _ _ Tryz.underlying221 Tryz.underlying5 0 0 _ Tryz.underlying9
    · subst hv
      subst h0
      exact run_convert_bytes_back w _ _ _ _ _ [] Tryz.underlying221 Tryz.underlying5 Tryz.underlying9 (fun j hj => by simp at hj)
  · obtain ⟨g, cap, rfl⟩ : ∃ g cap, v = .slice (some ⟨g, 0, none⟩) n cap := by
      rcases h.2 with ⟨_, h2⟩ | ⟨g, cap, cur, hv, _⟩
      · omega
      · exact ⟨g, cap, hv⟩
    have hc := h.cells (g := g) rfl
    subst hl
    refine run_convert_bytes_back w _ _ _ _ _ l Tryz.underlying221 Tryz.underlying5 Tryz.underlying9 (fun j hj => ?_)
    refine hc j _ ?_
    simp [bytesW, List.getElem?_eq_getElem hj]
def textL (L : List Ltr) : List UInt8 := (seenOf L).map fun l => UInt8.ofNat l.2.1
theorem seen_next {L : List Ltr} {k : Nat} {l : Ltr} (h : L[k]? = some l) : seenOf (L.take (k + 1)) = seenOf (L.take k) ++ (if l.2.2 then [] else [l]) := by
  unfold seenOf
  rw [List.take_add_one, h, List.filter_append]
  congr 1
  by_cases hg : l.2.2 = true
  · rw [if_pos hg]; simp [hg]
  · rw [if_neg hg]; simp [hg]
end Go.Proofs.YtehighgebbdenaaGreatDoor
end
section
set_option linter.unusedVariables false
namespace Go.Proofs.YtehighgebbdenaaGreatDoor
open Go.RowKit Go.Lib Go.Sort
set_option maxHeartbeats 1000000 in
theorem delete_none {ad : Nat → Addr} (w : World) (base p : Nat) (v : Value) (L : List Ltr) (id : Int) (hE : Ln4 ad w) (hT : LineAt base w p v L) (hL : L.length ≤ 1000) (hx : id ∉ L.map (·.1)) :
    Calls Tryz.prog 127 #[.pointer (some ⟨p, 0, none⟩), .int .i64 id] w fun e w' => e = .returned (.iface 399 (.pointer (some (ad 5)))) ∧ Below w.heap.size w w' := by
  have HE : Aside (Ln4 ad w) := hE
  have hf := lfind_any w base p v L id hT hL
  rw [findI_neg hx] at hf
  clear hE hT hx
  go_enter Tryz.func127, Tryz.ntmps127
  go_wp2_with fail
  refine hf.mono ?_
  rintro e w1 ⟨rfl, hb1⟩
  have B1 : Aside (Below w.heap.size w w1) := hb1
  have c5 := (HE.out.later hb1).c5
  clear hb1 hf
  go_wp2
  go_ret
  exact ⟨rfl, B1.out⟩
set_option maxRecDepth 100000 in
set_option maxHeartbeats 2000000 in
theorem delete_ok (w : World) (base p i : Nat) (v : Value) (L : List Ltr) (id : Int) (hT : LineAt base w p v L) (hL : L.length ≤ 1000) (hf : findL id L = some i) :
    Calls Tryz.prog 127 #[.pointer (some ⟨p, 0, none⟩), .int .i64 id] w fun e w' => e = .returned .nilIface ∧ LineAt base w' p v (L.set i (id, 0, true)) ∧ Keeps (fun k => some k = v.ownBlock) w w' := by
  obtain ⟨⟨a, c, gn⟩, hl, rfl⟩ := findL_some hf
  have hil := (List.getElem?_eq_some_iff.1 hl).1
  have hfa := lfind_any w base p v L a hT hL
  rw [show findI a L = (i : Int) by unfold findI; rw [hf]] at hfa
  obtain ⟨ao, cap, rfl⟩ := rowShape hT.row
  obtain ⟨g, rfl⟩ : ∃ g, ao = some ⟨g, 0, none⟩ := by
    rcases hT.row.2 with ⟨_, h2⟩ | ⟨g, cap', cur, hv, _⟩
    · omega
    · cases hv; exact ⟨g, rfl⟩
  have HT : Aside (LineAt base w p (.slice (some ⟨g, 0, none⟩) L.length cap) L) := hT
  have HL : Aside (L[i]? = some (a, c, gn)) := hl
  have d0 : decide ((i : Int) < 0) = false := by simp
  have ei : ((i : Int)).toNat = i := by omega
  have bi : (i : Int) < (L.length : Int) := by omega
  have pi : (0 : Int) ≤ (i : Int) := by omega
  clear hT hl hf
  go_enter Tryz.func127, Tryz.ntmps127
  go_wp2_with fail
  refine hfa.mono ?_
  rintro e w1 ⟨rfl, hb1⟩
  have H1 : Aside (LineAt base w1 p (.slice (some ⟨g, 0, none⟩) L.length cap) L ∧ Below w.heap.size w w1) := ⟨HT.out.later hb1, hb1⟩
  clear hb1 hfa
  have c0 := H1.out.1.c0
  obtain ⟨blk, off, hbo, f0, f1, f2⟩ := (lrowIn H1.out.1.row).at HL.out
  have hoff : blk = g ∧ off = 0 := by
    rcases lrowIn H1.out.1.row with h | ⟨b', o', h1, _⟩
    · rw [h] at hil; simp at hil
    · simp only [Option.some.injEq, Addr.mk.injEq, and_true] at hbo
      exact ⟨hbo.1.symm, hbo.2.symm⟩
  obtain ⟨rfl, rfl⟩ := hoff
  rw [Nat.zero_add] at f0 f1 f2
  have z0 : ∀ j, w1.frozen? ⟨blk, j, none⟩ = false := fun j => H1.out.1.row.frozenAt j
  have z1 := z0 (i * 3)
  have z2 := z0 (i * 3 + 1)
  have z3 := z0 (i * 3 + 2)
  have hne : blk ≠ p := (H1.out.1.ne blk rfl).1
  have FIN : Aside (LineAt base (w1.setCells blk (i * 3) [.int .i64 a, .int .u8 0, .bool false]) p (.slice (some ⟨blk, 0, none⟩) L.length cap) (L.set i (a, 0, true)) ∧ Keeps (fun k => some k = some blk) w (w1.setCells blk (i * 3) [.int .i64 a, .int .u8 0, .bool false])) := by
    have hkp := setCells_keeps blk [.int .i64 a, .int .u8 0, .bool false] (i * 3) w1
    have hro := H1.out.1.row
    have hself : L.set i (a, c, gn) = L := by
      have h := List.set_getElem_self hil
      rw [(List.getElem?_eq_some_iff.1 HL.out).2] at h
      exact h
    have e1 : flat encL L = (flat encL L).take (i * 3) ++ encL (a, c, gn) ++ (flat encL L).drop ((i + 1) * 3) := by
      rw [← flat_set encL_len L i hil (a, c, gn), hself]
    have e2 := flat_set encL_len L i hil (a, 0, true)
    have el : ((flat encL L).take (i * 3)).length = i * 3 := by rw [List.length_take, flat_len encL_len]; omega
    rw [e1] at hro
    have ho := owns_over (vs := [.int .i64 a, .int .u8 0, .bool false]) hro rfl
    rw [el] at ho
    have hm : ∀ l ∈ L.set i (a, 0, true), l ∈ L ∨ l = (a, 0, true) := fun l hl => List.mem_or_eq_of_mem_set hl
    refine ⟨⟨(hkp.block p H1.out.1.lt (fun e => hne e.symm)).trans H1.out.1.cell, ?_, H1.out.1.low, ?_, fun l hl => ?_, fun l hl => ?_⟩, ?_⟩
    · rw [List.length_set, e2]
      exact ho
    · rw [set_ids HL.out]
      exact H1.out.1.nodup
    · rcases hm l hl with h | rfl
      · exact H1.out.1.pos l h
      · exact H1.out.1.pos (a, c, gn) (List.mem_of_getElem? HL.out)
    · rcases hm l hl with h | rfl
      · exact H1.out.1.small l h
      · show 0 < 256
        omega
    · exact ((keeps_of_below H1.out.2).mono (fun k hk e => by omega)).then hkp (fun k _ e => by rw [e])
  clear z0
  go_wp2
  go_ret
  exact ⟨rfl, FIN.out⟩
def atL (n : Int) (L : List Ltr) : Int × Bool := if 0 ≤ n then (match (seenOf L)[n.toNat]? with
  | some l => (l.1, true)
  | none => (0, false)) else (0, false)
theorem atL_hit {n : Int} {L : List Ltr} {k : Nat} {l : Ltr} (h : L[k]? = some l) (hg : l.2.2 = false) (hn : n = ((seenOf (L.take k)).length : Int)) : atL n L = (l.1, true) := by
  have hk := (List.getElem?_eq_some_iff.1 h).1
  have e : seenOf L = seenOf (L.take (k + 1)) ++ seenOf (L.drop (k + 1)) := by
    unfold seenOf
    rw [← List.filter_append, List.take_append_drop]
  unfold atL
  rw [if_pos (by omega), hn, Int.toNat_natCast, e, seen_next h, hg]
  simp
theorem atL_miss {n : Int} {L : List Ltr} (h : ∀ j : Nat, j < (seenOf L).length → n ≠ (j : Int)) : atL n L = (0, false) := by
  unfold atL
  split
  · rw [List.getElem?_eq_none]
    have := h n.toNat
    omega
  · rfl
set_option maxRecDepth 100000 in
set_option maxHeartbeats 2000000 in
theorem at_any (w : World) (base p : Nat) (v : Value) (L : List Ltr) (n : Int) (h : LineAt base w p v L) (hL : L.length ≤ 1000) (hn : -9223372036854775808 ≤ n ∧ n ≤ 9223372036854775807) :
    Calls Tryz.prog 197 #[.pointer (some ⟨p, 0, none⟩), .int .i64 n] w fun e w' => e = .returned (.tuple #[.int .i64 (atL n L).1, .bool (atL n L).2]) ∧ Below w.heap.size w w' := by
  obtain ⟨ao, cap, rfl⟩ := rowShape h.row
  have c0 := h.c0
  have HI : Aside (LtrsIn w ao L) := lrowIn h.row
  clear h
  obtain ⟨r1, r2, hr⟩ : ∃ r1 r2, Aside (atL n L = (r1, r2)) := ⟨_, _, rfl⟩
  rw [hr.out]
  show Calls _ _ _ _ fun e w' => e = .returned (.tuple #[.int .i64 r1, .bool r2]) ∧ Below w.heap.size w w'
  go_enter Tryz.func197, Tryz.ntmps197
  go_wp2
  clear c0
  go_loopg [1, 13] L.length (fun kx s1 s13 wr => ∃ (k : Nat) (m : Int), s1 = .int .i64 m ∧ s13 = .int .i64 (k : Int) ∧ k ≤ L.length ∧ L.length - k ≤ kx ∧ Aside (m = IntKind.i64.wrap (n - ((seenOf (L.take k)).length : Int)) ∧ (∀ j : Nat, j < (seenOf (L.take k)).length → n ≠ (j : Int)) ∧ Below w.heap.size w wr))
  case atStart => exact ⟨0, _, rfl, rfl, Nat.zero_le _, Nat.le_refl _, ⟨by rw [IntKind.wrap_i64]; simp [seenOf]; omega, fun j hj => by simp [seenOf] at hj, Below.refl _ w⟩⟩
  case round =>
    obtain ⟨k, m, rfl, rfl, hk, hkx, A⟩ := hrel
    by_cases hlt : k < L.length
    · have hltz : decide ((k : Int) < (L.length : Int)) = true := by simp; omega
      have ek : ((k : Int)).toNat = k := by omega
      have pk : (0 : Int) ≤ (k : Int) := by omega
      have bk : (k : Int) < (L.length : Int) := by omega
      obtain ⟨⟨a, c, gn⟩, hl⟩ : ∃ l, Aside (L[k]? = some l) := ⟨L[k], List.getElem?_eq_getElem hlt⟩
      obtain ⟨blk, off, rfl, f0, f1, f2⟩ := (HI.out.later A.out.2.2).at hl.out
      have HN := Lib.hid (seen_next hl.out)
      have HS := Lib.hid (show (seenOf (L.take k)).length ≤ 1000 by
        have : (seenOf (L.take k)).length ≤ (L.take k).length := List.length_filter_le _ _
        rw [List.length_take] at this; omega)
      obtain ⟨u, hu⟩ : ∃ u, u = wr := ⟨_, rfl⟩
      subst hu
      have HB : Aside (∀ o, Below w.heap.size w (u.alloc o)) := fun o => A.out.2.2.alloc A.out.2.2.size o
      cases gn with
      | true =>
        have f2' : u.cell? ⟨blk, off + k * 3 + 2, none⟩ = some (.bool false) := f2
        clear f2
        go_wp2
        go_roundg (L.length - (k + 1))
        case measure => omega
        case rel =>
          have e : seenOf (L.take (k + 1)) = seenOf (L.take k) := by rw [HN.out]; simp
          exact ⟨k + 1, m, rfl, by go_num, by omega, Nat.le_refl _, ⟨by rw [e]; exact A.out.1, by rw [e]; exact A.out.2.1, HB.out _⟩⟩
      | false =>
        have f2' : u.cell? ⟨blk, off + k * 3 + 2, none⟩ = some (.bool true) := f2
        clear f2
        by_cases hm : m = 0
        · have dm : (m == 0) = true := by simp [hm]
          have hnk : n = ((seenOf (L.take k)).length : Int) := by
            have h1 := A.out.1
            have h2 := HS.out
            rw [hm, IntKind.wrap_i64] at h1
            omega
          have hat := atL_hit hl.out rfl hnk
          rw [hr.out] at hat
          have HR := Lib.hid hat
          clear hm hnk hat
          go_wp2
          go_ret2
          exact ⟨by cases HR.out; rfl, HB.out _⟩
        · have dm : (m == 0) = false := by simp [hm]
          have hne : n ≠ ((seenOf (L.take k)).length : Int) := by
            intro e
            have h1 := A.out.1
            rw [e, IntKind.wrap_i64] at h1
            omega
          have HNE := Lib.hid hne
          clear hm hne
          go_wp2
          go_roundg (L.length - (k + 1))
          case measure => omega
          case rel =>
            have e : (seenOf (L.take (k + 1))).length = (seenOf (L.take k)).length + 1 := by rw [HN.out]; simp
            refine ⟨k + 1, _, rfl, by go_num, by omega, Nat.le_refl _, ⟨?_, fun j hj => ?_, HB.out _⟩⟩
            · have h1 := A.out.1
              have h2 := HS.out
              rw [e, h1, IntKind.wrap_i64, IntKind.wrap_i64]
              unfold wrap64
              omega
            · rw [e] at hj
              rcases Nat.lt_or_ge j (seenOf (L.take k)).length with h | h
              · exact A.out.2.1 j h
              · obtain rfl : j = (seenOf (L.take k)).length := by omega
                exact HNE.out
    · have hltz : decide ((k : Int) < (L.length : Int)) = false := by simp; omega
      have et : L.take k = L := List.take_of_length_le (by omega)
      have hat := atL_miss (n := n) (L := L) (by have := A.out.2.1; rwa [et] at this)
      rw [hr.out] at hat
      have HR := Lib.hid hat
      clear et hat
      go_wp2
      go_ret2
      exact ⟨by cases HR.out; rfl, A.out.2.2⟩
end Go.Proofs.YtehighgebbdenaaGreatDoor
end
