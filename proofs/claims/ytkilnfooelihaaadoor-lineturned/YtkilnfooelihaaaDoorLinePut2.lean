/- Contract of (*line.Line).Insert: a letter is laid in. -/
import Derived.Test.YtkilnfooelihaaaDoorLinePut
set_option linter.unusedVariables false
set_option linter.unusedSimpArgs false
namespace Go.Proofs.YtkilnfooelihaaaDoor
open Go.RowKit Go.Lib Go.Sort

theorem rowSucc {w : World} {base n k : Nat} {v : Value} {e : TypeId} {xs : List Value} (h : w.ownsRow base e k v (n + 1) xs) : ∃ g cap, v = .slice (some ⟨g, 0, none⟩) (n + 1) cap := by
  rcases h.2 with ⟨_, h2⟩ | ⟨g, cap, cur, rfl, _⟩
  · omega
  · exact ⟨g, cap, rfl⟩
theorem LineAt.ne {base : Nat} {w : World} {p : Nat} {v : Value} {L : List Ltr} (h : LineAt base w p v L) : ∀ g, v.ownBlock = some g → g ≠ p ∧ g < w.heap.size ∧ base ≤ g := fun g hg => by
  have h1 := h.row.lt g hg
  have h2 := h.low
  exact ⟨by omega, h1.2, h1.1⟩

/-- slices.Insert, where the letter lies in a block of its own. -/
theorem lay_letter (X : World) (base p vb k : Nat) (v : Value) (L : List Ltr) (x : Ltr) (hT : LineAt base X p v L) (hbase : base ≤ X.heap.size) (hL : L.length ≤ 900) (hk : k ≤ L.length) (hvb : X.heap[vb]? = some (.cells #[.int .i64 x.1, .int .u8 (x.2.1 : Int), .bool (!x.2.2)] 155 (0, 0))) (hvn : some vb ≠ v.ownBlock) :
    Calls Tryd.prog 97 #[v, .int .i64 (k : Int), .slice (some ⟨vb, 0, none⟩) 1 1] X
      fun e w' => ∃ g' cap', e = .returned (.slice (some ⟨g', 0, none⟩) (L.length + 1) cap') ∧ w'.cell? ⟨p, 0, none⟩ = some v ∧ w'.frozen? ⟨p, 0, none⟩ = false ∧ Aside (w'.ownsRow base 155 3 (.slice (some ⟨g', 0, none⟩) (L.length + 1) cap') (L.length + 1) (flat encL (L.take k ++ x :: L.drop k)) ∧ Keeps (fun k => some k = v.ownBlock) X w' ∧ (some g' = v.ownBlock ∨ X.heap.size ≤ g') ∧ w'.heap[p]? = some (.cells #[v] 151 (0, 0))) := by
  refine (layLtr_any X base L.length k v (flat encL L) (encL x) hT.row (by omega) vb rfl (fun j u hj => ?_) (encL_one x) (flat_one encL_one L) hvn ?_ (fun j => ?_) hbase hk).mono ?_
  · simp only [World.cell?, hvb]
    rw [← hj]
    simp [encL]
  · simp [World.shape?, hvb]
  · simp [World.frozen?, hvb]
  · rintro e w' ⟨v', rfl, ho, hkp, hv'⟩
    obtain ⟨g', cap', rfl⟩ := rowSucc ho
    have hp := hkp.block p hT.lt (fun e => (hT.ne p e.symm).1 rfl)
    have hp' : w'.heap[p]? = some (.cells #[v] 151 (0, 0)) := hp.trans hT.cell
    rw [← flat_lay encL_len L k hk] at ho
    refine ⟨g', cap', rfl, by simp [World.cell?, hp'], by simp [World.frozen?, hp'], ho, hkp, ?_, hp'⟩
    rcases hv' with e | e
    · exact .inl e
    · right
      have : g' = X.heap.size := by simpa [Value.ownBlock] using e
      omega

/-- A block laid behind a draw. -/
theorem side_alloc {w wc : World} (hb : Below w.heap.size w wc) (cs : Array Value) (t : TypeId) : ∃ Y, Y = (wc.alloc (.cells cs t)).drew ∧ Below w.heap.size w Y ∧ Y.heap[wc.heap.size]? = some (.cells cs t (0, 0)) ∧ wc.heap.size < Y.heap.size := by
  refine ⟨_, rfl, (hb.alloc hb.size _).drew, ?_, ?_⟩
  · exact heap_alloc_new wc _
  · have h := World.size_alloc wc (.cells cs t)
    have e : (wc.alloc (.cells cs t)).drew.heap.size = (wc.alloc (.cells cs t)).heap.size := rfl
    omega
/-- What a call of Insert leaves. -/
def PutOk (base : Nat) (w : World) (p : Nat) (v : Value) (M : List Ltr) (w' : World) : Prop :=
  ∃ v', LineAt base w' p v' M ∧ Keeps (fun k => k = p ∨ some k = v.ownBlock) w w' ∧ (v'.ownBlock = v.ownBlock ∨ ∀ g, v'.ownBlock = some g → w.heap.size ≤ g)

theorem put_fin {base : Nat} {w X w5 : World} {p k g' cap' : Nat} {v : Value} {L M : List Ltr} {x : Ltr} (hT : LineAt base w p v L) (hB : Below w.heap.size w X) (hM : M = L.take k ++ x :: L.drop k) (hlen : M.length = L.length + 1)
    (hn : (M.map (·.1)).Nodup) (hpos : ∀ l ∈ M, l.1 ≠ 0) (hsm : ∀ l ∈ M, l.2.1 < 256)
    (h5 : w5.ownsRow base 155 3 (.slice (some ⟨g', 0, none⟩) (L.length + 1) cap') (L.length + 1) (flat encL (L.take k ++ x :: L.drop k)) ∧ Keeps (fun k => some k = v.ownBlock) X w5 ∧ (some g' = v.ownBlock ∨ X.heap.size ≤ g') ∧ w5.heap[p]? = some (.cells #[v] 151 (0, 0))) :
    PutOk base w p v M (w5.setCell ⟨p, 0, none⟩ (.slice (some ⟨g', 0, none⟩) (L.length + 1) cap')) := by
  obtain ⟨ho, hkp, hg, hp⟩ := h5
  obtain ⟨w6, hw6⟩ : ∃ w6, w6 = w5.setCell ⟨p, 0, none⟩ (.slice (some ⟨g', 0, none⟩) (L.length + 1) cap') := ⟨_, rfl⟩
  rw [← hw6]
  have hk56 : Keeps (fun k => k = p) w5 w6 := by rw [hw6]; exact setCells_keeps p [_] 0 w5
  have hgl := ho.lt g' rfl
  have hlow := hT.low
  have hc6 : w6.heap[p]? = some (.cells #[.slice (some ⟨g', 0, none⟩) (L.length + 1) cap'] 151 (0, 0)) := by rw [hw6]; exact heap_setCell_same w5 p 0 _ _ _ hp
  have hr6 := ownsSame (w' := w6) ho (fun g hg' => by
    cases hg'
    exact hk56.block g' hgl.2 (fun e => by omega))
  have hKw : Keeps (fun k => k = p ∨ some k = v.ownBlock) w X := (keeps_of_below hB).mono (fun k hk e => by omega)
  refine ⟨_, ⟨hc6, by rw [hlen, hM]; exact hr6, hT.low, hn, hpos, hsm⟩, (hKw.then hkp (fun _ _ e => .inr e)).then hk56 (fun _ _ e => .inl e), ?_⟩
  rcases hg with h | h
  · exact .inl h
  · refine .inr (fun g hg => ?_)
    have e : g' = g := by simpa [Value.ownBlock] using hg
    have := hB.size
    omega

set_option maxRecDepth 100000 in
set_option maxHeartbeats 1000000 in
theorem insert_ok (w : World) (base p : Nat) (v : Value) (L : List Ltr) (id behind : Int) (c : Nat) (hT : LineAt base w p v L) (hbase : base ≤ w.heap.size) (hL : L.length ≤ 900) (h : ShapeOk id behind) (hc : c < 256) (hx : id ∉ L.map (·.1)) (hy : behind = 0 ∨ behind ∈ L.map (·.1)) :
    Calls Tryd.prog 64 #[.pointer (some ⟨p, 0, none⟩), .int .i64 id, .int .i64 behind, .int .u8 (c : Int)] w fun e w' => e = .returned .nilIface ∧ PutOk base w p v (put behind (id, c, false) L) w' := by
  have HT : Aside (LineAt base w p v L) := hT
  have hof := of_ok id w h.1 h.2.1
  have d2 : decide (behind < 0) = false := decide_eq_false (by have := h.2.2.1; omega)
  have d3 : decide (id ≤ behind) = false := decide_eq_false (by have := h.2.2.2; omega)
  have HI := Lib.hid (findI_neg hx)
  have HX : Aside (id ∉ L.map (·.1)) := hx
  obtain ⟨bf, k, hbf, hbk, hk, hpl⟩ : ∃ (bf : Int) (k : Nat), Aside (findI behind L = bf ∧ ((bf = -1 ∧ behind = 0) ∨ 0 ≤ bf)) ∧ IntKind.i64.wrap (bf + 1) = (k : Int) ∧ k ≤ L.length ∧ Aside (k + skipN id (L.drop k) = placeL behind id L) := by
    unfold placeL
    by_cases h0 : behind = 0
    · refine ⟨-1, 0, ⟨findI_neg (fun hm => ?_), .inl ⟨rfl, h0⟩⟩, by decide, Nat.zero_le _, ?_⟩
      · obtain ⟨l, hl, e⟩ := List.mem_map.1 hm
        exact hT.pos l hl (by rw [e, h0])
      · show _ = _
        rw [if_pos h0]
        simp
    · obtain ⟨i, hi, hf, hil⟩ := findI_pos (hy.resolve_left h0)
      refine ⟨i, i + 1, ⟨hi, .inr (by omega)⟩, ?_, by omega, ?_⟩
      · rw [IntKind.wrap_i64]; omega
      · show _ = _
        rw [if_neg h0, hf]
  have HM : Aside (put behind (id, c, false) L = L.take (placeL behind id L) ++ (id, c, false) :: L.drop (placeL behind id L) ∧ (put behind (id, c, false) L).length = L.length + 1 ∧ ((put behind (id, c, false) L).map (·.1)).Nodup ∧ (∀ l ∈ put behind (id, c, false) L, l.1 ≠ 0) ∧ (∀ l ∈ put behind (id, c, false) L, l.2.1 < 256) ∧ placeL behind id L ≤ L.length) := by
    refine ⟨(put_at hy).2, put_len hy, put_nodup hy hT.nodup hx, fun l hl => ?_, fun l hl => ?_, (put_at (x := (id, c, false)) hy).1⟩
    · rcases List.mem_cons.1 ((put_perm hy).mem_iff.1 hl) with rfl | hl
      · have := h.1
        show id ≠ 0
        omega
      · exact hT.pos l hl
    · rcases List.mem_cons.1 ((put_perm hy).mem_iff.1 hl) with rfl | hl
      · exact hc
      · exact hT.small l hl
  obtain ⟨M, hM⟩ : ∃ M, put behind (id, c, false) L = M := ⟨_, rfl⟩
  rw [hM] at HM ⊢
  obtain ⟨q, hq⟩ : ∃ q, placeL behind id L = q := ⟨_, rfl⟩
  rw [hq] at HM hpl
  clear hM hq hT hy hx h
  go_enter Tryd.func64, Tryd.ntmps64
  go_wp2_with fail
  refine hof.mono ?_
  rintro e w1 ⟨rfl, hb⟩
  have B2 : Aside (∀ o, Below w.heap.size w (w1.alloc o)) := fun o => hb.alloc hb.size o
  clear hb hof
  go_wp2_with fail
  refine (find_any _ base p v L id (HT.out.later (B2.out _)) (by omega)).mono ?_
  rintro e w2 ⟨rfl, hb2⟩
  rw [HI.out]
  have B3 : Aside (Below w.heap.size w w2) := (B2.out _).trans (hb2.mono (B2.out _).size)
  clear hb2 B2
  go_wp2_with fail
  refine (find_any _ base p v L behind (HT.out.later B3.out) (by omega)).mono ?_
  rintro e w3 ⟨rfl, hb3⟩
  rw [hbf.out.1]
  have B4 : Aside (Below w.heap.size w w3) := B3.out.trans (hb3.mono B3.out.size)
  clear hb3 B3
  go_upto_region 7 with fail
  go_cut [42] (fun s42 wx => s42 = .bool false ∧ wx = w3)
  case first =>
    rcases hbf.out.2 with ⟨rfl, rfl⟩ | hp
    · go_wp2
      go_meet
      exact ⟨rfl, rfl⟩
    · have dp : decide (bf < 0) = false := decide_eq_false (by omega)
      go_wp2
      go_meet
      exact ⟨rfl, rfl⟩
  case rest =>
    obtain ⟨rfl, rfl⟩ := hcut
    go_upto_region 9 with fail
    have hpc := pass_any wc.drew base p k v L id (HT.out.later B4.out.drew) (by omega) hk HX.out
    rw [hpl.out] at hpc
    obtain ⟨Y, hY, BY, hYb, hYs⟩ := side_alloc B4.out #[.int .i64 id, .int .u8 (c : Int), .bool true] 155
    have hpy := pass_any Y base p k v L id (HT.out.later BY) (by omega) hk HX.out
    rw [hpl.out] at hpy
    have hS0 : wc.drew.cell? ⟨p, 0, none⟩ = some v := (HT.out.later B4.out.drew).c0
    refine wp_region_Z (S := fun w' => w'.cell? ⟨p, 0, none⟩ = some v) (z := 17) (by kernel_rfl) hS0 (fun hHeld => ?_)
    refine wpAnyZ_free (i := 0) (v := ?v0) (by decide) rfl (by kernel_rfl) (by kernel_rfl) (by kernel_rfl) (fun _ _ _ h => h) (Or.inl ⟨by rfl, ?hy0⟩) hHeld ?rest0
    case hy0 => (intro w' _; go_simp; try with_reducible rfl)
    try simp only [Act.put, List.setIfInBounds_toArray, List.set_cons_zero, List.set_cons_succ]
    refine wpAnyZ_free (i := 1) (v := ?v1) (by decide) rfl (by kernel_rfl) (by kernel_rfl) (by kernel_rfl) (fun _ _ _ h => h) (Or.inl ⟨by rfl, ?hy1⟩) hHeld ?rest1
    case hy1 => (intro w' _; go_simp; try with_reducible rfl)
    try simp only [Act.put, List.setIfInBounds_toArray, List.set_cons_zero, List.set_cons_succ]
    refine wpAnyZ_free (i := 2) (v := ?v2) (by decide) rfl (by kernel_rfl) (by kernel_rfl) (by kernel_rfl) (fun _ _ _ h => h) (Or.inl ⟨by rfl, ?hy2⟩) hHeld ?rest2
    case hy2 => (intro w' _; go_simp; try with_reducible rfl)
    try simp only [Act.put, List.setIfInBounds_toArray, List.set_cons_zero, List.set_cons_succ]
    refine wpAnyZ_free (i := 3) (v := ?v3) (by decide) rfl (by kernel_rfl) (by kernel_rfl) (by kernel_rfl) (fun _ _ _ h => h) (Or.inl ⟨by rfl, ?hy3⟩) hHeld ?rest3
    case hy3 => (intro w' _; go_simp; try with_reducible rfl)
    try simp only [Act.put, List.setIfInBounds_toArray, List.set_cons_zero, List.set_cons_succ]
    refine wpAnyZ_take (i := 4) (v := ?v4) (by decide) (by kernel_rfl) rfl (by kernel_rfl) (by kernel_rfl) (by kernel_rfl) (by kernel_rfl) (fun _ _ _ h => h) (Or.inl ⟨by rfl, ?hy4⟩) hHeld ?rest4
    case hy4 => (intro w' hSw; go_simp; try with_reducible rfl)
    try simp only [Act.put, List.setIfInBounds_toArray, List.set_cons_zero, List.set_cons_succ]
    refine wpAnyZ_free (i := 5) (v := ?v5) (by decide) rfl (by kernel_rfl) (by kernel_rfl) (by kernel_rfl) (fun _ _ _ h => h) (Or.inl ⟨by rfl, ?hy5⟩) hHeld ?rest5
    case hy5 => (intro w' _; go_simp; try with_reducible rfl)
    try simp only [Act.put, List.setIfInBounds_toArray, List.set_cons_zero, List.set_cons_succ]
    refine wpAnyZ_free (i := 6) (v := ?v6) (by decide) rfl (by kernel_rfl) (by kernel_rfl) (by kernel_rfl) (fun _ _ _ h => h) (Or.inl ⟨by rfl, ?hy6⟩) hHeld ?rest6
    case hy6 => (intro w' _; go_simp; try with_reducible rfl)
    try simp only [Act.put, List.setIfInBounds_toArray, List.set_cons_zero, List.set_cons_succ]
    refine wpAnyZ_free (i := 7) (v := ?v7) (by decide) rfl (by kernel_rfl) (by kernel_rfl) (by kernel_rfl) (fun _ _ _ h => h) (Or.inl ⟨by rfl, ?hy7⟩) hHeld ?rest7
    case hy7 => (intro w' _; go_simp; try with_reducible rfl)
    try simp only [Act.put, List.setIfInBounds_toArray, List.set_cons_zero, List.set_cons_succ]
    refine wpAnyZ_free (i := 8) (v := ?v8) (by decide) rfl (by kernel_rfl) (by kernel_rfl) (by kernel_rfl) (fun _ _ _ h => h) (Or.inl ⟨by rfl, ?hy8⟩) hHeld ?rest8
    case hy8 => (intro w' _; go_simp; try with_reducible rfl)
    try simp only [Act.put, List.setIfInBounds_toArray, List.set_cons_zero, List.set_cons_succ]
    refine wpAnyZ_free (i := 10) (v := ?v10) (by decide) rfl (by kernel_rfl) (by kernel_rfl) (by kernel_rfl) (fun _ _ _ h => h) (Or.inl ⟨by rfl, ?hy10⟩) hHeld ?rest10
    case hy10 => (intro w' _; go_simp; try with_reducible rfl)
    try simp only [Act.put, List.setIfInBounds_toArray, List.set_cons_zero, List.set_cons_succ]
    refine wpAnyZ_free (i := 11) (v := ?v11) (by decide) rfl (by kernel_rfl) (by kernel_rfl) (by kernel_rfl) (fun _ _ _ h => h) (Or.inl ⟨by rfl, ?hy11⟩) hHeld ?rest11
    case hy11 => (intro w' _; go_simp; try with_reducible rfl)
    try simp only [Act.put, List.setIfInBounds_toArray, List.set_cons_zero, List.set_cons_succ]
    refine wpAnyZ_free (i := 12) (v := ?v12) (by decide) rfl (by kernel_rfl) (by kernel_rfl) (by kernel_rfl) (fun _ _ _ h => h) (Or.inl ⟨by rfl, ?hy12⟩) hHeld ?rest12
    case hy12 => (intro w' _; go_simp; try with_reducible rfl)
    try simp only [Act.put, List.setIfInBounds_toArray, List.set_cons_zero, List.set_cons_succ]
    refine wpAnyZ_two (i := 9) (j := 13) (by kernel_rfl) rfl rfl (fun K hK => ?pa) (fun K hK => ?al)
    case pa =>
      go_simp
      refine hpc.mono ?_
      rintro e w4 ⟨rfl, hb4⟩
      have B5 : Below w.heap.size w w4 := B4.out.drew.trans (hb4.mono B4.out.drew.size)
      refine hK _ _ (.inl (HT.out.later B5).c0) ?_
      clear hK K
      try simp only [Act.put, List.setIfInBounds_toArray, List.set_cons_zero, List.set_cons_succ]
      obtain ⟨X, hX⟩ : ∃ X, X = w4.alloc (.cells #[.int .i64 id, .int .u8 (c : Int), .bool true] 155) := ⟨_, rfl⟩
      have BX : Below w.heap.size w X := by rw [hX]; exact B5.alloc B5.size _
      have TX : Aside (LineAt base X p v L ∧ Below w.heap.size w X) := ⟨HT.out.later BX, BX⟩
      have hlay := lay_letter X base p w4.heap.size q v L (id, c, false) TX.out.1 (by have := BX.size; omega) hL HM.out.2.2.2.2.2 (by rw [hX]; exact heap_alloc_new w4 _) (fun e => by have h1 := ((HT.out.later B5).ne _ e.symm).2.1; omega)
      refine wpAnyZ_one (i := 13) (by kernel_rfl) rfl (fun K hK => ?_)
      go_simp
      rw [← hX]
      refine hK _ _ (.inl TX.out.1.c0) ?_
      clear hK K hX
      try simp only [Act.put, List.setIfInBounds_toArray, List.set_cons_zero, List.set_cons_succ]
      refine wpAnyZ_one (i := 14) (by kernel_rfl) rfl (fun K hK => ?_)
      go_simp
      refine hlay.mono ?_
      rintro e w5 ⟨g', cap', rfl, u1, u2, H5⟩
      refine hK _ _ (.inl u1) ?_
      clear hK K
      try simp only [Act.put, List.setIfInBounds_toArray, List.set_cons_zero, List.set_cons_succ]
      refine wpAnyZ_free (i := 15) (v := ?v15) (by decide) rfl (by kernel_rfl) (by kernel_rfl) (by kernel_rfl) (fun _ _ _ h => h) (Or.inl ⟨by rfl, ?hy15⟩) u1 ?rest15
      case hy15 => (intro w' _; go_simp; try with_reducible rfl)
      try simp only [Act.put, List.setIfInBounds_toArray, List.set_cons_zero, List.set_cons_succ]
      refine wpAnyZ_free (i := 16) (v := ?v16) (by decide) rfl (by kernel_rfl) (by kernel_rfl) (by kernel_rfl) (fun _ _ _ h => h) (Or.inl ⟨by rfl, ?hy16⟩) u1 ?rest16
      case hy16 => (intro w' _; go_simp; try with_reducible rfl)
      try simp only [Act.put, List.setIfInBounds_toArray, List.set_cons_zero, List.set_cons_succ]
      refine wpAnyZ_one (i := 17) (by kernel_rfl) rfl (fun K hK => ?_)
      go_simp
      refine hK _ _ (.inr ⟨rfl, by decide⟩) ?_
      clear hK K
      refine wpAnyZ_done (by kernel_rfl) ?_ _
      have FIN : Aside (PutOk base w p v M (w5.setCell ⟨p, 0, none⟩ (.slice (some ⟨g', 0, none⟩) (L.length + 1) cap'))) := put_fin HT.out TX.out.2 HM.out.1 HM.out.2.1 HM.out.2.2.1 HM.out.2.2.2.1 HM.out.2.2.2.2.1 H5.out
      clear H5 u1 u2
      go_wp2
      go_ret
      exact ⟨rfl, FIN.out⟩
    case al =>
      go_simp
      rw [← hY]
      refine hK _ _ (.inl (HT.out.later BY).c0) ?_
      clear hK K hY
      try simp only [Act.put, List.setIfInBounds_toArray, List.set_cons_zero, List.set_cons_succ]
      refine wpAnyZ_one (i := 9) (by kernel_rfl) rfl (fun K hK => ?_)
      go_simp
      refine hpy.mono ?_
      rintro e X ⟨rfl, hbX⟩
      have BX : Below w.heap.size w X := BY.trans (hbX.mono BY.size)
      have TX : Aside (LineAt base X p v L ∧ Below w.heap.size w X) := ⟨HT.out.later BX, BX⟩
      have hlay := lay_letter X base p wc.heap.size q v L (id, c, false) TX.out.1 (by have := BX.size; omega) hL HM.out.2.2.2.2.2 ((hbX.block _ hYs).trans hYb) (fun e => by have h1 := ((HT.out.later B4.out).ne _ e.symm).2.1; omega)
      refine hK _ _ (.inl TX.out.1.c0) ?_
      clear hK K
      try simp only [Act.put, List.setIfInBounds_toArray, List.set_cons_zero, List.set_cons_succ]
      refine wpAnyZ_one (i := 14) (by kernel_rfl) rfl (fun K hK => ?_)
      go_simp
      refine hlay.mono ?_
      rintro e w5 ⟨g', cap', rfl, u1, u2, H5⟩
      refine hK _ _ (.inl u1) ?_
      clear hK K
      try simp only [Act.put, List.setIfInBounds_toArray, List.set_cons_zero, List.set_cons_succ]
      refine wpAnyZ_free (i := 15) (v := ?vb15) (by decide) rfl (by kernel_rfl) (by kernel_rfl) (by kernel_rfl) (fun _ _ _ h => h) (Or.inl ⟨by rfl, ?hyb15⟩) u1 ?restb15
      case hyb15 => (intro w' _; go_simp; try with_reducible rfl)
      try simp only [Act.put, List.setIfInBounds_toArray, List.set_cons_zero, List.set_cons_succ]
      refine wpAnyZ_free (i := 16) (v := ?vb16) (by decide) rfl (by kernel_rfl) (by kernel_rfl) (by kernel_rfl) (fun _ _ _ h => h) (Or.inl ⟨by rfl, ?hyb16⟩) u1 ?restb16
      case hyb16 => (intro w' _; go_simp; try with_reducible rfl)
      try simp only [Act.put, List.setIfInBounds_toArray, List.set_cons_zero, List.set_cons_succ]
      refine wpAnyZ_one (i := 17) (by kernel_rfl) rfl (fun K hK => ?_)
      go_simp
      refine hK _ _ (.inr ⟨rfl, by decide⟩) ?_
      clear hK K
      refine wpAnyZ_done (by kernel_rfl) ?_ _
      have FIN : Aside (PutOk base w p v M (w5.setCell ⟨p, 0, none⟩ (.slice (some ⟨g', 0, none⟩) (L.length + 1) cap'))) := put_fin HT.out TX.out.2 HM.out.1 HM.out.2.1 HM.out.2.2.1 HM.out.2.2.2.1 HM.out.2.2.2.2.1 H5.out
      clear H5 u1 u2
      go_wp2
      go_ret
      exact ⟨rfl, FIN.out⟩
end Go.Proofs.YtkilnfooelihaaaDoor
