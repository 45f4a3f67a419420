import Derived.Test.YtcggmagdndhkbaaGreatDoorWt32
section
set_option linter.unusedVariables false
set_option linter.unusedSimpArgs false
namespace Go.Proofs.YtcggmagdndhkbaaGreatDoor
open Go.RowKit Go.Lib Go.Sort Go.Maps
open scoped Classical
set_option maxRecDepth 100000 in
set_option maxHeartbeats 8000000 in
theorem state_any (w : World) (c : Nat → Nat) (br : Nat) (by_ : Int) (R : Rws) (h : RepAt w c br by_ R) (htab : Lib.TabIs Tryz.prog w "internal/strconv.uint64pow10" .u64 Lib.pow10Tab) (hn : (allR R).length ≤ 300) :
    Calls Tryz.prog 17 #[.pointer (some ⟨br, 0, none⟩)] w fun e w' => ∃ s, e = .returned (.string ⟨s.toArray⟩) ∧ StateIs (allR R) s ∧ Below w.heap.size w w' := by
  obtain ⟨T, kv, bt, bx, bc, A, hM, hperm, hK, hby⟩ := h
  have hAl : A.length ≤ 300 := by have := hperm.length_eq; omega
  obtain ⟨S, hS⟩ : ∃ S, S = w.heap.size := ⟨_, rfl⟩
  obtain ⟨U, hU⟩ : ∃ U, U = w.alloc (.cells #[.slice none 0 0] 123) := ⟨_, rfl⟩
  have hbU : Below w.heap.size w U := by rw [hU]; exact (Below.refl _ w).alloc (Nat.le_refl _) _
  have hT0 : TellSt S [] (.slice none 0 0) U := ⟨by rw [hU, hS]; exact heap_alloc_new w _, World.ownsRow_nil _ _ _ _⟩
  have HT : Aside (Lib.TabBelow Tryz.prog w.heap.size w "internal/strconv.uint64pow10" .u64 Lib.pow10Tab) := Lib.tabBelow_of_tabIs htab
  have HM : Aside (RepMid w c br T by_ kv bt bx bc R A ∧ A.Perm (allR R) ∧ RowsK R) := ⟨hM, hperm, hK⟩
  have eg : ∀ args w, (callFunc 63 args).run Tryz.prog w = .ok (.enter 63 args) w := enters_of Tryz.func63 (by kernel_rfl) rfl
  obtain ⟨bm, tv, ms, hTA, hms, -⟩ := (hM.later hbU).tree
  obtain ⟨nm, hnm, hMap⟩ := hTA.map
  have hml : ms.length ≤ 300 := by
    have h1 := hms.length_eq
    have h2 : (movsO A).length ≤ A.length := List.length_filterMap_le _ _
    omega
  have hpl := places_new U bt bm nm tv (madeBy ms) hTA.good hTA.cell hMap (by omega)
  have c6 := (hM.later hbU).cell.c6
  have HMS : Aside (ms.Perm (movsO A) ∧ ByStamp ms ∧ Good (madeBy ms)) := ⟨hms, hTA.by_, hTA.good⟩
  have HU : Aside (U = w.alloc (.cells #[.slice none 0 0] 123) ∧ Below w.heap.size w U ∧ TellSt S [] (.slice none 0 0) U ∧ S = w.heap.size) := ⟨hU, hbU, hT0, hS⟩
  clear hTA hMap hms hM hperm hK hby htab hT0 hU hbU
  go_enter Tryz.func17, Tryz.ntmps17
  go_upto_region 3 with fail
  rw [← HU.out.1]
  go_wp2_with fail
  refine hpl.mono ?_
  clear hpl c6
  rintro e W1 ⟨vq, qs, rfl, hIP, hql, hPA, hb1, hnew⟩
  obtain ⟨ao, qc, rfl, hin, hao⟩ := pls_in hPA
  rw [← hS] 
  have HQ : Aside (IsPlaces (madeBy ms) qs ∧ InRow cellsP W1 ao qs ∧ (∀ g o, ao = some ⟨g, o, none⟩ → g < W1.heap.size ∧ g ≠ S ∧ (Value.slice none 0 0).ownBlock ≠ some g) ∧ StSt w S W1 (.slice none 0 0) [] (.slice none 0 0) W1) := by
    refine ⟨hIP, hin, fun g o e => ⟨(hao g o e).2, ?_, fun q => by cases q⟩, StSt.start (HU.out.2.2.1.later hb1) ?_⟩
    · have h1 := hnew g (hao g o e).1
      have h2 := HU.out.2.2.1.lt
      omega
    · rw [HU.out.2.2.2]
      exact HU.out.2.1.trans (hb1.mono HU.out.2.1.size)
  have hqs : qs.length ≤ 90000 := by omega
  clear hIP hPA hb1 hnew hin hao hql hnm hS
  go_wp2
  go_loopg [19] qs.length (fun kx s19 wr => ∃ (k : Nat) (v : Value), s19 = .int .i64 (k : Int) ∧ k ≤ qs.length ∧ qs.length - k ≤ kx ∧ Aside (StSt w S W1 (.slice none 0 0) ((qs.take k).map placeB) v wr))
  case atStart => exact ⟨0, _, rfl, Nat.zero_le _, Nat.le_refl _, HQ.out.2.2.2⟩
  case round =>
    obtain ⟨k, v, rfl, hk, hkx, A1⟩ := hrel
    by_cases hlt : k < qs.length
    · have d1 : decide ((k : Int) < (qs.length : Int)) = true := by simp; omega
      have wk : ((k : Int)).toNat = k := by omega
      have pk : (0 : Int) ≤ (k : Int) := by omega
      have bk : (k : Int) < (qs.length : Int) := by omega
      obtain ⟨⟨a, b, s⟩, hx⟩ : ∃ x, Aside (qs[k]? = some x) := ⟨qs[k], List.getElem?_eq_getElem hlt⟩
      obtain ⟨blk, off, hao, hc⟩ := (A1.out.inRow HQ.out.2.1 HQ.out.2.2.1).get cellsP_len hx.out
      subst hao
      have r0 := hc 0 _ rfl
      have r1 := hc 1 _ rfl
      have r2 := hc 2 _ rfl
      simp only [Nat.add_zero] at r0
      clear hc
      have hfine := HMS.out.2.2.fine _ _ ((HQ.out.1.mem _).1 (List.mem_of_getElem? hx.out))
      obtain ⟨P, hP⟩ : ∃ P, P = wr.heap.size := ⟨_, rfl⟩
      obtain ⟨V, hV⟩ : ∃ V, V = wr.alloc (.cells #[.int .i64 a, .int .i64 b, .string s] 129) := ⟨_, rfl⟩
      have hbV : Below wr.heap.size wr V := by rw [hV]; exact (Below.refl _ wr).alloc (Nat.le_refl _) _
      have hPV : PlcAt V P (a, b, s) := by rw [hV, hP]; exact heap_alloc_new wr _
      have HV : Aside (StSt w S W1 (.slice none 0 0) ((qs.take k).map placeB) v V ∧ PlcAt V P (a, b, s) ∧ (∀ g, v.ownBlock = some g → g < P) ∧ S < P) := ⟨A1.out.later hbV, hPV, fun g hg => by rw [hP]; exact (A1.out.st.row.lt g hg).2, by rw [hP]; exact A1.out.st.lt⟩
      have HF : Aside (FineP (a, b, s)) := hfine
      have hPd : PlcAt V.drew P (a, b, s) := hPV
      clear hbV hPV hfine
      go_upto_region 6 with fail
      rw [← hV]
      clear hV r0 r1 r2
      rw [← hP]
      clear hP
      refine wp_region_H (S := (fun w' => PlcAt w' P (a, b, s))) (by kernel_rfl) hPd (fun hHeld => ?_)
      refine wpAnyH_take (i := 0) (v := ?vaa0) rfl (by kernel_rfl) (by kernel_rfl) (by kernel_rfl) (fun _ _ _ h => h) (Or.inl ⟨by rfl, ?hya0⟩) hHeld ?resta0
      case hya0 => (intro w' _; go_simp; try with_reducible rfl)
      try simp only [Act.put, List.setIfInBounds_toArray, List.set_cons_zero, List.set_cons_succ]
      refine wpAnyH_take (i := 1) (v := ?vaa1) rfl (by kernel_rfl) (by kernel_rfl) (by kernel_rfl) (fun _ _ _ h => h) (Or.inl ⟨by rfl, ?hya1⟩) hHeld ?resta1
      case hya1 => (intro w' _; go_simp; try with_reducible rfl)
      try simp only [Act.put, List.setIfInBounds_toArray, List.set_cons_zero, List.set_cons_succ]
      refine wpAnyH_take (i := 2) (v := ?vaa2) rfl (by kernel_rfl) (by kernel_rfl) (by kernel_rfl) (fun _ _ _ h => h) (Or.inl ⟨by rfl, ?hya2⟩) hHeld ?resta2
      case hya2 => (intro w' hSw; have j0 := PlcAt.c0 hSw; dsimp only at j0; clear hSw; go_simp; try with_reducible rfl)
      try simp only [Act.put, List.setIfInBounds_toArray, List.set_cons_zero, List.set_cons_succ]
      refine wpAnyH_take (i := 3) (v := ?vaa3) rfl (by kernel_rfl) (by kernel_rfl) (by kernel_rfl) (fun _ _ _ h => h) (Or.inl ⟨by rfl, ?hya3⟩) hHeld ?resta3
      case hya3 => (intro w' _; go_simp; try with_reducible rfl)
      try simp only [Act.put, List.setIfInBounds_toArray, List.set_cons_zero, List.set_cons_succ]
      refine wpAnyH_take (i := 4) (v := ?vaa4) rfl (by kernel_rfl) (by kernel_rfl) (by kernel_rfl) (fun _ _ _ h => h) (Or.inl ⟨by rfl, ?hya4⟩) hHeld ?resta4
      case hya4 => (intro w' hSw; have j1 := PlcAt.c1 hSw; dsimp only at j1; clear hSw; go_simp; try with_reducible rfl)
      try simp only [Act.put, List.setIfInBounds_toArray, List.set_cons_zero, List.set_cons_succ]
      refine wpAnyH_take (i := 6) (v := ?vaa6) rfl (by kernel_rfl) (by kernel_rfl) (by kernel_rfl) (fun _ _ _ h => h) (Or.inl ⟨by rfl, ?hya6⟩) hHeld ?resta6
      case hya6 => (intro w' _; go_simp; try with_reducible rfl)
      try simp only [Act.put, List.setIfInBounds_toArray, List.set_cons_zero, List.set_cons_succ]
      refine wpAnyH_take (i := 7) (v := ?vaa7) rfl (by kernel_rfl) (by kernel_rfl) (by kernel_rfl) (fun _ _ _ h => h) (Or.inl ⟨by rfl, ?hya7⟩) hHeld ?resta7
      case hya7 => (intro w' hSw; have j2 := PlcAt.c2 hSw; dsimp only at j2; clear hSw; go_simp; try with_reducible rfl)
      try simp only [Act.put, List.setIfInBounds_toArray, List.set_cons_zero, List.set_cons_succ]
      refine wpAnyH_one (i := 5) (by kernel_rfl) rfl (fun K hK => ?_)
      go_simp
      refine (itoa_any b (by have := HF.out.lo'; dsimp only at this; omega) (by have := HF.out.hi'; dsimp only at this; omega) V.drew (HT.out _ (by have := HV.out.1.below.drew; rw [HU.out.2.2.2] at this; exact this))).mono ?_
      rintro e w3 ⟨rfl, hb3⟩
      have A3 : StSt w S W1 (.slice none 0 0) ((qs.take k).map placeB) v w3 := HV.out.1.later ((Below.refl _ V).drew.trans hb3)
      have P3 : PlcAt w3 P (a, b, s) := HV.out.2.1.same (((Below.refl _ V).drew.trans hb3).block P HV.out.2.1.lt)
      refine hK _ _ P3 ?_
      clear hK K hb3
      try simp only [Act.put, List.setIfInBounds_toArray, List.set_cons_zero, List.set_cons_succ]
      obtain ⟨X, hX⟩ : ∃ X, X = w3.alloc (.cells #[.string ⟨#[105, 110]⟩, .string ⟨(Lib.itoa b).toArray⟩, .string s] 9) := ⟨_, rfl⟩
      have hbX : Below w3.heap.size w3 X := by rw [hX]; exact (Below.refl _ w3).alloc (Nat.le_refl _) _
      have AX : StSt w S W1 (.slice none 0 0) ((qs.take k).map placeB) v X := A3.later hbX
      have PX : PlcAt X P (a, b, s) := P3.same (hbX.block P P3.lt)
      have hXb : X.heap[w3.heap.size]? = some (.cells #[.string ⟨#[105, 110]⟩, .string ⟨(Lib.itoa b).toArray⟩, .string s] 9 (0, 0)) := by rw [hX]; exact heap_alloc_new w3 _
      have htl := tell_any X S a w3.heap.size 3 [⟨#[105, 110]⟩, ⟨(Lib.itoa b).toArray⟩, s] ((qs.take k).map placeB) v AX.st (fun j x hj => by
          rw [Nat.zero_add]
          match j, hj with
          | 0, hj => cases hj; simp [World.cell?, hXb]
          | 1, hj => cases hj; simp [World.cell?, hXb]
          | 2, hj => cases hj; simp [World.cell?, hXb]
          | n + 3, hj => simp at hj) (Array.getElem?_eq_some_iff.1 hXb).1 (by simp) (by simp) (HT.out _ (by have := AX.below; rw [HU.out.2.2.2] at this; exact this)) (by have := HF.out.lo; dsimp only at this; omega) (by have := HF.out.hi; dsimp only at this; omega)
          (place_words HF.out) (by rw [List.length_map, List.length_take]; omega)
      have hle : lineB a ([⟨#[105, 110]⟩, ⟨(Lib.itoa b).toArray⟩, s].map (fun x : ByteArray => x.data.toList)) = placeB (a, b, s) := rfl
      rw [hle] at htl
      have htl := htl.mono (R' := fun e w4 => ∃ v', e = .returned (.tuple #[]) ∧ PlcAt w4 P (a, b, s) ∧ Aside (StSt w S W1 (.slice none 0 0) ((qs.take k).map placeB ++ [placeB (a, b, s)]) v' w4)) (fun e w4 ht4 => by
        obtain ⟨v', he, A4⟩ := AX.tell ht4
        obtain ⟨_, -, -, hk4, -⟩ := ht4
        exact ⟨v', he, PX.same (hk4.block P PX.lt (fun q => by
          rcases q with q | q
          · have := HV.out.2.2.2; omega
          · have := HV.out.2.2.1 P q; omega)), A4⟩)
      clear hle AX hXb hbX A3
      refine wpAnyH_one (i := 8) (by kernel_rfl) rfl (fun K hK => ?_)
      go_simp
      rw [← hX]
      refine hK _ _ PX ?_
      clear hK K hX PX
      try simp only [Act.put, List.setIfInBounds_toArray, List.set_cons_zero, List.set_cons_succ]
      refine wpAnyH_one (i := 9) (by kernel_rfl) rfl (fun K hK => ?_)
      go_simp
      refine htl.mono ?_
      clear htl
      rintro e w4 ⟨v', rfl, P4, HA4⟩
      refine hK _ _ P4 ?_
      clear hK K P4
      refine wpAnyH_done (by kernel_rfl) ?_ _
      try simp only [Act.put, List.setIfInBounds_toArray, List.set_cons_zero, List.set_cons_succ]
      go_wp2
      go_roundg (qs.length - (k + 1))
      case measure => omega
      case rel => exact ⟨k + 1, v', by go_num, by omega, Nat.le_refl _, by rw [take_map _ _ hx.out]; exact HA4.out⟩
    · have d1 : decide ((k : Int) < (qs.length : Int)) = false := by simp; omega
      have ek : qs.take k = qs := List.take_of_length_le (by omega)
      rw [ek] at A1
      clear ek
      obtain ⟨nx, tx, t1, t2, t3, t4, t5⟩ := (HM.out.1.later (by have := A1.out.below; rw [HU.out.2.2.2] at this; exact this)).text
      have c7 := (HM.out.1.later (by have := A1.out.below; rw [HU.out.2.2.2] at this; exact this)).cell.c7
      have hky := callsIn_wide.1 (keysT_in Fence.wide 3 trivial rfl (some bx) wr)
      obtain ⟨V, hV⟩ : ∃ V, V = wr.alloc (.cells #[.map (some bx)] 81) := ⟨_, rfl⟩
      have hbV : Below wr.heap.size wr V := by rw [hV]; exact (Below.refl _ wr).alloc (Nat.le_refl _) _
      have hbox : Boxed V wr.heap.size 81 (.map (some bx)) := by rw [hV]; exact heap_alloc_new wr _
      have hsi := sortedInts_any V wr.heap.size bx nx tx (Array.getElem?_eq_some_iff.1 hbox).1 hbox.cell (t2.same (hbV.block bx t2.lt)) (by omega)
      have H2 : Aside (StSt w S W1 (.slice none 0 0) (qs.map placeB) v V ∧ (∀ nd, (tx nd).isSome = true ↔ KnownN A nd) ∧ nx ≤ A.length) := ⟨A1.out.later hbV, t4, t1⟩
      rw [← hV] at hky
      clear t1 t2 t3 t4 t5 hV hbV hbox d1
      go_wp2_with fail
      refine hky.mono ?_
      clear hky
      rintro e w5 ⟨rfl, rfl⟩
      clear c7
      go_wp2_with fail
      refine hsi.mono ?_
      clear hsi
      rintro e W2 ⟨vk, ks, rfl, hrise, hmem, hkl, hrow, hb2⟩
      obtain ⟨ak, kc, rfl⟩ := rowIs hrow
      obtain ⟨tf, htf⟩ : ∃ tf : Int → List UInt8, Aside (∀ nd L, LineIs A nd L → tf nd = textL L) := texts_of A
      have HK : Aside (ks.Pairwise (· < ·) ∧ (∀ nd, nd ∈ ks ↔ KnownN A nd) ∧ InRow encI1 W2 ak ks ∧ (∀ g o, ak = some ⟨g, o, none⟩ → g < W2.heap.size ∧ g ≠ S ∧ v.ownBlock ≠ some g) ∧ StSt w S W2 v (qs.map placeB) v W2) := by
        have h3 := H2.out.1.later hb2
        refine ⟨hrise, fun nd => (hmem nd).trans (H2.out.2.1 nd), rowIn (enc := encI1) encI1_len (by rw [flat_ints]; exact hrow), fun g o e => ?_, StSt.start h3.st h3.below⟩
        subst e
        have h4 := hrow.lt g rfl
        have h5 := H2.out.1.st.lt
        exact ⟨h4.2, by omega, fun q => by have := (H2.out.1.st.row.lt g q).2; omega⟩
      have hks : ks.length ≤ 300 := by have := H2.out.2.2; omega
      clear hrise hmem hkl hrow hb2 A1 H2
      go_wp2
      go_loopg [41] ks.length (fun kx s41 wr => ∃ (k : Nat) (u : Value), s41 = .int .i64 (k : Int) ∧ k ≤ ks.length ∧ ks.length - k ≤ kx ∧ Aside (StSt w S W2 v (qs.map placeB ++ ((((ks.take k).map fun nd => (nd, tf nd)).filter fullT).map textB)) u wr))
      case atStart => exact ⟨0, v, rfl, Nat.zero_le _, Nat.le_refl _, by show StSt w S W2 v _ v W2; simpa using HK.out.2.2.2.2⟩
      case round =>
        obtain ⟨k2, u, rfl, hk2, hkx2, A2⟩ := hrel
        by_cases hlt2 : k2 < ks.length
        · have d2 : decide ((k2 : Int) < (ks.length : Int)) = true := by simp; omega
          have wk : ((k2 : Int)).toNat = k2 := by omega
          have pk : (0 : Int) ≤ (k2 : Int) := by omega
          have bk : (k2 : Int) < (ks.length : Int) := by omega
          obtain ⟨nd, hx⟩ : ∃ x, Aside (ks[k2]? = some x) := ⟨ks[k2], List.getElem?_eq_getElem hlt2⟩
          obtain ⟨blk, off, hak, hc⟩ := (A2.out.inRow HK.out.2.2.1 HK.out.2.2.2.1).get encI1_len hx.out
          subst hak
          have r0 := hc 0 _ rfl
          simp only [Nat.add_zero, Nat.mul_one] at r0
          clear hc
          have hkn : KnownN A nd := (HK.out.2.1 nd).1 (List.mem_of_getElem? hx.out)
          have hnd : 0 ≤ nd ∧ nd < 2 ^ 40 := by
            obtain ⟨x, hx, _, e2, _⟩ := hkn
            have q := opE_zero (HM.out.2.2.well.ok x (HM.out.2.1.mem_iff.1 hx))
            have e3 : x.2.2.2.2.1 = nd := e2
            have q1 : 0 ≤ x.2.2.2.2.1 := q.2.2.2.2.2.2.2.1
            have q2 : x.2.2.2.2.1 ≤ x.1 * 4 + x.2.1 := q.2.2.2.2.2.2.2.2.1
            have q3 : x.1 ≤ 1073741824 := q.2.1
            have q4 : x.2.1 < 4 := q.2.2.2.1
            omega
          have hmid := HM.out.1.later (by have := A2.out.below; rw [HU.out.2.2.2] at this; exact this)
          have htx := rtext_at wr c br T by_ kv bt bx bc A nd hmid.cell hmid.text (by omega) (by omega) (by omega)
          have htx := htx.mono (R' := fun e w6 => ∃ s, e = .returned (.string s) ∧ Aside (tf nd = s.data.toList ∧ s.size ≤ 1000 ∧ StSt w S W2 v (qs.map placeB ++ ((((ks.take k2).map fun nd => (nd, tf nd)).filter fullT).map textB)) u w6)) (fun e w6 q => by
            obtain ⟨s, he, hti, hb6⟩ := q
            refine ⟨s, he, ?_, ?_, A2.out.later hb6⟩
            · rcases hti with ⟨q, _⟩ | ⟨_, L, hL, hs⟩
              · exact absurd hkn q
              · rw [htf.out nd L hL, hs]
            · rcases hti with ⟨q, _⟩ | ⟨_, L, hL, hs⟩
              · exact absurd hkn q
              · have h1 := textL_len L
                have h2 := hL.len
                have h3 : s.data.toList.length = s.size := by simp
                rw [hs] at h3
                omega)
          have hnd0 := hnd.1
          have hnd1 := hnd.2
          obtain ⟨y, hy⟩ : ∃ y, y = wr := ⟨_, rfl⟩
          subst hy
          clear hmid hkn hnd
          go_wp2_with fail
          refine htx.mono ?_
          clear htx
          rintro e w6 ⟨s, rfl, H6⟩
          clear r0
          have hst := H6.out.1
          have hsl := H6.out.2.1
          have A6 := H6.out.2.2
          by_cases hs0 : s.size = 0
          · have he := emptyYes hs0
            have HA6 : Aside (StSt w S W2 v (qs.map placeB ++ ((((ks.take (k2 + 1)).map fun nd => (nd, tf nd)).filter fullT).map textB)) u w6) := by
              show StSt w S W2 v _ u w6
              rw [take_map _ _ hx.out, List.filter_append]
              have : fullT (nd, tf nd) = false := by
                have h3 : s.data.toList.length = s.size := by simp
                unfold fullT
                rw [hst]
                simp only [ne_eq, decide_not, Bool.not_eq_false', decide_eq_true_eq]
                exact List.length_eq_zero_iff.1 (by omega)
              simp only [List.filter_cons, this, List.filter_nil]
              simpa using A6
            clear A6 A2
            go_wp2
            go_roundg (ks.length - (k2 + 1))
            case measure => omega
            case rel => exact ⟨k2 + 1, u, by go_num, by omega, Nat.le_refl _, HA6.out⟩
          · have he := emptyNo hs0
            obtain ⟨X, hX⟩ : ∃ X, X = w6.alloc (.cells #[.string ⟨#[116, 101, 120, 116]⟩, .string s] 9) := ⟨_, rfl⟩
            have hbX : Below w6.heap.size w6 X := by rw [hX]; exact (Below.refl _ w6).alloc (Nat.le_refl _) _
            have AX := A6.later hbX
            have hXb : X.heap[w6.heap.size]? = some (.cells #[.string ⟨#[116, 101, 120, 116]⟩, .string s] 9 (0, 0)) := by rw [hX]; exact heap_alloc_new w6 _
            have htl := tell_any X S nd w6.heap.size 2 [⟨#[116, 101, 120, 116]⟩, s] (qs.map placeB ++ ((((ks.take k2).map fun nd => (nd, tf nd)).filter fullT).map textB)) u AX.st (fun j x hj => by
                rw [Nat.zero_add]
                match j, hj with
                | 0, hj => cases hj; simp [World.cell?, hXb]
                | 1, hj => cases hj; simp [World.cell?, hXb]
                | n + 2, hj => simp at hj) (Array.getElem?_eq_some_iff.1 hXb).1 (by simp) (by simp) (HT.out _ (by have := AX.below; rw [HU.out.2.2.2] at this; exact this)) (by omega) (by omega)
                (by simp only [List.map_cons, List.map_nil, Lib.join_length, Lib.lens, List.length_cons, List.length_nil, List.sum_cons, List.sum_nil]; have : s.data.toList.length = s.size := by simp
                    omega) (by
                  have h1 : ((((ks.take k2).map fun nd => (nd, tf nd)).filter fullT).map textB).length ≤ ks.length := by
                    rw [List.length_map]
                    refine Nat.le_trans (List.length_filter_le _ _) ?_
                    rw [List.length_map, List.length_take]
                    omega
                  rw [List.length_append, List.length_map]
                  omega)
            have hle : lineB nd ([⟨#[116, 101, 120, 116]⟩, s].map (fun x : ByteArray => x.data.toList)) = textB (nd, tf nd) := by rw [hst]; rfl
            rw [hle] at htl
            have hfull : fullT (nd, tf nd) = true := by
              have h3 : s.data.toList.length = s.size := by simp
              unfold fullT
              rw [hst]
              simp only [ne_eq, decide_not, Bool.not_eq_true', decide_eq_false_iff_not]
              intro q
              rw [q] at h3
              simp at h3
              omega
            have htl := htl.mono (R' := fun e w7 => ∃ u', e = .returned (.tuple #[]) ∧ Aside (StSt w S W2 v (qs.map placeB ++ ((((ks.take (k2 + 1)).map fun nd => (nd, tf nd)).filter fullT).map textB)) u' w7)) (fun e w7 ht7 => by
              obtain ⟨u', he, A7⟩ := AX.tell ht7
              refine ⟨u', he, ?_⟩
              show StSt w S W2 v _ u' w7
              rw [take_map _ _ hx.out, List.filter_append]
              simp only [List.filter_cons, hfull, List.filter_nil, List.map_append, List.map_cons, List.map_nil, if_true]
              rw [← List.append_assoc]
              exact A7)
            clear hle AX hXb hbX A6 A2 hfull
            go_wp2_with fail
            rw [← hX]
            refine htl.mono ?_
            clear htl hX
            rintro e w7 ⟨u', rfl, HA7⟩
            go_wp2
            go_roundg (ks.length - (k2 + 1))
            case measure => omega
            case rel => exact ⟨k2 + 1, u', by go_num, by omega, Nat.le_refl _, HA7.out⟩
        · have d2 : decide ((k2 : Int) < (ks.length : Int)) = false := by simp; omega
          have ek : ks.take k2 = ks := List.take_of_length_le (by omega)
          rw [ek] at A2
          clear ek
          obtain ⟨ts, hts⟩ : ∃ ts, ts = ks.map fun nd => (nd, tf nd) := ⟨_, rfl⟩
          rw [← hts] at A2
          have hIT : IsTexts A ts := by
            refine ⟨?_, fun nd => ?_, fun t ht => ?_⟩
            · rw [hts, List.pairwise_map]; exact HK.out.1
            · rw [hts, List.map_map]
              have : ks.map ((fun x : Int × List UInt8 => x.1) ∘ fun nd => (nd, tf nd)) = ks := (List.map_congr_left (fun _ _ => rfl)).trans (List.map_id ks)
              rw [this]
              exact HK.out.2.1 nd
            · rw [hts] at ht
              obtain ⟨nd, hnd, rfl⟩ := List.mem_map.1 ht
              obtain ⟨_, tx', _, _, _, q4, q5⟩ := HM.out.1.text
              obtain ⟨p, hp⟩ := Option.isSome_iff_exists.1 ((q4 nd).2 ((HK.out.2.1 nd).1 hnd))
              obtain ⟨_, L, _, hL, _⟩ := q5 nd p hp
              exact ⟨L, hL, htf.out nd L hL⟩
          have htsl : ts.length ≤ 300 := by rw [hts, List.length_map]; exact hks
          have htl : ∀ t ∈ ts, t.2.length ≤ 1000 := fun t ht => by
            obtain ⟨L, hL, e⟩ := hIT.line t ht
            have h1 := textL_len L
            have h2 := hL.len
            rw [e]
            omega
          have htn : ∀ t ∈ ts, 0 ≤ t.1 ∧ t.1 < 2 ^ 40 := fun t ht => by
            obtain ⟨x, hx, _, e2, _⟩ := (hIT.mem t.1).1 (List.mem_map.2 ⟨t, ht, rfl⟩)
            have q := opE_zero (HM.out.2.2.well.ok x (HM.out.2.1.mem_iff.1 hx))
            have e3 : x.2.2.2.2.1 = t.1 := e2
            have q1 : 0 ≤ x.2.2.2.2.1 := q.2.2.2.2.2.2.2.1
            have q2 : x.2.2.2.2.1 ≤ x.1 * 4 + x.2.1 := q.2.2.2.2.2.2.2.2.1
            have q3 : x.1 ≤ 1073741824 := q.2.1
            have q4 : x.2.1 < 4 := q.2.2.2.1
            omega
          have HTS : Aside (IsTexts A ts ∧ (∀ t ∈ ts, t.2.length ≤ 1000) ∧ (∀ t ∈ ts, 0 ≤ t.1 ∧ t.1 < 2 ^ 40)) := ⟨hIT, htl, htn⟩
          obtain ⟨LS, hLS⟩ : ∃ LS, LS = qs.map placeB ++ (ts.filter fullT).map textB := ⟨_, rfl⟩
          rw [← hLS] at A2
          have hLSl : LS.length ≤ 90300 := by
            rw [hLS, List.length_append, List.length_map, List.length_map]
            have := List.length_filter_le fullT ts
            omega
          have hmid := HM.out.1.later (by have := A2.out.below; rw [HU.out.2.2.2] at this; exact this)
          obtain ⟨cm, A', m1, m2, m3, m4⟩ := hmid.marks
          have hmk := marks_new wr bc cm A.length (madeO A') m1 (by omega)
          have c8 := hmid.cell.c8
          have HLS : Aside (LS = qs.map placeB ++ (ts.filter fullT).map textB ∧ A'.Perm A) := ⟨hLS, m2⟩
          obtain ⟨y, hy⟩ : ∃ y, y = wr := ⟨_, rfl⟩
          subst hy
          clear hts hIT htl htn hLS hmid m1 m2 m3 m4 HK htf
          go_wp2_with fail
          refine hmk.mono ?_
          clear hmk c8
          rintro e W3 ⟨am, mc, mm, rfl, hIM, hmml, hmin, hb3, hnew3⟩
          have HMM : Aside (IsMarks (madeO A') mm ∧ InRow cellsM W3 am mm ∧ (∀ g o, am = some ⟨g, o, none⟩ → mm ≠ [] → g < W3.heap.size ∧ g ≠ S ∧ u.ownBlock ≠ some g) ∧ StSt w S W3 u LS u W3) := by
            have h3 := A2.out.later hb3
            refine ⟨hIM, hmin, fun g o e hne => ⟨inRow_lt cellsM_len (by omega) hmin hne e, ?_, fun q => ?_⟩, StSt.start h3.st h3.below⟩
            · have := hnew3 g o e
              have := A2.out.st.lt
              omega
            · have h4 := hnew3 g o e
              have := (A2.out.st.row.lt g q).2
              omega
          have hmm3 : mm.length ≤ 300 := by omega
          clear hIM hmml hmin hb3 hnew3 A2
          go_wp2
          go_loopg [62] mm.length (fun kx s62 wr => ∃ (k : Nat) (z : Value), s62 = .int .i64 (k : Int) ∧ k ≤ mm.length ∧ mm.length - k ≤ kx ∧ Aside (StSt w S W3 u (LS ++ (mm.take k).map markB) z wr))
          case atStart => exact ⟨0, u, rfl, Nat.zero_le _, Nat.le_refl _, by show StSt w S W3 u _ u W3; simpa using HMM.out.2.2.2⟩
          case round =>
            obtain ⟨k3, z, rfl, hk3, hkx3, A3⟩ := hrel
            by_cases hlt3 : k3 < mm.length
            · have d3 : decide ((k3 : Int) < (mm.length : Int)) = true := by simp; omega
              have wk : ((k3 : Int)).toNat = k3 := by omega
              have pk : (0 : Int) ≤ (k3 : Int) := by omega
              have bk : (k3 : Int) < (mm.length : Int) := by omega
              obtain ⟨⟨nd, nm', vl⟩, hx⟩ : ∃ x, Aside (mm[k3]? = some x) := ⟨mm[k3], List.getElem?_eq_getElem hlt3⟩
              have hmne : mm ≠ [] := fun q => by rw [q] at hlt3; simp at hlt3
              obtain ⟨blk, off, ham, hc⟩ := (A3.out.inRow HMM.out.2.1 (fun g o e => HMM.out.2.2.1 g o e hmne)).get cellsM_len hx.out
              subst ham
              have r0 := hc 0 _ rfl
              have r1 := hc 1 _ rfl
              have r2 := hc 2 _ rfl
              simp only [Nat.add_zero] at r0
              clear hc hmne
              have hmo := mark_of HMM.out.1 (List.mem_of_getElem? hx.out)
              dsimp only at hmo
              obtain ⟨Y, hY⟩ : ∃ Y, Y = wr.alloc (.cells #[.int .i64 nd, .string nm', .string vl] 137) := ⟨_, rfl⟩
              have hbY : Below wr.heap.size wr Y := by rw [hY]; exact (Below.refl _ wr).alloc (Nat.le_refl _) _
              have hYb : Y.heap[wr.heap.size]? = some (.cells #[.int .i64 nd, .string nm', .string vl] 137 (0, 0)) := by rw [hY]; exact heap_alloc_new wr _
              have y0 : Y.cell? ⟨wr.heap.size, 0, none⟩ = some (.int .i64 nd) := by simp [World.cell?, hYb]
              have y1 : Y.cell? ⟨wr.heap.size, 1, none⟩ = some (.string nm') := by simp [World.cell?, hYb]
              have y2 : Y.cell? ⟨wr.heap.size, 2, none⟩ = some (.string vl) := by simp [World.cell?, hYb]
              obtain ⟨X, hX⟩ : ∃ X, X = Y.alloc (.cells #[.string ⟨#[109, 97, 114, 107]⟩, .string nm', .string vl] 9) := ⟨_, rfl⟩
              have hbX : Below Y.heap.size Y X := by rw [hX]; exact (Below.refl _ Y).alloc (Nat.le_refl _) _
              have AX := (A3.out.later hbY).later hbX
              have hXb : X.heap[Y.heap.size]? = some (.cells #[.string ⟨#[109, 97, 114, 107]⟩, .string nm', .string vl] 9 (0, 0)) := by rw [hX]; exact heap_alloc_new Y _
              have htl := tell_any X S nd Y.heap.size 3 [⟨#[109, 97, 114, 107]⟩, nm', vl] (LS ++ (mm.take k3).map markB) z AX.st (fun j x hj => by
                  rw [Nat.zero_add]
                  match j, hj with
                  | 0, hj => cases hj; simp [World.cell?, hXb]
                  | 1, hj => cases hj; simp [World.cell?, hXb]
                  | 2, hj => cases hj; simp [World.cell?, hXb]
                  | n + 3, hj => simp at hj) (Array.getElem?_eq_some_iff.1 hXb).1 (by simp) (by simp) (HT.out _ (by have := AX.below; rw [HU.out.2.2.2] at this; exact this)) (by omega) (by omega)
                  (by simp only [List.map_cons, List.map_nil, Lib.join_length, Lib.lens, List.length_cons, List.length_nil, List.sum_cons, List.sum_nil]; have q1 : nm'.data.toList.length = nm'.size := by simp
                      have q2 : vl.data.toList.length = vl.size := by simp
                      omega) (by rw [List.length_append, List.length_map, List.length_take]; omega)
              have hle : lineB nd ([⟨#[109, 97, 114, 107]⟩, nm', vl].map (fun x : ByteArray => x.data.toList)) = markB (nd, nm', vl) := rfl
              rw [hle] at htl
              have htl := htl.mono (R' := fun e w7 => ∃ z', e = .returned (.tuple #[]) ∧ Aside (StSt w S W3 u (LS ++ (mm.take (k3 + 1)).map markB) z' w7)) (fun e w7 ht7 => by
                obtain ⟨z', he, A7⟩ := AX.tell ht7
                refine ⟨z', he, ?_⟩
                show StSt w S W3 u _ z' w7
                rw [take_map _ _ hx.out, ← List.append_assoc]
                exact A7)
              have HY : Aside (Y.heap.size = wr.heap.size + 1) := by show Y.heap.size = _; rw [hY]; simp
              obtain ⟨y, hy⟩ : ∃ y, y = wr := ⟨_, rfl⟩
              subst hy
              clear hle AX hXb hbX hbY hYb A3 hmo d2
              go_upto_region 18 with fail
              rw [← hY]
              clear hY r0 r1 r2
              go_wp2_with fail
              rw [← hX]
              refine htl.mono ?_
              clear htl hX
              rintro e w7 ⟨z', rfl, HA7⟩
              clear y0 y1 y2
              go_wp2
              go_roundg (mm.length - (k3 + 1))
              case measure => omega
              case rel => exact ⟨k3 + 1, z', by go_num, by omega, Nat.le_refl _, HA7.out⟩
            · have d3 : decide ((k3 : Int) < (mm.length : Int)) = false := by simp; omega
              have ek : mm.take k3 = mm := List.take_of_length_le (by omega)
              rw [ek] at A3
              clear ek
              have hjl := joinLines wr S (LS ++ mm.map markB) z A3.out.st (by rw [List.length_append, List.length_map]; omega) (fun l hl => by
                have hIP := HQ.out.1
                rcases List.mem_append.1 hl with hl | hl
                · rw [HLS.out.1] at hl
                  rcases List.mem_append.1 hl with hl | hl
                  · obtain ⟨p, hp, rfl⟩ := List.mem_map.1 hl
                    exact place_len (HMS.out.2.2.fine _ _ ((HQ.out.1.mem p).1 hp))
                  · obtain ⟨t, ht, rfl⟩ := List.mem_map.1 hl
                    have ht' := (List.mem_filter.1 ht).1
                    exact text_len (HTS.out.2.1 t ht') (HTS.out.2.2 t ht').1 (HTS.out.2.2 t ht').2
                · obtain ⟨m, hm, rfl⟩ := List.mem_map.1 hl
                  exact mark_len (mark_of HMM.out.1 hm))
              have z0 := A3.out.st.box.cell
              have HFIN : Aside (StateIs (allR R) (Lib.join (LS ++ mm.map markB) [10])) := by
                refine StateIs.perm (A := A) ⟨ms, qs, ts, A', mm, HMS.out.1, HMS.out.2.1, HQ.out.1, HTS.out.1, HLS.out.2, HMM.out.1, ?_⟩ HM.out.2.1
                unfold linesB
                rw [HLS.out.1]
              have HB : Aside (Below w.heap.size w wr) := by have := A3.out.below; rw [HU.out.2.2.2] at this; exact this
              obtain ⟨y, hy⟩ : ∃ y, y = wr := ⟨_, rfl⟩
              subst hy
              clear A3 d2
              go_wp2_with fail
              refine hjl.mono ?_
              clear hjl
              rintro e w9 ⟨rfl, hb9⟩
              have HB9 : Aside (Below w.heap.size w w9) := HB.out.trans (hb9.mono HB.out.size)
              clear hb9
              go_wp2
              go_ret
              exact ⟨_, rfl, HFIN.out, HB9.out⟩
end Go.Proofs.YtcggmagdndhkbaaGreatDoor
end
