import Derived.Test.YtehighgebbdenaaGreatDoorVp06
import Derived.Test.YtehighgebbdenaaGreatDoorVp16
import Derived.Test.YtehighgebbdenaaGreatDoorVp30
import Derived.Test.YtehighgebbdenaaGreatDoorVp37
import Derived.Test.YtehighgebbdenaaGreatDoorVp38
section
set_option linter.unusedVariables false
set_option linter.unusedSimpArgs false
namespace Go.Proofs.YtehighgebbdenaaGreatDoor
open Go.RowKit Go.Lib Go.Sort Go.Maps
open scoped Classical
def Make1Out (ad : Nat → Addr) (w : World) (R : Rws) (i : Nat) (e : Ending) (w' : World) : Prop := ∃ (y : OpX) (cd : Nat), e = .returned (.tuple #[encO y, eV ad cd]) ∧ Aside (Below w.heap.size w w' ∧ cd ≤ 12 ∧ ((cd ≠ 0 ∧ y = zeroO) ∨ (cd = 0 ∧ ∃ T, timeO (allR R) T ∧ NextOp R i T y)))
theorem known_two {S : List OpX} (h : ∀ x ∈ S, errO x = 0) {nd : Int} (k : KnownN S nd) : 2 ≤ nd := by
  obtain ⟨x, hx, k1, k2, k3⟩ := k
  have := (err_refs (h x hx)).2.2.2.2.1 k1
  omega
theorem err_le (x : OpX) : errO x ≤ 5 := by
  unfold errO opE kindE moveE insE delE setE
  repeat (first | omega | split)
theorem atL_true {n : Int} {L : List Ltr} {id : Int} (h : atL n L = (id, true)) : id ∈ L.map (·.1) := by
  unfold atL at h
  split at h
  · split at h
    · rename_i l hl
      cases h
      exact List.mem_map.2 ⟨l, (List.mem_filter.1 (List.mem_of_getElem? hl)).1, rfl⟩
    · cases h
  · cases h
theorem next_own {R : Rws} {i : Nat} {T : Int} {kd : Nat} {nd o : Int} {s v : ByteArray} (he : errO (ownX T i (R i).length kd nd o s v) = 0) (hr : RefOk (ownX T i (R i).length kd nd o s v :: allR R) (ownX T i (R i).length kd nd o s v)) : NextOp R i T (ownX T i (R i).length kd nd o s v) := ⟨he, rfl, rfl, rfl, hr⟩
theorem own_node {T : Int} {i m kd : Nat} {nd o : Int} {s v : ByteArray} (h : nd ≠ 0) : nodeO (ownX T i m kd nd o s v) = nd := if_neg h
theorem made_out {ad : Nat → Addr} {w w' : World} {R : Rws} {i : Nat} {T : Int} {x : OpX} {ok : Prop} {e : Ending} (h : MadeOut ad w ok x e w') (hT : timeO (allR R) T) (hF : errF x = errO x) (hx : ok → errO x = 0 → NextOp R i T x) : Make1Out ad w R i e w' := by
  rcases h with ⟨h1, h2, h3⟩ | ⟨h1, h2, h3⟩
  · rw [hF] at h2
    by_cases he : errO x = 0
    · rw [if_pos he, he] at h2
      exact ⟨x, 0, h2, h3, by omega, .inr ⟨rfl, T, hT, hx h1 he⟩⟩
    · rw [if_neg he] at h2
      exact ⟨zeroO, errO x, h2, h3, by have := err_le x; omega, .inl ⟨he, rfl⟩⟩
  · exact ⟨zeroO, 6, h2, h3, by omega, .inl ⟨by omega, rfl⟩⟩
section
variable {B : Nat} {ad : Nat → Addr} (w : World) (c : Nat → Nat) (br : Nat) (i : Nat) (R : Rws)
theorem m_make (into : Int) (name : ByteArray) (h : RepOwn B w c br (i : Int) R) (hE : EnvT B ad w) (hi : i < 4) (hT : ∀ T, timeO (allR R) T → T < 1073741824) (hn : (allR R).length ≤ 140) (hs1 : name.size ≤ 1000000) (h2 : -9223372036854775808 ≤ into) (h3 : into ≤ 9223372036854775807) :
    Calls Tryz.prog 43 #[.pointer (some ⟨br, 0, none⟩), .int .i64 into, .string name] w (Make1Out ad w R i) := by
  obtain ⟨T, kv, bt, bx, bc, A, hm, hp, ht⟩ := h.rep.time
  obtain ⟨ao, cap, hM⟩ := hm.norm
  refine (make_any w c br T i ao cap bt bx bc R into name hM.cell hM.rows h.wellK hE.env hi ht.2.2 (Int.le_of_lt (hT T ht)) hn hs1 h2 h3).mono fun e w' q => made_out q ht (errF_own (hT T ht)) (fun ok he => next_own he ?_)
  refine ⟨.inl ⟨rfl, rfl⟩, fun _ => ok.imp id (fun q => q.imp id (fun q => q.mono (fun x hx => List.mem_cons_of_mem _ hx))), fun q => ?_⟩
  rcases q with ⟨q, _⟩ | q <;> exact absurd q (by show ¬ (109 = _); decide)
theorem m_mark (nd : Int) (name value : ByteArray) (h : RepOwn B w c br (i : Int) R) (hE : EnvT B ad w) (hi : i < 4) (hT : ∀ T, timeO (allR R) T → T < 1073741824) (hn : (allR R).length ≤ 140) (hs1 : name.size ≤ 1000000) (hs2 : value.size ≤ 1000000) (h2 : -9223372036854775808 ≤ nd) (h3 : nd ≤ 9223372036854775807) :
    Calls Tryz.prog 68 #[.pointer (some ⟨br, 0, none⟩), .int .i64 nd, .string name, .string value] w (Make1Out ad w R i) := by
  obtain ⟨T, kv, bt, bx, bc, A, hm, hp, ht⟩ := h.rep.time
  obtain ⟨ao, cap, hM⟩ := hm.norm
  refine (mark_any w c br T i ao cap bt bx bc R nd name value hM.cell hM.rows h.wellK hE.env hi ht.2.2 (Int.le_of_lt (hT T ht)) hn hs1 hs2 h2 h3).mono fun e w' q => made_out q ht (errF_own (hT T ht)) (fun ok he => next_own he ?_)
  have hnd := known_two h.wellK.well.ok ok
  refine ⟨.inr ?_, fun q => absurd q (by show ¬ (115 = _); decide), fun q => ?_⟩
  · rw [own_node (by omega)]
    exact ok.mono (fun x hx => List.mem_cons_of_mem _ hx)
  · rcases q with ⟨q, _⟩ | q <;> exact absurd q (by show ¬ (115 = _); decide)
theorem m_erase (nd n : Int) (h : RepOwn B w c br (i : Int) R) (hE : EnvT B ad w) (hi : i < 4) (hT : ∀ T, timeO (allR R) T → T < 1073741824) (hn : (allR R).length ≤ 140) (h2 : -9223372036854775808 ≤ nd) (h3 : nd ≤ 9223372036854775807) (h4 : -9223372036854775808 ≤ n) (h5 : n ≤ 9223372036854775807) :
    Calls Tryz.prog 67 #[.pointer (some ⟨br, 0, none⟩), .int .i64 nd, .int .i64 n] w (Make1Out ad w R i) := by
  obtain ⟨T, kv, bt, bx, bc, A, hm, hp, ht⟩ := h.rep.time
  obtain ⟨ao, cap, hM⟩ := hm.norm
  refine (erase_any w c br T i ao cap bt bx bc R A nd n hM.cell hM.text hp hE.env hi ht.2.2 (Int.le_of_lt (hT T ht)) hn h2 h3 h4 h5).mono fun e w' q => ?_
  obtain ⟨a, ⟨a1, a2⟩, q⟩ := q
  refine made_out q ht (errF_own (hT T ht)) (fun ok he => next_own he ?_)
  have hk : KnownN A nd := by
    by_cases hk : KnownN A nd
    · exact hk
    · rw [a1 hk] at ok; cases ok
  obtain ⟨L, hL, ea⟩ := a2 hk
  have hl : LetterN A nd a.1 := hL.mem.1 (atL_true (n := n) (by rw [← ea, ← ok]))
  have hk' := (knownN_perm hp nd).1 hk
  have hnd := known_two h.wellK.well.ok hk'
  refine ⟨.inr ?_, fun q => absurd q (by show ¬ (100 = _); decide), fun _ => ?_⟩
  · rw [own_node (by omega)]
    exact hk'.mono (fun x hx => List.mem_cons_of_mem _ hx)
  · rw [own_node (by omega)]
    exact hl.mono (fun x hx => List.mem_cons_of_mem _ (hp.mem_iff.1 hx))
theorem m_write (nd n : Int) (ch : UInt8) (h : RepOwn B w c br (i : Int) R) (hE : EnvT B ad w) (hi : i < 4) (hT : ∀ T, timeO (allR R) T → T < 1073741824) (hn : (allR R).length ≤ 140) (h2 : -9223372036854775808 ≤ nd) (h3 : nd ≤ 9223372036854775807) (h4 : -9223372036854775808 ≤ n) (h5 : n ≤ 9223372036854775807) :
    Calls Tryz.prog 66 #[.pointer (some ⟨br, 0, none⟩), .int .i64 nd, .int .i64 n, .int .u8 (ch.toNat : Int)] w (Make1Out ad w R i) := by
  obtain ⟨T, kv, bt, bx, bc, A, hm, hp, ht⟩ := h.rep.time
  obtain ⟨ao, cap, hM⟩ := hm.norm
  refine (write_any w c br T i ao cap bt bx bc R A nd n ch hM.cell hM.rows hM.text hp h.wellK hE.env hi ht.2.2 (Int.le_of_lt (hT T ht)) hn h2 h3 h4 h5).mono fun e w' q => ?_
  obtain ⟨a, hw, q⟩ := q
  refine made_out q ht (errF_own (hT T ht)) (fun ok he => next_own he ?_)
  have hkl : KnownN A nd ∧ (0 < a.1 → LetterN A nd a.1) := by
    rcases hw with ⟨_, q2, q3⟩ | ⟨_, a1, a2⟩
    · exact ⟨q3.1 ok, fun q => by omega⟩
    · have hk : KnownN A nd := by
        by_cases hk : KnownN A nd
        · exact hk
        · rw [a1 hk] at ok; cases ok
      obtain ⟨L, hL, ea⟩ := a2 hk
      exact ⟨hk, fun _ => hL.mem.1 (atL_true (n := n - 1) (by rw [← ea, ← ok]))⟩
  have hk' := (knownN_perm hp nd).1 hkl.1
  have hnd := known_two h.wellK.well.ok hk'
  refine ⟨.inr ?_, fun q => absurd q (by show ¬ (105 = _); decide), fun q => ?_⟩
  · rw [own_node (by omega)]
    exact hk'.mono (fun x hx => List.mem_cons_of_mem _ hx)
  · rw [own_node (by omega)]
    refine (hkl.2 ?_).mono (fun x hx => List.mem_cons_of_mem _ (hp.mem_iff.1 hx))
    rcases q with ⟨_, q⟩ | q
    · exact q
    · exact absurd q (by show ¬ (105 = _); decide)
theorem m_move (nd into : Int) (name : ByteArray) (h : RepOwn B w c br (i : Int) R) (hE : EnvT B ad w) (hcy : Aside (Cyc ad)) (hi : i < 4) (hT : ∀ T, timeO (allR R) T → T < 1073741824) (hn : (allR R).length ≤ 140) (hs1 : name.size ≤ 1000000) (h2 : -9223372036854775808 ≤ nd) (h3 : nd ≤ 9223372036854775807) (h4 : -9223372036854775808 ≤ into) (h5 : into ≤ 9223372036854775807) :
    Calls Tryz.prog 65 #[.pointer (some ⟨br, 0, none⟩), .int .i64 nd, .int .i64 into, .string name] w (Make1Out ad w R i) := by
  obtain ⟨T, kv, bt, bx, bc, A, hm, hp, ht⟩ := h.rep.time
  obtain ⟨ao, cap, hM⟩ := hm.norm
  obtain ⟨bm, tv, ms, hTA, hms, -⟩ := hM.tree
  obtain ⟨nm, hnm, hMap⟩ := hTA.map
  have t0 := hTA.cell.c0
  refine (rmove_any w c br T i ao cap bt bx bc bm nm (madeBy ms) R nd into name hM.cell hM.rows t0 hMap hTA.good h.wellK hE.env hcy hi ht.2.2 (Int.le_of_lt (hT T ht)) hn hs1 h2 h3 h4 h5).mono fun e w' q => ?_
  obtain ⟨hb, q⟩ := q
  rw [errF_own (hT T ht)] at q
  rcases q with ⟨_, q⟩ | ⟨ok, he, q⟩ | ⟨_, _, _, q⟩ | ⟨ok, he, _, q⟩
  · exact ⟨zeroO, 6, q, hb, by omega, .inl ⟨by omega, rfl⟩⟩
  · exact ⟨zeroO, _, q, hb, by have := err_le (ownX T i (R i).length 109 nd into name ⟨#[]⟩); omega, .inl ⟨he, rfl⟩⟩
  · exact ⟨zeroO, 10, q, hb, by omega, .inl ⟨by omega, rfl⟩⟩
  · refine ⟨_, 0, q, hb, by omega, .inr ⟨rfl, T, ht, next_own he ?_⟩⟩
    have hnd := known_two h.wellK.well.ok ok.1
    refine ⟨.inr ?_, fun _ => ok.2.imp id (fun q => q.imp id (fun q => q.mono (fun x hx => List.mem_cons_of_mem _ hx))), fun q => ?_⟩
    · rw [own_node (by omega)]
      exact ok.1.mono (fun x hx => List.mem_cons_of_mem _ hx)
    · rcases q with ⟨q, _⟩ | q <;> exact absurd q (by show ¬ (109 = _); decide)
end
theorem first_byte (v : ByteArray) (h : v.size ≠ 0) : ∃ ch : UInt8, ∀ w : World, (Instr.index 9 (.string v) (.int .i64 0)).run Tryz.prog w = .ok (.int .u8 (ch.toNat : Int)) w := by
  have hv : 0 < v.size := by omega
  have hv' : (0 : Int) < (v.size : Int) := by omega
  refine ⟨v[0], fun w => ?_⟩
  have := hv
  go_simp
set_option maxRecDepth 100000 in
set_option maxHeartbeats 8000000 in
theorem make1_any {B : Nat} {ad : Nat → Addr} (w : World) (c : Nat → Nat) (br : Nat) (i : Nat) (R : Rws) (x : OpX) (h : RepOwn B w c br (i : Int) R) (hE : EnvT B ad w) (hcy : Aside (Cyc ad)) (hi : i < 4) (hT : ∀ T, timeO (allR R) T → T < 1073741824) (hn : (allR R).length ≤ 140)
    (hs1 : x.2.2.2.2.2.2.1.size ≤ 1000000) (hs2 : x.2.2.2.2.2.2.2.size ≤ 1000000) (hk : x.2.2.2.1 < 256) (h2 : -9223372036854775808 ≤ nodeO x ∧ nodeO x ≤ 9223372036854775807) (h4 : -9223372036854775808 ≤ otherO x ∧ otherO x ≤ 9223372036854775807) :
    Calls Tryz.prog 14 #[.pointer (some ⟨br, 0, none⟩), encO x] w (Make1Out ad w R i) := by
  obtain ⟨t, b, m, kd, nd, o, s, v⟩ := x
  dsimp only at hs1 hs2 hk h2 h4
  obtain ⟨S, hS⟩ : ∃ S, S = w.heap.size := ⟨_, rfl⟩
  obtain ⟨U, hU⟩ : ∃ U, U = (w.alloc (.cells #[.int .i64 t, .int .i64 b, .int .i64 m, .int .u8 (kd : Int), .int .i64 nd, .int .i64 o, .string s, .string v] 38)).alloc (.cells #[.int .i64 0, .int .i64 0, .int .i64 0, .int .u8 0, .int .i64 0, .int .i64 0, .string ⟨#[]⟩, .string ⟨#[]⟩] 38) := ⟨_, rfl⟩
  have hbU : Below w.heap.size w U := by rw [hU]; exact ((Below.refl _ w).alloc (Nat.le_refl _) _).alloc (by simp) _
  have O0 : OpBlk U S (t, b, m, kd, nd, o, s, v) := by rw [hU, hS]; exact (Below.heap_alloc _ _ _ (by simp)).trans (OpBlk.new w (t, b, m, kd, nd, o, s, v))
  have Z0 : OpBlk U (S + 1) zeroO := by
    rw [hU, hS]
    have := OpBlk.new (w.alloc (.cells #[.int .i64 t, .int .i64 b, .int .i64 m, .int .u8 (kd : Int), .int .i64 nd, .int .i64 o, .string s, .string v] 38)) zeroO
    rw [World.size_alloc] at this
    exact this
  obtain ⟨j0, j1, j2, j3, j4, j5, j6, j7, -⟩ := O0.cells
  dsimp only at j0 j1 j2 j3 j4 j5 j6 j7
  have hR := h.later hbU
  have hEU := hE.later hbU
  have c1 := m_make U c br i R o s hR hEU hi hT hn hs1 h4.1 h4.2
  have c2 := m_move U c br i R nd o s hR hEU hcy hi hT hn hs1 h2.1 h2.2 h4.1 h4.2
  have c3 := fun ch => m_write U c br i R nd o ch hR hEU hi hT hn h2.1 h2.2 h4.1 h4.2
  have c4 := m_erase U c br i R nd o hR hEU hi hT hn h2.1 h2.2 h4.1 h4.2
  have c5 := m_mark U c br i R nd s v hR hEU hi hT hn hs1 hs2 h2.1 h2.2
  have H0 : Aside (U = (w.alloc (.cells #[.int .i64 t, .int .i64 b, .int .i64 m, .int .u8 (kd : Int), .int .i64 nd, .int .i64 o, .string s, .string v] 38)).alloc (.cells #[.int .i64 0, .int .i64 0, .int .i64 0, .int .u8 0, .int .i64 0, .int .i64 0, .string ⟨#[]⟩, .string ⟨#[]⟩] 38) ∧ OpBlk U (S + 1) zeroO ∧ Below w.heap.size w U ∧ S = w.heap.size) := ⟨hU, Z0, hbU, hS⟩
  have HC1 := Lib.hid c1
  have HC2 := Lib.hid c2
  have HC3 := Lib.hid c3
  have HC4 := Lib.hid c4
  have HC5 := Lib.hid c5
  clear hU Z0 hbU hS O0 hR hEU h hE c1 c2 c3 c4 c5 h2 h4
  unfold encO
  dsimp only
  go_enter Tryz.func14, Tryz.ntmps14
  go_upto_region 1 with fail
  rw [← H0.out.1, ← H0.out.2.2.2]
  by_cases k1 : kd = 109
  · have d1 : ((kd : Int) == 109) = true := by simp; omega
    by_cases k0 : nd = 0
    · have d0 : (nd == 0) = true := by simp [k0]
      clear k1 k0
      go_wp2_with fail
      refine HC1.out.mono ?_
      rintro e w2 ⟨y, cd, rfl, H2⟩
      obtain ⟨t', b', m', kd', nd', o', s', v'⟩ := y
      obtain ⟨er, her⟩ : ∃ er, er = eV ad cd := ⟨_, rfl⟩
      rw [← her]
      unfold encO
      dsimp only
      obtain ⟨z0, z1, z2, z3, z4, z5, z6, z7, zf⟩ := (H0.out.2.1.later H2.out.1).cells
      unfold zeroO at z0 z1 z2 z3 z4 z5 z6 z7
      dsimp only at z0 z1 z2 z3 z4 z5 z6 z7
      have HER : Aside (er = eV ad cd ∧ Below w.heap.size w w2) := ⟨her, H0.out.2.2.1.trans (H2.out.1.mono H0.out.2.2.1.size)⟩
      clear her
      go_wp2
      (try simp only [Exit.inBlock, Exit.then])
      refine bodyPost_ret (v := .tuple #[.agg #[.int .i64 t', .int .i64 b', .int .i64 m', .int .u8 (kd' : Int), .int .i64 nd', .int .i64 o', .string s', .string v'], er]) ?_ rfl ⟨(t', b', m', kd', nd', o', s', v'), cd, by rw [← HER.out.1]; rfl, ?_, H2.out.2⟩
      · rw [results_ct rfl]
        go_simp
      · exact below_cells (b := S + 1) HER.out.2 (by have := H0.out.2.2.2; omega) 0 [.int .i64 t', .int .i64 b', .int .i64 m', .int .u8 (kd' : Int), .int .i64 nd', .int .i64 o', .string s', .string v']
    · have d0 : (nd == 0) = false := by simp [k0]
      clear k1 k0
      go_wp2_with fail
      refine HC2.out.mono ?_
      rintro e w2 ⟨y, cd, rfl, H2⟩
      obtain ⟨t', b', m', kd', nd', o', s', v'⟩ := y
      obtain ⟨er, her⟩ : ∃ er, er = eV ad cd := ⟨_, rfl⟩
      rw [← her]
      unfold encO
      dsimp only
      obtain ⟨z0, z1, z2, z3, z4, z5, z6, z7, zf⟩ := (H0.out.2.1.later H2.out.1).cells
      unfold zeroO at z0 z1 z2 z3 z4 z5 z6 z7
      dsimp only at z0 z1 z2 z3 z4 z5 z6 z7
      have HER : Aside (er = eV ad cd ∧ Below w.heap.size w w2) := ⟨her, H0.out.2.2.1.trans (H2.out.1.mono H0.out.2.2.1.size)⟩
      clear her
      go_wp2
      (try simp only [Exit.inBlock, Exit.then])
      refine bodyPost_ret (v := .tuple #[.agg #[.int .i64 t', .int .i64 b', .int .i64 m', .int .u8 (kd' : Int), .int .i64 nd', .int .i64 o', .string s', .string v'], er]) ?_ rfl ⟨(t', b', m', kd', nd', o', s', v'), cd, by rw [← HER.out.1]; rfl, ?_, H2.out.2⟩
      · rw [results_ct rfl]
        go_simp
      · exact below_cells (b := S + 1) HER.out.2 (by have := H0.out.2.2.2; omega) 0 [.int .i64 t', .int .i64 b', .int .i64 m', .int .u8 (kd' : Int), .int .i64 nd', .int .i64 o', .string s', .string v']
  · have d1 : ((kd : Int) == 109) = false := by simp; omega
    by_cases k2 : kd = 105
    · have d2 : ((kd : Int) == 105) = true := by simp; omega
      clear k1 k2
      by_cases kv0 : v.size = 0
      · have he := emptyYes kv0
        go_wp2_with fail
        refine (HC3.out 0).mono ?_
        rintro e w2 ⟨y, cd, rfl, H2⟩
        obtain ⟨t', b', m', kd', nd', o', s', v'⟩ := y
        obtain ⟨er, her⟩ : ∃ er, er = eV ad cd := ⟨_, rfl⟩
        rw [← her]
        unfold encO
        dsimp only
        obtain ⟨z0, z1, z2, z3, z4, z5, z6, z7, zf⟩ := (H0.out.2.1.later H2.out.1).cells
        unfold zeroO at z0 z1 z2 z3 z4 z5 z6 z7
        dsimp only at z0 z1 z2 z3 z4 z5 z6 z7
        have HER : Aside (er = eV ad cd ∧ Below w.heap.size w w2) := ⟨her, H0.out.2.2.1.trans (H2.out.1.mono H0.out.2.2.1.size)⟩
        clear her
        go_wp2
        (try simp only [Exit.inBlock, Exit.then])
        refine bodyPost_ret (v := .tuple #[.agg #[.int .i64 t', .int .i64 b', .int .i64 m', .int .u8 (kd' : Int), .int .i64 nd', .int .i64 o', .string s', .string v'], er]) ?_ rfl ⟨(t', b', m', kd', nd', o', s', v'), cd, by rw [← HER.out.1]; rfl, ?_, H2.out.2⟩
        · rw [results_ct rfl]
          go_simp
        · exact below_cells (b := S + 1) HER.out.2 (by have := H0.out.2.2.2; omega) 0 [.int .i64 t', .int .i64 b', .int .i64 m', .int .u8 (kd' : Int), .int .i64 nd', .int .i64 o', .string s', .string v']
      · have he := emptyNo kv0
        obtain ⟨ch, hch⟩ : ∃ ch : UInt8, ∀ w : World, (Instr.index 9 (.string v) (.int .i64 0)).run Tryz.prog w = .ok (.int .u8 (ch.toNat : Int)) w := first_byte v kv0
        go_wp2_with fail
        refine (HC3.out ch).mono ?_
        rintro e w2 ⟨y, cd, rfl, H2⟩
        obtain ⟨t', b', m', kd', nd', o', s', v'⟩ := y
        obtain ⟨er, her⟩ : ∃ er, er = eV ad cd := ⟨_, rfl⟩
        rw [← her]
        unfold encO
        dsimp only
        obtain ⟨z0, z1, z2, z3, z4, z5, z6, z7, zf⟩ := (H0.out.2.1.later H2.out.1).cells
        unfold zeroO at z0 z1 z2 z3 z4 z5 z6 z7
        dsimp only at z0 z1 z2 z3 z4 z5 z6 z7
        have HER : Aside (er = eV ad cd ∧ Below w.heap.size w w2) := ⟨her, H0.out.2.2.1.trans (H2.out.1.mono H0.out.2.2.1.size)⟩
        clear her
        go_wp2
        (try simp only [Exit.inBlock, Exit.then])
        refine bodyPost_ret (v := .tuple #[.agg #[.int .i64 t', .int .i64 b', .int .i64 m', .int .u8 (kd' : Int), .int .i64 nd', .int .i64 o', .string s', .string v'], er]) ?_ rfl ⟨(t', b', m', kd', nd', o', s', v'), cd, by rw [← HER.out.1]; rfl, ?_, H2.out.2⟩
        · rw [results_ct rfl]
          go_simp
        · exact below_cells (b := S + 1) HER.out.2 (by have := H0.out.2.2.2; omega) 0 [.int .i64 t', .int .i64 b', .int .i64 m', .int .u8 (kd' : Int), .int .i64 nd', .int .i64 o', .string s', .string v']
    · have d2 : ((kd : Int) == 105) = false := by simp; omega
      by_cases k3 : kd = 100
      · have d3 : ((kd : Int) == 100) = true := by simp; omega
        clear k1 k2 k3
        go_wp2_with fail
        refine HC4.out.mono ?_
        rintro e w2 ⟨y, cd, rfl, H2⟩
        obtain ⟨t', b', m', kd', nd', o', s', v'⟩ := y
        obtain ⟨er, her⟩ : ∃ er, er = eV ad cd := ⟨_, rfl⟩
        rw [← her]
        unfold encO
        dsimp only
        obtain ⟨z0, z1, z2, z3, z4, z5, z6, z7, zf⟩ := (H0.out.2.1.later H2.out.1).cells
        unfold zeroO at z0 z1 z2 z3 z4 z5 z6 z7
        dsimp only at z0 z1 z2 z3 z4 z5 z6 z7
        have HER : Aside (er = eV ad cd ∧ Below w.heap.size w w2) := ⟨her, H0.out.2.2.1.trans (H2.out.1.mono H0.out.2.2.1.size)⟩
        clear her
        go_wp2
        (try simp only [Exit.inBlock, Exit.then])
        refine bodyPost_ret (v := .tuple #[.agg #[.int .i64 t', .int .i64 b', .int .i64 m', .int .u8 (kd' : Int), .int .i64 nd', .int .i64 o', .string s', .string v'], er]) ?_ rfl ⟨(t', b', m', kd', nd', o', s', v'), cd, by rw [← HER.out.1]; rfl, ?_, H2.out.2⟩
        · rw [results_ct rfl]
          go_simp
        · exact below_cells (b := S + 1) HER.out.2 (by have := H0.out.2.2.2; omega) 0 [.int .i64 t', .int .i64 b', .int .i64 m', .int .u8 (kd' : Int), .int .i64 nd', .int .i64 o', .string s', .string v']
      · have d3 : ((kd : Int) == 100) = false := by simp; omega
        clear k1 k2 k3
        go_wp2_with fail
        refine HC5.out.mono ?_
        rintro e w2 ⟨y, cd, rfl, H2⟩
        obtain ⟨t', b', m', kd', nd', o', s', v'⟩ := y
        obtain ⟨er, her⟩ : ∃ er, er = eV ad cd := ⟨_, rfl⟩
        rw [← her]
        unfold encO
        dsimp only
        obtain ⟨z0, z1, z2, z3, z4, z5, z6, z7, zf⟩ := (H0.out.2.1.later H2.out.1).cells
        unfold zeroO at z0 z1 z2 z3 z4 z5 z6 z7
        dsimp only at z0 z1 z2 z3 z4 z5 z6 z7
        have HER : Aside (er = eV ad cd ∧ Below w.heap.size w w2) := ⟨her, H0.out.2.2.1.trans (H2.out.1.mono H0.out.2.2.1.size)⟩
        clear her
        go_wp2
        (try simp only [Exit.inBlock, Exit.then])
        refine bodyPost_ret (v := .tuple #[.agg #[.int .i64 t', .int .i64 b', .int .i64 m', .int .u8 (kd' : Int), .int .i64 nd', .int .i64 o', .string s', .string v'], er]) ?_ rfl ⟨(t', b', m', kd', nd', o', s', v'), cd, by rw [← HER.out.1]; rfl, ?_, H2.out.2⟩
        · rw [results_ct rfl]
          go_simp
        · exact below_cells (b := S + 1) HER.out.2 (by have := H0.out.2.2.2; omega) 0 [.int .i64 t', .int .i64 b', .int .i64 m', .int .u8 (kd' : Int), .int .i64 nd', .int .i64 o', .string s', .string v']
end Go.Proofs.YtehighgebbdenaaGreatDoor
end
section
set_option linter.unusedVariables false
set_option linter.unusedSimpArgs false
namespace Go.Proofs.YtehighgebbdenaaGreatDoor
open Go.RowKit Go.Lib Go.Sort Go.Maps
open scoped Classical
theorem infoPR : (Tryz.prog.info? 25).map (fun i => (i.zero, i.size, i.bytes)) = some (some (.pointer none), 1, 8) := by kernel_rfl
def ptrs (br : Nat → Nat) (n : Nat) : List Value := (List.range n).map fun r => .pointer (some ⟨br r, 0, none⟩)
theorem ptrs_succ (br : Nat → Nat) (n : Nat) : ptrs br (n + 1) = ptrs br n ++ [.pointer (some ⟨br n, 0, none⟩)] := by unfold ptrs; rw [List.range_succ, List.map_append]; rfl
theorem ptrs_get (br : Nat → Nat) {n r : Nat} (h : r < n) : (ptrs br n)[r]? = some (.pointer (some ⟨br r, 0, none⟩)) := by unfold ptrs; rw [List.getElem?_map, List.getElem?_range h]; rfl
theorem ptrs_congr {br br' : Nat → Nat} {n : Nat} (h : ∀ r, r < n → br r = br' r) : ptrs br n = ptrs br' n := by
  unfold ptrs
  exact List.map_congr_left (fun r hr => by rw [h r (List.mem_range.1 hr)])
theorem Folk.congr {B : Nat} {w : World} {n : Nat} {c : Nat → Nat → Nat} {br : Nat → Nat} {by_ by' : Nat → Int} {R : Nat → Rws} (h : Folk B w n c br by_ R) (e : ∀ r, r < n → by_ r = by' r) : Folk B w n c br by' R := ⟨fun r hr => by rw [← e r hr]; exact h.rep r hr, h.apart⟩
def HistK (i : Nat) (K : Nat → Rws) : Prop := ∃ H : List OpX, H.length ≤ i ∧ ∀ r, r < 4 → ∀ x ∈ allR (K r), x ∈ H ∧ x.1 ≤ (i : Int)
structure Crowd (B : Nat) (w : World) (g cap : Nat) (br : Nat → Nat) (K : Nat → Rws) (i : Nat) (sf : List Nat) (wr : World) : Prop where
  folk : ∃ c, Folk B wr 4 c br (fun r => (r : Int)) K ∧ ∀ r, r < 4 → ∀ k ∈ g :: sf, c r k = 0
  row : wr.ownsRow B 25 1 (.slice (some ⟨g, 0, none⟩) 4 cap) 4 (ptrs br 4)
  below : Below B w wr
  base : B ≤ w.heap.size
  kin : FolkK 4 (fun r => allR (K r))
  hist : HistK i K
  safe : ∀ k ∈ sf, k < wr.heap.size
section
variable {B : Nat} {w : World} {g cap : Nat} {br : Nat → Nat} {K : Nat → Rws} {i : Nat} {sf : List Nat} {wr : World}
theorem Crowd.later {w' : World} (h : Crowd B w g cap br K i sf wr) (hb : Below wr.heap.size wr w') : Crowd B w g cap br K i sf w' := by
  obtain ⟨c, hf, hc⟩ := h.folk
  exact ⟨⟨c, hf.later hb, hc⟩, ownsHeld h.row (fun k hk => hb.block k (h.row.lt k hk).2), h.below.trans (hb.mono (Nat.le_trans h.base h.below.size)), h.base, h.kin, h.hist, fun k hk => Nat.lt_of_lt_of_le (h.safe k hk) hb.size⟩
theorem Crowd.rows (h : Crowd B w g cap br K i sf wr) {r : Nat} (hr : r < 4) : RowsK (K r) := by
  obtain ⟨c, hf, _⟩ := h.folk
  exact (hf.rep r hr).wellK
theorem Crowd.len (h : Crowd B w g cap br K i sf wr) {r : Nat} (hr : r < 4) : (allR (K r)).length ≤ i := by
  obtain ⟨H, h1, h2⟩ := h.hist
  have := len_sub (h.rows hr).num.nodup (fun x hx => (h2 r hr x hx).1)
  omega
theorem Crowd.time (h : Crowd B w g cap br K i sf wr) {r : Nat} (hr : r < 4) {T : Int} (hT : timeO (allR (K r)) T) : T ≤ (i : Int) := by
  obtain ⟨H, h1, h2⟩ := h.hist
  rcases hT.2.1 with q | ⟨x, hx, q⟩
  · omega
  · have := (h2 r hr x hx).2; omega
theorem Crowd.cell (h : Crowd B w g cap br K i sf wr) {r : Nat} (hr : r < 4) : wr.cell? ⟨g, r, none⟩ = some (.pointer (some ⟨br r, 0, none⟩)) := by
  rw [h.row.cellAt r (by omega), ptrs_get br hr]
theorem Crowd.glt (h : Crowd B w g cap br K i sf wr) : g < wr.heap.size := (h.row.lt g rfl).2
theorem Crowd.up (h : Crowd B w g cap br K i sf wr) {j : Nat} (hij : i ≤ j) : Crowd B w g cap br K j sf wr := by
  obtain ⟨H, h1, h2⟩ := h.hist
  exact ⟨h.folk, h.row, h.below, h.base, h.kin, ⟨H, by omega, fun r hr x hx => ⟨(h2 r hr x hx).1, by have := (h2 r hr x hx).2; omega⟩⟩, h.safe⟩
theorem Crowd.act (h : Crowd B w g cap br K i sf wr) {a : Nat} (ha : a < 4) {w' : World} {c : Nat → Nat → Nat} (hf : Folk B wr 4 c br (fun r => (r : Int)) K) (hg : ∀ r, r < 4 → ∀ k ∈ g :: sf, c r k = 0) {c' : Nat → Nat} {R' : Rws} (hA : Acts wr (c a) w' c') (hR : RepOwn B w' c' (br a) (a : Int) R') {j : Nat} (hkin : FolkK 4 (fun r => allR (setAt K a R' r))) (hh : HistK j (setAt K a R')) : Crowd B w g cap br (setAt K a R') j sf w' ∧ ∀ k ∈ sf, k < wr.heap.size → w'.heap[k]? = wr.heap[k]? := by
  refine ⟨⟨⟨setAt c a c', hf.act ha hA hR, fun r hr k hk => ?_⟩, ownsHeld h.row (fun k hk => ?_), h.below.trans ((hf.rep a ha).below hA (Nat.le_trans h.base h.below.size)), h.base, hkin, hh, fun k hk => Nat.lt_of_lt_of_le (h.safe k hk) hA.keeps.size⟩, fun k hk hkl => hA.keeps.block k hkl (fun q => q (hg a ha k (List.mem_cons_of_mem _ hk)))⟩
  · by_cases e : r = a
    · subst e
      rw [setAt_is]
      have hkl : k < wr.heap.size := by
        rcases List.mem_cons.1 hk with e | hk
        · rw [e]; exact h.glt
        · exact h.safe k hk
      rw [hA.hue k hkl]
      exact hg r hr k hk
    · rw [setAt_ne _ _ e]; exact hg r hr k hk
  · have : k = g := by simpa [Value.ownBlock] using hk.symm
    subst this
    exact hA.keeps.block k h.glt (fun q => q (hg a ha k List.mem_cons_self))
theorem Crowd.guard {w' : World} (h : Crowd B w g cap br K i sf wr) (hb : Below wr.heap.size wr w') {k : Nat} (hk : wr.heap.size ≤ k) (hk' : k < w'.heap.size) : Crowd B w g cap br K i (k :: sf) w' := by
  obtain ⟨c, hf, hc⟩ := h.folk
  have h' := h.later hb
  refine ⟨⟨c, hf.later hb, fun r hr j hj => ?_⟩, h'.row, h'.below, h'.base, h'.kin, h'.hist, fun j hj => ?_⟩
  · rcases List.mem_cons.1 hj with e | hj
    · exact hc r hr j (by rw [e]; exact List.mem_cons_self)
    · rcases List.mem_cons.1 hj with e | hj
      · rw [e]; exact (hf.rep r hr).high k hk
      · exact hc r hr j (List.mem_cons_of_mem _ hj)
  · rcases List.mem_cons.1 hj with e | hj
    · rw [e]; exact hk'
    · exact h'.safe j hj
theorem Crowd.less {sf' : List Nat} (h : Crowd B w g cap br K i sf wr) (hs : ∀ k, k ∈ sf' → k ∈ sf) : Crowd B w g cap br K i sf' wr := by
  obtain ⟨c, hf, hc⟩ := h.folk
  exact ⟨⟨c, hf, fun r hr j hj => hc r hr j (by rcases List.mem_cons.1 hj with e | hj; exact List.mem_cons.2 (.inl e); exact List.mem_cons_of_mem _ (hs j hj))⟩, h.row, h.below, h.base, h.kin, h.hist, fun j hj => h.safe j (hs j hj)⟩
end
def CJoinOut (B : Nat) (w : World) (g cap : Nat) (br : Nat → Nat) (K : Nat → Rws) (i a : Nat) (sf : List Nat) (wr : World) (T : List OpX) (e : Ending) (w' : World) : Prop := ∃ (n : Nat) (R' : Rws), e = .returned (.tuple #[.int .i64 (n : Int), .nilIface]) ∧ Aside (Crowd B w g cap br (setAt K a R') i sf w' ∧ (∀ x, x ∈ allR R' ↔ x ∈ allR (K a) ∨ x ∈ T) ∧ ∀ k ∈ sf, w'.heap[k]? = wr.heap[k]?)
theorem setAt_fun {K : Nat → Rws} {a : Nat} {R' : Rws} : (fun r => allR (setAt K a R' r)) = (fun r => if r = a then allR R' else allR (K r)) := by
  funext r
  unfold setAt
  split <;> rfl
theorem crowd_join {B : Nat} {ad : Nat → Addr} {w : World} {g cap : Nat} {br : Nat → Nat} {K : Nat → Rws} {i : Nat} {sf : List Nat} {wr : World} (h : Crowd B w g cap br K i sf wr) (hE : EnvT B ad w) (hi : i ≤ 60) {a b : Nat} (ha : a < 4) (hb : b < 4) (la : Option Addr) (lc : Nat) (l : List OpX) (hin : OpsIn wr la l) (hl : ∀ x, x ∈ l → x ∈ allR (K b)) (hl2 : ∀ x, x ∈ allR (K b) → x ∈ allR (K a) ∨ x ∈ l) (hll : l.length ≤ 60) :
    Calls Tryz.prog 10 #[.pointer (some ⟨br a, 0, none⟩), .slice la l.length lc] wr (CJoinOut B w g cap br K i a sf wr (allR (K b))) := by
  obtain ⟨c, hf, hg⟩ := h.folk
  have hlen := h.len ha
  refine (joined wr (c a) (br a) (a : Int) (K a) la lc (allR (K b)) l (hf.rep a ha) (hE.mono h.below) hin (h.kin.well b hb) (h.kin.compat a ha b hb) hl hl2 (by omega)).mono ?_
  rintro e w' ⟨n, c', R', he, hA, hR', hm, hlen'⟩
  have hm' : ∀ x, x ∈ allR R' ↔ x ∈ allR (K a) ∨ x ∈ allR (K b) := fun x => by
    rw [hm x]
    constructor
    · rintro (q | q)
      · exact .inl q
      · exact .inr (hl x q)
    · rintro (q | q)
      · exact .inl q
      · exact hl2 x q
  have hact := h.act (j := i) ha hf hg hA hR' (by rw [setAt_fun]; exact h.kin.join ha hb hm') ?_
  · exact ⟨n, R', he, hact.1, hm', fun k hk => hact.2 k hk (h.safe k hk)⟩
  · obtain ⟨H, h1, h2⟩ := h.hist
    refine ⟨H, h1, fun r hr x hx => ?_⟩
    by_cases e : r = a
    · subst e
      rw [setAt_is] at hx
      rcases (hm' x).1 hx with q | q
      · exact h2 r hr x q
      · exact h2 b hb x q
    · rw [setAt_ne _ _ e] at hx
      exact h2 r hr x hx
theorem crowd_own {B : Nat} {ad : Nat → Addr} {w : World} {g cap : Nat} {br : Nat → Nat} {K : Nat → Rws} {i : Nat} {sf : List Nat} {wr : World} (h : Crowd B w g cap br K i sf wr) (hE : EnvT B ad w) (hi : i ≤ 60) {a : Nat} (ha : a < 4) (la : Option Addr) (lc : Nat) (T : Int) (x : OpX) (hin : OpsIn wr la [x]) (hT : timeO (allR (K a)) T) (hx : NextOp (K a) a T x) :
    Calls Tryz.prog 10 #[.pointer (some ⟨br a, 0, none⟩), .slice la 1 lc] wr fun e w' => ∃ R', e = .returned (.tuple #[.int .i64 1, .nilIface]) ∧ Aside (Crowd B w g cap br (setAt K a R') (i + 1) sf w' ∧ ∀ k ∈ sf, w'.heap[k]? = wr.heap[k]?) := by
  obtain ⟨c, hf, hg⟩ := h.folk
  have hlen := h.len ha
  refine (joined_own wr (c a) (br a) a (K a) la lc T x (hf.rep a ha) (hE.mono h.below) ha hin hx hT.1 (by omega)).mono ?_
  rintro e w' ⟨c', R', he, hA, hR', hm, _⟩
  have hw := hx.well (h.rows ha) ha hT.1
  have hact := h.act (j := i + 1) ha hf hg hA hR' (by rw [setAt_fun]; exact h.kin.make ha hx.by_ hm hw.1 hw.2) ?_
  · exact ⟨R', he, hact.1, fun k hk => hact.2 k hk (h.safe k hk)⟩
  · obtain ⟨H, h1, h2⟩ := h.hist
    have ht := h.time ha hT
    refine ⟨x :: H, by simp; omega, fun r hr y hy => ?_⟩
    by_cases e : r = a
    · subst e
      rw [setAt_is] at hy
      rcases (hm y).1 hy with q | q
      · subst q; exact ⟨List.mem_cons_self, by have := hx.time; omega⟩
      · exact ⟨List.mem_cons_of_mem _ (h2 r hr y q).1, by have := (h2 r hr y q).2; omega⟩
    · rw [setAt_ne _ _ e] at hy
      exact ⟨List.mem_cons_of_mem _ (h2 r hr y hy).1, by have := (h2 r hr y hy).2; omega⟩
theorem crowd_make {B : Nat} {ad : Nat → Addr} {w : World} {g cap : Nat} {br : Nat → Nat} {K : Nat → Rws} {i : Nat} {sf : List Nat} {wr : World} (h : Crowd B w g cap br K i sf wr) (hE : EnvT B ad w) (hcy : Aside (Cyc ad)) (hi : i ≤ 60) {a : Nat} (ha : a < 4) (x : OpX) (hs1 : x.2.2.2.2.2.2.1.size ≤ 1000000) (hs2 : x.2.2.2.2.2.2.2.size ≤ 1000000) (hk : x.2.2.2.1 < 256) (h2 : -9223372036854775808 ≤ nodeO x ∧ nodeO x ≤ 9223372036854775807) (h4 : -9223372036854775808 ≤ otherO x ∧ otherO x ≤ 9223372036854775807) :
    Calls Tryz.prog 14 #[.pointer (some ⟨br a, 0, none⟩), encO x] wr (Make1Out ad wr (K a) a) := by
  obtain ⟨c, hf, hg⟩ := h.folk
  have hlen := h.len ha
  exact make1_any wr (c a) (br a) a (K a) x (hf.rep a ha) (hE.mono h.below) hcy ha (fun T hT => by have := h.time ha hT; omega) (by omega) hs1 hs2 hk h2 h4
theorem crowd_vec {B : Nat} {w : World} {g cap : Nat} {br : Nat → Nat} {K : Nat → Rws} {i : Nat} {sf : List Nat} {wr : World} (h : Crowd B w g cap br K i sf wr) (hi : i ≤ 60) {b : Nat} (hb : b < 4) :
    Calls Tryz.prog 18 #[.pointer (some ⟨br b, 0, none⟩)] wr fun e w' => e = .returned (.agg #[.int .i64 ((K b 0).length : Int), .int .i64 ((K b 1).length : Int), .int .i64 ((K b 2).length : Int), .int .i64 ((K b 3).length : Int)]) ∧ Below wr.heap.size wr w' := by
  obtain ⟨c, hf, hg⟩ := h.folk
  have hlen := h.len hb
  exact rvector_any wr (c b) (br b) (b : Int) (K b) (hf.rep b hb).rep (by omega)
def lenV (R : Rws) : Nat → Int := fun j => ((R j).length : Int)
theorem diff_new {R R' : Rws} (h' : RowsK R') (hR : RowsK R) (hc : Compat (allR R') (allR R)) {ys : List OpX} (hs : StableOf (allR R) ys) : (∀ x, x ∈ ys.filter (fun x => !heldV (lenV R') x) → x ∈ allR R) ∧ (∀ x, x ∈ allR R → x ∈ allR R' ∨ x ∈ ys.filter (fun x => !heldV (lenV R') x)) ∧ (ys.filter (fun x => !heldV (lenV R') x)).length ≤ (allR R).length := by
  have hp := (stable_by hs).1
  refine ⟨fun x hx => hp.mem_iff.1 (List.mem_filter.1 hx).1, fun x hx => ?_, ?_⟩
  · by_cases hh : heldV (lenV R') x = true
    · left
      obtain ⟨j, hj, hb, hbn⟩ := by_nat (hR.well.ok x hx)
      unfold heldV lenV at hh
      rw [decide_eq_true_iff] at hh
      have hbn' : x.2.1.toNat = j := hbn
      rw [hbn'] at hh
      have h1 := num_pos (hR.well.ok x hx)
      have h2 : numO x = x.2.2.1 := rfl
      have hlt : (x.2.2.1 - 1).toNat < (R' j).length := by omega
      have hm := h'.num j hj _ _ (List.getElem?_eq_getElem hlt)
      have e := hc _ (mem_allR.2 ⟨j, hj, List.getElem_mem hlt⟩) x hx (by rw [hm.1, hb]) (by rw [hm.2.1]; omega)
      rw [← e]
      exact mem_allR.2 ⟨j, hj, List.getElem_mem hlt⟩
    · exact .inr (List.mem_filter.2 ⟨hp.mem_iff.2 hx, by simpa using hh⟩)
  · rw [← hp.length_eq]
    exact List.length_filter_le _ _
theorem crowd_diff {B : Nat} {w : World} {g cap : Nat} {br : Nat → Nat} {K : Nat → Rws} {i : Nat} {sf : List Nat} {wr : World} (h : Crowd B w g cap br K i sf wr) (hi : i ≤ 60) {a b : Nat} (ha : a < 4) (hb : b < 4) :
    Calls Tryz.prog 24 #[.pointer (some ⟨br b, 0, none⟩), .agg #[.int .i64 ((K a 0).length : Int), .int .i64 ((K a 1).length : Int), .int .i64 ((K a 2).length : Int), .int .i64 ((K a 3).length : Int)]] wr fun e w' => ∃ ao cap l, e = .returned (.slice ao l.length cap) ∧ Aside (OpsIn w' ao l ∧ (∀ x, x ∈ l → x ∈ allR (K b)) ∧ (∀ x, x ∈ allR (K b) → x ∈ allR (K a) ∨ x ∈ l) ∧ l.length ≤ 60 ∧ Below wr.heap.size wr w') := by
  obtain ⟨c, hf, hg⟩ := h.folk
  have hlen := h.len hb
  refine (rdiff_any wr (c b) (br b) (b : Int) (K b) (lenV (K a)) (hf.rep b hb).rep (by omega)).mono ?_
  rintro e w' ⟨val, ys, he, h2, h1, h3⟩
  obtain ⟨d1, d2, d3⟩ := diff_new (h.rows ha) (h.rows hb) (h.kin.compat a ha b hb) h2
  rcases h1 with ⟨rfl, rfl⟩ | ⟨gb, cp, rfl, _, hO⟩
  · exact ⟨none, 0, [], he, .inl rfl, fun x hx => by simp at hx, fun x hx => by simpa using d2 x hx, by simp, h3⟩
  · refine ⟨_, cp, _, he, .inr ⟨gb, 0, rfl, fun j u hj => ?_⟩, d1, d2, by omega, h3⟩
    rw [Nat.zero_add]
    exact hO.cell j u hj
end Go.Proofs.YtehighgebbdenaaGreatDoor
end
section
set_option linter.unusedVariables false
set_option linter.unusedSimpArgs false
namespace Go.Proofs.YtehighgebbdenaaGreatDoor
open Go.RowKit Go.Lib Go.Sort
section
variable {P : Program} {ops : Array Oper} {Q : Exit → Act → World → Prop} {md : Region.Mode} {S : World → Prop}
theorem wpAnyH_two {i j : Nat} {oi oj : Oper} {fuel : Nat} {listed : Array Bool} {a : Act} {w : World} (hr : Region.ready md ops listed = [i, j]) (hoi : ops[i]? = some oi) (hoj : ops[j]? = some oj)
    (h1 : ∀ K : Act → World → Prop, (∀ a' w', S w' → wpAnyH P md ops Q S fuel (listed.setIfInBounds i true) a' w' → K a' w') → if Region.wanted oi (yielded ops a.tmps) = true then Oper.wp P oi a w K Q else K (a.put oi.dst undef) w)
    (h2 : ∀ K : Act → World → Prop, (∀ a' w', S w' → wpAnyH P md ops Q S fuel (listed.setIfInBounds j true) a' w' → K a' w') → if Region.wanted oj (yielded ops a.tmps) = true then Oper.wp P oj a w K Q else K (a.put oj.dst undef) w) : wpAnyH P md ops Q S (fuel + 1) listed a w := by
  refine ⟨fun h0 => (by rw [h0] at hr; cases hr), fun k hk => ?_⟩
  rw [hr] at hk
  simp only [List.mem_cons, List.not_mem_nil, or_false] at hk
  rcases hk with rfl | rfl
  · have := h1 (fun a' w' => S w' ∧ wpAnyH P md ops Q S fuel (listed.setIfInBounds k true) a' w') (fun a' w' h1 h2 => ⟨h1, h2⟩)
    unfold wpOp
    simp only [hoi]
    split
    · rename_i hw
      rw [if_pos hw] at this
      exact .inl this
    · rename_i hw
      rw [if_neg hw] at this
      exact this
  · have := h2 (fun a' w' => S w' ∧ wpAnyH P md ops Q S fuel (listed.setIfInBounds k true) a' w') (fun a' w' h1 h2 => ⟨h1, h2⟩)
    unfold wpOp
    simp only [hoj]
    split
    · rename_i hw
      rw [if_pos hw] at this
      exact .inl this
    · rename_i hw
      rw [if_neg hw] at this
      exact this
end
set_option maxHeartbeats 4000000 in
theorem opBlk_put {w : World} {Z : Nat} {x : OpX} (h : OpBlk w Z x) (y : OpX) : OpBlk (w.setCells Z 0 (encX y)) Z y := by
  have h1 := heap_setCell_same w Z 0 _ _ (.int .i64 y.1) h
  have h2 := heap_setCell_same _ Z 1 _ _ (.int .i64 y.2.1) h1
  have h3 := heap_setCell_same _ Z 2 _ _ (.int .i64 y.2.2.1) h2
  have h4 := heap_setCell_same _ Z 3 _ _ (.int .u8 (y.2.2.2.1 : Int)) h3
  have h5 := heap_setCell_same _ Z 4 _ _ (.int .i64 y.2.2.2.2.1) h4
  have h6 := heap_setCell_same _ Z 5 _ _ (.int .i64 y.2.2.2.2.2.1) h5
  have h7 := heap_setCell_same _ Z 6 _ _ (.string y.2.2.2.2.2.2.1) h6
  have h8 := heap_setCell_same _ Z 7 _ _ (.string y.2.2.2.2.2.2.2) h7
  exact h8
end Go.Proofs.YtehighgebbdenaaGreatDoor
end
