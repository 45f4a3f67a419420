import Derived.Test.YtcggmagdndhkbaaGreatDoorWt04
import Derived.Test.YtcggmagdndhkbaaGreatDoorWt11
import Derived.Test.YtcggmagdndhkbaaGreatDoorWt13
section
set_option linter.unusedVariables false
namespace Go.Proofs.YtcggmagdndhkbaaGreatDoor
open Go.RowKit Go.Lib Go.Sort
def findK (R : Rws) (id : Int) : Option OpX := (allR R).find? (fun x => decide (idO x = id))
theorem findK_some {R : Rws} {id : Int} {x : OpX} (h : findK R id = some x) : x ∈ allR R ∧ idO x = id := by
  unfold findK at h
  exact ⟨List.mem_of_find?_eq_some h, by simpa using List.find?_some h⟩
theorem findK_none {R : Rws} {id : Int} : findK R id = none ↔ ∀ x ∈ allR R, idO x ≠ id := by
  unfold findK
  rw [List.find?_eq_none]
  simp
theorem findK_is {R : Rws} (h : RowsN R) {x : OpX} (hx : x ∈ allR R) : findK R (idO x) = some x := by
  cases hf : findK R (idO x) with
  | none => exact absurd rfl (findK_none.1 hf x hx)
  | some y =>
    obtain ⟨a, b⟩ := findK_some hf
    rw [h.stamp a hx (id_inj (h.num.ok y a) (h.num.ok x hx) b)]
theorem id_range {x : OpX} (h : errO x = 0) : 4 ≤ idO x ∧ idO x < 4294967300 := by
  have h1 := err_by h
  unfold idO
  have e1 : x.2.1 = byO x := rfl
  rw [e1]
  omega
theorem findK_out {R : Rws} (h : RowsN R) {id : Int} (ho : id < 4 ∨ 4294967300 ≤ id) : findK R id = none :=
  findK_none.2 (fun x hx e => by have := id_range (h.num.ok x hx); omega)
theorem RowsN.risesT {R : Rws} (h : RowsN R) {i : Nat} (hi : i < 4) : ∀ (a b : Nat) (x y : OpX), a < b → (R i)[a]? = some x → (R i)[b]? = some y → x.1 < y.1 := by
  intro a b x y hab hx hy
  obtain ⟨a1, a2, _⟩ := h.num i hi a x hx
  obtain ⟨b1, b2, _⟩ := h.num i hi b y hy
  have hp := List.pairwise_iff_getElem.1 (h.rise hi) a b (List.getElem?_eq_some_iff.1 hx).1 (List.getElem?_eq_some_iff.1 hy).1 hab
  rw [(List.getElem?_eq_some_iff.1 hx).2, (List.getElem?_eq_some_iff.1 hy).2] at hp
  unfold CLt stO at hp
  dsimp only at hp
  have e1 : x.2.1 = byO x := rfl
  have e2 : y.2.1 = byO y := rfl
  omega
theorem RowsN.risesLe {R : Rws} (h : RowsN R) {i : Nat} (hi : i < 4) : RisesT (R i) := fun a b x y hab hx hy => by
  rcases Nat.lt_or_ge a b with q | q
  · have := h.risesT hi a b x y q hx hy; omega
  · obtain rfl : a = b := by omega
    rw [hx] at hy; cases hy; exact Int.le_refl _
theorem findK_bs {R : Rws} (h : RowsN R) {id : Int} {i k : Nat} {b : Bool} (hi : i < 4) (e : id % 4 = (i : Int)) (hb : BsAt (R i) (id / 4) k b) : (b = false → findK R id = none) ∧ (b = true → ∃ x, (R i)[k]? = some x ∧ findK R id = some x) := by
  obtain ⟨h1, h2, h3, h4⟩ := hb
  refine ⟨fun hf => findK_none.2 (fun x hx ex => ?_), fun ht => ?_⟩
  · obtain ⟨m, hm, hxm⟩ := mem_allR.1 hx
    obtain ⟨j, a1, a2, a3, _⟩ := h.num.get hm hxm
    have e1 : x.2.1 = byO x := rfl
    unfold idO at ex
    obtain rfl : m = i := by omega
    have ht : x.1 = id / 4 := by omega
    have hkj : j = k := by
      rcases Nat.lt_trichotomy j k with q | q | q
      · have := h2 j x q a1; omega
      · exact q
      · have hk : k < (R m).length := by have := (List.getElem?_eq_some_iff.1 a1).1; omega
        have ek := List.getElem?_eq_getElem hk
        have := h3 k _ (Nat.le_refl _) ek
        have := h.risesT hm k j _ x q ek a1
        omega
    subst hkj
    rw [hf] at h4
    exact absurd (h4.2 ⟨x, a1, ht⟩) (by decide)
  · obtain ⟨x, hx, et⟩ := h4.1 ht
    refine ⟨x, hx, ?_⟩
    obtain ⟨b1, b2, _⟩ := h.num i hi k x hx
    have e1 : x.2.1 = byO x := rfl
    have : idO x = id := by unfold idO; omega
    rw [← this]
    exact findK_is h (mem_allR.2 ⟨i, hi, List.mem_of_getElem? hx⟩)
def OpBlk (W : World) (b : Nat) (x : OpX) : Prop := W.heap[b]? = some (.cells #[.int .i64 x.1, .int .i64 x.2.1, .int .i64 x.2.2.1, .int .u8 (x.2.2.2.1 : Int), .int .i64 x.2.2.2.2.1, .int .i64 x.2.2.2.2.2.1, .string x.2.2.2.2.2.2.1, .string x.2.2.2.2.2.2.2] 31 (0, 0))
theorem OpBlk.lt {W : World} {b : Nat} {x : OpX} (h : OpBlk W b x) : b < W.heap.size := (Array.getElem?_eq_some_iff.1 h).1
theorem OpBlk.later {W W' : World} {b : Nat} {x : OpX} (h : OpBlk W b x) (hb : Below W.heap.size W W') : OpBlk W' b x := (hb.block b h.lt).trans h
theorem OpBlk.new (W : World) (x : OpX) : OpBlk (W.alloc (.cells #[.int .i64 x.1, .int .i64 x.2.1, .int .i64 x.2.2.1, .int .u8 (x.2.2.2.1 : Int), .int .i64 x.2.2.2.2.1, .int .i64 x.2.2.2.2.2.1, .string x.2.2.2.2.2.2.1, .string x.2.2.2.2.2.2.2] 31)) W.heap.size x := heap_alloc_new W _
theorem OpBlk.cells {W : World} {b : Nat} {x : OpX} (h : OpBlk W b x) : W.cell? ⟨b, 0, none⟩ = some (.int .i64 x.1) ∧ W.cell? ⟨b, 1, none⟩ = some (.int .i64 x.2.1) ∧ W.cell? ⟨b, 2, none⟩ = some (.int .i64 x.2.2.1) ∧ W.cell? ⟨b, 3, none⟩ = some (.int .u8 (x.2.2.2.1 : Int)) ∧ W.cell? ⟨b, 4, none⟩ = some (.int .i64 x.2.2.2.2.1) ∧ W.cell? ⟨b, 5, none⟩ = some (.int .i64 x.2.2.2.2.2.1) ∧ W.cell? ⟨b, 6, none⟩ = some (.string x.2.2.2.2.2.2.1) ∧ W.cell? ⟨b, 7, none⟩ = some (.string x.2.2.2.2.2.2.2) ∧ ∀ c, W.frozen? ⟨b, c, none⟩ = false := by
  unfold OpBlk at h
  refine ⟨?_, ?_, ?_, ?_, ?_, ?_, ?_, ?_, fun c => ?_⟩ <;> simp [World.cell?, World.frozen?, h]
theorem below_cells {w W : World} {b : Nat} (h : Below w.heap.size w W) (hb : w.heap.size ≤ b) (o : Nat) (vs : List Value) : Below w.heap.size w (W.setCells b o vs) := h.trans ((setCells_keeps b vs o W).below h.size (fun k e => by omega))
set_option maxRecDepth 100000 in
set_option maxHeartbeats 2000000 in
theorem kfind_out {ad : Nat → Addr} (w : World) (ao : Nat → Option Addr) (cap : Nat → Nat) (R : Rws) (id : Int) (hE : Op4 ad w) (ho : id < 4 ∨ 4294967300 ≤ id) (h2 : -9223372036854775808 ≤ id) (h3 : id ≤ 9223372036854775807) :
    Calls Tryz.prog 168 #[kV ao cap R, .int .i64 id] w fun e w' => e = .returned (.tuple #[encO zeroO, .bool false]) ∧ Below w.heap.size w w' := by
  unfold kV
  obtain ⟨U, hU⟩ : ∃ U, U = (w.alloc (.cells #[.slice (ao 0) (R 0).length (cap 0), .slice (ao 1) (R 1).length (cap 1), .slice (ao 2) (R 2).length (cap 2), .slice (ao 3) (R 3).length (cap 3)] 79)).alloc (.cells #[.int .i64 0, .int .i64 0, .int .i64 0, .int .u8 0, .int .i64 0, .int .i64 0, .string ⟨#[]⟩, .string ⟨#[]⟩] 31) := ⟨_, rfl⟩
  have hb : Below w.heap.size w U := by rw [hU]; exact ((Below.refl _ w).alloc (Nat.le_refl _) _).alloc (by simp) _
  have hz : U.heap[w.heap.size + 1]? = some (.cells #[.int .i64 0, .int .i64 0, .int .i64 0, .int .u8 0, .int .i64 0, .int .i64 0, .string ⟨#[]⟩, .string ⟨#[]⟩] 31 (0, 0)) := by
    rw [hU]
    have := heap_alloc_new (w.alloc (.cells #[.slice (ao 0) (R 0).length (cap 0), .slice (ao 1) (R 1).length (cap 1), .slice (ao 2) (R 2).length (cap 2), .slice (ao 3) (R 3).length (cap 3)] 79)) (.cells #[.int .i64 0, .int .i64 0, .int .i64 0, .int .u8 0, .int .i64 0, .int .i64 0, .string ⟨#[]⟩, .string ⟨#[]⟩] 31)
    rw [World.size_alloc] at this
    exact this
  have hE1 := (hE.later hb).c1
  have hcall := of_no id U _ _ hE1 (World.block_lt_of_cell? U ⟨2, 0, none⟩ hE1) ho h2 h3
  have HB : Aside (Below w.heap.size w U) := hb
  clear hb hE hE1
  go_enter Tryz.func168, Tryz.ntmps168
  go_wp2_with fail
  rw [← hU]
  clear hU
  refine hcall.mono ?_
  clear hcall
  rintro e w1 ⟨rfl, hb1⟩
  obtain ⟨S, hS⟩ : ∃ S, S = w.heap.size := ⟨_, rfl⟩
  have hz1 : w1.heap[S + 1]? = some (.cells #[.int .i64 0, .int .i64 0, .int .i64 0, .int .u8 0, .int .i64 0, .int .i64 0, .string ⟨#[]⟩, .string ⟨#[]⟩] 31 (0, 0)) := by
    rw [hS, hb1.block _ (Array.getElem?_eq_some_iff.1 hz).1]; exact hz
  have hl1 : S + 1 < w1.heap.size := (Array.getElem?_eq_some_iff.1 hz1).1
  have B1 : Aside (Below w.heap.size w w1) := HB.out.trans (hb1.mono HB.out.size)
  rw [← hS]
  clear hb1 hz HB
  obtain ⟨y0, y1, y2, y3, y4, y5, y6, y7, f8⟩ := OpBlk.cells (x := zeroO) hz1
  unfold zeroO at y0 y1 y2 y3 y4 y5 y6 y7
  dsimp only at y0 y1 y2 y3 y4 y5 y6 y7
  have HS : Aside (S = w.heap.size) := hS
  clear hS hz1
  go_wp2
  (try simp only [Exit.inBlock, Exit.then])
  refine bodyPost_ret (v := .tuple #[encO zeroO, .bool false]) ?_ rfl ⟨rfl, ?_⟩
  · rw [results_ct rfl]
    unfold encO zeroO
    go_simp
  · exact (below_cells (b := S + 1) B1.out (by have := HS.out; omega) 0 [.int .i64 0, .int .i64 0, .int .i64 0, .int .u8 0, .int .i64 0, .int .i64 0, .string ⟨#[]⟩, .string ⟨#[]⟩]).alloc (below_cells (b := S + 1) B1.out (by have := HS.out; omega) 0 _).size _
set_option maxRecDepth 100000 in
set_option maxHeartbeats 2000000 in
theorem kfind_in (w : World) (ao : Nat → Option Addr) (cap : Nat → Nat) (R : Rws) (id : Int) (hK : KnownAt w ao R) (hR : RowsN R) (hl : ∀ i, i < 4 → (R i).length ≤ 1000) (h1 : 4 ≤ id) (h2 : id < 4294967300) :
    Calls Tryz.prog 168 #[kV ao cap R, .int .i64 id] w fun e w' => e = .returned (.tuple #[encO ((findK R id).getD zeroO), .bool (findK R id).isSome]) ∧ Below w.heap.size w w' := by
  obtain ⟨i, hi, ei⟩ : ∃ i : Nat, i < 4 ∧ id % 4 = (i : Int) := ⟨(id % 4).toNat, by omega, by omega⟩
  have wi : ((i : Int)).toNat = i := by omega
  have pi : (0 : Int) ≤ (i : Int) := by omega
  have bi : (i : Int) < 4 := by omega
  unfold kV
  obtain ⟨S, hS⟩ : ∃ S, S = w.heap.size := ⟨_, rfl⟩
  obtain ⟨U, hU⟩ : ∃ U, U = (w.alloc (.cells #[.slice (ao 0) (R 0).length (cap 0), .slice (ao 1) (R 1).length (cap 1), .slice (ao 2) (R 2).length (cap 2), .slice (ao 3) (R 3).length (cap 3)] 79)).alloc (.cells #[.int .i64 0, .int .i64 0, .int .i64 0, .int .u8 0, .int .i64 0, .int .i64 0, .string ⟨#[]⟩, .string ⟨#[]⟩] 31) := ⟨_, rfl⟩
  have hb : Below w.heap.size w U := by rw [hU]; exact ((Below.refl _ w).alloc (Nat.le_refl _) _).alloc (by simp) _
  have hz : OpBlk U (S + 1) zeroO := by
    rw [hU, hS]
    have := heap_alloc_new (w.alloc (.cells #[.slice (ao 0) (R 0).length (cap 0), .slice (ao 1) (R 1).length (cap 1), .slice (ao 2) (R 2).length (cap 2), .slice (ao 3) (R 3).length (cap 3)] 79)) (.cells #[.int .i64 0, .int .i64 0, .int .i64 0, .int .u8 0, .int .i64 0, .int .i64 0, .string ⟨#[]⟩, .string ⟨#[]⟩] 31)
    rw [World.size_alloc] at this
    exact this
  have hk : KBox U S ao cap R := by rw [hU, hS]; exact (Below.heap_alloc _ _ _ (by simp)).trans (KBox.new w ao cap R)
  have hcall := of_ok id U h1 h2
  rw [ei] at hcall
  obtain ⟨tm, etm⟩ : ∃ tm, tm = id / 4 := ⟨_, rfl⟩
  rw [← etm] at hcall
  have HB : Aside (Below w.heap.size w U ∧ KBox U S ao cap R ∧ OpBlk U (S + 1) zeroO) := ⟨hb, hk, hz⟩
  have HS : Aside (S = w.heap.size ∧ tm = id / 4 ∧ id % 4 = (i : Int)) := ⟨hS, etm, ei⟩
  clear hb hz hk etm ei
  go_enter Tryz.func168, Tryz.ntmps168
  go_wp2_with fail
  rw [← hU, ← hS]
  clear hU hS
  refine hcall.mono ?_
  clear hcall
  rintro e w1 ⟨rfl, hb1⟩
  obtain ⟨V, hV⟩ : ∃ V, V = w1.alloc (.cells #[.int .i64 tm, .int .i64 (i : Int)] 29) := ⟨_, rfl⟩
  have bV : Below w1.heap.size w1 V := by rw [hV]; exact (Below.refl _ w1).alloc (Nat.le_refl _) _
  have HV : Aside (Below w.heap.size w V ∧ KBox V S ao cap R ∧ OpBlk V (S + 1) zeroO) := ⟨HB.out.1.trans ((hb1.mono HB.out.1.size).trans (bV.mono (Nat.le_trans HB.out.1.size hb1.size))), (HB.out.2.1.later hb1).later bV, (HB.out.2.2.later hb1).later bV⟩
  have hs1 : V.heap[w1.heap.size]? = some (.cells #[.int .i64 tm, .int .i64 (i : Int)] 29 (0, 0)) := by rw [hV]; exact heap_alloc_new w1 _
  have s0 : V.cell? ⟨w1.heap.size, 0, none⟩ = some (.int .i64 tm) := by simp [World.cell?, hs1]
  have s1 : V.cell? ⟨w1.heap.size, 1, none⟩ = some (.int .i64 (i : Int)) := by simp [World.cell?, hs1]
  have k1 := HV.out.2.1.at hi
  have hbs := bsearch_any (ao i) (cap i) (R i) tm V ((hK.later HV.out.1) i hi) (hR.risesLe hi) (hl i hi)
  clear hb1 HB bV hs1
  go_upto_region 4 with fail
  rw [← hV]
  clear hV
  go_wp2_with fail
  refine hbs.mono ?_
  clear hbs
  rintro e w2 ⟨k, b, rfl, hbk, hb2⟩
  have hfk := findK_bs hR hi HS.out.2.2 (by rw [← HS.out.2.1]; exact hbk)
  have H2 : Aside (Below w.heap.size w w2 ∧ OpBlk w2 (S + 1) zeroO) := ⟨HV.out.1.trans (hb2.mono HV.out.1.size), HV.out.2.2.later hb2⟩
  have hl2 := H2.out.2.lt
  have KN : Aside (KnownAt w2 ao R) := hK.later H2.out.1
  obtain ⟨y0, y1, y2, y3, y4, y5, y6, y7, f8⟩ := H2.out.2.cells
  unfold zeroO at y0 y1 y2 y3 y4 y5 y6 y7
  dsimp only at y0 y1 y2 y3 y4 y5 y6 y7
  clear hb2 HV s0 s1 k1
  cases b with
  | false =>
    have HF : Aside (findK R id = none) := hfk.1 rfl
    clear hfk hbk
    go_wp2
    (try simp only [Exit.inBlock, Exit.then])
    refine bodyPost_ret (v := .tuple #[encO zeroO, .bool false]) ?_ rfl ⟨by rw [HF.out]; rfl, ?_⟩
    · rw [results_ct rfl]
      unfold encO zeroO
      go_simp
    · exact below_cells (b := S + 1) H2.out.1 (by have := HS.out; omega) 0 [.int .i64 0, .int .i64 0, .int .i64 0, .int .u8 0, .int .i64 0, .int .i64 0, .string ⟨#[]⟩, .string ⟨#[]⟩]
  | true =>
    obtain ⟨⟨t, b, n, kd, nd, o, s, v⟩, hx, hf⟩ := hfk.2 rfl
    have HF : Aside (findK R id = some (t, b, n, kd, nd, o, s, v)) := hf
    obtain ⟨blk, off, hao, hc⟩ := (KN.out i hi).get hx
    have hkl := (List.getElem?_eq_some_iff.1 hx).1
    have hll := hl i hi
    have r0 := hc 0 _ rfl
    have r1 := hc 1 _ rfl
    have r2 := hc 2 _ rfl
    have r3 := hc 3 _ rfl
    have r4 := hc 4 _ rfl
    have r5 := hc 5 _ rfl
    have r6 := hc 6 _ rfl
    have r7 := hc 7 _ rfl
    simp only [Nat.add_zero] at r0
    have wk : ((k : Int)).toNat = k := by omega
    have pk : (0 : Int) ≤ (k : Int) := by omega
    have bk : (k : Int) < ((R i).length : Int) := by omega
    rw [hao]
    clear hfk hbk hf hx hc hao
    go_wp2
    (try simp only [Exit.inBlock, Exit.then])
    refine bodyPost_ret (v := .tuple #[.agg #[.int .i64 t, .int .i64 b, .int .i64 n, .int .u8 (kd : Int), .int .i64 nd, .int .i64 o, .string s, .string v], .bool true]) ?_ rfl ⟨by rw [HF.out]; rfl, ?_⟩
    · rw [results_ct rfl]
      go_simp
    · exact below_cells (b := S + 1) H2.out.1 (by have := HS.out; omega) 0 [.int .i64 t, .int .i64 b, .int .i64 n, .int .u8 (kd : Int), .int .i64 nd, .int .i64 o, .string s, .string v]
theorem kfind_any {ad : Nat → Addr} (w : World) (ao : Nat → Option Addr) (cap : Nat → Nat) (R : Rws) (id : Int) (hE : Op4 ad w) (hK : KnownAt w ao R) (hR : RowsN R) (hl : ∀ i, i < 4 → (R i).length ≤ 1000) (h2 : -9223372036854775808 ≤ id) (h3 : id ≤ 9223372036854775807) :
    Calls Tryz.prog 168 #[kV ao cap R, .int .i64 id] w fun e w' => e = .returned (.tuple #[encO ((findK R id).getD zeroO), .bool (findK R id).isSome]) ∧ Below w.heap.size w w' := by
  by_cases h : id < 4 ∨ 4294967300 ≤ id
  · rw [findK_out hR h]
    exact kfind_out w ao cap R id hE h h2 h3
  · exact kfind_in w ao cap R id hK hR hl (by omega) (by omega)
end Go.Proofs.YtcggmagdndhkbaaGreatDoor
end
section
set_option linter.unusedVariables false
namespace Go.Proofs.YtcggmagdndhkbaaGreatDoor
open Go.RowKit Go.Lib Go.Sort
theorem known_find {R : Rws} (h : RowsN R) {id : Int} : KnownN (allR R) id ↔ ∃ x, findK R id = some x ∧ kdO x = 109 ∧ nodeO x = id := by
  constructor
  · rintro ⟨x, hx, k1, k2, k3⟩
    exact ⟨x, by rw [← k3]; exact findK_is h hx, k1, k2⟩
  · rintro ⟨x, hx, k1, k2⟩
    obtain ⟨a, b⟩ := findK_some hx
    exact ⟨x, a, k1, k2, b⟩
theorem letter_find {R : Rws} (h : RowsN R) {nd id : Int} : LetterN (allR R) nd id ↔ ∃ x, findK R id = some x ∧ kdO x = 105 ∧ nodeO x = nd := by
  constructor
  · rintro ⟨x, hx, k1, k2, k3⟩
    exact ⟨x, by rw [← k3]; exact findK_is h hx, k1, k2⟩
  · rintro ⟨x, hx, k1, k2⟩
    obtain ⟨a, b⟩ := findK_some hx
    exact ⟨x, a, k1, k2, b⟩
set_option maxRecDepth 100000 in
set_option maxHeartbeats 2000000 in
theorem isNode_any {ad : Nat → Addr} (w : World) (ao : Nat → Option Addr) (cap : Nat → Nat) (R : Rws) (id : Int) (z : Bool) (hz : z = true ↔ KnownN (allR R) id) (hE : Op4 ad w) (hK : KnownAt w ao R) (hR : RowsN R) (hl : ∀ i, i < 4 → (R i).length ≤ 1000) (h2 : -9223372036854775808 ≤ id) (h3 : id ≤ 9223372036854775807) :
    Calls Tryz.prog 105 #[kV ao cap R, .int .i64 id] w fun e w' => e = .returned (.bool z) ∧ Below w.heap.size w w' := by
  obtain ⟨U, hU⟩ : ∃ U, U = w.alloc (.cells #[.slice (ao 0) (R 0).length (cap 0), .slice (ao 1) (R 1).length (cap 1), .slice (ao 2) (R 2).length (cap 2), .slice (ao 3) (R 3).length (cap 3)] 79) := ⟨_, rfl⟩
  have hb : Below w.heap.size w U := by rw [hU]; exact (Below.refl _ w).alloc (Nat.le_refl _) _
  have hcall := kfind_any U ao cap R id (hE.later hb) (hK.later hb) hR hl h2 h3
  rw [known_find hR] at hz
  unfold kV at hcall ⊢
  have HB : Aside (Below w.heap.size w U) := hb
  clear hb
  cases hf : findK R id with
  | none =>
    have hzf : z = false := by
      cases z with
      | false => rfl
      | true => obtain ⟨x, e, _⟩ := hz.1 rfl; rw [hf] at e; cases e
    subst hzf
    rw [hf] at hcall
    unfold encO zeroO at hcall
    clear hf hz
    go_enter Tryz.func105, Tryz.ntmps105
    go_wp2_with fail
    rw [← hU]
    clear hU
    refine hcall.mono ?_
    clear hcall
    rintro e w1 ⟨rfl, hb1⟩
    have B1 : Aside (Below w.heap.size w w1) := HB.out.trans (hb1.mono HB.out.size)
    clear hb1 HB
    go_wp2
    go_ret
    exact ⟨rfl, B1.out.alloc B1.out.size _⟩
  | some x =>
    obtain ⟨t, b, n, k, nd, o, s, v⟩ := x
    have HZ : Aside (z = (decide (k = 109) && decide (nd = id))) := by
      show z = (decide (k = 109) && decide (nd = id))
      rw [Bool.eq_iff_iff, hz, Bool.and_eq_true, decide_eq_true_iff, decide_eq_true_iff]
      constructor
      · rintro ⟨x, e, k1, k2⟩
        rw [hf] at e
        cases e
        exact ⟨k1, k2⟩
      · rintro ⟨k1, k2⟩
        exact ⟨_, hf, k1, k2⟩
    rw [hf] at hcall
    unfold encO at hcall
    dsimp only [Option.getD_some] at hcall
    clear hf hz
    by_cases hk : k = 109
    · subst hk
      go_enter Tryz.func105, Tryz.ntmps105
      go_wp2_with fail
      rw [← hU]
      clear hU
      refine hcall.mono ?_
      clear hcall
      rintro e w1 ⟨rfl, hb1⟩
      have B1 : Aside (Below w.heap.size w w1) := HB.out.trans (hb1.mono HB.out.size)
      clear hb1 HB
      go_wp2
      go_ret
      exact ⟨by rw [HZ.out]; simp [BEq.beq], B1.out.alloc B1.out.size _⟩
    · have dk : ((k : Int) == 109) = false := by simp; omega
      go_enter Tryz.func105, Tryz.ntmps105
      go_wp2_with fail
      rw [← hU]
      clear hU
      refine hcall.mono ?_
      clear hcall
      rintro e w1 ⟨rfl, hb1⟩
      have B1 : Aside (Below w.heap.size w w1) := HB.out.trans (hb1.mono HB.out.size)
      clear hb1 HB
      go_wp2
      go_ret
      exact ⟨by rw [HZ.out]; simp [hk], B1.out.alloc B1.out.size _⟩
set_option maxRecDepth 100000 in
set_option maxHeartbeats 2000000 in
theorem isLetter_any {ad : Nat → Addr} (w : World) (ao : Nat → Option Addr) (cap : Nat → Nat) (R : Rws) (node id : Int) (z : Bool) (hz : z = true ↔ LetterN (allR R) node id) (hE : Op4 ad w) (hK : KnownAt w ao R) (hR : RowsN R) (hl : ∀ i, i < 4 → (R i).length ≤ 1000) (h2 : -9223372036854775808 ≤ id) (h3 : id ≤ 9223372036854775807) :
    Calls Tryz.prog 179 #[kV ao cap R, .int .i64 node, .int .i64 id] w fun e w' => e = .returned (.bool z) ∧ Below w.heap.size w w' := by
  obtain ⟨U, hU⟩ : ∃ U, U = w.alloc (.cells #[.slice (ao 0) (R 0).length (cap 0), .slice (ao 1) (R 1).length (cap 1), .slice (ao 2) (R 2).length (cap 2), .slice (ao 3) (R 3).length (cap 3)] 79) := ⟨_, rfl⟩
  have hb : Below w.heap.size w U := by rw [hU]; exact (Below.refl _ w).alloc (Nat.le_refl _) _
  have hcall := kfind_any U ao cap R id (hE.later hb) (hK.later hb) hR hl h2 h3
  rw [letter_find hR] at hz
  unfold kV at hcall ⊢
  have HB : Aside (Below w.heap.size w U) := hb
  clear hb
  cases hf : findK R id with
  | none =>
    have hzf : z = false := by
      cases z with
      | false => rfl
      | true => obtain ⟨x, e, _⟩ := hz.1 rfl; rw [hf] at e; cases e
    subst hzf
    rw [hf] at hcall
    unfold encO zeroO at hcall
    clear hf hz
    go_enter Tryz.func179, Tryz.ntmps179
    go_wp2_with fail
    rw [← hU]
    clear hU
    refine hcall.mono ?_
    clear hcall
    rintro e w1 ⟨rfl, hb1⟩
    have B1 : Aside (Below w.heap.size w w1) := HB.out.trans (hb1.mono HB.out.size)
    clear hb1 HB
    go_wp2
    go_ret
    exact ⟨rfl, B1.out.alloc B1.out.size _⟩
  | some x =>
    obtain ⟨t, b, n, k, nd, o, s, v⟩ := x
    have HZ : Aside (z = (decide (k = 105) && decide (nd = node))) := by
      show z = (decide (k = 105) && decide (nd = node))
      rw [Bool.eq_iff_iff, hz, Bool.and_eq_true, decide_eq_true_iff, decide_eq_true_iff]
      constructor
      · rintro ⟨x, e, k1, k2⟩
        rw [hf] at e
        cases e
        exact ⟨k1, k2⟩
      · rintro ⟨k1, k2⟩
        exact ⟨_, hf, k1, k2⟩
    rw [hf] at hcall
    unfold encO at hcall
    dsimp only [Option.getD_some] at hcall
    clear hf hz
    by_cases hk : k = 105
    · subst hk
      go_enter Tryz.func179, Tryz.ntmps179
      go_wp2_with fail
      rw [← hU]
      clear hU
      refine hcall.mono ?_
      clear hcall
      rintro e w1 ⟨rfl, hb1⟩
      have B1 : Aside (Below w.heap.size w w1) := HB.out.trans (hb1.mono HB.out.size)
      clear hb1 HB
      go_wp2
      go_ret
      exact ⟨by rw [HZ.out]; simp [BEq.beq], B1.out.alloc B1.out.size _⟩
    · have dk : ((k : Int) == 105) = false := by simp; omega
      go_enter Tryz.func179, Tryz.ntmps179
      go_wp2_with fail
      rw [← hU]
      clear hU
      refine hcall.mono ?_
      clear hcall
      rintro e w1 ⟨rfl, hb1⟩
      have B1 : Aside (Below w.heap.size w w1) := HB.out.trans (hb1.mono HB.out.size)
      clear hb1 HB
      go_wp2
      go_ret
      exact ⟨by rw [HZ.out]; simp [hk], B1.out.alloc B1.out.size _⟩
set_option maxRecDepth 100000 in
set_option maxHeartbeats 2000000 in
theorem isPlace_any {ad : Nat → Addr} (w : World) (ao : Nat → Option Addr) (cap : Nat → Nat) (R : Rws) (id : Int) (z : Bool) (hz : z = true ↔ id = 0 ∨ id = 1 ∨ KnownN (allR R) id) (hE : Op4 ad w) (hK : KnownAt w ao R) (hR : RowsN R) (hl : ∀ i, i < 4 → (R i).length ≤ 1000) (h2 : -9223372036854775808 ≤ id) (h3 : id ≤ 9223372036854775807) :
    Calls Tryz.prog 52 #[kV ao cap R, .int .i64 id] w fun e w' => e = .returned (.bool z) ∧ Below w.heap.size w w' := by
  obtain ⟨U, hU⟩ : ∃ U, U = w.alloc (.cells #[.slice (ao 0) (R 0).length (cap 0), .slice (ao 1) (R 1).length (cap 1), .slice (ao 2) (R 2).length (cap 2), .slice (ao 3) (R 3).length (cap 3)] 79) := ⟨_, rfl⟩
  have hb : Below w.heap.size w U := by rw [hU]; exact (Below.refl _ w).alloc (Nat.le_refl _) _
  have HB : Aside (Below w.heap.size w U) := hb
  by_cases h0 : id = 0
  · obtain rfl : z = true := hz.2 (.inl h0)
    subst h0
    unfold kV
    clear hb hz
    go_enter Tryz.func52, Tryz.ntmps52
    go_wp2
    go_ret
    exact ⟨rfl, (Below.refl _ w).alloc (Nat.le_refl _) _⟩
  · by_cases h1 : id = 1
    · obtain rfl : z = true := hz.2 (.inr (.inl h1))
      subst h1
      unfold kV
      clear hb hz
      go_enter Tryz.func52, Tryz.ntmps52
      go_wp2
      go_ret
      exact ⟨rfl, (Below.refl _ w).alloc (Nat.le_refl _) _⟩
    · have hz' : z = true ↔ KnownN (allR R) id := hz.trans ⟨fun q => (q.resolve_left h0).resolve_left h1, fun q => .inr (.inr q)⟩
      have hcall := isNode_any U ao cap R id z hz' (hE.later hb) (hK.later hb) hR hl h2 h3
      have d0 : (id == 0) = false := by simp [h0]
      have d1 : (id == 1) = false := by simp [h1]
      unfold kV at hcall ⊢
      clear hb hz hz'
      go_enter Tryz.func52, Tryz.ntmps52
      go_wp2_with fail
      rw [← hU]
      clear hU
      refine hcall.mono ?_
      clear hcall
      rintro e w1 ⟨rfl, hb1⟩
      have B1 : Aside (Below w.heap.size w w1) := HB.out.trans (hb1.mono HB.out.size)
      clear hb1 HB
      go_wp2
      go_ret
      exact ⟨rfl, B1.out⟩
theorem refOk_iff {S : List OpX} {x : OpX} (hx : x ∈ S) (ho : 0 ≤ otherO x) : RefOk S x ↔ KnownN S (nodeO x) ∧ (kdO x = 109 → otherO x = 0 ∨ otherO x = 1 ∨ KnownN S (otherO x)) ∧ (kdO x = 105 → otherO x = 0 ∨ LetterN S (nodeO x) (otherO x)) ∧ (kdO x = 100 → LetterN S (nodeO x) (otherO x)) := by
  constructor
  · rintro ⟨h1, h2, h3⟩
    refine ⟨?_, h2, fun k => ?_, fun k => h3 (.inr k)⟩
    · rcases h1 with ⟨k, e⟩ | k
      · exact ⟨x, hx, k, rfl, e⟩
      · exact k
    · by_cases e : otherO x = 0
      · exact .inl e
      · exact .inr (h3 (.inl ⟨k, by omega⟩))
  · rintro ⟨h1, h2, h3, h4⟩
    exact ⟨.inr h1, h2, fun k => k.elim (fun k => (h3 k.1).resolve_left (by omega)) h4⟩
set_option maxRecDepth 100000 in
set_option maxHeartbeats 4000000 in
theorem bears_any {ad : Nat → Addr} (w : World) (ao : Nat → Option Addr) (cap : Nat → Nat) (R : Rws) (x : OpX) (hx : x ∈ allR R) (z : Bool) (hz : z = true ↔ RefOk (allR R) x) (hE : Op4 ad w) (hK : KnownAt w ao R) (hR : RowsN R) (hl : ∀ i, i < 4 → (R i).length ≤ 1000) :
    Calls Tryz.prog 117 #[kV ao cap R, encO x] w fun e w' => e = .returned (.bool z) ∧ Below w.heap.size w w' := by
  have hid := id_range (hR.num.ok x hx)
  have hrf := err_refs (hR.num.ok x hx)
  rw [refOk_iff hx (by omega)] at hz
  obtain ⟨t, b, n, k, nd, o, s, v⟩ := x
  have q1 : nd ≤ idO (t, b, n, k, nd, o, s, v) := hrf.1.elim (fun q => q.2) (fun q => Int.le_of_lt q)
  have q2 : o < idO (t, b, n, k, nd, o, s, v) := hrf.2.1
  have q3 : 0 ≤ nd := hrf.2.2.1
  have q4 : 0 ≤ o := hrf.2.2.2.1
  have hn0 : 0 ≤ nd ∧ nd ≤ 4294967300 := ⟨q3, by omega⟩
  have ho0 : 0 ≤ o ∧ o ≤ 4294967300 := ⟨q4, by omega⟩
  clear q1 q2 q3 q4
  change z = true ↔ KnownN (allR R) nd ∧ (k = 109 → o = 0 ∨ o = 1 ∨ KnownN (allR R) o) ∧ (k = 105 → o = 0 ∨ LetterN (allR R) nd o) ∧ (k = 100 → LetterN (allR R) nd o) at hz
  clear hid hrf
  obtain ⟨U, hU⟩ : ∃ U, U = (w.alloc (.cells #[.slice (ao 0) (R 0).length (cap 0), .slice (ao 1) (R 1).length (cap 1), .slice (ao 2) (R 2).length (cap 2), .slice (ao 3) (R 3).length (cap 3)] 79)).alloc (.cells #[.int .i64 t, .int .i64 b, .int .i64 n, .int .u8 (k : Int), .int .i64 nd, .int .i64 o, .string s, .string v] 31) := ⟨_, rfl⟩
  obtain ⟨S, hS⟩ : ∃ S, S = w.heap.size := ⟨_, rfl⟩
  have hb : Below w.heap.size w U := by rw [hU]; exact ((Below.refl _ w).alloc (Nat.le_refl _) _).alloc (by simp) _
  have hz1 : OpBlk U (S + 1) (t, b, n, k, nd, o, s, v) := by
    rw [hU, hS]
    have := heap_alloc_new (w.alloc (.cells #[.slice (ao 0) (R 0).length (cap 0), .slice (ao 1) (R 1).length (cap 1), .slice (ao 2) (R 2).length (cap 2), .slice (ao 3) (R 3).length (cap 3)] 79)) (.cells #[.int .i64 t, .int .i64 b, .int .i64 n, .int .u8 (k : Int), .int .i64 nd, .int .i64 o, .string s, .string v] 31)
    rw [World.size_alloc] at this
    exact this
  have hk : KBox U S ao cap R := by rw [hU, hS]; exact (Below.heap_alloc _ _ _ (by simp)).trans (KBox.new w ao cap R)
  obtain ⟨zn, hzn⟩ : ∃ zn : Bool, zn = true ↔ KnownN (allR R) nd := by
    by_cases q : KnownN (allR R) nd
    · exact ⟨true, by simp [q]⟩
    · exact ⟨false, by simp [q]⟩
  have hcall := isNode_any U ao cap R nd zn hzn (hE.later hb) (hK.later hb) hR hl (by omega) (by omega)
  have HB : Aside (Below w.heap.size w U ∧ KBox U S ao cap R ∧ OpBlk U (S + 1) (t, b, n, k, nd, o, s, v)) := ⟨hb, hk, hz1⟩
  unfold kV at hcall ⊢
  unfold encO
  clear hb hk hz1
  go_enter Tryz.func117, Tryz.ntmps117
  go_wp2_with fail
  rw [← hU, ← hS]
  clear hU hS
  refine hcall.mono ?_
  clear hcall
  rintro e w1 ⟨rfl, hb1⟩
  have H1 : Aside (Below w.heap.size w w1 ∧ KBox w1 S ao cap R ∧ OpBlk w1 (S + 1) (t, b, n, k, nd, o, s, v)) := ⟨HB.out.1.trans (hb1.mono HB.out.1.size), HB.out.2.1.later hb1, HB.out.2.2.later hb1⟩
  obtain ⟨y0, y1, y2, y3, y4, y5, y6, y7, f8⟩ := H1.out.2.2.cells
  dsimp only at y0 y1 y2 y3 y4 y5 y6 y7
  have k0 := H1.out.2.1.at (i := 0) (by omega)
  have k1 := H1.out.2.1.at (i := 1) (by omega)
  have k2 := H1.out.2.1.at (i := 2) (by omega)
  have k3 := H1.out.2.1.at (i := 3) (by omega)
  have hE1 := hE.later H1.out.1
  have hK1 := hK.later H1.out.1
  clear hb1 HB
  cases zn with
  | false =>
    have hzf : z = false := by
      cases z with
      | false => rfl
      | true => exact absurd (hzn.2 (hz.1 rfl).1) (by decide)
    subst hzf
    clear hz hzn
    go_wp2
    go_ret
    exact ⟨rfl, H1.out.1⟩
  | true =>
    have hkn := hzn.1 rfl
    clear hzn
    by_cases hm : k = 109
    · subst hm
      have hz' : z = true ↔ o = 0 ∨ o = 1 ∨ KnownN (allR R) o := hz.trans ⟨fun q => q.2.1 rfl, fun q => ⟨hkn, fun _ => q, fun k => absurd k (by decide), fun k => absurd k (by decide)⟩⟩
      have hcall := isPlace_any w1 ao cap R o z hz' hE1 hK1 hR hl (by omega) (by omega)
      unfold kV at hcall
      clear hz hz'
      go_wp2_with fail
      refine hcall.mono ?_
      clear hcall
      rintro e w2 ⟨rfl, hb2⟩
      have B2 : Aside (Below w.heap.size w w2) := H1.out.1.trans (hb2.mono H1.out.1.size)
      clear hb2
      go_wp2
      go_ret
      exact ⟨rfl, B2.out⟩
    · have dm : ((k : Int) == 109) = false := by simp; omega
      by_cases hi : k = 105
      · subst hi
        by_cases h0 : o = 0
        · subst h0
          obtain rfl : z = true := hz.2 ⟨hkn, fun k => absurd k (by decide), fun _ => .inl rfl, fun k => absurd k (by decide)⟩
          clear hz
          go_wp2
          go_ret
          exact ⟨rfl, H1.out.1⟩
        · have d0 : (o == 0) = false := by simp [h0]
          have hz' : z = true ↔ LetterN (allR R) nd o := hz.trans ⟨fun q => (q.2.2.1 rfl).resolve_left h0, fun q => ⟨hkn, fun k => absurd k (by decide), fun _ => .inr q, fun k => absurd k (by decide)⟩⟩
          have hcall := isLetter_any w1 ao cap R nd o z hz' hE1 hK1 hR hl (by omega) (by omega)
          unfold kV at hcall
          clear hz hz'
          go_wp2_with fail
          refine hcall.mono ?_
          clear hcall
          rintro e w2 ⟨rfl, hb2⟩
          have B2 : Aside (Below w.heap.size w w2) := H1.out.1.trans (hb2.mono H1.out.1.size)
          clear hb2
          go_wp2
          go_ret
          exact ⟨rfl, B2.out⟩
      · have di : ((k : Int) == 105) = false := by simp; omega
        by_cases hd : k = 100
        · subst hd
          have hz' : z = true ↔ LetterN (allR R) nd o := hz.trans ⟨fun q => q.2.2.2 rfl, fun q => ⟨hkn, fun k => absurd k (by decide), fun k => absurd k (by decide), fun _ => q⟩⟩
          have hcall := isLetter_any w1 ao cap R nd o z hz' hE1 hK1 hR hl (by omega) (by omega)
          unfold kV at hcall
          clear hz hz'
          go_wp2_with fail
          refine hcall.mono ?_
          clear hcall
          rintro e w2 ⟨rfl, hb2⟩
          have B2 : Aside (Below w.heap.size w w2) := H1.out.1.trans (hb2.mono H1.out.1.size)
          clear hb2
          go_wp2
          go_ret
          exact ⟨rfl, B2.out⟩
        · have dd : ((k : Int) == 100) = false := by simp; omega
          obtain rfl : z = true := hz.2 ⟨hkn, fun k => absurd k hm, fun k => absurd k hi, fun k => absurd k hd⟩
          clear hz
          go_wp2
          go_ret
          exact ⟨rfl, H1.out.1⟩
end Go.Proofs.YtcggmagdndhkbaaGreatDoor
end
