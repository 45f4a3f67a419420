/- Contract of package cells' Marks, over the translation's body. -/
import Derived.Test.YtfpmmgboodcfiaaDoorCellWalks
import Derived.Test.YtfpmmgboodcfiaaDoorMarkSort
import Derived.Test.YtfpmmgboodcfiaaDoorRowAt
import Derived.Maps.RangeWalk
import Derived.LoopTactic
import Derived.Laws.AppendOwn
namespace Go.Proofs.YtfpmmgboodcfiaaDoor
open Go.RowKit Go.Maps

theorem infoM : (Tryd.prog.info? 52).map (fun i => (i.zero, i.size, i.bytes)) = some (some (.agg #[.int .i64 0, .string ⟨#[]⟩, .string ⟨#[]⟩]), 3, 40) := by kernel_rfl
theorem emptyYes {s : ByteArray} (h : s.size = 0) : s.toList.isEmpty = true := by
  rw [ByteArray.toList_eq]
  have : s.data.toList.length = 0 := by simpa using h
  rw [List.length_eq_zero_iff.1 this]
  rfl
theorem emptyNo {s : ByteArray} (h : s.size ≠ 0) : s.toList.isEmpty = false := by
  rw [ByteArray.toList_eq]
  have : s.data.toList.length ≠ 0 := by simpa using h
  cases hs : s.data.toList with
  | nil => rw [hs] at this; simp at this
  | cons a r => rfl
theorem lit_cellsM (w : World) (a : Int) (s c : ByteArray) (j : Nat) (u : Value) (hj : (cellsM (a, s, c))[j]? = some u) : (w.alloc (.cells #[.int .i64 a, .string s, .string c] 52)).cell? ((⟨w.heap.size, 0, none⟩ : Addr).add j) = some u := by
  rw [Addr.add_lit, Nat.zero_add]
  have h := heap_alloc_new w (.cells #[.int .i64 a, .string s, .string c] 52)
  simp only [World.cell?, h]
  rw [← hj]
  simp [cellsM]

set_option maxRecDepth 100000 in
set_option maxHeartbeats 2000000 in
/-- Marks: all that are not empty, in order. -/
theorem marks_any (w : World) (bc bm n : Nat) (f : CSta) (hC : CellsAt w bc bm n f) (hn : n ≤ 100000) :
    Calls Tryd.prog 12 #[.pointer (some ⟨bc, 0, none⟩)] w fun e w' => ∃ ao cap qs, e = .returned (.slice ao qs.length cap) ∧ IsMarks f qs ∧ qs.length ≤ n ∧ InRow cellsM w' ao qs ∧ Below w.heap.size w w' := by
  obtain ⟨i0, hi, hz0, hz1, hz2⟩ := info_parts infoM
  have hall := all_any w bc bm hC.c0
  obtain ⟨⟨D, hown, hr⟩, hg⟩ := hC.map
  have hsn := hown.size_le
  have hlt := hC.lt
  clear hC
  go_enter Tryd.func12, Tryd.ntmps12
  go_wp2_with (first
    | (go_at_call 20; refine hall.mono ?_; clear hall; rintro e w' ⟨rfl, hw'⟩; have hw2 := hw'.symm; subst hw2)
    | (at_range; refine wpList_range_own _ rfl _ 54 rfl 60 62 lawK Tryd.underlying54 _ bm n D rfl hown ?_; intro w0 hrg0 hg0 hs0)
    | go_in)
  go_frame
  have hb0 : Below w.heap.size w w0 := (Below.refl _ w).grown hg0 (Nat.le_refl _) (by intro k hk; cases hk)
  obtain ⟨r, hr0⟩ : ∃ r, Aside (r = w.heap.size) := ⟨_, rfl⟩
  rw [← hr0.out] at hrg0 ⊢
  have H0 : Aside (w0.ranges Tryd.prog 60 mrkR bm r n D (has D) (size D) ∧ Below w.heap.size w w0 ∧ ReadsC D f ∧ GoodC f ∧ bm < w.heap.size) := ⟨hrg0, hb0, hr, hg, hlt.2⟩
  clear hrg0 hg0 hs0 hb0 hr hg hlt hown
  go_loopw [3] (fun s3 wr => ∃ (left : Lit → Bool) (cnt : Nat) (ps : List Mrk) (v : Value), v = s3 ∧ Aside (wr.ranges Tryd.prog 60 mrkR bm r n D left cnt ∧ ps.length + cnt ≤ n ∧ CollM f left ps ∧ wr.ownsRow (r + 1) 52 3 v ps.length (flat cellsM ps) ∧ Below w.heap.size w wr ∧ r < wr.heap.size))
    (fun _ wr => wr.rangeLeft bm r)
  case atStart => exact ⟨_, _, [], _, rfl, ⟨H0.out.1, by simpa using hsn, collM_start H0.out.2.2.1 H0.out.2.2.2.1, World.ownsRow_nil _ _ _ _, H0.out.2.1, H0.out.1.lt⟩⟩
  case round =>
    obtain ⟨left, cnt, ps, v, rfl, A⟩ := hrel
    obtain ⟨u, hu⟩ : ∃ u, u = wr := ⟨_, rfl⟩
    subst hu
    have hrg := A.out.1
    go_wp2_with (first
      | (at_next; refine wpList_next_ranges _ rfl _ rfl 60 lawK mrkR encK encC (fun key kl hk => by obtain ⟨x, _, hx, _⟩ := key_inv hk; exact ⟨x, hx⟩) (fun v y hv => by obtain ⟨c, rfl, _⟩ := mrkR_inv hv; exact ⟨c, rfl⟩) bm r n _ _ _ rfl hrg ?_ ?_)
      | go_in)
    · intro hc0 hl0
      have hall := A.out.2.2.1.all hl0
      have hpn : ps.length ≤ n := by have := A.out.2.1; omega
      have hown := A.out.2.2.2.1
      have hbel := A.out.2.2.2.2.1
      have hr1 := hr0.out
      rcases hown.2 with ⟨rfl, h0⟩ | ⟨g, cap, cur, rfl, hbg, -⟩
      · have hps : ps = [] := List.length_eq_zero_iff.1 h0
        have HH : Aside (IsMarks f [] ∧ Below w.heap.size w u) := ⟨by subst hps; exact hall.marks (List.Perm.refl _) List.Pairwise.nil, hbel⟩
        clear hall hown hbel hps h0 hc0 hl0 hr1
        go_wp2_with (go_at_call 21; refine (sortMk_none none 0 _ _).mono ?_; rintro e w' ⟨rfl, rfl⟩)
        go_ret
        exact ⟨none, 0, [], rfl, HH.out.1, Nat.zero_le _, .inl rfl, HH.out.2⟩
      · have hs := sortMk u (r + 1) g cap ps hown (by omega)
        have hgl := (hown.lt g rfl).2
        have HH : Aside (AllM f ps ∧ ps.length ≤ n ∧ Below w.heap.size w u ∧ w.heap.size ≤ g ∧ g < u.heap.size) := ⟨hall, hpn, hbel, by omega, hgl⟩
        clear hall hown hbel hpn hbg hgl hc0 hl0 hr1
        go_wp2_with fail
        refine hs.mono ?_
        clear hs
        rintro e w2 ⟨rfl, qs, hp, hpw, hcells, hk⟩
        have H2 : Aside (IsMarks f qs ∧ qs.length = ps.length ∧ qs.length ≤ n ∧ (∀ j u, (flat cellsM qs)[j]? = some u → w2.cell? ⟨g, j, none⟩ = some u) ∧ Below w.heap.size w w2) :=
          ⟨HH.out.1.marks hp hpw, hp.length_eq, by have := HH.out.2.1; have := hp.length_eq; omega, hcells, HH.out.2.2.1.trans (hk.below (HH.out.2.2.1.size) (fun k e => by have := HH.out.2.2.2.1; omega))⟩
        clear hp hpw hcells hk HH
        go_wp2
        go_ret
        exact ⟨_, cap, qs, by rw [H2.out.2.1]; rfl, H2.out.1, H2.out.2.2.1, .inr ⟨g, 0, rfl, fun j u hj => by rw [Nat.zero_add]; exact H2.out.2.2.2.1 j u hj⟩, H2.out.2.2.2.2⟩
    · intro a nm c t b kl yd yp w2 cnt2 hkey hlk hv hat hrg2 hlt hg2 hs2 hen
      obtain ⟨x', hwx, ex, rfl⟩ := key_inv hkey
      obtain rfl : (a, nm) = x' := encK_inj ex
      obtain ⟨c', ec, ez⟩ := mrkR_inv hv
      obtain rfl : (c, t, b) = c' := encC_inj ec
      obtain rfl : yd = datC (c, t, b) := (Prod.mk.inj ez).1
      have hfx := H0.out.2.2.1.got hwx hat
      have hk2 : Keeps (fun k => k = r) u w2 := (keeps_of_grown hg2).mono (fun k _ e => by cases e; rfl)
      have hb2 : Below w.heap.size w w2 := A.out.2.2.2.2.1.trans (hk2.below A.out.2.2.2.2.1.size (fun k e => by have := hr0.out; omega))
      have ho2 : w2.ownsRow (r + 1) 52 3 v ps.length (flat cellsM ps) := ownsHeld A.out.2.2.2.1 (fun g hg => hk2.block g (A.out.2.2.2.1.lt g hg).2 (by have := (A.out.2.2.2.1.lt g hg).1; omega))
      unfold encK encC at hen ⊢
      dsimp only at hen ⊢
      obtain ⟨S, hS⟩ : ∃ S, Aside (w2.heap.size = S) := ⟨_, rfl⟩
      by_cases hc : c.size = 0
      · have hC2 := A.out.2.2.1.skip H0.out.2.2.2.1 hwx hfx hc
        have hce := emptyYes hc
        have H2 : Aside (w2.ranges Tryd.prog 60 mrkR bm r n D (fun z => left z && !z.sameKey (klit (a, nm))) cnt2 ∧ ps.length + cnt2 ≤ n ∧ CollM f (fun z => left z && !z.sameKey (klit (a, nm))) ps ∧ w2.ownsRow (r + 1) 52 3 v ps.length (flat cellsM ps) ∧ Below w.heap.size w w2 ∧ cnt2 < cnt) := ⟨hrg2, by have := A.out.2.1; omega, hC2, ho2, hb2, hlt⟩
        clear hC2 hrg2 hlt hg2 hs2 hk2 hb2 ho2 hfx hat hv hkey hlk ec ez ex
        go_wp2
        obtain ⟨h1, h2, h3, h4, h5, h6⟩ := H2.out
        refine ⟨⟨_, cnt2, ps, v, rfl, (h1.alloc _).alloc _, h2, h3, (h4.alloc _).alloc _, (h5.alloc h5.size _).alloc (by have := h5.size; simp; omega) _, ((h1.alloc _).alloc _).lt⟩, ?_⟩
        rw [((h1.alloc _).alloc _).left_eq, hrg.left_eq]
        exact h6
      · have hC2 := A.out.2.2.1.step H0.out.2.2.2.1 hwx hlk hfx hc
        have hce := emptyNo hc
        obtain ⟨W3, hW3⟩ : ∃ W3, W3 = (w2.alloc (.cells #[.int .i64 a, .string nm] 60)).alloc (.cells #[.string c, .int .i64 t, .int .i64 b] 62) := ⟨_, rfl⟩
        have hb3 : Below w2.heap.size w2 W3 := by rw [hW3]; exact ((Below.refl _ w2).alloc (Nat.le_refl _) _).alloc (by simp) _
        have hs3 : W3.heap.size = w2.heap.size + 2 := by rw [hW3]; simp
        have q0 : W3.heap[w2.heap.size]? = some (.cells #[.int .i64 a, .string nm] 60 (0, 0)) := by
          rw [hW3, Below.heap_alloc _ _ _ (by simp)]
          exact heap_alloc_new w2 _
        have q1 : W3.heap[w2.heap.size + 1]? = some (.cells #[.string c, .int .i64 t, .int .i64 b] 62 (0, 0)) := by
          have := heap_alloc_new (w2.alloc (.cells #[.int .i64 a, .string nm] 60)) (.cells #[.string c, .int .i64 t, .int .i64 b] 62)
          rw [World.size_alloc] at this
          rw [hW3]
          exact this
        have hrg3 : W3.ranges Tryd.prog 60 mrkR bm r n D (fun z => left z && !z.sameKey (klit (a, nm))) cnt2 := by rw [hW3]; exact (hrg2.alloc _).alloc _
        have ho3 : W3.ownsRow (r + 1) 52 3 v ps.length (flat cellsM ps) := by rw [hW3]; exact (ho2.alloc _).alloc _
        have H2 : Aside (W3.ranges Tryd.prog 60 mrkR bm r n D (fun z => left z && !z.sameKey (klit (a, nm))) cnt2 ∧ ps.length + 1 + cnt2 ≤ n ∧ CollM f (fun z => left z && !z.sameKey (klit (a, nm))) (ps ++ [(a, nm, c)]) ∧ W3.ownsRow (r + 1) 52 3 v ps.length (flat cellsM ps) ∧ Below w.heap.size w W3 ∧ cnt2 < cnt) := ⟨hrg3, by have := A.out.2.1; omega, hC2, ho3, hb2.trans (hb3.mono hb2.size), hlt⟩
        clear hC2 hrg2 hlt hg2 hs2 hk2 hb2 ho2 hfx hat hv hkey hlk ec ez ex hrg3 ho3 hb3
        go_upto_region 6 with fail
        rw [← hW3]
        rw [hS.out] at q0 q1 hs3 ⊢
        have f0 : W3.cell? ⟨S, 0, none⟩ = some (.int .i64 a) := by simp [World.cell?, q0]
        have f1 : W3.cell? ⟨S, 1, none⟩ = some (.string nm) := by simp [World.cell?, q0]
        have f2 : W3.cell? ⟨S + 1, 0, none⟩ = some (.string c) := by simp [World.cell?, q1]
        obtain ⟨X, hX⟩ : ∃ X, Aside (W3.heap.size = X) := ⟨_, rfl⟩
        clear q0 q1 hW3 hen hs3
        have hpn : ps.length + 1 ≤ n := by have := H2.out.2.1; omega
        have hbs : r + 1 ≤ W3.heap.size := H2.out.1.lt
        obtain ⟨va, vc, rfl⟩ := rowIs H2.out.2.2.2.1
        go_wp2_with (at_builtin; refine wpList_append_own _ rfl _ _ 43 rfl (r + 1) 52 i0 _ 3 40 Tryd.underlying43 hi hz0 hz1 hz2 rfl (by omega) _ _ _ rfl (H2.out.2.2.2.1.alloc _) ⟨W3.heap.size, 0, none⟩ 1 1 (cellsM (a, nm, c)) rfl rfl (lit_cellsM W3 a nm c) (cellsM_one _) (by simp only [maxLen]; omega) (by omega) (by simp; omega) ?_)
        intro v2 u2 hown hgrow hnil
        clear hnil f0 f1 f2
        have hrow : ∀ g, (Value.slice va ps.length vc).ownBlock = some g → r + 1 ≤ g := fun g hg => (H2.out.2.2.2.1.lt g hg).1
        have hbm := H0.out.2.2.2.2
        have hr1 := hr0.out
        have h5 := H2.out.2.2.2.2.1
        have hrg4 : u2.ranges Tryd.prog 60 mrkR bm r n D (fun z => left z && !z.sameKey (klit (a, nm))) cnt2 := (H2.out.1.alloc _).kept hgrow (fun e => by have := hrow bm e.symm; omega) (fun e => by have := hrow r e.symm; omega)
        have R4 : Aside (u2.ranges Tryd.prog 60 mrkR bm r n D (fun z => left z && !z.sameKey (klit (a, nm))) cnt2 ∧ (ps ++ [(a, nm, c)]).length + cnt2 ≤ n ∧ CollM f (fun z => left z && !z.sameKey (klit (a, nm))) (ps ++ [(a, nm, c)]) ∧ u2.ownsRow (r + 1) 52 3 v2 (ps ++ [(a, nm, c)]).length (flat cellsM (ps ++ [(a, nm, c)])) ∧ Below w.heap.size w u2 ∧ r < u2.heap.size) := by
          refine ⟨hrg4, by have := H2.out.2.1; simp; omega, H2.out.2.2.1, ?_, (h5.alloc h5.size _).grown hgrow (by have := h5.size; simp; omega) (fun k hk => by have := hrow k hk; omega), hrg4.lt⟩
          rw [List.length_append, flat_append]
          simpa [flat] using hown
        have hm : u2.rangeLeft bm r < u.rangeLeft bm r := by rw [hrg4.left_eq, hrg.left_eq]; exact H2.out.2.2.2.2.2
        clear hown hgrow hrow hrg4 h5 hr1 hbm
        go_wp2
        exact ⟨⟨_, _, _, _, rfl, R4⟩, hm⟩
end Go.Proofs.YtfpmmgboodcfiaaDoor
