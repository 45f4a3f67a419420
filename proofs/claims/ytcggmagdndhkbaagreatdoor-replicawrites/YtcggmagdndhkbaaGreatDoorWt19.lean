import Derived.Test.YtcggmagdndhkbaaGreatDoorWt04
import Derived.Test.YtcggmagdndhkbaaGreatDoorWt05
import Derived.Test.YtcggmagdndhkbaaGreatDoorWt06
import Derived.Test.YtcggmagdndhkbaaGreatDoorWt08
import Derived.Test.YtcggmagdndhkbaaGreatDoorWt16
import Derived.Test.YtcggmagdndhkbaaGreatDoorWt17
import Derived.Test.YtcggmagdndhkbaaGreatDoorWt18
import Derived.Lib.LaidTab
import Derived.Shelf.LaysM
import Derived.Shelf.Sort.Plain
import Derived.Shelf.Slices.In.SortNone
import Derived.Test.YtcggmagdndhkbaaGreatDoorProg
section
set_option linter.unusedVariables false
namespace Go.Proofs.YtcggmagdndhkbaaGreatDoor
open Go.RowKit
open scoped Classical
structure Kept (c : Nat → Nat) (i : Nat) (w : World) (c' : Nat → Nat) (w' : World) : Prop where
  block : ∀ k, k < w.heap.size → c k = i → w'.heap[k]? = w.heap[k]?
  hue : ∀ k, k < w.heap.size → c' k = c k
def hueOf (nd : Int) : Nat := 20 + nd.toNat
def RepCell (w : World) (br : Nat) (T by_ : Int) (kv : Nat → Value) (bt bx bc : Nat) : Prop := w.heap[br]? = some (.cells #[.int .i64 T, .int .i64 by_, kv 0, kv 1, kv 2, kv 3, .pointer (some ⟨bt, 0, none⟩), .map (some bx), .pointer (some ⟨bc, 0, none⟩)] 84 (0, 0))
theorem RepCell.lt {w : World} {br : Nat} {T by_ : Int} {kv : Nat → Value} {bt bx bc : Nat} (h : RepCell w br T by_ kv bt bx bc) : br < w.heap.size := (Array.getElem?_eq_some_iff.1 h).1
theorem RepCell.same {w w' : World} {br : Nat} {T by_ : Int} {kv : Nat → Value} {bt bx bc : Nat} (h : RepCell w br T by_ kv bt bx bc) (e : w'.heap[br]? = w.heap[br]?) : RepCell w' br T by_ kv bt bx bc := e.trans h
theorem RepCell.c0 {w : World} {br : Nat} {T by_ : Int} {kv : Nat → Value} {bt bx bc : Nat} (h : RepCell w br T by_ kv bt bx bc) : w.cell? ⟨br, 0, none⟩ = some (.int .i64 T) := by unfold RepCell at h; simp [World.cell?, h]
theorem RepCell.c1 {w : World} {br : Nat} {T by_ : Int} {kv : Nat → Value} {bt bx bc : Nat} (h : RepCell w br T by_ kv bt bx bc) : w.cell? ⟨br, 1, none⟩ = some (.int .i64 by_) := by unfold RepCell at h; simp [World.cell?, h]
theorem RepCell.c2 {w : World} {br : Nat} {T by_ : Int} {kv : Nat → Value} {bt bx bc : Nat} (h : RepCell w br T by_ kv bt bx bc) : w.cell? ⟨br, 2, none⟩ = some (kv 0) := by unfold RepCell at h; simp [World.cell?, h]
theorem RepCell.c3 {w : World} {br : Nat} {T by_ : Int} {kv : Nat → Value} {bt bx bc : Nat} (h : RepCell w br T by_ kv bt bx bc) : w.cell? ⟨br, 3, none⟩ = some (kv 1) := by unfold RepCell at h; simp [World.cell?, h]
theorem RepCell.c4 {w : World} {br : Nat} {T by_ : Int} {kv : Nat → Value} {bt bx bc : Nat} (h : RepCell w br T by_ kv bt bx bc) : w.cell? ⟨br, 4, none⟩ = some (kv 2) := by unfold RepCell at h; simp [World.cell?, h]
theorem RepCell.c5 {w : World} {br : Nat} {T by_ : Int} {kv : Nat → Value} {bt bx bc : Nat} (h : RepCell w br T by_ kv bt bx bc) : w.cell? ⟨br, 5, none⟩ = some (kv 3) := by unfold RepCell at h; simp [World.cell?, h]
theorem RepCell.c6 {w : World} {br : Nat} {T by_ : Int} {kv : Nat → Value} {bt bx bc : Nat} (h : RepCell w br T by_ kv bt bx bc) : w.cell? ⟨br, 6, none⟩ = some (.pointer (some ⟨bt, 0, none⟩)) := by unfold RepCell at h; simp [World.cell?, h]
theorem RepCell.c7 {w : World} {br : Nat} {T by_ : Int} {kv : Nat → Value} {bt bx bc : Nat} (h : RepCell w br T by_ kv bt bx bc) : w.cell? ⟨br, 7, none⟩ = some (.map (some bx)) := by unfold RepCell at h; simp [World.cell?, h]
theorem RepCell.c8 {w : World} {br : Nat} {T by_ : Int} {kv : Nat → Value} {bt bx bc : Nat} (h : RepCell w br T by_ kv bt bx bc) : w.cell? ⟨br, 8, none⟩ = some (.pointer (some ⟨bc, 0, none⟩)) := by unfold RepCell at h; simp [World.cell?, h]
theorem RepCell.fz {w : World} {br : Nat} {T by_ : Int} {kv : Nat → Value} {bt bx bc : Nat} (h : RepCell w br T by_ kv bt bx bc) (o : Nat) : w.frozen? ⟨br, o, none⟩ = false := by unfold RepCell at h; simp [World.frozen?, h]
def RowsAt (w : World) (c : Nat → Nat) (kv : Nat → Value) (R : Rws) : Prop := ∀ i, i < 4 → w.ownsRow 0 31 8 (kv i) (R i).length (cellsOf (R i)) ∧ ∀ g, (kv i).ownBlock = some g → c g = 10 + i
theorem RowsAt.one {w w' : World} {c c' : Nat → Nat} {kv : Nat → Value} {R : Rws} (h : RowsAt w c kv R) {i : Nat} (hi : i < 4) (hk : Kept c (10 + i) w c' w') : w'.ownsRow 0 31 8 (kv i) (R i).length (cellsOf (R i)) ∧ ∀ g, (kv i).ownBlock = some g → c' g = 10 + i := by
  obtain ⟨h1, h2⟩ := h i hi
  refine ⟨owns_same h1 (fun g hg => hk.block g (h1.lt g hg).2 (h2 g hg)), fun g hg => ?_⟩
  rw [hk.hue g (h1.lt g hg).2]
  exact h2 g hg
theorem RowsAt.kept {w w' : World} {c c' : Nat → Nat} {kv : Nat → Value} {R : Rws} (h : RowsAt w c kv R) (hk : ∀ i, i < 4 → Kept c (10 + i) w c' w') : RowsAt w' c' kv R := fun i hi => h.one hi (hk i hi)
theorem RowsAt.ops {w : World} {c : Nat → Nat} {kv : Nat → Value} {R : Rws} (h : RowsAt w c kv R) {i : Nat} (hi : i < 4) : OpsAt w (kv i) (R i) := ownsOps (h i hi).1
def TreeC (w : World) (c : Nat → Nat) (bt : Nat) (A : List OpX) : Prop := ∃ bm v ms, TreeAt 0 w bt bm v ms ∧ ms.Perm (movsO A) ∧ c bt = 2 ∧ c bm = 2 ∧ ∀ g, v.ownBlock = some g → c g = 2
theorem TreeC.kept {w w' : World} {c c' : Nat → Nat} {bt : Nat} {A : List OpX} (h : TreeC w c bt A) (hk : Kept c 2 w c' w') : TreeC w' c' bt A := by
  obtain ⟨bm, v, ms, h1, h2, h3, h4, h5⟩ := h
  obtain ⟨l1, l2, l3⟩ := h1.lt
  exact ⟨bm, v, ms, h1.same (hk.block _ l1 h3) (hk.block _ l2 h4) (fun g hg => hk.block g (l3 g hg) (h5 g hg)), h2, (hk.hue _ l1).trans h3, (hk.hue _ l2).trans h4, fun g hg => (hk.hue g (l3 g hg)).trans (h5 g hg)⟩
def LineC (w : World) (c : Nat → Nat) (p : Nat) (nd : Int) (A : List OpX) : Prop := ∃ v L, LineAt (p + 1) w p v L ∧ LineIs A nd L ∧ c p = hueOf nd ∧ ∀ g, v.ownBlock = some g → c g = hueOf nd
theorem LineAt.kin {base : Nat} {w : World} {p : Nat} {v : Value} {L : List Ltr} (h : LineAt base w p v L) {g : Nat} (hg : v.ownBlock = some g) : g < w.heap.size := (h.row.lt g hg).2
theorem LineC.kept {w w' : World} {c c' : Nat → Nat} {p : Nat} {nd : Int} {A : List OpX} (h : LineC w c p nd A) (hk : Kept c (hueOf nd) w c' w') : LineC w' c' p nd A := by
  obtain ⟨v, L, h1, h2, h3, h4⟩ := h
  refine ⟨v, L, ⟨(hk.block p h1.lt h3).trans h1.cell, ownsSame h1.row (fun g hg => hk.block g (h1.kin hg) (h4 g hg)), h1.low, h1.nodup, h1.pos, h1.small⟩, h2, (hk.hue _ h1.lt).trans h3, fun g hg => (hk.hue g (h1.kin hg)).trans (h4 g hg)⟩
def TextC (w : World) (c : Nat → Nat) (bx : Nat) (A : List OpX) : Prop := ∃ n tx, n ≤ A.length ∧ TMapAt w bx n tx ∧ c bx = 3 ∧ (∀ nd, (tx nd).isSome = true ↔ KnownN A nd) ∧ ∀ nd p, tx nd = some p → LineC w c p nd A
theorem TextC.kept {w w' : World} {c c' : Nat → Nat} {bx : Nat} {A : List OpX} (h : TextC w c bx A) (hk : Kept c 3 w c' w') (hl : ∀ nd, KnownN A nd → Kept c (hueOf nd) w c' w') : TextC w' c' bx A := by
  obtain ⟨n, tx, h1, h2, h3, h4, h5⟩ := h
  exact ⟨n, tx, h1, h2.same (hk.block _ h2.lt h3), (hk.hue _ h2.lt).trans h3, h4, fun nd p hp => (h5 nd p hp).kept (hl nd ((h4 nd).1 (by rw [hp]; rfl)))⟩
def CellC (w : World) (c : Nat → Nat) (bc : Nat) (A : List OpX) : Prop := ∃ cm A', CellsAt w bc cm A.length (madeO A') ∧ A'.Perm A ∧ c bc = 4 ∧ c cm = 4
theorem CellC.kept {w w' : World} {c c' : Nat → Nat} {bc : Nat} {A : List OpX} (h : CellC w c bc A) (hk : Kept c 4 w c' w') : CellC w' c' bc A := by
  obtain ⟨cm, A', h1, h2, h3, h4⟩ := h
  exact ⟨cm, A', h1.same (hk.block _ h1.lt.1 h3) (hk.block _ h1.lt.2 h4), h2, (hk.hue _ h1.lt.1).trans h3, (hk.hue _ h1.lt.2).trans h4⟩
structure RepMid (w : World) (c : Nat → Nat) (br : Nat) (T by_ : Int) (kv : Nat → Value) (bt bx bc : Nat) (R : Rws) (A : List OpX) : Prop where
  cell : RepCell w br T by_ kv bt bx bc
  hue : c br = 1
  rows : RowsAt w c kv R
  tree : TreeC w c bt A
  text : TextC w c bx A
  marks : CellC w c bc A
  time : timeO A T
theorem RepMid.kept {w w' : World} {c c' : Nat → Nat} {br : Nat} {T by_ : Int} {kv : Nat → Value} {bt bx bc : Nat} {R : Rws} {A : List OpX} (h : RepMid w c br T by_ kv bt bx bc R A) (hk : ∀ i, i ≠ 0 → Kept c i w c' w') : RepMid w' c' br T by_ kv bt bx bc R A := by
  have k1 := hk 1 (by omega)
  exact ⟨h.cell.same (k1.block _ h.cell.lt h.hue), (k1.hue _ h.cell.lt).trans h.hue, h.rows.kept (fun i _ => hk _ (by omega)), h.tree.kept (hk 2 (by omega)), h.text.kept (hk 3 (by omega)) (fun nd _ => hk _ (by unfold hueOf; omega)), h.marks.kept (hk 4 (by omega)), h.time⟩
theorem RepMid.later {w w' : World} {c : Nat → Nat} {br : Nat} {T by_ : Int} {kv : Nat → Value} {bt bx bc : Nat} {R : Rws} {A : List OpX} (h : RepMid w c br T by_ kv bt bx bc R A) (hb : Below w.heap.size w w') : RepMid w' c br T by_ kv bt bx bc R A :=
  h.kept (fun i _ => ⟨fun k hk _ => hb.block k hk, fun k _ => rfl⟩)
def RepAt (w : World) (c : Nat → Nat) (br : Nat) (by_ : Int) (R : Rws) : Prop := ∃ T kv bt bx bc A, RepMid w c br T by_ kv bt bx bc R A ∧ A.Perm (allR R) ∧ RowsK R ∧ 0 ≤ by_ ∧ by_ < 4
theorem RepAt.kept {w w' : World} {c c' : Nat → Nat} {br : Nat} {by_ : Int} {R : Rws} (h : RepAt w c br by_ R) (hk : ∀ i, i ≠ 0 → Kept c i w c' w') : RepAt w' c' br by_ R := by
  obtain ⟨T, kv, bt, bx, bc, A, h1, h2⟩ := h
  exact ⟨T, kv, bt, bx, bc, A, h1.kept hk, h2⟩
theorem RepAt.later {w w' : World} {c : Nat → Nat} {br : Nat} {by_ : Int} {R : Rws} (h : RepAt w c br by_ R) (hb : Below w.heap.size w w') : RepAt w' c br by_ R :=
  h.kept (fun i _ => ⟨fun k hk _ => hb.block k hk, fun k _ => rfl⟩)
structure Acts (w : World) (c : Nat → Nat) (w' : World) (c' : Nat → Nat) : Prop where
  keeps : Keeps (fun k => c k ≠ 0) w w'
  hue : ∀ k, k < w.heap.size → c' k = c k
theorem Acts.of_below {w w' : World} (c : Nat → Nat) (hb : Below w.heap.size w w') : Acts w c w' c := ⟨(keeps_of_below hb).mono (fun k hk e => absurd hk (by omega)), fun _ _ => rfl⟩
theorem Acts.trans {w w1 w2 : World} {c c1 c2 : Nat → Nat} (h : Acts w c w1 c1) (k : Acts w1 c1 w2 c2) : Acts w c w2 c2 :=
  ⟨h.keeps.then k.keeps (fun i hi e => by rw [h.hue i hi] at e; exact e), fun i hi => (k.hue i (Nat.lt_of_lt_of_le hi h.keeps.size)).trans (h.hue i hi)⟩
end Go.Proofs.YtcggmagdndhkbaaGreatDoor
end
section
set_option linter.unusedVariables false
namespace Go.Proofs.YtcggmagdndhkbaaGreatDoor
open Go.RowKit Go.Shelf Go.Maps
theorem append_in {P : Program} (w : World) (base : Nat) (t ty e : TypeId) (i : TypeInfo) (z : Value) (size bytes : Nat) (ht : P.underlying t = some (.slice e)) (hi : P.info? e = some i) (hz : i.zero = some z)
    (hsize : i.size = size) (hby : i.bytes = bytes) (hzs : z.cells.size = size) (hsz : 0 < size)
    (v : Value) (n : Nat) (xs : List Value) (hown : w.ownsRow base e size v n xs)
    (a : Addr) (m c : Nat) (hm0 : 0 < m) (news : List Value) (hl : news.length = m * size) (hnews : ∀ j u, news[j]? = some u → w.cell? (a.add j) = some u) (h1 : ∀ u ∈ news, u.oneCell' = true)
    (h63 : n + m ≤ maxLen) (hbytes : (n + m) * bytes ≤ 140737488355328) (hbase : base ≤ w.heap.size) :
    ∃ v' w', (Builtin.append_ #[t, t] ty #[v, .slice (some a) m c]).run P w = .ok v' w' ∧ w'.ownsRow base e size v' (n + m) (xs ++ news) ∧ w.grownBy w' v.ownBlock ∧
      ((∃ g cap, v = .slice (some ⟨g, 0, none⟩) n cap ∧ v' = .slice (some ⟨g, 0, none⟩) (n + m) cap) ∨ (v'.ownBlock = some w.heap.size ∧ w.grownBy w' none)) := by
  obtain ⟨v', w', hrun, h', hg', -⟩ := run_append_own (P := P) w base t ty e i z size bytes ht hi hz hsize hby hzs hsz v n xs hown a m c news hl hnews h1 h63 hbytes hbase
  refine ⟨v', w', hrun, h', hg', ?_⟩
  subst hsize
  subst hby
  have hsmall : n + m ≤ 9223372036854775807 := by simp only [maxLen] at h63; omega
  rcases hown.2 with ⟨rfl, rfl⟩ | ⟨g, cap, cur, rfl, hbg, hg, hnc, hcm, hcs, htake⟩
  · have hr := run_append_nil (P := P) w t ty e i z ht hi hz a m c news hl hnews (by omega) (by omega) (by have hb := hbytes; simp only [Nat.zero_add] at hb; omega)
    rw [hr] at hrun
    simp only [Result.ok.injEq] at hrun
    right
    rw [← hrun.1, ← hrun.2]
    exact ⟨rfl, rfl, rfl, rfl, by simp, fun k hk _ => Below.heap_alloc w.drew _ k hk⟩
  · by_cases hroom : n + m ≤ cap
    · have hfit : n * i.size + news.length ≤ cur.size := by rw [hl, hcs, ← Nat.add_mul]; exact Nat.mul_le_mul_right _ hroom
      have hr := run_append_room (P := P) w t ty e i ht hi g n cap cur hg a m c news hl hnews h1 hroom hfit
      rw [hr] at hrun
      simp only [Result.ok.injEq] at hrun
      exact .inl ⟨g, cap, rfl, hrun.1.symm⟩
    · have holds : ∀ j u, xs[j]? = some u → w.cell? ((⟨g, 0, none⟩ : Addr).add j) = some u := hown.cells (g := g) rfl
      have hr := run_append_grow (P := P) w t ty e i z ht hi hz ⟨g, 0, none⟩ n cap xs hown.1 holds a m c news hl hnews (by omega) (by omega) (growslice_fits (by omega) hbytes)
      rw [hr] at hrun
      simp only [Result.ok.injEq] at hrun
      right
      rw [← hrun.1, ← hrun.2]
      exact ⟨rfl, rfl, rfl, rfl, by simp, fun k hk _ => Below.heap_alloc w.drew _ k hk⟩
theorem owns_prefix {w : World} {base g cap n m : Nat} {xs ys : List OpX} (h : w.ownsRow base 31 8 (.slice (some ⟨g, 0, none⟩) m cap) m (cellsOf (xs ++ ys))) (hn : n = xs.length) (hm : m = n + ys.length) : w.ownsRow base 31 8 (.slice (some ⟨g, 0, none⟩) n cap) n (cellsOf xs) := by
  refine ⟨by rw [cellsOf_len, hn], .inr ?_⟩
  rcases h.2 with ⟨h1, _⟩ | ⟨g', cap', cur, e, h1, h2, h3, h4, h5, h6⟩
  · cases h1
  · cases e
    refine ⟨g, cap, cur, rfl, h1, h2, by omega, h4, h5, ?_⟩
    have := congrArg (List.take (n * 8)) h6
    rw [List.take_take, Nat.min_eq_left (by omega), cellsOf_app, List.take_append_of_le_length (by rw [cellsOf_len]; omega)] at this
    rw [this, List.take_of_length_le (by rw [cellsOf_len]; omega)]
set_option maxHeartbeats 1000000 in
theorem sortedNum_any (w : World) (Bs g off cap : Nat) (ao : Option Addr) (L : List OpX) (hlen : L.length ≤ 1000) (hao : L = [] ∨ ao = some ⟨g, off, none⟩) (hBs : Bs < w.heap.size) (hg : g < w.heap.size) (hc : w.cell? ⟨Bs, 0, none⟩ = some (.slice ao L.length cap)) (hI : OpsRow w g off L) :
    Calls Tryz.prog 110 #[.func (.func 177) #[] #[.pointer (some ⟨Bs, 0, none⟩)], .func (.func 112) #[] #[]] w fun e w' => ∃ fa fc qs, e = .returned (.slice fa L.length fc) ∧ qs.Perm L ∧ qs.Pairwise (fun a b => numO a ≤ numO b) ∧ OpsIn w' fa qs ∧ (∀ a, fa = some a → w.heap.size ≤ a.block) ∧ Below w.heap.size w w' := by
  have hcl := collectOps_any w Bs g off cap ao L hlen hao hBs hg hc hI
  go_enter Tryz.func110, Tryz.ntmps110
  go_wp2_with fail
  refine hcl.mono ?_
  clear hcl
  rintro e w1 ⟨v, rfl, hown, hb⟩
  rcases hown.2 with ⟨rfl, h0⟩ | ⟨g', cap', cur, rfl, hbg, -⟩
  · have hps : L = [] := List.length_eq_zero_iff.1 h0
    have HB : Aside (Below w.heap.size w w1 ∧ L = []) := ⟨hb, hps⟩
    clear hown hb hps h0
    go_wp2_with (go_at_call 176; refine (sortNm_none none 0 _ _).mono ?_; rintro e w' ⟨rfl, rfl⟩)
    go_ret
    exact ⟨none, 0, [], by rw [HB.out.2]; rfl, by rw [HB.out.2], List.Pairwise.nil, .inl rfl, fun a e => absurd e (by simp), HB.out.1⟩
  · have hs := sortNm w1 w.heap.size g' cap' L hown (by omega)
    have hgl := (hown.lt g' rfl).2
    have HH : Aside (Below w.heap.size w w1 ∧ w.heap.size ≤ g' ∧ g' < w1.heap.size) := ⟨hb, hbg, hgl⟩
    clear hown hb hbg hgl
    go_wp2_with fail
    refine hs.mono ?_
    clear hs
    rintro e w2 ⟨rfl, qs, hp, hpw, hcells, hk⟩
    have H2 : Aside (qs.Perm L ∧ qs.Pairwise (fun a b => numO a ≤ numO b) ∧ OpsIn w2 (some ⟨g', 0, none⟩) qs ∧ Below w.heap.size w w2) := ⟨hp, hpw, .inr ⟨g', 0, rfl, fun j u hj => by rw [Nat.zero_add]; exact hcells j u hj⟩, HH.out.1.trans (hk.below HH.out.1.size (fun k e => by have := HH.out.2.1; omega))⟩
    clear hp hpw hcells hk
    go_wp2
    go_ret
    exact ⟨_, _, qs, rfl, H2.out.1, H2.out.2.1, H2.out.2.2.1, fun a e => by cases e; exact HH.out.2.1, H2.out.2.2.2⟩
theorem FreshK.perm {S F G : List OpX} (h : FreshK S F) (e : G.Perm F) : FreshK S G :=
  ⟨fun x hx => h.ok x (e.mem_iff.1 hx), fun x hx => h.off x (e.mem_iff.1 hx), (e.pairwise_iff (fun {a b} h q => h ⟨q.1.symm, q.2.symm⟩)).2 h.one⟩
end Go.Proofs.YtcggmagdndhkbaaGreatDoor
end
section
set_option linter.unusedVariables false
set_option linter.unusedSimpArgs false
namespace Go.Proofs.YtcggmagdndhkbaaGreatDoor
open Go.RowKit Go.Shelf Go.Maps
section
variable {P : Program} {ops : Array Oper} {Q : Exit → Act → World → Prop} {md : Region.Mode} {S : World → Prop} {z : Nat}
theorem wpAnyZ_past {i : Nat} {o : Oper} {fuel : Nat} {listed : Array Bool} {a : Act} {w : World} (hr : Region.ready md ops listed = [i]) (ho : ops[i]? = some o) (hz : listed.getD z false = true)
    (h : ∀ K : Act → World → Prop, (∀ a' w', wpAnyZ P md ops Q S z fuel (listed.setIfInBounds i true) a' w' → K a' w') → if Region.wanted o (yielded ops a.tmps) = true then Oper.wp P o a w K Q else K (a.put o.dst undef) w) : wpAnyZ P md ops Q S z (fuel + 1) listed a w := by
  refine ⟨fun h0 => (by rw [h0] at hr; cases hr), fun j hj => ?_⟩
  rw [hr] at hj
  simp only [List.mem_singleton] at hj
  subst hj
  have := h (fun a' w' => (S w' ∨ (listed.setIfInBounds j true).getD z false = true) ∧ wpAnyZ P md ops Q S z fuel (listed.setIfInBounds j true) a' w') (fun a' w' h2 => ⟨.inr (getD_set_some hz), h2⟩)
  unfold wpOp
  simp only [ho]
  split
  · rename_i hw
    rw [if_pos hw] at this
    exact .inl this
  · rename_i hw
    rw [if_neg hw] at this
    exact this
end
theorem infoStr : (Tryz.prog.info? 9).map (fun i => (i.zero, i.size, i.bytes)) = some (some (.string ⟨#[]⟩), 1, 16) := by kernel_rfl
def strsV (ls : List (List UInt8)) : List Value := ls.map fun l => .string ⟨l.toArray⟩
theorem strsV_app (a b : List (List UInt8)) : strsV (a ++ b) = strsV a ++ strsV b := List.map_append
structure TellSt (b : Nat) (ls : List (List UInt8)) (v : Value) (w : World) : Prop where
  box : Boxed w b 123 v
  row : w.ownsRow (b + 1) 9 1 v ls.length (strsV ls)
theorem TellSt.lt {b : Nat} {ls : List (List UInt8)} {v : Value} {w : World} (h : TellSt b ls v w) : b < w.heap.size := (Array.getElem?_eq_some_iff.1 h.box).1
theorem TellSt.later {b : Nat} {ls : List (List UInt8)} {v : Value} {w w' : World} (h : TellSt b ls v w) (hb : Below w.heap.size w w') : TellSt b ls v w' :=
  ⟨(hb.block b h.lt).trans h.box, ownsHeld h.row (fun g hg => hb.block g (h.row.lt g hg).2)⟩
def TellOut (b : Nat) (line : List UInt8) (ls : List (List UInt8)) (v : Value) (w : World) (e : Ending) (w' : World) : Prop :=
  ∃ v', e = .returned (.tuple #[]) ∧ TellSt b (ls ++ [line]) v' w' ∧ Keeps (fun k => k = b ∨ v.ownBlock = some k) w w' ∧ ∀ k, v'.ownBlock = some k → v.ownBlock = some k ∨ w.heap.size ≤ k
theorem tell_close {b : Nat} {ls : List (List UInt8)} {v : Value} {w u : World} (h : TellSt b ls v w) (hb : Below w.heap.size w u) (line : List UInt8) (hls : ls.length ≤ 1000000) :
    ∃ g cap w', (Builtin.append_ #[123, 123] 123 #[v, .slice (some ⟨u.heap.size, 0, none⟩) 1 1]).run Tryz.prog (u.alloc (.cells #[.string ⟨line.toArray⟩] 9)) = .ok (.slice (some ⟨g, 0, none⟩) (ls.length + 1) cap) w' ∧
      w'.cell? ⟨b, 0, none⟩ = some v ∧ w'.frozen? ⟨b, 0, none⟩ = false ∧ TellOut b line ls v w (.returned (.tuple #[])) (w'.setCell ⟨b, 0, none⟩ (.slice (some ⟨g, 0, none⟩) (ls.length + 1) cap)) := by
  obtain ⟨i0, hi, hz0, hz1, hz2⟩ := info_parts infoStr
  have hu := h.later hb
  have hlt := hu.lt
  obtain ⟨v', w', hrun, hown, hgrow, hcase⟩ := append_in (P := Tryz.prog) (u.alloc (.cells #[.string ⟨line.toArray⟩] 9)) (b + 1) 123 123 9 i0 _ 1 16 Tryz.underlying123 hi hz0 hz1 hz2 rfl (by omega) v ls.length (strsV ls) (hu.row.alloc _) ⟨u.heap.size, 0, none⟩ 1 1 (by omega) [.string ⟨line.toArray⟩] rfl
    (World.news_of_block (cs := #[.string ⟨line.toArray⟩]) (t := 9) (fr := (0, 0)) (heap_alloc_new u _)) (by simp [Value.oneCell']) (by simp only [maxLen]; omega) (by omega) (by rw [World.size_alloc]; omega)
  obtain ⟨g, cap, rfl⟩ := ownsRow_succ hown
  have hvb : ∀ k, v.ownBlock = some k → b + 1 ≤ k ∧ k < w.heap.size := fun k hk => h.row.lt k hk
  have hK1 : Keeps (fun k => v.ownBlock = some k) u w' := (((Keeps.refl (fun k => v.ownBlock = some k) u).alloc _).trans ((keeps_of_grown hgrow).mono (fun k _ hk => by rw [← hk])))
  have hK2 : Keeps (fun k => v.ownBlock = some k) w w' := ((keeps_of_below hb).mono (fun k hk hle => absurd hk (by omega))).trans hK1
  have hbb : w'.heap[b]? = u.heap[b]? := hK1.block b hlt (fun e => by have := (hvb b e).1; omega)
  have hbox : Boxed w' b 123 v := hbb.trans hu.box
  refine ⟨g, cap, w', hrun, hbox.cell, hbox.frozen, .slice (some ⟨g, 0, none⟩) (ls.length + 1) cap, rfl, ⟨?_, ?_⟩, ?_, ?_⟩
  · exact heap_setCell_same w' b 0 _ _ _ hbox
  · rw [List.length_append, List.length_singleton, strsV_app]
    refine ownsHeld hown (fun k hk => ?_)
    have hkb := (hown.lt k hk).1
    exact Below.heap_setCell _ _ _ k (by show k ≠ b; omega)
  · exact ⟨hK2.os, hK2.tape, hK2.output, by simpa using hK2.size, fun k hk hn => by
      rw [Below.heap_setCell _ _ _ k (show k ≠ b from fun e => hn (.inl e))]
      exact hK2.block k hk (fun e => hn (.inr e))⟩
  · intro k hk
    rcases hcase with ⟨g1, c1, e1, e2⟩ | ⟨e1, _⟩
    · cases e2
      subst e1
      exact .inl hk
    · rw [hk] at e1
      cases e1
      exact .inr (by have := hb.size; simp; omega)
theorem line_bytes (nd : Int) (ws : List (List UInt8)) : (⟨(Lib.itoa nd).toArray⟩ : ByteArray) ++ ⟨#[32]⟩ ++ ⟨(Lib.join ws [32]).toArray⟩ = ⟨(lineB nd ws).toArray⟩ := by
  apply ByteArray.ext
  simp [lineB]
set_option maxRecDepth 100000 in
set_option maxHeartbeats 4000000 in
theorem tell_any (w : World) (b : Nat) (nd : Int) (wb c : Nat) (ws : List ByteArray) (ls : List (List UInt8)) (v : Value) (hst : TellSt b ls v w) (hw : ∀ (j : Nat) x, ws[j]? = some x → w.cell? ⟨wb, 0 + j, none⟩ = some (.string x)) (hwb : wb < w.heap.size) (hwc : ws.length ≤ c) (hws : ws.length ≤ 10)
    (htab : Lib.TabIs Tryz.prog w "internal/strconv.uint64pow10" .u64 Lib.pow10Tab) (h0 : -9223372036854775808 ≤ nd) (h1 : nd ≤ 9223372036854775807) (hlen : (Lib.join (ws.map (·.data.toList)) [32]).length ≤ 100000) (hls : ls.length ≤ 1000000) :
    Calls Tryz.prog 63 #[.int .i64 nd, .slice (some ⟨wb, 0, none⟩) ws.length c, .pointer (some ⟨b, 0, none⟩)] w (TellOut b (lineB nd (ws.map (·.data.toList))) ls v w) := by
  have HT : Aside (Lib.TabBelow Tryz.prog w.heap.size w "internal/strconv.uint64pow10" .u64 Lib.pow10Tab) := Lib.tabBelow_of_tabIs htab
  have itoaU : ∀ u, Below w.heap.size w u → Calls Tryz.prog 64 #[.int .i64 nd] u fun e w' => e = .returned (.string ⟨(Lib.itoa nd).toArray⟩) ∧ Below u.heap.size u w' := fun u hu => itoa_any nd h0 h1 u (HT.out u hu)
  have joinU : ∀ u, Below w.heap.size w u → Calls Tryz.prog 65 #[.slice (some ⟨wb, 0, none⟩) ws.length c, .string ⟨#[32]⟩] u fun e w' => e = .returned (.string ⟨(Lib.join (ws.map (·.data.toList)) [32]).toArray⟩) ∧ Below u.heap.size u w' := fun u hu =>
    Tryz.strings_Join wb 0 c ws ⟨#[32]⟩ u (fun j x hj => (hu.cell (p := ⟨wb, 0 + j, none⟩) hwb).trans (hw j x hj)) (Nat.lt_of_lt_of_le hwb hu.size) (by omega) hwc (by show (Lib.join _ [32]).length ≤ _; omega)
  have HI : Aside (∀ u, Below w.heap.size w u → Calls Tryz.prog 64 #[.int .i64 nd] u fun e w' => e = .returned (.string ⟨(Lib.itoa nd).toArray⟩) ∧ Below u.heap.size u w') := itoaU
  have HJ : Aside (∀ u, Below w.heap.size w u → Calls Tryz.prog 65 #[.slice (some ⟨wb, 0, none⟩) ws.length c, .string ⟨#[32]⟩] u fun e w' => e = .returned (.string ⟨(Lib.join (ws.map (·.data.toList)) [32]).toArray⟩) ∧ Below u.heap.size u w') := joinU
  have HS : Aside (TellSt b ls v w) := hst
  have HB0 : Aside (Below w.heap.size w w.drew) := (Below.refl _ w).drew
  have hS0 : w.drew.cell? ⟨b, 0, none⟩ = some v := (hst.later HB0.out).box.cell
  have hLB := line_bytes nd (ws.map (·.data.toList))
  have hIL : (Lib.itoa nd).length ≤ 1000 := by have := Lib.itoa_length_le nd h0 h1; omega
  obtain ⟨jn, hjn⟩ : ∃ jn, jn = Lib.join (ws.map (·.data.toList)) [32] := ⟨_, rfl⟩
  rw [← hjn] at HJ hLB hlen
  obtain ⟨line, hline⟩ : ∃ line, line = lineB nd (ws.map (·.data.toList)) := ⟨_, rfl⟩
  rw [← hline] at hLB ⊢
  obtain ⟨it, hit⟩ : ∃ it, it = Lib.itoa nd := ⟨_, rfl⟩
  rw [← hit] at HI hLB hIL
  obtain ⟨sl, hsl⟩ : ∃ sl : Nat, sl = ws.length := ⟨_, rfl⟩
  rw [← hsl] at HJ ⊢
  have n1 : ¬ 9223372036854775807 < it.length + 1 := by omega
  have n2 : ¬ 9223372036854775807 < it.length + 1 + jn.length := by omega
  clear itoaU joinU hst hw hwb hwc hws htab h0 h1 hlen hjn hline hit hsl HT hIL
  go_enter Tryz.func63, Tryz.ntmps63
  go_upto_region 0 with fail
  refine wp_region_Z (S := fun w' => w'.cell? ⟨b, 0, none⟩ = some v) (z := 8) (by kernel_rfl) hS0 (fun hHeld => ?_)
  refine wpAnyZ_take (i := 0) (v := ?v0) (by decide) (by kernel_rfl) rfl (by kernel_rfl) (by kernel_rfl) (by kernel_rfl) (by kernel_rfl) (fun _ _ _ h => h) (Or.inl ⟨by rfl, ?hy0⟩) hHeld ?rest0
  case hy0 => (intro w' hSw; go_simp; try with_reducible rfl)
  try simp only [Act.put, List.setIfInBounds_toArray, List.set_cons_zero, List.set_cons_succ]
  refine wpAnyZ_free (i := 1) (v := ?v1) (by decide) rfl (by kernel_rfl) (by kernel_rfl) (by kernel_rfl) (fun _ _ _ h => h) (Or.inl ⟨by rfl, ?hy1⟩) hHeld ?rest1
  case hy1 => (intro w' _; go_simp; try with_reducible rfl)
  try simp only [Act.put, List.setIfInBounds_toArray, List.set_cons_zero, List.set_cons_succ]
  refine wpAnyZ_free (i := 4) (v := ?v4) (by decide) rfl (by kernel_rfl) (by kernel_rfl) (by kernel_rfl) (fun _ _ _ h => h) (Or.inl ⟨by rfl, ?hy4⟩) hHeld ?rest4
  case hy4 => (intro w' _; go_simp; try with_reducible rfl)
  try simp only [Act.put, List.setIfInBounds_toArray, List.set_cons_zero, List.set_cons_succ]
  refine wpAnyZ_one (i := 2) (by kernel_rfl) rfl (fun K hK => ?_)
  go_simp
  refine (HI.out _ HB0.out).mono ?_
  rintro e w1 ⟨rfl, hb1⟩
  have B1 : Below w.heap.size w w1 := HB0.out.trans (hb1.mono HB0.out.size)
  have hS1 := (HS.out.later B1).box.cell
  refine hK _ _ (.inl hS1) ?_
  clear hK K hb1
  try simp only [Act.put, List.setIfInBounds_toArray, List.set_cons_zero, List.set_cons_succ]
  refine wpAnyZ_free (i := 3) (v := ?v3) (by decide) rfl (by kernel_rfl) (by kernel_rfl) (by kernel_rfl) (fun _ _ _ h => h) (Or.inl ⟨by rfl, ?hy3⟩) hS1 ?rest3
  case hy3 => (intro w' _; go_simp; try with_reducible rfl)
  try simp only [Act.put, List.setIfInBounds_toArray, List.set_cons_zero, List.set_cons_succ]
  refine wpAnyZ_one (i := 5) (by kernel_rfl) rfl (fun K hK => ?_)
  go_simp
  refine (HJ.out _ B1).mono ?_
  rintro e w2 ⟨rfl, hb2⟩
  have B2 : Below w.heap.size w w2 := B1.trans (hb2.mono B1.size)
  have hS2 := (HS.out.later B2).box.cell
  refine hK _ _ (.inl hS2) ?_
  clear hK K hb2
  try simp only [Act.put, List.setIfInBounds_toArray, List.set_cons_zero, List.set_cons_succ]
  obtain ⟨g, cap, w3, hrun, hc3, hf3, hout⟩ := tell_close HS.out B2 line hls
  have HO : Aside _ := hout
  clear hout
  refine wpAnyZ_free (i := 6) (v := ?v6a) (by decide) rfl (by kernel_rfl) (by kernel_rfl) (by kernel_rfl) (fun _ _ _ h => h) (Or.inl ⟨by rfl, ?hy6a⟩) hS2 ?rest6a
  case hy6a => (intro w' _; go_simp; try with_reducible rfl)
  try simp only [Act.put, List.setIfInBounds_toArray, List.set_cons_zero, List.set_cons_succ]
  try rw [hLB]
  refine wpAnyZ_one (i := 7) (by kernel_rfl) rfl (fun K hK => ?_)
  go_simp
  refine hK _ _ (.inl ((HS.out.later (B2.alloc B2.size _)).box.cell)) ?_
  clear hK K
  try simp only [Act.put, List.setIfInBounds_toArray, List.set_cons_zero, List.set_cons_succ]
  refine wpAnyZ_one (i := 8) (by kernel_rfl) rfl (fun K hK => ?_)
  rw [if_pos (by rfl)]
  simp only [List.getElem_toArray, List.getElem_cons_succ, List.getElem_cons_zero]
  refine Lib.wp_append_run _ _ _ _ _ rfl v (.slice (some ⟨w2.heap.size, 0, none⟩) 1 1) rfl rfl _ w3 hrun ?_
  refine hK _ _ (.inr ⟨rfl, by decide⟩) ?_
  clear hK K hrun
  try simp only [Act.put, List.setIfInBounds_toArray, List.set_cons_zero, List.set_cons_succ]
  refine wpAnyZ_past (i := 9) (by kernel_rfl) rfl (by kernel_rfl) (fun K hK => ?_)
  go_simp
  refine hK _ _ ?_
  clear hK K hc3 hf3
  refine wpAnyZ_done (by kernel_rfl) ?_ _
  go_wp2
  go_end0
  obtain ⟨v', _, h⟩ := HO.out
  exact ⟨v', rfl, h⟩
end Go.Proofs.YtcggmagdndhkbaaGreatDoor
end
section
namespace Go.Proofs
open Go.Shelf
def Tryz.lays189_ren : Go.Shelf.Ren := ⟨fun | 189 => 137 | 125 => 201 | 257 => 200 | 128 => 252 | 129 => 253 | 294 => 243 | 295 => 244 | 296 => 245 | 297 => 246 | 298 => 247 | 299 => 248 | 216 => 249 | 300 => 250 | 301 => 251 | 328 => 296 | 329 => 297 | 330 => 298 | 331 => 299 | 332 => 300 | 215 => 178 | 343 => 323 | n => n, fun | 28 => 42 | 3 => 3 | 46 => 283 | 0 => 0 | 51 => 303 | 53 => 302 | 4 => 4 | 183 => 333 | 182 => 332 | 131 => 212 | 5 => 5 | 9 => 9 | 218 => 380 | 222 => 384 | 228 => 400 | 229 => 138 | n => n, fun | n => n⟩
theorem Tryz.lays189 : Go.Proofs.Lays.n189 Tryz.prog Tryz.lays189_ren := {
  mixed := by kernel_rfl
  f125 := Tryz.func201.trans (congrArg some (by kernel_rfl))
  f128 := Tryz.func252.trans (congrArg some (by kernel_rfl))
  f129 := Tryz.func253.trans (congrArg some (by kernel_rfl))
  f189 := Tryz.func137.trans (congrArg some (by kernel_rfl))
  f215 := Tryz.func178.trans (congrArg some (by kernel_rfl))
  f216 := Tryz.func249.trans (congrArg some (by kernel_rfl))
  f257 := Tryz.func200.trans (congrArg some (by kernel_rfl))
  f294 := Tryz.func243.trans (congrArg some (by kernel_rfl))
  f295 := Tryz.func244.trans (congrArg some (by kernel_rfl))
  f296 := Tryz.func245.trans (congrArg some (by kernel_rfl))
  f297 := Tryz.func246.trans (congrArg some (by kernel_rfl))
  f298 := Tryz.func247.trans (congrArg some (by kernel_rfl))
  f299 := Tryz.func248.trans (congrArg some (by kernel_rfl))
  f300 := Tryz.func250.trans (congrArg some (by kernel_rfl))
  f301 := Tryz.func251.trans (congrArg some (by kernel_rfl))
  f328 := Tryz.func296.trans (congrArg some (by kernel_rfl))
  f329 := Tryz.func297.trans (congrArg some (by kernel_rfl))
  f330 := Tryz.func298.trans (congrArg some (by kernel_rfl))
  f331 := Tryz.func299.trans (congrArg some (by kernel_rfl))
  f332 := Tryz.func300.trans (congrArg some (by kernel_rfl))
  f343 := Tryz.func323.trans (congrArg some (by kernel_rfl))
  t0 := Tryz.underlying0
  a0 := Tryz.isAgg0
  z0 := Tryz.sizeOf0
  v0 := Tryz.zeroValue0
  t3 := Tryz.underlying3
  a3 := Tryz.isAgg3
  z3 := Tryz.sizeOf3
  v3 := Tryz.zeroValue3
  t4 := Tryz.underlying4
  a4 := Tryz.isAgg4
  z4 := Tryz.sizeOf4
  v4 := Tryz.zeroValue4
  t5 := Tryz.underlying5
  a5 := Tryz.isAgg5
  z5 := Tryz.sizeOf5
  v5 := Tryz.zeroValue5
  t9 := Tryz.underlying9
  a9 := Tryz.isAgg9
  z9 := Tryz.sizeOf9
  v9 := Tryz.zeroValue9
  t28 := Tryz.underlying42
  a28 := Tryz.isAgg42
  z28 := Tryz.sizeOf42
  v28 := Tryz.zeroValue42
  t46 := Tryz.underlying283
  a46 := Tryz.isAgg283
  z46 := Tryz.sizeOf283
  v46 := Tryz.zeroValue283
  t51 := Tryz.underlying303
  a51 := Tryz.isAgg303
  z51 := Tryz.sizeOf303
  v51 := Tryz.zeroValue303
  t53 := Tryz.underlying302
  a53 := Tryz.isAgg302
  z53 := Tryz.sizeOf302
  v53 := Tryz.zeroValue302
  t131 := Tryz.underlying212
  a131 := Tryz.isAgg212
  z131 := Tryz.sizeOf212
  v131 := Tryz.zeroValue212
  t182 := Tryz.underlying332
  a182 := Tryz.isAgg332
  z182 := Tryz.sizeOf332
  v182 := Tryz.zeroValue332
  t183 := Tryz.underlying333
  a183 := Tryz.isAgg333
  z183 := Tryz.sizeOf333
  v183 := Tryz.zeroValue333
  t218 := Tryz.underlying380
  a218 := Tryz.isAgg380
  z218 := Tryz.sizeOf380
  v218 := Tryz.zeroValue380
  t222 := Tryz.underlying384
  a222 := Tryz.isAgg384
  z222 := Tryz.sizeOf384
  v222 := Tryz.zeroValue384
  t228 := Tryz.underlying400
  a228 := Tryz.isAgg400
  z228 := Tryz.sizeOf400
  v228 := Tryz.zeroValue400
  t229 := Tryz.underlying138
  a229 := Tryz.isAgg138
  z229 := Tryz.sizeOf138
  v229 := Tryz.zeroValue138 }
open Go.Sort Go.RowKit in
theorem Tryz.slices_Sort_int (blk off cap : Nat) (zs : List Int) (w : World) (hH : Holds (Value.int .i64) w blk off zs.toArray) (hblk : blk < w.heap.size) (hsz : zs.length < 4611686018427387904) :
    Calls Tryz.prog 137 #[.slice (some ⟨blk, off, none⟩) zs.length cap] w fun e w' =>
      e = .returned (.tuple #[]) ∧ ∃ n os, w' = grow (putRow (Value.int .i64) (Sort.ahead w n) blk off (zs.mergeSort fun x y => decide (x ≤ y)).toArray) os := Any.slices_Sort_int Tryz.lays189 blk off cap zs w hH hblk hsz
open Go.RowKit Go.Sort in
theorem Tryz.slices_Sort_int_none (p : Option Addr) (cap : Nat) (w : World) :
    Calls Tryz.prog 137 #[.slice p 0 cap] w fun e w' => e = .returned (.tuple #[]) ∧ w' = w := Any.slices_Sort_int_none Tryz.lays189 p cap w
end Go.Proofs
end
