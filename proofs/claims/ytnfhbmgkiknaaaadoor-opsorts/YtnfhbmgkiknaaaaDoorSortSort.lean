/- Contract of op.Sort, over the translation's bodies. -/
import Derived.Test.YtnfhbmgkiknaaaaDoorSortOps
import Derived.Lib.OwnBridge
import Derived.LoopN
namespace Go.Proofs.YtnfhbmgkiknaaaaDoor
open Go.Shelf Go.RowKit Go.Lib Go.Sort

theorem below_grow {B : Nat} {w0 w : World} {os : Array Obj} (h : Below B w0 w) (hB : B ≤ w.heap.size) : Below B w0 (grow w os) :=
  ⟨h.os, h.tape, h.output, by rw [Go.Sort.size_grow]; exact Nat.le_trans h.size (Nat.le_add_right _ _), fun k hk => by
    rw [← h.block k hk]
    simp only [grow]
    rw [Array.getElem?_append_left (by omega)]⟩

theorem below_sorted {B : Nat} {w0 w w' : World} {g : Nat} {d : Array (OpX × Nat)} (h : Below B w0 w) (hg : B ≤ g) (hB : B ≤ w.heap.size) (S : SWK encT 8 w g 0 d w') : Below B w0 w' := by
  obtain ⟨n, os, rfl⟩ := S
  unfold sortWorldK putRowK
  exact below_grow (below_putRow h hg) (by show B ≤ (putRow id _ g 0 _).heap.size; simpa [putRow, mapBlock, Sort.ahead] using hB)

theorem sorted_at {w w' : World} {g : Nat} {d d' : Array (OpX × Nat)} (R : RowK encT 8 w g 0 d) (hs : d'.size = d.size) (S : SWK encT 8 w g 0 d' w') (j : Nat) (u : Value) (hj : (cellsOf (d'.toList.map Prod.fst))[j]? = some u) : w'.cell? ⟨g, 0 + j, none⟩ = some u := by
  have H := S.holds R.hblk R.hH hs
  have hl : j < (cellsOf (d'.toList.map Prod.fst)).length := (List.getElem?_eq_some_iff.1 hj).1
  rw [cellsOf_len, List.length_map, Array.length_toList] at hl
  have h1 : j / 8 < d'.size := by omega
  have h2 : j / 8 * 8 + j % 8 = j := by omega
  have c := cellsOf_get (d'.toList.map Prod.fst) (j / 8) (j % 8) (by rw [List.length_map, Array.length_toList]; exact h1) (by omega)
  rw [h2, hj] at c
  have H1 := (H j (by rw [size_flatK]; omega)).1
  rw [get_flatK _ _ _ _ (by omega)] at H1
  have e : encT d'[j / 8]! = encX (d'.toList.map Prod.fst)[j / 8]! := by
    rw [getElem!_pos d' (j / 8) h1, getElem!_pos (d'.toList.map Prod.fst) (j / 8) (by rw [List.length_map, Array.length_toList]; exact h1)]
    simp [encT]
  rw [H1, c, ← e]
  rfl

/-- What the sort gives: those of xs, by their stamps, the same ones as they stood. -/
def StableOf (xs ys : List OpX) : Prop := ∃ d' : Array (OpX × Nat), (PermIn 0 xs.length (tagged xs) d' ∧ SortedIn (slt ltX) 0 xs.length d') ∧ ys = d'.toList.map Prod.fst

set_option maxHeartbeats 4000000 in
theorem ins_nil (fv : Value) (w : World) : Calls Tryd.prog 124 #[.slice none 0 0, .int .i64 0, .int .i64 0, fv] w fun e w' => e = .returned (.tuple #[]) ∧ w' = w := by
  go_enter Tryd.func124, Tryd.ntmps124
  go_wp2
  refine wp_loop_rounds 1 ?_
  rw [rounds_succ]
  go_wp2
  go_end0
  exact ⟨rfl, rfl⟩

set_option maxHeartbeats 4000000 in
theorem stable_nil (g : Nat) (w : World) : Calls Tryd.prog 102 #[.slice none 0 0, .int .i64 0, .func (.func g) #[] #[]] w fun e w' => e = .returned (.tuple #[]) ∧ w' = w := by
  go_enter Tryd.func102, Tryd.ntmps102
  go_wp2
  refine wp_loop_rounds 1 ?_
  rw [rounds_succ]
  go_wp2_with fail
  refine (ins_nil _ _).mono ?_
  rintro e w' ⟨rfl, rfl⟩
  go_wp2
  refine wp_loop_rounds 1 ?_
  rw [rounds_succ]
  go_wp2
  go_end0
  exact ⟨rfl, rfl⟩

theorem sortStable_nil (g : Nat) (w : World) : Calls Tryd.prog 74 #[.slice none 0 0, .func (.func g) #[] #[]] w fun e w' => e = .returned (.tuple #[]) ∧ w' = w := by
  go_enter Tryd.func74, Tryd.ntmps74
  go_wp2_with fail
  refine (stable_nil _ _).mono ?_
  rintro e w' ⟨rfl, rfl⟩
  go_wp2
  go_end0
  exact ⟨rfl, rfl⟩

set_option maxHeartbeats 4000000 in
/-- op.Sort: in memory of its own. -/
theorem opSort_any (w : World) (v : Value) (xs : List OpX) (h : OpsAt w v xs) (hn : xs.length ≤ 1000) :
    Calls Tryd.prog 44 #[v] w fun e w' => ∃ v' ys, e = .returned v' ∧ OpsAt w' v' ys ∧ StableOf xs ys ∧ Below w.heap.size w w' := by
  rcases h with ⟨rfl, rfl⟩ | ⟨blk, off, cap, rfl, hc⟩
  · go_enter Tryd.func44, Tryd.ntmps44
    go_wp2_with fail
    refine (clone_nil _).mono ?_
    rintro e w' ⟨rfl, rfl⟩
    go_wp2_with fail
    refine (sortStable_nil _ _).mono ?_
    rintro e w1 ⟨rfl, rfl⟩
    go_wp2
    go_ret
    exact ⟨_, [], rfl, .inl ⟨rfl, rfl⟩, ⟨#[], ⟨permIn_refl _ _ _, fun i j _ _ hj => absurd hj (by simp)⟩, rfl⟩, Below.refl _ _⟩
  · have HC : Aside (∀ j u, (cellsOf xs)[j]? = some u → w.cell? ⟨blk, off + j, none⟩ = some u) := hc
    clear hc
    go_enter Tryd.func44, Tryd.ntmps44
    go_wp2_with fail
    refine (clone_some w blk off cap xs hn HC.out).mono ?_
    clear HC
    rintro e w1 ⟨v1, rfl, hown, hnil, hb⟩
    obtain ⟨g, c1, rfl, hg⟩ : ∃ g c1, v1 = .slice (some ⟨g, 0, none⟩) xs.length c1 ∧ w.heap.size ≤ g := by
      rcases hown.2 with ⟨h1, _⟩ | ⟨g, c1, cur, h1, h2, _⟩
      · exact absurd h1 hnil
      · exact ⟨g, c1, h1, h2⟩
    have R0 : Aside (RowK encT 8 w1 g 0 (tagged xs)) := row_of rfl hown
    have HB : Aside (Below w.heap.size w w1) := hb
    clear hown hnil hb
    go_wp2_with fail
    have C := sortStable_any w1 g 0 c1 (tagged xs) R0.out (fun p hp => by rw [tagged_at xs p (by rw [tagged_size] at hp; exact hp)]) (by rw [tagged_size]; omega)
    rw [tagged_size] at C
    refine C.mono ?_
    clear C
    rintro e w2 ⟨rfl, d', hd, S⟩
    have hl : d'.size = xs.length := by rw [hd.1.1, tagged_size]
    have hl2 : (d'.toList.map Prod.fst).length = xs.length := by rw [List.length_map, Array.length_toList]; exact hl
    have F : Aside (OpsAt w2 (.slice (some ⟨g, 0, none⟩) xs.length c1) (d'.toList.map Prod.fst) ∧ StableOf xs (d'.toList.map Prod.fst) ∧ Below w.heap.size w w2) :=
      ⟨.inr ⟨g, 0, c1, by rw [hl2], fun j u hj => sorted_at R0.out (by rw [hl, tagged_size]) S j u hj⟩, ⟨d', hd, rfl⟩, below_sorted HB.out hg HB.out.size S⟩
    clear hd S R0 HB hl hl2
    go_wp2
    go_ret
    exact ⟨_, _, rfl, F.out.1, F.out.2.1, F.out.2.2⟩
end Go.Proofs.YtnfhbmgkiknaaaaDoor
