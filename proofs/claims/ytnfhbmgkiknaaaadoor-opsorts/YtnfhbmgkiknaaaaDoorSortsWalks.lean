/- The walk of the law OpSorts. -/
import Derived.Test.YtnfhbmgkiknaaaaDoorOpText
import Derived.Test.YtnfhbmgkiknaaaaDoorSortSorted
namespace Go.Proofs.YtnfhbmgkiknaaaaDoor
open Go.Shelf Go.RowKit Go.Lib Go.Sort

theorem stable_len {xs ys : List OpX} (h : StableOf xs ys) : ys.length = xs.length := by
  obtain ⟨d, ⟨p, _⟩, rfl⟩ := h
  rw [List.length_map, Array.length_toList, p.1, tagged_size]

set_option maxHeartbeats 4000000 in
theorem long_zero (ao : Option Addr) (cap : Nat) (w : World) :
    Calls Tryd.prog 43 #[.slice ao 0 cap, .int .i64 100] w fun e w' => e = .returned (.int .i64 0) ∧ w' = w := by
  go_enter Tryd.func43, Tryd.ntmps43
  go_wp2
  refine wp_loop_rounds 1 ?_
  rw [rounds_succ]
  go_wp2
  go_ret
  exact ⟨rfl, rfl⟩

set_option maxHeartbeats 4000000 in
theorem long_big (ao : Option Addr) (n cap : Nat) (w : World) (h : 100 < n) (_hm : n ≤ maxLen) :
    Calls Tryd.prog 43 #[.slice ao n cap, .int .i64 100] w fun e w' => e = .returned (.int .i64 1) ∧ w' = w := by
  have q0 : decide ((100 : Int) < (n : Int)) = true := decide_eq_true (by omega)
  go_enter Tryd.func43, Tryd.ntmps43
  go_wp2
  go_ret
  exact ⟨rfl, rfl⟩

set_option maxHeartbeats 4000000 in
theorem ownOps_zero (ao : Option Addr) (cap : Nat) (w : World) :
    Calls Tryd.prog 45 #[.slice ao 0 cap] w fun e w' => ∃ v', e = .returned v' ∧ OpsAt w' v' [] ∧ Below w.heap.size w w' := by
  cases ao with
  | none =>
    go_enter Tryd.func45, Tryd.ntmps45
    go_wp2
    go_ret
    exact ⟨_, rfl, .inl ⟨rfl, rfl⟩, Below.refl _ _⟩
  | some a =>
    obtain ⟨i0, hi, hz0, hz1, hz2⟩ := info_parts infoOp
    go_enter Tryd.func45, Tryd.ntmps45
    go_wp2_with (at_builtin; refine wpList_append_own _ rfl _ _ 71 rfl w.heap.size 77 i0 _ 8 80 Tryd.underlying71 hi hz0 hz1 hz2 rfl (by omega) _ _ _ rfl (World.ownsRow_nil w _ _ _) a 0 cap [] rfl rfl (by intro j u hj; simp at hj) (by intro u hu; cases hu) (by simp) (by simp) (Nat.le_refl _) ?_)
    intro v' w1 hown hgrow hnil
    have F : Aside (OpsAt w1 v' [] ∧ Below w.heap.size w w1) := ⟨ownsOps (xs := []) (by simpa [cellsOf] using hown), (Below.refl _ w).grown hgrow (Nat.le_refl _) (by intro k hk; simp [Value.ownBlock] at hk)⟩
    clear hown hgrow hnil
    go_wp2
    go_ret
    exact ⟨v', rfl, F.out.1, F.out.2⟩

set_option maxRecDepth 100000 in
set_option maxHeartbeats 4000000 in
/-- The law, once what it calls at its argument is known. -/
theorem sorts_core {ad : Nat → Addr} (v : Value) (xs : List OpX) (hn : xs.length ≤ 1000) (w : World) (hE : TxtE ad w)
    (hlong : ∀ w', Below w.heap.size w w' → Calls Tryd.prog 43 #[v, .int .i64 100] w' fun e w'' => (e = .returned (.int .i64 1) ∨ e = .returned (.int .i64 0)) ∧ w'' = w')
    (hown : ∀ w', Below w.heap.size w w' → Calls Tryd.prog 45 #[v] w' fun e w'' => ∃ v', e = .returned v' ∧ OpsAt w'' v' xs ∧ Below w'.heap.size w' w'')
    (hsorted : ∀ w', Below w.heap.size w w' → Calls Tryd.prog 47 #[v] w' fun e w'' => ∃ v' ys, e = .returned v' ∧ OpsAt w'' v' ys ∧ StableOf xs ys ∧ Below w'.heap.size w' w'') :
    Calls Tryd.prog 9 #[v] w fun e w' => e = .returned (.bool true) ∧ Below w.heap.size w w' := by
  have HL : Aside (∀ w', Below w.heap.size w w' → Calls Tryd.prog 43 #[v, .int .i64 100] w' fun e w'' => (e = .returned (.int .i64 1) ∨ e = .returned (.int .i64 0)) ∧ w'' = w') := hlong
  have HO : Aside (∀ w', Below w.heap.size w w' → Calls Tryd.prog 45 #[v] w' fun e w'' => ∃ v', e = .returned v' ∧ OpsAt w'' v' xs ∧ Below w'.heap.size w' w'') := hown
  have HS : Aside (∀ w', Below w.heap.size w w' → Calls Tryd.prog 47 #[v] w' fun e w'' => ∃ v' ys, e = .returned v' ∧ OpsAt w'' v' ys ∧ StableOf xs ys ∧ Below w'.heap.size w' w'') := hsorted
  clear hlong hown hsorted
  go_enter Tryd.func9, Tryd.ntmps9
  go_wp2_with fail
  refine (written_any (ad := ad) _ hE).mono ?_
  rintro e w1 ⟨rfl, hb1⟩
  have B1 : Aside (Below w.heap.size w w1) := hb1
  clear hb1 hE
  go_wp2_with fail
  refine (HL.out w1 B1.out).mono ?_
  rintro e w2 ⟨he, hw⟩
  subst hw
  rcases he with rfl | rfl
  · go_wp2
    go_ret
    exact ⟨rfl, B1.out⟩
  · go_wp2_with fail
    refine (HO.out w2 B1.out).mono ?_
    rintro e w3 ⟨v3, rfl, hO3, hb3⟩
    have A3 : Aside (OpsAt w3 v3 xs ∧ Below w.heap.size w w3) := ⟨hO3, B1.out.trans (hb3.mono B1.out.size)⟩
    clear hO3 hb3 B1 HL HO
    go_wp2_with fail
    refine (opSort_any w3 v3 xs A3.out.1 hn).mono ?_
    rintro e w4 ⟨x, ys, rfl, hO4, hS4, hb4⟩
    have A4 : Aside (OpsAt w4 x ys ∧ StableOf xs ys ∧ Below w.heap.size w w4) := ⟨hO4, hS4, A3.out.2.trans (hb4.mono A3.out.2.size)⟩
    clear hO4 hS4 hb4 A3
    have hn2 : ys.length ≤ 1000 := by rw [stable_len A4.out.2.1]; exact hn
    go_wp2_with fail
    refine (HS.out w4 A4.out.2.2).mono ?_
    rintro e w5 ⟨z, zs, rfl, hO5, hS5, hb5⟩
    have hz : zs = ys := stable_one hS5 A4.out.2.1
    have A5 : Aside (OpsAt w5 x ys ∧ OpsAt w5 z ys ∧ StableOf ys ys ∧ Below w.heap.size w w5) := ⟨A4.out.1.later hb5, hz ▸ hO5, stable_again A4.out.2.1, A4.out.2.2.trans (hb5.mono A4.out.2.2.size)⟩
    clear hO5 hS5 hb5 A4 hz HS
    go_wp2_with fail
    refine (same_any w5 x z ys A5.out.1 A5.out.2.1 hn2).mono ?_
    rintro e w6 ⟨rfl, hb6⟩
    have A6 : Aside (OpsAt w6 x ys ∧ StableOf ys ys ∧ Below w.heap.size w w6) := ⟨A5.out.1.later hb6, A5.out.2.2.1, A5.out.2.2.2.trans (hb6.mono A5.out.2.2.2.size)⟩
    clear hb6 A5
    go_wp2_with fail
    refine (opSort_any w6 x ys A6.out.1 hn2).mono ?_
    rintro e w7 ⟨y, ts, rfl, hO7, hS7, hb7⟩
    have ht : ts = ys := stable_one hS7 A6.out.2.1
    have A7 : Aside (OpsAt w7 y ys ∧ OpsAt w7 x ys ∧ Below w.heap.size w w7) := ⟨ht ▸ hO7, A6.out.1.later hb7, A6.out.2.2.trans (hb7.mono A6.out.2.2.size)⟩
    clear hO7 hS7 hb7 A6 ht
    go_wp2_with fail
    refine (same_any w7 y x ys A7.out.1 A7.out.2.1 hn2).mono ?_
    rintro e w8 ⟨rfl, hb8⟩
    have A8 : Aside (Below w.heap.size w w8) := A7.out.2.2.trans (hb8.mono A7.out.2.2.size)
    clear hb8 A7
    go_wp2
    go_ret
    exact ⟨rfl, A8.out⟩

set_option maxRecDepth 100000 in
set_option maxHeartbeats 4000000 in
/-- The law at a list that is too long. -/
theorem sorts_big {ad : Nat → Addr} (ao : Option Addr) (len cap : Nat) (w : World) (hE : TxtE ad w) (h : 100 < len) (hm : len ≤ maxLen) :
    Calls Tryd.prog 9 #[.slice ao len cap] w fun e w' => e = .returned (.bool true) ∧ Below w.heap.size w w' := by
  go_enter Tryd.func9, Tryd.ntmps9
  go_wp2_with fail
  refine (written_any (ad := ad) _ hE).mono ?_
  rintro e w1 ⟨rfl, hb1⟩
  have B1 : Aside (Below w.heap.size w w1) := hb1
  clear hb1 hE
  go_wp2_with fail
  refine (long_big ao len cap w1 h hm).mono ?_
  rintro e w2 ⟨rfl, hw⟩
  subst hw
  go_wp2
  go_ret
  exact ⟨rfl, B1.out⟩

theorem sorts_zero {ad : Nat → Addr} (ao : Option Addr) (cap : Nat) (w : World) (hE : TxtE ad w) :
    Calls Tryd.prog 9 #[.slice ao 0 cap] w fun e w' => e = .returned (.bool true) ∧ Below w.heap.size w w' :=
  sorts_core _ [] (Nat.zero_le _) w hE (fun w' _ => (long_zero ao cap w').mono fun _ _ h => ⟨.inr h.1, h.2⟩) (fun w' _ => ownOps_zero ao cap w')
    (fun w' _ => (sortedOf_zero ao cap w').mono fun _ w'' h => by
      obtain ⟨h1, h2⟩ := h
      subst h2
      exact ⟨_, [], h1, .inl ⟨rfl, rfl⟩, (InsOf.zero []).all, Below.refl _ _⟩)

theorem sorts_any {ad : Nat → Addr} (ao : Option Addr) (len cap : Nat) (xs : List OpX) (hl : xs.length = len) (hm : len ≤ maxLen) (w : World) (hE : TxtE ad w) (h : OpsAt w (.slice ao len cap) xs) :
    Calls Tryd.prog 9 #[.slice ao len cap] w fun e w' => e = .returned (.bool true) ∧ Below w.heap.size w w' := by
  by_cases hb : 100 < len
  · exact sorts_big ao len cap w hE hb hm
  · have hn : xs.length ≤ 1000 := by omega
    exact sorts_core _ xs hn w hE
      (fun w' hw => (long_any w' _ xs (h.later hw) (by omega)).mono fun _ _ h => ⟨h.1.imp id And.left, h.2⟩)
      (fun w' hw => ownOps_any w' _ xs (h.later hw) hn)
      (fun w' hw => sortedOf_any w' _ xs (h.later hw) hn)
end Go.Proofs.YtnfhbmgkiknaaaaDoor
