/- Contracts of the reference's Delete, Seen and Text. -/
import Derived.Test.YtchngdhmloahbabDoorRefIns
import Derived.Test.YtchngdhmloahbabDoorRoundZ
import Derived.Test.YtchngdhmloahbabDoorByteOne
set_option linter.unusedVariables false
set_option linter.unusedSimpArgs false
namespace Go.Proofs.YtchngdhmloahbabDoor
open Go.RowKit Go.Lib Go.Sort

set_option maxHeartbeats 1000000 in
theorem rdel_none (w : World) (base p : Nat) (v : Value) (L : List Ltr) (id : Int) (hT : RefAt base w p v L) (hL : L.length ≤ 1000) (hx : id ∉ L.map (·.1)) :
    Calls Tryd.prog 14 #[.pointer (some ⟨p, 0, none⟩), .int .i64 id] w fun e w' => e = .returned (.int .i64 6) ∧ w' = w := by
  have hf := rfind_any w base p v L id hT hL
  rw [findI_neg hx] at hf
  clear hT hx
  go_enter Tryd.func14, Tryd.ntmps14
  go_wp2_with fail
  refine hf.mono ?_
  rintro e w1 ⟨rfl, hw1⟩
  subst hw1
  go_wp2
  go_ret
  exact ⟨rfl, rfl⟩

set_option maxRecDepth 100000 in
set_option maxHeartbeats 2000000 in
theorem rdel_ok (w : World) (base p i : Nat) (v : Value) (L : List Ltr) (a : Int) (c : Nat) (gn : Bool) (hT : RefAt base w p v L) (hL : L.length ≤ 1000) (hf : findL a L = some i) (hl : L[i]? = some (a, c, gn)) :
    Calls Tryd.prog 14 #[.pointer (some ⟨p, 0, none⟩), .int .i64 a] w fun e w' => e = .returned (.int .i64 0) ∧ RefAt base w' p v (L.set i (a, c, true)) ∧ Keeps (fun k => some k = v.ownBlock) w w' := by
  have hil := (List.getElem?_eq_some_iff.1 hl).1
  have hfa := rfind_any w base p v L a hT hL
  rw [show findI a L = (i : Int) by unfold findI; rw [hf]] at hfa
  obtain ⟨ao, cap, rfl⟩ := rowShape hT.row
  obtain ⟨g, rfl⟩ : ∃ g, ao = some ⟨g, 0, none⟩ := by
    rcases hT.row.2 with ⟨_, h2⟩ | ⟨g, cap', cur, hv, _⟩
    · omega
    · cases hv; exact ⟨g, rfl⟩
  have HT : Aside (RefAt base w p (.slice (some ⟨g, 0, none⟩) L.length cap) L) := hT
  have HL : Aside (L[i]? = some (a, c, gn)) := hl
  have d0 : decide ((i : Int) < 0) = false := by simp
  have ei : ((i : Int)).toNat = i := by omega
  have bi : (i : Int) < (L.length : Int) := by omega
  have pi : (0 : Int) ≤ (i : Int) := by omega
  have c0 := hT.c0
  obtain ⟨blk, off, hbo, f0, f1, f2⟩ := (letsRow hT.row).at hl
  simp only [Option.some.injEq, Addr.mk.injEq, and_true] at hbo
  obtain ⟨rfl, rfl⟩ := hbo
  rw [Nat.zero_add] at f0 f1 f2
  have z0 : ∀ j, w.frozen? ⟨g, j, none⟩ = false := fun j => hT.row.frozenAt j
  have z1 := z0 (i * 3)
  have z2 := z0 (i * 3 + 1)
  have z3 := z0 (i * 3 + 2)
  have hne : g ≠ p := (hT.ne g rfl).1
  have FIN : Aside (∀ W : World, W.heap = w.heap → W.os = w.os → W.tape = w.tape → W.output = w.output → RefAt base (W.setCells g (i * 3) [.int .i64 a, .int .u8 (c : Int), .bool true]) p (.slice (some ⟨g, 0, none⟩) L.length cap) (L.set i (a, c, true)) ∧ Keeps (fun k => some k = some g) w (W.setCells g (i * 3) [.int .i64 a, .int .u8 (c : Int), .bool true])) := fun W e0 e1 e2 e3 => by
    have hTW : RefAt base W p (.slice (some ⟨g, 0, none⟩) L.length cap) L := hT.same (by rw [e0]) (fun g _ => by rw [e0])
    have hkp := setCells_keeps g [.int .i64 a, .int .u8 (c : Int), .bool true] (i * 3) W
    have hro := hTW.row
    have hself : L.set i (a, c, gn) = L := by
      have h := List.set_getElem_self hil
      rw [(List.getElem?_eq_some_iff.1 HL.out).2] at h
      exact h
    have q1 : flat encR L = (flat encR L).take (i * 3) ++ encR (a, c, gn) ++ (flat encR L).drop ((i + 1) * 3) := by
      rw [← flat_set encR_len L i hil (a, c, gn), hself]
    have q2 := flat_set encR_len L i hil (a, c, true)
    have el : ((flat encR L).take (i * 3)).length = i * 3 := by rw [List.length_take, flat_len encR_len]; omega
    rw [q1] at hro
    have ho := owns_over (vs := [.int .i64 a, .int .u8 (c : Int), .bool true]) hro rfl
    rw [el] at ho
    have hm : ∀ l ∈ L.set i (a, c, true), l ∈ L ∨ l = (a, c, true) := fun l hl => List.mem_or_eq_of_mem_set hl
    have hkW : Keeps (fun k => some k = some g) w W := ⟨e1, e2, e3, by rw [e0]; exact Nat.le_refl _, fun k _ _ => by rw [e0]⟩
    refine ⟨⟨(hkp.block p hTW.lt (fun e => hne e.symm)).trans hTW.cell, ?_, hT.low, fun l hl => ?_⟩, hkW.then hkp (fun k _ e => by rw [e])⟩
    · rw [List.length_set, q2]
      exact ho
    · rcases hm l hl with h | rfl
      · exact hT.small l h
      · exact hT.small (a, c, gn) (List.mem_of_getElem? HL.out)
  clear hT hl hf z0
  go_enter Tryd.func14, Tryd.ntmps14
  go_wp2_with fail
  refine hfa.mono ?_
  rintro e w1 ⟨rfl, hw1⟩
  subst hw1
  clear hfa
  go_upto_region 4 with fail
  refine wp_region_Z (S := fun w' => w'.cell? ⟨p, 0, none⟩ = some (.slice (some ⟨g, 0, none⟩) L.length cap) ∧ w'.cell? ⟨g, i * 3 + 1, none⟩ = some (.int .u8 (c : Int))) (z := 16) (by kernel_rfl) ⟨c0, f1⟩ (fun hHeld => ?_)
  refine wpAnyZ_free (i := 0) (v := ?v0) (by decide) rfl (by kernel_rfl) (by kernel_rfl) (by kernel_rfl) (fun _ _ _ h => h) (Or.inl ⟨by rfl, ?hy0⟩) hHeld ?rest0
  case hy0 => (intro w' _; go_simp; try with_reducible rfl)
  try simp only [Act.put, List.setIfInBounds_toArray, List.set_cons_zero, List.set_cons_succ]
  refine wpAnyZ_free (i := 1) (v := ?v1) (by decide) rfl (by kernel_rfl) (by kernel_rfl) (by kernel_rfl) (fun _ _ _ h => h) (Or.inl ⟨by rfl, ?hy1⟩) hHeld ?rest1
  case hy1 => (intro w' _; go_simp; try with_reducible rfl)
  try simp only [Act.put, List.setIfInBounds_toArray, List.set_cons_zero, List.set_cons_succ]
  refine wpAnyZ_free (i := 2) (v := ?v2) (by decide) rfl (by kernel_rfl) (by kernel_rfl) (by kernel_rfl) (fun _ _ _ h => h) (Or.inl ⟨by rfl, ?hy2⟩) hHeld ?rest2
  case hy2 => (intro w' _; go_simp; try with_reducible rfl)
  try simp only [Act.put, List.setIfInBounds_toArray, List.set_cons_zero, List.set_cons_succ]
  refine wpAnyZ_take (i := 3) (v := ?v3) (by decide) (by kernel_rfl) rfl (by kernel_rfl) (by kernel_rfl) (by kernel_rfl) (by kernel_rfl) (fun _ _ _ h => h) (Or.inl ⟨by rfl, ?hy3⟩) hHeld ?rest3
  case hy3 => (intro w' hSw; obtain ⟨k1, k2⟩ := hSw; go_simp; try with_reducible rfl)
  try simp only [Act.put, List.setIfInBounds_toArray, List.set_cons_zero, List.set_cons_succ]
  refine wpAnyZ_free (i := 4) (v := ?v4) (by decide) rfl (by kernel_rfl) (by kernel_rfl) (by kernel_rfl) (fun _ _ _ h => h) (Or.inl ⟨by rfl, ?hy4⟩) hHeld ?rest4
  case hy4 => (intro w' _; go_simp; try with_reducible rfl)
  try simp only [Act.put, List.setIfInBounds_toArray, List.set_cons_zero, List.set_cons_succ]
  refine wpAnyZ_free (i := 5) (v := ?v5) (by decide) rfl (by kernel_rfl) (by kernel_rfl) (by kernel_rfl) (fun _ _ _ h => h) (Or.inl ⟨by rfl, ?hy5⟩) hHeld ?rest5
  case hy5 => (intro w' _; go_simp; try with_reducible rfl)
  try simp only [Act.put, List.setIfInBounds_toArray, List.set_cons_zero, List.set_cons_succ]
  refine wpAnyZ_free (i := 6) (v := ?v6) (by decide) rfl (by kernel_rfl) (by kernel_rfl) (by kernel_rfl) (fun _ _ _ h => h) (Or.inl ⟨by rfl, ?hy6⟩) hHeld ?rest6
  case hy6 => (intro w' _; go_simp; try with_reducible rfl)
  try simp only [Act.put, List.setIfInBounds_toArray, List.set_cons_zero, List.set_cons_succ]
  refine wpAnyZ_free (i := 7) (v := ?v7) (by decide) rfl (by kernel_rfl) (by kernel_rfl) (by kernel_rfl) (fun _ _ _ h => h) (Or.inl ⟨by rfl, ?hy7⟩) hHeld ?rest7
  case hy7 => (intro w' _; go_simp; try with_reducible rfl)
  try simp only [Act.put, List.setIfInBounds_toArray, List.set_cons_zero, List.set_cons_succ]
  refine wpAnyZ_free (i := 8) (v := ?v8) (by decide) rfl (by kernel_rfl) (by kernel_rfl) (by kernel_rfl) (fun _ _ _ h => h) (Or.inl ⟨by rfl, ?hy8⟩) hHeld ?rest8
  case hy8 => (intro w' _; go_simp; try with_reducible rfl)
  try simp only [Act.put, List.setIfInBounds_toArray, List.set_cons_zero, List.set_cons_succ]
  refine wpAnyZ_take (i := 9) (v := ?v9) (by decide) (by kernel_rfl) rfl (by kernel_rfl) (by kernel_rfl) (by kernel_rfl) (by kernel_rfl) (fun _ _ _ h => h) (Or.inl ⟨by rfl, ?hy9⟩) hHeld ?rest9
  case hy9 => (intro w' hSw; obtain ⟨k1, k2⟩ := hSw; go_simp; try with_reducible rfl)
  try simp only [Act.put, List.setIfInBounds_toArray, List.set_cons_zero, List.set_cons_succ]
  refine wpAnyZ_free (i := 10) (v := ?v10) (by decide) rfl (by kernel_rfl) (by kernel_rfl) (by kernel_rfl) (fun _ _ _ h => h) (Or.inl ⟨by rfl, ?hy10⟩) hHeld ?rest10
  case hy10 => (intro w' _; go_simp; try with_reducible rfl)
  try simp only [Act.put, List.setIfInBounds_toArray, List.set_cons_zero, List.set_cons_succ]
  refine wpAnyZ_free (i := 11) (v := ?v11) (by decide) rfl (by kernel_rfl) (by kernel_rfl) (by kernel_rfl) (fun _ _ _ h => h) (Or.inl ⟨by rfl, ?hy11⟩) hHeld ?rest11
  case hy11 => (intro w' _; go_simp; try with_reducible rfl)
  try simp only [Act.put, List.setIfInBounds_toArray, List.set_cons_zero, List.set_cons_succ]
  refine wpAnyZ_free (i := 12) (v := ?v12) (by decide) rfl (by kernel_rfl) (by kernel_rfl) (by kernel_rfl) (fun _ _ _ h => h) (Or.inl ⟨by rfl, ?hy12⟩) hHeld ?rest12
  case hy12 => (intro w' _; go_simp; try with_reducible rfl)
  try simp only [Act.put, List.setIfInBounds_toArray, List.set_cons_zero, List.set_cons_succ]
  refine wpAnyZ_take (i := 13) (v := ?v13) (by decide) (by kernel_rfl) rfl (by kernel_rfl) (by kernel_rfl) (by kernel_rfl) (by kernel_rfl) (fun _ _ _ h => h) (Or.inl ⟨by rfl, ?hy13⟩) hHeld ?rest13
  case hy13 => (intro w' hSw; obtain ⟨k1, k2⟩ := hSw; go_simp; try with_reducible rfl)
  try simp only [Act.put, List.setIfInBounds_toArray, List.set_cons_zero, List.set_cons_succ]
  refine wpAnyZ_free (i := 14) (v := ?v14) (by decide) rfl (by kernel_rfl) (by kernel_rfl) (by kernel_rfl) (fun _ _ _ h => h) (Or.inl ⟨by rfl, ?hy14⟩) hHeld ?rest14
  case hy14 => (intro w' _; go_simp; try with_reducible rfl)
  try simp only [Act.put, List.setIfInBounds_toArray, List.set_cons_zero, List.set_cons_succ]
  refine wpAnyZ_free (i := 15) (v := ?v15) (by decide) rfl (by kernel_rfl) (by kernel_rfl) (by kernel_rfl) (fun _ _ _ h => h) (Or.inl ⟨by rfl, ?hy15⟩) hHeld ?rest15
  case hy15 => (intro w' _; go_simp; try with_reducible rfl)
  try simp only [Act.put, List.setIfInBounds_toArray, List.set_cons_zero, List.set_cons_succ]
  refine wpAnyZ_one (i := 16) (by kernel_rfl) rfl (fun K hK => ?_)
  go_simp
  refine hK _ _ (.inr ⟨rfl, by decide⟩) ?_
  clear hK K
  refine wpAnyZ_done (by kernel_rfl) ?_ _
  have F := FIN.out w1.drew rfl rfl rfl rfl
  have HF := Lib.hid F
  clear F FIN
  go_wp2
  go_ret
  exact ⟨rfl, HF.out⟩

/-- The reference's line behind Delete. -/
def rdelL (id : Int) (L : List Ltr) : List Ltr := match findL id L with
  | none => L
  | some i => L.set i (id, (L[i]!).2.1, true)
theorem rdelL_bare (id : Int) (L : List Ltr) : (rdelL id L).map bare = delL id (L.map bare) := by
  unfold rdelL delL
  rw [findL_map]
  cases hf : findL id L with
  | none => rfl
  | some i => exact bare_set id _
theorem delE_bare (id : Int) (L : List Ltr) : delE id (L.map bare) = delE id L := by unfold delE; rw [findL_map]
theorem insE_bare (id behind : Int) (L : List Ltr) : insE id behind (L.map bare) = insE id behind L := by unfold insE; rw [bare_ids]
theorem insL_bare (id behind : Int) (c : Nat) (L : List Ltr) : (insL id behind c L).map bare = insL id behind c (L.map bare) := by
  unfold insL
  rw [insE_bare]
  split
  · exact (bare_put behind (id, c, false) rfl L).symm
  · rfl
theorem rdelL_len (id : Int) (L : List Ltr) : (rdelL id L).length = L.length := by
  unfold rdelL
  cases findL id L with
  | none => rfl
  | some i => simp

theorem rdel_all (w : World) (base p : Nat) (v : Value) (L : List Ltr) (id : Int) (hT : RefAt base w p v L) (hL : L.length ≤ 1000) :
    Calls Tryd.prog 14 #[.pointer (some ⟨p, 0, none⟩), .int .i64 id] w fun e w' => e = .returned (.int .i64 (delE id L : Int)) ∧ RefAt base w' p v (rdelL id L) ∧ Keeps (fun k => some k = v.ownBlock) w w' := by
  unfold delE rdelL
  cases hf : findL id L with
  | none =>
    refine (rdel_none w base p v L id hT hL (fun hm => ?_)).mono ?_
    · obtain ⟨l, hl, e⟩ := List.mem_map.1 hm
      exact findL_none hf l hl e
    · rintro e w' ⟨rfl, rfl⟩
      exact ⟨rfl, hT, Keeps.refl _ _⟩
  | some i =>
    obtain ⟨⟨a, c, gn⟩, hl, rfl⟩ := findL_some hf
    have hil := (List.getElem?_eq_some_iff.1 hl)
    refine (rdel_ok w base p i v L a c gn hT hL hf hl).mono ?_
    rintro e w' ⟨rfl, h1, h2⟩
    refine ⟨rfl, ?_, h2⟩
    dsimp only
    rw [getElem!_pos L i hil.1, hil.2]
    exact h1
end Go.Proofs.YtchngdhmloahbabDoor
