/- Contract of the reference's Insert. -/
import Derived.Test.YtchngdhmloahbabDoorRefLay
import Derived.Deep.Cut
import Derived.Deep.CutRange
import Derived.Deep.DeepCutAuto
set_option linter.unusedVariables false
set_option linter.unusedSimpArgs false
namespace Go.Proofs.YtchngdhmloahbabDoor
open Go.RowKit Go.Lib Go.Sort
open scoped Classical

set_option maxRecDepth 100000 in
set_option maxHeartbeats 1000000 in
theorem rins_shape (w : World) (p : Nat) (id behind : Int) (c : Nat) (h : ¬ ShapeOk id behind) :
    Calls Tryd.prog 13 #[.pointer (some ⟨p, 0, none⟩), .int .i64 id, .int .i64 behind, .int .u8 (c : Int)] w fun e w' => e = .returned (.int .i64 3) ∧ w' = w := by
  by_cases h1 : id < 4
  · have d1 : decide (id < 4) = true := decide_eq_true h1
    clear h
    go_enter Tryd.func13, Tryd.ntmps13
    go_wp2
    go_ret
    exact ⟨rfl, rfl⟩
  · have d1 : decide (id < 4) = false := decide_eq_false h1
    by_cases h2 : 4294967299 < id
    · have d2 : decide (4294967299 < id) = true := decide_eq_true h2
      clear h
      go_enter Tryd.func13, Tryd.ntmps13
      go_wp2
      go_ret
      exact ⟨rfl, rfl⟩
    · have d2 : decide (4294967299 < id) = false := decide_eq_false h2
      by_cases h3 : behind < 0
      · have d3 : decide (behind < 0) = true := decide_eq_true h3
        clear h
        go_enter Tryd.func13, Tryd.ntmps13
        go_wp2
        go_ret
        exact ⟨rfl, rfl⟩
      · have d3 : decide (behind < 0) = false := decide_eq_false h3
        have d4 : decide (id ≤ behind) = true := decide_eq_true (by unfold ShapeOk at h; omega)
        clear h
        go_enter Tryd.func13, Tryd.ntmps13
        go_wp2
        go_ret
        exact ⟨rfl, rfl⟩

set_option maxRecDepth 100000 in
set_option maxHeartbeats 1000000 in
theorem rins_exist (w : World) (base p : Nat) (v : Value) (L : List Ltr) (id behind : Int) (c : Nat) (hT : RefAt base w p v L) (hL : L.length ≤ 1000) (h : ShapeOk id behind) (hx : id ∈ L.map (·.1)) :
    Calls Tryd.prog 13 #[.pointer (some ⟨p, 0, none⟩), .int .i64 id, .int .i64 behind, .int .u8 (c : Int)] w fun e w' => e = .returned (.int .i64 7) ∧ w' = w := by
  have d1 : decide (id < 4) = false := decide_eq_false (by have := h.1; omega)
  have d2 : decide (4294967299 < id) = false := decide_eq_false (by have := h.2.1; omega)
  have d3 : decide (behind < 0) = false := decide_eq_false (by have := h.2.2.1; omega)
  have d4 : decide (id ≤ behind) = false := decide_eq_false (by have := h.2.2.2; omega)
  obtain ⟨i, hi, -, hil⟩ := findI_pos hx
  have hf := rfind_any w base p v L id hT hL
  rw [hi] at hf
  have d5 : decide ((0 : Int) ≤ (i : Int)) = true := by simp
  clear hT h hx hi
  go_enter Tryd.func13, Tryd.ntmps13
  go_wp2_with fail
  refine hf.mono ?_
  rintro e w1 ⟨rfl, rfl⟩
  go_wp2
  go_ret
  exact ⟨rfl, rfl⟩

set_option maxRecDepth 100000 in
set_option maxHeartbeats 1000000 in
theorem rins_none (w : World) (base p : Nat) (v : Value) (L : List Ltr) (id behind : Int) (c : Nat) (hT : RefAt base w p v L) (hL : L.length ≤ 1000) (h : ShapeOk id behind) (hx : id ∉ L.map (·.1)) (h0 : behind ≠ 0) (hy : behind ∉ L.map (·.1)) :
    Calls Tryd.prog 13 #[.pointer (some ⟨p, 0, none⟩), .int .i64 id, .int .i64 behind, .int .u8 (c : Int)] w fun e w' => e = .returned (.int .i64 6) ∧ w' = w := by
  have d1 : decide (id < 4) = false := decide_eq_false (by have := h.1; omega)
  have d2 : decide (4294967299 < id) = false := decide_eq_false (by have := h.2.1; omega)
  have d3 : decide (behind < 0) = false := decide_eq_false (by have := h.2.2.1; omega)
  have d4 : decide (id ≤ behind) = false := decide_eq_false (by have := h.2.2.2; omega)
  have d5 : decide (0 < behind) = true := decide_eq_true (by have := h.2.2.1; omega)
  have hf := rfind_any w base p v L id hT hL
  rw [findI_neg hx] at hf
  have hg := rfind_any w base p v L behind hT hL
  rw [findI_neg hy] at hg
  clear hT h hx hy h0
  go_enter Tryd.func13, Tryd.ntmps13
  go_wp2_with fail
  refine hf.mono ?_
  rintro e w1 ⟨rfl, rfl⟩
  go_wp2_with fail
  refine hg.mono ?_
  rintro e w2 ⟨rfl, rfl⟩
  go_wp2
  go_ret
  exact ⟨rfl, rfl⟩

set_option maxRecDepth 100000 in
set_option maxHeartbeats 2000000 in
theorem rins_ok (w : World) (base p : Nat) (v : Value) (L : List Ltr) (id behind : Int) (c : Nat) (hT : RefAt base w p v L) (hbase : base ≤ w.heap.size) (hL : L.length ≤ 900) (h : ShapeOk id behind) (hc : c < 256) (hx : id ∉ L.map (·.1)) (hy : behind = 0 ∨ behind ∈ L.map (·.1)) :
    Calls Tryd.prog 13 #[.pointer (some ⟨p, 0, none⟩), .int .i64 id, .int .i64 behind, .int .u8 (c : Int)] w fun e w' => e = .returned (.int .i64 0) ∧ ∃ v', RefAt base w' p v' (put behind (id, c, false) L) ∧ Keeps (fun b => b = p) w w' ∧ (v' = v ∨ ∀ g, v'.ownBlock = some g → w.heap.size ≤ g) := by
  have d1 : decide (id < 4) = false := decide_eq_false (by have := h.1; omega)
  have d2 : decide (4294967299 < id) = false := decide_eq_false (by have := h.2.1; omega)
  have d3 : decide (behind < 0) = false := decide_eq_false (by have := h.2.2.1; omega)
  have d4 : decide (id ≤ behind) = false := decide_eq_false (by have := h.2.2.2; omega)
  have hf := rfind_any w base p v L id hT (by omega)
  rw [findI_neg hx] at hf
  obtain ⟨bf, k0, hbf, hk0, hpl⟩ : ∃ (bf : Int) (k0 : Nat), Aside (findI behind L = bf ∧ ((behind = 0 ∧ k0 = 0) ∨ (behind ≠ 0 ∧ 0 < behind ∧ 0 ≤ bf ∧ bf + 1 = (k0 : Int)))) ∧ k0 ≤ L.length ∧ Aside (placeL behind id L = k0 + skipN id (L.drop k0)) := by
    unfold placeL
    by_cases h0 : behind = 0
    · refine ⟨_, 0, ⟨rfl, .inl ⟨h0, rfl⟩⟩, Nat.zero_le _, ?_⟩
      show _ = _
      rw [if_pos h0]
      simp
    · obtain ⟨i, hi, hf', hil⟩ := findI_pos (hy.resolve_left h0)
      refine ⟨i, i + 1, ⟨hi, .inr ⟨h0, by have := h.2.2.1; omega, by omega, by omega⟩⟩, by omega, ?_⟩
      show _ = _
      rw [if_neg h0, hf']
  have hg := rfind_any w base p v L behind hT (by omega)
  rw [hbf.out.1] at hg
  have hbfr : -1 ≤ bf ∧ bf ≤ 900 := by
    rw [← hbf.out.1]
    unfold findI
    cases hq : findL behind L with
    | none => dsimp only; omega
    | some i =>
      obtain ⟨l, hl, _⟩ := findL_some hq
      have := (List.getElem?_eq_some_iff.1 hl).1
      dsimp only
      omega
  have ebf : IntKind.i64.wrap (bf + 1) = bf + 1 := by rw [IntKind.wrap_i64]; omega
  obtain ⟨hpl1, hput⟩ := put_at (x := (id, c, false)) hy
  have HP := Lib.hid hput
  have HQ : Aside (placeL behind id L ≤ L.length) := hpl1
  obtain ⟨ao, cap, rfl⟩ := rowShape hT.row
  have c0 := hT.c0
  have HT : Aside (RefAt base w p (.slice ao L.length cap) L) := hT
  have HI : Aside (LetsIn w ao L) := letsRow hT.row
  have HB := Lib.hid hbfr
  clear hT h hx hput hbfr
  go_enter Tryd.func13, Tryd.ntmps13
  go_wp2_with fail
  refine hf.mono ?_
  rintro e w1 ⟨rfl, hw1⟩
  subst hw1
  clear hf
  go_upto_region 5 with fail
  go_cut [36] (fun s36 wx => s36 = .bool false ∧ wx = w1)
  case first =>
    rcases hbf.out.2 with ⟨h0, _⟩ | ⟨_, h1, h2, _⟩
    · have d5 : decide (0 < behind) = false := decide_eq_false (by omega)
      clear h0
      go_wp2
      go_meet
      exact ⟨rfl, rfl⟩
    · have d5 : decide (0 < behind) = true := decide_eq_true h1
      have d6 : decide (bf < 0) = false := decide_eq_false (by omega)
      go_wp2_with fail
      refine hg.mono ?_
      rintro e w2 ⟨rfl, hw2⟩
      subst hw2
      go_wp2
      go_meet
      exact ⟨rfl, rfl⟩
  case rest =>
    obtain ⟨rfl, hwx⟩ := hcut
    subst hwx
    go_wp2_with fail
    refine hg.mono ?_
    rintro e w2 ⟨rfl, hw2⟩
    subst hw2
    clear hg
    go_upto_if 42 with fail
    go_cut [9] (fun s9 wx => s9 = .int .i64 (k0 : Int) ∧ wx = w2)
    case first =>
      rcases hbf.out.2 with ⟨h0, h1⟩ | ⟨h0, _, _, h2⟩
      · have d7 : (behind == 0) = true := by simp [h0]
        have HK := Lib.hid h1
        clear h0 h1
        go_wp2
        go_meet
        exact ⟨by rw [HK.out]; rfl, rfl⟩
      · have d7 : (behind == 0) = false := by simp [h0]
        have HK := Lib.hid h2
        clear h0 h2
        go_wp2
        go_meet
        exact ⟨by rw [HK.out], rfl⟩
    case rest =>
      obtain ⟨rfl, hwx⟩ := hcut
      subst hwx
      go_wp2
      go_loopg [9] L.length (fun kx s9 wr => ∃ (k : Nat), s9 = .int .i64 (k : Int) ∧ k0 ≤ k ∧ k ≤ L.length ∧ L.length - k ≤ kx ∧ wr = wc ∧ Aside (∀ j l, j < k - k0 → (L.drop k0)[j]? = some l → id < l.1))
      case atStart => exact ⟨k0, rfl, Nat.le_refl _, hk0, by omega, rfl, fun j l hj => by omega⟩
      case round =>
        obtain ⟨k, rfl, hk1, hk2, hkx, rfl, A⟩ := hrel
        by_cases hgo : k < L.length ∧ ∀ l, L[k]? = some l → id < l.1
        · have hlt : k < L.length := hgo.1
          have hltz : decide ((k : Int) < (L.length : Int)) = true := by simp; omega
          have ek : ((k : Int)).toNat = k := by omega
          have pk : (0 : Int) ≤ (k : Int) := by omega
          have bk : (k : Int) < (L.length : Int) := by omega
          obtain ⟨⟨a, ch, gn⟩, hl⟩ : ∃ l, Aside (L[k]? = some l) := ⟨L[k], List.getElem?_eq_getElem hlt⟩
          obtain ⟨blk, off, rfl, f0, f1, f2⟩ := HI.out.at hl.out
          have hda : id < a := hgo.2 _ hl.out
          have da : decide (id < a) = true := decide_eq_true hda
          have HA := Lib.hid hda
          clear hgo hda
          go_wp2
          go_roundg (L.length - (k + 1))
          case measure => omega
          case rel =>
            refine ⟨k + 1, by go_num, by omega, by omega, Nat.le_refl _, rfl, fun j l hj e => ?_⟩
            rcases Nat.lt_or_ge j (k - k0) with h | h
            · exact A.out j l h e
            · rw [List.getElem?_drop, show k0 + j = k by omega, hl.out] at e
              cases e
              exact HA.out
        · have hplace : placeL behind id L = k := by
            rw [hpl.out]
            have := skipN_is (x := id) (L := L.drop k0) (n := k - k0) (by rw [List.length_drop]; omega) (fun i l hi e => A.out i l hi e) (fun l e => by
              rw [List.getElem?_drop, show k0 + (k - k0) = k by omega] at e
              intro hlt
              exact hgo ⟨(List.getElem?_eq_some_iff.1 e).1, fun l' e' => by rw [e] at e'; cases e'; exact hlt⟩)
            omega
          have hlay := rlay_any wr base p k (.slice ao L.length cap) L id c false HT.out hbase hL hk2 hc
          have hM : L.take k ++ (id, c, false) :: L.drop k = put behind (id, c, false) L := by rw [HP.out]; show _ = L.take (placeL behind id L) ++ _ :: L.drop (placeL behind id L); rw [hplace]
          rw [hM] at hlay
          clear hplace hM
          by_cases hlt : k < L.length
          · have hltz : decide ((k : Int) < (L.length : Int)) = true := by simp; omega
            have ek : ((k : Int)).toNat = k := by omega
            have pk : (0 : Int) ≤ (k : Int) := by omega
            have bk : (k : Int) < (L.length : Int) := by omega
            obtain ⟨⟨a, ch, gn⟩, hl⟩ : ∃ l, Aside (L[k]? = some l) := ⟨L[k], List.getElem?_eq_getElem hlt⟩
            obtain ⟨blk, off, rfl, f0, f1, f2⟩ := HI.out.at hl.out
            have da : decide (id < a) = false := decide_eq_false (fun h => hgo ⟨hlt, fun l' e' => by rw [hl.out] at e'; cases e'; exact h⟩)
            clear hgo
            go_wp2_with fail
            refine hlay.mono ?_
            rintro e w3 ⟨⟨u, rfl⟩, v', hv', hk', ho'⟩
            have F : Aside (∃ v', RefAt base w3 p v' (put behind (id, c, false) L) ∧ Keeps (fun b => b = p) wr w3 ∧ (v' = .slice (some ⟨blk, off, none⟩) L.length cap ∨ ∀ g, v'.ownBlock = some g → wr.heap.size ≤ g)) := ⟨v', hv', hk', .inr ho'⟩
            clear hv' hk' ho' hlay
            go_wp2
            go_ret
            exact ⟨rfl, F.out⟩
          · have hltz : decide ((k : Int) < (L.length : Int)) = false := by simp; omega
            clear hgo
            go_wp2_with fail
            refine hlay.mono ?_
            rintro e w3 ⟨⟨u, rfl⟩, v', hv', hk', ho'⟩
            have F : Aside (∃ v', RefAt base w3 p v' (put behind (id, c, false) L) ∧ Keeps (fun b => b = p) wr w3 ∧ (v' = .slice ao L.length cap ∨ ∀ g, v'.ownBlock = some g → wr.heap.size ≤ g)) := ⟨v', hv', hk', .inr ho'⟩
            clear hv' hk' ho' hlay
            go_wp2
            go_ret
            exact ⟨rfl, F.out⟩

theorem rins_all (w : World) (base p : Nat) (v : Value) (L : List Ltr) (id behind : Int) (c : Nat) (hT : RefAt base w p v L) (hbase : base ≤ w.heap.size) (hL : L.length ≤ 900) (hc : c < 256) :
    Calls Tryd.prog 13 #[.pointer (some ⟨p, 0, none⟩), .int .i64 id, .int .i64 behind, .int .u8 (c : Int)] w fun e w' => e = .returned (.int .i64 (insE id behind L : Int)) ∧ ∃ v', RefAt base w' p v' (insL id behind c L) ∧ Keeps (fun b => b = p) w w' ∧ (v' = v ∨ ∀ g, v'.ownBlock = some g → w.heap.size ≤ g) := by
  unfold insL insE
  by_cases h1 : 4 ≤ id ∧ id < 4294967300 ∧ 0 ≤ behind ∧ behind < id
  · rw [if_pos h1]
    by_cases h2 : id ∈ L.map (·.1)
    · rw [if_pos h2, if_neg (by omega)]
      refine (rins_exist w base p v L id behind c hT (by omega) h1 h2).mono ?_
      rintro e w' ⟨rfl, rfl⟩
      exact ⟨rfl, v, hT, Keeps.refl _ _, .inl rfl⟩
    · rw [if_neg h2]
      by_cases h3 : behind = 0 ∨ behind ∈ L.map (·.1)
      · rw [if_pos h3, if_pos rfl]
        exact rins_ok w base p v L id behind c hT hbase hL h1 hc h2 h3
      · rw [if_neg h3, if_neg (by omega)]
        refine (rins_none w base p v L id behind c hT (by omega) h1 h2 (fun e => h3 (.inl e)) (fun e => h3 (.inr e))).mono ?_
        rintro e w' ⟨rfl, rfl⟩
        exact ⟨rfl, v, hT, Keeps.refl _ _, .inl rfl⟩
  · rw [if_neg h1, if_neg (by omega)]
    refine (rins_shape w p id behind c h1).mono ?_
    rintro e w' ⟨rfl, rfl⟩
    exact ⟨rfl, v, hT, Keeps.refl _ _, .inl rfl⟩
end Go.Proofs.YtchngdhmloahbabDoor
