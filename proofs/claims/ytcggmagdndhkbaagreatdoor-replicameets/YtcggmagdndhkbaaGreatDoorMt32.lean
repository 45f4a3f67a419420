import Derived.Test.YtcggmagdndhkbaaGreatDoorMt23
import Derived.Test.YtcggmagdndhkbaaGreatDoorMt28
import Derived.Test.YtcggmagdndhkbaaGreatDoorMt31
import Derived.BigQuiet
section
namespace Go.Proofs.YtcggmagdndhkbaaGreatDoor
open Go.Shelf Go.RowKit Go.Lib Go.Sort
set_option maxHeartbeats 4000000 in
theorem ownOps_any (w : World) (v : Value) (xs : List OpX) (h : OpsAt w v xs) (hn : xs.length ≤ 1000) :
    Calls Tryz.prog 21 #[v] w fun e w' => ∃ v', e = .returned v' ∧ OpsAt w' v' xs ∧ Below w.heap.size w w' := by
  rcases h with ⟨rfl, rfl⟩ | ⟨blk, off, cap, rfl, hc⟩
  · go_enter Tryz.func21, Tryz.ntmps21
    go_wp2
    go_ret
    exact ⟨_, rfl, .inl ⟨rfl, rfl⟩, Below.refl _ _⟩
  · obtain ⟨i0, hi, hz0, hz1, hz2⟩ := info_parts infoOp
    have A : Aside (∀ j u, (cellsOf xs)[j]? = some u → w.cell? ⟨blk, off + j, none⟩ = some u) := hc
    clear hc
    go_enter Tryz.func21, Tryz.ntmps21
    go_wp2_with (at_builtin; refine wpList_append_own _ rfl _ _ 36 rfl w.heap.size 31 i0 _ 8 80 Tryz.underlying36 hi hz0 hz1 hz2 rfl (by omega) _ _ _ rfl (World.ownsRow_nil w _ _ _) ⟨blk, off, none⟩ xs.length cap (cellsOf xs) rfl ?qc1 ?qc2 ?qc3 ?qc4 ?qc5 ?qc6 ?_)
    case qc1 => exact cellsOf_len xs
    case qc2 =>
      intro j u hj
      rw [Addr.add_lit]
      exact A.out j u hj
    case qc3 => exact cellsOf_one xs
    case qc4 => rw [Nat.zero_add]; simp only [maxLen]; omega
    case qc5 => rw [Nat.zero_add]; omega
    case qc6 => simp
    intro v' w1 hown hgrow hnil
    have F : Aside (OpsAt w1 v' xs ∧ Below w.heap.size w w1) := ⟨ownsOps (by simpa using hown), (Below.refl _ w).grown hgrow (Nat.le_refl _) (by intro k hk; simp [Value.ownBlock] at hk)⟩
    clear hown hgrow hnil A
    go_wp2
    go_ret
    exact ⟨v', rfl, F.out.1, F.out.2⟩
end Go.Proofs.YtcggmagdndhkbaaGreatDoor
end
section
set_option linter.unusedVariables false
set_option linter.unusedSimpArgs false
namespace Go.Proofs.YtcggmagdndhkbaaGreatDoor
open Go.RowKit Go.Lib Go.Sort Go.Maps
open scoped Classical
theorem compat_none (T : List OpX) : Compat (allR (fun _ => [])) T := fun x hx => by simp [allR] at hx
set_option maxRecDepth 100000 in
set_option maxHeartbeats 4000000 in
theorem repOf_any {B : Nat} {ad : Nat → Addr} (w : World) (b : Int) (v : Value) (ys : List OpX) (hE : EnvT B ad w) (h0 : 0 ≤ b) (h4 : b < 4) (hv : OpsAt w v ys) (hW : WellK ys) (hl : ys.length ≤ 60) :
    Calls Tryz.prog 20 #[.int .i64 b, v] w fun e w' => ∃ c br R, e = .returned (.pointer (some ⟨br, 0, none⟩)) ∧ Aside (RepOwn w.heap.size w' c br b R ∧ (∀ x, x ∈ allR R ↔ x ∈ ys) ∧ Below w.heap.size w w') := by
  have hnew := rnew_ok w b h0 h4
  have HE : Aside (EnvT w.heap.size ad w ∧ OpsAt w v ys ∧ WellK ys) := ⟨hE.up hE.env.size (Nat.le_refl _), hv, hW⟩
  clear hE hv hW
  go_enter Tryz.func20, Tryz.ntmps20
  go_wp2_with fail
  refine hnew.mono ?_
  clear hnew
  rintro e w1 ⟨c, br, rfl, hR1, hb1⟩
  have hoo := ownOps_any w1 v ys (HE.out.2.1.later hb1) (by omega)
  have H1 : Aside (RepOwn w.heap.size w1 c br b (fun _ => []) ∧ Below w.heap.size w w1) := ⟨hR1, hb1⟩
  clear hR1 hb1
  go_wp2_with fail
  refine hoo.mono ?_
  clear hoo
  rintro e w2 ⟨v2, rfl, ho2, hb2⟩
  obtain ⟨ao, cp, rfl, hin⟩ := ops_in ho2
  have hbw : Below w.heap.size w w2 := H1.out.2.trans (hb2.mono H1.out.2.size)
  have hR2 := H1.out.1.later hb2
  have hjn := joined (B := w.heap.size) w2 c br b (fun _ => []) ao cp ys ys hR2 (HE.out.1.mono hbw) hin HE.out.2.2 (compat_none ys) (fun x hx => hx) (fun x hx => .inr hx) (by simp [allR]; omega)
  have hjn2 := hjn.mono (R' := fun e w' => ∃ (n : Nat) (c' : Nat → Nat) (R' : Rws), e = .returned (.tuple #[.int .i64 (n : Int), .nilIface]) ∧ Aside (RepOwn w.heap.size w' c' br b R' ∧ (∀ x, x ∈ allR R' ↔ x ∈ ys) ∧ Below w.heap.size w w')) (fun e w' q => by
    obtain ⟨n, c', R', he, hA, hR', hm, _⟩ := q
    exact ⟨n, c', R', he, hR', fun x => by rw [hm x]; simp [allR], hbw.trans (hR2.below hA hbw.size)⟩)
  clear hjn hR2 hbw hin ho2 hb2
  go_wp2_with fail
  refine hjn2.mono ?_
  clear hjn2
  rintro e w3 ⟨n, c', R', rfl, H3⟩
  go_wp2
  go_ret
  exact ⟨c', br, R', rfl, H3.out⟩
def TrnShort (t : Trn) : Prop := t.2.2.2.2.2.2.2.2.1.size ≤ 60 ∧ t.2.2.2.2.2.2.2.2.2.size ≤ 60
def LongOut (w : World) (l : List Trn) (e : Ending) (w' : World) : Prop := ∃ z, e = .returned (.bool z) ∧ Aside ((z = false → l.length ≤ 60 ∧ ∀ t ∈ l, TrnShort t) ∧ w' = w)
set_option maxRecDepth 100000 in
set_option maxHeartbeats 4000000 in
theorem longT_any (w : World) (la : Option Addr) (lc : Nat) (l : List Trn) (hin : InRow encTr w la l) (hn : l.length < 9223372036854775808) :
    Calls Tryz.prog 15 #[.slice la l.length lc] w (LongOut w l) := by
  have HI : Aside (InRow encTr w la l) := hin
  clear hin
  by_cases hl : l.length ≤ 60
  · have d0 : decide ((60 : Int) < (l.length : Int)) = false := by simp; omega
    have d0n : decide (60 < l.length) = false := by simp; omega
    go_enter Tryz.func15, Tryz.ntmps15
    go_wp2
    go_loopg [3] l.length (fun kx s3 wr => ∃ (k : Nat), s3 = .int .i64 (k : Int) ∧ k ≤ l.length ∧ l.length - k ≤ kx ∧ Aside ((∀ t ∈ l.take k, TrnShort t) ∧ wr = w))
    case atStart => exact ⟨0, rfl, Nat.zero_le _, Nat.le_refl _, fun t ht => by simp at ht, rfl⟩
    case round =>
      obtain ⟨k, rfl, hk, hkx, A⟩ := hrel
      obtain rfl : wr = w := A.out.2
      by_cases hlt : k < l.length
      · have d2 : decide ((k : Int) < (l.length : Int)) = true := by simp; omega
        have wk : ((k : Int)).toNat = k := by omega
        have pk : (0 : Int) ≤ (k : Int) := by omega
        have bk : (k : Int) < (l.length : Int) := by omega
        obtain ⟨⟨ba, fr, t, b, n, kd, nd, o, s, v⟩, hx⟩ : ∃ x, Aside (l[k]? = some x) := ⟨l[k], List.getElem?_eq_getElem hlt⟩
        obtain ⟨blk, off, hao, hc⟩ := HI.out.get encTr_len hx.out
        subst hao
        have r8 := hc 8 _ rfl
        have r9 := hc 9 _ rfl
        clear hc
        by_cases h1 : s.size ≤ 60
        · have e1 : decide ((60 : Int) < (s.size : Int)) = false := by simp; omega
          have e1n : decide (60 < s.size) = false := by simp; omega
          by_cases h2 : v.size ≤ 60
          · have e2 : decide ((60 : Int) < (v.size : Int)) = false := by simp; omega
            have e2n : decide (60 < v.size) = false := by simp; omega
            have HN : Aside (∀ t ∈ l.take (k + 1), TrnShort t) := fun t ht => by
              rw [List.take_add_one, hx.out] at ht
              rcases List.mem_append.1 ht with ht | ht
              · exact A.out.1 t ht
              · simp at ht
                subst ht
                exact ⟨h1, h2⟩
            clear A h1 h2
            go_wp2
            go_roundg (l.length - (k + 1))
            case measure => omega
            case rel => exact ⟨k + 1, by go_num, by omega, Nat.le_refl _, HN.out, rfl⟩
          · have e2 : decide ((60 : Int) < (v.size : Int)) = true := by simp; omega
            have e2n : decide (60 < v.size) = true := by simp; omega
            go_wp2
            go_ret
            exact ⟨true, rfl, ⟨(fun h => Bool.noConfusion h), rfl⟩⟩
        · have e1 : decide ((60 : Int) < (s.size : Int)) = true := by simp; omega
          have e1n : decide (60 < s.size) = true := by simp; omega
          go_wp2
          go_ret
          exact ⟨true, rfl, ⟨(fun h => Bool.noConfusion h), rfl⟩⟩
      · have d2 : decide ((k : Int) < (l.length : Int)) = false := by simp; omega
        have ek : l.take k = l := List.take_of_length_le (by omega)
        rw [ek] at A
        go_wp2
        go_ret
        exact ⟨false, rfl, ⟨fun _ => ⟨hl, A.out.1⟩, rfl⟩⟩
  · have d0 : decide ((60 : Int) < (l.length : Int)) = true := by simp; omega
    have d0n : decide (60 < l.length) = true := by simp; omega
    go_enter Tryz.func15, Tryz.ntmps15
    go_wp2
    go_ret
    exact ⟨true, rfl, ⟨(fun h => Bool.noConfusion h), rfl⟩⟩
end Go.Proofs.YtcggmagdndhkbaaGreatDoor
end
section
set_option linter.unusedVariables false
namespace Go.Proofs.YtcggmagdndhkbaaGreatDoor
structure Met4 (U K : Nat → List OpX) (k a : Nat) : Prop where
  from_ : ∀ r, r < 4 → ∀ x ∈ K r, ∃ s, s < 4 ∧ x ∈ U s
  own : ∀ r, r < 4 → ∀ x ∈ U r, x ∈ K r
  one : k = 0 → a < 4 → ∀ s, s ≤ a → ∀ x ∈ U s, x ∈ K a
  turn : k = 0 → a = 4 → ∀ s, s < 4 → ∀ x ∈ U s, x ∈ K 0
  two : 1 ≤ k → ∀ r, r ≤ a → r < 4 → ∀ s, s < 4 → ∀ x ∈ U s, x ∈ K r
theorem met_start (U : Nat → List OpX) : Met4 U U 0 0 :=
  ⟨fun r hr x hx => ⟨r, hr, hx⟩, fun _ _ _ hx => hx, fun _ _ s hs x hx => (show s = 0 by omega) ▸ hx, fun _ h => by omega, fun h => by omega⟩
theorem met_turn {U K : Nat → List OpX} (h : Met4 U K 0 4) : Met4 U K 1 0 :=
  ⟨h.from_, h.own, fun h => by omega, fun h => by omega, fun _ r hr _ s hs x hx => (show 0 = r by omega) ▸ h.turn rfl rfl s hs x hx⟩
theorem Met4.congr {U K K' : Nat → List OpX} {k a : Nat} (h : Met4 U K k a) (e : ∀ r, r < 4 → ∀ x, x ∈ K r ↔ x ∈ K' r) (ha : a ≤ 4) : Met4 U K' k a :=
  ⟨fun r hr x hx => h.from_ r hr x ((e r hr x).2 hx), fun r hr x hx => (e r hr x).1 (h.own r hr x hx), fun h1 h2 s hs x hx => (e a h2 x).1 (h.one h1 h2 s hs x hx), fun h1 h2 s hs x hx => (e 0 (by omega) x).1 (h.turn h1 h2 s hs x hx), fun h1 r hr hr4 s hs x hx => (e r hr4 x).1 (h.two h1 r hr hr4 s hs x hx)⟩
theorem Met4.step {U K K1 K2 : Nat → List OpX} {k a b : Nat} (h : Met4 U K k a) (ha : a < 4) (hb : b = (a + 1) % 4) (hk : k ≤ 1)
    (h1 : ∀ x, x ∈ K1 a ↔ x ∈ K a ∨ x ∈ K b) (e1 : ∀ r, r < 4 → r ≠ a → K1 r = K r) (h2 : ∀ x, x ∈ K2 b ↔ x ∈ K1 b ∨ x ∈ K1 a) (e2 : ∀ r, r < 4 → r ≠ b → K2 r = K1 r) : Met4 U K2 k (a + 1) := by
  have hb4 : b < 4 := by omega
  have hab : a ≠ b := by omega
  have up1 : ∀ r, r < 4 → ∀ x ∈ K r, x ∈ K1 r := fun r hr x hx => by
    by_cases e : r = a
    · subst e; exact (h1 x).2 (.inl hx)
    · rw [e1 r hr e]; exact hx
  have up2 : ∀ r, r < 4 → ∀ x ∈ K1 r, x ∈ K2 r := fun r hr x hx => by
    by_cases e : r = b
    · subst e; exact (h2 x).2 (.inl hx)
    · rw [e2 r hr e]; exact hx
  have fr1 : ∀ r, r < 4 → ∀ x ∈ K1 r, ∃ s, s < 4 ∧ x ∈ U s := fun r hr x hx => by
    by_cases e : r = a
    · subst e
      rcases (h1 x).1 hx with q | q
      · exact h.from_ r hr x q
      · exact h.from_ b hb4 x q
    · rw [e1 r hr e] at hx; exact h.from_ r hr x hx
  have all : ∀ x, x ∈ K a → x ∈ K2 b := fun x hx => (h2 x).2 (.inr ((h1 x).2 (.inl hx)))
  have mine : ∀ x, x ∈ U b → x ∈ K2 b := fun x hx => up2 b hb4 x (up1 b hb4 x (h.own b hb4 x hx))
  refine ⟨fun r hr x hx => ?_, fun r hr x hx => up2 r hr x (up1 r hr x (h.own r hr x hx)), fun hk0 ha1 s hs x hx => ?_, fun hk0 ha1 s hs x hx => ?_, fun hk1 r hr hr4 s hs x hx => ?_⟩
  · by_cases e : r = b
    · subst e
      rcases (h2 x).1 hx with q | q
      · exact fr1 r hr x q
      · exact fr1 a ha x q
    · rw [e2 r hr e] at hx; exact fr1 r hr x hx
  · have eb : b = a + 1 := by omega
    rw [← eb]
    by_cases e : s = a + 1
    · rw [e, ← eb] at hx; exact mine x hx
    · exact all x (h.one hk0 ha s (by omega) x hx)
  · have ea : a = 3 := by omega
    have eb : b = 0 := by omega
    rw [← eb]
    exact all x (h.one hk0 ha s (by omega) x hx)
  · by_cases e : r = b
    · rw [e]; exact all x (h.two hk1 a (Nat.le_refl _) ha s hs x hx)
    · exact up2 r hr4 x (up1 r hr4 x (h.two hk1 r (by omega) hr4 s hs x hx))
theorem Met4.all {U K : Nat → List OpX} (h : Met4 U K 1 4) {r : Nat} (hr : r < 4) (x : OpX) : x ∈ K r ↔ x ∈ K 0 := by
  constructor
  · intro q
    obtain ⟨s, hs, q⟩ := h.from_ r hr x q
    exact h.two (Nat.le_refl _) 0 (by omega) (by omega) s hs x q
  · intro q
    obtain ⟨s, hs, q⟩ := h.from_ 0 (by omega) x q
    exact h.two (Nat.le_refl _) r (by omega) hr s hs x q
end Go.Proofs.YtcggmagdndhkbaaGreatDoor
end
section
namespace Go.Proofs.YtcggmagdndhkbaaGreatDoor
open Go.Shelf Go.RowKit Go.Lib Go.Sort
set_option maxHeartbeats 4000000 in
set_option maxRecDepth 1000000 in
theorem same_open {P : Program} (k : Nat) (L : STy P k) (hF : P.funcs[(19 : Nat)]? = some Tryz.f19) (en : Nat → Array Value) (b off cap b' off' cap' n : Nat) (w : World)
    (l1 : ∀ i q os, i < n → Sem.run P (loadCellsFrom ⟨b, off + i * k, none⟩ 0 k #[]) (grow (w.drewN q) os) = .ok (en i) (grow (w.drewN q) os))
    (l2 : ∀ i q os, i < n → Sem.run P (loadCellsFrom ⟨b', off' + i * k, none⟩ 0 k #[]) (grow (w.drewN q) os) = .ok (en i) (grow (w.drewN q) os))
    (hE : (∀ i w, (binOp .neq 31 (.agg (en i)) (.agg (en i))).run P w = .ok (.bool false) w)) (hGd : ∀ (op : BinOp) (a b : Operand) (x y : Array Value) (w : World), Sem.run P (eqGuard op 31 a b (.agg x) (.agg y)) w = .ok () w) (hn : n < 4611686018427387904) :
    Calls P 19 #[.slice (some ⟨b, off, none⟩) n cap, .slice (some ⟨b', off', none⟩) n cap'] w fun e w' => e = .returned (.bool true) ∧ ∃ q os, w' = grow (w.drewN q) os := by
  have mixed := L.mixed; have t0 := L.t0; have a0 := L.a0; have z0 := L.z0; have v0 := L.v0; have t3 := L.t3; have a3 := L.a3; have z3 := L.z3; have v3 := L.v3; have t4 := L.t4; have a4 := L.a4; have z4 := L.z4; have v4 := L.v4; have tS := L.tS; have aS := L.aS; have zS := L.zS; have vS := L.vS; have tC := L.tC; have aC := L.aC; have zC := L.zC; have vC := L.vC; have tU := L.tU; have aU := L.aU; have zU := L.zU; have vU := L.vU; have aE := L.aE; have zE := L.zE
  have L1 : Aside (∀ i q os, i < n → Sem.run P (loadCellsFrom ⟨b, off + i * k, none⟩ 0 k #[]) (grow (w.drewN q) os) = .ok (en i) (grow (w.drewN q) os)) := l1
  have L2 : Aside (∀ i q os, i < n → Sem.run P (loadCellsFrom ⟨b', off' + i * k, none⟩ 0 k #[]) (grow (w.drewN q) os) = .ok (en i) (grow (w.drewN q) os)) := l2
  have HE : Aside (∀ i w, (binOp .neq 31 (.agg (en i)) (.agg (en i))).run P w = .ok (.bool false) w) := hE
  clear l1 l2 hE
  go_enter hF, Tryz.ntmps19
  go_wp2
  go_loopg [5] n (fun kx s5 wr => ∃ (i : Nat), s5 = .int .i64 (i : Int) ∧ i ≤ n ∧ n - i ≤ kx ∧ Aside (∃ q os, wr = grow (w.drewN q) os))
  case atStart => exact ⟨0, rfl, Nat.zero_le _, Nat.le_refl _, ⟨0, #[], by rw [grow_empty]; rfl⟩⟩
  case round =>
    obtain ⟨i, rfl, hi, hkx, W⟩ := hrel
    by_cases hlt : i < n
    · have hltz : decide ((i : Int) < (n : Int)) = true := by simp; omega
      have ex : ((i : Int)).toNat = i := by omega
      have px : (0 : Int) ≤ (i : Int) := by omega
      have bx : (i : Int) < (n : Int) := by omega
      have hG : ∀ q os, ∃ q' os', grow (wr.drewN q) os = grow (w.drewN q') os' := fun q os => grows_trans W.out ⟨q, os, rfl⟩
      have lx : ∀ q os, Sem.run P (loadCellsFrom ⟨b, off + i * k, none⟩ 0 k #[]) (grow (wr.drewN q) os) = .ok (en i) (grow (wr.drewN q) os) := fun q os => by obtain ⟨q', os', e⟩ := hG q os; rw [e]; exact L1.out i q' os' hlt
      have ly : ∀ q os, Sem.run P (loadCellsFrom ⟨b', off' + i * k, none⟩ 0 k #[]) (grow (wr.drewN q) os) = .ok (en i) (grow (wr.drewN q) os) := fun q os => by obtain ⟨q', os', e⟩ := hG q os; rw [e]; exact L2.out i q' os' hlt
      have hq := fun w => HE.out i w
      have HG : Aside (∀ q os, ∃ q' os', grow (wr.drewN q) os = grow (w.drewN q') os') := hG
      clear hG W
      go_wp2_with fail
      go_quiet_grown (fail)
      have W2 : Aside (∃ q os, grow (wr.drewN nq) osq = grow (w.drewN q) os) := HG.out nq osq
      clear lx ly hq HG
      generalize grow (wr.drewN nq) osq = w2 at W2 ⊢
      go_wp2
      go_roundg (n - (i + 1))
      case measure => omega
      case rel => exact ⟨i + 1, by go_num, by omega, Nat.le_refl _, W2⟩
    · have hltz : decide ((i : Int) < (n : Int)) = false := by simp; omega
      go_wp2
      go_ret
      exact ⟨rfl, W.out⟩
end Go.Proofs.YtcggmagdndhkbaaGreatDoor
end
section
namespace Go.Proofs.YtcggmagdndhkbaaGreatDoor
open Go.Shelf Go.RowKit Go.Lib Go.Sort
set_option maxHeartbeats 2000000 in
theorem neq_self (x : OpX) (w : World) : (binOp .neq 31 (.agg (encX x).toArray) (.agg (encX x).toArray)).run Tryz.prog w = .ok (.bool false) w := by
  obtain ⟨t, b, n, k, node, other, name, value⟩ := x
  show Sem.run Tryz.prog (binOp .neq 31 (.agg #[.int .i64 t, .int .i64 b, .int .i64 n, .int .u8 (k : Int), .int .i64 node, .int .i64 other, .string name, .string value]) (.agg #[.int .i64 t, .int .i64 b, .int .i64 n, .int .u8 (k : Int), .int .i64 node, .int .i64 other, .string name, .string value])) w = _
  go_simp
theorem guard_op (op : BinOp) (a b : Operand) (x y : Array Value) (w : World) : Sem.run Tryz.prog (eqGuard op 31 a b (.agg x) (.agg y)) w = .ok () w := run_eqGuard_agg w op 31 a b x y (by kernel_rfl)
theorem load_at {w : World} {b off : Nat} {xs : List OpX} (hc : ∀ j u, (cellsOf xs)[j]? = some u → w.cell? ⟨b, off + j, none⟩ = some u) (i q : Nat) (os : Array Obj) (hi : i < xs.length) :
    Sem.run Tryz.prog (loadCellsFrom ⟨b, off + i * 8, none⟩ 0 8 #[]) (grow (w.drewN q) os) = .ok (encX xs[i]!).toArray (grow (w.drewN q) os) :=
  run_loadCellsFrom_list Tryz.prog _ _ (encX xs[i]!) 8 (encX_len _) (fun c v hcv => by
    have h8 : c < 8 := by have := (List.getElem?_eq_some_iff.1 hcv).1; rwa [encX_len] at this
    have e := cellsOf_get xs i c hi h8
    have h1 := hc (i * 8 + c) v (by rw [e, ← hcv, List.getElem?_eq_getElem (by rw [encX_len]; exact h8), getElem!_pos _ c (by rw [encX_len]; exact h8)])
    rw [Addr.add_lit, Nat.add_assoc]
    exact cellKept (below_grow ⟨rfl, rfl, rfl, Nat.le_refl _, fun _ _ => rfl⟩ (Nat.le_refl _)) h1)
set_option maxHeartbeats 2000000 in
theorem same_none (p p' : Option Addr) (c c' : Nat) (w : World) : Calls Tryz.prog 19 #[.slice p 0 c, .slice p' 0 c'] w fun e w' => e = .returned (.bool true) ∧ w' = w := by
  go_enter Tryz.func19, Tryz.ntmps19
  go_wp2
  refine wp_loop_rounds 1 ?_
  rw [rounds_succ]
  go_wp2
  go_ret
  exact ⟨rfl, rfl⟩
theorem same_any (w : World) (v v' : Value) (xs : List OpX) (h : OpsAt w v xs) (h' : OpsAt w v' xs) (hn : xs.length ≤ 1000) :
    Calls Tryz.prog 19 #[v, v'] w fun e w' => e = .returned (.bool true) ∧ Below w.heap.size w w' := by
  rcases h with ⟨rfl, rfl⟩ | ⟨b, off, c, rfl, hc⟩
  · rcases h' with ⟨rfl, _⟩ | ⟨b', off', c', rfl, _⟩
    · refine (same_none none none 0 0 w).mono ?_
      rintro e w' ⟨rfl, rfl⟩
      exact ⟨rfl, Below.refl _ _⟩
    · refine (same_none none (some ⟨b', off', none⟩) 0 c' w).mono ?_
      rintro e w' ⟨rfl, rfl⟩
      exact ⟨rfl, Below.refl _ _⟩
  · rcases h' with ⟨rfl, rfl⟩ | ⟨b', off', c', rfl, hc'⟩
    · refine (same_none (some ⟨b, off, none⟩) none c 0 w).mono ?_
      rintro e w' ⟨rfl, rfl⟩
      exact ⟨rfl, Below.refl _ _⟩
    · refine (same_open 8 sty_here Tryz.func19 (fun i => (encX xs[i]!).toArray) b off c b' off' c' xs.length w (fun i q os hi => load_at hc i q os hi) (fun i q os hi => load_at hc' i q os hi) (fun i w => neq_self _ w) guard_op (by omega)).mono ?_
      rintro e w' ⟨rfl, q, os, rfl⟩
      exact ⟨rfl, below_grow ⟨rfl, rfl, rfl, Nat.le_refl _, fun _ _ => rfl⟩ (Nat.le_refl _)⟩
end Go.Proofs.YtcggmagdndhkbaaGreatDoor
end
section
namespace Go.Proofs.YtcggmagdndhkbaaGreatDoor
open Go.Shelf Go.RowKit Go.Lib Go.Sort
end Go.Proofs.YtcggmagdndhkbaaGreatDoor
end
section
namespace Go.Proofs.YtcggmagdndhkbaaGreatDoor
open Go.Shelf Go.RowKit Go.Lib Go.Sort
theorem tagged_nodup (xs : List OpX) : ((tagged xs).toList.map Prod.snd).Nodup := by
  simp [tagged, List.nodup_range']
theorem stable_one {xs ys zs : List OpX} (h1 : StableOf xs ys) (h2 : StableOf xs zs) : ys = zs := by
  obtain ⟨d1, ⟨p1, s1⟩, rfl⟩ := h1
  obtain ⟨d2, ⟨p2, s2⟩, rfl⟩ := h2
  rw [← tagged_size xs] at p1 s1 p2 s2
  have q1 := permIn_list p1
  have q2 := permIn_list p2
  rw [← p1.1] at s1
  rw [← p2.1] at s2
  rw [one_sorted ltX_swo d1.toList d2.toList (q1.symm.trans q2) ((q1.map Prod.snd).nodup_iff.1 (tagged_nodup xs)) (sorted_list d1 s1) (sorted_list d2 s2)]
end Go.Proofs.YtcggmagdndhkbaaGreatDoor
end
