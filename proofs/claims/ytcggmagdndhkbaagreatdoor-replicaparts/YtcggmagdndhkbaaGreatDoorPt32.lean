import Derived.Test.YtcggmagdndhkbaaGreatDoorPt06
import Derived.Test.YtcggmagdndhkbaaGreatDoorPt23
import Derived.Test.YtcggmagdndhkbaaGreatDoorPt24
import Derived.Test.YtcggmagdndhkbaaGreatDoorPt27
import Derived.Test.YtcggmagdndhkbaaGreatDoorPt28
import Derived.Test.YtcggmagdndhkbaaGreatDoorPt30
import Derived.Test.YtcggmagdndhkbaaGreatDoorPt31
import Derived.BigQuiet
import Derived.Test.YtcggmagdndhkbaaGreatDoorProg
import Derived.WalkKit
import Derived.WalkSpells
import Derived.Below
import Derived.LaidEql
import Derived.Stop.Asserts
import Derived.RowKitTokens
import Derived.KernelRfl
section
namespace Go.Proofs.YtcggmagdndhkbaaGreatDoor
open Go.Shelf Go.RowKit Go.Lib Go.Sort
set_option maxHeartbeats 4000000 in
theorem ownOps_any (w : World) (v : Value) (xs : List OpX) (h : OpsAt w v xs) (hn : xs.length ≤ 1000) :
    Calls Tryz.prog 21 #[v] w fun e w' => ∃ v', e = .returned v' ∧ OpsAt w' v' xs ∧ Below w.heap.size w w' := by
  rcases h with ⟨rfl, rfl⟩ | ⟨blk, off, cap, rfl, hc⟩
  · go_enter Tryz.func21, Tryz.ntmps21
    go_wp2
    go_ret
    exact ⟨_, rfl, .inl ⟨rfl, rfl⟩, Below.refl _ _⟩
  · obtain ⟨i0, hi, hz0, hz1, hz2⟩ := info_parts infoOp
    have A : Aside (∀ j u, (cellsOf xs)[j]? = some u → w.cell? ⟨blk, off + j, none⟩ = some u) := hc
    clear hc
    go_enter Tryz.func21, Tryz.ntmps21
    go_wp2_with (at_builtin; refine wpList_append_own _ rfl _ _ 36 rfl w.heap.size 31 i0 _ 8 80 Tryz.underlying36 hi hz0 hz1 hz2 rfl (by omega) _ _ _ rfl (World.ownsRow_nil w _ _ _) ⟨blk, off, none⟩ xs.length cap (cellsOf xs) rfl ?qc1 ?qc2 ?qc3 ?qc4 ?qc5 ?qc6 ?_)
    case qc1 => exact cellsOf_len xs
    case qc2 =>
      intro j u hj
      rw [Addr.add_lit]
      exact A.out j u hj
    case qc3 => exact cellsOf_one xs
    case qc4 => rw [Nat.zero_add]; simp only [maxLen]; omega
    case qc5 => rw [Nat.zero_add]; omega
    case qc6 => simp
    intro v' w1 hown hgrow hnil
    have F : Aside (OpsAt w1 v' xs ∧ Below w.heap.size w w1) := ⟨ownsOps (by simpa using hown), (Below.refl _ w).grown hgrow (Nat.le_refl _) (by intro k hk; simp [Value.ownBlock] at hk)⟩
    clear hown hgrow hnil A
    go_wp2
    go_ret
    exact ⟨v', rfl, F.out.1, F.out.2⟩
end Go.Proofs.YtcggmagdndhkbaaGreatDoor
end
section
set_option linter.unusedVariables false
set_option linter.unusedSimpArgs false
namespace Go.Proofs.YtcggmagdndhkbaaGreatDoor
open Go.RowKit Go.Lib Go.Sort Go.Maps
open scoped Classical
def TrnShort (t : Trn) : Prop := t.2.2.2.2.2.2.2.2.1.size ≤ 60 ∧ t.2.2.2.2.2.2.2.2.2.size ≤ 60
def LongOut (w : World) (l : List Trn) (e : Ending) (w' : World) : Prop := ∃ z, e = .returned (.bool z) ∧ Aside ((z = false → l.length ≤ 60 ∧ ∀ t ∈ l, TrnShort t) ∧ w' = w)
set_option maxRecDepth 100000 in
set_option maxHeartbeats 4000000 in
theorem longT_any (w : World) (la : Option Addr) (lc : Nat) (l : List Trn) (hin : InRow encTr w la l) (hn : l.length < 9223372036854775808) :
    Calls Tryz.prog 15 #[.slice la l.length lc] w (LongOut w l) := by
  have HI : Aside (InRow encTr w la l) := hin
  clear hin
  by_cases hl : l.length ≤ 60
  · have d0 : decide ((60 : Int) < (l.length : Int)) = false := by simp; omega
    have d0n : decide (60 < l.length) = false := by simp; omega
    go_enter Tryz.func15, Tryz.ntmps15
    go_wp2
    go_loopg [3] l.length (fun kx s3 wr => ∃ (k : Nat), s3 = .int .i64 (k : Int) ∧ k ≤ l.length ∧ l.length - k ≤ kx ∧ Aside ((∀ t ∈ l.take k, TrnShort t) ∧ wr = w))
    case atStart => exact ⟨0, rfl, Nat.zero_le _, Nat.le_refl _, fun t ht => by simp at ht, rfl⟩
    case round =>
      obtain ⟨k, rfl, hk, hkx, A⟩ := hrel
      obtain rfl : wr = w := A.out.2
      by_cases hlt : k < l.length
      · have d2 : decide ((k : Int) < (l.length : Int)) = true := by simp; omega
        have wk : ((k : Int)).toNat = k := by omega
        have pk : (0 : Int) ≤ (k : Int) := by omega
        have bk : (k : Int) < (l.length : Int) := by omega
        obtain ⟨⟨ba, fr, t, b, n, kd, nd, o, s, v⟩, hx⟩ : ∃ x, Aside (l[k]? = some x) := ⟨l[k], List.getElem?_eq_getElem hlt⟩
        obtain ⟨blk, off, hao, hc⟩ := HI.out.get encTr_len hx.out
        subst hao
        have r8 := hc 8 _ rfl
        have r9 := hc 9 _ rfl
        clear hc
        by_cases h1 : s.size ≤ 60
        · have e1 : decide ((60 : Int) < (s.size : Int)) = false := by simp; omega
          have e1n : decide (60 < s.size) = false := by simp; omega
          by_cases h2 : v.size ≤ 60
          · have e2 : decide ((60 : Int) < (v.size : Int)) = false := by simp; omega
            have e2n : decide (60 < v.size) = false := by simp; omega
            have HN : Aside (∀ t ∈ l.take (k + 1), TrnShort t) := fun t ht => by
              rw [List.take_add_one, hx.out] at ht
              rcases List.mem_append.1 ht with ht | ht
              · exact A.out.1 t ht
              · simp at ht
                subst ht
                exact ⟨h1, h2⟩
            clear A h1 h2
            go_wp2
            go_roundg (l.length - (k + 1))
            case measure => omega
            case rel => exact ⟨k + 1, by go_num, by omega, Nat.le_refl _, HN.out, rfl⟩
          · have e2 : decide ((60 : Int) < (v.size : Int)) = true := by simp; omega
            have e2n : decide (60 < v.size) = true := by simp; omega
            go_wp2
            go_ret
            exact ⟨true, rfl, ⟨(fun h => Bool.noConfusion h), rfl⟩⟩
        · have e1 : decide ((60 : Int) < (s.size : Int)) = true := by simp; omega
          have e1n : decide (60 < s.size) = true := by simp; omega
          go_wp2
          go_ret
          exact ⟨true, rfl, ⟨(fun h => Bool.noConfusion h), rfl⟩⟩
      · have d2 : decide ((k : Int) < (l.length : Int)) = false := by simp; omega
        have ek : l.take k = l := List.take_of_length_le (by omega)
        rw [ek] at A
        go_wp2
        go_ret
        exact ⟨false, rfl, ⟨fun _ => ⟨hl, A.out.1⟩, rfl⟩⟩
  · have d0 : decide ((60 : Int) < (l.length : Int)) = true := by simp; omega
    have d0n : decide (60 < l.length) = true := by simp; omega
    go_enter Tryz.func15, Tryz.ntmps15
    go_wp2
    go_ret
    exact ⟨true, rfl, ⟨(fun h => Bool.noConfusion h), rfl⟩⟩
end Go.Proofs.YtcggmagdndhkbaaGreatDoor
end
section
set_option linter.unusedVariables false
namespace Go.Proofs.YtcggmagdndhkbaaGreatDoor
open scoped Classical
def ByTime (ys : List OpX) : Prop := ys.Pairwise (fun a b => ¬ CLt (stO b) (stO a))
theorem idO_lt {x y : OpX} (hx : errO x = 0) (hy : errO y = 0) (h : idO x < idO y) : CLt (stO x) (stO y) := by
  have a := opE_zero hx
  have b := opE_zero hy
  unfold idO at h
  unfold CLt stO
  dsimp only
  omega
theorem idO_eq {x y : OpX} (hx : errO x = 0) (hy : errO y = 0) (h : idO x = idO y) : stO x = stO y := by
  have a := opE_zero hx
  have b := opE_zero hy
  unfold idO at h
  unfold stO
  have h1 : x.1 = y.1 := by omega
  have h2 : x.2.1 = y.2.1 := by omega
  rw [h1, h2]
theorem take_down {ys : List OpX} (ho : ByTime ys) {c : Nat} {x y : OpX} (hx : x ∈ ys.take c) (hy : y ∈ ys) (h : CLt (stO y) (stO x)) : y ∈ ys.take c := by
  have e := List.take_append_drop c ys
  unfold ByTime at ho
  rw [← e] at hy ho
  rcases List.mem_append.1 hy with q | q
  · exact q
  · exact absurd h ((List.pairwise_append.1 ho).2.2 x hx y q)
theorem take_id {ys : List OpX} (hw : WellK ys) (ho : ByTime ys) {c : Nat} {x y : OpX} (hx : x ∈ ys.take c) (hy : y ∈ ys) (h : idO y ≤ idO x) : y ∈ ys.take c := by
  have hx' := List.mem_of_mem_take hx
  by_cases e : idO y = idO x
  · have := hw.stamp hy hx' (idO_eq (hw.ok y hy) (hw.ok x hx') e)
    rw [this]; exact hx
  · exact take_down ho hx hy (idO_lt (hw.ok y hy) (hw.ok x hx') (by omega))
theorem well_take {ys : List OpX} (hw : WellK ys) (ho : ByTime ys) (c : Nat) : WellK (ys.take c) := by
  have up : ∀ x, x ∈ ys.take c → x ∈ ys := fun x hx => List.mem_of_mem_take hx
  have kn : ∀ x, x ∈ ys.take c → ∀ nd, nd ≤ idO x → KnownN ys nd → KnownN (ys.take c) nd := fun x hx nd hn ⟨m, hm, q1, q2, q3⟩ => ⟨m, take_id hw ho hx hm (by omega), q1, q2, q3⟩
  have ln : ∀ x, x ∈ ys.take c → ∀ nd id, id ≤ idO x → LetterN ys nd id → LetterN (ys.take c) nd id := fun x hx nd id hn ⟨m, hm, q1, q2, q3⟩ => ⟨m, take_id hw ho hx hm (by omega), q1, q2, q3⟩
  refine ⟨fun x hx => hw.ok x (up x hx), fun x hx y hy => hw.one x (up x hx) y (up y hy), fun x hx => ?_, fun x hx y hy => hw.rise x (up x hx) y (up y hy), fun x hx => ?_⟩
  · rcases hw.gap x (up x hx) with q | ⟨y, hy, q1, q2⟩
    · exact .inl q
    · exact .inr ⟨y, take_down ho hx hy (hw.rise y hy x (up x hx) q1 q2), q1, q2⟩
  · obtain ⟨r1, r2, r3⟩ := hw.refs x (up x hx)
    have hz := opE_zero (hw.ok x (up x hx))
    have hn : nodeO x ≤ idO x := hz.2.2.2.2.2.2.2.2.1
    have hoo : otherO x ≤ idO x := hz.2.2.2.2.2.2.2.2.2.2.1
    exact ⟨r1.imp id (kn x hx _ hn), fun e => (r2 e).imp id (fun q => q.imp id (kn x hx _ hoo)), fun e => ln x hx _ _ hoo (r3 e)⟩
theorem gap_drop {ys : List OpX} (hw : WellK ys) (ho : ByTime ys) (hnd : ys.Nodup) {c : Nat} {x z : OpX} (hx : x ∈ ys.drop c) (hz : z ∈ ys.take c) (e : byO x = byO z) : Gap (ys.drop c) := by
  have hz' := List.mem_of_mem_take hz
  have off : ∀ y, y ∈ ys.drop c → y ∈ ys.take c → False := fun y h1 h2 => by
    have := List.take_append_drop c ys
    rw [← this] at hnd
    exact (List.nodup_append.1 hnd).2.2 y h2 y h1 rfl
  have key : ∀ (n : Nat) (y : OpX), y ∈ ys.drop c → byO y = byO z → (numO y).toNat ≤ n → Gap (ys.drop c) := by
    intro n
    induction n with
    | zero =>
      intro y hy _ hn
      have := num_pos (hw.ok y (List.mem_of_mem_drop hy))
      omega
    | succ n ih =>
      intro y hy eb hn
      have hy' := List.mem_of_mem_drop hy
      have hp := num_pos (hw.ok y hy')
      have hpz := num_pos (hw.ok z hz')
      by_cases h1 : numO y = 1
      · exfalso
        by_cases h2 : numO z = 1
        · exact off y hy (by rw [hw.one y hy' z hz' eb (by omega)]; exact hz)
        · exact off y hy (take_down ho hz hy' (hw.less hy' (numO z - 2).toNat hz' eb (by omega)))
      · by_cases h2 : ∃ u ∈ ys.drop c, byO u = byO y ∧ numO u + 1 = numO y
        · obtain ⟨u, hu, q1, q2⟩ := h2
          exact ih u hu (q1.trans eb) (by omega)
        · exact ⟨y, hy, h1, h2⟩
  exact key (numO x).toNat x hx e (Nat.le_refl _)
theorem join_some {T l : List OpX} (hT : WellK T) (hl : ∀ x, x ∈ l → x ∈ T) {a : (Int × Nat) ⊕ List OpX} (h : JoinIs [] l a) : (Gap l → a = .inl (-1, 9)) ∧ ((∃ c, c ≠ 0 ∧ a = .inl (-1, c)) ∨ ∃ fresh, a = .inr fresh ∧ ∀ x, x ∈ fresh ↔ x ∈ l) := by
  obtain ⟨out, h1, h2⟩ := sift_fine (S := []) (T := T) (fun x hx => by simp at hx) hT.one (fun x hx => by simp at hx) hT.ok (l := l) 0 (fresh := []) (fun x hx => hl x hx) (fun x hx => by simp at hx)
  obtain ⟨k1, k2, k3, k4, k5⟩ := sift_fresh (freshK_nil _) h1
  have hm : ∀ x, x ∈ out ↔ x ∈ l := fun x => ⟨fun q => (k2 x q).elim (fun q => by simp at q) id, fun q => (k4 x q).elim (fun q => by simp at q) id⟩
  unfold JoinIs at h
  rw [h1] at h
  dsimp only at h
  rw [List.nil_append] at h
  refine ⟨fun hg => ?_, ?_⟩
  · have hg' : Gap out := hg.congr (fun x => (hm x).symm)
    rcases h with ⟨_, q⟩ | ⟨q, _⟩ | ⟨q, _⟩ | ⟨q, _⟩ | ⟨q, _⟩
    · exact q
    · exact absurd hg' q
    · exact absurd hg' q
    · obtain ⟨x, hx, n1, n2⟩ := hg'
      exact ((q.gap x hx).elim n1 n2).elim
    · obtain ⟨x, hx, n1, n2⟩ := hg'
      exact ((q.gap x hx).elim n1 n2).elim
  · rcases h with ⟨_, q⟩ | ⟨_, _, q⟩ | ⟨_, _, _, q⟩ | ⟨_, _, q⟩ | ⟨_, _, q⟩
    · exact .inl ⟨9, by decide, q⟩
    · exact .inl ⟨3, by decide, q⟩
    · exact .inl ⟨6, by decide, q⟩
    · exact .inl ⟨8, by decide, q⟩
    · exact .inr ⟨out, q, hm⟩
theorem state_none {s : List UInt8} (h : StateIs [] s) : s = [] := by
  obtain ⟨ms, qs, ts, A', mm, h1, h2, h3, h4, h5, h6, h7⟩ := h
  have e1 : ms = [] := List.Perm.eq_nil h1
  have e2 : A' = [] := List.Perm.eq_nil h5
  subst e1 e2
  have e3 : qs = [] := List.eq_nil_iff_forall_not_mem.2 fun p hp => by
    have := (h3.mem p).1 hp
    cases this
  have e4 : ts = [] := List.eq_nil_iff_forall_not_mem.2 fun t ht => by
    obtain ⟨x, hx, _⟩ := (h4.mem t.1).1 (List.mem_map.2 ⟨t, ht, rfl⟩)
    simp at hx
  have e5 : mm = [] := List.eq_nil_iff_forall_not_mem.2 fun p hp => by
    obtain ⟨_, s, q⟩ := (h6.mem p).1 hp
    cases q
  subst e3 e4 e5
  rw [h7]
  rfl
end Go.Proofs.YtcggmagdndhkbaaGreatDoor
end
section
set_option linter.unusedVariables false
set_option linter.unusedSimpArgs false
namespace Go.Proofs.YtcggmagdndhkbaaGreatDoor
open Go.RowKit Go.Lib Go.Sort Go.Maps
open scoped Classical
structure Band (B : Nat) (w : World) (n : Nat) (br : Nat → Nat) (K : Nat → Rws) (sf : List Nat) (wr : World) : Prop where
  folk : ∃ c, Folk B wr n c br (fun r => (r : Int)) K ∧ ∀ r, r < n → ∀ k ∈ sf, c r k = 0
  below : Below B w wr
  base : B ≤ w.heap.size
  safe : ∀ k ∈ sf, k < wr.heap.size
section
variable {B : Nat} {ad : Nat → Addr} {w : World} {n : Nat} {br : Nat → Nat} {K : Nat → Rws} {sf : List Nat} {wr : World}
theorem Band.size (h : Band B w n br K sf wr) : B ≤ wr.heap.size := Nat.le_trans h.base h.below.size
theorem Band.later {w' : World} (h : Band B w n br K sf wr) (hb : Below wr.heap.size wr w') : Band B w n br K sf w' := by
  obtain ⟨c, hf, hc⟩ := h.folk
  exact ⟨⟨c, hf.later hb, hc⟩, h.below.trans (hb.mono h.size), h.base, fun k hk => Nat.lt_of_lt_of_le (h.safe k hk) hb.size⟩
theorem Band.rows (h : Band B w n br K sf wr) {r : Nat} (hr : r < n) : RowsK (K r) := by
  obtain ⟨c, hf, _⟩ := h.folk
  exact (hf.rep r hr).wellK
theorem Band.guard {w' : World} (h : Band B w n br K sf wr) (hb : Below wr.heap.size wr w') {k : Nat} (hk : wr.heap.size ≤ k) (hk' : k < w'.heap.size) : Band B w n br K (k :: sf) w' := by
  obtain ⟨c, hf, hc⟩ := h.folk
  refine ⟨⟨c, hf.later hb, fun r hr j hj => ?_⟩, (h.later hb).below, h.base, fun j hj => ?_⟩
  · rcases List.mem_cons.1 hj with e | hj
    · rw [e]; exact (hf.rep r hr).high k hk
    · exact hc r hr j hj
  · rcases List.mem_cons.1 hj with e | hj
    · rw [e]; exact hk'
    · exact (h.later hb).safe j hj
theorem Band.few {m : Nat} (h : Band B w n br K sf wr) (hm : m ≤ n) : Band B w m br K sf wr := by
  obtain ⟨c, hf, hc⟩ := h.folk
  exact ⟨⟨c, ⟨fun r hr => hf.rep r (by omega), fun r hr s hs => hf.apart r (by omega) s (by omega)⟩, fun r hr => hc r (by omega)⟩, h.below, h.base, h.safe⟩
theorem Crowd.band {g cap i : Nat} (h : Crowd B w g cap br K i sf wr) : Band B w 4 br K (g :: sf) wr := by
  obtain ⟨c, hf, hc⟩ := h.folk
  refine ⟨⟨c, hf, hc⟩, h.below, h.base, fun k hk => ?_⟩
  rcases List.mem_cons.1 hk with e | hk
  · rw [e]; exact h.glt
  · exact h.safe k hk
theorem Band.add {w' : World} (h : Band B w n br K sf wr) {c0 : Nat → Nat} {br0 : Nat} {R0 : Rws} (h0 : RepOwn wr.heap.size w' c0 br0 (n : Int) R0) (hb : Below wr.heap.size wr w') : Band B w (n + 1) (setAt br n br0) (setAt K n R0) sf w' := by
  obtain ⟨c, hf, hc⟩ := h.folk
  refine ⟨⟨setAt c n c0, (hf.add h.size h0 hb).congr (fun r hr => ?_), fun r hr k hk => ?_⟩, (h.later hb).below, h.base, (h.later hb).safe⟩
  · by_cases e : r = n
    · subst e; rw [setAt_is]
    · rw [setAt_ne _ _ e]
  · by_cases e : r = n
    · subst e
      rw [setAt_is]
      by_cases e0 : c0 k = 0
      · exact e0
      · have := h0.low k e0
        have := h.safe k hk
        omega
    · rw [setAt_ne _ _ e]; exact hc r (by omega) k hk
theorem Band.act (h : Band B w n br K sf wr) {a : Nat} (ha : a < n) {w' : World} {c : Nat → Nat → Nat} (hf : Folk B wr n c br (fun r => (r : Int)) K) (hg : ∀ r, r < n → ∀ k ∈ sf, c r k = 0) {c' : Nat → Nat} {R' : Rws} (hA : Acts wr (c a) w' c') (hR : RepOwn B w' c' (br a) (a : Int) R') : Band B w n br (setAt K a R') sf w' ∧ ∀ k ∈ sf, w'.heap[k]? = wr.heap[k]? := by
  refine ⟨⟨⟨setAt c a c', hf.act ha hA hR, fun r hr k hk => ?_⟩, h.below.trans ((hf.rep a ha).below hA h.size), h.base, fun k hk => Nat.lt_of_lt_of_le (h.safe k hk) hA.keeps.size⟩, fun k hk => hA.keeps.block k (h.safe k hk) (fun q => q (hg a ha k hk))⟩
  by_cases e : r = a
  · subst e
    rw [setAt_is, hA.hue k (h.safe k hk)]
    exact hg r hr k hk
  · rw [setAt_ne _ _ e]; exact hg r hr k hk
theorem band_new (h : Band B w n br K sf wr) (hn : n < 4) :
    Calls Tryz.prog 9 #[.int .i64 (n : Int)] wr fun e w' => ∃ b, e = .returned (.tuple #[.pointer (some ⟨b, 0, none⟩), .nilIface]) ∧ Aside (Band B w (n + 1) (setAt br n b) (setAt K n (fun _ => [])) sf w' ∧ Below wr.heap.size wr w') := by
  refine (rnew_ok wr (n : Int) (by omega) (by omega)).mono ?_
  rintro e w' ⟨c, b, he, hR, hb⟩
  exact ⟨b, he, h.add hR hb, hb⟩
def BJoinOut (B : Nat) (w : World) (n : Nat) (br : Nat → Nat) (K : Nat → Rws) (a : Nat) (sf : List Nat) (wr : World) (T : List OpX) (e : Ending) (w' : World) : Prop := ∃ (m : Nat) (R' : Rws), e = .returned (.tuple #[.int .i64 (m : Int), .nilIface]) ∧ Aside (Band B w n br (setAt K a R') sf w' ∧ (∀ x, x ∈ allR R' ↔ x ∈ allR (K a) ∨ x ∈ T) ∧ (allR R').length = (allR (K a)).length + m ∧ ∀ k ∈ sf, w'.heap[k]? = wr.heap[k]?)
theorem band_join (h : Band B w n br K sf wr) (hE : EnvT B ad w) {a : Nat} (ha : a < n) (T : List OpX) (la : Option Addr) (lc : Nat) (l : List OpX) (hin : OpsIn wr la l) (hT : WellK T) (hc : Compat (allR (K a)) T) (hl : ∀ x, x ∈ l → x ∈ T) (hl2 : ∀ x, x ∈ T → x ∈ allR (K a) ∨ x ∈ l) (hll : (allR (K a)).length + l.length ≤ 140) :
    Calls Tryz.prog 11 #[.pointer (some ⟨br a, 0, none⟩), .slice la l.length lc] wr (BJoinOut B w n br K a sf wr l) := by
  obtain ⟨c, hf, hg⟩ := h.folk
  refine (joined wr (c a) (br a) (a : Int) (K a) la lc T l (hf.rep a ha) (hE.mono h.below) hin hT hc hl hl2 hll).mono ?_
  rintro e w' ⟨m, c', R', he, hA, hR', hm, hlen⟩
  have hact := h.act ha hf hg hA hR'
  exact ⟨m, R', he, hact.1, hm, hlen, hact.2⟩
def BSomeOut (B : Nat) (ad : Nat → Addr) (w : World) (n : Nat) (br : Nat → Nat) (K : Nat → Rws) (a : Nat) (sf : List Nat) (wr : World) (l : List OpX) (e : Ending) (w' : World) : Prop := ∃ (m : Nat) (cd : Nat) (R' : Rws), e = .returned (.tuple #[.int .i64 (m : Int), eV ad cd]) ∧ Aside (Band B w n br (setAt K a R') sf w' ∧ (Gap l → cd = 9) ∧ (cd ≠ 0 → allR R' = []) ∧ (∀ x, x ∈ allR R' → x ∈ l) ∧ (allR R').length ≤ l.length ∧ ∀ k ∈ sf, w'.heap[k]? = wr.heap[k]?)
theorem band_some (h : Band B w n br K sf wr) (hE : EnvT B ad w) {a : Nat} (ha : a < n) (T : List OpX) (la : Option Addr) (lc : Nat) (l : List OpX) (hin : OpsIn wr la l) (hT : WellK T) (h0 : K a = fun _ => []) (hl : ∀ x, x ∈ l → x ∈ T) (hll : l.length ≤ 60) :
    Calls Tryz.prog 11 #[.pointer (some ⟨br a, 0, none⟩), .slice la l.length lc] wr (BSomeOut B ad w n br K a sf wr l) := by
  obtain ⟨c, hf, hg⟩ := h.folk
  have e0 : allR (K a) = [] := by rw [h0]; rfl
  refine (join_any wr (c a) (br a) (a : Int) (K a) la lc l (hf.rep a ha) (hE.mono h.below).env hin (sized_ok (fun x hx => hT.ok x (hl x hx))) (by rw [e0]; simp; omega)).mono ?_
  rintro e w' ⟨x, c', hj, hA, hm⟩
  rw [e0] at hj
  obtain ⟨j1, j2⟩ := join_some hT hl hj
  rcases j2 with ⟨cd, hcd, rfl⟩ | ⟨fresh, rfl, hfr⟩
  · obtain ⟨hR, v, rfl, hv⟩ := hm
    rcases hv with ⟨_, rfl, _⟩ | ⟨q, _⟩
    · have hact := h.act ha hf hg hA hR
      refine ⟨0, cd, K a, rfl, hact.1, fun g => ?_, fun _ => e0, fun x hx => by rw [e0] at hx; simp at hx, by rw [e0]; simp, hact.2⟩
      have := j1 g
      simpa using this
    · omega
  · obtain ⟨rfl, R', hR, hmem⟩ := hm
    have hact := h.act ha hf hg hA hR
    have hsub : ∀ x, x ∈ allR R' → x ∈ l := fun x hx => by
      have := (hmem x).1 hx
      rw [e0, List.nil_append] at this
      exact (hfr x).1 this
    refine ⟨fresh.length, 0, R', by rw [show eV ad 0 = .nilIface from rfl], hact.1, fun g => ?_, fun q => absurd rfl q, hsub, len_sub hR.wellK.num.nodup hsub, hact.2⟩
    have := j1 g
    cases this
theorem band_ops (h : Band B w n br K sf wr) {b : Nat} (hb : b < n) (hl : (allR (K b)).length ≤ 1000) :
    Calls Tryz.prog 13 #[.pointer (some ⟨br b, 0, none⟩)] wr fun e w' => ∃ v ys, e = .returned v ∧ Aside (OpsAt w' v ys ∧ StableOf (allR (K b)) ys ∧ Below wr.heap.size wr w') := by
  obtain ⟨c, hf, hg⟩ := h.folk
  refine (rops_any wr (c b) (br b) (b : Int) (K b) (hf.rep b hb).rep hl).mono ?_
  rintro e w' ⟨v, ys, he, h1, h2, h3, _⟩
  exact ⟨v, ys, he, h1, h2, h3⟩
theorem band_state (h : Band B w n br K sf wr) (hE : EnvT B ad w) {b : Nat} (hb : b < n) (hl : (allR (K b)).length ≤ 300) :
    Calls Tryz.prog 17 #[.pointer (some ⟨br b, 0, none⟩)] wr fun e w' => ∃ s, e = .returned (.string ⟨s.toArray⟩) ∧ Aside (StateIs (allR (K b)) s ∧ Below wr.heap.size wr w') := by
  obtain ⟨c, hf, hg⟩ := h.folk
  refine (state_any wr (c b) (br b) (b : Int) (K b) (hf.rep b hb).rep (hE.mono h.below).is hl).mono ?_
  rintro e w' ⟨s, h1, h2, h3⟩
  exact ⟨s, h1, h2, h3⟩
end
end Go.Proofs.YtcggmagdndhkbaaGreatDoor
end
section
set_option linter.unusedVariables false
set_option linter.unusedSimpArgs false
namespace Go.Proofs.YtcggmagdndhkbaaGreatDoor
open Go.RowKit Go.Lib Go.Sort Go.Maps
def NewOps (w w' : World) (ao : Option Addr) (cap : Nat) (ys : List OpX) : Prop :=
  (ao = none ∧ cap = 0 ∧ ys = []) ∨ ∃ g, ao = some ⟨g, 0, none⟩ ∧ w.heap.size ≤ g ∧ g < w'.heap.size ∧ ys.length ≤ cap ∧ ∀ j u, (cellsOf ys)[j]? = some u → w'.cell? ⟨g, 0 + j, none⟩ = some u
def SortedOut (w : World) (xs : List OpX) (e : Ending) (w' : World) : Prop := ∃ ao cap ys, e = .returned (.slice ao ys.length cap) ∧ NewOps w w' ao cap ys ∧ StableOf xs ys ∧ Below w.heap.size w w'
theorem SortedOut.from_ {w w1 : World} {xs : List OpX} {e : Ending} {w' : World} (h : SortedOut w1 xs e w') (hb : Below w.heap.size w w1) : SortedOut w xs e w' := by
  obtain ⟨ao, cap, ys, h1, h2, h3, h4⟩ := h
  refine ⟨ao, cap, ys, h1, ?_, h3, hb.trans (h4.mono hb.size)⟩
  rcases h2 with h2 | ⟨g, q1, q2, q3, q4, q5⟩
  · exact .inl h2
  · exact .inr ⟨g, q1, Nat.le_trans hb.size q2, q3, q4, q5⟩
set_option maxHeartbeats 4000000 in
theorem opSort_c (w : World) (v : Value) (xs : List OpX) (h : OpsAt w v xs) (hn : xs.length ≤ 1000) :
    Calls Tryz.prog 58 #[v] w (SortedOut w xs) := by
  rcases h with ⟨rfl, rfl⟩ | ⟨blk, off, cap, rfl, hc⟩
  · go_enter Tryz.func58, Tryz.ntmps58
    go_wp2_with fail
    refine (clone_nil _).mono ?_
    rintro e w' ⟨rfl, rfl⟩
    go_wp2_with fail
    refine (sortStable_nil _ _).mono ?_
    rintro e w1 ⟨rfl, rfl⟩
    go_wp2
    go_ret
    exact ⟨none, 0, [], rfl, .inl ⟨rfl, rfl, rfl⟩, ⟨#[], ⟨permIn_refl _ _ _, fun i j _ _ hj => absurd hj (by simp)⟩, rfl⟩, Below.refl _ _⟩
  · have HC : Aside (∀ j u, (cellsOf xs)[j]? = some u → w.cell? ⟨blk, off + j, none⟩ = some u) := hc
    clear hc
    go_enter Tryz.func58, Tryz.ntmps58
    go_wp2_with fail
    refine (clone_some w blk off cap xs hn HC.out).mono ?_
    clear HC
    rintro e w1 ⟨v1, rfl, hown, hnil, hb⟩
    obtain ⟨g, c1, rfl, hg⟩ : ∃ g c1, v1 = .slice (some ⟨g, 0, none⟩) xs.length c1 ∧ Aside (w.heap.size ≤ g ∧ g < w1.heap.size ∧ xs.length ≤ c1) := by
      rcases hown.2 with ⟨h1, _⟩ | ⟨g, c1, cur, h1, h2, h3, h4, _⟩
      · exact absurd h1 hnil
      · exact ⟨g, c1, h1, h2, (Array.getElem?_eq_some_iff.1 h3).1, h4⟩
    have R0 : Aside (RowK encT 8 w1 g 0 (tagged xs)) := row_of rfl hown
    have HB : Aside (Below w.heap.size w w1) := hb
    clear hown hnil hb
    go_wp2_with fail
    have C := sortStable_any w1 g 0 c1 (tagged xs) R0.out (fun p hp => by rw [tagged_at xs p (by rw [tagged_size] at hp; exact hp)]) (by rw [tagged_size]; omega)
    rw [tagged_size] at C
    refine C.mono ?_
    clear C
    rintro e w2 ⟨rfl, d', hd, S⟩
    have hl : d'.size = xs.length := by rw [hd.1.1, tagged_size]
    have hl2 : (d'.toList.map Prod.fst).length = xs.length := by rw [List.length_map, Array.length_toList]; exact hl
    have F : Aside ((∀ j u, (cellsOf (d'.toList.map Prod.fst))[j]? = some u → w2.cell? ⟨g, 0 + j, none⟩ = some u) ∧ StableOf xs (d'.toList.map Prod.fst) ∧ Below w.heap.size w w2 ∧ (d'.toList.map Prod.fst).length = xs.length ∧ w1.heap.size ≤ w2.heap.size) :=
      ⟨fun j u hj => sorted_at R0.out (by rw [hl, tagged_size]) S j u hj, ⟨d', hd, rfl⟩, below_sorted HB.out hg.out.1 HB.out.size S, hl2, (below_sorted (B := g) (Below.refl g w1) (Nat.le_refl _) (Nat.le_of_lt hg.out.2.1) S).size⟩
    clear hd S R0 HB hl hl2
    go_wp2
    go_ret
    refine ⟨some ⟨g, 0, none⟩, c1, _, by rw [F.out.2.2.2.1]; rfl, .inr ⟨g, rfl, hg.out.1, Nat.lt_of_lt_of_le hg.out.2.1 F.out.2.2.2.2, by rw [F.out.2.2.2.1]; exact hg.out.2.2, F.out.1⟩, F.out.2.1, F.out.2.2.1⟩
set_option maxRecDepth 100000 in
set_option maxHeartbeats 2000000 in
theorem kall_c (w : World) (ao : Nat → Option Addr) (cap : Nat → Nat) (R : Rws) (hK : KnownAt w ao R) (hnil : ∀ i, i < 4 → ao i = none → cap i = 0) (hn : (allR R).length ≤ 1000) :
    Calls Tryz.prog 61 #[kV ao cap R] w (SortedOut w (allR R)) := by
  obtain ⟨W, hW⟩ : ∃ W, W = w.alloc (.cells #[.slice (ao 0) (R 0).length (cap 0), .slice (ao 1) (R 1).length (cap 1), .slice (ao 2) (R 2).length (cap 2), .slice (ao 3) (R 3).length (cap 3)] 79 (0, 0)) := ⟨_, rfl⟩
  have hb : Below w.heap.size w W := by rw [hW]; exact (Below.refl _ w).alloc (Nat.le_refl _) _
  have hbox : KBox W w.heap.size ao cap R := by rw [hW]; exact heap_alloc_new w _
  have hcat := concat_any W w.heap.size ao cap R hbox (hK.later hb) hnil hn
  have H : Aside (W = w.alloc (.cells #[.slice (ao 0) (R 0).length (cap 0), .slice (ao 1) (R 1).length (cap 1), .slice (ao 2) (R 2).length (cap 2), .slice (ao 3) (R 3).length (cap 3)] 79 (0, 0)) ∧ Below w.heap.size w W ∧ (allR R).length ≤ 1000) := ⟨hW, hb, hn⟩
  clear hW hb hbox hK hnil hn
  unfold kV
  go_enter Tryz.func61, Tryz.ntmps61
  go_wp2_with fail
  rw [← H.out.1]
  refine hcat.mono ?_
  clear hcat
  rintro e w1 ⟨v1, rfl, ho1, hb1⟩
  have H1 : Below w.heap.size w w1 := H.out.2.1.trans (hb1.mono H.out.2.1.size)
  have hs := (opSort_c w1 v1 (allR R) (ownsOps ho1) H.out.2.2).mono (R' := fun e w' => ∃ v, e = .returned v ∧ Aside (SortedOut w (allR R) (.returned v) w')) (fun e w' q => by
    have q' := q.from_ H1
    obtain ⟨a, b, c, q1, q2⟩ := q'
    subst q1
    exact ⟨_, rfl, a, b, c, rfl, q2⟩)
  clear ho1 hb1 H H1
  go_wp2_with fail
  refine hs.mono ?_
  clear hs
  rintro e w2 ⟨v2, rfl, H2⟩
  go_wp2
  go_ret
  exact H2.out
set_option maxRecDepth 100000 in
set_option maxHeartbeats 2000000 in
theorem rops_c (w : World) (c : Nat → Nat) (br : Nat) (by_ : Int) (R : Rws) (h : RepAt w c br by_ R) (hn : (allR R).length ≤ 1000) :
    Calls Tryz.prog 13 #[.pointer (some ⟨br, 0, none⟩)] w (SortedOut w (allR R)) := by
  obtain ⟨T, kv, bt, bx, bc, A, hm, hp, hK, hb⟩ := h
  obtain ⟨ao, cap, hM⟩ := hm.norm
  have hall := (kall_c w ao cap R (KnownAt.of_rows hM.rows) (rows_nil hM.rows) hn).mono (R' := fun e w' => ∃ v, e = .returned v ∧ Aside (SortedOut w (allR R) (.returned v) w')) (fun e w' q => by
    obtain ⟨a, b, c, q1, q2⟩ := q
    subst q1
    exact ⟨_, rfl, a, b, c, rfl, q2⟩)
  unfold kV at hall
  have k2 : w.cell? ⟨br, 2, none⟩ = some (.slice (ao 0) (R 0).length (cap 0)) := hM.cell.c2
  have k3 : w.cell? ⟨br, 3, none⟩ = some (.slice (ao 1) (R 1).length (cap 1)) := hM.cell.c3
  have k4 : w.cell? ⟨br, 4, none⟩ = some (.slice (ao 2) (R 2).length (cap 2)) := hM.cell.c4
  have k5 : w.cell? ⟨br, 5, none⟩ = some (.slice (ao 3) (R 3).length (cap 3)) := hM.cell.c5
  clear hm hM hp hK hb hn
  go_enter Tryz.func13, Tryz.ntmps13
  go_wp2_with fail
  refine hall.mono ?_
  clear hall
  rintro e w2 ⟨v2, rfl, H2⟩
  go_wp2
  go_ret
  exact H2.out
theorem cellsOf_take (ys : List OpX) (c : Nat) {j : Nat} {u : Value} (h : (cellsOf (ys.take c))[j]? = some u) : (cellsOf ys)[j]? = some u := by
  have e : cellsOf ys = cellsOf (ys.take c) ++ cellsOf (ys.drop c) := by rw [← cellsOf_app, List.take_append_drop]
  rw [e, List.getElem?_append_left (List.getElem?_eq_some_iff.1 h).1]; exact h
theorem cellsOf_drop (ys : List OpX) {c : Nat} (hc : c ≤ ys.length) {j : Nat} {u : Value} (h : (cellsOf (ys.drop c))[j]? = some u) : (cellsOf ys)[c * 8 + j]? = some u := by
  have e : cellsOf ys = cellsOf (ys.take c) ++ cellsOf (ys.drop c) := by rw [← cellsOf_app, List.take_append_drop]
  have l : (cellsOf (ys.take c)).length = c * 8 := by rw [cellsOf_len, List.length_take]; congr 1; omega
  rw [e, List.getElem?_append_right (by omega), l]
  rw [show c * 8 + j - c * 8 = j by omega]; exact h
theorem cut_ops {w w' : World} {ao : Option Addr} {cap : Nat} {ys : List OpX} (h : NewOps w w' ao cap ys) {c : Nat} (hc : c ≤ ys.length) : ∃ V1 V2 : Value, (∀ W, (Instr.slice 36 (.slice ao ys.length cap) none (some (.int .i64 (c : Int))) none).run Tryz.prog W = .ok V1 W) ∧ (∀ W, (Instr.slice 36 (.slice ao ys.length cap) (some (.int .i64 (c : Int))) none none).run Tryz.prog W = .ok V2 W) ∧ ∀ W, (∀ g, ao = some ⟨g, 0, none⟩ → ∀ j u, (cellsOf ys)[j]? = some u → W.cell? ⟨g, 0 + j, none⟩ = some u) → OpsAt W V1 (ys.take c) ∧ OpsAt W V2 (ys.drop c) := by
  have hT : Tryz.prog.underlying 36 = some (.slice (Tryz.prog.elem 36)) := by kernel_rfl
  have hz := Tryz.sizeOf31
  have he : Tryz.prog.elem 36 = 31 := by kernel_rfl
  have hcap : (c : Int) ≤ (cap : Int) := by
    rcases h with ⟨_, h2, h3⟩ | ⟨g, _, _, _, h4, _⟩
    · subst h3; simp at hc; omega
    · omega
  refine ⟨sliced ao 0 c cap 8, sliced ao c ys.length cap 8, fun W => ?_, fun W => ?_, fun W hW => ?_⟩
  · rw [run_slice_h W 36 ao ys.length cap hT .i64 (c : Int) (by omega) hcap, he, hz]
    simp [Result.andThen]
  · rw [run_slice_l W 36 ao ys.length cap hT .i64 (c : Int) (by omega) (by omega), he, hz]
    simp [Result.andThen]
  · rcases h with ⟨h1, h2, h3⟩ | ⟨g, h1, _, _, h4, _⟩
    · subst h1 h2 h3
      have : c = 0 := by simpa using hc
      subst this
      exact ⟨.inl ⟨rfl, rfl⟩, .inl ⟨rfl, rfl⟩⟩
    · subst h1
      have hcells := hW g rfl
      refine ⟨.inr ⟨g, 0, cap, ?_, fun j u hj => hcells j u (cellsOf_take ys c hj)⟩, ?_⟩
      · unfold sliced
        rw [List.length_take, Nat.min_eq_left hc]
        simp [Addr.add]
      · by_cases e : cap = c
        · have hd : ys.drop c = [] := List.drop_eq_nil_of_le (by omega)
          rw [hd]
          refine .inr ⟨g, 0, cap - c, ?_, fun j u hj => by simp [cellsOf] at hj⟩
          unfold sliced
          rw [if_pos e, show ys.length - c = 0 by omega]; rfl
        · refine .inr ⟨g, c * 8, cap - c, ?_, fun j u hj => ?_⟩
          · unfold sliced
            rw [if_neg e, List.length_drop]
            simp only [Option.map_some, Addr.add, Nat.zero_add]
            by_cases h0 : c * 8 = 0
            · rw [if_pos h0, h0]
            · rw [if_neg h0]
          · have := hcells _ _ (cellsOf_drop ys hc hj)
            rwa [Nat.zero_add] at this
end Go.Proofs.YtcggmagdndhkbaaGreatDoor
end
section
namespace Go.Proofs.YtcggmagdndhkbaaGreatDoor
open Go.RowKit Go.Extern.Stop Go.Stop Go.Extern
theorem Tryz.xValueOfPP (t : Addr) (w : World) : (ReflectliteValue.unpack (.iface 242 (.pointer (some t)))).run Tryz.prog w
    = .ok (.agg #[.pointer (some ⟨19, 242, none⟩), .pointer (some ⟨w.heap.size, 0, none⟩), .int .u64 150]) (w.alloc (.cells #[.pointer (some t)] 242)) := by kernel_rfl
theorem Tryz.xTypePP (a : Addr) (w : World) : (ReflectliteValue.methodAny (ReflectliteValue.valueError "reflectlite.Value.Type" 0) (fun t _ _ _ => ReflectliteType.toType t) #[.agg #[.pointer (some ⟨19, 242, none⟩), .pointer (some a), .int .u64 150]]).run Tryz.prog w
    = .ok (.iface 345 (.agg #[.pointer (some ⟨19, 242, none⟩)])) w := by kernel_rfl
theorem Tryz.xMethodKind (h : Value) (w : World) : (Go.method 546 345 (.agg #[h]) "Kind").run Tryz.prog w = .ok (350, h) w := by kernel_rfl
theorem Tryz.xKindPP (w : World) : ((ReflectliteType.abiMethod fun t => Functor.map (fun a : Nat => Value.int IntKind.u8 (a : Int)) (Rtype.kind t)) #[.pointer (some ⟨19, 242, none⟩)]).run Tryz.prog w = .ok (.int .u8 22) w := by kernel_rfl
theorem Tryz.xKindP (w : World) : ((ReflectliteType.abiMethod fun t => Functor.map (fun a : Nat => Value.int IntKind.u8 (a : Int)) (Rtype.kind t)) #[.pointer (some ⟨19, 193, none⟩)]).run Tryz.prog w = .ok (.int .u8 22) w := by kernel_rfl
theorem Tryz.xIsNilPP (a p : Addr) (W : World) (ha : W.cell? a = some (.pointer (some p))) :
    (ReflectliteValue.method (ReflectliteValue.valueError "reflectlite.Value.IsNil" 0) ReflectliteValue.isNil #[.agg #[.pointer (some ⟨19, 242, none⟩), .pointer (some a), .int .u64 150]]).run Tryz.prog W = .ok (.bool false) W := by
  rw [show (ReflectliteValue.method (ReflectliteValue.valueError "reflectlite.Value.IsNil" 0) ReflectliteValue.isNil #[.agg #[.pointer (some ⟨19, 242, none⟩), .pointer (some a), .int .u64 150]]).run Tryz.prog W = (ReflectliteValue.isNil 242 a 150 22).run Tryz.prog W by kernel_rfl]
  simp [ReflectliteValue.isNil, loadVar, isAgg, underlying, Tryz.underlying242, ha, Result.andThen]
theorem Tryz.xMethodElem (h : Value) (w : World) : (Go.method 546 345 (.agg #[h]) "Elem").run Tryz.prog w = .ok (364, .agg #[h]) w := by kernel_rfl
theorem Tryz.xMethodImplements (h : Value) (w : World) : (Go.method 546 345 (.agg #[h]) "Implements").run Tryz.prog w = .ok (365, .agg #[h]) w := by kernel_rfl
theorem Tryz.xMethodAssignableTo (h : Value) (w : World) : (Go.method 546 345 (.agg #[h]) "AssignableTo").run Tryz.prog w = .ok (362, .agg #[h]) w := by kernel_rfl
theorem Tryz.xElemPP (w : World) : (ReflectliteType.method ReflectliteType.elem #[.agg #[.pointer (some ⟨19, 242, none⟩)]]).run Tryz.prog w = .ok (.iface 345 (.agg #[.pointer (some ⟨19, 193, none⟩)])) w := by kernel_rfl
theorem Tryz.xImplementsP (w : World) : (ReflectliteType.relation "Implements" ReflectliteType.implements_ #[.agg #[.pointer (some ⟨19, 193, none⟩)], .iface 345 (.agg #[.pointer (some ⟨19, 25, none⟩)])]).run Tryz.prog w = .ok (.bool true) w := by kernel_rfl
theorem Tryz.xTypeOfS (v : Value) (w : World) : (ReflectliteType.typeOf #[.iface 416 v]).run Tryz.prog w = .ok (.iface 345 (.agg #[.pointer (some ⟨19, 416, none⟩)])) w := by kernel_rfl
theorem Tryz.xAssignableS (w : World) : (ReflectliteType.relation "AssignableTo" ReflectliteType.assignableTo #[.agg #[.pointer (some ⟨19, 416, none⟩)], .iface 345 (.agg #[.pointer (some ⟨19, 193, none⟩)])]).run Tryz.prog w = .ok (.bool false) w := by kernel_rfl
theorem Tryz.xNoAsS (v : Value) (xT : TypeId) (w : World) : (Instr.typeAssert (.iface 416 v) xT 349 true).run Tryz.prog w = .ok (.tuple #[.nilIface, .bool false]) w := run_typeAssert_lacksB Tryz.underlying349 (by kernel_rfl) (by kernel_rfl) v xT w
theorem Tryz.xNoIsS (v : Value) (xT : TypeId) (w : World) : (Instr.typeAssert (.iface 416 v) xT 356 true).run Tryz.prog w = .ok (.tuple #[.nilIface, .bool false]) w := run_typeAssert_lacksB Tryz.underlying356 (by kernel_rfl) (by kernel_rfl) v xT w
theorem Tryz.xNoUnwrapS (v : Value) (xT : TypeId) (w : World) : (Instr.typeAssert (.iface 416 v) xT 352 true).run Tryz.prog w = .ok (.tuple #[.nilIface, .bool false]) w := run_typeAssert_lacksB Tryz.underlying352 (by kernel_rfl) (by kernel_rfl) v xT w
theorem Tryz.xNoUnwrapsS (v : Value) (xT : TypeId) (w : World) : (Instr.typeAssert (.iface 416 v) xT 354 true).run Tryz.prog w = .ok (.tuple #[.nilIface, .bool false]) w := run_typeAssert_lacksB Tryz.underlying354 (by kernel_rfl) (by kernel_rfl) v xT w
def xCmp : Array Value → Sem Value := ReflectliteType.method fun t => do Rtype.noPackHeld "Comparable" t; pure (.bool (← typeInfo t).comparable)
theorem Tryz.xComparable (w : World) : (xCmp #[.agg #[.pointer (some ⟨19, 416, none⟩)]]).run Tryz.prog w = .ok (.bool true) w := by kernel_rfl
theorem Tryz.xMethodComparable (v : Value) (w : World) : (Go.method 546 345 v "Comparable").run Tryz.prog w = .ok (363, v) w := by kernel_rfl
theorem Tryz.xComp : (Tryz.prog.info? 416).map (·.comparable) = some true := by kernel_rfl
theorem Tryz.xSize : (Tryz.prog.info? 434).map (·.size) = some 1 := by kernel_rfl
end Go.Proofs.YtcggmagdndhkbaaGreatDoor
end
section
namespace Go.Proofs.YtcggmagdndhkbaaGreatDoor
open Go.RowKit Go.Extern.Stop Go.Stop Go.Extern
theorem is_same (a : Addr) (w : World) :
    Calls Tryz.prog 145 #[.iface 416 (.pointer (some a)), .iface 416 (.pointer (some a))] w fun e w' => e = .returned (.bool true) ∧ w' = w := by
  obtain ⟨i, hi, hcmp⟩ := Option.map_eq_some_iff.1 Tryz.xComp
  obtain ⟨j, hj, hjs⟩ := Option.map_eq_some_iff.1 Tryz.xSize
  have h8 := @run_callFunc_extern Tryz.prog 208 _ Extern.ReflectliteType.typeOf Tryz.func208 (by kernel_rfl) (by kernel_rfl) (by kernel_rfl) (by kernel_rfl)
  have h32 := @run_callFunc_extern Tryz.prog 363 _ xCmp Tryz.func363 (by kernel_rfl) (by kernel_rfl) (by kernel_rfl) (by kernel_rfl)
  have tT := Tryz.xTypeOfS
  have cT := Tryz.xComparable
  have mR := Tryz.xMethodComparable
  have heq := run_eql_iface_ptr_same (P := Tryz.prog) w a Tryz.underlying25 Tryz.underlying416 hi hcmp hj
  go_enter Tryz.func145, Tryz.ntmps145
  go_wp2
  refine wp_loop_rounds 1 ?_
  rw [rounds_succ]
  go_wp2
  go_ret
  exact ⟨rfl, rfl⟩
theorem is_other (a b : Addr) (ca cb : Array Value) (ta tb : TypeId) (w : World) (hne : a ≠ b) (ha : w.heap[a.block]? = some (.cells ca ta (0, 0))) (hb : w.heap[b.block]? = some (.cells cb tb (0, 0))) :
    Calls Tryz.prog 145 #[.iface 416 (.pointer (some a)), .iface 416 (.pointer (some b))] w fun e w' => e = .returned (.bool false) ∧ w' = w := by
  obtain ⟨i, hi, hcmp⟩ := Option.map_eq_some_iff.1 Tryz.xComp
  obtain ⟨j, hj, hjs⟩ := Option.map_eq_some_iff.1 Tryz.xSize
  have h8 := @run_callFunc_extern Tryz.prog 208 _ Extern.ReflectliteType.typeOf Tryz.func208 (by kernel_rfl) (by kernel_rfl) (by kernel_rfl) (by kernel_rfl)
  have h32 := @run_callFunc_extern Tryz.prog 363 _ xCmp Tryz.func363 (by kernel_rfl) (by kernel_rfl) (by kernel_rfl) (by kernel_rfl)
  have tT := Tryz.xTypeOfS
  have cT := Tryz.xComparable
  have mR := Tryz.xMethodComparable
  have nE := Tryz.xNoIsS
  have uE := Tryz.xNoUnwrapS
  have vE := Tryz.xNoUnwrapsS
  have heq := run_eql_iface_ptr_other (P := Tryz.prog) w Tryz.underlying25 Tryz.underlying416 hi hcmp hj (by rw [hjs]; decide) hne ha hb
  go_enter Tryz.func145, Tryz.ntmps145
  go_wp2
  refine wp_loop_rounds 1 ?_
  rw [rounds_succ]
  go_wp2
  go_ret
  exact ⟨rfl, rfl⟩
end Go.Proofs.YtcggmagdndhkbaaGreatDoor
end
section
namespace Go.Proofs.YtcggmagdndhkbaaGreatDoor
open Go.RowKit Go.Extern.Stop Go.Stop Go.Extern
set_option maxHeartbeats 4000000 in
theorem as_no (a t : Addr) (w : World) (hg : w.cell? ⟨12, 0, none⟩ = some (.iface 345 (.agg #[.pointer (some ⟨19, 25, none⟩)]))) :
    Calls Tryz.prog 144 #[.iface 416 (.pointer (some a)), .iface 242 (.pointer (some t))] w fun ev w' => ev = .returned (.bool false) ∧ Below w.heap.size w w' := by
  have h6 := @run_callFunc_extern Tryz.prog 204 _ (fun args => ReflectliteValue.unpack (args.getD 0 (.tuple #[]))) Tryz.func204 (by kernel_rfl) (by kernel_rfl) (by kernel_rfl) (by kernel_rfl)
  have h7 := @run_callFunc_extern Tryz.prog 205 _ (ReflectliteValue.methodAny (ReflectliteValue.valueError "reflectlite.Value.Type" 0) (fun t _ _ _ => ReflectliteType.toType t)) Tryz.func205 (by kernel_rfl) (by kernel_rfl) (by kernel_rfl) (by kernel_rfl)
  have h8 := @run_callFunc_extern Tryz.prog 206 _ (ReflectliteValue.method (ReflectliteValue.valueError "reflectlite.Value.IsNil" 0) ReflectliteValue.isNil) Tryz.func206 (by kernel_rfl) (by kernel_rfl) (by kernel_rfl) (by kernel_rfl)
  have h27 := @run_callFunc_extern Tryz.prog 350 _ (ReflectliteType.abiMethod fun t => do pure (.int .u8 (← Rtype.kind t))) Tryz.func350 (by kernel_rfl) (by kernel_rfl) (by kernel_rfl) (by kernel_rfl)
  have h37 := @run_callFunc_extern Tryz.prog 364 _ (ReflectliteType.method ReflectliteType.elem) Tryz.func364 (by kernel_rfl) (by kernel_rfl) (by kernel_rfl) (by kernel_rfl)
  have h38 := @run_callFunc_extern Tryz.prog 365 _ (ReflectliteType.relation "Implements" ReflectliteType.implements_) Tryz.func365 (by kernel_rfl) (by kernel_rfl) (by kernel_rfl) (by kernel_rfl)
  have h10 := @run_callFunc_extern Tryz.prog 208 _ ReflectliteType.typeOf Tryz.func208 (by kernel_rfl) (by kernel_rfl) (by kernel_rfl) (by kernel_rfl)
  have h35 := @run_callFunc_extern Tryz.prog 362 _ (ReflectliteType.relation "AssignableTo" ReflectliteType.assignableTo) Tryz.func362 (by kernel_rfl) (by kernel_rfl) (by kernel_rfl) (by kernel_rfl)
  have tO := Tryz.xTypeOfS
  have mA := Tryz.xMethodAssignableTo
  have a25 := Tryz.xAssignableS
  have f6 := Tryz.xValueOfPP
  have f7 := Tryz.xTypePP
  have mK := Tryz.xMethodKind
  have mE := Tryz.xMethodElem
  have mI := Tryz.xMethodImplements
  have k27 := Tryz.xKindPP
  have k25 := Tryz.xKindP
  have e27 := Tryz.xElemPP
  have i25 := Tryz.xImplementsP
  have nA := Tryz.xNoAsS
  have uE := Tryz.xNoUnwrapS
  have vE := Tryz.xNoUnwrapsS
  have n8 := Tryz.xIsNilPP ⟨w.heap.size, 0, none⟩ t ((w.alloc (.cells #[.pointer (some t)] 242)).alloc (.cells #[.pointer (some ⟨19, 242, none⟩), .pointer (some ⟨w.heap.size, 0, none⟩), .int .u64 150] 288)) (by simp)
  have hlt : 12 < w.heap.size := by
    rcases Nat.lt_or_ge 12 w.heap.size with h | h
    · exact h
    · simp [World.cell?, Array.getElem?_eq_none h] at hg
  have hg2 : ((w.alloc (.cells #[.pointer (some t)] 242)).alloc (.cells #[.pointer (some ⟨19, 242, none⟩), .pointer (some ⟨w.heap.size, 0, none⟩), .int .u64 150] 288)).cell? ⟨12, 0, none⟩ = some (.iface 345 (.agg #[.pointer (some ⟨19, 25, none⟩)])) := by
    rw [World.cell?_alloc_lt _ _ ⟨12, 0, none⟩ (by simp; omega), World.cell?_alloc_lt _ _ ⟨12, 0, none⟩ hlt]; exact hg
  go_enter Tryz.func144, Tryz.ntmps144
  go_wp2
  refine wp_loop_rounds 1 ?_
  rw [rounds_succ]
  go_wp2
  go_ret
  exact ⟨rfl, (((Below.refl _ _).alloc (Nat.le_refl _) _).alloc (by simp) _).alloc (by simp; omega) _⟩
end Go.Proofs.YtcggmagdndhkbaaGreatDoor
end
