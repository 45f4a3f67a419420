import Derived.Test.YtcggmagdndhkbaaGreatDoorWt08
import Derived.Test.YtcggmagdndhkbaaGreatDoorWt35
import Derived.WalkKit
import Derived.WalkSpells
import Derived.Below
import Derived.LoopN
import Derived.KernelRfl
section
set_option linter.unusedVariables false
set_option linter.unusedSimpArgs false
namespace Go.Proofs.YtcggmagdndhkbaaGreatDoor
open Go.RowKit Go.Lib Go.Sort Go.Maps
open scoped Classical
structure Band (B : Nat) (w : World) (n : Nat) (br : Nat → Nat) (K : Nat → Rws) (sf : List Nat) (wr : World) : Prop where
  folk : ∃ c, Folk B wr n c br (fun r => (r : Int)) K ∧ ∀ r, r < n → ∀ k ∈ sf, c r k = 0
  below : Below B w wr
  base : B ≤ w.heap.size
  safe : ∀ k ∈ sf, k < wr.heap.size
section
variable {B : Nat} {ad : Nat → Addr} {w : World} {n : Nat} {br : Nat → Nat} {K : Nat → Rws} {sf : List Nat} {wr : World}
theorem Band.none (hB : B ≤ w.heap.size) (br : Nat → Nat) (K : Nat → Rws) : Band B w 0 br K [] w :=
  ⟨⟨fun _ _ => 0, Folk.none _ _ _ _ _ _, fun r hr => absurd hr (by omega)⟩, Below.refl _ _, hB, fun k hk => by simp at hk⟩
theorem Band.size (h : Band B w n br K sf wr) : B ≤ wr.heap.size := Nat.le_trans h.base h.below.size
theorem Band.later {w' : World} (h : Band B w n br K sf wr) (hb : Below wr.heap.size wr w') : Band B w n br K sf w' := by
  obtain ⟨c, hf, hc⟩ := h.folk
  exact ⟨⟨c, hf.later hb, hc⟩, h.below.trans (hb.mono h.size), h.base, fun k hk => Nat.lt_of_lt_of_le (h.safe k hk) hb.size⟩
theorem Band.rows (h : Band B w n br K sf wr) {r : Nat} (hr : r < n) : RowsK (K r) := by
  obtain ⟨c, hf, _⟩ := h.folk
  exact (hf.rep r hr).wellK
theorem Band.guard {w' : World} (h : Band B w n br K sf wr) (hb : Below wr.heap.size wr w') {k : Nat} (hk : wr.heap.size ≤ k) (hk' : k < w'.heap.size) : Band B w n br K (k :: sf) w' := by
  obtain ⟨c, hf, hc⟩ := h.folk
  refine ⟨⟨c, hf.later hb, fun r hr j hj => ?_⟩, (h.later hb).below, h.base, fun j hj => ?_⟩
  · rcases List.mem_cons.1 hj with e | hj
    · rw [e]; exact (hf.rep r hr).high k hk
    · exact hc r hr j hj
  · rcases List.mem_cons.1 hj with e | hj
    · rw [e]; exact hk'
    · exact (h.later hb).safe j hj
theorem Band.less {sf' : List Nat} (h : Band B w n br K sf wr) (hs : ∀ k, k ∈ sf' → k ∈ sf) : Band B w n br K sf' wr := by
  obtain ⟨c, hf, hc⟩ := h.folk
  exact ⟨⟨c, hf, fun r hr k hk => hc r hr k (hs k hk)⟩, h.below, h.base, fun k hk => h.safe k (hs k hk)⟩
theorem Band.add {w' : World} (h : Band B w n br K sf wr) {c0 : Nat → Nat} {br0 : Nat} {R0 : Rws} (h0 : RepOwn wr.heap.size w' c0 br0 (n : Int) R0) (hb : Below wr.heap.size wr w') : Band B w (n + 1) (setAt br n br0) (setAt K n R0) sf w' := by
  obtain ⟨c, hf, hc⟩ := h.folk
  refine ⟨⟨setAt c n c0, (hf.add h.size h0 hb).congr (fun r hr => ?_), fun r hr k hk => ?_⟩, (h.later hb).below, h.base, (h.later hb).safe⟩
  · by_cases e : r = n
    · subst e; rw [setAt_is]
    · rw [setAt_ne _ _ e]
  · by_cases e : r = n
    · subst e
      rw [setAt_is]
      by_cases e0 : c0 k = 0
      · exact e0
      · have := h0.low k e0
        have := h.safe k hk
        omega
    · rw [setAt_ne _ _ e]; exact hc r (by omega) k hk
theorem Band.act (h : Band B w n br K sf wr) {a : Nat} (ha : a < n) {w' : World} {c : Nat → Nat → Nat} (hf : Folk B wr n c br (fun r => (r : Int)) K) (hg : ∀ r, r < n → ∀ k ∈ sf, c r k = 0) {c' : Nat → Nat} {R' : Rws} (hA : Acts wr (c a) w' c') (hR : RepOwn B w' c' (br a) (a : Int) R') : Band B w n br (setAt K a R') sf w' ∧ ∀ k ∈ sf, w'.heap[k]? = wr.heap[k]? := by
  refine ⟨⟨⟨setAt c a c', hf.act ha hA hR, fun r hr k hk => ?_⟩, h.below.trans ((hf.rep a ha).below hA h.size), h.base, fun k hk => Nat.lt_of_lt_of_le (h.safe k hk) hA.keeps.size⟩, fun k hk => hA.keeps.block k (h.safe k hk) (fun q => q (hg a ha k hk))⟩
  by_cases e : r = a
  · subst e
    rw [setAt_is, hA.hue k (h.safe k hk)]
    exact hg r hr k hk
  · rw [setAt_ne _ _ e]; exact hg r hr k hk
theorem band_new (h : Band B w n br K sf wr) (hn : n < 4) :
    Calls Tryz.prog 9 #[.int .i64 (n : Int)] wr fun e w' => ∃ b, e = .returned (.tuple #[.pointer (some ⟨b, 0, none⟩), .nilIface]) ∧ Aside (Band B w (n + 1) (setAt br n b) (setAt K n (fun _ => [])) sf w' ∧ Below wr.heap.size wr w') := by
  refine (rnew_ok wr (n : Int) (by omega) (by omega)).mono ?_
  rintro e w' ⟨c, b, he, hR, hb⟩
  exact ⟨b, he, h.add hR hb, hb⟩
def BJoinOut (B : Nat) (w : World) (n : Nat) (br : Nat → Nat) (K : Nat → Rws) (a : Nat) (sf : List Nat) (wr : World) (T : List OpX) (e : Ending) (w' : World) : Prop := ∃ (m : Nat) (R' : Rws), e = .returned (.tuple #[.int .i64 (m : Int), .nilIface]) ∧ Aside (Band B w n br (setAt K a R') sf w' ∧ (∀ x, x ∈ allR R' ↔ x ∈ allR (K a) ∨ x ∈ T) ∧ (allR R').length = (allR (K a)).length + m ∧ ∀ k ∈ sf, w'.heap[k]? = wr.heap[k]?)
theorem band_join (h : Band B w n br K sf wr) (hE : EnvT B ad w) {a : Nat} (ha : a < n) (T : List OpX) (la : Option Addr) (lc : Nat) (l : List OpX) (hin : OpsIn wr la l) (hT : WellK T) (hc : Compat (allR (K a)) T) (hl : ∀ x, x ∈ l → x ∈ T) (hl2 : ∀ x, x ∈ T → x ∈ allR (K a) ∨ x ∈ l) (hll : (allR (K a)).length + l.length ≤ 140) :
    Calls Tryz.prog 11 #[.pointer (some ⟨br a, 0, none⟩), .slice la l.length lc] wr (BJoinOut B w n br K a sf wr l) := by
  obtain ⟨c, hf, hg⟩ := h.folk
  refine (joined wr (c a) (br a) (a : Int) (K a) la lc T l (hf.rep a ha) (hE.mono h.below) hin hT hc hl hl2 hll).mono ?_
  rintro e w' ⟨m, c', R', he, hA, hR', hm, hlen⟩
  have hact := h.act ha hf hg hA hR'
  exact ⟨m, R', he, hact.1, hm, hlen, hact.2⟩
theorem band_ops (h : Band B w n br K sf wr) {b : Nat} (hb : b < n) (hl : (allR (K b)).length ≤ 1000) :
    Calls Tryz.prog 13 #[.pointer (some ⟨br b, 0, none⟩)] wr fun e w' => ∃ v ys, e = .returned v ∧ Aside (OpsAt w' v ys ∧ StableOf (allR (K b)) ys ∧ Below wr.heap.size wr w') := by
  obtain ⟨c, hf, hg⟩ := h.folk
  refine (rops_any wr (c b) (br b) (b : Int) (K b) (hf.rep b hb).rep hl).mono ?_
  rintro e w' ⟨v, ys, he, h1, h2, h3, _⟩
  exact ⟨v, ys, he, h1, h2, h3⟩
end
end Go.Proofs.YtcggmagdndhkbaaGreatDoor
end
section
set_option linter.unusedVariables false
set_option linter.unusedSimpArgs false
namespace Go.Proofs.YtcggmagdndhkbaaGreatDoor
open Go.RowKit Go.Lib Go.Sort Go.Maps
open scoped Classical
def WroteOut (ad : Nat → Addr) (w : World) (R : Rws) (i : Nat) (nd n : Int) (ch : UInt8) (e : Ending) (w' : World) : Prop := ∃ (y : OpX) (cd : Nat), e = .returned (.tuple #[encO y, eV ad cd]) ∧ Aside (Below w.heap.size w w' ∧ ((cd ≠ 0 ∧ y = zeroO) ∨ (cd = 0 ∧ ∃ T a S, timeO (allR R) T ∧ S.Perm (allR R) ∧ WriteAt S nd n a ∧ a.2 = true ∧ y = ownX T i (R i).length 105 nd a.1 ⟨#[]⟩ ⟨#[ch]⟩ ∧ NextOp R i T y)))
theorem rep_write {B : Nat} {ad : Nat → Addr} (w : World) (c : Nat → Nat) (br : Nat) (i : Nat) (R : Rws) (nd n : Int) (ch : UInt8) (h : RepOwn B w c br (i : Int) R) (hE : EnvT B ad w) (hi : i < 4) (hT : ∀ T, timeO (allR R) T → T < 1073741824) (hn : (allR R).length ≤ 140) (h2 : -9223372036854775808 ≤ nd) (h3 : nd ≤ 9223372036854775807) (h4 : -9223372036854775808 ≤ n) (h5 : n ≤ 9223372036854775807) :
    Calls Tryz.prog 60 #[.pointer (some ⟨br, 0, none⟩), .int .i64 nd, .int .i64 n, .int .u8 (ch.toNat : Int)] w (WroteOut ad w R i nd n ch) := by
  obtain ⟨T, kv, bt, bx, bc, A, hm, hp, ht⟩ := h.rep.time
  obtain ⟨ao, cap, hM⟩ := hm.norm
  refine (write_any w c br T i ao cap bt bx bc R A nd n ch hM.cell hM.rows hM.text hp h.wellK hE.env hi ht.2.2 (hT T ht) hn h2 h3 h4 h5).mono fun e w' q => ?_
  obtain ⟨a, hw, q⟩ := q
  rcases q with ⟨ok, q2, q3⟩ | ⟨_, q2, q3⟩
  · by_cases he : errO (ownX T i (R i).length 105 nd a.1 ⟨#[]⟩ ⟨#[ch]⟩) = 0
    · rw [if_pos he, he] at q2
      refine ⟨_, 0, q2, q3, .inr ⟨rfl, T, a, A, ht, hp, hw, ok, rfl, next_own he ?_⟩⟩
      have hkl : KnownN A nd ∧ (0 < a.1 → LetterN A nd a.1) := by
        rcases hw with ⟨_, q2, q3⟩ | ⟨_, a1, a2⟩
        · exact ⟨q3.1 ok, fun q => by omega⟩
        · have hk : KnownN A nd := by
            by_cases hk : KnownN A nd
            · exact hk
            · rw [a1 hk] at ok; cases ok
          obtain ⟨L, hL, ea⟩ := a2 hk
          exact ⟨hk, fun _ => hL.mem.1 (atL_true (n := n - 1) (by rw [← ea, ← ok]))⟩
      have hk' := (knownN_perm hp nd).1 hkl.1
      have hnd := known_two h.wellK.well.ok hk'
      refine ⟨.inr ?_, fun q => absurd q (by show ¬ (105 = _); decide), fun q => ?_⟩
      · rw [own_node (by omega)]
        exact hk'.mono (fun x hx => List.mem_cons_of_mem _ hx)
      · rw [own_node (by omega)]
        refine (hkl.2 ?_).mono (fun x hx => List.mem_cons_of_mem _ (hp.mem_iff.1 hx))
        rcases q with ⟨_, q⟩ | q
        · exact q
        · exact absurd q (by show ¬ (105 = _); decide)
    · rw [if_neg he] at q2
      exact ⟨zeroO, _, q2, q3, .inl ⟨he, rfl⟩⟩
  · exact ⟨zeroO, 6, q2, q3, .inl ⟨by omega, rfl⟩⟩
theorem time_le {A : List OpX} {m : Int} (hm : 0 ≤ m) (h : ∀ x ∈ A, x.1 ≤ m) {T : Int} (hT : timeO A T) : T ≤ m := by
  rcases hT.2.1 with e | ⟨x, hx, e⟩
  · omega
  · have := h x hx; omega
section
variable {B : Nat} {ad : Nat → Addr} {w : World} {n : Nat} {br : Nat → Nat} {K : Nat → Rws} {sf : List Nat} {wr : World}
theorem band_write (h : Band B w n br K sf wr) (hE : EnvT B ad w) (hn4 : n ≤ 4) {a : Nat} (ha : a < n) (hT : ∀ x ∈ allR (K a), x.1 ≤ 1000) (hl : (allR (K a)).length ≤ 140) (nd m : Int) (ch : UInt8) (h2 : -9223372036854775808 ≤ nd) (h3 : nd ≤ 9223372036854775807) (h4 : -9223372036854775808 ≤ m) (h5 : m ≤ 9223372036854775807) :
    Calls Tryz.prog 60 #[.pointer (some ⟨br a, 0, none⟩), .int .i64 nd, .int .i64 m, .int .u8 (ch.toNat : Int)] wr (WroteOut ad wr (K a) a nd m ch) := by
  obtain ⟨c, hf, hg⟩ := h.folk
  exact rep_write wr (c a) (br a) a (K a) nd m ch (hf.rep a ha) (hE.mono h.below) (by omega) (fun T q => by have := time_le (by omega) hT q; omega) hl h2 h3 h4 h5
theorem band_text (h : Band B w n br K sf wr) {a : Nat} (ha : a < n) (hl : (allR (K a)).length ≤ 140) (nd : Int) (h2 : -9223372036854775808 ≤ nd) (h3 : nd ≤ 9223372036854775807) :
    Calls Tryz.prog 14 #[.pointer (some ⟨br a, 0, none⟩), .int .i64 nd] wr fun e w' => ∃ s, e = .returned (.string s) ∧ Aside (TextIs (allR (K a)) nd s ∧ Below wr.heap.size wr w') := by
  obtain ⟨c, hf, hg⟩ := h.folk
  obtain ⟨T, kv, bt, bx, bc, A, hm, hp, ht⟩ := (hf.rep a ha).rep.time
  refine (rtext_at wr (c a) (br a) T (a : Int) kv bt bx bc A nd hm.cell hm.text (by have := hp.length_eq; omega) (by omega) (by omega)).mono ?_
  rintro e w' ⟨s, he, hs, hb⟩
  refine ⟨s, he, ?_, hb⟩
  rcases hs with ⟨q1, q2⟩ | ⟨q1, L, q2, q3⟩
  · exact .inl ⟨fun q => q1 ((knownN_perm hp nd).2 q), q2⟩
  · exact .inr ⟨(knownN_perm hp nd).1 q1, L, q2.perm hp, q3⟩
def BOwnOut (B : Nat) (w : World) (n : Nat) (br : Nat → Nat) (K : Nat → Rws) (a : Nat) (sf : List Nat) (wr : World) (x : OpX) (e : Ending) (w' : World) : Prop := ∃ (R' : Rws), e = .returned (.tuple #[.int .i64 1, .nilIface]) ∧ Aside (Band B w n br (setAt K a R') sf w' ∧ (allR R').Perm (x :: allR (K a)) ∧ ∀ k ∈ sf, w'.heap[k]? = wr.heap[k]?)
theorem band_own (h : Band B w n br K sf wr) (hE : EnvT B ad w) (hn4 : n ≤ 4) {a : Nat} (ha : a < n) (la : Option Addr) (lc : Nat) (T : Int) (x : OpX) (hin : OpsIn wr la [x]) (hx : NextOp (K a) a T x) (hT : timeO (allR (K a)) T) (hl : (allR (K a)).length ≤ 130) :
    Calls Tryz.prog 11 #[.pointer (some ⟨br a, 0, none⟩), .slice la 1 lc] wr (BOwnOut B w n br K a sf wr x) := by
  obtain ⟨c, hf, hg⟩ := h.folk
  refine (joined_own wr (c a) (br a) a (K a) la lc T x (hf.rep a ha) (hE.mono h.below) (by omega) hin hx hT.1 hl).mono ?_
  rintro e w' ⟨c', R', he, hA, hR', hm, hlen⟩
  have hact := h.act ha hf hg hA hR'
  refine ⟨R', he, hact.1, ?_, hact.2⟩
  have hxn : x ∉ allR (K a) := fun q => by have := (hx.well (hf.rep a ha).wellK (by omega) hT.1).2 x q rfl; omega
  refine (List.perm_ext_iff_of_nodup hR'.wellK.num.nodup (List.nodup_cons.2 ⟨hxn, (hf.rep a ha).wellK.num.nodup⟩)).2 (fun y => ?_)
  rw [hm y, List.mem_cons]
end
theorem lit_one (W : World) (x : OpX) : OpsIn (W.alloc (.cells #[.int .i64 x.1, .int .i64 x.2.1, .int .i64 x.2.2.1, .int .u8 (x.2.2.2.1 : Int), .int .i64 x.2.2.2.2.1, .int .i64 x.2.2.2.2.2.1, .string x.2.2.2.2.2.2.1, .string x.2.2.2.2.2.2.2] 31)) (some ⟨W.heap.size, 0, none⟩) [x] := by
  refine .inr ⟨W.heap.size, 0, rfl, fun j u hj => ?_⟩
  have := lit_cellsO W x 31 j u (by simpa [cellsOf, flat] using hj)
  rw [Addr.add_lit] at this
  exact this
structure Typing (B : Nat) (w : World) (n : Nat) (br : Nat → Nat) (K : Nat → Rws) (a : Nat) (sf : List Nat) (wr : World) (M : Int) (k : Nat) (R' : Rws) (W : World) : Prop where
  band : Band B w n br (setAt K a R') sf W
  same : ∀ j ∈ sf, W.heap[j]? = wr.heap[j]?
  len : (allR R').length ≤ (allR (K a)).length + k
  time : ∀ x ∈ allR R', x.1 ≤ M + (k : Int)
def TypesOut (B : Nat) (w : World) (n : Nat) (br : Nat → Nat) (K : Nat → Rws) (a : Nat) (sf : List Nat) (wr : World) (A : List OpX) (nd p : Int) (P Q : List Ltr) (s : ByteArray) (M : Int) (e : Ending) (w' : World) : Prop := ∃ (z : Bool) (R' : Rws), e = .returned (.bool z) ∧ Aside (Typing B w n br K a sf wr M s.size R' w' ∧ (z = true → ∃ U, TypedBy A a nd p P Q R' U s.data.toList))
theorem setAt_twice {α : Type} (f : Nat → α) (a : Nat) (x y : α) : setAt (setAt f a x) a y = setAt f a y := by
  funext r
  by_cases e : r = a
  · subst e; rw [setAt_is, setAt_is]
  · rw [setAt_ne _ _ e, setAt_ne _ _ e, setAt_ne _ _ e]
theorem setAt_self {α : Type} (f : Nat → α) (a : Nat) : setAt f a (f a) = f := by
  funext r
  by_cases e : r = a
  · subst e; rw [setAt_is]
  · rw [setAt_ne _ _ e]
theorem Typing.later {B : Nat} {w : World} {n : Nat} {br : Nat → Nat} {K : Nat → Rws} {a : Nat} {sf : List Nat} {w0 : World} {M : Int} {k : Nat} {R' : Rws} {W W' : World} (h : Typing B w n br K a sf w0 M k R' W) (hb : Below W.heap.size W W') : Typing B w n br K a sf w0 M k R' W' :=
  ⟨h.band.later hb, fun j hj => (hb.block j (h.band.safe j hj)).trans (h.same j hj), h.len, h.time⟩
theorem Typing.more {B : Nat} {w : World} {n : Nat} {br : Nat → Nat} {K : Nat → Rws} {a : Nat} {sf : List Nat} {w0 : World} {M : Int} {k m : Nat} {R' : Rws} {W : World} (h : Typing B w n br K a sf w0 M k R' W) (hk : k ≤ m) : Typing B w n br K a sf w0 M m R' W :=
  ⟨h.band, h.same, by have := h.len; omega, fun x hx => by have := h.time x hx; omega⟩
theorem Typing.next {B : Nat} {w : World} {n : Nat} {br : Nat → Nat} {K : Nat → Rws} {a : Nat} {sf : List Nat} {w0 : World} {M : Int} {k : Nat} {R' R'' : Rws} {W W' : World} (h : Typing B w n br K a sf w0 M k R' W) (hb : Band B w n br (setAt K a R'') sf W') {x : OpX} (hp : (allR R'').Perm (x :: allR R')) (hx : x.1 ≤ M + ((k : Int) + 1)) (hs : ∀ j ∈ sf, W'.heap[j]? = W.heap[j]?) : Typing B w n br K a sf w0 M (k + 1) R'' W' := by
  refine ⟨hb, fun j hj => (hs j hj).trans (h.same j hj), ?_, fun y hy => ?_⟩
  · have := hp.length_eq
    have := h.len
    simp only [List.length_cons] at *
    omega
  · rcases List.mem_cons.1 (hp.mem_iff.1 hy) with e | q
    · rw [e]; omega
    · have := h.time y q; omega
theorem Typing.rows {B : Nat} {w : World} {n : Nat} {br : Nat → Nat} {K : Nat → Rws} {a : Nat} {sf : List Nat} {w0 : World} {M : Int} {k : Nat} {R' : Rws} {W : World} (h : Typing B w n br K a sf w0 M k R' W) (ha : a < n) : RowsK R' := by
  have := h.band.rows ha
  rwa [setAt_is] at this
set_option maxRecDepth 100000 in
set_option maxHeartbeats 8000000 in
theorem types_any {B : Nat} {ad : Nat → Addr} {w : World} {n : Nat} {br : Nat → Nat} {K : Nat → Rws} {sf : List Nat} (w0 : World) (h : Band B w n br K sf w0) (hE : EnvT B ad w) (hn4 : n ≤ 4) (a : Nat) (ha : a < n) {A : List OpX} {p : Int} {P Q : List Ltr} (nd : Int) (o : Onto A nd p P Q) (hA : (allR (K a)).Perm A) (s : ByteArray) (m : Nat) (hm : m = P.length) (hm2 : m ≤ 1000) (hs : s.size ≤ 12) (hl : (allR (K a)).length ≤ 60) (M : Int) (hM0 : 0 ≤ M) (hM : M + 12 ≤ 100) (hT : ∀ x ∈ allR (K a), x.1 ≤ M) (h2 : -9223372036854775808 ≤ nd) (h3 : nd ≤ 9223372036854775807) :
    Calls Tryz.prog 12 #[.pointer (some ⟨br a, 0, none⟩), .int .i64 nd, .int .i64 (m : Int), .string s] w0 (TypesOut B w n br K a sf w0 A nd p P Q s M) := by
  have H0 : Aside (Band B w n br K sf w0 ∧ EnvT B ad w ∧ Onto A nd p P Q ∧ (allR (K a)).Perm A ∧ m = P.length ∧ (∀ x ∈ allR (K a), x.1 ≤ M) ∧ 0 ≤ M) := ⟨h, hE, o, hA, hm, hT, hM0⟩
  clear h hE o hA hm hT
  obtain ⟨q, hq⟩ : ∃ q, Aside (q = br a) := ⟨_, rfl⟩
  rw [← hq.out]
  go_enter Tryz.func12, Tryz.ntmps12
  go_wp2
  go_loopg [9] s.size (fun kx s9 W => ∃ (k : Nat) (R' : Rws) (U : List OpX), s9 = .int .i64 (k : Int) ∧ k ≤ s.size ∧ s.size - k ≤ kx ∧ Aside (Typing B w n br K a sf w0 M k R' W ∧ TypedBy A a nd p P Q R' U (s.data.toList.take k) ∧ U.length = k))
  case atStart => exact ⟨0, K a, [], rfl, Nat.zero_le _, Nat.le_refl _, ⟨by rw [setAt_self]; exact H0.out.1, fun _ _ => rfl, Nat.le_refl _, fun x hx => by have := H0.out.2.2.2.2.2.1 x hx; omega⟩, TypedBy.start H0.out.2.2.2.1, rfl⟩
  case round =>
    obtain ⟨k, R, U, rfl, hk, hkx, HC⟩ := hrel
    by_cases hlt : k < s.size
    · have d1 : decide ((k : Int) < (s.size : Int)) = true := by simp; omega
      have d1n : decide (k < s.size) = true := by simp; omega
      have hadd : IntKind.i64.wrap ((m : Int) + (k : Int)) = ((m + k : Nat) : Int) := by rw [IntKind.wrap_i64]; omega
      have hwr := band_write HC.out.1.band H0.out.2.1 hn4 ha (by rw [setAt_is]; intro x hx; have := HC.out.1.time x hx; omega) (by rw [setAt_is]; have := HC.out.1.len; omega) nd ((m + k : Nat) : Int) s[k] h2 h3 (by omega) (by omega)
      rw [setAt_is, ← hq.out] at hwr
      obtain ⟨mk, hmk⟩ : ∃ mk, Aside (mk = ((m + k : Nat) : Int)) := ⟨_, rfl⟩
      rw [← hmk.out] at hwr hadd
      go_wp2_with fail
      refine hwr.mono ?_
      clear hwr hadd d1 d1n
      rintro e w1 ⟨y, cd, rfl, H1⟩
      obtain ⟨t', b', m', kd', nd', o', s', v'⟩ := y
      obtain ⟨er, her⟩ : ∃ er, Aside (er = eV ad cd) := ⟨_, rfl⟩
      rw [← her.out]
      unfold encO
      dsimp only
      obtain ⟨V, hV⟩ : ∃ V, Aside (V = w1.alloc (.cells #[.int .i64 t', .int .i64 b', .int .i64 m', .int .u8 (kd' : Int), .int .i64 nd', .int .i64 o', .string s', .string v'] 31)) := ⟨_, rfl⟩
      obtain ⟨Z, hZ⟩ : ∃ Z, Aside (Z = w1.heap.size) := ⟨_, rfl⟩
      have hbV : Below wr.heap.size wr V := by rw [hV.out]; exact H1.out.1.alloc H1.out.1.size _
      have OV : OpBlk V Z (t', b', m', kd', nd', o', s', v') := by rw [hV.out, hZ.out]; exact OpBlk.new w1 (t', b', m', kd', nd', o', s', v')
      go_upto_region 5 with fail
      rw [← hV.out, ← hZ.out]
      by_cases hcd : cd = 0
      · subst hcd
        have hev : eV ad 0 = .nilIface := rfl
        rw [hev] at her
        obtain rfl : er = .nilIface := her.out
        obtain ⟨T, a0, S, hT, hS, hw, ha2, hy, hN⟩ : ∃ T a0 S, timeO (allR R) T ∧ S.Perm (allR R) ∧ WriteAt S nd mk a0 ∧ a0.2 = true ∧ (t', b', m', kd', nd', o', s', v') = ownX T a (R a).length 105 nd a0.1 ⟨#[]⟩ ⟨#[s[k]]⟩ ∧ NextOp R a T (t', b', m', kd', nd', o', s', v') := by
          rcases H1.out.2 with ⟨q, _⟩ | ⟨_, q⟩
          · exact absurd rfl q
          · exact q
        have HN : Aside (timeO (allR R) T ∧ S.Perm (allR R) ∧ WriteAt S nd mk a0 ∧ a0.2 = true ∧ (t', b', m', kd', nd', o', s', v') = ownX T a (R a).length 105 nd a0.1 ⟨#[]⟩ ⟨#[s[k]]⟩ ∧ NextOp R a T (t', b', m', kd', nd', o', s', v')) := ⟨hT, hS, hw, ha2, hy, hN⟩
        clear hT hS hw ha2 hy hN hev her
        obtain ⟨j0, j1, j2, j3, j4, j5, j6, j7, -⟩ := OV.cells
        dsimp only at j0 j1 j2 j3 j4 j5 j6 j7
        obtain ⟨X, hX⟩ : ∃ X, Aside (X = V.alloc (.cells #[.int .i64 t', .int .i64 b', .int .i64 m', .int .u8 (kd' : Int), .int .i64 nd', .int .i64 o', .string s', .string v'] 31)) := ⟨_, rfl⟩
        have hbX : Below wr.heap.size wr X := by rw [hX.out]; exact hbV.alloc hbV.size _
        have hin : OpsIn X (some ⟨V.heap.size, 0, none⟩) [(t', b', m', kd', nd', o', s', v')] := by rw [hX.out]; exact lit_one V (t', b', m', kd', nd', o', s', v')
        have hjn := band_own (HC.out.1.later hbX).band H0.out.2.1 hn4 ha (some ⟨V.heap.size, 0, none⟩) 1 T (t', b', m', kd', nd', o', s', v') hin (by rw [setAt_is]; exact HN.out.2.2.2.2.2) (by rw [setAt_is]; exact HN.out.1) (by rw [setAt_is]; have := HC.out.1.len; omega)
        rw [← hq.out] at hjn
        have HX : Aside (Typing B w n br K a sf w0 M k R X) := HC.out.1.later hbX
        clear hin hbX hbV OV
        go_wp2_with fail
        rw [← hX.out]
        refine hjn.mono ?_
        clear hjn j0 j1 j2 j3 j4 j5 j6 j7
        rintro e w2 ⟨R2, rfl, H2⟩
        have h2b := H2.out
        rw [setAt_twice, setAt_is] at h2b
        have HT2 : Aside (Typing B w n br K a sf w0 M (k + 1) R2 w2 ∧ TypedBy A a nd p P Q R2 (U ++ [(t', b', m', kd', nd', o', s', v')]) (s.data.toList.take (k + 1))) := by
          refine ⟨HX.out.next h2b.1 h2b.2.1 ?_ h2b.2.2, ?_⟩
          · have e1 := HN.out.2.2.2.2.2.time
            have e2 := time_le (by omega) HC.out.1.time HN.out.1
            omega
          · rw [← take_byte s k hlt, HN.out.2.2.2.2.1]
            refine HC.out.2.1.step H0.out.2.2.1 (HC.out.1.rows ha) HN.out.2.1 HN.out.1 ?_ HN.out.2.2.2.1 ?_ ?_
            · have := HN.out.2.2.1
              rw [hmk.out, H0.out.2.2.2.2.1, ← HC.out.2.2] at this
              exact this
            · rw [← HN.out.2.2.2.2.1]; exact HN.out.2.2.2.2.2.ok
            · rw [← HN.out.2.2.2.2.1]; exact h2b.2.1
        have hUl : (U ++ [(t', b', m', kd', nd', o', s', v')]).length = k + 1 := by have := HC.out.2.2; simp; omega
        have HU := Lib.hid hUl
        clear h2b H2 hUl
        go_wp2
        go_roundg (s.size - (k + 1))
        case measure => omega
        case rel => exact ⟨k + 1, R2, _, by go_num, by omega, Nat.le_refl _, HT2.out.1, HT2.out.2, HU.out⟩
      · have hev : eV ad cd = .iface 416 (.pointer (some (ad (cd - 1)))) := if_neg hcd
        have HT1 : Aside (Typing B w n br K a sf w0 M s.size R V) := (HC.out.1.later hbV).more hk
        rw [her.out, hev]
        clear her hev hcd hbV OV
        go_wp2
        go_ret
        exact ⟨false, R, rfl, HT1.out, fun q => by cases q⟩
    · have d1 : decide ((k : Int) < (s.size : Int)) = false := by simp; omega
      have d1n : decide (k < s.size) = false := by simp; omega
      have HT1 : Aside (Typing B w n br K a sf w0 M s.size R wr ∧ ∃ U, TypedBy A a nd p P Q R U s.data.toList) := by
        obtain rfl : k = s.size := by omega
        refine ⟨HC.out.1, U, ?_⟩
        have := HC.out.2.1
        rwa [List.take_of_length_le (by simp)] at this
      go_wp2
      go_ret
      exact ⟨true, R, rfl, HT1.out.1, fun _ => HT1.out.2⟩
end Go.Proofs.YtcggmagdndhkbaaGreatDoor
end
section
set_option linter.unusedVariables false
set_option linter.unusedSimpArgs false
namespace Go.Proofs.YtcggmagdndhkbaaGreatDoor
open Go.RowKit Go.Lib Go.Sort Go.Maps
open scoped Classical
def two {α : Type} (d x y : α) : Nat → α := fun r => if r = 0 then x else if r = 1 then y else d
theorem two_set0 {α : Type} (d x y z : α) : setAt (two d x y) 0 z = two d z y := by
  funext r
  unfold setAt two
  split <;> rfl
theorem two_set1 {α : Type} (d x y z : α) : setAt (two d x y) 1 z = two d x z := by
  funext r
  unfold setAt two
  by_cases h : r = 1
  · subst h; rfl
  · simp only [if_neg h]
abbrev noR : Rws := fun _ => []
abbrev Duo (B : Nat) (w : World) (b0 b1 : Nat) (R0 R1 : Rws) (sf : List Nat) (wr : World) : Prop := Band B w 2 (two 0 b0 b1) (two noR R0 R1) sf wr
section
variable {B : Nat} {ad : Nat → Addr} {w : World} {b0 b1 : Nat} {R0 R1 : Rws} {sf : List Nat} {wr : World}
theorem Duo.rows0 (h : Duo B w b0 b1 R0 R1 sf wr) : RowsK R0 := h.rows (show 0 < 2 by omega)
theorem Duo.rows1 (h : Duo B w b0 b1 R0 R1 sf wr) : RowsK R1 := h.rows (show 1 < 2 by omega)
theorem duo_types0 (h : Duo B w b0 b1 R0 R1 [] wr) (hE : EnvT B ad w) {A : List OpX} {p : Int} {P Q : List Ltr} {nd : Int} (o : Onto A nd p P Q) (hA : (allR R0).Perm A) (s : ByteArray) (m : Nat) (hm : m = P.length) (hm2 : m ≤ 1000) (hs : s.size ≤ 12) (hl : (allR R0).length ≤ 60) {M : Int} (hM0 : 0 ≤ M) (hM : M + 12 ≤ 100) (hT : ∀ x ∈ allR R0, x.1 ≤ M) (h2 : -9223372036854775808 ≤ nd) (h3 : nd ≤ 9223372036854775807) :
    Calls Tryz.prog 12 #[.pointer (some ⟨b0, 0, none⟩), .int .i64 nd, .int .i64 (m : Int), .string s] wr fun e w' => ∃ (z : Bool) (R' : Rws), e = .returned (.bool z) ∧ Aside (Duo B w b0 b1 R' R1 [] w' ∧ (z = true → ∃ U, TypedBy A 0 nd p P Q R' U s.data.toList) ∧ (allR R').length ≤ (allR R0).length + s.size ∧ ∀ x ∈ allR R', x.1 ≤ M + (s.size : Int)) := by
  refine (types_any wr h hE (by omega) 0 (by omega) nd o hA s m hm hm2 hs hl M hM0 hM hT h2 h3).mono ?_
  rintro e w' ⟨z, R', he, H⟩
  have hb := H.out.1.band
  rw [two_set0] at hb
  exact ⟨z, R', he, hb, H.out.2, H.out.1.len, H.out.1.time⟩
theorem duo_types1 (h : Duo B w b0 b1 R0 R1 [] wr) (hE : EnvT B ad w) {A : List OpX} {p : Int} {P Q : List Ltr} {nd : Int} (o : Onto A nd p P Q) (hA : (allR R1).Perm A) (s : ByteArray) (m : Nat) (hm : m = P.length) (hm2 : m ≤ 1000) (hs : s.size ≤ 12) (hl : (allR R1).length ≤ 60) {M : Int} (hM0 : 0 ≤ M) (hM : M + 12 ≤ 100) (hT : ∀ x ∈ allR R1, x.1 ≤ M) (h2 : -9223372036854775808 ≤ nd) (h3 : nd ≤ 9223372036854775807) :
    Calls Tryz.prog 12 #[.pointer (some ⟨b1, 0, none⟩), .int .i64 nd, .int .i64 (m : Int), .string s] wr fun e w' => ∃ (z : Bool) (R' : Rws), e = .returned (.bool z) ∧ Aside (Duo B w b0 b1 R0 R' [] w' ∧ (z = true → ∃ U, TypedBy A 1 nd p P Q R' U s.data.toList) ∧ (allR R').length ≤ (allR R1).length + s.size ∧ ∀ x ∈ allR R', x.1 ≤ M + (s.size : Int)) := by
  refine (types_any wr h hE (by omega) 1 (by omega) nd o hA s m hm hm2 hs hl M hM0 hM hT h2 h3).mono ?_
  rintro e w' ⟨z, R', he, H⟩
  have hb := H.out.1.band
  rw [two_set1] at hb
  exact ⟨z, R', he, hb, H.out.2, H.out.1.len, H.out.1.time⟩
theorem duo_ops0 (h : Duo B w b0 b1 R0 R1 sf wr) (hl : (allR R0).length ≤ 1000) :
    Calls Tryz.prog 13 #[.pointer (some ⟨b0, 0, none⟩)] wr fun e w' => ∃ ao cp ys, e = .returned (.slice ao ys.length cp) ∧ Aside (OpsIn w' ao ys ∧ ys.Perm (allR R0) ∧ Below wr.heap.size wr w') := by
  refine (band_ops h (show 0 < 2 by omega) hl).mono ?_
  rintro e w' ⟨v, ys, he, H⟩
  obtain ⟨ao, cp, rfl, hin⟩ := ops_in H.out.1
  exact ⟨ao, cp, ys, he, hin, (stable_by H.out.2.1).1, H.out.2.2⟩
theorem duo_ops1 (h : Duo B w b0 b1 R0 R1 sf wr) (hl : (allR R1).length ≤ 1000) :
    Calls Tryz.prog 13 #[.pointer (some ⟨b1, 0, none⟩)] wr fun e w' => ∃ ao cp ys, e = .returned (.slice ao ys.length cp) ∧ Aside (OpsIn w' ao ys ∧ ys.Perm (allR R1) ∧ Below wr.heap.size wr w') := by
  refine (band_ops h (show 1 < 2 by omega) hl).mono ?_
  rintro e w' ⟨v, ys, he, H⟩
  obtain ⟨ao, cp, rfl, hin⟩ := ops_in H.out.1
  exact ⟨ao, cp, ys, he, hin, (stable_by H.out.2.1).1, H.out.2.2⟩
theorem duo_join0 (h : Duo B w b0 b1 R0 R1 [] wr) (hE : EnvT B ad w) (ao : Option Addr) (cp : Nat) (ys : List OpX) (hin : OpsIn wr ao ys) (hy : ys.Perm (allR R1)) (hc : Compat (allR R0) (allR R1)) (hl : (allR R0).length + (allR R1).length ≤ 140) :
    Calls Tryz.prog 11 #[.pointer (some ⟨b0, 0, none⟩), .slice ao ys.length cp] wr fun e w' => ∃ (m : Nat) (R' : Rws), e = .returned (.tuple #[.int .i64 (m : Int), .nilIface]) ∧ Aside (Duo B w b0 b1 R' R1 [] w' ∧ (∀ x, x ∈ allR R' ↔ x ∈ allR R0 ∨ x ∈ allR R1)) := by
  refine (band_join h hE (show 0 < 2 by omega) ys ao cp ys hin (h.rows1.well.congr (fun x => hy.mem_iff.symm)) (fun x hx y hy' => hc x hx y (hy.mem_iff.1 hy')) (fun x hx => hx) (fun x hx => .inr hx) (by have := hy.length_eq; show (allR R0).length + ys.length ≤ 140; omega)).mono ?_
  rintro e w' ⟨m, R', he, H⟩
  have hb := H.out.1
  rw [two_set0] at hb
  exact ⟨m, R', he, hb, fun x => by rw [H.out.2.1 x, hy.mem_iff]; rfl⟩
theorem duo_join1 (h : Duo B w b0 b1 R0 R1 [] wr) (hE : EnvT B ad w) (ao : Option Addr) (cp : Nat) (ys : List OpX) (hin : OpsIn wr ao ys) (hy : ys.Perm (allR R0)) (hc : Compat (allR R1) (allR R0)) (hl : (allR R1).length + (allR R0).length ≤ 140) :
    Calls Tryz.prog 11 #[.pointer (some ⟨b1, 0, none⟩), .slice ao ys.length cp] wr fun e w' => ∃ (m : Nat) (R' : Rws), e = .returned (.tuple #[.int .i64 (m : Int), .nilIface]) ∧ Aside (Duo B w b0 b1 R0 R' [] w' ∧ (∀ x, x ∈ allR R' ↔ x ∈ allR R1 ∨ x ∈ allR R0)) := by
  refine (band_join h hE (show 1 < 2 by omega) ys ao cp ys hin (h.rows0.well.congr (fun x => hy.mem_iff.symm)) (fun x hx y hy' => hc x hx y (hy.mem_iff.1 hy')) (fun x hx => hx) (fun x hx => .inr hx) (by have := hy.length_eq; show (allR R1).length + ys.length ≤ 140; omega)).mono ?_
  rintro e w' ⟨m, R', he, H⟩
  have hb := H.out.1
  rw [two_set1] at hb
  exact ⟨m, R', he, hb, fun x => by rw [H.out.2.1 x, hy.mem_iff]; rfl⟩
theorem duo_text0 (h : Duo B w b0 b1 R0 R1 sf wr) (hl : (allR R0).length ≤ 140) (nd : Int) (h2 : -9223372036854775808 ≤ nd) (h3 : nd ≤ 9223372036854775807) :
    Calls Tryz.prog 14 #[.pointer (some ⟨b0, 0, none⟩), .int .i64 nd] wr fun e w' => ∃ s, e = .returned (.string s) ∧ Aside (TextIs (allR R0) nd s ∧ Below wr.heap.size wr w') := band_text h (show 0 < 2 by omega) hl nd h2 h3
theorem duo_text1 (h : Duo B w b0 b1 R0 R1 sf wr) (hl : (allR R1).length ≤ 140) (nd : Int) (h2 : -9223372036854775808 ≤ nd) (h3 : nd ≤ 9223372036854775807) :
    Calls Tryz.prog 14 #[.pointer (some ⟨b1, 0, none⟩), .int .i64 nd] wr fun e w' => ∃ s, e = .returned (.string s) ∧ Aside (TextIs (allR R1) nd s ∧ Below wr.heap.size wr w') := band_text h (show 1 < 2 by omega) hl nd h2 h3
end
theorem same_perm {R R' : Rws} (h : RowsK R) (h' : RowsK R') (hm : ∀ x, x ∈ allR R ↔ x ∈ allR R') : (allR R).Perm (allR R') := (List.perm_ext_iff_of_nodup h.num.nodup h'.num.nodup).2 hm
theorem text_same {A C : List OpX} {nd : Int} {s t : ByteArray} (e : A.Perm C) (h : TextIs A nd s) (k : TextIs C nd t) : s = t := by
  rcases h with ⟨h1, h2⟩ | ⟨h1, L, h2, h3⟩ <;> rcases k with ⟨k1, k2⟩ | ⟨k1, M, k2, k3⟩
  · rw [h2, k2]
  · exact absurd ((knownN_perm e nd).2 k1) h1
  · exact absurd ((knownN_perm e nd).1 h1) k1
  · have := (h2.perm e).unique k2
    apply bytes_ext
    rw [h3, k3, this]
section
variable {A U V : List OpX} {nd p : Int} {P Q : List Ltr} {R1 R2 : Rws} {bs cs : List UInt8}
theorem compat_two (h1 : TypedBy A 0 nd p P Q R1 U bs) (h2 : TypedBy A 1 nd p P Q R2 V cs) (k1 : RowsK R1) (k2 : RowsK R2) : Compat (allR R1) (allR R2) := fun x hx y hy e1 e2 => by
  rcases List.mem_append.1 (h1.perm.mem_iff.1 hx) with q | q
  · rcases List.mem_append.1 (h2.perm.mem_iff.1 hy) with r | r
    · have := h1.mine x (List.mem_reverse.1 q)
      have := h2.mine y (List.mem_reverse.1 r)
      omega
    · exact k1.well.one x hx y (h1.perm.mem_iff.2 (List.mem_append_right _ r)) e1 e2
  · exact k2.well.one x (h2.perm.mem_iff.2 (List.mem_append_right _ q)) y hy e1 e2
theorem both_perm (h1 : TypedBy A 0 nd p P Q R1 U bs) (h2 : TypedBy A 1 nd p P Q R2 V cs) (k1 : RowsK R1) (k2 : RowsK R2) {R : Rws} (k : RowsK R) (hm : ∀ x, x ∈ allR R ↔ x ∈ allR R1 ∨ x ∈ allR R2) : (allR R).Perm (U ++ (V ++ A)) := by
  have n1 := h1.perm.nodup_iff.1 k1.num.nodup
  have n2 := h2.perm.nodup_iff.1 k2.num.nodup
  rw [List.nodup_append] at n1 n2
  refine (List.perm_ext_iff_of_nodup k.num.nodup ?_).2 (fun x => ?_)
  · rw [List.nodup_append, List.nodup_append]
    refine ⟨(List.reverse_perm U).nodup_iff.1 n1.1, ⟨(List.reverse_perm V).nodup_iff.1 n2.1, n1.2.1, fun a ha b hb => n2.2.2 a (List.mem_reverse.2 ha) b hb⟩, fun a ha b hb => ?_⟩
    rcases List.mem_append.1 hb with q | q
    · intro e
      have e1 := h1.mine a ha
      have e2 := h2.mine b q
      rw [e] at e1
      omega
    · exact n1.2.2 a (List.mem_reverse.2 ha) b q
  · rw [hm x, h1.perm.mem_iff, h2.perm.mem_iff]
    simp only [List.mem_append, List.mem_reverse]
    constructor
    · rintro ((q | q) | (q | q))
      · exact .inl q
      · exact .inr (.inr q)
      · exact .inr (.inl q)
      · exact .inr (.inr q)
    · rintro (q | q | q)
      · exact .inl (.inl q)
      · exact .inr (.inl q)
      · exact .inl (.inr q)
end
end Go.Proofs.YtcggmagdndhkbaaGreatDoor
end
