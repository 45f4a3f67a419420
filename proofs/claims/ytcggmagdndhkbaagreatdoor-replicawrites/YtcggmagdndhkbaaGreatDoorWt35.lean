import Derived.Test.YtcggmagdndhkbaaGreatDoorWt04
import Derived.Test.YtcggmagdndhkbaaGreatDoorWt08
import Derived.Test.YtcggmagdndhkbaaGreatDoorWt30
import Derived.Test.YtcggmagdndhkbaaGreatDoorWt31
import Derived.Test.YtcggmagdndhkbaaGreatDoorWt33
import Derived.Test.YtcggmagdndhkbaaGreatDoorWt34
import Derived.Test.YtcggmagdndhkbaaGreatDoorProg
import Derived.WalkKit
import Derived.WalkSpells
import Derived.Below
import Derived.Laws.IdiomStrings
import Derived.Laws.Concat
import Derived.Laws.Strings
import Derived.Lib.Hide
import Derived.KernelRfl
section
set_option linter.unusedVariables false
set_option linter.unusedSimpArgs false
namespace Go.Proofs.YtcggmagdndhkbaaGreatDoor
open Go.RowKit Go.Lib Go.Sort Go.Maps
structure EnvT (B : Nat) (ad : Nat → Addr) (w : World) : Prop where
  env : EnvE B ad w
  tab : Lib.TabBelow Tryz.prog B w "internal/strconv.uint64pow10" .u64 Lib.pow10Tab
theorem EnvT.mono {B : Nat} {ad : Nat → Addr} {w w' : World} (h : EnvT B ad w) (hb : Below B w w') : EnvT B ad w' := ⟨h.env.mono hb, fun w'' h' => h.tab w'' (hb.trans h')⟩
theorem EnvT.later {B : Nat} {ad : Nat → Addr} {w w' : World} (h : EnvT B ad w) (hb : Below w.heap.size w w') : EnvT B ad w' := h.mono (hb.mono h.env.size)
theorem EnvT.up {B B' : Nat} {ad : Nat → Addr} {w : World} (h : EnvT B ad w) (hB : B ≤ B') (hs : B' ≤ w.heap.size) : EnvT B' ad w :=
  ⟨⟨h.env.op4, h.env.c5, h.env.c6, h.env.c7, h.env.c8, h.env.c9, Nat.le_trans h.env.low hB, hs⟩, fun w' h' => h.tab w' (h'.mono hB)⟩
theorem EnvT.is {B : Nat} {ad : Nat → Addr} {w : World} (h : EnvT B ad w) : Lib.TabIs Tryz.prog w "internal/strconv.uint64pow10" .u64 Lib.pow10Tab := h.tab w (Below.refl _ w)
theorem RepOwn.below {B : Nat} {w w' : World} {c c' : Nat → Nat} {br : Nat} {by_ : Int} {R : Rws} (h : RepOwn B w c br by_ R) (ha : Acts w c w' c') (hB : B ≤ w.heap.size) : Below B w w' := ha.keeps.below hB (fun k hk => h.low k hk)
theorem RepOwn.down {B B' : Nat} {w : World} {c : Nat → Nat} {br : Nat} {by_ : Int} {R : Rws} (h : RepOwn B w c br by_ R) (hB : B' ≤ B) : RepOwn B' w c br by_ R := ⟨h.rep, fun k hk => Nat.le_trans hB (h.low k hk), h.high⟩
theorem RepAt.rows {w : World} {c : Nat → Nat} {br : Nat} {by_ : Int} {R : Rws} (h : RepAt w c br by_ R) : RowsK R := by obtain ⟨_, _, _, _, _, _, _, _, k, _⟩ := h; exact k
theorem RepOwn.other {B : Nat} {w w' : World} {c c1 c1' : Nat → Nat} {br : Nat} {by_ : Int} {R : Rws} (h : RepOwn B w c br by_ R) (ha : Acts w c1 w' c1') (hd : ∀ k, c1 k = 0 ∨ c k = 0) : RepOwn B w' c br by_ R ∧ ∀ k, c1' k = 0 ∨ c k = 0 := by
  refine ⟨⟨h.rep.kept (fun i hi => ⟨fun k hk e => ha.keeps.block k hk (fun q => ?_), fun _ _ => rfl⟩), h.low, fun k hk => h.high k (Nat.le_trans ha.keeps.size hk)⟩, fun k => ?_⟩
  · rcases hd k with e1 | e1
    · exact q e1
    · rw [e1] at e; exact hi e.symm
  · by_cases hk : k < w.heap.size
    · rw [ha.hue k hk]; exact hd k
    · exact .inr (h.high k (by omega))
structure Folk (B : Nat) (w : World) (n : Nat) (c : Nat → Nat → Nat) (br : Nat → Nat) (by_ : Nat → Int) (R : Nat → Rws) : Prop where
  rep : ∀ r, r < n → RepOwn B w (c r) (br r) (by_ r) (R r)
  apart : ∀ r, r < n → ∀ s, s < n → r ≠ s → ∀ k, c r k = 0 ∨ c s k = 0
theorem Folk.none (B : Nat) (w : World) (c : Nat → Nat → Nat) (br : Nat → Nat) (by_ : Nat → Int) (R : Nat → Rws) : Folk B w 0 c br by_ R := ⟨fun r hr => absurd hr (by omega), fun r hr => absurd hr (by omega)⟩
theorem Folk.later {B : Nat} {w w' : World} {n : Nat} {c : Nat → Nat → Nat} {br : Nat → Nat} {by_ : Nat → Int} {R : Nat → Rws} (h : Folk B w n c br by_ R) (hb : Below w.heap.size w w') : Folk B w' n c br by_ R := ⟨fun r hr => (h.rep r hr).later hb, h.apart⟩
def setAt {α : Type} (f : Nat → α) (a : Nat) (x : α) : Nat → α := fun r => if r = a then x else f r
theorem setAt_is {α : Type} (f : Nat → α) (a : Nat) (x : α) : setAt f a x a = x := if_pos rfl
theorem setAt_ne {α : Type} (f : Nat → α) {a r : Nat} (x : α) (h : r ≠ a) : setAt f a x r = f r := if_neg h
theorem Folk.act {B : Nat} {w w' : World} {n : Nat} {c : Nat → Nat → Nat} {br : Nat → Nat} {by_ : Nat → Int} {R : Nat → Rws} (h : Folk B w n c br by_ R) {a : Nat} (ha : a < n) {c' : Nat → Nat} {R' : Rws} (hA : Acts w (c a) w' c') (hR : RepOwn B w' c' (br a) (by_ a) R') : Folk B w' n (setAt c a c') br by_ (setAt R a R') := by
  refine ⟨fun r hr => ?_, fun r hr s hs hrs => ?_⟩
  · by_cases e : r = a
    · subst e; rw [setAt_is, setAt_is]; exact hR
    · rw [setAt_ne _ _ e, setAt_ne _ _ e]; exact ((h.rep r hr).other hA (h.apart a ha r hr (fun q => e q.symm))).1
  · by_cases e : r = a
    · subst e
      have e' : s ≠ r := fun q => hrs q.symm
      rw [setAt_is, setAt_ne _ _ e']
      exact ((h.rep s hs).other hA (h.apart r ha s hs hrs)).2
    · rw [setAt_ne _ _ e]
      by_cases e' : s = a
      · subst e'
        rw [setAt_is]
        exact fun k => (((h.rep r hr).other hA (h.apart s hs r hr (fun q => e q.symm))).2 k).symm
      · rw [setAt_ne _ _ e']
        exact h.apart r hr s hs hrs
theorem Folk.add {B : Nat} {w w' : World} {n : Nat} {c : Nat → Nat → Nat} {br : Nat → Nat} {by_ : Nat → Int} {R : Nat → Rws} (h : Folk B w n c br by_ R) (hB : B ≤ w.heap.size) {c0 : Nat → Nat} {br0 : Nat} {b : Int} {R0 : Rws} (h0 : RepOwn w.heap.size w' c0 br0 b R0) (hb : Below w.heap.size w w') : Folk B w' (n + 1) (setAt c n c0) (setAt br n br0) (setAt by_ n b) (setAt R n R0) := by
  have off : ∀ r, r < n → ∀ k, c r k = 0 ∨ c0 k = 0 := fun r hr k => by
    by_cases hk : k < w.heap.size
    · right
      by_cases e : c0 k = 0
      · exact e
      · have := h0.low k e; omega
    · exact .inl ((h.rep r hr).high k (by omega))
  refine ⟨fun r hr => ?_, fun r hr s hs hrs => ?_⟩
  · by_cases e : r = n
    · subst e; simp only [setAt_is]; exact h0.down hB
    · rw [setAt_ne _ _ e, setAt_ne _ _ e, setAt_ne _ _ e, setAt_ne _ _ e]; exact (h.later hb).rep r (by omega)
  · by_cases e : r = n
    · subst e
      rw [setAt_is, setAt_ne _ _ (fun q => hrs q.symm)]
      exact fun k => (off s (by omega) k).symm
    · rw [setAt_ne _ _ e]
      by_cases e' : s = n
      · subst e'; rw [setAt_is]; exact off r (by omega)
      · rw [setAt_ne _ _ e']; exact h.apart r (by omega) s (by omega) hrs
theorem RepOwn.wellK {B : Nat} {w : World} {c : Nat → Nat} {br : Nat} {by_ : Int} {R : Rws} (h : RepOwn B w c br by_ R) : RowsK R := h.rep.rows
theorem RepAt.time {w : World} {c : Nat → Nat} {br : Nat} {by_ : Int} {R : Rws} (h : RepAt w c br by_ R) : ∃ T kv bt bx bc A, RepMid w c br T by_ kv bt bx bc R A ∧ A.Perm (allR R) ∧ timeO (allR R) T := by
  obtain ⟨T, kv, bt, bx, bc, A, h1, h2, _⟩ := h
  exact ⟨T, kv, bt, bx, bc, A, h1, h2, ⟨fun x hx => h1.time.1 x (h2.mem_iff.2 hx), h1.time.2.1.imp id (fun ⟨x, hx, e⟩ => ⟨x, h2.mem_iff.1 hx, e⟩), h1.time.2.2⟩⟩
theorem ops_in {w : World} {v : Value} {xs : List OpX} (h : OpsAt w v xs) : ∃ ao cap, v = .slice ao xs.length cap ∧ OpsIn w ao xs := by
  rcases h with ⟨rfl, rfl⟩ | ⟨b, o, cp, rfl, hc⟩
  · exact ⟨none, 0, rfl, .inl rfl⟩
  · exact ⟨some ⟨b, o, none⟩, cp, rfl, .inr ⟨b, o, rfl, hc⟩⟩
end Go.Proofs.YtcggmagdndhkbaaGreatDoor
end
section
set_option linter.unusedVariables false
set_option linter.unusedSimpArgs false
namespace Go.Proofs.YtcggmagdndhkbaaGreatDoor
open Go.RowKit Go.Lib Go.Sort Go.Maps
open scoped Classical
theorem sized_ok {l : List OpX} (h : ∀ x ∈ l, errO x = 0) : Sized l := fun x hx => by
  have q := opE_zero (h x hx)
  have l1 : x.2.2.2.2.2.2.1.data.toList.length = x.2.2.2.2.2.2.1.size := by simp
  have l2 : x.2.2.2.2.2.2.2.data.toList.length = x.2.2.2.2.2.2.2.size := by simp
  omega
def JoinedOut (B : Nat) (w : World) (c : Nat → Nat) (br : Nat) (by_ : Int) (R : Rws) (l : List OpX) (e : Ending) (w' : World) : Prop := ∃ (n : Nat) (c' : Nat → Nat) (R' : Rws), e = .returned (.tuple #[.int .i64 (n : Int), .nilIface]) ∧ Acts w c w' c' ∧ RepOwn B w' c' br by_ R' ∧ (∀ x, x ∈ allR R' ↔ x ∈ allR R ∨ x ∈ l) ∧ (allR R').length = (allR R).length + n
theorem perm_len {R R' : Rws} {F : List OpX} (hR : RowsK R) (hR' : RowsK R') (hF : FreshK (allR R) F) (hm : ∀ x, x ∈ allR R' ↔ x ∈ allR R ++ F) : (allR R').length = (allR R).length + F.length := by
  have n1 := hR'.num.nodup
  have n2 : (allR R ++ F).Nodup := by
    rw [List.nodup_append]
    refine ⟨hR.num.nodup, hF.one.imp (fun {a b} h e => h (by rw [e]; exact ⟨rfl, rfl⟩)), fun a ha b hb e => ?_⟩
    subst e
    exact hF.off a hb a ha ⟨rfl, rfl⟩
  have a1 := len_sub n1 (fun x hx => (hm x).1 hx)
  have a2 := len_sub n2 (fun x hx => (hm x).2 hx)
  rw [List.length_append] at a1 a2
  omega
theorem joined {B : Nat} {ad : Nat → Addr} (w : World) (c : Nat → Nat) (br : Nat) (by_ : Int) (R : Rws) (la : Option Addr) (lc : Nat) (T l : List OpX) (h : RepOwn B w c br by_ R) (hE : EnvT B ad w) (hin : OpsIn w la l) (hT : WellK T) (hc : Compat (allR R) T) (hl : ∀ x, x ∈ l → x ∈ T) (hl2 : ∀ x, x ∈ T → x ∈ allR R ∨ x ∈ l) (hn : (allR R).length + l.length ≤ 140) :
    Calls Tryz.prog 11 #[.pointer (some ⟨br, 0, none⟩), .slice la l.length lc] w (JoinedOut B w c br by_ R l) := by
  obtain ⟨fresh, h1, h2, h3, h4⟩ := join_part h.wellK hT hc hl hl2 (by omega)
  refine (join_any w c br by_ R la lc l h hE.env hin (sized_ok (fun x hx => hT.ok x (hl x hx))) hn).mono ?_
  rintro e w' ⟨a, c', hj, hA, hm⟩
  rw [h1 a hj] at hm
  obtain ⟨he, R', hR', hmem⟩ := hm
  refine ⟨fresh.length, c', R', he, hA, hR', fun x => ?_, perm_len h.wellK hR'.wellK h2 hmem⟩
  rw [hmem x, h3 x]
  constructor
  · rintro (q | q)
    · exact .inl q
    · exact hl2 x q
  · rintro (q | q)
    · exact .inl q
    · exact .inr (hl x q)
theorem joined_own {B : Nat} {ad : Nat → Addr} (w : World) (c : Nat → Nat) (br : Nat) (i : Nat) (R : Rws) (la : Option Addr) (lc : Nat) (T : Int) (x : OpX) (h : RepOwn B w c br (i : Int) R) (hE : EnvT B ad w) (hi : i < 4) (hin : OpsIn w la [x]) (hx : NextOp R i T x) (hT : ∀ y ∈ allR R, y.1 ≤ T) (hn : (allR R).length ≤ 130) :
    Calls Tryz.prog 11 #[.pointer (some ⟨br, 0, none⟩), .slice la 1 lc] w fun e w' => ∃ (c' : Nat → Nat) (R' : Rws), e = .returned (.tuple #[.int .i64 1, .nilIface]) ∧ Acts w c w' c' ∧ RepOwn B w' c' br (i : Int) R' ∧ (∀ y, y ∈ allR R' ↔ y = x ∨ y ∈ allR R) ∧ (allR R').length = (allR R).length + 1 := by
  have hw := hx.well h.wellK hi hT
  have hxn : x ∉ allR R := fun q => by have := hw.2 x q rfl; omega
  refine (joined w c br (i : Int) R la lc (x :: allR R) [x] h hE hin hw.1 (compat_own hx h.wellK hi hT) (fun y hy => by simp at hy; rw [hy]; exact List.mem_cons_self) (fun y hy => by rcases List.mem_cons.1 hy with q | q; exact .inr (by simp [q]); exact .inl q) (by simp; omega)).mono ?_
  rintro e w' ⟨n, c', R', he, hA, hR', hm, hlen⟩
  have hm' : ∀ y, y ∈ allR R' ↔ y = x ∨ y ∈ allR R := fun y => by rw [hm y]; simp only [List.mem_singleton]; exact Or.comm
  have n1 : n = 1 := by
    have a1 := len_sub hR'.wellK.num.nodup (H := x :: allR R) (fun y hy => by rcases (hm' y).1 hy with q | q; exact List.mem_cons.2 (.inl q); exact List.mem_cons_of_mem _ q)
    have a2 := len_sub (l := x :: allR R) (H := allR R') (List.nodup_cons.2 ⟨hxn, h.wellK.num.nodup⟩) (fun y hy => (hm' y).2 (List.mem_cons.1 hy))
    rw [List.length_cons] at a1 a2
    omega
  subst n1
  exact ⟨c', R', he, hA, hR', hm', hlen⟩
end Go.Proofs.YtcggmagdndhkbaaGreatDoor
end
section
set_option linter.unusedVariables false
set_option linter.unusedSimpArgs false
namespace Go.Proofs.YtcggmagdndhkbaaGreatDoor
open Go.RowKit Go.Lib Go.Sort Go.Maps
open scoped Classical
def x0 : OpX := (1, 2, 1, 109, 6, 0, ⟨#[97]⟩, ⟨#[]⟩)
theorem err0 : errO x0 = 0 := by decide
theorem next0 : NextOp (fun _ => []) 2 0 x0 := ⟨err0, rfl, rfl, rfl, .inl ⟨rfl, rfl⟩, fun _ => .inl rfl, fun h => by rcases h with ⟨h, _⟩ | h <;> exact absurd h (by decide)⟩
theorem known0 (nd : Int) : KnownN [x0] nd ↔ nd = 6 := by
  constructor
  · rintro ⟨x, hx, _, e, _⟩
    simp only [List.mem_singleton] at hx
    subst hx
    exact e.symm
  · intro e
    exact ⟨x0, by simp, rfl, e.symm, e.symm⟩
theorem line0 : LineIs [x0] 6 [] := ⟨[], List.Perm.refl _, ⟨List.nodup_nil, fun m hm => by simp at hm, fun u m v e => by simp at e⟩, rfl⟩
theorem made_single (m : Mov) (hne : m.2.1 ≠ m.2.2.1) : madeBy [m] = upd noSta m.2.1 (some m.2) := by
  show step noSta m = _
  exact step_goes (fun hi => hi.elim hne (fun h => ins_none rfl h))
theorem text0 : Lib.join (linesB [(6, 0, ⟨#[97]⟩)] [(6, [])] []) [10] = [54, 32, 105, 110, 32, 48, 32, 97] := by
  have h6 : Lib.itoa 6 = [54] := by unfold Lib.itoa; simp [Lib.decDigits]
  have h0 : Lib.itoa 0 = [48] := by unfold Lib.itoa; simp [Lib.decDigits]
  unfold linesB placeB lineB
  simp [h6, h0, fullT, Lib.join_cons, Lib.joinTail]
theorem state0 : StateIs [x0] [54, 32, 105, 110, 32, 48, 32, 97] := by
  refine ⟨[((1, 2), (6, 0, ⟨#[97]⟩))], [(6, 0, ⟨#[97]⟩)], [(6, [])], [x0], [], List.Perm.refl _, List.pairwise_singleton _ _, ?_, ⟨List.pairwise_singleton _ _, fun nd => ?_, fun t ht => ?_⟩, List.Perm.refl _, ⟨List.Pairwise.nil, fun p => ?_⟩, text0.symm⟩
  · rw [made_single _ (by decide)]
    refine ⟨List.pairwise_singleton _ _, fun p => ?_⟩
    obtain ⟨a, b, s⟩ := p
    simp only [List.mem_singleton, upd]
    constructor
    · intro e
      cases e
      simp
    · intro e
      split at e
      · cases e; rfl
      · cases e
  · rw [known0]
    simp
  · simp only [List.mem_singleton] at ht
    subst ht
    exact ⟨[], line0, rfl⟩
  · constructor
    · intro h; simp at h
    · rintro ⟨_, s, hs⟩
      have : madeO [x0] = noC := rfl
      rw [this] at hs
      cases hs
theorem well0 : WellK [x0] := (next0.well rowsK_nil (by omega) (fun y hy => by simp [allR] at hy)).1
set_option maxRecDepth 100000 in
set_option maxHeartbeats 4000000 in
theorem begun_any {B : Nat} {ad : Nat → Addr} (w : World) (hE : EnvT B ad w) :
    Calls Tryz.prog 8 #[] w fun e w' => e = .returned (.bool true) ∧ Below w.heap.size w w' := by
  have hnew := rnew_ok w 2 (by omega) (by omega)
  have HE : Aside (EnvT w.heap.size ad w) := hE.up hE.env.size (Nat.le_refl _)
  clear hE
  go_enter Tryz.func8, Tryz.ntmps8
  go_wp2_with fail
  refine hnew.mono ?_
  clear hnew
  rintro e w1 ⟨c, br, rfl, hR1, hb1⟩
  obtain ⟨T, kv, bt, bx, bc, A, hm, hp, ht⟩ := hR1.rep.time
  obtain ⟨ao, cap, hM⟩ := hm.norm
  obtain rfl : T = 0 := timeO_unique ht (by unfold allR; exact timeO_nil)
  have hmk0 := make_any (i := 2) w1 c br 0 ao cap bt bx bc (fun _ => []) 0 ⟨#[97]⟩ hM.cell hM.rows hR1.wellK (HE.out.later hb1).env (by omega) (by omega) (by omega) (by simp [allR]) (by decide) (by omega) (by omega)
  have hmk : Calls Tryz.prog 10 #[.pointer (some ⟨br, 0, none⟩), .int .i64 0, .string ⟨#[97]⟩] w1 fun e w' => e = .returned (.tuple #[.agg #[.int .i64 1, .int .i64 2, .int .i64 1, .int .u8 109, .int .i64 6, .int .i64 0, .string ⟨#[97]⟩, .string ⟨#[]⟩], .nilIface]) ∧ Aside (Below w1.heap.size w1 w') := hmk0.mono (fun e w' q => by
    rcases q with ⟨_, q1, q2⟩ | ⟨q, _⟩
    · have ex : ownX 0 2 ((fun _ => [] : Rws) 2).length 109 0 0 ⟨#[97]⟩ ⟨#[]⟩ = x0 := rfl
      rw [ex, err0, if_pos rfl] at q1
      exact ⟨q1, q2⟩
    · exact absurd (.inl rfl) q)
  have H1 : Aside (RepOwn w.heap.size w1 c br 2 (fun _ => []) ∧ Below w.heap.size w w1) := ⟨hR1, hb1⟩
  clear hR1 hb1 hm hp ht hM hmk0
  go_wp2_with fail
  refine hmk.mono ?_
  clear hmk
  rintro e w2 ⟨rfl, HB2⟩
  obtain ⟨U, hU⟩ : ∃ U, U = w2.alloc (.cells #[.int .i64 1, .int .i64 2, .int .i64 1, .int .u8 109, .int .i64 6, .int .i64 0, .string ⟨#[97]⟩, .string ⟨#[]⟩] 31) := ⟨_, rfl⟩
  have hbU : Below w1.heap.size w1 U := by rw [hU]; exact HB2.out.alloc HB2.out.size _
  have O0 : OpBlk U w2.heap.size x0 := by rw [hU]; exact OpBlk.new w2 x0
  have hops : Calls Tryz.prog 13 #[.pointer (some ⟨br, 0, none⟩)] U fun e w' => ∃ ao cap, e = .returned (.slice ao 0 cap) ∧ Aside (Below U.heap.size U w') := (rops_any U c br 2 (fun _ => []) (H1.out.1.later hbU).rep (by simp [allR])).mono (fun e w' q => by
    obtain ⟨v, ys, he, h1, h2, h3, _⟩ := q
    have hl := (stable_by h2).1.length_eq
    have : ys = [] := List.length_eq_zero_iff.1 (by rw [hl]; simp [allR])
    subst this
    obtain ⟨ao, cap, rfl, _⟩ := ops_in h1
    exact ⟨ao, cap, he, h3⟩)
  have H2 : Aside (U = w2.alloc (.cells #[.int .i64 1, .int .i64 2, .int .i64 1, .int .u8 109, .int .i64 6, .int .i64 0, .string ⟨#[97]⟩, .string ⟨#[]⟩] 31) ∧ Below w1.heap.size w1 U ∧ OpBlk U w2.heap.size x0) := ⟨hU, hbU, O0⟩
  obtain ⟨P, hP⟩ : ∃ P, Aside (P = w2.heap.size) := ⟨_, rfl⟩
  clear hbU O0 HB2 hU
  go_upto_region 5 with fail
  rw [← H2.out.1, ← hP.out]
  go_wp2_with fail
  refine hops.mono ?_
  clear hops
  rintro e w3 ⟨ao3, cap3, rfl, HB3⟩
  have O3 : OpBlk w3 P x0 := by rw [hP.out]; exact H2.out.2.2.later HB3.out
  have hb3 : Below w1.heap.size w1 w3 := H2.out.2.1.trans (HB3.out.mono H2.out.2.1.size)
  obtain ⟨j0, j1, j2, j3, j4, j5, j6, j7, -⟩ := O3.cells
  dsimp only [x0] at j0 j1 j2 j3 j4 j5 j6 j7
  obtain ⟨V, hV⟩ : ∃ V, V = w3.alloc (.cells #[.int .i64 1, .int .i64 2, .int .i64 1, .int .u8 109, .int .i64 6, .int .i64 0, .string ⟨#[97]⟩, .string ⟨#[]⟩] 31) := ⟨_, rfl⟩
  have hbV : Below w1.heap.size w1 V := by rw [hV]; exact hb3.alloc hb3.size _
  have hinV : OpsIn V (some ⟨w3.heap.size, 0, none⟩) [x0] := by
    refine .inr ⟨w3.heap.size, 0, rfl, fun j u hj => ?_⟩
    rw [hV]
    have := lit_cellsO w3 x0 31 j u (by simpa [cellsOf, flat] using hj)
    rw [Addr.add_lit] at this
    exact this
  have hjn := joined_own (B := w.heap.size) V c br 2 (fun _ => []) (some ⟨w3.heap.size, 0, none⟩) 1 0 x0 (H1.out.1.later hbV) (HE.out.later (H1.out.2.trans (hbV.mono H1.out.2.size))) (by omega) hinV next0 (fun y hy => by simp [allR] at hy) (by simp [allR])
  have hjn2 := hjn.mono (R' := fun e w' => ∃ (c' : Nat → Nat) (R' : Rws), e = .returned (.tuple #[.int .i64 1, .nilIface]) ∧ Aside (RepOwn w.heap.size w' c' br 2 R' ∧ Below w.heap.size w w' ∧ (∀ y, y ∈ allR R' ↔ y = x0) ∧ (allR R').length = 1)) (fun e w' q => by
    obtain ⟨c', R', he, hA, hR', hm, hl⟩ := q
    have hbw : Below w.heap.size w V := H1.out.2.trans (hbV.mono H1.out.2.size)
    exact ⟨c', R', he, hR', hbw.trans ((H1.out.1.later hbV).below hA hbw.size), fun y => by rw [hm y]; simp [allR], by rw [hl]; simp [allR]⟩)
  have H3 : Aside (V = w3.alloc (.cells #[.int .i64 1, .int .i64 2, .int .i64 1, .int .u8 109, .int .i64 6, .int .i64 0, .string ⟨#[97]⟩, .string ⟨#[]⟩] 31)) := hV
  clear hjn hinV hbV hV hb3 O3 HB3
  go_wp2_with fail
  rw [← H3.out]
  refine hjn2.mono ?_
  clear hjn2 j0 j1 j2 j3 j4 j5 j6 j7
  rintro e w4 ⟨c', R', rfl, H4⟩
  have hperm : (allR R').Perm [x0] := by
    match hq : allR R', H4.out.2.2.2 with
    | [a], _ =>
      have := (H4.out.2.2.1 a).1 (by rw [hq]; simp)
      rw [this]
  have hst : Calls Tryz.prog 17 #[.pointer (some ⟨br, 0, none⟩)] w4 fun e w' => e = .returned (.string ⟨#[54, 32, 105, 110, 32, 48, 32, 97]⟩) ∧ Aside (Below w4.heap.size w4 w') := (state_any w4 c' br 2 R' H4.out.1.rep ((HE.out.mono H4.out.2.1).is) (by rw [H4.out.2.2.2]; omega)).mono (fun e w' q => by
    obtain ⟨s, he, hs, hb⟩ := q
    have := state0.same well0 hperm.symm hs
    rw [← this] at he
    exact ⟨he, hb⟩)
  have HP : Aside ((allR R').Perm [x0]) := hperm
  clear hperm
  go_wp2_with fail
  refine hst.mono ?_
  clear hst
  rintro e w5 ⟨rfl, HB5⟩
  obtain ⟨T5, kv5, bt5, bx5, bc5, A5, hm5, hp5, ht5⟩ := (H4.out.1.later HB5.out).rep.time
  have hT5 : T5 = 1 := timeO_unique ht5 ⟨fun x hx => by rw [(H4.out.2.2.1 x).1 hx]; decide, .inr ⟨x0, (H4.out.2.2.1 x0).2 rfl, rfl⟩, by decide⟩
  subst hT5
  have hby := rby_any w5 br 1 2 kv5 bt5 bx5 bc5 hm5.cell
  have htm := rtime_any w5 br 1 2 kv5 bt5 bx5 bc5 hm5.cell
  have H5 : Aside (Below w.heap.size w w5) := H4.out.2.1.trans (HB5.out.mono H4.out.2.1.size)
  clear hm5 hp5 ht5
  go_wp2_with fail
  refine hby.mono ?_
  rintro e w6 ⟨rfl, rfl⟩
  clear hby
  go_wp2_with fail
  refine htm.mono ?_
  rintro e w7 ⟨rfl, rfl⟩
  clear htm
  go_wp2
  go_ret
  exact ⟨rfl, H5.out⟩
end Go.Proofs.YtcggmagdndhkbaaGreatDoor
end
section
set_option linter.unusedVariables false
set_option linter.unusedSimpArgs false
namespace Go.Proofs.YtcggmagdndhkbaaGreatDoor
open Go.RowKit Go.Lib Go.Sort Go.Maps
open scoped Classical
end Go.Proofs.YtcggmagdndhkbaaGreatDoor
end
section
set_option linter.unusedVariables false
set_option linter.unusedSimpArgs false
namespace Go.Proofs.YtcggmagdndhkbaaGreatDoor
open Go.RowKit Go.Lib Go.Sort Go.Maps
end Go.Proofs.YtcggmagdndhkbaaGreatDoor
end
section
set_option linter.unusedVariables false
set_option linter.unusedSimpArgs false
namespace Go.Proofs.YtcggmagdndhkbaaGreatDoor
open Go.RowKit Go.Lib Go.Sort Go.Maps
open scoped Classical
theorem known_two {S : List OpX} (h : ∀ x ∈ S, errO x = 0) {nd : Int} (k : KnownN S nd) : 2 ≤ nd := by
  obtain ⟨x, hx, k1, k2, k3⟩ := k
  have := (err_refs (h x hx)).2.2.2.2.1 k1
  omega
theorem atL_true {n : Int} {L : List Ltr} {id : Int} (h : atL n L = (id, true)) : id ∈ L.map (·.1) := by
  unfold atL at h
  split at h
  · split at h
    · rename_i l hl
      cases h
      exact List.mem_map.2 ⟨l, (List.mem_filter.1 (List.mem_of_getElem? hl)).1, rfl⟩
    · cases h
  · cases h
theorem next_own {R : Rws} {i : Nat} {T : Int} {kd : Nat} {nd o : Int} {s v : ByteArray} (he : errO (ownX T i (R i).length kd nd o s v) = 0) (hr : RefOk (ownX T i (R i).length kd nd o s v :: allR R) (ownX T i (R i).length kd nd o s v)) : NextOp R i T (ownX T i (R i).length kd nd o s v) := ⟨he, rfl, rfl, rfl, hr⟩
theorem own_node {T : Int} {i m kd : Nat} {nd o : Int} {s v : ByteArray} (h : nd ≠ 0) : nodeO (ownX T i m kd nd o s v) = nd := if_neg h
section
variable {B : Nat} {ad : Nat → Addr} (w : World) (c : Nat → Nat) (br : Nat) (i : Nat) (R : Rws)
end
end Go.Proofs.YtcggmagdndhkbaaGreatDoor
end
section
set_option linter.unusedVariables false
namespace Go.Proofs.YtcggmagdndhkbaaGreatDoor
open scoped Classical
def lastId (p : Int) (U : List OpX) : Int := (U.map idO).getLast?.getD p
theorem chain_snoc {nd : Int} {x : OpX} : ∀ {U : List OpX} {p : Int}, chainO nd p U → kdO x = 105 → nodeO x = nd → otherO x = lastId p U → idO x ≠ 0 → chainO nd p (U ++ [x])
  | [], p, _, h1, h2, h3, h4 => ⟨h1, h2, h3, h4, trivial⟩
  | y :: U, p, h, h1, h2, h3, h4 => by
    refine ⟨h.1, h.2.1, h.2.2.1, h.2.2.2.1, chain_snoc h.2.2.2.2 h1 h2 ?_ h4⟩
    rw [h3]
    unfold lastId
    cases U with
    | nil => rfl
    | cons z U =>
      rw [List.map_cons, List.map_cons, List.getLast?_cons_cons]
      cases hq : (idO z :: List.map idO U).getLast? with
      | none => simp at hq
      | some q => rfl
structure Onto (A : List OpX) (nd p : Int) (P Q : List Ltr) : Prop where
  line : LineIs A nd (P ++ Q)
  ok : ∀ y ∈ A, errO y = 0
  gone : ∀ y ∈ A, kdO y ≠ 100
  ends : Ends p P
  seen : ∀ l ∈ P ++ Q, l.2.2 = false
  known : KnownN A nd
structure TypedBy (A : List OpX) (i : Nat) (nd p : Int) (P Q : List Ltr) (R : Rws) (U : List OpX) (bs : List UInt8) : Prop where
  perm : (allR R).Perm (U.reverse ++ A)
  word : WordOf A nd p U
  lets : U.map letO = bs.map UInt8.toNat
  mine : ∀ x ∈ U, byO x = (i : Int)
theorem seen_all {L : List Ltr} (h : ∀ l ∈ L, l.2.2 = false) : seenOf L = L := by
  unfold seenOf
  rw [List.filter_eq_self]
  intro l hl
  simp [h l hl]
section
variable {A : List OpX} {i : Nat} {nd p : Int} {P Q : List Ltr} {R : Rws} {U : List OpX} {bs : List UInt8}
theorem TypedBy.line (h : TypedBy A i nd p P Q R U bs) (o : Onto A nd p P Q) : LineIs (allR R) nd (P ++ U.map opLt ++ Q) := (word_at o.line o.ok o.gone o.ends h.word).perm h.perm.symm
theorem TypedBy.seen (h : TypedBy A i nd p P Q R U bs) (o : Onto A nd p P Q) : ∀ l ∈ P ++ U.map opLt ++ Q, l.2.2 = false := fun l hl => by
  simp only [List.mem_append] at hl
  rcases hl with (q | q) | q
  · exact o.seen l (List.mem_append_left _ q)
  · obtain ⟨y, _, rfl⟩ := List.mem_map.1 q
    rfl
  · exact o.seen l (List.mem_append_right _ q)
theorem TypedBy.start (hR : (allR R).Perm A) : TypedBy A i nd p P Q R [] [] := ⟨hR, ⟨trivial, fun x hx => by simp at hx, List.Pairwise.nil, fun x hx => by simp at hx⟩, rfl, fun x hx => by simp at hx⟩
theorem last_ends (o : Ends p P) (hn : P.length + U.length ≠ 0) (Q : List Ltr) : ∃ l, (P ++ U.map opLt ++ Q)[P.length + U.length - 1]? = some l ∧ l.1 = lastId p U := by
  have hl : P.length + U.length - 1 < (P ++ U.map opLt).length := by simp; omega
  refine ⟨(P ++ U.map opLt)[P.length + U.length - 1], ?_, ?_⟩
  · rw [List.getElem?_append_left hl, List.getElem?_eq_getElem hl]
  · rcases List.eq_nil_or_concat U with rfl | ⟨U', x, rfl⟩
    · rcases o with ⟨_, rfl⟩ | ⟨A', l, rfl, e, _⟩
      · simp at hn
      · simp [lastId, e]
    · simp [lastId, opLt]
theorem TypedBy.step (h : TypedBy A i nd p P Q R U bs) (o : Onto A nd p P Q) (hR : RowsK R) {S : List OpX} (hS : S.Perm (allR R)) {T : Int} (hT : timeO (allR R) T) {a : Int × Bool} (hw : WriteAt S nd ((P.length + U.length : Nat) : Int) a) (ha : a.2 = true) {ch : UInt8} (he : errO (ownX T i (R i).length 105 nd a.1 ⟨#[]⟩ ⟨#[ch]⟩) = 0) {R' : Rws} (hR' : (allR R').Perm (ownX T i (R i).length 105 nd a.1 ⟨#[]⟩ ⟨#[ch]⟩ :: allR R)) :
    TypedBy A i nd p P Q R' (U ++ [ownX T i (R i).length 105 nd a.1 ⟨#[]⟩ ⟨#[ch]⟩]) (bs ++ [ch]) := by
  have hoth : a.1 = lastId p U := by
    rcases hw with ⟨h0, h1, _⟩ | ⟨h0, _, h2⟩
    · have hU : U = [] := List.length_eq_zero_iff.1 (by omega)
      have hP : P = [] := List.length_eq_zero_iff.1 (by omega)
      subst hU hP
      rcases o.ends with ⟨e, _⟩ | ⟨A', l, e, _⟩
      · rw [h1, e]; rfl
      · simp at e
    · obtain ⟨L, hL, e⟩ := h2 (o.known.mono (fun x hx => hS.mem_iff.2 (h.perm.mem_iff.2 (List.mem_append_right _ hx))))
      have hLL : L = P ++ U.map opLt ++ Q := (hL.perm hS).unique (h.line o)
      obtain ⟨l, hl1, hl2⟩ := last_ends (U := U) o.ends (by omega) Q
      rw [e, hLL]
      unfold atL
      rw [if_pos (by omega), seen_all (h.seen o), show (((P.length + U.length : Nat) : Int) - 1).toNat = P.length + U.length - 1 by omega, hl1]
      exact hl2
  have hnd := known_two o.ok o.known
  have hnode : nodeO (ownX T i (R i).length 105 nd a.1 ⟨#[]⟩ ⟨#[ch]⟩) = nd := own_node (by omega)
  obtain ⟨x, hx⟩ : ∃ x, x = ownX T i (R i).length 105 nd a.1 ⟨#[]⟩ ⟨#[ch]⟩ := ⟨_, rfl⟩
  have hx1 : x.1 = T + 1 := by rw [hx]; rfl
  have hid : idO x = (T + 1) * 4 + (i : Int) := by rw [hx]; rfl
  have hot : otherO x = a.1 := by rw [hx]; rfl
  have hkd : kdO x = 105 := by rw [hx]; rfl
  have hle : letO x = ch.toNat := by rw [hx]; rfl
  have hby : byO x = (i : Int) := by rw [hx]; rfl
  rw [← hx] at he hnode hR' ⊢
  have hT0 := hT.2.2
  have hT1 : ∀ y ∈ U.reverse ++ A, y.1 ≤ T := fun y hy => hT.1 y (h.perm.mem_iff.2 hy)
  refine ⟨?_, ⟨chain_snoc h.word.chain hkd hnode (hot.trans hoth) (by rw [hid]; omega), fun y hy => ?_, ?_, fun y hy z hz => ?_⟩, ?_, fun y hy => ?_⟩
  · rw [List.reverse_append]
    exact hR'.trans (h.perm.cons x)
  · rcases List.mem_append.1 hy with q | q
    · exact h.word.ok y q
    · rw [List.mem_singleton.1 q]; exact he
  · rw [List.pairwise_append]
    refine ⟨h.word.rise, List.pairwise_singleton _ _, fun y hy z hz => ?_⟩
    rw [List.mem_singleton.1 hz]
    have := hT1 y (by simp [hy])
    exact id_above he (h.word.ok y hy) (by omega)
  · rcases List.mem_append.1 hy with q | q
    · exact h.word.above y q z hz
    · rw [List.mem_singleton.1 q]
      have := hT1 z (by simp [hz])
      omega
  · simp [h.lets, hle]
  · rcases List.mem_append.1 hy with q | q
    · exact h.mine y q
    · rw [List.mem_singleton.1 q]; exact hby
theorem ofNat_let (U : List OpX) (bs : List UInt8) (h : U.map letO = bs.map UInt8.toNat) : (U.map opLt).map (fun l => UInt8.ofNat l.2.1) = bs := by
  rw [List.map_map]
  have e : (U.map letO).map UInt8.ofNat = (bs.map UInt8.toNat).map UInt8.ofNat := by rw [h]
  rw [List.map_map, List.map_map] at e
  have e2 : bs.map (UInt8.ofNat ∘ UInt8.toNat) = bs := by
    conv => rhs; rw [← List.map_id bs]
    exact List.map_congr_left (fun b _ => by simp)
  rw [e2] at e
  exact e
def bytesL (L : List Ltr) : List UInt8 := L.map fun l => UInt8.ofNat l.2.1
theorem text_seen {L : List Ltr} (h : ∀ l ∈ L, l.2.2 = false) : textL L = bytesL L := by unfold textL bytesL; rw [seen_all h]
theorem TypedBy.text (h : TypedBy A i nd p P Q R U bs) (o : Onto A nd p P Q) {s : ByteArray} (hs : TextIs (allR R) nd s) : s.data.toList = bytesL P ++ bs ++ bytesL Q := by
  rcases hs with ⟨q, _⟩ | ⟨_, L, hL, e⟩
  · exact absurd (o.known.mono (fun x hx => h.perm.mem_iff.2 (List.mem_append_right _ hx))) q
  · rw [e, hL.unique (h.line o), text_seen (h.seen o)]
    unfold bytesL
    rw [List.map_append, List.map_append, ofNat_let U bs h.lets]
theorem ends_take {L : List Ltr} (h0 : ∀ l ∈ L, l.1 ≠ 0) (hn : (L.map (·.1)).Nodup) : ∀ n, n ≤ L.length → ∃ p, Ends p (L.take n)
  | 0, _ => ⟨0, .inl ⟨rfl, rfl⟩⟩
  | n + 1, h => by
    have hl : n < L.length := h
    refine ⟨L[n].1, .inr ⟨L.take n, L[n], ?_, rfl, h0 _ (List.getElem_mem hl), fun g hg e => ?_⟩⟩
    · rw [List.take_succ_eq_append_getElem hl]
    · obtain ⟨k, hk, rfl⟩ := List.mem_iff_getElem.1 hg
      rw [List.length_take] at hk
      rw [List.getElem_take] at e
      have h2 := List.pairwise_iff_getElem.1 hn k n (by simp; omega) (by simp; omega) (by omega)
      simp at h2
      exact h2 e
theorem TypedBy.onto (h : TypedBy A i nd 0 [] [] R U bs) (o : Onto A nd 0 [] []) {n : Nat} (hn : n ≤ bs.length) : ∃ q, Onto (allR R) nd q ((U.map opLt).take n) ((U.map opLt).drop n) := by
  have hline := h.line o
  rw [List.nil_append, List.append_nil] at hline
  have hlen : (U.map opLt).length = bs.length := by
    have := congrArg List.length h.lets
    simpa using this
  obtain ⟨q, hq⟩ := ends_take (L := U.map opLt) (fun l hl => by
    obtain ⟨y, hy, rfl⟩ := List.mem_map.1 hl
    exact (chain_kd h.word.chain y hy).2.2) hline.nodup n (by omega)
  refine ⟨q, by rw [List.take_append_drop]; exact hline, fun y hy => ?_, fun y hy => ?_, hq, fun l hl => ?_, o.known.mono (fun x hx => h.perm.mem_iff.2 (List.mem_append_right _ hx))⟩
  · rcases List.mem_append.1 (h.perm.mem_iff.1 hy) with k | k
    · exact h.word.ok y (List.mem_reverse.1 k)
    · exact o.ok y k
  · rcases List.mem_append.1 (h.perm.mem_iff.1 hy) with k | k
    · rw [(chain_kd h.word.chain y (List.mem_reverse.1 k)).1]; decide
    · exact o.gone y k
  · rw [List.take_append_drop] at hl
    obtain ⟨y, _, rfl⟩ := List.mem_map.1 hl
    rfl
theorem bytes_take (U : List OpX) (bs : List UInt8) (h : U.map letO = bs.map UInt8.toNat) (n : Nat) : bytesL ((U.map opLt).take n) = bs.take n ∧ bytesL ((U.map opLt).drop n) = bs.drop n := by
  unfold bytesL
  rw [List.map_take, List.map_drop, ofNat_let U bs h]
  exact ⟨rfl, rfl⟩
theorem two_text {V : List OpX} {cs : List UInt8} {R1 R2 : Rws} {j : Nat} (hij : i ≠ j) (h1 : TypedBy A i nd p P Q R1 U bs) (h2 : TypedBy A j nd p P Q R2 V cs) (o : Onto A nd p P Q) {C : List OpX} (hC : C.Perm (U ++ (V ++ A))) {s : ByteArray} (hs : TextIs C nd s) : s.data.toList = bytesL P ++ bs ++ cs ++ bytesL Q ∨ s.data.toList = bytesL P ++ cs ++ bs ++ bytesL Q := by
  have hne : ∀ x ∈ U, ∀ y ∈ V, idO x ≠ idO y := fun x hx y hy e => by
    have hs := idO_eq (h1.word.ok x hx) (h2.word.ok y hy) e
    have e1 := h1.mine x hx
    have e2 := h2.mine y hy
    have : byO x = byO y := congrArg Prod.snd hs
    omega
  rcases hs with ⟨q, _⟩ | ⟨_, L, hL, e⟩
  · exact absurd (o.known.mono (fun x hx => hC.mem_iff.2 (by simp [hx]))) q
  · have hL' := hL.perm hC
    have hseen : ∀ {X Y : List OpX}, ∀ l ∈ P ++ X.map opLt ++ Y.map opLt ++ Q, l.2.2 = false := fun {X Y} l hl => by
      simp only [List.mem_append] at hl
      rcases hl with ((q | q) | q) | q
      · exact o.seen l (List.mem_append_left _ q)
      · obtain ⟨y, _, rfl⟩ := List.mem_map.1 q; rfl
      · obtain ⟨y, _, rfl⟩ := List.mem_map.1 q; rfl
      · exact o.seen l (List.mem_append_right _ q)
    rcases words_two o.line o.ok o.gone o.ends h1.word h2.word hne with k | k
    · right
      rw [e, hL'.unique k, text_seen hseen]
      unfold bytesL
      rw [List.map_append, List.map_append, List.map_append, ofNat_let U bs h1.lets, ofNat_let V cs h2.lets]
    · left
      rw [e, hL'.unique k, text_seen hseen]
      unfold bytesL
      rw [List.map_append, List.map_append, List.map_append, ofNat_let U bs h1.lets, ofNat_let V cs h2.lets]
end
end Go.Proofs.YtcggmagdndhkbaaGreatDoor
end
section
namespace Go.Proofs.YtcggmagdndhkbaaGreatDoor
open Go.RowKit
theorem cut_left (s : ByteArray) (c : Nat) (h : c ≤ s.size) : ∃ F : ByteArray, F.data.toList = s.data.toList.take c ∧ ∀ w, (Instr.slice 9 (.string s) none (some (.int .i64 (c : Int))) none).run Tryz.prog w = .ok (.string F) w := by
  refine ⟨s.extract 0 c, by simp, fun w => ?_⟩
  have h1 : (c : Int) ≤ (s.size : Int) := by omega
  have h0 : (0 : Int) ≤ (c : Int) := by omega
  go_simp
theorem cut_right (s : ByteArray) (c : Nat) (h : c ≤ s.size) : ∃ F : ByteArray, F.data.toList = s.data.toList.drop c ∧ ∀ w, (Instr.slice 9 (.string s) (some (.int .i64 (c : Int))) none none).run Tryz.prog w = .ok (.string F) w := by
  refine ⟨s.extract c s.size, by simp; rw [List.take_of_length_le (by simp)], fun w => ?_⟩
  have h1 : (c : Int) ≤ (s.size : Int) := by omega
  have h0 : (0 : Int) ≤ (c : Int) := by omega
  go_simp
theorem add_two (x y : ByteArray) (h : x.size + y.size ≤ 9223372036854775807) : ∃ F : ByteArray, F.data.toList = x.data.toList ++ y.data.toList ∧ F.size = x.size + y.size ∧ ∀ w, (Op.stringOp .add x y).run Tryz.prog w = .ok (.string F) w := by
  refine ⟨x ++ y, by simp, by simp, fun w => ?_⟩
  rw [run_string_add_sum w x y h]
theorem bytes_ext {x y : ByteArray} (h : x.data.toList = y.data.toList) : x = y := by
  cases x; cases y
  simp at h
  rw [h]
theorem take_byte (s : ByteArray) (k : Nat) (h : k < s.size) : s.data.toList.take k ++ [s[k]] = s.data.toList.take (k + 1) := by
  have hl : k < s.data.toList.length := by simpa using h
  rw [List.take_succ_eq_append_getElem hl]
  congr 1
theorem beqL_no {x y : ByteArray} (h : x ≠ y) : (x.toList == y.toList) = false := by
  rw [ByteArray.toList_eq, ByteArray.toList_eq]
  exact beq_false_of_ne (fun e => h (bytes_ext e))
theorem beq_no {x y : ByteArray} (h : x ≠ y) : (x == y) = false := by
  cases x with
  | mk a =>
    cases y with
    | mk b =>
      have hab : a ≠ b := fun e => h (by rw [e])
      show (a == b) = false
      simpa using hab
end Go.Proofs.YtcggmagdndhkbaaGreatDoor
end
section
set_option linter.unusedVariables false
set_option linter.unusedSimpArgs false
namespace Go.Proofs.YtcggmagdndhkbaaGreatDoor
open Go.RowKit Go.Lib Go.Sort Go.Maps
open scoped Classical
def ptrs (br : Nat → Nat) (n : Nat) : List Value := (List.range n).map fun r => .pointer (some ⟨br r, 0, none⟩)
theorem Folk.congr {B : Nat} {w : World} {n : Nat} {c : Nat → Nat → Nat} {br : Nat → Nat} {by_ by' : Nat → Int} {R : Nat → Rws} (h : Folk B w n c br by_ R) (e : ∀ r, r < n → by_ r = by' r) : Folk B w n c br by' R := ⟨fun r hr => by rw [← e r hr]; exact h.rep r hr, h.apart⟩
def HistK (i : Nat) (K : Nat → Rws) : Prop := ∃ H : List OpX, H.length ≤ i ∧ ∀ r, r < 4 → ∀ x ∈ allR (K r), x ∈ H ∧ x.1 ≤ (i : Int)
structure Crowd (B : Nat) (w : World) (g cap : Nat) (br : Nat → Nat) (K : Nat → Rws) (i : Nat) (sf : List Nat) (wr : World) : Prop where
  folk : ∃ c, Folk B wr 4 c br (fun r => (r : Int)) K ∧ ∀ r, r < 4 → ∀ k ∈ g :: sf, c r k = 0
  row : wr.ownsRow B 23 1 (.slice (some ⟨g, 0, none⟩) 4 cap) 4 (ptrs br 4)
  below : Below B w wr
  base : B ≤ w.heap.size
  kin : FolkK 4 (fun r => allR (K r))
  hist : HistK i K
  safe : ∀ k ∈ sf, k < wr.heap.size
section
variable {B : Nat} {w : World} {g cap : Nat} {br : Nat → Nat} {K : Nat → Rws} {i : Nat} {sf : List Nat} {wr : World}
end
end Go.Proofs.YtcggmagdndhkbaaGreatDoor
end
