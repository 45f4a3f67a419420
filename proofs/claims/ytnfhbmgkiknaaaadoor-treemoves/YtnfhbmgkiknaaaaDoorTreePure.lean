/- Plain facts, of no program: where nodes lie, moves one behind the other, how they are undone, and that no node comes to lie in itself. -/
import Derived.Sort.LotA
namespace Go.Proofs.YtnfhbmgkiknaaaaDoor

abbrev Plc := Int × Int × ByteArray
abbrev Sta := Int → Option Plc
abbrev Mov := (Int × Int) × Plc
def zeroP : Plc := (0, 0, ⟨#[]⟩)
def noSta : Sta := fun _ => none

/-- Does a node lie in another one, looked at so many times? -/
def insF (f : Sta) : Nat → Int → Int → Bool
  | 0, _, _ => false
  | n + 1, node, of => match f node with
    | none => false
    | some p => decide (p.2.1 = of) || insF f n p.2.1 of
def Ins (f : Sta) (node of : Int) : Prop := ∃ n, insF f n node of = true

theorem insF_none {f : Sta} {node : Int} (h : f node = none) (n : Nat) (of : Int) : insF f n node of = false := by
  cases n <;> simp [insF, h]
theorem insF_some {f : Sta} {node : Int} {p : Plc} (h : f node = some p) (n : Nat) (of : Int) : insF f (n + 1) node of = (decide (p.2.1 = of) || insF f n p.2.1 of) := by
  simp [insF, h]
theorem insF_succ (f : Sta) : ∀ (n : Nat) (node of : Int), insF f n node of = true → insF f (n + 1) node of = true
  | 0, _, _, h => by simp [insF] at h
  | n + 1, node, of, h => by
    cases hf : f node with
    | none => rw [insF_none hf] at h; cases h
    | some p =>
      rw [insF_some hf] at h ⊢
      rw [Bool.or_eq_true] at h ⊢
      exact h.imp id (insF_succ f n _ _)
theorem ins_none {f : Sta} {node of : Int} (h : f node = none) : ¬ Ins f node of := by
  rintro ⟨n, hn⟩
  rw [insF_none h] at hn
  cases hn
theorem ins_some {f : Sta} {node of : Int} {p : Plc} (h : f node = some p) : Ins f node of ↔ p.2.1 = of ∨ Ins f p.2.1 of := by
  constructor
  · rintro ⟨n, hn⟩
    cases n with
    | zero => simp [insF] at hn
    | succ n =>
      rw [insF_some h, Bool.or_eq_true] at hn
      exact hn.imp (by simp) (fun e => ⟨n, e⟩)
  · rintro (e | ⟨n, hn⟩)
    · exact ⟨1, by rw [insF_some h]; simp [e]⟩
    · exact ⟨n + 1, by rw [insF_some h, hn]; simp⟩
theorem ins_iff {f : Sta} {node of : Int} : Ins f node of ↔ ∃ p, f node = some p ∧ (p.2.1 = of ∨ Ins f p.2.1 of) := by
  cases h : f node with
  | none => exact ⟨fun hi => absurd hi (ins_none h), by rintro ⟨p, e, _⟩; cases e⟩
  | some p => rw [ins_some h]; exact ⟨fun e => ⟨p, rfl, e⟩, by rintro ⟨p', e, hh⟩; cases e; exact hh⟩

/-- It grows: what lies in something lies deeper. -/
def Ranked (f : Sta) (d : Int → Nat) : Prop := ∀ k p, f k = some p → d p.2.1 < d k
theorem ranked_ins {f : Sta} {d : Int → Nat} (h : Ranked f d) : ∀ (n : Nat) (x y : Int), insF f n x y = true → d y < d x
  | 0, _, _, e => by simp [insF] at e
  | n + 1, x, y, e => by
    cases hf : f x with
    | none => rw [insF_none hf] at e; cases e
    | some p =>
      rw [insF_some hf, Bool.or_eq_true] at e
      have h1 := h x p hf
      rcases e with e | e
      · have e : p.2.1 = y := by simpa using e
        rw [← e]; exact h1
      · have := ranked_ins h n _ _ e
        omega
theorem ranked_ne {f : Sta} {d : Int → Nat} (h : Ranked f d) (x : Int) : ¬ Ins f x x := by
  rintro ⟨n, hn⟩
  have := ranked_ins h n x x hn
  omega
theorem ins_up {f : Sta} {x y : Int} {p : Plc} (h : f x = some p) (hy : p.2.1 = y ∨ Ins f p.2.1 y) : Ins f x y := (ins_some h).2 hy

def upd (f : Sta) (k : Int) (v : Option Plc) : Sta := fun x => if x = k then v else f x
theorem upd_same (f : Sta) (k : Int) (v : Option Plc) : upd f k v k = v := by simp [upd]
theorem upd_other {f : Sta} {k x : Int} {v : Option Plc} (h : x ≠ k) : upd f k v x = f x := by simp [upd, h]

/-- A place that a move may name. -/
structure FineP (p : Plc) : Prop where
  ne : p.1 ≠ 0
  lo : 0 ≤ p.1
  hi : p.1 < 2 ^ 62
  lo' : 0 ≤ p.2.1
  hi' : p.2.1 < 2 ^ 62
  sz : p.2.2.size ≤ 60
theorem FineP.ne_zero {p : Plc} (h : FineP p) : p ≠ zeroP := fun e => h.ne (by rw [e]; rfl)

structure Good (f : Sta) : Prop where
  rank : ∃ d, Ranked f d
  key : ∀ k p, f k = some p → p.1 = k
  fine : ∀ k p, f k = some p → FineP p

theorem good_no : Good noSta := ⟨⟨fun _ => 0, fun k p h => by simp [noSta] at h⟩, fun k p h => by simp [noSta] at h, fun k p h => by simp [noSta] at h⟩

/-- Does a move do nothing? -/
def Idle (f : Sta) (p : Plc) : Prop := p.1 = p.2.1 ∨ Ins f p.2.1 p.1
def step [∀ (f : Sta) (p : Plc), Decidable (Idle f p)] (f : Sta) (m : Mov) : Sta := if Idle f m.2 then f else upd f m.2.1 (some m.2)
open scoped Classical
theorem step_idle {f : Sta} {m : Mov} (h : Idle f m.2) : step f m = f := by unfold step; rw [if_pos h]
theorem step_goes {f : Sta} {m : Mov} (h : ¬ Idle f m.2) : step f m = upd f m.2.1 (some m.2) := by unfold step; rw [if_neg h]
theorem step_other {f : Sta} {m : Mov} {x : Int} (h : x ≠ m.2.1) : step f m x = f x := by
  by_cases hi : Idle f m.2
  · rw [step_idle hi]
  · rw [step_goes hi, upd_other h]

theorem good_step {f : Sta} {m : Mov} (G : Good f) (hm : FineP m.2) : Good (step f m) := by
  by_cases hi : Idle f m.2
  · rw [step_idle hi]; exact G
  · rw [step_goes hi]
    obtain ⟨s, c, q, nm⟩ := m
    dsimp only at hi hm ⊢
    have hcq : c ≠ q := fun e => hi (.inl e)
    have hqc : ¬ Ins f q c := fun e => hi (.inr e)
    refine ⟨?_, fun k p h => ?_, fun k p h => ?_⟩
    · obtain ⟨d, hd⟩ := G.rank
      classical
      refine ⟨fun x => if x = c ∨ Ins f x c then d x + d q + 1 else d x, fun k p h => ?_⟩
      by_cases hk : k = c
      · subst hk
        rw [upd_same] at h
        cases h
        dsimp only
        rw [if_neg (fun e => e.elim (fun e => hcq e.symm) hqc), if_pos (.inl rfl)]
        omega
      · rw [upd_other hk] at h
        have h1 := hd k p h
        dsimp only
        by_cases hp : p.2.1 = c ∨ Ins f p.2.1 c
        · rw [if_pos hp, if_pos (.inr (ins_up h hp))]
          omega
        · rw [if_neg hp]
          split <;> omega
    · by_cases hk : k = c
      · subst hk; rw [upd_same] at h; cases h; rfl
      · rw [upd_other hk] at h; exact G.key k p h
    · by_cases hk : k = c
      · subst hk; rw [upd_same] at h; cases h; exact hm
      · rw [upd_other hk] at h; exact G.fine k p h

/-- A move is undone. -/
def undo (f : Sta) (node : Int) (fr : Plc) : Sta := upd f node (if fr = zeroP then none else some fr)
theorem undo_step {f : Sta} {m : Mov} (G : Good f) : undo (step f m) m.2.1 ((f m.2.1).getD zeroP) = f := by
  funext x
  unfold undo
  by_cases hx : x = m.2.1
  · subst hx
    rw [upd_same]
    cases h : f m.2.1 with
    | none => simp
    | some p =>
      rw [Option.getD_some, if_neg (G.fine _ p h).ne_zero]
  · rw [upd_other hx, step_other hx]

def foldS [∀ (f : Sta) (p : Plc), Decidable (Idle f p)] (f : Sta) (ms : List Mov) : Sta := ms.foldl step f
theorem foldS_snoc (f : Sta) (ms : List Mov) (m : Mov) : foldS f (ms ++ [m]) = step (foldS f ms) m := by simp [foldS]
theorem good_fold : ∀ (ms : List Mov) (f : Sta), Good f → (∀ m ∈ ms, FineP m.2) → Good (foldS f ms)
  | [], _, G, _ => G
  | m :: r, f, G, h => good_fold r (step f m) (good_step G (h m (by simp))) (fun x hx => h x (by simp [hx]))

/-- What the moves make, out of nothing. -/
def madeBy [∀ (f : Sta) (p : Plc), Decidable (Idle f p)] (ms : List Mov) : Sta := foldS noSta ms
theorem good_made {ms : List Mov} (h : ∀ m ∈ ms, FineP m.2) : Good (madeBy ms) := good_fold ms _ good_no h
theorem made_snoc (ms : List Mov) (m : Mov) : madeBy (ms ++ [m]) = step (madeBy ms) m := foldS_snoc _ _ _
theorem made_take {ms : List Mov} {i : Nat} {m : Mov} (h : ms[i]? = some m) : madeBy (ms.take (i + 1)) = step (madeBy (ms.take i)) m := by
  rw [List.take_add_one, h]
  exact made_snoc _ _

/-- Where a move's node lay ahead of it. -/
def fromAt [∀ (f : Sta) (p : Plc), Decidable (Idle f p)] (ms : List Mov) (i : Nat) : Plc := match ms[i]? with
  | none => zeroP
  | some m => (madeBy (ms.take i) m.2.1).getD zeroP

/-- Stamps in their order. -/
def SLt (a b : Int × Int) : Prop := a.1 < b.1 ∨ (a.1 = b.1 ∧ a.2 < b.2)
theorem slt_irrefl {a : Int × Int} : ¬ SLt a a := by unfold SLt; omega
theorem slt_trans {a b c : Int × Int} (h : SLt a b) (k : SLt b c) : SLt a c := by unfold SLt at *; omega
theorem slt_ne {a b : Int × Int} (h : SLt a b) : a ≠ b := fun e => slt_irrefl (e ▸ h)
theorem slt_total {a b : Int × Int} (h : a ≠ b) (k : ¬ SLt a b) : SLt b a := by
  obtain ⟨a1, a2⟩ := a
  obtain ⟨b1, b2⟩ := b
  have : ¬ (a1 = b1 ∧ a2 = b2) := fun e => h (by rw [e.1, e.2])
  unfold SLt at *
  dsimp only at *
  omega

def ByStamp (ms : List Mov) : Prop := ms.Pairwise (fun a b => SLt a.1 b.1)
def insAt (ms : List Mov) (i : Nat) (m : Mov) : List Mov := ms.take i ++ m :: ms.drop i
theorem insAt_perm (ms : List Mov) (i : Nat) (m : Mov) : (insAt ms i m).Perm (m :: ms) := by
  unfold insAt
  have h1 : (ms.take i ++ m :: ms.drop i).Perm (m :: (ms.take i ++ ms.drop i)) := List.perm_middle
  rwa [List.take_append_drop] at h1
theorem insAt_length (ms : List Mov) (i : Nat) (m : Mov) : (insAt ms i m).length = ms.length + 1 := by
  rw [(insAt_perm ms i m).length_eq]; rfl
theorem insAt_by {ms : List Mov} {i : Nat} {m : Mov} (h : ByStamp ms) (h1 : ∀ x ∈ ms.take i, SLt x.1 m.1) (h2 : ∀ x ∈ ms.drop i, SLt m.1 x.1) : ByStamp (insAt ms i m) := by
  unfold ByStamp insAt
  rw [List.pairwise_append]
  refine ⟨h.sublist (List.take_sublist _ _), List.pairwise_cons.2 ⟨h2, h.sublist (List.drop_sublist _ _)⟩, fun a ha b hb => ?_⟩
  rcases List.mem_cons.1 hb with rfl | hb
  · exact h1 a ha
  · exact slt_trans (h1 a ha) (h2 b hb)
theorem insAt_take {ms : List Mov} {i : Nat} {m : Mov} (hi : i ≤ ms.length) : (insAt ms i m).take i = ms.take i := by
  unfold insAt
  rw [List.take_append_of_le_length (by simp; omega), List.take_take, Nat.min_self]

theorem byStamp_unique : ∀ {l l' : List Mov}, l.Perm l' → ByStamp l → ByStamp l' → l = l'
  | [], l', hp, _, _ => by have := hp.length_eq; cases l' with | nil => rfl | cons _ _ => simp at this
  | a :: r, [], hp, _, _ => by have := hp.length_eq; simp at this
  | a :: r, b :: r', hp, h, h' => by
    obtain ⟨h1, h2⟩ := List.pairwise_cons.1 h
    obtain ⟨h1', h2'⟩ := List.pairwise_cons.1 h'
    have e : a = b := by
      rcases List.mem_cons.1 (hp.mem_iff.1 (List.mem_cons_self (a := a) (l := r))) with e | ha
      · exact e
      · rcases List.mem_cons.1 (hp.mem_iff.2 (List.mem_cons_self (a := b) (l := r'))) with e | hb
        · exact e.symm
        · exact absurd (slt_trans (h1 b hb) (h1' a ha)) slt_irrefl
    subst e
    rw [byStamp_unique (List.perm_cons a |>.1 hp) h2 h2']

/-- The list of all that lie in something, by their nodes. -/
structure IsPlaces (f : Sta) (L : List Plc) : Prop where
  rise : L.Pairwise (fun a b => a.1 < b.1)
  mem : ∀ p, p ∈ L ↔ f p.1 = some p
theorem places_unique : ∀ {L L' : List Plc}, L.Pairwise (fun a b => a.1 < b.1) → L'.Pairwise (fun a b => a.1 < b.1) → (∀ p, p ∈ L ↔ p ∈ L') → L = L'
  | [], [], _, _, _ => rfl
  | [], b :: r', _, _, h => by have := (h b).2 (by simp); simp at this
  | a :: r, [], _, _, h => by have := (h a).1 (by simp); simp at this
  | a :: r, b :: r', hl, hl', h => by
    obtain ⟨h1, h2⟩ := List.pairwise_cons.1 hl
    obtain ⟨h1', h2'⟩ := List.pairwise_cons.1 hl'
    have e : a = b := by
      rcases List.mem_cons.1 ((h a).1 (by simp)) with e | ha
      · exact e
      · rcases List.mem_cons.1 ((h b).2 (by simp)) with e | hb
        · exact e.symm
        · have x := h1 b hb; have y := h1' a ha; omega
    subst e
    rw [places_unique h2 h2' (fun p => ?_)]
    constructor
    · intro hp
      rcases List.mem_cons.1 ((h p).1 (by simp [hp])) with e | hp'
      · subst e; have := h1 p hp; omega
      · exact hp'
    · intro hp
      rcases List.mem_cons.1 ((h p).2 (by simp [hp])) with e | hp'
      · subst e; have := h1' p hp; omega
      · exact hp'
theorem IsPlaces.unique {f : Sta} {L L' : List Plc} (h : IsPlaces f L) (h' : IsPlaces f L') : L = L' :=
  places_unique h.rise h'.rise (fun p => (h.mem p).trans (h'.mem p).symm)
end Go.Proofs.YtnfhbmgkiknaaaaDoor
