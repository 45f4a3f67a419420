import Derived.Test.YtcggmagdndhkbaaGreatDoorWt02
import Derived.Sort.LotA
section
namespace Go.Proofs.YtcggmagdndhkbaaGreatDoor
def skipN (x : Int) : List Ltr → Nat
  | [] => 0
  | h :: t => if x < h.1 then skipN x t + 1 else 0
def findL (b : Int) : List Ltr → Option Nat
  | [] => none
  | h :: t => if h.1 = b then some 0 else (findL b t).map (· + 1)
theorem skipN_le (x : Int) : ∀ L, skipN x L ≤ L.length
  | [] => Nat.le_refl _
  | h :: t => by
    unfold skipN
    split
    · have := skipN_le x t; simp; omega
    · omega
theorem skipN_is {x : Int} : ∀ {L : List Ltr} {n : Nat}, n ≤ L.length → (∀ i l, i < n → L[i]? = some l → x < l.1) → (∀ l, L[n]? = some l → ¬ x < l.1) → skipN x L = n
  | [], n, hn, _, _ => by simp at hn; simp [skipN, hn]
  | g :: t, 0, _, _, h2 => by
    unfold skipN
    rw [if_neg (h2 g rfl)]
  | g :: t, n + 1, hn, h1, h2 => by
    unfold skipN
    rw [if_pos (h1 0 g (by omega) rfl), skipN_is (n := n) (by simpa using hn) (fun i l hi e => h1 (i + 1) l (by omega) (by simpa using e)) (fun l e => h2 l (by simpa using e))]
theorem laid_at (x : Ltr) : ∀ L, laid x L = L.take (skipN x.1 L) ++ x :: L.drop (skipN x.1 L)
  | [] => rfl
  | h :: t => by
    unfold skipN
    by_cases k : x.1 < h.1
    · rw [laid_yes k, if_pos k, laid_at x t]; rfl
    · rw [laid_no k, if_neg k]; rfl
theorem findL_some {b : Int} : ∀ {L : List Ltr} {i : Nat}, findL b L = some i → ∃ l, L[i]? = some l ∧ l.1 = b
  | [], i, h => by simp [findL] at h
  | g :: t, i, h => by
    unfold findL at h
    split at h
    · cases h; exact ⟨g, rfl, by assumption⟩
    · cases hf : findL b t with
      | none => rw [hf] at h; cases h
      | some j =>
        rw [hf] at h
        cases h
        obtain ⟨l, h1, h2⟩ := findL_some hf
        exact ⟨l, by simpa using h1, h2⟩
theorem findL_none {b : Int} : ∀ {L : List Ltr}, findL b L = none → ∀ l ∈ L, l.1 ≠ b
  | [], _, l, hl => by simp at hl
  | g :: t, h, l, hl => by
    unfold findL at h
    split at h
    · cases h
    · have hf : findL b t = none := by simpa using h
      rcases List.mem_cons.1 hl with rfl | hl
      · assumption
      · exact findL_none hf l hl
theorem findL_isSome {b : Int} {L : List Ltr} (h : b ∈ L.map (·.1)) : ∃ i, findL b L = some i := by
  cases hf : findL b L with
  | some i => exact ⟨i, rfl⟩
  | none =>
    obtain ⟨l, hl, e⟩ := List.mem_map.1 h
    exact absurd e (findL_none hf l hl)
theorem findL_is {b : Int} : ∀ {L : List Ltr} {i : Nat} {l : Ltr}, L[i]? = some l → l.1 = b → (∀ j g, j < i → L[j]? = some g → g.1 ≠ b) → findL b L = some i
  | [], i, l, e, _, _ => by simp at e
  | g :: t, 0, l, e, h, _ => by
    cases e
    unfold findL
    rw [if_pos h]
  | g :: t, i + 1, l, e, h, hn => by
    unfold findL
    rw [if_neg (hn 0 g (by omega) rfl), findL_is (L := t) (i := i) (by simpa using e) h (fun j g' hj e' => hn (j + 1) g' (by omega) (by simpa using e'))]
    rfl
theorem putB_at (b : Int) (x : Ltr) : ∀ (L : List Ltr) (i : Nat), findL b L = some i → putB b x L = L.take (i + 1 + skipN x.1 (L.drop (i + 1))) ++ x :: L.drop (i + 1 + skipN x.1 (L.drop (i + 1)))
  | [], i, h => by simp [findL] at h
  | g :: t, i, h => by
    unfold findL at h
    by_cases k : g.1 = b
    · rw [if_pos k] at h
      cases h
      have e : 0 + 1 + skipN x.1 ((g :: t).drop (0 + 1)) = skipN x.1 t + 1 := by show 0 + 1 + skipN x.1 t = _; omega
      rw [putB_yes k, laid_at x t, e]
      rfl
    · rw [if_neg k] at h
      cases hf : findL b t with
      | none => rw [hf] at h; cases h
      | some j =>
        rw [hf] at h
        cases h
        have e : j + 1 + 1 + skipN x.1 ((g :: t).drop (j + 1 + 1)) = j + 1 + skipN x.1 (t.drop (j + 1)) + 1 := by show j + 1 + 1 + skipN x.1 (t.drop (j + 1)) = _; omega
        rw [putB_no k, putB_at b x t j hf, e]
        rfl
def placeL (b id : Int) (L : List Ltr) : Nat := if b = 0 then skipN id L else match findL b L with
  | none => 0
  | some i => i + 1 + skipN id (L.drop (i + 1))
theorem put_at {b : Int} {x : Ltr} {L : List Ltr} (h : b = 0 ∨ b ∈ L.map (·.1)) : placeL b x.1 L ≤ L.length ∧ put b x L = L.take (placeL b x.1 L) ++ x :: L.drop (placeL b x.1 L) := by
  unfold put placeL
  by_cases h0 : b = 0
  · rw [if_pos h0, if_pos h0]
    exact ⟨skipN_le _ _, laid_at x L⟩
  · rw [if_neg h0, if_neg h0]
    obtain ⟨i, hi⟩ := findL_isSome (h.resolve_left h0)
    rw [hi]
    obtain ⟨l, hl, _⟩ := findL_some hi
    have h1 := (List.getElem?_eq_some_iff.1 hl).1
    have h2 := skipN_le x.1 (L.drop (i + 1))
    rw [List.length_drop] at h2
    exact ⟨by dsimp only; omega, putB_at b x L i hi⟩
theorem put_perm {b : Int} {x : Ltr} {L : List Ltr} (h : b = 0 ∨ b ∈ L.map (·.1)) : (put b x L).Perm (x :: L) := by
  rw [(put_at h).2]
  refine List.perm_middle.trans ?_
  rw [List.take_append_drop]
theorem put_len {b : Int} {x : Ltr} {L : List Ltr} (h : b = 0 ∨ b ∈ L.map (·.1)) : (put b x L).length = L.length + 1 := by rw [(put_perm h).length_eq]; rfl
theorem put_ids {b : Int} {x : Ltr} {L : List Ltr} (h : b = 0 ∨ b ∈ L.map (·.1)) : ((put b x L).map (·.1)).Perm (x.1 :: L.map (·.1)) := (put_perm h).map _
def gone (id : Int) (L : List Ltr) : List Ltr := L.map fun l => if l.1 = id then (l.1, l.2.1, true) else l
def seenOf (L : List Ltr) : List Ltr := L.filter fun l => !l.2.2
end Go.Proofs.YtcggmagdndhkbaaGreatDoor
end
section
namespace Go.Proofs.YtcggmagdndhkbaaGreatDoor
def IdxIs (p : Ltr → Bool) (zs : List Ltr) (r : Int) : Prop :=
  (r = -1 ∧ ∀ l ∈ zs, p l = false) ∨ ∃ (i : Nat) (l : Ltr), r = (i : Int) ∧ zs[i]? = some l ∧ p l = true ∧ ∀ j g, j < i → zs[j]? = some g → p g = false
def findI (b : Int) (L : List Ltr) : Int := match findL b L with
  | none => -1
  | some i => (i : Int)
theorem findI_is {b r : Int} {L : List Ltr} (h : IdxIs (fun l => decide (l.1 = b)) L r) : r = findI b L := by
  unfold findI
  rcases h with ⟨rfl, h⟩ | ⟨i, l, rfl, hl, hp, hn⟩
  · cases hf : findL b L with
    | none => rfl
    | some i =>
      obtain ⟨l, h1, h2⟩ := findL_some hf
      have := h l (List.mem_of_getElem? h1)
      simp [h2] at this
  · rw [findL_is hl (by simpa using hp) (fun j g hj hg => by simpa using hn j g hj hg)]
theorem findI_neg {b : Int} {L : List Ltr} (h : b ∉ L.map (·.1)) : findI b L = -1 := by
  unfold findI
  cases hf : findL b L with
  | none => rfl
  | some i =>
    obtain ⟨l, h1, h2⟩ := findL_some hf
    exact absurd (List.mem_map.2 ⟨l, List.mem_of_getElem? h1, h2⟩) h
theorem findI_pos {b : Int} {L : List Ltr} (h : b ∈ L.map (·.1)) : ∃ i : Nat, findI b L = (i : Int) ∧ findL b L = some i ∧ i < L.length := by
  obtain ⟨i, hi⟩ := findL_isSome h
  obtain ⟨l, h1, _⟩ := findL_some hi
  exact ⟨i, by unfold findI; rw [hi], hi, (List.getElem?_eq_some_iff.1 h1).1⟩
theorem skip_is {id r : Int} {L : List Ltr} (hn : id ∉ L.map (·.1)) (h : IdxIs (fun l => decide (l.1 < id)) L r) : (r = -1 ∧ skipN id L = L.length) ∨ r = (skipN id L : Int) := by
  have hne : ∀ l ∈ L, l.1 ≠ id := fun l hl e => hn (List.mem_map.2 ⟨l, hl, e⟩)
  rcases h with ⟨rfl, h⟩ | ⟨i, l, rfl, hl, hp, hq⟩
  · refine .inl ⟨rfl, skipN_is (Nat.le_refl _) (fun i l _ e => ?_) (fun l e => by simp at e)⟩
    have h1 := h l (List.mem_of_getElem? e)
    have h2 := hne l (List.mem_of_getElem? e)
    simp at h1
    omega
  · right
    rw [skipN_is (n := i) (Nat.le_of_lt (List.getElem?_eq_some_iff.1 hl).1) (fun j g hj e => ?_) (fun g e => ?_)]
    · have h1 := hq j g hj e
      have h2 := hne g (List.mem_of_getElem? e)
      simp at h1
      omega
    · rw [hl] at e
      cases e
      simp at hp
      omega
theorem set_ids {L : List Ltr} {i : Nat} {l : Ltr} (h : L[i]? = some l) (c : Nat) (g : Bool) : (L.set i (l.1, c, g)).map (·.1) = L.map (·.1) := by
  rw [List.map_set]
  apply List.ext_getElem?
  intro j
  by_cases e : j = i
  · subst e
    have hl := (List.getElem?_eq_some_iff.1 h).1
    rw [List.getElem?_set_self (by simpa using hl)]
    simp [h]
  · rw [List.getElem?_set_ne (by omega)]
theorem put_nodup {b : Int} {x : Ltr} {L : List Ltr} (h : b = 0 ∨ b ∈ L.map (·.1)) (hn : (L.map (·.1)).Nodup) (hx : x.1 ∉ L.map (·.1)) : ((put b x L).map (·.1)).Nodup := by
  rw [(put_ids h).nodup_iff]
  exact List.nodup_cons.2 ⟨hx, hn⟩
end Go.Proofs.YtcggmagdndhkbaaGreatDoor
end
section
namespace Go.Proofs.YtcggmagdndhkbaaGreatDoor
abbrev Plc := Int × Int × ByteArray
abbrev Sta := Int → Option Plc
abbrev Mov := (Int × Int) × Plc
def zeroP : Plc := (0, 0, ⟨#[]⟩)
def noSta : Sta := fun _ => none
def insF (f : Sta) : Nat → Int → Int → Bool
  | 0, _, _ => false
  | n + 1, node, of => match f node with
    | none => false
    | some p => decide (p.2.1 = of) || insF f n p.2.1 of
def Ins (f : Sta) (node of : Int) : Prop := ∃ n, insF f n node of = true
theorem insF_none {f : Sta} {node : Int} (h : f node = none) (n : Nat) (of : Int) : insF f n node of = false := by
  cases n <;> simp [insF, h]
theorem insF_some {f : Sta} {node : Int} {p : Plc} (h : f node = some p) (n : Nat) (of : Int) : insF f (n + 1) node of = (decide (p.2.1 = of) || insF f n p.2.1 of) := by
  simp [insF, h]
theorem ins_none {f : Sta} {node of : Int} (h : f node = none) : ¬ Ins f node of := by
  rintro ⟨n, hn⟩
  rw [insF_none h] at hn
  cases hn
theorem ins_some {f : Sta} {node of : Int} {p : Plc} (h : f node = some p) : Ins f node of ↔ p.2.1 = of ∨ Ins f p.2.1 of := by
  constructor
  · rintro ⟨n, hn⟩
    cases n with
    | zero => simp [insF] at hn
    | succ n =>
      rw [insF_some h, Bool.or_eq_true] at hn
      exact hn.imp (by simp) (fun e => ⟨n, e⟩)
  · rintro (e | ⟨n, hn⟩)
    · exact ⟨1, by rw [insF_some h]; simp [e]⟩
    · exact ⟨n + 1, by rw [insF_some h, hn]; simp⟩
def Ranked (f : Sta) (d : Int → Nat) : Prop := ∀ k p, f k = some p → d p.2.1 < d k
theorem ins_up {f : Sta} {x y : Int} {p : Plc} (h : f x = some p) (hy : p.2.1 = y ∨ Ins f p.2.1 y) : Ins f x y := (ins_some h).2 hy
def upd (f : Sta) (k : Int) (v : Option Plc) : Sta := fun x => if x = k then v else f x
theorem upd_same (f : Sta) (k : Int) (v : Option Plc) : upd f k v k = v := by simp [upd]
theorem upd_other {f : Sta} {k x : Int} {v : Option Plc} (h : x ≠ k) : upd f k v x = f x := by simp [upd, h]
structure FineP (p : Plc) : Prop where
  ne : p.1 ≠ 0
  lo : 0 ≤ p.1
  hi : p.1 < 2 ^ 62
  lo' : 0 ≤ p.2.1
  hi' : p.2.1 < 2 ^ 62
  sz : p.2.2.size ≤ 60
theorem FineP.ne_zero {p : Plc} (h : FineP p) : p ≠ zeroP := fun e => h.ne (by rw [e]; rfl)
structure Good (f : Sta) : Prop where
  rank : ∃ d, Ranked f d
  key : ∀ k p, f k = some p → p.1 = k
  fine : ∀ k p, f k = some p → FineP p
theorem good_no : Good noSta := ⟨⟨fun _ => 0, fun k p h => by simp [noSta] at h⟩, fun k p h => by simp [noSta] at h, fun k p h => by simp [noSta] at h⟩
def Idle (f : Sta) (p : Plc) : Prop := p.1 = p.2.1 ∨ Ins f p.2.1 p.1
def step [∀ (f : Sta) (p : Plc), Decidable (Idle f p)] (f : Sta) (m : Mov) : Sta := if Idle f m.2 then f else upd f m.2.1 (some m.2)
open scoped Classical
theorem step_idle {f : Sta} {m : Mov} (h : Idle f m.2) : step f m = f := by unfold step; rw [if_pos h]
theorem step_goes {f : Sta} {m : Mov} (h : ¬ Idle f m.2) : step f m = upd f m.2.1 (some m.2) := by unfold step; rw [if_neg h]
theorem step_other {f : Sta} {m : Mov} {x : Int} (h : x ≠ m.2.1) : step f m x = f x := by
  by_cases hi : Idle f m.2
  · rw [step_idle hi]
  · rw [step_goes hi, upd_other h]
theorem good_step {f : Sta} {m : Mov} (G : Good f) (hm : FineP m.2) : Good (step f m) := by
  by_cases hi : Idle f m.2
  · rw [step_idle hi]; exact G
  · rw [step_goes hi]
    obtain ⟨s, c, q, nm⟩ := m
    dsimp only at hi hm ⊢
    have hcq : c ≠ q := fun e => hi (.inl e)
    have hqc : ¬ Ins f q c := fun e => hi (.inr e)
    refine ⟨?_, fun k p h => ?_, fun k p h => ?_⟩
    · obtain ⟨d, hd⟩ := G.rank
      classical
      refine ⟨fun x => if x = c ∨ Ins f x c then d x + d q + 1 else d x, fun k p h => ?_⟩
      by_cases hk : k = c
      · subst hk
        rw [upd_same] at h
        cases h
        dsimp only
        rw [if_neg (fun e => e.elim (fun e => hcq e.symm) hqc), if_pos (.inl rfl)]
        omega
      · rw [upd_other hk] at h
        have h1 := hd k p h
        dsimp only
        by_cases hp : p.2.1 = c ∨ Ins f p.2.1 c
        · rw [if_pos hp, if_pos (.inr (ins_up h hp))]
          omega
        · rw [if_neg hp]
          split <;> omega
    · by_cases hk : k = c
      · subst hk; rw [upd_same] at h; cases h; rfl
      · rw [upd_other hk] at h; exact G.key k p h
    · by_cases hk : k = c
      · subst hk; rw [upd_same] at h; cases h; exact hm
      · rw [upd_other hk] at h; exact G.fine k p h
def undo (f : Sta) (node : Int) (fr : Plc) : Sta := upd f node (if fr = zeroP then none else some fr)
theorem undo_step {f : Sta} {m : Mov} (G : Good f) : undo (step f m) m.2.1 ((f m.2.1).getD zeroP) = f := by
  funext x
  unfold undo
  by_cases hx : x = m.2.1
  · subst hx
    rw [upd_same]
    cases h : f m.2.1 with
    | none => simp
    | some p =>
      rw [Option.getD_some, if_neg (G.fine _ p h).ne_zero]
  · rw [upd_other hx, step_other hx]
def foldS [∀ (f : Sta) (p : Plc), Decidable (Idle f p)] (f : Sta) (ms : List Mov) : Sta := ms.foldl step f
theorem foldS_snoc (f : Sta) (ms : List Mov) (m : Mov) : foldS f (ms ++ [m]) = step (foldS f ms) m := by simp [foldS]
theorem good_fold : ∀ (ms : List Mov) (f : Sta), Good f → (∀ m ∈ ms, FineP m.2) → Good (foldS f ms)
  | [], _, G, _ => G
  | m :: r, f, G, h => good_fold r (step f m) (good_step G (h m (by simp))) (fun x hx => h x (by simp [hx]))
def madeBy [∀ (f : Sta) (p : Plc), Decidable (Idle f p)] (ms : List Mov) : Sta := foldS noSta ms
theorem good_made {ms : List Mov} (h : ∀ m ∈ ms, FineP m.2) : Good (madeBy ms) := good_fold ms _ good_no h
theorem made_snoc (ms : List Mov) (m : Mov) : madeBy (ms ++ [m]) = step (madeBy ms) m := foldS_snoc _ _ _
theorem made_take {ms : List Mov} {i : Nat} {m : Mov} (h : ms[i]? = some m) : madeBy (ms.take (i + 1)) = step (madeBy (ms.take i)) m := by
  rw [List.take_add_one, h]
  exact made_snoc _ _
def fromAt [∀ (f : Sta) (p : Plc), Decidable (Idle f p)] (ms : List Mov) (i : Nat) : Plc := match ms[i]? with
  | none => zeroP
  | some m => (madeBy (ms.take i) m.2.1).getD zeroP
def SLt (a b : Int × Int) : Prop := a.1 < b.1 ∨ (a.1 = b.1 ∧ a.2 < b.2)
theorem slt_irrefl {a : Int × Int} : ¬ SLt a a := by unfold SLt; omega
theorem slt_trans {a b c : Int × Int} (h : SLt a b) (k : SLt b c) : SLt a c := by unfold SLt at *; omega
theorem slt_total {a b : Int × Int} (h : a ≠ b) (k : ¬ SLt a b) : SLt b a := by
  obtain ⟨a1, a2⟩ := a
  obtain ⟨b1, b2⟩ := b
  have : ¬ (a1 = b1 ∧ a2 = b2) := fun e => h (by rw [e.1, e.2])
  unfold SLt at *
  dsimp only at *
  omega
def ByStamp (ms : List Mov) : Prop := ms.Pairwise (fun a b => SLt a.1 b.1)
def insAt (ms : List Mov) (i : Nat) (m : Mov) : List Mov := ms.take i ++ m :: ms.drop i
theorem insAt_perm (ms : List Mov) (i : Nat) (m : Mov) : (insAt ms i m).Perm (m :: ms) := by
  unfold insAt
  have h1 : (ms.take i ++ m :: ms.drop i).Perm (m :: (ms.take i ++ ms.drop i)) := List.perm_middle
  rwa [List.take_append_drop] at h1
theorem insAt_length (ms : List Mov) (i : Nat) (m : Mov) : (insAt ms i m).length = ms.length + 1 := by
  rw [(insAt_perm ms i m).length_eq]; rfl
theorem insAt_by {ms : List Mov} {i : Nat} {m : Mov} (h : ByStamp ms) (h1 : ∀ x ∈ ms.take i, SLt x.1 m.1) (h2 : ∀ x ∈ ms.drop i, SLt m.1 x.1) : ByStamp (insAt ms i m) := by
  unfold ByStamp insAt
  rw [List.pairwise_append]
  refine ⟨h.sublist (List.take_sublist _ _), List.pairwise_cons.2 ⟨h2, h.sublist (List.drop_sublist _ _)⟩, fun a ha b hb => ?_⟩
  rcases List.mem_cons.1 hb with rfl | hb
  · exact h1 a ha
  · exact slt_trans (h1 a ha) (h2 b hb)
theorem insAt_take {ms : List Mov} {i : Nat} {m : Mov} (hi : i ≤ ms.length) : (insAt ms i m).take i = ms.take i := by
  unfold insAt
  rw [List.take_append_of_le_length (by simp; omega), List.take_take, Nat.min_self]
theorem byStamp_unique : ∀ {l l' : List Mov}, l.Perm l' → ByStamp l → ByStamp l' → l = l'
  | [], l', hp, _, _ => by have := hp.length_eq; cases l' with | nil => rfl | cons _ _ => simp at this
  | a :: r, [], hp, _, _ => by have := hp.length_eq; simp at this
  | a :: r, b :: r', hp, h, h' => by
    obtain ⟨h1, h2⟩ := List.pairwise_cons.1 h
    obtain ⟨h1', h2'⟩ := List.pairwise_cons.1 h'
    have e : a = b := by
      rcases List.mem_cons.1 (hp.mem_iff.1 (List.mem_cons_self (a := a) (l := r))) with e | ha
      · exact e
      · rcases List.mem_cons.1 (hp.mem_iff.2 (List.mem_cons_self (a := b) (l := r'))) with e | hb
        · exact e.symm
        · exact absurd (slt_trans (h1 b hb) (h1' a ha)) slt_irrefl
    subst e
    rw [byStamp_unique (List.perm_cons a |>.1 hp) h2 h2']
structure IsPlaces (f : Sta) (L : List Plc) : Prop where
  rise : L.Pairwise (fun a b => a.1 < b.1)
  mem : ∀ p, p ∈ L ↔ f p.1 = some p
theorem places_unique : ∀ {L L' : List Plc}, L.Pairwise (fun a b => a.1 < b.1) → L'.Pairwise (fun a b => a.1 < b.1) → (∀ p, p ∈ L ↔ p ∈ L') → L = L'
  | [], [], _, _, _ => rfl
  | [], b :: r', _, _, h => by have := (h b).2 (by simp); simp at this
  | a :: r, [], _, _, h => by have := (h a).1 (by simp); simp at this
  | a :: r, b :: r', hl, hl', h => by
    obtain ⟨h1, h2⟩ := List.pairwise_cons.1 hl
    obtain ⟨h1', h2'⟩ := List.pairwise_cons.1 hl'
    have e : a = b := by
      rcases List.mem_cons.1 ((h a).1 (by simp)) with e | ha
      · exact e
      · rcases List.mem_cons.1 ((h b).2 (by simp)) with e | hb
        · exact e.symm
        · have x := h1 b hb; have y := h1' a ha; omega
    subst e
    rw [places_unique h2 h2' (fun p => ?_)]
    constructor
    · intro hp
      rcases List.mem_cons.1 ((h p).1 (by simp [hp])) with e | hp'
      · subst e; have := h1 p hp; omega
      · exact hp'
    · intro hp
      rcases List.mem_cons.1 ((h p).2 (by simp [hp])) with e | hp'
      · subst e; have := h1' p hp; omega
      · exact hp'
theorem IsPlaces.unique {f : Sta} {L L' : List Plc} (h : IsPlaces f L) (h' : IsPlaces f L') : L = L' :=
  places_unique h.rise h'.rise (fun p => (h.mem p).trans (h'.mem p).symm)
end Go.Proofs.YtcggmagdndhkbaaGreatDoor
end
section
namespace Go.Proofs.YtcggmagdndhkbaaGreatDoor
def letO (x : OpX) : Nat := (x.2.2.2.2.2.2.2.data.toList.headD 0).toNat
def insO (nd : Int) (x : OpX) : Option (Int × Ltr) := if kdO x = 105 ∧ nodeO x = nd then some (otherO x, (idO x, letO x, false)) else none
def GoneIn (A : List OpX) (nd id : Int) : Prop := ∃ x ∈ A, kdO x = 100 ∧ nodeO x = nd ∧ otherO x = id
theorem goneAny (A : List OpX) (nd id : Int) : (A.any fun x => decide (kdO x = 100 ∧ nodeO x = nd ∧ otherO x = id)) = true ↔ GoneIn A nd id := by simp [GoneIn]
def decGone (A : List OpX) (nd id : Int) : Decidable (GoneIn A nd id) := decidable_of_iff _ (goneAny A nd id)
def hideL (A : List OpX) (nd : Int) (l : Ltr) : Ltr := @ite _ (GoneIn A nd l.1) (decGone A nd l.1) (l.1, 0, true) l
theorem hideL_id (A : List OpX) (nd : Int) (l : Ltr) : (hideL A nd l).1 = l.1 := by unfold hideL; split <;> rfl
theorem hide_ids (A : List OpX) (nd : Int) (L : List Ltr) : (L.map (hideL A nd)).map (·.1) = L.map (·.1) := by rw [List.map_map]; exact List.map_congr_left fun l _ => hideL_id A nd l
def LineIs (A : List OpX) (nd : Int) (L : List Ltr) : Prop := ∃ s, s.Perm (A.filterMap (insO nd)) ∧ First s ∧ L = (putAll s []).map (hideL A nd)
theorem laid_map {f : Ltr → Ltr} (hf : ∀ l, (f l).1 = l.1) {x : Ltr} (hx : f x = x) : ∀ L, laid x (L.map f) = (laid x L).map f
  | [] => by simp [laid, hx]
  | h :: t => by
    by_cases k : x.1 < h.1
    · rw [List.map_cons, laid_yes (by rw [hf]; exact k), laid_yes k, List.map_cons, laid_map hf hx t]
    · rw [List.map_cons, laid_no (by rw [hf]; exact k), laid_no k, List.map_cons, List.map_cons, hx]
theorem putB_map {f : Ltr → Ltr} (hf : ∀ l, (f l).1 = l.1) {x : Ltr} (hx : f x = x) (b : Int) : ∀ L, putB b x (L.map f) = (putB b x L).map f
  | [] => by simp [putB]
  | h :: t => by
    by_cases k : h.1 = b
    · rw [List.map_cons, putB_yes (by rw [hf]; exact k), putB_yes k, List.map_cons, laid_map hf hx t]
    · rw [List.map_cons, putB_no (by rw [hf]; exact k), putB_no k, List.map_cons, putB_map hf hx b t]
theorem put_map {f : Ltr → Ltr} (hf : ∀ l, (f l).1 = l.1) {x : Ltr} (hx : f x = x) (b : Int) (L : List Ltr) : put b x (L.map f) = (put b x L).map f := by
  unfold put
  split
  · exact laid_map hf hx L
  · exact putB_map hf hx b L
theorem putAll_ids : ∀ (n : Nat) (s : List (Int × Ltr)), s.length = n → First s → ((putAll s []).map (·.1)).Perm (s.map (·.2.1))
  | 0, s, hn, _ => by rw [List.length_eq_zero_iff.1 hn]; exact List.Perm.refl _
  | n + 1, s, hn, h => by
    rcases snoc_cases s with rfl | ⟨u, m, rfl⟩
    · simp at hn
    · have hu := first_init h
      have ih := putAll_ids n u (by simp at hn; exact hn) hu
      rw [putAll_app, putAll_one]
      have hb : m.1 = 0 ∨ m.1 ∈ (putAll u []).map (·.1) := by
        rcases h.2.2 u m [] (by simp) with q | ⟨y, hy, q⟩
        · exact .inl q
        · exact .inr (ih.mem_iff.2 (List.mem_map.2 ⟨y, hy, q⟩))
      refine (put_ids hb).trans ?_
      rw [List.map_append, List.map_cons, List.map_nil]
      exact ((ih.cons m.2.1)).trans (List.perm_append_comm (l₁ := [m.2.1]))
theorem LineIs.ids {A : List OpX} {nd : Int} {L : List Ltr} (h : LineIs A nd L) : (L.map (·.1)).Perm ((A.filterMap (insO nd)).map (·.2.1)) := by
  obtain ⟨s, h1, h2, rfl⟩ := h
  rw [hide_ids]
  exact (putAll_ids _ s rfl h2).trans (h1.map _)
theorem LineIs.mem {A : List OpX} {nd : Int} {L : List Ltr} (h : LineIs A nd L) {id : Int} : id ∈ L.map (·.1) ↔ LetterN A nd id := by
  rw [h.ids.mem_iff]
  constructor
  · intro q
    obtain ⟨m, hm, rfl⟩ := List.mem_map.1 q
    obtain ⟨x, hx, e⟩ := List.mem_filterMap.1 hm
    unfold insO at e
    split at e
    · rename_i k
      cases e
      exact ⟨x, hx, k.1, k.2, rfl⟩
    · cases e
  · rintro ⟨x, hx, k1, k2, k3⟩
    exact List.mem_map.2 ⟨_, List.mem_filterMap.2 ⟨x, hx, if_pos ⟨k1, k2⟩⟩, k3⟩
theorem LineIs.nodup {A : List OpX} {nd : Int} {L : List Ltr} (h : LineIs A nd L) : (L.map (·.1)).Nodup := by
  obtain ⟨s, h1, h2, rfl⟩ := h
  rw [hide_ids]
  exact (putAll_ids _ s rfl h2).nodup_iff.2 h2.1
theorem LineIs.len {A : List OpX} {nd : Int} {L : List Ltr} (h : LineIs A nd L) : L.length ≤ A.length := by
  have := h.ids.length_eq
  rw [List.length_map, List.length_map] at this
  rw [this]
  exact List.length_filterMap_le _ _
theorem LineIs.perm {A B : List OpX} {nd : Int} {L : List Ltr} (h : LineIs A nd L) (e : A.Perm B) : LineIs B nd L := by
  obtain ⟨s, h1, h2, rfl⟩ := h
  have hg : ∀ id, GoneIn A nd id ↔ GoneIn B nd id := fun id => ⟨fun ⟨x, hx, q⟩ => ⟨x, e.mem_iff.1 hx, q⟩, fun ⟨x, hx, q⟩ => ⟨x, e.mem_iff.2 hx, q⟩⟩
  refine ⟨s, h1.trans (e.filterMap _), h2, List.map_congr_left (fun l _ => ?_)⟩
  unfold hideL
  by_cases q : GoneIn A nd l.1
  · rw [if_pos q, if_pos ((hg _).1 q)]
  · rw [if_neg q, if_neg (fun k => q ((hg _).2 k))]
theorem LineIs.unique {A : List OpX} {nd : Int} {L M : List Ltr} (h : LineIs A nd L) (k : LineIs A nd M) : L = M := by
  obtain ⟨s, h1, h2, rfl⟩ := h
  obtain ⟨r, k1, k2, rfl⟩ := k
  rw [putAll_turned _ s r rfl (h1.trans k1.symm) h2 k2]
theorem LineIs.skip {A : List OpX} {nd : Int} {L : List Ltr} (h : LineIs A nd L) {x : OpX} (hx : ¬ (nodeO x = nd ∧ (kdO x = 105 ∨ kdO x = 100))) : LineIs (x :: A) nd L := by
  obtain ⟨s, h1, h2, rfl⟩ := h
  refine ⟨s, ?_, h2, List.map_congr_left (fun l _ => ?_)⟩
  · rw [List.filterMap_cons_none (show insO nd x = none from if_neg (fun q => hx ⟨q.2, .inl q.1⟩))]
    exact h1
  · have hg : GoneIn (x :: A) nd l.1 ↔ GoneIn A nd l.1 := by
      constructor
      · rintro ⟨y, hy, q⟩
        rcases List.mem_cons.1 hy with rfl | hy
        · exact absurd ⟨q.2.1, .inr q.1⟩ hx
        · exact ⟨y, hy, q⟩
      · rintro ⟨y, hy, q⟩
        exact ⟨y, List.mem_cons_of_mem _ hy, q⟩
    unfold hideL
    by_cases q : GoneIn A nd l.1
    · rw [if_pos q, if_pos (hg.2 q)]
    · rw [if_neg q, if_neg (fun k => q (hg.1 k))]
theorem LineIs.ins {A : List OpX} {nd : Int} {L : List Ltr} (h : LineIs A nd L) {x : OpX} (hk : kdO x = 105) (hn : nodeO x = nd) (hnew : idO x ∉ L.map (·.1)) (hpos : idO x ≠ 0) (ho : otherO x = 0 ∨ otherO x ∈ L.map (·.1)) (hg : ¬ GoneIn A nd (idO x)) : LineIs (x :: A) nd (put (otherO x) (idO x, letO x, false) L) := by
  have hids := h.ids
  obtain ⟨s, h1, h2, rfl⟩ := h
  rw [hide_ids] at hnew ho hids
  have hps := putAll_ids _ s rfl h2
  have hgo : ∀ id, GoneIn (x :: A) nd id ↔ GoneIn A nd id := fun id => by
    constructor
    · rintro ⟨y, hy, q⟩
      rcases List.mem_cons.1 hy with rfl | hy
      · rw [hk] at q; exact absurd q.1 (by decide)
      · exact ⟨y, hy, q⟩
    · rintro ⟨y, hy, q⟩
      exact ⟨y, List.mem_cons_of_mem _ hy, q⟩
  have hhide : ∀ l, hideL (x :: A) nd l = hideL A nd l := fun l => by
    unfold hideL
    by_cases q : GoneIn A nd l.1
    · rw [if_pos q, if_pos ((hgo _).2 q)]
    · rw [if_neg q, if_neg (fun k => q ((hgo _).1 k))]
  have hxl : hideL A nd (idO x, letO x, false) = (idO x, letO x, false) := if_neg hg
  refine ⟨s ++ [(otherO x, (idO x, letO x, false))], ?_, ⟨?_, ?_, ?_⟩, ?_⟩
  · rw [List.filterMap_cons_some (show insO nd x = some _ from if_pos ⟨hk, hn⟩)]
    exact (List.perm_append_comm).trans (h1.cons _)
  · rw [List.map_append, List.nodup_append]
    refine ⟨h2.1, by simp, fun a ha b hb => ?_⟩
    simp at hb
    subst hb
    intro e
    subst e
    exact hnew (hps.mem_iff.2 ha)
  · intro m hm
    rcases List.mem_append.1 hm with hm | hm
    · exact h2.2.1 m hm
    · rw [List.mem_singleton.1 hm]; exact hpos
  · intro u m v e
    rcases snoc_cases v with rfl | ⟨v', q, rfl⟩
    · obtain ⟨rfl, e2⟩ := List.append_inj' e rfl
      cases e2
      rcases ho with ho | ho
      · exact .inl ho
      · obtain ⟨y, hy, e⟩ := List.mem_map.1 (hps.mem_iff.1 ho)
        exact .inr ⟨y, hy, e⟩
    · have e' : s ++ [(otherO x, (idO x, letO x, false))] = (u ++ m :: v') ++ [q] := by rw [e]; simp
      obtain ⟨rfl, _⟩ := List.append_inj' e' rfl
      exact h2.2.2 u m v' rfl
  · rw [putAll_app, putAll_one, put_map (hideL_id A nd) hxl]
    exact List.map_congr_left (fun l _ => (hhide l).symm)
theorem LineIs.del {A : List OpX} {nd : Int} {L : List Ltr} (h : LineIs A nd L) {x : OpX} (hk : kdO x = 100) (hn : nodeO x = nd) {i : Nat} (hf : findL (otherO x) L = some i) : LineIs (x :: A) nd (L.set i (otherO x, 0, true)) := by
  have hnd := h.nodup
  obtain ⟨s, h1, h2, rfl⟩ := h
  refine ⟨s, ?_, h2, ?_⟩
  · rw [List.filterMap_cons_none (show insO nd x = none from if_neg (fun q => by rw [hk] at q; exact absurd q.1 (by decide)))]
    exact h1
  · obtain ⟨l0, hl0, hid⟩ := findL_some hf
    have hgo : ∀ id, GoneIn (x :: A) nd id ↔ id = otherO x ∨ GoneIn A nd id := fun id => by
      constructor
      · rintro ⟨y, hy, q⟩
        rcases List.mem_cons.1 hy with rfl | hy
        · exact .inl q.2.2.symm
        · exact .inr ⟨y, hy, q⟩
      · rintro (rfl | ⟨y, hy, q⟩)
        · exact ⟨x, List.mem_cons_self, hk, hn, rfl⟩
        · exact ⟨y, List.mem_cons_of_mem _ hy, q⟩
    rw [hide_ids] at hnd
    refine List.ext_getElem? (fun j => ?_)
    rw [List.getElem?_set, List.length_map, List.getElem?_map, List.getElem?_map]
    rw [List.getElem?_map] at hl0
    cases hj : (putAll s [])[j]? with
    | none =>
      have hjl := List.getElem?_eq_none_iff.1 hj
      split
      · rename_i e
        subst e
        rw [if_neg (by omega)]
        rfl
      · rfl
    | some l =>
      have hjl := (List.getElem?_eq_some_iff.1 hj).1
      split
      · rename_i e
        subst e
        rw [if_pos hjl]
        rw [hj] at hl0
        cases hl0
        rw [hideL_id] at hid
        have hq : hideL (x :: A) nd l = (l.1, 0, true) := if_pos ((hgo _).2 (.inl hid))
        simp only [Option.map_some, hq, hid]
      · rename_i e
        have hne : l.1 ≠ otherO x := fun q => e (by
          have hil : i < (putAll s []).length := by
            cases hi : (putAll s [])[i]? with
            | none => rw [hi] at hl0; cases hl0
            | some _ => exact (List.getElem?_eq_some_iff.1 hi).1
          have e1 : ((putAll s []).map (·.1))[i]? = some (otherO x) := by
            rw [List.getElem?_map]
            cases hi : (putAll s [])[i]? with
            | none => rw [hi] at hl0; cases hl0
            | some l' =>
              rw [hi] at hl0
              cases hl0
              rw [hideL_id] at hid
              simp [hid]
          have e2 : ((putAll s []).map (·.1))[j]? = some (otherO x) := by rw [List.getElem?_map, hj]; simp [q]
          exact (List.getElem?_inj (by simpa using hil) hnd).1 (e1.trans e2.symm))
        have hq : hideL (x :: A) nd l = hideL A nd l := by
          unfold hideL
          by_cases q : GoneIn A nd l.1
          · rw [if_pos q, if_pos ((hgo _).2 (.inr q))]
          · rw [if_neg q, if_neg (fun k => ((hgo _).1 k).elim hne q)]
        simp only [Option.map_some, hq]
theorem LineIs.new {A : List OpX} {nd : Int} (h : ∀ x ∈ A, nodeO x = nd → kdO x ≠ 105) : LineIs A nd [] := by
  refine ⟨[], ?_, ⟨by simp, fun m hm => by simp at hm, fun u m v e => by simp at e⟩, rfl⟩
  rw [show List.filterMap (insO nd) A = [] from List.filterMap_eq_nil_iff.2 (fun x hx => if_neg (fun q => h x hx q.2 q.1))]
def movO (x : OpX) : Option Mov := if kdO x = 109 then some ((x.1, x.2.1), (nodeO x, otherO x, x.2.2.2.2.2.2.1)) else none
def movsO (A : List OpX) : List Mov := A.filterMap movO
def timeO (A : List OpX) (T : Int) : Prop := (∀ x ∈ A, x.1 ≤ T) ∧ (T = 0 ∨ ∃ x ∈ A, x.1 = T) ∧ 0 ≤ T
theorem timeO_nil : timeO [] 0 := ⟨fun x h => by simp at h, .inl rfl, Int.le_refl _⟩
theorem timeO_unique {A : List OpX} {T T' : Int} (h : timeO A T) (k : timeO A T') : T = T' := by
  obtain ⟨h1, h2, h3⟩ := h
  obtain ⟨k1, k2, k3⟩ := k
  rcases h2 with rfl | ⟨x, hx, rfl⟩ <;> rcases k2 with rfl | ⟨y, hy, rfl⟩
  · rfl
  · have := h1 y hy; omega
  · have := k1 x hx; omega
  · have := h1 y hy; have := k1 x hx; omega
theorem timeO_cons {A : List OpX} {T : Int} (h : timeO A T) (x : OpX) (hx : 1 ≤ x.1) : timeO (x :: A) (if T < x.1 then x.1 else T) := by
  obtain ⟨h1, h2, h3⟩ := h
  split
  · rename_i q
    refine ⟨fun y hy => ?_, .inr ⟨x, List.mem_cons_self, rfl⟩, by omega⟩
    rcases List.mem_cons.1 hy with rfl | hy
    · exact Int.le_refl _
    · have := h1 y hy; omega
  · rename_i q
    refine ⟨fun y hy => ?_, h2.imp (fun e => e) (fun ⟨y, hy, e⟩ => ⟨y, List.mem_cons_of_mem _ hy, e⟩), h3⟩
    rcases List.mem_cons.1 hy with rfl | hy
    · omega
    · exact h1 y hy
end Go.Proofs.YtcggmagdndhkbaaGreatDoor
end
