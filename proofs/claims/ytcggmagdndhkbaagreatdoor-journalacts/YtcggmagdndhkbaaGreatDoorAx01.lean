import Derived.Lib.Split
import Derived.Lib.Join
import Derived.Lib.ItoaNum
import Derived.Lib.IndexBytes
import Derived.Test.YtcggmagdndhkbaaGreatDoorProg
import Derived.WalkKit
import Derived.WalkSpells
import Derived.Below
import Derived.LaidEql
section
namespace Go.Proofs.YtcggmagdndhkbaaGreatDoor
open Go
def hd (cur : List UInt8) : List (List UInt8) → List (List UInt8)
  | [] => [cur]
  | p :: ps => (cur ++ p) :: ps
theorem hd_hd (a b : List UInt8) (x : List (List UInt8)) (hx : x ≠ []) : hd a (hd b x) = hd (a ++ b) x := by
  cases x with
  | nil => exact absurd rfl hx
  | cons p ps => simp [hd]
theorem hd_nil (x : List (List UInt8)) (hx : x ≠ []) : hd [] x = x := by
  cases x with
  | nil => exact absurd rfl hx
  | cons p ps => simp [hd]
theorem hd_length (a : List UInt8) (x : List (List UInt8)) (hx : x ≠ []) : (hd a x).length = x.length := by
  cases x with
  | nil => exact absurd rfl hx
  | cons p ps => simp [hd]
def digitsL : Nat → List UInt8 → Option Nat
  | n, [] => some n
  | n, c :: r => if c.toNat < 48 ∨ 57 < c.toNat then none else digitsL (10 * n + (c.toNat - 48)) r
def numN (D : Nat) (l : List UInt8) : Option Nat := if l.length < 1 ∨ D < l.length ∨ (l.getD 0 0).toNat = 48 ∧ 1 < l.length then none else digitsL 0 l
abbrev RV := Option (Nat ⊕ (Nat × Nat × Nat × Nat))
end Go.Proofs.YtcggmagdndhkbaaGreatDoor
end
section
namespace Go.Proofs.YtcggmagdndhkbaaGreatDoor
open Go
def cutP (p : UInt8) : List UInt8 → List (List UInt8)
  | [] => [[]]
  | c :: r => if c = p then [] :: cutP p r else hd [c] (cutP p r)
theorem cutP_ne (p : UInt8) (l : List UInt8) : cutP p l ≠ [] := by
  cases l with
  | nil => simp [cutP]
  | cons c r =>
    unfold cutP
    split
    · simp
    · cases cutP p r <;> simp [hd]
theorem cutP_dot (p : UInt8) (r : List UInt8) : cutP p (p :: r) = [] :: cutP p r := by simp [cutP]
theorem cutP_other (p c : UInt8) (r : List UInt8) (h : c ≠ p) : cutP p (c :: r) = hd [c] (cutP p r) := by simp [cutP, h]
theorem cutP_length_le (p : UInt8) (l : List UInt8) : (cutP p l).length ≤ l.length + 1 := by
  induction l with
  | nil => simp [cutP]
  | cons c r ih =>
    by_cases h : c = p
    · subst h; rw [cutP_dot]; simp; omega
    · rw [cutP_other p c r h, hd_length _ _ (cutP_ne p r)]; simp; omega
theorem splitP_zero (p : UInt8) (l : List UInt8) : Lib.splitK [p] 0 0 l = [l] := rfl
theorem splitP_nil (p : UInt8) (k : Nat) : Lib.splitK [p] 0 k [] = [[]] := by
  cases k with
  | zero => rfl
  | succ k => unfold Lib.splitK; rfl
theorem splitP_ne (p : UInt8) (k : Nat) (l : List UInt8) : Lib.splitK [p] 0 k l ≠ [] := by
  cases k with
  | zero => simp [Lib.splitK]
  | succ k => unfold Lib.splitK; split <;> simp
theorem splitP_dot (p : UInt8) (k : Nat) (r : List UInt8) : Lib.splitK [p] 0 (k + 1) (p :: r) = [] :: Lib.splitK [p] 0 k r := by
  have h : Lib.index (p :: r) [p] = 0 := by rw [Lib.index_one]; simp [Lib.indexByte]
  rw [Lib.splitK, if_neg (by rw [h]; simp), h]
  simp
theorem splitP_other (p : UInt8) (k : Nat) (c : UInt8) (r : List UInt8) (hc : c ≠ p) : Lib.splitK [p] 0 (k + 1) (c :: r) = hd [c] (Lib.splitK [p] 0 (k + 1) r) := by
  have h : Lib.index (c :: r) [p] = if Lib.index r [p] == -1 then -1 else Lib.index r [p] + 1 := by
    rw [Lib.index_one, Lib.index_one]; simp [Lib.indexByte, hc]
  have g := Lib.index_ge r [p]
  by_cases h1 : Lib.index r [p] = -1
  · rw [if_pos (by simp [h1])] at h
    have e1 : Lib.splitK [p] 0 (k + 1) (c :: r) = [c :: r] := by unfold Lib.splitK; simp [h]
    have e2 : Lib.splitK [p] 0 (k + 1) r = [r] := by unfold Lib.splitK; simp [h1]
    rw [e1, e2]; simp [hd]
  · rw [if_neg (by simp [h1])] at h
    obtain ⟨n, hn⟩ : ∃ n : Nat, Lib.index r [p] = n := ⟨(Lib.index r [p]).toNat, by omega⟩
    rw [hn] at h
    have e1 : Lib.splitK [p] 0 (k + 1) (c :: r) = (c :: r.take n) :: Lib.splitK [p] 0 k (r.drop (n + 1)) := by
      rw [Lib.splitK, if_neg (by rw [h]; simp; omega), h]
      have : ((n : Int) + 1).toNat = n + 1 := by omega
      simp [this]
    have e2 : Lib.splitK [p] 0 (k + 1) r = r.take n :: Lib.splitK [p] 0 k (r.drop (n + 1)) := by
      rw [Lib.splitK, if_neg (by rw [hn]; simp), hn]
      simp
    rw [e1, e2]; simp [hd]
theorem splitP_length (p : UInt8) (l : List UInt8) : ∀ k, (Lib.splitK [p] 0 k l).length = min (k + 1) (cutP p l).length := by
  induction l with
  | nil => intro k; rw [splitP_nil]; simp [cutP]
  | cons c r ih =>
    intro k
    cases k with
    | zero =>
      have := cutP_ne p (c :: r)
      have : 0 < (cutP p (c :: r)).length := List.length_pos_iff.2 this
      rw [splitP_zero]; simp; omega
    | succ k =>
      by_cases h : c = p
      · subst h
        rw [splitP_dot, cutP_dot]
        simp [ih k]
      · rw [splitP_other p k c r h, cutP_other p c r h, hd_length _ _ (splitP_ne _ _ _), hd_length _ _ (cutP_ne _ _), ih (k + 1)]
theorem splitP_eq (p : UInt8) (l : List UInt8) : ∀ k, (cutP p l).length ≤ k + 1 → Lib.splitK [p] 0 k l = cutP p l := by
  induction l with
  | nil => intro k _; rw [splitP_nil]; rfl
  | cons c r ih =>
    intro k hk
    by_cases h : c = p
    · subst h
      rw [cutP_dot] at hk ⊢
      have h0 : 0 < (cutP c r).length := List.length_pos_iff.2 (cutP_ne c r)
      cases k with
      | zero => rw [List.length_cons] at hk; omega
      | succ k => rw [splitP_dot, ih k (by simpa using hk)]
    · rw [cutP_other p c r h] at hk ⊢
      rw [hd_length _ _ (cutP_ne p r)] at hk
      cases k with
      | zero =>
        have := ih 0 hk
        rw [splitP_zero] at this ⊢
        rw [← this]; simp [hd]
      | succ k => rw [splitP_other p k c r h, ih (k + 1) hk]
theorem cutP_append (p : UInt8) (a b : List UInt8) (h : p ∉ a) : cutP p (a ++ p :: b) = a :: cutP p b := by
  induction a with
  | nil => simp [cutP]
  | cons c r ih =>
    have hc : c ≠ p := fun e => h (by simp [e])
    have := ih (fun hm => h (by simp [hm]))
    simp [cutP_other p c _ hc, this, hd]
theorem cutP_plain (p : UInt8) (a : List UInt8) (h : p ∉ a) : cutP p a = [a] := by
  induction a with
  | nil => simp [cutP]
  | cons c r ih =>
    have hc : c ≠ p := fun e => h (by simp [e])
    have := ih (fun hm => h (by simp [hm]))
    simp [cutP_other p c _ hc, this, hd]
def joinP (p : UInt8) : List (List UInt8) → List UInt8
  | [] => []
  | [a] => a
  | a :: b :: r => a ++ p :: joinP p (b :: r)
theorem joinP_two (p : UInt8) (a : List UInt8) (x : List (List UInt8)) (h : x ≠ []) : joinP p (a :: x) = a ++ p :: joinP p x := by
  cases x with
  | nil => exact absurd rfl h
  | cons b r => rfl
theorem joinP_hd (p : UInt8) (c : UInt8) (x : List (List UInt8)) (h : x ≠ []) : joinP p (hd [c] x) = c :: joinP p x := by
  cases x with
  | nil => exact absurd rfl h
  | cons b r =>
    cases r with
    | nil => simp [hd, joinP]
    | cons d r => simp [hd, joinP]
theorem joinP_cut (p : UInt8) (l : List UInt8) : joinP p (cutP p l) = l := by
  induction l with
  | nil => simp [cutP, joinP]
  | cons c r ih =>
    by_cases h : c = p
    · subst h; rw [cutP_dot, joinP_two _ _ _ (cutP_ne c r), ih]; rfl
    · rw [cutP_other p c r h, joinP_hd p c _ (cutP_ne p r), ih]
theorem join_joinP (p : UInt8) (a0 a1 a2 a3 a4 a5 a6 a7 : List UInt8) : Lib.join [a0, a1, a2, a3, a4, a5, a6, a7] [p] = joinP p [a0, a1, a2, a3, a4, a5, a6, a7] := by
  simp [Lib.join_cons, Lib.joinTail, joinP]
theorem digits_snoc (x : List UInt8) (c : UInt8) : ∀ a, digitsL a (x ++ [c]) = (digitsL a x).bind fun v => if c.toNat < 48 ∨ 57 < c.toNat then none else some (10 * v + (c.toNat - 48)) := by
  induction x with
  | nil => intro a; simp [digitsL]
  | cons d r ih =>
    intro a
    simp only [List.cons_append, digitsL]
    split
    · rfl
    · exact ih _
theorem digits_ge (x : List UInt8) : ∀ a v, digitsL a x = some v → a ≤ v := by
  induction x with
  | nil => intro a v h; simp [digitsL] at h; omega
  | cons d r ih =>
    intro a v h
    simp only [digitsL] at h
    split at h
    · cases h
    · have := ih _ _ h; omega
theorem digits_dec (n : Nat) : digitsL 0 (Lib.decDigits n) = some n := by
  induction n using Nat.strongRecOn with
  | _ n ih =>
    rw [Lib.decDigits]
    split
    · rename_i h
      have e : (UInt8.ofNat (48 + n)).toNat = 48 + n := by simp; omega
      simp only [digitsL]
      rw [e, if_neg (by omega)]
      simp
    · rename_i h
      have e : (UInt8.ofNat (48 + n % 10)).toNat = 48 + n % 10 := by simp; omega
      rw [digits_snoc, ih (n / 10) (by omega)]
      simp only [Option.bind_some]
      rw [e, if_neg (by omega)]
      congr 1
      omega
theorem dec_digit (n : Nat) : ∀ c ∈ Lib.decDigits n, 48 ≤ c.toNat ∧ c.toNat ≤ 57 := by
  induction n using Nat.strongRecOn with
  | _ n ih =>
    intro c hc
    rw [Lib.decDigits] at hc
    split at hc
    · have e : (UInt8.ofNat (48 + n)).toNat = 48 + n := by simp; omega
      rw [List.mem_singleton] at hc
      subst hc
      rw [e]; omega
    · have e : (UInt8.ofNat (48 + n % 10)).toNat = 48 + n % 10 := by simp; omega
      rcases List.mem_append.1 hc with h | h
      · exact ih (n / 10) (by omega) c h
      · rw [List.mem_singleton] at h
        subst h
        rw [e]; omega
theorem dec_ne (n : Nat) : Lib.decDigits n ≠ [] := by
  rw [Lib.decDigits]
  split <;> simp
theorem dec_head (n : Nat) (h : 10 ≤ n) : ((Lib.decDigits n).getD 0 0).toNat ≠ 48 := by
  induction n using Nat.strongRecOn with
  | _ n ih =>
    rw [Lib.decDigits, dif_neg (by omega)]
    have hne := dec_ne (n / 10)
    have e : (Lib.decDigits (n / 10) ++ [UInt8.ofNat (48 + n % 10)]).getD 0 0 = (Lib.decDigits (n / 10)).getD 0 0 := by
      cases hd : Lib.decDigits (n / 10) with
      | nil => exact absurd hd hne
      | cons c r => rfl
    rw [e]
    by_cases h2 : n / 10 < 10
    · rw [Lib.decDigits, dif_pos h2]
      have e : (UInt8.ofNat (48 + n / 10)).toNat = 48 + n / 10 := by simp; omega
      show (UInt8.ofNat (48 + n / 10)).toNat ≠ 48
      rw [e]; omega
    · exact ih (n / 10) (by omega) (by omega)
theorem dec_len (D : Nat) : ∀ n, n < 10 ^ (D + 1) → (Lib.decDigits n).length ≤ D + 1 := by
  induction D with
  | zero => intro n h; rw [Lib.decDigits, dif_pos (by omega)]; simp
  | succ D ih =>
    intro n h
    rw [Lib.decDigits]
    split
    · simp
    · have : n / 10 < 10 ^ (D + 1) := by rw [Nat.pow_succ] at h; omega
      have := ih _ this
      simp; omega
theorem numN_dec (D n : Nat) (h : n < 10 ^ (D + 1)) : numN (D + 1) (Lib.decDigits n) = some n := by
  unfold numN
  have h1 := List.length_pos_iff.2 (dec_ne n)
  have h2 := dec_len D n h
  rw [if_neg, digits_dec]
  rintro (h3 | h3 | ⟨h3, h4⟩)
  · omega
  · omega
  · by_cases h10 : 10 ≤ n
    · exact dec_head n h10 h3
    · rw [Lib.decDigits, dif_pos (by omega)] at h4
      simp at h4
theorem numN_itoa (D : Nat) (a : Int) (h0 : 0 ≤ a) (h : a.toNat < 10 ^ (D + 1)) : numN (D + 1) (Lib.itoa a) = some a.toNat := by
  rw [Lib.itoa, if_neg (by omega)]; exact numN_dec D _ h
theorem itoa_noP (a : Int) (p : UInt8) (hp : 57 < p.toNat) (h0 : 0 ≤ a) : p ∉ Lib.itoa a := by
  rw [Lib.itoa, if_neg (by omega)]
  intro hm
  have := dec_digit _ _ hm
  omega
theorem dec_of (x : List UInt8) : ∀ n v, x.length = n → digitsL 0 x = some v → x ≠ [] → (x.getD 0 0).toNat ≠ 48 → Lib.decDigits v = x := by
  intro n
  induction n generalizing x with
  | zero => intro v hl _ hne; exact absurd (List.length_eq_zero_iff.1 hl) hne
  | succ n ih =>
    intro v hl hd hne hz
    obtain ⟨y, c, rfl⟩ : ∃ y c, x = y ++ [c] := ⟨x.dropLast, x.getLast hne, (List.dropLast_concat_getLast hne).symm⟩
    rw [digits_snoc] at hd
    cases hv : digitsL 0 y with
    | none => rw [hv] at hd; cases hd
    | some u =>
      rw [hv] at hd
      simp only [Option.bind_some] at hd
      by_cases hc : c.toNat < 48 ∨ 57 < c.toNat
      · rw [if_pos hc] at hd; cases hd
      · rw [if_neg hc] at hd
        have hd := Option.some.inj hd
        by_cases hy : y = []
        · subst hy
          simp [digitsL] at hv
          subst hv
          rw [Lib.decDigits, dif_pos (by omega)]
          have : 48 + v = c.toNat := by omega
          rw [this]; simp
        · have hy0 : ((y ++ [c]).getD 0 0) = y.getD 0 0 := by
            cases y with
            | nil => exact absurd rfl hy
            | cons b r => rfl
          rw [hy0] at hz
          have hu : 1 ≤ u := by
            cases y with
            | nil => exact absurd rfl hy
            | cons b r =>
              simp only [digitsL] at hv
              split at hv
              · cases hv
              · have := digits_ge _ _ _ hv
                have hz : b.toNat ≠ 48 := hz
                omega
          have := ih y u (by simpa using hl) hv hy hz
          rw [Lib.decDigits, dif_neg (by omega), show v / 10 = u by omega, this, show 48 + v % 10 = c.toNat by omega]
          simp
theorem dec_numN (D : Nat) (l : List UInt8) (v : Nat) (h : numN D l = some v) : Lib.decDigits v = l := by
  unfold numN at h
  split at h
  · cases h
  · rename_i hc
    have hne : l ≠ [] := fun e => hc (.inl (by rw [e]; exact Nat.zero_lt_one))
    by_cases hz : (l.getD 0 0).toNat = 48
    · have hl : ¬ 1 < l.length := fun e => hc (.inr (.inr ⟨hz, e⟩))
      match l, hne with
      | [c], _ =>
        have hz : c.toNat = 48 := hz
        simp [digitsL, hz] at h
        subst h
        rw [Lib.decDigits, dif_pos (by omega)]
        have : c = 48 := UInt8.toNat_inj.1 hz
        subst this; rfl
      | _ :: _ :: _, _ => simp at hl
    · exact dec_of l _ v rfl h hne hz
theorem numN_lt (l : List UInt8) : ∀ a v, digitsL a l = some v → v < (a + 1) * 10 ^ l.length := by
  induction l with
  | nil => intro a v h; simp [digitsL] at h; simp; omega
  | cons c r ih =>
    intro a v h
    simp only [digitsL] at h
    split at h
    · cases h
    · have := ih _ _ h
      have h2 : (10 * a + (c.toNat - 48) + 1) * 10 ^ r.length ≤ (10 * (a + 1)) * 10 ^ r.length := Nat.mul_le_mul_right _ (by omega)
      rw [List.length_cons, Nat.pow_succ]
      have h3 : (a + 1) * (10 ^ r.length * 10) = (10 * (a + 1)) * 10 ^ r.length := by rw [Nat.mul_comm (10 ^ r.length) 10, ← Nat.mul_assoc, Nat.mul_comm (a + 1) 10]
      omega
theorem numN_bound (D : Nat) (l : List UInt8) (v : Nat) (h : numN D l = some v) : v < 10 ^ D := by
  unfold numN at h
  split at h
  · cases h
  · rename_i hc
    have h1 := numN_lt l 0 v h
    have h2 : 10 ^ l.length ≤ 10 ^ D := Nat.pow_le_pow_right (by decide) (by omega)
    omega
def hexd (n : Nat) : UInt8 := UInt8.ofNat (if n < 10 then 48 + n else 87 + n)
def hexL : List UInt8 → List UInt8
  | [] => []
  | c :: r => hexd (c.toNat / 16) :: hexd (c.toNat % 16) :: hexL r
def hexV (c : UInt8) : Option Nat := if 48 ≤ c.toNat ∧ c.toNat ≤ 57 then some (c.toNat - 48) else if 97 ≤ c.toNat ∧ c.toNat ≤ 102 then some (c.toNat - 87) else none
def unhexL : List UInt8 → Option (List UInt8)
  | [] => some []
  | [_] => none
  | a :: b :: r =>
    match hexV a with
    | none => none
    | some x => match hexV b with
      | none => none
      | some y => (unhexL r).map fun l => UInt8.ofNat (16 * x + y) :: l
theorem hexV_hexd : ∀ n : Fin 16, hexV (hexd n) = some n.1 ∧ hexd n ≠ 124 := by decide +kernel
theorem hexd_hexV : ∀ c : Fin 256, ∀ x : Fin 16, hexV (UInt8.ofNat c) = some x.1 → hexd x = UInt8.ofNat c := by decide +kernel
theorem hexV_lt (c : UInt8) (x : Nat) (h : hexV c = some x) : x < 16 := by
  unfold hexV at h
  split at h
  · simp at h; omega
  · split at h
    · simp at h; omega
    · cases h
theorem hexd_of (c : UInt8) (x : Nat) (h : hexV c = some x) : hexd x = c := by
  have := hexd_hexV ⟨c.toNat, c.toNat_lt⟩ ⟨x, hexV_lt c x h⟩
  simp only [UInt8.ofNat_toNat] at this
  exact this h
theorem unhex_hex (l : List UInt8) : unhexL (hexL l) = some l := by
  induction l with
  | nil => rfl
  | cons c r ih =>
    have hc := c.toNat_lt
    have h1 := (hexV_hexd ⟨c.toNat / 16, by omega⟩).1
    have h2 := (hexV_hexd ⟨c.toNat % 16, by omega⟩).1
    simp only at h1 h2
    simp only [hexL, unhexL, h1, h2, ih, Option.map_some]
    congr 2
    rw [show 16 * (c.toNat / 16) + c.toNat % 16 = c.toNat by omega]
    simp
theorem hexL_noP (l : List UInt8) : (124 : UInt8) ∉ hexL l := by
  induction l with
  | nil => simp [hexL]
  | cons c r ih =>
    have hc := c.toNat_lt
    have h1 := (hexV_hexd ⟨c.toNat / 16, by omega⟩).2
    have h2 := (hexV_hexd ⟨c.toNat % 16, by omega⟩).2
    simp only at h1 h2
    simp only [hexL, List.mem_cons, not_or]
    exact ⟨fun e => h1 e.symm, fun e => h2 e.symm, ih⟩
theorem hexL_length (l : List UInt8) : (hexL l).length = 2 * l.length := by
  induction l with
  | nil => rfl
  | cons c r ih => simp [hexL, ih]; omega
theorem unhex_odd (n : Nat) : ∀ l : List UInt8, l.length = n → n % 2 = 1 → unhexL l = none := by
  induction n using Nat.strongRecOn with
  | _ n ih =>
    intro l hl hn
    match l, hl with
    | [], hl => simp at hl; omega
    | [_], _ => rfl
    | a :: b :: r, hl =>
      simp only [List.length_cons] at hl
      simp only [unhexL]
      rw [ih (n - 2) (by omega) r (by omega) (by omega)]
      split
      · rfl
      · split <;> rfl
theorem hex_unhex (n : Nat) : ∀ l v : List UInt8, l.length = n → unhexL l = some v → hexL v = l := by
  induction n using Nat.strongRecOn with
  | _ n ih =>
    intro l v hl h
    match l, hl, h with
    | [], _, h => simp [unhexL] at h; subst h; rfl
    | [_], _, h => simp [unhexL] at h
    | a :: b :: r, hl, h =>
      simp only [List.length_cons] at hl
      simp only [unhexL] at h
      cases ha : hexV a with
      | none => rw [ha] at h; cases h
      | some x =>
        rw [ha] at h
        simp only at h
        cases hb : hexV b with
        | none => rw [hb] at h; cases h
        | some y =>
          rw [hb] at h
          simp only at h
          cases hr : unhexL r with
          | none => rw [hr] at h; cases h
          | some u =>
            rw [hr] at h
            have h := Option.some.inj h
            subst h
            have h1 := hexV_lt _ _ ha
            have h2 := hexV_lt _ _ hb
            have e : (UInt8.ofNat (16 * x + y)).toNat = 16 * x + y := by simp; omega
            show hexL (UInt8.ofNat (16 * x + y) :: u) = a :: b :: r
            rw [hexL, e, show (16 * x + y) / 16 = x by omega, show (16 * x + y) % 16 = y by omega, hexd_of _ _ ha, hexd_of _ _ hb, ih (n - 2) (by omega) r u (by omega) hr]
def nameB (c : UInt8) : Bool := decide (97 ≤ c.toNat ∧ c.toNat ≤ 122 ∨ 48 ≤ c.toNat ∧ c.toNat ≤ 57 ∨ c.toNat = 45 ∨ c.toNat = 46)
def seenB (c : UInt8) : Bool := decide (32 ≤ c.toNat ∧ c.toNat ≤ 126)
def nameOk (l : List UInt8) : Bool := decide (1 ≤ l.length) && decide (l.length ≤ 12) && l.all nameB
def seenOk (l : List UInt8) : Bool := l.all seenB
def moveE (id node other : Int) (name value : List UInt8) : Nat := if node < 2 ∨ id < node ∨ other < 0 ∨ id ≤ other then 3 else if nameOk name = false then 4 else if value ≠ [] then 3 else 0
def insE (id node other : Int) (name value : List UInt8) : Nat := if node < 0 ∨ id ≤ node ∨ other < 0 ∨ id ≤ other then 3 else if name ≠ [] then 4 else if value.length ≠ 1 ∨ seenOk value = false then 3 else 0
def delE (id node other : Int) (name value : List UInt8) : Nat := if node < 0 ∨ id ≤ node ∨ other < 0 ∨ id ≤ other ∨ other = 0 then 3 else if name ≠ [] then 4 else if value ≠ [] then 3 else 0
def setE (id node other : Int) (name value : List UInt8) : Nat := if node < 0 ∨ id ≤ node ∨ other ≠ 0 then 3 else if nameOk name = false then 4 else if 12 < value.length ∨ seenOk value = false then 3 else 0
def kindE (id : Int) (k : Nat) (node other : Int) (name value : List UInt8) : Nat :=
  if k = 109 then moveE id node other name value else if k = 105 then insE id node other name value else if k = 100 then delE id node other name value else if k = 115 then setE id node other name value else 5
def opE (t b n : Int) (k : Nat) (node other : Int) (name value : List UInt8) : Nat :=
  if 1 ≤ t ∧ t ≤ 1073741824 ∧ 0 ≤ b ∧ b < 4 ∧ 1 ≤ n ∧ n ≤ 400 then kindE (t * 4 + b) k node other name value else 2
theorem opE_zero {t b n : Int} {k : Nat} {node other : Int} {name value : List UInt8} (h : opE t b n k node other name value = 0) :
    1 ≤ t ∧ t ≤ 1073741824 ∧ 0 ≤ b ∧ b < 4 ∧ 1 ≤ n ∧ n ≤ 400 ∧ (k = 109 ∨ k = 105 ∨ k = 100 ∨ k = 115) ∧ 0 ≤ node ∧ node ≤ t * 4 + b ∧ 0 ≤ other ∧ other ≤ t * 4 + b ∧ (124 : UInt8) ∉ name ∧ name.length ≤ 12 ∧ value.length ≤ 12 := by
  have nm : nameOk name = true → (124 : UInt8) ∉ name ∧ name.length ≤ 12 := fun hn => by
    unfold nameOk at hn
    simp only [Bool.and_eq_true, decide_eq_true_eq] at hn
    refine ⟨fun hm => ?_, hn.1.2⟩
    have := List.all_eq_true.1 hn.2 _ hm
    revert this; decide
  unfold opE at h
  split at h
  · rename_i hc
    obtain ⟨h1, h2, h3, h4, h5, h6⟩ := hc
    unfold kindE at h
    split at h
    · rename_i hk
      unfold moveE at h
      split at h
      · cases h
      · split at h
        · cases h
        · rename_i hn
          split at h
          · cases h
          · rename_i hv
            have hv : value = [] := Decidable.not_not.1 hv
            have := nm (by simpa using hn)
            exact ⟨h1, h2, h3, h4, h5, h6, .inl hk, by omega, by omega, by omega, by omega, this.1, this.2, by rw [hv]; simp⟩
    · split at h
      · rename_i hk
        unfold insE at h
        split at h
        · cases h
        · split at h
          · cases h
          · rename_i hn
            split at h
            · cases h
            · rename_i hv
              have hn : name = [] := Decidable.not_not.1 hn
              subst hn
              exact ⟨h1, h2, h3, h4, h5, h6, .inr (.inl hk), by omega, by omega, by omega, by omega, by simp, by simp, by omega⟩
      · split at h
        · rename_i hk
          unfold delE at h
          split at h
          · cases h
          · split at h
            · cases h
            · rename_i hn
              split at h
              · cases h
              · rename_i hv
                have hn : name = [] := Decidable.not_not.1 hn
                have hv : value = [] := Decidable.not_not.1 hv
                subst hn hv
                exact ⟨h1, h2, h3, h4, h5, h6, .inr (.inr (.inl hk)), by omega, by omega, by omega, by omega, by simp, by simp, by simp⟩
        · split at h
          · rename_i hk
            unfold setE at h
            split at h
            · cases h
            · split at h
              · cases h
              · rename_i hn
                split at h
                · cases h
                · have := nm (by simpa using hn)
                  exact ⟨h1, h2, h3, h4, h5, h6, .inr (.inr (.inr hk)), by omega, by omega, by omega, by omega, this.1, this.2, by omega⟩
          · cases h
  · cases h
def opTextL (t b n : Int) (k : Nat) (node other : Int) (name value : List UInt8) : List UInt8 :=
  joinP 124 [[UInt8.ofNat k], Lib.itoa t, Lib.itoa b, Lib.itoa n, Lib.itoa node, Lib.itoa other, name, hexL value]
abbrev Parts := UInt8 × Nat × Nat × Nat × Nat × Nat × List UInt8 × List UInt8
def numsP (c : UInt8) (p1 p2 p3 p4 p5 nm hx : List UInt8) : Option Parts :=
  match numN 10 p1 with
  | none => none
  | some n1 => match numN 10 p2 with
    | none => none
    | some n2 => match numN 10 p3 with
      | none => none
      | some n3 => match numN 10 p4 with
        | none => none
        | some n4 => match numN 10 p5 with
          | none => none
          | some n5 => match unhexL hx with
            | none => none
            | some v => some (c, n1, n2, n3, n4, n5, nm, v)
def partsL (l : List UInt8) : Option Parts :=
  match cutP 124 l with
  | [[c], p1, p2, p3, p4, p5, nm, hx] => numsP c p1 p2 p3 p4 p5 nm hx
  | _ => none
theorem partsL_eight {l p1 p2 p3 p4 p5 nm hx : List UInt8} {c : UInt8} (h : cutP 124 l = [[c], p1, p2, p3, p4, p5, nm, hx]) : partsL l = numsP c p1 p2 p3 p4 p5 nm hx := by simp [partsL, h]
theorem partsL_not {l : List UInt8} (h : (cutP 124 l).length ≠ 8) : partsL l = none := by
  unfold partsL
  split
  · rename_i e; simp [e] at h
  · rfl
theorem partsL_kind {l p0 p1 p2 p3 p4 p5 nm hx : List UInt8} (h : cutP 124 l = [p0, p1, p2, p3, p4, p5, nm, hx]) (h0 : p0.length ≠ 1) : partsL l = none := by
  unfold partsL
  split
  · rename_i e; rw [e] at h; simp at h; rw [← h.1] at h0; simp at h0
  · rfl
theorem parts_text {t b n : Int} {k : Nat} {node other : Int} {name value : List UInt8} (h : opE t b n k node other name value = 0) :
    partsL (opTextL t b n k node other name value) = some (UInt8.ofNat k, t.toNat, b.toNat, n.toNat, node.toNat, other.toNat, name, value) := by
  obtain ⟨h1, h2, h3, h4, h5, h6, hk, h7, h8, h9, h10, hn, -, -⟩ := opE_zero h
  have hp : (57 : Nat) < (124 : UInt8).toNat := by decide
  have hk0 : (124 : UInt8) ∉ [UInt8.ofNat k] := by
    rcases hk with rfl | rfl | rfl | rfl <;> decide
  have hc : cutP 124 (opTextL t b n k node other name value) = [[UInt8.ofNat k], Lib.itoa t, Lib.itoa b, Lib.itoa n, Lib.itoa node, Lib.itoa other, name, hexL value] := by
    unfold opTextL
    simp only [joinP]
    rw [cutP_append _ _ _ hk0, cutP_append _ _ _ (itoa_noP t _ hp (by omega)), cutP_append _ _ _ (itoa_noP b _ hp (by omega)), cutP_append _ _ _ (itoa_noP n _ hp (by omega)), cutP_append _ _ _ (itoa_noP node _ hp (by omega)), cutP_append _ _ _ (itoa_noP other _ hp (by omega)), cutP_append _ _ _ hn, cutP_plain _ _ (hexL_noP value)]
  rw [partsL_eight hc]
  unfold numsP
  rw [numN_itoa 9 t (by omega) (by omega), numN_itoa 9 b (by omega) (by omega), numN_itoa 9 n (by omega) (by omega), numN_itoa 9 node (by omega) (by omega), numN_itoa 9 other (by omega) (by omega), unhex_hex]
theorem text_parts {l nm v : List UInt8} {c : UInt8} {n1 n2 n3 n4 n5 : Nat} (h : partsL l = some (c, n1, n2, n3, n4, n5, nm, v)) : opTextL n1 n2 n3 c.toNat n4 n5 nm v = l := by
  have it : ∀ m : Nat, Lib.itoa (m : Int) = Lib.decDigits m := fun m => by rw [Lib.itoa, if_neg (by omega)]; rfl
  unfold partsL at h
  split at h
  · rename_i c' p1 p2 p3 p4 p5 nm' hx hc
    unfold numsP at h
    split at h
    · cases h
    · rename_i m1 e1
      split at h
      · cases h
      · rename_i m2 e2
        split at h
        · cases h
        · rename_i m3 e3
          split at h
          · cases h
          · rename_i m4 e4
            split at h
            · cases h
            · rename_i m5 e5
              split at h
              · cases h
              · rename_i v' ev
                simp only [Option.some.injEq, Prod.mk.injEq] at h
                obtain ⟨rfl, rfl, rfl, rfl, rfl, rfl, rfl, rfl⟩ := h
                unfold opTextL
                rw [it, it, it, it, it, dec_numN _ _ _ e1, dec_numN _ _ _ e2, dec_numN _ _ _ e3, dec_numN _ _ _ e4, dec_numN _ _ _ e5, hex_unhex _ _ _ rfl ev]
                rw [UInt8.ofNat_toNat, ← hc, joinP_cut]
  · cases h
end Go.Proofs.YtcggmagdndhkbaaGreatDoor
end
section
namespace Go.Proofs.YtcggmagdndhkbaaGreatDoor
open Go.RowKit
theorem bcell {W w1 : World} (hb : Below W.heap.size W w1) : (∀ b o, b < W.heap.size → w1.cell? ⟨b, o, none⟩ = W.cell? ⟨b, o, none⟩) ∧ (∀ b o, b < W.heap.size → w1.frozen? ⟨b, o, none⟩ = W.frozen? ⟨b, o, none⟩) :=
  ⟨fun b o h => hb.cell (p := ⟨b, o, none⟩) h, fun b o h => hb.frozen (p := ⟨b, o, none⟩) h⟩
set_option maxHeartbeats 400000 in
theorem check_ok (t b : Int) (w : World) (h1 : 1 ≤ t) (h2 : t ≤ 1073741824) (h3 : 0 ≤ b) (h4 : b < 4) :
    Calls Tryz.prog 219 #[.agg #[.int .i64 t, .int .i64 b]] w fun e w' => e = .returned .nilIface ∧ Below w.heap.size w w' := by
  go_enter Tryz.func219, Tryz.ntmps219
  go_wp2
  go_ret
  exact ⟨rfl, (Below.refl _ _).alloc (Nat.le_refl _) _⟩
set_option maxHeartbeats 400000 in
theorem check_no (t b : Int) (w : World) (eb : Value) (hg : w.cell? ⟨2, 0, none⟩ = some eb) (hz : 2 < w.heap.size) (h : ¬ (1 ≤ t ∧ t ≤ 1073741824 ∧ 0 ≤ b ∧ b < 4)) :
    Calls Tryz.prog 219 #[.agg #[.int .i64 t, .int .i64 b]] w fun e w' => e = .returned eb ∧ Below w.heap.size w w' := by
  by_cases h1 : 1 ≤ t
  · by_cases h2 : t ≤ 1073741824
    · by_cases h3 : 0 ≤ b
      · have h4 : 4 ≤ b := by omega
        have d4 : decide (b < 4) = false := by simp; omega
        clear h
        go_enter Tryz.func219, Tryz.ntmps219
        go_wp2
        go_ret
        exact ⟨rfl, (Below.refl _ _).alloc (Nat.le_refl _) _⟩
      · have h4 : b < 0 := by omega
        clear h h3
        go_enter Tryz.func219, Tryz.ntmps219
        go_wp2
        go_ret
        exact ⟨rfl, (Below.refl _ _).alloc (Nat.le_refl _) _⟩
    · have h4 : 1073741824 < t := by omega
      clear h h2
      go_enter Tryz.func219, Tryz.ntmps219
      go_wp2
      go_ret
      exact ⟨rfl, (Below.refl _ _).alloc (Nat.le_refl _) _⟩
  · have h4 : t < 1 := by omega
    clear h h1
    go_enter Tryz.func219, Tryz.ntmps219
    go_wp2
    go_ret
    exact ⟨rfl, (Below.refl _ _).alloc (Nat.le_refl _) _⟩
end Go.Proofs.YtcggmagdndhkbaaGreatDoor
end
