/- Plain functions on bytes, of no program: how a text is cut by dots, what number digits make, which vector a text is. -/
import Derived.Lib.Split
import Derived.Lib.Join
import Derived.Lib.ItoaNum
import Derived.Lib.IndexBytes
namespace Go.Proofs.YtcggmagdndhkbaaDoor
open Go

/-- A piece that goes on. -/
def hd (cur : List UInt8) : List (List UInt8) → List (List UInt8)
  | [] => [cur]
  | p :: ps => (cur ++ p) :: ps

/-- A text cut by dots. -/
def cutL : List UInt8 → List (List UInt8)
  | [] => [[]]
  | c :: r => if c = 46 then [] :: cutL r else hd [c] (cutL r)

theorem cutL_ne (l : List UInt8) : cutL l ≠ [] := by
  cases l with
  | nil => simp [cutL]
  | cons c r =>
    unfold cutL
    split
    · simp
    · cases cutL r <;> simp [hd]

theorem hd_hd (a b : List UInt8) (x : List (List UInt8)) (hx : x ≠ []) : hd a (hd b x) = hd (a ++ b) x := by
  cases x with
  | nil => exact absurd rfl hx
  | cons p ps => simp [hd]
theorem hd_nil (x : List (List UInt8)) (hx : x ≠ []) : hd [] x = x := by
  cases x with
  | nil => exact absurd rfl hx
  | cons p ps => simp [hd]
theorem hd_length (a : List UInt8) (x : List (List UInt8)) (hx : x ≠ []) : (hd a x).length = x.length := by
  cases x with
  | nil => exact absurd rfl hx
  | cons p ps => simp [hd]

theorem cutL_dot (r : List UInt8) : cutL (46 :: r) = [] :: cutL r := by simp [cutL]
theorem cutL_other (c : UInt8) (r : List UInt8) (h : c ≠ 46) : cutL (c :: r) = hd [c] (cutL r) := by simp [cutL, h]

theorem cutL_length_le (l : List UInt8) : (cutL l).length ≤ l.length + 1 := by
  induction l with
  | nil => simp [cutL]
  | cons c r ih =>
    by_cases h : c = 46
    · subst h; rw [cutL_dot]; simp; omega
    · rw [cutL_other c r h, hd_length _ _ (cutL_ne r)]; simp; omega

theorem split_zero (l : List UInt8) : Lib.splitK [46] 0 0 l = [l] := rfl
theorem split_nil (k : Nat) : Lib.splitK [46] 0 k [] = [[]] := by
  cases k with
  | zero => rfl
  | succ k => unfold Lib.splitK; rfl
theorem split_ne (k : Nat) (l : List UInt8) : Lib.splitK [46] 0 k l ≠ [] := by
  cases k with
  | zero => simp [Lib.splitK]
  | succ k => unfold Lib.splitK; split <;> simp
theorem split_dot (k : Nat) (r : List UInt8) : Lib.splitK [46] 0 (k + 1) (46 :: r) = [] :: Lib.splitK [46] 0 k r := by
  have h : Lib.index (46 :: r) [46] = 0 := by rw [Lib.index_one]; simp [Lib.indexByte]
  rw [Lib.splitK, if_neg (by rw [h]; simp), h]
  simp
theorem split_other (k : Nat) (c : UInt8) (r : List UInt8) (hc : c ≠ 46) : Lib.splitK [46] 0 (k + 1) (c :: r) = hd [c] (Lib.splitK [46] 0 (k + 1) r) := by
  have h : Lib.index (c :: r) [46] = if Lib.index r [46] == -1 then -1 else Lib.index r [46] + 1 := by
    rw [Lib.index_one, Lib.index_one]; simp [Lib.indexByte, hc]
  have g := Lib.index_ge r [46]
  by_cases h1 : Lib.index r [46] = -1
  · rw [if_pos (by simp [h1])] at h
    have e1 : Lib.splitK [46] 0 (k + 1) (c :: r) = [c :: r] := by unfold Lib.splitK; simp [h]
    have e2 : Lib.splitK [46] 0 (k + 1) r = [r] := by unfold Lib.splitK; simp [h1]
    rw [e1, e2]; simp [hd]
  · rw [if_neg (by simp [h1])] at h
    obtain ⟨n, hn⟩ : ∃ n : Nat, Lib.index r [46] = n := ⟨(Lib.index r [46]).toNat, by omega⟩
    rw [hn] at h
    have e1 : Lib.splitK [46] 0 (k + 1) (c :: r) = (c :: r.take n) :: Lib.splitK [46] 0 k (r.drop (n + 1)) := by
      rw [Lib.splitK, if_neg (by rw [h]; simp; omega), h]
      have : ((n : Int) + 1).toNat = n + 1 := by omega
      simp [this]
    have e2 : Lib.splitK [46] 0 (k + 1) r = r.take n :: Lib.splitK [46] 0 k (r.drop (n + 1)) := by
      rw [Lib.splitK, if_neg (by rw [hn]; simp), hn]
      simp
    rw [e1, e2]; simp [hd]

/-- Cut at most so often, there are as many pieces as there are, or one more than that. -/
theorem split_length (l : List UInt8) : ∀ k, (Lib.splitK [46] 0 k l).length = min (k + 1) (cutL l).length := by
  induction l with
  | nil => intro k; rw [split_nil]; simp [cutL]
  | cons c r ih =>
    intro k
    cases k with
    | zero =>
      have := cutL_ne (c :: r)
      have : 0 < (cutL (c :: r)).length := List.length_pos_iff.2 this
      rw [split_zero]; simp; omega
    | succ k =>
      by_cases h : c = 46
      · subst h
        rw [split_dot, cutL_dot]
        simp [ih k]
      · rw [split_other k c r h, cutL_other c r h, hd_length _ _ (split_ne _ _), hd_length _ _ (cutL_ne _), ih (k + 1)]

/-- .. and where they are no more than that, they are the same ones. -/
theorem split_eq (l : List UInt8) : ∀ k, (cutL l).length ≤ k + 1 → Lib.splitK [46] 0 k l = cutL l := by
  induction l with
  | nil => intro k _; rw [split_nil]; rfl
  | cons c r ih =>
    intro k hk
    by_cases h : c = 46
    · subst h
      rw [cutL_dot] at hk ⊢
      have h0 : 0 < (cutL r).length := List.length_pos_iff.2 (cutL_ne r)
      cases k with
      | zero => rw [List.length_cons] at hk; omega
      | succ k => rw [split_dot, ih k (by simpa using hk)]
    · rw [cutL_other c r h] at hk ⊢
      rw [hd_length _ _ (cutL_ne r)] at hk
      cases k with
      | zero =>
        have := ih 0 hk
        rw [split_zero] at this ⊢
        rw [← this]; simp [hd]
      | succ k => rw [split_other k c r h, ih (k + 1) hk]

/-- What number digits make, behind a number. -/
def digitsL : Nat → List UInt8 → Option Nat
  | n, [] => some n
  | n, c :: r => if c.toNat < 48 ∨ 57 < c.toNat then none else digitsL (10 * n + (c.toNat - 48)) r

/-- What number a text is: one to so many digits, without needless zeros. -/
def numN (D : Nat) (l : List UInt8) : Option Nat := if l.length < 1 ∨ D < l.length ∨ (l.getD 0 0).toNat = 48 ∧ 1 < l.length then none else digitsL 0 l
/-- .. to four digits. -/
def numL (l : List UInt8) : Option Nat := numN 4 l

/-- The first number of a vector that is out of bounds. -/
def badI (a0 a1 a2 a3 : Int) : Option Nat :=
  if a0 < 0 ∨ 400 < a0 then some 0 else if a1 < 0 ∨ 400 < a1 then some 1 else if a2 < 0 ∨ 400 < a2 then some 2 else if a3 < 0 ∨ 400 < a3 then some 3 else none

/-- What a text is: no vector, a vector that is out of bounds (where first), a vector. -/
abbrev RV := Option (Nat ⊕ (Nat × Nat × Nat × Nat))
def RV.text : RV := none
def RV.bound (k : Nat) : RV := some (.inl k)
def RV.ok (n0 n1 n2 n3 : Nat) : RV := some (.inr (n0, n1, n2, n3))
theorem RV.cases (r : RV) : r = RV.text ∨ (∃ k, r = RV.bound k) ∨ ∃ n0 n1 n2 n3, r = RV.ok n0 n1 n2 n3 := by
  match r with
  | none => exact .inl rfl
  | some (.inl k) => exact .inr (.inl ⟨k, rfl⟩)
  | some (.inr (n0, n1, n2, n3)) => exact .inr (.inr ⟨n0, n1, n2, n3, rfl⟩)

def boundL (n0 n1 n2 n3 : Nat) : RV :=
  match badI n0 n1 n2 n3 with
  | some k => RV.bound k
  | none => RV.ok n0 n1 n2 n3

/-- Pieces that are a vector's, or none. -/
def numsL (p0 p1 p2 p3 : List UInt8) : RV :=
  match numL p0 with
  | none => RV.text
  | some n0 => match numL p1 with
    | none => RV.text
    | some n1 => match numL p2 with
      | none => RV.text
      | some n2 => match numL p3 with
        | none => RV.text
        | some n3 => boundL n0 n1 n2 n3

def readL (l : List UInt8) : RV :=
  match cutL l with
  | [p0, p1, p2, p3] => numsL p0 p1 p2 p3
  | _ => RV.text

theorem readL_four {l p0 p1 p2 p3 : List UInt8} (h : cutL l = [p0, p1, p2, p3]) : readL l = numsL p0 p1 p2 p3 := by simp [readL, h]
theorem readL_not {l : List UInt8} (h : (cutL l).length ≠ 4) : readL l = RV.text := by
  unfold readL
  split
  · rename_i e; simp [e] at h
  · rfl

/-- The digits of a number below a thousand. -/
def dig3 (n : Nat) : List UInt8 :=
  if n < 10 then [UInt8.ofNat (48 + n)] else if n < 100 then [UInt8.ofNat (48 + n / 10), UInt8.ofNat (48 + n % 10)] else [UInt8.ofNat (48 + n / 100), UInt8.ofNat (48 + n / 10 % 10), UInt8.ofNat (48 + n % 10)]
theorem dig3_eq (n : Nat) (h : n < 1000) : Lib.decDigits n = dig3 n := by
  unfold dig3
  by_cases h1 : n < 10
  · rw [if_pos h1, Lib.decDigits, dif_pos h1]
  · rw [if_neg h1]
    by_cases h2 : n < 100
    · rw [if_pos h2, Lib.decDigits, dif_neg h1, Lib.decDigits, dif_pos (by omega)]; rfl
    · rw [if_neg h2, Lib.decDigits, dif_neg h1, Lib.decDigits, dif_neg (by omega), Lib.decDigits, dif_pos (by omega)]
      simp [Nat.div_div_eq_div_mul]
theorem dig3_num : ∀ n : Fin 401, numL (dig3 n) = some n.1 ∧ (dig3 n).all (· != 46) = true := by decide +kernel

theorem itoa_num (a : Int) (h0 : 0 ≤ a) (h1 : a ≤ 400) : numL (Lib.itoa a) = some a.toNat ∧ (46 : UInt8) ∉ Lib.itoa a := by
  have e : Lib.itoa a = dig3 a.toNat := by rw [Lib.itoa, if_neg (by omega), dig3_eq _ (by omega)]
  have := dig3_num ⟨a.toNat, by omega⟩
  rw [e]
  refine ⟨this.1, fun hm => ?_⟩
  have := List.all_eq_true.1 this.2 46 hm
  simp at this

theorem cutL_append (a b : List UInt8) (h : (46 : UInt8) ∉ a) : cutL (a ++ 46 :: b) = a :: cutL b := by
  induction a with
  | nil => simp [cutL]
  | cons c r ih =>
    have hc : c ≠ 46 := fun e => h (by simp [e])
    have := ih (fun hm => h (by simp [hm]))
    simp [cutL_other c _ hc, this, hd]
theorem cutL_plain (a : List UInt8) (h : (46 : UInt8) ∉ a) : cutL a = [a] := by
  induction a with
  | nil => simp [cutL]
  | cons c r ih =>
    have hc : c ≠ 46 := fun e => h (by simp [e])
    have := ih (fun hm => h (by simp [hm]))
    simp [cutL_other c _ hc, this, hd]
end Go.Proofs.YtcggmagdndhkbaaDoor
