import Derived.Test.YtehighgebbdenaaGreatDoorVp04
import Derived.Test.YtehighgebbdenaaGreatDoorVp06
section
namespace Go.Proofs.YtehighgebbdenaaGreatDoor
open Go
def cutP (p : UInt8) : List UInt8 → List (List UInt8)
  | [] => [[]]
  | c :: r => if c = p then [] :: cutP p r else hd [c] (cutP p r)
theorem cutP_other (p c : UInt8) (r : List UInt8) (h : c ≠ p) : cutP p (c :: r) = hd [c] (cutP p r) := by simp [cutP, h]
theorem cutP_append (p : UInt8) (a b : List UInt8) (h : p ∉ a) : cutP p (a ++ p :: b) = a :: cutP p b := by
  induction a with
  | nil => simp [cutP]
  | cons c r ih =>
    have hc : c ≠ p := fun e => h (by simp [e])
    have := ih (fun hm => h (by simp [hm]))
    simp [cutP_other p c _ hc, this, hd]
theorem cutP_plain (p : UInt8) (a : List UInt8) (h : p ∉ a) : cutP p a = [a] := by
  induction a with
  | nil => simp [cutP]
  | cons c r ih =>
    have hc : c ≠ p := fun e => h (by simp [e])
    have := ih (fun hm => h (by simp [hm]))
    simp [cutP_other p c _ hc, this, hd]
theorem digits_snoc (x : List UInt8) (c : UInt8) : ∀ a, digitsL a (x ++ [c]) = (digitsL a x).bind fun v => if c.toNat < 48 ∨ 57 < c.toNat then none else some (10 * v + (c.toNat - 48)) := by
  induction x with
  | nil => intro a; simp [digitsL]
  | cons d r ih =>
    intro a
    simp only [List.cons_append, digitsL]
    split
    · rfl
    · exact ih _
theorem digits_dec (n : Nat) : digitsL 0 (Lib.decDigits n) = some n := by
  induction n using Nat.strongRecOn with
  | _ n ih =>
    rw [Lib.decDigits]
    split
    · rename_i h
      have e : (UInt8.ofNat (48 + n)).toNat = 48 + n := by simp; omega
      simp only [digitsL]
      rw [e, if_neg (by omega)]
      simp
    · rename_i h
      have e : (UInt8.ofNat (48 + n % 10)).toNat = 48 + n % 10 := by simp; omega
      rw [digits_snoc, ih (n / 10) (by omega)]
      simp only [Option.bind_some]
      rw [e, if_neg (by omega)]
      congr 1
      omega
theorem dec_digit (n : Nat) : ∀ c ∈ Lib.decDigits n, 48 ≤ c.toNat ∧ c.toNat ≤ 57 := by
  induction n using Nat.strongRecOn with
  | _ n ih =>
    intro c hc
    rw [Lib.decDigits] at hc
    split at hc
    · have e : (UInt8.ofNat (48 + n)).toNat = 48 + n := by simp; omega
      rw [List.mem_singleton] at hc
      subst hc
      rw [e]; omega
    · have e : (UInt8.ofNat (48 + n % 10)).toNat = 48 + n % 10 := by simp; omega
      rcases List.mem_append.1 hc with h | h
      · exact ih (n / 10) (by omega) c h
      · rw [List.mem_singleton] at h
        subst h
        rw [e]; omega
theorem dec_ne (n : Nat) : Lib.decDigits n ≠ [] := by
  rw [Lib.decDigits]
  split <;> simp
theorem dec_head (n : Nat) (h : 10 ≤ n) : ((Lib.decDigits n).getD 0 0).toNat ≠ 48 := by
  induction n using Nat.strongRecOn with
  | _ n ih =>
    rw [Lib.decDigits, dif_neg (by omega)]
    have hne := dec_ne (n / 10)
    have e : (Lib.decDigits (n / 10) ++ [UInt8.ofNat (48 + n % 10)]).getD 0 0 = (Lib.decDigits (n / 10)).getD 0 0 := by
      cases hd : Lib.decDigits (n / 10) with
      | nil => exact absurd hd hne
      | cons c r => rfl
    rw [e]
    by_cases h2 : n / 10 < 10
    · rw [Lib.decDigits, dif_pos h2]
      have e : (UInt8.ofNat (48 + n / 10)).toNat = 48 + n / 10 := by simp; omega
      show (UInt8.ofNat (48 + n / 10)).toNat ≠ 48
      rw [e]; omega
    · exact ih (n / 10) (by omega) (by omega)
theorem dec_len (D : Nat) : ∀ n, n < 10 ^ (D + 1) → (Lib.decDigits n).length ≤ D + 1 := by
  induction D with
  | zero => intro n h; rw [Lib.decDigits, dif_pos (by omega)]; simp
  | succ D ih =>
    intro n h
    rw [Lib.decDigits]
    split
    · simp
    · have : n / 10 < 10 ^ (D + 1) := by rw [Nat.pow_succ] at h; omega
      have := ih _ this
      simp; omega
theorem numN_dec (D n : Nat) (h : n < 10 ^ (D + 1)) : numN (D + 1) (Lib.decDigits n) = some n := by
  unfold numN
  have h1 := List.length_pos_iff.2 (dec_ne n)
  have h2 := dec_len D n h
  rw [if_neg, digits_dec]
  rintro (h3 | h3 | ⟨h3, h4⟩)
  · omega
  · omega
  · by_cases h10 : 10 ≤ n
    · exact dec_head n h10 h3
    · rw [Lib.decDigits, dif_pos (by omega)] at h4
      simp at h4
theorem numN_itoa (D : Nat) (a : Int) (h0 : 0 ≤ a) (h : a.toNat < 10 ^ (D + 1)) : numN (D + 1) (Lib.itoa a) = some a.toNat := by
  rw [Lib.itoa, if_neg (by omega)]; exact numN_dec D _ h
theorem itoa_noP (a : Int) (p : UInt8) (hp : 57 < p.toNat) (h0 : 0 ≤ a) : p ∉ Lib.itoa a := by
  rw [Lib.itoa, if_neg (by omega)]
  intro hm
  have := dec_digit _ _ hm
  omega
def nameB (c : UInt8) : Bool := decide (97 ≤ c.toNat ∧ c.toNat ≤ 122 ∨ 48 ≤ c.toNat ∧ c.toNat ≤ 57 ∨ c.toNat = 45 ∨ c.toNat = 46)
def seenB (c : UInt8) : Bool := decide (32 ≤ c.toNat ∧ c.toNat ≤ 126)
def nameOk (l : List UInt8) : Bool := decide (1 ≤ l.length) && decide (l.length ≤ 12) && l.all nameB
def seenOk (l : List UInt8) : Bool := l.all seenB
def moveE (id node other : Int) (name value : List UInt8) : Nat := if node < 2 ∨ id < node ∨ other < 0 ∨ id ≤ other then 3 else if nameOk name = false then 4 else if value ≠ [] then 3 else 0
def insE (id node other : Int) (name value : List UInt8) : Nat := if node < 0 ∨ id ≤ node ∨ other < 0 ∨ id ≤ other then 3 else if name ≠ [] then 4 else if value.length ≠ 1 ∨ seenOk value = false then 3 else 0
def delE (id node other : Int) (name value : List UInt8) : Nat := if node < 0 ∨ id ≤ node ∨ other < 0 ∨ id ≤ other ∨ other = 0 then 3 else if name ≠ [] then 4 else if value ≠ [] then 3 else 0
def setE (id node other : Int) (name value : List UInt8) : Nat := if node < 0 ∨ id ≤ node ∨ other ≠ 0 then 3 else if nameOk name = false then 4 else if 12 < value.length ∨ seenOk value = false then 3 else 0
def kindE (id : Int) (k : Nat) (node other : Int) (name value : List UInt8) : Nat :=
  if k = 109 then moveE id node other name value else if k = 105 then insE id node other name value else if k = 100 then delE id node other name value else if k = 115 then setE id node other name value else 5
def opE (t b n : Int) (k : Nat) (node other : Int) (name value : List UInt8) : Nat :=
  if 1 ≤ t ∧ t ≤ 1073741824 ∧ 0 ≤ b ∧ b < 4 ∧ 1 ≤ n ∧ n ≤ 400 then kindE (t * 4 + b) k node other name value else 2
theorem opE_zero {t b n : Int} {k : Nat} {node other : Int} {name value : List UInt8} (h : opE t b n k node other name value = 0) :
    1 ≤ t ∧ t ≤ 1073741824 ∧ 0 ≤ b ∧ b < 4 ∧ 1 ≤ n ∧ n ≤ 400 ∧ (k = 109 ∨ k = 105 ∨ k = 100 ∨ k = 115) ∧ 0 ≤ node ∧ node ≤ t * 4 + b ∧ 0 ≤ other ∧ other ≤ t * 4 + b ∧ (124 : UInt8) ∉ name ∧ name.length ≤ 12 ∧ value.length ≤ 12 := by
  have nm : nameOk name = true → (124 : UInt8) ∉ name ∧ name.length ≤ 12 := fun hn => by
    unfold nameOk at hn
    simp only [Bool.and_eq_true, decide_eq_true_eq] at hn
    refine ⟨fun hm => ?_, hn.1.2⟩
    have := List.all_eq_true.1 hn.2 _ hm
    revert this; decide
  unfold opE at h
  split at h
  · rename_i hc
    obtain ⟨h1, h2, h3, h4, h5, h6⟩ := hc
    unfold kindE at h
    split at h
    · rename_i hk
      unfold moveE at h
      split at h
      · cases h
      · split at h
        · cases h
        · rename_i hn
          split at h
          · cases h
          · rename_i hv
            have hv : value = [] := Decidable.not_not.1 hv
            have := nm (by simpa using hn)
            exact ⟨h1, h2, h3, h4, h5, h6, .inl hk, by omega, by omega, by omega, by omega, this.1, this.2, by rw [hv]; simp⟩
    · split at h
      · rename_i hk
        unfold insE at h
        split at h
        · cases h
        · split at h
          · cases h
          · rename_i hn
            split at h
            · cases h
            · rename_i hv
              have hn : name = [] := Decidable.not_not.1 hn
              subst hn
              exact ⟨h1, h2, h3, h4, h5, h6, .inr (.inl hk), by omega, by omega, by omega, by omega, by simp, by simp, by omega⟩
      · split at h
        · rename_i hk
          unfold delE at h
          split at h
          · cases h
          · split at h
            · cases h
            · rename_i hn
              split at h
              · cases h
              · rename_i hv
                have hn : name = [] := Decidable.not_not.1 hn
                have hv : value = [] := Decidable.not_not.1 hv
                subst hn hv
                exact ⟨h1, h2, h3, h4, h5, h6, .inr (.inr (.inl hk)), by omega, by omega, by omega, by omega, by simp, by simp, by simp⟩
        · split at h
          · rename_i hk
            unfold setE at h
            split at h
            · cases h
            · split at h
              · cases h
              · rename_i hn
                split at h
                · cases h
                · have := nm (by simpa using hn)
                  exact ⟨h1, h2, h3, h4, h5, h6, .inr (.inr (.inr hk)), by omega, by omega, by omega, by omega, this.1, this.2, by omega⟩
          · cases h
  · cases h
abbrev Parts := UInt8 × Nat × Nat × Nat × Nat × Nat × List UInt8 × List UInt8
end Go.Proofs.YtehighgebbdenaaGreatDoor
end
section
namespace Go.Proofs.YtehighgebbdenaaGreatDoor
def errO (x : OpX) : Nat := opE x.1 x.2.1 x.2.2.1 x.2.2.2.1 x.2.2.2.2.1 x.2.2.2.2.2.1 x.2.2.2.2.2.2.1.data.toList x.2.2.2.2.2.2.2.data.toList
def keyO (x : OpX) : CKey := (x.2.2.2.2.1, x.2.2.2.2.2.2.1)
def cellO (x : OpX) : CMark := (x.2.2.2.2.2.2.2, (x.1, x.2.1))
def markO (x : OpX) : Option (CKey × CMark) := if errO x = 0 ∧ x.2.2.2.1 = 115 then some (keyO x, cellO x) else none
def marksO (xs : List OpX) : List (CKey × CMark) := xs.filterMap markO
theorem marksO_app (xs ys : List OpX) : marksO (xs ++ ys) = marksO xs ++ marksO ys := List.filterMap_append
def madeO (xs : List OpX) : CSta := foldC (marksO xs) noC
def stepO (f : CSta) (x : OpX) : CSta := if errO x = 0 ∧ x.2.2.2.1 = 115 then setC f (keyO x, cellO x) else f
theorem madeO_snoc (xs : List OpX) (x : OpX) : madeO (xs ++ [x]) = stepO (madeO xs) x := by
  unfold madeO stepO
  rw [marksO_app]
  by_cases h : errO x = 0 ∧ x.2.2.2.1 = 115
  · have e : marksO [x] = [(keyO x, cellO x)] := by simp [marksO, markO, h]
    rw [e, foldC_snoc, if_pos h]
  · have e : marksO [x] = [] := by simp [marksO, markO, h]
    rw [e, List.append_nil, if_neg h]
def OneO (xs : List OpX) : Prop := ∀ x ∈ xs, ∀ y ∈ xs, x.1 = y.1 → x.2.1 = y.2.1 → x = y
theorem markO_some {x : OpX} {m : CKey × CMark} (h : markO x = some m) : m = (keyO x, cellO x) := by
  unfold markO at h
  split at h
  · exact (Option.some.inj h).symm
  · cases h
theorem OneO.marks {xs : List OpX} (h : OneO xs) : OneC (marksO xs) := by
  intro k c d hc hd e
  obtain ⟨x, hx, ex⟩ := List.mem_filterMap.1 hc
  obtain ⟨y, hy, ey⟩ := List.mem_filterMap.1 hd
  have e1 := markO_some ex
  have e2 := markO_some ey
  have c1 : c = cellO x := (Prod.mk.inj e1).2
  have d1 : d = cellO y := (Prod.mk.inj e2).2
  subst c1
  subst d1
  have e3 : (x.1, x.2.1) = (y.1, y.2.1) := e
  rw [h x hx y hy (Prod.mk.inj e3).1 (Prod.mk.inj e3).2]
end Go.Proofs.YtehighgebbdenaaGreatDoor
end
section
namespace Go.Proofs.YtehighgebbdenaaGreatDoor
abbrev byO (x : OpX) : Int := x.2.1
abbrev numO (x : OpX) : Int := x.2.2.1
abbrev kdO (x : OpX) : Nat := x.2.2.2.1
abbrev nodeO (x : OpX) : Int := x.2.2.2.2.1
abbrev otherO (x : OpX) : Int := x.2.2.2.2.2.1
def idO (x : OpX) : Int := x.1 * 4 + x.2.1
def stO (x : OpX) : Int × Int := (x.1, x.2.1)
def KnownN (S : List OpX) (nd : Int) : Prop := ∃ x ∈ S, kdO x = 109 ∧ nodeO x = nd ∧ idO x = nd
def LetterN (S : List OpX) (nd id : Int) : Prop := ∃ x ∈ S, kdO x = 105 ∧ nodeO x = nd ∧ idO x = id
def RefOk (S : List OpX) (x : OpX) : Prop := ((kdO x = 109 ∧ idO x = nodeO x) ∨ KnownN S (nodeO x)) ∧ (kdO x = 109 → otherO x = 0 ∨ otherO x = 1 ∨ KnownN S (otherO x)) ∧ ((kdO x = 105 ∧ 0 < otherO x) ∨ kdO x = 100 → LetterN S (nodeO x) (otherO x))
theorem KnownN.mono {S T : List OpX} (h : ∀ x, x ∈ S → x ∈ T) {nd : Int} (k : KnownN S nd) : KnownN T nd := by
  obtain ⟨x, hx, k⟩ := k
  exact ⟨x, h x hx, k⟩
theorem LetterN.mono {S T : List OpX} (h : ∀ x, x ∈ S → x ∈ T) {nd id : Int} (k : LetterN S nd id) : LetterN T nd id := by
  obtain ⟨x, hx, k⟩ := k
  exact ⟨x, h x hx, k⟩
theorem RefOk.mono {S T : List OpX} (h : ∀ x, x ∈ S → x ∈ T) {x : OpX} (k : RefOk S x) : RefOk T x :=
  ⟨k.1.imp (fun e => e) (KnownN.mono h), fun e => (k.2.1 e).imp (fun e => e) (fun e => e.imp (fun e => e) (KnownN.mono h)), fun e => (k.2.2 e).mono h⟩
structure WellK (S : List OpX) : Prop where
  ok : ∀ x ∈ S, errO x = 0
  one : ∀ x ∈ S, ∀ y ∈ S, byO x = byO y → numO x = numO y → x = y
  gap : ∀ x ∈ S, numO x = 1 ∨ ∃ y ∈ S, byO y = byO x ∧ numO y + 1 = numO x
  rise : ∀ x ∈ S, ∀ y ∈ S, byO x = byO y → numO x + 1 = numO y → CLt (stO x) (stO y)
  refs : ∀ x ∈ S, RefOk S x
theorem wellK_nil : WellK [] := ⟨fun x h => by simp at h, fun x h => by simp at h, fun x h => by simp at h, fun x h => by simp at h, fun x h => by simp at h⟩
theorem WellK.congr {S T : List OpX} (h : WellK S) (e : ∀ x, x ∈ S ↔ x ∈ T) : WellK T :=
  ⟨fun x hx => h.ok x ((e x).2 hx), fun x hx y hy => h.one x ((e x).2 hx) y ((e y).2 hy), fun x hx => (h.gap x ((e x).2 hx)).imp (fun q => q) (fun ⟨y, hy, q⟩ => ⟨y, (e y).1 hy, q⟩), fun x hx y hy => h.rise x ((e x).2 hx) y ((e y).2 hy), fun x hx => (h.refs x ((e x).2 hx)).mono (fun y hy => (e y).1 hy)⟩
def Compat (S T : List OpX) : Prop := ∀ x ∈ S, ∀ y ∈ T, byO x = byO y → numO x = numO y → x = y
theorem Compat.symm {S T : List OpX} (h : Compat S T) : Compat T S := fun x hx y hy e1 e2 => (h y hy x hx e1.symm e2.symm).symm
theorem num_pos {x : OpX} (h : errO x = 0) : 1 ≤ numO x := (opE_zero h).2.2.2.2.1
theorem WellK.union {S T : List OpX} (hS : WellK S) (hT : WellK T) (hc : Compat S T) : WellK (S ++ T) := by
  have across : ∀ {A B : List OpX}, WellK A → WellK B → Compat A B → ∀ x ∈ A, ∀ y ∈ B, byO x = byO y → numO x + 1 = numO y → CLt (stO x) (stO y) := fun {A B} hA hB hAB x hx y hy e1 e2 => by
    rcases hB.gap y hy with q | ⟨z, hz, z1, z2⟩
    · have := num_pos (hA.ok x hx)
      omega
    · obtain rfl := hAB x hx z hz (by omega) (by omega)
      exact hB.rise x hz y hy e1 e2
  refine ⟨fun x hx => ?_, fun x hx y hy e1 e2 => ?_, fun x hx => ?_, fun x hx y hy e1 e2 => ?_, fun x hx => ?_⟩
  · rcases List.mem_append.1 hx with h | h
    · exact hS.ok x h
    · exact hT.ok x h
  · rcases List.mem_append.1 hx with h | h <;> rcases List.mem_append.1 hy with k | k
    · exact hS.one x h y k e1 e2
    · exact hc x h y k e1 e2
    · exact hc.symm x h y k e1 e2
    · exact hT.one x h y k e1 e2
  · rcases List.mem_append.1 hx with h | h
    · exact (hS.gap x h).imp (fun q => q) (fun ⟨y, hy, q⟩ => ⟨y, List.mem_append_left _ hy, q⟩)
    · exact (hT.gap x h).imp (fun q => q) (fun ⟨y, hy, q⟩ => ⟨y, List.mem_append_right _ hy, q⟩)
  · rcases List.mem_append.1 hx with h | h <;> rcases List.mem_append.1 hy with k | k
    · exact hS.rise x h y k e1 e2
    · exact across hS hT hc x h y k e1 e2
    · exact across hT hS hc.symm x h y k e1 e2
    · exact hT.rise x h y k e1 e2
  · rcases List.mem_append.1 hx with h | h
    · exact (hS.refs x h).mono (fun y hy => List.mem_append_left _ hy)
    · exact (hT.refs x h).mono (fun y hy => List.mem_append_right _ hy)
theorem WellK.down {S : List OpX} (h : WellK S) {x : OpX} (hx : x ∈ S) : ∀ (d : Nat) (m : Int), 1 ≤ m → m + d = numO x → ∃ y ∈ S, byO y = byO x ∧ numO y = m
  | 0, m, _, e => ⟨x, hx, rfl, by omega⟩
  | d + 1, m, h1, e => by
    obtain ⟨y, hy, b1, b2⟩ := h.down hx d (m + 1) (by omega) (by omega)
    rcases h.gap y hy with q | ⟨z, hz, z1, z2⟩
    · omega
    · exact ⟨z, hz, by omega, by omega⟩
theorem WellK.less {S : List OpX} (h : WellK S) {x : OpX} (hx : x ∈ S) : ∀ (d : Nat) {y : OpX}, y ∈ S → byO x = byO y → numO x + (d + 1) = numO y → CLt (stO x) (stO y)
  | 0, y, hy, e1, e2 => h.rise x hx y hy e1 (by omega)
  | d + 1, y, hy, e1, e2 => by
    rcases h.gap y hy with q | ⟨z, hz, z1, z2⟩
    · have := num_pos (h.ok x hx)
      omega
    · exact clt_trans (h.less hx d hz (by omega) (by omega)) (h.rise z hz y hy z1 z2)
theorem WellK.stamp {S : List OpX} (h : WellK S) {x y : OpX} (hx : x ∈ S) (hy : y ∈ S) (e : stO x = stO y) : x = y := by
  have e1 : byO x = byO y := (Prod.mk.inj e).2
  rcases Int.lt_trichotomy (numO x) (numO y) with q | q | q
  · have := h.less hx (numO y - numO x - 1).toNat hy e1 (by omega)
    rw [e] at this
    exact absurd this clt_irrefl
  · exact h.one x hx y hy e1 q
  · have := h.less hy (numO x - numO y - 1).toNat hx e1.symm (by omega)
    rw [e] at this
    exact absurd this clt_irrefl
theorem WellK.add {S : List OpX} (h : WellK S) {x : OpX} (hok : errO x = 0) (hn : numO x = 1 ∨ ∃ y ∈ S, byO y = byO x ∧ numO y + 1 = numO x) (hnew : ∀ y ∈ S, byO y = byO x → numO y < numO x) (hst : ∀ y ∈ S, CLt (stO y) (stO x)) (hr : RefOk (x :: S) x) : WellK (x :: S) := by
  have sub : ∀ y, y ∈ S → y ∈ x :: S := fun y hy => List.mem_cons_of_mem _ hy
  refine ⟨fun y hy => ?_, fun y hy z hz e1 e2 => ?_, fun y hy => ?_, fun y hy z hz e1 e2 => ?_, fun y hy => ?_⟩
  · rcases List.mem_cons.1 hy with rfl | hy
    · exact hok
    · exact h.ok y hy
  · rcases List.mem_cons.1 hy with e | ky <;> rcases List.mem_cons.1 hz with e' | kz
    · rw [e, e']
    · rw [e] at e1 e2
      have := hnew z kz e1.symm
      omega
    · rw [e'] at e1 e2
      have := hnew y ky e1
      omega
    · exact h.one y ky z kz e1 e2
  · rcases List.mem_cons.1 hy with e | hy
    · subst e
      exact hn.imp (fun q => q) (fun ⟨z, hz, q⟩ => ⟨z, sub z hz, q⟩)
    · exact (h.gap y hy).imp (fun q => q) (fun ⟨z, hz, q⟩ => ⟨z, sub z hz, q⟩)
  · rcases List.mem_cons.1 hy with e | ky <;> rcases List.mem_cons.1 hz with e' | kz
    · rw [e, e'] at e2
      omega
    · rw [e] at e1 e2
      have := hnew z kz e1.symm
      omega
    · rw [e']
      exact hst y ky
    · exact h.rise y ky z kz e1 e2
  · rcases List.mem_cons.1 hy with e | hy
    · rw [e]; exact hr
    · exact (h.refs y hy).mono sub
structure FolkK (n : Nat) (K : Nat → List OpX) : Prop where
  well : ∀ r, r < n → WellK (K r)
  compat : ∀ r, r < n → ∀ s, s < n → Compat (K r) (K s)
  own : ∀ r, r < n → ∀ s, s < n → ∀ x ∈ K r, byO x = (s : Int) → x ∈ K s
theorem folk_start (n : Nat) : FolkK n (fun _ => []) := ⟨fun _ _ => wellK_nil, fun _ _ _ _ x hx => by simp at hx, fun _ _ _ _ x hx => by simp at hx⟩
theorem FolkK.join {n : Nat} {K : Nat → List OpX} (h : FolkK n K) {a b : Nat} (ha : a < n) (hb : b < n) {J : List OpX} (hJ : ∀ x, x ∈ J ↔ x ∈ K a ∨ x ∈ K b) : FolkK n (fun r => if r = a then J else K r) := by
  have hw : WellK J := ((h.well a ha).union (h.well b hb) (h.compat a ha b hb)).congr (fun x => by rw [hJ, List.mem_append])
  have hin : ∀ r, r < n → ∀ x ∈ (if r = a then J else K r), ∃ q, q < n ∧ x ∈ K q := fun r hr x hx => by
    split at hx
    · rcases (hJ x).1 hx with e | e
      · exact ⟨a, ha, e⟩
      · exact ⟨b, hb, e⟩
    · exact ⟨r, hr, hx⟩
  refine ⟨fun r hr => ?_, fun r hr s hs x hx y hy e1 e2 => ?_, fun r hr s hs x hx e => ?_⟩
  · split
    · exact hw
    · exact h.well r hr
  · obtain ⟨q, hq, hx⟩ := hin r hr x hx
    obtain ⟨q', hq', hy⟩ := hin s hs y hy
    exact h.compat q hq q' hq' x hx y hy e1 e2
  · obtain ⟨q, hq, hx⟩ := hin r hr x hx
    have := h.own q hq s hs x hx e
    split
    · rename_i es
      subst es
      exact (hJ x).2 (.inl this)
    · exact this
theorem FolkK.make {n : Nat} {K : Nat → List OpX} (h : FolkK n K) {a : Nat} (ha : a < n) {x : OpX} (hx : byO x = (a : Int)) {J : List OpX} (hJ : ∀ y, y ∈ J ↔ y = x ∨ y ∈ K a) (hw : WellK (x :: K a)) (hnew : ∀ y ∈ K a, byO y = byO x → numO y < numO x) : FolkK n (fun r => if r = a then J else K r) := by
  have hwJ : WellK J := hw.congr (fun y => by rw [hJ, List.mem_cons])
  have fresh : ∀ r, r < n → ∀ y ∈ K r, byO y = byO x → numO y < numO x := fun r hr y hy e => hnew y (h.own r hr a ha y hy (by omega)) e
  have hin : ∀ r, r < n → ∀ y ∈ (if r = a then J else K r), y = x ∨ ∃ q, q < n ∧ y ∈ K q := fun r hr y hy => by
    split at hy
    · rcases (hJ y).1 hy with e | e
      · exact .inl e
      · exact .inr ⟨a, ha, e⟩
    · exact .inr ⟨r, hr, hy⟩
  refine ⟨fun r hr => ?_, fun r hr s hs y hy z hz e1 e2 => ?_, fun r hr s hs y hy e => ?_⟩
  · split
    · exact hwJ
    · exact h.well r hr
  · rcases hin r hr y hy with e | ⟨q, hq, hy⟩ <;> rcases hin s hs z hz with e' | ⟨q', hq', hz⟩
    · rw [e, e']
    · subst e
      have := fresh q' hq' z hz e1.symm
      omega
    · subst e'
      have := fresh q hq y hy e1
      omega
    · exact h.compat q hq q' hq' y hy z hz e1 e2
  · rcases hin r hr y hy with e' | ⟨q, hq, hy⟩
    · subst e'
      have : s = a := by omega
      subst this
      rw [if_pos rfl]
      exact (hJ y).2 (.inl rfl)
    · have := h.own q hq s hs y hy e
      split
      · rename_i es
        subst es
        exact (hJ y).2 (.inr this)
      · exact this
end Go.Proofs.YtehighgebbdenaaGreatDoor
end
