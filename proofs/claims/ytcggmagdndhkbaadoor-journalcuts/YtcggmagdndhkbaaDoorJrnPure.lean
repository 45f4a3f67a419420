/- Plain facts, of no program: records of a journal: their sums, how they are read. -/
import Derived.Test.YtcggmagdndhkbaaDoorOpPure
import Derived.Test.YtcggmagdndhkbaaDoorOpRow
import Derived.Lib.ItoaLen
set_option linter.unusedVariables false
namespace Go.Proofs.YtcggmagdndhkbaaDoor

/-- An operation's error, by its number. -/
def errJ (x : OpX) : Nat := opE x.1 x.2.1 x.2.2.1 x.2.2.2.1 x.2.2.2.2.1 x.2.2.2.2.2.1 x.2.2.2.2.2.2.1.data.toList x.2.2.2.2.2.2.2.data.toList
/-- One bit of the division. -/
def div1 (c : Nat) : Nat := if c % 2 = 1 then (c / 2) ^^^ 3988292384 else c / 2
def divN : Nat → Nat → Nat
  | 0, c => c
  | n + 1, c => divN n (div1 c)
theorem divN_succ : ∀ (n c : Nat), divN (n + 1) c = div1 (divN n c)
  | 0, c => rfl
  | n + 1, c => by
    show divN (n + 1) (div1 c) = _
    rw [divN_succ n (div1 c)]
    rfl
def crcL (c : Nat) : List UInt8 → Nat
  | [] => c
  | b :: l => crcL (divN 8 (c ^^^ b.toNat)) l
/-- The sum of a text. -/
def crcOf (l : List UInt8) : Nat := 4294967295 - crcL 4294967295 l
theorem div1_lt {c : Nat} (h : c < 4294967296) : div1 c < 4294967296 := by
  unfold div1
  split
  · exact Nat.xor_lt_two_pow (n := 32) (by omega) (by omega)
  · omega
theorem divN_lt : ∀ (n : Nat) {c : Nat}, c < 4294967296 → divN n c < 4294967296
  | 0, _, h => h
  | n + 1, _, h => divN_lt n (div1_lt h)
theorem xor_byte {c : Nat} (h : c < 4294967296) (b : UInt8) : c ^^^ b.toNat < 4294967296 := Nat.xor_lt_two_pow (n := 32) (by omega) (by have := b.toNat_lt; omega)
theorem crcL_lt : ∀ (l : List UInt8) {c : Nat}, c < 4294967296 → crcL c l < 4294967296
  | [], _, h => h
  | b :: l, _, h => crcL_lt l (divN_lt 8 (xor_byte h b))
theorem crcL_snoc : ∀ (l : List UInt8) (c : Nat) (b : UInt8), crcL c (l ++ [b]) = divN 8 (crcL c l ^^^ b.toNat)
  | [], c, b => rfl
  | a :: l, c, b => crcL_snoc l _ b
theorem crcOf_lt (l : List UInt8) : crcOf l < 4294967296 := by unfold crcOf; omega

theorem xor_all {v : Nat} (h : v < 4294967296) : 4294967295 ^^^ v = 4294967295 - v := by
  have h1 : (BitVec.allOnes 32 ^^^ BitVec.ofNat 32 v).toNat = (~~~ BitVec.ofNat 32 v).toNat := by rw [BitVec.allOnes_xor]
  rw [BitVec.toNat_xor, BitVec.toNat_not, BitVec.toNat_allOnes, BitVec.toNat_ofNat, Nat.mod_eq_of_lt (by omega)] at h1
  simpa using h1
/-- So many digits. -/
def digs : Nat → Nat → List UInt8
  | 0, _ => []
  | n + 1, v => digs n (v / 16) ++ [hexd (v % 16)]
theorem digs_len : ∀ n v, (digs n v).length = n
  | 0, _ => rfl
  | n + 1, v => by simp [digs, digs_len n]
theorem digs_zero : ∀ n, digs n 0 = List.replicate n 48
  | 0 => rfl
  | n + 1 => by
    rw [List.replicate_succ']
    show digs n (0 / 16) ++ [hexd (0 % 16)] = _
    rw [show 0 / 16 = 0 from rfl, digs_zero n]
    rfl
/-- Digits without zeros ahead: so many are wanted. -/
def hexN (k v : Nat) : Prop := (v < 16 ^ k ∧ 1 ≤ k) ∧ (k = 1 ∨ 16 ^ (k - 1) ≤ v)
theorem digs_pad : ∀ (m k v : Nat), v < 16 ^ k → digs (m + k) v = List.replicate m 48 ++ digs k v
  | m, 0, v, h => by
    have : v = 0 := by simpa using h
    subst this
    rw [Nat.add_zero, digs_zero]
    simp [digs]
  | m, k + 1, v, h => by
    show digs (m + k) (v / 16) ++ [hexd (v % 16)] = List.replicate m 48 ++ (digs k (v / 16) ++ [hexd (v % 16)])
    rw [digs_pad m k (v / 16) (by rw [Nat.pow_succ] at h; omega), List.append_assoc]
theorem hexd_ge : ∀ n : Fin 16, 45 ≤ (hexd n).toNat := by decide +kernel
theorem digs_ge : ∀ n v, ∀ c ∈ digs n v, 45 ≤ c.toNat
  | 0, _, c, h => by simp [digs] at h
  | n + 1, v, c, h => by
    rcases List.mem_append.1 h with q | q
    · exact digs_ge n _ c q
    · rw [List.mem_singleton.1 q]
      exact hexd_ge ⟨v % 16, by omega⟩

/-- A record. -/
def recL (t : List UInt8) : List UInt8 := t ++ 35 :: (digs 8 (crcOf t) ++ [10])
theorem recL_len (t : List UInt8) : (recL t).length = t.length + 10 := by
  unfold recL
  simp [digs_len]
def textO (x : OpX) : List UInt8 := opTextL x.1 x.2.1 x.2.2.1 x.2.2.2.1 x.2.2.2.2.1 x.2.2.2.2.2.1 x.2.2.2.2.2.2.1.data.toList x.2.2.2.2.2.2.2.data.toList
/-- What a text is read as. -/
def readO (l : List UInt8) : Option OpX := match partsL l with
  | none => none
  | some (c, n1, n2, n3, n4, n5, nm, v) => if opE n1 n2 n3 c.toNat n4 n5 nm v = 0 then some ((n1 : Int), (n2 : Int), (n3 : Int), c.toNat, (n4 : Int), (n5 : Int), ⟨nm.toArray⟩, ⟨v.toArray⟩) else none
theorem readO_text {x : OpX} (h : errJ x = 0) : readO (textO x) = some x := by
  obtain ⟨t, b, n, k, nd, o, s, v⟩ := x
  have h' : opE t b n k nd o s.data.toList v.data.toList = 0 := h
  have hp := parts_text h'
  obtain ⟨h1, h2, h3, h4, h5, h6, hk, h7, h8, h9, h10, -⟩ := opE_zero h'
  have e1 : ((t.toNat : Nat) : Int) = t := by omega
  have e2 : ((b.toNat : Nat) : Int) = b := by omega
  have e3 : ((n.toNat : Nat) : Int) = n := by omega
  have e4 : ((nd.toNat : Nat) : Int) = nd := by omega
  have e5 : ((o.toNat : Nat) : Int) = o := by omega
  have ek : (UInt8.ofNat k).toNat = k := by rcases hk with rfl | rfl | rfl | rfl <;> rfl
  unfold readO textO
  dsimp only
  rw [hp]
  dsimp only
  rw [e1, e2, e3, e4, e5, ek, if_pos h']
theorem text_readO {l : List UInt8} {x : OpX} (h : readO l = some x) : textO x = l ∧ errJ x = 0 := by
  unfold readO at h
  split at h
  · cases h
  · rename_i c n1 n2 n3 n4 n5 nm v hp
    split at h
    · rename_i he
      cases h
      exact ⟨text_parts hp, he⟩
    · cases h
theorem opE_name {t b n : Int} {k : Nat} {node other : Int} {name value : List UInt8} (h : opE t b n k node other name value = 0) : name = [] ∨ nameOk name = true := by
  by_cases hn : nameOk name = true
  · exact .inr hn
  · by_cases he : name = []
    · exact .inl he
    · exfalso
      have hn' : nameOk name = false := by simpa using hn
      have h4 : (if nameOk name = false then 4 else if value ≠ [] then 3 else 0) = 4 := if_pos hn'
      unfold opE kindE moveE insE delE setE at h
      rw [if_pos hn', if_pos he, if_pos he, if_pos hn'] at h
      repeat' (split at h)
      all_goals cases h
theorem name_ge {t b n : Int} {k : Nat} {node other : Int} {name value : List UInt8} (h : opE t b n k node other name value = 0) : ∀ c ∈ name, 45 ≤ c.toNat := fun c hc => by
  rcases opE_name h with rfl | hn
  · simp at hc
  · unfold nameOk at hn
    simp only [Bool.and_eq_true, decide_eq_true_eq] at hn
    have := List.all_eq_true.1 hn.2 _ hc
    unfold nameB at this
    simp only [decide_eq_true_eq] at this
    omega
theorem itoa_ge (a : Int) (h0 : 0 ≤ a) : ∀ c ∈ Lib.itoa a, 45 ≤ c.toNat := fun c hc => by
  rw [Lib.itoa, if_neg (by omega)] at hc
  have := dec_digit _ _ hc
  omega
theorem hexL_ge : ∀ (l : List UInt8), ∀ c ∈ hexL l, 45 ≤ c.toNat
  | [], c, h => by simp [hexL] at h
  | a :: r, c, h => by
    have ha := a.toNat_lt
    simp only [hexL, List.mem_cons] at h
    rcases h with rfl | rfl | h
    · exact hexd_ge ⟨a.toNat / 16, by omega⟩
    · exact hexd_ge ⟨a.toNat % 16, by omega⟩
    · exact hexL_ge r c h
theorem joinP_ge : ∀ (x : List (List UInt8)), (∀ l ∈ x, ∀ c ∈ l, 45 ≤ c.toNat) → ∀ c ∈ joinP 124 x, 45 ≤ c.toNat
  | [], _, c, h => by simp [joinP] at h
  | [a], hx, c, h => by
    simp only [joinP] at h
    exact hx a (by simp) c h
  | a :: b :: r, hx, c, h => by
    simp only [joinP] at h
    rcases List.mem_append.1 h with q | q
    · exact hx a (by simp) c q
    · rcases List.mem_cons.1 q with rfl | q
      · decide
      · exact joinP_ge (b :: r) (fun l hl => hx l (List.mem_cons_of_mem _ hl)) c q
theorem text_ge {x : OpX} (h : errJ x = 0) : ∀ c ∈ textO x, 45 ≤ c.toNat := by
  obtain ⟨t, b, n, k, nd, o, s, v⟩ := x
  have h' : opE t b n k nd o s.data.toList v.data.toList = 0 := h
  obtain ⟨h1, h2, h3, h4, h5, h6, hk, h7, h8, h9, h10, -⟩ := opE_zero h'
  unfold textO opTextL
  dsimp only
  refine joinP_ge _ (fun l hl => ?_)
  simp only [List.mem_cons, List.not_mem_nil, or_false] at hl
  rcases hl with rfl | rfl | rfl | rfl | rfl | rfl | rfl | rfl
  · intro c hc
    rw [List.mem_singleton.1 hc]
    rcases hk with rfl | rfl | rfl | rfl <;> decide
  · exact itoa_ge _ (by omega)
  · exact itoa_ge _ (by omega)
  · exact itoa_ge _ (by omega)
  · exact itoa_ge _ (by omega)
  · exact itoa_ge _ (by omega)
  · exact name_ge h'
  · exact hexL_ge _
theorem textO_len {x : OpX} (h : errJ x = 0) : (textO x).length ≤ 1000 := by
  obtain ⟨t, b, n, k, nd, o, s, v⟩ := x
  have h' : opE t b n k nd o s.data.toList v.data.toList = 0 := h
  obtain ⟨h1, h2, h3, h4, h5, h6, hk, h7, h8, h9, h10, -, hn, hv⟩ := opE_zero h'
  have e1 := Lib.itoa_length_le t (by omega) (by omega)
  have e2 := Lib.itoa_length_le b (by omega) (by omega)
  have e3 := Lib.itoa_length_le n (by omega) (by omega)
  have e4 := Lib.itoa_length_le nd (by omega) (by omega)
  have e5 := Lib.itoa_length_le o (by omega) (by omega)
  have e6 := hexL_length v.data.toList
  unfold textO opTextL
  simp only [joinP, List.length_append, List.length_cons, List.length_nil]
  omega
/-- What stands ahead of the first sign. -/
def ahead : List UInt8 → List UInt8
  | [] => []
  | c :: l => if c = 35 then [] else c :: ahead l
theorem ahead_text : ∀ {t : List UInt8} (r : List UInt8), (∀ c ∈ t, 45 ≤ c.toNat) → ahead (t ++ 35 :: r) = t
  | [], r, _ => rfl
  | c :: t, r, h => by
    have hc : c ≠ 35 := fun e => by have := h c (by simp); rw [e] at this; revert this; decide
    show (if c = 35 then [] else c :: ahead (t ++ 35 :: r)) = c :: t
    rw [if_neg hc, ahead_text r (fun d hd => h d (by simp [hd]))]
theorem ahead_none : ∀ {l : List UInt8}, (35 : UInt8) ∉ l → ahead l = l
  | [], _ => rfl
  | c :: l, h => by
    have hc : c ≠ 35 := fun e => h (by simp [e])
    show (if c = 35 then [] else c :: ahead l) = c :: l
    rw [if_neg hc, ahead_none (fun q => h (by simp [q]))]
theorem ahead_no : ∀ (l : List UInt8), (35 : UInt8) ∉ ahead l
  | [] => by simp [ahead]
  | c :: l => by
    unfold ahead
    split
    · simp
    · rename_i hc
      intro q
      rcases List.mem_cons.1 q with e | q
      · exact hc e.symm
      · exact ahead_no l q
theorem ahead_len : ∀ (l : List UInt8), (ahead l).length ≤ l.length
  | [] => Nat.le_refl _
  | c :: l => by
    unfold ahead
    split
    · simp
    · have := ahead_len l
      simp; omega
/-- A record at the beginning: an operation, and how many bytes. -/
def readR (b : List UInt8) : Option (OpX × Nat) := match readO (ahead b) with
  | none => none
  | some x => if recL (ahead b) <+: b then some (x, (recL (ahead b)).length) else none
theorem readR_rec {x : OpX} (h : errJ x = 0) (r : List UInt8) : readR (recL (textO x) ++ r) = some (x, (recL (textO x)).length) := by
  have ha : ahead (recL (textO x) ++ r) = textO x := by
    unfold recL
    rw [List.append_assoc]
    exact ahead_text _ (text_ge h)
  unfold readR
  rw [ha, readO_text h]
  dsimp only
  rw [if_pos ⟨r, rfl⟩]
theorem readR_some {b : List UInt8} {x : OpX} {n : Nat} (h : readR b = some (x, n)) : errJ x = 0 ∧ n = (recL (textO x)).length ∧ ∃ r, b = recL (textO x) ++ r := by
  unfold readR at h
  split at h
  · cases h
  · rename_i y hy
    obtain ⟨h1, h2⟩ := text_readO hy
    split at h
    · rename_i hp
      cases h
      obtain ⟨r, hr⟩ := hp
      rw [← h1] at hr
      exact ⟨h2, by rw [h1], r, hr.symm⟩
    · cases h
/-- A record that is cut short is none. -/
theorem readR_cut {x : OpX} (h : errJ x = 0) {n : Nat} (hn : n < (recL (textO x)).length) : readR ((recL (textO x)).take n) = none := by
  unfold readR
  split
  · rfl
  · rename_i y hy
    rw [if_neg]
    rintro ⟨r, hr⟩
    have hl := congrArg List.length hr
    rw [List.length_append, List.length_take, recL_len] at hl
    by_cases hq : n ≤ (textO x).length
    · have e : (recL (textO x)).take n = (textO x).take n := by
        unfold recL
        rw [List.take_append_of_le_length hq]
      have h35 : (35 : UInt8) ∉ (recL (textO x)).take n := by
        rw [e]
        intro q
        have := text_ge h 35 (List.mem_of_mem_take q)
        revert this; decide
      rw [ahead_none h35] at hl
      rw [List.length_take] at hl
      omega
    · have ha : ahead ((recL (textO x)).take n) = textO x := by
        obtain ⟨m, rfl⟩ : ∃ m, n = (textO x).length + (m + 1) := ⟨n - (textO x).length - 1, by omega⟩
        unfold recL
        rw [List.take_length_add_append, List.take_succ_cons]
        exact ahead_text _ (text_ge h)
      rw [ha] at hl
      have := recL_len (textO x)
      omega
theorem readR_nil : readR [] = none := by
  have : readO [] = none := by rfl
  unfold readR
  rw [show ahead [] = [] from rfl, this]

/-- Records from the beginning: at most so many. -/
def readN : Nat → List UInt8 → List OpX × Nat
  | 0, _ => ([], 0)
  | k + 1, b => match readR b with
    | none => ([], 0)
    | some (x, n) => (x :: (readN k (b.drop n)).1, n + (readN k (b.drop n)).2)
def readL_ (b : List UInt8) : List OpX × Nat := readN b.length b
theorem readR_pos {b : List UInt8} {x : OpX} {n : Nat} (h : readR b = some (x, n)) : 10 ≤ n ∧ n ≤ b.length := by
  obtain ⟨_, h2, r, h3⟩ := readR_some h
  rw [recL_len] at h2
  have := congrArg List.length h3
  rw [List.length_append, recL_len] at this
  omega
theorem readN_more : ∀ (k m : Nat) (b : List UInt8), b.length ≤ k → b.length ≤ m → readN k b = readN m b
  | 0, 0, b, _, _ => rfl
  | 0, m + 1, b, h, _ => by
    have : b = [] := List.length_eq_zero_iff.1 (by omega)
    subst this
    simp only [readN, readR_nil]
  | k + 1, 0, b, _, h => by
    have : b = [] := List.length_eq_zero_iff.1 (by omega)
    subst this
    simp only [readN, readR_nil]
  | k + 1, m + 1, b, h1, h2 => by
    cases hr : readR b with
    | none => simp only [readN, hr]
    | some p =>
      obtain ⟨x, n⟩ := p
      have := readR_pos hr
      simp only [readN, hr]
      rw [readN_more k m (b.drop n) (by rw [List.length_drop]; omega) (by rw [List.length_drop]; omega)]
theorem readA_none {b : List UInt8} (h : readR b = none) : readL_ b = ([], 0) := by
  unfold readL_
  cases hb : b.length with
  | zero => rfl
  | succ k => simp only [readN, h]
theorem readA_some {b : List UInt8} {x : OpX} {n : Nat} (h : readR b = some (x, n)) : readL_ b = (x :: (readL_ (b.drop n)).1, n + (readL_ (b.drop n)).2) := by
  have hp := readR_pos h
  unfold readL_
  cases hb : b.length with
  | zero => omega
  | succ k =>
    simp only [readN, h]
    rw [readN_more k (b.drop n).length (b.drop n) (by rw [List.length_drop]; omega) (Nat.le_refl _)]
/-- The records of some operations. -/
def recsL : List OpX → List UInt8
  | [] => []
  | x :: l => recL (textO x) ++ recsL l
theorem recsL_append : ∀ (a b : List OpX), recsL (a ++ b) = recsL a ++ recsL b
  | [], b => rfl
  | x :: a, b => by
    show recL (textO x) ++ recsL (a ++ b) = _
    rw [recsL_append a b, ← List.append_assoc]
    rfl
/-- What is read of records, and of something behind them that is none. -/
theorem readA_recs : ∀ (l : List OpX) (r : List UInt8), (∀ x ∈ l, errJ x = 0) → readR r = none → readL_ (recsL l ++ r) = (l, (recsL l).length)
  | [], r, _, h => by
    show readL_ r = ([], 0)
    exact readA_none h
  | x :: l, r, hl, h => by
    have e : recsL (x :: l) ++ r = recL (textO x) ++ (recsL l ++ r) := by
      show recL (textO x) ++ recsL l ++ r = _
      rw [List.append_assoc]
    rw [e, readA_some (readR_rec (hl x (by simp)) _), List.drop_left, readA_recs l r (fun y hy => hl y (by simp [hy])) h]
    show (x :: l, (recL (textO x)).length + (recsL l).length) = (x :: l, (recL (textO x) ++ recsL l).length)
    rw [List.length_append]
/-- .. and all that is read is so. -/
theorem readA_is : ∀ (k : Nat) (b : List UInt8), b.length ≤ k → ∃ r, b = recsL (readL_ b).1 ++ r ∧ readR r = none ∧ (readL_ b).2 = (recsL (readL_ b).1).length ∧ ∀ x ∈ (readL_ b).1, errJ x = 0
  | k, b, hk => by
    cases hr : readR b with
    | none =>
      rw [readA_none hr]
      exact ⟨b, rfl, hr, rfl, fun x hx => by simp at hx⟩
    | some p =>
      obtain ⟨x, n⟩ := p
      have hp := readR_pos hr
      obtain ⟨h1, h2, r, h3⟩ := readR_some hr
      rw [readA_some hr]
      have hd : b.drop n = r := by rw [h3, h2, List.drop_left]
      match k, hk with
      | 0, hk => omega
      | k + 1, hk =>
        obtain ⟨r', q1, q2, q3, q4⟩ := readA_is k (b.drop n) (by rw [List.length_drop]; omega)
        refine ⟨r', ?_, q2, ?_, fun y hy => ?_⟩
        · show b = recL (textO x) ++ recsL (readL_ (b.drop n)).1 ++ r'
          rw [List.append_assoc, ← q1, hd]
          exact h3
        · show n + _ = (recL (textO x) ++ recsL (readL_ (b.drop n)).1).length
          rw [List.length_append, q3, h2]
        · rcases List.mem_cons.1 hy with rfl | hy
          · exact h1
          · exact q4 y hy
end Go.Proofs.YtcggmagdndhkbaaDoor
