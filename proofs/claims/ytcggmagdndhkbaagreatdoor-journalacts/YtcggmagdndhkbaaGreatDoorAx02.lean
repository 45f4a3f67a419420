import Derived.Test.YtcggmagdndhkbaaGreatDoorAx01
import Derived.Sort.Grow
import Derived.Deep.LoopGhost
import Derived.Lib.Hide
import Derived.Lib.AppendIntMem
import Derived.Laws.OwnMore
import Derived.Lib.ItoaLen
import Derived.Test.YtcggmagdndhkbaaGreatDoorProg
import Derived.WalkKit
import Derived.WalkSpells
import Derived.Below
import Derived.LoopN
import Derived.LoopTactic
section
namespace Go.Proofs.YtcggmagdndhkbaaGreatDoor
open Go.RowKit
set_option maxHeartbeats 400000 in
theorem id_ok (t b : Int) (w : World) (h1 : 1 ≤ t) (h2 : t ≤ 1073741824) (h3 : 0 ≤ b) (h4 : b < 4) :
    Calls Tryz.prog 170 #[.agg #[.int .i64 t, .int .i64 b]] w fun e w' => e = .returned (.tuple #[.int .i64 (t * 4 + b), .nilIface]) ∧ Below w.heap.size w w' := by
  go_enter Tryz.func170, Tryz.ntmps170
  go_wp2_with (go_at_call 219; refine (check_ok _ _ _ h1 h2 h3 h4).mono ?_; rintro e w1 ⟨rfl, hb⟩; obtain ⟨hc, hf⟩ := bcell hb)
  go_ret2
  exact ⟨rfl, ((Below.refl _ _).alloc (Nat.le_refl _) _).trans (hb.mono (by simp))⟩
set_option maxHeartbeats 400000 in
theorem id_no (t b : Int) (w : World) (u : TypeId) (x : Value) (hg : w.cell? ⟨2, 0, none⟩ = some (.iface u x)) (hz : 2 < w.heap.size) (h : ¬ (1 ≤ t ∧ t ≤ 1073741824 ∧ 0 ≤ b ∧ b < 4)) :
    Calls Tryz.prog 170 #[.agg #[.int .i64 t, .int .i64 b]] w fun e w' => e = .returned (.tuple #[.int .i64 0, .iface u x]) ∧ Below w.heap.size w w' := by
  have H : Hid (¬ (1 ≤ t ∧ t ≤ 1073741824 ∧ 0 ≤ b ∧ b < 4)) := h
  clear h
  go_enter Tryz.func170, Tryz.ntmps170
  go_wp2_with fail
  refine (check_no t b _ (.iface u x) (by rw [World.cell?_alloc_lt _ _ _ hz]; exact hg) (by simp <;> omega) H.out).mono ?_
  rintro e w1 ⟨rfl, hb⟩
  obtain ⟨hc, hf⟩ := bcell hb
  go_wp2
  go_ret2
  exact ⟨rfl, ((Below.refl _ _).alloc (Nat.le_refl _) _).trans (hb.mono (by simp))⟩
end Go.Proofs.YtcggmagdndhkbaaGreatDoor
end
section
namespace Go.Proofs.YtcggmagdndhkbaaGreatDoor
open Go.RowKit Go.Lib Go.Sort
abbrev OpX := Int × Int × Int × Nat × Int × Int × ByteArray × ByteArray
def encX (x : OpX) : List Value := [.int .i64 x.1, .int .i64 x.2.1, .int .i64 x.2.2.1, .int .u8 (x.2.2.2.1 : Int), .int .i64 x.2.2.2.2.1, .int .i64 x.2.2.2.2.2.1, .string x.2.2.2.2.2.2.1, .string x.2.2.2.2.2.2.2]
theorem cellKept {w w' : World} {b o : Nat} {v : Value} (hb : Below w.heap.size w w') (h : w.cell? ⟨b, o, none⟩ = some v) : w'.cell? ⟨b, o, none⟩ = some v := by
  rw [hb.cell (p := ⟨b, o, none⟩) (World.block_lt_of_cell? w ⟨b, o, none⟩ h)]; exact h
def cellsOf (xs : List OpX) : List Value := xs.flatMap encX
theorem cellsOf_cons (x : OpX) (xs : List OpX) : cellsOf (x :: xs) = encX x ++ cellsOf xs := rfl
theorem encX_len (x : OpX) : (encX x).length = 8 := rfl
theorem cellsOf_len : ∀ xs : List OpX, (cellsOf xs).length = xs.length * 8
  | [] => rfl
  | x :: xs => by rw [cellsOf_cons, List.length_append, cellsOf_len xs, encX_len, List.length_cons]; omega
theorem cellsOf_get : ∀ (xs : List OpX) (i c : Nat), i < xs.length → c < 8 → (cellsOf xs)[i * 8 + c]? = some ((encX xs[i]!)[c]!)
  | [], i, _, hi, _ => absurd hi (by simp)
  | x :: xs, 0, c, _, hc => by
    have e : 0 * 8 + c = c := by omega
    rw [cellsOf_cons, e, List.getElem?_append_left (by rw [encX_len]; exact hc), List.getElem?_eq_getElem (by rw [encX_len]; exact hc)]
    rw [getElem!_pos _ c (by rw [encX_len]; exact hc)]
    rfl
  | x :: xs, i + 1, c, hi, hc => by
    rw [cellsOf_cons, List.getElem?_append_right (by rw [encX_len]; omega), encX_len, show (i + 1) * 8 + c - 8 = i * 8 + c by omega, cellsOf_get xs i c (by simpa using hi) hc]
    simp
def OpsAt (w : World) (v : Value) (xs : List OpX) : Prop :=
  (v = .slice none 0 0 ∧ xs = []) ∨ ∃ blk off cap, v = .slice (some ⟨blk, off, none⟩) xs.length cap ∧ ∀ j u, (cellsOf xs)[j]? = some u → w.cell? ⟨blk, off + j, none⟩ = some u
theorem infoOp : (Tryz.prog.info? 31).map (fun i => (i.zero, i.size, i.bytes)) = some (some (.agg #[.int .i64 0, .int .i64 0, .int .i64 0, .int .u8 0, .int .i64 0, .int .i64 0, .string ⟨#[]⟩, .string ⟨#[]⟩]), 8, 80) := by kernel_rfl
theorem field_at {w : World} {b off : Nat} {xs : List OpX} (hc : ∀ j u, (cellsOf xs)[j]? = some u → w.cell? ⟨b, off + j, none⟩ = some u) (i c : Nat) (hi : i < xs.length) (h8 : c < 8) : w.cell? ⟨b, off + i * 8 + c, none⟩ = some ((encX xs[i]!)[c]!) := by
  rw [Nat.add_assoc]; exact hc _ _ (cellsOf_get xs i c hi h8)
theorem ownsOps {w : World} {base : Nat} {v : Value} {xs : List OpX} (h : w.ownsRow base 31 8 v xs.length (cellsOf xs)) : OpsAt w v xs := by
  rcases h.2 with ⟨h1, h2⟩ | ⟨g, cap, cur, rfl, _⟩
  · exact .inl ⟨h1, List.length_eq_zero_iff.1 h2⟩
  · refine .inr ⟨g, 0, cap, rfl, fun j u hj => ?_⟩
    have hl : j < (cellsOf xs).length := (List.getElem?_eq_some_iff.1 hj).1
    rw [cellsOf_len] at hl
    rw [Nat.zero_add, h.cellAt j hl, hj]
structure Eight (w : World) (g p : Nat) (t b m : Int) (kd : Nat) (node other : Int) (name value : ByteArray) : Prop where
  c0 : w.cell? ⟨g, p, none⟩ = some (.int .i64 t)
  c1 : w.cell? ⟨g, p + 1, none⟩ = some (.int .i64 b)
  c2 : w.cell? ⟨g, p + 2, none⟩ = some (.int .i64 m)
  c3 : w.cell? ⟨g, p + 3, none⟩ = some (.int .u8 (kd : Int))
  c4 : w.cell? ⟨g, p + 4, none⟩ = some (.int .i64 node)
  c5 : w.cell? ⟨g, p + 5, none⟩ = some (.int .i64 other)
  c6 : w.cell? ⟨g, p + 6, none⟩ = some (.string name)
  c7 : w.cell? ⟨g, p + 7, none⟩ = some (.string value)
theorem Eight.later {w w' : World} {g p : Nat} {t b m : Int} {kd : Nat} {node other : Int} {name value : ByteArray} (h : Eight w g p t b m kd node other name value) (hb : Below w.heap.size w w') : Eight w' g p t b m kd node other name value :=
  ⟨cellKept hb h.c0, cellKept hb h.c1, cellKept hb h.c2, cellKept hb h.c3, cellKept hb h.c4, cellKept hb h.c5, cellKept hb h.c6, cellKept hb h.c7⟩
theorem eight_at {w : World} {g o : Nat} {xs : List OpX} (hc : ∀ j u, (cellsOf xs)[j]? = some u → w.cell? ⟨g, o + j, none⟩ = some u) (i : Nat) (hi : i < xs.length) {t b m : Int} {kd : Nat} {node other : Int} {name value : ByteArray} (hx : xs[i]! = (t, b, m, kd, node, other, name, value)) : Eight w g (o + i * 8) t b m kd node other name value := by
  have h := fun c h8 => field_at hc i c hi h8
  rw [hx] at h
  exact ⟨h 0 (by omega), h 1 (by omega), h 2 (by omega), h 3 (by omega), h 4 (by omega), h 5 (by omega), h 6 (by omega), h 7 (by omega)⟩
end Go.Proofs.YtcggmagdndhkbaaGreatDoor
end
section
set_option linter.unusedVariables false
namespace Go.Proofs.YtcggmagdndhkbaaGreatDoor
def errJ (x : OpX) : Nat := opE x.1 x.2.1 x.2.2.1 x.2.2.2.1 x.2.2.2.2.1 x.2.2.2.2.2.1 x.2.2.2.2.2.2.1.data.toList x.2.2.2.2.2.2.2.data.toList
def div1 (c : Nat) : Nat := if c % 2 = 1 then (c / 2) ^^^ 3988292384 else c / 2
def divN : Nat → Nat → Nat
  | 0, c => c
  | n + 1, c => divN n (div1 c)
theorem divN_succ : ∀ (n c : Nat), divN (n + 1) c = div1 (divN n c)
  | 0, c => rfl
  | n + 1, c => by
    show divN (n + 1) (div1 c) = _
    rw [divN_succ n (div1 c)]
    rfl
def crcL (c : Nat) : List UInt8 → Nat
  | [] => c
  | b :: l => crcL (divN 8 (c ^^^ b.toNat)) l
def crcOf (l : List UInt8) : Nat := 4294967295 - crcL 4294967295 l
theorem div1_lt {c : Nat} (h : c < 4294967296) : div1 c < 4294967296 := by
  unfold div1
  split
  · exact Nat.xor_lt_two_pow (n := 32) (by omega) (by omega)
  · omega
theorem divN_lt : ∀ (n : Nat) {c : Nat}, c < 4294967296 → divN n c < 4294967296
  | 0, _, h => h
  | n + 1, _, h => divN_lt n (div1_lt h)
theorem xor_byte {c : Nat} (h : c < 4294967296) (b : UInt8) : c ^^^ b.toNat < 4294967296 := Nat.xor_lt_two_pow (n := 32) (by omega) (by have := b.toNat_lt; omega)
theorem crcL_snoc : ∀ (l : List UInt8) (c : Nat) (b : UInt8), crcL c (l ++ [b]) = divN 8 (crcL c l ^^^ b.toNat)
  | [], c, b => rfl
  | a :: l, c, b => crcL_snoc l _ b
theorem crcOf_lt (l : List UInt8) : crcOf l < 4294967296 := by unfold crcOf; omega
theorem xor_all {v : Nat} (h : v < 4294967296) : 4294967295 ^^^ v = 4294967295 - v := by
  have h1 : (BitVec.allOnes 32 ^^^ BitVec.ofNat 32 v).toNat = (~~~ BitVec.ofNat 32 v).toNat := by rw [BitVec.allOnes_xor]
  rw [BitVec.toNat_xor, BitVec.toNat_not, BitVec.toNat_allOnes, BitVec.toNat_ofNat, Nat.mod_eq_of_lt (by omega)] at h1
  simpa using h1
def digs : Nat → Nat → List UInt8
  | 0, _ => []
  | n + 1, v => digs n (v / 16) ++ [hexd (v % 16)]
theorem digs_len : ∀ n v, (digs n v).length = n
  | 0, _ => rfl
  | n + 1, v => by simp [digs, digs_len n]
theorem digs_zero : ∀ n, digs n 0 = List.replicate n 48
  | 0 => rfl
  | n + 1 => by
    rw [List.replicate_succ']
    show digs n (0 / 16) ++ [hexd (0 % 16)] = _
    rw [show 0 / 16 = 0 from rfl, digs_zero n]
    rfl
theorem digs_pad : ∀ (m k v : Nat), v < 16 ^ k → digs (m + k) v = List.replicate m 48 ++ digs k v
  | m, 0, v, h => by
    have : v = 0 := by simpa using h
    subst this
    rw [Nat.add_zero, digs_zero]
    simp [digs]
  | m, k + 1, v, h => by
    show digs (m + k) (v / 16) ++ [hexd (v % 16)] = List.replicate m 48 ++ (digs k (v / 16) ++ [hexd (v % 16)])
    rw [digs_pad m k (v / 16) (by rw [Nat.pow_succ] at h; omega), List.append_assoc]
theorem hexd_ge : ∀ n : Fin 16, 45 ≤ (hexd n).toNat := by decide +kernel
theorem digs_ge : ∀ n v, ∀ c ∈ digs n v, 45 ≤ c.toNat
  | 0, _, c, h => by simp [digs] at h
  | n + 1, v, c, h => by
    rcases List.mem_append.1 h with q | q
    · exact digs_ge n _ c q
    · rw [List.mem_singleton.1 q]
      exact hexd_ge ⟨v % 16, by omega⟩
def recL (t : List UInt8) : List UInt8 := t ++ 35 :: (digs 8 (crcOf t) ++ [10])
theorem recL_len (t : List UInt8) : (recL t).length = t.length + 10 := by
  unfold recL
  simp [digs_len]
def textO (x : OpX) : List UInt8 := opTextL x.1 x.2.1 x.2.2.1 x.2.2.2.1 x.2.2.2.2.1 x.2.2.2.2.2.1 x.2.2.2.2.2.2.1.data.toList x.2.2.2.2.2.2.2.data.toList
def readO (l : List UInt8) : Option OpX := match partsL l with
  | none => none
  | some (c, n1, n2, n3, n4, n5, nm, v) => if opE n1 n2 n3 c.toNat n4 n5 nm v = 0 then some ((n1 : Int), (n2 : Int), (n3 : Int), c.toNat, (n4 : Int), (n5 : Int), ⟨nm.toArray⟩, ⟨v.toArray⟩) else none
theorem readO_text {x : OpX} (h : errJ x = 0) : readO (textO x) = some x := by
  obtain ⟨t, b, n, k, nd, o, s, v⟩ := x
  have h' : opE t b n k nd o s.data.toList v.data.toList = 0 := h
  have hp := parts_text h'
  obtain ⟨h1, h2, h3, h4, h5, h6, hk, h7, h8, h9, h10, -⟩ := opE_zero h'
  have e1 : ((t.toNat : Nat) : Int) = t := by omega
  have e2 : ((b.toNat : Nat) : Int) = b := by omega
  have e3 : ((n.toNat : Nat) : Int) = n := by omega
  have e4 : ((nd.toNat : Nat) : Int) = nd := by omega
  have e5 : ((o.toNat : Nat) : Int) = o := by omega
  have ek : (UInt8.ofNat k).toNat = k := by rcases hk with rfl | rfl | rfl | rfl <;> rfl
  unfold readO textO
  dsimp only
  rw [hp]
  dsimp only
  rw [e1, e2, e3, e4, e5, ek, if_pos h']
theorem text_readO {l : List UInt8} {x : OpX} (h : readO l = some x) : textO x = l ∧ errJ x = 0 := by
  unfold readO at h
  split at h
  · cases h
  · rename_i c n1 n2 n3 n4 n5 nm v hp
    split at h
    · rename_i he
      cases h
      exact ⟨text_parts hp, he⟩
    · cases h
theorem opE_name {t b n : Int} {k : Nat} {node other : Int} {name value : List UInt8} (h : opE t b n k node other name value = 0) : name = [] ∨ nameOk name = true := by
  by_cases hn : nameOk name = true
  · exact .inr hn
  · by_cases he : name = []
    · exact .inl he
    · exfalso
      have hn' : nameOk name = false := by simpa using hn
      have h4 : (if nameOk name = false then 4 else if value ≠ [] then 3 else 0) = 4 := if_pos hn'
      unfold opE kindE moveE insE delE setE at h
      rw [if_pos hn', if_pos he, if_pos he, if_pos hn'] at h
      repeat' (split at h)
      all_goals cases h
theorem name_ge {t b n : Int} {k : Nat} {node other : Int} {name value : List UInt8} (h : opE t b n k node other name value = 0) : ∀ c ∈ name, 45 ≤ c.toNat := fun c hc => by
  rcases opE_name h with rfl | hn
  · simp at hc
  · unfold nameOk at hn
    simp only [Bool.and_eq_true, decide_eq_true_eq] at hn
    have := List.all_eq_true.1 hn.2 _ hc
    unfold nameB at this
    simp only [decide_eq_true_eq] at this
    omega
theorem itoa_ge (a : Int) (h0 : 0 ≤ a) : ∀ c ∈ Lib.itoa a, 45 ≤ c.toNat := fun c hc => by
  rw [Lib.itoa, if_neg (by omega)] at hc
  have := dec_digit _ _ hc
  omega
theorem hexL_ge : ∀ (l : List UInt8), ∀ c ∈ hexL l, 45 ≤ c.toNat
  | [], c, h => by simp [hexL] at h
  | a :: r, c, h => by
    have ha := a.toNat_lt
    simp only [hexL, List.mem_cons] at h
    rcases h with rfl | rfl | h
    · exact hexd_ge ⟨a.toNat / 16, by omega⟩
    · exact hexd_ge ⟨a.toNat % 16, by omega⟩
    · exact hexL_ge r c h
theorem joinP_ge : ∀ (x : List (List UInt8)), (∀ l ∈ x, ∀ c ∈ l, 45 ≤ c.toNat) → ∀ c ∈ joinP 124 x, 45 ≤ c.toNat
  | [], _, c, h => by simp [joinP] at h
  | [a], hx, c, h => by
    simp only [joinP] at h
    exact hx a (by simp) c h
  | a :: b :: r, hx, c, h => by
    simp only [joinP] at h
    rcases List.mem_append.1 h with q | q
    · exact hx a (by simp) c q
    · rcases List.mem_cons.1 q with rfl | q
      · decide
      · exact joinP_ge (b :: r) (fun l hl => hx l (List.mem_cons_of_mem _ hl)) c q
theorem text_ge {x : OpX} (h : errJ x = 0) : ∀ c ∈ textO x, 45 ≤ c.toNat := by
  obtain ⟨t, b, n, k, nd, o, s, v⟩ := x
  have h' : opE t b n k nd o s.data.toList v.data.toList = 0 := h
  obtain ⟨h1, h2, h3, h4, h5, h6, hk, h7, h8, h9, h10, -⟩ := opE_zero h'
  unfold textO opTextL
  dsimp only
  refine joinP_ge _ (fun l hl => ?_)
  simp only [List.mem_cons, List.not_mem_nil, or_false] at hl
  rcases hl with rfl | rfl | rfl | rfl | rfl | rfl | rfl | rfl
  · intro c hc
    rw [List.mem_singleton.1 hc]
    rcases hk with rfl | rfl | rfl | rfl <;> decide
  · exact itoa_ge _ (by omega)
  · exact itoa_ge _ (by omega)
  · exact itoa_ge _ (by omega)
  · exact itoa_ge _ (by omega)
  · exact itoa_ge _ (by omega)
  · exact name_ge h'
  · exact hexL_ge _
theorem textO_len {x : OpX} (h : errJ x = 0) : (textO x).length ≤ 1000 := by
  obtain ⟨t, b, n, k, nd, o, s, v⟩ := x
  have h' : opE t b n k nd o s.data.toList v.data.toList = 0 := h
  obtain ⟨h1, h2, h3, h4, h5, h6, hk, h7, h8, h9, h10, -, hn, hv⟩ := opE_zero h'
  have e1 := Lib.itoa_length_le t (by omega) (by omega)
  have e2 := Lib.itoa_length_le b (by omega) (by omega)
  have e3 := Lib.itoa_length_le n (by omega) (by omega)
  have e4 := Lib.itoa_length_le nd (by omega) (by omega)
  have e5 := Lib.itoa_length_le o (by omega) (by omega)
  have e6 := hexL_length v.data.toList
  unfold textO opTextL
  simp only [joinP, List.length_append, List.length_cons, List.length_nil]
  omega
def ahead : List UInt8 → List UInt8
  | [] => []
  | c :: l => if c = 35 then [] else c :: ahead l
theorem ahead_text : ∀ {t : List UInt8} (r : List UInt8), (∀ c ∈ t, 45 ≤ c.toNat) → ahead (t ++ 35 :: r) = t
  | [], r, _ => rfl
  | c :: t, r, h => by
    have hc : c ≠ 35 := fun e => by have := h c (by simp); rw [e] at this; revert this; decide
    show (if c = 35 then [] else c :: ahead (t ++ 35 :: r)) = c :: t
    rw [if_neg hc, ahead_text r (fun d hd => h d (by simp [hd]))]
theorem ahead_len : ∀ (l : List UInt8), (ahead l).length ≤ l.length
  | [] => Nat.le_refl _
  | c :: l => by
    unfold ahead
    split
    · simp
    · have := ahead_len l
      simp; omega
def readR (b : List UInt8) : Option (OpX × Nat) := match readO (ahead b) with
  | none => none
  | some x => if recL (ahead b) <+: b then some (x, (recL (ahead b)).length) else none
theorem readR_rec {x : OpX} (h : errJ x = 0) (r : List UInt8) : readR (recL (textO x) ++ r) = some (x, (recL (textO x)).length) := by
  have ha : ahead (recL (textO x) ++ r) = textO x := by
    unfold recL
    rw [List.append_assoc]
    exact ahead_text _ (text_ge h)
  unfold readR
  rw [ha, readO_text h]
  dsimp only
  rw [if_pos ⟨r, rfl⟩]
theorem readR_some {b : List UInt8} {x : OpX} {n : Nat} (h : readR b = some (x, n)) : errJ x = 0 ∧ n = (recL (textO x)).length ∧ ∃ r, b = recL (textO x) ++ r := by
  unfold readR at h
  split at h
  · cases h
  · rename_i y hy
    obtain ⟨h1, h2⟩ := text_readO hy
    split at h
    · rename_i hp
      cases h
      obtain ⟨r, hr⟩ := hp
      rw [← h1] at hr
      exact ⟨h2, by rw [h1], r, hr.symm⟩
    · cases h
theorem readR_nil : readR [] = none := by
  have : readO [] = none := by rfl
  unfold readR
  rw [show ahead [] = [] from rfl, this]
def readN : Nat → List UInt8 → List OpX × Nat
  | 0, _ => ([], 0)
  | k + 1, b => match readR b with
    | none => ([], 0)
    | some (x, n) => (x :: (readN k (b.drop n)).1, n + (readN k (b.drop n)).2)
def readL_ (b : List UInt8) : List OpX × Nat := readN b.length b
theorem readR_pos {b : List UInt8} {x : OpX} {n : Nat} (h : readR b = some (x, n)) : 10 ≤ n ∧ n ≤ b.length := by
  obtain ⟨_, h2, r, h3⟩ := readR_some h
  rw [recL_len] at h2
  have := congrArg List.length h3
  rw [List.length_append, recL_len] at this
  omega
theorem readN_more : ∀ (k m : Nat) (b : List UInt8), b.length ≤ k → b.length ≤ m → readN k b = readN m b
  | 0, 0, b, _, _ => rfl
  | 0, m + 1, b, h, _ => by
    have : b = [] := List.length_eq_zero_iff.1 (by omega)
    subst this
    simp only [readN, readR_nil]
  | k + 1, 0, b, _, h => by
    have : b = [] := List.length_eq_zero_iff.1 (by omega)
    subst this
    simp only [readN, readR_nil]
  | k + 1, m + 1, b, h1, h2 => by
    cases hr : readR b with
    | none => simp only [readN, hr]
    | some p =>
      obtain ⟨x, n⟩ := p
      have := readR_pos hr
      simp only [readN, hr]
      rw [readN_more k m (b.drop n) (by rw [List.length_drop]; omega) (by rw [List.length_drop]; omega)]
theorem readA_none {b : List UInt8} (h : readR b = none) : readL_ b = ([], 0) := by
  unfold readL_
  cases hb : b.length with
  | zero => rfl
  | succ k => simp only [readN, h]
theorem readA_some {b : List UInt8} {x : OpX} {n : Nat} (h : readR b = some (x, n)) : readL_ b = (x :: (readL_ (b.drop n)).1, n + (readL_ (b.drop n)).2) := by
  have hp := readR_pos h
  unfold readL_
  cases hb : b.length with
  | zero => omega
  | succ k =>
    simp only [readN, h]
    rw [readN_more k (b.drop n).length (b.drop n) (by rw [List.length_drop]; omega) (Nat.le_refl _)]
def recsL : List OpX → List UInt8
  | [] => []
  | x :: l => recL (textO x) ++ recsL l
theorem readA_recs : ∀ (l : List OpX) (r : List UInt8), (∀ x ∈ l, errJ x = 0) → readR r = none → readL_ (recsL l ++ r) = (l, (recsL l).length)
  | [], r, _, h => by
    show readL_ r = ([], 0)
    exact readA_none h
  | x :: l, r, hl, h => by
    have e : recsL (x :: l) ++ r = recL (textO x) ++ (recsL l ++ r) := by
      show recL (textO x) ++ recsL l ++ r = _
      rw [List.append_assoc]
    rw [e, readA_some (readR_rec (hl x (by simp)) _), List.drop_left, readA_recs l r (fun y hy => hl y (by simp [hy])) h]
    show (x :: l, (recL (textO x)).length + (recsL l).length) = (x :: l, (recL (textO x) ++ recsL l).length)
    rw [List.length_append]
theorem readA_is : ∀ (k : Nat) (b : List UInt8), b.length ≤ k → ∃ r, b = recsL (readL_ b).1 ++ r ∧ readR r = none ∧ (readL_ b).2 = (recsL (readL_ b).1).length ∧ ∀ x ∈ (readL_ b).1, errJ x = 0
  | k, b, hk => by
    cases hr : readR b with
    | none =>
      rw [readA_none hr]
      exact ⟨b, rfl, hr, rfl, fun x hx => by simp at hx⟩
    | some p =>
      obtain ⟨x, n⟩ := p
      have hp := readR_pos hr
      obtain ⟨h1, h2, r, h3⟩ := readR_some hr
      rw [readA_some hr]
      have hd : b.drop n = r := by rw [h3, h2, List.drop_left]
      match k, hk with
      | 0, hk => omega
      | k + 1, hk =>
        obtain ⟨r', q1, q2, q3, q4⟩ := readA_is k (b.drop n) (by rw [List.length_drop]; omega)
        refine ⟨r', ?_, q2, ?_, fun y hy => ?_⟩
        · show b = recL (textO x) ++ recsL (readL_ (b.drop n)).1 ++ r'
          rw [List.append_assoc, ← q1, hd]
          exact h3
        · show n + _ = (recL (textO x) ++ recsL (readL_ (b.drop n)).1).length
          rw [List.length_append, q3, h2]
        · rcases List.mem_cons.1 hy with rfl | hy
          · exact h1
          · exact q4 y hy
end Go.Proofs.YtcggmagdndhkbaaGreatDoor
end
section
namespace Go.Proofs.YtcggmagdndhkbaaGreatDoor
open Go.RowKit
theorem byteAt (s : ByteArray) (k : Nat) (h : k < s.size) : s.data.toList.drop k = s[k] :: s.data.toList.drop (k + 1) := by
  have hl : k < s.data.toList.length := by simpa using h
  rw [List.drop_eq_getElem_cons hl]
  simp
  rfl
theorem dropEnd (s : ByteArray) : s.data.toList.drop s.size = [] := by
  rw [List.drop_eq_nil_iff]; simp
theorem pow_lt (k v : Nat) (h : v < 10 ^ k) (hk : k < 18) : v < 100000000000000000 := by
  have : 10 ^ k ≤ 10 ^ 17 := Nat.pow_le_pow_right (by decide) (by omega)
  omega
theorem pow_next (k v d : Nat) (h : v < 10 ^ k) (hd : d < 10) : 10 * v + d < 10 ^ (k + 1) := by
  rw [Nat.pow_succ]; omega
end Go.Proofs.YtcggmagdndhkbaaGreatDoor
end
section
set_option linter.unusedVariables false
namespace Go.Proofs.YtcggmagdndhkbaaGreatDoor
def brk : List UInt8 → List UInt8
  | [] => []
  | c :: l => if c = 10 then [] else c :: brk l
theorem brk_text : ∀ {t : List UInt8} (r : List UInt8), (∀ c ∈ t, 35 ≤ c.toNat) → brk (t ++ 10 :: r) = t
  | [], r, _ => rfl
  | c :: t, r, h => by
    have hc : c ≠ 10 := fun e => by have := h c (by simp); rw [e] at this; revert this; decide
    show (if c = 10 then [] else c :: brk (t ++ 10 :: r)) = c :: t
    rw [if_neg hc, brk_text r (fun d hd => h d (by simp [hd]))]
theorem brk_is {L : List UInt8} {x : OpX} {n : Nat} (h : readR L = some (x, n)) : (brk L).length = (textO x).length + 9 ∧ (brk L).length < L.length ∧ L.take ((brk L).length - 9) = textO x ∧ L.take ((brk L).length + 1) = recL (textO x) ∧ errJ x = 0 ∧ n = (brk L).length + 1 := by
  obtain ⟨h0, h1, r, h2⟩ := readR_some h
  have hb : brk L = textO x ++ 35 :: digs 8 (crcOf (textO x)) := by
    have e : L = (textO x ++ 35 :: digs 8 (crcOf (textO x))) ++ 10 :: r := by
      rw [h2]
      unfold recL
      simp
    rw [e]
    refine brk_text r (fun c hc => ?_)
    rcases List.mem_append.1 hc with q | q
    · have := text_ge h0 c q; omega
    · rcases List.mem_cons.1 q with rfl | q
      · decide
      · have := digs_ge _ _ c q; omega
  have hl : (brk L).length = (textO x).length + 9 := by rw [hb]; simp [digs_len]
  have hr := recL_len (textO x)
  have hL : L.length = (textO x).length + 10 + r.length := by rw [h2, List.length_append, hr]
  refine ⟨hl, by omega, ?_, ?_, h0, by omega⟩
  · rw [hl, show (textO x).length + 9 - 9 = (textO x).length by omega, h2]
    unfold recL
    rw [List.append_assoc, List.take_left]
  · rw [hl, show (textO x).length + 9 + 1 = (recL (textO x)).length by omega, h2, List.take_left]
theorem of_brk {L : List UInt8} {x : OpX} {k : Nat} (h : readO (L.take (k - 9)) = some x) (hk : 9 ≤ k) (hl : k < L.length) (hr : recL (L.take (k - 9)) = L.take (k + 1)) : readR L = some (x, k + 1) := by
  obtain ⟨h1, h2⟩ := text_readO h
  rw [← h1] at hr
  have e : L = recL (textO x) ++ L.drop (k + 1) := by rw [hr, List.take_append_drop]
  have hn : (recL (textO x)).length = k + 1 := by rw [hr, List.length_take]; omega
  have h3 := readR_rec h2 (L.drop (k + 1))
  rw [← e, hn] at h3
  exact h3
def Goes (l : List UInt8) (a n : Nat) : Prop := brk (l.drop a) = (l.drop a).take (n - a) ++ brk (l.drop n)
theorem Goes.start (l : List UInt8) (a : Nat) : Goes l a a := by unfold Goes; simp
theorem Goes.next {s : ByteArray} {a n : Nat} (h : Goes s.data.toList a n) (ha : a ≤ n) (hn : n < s.size) (hc : s[n] ≠ 10) : Goes s.data.toList a (n + 1) := by
  unfold Goes at h ⊢
  rw [h, byteAt s n hn]
  have e : brk (s[n] :: s.data.toList.drop (n + 1)) = s[n] :: brk (s.data.toList.drop (n + 1)) := by
    show (if s[n] = 10 then [] else s[n] :: brk (s.data.toList.drop (n + 1))) = _
    rw [if_neg hc]
  rw [e, show n + 1 - a = (n - a) + 1 by omega, List.take_add_one, List.getElem?_drop, show a + (n - a) = n by omega]
  have hg : s.data.toList[n]? = some s[n] := by
    have := congrArg List.head? (byteAt s n hn)
    simpa [List.head?_drop] using this
  rw [hg]
  simp
theorem Goes.brk {s : ByteArray} {a n : Nat} (h : Goes s.data.toList a n) (ha : a ≤ n) (hn : n < s.size) (hc : s[n] = 10) : (Go.Proofs.YtcggmagdndhkbaaGreatDoor.brk (s.data.toList.drop a)).length = n - a := by
  unfold Goes at h
  rw [h, byteAt s n hn, hc]
  have hs : s.data.toList.length = s.size := by simp
  have e : Go.Proofs.YtcggmagdndhkbaaGreatDoor.brk (10 :: s.data.toList.drop (n + 1)) = [] := rfl
  rw [e, List.append_nil, List.length_take, List.length_drop, hs]
  omega
theorem Goes.all {s : ByteArray} {a n : Nat} (h : Goes s.data.toList a n) (ha : a ≤ n) (hn : n = s.size) : (Go.Proofs.YtcggmagdndhkbaaGreatDoor.brk (s.data.toList.drop a)).length = (s.data.toList.drop a).length := by
  unfold Goes at h
  have hs : s.data.toList.length = s.size := by simp
  rw [h, hn, List.drop_eq_nil_of_le (by omega : s.data.toList.length ≤ s.size)]
  have e : Go.Proofs.YtcggmagdndhkbaaGreatDoor.brk [] = [] := rfl
  rw [e, List.append_nil, List.length_take, List.length_drop, hs]
  omega
end Go.Proofs.YtcggmagdndhkbaaGreatDoor
end
