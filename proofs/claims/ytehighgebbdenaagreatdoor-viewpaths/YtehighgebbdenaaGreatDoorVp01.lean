import Derived.Laws.IdiomCopy
import Derived.Laws.OwnMore
import Derived.Below
import Derived.Sort.LotA
import Derived.Maps.OwnSet
section
namespace Go.Proofs.YtehighgebbdenaaGreatDoor
open Go Go.RowKit
structure Keeps (S : Nat → Prop) (w w' : World) : Prop where
  os : w'.os = w.os
  tape : w'.tape = w.tape
  output : w'.output = w.output
  size : w.heap.size ≤ w'.heap.size
  block : ∀ k, k < w.heap.size → ¬ S k → w'.heap[k]? = w.heap[k]?
theorem Keeps.refl (S : Nat → Prop) (w : World) : Keeps S w w := ⟨rfl, rfl, rfl, Nat.le_refl _, fun _ _ _ => rfl⟩
theorem Keeps.trans {S : Nat → Prop} {a b c : World} (h : Keeps S a b) (k : Keeps S b c) : Keeps S a c :=
  ⟨k.os.trans h.os, k.tape.trans h.tape, k.output.trans h.output, Nat.le_trans h.size k.size, fun i hi hs => (k.block i (Nat.lt_of_lt_of_le hi h.size) hs).trans (h.block i hi hs)⟩
theorem Keeps.then {S T : Nat → Prop} {a b c : World} (h : Keeps S a b) (k : Keeps T b c) (hT : ∀ i, i < a.heap.size → T i → S i) : Keeps S a c :=
  ⟨k.os.trans h.os, k.tape.trans h.tape, k.output.trans h.output, Nat.le_trans h.size k.size, fun i hi hs => (k.block i (Nat.lt_of_lt_of_le hi h.size) (fun ht => hs (hT i hi ht))).trans (h.block i hi hs)⟩
theorem Keeps.mono {S T : Nat → Prop} {w w' : World} (h : Keeps S w w') (hs : ∀ k, k < w.heap.size → S k → T k) : Keeps T w w' :=
  ⟨h.os, h.tape, h.output, h.size, fun k hk ht => h.block k hk (fun e => ht (hs k hk e))⟩
theorem keeps_of_grown {w w' : World} {row : Option Nat} (h : w.grownBy w' row) : Keeps (fun k => some k = row) w w' :=
  ⟨h.os, h.tape, h.output, h.size, fun k hk hs => h.block k hk hs⟩
theorem keeps_of_below {B : Nat} {w w' : World} (h : Below B w w') : Keeps (fun k => B ≤ k) w w' :=
  ⟨h.os, h.tape, h.output, h.size, fun k _ hs => h.block k (by omega)⟩
theorem Keeps.below {S : Nat → Prop} {w w' : World} (h : Keeps S w w') {B : Nat} (hB : B ≤ w.heap.size) (hs : ∀ k, S k → B ≤ k) : Below B w w' :=
  ⟨h.os, h.tape, h.output, h.size, fun k hk => h.block k (by omega) (fun e => by have := hs k e; omega)⟩
theorem Keeps.drew {S : Nat → Prop} {w w' : World} (h : Keeps S w w') : Keeps S w w'.drew := ⟨h.os, h.tape, h.output, h.size, h.block⟩
theorem Keeps.alloc {S : Nat → Prop} {w w' : World} (h : Keeps S w w') (o : Obj) : Keeps S w (w'.alloc o) :=
  h.then (keeps_of_grown (World.grownBy_alloc w' o none)) (fun _ _ e => by cases e)
theorem Keeps.cell {S : Nat → Prop} {w w' : World} (h : Keeps S w w') {a : Addr} (ha : a.block < w.heap.size) (hs : ¬ S a.block) : w'.cell? a = w.cell? a := World.cell?_of_block (h.block _ ha hs)
theorem Keeps.frozen {S : Nat → Prop} {w w' : World} (h : Keeps S w w') {a : Addr} (ha : a.block < w.heap.size) (hs : ¬ S a.block) : w'.frozen? a = w.frozen? a := World.frozen?_of_block (h.block _ ha hs)
def over (c : Array Value) : Nat → List Value → Array Value
  | _, [] => c
  | o, v :: r => over (c.setIfInBounds o v) (o + 1) r
theorem over_size : ∀ (vs : List Value) (o : Nat) (c : Array Value), (over c o vs).size = c.size
  | [], _, _ => rfl
  | v :: r, o, c => by rw [over, over_size r]; simp
theorem over_list : ∀ (vs A B C : List Value) (c : Array Value), c.toList = A ++ B ++ C → B.length = vs.length → (over c A.length vs).toList = A ++ vs ++ C
  | [], A, B, C, c, h, hl => by
    have : B = [] := List.length_eq_zero_iff.1 hl
    subst this
    simpa [over] using h
  | v :: r, A, [], C, c, h, hl => by simp at hl
  | v :: r, A, b :: B, C, c, h, hl => by
    have ih := over_list r (A ++ [v]) B C (c.setIfInBounds A.length v) (by simp [h]) (by simpa using hl)
    rw [over]
    simpa using ih
theorem setCells_heap (b : Nat) : ∀ (vs : List Value) (o : Nat) (w : World) (c : Array Value) (t : TypeId), w.heap[b]? = some (.cells c t (0, 0)) → (w.setCells b o vs).heap[b]? = some (.cells (over c o vs) t (0, 0))
  | [], _, _, _, _, h => h
  | v :: r, o, w, c, t, h => setCells_heap b r (o + 1) _ _ t (heap_setCell_same w b o c t v h)
theorem setCells_keeps (b : Nat) : ∀ (vs : List Value) (o : Nat) (w : World), Keeps (fun k => k = b) w (w.setCells b o vs)
  | [], _, w => Keeps.refl _ w
  | v :: r, o, w => by
    refine Keeps.trans (b := w.setCell ⟨b, o, none⟩ v) ⟨rfl, rfl, rfl, ?_, fun k _ hk => heap_setCell_other w ⟨b, o, none⟩ k v hk⟩ (setCells_keeps b r (o + 1) _)
    simp [World.setCell]
theorem run_copy_k {P : Program} (w : World) (dT sT ty elem : TypeId) (k b o dLen dCap : Nat) (a : Addr) (sLen sCap : Nat) (cs : List Value)
    (hu : P.underlying dT = some (.slice elem)) (hs : (P.info? elem).map (·.size) = some k) (hn : cs.length = Nat.min sLen dLen * k)
    (hsrc : ∀ j v, cs[j]? = some v → w.cell? (a.add j) = some v) (hc : ∀ j, j < cs.length → (w.cell? ⟨b, o + j, none⟩).isSome = true) (hf : ∀ j, j < cs.length → w.frozen? ⟨b, o + j, none⟩ = false) (h1 : ∀ v ∈ cs, v.oneCell' = true) :
    (Builtin.copy_ #[dT, sT] ty #[.slice (some ⟨b, o, none⟩) dLen dCap, .slice (some a) sLen sCap]).run P w = .ok (goInt (Nat.min sLen dLen)) (w.setCells b o cs) := by
  have hl := run_loadCells_list (P := P) w a cs hsrc
  have hst := run_storeCells_cells (P := P) b o cs 0 w (by simpa using hc) (by simpa using hf) h1
  cases hq : P.info? elem with
  | none => simp [hq] at hs
  | some i =>
    have hi : i.size = k := by simpa [hq] using hs
    simp only [Nat.add_zero] at hst
    simp [Builtin.copy_, run_underlying hu, Builtin.lenOf, Builtin.firstCells, sizeOf, typeInfo, hq, hi, ← hn, hl, hst]
theorem owns_laidIn {w : World} {base k g n cap i : Nat} {E : TypeId} {xs vs : List Value} (h : w.ownsRow base E k (.slice (some ⟨g, 0, none⟩) n cap) n xs) (hroom : n + 1 ≤ cap) (hi : i ≤ n) (hv : vs.length = k) :
    ((w.setCells g ((i + 1) * k) (xs.drop (i * k))).setCells g (i * k) vs).ownsRow base E k (.slice (some ⟨g, 0, none⟩) (n + 1) cap) (n + 1) (xs.take (i * k) ++ vs ++ xs.drop (i * k)) := by
  obtain ⟨hl, h2⟩ := h
  rcases h2 with ⟨hc, _⟩ | ⟨g', cap', cur, hc, hb, hg, hn, hm, hs, ht⟩
  · cases hc
  · cases hc
    have hik : i * k ≤ n * k := Nat.mul_le_mul_right k hi
    have hnk : (n + 1) * k = n * k + k := by rw [Nat.succ_mul]
    have hi1 : (i + 1) * k = i * k + k := by rw [Nat.succ_mul]
    have hck : (n + 1) * k ≤ cap * k := Nat.mul_le_mul_right k hroom
    have hcl : cur.toList.length = cap * k := by simpa using hs
    have hcur : cur.toList = xs ++ cur.toList.drop (n * k) := by
      conv => lhs; rw [← List.take_append_drop (n * k) cur.toList]
      rw [ht]
    obtain ⟨C, hC⟩ : ∃ C, C = cur.toList.drop (n * k) := ⟨_, rfl⟩
    rw [← hC] at hcur
    have hCl : C.length = cap * k - n * k := by rw [hC, List.length_drop, hcl]
    have hdl : (xs.drop (i * k)).length = n * k - i * k := by rw [List.length_drop, hl]
    have htl : (xs.take (i * k)).length = i * k := by rw [List.length_take, hl]; omega
    -- the first of the two
    have hg1 := setCells_heap g (xs.drop (i * k)) ((i + 1) * k) w cur E hg
    have e1 : (cur.toList.take ((i + 1) * k)).length = (i + 1) * k := by rw [List.length_take, hcl]; omega
    have o1 := over_list (xs.drop (i * k)) (cur.toList.take ((i + 1) * k)) ((cur.toList.drop ((i + 1) * k)).take (n * k - i * k)) ((cur.toList.drop ((i + 1) * k)).drop (n * k - i * k)) cur
      (by rw [List.append_assoc, List.take_append_drop, List.take_append_drop]) (by rw [List.length_take, List.length_drop, hdl, hcl]; omega)
    rw [e1] at o1
    obtain ⟨c1, hc1⟩ : ∃ c1, c1 = over cur ((i + 1) * k) (xs.drop (i * k)) := ⟨_, rfl⟩
    rw [← hc1] at o1 hg1
    have hs1 : c1.size = cap * k := by rw [hc1, over_size, hs]
    -- the second
    have hg2 := setCells_heap g vs (i * k) _ c1 E hg1
    have hA : cur.toList.take ((i + 1) * k) = xs.take (i * k) ++ (cur.toList.drop (i * k)).take k := by
      rw [hi1, List.take_add]
      congr 1
      rw [hcur, List.take_append_of_le_length (by omega)]
    have o2 := over_list vs (xs.take (i * k)) ((cur.toList.drop (i * k)).take k) (xs.drop (i * k) ++ (cur.toList.drop ((i + 1) * k)).drop (n * k - i * k)) c1
      (by rw [o1, hA]; simp [List.append_assoc]) (by rw [List.length_take, List.length_drop, hcl, hv]; omega)
    rw [htl] at o2
    refine ⟨?_, .inr ⟨g, cap, _, rfl, hb, hg2, hroom, hm, by rw [over_size, hs1], ?_⟩⟩
    · rw [List.length_append, List.length_append, htl, hv, hdl]; omega
    · rw [o2, ← List.append_assoc, List.take_append_of_le_length (by rw [List.length_append, List.length_append, htl, hv, hdl]; omega), List.take_of_length_le (by rw [List.length_append, List.length_append, htl, hv, hdl]; omega)]
theorem owns_newIn {w : World} {base k g n G i : Nat} {E : TypeId} {xs vs Z : List Value} {row : Array Value} (hg : w.heap[g]? = some (.cells row E (0, 0))) (hrow : row.toList = xs.take (i * k) ++ Z) (hs : row.size = G * k)
    (hb : base ≤ g) (hroom : n + 1 ≤ G) (hm : G ≤ maxLen) (hi : i ≤ n) (hl : xs.length = n * k) (hv : vs.length = k) :
    ((w.setCells g (i * k) vs).setCells g ((i + 1) * k) (xs.drop (i * k))).ownsRow base E k (.slice (some ⟨g, 0, none⟩) (n + 1) G) (n + 1) (xs.take (i * k) ++ vs ++ xs.drop (i * k)) := by
  have hik : i * k ≤ n * k := Nat.mul_le_mul_right k hi
  have hnk : (n + 1) * k = n * k + k := by rw [Nat.succ_mul]
  have hi1 : (i + 1) * k = i * k + k := by rw [Nat.succ_mul]
  have hck : (n + 1) * k ≤ G * k := Nat.mul_le_mul_right k hroom
  have hdl : (xs.drop (i * k)).length = n * k - i * k := by rw [List.length_drop, hl]
  have htl : (xs.take (i * k)).length = i * k := by rw [List.length_take, hl]; omega
  have hZl : Z.length = G * k - i * k := by
    have : row.toList.length = G * k := by simpa using hs
    rw [hrow, List.length_append, htl] at this
    omega
  have hg1 := setCells_heap g vs (i * k) w row E hg
  have o1 := over_list vs (xs.take (i * k)) (Z.take k) (Z.drop k) row (by rw [hrow, List.append_assoc, List.take_append_drop]) (by rw [List.length_take, hZl, hv]; omega)
  rw [htl] at o1
  obtain ⟨c1, hc1⟩ : ∃ c1, c1 = over row (i * k) vs := ⟨_, rfl⟩
  rw [← hc1] at o1 hg1
  have hs1 : c1.size = G * k := by rw [hc1, over_size, hs]
  have hg2 := setCells_heap g (xs.drop (i * k)) ((i + 1) * k) _ c1 E hg1
  have hal : (xs.take (i * k) ++ vs).length = (i + 1) * k := by rw [List.length_append, htl, hv, hi1]
  have o2 := over_list (xs.drop (i * k)) (xs.take (i * k) ++ vs) ((Z.drop k).take (n * k - i * k)) ((Z.drop k).drop (n * k - i * k)) c1
    (by rw [o1]; simp only [List.append_assoc, List.take_append_drop]) (by rw [List.length_take, List.length_drop, hZl, hdl]; omega)
  rw [hal] at o2
  refine ⟨?_, .inr ⟨g, G, _, rfl, hb, hg2, hroom, hm, by rw [over_size, hs1], ?_⟩⟩
  · rw [List.length_append, hal, hdl]; omega
  · rw [o2, List.take_append_of_le_length (by rw [List.length_append, hal, hdl]; omega), List.take_of_length_le (by rw [List.length_append, hal, hdl]; omega)]
end Go.Proofs.YtehighgebbdenaaGreatDoor
end
section
namespace Go.Proofs.YtehighgebbdenaaGreatDoor
open Go
section
variable {α : Type} {enc : α → List Value} {k : Nat}
def flat (enc : α → List Value) (L : List α) : List Value := L.flatMap enc
theorem flat_cons (x : α) (L : List α) : flat enc (x :: L) = enc x ++ flat enc L := rfl
theorem flat_append (L M : List α) : flat enc (L ++ M) = flat enc L ++ flat enc M := by simp [flat]
theorem flat_len (hk : ∀ x, (enc x).length = k) : ∀ L : List α, (flat enc L).length = L.length * k
  | [] => by simp [flat]
  | x :: L => by rw [flat_cons, List.length_append, hk, flat_len hk L, List.length_cons, Nat.succ_mul]; omega
theorem flat_take (hk : ∀ x, (enc x).length = k) (L : List α) (i : Nat) (hi : i ≤ L.length) : (flat enc L).take (i * k) = flat enc (L.take i) := by
  conv => lhs; rw [← List.take_append_drop i L]
  rw [flat_append, List.take_append_of_le_length (by rw [flat_len hk]; simp [Nat.min_eq_left hi]), List.take_of_length_le (by rw [flat_len hk]; simp [Nat.min_eq_left hi])]
theorem flat_drop (hk : ∀ x, (enc x).length = k) (L : List α) (i : Nat) (hi : i ≤ L.length) : (flat enc L).drop (i * k) = flat enc (L.drop i) := by
  conv => lhs; rw [← List.take_append_drop i L]
  rw [flat_append, List.drop_append_of_le_length (by rw [flat_len hk]; simp [Nat.min_eq_left hi]), List.drop_of_length_le (by rw [flat_len hk]; simp [Nat.min_eq_left hi])]
  rfl
theorem flat_get (hk : ∀ x, (enc x).length = k) {L : List α} {i c : Nat} {x : α} (hx : L[i]? = some x) (hc : c < k) : (flat enc L)[i * k + c]? = (enc x)[c]? := by
  obtain ⟨hil, hie⟩ := List.getElem?_eq_some_iff.1 hx
  have h1 : (flat enc L)[i * k + c]? = ((flat enc L).drop (i * k))[c]? := by rw [List.getElem?_drop]
  rw [h1, flat_drop hk L i (by omega), List.drop_eq_getElem_cons hil, hie, flat_cons, List.getElem?_append_left (by rw [hk]; exact hc)]
theorem flat_lay (hk : ∀ x, (enc x).length = k) (L : List α) (i : Nat) (hi : i ≤ L.length) (x : α) : flat enc (L.take i ++ x :: L.drop i) = (flat enc L).take (i * k) ++ enc x ++ (flat enc L).drop (i * k) := by
  rw [flat_append, flat_cons, flat_take hk L i hi, flat_drop hk L i hi, List.append_assoc]
theorem flat_set (hk : ∀ x, (enc x).length = k) (L : List α) (i : Nat) (hi : i < L.length) (x : α) : flat enc (L.set i x) = (flat enc L).take (i * k) ++ enc x ++ (flat enc L).drop ((i + 1) * k) := by
  rw [List.set_eq_take_append_cons_drop, if_pos hi, flat_append, flat_cons, flat_take hk L i (by omega), flat_drop hk L (i + 1) (by omega), List.append_assoc]
theorem flat_one (h1 : ∀ x, ∀ v ∈ enc x, v.oneCell' = true) (L : List α) : ∀ v ∈ flat enc L, v.oneCell' = true := by
  intro v hv
  obtain ⟨x, _, hx⟩ := List.mem_flatMap.1 hv
  exact h1 x v hx
end
theorem owns_over {w : World} {base k g n cap : Nat} {E : TypeId} {A B C vs : List Value} (h : w.ownsRow base E k (.slice (some ⟨g, 0, none⟩) n cap) n (A ++ B ++ C)) (hl : B.length = vs.length) :
    (w.setCells g A.length vs).ownsRow base E k (.slice (some ⟨g, 0, none⟩) n cap) n (A ++ vs ++ C) := by
  obtain ⟨hlen, h2⟩ := h
  rcases h2 with ⟨hc, _⟩ | ⟨g', cap', cur, hc, hb, hg, hn, hm, hs, ht⟩
  · cases hc
  · cases hc
    have hlen' : (A ++ vs ++ C).length = n * k := by rw [← hlen]; simp [hl]
    refine ⟨hlen', .inr ⟨g, cap, _, rfl, hb, setCells_heap g vs A.length w cur E hg, hn, hm, by rw [over_size, hs], ?_⟩⟩
    have hcur : cur.toList = A ++ B ++ (C ++ cur.toList.drop (n * k)) := by
      conv => lhs; rw [← List.take_append_drop (n * k) cur.toList]
      rw [ht]; simp
    rw [over_list vs A B _ cur hcur hl, ← List.append_assoc, List.take_append_of_le_length (by omega), List.take_of_length_le (by omega)]
end Go.Proofs.YtehighgebbdenaaGreatDoor
end
section
namespace Go.Proofs.YtehighgebbdenaaGreatDoor
abbrev Plc := Int × Int × ByteArray
abbrev Sta := Int → Option Plc
abbrev Mov := (Int × Int) × Plc
def zeroP : Plc := (0, 0, ⟨#[]⟩)
def noSta : Sta := fun _ => none
def insF (f : Sta) : Nat → Int → Int → Bool
  | 0, _, _ => false
  | n + 1, node, of => match f node with
    | none => false
    | some p => decide (p.2.1 = of) || insF f n p.2.1 of
def Ins (f : Sta) (node of : Int) : Prop := ∃ n, insF f n node of = true
theorem insF_none {f : Sta} {node : Int} (h : f node = none) (n : Nat) (of : Int) : insF f n node of = false := by
  cases n <;> simp [insF, h]
theorem insF_some {f : Sta} {node : Int} {p : Plc} (h : f node = some p) (n : Nat) (of : Int) : insF f (n + 1) node of = (decide (p.2.1 = of) || insF f n p.2.1 of) := by
  simp [insF, h]
theorem ins_none {f : Sta} {node of : Int} (h : f node = none) : ¬ Ins f node of := by
  rintro ⟨n, hn⟩
  rw [insF_none h] at hn
  cases hn
theorem ins_some {f : Sta} {node of : Int} {p : Plc} (h : f node = some p) : Ins f node of ↔ p.2.1 = of ∨ Ins f p.2.1 of := by
  constructor
  · rintro ⟨n, hn⟩
    cases n with
    | zero => simp [insF] at hn
    | succ n =>
      rw [insF_some h, Bool.or_eq_true] at hn
      exact hn.imp (by simp) (fun e => ⟨n, e⟩)
  · rintro (e | ⟨n, hn⟩)
    · exact ⟨1, by rw [insF_some h]; simp [e]⟩
    · exact ⟨n + 1, by rw [insF_some h, hn]; simp⟩
def Ranked (f : Sta) (d : Int → Nat) : Prop := ∀ k p, f k = some p → d p.2.1 < d k
theorem ins_up {f : Sta} {x y : Int} {p : Plc} (h : f x = some p) (hy : p.2.1 = y ∨ Ins f p.2.1 y) : Ins f x y := (ins_some h).2 hy
def upd (f : Sta) (k : Int) (v : Option Plc) : Sta := fun x => if x = k then v else f x
theorem upd_same (f : Sta) (k : Int) (v : Option Plc) : upd f k v k = v := by simp [upd]
theorem upd_other {f : Sta} {k x : Int} {v : Option Plc} (h : x ≠ k) : upd f k v x = f x := by simp [upd, h]
structure FineP (p : Plc) : Prop where
  ne : p.1 ≠ 0
  lo : 0 ≤ p.1
  hi : p.1 < 2 ^ 62
  lo' : 0 ≤ p.2.1
  hi' : p.2.1 < 2 ^ 62
  sz : p.2.2.size ≤ 60
theorem FineP.ne_zero {p : Plc} (h : FineP p) : p ≠ zeroP := fun e => h.ne (by rw [e]; rfl)
structure Good (f : Sta) : Prop where
  rank : ∃ d, Ranked f d
  key : ∀ k p, f k = some p → p.1 = k
  fine : ∀ k p, f k = some p → FineP p
theorem good_no : Good noSta := ⟨⟨fun _ => 0, fun k p h => by simp [noSta] at h⟩, fun k p h => by simp [noSta] at h, fun k p h => by simp [noSta] at h⟩
def Idle (f : Sta) (p : Plc) : Prop := p.1 = p.2.1 ∨ Ins f p.2.1 p.1
def step [∀ (f : Sta) (p : Plc), Decidable (Idle f p)] (f : Sta) (m : Mov) : Sta := if Idle f m.2 then f else upd f m.2.1 (some m.2)
open scoped Classical
theorem step_idle {f : Sta} {m : Mov} (h : Idle f m.2) : step f m = f := by unfold step; rw [if_pos h]
theorem step_goes {f : Sta} {m : Mov} (h : ¬ Idle f m.2) : step f m = upd f m.2.1 (some m.2) := by unfold step; rw [if_neg h]
theorem step_other {f : Sta} {m : Mov} {x : Int} (h : x ≠ m.2.1) : step f m x = f x := by
  by_cases hi : Idle f m.2
  · rw [step_idle hi]
  · rw [step_goes hi, upd_other h]
theorem good_step {f : Sta} {m : Mov} (G : Good f) (hm : FineP m.2) : Good (step f m) := by
  by_cases hi : Idle f m.2
  · rw [step_idle hi]; exact G
  · rw [step_goes hi]
    obtain ⟨s, c, q, nm⟩ := m
    dsimp only at hi hm ⊢
    have hcq : c ≠ q := fun e => hi (.inl e)
    have hqc : ¬ Ins f q c := fun e => hi (.inr e)
    refine ⟨?_, fun k p h => ?_, fun k p h => ?_⟩
    · obtain ⟨d, hd⟩ := G.rank
      classical
      refine ⟨fun x => if x = c ∨ Ins f x c then d x + d q + 1 else d x, fun k p h => ?_⟩
      by_cases hk : k = c
      · subst hk
        rw [upd_same] at h
        cases h
        dsimp only
        rw [if_neg (fun e => e.elim (fun e => hcq e.symm) hqc), if_pos (.inl rfl)]
        omega
      · rw [upd_other hk] at h
        have h1 := hd k p h
        dsimp only
        by_cases hp : p.2.1 = c ∨ Ins f p.2.1 c
        · rw [if_pos hp, if_pos (.inr (ins_up h hp))]
          omega
        · rw [if_neg hp]
          split <;> omega
    · by_cases hk : k = c
      · subst hk; rw [upd_same] at h; cases h; rfl
      · rw [upd_other hk] at h; exact G.key k p h
    · by_cases hk : k = c
      · subst hk; rw [upd_same] at h; cases h; exact hm
      · rw [upd_other hk] at h; exact G.fine k p h
def undo (f : Sta) (node : Int) (fr : Plc) : Sta := upd f node (if fr = zeroP then none else some fr)
theorem undo_step {f : Sta} {m : Mov} (G : Good f) : undo (step f m) m.2.1 ((f m.2.1).getD zeroP) = f := by
  funext x
  unfold undo
  by_cases hx : x = m.2.1
  · subst hx
    rw [upd_same]
    cases h : f m.2.1 with
    | none => simp
    | some p =>
      rw [Option.getD_some, if_neg (G.fine _ p h).ne_zero]
  · rw [upd_other hx, step_other hx]
def foldS [∀ (f : Sta) (p : Plc), Decidable (Idle f p)] (f : Sta) (ms : List Mov) : Sta := ms.foldl step f
theorem foldS_snoc (f : Sta) (ms : List Mov) (m : Mov) : foldS f (ms ++ [m]) = step (foldS f ms) m := by simp [foldS]
theorem good_fold : ∀ (ms : List Mov) (f : Sta), Good f → (∀ m ∈ ms, FineP m.2) → Good (foldS f ms)
  | [], _, G, _ => G
  | m :: r, f, G, h => good_fold r (step f m) (good_step G (h m (by simp))) (fun x hx => h x (by simp [hx]))
def madeBy [∀ (f : Sta) (p : Plc), Decidable (Idle f p)] (ms : List Mov) : Sta := foldS noSta ms
theorem good_made {ms : List Mov} (h : ∀ m ∈ ms, FineP m.2) : Good (madeBy ms) := good_fold ms _ good_no h
theorem made_snoc (ms : List Mov) (m : Mov) : madeBy (ms ++ [m]) = step (madeBy ms) m := foldS_snoc _ _ _
theorem made_take {ms : List Mov} {i : Nat} {m : Mov} (h : ms[i]? = some m) : madeBy (ms.take (i + 1)) = step (madeBy (ms.take i)) m := by
  rw [List.take_add_one, h]
  exact made_snoc _ _
def fromAt [∀ (f : Sta) (p : Plc), Decidable (Idle f p)] (ms : List Mov) (i : Nat) : Plc := match ms[i]? with
  | none => zeroP
  | some m => (madeBy (ms.take i) m.2.1).getD zeroP
def SLt (a b : Int × Int) : Prop := a.1 < b.1 ∨ (a.1 = b.1 ∧ a.2 < b.2)
theorem slt_irrefl {a : Int × Int} : ¬ SLt a a := by unfold SLt; omega
theorem slt_trans {a b c : Int × Int} (h : SLt a b) (k : SLt b c) : SLt a c := by unfold SLt at *; omega
theorem slt_total {a b : Int × Int} (h : a ≠ b) (k : ¬ SLt a b) : SLt b a := by
  obtain ⟨a1, a2⟩ := a
  obtain ⟨b1, b2⟩ := b
  have : ¬ (a1 = b1 ∧ a2 = b2) := fun e => h (by rw [e.1, e.2])
  unfold SLt at *
  dsimp only at *
  omega
def ByStamp (ms : List Mov) : Prop := ms.Pairwise (fun a b => SLt a.1 b.1)
def insAt (ms : List Mov) (i : Nat) (m : Mov) : List Mov := ms.take i ++ m :: ms.drop i
theorem insAt_perm (ms : List Mov) (i : Nat) (m : Mov) : (insAt ms i m).Perm (m :: ms) := by
  unfold insAt
  have h1 : (ms.take i ++ m :: ms.drop i).Perm (m :: (ms.take i ++ ms.drop i)) := List.perm_middle
  rwa [List.take_append_drop] at h1
theorem insAt_length (ms : List Mov) (i : Nat) (m : Mov) : (insAt ms i m).length = ms.length + 1 := by
  rw [(insAt_perm ms i m).length_eq]; rfl
theorem insAt_by {ms : List Mov} {i : Nat} {m : Mov} (h : ByStamp ms) (h1 : ∀ x ∈ ms.take i, SLt x.1 m.1) (h2 : ∀ x ∈ ms.drop i, SLt m.1 x.1) : ByStamp (insAt ms i m) := by
  unfold ByStamp insAt
  rw [List.pairwise_append]
  refine ⟨h.sublist (List.take_sublist _ _), List.pairwise_cons.2 ⟨h2, h.sublist (List.drop_sublist _ _)⟩, fun a ha b hb => ?_⟩
  rcases List.mem_cons.1 hb with rfl | hb
  · exact h1 a ha
  · exact slt_trans (h1 a ha) (h2 b hb)
theorem insAt_take {ms : List Mov} {i : Nat} {m : Mov} (hi : i ≤ ms.length) : (insAt ms i m).take i = ms.take i := by
  unfold insAt
  rw [List.take_append_of_le_length (by simp; omega), List.take_take, Nat.min_self]
theorem byStamp_unique : ∀ {l l' : List Mov}, l.Perm l' → ByStamp l → ByStamp l' → l = l'
  | [], l', hp, _, _ => by have := hp.length_eq; cases l' with | nil => rfl | cons _ _ => simp at this
  | a :: r, [], hp, _, _ => by have := hp.length_eq; simp at this
  | a :: r, b :: r', hp, h, h' => by
    obtain ⟨h1, h2⟩ := List.pairwise_cons.1 h
    obtain ⟨h1', h2'⟩ := List.pairwise_cons.1 h'
    have e : a = b := by
      rcases List.mem_cons.1 (hp.mem_iff.1 (List.mem_cons_self (a := a) (l := r))) with e | ha
      · exact e
      · rcases List.mem_cons.1 (hp.mem_iff.2 (List.mem_cons_self (a := b) (l := r'))) with e | hb
        · exact e.symm
        · exact absurd (slt_trans (h1 b hb) (h1' a ha)) slt_irrefl
    subst e
    rw [byStamp_unique (List.perm_cons a |>.1 hp) h2 h2']
structure IsPlaces (f : Sta) (L : List Plc) : Prop where
  rise : L.Pairwise (fun a b => a.1 < b.1)
  mem : ∀ p, p ∈ L ↔ f p.1 = some p
theorem places_unique : ∀ {L L' : List Plc}, L.Pairwise (fun a b => a.1 < b.1) → L'.Pairwise (fun a b => a.1 < b.1) → (∀ p, p ∈ L ↔ p ∈ L') → L = L'
  | [], [], _, _, _ => rfl
  | [], b :: r', _, _, h => by have := (h b).2 (by simp); simp at this
  | a :: r, [], _, _, h => by have := (h a).1 (by simp); simp at this
  | a :: r, b :: r', hl, hl', h => by
    obtain ⟨h1, h2⟩ := List.pairwise_cons.1 hl
    obtain ⟨h1', h2'⟩ := List.pairwise_cons.1 hl'
    have e : a = b := by
      rcases List.mem_cons.1 ((h a).1 (by simp)) with e | ha
      · exact e
      · rcases List.mem_cons.1 ((h b).2 (by simp)) with e | hb
        · exact e.symm
        · have x := h1 b hb; have y := h1' a ha; omega
    subst e
    rw [places_unique h2 h2' (fun p => ?_)]
    constructor
    · intro hp
      rcases List.mem_cons.1 ((h p).1 (by simp [hp])) with e | hp'
      · subst e; have := h1 p hp; omega
      · exact hp'
    · intro hp
      rcases List.mem_cons.1 ((h p).2 (by simp [hp])) with e | hp'
      · subst e; have := h1' p hp; omega
      · exact hp'
theorem IsPlaces.unique {f : Sta} {L L' : List Plc} (h : IsPlaces f L) (h' : IsPlaces f L') : L = L' :=
  places_unique h.rise h'.rise (fun p => (h.mem p).trans (h'.mem p).symm)
end Go.Proofs.YtehighgebbdenaaGreatDoor
end
section
namespace Go.Proofs.YtehighgebbdenaaGreatDoor
open scoped Classical
abbrev Ent := Mov × Plc
structure LogTo (ms : List Mov) (i : Nat) (L : List Ent) : Prop where
  movs : L.map (·.1) = ms
  from_ : ∀ j x, j < i → L[j]? = some x → x.2 = fromAt ms j
theorem LogTo.len {ms : List Mov} {i : Nat} {L : List Ent} (h : LogTo ms i L) : L.length = ms.length := by rw [← h.movs]; simp
theorem LogTo.mov {ms : List Mov} {i j : Nat} {L : List Ent} (h : LogTo ms i L) {x : Ent} (hx : L[j]? = some x) : ms[j]? = some x.1 := by rw [← h.movs]; simp [hx]
theorem LogTo.mono {ms : List Mov} {i j : Nat} {L : List Ent} (h : LogTo ms i L) (hj : j ≤ i) : LogTo ms j L := ⟨h.movs, fun k x hk hx => h.from_ k x (by omega) hx⟩
theorem logTo_nil : LogTo [] 0 [] := ⟨rfl, fun _ _ h => by omega⟩
theorem fromAt_some {ms : List Mov} {i : Nat} {m : Mov} (h : ms[i]? = some m) : fromAt ms i = (madeBy (ms.take i) m.2.1).getD zeroP := by unfold fromAt; rw [h]
theorem fromAt_congr {ms ms' : List Mov} {i : Nat} (h : ms.take (i + 1) = ms'.take (i + 1)) : fromAt ms i = fromAt ms' i := by
  have h1 : ms[i]? = ms'[i]? := by
    have e1 : (ms.take (i + 1))[i]? = ms[i]? := by rw [List.getElem?_take, if_pos (by omega)]
    have e2 : (ms'.take (i + 1))[i]? = ms'[i]? := by rw [List.getElem?_take, if_pos (by omega)]
    rw [← e1, ← e2, h]
  have h2 : ms.take i = ms'.take i := by
    have e1 : (ms.take (i + 1)).take i = ms.take i := by rw [List.take_take]; congr 1; omega
    have e2 : (ms'.take (i + 1)).take i = ms'.take i := by rw [List.take_take]; congr 1; omega
    rw [← e1, ← e2, h]
  unfold fromAt
  rw [h1, h2]
def layIn (L : List Ent) (i : Nat) (x : Ent) : List Ent := L.take i ++ x :: L.drop i
theorem layIn_to {ms : List Mov} {L : List Ent} {i : Nat} {m : Mov} (h : LogTo ms ms.length L) (hi : i ≤ ms.length) (fr : Plc) : LogTo (insAt ms i m) i (layIn L i (m, fr)) := by
  refine ⟨?_, fun j x hj hx => ?_⟩
  · unfold layIn insAt
    simp [← h.movs, List.map_take, List.map_drop]
  · have hx' : L[j]? = some x := by
      unfold layIn at hx
      rwa [List.getElem?_append_left (by simp; have := h.len; omega), List.getElem?_take, if_pos hj] at hx
    rw [h.from_ j x (by omega) hx']
    refine fromAt_congr ?_
    unfold insAt
    rw [List.take_append_of_le_length (by simp; omega), List.take_take]
    congr 1
    omega
theorem set_to {ms : List Mov} {L : List Ent} {i : Nat} {x : Ent} (h : LogTo ms i L) (hx : L[i]? = some x) : LogTo ms (i + 1) (L.set i (x.1, fromAt ms i)) := by
  refine ⟨?_, fun j y hj hy => ?_⟩
  · rw [← h.movs, List.map_set]
    apply List.ext_getElem?
    intro j
    by_cases e : j = i
    · subst e
      have hl := (List.getElem?_eq_some_iff.1 hx).1
      rw [List.getElem?_set_self (by simpa using hl)]
      simp [hx]
    · rw [List.getElem?_set_ne (by omega)]
  · by_cases e : j = i
    · subst e
      rw [List.getElem?_set_self (List.getElem?_eq_some_iff.1 hx).1] at hy
      cases hy
      rfl
    · rw [List.getElem?_set_ne (by omega)] at hy
      exact h.from_ j y (by omega) hy
def Found (ms : List Mov) (s : Int × Int) (i : Nat) (b : Bool) : Prop :=
  (b = true ∧ ∃ m, ms[i]? = some m ∧ m.1 = s) ∨ (b = false ∧ i ≤ ms.length ∧ (∀ x ∈ ms.take i, SLt x.1 s) ∧ ∀ x ∈ ms.drop i, SLt s x.1)
def Later (ms : List Mov) (s : Int × Int) (i : Nat) : Prop := ∀ x ∈ ms.drop i, SLt s x.1
theorem later_end (ms : List Mov) (s : Int × Int) : Later ms s ms.length := fun x hx => by simp at hx
theorem found_same {ms : List Mov} {s : Int × Int} {i : Nat} {m : Mov} (h : ms[i]? = some m) (e : m.1 = s) : Found ms s i true := .inl ⟨rfl, m, h, e⟩
theorem found_less {ms : List Mov} {s : Int × Int} {i : Nat} {m : Mov} (hb : ByStamp ms) (hl : Later ms s (i + 1)) (h : ms[i]? = some m) (e : SLt m.1 s) : Found ms s (i + 1) false := by
  have hi := (List.getElem?_eq_some_iff.1 h).1
  refine .inr ⟨rfl, by omega, fun x hx => ?_, hl⟩
  rw [List.take_add_one, h] at hx
  rcases List.mem_append.1 hx with hx | hx
  · refine slt_trans ?_ e
    have hp : (ms.take i ++ ms.drop i).Pairwise (fun a b => SLt a.1 b.1) := by rw [List.take_append_drop]; exact hb
    refine (List.pairwise_append.1 hp).2.2 x hx m ?_
    rw [List.mem_iff_getElem?]
    exact ⟨0, by rw [List.getElem?_drop, Nat.add_zero, h]⟩
  · simp at hx
    rw [hx]; exact e
theorem later_step {ms : List Mov} {s : Int × Int} {i : Nat} {m : Mov} (hl : Later ms s (i + 1)) (h : ms[i]? = some m) (ne : m.1 ≠ s) (nl : ¬ SLt m.1 s) : Later ms s i := by
  intro x hx
  have hi := (List.getElem?_eq_some_iff.1 h)
  rw [List.drop_eq_getElem_cons hi.1] at hx
  rcases List.mem_cons.1 hx with rfl | hx
  · rw [hi.2]; exact slt_total ne nl
  · exact hl x hx
theorem found_first {ms : List Mov} {s : Int × Int} (hl : Later ms s 0) : Found ms s 0 false := .inr ⟨rfl, Nat.zero_le _, fun x hx => by simp at hx, hl⟩
theorem found_new {ms : List Mov} {s : Int × Int} {i : Nat} {b : Bool} (h : Found ms s i b) (hn : ∀ m ∈ ms, m.1 ≠ s) : b = false ∧ i ≤ ms.length ∧ (∀ x ∈ ms.take i, SLt x.1 s) ∧ ∀ x ∈ ms.drop i, SLt s x.1 := by
  rcases h with ⟨_, m, hm, e⟩ | h
  · exact absurd e (hn m (List.mem_of_getElem? hm))
  · exact h
end Go.Proofs.YtehighgebbdenaaGreatDoor
end
section
namespace Go.Proofs.YtehighgebbdenaaGreatDoor
open Go Go.Maps
def cellsP (p : Plc) : List Value := [.int .i64 p.1, .int .i64 p.2.1, .string p.2.2]
def encP (p : Plc) : Value := .agg #[.int .i64 p.1, .int .i64 p.2.1, .string p.2.2]
theorem encP_inj {p q : Plc} (h : encP p = encP q) : p = q := by
  obtain ⟨a, b, s⟩ := p
  obtain ⟨a', b', s'⟩ := q
  simp [encP] at h
  obtain ⟨rfl, rfl, rfl⟩ := h
  rfl
def dat (p : Plc) : DataW Unit := .agg [.lit (.int .i64 p.1), .lit (.int .i64 p.2.1), .lit (.string p.2.2.data.toList)]
theorem dat_inj {p q : Plc} (h : dat p = dat q) : p = q := by
  obtain ⟨a, b, ⟨⟨s⟩⟩⟩ := p
  obtain ⟨a', b', ⟨⟨s'⟩⟩⟩ := q
  simp [dat] at h
  obtain ⟨rfl, rfl, rfl⟩ := h
  rfl
def plcL (l : List Value) : Option (DataW Unit × List MemPlace) := match l with
  | [.int .i64 a, .int .i64 b, .string s] => some (dat (a, b, s), [])
  | _ => none
def plcR (v : Value) : Option (DataW Unit × List MemPlace) := match v with
  | .agg cs => plcL cs.toList
  | _ => none
theorem plcR_mk (p : Plc) : plcR (encP p) = some (dat p, []) := rfl
theorem plcL_inv {l : List Value} {z : DataW Unit × List MemPlace} (h : plcL l = some z) : ∃ p : Plc, l = [.int .i64 p.1, .int .i64 p.2.1, .string p.2.2] ∧ z = (dat p, []) := by
  unfold plcL at h
  split at h
  · rename_i a b s
    cases h
    exact ⟨(a, b, s), rfl, rfl⟩
  · cases h
theorem plcR_inv {v : Value} {z : DataW Unit × List MemPlace} (h : plcR v = some z) : ∃ p, v = encP p ∧ z = (dat p, []) := by
  unfold plcR at h
  split at h
  · rename_i cs
    obtain ⟨p, e, rfl⟩ := plcL_inv h
    refine ⟨p, ?_, rfl⟩
    unfold encP
    rw [← e]
  · cases h
def Wf (k : Int) : Prop := (Lit.int .i64 k).wf = true
theorem wf_of {k : Int} (h0 : -2 ^ 63 ≤ k) (h1 : k < 2 ^ 63) : Wf k := by
  unfold Wf
  have e1 : IntKind.i64.min = -2 ^ 63 := by decide
  have e2 : IntKind.i64.max = 2 ^ 63 - 1 := by decide
  simp only [Lit.wf, e1, e2, Bool.and_eq_true, decide_eq_true_eq]
  omega
theorem wf_fine {p : Plc} (h : FineP p) : Wf p.1 ∧ Wf p.2.1 := by
  have h1 := h.lo; have h2 := h.hi; have h3 := h.lo'; have h4 := h.hi'
  exact ⟨wf_of (by omega) (by omega), wf_of (by omega) (by omega)⟩
theorem wf_key {f : Sta} (G : Good f) {k : Int} {p : Plc} (h : f k = some p) : Wf k := by
  have := (wf_fine (G.fine k p h)).1
  rwa [G.key k p h] at this
def ReadsAs (D : DataW Unit) (f : Sta) : Prop := ∀ k, Wf k → match f k with
  | none => has D (.int .i64 k) = false
  | some p => ∀ z, D.atKey (.int .i64 k) z = dat p
theorem ReadsAs.none {D : DataW Unit} {f : Sta} (h : ReadsAs D f) {k : Int} (hk : Wf k) (hf : f k = none) : has D (.int .i64 k) = false := by
  have := h k hk; rw [hf] at this; exact this
theorem ReadsAs.some {D : DataW Unit} {f : Sta} (h : ReadsAs D f) {k : Int} (hk : Wf k) {p : Plc} (hf : f k = some p) (z : DataW Unit) : D.atKey (.int .i64 k) z = dat p := by
  have := h k hk; rw [hf] at this; exact this z
theorem ReadsAs.has {D : DataW Unit} {f : Sta} (h : ReadsAs D f) {k : Int} (hk : Wf k) : Maps.has D (.int .i64 k) = (f k).isSome := by
  cases hf : f k with
  | none => rw [h.none hk hf]; rfl
  | some p => rw [has_true_of_atKey (h.some hk hf)]; rfl
theorem ReadsAs.at {D : DataW Unit} {f : Sta} (h : ReadsAs D f) {k : Int} (hk : Wf k) : D.atKey (.int .i64 k) (dat zeroP) = dat ((f k).getD zeroP) := by
  cases hf : f k with
  | none => rw [atKey_of_not_has (h.none hk hf)]; rfl
  | some p => rw [h.some hk hf]; rfl
theorem lit_ne {a b : Int} (h : a ≠ b) : Lit.int .i64 a ≠ Lit.int .i64 b := fun e => h (by injection e)
section
variable {P : Program} {K E T : TypeId}
def MapAt (P : Program) (K : TypeId) (w : World) (b n : Nat) (f : Sta) : Prop := ∃ D, w.ownsMap P K plcR b n D ∧ ReadsAs D f
theorem MapAt.lt {w : World} {b n : Nat} {f : Sta} (h : MapAt P K w b n f) : b < w.heap.size := by
  obtain ⟨D, h, _⟩ := h; exact h.lt
theorem MapAt.mono {w : World} {b n n' : Nat} {f : Sta} (h : MapAt P K w b n f) (hn : n ≤ n') : MapAt P K w b n' f := by
  obtain ⟨D, h, r⟩ := h; exact ⟨D, h.mono hn, r⟩
theorem MapAt.same {w w' : World} {b n : Nat} {f : Sta} (h : MapAt P K w b n f) (e : w'.heap[b]? = w.heap[b]?) : MapAt P K w' b n f := by
  obtain ⟨D, ⟨es, clock, hb, F⟩, r⟩ := h
  exact ⟨D, ⟨es, clock, e.trans hb, F⟩, r⟩
theorem MapAt.block {w : World} {b n : Nat} {f : Sta} (h : MapAt P K w b n f) : ∃ es clock, w.heap[b]? = some (.map es clock) := by
  obtain ⟨D, ⟨es, clock, hb, F⟩, r⟩ := h
  exact ⟨es, clock, hb⟩
theorem mapAt_made (w : World) : MapAt P K (w.alloc (.map #[] 0)) w.heap.size 0 noSta :=
  ⟨_, World.ownsMap_made w P K plcR, fun _ _ => rfl⟩
theorem MapAt.look {w : World} {b n : Nat} {f : Sta} (h : MapAt P K w b n f) (hK : P.underlying K = some (.int .i64)) (hT : P.underlying T = some (.map K E)) (hz : (zeroValue E).run P w = .ok (encP zeroP) w) {k : Int} (hk : Wf k) :
    (Instr.lookup T (.map (some b)) (.int .i64 k) true).run P w = .ok (.tuple #[encP ((f k).getD zeroP), .bool (f k).isSome]) w := by
  obtain ⟨D, h, r⟩ := h
  obtain ⟨v, ps, hrun, hv⟩ := h.look_ok (int_keyed hK) hT hz (plcR_mk zeroP) (keyOf_int_mk hK hk)
  obtain ⟨p, rfl, hp⟩ := plcR_inv hv
  rw [r.at hk, Prod.mk.injEq] at hp
  rw [hrun, r.has hk, dat_inj hp.1]
theorem MapAt.look1 {w : World} {b n : Nat} {f : Sta} (h : MapAt P K w b n f) (hK : P.underlying K = some (.int .i64)) (hT : P.underlying T = some (.map K E)) (hz : (zeroValue E).run P w = .ok (encP zeroP) w) {k : Int} (hk : Wf k) :
    (Instr.lookup T (.map (some b)) (.int .i64 k) false).run P w = .ok (encP ((f k).getD zeroP)) w := by
  obtain ⟨D, h, r⟩ := h
  obtain ⟨v, ps, hrun, hv⟩ := h.lookup (int_keyed hK) hT hz (plcR_mk zeroP) (keyOf_int_mk hK hk)
  obtain ⟨p, rfl, hp⟩ := plcR_inv hv
  rw [r.at hk, Prod.mk.injEq] at hp
  rw [hrun, dat_inj hp.1]
theorem reads_put {D : DataW Unit} {f : Sta} (h : ReadsAs D f) (hD : IsMap D) (k : Int) (p : Plc) : ReadsAs (D.put (.int .i64 k) (dat p)) (upd f k (some p)) := by
  intro x hx
  by_cases e : x = k
  · subst e
    rw [upd_same]
    exact fun z => atKey_put_same hD (show WideAt.IsKeyLit (.int .i64 x) from trivial) _ _
  · rw [upd_other e]
    cases hf : f x with
    | none => rw [has_put_other (lit_ne e)]; exact h.none hx hf
    | some q => intro z; rw [atKey_put_other (lit_ne e)]; exact h.some hx hf z
theorem reads_del {D : DataW Unit} {f : Sta} (h : ReadsAs D f) (k : Int) : ReadsAs (D.del (.int .i64 k)) (upd f k none) := by
  intro x hx
  by_cases e : x = k
  · subst e
    rw [upd_same]
    exact has_del_same
  · rw [upd_other e]
    cases hf : f x with
    | none => rw [has_del_other (lit_ne e)]; exact h.none hx hf
    | some q => intro z; rw [atKey_del_other (lit_ne e)]; exact h.some hx hf z
theorem MapAt.store {w : World} {b n : Nat} {f : Sta} (h : MapAt P K w b n f) (hK : P.underlying K = some (.int .i64)) (hT : P.underlying T = some (.map K E)) (hn : n < maxLen) {k : Int} (hk : Wf k) (p : Plc) :
    ∃ w', (Instr.mapUpdate T (.map (some b)) (.int .i64 k) (encP p)).run P w = .ok () w' ∧ MapAt P K w' b (n + 1) (upd f k (some p)) ∧ w.mapTurned w' b := by
  obtain ⟨D, h, r⟩ := h
  obtain ⟨w', hrun, h', ht⟩ := h.store (int_keyed hK) hT hn (keyOf_int_mk hK hk) (plcR_mk p)
  exact ⟨w', hrun, ⟨_, h', reads_put r h.isMap k p⟩, ht⟩
theorem MapAt.drop {w : World} {b n : Nat} {f : Sta} (h : MapAt P K w b n f) (hK : P.underlying K = some (.int .i64)) (hT : P.underlying T = some (.map K E)) {k : Int} (hk : Wf k) (ty : TypeId) :
    ∃ w', (Builtin.delete_ #[T, K] ty #[.map (some b), .int .i64 k]).run P w = .ok (.tuple #[]) w' ∧ MapAt P K w' b n (upd f k none) ∧ w.mapTurned w' b := by
  obtain ⟨D, h, r⟩ := h
  obtain ⟨w', hrun, h', ht⟩ := h.drop (int_keyed hK) hT (keyOf_int_mk hK hk) ty
  exact ⟨w', hrun, ⟨_, h', reads_del r k⟩, ht⟩
end
end Go.Proofs.YtehighgebbdenaaGreatDoor
end
