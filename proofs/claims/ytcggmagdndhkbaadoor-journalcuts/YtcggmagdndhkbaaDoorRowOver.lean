/- A row of cells that is written over from a place on; copy at elements of several cells; what is kept but for some blocks. Of no program. -/
import Derived.Laws.IdiomCopy
import Derived.Laws.OwnMore
import Derived.Below
namespace Go.Proofs.YtcggmagdndhkbaaDoor
open Go Go.RowKit

/-- All that lay there is as it was, but for the blocks of S. -/
structure Keeps (S : Nat → Prop) (w w' : World) : Prop where
  os : w'.os = w.os
  tape : w'.tape = w.tape
  output : w'.output = w.output
  size : w.heap.size ≤ w'.heap.size
  block : ∀ k, k < w.heap.size → ¬ S k → w'.heap[k]? = w.heap[k]?
theorem Keeps.refl (S : Nat → Prop) (w : World) : Keeps S w w := ⟨rfl, rfl, rfl, Nat.le_refl _, fun _ _ _ => rfl⟩
theorem Keeps.trans {S : Nat → Prop} {a b c : World} (h : Keeps S a b) (k : Keeps S b c) : Keeps S a c :=
  ⟨k.os.trans h.os, k.tape.trans h.tape, k.output.trans h.output, Nat.le_trans h.size k.size, fun i hi hs => (k.block i (Nat.lt_of_lt_of_le hi h.size) hs).trans (h.block i hi hs)⟩
/-- What the second keeps need hold of what lay there at the first's begin alone. -/
theorem Keeps.then {S T : Nat → Prop} {a b c : World} (h : Keeps S a b) (k : Keeps T b c) (hT : ∀ i, i < a.heap.size → T i → S i) : Keeps S a c :=
  ⟨k.os.trans h.os, k.tape.trans h.tape, k.output.trans h.output, Nat.le_trans h.size k.size, fun i hi hs => (k.block i (Nat.lt_of_lt_of_le hi h.size) (fun ht => hs (hT i hi ht))).trans (h.block i hi hs)⟩
theorem Keeps.mono {S T : Nat → Prop} {w w' : World} (h : Keeps S w w') (hs : ∀ k, k < w.heap.size → S k → T k) : Keeps T w w' :=
  ⟨h.os, h.tape, h.output, h.size, fun k hk ht => h.block k hk (fun e => ht (hs k hk e))⟩
theorem keeps_of_grown {w w' : World} {row : Option Nat} (h : w.grownBy w' row) : Keeps (fun k => some k = row) w w' :=
  ⟨h.os, h.tape, h.output, h.size, fun k hk hs => h.block k hk hs⟩
theorem keeps_of_below {B : Nat} {w w' : World} (h : Below B w w') : Keeps (fun k => B ≤ k) w w' :=
  ⟨h.os, h.tape, h.output, h.size, fun k _ hs => h.block k (by omega)⟩
theorem Keeps.below {S : Nat → Prop} {w w' : World} (h : Keeps S w w') {B : Nat} (hB : B ≤ w.heap.size) (hs : ∀ k, S k → B ≤ k) : Below B w w' :=
  ⟨h.os, h.tape, h.output, h.size, fun k hk => h.block k (by omega) (fun e => by have := hs k e; omega)⟩
theorem Keeps.drew {S : Nat → Prop} {w w' : World} (h : Keeps S w w') : Keeps S w w'.drew := ⟨h.os, h.tape, h.output, h.size, h.block⟩
theorem Keeps.alloc {S : Nat → Prop} {w w' : World} (h : Keeps S w w') (o : Obj) : Keeps S w (w'.alloc o) :=
  h.then (keeps_of_grown (World.grownBy_alloc w' o none)) (fun _ _ e => by cases e)
theorem Keeps.cell {S : Nat → Prop} {w w' : World} (h : Keeps S w w') {a : Addr} (ha : a.block < w.heap.size) (hs : ¬ S a.block) : w'.cell? a = w.cell? a := World.cell?_of_block (h.block _ ha hs)
theorem Keeps.frozen {S : Nat → Prop} {w w' : World} (h : Keeps S w w') {a : Addr} (ha : a.block < w.heap.size) (hs : ¬ S a.block) : w'.frozen? a = w.frozen? a := World.frozen?_of_block (h.block _ ha hs)

/-- A row, written over from a place on. -/
def over (c : Array Value) : Nat → List Value → Array Value
  | _, [] => c
  | o, v :: r => over (c.setIfInBounds o v) (o + 1) r
theorem over_size : ∀ (vs : List Value) (o : Nat) (c : Array Value), (over c o vs).size = c.size
  | [], _, _ => rfl
  | v :: r, o, c => by rw [over, over_size r]; simp
theorem over_list : ∀ (vs A B C : List Value) (c : Array Value), c.toList = A ++ B ++ C → B.length = vs.length → (over c A.length vs).toList = A ++ vs ++ C
  | [], A, B, C, c, h, hl => by
    have : B = [] := List.length_eq_zero_iff.1 hl
    subst this
    simpa [over] using h
  | v :: r, A, [], C, c, h, hl => by simp at hl
  | v :: r, A, b :: B, C, c, h, hl => by
    have ih := over_list r (A ++ [v]) B C (c.setIfInBounds A.length v) (by simp [h]) (by simpa using hl)
    rw [over]
    simpa using ih

theorem setCells_heap (b : Nat) : ∀ (vs : List Value) (o : Nat) (w : World) (c : Array Value) (t : TypeId), w.heap[b]? = some (.cells c t (0, 0)) → (w.setCells b o vs).heap[b]? = some (.cells (over c o vs) t (0, 0))
  | [], _, _, _, _, h => h
  | v :: r, o, w, c, t, h => setCells_heap b r (o + 1) _ _ t (heap_setCell_same w b o c t v h)
theorem setCells_other (b : Nat) : ∀ (vs : List Value) (o : Nat) (w : World) (k : Nat), k ≠ b → (w.setCells b o vs).heap[k]? = w.heap[k]?
  | [], _, _, _, _ => rfl
  | v :: r, o, w, k, h => by rw [World.setCells, setCells_other b r _ _ k h]; exact heap_setCell_other w ⟨b, o, none⟩ k v h
theorem setCells_keeps (b : Nat) : ∀ (vs : List Value) (o : Nat) (w : World), Keeps (fun k => k = b) w (w.setCells b o vs)
  | [], _, w => Keeps.refl _ w
  | v :: r, o, w => by
    refine Keeps.trans (b := w.setCell ⟨b, o, none⟩ v) ⟨rfl, rfl, rfl, ?_, fun k _ hk => heap_setCell_other w ⟨b, o, none⟩ k v hk⟩ (setCells_keeps b r (o + 1) _)
    simp [World.setCell]

/-- copy at elements of k cells: all is read before anything is written. -/
theorem run_copy_k {P : Program} (w : World) (dT sT ty elem : TypeId) (k b o dLen dCap : Nat) (a : Addr) (sLen sCap : Nat) (cs : List Value)
    (hu : P.underlying dT = some (.slice elem)) (hs : (P.info? elem).map (·.size) = some k) (hn : cs.length = Nat.min sLen dLen * k)
    (hsrc : ∀ j v, cs[j]? = some v → w.cell? (a.add j) = some v) (hc : ∀ j, j < cs.length → (w.cell? ⟨b, o + j, none⟩).isSome = true) (hf : ∀ j, j < cs.length → w.frozen? ⟨b, o + j, none⟩ = false) (h1 : ∀ v ∈ cs, v.oneCell' = true) :
    (Builtin.copy_ #[dT, sT] ty #[.slice (some ⟨b, o, none⟩) dLen dCap, .slice (some a) sLen sCap]).run P w = .ok (goInt (Nat.min sLen dLen)) (w.setCells b o cs) := by
  have hl := run_loadCells_list (P := P) w a cs hsrc
  have hst := run_storeCells_cells (P := P) b o cs 0 w (by simpa using hc) (by simpa using hf) h1
  cases hq : P.info? elem with
  | none => simp [hq] at hs
  | some i =>
    have hi : i.size = k := by simpa [hq] using hs
    simp only [Nat.add_zero] at hst
    simp [Builtin.copy_, run_underlying hu, Builtin.lenOf, Builtin.firstCells, sizeOf, typeInfo, hq, hi, ← hn, hl, hst]

/-- One element is laid in at place i of a row that has room: all from i on goes up, then the new one is written. -/
theorem owns_laidIn {w : World} {base k g n cap i : Nat} {E : TypeId} {xs vs : List Value} (h : w.ownsRow base E k (.slice (some ⟨g, 0, none⟩) n cap) n xs) (hroom : n + 1 ≤ cap) (hi : i ≤ n) (hv : vs.length = k) :
    ((w.setCells g ((i + 1) * k) (xs.drop (i * k))).setCells g (i * k) vs).ownsRow base E k (.slice (some ⟨g, 0, none⟩) (n + 1) cap) (n + 1) (xs.take (i * k) ++ vs ++ xs.drop (i * k)) := by
  obtain ⟨hl, h2⟩ := h
  rcases h2 with ⟨hc, _⟩ | ⟨g', cap', cur, hc, hb, hg, hn, hm, hs, ht⟩
  · cases hc
  · cases hc
    have hik : i * k ≤ n * k := Nat.mul_le_mul_right k hi
    have hnk : (n + 1) * k = n * k + k := by rw [Nat.succ_mul]
    have hi1 : (i + 1) * k = i * k + k := by rw [Nat.succ_mul]
    have hck : (n + 1) * k ≤ cap * k := Nat.mul_le_mul_right k hroom
    have hcl : cur.toList.length = cap * k := by simpa using hs
    have hcur : cur.toList = xs ++ cur.toList.drop (n * k) := by
      conv => lhs; rw [← List.take_append_drop (n * k) cur.toList]
      rw [ht]
    obtain ⟨C, hC⟩ : ∃ C, C = cur.toList.drop (n * k) := ⟨_, rfl⟩
    rw [← hC] at hcur
    have hCl : C.length = cap * k - n * k := by rw [hC, List.length_drop, hcl]
    have hdl : (xs.drop (i * k)).length = n * k - i * k := by rw [List.length_drop, hl]
    have htl : (xs.take (i * k)).length = i * k := by rw [List.length_take, hl]; omega
    -- the first of the two
    have hg1 := setCells_heap g (xs.drop (i * k)) ((i + 1) * k) w cur E hg
    have e1 : (cur.toList.take ((i + 1) * k)).length = (i + 1) * k := by rw [List.length_take, hcl]; omega
    have o1 := over_list (xs.drop (i * k)) (cur.toList.take ((i + 1) * k)) ((cur.toList.drop ((i + 1) * k)).take (n * k - i * k)) ((cur.toList.drop ((i + 1) * k)).drop (n * k - i * k)) cur
      (by rw [List.append_assoc, List.take_append_drop, List.take_append_drop]) (by rw [List.length_take, List.length_drop, hdl, hcl]; omega)
    rw [e1] at o1
    obtain ⟨c1, hc1⟩ : ∃ c1, c1 = over cur ((i + 1) * k) (xs.drop (i * k)) := ⟨_, rfl⟩
    rw [← hc1] at o1 hg1
    have hs1 : c1.size = cap * k := by rw [hc1, over_size, hs]
    -- the second
    have hg2 := setCells_heap g vs (i * k) _ c1 E hg1
    have hA : cur.toList.take ((i + 1) * k) = xs.take (i * k) ++ (cur.toList.drop (i * k)).take k := by
      rw [hi1, List.take_add]
      congr 1
      rw [hcur, List.take_append_of_le_length (by omega)]
    have o2 := over_list vs (xs.take (i * k)) ((cur.toList.drop (i * k)).take k) (xs.drop (i * k) ++ (cur.toList.drop ((i + 1) * k)).drop (n * k - i * k)) c1
      (by rw [o1, hA]; simp [List.append_assoc]) (by rw [List.length_take, List.length_drop, hcl, hv]; omega)
    rw [htl] at o2
    refine ⟨?_, .inr ⟨g, cap, _, rfl, hb, hg2, hroom, hm, by rw [over_size, hs1], ?_⟩⟩
    · rw [List.length_append, List.length_append, htl, hv, hdl]; omega
    · rw [o2, ← List.append_assoc, List.take_append_of_le_length (by rw [List.length_append, List.length_append, htl, hv, hdl]; omega), List.take_of_length_le (by rw [List.length_append, List.length_append, htl, hv, hdl]; omega)]
/-- The same in a new row that holds already what stands ahead. -/
theorem owns_newIn {w : World} {base k g n G i : Nat} {E : TypeId} {xs vs Z : List Value} {row : Array Value} (hg : w.heap[g]? = some (.cells row E (0, 0))) (hrow : row.toList = xs.take (i * k) ++ Z) (hs : row.size = G * k)
    (hb : base ≤ g) (hroom : n + 1 ≤ G) (hm : G ≤ maxLen) (hi : i ≤ n) (hl : xs.length = n * k) (hv : vs.length = k) :
    ((w.setCells g (i * k) vs).setCells g ((i + 1) * k) (xs.drop (i * k))).ownsRow base E k (.slice (some ⟨g, 0, none⟩) (n + 1) G) (n + 1) (xs.take (i * k) ++ vs ++ xs.drop (i * k)) := by
  have hik : i * k ≤ n * k := Nat.mul_le_mul_right k hi
  have hnk : (n + 1) * k = n * k + k := by rw [Nat.succ_mul]
  have hi1 : (i + 1) * k = i * k + k := by rw [Nat.succ_mul]
  have hck : (n + 1) * k ≤ G * k := Nat.mul_le_mul_right k hroom
  have hdl : (xs.drop (i * k)).length = n * k - i * k := by rw [List.length_drop, hl]
  have htl : (xs.take (i * k)).length = i * k := by rw [List.length_take, hl]; omega
  have hZl : Z.length = G * k - i * k := by
    have : row.toList.length = G * k := by simpa using hs
    rw [hrow, List.length_append, htl] at this
    omega
  have hg1 := setCells_heap g vs (i * k) w row E hg
  have o1 := over_list vs (xs.take (i * k)) (Z.take k) (Z.drop k) row (by rw [hrow, List.append_assoc, List.take_append_drop]) (by rw [List.length_take, hZl, hv]; omega)
  rw [htl] at o1
  obtain ⟨c1, hc1⟩ : ∃ c1, c1 = over row (i * k) vs := ⟨_, rfl⟩
  rw [← hc1] at o1 hg1
  have hs1 : c1.size = G * k := by rw [hc1, over_size, hs]
  have hg2 := setCells_heap g (xs.drop (i * k)) ((i + 1) * k) _ c1 E hg1
  have hal : (xs.take (i * k) ++ vs).length = (i + 1) * k := by rw [List.length_append, htl, hv, hi1]
  have o2 := over_list (xs.drop (i * k)) (xs.take (i * k) ++ vs) ((Z.drop k).take (n * k - i * k)) ((Z.drop k).drop (n * k - i * k)) c1
    (by rw [o1]; simp only [List.append_assoc, List.take_append_drop]) (by rw [List.length_take, List.length_drop, hZl, hdl]; omega)
  rw [hal] at o2
  refine ⟨?_, .inr ⟨g, G, _, rfl, hb, hg2, hroom, hm, by rw [over_size, hs1], ?_⟩⟩
  · rw [List.length_append, hal, hdl]; omega
  · rw [o2, List.take_append_of_le_length (by rw [List.length_append, hal, hdl]; omega), List.take_of_length_le (by rw [List.length_append, hal, hdl]; omega)]
end Go.Proofs.YtcggmagdndhkbaaDoor
