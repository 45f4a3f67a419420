/- Bytes of a disk, in a row of its own: made of a text, read as a text, cut, one byte more. -/
import Derived.Test.YtcggmagdndhkbaaDoorHexWalks
import Derived.Test.YtcggmagdndhkbaaDoorRowOver
import Derived.Lib.AppendZeros
import Derived.Laws.AppendOwn
set_option linter.unusedVariables false
set_option linter.unusedSimpArgs false
namespace Go.Proofs.YtcggmagdndhkbaaDoor
open Go Go.RowKit Go.Lib Go.Sort

/-- Bytes in a row: none of its cells is frozen. -/
def RowB (w : World) (v : Value) (B : List UInt8) : Prop := ∃ (g cap : Nat) (cur : Array Value) (fr : Nat × Nat), v = .slice (some ⟨g, 0, none⟩) B.length cap ∧ w.heap[g]? = some (.cells cur 5 fr) ∧ (fr = (0, 0) ∨ cur.size ≤ fr.1) ∧ B.length ≤ cap ∧ cap ≤ maxLen ∧ cur.size = cap ∧ cur.toList.take B.length = bytesV B
theorem bytesV_len (B : List UInt8) : (bytesV B).length = B.length := by simp [bytesV]
theorem RowB.lt {w : World} {v : Value} {B : List UInt8} (h : RowB w v B) {g : Nat} (hg : v.ownBlock = some g) : g < w.heap.size := by
  obtain ⟨g', cap, cur, fr, rfl, h1, _⟩ := h
  cases hg
  exact (Array.getElem?_eq_some_iff.1 h1).1
theorem RowB.same {w w' : World} {v : Value} {B : List UInt8} (h : RowB w v B) (e : ∀ g, v.ownBlock = some g → w'.heap[g]? = w.heap[g]?) : RowB w' v B := by
  obtain ⟨g', cap, cur, fr, rfl, h1, h2⟩ := h
  exact ⟨g', cap, cur, fr, rfl, (e g' rfl).trans h1, h2⟩
theorem RowB.shape {w : World} {v : Value} {B : List UInt8} (h : RowB w v B) : ∃ g cap, v = .slice (some ⟨g, 0, none⟩) B.length cap := by
  obtain ⟨g', cap, cur, fr, rfl, _⟩ := h
  exact ⟨g', cap, rfl⟩
theorem RowB.cells {w : World} {g cap : Nat} {B : List UInt8} (h : RowB w (.slice (some ⟨g, 0, none⟩) B.length cap) B) : ∀ j u, (bytesV B)[j]? = some u → w.cell? ((⟨g, 0, none⟩ : Addr).add j) = some u := by
  obtain ⟨g', cap', cur, fr, e, h1, h2, h3, h4, h5, h6⟩ := h
  cases e
  intro j u hu
  rw [Addr.add_lit]
  have : cur[j]? = some u := by
    rw [← h6, List.getElem?_take] at hu
    split at hu
    · simpa using hu
    · cases hu
  simp [World.cell?, h1, this]
/-- Read as a text. -/
theorem RowB.text {w : World} {v : Value} {B : List UInt8} (h : RowB w v B) : Sem.run Tryd.prog (convert 46 9 v) w = .ok (.string ⟨B.toArray⟩) w := by
  obtain ⟨g, cap, rfl⟩ := h.shape
  have hc := h.cells
  refine run_convert_bytes_back w _ _ _ _ _ B Tryd.underlying46 Tryd.underlying5 Tryd.underlying9 (fun j hj => ?_)
  refine hc j _ ?_
  simp [bytesV, List.getElem?_eq_getElem hj]
/-- Made of a text. -/
theorem row_made (w : World) (s : ByteArray) (hs : s.size ≤ 1000000) : ∃ v w', Sem.run Tryd.prog (convert 9 46 (.string s)) w = .ok v w' ∧ RowB w' v s.data.toList ∧ Below w.heap.size w w' ∧ ∀ g, v.ownBlock = some g → w.heap.size ≤ g := by
  have hge := grownCap_ge w s.size 0 5
  have hle := grownCap_le_maxLen w s.size 0 5 (by simp only [maxLen]; omega)
  obtain ⟨cap, hcap⟩ : ∃ cap, cap = grownCap w s.size 0 5 := ⟨_, rfl⟩
  rw [← hcap] at hge hle
  refine ⟨_, _, run_bytes_of_string w 9 46 5 s Tryd.underlying9 Tryd.underlying46 Tryd.underlying5, ?_, ?_, ?_⟩
  · rw [← hcap]
    have hbs : (bytesRow s cap).size = cap := by
      unfold bytesRow
      simp
      have : s.data.size = s.size := rfl
      omega
    refine ⟨w.heap.size, cap, bytesRow s cap, _, by simp, heap_alloc_new w.drew _, .inr (Nat.le_refl _), by simpa using hge, hle, hbs, ?_⟩
    unfold bytesRow bytesV
    rw [Array.toList_append, List.take_append_of_le_length (by simp)]
    simp
    rw [List.take_of_length_le (by simp)]
  · exact ((Below.refl _ w).drew).alloc (by simp) _
  · intro g hg
    cases hg
    exact Nat.le_refl _
/-- Cut. -/
theorem RowB.cut {w : World} {g cap : Nat} {B : List UInt8} (h : RowB w (.slice (some ⟨g, 0, none⟩) B.length cap) B) {n : Nat} (hn : n ≤ B.length) : RowB w (.slice (some ⟨g, 0, none⟩) n cap) (B.take n) := by
  obtain ⟨g', cap', cur, fr, e, h1, h2, h3, h4, h5, h6⟩ := h
  cases e
  refine ⟨g, cap, cur, fr, by rw [List.length_take]; congr 1; omega, h1, h2, by rw [List.length_take]; omega, h4, h5, ?_⟩
  rw [List.length_take, Nat.min_eq_left hn]
  have : (cur.toList.take B.length).take n = (bytesV B).take n := by rw [h6]
  rw [List.take_take, Nat.min_eq_left hn] at this
  rw [this]
  simp [bytesV]
theorem store_byte (w : World) (g n : Nat) (cur : Array Value) (fr : Nat × Nat) (c : UInt8) (hg : w.heap[g]? = some (.cells cur 5 fr)) (hf : fr = (0, 0) ∨ cur.size ≤ fr.1) (hn : n < cur.size) : (storeCells ⟨g, n, none⟩ [.int .u8 (c.toNat : Int)] 0).run Tryd.prog w = .ok () (w.setRow g (cur.setIfInBounds n (.int .u8 (c.toNat : Int)))) := by
  have hadd : (⟨g, n, none⟩ : Addr).add 0 = ⟨g, n, none⟩ := rfl
  have hcell : w.cell? ⟨g, n, none⟩ = some cur[n] := by simp [World.cell?, hg, hn]
  have hfro : w.frozen? ⟨g, n, none⟩ = false := by
    obtain ⟨lo, hi⟩ := fr
    simp only [World.frozen?, hg, Bool.and_eq_false_iff, decide_eq_false_iff_not]
    rcases hf with hf | hf
    · cases hf; right; omega
    · left; simp only at hf; omega
  have hst : (store ((⟨g, n, none⟩ : Addr).add 0) (.int .u8 (c.toNat : Int))).run Tryd.prog w = .ok () (w.setRow g (cur.setIfInBounds n (.int .u8 (c.toNat : Int)))) := by
    rw [hadd, run_store Tryd.prog w _ _ _ rfl, hcell]
    simp [hfro, setCell_eq_setRow w g n cur 5 fr _ hg]
  simp only [storeCells, Sem.run_bind, hst, Result.andThen_ok]
  rfl
/-- One byte more. -/
theorem row_append {w : World} {v : Value} {B : List UInt8} (h : RowB w v B) (a : Addr) (ty : TypeId) (c : UInt8) (hc : w.cell? a = some (.int .u8 (c.toNat : Int))) (hB : B.length < 1000000) :
    ∃ v' w', (Builtin.append_ #[46, 46] ty #[v, .slice (some a) 1 1]).run Tryd.prog w = .ok v' w' ∧ RowB w' v' (B ++ [c]) ∧ w.grownBy w' v.ownBlock ∧ ∀ g, v'.ownBlock = some g → v.ownBlock = some g ∨ w.heap.size ≤ g := by
  obtain ⟨i0, hi, hz0, hz1, hz2⟩ := info_parts infoByte
  have hnews : ∀ j u, [Value.int .u8 (c.toNat : Int)][j]? = some u → w.cell? (a.add j) = some u := fun j u hj => by
    match j, hj with
    | 0, hj =>
      cases hj
      rw [show a.add 0 = a from rfl]
      exact hc
    | j + 1, hj => simp at hj
  obtain ⟨g, cap, hv⟩ := h.shape
  subst hv
  have hcells := h.cells
  obtain ⟨g', cap', cur, fr, e, h1, h2, h3, h4, h5, h6⟩ := h
  cases e
  by_cases hroom : B.length + 1 ≤ cap
  · have hf := run_firstCells_some (P := Tryd.prog) w 1 1 a 1 1 [.int .u8 (c.toNat : Int)] rfl hnews
    have hst := store_byte w g B.length cur fr c h1 h2 (by omega)
    refine ⟨.slice (some ⟨g, 0, none⟩) (B.length + 1) cap, w.setRow g (cur.setIfInBounds B.length (.int .u8 (c.toNat : Int))), ?_, ?_, ⟨rfl, rfl, rfl, by simp, fun k _ hk => setRow_other w g k _ (fun e => hk (by simp [Value.ownBlock, e]))⟩, fun g hg => .inl hg⟩
    · simp [Builtin.append_, run_underlying Tryd.underlying46, sizeOf, typeInfo, hi, hz1, Builtin.lenOf, hroom, hf, Addr.add_lit, hst]
    · refine ⟨g, cap, _, fr, by simp, setRow_heap w g cur _ _ _ h1, by simpa using h2, by simpa using hroom, h4, by simpa using h5, ?_⟩
      rw [List.length_append, List.length_singleton, Array.toList_setIfInBounds, bytesV_append, ← h6]
      have hl : B.length < cur.toList.length := by simp; omega
      have hl' : B.length < (cur.toList.set B.length (Value.int .u8 (c.toNat : Int))).length := by simpa using hl
      rw [List.take_succ_eq_append_getElem hl', List.take_set_of_le (Nat.le_refl _), List.getElem_set_self]
      rfl
  · have hr := run_append_grow (P := Tryd.prog) w 46 ty 5 i0 (.int .u8 0) Tryd.underlying46 hi hz0 ⟨g, 0, none⟩ B.length cap (bytesV B) (by rw [hz1, bytesV_len]; omega) hcells a 1 1 [.int .u8 (c.toNat : Int)] (by rw [hz1]; rfl) hnews (by omega) (by omega) (by rw [hz2]; exact growslice_fits (by omega) (by omega))
    have hge := grownCap_ge w (B.length + 1) cap 5
    have hcm2 : grownCap w (B.length + 1) cap 5 ≤ maxLen := grownCap_le_maxLen w (B.length + 1) cap 5 (by simp only [maxLen]; omega)
    refine ⟨_, _, hr, ⟨w.heap.size, _, _, (0, 0), by simp, heap_alloc_new w.drew _, .inl rfl, by simpa using hge, hcm2, ?_, ?_⟩, ⟨rfl, rfl, rfl, by simp, fun k hk _ => Below.heap_alloc w.drew _ k (by simpa using hk)⟩, fun k hk => ?_⟩
    · have hz1' : (Value.int IntKind.u8 0).cells.size = 1 := rfl
      simp only [Array.size_append, List.size_toArray, size_zeroCells, hz1', bytesV_len]
      simp
      omega
    · simp only [Array.toList_append, List.append_assoc]
      rw [bytesV_append, ← List.append_assoc]
      rw [List.take_append_of_le_length (by simp [bytesV])]
      rw [List.take_of_length_le (by simp [bytesV])]
      rfl
    · cases hk
      exact .inr (Nat.le_refl _)
end Go.Proofs.YtcggmagdndhkbaaDoor
