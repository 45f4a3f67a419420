/- A map of marks by structs of node and name: what is looked up and stored in it, in the words of a plain function. -/
import Derived.Test.YtfpmmgboodcfiaaDoorCellList
import Derived.Test.YtfpmmgboodcfiaaDoorProg
import Derived.Maps.OwnSet
import Derived.Maps.RangeWalk
import Derived.DeepKeys4
import Derived.KernelRfl
namespace Go.Proofs.YtfpmmgboodcfiaaDoor
open Go Go.Maps

def encK (k : CKey) : Value := .agg #[.int .i64 k.1, .string k.2]
theorem encK_inj {p q : CKey} (h : encK p = encK q) : p = q := by
  obtain ⟨a, s⟩ := p
  obtain ⟨a', s'⟩ := q
  simp [encK] at h
  obtain ⟨rfl, rfl⟩ := h
  rfl
def encC (c : CMark) : Value := .agg #[.string c.1, .int .i64 c.2.1, .int .i64 c.2.2]
theorem encC_inj {p q : CMark} (h : encC p = encC q) : p = q := by
  obtain ⟨s, a, b⟩ := p
  obtain ⟨s', a', b'⟩ := q
  simp [encC] at h
  obtain ⟨rfl, rfl, rfl⟩ := h
  rfl
def zeroC : CMark := (⟨#[]⟩, 0, 0)
def datC (c : CMark) : DataW Unit := .agg [.lit (.string c.1.data.toList), .lit (.int .i64 c.2.1), .lit (.int .i64 c.2.2)]
theorem datC_inj {p q : CMark} (h : datC p = datC q) : p = q := by
  obtain ⟨⟨⟨s⟩⟩, a, b⟩ := p
  obtain ⟨⟨⟨s'⟩⟩, a', b'⟩ := q
  simp [datC] at h
  obtain ⟨rfl, rfl, rfl⟩ := h
  rfl
def mrkL (l : List Value) : Option (DataW Unit × List MemPlace) := match l with
  | [.string s, .int .i64 a, .int .i64 b] => some (datC (s, a, b), [])
  | _ => none
def mrkR (v : Value) : Option (DataW Unit × List MemPlace) := match v with
  | .agg cs => mrkL cs.toList
  | _ => none
theorem mrkR_mk (c : CMark) : mrkR (encC c) = some (datC c, []) := rfl
theorem mrkL_inv {l : List Value} {z : DataW Unit × List MemPlace} (h : mrkL l = some z) : ∃ c : CMark, l = [.string c.1, .int .i64 c.2.1, .int .i64 c.2.2] ∧ z = (datC c, []) := by
  unfold mrkL at h
  split at h
  · rename_i s a b
    cases h
    exact ⟨(s, a, b), rfl, rfl⟩
  · cases h
theorem mrkR_inv {v : Value} {z : DataW Unit × List MemPlace} (h : mrkR v = some z) : ∃ c, v = encC c ∧ z = (datC c, []) := by
  unfold mrkR at h
  split at h
  · rename_i cs
    obtain ⟨c, e, rfl⟩ := mrkL_inv h
    refine ⟨c, ?_, rfl⟩
    unfold encC
    rw [← e]
  · cases h

/-- The model's order of texts. -/
theorem less_list : ∀ (x y : List UInt8), Op.bytesLess x y = decide (x < y)
  | [], [] => by simp [Op.bytesLess]
  | _ :: _, [] => by simp [Op.bytesLess]
  | [], _ :: _ => by simp [Op.bytesLess]
  | a :: x, b :: y => by
    rw [Op.bytesLess, less_list x y]
    simp only [List.cons_lt_cons_iff]
    by_cases h1 : a < b <;> by_cases h2 : a = b <;> by_cases h3 : x < y <;> simp [h1, h2, h3]
theorem less_bytes (a b : ByteArray) : Op.bytesLess a.toList b.toList = decide (a.data.toList < b.data.toList) := by
  rw [less_list, ByteArray.toList_eq, ByteArray.toList_eq]

/-! ### Keys -/
/-- A key that there can be. -/
def WfK (k : CKey) : Prop := (Lit.int .i64 k.1).wf = true ∧ k.2.size ≤ maxLen
def klit (k : CKey) : Lit := .string (keyBytes [.int .i64 k.1, .string k.2.data.toList])
section
variable {P : Program} {K I S : TypeId} {f g : Field}
theorem keyLits_struct {fs : Array Field} (hu : P.underlying K = some (.struct fs)) (d : Nat) (cs : List Value) : P.keyLits (d + 1) K cs = if cs.length = P.cellsOf K ∧ fs.all (·.name != "_") = true then (fs.toList.mapM fun f => P.keyLits d f.type ((cs.drop f.offset).take (P.cellsOf f.type))).map List.flatten else none := by
  conv => lhs; unfold Program.keyLits
  simp only [hu]
theorem keyLits_int (hI : P.underlying I = some (.int .i64)) (d : Nat) (v : Value) : P.keyLits (d + 1) I [v] = match v with | .int .i64 n => if (Lit.int .i64 n).wf = true then some [.int .i64 n] else none | _ => none := by
  conv => lhs; unfold Program.keyLits
  simp only [hI]
  cases v <;> try rfl
  rename_i q n
  cases q <;> simp
theorem keyLits_str (hS : P.underlying S = some .string) (d : Nat) (v : Value) : P.keyLits (d + 1) S [v] = match v with | .string s => if s.size ≤ maxLen then some [.string s.data.toList] else none | _ => none := by
  conv => lhs; unfold Program.keyLits
  simp only [hS]
  cases v <;> rfl
theorem key_mkP (hu : P.underlying K = some (.struct #[f, g])) (f1 : f.type = I) (f2 : f.offset = 0) (f3 : (f.name != "_") = true) (g1 : g.type = S) (g2 : g.offset = 1) (g3 : (g.name != "_") = true) (hI : P.underlying I = some (.int .i64)) (hS : P.underlying S = some .string) (cK : P.cellsOf K = 2) (cI : P.cellsOf I = 1) (cS : P.cellsOf S = 1) (hT : P.keyType K = true) (e : Nat) (he : P.types.size = e + 1) {k : CKey} (h : WfK k) : keyOf P K (encK k) = some (klit k) := by
  obtain ⟨h1, h2⟩ := h
  have hf : (encK k).formed P K = true := by simp [Value.formed, encK, hu, cK]
  unfold keyOf
  rw [hu]
  dsimp only
  rw [hT, hf]
  simp only [Bool.and_self, if_true]
  rw [keyLits_struct hu, he]
  simp [encK, Value.cells, cK, cI, cS, f1, f2, f3, g1, g2, g3, keyLits_int hI, keyLits_str hS, h1, h2, klit]
theorem key_invP (hw : (match P.underlying K with | some (.array _ _) | some (.struct _) => true | _ => false) = true) (hu : P.underlying K = some (.struct #[f, g])) (f1 : f.type = I) (f2 : f.offset = 0) (g1 : g.type = S) (g2 : g.offset = 1) (hI : P.underlying I = some (.int .i64)) (hS : P.underlying S = some .string) (cK : P.cellsOf K = 2) (cI : P.cellsOf I = 1) (cS : P.cellsOf S = 1) (e : Nat) (he : P.types.size = e + 1) {v : Value} {l : Lit} (h : keyOf P K v = some l) : ∃ k, WfK k ∧ v = encK k ∧ l = klit k := by
  obtain ⟨xs, L, rfl, h1, rfl⟩ := keyOf_top hw h
  rw [keyLits_struct hu, he] at h1
  split at h1
  · rename_i hc
    obtain ⟨a, b, hx⟩ : ∃ a b, xs.toList = [a, b] := by
      rw [cK] at hc
      have h2 := hc.1
      match hl : xs.toList, h2 with
      | [a, b], _ => exact ⟨a, b, rfl⟩
    rw [hx] at h1
    simp only [List.mapM_cons, List.mapM_nil, f1, f2, g1, g2, cI, cS, List.drop_zero, List.take, List.drop, Option.map_eq_some_iff, keyLits_int hI, keyLits_str hS] at h1
    cases a <;> simp at h1
    rename_i q n
    cases q <;> simp at h1
    cases b <;> simp at h1
    rename_i s
    by_cases hwf : (Lit.int .i64 n).wf = true
    · by_cases hsz : s.size ≤ maxLen
      · simp [hwf, hsz] at h1
        subst h1
        refine ⟨(n, s), ⟨hwf, hsz⟩, ?_, rfl⟩
        unfold encK
        congr 1
        rw [← Array.toList_inj, hx]
      · simp [hwf, hsz] at h1
    · simp [hwf] at h1
  · cases h1
end
theorem keyRow : 60 < Tryd.prog.types.size := of_decide_eq_true (by kernel_rfl)
theorem keyWide : (match Tryd.prog.underlying 60 with | some (.array _ _) | some (.struct _) => true | _ => false) = true := by kernel_rfl
theorem keyOut : laidOutB Tryd.prog = true := by kernel_rfl
set_option maxRecDepth 100000 in
theorem lawK : Keyed Tryd.prog 60 := Keyed.of_law (deep_law_laid keyOut (m := 2) (by omega) keyRow (by kernel_rfl) keyWide)
theorem keyIs : Tryd.prog.keyType 60 = true := by kernel_rfl
theorem keyCells : Tryd.prog.cellsOf 60 = 2 := by kernel_rfl
theorem keyCellsI : Tryd.prog.cellsOf 3 = 1 := by kernel_rfl
theorem keyCellsS : Tryd.prog.cellsOf 9 = 1 := by kernel_rfl
theorem keySize : ∃ e, Tryd.prog.types.size = e + 1 := Nat.exists_eq_succ_of_ne_zero (by have := keyRow; omega)
set_option maxRecDepth 100000 in
theorem key_mk {k : CKey} (h : WfK k) : keyOf Tryd.prog 60 (encK k) = some (klit k) := by
  obtain ⟨e, he⟩ := keySize
  exact key_mkP Tryd.underlying60 rfl rfl (by decide) rfl rfl (by decide) Tryd.underlying3 Tryd.underlying9 keyCells keyCellsI keyCellsS keyIs e he h
set_option maxRecDepth 100000 in
theorem key_inv {v : Value} {l : Lit} (h : keyOf Tryd.prog 60 v = some l) : ∃ k, WfK k ∧ v = encK k ∧ l = klit k := by
  obtain ⟨e, he⟩ := keySize
  exact key_invP keyWide Tryd.underlying60 rfl rfl rfl rfl Tryd.underlying3 Tryd.underlying9 keyCells keyCellsI keyCellsS e he h
theorem klit_ne {a b : CKey} (ha : WfK a) (hb : WfK b) (h : a ≠ b) : klit a ≠ klit b := fun e => h (encK_inj (lawK.inj (key_mk ha) (by rw [e]; exact key_mk hb)))
theorem klit_is {k : CKey} : WideAt.IsKeyLit (klit k) := trivial
theorem same_klit {a b : CKey} (ha : WfK a) (hb : WfK b) : Lit.sameKey (klit a) (klit b) = decide (a = b) := by
  by_cases h : a = b
  · subst h
    rw [WideAt.sameKey_self klit_is]
    simp
  · rw [sameKey_ne (klit_ne ha hb h)]
    simp [h]
theorem wf_i64 {k : Int} (h0 : -2 ^ 63 ≤ k) (h1 : k < 2 ^ 63) : (Lit.int .i64 k).wf = true := by
  have e1 : IntKind.i64.min = -2 ^ 63 := by decide
  have e2 : IntKind.i64.max = 2 ^ 63 - 1 := by decide
  simp only [Lit.wf, e1, e2, Bool.and_eq_true, decide_eq_true_eq]
  omega
theorem wfK_of {k : CKey} (h0 : -2 ^ 63 ≤ k.1) (h1 : k.1 < 2 ^ 63) (h2 : k.2.size ≤ 1000000) : WfK k := ⟨wf_i64 h0 h1, by simp only [maxLen]; omega⟩

/-! ### A map of marks -/
def ReadsC (D : DataW Unit) (f : CSta) : Prop := ∀ k, WfK k → match f k with
  | none => has D (klit k) = false
  | some c => ∀ z, D.atKey (klit k) z = datC c
theorem ReadsC.gone {D : DataW Unit} {f : CSta} (h : ReadsC D f) {k : CKey} (hk : WfK k) (hf : f k = none) : has D (klit k) = false := by
  have := h k hk; rw [hf] at this; exact this
theorem ReadsC.held {D : DataW Unit} {f : CSta} (h : ReadsC D f) {k : CKey} (hk : WfK k) {c : CMark} (hf : f k = some c) (z : DataW Unit) : D.atKey (klit k) z = datC c := by
  have := h k hk; rw [hf] at this; exact this z
theorem ReadsC.has {D : DataW Unit} {f : CSta} (h : ReadsC D f) {k : CKey} (hk : WfK k) : Maps.has D (klit k) = (f k).isSome := by
  cases hf : f k with
  | none => rw [h.gone hk hf]; rfl
  | some p => rw [has_true_of_atKey (h.held hk hf)]; rfl
theorem ReadsC.at {D : DataW Unit} {f : CSta} (h : ReadsC D f) {k : CKey} (hk : WfK k) : D.atKey (klit k) (datC zeroC) = datC ((f k).getD zeroC) := by
  cases hf : f k with
  | none => rw [atKey_of_not_has (h.gone hk hf)]; rfl
  | some p => rw [h.held hk hf]; rfl
theorem ReadsC.got {D : DataW Unit} {f : CSta} (h : ReadsC D f) {k : CKey} {c : CMark} (hk : WfK k) (hat : ∀ z, D.atKey (klit k) z = datC c) : f k = some c := by
  have hh := h.has hk
  rw [has_true_of_atKey hat] at hh
  cases hf : f k with
  | none => rw [hf] at hh; cases hh
  | some p =>
    have := h.held hk hf .nil
    rw [hat] at this
    rw [datC_inj this]
theorem readsC_put {D : DataW Unit} {f : CSta} (h : ReadsC D f) (hD : IsMap D) {k : CKey} (hk : WfK k) (c : CMark) : ReadsC (D.put (klit k) (datC c)) (fun x => if x = k then some c else f x) := by
  intro x hx
  dsimp only
  by_cases e : x = k
  · subst e
    rw [if_pos rfl]
    exact fun z => atKey_put_same hD klit_is _ _
  · rw [if_neg e]
    cases hf : f x with
    | none => rw [has_put_other (klit_ne hx hk e)]; exact h.gone hx hf
    | some q => intro z; rw [atKey_put_other (klit_ne hx hk e)]; exact h.held hx hf z

/-- Of keys alone that there can be. -/
def GoodC (f : CSta) : Prop := ∀ k c, f k = some c → WfK k
theorem goodC_none : GoodC noC := fun k c h => by cases h
theorem GoodC.put {f : CSta} (h : GoodC f) {k : CKey} (hk : WfK k) (c : CMark) : GoodC (fun x => if x = k then some c else f x) := by
  intro x d hx
  dsimp only at hx
  split at hx
  · rename_i e; rw [e]; exact hk
  · exact h x d hx

/-- Block b is a map of marks. -/
structure CMapAt (w : World) (b n : Nat) (f : CSta) : Prop where
  reads : ∃ D, w.ownsMap Tryd.prog 60 mrkR b n D ∧ ReadsC D f
  good : GoodC f
theorem CMapAt.lt {w : World} {b n : Nat} {f : CSta} (h : CMapAt w b n f) : b < w.heap.size := by
  obtain ⟨D, h, _⟩ := h.reads; exact h.lt
theorem CMapAt.mono {w : World} {b n n' : Nat} {f : CSta} (h : CMapAt w b n f) (hn : n ≤ n') : CMapAt w b n' f := by
  obtain ⟨⟨D, h, r⟩, g⟩ := h; exact ⟨⟨D, h.mono hn, r⟩, g⟩
theorem CMapAt.same {w w' : World} {b n : Nat} {f : CSta} (h : CMapAt w b n f) (e : w'.heap[b]? = w.heap[b]?) : CMapAt w' b n f := by
  obtain ⟨⟨D, ⟨es, clock, hb, F⟩, r⟩, g⟩ := h
  exact ⟨⟨D, ⟨es, clock, e.trans hb, F⟩, r⟩, g⟩
theorem cmapAt_made (w : World) : CMapAt (w.alloc (.map #[] 0)) w.heap.size 0 noC :=
  ⟨⟨_, World.ownsMap_made w Tryd.prog 60 mrkR, fun _ _ => rfl⟩, goodC_none⟩
theorem zeroCell (w : World) : (zeroValue 62).run Tryd.prog w = .ok (encC zeroC) w := Tryd.zeroValue62 w
theorem CMapAt.look {w : World} {b n : Nat} {f : CSta} (h : CMapAt w b n f) {k : CKey} (hk : WfK k) :
    (Instr.lookup 54 (.map (some b)) (encK k) true).run Tryd.prog w = .ok (.tuple #[encC ((f k).getD zeroC), .bool (f k).isSome]) w := by
  obtain ⟨⟨D, h, r⟩, _⟩ := h
  obtain ⟨v, ps, hrun, hv⟩ := h.look_ok lawK Tryd.underlying54 (zeroCell w) (mrkR_mk zeroC) (key_mk hk)
  obtain ⟨p, rfl, hp⟩ := mrkR_inv hv
  rw [r.at hk, Prod.mk.injEq] at hp
  rw [hrun, r.has hk, datC_inj hp.1]
theorem CMapAt.store {w : World} {b n : Nat} {f : CSta} (h : CMapAt w b n f) (hn : n < maxLen) {k : CKey} (hk : WfK k) (c : CMark) :
    ∃ w', (Instr.mapUpdate 54 (.map (some b)) (encK k) (encC c)).run Tryd.prog w = .ok () w' ∧ CMapAt w' b (n + 1) (fun x => if x = k then some c else f x) ∧ w.mapTurned w' b := by
  obtain ⟨⟨D, h, r⟩, g⟩ := h
  obtain ⟨w', hrun, h', ht⟩ := h.store lawK Tryd.underlying54 hn (key_mk hk) (mrkR_mk c)
  exact ⟨w', hrun, ⟨⟨_, h', readsC_put r h.isMap hk c⟩, g.put hk c⟩, ht⟩
end Go.Proofs.YtfpmmgboodcfiaaDoor
