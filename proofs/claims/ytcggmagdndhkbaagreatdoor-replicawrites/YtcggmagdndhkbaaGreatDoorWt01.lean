import Derived.Test.YtcggmagdndhkbaaGreatDoorProg
import Derived.Maps.OwnSet
import Derived.Maps.RangeWalk
import Derived.DeepKeys4
import Derived.KernelRfl
import Derived.Lib.Split
import Derived.Lib.Join
import Derived.Lib.ItoaNum
import Derived.Lib.IndexBytes
import Derived.WalkKit
import Derived.WalkSpells
import Derived.Below
import Derived.LaidEql
import Derived.Sort.Grow
import Derived.Deep.LoopGhost
import Derived.Lib.Hide
import Derived.Lib.AppendIntMem
import Derived.Laws.OwnMore
section
namespace Go.Proofs.YtcggmagdndhkbaaGreatDoor
abbrev CLt (a b : Int × Int) : Prop := a.1 < b.1 ∨ (a.1 = b.1 ∧ a.2 < b.2)
theorem clt_irrefl {a : Int × Int} : ¬ CLt a a := by unfold CLt; omega
theorem clt_trans {a b c : Int × Int} (h : CLt a b) (k : CLt b c) : CLt a c := by unfold CLt at *; omega
theorem clt_total {a b : Int × Int} (h : a ≠ b) : CLt a b ∨ CLt b a := by
  unfold CLt
  have : a.1 ≠ b.1 ∨ a.2 ≠ b.2 := by
    rcases a with ⟨x, y⟩
    rcases b with ⟨z, t⟩
    simp only [ne_eq, Prod.mk.injEq] at h
    simp only
    omega
  omega
theorem cnlt {a b : Int × Int} (h : ¬ CLt a b) : b = a ∨ CLt b a := by
  by_cases e : a = b
  · exact .inl e.symm
  · rcases clt_total e with h' | h'
    · exact absurd h' h
    · exact .inr h'
abbrev CKey := Int × ByteArray
abbrev CMark := ByteArray × (Int × Int)
abbrev CSta := CKey → Option CMark
def noC : CSta := fun _ => none
def goesC (f : CSta) (k : CKey) (c : CMark) : Bool := match f k with
  | none => true
  | some o => decide (CLt o.2 c.2)
def setC (f : CSta) (m : CKey × CMark) : CSta := if goesC f m.1 m.2 then fun k => if k = m.1 then some m.2 else f k else f
def foldC (l : List (CKey × CMark)) (f : CSta) : CSta := l.foldl setC f
theorem foldC_snoc (l : List (CKey × CMark)) (m : CKey × CMark) (f : CSta) : foldC (l ++ [m]) f = setC (foldC l f) m := by simp [foldC]
theorem setC_other {f : CSta} {m : CKey × CMark} {k : CKey} (h : k ≠ m.1) : setC f m k = f k := by
  unfold setC
  split
  · exact if_neg h
  · rfl
theorem setC_none {f : CSta} {m : CKey × CMark} (h : f m.1 = none) : setC f m m.1 = some m.2 := by
  unfold setC goesC
  rw [h]
  simp
theorem setC_some {f : CSta} {m : CKey × CMark} {o : CMark} (h : f m.1 = some o) : setC f m m.1 = if CLt o.2 m.2.2 then some m.2 else some o := by
  unfold setC goesC
  rw [h]
  by_cases k : CLt o.2 m.2.2
  · simp [k]
  · simp [k, h]
def BestC (l : List (CKey × CMark)) (k : CKey) (r : Option CMark) : Prop := match r with
  | none => ∀ c, (k, c) ∉ l
  | some c => (k, c) ∈ l ∧ ∀ d, (k, d) ∈ l → ¬ CLt c.2 d.2
theorem bestC_fold (l : List (CKey × CMark)) (k : CKey) : BestC l k (foldC l noC k) := by
  have key : ∀ (n : Nat) (l : List (CKey × CMark)), l.length = n → BestC l k (foldC l noC k) := by
    intro n
    induction n with
    | zero =>
      intro l hn
      obtain rfl := List.length_eq_zero_iff.1 hn
      exact fun c hc => by simp at hc
    | succ n ih =>
      intro l hn
      obtain ⟨s, m, rfl⟩ : ∃ s m, l = s ++ [m] := by
        refine ⟨l.dropLast, l.getLast (by intro e; rw [e] at hn; cases hn), (List.dropLast_concat_getLast _).symm⟩
      have h := ih s (by simpa using hn)
      rw [foldC_snoc]
      by_cases hk : k = m.1
      · subst hk
        cases hf : foldC s noC m.1 with
        | none =>
          rw [hf] at h
          rw [setC_none hf]
          refine ⟨by simp, fun d hd => ?_⟩
          rcases List.mem_append.1 hd with hd | hd
          · exact absurd hd (h d)
          · have e : (m.1, d) = m := by simpa using hd
            have e2 : d = m.2 := by rw [← e]
            rw [e2]
            exact clt_irrefl
        | some o =>
          rw [hf] at h
          rw [setC_some hf]
          by_cases hlt : CLt o.2 m.2.2
          · rw [if_pos hlt]
            refine ⟨by simp, fun d hd => ?_⟩
            rcases List.mem_append.1 hd with hd | hd
            · exact fun hc => h.2 d hd (clt_trans hlt hc)
            · have e : (m.1, d) = m := by simpa using hd
              have e2 : d = m.2 := by rw [← e]
              rw [e2]
              exact clt_irrefl
          · rw [if_neg hlt]
            refine ⟨List.mem_append_left _ h.1, fun d hd => ?_⟩
            rcases List.mem_append.1 hd with hd | hd
            · exact h.2 d hd
            · have e : (m.1, d) = m := by simpa using hd
              have e2 : d = m.2 := by rw [← e]
              rw [e2]
              exact hlt
      · rw [setC_other hk]
        cases hf : foldC s noC k with
        | none =>
          rw [hf] at h
          intro c hc
          rcases List.mem_append.1 hc with hc | hc
          · exact h c hc
          · have e : (k, c) = m := by simpa using hc
            exact hk (by rw [← e])
        | some o =>
          rw [hf] at h
          refine ⟨List.mem_append_left _ h.1, fun d hd => ?_⟩
          rcases List.mem_append.1 hd with hd | hd
          · exact h.2 d hd
          · have e : (k, d) = m := by simpa using hd
            exact absurd (by rw [← e]) hk
  exact key _ l rfl
def OneC (l : List (CKey × CMark)) : Prop := ∀ k c d, (k, c) ∈ l → (k, d) ∈ l → c.2 = d.2 → c = d
theorem bestC_one {l r : List (CKey × CMark)} {k : CKey} {x y : Option CMark} (hm : ∀ m, m ∈ l ↔ m ∈ r) (h1 : OneC l) (hx : BestC l k x) (hy : BestC r k y) : x = y := by
  cases x with
  | none =>
    cases y with
    | none => rfl
    | some d => exact absurd ((hm _).2 hy.1) (hx d)
  | some c =>
    cases y with
    | none => exact absurd ((hm _).1 hx.1) (hy c)
    | some d =>
      have a1 := hx.2 d ((hm _).2 hy.1)
      have a2 := hy.2 c ((hm _).1 hx.1)
      rcases cnlt a1 with e | e
      · rw [h1 k c d hx.1 ((hm _).2 hy.1) e.symm]
      · exact absurd e a2
theorem foldC_turned {l r : List (CKey × CMark)} (hm : ∀ m, m ∈ l ↔ m ∈ r) (h1 : OneC l) : foldC l noC = foldC r noC := by
  funext k
  exact bestC_one hm h1 (bestC_fold l k) (bestC_fold r k)
end Go.Proofs.YtcggmagdndhkbaaGreatDoor
end
section
namespace Go.Proofs.YtcggmagdndhkbaaGreatDoor
abbrev KLt (a b : CKey) : Prop := a.1 < b.1 ∨ (a.1 = b.1 ∧ a.2.data.toList < b.2.data.toList)
theorem bytesExt {a b : ByteArray} (h : a.data.toList = b.data.toList) : a = b := by
  rcases a with ⟨⟨a⟩⟩
  rcases b with ⟨⟨b⟩⟩
  simp only at h
  rw [h]
theorem bytesTotal {a b : List UInt8} (h : a ≠ b) : a < b ∨ b < a := by
  by_cases h1 : a < b
  · exact .inl h1
  · by_cases h2 : b < a
    · exact .inr h2
    · exact absurd (List.le_antisymm (List.not_lt.1 h2) (List.not_lt.1 h1)) h
theorem klt_irrefl {a : CKey} : ¬ KLt a a := by
  rintro (h | ⟨_, h⟩)
  · omega
  · exact List.lt_irrefl _ h
theorem klt_trans {a b c : CKey} (h : KLt a b) (k : KLt b c) : KLt a c := by
  rcases h with h | ⟨h1, h2⟩
  · rcases k with k | ⟨k1, _⟩
    · exact .inl (by omega)
    · exact .inl (by omega)
  · rcases k with k | ⟨k1, k2⟩
    · exact .inl (by omega)
    · exact .inr ⟨by omega, List.lt_trans h2 k2⟩
theorem klt_total {a b : CKey} (h : a ≠ b) : KLt a b ∨ KLt b a := by
  by_cases h1 : a.1 = b.1
  · have h2 : a.2.data.toList ≠ b.2.data.toList := fun e => h (Prod.ext h1 (bytesExt e))
    rcases bytesTotal h2 with k | k
    · exact .inl (.inr ⟨h1, k⟩)
    · exact .inr (.inr ⟨h1.symm, k⟩)
  · by_cases h2 : a.1 < b.1
    · exact .inl (.inl h2)
    · exact .inr (.inl (by omega))
theorem rise_unique {α : Type} {R : α → α → Prop} (irr : ∀ a, ¬ R a a) (tr : ∀ a b c, R a b → R b c → R a c) : ∀ {L M : List α}, L.Pairwise R → M.Pairwise R → (∀ p, p ∈ L ↔ p ∈ M) → L = M
  | [], [], _, _, _ => rfl
  | [], b :: r, _, _, h => by have := (h b).2 (by simp); simp at this
  | a :: r, [], _, _, h => by have := (h a).1 (by simp); simp at this
  | a :: r, b :: s, hl, hm, h => by
    obtain ⟨h1, h2⟩ := List.pairwise_cons.1 hl
    obtain ⟨k1, k2⟩ := List.pairwise_cons.1 hm
    have e : a = b := by
      rcases List.mem_cons.1 ((h a).1 (by simp)) with e | ha
      · exact e
      · rcases List.mem_cons.1 ((h b).2 (by simp)) with e | hb
        · exact e.symm
        · exact absurd (tr _ _ _ (h1 b hb) (k1 a ha)) (irr a)
    subst e
    rw [rise_unique irr tr h2 k2 (fun p => ?_)]
    constructor
    · intro hp
      rcases List.mem_cons.1 ((h p).1 (by simp [hp])) with e | hp'
      · subst e; exact absurd (h1 p hp) (irr p)
      · exact hp'
    · intro hp
      rcases List.mem_cons.1 ((h p).2 (by simp [hp])) with e | hp'
      · subst e; exact absurd (k1 p hp) (irr p)
      · exact hp'
theorem setC_goes {f : CSta} {m : CKey × CMark} (h : goesC f m.1 m.2 = true) : setC f m = fun k => if k = m.1 then some m.2 else f k := by unfold setC; rw [if_pos h]
theorem setC_stays {f : CSta} {m : CKey × CMark} (h : goesC f m.1 m.2 = false) : setC f m = f := by unfold setC; rw [if_neg (by rw [h]; simp)]
abbrev Mrk := Int × ByteArray × ByteArray
abbrev keyM (m : Mrk) : CKey := (m.1, m.2.1)
structure IsMarks (f : CSta) (L : List Mrk) : Prop where
  rise : L.Pairwise (fun a b => KLt (keyM a) (keyM b))
  mem : ∀ p : Mrk, p ∈ L ↔ p.2.2.size ≠ 0 ∧ ∃ s, f (keyM p) = some (p.2.2, s)
theorem IsMarks.unique {f : CSta} {L M : List Mrk} (h : IsMarks f L) (k : IsMarks f M) : L = M :=
  rise_unique (R := fun a b => KLt (keyM a) (keyM b)) (fun _ => klt_irrefl) (fun _ _ _ => klt_trans) h.rise k.rise (fun p => (h.mem p).trans (k.mem p).symm)
structure Lists (f : CSta) (L : List (CKey × CMark)) : Prop where
  rise : L.Pairwise (fun a b => KLt a.1 b.1)
  mem : ∀ k c, (k, c) ∈ L ↔ f k = some c
end Go.Proofs.YtcggmagdndhkbaaGreatDoor
end
section
namespace Go.Proofs.YtcggmagdndhkbaaGreatDoor
open Go Go.Maps
def encK (k : CKey) : Value := .agg #[.int .i64 k.1, .string k.2]
theorem encK_inj {p q : CKey} (h : encK p = encK q) : p = q := by
  obtain ⟨a, s⟩ := p
  obtain ⟨a', s'⟩ := q
  simp [encK] at h
  obtain ⟨rfl, rfl⟩ := h
  rfl
def encC (c : CMark) : Value := .agg #[.string c.1, .int .i64 c.2.1, .int .i64 c.2.2]
theorem encC_inj {p q : CMark} (h : encC p = encC q) : p = q := by
  obtain ⟨s, a, b⟩ := p
  obtain ⟨s', a', b'⟩ := q
  simp [encC] at h
  obtain ⟨rfl, rfl, rfl⟩ := h
  rfl
def zeroC : CMark := (⟨#[]⟩, 0, 0)
def datC (c : CMark) : DataW Unit := .agg [.lit (.string c.1.data.toList), .lit (.int .i64 c.2.1), .lit (.int .i64 c.2.2)]
theorem datC_inj {p q : CMark} (h : datC p = datC q) : p = q := by
  obtain ⟨⟨⟨s⟩⟩, a, b⟩ := p
  obtain ⟨⟨⟨s'⟩⟩, a', b'⟩ := q
  simp [datC] at h
  obtain ⟨rfl, rfl, rfl⟩ := h
  rfl
def mrkL (l : List Value) : Option (DataW Unit × List MemPlace) := match l with
  | [.string s, .int .i64 a, .int .i64 b] => some (datC (s, a, b), [])
  | _ => none
def mrkR (v : Value) : Option (DataW Unit × List MemPlace) := match v with
  | .agg cs => mrkL cs.toList
  | _ => none
theorem mrkR_mk (c : CMark) : mrkR (encC c) = some (datC c, []) := rfl
theorem mrkL_inv {l : List Value} {z : DataW Unit × List MemPlace} (h : mrkL l = some z) : ∃ c : CMark, l = [.string c.1, .int .i64 c.2.1, .int .i64 c.2.2] ∧ z = (datC c, []) := by
  unfold mrkL at h
  split at h
  · rename_i s a b
    cases h
    exact ⟨(s, a, b), rfl, rfl⟩
  · cases h
theorem mrkR_inv {v : Value} {z : DataW Unit × List MemPlace} (h : mrkR v = some z) : ∃ c, v = encC c ∧ z = (datC c, []) := by
  unfold mrkR at h
  split at h
  · rename_i cs
    obtain ⟨c, e, rfl⟩ := mrkL_inv h
    refine ⟨c, ?_, rfl⟩
    unfold encC
    rw [← e]
  · cases h
theorem less_list : ∀ (x y : List UInt8), Op.bytesLess x y = decide (x < y)
  | [], [] => by simp [Op.bytesLess]
  | _ :: _, [] => by simp [Op.bytesLess]
  | [], _ :: _ => by simp [Op.bytesLess]
  | a :: x, b :: y => by
    rw [Op.bytesLess, less_list x y]
    simp only [List.cons_lt_cons_iff]
    by_cases h1 : a < b <;> by_cases h2 : a = b <;> by_cases h3 : x < y <;> simp [h1, h2, h3]
theorem less_bytes (a b : ByteArray) : Op.bytesLess a.toList b.toList = decide (a.data.toList < b.data.toList) := by
  rw [less_list, ByteArray.toList_eq, ByteArray.toList_eq]
def WfK (k : CKey) : Prop := (Lit.int .i64 k.1).wf = true ∧ k.2.size ≤ maxLen
def klit (k : CKey) : Lit := .string (keyBytes [.int .i64 k.1, .string k.2.data.toList])
section
variable {P : Program} {K I S : TypeId} {f g : Field}
theorem keyLits_struct {fs : Array Field} (hu : P.underlying K = some (.struct fs)) (d : Nat) (cs : List Value) : P.keyLits (d + 1) K cs = if cs.length = P.cellsOf K ∧ fs.all (·.name != "_") = true then (fs.toList.mapM fun f => P.keyLits d f.type ((cs.drop f.offset).take (P.cellsOf f.type))).map List.flatten else none := by
  conv => lhs; unfold Program.keyLits
  simp only [hu]
theorem keyLits_int (hI : P.underlying I = some (.int .i64)) (d : Nat) (v : Value) : P.keyLits (d + 1) I [v] = match v with | .int .i64 n => if (Lit.int .i64 n).wf = true then some [.int .i64 n] else none | _ => none := by
  conv => lhs; unfold Program.keyLits
  simp only [hI]
  cases v <;> try rfl
  rename_i q n
  cases q <;> simp
theorem keyLits_str (hS : P.underlying S = some .string) (d : Nat) (v : Value) : P.keyLits (d + 1) S [v] = match v with | .string s => if s.size ≤ maxLen then some [.string s.data.toList] else none | _ => none := by
  conv => lhs; unfold Program.keyLits
  simp only [hS]
  cases v <;> rfl
theorem key_mkP (hu : P.underlying K = some (.struct #[f, g])) (f1 : f.type = I) (f2 : f.offset = 0) (f3 : (f.name != "_") = true) (g1 : g.type = S) (g2 : g.offset = 1) (g3 : (g.name != "_") = true) (hI : P.underlying I = some (.int .i64)) (hS : P.underlying S = some .string) (cK : P.cellsOf K = 2) (cI : P.cellsOf I = 1) (cS : P.cellsOf S = 1) (hT : P.keyType K = true) (e : Nat) (he : P.types.size = e + 1) {k : CKey} (h : WfK k) : keyOf P K (encK k) = some (klit k) := by
  obtain ⟨h1, h2⟩ := h
  have hf : (encK k).formed P K = true := by simp [Value.formed, encK, hu, cK]
  unfold keyOf
  rw [hu]
  dsimp only
  rw [hT, hf]
  simp only [Bool.and_self, if_true]
  rw [keyLits_struct hu, he]
  simp [encK, Value.cells, cK, cI, cS, f1, f2, f3, g1, g2, g3, keyLits_int hI, keyLits_str hS, h1, h2, klit]
theorem key_invP (hw : (match P.underlying K with | some (.array _ _) | some (.struct _) => true | _ => false) = true) (hu : P.underlying K = some (.struct #[f, g])) (f1 : f.type = I) (f2 : f.offset = 0) (g1 : g.type = S) (g2 : g.offset = 1) (hI : P.underlying I = some (.int .i64)) (hS : P.underlying S = some .string) (cK : P.cellsOf K = 2) (cI : P.cellsOf I = 1) (cS : P.cellsOf S = 1) (e : Nat) (he : P.types.size = e + 1) {v : Value} {l : Lit} (h : keyOf P K v = some l) : ∃ k, WfK k ∧ v = encK k ∧ l = klit k := by
  obtain ⟨xs, L, rfl, h1, rfl⟩ := keyOf_top hw h
  rw [keyLits_struct hu, he] at h1
  split at h1
  · rename_i hc
    obtain ⟨a, b, hx⟩ : ∃ a b, xs.toList = [a, b] := by
      rw [cK] at hc
      have h2 := hc.1
      match hl : xs.toList, h2 with
      | [a, b], _ => exact ⟨a, b, rfl⟩
    rw [hx] at h1
    simp only [List.mapM_cons, List.mapM_nil, f1, f2, g1, g2, cI, cS, List.drop_zero, List.take, List.drop, Option.map_eq_some_iff, keyLits_int hI, keyLits_str hS] at h1
    cases a <;> simp at h1
    rename_i q n
    cases q <;> simp at h1
    cases b <;> simp at h1
    rename_i s
    by_cases hwf : (Lit.int .i64 n).wf = true
    · by_cases hsz : s.size ≤ maxLen
      · simp [hwf, hsz] at h1
        subst h1
        refine ⟨(n, s), ⟨hwf, hsz⟩, ?_, rfl⟩
        unfold encK
        congr 1
        rw [← Array.toList_inj, hx]
      · simp [hwf, hsz] at h1
    · simp [hwf] at h1
  · cases h1
end
theorem keyRow : 234 < Tryz.prog.types.size := of_decide_eq_true (by kernel_rfl)
theorem keyWide : (match Tryz.prog.underlying 234 with | some (.array _ _) | some (.struct _) => true | _ => false) = true := by kernel_rfl
theorem keyOut : laidOutB Tryz.prog = true := by kernel_rfl
set_option maxRecDepth 100000 in
theorem lawK : Keyed Tryz.prog 234 := Keyed.of_law (deep_law_laid keyOut (m := 2) (by omega) keyRow (by kernel_rfl) keyWide)
theorem keyIs : Tryz.prog.keyType 234 = true := by kernel_rfl
theorem keyCells : Tryz.prog.cellsOf 234 = 2 := by kernel_rfl
theorem keyCellsI : Tryz.prog.cellsOf 3 = 1 := by kernel_rfl
theorem keyCellsS : Tryz.prog.cellsOf 9 = 1 := by kernel_rfl
theorem keySize : ∃ e, Tryz.prog.types.size = e + 1 := Nat.exists_eq_succ_of_ne_zero (by have := keyRow; omega)
set_option maxRecDepth 100000 in
theorem key_mk {k : CKey} (h : WfK k) : keyOf Tryz.prog 234 (encK k) = some (klit k) := by
  obtain ⟨e, he⟩ := keySize
  exact key_mkP Tryz.underlying234 rfl rfl (by decide) rfl rfl (by decide) Tryz.underlying3 Tryz.underlying9 keyCells keyCellsI keyCellsS keyIs e he h
set_option maxRecDepth 100000 in
theorem key_inv {v : Value} {l : Lit} (h : keyOf Tryz.prog 234 v = some l) : ∃ k, WfK k ∧ v = encK k ∧ l = klit k := by
  obtain ⟨e, he⟩ := keySize
  exact key_invP keyWide Tryz.underlying234 rfl rfl rfl rfl Tryz.underlying3 Tryz.underlying9 keyCells keyCellsI keyCellsS e he h
theorem klit_ne {a b : CKey} (ha : WfK a) (hb : WfK b) (h : a ≠ b) : klit a ≠ klit b := fun e => h (encK_inj (lawK.inj (key_mk ha) (by rw [e]; exact key_mk hb)))
theorem klit_is {k : CKey} : WideAt.IsKeyLit (klit k) := trivial
theorem same_klit {a b : CKey} (ha : WfK a) (hb : WfK b) : Lit.sameKey (klit a) (klit b) = decide (a = b) := by
  by_cases h : a = b
  · subst h
    rw [WideAt.sameKey_self klit_is]
    simp
  · rw [sameKey_ne (klit_ne ha hb h)]
    simp [h]
theorem wf_i64 {k : Int} (h0 : -2 ^ 63 ≤ k) (h1 : k < 2 ^ 63) : (Lit.int .i64 k).wf = true := by
  have e1 : IntKind.i64.min = -2 ^ 63 := by decide
  have e2 : IntKind.i64.max = 2 ^ 63 - 1 := by decide
  simp only [Lit.wf, e1, e2, Bool.and_eq_true, decide_eq_true_eq]
  omega
theorem wfK_of {k : CKey} (h0 : -2 ^ 63 ≤ k.1) (h1 : k.1 < 2 ^ 63) (h2 : k.2.size ≤ 1000000) : WfK k := ⟨wf_i64 h0 h1, by simp only [maxLen]; omega⟩
def ReadsC (D : DataW Unit) (f : CSta) : Prop := ∀ k, WfK k → match f k with
  | none => has D (klit k) = false
  | some c => ∀ z, D.atKey (klit k) z = datC c
theorem ReadsC.gone {D : DataW Unit} {f : CSta} (h : ReadsC D f) {k : CKey} (hk : WfK k) (hf : f k = none) : has D (klit k) = false := by
  have := h k hk; rw [hf] at this; exact this
theorem ReadsC.held {D : DataW Unit} {f : CSta} (h : ReadsC D f) {k : CKey} (hk : WfK k) {c : CMark} (hf : f k = some c) (z : DataW Unit) : D.atKey (klit k) z = datC c := by
  have := h k hk; rw [hf] at this; exact this z
theorem ReadsC.has {D : DataW Unit} {f : CSta} (h : ReadsC D f) {k : CKey} (hk : WfK k) : Maps.has D (klit k) = (f k).isSome := by
  cases hf : f k with
  | none => rw [h.gone hk hf]; rfl
  | some p => rw [has_true_of_atKey (h.held hk hf)]; rfl
theorem ReadsC.at {D : DataW Unit} {f : CSta} (h : ReadsC D f) {k : CKey} (hk : WfK k) : D.atKey (klit k) (datC zeroC) = datC ((f k).getD zeroC) := by
  cases hf : f k with
  | none => rw [atKey_of_not_has (h.gone hk hf)]; rfl
  | some p => rw [h.held hk hf]; rfl
theorem ReadsC.got {D : DataW Unit} {f : CSta} (h : ReadsC D f) {k : CKey} {c : CMark} (hk : WfK k) (hat : ∀ z, D.atKey (klit k) z = datC c) : f k = some c := by
  have hh := h.has hk
  rw [has_true_of_atKey hat] at hh
  cases hf : f k with
  | none => rw [hf] at hh; cases hh
  | some p =>
    have := h.held hk hf .nil
    rw [hat] at this
    rw [datC_inj this]
theorem readsC_put {D : DataW Unit} {f : CSta} (h : ReadsC D f) (hD : IsMap D) {k : CKey} (hk : WfK k) (c : CMark) : ReadsC (D.put (klit k) (datC c)) (fun x => if x = k then some c else f x) := by
  intro x hx
  dsimp only
  by_cases e : x = k
  · subst e
    rw [if_pos rfl]
    exact fun z => atKey_put_same hD klit_is _ _
  · rw [if_neg e]
    cases hf : f x with
    | none => rw [has_put_other (klit_ne hx hk e)]; exact h.gone hx hf
    | some q => intro z; rw [atKey_put_other (klit_ne hx hk e)]; exact h.held hx hf z
def GoodC (f : CSta) : Prop := ∀ k c, f k = some c → WfK k
theorem goodC_none : GoodC noC := fun k c h => by cases h
theorem GoodC.put {f : CSta} (h : GoodC f) {k : CKey} (hk : WfK k) (c : CMark) : GoodC (fun x => if x = k then some c else f x) := by
  intro x d hx
  dsimp only at hx
  split at hx
  · rename_i e; rw [e]; exact hk
  · exact h x d hx
structure CMapAt (w : World) (b n : Nat) (f : CSta) : Prop where
  reads : ∃ D, w.ownsMap Tryz.prog 234 mrkR b n D ∧ ReadsC D f
  good : GoodC f
theorem CMapAt.lt {w : World} {b n : Nat} {f : CSta} (h : CMapAt w b n f) : b < w.heap.size := by
  obtain ⟨D, h, _⟩ := h.reads; exact h.lt
theorem CMapAt.mono {w : World} {b n n' : Nat} {f : CSta} (h : CMapAt w b n f) (hn : n ≤ n') : CMapAt w b n' f := by
  obtain ⟨⟨D, h, r⟩, g⟩ := h; exact ⟨⟨D, h.mono hn, r⟩, g⟩
theorem CMapAt.same {w w' : World} {b n : Nat} {f : CSta} (h : CMapAt w b n f) (e : w'.heap[b]? = w.heap[b]?) : CMapAt w' b n f := by
  obtain ⟨⟨D, ⟨es, clock, hb, F⟩, r⟩, g⟩ := h
  exact ⟨⟨D, ⟨es, clock, e.trans hb, F⟩, r⟩, g⟩
theorem cmapAt_made (w : World) : CMapAt (w.alloc (.map #[] 0)) w.heap.size 0 noC :=
  ⟨⟨_, World.ownsMap_made w Tryz.prog 234 mrkR, fun _ _ => rfl⟩, goodC_none⟩
theorem zeroCell (w : World) : (zeroValue 236).run Tryz.prog w = .ok (encC zeroC) w := Tryz.zeroValue236 w
theorem CMapAt.look {w : World} {b n : Nat} {f : CSta} (h : CMapAt w b n f) {k : CKey} (hk : WfK k) :
    (Instr.lookup 186 (.map (some b)) (encK k) true).run Tryz.prog w = .ok (.tuple #[encC ((f k).getD zeroC), .bool (f k).isSome]) w := by
  obtain ⟨⟨D, h, r⟩, _⟩ := h
  obtain ⟨v, ps, hrun, hv⟩ := h.look_ok lawK Tryz.underlying186 (zeroCell w) (mrkR_mk zeroC) (key_mk hk)
  obtain ⟨p, rfl, hp⟩ := mrkR_inv hv
  rw [r.at hk, Prod.mk.injEq] at hp
  rw [hrun, r.has hk, datC_inj hp.1]
theorem CMapAt.store {w : World} {b n : Nat} {f : CSta} (h : CMapAt w b n f) (hn : n < maxLen) {k : CKey} (hk : WfK k) (c : CMark) :
    ∃ w', (Instr.mapUpdate 186 (.map (some b)) (encK k) (encC c)).run Tryz.prog w = .ok () w' ∧ CMapAt w' b (n + 1) (fun x => if x = k then some c else f x) ∧ w.mapTurned w' b := by
  obtain ⟨⟨D, h, r⟩, g⟩ := h
  obtain ⟨w', hrun, h', ht⟩ := h.store lawK Tryz.underlying186 hn (key_mk hk) (mrkR_mk c)
  exact ⟨w', hrun, ⟨⟨_, h', readsC_put r h.isMap hk c⟩, g.put hk c⟩, ht⟩
end Go.Proofs.YtcggmagdndhkbaaGreatDoor
end
section
namespace Go.Proofs.YtcggmagdndhkbaaGreatDoor
open Go Go.Maps
def AllM (f : CSta) (ps : List Mrk) : Prop := (ps.map keyM).Nodup ∧ ∀ p : Mrk, p ∈ ps ↔ p.2.2.size ≠ 0 ∧ ∃ s, f (keyM p) = some (p.2.2, s)
theorem AllM.marks {f : CSta} {ps qs : List Mrk} (h : AllM f ps) (hp : qs.Perm ps) (hs : qs.Pairwise (fun a b => ¬ KLt (keyM b) (keyM a))) : IsMarks f qs := by
  refine ⟨?_, fun p => (hp.mem_iff).trans (h.2 p)⟩
  have hn : (qs.map keyM).Nodup := (hp.map _).nodup_iff.2 h.1
  have hn' : qs.Pairwise (fun a b => keyM a ≠ keyM b) := List.pairwise_map.1 hn
  exact (hs.and hn').imp (fun {a b} h => by
    rcases klt_total h.2 with q | q
    · exact q
    · exact absurd q h.1)
def CollM (f : CSta) (left : Lit → Bool) (ps : List Mrk) : Prop :=
  (ps.map keyM).Nodup ∧ (∀ p ∈ ps, (p.2.2.size ≠ 0 ∧ ∃ s, f (keyM p) = some (p.2.2, s)) ∧ left (klit (keyM p)) = false) ∧ ∀ k c, f k = some c → left (klit k) = false → c.1.size ≠ 0 → (k.1, k.2, c.1) ∈ ps
theorem collM_start {D : DataW Unit} {f : CSta} (hr : ReadsC D f) (hg : GoodC f) : CollM f (has D) [] :=
  ⟨List.nodup_nil, fun p hp => by simp at hp, fun k c hf hl _ => by rw [hr.has (hg k c hf), hf] at hl; cases hl⟩
theorem CollM.skip {f : CSta} {left : Lit → Bool} {ps : List Mrk} (h : CollM f left ps) (hg : GoodC f) {x : CKey} {c : CMark} (hx : WfK x) (hf : f x = some c) (hc : c.1.size = 0) : CollM f (fun z => left z && !z.sameKey (klit x)) ps := by
  obtain ⟨h1, h2, h3⟩ := h
  refine ⟨h1, fun p hp => ⟨(h2 p hp).1, ?_⟩, fun k d hk hl hd => ?_⟩
  · show (left (klit (keyM p)) && _) = false
    rw [(h2 p hp).2]
    rfl
  · have hl : (left (klit k) && !Lit.sameKey (klit k) (klit x)) = false := hl
    rw [same_klit (hg k d hk) hx] at hl
    by_cases e : k = x
    · subst e
      rw [hf] at hk
      cases hk
      exact absurd hc hd
    · exact h3 k d hk (by simpa [e] using hl) hd
theorem CollM.step {f : CSta} {left : Lit → Bool} {ps : List Mrk} (h : CollM f left ps) (hg : GoodC f) {x : CKey} {c : CMark} (hx : WfK x) (hlx : left (klit x) = true) (hf : f x = some c) (hc : c.1.size ≠ 0) : CollM f (fun z => left z && !z.sameKey (klit x)) (ps ++ [(x.1, x.2, c.1)]) := by
  obtain ⟨h1, h2, h3⟩ := h
  refine ⟨?_, fun p hp => ?_, fun k d hk hl hd => ?_⟩
  · rw [List.map_append, List.nodup_append]
    refine ⟨h1, by simp, fun a ha b hb => ?_⟩
    simp only [List.map_cons, List.map_nil, List.mem_singleton] at hb
    subst hb
    intro e
    obtain ⟨p, hp, rfl⟩ := List.mem_map.1 ha
    have := (h2 p hp).2
    rw [e, show keyM (x.1, x.2, c.1) = x from rfl, hlx] at this
    cases this
  · rcases List.mem_append.1 hp with hp | hp
    · refine ⟨(h2 p hp).1, ?_⟩
      show (left (klit (keyM p)) && _) = false
      rw [(h2 p hp).2]
      rfl
    · simp only [List.mem_singleton] at hp
      subst hp
      refine ⟨⟨hc, c.2, hf⟩, ?_⟩
      show (left (klit x) && !Lit.sameKey (klit x) (klit x)) = false
      rw [same_klit hx hx]
      simp
  · have hl : (left (klit k) && !Lit.sameKey (klit k) (klit x)) = false := hl
    rw [same_klit (hg k d hk) hx] at hl
    by_cases e : k = x
    · subst e
      rw [hf] at hk
      cases hk
      simp
    · exact List.mem_append_left _ (h3 k d hk (by simpa [e] using hl) hd)
theorem CollM.all {f : CSta} {left : Lit → Bool} {ps : List Mrk} (h : CollM f left ps) (hl : ∀ kl, left kl = false) : AllM f ps := by
  refine ⟨h.1, fun p => ⟨fun hp => (h.2.1 p hp).1, fun hp => ?_⟩⟩
  obtain ⟨h0, s, hf⟩ := hp
  exact h.2.2 (keyM p) _ hf (hl _) h0
end Go.Proofs.YtcggmagdndhkbaaGreatDoor
end
section
namespace Go.Proofs.YtcggmagdndhkbaaGreatDoor
open Go
def hd (cur : List UInt8) : List (List UInt8) → List (List UInt8)
  | [] => [cur]
  | p :: ps => (cur ++ p) :: ps
abbrev RV := Option (Nat ⊕ (Nat × Nat × Nat × Nat))
end Go.Proofs.YtcggmagdndhkbaaGreatDoor
end
section
namespace Go.Proofs.YtcggmagdndhkbaaGreatDoor
open Go
def nameB (c : UInt8) : Bool := decide (97 ≤ c.toNat ∧ c.toNat ≤ 122 ∨ 48 ≤ c.toNat ∧ c.toNat ≤ 57 ∨ c.toNat = 45 ∨ c.toNat = 46)
def seenB (c : UInt8) : Bool := decide (32 ≤ c.toNat ∧ c.toNat ≤ 126)
def nameOk (l : List UInt8) : Bool := decide (1 ≤ l.length) && decide (l.length ≤ 12) && l.all nameB
def seenOk (l : List UInt8) : Bool := l.all seenB
def moveE (id node other : Int) (name value : List UInt8) : Nat := if node < 2 ∨ id < node ∨ other < 0 ∨ id ≤ other then 3 else if nameOk name = false then 4 else if value ≠ [] then 3 else 0
def insE (id node other : Int) (name value : List UInt8) : Nat := if node < 0 ∨ id ≤ node ∨ other < 0 ∨ id ≤ other then 3 else if name ≠ [] then 4 else if value.length ≠ 1 ∨ seenOk value = false then 3 else 0
def delE (id node other : Int) (name value : List UInt8) : Nat := if node < 0 ∨ id ≤ node ∨ other < 0 ∨ id ≤ other ∨ other = 0 then 3 else if name ≠ [] then 4 else if value ≠ [] then 3 else 0
def setE (id node other : Int) (name value : List UInt8) : Nat := if node < 0 ∨ id ≤ node ∨ other ≠ 0 then 3 else if nameOk name = false then 4 else if 12 < value.length ∨ seenOk value = false then 3 else 0
def kindE (id : Int) (k : Nat) (node other : Int) (name value : List UInt8) : Nat :=
  if k = 109 then moveE id node other name value else if k = 105 then insE id node other name value else if k = 100 then delE id node other name value else if k = 115 then setE id node other name value else 5
def opE (t b n : Int) (k : Nat) (node other : Int) (name value : List UInt8) : Nat :=
  if 1 ≤ t ∧ t ≤ 1073741824 ∧ 0 ≤ b ∧ b < 4 ∧ 1 ≤ n ∧ n ≤ 400 then kindE (t * 4 + b) k node other name value else 2
theorem opE_zero {t b n : Int} {k : Nat} {node other : Int} {name value : List UInt8} (h : opE t b n k node other name value = 0) :
    1 ≤ t ∧ t ≤ 1073741824 ∧ 0 ≤ b ∧ b < 4 ∧ 1 ≤ n ∧ n ≤ 400 ∧ (k = 109 ∨ k = 105 ∨ k = 100 ∨ k = 115) ∧ 0 ≤ node ∧ node ≤ t * 4 + b ∧ 0 ≤ other ∧ other ≤ t * 4 + b ∧ (124 : UInt8) ∉ name ∧ name.length ≤ 12 ∧ value.length ≤ 12 := by
  have nm : nameOk name = true → (124 : UInt8) ∉ name ∧ name.length ≤ 12 := fun hn => by
    unfold nameOk at hn
    simp only [Bool.and_eq_true, decide_eq_true_eq] at hn
    refine ⟨fun hm => ?_, hn.1.2⟩
    have := List.all_eq_true.1 hn.2 _ hm
    revert this; decide
  unfold opE at h
  split at h
  · rename_i hc
    obtain ⟨h1, h2, h3, h4, h5, h6⟩ := hc
    unfold kindE at h
    split at h
    · rename_i hk
      unfold moveE at h
      split at h
      · cases h
      · split at h
        · cases h
        · rename_i hn
          split at h
          · cases h
          · rename_i hv
            have hv : value = [] := Decidable.not_not.1 hv
            have := nm (by simpa using hn)
            exact ⟨h1, h2, h3, h4, h5, h6, .inl hk, by omega, by omega, by omega, by omega, this.1, this.2, by rw [hv]; simp⟩
    · split at h
      · rename_i hk
        unfold insE at h
        split at h
        · cases h
        · split at h
          · cases h
          · rename_i hn
            split at h
            · cases h
            · rename_i hv
              have hn : name = [] := Decidable.not_not.1 hn
              subst hn
              exact ⟨h1, h2, h3, h4, h5, h6, .inr (.inl hk), by omega, by omega, by omega, by omega, by simp, by simp, by omega⟩
      · split at h
        · rename_i hk
          unfold delE at h
          split at h
          · cases h
          · split at h
            · cases h
            · rename_i hn
              split at h
              · cases h
              · rename_i hv
                have hn : name = [] := Decidable.not_not.1 hn
                have hv : value = [] := Decidable.not_not.1 hv
                subst hn hv
                exact ⟨h1, h2, h3, h4, h5, h6, .inr (.inr (.inl hk)), by omega, by omega, by omega, by omega, by simp, by simp, by simp⟩
        · split at h
          · rename_i hk
            unfold setE at h
            split at h
            · cases h
            · split at h
              · cases h
              · rename_i hn
                split at h
                · cases h
                · have := nm (by simpa using hn)
                  exact ⟨h1, h2, h3, h4, h5, h6, .inr (.inr (.inr hk)), by omega, by omega, by omega, by omega, this.1, this.2, by omega⟩
          · cases h
  · cases h
abbrev Parts := UInt8 × Nat × Nat × Nat × Nat × Nat × List UInt8 × List UInt8
end Go.Proofs.YtcggmagdndhkbaaGreatDoor
end
section
namespace Go.Proofs.YtcggmagdndhkbaaGreatDoor
open Go.RowKit
theorem bcell {W w1 : World} (hb : Below W.heap.size W w1) : (∀ b o, b < W.heap.size → w1.cell? ⟨b, o, none⟩ = W.cell? ⟨b, o, none⟩) ∧ (∀ b o, b < W.heap.size → w1.frozen? ⟨b, o, none⟩ = W.frozen? ⟨b, o, none⟩) :=
  ⟨fun b o h => hb.cell (p := ⟨b, o, none⟩) h, fun b o h => hb.frozen (p := ⟨b, o, none⟩) h⟩
set_option maxHeartbeats 400000 in
theorem check_ok (t b : Int) (w : World) (h1 : 1 ≤ t) (h2 : t ≤ 1073741824) (h3 : 0 ≤ b) (h4 : b < 4) :
    Calls Tryz.prog 219 #[.agg #[.int .i64 t, .int .i64 b]] w fun e w' => e = .returned .nilIface ∧ Below w.heap.size w w' := by
  go_enter Tryz.func219, Tryz.ntmps219
  go_wp2
  go_ret
  exact ⟨rfl, (Below.refl _ _).alloc (Nat.le_refl _) _⟩
set_option maxHeartbeats 400000 in
theorem check_no (t b : Int) (w : World) (eb : Value) (hg : w.cell? ⟨2, 0, none⟩ = some eb) (hz : 2 < w.heap.size) (h : ¬ (1 ≤ t ∧ t ≤ 1073741824 ∧ 0 ≤ b ∧ b < 4)) :
    Calls Tryz.prog 219 #[.agg #[.int .i64 t, .int .i64 b]] w fun e w' => e = .returned eb ∧ Below w.heap.size w w' := by
  by_cases h1 : 1 ≤ t
  · by_cases h2 : t ≤ 1073741824
    · by_cases h3 : 0 ≤ b
      · have h4 : 4 ≤ b := by omega
        have d4 : decide (b < 4) = false := by simp; omega
        clear h
        go_enter Tryz.func219, Tryz.ntmps219
        go_wp2
        go_ret
        exact ⟨rfl, (Below.refl _ _).alloc (Nat.le_refl _) _⟩
      · have h4 : b < 0 := by omega
        clear h h3
        go_enter Tryz.func219, Tryz.ntmps219
        go_wp2
        go_ret
        exact ⟨rfl, (Below.refl _ _).alloc (Nat.le_refl _) _⟩
    · have h4 : 1073741824 < t := by omega
      clear h h2
      go_enter Tryz.func219, Tryz.ntmps219
      go_wp2
      go_ret
      exact ⟨rfl, (Below.refl _ _).alloc (Nat.le_refl _) _⟩
  · have h4 : t < 1 := by omega
    clear h h1
    go_enter Tryz.func219, Tryz.ntmps219
    go_wp2
    go_ret
    exact ⟨rfl, (Below.refl _ _).alloc (Nat.le_refl _) _⟩
end Go.Proofs.YtcggmagdndhkbaaGreatDoor
end
section
namespace Go.Proofs.YtcggmagdndhkbaaGreatDoor
open Go.RowKit
set_option maxHeartbeats 400000 in
theorem id_ok (t b : Int) (w : World) (h1 : 1 ≤ t) (h2 : t ≤ 1073741824) (h3 : 0 ≤ b) (h4 : b < 4) :
    Calls Tryz.prog 170 #[.agg #[.int .i64 t, .int .i64 b]] w fun e w' => e = .returned (.tuple #[.int .i64 (t * 4 + b), .nilIface]) ∧ Below w.heap.size w w' := by
  go_enter Tryz.func170, Tryz.ntmps170
  go_wp2_with (go_at_call 219; refine (check_ok _ _ _ h1 h2 h3 h4).mono ?_; rintro e w1 ⟨rfl, hb⟩; obtain ⟨hc, hf⟩ := bcell hb)
  go_ret2
  exact ⟨rfl, ((Below.refl _ _).alloc (Nat.le_refl _) _).trans (hb.mono (by simp))⟩
set_option maxHeartbeats 400000 in
theorem id_no (t b : Int) (w : World) (u : TypeId) (x : Value) (hg : w.cell? ⟨2, 0, none⟩ = some (.iface u x)) (hz : 2 < w.heap.size) (h : ¬ (1 ≤ t ∧ t ≤ 1073741824 ∧ 0 ≤ b ∧ b < 4)) :
    Calls Tryz.prog 170 #[.agg #[.int .i64 t, .int .i64 b]] w fun e w' => e = .returned (.tuple #[.int .i64 0, .iface u x]) ∧ Below w.heap.size w w' := by
  have H : Hid (¬ (1 ≤ t ∧ t ≤ 1073741824 ∧ 0 ≤ b ∧ b < 4)) := h
  clear h
  go_enter Tryz.func170, Tryz.ntmps170
  go_wp2_with fail
  refine (check_no t b _ (.iface u x) (by rw [World.cell?_alloc_lt _ _ _ hz]; exact hg) (by simp <;> omega) H.out).mono ?_
  rintro e w1 ⟨rfl, hb⟩
  obtain ⟨hc, hf⟩ := bcell hb
  go_wp2
  go_ret2
  exact ⟨rfl, ((Below.refl _ _).alloc (Nat.le_refl _) _).trans (hb.mono (by simp))⟩
end Go.Proofs.YtcggmagdndhkbaaGreatDoor
end
section
namespace Go.Proofs.YtcggmagdndhkbaaGreatDoor
open Go.RowKit Go.Lib Go.Sort
abbrev OpX := Int × Int × Int × Nat × Int × Int × ByteArray × ByteArray
def encX (x : OpX) : List Value := [.int .i64 x.1, .int .i64 x.2.1, .int .i64 x.2.2.1, .int .u8 (x.2.2.2.1 : Int), .int .i64 x.2.2.2.2.1, .int .i64 x.2.2.2.2.2.1, .string x.2.2.2.2.2.2.1, .string x.2.2.2.2.2.2.2]
theorem encX_one (x : OpX) : ∀ v ∈ encX x, v.oneCell' = true := by
  intro v hv
  simp [encX] at hv
  rcases hv with rfl | rfl | rfl | rfl | rfl | rfl | rfl | rfl <;> rfl
theorem cellKept {w w' : World} {b o : Nat} {v : Value} (hb : Below w.heap.size w w') (h : w.cell? ⟨b, o, none⟩ = some v) : w'.cell? ⟨b, o, none⟩ = some v := by
  rw [hb.cell (p := ⟨b, o, none⟩) (World.block_lt_of_cell? w ⟨b, o, none⟩ h)]; exact h
def cellsOf (xs : List OpX) : List Value := xs.flatMap encX
theorem cellsOf_cons (x : OpX) (xs : List OpX) : cellsOf (x :: xs) = encX x ++ cellsOf xs := rfl
theorem encX_len (x : OpX) : (encX x).length = 8 := rfl
theorem cellsOf_len : ∀ xs : List OpX, (cellsOf xs).length = xs.length * 8
  | [] => rfl
  | x :: xs => by rw [cellsOf_cons, List.length_append, cellsOf_len xs, encX_len, List.length_cons]; omega
theorem cellsOf_one (xs : List OpX) : ∀ u ∈ cellsOf xs, u.oneCell' = true := by
  intro u hu
  obtain ⟨x, _, hx⟩ := List.mem_flatMap.1 hu
  exact encX_one x u hx
theorem cellsOf_get : ∀ (xs : List OpX) (i c : Nat), i < xs.length → c < 8 → (cellsOf xs)[i * 8 + c]? = some ((encX xs[i]!)[c]!)
  | [], i, _, hi, _ => absurd hi (by simp)
  | x :: xs, 0, c, _, hc => by
    have e : 0 * 8 + c = c := by omega
    rw [cellsOf_cons, e, List.getElem?_append_left (by rw [encX_len]; exact hc), List.getElem?_eq_getElem (by rw [encX_len]; exact hc)]
    rw [getElem!_pos _ c (by rw [encX_len]; exact hc)]
    rfl
  | x :: xs, i + 1, c, hi, hc => by
    rw [cellsOf_cons, List.getElem?_append_right (by rw [encX_len]; omega), encX_len, show (i + 1) * 8 + c - 8 = i * 8 + c by omega, cellsOf_get xs i c (by simpa using hi) hc]
    simp
theorem cellsOf_app (a b : List OpX) : cellsOf (a ++ b) = cellsOf a ++ cellsOf b := List.flatMap_append
def OpsAt (w : World) (v : Value) (xs : List OpX) : Prop :=
  (v = .slice none 0 0 ∧ xs = []) ∨ ∃ blk off cap, v = .slice (some ⟨blk, off, none⟩) xs.length cap ∧ ∀ j u, (cellsOf xs)[j]? = some u → w.cell? ⟨blk, off + j, none⟩ = some u
theorem infoOp : (Tryz.prog.info? 31).map (fun i => (i.zero, i.size, i.bytes)) = some (some (.agg #[.int .i64 0, .int .i64 0, .int .i64 0, .int .u8 0, .int .i64 0, .int .i64 0, .string ⟨#[]⟩, .string ⟨#[]⟩]), 8, 80) := by kernel_rfl
theorem ownsOps {w : World} {base : Nat} {v : Value} {xs : List OpX} (h : w.ownsRow base 31 8 v xs.length (cellsOf xs)) : OpsAt w v xs := by
  rcases h.2 with ⟨h1, h2⟩ | ⟨g, cap, cur, rfl, _⟩
  · exact .inl ⟨h1, List.length_eq_zero_iff.1 h2⟩
  · refine .inr ⟨g, 0, cap, rfl, fun j u hj => ?_⟩
    have hl : j < (cellsOf xs).length := (List.getElem?_eq_some_iff.1 hj).1
    rw [cellsOf_len] at hl
    rw [Nat.zero_add, h.cellAt j hl, hj]
structure Eight (w : World) (g p : Nat) (t b m : Int) (kd : Nat) (node other : Int) (name value : ByteArray) : Prop where
  c0 : w.cell? ⟨g, p, none⟩ = some (.int .i64 t)
  c1 : w.cell? ⟨g, p + 1, none⟩ = some (.int .i64 b)
  c2 : w.cell? ⟨g, p + 2, none⟩ = some (.int .i64 m)
  c3 : w.cell? ⟨g, p + 3, none⟩ = some (.int .u8 (kd : Int))
  c4 : w.cell? ⟨g, p + 4, none⟩ = some (.int .i64 node)
  c5 : w.cell? ⟨g, p + 5, none⟩ = some (.int .i64 other)
  c6 : w.cell? ⟨g, p + 6, none⟩ = some (.string name)
  c7 : w.cell? ⟨g, p + 7, none⟩ = some (.string value)
end Go.Proofs.YtcggmagdndhkbaaGreatDoor
end
section
namespace Go.Proofs.YtcggmagdndhkbaaGreatDoor
open Go.RowKit Go.Lib Go.Sort
def OpsIn (w : World) (ao : Option Addr) (xs : List OpX) : Prop := xs = [] ∨ ∃ blk off, ao = some ⟨blk, off, none⟩ ∧ ∀ j u, (cellsOf xs)[j]? = some u → w.cell? ⟨blk, off + j, none⟩ = some u
theorem OpsIn.later {w w' : World} {ao : Option Addr} {xs : List OpX} (h : OpsIn w ao xs) (hb : Below w.heap.size w w') : OpsIn w' ao xs := by
  rcases h with h | ⟨g, o, h1, h2⟩
  · exact .inl h
  · exact .inr ⟨g, o, h1, fun j u hj => cellKept hb (h2 j u hj)⟩
end Go.Proofs.YtcggmagdndhkbaaGreatDoor
end
