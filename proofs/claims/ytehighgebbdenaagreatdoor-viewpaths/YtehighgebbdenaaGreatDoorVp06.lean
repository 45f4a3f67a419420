import Derived.Test.YtehighgebbdenaaGreatDoorVp01
import Derived.Test.YtehighgebbdenaaGreatDoorVp03
import Derived.Test.YtehighgebbdenaaGreatDoorVp05
import Derived.Test.YtehighgebbdenaaGreatDoorProg
import Derived.Maps.OwnSet
import Derived.Maps.RangeWalk
import Derived.DeepKeys4
import Derived.KernelRfl
import Derived.OrdersHeld
import Derived.WalkKit
import Derived.Laws.OwnMore
import Derived.OwnWalk
import Derived.Shelf.SlSortCmp.WholeK
import Derived.Shelf.SlSortCmp.NoneTotal
import Derived.Deep.LoopGhost
import Derived.LoopN
import Derived.Laws.Cover1
import Derived.Lib.Hide
import Derived.Sort.Grow
import Derived.Shelf.Small.Strs
import Derived.Shelf.Small.Wraps
import Derived.Shelf.LaysM
import Derived.Shelf.Slices.ReverseS
import Derived.Lib.Split
import Derived.Lib.Join
import Derived.Lib.ItoaNum
import Derived.Lib.IndexBytes
section
namespace Go.Proofs.YtehighgebbdenaaGreatDoor
open Go Go.Maps
def encK (k : CKey) : Value := .agg #[.int .i64 k.1, .string k.2]
theorem encK_inj {p q : CKey} (h : encK p = encK q) : p = q := by
  obtain ⟨a, s⟩ := p
  obtain ⟨a', s'⟩ := q
  simp [encK] at h
  obtain ⟨rfl, rfl⟩ := h
  rfl
def encC (c : CMark) : Value := .agg #[.string c.1, .int .i64 c.2.1, .int .i64 c.2.2]
def zeroC : CMark := (⟨#[]⟩, 0, 0)
def datC (c : CMark) : DataW Unit := .agg [.lit (.string c.1.data.toList), .lit (.int .i64 c.2.1), .lit (.int .i64 c.2.2)]
theorem datC_inj {p q : CMark} (h : datC p = datC q) : p = q := by
  obtain ⟨⟨⟨s⟩⟩, a, b⟩ := p
  obtain ⟨⟨⟨s'⟩⟩, a', b'⟩ := q
  simp [datC] at h
  obtain ⟨rfl, rfl, rfl⟩ := h
  rfl
def mrkL (l : List Value) : Option (DataW Unit × List MemPlace) := match l with
  | [.string s, .int .i64 a, .int .i64 b] => some (datC (s, a, b), [])
  | _ => none
def mrkR (v : Value) : Option (DataW Unit × List MemPlace) := match v with
  | .agg cs => mrkL cs.toList
  | _ => none
theorem mrkR_mk (c : CMark) : mrkR (encC c) = some (datC c, []) := rfl
theorem mrkL_inv {l : List Value} {z : DataW Unit × List MemPlace} (h : mrkL l = some z) : ∃ c : CMark, l = [.string c.1, .int .i64 c.2.1, .int .i64 c.2.2] ∧ z = (datC c, []) := by
  unfold mrkL at h
  split at h
  · rename_i s a b
    cases h
    exact ⟨(s, a, b), rfl, rfl⟩
  · cases h
theorem mrkR_inv {v : Value} {z : DataW Unit × List MemPlace} (h : mrkR v = some z) : ∃ c, v = encC c ∧ z = (datC c, []) := by
  unfold mrkR at h
  split at h
  · rename_i cs
    obtain ⟨c, e, rfl⟩ := mrkL_inv h
    refine ⟨c, ?_, rfl⟩
    unfold encC
    rw [← e]
  · cases h
def WfK (k : CKey) : Prop := (Lit.int .i64 k.1).wf = true ∧ k.2.size ≤ maxLen
def klit (k : CKey) : Lit := .string (keyBytes [.int .i64 k.1, .string k.2.data.toList])
section
variable {P : Program} {K I S : TypeId} {f g : Field}
theorem keyLits_struct {fs : Array Field} (hu : P.underlying K = some (.struct fs)) (d : Nat) (cs : List Value) : P.keyLits (d + 1) K cs = if cs.length = P.cellsOf K ∧ fs.all (·.name != "_") = true then (fs.toList.mapM fun f => P.keyLits d f.type ((cs.drop f.offset).take (P.cellsOf f.type))).map List.flatten else none := by
  conv => lhs; unfold Program.keyLits
  simp only [hu]
theorem keyLits_int (hI : P.underlying I = some (.int .i64)) (d : Nat) (v : Value) : P.keyLits (d + 1) I [v] = match v with | .int .i64 n => if (Lit.int .i64 n).wf = true then some [.int .i64 n] else none | _ => none := by
  conv => lhs; unfold Program.keyLits
  simp only [hI]
  cases v <;> try rfl
  rename_i q n
  cases q <;> simp
theorem keyLits_str (hS : P.underlying S = some .string) (d : Nat) (v : Value) : P.keyLits (d + 1) S [v] = match v with | .string s => if s.size ≤ maxLen then some [.string s.data.toList] else none | _ => none := by
  conv => lhs; unfold Program.keyLits
  simp only [hS]
  cases v <;> rfl
theorem key_mkP (hu : P.underlying K = some (.struct #[f, g])) (f1 : f.type = I) (f2 : f.offset = 0) (f3 : (f.name != "_") = true) (g1 : g.type = S) (g2 : g.offset = 1) (g3 : (g.name != "_") = true) (hI : P.underlying I = some (.int .i64)) (hS : P.underlying S = some .string) (cK : P.cellsOf K = 2) (cI : P.cellsOf I = 1) (cS : P.cellsOf S = 1) (hT : P.keyType K = true) (e : Nat) (he : P.types.size = e + 1) {k : CKey} (h : WfK k) : keyOf P K (encK k) = some (klit k) := by
  obtain ⟨h1, h2⟩ := h
  have hf : (encK k).formed P K = true := by simp [Value.formed, encK, hu, cK]
  unfold keyOf
  rw [hu]
  dsimp only
  rw [hT, hf]
  simp only [Bool.and_self, if_true]
  rw [keyLits_struct hu, he]
  simp [encK, Value.cells, cK, cI, cS, f1, f2, f3, g1, g2, g3, keyLits_int hI, keyLits_str hS, h1, h2, klit]
end
theorem keyRow : 234 < Tryz.prog.types.size := of_decide_eq_true (by kernel_rfl)
theorem keyWide : (match Tryz.prog.underlying 234 with | some (.array _ _) | some (.struct _) => true | _ => false) = true := by kernel_rfl
theorem keyOut : laidOutB Tryz.prog = true := by kernel_rfl
set_option maxRecDepth 100000 in
theorem lawK : Keyed Tryz.prog 234 := Keyed.of_law (deep_law_laid keyOut (m := 2) (by omega) keyRow (by kernel_rfl) keyWide)
theorem keyIs : Tryz.prog.keyType 234 = true := by kernel_rfl
theorem keyCells : Tryz.prog.cellsOf 234 = 2 := by kernel_rfl
theorem keyCellsI : Tryz.prog.cellsOf 3 = 1 := by kernel_rfl
theorem keyCellsS : Tryz.prog.cellsOf 9 = 1 := by kernel_rfl
theorem keySize : ∃ e, Tryz.prog.types.size = e + 1 := Nat.exists_eq_succ_of_ne_zero (by have := keyRow; omega)
set_option maxRecDepth 100000 in
theorem key_mk {k : CKey} (h : WfK k) : keyOf Tryz.prog 234 (encK k) = some (klit k) := by
  obtain ⟨e, he⟩ := keySize
  exact key_mkP Tryz.underlying234 rfl rfl (by decide) rfl rfl (by decide) Tryz.underlying3 Tryz.underlying9 keyCells keyCellsI keyCellsS keyIs e he h
theorem klit_ne {a b : CKey} (ha : WfK a) (hb : WfK b) (h : a ≠ b) : klit a ≠ klit b := fun e => h (encK_inj (lawK.inj (key_mk ha) (by rw [e]; exact key_mk hb)))
theorem klit_is {k : CKey} : WideAt.IsKeyLit (klit k) := trivial
theorem same_klit {a b : CKey} (ha : WfK a) (hb : WfK b) : Lit.sameKey (klit a) (klit b) = decide (a = b) := by
  by_cases h : a = b
  · subst h
    rw [WideAt.sameKey_self klit_is]
    simp
  · rw [sameKey_ne (klit_ne ha hb h)]
    simp [h]
theorem wf_i64 {k : Int} (h0 : -2 ^ 63 ≤ k) (h1 : k < 2 ^ 63) : (Lit.int .i64 k).wf = true := by
  have e1 : IntKind.i64.min = -2 ^ 63 := by decide
  have e2 : IntKind.i64.max = 2 ^ 63 - 1 := by decide
  simp only [Lit.wf, e1, e2, Bool.and_eq_true, decide_eq_true_eq]
  omega
theorem wfK_of {k : CKey} (h0 : -2 ^ 63 ≤ k.1) (h1 : k.1 < 2 ^ 63) (h2 : k.2.size ≤ 1000000) : WfK k := ⟨wf_i64 h0 h1, by simp only [maxLen]; omega⟩
def ReadsC (D : DataW Unit) (f : CSta) : Prop := ∀ k, WfK k → match f k with
  | none => has D (klit k) = false
  | some c => ∀ z, D.atKey (klit k) z = datC c
theorem ReadsC.gone {D : DataW Unit} {f : CSta} (h : ReadsC D f) {k : CKey} (hk : WfK k) (hf : f k = none) : has D (klit k) = false := by
  have := h k hk; rw [hf] at this; exact this
theorem ReadsC.held {D : DataW Unit} {f : CSta} (h : ReadsC D f) {k : CKey} (hk : WfK k) {c : CMark} (hf : f k = some c) (z : DataW Unit) : D.atKey (klit k) z = datC c := by
  have := h k hk; rw [hf] at this; exact this z
theorem ReadsC.has {D : DataW Unit} {f : CSta} (h : ReadsC D f) {k : CKey} (hk : WfK k) : Maps.has D (klit k) = (f k).isSome := by
  cases hf : f k with
  | none => rw [h.gone hk hf]; rfl
  | some p => rw [has_true_of_atKey (h.held hk hf)]; rfl
theorem ReadsC.at {D : DataW Unit} {f : CSta} (h : ReadsC D f) {k : CKey} (hk : WfK k) : D.atKey (klit k) (datC zeroC) = datC ((f k).getD zeroC) := by
  cases hf : f k with
  | none => rw [atKey_of_not_has (h.gone hk hf)]; rfl
  | some p => rw [h.held hk hf]; rfl
theorem readsC_put {D : DataW Unit} {f : CSta} (h : ReadsC D f) (hD : IsMap D) {k : CKey} (hk : WfK k) (c : CMark) : ReadsC (D.put (klit k) (datC c)) (fun x => if x = k then some c else f x) := by
  intro x hx
  dsimp only
  by_cases e : x = k
  · subst e
    rw [if_pos rfl]
    exact fun z => atKey_put_same hD klit_is _ _
  · rw [if_neg e]
    cases hf : f x with
    | none => rw [has_put_other (klit_ne hx hk e)]; exact h.gone hx hf
    | some q => intro z; rw [atKey_put_other (klit_ne hx hk e)]; exact h.held hx hf z
def GoodC (f : CSta) : Prop := ∀ k c, f k = some c → WfK k
theorem goodC_none : GoodC noC := fun k c h => by cases h
theorem GoodC.put {f : CSta} (h : GoodC f) {k : CKey} (hk : WfK k) (c : CMark) : GoodC (fun x => if x = k then some c else f x) := by
  intro x d hx
  dsimp only at hx
  split at hx
  · rename_i e; rw [e]; exact hk
  · exact h x d hx
structure CMapAt (w : World) (b n : Nat) (f : CSta) : Prop where
  reads : ∃ D, w.ownsMap Tryz.prog 234 mrkR b n D ∧ ReadsC D f
  good : GoodC f
theorem CMapAt.lt {w : World} {b n : Nat} {f : CSta} (h : CMapAt w b n f) : b < w.heap.size := by
  obtain ⟨D, h, _⟩ := h.reads; exact h.lt
theorem CMapAt.mono {w : World} {b n n' : Nat} {f : CSta} (h : CMapAt w b n f) (hn : n ≤ n') : CMapAt w b n' f := by
  obtain ⟨⟨D, h, r⟩, g⟩ := h; exact ⟨⟨D, h.mono hn, r⟩, g⟩
theorem CMapAt.same {w w' : World} {b n : Nat} {f : CSta} (h : CMapAt w b n f) (e : w'.heap[b]? = w.heap[b]?) : CMapAt w' b n f := by
  obtain ⟨⟨D, ⟨es, clock, hb, F⟩, r⟩, g⟩ := h
  exact ⟨⟨D, ⟨es, clock, e.trans hb, F⟩, r⟩, g⟩
theorem cmapAt_made (w : World) : CMapAt (w.alloc (.map #[] 0)) w.heap.size 0 noC :=
  ⟨⟨_, World.ownsMap_made w Tryz.prog 234 mrkR, fun _ _ => rfl⟩, goodC_none⟩
theorem zeroCell (w : World) : (zeroValue 236).run Tryz.prog w = .ok (encC zeroC) w := Tryz.zeroValue236 w
theorem CMapAt.look {w : World} {b n : Nat} {f : CSta} (h : CMapAt w b n f) {k : CKey} (hk : WfK k) :
    (Instr.lookup 191 (.map (some b)) (encK k) true).run Tryz.prog w = .ok (.tuple #[encC ((f k).getD zeroC), .bool (f k).isSome]) w := by
  obtain ⟨⟨D, h, r⟩, _⟩ := h
  obtain ⟨v, ps, hrun, hv⟩ := h.look_ok lawK Tryz.underlying191 (zeroCell w) (mrkR_mk zeroC) (key_mk hk)
  obtain ⟨p, rfl, hp⟩ := mrkR_inv hv
  rw [r.at hk, Prod.mk.injEq] at hp
  rw [hrun, r.has hk, datC_inj hp.1]
theorem CMapAt.store {w : World} {b n : Nat} {f : CSta} (h : CMapAt w b n f) (hn : n < maxLen) {k : CKey} (hk : WfK k) (c : CMark) :
    ∃ w', (Instr.mapUpdate 191 (.map (some b)) (encK k) (encC c)).run Tryz.prog w = .ok () w' ∧ CMapAt w' b (n + 1) (fun x => if x = k then some c else f x) ∧ w.mapTurned w' b := by
  obtain ⟨⟨D, h, r⟩, g⟩ := h
  obtain ⟨w', hrun, h', ht⟩ := h.store lawK Tryz.underlying191 hn (key_mk hk) (mrkR_mk c)
  exact ⟨w', hrun, ⟨⟨_, h', readsC_put r h.isMap hk c⟩, g.put hk c⟩, ht⟩
end Go.Proofs.YtehighgebbdenaaGreatDoor
end
section
namespace Go.Proofs.YtehighgebbdenaaGreatDoor
open Go Go.Maps
def AllM (f : CSta) (ps : List Mrk) : Prop := (ps.map keyM).Nodup ∧ ∀ p : Mrk, p ∈ ps ↔ p.2.2.size ≠ 0 ∧ ∃ s, f (keyM p) = some (p.2.2, s)
theorem AllM.marks {f : CSta} {ps qs : List Mrk} (h : AllM f ps) (hp : qs.Perm ps) (hs : qs.Pairwise (fun a b => ¬ KLt (keyM b) (keyM a))) : IsMarks f qs := by
  refine ⟨?_, fun p => (hp.mem_iff).trans (h.2 p)⟩
  have hn : (qs.map keyM).Nodup := (hp.map _).nodup_iff.2 h.1
  have hn' : qs.Pairwise (fun a b => keyM a ≠ keyM b) := List.pairwise_map.1 hn
  exact (hs.and hn').imp (fun {a b} h => by
    rcases klt_total h.2 with q | q
    · exact q
    · exact absurd q h.1)
def CollM (f : CSta) (left : Lit → Bool) (ps : List Mrk) : Prop :=
  (ps.map keyM).Nodup ∧ (∀ p ∈ ps, (p.2.2.size ≠ 0 ∧ ∃ s, f (keyM p) = some (p.2.2, s)) ∧ left (klit (keyM p)) = false) ∧ ∀ k c, f k = some c → left (klit k) = false → c.1.size ≠ 0 → (k.1, k.2, c.1) ∈ ps
theorem CollM.skip {f : CSta} {left : Lit → Bool} {ps : List Mrk} (h : CollM f left ps) (hg : GoodC f) {x : CKey} {c : CMark} (hx : WfK x) (hf : f x = some c) (hc : c.1.size = 0) : CollM f (fun z => left z && !z.sameKey (klit x)) ps := by
  obtain ⟨h1, h2, h3⟩ := h
  refine ⟨h1, fun p hp => ⟨(h2 p hp).1, ?_⟩, fun k d hk hl hd => ?_⟩
  · show (left (klit (keyM p)) && _) = false
    rw [(h2 p hp).2]
    rfl
  · have hl : (left (klit k) && !Lit.sameKey (klit k) (klit x)) = false := hl
    rw [same_klit (hg k d hk) hx] at hl
    by_cases e : k = x
    · subst e
      rw [hf] at hk
      cases hk
      exact absurd hc hd
    · exact h3 k d hk (by simpa [e] using hl) hd
theorem CollM.step {f : CSta} {left : Lit → Bool} {ps : List Mrk} (h : CollM f left ps) (hg : GoodC f) {x : CKey} {c : CMark} (hx : WfK x) (hlx : left (klit x) = true) (hf : f x = some c) (hc : c.1.size ≠ 0) : CollM f (fun z => left z && !z.sameKey (klit x)) (ps ++ [(x.1, x.2, c.1)]) := by
  obtain ⟨h1, h2, h3⟩ := h
  refine ⟨?_, fun p hp => ?_, fun k d hk hl hd => ?_⟩
  · rw [List.map_append, List.nodup_append]
    refine ⟨h1, by simp, fun a ha b hb => ?_⟩
    simp only [List.map_cons, List.map_nil, List.mem_singleton] at hb
    subst hb
    intro e
    obtain ⟨p, hp, rfl⟩ := List.mem_map.1 ha
    have := (h2 p hp).2
    rw [e, show keyM (x.1, x.2, c.1) = x from rfl, hlx] at this
    cases this
  · rcases List.mem_append.1 hp with hp | hp
    · refine ⟨(h2 p hp).1, ?_⟩
      show (left (klit (keyM p)) && _) = false
      rw [(h2 p hp).2]
      rfl
    · simp only [List.mem_singleton] at hp
      subst hp
      refine ⟨⟨hc, c.2, hf⟩, ?_⟩
      show (left (klit x) && !Lit.sameKey (klit x) (klit x)) = false
      rw [same_klit hx hx]
      simp
  · have hl : (left (klit k) && !Lit.sameKey (klit k) (klit x)) = false := hl
    rw [same_klit (hg k d hk) hx] at hl
    by_cases e : k = x
    · subst e
      rw [hf] at hk
      cases hk
      simp
    · exact List.mem_append_left _ (h3 k d hk (by simpa [e] using hl) hd)
theorem CollM.all {f : CSta} {left : Lit → Bool} {ps : List Mrk} (h : CollM f left ps) (hl : ∀ kl, left kl = false) : AllM f ps := by
  refine ⟨h.1, fun p => ⟨fun hp => (h.2.1 p hp).1, fun hp => ?_⟩⟩
  obtain ⟨h0, s, hf⟩ := hp
  exact h.2.2 (keyM p) _ hf (hl _) h0
end Go.Proofs.YtehighgebbdenaaGreatDoor
end
section
namespace Go.Proofs.YtehighgebbdenaaGreatDoor
open Go
section
variable {P : Program} {ops : Array Oper} {Q : Exit → Act → World → Prop} {md : Region.Mode} {S : World → Prop}
theorem wpAnyH_one {i : Nat} {o : Oper} {fuel : Nat} {listed : Array Bool} {a : Act} {w : World} (hr : Region.ready md ops listed = [i]) (ho : ops[i]? = some o)
    (h : ∀ K : Act → World → Prop, (∀ a' w', S w' → wpAnyH P md ops Q S fuel (listed.setIfInBounds i true) a' w' → K a' w') → if Region.wanted o (yielded ops a.tmps) = true then Oper.wp P o a w K Q else K (a.put o.dst undef) w) : wpAnyH P md ops Q S (fuel + 1) listed a w := by
  refine ⟨fun h0 => (by rw [h0] at hr; cases hr), fun j hj => ?_⟩
  rw [hr] at hj
  simp only [List.mem_singleton] at hj
  subst hj
  have := h (fun a' w' => S w' ∧ wpAnyH P md ops Q S fuel (listed.setIfInBounds j true) a' w') (fun a' w' h1 h2 => ⟨h1, h2⟩)
  unfold wpOp
  simp only [ho]
  split
  · rename_i hw
    rw [if_pos hw] at this
    exact .inl this
  · rename_i hw
    rw [if_neg hw] at this
    exact this
end
theorem wp_region_H {P : Program} {ops : Array Oper} {Q : Exit → Act → World → Prop} {S : World → Prop} {id : Nat} {a : Act} {w : World} (hm : P.follows .mixedOrders = true) (hS : S w.drew)
    (h : S w.drew → wpAnyH P .any ops Q S ops.size (Array.replicate ops.size false) a w.drew) : (Code.region id ops true).wp P Q a w :=
  wp_region_any hm (wpAny_of_held _ _ _ _ (h hS))
end Go.Proofs.YtehighgebbdenaaGreatDoor
end
section
namespace Go.Proofs.YtehighgebbdenaaGreatDoor
open Go Go.RowKit
theorem cellHeld {w w' : World} {b o : Nat} {v : Value} (hb : Below w.heap.size w w') (h : w.cell? ⟨b, o, none⟩ = some v) : w'.cell? ⟨b, o, none⟩ = some v := by
  rw [hb.cell (p := ⟨b, o, none⟩) (World.block_lt_of_cell? w ⟨b, o, none⟩ h)]; exact h
theorem ownsHeld {w w' : World} {base n : Nat} {e : TypeId} {k : Nat} {v : Value} {xs : List Value} (h : w.ownsRow base e k v n xs) (hs : ∀ g, v.ownBlock = some g → w'.heap[g]? = w.heap[g]?) : w'.ownsRow base e k v n xs := by
  refine ⟨h.1, ?_⟩
  rcases h.2 with h0 | ⟨g, cap, cur, rfl, h1, hg, h2⟩
  · exact .inl h0
  · exact .inr ⟨g, cap, cur, rfl, h1, (hs g rfl).trans hg, h2⟩
theorem ownsLow {w : World} {base base' n : Nat} {e : TypeId} {k : Nat} {v : Value} {xs : List Value} (h : w.ownsRow base e k v n xs) (hb : base' ≤ base) : w.ownsRow base' e k v n xs := by
  refine ⟨h.1, h.2.imp (fun e => e) ?_⟩
  rintro ⟨g, cap, cur, h1, h2, h3⟩
  exact ⟨g, cap, cur, h1, by omega, h3⟩
theorem rowIs {w : World} {base n k : Nat} {v : Value} {e : TypeId} {xs : List Value} (h : w.ownsRow base e k v n xs) : ∃ ao cap, v = .slice ao n cap := by
  rcases h.2 with ⟨h1, h2⟩ | ⟨g, cap, cur, rfl, _⟩
  · subst h2; exact ⟨_, _, h1⟩
  · exact ⟨_, _, rfl⟩
section
variable {α : Type} {enc : α → List Value} {k : Nat}
def InRow (enc : α → List Value) (w : World) (ao : Option Addr) (zs : List α) : Prop := zs = [] ∨ ∃ blk off, ao = some ⟨blk, off, none⟩ ∧ ∀ j u, (flat enc zs)[j]? = some u → w.cell? ⟨blk, off + j, none⟩ = some u
theorem InRow.later {w w' : World} {ao : Option Addr} {zs : List α} (h : InRow enc w ao zs) (hb : Below w.heap.size w w') : InRow enc w' ao zs := by
  rcases h with h | ⟨g, o, h1, h2⟩
  · exact .inl h
  · exact .inr ⟨g, o, h1, fun j u hj => cellHeld hb (h2 j u hj)⟩
theorem InRow.kept {w w' : World} {ao : Option Addr} {zs : List α} (h : InRow enc w ao zs) (hk : ∀ g o, ao = some ⟨g, o, none⟩ → w'.heap[g]? = w.heap[g]?) : InRow enc w' ao zs := by
  rcases h with h | ⟨g, o, h1, h2⟩
  · exact .inl h
  · exact .inr ⟨g, o, h1, fun j u hj => by rw [World.cell?_of_block (a := ⟨g, o + j, none⟩) (hk g o h1)]; exact h2 j u hj⟩
theorem InRow.get (hlen : ∀ x, (enc x).length = k) {w : World} {ao : Option Addr} {zs : List α} (h : InRow enc w ao zs) {i : Nat} {x : α} (hi : zs[i]? = some x) : ∃ blk off, ao = some ⟨blk, off, none⟩ ∧ ∀ c u, (enc x)[c]? = some u → w.cell? ⟨blk, off + i * k + c, none⟩ = some u := by
  rcases h with h | ⟨b, o, h1, h2⟩
  · subst h; simp at hi
  · refine ⟨b, o, h1, fun c u hc => ?_⟩
    have hck : c < k := by have := (List.getElem?_eq_some_iff.1 hc).1; rwa [hlen] at this
    rw [Nat.add_assoc]
    exact h2 _ _ ((flat_get (enc := enc) hlen hi hck).trans hc)
theorem append_row {P : Program} {S T : TypeId} {z : Value} {bytes : Nat} (hS : P.underlying S = some (.slice T)) (hinfo : (P.info? T).map (fun i => (i.zero, i.size, i.bytes)) = some (some z, k, bytes)) (hb1 : bytes ≤ 1000) (hk0 : 0 < k) (hzc : z.cells.size = k)
    (hlen : ∀ x, (enc x).length = k) (hone : ∀ x, ∀ v ∈ enc x, v.oneCell' = true)
    {w : World} {base n : Nat} {v : Value} {xs : List Value} (ho : w.ownsRow base T k v n xs) (hn : n ≤ 2000) (hbase : base ≤ w.heap.size) (ap : Option Addr) (c : Nat) (ys : List α) (hy : ys.length ≤ 2000) (hap : InRow enc w ap ys) (hc : ap = none → c = 0) (ty : TypeId) :
    ∃ v' w', (Builtin.append_ #[S, S] ty #[v, .slice ap ys.length c]).run P w = .ok v' w' ∧ w'.ownsRow base T k v' (n + ys.length) (xs ++ flat enc ys) ∧ w.grownBy w' v.ownBlock := by
  obtain ⟨i0, hi, hz0, hz1, hz2⟩ := info_parts hinfo
  cases ap with
  | none =>
    have h0 : ys = [] := by
      rcases hap with h | ⟨_, _, h, _⟩
      · exact h
      · cases h
    subst h0
    rw [hc rfl]
    refine ⟨v, w, run_append_owned_none w base _ ty _ i0 k hS hi v n xs ho, by simpa [flat] using ho, ⟨rfl, rfl, rfl, Nat.le_refl _, fun _ _ _ => rfl⟩⟩
  | some a =>
    have hl : (flat enc ys).length = ys.length * k := flat_len hlen ys
    obtain ⟨v', w', h1, h2, h3, -⟩ := run_append_own (P := P) w base S ty T i0 _ k bytes hS hi hz0 hz1 hz2 hzc (by omega) v n xs ho a ys.length c (flat enc ys) hl (fun j u hj => by
      rcases hap with h | ⟨b, o, h, hcell⟩
      · subst h; simp [flat] at hj
      · cases h
        rw [Addr.add_lit]
        exact hcell j u hj) (flat_one hone ys) (by simp only [maxLen]; omega) (by have := Nat.mul_le_mul (show n + ys.length ≤ 4000 by omega) hb1; omega) hbase
    exact ⟨v', w', h1, h2, h3⟩
end
end Go.Proofs.YtehighgebbdenaaGreatDoor
end
section
set_option linter.unusedVariables false
set_option linter.unusedSimpArgs false
namespace Go.Proofs.YtehighgebbdenaaGreatDoor
open Go.Shelf Go.RowKit Go.Lib Go.Sort
def cmpT (a b : List UInt8) : Int := if a < b then -1 else if b < a then 1 else 0
def orZ (a b : Int) : Int := if a = 0 then b else a
set_option maxHeartbeats 400000 in
theorem or_any (w : World) (g : Nat) (a b : Int) (h0 : w.cell? ⟨g, 0, none⟩ = some (.int .i64 a)) (h1 : w.cell? ⟨g, 1, none⟩ = some (.int .i64 b)) :
    Calls Tryz.prog 147 #[.slice (some ⟨g, 0, none⟩) 2 2] w fun e w' => e = .returned (.int .i64 (orZ a b)) ∧ w' = w := by
  unfold orZ
  by_cases ha : a = 0
  · rw [if_pos ha]
    have da : (a != 0) = false := by simp [ha]
    clear ha
    by_cases hb : b = 0
    · have db : (b != 0) = false := by simp [hb]
      have HB := Lib.hid hb
      clear hb
      go_enter Tryz.func147, Tryz.ntmps147
      go_wp2
      refine wp_loop_rounds 3 ?_
      rw [rounds_succ]
      go_wp2
      rw [rounds_succ]
      go_wp2
      rw [rounds_succ]
      go_wp2
      go_ret
      exact ⟨by rw [HB.out]; rfl, rfl⟩
    · have db : (b != 0) = true := by simp [hb]
      clear hb
      go_enter Tryz.func147, Tryz.ntmps147
      go_wp2
      refine wp_loop_rounds 2 ?_
      rw [rounds_succ]
      go_wp2
      rw [rounds_succ]
      go_wp2
      go_ret
      exact ⟨rfl, rfl⟩
  · rw [if_neg ha]
    have da : (a != 0) = true := by simp [ha]
    clear ha
    go_enter Tryz.func147, Tryz.ntmps147
    go_wp2
    refine wp_loop_rounds 1 ?_
    rw [rounds_succ]
    go_wp2
    go_ret
    exact ⟨rfl, rfl⟩
end Go.Proofs.YtehighgebbdenaaGreatDoor
end
section
namespace Go.Proofs
open Go.Shelf
def Tryz.lays106_ren : Go.Shelf.Ren := ⟨fun | 106 => 159 | 213 => 210 | 265 => 270 | n => n, fun | 9 => 9 | 3 => 3 | n => n, fun | n => n⟩
theorem Tryz.lays106 : Go.Proofs.Lays.n106 Tryz.prog Tryz.lays106_ren := {
  mixed := by kernel_rfl
  f106 := Tryz.func159.trans (congrArg some (by kernel_rfl))
  f213 := Tryz.func210.trans (congrArg some (by kernel_rfl))
  f265 := Tryz.func270.trans (congrArg some (by kernel_rfl))
  t3 := Tryz.underlying3
  a3 := Tryz.isAgg3
  z3 := Tryz.sizeOf3
  v3 := Tryz.zeroValue3
  t9 := Tryz.underlying9
  a9 := Tryz.isAgg9
  z9 := Tryz.sizeOf9
  v9 := Tryz.zeroValue9 }
open Go.RowKit in
theorem Tryz.strings_Compare (a b : ByteArray) (w : World) :
    Calls Tryz.prog 159 #[.string a, .string b] w fun e w' => e = .returned (.int .i64 (Lib.compareBytes a.data.toList b.data.toList)) ∧ w' = w := Any.strings_Compare Tryz.lays106 a b w
def Tryz.lays103_ren : Go.Shelf.Ren := ⟨fun | 103 => 90 | 210 => 160 | 206 => 211 | n => n, fun | 9 => 9 | 4 => 4 | 24 => 97 | 3 => 3 | n => n, fun | n => n⟩
theorem Tryz.lays103 : Go.Proofs.Lays.n103 Tryz.prog Tryz.lays103_ren := {
  mixed := by kernel_rfl
  f103 := Tryz.func90.trans (congrArg some (by kernel_rfl))
  f206 := Tryz.func211.trans (congrArg some (by kernel_rfl))
  f210 := Tryz.func160.trans (congrArg some (by kernel_rfl))
  t3 := Tryz.underlying3
  a3 := Tryz.isAgg3
  z3 := Tryz.sizeOf3
  v3 := Tryz.zeroValue3
  t4 := Tryz.underlying4
  a4 := Tryz.isAgg4
  z4 := Tryz.sizeOf4
  v4 := Tryz.zeroValue4
  t9 := Tryz.underlying9
  a9 := Tryz.isAgg9
  z9 := Tryz.sizeOf9
  v9 := Tryz.zeroValue9
  t24 := Tryz.underlying97
  a24 := Tryz.isAgg97
  z24 := Tryz.sizeOf97
  v24 := Tryz.zeroValue97 }
open Go.RowKit in
theorem Tryz.strings_CutPrefix (s p : ByteArray) (w : World) :
    Calls Tryz.prog 90 #[.string s, .string p] w fun e w' => e = .returned (.tuple #[.string ⟨(Lib.trimPrefix s.data.toList p.data.toList).toArray⟩, .bool (Lib.hasPrefix s.data.toList p.data.toList)]) ∧ w' = w := Any.strings_CutPrefix Tryz.lays103 s p w
def Tryz.laysNm217_ren : Go.Shelf.Ren := ⟨fun | 17 => 99 | n => n, fun | 24 => 141 | 9 => 9 | 3 => 3 | 4 => 4 | 0 => 0 | n => n, fun | n => n⟩
theorem Tryz.laysNm217 : Go.Proofs.Lays2.n17 Tryz.prog Tryz.laysNm217_ren := {
  mixed := by kernel_rfl
  f17 := Tryz.func99.trans (congrArg some (by kernel_rfl))
  t0 := Tryz.underlying0
  a0 := Tryz.isAgg0
  z0 := Tryz.sizeOf0
  v0 := Tryz.zeroValue0
  t3 := Tryz.underlying3
  a3 := Tryz.isAgg3
  z3 := Tryz.sizeOf3
  v3 := Tryz.zeroValue3
  t4 := Tryz.underlying4
  a4 := Tryz.isAgg4
  z4 := Tryz.sizeOf4
  v4 := Tryz.zeroValue4
  t9 := Tryz.underlying9
  a9 := Tryz.isAgg9
  z9 := Tryz.sizeOf9
  v9 := Tryz.zeroValue9
  t24 := Tryz.underlying141
  a24 := Tryz.isAgg141
  z24 := Tryz.sizeOf141
  v24 := Tryz.zeroValue141 }
open Go.RowKit Go.Lib Go.Sort in
theorem Tryz.slices_Reverse_string (blk off cap : Nat) (zs : List (List UInt8)) (w : World) (hH : Holds encStr w blk off zs.toArray) (hsz : zs.length ≤ 9223372036854775807) :
    Calls Tryz.prog 99 #[.slice (some ⟨blk, off, none⟩) zs.length cap] w fun e w' => e = .returned (.tuple #[]) ∧ ∃ n, w' = putRow encStr (Sort.ahead w n) blk off zs.reverse.toArray := Any.slices_Reverse_string Tryz.laysNm217 blk off cap zs w hH hsz
end Go.Proofs
end
section
set_option linter.unusedVariables false
set_option linter.unusedSimpArgs false
namespace Go.Proofs.YtehighgebbdenaaGreatDoor
open Go.Shelf Go.RowKit Go.Lib Go.Sort
theorem compare_cmpT : ∀ a b : List UInt8, Lib.compareBytes a b = cmpT a b
  | [], [] => by simp [Lib.compareBytes, cmpT]
  | [], b :: bs => by simp [Lib.compareBytes, cmpT]
  | a :: r, [] => by simp [Lib.compareBytes, cmpT]
  | a :: r, b :: t => by
    unfold Lib.compareBytes cmpT
    rw [compare_cmpT r t]
    unfold cmpT
    simp only [List.cons_lt_cons_iff]
    by_cases h1 : a < b
    · simp [h1]
    · by_cases h2 : b < a
      · have h3 : ¬ a = b := fun e => by rw [e] at h2; exact absurd h2 (UInt8.lt_irrefl _)
        simp [h1, h2, h3]
      · have h3 : a = b := UInt8.toNat_inj.1 (by rw [UInt8.lt_iff_toNat_lt] at h1 h2; omega)
        subst h3
        simp [UInt8.lt_irrefl]
theorem cmpS_any (a b : ByteArray) (w : World) : Calls Tryz.prog 159 #[.string a, .string b] w fun e w' => e = .returned (.int .i64 (cmpT a.data.toList b.data.toList)) ∧ w' = w := by
  have h := Tryz.strings_Compare a b w
  rw [compare_cmpT] at h
  exact h
def cmpE (x y : Plc) : Int := orZ (cmpT x.2.2.data.toList y.2.2.data.toList) (cmpZ x.1 y.1)
def NLt (a b : List UInt8 × Int) : Prop := a.1 < b.1 ∨ (a.1 = b.1 ∧ a.2 < b.2)
def keyE (p : Plc) : List UInt8 × Int := (p.2.2.data.toList, p.1)
theorem nlt_irrefl {a : List UInt8 × Int} : ¬ NLt a a := fun h => h.elim (fun q => List.lt_irrefl _ q) (fun q => by have := q.2; omega)
theorem nlt_trans {a b c : List UInt8 × Int} (h : NLt a b) (k : NLt b c) : NLt a c := by
  rcases h with h | ⟨h, h'⟩ <;> rcases k with k | ⟨k, k'⟩
  · exact .inl (List.lt_trans h k)
  · exact .inl (by rw [← k]; exact h)
  · exact .inl (by rw [h]; exact k)
  · exact .inr ⟨h.trans k, by omega⟩
theorem nlt_total {a b : List UInt8 × Int} (h : a ≠ b) : NLt a b ∨ NLt b a := by
  obtain ⟨x, m⟩ := a
  obtain ⟨y, n⟩ := b
  by_cases e : x = y
  · subst e
    rcases Int.lt_trichotomy m n with q | q | q
    · exact .inl (.inr ⟨rfl, q⟩)
    · exact absurd (by rw [q]) h
    · exact .inr (.inr ⟨rfl, q⟩)
  · rcases bytesTotal e with q | q
    · exact .inl (.inl q)
    · exact .inr (.inl q)
theorem ltOf_cmpE (x y : Plc) [Decidable (NLt (keyE x) (keyE y))] : ltOf cmpE x y = decide (NLt (keyE x) (keyE y)) := by
  unfold ltOf cmpE orZ cmpT cmpZ
  rw [Bool.eq_iff_iff]
  simp only [decide_eq_true_eq]
  unfold NLt keyE
  dsimp only
  by_cases h1 : x.2.2.data.toList < y.2.2.data.toList
  · simp [h1]
  · by_cases h2 : y.2.2.data.toList < x.2.2.data.toList
    · have h3 : x.2.2.data.toList ≠ y.2.2.data.toList := fun e => by rw [e] at h2; exact List.lt_irrefl _ h2
      simp [h1, h2, h3]
    · have h3 : x.2.2.data.toList = y.2.2.data.toList := by
        by_cases e : x.2.2.data.toList = y.2.2.data.toList
        · exact e
        · rcases bytesTotal e with q | q
          · exact absurd q h1
          · exact absurd q h2
      rw [if_neg h1, if_neg h2, if_pos rfl]
      by_cases h4 : x.1 < y.1
      · simp [h3, h4]
      · rw [if_neg h4]
        by_cases h5 : y.1 < x.1 <;> simp [h3, h4, h5]
open scoped Classical in
theorem swo_cmpE : SWO (ltOf cmpE) where
  irrefl x := by rw [ltOf_cmpE]; exact decide_eq_false nlt_irrefl
  trans x y z h1 h2 := by
    rw [ltOf_cmpE] at *
    exact decide_eq_true (nlt_trans (of_decide_eq_true h1) (of_decide_eq_true h2))
  ntrans x y z h1 h2 := by
    rw [ltOf_cmpE] at *
    have k1 := of_decide_eq_false h1
    have k2 := of_decide_eq_false h2
    refine decide_eq_false fun h => ?_
    by_cases e : keyE x = keyE y
    · rw [e] at h; exact k2 h
    · rcases nlt_total e with q | q
      · exact k1 q
      · exact k2 (nlt_trans q h)
set_option maxRecDepth 100000 in
set_option maxHeartbeats 1000000 in
theorem closureE (x y : Plc) (w : World) : Calls Tryz.prog 158 (#[.agg (cellsP x).toArray, .agg (cellsP y).toArray] ++ #[]) w fun e w' => e = .returned (.int .i64 (cmpE x y)) ∧ ∃ q os', w' = grow (w.drewN q) os' := by
  obtain ⟨a, c, s⟩ := x
  obtain ⟨a', c', s'⟩ := y
  unfold cellsP
  dsimp only
  obtain ⟨S, hS⟩ : ∃ S, S = w.heap.size := ⟨_, rfl⟩
  obtain ⟨U, hU⟩ : ∃ U, U = (w.alloc (.cells #[.int .i64 a, .int .i64 c, .string s] 106)).alloc (.cells #[.int .i64 a', .int .i64 c', .string s'] 106) := ⟨_, rfl⟩
  have hu1 : U.heap[S + 1]? = some (.cells #[.int .i64 a', .int .i64 c', .string s'] 106 (0, 0)) := by
    have := heap_alloc_new (w.alloc (.cells #[.int .i64 a, .int .i64 c, .string s] 106)) (.cells #[.int .i64 a', .int .i64 c', .string s'] 106)
    rw [World.size_alloc] at this
    rw [hU, hS]
    exact this
  have hu0 : U.heap[S]? = some (.cells #[.int .i64 a, .int .i64 c, .string s] 106 (0, 0)) := by
    rw [hU, hS, Below.heap_alloc _ _ _ (by simp)]
    exact heap_alloc_new w _
  have x0 : U.drew.cell? ⟨S, 0, none⟩ = some (.int .i64 a) := by show U.cell? _ = _; simp [World.cell?, hu0]
  have x1 : U.drew.cell? ⟨S, 2, none⟩ = some (.string s) := by show U.cell? _ = _; simp [World.cell?, hu0]
  have y0 : U.drew.cell? ⟨S + 1, 0, none⟩ = some (.int .i64 a') := by show U.cell? _ = _; simp [World.cell?, hu1]
  have y1 : U.drew.cell? ⟨S + 1, 2, none⟩ = some (.string s') := by show U.cell? _ = _; simp [World.cell?, hu1]
  have HX : Aside (U.drew.cell? ⟨S, 0, none⟩ = some (.int .i64 a) ∧ U.drew.cell? ⟨S, 2, none⟩ = some (.string s) ∧ U.drew.cell? ⟨S + 1, 0, none⟩ = some (.int .i64 a') ∧ U.drew.cell? ⟨S + 1, 2, none⟩ = some (.string s')) := ⟨x0, x1, y0, y1⟩
  have HU : Aside (∃ os, U = grow w os) := ⟨_, by rw [hU, alloc_eq_grow, alloc_eq_grow, grow_grow]⟩
  clear hu0 hu1 x0 x1 y0 y1
  go_enter Tryz.func158, Tryz.ntmps158
  go_wp2_with fail
  rw [← hU, ← hS]
  clear hU hS
  refine wp_region_H (S := fun w' => w'.cell? ⟨S, 0, none⟩ = some (.int .i64 a) ∧ w'.cell? ⟨S, 2, none⟩ = some (.string s) ∧ w'.cell? ⟨S + 1, 0, none⟩ = some (.int .i64 a') ∧ w'.cell? ⟨S + 1, 2, none⟩ = some (.string s')) (by kernel_rfl) HX.out (fun hHeld => ?_)
  refine wpAnyH_take (i := 0) (v := ?va0) rfl (by kernel_rfl) (by kernel_rfl) (by kernel_rfl) (fun _ _ _ h => h) (Or.inl ⟨by rfl, ?hya0⟩) hHeld ?resta0
  case hya0 => (intro w' hSw; obtain ⟨k1, k2, k3, k4⟩ := hSw; go_simp; try with_reducible rfl)
  try simp only [Act.put, List.setIfInBounds_toArray, List.set_cons_zero, List.set_cons_succ]
  refine wpAnyH_take (i := 1) (v := ?va1) rfl (by kernel_rfl) (by kernel_rfl) (by kernel_rfl) (fun _ _ _ h => h) (Or.inl ⟨by rfl, ?hya1⟩) hHeld ?resta1
  case hya1 => (intro w' hSw; obtain ⟨k1, k2, k3, k4⟩ := hSw; go_simp; try with_reducible rfl)
  try simp only [Act.put, List.setIfInBounds_toArray, List.set_cons_zero, List.set_cons_succ]
  refine wpAnyH_take (i := 2) (v := ?va2) rfl (by kernel_rfl) (by kernel_rfl) (by kernel_rfl) (fun _ _ _ h => h) (Or.inl ⟨by rfl, ?hya2⟩) hHeld ?resta2
  case hya2 => (intro w' hSw; obtain ⟨k1, k2, k3, k4⟩ := hSw; go_simp; try with_reducible rfl)
  try simp only [Act.put, List.setIfInBounds_toArray, List.set_cons_zero, List.set_cons_succ]
  refine wpAnyH_take (i := 3) (v := ?va3) rfl (by kernel_rfl) (by kernel_rfl) (by kernel_rfl) (fun _ _ _ h => h) (Or.inl ⟨by rfl, ?hya3⟩) hHeld ?resta3
  case hya3 => (intro w' hSw; obtain ⟨k1, k2, k3, k4⟩ := hSw; go_simp; try with_reducible rfl)
  try simp only [Act.put, List.setIfInBounds_toArray, List.set_cons_zero, List.set_cons_succ]
  refine wpAnyH_take (i := 5) (v := ?va5) rfl (by kernel_rfl) (by kernel_rfl) (by kernel_rfl) (fun _ _ _ h => h) (Or.inl ⟨by rfl, ?hya5⟩) hHeld ?resta5
  case hya5 => (intro w' hSw; obtain ⟨k1, k2, k3, k4⟩ := hSw; go_simp; try with_reducible rfl)
  try simp only [Act.put, List.setIfInBounds_toArray, List.set_cons_zero, List.set_cons_succ]
  refine wpAnyH_take (i := 6) (v := ?va6) rfl (by kernel_rfl) (by kernel_rfl) (by kernel_rfl) (fun _ _ _ h => h) (Or.inl ⟨by rfl, ?hya6⟩) hHeld ?resta6
  case hya6 => (intro w' hSw; obtain ⟨k1, k2, k3, k4⟩ := hSw; go_simp; try with_reducible rfl)
  try simp only [Act.put, List.setIfInBounds_toArray, List.set_cons_zero, List.set_cons_succ]
  refine wpAnyH_take (i := 7) (v := ?va7) rfl (by kernel_rfl) (by kernel_rfl) (by kernel_rfl) (fun _ _ _ h => h) (Or.inl ⟨by rfl, ?hya7⟩) hHeld ?resta7
  case hya7 => (intro w' hSw; obtain ⟨k1, k2, k3, k4⟩ := hSw; go_simp; try with_reducible rfl)
  try simp only [Act.put, List.setIfInBounds_toArray, List.set_cons_zero, List.set_cons_succ]
  refine wpAnyH_take (i := 8) (v := ?va8) rfl (by kernel_rfl) (by kernel_rfl) (by kernel_rfl) (fun _ _ _ h => h) (Or.inl ⟨by rfl, ?hya8⟩) hHeld ?resta8
  case hya8 => (intro w' hSw; obtain ⟨k1, k2, k3, k4⟩ := hSw; go_simp; try with_reducible rfl)
  try simp only [Act.put, List.setIfInBounds_toArray, List.set_cons_zero, List.set_cons_succ]
  refine wpAnyH_one (i := 4) (by kernel_rfl) rfl (fun K hK => ?_)
  go_simp
  refine (cmpS_any _ _ _).mono ?_
  rintro e w1 ⟨rfl, rfl⟩
  refine hK _ _ HX.out ?_
  clear hK K
  try simp only [Act.put, List.setIfInBounds_toArray, List.set_cons_zero, List.set_cons_succ]
  refine wpAnyH_one (i := 9) (by kernel_rfl) rfl (fun K hK => ?_)
  go_simp
  refine (cmpZ_any _ _ _).mono ?_
  rintro e w1 ⟨rfl, rfl⟩
  refine hK _ _ HX.out ?_
  clear hK K
  try simp only [Act.put, List.setIfInBounds_toArray, List.set_cons_zero, List.set_cons_succ]
  refine wpAnyH_one (i := 10) (by kernel_rfl) rfl (fun K hK => ?_)
  go_simp
  obtain ⟨V, hV⟩ : ∃ V, V = (U.alloc (.cells #[.int .i64 (cmpT s.data.toList s'.data.toList), .int .i64 (cmpZ a a')] 3)).drew := ⟨_, rfl⟩
  have hbV : Below U.drew.heap.size U.drew V := by rw [hV]; exact ⟨rfl, rfl, rfl, ((Below.refl U.heap.size U).alloc (Nat.le_refl _) _).size, ((Below.refl U.heap.size U).alloc (Nat.le_refl _) (.cells #[.int .i64 (cmpT s.data.toList s'.data.toList), .int .i64 (cmpZ a a')] 3)).block⟩
  have hVn : V.heap[U.heap.size]? = some (.cells #[.int .i64 (cmpT s.data.toList s'.data.toList), .int .i64 (cmpZ a a')] 3 (0, 0)) := by rw [hV]; exact heap_alloc_new U _
  have HV : Aside (∃ q os', V = grow (w.drewN q) os') := by
    obtain ⟨os, rfl⟩ := HU.out
    exact ⟨1, _, by rw [hV, alloc_eq_grow, grow_grow]; rfl⟩
  have g0 : V.cell? ⟨U.heap.size, 0, none⟩ = some (.int .i64 (cmpT s.data.toList s'.data.toList)) := by simp [World.cell?, hVn]
  have g1 : V.cell? ⟨U.heap.size, 1, none⟩ = some (.int .i64 (cmpZ a a')) := by simp [World.cell?, hVn]
  rw [← hV]
  have HY : Aside (V.cell? ⟨S, 0, none⟩ = some (.int .i64 a) ∧ V.cell? ⟨S, 2, none⟩ = some (.string s) ∧ V.cell? ⟨S + 1, 0, none⟩ = some (.int .i64 a') ∧ V.cell? ⟨S + 1, 2, none⟩ = some (.string s')) := ⟨cellHeld hbV HX.out.1, cellHeld hbV HX.out.2.1, cellHeld hbV HX.out.2.2.1, cellHeld hbV HX.out.2.2.2⟩
  refine hK _ _ HY.out ?_
  clear hK K hV hbV hVn
  try simp only [Act.put, List.setIfInBounds_toArray, List.set_cons_zero, List.set_cons_succ]
  refine wpAnyH_one (i := 11) (by kernel_rfl) rfl (fun K hK => ?_)
  go_simp
  refine (or_any V _ _ _ g0 g1).mono ?_
  rintro e w1 ⟨rfl, rfl⟩
  refine hK _ _ HY.out ?_
  clear hK K
  try simp only [Act.put, List.setIfInBounds_toArray, List.set_cons_zero, List.set_cons_succ]
  refine wpAnyH_one (i := 12) (by kernel_rfl) rfl (fun K hK => ?_)
  go_simp
  refine hK _ _ HY.out ?_
  clear hK K
  refine wpAnyH_done (by kernel_rfl) ?_ _
  clear hHeld
  go_wp2
  go_ret
  exact ⟨rfl, HV.out⟩
theorem cmp_laysE (blk off size : Nat) (w : World) : CmpLays Tryz.prog 158 #[] cellsP 3 cmpE blk off size w := fun _ _ _ _ x y => closureE x y _
theorem eg_cmpE : ∀ args w, (callFunc 158 args).run Tryz.prog w = .ok (.enter 158 args) w := enters_of Tryz.func158 (by kernel_rfl) rfl
end Go.Proofs.YtehighgebbdenaaGreatDoor
end
section
namespace Go.Proofs.YtehighgebbdenaaGreatDoor
open Go
def hd (cur : List UInt8) : List (List UInt8) → List (List UInt8)
  | [] => [cur]
  | p :: ps => (cur ++ p) :: ps
def digitsL : Nat → List UInt8 → Option Nat
  | n, [] => some n
  | n, c :: r => if c.toNat < 48 ∨ 57 < c.toNat then none else digitsL (10 * n + (c.toNat - 48)) r
def numN (D : Nat) (l : List UInt8) : Option Nat := if l.length < 1 ∨ D < l.length ∨ (l.getD 0 0).toNat = 48 ∧ 1 < l.length then none else digitsL 0 l
abbrev RV := Option (Nat ⊕ (Nat × Nat × Nat × Nat))
def RV.text : RV := none
def RV.ok (n0 n1 n2 n3 : Nat) : RV := some (.inr (n0, n1, n2, n3))
end Go.Proofs.YtehighgebbdenaaGreatDoor
end
