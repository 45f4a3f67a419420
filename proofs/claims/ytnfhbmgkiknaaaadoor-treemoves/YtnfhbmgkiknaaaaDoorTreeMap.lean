/- A map of places by their nodes: what is looked up, stored and deleted in it, in the words of a plain function. -/
import Derived.Test.YtnfhbmgkiknaaaaDoorTreePure
import Derived.Maps.OwnSet
namespace Go.Proofs.YtnfhbmgkiknaaaaDoor
open Go Go.Maps

def cellsP (p : Plc) : List Value := [.int .i64 p.1, .int .i64 p.2.1, .string p.2.2]
def encP (p : Plc) : Value := .agg #[.int .i64 p.1, .int .i64 p.2.1, .string p.2.2]
theorem encP_inj {p q : Plc} (h : encP p = encP q) : p = q := by
  obtain ⟨a, b, s⟩ := p
  obtain ⟨a', b', s'⟩ := q
  simp [encP] at h
  obtain ⟨rfl, rfl, rfl⟩ := h
  rfl
def dat (p : Plc) : DataW Unit := .agg [.lit (.int .i64 p.1), .lit (.int .i64 p.2.1), .lit (.string p.2.2.data.toList)]
theorem dat_inj {p q : Plc} (h : dat p = dat q) : p = q := by
  obtain ⟨a, b, ⟨⟨s⟩⟩⟩ := p
  obtain ⟨a', b', ⟨⟨s'⟩⟩⟩ := q
  simp [dat] at h
  obtain ⟨rfl, rfl, rfl⟩ := h
  rfl
def plcL (l : List Value) : Option (DataW Unit × List MemPlace) := match l with
  | [.int .i64 a, .int .i64 b, .string s] => some (dat (a, b, s), [])
  | _ => none
def plcR (v : Value) : Option (DataW Unit × List MemPlace) := match v with
  | .agg cs => plcL cs.toList
  | _ => none
theorem plcR_mk (p : Plc) : plcR (encP p) = some (dat p, []) := rfl
theorem plcL_inv {l : List Value} {z : DataW Unit × List MemPlace} (h : plcL l = some z) : ∃ p : Plc, l = [.int .i64 p.1, .int .i64 p.2.1, .string p.2.2] ∧ z = (dat p, []) := by
  unfold plcL at h
  split at h
  · rename_i a b s
    cases h
    exact ⟨(a, b, s), rfl, rfl⟩
  · cases h
theorem plcR_inv {v : Value} {z : DataW Unit × List MemPlace} (h : plcR v = some z) : ∃ p, v = encP p ∧ z = (dat p, []) := by
  unfold plcR at h
  split at h
  · rename_i cs
    obtain ⟨p, e, rfl⟩ := plcL_inv h
    refine ⟨p, ?_, rfl⟩
    unfold encP
    rw [← e]
  · cases h

def Wf (k : Int) : Prop := (Lit.int .i64 k).wf = true
theorem wf_of {k : Int} (h0 : -2 ^ 63 ≤ k) (h1 : k < 2 ^ 63) : Wf k := by
  unfold Wf
  have e1 : IntKind.i64.min = -2 ^ 63 := by decide
  have e2 : IntKind.i64.max = 2 ^ 63 - 1 := by decide
  simp only [Lit.wf, e1, e2, Bool.and_eq_true, decide_eq_true_eq]
  omega
theorem wf_fine {p : Plc} (h : FineP p) : Wf p.1 ∧ Wf p.2.1 := by
  have h1 := h.lo; have h2 := h.hi; have h3 := h.lo'; have h4 := h.hi'
  exact ⟨wf_of (by omega) (by omega), wf_of (by omega) (by omega)⟩
theorem wf_key {f : Sta} (G : Good f) {k : Int} {p : Plc} (h : f k = some p) : Wf k := by
  have := (wf_fine (G.fine k p h)).1
  rwa [G.key k p h] at this

def ReadsAs (D : DataW Unit) (f : Sta) : Prop := ∀ k, Wf k → match f k with
  | none => has D (.int .i64 k) = false
  | some p => ∀ z, D.atKey (.int .i64 k) z = dat p
theorem ReadsAs.none {D : DataW Unit} {f : Sta} (h : ReadsAs D f) {k : Int} (hk : Wf k) (hf : f k = none) : has D (.int .i64 k) = false := by
  have := h k hk; rw [hf] at this; exact this
theorem ReadsAs.some {D : DataW Unit} {f : Sta} (h : ReadsAs D f) {k : Int} (hk : Wf k) {p : Plc} (hf : f k = some p) (z : DataW Unit) : D.atKey (.int .i64 k) z = dat p := by
  have := h k hk; rw [hf] at this; exact this z
theorem ReadsAs.has {D : DataW Unit} {f : Sta} (h : ReadsAs D f) {k : Int} (hk : Wf k) : Maps.has D (.int .i64 k) = (f k).isSome := by
  cases hf : f k with
  | none => rw [h.none hk hf]; rfl
  | some p => rw [has_true_of_atKey (h.some hk hf)]; rfl
theorem ReadsAs.at {D : DataW Unit} {f : Sta} (h : ReadsAs D f) {k : Int} (hk : Wf k) : D.atKey (.int .i64 k) (dat zeroP) = dat ((f k).getD zeroP) := by
  cases hf : f k with
  | none => rw [atKey_of_not_has (h.none hk hf)]; rfl
  | some p => rw [h.some hk hf]; rfl

theorem lit_ne {a b : Int} (h : a ≠ b) : Lit.int .i64 a ≠ Lit.int .i64 b := fun e => h (by injection e)

section
variable {P : Program} {K E T : TypeId}

/-- Block b is a map of places. -/
def MapAt (P : Program) (K : TypeId) (w : World) (b n : Nat) (f : Sta) : Prop := ∃ D, w.ownsMap P K plcR b n D ∧ ReadsAs D f

theorem MapAt.lt {w : World} {b n : Nat} {f : Sta} (h : MapAt P K w b n f) : b < w.heap.size := by
  obtain ⟨D, h, _⟩ := h; exact h.lt
theorem MapAt.mono {w : World} {b n n' : Nat} {f : Sta} (h : MapAt P K w b n f) (hn : n ≤ n') : MapAt P K w b n' f := by
  obtain ⟨D, h, r⟩ := h; exact ⟨D, h.mono hn, r⟩
theorem MapAt.same {w w' : World} {b n : Nat} {f : Sta} (h : MapAt P K w b n f) (e : w'.heap[b]? = w.heap[b]?) : MapAt P K w' b n f := by
  obtain ⟨D, ⟨es, clock, hb, F⟩, r⟩ := h
  exact ⟨D, ⟨es, clock, e.trans hb, F⟩, r⟩
theorem MapAt.block {w : World} {b n : Nat} {f : Sta} (h : MapAt P K w b n f) : ∃ es clock, w.heap[b]? = some (.map es clock) := by
  obtain ⟨D, ⟨es, clock, hb, F⟩, r⟩ := h
  exact ⟨es, clock, hb⟩
theorem mapAt_made (w : World) : MapAt P K (w.alloc (.map #[] 0)) w.heap.size 0 noSta :=
  ⟨_, World.ownsMap_made w P K plcR, fun _ _ => rfl⟩

theorem MapAt.look {w : World} {b n : Nat} {f : Sta} (h : MapAt P K w b n f) (hK : P.underlying K = some (.int .i64)) (hT : P.underlying T = some (.map K E)) (hz : (zeroValue E).run P w = .ok (encP zeroP) w) {k : Int} (hk : Wf k) :
    (Instr.lookup T (.map (some b)) (.int .i64 k) true).run P w = .ok (.tuple #[encP ((f k).getD zeroP), .bool (f k).isSome]) w := by
  obtain ⟨D, h, r⟩ := h
  obtain ⟨v, ps, hrun, hv⟩ := h.look_ok (int_keyed hK) hT hz (plcR_mk zeroP) (keyOf_int_mk hK hk)
  obtain ⟨p, rfl, hp⟩ := plcR_inv hv
  rw [r.at hk, Prod.mk.injEq] at hp
  rw [hrun, r.has hk, dat_inj hp.1]
theorem MapAt.look1 {w : World} {b n : Nat} {f : Sta} (h : MapAt P K w b n f) (hK : P.underlying K = some (.int .i64)) (hT : P.underlying T = some (.map K E)) (hz : (zeroValue E).run P w = .ok (encP zeroP) w) {k : Int} (hk : Wf k) :
    (Instr.lookup T (.map (some b)) (.int .i64 k) false).run P w = .ok (encP ((f k).getD zeroP)) w := by
  obtain ⟨D, h, r⟩ := h
  obtain ⟨v, ps, hrun, hv⟩ := h.lookup (int_keyed hK) hT hz (plcR_mk zeroP) (keyOf_int_mk hK hk)
  obtain ⟨p, rfl, hp⟩ := plcR_inv hv
  rw [r.at hk, Prod.mk.injEq] at hp
  rw [hrun, dat_inj hp.1]

theorem reads_put {D : DataW Unit} {f : Sta} (h : ReadsAs D f) (hD : IsMap D) (k : Int) (p : Plc) : ReadsAs (D.put (.int .i64 k) (dat p)) (upd f k (some p)) := by
  intro x hx
  by_cases e : x = k
  · subst e
    rw [upd_same]
    exact fun z => atKey_put_same hD (show WideAt.IsKeyLit (.int .i64 x) from trivial) _ _
  · rw [upd_other e]
    cases hf : f x with
    | none => rw [has_put_other (lit_ne e)]; exact h.none hx hf
    | some q => intro z; rw [atKey_put_other (lit_ne e)]; exact h.some hx hf z
theorem reads_del {D : DataW Unit} {f : Sta} (h : ReadsAs D f) (k : Int) : ReadsAs (D.del (.int .i64 k)) (upd f k none) := by
  intro x hx
  by_cases e : x = k
  · subst e
    rw [upd_same]
    exact has_del_same
  · rw [upd_other e]
    cases hf : f x with
    | none => rw [has_del_other (lit_ne e)]; exact h.none hx hf
    | some q => intro z; rw [atKey_del_other (lit_ne e)]; exact h.some hx hf z

theorem MapAt.store {w : World} {b n : Nat} {f : Sta} (h : MapAt P K w b n f) (hK : P.underlying K = some (.int .i64)) (hT : P.underlying T = some (.map K E)) (hn : n < maxLen) {k : Int} (hk : Wf k) (p : Plc) :
    ∃ w', (Instr.mapUpdate T (.map (some b)) (.int .i64 k) (encP p)).run P w = .ok () w' ∧ MapAt P K w' b (n + 1) (upd f k (some p)) ∧ w.mapTurned w' b := by
  obtain ⟨D, h, r⟩ := h
  obtain ⟨w', hrun, h', ht⟩ := h.store (int_keyed hK) hT hn (keyOf_int_mk hK hk) (plcR_mk p)
  exact ⟨w', hrun, ⟨_, h', reads_put r h.isMap k p⟩, ht⟩
theorem MapAt.drop {w : World} {b n : Nat} {f : Sta} (h : MapAt P K w b n f) (hK : P.underlying K = some (.int .i64)) (hT : P.underlying T = some (.map K E)) {k : Int} (hk : Wf k) (ty : TypeId) :
    ∃ w', (Builtin.delete_ #[T, K] ty #[.map (some b), .int .i64 k]).run P w = .ok (.tuple #[]) w' ∧ MapAt P K w' b n (upd f k none) ∧ w.mapTurned w' b := by
  obtain ⟨D, h, r⟩ := h
  obtain ⟨w', hrun, h', ht⟩ := h.drop (int_keyed hK) hT (keyOf_int_mk hK hk) ty
  exact ⟨w', hrun, ⟨_, h', reads_del r k⟩, ht⟩
end
end Go.Proofs.YtnfhbmgkiknaaaaDoor
