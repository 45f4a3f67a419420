import Derived.Test.YtcggmagdndhkbaaGreatDoorWt04
import Derived.Test.YtcggmagdndhkbaaGreatDoorWt14
import Derived.Shelf.Abstract
import Derived.Test.YtcggmagdndhkbaaGreatDoorProg
import Derived.WalkKit
import Derived.WalkSpells
import Derived.LaidEql
import Derived.WideShapes
import Derived.Laws.OwnMore
import Derived.OwnWalk
section
set_option linter.unusedVariables false
namespace Go.Proofs.YtcggmagdndhkbaaGreatDoor
open Go.RowKit Go.Lib Go.Sort
def PredO (g : Nat) (lb : Array Value) (xs : List OpX) (p : OpX → Bool) (w : World) : Prop :=
  ∀ (W : World) (x : OpX), x ∈ xs → Below w.heap.size w W → Calls Tryz.prog g (#[encO x] ++ lb) W fun e w' => e = .returned (.bool (p x)) ∧ Below w.heap.size w w'
def IdxO (p : OpX → Bool) (zs : List OpX) (r : Int) : Prop :=
  (r = -1 ∧ ∀ x ∈ zs, p x = false) ∨ ∃ k x, r = ((k : Nat) : Int) ∧ zs[k]? = some x ∧ p x = true ∧ ∀ j y, j < k → zs[j]? = some y → p y = false
set_option maxHeartbeats 2000000 in
theorem idxOps_any (p : OpX → Bool) (g : Nat) (lb : Array Value) (eg : ∀ args w, (callFunc g args).run Tryz.prog w = .ok (.enter g args) w) (ao : Option Addr) (cap : Nat) (zs : List OpX) (w : World) (hp : PredO g lb zs p w) (hbig : zs.length ≤ 1000000) (hin : OpsIn w ao zs) :
    Calls Tryz.prog 156 #[.slice ao zs.length cap, .func (.func g) #[] lb] w fun e w' => ∃ r : Int, e = .returned (.int .i64 r) ∧ Aside (IdxO p zs r ∧ Below w.heap.size w w') := by
  have HP : Aside (PredO g lb zs p w) := hp
  have HI : Aside (OpsIn w ao zs) := hin
  clear hp hin
  go_enter Tryz.func156, Tryz.ntmps156
  go_wp2
  go_loopg [5, 8] zs.length (fun kx _ s8 wr => ∃ (k : Nat), s8 = .int .i64 (k : Int) ∧ k ≤ zs.length ∧ zs.length - k ≤ kx ∧ Aside (Below w.heap.size w wr ∧ ∀ j l, j < k → zs[j]? = some l → p l = false))
  case atStart => exact ⟨0, rfl, Nat.zero_le _, Nat.le_refl _, ⟨Below.refl _ w, fun j l hj => by omega⟩⟩
  case round =>
    obtain ⟨k, rfl, hk, hkx, A⟩ := hrel
    by_cases hlt : k < zs.length
    · have hltz : decide ((k : Int) < (zs.length : Int)) = true := by simp; omega
      have ek : ((k : Int)).toNat = k := by omega
      have pk : (0 : Int) ≤ (k : Int) := by omega
      have bk : (k : Int) < (zs.length : Int) := by omega
      obtain ⟨⟨t, b, n, kd, nd, o, s, v⟩, hl⟩ : ∃ l, Aside (zs[k]? = some l) := ⟨zs[k], List.getElem?_eq_getElem hlt⟩
      obtain ⟨blk, off, hao, hc⟩ := (HI.out.later A.out.1).get hl.out
      subst hao
      have r0 := hc 0 _ rfl
      have r1 := hc 1 _ rfl
      have r2 := hc 2 _ rfl
      have r3 := hc 3 _ rfl
      have r4 := hc 4 _ rfl
      have r5 := hc 5 _ rfl
      have r6 := hc 6 _ rfl
      have r7 := hc 7 _ rfl
      simp only [Nat.add_zero] at r0
      clear hc
      have hcall := HP.out wr (t, b, n, kd, nd, o, s, v) (List.mem_of_getElem? hl.out) A.out.1
      unfold encO at hcall
      dsimp only at hcall
      cases hq : p (t, b, n, kd, nd, o, s, v) with
      | true =>
        rw [hq] at hcall
        have HQ := Lib.hid hq
        clear hq
        go_wp2_with (go_at_fn g; refine hcall.mono ?_; rintro e w' ⟨rfl, hb'⟩)
        go_ret
        exact ⟨_, rfl, .inr ⟨k, _, rfl, hl.out, HQ.out, A.out.2⟩, hb'⟩
      | false =>
        rw [hq] at hcall
        have HQ := Lib.hid hq
        clear hq
        go_wp2_with (go_at_fn g; refine hcall.mono ?_; rintro e w' ⟨rfl, hb'⟩)
        go_roundg (zs.length - (k + 1))
        case measure => omega
        case rel =>
          refine ⟨k + 1, by go_num, by omega, Nat.le_refl _, ⟨hb', fun j l hj e => ?_⟩⟩
          rcases Nat.lt_or_ge j k with h | h
          · exact A.out.2 j l h e
          · obtain rfl : j = k := by omega
            rw [hl.out] at e
            cases e
            exact HQ.out
    · have hltz : decide ((k : Int) < (zs.length : Int)) = false := by simp; omega
      go_wp2
      go_ret
      refine ⟨_, rfl, .inl ⟨rfl, fun l hl => ?_⟩, A.out.1⟩
      obtain ⟨j, hj, rfl⟩ := List.getElem_of_mem hl
      exact A.out.2 j _ (by omega) (List.getElem?_eq_getElem hj)
theorem hasOps_any (p : OpX → Bool) (g : Nat) (lb : Array Value) (eg : ∀ args w, (callFunc g args).run Tryz.prog w = .ok (.enter g args) w) (ao : Option Addr) (cap : Nat) (zs : List OpX) (w : World) (hp : PredO g lb zs p w) (hbig : zs.length ≤ 1000000) (hin : OpsIn w ao zs) :
    Calls Tryz.prog 115 #[.slice ao zs.length cap, .func (.func g) #[] lb] w fun e w' => e = .returned (.bool (zs.any p)) ∧ Below w.heap.size w w' := by
  have hcall := idxOps_any p g lb eg ao cap zs w hp hbig hin
  clear hp hin eg
  go_enter Tryz.func115, Tryz.ntmps115
  go_wp2_with fail
  refine hcall.mono ?_
  clear hcall
  rintro e w' ⟨r, rfl, H⟩
  rcases H.out.1 with ⟨hr, ha⟩ | ⟨k, x, hr, hx, hpx, _⟩
  · have HA : Aside (zs.any p = false) := by
      show zs.any p = false
      rw [List.any_eq_false]
      intro x hx
      rw [ha x hx]
      decide
    clear ha
    subst hr
    go_wp2
    go_ret
    exact ⟨by rw [HA.out]; rfl, H.out.2⟩
  · have HA : Aside (zs.any p = true) := List.any_eq_true.2 ⟨x, List.mem_of_getElem? hx, hpx⟩
    have dr : decide (0 ≤ r) = true := by simp; omega
    clear hx hpx hr
    go_wp2
    go_ret
    exact ⟨by rw [HA.out]; rfl, H.out.2⟩
set_option maxRecDepth 100000 in
set_option maxHeartbeats 2000000 in
theorem bearsAll_any {ad : Nat → Addr} (w : World) (ao : Nat → Option Addr) (cap : Nat → Nat) (R : Rws) (fa : Option Addr) (fc : Nat) (fresh : List OpX) (hin : OpsIn w fa fresh) (hx : ∀ x ∈ fresh, x ∈ allR R) (z : Bool) (hz : z = true ↔ ∀ x ∈ fresh, RefOk (allR R) x) (hE : Op4 ad w) (hK : KnownAt w ao R) (hR : RowsN R) (hl : ∀ i, i < 4 → (R i).length ≤ 1000) (hn : fresh.length ≤ 1000) :
    Calls Tryz.prog 56 #[kV ao cap R, .slice fa fresh.length fc] w fun e w' => e = .returned (.bool z) ∧ Below w.heap.size w w' := by
  obtain ⟨U, hU⟩ : ∃ U, U = w.alloc (.cells #[.slice (ao 0) (R 0).length (cap 0), .slice (ao 1) (R 1).length (cap 1), .slice (ao 2) (R 2).length (cap 2), .slice (ao 3) (R 3).length (cap 3)] 79) := ⟨_, rfl⟩
  have hb : Below w.heap.size w U := by rw [hU]; exact (Below.refl _ w).alloc (Nat.le_refl _) _
  have hk : KBox U w.heap.size ao cap R := by rw [hU]; exact KBox.new w ao cap R
  obtain ⟨p, hp⟩ : ∃ p : OpX → Bool, ∀ x, p x = true ↔ ¬ RefOk (allR R) x := by
    refine ⟨fun x => @decide (¬ RefOk (allR R) x) (Classical.propDecidable _), fun x => ?_⟩
    exact @decide_eq_true_iff _ (Classical.propDecidable _)
  have hpred : PredO 116 #[.pointer (some ⟨w.heap.size, 0, none⟩)] fresh p U := by
    intro W x hxf hbW
    have hkW := hk.later hbW
    have hc := bears_any (W.alloc (.cells #[.int .i64 x.1, .int .i64 x.2.1, .int .i64 x.2.2.1, .int .u8 (x.2.2.2.1 : Int), .int .i64 x.2.2.2.2.1, .int .i64 x.2.2.2.2.2.1, .string x.2.2.2.2.2.2.1, .string x.2.2.2.2.2.2.2] 31)) ao cap R x (hx x hxf) (!(p x)) (by
      rw [Bool.not_eq_true']
      constructor
      · intro q
        refine Classical.byContradiction (fun k => ?_)
        rw [(hp x).2 k] at q
        cases q
      · intro q
        cases hq : p x with
        | false => rfl
        | true => exact absurd q ((hp x).1 hq)) ((hE.later hb).later (hbW.alloc hbW.size _)) ((hK.later hb).later (hbW.alloc hbW.size _)) hR hl
    have k0 := hkW.at (i := 0) (by omega)
    have k1 := hkW.at (i := 1) (by omega)
    have k2 := hkW.at (i := 2) (by omega)
    have k3 := hkW.at (i := 3) (by omega)
    have hlt := hkW.lt
    have hsz := hbW.size
    have HB : Aside (Below U.heap.size U W) := hbW
    clear hkW hbW hp
    obtain ⟨t, b, n, kd, nd, o, s, v⟩ := x
    unfold kV encO at hc
    dsimp only at hc
    show Calls Tryz.prog 116 #[encO (t, b, n, kd, nd, o, s, v), .pointer (some ⟨w.heap.size, 0, none⟩)] W _
    unfold encO
    dsimp only
    go_enter Tryz.func116, Tryz.ntmps116
    go_wp2_with fail
    refine hc.mono ?_
    clear hc
    rintro e w1 ⟨rfl, hb1⟩
    have B1 : Aside (Below U.heap.size U w1) := (HB.out.alloc HB.out.size _).trans (hb1.mono (by simp; have := HB.out.size; omega))
    clear hb1
    go_wp2
    go_ret
    exact ⟨by simp, B1.out⟩
  have hcall := hasOps_any p 116 #[.pointer (some ⟨w.heap.size, 0, none⟩)] (enters_of Tryz.func116 (by kernel_rfl) rfl) fa fc fresh U hpred (by omega) (hin.later hb)
  have HB : Aside (Below w.heap.size w U) := hb
  have HZ : Aside (z = !(fresh.any p)) := by
    show z = !(fresh.any p)
    rw [Bool.eq_iff_iff, hz, Bool.not_eq_true', List.any_eq_false]
    exact ⟨fun q x hxf hpx => (hp x).1 hpx (q x hxf), fun q x hxf => Classical.byContradiction (fun k => q x hxf ((hp x).2 k))⟩
  clear hz hp hpred hb hk
  unfold kV
  go_enter Tryz.func56, Tryz.ntmps56
  go_wp2_with fail
  rw [← hU]
  clear hU
  refine hcall.mono ?_
  clear hcall
  rintro e w1 ⟨rfl, hb1⟩
  have B1 : Aside (Below w.heap.size w w1) := HB.out.trans (hb1.mono HB.out.size)
  clear hb1
  go_wp2
  go_ret
  exact ⟨by rw [HZ.out]; rfl, B1.out⟩
theorem kidx (a0 a1 a2 a3 : Value) : (∀ w, (Instr.index 79 (.agg #[a0, a1, a2, a3]) (.int .i64 0)).run Tryz.prog w = .ok a0 w) ∧ (∀ w, (Instr.index 79 (.agg #[a0, a1, a2, a3]) (.int .i64 1)).run Tryz.prog w = .ok a1 w) ∧ (∀ w, (Instr.index 79 (.agg #[a0, a1, a2, a3]) (.int .i64 2)).run Tryz.prog w = .ok a2 w) ∧ ∀ w, (Instr.index 79 (.agg #[a0, a1, a2, a3]) (.int .i64 3)).run Tryz.prog w = .ok a3 w :=
  ⟨fun _ => by kernel_rfl, fun _ => by kernel_rfl, fun _ => by kernel_rfl, fun _ => by kernel_rfl⟩
set_option maxRecDepth 100000 in
set_option maxHeartbeats 2000000 in
theorem count_any (w : World) (ao : Nat → Option Addr) (cap : Nat → Nat) (R : Rws) (hl : ∀ i, i < 4 → (R i).length ≤ 1000) :
    Calls Tryz.prog 57 #[kV ao cap R] w fun e w' => e = .returned (.int .i64 ((allR R).length : Int)) ∧ Below w.heap.size w w' := by
  have h0 := hl 0 (by omega)
  have h1 := hl 1 (by omega)
  have h2 := hl 2 (by omega)
  have h3 := hl 3 (by omega)
  have HL : Aside (((allR R).length : Int) = (R 0).length + (R 1).length + (R 2).length + (R 3).length) := by
    show ((allR R).length : Int) = _
    unfold allR; simp; omega
  obtain ⟨x0, x1, x2, x3⟩ := kidx (.slice (ao 0) (R 0).length (cap 0)) (.slice (ao 1) (R 1).length (cap 1)) (.slice (ao 2) (R 2).length (cap 2)) (.slice (ao 3) (R 3).length (cap 3))
  unfold kV
  go_enter Tryz.func57, Tryz.ntmps57
  go_wp2
  refine wp_loop_rounds 5 ?_
  iterate 5
    rw [rounds_succ]
    go_wp2
  go_ret
  refine ⟨?_, (Below.refl _ w).alloc (Nat.le_refl _) _⟩
  rw [HL.out]
  first | rfl | (refine congrArg _ (congrArg _ ?_); omega)
end Go.Proofs.YtcggmagdndhkbaaGreatDoor
end
section
namespace Go.Proofs.YtcggmagdndhkbaaGreatDoor
open Go.RowKit
def eqB (t b n : Int) (k : Nat) (node other : Int) (name value : ByteArray) (t' b' n' : Int) (k' : Nat) (node' other' : Int) (name' value' : ByteArray) : Bool := decide (t = t' ∧ b = b' ∧ n = n' ∧ k = k' ∧ node = node' ∧ other = other' ∧ name = name' ∧ value = value')
theorem eqOp (t b n : Int) (k : Nat) (node other : Int) (name value : ByteArray) (t' b' n' : Int) (k' : Nat) (node' other' : Int) (name' value' : ByteArray) (w : World) : (Op.equalIn 10000 31 (.agg #[.int .i64 t, .int .i64 b, .int .i64 n, .int .u8 (k : Int), .int .i64 node, .int .i64 other, .string name, .string value]) (.agg #[.int .i64 t', .int .i64 b', .int .i64 n', .int .u8 (k' : Int), .int .i64 node', .int .i64 other', .string name', .string value'])).run Tryz.prog w = .ok (eqB t b n k node other name value t' b' n' k' node' other' name' value') w := by
  have hs : ∀ x y : ByteArray, x.toList = y.toList ↔ x = y := fun x y => ⟨fun h => by rw [ByteArray.toList_eq, ByteArray.toList_eq] at h; exact WideShapes.bytes_inj h, fun h => by rw [h]⟩
  unfold eqB
  go_simp
  simp only [Int.natCast_inj]
  by_cases h1 : t = t' <;> by_cases h2 : b = b' <;> by_cases h3 : n = n' <;> by_cases h4 : k = k' <;> by_cases h5 : node = node' <;> by_cases h6 : other = other' <;> by_cases h7 : name = name' <;> by_cases h8 : value = value' <;> simp [h1, h2, h3, h4, h5, h6, h7, h8]
theorem eqB_self (t b n : Int) (k : Nat) (node other : Int) (name value : ByteArray) : eqB t b n k node other name value t b n k node other name value = true := by simp [eqB]
end Go.Proofs.YtcggmagdndhkbaaGreatDoor
end
section
namespace Go.Proofs.YtcggmagdndhkbaaGreatDoor
open Go Go.RowKit
theorem cellHeld {w w' : World} {b o : Nat} {v : Value} (hb : Below w.heap.size w w') (h : w.cell? ⟨b, o, none⟩ = some v) : w'.cell? ⟨b, o, none⟩ = some v := by
  rw [hb.cell (p := ⟨b, o, none⟩) (World.block_lt_of_cell? w ⟨b, o, none⟩ h)]; exact h
theorem ownsHeld {w w' : World} {base n : Nat} {e : TypeId} {k : Nat} {v : Value} {xs : List Value} (h : w.ownsRow base e k v n xs) (hs : ∀ g, v.ownBlock = some g → w'.heap[g]? = w.heap[g]?) : w'.ownsRow base e k v n xs := by
  refine ⟨h.1, ?_⟩
  rcases h.2 with h0 | ⟨g, cap, cur, rfl, h1, hg, h2⟩
  · exact .inl h0
  · exact .inr ⟨g, cap, cur, rfl, h1, (hs g rfl).trans hg, h2⟩
theorem ownsLow {w : World} {base base' n : Nat} {e : TypeId} {k : Nat} {v : Value} {xs : List Value} (h : w.ownsRow base e k v n xs) (hb : base' ≤ base) : w.ownsRow base' e k v n xs := by
  refine ⟨h.1, h.2.imp (fun e => e) ?_⟩
  rintro ⟨g, cap, cur, h1, h2, h3⟩
  exact ⟨g, cap, cur, h1, by omega, h3⟩
theorem rowIs {w : World} {base n k : Nat} {v : Value} {e : TypeId} {xs : List Value} (h : w.ownsRow base e k v n xs) : ∃ ao cap, v = .slice ao n cap := by
  rcases h.2 with ⟨h1, h2⟩ | ⟨g, cap, cur, rfl, _⟩
  · subst h2; exact ⟨_, _, h1⟩
  · exact ⟨_, _, rfl⟩
section
variable {α : Type} {enc : α → List Value} {k : Nat}
def InRow (enc : α → List Value) (w : World) (ao : Option Addr) (zs : List α) : Prop := zs = [] ∨ ∃ blk off, ao = some ⟨blk, off, none⟩ ∧ ∀ j u, (flat enc zs)[j]? = some u → w.cell? ⟨blk, off + j, none⟩ = some u
theorem InRow.kept {w w' : World} {ao : Option Addr} {zs : List α} (h : InRow enc w ao zs) (hk : ∀ g o, ao = some ⟨g, o, none⟩ → w'.heap[g]? = w.heap[g]?) : InRow enc w' ao zs := by
  rcases h with h | ⟨g, o, h1, h2⟩
  · exact .inl h
  · exact .inr ⟨g, o, h1, fun j u hj => by rw [World.cell?_of_block (a := ⟨g, o + j, none⟩) (hk g o h1)]; exact h2 j u hj⟩
theorem InRow.get (hlen : ∀ x, (enc x).length = k) {w : World} {ao : Option Addr} {zs : List α} (h : InRow enc w ao zs) {i : Nat} {x : α} (hi : zs[i]? = some x) : ∃ blk off, ao = some ⟨blk, off, none⟩ ∧ ∀ c u, (enc x)[c]? = some u → w.cell? ⟨blk, off + i * k + c, none⟩ = some u := by
  rcases h with h | ⟨b, o, h1, h2⟩
  · subst h; simp at hi
  · refine ⟨b, o, h1, fun c u hc => ?_⟩
    have hck : c < k := by have := (List.getElem?_eq_some_iff.1 hc).1; rwa [hlen] at this
    rw [Nat.add_assoc]
    exact h2 _ _ ((flat_get (enc := enc) hlen hi hck).trans hc)
theorem rowIn (hlen : ∀ x, (enc x).length = k) {w : World} {base : Nat} {T : TypeId} {ao : Option Addr} {cap : Nat} {L : List α} (h : w.ownsRow base T k (.slice ao L.length cap) L.length (flat enc L)) : InRow enc w ao L := by
  have h' := h
  rcases h.2 with ⟨h1, h2⟩ | ⟨g, cap', cur, hv, _⟩
  · exact .inl (List.length_eq_zero_iff.1 h2)
  · cases hv
    refine .inr ⟨g, 0, rfl, fun j u hj => ?_⟩
    have hl : j < (flat enc L).length := (List.getElem?_eq_some_iff.1 hj).1
    rw [flat_len hlen] at hl
    rw [Nat.zero_add, h'.cellAt j hl, hj]
theorem append_row {P : Program} {S T : TypeId} {z : Value} {bytes : Nat} (hS : P.underlying S = some (.slice T)) (hinfo : (P.info? T).map (fun i => (i.zero, i.size, i.bytes)) = some (some z, k, bytes)) (hb1 : bytes ≤ 1000) (hk0 : 0 < k) (hzc : z.cells.size = k)
    (hlen : ∀ x, (enc x).length = k) (hone : ∀ x, ∀ v ∈ enc x, v.oneCell' = true)
    {w : World} {base n : Nat} {v : Value} {xs : List Value} (ho : w.ownsRow base T k v n xs) (hn : n ≤ 2000) (hbase : base ≤ w.heap.size) (ap : Option Addr) (c : Nat) (ys : List α) (hy : ys.length ≤ 2000) (hap : InRow enc w ap ys) (hc : ap = none → c = 0) (ty : TypeId) :
    ∃ v' w', (Builtin.append_ #[S, S] ty #[v, .slice ap ys.length c]).run P w = .ok v' w' ∧ w'.ownsRow base T k v' (n + ys.length) (xs ++ flat enc ys) ∧ w.grownBy w' v.ownBlock := by
  obtain ⟨i0, hi, hz0, hz1, hz2⟩ := info_parts hinfo
  cases ap with
  | none =>
    have h0 : ys = [] := by
      rcases hap with h | ⟨_, _, h, _⟩
      · exact h
      · cases h
    subst h0
    rw [hc rfl]
    refine ⟨v, w, run_append_owned_none w base _ ty _ i0 k hS hi v n xs ho, by simpa [flat] using ho, ⟨rfl, rfl, rfl, Nat.le_refl _, fun _ _ _ => rfl⟩⟩
  | some a =>
    have hl : (flat enc ys).length = ys.length * k := flat_len hlen ys
    obtain ⟨v', w', h1, h2, h3, -⟩ := run_append_own (P := P) w base S ty T i0 _ k bytes hS hi hz0 hz1 hz2 hzc (by omega) v n xs ho a ys.length c (flat enc ys) hl (fun j u hj => by
      rcases hap with h | ⟨b, o, h, hcell⟩
      · subst h; simp [flat] at hj
      · cases h
        rw [Addr.add_lit]
        exact hcell j u hj) (flat_one hone ys) (by simp only [maxLen]; omega) (by have := Nat.mul_le_mul (show n + ys.length ≤ 4000 by omega) hb1; omega) hbase
    exact ⟨v', w', h1, h2, h3⟩
end
end Go.Proofs.YtcggmagdndhkbaaGreatDoor
end
