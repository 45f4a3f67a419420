/- The reference's line in its blocks; contracts of its Find, lay, Delete. -/
import Derived.Test.YtchngdhmloahbabDoorLineAct
import Derived.Laws.OwnMore
import Derived.Lib.AppendZeros
set_option linter.unusedVariables false
set_option linter.unusedSimpArgs false
namespace Go.Proofs.YtchngdhmloahbabDoor
open Go.RowKit Go.Lib Go.Sort

def encR (l : Ltr) : List Value := [.int .i64 l.1, .int .u8 (l.2.1 : Int), .bool l.2.2]
theorem encR_len (l : Ltr) : (encR l).length = 3 := rfl
theorem encR_one (l : Ltr) : ∀ v ∈ encR l, v.oneCell' = true := by
  intro v hv
  simp [encR] at hv
  rcases hv with rfl | rfl | rfl <;> rfl
theorem infoLet : (Tryd.prog.info? 45).map (fun i => (i.zero, i.size, i.bytes)) = some (some (.agg #[.int .i64 0, .int .u8 0, .bool false]), 3, 16) := by kernel_rfl
/-- Letters behind an address, if there are any. -/
def LetsIn (w : World) (ao : Option Addr) (zs : List Ltr) : Prop := zs = [] ∨ ∃ blk off, ao = some ⟨blk, off, none⟩ ∧ ∀ j u, (flat encR zs)[j]? = some u → w.cell? ⟨blk, off + j, none⟩ = some u
theorem LetsIn.later {w w' : World} {ao : Option Addr} {zs : List Ltr} (h : LetsIn w ao zs) (hb : Below w.heap.size w w') : LetsIn w' ao zs := by
  rcases h with h | ⟨g, o, h1, h2⟩
  · exact .inl h
  · exact .inr ⟨g, o, h1, fun j u hj => cellStays hb (h2 j u hj)⟩
theorem LetsIn.at {w : World} {ao : Option Addr} {zs : List Ltr} (h : LetsIn w ao zs) {i : Nat} {a : Int} {c : Nat} {g : Bool} (hi : zs[i]? = some (a, c, g)) : ∃ blk off, ao = some ⟨blk, off, none⟩ ∧ w.cell? ⟨blk, off + i * 3, none⟩ = some (.int .i64 a) ∧ w.cell? ⟨blk, off + i * 3 + 1, none⟩ = some (.int .u8 (c : Int)) ∧ w.cell? ⟨blk, off + i * 3 + 2, none⟩ = some (.bool g) := by
  rcases h with h | ⟨b, o, h1, h2⟩
  · subst h; simp at hi
  · have hg := fun k hk => flat_get (enc := encR) (k := 3) encR_len (c := k) hi hk
    refine ⟨b, o, h1, ?_, ?_, ?_⟩
    · exact h2 (i * 3 + 0) _ (hg 0 (by omega))
    · rw [Nat.add_assoc]; exact h2 _ _ (hg 1 (by omega))
    · rw [Nat.add_assoc]; exact h2 _ _ (hg 2 (by omega))
theorem letsRow {w : World} {base : Nat} {ao : Option Addr} {cap : Nat} {L : List Ltr} (h : w.ownsRow base 45 3 (.slice ao L.length cap) L.length (flat encR L)) : LetsIn w ao L := by
  have h' := h
  rcases h.2 with ⟨h1, h2⟩ | ⟨g, cap', cur, hv, _⟩
  · exact .inl (List.length_eq_zero_iff.1 h2)
  · cases hv
    refine .inr ⟨g, 0, rfl, fun j u hj => ?_⟩
    have hl : j < (flat encR L).length := (List.getElem?_eq_some_iff.1 hj).1
    rw [flat_len encR_len] at hl
    rw [Nat.zero_add, h'.cellAt j hl, hj]

/-- A line of the reference in its blocks. -/
structure RefAt (base : Nat) (w : World) (p : Nat) (v : Value) (L : List Ltr) : Prop where
  cell : w.heap[p]? = some (.cells #[v] 40 (0, 0))
  row : w.ownsRow base 45 3 v L.length (flat encR L)
  low : p < base
  small : ∀ l ∈ L, l.2.1 < 256
theorem RefAt.c0 {base : Nat} {w : World} {p : Nat} {v : Value} {L : List Ltr} (h : RefAt base w p v L) : w.cell? ⟨p, 0, none⟩ = some v := by simp [World.cell?, h.cell]
theorem RefAt.fz {base : Nat} {w : World} {p : Nat} {v : Value} {L : List Ltr} (h : RefAt base w p v L) : w.frozen? ⟨p, 0, none⟩ = false := by simp [World.frozen?, h.cell]
theorem RefAt.lt {base : Nat} {w : World} {p : Nat} {v : Value} {L : List Ltr} (h : RefAt base w p v L) : p < w.heap.size := (Array.getElem?_eq_some_iff.1 h.cell).1
theorem RefAt.ne {base : Nat} {w : World} {p : Nat} {v : Value} {L : List Ltr} (h : RefAt base w p v L) : ∀ g, v.ownBlock = some g → g ≠ p ∧ g < w.heap.size ∧ base ≤ g := fun g hg => by
  have h1 := h.row.lt g hg
  have h2 := h.low
  exact ⟨by omega, h1.2, h1.1⟩
theorem RefAt.same {base : Nat} {w w' : World} {p : Nat} {v : Value} {L : List Ltr} (h : RefAt base w p v L) (h1 : w'.heap[p]? = w.heap[p]?) (h2 : ∀ g, v.ownBlock = some g → w'.heap[g]? = w.heap[g]?) : RefAt base w' p v L :=
  ⟨h1.trans h.cell, ownsSame h.row h2, h.low, h.small⟩
theorem RefAt.later {base : Nat} {w w' : World} {p : Nat} {v : Value} {L : List Ltr} (h : RefAt base w p v L) (hb : Below w.heap.size w w') : RefAt base w' p v L :=
  h.same (hb.block _ h.lt) (fun g hg => hb.block g (h.row.lt g hg).2)

set_option maxRecDepth 100000 in
set_option maxHeartbeats 1000000 in
theorem rfind_any (w : World) (base p : Nat) (v : Value) (L : List Ltr) (id : Int) (h : RefAt base w p v L) (hL : L.length ≤ 1000) :
    Calls Tryd.prog 23 #[.pointer (some ⟨p, 0, none⟩), .int .i64 id] w fun e w' => e = .returned (.int .i64 (findI id L)) ∧ w' = w := by
  obtain ⟨ao, cap, rfl⟩ := rowShape h.row
  have c0 := h.c0
  have HI : Aside (LetsIn w ao L) := letsRow h.row
  clear h
  go_enter Tryd.func23, Tryd.ntmps23
  go_wp2
  go_loopg [5] L.length (fun kx s5 wr => ∃ (k : Nat), s5 = .int .i64 (k : Int) ∧ k ≤ L.length ∧ L.length - k ≤ kx ∧ wr = w ∧ Aside (∀ j l, j < k → L[j]? = some l → l.1 ≠ id))
  case atStart => exact ⟨0, rfl, Nat.zero_le _, Nat.le_refl _, rfl, fun j l hj => by omega⟩
  case round =>
    obtain ⟨k, rfl, hk, hkx, rfl, A⟩ := hrel
    by_cases hlt : k < L.length
    · have hltz : decide ((k : Int) < (L.length : Int)) = true := by simp; omega
      have ek : ((k : Int)).toNat = k := by omega
      have pk : (0 : Int) ≤ (k : Int) := by omega
      have bk : (k : Int) < (L.length : Int) := by omega
      obtain ⟨⟨a, c, gn⟩, hl⟩ : ∃ l, Aside (L[k]? = some l) := ⟨L[k], List.getElem?_eq_getElem hlt⟩
      obtain ⟨blk, off, rfl, f0, f1, f2⟩ := HI.out.at hl.out
      by_cases ha : a = id
      · have da : (a == id) = true := by simp [ha]
        have HA := Lib.hid ha
        clear ha
        go_wp2
        go_ret
        refine ⟨?_, rfl⟩
        rw [← findI_is (r := (k : Int)) (.inr ⟨k, _, rfl, hl.out, by simpa using HA.out, fun j g hj hg => by simpa using A.out j g hj hg⟩)]
        rfl
      · have da : (a == id) = false := by simp [ha]
        have HA := Lib.hid ha
        clear ha
        go_wp2
        go_roundg (L.length - (k + 1))
        case measure => omega
        case rel =>
          refine ⟨k + 1, by go_num, by omega, Nat.le_refl _, rfl, fun j l hj e => ?_⟩
          rcases Nat.lt_or_ge j k with h | h
          · exact A.out j l h e
          · obtain rfl : j = k := by omega
            rw [hl.out] at e
            cases e
            exact HA.out
    · have hltz : decide ((k : Int) < (L.length : Int)) = false := by simp; omega
      go_wp2
      go_ret
      refine ⟨?_, rfl⟩
      rw [← findI_is (r := -1) (.inl ⟨rfl, fun l hl => by
        obtain ⟨j, hj, rfl⟩ := List.getElem_of_mem hl
        simpa using A.out j _ (by omega) (List.getElem?_eq_getElem hj)⟩)]
      rfl

/-- append of letters that may be none. -/
theorem append_lets {w : World} {base n : Nat} {v : Value} {xs : List Value} (ho : w.ownsRow base 45 3 v n xs) (hn : n ≤ 2000) (hbase : base ≤ w.heap.size) (ap : Option Addr) (c : Nat) (ys : List Ltr) (hy : ys.length ≤ 2000) (hap : LetsIn w ap ys) (hc : ap = none → c = 0) (ty : TypeId) :
    ∃ v' w', (Builtin.append_ #[38, 38] ty #[v, .slice ap ys.length c]).run Tryd.prog w = .ok v' w' ∧ w'.ownsRow base 45 3 v' (n + ys.length) (xs ++ flat encR ys) ∧ w.grownBy w' v.ownBlock := by
  obtain ⟨i0, hi, hz0, hz1, hz2⟩ := info_parts infoLet
  cases ap with
  | none =>
    have h0 : ys = [] := by
      rcases hap with h | ⟨_, _, h, _⟩
      · exact h
      · cases h
    subst h0
    rw [hc rfl]
    refine ⟨v, w, run_append_owned_none w base _ ty _ i0 3 Tryd.underlying38 hi v n xs ho, by simpa [flat] using ho, ⟨rfl, rfl, rfl, Nat.le_refl _, fun _ _ _ => rfl⟩⟩
  | some a =>
    have hl : (flat encR ys).length = ys.length * 3 := flat_len encR_len ys
    obtain ⟨v', w', h1, h2, h3, -⟩ := run_append_own (P := Tryd.prog) w base 38 ty 45 i0 _ 3 16 Tryd.underlying38 hi hz0 hz1 hz2 rfl (by omega) v n xs ho a ys.length c (flat encR ys) hl (fun j u hj => by
      rcases hap with h | ⟨b, o, h, hcell⟩
      · subst h; simp [flat] at hj
      · cases h
        rw [Addr.add_lit]
        exact hcell j u hj) (flat_one encR_one ys) (by simp only [maxLen]; omega) (by omega) hbase
    exact ⟨v', w', h1, h2, h3⟩
end Go.Proofs.YtchngdhmloahbabDoor
