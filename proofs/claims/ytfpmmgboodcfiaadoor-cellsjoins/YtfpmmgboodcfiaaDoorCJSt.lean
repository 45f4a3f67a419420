/- What the law CellsJoins keeps on its way: operations of one stamp are one; three cells side by side. -/
import Derived.Test.YtfpmmgboodcfiaaDoorCellLaw
import Derived.Test.YtfpmmgboodcfiaaDoorCellJoin
import Derived.Test.YtfpmmgboodcfiaaDoorOpSame
namespace Go.Proofs.YtfpmmgboodcfiaaDoor
open Go.RowKit Go.Maps

theorem long60 (w : World) (ao : Option Addr) (cap : Nat) (xs : List OpX) (h : OpsIn w ao xs) (hn : xs.length < 9223372036854775808) :
    Calls Tryd.prog 6 #[.slice ao xs.length cap, .int .i64 60] w fun e w' => (e = .returned (.int .i64 1) ∨ (e = .returned (.int .i64 0) ∧ xs.length ≤ 60 ∧ ∀ j, j < xs.length → Short xs[j]!)) ∧ w' = w := longN 60 w ao cap xs h hn
theorem eqStB (a b c d : Int) (w : World) : (Op.equalIn 10000 36 (.agg #[.int .i64 a, .int .i64 b]) (.agg #[.int .i64 c, .int .i64 d])).run Tryd.prog w = .ok (decide ((a, b) = (c, d))) w := by
  go_simp
  by_cases h1 : a = c <;> by_cases h2 : b = d <;> simp [h1, h2]
theorem eqMk (a : Int) (s c : ByteArray) (w : World) : (Op.equalIn 10000 52 (.agg #[.int .i64 a, .string s, .string c]) (.agg #[.int .i64 a, .string s, .string c])).run Tryd.prog w = .ok true w := by
  go_simp
/-- An operation of a list, in its cells. -/
theorem OpsIn.at_ {w : World} {ao : Option Addr} {xs : List OpX} (h : OpsIn w ao xs) {i : Nat} (hi : i < xs.length) : ∃ (blk off : Nat) (t b m : Int) (kd : Nat) (node other : Int) (name value : ByteArray), ao = some ⟨blk, off, none⟩ ∧ Eight w blk (off + i * 8) t b m kd node other name value ∧ Aside (xs[i]! = (t, b, m, kd, node, other, name, value)) := by
  obtain ⟨blk, off, rfl, hc⟩ : ∃ b off, ao = some ⟨b, off, none⟩ ∧ ∀ j u, (cellsOf xs)[j]? = some u → w.cell? ⟨b, off + j, none⟩ = some u := by
    rcases h with h0 | h1
    · subst h0; simp at hi
    · exact h1
  obtain ⟨⟨t, b, m, kd, node, other, name, value⟩, hx⟩ : ∃ x, xs[i]! = x := ⟨_, rfl⟩
  exact ⟨blk, off, t, b, m, kd, node, other, name, value, rfl, eight_at hc i hi hx, hx⟩

/-- Of one stamp one operation, among those that were looked at. -/
def OneTo (xs : List OpX) (i k : Nat) : Prop := ∀ i' k', k' < i' → i' < xs.length → (i' < i ∨ (i' = i ∧ k' < k)) → (xs[k']!).1 = (xs[i']!).1 → (xs[k']!).2.1 = (xs[i']!).2.1 → xs[k']! = xs[i']!
theorem oneTo_start (xs : List OpX) : OneTo xs 0 0 := fun i' k' _ _ h => by omega
theorem OneTo.next {xs : List OpX} {i : Nat} (h : OneTo xs i i) : OneTo xs (i + 1) 0 := fun i' k' h1 h2 h3 => h i' k' h1 h2 (by omega)
theorem OneTo.step {xs : List OpX} {i k : Nat} (h : OneTo xs i k) (hk : (xs[k]!).1 = (xs[i]!).1 → (xs[k]!).2.1 = (xs[i]!).2.1 → xs[k]! = xs[i]!) : OneTo xs i (k + 1) := fun i' k' h1 h2 h3 => by
  by_cases e : i' = i ∧ k' = k
  · obtain ⟨rfl, rfl⟩ := e
    exact hk
  · exact h i' k' h1 h2 (by omega)
theorem OneTo.all {xs : List OpX} (h : OneTo xs xs.length 0) : OneO xs := oneO_of (fun i k hk hi => h i k hk hi (.inl hi))

/-- Three cells side by side. -/
structure CJ (w : World) (B ml ma mb : Nat) (fl fa fb : CSta) (wr : World) : Prop where
  al : CellsAt wr (B + 1) B ml fl
  a : CellsAt wr (B + 3) (B + 2) ma fa
  b : CellsAt wr (B + 5) (B + 4) mb fb
  below : Below w.heap.size w wr
  low : w.heap.size ≤ B
theorem CJ.later {w wr wn : World} {B ml ma mb : Nat} {fl fa fb : CSta} (h : CJ w B ml ma mb fl fa fb wr) (hb : Below wr.heap.size wr wn) : CJ w B ml ma mb fl fa fb wn :=
  ⟨h.al.later hb, h.a.later hb, h.b.later hb, h.below.trans (hb.mono h.below.size), h.low⟩
theorem CJ.setL {w wr wn : World} {B ml ma mb : Nat} {fl fa fb : CSta} {x : OpX} (h : CJ w B ml ma mb fl fa fb wr) (hs : SetOk wr (B + 1) B ml fl x wn) : CJ w B (ml + 1) ma mb (stepO fl x) fa fb wn := by
  have k := hs.2
  have h1 := h.a.lt; have h2 := h.b.lt; have h3 := h.low
  exact ⟨hs.1, h.a.same (k.block _ h1.1 (by omega)) (k.block _ h1.2 (by omega)), h.b.same (k.block _ h2.1 (by omega)) (k.block _ h2.2 (by omega)), h.below.trans (k.below h.below.size (fun j e => by omega)), h.low⟩
theorem CJ.setA {w wr wn : World} {B ml ma mb : Nat} {fl fa fb : CSta} {x : OpX} (h : CJ w B ml ma mb fl fa fb wr) (hs : SetOk wr (B + 3) (B + 2) ma fa x wn) : CJ w B ml (ma + 1) mb fl (stepO fa x) fb wn := by
  have k := hs.2
  have h1 := h.al.lt; have h2 := h.b.lt; have h3 := h.low
  exact ⟨h.al.same (k.block _ h1.1 (by omega)) (k.block _ h1.2 (by omega)), hs.1, h.b.same (k.block _ h2.1 (by omega)) (k.block _ h2.2 (by omega)), h.below.trans (k.below h.below.size (fun j e => by omega)), h.low⟩
theorem CJ.setB {w wr wn : World} {B ml ma mb : Nat} {fl fa fb : CSta} {x : OpX} (h : CJ w B ml ma mb fl fa fb wr) (hs : SetOk wr (B + 5) (B + 4) mb fb x wn) : CJ w B ml ma (mb + 1) fl fa (stepO fb x) wn := by
  have k := hs.2
  have h1 := h.al.lt; have h2 := h.a.lt; have h3 := h.low
  exact ⟨h.al.same (k.block _ h1.1 (by omega)) (k.block _ h1.2 (by omega)), h.a.same (k.block _ h2.1 (by omega)) (k.block _ h2.2 (by omega)), hs.1, h.below.trans (k.below h.below.size (fun j e => by omega)), h.low⟩
theorem CJ.monoA {w wr : World} {B ml ma mb ma' : Nat} {fl fa fb : CSta} (h : CJ w B ml ma mb fl fa fb wr) (hm : ma ≤ ma') : CJ w B ml ma' mb fl fa fb wr := ⟨h.al, h.a.mono hm, h.b, h.below, h.low⟩
theorem CJ.monoB {w wr : World} {B ml ma mb mb' : Nat} {fl fa fb : CSta} (h : CJ w B ml ma mb fl fa fb wr) (hm : mb ≤ mb') : CJ w B ml ma mb' fl fa fb wr := ⟨h.al, h.a, h.b.mono hm, h.below, h.low⟩

/-- The lists of the walks, one further. -/
theorem drop_rev {xs : List OpX} {j : Nat} (h : j < xs.length) : (xs.drop j).reverse = (xs.drop (j + 1)).reverse ++ [xs[j]!] := by
  rw [List.drop_eq_getElem_cons h, List.reverse_cons, getElem!_pos xs j h]
theorem take_next {xs : List OpX} {i : Nat} (h : i < xs.length) : xs.take (i + 1) = xs.take i ++ [xs[i]!] := by
  rw [List.take_add_one, List.getElem?_eq_getElem h, getElem!_pos xs i h]
  rfl
theorem drop_next {xs : List OpX} {i c : Nat} (h : i < xs.length) (hc : c ≤ i) : (xs.take (i + 1)).drop c = (xs.take i).drop c ++ [xs[i]!] := by
  rw [take_next h, List.drop_append_of_le_length (by rw [List.length_take]; omega)]
end Go.Proofs.YtfpmmgboodcfiaaDoor
