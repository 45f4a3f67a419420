/- Contracts of (*line.Line).Insert: a letter is laid in, or what is told. -/
import Derived.Test.YtkilnfooelihaaaDoorLineAt
import Derived.Test.YtkilnfooelihaaaDoorRoundZ
import Derived.Test.YtkilnfooelihaaaDoorOfNo
import Derived.Deep.Cut
import Derived.Deep.CutRange
import Derived.Deep.DeepCutAuto
namespace Go.Proofs.YtkilnfooelihaaaDoor
open Go.RowKit Go.Lib Go.Sort

section
variable {P : Program} {ops : Array Oper} {Q : Exit → Act → World → Prop} {md : Region.Mode} {S : World → Prop} {z : Nat}
/-- One of two may come up. -/
theorem wpAnyZ_two {i j : Nat} {oi oj : Oper} {fuel : Nat} {listed : Array Bool} {a : Act} {w : World} (hr : Region.ready md ops listed = [i, j]) (hoi : ops[i]? = some oi) (hoj : ops[j]? = some oj)
    (h1 : ∀ K : Act → World → Prop, (∀ a' w', (S w' ∨ i = z ∧ z < listed.size) → wpAnyZ P md ops Q S z fuel (listed.setIfInBounds i true) a' w' → K a' w') → if Region.wanted oi (yielded ops a.tmps) = true then Oper.wp P oi a w K Q else K (a.put oi.dst undef) w)
    (h2 : ∀ K : Act → World → Prop, (∀ a' w', (S w' ∨ j = z ∧ z < listed.size) → wpAnyZ P md ops Q S z fuel (listed.setIfInBounds j true) a' w' → K a' w') → if Region.wanted oj (yielded ops a.tmps) = true then Oper.wp P oj a w K Q else K (a.put oj.dst undef) w) : wpAnyZ P md ops Q S z (fuel + 1) listed a w := by
  refine ⟨fun h0 => (by rw [h0] at hr; cases hr), fun k hk => ?_⟩
  rw [hr] at hk
  simp only [List.mem_cons, List.not_mem_nil, or_false] at hk
  rcases hk with rfl | rfl
  · have := h1 (fun a' w' => (S w' ∨ (listed.setIfInBounds k true).getD z false = true) ∧ wpAnyZ P md ops Q S z fuel (listed.setIfInBounds k true) a' w') (fun a' w' h1 h2 => ⟨h1.imp id (fun h => by
      obtain ⟨e, hl⟩ := h
      subst e
      simp [hl]), h2⟩)
    unfold wpOp
    simp only [hoi]
    split
    · rename_i hw
      rw [if_pos hw] at this
      exact .inl this
    · rename_i hw
      rw [if_neg hw] at this
      exact this
  · have := h2 (fun a' w' => (S w' ∨ (listed.setIfInBounds k true).getD z false = true) ∧ wpAnyZ P md ops Q S z fuel (listed.setIfInBounds k true) a' w') (fun a' w' h1 h2 => ⟨h1.imp id (fun h => by
      obtain ⟨e, hl⟩ := h
      subst e
      simp [hl]), h2⟩)
    unfold wpOp
    simp only [hoj]
    split
    · rename_i hw
      rw [if_pos hw] at this
      exact .inl this
    · rename_i hw
      rw [if_neg hw] at this
      exact this
end

/-- The errors that a line tells, and those of stamps, lie where their variables say. -/
structure Ln4 (ad : Nat → Addr) (w : World) : Prop where
  c1 : w.cell? ⟨1, 0, none⟩ = some (.iface 109 (.pointer (some (ad 1))))
  c2 : w.cell? ⟨2, 0, none⟩ = some (.iface 109 (.pointer (some (ad 2))))
  c5 : w.cell? ⟨5, 0, none⟩ = some (.iface 109 (.pointer (some (ad 5))))
  c6 : w.cell? ⟨6, 0, none⟩ = some (.iface 109 (.pointer (some (ad 6))))
theorem Ln4.later {ad : Nat → Addr} {w w' : World} (h : Ln4 ad w) (hb : Below w.heap.size w w') : Ln4 ad w' :=
  ⟨cellStays hb h.c1, cellStays hb h.c2, cellStays hb h.c5, cellStays hb h.c6⟩

/-- May it be an id, and stand behind the other one? -/
def ShapeOk (id behind : Int) : Prop := 4 ≤ id ∧ id < 4294967300 ∧ 0 ≤ behind ∧ behind < id

set_option maxRecDepth 100000 in
set_option maxHeartbeats 1000000 in
theorem insert_shape {ad : Nat → Addr} (w : World) (p : Nat) (id behind : Int) (c : Nat) (hE : Ln4 ad w) (hi : -9223372036854775808 ≤ id ∧ id ≤ 9223372036854775807) (h : ¬ ShapeOk id behind) :
    Calls Tryd.prog 64 #[.pointer (some ⟨p, 0, none⟩), .int .i64 id, .int .i64 behind, .int .u8 (c : Int)] w fun e w' => e = .returned (.iface 109 (.pointer (some (ad 2)))) ∧ Below w.heap.size w w' := by
  have HE : Aside (Ln4 ad w) := hE
  have hzb : 1 < w.heap.size := World.block_lt_of_cell? w ⟨_, 0, none⟩ hE.c1
  by_cases h1 : 4 ≤ id ∧ id < 4294967300
  · have hof := of_ok id w h1.1 h1.2
    by_cases h2 : behind < 0
    · have d2 : decide (behind < 0) = true := decide_eq_true h2
      clear hE h h1 hi hzb
      go_enter Tryd.func64, Tryd.ntmps64
      go_wp2_with fail
      refine hof.mono ?_
      rintro e w1 ⟨rfl, hb⟩
      have B2 : Aside (∀ o, Below w.heap.size w (w1.alloc o)) := fun o => hb.alloc hb.size o
      have c2 : ∀ o, (w1.alloc o).cell? ⟨2, 0, none⟩ = _ := fun o => (HE.out.later (B2.out o)).c2
      clear hb hof
      go_wp2
      go_ret
      exact ⟨rfl, B2.out _⟩
    · have d2 : decide (behind < 0) = false := decide_eq_false h2
      have d3 : decide (id ≤ behind) = true := decide_eq_true (by unfold ShapeOk at h; omega)
      clear hE h h1 hi hzb
      go_enter Tryd.func64, Tryd.ntmps64
      go_wp2_with fail
      refine hof.mono ?_
      rintro e w1 ⟨rfl, hb⟩
      have B2 : Aside (∀ o, Below w.heap.size w (w1.alloc o)) := fun o => hb.alloc hb.size o
      have c2 : ∀ o, (w1.alloc o).cell? ⟨2, 0, none⟩ = _ := fun o => (HE.out.later (B2.out o)).c2
      clear hb hof
      go_wp2
      go_ret
      exact ⟨rfl, B2.out _⟩
  · have hof := of_no id w _ _ hE.c1 hzb (by omega) hi.1 hi.2
    clear hE h h1 hi hzb
    go_enter Tryd.func64, Tryd.ntmps64
    go_wp2_with fail
    refine hof.mono ?_
    rintro e w1 ⟨rfl, hb⟩
    have B2 : Aside (∀ o, Below w.heap.size w (w1.alloc o)) := fun o => hb.alloc hb.size o
    have c2 : ∀ o, (w1.alloc o).cell? ⟨2, 0, none⟩ = _ := fun o => (HE.out.later (B2.out o)).c2
    clear hb hof
    go_wp2
    go_ret
    exact ⟨rfl, B2.out _⟩

set_option maxRecDepth 100000 in
set_option maxHeartbeats 1000000 in
theorem insert_exist {ad : Nat → Addr} (w : World) (base p : Nat) (v : Value) (L : List Ltr) (id behind : Int) (c : Nat) (hE : Ln4 ad w) (hT : LineAt base w p v L) (hL : L.length ≤ 1000) (h : ShapeOk id behind) (hx : id ∈ L.map (·.1)) :
    Calls Tryd.prog 64 #[.pointer (some ⟨p, 0, none⟩), .int .i64 id, .int .i64 behind, .int .u8 (c : Int)] w fun e w' => e = .returned (.iface 109 (.pointer (some (ad 6)))) ∧ Below w.heap.size w w' := by
  have HE : Aside (Ln4 ad w) := hE
  have HT : Aside (LineAt base w p v L) := hT
  have hof := of_ok id w h.1 h.2.1
  have d2 : decide (behind < 0) = false := decide_eq_false (by have := h.2.2.1; omega)
  have d3 : decide (id ≤ behind) = false := decide_eq_false (by have := h.2.2.2; omega)
  obtain ⟨i, hi, -, hil⟩ := findI_pos hx
  have d4 : decide ((0 : Int) ≤ (i : Int)) = true := by simp
  have HI := Lib.hid hi
  clear hE hT h hx hi
  go_enter Tryd.func64, Tryd.ntmps64
  go_wp2_with fail
  refine hof.mono ?_
  rintro e w1 ⟨rfl, hb⟩
  have B2 : Aside (∀ o, Below w.heap.size w (w1.alloc o)) := fun o => hb.alloc hb.size o
  clear hb hof
  go_wp2_with fail
  refine (find_any _ base p v L id (HT.out.later (B2.out _)) hL).mono ?_
  rintro e w2 ⟨rfl, hb2⟩
  rw [HI.out]
  have B3 : Aside (Below w.heap.size w w2) := (B2.out _).trans (hb2.mono (B2.out _).size)
  have c6 := (HE.out.later B3.out).c6
  clear hb2
  go_wp2
  go_ret
  exact ⟨rfl, B3.out⟩

set_option maxRecDepth 100000 in
set_option maxHeartbeats 1000000 in
theorem insert_none {ad : Nat → Addr} (w : World) (base p : Nat) (v : Value) (L : List Ltr) (id behind : Int) (c : Nat) (hE : Ln4 ad w) (hT : LineAt base w p v L) (hL : L.length ≤ 1000) (h : ShapeOk id behind) (hx : id ∉ L.map (·.1)) (h0 : behind ≠ 0) (hy : behind ∉ L.map (·.1)) :
    Calls Tryd.prog 64 #[.pointer (some ⟨p, 0, none⟩), .int .i64 id, .int .i64 behind, .int .u8 (c : Int)] w fun e w' => e = .returned (.iface 109 (.pointer (some (ad 5)))) ∧ Below w.heap.size w w' := by
  have HE : Aside (Ln4 ad w) := hE
  have HT : Aside (LineAt base w p v L) := hT
  have hof := of_ok id w h.1 h.2.1
  have d2 : decide (behind < 0) = false := decide_eq_false (by have := h.2.2.1; omega)
  have d3 : decide (id ≤ behind) = false := decide_eq_false (by have := h.2.2.2; omega)
  have d4 : (behind != 0) = true := by simp [h0]
  have HI := Lib.hid (findI_neg hx)
  have HJ := Lib.hid (findI_neg hy)
  clear hE hT h hx hy h0
  go_enter Tryd.func64, Tryd.ntmps64
  go_wp2_with fail
  refine hof.mono ?_
  rintro e w1 ⟨rfl, hb⟩
  have B2 : Aside (∀ o, Below w.heap.size w (w1.alloc o)) := fun o => hb.alloc hb.size o
  clear hb hof
  go_wp2_with fail
  refine (find_any _ base p v L id (HT.out.later (B2.out _)) hL).mono ?_
  rintro e w2 ⟨rfl, hb2⟩
  rw [HI.out]
  have B3 : Aside (Below w.heap.size w w2) := (B2.out _).trans (hb2.mono (B2.out _).size)
  clear hb2
  go_wp2_with fail
  refine (find_any _ base p v L behind (HT.out.later B3.out) hL).mono ?_
  rintro e w3 ⟨rfl, hb3⟩
  rw [HJ.out]
  have B4 : Aside (Below w.heap.size w w3) := B3.out.trans (hb3.mono B3.out.size)
  have c5 := (HE.out.later B4.out).c5
  clear hb3
  go_wp2
  go_ret
  exact ⟨rfl, B4.out⟩
end Go.Proofs.YtkilnfooelihaaaDoor
