import Derived.Test.YtehighgebbdenaaGreatDoorVp01
import Derived.Test.YtehighgebbdenaaGreatDoorVp02
import Derived.Test.YtehighgebbdenaaGreatDoorVp04
import Derived.Test.YtehighgebbdenaaGreatDoorVp06
import Derived.Test.YtehighgebbdenaaGreatDoorVp07
import Derived.Test.YtehighgebbdenaaGreatDoorVp11
import Derived.Test.YtehighgebbdenaaGreatDoorVp13
import Derived.Test.YtehighgebbdenaaGreatDoorVp14
import Derived.Laws.ResultCell
import Derived.Deep.QuietTactic
import Derived.BigQuiet
import Derived.WalkSmall
import Derived.RegionTactic
import Derived.Laws.Pointers
import Derived.Lib.Hide
import Derived.Deep.LoopGhost
section
set_option linter.unusedVariables false
namespace Go.Proofs.YtehighgebbdenaaGreatDoor
open Go.RowKit Go.Lib Go.Sort
theorem PutOk.step {base : Nat} {w0 w w' : World} {p : Nat} {v : Value} {L M : List Ltr} (h : PutOk base w p v M w') (hT : LineAt base w p v L) (hB : Below w0.heap.size w0 w) (hp : w0.heap.size ≤ p) :
    ∃ v', LineAt base w' p v' M ∧ Below w0.heap.size w0 w' ∧ Keeps (fun k => k = p ∨ base ≤ k) w w' := by
  obtain ⟨v', h1, h2, -⟩ := h
  have hlow := hT.low
  have hk : Keeps (fun k => k = p ∨ base ≤ k) w w' := h2.mono (fun k _ e => e.imp id (fun e => (hT.ne k e.symm).2.2))
  exact ⟨v', h1, hB.trans (hk.below hB.size (by rintro k (rfl | e) <;> omega)), hk⟩
end Go.Proofs.YtehighgebbdenaaGreatDoor
end
section
set_option linter.unusedVariables false
namespace Go.Proofs.YtehighgebbdenaaGreatDoor
open Go.RowKit Go.Lib Go.Sort
open scoped Classical
def ActOk (base : Nat) (w : World) (p : Nat) (v : Value) (M : List Ltr) (w' : World) : Prop :=
  ∃ v', LineAt base w' p v' M ∧ Keeps (fun k => k = p ∨ some k = v.ownBlock) w w' ∧ (v'.ownBlock = v.ownBlock ∨ ∀ g, v'.ownBlock = some g → w.heap.size ≤ g)
theorem ActOk.of_below {base : Nat} {w w' : World} {p : Nat} {v : Value} {L : List Ltr} (h : LineAt base w p v L) (hb : Below w.heap.size w w') : ActOk base w p v L w' :=
  ⟨v, h.later hb, (keeps_of_below hb).mono (fun k hk e => by omega), .inl rfl⟩
theorem ActOk.of_put {base : Nat} {w w' : World} {p : Nat} {v : Value} {M : List Ltr} (h : PutOk base w p v M w') : ActOk base w p v M w' := by
  obtain ⟨v', h1, h2, h3⟩ := h
  exact ⟨v', h1, h2, h3⟩
def lnInsE (id behind : Int) (L : List Ltr) : Nat :=
  if 4 ≤ id ∧ id < 4294967300 ∧ 0 ≤ behind ∧ behind < id then (if id ∈ L.map (·.1) then 7 else if behind = 0 ∨ behind ∈ L.map (·.1) then 0 else 6) else 3
def insL (id behind : Int) (c : Nat) (L : List Ltr) : List Ltr := if lnInsE id behind L = 0 then put behind (id, c, false) L else L
def errN (ad : Nat → Addr) (c : Nat) : Value := if c = 0 then .nilIface else .iface 399 (.pointer (some (ad (c - 1))))
theorem insert_all {ad : Nat → Addr} (w : World) (base p : Nat) (v : Value) (L : List Ltr) (id behind : Int) (c : Nat) (hE : Ln4 ad w) (hT : LineAt base w p v L) (hbase : base ≤ w.heap.size) (hL : L.length ≤ 900) (hi : -9223372036854775808 ≤ id ∧ id ≤ 9223372036854775807) (hc : c < 256) :
    Calls Tryz.prog 126 #[.pointer (some ⟨p, 0, none⟩), .int .i64 id, .int .i64 behind, .int .u8 (c : Int)] w fun e w' => e = .returned (errN ad (lnInsE id behind L)) ∧ ActOk base w p v (insL id behind c L) w' := by
  unfold insL lnInsE
  by_cases h1 : 4 ≤ id ∧ id < 4294967300 ∧ 0 ≤ behind ∧ behind < id
  · rw [if_pos h1]
    by_cases h2 : id ∈ L.map (·.1)
    · rw [if_pos h2, if_neg (by omega)]
      refine (insert_exist w base p v L id behind c hE hT (by omega) h1 h2).mono ?_
      rintro e w' ⟨rfl, hb⟩
      exact ⟨rfl, ActOk.of_below hT hb⟩
    · rw [if_neg h2]
      by_cases h3 : behind = 0 ∨ behind ∈ L.map (·.1)
      · rw [if_pos h3, if_pos rfl]
        refine (insert_ok w base p v L id behind c hT hbase hL h1 hc h2 h3).mono ?_
        rintro e w' ⟨rfl, hp⟩
        exact ⟨rfl, ActOk.of_put hp⟩
      · rw [if_neg h3, if_neg (by omega)]
        refine (insert_none w base p v L id behind c hE hT (by omega) h1 h2 (fun e => h3 (.inl e)) (fun e => h3 (.inr e))).mono ?_
        rintro e w' ⟨rfl, hb⟩
        exact ⟨rfl, ActOk.of_below hT hb⟩
  · rw [if_neg h1, if_neg (by omega)]
    refine (insert_shape w p id behind c hE hi h1).mono ?_
    rintro e w' ⟨rfl, hb⟩
    exact ⟨rfl, ActOk.of_below hT hb⟩
def lnDelE (id : Int) (L : List Ltr) : Nat := match findL id L with
  | none => 6
  | some _ => 0
def delL (id : Int) (L : List Ltr) : List Ltr := match findL id L with
  | none => L
  | some i => L.set i (id, 0, true)
theorem delete_all {ad : Nat → Addr} (w : World) (base p : Nat) (v : Value) (L : List Ltr) (id : Int) (hE : Ln4 ad w) (hT : LineAt base w p v L) (hL : L.length ≤ 1000) :
    Calls Tryz.prog 127 #[.pointer (some ⟨p, 0, none⟩), .int .i64 id] w fun e w' => e = .returned (errN ad (lnDelE id L)) ∧ ActOk base w p v (delL id L) w' := by
  unfold lnDelE delL
  cases hf : findL id L with
  | none =>
    refine (delete_none w base p v L id hE hT hL (fun hm => ?_)).mono ?_
    · obtain ⟨l, hl, e⟩ := List.mem_map.1 hm
      exact findL_none hf l hl e
    · rintro e w' ⟨rfl, hb⟩
      exact ⟨rfl, ActOk.of_below hT hb⟩
  | some i =>
    refine (delete_ok w base p i v L id hT hL hf).mono ?_
    rintro e w' ⟨rfl, h1, h2⟩
    exact ⟨rfl, v, h1, h2.mono (fun k _ e => .inr e), .inl rfl⟩
theorem ActOk.step {base : Nat} {w0 w w' : World} {p : Nat} {v : Value} {L M : List Ltr} (h : ActOk base w p v M w') (hT : LineAt base w p v L) (hB : Below w0.heap.size w0 w) (hp : w0.heap.size ≤ p) :
    ∃ v', LineAt base w' p v' M ∧ Below w0.heap.size w0 w' ∧ Keeps (fun k => k = p ∨ some k = v.ownBlock) w w' ∧ (v'.ownBlock = v.ownBlock ∨ ∀ g, v'.ownBlock = some g → w.heap.size ≤ g) := by
  obtain ⟨v', h1, h2, h3⟩ := h
  have hlow := hT.low
  refine ⟨v', h1, hB.trans (h2.below hB.size ?_), h2, h3⟩
  rintro k (rfl | e)
  · exact hp
  · have := (hT.ne k e.symm).2.2
    omega
end Go.Proofs.YtehighgebbdenaaGreatDoor
end
section
namespace Go.Proofs.YtehighgebbdenaaGreatDoor
open Go.RowKit Go.Maps
def setE_ (x : OpX) : Nat := if errO x = 0 then (if x.2.2.2.1 = 115 then 0 else 5) else errO x
def setD (f : CSta) (x : OpX) : Bool := if errO x = 0 ∧ x.2.2.2.1 = 115 then goesC f (keyO x) (cellO x) else false
def SetOk (w : World) (bc bm n : Nat) (f : CSta) (x : OpX) (w' : World) : Prop := CellsAt w' bc bm (n + 1) (stepO f x) ∧ Keeps (fun j => j = bm) w w'
theorem setOk_none {w w' : World} {bc bm n : Nat} {f : CSta} {x : OpX} (h : CellsAt w bc bm n f) (hx : ¬ (errO x = 0 ∧ x.2.2.2.1 = 115)) (hb : Below w.heap.size w w') : SetOk w bc bm n f x w' := by
  have : stepO f x = f := by unfold stepO; rw [if_neg hx]
  exact ⟨by rw [this]; exact (h.later hb).mono (Nat.le_succ n), (keeps_of_below hb).mono (fun k hk e => by omega)⟩
theorem wfK_op {t b n : Int} {k : Nat} {node other : Int} {name value : ByteArray} (h : opE t b n k node other name.data.toList value.data.toList = 0) (hs : name.size ≤ 1000000) : WfK (node, name) := by
  obtain ⟨h1, h2, h3, h4, h5, h6, h7, h8, h9, _⟩ := opE_zero h
  exact wfK_of (by dsimp only; omega) (by dsimp only; omega) hs
set_option maxHeartbeats 1000000 in
theorem cset_wrong {ad : Nat → Addr} (w : World) (bc : Nat) (t b n : Int) (k : Nat) (node other : Int) (name value : ByteArray) (hE : Op4 ad w) (hsn : name.size ≤ 1000000) (hsv : value.size ≤ 1000000) (hop : opE t b n k node other name.data.toList value.data.toList ≠ 0) :
    Calls Tryz.prog 128 #[.pointer (some ⟨bc, 0, none⟩), .agg #[.int .i64 t, .int .i64 b, .int .i64 n, .int .u8 (k : Int), .int .i64 node, .int .i64 other, .string name, .string value]] w fun e w' => e = .returned (.tuple #[.bool false, eV ad (opE t b n k node other name.data.toList value.data.toList)]) ∧ Below w.heap.size w w' := by
  obtain ⟨w1, hw1⟩ : ∃ w1, w1 = w.alloc (.cells #[.int .i64 t, .int .i64 b, .int .i64 n, .int .u8 (k : Int), .int .i64 node, .int .i64 other, .string name, .string value] 38) := ⟨_, rfl⟩
  have B1 : Below w.heap.size w w1 := by rw [hw1]; exact (Below.refl _ w).alloc (Nat.le_refl _) _
  have hck := opcheck_any t b n k node other name value w1 (hE.later B1) hsn hsv
  obtain ⟨er, her⟩ : ∃ er, Aside (opE t b n k node other name.data.toList value.data.toList = er) := ⟨_, rfl⟩
  rw [her.out] at hck hop ⊢
  unfold eV at hck ⊢
  rw [if_neg hop] at hck ⊢
  have H1 : Aside (Below w.heap.size w w1) := B1
  clear B1 hE hop
  go_enter Tryz.func128, Tryz.ntmps128
  go_wp2_with fail
  rw [← hw1]
  clear hw1
  refine hck.mono ?_
  clear hck
  rintro e w2 ⟨rfl, hb2⟩
  have H2 : Aside (Below w.heap.size w w2) := H1.out.trans (hb2.mono H1.out.size)
  clear hb2 H1
  go_wp2
  go_ret2
  exact ⟨rfl, H2.out⟩
set_option maxHeartbeats 1000000 in
theorem cset_kind {ad : Nat → Addr} (w : World) (bc : Nat) (t b n : Int) (k : Nat) (node other : Int) (name value : ByteArray) (hE : Op4 ad w) (hsn : name.size ≤ 1000000) (hsv : value.size ≤ 1000000) (hop : opE t b n k node other name.data.toList value.data.toList = 0) (hk : k ≠ 115) :
    Calls Tryz.prog 128 #[.pointer (some ⟨bc, 0, none⟩), .agg #[.int .i64 t, .int .i64 b, .int .i64 n, .int .u8 (k : Int), .int .i64 node, .int .i64 other, .string name, .string value]] w fun e w' => e = .returned (.tuple #[.bool false, eV ad 5]) ∧ Below w.heap.size w w' := by
  obtain ⟨w1, hw1⟩ : ∃ w1, w1 = w.alloc (.cells #[.int .i64 t, .int .i64 b, .int .i64 n, .int .u8 (k : Int), .int .i64 node, .int .i64 other, .string name, .string value] 38) := ⟨_, rfl⟩
  have O1 : OpAt w1 w.heap.size t b n k node other name value := by rw [hw1]; exact OpAt.new w t b n k node other name value 38
  have B1 : Below w.heap.size w w1 := by rw [hw1]; exact (Below.refl _ w).alloc (Nat.le_refl _) _
  have hck := opcheck_any t b n k node other name value w1 (hE.later B1) hsn hsv
  rw [hop] at hck
  have e0 : eV ad 0 = .nilIface := rfl
  rw [e0] at hck
  have e5 : eV ad 5 = .iface 399 (.pointer (some (ad 4))) := rfl
  rw [e5]
  have H1 : Aside (OpAt w1 w.heap.size t b n k node other name value ∧ Op4 ad w1 ∧ Below w.heap.size w w1) := ⟨O1, hE.later B1, B1⟩
  have dk : ((k : Int) != 115) = true := by simp; omega
  clear B1 hE hop O1 e0 e5
  go_enter Tryz.func128, Tryz.ntmps128
  go_wp2_with fail
  rw [← hw1]
  clear hw1
  refine hck.mono ?_
  clear hck
  rintro e w2 ⟨rfl, hb2⟩
  have c3 := (H1.out.1.later hb2).c3
  have g4 := (H1.out.2.1.later hb2).c4
  have H2 : Aside (Below w.heap.size w w2) := H1.out.2.2.trans (hb2.mono H1.out.2.2.size)
  clear hb2 H1
  go_wp2_with fail
  go_quiet (fail)
  go_wp2
  go_ret2
  exact ⟨rfl, ⟨H2.out.os, H2.out.tape, H2.out.output, H2.out.size, H2.out.block⟩⟩
set_option maxHeartbeats 1000000 in
theorem cset_ok {ad : Nat → Addr} (w : World) (bc bm m : Nat) (f : CSta) (t b n node other : Int) (name value : ByteArray) (hE : Op4 ad w) (hC : CellsAt w bc bm m f) (hm : m ≤ 1000000) (hsn : name.size ≤ 1000000) (hsv : value.size ≤ 1000000) (hop : opE t b n 115 node other name.data.toList value.data.toList = 0) :
    Calls Tryz.prog 128 #[.pointer (some ⟨bc, 0, none⟩), .agg #[.int .i64 t, .int .i64 b, .int .i64 n, .int .u8 (115 : Int), .int .i64 node, .int .i64 other, .string name, .string value]] w fun e w' => e = .returned (.tuple #[.bool (goesC f (node, name) (value, (t, b))), .nilIface]) ∧ CPutOk w bc bm m f ((node, name), (value, (t, b))) w' := by
  obtain ⟨w1, hw1⟩ : ∃ w1, w1 = w.alloc (.cells #[.int .i64 t, .int .i64 b, .int .i64 n, .int .u8 (115 : Int), .int .i64 node, .int .i64 other, .string name, .string value] 38) := ⟨_, rfl⟩
  have O1 : OpAt w1 w.heap.size t b n 115 node other name value := by rw [hw1]; exact OpAt.new w t b n 115 node other name value 38
  have B1 : Below w.heap.size w w1 := by rw [hw1]; exact (Below.refl _ w).alloc (Nat.le_refl _) _
  have hck := opcheck_any t b n 115 node other name value w1 (hE.later B1) hsn hsv
  have hwf := wfK_op hop hsn
  rw [hop] at hck
  have e0 : eV ad 0 = .nilIface := rfl
  rw [e0] at hck
  have H1 : Aside (OpAt w1 w.heap.size t b n 115 node other name value ∧ CellsAt w1 bc bm m f ∧ Below w.heap.size w w1 ∧ WfK (node, name)) := ⟨O1, hC.later B1, B1, hwf⟩
  clear B1 hE hop O1 e0 hC hwf
  go_enter Tryz.func128, Tryz.ntmps128
  go_wp2_with fail
  rw [← hw1]
  clear hw1
  refine hck.mono ?_
  clear hck
  rintro e w2 ⟨rfl, hb2⟩
  obtain ⟨c0, c1, c2, c3, c4, c5, c6, c7⟩ := H1.out.1.later hb2
  have hput := put_any w2 bc bm m f node name value t b (H1.out.2.1.later hb2) hm H1.out.2.2.2
  have H2 : Aside (Below w.heap.size w w2) := H1.out.2.2.1.trans (hb2.mono H1.out.2.2.1.size)
  clear hb2 H1
  go_wp2_with fail
  refine hput.mono ?_
  clear hput
  rintro e w3 ⟨rfl, hP⟩
  have HP : Aside (CPutOk w bc bm m f ((node, name), (value, (t, b))) w3) := ⟨hP.1, (keeps_of_below H2.out).mono (fun k hk e => by omega) |>.then hP.2 (fun i hi e => e)⟩
  clear hP H2
  go_wp2
  go_ret2
  exact ⟨rfl, HP.out⟩
theorem cset_all {ad : Nat → Addr} (w : World) (bc bm m : Nat) (f : CSta) (t b n : Int) (k : Nat) (node other : Int) (name value : ByteArray) (hE : Op4 ad w) (hC : CellsAt w bc bm m f) (hm : m ≤ 1000000) (hsn : name.size ≤ 1000000) (hsv : value.size ≤ 1000000) :
    Calls Tryz.prog 128 #[.pointer (some ⟨bc, 0, none⟩), .agg #[.int .i64 t, .int .i64 b, .int .i64 n, .int .u8 (k : Int), .int .i64 node, .int .i64 other, .string name, .string value]] w fun e w' => e = .returned (.tuple #[.bool (setD f (t, b, n, k, node, other, name, value)), eV ad (setE_ (t, b, n, k, node, other, name, value))]) ∧ SetOk w bc bm m f (t, b, n, k, node, other, name, value) w' := by
  by_cases h0 : opE t b n k node other name.data.toList value.data.toList = 0
  · by_cases hk : k = 115
    · subst hk
      have hx : errO (t, b, n, 115, node, other, name, value) = 0 ∧ (115 : Nat) = 115 := ⟨h0, rfl⟩
      have e1 : setD f (t, b, n, 115, node, other, name, value) = goesC f (node, name) (value, (t, b)) := by unfold setD; rw [if_pos hx]; rfl
      have e2 : setE_ (t, b, n, 115, node, other, name, value) = 0 := by unfold setE_; rw [if_pos (show errO (t, b, n, 115, node, other, name, value) = 0 from h0)]; rfl
      have e3 : stepO f (t, b, n, 115, node, other, name, value) = setC f ((node, name), (value, (t, b))) := by unfold stepO; rw [if_pos hx]; rfl
      rw [e1, e2]
      refine (cset_ok w bc bm m f t b n node other name value hE hC hm hsn hsv h0).mono ?_
      rintro e w' ⟨rfl, hP⟩
      exact ⟨rfl, by rw [e3]; exact hP.1, hP.2⟩
    · have hx : ¬ (errO (t, b, n, k, node, other, name, value) = 0 ∧ k = 115) := fun h => hk h.2
      have e1 : setD f (t, b, n, k, node, other, name, value) = false := by unfold setD; rw [if_neg hx]
      have e2 : setE_ (t, b, n, k, node, other, name, value) = 5 := by unfold setE_; rw [if_pos (show errO (t, b, n, k, node, other, name, value) = 0 from h0)]; exact if_neg hk
      rw [e1, e2]
      refine (cset_kind w bc t b n k node other name value hE hsn hsv h0 hk).mono ?_
      rintro e w' ⟨rfl, hb⟩
      exact ⟨rfl, setOk_none hC hx hb⟩
  · have hx : ¬ (errO (t, b, n, k, node, other, name, value) = 0 ∧ k = 115) := fun h => h0 h.1
    have e1 : setD f (t, b, n, k, node, other, name, value) = false := by unfold setD; rw [if_neg hx]
    have e2 : setE_ (t, b, n, k, node, other, name, value) = opE t b n k node other name.data.toList value.data.toList := by unfold setE_; rw [if_neg (show ¬ errO (t, b, n, k, node, other, name, value) = 0 from h0)]; rfl
    rw [e1, e2]
    refine (cset_wrong w bc t b n k node other name value hE hsn hsv h0).mono ?_
    rintro e w' ⟨rfl, hb⟩
    exact ⟨rfl, setOk_none hC hx hb⟩
end Go.Proofs.YtehighgebbdenaaGreatDoor
end
section
set_option linter.unusedVariables false
namespace Go.Proofs.YtehighgebbdenaaGreatDoor
open Go.RowKit
open scoped Classical
theorem movs_skip {A : List OpX} {o : OpX} (h : kdO o ≠ 109) : movsO (o :: A) = movsO A := by
  unfold movsO
  exact List.filterMap_cons_none (if_neg h)
theorem movs_cons {A : List OpX} {o : OpX} (h : kdO o = 109) : movsO (o :: A) = ((o.1, o.2.1), (nodeO o, otherO o, o.2.2.2.2.2.2.1)) :: movsO A := by
  unfold movsO
  exact List.filterMap_cons_some (if_pos h)
theorem TreeC.skip {w : World} {c : Nat → Nat} {bt : Nat} {A : List OpX} (h : TreeC w c bt A) {o : OpX} (ho : kdO o ≠ 109) : TreeC w c bt (o :: A) := by
  obtain ⟨bm, v, ms, h1, h2, h3⟩ := h
  exact ⟨bm, v, ms, h1, by rw [movs_skip ho]; exact h2, h3⟩
theorem movs_new {A : List OpX} {o : OpX} (h : StepOk A o) {ms : List Mov} (hp : ms.Perm (movsO A)) : ∀ m ∈ ms, m.1 ≠ (o.1, o.2.1) := fun m hm e => by
  obtain ⟨x, hx, q⟩ := List.mem_filterMap.1 (hp.mem_iff.1 hm)
  unfold movO at q
  split at q
  · cases q
    exact h.new x hx e
  · cases q
theorem CellC.skip {w : World} {c : Nat → Nat} {bc : Nat} {A : List OpX} (h : CellC w c bc A) {o : OpX} (ho : kdO o ≠ 115) : CellC w c bc (o :: A) := by
  obtain ⟨cm, A', h1, h2, h3⟩ := h
  refine ⟨cm, A' ++ [o], ?_, (List.perm_append_comm).trans (h2.cons o), h3⟩
  rw [madeO_snoc]
  unfold stepO
  rw [if_neg (fun q => ho q.2)]
  exact h1.mono (by simp)
theorem CellC.set {w w' : World} {c : Nat → Nat} {bc : Nat} {A A' : List OpX} {cm : Nat} {o : OpX} (h2 : A'.Perm A) (h3 : c bc = 4 ∧ c cm = 4) (h : SetOk w bc cm A.length (madeO A') o w') : CellC w' c bc (o :: A) :=
  ⟨cm, A' ++ [o], by rw [madeO_snoc]; exact h.1, (List.perm_append_comm).trans (h2.cons o), h3⟩
theorem TextC.skip {w : World} {c : Nat → Nat} {bx : Nat} {A : List OpX} (h : TextC w c bx A) {o : OpX} (ho : kdO o ≠ 105 ∧ kdO o ≠ 100) (hn : ¬ (kdO o = 109 ∧ nodeO o = idO o)) : TextC w c bx (o :: A) := by
  obtain ⟨n, tx, h1, h2, h3, h4, h5⟩ := h
  refine ⟨n, tx, by simp; omega, h2, h3, fun nd => (h4 nd).trans ?_, fun nd p hp => ?_⟩
  · rw [known_cons]
    exact ⟨.inl, fun q => q.elim id (fun q => absurd ⟨q.1, q.2.1.trans q.2.2.symm⟩ hn)⟩
  · obtain ⟨v, L, k1, k2, k3⟩ := h5 nd p hp
    exact ⟨v, L, k1, k2.skip (fun q => q.2.elim ho.1 ho.2), k3⟩
theorem known_pos {A : List OpX} (hA : ∀ x ∈ A, errO x = 0) {nd : Int} (h : KnownN A nd) : 4 ≤ nd := by
  obtain ⟨x, hx, _, _, e⟩ := h
  have := id_pos (hA x hx)
  omega
theorem hue_inj {a b : Int} (ha : 0 ≤ a) (hb : 0 ≤ b) (h : hueOf a = hueOf b) : a = b := by unfold hueOf at h; omega
theorem TextC.line {w w' : World} {c c' : Nat → Nat} {bx : Nat} {A : List OpX} (hA : ∀ x ∈ A, errO x = 0) (h : TextC w c bx A) {o : OpX} (ho : kdO o = 105 ∨ kdO o = 100) (hn : KnownN A (nodeO o)) (hk : Kept c 3 w c' w') (hl : ∀ nd, nd ≠ nodeO o → 0 ≤ nd → Kept c (hueOf nd) w c' w')
    (hline : ∀ p, LineC w c p (nodeO o) A → LineC w' c' p (nodeO o) (o :: A)) : TextC w' c' bx (o :: A) := by
  obtain ⟨n, tx, h1, h2, h3, h4, h5⟩ := h
  refine ⟨n, tx, by simp; omega, h2.same (hk.block _ h2.lt h3), (hk.hue _ h2.lt).trans h3, fun nd => (h4 nd).trans ?_, fun nd p hp => ?_⟩
  · rw [known_cons]
    exact ⟨.inl, fun q => q.elim id (fun q => by rw [q.1] at ho; rcases ho with k | k <;> exact absurd k (by decide))⟩
  · by_cases e : nd = nodeO o
    · subst e
      exact hline p (h5 _ p hp)
    · obtain ⟨v, L, k1, k2, k3⟩ := (h5 nd p hp).kept (hl nd e (by have := known_pos hA ((h4 nd).1 (by rw [hp]; rfl)); omega))
      exact ⟨v, L, k1, k2.skip (fun q => e q.1.symm), k3⟩
end Go.Proofs.YtehighgebbdenaaGreatDoor
end
section
namespace Go.Proofs.YtehighgebbdenaaGreatDoor
open Go.RowKit
structure But (pb : Nat) (w w' : World) : Prop where
  os : w'.os = w.os
  tape : w'.tape = w.tape
  output : w'.output = w.output
  size : w.heap.size ≤ w'.heap.size
  block : ∀ k, k < w.heap.size → k ≠ pb → w'.heap[k]? = w.heap[k]?
theorem But.of_below {pb : Nat} {w w' : World} (h : Below w.heap.size w w') : But pb w w' := ⟨h.os, h.tape, h.output, h.size, fun k hk _ => h.block k hk⟩
theorem But.below {pb : Nat} {w w' : World} (h : But pb w w') (hp : pb < w.heap.size) : Below pb w w' := ⟨h.os, h.tape, h.output, h.size, fun k hk => h.block k (by omega) (by omega)⟩
theorem But.later {pb : Nat} {w w1 w' : World} (h : But pb w w1) (hb : Below w1.heap.size w1 w') : But pb w w' :=
  ⟨hb.os.trans h.os, hb.tape.trans h.tape, hb.output.trans h.output, Nat.le_trans h.size hb.size, fun k hk hn => (hb.block k (Nat.lt_of_lt_of_le hk h.size)).trans (h.block k hk hn)⟩
theorem But.setCell {pb o : Nat} {w w1 : World} (h : But pb w w1) (v : Value) : But pb w (w1.setCell ⟨pb, o, none⟩ v) := by
  have hb : Below 0 w1 (w1.setCell ⟨pb, o, none⟩ v) := (Below.refl 0 w1).setCell (Nat.zero_le _) v
  exact ⟨hb.os.trans h.os, hb.tape.trans h.tape, hb.output.trans h.output, Nat.le_trans h.size hb.size, fun k hk hn => (Below.heap_setCell w1 ⟨pb, o, none⟩ v k hn).trans (h.block k hk hn)⟩
set_option maxHeartbeats 400000 in
theorem new_ok (b : Int) (w : World) (h3 : 0 ≤ b) (h4 : b < 4) :
    Calls Tryz.prog 45 #[.int .i64 b] w fun e w' => e = .returned (.tuple #[.pointer (some ⟨w.heap.size, 0, none⟩), .nilIface]) ∧ w' = w.alloc (.cells #[.int .i64 0, .int .i64 b] 61) := by
  go_enter Tryz.func45, Tryz.ntmps45
  go_wp2
  go_ret2
  exact ⟨rfl, rfl⟩
structure Clk (pb : Nat) (T b : Int) (w : World) : Prop where
  t : w.cell? ⟨pb, 0, none⟩ = some (.int .i64 T)
  b : w.cell? ⟨pb, 1, none⟩ = some (.int .i64 b)
  f : w.frozen? ⟨pb, 0, none⟩ = false
theorem Clk.lt {pb : Nat} {T b : Int} {w : World} (h : Clk pb T b w) : pb < w.heap.size := World.block_lt_of_cell? w ⟨pb, 0, none⟩ h.t
theorem Clk.later {pb : Nat} {T b : Int} {w w' : World} (h : Clk pb T b w) (hb : Below w.heap.size w w') : Clk pb T b w' :=
  ⟨cell_later hb h.t, cell_later hb h.b, (hb.frozen (p := ⟨pb, 0, none⟩) h.lt).trans h.f⟩
theorem Clk.set {pb : Nat} {T b : Int} {w : World} (h : Clk pb T b w) (T' : Int) : Clk pb T' b (w.setCell ⟨pb, 0, none⟩ (.int .i64 T')) :=
  ⟨World.cell?_setCell_same _ _ _ h.t, (World.cell?_setCell_other _ _ _ _ (by simp)).trans h.b, by rw [World.frozen?_setCell]; exact h.f⟩
set_option maxHeartbeats 400000 in
theorem tick_full (pb : Nat) (T c : Int) (w : World) (eb : Value) (hg : w.cell? ⟨1, 0, none⟩ = some eb) (hC : Clk pb T c w) (hT : 1073741824 ≤ T) :
    Calls Tryz.prog 216 #[.pointer (some ⟨pb, 0, none⟩)] w fun e w' => e = .returned (.tuple #[.agg #[.int .i64 0, .int .i64 0], eb]) ∧ Below w.heap.size w w' := by
  obtain ⟨k0, k1, kf⟩ := hC
  have hz : 1 < w.heap.size := World.block_lt_of_cell? w ⟨1, 0, none⟩ hg
  have hp : pb < w.heap.size := World.block_lt_of_cell? w ⟨pb, 0, none⟩ k0
  go_enter Tryz.func216, Tryz.ntmps216
  go_wp2
  go_region
  all_goals try go_wp2
  exact bodyPost_ret (v := .tuple #[.agg #[.int .i64 0, .int .i64 0], eb]) (by simp [results, Tryz.results216, go_sem]) rfl ⟨rfl, ((Below.refl _ _).alloc (Nat.le_refl _) _).drew⟩
set_option maxHeartbeats 400000 in
theorem tick_ok (pb : Nat) (T c : Int) (w : World) (hC : Clk pb T c w) (h0 : 0 ≤ T) (hT : T < 1073741824) :
    Calls Tryz.prog 216 #[.pointer (some ⟨pb, 0, none⟩)] w fun e w' => e = .returned (.tuple #[.agg #[.int .i64 (T + 1), .int .i64 c], .nilIface]) ∧ But pb w w' ∧ Clk pb (T + 1) c w' := by
  obtain ⟨k0, k1, kf⟩ := hC
  have hp : pb < w.heap.size := World.block_lt_of_cell? w ⟨pb, 0, none⟩ k0
  go_enter Tryz.func216, Tryz.ntmps216
  go_wp2
  exact bodyPost_ret (v := .tuple #[.agg #[.int .i64 (T + 1), .int .i64 c], .nilIface]) (by simp [results, Tryz.results216, go_sem]) rfl
    ⟨rfl, ((But.of_below (Below.refl _ _)).setCell _).later ((Below.refl _ _).alloc (Nat.le_refl _) _), (Clk.set (T := T) ⟨k0, k1, kf⟩ (T + 1)).later ((Below.refl _ _).alloc (Nat.le_refl _) _)⟩
end Go.Proofs.YtehighgebbdenaaGreatDoor
end
section
set_option linter.unusedVariables false
set_option linter.unusedSimpArgs false
namespace Go.Proofs.YtehighgebbdenaaGreatDoor
open Go.RowKit
def Heard (pb : Nat) (T t : Int) (w w' : World) : Prop := (T < t ∧ ∃ W, Below w.heap.size w W ∧ w'.heap = (W.setCell ⟨pb, 0, none⟩ (.int .i64 t)).heap ∧ Keeps (fun k => k = pb) W w') ∨ (¬ T < t ∧ Below w.heap.size w w')
set_option maxHeartbeats 400000 in
theorem hear_at (pb : Nat) (T c t b : Int) (w : World) (hC : Clk pb T c w) (h1 : 1 ≤ t) (h2 : t ≤ 1073741824) (h3 : 0 ≤ b) (h4 : b < 4) :
    Calls Tryz.prog 186 #[.pointer (some ⟨pb, 0, none⟩), .agg #[.int .i64 t, .int .i64 b]] w fun e w' => e = .returned .nilIface ∧ Heard pb T t w w' := by
  have C0 := hC.later ((Below.refl _ _).alloc (Nat.le_refl _) (.cells #[.int .i64 t, .int .i64 b] 36))
  have hlt := hC.lt
  clear hC
  by_cases hgt : T < t
  · have HT : Aside (T < t) := hgt
    go_enter Tryz.func186, Tryz.ntmps186
    go_wp2_with fail
    refine (check_ok t b _ h1 h2 h3 h4).mono ?_
    rintro e w1 ⟨rfl, hb⟩
    have s0 : w1.cell? ⟨w.heap.size, 0, none⟩ = some (.int .i64 t) := cell_later hb (by simp [go_sem])
    have B1 : Below w.heap.size w w1 := ((Below.refl _ _).alloc (Nat.le_refl _) _).trans (hb.mono (by simp))
    have C1 := C0.later hb
    obtain ⟨k0, k1, kf⟩ := C1
    clear C0 hb
    go_wp2
    go_quiet (fail)
    go_wp2
    go_ret
    exact ⟨rfl, .inl ⟨HT.out, _, below_drewN B1 _, rfl, setCells_keeps pb [_] 0 _⟩⟩
  · have HT : Aside (¬ T < t) := hgt
    go_enter Tryz.func186, Tryz.ntmps186
    go_wp2_with fail
    refine (check_ok t b _ h1 h2 h3 h4).mono ?_
    rintro e w1 ⟨rfl, hb⟩
    have s0 : w1.cell? ⟨w.heap.size, 0, none⟩ = some (.int .i64 t) := cell_later hb (by simp [go_sem])
    have B1 : Below w.heap.size w w1 := ((Below.refl _ _).alloc (Nat.le_refl _) _).trans (hb.mono (by simp))
    have C1 := C0.later hb
    obtain ⟨k0, k1, kf⟩ := C1
    clear C0 hb
    go_wp2
    go_quiet (fail)
    go_wp2
    go_ret
    exact ⟨rfl, .inr ⟨by have := HT.out; omega, below_drewN B1 _⟩⟩
set_option maxRecDepth 100000 in
set_option maxHeartbeats 1000000 in
theorem chear_any (pb : Nat) (T c t b : Int) (w : World) (hC : Clk pb T c w) (h1 : 1 ≤ t) (h2 : t ≤ 1073741824) (h3 : 0 ≤ b) (h4 : b < 4) :
    Calls Tryz.prog 122 #[.pointer (some ⟨pb, 0, none⟩), .agg #[.int .i64 t, .int .i64 b]] w fun e w' => (∃ u, e = .returned u) ∧ ∃ W, Below w.heap.size w W ∧ Heard pb T t W w' := by
  obtain ⟨S, hS⟩ : ∃ S, S = w.heap.size := ⟨_, rfl⟩
  obtain ⟨U, hU⟩ : ∃ U, U = w.alloc (.cells #[.int .i64 t, .int .i64 b] 36) := ⟨_, rfl⟩
  have hb : Below w.heap.size w U := by rw [hU]; exact (Below.refl _ w).alloc (Nat.le_refl _) _
  have hs : U.heap[S]? = some (.cells #[.int .i64 t, .int .i64 b] 36 (0, 0)) := by rw [hU, hS]; exact heap_alloc_new w _
  have s0 : U.cell? ⟨S, 0, none⟩ = some (.int .i64 t) := by simp [World.cell?, hs]
  have s1 : U.cell? ⟨S, 1, none⟩ = some (.int .i64 b) := by simp [World.cell?, hs]
  have hcall : ∀ W, Below U.heap.size U W → Calls Tryz.prog 186 #[.pointer (some ⟨pb, 0, none⟩), .agg #[.int .i64 t, .int .i64 b]] W fun e w' => e = .returned .nilIface ∧ Heard pb T t W w' := fun W hW => hear_at pb T c t b W ((hC.later hb).later hW) h1 h2 h3 h4
  have HB : Aside (Below w.heap.size w U) := hb
  clear hb hs hC
  go_enter Tryz.func122, Tryz.ntmps122
  go_wp2_with fail
  rw [← hU, ← hS]
  clear hU hS
  refine wp_region_Z (S := (fun w' => Below U.heap.size U w')) (z := 4) (by kernel_rfl) (Below.refl _ U).drew (fun hHeld => ?_)
  refine wpAnyZ_free (i := 0) (v := ?va0) (by decide) rfl (by kernel_rfl) (by kernel_rfl) (by kernel_rfl) (fun _ _ _ h => h) (Or.inl ⟨by rfl, ?hy0⟩) hHeld ?rest0
  case hy0 => (intro w' _; go_simp; try with_reducible rfl)
  try simp only [Act.put, List.setIfInBounds_toArray, List.set_cons_zero, List.set_cons_succ]
  refine wpAnyZ_free (i := 1) (v := ?va1) (by decide) rfl (by kernel_rfl) (by kernel_rfl) (by kernel_rfl) (fun _ _ _ h => h) (Or.inl ⟨by rfl, ?hy1⟩) hHeld ?rest1
  case hy1 => (intro w' _; go_simp; try with_reducible rfl)
  try simp only [Act.put, List.setIfInBounds_toArray, List.set_cons_zero, List.set_cons_succ]
  refine wpAnyZ_free (i := 2) (v := ?va2) (by decide) rfl (by kernel_rfl) (by kernel_rfl) (by kernel_rfl) (fun _ _ _ h => h) (Or.inl ⟨by rfl, ?hy2⟩) hHeld ?rest2
  case hy2 => (intro w' _; go_simp; try with_reducible rfl)
  try simp only [Act.put, List.setIfInBounds_toArray, List.set_cons_zero, List.set_cons_succ]
  refine wpAnyZ_take (i := 3) (v := ?va3) (by decide) (by kernel_rfl) rfl (by kernel_rfl) (by kernel_rfl) (by kernel_rfl) (by kernel_rfl) (fun _ _ _ h => h) (Or.inl ⟨by rfl, ?hy3⟩) hHeld ?rest3
  case hy3 => (intro w' hSw; have j0 := cell_later hSw s0; have j1 := cell_later hSw s1; go_simp; try with_reducible rfl)
  try simp only [Act.put, List.setIfInBounds_toArray, List.set_cons_zero, List.set_cons_succ]
  refine wpAnyZ_one (i := 4) (by kernel_rfl) rfl (fun K hK => ?_)
  go_simp
  refine (hcall U.drew (Below.refl _ U).drew).mono ?_
  clear hcall
  rintro e w' ⟨rfl, hh⟩
  have HH : Aside (Heard pb T t U.drew w') := hh
  clear hh
  refine hK _ _ (.inr ⟨rfl, by decide⟩) ?_
  clear hK K
  refine wpAnyZ_done (by kernel_rfl) ?_ _
  go_wp2
  go_end0
  exact ⟨⟨_, rfl⟩, U.drew, HB.out.drew, HH.out⟩
end Go.Proofs.YtehighgebbdenaaGreatDoor
end
section
namespace Go.Proofs.YtehighgebbdenaaGreatDoor
open Go Go.Maps
abbrev NKey := Int × Int
abbrev NSta := NKey → Option OpX
def noN : NSta := fun _ => none
def encN (k : NKey) : Value := .agg #[.int .i64 k.1, .int .i64 k.2]
theorem encN_inj {p q : NKey} (h : encN p = encN q) : p = q := by
  obtain ⟨a, s⟩ := p
  obtain ⟨a', s'⟩ := q
  simp [encN] at h
  obtain ⟨rfl, rfl⟩ := h
  rfl
def encO (x : OpX) : Value := .agg #[.int .i64 x.1, .int .i64 x.2.1, .int .i64 x.2.2.1, .int .u8 (x.2.2.2.1 : Int), .int .i64 x.2.2.2.2.1, .int .i64 x.2.2.2.2.2.1, .string x.2.2.2.2.2.2.1, .string x.2.2.2.2.2.2.2]
def zeroO : OpX := (0, 0, 0, 0, 0, 0, ⟨#[]⟩, ⟨#[]⟩)
def datO (x : OpX) : DataW Unit := .agg [.lit (.int .i64 x.1), .lit (.int .i64 x.2.1), .lit (.int .i64 x.2.2.1), .lit (.int .u8 (x.2.2.2.1 : Int)), .lit (.int .i64 x.2.2.2.2.1), .lit (.int .i64 x.2.2.2.2.2.1), .lit (.string x.2.2.2.2.2.2.1.data.toList), .lit (.string x.2.2.2.2.2.2.2.data.toList)]
theorem datO_inj {p q : OpX} (h : datO p = datO q) : p = q := by
  obtain ⟨t, b, n, k, nd, o, ⟨⟨s⟩⟩, ⟨⟨v⟩⟩⟩ := p
  obtain ⟨t', b', n', k', nd', o', ⟨⟨s'⟩⟩, ⟨⟨v'⟩⟩⟩ := q
  simp [datO] at h
  obtain ⟨rfl, rfl, rfl, h4, rfl, rfl, rfl, rfl⟩ := h
  obtain rfl : k = k' := by omega
  rfl
def opL (l : List Value) : Option (DataW Unit × List MemPlace) := match l with
  | [.int .i64 t, .int .i64 b, .int .i64 n, .int .u8 k, .int .i64 nd, .int .i64 o, .string s, .string v] => if 0 ≤ k then some (datO (t, b, n, k.toNat, nd, o, s, v), []) else none
  | _ => none
def opR (v : Value) : Option (DataW Unit × List MemPlace) := match v with
  | .agg cs => opL cs.toList
  | _ => none
theorem opR_mk (x : OpX) : opR (encO x) = some (datO x, []) := by
  simp [opR, encO, opL]
theorem opL_inv {l : List Value} {z : DataW Unit × List MemPlace} (h : opL l = some z) : ∃ x : OpX, l = encX x ∧ z = (datO x, []) := by
  unfold opL at h
  split at h
  · rename_i t b n k nd o s v
    split at h
    · rename_i hk
      cases h
      refine ⟨(t, b, n, k.toNat, nd, o, s, v), ?_, rfl⟩
      simp [encX, Int.toNat_of_nonneg hk]
    · cases h
  · cases h
theorem opR_inv {v : Value} {z : DataW Unit × List MemPlace} (h : opR v = some z) : ∃ x, v = encO x ∧ z = (datO x, []) := by
  unfold opR at h
  split at h
  · rename_i cs
    obtain ⟨x, e, rfl⟩ := opL_inv h
    refine ⟨x, ?_, rfl⟩
    unfold encO
    unfold encX at e
    rw [← e]
  · cases h
def WfN (k : NKey) : Prop := (Lit.int .i64 k.1).wf = true ∧ (Lit.int .i64 k.2).wf = true
def nlit (k : NKey) : Lit := .string (keyBytes [.int .i64 k.1, .int .i64 k.2])
section
variable {P : Program} {K I : TypeId} {f g : Field}
theorem nkey_mkP (hu : P.underlying K = some (.struct #[f, g])) (f1 : f.type = I) (f2 : f.offset = 0) (f3 : (f.name != "_") = true) (g1 : g.type = I) (g2 : g.offset = 1) (g3 : (g.name != "_") = true) (hI : P.underlying I = some (.int .i64)) (cK : P.cellsOf K = 2) (cI : P.cellsOf I = 1) (hT : P.keyType K = true) (e : Nat) (he : P.types.size = e + 1) {k : NKey} (h : WfN k) : keyOf P K (encN k) = some (nlit k) := by
  obtain ⟨h1, h2⟩ := h
  have hf : (encN k).formed P K = true := by simp [Value.formed, encN, hu, cK]
  unfold keyOf
  rw [hu]
  dsimp only
  rw [hT, hf]
  simp only [Bool.and_self, if_true]
  rw [keyLits_struct hu, he]
  simp [encN, Value.cells, cK, cI, f1, f2, f3, g1, g2, g3, keyLits_int hI, h1, h2, nlit]
end
theorem nkeyRow : 204 < Tryz.prog.types.size := of_decide_eq_true (by kernel_rfl)
theorem nkeyWide : (match Tryz.prog.underlying 204 with | some (.array _ _) | some (.struct _) => true | _ => false) = true := by kernel_rfl
set_option maxRecDepth 100000 in
theorem lawN : Keyed Tryz.prog 204 := Keyed.of_law (deep_law_laid keyOut (m := 2) (by omega) nkeyRow (by kernel_rfl) nkeyWide)
theorem nkeyIs : Tryz.prog.keyType 204 = true := by kernel_rfl
theorem nkeyCells : Tryz.prog.cellsOf 204 = 2 := by kernel_rfl
set_option maxRecDepth 100000 in
theorem nkey_mk {k : NKey} (h : WfN k) : keyOf Tryz.prog 204 (encN k) = some (nlit k) := by
  obtain ⟨e, he⟩ := keySize
  exact nkey_mkP Tryz.underlying204 rfl rfl (by decide) rfl rfl (by decide) Tryz.underlying3 nkeyCells keyCellsI nkeyIs e he h
theorem nlit_ne {a b : NKey} (ha : WfN a) (hb : WfN b) (h : a ≠ b) : nlit a ≠ nlit b := fun e => h (encN_inj (lawN.inj (nkey_mk ha) (by rw [e]; exact nkey_mk hb)))
theorem nlit_is {k : NKey} : WideAt.IsKeyLit (nlit k) := trivial
theorem wfN_of {k : NKey} (h0 : -2 ^ 63 ≤ k.1) (h1 : k.1 < 2 ^ 63) (h2 : -2 ^ 63 ≤ k.2) (h3 : k.2 < 2 ^ 63) : WfN k := ⟨wf_i64 h0 h1, wf_i64 h2 h3⟩
def ReadsN (D : DataW Unit) (f : NSta) : Prop := ∀ k, WfN k → match f k with
  | none => has D (nlit k) = false
  | some c => ∀ z, D.atKey (nlit k) z = datO c
theorem ReadsN.gone {D : DataW Unit} {f : NSta} (h : ReadsN D f) {k : NKey} (hk : WfN k) (hf : f k = none) : has D (nlit k) = false := by
  have := h k hk; rw [hf] at this; exact this
theorem ReadsN.held {D : DataW Unit} {f : NSta} (h : ReadsN D f) {k : NKey} (hk : WfN k) {c : OpX} (hf : f k = some c) (z : DataW Unit) : D.atKey (nlit k) z = datO c := by
  have := h k hk; rw [hf] at this; exact this z
theorem ReadsN.has {D : DataW Unit} {f : NSta} (h : ReadsN D f) {k : NKey} (hk : WfN k) : Maps.has D (nlit k) = (f k).isSome := by
  cases hf : f k with
  | none => rw [h.gone hk hf]; rfl
  | some p => rw [has_true_of_atKey (h.held hk hf)]; rfl
theorem ReadsN.at {D : DataW Unit} {f : NSta} (h : ReadsN D f) {k : NKey} (hk : WfN k) : D.atKey (nlit k) (datO zeroO) = datO ((f k).getD zeroO) := by
  cases hf : f k with
  | none => rw [atKey_of_not_has (h.gone hk hf)]; rfl
  | some p => rw [h.held hk hf]; rfl
theorem readsN_put {D : DataW Unit} {f : NSta} (h : ReadsN D f) (hD : IsMap D) {k : NKey} (hk : WfN k) (c : OpX) : ReadsN (D.put (nlit k) (datO c)) (fun x => if x = k then some c else f x) := by
  intro x hx
  dsimp only
  by_cases e : x = k
  · subst e
    rw [if_pos rfl]
    exact fun z => atKey_put_same hD nlit_is _ _
  · rw [if_neg e]
    cases hf : f x with
    | none => rw [has_put_other (nlit_ne hx hk e)]; exact h.gone hx hf
    | some q => intro z; rw [atKey_put_other (nlit_ne hx hk e)]; exact h.held hx hf z
def NMapAt (w : World) (b n : Nat) (f : NSta) : Prop := ∃ D, w.ownsMap Tryz.prog 204 opR b n D ∧ ReadsN D f
theorem NMapAt.lt {w : World} {b n : Nat} {f : NSta} (h : NMapAt w b n f) : b < w.heap.size := by
  obtain ⟨D, h, _⟩ := h; exact h.lt
theorem NMapAt.same {w w' : World} {b n : Nat} {f : NSta} (h : NMapAt w b n f) (e : w'.heap[b]? = w.heap[b]?) : NMapAt w' b n f := by
  obtain ⟨D, ⟨es, clock, hb, F⟩, r⟩ := h
  exact ⟨D, ⟨es, clock, e.trans hb, F⟩, r⟩
theorem nmapAt_made (w : World) : NMapAt (w.alloc (.map #[] 0)) w.heap.size 0 noN :=
  ⟨_, World.ownsMap_made w Tryz.prog 204 opR, fun _ _ => rfl⟩
theorem zeroOp (w : World) : (zeroValue 38).run Tryz.prog w = .ok (encO zeroO) w := Tryz.zeroValue38 w
theorem NMapAt.look {w : World} {b n : Nat} {f : NSta} (h : NMapAt w b n f) {k : NKey} (hk : WfN k) :
    (Instr.lookup 201 (.map (some b)) (encN k) true).run Tryz.prog w = .ok (.tuple #[encO ((f k).getD zeroO), .bool (f k).isSome]) w := by
  obtain ⟨D, h, r⟩ := h
  obtain ⟨v, ps, hrun, hv⟩ := h.look_ok lawN Tryz.underlying201 (zeroOp w) (opR_mk zeroO) (nkey_mk hk)
  obtain ⟨p, rfl, hp⟩ := opR_inv hv
  rw [r.at hk, Prod.mk.injEq] at hp
  rw [hrun, r.has hk, datO_inj hp.1]
theorem NMapAt.store {w : World} {b n : Nat} {f : NSta} (h : NMapAt w b n f) (hn : n < maxLen) {k : NKey} (hk : WfN k) (c : OpX) :
    ∃ w', (Instr.mapUpdate 201 (.map (some b)) (encN k) (encO c)).run Tryz.prog w = .ok () w' ∧ NMapAt w' b (n + 1) (fun x => if x = k then some c else f x) ∧ w.mapTurned w' b := by
  obtain ⟨D, h, r⟩ := h
  obtain ⟨w', hrun, h', ht⟩ := h.store lawN Tryz.underlying201 hn (nkey_mk hk) (opR_mk c)
  exact ⟨w', hrun, ⟨_, h', readsN_put r h.isMap hk c⟩, ht⟩
end Go.Proofs.YtehighgebbdenaaGreatDoor
end
