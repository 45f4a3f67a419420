import Derived.Test.YtehighgebbdenaaGreatDoorVp03
import Derived.Test.YtehighgebbdenaaGreatDoorVp04
import Derived.Test.YtehighgebbdenaaGreatDoorVp06
import Derived.Test.YtehighgebbdenaaGreatDoorVp20
import Derived.RegionTactic
import Derived.WalkSmall
import Derived.Laws.Pointers
import Derived.Carry
import Derived.BigQuiet
import Derived.OwnWalk
import Derived.Maps.OwnIn
section
set_option linter.unusedVariables false
namespace Go.Proofs.YtehighgebbdenaaGreatDoor
open Go.RowKit Go.Lib Go.Sort Go.Maps
def FaultIs (ad : Nat → Addr) (w : World) (v : Value) (i : Int) (c : Nat) : Prop := ∃ b, v = .iface 194 (.pointer (some ⟨b, 0, none⟩)) ∧ w.heap[b]? = some (.cells #[.int .i64 i, eV ad c] 198 (0, 0))
def SiftOut (ad : Nat → Addr) (w : World) (S l : List OpX) (e : Ending) (w' : World) : Prop := (match siftS S 0 [] l with
  | .inl (i, c) => ∃ v, e = .returned (.tuple #[.slice none 0 0, v]) ∧ FaultIs ad w' v (i : Int) c
  | .inr fresh => ∃ v, e = .returned (.tuple #[v, .nilIface]) ∧ w'.ownsRow w.heap.size 38 8 v fresh.length (cellsOf fresh)) ∧ Below w.heap.size w w'
def Sized (l : List OpX) : Prop := ∀ x ∈ l, x.2.2.2.2.2.2.1.size ≤ 1000000 ∧ x.2.2.2.2.2.2.2.size ≤ 1000000
structure SiftSt (w : World) (S : Nat) (ao : Nat → Option Addr) (cap : Nat → Nat) (R : Rws) (l : List OpX) (k : Nat) (fresh : List OpX) (v : Value) (wr : World) : Prop where
  below : Below w.heap.size w wr
  box : KBox wr S ao cap R
  map : NMapAt wr (S + 1) k (fun q => lookK fresh q.1 q.2)
  row : wr.ownsRow (S + 2) 38 8 v fresh.length (cellsOf fresh)
  fk : FreshK (allR R) fresh
  is : siftS (allR R) 0 [] l = siftS (allR R) k fresh (l.drop k)
  len : fresh.length ≤ k
theorem NMapAt.mono {w : World} {b n n' : Nat} {f : NSta} (h : NMapAt w b n f) (hn : n ≤ n') : NMapAt w b n' f := by
  obtain ⟨D, h, r⟩ := h; exact ⟨D, h.mono hn, r⟩
theorem SiftSt.later {w : World} {S : Nat} {ao : Nat → Option Addr} {cap : Nat → Nat} {R : Rws} {l : List OpX} {k : Nat} {fresh : List OpX} {v : Value} {wr w' : World} (h : SiftSt w S ao cap R l k fresh v wr) (hb : Below wr.heap.size wr w') : SiftSt w S ao cap R l k fresh v w' :=
  ⟨h.below.trans (hb.mono h.below.size), h.box.later hb, h.map.same (hb.block _ h.map.lt), ownsHeld h.row (fun g hg => hb.block g (h.row.lt g hg).2), h.fk, h.is, h.len⟩
theorem look_snoc (fresh : List OpX) (o : OpX) : (fun q : NKey => lookK (fresh ++ [o]) q.1 q.2) = (fun q : NKey => if q = (byO o, numO o) then (lookK fresh q.1 q.2).or (some o) else lookK fresh q.1 q.2) := by
  funext q
  rw [lookK_app]
  unfold lookK
  by_cases h : q = (byO o, numO o)
  · rw [if_pos h, h]
    simp
  · rw [if_neg h]
    have : ¬ (byO o = q.1 ∧ numO o = q.2) := fun e => h (by rw [e.1, e.2])
    simp [this]
theorem lit_cellsO (w : World) (x : OpX) (T : TypeId) (j : Nat) (u : Value) (hj : (encX x)[j]? = some u) : (w.alloc (.cells #[.int .i64 x.1, .int .i64 x.2.1, .int .i64 x.2.2.1, .int .u8 (x.2.2.2.1 : Int), .int .i64 x.2.2.2.2.1, .int .i64 x.2.2.2.2.2.1, .string x.2.2.2.2.2.2.1, .string x.2.2.2.2.2.2.2] T)).cell? ((⟨w.heap.size, 0, none⟩ : Addr).add j) = some u := by
  rw [Addr.add_lit, Nat.zero_add]
  have h := heap_alloc_new w (.cells #[.int .i64 x.1, .int .i64 x.2.1, .int .i64 x.2.2.1, .int .u8 (x.2.2.2.1 : Int), .int .i64 x.2.2.2.2.1, .int .i64 x.2.2.2.2.2.1, .string x.2.2.2.2.2.2.1, .string x.2.2.2.2.2.2.2] T)
  simp only [World.cell?, h]
  rw [← hj]
  simp [encX]
theorem fault_new (w2 : World) (o : Obj) (a b : Value) : ((w2.alloc o).alloc (.cells #[a, b] 198)).drew.heap[w2.heap.size + 1]? = some (.cells #[a, b] 198 (0, 0)) := by
  have := heap_alloc_new (w2.alloc o) (.cells #[a, b] 198)
  rw [World.size_alloc] at this
  exact this
set_option maxRecDepth 100000 in
set_option maxHeartbeats 4000000 in
theorem sift_any {ad : Nat → Addr} (w : World) (ao : Nat → Option Addr) (cap : Nat → Nat) (R : Rws) (la : Option Addr) (lc : Nat) (l : List OpX) (hE : Op4 ad w) (hX : w.cell? ⟨7, 0, none⟩ = some (.iface 399 (.pointer (some (ad 6))))) (hK : KnownAt w ao R) (hN : NumK R) (hl : ∀ i, i < 4 → (R i).length ≤ 1000) (hin : OpsIn w la l) (hs : Sized l) (hn : l.length ≤ 1000) :
    Calls Tryz.prog 49 #[kV ao cap R, .slice la l.length lc] w (SiftOut ad w (allR R) l) := by
  obtain ⟨S, hS⟩ : ∃ S, S = w.heap.size := ⟨_, rfl⟩
  obtain ⟨U, hU⟩ : ∃ U, U = (w.alloc (.cells #[.slice (ao 0) (R 0).length (cap 0), .slice (ao 1) (R 1).length (cap 1), .slice (ao 2) (R 2).length (cap 2), .slice (ao 3) (R 3).length (cap 3)] 65)).alloc (.map #[] 0) := ⟨_, rfl⟩
  have hb : Below w.heap.size w U := by rw [hU]; exact ((Below.refl _ w).alloc (Nat.le_refl _) _).alloc (by simp) _
  have hk : KBox U S ao cap R := by rw [hU, hS]; exact (Below.heap_alloc _ _ _ (by simp)).trans (KBox.new w ao cap R)
  have hm : NMapAt U (S + 1) 0 (fun q => lookK [] q.1 q.2) := by
    rw [hU, hS]
    have := nmapAt_made (w.alloc (.cells #[.slice (ao 0) (R 0).length (cap 0), .slice (ao 1) (R 1).length (cap 1), .slice (ao 2) (R 2).length (cap 2), .slice (ao 3) (R 3).length (cap 3)] 65))
    rw [World.size_alloc] at this
    exact this
  have H0 : Aside (SiftSt w S ao cap R l 0 [] (.slice none 0 0) U) := ⟨hb, hk, hm, World.ownsRow_nil _ _ _ _, freshK_nil _, rfl, Nat.le_refl _⟩
  have HE : Aside (Op4 ad w ∧ KnownAt w ao R ∧ OpsIn w la l ∧ S = w.heap.size) := ⟨hE, hK, hin, hS⟩
  have HX : Aside (w.cell? ⟨7, 0, none⟩ = some (.iface 399 (.pointer (some (ad 6))))) := hX
  clear hb hk hm hE hK hin hX
  unfold kV
  have hmm := @run_makeMap Tryz.prog
  go_enter Tryz.func49, Tryz.ntmps49
  go_wp2
  rw [← hU, ← hS]
  clear hU hS hmm
  go_loopg [6, 17] l.length (fun kx s6 s17 wr => ∃ (k : Nat) (fresh : List OpX) (ov : Value), s17 = .int .i64 (k : Int) ∧ ov = s6 ∧ k ≤ l.length ∧ l.length - k ≤ kx ∧ Aside (SiftSt w S ao cap R l k fresh ov wr))
  case atStart => exact ⟨0, [], _, rfl, rfl, Nat.zero_le _, Nat.le_refl _, H0.out⟩
  case round =>
    obtain ⟨k, fresh, ov, rfl, rfl, hkl, hkx, A⟩ := hrel
    clear H0
    by_cases hlt : k < l.length
    · have d1 : decide ((k : Int) < (l.length : Int)) = true := by simp; omega
      have wk : ((k : Int)).toNat = k := by omega
      have pk : (0 : Int) ≤ (k : Int) := by omega
      have bk : (k : Int) < (l.length : Int) := by omega
      obtain ⟨⟨t, b, n, kd, nd, o, s, v⟩, hx⟩ : ∃ x, Aside (l[k]? = some x) := ⟨l[k], List.getElem?_eq_getElem hlt⟩
      have hdrop : Aside (l.drop k = (t, b, n, kd, nd, o, s, v) :: l.drop (k + 1)) := by
        show l.drop k = _
        rw [List.drop_eq_getElem_cons hlt, (List.getElem?_eq_some_iff.1 hx.out).2]
      have hsz := hs _ (List.mem_of_getElem? hx.out)
      obtain ⟨blk, off, hao, hc⟩ := (HE.out.2.2.1.later A.out.below).get hx.out
      subst hao
      have r0 := hc 0 _ rfl
      have r1 := hc 1 _ rfl
      have r2 := hc 2 _ rfl
      have r3 := hc 3 _ rfl
      have r4 := hc 4 _ rfl
      have r5 := hc 5 _ rfl
      have r6 := hc 6 _ rfl
      have r7 := hc 7 _ rfl
      simp only [Nat.add_zero] at r0
      clear hc
      obtain ⟨U, hU⟩ : ∃ U, U = wr.alloc (.cells #[.int .i64 t, .int .i64 b, .int .i64 n, .int .u8 (kd : Int), .int .i64 nd, .int .i64 o, .string s, .string v] 38) := ⟨_, rfl⟩
      have hbU : Below wr.heap.size wr U := by rw [hU]; exact (Below.refl _ wr).alloc (Nat.le_refl _) _
      have O1 : OpBlk U wr.heap.size (t, b, n, kd, nd, o, s, v) := by rw [hU]; exact OpBlk.new wr (t, b, n, kd, nd, o, s, v)
      have hck := opcheck_any t b n kd nd o s v U (HE.out.1.later (A.out.below.trans (hbU.mono A.out.below.size))) hsz.1 hsz.2
      have H1 : Aside (SiftSt w S ao cap R l k fresh ov U ∧ OpBlk U wr.heap.size (t, b, n, kd, nd, o, s, v)) := ⟨A.out.later hbU, O1⟩
      have e0 : errO (t, b, n, kd, nd, o, s, v) = opE t b n kd nd o s.data.toList v.data.toList := rfl
      rw [← e0] at hck
      clear e0 hbU O1
      by_cases herr : errO (t, b, n, kd, nd, o, s, v) = 0
      · rw [herr] at hck
        have hev : eV ad 0 = .nilIface := rfl
        rw [hev] at hck
        clear hev
        obtain ⟨i, hi, hbi, -⟩ := by_nat herr
        have hbi : b = (i : Int) := hbi
        subst hbi
        obtain ⟨m, hm, hm4⟩ : ∃ m : Nat, n = (m : Int) + 1 ∧ m < 400 := by
          have q := opE_zero herr
          have q5 : 1 ≤ n := q.2.2.2.2.1
          have q6 : n ≤ 400 := q.2.2.2.2.2.1
          exact ⟨(n - 1).toNat, by omega, by omega⟩
        subst hm
        have HERR : Aside (errO (t, (i : Int), (m : Int) + 1, kd, nd, o, s, v) = 0) := herr
        clear herr
        go_wp2_with fail
        rw [← hU]
        clear hU r0 r1 r2 r3 r4 r5 r6 r7
        refine hck.mono ?_
        clear hck
        rintro e w1 ⟨rfl, hb1⟩
        obtain ⟨P, hP⟩ : ∃ P, P = wr.heap.size := ⟨_, rfl⟩
        obtain ⟨Q, hQ⟩ : ∃ Q, Q = w1.heap.size := ⟨_, rfl⟩
        obtain ⟨V, hV⟩ : ∃ V, V = w1.alloc (.cells #[.int .i64 (i : Int), .int .i64 ((m : Int) + 1)] 204) := ⟨_, rfl⟩
        have hbV : Below w1.heap.size w1 V := by rw [hV]; exact (Below.refl _ w1).alloc (Nat.le_refl _) _
        have N1 : V.heap[Q]? = some (.cells #[.int .i64 (i : Int), .int .i64 ((m : Int) + 1)] 204 (0, 0)) := by rw [hV, hQ]; exact heap_alloc_new w1 _
        have H2 : Aside (SiftSt w S ao cap R l k fresh ov V ∧ OpBlk V P (t, (i : Int), (m : Int) + 1, kd, nd, o, s, v) ∧ V.heap[Q]? = some (.cells #[.int .i64 (i : Int), .int .i64 ((m : Int) + 1)] 204 (0, 0)) ∧ P < Q ∧ S + 1 < P ∧ V.heap.size = Q + 1) := by
          have hp1 := (H1.out.2.later hb1)
          refine ⟨(H1.out.1.later hb1).later hbV, by rw [hP]; exact hp1.later hbV, N1, by rw [hP, hQ]; exact hp1.lt, by rw [hP]; exact A.out.map.lt, by rw [hV, hQ]; simp⟩
        rw [← hP]
        obtain ⟨y0, y1, y2, y3, y4, y5, y6, y7, f8⟩ := (H1.out.2.later hb1).cells
        rw [← hP] at y0 y1 y2 y3 y4 y5 y6 y7 f8
        dsimp only at y0 y1 y2 y3 y4 y5 y6 y7
        have HV : Aside (V = w1.alloc (.cells #[.int .i64 (i : Int), .int .i64 ((m : Int) + 1)] 204) ∧ Q = w1.heap.size ∧ P = wr.heap.size) := ⟨hV, hQ, hP⟩
        clear hb1 hbV H1 N1 hV hQ hP
        obtain ⟨q0, q1⟩ : V.cell? ⟨Q, 0, none⟩ = some (.int .i64 (i : Int)) ∧ V.cell? ⟨Q, 1, none⟩ = some (.int .i64 ((m : Int) + 1)) := by
          have := H2.out.2.2.1
          constructor <;> simp [World.cell?, this]
        have k0 := H2.out.1.box.at (i := 0) (by omega)
        have k1 := H2.out.1.box.at (i := 1) (by omega)
        have k2 := H2.out.1.box.at (i := 2) (by omega)
        have k3 := H2.out.1.box.at (i := 3) (by omega)
        go_upto_region 10 with fail
        rw [← HV.out.1, ← HV.out.2.1]
        clear y0 y1 y2 y3 y4 y5 y6 y7 f8
        go_wp2_with fail
        clear q0 q1 k0 k1 k2 k3
        have hlook : Aside (lookK (allR R ++ fresh) (byO (t, (i : Int), (m : Int) + 1, kd, nd, o, s, v)) (numO (t, (i : Int), (m : Int) + 1, kd, nd, o, s, v)) = ((R i)[m]?).or (lookK fresh (i : Int) ((m : Int) + 1))) := by
          show lookK (allR R ++ fresh) (i : Int) ((m : Int) + 1) = _
          rw [lookK_app, hN.look hi]
        cases hy : (R i)[m]? with
        | some y =>
          obtain ⟨t', b', n', kd', nd', o', s', v'⟩ := y
          have hcall := number_some V ao cap R i m _ (HE.out.2.1.later H2.out.1.below) hi (by omega) hy
          unfold kV encO at hcall
          dsimp only at hcall
          refine hcall.mono ?_
          clear hcall
          rintro e w2 ⟨rfl, hb2⟩
          have H3 : Aside (SiftSt w S ao cap R l k fresh ov w2 ∧ OpBlk w2 P (t, (i : Int), (m : Int) + 1, kd, nd, o, s, v)) := ⟨H2.out.1.later hb2, H2.out.2.1.later hb2⟩
          have hpl := H3.out.2.lt
          obtain ⟨y0, y1, y2, y3, y4, y5, y6, y7, f8⟩ := H3.out.2.cells
          dsimp only at y0 y1 y2 y3 y4 y5 y6 y7
          have heq := fun w => eqOp t' b' n' kd' nd' o' s' v' t (i : Int) ((m : Int) + 1) kd nd o s v w
          have HY : Aside ((R i)[m]? = some (t', b', n', kd', nd', o', s', v')) := hy
          clear hb2 H2 HV hy
          cases hq : eqB t' b' n' kd' nd' o' s' v' t (i : Int) ((m : Int) + 1) kd nd o s v with
          | true =>
            have HQ : Aside ((t', b', n', kd', nd', o', s', v') = (t, (i : Int), (m : Int) + 1, kd, nd, o, s, v)) := by
              have := of_decide_eq_true hq
              obtain ⟨rfl, rfl, rfl, rfl, rfl, rfl, rfl, rfl⟩ := this
              rfl
            rw [hq] at heq
            clear hq
            go_wp2
            go_roundg (l.length - (k + 1))
            case measure => omega
            case rel =>
              have hS3 := H3.out.1.later ((Below.refl w2.heap.size w2).alloc (Nat.le_refl _) (.cells #[.int .i64 t', .int .i64 b', .int .i64 n', .int .u8 (kd' : Int), .int .i64 nd', .int .i64 o', .string s', .string v'] 38))
              refine ⟨k + 1, fresh, ov, by go_num, rfl, by omega, Nat.le_refl _, ⟨hS3.below, hS3.box, hS3.map.mono (by omega), hS3.row, hS3.fk, ?_, by have := hS3.len; omega⟩⟩
              rw [hS3.is, hdrop.out]
              exact sift_same HERR.out (by rw [hlook.out, HY.out, HQ.out]; rfl)
          | false =>
            have HQ : Aside ((t', b', n', kd', nd', o', s', v') ≠ (t, (i : Int), (m : Int) + 1, kd, nd, o, s, v)) := fun e => by
              cases e
              rw [eqB_self] at hq
              cases hq
            rw [hq] at heq
            clear hq
            have x6 := HX.out
            have x6 : w2.cell? ⟨7, 0, none⟩ = some (.iface 399 (.pointer (some (ad 6)))) := (H3.out.1.below.cell (p := ⟨7, 0, none⟩) (World.block_lt_of_cell? w ⟨7, 0, none⟩ HX.out)).trans HX.out
            have hgl : 7 < w2.heap.size := World.block_lt_of_cell? w2 ⟨7, 0, none⟩ x6
            go_wp2
            go_region
            all_goals
              go_wp2
              go_ret2
              unfold SiftOut
              rw [A.out.is, hdrop.out, sift_other HERR.out (by rw [hlook.out, HY.out]; rfl) HQ.out]
              exact ⟨⟨_, rfl, _, rfl, fault_new _ _ _ _⟩, ((H3.out.1.below.alloc H3.out.1.below.size _).alloc (by simp; have := H3.out.1.below.size; omega) _).drew⟩
        | none =>
          have hcall := number_none V ao cap R i m hi (List.getElem?_eq_none_iff.1 hy)
          unfold kV encO zeroO at hcall
          refine hcall.mono ?_
          clear hcall
          rintro e w2 ⟨rfl, hb2⟩
          have H3 : Aside (SiftSt w S ao cap R l k fresh ov w2 ∧ OpBlk w2 P (t, (i : Int), (m : Int) + 1, kd, nd, o, s, v) ∧ w2.heap[Q]? = some (.cells #[.int .i64 (i : Int), .int .i64 ((m : Int) + 1)] 204 (0, 0)) ∧ P < Q ∧ S + 1 < P) := ⟨H2.out.1.later hb2, H2.out.2.1.later hb2, (hb2.block Q (by have := H2.out.2.2.2.2.2; omega)).trans H2.out.2.2.1, H2.out.2.2.2.1, H2.out.2.2.2.2.1⟩
          have hpl := H3.out.2.1.lt
          have hql : Q < w2.heap.size := (Array.getElem?_eq_some_iff.1 H3.out.2.2.1).1
          obtain ⟨y0, y1, y2, y3, y4, y5, y6, y7, f8⟩ := H3.out.2.1.cells
          dsimp only at y0 y1 y2 y3 y4 y5 y6 y7
          obtain ⟨q0, q1⟩ : w2.cell? ⟨Q, 0, none⟩ = some (.int .i64 (i : Int)) ∧ w2.cell? ⟨Q, 1, none⟩ = some (.int .i64 ((m : Int) + 1)) := by
            have := H3.out.2.2.1
            constructor <;> simp [World.cell?, this]
          have HN : Aside ((R i)[m]? = none) := hy
          clear hb2 H2 HV hy
          have hwf : WfN ((i : Int), (m : Int) + 1) := wfN_of (by omega) (by omega) (by omega) (by omega)
          have hlk := (H3.out.1.map.same (Below.heap_alloc w2 (.cells #[.int .i64 0, .int .i64 0, .int .i64 0, .int .u8 0, .int .i64 0, .int .i64 0, .string ⟨#[]⟩, .string ⟨#[]⟩] 38) (S + 1) H3.out.1.map.lt)).look hwf
          unfold encN at hlk
          dsimp only at hlk
          cases hy : lookK fresh (i : Int) ((m : Int) + 1) with
          | some y =>
            obtain ⟨t', b', n', kd', nd', o', s', v'⟩ := y
            rw [hy] at hlk
            unfold encO at hlk
            dsimp only [Option.getD_some, Option.isSome_some] at hlk
            have heq := fun w => eqOp t' b' n' kd' nd' o' s' v' t (i : Int) ((m : Int) + 1) kd nd o s v w
            have HY : Aside (lookK fresh (i : Int) ((m : Int) + 1) = some (t', b', n', kd', nd', o', s', v')) := hy
            clear hy
            cases hq : eqB t' b' n' kd' nd' o' s' v' t (i : Int) ((m : Int) + 1) kd nd o s v with
            | true =>
              have HQ : Aside ((t', b', n', kd', nd', o', s', v') = (t, (i : Int), (m : Int) + 1, kd, nd, o, s, v)) := by
                have := of_decide_eq_true hq
                obtain ⟨rfl, rfl, rfl, rfl, rfl, rfl, rfl, rfl⟩ := this
                rfl
              rw [hq] at heq
              clear hq
              go_wp2
              go_roundg (l.length - (k + 1))
              case measure => omega
              case rel =>
                have hS3 := H3.out.1.later ((Below.refl w2.heap.size w2).alloc (Nat.le_refl _) (.cells #[.int .i64 t', .int .i64 b', .int .i64 n', .int .u8 (kd' : Int), .int .i64 nd', .int .i64 o', .string s', .string v'] 38))
                refine ⟨k + 1, fresh, ov, by go_num, rfl, by omega, Nat.le_refl _, ⟨hS3.below, hS3.box, hS3.map.mono (by omega), hS3.row, hS3.fk, ?_, by have := hS3.len; omega⟩⟩
                rw [hS3.is, hdrop.out]
                exact sift_same HERR.out (by rw [hlook.out, HN.out, HY.out, HQ.out]; rfl)
            | false =>
              have HQ : Aside ((t', b', n', kd', nd', o', s', v') ≠ (t, (i : Int), (m : Int) + 1, kd, nd, o, s, v)) := fun e => by
                cases e
                rw [eqB_self] at hq
                cases hq
              rw [hq] at heq
              clear hq
              have x6 := HX.out
              have x6 : w2.cell? ⟨7, 0, none⟩ = some (.iface 399 (.pointer (some (ad 6)))) := (H3.out.1.below.cell (p := ⟨7, 0, none⟩) (World.block_lt_of_cell? w ⟨7, 0, none⟩ HX.out)).trans HX.out
              have hgl : 7 < w2.heap.size := World.block_lt_of_cell? w2 ⟨7, 0, none⟩ x6
              go_wp2
              go_region
              all_goals
                go_wp2
                go_ret2
                unfold SiftOut
                rw [A.out.is, hdrop.out, sift_other HERR.out (by rw [hlook.out, HN.out, HY.out]; rfl) HQ.out]
                exact ⟨⟨_, rfl, _, rfl, fault_new _ _ _ _⟩, ((H3.out.1.below.alloc H3.out.1.below.size _).alloc (by simp; have := H3.out.1.below.size; omega) _).drew⟩
          | none =>
            rw [hy] at hlk
            unfold encO zeroO at hlk
            dsimp only [Option.getD_none, Option.isSome_none] at hlk
            have HY : Aside (lookK fresh (i : Int) ((m : Int) + 1) = none) := hy
            clear hy
            have hlen := A.out.len
            have hmapZ := (H3.out.1.map.same (Below.heap_alloc w2 (.cells #[.int .i64 0, .int .i64 0, .int .i64 0, .int .u8 0, .int .i64 0, .int .i64 0, .string ⟨#[]⟩, .string ⟨#[]⟩] 38) (S + 1) H3.out.1.map.lt))
            obtain ⟨w3, hrun, hM3, hT3⟩ := hmapZ.store (by simp only [maxLen]; omega) hwf (t, (i : Int), (m : Int) + 1, kd, nd, o, s, v)
            have K3 := keeps_of_grown hT3.grown
            have HZ := H3.out.1.later ((Below.refl w2.heap.size w2).alloc (Nat.le_refl _) (.cells #[.int .i64 0, .int .i64 0, .int .i64 0, .int .u8 0, .int .i64 0, .int .i64 0, .string ⟨#[]⟩, .string ⟨#[]⟩] 38))
            have hO3 : OpBlk w3 P (t, (i : Int), (m : Int) + 1, kd, nd, o, s, v) := (K3.block P (by simp; omega) (fun e => by have := H3.out.2.2.2.2; simp at e; omega)).trans (H3.out.2.1.later ((Below.refl w2.heap.size w2).alloc (Nat.le_refl _) _))
            have hB3 : Below w.heap.size w w3 := HZ.below.trans (K3.below HZ.below.size (fun k e => by have := HE.out.2.2.2; simp at e; omega))
            have hR3 : w3.ownsRow (S + 2) 38 8 ov fresh.length (cellsOf fresh) := ownsHeld HZ.row (fun g hg => K3.block g (HZ.row.lt g hg).2 (fun e => by have := (HZ.row.lt g hg).1; simp at e; omega))
            have hX3 : KBox w3 S ao cap R := (K3.block S HZ.box.lt (fun e => by simp at e)).trans HZ.box
            have hM3' : NMapAt w3 (S + 1) (k + 1) (fun q => lookK (fresh ++ [(t, (i : Int), (m : Int) + 1, kd, nd, o, s, v)]) q.1 q.2) := by
              rw [look_snoc]
              have e : (fun q : NKey => if q = (byO (t, (i : Int), (m : Int) + 1, kd, nd, o, s, v), numO (t, (i : Int), (m : Int) + 1, kd, nd, o, s, v)) then (lookK fresh q.1 q.2).or (some (t, (i : Int), (m : Int) + 1, kd, nd, o, s, v)) else lookK fresh q.1 q.2) = (fun q : NKey => if q = ((i : Int), (m : Int) + 1) then some (t, (i : Int), (m : Int) + 1, kd, nd, o, s, v) else lookK fresh q.1 q.2) := by
                funext q
                show (if q = ((i : Int), (m : Int) + 1) then _ else _) = _
                split
                · rename_i e; rw [e]; show (lookK fresh (i : Int) ((m : Int) + 1)).or _ = _; rw [HY.out]; rfl
                · rfl
              rw [e]
              exact hM3
            have hp3 := hO3.lt
            obtain ⟨z0, z1, z2, z3, z4, z5, z6, z7, g8⟩ := hO3.cells
            dsimp only at z0 z1 z2 z3 z4 z5 z6 z7
            have H4 : Aside (Below w.heap.size w w3 ∧ KBox w3 S ao cap R ∧ NMapAt w3 (S + 1) (k + 1) (fun q => lookK (fresh ++ [(t, (i : Int), (m : Int) + 1, kd, nd, o, s, v)]) q.1 q.2) ∧ w3.ownsRow (S + 2) 38 8 ov fresh.length (cellsOf fresh) ∧ S + 1 < w3.heap.size) := ⟨hB3, hX3, hM3', hR3, hM3'.lt⟩
            unfold encN encO at hrun
            dsimp only at hrun
            obtain ⟨i0, hi0, hz0, hz1, hz2⟩ := info_parts infoOp
            clear hM3 hT3 K3 HZ hO3 hB3 hR3 hX3 hM3' hmapZ
            go_wp2_with (at_builtin; refine wpList_append_own _ rfl _ _ 32 rfl (S + 2) 38 i0 _ 8 80 Tryz.underlying32 hi0 hz0 hz1 hz2 rfl (by omega) _ _ _ rfl (H4.out.2.2.2.1.alloc _) ⟨w3.heap.size, 0, none⟩ 1 1 (encX (t, (i : Int), (m : Int) + 1, kd, nd, o, s, v)) rfl ?qc1 ?qc2 ?qc3 ?qc4 ?qc5 ?qc6 ?_)
            case qc1 => rfl
            case qc2 => exact lit_cellsO w3 (t, (i : Int), (m : Int) + 1, kd, nd, o, s, v) _
            case qc3 => exact encX_one _
            case qc4 => simp only [maxLen]; omega
            case qc5 => omega
            case qc6 => simp; have := H4.out.2.2.2.2; omega
            intro v' w4 hown hgrow hnil
            have K4 := keeps_of_grown hgrow
            have hN : Aside (SiftSt w S ao cap R l (k + 1) (fresh ++ [(t, (i : Int), (m : Int) + 1, kd, nd, o, s, v)]) v' w4) := by
              have hbA : Below w3.heap.size w3 (w3.alloc (.cells #[.int .i64 t, .int .i64 (i : Int), .int .i64 ((m : Int) + 1), .int .u8 (kd : Int), .int .i64 nd, .int .i64 o, .string s, .string v] 38)) := (Below.refl _ w3).alloc (Nat.le_refl _) _
              have hrow := H4.out.2.2.2.1
              have hsz := H4.out.2.2.2.2
              have hne : ∀ g, some g = ov.ownBlock → S + 2 ≤ g := fun g hg => (hrow.lt g hg.symm).1
              refine ⟨?_, ?_, ?_, ?_, A.out.fk.snoc HERR.out ?_, ?_, by simp; omega⟩
              · exact (H4.out.1.trans (hbA.mono H4.out.1.size)).trans (K4.below (Nat.le_trans H4.out.1.size hbA.size) (fun g hg => by have := hne g hg; have := HE.out.2.2.2; omega))
              · exact (K4.block S (by simp; omega) (fun e => by have := hne S e; omega)).trans ((hbA.block S (by omega)).trans H4.out.2.1)
              · exact H4.out.2.2.1.same ((K4.block (S + 1) (by simp; omega) (fun e => by have := hne _ e; omega)).trans (hbA.block _ hsz))
              · rw [cellsOf_app, List.length_append]
                have : cellsOf [(t, (i : Int), (m : Int) + 1, kd, nd, o, s, v)] = encX (t, (i : Int), (m : Int) + 1, kd, nd, o, s, v) := by simp [cellsOf]
                rw [this]
                exact hown
              · rw [hlook.out, HN.out, HY.out]; rfl
              · rw [A.out.is, hdrop.out, sift_new HERR.out (by rw [hlook.out, HN.out, HY.out]; rfl)]
            clear K4 hown hgrow hnil H4 H3 hlk hrun z0 z1 z2 z3 z4 z5 z6 z7 g8 y0 y1 y2 y3 y4 y5 y6 y7 f8 q0 q1
            go_wp2
            go_roundg (l.length - (k + 1))
            case measure => omega
            case rel => exact ⟨k + 1, _, _, by go_num, rfl, by omega, Nat.le_refl _, hN.out⟩
      · obtain ⟨c, hc⟩ : ∃ c, c = errO (t, b, n, kd, nd, o, s, v) := ⟨_, rfl⟩
        rw [← hc] at hck
        have hev : eV ad c = .iface 399 (.pointer (some (ad (c - 1)))) := by unfold eV; rw [if_neg (by omega)]
        rw [hev] at hck
        have HC : Aside (errO (t, b, n, kd, nd, o, s, v) ≠ 0 ∧ c = errO (t, b, n, kd, nd, o, s, v) ∧ eV ad c = .iface 399 (.pointer (some (ad (c - 1))))) := ⟨herr, hc, hev⟩
        clear hev hc herr
        go_wp2_with fail
        rw [← hU]
        clear hU r0 r1 r2 r3 r4 r5 r6 r7
        refine hck.mono ?_
        clear hck
        rintro e w1 ⟨rfl, hb1⟩
        have B1 : Aside (Below w.heap.size w w1) := (H1.out.1.later hb1).below
        clear hb1
        go_wp2
        go_ret2
        unfold SiftOut
        rw [A.out.is, hdrop.out, sift_bad HC.out.1]
        exact ⟨⟨_, rfl, w1.heap.size, rfl, by rw [← HC.out.2.1, HC.out.2.2]; exact heap_alloc_new w1 _⟩, B1.out.alloc B1.out.size _⟩
    · have d1 : decide ((k : Int) < (l.length : Int)) = false := by simp; omega
      go_wp2
      go_ret2
      unfold SiftOut
      have := A.out.is
      rw [List.drop_of_length_le (by omega), siftS] at this
      rw [this]
      refine ⟨⟨_, rfl, ownsLow A.out.row (by have := HE.out.2.2.2; omega)⟩, A.out.below⟩
end Go.Proofs.YtehighgebbdenaaGreatDoor
end
section
namespace Go.Proofs.YtehighgebbdenaaGreatDoor
open Go.RowKit Go.Shelf Go.Maps
attribute [local go_sem] Oper.semAt_some
def OpsRow (W : World) (g off : Nat) (L : List OpX) : Prop := ∀ j u, (cellsOf L)[j]? = some u → W.cell? ⟨g, off + j, none⟩ = some u
theorem OpsRow.same {W W' : World} {g off : Nat} {L : List OpX} (h : OpsRow W g off L) (e : W'.heap[g]? = W.heap[g]?) : OpsRow W' g off L := fun j u hj => by
  rw [← h j u hj]
  exact World.cell?_of_block (a := ⟨g, off + j, none⟩) e
theorem OpsRow.at {W : World} {g off : Nat} {L : List OpX} (h : OpsRow W g off L) {i : Nat} {x : OpX} (hx : L[i]? = some x) (c : Nat) {u : Value} (hu : (encX x)[c]? = some u) : W.cell? ⟨g, off + i * 8 + c, none⟩ = some u := by
  have hin : OpsIn W (some ⟨g, off, none⟩) L := .inr ⟨g, off, rfl, h⟩
  obtain ⟨b, o, e, hc⟩ := hin.get hx
  cases e
  exact hc c u hu
theorem lt_same {W W' : World} {g : Nat} (h : g < W.heap.size) (e : W'.heap[g]? = W.heap[g]?) : g < W'.heap.size := by
  rw [Array.getElem?_eq_getElem h] at e
  exact (Array.getElem?_eq_some_iff.1 e).1
set_option maxRecDepth 100000 in
set_option maxHeartbeats 2000000 in
theorem valOps1_in (F : Fence) (n : Nat) (h7 : F.fn 183) (hro : F.round = none) (hn : 1 ≤ n) (l Bs g off cap : Nat) (ao : Option Addr) (L : List OpX) (hlen : L.length ≤ 1000) (hao : L = [] ∨ ao = some ⟨g, off, none⟩) (J Jx : List OpX → World → Prop)
    (hY : ∀ pre x W, J pre W → pre.length < L.length → YieldAt F (n - 1) Tryz.prog l #[encO x] W fun e W' =>
      (e = .returned (.bool true) ∧ J (pre ++ [x]) W' ∧ KeepTwo g Bs W W') ∨ (e = .returned (.bool false) ∧ Jx (pre ++ [x]) W'))
    (W : World) (hJ : AbidesFrom W.heap.size J) (hBl : Bs < W.heap.size) (hgl : g < W.heap.size) (hBs : W.cell? ⟨Bs, 0, none⟩ = some (.slice ao L.length cap)) (hc : OpsRow W g off L) (h0 : J [] W) :
    CallsIn F n Tryz.prog 183 #[.func (.yield l) #[] #[], .pointer (some ⟨Bs, 0, none⟩)] W fun e W' => (∃ v, e = .returned v) ∧
      ((∃ ys, ys = L ∧ J ys W') ∨ (∃ pre, True ∧ Jx pre W')) := by
  refine callsIn_of_wp Tryz.func183 rfl h7 ?_ hro
  simp only [Tryz.ntmps183, List.size_toArray, List.length_cons, List.length_nil, Nat.reduceAdd, Nat.reduceSub, Array.replicate_succ, Array.replicate_zero, List.push_toArray, List.append_toArray, List.nil_append, List.cons_append]
  gi_wp2
  gi_loopw [4, 7] (fun _ i wr => ∃ k : Nat, k ≤ L.length ∧ i = .int .i64 (k : Int) ∧ J (L.take k) wr ∧ KeepTwo g Bs W wr)
    (fun _ i _ => (L.length - (intOf i).toNat))
  case atStart => exact ⟨0, Nat.zero_le _, by simp, by simpa using h0, KeepTwo.refl _ _ _⟩
  case round =>
    obtain ⟨k, hk, rfl, hJs, hnx⟩ := hrel
    have hBs' : wr.cell? ⟨Bs, 0, none⟩ = some (.slice ao L.length cap) := (World.cell?_of_block (a := ⟨Bs, 0, none⟩) hnx.2).trans hBs
    by_cases hlt : k < L.length
    · have hao' : ao = some ⟨g, off, none⟩ := hao.resolve_left (fun e => by rw [e] at hlt; simp at hlt)
      subst hao'
      obtain ⟨⟨t, b, m, kd, nd, o, s, v⟩, hix⟩ : ∃ x, L[k]? = some x := ⟨L[k], List.getElem?_eq_getElem hlt⟩
      have hJ3 : J (L.take k) (wr.alloc (.cells #[.int .i64 t, .int .i64 b, .int .i64 m, .int .u8 (kd : Int), .int .i64 nd, .int .i64 o, .string s, .string v] 38)) := hJ _ wr _ none hJs (World.grownBy_alloc wr _ none) (fun r e => by cases e)
      obtain ⟨fn, tmps, assign, body, hy, hR⟩ := hY _ (t, b, m, kd, nd, o, s, v) _ hJ3 (by rw [List.length_take]; omega)
      have hrow := hc.same hnx.1
      unfold encO at hy
      dsimp only at hy
      have c0 : wr.cell? ⟨g, off + k * 8, none⟩ = some (.int .i64 t) := hrow.at hix 0 (u := .int .i64 t) rfl
      have c1 := hrow.at hix 1 (u := .int .i64 b) rfl
      have c2 := hrow.at hix 2 (u := .int .i64 m) rfl
      have c3 := hrow.at hix 3 (u := .int .u8 (kd : Int)) rfl
      have c4 := hrow.at hix 4 (u := .int .i64 nd) rfl
      have c5 := hrow.at hix 5 (u := .int .i64 o) rfl
      have c6 := hrow.at hix 6 (u := .string s) rfl
      have c7 := hrow.at hix 7 (u := .string v) rfl
      have hi0 : (0 : Int) ≤ (k : Int) := by omega
      have hib : (k : Int) < (L.length : Int) := by omega
      have wk : ((k : Int)).toNat = k := by omega
      have d1 : decide ((k : Int) < (L.length : Int)) = true := by simp; omega
      have htake : L.take (k + 1) = L.take k ++ [(t, b, m, kd, nd, o, s, v)] := by
        rw [List.take_add_one, hix]; rfl
      have HK : Aside (k < L.length ∧ KeepTwo g Bs W (wr.alloc (.cells #[.int .i64 t, .int .i64 b, .int .i64 m, .int .u8 (kd : Int), .int .i64 nd, .int .i64 o, .string s, .string v] 38)) ∧ L.take (k + 1) = L.take k ++ [(t, b, m, kd, nd, o, s, v)]) := ⟨hlt, hnx.trans ⟨Below.heap_alloc _ _ _ (lt_same hgl hnx.1), Below.heap_alloc _ _ _ (lt_same hBl hnx.2)⟩, htake⟩
      have hR' : Aside (RoundIn F (n - 1) Tryz.prog l fn tmps assign body (wr.alloc (.cells #[.int .i64 t, .int .i64 b, .int .i64 m, .int .u8 (kd : Int), .int .i64 nd, .int .i64 o, .string s, .string v] 38)) fun e W' => (e = .returned (.bool true) ∧ J (L.take k ++ [(t, b, m, kd, nd, o, s, v)]) W' ∧ KeepTwo g Bs (wr.alloc (.cells #[.int .i64 t, .int .i64 b, .int .i64 m, .int .u8 (kd : Int), .int .i64 nd, .int .i64 o, .string s, .string v] 38)) W') ∨ (e = .returned (.bool false) ∧ Jx (L.take k ++ [(t, b, m, kd, nd, o, s, v)]) W')) := hR
      clear hlt hk hix hR hrow hnx hJs hY h0 htake hJ3
      gi_wp2
      refine hR'.out.mono ?_
      rintro e W3 (⟨rfl, hJ3, hk3⟩ | ⟨rfl, hJx3⟩)
      · gi_wp2
        go_roundw
        case rel => exact ⟨k + 1, by have := HK.out.1; omega, by go_num, by rw [HK.out.2.2]; exact hJ3, HK.out.2.1.trans hk3⟩
        case measure => have := HK.out.1; simp [intOf]; omega
      · gi_wp2
        refine bodyPost_ret (results_none rfl _ _ _) rfl ?_
        exact ⟨⟨_, rfl⟩, .inr ⟨_, trivial, hJx3⟩⟩
    · obtain rfl : k = L.length := by omega
      have d1 : decide ((L.length : Int) < (L.length : Int)) = false := by simp
      gi_wp2
      go_end0
      exact ⟨⟨_, rfl⟩, .inl ⟨_, rfl, by rw [List.take_length] at hJs; exact hJs⟩⟩
theorem valOps_stops (F : Fence) (n : Nat) (h7 : F.fn 183) (hro : F.round = none) (hn : 1 ≤ n) (Bs g off cap : Nat) (ao : Option Addr) (L : List OpX) (hlen : L.length ≤ 1000) (hao : L = [] ∨ ao = some ⟨g, off, none⟩) (w : World) (hBs : Bs < w.heap.size) (hg : g < w.heap.size)
    (hc : w.cell? ⟨Bs, 0, none⟩ = some (.slice ao L.length cap)) (hI : OpsRow w g off L) :
    SeqStopsK F n Tryz.prog 183 #[.pointer (some ⟨Bs, 0, none⟩)] (fun x : OpX => #[encO x]) (KeepTwo g Bs) (fun ys => ys = L) (fun _ => True) L.length w := fun l J Jx W hW hJ _ hY h0 => by
  have hc' := (hW.cell (p := ⟨Bs, 0, none⟩) hBs).trans hc
  exact valOps1_in F n h7 hro hn l Bs g off cap ao L hlen hao J Jx hY W hJ (Nat.lt_of_lt_of_le hBs hW.size) (Nat.lt_of_lt_of_le hg hW.size) hc' (hI.same (hW.block g hg)) h0
theorem valOps_any (a : Option Addr) (len cap : Nat) (w : World) : Calls Tryz.prog 113 #[.slice a len cap] w fun e w' => e = .returned (.func (.func 183) #[] #[.pointer (some ⟨w.heap.size, 0, none⟩)]) ∧ w' = w.alloc (.cells #[.slice a len cap] 32) := by
  go_enter Tryz.func113, Tryz.ntmps113
  go_wp2
  go_ret
  exact ⟨rfl, rfl⟩
set_option maxRecDepth 100000 in
set_option maxHeartbeats 2000000 in
theorem appendOps_any (w : World) (Bs g off cap : Nat) (ao : Option Addr) (L : List OpX) (hlen : L.length ≤ 1000) (hao : L = [] ∨ ao = some ⟨g, off, none⟩) (hBs : Bs < w.heap.size) (hg : g < w.heap.size) (hc : w.cell? ⟨Bs, 0, none⟩ = some (.slice ao L.length cap)) (hI : OpsRow w g off L) :
    Calls Tryz.prog 223 #[.slice none 0 0, .func (.func 183) #[] #[.pointer (some ⟨Bs, 0, none⟩)]] w fun e w' => ∃ v, e = .returned v ∧ w'.ownsRow w.heap.size 38 8 v L.length (cellsOf L) ∧ Below w.heap.size w w' := by
  obtain ⟨i0, hi, hz0, hz1, hz2⟩ := info_parts infoOp
  refine (callsIn_wide (n := 4)).1 ?_
  refine callsIn_of_wp_marks Tryz.func223 rfl trivial ?_ rfl
  simp only [Tryz.ntmps223, List.size_toArray, List.length_cons, List.length_nil, Nat.reduceAdd, Nat.reduceSub, Array.replicate_succ, Array.replicate_zero, List.push_toArray, List.append_toArray, List.nil_append, List.cons_append]
  gi_wp2
  obtain ⟨w1, hw1⟩ : ∃ w1, w1 = w.alloc (.cells #[.slice none 0 0] 32) := ⟨_, rfl⟩
  rw [← hw1]
  have hB0 : Below w.heap.size w w1 := by rw [hw1]; exact (Below.refl w.heap.size w).alloc (Nat.le_refl _) _
  have hs1 : w1.heap.size = w.heap.size + 1 := by rw [hw1]; simp
  obtain ⟨B, hB⟩ : ∃ B, B = w.heap.size := ⟨_, rfl⟩
  have e1 : Boxed w1 B 32 (.slice none 0 0) := by rw [hw1, hB]; exact heap_alloc_new w _
  rw [← hB] at hB0 hs1 hBs hg ⊢
  have HB : Aside (B = w.heap.size) := hB
  have hBw : B ≤ w.heap.size := by omega
  clear hB
  have hc1 := (hB0.cell (p := ⟨Bs, 0, none⟩) hBs).trans hc
  have hI1 := hI.same (hB0.block g hg)
  clear hw1 hc hI
  refine wpIn_rangeFunc_ownH rfl (by omega) (gf := 183) (lb := #[.pointer (some ⟨Bs, 0, none⟩)]) rfl trivial (enters_of Tryz.func183 (by kernel_rfl) rfl)
    (valOps_stops Fence.wide (4 - 1) trivial rfl (by omega) Bs g off cap ao L hlen hao w1 (by omega) (by omega) hc1 hI1) KeepTwo.trans (fun W l o o' hl _ _ _ => KeepTwo.put (N := w1.heap.size) (by omega) (by omega) W l o' hl) (Below.refl _ _) (fun _ => rfl)
    (fun pre W => ((∃ v, Boxed W B 32 v ∧ W.ownsRow B 38 8 v pre.length (cellsOf pre) ∧ pre.length ≤ L.length)) ∧ (w1.heap.size ≤ W.heap.size ∧ Below B w W))
    (fun _ _ _ => False)
    (OwnFrom.and (Own.from (holdsRow_own B B 32 38 8 (fun pre => pre.length) (fun pre => cellsOf pre) (fun pre _ => pre.length ≤ L.length)) _) (OwnFrom.and (fun _ X Y row hs hg _ => Nat.le_trans hs hg.size) (ownFrom_below (by omega) (by omega))))
    (fun _ _ _ _ _ hs _ _ => hs)
    ⟨⟨_, e1, World.ownsRow_nil w1 B _ _, Nat.zero_le _⟩, Nat.le_refl _, hB0⟩
    (fun x a' W => ∃ Bx, w1.heap.size ≤ Bx ∧ OpBlk W Bx x ∧ a' = { tmps := #[.slice none 0 0, .func (.func 183) #[] #[.pointer (some ⟨Bs, 0, none⟩)], .pointer (some ⟨B, 0, none⟩), undef, .slice none 0 0, .pointer (some ⟨Bx, 0, none⟩), .func (.func 183) #[] #[.pointer (some ⟨Bs, 0, none⟩)], encO x, undef, undef, undef, undef, undef], defers := [] })
    (fun x a' => Own.from (fun _ X Y row hs hg hr => by obtain ⟨Bx, f1, f2, f3⟩ := hs; exact ⟨Bx, f1, kept_cells f2 hg hr, f3⟩) _)
    ?assign ?body ?done ?stop
  case assign =>
    rintro l pre x W K ⟨⟨v, hv, hrow, hpl⟩, hsz, hBW⟩ hK
    have hK' : Aside _ := hK
    have hBs' : B ≤ W.heap.size := by omega
    clear hK
    unfold encO
    gi_wp2
    refine hK'.out _ _ ((KeepsOthers.alloc _ _).from _) ⟨Below.heap_alloc _ _ _ (by omega), Below.heap_alloc _ _ _ (by omega)⟩ ⟨⟨v, hv.alloc _, hrow.alloc _, hpl⟩, by simp; omega, hBW.alloc hBs' _⟩ ⟨W.heap.size, by omega, heap_alloc_new W _, rfl⟩
  case body =>
    rintro l pre x a' W hl _ ⟨⟨v, hv, hrow, hpl⟩, hsz, hBW⟩ ⟨Bx, hBx, hE, rfl⟩ hlt
    have g1 := hv.cell
    obtain ⟨f0, f1, f2, f3, f4, f5, f6, f7, -⟩ := hE.cells
    have hBs' : B ≤ W.heap.size := by omega
    obtain ⟨t, b, m, kd, nd, o, s, v0⟩ := x
    dsimp only at f0 f1 f2 f3 f4 f5 f6 f7
    unfold encO
    gi_wp2_with (gi_at_builtin; refine wpListIn_append_own _ rfl _ _ 32 rfl B 38 i0 _ 8 80 Tryz.underlying32 hi hz0 hz1 hz2 rfl (by omega) _ _ _ rfl (hrow.alloc _) ⟨W.heap.size, 0, none⟩ 1 1 (encX (t, b, m, kd, nd, o, s, v0)) rfl rfl (lit_cellsO W (t, b, m, kd, nd, o, s, v0) _) (encX_one _) (by simp only [maxLen]; omega) (by omega) (by simp; omega) ?_; intro v' w2 hown' hgrow _; obtain ⟨g', cap', rfl⟩ := ownsRow_succ hown'; obtain ⟨hv1, hv2, hr2, hk2, hb2⟩ := hv.appended (by decide) hrow hBs' (Nat.le_refl _) hown' hgrow; have hc1 := hv1.cell; have hf1 := hv1.frozen)
    refine ⟨hk2.from _, ⟨hb2.block g hg, hb2.block Bs hBs⟩, ⟨⟨_, hv2, ?_, by simp; omega⟩, by have := hk2.size; omega, hBW.trans hb2⟩⟩
    rw [List.length_append, List.length_singleton, cellsOf_app]
    have : cellsOf [(t, b, m, kd, nd, o, s, v0)] = encX (t, b, m, kd, nd, o, s, v0) := by simp [cellsOf]
    rw [this]
    exact hr2
  case done =>
    rintro D ys W hD hall ⟨⟨v, hv, hrow, hpl⟩, hsz, hBW⟩ hK
    have g1 := hv.cell
    gi_wp2
    refine ⟨by simp, .inl ⟨_, _, rfl, run_takeDeferred hK, ?_⟩⟩
    subst hall
    refine ⟨v, by simp [results, Tryz.f223, go_sem], v, rfl, ?_, ?_⟩
    · rw [← HB.out]
      exact ownsRow_putObj hrow _ hK rfl
    · rw [← HB.out]
      exact hBW.trans (belowK_b (w := w) (by omega) W D _ _ (by have := HB.out; omega) hK rfl rfl)
  case stop =>
    rintro D c pre W _ _ h _
    exact h.elim
set_option maxHeartbeats 1000000 in
theorem collectOps_any (w : World) (Bs g off cap : Nat) (ao : Option Addr) (L : List OpX) (hlen : L.length ≤ 1000) (hao : L = [] ∨ ao = some ⟨g, off, none⟩) (hBs : Bs < w.heap.size) (hg : g < w.heap.size) (hc : w.cell? ⟨Bs, 0, none⟩ = some (.slice ao L.length cap)) (hI : OpsRow w g off L) :
    Calls Tryz.prog 181 #[.func (.func 183) #[] #[.pointer (some ⟨Bs, 0, none⟩)]] w fun e w' => ∃ v, e = .returned v ∧ w'.ownsRow w.heap.size 38 8 v L.length (cellsOf L) ∧ Below w.heap.size w w' := by
  have hcl := appendOps_any w Bs g off cap ao L hlen hao hBs hg hc hI
  go_enter Tryz.func181, Tryz.ntmps181
  go_wp2_with fail
  refine hcl.mono ?_
  clear hcl
  rintro e w' ⟨v, rfl, H⟩
  have HH : Aside (w'.ownsRow w.heap.size 38 8 v L.length (cellsOf L) ∧ Below w.heap.size w w') := H
  clear H
  go_wp2
  go_ret
  exact ⟨v, rfl, HH.out⟩
end Go.Proofs.YtehighgebbdenaaGreatDoor
end
