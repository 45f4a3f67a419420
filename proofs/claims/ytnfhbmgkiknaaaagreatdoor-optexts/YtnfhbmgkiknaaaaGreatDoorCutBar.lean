/- Contract of the reference's Cut by bars, at a text of at most 300 bytes. -/
import Derived.Test.YtnfhbmgkiknaaaaGreatDoorOpPure
import Derived.Test.YtnfhbmgkiknaaaaGreatDoorNumWalks
import Derived.Maps.AppendAt
import Derived.Laws.AppendOwn
import Derived.Deep.AppendLies
namespace Go.Proofs.YtnfhbmgkiknaaaaGreatDoor
open Go.RowKit

theorem infoStr : (Tryz.prog.info? 9).map (fun i => (i.zero, i.size, i.bytes)) = some (some (.string ⟨#[]⟩), 1, 16) := by kernel_rfl

/-- The piece under way, and what is left. -/
def curL (s : ByteArray) (fr k : Nat) : List UInt8 := (s.data.toList.drop fr).take (k - fr)

theorem cur_next (s : ByteArray) (fr k : Nat) (h : fr ≤ k) (hk : k < s.size) : curL s fr (k + 1) = curL s fr k ++ [s[k]] := by
  unfold curL
  have hb := byteAt s k hk
  have e : k + 1 - fr = (k - fr) + 1 := by omega
  rw [e, List.take_add_one, List.getElem?_drop, show fr + (k - fr) = k by omega]
  congr 1
  have : s.data.toList[k]? = some s[k] := by
    have := congrArg List.head? hb
    simpa [List.head?_drop] using this
  rw [this]; rfl
theorem cur_self (s : ByteArray) (k : Nat) : curL s k k = [] := by simp [curL]
theorem cur_extract (s : ByteArray) (fr k : Nat) (_h : fr ≤ k) : (s.extract fr k).data.toList = curL s fr k := by
  rw [Lib.extract_data]
  rfl

/-- What the loop holds on to. -/
structure CutPS (s : ByteArray) (w0 : World) (o : Value) (k fr : Nat) (P : List ByteArray) (w : World) : Prop where
  own : w.ownsRow w0.heap.size 9 1 o P.length (P.map Value.string)
  below : Below w0.heap.size w0 w
  len : P.length ≤ k
  cut : P.map (·.data.toList) ++ hd (curL s fr k) (cutP 124 (s.data.toList.drop k)) = cutP 124 s.data.toList

theorem CutPS.dot {s : ByteArray} {w0 w : World} {o : Value} {k fr : Nat} {P : List ByteArray} (h : CutPS s w0 o k fr P w) (hf : fr ≤ k) (hk : k < s.size) (hd46 : s[k] = 124) :
    (P ++ [s.extract fr k]).map (·.data.toList) ++ hd (curL s (k + 1) (k + 1)) (cutP 124 (s.data.toList.drop (k + 1))) = cutP 124 s.data.toList := by
  have := h.cut
  rw [byteAt s k hk, hd46, cutP_dot] at this
  rw [← this, cur_self, hd_nil _ (cutP_ne _ _)]
  rw [List.map_append, List.map_cons, List.map_nil, cur_extract s fr k hf]
  simp [hd]
theorem CutPS.on {s : ByteArray} {w0 w : World} {o : Value} {k fr : Nat} {P : List ByteArray} (h : CutPS s w0 o k fr P w) (hf : fr ≤ k) (hk : k < s.size) (hd46 : s[k] ≠ 124) :
    CutPS s w0 o (k + 1) fr P w := by
  refine ⟨h.own, h.below, by have := h.len; omega, ?_⟩
  have := h.cut
  rw [byteAt s k hk, cutP_other _ _ _ hd46, hd_hd _ _ _ (cutP_ne _ _)] at this
  rw [cur_next s fr k hf hk]
  exact this
theorem CutPS.last {s : ByteArray} {w0 w : World} {o : Value} {k fr : Nat} {P : List ByteArray} (h : CutPS s w0 o k fr P w) (hf : fr ≤ k) (hk : k = s.size) :
    (P ++ [s.extract fr s.size]).map (·.data.toList) = cutP 124 s.data.toList := by
  have := h.cut
  subst hk
  rw [dropEnd] at this
  rw [← this]
  rw [List.map_append, List.map_cons, List.map_nil, cur_extract s fr s.size hf]
  simp [cutP, hd]

theorem own_next {w0 wr w5 : World} {o v' : Value} {P : List ByteArray} {b : ByteArray} {ob : Obj} (hown0 : wr.ownsRow w0.heap.size 9 1 o P.length (P.map Value.string)) (hb0 : Below w0.heap.size w0 wr)
    (hown : w5.ownsRow w0.heap.size 9 1 v' (P.length + 1) (P.map Value.string ++ [.string b])) (hg : (wr.alloc ob).grownBy w5 o.ownBlock) :
    w5.ownsRow w0.heap.size 9 1 v' (P ++ [b]).length ((P ++ [b]).map Value.string) ∧ Below w0.heap.size w0 w5 := by
  refine ⟨by simpa using hown, ?_⟩
  exact (hb0.alloc hb0.size _).grown hg (by have := hb0.size; simp; omega) (fun k hk => (hown0.lt k hk).1)

theorem byte124 (s : ByteArray) (k : Nat) (hk : k < s.size) : ((s[k].toNat : Int) == 124) = decide (s[k] = 124) := by
  by_cases h : s[k] = 124
  · simp [h]
  · have : ¬ s[k].toNat = 124 := fun e => h (UInt8.toNat_inj.1 e)
    rw [decide_eq_false h]; simp; omega

set_option maxRecDepth 100000 in
set_option maxHeartbeats 1000000 in
theorem cutBar_any (s : ByteArray) (w : World) (hs : s.size ≤ 300) :
    Calls Tryz.prog 30 #[.string s, .int .u8 124] w fun e w' => ∃ (v : Value) (P : List ByteArray), e = .returned v ∧ w'.ownsRow w.heap.size 9 1 v P.length (P.map Value.string) ∧ P.map (·.data.toList) = cutP 124 s.data.toList ∧ Below w.heap.size w w' := by
  obtain ⟨i0, hi, hz0, hz1, hz2⟩ := info_parts infoStr
  go_enter Tryz.func30, Tryz.ntmps30
  go_wp2
  go_loopw [5, 6, 7] (fun o f i wr => ∃ k fr P, k ≤ s.size ∧ fr ≤ k ∧ i = .int .i64 (k : Nat) ∧ f = .int .i64 (fr : Nat) ∧ CutPS s w o k fr P wr) (fun _ _ i _ => s.size - (intOf i).toNat)
  case atStart => exact ⟨0, 0, [], Nat.zero_le _, Nat.le_refl _, rfl, rfl, ⟨World.ownsRow_nil _ _ _ _, Below.refl _ _, Nat.le_refl _, by rw [cur_self, hd_nil _ (cutP_ne _ _)]; simp⟩⟩
  case round =>
    obtain ⟨k, fr, P, hk, hf, rfl, rfl, hC⟩ := hrel
    by_cases hlt : k < s.size
    · have hdl : decide ((k : Int) < (s.size : Int)) = true := by simp; omega
      have h46 := byte124 s k hlt
      by_cases hd46 : s[k] = 124
      · rw [decide_eq_true hd46] at h46
        have HC := Lib.hid (hC.dot hf hlt hd46)
        clear hd46
        go_wp2_with (at_builtin; refine wpList_append_own _ rfl _ _ 45 rfl w.heap.size 9 i0 (.string ⟨#[]⟩) 1 16 Tryz.underlying45 hi hz0 hz1 hz2 rfl (by decide) _ _ _ rfl (hC.own.alloc _) _ 1 1 [.string (s.extract fr k)] rfl rfl (cell_one_new _ _ _) (by intro u hu; simp at hu; subst hu; rfl) (by unfold maxLen; have := hC.len; omega) (by have := hC.len; omega) (by have := hC.below.size; simp; omega) ?_; intro v' w5 hown hgrow _; have hN := own_next hC.own hC.below hown hgrow; clear hown hgrow)
        refine ⟨⟨k + 1, k + 1, P ++ [s.extract fr k], by omega, Nat.le_refl _, by go_num, by go_num, ⟨hN.1, hN.2, by have := hC.len; simp; omega, HC.out⟩⟩, ?_⟩
        simp [intOf]
        omega
      · rw [decide_eq_false hd46] at h46
        have hC' := hC.on hf hlt hd46
        clear hd46 hC
        go_wp2
        refine ⟨⟨k + 1, fr, P, by omega, by omega, by go_num, rfl, hC'⟩, ?_⟩
        simp [intOf]
        omega
    · have hdl : decide ((k : Int) < (s.size : Int)) = false := by simp; omega
      have HC := Lib.hid (hC.last hf (by omega))
      go_wp2_with (at_builtin; refine wpList_append_own _ rfl _ _ 45 rfl w.heap.size 9 i0 (.string ⟨#[]⟩) 1 16 Tryz.underlying45 hi hz0 hz1 hz2 rfl (by decide) _ _ _ rfl (hC.own.alloc _) _ 1 1 [.string (s.extract fr s.size)] rfl rfl (cell_one_new _ _ _) (by intro u hu; simp at hu; subst hu; rfl) (by unfold maxLen; have := hC.len; omega) (by have := hC.len; omega) (by have := hC.below.size; simp; omega) ?_; intro v' w5 hown hgrow _; have hN := own_next hC.own hC.below hown hgrow; clear hown hgrow)
      go_ret
      exact ⟨v', P ++ [s.extract fr s.size], rfl, hN.1, HC.out, hN.2⟩
end Go.Proofs.YtnfhbmgkiknaaaaGreatDoor
