/- Contracts of FormatUint in base 16, and of package journal's sumText and record. -/
import Derived.Test.YtcggmagdndhkbaaDoorJrnHex
import Derived.Test.YtcggmagdndhkbaaDoorShelfJ
set_option linter.unusedVariables false
set_option linter.unusedSimpArgs false
namespace Go.Proofs.YtcggmagdndhkbaaDoor
open Go.RowKit Go.Lib Go.Sort

/-- The table that is read. -/
def DeB (w : World) : Prop := w.cell? ⟨10, 15, none⟩ = some (.int .u8 4)
theorem DeB.later {w w' : World} (h : DeB w) (hb : Below w.heap.size w w') : DeB w' := by
  unfold DeB at *
  rw [World.cell?_of_block (a := ⟨10, 15, none⟩) (hb.block _ (World.block_lt_of_cell? w ⟨10, 15, none⟩ h))]
  exact h

set_option maxRecDepth 100000 in
set_option maxHeartbeats 1000000 in
theorem ifmt_any (v : Nat) (w : World) (hv : v < 4294967296) (hz : DeB w) :
    Calls Tryd.prog 57 #[.int .u64 (v : Int), .int .i64 16] w fun e w' => ∃ k, (1 ≤ k ∧ k ≤ 8 ∧ v < 16 ^ k) ∧ e = .returned (.string ⟨(digs k v).toArray⟩) ∧ Below w.heap.size w w' := by
  have h := fmt16 v w hv hz
  clear hz
  go_enter Tryd.func57, Tryd.ntmps57
  go_wp2_with fail
  refine h.mono ?_
  clear h
  rintro e w1 ⟨k, hk, rfl, hb⟩
  have H : Aside ((1 ≤ k ∧ k ≤ 8 ∧ v < 16 ^ k) ∧ Below w.heap.size w w1) := ⟨hk, hb⟩
  clear hk hb
  go_wp2
  go_ret
  exact ⟨k, H.out.1, rfl, H.out.2⟩
set_option maxRecDepth 100000 in
set_option maxHeartbeats 1000000 in
theorem sfmt_any (v : Nat) (w : World) (hv : v < 4294967296) (hz : DeB w) :
    Calls Tryd.prog 44 #[.int .u64 (v : Int), .int .i64 16] w fun e w' => ∃ k, (1 ≤ k ∧ k ≤ 8 ∧ v < 16 ^ k) ∧ e = .returned (.string ⟨(digs k v).toArray⟩) ∧ Below w.heap.size w w' := by
  have h := ifmt_any v w hv hz
  clear hz
  go_enter Tryd.func44, Tryd.ntmps44
  go_wp2_with fail
  refine h.mono ?_
  clear h
  rintro e w1 ⟨k, hk, rfl, hb⟩
  have H : Aside ((1 ≤ k ∧ k ≤ 8 ∧ v < 16 ^ k) ∧ Below w.heap.size w w1) := ⟨hk, hb⟩
  clear hk hb
  go_wp2
  go_ret
  exact ⟨k, H.out.1, rfl, H.out.2⟩
theorem repeat_zero : ∀ n, Lib.repeatL [48] n = List.replicate n 48
  | 0 => rfl
  | n + 1 => by
    show [48] ++ Lib.repeatL [48] n = _
    rw [repeat_zero n]
    rfl

set_option maxRecDepth 100000 in
set_option maxHeartbeats 2000000 in
theorem sumText_any (s : ByteArray) (w : World) (hs : s.size ≤ 1000000) (hz : DeB w) :
    Calls Tryd.prog 30 #[.string s] w fun e w' => e = .returned (.string ⟨(digs 8 (crcOf s.data.toList)).toArray⟩) ∧ Below w.heap.size w w' := by
  have hsum := sum_any s w hs
  obtain ⟨v, hv⟩ : ∃ v : Nat, Aside (v = crcOf s.data.toList) := ⟨_, rfl⟩
  rw [← hv.out] at hsum ⊢
  have hv32 : v < 4294967296 := by rw [hv.out]; exact crcOf_lt _
  have hcv : IntKind.u64.wrap (v : Int) = (v : Int) := by rw [IntKind.wrap_u64]; omega
  have hf := sfmt_any v w hv32 hz
  clear hz
  go_enter Tryd.func30, Tryd.ntmps30
  go_wp2_with fail
  refine hsum.mono ?_
  clear hsum
  rintro e w1 ⟨rfl, rfl⟩
  go_wp2_with fail
  refine hf.mono ?_
  clear hf
  rintro e w2 ⟨k, hk, rfl, hb⟩
  obtain ⟨D, hD⟩ : ∃ D : ByteArray, Aside (D = ⟨(digs k v).toArray⟩) := ⟨_, rfl⟩
  rw [← hD.out]
  have hDs : D.size = k := by rw [hD.out]; simp [ByteArray.size, digs_len]
  obtain ⟨m, hm⟩ : ∃ m : Nat, m + k = 8 := ⟨8 - k, by omega⟩
  have hw : IntKind.i64.wrap (8 - (D.size : Int)) = (m : Int) := by rw [IntKind.wrap_i64, hDs]; omega
  have hr := Tryd.strings_Repeat ⟨#[48]⟩ m w2 (by omega) (by show 1 * m ≤ _; omega)
  obtain ⟨E, hE, hEs, ha⟩ := add_two ⟨(Lib.repeatL [48] m).toArray⟩ D (by rw [hDs, repeat_zero]; simp [ByteArray.size]; omega)
  have HE : Aside (E = ⟨(digs 8 v).toArray⟩) := by
    apply bytes_ext
    rw [hE, hD.out, ← hm, digs_pad m k v hk.2.2, repeat_zero]
  have H : Aside (Below w1.heap.size w1 w2) := hb
  obtain ⟨Z, hZ⟩ : ∃ Z : ByteArray, Aside (Z = ⟨(Lib.repeatL [48] m).toArray⟩) := ⟨_, rfl⟩
  have hr2 : Calls Tryd.prog 46 #[.string ⟨#[48]⟩, .int .i64 (m : Int)] w2 fun e w' => e = .returned (.string Z) ∧ Below w2.heap.size w2 w' := by rw [hZ.out]; exact hr
  rw [← hZ.out] at ha
  clear hE hEs hk hDs hb hr
  go_wp2_with fail
  refine hr2.mono ?_
  clear hr2
  rintro e w3 ⟨rfl, hb3⟩
  have H3 : Aside (Below w1.heap.size w1 w3) := H.out.trans (hb3.mono H.out.size)
  clear hb3
  go_wp2
  go_ret
  exact ⟨by rw [HE.out]; rfl, H3.out⟩

set_option maxRecDepth 100000 in
set_option maxHeartbeats 2000000 in
theorem record_any (s : ByteArray) (w : World) (hs : s.size ≤ 1000000) (hz : DeB w) :
    Calls Tryd.prog 18 #[.string s] w fun e w' => ∃ r : ByteArray, r.data.toList = recL s.data.toList ∧ e = .returned (.string r) ∧ Below w.heap.size w w' := by
  have hst := sumText_any s w hs hz
  obtain ⟨D, hD⟩ : ∃ D : ByteArray, Aside (D = ⟨(digs 8 (crcOf s.data.toList)).toArray⟩) := ⟨_, rfl⟩
  rw [← hD.out] at hst
  have hDs : D.size = 8 := by rw [hD.out]; simp [ByteArray.size, digs_len]
  obtain ⟨E1, h1, h1s, a1⟩ := add_two s ⟨#[35]⟩ (by show s.size + 1 ≤ _; omega)
  have hE1s : E1.size = s.size + 1 := h1s
  obtain ⟨E2, h2, h2s, a2⟩ := add_two E1 D (by omega)
  obtain ⟨E3, h3, h3s, a3⟩ := add_two E2 ⟨#[10]⟩ (by show E2.size + 1 ≤ _; omega)
  have HE : Aside (E3.data.toList = recL s.data.toList) := by
    show _ = _
    rw [h3, h2, h1, hD.out]
    unfold recL
    simp
  clear h1 h2 h3 h1s h2s h3s hE1s hDs hz
  go_enter Tryd.func18, Tryd.ntmps18
  go_wp2_with fail
  refine hst.mono ?_
  clear hst
  rintro e w1 ⟨rfl, hb⟩
  have H : Aside (Below w.heap.size w w1) := hb
  clear hb
  go_wp2
  go_ret
  exact ⟨E3, HE.out, rfl, H.out⟩
end Go.Proofs.YtcggmagdndhkbaaDoor
