/- Contract of package journal's Recover. -/
import Derived.Test.YtcggmagdndhkbaaDoorJrnAll
set_option linter.unusedVariables false
set_option linter.unusedSimpArgs false
namespace Go.Proofs.YtcggmagdndhkbaaDoor
open Go Go.RowKit Go.Lib Go.Sort

theorem cut_bytes (g n cap k : Nat) (w : World) (h : k ≤ cap) : (Instr.slice 46 (.slice (some ⟨g, 0, none⟩) n cap) none (some (.int .i64 (k : Int))) none).run Tryd.prog w = .ok (.slice (some ⟨g, 0, none⟩) k cap) w := by
  have h1 : (k : Int) ≤ (cap : Int) := by omega
  have h0 : (0 : Int) ≤ (k : Int) := by omega
  go_simp
/-- Behind Recover. -/
def backSt (st : DSt) : DSt := (st.1.take (readL_ st.1).2, false, false, st.2.2.2)
def BackOut (d : Nat) (v : Value) (w : World) (st : DSt) (e : Ending) (w' : World) : Prop := ∃ rv : Value, e = .returned (.tuple #[rv, .nilIface]) ∧ Aside (WroteD d v w (backSt st) w' ∧ w'.ownsRow w.heap.size 35 8 rv (readL_ st.1).1.length (cellsOf (readL_ st.1).1) ∧ Keeps (fun k => k = d) w w')
set_option maxRecDepth 100000 in
set_option maxHeartbeats 2000000 in
theorem recover_any {B : Nat} {ad : Nat → Addr} {d : Nat} {v : Value} {st : DSt} (w : World) (hD : DiskAt w d v st) (hE : EnvJ B ad w) (hO : ∀ k, OwnD d v k → B ≤ k) (hB : st.1.length ≤ 65536) :
    Calls Tryd.prog 10 #[.pointer (some ⟨d, 0, none⟩)] w (BackOut d v w st) := by
  obtain ⟨B0, off, waits, left⟩ := st
  have hon := on_any w hD
  obtain ⟨g, cap, hvs⟩ := hD.row.shape
  dsimp only at hvs hB
  have H0 : Aside (DiskAt w d v (B0, off, waits, left) ∧ EnvJ B ad w ∧ ∀ k, OwnD d v k → B ≤ k) := ⟨hD, hE, hO⟩
  have HV : Aside (v = .slice (some ⟨g, 0, none⟩) B0.length cap) := hvs
  clear hD hE hO hvs
  go_enter Tryd.func10, Tryd.ntmps10
  go_wp2_with fail
  refine hon.mono ?_
  clear hon
  rintro e w1 ⟨⟨u, rfl⟩, H1⟩
  have hby := bytes_any w1 H1.out.1
  dsimp only at hby
  obtain ⟨s, hs⟩ : ∃ s : ByteArray, Aside (s = ⟨B0.toArray⟩) := ⟨_, rfl⟩
  rw [← hs.out] at hby
  have hsd : s.data.toList = B0 := by rw [hs.out]
  have hss : s.size ≤ 65536 := by rw [hs.out]; simpa [ByteArray.size] using hB
  have hE1 : EnvJ B ad w1 := H0.out.2.1.mono (H1.out.2.below H0.out.2.1.size (fun k e => by rw [e]; exact H0.out.2.2 d (.inl rfl)))
  have hrd := jread_any s w1 hE1 (by omega)
  obtain ⟨T, hT⟩ : ∃ T, Aside (T = readL_ B0) := ⟨_, rfl⟩
  unfold ReadOut at hrd
  rw [hsd, ← hT.out] at hrd
  clear hsd hE1
  go_wp2_with fail
  refine hby.mono ?_
  clear hby
  rintro e w2 ⟨rfl, rfl⟩
  go_wp2_with fail
  refine hrd.mono ?_
  clear hrd
  rintro e w3 ⟨rv, rfl, H3⟩
  have hD3 := H1.out.1.later H3.out.2
  obtain ⟨c0, c1, c2, c3, cf⟩ := hD3.c
  rw [HV.out] at c0
  obtain ⟨k, hk⟩ : ∃ k, Aside (k = T.2) := ⟨_, rfl⟩
  have hkB : k ≤ B0.length := by
    rw [hk.out, hT.out]
    exact (readA_le B0).1
  have hcap : B0.length ≤ cap := by
    obtain ⟨g', cap', cur, fr, e1, _, _, h3, _⟩ := hD3.row
    rw [HV.out] at e1
    cases e1
    exact h3
  have hsl := fun W => cut_bytes g B0.length cap k W (by omega)
  rw [← hk.out]
  have HF : Aside (WroteD d v w (B0.take T.2, false, false, left) (w3.setCell ⟨d, 0, none⟩ (.slice (some ⟨g, 0, none⟩) k cap)) ∧ (w3.setCell ⟨d, 0, none⟩ (.slice (some ⟨g, 0, none⟩) k cap)).ownsRow w.heap.size 35 8 rv T.1.length (cellsOf T.1) ∧ Keeps (fun k => k = d) w (w3.setCell ⟨d, 0, none⟩ (.slice (some ⟨g, 0, none⟩) k cap))) := by
    have hrow : RowB w3 (.slice (some ⟨g, 0, none⟩) k cap) (B0.take T.2) := by
      have := hD3.row
      dsimp only at this
      rw [HV.out] at this
      rw [← hk.out]
      exact this.cut hkB
    have hne : (Value.slice (some ⟨g, 0, none⟩) k cap).ownBlock ≠ some d := by
      have := hD3.ne
      rw [HV.out] at this
      exact this
    have h4 := DiskAt.set0 hD3.cell hrow hne hD3.left
    have hk3 : Keeps (fun k => k = d) w2 w3 := (keeps_of_below H3.out.2).mono (fun k hk q => by omega)
    have hkk : Keeps (fun k => k = d) w (w3.setCell ⟨d, 0, none⟩ (.slice (some ⟨g, 0, none⟩) k cap)) := (H1.out.2.trans hk3).trans h4.2
    refine ⟨⟨_, h4.1, hkk.mono (fun k _ e => .inl e), fun g' hg' => .inl (by rw [HV.out]; exact hg')⟩, ?_, hkk⟩
    have hr := H3.out.1
    have hr' := ownsJ hr (w' := w3.setCell ⟨d, 0, none⟩ (.slice (some ⟨g, 0, none⟩) k cap)) (fun g' hg' => h4.2.block g' (hr.lt g' hg').2 (fun e => by have := (hr.lt g' hg').1; have := H1.out.1.lt; omega))
    have hws : w.heap.size ≤ w2.heap.size := H1.out.2.size
    rcases hr'.2 with q | ⟨g2, cap2, cur2, e1, hb2, rest⟩
    · exact ⟨hr'.1, .inl q⟩
    · exact ⟨hr'.1, .inr ⟨g2, cap2, cur2, e1, Nat.le_trans hws hb2, rest⟩⟩
  clear hD3 c1 c2 c3 hkB hcap H3 H1
  go_wp2
  go_ret2
  refine ⟨rv, rfl, ?_⟩
  unfold backSt
  dsimp only
  rw [← hT.out]
  exact HF.out
end Go.Proofs.YtcggmagdndhkbaaDoor
