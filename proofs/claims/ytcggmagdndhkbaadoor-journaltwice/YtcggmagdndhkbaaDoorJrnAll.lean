/- Contracts of package journal's Read and Recover. -/
import Derived.Test.YtcggmagdndhkbaaDoorJrnRec
set_option linter.unusedVariables false
set_option linter.unusedSimpArgs false
namespace Go.Proofs.YtcggmagdndhkbaaDoor
open Go Go.RowKit Go.Lib Go.Sort

theorem ownsJ {w w' : World} {base n : Nat} {e : TypeId} {k : Nat} {v : Value} {xs : List Value} (h : w.ownsRow base e k v n xs) (hs : ∀ g, v.ownBlock = some g → w'.heap[g]? = w.heap[g]?) : w'.ownsRow base e k v n xs := by
  refine ⟨h.1, ?_⟩
  rcases h.2 with q | ⟨g, cap, cur, rfl, hb, hg, rest⟩
  · exact .inl q
  · exact .inr ⟨g, cap, cur, rfl, hb, (hs g rfl).trans hg, rest⟩
theorem litJ (w : World) (x : OpX) : ∀ j u, (encX x)[j]? = some u → (w.alloc (.cells #[.int .i64 x.1, .int .i64 x.2.1, .int .i64 x.2.2.1, .int .u8 (x.2.2.2.1 : Int), .int .i64 x.2.2.2.2.1, .int .i64 x.2.2.2.2.2.1, .string x.2.2.2.2.2.2.1, .string x.2.2.2.2.2.2.2] 35)).cell? ((⟨w.heap.size, 0, none⟩ : Addr).add j) = some u :=
  World.news_of_block (cs := #[.int .i64 x.1, .int .i64 x.2.1, .int .i64 x.2.2.1, .int .u8 (x.2.2.2.1 : Int), .int .i64 x.2.2.2.2.1, .int .i64 x.2.2.2.2.2.1, .string x.2.2.2.2.2.2.1, .string x.2.2.2.2.2.2.2]) (t := 35) (fr := (0, 0)) (heap_alloc_new w _)
theorem oneJ (x : OpX) : ∀ u ∈ encX x, u.oneCell' = true := by
  intro u hu
  simp only [encX, List.mem_cons, List.not_mem_nil, or_false] at hu
  rcases hu with rfl | rfl | rfl | rfl | rfl | rfl | rfl | rfl <;> rfl
theorem cells_snoc (xs : List OpX) (x : OpX) : cellsOf (xs ++ [x]) = cellsOf xs ++ encX x := by simp [cellsOf]
theorem drop_text (s : ByteArray) (n : Nat) (h : n ≤ s.size) : ∃ F : ByteArray, F.data.toList = s.data.toList.drop n ∧ F.size = s.size - n ∧ ∀ w, (Instr.slice 9 (.string s) (some (.int .i64 (n : Int))) none none).run Tryd.prog w = .ok (.string F) w := by
  obtain ⟨F, h1, h2⟩ := cut_right s n h
  refine ⟨F, h1, ?_, h2⟩
  have := congrArg List.length h1
  simpa using this
/-- What Read tells. -/
def ReadOut (w : World) (s : ByteArray) (e : Ending) (w' : World) : Prop := ∃ v : Value, e = .returned (.tuple #[v, .int .i64 ((readL_ s.data.toList).2 : Int)]) ∧ Aside (w'.ownsRow w.heap.size 35 8 v (readL_ s.data.toList).1.length (cellsOf (readL_ s.data.toList).1) ∧ Below w.heap.size w w')
theorem readA_le (b : List UInt8) : (readL_ b).2 ≤ b.length ∧ 10 * (readL_ b).1.length ≤ b.length := by
  obtain ⟨r, h1, h2, h3, h4⟩ := readA_is b.length b (Nat.le_refl _)
  have e := congrArg List.length h1
  rw [List.length_append] at e
  refine ⟨by omega, ?_⟩
  have : ∀ l : List OpX, 10 * l.length ≤ (recsL l).length := by
    intro l
    induction l with
    | nil => simp
    | cons x l ih =>
      show _ ≤ (recL (textO x) ++ recsL l).length
      rw [List.length_append, recL_len, List.length_cons]
      omega
  have := this (readL_ b).1
  omega
set_option maxRecDepth 100000 in
set_option maxHeartbeats 4000000 in
theorem jread_any {B : Nat} {ad : Nat → Addr} (s : ByteArray) (w : World) (hE : EnvJ B ad w) (hs : s.size ≤ 100000) :
    Calls Tryd.prog 13 #[.string s] w (ReadOut w s) := by
  obtain ⟨i0, hi0, hz0, hz1, hz2⟩ := info_parts infoOp
  obtain ⟨T, hT⟩ : ∃ T, Aside (T = readL_ s.data.toList) := ⟨_, rfl⟩
  have HE : Aside (EnvJ B ad w) := hE
  clear hE
  unfold ReadOut
  rw [← hT.out]
  go_enter Tryd.func13, Tryd.ntmps13
  go_wp2
  go_loopg [4, 5] s.size (fun kx s4 s5 W => ∃ (n : Nat) (xs : List OpX) (ov : Value), ov = s4 ∧ s5 = .int .i64 (n : Int) ∧ n ≤ s.size ∧ s.size - n ≤ kx ∧ xs.length ≤ 20000 ∧ Aside (W.ownsRow w.heap.size 35 8 ov xs.length (cellsOf xs) ∧ Below w.heap.size w W ∧ T = (xs ++ (readL_ (s.data.toList.drop n)).1, n + (readL_ (s.data.toList.drop n)).2)))
  case atStart => exact ⟨0, [], _, rfl, rfl, Nat.zero_le _, Nat.le_refl _, by simp, ⟨World.ownsRow_nil _ _ _ _, Below.refl _ w, by rw [hT.out]; simp⟩⟩
  case round =>
    obtain ⟨n, xs, ov, rfl, rfl, hn, hnx, hxl, A⟩ := hrel
    obtain ⟨F, hF, hFs, hsl⟩ := drop_text s n hn
    have HFF : Aside (F.data.toList = s.data.toList.drop n) := hF
    have hrr := readRec_any F wr (HE.out.later A.out.2.1) (by omega)
    obtain ⟨u, hu⟩ : ∃ u, u = wr := ⟨_, rfl⟩
    subst hu
    clear hF
    go_wp2_with fail
    refine hrr.mono ?_
    clear hrr
    rintro e w1 ⟨x, m, z, rfl, H1⟩
    have HR : Aside ((z = true ∧ readR (s.data.toList.drop n) = some (x, m)) ∨ (z = false ∧ readR (s.data.toList.drop n) = none ∧ x = zeroJ ∧ m = 0)) := by
      have := H1.out.2
      rw [HFF.out] at this
      exact this
    obtain ⟨V, hV⟩ : ∃ V, Aside (V = w1.alloc (.cells #[.int .i64 x.1, .int .i64 x.2.1, .int .i64 x.2.2.1, .int .u8 (x.2.2.2.1 : Int), .int .i64 x.2.2.2.2.1, .int .i64 x.2.2.2.2.2.1, .string x.2.2.2.2.2.2.1, .string x.2.2.2.2.2.2.2] 35)) := ⟨_, rfl⟩
    obtain ⟨Q, hQ⟩ : ∃ Q, Aside (Q = w1.heap.size) := ⟨_, rfl⟩
    have hbV : Below u.heap.size u V := by rw [hV.out]; exact H1.out.1.alloc H1.out.1.size _
    have OV : OpJ V Q x := by rw [hV.out, hQ.out]; exact OpJ.new w1 x
    have HV : Aside (V.ownsRow w.heap.size 35 8 ov xs.length (cellsOf xs) ∧ Below w.heap.size w V) := ⟨ownsJ A.out.1 (fun g hg => hbV.block g (A.out.1.lt g hg).2), A.out.2.1.trans (hbV.mono A.out.2.1.size)⟩
    clear hbV
    unfold encJ
    go_upto_region 4 with fail
    rw [← hV.out, ← hQ.out]
    cases z with
    | false =>
      have hr : readR (s.data.toList.drop n) = none := by
        rcases HR.out with ⟨q, _⟩ | ⟨_, q, _⟩
        · cases q
        · exact q
      have HT : Aside (T = (xs, n)) := by
        show T = (xs, n)
        have := A.out.2.2
        rw [readA_none hr] at this
        simpa using this
      clear hr A HR OV
      go_wp2
      go_ret2
      exact ⟨ov, by rw [HT.out]; rfl, by rw [HT.out]; exact HV.out.1, HV.out.2⟩
    | true =>
      have hr : readR (s.data.toList.drop n) = some (x, m) := by
        rcases HR.out with ⟨_, q⟩ | ⟨q, _⟩
        · exact q
        · cases q
      have hp := readR_pos hr
      rw [List.length_drop] at hp
      have hsz : s.data.toList.length = s.size := by simp
      rw [hsz] at hp
      have hwr : IntKind.i64.wrap ((n : Int) + (m : Int)) = ((n + m : Nat) : Int) := by rw [IntKind.wrap_i64]; omega
      obtain ⟨nm, hnm⟩ : ∃ nm : Nat, Aside (nm = n + m) := ⟨_, rfl⟩
      rw [← hnm.out] at hwr
      have HT : Aside (T = ((xs ++ [x]) ++ (readL_ (s.data.toList.drop nm)).1, nm + (readL_ (s.data.toList.drop nm)).2) ∧ (xs ++ [x]).length ≤ 20000) := by
        have h1 := A.out.2.2
        rw [readA_some hr, List.drop_drop] at h1
        refine ⟨by rw [h1, hnm.out]; simp; omega, ?_⟩
        have hle := readA_le s.data.toList
        rw [← hT.out, h1] at hle
        simp at hle ⊢
        omega
      obtain ⟨j0, j1, j2, j3, j4, j5, j6, j7, jf⟩ := OV.cells
      clear hr A HR
      go_wp2_with (at_builtin; refine wpList_append_own _ rfl _ _ 22 rfl w.heap.size 35 i0 _ 8 80 Tryd.underlying22 hi0 hz0 hz1 hz2 rfl (by omega) _ _ _ rfl (HV.out.1.alloc _) ⟨V.heap.size, 0, none⟩ 1 1 (encX x) rfl ?qc1 ?qc2 ?qc3 ?qc4 ?qc5 ?qc6 ?_)
      case qc1 => rfl
      case qc2 => first | exact litJ V x | exact fun j u h => h
      case qc3 => exact oneJ x
      case qc4 => simp only [maxLen]; omega
      case qc5 => omega
      case qc6 => have := HV.out.2.size; first | omega | (simp; omega)
      intro v' w4 hown hgrow hnil
      have HN : Aside (w4.ownsRow w.heap.size 35 8 v' (xs ++ [x]).length (cellsOf (xs ++ [x])) ∧ Below w.heap.size w w4) := by
        refine ⟨?_, ?_⟩
        · rw [cells_snoc, List.length_append]
          exact hown
        · exact (HV.out.2.alloc HV.out.2.size _).grown hgrow (by simp; have := HV.out.2.size; omega) (fun k hk => (HV.out.1.lt k hk).1)
      clear hown hgrow hnil j0 j1 j2 j3 j4 j5 j6 j7 jf OV
      go_wp2
      go_roundg (s.size - nm)
      case measure => have := hnm.out; omega
      case rel => exact ⟨nm, xs ++ [x], _, rfl, rfl, by have := hnm.out; omega, Nat.le_refl _, HT.out.2, HN.out.1, HN.out.2, HT.out.1⟩
end Go.Proofs.YtcggmagdndhkbaaDoor
