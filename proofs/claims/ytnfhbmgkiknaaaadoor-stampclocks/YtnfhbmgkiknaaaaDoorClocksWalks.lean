/- The walk of the law StampClocks. -/
import Derived.Test.YtnfhbmgkiknaaaaDoorClocksParts
import Derived.Deep.RegionHeld3
import Derived.Laws.StructEq
namespace Go.Proofs.YtnfhbmgkiknaaaaDoor
open Go.RowKit

/-- What a region of a round reads. -/
def CkR (ad : Nat → Addr) (w0 : World) (lb o : Nat) (t b : Int) (w : World) : Prop :=
  w.cell? ⟨lb, o, none⟩ = some (.int .i64 t) ∧ w.cell? ⟨lb, o + 1, none⟩ = some (.int .i64 b) ∧ Errs w0.heap.size ad w ∧ Below w0.heap.size w0 w
theorem CkR.of {ad : Nat → Addr} {w0 w : World} {lb o pb : Nat} {t b c T : Int} {v : Value} {L : List (Int × Int)} (h : CkS ad w0 pb c T v L w) (x0 : w0.cell? ⟨lb, o, none⟩ = some (.int .i64 t)) (x1 : w0.cell? ⟨lb, o + 1, none⟩ = some (.int .i64 b)) : CkR ad w0 lb o t b w :=
  ⟨cell_later h.below x0, cell_later h.below x1, h.errs, h.below⟩
theorem CkR.later {ad : Nat → Addr} {w0 w w' : World} {lb o : Nat} {t b : Int} (h : CkR ad w0 lb o t b w) (hb : Below w.heap.size w w') : CkR ad w0 lb o t b w' :=
  ⟨cell_later hb h.1, cell_later hb h.2.1, h.2.2.1.later hb, h.2.2.2.trans (hb.mono h.2.2.2.size)⟩
theorem CkR.errs {ad : Nat → Addr} {w0 w : World} {lb o : Nat} {t b : Int} (h : CkR ad w0 lb o t b w) : Errs w0.heap.size ad w := h.2.2.1

/-- What the inner region reads: a stamp of the row, and the one that was told. -/
def InR (w4 : World) (g o sb : Nat) (t b t' b' : Int) (w : World) : Prop :=
  w.cell? ⟨g, o, none⟩ = some (.int .i64 t) ∧ w.cell? ⟨g, o + 1, none⟩ = some (.int .i64 b) ∧ w.cell? ⟨sb, 0, none⟩ = some (.int .i64 t') ∧ w.cell? ⟨sb, 1, none⟩ = some (.int .i64 b') ∧ Below w4.heap.size w4 w
theorem InR.of {w4 w : World} {g o sb : Nat} {t b t' b' : Int} (r0 : w4.cell? ⟨g, o, none⟩ = some (.int .i64 t)) (r1 : w4.cell? ⟨g, o + 1, none⟩ = some (.int .i64 b)) (s0 : w4.cell? ⟨sb, 0, none⟩ = some (.int .i64 t')) (s1 : w4.cell? ⟨sb, 1, none⟩ = some (.int .i64 b')) (hb : Below w4.heap.size w4 w) : InR w4 g o sb t b t' b' w :=
  ⟨cell_later hb r0, cell_later hb r1, cell_later hb s0, cell_later hb s1, hb⟩
theorem InR.later {w4 w w' : World} {g o sb : Nat} {t b t' b' : Int} (h : InR w4 g o sb t b t' b' w) (hb : Below w.heap.size w w') : InR w4 g o sb t b t' b' w' :=
  ⟨cell_later hb h.1, cell_later hb h.2.1, cell_later hb h.2.2.1, cell_later hb h.2.2.2.1, h.2.2.2.2.trans (hb.mono h.2.2.2.2.size)⟩

theorem eqStamp' (a b c d : Int) (w : World) : (Op.equalIn 10000 36 (.agg #[.int .i64 a, .int .i64 b]) (.agg #[.int .i64 c, .int .i64 d])).run Tryd.prog w = .ok (a == c && b == d) w := by
  have u3 := Tryd.underlying3
  have a3 := Tryd.isAgg3
  have z3 := Tryd.sizeOf3
  have hS : Tryd.prog.underlying 36 = some (.struct (Tryd.prog.fieldsOf 36)) := by kernel_rfl
  have hp : Tryd.prog.stoodInHeld 36 = false := by kernel_rfl
  rw [show (10000 : Nat) = 9999 + 1 from rfl, run_equalIn_agg w 9999 36 _ _ hS hp]
  simp only [Program.fieldsOf, Tryd.underlying36]
  go_simp
  by_cases h1 : a = c <;> by_cases h2 : b = d <;> simp [h1, h2]

set_option maxRecDepth 100000 in
set_option maxHeartbeats 8000000 in
theorem clocks_loop {ad : Nat → Addr} (c : Int) (ao : Option Addr) (lb lo n cap : Nat) (ft fb : Nat → Int) (w : World) (h : Errs w.heap.size ad w) (hn : n ≤ 100)
    (hao : ∀ i, i < n → ao = some ⟨lb, lo, none⟩) (hl : ∀ i, i < n → w.cell? ⟨lb, lo + i * 2, none⟩ = some (.int .i64 (ft i)) ∧ w.cell? ⟨lb, lo + i * 2 + 1, none⟩ = some (.int .i64 (fb i))) (h3 : 0 ≤ c) (h4 : c < 4) :
    Calls Tryd.prog 5 #[.int .i64 c, .slice ao n cap] w fun e w' => e = .returned (.bool true) ∧ Below w.heap.size w w' := by
  have HL : Hid (∀ i, i < n → w.cell? ⟨lb, lo + i * 2, none⟩ = some (.int .i64 (ft i)) ∧ w.cell? ⟨lb, lo + i * 2 + 1, none⟩ = some (.int .i64 (fb i))) := hl
  have HA : Hid (∀ i, i < n → ao = some ⟨lb, lo, none⟩) := hao
  clear hl hao
  have d1 : decide ((100 : Int) < (n : Int)) = false := by simp; omega
  have d2 : decide (c < 0) = false := by simp; omega
  have d3 : decide (4 ≤ c) = false := by simp; omega
  obtain ⟨i0, hi, hz0, hz1, hz2⟩ := info_parts Tryd.infoStamp
  go_enter Tryd.func5, Tryd.ntmps5
  go_wp2_with fail
  refine (stamped_any _).mono ?_
  rintro e w1 ⟨rfl, hb1⟩
  go_wp2_with fail
  refine (new_ok c _ h3 h4).mono ?_
  rintro e w2 ⟨rfl, hw2⟩
  have C2 : CkS ad w w1.heap.size c 0 (.slice none 0 0) [] w2 := by
    subst hw2
    have hb2 : Below w1.heap.size w1 (w1.alloc (.cells #[.int .i64 0, .int .i64 c] 111)) := (Below.refl _ _).alloc (Nat.le_refl _) _
    exact ⟨⟨by simp [go_sem], by simp [go_sem], by simp [go_sem]⟩, World.ownsRow_nil _ _ _ _, (h.later hb1).later hb2, hb1.trans (hb2.mono hb1.size), hb1.size⟩
  clear hw2 hb1
  generalize w1.heap.size = pb at C2 ⊢
  go_wp2_with fail
  go_loopw [8, 9, 10] (fun t v i wr => ∃ (k : Nat) (T : Int) (L : List (Int × Int)), k ≤ n ∧ i = .int .i64 k ∧ t = .int .i64 T ∧ 0 ≤ T ∧ T ≤ 1073741824 ∧ L.length ≤ k ∧ (∀ p ∈ L, p.1 ≤ T) ∧ CkS ad w pb c T v L wr) (fun _ _ i _ => n - (intOf i).toNat)
  case atStart => exact ⟨0, 0, [], Nat.zero_le _, rfl, rfl, by omega, by omega, Nat.le_refl _, by simp, C2⟩
  case round =>
    obtain ⟨k, T, L, hk, rfl, rfl, hT0, hT1, hLk, hLT0, hS⟩ := hrel
    have HLT : Hid (∀ p ∈ L, p.1 ≤ T) := hLT0
    clear hLT0 C2
    by_cases hlt : k < n
    · have ea := HA.out k hlt
      subst ea
      obtain ⟨x0, x1⟩ := HL.out k hlt
      have y0 := cell_later hS.below x0
      have y1 := cell_later hS.below x1
      have hki : (k : Int) < (n : Int) := by omega
      by_cases hz : ft k = 0
      · have hb0 : (ft k != 0) = false := by simp [hz]
        have hLT := HLT.out
        clear hz HLT
        have eqS := eqStamp'
        by_cases hfull : 1073741824 ≤ T
        · go_wp2_with fail
          refine (tick_full pb T c _ _ hS.errs.c7 hS.clk hfull).mono ?_
          rintro e w3 ⟨rfl, hb3⟩
          have hS4 := (hS.later hb3).later ((Below.refl _ _).alloc (Nat.le_refl _) (.cells #[.int .i64 0, .int .i64 0] 36))
          clear hS hb3 y0 y1
          go_wp2_with fail
          refine (coded_sent _ hS4.errs 7 (by decide) 8).mono ?_
          rintro e w5 ⟨rfl, hb5⟩
          have s0 : w5.cell? ⟨w3.heap.size, 0, none⟩ = some (.int .i64 0) := cell_later hb5 (by simp [go_sem])
          have s1 : w5.cell? ⟨w3.heap.size, 1, none⟩ = some (.int .i64 0) := cell_later hb5 (by simp [go_sem])
          have hS5 := hS4.later hb5
          rw [code7]
          clear hS4 hb5
          go_wp2
          refine ⟨⟨k + 1, T, L, by omega, by go_num, rfl, by omega, by omega, by omega, hLT, hS5⟩, ?_⟩
          simp [intOf]
          omega
        · have hT2 : T < 1073741824 := by omega
          have df : decide (1073741824 ≤ T) = false := by simp; omega
          clear hfull
          go_wp2_with fail
          refine (tick_ok pb T c _ hS.clk hT0 hT2).mono ?_
          rintro e w3 ⟨rfl, hbt, hct⟩
          have hS4 := (hS.but hbt hct).later ((Below.refl _ _).alloc (Nat.le_refl _) (.cells #[.int .i64 (T + 1), .int .i64 c] 36))
          have s0 : (w3.alloc (.cells #[.int .i64 (T + 1), .int .i64 c] 36)).cell? ⟨w3.heap.size, 0, none⟩ = some (.int .i64 (T + 1)) := by simp [go_sem]
          have s1 : (w3.alloc (.cells #[.int .i64 (T + 1), .int .i64 c] 36)).cell? ⟨w3.heap.size, 1, none⟩ = some (.int .i64 c) := by simp [go_sem]
          clear hS hbt hct y0 y1
          obtain ⟨al, acap, ev, hf⟩ := hS4.form
          subst ev
          have HF : Hid (∀ j, j < L.length → ∃ g, al = some ⟨g, 0, none⟩ ∧ ∀ q, L[j]? = some q → (w3.alloc (.cells #[.int .i64 (T + 1), .int .i64 c] 36)).cell? ⟨g, j * 2, none⟩ = some (.int .i64 q.1) ∧ (w3.alloc (.cells #[.int .i64 (T + 1), .int .i64 c] 36)).cell? ⟨g, j * 2 + 1, none⟩ = some (.int .i64 q.2)) := hf
          clear hf
          go_wp2_with fail
          generalize w3.alloc (.cells #[.int .i64 (T + 1), .int .i64 c] 36) = w4 at s0 s1 hS4 HF ⊢
          generalize w3.heap.size = sb at s0 s1 ⊢
          go_loopw [13] (fun jv wi => ∃ j : Nat, j ≤ L.length ∧ jv = .int .i64 j ∧ Below w4.heap.size w4 wi) (fun jv _ => L.length - (intOf jv).toNat)
          case atStart => exact ⟨0, Nat.zero_le _, rfl, Below.refl _ _⟩
          case round =>
            obtain ⟨j, hj, rfl, hBi⟩ := hrel
            by_cases hjl : j < L.length
            · obtain ⟨g, eg, hq⟩ := HF.out j hjl
              subst eg
              obtain ⟨q, hqe⟩ : ∃ q, L[j]? = some q := ⟨_, List.getElem?_eq_getElem hjl⟩
              obtain ⟨r0, r1⟩ := hq q hqe
              have hle := hLT q (List.mem_of_getElem? hqe)
              obtain ⟨tj, bj⟩ := q
              simp only at r0 r1 hle
              clear hqe hq HF
              obtain ⟨a0, a1, a2, a3, a4⟩ := InR.of r0 r1 s0 s1 hBi
              have hji : (j : Int) < (L.length : Int) := by omega
              have hlb := lessB_lt (t := tj) (b := bj) (t' := T + 1) (b' := c) (by omega)
              go_wp2_with fail
              go_region_held3 (fun w' => w'.cell? ⟨g, j * 2, none⟩ = some (.int .i64 tj) ∧ w'.cell? ⟨g, j * 2 + 1, none⟩ = some (.int .i64 bj) ∧ w'.cell? ⟨sb, 0, none⟩ = some (.int .i64 (T + 1)) ∧ w'.cell? ⟨sb, 1, none⟩ = some (.int .i64 c) ∧ Below w4.heap.size w4 w')
                (first
                  | assumption
                  | exact InR.later ⟨a0, a1, a2, a3, a4⟩ (Below.refl _ _).drew
                  | exact InR.later (by assumption) (by assumption))
                (first
                  | (go_at_call 19; refine (isLess_any _ _ _ _ _).mono ?_; rintro e wl ⟨rfl, hbl⟩))
              have R2 : InR w4 g (j * 2) sb tj bj (T + 1) c wl := by assumption
              go_wp2
              refine ⟨⟨j + 1, by omega, by go_num, R2.2.2.2.2⟩, ?_⟩
              simp [intOf]
              omega
            · have hji : ¬ (j : Int) < (L.length : Int) := by omega
              have hS5 := hS4.later hBi
              have t0 := cell_later hBi s0
              have t1 := cell_later hBi s1
              clear HF s0 s1 hS4
              go_wp2_with (at_builtin; refine wpList_append_own _ rfl _ _ 45 rfl (pb + 1) 36 i0 (.agg #[.int .i64 0, .int .i64 0]) 2 16 Tryd.underlying45 hi hz0 hz1 hz2 rfl (by decide) _ _ _ rfl (hS5.own.alloc _) _ 1 1 [.int .i64 (T + 1), .int .i64 c] rfl rfl (cell_two_stamp _ _ _ _) (by intro u hu; simp at hu; rcases hu with rfl | rfl <;> rfl) (by unfold maxLen; omega) (by omega) (by have := hS5.lt; simp; omega) ?_; intro v' w5 hown hgrow _; have hS6 := CkS.grown (hS5.later ((Below.refl _ _).alloc (Nat.le_refl _) _)) (p := (T + 1, c)) hown hgrow; clear hown hgrow)
              refine (time_any pb _ _ hS6.clk.t).mono ?_
              rintro e w6 ⟨rfl, hw⟩
              subst hw
              go_wp2
              refine ⟨⟨k + 1, T + 1, L ++ [(T + 1, c)], by omega, by go_num, rfl, by omega, by omega, by simp; omega, ?_, hS6⟩, ?_⟩
              · intro p hp
                rcases List.mem_append.1 hp with hp | hp
                · have := hLT p hp
                  omega
                · simp at hp
                  subst hp
                  exact Int.le_refl _
              · simp [intOf]
                omega
      · have hb0 : (ft k != 0) = true := by simp [hz]
        clear hz
        by_cases hv : 1 ≤ ft k ∧ ft k ≤ 1073741824 ∧ 0 ≤ fb k ∧ fb k < 4
        · obtain ⟨q1, q2, q3, q4⟩ := hv
          by_cases hgt : T < ft k
          · have hLT := HLT.out
            have et : tmax T (ft k) = ft k := by unfold tmax; rw [if_pos hgt]
            have ET : Hid (tmax T (ft k) = ft k) := et
            clear et
            go_wp2_with fail
            go_region_held3 (fun w' => w'.cell? ⟨lb, lo + k * 2, none⟩ = some (.int .i64 (ft k)) ∧ w'.cell? ⟨lb, lo + k * 2 + 1, none⟩ = some (.int .i64 (fb k)) ∧ Errs w.heap.size ad w' ∧ Below w.heap.size w w')
              (first
                | assumption
                | exact CkR.of (hS.later (Below.refl _ _).drew) x0 x1
                | exact CkR.of hSh x0 x1
                | exact CkR.later (by assumption) (by assumption))
              (first
                | (go_at_call 26; refine (hear_ok pb T c (ft k) (fb k) _ (hS.clk.later (Below.refl _ _).drew) q1 q2 q3 q4).mono ?_; rintro e wh ⟨rfl, hbh, hch⟩; have hSh := (hS.later (Below.refl _ _).drew).but hbh hch)
                | (go_at_call 21; refine (stampError_ok _ _ _ q1 q2 q3 q4).mono ?_; rintro e ws ⟨rfl, hbs⟩)
                | (go_at_call 15; refine (coded_nil _ _).mono ?_; rintro e wc ⟨rfl, hw⟩; subst hw))
            have hS2 := hSh.later hbs
            rw [ET.out] at hS2
            clear hSh hbs hbh hch hS y0 y1
            have y0 := cell_later hS2.below x0
            have y1 := cell_later hS2.below x1
            go_wp2_with fail
            refine (stampError_ok _ _ _ q1 q2 q3 q4).mono ?_
            rintro e wd ⟨rfl, hbd⟩
            have hS3 := hS2.later hbd
            clear hS2 hbd y0 y1
            have y0 := cell_later hS3.below x0
            have y1 := cell_later hS3.below x1
            go_wp2_with (at_builtin; refine wpList_append_own _ rfl _ _ 45 rfl (pb + 1) 36 i0 (.agg #[.int .i64 0, .int .i64 0]) 2 16 Tryd.underlying45 hi hz0 hz1 hz2 rfl (by decide) _ _ _ rfl (hS3.own.alloc _) ⟨wd.heap.size, 0, none⟩ 1 1 [.int .i64 (ft k), .int .i64 (fb k)] rfl rfl (cell_two_stamp _ _ _ _) (by intro u hu; simp at hu; rcases hu with rfl | rfl <;> rfl) (by unfold maxLen; omega) (by omega) (by have := hS3.lt; simp; omega) ?_; intro v' w5 hown hgrow _; have hS4 := CkS.grown (hS3.later ((Below.refl _ _).alloc (Nat.le_refl _) _)) (p := ((ft k), (fb k))) hown hgrow; clear hown hgrow; have z0 := cell_later hS4.below x0)
            refine (time_any pb _ _ hS4.clk.t).mono ?_
            rintro e w6 ⟨rfl, hw⟩
            subst hw
            go_wp2
            refine ⟨⟨k + 1, ft k, L ++ [(ft k, fb k)], by omega, by go_num, rfl, by omega, by omega, by simp; omega, ?_, hS4⟩, ?_⟩
            · intro p hp
              rcases List.mem_append.1 hp with hp | hp
              · have := hLT p hp
                omega
              · simp at hp
                subst hp
                show ft k ≤ _
                omega
            · simp [intOf]
              omega
          · have hLT := HLT.out
            have et : tmax T (ft k) = T := by unfold tmax; rw [if_neg hgt]
            have ET : Hid (tmax T (ft k) = T) := et
            clear et
            go_wp2_with fail
            go_region_held3 (fun w' => w'.cell? ⟨lb, lo + k * 2, none⟩ = some (.int .i64 (ft k)) ∧ w'.cell? ⟨lb, lo + k * 2 + 1, none⟩ = some (.int .i64 (fb k)) ∧ Errs w.heap.size ad w' ∧ Below w.heap.size w w')
              (first
                | assumption
                | exact CkR.of (hS.later (Below.refl _ _).drew) x0 x1
                | exact CkR.of hSh x0 x1
                | exact CkR.later (by assumption) (by assumption))
              (first
                | (go_at_call 26; refine (hear_ok pb T c (ft k) (fb k) _ (hS.clk.later (Below.refl _ _).drew) q1 q2 q3 q4).mono ?_; rintro e wh ⟨rfl, hbh, hch⟩; have hSh := (hS.later (Below.refl _ _).drew).but hbh hch)
                | (go_at_call 21; refine (stampError_ok _ _ _ q1 q2 q3 q4).mono ?_; rintro e ws ⟨rfl, hbs⟩)
                | (go_at_call 15; refine (coded_nil _ _).mono ?_; rintro e wc ⟨rfl, hw⟩; subst hw))
            have hS2 := hSh.later hbs
            rw [ET.out] at hS2
            clear hSh hbs hbh hch hS y0 y1
            have y0 := cell_later hS2.below x0
            have y1 := cell_later hS2.below x1
            go_wp2_with fail
            refine (stampError_ok _ _ _ q1 q2 q3 q4).mono ?_
            rintro e wd ⟨rfl, hbd⟩
            have hS3 := hS2.later hbd
            clear hS2 hbd y0 y1
            have y0 := cell_later hS3.below x0
            have y1 := cell_later hS3.below x1
            go_wp2_with (at_builtin; refine wpList_append_own _ rfl _ _ 45 rfl (pb + 1) 36 i0 (.agg #[.int .i64 0, .int .i64 0]) 2 16 Tryd.underlying45 hi hz0 hz1 hz2 rfl (by decide) _ _ _ rfl (hS3.own.alloc _) ⟨wd.heap.size, 0, none⟩ 1 1 [.int .i64 (ft k), .int .i64 (fb k)] rfl rfl (cell_two_stamp _ _ _ _) (by intro u hu; simp at hu; rcases hu with rfl | rfl <;> rfl) (by unfold maxLen; omega) (by omega) (by have := hS3.lt; simp; omega) ?_; intro v' w5 hown hgrow _; have hS4 := CkS.grown (hS3.later ((Below.refl _ _).alloc (Nat.le_refl _) _)) (p := ((ft k), (fb k))) hown hgrow; clear hown hgrow; have z0 := cell_later hS4.below x0)
            refine (time_any pb _ _ hS4.clk.t).mono ?_
            rintro e w6 ⟨rfl, hw⟩
            subst hw
            go_wp2
            refine ⟨⟨k + 1, T, L ++ [(ft k, fb k)], by omega, by go_num, rfl, by omega, by omega, by simp; omega, ?_, hS4⟩, ?_⟩
            · intro p hp
              rcases List.mem_append.1 hp with hp | hp
              · have := hLT p hp
                omega
              · simp at hp
                subst hp
                show ft k ≤ _
                omega
            · simp [intOf]
              omega
        · have hLT := HLT.out
          have HV : Hid (¬ (1 ≤ ft k ∧ ft k ≤ 1073741824 ∧ 0 ≤ fb k ∧ fb k < 4)) := hv
          clear hv
          go_wp2_with fail
          go_region_held3 (fun w' => w'.cell? ⟨lb, lo + k * 2, none⟩ = some (.int .i64 (ft k)) ∧ w'.cell? ⟨lb, lo + k * 2 + 1, none⟩ = some (.int .i64 (fb k)) ∧ Errs w.heap.size ad w' ∧ Below w.heap.size w w')
            (first
              | assumption
              | exact CkR.of (hS.later (Below.refl _ _).drew) x0 x1
              | exact CkR.later (by assumption) (by assumption))
            (first
              | (go_at_call 26; refine (hear_no pb (ft k) (fb k) _ _ _ (hS.later (Below.refl _ _).drew).errs.c1 HV.out).mono ?_; rintro e wh ⟨rfl, hbh⟩)
              | (go_at_call 21; refine (stampError_no _ _ _ HV.out).mono ?_; rintro e ws ⟨rfl, hbs⟩)
              | (go_at_call 15; refine (coded_sent _ (CkR.errs (by assumption)) 1 (by decide) 2).mono ?_; rintro e wc ⟨rfl, hbc⟩; rw [code1']))
          have hS2 := (((hS.later (Below.refl _ _).drew).later hbh).later hbs).later hbc
          clear hbs hbh hbc hS y0 y1
          have y0 := cell_later hS2.below x0
          have y1 := cell_later hS2.below x1
          go_wp2_with fail
          refine (stampError_no _ _ _ HV.out).mono ?_
          rintro e wd ⟨rfl, hbd⟩
          have hS3 := hS2.later hbd
          clear hS2 hbd y0 y1
          go_wp2_with fail
          refine (time_any pb _ _ hS3.clk.t).mono ?_
          rintro e w6 ⟨rfl, hw⟩
          subst hw
          go_wp2
          refine ⟨⟨k + 1, T, L, by omega, by go_num, rfl, by omega, by omega, by omega, hLT, hS3⟩, ?_⟩
          simp [intOf]
          omega
    · have hki : ¬ (k : Int) < (n : Int) := by omega
      go_wp2
      go_ret
      exact ⟨rfl, hS.below⟩
end Go.Proofs.YtnfhbmgkiknaaaaDoor
