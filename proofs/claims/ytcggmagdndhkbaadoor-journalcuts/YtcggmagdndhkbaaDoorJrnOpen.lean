/- How a row's list tells where the journal's variables lie. -/
import Derived.Test.YtcggmagdndhkbaaDoorRows
import Derived.Test.YtcggmagdndhkbaaDoorJrnApp
import Derived.Test.YtcggmagdndhkbaaDoorTabOpen
import Derived.Test.YtcggmagdndhkbaaDoorErrSome
namespace Go.Proofs.YtcggmagdndhkbaaDoor
open Go.ChangeShapes Go.WideShapes Go.ChangeAt Go.RowKit Go.Joins

def deBTab : List Int := [0, 1, 56, 2, 57, 49, 28, 3, 61, 58, 42, 50, 38, 29, 17, 4, 62, 47, 59, 36, 45, 43, 51, 22, 53, 39, 33, 30, 24, 18, 12, 5, 63, 55, 48, 27, 60, 41, 37, 16, 46, 35, 44, 21, 52, 32, 23, 11, 54, 26, 40, 15, 34, 20, 31, 10, 25, 14, 19, 9, 13, 8, 7, 6]
theorem gDeb : Tryd.prog.globalNamed "math/bits.deBruijn64tab" = some 10 := by kernel_rfl
theorem tDeb : (Tryd.prog.globals[10]?).map (·.type) = some 122 := by kernel_rfl
theorem cellsDeb : Tryd.prog.cellsOf 122 = 64 := by kernel_rfl
theorem cellsU8 : Tryd.prog.cellsOf 5 = 1 := by kernel_rfl
theorem deb_tab {W : World} (h : Lib.VarReads Tryd.prog W "math/bits.deBruijn64tab" (Lib.tabData .u8 deBTab)) : Lib.TabIs Tryd.prog W "math/bits.deBruijn64tab" .u8 deBTab := by
  obtain ⟨g, t, cs, fuel, p, hg, ht, hvar, hd⟩ := h
  obtain rfl := Option.some.inj (gDeb.symm.trans hg)
  obtain rfl := Option.some.inj (tDeb.symm.trans ht)
  unfold Lib.TabIs
  rw [hvar, ← Lib.cells_of_tab Tryd.underlying122 Tryd.underlying5 cellsU8 cellsDeb hd]
theorem deb_of {W : World} (h : Lib.VarReads Tryd.prog W "math/bits.deBruijn64tab" Rows.laid_math_bits_deBruijn64tab) : DeB W := by
  have h' : Lib.VarReads Tryd.prog W "math/bits.deBruijn64tab" (Lib.tabData .u8 deBTab) := h
  have ht := deb_tab h'
  unfold Lib.TabIs at ht
  exact (World.var?_cell gDeb ht 15).trans (show _ = some (Value.int .u8 4) by kernel_rfl)
theorem FactJ.later {ad : Nat → Addr} {w w' : World} (h : FactJ ad w) (hb : Below w.heap.size w w') : FactJ ad w' := by
  obtain ⟨m, hm⟩ := h.mx
  exact ⟨h.txt.later hb, ⟨cellLater hb h.errd.c1, cellLater hb h.errd.c2, cellLater hb h.errd.c7, cellLater hb h.errd.c10⟩, h.deb.later hb, cellLater hb h.et, m, cellLater hb hm⟩
theorem envJ_of {ad : Nat → Addr} {w : World} (h : FactJ ad w) : EnvJ w.heap.size ad w := ⟨Nat.le_refl _, fun _ hb => h.later hb⟩
end Go.Proofs.YtcggmagdndhkbaaDoor
