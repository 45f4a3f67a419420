/- Contract of slices.SortStableFunc at operations, over the translation's bodies. -/
import Derived.Test.YtnfhbmgkiknaaaaDoorSortStable
namespace Go.Proofs.YtnfhbmgkiknaaaaDoor
open Go.Shelf Go.RowKit Go.Lib Go.Sort

def insRen : Ren := ⟨fun | 20 => 124 | n => n, fun | 0 => 0 | 3 => 3 | 4 => 4 | 22 => 71 | 24 => 77 | 25 => 124 | n => n, fun n => n⟩
theorem ins_lays : SlLaysF0.n20 Tryd.prog insRen where
  mixed := by kernel_rfl
  f20 := ⟨ "slices.insertionSortCmpFunc[concordat/api.Op]", by kernel_rfl, Tryd.func124.trans (congrArg some (by kernel_rfl))⟩
  t0 := Tryd.underlying0
  a0 := Tryd.isAgg0
  z0 := Tryd.sizeOf0
  v0 := Tryd.zeroValue0
  t3 := Tryd.underlying3
  a3 := Tryd.isAgg3
  z3 := Tryd.sizeOf3
  v3 := Tryd.zeroValue3
  t4 := Tryd.underlying4
  a4 := Tryd.isAgg4
  z4 := Tryd.sizeOf4
  v4 := Tryd.zeroValue4
  t22 := Tryd.underlying71
  a22 := Tryd.isAgg71
  z22 := Tryd.sizeOf71
  v22 := Tryd.zeroValue71
  t25 := Tryd.underlying124
  a25 := Tryd.isAgg124
  z25 := Tryd.sizeOf124
  v25 := Tryd.zeroValue124

theorem ins_ok {w0 : World} {blk off : Nat} {d0 : Array (OpX × Nat)} (R : RowK encT 8 w0 blk off d0) (cap a b : Nat) (d : Array (OpX × Nat)) (w : World) (hs : d0.size = d.size) (S : SWK encT 8 w0 blk off d w) (hab : a ≤ b) (hb : b ≤ d.size) (hsz : d.size < 4611686018427387904) (ht : ∀ p q, a ≤ p → p < q → q < b → d[p]!.2 < d[q]!.2) :
    InsOk Tryd.prog ltX 8 encT 75 w0 blk off cap a b d w := by
  have I := ins_stable ltX_swo d a b hab hb ht
  rw [← ltOf_cmpX] at I
  unfold InsOk
  refine (AnyQ.insertionSortCmpFunc ins_lays 8 Tryd.isAgg77 Tryd.sizeOf77 encT R.hk R.h1 cmpX 75 #[] blk off cap a b d w eg_cmp (cmp_lays blk off d.size w) (S.holds R.hblk R.hH hs.symm) (S.lt R.hblk) hab hb hsz).mono ?_
  rintro e w' ⟨rfl, n, os, rfl⟩
  exact ⟨rfl, _, I, S.on R.hblk n _ os I.1.1⟩

theorem senv_here {w0 : World} {blk off : Nat} {d0 : Array (OpX × Nat)} (R : RowK encT 8 w0 blk off d0) : SEnv Tryd.prog ltX 8 encT cmpX 75 w0 blk off d0 :=
  ⟨sty_here, Tryd.func167, Tryd.func145, Tryd.func125, R, cmpX_lt, ltX_swo, eg_cmp, cmp_lays blk off d0.size w0⟩

/-- slices.SortStableFunc(s, cmp): the row sorted, the same ones as they stood. -/
theorem sortStable_any (w : World) (blk off cap : Nat) (d : Array (OpX × Nat)) (R : RowK encT 8 w blk off d) (ht : ∀ p, p < d.size → d[p]!.2 = p) (hsz : d.size < 1152921504606846976) :
    Calls Tryd.prog 74 #[.slice (some ⟨blk, off, none⟩) d.size cap, .func (.func 75) #[] #[]] w fun e w' => e = .returned (.tuple #[]) ∧ ∃ d', (PermIn 0 d.size d d' ∧ SortedIn (slt ltX) 0 d.size d') ∧ SWK encT 8 w blk off d' w' := by
  have eS : ∀ args w, (callFunc 102 args).run Tryd.prog w = .ok (.enter 102 args) w := enters_of Tryd.func102 (by kernel_rfl) rfl
  have eI : ∀ args w, (callFunc 124 args).run Tryd.prog w = .ok (.enter 124 args) w := enters_of Tryd.func124 (by kernel_rfl) rfl
  have C := stable_open (senv_here R) cap d w Tryd.func102 eI (ins_ok R cap) rfl (SWK.start R.hH) ht hsz
  have CA : Aside _ := C
  clear C eI ht
  go_enter Tryd.func74, Tryd.ntmps74
  go_wp2_with fail
  refine Calls.mono CA.out ?_
  rintro e w' ⟨rfl, d', hd, S⟩
  have S2 : Aside (SWK encT 8 w blk off d' w') := S
  have H2 : Aside (PermIn 0 d.size d d' ∧ SortedIn (slt ltX) 0 d.size d') := hd
  clear S hd CA
  go_wp2
  go_end0
  exact ⟨rfl, d', H2.out, S2.out⟩
end Go.Proofs.YtnfhbmgkiknaaaaDoor
