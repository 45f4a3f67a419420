import Derived.Test.YtpdbnnimdkfajaaGreatDoorVS33
set_option linter.unusedSimpArgs false
set_option linter.unusedVariables false
set_option maxRecDepth 100000
set_option maxHeartbeats 64000000
namespace Go.Proofs.YtpdbnnimdkfajaaGreatDoor
section
open Go.RowKit Go.Lib Go.Sort Go.Maps
theorem heap_al (w:World) (o:Obj):(w.alloc o).heap=w.heap.push o:=rfl
theorem heap_dr (w:World):w.drew.heap=w.heap:=rfl
theorem rnew_ok (w:World) (b:Int) (h0:0<=b) (h4:b<4):
  Calls Tryz.prog 7 #[.int .i64 b] w (NewOut w b):=by
 have hmm:= @run_makeMap Tryz.prog
 have hc:=new_ok b w h0 h4
 go_enter Tryz.func7,Tryz.ntmps7
 go_wp2_with fail
 refine hc.mono ?_
 clear hc
 rintro e w1 ⟨rfl,rfl⟩
 go_upto_region 4 with fail
 go_region_with (first | (go_at_call 46;refine (treeNew _).mono ?_;rintro e w' ⟨rfl,rfl⟩) | (go_at_call 47;refine (cellsNew _).mono ?_;rintro e w' ⟨rfl,rfl⟩))
 all_goals (go_wp2;go_ret2)
 all_goals (first
  | (refine new_close h0 h4 (w.heap.size+1+1) (w.heap.size+1) (w.heap.size+1+1+1+1+1) (w.heap.size+1+1+1+1) (w.heap.size+1+1+1) (w.heap.size+1+1+1+1+1+1) ?_ zi zi zi zi zi zi zi zi zi zi zi ?_ ?_ ?_ ?_ ?_ ?_;all_goals (first | (simp only [heap_al,heap_dr,Array.getElem?_push,Array.size_push];(try (repeat first | rw [if_pos trivial] | rw [if_neg zi] | rfl));done) | ((repeat first | exact jo _ _ | refine Below.drew ?_ | refine Below.alloc ?_ yB _);done)))
  | (refine new_close h0 h4 (w.heap.size+1+1) (w.heap.size+1) (w.heap.size+1+1+1) (w.heap.size+1+1+1+1+1) (w.heap.size+1+1+1+1) (w.heap.size+1+1+1+1+1+1) ?_ zi zi zi zi zi zi zi zi zi zi zi ?_ ?_ ?_ ?_ ?_ ?_;all_goals (first | (simp only [heap_al,heap_dr,Array.getElem?_push,Array.size_push];(try (repeat first | rw [if_pos trivial] | rw [if_neg zi] | rfl));done) | ((repeat first | exact jo _ _ | refine Below.drew ?_ | refine Below.alloc ?_ yB _);done)))
  | (refine new_close h0 h4 (w.heap.size+1+1+1) (w.heap.size+1+1) (w.heap.size+1) (w.heap.size+1+1+1+1+1) (w.heap.size+1+1+1+1) (w.heap.size+1+1+1+1+1+1) ?_ zi zi zi zi zi zi zi zi zi zi zi ?_ ?_ ?_ ?_ ?_ ?_;all_goals (first | (simp only [heap_al,heap_dr,Array.getElem?_push,Array.size_push];(try (repeat first | rw [if_pos trivial] | rw [if_neg zi] | rfl));done) | ((repeat first | exact jo _ _ | refine Below.drew ?_ | refine Below.alloc ?_ yB _);done))))
