import Derived.Test.YtpdbnnimdkfajaaGreatDoorVS01
import Derived.Test.YtpdbnnimdkfajaaGreatDoorVS02
import Derived.Test.YtpdbnnimdkfajaaGreatDoorVS03
set_option linter.unusedSimpArgs false
set_option linter.unusedVariables false
set_option maxHeartbeats 64000000
section
namespace Go.Proofs.YtpdbnnimdkfajaaGreatDoor
open Go.Proofs.Tryz
open Go.RowKit
variable {s:ByteArray} {ad:Nat→Addr} {w w':World}
theorem name_is (s:ByteArray) (b:Bool) (w:World) (hs:s.size<=1000000) (h:nameOk s.data.toList=b):
  Calls prog 221 #[.string s] w fun e w'=>e= .returned (.bool b)/\w'=w:=by rw [<-h];exact name_any s w hs
theorem seen_is (s:ByteArray) (b:Bool) (w:World) (hs:s.size<=1000000) (h:seenOk s.data.toList=b):
  Calls prog 222 #[.string s] w fun e w'=>e= .returned (.bool b)/\w'=w:=by rw [<-h];exact seen_any s w hs
theorem empty_yes (h:s.data.toList= []):s.toList.isEmpty=true:=by rw [jV,h];rfl
theorem empty_no (h:s.data.toList≠ []):s.toList.isEmpty=false:=by
 rw [jV]
 cases hd:s.data.toList with
 | nil=>exact absurd hd h
 | cons a r=>rfl
theorem listLen (s:ByteArray):s.data.toList.length=s.size:=zm
def eV (ad:Nat->Addr) (c:Nat):Value:=if c=0 then .nilIface else .iface 399 (.pointer (some (ad (c - 1))))
structure Op4 (ad:Nat->Addr) (w:World):Prop where
 c1:w.cell? ⟨2,0,none⟩=some (.iface 399 (.pointer (some (ad 1))))
 c2:w.cell? ⟨4,0,none⟩=some (.iface 399 (.pointer (some (ad 2))))
 c3:w.cell? ⟨5,0,none⟩=some (.iface 399 (.pointer (some (ad 3))))
 c4:w.cell? ⟨6,0,none⟩=some (.iface 399 (.pointer (some (ad 4))))
theorem cellLater {b o:Nat} {v:Value} (hb:Below w.heap.size w w') (h:w.cell? ⟨b,o,none⟩=some v):w'.cell? ⟨b,o,none⟩=some v:=by
 rw [hb.cell (p:=⟨b,o,none⟩) (jl w ⟨b,o,none⟩ h)];exact h
theorem Op4.later (h:Op4 ad w) (hb:Below w.heap.size w w'):Op4 ad w':=
 ⟨cellLater hb h.c1,cellLater hb h.c2,cellLater hb h.c3,cellLater hb h.c4⟩
structure OpAt (w:World) (a:Nat) (t b n:Int) (k:Nat) (node other:Int) (name value:ByteArray):Prop where
 c0:w.cell? ⟨a,0,none⟩=some (.int .i64 t)
 c1:w.cell? ⟨a,1,none⟩=some (.int .i64 b)
 c2:w.cell? ⟨a,2,none⟩=some (.int .i64 n)
 c3:w.cell? ⟨a,3,none⟩=some (.int .u8 (k:Int))
 c4:w.cell? ⟨a,4,none⟩=some (.int .i64 node)
 c5:w.cell? ⟨a,5,none⟩=some (.int .i64 other)
 c6:w.cell? ⟨a,6,none⟩=some (.string name)
 c7:w.cell? ⟨a,7,none⟩=some (.string value)
theorem OpAt.later {a:Nat} {t b n:Int} {k:Nat} {node other:Int} {name value:ByteArray} (h:OpAt w a t b n k node other name value) (hb:Below w.heap.size w w'):OpAt w' a t b n k node other name value:=
 ⟨cellLater hb h.c0,cellLater hb h.c1,cellLater hb h.c2,cellLater hb h.c3,cellLater hb h.c4,cellLater hb h.c5,cellLater hb h.c6,cellLater hb h.c7⟩
theorem OpAt.new (w:World) (t b n:Int) (k:Nat) (node other:Int) (name value:ByteArray) (T:TypeId):OpAt (w.alloc (.cells #[.int .i64 t,.int .i64 b,.int .i64 n,.int .u8 (k:Int),.int .i64 node,.int .i64 other,.string name,.string value] T)) w.heap.size t b n k node other name value:=by
 constructor<;>simp [go_sem]
theorem move_any (id:Int) (t b n:Int) (k:Nat) (node other:Int) (name value:ByteArray) (w:World) (hE:Op4 ad w) (hid:4<=id) (hsn:name.size<=1000000) (_hsv:value.size<=1000000):
  Calls prog 177 #[.agg #[.int .i64 t,.int .i64 b,.int .i64 n,.int .u8 (k:Int),.int .i64 node,.int .i64 other,.string name,.string value],.int .i64 id] w fun e w'=>e= .returned (eV ad (moveE id node other name.data.toList value.data.toList))/\Below w.heap.size w w':=by
 have g2:=fun o=>(hE.later ((jo _ _).alloc ze o)).c2
 have g3:=fun o=>(hE.later ((jo _ _).alloc ze o)).c3
 have hz2:4<w.heap.size:=jl w ⟨4,0,none⟩ hE.c2
 have hz3:5<w.heap.size:=jl w ⟨5,0,none⟩ hE.c3
 have hln:=listLen name
 have hlv:=listLen value
 clear hE
 by_cases hsh:node<2\/id<node\/other<0\/id<=other
 ·rcases (by omega:node=0\/node=1\/node<0\/id<node\/(2<=node/\node<id)\/node=id) with h | h | h | h | ⟨h,h'⟩ | h
  ·have hcode:moveE id node other name.data.toList value.data.toList=3:=by unfold moveE;rw [if_pos zi]
   rw [hcode]
   have q0:(node==0)=true:=zk
   clear hsh
   clear hcode hln hlv
   go_enter func177,ntmps177
   go_wp2_with (first
  | (go_at_call 220;first | (refine (earl_yes _ _ _ zi zi).mono ?_;rintro e w' ⟨rfl,rfl⟩) | (refine (earl_no _ _ _ zi).mono ?_;rintro e w' ⟨rfl,rfl⟩))
  | (go_at_call 221;refine (name_is _ _ _ zl zl).mono ?_;rintro e w' ⟨rfl,rfl⟩)
  | (go_at_call 222;refine (seen_is _ _ _ zl zl).mono ?_;rintro e w' ⟨rfl,rfl⟩))
   go_ret
   exact ⟨rfl,zg _ _⟩
  ·have hcode:moveE id node other name.data.toList value.data.toList=3:=by unfold moveE;rw [if_pos zi]
   rw [hcode]
   have q0:(node==0)=false:=zk
   have q1:(node==1)=true:=zk
   clear hsh
   clear hcode hln hlv
   go_enter func177,ntmps177
   go_wp2_with (first
  | (go_at_call 220;first | (refine (earl_yes _ _ _ zi zi).mono ?_;rintro e w' ⟨rfl,rfl⟩) | (refine (earl_no _ _ _ zi).mono ?_;rintro e w' ⟨rfl,rfl⟩))
  | (go_at_call 221;refine (name_is _ _ _ zl zl).mono ?_;rintro e w' ⟨rfl,rfl⟩)
  | (go_at_call 222;refine (seen_is _ _ _ zl zl).mono ?_;rintro e w' ⟨rfl,rfl⟩))
   go_ret
   exact ⟨rfl,zg _ _⟩
  ·have hcode:moveE id node other name.data.toList value.data.toList=3:=by unfold moveE;rw [if_pos zi]
   rw [hcode]
   have q0:(node==0)=false:=zk
   have q1:(node==1)=false:=zk
   have q2:(node !=id)=true:=zk
   clear hsh
   clear hcode hln hlv
   go_enter func177,ntmps177
   go_wp2_with (first
  | (go_at_call 220;first | (refine (earl_yes _ _ _ zi zi).mono ?_;rintro e w' ⟨rfl,rfl⟩) | (refine (earl_no _ _ _ zi).mono ?_;rintro e w' ⟨rfl,rfl⟩))
  | (go_at_call 221;refine (name_is _ _ _ zl zl).mono ?_;rintro e w' ⟨rfl,rfl⟩)
  | (go_at_call 222;refine (seen_is _ _ _ zl zl).mono ?_;rintro e w' ⟨rfl,rfl⟩))
   go_ret
   exact ⟨rfl,zg _ _⟩
  ·have hcode:moveE id node other name.data.toList value.data.toList=3:=by unfold moveE;rw [if_pos zi]
   rw [hcode]
   have q0:(node==0)=false:=zk
   have q1:(node==1)=false:=zk
   have q2:(node !=id)=true:=zk
   clear hsh
   clear hcode hln hlv
   go_enter func177,ntmps177
   go_wp2_with (first
  | (go_at_call 220;first | (refine (earl_yes _ _ _ zi zi).mono ?_;rintro e w' ⟨rfl,rfl⟩) | (refine (earl_no _ _ _ zi).mono ?_;rintro e w' ⟨rfl,rfl⟩))
  | (go_at_call 221;refine (name_is _ _ _ zl zl).mono ?_;rintro e w' ⟨rfl,rfl⟩)
  | (go_at_call 222;refine (seen_is _ _ _ zl zl).mono ?_;rintro e w' ⟨rfl,rfl⟩))
   go_ret
   exact ⟨rfl,zg _ _⟩
  ·have hcode:moveE id node other name.data.toList value.data.toList=3:=by unfold moveE;rw [if_pos zi]
   rw [hcode]
   have q0:(node==0)=false:=zk
   have q1:(node==1)=false:=zk
   have h3:other<0\/id<=other:=zi
   clear hsh
   clear hcode hln hlv
   go_enter func177,ntmps177
   go_wp2_with (first
  | (go_at_call 220;first | (refine (earl_yes _ _ _ zi zi).mono ?_;rintro e w' ⟨rfl,rfl⟩) | (refine (earl_no _ _ _ zi).mono ?_;rintro e w' ⟨rfl,rfl⟩))
  | (go_at_call 221;refine (name_is _ _ _ zl zl).mono ?_;rintro e w' ⟨rfl,rfl⟩)
  | (go_at_call 222;refine (seen_is _ _ _ zl zl).mono ?_;rintro e w' ⟨rfl,rfl⟩))
   go_ret
   exact ⟨rfl,zg _ _⟩
  have hcode:moveE id node other name.data.toList value.data.toList=3:=by unfold moveE;rw [if_pos zi]
  rw [hcode]
  have q0:(node==0)=false:=zk
  have q1:(node==1)=false:=zk
  have q2:(node !=id)=false:=zk
  have h3:other<0\/id<=other:=zi
  clear hsh
  clear hcode hln hlv
  go_enter func177,ntmps177
  go_wp2_with (first
 | (go_at_call 220;first | (refine (earl_yes _ _ _ zi zi).mono ?_;rintro e w' ⟨rfl,rfl⟩) | (refine (earl_no _ _ _ zi).mono ?_;rintro e w' ⟨rfl,rfl⟩))
 | (go_at_call 221;refine (name_is _ _ _ zl zl).mono ?_;rintro e w' ⟨rfl,rfl⟩)
 | (go_at_call 222;refine (seen_is _ _ _ zl zl).mono ?_;rintro e w' ⟨rfl,rfl⟩))
  go_ret
  exact ⟨rfl,zg _ _⟩
 have o1:0<=other:=zi
 have o2:other<id:=zi
 rcases (by omega:(2<=node/\node<id)\/node=id) with ⟨h,h'⟩ | h
 ·cases hn:nameOk name.data.toList with
  | false=>
   have hcode:moveE id node other name.data.toList value.data.toList=4:=by unfold moveE;rw [if_neg hsh,if_pos hn]
   rw [hcode]
   have q0:(node==0)=false:=zk
   have q1:(node==1)=false:=zk
   clear hsh
   clear hcode hln hlv
   go_enter func177,ntmps177
   go_wp2_with (first
 | (go_at_call 220;first | (refine (earl_yes _ _ _ zi zi).mono ?_;rintro e w' ⟨rfl,rfl⟩) | (refine (earl_no _ _ _ zi).mono ?_;rintro e w' ⟨rfl,rfl⟩))
 | (go_at_call 221;refine (name_is _ _ _ zl zl).mono ?_;rintro e w' ⟨rfl,rfl⟩)
 | (go_at_call 222;refine (seen_is _ _ _ zl zl).mono ?_;rintro e w' ⟨rfl,rfl⟩))
   go_ret
   exact ⟨rfl,zg _ _⟩
  | true=>
   by_cases hv:value.data.toList= []
   ·have hcode:moveE id node other name.data.toList value.data.toList=0:=by unfold moveE;rw [if_neg hsh,if_neg yb,if_neg xF]
    rw [hcode]
    have q0:(node==0)=false:=zk
    have q1:(node==1)=false:=zk
    have e1:=empty_yes hv
    clear hsh hv
    clear hcode hln hlv
    go_enter func177,ntmps177
    go_wp2_with (first
 | (go_at_call 220;first | (refine (earl_yes _ _ _ zi zi).mono ?_;rintro e w' ⟨rfl,rfl⟩) | (refine (earl_no _ _ _ zi).mono ?_;rintro e w' ⟨rfl,rfl⟩))
 | (go_at_call 221;refine (name_is _ _ _ zl zl).mono ?_;rintro e w' ⟨rfl,rfl⟩)
 | (go_at_call 222;refine (seen_is _ _ _ zl zl).mono ?_;rintro e w' ⟨rfl,rfl⟩))
    go_ret
    exact ⟨rfl,zg _ _⟩
   have hcode:moveE id node other name.data.toList value.data.toList=3:=qK
   rw [hcode]
   have q0:(node==0)=false:=zk
   have q1:(node==1)=false:=zk
   have e1:=empty_no hv
   clear hsh hv
   clear hcode hln hlv
   go_enter func177,ntmps177
   go_wp2_with (first
| (go_at_call 220;first | (refine (earl_yes _ _ _ zi zi).mono ?_;rintro e w' ⟨rfl,rfl⟩) | (refine (earl_no _ _ _ zi).mono ?_;rintro e w' ⟨rfl,rfl⟩))
| (go_at_call 221;refine (name_is _ _ _ zl zl).mono ?_;rintro e w' ⟨rfl,rfl⟩)
| (go_at_call 222;refine (seen_is _ _ _ zl zl).mono ?_;rintro e w' ⟨rfl,rfl⟩))
   go_ret
   exact ⟨rfl,zg _ _⟩
 cases hn:nameOk name.data.toList with
 | false=>
  have hcode:moveE id node other name.data.toList value.data.toList=4:=by unfold moveE;rw [if_neg hsh,if_pos hn]
  rw [hcode]
  have q0:(node==0)=false:=zk
  have q1:(node==1)=false:=zk
  have q2:(node !=id)=false:=zk
  clear hsh
  clear hcode hln hlv
  go_enter func177,ntmps177
  go_wp2_with (first
| (go_at_call 220;first | (refine (earl_yes _ _ _ zi zi).mono ?_;rintro e w' ⟨rfl,rfl⟩) | (refine (earl_no _ _ _ zi).mono ?_;rintro e w' ⟨rfl,rfl⟩))
| (go_at_call 221;refine (name_is _ _ _ zl zl).mono ?_;rintro e w' ⟨rfl,rfl⟩)
| (go_at_call 222;refine (seen_is _ _ _ zl zl).mono ?_;rintro e w' ⟨rfl,rfl⟩))
  go_ret
  exact ⟨rfl,zg _ _⟩
 | true=>
  by_cases hv:value.data.toList= []
  ·have hcode:moveE id node other name.data.toList value.data.toList=0:=by unfold moveE;rw [if_neg hsh,if_neg yb,if_neg xF]
   rw [hcode]
   have q0:(node==0)=false:=zk
   have q1:(node==1)=false:=zk
   have q2:(node !=id)=false:=zk
   have e1:=empty_yes hv
   clear hsh hv
   clear hcode hln hlv
   go_enter func177,ntmps177
   go_wp2_with (first
| (go_at_call 220;first | (refine (earl_yes _ _ _ zi zi).mono ?_;rintro e w' ⟨rfl,rfl⟩) | (refine (earl_no _ _ _ zi).mono ?_;rintro e w' ⟨rfl,rfl⟩))
| (go_at_call 221;refine (name_is _ _ _ zl zl).mono ?_;rintro e w' ⟨rfl,rfl⟩)
| (go_at_call 222;refine (seen_is _ _ _ zl zl).mono ?_;rintro e w' ⟨rfl,rfl⟩))
   go_ret
   exact ⟨rfl,zg _ _⟩
  have hcode:moveE id node other name.data.toList value.data.toList=3:=qK
  rw [hcode]
  have q0:(node==0)=false:=zk
  have q1:(node==1)=false:=zk
  have q2:(node !=id)=false:=zk
  have e1:=empty_no hv
  clear hsh hv
  clear hcode hln hlv
  go_enter func177,ntmps177
  go_wp2_with (first
| (go_at_call 220;first | (refine (earl_yes _ _ _ zi zi).mono ?_;rintro e w' ⟨rfl,rfl⟩) | (refine (earl_no _ _ _ zi).mono ?_;rintro e w' ⟨rfl,rfl⟩))
| (go_at_call 221;refine (name_is _ _ _ zl zl).mono ?_;rintro e w' ⟨rfl,rfl⟩)
| (go_at_call 222;refine (seen_is _ _ _ zl zl).mono ?_;rintro e w' ⟨rfl,rfl⟩))
  go_ret
  exact ⟨rfl,zg _ _⟩
theorem insert_any (id:Int) (t b n:Int) (k:Nat) (node other:Int) (name value:ByteArray) (w:World) (hE:Op4 ad w) (_hid:4<=id) (_hsn:name.size<=1000000) (hsv:value.size<=1000000):
  Calls prog 178 #[.agg #[.int .i64 t,.int .i64 b,.int .i64 n,.int .u8 (k:Int),.int .i64 node,.int .i64 other,.string name,.string value],.int .i64 id] w fun e w'=>e= .returned (eV ad (insE id node other name.data.toList value.data.toList))/\Below w.heap.size w w':=by
 have g2:=fun o=>(hE.later ((jo _ _).alloc ze o)).c2
 have g3:=fun o=>(hE.later ((jo _ _).alloc ze o)).c3
 have hz2:4<w.heap.size:=jl w ⟨4,0,none⟩ hE.c2
 have hz3:5<w.heap.size:=jl w ⟨5,0,none⟩ hE.c3
 have hln:=listLen name
 have hlv:=listLen value
 clear hE
 by_cases hsh:node<0\/id<=node\/other<0\/id<=other
 ·rcases (by omega:(node<0\/id<=node)\/((0<=node/\node<id)/\(other<0\/id<=other))) with h | ⟨⟨h,h'⟩,h3⟩
  ·have hcode:insE id node other name.data.toList value.data.toList=3:=by unfold insE;rw [if_pos zi]
   rw [hcode]
   clear hsh
   clear hcode hln hlv
   go_enter func178,ntmps178
   go_wp2_with (first
  | (go_at_call 220;first | (refine (earl_yes _ _ _ zi zi).mono ?_;rintro e w' ⟨rfl,rfl⟩) | (refine (earl_no _ _ _ zi).mono ?_;rintro e w' ⟨rfl,rfl⟩))
  | (go_at_call 221;refine (name_is _ _ _ zl zl).mono ?_;rintro e w' ⟨rfl,rfl⟩)
  | (go_at_call 222;refine (seen_is _ _ _ zl zl).mono ?_;rintro e w' ⟨rfl,rfl⟩))
   go_ret
   exact ⟨rfl,zg _ _⟩
  have hcode:insE id node other name.data.toList value.data.toList=3:=by unfold insE;rw [if_pos zi]
  rw [hcode]
  clear hsh
  clear hcode hln hlv
  go_enter func178,ntmps178
  go_wp2_with (first
 | (go_at_call 220;first | (refine (earl_yes _ _ _ zi zi).mono ?_;rintro e w' ⟨rfl,rfl⟩) | (refine (earl_no _ _ _ zi).mono ?_;rintro e w' ⟨rfl,rfl⟩))
 | (go_at_call 221;refine (name_is _ _ _ zl zl).mono ?_;rintro e w' ⟨rfl,rfl⟩)
 | (go_at_call 222;refine (seen_is _ _ _ zl zl).mono ?_;rintro e w' ⟨rfl,rfl⟩))
  go_ret
  exact ⟨rfl,zg _ _⟩
 obtain ⟨h1,h2,h3,h4⟩:0<=node/\node<id/\0<=other/\other<id:=zi
 by_cases hn:name.data.toList= []
 ·have e1:=empty_yes hn
  by_cases hv:value.size=1
  ·have e2:((value.size:Int) !=1)=false:=by simp;omega
   cases hp:seenOk value.data.toList with
   | false=>
    have hcode:insE id node other name.data.toList value.data.toList=3:=by unfold insE;rw [if_neg hsh,if_neg yb,if_pos (.inr hp)]
    rw [hcode]
    clear hsh hn hv
    clear hcode hln hlv
    go_enter func178,ntmps178
    go_wp2_with (first
 | (go_at_call 220;first | (refine (earl_yes _ _ _ zi zi).mono ?_;rintro e w' ⟨rfl,rfl⟩) | (refine (earl_no _ _ _ zi).mono ?_;rintro e w' ⟨rfl,rfl⟩))
 | (go_at_call 221;refine (name_is _ _ _ zl zl).mono ?_;rintro e w' ⟨rfl,rfl⟩)
 | (go_at_call 222;refine (seen_is _ _ _ zl zl).mono ?_;rintro e w' ⟨rfl,rfl⟩))
    go_ret
    exact ⟨rfl,zg _ _⟩
   | true=>
    have hcode:insE id node other name.data.toList value.data.toList=0:=by unfold insE;rw [if_neg hsh,if_neg yb,if_neg (by rw [hp,hlv];simp;omega)]
    rw [hcode]
    clear hsh hn hv
    clear hcode hln hlv
    go_enter func178,ntmps178
    go_wp2_with (first
 | (go_at_call 220;first | (refine (earl_yes _ _ _ zi zi).mono ?_;rintro e w' ⟨rfl,rfl⟩) | (refine (earl_no _ _ _ zi).mono ?_;rintro e w' ⟨rfl,rfl⟩))
 | (go_at_call 221;refine (name_is _ _ _ zl zl).mono ?_;rintro e w' ⟨rfl,rfl⟩)
 | (go_at_call 222;refine (seen_is _ _ _ zl zl).mono ?_;rintro e w' ⟨rfl,rfl⟩))
    go_ret
    exact ⟨rfl,zg _ _⟩
  have e2:((value.size:Int) !=1)=true:=zk
  have hcode:insE id node other name.data.toList value.data.toList=3:=by unfold insE;rw [if_neg hsh,if_neg yb,if_pos (.inl zi)]
  rw [hcode]
  clear hsh hn hv
  clear hcode hln hlv
  go_enter func178,ntmps178
  go_wp2_with (first
| (go_at_call 220;first | (refine (earl_yes _ _ _ zi zi).mono ?_;rintro e w' ⟨rfl,rfl⟩) | (refine (earl_no _ _ _ zi).mono ?_;rintro e w' ⟨rfl,rfl⟩))
| (go_at_call 221;refine (name_is _ _ _ zl zl).mono ?_;rintro e w' ⟨rfl,rfl⟩)
| (go_at_call 222;refine (seen_is _ _ _ zl zl).mono ?_;rintro e w' ⟨rfl,rfl⟩))
  go_ret
  exact ⟨rfl,zg _ _⟩
 have e1:=empty_no hn
 have hcode:insE id node other name.data.toList value.data.toList=4:=by unfold insE;rw [if_neg hsh,if_pos hn]
 rw [hcode]
 clear hsh hn
 clear hcode hln hlv
 go_enter func178,ntmps178
 go_wp2_with (first
| (go_at_call 220;first | (refine (earl_yes _ _ _ zi zi).mono ?_;rintro e w' ⟨rfl,rfl⟩) | (refine (earl_no _ _ _ zi).mono ?_;rintro e w' ⟨rfl,rfl⟩))
| (go_at_call 221;refine (name_is _ _ _ zl zl).mono ?_;rintro e w' ⟨rfl,rfl⟩)
| (go_at_call 222;refine (seen_is _ _ _ zl zl).mono ?_;rintro e w' ⟨rfl,rfl⟩))
 go_ret
 exact ⟨rfl,zg _ _⟩
theorem delete_any (id:Int) (t b n:Int) (k:Nat) (node other:Int) (name value:ByteArray) (w:World) (hE:Op4 ad w) (hid:4<=id) (_hsn:name.size<=1000000) (_hsv:value.size<=1000000):
  Calls prog 179 #[.agg #[.int .i64 t,.int .i64 b,.int .i64 n,.int .u8 (k:Int),.int .i64 node,.int .i64 other,.string name,.string value],.int .i64 id] w fun e w'=>e= .returned (eV ad (delE id node other name.data.toList value.data.toList))/\Below w.heap.size w w':=by
 have g2:=fun o=>(hE.later ((jo _ _).alloc ze o)).c2
 have g3:=fun o=>(hE.later ((jo _ _).alloc ze o)).c3
 have hz2:4<w.heap.size:=jl w ⟨4,0,none⟩ hE.c2
 have hz3:5<w.heap.size:=jl w ⟨5,0,none⟩ hE.c3
 have hln:=listLen name
 have hlv:=listLen value
 clear hE
 by_cases hsh:node<0\/id<=node\/other<0\/id<=other\/other=0
 ·rcases (by omega:(node<0\/id<=node)\/((0<=node/\node<id)/\(other<0\/id<=other))\/(0<=node/\node<id/\other=0)) with h | ⟨⟨h,h'⟩,h3⟩ | ⟨h,h',h3⟩
  ·have hcode:delE id node other name.data.toList value.data.toList=3:=by unfold delE;rw [if_pos zi]
   rw [hcode]
   clear hsh
   clear hcode hln hlv
   go_enter func179,ntmps179
   go_wp2_with (first
  | (go_at_call 220;first | (refine (earl_yes _ _ _ zi zi).mono ?_;rintro e w' ⟨rfl,rfl⟩) | (refine (earl_no _ _ _ zi).mono ?_;rintro e w' ⟨rfl,rfl⟩))
  | (go_at_call 221;refine (name_is _ _ _ zl zl).mono ?_;rintro e w' ⟨rfl,rfl⟩)
  | (go_at_call 222;refine (seen_is _ _ _ zl zl).mono ?_;rintro e w' ⟨rfl,rfl⟩))
   go_ret
   exact ⟨rfl,zg _ _⟩
  ·have hcode:delE id node other name.data.toList value.data.toList=3:=by unfold delE;rw [if_pos zi]
   rw [hcode]
   clear hsh
   clear hcode hln hlv
   go_enter func179,ntmps179
   go_wp2_with (first
  | (go_at_call 220;first | (refine (earl_yes _ _ _ zi zi).mono ?_;rintro e w' ⟨rfl,rfl⟩) | (refine (earl_no _ _ _ zi).mono ?_;rintro e w' ⟨rfl,rfl⟩))
  | (go_at_call 221;refine (name_is _ _ _ zl zl).mono ?_;rintro e w' ⟨rfl,rfl⟩)
  | (go_at_call 222;refine (seen_is _ _ _ zl zl).mono ?_;rintro e w' ⟨rfl,rfl⟩))
   go_ret
   exact ⟨rfl,zg _ _⟩
  have hcode:delE id node other name.data.toList value.data.toList=3:=by unfold delE;rw [if_pos zi]
  rw [hcode]
  have q0:(other==0)=true:=zk
  clear hsh
  clear hcode hln hlv
  go_enter func179,ntmps179
  go_wp2_with (first
 | (go_at_call 220;first | (refine (earl_yes _ _ _ zi zi).mono ?_;rintro e w' ⟨rfl,rfl⟩) | (refine (earl_no _ _ _ zi).mono ?_;rintro e w' ⟨rfl,rfl⟩))
 | (go_at_call 221;refine (name_is _ _ _ zl zl).mono ?_;rintro e w' ⟨rfl,rfl⟩)
 | (go_at_call 222;refine (seen_is _ _ _ zl zl).mono ?_;rintro e w' ⟨rfl,rfl⟩))
  go_ret
  exact ⟨rfl,zg _ _⟩
 obtain ⟨h1,h2,h3,h4,h5⟩:0<=node/\node<id/\0<=other/\other<id/\other≠0:=zi
 have q0:(other==0)=false:=zk
 by_cases hn:name.data.toList= []
 ·have e1:=empty_yes hn
  by_cases hv:value.data.toList= []
  ·have e2:=empty_yes hv
   have hcode:delE id node other name.data.toList value.data.toList=0:=by unfold delE;rw [if_neg hsh,if_neg yb,if_neg xF]
   rw [hcode]
   clear hsh hn hv
   clear hcode hln hlv
   go_enter func179,ntmps179
   go_wp2_with (first
 | (go_at_call 220;first | (refine (earl_yes _ _ _ zi zi).mono ?_;rintro e w' ⟨rfl,rfl⟩) | (refine (earl_no _ _ _ zi).mono ?_;rintro e w' ⟨rfl,rfl⟩))
 | (go_at_call 221;refine (name_is _ _ _ zl zl).mono ?_;rintro e w' ⟨rfl,rfl⟩)
 | (go_at_call 222;refine (seen_is _ _ _ zl zl).mono ?_;rintro e w' ⟨rfl,rfl⟩))
   go_ret
   exact ⟨rfl,zg _ _⟩
  have e2:=empty_no hv
  have hcode:delE id node other name.data.toList value.data.toList=3:=by unfold delE;rw [if_neg hsh,if_neg yb,if_pos hv]
  rw [hcode]
  clear hsh hn hv
  clear hcode hln hlv
  go_enter func179,ntmps179
  go_wp2_with (first
| (go_at_call 220;first | (refine (earl_yes _ _ _ zi zi).mono ?_;rintro e w' ⟨rfl,rfl⟩) | (refine (earl_no _ _ _ zi).mono ?_;rintro e w' ⟨rfl,rfl⟩))
| (go_at_call 221;refine (name_is _ _ _ zl zl).mono ?_;rintro e w' ⟨rfl,rfl⟩)
| (go_at_call 222;refine (seen_is _ _ _ zl zl).mono ?_;rintro e w' ⟨rfl,rfl⟩))
  go_ret
  exact ⟨rfl,zg _ _⟩
 have e1:=empty_no hn
 have hcode:delE id node other name.data.toList value.data.toList=4:=by unfold delE;rw [if_neg hsh,if_pos hn]
 rw [hcode]
 clear hsh hn
 clear hcode hln hlv
 go_enter func179,ntmps179
 go_wp2_with (first
| (go_at_call 220;first | (refine (earl_yes _ _ _ zi zi).mono ?_;rintro e w' ⟨rfl,rfl⟩) | (refine (earl_no _ _ _ zi).mono ?_;rintro e w' ⟨rfl,rfl⟩))
| (go_at_call 221;refine (name_is _ _ _ zl zl).mono ?_;rintro e w' ⟨rfl,rfl⟩)
| (go_at_call 222;refine (seen_is _ _ _ zl zl).mono ?_;rintro e w' ⟨rfl,rfl⟩))
 go_ret
 exact ⟨rfl,zg _ _⟩
theorem set_any (id:Int) (t b n:Int) (k:Nat) (node other:Int) (name value:ByteArray) (w:World) (hE:Op4 ad w) (_hid:4<=id) (hsn:name.size<=1000000) (hsv:value.size<=1000000):
  Calls prog 180 #[.agg #[.int .i64 t,.int .i64 b,.int .i64 n,.int .u8 (k:Int),.int .i64 node,.int .i64 other,.string name,.string value],.int .i64 id] w fun e w'=>e= .returned (eV ad (setE id node other name.data.toList value.data.toList))/\Below w.heap.size w w':=by
 have g2:=fun o=>(hE.later ((jo _ _).alloc ze o)).c2
 have g3:=fun o=>(hE.later ((jo _ _).alloc ze o)).c3
 have hz2:4<w.heap.size:=jl w ⟨4,0,none⟩ hE.c2
 have hz3:5<w.heap.size:=jl w ⟨5,0,none⟩ hE.c3
 have hln:=listLen name
 have hlv:=listLen value
 clear hE
 by_cases hsh:node<0\/id<=node\/other≠0
 ·rcases (by omega:(node<0\/id<=node)\/(0<=node/\node<id/\other≠0)) with h | ⟨h,h',h3⟩
  ·have hcode:setE id node other name.data.toList value.data.toList=3:=by unfold setE;rw [if_pos zi]
   rw [hcode]
   clear hsh
   clear hcode hln hlv
   go_enter func180,ntmps180
   go_wp2_with (first
  | (go_at_call 220;first | (refine (earl_yes _ _ _ zi zi).mono ?_;rintro e w' ⟨rfl,rfl⟩) | (refine (earl_no _ _ _ zi).mono ?_;rintro e w' ⟨rfl,rfl⟩))
  | (go_at_call 221;refine (name_is _ _ _ zl zl).mono ?_;rintro e w' ⟨rfl,rfl⟩)
  | (go_at_call 222;refine (seen_is _ _ _ zl zl).mono ?_;rintro e w' ⟨rfl,rfl⟩))
   go_ret
   exact ⟨rfl,zg _ _⟩
  have hcode:setE id node other name.data.toList value.data.toList=3:=by unfold setE;rw [if_pos zi]
  rw [hcode]
  have q0:(other !=0)=true:=zk
  clear hsh
  clear hcode hln hlv
  go_enter func180,ntmps180
  go_wp2_with (first
 | (go_at_call 220;first | (refine (earl_yes _ _ _ zi zi).mono ?_;rintro e w' ⟨rfl,rfl⟩) | (refine (earl_no _ _ _ zi).mono ?_;rintro e w' ⟨rfl,rfl⟩))
 | (go_at_call 221;refine (name_is _ _ _ zl zl).mono ?_;rintro e w' ⟨rfl,rfl⟩)
 | (go_at_call 222;refine (seen_is _ _ _ zl zl).mono ?_;rintro e w' ⟨rfl,rfl⟩))
  go_ret
  exact ⟨rfl,zg _ _⟩
 obtain ⟨h1,h2,h3⟩:0<=node/\node<id/\other=0:=zi
 have q0:(other !=0)=false:=zk
 cases hn:nameOk name.data.toList with
 | false=>
  have hcode:setE id node other name.data.toList value.data.toList=4:=by unfold setE;rw [if_neg hsh,if_pos hn]
  rw [hcode]
  clear hsh
  clear hcode hln hlv
  go_enter func180,ntmps180
  go_wp2_with (first
 | (go_at_call 220;first | (refine (earl_yes _ _ _ zi zi).mono ?_;rintro e w' ⟨rfl,rfl⟩) | (refine (earl_no _ _ _ zi).mono ?_;rintro e w' ⟨rfl,rfl⟩))
 | (go_at_call 221;refine (name_is _ _ _ zl zl).mono ?_;rintro e w' ⟨rfl,rfl⟩)
 | (go_at_call 222;refine (seen_is _ _ _ zl zl).mono ?_;rintro e w' ⟨rfl,rfl⟩))
  go_ret
  exact ⟨rfl,zg _ _⟩
 | true=>
  by_cases hv:12<value.size
  ·have e2:decide (12<(value.size:Int))=true:=by simp;omega
   have hcode:setE id node other name.data.toList value.data.toList=3:=by unfold setE;rw [if_neg hsh,if_neg yb,if_pos (.inl zi)]
   rw [hcode]
   clear hsh
   clear hcode hln hlv
   go_enter func180,ntmps180
   go_wp2_with (first
 | (go_at_call 220;first | (refine (earl_yes _ _ _ zi zi).mono ?_;rintro e w' ⟨rfl,rfl⟩) | (refine (earl_no _ _ _ zi).mono ?_;rintro e w' ⟨rfl,rfl⟩))
 | (go_at_call 221;refine (name_is _ _ _ zl zl).mono ?_;rintro e w' ⟨rfl,rfl⟩)
 | (go_at_call 222;refine (seen_is _ _ _ zl zl).mono ?_;rintro e w' ⟨rfl,rfl⟩))
   go_ret
   exact ⟨rfl,zg _ _⟩
  have e2:decide (12<(value.size:Int))=false:=zk
  cases hp:seenOk value.data.toList with
  | false=>
   have hcode:setE id node other name.data.toList value.data.toList=3:=by unfold setE;rw [if_neg hsh,if_neg yb,if_pos (.inr hp)]
   rw [hcode]
   clear hsh
   clear hcode hln hlv
   go_enter func180,ntmps180
   go_wp2_with (first
| (go_at_call 220;first | (refine (earl_yes _ _ _ zi zi).mono ?_;rintro e w' ⟨rfl,rfl⟩) | (refine (earl_no _ _ _ zi).mono ?_;rintro e w' ⟨rfl,rfl⟩))
| (go_at_call 221;refine (name_is _ _ _ zl zl).mono ?_;rintro e w' ⟨rfl,rfl⟩)
| (go_at_call 222;refine (seen_is _ _ _ zl zl).mono ?_;rintro e w' ⟨rfl,rfl⟩))
   go_ret
   exact ⟨rfl,zg _ _⟩
  | true=>
   have hcode:setE id node other name.data.toList value.data.toList=0:=by unfold setE;rw [if_neg hsh,if_neg yb,if_neg (by rw [hp,hlv];simp;omega)]
   rw [hcode]
   clear hsh
   clear hcode hln hlv
   go_enter func180,ntmps180
   go_wp2_with (first
| (go_at_call 220;first | (refine (earl_yes _ _ _ zi zi).mono ?_;rintro e w' ⟨rfl,rfl⟩) | (refine (earl_no _ _ _ zi).mono ?_;rintro e w' ⟨rfl,rfl⟩))
| (go_at_call 221;refine (name_is _ _ _ zl zl).mono ?_;rintro e w' ⟨rfl,rfl⟩)
| (go_at_call 222;refine (seen_is _ _ _ zl zl).mono ?_;rintro e w' ⟨rfl,rfl⟩))
   go_ret
   exact ⟨rfl,zg _ _⟩
theorem opcheck_any (t b n:Int) (k:Nat) (node other:Int) (name value:ByteArray) (w:World) (hE:Op4 ad w) (hsn:name.size<=1000000) (hsv:value.size<=1000000):
  Calls prog 110 #[.agg #[.int .i64 t,.int .i64 b,.int .i64 n,.int .u8 (k:Int),.int .i64 node,.int .i64 other,.string name,.string value]] w fun e w'=>e= .returned (eV ad (opE t b n k node other name.data.toList value.data.toList))/\Below w.heap.size w w':=by
 have O0:=OpAt.new w t b n k node other name value 38
 have E0:=hE.later ((jo _ _).alloc ze (.cells #[.int .i64 t,.int .i64 b,.int .i64 n,.int .u8 (k:Int),.int .i64 node,.int .i64 other,.string name,.string value] 38))
 have B0:Below w.heap.size w (w.alloc (.cells #[.int .i64 t,.int .i64 b,.int .i64 n,.int .u8 (k:Int),.int .i64 node,.int .i64 other,.string name,.string value] 38)):=zg _ _
 by_cases hst:1<=t/\t<=1073741824/\0<=b/\b<4
 ·obtain ⟨s1,s2,s3,s4⟩:=hst
  by_cases h1:n<1
  ·have hcode:opE t b n k node other name.data.toList value.data.toList=2:=by unfold opE;rw [if_neg zi]
   rw [hcode]
   have d1:decide (n<1)=true:=zk
   clear hcode
   go_enter func110,ntmps110
   go_wp2_with fail
   generalize w.alloc (.cells #[.int .i64 t,.int .i64 b,.int .i64 n,.int .u8 (k:Int),.int .i64 node,.int .i64 other,.string name,.string value] 38)=u at O0 E0 B0 |-
   refine (id_ok _ _ _ s1 s2 s3 s4).mono ?_
   rintro e w1 ⟨rfl,hb⟩
   have O1:=O0.later hb
   have E1:=E0.later hb
   have B1:Below w.heap.size w w1:=zh B0 hb
   clear hb O0 E0 B0
   have z1:=jl w1 ⟨w.heap.size,0,none⟩ O1.c0
   obtain ⟨x0,x1,x2,x3,x4,x5,x6,x7⟩:=O1
   obtain ⟨y1,y2,y3,y4⟩:=id E1
   go_wp2
   go_ret
   exact ⟨rfl,B1⟩
  have d1:decide (n<1)=false:=zk
  by_cases h2:400<n
  ·have d2:decide (400<n)=true:=by simp;omega
   have hcode:opE t b n k node other name.data.toList value.data.toList=2:=by unfold opE;rw [if_neg zi]
   rw [hcode]
   clear hcode
   go_enter func110,ntmps110
   go_wp2_with fail
   generalize w.alloc (.cells #[.int .i64 t,.int .i64 b,.int .i64 n,.int .u8 (k:Int),.int .i64 node,.int .i64 other,.string name,.string value] 38)=u at O0 E0 B0 |-
   refine (id_ok _ _ _ s1 s2 s3 s4).mono ?_
   rintro e w1 ⟨rfl,hb⟩
   have O1:=O0.later hb
   have E1:=E0.later hb
   have B1:Below w.heap.size w w1:=zh B0 hb
   clear hb O0 E0 B0
   have z1:=jl w1 ⟨w.heap.size,0,none⟩ O1.c0
   obtain ⟨x0,x1,x2,x3,x4,x5,x6,x7⟩:=O1
   obtain ⟨y1,y2,y3,y4⟩:=id E1
   go_wp2
   go_ret
   exact ⟨rfl,B1⟩
  have d2:decide (400<n)=false:=zk
  by_cases hk109:k=109
  ·have r109:((k:Int)==109)=true:=by simp;omega
   have hcode:opE t b n k node other name.data.toList value.data.toList=moveE (t*4+b) node other name.data.toList value.data.toList:=by unfold opE;rw [if_pos zi];unfold kindE;rw [if_pos hk109]
   rw [hcode]
   clear hk109
   clear hcode
   go_enter func110,ntmps110
   go_wp2_with fail
   generalize w.alloc (.cells #[.int .i64 t,.int .i64 b,.int .i64 n,.int .u8 (k:Int),.int .i64 node,.int .i64 other,.string name,.string value] 38)=u at O0 E0 B0 |-
   refine (id_ok _ _ _ s1 s2 s3 s4).mono ?_
   rintro e w1 ⟨rfl,hb⟩
   have O1:=O0.later hb
   have E1:=E0.later hb
   have B1:Below w.heap.size w w1:=zh B0 hb
   clear hb O0 E0 B0
   have z1:=jl w1 ⟨w.heap.size,0,none⟩ O1.c0
   obtain ⟨x0,x1,x2,x3,x4,x5,x6,x7⟩:=O1
   obtain ⟨y1,y2,y3,y4⟩:=id E1
   go_wp2_with fail
   refine (move_any (t*4+b) t b n k node other name value w1 E1 zi hsn hsv).mono ?_
   rintro e w2 ⟨rfl,hb⟩
   have B2:Below w.heap.size w w2:=zh B1 hb
   clear hb x0 x1 x2 x3 x4 x5 x6 x7 y1 y2 y3 y4 B1 E1
   go_wp2
   go_ret
   exact ⟨rfl,B2⟩
  have r109:((k:Int)==109)=false:=zk
  by_cases hk105:k=105
  ·have r105:((k:Int)==105)=true:=by simp;omega
   have hcode:opE t b n k node other name.data.toList value.data.toList=insE (t*4+b) node other name.data.toList value.data.toList:=by unfold opE;rw [if_pos zi];unfold kindE;rw [if_neg hk109];rw [if_pos hk105]
   rw [hcode]
   clear hk109 hk105
   clear hcode
   go_enter func110,ntmps110
   go_wp2_with fail
   generalize w.alloc (.cells #[.int .i64 t,.int .i64 b,.int .i64 n,.int .u8 (k:Int),.int .i64 node,.int .i64 other,.string name,.string value] 38)=u at O0 E0 B0 |-
   refine (id_ok _ _ _ s1 s2 s3 s4).mono ?_
   rintro e w1 ⟨rfl,hb⟩
   have O1:=O0.later hb
   have E1:=E0.later hb
   have B1:Below w.heap.size w w1:=zh B0 hb
   clear hb O0 E0 B0
   have z1:=jl w1 ⟨w.heap.size,0,none⟩ O1.c0
   obtain ⟨x0,x1,x2,x3,x4,x5,x6,x7⟩:=O1
   obtain ⟨y1,y2,y3,y4⟩:=id E1
   go_wp2_with fail
   refine (insert_any (t*4+b) t b n k node other name value w1 E1 zi hsn hsv).mono ?_
   rintro e w2 ⟨rfl,hb⟩
   have B2:Below w.heap.size w w2:=zh B1 hb
   clear hb x0 x1 x2 x3 x4 x5 x6 x7 y1 y2 y3 y4 B1 E1
   go_wp2
   go_ret
   exact ⟨rfl,B2⟩
  have r105:((k:Int)==105)=false:=zk
  by_cases hk100:k=100
  ·have r100:((k:Int)==100)=true:=by simp;omega
   have hcode:opE t b n k node other name.data.toList value.data.toList=delE (t*4+b) node other name.data.toList value.data.toList:=by unfold opE;rw [if_pos zi];unfold kindE;rw [if_neg hk109];rw [if_neg hk105];rw [if_pos hk100]
   rw [hcode]
   clear hk109 hk105 hk100
   clear hcode
   go_enter func110,ntmps110
   go_wp2_with fail
   generalize w.alloc (.cells #[.int .i64 t,.int .i64 b,.int .i64 n,.int .u8 (k:Int),.int .i64 node,.int .i64 other,.string name,.string value] 38)=u at O0 E0 B0 |-
   refine (id_ok _ _ _ s1 s2 s3 s4).mono ?_
   rintro e w1 ⟨rfl,hb⟩
   have O1:=O0.later hb
   have E1:=E0.later hb
   have B1:Below w.heap.size w w1:=zh B0 hb
   clear hb O0 E0 B0
   have z1:=jl w1 ⟨w.heap.size,0,none⟩ O1.c0
   obtain ⟨x0,x1,x2,x3,x4,x5,x6,x7⟩:=O1
   obtain ⟨y1,y2,y3,y4⟩:=id E1
   go_wp2_with fail
   refine (delete_any (t*4+b) t b n k node other name value w1 E1 zi hsn hsv).mono ?_
   rintro e w2 ⟨rfl,hb⟩
   have B2:Below w.heap.size w w2:=zh B1 hb
   clear hb x0 x1 x2 x3 x4 x5 x6 x7 y1 y2 y3 y4 B1 E1
   go_wp2
   go_ret
   exact ⟨rfl,B2⟩
  have r100:((k:Int)==100)=false:=zk
  by_cases hk115:k=115
  ·have r115:((k:Int)==115)=true:=by simp;omega
   have hcode:opE t b n k node other name.data.toList value.data.toList=setE (t*4+b) node other name.data.toList value.data.toList:=by unfold opE;rw [if_pos zi];unfold kindE;rw [if_neg hk109];rw [if_neg hk105];rw [if_neg hk100];rw [if_pos hk115]
   rw [hcode]
   clear hk109 hk105 hk100 hk115
   clear hcode
   go_enter func110,ntmps110
   go_wp2_with fail
   generalize w.alloc (.cells #[.int .i64 t,.int .i64 b,.int .i64 n,.int .u8 (k:Int),.int .i64 node,.int .i64 other,.string name,.string value] 38)=u at O0 E0 B0 |-
   refine (id_ok _ _ _ s1 s2 s3 s4).mono ?_
   rintro e w1 ⟨rfl,hb⟩
   have O1:=O0.later hb
   have E1:=E0.later hb
   have B1:Below w.heap.size w w1:=zh B0 hb
   clear hb O0 E0 B0
   have z1:=jl w1 ⟨w.heap.size,0,none⟩ O1.c0
   obtain ⟨x0,x1,x2,x3,x4,x5,x6,x7⟩:=O1
   obtain ⟨y1,y2,y3,y4⟩:=id E1
   go_wp2_with fail
   refine (set_any (t*4+b) t b n k node other name value w1 E1 zi hsn hsv).mono ?_
   rintro e w2 ⟨rfl,hb⟩
   have B2:Below w.heap.size w w2:=zh B1 hb
   clear hb x0 x1 x2 x3 x4 x5 x6 x7 y1 y2 y3 y4 B1 E1
   go_wp2
   go_ret
   exact ⟨rfl,B2⟩
  have r115:((k:Int)==115)=false:=zk
  have hcode:opE t b n k node other name.data.toList value.data.toList=5:=by unfold opE;rw [if_pos zi];unfold kindE;rw [if_neg hk109];rw [if_neg hk105];rw [if_neg hk100];rw [if_neg hk115]
  rw [hcode]
  clear hk109 hk105 hk100 hk115
  clear hcode
  go_enter func110,ntmps110
  go_wp2_with fail
  generalize w.alloc (.cells #[.int .i64 t,.int .i64 b,.int .i64 n,.int .u8 (k:Int),.int .i64 node,.int .i64 other,.string name,.string value] 38)=u at O0 E0 B0 |-
  refine (id_ok _ _ _ s1 s2 s3 s4).mono ?_
  rintro e w1 ⟨rfl,hb⟩
  have O1:=O0.later hb
  have E1:=E0.later hb
  have B1:Below w.heap.size w w1:=zh B0 hb
  clear hb O0 E0 B0
  have z1:=jl w1 ⟨w.heap.size,0,none⟩ O1.c0
  obtain ⟨x0,x1,x2,x3,x4,x5,x6,x7⟩:=O1
  obtain ⟨y1,y2,y3,y4⟩:=id E1
  go_wp2
  go_ret
  exact ⟨rfl,B1⟩
 have hcode:opE t b n k node other name.data.toList value.data.toList=2:=by unfold opE;rw [if_neg zi]
 rw [hcode]
 have HS:=Lib.hid hst
 clear hcode hst
 go_enter func110,ntmps110
 go_wp2_with fail
 generalize w.alloc (.cells #[.int .i64 t,.int .i64 b,.int .i64 n,.int .u8 (k:Int),.int .i64 node,.int .i64 other,.string name,.string value] 38)=u at O0 E0 B0 |-
 refine (id_no t b u _ _ E0.c1 (jl u ⟨2,0,none⟩ E0.c1) HS.o).mono ?_
 rintro e w1 ⟨rfl,hb⟩
 have B1:Below w.heap.size w w1:=zh B0 hb
 clear hb O0 E0 B0
 go_wp2
 go_ret
 exact ⟨rfl,B1⟩
end Go.Proofs.YtpdbnnimdkfajaaGreatDoor
end
section
namespace Go.Proofs.YtpdbnnimdkfajaaGreatDoor
open Go.RowKit
variable {B:Nat} {ad:Nat→Addr} {w w':World}
def Cyc (ad:Nat->Addr):Prop:=ad 100=⟨1,0,none⟩
structure EnvE (B:Nat) (ad:Nat->Addr) (w:World):Prop where
 op4:Op4 ad w
 c5:w.cell? ⟨0,0,none⟩=some (.iface 399 (.pointer (some (ad 5))))
 c6:w.cell? ⟨7,0,none⟩=some (.iface 399 (.pointer (some (ad 6))))
 c7:w.cell? ⟨1,0,none⟩=some (.iface 399 (.pointer (some (ad 7))))
 c8:w.cell? ⟨8,0,none⟩=some (.iface 399 (.pointer (some (ad 8))))
 c9:Cyc ad->w.cell? ⟨9,0,none⟩=some (.iface 399 (.pointer (some (ad 9))))
 low:13<=B
 size:B<=w.heap.size
theorem EnvE.mono (h:EnvE B ad w) (hb:Below B w w'):EnvE B ad w':=by
 have hl:=h.low
 have k:∀g v,g<B->w.cell? ⟨g,0,none⟩=some v->w'.cell? ⟨g,0,none⟩=some v:=fun g v hg e=>(hb.cell (p:=⟨g,0,none⟩) hg).trans e
 exact ⟨⟨k _ _ zi h.op4.c1,k _ _ zi h.op4.c2,k _ _ zi h.op4.c3,k _ _ zi h.op4.c4⟩,k _ _ zi h.c5,k _ _ zi h.c6,k _ _ zi h.c7,k _ _ zi h.c8,fun q=>k _ _ zi (h.c9 q),hl,jw h.size hb.size⟩
theorem EnvE.later (h:EnvE B ad w) (hb:Below w.heap.size w w'):EnvE B ad w':=h.mono (hb.mono h.size)
end Go.Proofs.YtpdbnnimdkfajaaGreatDoor
end
section
namespace Go.Proofs.YtpdbnnimdkfajaaGreatDoor
open Go.RowKit
end Go.Proofs.YtpdbnnimdkfajaaGreatDoor
namespace Go.Proofs.YtpdbnnimdkfajaaGreatDoor
open Go.RowKit
end Go.Proofs.YtpdbnnimdkfajaaGreatDoor
namespace Go.Proofs.YtpdbnnimdkfajaaGreatDoor
open Go.RowKit
