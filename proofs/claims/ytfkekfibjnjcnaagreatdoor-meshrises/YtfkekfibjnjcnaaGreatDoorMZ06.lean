import Derived.Test.YtfkekfibjnjcnaaGreatDoorMZ01
import Derived.Test.YtfkekfibjnjcnaaGreatDoorMZ02
import Derived.Test.YtfkekfibjnjcnaaGreatDoorMZ04
set_option linter.unusedSimpArgs false
set_option linter.unusedVariables false
set_option maxRecDepth 100000
set_option maxHeartbeats 64000000
namespace Go.Proofs.YtfkekfibjnjcnaaGreatDoor
open Go.Proofs.Tryz
variable {s:ByteArray} {B:Nat} {ad:Nat→Addr} {w w':World}
section
open Go.RowKit
theorem earl_yes (n id:Int) (w:World) (h0:0<=n) (h1:n<id):
  Calls prog 224 #[.int .i64 n,.int .i64 id] w fun e w'=>e= .returned (.bool true)/\w'=w:=by
 go_enter func224,ntmps224
 go_wp2
 go_ret
 exact ⟨rfl,rfl⟩
theorem earl_no (n id:Int) (w:World) (h:n<0\/id<=n):
  Calls prog 224 #[.int .i64 n,.int .i64 id] w fun e w'=>e= .returned (.bool false)/\w'=w:=by
 by_cases h0:n<0
 ·clear h
  go_enter func224,ntmps224
  go_wp2
  go_ret
  exact ⟨rfl,rfl⟩
 have h1:id<=n:=zj
 have h2:0<=n:=zj
 have d:decide (n<id)=false:=zl
 clear h h0
 go_enter func224,ntmps224
 go_wp2
 go_ret
 exact ⟨rfl,rfl⟩
theorem nb_any (c:UInt8) (w:World):
  Calls prog 255 #[.int .u8 (c.toNat:Int)] w fun e w'=>e= .returned (.bool (nameB c))/\w'=w:=by
 have hb:nameB c=decide (97<=(c.toNat:Int)/\(c.toNat:Int)<=122\/48<=(c.toNat:Int)/\(c.toNat:Int)<=57\/(c.toNat:Int)=45\/(c.toNat:Int)=46):=by
  unfold nameB
  rw [decide_eq_decide]
  omega
 rw [hb]
 clear hb
 generalize (c.toNat:Int)=x
 rcases (by omega:122<x\/(97<=x/\x<=122)\/(57<x/\x<97)\/(48<=x/\x<=57)\/x=46\/x=45\/(x<48/\x≠46/\x≠45)) with h | ⟨h,h'⟩ | ⟨h,h'⟩ | ⟨h,h'⟩ | h | h | ⟨h,h',h''⟩
 ·rw [decide_eq_false zj]
  have d1:decide (x<=122)=false:=zl
  have d2:decide (x<=57)=false:=zl
  have e1:(x==45)=false:=zl
  have e2:(x==46)=false:=zl
  go_enter func255,ntmps255
  go_wp2
  go_ret
  exact ⟨rfl,rfl⟩
 ·rw [decide_eq_true zj]
  go_enter func255,ntmps255
  go_wp2
  go_ret
  exact ⟨rfl,rfl⟩
 ·rw [decide_eq_false zj]
  have d1:decide (97<=x)=false:=zl
  have d2:decide (x<=57)=false:=zl
  have e1:(x==45)=false:=zl
  have e2:(x==46)=false:=zl
  go_enter func255,ntmps255
  go_wp2
  go_ret
  exact ⟨rfl,rfl⟩
 ·rw [decide_eq_true zj]
  have d1:decide (97<=x)=false:=zl
  go_enter func255,ntmps255
  go_wp2
  go_ret
  exact ⟨rfl,rfl⟩
 ·subst h
  go_enter func255,ntmps255
  go_wp2
  go_ret
  exact ⟨rfl,rfl⟩
 ·subst h
  go_enter func255,ntmps255
  go_wp2
  go_ret
  exact ⟨rfl,rfl⟩
 rw [decide_eq_false zj]
 have d1:decide (97<=x)=false:=zl
 have d2:decide (48<=x)=false:=zl
 have e1:(x==45)=false:=zl
 have e2:(x==46)=false:=zl
 go_enter func255,ntmps255
 go_wp2
 go_ret
 exact ⟨rfl,rfl⟩
theorem all_at (s:ByteArray) (f:UInt8->Bool) (k:Nat) (h:k<s.size):(s.data.toList.drop k).all f=(f s[k] &&(s.data.toList.drop (k+1)).all f):=by
 rw [byteAt s k h,List.all_cons]
theorem name_any (s:ByteArray) (w:World) (hs:s.size<=1000000):
  Calls prog 225 #[.string s] w fun e w'=>e= .returned (.bool (nameOk s.data.toList))/\w'=w:=by
 have hl:s.data.toList.length=s.size:=zm
 by_cases h1:s.size<1
 ·have d1:decide ((s.size:Int)<1)=true:=by simp;omega
  have hr:nameOk s.data.toList=false:=by unfold nameOk;rw [hl,decide_eq_false zj];rfl
  rw [hr]
  go_enter func225,ntmps225
  go_wp2
  go_ret
  exact ⟨rfl,rfl⟩
 by_cases h2:12<s.size
 ·have d1:decide ((s.size:Int)<1)=false:=by simp;omega
  have d2:decide (12<(s.size:Int))=true:=zl
  have hr:nameOk s.data.toList=false:=by unfold nameOk;rw [hl,decide_eq_false (show ¬s.size<=12 by omega)];simp
  rw [hr]
  go_enter func225,ntmps225
  go_wp2
  go_ret
  exact ⟨rfl,rfl⟩
 have d1:decide ((s.size:Int)<1)=false:=zl
 have d2:decide (12<(s.size:Int))=false:=zl
 have hr:nameOk s.data.toList=s.data.toList.all nameB:=by unfold nameOk;rw [hl,decide_eq_true (show s.size<=12 by omega),decide_eq_true (show 1<=s.size by omega)];rfl
 rw [hr]
 generalize hR:s.data.toList.all nameB=R
 have HR:=Lib.hid hR
 clear hR hr hl
 go_enter func225,ntmps225
 go_wp2
 go_loop [14] (fun i=>∃k:Nat,k<=s.size/\i= .int .i64 k/\Hid ((s.data.toList.drop k).all nameB=R)) (fun i=>s.size - (intOf i).toNat)
 case atStart=>exact ⟨0,vD _,rfl,Lib.hid qj⟩
 case round=>
  obtain ⟨k,hk,rfl,HD⟩:=hrel
  by_cases hlt:k<s.size
  ·have hd:decide ((k:Int)<(s.size:Int))=true:=by simp;omega
   have HA:=Lib.hid ((all_at s nameB k hlt).symm.trans HD.o)
   clear HD
   go_wp2_with fail
   refine (nb_any _ _).mono ?_
   rintro e w' ⟨rfl,rfl⟩
   cases hb:nameB s[k] with
   | true=>
    have HE:Hid ((s.data.toList.drop (k+1)).all nameB=R):=Lib.hid (by have:=HA.o;rw [hb,Bool.true_and] at this;exact this)
    go_wp2
    go_round
    case rel=>exact ⟨k+1,zj,zL,HE⟩
    case measure=>simp [intOf];omega
   | false=>
    have HE:Hid (R=false):=Lib.hid (by have:=HA.o;rw [hb,Bool.false_and] at this;exact this.symm)
    go_wp2
    go_ret
    exact ⟨by rw [HE.o];rfl,rfl⟩
  have hd:decide ((k:Int)<(s.size:Int))=false:=zl
  have HE:Hid (R=true):=Lib.hid qv
  go_wp2
  go_ret
  exact ⟨by rw [HE.o];rfl,rfl⟩
theorem seen_any (s:ByteArray) (w:World) (hs:s.size<=1000000):
  Calls prog 226 #[.string s] w fun e w'=>e= .returned (.bool (seenOk s.data.toList))/\w'=w:=by
 unfold seenOk
 generalize hR:s.data.toList.all seenB=R
 have HR:=Lib.hid hR
 clear hR
 go_enter func226,ntmps226
 go_wp2
 go_loop [6] (fun i=>∃k:Nat,k<=s.size/\i= .int .i64 k/\Hid ((s.data.toList.drop k).all seenB=R)) (fun i=>s.size - (intOf i).toNat)
 case atStart=>exact ⟨0,vD _,rfl,Lib.hid qj⟩
 case round=>
  obtain ⟨k,hk,rfl,HD⟩:=hrel
  by_cases hlt:k<s.size
  ·have hd:decide ((k:Int)<(s.size:Int))=true:=by simp;omega
   have HA:=Lib.hid ((all_at s seenB k hlt).symm.trans HD.o)
   clear HD
   by_cases g1:s[k].toNat<32
   ·have l1:decide ((s[k].toNat:Int)<32)=true:=by simp;omega
    have HE:Hid (R=false):=Lib.hid (by
     have:=HA.o
     rw [show seenB s[k]=false by unfold seenB;rw [decide_eq_false zj],Bool.false_and] at this
     exact this.symm)
    go_wp2
    go_ret
    exact ⟨by rw [HE.o];rfl,rfl⟩
   have l1:decide ((s[k].toNat:Int)<32)=false:=zl
   by_cases g2:126<s[k].toNat
   ·have l2:decide (126<(s[k].toNat:Int))=true:=by simp;omega
    have HE:Hid (R=false):=Lib.hid (by
     have:=HA.o
     rw [show seenB s[k]=false by unfold seenB;rw [decide_eq_false zj],Bool.false_and] at this
     exact this.symm)
    go_wp2
    go_ret
    exact ⟨by rw [HE.o];rfl,rfl⟩
   have l2:decide (126<(s[k].toNat:Int))=false:=zl
   have HE:Hid ((s.data.toList.drop (k+1)).all seenB=R):=Lib.hid (by
    have:=HA.o
    rw [show seenB s[k]=true by unfold seenB;rw [decide_eq_true zj],Bool.true_and] at this
    exact this)
   go_wp2
   go_round
   case rel=>exact ⟨k+1,zj,zL,HE⟩
   case measure=>simp [intOf];omega
  have hd:decide ((k:Int)<(s.size:Int))=false:=zl
  have HE:Hid (R=true):=Lib.hid qv
  go_wp2
  go_ret
  exact ⟨by rw [HE.o];rfl,rfl⟩
end
section
open Go.RowKit
theorem name_is (s:ByteArray) (b:Bool) (w:World) (hs:s.size<=1000000) (h:nameOk s.data.toList=b):
  Calls prog 225 #[.string s] w fun e w'=>e= .returned (.bool b)/\w'=w:=by rw [<-h];exact name_any s w hs
theorem seen_is (s:ByteArray) (b:Bool) (w:World) (hs:s.size<=1000000) (h:seenOk s.data.toList=b):
  Calls prog 226 #[.string s] w fun e w'=>e= .returned (.bool b)/\w'=w:=by rw [<-h];exact seen_any s w hs
theorem empty_yes (h:s.data.toList= []):s.toList.isEmpty=true:=by rw [vE,h];rfl
theorem empty_no (h:s.data.toList≠ []):s.toList.isEmpty=false:=by
 rw [vE]
 cases hd:s.data.toList with
 | nil=>exact absurd hd h
 | cons a r=>rfl
theorem listLen (s:ByteArray):s.data.toList.length=s.size:=zm
def eV (ad:Nat->Addr) (c:Nat):Value:=if c=0 then .nilIface else .iface 350 (.pointer (some (ad (c - 1))))
structure Op4 (ad:Nat->Addr) (w:World):Prop where
 c1:w.cell? ⟨0,0,none⟩=some (.iface 350 (.pointer (some (ad 1))))
 c2:w.cell? ⟨4,0,none⟩=some (.iface 350 (.pointer (some (ad 2))))
 c3:w.cell? ⟨11,0,none⟩=some (.iface 350 (.pointer (some (ad 3))))
 c4:w.cell? ⟨5,0,none⟩=some (.iface 350 (.pointer (some (ad 4))))
theorem cellLater {b o:Nat} {v:Value} (hb:Below w.heap.size w w') (h:w.cell? ⟨b,o,none⟩=some v):w'.cell? ⟨b,o,none⟩=some v:=by
 rw [hb.cell (p:=⟨b,o,none⟩) (vp w ⟨b,o,none⟩ h)];exact h
theorem Op4.later (h:Op4 ad w) (hb:Below w.heap.size w w'):Op4 ad w':=
 ⟨cellLater hb h.c1,cellLater hb h.c2,cellLater hb h.c3,cellLater hb h.c4⟩
structure OpAt (w:World) (a:Nat) (t b n:Int) (k:Nat) (node other:Int) (name value:ByteArray):Prop where
 c0:w.cell? ⟨a,0,none⟩=some (.int .i64 t)
 c1:w.cell? ⟨a,1,none⟩=some (.int .i64 b)
 c2:w.cell? ⟨a,2,none⟩=some (.int .i64 n)
 c3:w.cell? ⟨a,3,none⟩=some (.int .u8 (k:Int))
 c4:w.cell? ⟨a,4,none⟩=some (.int .i64 node)
 c5:w.cell? ⟨a,5,none⟩=some (.int .i64 other)
 c6:w.cell? ⟨a,6,none⟩=some (.string name)
 c7:w.cell? ⟨a,7,none⟩=some (.string value)
theorem OpAt.later {a:Nat} {t b n:Int} {k:Nat} {node other:Int} {name value:ByteArray} (h:OpAt w a t b n k node other name value) (hb:Below w.heap.size w w'):OpAt w' a t b n k node other name value:=
 ⟨cellLater hb h.c0,cellLater hb h.c1,cellLater hb h.c2,cellLater hb h.c3,cellLater hb h.c4,cellLater hb h.c5,cellLater hb h.c6,cellLater hb h.c7⟩
theorem OpAt.new (w:World) (t b n:Int) (k:Nat) (node other:Int) (name value:ByteArray) (T:TypeId):OpAt (w.alloc (.cells #[.int .i64 t,.int .i64 b,.int .i64 n,.int .u8 (k:Int),.int .i64 node,.int .i64 other,.string name,.string value] T)) w.heap.size t b n k node other name value:=by
 constructor<;>simp [go_sem]
theorem move_any (id:Int) (t b n:Int) (k:Nat) (node other:Int) (name value:ByteArray) (w:World) (hE:Op4 ad w) (hid:4<=id) (hsn:name.size<=1000000) (_hsv:value.size<=1000000):
  Calls prog 175 #[.agg #[.int .i64 t,.int .i64 b,.int .i64 n,.int .u8 (k:Int),.int .i64 node,.int .i64 other,.string name,.string value],.int .i64 id] w fun e w'=>e= .returned (eV ad (moveE id node other name.data.toList value.data.toList))/\Below w.heap.size w w':=by
 have g2:=fun o=>(hE.later ((vu _ _).alloc zg o)).c2
 have g3:=fun o=>(hE.later ((vu _ _).alloc zg o)).c3
 have hz2:4<w.heap.size:=vp w ⟨4,0,none⟩ hE.c2
 have hz3:11<w.heap.size:=vp w ⟨11,0,none⟩ hE.c3
 have hln:=listLen name
 have hlv:=listLen value
 clear hE
 by_cases hsh:node<2\/id<node\/other<0\/id<=other
 ·rcases (by omega:node=0\/node=1\/node<0\/id<node\/(2<=node/\node<id)\/node=id) with h | h | h | h | ⟨h,h'⟩ | h
  ·have hcode:moveE id node other name.data.toList value.data.toList=3:=by unfold moveE;rw [if_pos zj]
   rw [hcode]
   have q0:(node==0)=true:=zl
   clear hsh
   clear hcode hln hlv
   go_enter func175,ntmps175
   go_wp2_with (first
  | (go_at_call 224;first | (refine (earl_yes _ _ _ zj zj).mono ?_;rintro e w' ⟨rfl,rfl⟩) | (refine (earl_no _ _ _ zj).mono ?_;rintro e w' ⟨rfl,rfl⟩))
  | (go_at_call 225;refine (name_is _ _ _ zq zq).mono ?_;rintro e w' ⟨rfl,rfl⟩)
  | (go_at_call 226;refine (seen_is _ _ _ zq zq).mono ?_;rintro e w' ⟨rfl,rfl⟩))
   go_ret
   exact ⟨rfl,zh _ _⟩
  ·have hcode:moveE id node other name.data.toList value.data.toList=3:=by unfold moveE;rw [if_pos zj]
   rw [hcode]
   have q0:(node==0)=false:=zl
   have q1:(node==1)=true:=zl
   clear hsh
   clear hcode hln hlv
   go_enter func175,ntmps175
   go_wp2_with (first
  | (go_at_call 224;first | (refine (earl_yes _ _ _ zj zj).mono ?_;rintro e w' ⟨rfl,rfl⟩) | (refine (earl_no _ _ _ zj).mono ?_;rintro e w' ⟨rfl,rfl⟩))
  | (go_at_call 225;refine (name_is _ _ _ zq zq).mono ?_;rintro e w' ⟨rfl,rfl⟩)
  | (go_at_call 226;refine (seen_is _ _ _ zq zq).mono ?_;rintro e w' ⟨rfl,rfl⟩))
   go_ret
   exact ⟨rfl,zh _ _⟩
  ·have hcode:moveE id node other name.data.toList value.data.toList=3:=by unfold moveE;rw [if_pos zj]
   rw [hcode]
   have q0:(node==0)=false:=zl
   have q1:(node==1)=false:=zl
   have q2:(node !=id)=true:=zl
   clear hsh
   clear hcode hln hlv
   go_enter func175,ntmps175
   go_wp2_with (first
  | (go_at_call 224;first | (refine (earl_yes _ _ _ zj zj).mono ?_;rintro e w' ⟨rfl,rfl⟩) | (refine (earl_no _ _ _ zj).mono ?_;rintro e w' ⟨rfl,rfl⟩))
  | (go_at_call 225;refine (name_is _ _ _ zq zq).mono ?_;rintro e w' ⟨rfl,rfl⟩)
  | (go_at_call 226;refine (seen_is _ _ _ zq zq).mono ?_;rintro e w' ⟨rfl,rfl⟩))
   go_ret
   exact ⟨rfl,zh _ _⟩
  ·have hcode:moveE id node other name.data.toList value.data.toList=3:=by unfold moveE;rw [if_pos zj]
   rw [hcode]
   have q0:(node==0)=false:=zl
   have q1:(node==1)=false:=zl
   have q2:(node !=id)=true:=zl
   clear hsh
   clear hcode hln hlv
   go_enter func175,ntmps175
   go_wp2_with (first
  | (go_at_call 224;first | (refine (earl_yes _ _ _ zj zj).mono ?_;rintro e w' ⟨rfl,rfl⟩) | (refine (earl_no _ _ _ zj).mono ?_;rintro e w' ⟨rfl,rfl⟩))
  | (go_at_call 225;refine (name_is _ _ _ zq zq).mono ?_;rintro e w' ⟨rfl,rfl⟩)
  | (go_at_call 226;refine (seen_is _ _ _ zq zq).mono ?_;rintro e w' ⟨rfl,rfl⟩))
   go_ret
   exact ⟨rfl,zh _ _⟩
  ·have hcode:moveE id node other name.data.toList value.data.toList=3:=by unfold moveE;rw [if_pos zj]
   rw [hcode]
   have q0:(node==0)=false:=zl
   have q1:(node==1)=false:=zl
   have h3:other<0\/id<=other:=zj
   clear hsh
   clear hcode hln hlv
   go_enter func175,ntmps175
   go_wp2_with (first
  | (go_at_call 224;first | (refine (earl_yes _ _ _ zj zj).mono ?_;rintro e w' ⟨rfl,rfl⟩) | (refine (earl_no _ _ _ zj).mono ?_;rintro e w' ⟨rfl,rfl⟩))
  | (go_at_call 225;refine (name_is _ _ _ zq zq).mono ?_;rintro e w' ⟨rfl,rfl⟩)
  | (go_at_call 226;refine (seen_is _ _ _ zq zq).mono ?_;rintro e w' ⟨rfl,rfl⟩))
   go_ret
   exact ⟨rfl,zh _ _⟩
  have hcode:moveE id node other name.data.toList value.data.toList=3:=by unfold moveE;rw [if_pos zj]
  rw [hcode]
  have q0:(node==0)=false:=zl
  have q1:(node==1)=false:=zl
  have q2:(node !=id)=false:=zl
  have h3:other<0\/id<=other:=zj
  clear hsh
  clear hcode hln hlv
  go_enter func175,ntmps175
  go_wp2_with (first
 | (go_at_call 224;first | (refine (earl_yes _ _ _ zj zj).mono ?_;rintro e w' ⟨rfl,rfl⟩) | (refine (earl_no _ _ _ zj).mono ?_;rintro e w' ⟨rfl,rfl⟩))
 | (go_at_call 225;refine (name_is _ _ _ zq zq).mono ?_;rintro e w' ⟨rfl,rfl⟩)
 | (go_at_call 226;refine (seen_is _ _ _ zq zq).mono ?_;rintro e w' ⟨rfl,rfl⟩))
  go_ret
  exact ⟨rfl,zh _ _⟩
 have o1:0<=other:=zj
 have o2:other<id:=zj
 rcases (by omega:(2<=node/\node<id)\/node=id) with ⟨h,h'⟩ | h
 ·cases hn:nameOk name.data.toList with
  | false=>
   have hcode:moveE id node other name.data.toList value.data.toList=4:=by unfold moveE;rw [if_neg hsh,if_pos hn]
   rw [hcode]
   have q0:(node==0)=false:=zl
   have q1:(node==1)=false:=zl
   clear hsh
   clear hcode hln hlv
   go_enter func175,ntmps175
   go_wp2_with (first
 | (go_at_call 224;first | (refine (earl_yes _ _ _ zj zj).mono ?_;rintro e w' ⟨rfl,rfl⟩) | (refine (earl_no _ _ _ zj).mono ?_;rintro e w' ⟨rfl,rfl⟩))
 | (go_at_call 225;refine (name_is _ _ _ zq zq).mono ?_;rintro e w' ⟨rfl,rfl⟩)
 | (go_at_call 226;refine (seen_is _ _ _ zq zq).mono ?_;rintro e w' ⟨rfl,rfl⟩))
   go_ret
   exact ⟨rfl,zh _ _⟩
  | true=>
   by_cases hv:value.data.toList= []
   ·have hcode:moveE id node other name.data.toList value.data.toList=0:=by unfold moveE;rw [if_neg hsh,if_neg yn,if_neg jB]
    rw [hcode]
    have q0:(node==0)=false:=zl
    have q1:(node==1)=false:=zl
    have e1:=empty_yes hv
    clear hsh hv
    clear hcode hln hlv
    go_enter func175,ntmps175
    go_wp2_with (first
 | (go_at_call 224;first | (refine (earl_yes _ _ _ zj zj).mono ?_;rintro e w' ⟨rfl,rfl⟩) | (refine (earl_no _ _ _ zj).mono ?_;rintro e w' ⟨rfl,rfl⟩))
 | (go_at_call 225;refine (name_is _ _ _ zq zq).mono ?_;rintro e w' ⟨rfl,rfl⟩)
 | (go_at_call 226;refine (seen_is _ _ _ zq zq).mono ?_;rintro e w' ⟨rfl,rfl⟩))
    go_ret
    exact ⟨rfl,zh _ _⟩
   have hcode:moveE id node other name.data.toList value.data.toList=3:=xh
   rw [hcode]
   have q0:(node==0)=false:=zl
   have q1:(node==1)=false:=zl
   have e1:=empty_no hv
   clear hsh hv
   clear hcode hln hlv
   go_enter func175,ntmps175
   go_wp2_with (first
| (go_at_call 224;first | (refine (earl_yes _ _ _ zj zj).mono ?_;rintro e w' ⟨rfl,rfl⟩) | (refine (earl_no _ _ _ zj).mono ?_;rintro e w' ⟨rfl,rfl⟩))
| (go_at_call 225;refine (name_is _ _ _ zq zq).mono ?_;rintro e w' ⟨rfl,rfl⟩)
| (go_at_call 226;refine (seen_is _ _ _ zq zq).mono ?_;rintro e w' ⟨rfl,rfl⟩))
   go_ret
   exact ⟨rfl,zh _ _⟩
 cases hn:nameOk name.data.toList with
 | false=>
  have hcode:moveE id node other name.data.toList value.data.toList=4:=by unfold moveE;rw [if_neg hsh,if_pos hn]
  rw [hcode]
  have q0:(node==0)=false:=zl
  have q1:(node==1)=false:=zl
  have q2:(node !=id)=false:=zl
  clear hsh
  clear hcode hln hlv
  go_enter func175,ntmps175
  go_wp2_with (first
| (go_at_call 224;first | (refine (earl_yes _ _ _ zj zj).mono ?_;rintro e w' ⟨rfl,rfl⟩) | (refine (earl_no _ _ _ zj).mono ?_;rintro e w' ⟨rfl,rfl⟩))
| (go_at_call 225;refine (name_is _ _ _ zq zq).mono ?_;rintro e w' ⟨rfl,rfl⟩)
| (go_at_call 226;refine (seen_is _ _ _ zq zq).mono ?_;rintro e w' ⟨rfl,rfl⟩))
  go_ret
  exact ⟨rfl,zh _ _⟩
 | true=>
  by_cases hv:value.data.toList= []
  ·have hcode:moveE id node other name.data.toList value.data.toList=0:=by unfold moveE;rw [if_neg hsh,if_neg yn,if_neg jB]
   rw [hcode]
   have q0:(node==0)=false:=zl
   have q1:(node==1)=false:=zl
   have q2:(node !=id)=false:=zl
   have e1:=empty_yes hv
   clear hsh hv
   clear hcode hln hlv
   go_enter func175,ntmps175
   go_wp2_with (first
| (go_at_call 224;first | (refine (earl_yes _ _ _ zj zj).mono ?_;rintro e w' ⟨rfl,rfl⟩) | (refine (earl_no _ _ _ zj).mono ?_;rintro e w' ⟨rfl,rfl⟩))
| (go_at_call 225;refine (name_is _ _ _ zq zq).mono ?_;rintro e w' ⟨rfl,rfl⟩)
| (go_at_call 226;refine (seen_is _ _ _ zq zq).mono ?_;rintro e w' ⟨rfl,rfl⟩))
   go_ret
   exact ⟨rfl,zh _ _⟩
  have hcode:moveE id node other name.data.toList value.data.toList=3:=xh
  rw [hcode]
  have q0:(node==0)=false:=zl
  have q1:(node==1)=false:=zl
  have q2:(node !=id)=false:=zl
  have e1:=empty_no hv
  clear hsh hv
  clear hcode hln hlv
  go_enter func175,ntmps175
  go_wp2_with (first
| (go_at_call 224;first | (refine (earl_yes _ _ _ zj zj).mono ?_;rintro e w' ⟨rfl,rfl⟩) | (refine (earl_no _ _ _ zj).mono ?_;rintro e w' ⟨rfl,rfl⟩))
| (go_at_call 225;refine (name_is _ _ _ zq zq).mono ?_;rintro e w' ⟨rfl,rfl⟩)
| (go_at_call 226;refine (seen_is _ _ _ zq zq).mono ?_;rintro e w' ⟨rfl,rfl⟩))
  go_ret
  exact ⟨rfl,zh _ _⟩
theorem insert_any (id:Int) (t b n:Int) (k:Nat) (node other:Int) (name value:ByteArray) (w:World) (hE:Op4 ad w) (_hid:4<=id) (_hsn:name.size<=1000000) (hsv:value.size<=1000000):
  Calls prog 176 #[.agg #[.int .i64 t,.int .i64 b,.int .i64 n,.int .u8 (k:Int),.int .i64 node,.int .i64 other,.string name,.string value],.int .i64 id] w fun e w'=>e= .returned (eV ad (insE id node other name.data.toList value.data.toList))/\Below w.heap.size w w':=by
 have g2:=fun o=>(hE.later ((vu _ _).alloc zg o)).c2
 have g3:=fun o=>(hE.later ((vu _ _).alloc zg o)).c3
 have hz2:4<w.heap.size:=vp w ⟨4,0,none⟩ hE.c2
 have hz3:11<w.heap.size:=vp w ⟨11,0,none⟩ hE.c3
 have hln:=listLen name
 have hlv:=listLen value
 clear hE
 by_cases hsh:node<0\/id<=node\/other<0\/id<=other
 ·rcases (by omega:(node<0\/id<=node)\/((0<=node/\node<id)/\(other<0\/id<=other))) with h | ⟨⟨h,h'⟩,h3⟩
  ·have hcode:insE id node other name.data.toList value.data.toList=3:=by unfold insE;rw [if_pos zj]
   rw [hcode]
   clear hsh
   clear hcode hln hlv
   go_enter func176,ntmps176
   go_wp2_with (first
  | (go_at_call 224;first | (refine (earl_yes _ _ _ zj zj).mono ?_;rintro e w' ⟨rfl,rfl⟩) | (refine (earl_no _ _ _ zj).mono ?_;rintro e w' ⟨rfl,rfl⟩))
  | (go_at_call 225;refine (name_is _ _ _ zq zq).mono ?_;rintro e w' ⟨rfl,rfl⟩)
  | (go_at_call 226;refine (seen_is _ _ _ zq zq).mono ?_;rintro e w' ⟨rfl,rfl⟩))
   go_ret
   exact ⟨rfl,zh _ _⟩
  have hcode:insE id node other name.data.toList value.data.toList=3:=by unfold insE;rw [if_pos zj]
  rw [hcode]
  clear hsh
  clear hcode hln hlv
  go_enter func176,ntmps176
  go_wp2_with (first
 | (go_at_call 224;first | (refine (earl_yes _ _ _ zj zj).mono ?_;rintro e w' ⟨rfl,rfl⟩) | (refine (earl_no _ _ _ zj).mono ?_;rintro e w' ⟨rfl,rfl⟩))
 | (go_at_call 225;refine (name_is _ _ _ zq zq).mono ?_;rintro e w' ⟨rfl,rfl⟩)
 | (go_at_call 226;refine (seen_is _ _ _ zq zq).mono ?_;rintro e w' ⟨rfl,rfl⟩))
  go_ret
  exact ⟨rfl,zh _ _⟩
 obtain ⟨h1,h2,h3,h4⟩:0<=node/\node<id/\0<=other/\other<id:=zj
 by_cases hn:name.data.toList= []
 ·have e1:=empty_yes hn
  by_cases hv:value.size=1
  ·have e2:((value.size:Int) !=1)=false:=by simp;omega
   cases hp:seenOk value.data.toList with
   | false=>
    have hcode:insE id node other name.data.toList value.data.toList=3:=by unfold insE;rw [if_neg hsh,if_neg yn,if_pos (.inr hp)]
    rw [hcode]
    clear hsh hn hv
    clear hcode hln hlv
    go_enter func176,ntmps176
    go_wp2_with (first
 | (go_at_call 224;first | (refine (earl_yes _ _ _ zj zj).mono ?_;rintro e w' ⟨rfl,rfl⟩) | (refine (earl_no _ _ _ zj).mono ?_;rintro e w' ⟨rfl,rfl⟩))
 | (go_at_call 225;refine (name_is _ _ _ zq zq).mono ?_;rintro e w' ⟨rfl,rfl⟩)
 | (go_at_call 226;refine (seen_is _ _ _ zq zq).mono ?_;rintro e w' ⟨rfl,rfl⟩))
    go_ret
    exact ⟨rfl,zh _ _⟩
   | true=>
    have hcode:insE id node other name.data.toList value.data.toList=0:=by unfold insE;rw [if_neg hsh,if_neg yn,if_neg (by rw [hp,hlv];simp;omega)]
    rw [hcode]
    clear hsh hn hv
    clear hcode hln hlv
    go_enter func176,ntmps176
    go_wp2_with (first
 | (go_at_call 224;first | (refine (earl_yes _ _ _ zj zj).mono ?_;rintro e w' ⟨rfl,rfl⟩) | (refine (earl_no _ _ _ zj).mono ?_;rintro e w' ⟨rfl,rfl⟩))
 | (go_at_call 225;refine (name_is _ _ _ zq zq).mono ?_;rintro e w' ⟨rfl,rfl⟩)
 | (go_at_call 226;refine (seen_is _ _ _ zq zq).mono ?_;rintro e w' ⟨rfl,rfl⟩))
    go_ret
    exact ⟨rfl,zh _ _⟩
  have e2:((value.size:Int) !=1)=true:=zl
  have hcode:insE id node other name.data.toList value.data.toList=3:=by unfold insE;rw [if_neg hsh,if_neg yn,if_pos (.inl zj)]
  rw [hcode]
  clear hsh hn hv
  clear hcode hln hlv
  go_enter func176,ntmps176
  go_wp2_with (first
| (go_at_call 224;first | (refine (earl_yes _ _ _ zj zj).mono ?_;rintro e w' ⟨rfl,rfl⟩) | (refine (earl_no _ _ _ zj).mono ?_;rintro e w' ⟨rfl,rfl⟩))
| (go_at_call 225;refine (name_is _ _ _ zq zq).mono ?_;rintro e w' ⟨rfl,rfl⟩)
| (go_at_call 226;refine (seen_is _ _ _ zq zq).mono ?_;rintro e w' ⟨rfl,rfl⟩))
  go_ret
  exact ⟨rfl,zh _ _⟩
 have e1:=empty_no hn
 have hcode:insE id node other name.data.toList value.data.toList=4:=by unfold insE;rw [if_neg hsh,if_pos hn]
 rw [hcode]
 clear hsh hn
 clear hcode hln hlv
 go_enter func176,ntmps176
 go_wp2_with (first
| (go_at_call 224;first | (refine (earl_yes _ _ _ zj zj).mono ?_;rintro e w' ⟨rfl,rfl⟩) | (refine (earl_no _ _ _ zj).mono ?_;rintro e w' ⟨rfl,rfl⟩))
| (go_at_call 225;refine (name_is _ _ _ zq zq).mono ?_;rintro e w' ⟨rfl,rfl⟩)
| (go_at_call 226;refine (seen_is _ _ _ zq zq).mono ?_;rintro e w' ⟨rfl,rfl⟩))
 go_ret
 exact ⟨rfl,zh _ _⟩
theorem delete_any (id:Int) (t b n:Int) (k:Nat) (node other:Int) (name value:ByteArray) (w:World) (hE:Op4 ad w) (hid:4<=id) (_hsn:name.size<=1000000) (_hsv:value.size<=1000000):
  Calls prog 177 #[.agg #[.int .i64 t,.int .i64 b,.int .i64 n,.int .u8 (k:Int),.int .i64 node,.int .i64 other,.string name,.string value],.int .i64 id] w fun e w'=>e= .returned (eV ad (delE id node other name.data.toList value.data.toList))/\Below w.heap.size w w':=by
 have g2:=fun o=>(hE.later ((vu _ _).alloc zg o)).c2
 have g3:=fun o=>(hE.later ((vu _ _).alloc zg o)).c3
 have hz2:4<w.heap.size:=vp w ⟨4,0,none⟩ hE.c2
 have hz3:11<w.heap.size:=vp w ⟨11,0,none⟩ hE.c3
 have hln:=listLen name
 have hlv:=listLen value
 clear hE
 by_cases hsh:node<0\/id<=node\/other<0\/id<=other\/other=0
 ·rcases (by omega:(node<0\/id<=node)\/((0<=node/\node<id)/\(other<0\/id<=other))\/(0<=node/\node<id/\other=0)) with h | ⟨⟨h,h'⟩,h3⟩ | ⟨h,h',h3⟩
  ·have hcode:delE id node other name.data.toList value.data.toList=3:=by unfold delE;rw [if_pos zj]
   rw [hcode]
   clear hsh
   clear hcode hln hlv
   go_enter func177,ntmps177
   go_wp2_with (first
  | (go_at_call 224;first | (refine (earl_yes _ _ _ zj zj).mono ?_;rintro e w' ⟨rfl,rfl⟩) | (refine (earl_no _ _ _ zj).mono ?_;rintro e w' ⟨rfl,rfl⟩))
  | (go_at_call 225;refine (name_is _ _ _ zq zq).mono ?_;rintro e w' ⟨rfl,rfl⟩)
  | (go_at_call 226;refine (seen_is _ _ _ zq zq).mono ?_;rintro e w' ⟨rfl,rfl⟩))
   go_ret
   exact ⟨rfl,zh _ _⟩
  ·have hcode:delE id node other name.data.toList value.data.toList=3:=by unfold delE;rw [if_pos zj]
   rw [hcode]
   clear hsh
   clear hcode hln hlv
   go_enter func177,ntmps177
   go_wp2_with (first
  | (go_at_call 224;first | (refine (earl_yes _ _ _ zj zj).mono ?_;rintro e w' ⟨rfl,rfl⟩) | (refine (earl_no _ _ _ zj).mono ?_;rintro e w' ⟨rfl,rfl⟩))
  | (go_at_call 225;refine (name_is _ _ _ zq zq).mono ?_;rintro e w' ⟨rfl,rfl⟩)
  | (go_at_call 226;refine (seen_is _ _ _ zq zq).mono ?_;rintro e w' ⟨rfl,rfl⟩))
   go_ret
   exact ⟨rfl,zh _ _⟩
  have hcode:delE id node other name.data.toList value.data.toList=3:=by unfold delE;rw [if_pos zj]
  rw [hcode]
  have q0:(other==0)=true:=zl
  clear hsh
  clear hcode hln hlv
  go_enter func177,ntmps177
  go_wp2_with (first
 | (go_at_call 224;first | (refine (earl_yes _ _ _ zj zj).mono ?_;rintro e w' ⟨rfl,rfl⟩) | (refine (earl_no _ _ _ zj).mono ?_;rintro e w' ⟨rfl,rfl⟩))
 | (go_at_call 225;refine (name_is _ _ _ zq zq).mono ?_;rintro e w' ⟨rfl,rfl⟩)
 | (go_at_call 226;refine (seen_is _ _ _ zq zq).mono ?_;rintro e w' ⟨rfl,rfl⟩))
  go_ret
  exact ⟨rfl,zh _ _⟩
 obtain ⟨h1,h2,h3,h4,h5⟩:0<=node/\node<id/\0<=other/\other<id/\other≠0:=zj
 have q0:(other==0)=false:=zl
 by_cases hn:name.data.toList= []
 ·have e1:=empty_yes hn
  by_cases hv:value.data.toList= []
  ·have e2:=empty_yes hv
   have hcode:delE id node other name.data.toList value.data.toList=0:=by unfold delE;rw [if_neg hsh,if_neg yn,if_neg jB]
   rw [hcode]
   clear hsh hn hv
   clear hcode hln hlv
   go_enter func177,ntmps177
   go_wp2_with (first
 | (go_at_call 224;first | (refine (earl_yes _ _ _ zj zj).mono ?_;rintro e w' ⟨rfl,rfl⟩) | (refine (earl_no _ _ _ zj).mono ?_;rintro e w' ⟨rfl,rfl⟩))
 | (go_at_call 225;refine (name_is _ _ _ zq zq).mono ?_;rintro e w' ⟨rfl,rfl⟩)
 | (go_at_call 226;refine (seen_is _ _ _ zq zq).mono ?_;rintro e w' ⟨rfl,rfl⟩))
   go_ret
   exact ⟨rfl,zh _ _⟩
  have e2:=empty_no hv
  have hcode:delE id node other name.data.toList value.data.toList=3:=by unfold delE;rw [if_neg hsh,if_neg yn,if_pos hv]
  rw [hcode]
  clear hsh hn hv
  clear hcode hln hlv
  go_enter func177,ntmps177
  go_wp2_with (first
| (go_at_call 224;first | (refine (earl_yes _ _ _ zj zj).mono ?_;rintro e w' ⟨rfl,rfl⟩) | (refine (earl_no _ _ _ zj).mono ?_;rintro e w' ⟨rfl,rfl⟩))
| (go_at_call 225;refine (name_is _ _ _ zq zq).mono ?_;rintro e w' ⟨rfl,rfl⟩)
| (go_at_call 226;refine (seen_is _ _ _ zq zq).mono ?_;rintro e w' ⟨rfl,rfl⟩))
  go_ret
  exact ⟨rfl,zh _ _⟩
 have e1:=empty_no hn
 have hcode:delE id node other name.data.toList value.data.toList=4:=by unfold delE;rw [if_neg hsh,if_pos hn]
 rw [hcode]
 clear hsh hn
 clear hcode hln hlv
 go_enter func177,ntmps177
 go_wp2_with (first
| (go_at_call 224;first | (refine (earl_yes _ _ _ zj zj).mono ?_;rintro e w' ⟨rfl,rfl⟩) | (refine (earl_no _ _ _ zj).mono ?_;rintro e w' ⟨rfl,rfl⟩))
| (go_at_call 225;refine (name_is _ _ _ zq zq).mono ?_;rintro e w' ⟨rfl,rfl⟩)
| (go_at_call 226;refine (seen_is _ _ _ zq zq).mono ?_;rintro e w' ⟨rfl,rfl⟩))
 go_ret
 exact ⟨rfl,zh _ _⟩
theorem set_any (id:Int) (t b n:Int) (k:Nat) (node other:Int) (name value:ByteArray) (w:World) (hE:Op4 ad w) (_hid:4<=id) (hsn:name.size<=1000000) (hsv:value.size<=1000000):
  Calls prog 178 #[.agg #[.int .i64 t,.int .i64 b,.int .i64 n,.int .u8 (k:Int),.int .i64 node,.int .i64 other,.string name,.string value],.int .i64 id] w fun e w'=>e= .returned (eV ad (setE id node other name.data.toList value.data.toList))/\Below w.heap.size w w':=by
 have g2:=fun o=>(hE.later ((vu _ _).alloc zg o)).c2
 have g3:=fun o=>(hE.later ((vu _ _).alloc zg o)).c3
 have hz2:4<w.heap.size:=vp w ⟨4,0,none⟩ hE.c2
 have hz3:11<w.heap.size:=vp w ⟨11,0,none⟩ hE.c3
 have hln:=listLen name
 have hlv:=listLen value
 clear hE
 by_cases hsh:node<0\/id<=node\/other≠0
 ·rcases (by omega:(node<0\/id<=node)\/(0<=node/\node<id/\other≠0)) with h | ⟨h,h',h3⟩
  ·have hcode:setE id node other name.data.toList value.data.toList=3:=by unfold setE;rw [if_pos zj]
   rw [hcode]
   clear hsh
   clear hcode hln hlv
   go_enter func178,ntmps178
   go_wp2_with (first
  | (go_at_call 224;first | (refine (earl_yes _ _ _ zj zj).mono ?_;rintro e w' ⟨rfl,rfl⟩) | (refine (earl_no _ _ _ zj).mono ?_;rintro e w' ⟨rfl,rfl⟩))
  | (go_at_call 225;refine (name_is _ _ _ zq zq).mono ?_;rintro e w' ⟨rfl,rfl⟩)
  | (go_at_call 226;refine (seen_is _ _ _ zq zq).mono ?_;rintro e w' ⟨rfl,rfl⟩))
   go_ret
   exact ⟨rfl,zh _ _⟩
  have hcode:setE id node other name.data.toList value.data.toList=3:=by unfold setE;rw [if_pos zj]
  rw [hcode]
  have q0:(other !=0)=true:=zl
  clear hsh
  clear hcode hln hlv
  go_enter func178,ntmps178
  go_wp2_with (first
 | (go_at_call 224;first | (refine (earl_yes _ _ _ zj zj).mono ?_;rintro e w' ⟨rfl,rfl⟩) | (refine (earl_no _ _ _ zj).mono ?_;rintro e w' ⟨rfl,rfl⟩))
 | (go_at_call 225;refine (name_is _ _ _ zq zq).mono ?_;rintro e w' ⟨rfl,rfl⟩)
 | (go_at_call 226;refine (seen_is _ _ _ zq zq).mono ?_;rintro e w' ⟨rfl,rfl⟩))
  go_ret
  exact ⟨rfl,zh _ _⟩
 obtain ⟨h1,h2,h3⟩:0<=node/\node<id/\other=0:=zj
 have q0:(other !=0)=false:=zl
 cases hn:nameOk name.data.toList with
 | false=>
  have hcode:setE id node other name.data.toList value.data.toList=4:=by unfold setE;rw [if_neg hsh,if_pos hn]
  rw [hcode]
  clear hsh
  clear hcode hln hlv
  go_enter func178,ntmps178
  go_wp2_with (first
 | (go_at_call 224;first | (refine (earl_yes _ _ _ zj zj).mono ?_;rintro e w' ⟨rfl,rfl⟩) | (refine (earl_no _ _ _ zj).mono ?_;rintro e w' ⟨rfl,rfl⟩))
 | (go_at_call 225;refine (name_is _ _ _ zq zq).mono ?_;rintro e w' ⟨rfl,rfl⟩)
 | (go_at_call 226;refine (seen_is _ _ _ zq zq).mono ?_;rintro e w' ⟨rfl,rfl⟩))
  go_ret
  exact ⟨rfl,zh _ _⟩
 | true=>
  by_cases hv:12<value.size
  ·have e2:decide (12<(value.size:Int))=true:=by simp;omega
   have hcode:setE id node other name.data.toList value.data.toList=3:=by unfold setE;rw [if_neg hsh,if_neg yn,if_pos (.inl zj)]
   rw [hcode]
   clear hsh
   clear hcode hln hlv
   go_enter func178,ntmps178
   go_wp2_with (first
 | (go_at_call 224;first | (refine (earl_yes _ _ _ zj zj).mono ?_;rintro e w' ⟨rfl,rfl⟩) | (refine (earl_no _ _ _ zj).mono ?_;rintro e w' ⟨rfl,rfl⟩))
 | (go_at_call 225;refine (name_is _ _ _ zq zq).mono ?_;rintro e w' ⟨rfl,rfl⟩)
 | (go_at_call 226;refine (seen_is _ _ _ zq zq).mono ?_;rintro e w' ⟨rfl,rfl⟩))
   go_ret
   exact ⟨rfl,zh _ _⟩
  have e2:decide (12<(value.size:Int))=false:=zl
  cases hp:seenOk value.data.toList with
  | false=>
   have hcode:setE id node other name.data.toList value.data.toList=3:=by unfold setE;rw [if_neg hsh,if_neg yn,if_pos (.inr hp)]
   rw [hcode]
   clear hsh
   clear hcode hln hlv
   go_enter func178,ntmps178
   go_wp2_with (first
| (go_at_call 224;first | (refine (earl_yes _ _ _ zj zj).mono ?_;rintro e w' ⟨rfl,rfl⟩) | (refine (earl_no _ _ _ zj).mono ?_;rintro e w' ⟨rfl,rfl⟩))
| (go_at_call 225;refine (name_is _ _ _ zq zq).mono ?_;rintro e w' ⟨rfl,rfl⟩)
| (go_at_call 226;refine (seen_is _ _ _ zq zq).mono ?_;rintro e w' ⟨rfl,rfl⟩))
   go_ret
   exact ⟨rfl,zh _ _⟩
  | true=>
   have hcode:setE id node other name.data.toList value.data.toList=0:=by unfold setE;rw [if_neg hsh,if_neg yn,if_neg (by rw [hp,hlv];simp;omega)]
   rw [hcode]
   clear hsh
   clear hcode hln hlv
   go_enter func178,ntmps178
   go_wp2_with (first
| (go_at_call 224;first | (refine (earl_yes _ _ _ zj zj).mono ?_;rintro e w' ⟨rfl,rfl⟩) | (refine (earl_no _ _ _ zj).mono ?_;rintro e w' ⟨rfl,rfl⟩))
| (go_at_call 225;refine (name_is _ _ _ zq zq).mono ?_;rintro e w' ⟨rfl,rfl⟩)
| (go_at_call 226;refine (seen_is _ _ _ zq zq).mono ?_;rintro e w' ⟨rfl,rfl⟩))
   go_ret
   exact ⟨rfl,zh _ _⟩
theorem opcheck_any (t b n:Int) (k:Nat) (node other:Int) (name value:ByteArray) (w:World) (hE:Op4 ad w) (hsn:name.size<=1000000) (hsv:value.size<=1000000):
  Calls prog 122 #[.agg #[.int .i64 t,.int .i64 b,.int .i64 n,.int .u8 (k:Int),.int .i64 node,.int .i64 other,.string name,.string value]] w fun e w'=>e= .returned (eV ad (opE t b n k node other name.data.toList value.data.toList))/\Below w.heap.size w w':=by
 have O0:=OpAt.new w t b n k node other name value 41
 have E0:=hE.later ((vu _ _).alloc zg (.cells #[.int .i64 t,.int .i64 b,.int .i64 n,.int .u8 (k:Int),.int .i64 node,.int .i64 other,.string name,.string value] 41))
 have B0:Below w.heap.size w (w.alloc (.cells #[.int .i64 t,.int .i64 b,.int .i64 n,.int .u8 (k:Int),.int .i64 node,.int .i64 other,.string name,.string value] 41)):=zh _ _
 by_cases hst:1<=t/\t<=1073741824/\0<=b/\b<4
 ·obtain ⟨s1,s2,s3,s4⟩:=hst
  by_cases h1:n<1
  ·have hcode:opE t b n k node other name.data.toList value.data.toList=2:=by unfold opE;rw [if_neg zj]
   rw [hcode]
   have d1:decide (n<1)=true:=zl
   clear hcode
   go_enter func122,ntmps122
   go_wp2_with fail
   generalize w.alloc (.cells #[.int .i64 t,.int .i64 b,.int .i64 n,.int .u8 (k:Int),.int .i64 node,.int .i64 other,.string name,.string value] 41)=u at O0 E0 B0 |-
   refine (id_ok _ _ _ s1 s2 s3 s4).mono ?_
   rintro e w1 ⟨rfl,hb⟩
   have O1:=O0.later hb
   have E1:=E0.later hb
   have B1:Below w.heap.size w w1:=zi B0 hb
   clear hb O0 E0 B0
   have z1:=vp w1 ⟨w.heap.size,0,none⟩ O1.c0
   obtain ⟨x0,x1,x2,x3,x4,x5,x6,x7⟩:=O1
   obtain ⟨y1,y2,y3,y4⟩:=id E1
   go_wp2
   go_ret
   exact ⟨rfl,B1⟩
  have d1:decide (n<1)=false:=zl
  by_cases h2:400<n
  ·have d2:decide (400<n)=true:=by simp;omega
   have hcode:opE t b n k node other name.data.toList value.data.toList=2:=by unfold opE;rw [if_neg zj]
   rw [hcode]
   clear hcode
   go_enter func122,ntmps122
   go_wp2_with fail
   generalize w.alloc (.cells #[.int .i64 t,.int .i64 b,.int .i64 n,.int .u8 (k:Int),.int .i64 node,.int .i64 other,.string name,.string value] 41)=u at O0 E0 B0 |-
   refine (id_ok _ _ _ s1 s2 s3 s4).mono ?_
   rintro e w1 ⟨rfl,hb⟩
   have O1:=O0.later hb
   have E1:=E0.later hb
   have B1:Below w.heap.size w w1:=zi B0 hb
   clear hb O0 E0 B0
   have z1:=vp w1 ⟨w.heap.size,0,none⟩ O1.c0
   obtain ⟨x0,x1,x2,x3,x4,x5,x6,x7⟩:=O1
   obtain ⟨y1,y2,y3,y4⟩:=id E1
   go_wp2
   go_ret
   exact ⟨rfl,B1⟩
  have d2:decide (400<n)=false:=zl
  by_cases hk109:k=109
  ·have r109:((k:Int)==109)=true:=by simp;omega
   have hcode:opE t b n k node other name.data.toList value.data.toList=moveE (t*4+b) node other name.data.toList value.data.toList:=by unfold opE;rw [if_pos zj];unfold kindE;rw [if_pos hk109]
   rw [hcode]
   clear hk109
   clear hcode
   go_enter func122,ntmps122
   go_wp2_with fail
   generalize w.alloc (.cells #[.int .i64 t,.int .i64 b,.int .i64 n,.int .u8 (k:Int),.int .i64 node,.int .i64 other,.string name,.string value] 41)=u at O0 E0 B0 |-
   refine (id_ok _ _ _ s1 s2 s3 s4).mono ?_
   rintro e w1 ⟨rfl,hb⟩
   have O1:=O0.later hb
   have E1:=E0.later hb
   have B1:Below w.heap.size w w1:=zi B0 hb
   clear hb O0 E0 B0
   have z1:=vp w1 ⟨w.heap.size,0,none⟩ O1.c0
   obtain ⟨x0,x1,x2,x3,x4,x5,x6,x7⟩:=O1
   obtain ⟨y1,y2,y3,y4⟩:=id E1
   go_wp2_with fail
   refine (move_any (t*4+b) t b n k node other name value w1 E1 zj hsn hsv).mono ?_
   rintro e w2 ⟨rfl,hb⟩
   have B2:Below w.heap.size w w2:=zi B1 hb
   clear hb x0 x1 x2 x3 x4 x5 x6 x7 y1 y2 y3 y4 B1 E1
   go_wp2
   go_ret
   exact ⟨rfl,B2⟩
  have r109:((k:Int)==109)=false:=zl
  by_cases hk105:k=105
  ·have r105:((k:Int)==105)=true:=by simp;omega
   have hcode:opE t b n k node other name.data.toList value.data.toList=insE (t*4+b) node other name.data.toList value.data.toList:=by unfold opE;rw [if_pos zj];unfold kindE;rw [if_neg hk109];rw [if_pos hk105]
   rw [hcode]
   clear hk109 hk105
   clear hcode
   go_enter func122,ntmps122
   go_wp2_with fail
   generalize w.alloc (.cells #[.int .i64 t,.int .i64 b,.int .i64 n,.int .u8 (k:Int),.int .i64 node,.int .i64 other,.string name,.string value] 41)=u at O0 E0 B0 |-
   refine (id_ok _ _ _ s1 s2 s3 s4).mono ?_
   rintro e w1 ⟨rfl,hb⟩
   have O1:=O0.later hb
   have E1:=E0.later hb
   have B1:Below w.heap.size w w1:=zi B0 hb
   clear hb O0 E0 B0
   have z1:=vp w1 ⟨w.heap.size,0,none⟩ O1.c0
   obtain ⟨x0,x1,x2,x3,x4,x5,x6,x7⟩:=O1
   obtain ⟨y1,y2,y3,y4⟩:=id E1
   go_wp2_with fail
   refine (insert_any (t*4+b) t b n k node other name value w1 E1 zj hsn hsv).mono ?_
   rintro e w2 ⟨rfl,hb⟩
   have B2:Below w.heap.size w w2:=zi B1 hb
   clear hb x0 x1 x2 x3 x4 x5 x6 x7 y1 y2 y3 y4 B1 E1
   go_wp2
   go_ret
   exact ⟨rfl,B2⟩
  have r105:((k:Int)==105)=false:=zl
  by_cases hk100:k=100
  ·have r100:((k:Int)==100)=true:=by simp;omega
   have hcode:opE t b n k node other name.data.toList value.data.toList=delE (t*4+b) node other name.data.toList value.data.toList:=by unfold opE;rw [if_pos zj];unfold kindE;rw [if_neg hk109];rw [if_neg hk105];rw [if_pos hk100]
   rw [hcode]
   clear hk109 hk105 hk100
   clear hcode
   go_enter func122,ntmps122
   go_wp2_with fail
   generalize w.alloc (.cells #[.int .i64 t,.int .i64 b,.int .i64 n,.int .u8 (k:Int),.int .i64 node,.int .i64 other,.string name,.string value] 41)=u at O0 E0 B0 |-
   refine (id_ok _ _ _ s1 s2 s3 s4).mono ?_
   rintro e w1 ⟨rfl,hb⟩
   have O1:=O0.later hb
   have E1:=E0.later hb
   have B1:Below w.heap.size w w1:=zi B0 hb
   clear hb O0 E0 B0
   have z1:=vp w1 ⟨w.heap.size,0,none⟩ O1.c0
   obtain ⟨x0,x1,x2,x3,x4,x5,x6,x7⟩:=O1
   obtain ⟨y1,y2,y3,y4⟩:=id E1
   go_wp2_with fail
   refine (delete_any (t*4+b) t b n k node other name value w1 E1 zj hsn hsv).mono ?_
   rintro e w2 ⟨rfl,hb⟩
   have B2:Below w.heap.size w w2:=zi B1 hb
   clear hb x0 x1 x2 x3 x4 x5 x6 x7 y1 y2 y3 y4 B1 E1
   go_wp2
   go_ret
   exact ⟨rfl,B2⟩
  have r100:((k:Int)==100)=false:=zl
  by_cases hk115:k=115
  ·have r115:((k:Int)==115)=true:=by simp;omega
   have hcode:opE t b n k node other name.data.toList value.data.toList=setE (t*4+b) node other name.data.toList value.data.toList:=by unfold opE;rw [if_pos zj];unfold kindE;rw [if_neg hk109];rw [if_neg hk105];rw [if_neg hk100];rw [if_pos hk115]
   rw [hcode]
   clear hk109 hk105 hk100 hk115
   clear hcode
   go_enter func122,ntmps122
   go_wp2_with fail
   generalize w.alloc (.cells #[.int .i64 t,.int .i64 b,.int .i64 n,.int .u8 (k:Int),.int .i64 node,.int .i64 other,.string name,.string value] 41)=u at O0 E0 B0 |-
   refine (id_ok _ _ _ s1 s2 s3 s4).mono ?_
   rintro e w1 ⟨rfl,hb⟩
   have O1:=O0.later hb
   have E1:=E0.later hb
   have B1:Below w.heap.size w w1:=zi B0 hb
   clear hb O0 E0 B0
   have z1:=vp w1 ⟨w.heap.size,0,none⟩ O1.c0
   obtain ⟨x0,x1,x2,x3,x4,x5,x6,x7⟩:=O1
   obtain ⟨y1,y2,y3,y4⟩:=id E1
   go_wp2_with fail
   refine (set_any (t*4+b) t b n k node other name value w1 E1 zj hsn hsv).mono ?_
   rintro e w2 ⟨rfl,hb⟩
   have B2:Below w.heap.size w w2:=zi B1 hb
   clear hb x0 x1 x2 x3 x4 x5 x6 x7 y1 y2 y3 y4 B1 E1
   go_wp2
   go_ret
   exact ⟨rfl,B2⟩
  have r115:((k:Int)==115)=false:=zl
  have hcode:opE t b n k node other name.data.toList value.data.toList=5:=by unfold opE;rw [if_pos zj];unfold kindE;rw [if_neg hk109];rw [if_neg hk105];rw [if_neg hk100];rw [if_neg hk115]
  rw [hcode]
  clear hk109 hk105 hk100 hk115
  clear hcode
  go_enter func122,ntmps122
  go_wp2_with fail
  generalize w.alloc (.cells #[.int .i64 t,.int .i64 b,.int .i64 n,.int .u8 (k:Int),.int .i64 node,.int .i64 other,.string name,.string value] 41)=u at O0 E0 B0 |-
  refine (id_ok _ _ _ s1 s2 s3 s4).mono ?_
  rintro e w1 ⟨rfl,hb⟩
  have O1:=O0.later hb
  have E1:=E0.later hb
  have B1:Below w.heap.size w w1:=zi B0 hb
  clear hb O0 E0 B0
  have z1:=vp w1 ⟨w.heap.size,0,none⟩ O1.c0
  obtain ⟨x0,x1,x2,x3,x4,x5,x6,x7⟩:=O1
  obtain ⟨y1,y2,y3,y4⟩:=id E1
  go_wp2
  go_ret
  exact ⟨rfl,B1⟩
 have hcode:opE t b n k node other name.data.toList value.data.toList=2:=by unfold opE;rw [if_neg zj]
 rw [hcode]
 have HS:=Lib.hid hst
 clear hcode hst
 go_enter func122,ntmps122
 go_wp2_with fail
 generalize w.alloc (.cells #[.int .i64 t,.int .i64 b,.int .i64 n,.int .u8 (k:Int),.int .i64 node,.int .i64 other,.string name,.string value] 41)=u at O0 E0 B0 |-
 refine (id_no t b u _ _ E0.c1 (vp u ⟨0,0,none⟩ E0.c1) HS.o).mono ?_
 rintro e w1 ⟨rfl,hb⟩
 have B1:Below w.heap.size w w1:=zi B0 hb
 clear hb O0 E0 B0
 go_wp2
 go_ret
 exact ⟨rfl,B1⟩
end
section
open Go.RowKit
def Cyc (ad:Nat->Addr):Prop:=ad 100=⟨1,0,none⟩
structure EnvE (B:Nat) (ad:Nat->Addr) (w:World):Prop where
 op4:Op4 ad w
 c5:w.cell? ⟨1,0,none⟩=some (.iface 350 (.pointer (some (ad 5))))
 c6:w.cell? ⟨6,0,none⟩=some (.iface 350 (.pointer (some (ad 6))))
 c7:w.cell? ⟨2,0,none⟩=some (.iface 350 (.pointer (some (ad 7))))
 c8:w.cell? ⟨7,0,none⟩=some (.iface 350 (.pointer (some (ad 8))))
 c9:Cyc ad->w.cell? ⟨8,0,none⟩=some (.iface 350 (.pointer (some (ad 9))))
 low:13<=B
 size:B<=w.heap.size
theorem EnvE.mono (h:EnvE B ad w) (hb:Below B w w'):EnvE B ad w':=by
 have hl:=h.low
 have k:∀g v,g<B->w.cell? ⟨g,0,none⟩=some v->w'.cell? ⟨g,0,none⟩=some v:=fun g v hg e=>(hb.cell (p:=⟨g,0,none⟩) hg).trans e
 exact ⟨⟨k _ _ zj h.op4.c1,k _ _ zj h.op4.c2,k _ _ zj h.op4.c3,k _ _ zj h.op4.c4⟩,k _ _ zj h.c5,k _ _ zj h.c6,k _ _ zj h.c7,k _ _ zj h.c8,fun q=>k _ _ zj (h.c9 q),hl,vr h.size hb.size⟩
theorem EnvE.later (h:EnvE B ad w) (hb:Below w.heap.size w w'):EnvE B ad w':=h.mono (hb.mono h.size)
end
section
open Go.ChangeShapes Go.WideShapes Go.ChangeAt Go.RowKit Go.Joins
theorem cellsOp:prog.cellsOf 41=8:=zk
theorem cellsStamp2:prog.cellsOf 39=2:=zk
theorem cellsByte1:prog.cellsOf 5=1:=zk
theorem cellsStr1:prog.cellsOf 9=1:=zk
def opD (H:Type) (t b n:Int) (k:Nat) (node other:Int) (name value:ByteArray):DataW H:=.agg [.agg [.lit (.int .i64 t),.lit (.int .i64 b)],.lit (.int .i64 n),.lit (.int .u8 (k:Int)),.lit (.int .i64 node),.lit (.int .i64 other),.lit (.string name.data.toList),.lit (.string value.data.toList)]
structure OpWf (t b n:Int) (k:Nat) (node other:Int) (name value:ByteArray):Prop where
 t:(Lit.int .i64 t).wf=true
 b:(Lit.int .i64 b).wf=true
 n:(Lit.int .i64 n).wf=true
 k:(Lit.int .u8 (k:Int)).wf=true
 node:(Lit.int .i64 node).wf=true
 other:(Lit.int .i64 other).wf=true
 name:name.size<=maxLen
 value:value.size<=maxLen
theorem array8 {α:Type} {cs:List α} (h:cs.length=8):∃c0 c1 c2 c3 c4 c5 c6 c7,cs= [c0,c1,c2,c3,c4,c5,c6,c7]:=by
 match cs,h with
 | [c0,c1,c2,c3,c4,c5,c6,c7],_=>exact ⟨c0,c1,c2,c3,c4,c5,c6,c7,rfl⟩
theorem trod_op {H:Type} {enc:TypeId×Value->H} {W:World} {base:Nat} {sp:Nat->Bool} {held:Bool} {fuel:Nat} {cs:List Value} {x:DataW H×List MemPlace} (h:DataW.trod enc prog W base sp held fuel 41 cs=some x):
  ∃(t b n:Int) (k:Nat) (node other:Int) (name value:ByteArray),cs= [.int .i64 t,.int .i64 b,.int .i64 n,.int .u8 (k:Int),.int .i64 node,.int .i64 other,.string name,.string value]/\x=(opD H t b n k node other name value,[])/\OpWf t b n k node other name value:=by
 obtain ⟨xs,m,_,rfl,hl,hlen,hf⟩:=DataW.trod_struct underlying41 h
 rw [cellsOp] at hl
 obtain ⟨c0,c1,c2,c3,c4,c5,c6,c7,rfl⟩:=array8 hl
 match xs,hlen with
 | [y0,y1,y2,y3,y4,y5,y6],_=>
  have g0:=hf 0 _ rfl
  have g1:=hf 1 _ rfl
  have g2:=hf 2 _ rfl
  have g3:=hf 3 _ rfl
  have g4:=hf 4 _ rfl
  have g5:=hf 5 _ rfl
  have g6:=hf 6 _ rfl
  simp [cellsStamp2,cellsInt,cellsByte1,cellsStr1] at g0 g1 g2 g3 g4 g5 g6
  obtain ⟨z0,z1,m2,rfl,-,s0,s1⟩:=trod_struct2 underlying39 g0
  simp [cellsInt] at s0 s1
  obtain ⟨t,e0,rfl,w0⟩:=DataW.trod_int underlying3 s0
  obtain ⟨b,e1,rfl,w1⟩:=DataW.trod_int underlying3 s1
  obtain ⟨n,e2,rfl,w2⟩:=DataW.trod_int underlying3 g1
  obtain ⟨k,e3,rfl,w3⟩:=DataW.trod_int underlying5 g2
  obtain ⟨node,e4,rfl,w4⟩:=DataW.trod_int underlying3 g3
  obtain ⟨other,e5,rfl,w5⟩:=DataW.trod_int underlying3 g4
  obtain ⟨name,e6,rfl,w6⟩:=DataW.trod_string underlying9 g5
  obtain ⟨value,e7,rfl,w7⟩:=DataW.trod_string underlying9 g6
  simp at e0 e1 e2 e3 e4 e5 e6 e7
  subst e0 e1 e2 e3 e4 e5 e6 e7
  have hk:0<=k:=by
   simp [Lit.wf,IntKind.min,IntKind.max,IntKind.signed,IntKind.bits] at w3
   omega
  obtain ⟨k',rfl⟩:∃k':Nat,k=(k':Int):=⟨k.toNat,zj⟩
  exact ⟨t,b,n,k',node,other,name,value,rfl,by simp [opD],⟨w0,w1,w2,w3,w4,w5,w6,w7⟩⟩
end
section
open Go.RowKit
theorem tdiv_neg_le (n:Int) (h:n<0):n.tdiv 4<=0:=by
 have e:n.tdiv 4= -((-n).tdiv 4):=by rw [Int.neg_tdiv];omega
 have e2:(-n).tdiv 4=(-n) / 4:=Int.tdiv_eq_ediv_of_nonneg zj
 omega
theorem of_no_neg (n:Int) (w:World) (u:TypeId) (x:Value) (hg:w.cell? ⟨0,0,none⟩=some (.iface u x)) (hz:0<w.heap.size) (h:n<0) (h2: -9223372036854775808<=n):
  Calls prog 188 #[.int .i64 n] w fun e w'=>e= .returned (.tuple #[.agg #[.int .i64 0,.int .i64 0],.iface u x])/\Below w.heap.size w w':=by
 have hq:=tdiv_neg_le n h
 go_enter func188,ntmps188
 go_wp2_with fail
 refine (check_no _ _ _ (.iface u x) (by rw [Zn _ _ _ yU,Zn _ _ _ hz];exact hg) yU zj).mono ?_
 rintro e w1 ⟨rfl,hb⟩
 obtain ⟨hc,hf⟩:=bcell hb
 go_wp2
 have c0:w1.cell? ⟨w.heap.size,0,none⟩=some (.int .i64 0):=yc
 have c1:w1.cell? ⟨w.heap.size,1,none⟩=some (.int .i64 0):=yc
 refine bodyPost_ret (v:=.tuple #[.agg #[.int .i64 0,.int .i64 0],.iface u x]) qa rfl ⟨rfl,?_⟩
 exact ((((zh _ _).alloc zm _).trans (hb.mono zl)).setCell zm _).setCell zm _
theorem of_no_pos (n:Int) (w:World) (u:TypeId) (x:Value) (hg:w.cell? ⟨0,0,none⟩=some (.iface u x)) (hz:0<w.heap.size) (h:0<=n) (h2:n<4\/4294967300<=n) (h3:n<=9223372036854775807):
  Calls prog 188 #[.int .i64 n] w fun e w'=>e= .returned (.tuple #[.agg #[.int .i64 0,.int .i64 0],.iface u x])/\Below w.heap.size w w':=by
 have hq:¬(1<=n / 4/\n / 4<=1073741824/\0<=n % 4/\n % 4<4):=zj
 have H:Hid (¬(1<=n / 4/\n / 4<=1073741824/\0<=n % 4/\n % 4<4)):=hq
 clear hq h2
 go_enter func188,ntmps188
 go_wp2_with fail
 refine (check_no _ _ _ (.iface u x) (by rw [Zn _ _ _ yU,Zn _ _ _ hz];exact hg) yU H.o).mono ?_
 rintro e w1 ⟨rfl,hb⟩
 obtain ⟨hc,hf⟩:=bcell hb
 go_wp2
 have c0:w1.cell? ⟨w.heap.size,0,none⟩=some (.int .i64 0):=yc
 have c1:w1.cell? ⟨w.heap.size,1,none⟩=some (.int .i64 0):=yc
 refine bodyPost_ret (v:=.tuple #[.agg #[.int .i64 0,.int .i64 0],.iface u x]) qa rfl ⟨rfl,?_⟩
 exact ((((zh _ _).alloc zm _).trans (hb.mono zl)).setCell zm _).setCell zm _
theorem of_no (n:Int) (w:World) (u:TypeId) (x:Value) (hg:w.cell? ⟨0,0,none⟩=some (.iface u x)) (hz:0<w.heap.size) (h:n<4\/4294967300<=n) (h2: -9223372036854775808<=n) (h3:n<=9223372036854775807):
  Calls prog 188 #[.int .i64 n] w fun e w'=>e= .returned (.tuple #[.agg #[.int .i64 0,.int .i64 0],.iface u x])/\Below w.heap.size w w':=by
 by_cases hn:n<0
 ·exact of_no_neg n w u x hg hz hn h2
 exact of_no_pos n w u x hg hz zj h h3
