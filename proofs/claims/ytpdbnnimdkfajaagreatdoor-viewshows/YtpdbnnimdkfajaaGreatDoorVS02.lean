import Derived.Test.YtpdbnnimdkfajaaGreatDoorMacA
import Derived.Lib.Split
import Derived.Lib.Join
import Derived.Lib.ItoaNum
import Derived.Test.YtpdbnnimdkfajaaGreatDoorProg
import Derived.WalkSpells
import Derived.Lib.Hide
import Derived.Sort.LotA
import Derived.LaidEql
import Derived.OrdersHeld
import Derived.Deep.Slices
set_option linter.unusedSimpArgs false
set_option linter.unusedVariables false
set_option maxRecDepth 100000
set_option maxHeartbeats 64000000
section
namespace Go.Proofs.YtpdbnnimdkfajaaGreatDoor
open Go
def hd (cur:List UInt8):List (List UInt8)->List (List UInt8)
 | []=>[cur]
 | p::ps=>(cur++p)::ps
theorem hd_hd (a b:List UInt8) (x:List (List UInt8)) (hx:x≠ []):hd a (hd b x)=hd (a++b) x:=by
 cases x with
 | nil=>exact absurd rfl hx
 | cons p ps=>simp [hd]
theorem hd_nil (x:List (List UInt8)) (hx:x≠ []):hd [] x=x:=by
 cases x with
 | nil=>exact absurd rfl hx
 | cons p ps=>simp [hd]
def digitsL:Nat->List UInt8->Option Nat
 | n,[]=>some n
 | n,c::r=>if c.toNat<48\/57<c.toNat then none else digitsL (10*n+(c.toNat - 48)) r
def numN (D:Nat) (l:List UInt8):Option Nat:=if l.length<1\/D<l.length\/(l.getD 0 0).toNat=48/\1<l.length then none else digitsL 0 l
abbrev RV:=Option (Nat⊕(Nat×Nat×Nat×Nat))
def RV.text:RV:=none
def RV.ok (n0 n1 n2 n3:Nat):RV:=some (.inr (n0,n1,n2,n3))
end Go.Proofs.YtpdbnnimdkfajaaGreatDoor
end
section
namespace Go.Proofs.YtpdbnnimdkfajaaGreatDoor
open Go
def cutP (p:UInt8):List UInt8->List (List UInt8)
 | []=>[[]]
 | c::r=>if c=p then []::cutP p r else hd [c] (cutP p r)
theorem cutP_ne (p:UInt8) (l:List UInt8):cutP p l≠ []:=by
 cases l with
 | nil=>simp [cutP]
 | cons c r=>
  unfold cutP
  split
  ·simp
  cases cutP p r<;>simp [hd]
theorem cutP_dot (p:UInt8) (r:List UInt8):cutP p (p::r)= []::cutP p r:=by simp [cutP]
theorem cutP_other (p c:UInt8) (r:List UInt8) (h:c≠p):cutP p (c::r)=hd [c] (cutP p r):=by simp [cutP,h]
theorem cutP_append (p:UInt8) (a b:List UInt8) (h:p∉a):cutP p (a++p::b)=a::cutP p b:=by
 induction a with
 | nil=>simp [cutP]
 | cons c r ih=>
  have hc:c≠p:=fun e=>h (by simp [e])
  have:=ih (fun hm=>h (by simp [hm]))
  simp [cutP_other p c _ hc,this,hd]
theorem cutP_plain (p:UInt8) (a:List UInt8) (h:p∉a):cutP p a= [a]:=by
 induction a with
 | nil=>simp [cutP]
 | cons c r ih=>
  have hc:c≠p:=fun e=>h (by simp [e])
  have:=ih (fun hm=>h (by simp [hm]))
  simp [cutP_other p c _ hc,this,hd]
theorem digits_snoc (x:List UInt8) (c:UInt8):∀a,digitsL a (x++ [c])=(digitsL a x).bind fun v=>if c.toNat<48\/57<c.toNat then none else some (10*v+(c.toNat - 48)):=by
 induction x with
 | nil=>intro a;simp [digitsL]
 | cons d r ih=>
  intro a
  simp only [vp,digitsL]
  split
  ·rfl
  exact ih _
theorem digits_dec (n:Nat):digitsL 0 (Lib.decDigits n)=some n:=by
 induction n using Nat.strongRecOn with
 | _ n ih=>
  rw [Lib.decDigits]
  split
  ·rename_i h
   have e:(UInt8.ofNat (48+n)).toNat=48+n:=zk
   simp only [digitsL]
   rw [e,if_neg zi]
   simp
  rename_i h
  have e:(UInt8.ofNat (48+n % 10)).toNat=48+n % 10:=zk
  rw [digits_snoc,ih (n / 10) zi]
  simp only [Option.bind_some]
  rw [e,if_neg zi]
  congr 1
  omega
theorem dec_digit (n:Nat):∀c∈Lib.decDigits n,48<=c.toNat/\c.toNat<=57:=by
 induction n using Nat.strongRecOn with
 | _ n ih=>
  intro c hc
  rw [Lib.decDigits] at hc
  split at hc
  ·have e:(UInt8.ofNat (48+n)).toNat=48+n:=by simp;omega
   rw [jD] at hc
   subst hc
   rw [e];omega
  have e:(UInt8.ofNat (48+n % 10)).toNat=48+n % 10:=zk
  rcases ju.1 hc with h | h
  ·exact ih (n / 10) zi c h
  rw [jD] at h
  subst h
  rw [e];omega
theorem dec_ne (n:Nat):Lib.decDigits n≠ []:=by
 rw [Lib.decDigits]
 split<;>simp
theorem dec_head (n:Nat) (h:10<=n):((Lib.decDigits n).getD 0 0).toNat≠48:=by
 induction n using Nat.strongRecOn with
 | _ n ih=>
  rw [Lib.decDigits,dif_neg zi]
  have hne:=dec_ne (n / 10)
  have e:(Lib.decDigits (n / 10)++ [UInt8.ofNat (48+n % 10)]).getD 0 0=(Lib.decDigits (n / 10)).getD 0 0:=by
   cases hd:Lib.decDigits (n / 10) with
   | nil=>exact absurd hd hne
   | cons c r=>rfl
  rw [e]
  by_cases h2:n / 10<10
  ·rw [Lib.decDigits,dif_pos h2]
   have e:(UInt8.ofNat (48+n / 10)).toNat=48+n / 10:=zk
   show (UInt8.ofNat (48+n / 10)).toNat≠48
   rw [e];omega
  exact ih (n / 10) zi zi
theorem dec_len (D:Nat):∀n,n<10^(D+1)->(Lib.decDigits n).length<=D+1:=by
 induction D with
 | zero=>intro n h;rw [Lib.decDigits,dif_pos zi];simp
 | succ D ih=>
  intro n h
  rw [Lib.decDigits]
  split
  ·simp
  have:n / 10<10^(D+1):=by rw [Nat.pow_succ] at h;omega
  have:=ih _ this
  simp;omega
theorem numN_dec (D n:Nat) (h:n<10^(D+1)):numN (D+1) (Lib.decDigits n)=some n:=by
 unfold numN
 have h1:=List.length_pos_iff.2 (dec_ne n)
 have h2:=dec_len D n h
 rw [if_neg,digits_dec]
 rintro (h3 | h3 | ⟨h3,h4⟩)
 ·omega
 ·omega
 by_cases h10:10<=n
 ·exact dec_head n h10 h3
 rw [Lib.decDigits,dif_pos zi] at h4
 simp at h4
theorem numN_itoa (D:Nat) (a:Int) (h0:0<=a) (h:a.toNat<10^(D+1)):numN (D+1) (Lib.itoa a)=some a.toNat:=by
 rw [Lib.itoa,if_neg zi];exact numN_dec D _ h
theorem itoa_noP (a:Int) (p:UInt8) (hp:57<p.toNat) (h0:0<=a):p∉Lib.itoa a:=by
 rw [Lib.itoa,if_neg zi]
 intro hm
 have:=dec_digit _ _ hm
 omega
def nameB (c:UInt8):Bool:=decide (97<=c.toNat/\c.toNat<=122\/48<=c.toNat/\c.toNat<=57\/c.toNat=45\/c.toNat=46)
def seenB (c:UInt8):Bool:=decide (32<=c.toNat/\c.toNat<=126)
def nameOk (l:List UInt8):Bool:=decide (1<=l.length) &&decide (l.length<=12) &&l.all nameB
def seenOk (l:List UInt8):Bool:=l.all seenB
def moveE (id node other:Int) (name value:List UInt8):Nat:=if node<2\/id<node\/other<0\/id<=other then 3 else if nameOk name=false then 4 else if value≠ [] then 3 else 0
def insE (id node other:Int) (name value:List UInt8):Nat:=if node<0\/id<=node\/other<0\/id<=other then 3 else if name≠ [] then 4 else if value.length≠1\/seenOk value=false then 3 else 0
def delE (id node other:Int) (name value:List UInt8):Nat:=if node<0\/id<=node\/other<0\/id<=other\/other=0 then 3 else if name≠ [] then 4 else if value≠ [] then 3 else 0
def setE (id node other:Int) (name value:List UInt8):Nat:=if node<0\/id<=node\/other≠0 then 3 else if nameOk name=false then 4 else if 12<value.length\/seenOk value=false then 3 else 0
def kindE (id:Int) (k:Nat) (node other:Int) (name value:List UInt8):Nat:=
 if k=109 then moveE id node other name value else if k=105 then insE id node other name value else if k=100 then delE id node other name value else if k=115 then setE id node other name value else 5
def opE (t b n:Int) (k:Nat) (node other:Int) (name value:List UInt8):Nat:=
 if 1<=t/\t<=1073741824/\0<=b/\b<4/\1<=n/\n<=400 then kindE (t*4+b) k node other name value else 2
theorem opE_zero {t b n:Int} {k:Nat} {node other:Int} {name value:List UInt8} (h:opE t b n k node other name value=0):
  1<=t/\t<=1073741824/\0<=b/\b<4/\1<=n/\n<=400/\(k=109\/k=105\/k=100\/k=115)/\0<=node/\node<=t*4+b/\0<=other/\other<=t*4+b/\(124:UInt8)∉name/\name.length<=12/\value.length<=12:=by
 have nm:nameOk name=true->(124:UInt8)∉name/\name.length<=12:=fun hn=>by
  unfold nameOk at hn
  simp only [vK,decide_eq_true_eq] at hn
  refine ⟨fun hm=> ?_,hn.1.2⟩
  have:=List.all_eq_true.1 hn.2 _ hm
  revert this;decide
 unfold opE at h
 split at h
 ·rename_i hc
  obtain ⟨h1,h2,h3,h4,h5,h6⟩:=hc
  unfold kindE at h
  split at h
  ·rename_i hk
   unfold moveE at h
   split at h
   ·cases h
   split at h
   ·cases h
   rename_i hn
   split at h
   ·cases h
   rename_i hv
   have hv:value= []:=Decidable.not_not.1 hv
   have:=nm qu
   exact ⟨h1,h2,h3,h4,h5,h6,.inl hk,zi,zi,zi,zi,this.1,this.2,xF⟩
  split at h
  ·rename_i hk
   unfold insE at h
   split at h
   ·cases h
   split at h
   ·cases h
   rename_i hn
   split at h
   ·cases h
   rename_i hv
   have hn:name= []:=Decidable.not_not.1 hn
   subst hn
   exact ⟨h1,h2,h3,h4,h5,h6,.inr (.inl hk),zi,zi,zi,zi,zm,zm,zi⟩
  split at h
  ·rename_i hk
   unfold delE at h
   split at h
   ·cases h
   split at h
   ·cases h
   rename_i hn
   split at h
   ·cases h
   rename_i hv
   have hn:name= []:=Decidable.not_not.1 hn
   have hv:value= []:=Decidable.not_not.1 hv
   subst hn hv
   exact ⟨h1,h2,h3,h4,h5,h6,.inr (.inr (.inl hk)),zi,zi,zi,zi,zm,zm,zm⟩
  split at h
  ·rename_i hk
   unfold setE at h
   split at h
   ·cases h
   split at h
   ·cases h
   rename_i hn
   split at h
   ·cases h
   have:=nm qu
   exact ⟨h1,h2,h3,h4,h5,h6,.inr (.inr (.inr hk)),zi,zi,zi,zi,this.1,this.2,zi⟩
  cases h
 cases h
abbrev Parts:=UInt8×Nat×Nat×Nat×Nat×Nat×List UInt8×List UInt8
end Go.Proofs.YtpdbnnimdkfajaaGreatDoor
end
section
namespace Go.Proofs.YtpdbnnimdkfajaaGreatDoor
open Go.RowKit
theorem byteAt (s:ByteArray) (k:Nat) (h:k<s.size):s.data.toList.drop k=s[k]::s.data.toList.drop (k+1):=by
 have hl:k<s.data.toList.length:=xa
 rw [jZ hl]
 simp
 rfl
theorem dropEnd (s:ByteArray):s.data.toList.drop s.size= []:=by
 rw [List.drop_eq_nil_iff];simp
end Go.Proofs.YtpdbnnimdkfajaaGreatDoor
end
section
namespace Go.Proofs.YtpdbnnimdkfajaaGreatDoor
open Go.Proofs.Tryz
open Go.RowKit
theorem earl_yes (n id:Int) (w:World) (h0:0<=n) (h1:n<id):
  Calls prog 220 #[.int .i64 n,.int .i64 id] w fun e w'=>e= .returned (.bool true)/\w'=w:=by
 go_enter func220,ntmps220
 go_wp2
 go_ret
 exact ⟨rfl,rfl⟩
theorem earl_no (n id:Int) (w:World) (h:n<0\/id<=n):
  Calls prog 220 #[.int .i64 n,.int .i64 id] w fun e w'=>e= .returned (.bool false)/\w'=w:=by
 by_cases h0:n<0
 ·clear h
  go_enter func220,ntmps220
  go_wp2
  go_ret
  exact ⟨rfl,rfl⟩
 have h1:id<=n:=zi
 have h2:0<=n:=zi
 have d:decide (n<id)=false:=zk
 clear h h0
 go_enter func220,ntmps220
 go_wp2
 go_ret
 exact ⟨rfl,rfl⟩
theorem nb_any (c:UInt8) (w:World):
  Calls prog 273 #[.int .u8 (c.toNat:Int)] w fun e w'=>e= .returned (.bool (nameB c))/\w'=w:=by
 have hb:nameB c=decide (97<=(c.toNat:Int)/\(c.toNat:Int)<=122\/48<=(c.toNat:Int)/\(c.toNat:Int)<=57\/(c.toNat:Int)=45\/(c.toNat:Int)=46):=by
  unfold nameB
  rw [decide_eq_decide]
  omega
 rw [hb]
 clear hb
 generalize (c.toNat:Int)=x
 rcases (by omega:122<x\/(97<=x/\x<=122)\/(57<x/\x<97)\/(48<=x/\x<=57)\/x=46\/x=45\/(x<48/\x≠46/\x≠45)) with h | ⟨h,h'⟩ | ⟨h,h'⟩ | ⟨h,h'⟩ | h | h | ⟨h,h',h''⟩
 ·rw [decide_eq_false zi]
  have d1:decide (x<=122)=false:=zk
  have d2:decide (x<=57)=false:=zk
  have e1:(x==45)=false:=zk
  have e2:(x==46)=false:=zk
  go_enter func273,ntmps273
  go_wp2
  go_ret
  exact ⟨rfl,rfl⟩
 ·rw [decide_eq_true zi]
  go_enter func273,ntmps273
  go_wp2
  go_ret
  exact ⟨rfl,rfl⟩
 ·rw [decide_eq_false zi]
  have d1:decide (97<=x)=false:=zk
  have d2:decide (x<=57)=false:=zk
  have e1:(x==45)=false:=zk
  have e2:(x==46)=false:=zk
  go_enter func273,ntmps273
  go_wp2
  go_ret
  exact ⟨rfl,rfl⟩
 ·rw [decide_eq_true zi]
  have d1:decide (97<=x)=false:=zk
  go_enter func273,ntmps273
  go_wp2
  go_ret
  exact ⟨rfl,rfl⟩
 ·subst h
  go_enter func273,ntmps273
  go_wp2
  go_ret
  exact ⟨rfl,rfl⟩
 ·subst h
  go_enter func273,ntmps273
  go_wp2
  go_ret
  exact ⟨rfl,rfl⟩
 rw [decide_eq_false zi]
 have d1:decide (97<=x)=false:=zk
 have d2:decide (48<=x)=false:=zk
 have e1:(x==45)=false:=zk
 have e2:(x==46)=false:=zk
 go_enter func273,ntmps273
 go_wp2
 go_ret
 exact ⟨rfl,rfl⟩
theorem all_at (s:ByteArray) (f:UInt8->Bool) (k:Nat) (h:k<s.size):(s.data.toList.drop k).all f=(f s[k] &&(s.data.toList.drop (k+1)).all f):=by
 rw [byteAt s k h,List.all_cons]
theorem name_any (s:ByteArray) (w:World) (hs:s.size<=1000000):
  Calls prog 221 #[.string s] w fun e w'=>e= .returned (.bool (nameOk s.data.toList))/\w'=w:=by
 have hl:s.data.toList.length=s.size:=zm
 by_cases h1:s.size<1
 ·have d1:decide ((s.size:Int)<1)=true:=by simp;omega
  have hr:nameOk s.data.toList=false:=by unfold nameOk;rw [hl,decide_eq_false zi];rfl
  rw [hr]
  go_enter func221,ntmps221
  go_wp2
  go_ret
  exact ⟨rfl,rfl⟩
 by_cases h2:12<s.size
 ·have d1:decide ((s.size:Int)<1)=false:=by simp;omega
  have d2:decide (12<(s.size:Int))=true:=zk
  have hr:nameOk s.data.toList=false:=by unfold nameOk;rw [hl,decide_eq_false (show ¬s.size<=12 by omega)];simp
  rw [hr]
  go_enter func221,ntmps221
  go_wp2
  go_ret
  exact ⟨rfl,rfl⟩
 have d1:decide ((s.size:Int)<1)=false:=zk
 have d2:decide (12<(s.size:Int))=false:=zk
 have hr:nameOk s.data.toList=s.data.toList.all nameB:=by unfold nameOk;rw [hl,decide_eq_true (show s.size<=12 by omega),decide_eq_true (show 1<=s.size by omega)];rfl
 rw [hr]
 generalize hR:s.data.toList.all nameB=R
 have HR:=Lib.hid hR
 clear hR hr hl
 go_enter func221,ntmps221
 go_wp2
 go_loop [14] (fun i=>∃k:Nat,k<=s.size/\i= .int .i64 k/\Hid ((s.data.toList.drop k).all nameB=R)) (fun i=>s.size - (intOf i).toNat)
 case atStart=>exact ⟨0,js _,rfl,Lib.hid (by simpa using HR.o)⟩
 case round=>
  obtain ⟨k,hk,rfl,HD⟩:=hrel
  by_cases hlt:k<s.size
  ·have hd:decide ((k:Int)<(s.size:Int))=true:=by simp;omega
   have HA:=Lib.hid ((all_at s nameB k hlt).symm.trans HD.o)
   clear HD
   go_wp2_with fail
   refine (nb_any _ _).mono ?_
   rintro e w' ⟨rfl,rfl⟩
   cases hb:nameB s[k] with
   | true=>
    have HE:Hid ((s.data.toList.drop (k+1)).all nameB=R):=Lib.hid (by have:=HA.o;rw [hb,Bool.true_and] at this;exact this)
    go_wp2
    go_round
    case rel=>exact ⟨k+1,zi,zw,HE⟩
    case measure=>simp [intOf];omega
   | false=>
    have HE:Hid (R=false):=Lib.hid (by have:=HA.o;rw [hb,Bool.false_and] at this;exact this.symm)
    go_wp2
    go_ret
    exact ⟨by rw [HE.o];rfl,rfl⟩
  have hd:decide ((k:Int)<(s.size:Int))=false:=zk
  have HE:Hid (R=true):=Lib.hid yV
  go_wp2
  go_ret
  exact ⟨by rw [HE.o];rfl,rfl⟩
theorem seen_any (s:ByteArray) (w:World) (hs:s.size<=1000000):
  Calls prog 222 #[.string s] w fun e w'=>e= .returned (.bool (seenOk s.data.toList))/\w'=w:=by
 unfold seenOk
 generalize hR:s.data.toList.all seenB=R
 have HR:=Lib.hid hR
 clear hR
 go_enter func222,ntmps222
 go_wp2
 go_loop [6] (fun i=>∃k:Nat,k<=s.size/\i= .int .i64 k/\Hid ((s.data.toList.drop k).all seenB=R)) (fun i=>s.size - (intOf i).toNat)
 case atStart=>exact ⟨0,js _,rfl,Lib.hid (by simpa using HR.o)⟩
 case round=>
  obtain ⟨k,hk,rfl,HD⟩:=hrel
  by_cases hlt:k<s.size
  ·have hd:decide ((k:Int)<(s.size:Int))=true:=by simp;omega
   have HA:=Lib.hid ((all_at s seenB k hlt).symm.trans HD.o)
   clear HD
   by_cases g1:s[k].toNat<32
   ·have l1:decide ((s[k].toNat:Int)<32)=true:=by simp;omega
    have HE:Hid (R=false):=Lib.hid (by
     have:=HA.o
     rw [show seenB s[k]=false by unfold seenB;rw [decide_eq_false zi],Bool.false_and] at this
     exact this.symm)
    go_wp2
    go_ret
    exact ⟨by rw [HE.o];rfl,rfl⟩
   have l1:decide ((s[k].toNat:Int)<32)=false:=zk
   by_cases g2:126<s[k].toNat
   ·have l2:decide (126<(s[k].toNat:Int))=true:=by simp;omega
    have HE:Hid (R=false):=Lib.hid (by
     have:=HA.o
     rw [show seenB s[k]=false by unfold seenB;rw [decide_eq_false zi],Bool.false_and] at this
     exact this.symm)
    go_wp2
    go_ret
    exact ⟨by rw [HE.o];rfl,rfl⟩
   have l2:decide (126<(s[k].toNat:Int))=false:=zk
   have HE:Hid ((s.data.toList.drop (k+1)).all seenB=R):=Lib.hid (by
    have:=HA.o
    rw [show seenB s[k]=true by unfold seenB;rw [decide_eq_true zi],Bool.true_and] at this
    exact this)
   go_wp2
   go_round
   case rel=>exact ⟨k+1,zi,zw,HE⟩
   case measure=>simp [intOf];omega
  have hd:decide ((k:Int)<(s.size:Int))=false:=zk
  have HE:Hid (R=true):=Lib.hid yV
  go_wp2
  go_ret
  exact ⟨by rw [HE.o];rfl,rfl⟩
end Go.Proofs.YtpdbnnimdkfajaaGreatDoor
end
section
namespace Go.Proofs.YtpdbnnimdkfajaaGreatDoor.Sl
open Go.Proofs.Tryz
open Go.RowKit
variable {s:ByteArray} {P:List ByteArray} {fr k:Nat} {o:Value} {w w0:World}
theorem infoStr:(prog.info? 9).map (fun i=>(i.zero,i.size,i.bytes))=some (some (.string ⟨#[]⟩),1,16):=zj
def curL (s:ByteArray) (fr k:Nat):List UInt8:=(s.data.toList.drop fr).take (k - fr)
theorem cur_next (s:ByteArray) (fr k:Nat) (h:fr<=k) (hk:k<s.size):curL s fr (k+1)=curL s fr k++ [s[k]]:=by
 unfold curL
 have hb:=byteAt s k hk
 have e:k+1 - fr=(k - fr)+1:=zi
 rw [e,jL,vg,show fr+(k - fr)=k by omega]
 congr 1
 have:s.data.toList[k]? =some s[k]:=by
  have:=congrArg List.head? hb
  simpa [List.head?_drop] using this
 rw [this];rfl
theorem cur_self (s:ByteArray) (k:Nat):curL s k k= []:=by simp [curL]
theorem cur_extract (s:ByteArray) (fr k:Nat) (_h:fr<=k):(s.extract fr k).data.toList=curL s fr k:=by
 rw [Lib.extract_data]
 rfl
structure CutPS (s:ByteArray) (w0:World) (o:Value) (k fr:Nat) (P:List ByteArray) (w:World):Prop where
 own:w.ownsRow w0.heap.size 9 1 o P.length (P.map Value.string)
 below:Below w0.heap.size w0 w
 len:P.length<=k
 cut:P.map (·.data.toList)++hd (curL s fr k) (cutP 47 (s.data.toList.drop k))=cutP 47 s.data.toList
theorem CutPS.dot (h:CutPS s w0 o k fr P w) (hf:fr<=k) (hk:k<s.size) (hd46:s[k]=47):
  (P++ [s.extract fr k]).map (·.data.toList)++hd (curL s (k+1) (k+1)) (cutP 47 (s.data.toList.drop (k+1)))=cutP 47 s.data.toList:=by
 have:=h.cut
 rw [byteAt s k hk,hd46,cutP_dot] at this
 rw [<-this,cur_self,hd_nil _ (cutP_ne _ _)]
 rw [jY,vA,List.map_nil,cur_extract s fr k hf]
 simp [hd]
theorem CutPS.on (h:CutPS s w0 o k fr P w) (hf:fr<=k) (hk:k<s.size) (hd46:s[k]≠47):
  CutPS s w0 o (k+1) fr P w:=by
 refine ⟨h.own,h.below,by have:=h.len;omega,?_⟩
 have:=h.cut
 rw [byteAt s k hk,cutP_other _ _ _ hd46,hd_hd _ _ _ (cutP_ne _ _)] at this
 rw [cur_next s fr k hf hk]
 exact this
theorem CutPS.last (h:CutPS s w0 o k fr P w) (hf:fr<=k) (hk:k=s.size):
  (P++ [s.extract fr s.size]).map (·.data.toList)=cutP 47 s.data.toList:=by
 have:=h.cut
 subst hk
 rw [dropEnd] at this
 rw [<-this]
 rw [jY,vA,List.map_nil,cur_extract s fr s.size hf]
 simp [cutP,hd]
theorem own_next {wr w5:World} {v':Value} {b:ByteArray} {ob:Obj} (hown0:wr.ownsRow w0.heap.size 9 1 o P.length (P.map Value.string)) (hb0:Below w0.heap.size w0 wr)
  (hown:w5.ownsRow w0.heap.size 9 1 v' (P.length+1) (P.map Value.string++ [.string b])) (hg:(wr.alloc ob).grownBy w5 o.ownBlock):
  w5.ownsRow w0.heap.size 9 1 v' (P++ [b]).length ((P++ [b]).map Value.string)/\Below w0.heap.size w0 w5:=by
 refine ⟨qr,?_⟩
 exact (hb0.alloc hb0.size _).grown hg (by have:=hb0.size;simp;omega) (fun k hk=>(hown0.lt k hk).1)
theorem byte47 (s:ByteArray) (k:Nat) (hk:k<s.size):((s[k].toNat:Int)==47)=decide (s[k]=47):=by
 by_cases h:s[k]=47
 ·simp [h]
 have:¬s[k].toNat=47:=fun e=>h (UInt8.toNat_inj.1 e)
 rw [decide_eq_false h];simp;omega
theorem cutSl_any (s:ByteArray) (w:World) (hs:s.size<=70000):
  Calls prog 94 #[.string s,.int .u8 47] w fun e w'=>∃(v:Value) (P:List ByteArray),e= .returned v/\w'.ownsRow w.heap.size 9 1 v P.length (P.map Value.string)/\P.map (·.data.toList)=cutP 47 s.data.toList/\Below w.heap.size w w':=by
 obtain ⟨i0,hi,hz0,hz1,hz2⟩:=info_parts infoStr
 go_enter func94,ntmps94
 go_wp2
 go_loopw [5,6,7] (fun o f i wr=>∃k fr P,k<=s.size/\fr<=k/\i= .int .i64 (k:Nat)/\f= .int .i64 (fr:Nat)/\CutPS s w o k fr P wr) (fun _ _ i _=>s.size - (intOf i).toNat)
 case atStart=>exact ⟨0,0,[],js _,jj _,rfl,rfl,⟨jQ _ _ _ _,jo _ _,jj _,by rw [cur_self,hd_nil _ (cutP_ne _ _)];simp⟩⟩
 case round=>
  obtain ⟨k,fr,P,hk,hf,rfl,rfl,hC⟩:=hrel
  by_cases hlt:k<s.size
  ·have hdl:decide ((k:Int)<(s.size:Int))=true:=by simp;omega
   have h46:=byte47 s k hlt
   by_cases hd46:s[k]=47
   ·rw [decide_eq_true hd46] at h46
    have HC:=Lib.hid (hC.dot hf hlt hd46)
    clear hd46
    go_wp2_with (at_builtin;refine wpList_append_own _ rfl _ _ 141 rfl w.heap.size 9 i0 (.string ⟨#[]⟩) 1 16 underlying141 hi hz0 hz1 hz2 rfl zo _ _ _ rfl (hC.own.alloc _) _ 1 1 [.string (s.extract fr k)] rfl rfl (cell_one_new _ _ _) (by intro u hu;simp at hu;subst hu;rfl) (by unfold maxLen;have:=hC.len;omega) (by have:=hC.len;omega) (by have:=hC.below.size;simp;omega) ?_;intro v' w5 hown hgrow _;have hN:=own_next hC.own hC.below hown hgrow;clear hown hgrow)
    refine ⟨⟨k+1,k+1,P++ [s.extract fr k],zi,jj _,zw,zw,⟨hN.1,hN.2,by have:=hC.len;simp;omega,HC.o⟩⟩,?_⟩
    simp [intOf]
    omega
   rw [decide_eq_false hd46] at h46
   have hC':=hC.on hf hlt hd46
   clear hd46 hC
   go_wp2
   refine ⟨⟨k+1,fr,P,zi,zi,zw,rfl,hC'⟩,?_⟩
   simp [intOf]
   omega
  have hdl:decide ((k:Int)<(s.size:Int))=false:=zk
  have HC:=Lib.hid (hC.last hf zi)
  go_wp2_with (at_builtin;refine wpList_append_own _ rfl _ _ 141 rfl w.heap.size 9 i0 (.string ⟨#[]⟩) 1 16 underlying141 hi hz0 hz1 hz2 rfl zo _ _ _ rfl (hC.own.alloc _) _ 1 1 [.string (s.extract fr s.size)] rfl rfl (cell_one_new _ _ _) (by intro u hu;simp at hu;subst hu;rfl) (by unfold maxLen;have:=hC.len;omega) (by have:=hC.len;omega) (by have:=hC.below.size;simp;omega) ?_;intro v' w5 hown hgrow _;have hN:=own_next hC.own hC.below hown hgrow;clear hown hgrow)
  go_ret
  exact ⟨v',P++ [s.extract fr s.size],rfl,hN.1,HC.o,hN.2⟩
end Go.Proofs.YtpdbnnimdkfajaaGreatDoor.Sl
end
section
namespace Go.Proofs.YtpdbnnimdkfajaaGreatDoor
abbrev Ltr:=Int×Nat×Bool
def laid (x:Ltr):List Ltr->List Ltr
 | []=>[x]
 | h::t=>if x.1<h.1 then h::laid x t else x::h::t
def putB (b:Int) (x:Ltr):List Ltr->List Ltr
 | []=>[]
 | h::t=>if h.1=b then h::laid x t else h::putB b x t
def put (b:Int) (x:Ltr) (L:List Ltr):List Ltr:=if b=0 then laid x L else putB b x L
theorem laid_yes {x h:Ltr} (k:x.1<h.1) (t:List Ltr):laid x (h::t)=h::laid x t:=by simp [laid,k]
theorem laid_no {x h:Ltr} (k:¬x.1<h.1) (t:List Ltr):laid x (h::t)=x::h::t:=by simp [laid,k]
theorem putB_yes {b:Int} {x h:Ltr} (k:h.1=b) (t:List Ltr):putB b x (h::t)=h::laid x t:=by simp [putB,k]
theorem putB_no {b:Int} {x h:Ltr} (k:h.1≠b) (t:List Ltr):putB b x (h::t)=h::putB b x t:=by simp [putB,k]
theorem laid_comm (x y:Ltr) (h:x.1≠y.1):∀L,laid y (laid x L)=laid x (laid y L)
 | []=>by
  by_cases k:x.1<y.1
  ·rw [show laid x []= [x] from rfl,show laid y []= [y] from rfl,laid_yes k,laid_no zi];rfl
  rw [show laid x []= [x] from rfl,show laid y []= [y] from rfl,laid_no k,laid_yes zi];rfl
 | g::t=>by
  by_cases kx:x.1<g.1
  ·by_cases ky:y.1<g.1
   ·rw [laid_yes kx,laid_yes ky,laid_yes ky,laid_yes kx,laid_comm x y h t]
   rw [laid_yes kx,laid_no ky,laid_no ky,laid_yes zi,laid_yes kx]
  by_cases ky:y.1<g.1
  ·rw [laid_no kx,laid_yes ky,laid_yes zi,laid_yes ky,laid_no kx]
  rw [laid_no kx,laid_no ky]
  by_cases k:x.1<y.1
  ·rw [laid_no zi,laid_yes k,laid_no kx]
  rw [laid_yes zi,laid_no k,laid_no ky]
theorem putB_laid (x y:Ltr) (b:Int) (h:x.1≠y.1) (hb:b≠x.1):∀L,putB b y (laid x L)=laid x (putB b y L)
 | []=>by
  rw [show laid x []= [x] from rfl,putB_no (fun e=>hb e.symm)];rfl
 | g::t=>by
  by_cases kx:x.1<g.1
  ·rw [laid_yes kx]
   by_cases kb:g.1=b
   ·rw [putB_yes kb,putB_yes kb,laid_yes kx,laid_comm x y h t]
   rw [putB_no kb,putB_no kb,laid_yes kx,putB_laid x y b h hb t]
  rw [laid_no kx,putB_no (fun e=>hb e.symm)]
  by_cases kb:g.1=b
  ·rw [putB_yes kb,laid_no kx]
  rw [putB_no kb,laid_no kx]
theorem putB_comm (x y:Ltr) (a b:Int) (h:x.1≠y.1) (ha:a≠y.1) (hb:b≠x.1):∀L,putB b y (putB a x L)=putB a x (putB b y L)
 | []=>rfl
 | g::t=>by
  by_cases ka:g.1=a
  ·rw [putB_yes ka]
   by_cases kb:g.1=b
   ·rw [putB_yes kb,putB_yes kb,putB_yes ka,laid_comm x y h t]
   rw [putB_no kb,putB_no kb,putB_yes ka,putB_laid x y b h hb t]
  rw [putB_no ka]
  by_cases kb:g.1=b
  ·rw [putB_yes kb,putB_yes kb,putB_no ka,putB_laid y x a (fun e=>h e.symm) ha t]
  rw [putB_no kb,putB_no kb,putB_no ka,putB_comm x y a b h ha hb t]
theorem put_comm (x y:Ltr) (a b:Int) (h:x.1≠y.1) (ha:a≠y.1) (hb:b≠x.1) (L:List Ltr):put b y (put a x L)=put a x (put b y L):=by
 unfold put
 by_cases h0:a=0
 ·rw [if_pos h0,if_pos h0]
  by_cases h1:b=0
  ·rw [if_pos h1,if_pos h1,laid_comm x y h]
  rw [if_neg h1,if_neg h1,putB_laid x y b h hb]
 rw [if_neg h0,if_neg h0]
 by_cases h1:b=0
 ·rw [if_pos h1,if_pos h1,putB_laid y x a (fun e=>h e.symm) ha]
 rw [if_neg h1,if_neg h1,putB_comm x y a b h ha hb]
def putAll (s:List (Int×Ltr)) (L:List Ltr):List Ltr:=s.foldl (fun L m=>put m.1 m.2 L) L
theorem putAll_app (s r:List (Int×Ltr)) (L:List Ltr):putAll (s++r) L=putAll r (putAll s L):=by simp [putAll]
theorem putAll_one (m:Int×Ltr) (L:List Ltr):putAll [m] L=put m.1 m.2 L:=rfl
theorem putAll_past (m:Int×Ltr):∀(r:List (Int×Ltr)) (L:List Ltr),(∀y∈r,m.2.1≠y.2.1/\m.1≠y.2.1/\y.1≠m.2.1)->putAll r (put m.1 m.2 L)=put m.1 m.2 (putAll r L)
 | [],_,_=>rfl
 | y::r,L,h=>by
  obtain ⟨h1,h2,h3⟩:=h y zm
  show putAll r (put y.1 y.2 (put m.1 m.2 L))=put m.1 m.2 (putAll r (put y.1 y.2 L))
  rw [put_comm m.2 y.2 m.1 y.1 h1 h2 h3]
  exact putAll_past m r _ (fun z hz=>h z (by simp [hz]))
def First (s:List (Int×Ltr)):Prop:=(s.map (·.2.1)).Nodup/\(∀m∈s,m.2.1≠0)/\∀u m v,s=u++m::v->m.1=0\/∃y∈u,y.2.1=m.1
theorem first_init {s:List (Int×Ltr)} {m:Int×Ltr} (h:First (s++ [m])):First s:=by
 obtain ⟨h1,h2,h3⟩:=h
 rw [jY] at h1
 refine ⟨(vz.1 h1).1,fun x hx=>h2 x (by simp [hx]),fun u x v e=>h3 u x (v++ [m]) (by rw [e];simp)⟩
theorem first_last {s:List (Int×Ltr)} {m:Int×Ltr} (h:First (s++ [m])):∀y∈s,y.2.1≠m.2.1/\y.1≠m.2.1:=by
 obtain ⟨h1,h2,h3⟩:=h
 rw [jY] at h1
 have hd:∀y∈s,y.2.1≠m.2.1:=fun y hy e=>(vz.1 h1).2.2 _ (jO.2 ⟨y,hy,rfl⟩) _ zm e
 intro y hy
 refine ⟨hd y hy,fun e=> ?_⟩
 obtain ⟨u,v,rfl⟩:=List.append_of_mem hy
 rcases h3 u y (v++ [m]) zm with h0 | ⟨z,hz,he⟩
 ·exact h2 m zm (by rw [<-e,h0])
 exact hd z (by simp [hz]) (by rw [he,e])
theorem first_drop {u v:List (Int×Ltr)} {m:Int×Ltr} (h:First (u++m::v)) (hm:∀y∈v,y.1≠m.2.1):First (u++v):=by
 obtain ⟨h1,h2,h3⟩:=h
 have hsub:(u++v).Sublist (u++m::v):=List.Sublist.append_left (List.sublist_cons_self _ _) u
 refine ⟨h1.sublist (hsub.map _),fun x hx=>h2 x (hsub.subset hx),fun a x b e=> ?_⟩
 rcases List.append_eq_append_iff.1 e with ⟨c,rfl,hc⟩ | ⟨c,rfl,hc⟩
 ·rcases h3 (u++m::c) x b (by rw [hc];simp) with h0 | ⟨z,hz,he⟩
  ·exact .inl h0
  right
  rcases ju.1 hz with hz | hz
  ·exact ⟨z,by simp [hz],he⟩
  rcases jn.1 hz with rfl | hz
  ·exact absurd he.symm (hm x (by rw [hc];simp))
  exact ⟨z,by simp [hz],he⟩
 cases c with
 | nil=>
  simp only [vf,vn] at hc h3 |-
  rcases h3 (a++ [m]) x b (by rw [<-hc];simp) with h0 | ⟨z,hz,he⟩
  ·exact .inl h0
  right
  rcases ju.1 hz with hz | hz
  ·exact ⟨z,hz,he⟩
  rw [jD] at hz
  subst hz
  exact absurd he.symm (hm x (by rw [<-hc];simp))
 | cons y c=>
  injection hc with e1 e2
  subst e1
  exact h3 a x (c++m::v) zm
theorem snoc_cases {α:Type} :∀(l:List α),l= []\/∃s m,l=s++ [m]
 | []=>.inl rfl
 | x::t=>by
  rcases snoc_cases t with rfl | ⟨s,m,rfl⟩
  ·exact .inr ⟨[],x,rfl⟩
  exact .inr ⟨x::s,m,rfl⟩
theorem putAll_turned:∀(n:Nat) (s r:List (Int×Ltr)),s.length=n->s.Perm r->First s->First r->putAll s []=putAll r []
 | 0,s,r,hn,hp,_,_=>by
  obtain rfl:=jC.1 hn
  rw [hp.symm.eq_nil]
 | n+1,s,r,hn,hp,hs,hr=>by
  rcases snoc_cases s with rfl | ⟨s',m,rfl⟩
  ·simp at hn
  obtain ⟨u,v,rfl⟩:=List.append_of_mem (hp.mem_iff.1 (show m∈s'++ [m] by simp))
  have hl:=first_last hs
  have hp':s'.Perm (u++v):=by
   have h1:(m::s').Perm (m::(u++v)):=((List.perm_append_singleton m s').symm.trans hp).trans uB
   exact h1.cons_inv
  have hv:∀y∈v,y.2.1≠m.2.1/\y.1≠m.2.1:=fun y hy=>hl y (hp'.mem_iff.2 qO)
  have hmv:∀y∈v,m.1≠y.2.1:=by
   intro y hy e
   obtain ⟨h1,h2,h3⟩:=hr
   rcases h3 u m v rfl with h0 | ⟨z,hz,he⟩
   ·exact h2 y qO (by rw [<-e,h0])
   rw [jY,vA] at h1
   exact (vz.1 h1).2.2 _ (jO.2 ⟨z,hz,rfl⟩) _ (jv _ (jO.2 ⟨y,hy,rfl⟩)) (by rw [he,e])
  have hr':=first_drop hr (fun y hy=>(hv y hy).2)
  have ih:=putAll_turned n s' (u++v) qu hp' (first_init hs) hr'
  rw [putAll_app,putAll_one,ih,show u++m::v=u++([m]++v) by simp,putAll_app,putAll_app,putAll_app,putAll_one]
  exact (putAll_past m v _ (fun y hy=>⟨fun e=>(hv y hy).1 e.symm,hmv y hy,(hv y hy).2⟩)).symm
end Go.Proofs.YtpdbnnimdkfajaaGreatDoor
end
section
namespace Go.Proofs.YtpdbnnimdkfajaaGreatDoor
def skipN (x:Int):List Ltr->Nat
 | []=>0
 | h::t=>if x<h.1 then skipN x t+1 else 0
def findL (b:Int):List Ltr->Option Nat
 | []=>none
 | h::t=>if h.1=b then some 0 else (findL b t).map (· +1)
theorem skipN_le (x:Int):∀L,skipN x L<=L.length
 | []=>jj _
 | h::t=>by
  unfold skipN
  split
  ·have:=skipN_le x t;simp;omega
  omega
theorem skipN_is {x:Int} :∀ {L:List Ltr} {n:Nat},n<=L.length->(∀i l,i<n->L[i]? =some l->x<l.1)->(∀l,L[n]? =some l->¬x<l.1)->skipN x L=n
 | [],n,hn,_,_=>by simp at hn;simp [skipN,hn]
 | g::t,0,_,_,h2=>by
  unfold skipN
  rw [if_neg (h2 g rfl)]
 | g::t,n+1,hn,h1,h2=>by
  unfold skipN
  rw [if_pos (h1 0 g zi rfl),skipN_is (n:=n) qu (fun i l hi e=>h1 (i+1) l zi zZ) (fun l e=>h2 l zZ)]
theorem laid_at (x:Ltr):∀L,laid x L=L.take (skipN x.1 L)++x::L.drop (skipN x.1 L)
 | []=>rfl
 | h::t=>by
  unfold skipN
  by_cases k:x.1<h.1
  ·rw [laid_yes k,if_pos k,laid_at x t];rfl
  rw [laid_no k,if_neg k];rfl
theorem findL_some {b:Int} :∀ {L:List Ltr} {i:Nat},findL b L=some i->∃l,L[i]? =some l/\l.1=b
 | [],i,h=>by simp [findL] at h
 | g::t,i,h=>by
  unfold findL at h
  split at h
  ·cases h;exact ⟨g,rfl,zl⟩
  cases hf:findL b t with
  | none=>rw [hf] at h;cases h
  | some j=>
   rw [hf] at h
   cases h
   obtain ⟨l,h1,h2⟩:=findL_some hf
   exact ⟨l,qD,h2⟩
theorem findL_none {b:Int} :∀ {L:List Ltr},findL b L=none->∀l∈L,l.1≠b
 | [],_,l,hl=>by simp at hl
 | g::t,h,l,hl=>by
  unfold findL at h
  split at h
  ·cases h
  have hf:findL b t=none:=xa
  rcases jn.1 hl with rfl | hl
  ·assumption
  exact findL_none hf l hl
theorem findL_isSome {b:Int} {L:List Ltr} (h:b∈L.map (·.1)):∃i,findL b L=some i:=by
 cases hf:findL b L with
 | some i=>exact ⟨i,rfl⟩
 | none=>
  obtain ⟨l,hl,e⟩:=jO.1 h
  exact absurd e (findL_none hf l hl)
theorem findL_is {b:Int} :∀ {L:List Ltr} {i:Nat} {l:Ltr},L[i]? =some l->l.1=b->(∀j g,j<i->L[j]? =some g->g.1≠b)->findL b L=some i
 | [],i,l,e,_,_=>jc
 | g::t,0,l,e,h,_=>by
  cases e
  unfold findL
  rw [if_pos h]
 | g::t,i+1,l,e,h,hn=>by
  unfold findL
  rw [if_neg (hn 0 g zi rfl),findL_is (L:=t) (i:=i) zZ h (fun j g' hj e'=>hn (j+1) g' zi (by simpa using e'))]
  rfl
theorem putB_at (b:Int) (x:Ltr):∀(L:List Ltr) (i:Nat),findL b L=some i->putB b x L=L.take (i+1+skipN x.1 (L.drop (i+1)))++x::L.drop (i+1+skipN x.1 (L.drop (i+1)))
 | [],i,h=>by simp [findL] at h
 | g::t,i,h=>by
  unfold findL at h
  by_cases k:g.1=b
  ·rw [if_pos k] at h
   cases h
   have e:0+1+skipN x.1 ((g::t).drop (0+1))=skipN x.1 t+1:=by show 0+1+skipN x.1 t=_;omega
   rw [putB_yes k,laid_at x t,e]
   rfl
  rw [if_neg k] at h
  cases hf:findL b t with
  | none=>rw [hf] at h;cases h
  | some j=>
   rw [hf] at h
   cases h
   have e:j+1+1+skipN x.1 ((g::t).drop (j+1+1))=j+1+skipN x.1 (t.drop (j+1))+1:=by show j+1+1+skipN x.1 (t.drop (j+1))=_;omega
   rw [putB_no k,putB_at b x t j hf,e]
   rfl
def placeL (b id:Int) (L:List Ltr):Nat:=if b=0 then skipN id L else match findL b L with
 | none=>0
 | some i=>i+1+skipN id (L.drop (i+1))
theorem put_at {b:Int} {x:Ltr} {L:List Ltr} (h:b=0\/b∈L.map (·.1)):placeL b x.1 L<=L.length/\put b x L=L.take (placeL b x.1 L)++x::L.drop (placeL b x.1 L):=by
 unfold put placeL
 by_cases h0:b=0
 ·rw [if_pos h0,if_pos h0]
  exact ⟨skipN_le _ _,laid_at x L⟩
 rw [if_neg h0,if_neg h0]
 obtain ⟨i,hi⟩:=findL_isSome (h.resolve_left h0)
 rw [hi]
 obtain ⟨l,hl,_⟩:=findL_some hi
 have h1:=(jh.1 hl).1
 have h2:=skipN_le x.1 (L.drop (i+1))
 rw [jT] at h2
 exact ⟨zN,putB_at b x L i hi⟩
theorem put_perm {b:Int} {x:Ltr} {L:List Ltr} (h:b=0\/b∈L.map (·.1)):(put b x L).Perm (x::L):=by
 rw [(put_at h).2]
 refine uB.trans ?_
 rw [jH]
theorem put_len {b:Int} {x:Ltr} {L:List Ltr} (h:b=0\/b∈L.map (·.1)):(put b x L).length=L.length+1:=by rw [(put_perm h).length_eq];rfl
theorem put_ids {b:Int} {x:Ltr} {L:List Ltr} (h:b=0\/b∈L.map (·.1)):((put b x L).map (·.1)).Perm (x.1::L.map (·.1)):=(put_perm h).map _
def gone (id:Int) (L:List Ltr):List Ltr:=L.map fun l=>if l.1=id then (l.1,l.2.1,true) else l
def seenOf (L:List Ltr):List Ltr:=L.filter fun l=> !l.2.2
end Go.Proofs.YtpdbnnimdkfajaaGreatDoor
end
section
namespace Go.Proofs.YtpdbnnimdkfajaaGreatDoor
def IdxIs (p:Ltr->Bool) (zs:List Ltr) (r:Int):Prop:=
 (r= -1/\∀l∈zs,p l=false)\/∃(i:Nat) (l:Ltr),r=(i:Int)/\zs[i]? =some l/\p l=true/\∀j g,j<i->zs[j]? =some g->p g=false
def findI (b:Int) (L:List Ltr):Int:=match findL b L with
 | none=> -1
 | some i=>(i:Int)
theorem findI_is {b r:Int} {L:List Ltr} (h:IdxIs (fun l=>decide (l.1=b)) L r):r=findI b L:=by
 unfold findI
 rcases h with ⟨rfl,h⟩ | ⟨i,l,rfl,hl,hp,hn⟩
 ·cases hf:findL b L with
  | none=>rfl
  | some i=>
   obtain ⟨l,h1,h2⟩:=findL_some hf
   have:=h l (jm h1)
   simp [h2] at this
 rw [findL_is hl (by simpa using hp) (fun j g hj hg=>by simpa using hn j g hj hg)]
theorem findI_neg {b:Int} {L:List Ltr} (h:b∉L.map (·.1)):findI b L= -1:=by
 unfold findI
 cases hf:findL b L with
 | none=>rfl
 | some i=>
  obtain ⟨l,h1,h2⟩:=findL_some hf
  exact absurd (jO.2 ⟨l,jm h1,h2⟩) h
theorem findI_pos {b:Int} {L:List Ltr} (h:b∈L.map (·.1)):∃i:Nat,findI b L=(i:Int)/\findL b L=some i/\i<L.length:=by
 obtain ⟨i,hi⟩:=findL_isSome h
 obtain ⟨l,h1,_⟩:=findL_some hi
 exact ⟨i,by unfold findI;rw [hi],hi,(jh.1 h1).1⟩
theorem skip_is {id r:Int} {L:List Ltr} (hn:id∉L.map (·.1)) (h:IdxIs (fun l=>decide (l.1<id)) L r):(r= -1/\skipN id L=L.length)\/r=(skipN id L:Int):=by
 have hne:∀l∈L,l.1≠id:=fun l hl e=>hn (jO.2 ⟨l,hl,e⟩)
 rcases h with ⟨rfl,h⟩ | ⟨i,l,rfl,hl,hp,hq⟩
 ·refine .inl ⟨rfl,skipN_is ze (fun i l _ e=> ?_) (fun l e=>jc)⟩
  have h1:=h l (jm e)
  have h2:=hne l (jm e)
  simp at h1
  omega
 right
 rw [skipN_is (n:=i) (Nat.le_of_lt (jh.1 hl).1) (fun j g hj e=> ?_) (fun g e=> ?_)]
 ·have h1:=hq j g hj e
  have h2:=hne g (jm e)
  simp at h1
  omega
 rw [hl] at e
 cases e
 simp at hp
 omega
theorem set_ids {L:List Ltr} {i:Nat} {l:Ltr} (h:L[i]? =some l) (c:Nat) (g:Bool):(L.set i (l.1,c,g)).map (·.1)=L.map (·.1):=by
 rw [List.map_set]
 apply List.ext_getElem?
 intro j
 by_cases e:j=i
 ·subst e
  have hl:=(jh.1 h).1
  rw [vB xn]
  simp [h]
 rw [uh zi]
theorem put_nodup {b:Int} {x:Ltr} {L:List Ltr} (h:b=0\/b∈L.map (·.1)) (hn:(L.map (·.1)).Nodup) (hx:x.1∉L.map (·.1)):((put b x L).map (·.1)).Nodup:=by
 rw [(put_ids h).nodup_iff]
 exact List.nodup_cons.2 ⟨hx,hn⟩
end Go.Proofs.YtpdbnnimdkfajaaGreatDoor
end
section
namespace Go.Proofs.YtpdbnnimdkfajaaGreatDoor
open Go.Proofs.Tryz
open Go.RowKit
def cmpZ (a b:Int):Int:=if a<b then -1 else if b<a then 1 else 0
theorem nanI (a:Int) (w:World):Calls prog 168 #[.int .i64 a] w fun e w'=>e= .returned (.bool false)/\w'=w:=by
 have d0:(a !=a)=false:=zm
 go_enter func168,ntmps168
 go_wp2
 go_ret
 exact ⟨rfl,rfl⟩
theorem cmpZ_any (a b:Int) (w:World):Calls prog 103 #[.int .i64 a,.int .i64 b] w fun e w'=>e= .returned (.int .i64 (cmpZ a b))/\w'=w:=by
 unfold cmpZ
 by_cases h1:a<b
 ·have d1:decide (a<b)=true:=decide_eq_true h1
  rw [if_pos h1]
  go_enter func103,ntmps103
  go_wp2_with (go_at_call 168;refine (nanI _ _).mono ?_;rintro e w' ⟨rfl,rfl⟩)
  go_ret
  exact ⟨rfl,rfl⟩
 have d1:decide (a<b)=false:=decide_eq_false h1
 rw [if_neg h1]
 by_cases h2:b<a
 ·have d2:decide (b<a)=true:=decide_eq_true h2
  rw [if_pos h2]
  go_enter func103,ntmps103
  go_wp2_with (go_at_call 168;refine (nanI _ _).mono ?_;rintro e w' ⟨rfl,rfl⟩)
  go_ret
  exact ⟨rfl,rfl⟩
 have d2:decide (b<a)=false:=decide_eq_false h2
 rw [if_neg h2]
 go_enter func103,ntmps103
 go_wp2_with (go_at_call 168;refine (nanI _ _).mono ?_;rintro e w' ⟨rfl,rfl⟩)
 go_ret
 exact ⟨rfl,rfl⟩
end Go.Proofs.YtpdbnnimdkfajaaGreatDoor
end
section
namespace Go.Proofs.YtpdbnnimdkfajaaGreatDoor
open Go.Proofs.Tryz
open Go.RowKit
def lessB (t b t' b':Int):Bool:=if t=t' then decide (b<b') else decide (t<t')
theorem less_any (t b t' b':Int) (w:World):
  Calls prog 115 #[.agg #[.int .i64 t,.int .i64 b],.agg #[.int .i64 t',.int .i64 b']] w fun e w'=>e= .returned (.bool (lessB t b t' b'))/\Below w.heap.size w w':=by
 unfold lessB
 by_cases h:t=t'
 ·have hd:(t !=t')=false:=by simp [h]
  rw [if_pos h]
  clear h
  go_enter func115,ntmps115
  go_wp2
  go_ret
  exact ⟨rfl,(zg _ _).alloc zm _⟩
 have hd:(t !=t')=true:=by simp [h]
 rw [if_neg h]
 clear h
 go_enter func115,ntmps115
 go_wp2
 go_ret
 exact ⟨rfl,(zg _ _).alloc zm _⟩
end Go.Proofs.YtpdbnnimdkfajaaGreatDoor
end
section
namespace Go.Proofs.YtpdbnnimdkfajaaGreatDoor
open Go
variable {a:Act} {w:World}
section
variable {P:Program} {ops:Array Oper} {Q:Exit→Act→World→Prop} {md:Region.Mode} {S:World→Prop}
theorem wpAnyH_one {i:Nat} {o:Oper} {fuel:Nat} {listed:Array Bool} (hr:Region.ready md ops listed= [i]) (ho:ops[i]? =some o)
  (h:∀K:Act->World->Prop,(∀a' w',S w'->wpAnyH P md ops Q S fuel (listed.setIfInBounds i true) a' w'->K a' w')->if Region.wanted o (yielded ops a.tmps)=true then Oper.wp P o a w K Q else K (a.put o.dst undef) w):wpAnyH P md ops Q S (fuel+1) listed a w:=by
 refine ⟨fun h0=>yW,fun j hj=> ?_⟩
 rw [hr] at hj
 simp only [jD] at hj
 subst hj
 have:=h (fun a' w'=>S w'/\wpAnyH P md ops Q S fuel (listed.setIfInBounds j true) a' w') (fun a' w' h1 h2=>⟨h1,h2⟩)
 unfold wpOp
 simp only [ho]
 split
 ·rename_i hw
  rw [if_pos hw] at this
  exact .inl this
 rename_i hw
 rw [if_neg hw] at this
 exact this
end
theorem wp_region_H {P:Program} {ops:Array Oper} {Q:Exit->Act->World->Prop} {S:World->Prop} {id:Nat} (hm:P.follows .mixedOrders=true) (hS:S w.drew)
  (h:S w.drew->wpAnyH P .any ops Q S ops.size (Array.replicate ops.size false) a w.drew):(Code.region id ops true).wp P Q a w:=
 wp_region_any hm (wpAny_of_held _ _ _ _ (h hS))
end Go.Proofs.YtpdbnnimdkfajaaGreatDoor
end
section
namespace Go.Proofs.YtpdbnnimdkfajaaGreatDoor
open Go.ChangeShapes Go.WideShapes Go.RowKit Go.Deep
variable {zs:List Int} {ao:Option Addr} {w:World}
def IntsZ (w:World) (ao:Option Addr) (zs:List Int):Prop:=zs= []\/∃blk off,ao=some ⟨blk,off,none⟩/\∀j z,zs[j]? =some z->w.cell? ⟨blk,off+j,none⟩=some (.int .i64 z)
theorem IntsZ.later {w':World} (h:IntsZ w ao zs) (hb:Below w.heap.size w w'):IntsZ w' ao zs:=by
 rcases h with h | ⟨g,o,h1,h2⟩
 ·exact .inl h
 refine .inr ⟨g,o,h1,fun j z hj=> ?_⟩
 rw [hb.cell (p:=⟨g,o+j,none⟩) (jl w ⟨g,o+j,none⟩ (h2 j z hj))]
 exact h2 j z hj
theorem IntsZ.at (h:IntsZ w ao zs) {i:Nat} {z:Int} (hi:zs[i]? =some z):∃blk off,ao=some ⟨blk,off,none⟩/\w.cell? ⟨blk,off+i,none⟩=some (.int .i64 z):=by
 rcases h with h | ⟨b,o,h1,h2⟩
 ·subst h;simp at hi
 exact ⟨b,o,h1,h2 i z hi⟩
