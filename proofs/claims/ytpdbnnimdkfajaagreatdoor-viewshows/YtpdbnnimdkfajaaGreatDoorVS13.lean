import Derived.Test.YtpdbnnimdkfajaaGreatDoorVS09
import Derived.Test.YtpdbnnimdkfajaaGreatDoorVS10
import Derived.Test.YtpdbnnimdkfajaaGreatDoorVS11
import Derived.Test.YtpdbnnimdkfajaaGreatDoorVS12
set_option linter.unusedSimpArgs false
set_option linter.unusedVariables false
set_option maxRecDepth 100000
set_option maxHeartbeats 64000000
namespace Go.Proofs.YtpdbnnimdkfajaaGreatDoor
open Go.Proofs.Tryz
variable {id:Int} {qs:List Plc} {ad:Nat→Addr} {ao:Option Addr} {R:Rws} {v:Value} {w w':World}
section
open Go.RowKit Go.Lib Go.Sort
theorem known_find (h:RowsN R) :KnownN (allR R) id↔∃x,findK R id=some x/\kdO x=109/\nodeO x=id:=by
 constructor
 ·rintro ⟨x,hx,k1,k2,k3⟩
  exact ⟨x,by rw [<-k3];exact findK_is h hx,k1,k2⟩
 rintro ⟨x,hx,k1,k2⟩
 obtain ⟨a,b⟩:=findK_some hx
 exact ⟨x,a,k1,k2,b⟩
theorem letter_find (h:RowsN R) {nd:Int} :LetterN (allR R) nd id↔∃x,findK R id=some x/\kdO x=105/\nodeO x=nd:=by
 constructor
 ·rintro ⟨x,hx,k1,k2,k3⟩
  exact ⟨x,by rw [<-k3];exact findK_is h hx,k1,k2⟩
 rintro ⟨x,hx,k1,k2⟩
 obtain ⟨a,b⟩:=findK_some hx
 exact ⟨x,a,k1,k2,b⟩
theorem isNode_any (w:World) (ao:Nat->Option Addr) (cap:Nat->Nat) (R:Rws) (id:Int) (z:Bool) (hz:z=true↔KnownN (allR R) id) (hE:Op4 ad w) (hK:KnownAt w ao R) (hR:RowsN R) (hl:∀i,i<4->(R i).length<=1000) (h2: -9223372036854775808<=id) (h3:id<=9223372036854775807):
  Calls prog 132 #[kV ao cap R,.int .i64 id] w fun e w'=>e= .returned (.bool z)/\Below w.heap.size w w':=by
 obtain ⟨U,hU⟩:=za (w.alloc (.cells #[.slice (ao 0) (R 0).length (cap 0),.slice (ao 1) (R 1).length (cap 1),.slice (ao 2) (R 2).length (cap 2),.slice (ao 3) (R 3).length (cap 3)] 65))
 have hb:Below w.heap.size w U:=zJ
 have hcall:=kfind_any U ao cap R id (hE.later hb) (hK.later hb) hR hl h2 h3
 rw [known_find hR] at hz
 unfold kV at hcall |-
 have HB:Aside (Below w.heap.size w U):=hb
 clear hb
 cases hf:findK R id with
 | none=>
  have hzf:z=false:=by
   cases z with
   | false=>rfl
   | true=>obtain ⟨x,e,_⟩:=hz.1 rfl;rw [hf] at e;cases e
  subst hzf
  rw [hf] at hcall
  unfold encO zeroO at hcall
  clear hf hz
  go_enter func132,ntmps132
  go_wp2_with fail
  rw [<-hU]
  clear hU
  refine hcall.mono ?_
  clear hcall
  rintro e w1 ⟨rfl,hb1⟩
  have B1:Aside (Below w.heap.size w w1):=zh HB.o hb1
  clear hb1 HB
  go_wp2
  go_ret
  exact ⟨rfl,B1.o.alloc B1.o.size _⟩
 | some x=>
  obtain ⟨t,b,n,k,nd,o,s,v⟩:=x
  have HZ:Aside (z=(decide (k=109) &&decide (nd=id))):=by
   show z=(decide (k=109) &&decide (nd=id))
   rw [uk,hz,vK,decide_eq_true_iff,decide_eq_true_iff]
   constructor
   ·rintro ⟨x,e,k1,k2⟩
    rw [hf] at e
    cases e
    exact ⟨k1,k2⟩
   rintro ⟨k1,k2⟩
   exact ⟨_,hf,k1,k2⟩
  rw [hf] at hcall
  unfold encO at hcall
  dsimp only [Option.getD_some] at hcall
  clear hf hz
  by_cases hk:k=109
  ·subst hk
   go_enter func132,ntmps132
   go_wp2_with fail
   rw [<-hU]
   clear hU
   refine hcall.mono ?_
   clear hcall
   rintro e w1 ⟨rfl,hb1⟩
   have B1:Aside (Below w.heap.size w w1):=zh HB.o hb1
   clear hb1 HB
   go_wp2
   go_ret
   exact ⟨by rw [HZ.o];simp [BEq.beq],B1.o.alloc B1.o.size _⟩
  have dk:((k:Int)==109)=false:=zk
  go_enter func132,ntmps132
  go_wp2_with fail
  rw [<-hU]
  clear hU
  refine hcall.mono ?_
  clear hcall
  rintro e w1 ⟨rfl,hb1⟩
  have B1:Aside (Below w.heap.size w w1):=zh HB.o hb1
  clear hb1 HB
  go_wp2
  go_ret
  exact ⟨by rw [HZ.o];simp [hk],B1.o.alloc B1.o.size _⟩
theorem isLetter_any (w:World) (ao:Nat->Option Addr) (cap:Nat->Nat) (R:Rws) (node id:Int) (z:Bool) (hz:z=true↔LetterN (allR R) node id) (hE:Op4 ad w) (hK:KnownAt w ao R) (hR:RowsN R) (hl:∀i,i<4->(R i).length<=1000) (h2: -9223372036854775808<=id) (h3:id<=9223372036854775807):
  Calls prog 184 #[kV ao cap R,.int .i64 node,.int .i64 id] w fun e w'=>e= .returned (.bool z)/\Below w.heap.size w w':=by
 obtain ⟨U,hU⟩:=za (w.alloc (.cells #[.slice (ao 0) (R 0).length (cap 0),.slice (ao 1) (R 1).length (cap 1),.slice (ao 2) (R 2).length (cap 2),.slice (ao 3) (R 3).length (cap 3)] 65))
 have hb:Below w.heap.size w U:=zJ
 have hcall:=kfind_any U ao cap R id (hE.later hb) (hK.later hb) hR hl h2 h3
 rw [letter_find hR] at hz
 unfold kV at hcall |-
 have HB:Aside (Below w.heap.size w U):=hb
 clear hb
 cases hf:findK R id with
 | none=>
  have hzf:z=false:=by
   cases z with
   | false=>rfl
   | true=>obtain ⟨x,e,_⟩:=hz.1 rfl;rw [hf] at e;cases e
  subst hzf
  rw [hf] at hcall
  unfold encO zeroO at hcall
  clear hf hz
  go_enter func184,ntmps184
  go_wp2_with fail
  rw [<-hU]
  clear hU
  refine hcall.mono ?_
  clear hcall
  rintro e w1 ⟨rfl,hb1⟩
  have B1:Aside (Below w.heap.size w w1):=zh HB.o hb1
  clear hb1 HB
  go_wp2
  go_ret
  exact ⟨rfl,B1.o.alloc B1.o.size _⟩
 | some x=>
  obtain ⟨t,b,n,k,nd,o,s,v⟩:=x
  have HZ:Aside (z=(decide (k=105) &&decide (nd=node))):=by
   show z=(decide (k=105) &&decide (nd=node))
   rw [uk,hz,vK,decide_eq_true_iff,decide_eq_true_iff]
   constructor
   ·rintro ⟨x,e,k1,k2⟩
    rw [hf] at e
    cases e
    exact ⟨k1,k2⟩
   rintro ⟨k1,k2⟩
   exact ⟨_,hf,k1,k2⟩
  rw [hf] at hcall
  unfold encO at hcall
  dsimp only [Option.getD_some] at hcall
  clear hf hz
  by_cases hk:k=105
  ·subst hk
   go_enter func184,ntmps184
   go_wp2_with fail
   rw [<-hU]
   clear hU
   refine hcall.mono ?_
   clear hcall
   rintro e w1 ⟨rfl,hb1⟩
   have B1:Aside (Below w.heap.size w w1):=zh HB.o hb1
   clear hb1 HB
   go_wp2
   go_ret
   exact ⟨by rw [HZ.o];simp [BEq.beq],B1.o.alloc B1.o.size _⟩
  have dk:((k:Int)==105)=false:=zk
  go_enter func184,ntmps184
  go_wp2_with fail
  rw [<-hU]
  clear hU
  refine hcall.mono ?_
  clear hcall
  rintro e w1 ⟨rfl,hb1⟩
  have B1:Aside (Below w.heap.size w w1):=zh HB.o hb1
  clear hb1 HB
  go_wp2
  go_ret
  exact ⟨by rw [HZ.o];simp [hk],B1.o.alloc B1.o.size _⟩
theorem isPlace_any (w:World) (ao:Nat->Option Addr) (cap:Nat->Nat) (R:Rws) (id:Int) (z:Bool) (hz:z=true↔id=0\/id=1\/KnownN (allR R) id) (hE:Op4 ad w) (hK:KnownAt w ao R) (hR:RowsN R) (hl:∀i,i<4->(R i).length<=1000) (h2: -9223372036854775808<=id) (h3:id<=9223372036854775807):
  Calls prog 104 #[kV ao cap R,.int .i64 id] w fun e w'=>e= .returned (.bool z)/\Below w.heap.size w w':=by
 obtain ⟨U,hU⟩:=za (w.alloc (.cells #[.slice (ao 0) (R 0).length (cap 0),.slice (ao 1) (R 1).length (cap 1),.slice (ao 2) (R 2).length (cap 2),.slice (ao 3) (R 3).length (cap 3)] 65))
 have hb:Below w.heap.size w U:=zJ
 have HB:Aside (Below w.heap.size w U):=hb
 by_cases h0:id=0
 ·obtain rfl:z=true:=hz.2 (.inl h0)
  subst h0
  unfold kV
  clear hb hz
  go_enter func104,ntmps104
  go_wp2
  go_ret
  exact ⟨rfl,zg w _⟩
 by_cases h1:id=1
 ·obtain rfl:z=true:=hz.2 (.inr (.inl h1))
  subst h1
  unfold kV
  clear hb hz
  go_enter func104,ntmps104
  go_wp2
  go_ret
  exact ⟨rfl,zg w _⟩
 have hz':z=true↔KnownN (allR R) id:=hz.trans ⟨fun q=>(q.resolve_left h0).resolve_left h1,fun q=>.inr (.inr q)⟩
 have hcall:=isNode_any U ao cap R id z hz' (hE.later hb) (hK.later hb) hR hl h2 h3
 have d0:(id==0)=false:=qP
 have d1:(id==1)=false:=by simp [h1]
 unfold kV at hcall |-
 clear hb hz hz'
 go_enter func104,ntmps104
 go_wp2_with fail
 rw [<-hU]
 clear hU
 refine hcall.mono ?_
 clear hcall
 rintro e w1 ⟨rfl,hb1⟩
 have B1:Aside (Below w.heap.size w w1):=zh HB.o hb1
 clear hb1 HB
 go_wp2
 go_ret
 exact ⟨rfl,B1.o⟩
theorem refOk_iff {S:List OpX} {x:OpX} (hx:x∈S) (ho:0<=otherO x):RefOk S x↔KnownN S (nodeO x)/\(kdO x=109->otherO x=0\/otherO x=1\/KnownN S (otherO x))/\(kdO x=105->otherO x=0\/LetterN S (nodeO x) (otherO x))/\(kdO x=100->LetterN S (nodeO x) (otherO x)):=by
 constructor
 ·rintro ⟨h1,h2,h3⟩
  refine ⟨?_,h2,fun k=> ?_,fun k=>h3 (.inr k)⟩
  ·rcases h1 with ⟨k,e⟩ | k
   ·exact ⟨x,hx,k,rfl,e⟩
   exact k
  by_cases e:otherO x=0
  ·exact .inl e
  exact .inr (h3 (.inl ⟨k,zi⟩))
 rintro ⟨h1,h2,h3,h4⟩
 exact ⟨.inr h1,h2,fun k=>k.elim (fun k=>(h3 k.1).resolve_left zi) h4⟩
theorem bears_any (w:World) (ao:Nat->Option Addr) (cap:Nat->Nat) (R:Rws) (x:OpX) (hx:x∈allR R) (z:Bool) (hz:z=true↔RefOk (allR R) x) (hE:Op4 ad w) (hK:KnownAt w ao R) (hR:RowsN R) (hl:∀i,i<4->(R i).length<=1000):
  Calls prog 118 #[kV ao cap R,encO x] w fun e w'=>e= .returned (.bool z)/\Below w.heap.size w w':=by
 have hid:=id_range (hR.num.ok x hx)
 have hrf:=err_refs (hR.num.ok x hx)
 rw [refOk_iff hx zi] at hz
 obtain ⟨t,b,n,k,nd,o,s,v⟩:=x
 have q1:nd<=idO (t,b,n,k,nd,o,s,v):=hrf.1.elim (fun q=>q.2) (fun q=>uy q)
 have q2:o<idO (t,b,n,k,nd,o,s,v):=hrf.2.1
 have q3:0<=nd:=hrf.2.2.1
 have q4:0<=o:=hrf.2.2.2.1
 have hn0:0<=nd/\nd<=4294967300:=⟨q3,zi⟩
 have ho0:0<=o/\o<=4294967300:=⟨q4,zi⟩
 clear q1 q2 q3 q4
 change z=true↔KnownN (allR R) nd/\(k=109->o=0\/o=1\/KnownN (allR R) o)/\(k=105->o=0\/LetterN (allR R) nd o)/\(k=100->LetterN (allR R) nd o) at hz
 clear hid hrf
 obtain ⟨U,hU⟩:=za ((w.alloc (.cells #[.slice (ao 0) (R 0).length (cap 0),.slice (ao 1) (R 1).length (cap 1),.slice (ao 2) (R 2).length (cap 2),.slice (ao 3) (R 3).length (cap 3)] 65)).alloc (.cells #[.int .i64 t,.int .i64 b,.int .i64 n,.int .u8 (k:Int),.int .i64 nd,.int .i64 o,.string s,.string v] 38))
 obtain ⟨S,hS⟩:=za w.heap.size
 have hb:Below w.heap.size w U:=zG
 have hz1:OpBlk U (S+1) (t,b,n,k,nd,o,s,v):=by
  rw [hU,hS]
  have:=heap_alloc_new (w.alloc (.cells #[.slice (ao 0) (R 0).length (cap 0),.slice (ao 1) (R 1).length (cap 1),.slice (ao 2) (R 2).length (cap 2),.slice (ao 3) (R 3).length (cap 3)] 65)) (.cells #[.int .i64 t,.int .i64 b,.int .i64 n,.int .u8 (k:Int),.int .i64 nd,.int .i64 o,.string s,.string v] 38)
  rw [jI] at this
  exact this
 have hk:KBox U S ao cap R:=zM
 obtain ⟨zn,hzn⟩:∃zn:Bool,zn=true↔KnownN (allR R) nd:=by
  by_cases q:KnownN (allR R) nd
  ·exact ⟨true,by simp [q]⟩
  exact ⟨false,by simp [q]⟩
 have hcall:=isNode_any U ao cap R nd zn hzn (hE.later hb) (hK.later hb) hR hl zi zi
 have HB:Aside (Below w.heap.size w U/\KBox U S ao cap R/\OpBlk U (S+1) (t,b,n,k,nd,o,s,v)):=⟨hb,hk,hz1⟩
 unfold kV at hcall |-
 unfold encO
 clear hb hk hz1
 go_enter func118,ntmps118
 go_wp2_with fail
 rw [<-hU,<-hS]
 clear hU hS
 refine hcall.mono ?_
 clear hcall
 rintro e w1 ⟨rfl,hb1⟩
 have H1:Aside (Below w.heap.size w w1/\KBox w1 S ao cap R/\OpBlk w1 (S+1) (t,b,n,k,nd,o,s,v)):=⟨zh HB.o.1 hb1,HB.o.2.1.later hb1,HB.o.2.2.later hb1⟩
 obtain ⟨y0,y1,y2,y3,y4,y5,y6,y7,f8⟩:=H1.o.2.2.cells
 dsimp only at y0 y1 y2 y3 y4 y5 y6 y7
 have k0:=H1.o.2.1.at (i:=0) zi
 have k1:=H1.o.2.1.at (i:=1) zi
 have k2:=H1.o.2.1.at (i:=2) zi
 have k3:=H1.o.2.1.at (i:=3) zi
 have hE1:=hE.later H1.o.1
 have hK1:=hK.later H1.o.1
 clear hb1 HB
 cases zn with
 | false=>
  have hzf:z=false:=by
   cases z with
   | false=>rfl
   | true=>exact absurd (hzn.2 (hz.1 rfl).1) zo
  subst hzf
  clear hz hzn
  go_wp2
  go_ret
  exact ⟨rfl,H1.o.1⟩
 | true=>
  have hkn:=hzn.1 rfl
  clear hzn
  by_cases hm:k=109
  ·subst hm
   have hz':z=true↔o=0\/o=1\/KnownN (allR R) o:=hz.trans ⟨fun q=>q.2.1 rfl,fun q=>⟨hkn,fun _=>q,fun k=>absurd k zo,fun k=>absurd k zo⟩⟩
   have hcall:=isPlace_any w1 ao cap R o z hz' hE1 hK1 hR hl zi zi
   unfold kV at hcall
   clear hz hz'
   go_wp2_with fail
   refine hcall.mono ?_
   clear hcall
   rintro e w2 ⟨rfl,hb2⟩
   have B2:Aside (Below w.heap.size w w2):=zh H1.o.1 hb2
   clear hb2
   go_wp2
   go_ret
   exact ⟨rfl,B2.o⟩
  have dm:((k:Int)==109)=false:=zk
  by_cases hi:k=105
  ·subst hi
   by_cases h0:o=0
   ·subst h0
    obtain rfl:z=true:=hz.2 ⟨hkn,fun k=>absurd k zo,fun _=>.inl rfl,fun k=>absurd k zo⟩
    clear hz
    go_wp2
    go_ret
    exact ⟨rfl,H1.o.1⟩
   have d0:(o==0)=false:=qP
   have hz':z=true↔LetterN (allR R) nd o:=hz.trans ⟨fun q=>(q.2.2.1 rfl).resolve_left h0,fun q=>⟨hkn,fun k=>absurd k zo,fun _=>.inr q,fun k=>absurd k zo⟩⟩
   have hcall:=isLetter_any w1 ao cap R nd o z hz' hE1 hK1 hR hl zi zi
   unfold kV at hcall
   clear hz hz'
   go_wp2_with fail
   refine hcall.mono ?_
   clear hcall
   rintro e w2 ⟨rfl,hb2⟩
   have B2:Aside (Below w.heap.size w w2):=zh H1.o.1 hb2
   clear hb2
   go_wp2
   go_ret
   exact ⟨rfl,B2.o⟩
  have di:((k:Int)==105)=false:=zk
  by_cases hd:k=100
  ·subst hd
   have hz':z=true↔LetterN (allR R) nd o:=hz.trans ⟨fun q=>q.2.2.2 rfl,fun q=>⟨hkn,fun k=>absurd k zo,fun k=>absurd k zo,fun _=>q⟩⟩
   have hcall:=isLetter_any w1 ao cap R nd o z hz' hE1 hK1 hR hl zi zi
   unfold kV at hcall
   clear hz hz'
   go_wp2_with fail
   refine hcall.mono ?_
   clear hcall
   rintro e w2 ⟨rfl,hb2⟩
   have B2:Aside (Below w.heap.size w w2):=zh H1.o.1 hb2
   clear hb2
   go_wp2
   go_ret
   exact ⟨rfl,B2.o⟩
  have dd:((k:Int)==100)=false:=zk
  obtain rfl:z=true:=hz.2 ⟨hkn,fun k=>absurd k hm,fun k=>absurd k hi,fun k=>absurd k hd⟩
  clear hz
  go_wp2
  go_ret
  exact ⟨rfl,H1.o.1⟩
end
section
open Go.RowKit Go.Lib Go.Sort
def PredO (g:Nat) (lb:Array Value) (xs:List OpX) (p:OpX->Bool) (w:World):Prop:=
 ∀(W:World) (x:OpX),x∈xs->Below w.heap.size w W->Calls prog g (#[encO x]++lb) W fun e w'=>e= .returned (.bool (p x))/\Below w.heap.size w w'
def IdxO (p:OpX->Bool) (zs:List OpX) (r:Int):Prop:=
 (r= -1/\∀x∈zs,p x=false)\/∃k x,r=((k:Nat):Int)/\zs[k]? =some x/\p x=true/\∀j y,j<k->zs[j]? =some y->p y=false
theorem idxOps_any (p:OpX->Bool) (g:Nat) (lb:Array Value) (eg:∀args w,(callFunc g args).run prog w= .ok (.enter g args) w) (ao:Option Addr) (cap:Nat) (zs:List OpX) (w:World) (hp:PredO g lb zs p w) (hbig:zs.length<=1000000) (hin:OpsIn w ao zs):
  Calls prog 152 #[.slice ao zs.length cap,.func (.func g) #[] lb] w fun e w'=>∃r:Int,e= .returned (.int .i64 r)/\Aside (IdxO p zs r/\Below w.heap.size w w'):=by
 have HP:Aside (PredO g lb zs p w):=hp
 have HI:Aside (OpsIn w ao zs):=hin
 clear hp hin
 go_enter func152,ntmps152
 go_wp2
 go_loopg [5,8] zs.length (fun kx _ s8 wr=>∃(k:Nat),s8= .int .i64 (k:Int)/\k<=zs.length/\zs.length - k<=kx/\Aside (Below w.heap.size w wr/\∀j l,j<k->zs[j]? =some l->p l=false))
 case atStart=>exact ⟨0,rfl,js _,jj _,⟨jo _ w,fun j l hj=>zi⟩⟩
 case round=>
  obtain ⟨k,rfl,hk,hkx,A⟩:=hrel
  by_cases hlt:k<zs.length
  ·have hltz:decide ((k:Int)<(zs.length:Int))=true:=by simp;omega
   have ek:((k:Int)).toNat=k:=zi
   have pk:(0:Int)<=(k:Int):=zi
   have bk:(k:Int)<(zs.length:Int):=zi
   obtain ⟨⟨t,b,n,kd,nd,o,s,v⟩,hl⟩:∃l,Aside (zs[k]? =some l):=⟨zs[k],ji hlt⟩
   obtain ⟨blk,off,hao,hc⟩:=(HI.o.later A.o.1).get hl.o
   subst hao
   have r0:=hc 0 _ rfl
   have r1:=hc 1 _ rfl
   have r2:=hc 2 _ rfl
   have r3:=hc 3 _ rfl
   have r4:=hc 4 _ rfl
   have r5:=hc 5 _ rfl
   have r6:=hc 6 _ rfl
   have r7:=hc 7 _ rfl
   simp only [vk] at r0
   clear hc
   have hcall:=HP.o wr (t,b,n,kd,nd,o,s,v) (jm hl.o) A.o.1
   unfold encO at hcall
   dsimp only at hcall
   cases hq:p (t,b,n,kd,nd,o,s,v) with
   | true=>
    rw [hq] at hcall
    have HQ:=Lib.hid hq
    clear hq
    go_wp2_with (go_at_fn g;refine hcall.mono ?_;rintro e w' ⟨rfl,hb'⟩)
    go_ret
    exact ⟨_,rfl,.inr ⟨k,_,rfl,hl.o,HQ.o,A.o.2⟩,hb'⟩
   | false=>
    rw [hq] at hcall
    have HQ:=Lib.hid hq
    clear hq
    go_wp2_with (go_at_fn g;refine hcall.mono ?_;rintro e w' ⟨rfl,hb'⟩)
    go_roundg (zs.length - (k+1))
    case measure=>omega
    case rel=>
     refine ⟨k+1,zw,zi,jj _,⟨hb',fun j l hj e=> ?_⟩⟩
     rcases vh j k with h | h
     ·exact A.o.2 j l h e
     obtain rfl:j=k:=zi
     rw [hl.o] at e
     cases e
     exact HQ.o
  have hltz:decide ((k:Int)<(zs.length:Int))=false:=zk
  go_wp2
  go_ret
  refine ⟨_,rfl,.inl ⟨rfl,fun l hl=> ?_⟩,A.o.1⟩
  obtain ⟨j,hj,rfl⟩:=jU hl
  exact A.o.2 j _ zi (ji hj)
theorem hasOps_any (p:OpX->Bool) (g:Nat) (lb:Array Value) (eg:∀args w,(callFunc g args).run prog w= .ok (.enter g args) w) (ao:Option Addr) (cap:Nat) (zs:List OpX) (w:World) (hp:PredO g lb zs p w) (hbig:zs.length<=1000000) (hin:OpsIn w ao zs):
  Calls prog 116 #[.slice ao zs.length cap,.func (.func g) #[] lb] w fun e w'=>e= .returned (.bool (zs.any p))/\Below w.heap.size w w':=by
 have hcall:=idxOps_any p g lb eg ao cap zs w hp hbig hin
 clear hp hin eg
 go_enter func116,ntmps116
 go_wp2_with fail
 refine hcall.mono ?_
 clear hcall
 rintro e w' ⟨r,rfl,H⟩
 rcases H.o.1 with ⟨hr,ha⟩ | ⟨k,x,hr,hx,hpx,_⟩
 ·have HA:Aside (zs.any p=false):=by
   show zs.any p=false
   rw [List.any_eq_false]
   intro x hx
   rw [ha x hx]
   decide
  clear ha
  subst hr
  go_wp2
  go_ret
  exact ⟨by rw [HA.o];rfl,H.o.2⟩
 have HA:Aside (zs.any p=true):=un.2 ⟨x,jm hx,hpx⟩
 have dr:decide (0<=r)=true:=zk
 clear hx hpx hr
 go_wp2
 go_ret
 exact ⟨by rw [HA.o];rfl,H.o.2⟩
theorem bearsAll_any (w:World) (ao:Nat->Option Addr) (cap:Nat->Nat) (R:Rws) (fa:Option Addr) (fc:Nat) (fresh:List OpX) (hin:OpsIn w fa fresh) (hx:∀x∈fresh,x∈allR R) (z:Bool) (hz:z=true↔∀x∈fresh,RefOk (allR R) x) (hE:Op4 ad w) (hK:KnownAt w ao R) (hR:RowsN R) (hl:∀i,i<4->(R i).length<=1000) (hn:fresh.length<=1000):
  Calls prog 51 #[kV ao cap R,.slice fa fresh.length fc] w fun e w'=>e= .returned (.bool z)/\Below w.heap.size w w':=by
 obtain ⟨U,hU⟩:=za (w.alloc (.cells #[.slice (ao 0) (R 0).length (cap 0),.slice (ao 1) (R 1).length (cap 1),.slice (ao 2) (R 2).length (cap 2),.slice (ao 3) (R 3).length (cap 3)] 65))
 have hb:Below w.heap.size w U:=zJ
 have hk:KBox U w.heap.size ao cap R:=by rw [hU];exact KBox.new w ao cap R
 obtain ⟨p,hp⟩:∃p:OpX->Bool,∀x,p x=true↔¬RefOk (allR R) x:=by
  refine ⟨fun x=> @decide (¬RefOk (allR R) x) (Classical.propDecidable _),fun x=> ?_⟩
  exact @decide_eq_true_iff _ (Classical.propDecidable _)
 have hpred:PredO 117 #[.pointer (some ⟨w.heap.size,0,none⟩)] fresh p U:=by
  intro W x hxf hbW
  have hkW:=hk.later hbW
  have hc:=bears_any (W.alloc (.cells #[.int .i64 x.1,.int .i64 x.2.1,.int .i64 x.2.2.1,.int .u8 (x.2.2.2.1:Int),.int .i64 x.2.2.2.2.1,.int .i64 x.2.2.2.2.2.1,.string x.2.2.2.2.2.2.1,.string x.2.2.2.2.2.2.2] 38)) ao cap R x (hx x hxf) (!(p x)) (by
   rw [Bool.not_eq_true']
   constructor
   ·intro q
    refine Classical.byContradiction (fun k=> ?_)
    rw [(hp x).2 k] at q
    cases q
   ·intro q
    cases hq:p x with
    | false=>rfl
    | true=>exact absurd q ((hp x).1 hq)) ((hE.later hb).later (hbW.alloc hbW.size _)) ((hK.later hb).later (hbW.alloc hbW.size _)) hR hl
  have k0:=hkW.at (i:=0) zi
  have k1:=hkW.at (i:=1) zi
  have k2:=hkW.at (i:=2) zi
  have k3:=hkW.at (i:=3) zi
  have hlt:=hkW.lt
  have hsz:=hbW.size
  have HB:Aside (Below U.heap.size U W):=hbW
  clear hkW hbW hp
  obtain ⟨t,b,n,kd,nd,o,s,v⟩:=x
  unfold kV encO at hc
  dsimp only at hc
  show Calls prog 117 #[encO (t,b,n,kd,nd,o,s,v),.pointer (some ⟨w.heap.size,0,none⟩)] W _
  unfold encO
  dsimp only
  go_enter func117,ntmps117
  go_wp2_with fail
  refine hc.mono ?_
  clear hc
  rintro e w1 ⟨rfl,hb1⟩
  have B1:Aside (Below U.heap.size U w1):=(HB.o.alloc HB.o.size _).trans (hb1.mono (by simp;have:=HB.o.size;omega))
  clear hb1
  go_wp2
  go_ret
  exact ⟨zm,B1.o⟩
 have hcall:=hasOps_any p 117 #[.pointer (some ⟨w.heap.size,0,none⟩)] (enters_of func117 zj rfl) fa fc fresh U hpred zi (hin.later hb)
 have HB:Aside (Below w.heap.size w U):=hb
 have HZ:Aside (z= !(fresh.any p)):=by
  show z= !(fresh.any p)
  rw [uk,hz,Bool.not_eq_true',List.any_eq_false]
  exact ⟨fun q x hxf hpx=>(hp x).1 hpx (q x hxf),fun q x hxf=>Classical.byContradiction (fun k=>q x hxf ((hp x).2 k))⟩
 clear hz hp hpred hb hk
 unfold kV
 go_enter func51,ntmps51
 go_wp2_with fail
 rw [<-hU]
 clear hU
 refine hcall.mono ?_
 clear hcall
 rintro e w1 ⟨rfl,hb1⟩
 have B1:Aside (Below w.heap.size w w1):=zh HB.o hb1
 clear hb1
 go_wp2
 go_ret
 exact ⟨by rw [HZ.o];rfl,B1.o⟩
theorem kidx (a0 a1 a2 a3:Value):(∀w,(Instr.index 65 (.agg #[a0,a1,a2,a3]) (.int .i64 0)).run prog w= .ok a0 w)/\(∀w,(Instr.index 65 (.agg #[a0,a1,a2,a3]) (.int .i64 1)).run prog w= .ok a1 w)/\(∀w,(Instr.index 65 (.agg #[a0,a1,a2,a3]) (.int .i64 2)).run prog w= .ok a2 w)/\∀w,(Instr.index 65 (.agg #[a0,a1,a2,a3]) (.int .i64 3)).run prog w= .ok a3 w:=
 ⟨fun _=>zj,fun _=>zj,fun _=>zj,fun _=>zj⟩
theorem count_any (w:World) (ao:Nat->Option Addr) (cap:Nat->Nat) (R:Rws) (hl:∀i,i<4->(R i).length<=1000):
  Calls prog 52 #[kV ao cap R] w fun e w'=>e= .returned (.int .i64 ((allR R).length:Int))/\Below w.heap.size w w':=by
 have h0:=hl 0 zi
 have h1:=hl 1 zi
 have h2:=hl 2 zi
 have h3:=hl 3 zi
 have HL:Aside (((allR R).length:Int)=(R 0).length+(R 1).length+(R 2).length+(R 3).length):=by
  show ((allR R).length:Int)=_
  unfold allR;simp;omega
 obtain ⟨x0,x1,x2,x3⟩:=kidx (.slice (ao 0) (R 0).length (cap 0)) (.slice (ao 1) (R 1).length (cap 1)) (.slice (ao 2) (R 2).length (cap 2)) (.slice (ao 3) (R 3).length (cap 3))
 unfold kV
 go_enter func52,ntmps52
 go_wp2
 refine wp_loop_rounds 5 ?_
 iterate 5
  rw [rounds_succ]
  go_wp2
 go_ret
 refine ⟨?_,zg w _⟩
 rw [HL.o]
 first | rfl | (refine congrArg _ (congrArg _ ?_);omega)
theorem results_c {fn:Func} {p:Tmp} {ty:TypeId} (h:fn.results= #[.cell p ty]) (tmps:Array Value) (P:Program) (w:World):
  (results fn tmps).run P w=((asAddr (tmps.getD p undef)).run P w).andThen fun a w1=>((loadVar ty a).run P w1):=by
 simp only [results,h]
 simp [Sem.run_bind,Result.andThen]
theorem kvector_any (w:World) (ao:Nat->Option Addr) (cap:Nat->Nat) (R:Rws) (hl:∀i,i<4->(R i).length<=1000):
  Calls prog 80 #[kV ao cap R] w fun e w'=>e= .returned (.agg #[.int .i64 ((R 0).length:Int),.int .i64 ((R 1).length:Int),.int .i64 ((R 2).length:Int),.int .i64 ((R 3).length:Int)])/\Below w.heap.size w w':=by
 have h0:=hl 0 zi
 have h1:=hl 1 zi
 have h2:=hl 2 zi
 have h3:=hl 3 zi
 obtain ⟨x0,x1,x2,x3⟩:=kidx (.slice (ao 0) (R 0).length (cap 0)) (.slice (ao 1) (R 1).length (cap 1)) (.slice (ao 2) (R 2).length (cap 2)) (.slice (ao 3) (R 3).length (cap 3))
 unfold kV
 go_enter func80,ntmps80
 go_wp2
 refine wp_loop_rounds 5 ?_
 iterate 5
  rw [rounds_succ]
  go_wp2
 (try simp only [Exit.inBlock,Exit.then])
 refine bodyPost_ret (v:=.agg #[.int .i64 ((R 0).length:Int),.int .i64 ((R 1).length:Int),.int .i64 ((R 2).length:Int),.int .i64 ((R 3).length:Int)]) ?_ rfl ⟨rfl,?_⟩
 ·rw [results_c rfl]
  go_simp
 exact ((zg w _).alloc zm _).alloc zk _
end
section
open Go.RowKit Go.Shelf Go.Maps
attribute [local go_sem] Oper.semAt_some
theorem infoPl:(prog.info? 106).map (fun i=>(i.zero,i.size,i.bytes))=some (some (.agg #[.int .i64 0,.int .i64 0,.string ⟨#[]⟩]),3,32):=zj
theorem lit_cellsP (w:World) (p:Plc) (j:Nat) (u:Value) (hj:(cellsP p)[j]? =some u):(w.alloc (.cells #[.int .i64 p.1,.int .i64 p.2.1,.string p.2.2] 106)).cell? ((⟨w.heap.size,0,none⟩:Addr).add j)=some u:=by
 rw [Addr.add_lit,jt]
 have h:=heap_alloc_new w (.cells #[.int .i64 p.1,.int .i64 p.2.1,.string p.2.2] 106)
 simp only [World.cell?,h]
 rw [<-hj]
 simp [cellsP]
theorem appendSeq_any (w:World) (Bm b nn:Nat) (f:Sta) (G:Good f) (hBm:Bm<w.heap.size) (hm:w.cell? ⟨Bm,0,none⟩=some (.map (some b))) (hM:MapAt prog 3 w b nn f) (hnn:nn<=2000000):
  Calls prog 215 #[.slice none 0 0,.func (.func 167) #[] #[.pointer (some ⟨Bm,0,none⟩)]] w fun e w'=>∃v ps,e= .returned v/\AllP f ps/\ps.length<=nn/\w'.ownsRow w.heap.size 106 3 v ps.length (flat cellsP ps)/\Below w.heap.size w w':=by
 obtain ⟨i0,hi,hz0,hz1,hz2⟩:=info_parts infoPl
 refine (callsIn_wide (n:=4)).1 ?_
 refine callsIn_of_wp_marks func215 rfl trivial ?_ rfl
 simp only [ntmps215,jN,jK,vy,Nat.reduceAdd,Nat.reduceSub,vd,ve,vr,vj,vn,vp]
 gi_wp2
 obtain ⟨w1,hw1⟩:=za (w.alloc (.cells #[.slice none 0 0] 103))
 rw [<-hw1]
 have hB0:Below w.heap.size w w1:=xk
 have hs1:w1.heap.size=w.heap.size+1:=xP
 obtain ⟨B,hB⟩:=za w.heap.size
 have e1:Boxed w1 B 103 (.slice none 0 0):=by rw [hw1,hB];exact heap_alloc_new w _
 rw [<-hB] at hB0 hs1 hBm |-
 have HB:Aside (B=w.heap.size):=hB
 have hBw:B<=w.heap.size:=zi
 clear hB
 have hm1:=(hB0.cell (p:=⟨Bm,0,none⟩) hBm).trans hm
 have hM1:=hM.same (hB0.block b (by have:=HB.o;have:=hM.lt;omega))
 clear hw1 hm hM
 refine wpIn_rangeFunc_ownH rfl zi (gf:=167) (lb:= #[.pointer (some ⟨Bm,0,none⟩)]) rfl trivial (enters_of func167 zj rfl)
  (values_stops Fence.wide (4 - 1) trivial rfl zi Bm b nn f G w1 zi hm1 hM1) walksK_t (walksK_b (w:=w1)) (jo _ _) (fun _=>rfl)
  (fun pre W=>((∃v,Boxed W B 103 v/\W.ownsRow B 106 3 v pre.length (flat cellsP pre)/\pre.length<=nn))/\(w1.heap.size<=W.heap.size/\Below B w W))
  (fun _ _ _=>False)
  (OwnFrom.and (Own.from (holdsRow_own B B 103 106 3 (fun pre=>pre.length) (fun pre=>flat cellsP pre) (fun pre _=>pre.length<=nn)) _) (OwnFrom.and (fun _ X Y row hs hg _=>jw hs hg.size) (ownFrom_below zi zi)))
  (fun _ _ _ _ _ hs _ _=>hs)
  ⟨⟨_,e1,jQ w1 B _ _,js _⟩,jj _,hB0⟩
  (fun x a' W=>∃Bx,w1.heap.size<=Bx/\PlcAt W Bx x/\a'= {tmps:= #[.slice none 0 0,.func (.func 167) #[] #[.pointer (some ⟨Bm,0,none⟩)],.pointer (some ⟨B,0,none⟩),undef,.slice none 0 0,.pointer (some ⟨Bx,0,none⟩),.func (.func 167) #[] #[.pointer (some ⟨Bm,0,none⟩)],.agg #[.int .i64 x.1,.int .i64 x.2.1,.string x.2.2],undef,undef,undef,undef,undef],defers:=[]})
  (fun x a'=>Own.from (fun _ X Y row hs hg hr=>zK) _)
  ?assign ?body ?done ?stop
 case assign=>
  rintro l pre x W K ⟨⟨v,hv,hrow,hpl⟩,hsz,hBW⟩ hK
  have hK':Aside _:=hK
  have hBs:B<=W.heap.size:=zi
  clear hK
  unfold encP
  gi_wp2
  refine hK'.o _ _ ((KeepsOthers.alloc _ _).from _) (KeepsOthers.alloc _ _).walks ⟨⟨v,hv.alloc _,hrow.alloc _,hpl⟩,zk,hBW.alloc hBs _⟩ ⟨W.heap.size,zi,heap_alloc_new W _,rfl⟩
 case body=>
  rintro l pre x a' W hl _ ⟨⟨v,hv,hrow,hpl⟩,hsz,hBW⟩ ⟨Bx,hBx,hE,rfl⟩ hlt
  have g1:=hv.cell
  have f0:=hE.c0
  have f1:=hE.c1
  have f2:=hE.c2
  have hBs:B<=W.heap.size:=zi
  gi_wp2_with (gi_at_builtin;refine wpListIn_append_own _ rfl _ _ 103 rfl B 106 i0 _ 3 32 underlying103 hi hz0 hz1 hz2 rfl zi _ _ _ rfl (hrow.alloc _) ⟨W.heap.size,0,none⟩ 1 1 (cellsP x) rfl rfl (lit_cellsP W x) (cellsP_one x) zD zi zk ?_;intro v' w2 hown' hgrow _;obtain ⟨g',cap',rfl⟩:=ownsRow_succ hown';obtain ⟨hv1,hv2,hr2,hk2,hb2⟩:=hv.appended zo hrow hBs ze hown' hgrow;have hc1:=hv1.cell;have hf1:=hv1.frozen)
  exact ⟨hk2.from _,hk2.walks,⟨⟨_,hv2,by rw [jA,vX,flat_append];simpa [flat] using hr2,zk⟩,by have:=hk2.size;omega,hBW.trans hb2⟩⟩
 case done=>
  rintro D ys W hD hall ⟨⟨v,hv,hrow,hpl⟩,hsz,hBW⟩ hK
  have g1:=hv.cell
  gi_wp2
  refine ⟨zm,.inl ⟨_,_,rfl,run_takeDeferred hK,?_⟩⟩
  refine ⟨v,by simp [results,f215,go_sem],v,ys,rfl,hall,hpl,?_,?_⟩
  ·rw [<-HB.o]
   exact ownsRow_putObj hrow _ hK rfl
  rw [<-HB.o]
  exact hBW.trans (belowK_b (w:=w) zi W D _ _ yO hK rfl rfl)
 case stop=>
  rintro D c pre W _ _ h _
  exact h.elim
def PlsAt (w:World) (v:Value) (qs:List Plc):Prop:=(v= .slice none 0 0/\qs= [])\/∃g cap,v= .slice (some ⟨g,0,none⟩) qs.length cap/\g<w.heap.size/\∀j u,(flat cellsP qs)[j]? =some u->w.cell? ⟨g,j,none⟩=some u
theorem PlsAt.later (h:PlsAt w v qs) (hb:Below w.heap.size w w'):PlsAt w' v qs:=by
 rcases h with h | ⟨g,cap,h1,h2,h3⟩
 ·exact .inl h
 exact .inr ⟨g,cap,h1,jE h2 hb.size,fun j u hj=>(hb.cell (p:=⟨g,j,none⟩) h2).trans (h3 j u hj)⟩
theorem collect_any (w:World) (Bm b nn:Nat) (f:Sta) (G:Good f) (hBm:Bm<w.heap.size) (hm:w.cell? ⟨Bm,0,none⟩=some (.map (some b))) (hM:MapAt prog 3 w b nn f) (hnn:nn<=2000000):
  Calls prog 166 #[.func (.func 167) #[] #[.pointer (some ⟨Bm,0,none⟩)]] w fun e w'=>∃v ps,e= .returned v/\AllP f ps/\ps.length<=nn/\w'.ownsRow w.heap.size 106 3 v ps.length (flat cellsP ps)/\Below w.heap.size w w':=by
 have hc:=appendSeq_any w Bm b nn f G hBm hm hM hnn
 go_enter func166,ntmps166
 go_wp2_with fail
 refine hc.mono ?_
 clear hc
 rintro e w' ⟨v,ps,rfl,H⟩
 have HH:Aside (AllP f ps/\ps.length<=nn/\w'.ownsRow w.heap.size 106 3 v ps.length (flat cellsP ps)/\Below w.heap.size w w'):=H
 clear H
 go_wp2
 go_ret
 exact ⟨v,ps,rfl,HH.o⟩
theorem sorted_new (w:World) (Bm b nn:Nat) (f:Sta) (G:Good f) (hBm:Bm<w.heap.size) (hm:w.cell? ⟨Bm,0,none⟩=some (.map (some b))) (hM:MapAt prog 3 w b nn f) (hnn:nn<=100000):
  Calls prog 100 #[.func (.func 167) #[] #[.pointer (some ⟨Bm,0,none⟩)],.func (.func 102) #[] #[]] w fun e w'=>∃v qs,e= .returned v/\IsPlaces f qs/\qs.length<=nn/\PlsAt w' v qs/\Below w.heap.size w w'/\∀g,v.ownBlock=some g->w.heap.size<=g:=by
 have hc:=collect_any w Bm b nn f G hBm hm hM zi
 go_enter func100,ntmps100
 go_wp2_with fail
 refine hc.mono ?_
 clear hc
 rintro e w1 ⟨v,ps,rfl,hall,hpl,hown,hb⟩
 rcases hown.2 with ⟨rfl,h0⟩ | ⟨g,cap,cur,rfl,hbg,-⟩
 ·have hps:ps= []:=jC.1 h0
  have HH:Aside (IsPlaces f []/\Below w.heap.size w w1):=⟨by subst hps;exact hall.places (List.Perm.refl _) List.Pairwise.nil,hb⟩
  clear hall hown hb hps h0
  go_wp2_with (go_at_call 157;refine (sortPl_none none 0 _ _).mono ?_;rintro e w' ⟨rfl,rfl⟩)
  go_ret
  exact ⟨_,[],rfl,HH.o.1,js _,.inl ⟨rfl,rfl⟩,HH.o.2,fun g e=>yJ⟩
 have hs:=sortPl w1 w.heap.size g cap ps hown zi
 have hgl:=(hown.lt g rfl).2
 have HH:Aside (AllP f ps/\ps.length<=nn/\Below w.heap.size w w1/\w.heap.size<=g/\g<w1.heap.size):=⟨hall,hpl,hb,hbg,hgl⟩
 clear hall hown hb hpl hbg hgl
 go_wp2_with fail
 refine hs.mono ?_
 clear hs
 rintro e w2 ⟨rfl,qs,hp,hpw,hcells,hk⟩
 have H2:Aside (IsPlaces f qs/\qs.length=ps.length/\qs.length<=nn/\(∀j u,(flat cellsP qs)[j]? =some u->w2.cell? ⟨g,j,none⟩=some u)/\Below w.heap.size w w2/\g<w2.heap.size/\w.heap.size<=g):=
  ⟨HH.o.1.places hp (List.Pairwise.imp (fun {a b} h=>zi) hpw),hp.length_eq,by have:=HH.o.2.1;have:=hp.length_eq;omega,hcells,HH.o.2.2.1.trans (hk.below (HH.o.2.2.1.size) (fun k e=>by have:=HH.o.2.2.2.1;omega)),jE HH.o.2.2.2.2 hk.size,HH.o.2.2.2.1⟩
 clear hp hpw hcells hk HH
 go_wp2
 go_ret
 exact ⟨_,qs,rfl,H2.o.1,H2.o.2.2.1,.inr ⟨g,cap,by rw [H2.o.2.1];rfl,H2.o.2.2.2.2.2.1,H2.o.2.2.2.1⟩,H2.o.2.2.2.2.1,fun k e=>by cases e;exact H2.o.2.2.2.2.2.2⟩
theorem places_new (w:World) (bt bm nn:Nat) (v0:Value) (f:Sta) (G:Good f) (hT:TreeCell w bt bm v0) (hM:MapAt prog 3 w bm nn f) (hnn:nn<=100000):
  Calls prog 42 #[.pointer (some ⟨bt,0,none⟩)] w fun e w'=>∃v qs,e= .returned v/\IsPlaces f qs/\qs.length<=nn/\PlsAt w' v qs/\Below w.heap.size w w'/\∀g,v.ownBlock=some g->w.heap.size<=g:=by
 have t0:=hT.c0
 have hv:=callsIn_wide.1 (values_in Fence.wide 3 trivial rfl (some bm) w)
 have hb1:Below w.heap.size w (w.alloc (.cells #[.map (some bm)] 184)):=zg w _
 have hbox:Boxed (w.alloc (.cells #[.map (some bm)] 184)) w.heap.size 184 (.map (some bm)):=heap_alloc_new w _
 have hs:=sorted_new (w.alloc (.cells #[.map (some bm)] 184)) w.heap.size bm nn f G zm hbox.cell (hM.same (hb1.block bm hM.lt)) hnn
 go_enter func42,ntmps42
 go_wp2_with (go_at_call 101;refine hv.mono ?_;clear hv;rintro e w' ⟨rfl,rfl⟩)
 refine hs.mono ?_
 clear hs
 rintro e w2 ⟨v,qs,rfl,h1,h2,h3,h4,h5⟩
 have HH:Aside (IsPlaces f qs/\qs.length<=nn/\PlsAt w2 v qs/\Below w.heap.size w w2/\∀g,v.ownBlock=some g->w.heap.size<=g):=⟨h1,h2,h3,hb1.trans (h4.mono zm),fun g hg=>by have:=h5 g hg;simp at this;omega⟩
 clear h1 h2 h3 h4 h5 hb1 hbox
 go_wp2
 go_ret
 exact ⟨v,qs,rfl,HH.o⟩
theorem places_any (w:World) (bt bm nn:Nat) (v0:Value) (f:Sta) (G:Good f) (hT:TreeCell w bt bm v0) (hM:MapAt prog 3 w bm nn f) (hnn:nn<=100000):
  Calls prog 42 #[.pointer (some ⟨bt,0,none⟩)] w fun e w'=>∃v qs,e= .returned v/\IsPlaces f qs/\qs.length<=nn/\PlsAt w' v qs/\Below w.heap.size w w':=
 (places_new w bt bm nn v0 f G hT hM hnn).mono fun _ _ ⟨v,qs,h1,h2,h3,h4,h5,_⟩=>⟨v,qs,h1,h2,h3,h4,h5⟩
end
section
open Go.RowKit Go.Lib Go.Sort
def PlsIn (w:World) (ao:Option Addr) (qs:List Plc):Prop:=qs= []\/∃g off,ao=some ⟨g,off,none⟩/\∀j u,(flat cellsP qs)[j]? =some u->w.cell? ⟨g,off+j,none⟩=some u
theorem PlsIn.later (h:PlsIn w ao qs) (hb:Below w.heap.size w w'):PlsIn w' ao qs:=by
 rcases h with h | ⟨g,o,h1,h2⟩
 ·exact .inl h
 exact .inr ⟨g,o,h1,fun j u hj=>cellKept hb (h2 j u hj)⟩
theorem PlsAt.isIn (h:PlsAt w v qs):∃ao cap,v= .slice ao qs.length cap/\PlsIn w ao qs:=by
 rcases h with ⟨h,e⟩ | ⟨g,cap,h,_,hc⟩
 ·exact ⟨none,0,by rw [h,e];rfl,.inl e⟩
 exact ⟨some ⟨g,0,none⟩,cap,h,.inr ⟨g,0,rfl,fun j u hj=>yD⟩⟩
theorem PlsIn.get (h:PlsIn w ao qs) {k:Nat} {p:Plc} (hk:qs[k]? =some p):∃g off,ao=some ⟨g,off,none⟩/\w.cell? ⟨g,off+k*3,none⟩=some (.int .i64 p.1)/\w.cell? ⟨g,off+k*3+1,none⟩=some (.int .i64 p.2.1)/\w.cell? ⟨g,off+k*3+2,none⟩=some (.string p.2.2):=by
 rcases h with h | ⟨g,off,h1,h2⟩
 ·rw [h] at hk;simp at hk
 refine ⟨g,off,h1,?_,?_,?_⟩
 ·exact h2 (k*3) _ (by have:=flat_get cellsP_len hk (c:=0) zi;rw [vk] at this;rw [this];rfl)
 ·rw [vG];exact h2 (k*3+1) _ xA
 rw [vG];exact h2 (k*3+2) _ xA
def PredP (g:Nat) (lb:Array Value) (xs:List Plc) (p:Plc->Bool) (base:Nat) (w:World):Prop:=
 ∀(W:World) (x:Plc),x∈xs->Below base w W->Calls prog g (#[encP x]++lb) W fun e w'=>e= .returned (.bool (p x))/\Below W.heap.size W w'
def IdxP (p:Plc->Bool) (zs:List Plc) (r:Int):Prop:=
 (r= -1/\∀x∈zs,p x=false)\/∃k x,r=((k:Nat):Int)/\zs[k]? =some x/\p x=true/\∀j y,j<k->zs[j]? =some y->p y=false
theorem idxPl_any (p:Plc->Bool) (g:Nat) (lb:Array Value) (eg:∀args w,(callFunc g args).run prog w= .ok (.enter g args) w) (ao:Option Addr) (cap base:Nat) (zs:List Plc) (w:World) (hbase:base<=w.heap.size) (hp:PredP g lb zs p base w) (hbig:zs.length<=1000000) (hin:PlsIn w ao zs):
  Calls prog 208 #[.slice ao zs.length cap,.func (.func g) #[] lb] w fun e w'=>∃r:Int,e= .returned (.int .i64 r)/\Aside (IdxP p zs r/\Below w.heap.size w w'):=by
 have HP:Aside (PredP g lb zs p base w/\base<=w.heap.size):=⟨hp,hbase⟩
 have HI:Aside (PlsIn w ao zs):=hin
 clear hp hin hbase
 go_enter func208,ntmps208
 go_wp2
 go_loopg [5,8] zs.length (fun kx _ s8 wr=>∃(k:Nat),s8= .int .i64 (k:Int)/\k<=zs.length/\zs.length - k<=kx/\Aside (Below w.heap.size w wr/\∀j l,j<k->zs[j]? =some l->p l=false))
 case atStart=>exact ⟨0,rfl,js _,jj _,⟨jo _ w,fun j l hj=>zi⟩⟩
 case round=>
  obtain ⟨k,rfl,hk,hkx,A⟩:=hrel
  by_cases hlt:k<zs.length
  ·have hltz:decide ((k:Int)<(zs.length:Int))=true:=by simp;omega
   have ek:((k:Int)).toNat=k:=zi
   have pk:(0:Int)<=(k:Int):=zi
   have bk:(k:Int)<(zs.length:Int):=zi
   obtain ⟨⟨nd,i,s⟩,hl⟩:∃l,Aside (zs[k]? =some l):=⟨zs[k],ji hlt⟩
   obtain ⟨blk,off,hao,r0,r1,r2⟩:=(HI.o.later A.o.1).get hl.o
   subst hao
   dsimp only at r0 r1 r2
   have hcall:=HP.o.1 wr (nd,i,s) (jm hl.o) (A.o.1.mono HP.o.2)
   unfold encP at hcall
   dsimp only at hcall
   cases hq:p (nd,i,s) with
   | true=>
    rw [hq] at hcall
    have HQ:=Lib.hid hq
    clear hq
    go_wp2_with (go_at_fn g;refine hcall.mono ?_;rintro e w' ⟨rfl,hb'⟩)
    go_ret
    exact ⟨_,rfl,.inr ⟨k,_,rfl,hl.o,HQ.o,A.o.2⟩,zh A.o.1 hb'⟩
   | false=>
    rw [hq] at hcall
    have HQ:=Lib.hid hq
    clear hq
    go_wp2_with (go_at_fn g;refine hcall.mono ?_;rintro e w' ⟨rfl,hb'⟩)
    go_roundg (zs.length - (k+1))
    case measure=>omega
    case rel=>
     refine ⟨k+1,zw,zi,jj _,⟨zh A.o.1 hb',fun j l hj e=> ?_⟩⟩
     rcases vh j k with h | h
     ·exact A.o.2 j l h e
     obtain rfl:j=k:=zi
     rw [hl.o] at e
     cases e
     exact HQ.o
  have hltz:decide ((k:Int)<(zs.length:Int))=false:=zk
  go_wp2
  go_ret
  refine ⟨_,rfl,.inl ⟨rfl,fun l hl=> ?_⟩,A.o.1⟩
  obtain ⟨j,hj,rfl⟩:=jU hl
  exact A.o.2 j _ zi (ji hj)
theorem hasPl_any (p:Plc->Bool) (g:Nat) (lb:Array Value) (eg:∀args w,(callFunc g args).run prog w= .ok (.enter g args) w) (ao:Option Addr) (cap base:Nat) (zs:List Plc) (w:World) (hbase:base<=w.heap.size) (hp:PredP g lb zs p base w) (hbig:zs.length<=1000000) (hin:PlsIn w ao zs):
  Calls prog 164 #[.slice ao zs.length cap,.func (.func g) #[] lb] w fun e w'=>e= .returned (.bool (zs.any p))/\Below w.heap.size w w':=by
 have hcall:=idxPl_any p g lb eg ao cap base zs w hbase hp hbig hin
 clear hp hin eg
 go_enter func164,ntmps164
 go_wp2_with fail
 refine hcall.mono ?_
 clear hcall
 rintro e w' ⟨r,rfl,H⟩
 rcases H.o.1 with ⟨hr,ha⟩ | ⟨k,x,hr,hx,hpx,_⟩
 ·have HA:Aside (zs.any p=false):=by
   show zs.any p=false
   rw [List.any_eq_false]
   intro x hx
   rw [ha x hx]
   decide
  clear ha
  subst hr
  go_wp2
  go_ret
  exact ⟨by rw [HA.o];rfl,H.o.2⟩
 have HA:Aside (zs.any p=true):=un.2 ⟨x,jm hx,hpx⟩
 have dr:decide (0<=r)=true:=zk
 clear hx hpx hr
 go_wp2
 go_ret
 exact ⟨by rw [HA.o];rfl,H.o.2⟩
end
section
theorem some_of {W:World} (l:List (String×Nat×List UInt8)) (hn:∀x∈l,prog.globalNamed x.1=some x.2.1/\(prog.globals[x.2.1]?).map (·.type)=some 27)
  (h1:laidMet prog (l.map fun x=>(x.1,.iface "*errors.errorString" (.ptr (.agg [.lit (.string x.2.2)])))) W):
  ∃az:List Addr,∀(i:Nat) x,l[i]? =some x->W.cell? ⟨x.2.1,0,none⟩=some (.iface 399 (.pointer (some (az.getD i ⟨0,0,none⟩)))):=by
 obtain ⟨ps,hv,hnd,hr⟩:=h1
 obtain ⟨az,hl,hcell,-,-⟩:=laid_list underlying27 Tryz.yRow underlying399 underlying417 rfl rfl underlying9 Tryz.yCellsS Tryz.yCellsString l ps hn hv hnd hr
 refine ⟨az,fun i x hx=>hcell i x _ hx ?_⟩
 have hi:i<az.length:=by rw [hl];exact (jh.1 hx).1
 rw [vq,ji hi];rfl
