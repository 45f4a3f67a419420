import Derived.Test.YtebpcnkdhgnghaaGreatDoorPA06
import Derived.Test.YtebpcnkdhgnghaaGreatDoorPA09
set_option linter.unusedSimpArgs false
set_option linter.unusedVariables false
set_option maxRecDepth 100000
set_option maxHeartbeats 64000000
namespace Go.Proofs.YtebpcnkdhgnghaaGreatDoor
open Go.Proofs.Tryz
variable {id nd:Int} {S:List OpX} {b i:Nat} {ad:Nat→Addr} {x:OpX} {R:Rws} {W w:World}
section
open Go.RowKit Go.Lib Go.Sort
theorem wu (x:OpX) (tm:Int) (w:World):Calls prog 306 #[ar x,.int .i64 tm] w fun e w'=>e= .returned (.int .i64 (oZ x.1 tm))/\Below w.heap.size w w':=by
 obtain ⟨t,b,n,k,nd,o,s,v⟩:=x
 unfold ar
 dsimp only
 go_enter func306,ntmps306
 go_wp2_with (go_at_call 99;refine (oY _ _ _).mono ?_;rintro e w' ⟨rfl,rfl⟩)
 go_ret
 exact ⟨rfl,zh w _⟩
def Oc (xs:List OpX) (tm:Int) (i:Nat) (b:Bool):Prop:=i<=xs.length/\(∀j x,j<i->xs[j]? =some x->x.1<tm)/\(∀j x,i<=j->xs[j]? =some x->tm<=x.1)/\(b=true↔∃x,xs[i]? =some x/\x.1=tm)
def Ef (xs:List OpX):Prop:=∀(i j:Nat) (x y:OpX),i<=j->xs[i]? =some x->xs[j]? =some y->x.1<=y.1
theorem wR (ao:Option Addr) (cap:Nat) (xs:List OpX) (tm:Int) (w:World) (hin:OpsIn w ao xs) (hr:Ef xs) (hn:xs.length<=1000):
  Calls prog 305 #[.slice ao xs.length cap,.int .i64 tm,.func (.func 306) #[] #[]] w fun e w'=>∃(i:Nat) (b:Bool),e= .returned (.tuple #[.int .i64 (i:Int),.bool b])/\Oc xs tm i b/\Below w.heap.size w w':=by
 have HI:Aside (OpsIn w ao xs/\Ef xs):=⟨hin,hr⟩
 clear hin hr
 go_enter func305,ntmps305
 go_wp2
 go_loopg [9,10,11] (xs.length+1) (fun kx s9 s10 s11 wr=>∃(i j:Nat),s9= .int .i64 (i:Int)/\s10= .int .i64 (j:Int)/\i<=j/\j<=xs.length/\j - i<kx/\Aside (Below w.heap.size w wr/\(∀k x,k<i->xs[k]? =some x->x.1<tm)/\(∀k x,j<=k->xs[k]? =some x->tm<=x.1)))
 case atStart=>exact ⟨0,xs.length,rfl,rfl,jX _,jL _,zj,jN _ w,fun k x hk=>zj,fun k x hk h=>by have:=(jI.1 h).1;omega⟩
 case round=>
  obtain ⟨i,j,rfl,rfl,hij,hj,hkx,A⟩:=hrel
  by_cases hlt:i<j
  ·have d1:decide ((i:Int)<(j:Int))=true:=by simp;omega
   obtain ⟨h,hh⟩:∃h:Nat,h=(i+j) / 2:=⟨_,rfl⟩
   have eh:((i:Int)+(j:Int)) / 2=(h:Int):=zj
   have hl:h<xs.length:=zj
   have wh:((h:Int)).toNat=h:=zj
   have ph:(0:Int)<=(h:Int):=zj
   have bh:(h:Int)<(xs.length:Int):=zj
   have hih:i<=h/\h<j:=zj
   clear hh
   obtain ⟨⟨t,b,n,k,nd,o,s,v⟩,hx⟩:∃x,Aside (xs[h]? =some x):=⟨xs[h],jK hl⟩
   obtain ⟨blk,off,hao,hc⟩:=(HI.o.1.later A.o.1).get hx.o
   subst hao
   have r0:=hc 0 _ rfl
   have r1:=hc 1 _ rfl
   have r2:=hc 2 _ rfl
   have r3:=hc 3 _ rfl
   have r4:=hc 4 _ rfl
   have r5:=hc 5 _ rfl
   have r6:=hc 6 _ rfl
   have r7:=hc 7 _ rfl
   simp only [vI] at r0
   clear hc
   have hcall:=wu (t,b,n,k,nd,o,s,v) tm wr
   unfold ar at hcall
   dsimp only at hcall
   by_cases hc:t<tm
   ·have ec:oZ t tm= -1:=by unfold oZ;rw [if_pos hc]
    rw [ec] at hcall
    have HC:Aside (t<tm):=hc
    clear hc ec
    go_wp2_with (go_at_call 306;refine hcall.mono ?_;clear hcall;rintro e w' ⟨rfl,hb'⟩;have A':Aside (Below w.heap.size w w'):=(zi A.o.1 hb');clear hb' r0 r1 r2 r3 r4 r5 r6 r7)
    go_roundg (j - h)
    case measure=>omega
    case rel=>
     refine ⟨h+1,j,zI,rfl,zj,hj,zj,A'.o,fun k' x hk hx'=> ?_,A.o.2.2⟩
     have:=HI.o.2 k' h x _ zj hx' hx.o
     have:=HC.o
     dsimp only at*
     omega
   have hz:0<=oZ t tm:=by unfold oZ;rw [if_neg hc];split<;>omega
   obtain ⟨z,ez⟩:∃z,oZ t tm=z:=⟨_,rfl⟩
   rw [ez] at hcall hz
   have dz:decide (z<0)=false:=zl
   have HC:Aside (¬t<tm):=hc
   clear hc ez
   go_wp2_with (go_at_call 306;refine hcall.mono ?_;clear hcall;rintro e w' ⟨rfl,hb'⟩;have A':Aside (Below w.heap.size w w'):=(zi A.o.1 hb');clear hb' r0 r1 r2 r3 r4 r5 r6 r7)
   go_roundg (h - i+1)
   case measure=>omega
   case rel=>
    refine ⟨i,h,rfl,rfl,zj,zj,zj,A'.o,A.o.2.1,fun k' x hk hx'=> ?_⟩
    have:=HI.o.2 h k' _ x zj hx.o hx'
    have:=HC.o
    dsimp only at*
    omega
  have d1:decide ((i:Int)<(j:Int))=false:=zl
  obtain rfl:i=j:=zj
  by_cases hil:i<xs.length
  ·have d2:decide ((i:Int)<(xs.length:Int))=true:=by simp;omega
   have wh:((i:Int)).toNat=i:=zj
   have ph:(0:Int)<=(i:Int):=zj
   have bh:(i:Int)<(xs.length:Int):=zj
   obtain ⟨⟨t,b,n,k,nd,o,s,v⟩,hx⟩:∃x,Aside (xs[i]? =some x):=⟨xs[i],jK hil⟩
   obtain ⟨blk,off,hao,hc⟩:=(HI.o.1.later A.o.1).get hx.o
   subst hao
   have r0:=hc 0 _ rfl
   have r1:=hc 1 _ rfl
   have r2:=hc 2 _ rfl
   have r3:=hc 3 _ rfl
   have r4:=hc 4 _ rfl
   have r5:=hc 5 _ rfl
   have r6:=hc 6 _ rfl
   have r7:=hc 7 _ rfl
   simp only [vI] at r0
   clear hc
   have hcall:=wu (t,b,n,k,nd,o,s,v) tm wr
   unfold ar at hcall
   dsimp only at hcall
   have hz:Aside ((oZ t tm==0)=decide (t=tm)):=by
    show (oZ t tm==0)=decide (t=tm)
    unfold oZ
    by_cases h1:t<tm
    ·rw [if_pos h1];have:t≠tm:=by omega
     simp [this]
    rw [if_neg h1]
    by_cases h2:tm<t
    ·rw [if_pos h2];have:t≠tm:=by omega
     simp [this]
    rw [if_neg h2];have:t=tm:=zj
    simp [this]
   obtain ⟨z,ez⟩:=za (oZ t tm)
   rw [<-ez] at hcall hz
   clear ez
   go_wp2_with (go_at_call 306;refine hcall.mono ?_;clear hcall;rintro e w' ⟨rfl,hb'⟩;have A':Aside (Below w.heap.size w w'):=(zi A.o.1 hb');clear hb' r0 r1 r2 r3 r4 r5 r6 r7)
   go_ret2
   refine ⟨i,_,rfl,⟨hj,A.o.2.1,A.o.2.2,?_⟩,A'.o⟩
   rw [hz.o,decide_eq_true_iff]
   constructor
   ·intro e;exact ⟨_,hx.o,e⟩
   rintro ⟨x,hx',e⟩
   rw [hx.o] at hx'
   cases hx'
   exact e
  have d2:decide ((i:Int)<(xs.length:Int))=false:=zl
  go_wp2
  go_ret2
  refine ⟨i,false,rfl,⟨hj,A.o.2.1,A.o.2.2,?_⟩,A.o.1⟩
  constructor
  ·intro e;cases e
  rintro ⟨x,hx',e⟩
  have:=(jI.1 hx').1
  omega
end
section
open Go.RowKit Go.Lib Go.Sort
def fY (R:Rws) (id:Int):Option OpX:=(aX R).find? (fun x=>decide (idO x=id))
theorem nz (h:fY R id=some x):x∈aX R/\idO x=id:=by
 unfold fY at h
 exact ko4
theorem findK_none :fY R id=none↔∀x∈aX R,idO x≠id:=by
 unfold fY
 rw [List.find?_eq_none]
 simp
theorem AF (h:RowsN R) (hx:x∈aX R):fY R (idO x)=some x:=by
 cases hf:fY R (idO x) with
 | none=>exact absurd rfl (findK_none.1 hf x hx)
 | some y=>
  obtain ⟨a,b⟩:=nz hf
  rw [h.stamp a hx (Js (h.num.ok y a) (h.num.ok x hx) b)]
theorem lX (h:bY x=0):4<=idO x/\idO x<4294967300:=by
 have h1:=gj h
 unfold idO
 have e1:x.2.1=byO x:=rfl
 rw [e1]
 omega
theorem Ee (h:RowsN R) (ho:id<4\/4294967300<=id):fY R id=none:=
 findK_none.2 (fun x hx e=>by have:=lX (h.num.ok x hx);omega)
theorem RowsN.risesT (h:RowsN R) (hi:i<4):∀(a b:Nat) (x y:OpX),a<b->(R i)[a]? =some x->(R i)[b]? =some y->x.1<y.1:=by
 intro a b x y hab hx hy
 obtain ⟨a1,a2,_⟩:=h.num i hi a x hx
 obtain ⟨b1,b2,_⟩:=h.num i hi b y hy
 have hp:=vO.1 (h.rise hi) a b (jI.1 hx).1 (jI.1 hy).1 hab
 rw [(jI.1 hx).2,(jI.1 hy).2] at hp
 unfold CLt stO at hp
 dsimp only at hp
 have e1:x.2.1=byO x:=rfl
 have e2:y.2.1=byO y:=rfl
 omega
theorem RowsN.risesLe (h:RowsN R) (hi:i<4):Ef (R i):=fun a b x y hab hx hy=>by
 rcases ue a b with q | q
 ·have:=h.risesT hi a b x y q hx hy;omega
 obtain rfl:a=b:=zj
 rw [hx] at hy;cases hy;exact Int.le_refl _
theorem Gd {R:Rws} (h:RowsN R) {id:Int} {i k:Nat} {b:Bool} (hi:i<4) (e:id % 4=(i:Int)) (hb:Oc (R i) (id / 4) k b):(b=false->fY R id=none)/\(b=true->∃x,(R i)[k]? =some x/\fY R id=some x):=by
 obtain ⟨h1,h2,h3,h4⟩:=hb
 refine ⟨fun hf=>findK_none.2 (fun x hx ex=> ?_),fun ht=> ?_⟩
 ·obtain ⟨m,hm,hxm⟩:=mem_allR.1 hx
  obtain ⟨j,a1,a2,a3,_⟩:=h.num.get hm hxm
  have e1:x.2.1=byO x:=rfl
  unfold idO at ex
  obtain rfl:m=i:=zj
  have ht:x.1=id / 4:=zj
  have hkj:j=k:=by
   rcases Nat.lt_trichotomy j k with q | q | q
   ·have:=h2 j x q a1;omega
   ·exact q
   have hk:k<(R m).length:=by have:=(jI.1 a1).1;omega
   have ek:=jK hk
   have:=h3 k _ zg ek
   have:=h.risesT hm k j _ x q ek a1
   omega
  subst hkj
  rw [hf] at h4
  exact absurd (h4.2 ⟨x,a1,ht⟩) zo
 obtain ⟨x,hx,et⟩:=h4.1 ht
 refine ⟨x,hx,?_⟩
 obtain ⟨b1,b2,_⟩:=h.num i hi k x hx
 have e1:x.2.1=byO x:=rfl
 have:idO x=id:=by unfold idO;omega
 rw [<-this]
 exact AF h (mem_allR.2 ⟨i,hi,jT hx⟩)
def OpBlk (W:World) (b:Nat) (x:OpX):Prop:=W.heap[b]? =some (.cells #[.int .i64 x.1,.int .i64 x.2.1,.int .i64 x.2.2.1,.int .u8 (x.2.2.2.1:Int),.int .i64 x.2.2.2.2.1,.int .i64 x.2.2.2.2.2.1,.string x.2.2.2.2.2.2.1,.string x.2.2.2.2.2.2.2] 61 (0,0))
theorem OpBlk.lt (h:OpBlk W b x):b<W.heap.size:=(jJ.1 h).1
theorem OpBlk.later {W':World} (h:OpBlk W b x) (hb:Below W.heap.size W W'):OpBlk W' b x:=(hb.block b h.lt).trans h
theorem OpBlk.new (W:World) (x:OpX):OpBlk (W.alloc (.cells #[.int .i64 x.1,.int .i64 x.2.1,.int .i64 x.2.2.1,.int .u8 (x.2.2.2.1:Int),.int .i64 x.2.2.2.2.1,.int .i64 x.2.2.2.2.2.1,.string x.2.2.2.2.2.2.1,.string x.2.2.2.2.2.2.2] 61)) W.heap.size x:=heap_alloc_new W _
theorem OpBlk.cells (h:OpBlk W b x):W.cell? ⟨b,0,none⟩=some (.int .i64 x.1)/\W.cell? ⟨b,1,none⟩=some (.int .i64 x.2.1)/\W.cell? ⟨b,2,none⟩=some (.int .i64 x.2.2.1)/\W.cell? ⟨b,3,none⟩=some (.int .u8 (x.2.2.2.1:Int))/\W.cell? ⟨b,4,none⟩=some (.int .i64 x.2.2.2.2.1)/\W.cell? ⟨b,5,none⟩=some (.int .i64 x.2.2.2.2.2.1)/\W.cell? ⟨b,6,none⟩=some (.string x.2.2.2.2.2.2.1)/\W.cell? ⟨b,7,none⟩=some (.string x.2.2.2.2.2.2.2)/\∀c,W.frozen? ⟨b,c,none⟩=false:=by
 unfold OpBlk at h
 exact km3
theorem aL (h:Below w.heap.size w W) (hb:w.heap.size<=b) (o:Nat) (vs:List Value):Below w.heap.size w (W.setCells b o vs):=h.trans ((aY b vs o W).below h.size (fun k e=>zj))
theorem Di (w:World) (ao:Nat->Option Addr) (cap:Nat->Nat) (R:Rws) (id:Int) (hE:Op4 ad w) (ho:id<4\/4294967300<=id) (h2: -9223372036854775808<=id) (h3:id<=9223372036854775807):
  Calls prog 255 #[kV ao cap R,.int .i64 id] w fun e w'=>e= .returned (.tuple #[ar aT,.bool false])/\Below w.heap.size w w':=by
 unfold kV
 obtain ⟨U,hU⟩:=za ((w.alloc (.cells #[.slice (ao 0) (R 0).length (cap 0),.slice (ao 1) (R 1).length (cap 1),.slice (ao 2) (R 2).length (cap 2),.slice (ao 3) (R 3).length (cap 3)] 112)).alloc (.cells #[.int .i64 0,.int .i64 0,.int .i64 0,.int .u8 0,.int .i64 0,.int .i64 0,.string ⟨#[]⟩,.string ⟨#[]⟩] 61))
 have hb:Below w.heap.size w U:=zH
 have hz:U.heap[w.heap.size+1]? =some (.cells #[.int .i64 0,.int .i64 0,.int .i64 0,.int .u8 0,.int .i64 0,.int .i64 0,.string ⟨#[]⟩,.string ⟨#[]⟩] 61 (0,0)):=by
  rw [hU]
  have:=heap_alloc_new (w.alloc (.cells #[.slice (ao 0) (R 0).length (cap 0),.slice (ao 1) (R 1).length (cap 1),.slice (ao 2) (R 2).length (cap 2),.slice (ao 3) (R 3).length (cap 3)] 112)) (.cells #[.int .i64 0,.int .i64 0,.int .i64 0,.int .u8 0,.int .i64 0,.int .i64 0,.string ⟨#[]⟩,.string ⟨#[]⟩] 61)
  exact kc8
 have hE1:=(hE.later hb).c1
 have hcall:=Np id U _ _ hE1 (jR U ⟨0,0,none⟩ hE1) ho h2 h3
 have HB:Aside (Below w.heap.size w U):=hb
 clear hb hE hE1
 go_enter func255,ntmps255
 go_wp2_with fail
 rw [<-hU]
 clear hU
 refine hcall.mono ?_
 clear hcall
 rintro e w1 ⟨rfl,hb1⟩
 obtain ⟨S,hS⟩:=za w.heap.size
 have hz1:w1.heap[S+1]? =some (.cells #[.int .i64 0,.int .i64 0,.int .i64 0,.int .u8 0,.int .i64 0,.int .i64 0,.string ⟨#[]⟩,.string ⟨#[]⟩] 61 (0,0)):=by
  rw [hS,hb1.block _ (jJ.1 hz).1];exact hz
 have hl1:S+1<w1.heap.size:=(jJ.1 hz1).1
 have B1:Aside (Below w.heap.size w w1):=zi HB.o hb1
 rw [<-hS]
 clear hb1 hz HB
 obtain ⟨y0,y1,y2,y3,y4,y5,y6,y7,f8⟩:=OpBlk.cells (x:=aT) hz1
 unfold aT at y0 y1 y2 y3 y4 y5 y6 y7
 dsimp only at y0 y1 y2 y3 y4 y5 y6 y7
 have HS:Aside (S=w.heap.size):=hS
 clear hS hz1
 go_wp2
 (try simp only [Exit.inBlock,Exit.then])
 refine bodyPost_ret (v:=.tuple #[ar aT,.bool false]) ?_ rfl ⟨rfl,?_⟩
 ·exact ke8
 exact (aL (b:=S+1) B1.o qK 0 [.int .i64 0,.int .i64 0,.int .i64 0,.int .u8 0,.int .i64 0,.int .i64 0,.string ⟨#[]⟩,.string ⟨#[]⟩]).alloc (aL (b:=S+1) B1.o qK 0 _).size _
theorem IP (w:World) (ao:Nat->Option Addr) (cap:Nat->Nat) (R:Rws) (id:Int) (hK:KnownAt w ao R) (hR:RowsN R) (hl:∀i,i<4->(R i).length<=1000) (h1:4<=id) (h2:id<4294967300):
  Calls prog 255 #[kV ao cap R,.int .i64 id] w fun e w'=>e= .returned (.tuple #[ar ((fY R id).getD aT),.bool (fY R id).isSome])/\Below w.heap.size w w':=by
 obtain ⟨i,hi,ei⟩:∃i:Nat,i<4/\id % 4=(i:Int):=⟨(id % 4).toNat,zj,zj⟩
 have wi:((i:Int)).toNat=i:=zj
 have pi:(0:Int)<=(i:Int):=zj
 have bi:(i:Int)<4:=zj
 unfold kV
 obtain ⟨S,hS⟩:=za w.heap.size
 obtain ⟨U,hU⟩:=za ((w.alloc (.cells #[.slice (ao 0) (R 0).length (cap 0),.slice (ao 1) (R 1).length (cap 1),.slice (ao 2) (R 2).length (cap 2),.slice (ao 3) (R 3).length (cap 3)] 112)).alloc (.cells #[.int .i64 0,.int .i64 0,.int .i64 0,.int .u8 0,.int .i64 0,.int .i64 0,.string ⟨#[]⟩,.string ⟨#[]⟩] 61))
 have hb:Below w.heap.size w U:=zH
 have hz:OpBlk U (S+1) aT:=by
  rw [hU,hS]
  have:=heap_alloc_new (w.alloc (.cells #[.slice (ao 0) (R 0).length (cap 0),.slice (ao 1) (R 1).length (cap 1),.slice (ao 2) (R 2).length (cap 2),.slice (ao 3) (R 3).length (cap 3)] 112)) (.cells #[.int .i64 0,.int .i64 0,.int .i64 0,.int .u8 0,.int .i64 0,.int .i64 0,.string ⟨#[]⟩,.string ⟨#[]⟩] 61)
  exact kc8
 have hk:KBox U S ao cap R:=zQ
 have hcall:=Ev id U h1 h2
 rw [ei] at hcall
 obtain ⟨tm,etm⟩:=za (id / 4)
 rw [<-etm] at hcall
 have HB:Aside (Below w.heap.size w U/\KBox U S ao cap R/\OpBlk U (S+1) aT):=⟨hb,hk,hz⟩
 have HS:Aside (S=w.heap.size/\tm=id / 4/\id % 4=(i:Int)):=⟨hS,etm,ei⟩
 clear hb hz hk etm ei
 go_enter func255,ntmps255
 go_wp2_with fail
 rw [<-hU,<-hS]
 clear hU hS
 refine hcall.mono ?_
 clear hcall
 rintro e w1 ⟨rfl,hb1⟩
 obtain ⟨V,hV⟩:=za (w1.alloc (.cells #[.int .i64 tm,.int .i64 (i:Int)] 59))
 have bV:Below w1.heap.size w1 V:=by rw [hV];exact zh w1 _
 have HV:Aside (Below w.heap.size w V/\KBox V S ao cap R/\OpBlk V (S+1) aT):=⟨HB.o.1.trans ((hb1.mono HB.o.1.size).trans (bV.mono (jM HB.o.1.size hb1.size))),(HB.o.2.1.later hb1).later bV,(HB.o.2.2.later hb1).later bV⟩
 have hs1:V.heap[w1.heap.size]? =some (.cells #[.int .i64 tm,.int .i64 (i:Int)] 59 (0,0)):=by rw [hV];exact heap_alloc_new w1 _
 have s0:V.cell? ⟨w1.heap.size,0,none⟩=some (.int .i64 tm):=by simp [World.cell?,hs1]
 have s1:V.cell? ⟨w1.heap.size,1,none⟩=some (.int .i64 (i:Int)):=by simp [World.cell?,hs1]
 have k1:=HV.o.2.1.at hi
 have hbs:=wR (ao i) (cap i) (R i) tm V ((hK.later HV.o.1) i hi) (hR.risesLe hi) (hl i hi)
 clear hb1 HB bV hs1
 go_upto_region 4 with fail
 rw [<-hV]
 clear hV
 go_wp2_with fail
 refine hbs.mono ?_
 clear hbs
 rintro e w2 ⟨k,b,rfl,hbk,hb2⟩
 have hfk:=Gd hR hi HS.o.2.2 (by rw [<-HS.o.2.1];exact hbk)
 have H2:Aside (Below w.heap.size w w2/\OpBlk w2 (S+1) aT):=⟨zi HV.o.1 hb2,HV.o.2.2.later hb2⟩
 have hl2:=H2.o.2.lt
 have KN:Aside (KnownAt w2 ao R):=hK.later H2.o.1
 obtain ⟨y0,y1,y2,y3,y4,y5,y6,y7,f8⟩:=H2.o.2.cells
 unfold aT at y0 y1 y2 y3 y4 y5 y6 y7
 dsimp only at y0 y1 y2 y3 y4 y5 y6 y7
 clear hb2 HV s0 s1 k1
 cases b with
 | false=>
  have HF:Aside (fY R id=none):=hfk.1 rfl
  clear hfk hbk
  go_wp2
  (try simp only [Exit.inBlock,Exit.then])
  refine bodyPost_ret (v:=.tuple #[ar aT,.bool false]) ?_ rfl ⟨by rw [HF.o];rfl,?_⟩
  ·exact ke8
  exact aL (b:=S+1) H2.o.1 qK 0 [.int .i64 0,.int .i64 0,.int .i64 0,.int .u8 0,.int .i64 0,.int .i64 0,.string ⟨#[]⟩,.string ⟨#[]⟩]
 | true=>
  obtain ⟨⟨t,b,n,kd,nd,o,s,v⟩,hx,hf⟩:=hfk.2 rfl
  have HF:Aside (fY R id=some (t,b,n,kd,nd,o,s,v)):=hf
  obtain ⟨blk,off,hao,hc⟩:=(KN.o i hi).get hx
  have hkl:=(jI.1 hx).1
  have hll:=hl i hi
  have r0:=hc 0 _ rfl
  have r1:=hc 1 _ rfl
  have r2:=hc 2 _ rfl
  have r3:=hc 3 _ rfl
  have r4:=hc 4 _ rfl
  have r5:=hc 5 _ rfl
  have r6:=hc 6 _ rfl
  have r7:=hc 7 _ rfl
  simp only [vI] at r0
  have wk:((k:Int)).toNat=k:=zj
  have pk:(0:Int)<=(k:Int):=zj
  have bk:(k:Int)<((R i).length:Int):=zj
  rw [hao]
  clear hfk hbk hf hx hc hao
  go_wp2
  (try simp only [Exit.inBlock,Exit.then])
  refine bodyPost_ret (v:=.tuple #[.agg #[.int .i64 t,.int .i64 b,.int .i64 n,.int .u8 (kd:Int),.int .i64 nd,.int .i64 o,.string s,.string v],.bool true]) ?_ rfl ⟨by rw [HF.o];rfl,?_⟩
  ·exact kc4
  exact aL (b:=S+1) H2.o.1 qK 0 [.int .i64 t,.int .i64 b,.int .i64 n,.int .u8 (kd:Int),.int .i64 nd,.int .i64 o,.string s,.string v]
theorem pH (w:World) (ao:Nat->Option Addr) (cap:Nat->Nat) (R:Rws) (id:Int) (hE:Op4 ad w) (hK:KnownAt w ao R) (hR:RowsN R) (hl:∀i,i<4->(R i).length<=1000) (h2: -9223372036854775808<=id) (h3:id<=9223372036854775807):
  Calls prog 255 #[kV ao cap R,.int .i64 id] w fun e w'=>e= .returned (.tuple #[ar ((fY R id).getD aT),.bool (fY R id).isSome])/\Below w.heap.size w w':=by
 by_cases h:id<4\/4294967300<=id
 ·rw [Ee hR h]
  exact Di w ao cap R id hE h h2 h3
 exact IP w ao cap R id hK hR hl zj zj
end
section
open Go.RowKit Go.Lib Go.Sort
theorem BF (h:RowsN R) :KnownN (aX R) id↔∃x,fY R id=some x/\kdO x=109/\aG x=id:=by
 constructor
 ·exact km7
 exact kn0
theorem sQ (h:RowsN R) :LetterN (aX R) nd id↔∃x,fY R id=some x/\kdO x=105/\aG x=nd:=by
 constructor
 ·exact km7
 exact kn0
theorem eP (w:World) (ao:Nat->Option Addr) (cap:Nat->Nat) (R:Rws) (id:Int) (z:Bool) (hz:z=true↔KnownN (aX R) id) (hE:Op4 ad w) (hK:KnownAt w ao R) (hR:RowsN R) (hl:∀i,i<4->(R i).length<=1000) (h2: -9223372036854775808<=id) (h3:id<=9223372036854775807):
  Calls prog 194 #[kV ao cap R,.int .i64 id] w fun e w'=>e= .returned (.bool z)/\Below w.heap.size w w':=by
 obtain ⟨U,hU⟩:=za (w.alloc (.cells #[.slice (ao 0) (R 0).length (cap 0),.slice (ao 1) (R 1).length (cap 1),.slice (ao 2) (R 2).length (cap 2),.slice (ao 3) (R 3).length (cap 3)] 112))
 have hb:Below w.heap.size w U:=zN
 have hcall:=pH U ao cap R id (hE.later hb) (hK.later hb) hR hl h2 h3
 rw [BF hR] at hz
 unfold kV at hcall |-
 have HB:Aside (Below w.heap.size w U):=hb
 clear hb
 cases hf:fY R id with
 | none=>
  have hzf:z=false:=by
   cases z with
   | false=>rfl
   | true=>obtain ⟨x,e,_⟩:=hz.1 rfl;rw [hf] at e;cases e
  subst hzf
  rw [hf] at hcall
  unfold ar aT at hcall
  clear hf hz
  go_enter func194,ntmps194
  exact ke6
 | some x=>
  obtain ⟨t,b,n,k,nd,o,s,v⟩:=x
  have HZ:Aside (z=(decide (k=109) &&decide (nd=id))):=by
   show z=(decide (k=109) &&decide (nd=id))
   rw [Bool.eq_iff_iff,hz,uk,decide_eq_true_iff,decide_eq_true_iff]
   constructor
   ·exact km8
   rintro ⟨k1,k2⟩
   exact ⟨_,hf,k1,k2⟩
  rw [hf] at hcall
  unfold ar at hcall
  dsimp only [Option.getD_some] at hcall
  clear hf hz
  by_cases hk:k=109
  ·subst hk
   go_enter func194,ntmps194
   exact kd8
  have dk:((k:Int)==109)=false:=zl
  go_enter func194,ntmps194
  exact ke2
theorem kE (w:World) (ao:Nat->Option Addr) (cap:Nat->Nat) (R:Rws) (node id:Int) (z:Bool) (hz:z=true↔LetterN (aX R) node id) (hE:Op4 ad w) (hK:KnownAt w ao R) (hR:RowsN R) (hl:∀i,i<4->(R i).length<=1000) (h2: -9223372036854775808<=id) (h3:id<=9223372036854775807):
  Calls prog 196 #[kV ao cap R,.int .i64 node,.int .i64 id] w fun e w'=>e= .returned (.bool z)/\Below w.heap.size w w':=by
 obtain ⟨U,hU⟩:=za (w.alloc (.cells #[.slice (ao 0) (R 0).length (cap 0),.slice (ao 1) (R 1).length (cap 1),.slice (ao 2) (R 2).length (cap 2),.slice (ao 3) (R 3).length (cap 3)] 112))
 have hb:Below w.heap.size w U:=zN
 have hcall:=pH U ao cap R id (hE.later hb) (hK.later hb) hR hl h2 h3
 rw [sQ hR] at hz
 unfold kV at hcall |-
 have HB:Aside (Below w.heap.size w U):=hb
 clear hb
 cases hf:fY R id with
 | none=>
  have hzf:z=false:=by
   cases z with
   | false=>rfl
   | true=>obtain ⟨x,e,_⟩:=hz.1 rfl;rw [hf] at e;cases e
  subst hzf
  rw [hf] at hcall
  unfold ar aT at hcall
  clear hf hz
  go_enter func196,ntmps196
  exact ke6
 | some x=>
  obtain ⟨t,b,n,k,nd,o,s,v⟩:=x
  have HZ:Aside (z=(decide (k=105) &&decide (nd=node))):=by
   show z=(decide (k=105) &&decide (nd=node))
   rw [Bool.eq_iff_iff,hz,uk,decide_eq_true_iff,decide_eq_true_iff]
   constructor
   ·exact km8
   rintro ⟨k1,k2⟩
   exact ⟨_,hf,k1,k2⟩
  rw [hf] at hcall
  unfold ar at hcall
  dsimp only [Option.getD_some] at hcall
  clear hf hz
  by_cases hk:k=105
  ·subst hk
   go_enter func196,ntmps196
   exact kd8
  have dk:((k:Int)==105)=false:=zl
  go_enter func196,ntmps196
  exact ke2
theorem gF (w:World) (ao:Nat->Option Addr) (cap:Nat->Nat) (R:Rws) (id:Int) (z:Bool) (hz:z=true↔id=0\/id=1\/KnownN (aX R) id) (hE:Op4 ad w) (hK:KnownAt w ao R) (hR:RowsN R) (hl:∀i,i<4->(R i).length<=1000) (h2: -9223372036854775808<=id) (h3:id<=9223372036854775807):
  Calls prog 195 #[kV ao cap R,.int .i64 id] w fun e w'=>e= .returned (.bool z)/\Below w.heap.size w w':=by
 obtain ⟨U,hU⟩:=za (w.alloc (.cells #[.slice (ao 0) (R 0).length (cap 0),.slice (ao 1) (R 1).length (cap 1),.slice (ao 2) (R 2).length (cap 2),.slice (ao 3) (R 3).length (cap 3)] 112))
 have hb:Below w.heap.size w U:=zN
 have HB:Aside (Below w.heap.size w U):=hb
 by_cases h0:id=0
 ·obtain rfl:z=true:=hz.2 (.inl h0)
  subst h0
  exact ki4
 by_cases h1:id=1
 ·obtain rfl:z=true:=hz.2 (.inr (.inl h1))
  subst h1
  exact ki4
 have hz':z=true↔KnownN (aX R) id:=hz.trans ⟨fun q=>(q.resolve_left h0).resolve_left h1,fun q=>.inr (.inr q)⟩
 have hcall:=eP U ao cap R id z hz' (hE.later hb) (hK.later hb) hR hl h2 h3
 have d0:(id==0)=false:=xC
 have d1:(id==1)=false:=by simp [h1]
 unfold kV at hcall |-
 clear hb hz hz'
 go_enter func195,ntmps195
 go_wp2_with fail
 rw [<-hU]
 clear hU
 refine hcall.mono ?_
 clear hcall
 rintro e w1 ⟨rfl,hb1⟩
 have B1:Aside (Below w.heap.size w w1):=zi HB.o hb1
 clear hb1 HB
 go_wp2
 go_ret
 exact ⟨rfl,B1.o⟩
theorem DB (hx:x∈S) (ho:0<=aF x):RefOk S x↔KnownN S (aG x)/\(kdO x=109->aF x=0\/aF x=1\/KnownN S (aF x))/\(kdO x=105->aF x=0\/LetterN S (aG x) (aF x))/\(kdO x=100->LetterN S (aG x) (aF x)):=by
 constructor
 ·rintro ⟨h1,h2,h3⟩
  refine ⟨?_,h2,fun k=> ?_,fun k=>h3 (.inr k)⟩
  ·rcases h1 with ⟨k,e⟩ | k
   ·exact ⟨x,hx,k,rfl,e⟩
   exact k
  by_cases e:aF x=0
  ·exact .inl e
  exact .inr (h3 (.inl ⟨k,zj⟩))
 rintro ⟨h1,h2,h3,h4⟩
 exact ⟨.inr h1,h2,fun k=>k.elim (fun k=>(h3 k.1).resolve_left zj) h4⟩
theorem GO (w:World) (ao:Nat->Option Addr) (cap:Nat->Nat) (R:Rws) (x:OpX) (hx:x∈aX R) (z:Bool) (hz:z=true↔RefOk (aX R) x) (hE:Op4 ad w) (hK:KnownAt w ao R) (hR:RowsN R) (hl:∀i,i<4->(R i).length<=1000):
  Calls prog 131 #[kV ao cap R,ar x] w fun e w'=>e= .returned (.bool z)/\Below w.heap.size w w':=by
 have hid:=lX (hR.num.ok x hx)
 have hrf:=fZ (hR.num.ok x hx)
 rw [DB hx zj] at hz
 obtain ⟨t,b,n,k,nd,o,s,v⟩:=x
 have q1:nd<=idO (t,b,n,k,nd,o,s,v):=hrf.1.elim (fun q=>q.2) (fun q=>Int.le_of_lt q)
 have q2:o<idO (t,b,n,k,nd,o,s,v):=hrf.2.1
 have q3:0<=nd:=hrf.2.2.1
 have q4:0<=o:=hrf.2.2.2.1
 have hn0:0<=nd/\nd<=4294967300:=⟨q3,zj⟩
 have ho0:0<=o/\o<=4294967300:=⟨q4,zj⟩
 clear q1 q2 q3 q4
 change z=true↔KnownN (aX R) nd/\(k=109->o=0\/o=1\/KnownN (aX R) o)/\(k=105->o=0\/LetterN (aX R) nd o)/\(k=100->LetterN (aX R) nd o) at hz
 clear hid hrf
 obtain ⟨U,hU⟩:=za ((w.alloc (.cells #[.slice (ao 0) (R 0).length (cap 0),.slice (ao 1) (R 1).length (cap 1),.slice (ao 2) (R 2).length (cap 2),.slice (ao 3) (R 3).length (cap 3)] 112)).alloc (.cells #[.int .i64 t,.int .i64 b,.int .i64 n,.int .u8 (k:Int),.int .i64 nd,.int .i64 o,.string s,.string v] 61))
 obtain ⟨S,hS⟩:=za w.heap.size
 have hb:Below w.heap.size w U:=zH
 have hz1:OpBlk U (S+1) (t,b,n,k,nd,o,s,v):=by
  rw [hU,hS]
  have:=heap_alloc_new (w.alloc (.cells #[.slice (ao 0) (R 0).length (cap 0),.slice (ao 1) (R 1).length (cap 1),.slice (ao 2) (R 2).length (cap 2),.slice (ao 3) (R 3).length (cap 3)] 112)) (.cells #[.int .i64 t,.int .i64 b,.int .i64 n,.int .u8 (k:Int),.int .i64 nd,.int .i64 o,.string s,.string v] 61)
  exact kc8
 have hk:KBox U S ao cap R:=zQ
 obtain ⟨zn,hzn⟩:∃zn:Bool,zn=true↔KnownN (aX R) nd:=by
  by_cases q:KnownN (aX R) nd
  ·exact ⟨true,by simp [q]⟩
  exact ⟨false,by simp [q]⟩
 have hcall:=eP U ao cap R nd zn hzn (hE.later hb) (hK.later hb) hR hl zj zj
 have HB:Aside (Below w.heap.size w U/\KBox U S ao cap R/\OpBlk U (S+1) (t,b,n,k,nd,o,s,v)):=⟨hb,hk,hz1⟩
 unfold kV at hcall |-
 unfold ar
 clear hb hk hz1
 go_enter func131,ntmps131
 go_wp2_with fail
 rw [<-hU,<-hS]
 clear hU hS
 refine hcall.mono ?_
 clear hcall
 rintro e w1 ⟨rfl,hb1⟩
 have H1:Aside (Below w.heap.size w w1/\KBox w1 S ao cap R/\OpBlk w1 (S+1) (t,b,n,k,nd,o,s,v)):=⟨zi HB.o.1 hb1,HB.o.2.1.later hb1,HB.o.2.2.later hb1⟩
 obtain ⟨y0,y1,y2,y3,y4,y5,y6,y7,f8⟩:=H1.o.2.2.cells
 dsimp only at y0 y1 y2 y3 y4 y5 y6 y7
 have k0:=H1.o.2.1.at (i:=0) zj
 have k1:=H1.o.2.1.at (i:=1) zj
 have k2:=H1.o.2.1.at (i:=2) zj
 have k3:=H1.o.2.1.at (i:=3) zj
 have hE1:=hE.later H1.o.1
 have hK1:=hK.later H1.o.1
 clear hb1 HB
 cases zn with
 | false=>
  have hzf:z=false:=by
   cases z with
   | false=>rfl
   | true=>exact absurd (hzn.2 (hz.1 rfl).1) zo
  subst hzf
  clear hz hzn
  exact km9
 | true=>
  have hkn:=hzn.1 rfl
  clear hzn
  by_cases hm:k=109
  ·subst hm
   have hz':z=true↔o=0\/o=1\/KnownN (aX R) o:=hz.trans ⟨fun q=>q.2.1 rfl,fun q=>⟨hkn,fun _=>q,fun k=>absurd k zo,fun k=>absurd k zo⟩⟩
   have hcall:=gF w1 ao cap R o z hz' hE1 hK1 hR hl zj zj
   exact kc0
  have dm:((k:Int)==109)=false:=zl
  by_cases hi:k=105
  ·subst hi
   by_cases h0:o=0
   ·subst h0
    obtain rfl:z=true:=hz.2 ⟨hkn,fun k=>absurd k zo,fun _=>.inl rfl,fun k=>absurd k zo⟩
    clear hz
    exact km9
   have d0:(o==0)=false:=xC
   have hz':z=true↔LetterN (aX R) nd o:=hz.trans ⟨fun q=>(q.2.2.1 rfl).resolve_left h0,fun q=>⟨hkn,fun k=>absurd k zo,fun _=>.inr q,fun k=>absurd k zo⟩⟩
   have hcall:=kE w1 ao cap R nd o z hz' hE1 hK1 hR hl zj zj
   exact kc0
  have di:((k:Int)==105)=false:=zl
  by_cases hd:k=100
  ·subst hd
   have hz':z=true↔LetterN (aX R) nd o:=hz.trans ⟨fun q=>q.2.2.2 rfl,fun q=>⟨hkn,fun k=>absurd k zo,fun k=>absurd k zo,fun _=>q⟩⟩
   have hcall:=kE w1 ao cap R nd o z hz' hE1 hK1 hR hl zj zj
   exact kc0
  have dd:((k:Int)==100)=false:=zl
  obtain rfl:z=true:=hz.2 ⟨hkn,fun k=>absurd k hm,fun k=>absurd k hi,fun k=>absurd k hd⟩
  clear hz
  exact km9
end
section
open Go.RowKit Go.Lib Go.Sort
def DD (g:Nat) (lb:Array Value) (xs:List OpX) (p:OpX->Bool) (w:World):Prop:=
 ∀(W:World) (x:OpX),x∈xs->Below w.heap.size w W->Calls prog g (#[ar x]++lb) W fun e w'=>e= .returned (.bool (p x))/\Below w.heap.size w w'
def PK (p:OpX->Bool) (zs:List OpX) (r:Int):Prop:=
 (r= -1/\∀x∈zs,p x=false)\/∃k x,r=((k:Nat):Int)/\zs[k]? =some x/\p x=true/\∀j y,j<k->zs[j]? =some y->p y=false
theorem iu (p:OpX->Bool) (g:Nat) (lb:Array Value) (eg:∀args w,(callFunc g args).run prog w= .ok (.enter g args) w) (ao:Option Addr) (cap:Nat) (zs:List OpX) (w:World) (hp:DD g lb zs p w) (hbig:zs.length<=1000000) (hin:OpsIn w ao zs):
  Calls prog 193 #[.slice ao zs.length cap,.func (.func g) #[] lb] w fun e w'=>∃r:Int,e= .returned (.int .i64 r)/\Aside (PK p zs r/\Below w.heap.size w w'):=by
 have HP:Aside (DD g lb zs p w):=hp
 have HI:Aside (OpsIn w ao zs):=hin
 clear hp hin
 go_enter func193,ntmps193
 go_wp2
 go_loopg [5,8] zs.length (fun kx _ s8 wr=>∃(k:Nat),s8= .int .i64 (k:Int)/\k<=zs.length/\zs.length - k<=kx/\Aside (Below w.heap.size w wr/\∀j l,j<k->zs[j]? =some l->p l=false))
 case atStart=>exact ⟨0,rfl,jX _,jL _,⟨jN _ w,fun j l hj=>zj⟩⟩
 case round=>
  obtain ⟨k,rfl,hk,hkx,A⟩:=hrel
  by_cases hlt:k<zs.length
  ·have hltz:decide ((k:Int)<(zs.length:Int))=true:=by simp;omega
   have ek:((k:Int)).toNat=k:=zj
   have pk:(0:Int)<=(k:Int):=zj
   have bk:(k:Int)<(zs.length:Int):=zj
   obtain ⟨⟨t,b,n,kd,nd,o,s,v⟩,hl⟩:∃l,Aside (zs[k]? =some l):=⟨zs[k],jK hlt⟩
   obtain ⟨blk,off,hao,hc⟩:=(HI.o.later A.o.1).get hl.o
   subst hao
   have r0:=hc 0 _ rfl
   have r1:=hc 1 _ rfl
   have r2:=hc 2 _ rfl
   have r3:=hc 3 _ rfl
   have r4:=hc 4 _ rfl
   have r5:=hc 5 _ rfl
   have r6:=hc 6 _ rfl
   have r7:=hc 7 _ rfl
   simp only [vI] at r0
   clear hc
   have hcall:=HP.o wr (t,b,n,kd,nd,o,s,v) (jT hl.o) A.o.1
   unfold ar at hcall
   dsimp only at hcall
   cases hq:p (t,b,n,kd,nd,o,s,v) with
   | true=>
    exact kf9
   | false=>
    rw [hq] at hcall
    have HQ:=Lib.hid hq
    clear hq
    go_wp2_with (go_at_fn g;refine hcall.mono ?_;rintro e w' ⟨rfl,hb'⟩)
    go_roundg (zs.length - (k+1))
    case measure=>omega
    case rel=>
     refine ⟨k+1,zI,zj,jL _,⟨hb',fun j l hj e=> ?_⟩⟩
     rcases ue j k with h | h
     ·exact A.o.2 j l h e
     exact kl8
  exact kf4
theorem Ci (p:OpX->Bool) (g:Nat) (lb:Array Value) (eg:∀args w,(callFunc g args).run prog w= .ok (.enter g args) w) (ao:Option Addr) (cap:Nat) (zs:List OpX) (w:World) (hp:DD g lb zs p w) (hbig:zs.length<=1000000) (hin:OpsIn w ao zs):
  Calls prog 129 #[.slice ao zs.length cap,.func (.func g) #[] lb] w fun e w'=>e= .returned (.bool (zs.any p))/\Below w.heap.size w w':=by
 have hcall:=iu p g lb eg ao cap zs w hp hbig hin
 clear hp hin eg
 go_enter func129,ntmps129
 go_wp2_with fail
 refine hcall.mono ?_
 clear hcall
 rintro e w' ⟨r,rfl,H⟩
 rcases H.o.1 with ⟨hr,ha⟩ | ⟨k,x,hr,hx,hpx,_⟩
 ·have HA:Aside (zs.any p=false):=by
   show zs.any p=false
   rw [List.any_eq_false]
   intro x hx
   rw [ha x hx]
   decide
  clear ha
  subst hr
  go_wp2
  go_ret
  exact ⟨by rw [HA.o];rfl,H.o.2⟩
 have HA:Aside (zs.any p=true):=List.any_eq_true.2 ⟨x,jT hx,hpx⟩
 have dr:decide (0<=r)=true:=zl
 clear hx hpx hr
 go_wp2
 go_ret
 exact ⟨by rw [HA.o];rfl,H.o.2⟩
theorem ru (w:World) (ao:Nat->Option Addr) (cap:Nat->Nat) (R:Rws) (fa:Option Addr) (fc:Nat) (fresh:List OpX) (hin:OpsIn w fa fresh) (hx:∀x∈fresh,x∈aX R) (z:Bool) (hz:z=true↔∀x∈fresh,RefOk (aX R) x) (hE:Op4 ad w) (hK:KnownAt w ao R) (hR:RowsN R) (hl:∀i,i<4->(R i).length<=1000) (hn:fresh.length<=1000):
  Calls prog 70 #[kV ao cap R,.slice fa fresh.length fc] w fun e w'=>e= .returned (.bool z)/\Below w.heap.size w w':=by
 obtain ⟨U,hU⟩:=za (w.alloc (.cells #[.slice (ao 0) (R 0).length (cap 0),.slice (ao 1) (R 1).length (cap 1),.slice (ao 2) (R 2).length (cap 2),.slice (ao 3) (R 3).length (cap 3)] 112))
 have hb:Below w.heap.size w U:=zN
 have hk:KBox U w.heap.size ao cap R:=by rw [hU];exact KBox.new w ao cap R
 obtain ⟨p,hp⟩:∃p:OpX->Bool,∀x,p x=true↔¬RefOk (aX R) x:=by
  refine ⟨fun x=> @decide (¬RefOk (aX R) x) (Classical.propDecidable _),fun x=> ?_⟩
  exact @decide_eq_true_iff _ (Classical.propDecidable _)
 have hpred:DD 130 #[.pointer (some ⟨w.heap.size,0,none⟩)] fresh p U:=by
  intro W x hxf hbW
  have hkW:=hk.later hbW
  have hc:=GO (W.alloc (.cells #[.int .i64 x.1,.int .i64 x.2.1,.int .i64 x.2.2.1,.int .u8 (x.2.2.2.1:Int),.int .i64 x.2.2.2.2.1,.int .i64 x.2.2.2.2.2.1,.string x.2.2.2.2.2.2.1,.string x.2.2.2.2.2.2.2] 61)) ao cap R x (hx x hxf) (!(p x)) (by
   rw [Bool.not_eq_true']
   constructor
   ·intro q
    refine Classical.byContradiction (fun k=> ?_)
    rw [(hp x).2 k] at q
    cases q
   ·intro q
    cases hq:p x with
    | false=>rfl
    | true=>exact absurd q ((hp x).1 hq)) ((hE.later hb).later (hbW.alloc hbW.size _)) ((hK.later hb).later (hbW.alloc hbW.size _)) hR hl
  have k0:=hkW.at (i:=0) zj
  have k1:=hkW.at (i:=1) zj
  have k2:=hkW.at (i:=2) zj
  have k3:=hkW.at (i:=3) zj
  have hlt:=hkW.lt
  have hsz:=hbW.size
  have HB:Aside (Below U.heap.size U W):=hbW
  clear hkW hbW hp
  obtain ⟨t,b,n,kd,nd,o,s,v⟩:=x
  unfold kV ar at hc
  dsimp only at hc
  show Calls prog 130 #[ar (t,b,n,kd,nd,o,s,v),.pointer (some ⟨w.heap.size,0,none⟩)] W _
  unfold ar
  dsimp only
  go_enter func130,ntmps130
  go_wp2_with fail
  refine hc.mono ?_
  clear hc
  rintro e w1 ⟨rfl,hb1⟩
  have B1:Aside (Below U.heap.size U w1):=(HB.o.alloc HB.o.size _).trans (hb1.mono (by simp;have:=HB.o.size;omega))
  clear hb1
  go_wp2
  go_ret
  exact ⟨zq,B1.o⟩
 have hcall:=Ci p 130 #[.pointer (some ⟨w.heap.size,0,none⟩)] (enters_of func130 zk rfl) fa fc fresh U hpred zj (hin.later hb)
 have HB:Aside (Below w.heap.size w U):=hb
 have HZ:Aside (z= !(fresh.any p)):=by
  show z= !(fresh.any p)
  rw [Bool.eq_iff_iff,hz,Bool.not_eq_true',List.any_eq_false]
  exact ⟨fun q x hxf hpx=>(hp x).1 hpx (q x hxf),fun q x hxf=>Classical.byContradiction (fun k=>q x hxf ((hp x).2 k))⟩
 clear hz hp hpred hb hk
 unfold kV
 go_enter func70,ntmps70
 go_wp2_with fail
 rw [<-hU]
 clear hU
 refine hcall.mono ?_
 clear hcall
 rintro e w1 ⟨rfl,hb1⟩
 have B1:Aside (Below w.heap.size w w1):=zi HB.o hb1
 clear hb1
 go_wp2
 go_ret
 exact ⟨by rw [HZ.o];rfl,B1.o⟩
theorem Og (a0 a1 a2 a3:Value):(∀w,(Instr.index 112 (.agg #[a0,a1,a2,a3]) (.int .i64 0)).run prog w= .ok a0 w)/\(∀w,(Instr.index 112 (.agg #[a0,a1,a2,a3]) (.int .i64 1)).run prog w= .ok a1 w)/\(∀w,(Instr.index 112 (.agg #[a0,a1,a2,a3]) (.int .i64 2)).run prog w= .ok a2 w)/\∀w,(Instr.index 112 (.agg #[a0,a1,a2,a3]) (.int .i64 3)).run prog w= .ok a3 w:=
 ⟨fun _=>zk,fun _=>zk,fun _=>zk,fun _=>zk⟩
theorem mT (w:World) (ao:Nat->Option Addr) (cap:Nat->Nat) (R:Rws) (hl:∀i,i<4->(R i).length<=1000):
  Calls prog 71 #[kV ao cap R] w fun e w'=>e= .returned (.int .i64 ((aX R).length:Int))/\Below w.heap.size w w':=by
 have h0:=hl 0 zj
 have h1:=hl 1 zj
 have h2:=hl 2 zj
 have h3:=hl 3 zj
 have HL:Aside (((aX R).length:Int)=(R 0).length+(R 1).length+(R 2).length+(R 3).length):=by
  show ((aX R).length:Int)=_
  unfold aX;simp;omega
 obtain ⟨x0,x1,x2,x3⟩:=Og (.slice (ao 0) (R 0).length (cap 0)) (.slice (ao 1) (R 1).length (cap 1)) (.slice (ao 2) (R 2).length (cap 2)) (.slice (ao 3) (R 3).length (cap 3))
 unfold kV
 go_enter func71,ntmps71
 go_wp2
 refine wp_loop_rounds 5 ?_
 iterate 5
  rw [rounds_succ]
  go_wp2
 go_ret
 refine ⟨?_,zh w _⟩
 rw [HL.o]
 first | rfl | (refine congrArg _ (congrArg _ ?_);omega)
theorem lG {fn:Func} {p:Tmp} {ty:TypeId} (h:fn.results= #[.cell p ty]) (tmps:Array Value) (P:Program) (w:World):
  (results fn tmps).run P w=((asAddr (tmps.getD p undef)).run P w).andThen fun a w1=>((loadVar ty a).run P w1):=by
 exact kk2
theorem sd (w:World) (ao:Nat->Option Addr) (cap:Nat->Nat) (R:Rws) (hl:∀i,i<4->(R i).length<=1000):
  Calls prog 121 #[kV ao cap R] w fun e w'=>e= .returned (.agg #[.int .i64 ((R 0).length:Int),.int .i64 ((R 1).length:Int),.int .i64 ((R 2).length:Int),.int .i64 ((R 3).length:Int)])/\Below w.heap.size w w':=by
 have h0:=hl 0 zj
 have h1:=hl 1 zj
 have h2:=hl 2 zj
 have h3:=hl 3 zj
 obtain ⟨x0,x1,x2,x3⟩:=Og (.slice (ao 0) (R 0).length (cap 0)) (.slice (ao 1) (R 1).length (cap 1)) (.slice (ao 2) (R 2).length (cap 2)) (.slice (ao 3) (R 3).length (cap 3))
 unfold kV
 go_enter func121,ntmps121
 go_wp2
 refine wp_loop_rounds 5 ?_
 iterate 5
  rw [rounds_succ]
  go_wp2
 (try simp only [Exit.inBlock,Exit.then])
 refine bodyPost_ret (v:=.agg #[.int .i64 ((R 0).length:Int),.int .i64 ((R 1).length:Int),.int .i64 ((R 2).length:Int),.int .i64 ((R 3).length:Int)]) ?_ rfl ⟨rfl,?_⟩
 ·rw [lG rfl]
  go_simp
 exact ((zh w _).alloc zq _).alloc zl _
end
section
open Go.RowKit Go.Lib Go.Sort
section
variable {P:Program} {ops:Array Oper} {Q:Exit→Act→World→Prop} {md:Region.Mode} {S:World→Prop}
theorem iv {j:Nat} {oi oj:Oper} {fuel:Nat} {listed:Array Bool} {a:Act} (hr:Region.ready md ops listed= [i,j]) (hoi:ops[i]? =some oi) (hoj:ops[j]? =some oj)
  (h1:∀K:Act->World->Prop,(∀a' w',S w'->wpAnyH P md ops Q S fuel (listed.setIfInBounds i true) a' w'->K a' w')->if Region.wanted oi (yielded ops a.tmps)=true then Oper.wp P oi a w K Q else K (a.put oi.dst undef) w)
  (h2:∀K:Act->World->Prop,(∀a' w',S w'->wpAnyH P md ops Q S fuel (listed.setIfInBounds j true) a' w'->K a' w')->if Region.wanted oj (yielded ops a.tmps)=true then Oper.wp P oj a w K Q else K (a.put oj.dst undef) w):wpAnyH P md ops Q S (fuel+1) listed a w:=by
 refine ⟨fun h0=>yK,fun k hk=> ?_⟩
 rw [hr] at hk
 simp only [jQ,uu,or_false] at hk
 rcases hk with rfl | rfl
 ·have:=h1 (fun a' w'=>S w'/\wpAnyH P md ops Q S fuel (listed.setIfInBounds k true) a' w') (fun a' w' h1 h2=>⟨h1,h2⟩)
  unfold wpOp
  simp only [hoi]
  split
  ·rename_i hw
   exact kg1
  rename_i hw
  exact kh6
 have:=h2 (fun a' w'=>S w'/\wpAnyH P md ops Q S fuel (listed.setIfInBounds k true) a' w') (fun a' w' h1 h2=>⟨h1,h2⟩)
 unfold wpOp
 simp only [hoj]
 split
 ·rename_i hw
  exact kg1
 rename_i hw
 exact kh6
end
end
section
open Go Go.RowKit Go.Lib Go.Sort
structure MRp (w:World) (m:Nat) (by_:Int) (ao:Option Addr) (cap:Nat) (S:List OpX):Prop where
 cell:w.heap[m]? =some (.cells #[.int .i64 by_,.slice ao S.length cap] 27 (0,0))
 ops:OpsIn w ao S
def fW (S:List OpX) (nd:Int):Bool:=S.any (fun x=>decide (kdO x=109/\aG x=nd/\idO x=nd))
theorem knownB_iff :fW S nd=true↔KnownN S nd:=by
 unfold fW KnownN
 simp
def CH (S:List OpX) (nd:Int):Bool:=decide (nd=0) ||(decide (nd=1) ||fW S nd)
end
section
open Go
