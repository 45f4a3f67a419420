import Derived.Test.YtehighgebbdenaaGreatDoorRa12
import Derived.Deep.AppendLies
set_option linter.unusedVariables false
set_option maxRecDepth 100000
set_option maxHeartbeats 64000000
namespace Go.Proofs.YtehighgebbdenaaGreatDoor
open Go.Proofs.Tryz
variable {T a b n:Int} {L M:List Ltr} {A:List OpX} {l:Ltr} {B bc k p pb:Nat} {ad:Nat→Addr} {o:OpX} {v:Value} {w w' w0 w1:World}
section
open Go.RowKit Go.Lib Go.Sort
theorem KL:(prog.info? 5).map (fun i=>(i.zero,i.size,i.bytes))=some (some (.int .u8 0),1,1):=zq
def gF (l:List UInt8):List Value:=l.map fun c=>.int .u8 (c.toNat:Int)
theorem oO (a b:List UInt8):gF (a++b)=gF a++gF b:=by simp [gF]
theorem oP {base:Nat} {n:Nat} {l:List UInt8} (h:w.ownsRow base 5 1 v n (gF l)) (hl:l.length=n):
  Sem.run prog (convert 221 9 v) w= .ok (.string ⟨l.toArray⟩) w:=by
 rcases ZK n with h0 | h0
 ·have hl0:l= []:=uh.1 zo;subst hl0
  rcases h.2 with ⟨hv,_⟩ | ⟨g,cap,cur,hv,_⟩
  ·subst hv;exact run_convert_bytes_nil w _ _ underlying221 underlying5 0 0 _ underlying9
  subst hv;subst h0;exact run_convert_bytes_back w _ _ _ _ _ [] underlying221 underlying5 underlying9 (fun j hj=>by simp at hj)
 obtain ⟨g,cap,rfl⟩:∃g cap,v= .slice (some ⟨g,0,none⟩) n cap:=by
  rcases h.2 with ⟨_,h2⟩ | ⟨g,cap,cur,hv,_⟩
  ·omega
  exact ⟨g,cap,hv⟩
 have hc:=h.cells (g:=g) rfl;subst hl;refine run_convert_bytes_back w _ _ _ _ _ l underlying221 underlying5 underlying9 (fun j hj=> ?_);refine hc j _ ?_;simp [gF,vN hj]
theorem nc (X:ByteArray):(X==X)=true:=by
 show (X.data==X.data)=true
 simp
theorem wP (X:ByteArray):(X !=X)=false:=by
 rw [bne,nc];rfl
def co (L:List Ltr):List UInt8:=(aK L).map fun l=>UInt8.ofNat l.2.1
theorem iI (h:L[k]? =some l):aK (L.take (k+1))=aK (L.take k)++(if l.2.2 then [] else [l]):=by
 unfold aK;rw [uS,h,Za];congr 1;by_cases hg:l.2.2=true
 ·rw [if_pos hg];simp [hg]
 rw [if_neg hg];simp [hg]
theorem CP {c:Nat} {g:Bool} (h:L[k]? =some (a,c,g)):co (L.take (k+1))=co (L.take k)++(if g then [] else [UInt8.ofNat c]):=by
 unfold co;rw [iI h,uI]
 cases g<;>rfl
theorem lT (L:List Ltr):(co L).length<=L.length:=by
 unfold co aK;rw [uz];exact Zd _ _
theorem Hv (w:World) (base p:Nat) (v:Value) (L:List Ltr) (h:LineAt base w p v L) (hL:L.length<=1000):
  Calls prog 85 #[.pointer (some ⟨p,0,none⟩)] w fun e w'=>e= .returned (.string ⟨(co L).toArray⟩)/\Below w.heap.size w w':=by
 obtain ⟨i0,hi,hz0,hz1,hz2⟩:=info_parts KL;obtain ⟨ao,cap,rfl⟩:=bI h.row;have c0:=h.c0
 have HI:Aside (LtrsIn w ao L/\∀l∈L,l.2.1<256):=⟨mo h.row,h.small⟩
 clear h;go_enter func85,ntmps85;go_wp2;clear c0;go_loopg [3,11] L.length (fun kx s3 s11 wr=>∃(k:Nat) (ov:Value),ov=s3/\s11= .int .i64 (k:Int)/\k<=L.length/\L.length - k<=kx/\Aside (wr.ownsRow w.heap.size 5 1 ov (co (L.take k)).length (gF (co (L.take k)))/\Below w.heap.size w wr))
 case atStart=>exact ⟨0,_,rfl,rfl,vV _,vM _,⟨un _ _ _ _,vP _ w⟩⟩
 case round=>
  obtain ⟨k,ov,rfl,rfl,hk,hkx,A⟩:=hrel;by_cases hlt:k<L.length
  ·have hltz:decide ((k:Int)<(L.length:Int))=true:=by simp;omega
   have ek:((k:Int)).toNat=k:=zo;have pk:(0:Int)<=(k:Int):=zo;have bk:(k:Int)<(L.length:Int):=zo
   obtain ⟨⟨a,c,gn⟩,hl⟩:∃l,Aside (L[k]? =some l):=⟨L[k],vN hlt⟩
   obtain ⟨blk,off,rfl,f0,f1,f2⟩:=(HI.o.1.later A.o.2).at hl.o;have HN:=Lib.hid (CP hl.o);have hc256:c<256:=HI.o.2 _ (vQ hl.o)
   obtain ⟨T,hT⟩:∃T,Aside (co (L.take k)=T):=⟨_,rfl⟩
   have A':Aside (wr.ownsRow w.heap.size 5 1 ov T.length (gF T)/\Below w.heap.size w wr):=jP
   have hTl:T.length<=1000:=by have:=lT (L.take k);rw [hT.o,ug] at this;omega
   obtain ⟨u,hu⟩:=zc wr;subst hu
   cases gn with
   | true=>
    have f2':u.cell? ⟨blk,off+k*3+2,none⟩=some (.bool false):=f2;clear f2 A;go_wp2;go_roundg (L.length - (k+1))
    case measure=>omega
    case rel=>
     refine ⟨k+1,_,rfl,zD,zo,vM _,?_⟩
     have e:co (L.take (k+1))=T:=by rw [HN.o,hT.o];simp
     rw [e];exact ⟨A'.o.1.alloc _,A'.o.2.alloc A'.o.2.size _⟩
   | false=>
    have f2':u.cell? ⟨blk,off+k*3+2,none⟩=some (.bool true):=f2;clear f2 A
    obtain ⟨cb,hcb⟩:∃cb:UInt8,Aside (UInt8.ofNat c=cb):=⟨_,rfl⟩
    have hcn:(c:Int)=(cb.toNat:Int):=by rw [<-hcb.o];simp;omega
    rw [hcn] at f1;clear hcn;go_wp2_with (at_builtin;refine wpList_append_own _ rfl _ _ 221 rfl w.heap.size 5 i0 _ 1 1 underlying221 hi hz0 hz1 hz2 rfl zo _ _ _ rfl ((A'.o.1.alloc _).alloc _) ⟨u.heap.size+1,0,none⟩ 1 1 [.int .u8 (cb.toNat:Int)] rfl ?qb1 ?qb2 ?qb3 ?qb4 ?qb5 ?qb6 ?_)
    case qb1=>rfl
    case qb2=>exact World.news_of_block (cs:= #[.int .u8 (cb.toNat:Int)]) (t:=5) (fr:=(0,0)) (by
     have:=heap_alloc_new (u.alloc (.cells #[.int .i64 a,.int .u8 (cb.toNat:Int),.bool true] 250)) (.cells #[.int .u8 (cb.toNat:Int)] 5)
     rwa [uP] at this)
    case qb3=>simp [Value.oneCell']
    case qb4=>simp only [maxLen];omega
    case qb5=>omega
    case qb6=>have:=A'.o.2.size;simp;omega
    intro v2 u2 hown hgrow hnil;clear hnil
    have W1:=(A'.o.2.alloc A'.o.2.size (.cells #[.int .i64 a,.int .u8 (cb.toNat:Int),.bool true] 250))
    have W2:Below w.heap.size w u2:=(W1.alloc W1.size _).grown hgrow (by have:=A'.o.2.size;simp;omega) (fun k hk=>(A'.o.1.lt k hk).1)
    have R2:Aside (u2.ownsRow w.heap.size 5 1 v2 (co (L.take (k+1))).length (gF (co (L.take (k+1))))/\Below w.heap.size w u2):=by
     have e:co (L.take (k+1))=T++ [cb]:=by rw [HN.o,hT.o,<-hcb.o];rfl
     rw [e,oO,ub];exact ⟨hown,W2⟩
    clear hown hgrow W1 W2;go_wp2;go_roundg (L.length - (k+1))
    case measure=>omega
    case rel=>exact ⟨k+1,_,rfl,zD,zo,vM _,R2⟩
  have hltz:decide ((k:Int)<(L.length:Int))=false:=zr;have ek:L.take k=L:=uc zo;rw [ek] at A;have hcv:=oP A.o.1 rfl;clear ek;go_wp2;go_ret;exact ⟨rfl,A.o.2⟩
end
section
open Go.RowKit Go.Lib Go.Sort
theorem sE (w:World) (base p:Nat) (v:Value) (L:List Ltr) (id:Int) (hE:Ln4 ad w) (hT:LineAt base w p v L) (hL:L.length<=1000) (hx:id∉L.map (·.1)):
  Calls prog 127 #[.pointer (some ⟨p,0,none⟩),.int .i64 id] w fun e w'=>e= .returned (.iface 399 (.pointer (some (ad 5))))/\Below w.heap.size w w':=by
 have HE:Aside (Ln4 ad w):=hE;have hf:=dt w base p v L id hT hL;rw [ew hx] at hf;clear hE hT hx;go_enter func127,ntmps127;go_wp2_with fail;refine hf.mono ?_;rintro e w1 ⟨rfl,hb1⟩;have B1:Aside (Below w.heap.size w w1):=hb1;have c5:=(HE.o.later hb1).c5;clear hb1 hf;go_wp2;go_ret;exact ⟨rfl,B1.o⟩
theorem DR (w:World) (base p i:Nat) (v:Value) (L:List Ltr) (id:Int) (hT:LineAt base w p v L) (hL:L.length<=1000) (hf:cZ id L=some i):
  Calls prog 127 #[.pointer (some ⟨p,0,none⟩),.int .i64 id] w fun e w'=>e= .returned .nilIface/\LineAt base w' p v (L.set i (id,0,true))/\Keeps (fun k=>some k=v.ownBlock) w w':=by
 obtain ⟨⟨a,c,gn⟩,hl,rfl⟩:=cF hf;have hil:=(vL.1 hl).1;have hfa:=dt w base p v L a hT hL;rw [show iV a L=(i:Int) by unfold iV;rw [hf]] at hfa;obtain ⟨ao,cap,rfl⟩:=bI hT.row
 obtain ⟨g,rfl⟩:∃g,ao=some ⟨g,0,none⟩:=by
  rcases hT.row.2 with ⟨_,h2⟩ | ⟨g,cap',cur,hv,_⟩
  ·omega
  cases hv;exact ⟨g,rfl⟩
 have HT:Aside (LineAt base w p (.slice (some ⟨g,0,none⟩) L.length cap) L):=hT;have HL:Aside (L[i]? =some (a,c,gn)):=hl;have d0:decide ((i:Int)<0)=false:=zv;have ei:((i:Int)).toNat=i:=zo;have bi:(i:Int)<(L.length:Int):=zo;have pi:(0:Int)<=(i:Int):=zo;clear hT hl hf;go_enter func127,ntmps127;go_wp2_with fail;refine hfa.mono ?_;rintro e w1 ⟨rfl,hb1⟩
 have H1:Aside (LineAt base w1 p (.slice (some ⟨g,0,none⟩) L.length cap) L/\Below w.heap.size w w1):=⟨HT.o.later hb1,hb1⟩
 clear hb1 hfa;have c0:=H1.o.1.c0;obtain ⟨blk,off,hbo,f0,f1,f2⟩:=(mo H1.o.1.row).at HL.o
 have hoff:blk=g/\off=0:=by
  rcases mo H1.o.1.row with h | ⟨b',o',h1,_⟩
  ·rw [h] at hil;simp at hil
  simp only [Option.some.injEq,Addr.mk.injEq,and_true] at hbo;exact ⟨hbo.1.symm,hbo.2.symm⟩
 obtain ⟨rfl,rfl⟩:=hoff;rw [vY] at f0 f1 f2
 have z0:∀j,w1.frozen? ⟨blk,j,none⟩=false:=fun j=>H1.o.1.row.frozenAt j
 have z1:=z0 (i*3);have z2:=z0 (i*3+1);have z3:=z0 (i*3+2);have hne:blk≠p:=(H1.o.1.ne blk rfl).1
 have FIN:Aside (LineAt base (w1.setCells blk (i*3) [.int .i64 a,.int .u8 0,.bool false]) p (.slice (some ⟨blk,0,none⟩) L.length cap) (L.set i (a,0,true))/\Keeps (fun k=>some k=some blk) w (w1.setCells blk (i*3) [.int .i64 a,.int .u8 0,.bool false])):=by
  have hkp:=aZ blk [.int .i64 a,.int .u8 0,.bool false] (i*3) w1;have hro:=H1.o.1.row
  have hself:L.set i (a,c,gn)=L:=by
   exact ko8
  have e1:aA pZ L=(aA pZ L).take (i*3)++pZ (a,c,gn)++(aA pZ L).drop ((i+1)*3):=by
   rw [<-dN fW L i hil (a,c,gn),hself]
  have e2:=dN fW L i hil (a,0,true)
  have el:((aA pZ L).take (i*3)).length=i*3:=by rw [ug,bR fW];omega
  rw [e1] at hro;have ho:=ff (vs:=[.int .i64 a,.int .u8 0,.bool false]) hro rfl;rw [el] at ho
  have hm:∀l∈L.set i (a,0,true),l∈L\/l=(a,0,true):=fun l hl=>List.mem_or_eq_of_mem_set hl
  refine ⟨⟨(hkp.block p H1.o.1.lt (fun e=>hne e.symm)).trans H1.o.1.cell,?_,H1.o.1.low,?_,fun l hl=> ?_,fun l hl=> ?_⟩,?_⟩
  ·rw [Zt,e2];exact ho
  ·rw [JA HL.o];exact H1.o.1.nodup
  ·rcases hm l hl with h | rfl
   ·exact H1.o.1.pos l h
   exact H1.o.1.pos (a,c,gn) (vQ HL.o)
  ·rcases hm l hl with h | rfl
   ·exact H1.o.1.small l h
   show 0<256
   omega
  exact ((aW H1.o.2).mono (fun k hk e=>zo)).then hkp (fun k _ e=>by rw [e])
 clear z0;go_wp2;go_ret;exact ⟨rfl,FIN.o⟩
def atL (n:Int) (L:List Ltr):Int×Bool:=if 0<=n then (match (aK L)[n.toNat]? with
 | some l=>(l.1,true)
 | none=>(0,false)) else (0,false)
theorem Jm (h:L[k]? =some l) (hg:l.2.2=false) (hn:n=((aK (L.take k)).length:Int)):atL n L=(l.1,true):=by
 have hk:=(vL.1 h).1
 have e:aK L=aK (L.take (k+1))++aK (L.drop (k+1)):=by
  unfold aK;rw [<-Za,ur]
 unfold atL;rw [if_pos zo,hn,Int.toNat_natCast,e,iI h,hg];simp
theorem Gs (h:∀j:Nat,j<(aK L).length->n≠(j:Int)):atL n L=(0,false):=by
 unfold atL;split
 ·rw [ZN];have:=h n.toNat;omega
 rfl
theorem LW (w:World) (base p:Nat) (v:Value) (L:List Ltr) (n:Int) (h:LineAt base w p v L) (hL:L.length<=1000) (hn: -9223372036854775808<=n/\n<=9223372036854775807):
  Calls prog 197 #[.pointer (some ⟨p,0,none⟩),.int .i64 n] w fun e w'=>e= .returned (.tuple #[.int .i64 (atL n L).1,.bool (atL n L).2])/\Below w.heap.size w w':=by
 obtain ⟨ao,cap,rfl⟩:=bI h.row;have c0:=h.c0;have HI:Aside (LtrsIn w ao L):=mo h.row;clear h
 obtain ⟨r1,r2,hr⟩:∃r1 r2,Aside (atL n L=(r1,r2)):=⟨_,_,rfl⟩
 rw [hr.o]
 show Calls _ _ _ _ fun e w'=>e= .returned (.tuple #[.int .i64 r1,.bool r2])/\Below w.heap.size w w'
 go_enter func197,ntmps197;go_wp2;clear c0;go_loopg [1,13] L.length (fun kx s1 s13 wr=>∃(k:Nat) (m:Int),s1= .int .i64 m/\s13= .int .i64 (k:Int)/\k<=L.length/\L.length - k<=kx/\Aside (m=IntKind.i64.wrap (n - ((aK (L.take k)).length:Int))/\(∀j:Nat,j<(aK (L.take k)).length->n≠(j:Int))/\Below w.heap.size w wr))
 case atStart=>exact ⟨0,_,rfl,rfl,vV _,vM _,⟨by rw [IntKind.wrap_i64];simp [aK];omega,fun j hj=>by simp [aK] at hj,vP _ w⟩⟩
 case round=>
  obtain ⟨k,m,rfl,rfl,hk,hkx,A⟩:=hrel;by_cases hlt:k<L.length
  ·have hltz:decide ((k:Int)<(L.length:Int))=true:=by simp;omega
   have ek:((k:Int)).toNat=k:=zo;have pk:(0:Int)<=(k:Int):=zo;have bk:(k:Int)<(L.length:Int):=zo
   obtain ⟨⟨a,c,gn⟩,hl⟩:∃l,Aside (L[k]? =some l):=⟨L[k],vN hlt⟩
   obtain ⟨blk,off,rfl,f0,f1,f2⟩:=(HI.o.later A.o.2.2).at hl.o;have HN:=Lib.hid (iI hl.o)
   have HS:=Lib.hid (show (aK (L.take k)).length<=1000 by
    have:(aK (L.take k)).length<=(L.take k).length:=Zd _ _
    rw [ug] at this;omega)
   obtain ⟨u,hu⟩:=zc wr;subst hu
   have HB:Aside (∀o,Below w.heap.size w (u.alloc o)):=fun o=>A.o.2.2.alloc A.o.2.2.size o
   cases gn with
   | true=>
    have f2':u.cell? ⟨blk,off+k*3+2,none⟩=some (.bool false):=f2;clear f2;go_wp2;go_roundg (L.length - (k+1))
    case measure=>omega
    case rel=>
     have e:aK (L.take (k+1))=aK (L.take k):=by rw [HN.o];simp
     exact ⟨k+1,m,rfl,zD,zo,vM _,⟨by rw [e];exact A.o.1,by rw [e];exact A.o.2.1,HB.o _⟩⟩
   | false=>
    have f2':u.cell? ⟨blk,off+k*3+2,none⟩=some (.bool true):=f2;clear f2;by_cases hm:m=0
    ·have dm:(m==0)=true:=by simp [hm]
     have hnk:n=((aK (L.take k)).length:Int):=by
      have h1:=A.o.1;have h2:=HS.o;rw [hm,IntKind.wrap_i64] at h1;omega
     have hat:=Jm hl.o rfl hnk;rw [hr.o] at hat;have HR:=Lib.hid hat;clear hm hnk hat;go_wp2;go_ret2;exact ⟨by cases HR.o;rfl,HB.o _⟩
    have dm:(m==0)=false:=by simp [hm]
    have hne:n≠((aK (L.take k)).length:Int):=by
     intro e;have h1:=A.o.1;rw [e,IntKind.wrap_i64] at h1;omega
    have HNE:=Lib.hid hne;clear hm hne;go_wp2;go_roundg (L.length - (k+1))
    case measure=>omega
    case rel=>
     have e:(aK (L.take (k+1))).length=(aK (L.take k)).length+1:=by rw [HN.o];simp
     refine ⟨k+1,_,rfl,zD,zo,vM _,⟨?_,fun j hj=> ?_,HB.o _⟩⟩
     ·have h1:=A.o.1;have h2:=HS.o;rw [e,h1,IntKind.wrap_i64,IntKind.wrap_i64];unfold wrap64;omega
     rw [e] at hj
     rcases uJ j (aK (L.take k)).length with h | h
     ·exact A.o.2.1 j h
     obtain rfl:j=(aK (L.take k)).length:=zo;exact HNE.o
  have hltz:decide ((k:Int)<(L.length:Int))=false:=zr;have et:L.take k=L:=uc zo;have hat:=Gs (n:=n) (L:=L) (by have:=A.o.2.1;rwa [et] at this);rw [hr.o] at hat;have HR:=Lib.hid hat;clear et hat;go_wp2;go_ret2;exact ⟨by cases HR.o;rfl,A.o.2.2⟩
end
section
open Go.RowKit Go.Lib Go.Sort
theorem PutOk.step {base:Nat} (h:PutOk base w p v M w') (hT:LineAt base w p v L) (hB:Below w0.heap.size w0 w) (hp:w0.heap.size<=p):
  ∃v',LineAt base w' p v' M/\Below w0.heap.size w0 w'/\Keeps (fun k=>k=p\/base<=k) w w':=by
 obtain ⟨v',h1,h2,-⟩:=h;have hlow:=hT.low;have hk:Keeps (fun k=>k=p\/base<=k) w w':=h2.mono (fun k _ e=>e.imp id (fun e=>(hT.ne k e.symm).2.2));exact ⟨v',h1,hB.trans (hk.below hB.size (by rintro k (rfl | e)<;>omega)),hk⟩
end
section
open Go.RowKit Go.Lib Go.Sort
open scoped Classical
def ActOk (base:Nat) (w:World) (p:Nat) (v:Value) (M:List Ltr) (w':World):Prop:=
 ∃v',LineAt base w' p v' M/\Keeps (fun k=>k=p\/some k=v.ownBlock) w w'/\(v'.ownBlock=v.ownBlock\/∀g,v'.ownBlock=some g->w.heap.size<=g)
theorem ActOk.of_below {base:Nat} (h:LineAt base w p v L) (hb:Below w.heap.size w w'):ActOk base w p v L w':=
 ⟨v,h.later hb,(aW hb).mono (fun k hk e=>zo),.inl rfl⟩
theorem ActOk.of_put {base:Nat} (h:PutOk base w p v M w'):ActOk base w p v M w':=by
 obtain ⟨v',h1,h2,h3⟩:=h;exact ⟨v',h1,h2,h3⟩
def pv (id behind:Int) (L:List Ltr):Nat:=
 if 4<=id/\id<4294967300/\0<=behind/\behind<id then (if id∈L.map (·.1) then 7 else if behind=0\/behind∈L.map (·.1) then 0 else 6) else 3
def LB (id behind:Int) (c:Nat) (L:List Ltr):List Ltr:=if pv id behind L=0 then put behind (id,c,false) L else L
def Lh (ad:Nat->Addr) (c:Nat):Value:=if c=0 then .nilIface else .iface 399 (.pointer (some (ad (c - 1))))
theorem CZ (w:World) (base p:Nat) (v:Value) (L:List Ltr) (id behind:Int) (c:Nat) (hE:Ln4 ad w) (hT:LineAt base w p v L) (hbase:base<=w.heap.size) (hL:L.length<=900) (hi: -9223372036854775808<=id/\id<=9223372036854775807) (hc:c<256):
  Calls prog 126 #[.pointer (some ⟨p,0,none⟩),.int .i64 id,.int .i64 behind,.int .u8 (c:Int)] w fun e w'=>e= .returned (Lh ad (pv id behind L))/\ActOk base w p v (LB id behind c L) w':=by
 unfold LB pv;by_cases h1:4<=id/\id<4294967300/\0<=behind/\behind<id
 ·rw [if_pos h1];by_cases h2:id∈L.map (·.1)
  ·rw [if_pos h2,if_neg zo];refine (rA w base p v L id behind c hE hT zo h1 h2).mono ?_;exact kj7
  rw [if_neg h2];by_cases h3:behind=0\/behind∈L.map (·.1)
  ·rw [if_pos h3,if_pos rfl];refine (EL w base p v L id behind c hT hbase hL h1 hc h2 h3).mono ?_;rintro e w' ⟨rfl,hp⟩;exact ⟨rfl,ActOk.of_put hp⟩
  rw [if_neg h3,if_neg zo];refine (sj w base p v L id behind c hE hT zo h1 h2 (fun e=>h3 (.inl e)) (fun e=>h3 (.inr e))).mono ?_;exact kj7
 rw [if_neg h1,if_neg zo];refine (rC w p id behind c hE hi h1).mono ?_;exact kj7
def wz (id:Int) (L:List Ltr):Nat:=match cZ id L with
 | none=>6
 | some _=>0
def If (id:Int) (L:List Ltr):List Ltr:=match cZ id L with
 | none=>L
 | some i=>L.set i (id,0,true)
theorem BS (w:World) (base p:Nat) (v:Value) (L:List Ltr) (id:Int) (hE:Ln4 ad w) (hT:LineAt base w p v L) (hL:L.length<=1000):
  Calls prog 127 #[.pointer (some ⟨p,0,none⟩),.int .i64 id] w fun e w'=>e= .returned (Lh ad (wz id L))/\ActOk base w p v (If id L) w':=by
 unfold wz If
 cases hf:cZ id L with
 | none=>
  refine (sE w base p v L id hE hT hL (fun hm=> ?_)).mono ?_
  ·obtain ⟨l,hl,e⟩:=ut.1 hm;exact fd hf l hl e
  exact kj7
 | some i=>
  refine (DR w base p i v L id hT hL hf).mono ?_;rintro e w' ⟨rfl,h1,h2⟩;exact ⟨rfl,v,h1,h2.mono (fun k _ e=>.inr e),.inl rfl⟩
theorem ActOk.step {base:Nat} (h:ActOk base w p v M w') (hT:LineAt base w p v L) (hB:Below w0.heap.size w0 w) (hp:w0.heap.size<=p):
  ∃v',LineAt base w' p v' M/\Below w0.heap.size w0 w'/\Keeps (fun k=>k=p\/some k=v.ownBlock) w w'/\(v'.ownBlock=v.ownBlock\/∀g,v'.ownBlock=some g->w.heap.size<=g):=by
 obtain ⟨v',h1,h2,h3⟩:=h;have hlow:=hT.low;refine ⟨v',h1,hB.trans (h2.below hB.size ?_),h2,h3⟩;rintro k (rfl | e)
 ·exact hp
 have:=(hT.ne k e.symm).2.2;omega
end
section
open Go.RowKit Go.Maps
def iK (x:OpX):Nat:=if an x=0 then (if x.2.2.2.1=115 then 0 else 5) else an x
def FR (f:cA) (x:OpX):Bool:=if an x=0/\x.2.2.2.1=115 then fC f (Iu x) (oW x) else false
def Fy (w:World) (bc bm n:Nat) (f:cA) (x:OpX) (w':World):Prop:=CellsAt w' bc bm (n+1) (kC f x)/\Keeps (fun j=>j=bm) w w'
theorem mg {bm n:Nat} {f:cA} {x:OpX} (h:CellsAt w bc bm n f) (hx:¬(an x=0/\x.2.2.2.1=115)) (hb:Below w.heap.size w w'):Fy w bc bm n f x w':=by
 have:kC f x=f:=by unfold kC;rw [if_neg hx]
 exact ⟨by rw [this];exact (h.later hb).mono (Nat.le_succ n),(aW hb).mono (fun k hk e=>zo)⟩
theorem Kh {t:Int} {node other:Int} {name value:ByteArray} (h:opE t b n k node other name.data.toList value.data.toList=0) (hs:name.size<=1000000):WfK (node,name):=by
 obtain ⟨h1,h2,h3,h4,h5,h6,h7,h8,h9,_⟩:=aq h;exact KK yc yc hs
theorem Ai (w:World) (bc:Nat) (t b n:Int) (k:Nat) (node other:Int) (name value:ByteArray) (hE:Op4 ad w) (hsn:name.size<=1000000) (hsv:value.size<=1000000) (hop:opE t b n k node other name.data.toList value.data.toList≠0):
  Calls prog 128 #[.pointer (some ⟨bc,0,none⟩),.agg #[.int .i64 t,.int .i64 b,.int .i64 n,.int .u8 (k:Int),.int .i64 node,.int .i64 other,.string name,.string value]] w fun e w'=>e= .returned (.tuple #[.bool false,eV ad (opE t b n k node other name.data.toList value.data.toList)])/\Below w.heap.size w w':=by
 obtain ⟨w1,hw1⟩:=zc (w.alloc (.cells #[.int .i64 t,.int .i64 b,.int .i64 n,.int .u8 (k:Int),.int .i64 node,.int .i64 other,.string name,.string value] 38));have B1:Below w.heap.size w w1:=xw;have hck:=cN t b n k node other name value w1 (hE.later B1) hsn hsv
 obtain ⟨er,her⟩:∃er,Aside (opE t b n k node other name.data.toList value.data.toList=er):=⟨_,rfl⟩
 rw [her.o] at hck hop |-
 unfold eV at hck |-
 rw [if_neg hop] at hck |-
 have H1:Aside (Below w.heap.size w w1):=B1;clear B1 hE hop;go_enter func128,ntmps128;go_wp2_with fail;rw [<-hw1];clear hw1;refine hck.mono ?_;clear hck;rintro e w2 ⟨rfl,hb2⟩;have H2:Aside (Below w.heap.size w w2):=zj H1.o hb2;clear hb2 H1;go_wp2;go_ret2;exact ⟨rfl,H2.o⟩
theorem EJ (w:World) (bc:Nat) (t b n:Int) (k:Nat) (node other:Int) (name value:ByteArray) (hE:Op4 ad w) (hsn:name.size<=1000000) (hsv:value.size<=1000000) (hop:opE t b n k node other name.data.toList value.data.toList=0) (hk:k≠115):
  Calls prog 128 #[.pointer (some ⟨bc,0,none⟩),.agg #[.int .i64 t,.int .i64 b,.int .i64 n,.int .u8 (k:Int),.int .i64 node,.int .i64 other,.string name,.string value]] w fun e w'=>e= .returned (.tuple #[.bool false,eV ad 5])/\Below w.heap.size w w':=by
 obtain ⟨w1,hw1⟩:=zc (w.alloc (.cells #[.int .i64 t,.int .i64 b,.int .i64 n,.int .u8 (k:Int),.int .i64 node,.int .i64 other,.string name,.string value] 38));have O1:OpAt w1 w.heap.size t b n k node other name value:=xM;have B1:Below w.heap.size w w1:=xw;have hck:=cN t b n k node other name value w1 (hE.later B1) hsn hsv;rw [hop] at hck;have e0:eV ad 0= .nilIface:=rfl;rw [e0] at hck;have e5:eV ad 5= .iface 399 (.pointer (some (ad 4))):=rfl;rw [e5]
 have H1:Aside (OpAt w1 w.heap.size t b n k node other name value/\Op4 ad w1/\Below w.heap.size w w1):=⟨O1,hE.later B1,B1⟩
 have dk:((k:Int) !=115)=true:=zr;clear B1 hE hop O1 e0 e5;go_enter func128,ntmps128;go_wp2_with fail;rw [<-hw1];clear hw1;refine hck.mono ?_;clear hck;rintro e w2 ⟨rfl,hb2⟩;have c3:=(H1.o.1.later hb2).c3;have g4:=(H1.o.2.1.later hb2).c4;have H2:Aside (Below w.heap.size w w2):=zj H1.o.2.2 hb2;clear hb2 H1;go_wp2_with fail;go_quiet (fail);go_wp2;go_ret2;exact ⟨rfl,⟨H2.o.os,H2.o.tape,H2.o.output,H2.o.size,H2.o.block⟩⟩
theorem JI (w:World) (bc bm m:Nat) (f:cA) (t b n node other:Int) (name value:ByteArray) (hE:Op4 ad w) (hC:CellsAt w bc bm m f) (hm:m<=1000000) (hsn:name.size<=1000000) (hsv:value.size<=1000000) (hop:opE t b n 115 node other name.data.toList value.data.toList=0):
  Calls prog 128 #[.pointer (some ⟨bc,0,none⟩),.agg #[.int .i64 t,.int .i64 b,.int .i64 n,.int .u8 (115:Int),.int .i64 node,.int .i64 other,.string name,.string value]] w fun e w'=>e= .returned (.tuple #[.bool (fC f (node,name) (value,(t,b))),.nilIface])/\nR w bc bm m f ((node,name),(value,(t,b))) w':=by
 obtain ⟨w1,hw1⟩:=zc (w.alloc (.cells #[.int .i64 t,.int .i64 b,.int .i64 n,.int .u8 (115:Int),.int .i64 node,.int .i64 other,.string name,.string value] 38))
 have O1:OpAt w1 w.heap.size t b n 115 node other name value:=by rw [hw1];exact OpAt.new w t b n 115 node other name value 38
 have B1:Below w.heap.size w w1:=xw;have hck:=cN t b n 115 node other name value w1 (hE.later B1) hsn hsv;have hwf:=Kh hop hsn;rw [hop] at hck;have e0:eV ad 0= .nilIface:=rfl;rw [e0] at hck
 have H1:Aside (OpAt w1 w.heap.size t b n 115 node other name value/\CellsAt w1 bc bm m f/\Below w.heap.size w w1/\WfK (node,name)):=⟨O1,hC.later B1,B1,hwf⟩
 clear B1 hE hop O1 e0 hC hwf;go_enter func128,ntmps128;go_wp2_with fail;rw [<-hw1];clear hw1;refine hck.mono ?_;clear hck;rintro e w2 ⟨rfl,hb2⟩;obtain ⟨c0,c1,c2,c3,c4,c5,c6,c7⟩:=H1.o.1.later hb2;have hput:=Ib w2 bc bm m f node name value t b (H1.o.2.1.later hb2) hm H1.o.2.2.2;have H2:Aside (Below w.heap.size w w2):=zj H1.o.2.2.1 hb2;clear hb2 H1;go_wp2_with fail;refine hput.mono ?_;clear hput;rintro e w3 ⟨rfl,hP⟩
 have HP:Aside (nR w bc bm m f ((node,name),(value,(t,b))) w3):=⟨hP.1,(aW H2.o).mono (fun k hk e=>zo) |>.then hP.2 (fun i hi e=>e)⟩
 clear hP H2;go_wp2;go_ret2;exact ⟨rfl,HP.o⟩
theorem Gr (w:World) (bc bm m:Nat) (f:cA) (t b n:Int) (k:Nat) (node other:Int) (name value:ByteArray) (hE:Op4 ad w) (hC:CellsAt w bc bm m f) (hm:m<=1000000) (hsn:name.size<=1000000) (hsv:value.size<=1000000):
  Calls prog 128 #[.pointer (some ⟨bc,0,none⟩),.agg #[.int .i64 t,.int .i64 b,.int .i64 n,.int .u8 (k:Int),.int .i64 node,.int .i64 other,.string name,.string value]] w fun e w'=>e= .returned (.tuple #[.bool (FR f (t,b,n,k,node,other,name,value)),eV ad (iK (t,b,n,k,node,other,name,value))])/\Fy w bc bm m f (t,b,n,k,node,other,name,value) w':=by
 by_cases h0:opE t b n k node other name.data.toList value.data.toList=0
 ·by_cases hk:k=115
  ·subst hk
   have hx:an (t,b,n,115,node,other,name,value)=0/\(115:Nat)=115:=⟨h0,rfl⟩
   have e1:FR f (t,b,n,115,node,other,name,value)=fC f (node,name) (value,(t,b)):=by unfold FR;rw [if_pos hx];rfl
   have e2:iK (t,b,n,115,node,other,name,value)=0:=by unfold iK;rw [if_pos (show an (t,b,n,115,node,other,name,value)=0 from h0)];rfl
   have e3:kC f (t,b,n,115,node,other,name,value)=lC f ((node,name),(value,(t,b))):=by unfold kC;rw [if_pos hx];rfl
   rw [e1,e2];refine (JI w bc bm m f t b n node other name value hE hC hm hsn hsv h0).mono ?_;rintro e w' ⟨rfl,hP⟩;exact ⟨rfl,by rw [e3];exact hP.1,hP.2⟩
  have hx:¬(an (t,b,n,k,node,other,name,value)=0/\k=115):=fun h=>hk h.2
  have e1:FR f (t,b,n,k,node,other,name,value)=false:=by unfold FR;rw [if_neg hx]
  have e2:iK (t,b,n,k,node,other,name,value)=5:=by unfold iK;rw [if_pos (show an (t,b,n,k,node,other,name,value)=0 from h0)];exact if_neg hk
  rw [e1,e2];refine (EJ w bc t b n k node other name value hE hsn hsv h0 hk).mono ?_;rintro e w' ⟨rfl,hb⟩;exact ⟨rfl,mg hC hx hb⟩
 have hx:¬(an (t,b,n,k,node,other,name,value)=0/\k=115):=fun h=>h0 h.1
 have e1:FR f (t,b,n,k,node,other,name,value)=false:=by unfold FR;rw [if_neg hx]
 have e2:iK (t,b,n,k,node,other,name,value)=opE t b n k node other name.data.toList value.data.toList:=by unfold iK;rw [if_neg (show ¬an (t,b,n,k,node,other,name,value)=0 from h0)];rfl
 rw [e1,e2];refine (Ai w bc t b n k node other name value hE hsn hsv h0).mono ?_;rintro e w' ⟨rfl,hb⟩;exact ⟨rfl,mg hC hx hb⟩
end
section
open Go.RowKit
open scoped Classical
theorem DE (h:kdO o≠109):ai (o::A)=ai A:=by
 unfold ai;exact List.filterMap_cons_none (if_neg h)
theorem Ea (h:kdO o=109):ai (o::A)=((o.1,o.2.1),(aL o,aJ o,o.2.2.2.2.2.2.1))::ai A:=by
 unfold ai;exact List.filterMap_cons_some (if_pos h)
theorem TreeC.skip {c:Nat->Nat} {bt:Nat} (h:TreeC w c bt A) (ho:kdO o≠109):TreeC w c bt (o::A):=by
 obtain ⟨bm,v,ms,h1,h2,h3⟩:=h;exact ⟨bm,v,ms,h1,by rw [DE ho];exact h2,h3⟩
theorem wN (h:StepOk A o) {ms:List Mov} (hp:ms.Perm (ai A)):∀m∈ms,m.1≠(o.1,o.2.1):=fun m hm e=>by
 obtain ⟨x,hx,q⟩:=Zv.1 (hp.mem_iff.1 hm);unfold Gg at q;split at q
 ·cases q
  exact h.new x hx e
 cases q
theorem CellC.skip {c:Nat->Nat} (h:CellC w c bc A) (ho:kdO o≠115):CellC w c bc (o::A):=by
 obtain ⟨cm,A',h1,h2,h3⟩:=h;refine ⟨cm,A'++ [o],?_,(Zw).trans (h2.cons o),h3⟩;rw [ib];unfold kC;rw [if_neg (fun q=>ho q.2)];exact h1.mono zv
theorem CellC.set {c:Nat->Nat} {A':List OpX} {cm:Nat} (h2:A'.Perm A) (h3:c bc=4/\c cm=4) (h:Fy w bc cm A.length (dh A') o w'):CellC w' c bc (o::A):=
 ⟨cm,A'++ [o],by rw [ib];exact h.1,(Zw).trans (h2.cons o),h3⟩
theorem TextC.skip {w:World} {c:Nat->Nat} {bx:Nat} {A:List OpX} (h:TextC w c bx A) {o:OpX} (ho:kdO o≠105/\kdO o≠100) (hn:¬(kdO o=109/\aL o=idO o)):TextC w c bx (o::A):=by
 obtain ⟨n,tx,h1,h2,h3,h4,h5⟩:=h;refine ⟨n,tx,zr,h2,h3,fun nd=>(h4 nd).trans ?_,fun nd p hp=> ?_⟩
 ·rw [gJ];exact ⟨.inl,fun q=>q.elim id (fun q=>absurd ⟨q.1,q.2.1.trans q.2.2.symm⟩ hn)⟩
 obtain ⟨v,L,k1,k2,k3⟩:=h5 nd p hp;exact ⟨v,L,k1,k2.skip (fun q=>q.2.elim ho.1 ho.2),k3⟩
theorem ep (hA:∀x∈A,an x=0) {nd:Int} (h:KnownN A nd):4<=nd:=by
 obtain ⟨x,hx,_,_,e⟩:=h;have:=Ca (hA x hx);omega
theorem Ip (ha:0<=a) (hb:0<=b) (h:cR a=cR b):a=b:=by unfold cR at h;omega
theorem TextC.line {w w':World} {c c':Nat->Nat} {bx:Nat} {A:List OpX} (hA:∀x∈A,an x=0) (h:TextC w c bx A) {o:OpX} (ho:kdO o=105\/kdO o=100) (hn:KnownN A (aL o)) (hk:mt c 3 w c' w') (hl:∀nd,nd≠aL o->0<=nd->mt c (cR nd) w c' w')
  (hline:∀p,LineC w c p (aL o) A->LineC w' c' p (aL o) (o::A)):TextC w' c' bx (o::A):=by
 obtain ⟨n,tx,h1,h2,h3,h4,h5⟩:=h;refine ⟨n,tx,zr,h2.same (hk.block _ h2.lt h3),(hk.hue _ h2.lt).trans h3,fun nd=>(h4 nd).trans ?_,fun nd p hp=> ?_⟩
 ·rw [gJ];exact ⟨.inl,fun q=>q.elim id (fun q=>by rw [q.1] at ho;rcases ho with k | k<;>exact absurd k zu)⟩
 by_cases e:nd=aL o
 ·subst e;exact hline p (h5 _ p hp)
 obtain ⟨v,L,k1,k2,k3⟩:=(h5 nd p hp).kept (hl nd e (by have:=ep hA ((h4 nd).1 xN);omega));exact ⟨v,L,k1,k2.skip (fun q=>e q.1.symm),k3⟩
end
section
open Go.RowKit
structure But (pb:Nat) (w w':World):Prop where
 os:w'.os=w.os
 tape:w'.tape=w.tape
 output:w'.output=w.output
 size:w.heap.size<=w'.heap.size
 block:∀k,k<w.heap.size->k≠pb->w'.heap[k]? =w.heap[k]?
theorem But.of_below (h:Below w.heap.size w w'):But pb w w':=⟨h.os,h.tape,h.output,h.size,fun k hk _=>h.block k hk⟩
theorem But.below (h:But pb w w') (hp:pb<w.heap.size):Below pb w w':=⟨h.os,h.tape,h.output,h.size,fun k hk=>h.block k zo zo⟩
theorem But.later (h:But pb w w1) (hb:Below w1.heap.size w1 w'):But pb w w':=
 ⟨hb.os.trans h.os,hb.tape.trans h.tape,hb.output.trans h.output,uf h.size hb.size,fun k hk hn=>(hb.block k (um hk h.size)).trans (h.block k hk hn)⟩
theorem But.setCell {pb o:Nat} {w w1:World} (h:But pb w w1) (v:Value):But pb w (w1.setCell ⟨pb,o,none⟩ v):=by
 have hb:Below 0 w1 (w1.setCell ⟨pb,o,none⟩ v):=(vP 0 w1).setCell (vV _) v;exact ⟨hb.os.trans h.os,hb.tape.trans h.tape,hb.output.trans h.output,uf h.size hb.size,fun k hk hn=>(Below.heap_setCell w1 ⟨pb,o,none⟩ v k hn).trans (h.block k hk hn)⟩
theorem KI (b:Int) (w:World) (h3:0<=b) (h4:b<4):
  Calls prog 45 #[.int .i64 b] w fun e w'=>e= .returned (.tuple #[.pointer (some ⟨w.heap.size,0,none⟩),.nilIface])/\w'=w.alloc (.cells #[.int .i64 0,.int .i64 b] 61):=by
 go_enter func45,ntmps45;go_wp2;go_ret2;exact km8
theorem Ku (b:Int) (w:World) (eb:Value) (hg:w.cell? ⟨2,0,none⟩=some eb) (h:b<0\/4<=b):
  Calls prog 45 #[.int .i64 b] w fun e w'=>e= .returned (.tuple #[.pointer none,eb])/\Below w.heap.size w w':=by
 rcases h with h | h
 ·exact km1
 have d4:decide (b<4)=false:=zr;exact km1
theorem FL (pb:Nat) (T:Int) (w:World) (hT:w.cell? ⟨pb,0,none⟩=some (.int .i64 T)):
  Calls prog 81 #[.pointer (some ⟨pb,0,none⟩)] w fun e w'=>e= .returned (.int .i64 T)/\w'=w:=by
 go_enter func81,ntmps81;exact kb4
structure Clk (pb:Nat) (T b:Int) (w:World):Prop where
 t:w.cell? ⟨pb,0,none⟩=some (.int .i64 T)
 b:w.cell? ⟨pb,1,none⟩=some (.int .i64 b)
 f:w.frozen? ⟨pb,0,none⟩=false
theorem Clk.lt (h:Clk pb T b w):pb<w.heap.size:=vR w ⟨pb,0,none⟩ h.t
theorem Clk.later (h:Clk pb T b w) (hb:Below w.heap.size w w'):Clk pb T b w':=
 ⟨cell_later hb h.t,cell_later hb h.b,(hb.frozen (p:=⟨pb,0,none⟩) h.lt).trans h.f⟩
theorem Clk.set (h:Clk pb T b w) (T':Int):Clk pb T' b (w.setCell ⟨pb,0,none⟩ (.int .i64 T')):=
 ⟨World.cell?_setCell_same _ _ _ h.t,(World.cell?_setCell_other _ _ _ _ zv).trans h.b,by rw [World.frozen?_setCell];exact h.f⟩
theorem Ev (pb:Nat) (T c:Int) (w:World) (eb:Value) (hg:w.cell? ⟨1,0,none⟩=some eb) (hC:Clk pb T c w) (hT:1073741824<=T):
  Calls prog 216 #[.pointer (some ⟨pb,0,none⟩)] w fun e w'=>e= .returned (.tuple #[.agg #[.int .i64 0,.int .i64 0],eb])/\Below w.heap.size w w':=by
 obtain ⟨k0,k1,kf⟩:=hC;have hz:1<w.heap.size:=vR w ⟨1,0,none⟩ hg;have hp:pb<w.heap.size:=vR w ⟨pb,0,none⟩ k0;go_enter func216,ntmps216;go_wp2;go_region
 all_goals try go_wp2
 exact bodyPost_ret (v:=.tuple #[.agg #[.int .i64 0,.int .i64 0],eb]) jY rfl ⟨rfl,(zh _ _).drew⟩
theorem JO (pb:Nat) (T c:Int) (w:World) (hC:Clk pb T c w) (h0:0<=T) (hT:T<1073741824):
  Calls prog 216 #[.pointer (some ⟨pb,0,none⟩)] w fun e w'=>e= .returned (.tuple #[.agg #[.int .i64 (T+1),.int .i64 c],.nilIface])/\But pb w w'/\Clk pb (T+1) c w':=by
 obtain ⟨k0,k1,kf⟩:=hC;have hp:pb<w.heap.size:=vR w ⟨pb,0,none⟩ k0;go_enter func216,ntmps216;go_wp2
 exact bodyPost_ret (v:=.tuple #[.agg #[.int .i64 (T+1),.int .i64 c],.nilIface]) jY rfl
  ⟨rfl,((But.of_below (vP _ _)).setCell _).later (zh _ _),(Clk.set (T:=T) ⟨k0,k1,kf⟩ (T+1)).later (zh _ _)⟩
end
section
open Go.RowKit
def Eo (pb:Nat) (T t:Int) (w w':World):Prop:=(T<t/\∃W,Below w.heap.size w W/\w'.heap=(W.setCell ⟨pb,0,none⟩ (.int .i64 t)).heap/\Keeps (fun k=>k=pb) W w')\/(¬T<t/\Below w.heap.size w w')
theorem Ix (pb:Nat) (T c t b:Int) (w:World) (hC:Clk pb T c w) (h1:1<=t) (h2:t<=1073741824) (h3:0<=b) (h4:b<4):
  Calls prog 186 #[.pointer (some ⟨pb,0,none⟩),.agg #[.int .i64 t,.int .i64 b]] w fun e w'=>e= .returned .nilIface/\Eo pb T t w w':=by
 have C0:=hC.later ((vP _ _).alloc zg (.cells #[.int .i64 t,.int .i64 b] 36));have hlt:=hC.lt;clear hC;by_cases hgt:T<t
 ·have HT:Aside (T<t):=hgt;go_enter func186,ntmps186;go_wp2_with fail;refine (kg t b _ h1 h2 h3 h4).mono ?_;rintro e w1 ⟨rfl,hb⟩;have s0:w1.cell? ⟨w.heap.size,0,none⟩=some (.int .i64 t):=cell_later hb qi;have B1:Below w.heap.size w w1:=(zh _ _).trans (hb.mono zv);have C1:=C0.later hb;obtain ⟨k0,k1,kf⟩:=C1;clear C0 hb;go_wp2;go_quiet (fail);go_wp2;go_ret;exact ⟨rfl,.inl ⟨HT.o,_,below_drewN B1 _,rfl,aZ pb [_] 0 _⟩⟩
 have HT:Aside (¬T<t):=hgt;go_enter func186,ntmps186;go_wp2_with fail;refine (kg t b _ h1 h2 h3 h4).mono ?_;rintro e w1 ⟨rfl,hb⟩;have s0:w1.cell? ⟨w.heap.size,0,none⟩=some (.int .i64 t):=cell_later hb qi;have B1:Below w.heap.size w w1:=(zh _ _).trans (hb.mono zv);have C1:=C0.later hb;obtain ⟨k0,k1,kf⟩:=C1;clear C0 hb;go_wp2;go_quiet (fail);go_wp2;go_ret;exact ⟨rfl,.inr ⟨by have:=HT.o;omega,below_drewN B1 _⟩⟩
theorem Cx (pb:Nat) (T c t b:Int) (w:World) (hC:Clk pb T c w) (h1:1<=t) (h2:t<=1073741824) (h3:0<=b) (h4:b<4):
  Calls prog 122 #[.pointer (some ⟨pb,0,none⟩),.agg #[.int .i64 t,.int .i64 b]] w fun e w'=>(∃u,e= .returned u)/\∃W,Below w.heap.size w W/\Eo pb T t W w':=by
 obtain ⟨S,hS⟩:=zc w.heap.size;obtain ⟨U,hU⟩:=zc (w.alloc (.cells #[.int .i64 t,.int .i64 b] 36));have hb:Below w.heap.size w U:=zW
 have hs:U.heap[S]? =some (.cells #[.int .i64 t,.int .i64 b] 36 (0,0)):=by rw [hU,hS];exact heap_alloc_new w _
 have s0:U.cell? ⟨S,0,none⟩=some (.int .i64 t):=by simp [World.cell?,hs]
 have s1:U.cell? ⟨S,1,none⟩=some (.int .i64 b):=by simp [World.cell?,hs]
 have hcall:∀W,Below U.heap.size U W->Calls prog 186 #[.pointer (some ⟨pb,0,none⟩),.agg #[.int .i64 t,.int .i64 b]] W fun e w'=>e= .returned .nilIface/\Eo pb T t W w':=fun W hW=>Ix pb T c t b W ((hC.later hb).later hW) h1 h2 h3 h4
 have HB:Aside (Below w.heap.size w U):=hb;clear hb hs hC;go_enter func122,ntmps122;go_wp2_with fail;rw [<-hU,<-hS];clear hU hS;refine bs (S:=(fun w'=>Below U.heap.size U w')) (z:=4) zq (vP _ U).drew (fun hHeld=> ?_);refine aX (i:=0) (v:= ?va0) zu rfl zq zq zq (fun _ _ _ h=>h) (Or.inl ⟨zA,?hy0⟩) hHeld ?rest0
 case hy0=>(intro w' _;go_simp;try with_reducible rfl)
 refine qn ?_;refine aX (i:=1) (v:= ?va1) zu rfl zq zq zq (fun _ _ _ h=>h) (Or.inl ⟨zA,?hy1⟩) hHeld ?rest1
 case hy1=>(intro w' _;go_simp;try with_reducible rfl)
 refine qn ?_;refine aX (i:=2) (v:= ?va2) zu rfl zq zq zq (fun _ _ _ h=>h) (Or.inl ⟨zA,?hy2⟩) hHeld ?rest2
 case hy2=>(intro w' _;go_simp;try with_reducible rfl)
 refine qn ?_;refine aw (i:=3) (v:= ?va3) zu zq rfl zq zq zq zq (fun _ _ _ h=>h) (Or.inl ⟨zA,?hy3⟩) hHeld ?rest3
 case hy3=>(intro w' hSw;have j0:=cell_later hSw s0;have j1:=cell_later hSw s1;go_simp;try with_reducible rfl)
 refine qn ?_;refine aF (i:=4) zq rfl (fun K hK=> ?_);go_simp;refine (hcall U.drew (vP _ U).drew).mono ?_;clear hcall;rintro e w' ⟨rfl,hh⟩;have HH:Aside (Eo pb T t U.drew w'):=hh;clear hh;refine hK _ _ (.inr ⟨rfl,zu⟩) ?_;clear hK K;refine bu zq ?_ _;go_wp2;go_end0;exact ⟨⟨_,rfl⟩,U.drew,HB.o.drew,HH.o⟩
end
section
open Go.RowKit
def Cyc (ad:Nat->Addr):Prop:=ad 100=⟨1,0,none⟩
structure EnvE (B:Nat) (ad:Nat->Addr) (w:World):Prop where
 op4:Op4 ad w
 c5:w.cell? ⟨0,0,none⟩=some (.iface 399 (.pointer (some (ad 5))))
 c6:w.cell? ⟨7,0,none⟩=some (.iface 399 (.pointer (some (ad 6))))
 c7:w.cell? ⟨1,0,none⟩=some (.iface 399 (.pointer (some (ad 7))))
 c8:w.cell? ⟨8,0,none⟩=some (.iface 399 (.pointer (some (ad 8))))
 c9:Cyc ad->w.cell? ⟨9,0,none⟩=some (.iface 399 (.pointer (some (ad 9))))
 low:13<=B
 size:B<=w.heap.size
theorem EnvE.mono (h:EnvE B ad w) (hb:Below B w w'):EnvE B ad w':=by
 have hl:=h.low
 have k:∀g v,g<B->w.cell? ⟨g,0,none⟩=some v->w'.cell? ⟨g,0,none⟩=some v:=fun g v hg e=>(hb.cell (p:=⟨g,0,none⟩) hg).trans e
 exact ⟨⟨k _ _ zo h.op4.c1,k _ _ zo h.op4.c2,k _ _ zo h.op4.c3,k _ _ zo h.op4.c4⟩,k _ _ zo h.c5,k _ _ zo h.c6,k _ _ zo h.c7,k _ _ zo h.c8,fun q=>k _ _ zo (h.c9 q),hl,uf h.size hb.size⟩
theorem EnvE.later (h:EnvE B ad w) (hb:Below w.heap.size w w'):EnvE B ad w':=h.mono (hb.mono h.size)
