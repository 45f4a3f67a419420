import Derived.Test.YtehighgebbdenaaGreatDoorRa17
import Derived.Maps.OwnIn
set_option linter.unusedVariables false
set_option maxRecDepth 100000
set_option maxHeartbeats 64000000
namespace Go.Proofs.YtehighgebbdenaaGreatDoor
open Go.Proofs.Tryz
variable {xs:List Value} {b k n:Nat} {ad:Nat→Addr} {ao:Option Addr} {T e:TypeId} {v:Value} {w w':World}
section
open Go.RowKit Go.Lib Go.Sort
def EG (g:Nat) (lb:Array Value) (xs:List OpX) (p:OpX->Bool) (w:World):Prop:=
 ∀(W:World) (x:OpX),x∈xs->Below w.heap.size w W->Calls prog g (#[aD x]++lb) W fun e w'=>e= .returned (.bool (p x))/\Below w.heap.size w w'
def MW (p:OpX->Bool) (zs:List OpX) (r:Int):Prop:=
 (r= -1/\∀x∈zs,p x=false)\/∃k x,r=((k:Nat):Int)/\zs[k]? =some x/\p x=true/\∀j y,j<k->zs[j]? =some y->p y=false
theorem ia (p:OpX->Bool) (g:Nat) (lb:Array Value) (eg:∀args w,(callFunc g args).run prog w= .ok (.enter g args) w) (ao:Option Addr) (cap:Nat) (zs:List OpX) (w:World) (hp:EG g lb zs p w) (hbig:zs.length<=1000000) (hin:OpsIn w ao zs):
  Calls prog 152 #[.slice ao zs.length cap,.func (.func g) #[] lb] w fun e w'=>∃r:Int,e= .returned (.int .i64 r)/\Aside (MW p zs r/\Below w.heap.size w w'):=by
 have HP:Aside (EG g lb zs p w):=hp;have HI:Aside (OpsIn w ao zs):=hin;clear hp hin;go_enter func152,ntmps152;go_wp2;go_loopg [5,8] zs.length (fun kx _ s8 wr=>∃(k:Nat),s8= .int .i64 (k:Int)/\k<=zs.length/\zs.length - k<=kx/\Aside (Below w.heap.size w wr/\∀j l,j<k->zs[j]? =some l->p l=false))
 case atStart=>exact ⟨0,rfl,vV _,vM _,⟨vP _ w,fun j l hj=>zo⟩⟩
 case round=>
  obtain ⟨k,rfl,hk,hkx,A⟩:=hrel;by_cases hlt:k<zs.length
  ·have hltz:decide ((k:Int)<(zs.length:Int))=true:=by simp;omega
   have ek:((k:Int)).toNat=k:=zo;have pk:(0:Int)<=(k:Int):=zo;have bk:(k:Int)<(zs.length:Int):=zo
   obtain ⟨⟨t,b,n,kd,nd,o,s,v⟩,hl⟩:∃l,Aside (zs[k]? =some l):=⟨zs[k],vN hlt⟩
   obtain ⟨blk,off,hao,hc⟩:=(HI.o.later A.o.1).get hl.o;subst hao;have r0:=hc 0 _ rfl;have r1:=hc 1 _ rfl;have r2:=hc 2 _ rfl;have r3:=hc 3 _ rfl;have r4:=hc 4 _ rfl;have r5:=hc 5 _ rfl;have r6:=hc 6 _ rfl;have r7:=hc 7 _ rfl;simp only [Zg] at r0;clear hc;have hcall:=HP.o wr (t,b,n,kd,nd,o,s,v) (vQ hl.o) A.o.1;unfold aD at hcall;dsimp only at hcall
   cases hq:p (t,b,n,kd,nd,o,s,v) with
   | true=>
    exact kh9
   | false=>
    rw [hq] at hcall;have HQ:=Lib.hid hq;clear hq;go_wp2_with (go_at_fn g;refine hcall.mono ?_;rintro e w' ⟨rfl,hb'⟩);go_roundg (zs.length - (k+1))
    case measure=>omega
    case rel=>
     refine ⟨k+1,zD,zo,vM _,⟨hb',fun j l hj e=> ?_⟩⟩
     rcases uJ j k with h | h
     ·exact A.o.2 j l h e
     exact kq0
  exact kh3
theorem AJ (p:OpX->Bool) (g:Nat) (lb:Array Value) (eg:∀args w,(callFunc g args).run prog w= .ok (.enter g args) w) (ao:Option Addr) (cap:Nat) (zs:List OpX) (w:World) (hp:EG g lb zs p w) (hbig:zs.length<=1000000) (hin:OpsIn w ao zs):
  Calls prog 116 #[.slice ao zs.length cap,.func (.func g) #[] lb] w fun e w'=>e= .returned (.bool (zs.any p))/\Below w.heap.size w w':=by
 have hcall:=ia p g lb eg ao cap zs w hp hbig hin;clear hp hin eg;go_enter func116,ntmps116;go_wp2_with fail;refine hcall.mono ?_;clear hcall;rintro e w' ⟨r,rfl,H⟩
 rcases H.o.1 with ⟨hr,ha⟩ | ⟨k,x,hr,hx,hpx,_⟩
 ·have HA:Aside (zs.any p=false):=by
   show zs.any p=false
   rw [List.any_eq_false];intro x hx;rw [ha x hx];decide
  clear ha;subst hr;go_wp2;go_ret;exact ⟨by rw [HA.o];rfl,H.o.2⟩
 have HA:Aside (zs.any p=true):=ZQ.2 ⟨x,vQ hx,hpx⟩;have dr:decide (0<=r)=true:=zr;clear hx hpx hr;go_wp2;go_ret;exact ⟨by rw [HA.o];rfl,H.o.2⟩
theorem pX (w:World) (ao:Nat->Option Addr) (cap:Nat->Nat) (R:Rws) (fa:Option Addr) (fc:Nat) (fresh:List OpX) (hin:OpsIn w fa fresh) (hx:∀x∈fresh,x∈aR R) (z:Bool) (hz:z=true↔∀x∈fresh,RefOk (aR R) x) (hE:Op4 ad w) (hK:KnownAt w ao R) (hR:RowsN R) (hl:∀i,i<4->(R i).length<=1000) (hn:fresh.length<=1000):
  Calls prog 51 #[kV ao cap R,.slice fa fresh.length fc] w fun e w'=>e= .returned (.bool z)/\Below w.heap.size w w':=by
 obtain ⟨U,hU⟩:=zc (w.alloc (.cells #[.slice (ao 0) (R 0).length (cap 0),.slice (ao 1) (R 1).length (cap 1),.slice (ao 2) (R 2).length (cap 2),.slice (ao 3) (R 3).length (cap 3)] 65));have hb:Below w.heap.size w U:=zW
 have hk:KBox U w.heap.size ao cap R:=by rw [hU];exact KBox.new w ao cap R
 obtain ⟨p,hp⟩:∃p:OpX->Bool,∀x,p x=true↔¬RefOk (aR R) x:=by
  refine ⟨fun x=> @decide (¬RefOk (aR R) x) (Classical.propDecidable _),fun x=> ?_⟩;exact @decide_eq_true_iff _ (Classical.propDecidable _)
 have hpred:EG 117 #[.pointer (some ⟨w.heap.size,0,none⟩)] fresh p U:=by
  intro W x hxf hbW;have hkW:=hk.later hbW
  have hc:=DA (W.alloc (.cells #[.int .i64 x.1,.int .i64 x.2.1,.int .i64 x.2.2.1,.int .u8 (x.2.2.2.1:Int),.int .i64 x.2.2.2.2.1,.int .i64 x.2.2.2.2.2.1,.string x.2.2.2.2.2.2.1,.string x.2.2.2.2.2.2.2] 38)) ao cap R x (hx x hxf) (!(p x)) (by
   rw [Bool.not_eq_true']
   constructor
   ·intro q
    refine Classical.byContradiction (fun k=> ?_)
    rw [(hp x).2 k] at q
    cases q
   ·intro q
    cases hq:p x with
    | false=>rfl
    | true=>exact absurd q ((hp x).1 hq)) ((hE.later hb).later (hbW.alloc hbW.size _)) ((hK.later hb).later (hbW.alloc hbW.size _)) hR hl
  have k0:=hkW.at (i:=0) zo;have k1:=hkW.at (i:=1) zo;have k2:=hkW.at (i:=2) zo;have k3:=hkW.at (i:=3) zo;have hlt:=hkW.lt;have hsz:=hbW.size;have HB:Aside (Below U.heap.size U W):=hbW;clear hkW hbW hp;obtain ⟨t,b,n,kd,nd,o,s,v⟩:=x;unfold kV aD at hc;dsimp only at hc
  show Calls prog 117 #[aD (t,b,n,kd,nd,o,s,v),.pointer (some ⟨w.heap.size,0,none⟩)] W _
  unfold aD;dsimp only;go_enter func117,ntmps117;go_wp2_with fail;refine hc.mono ?_;clear hc;rintro e w1 ⟨rfl,hb1⟩;have B1:Aside (Below U.heap.size U w1):=(HB.o.alloc HB.o.size _).trans (hb1.mono (by simp;have:=HB.o.size;omega));clear hb1;go_wp2;go_ret;exact ⟨zv,B1.o⟩
 have hcall:=AJ p 117 #[.pointer (some ⟨w.heap.size,0,none⟩)] (enters_of func117 zq rfl) fa fc fresh U hpred zo (hin.later hb);have HB:Aside (Below w.heap.size w U):=hb
 have HZ:Aside (z= !(fresh.any p)):=by
  show z= !(fresh.any p)
  rw [Yi,hz,Bool.not_eq_true',List.any_eq_false];exact ⟨fun q x hxf hpx=>(hp x).1 hpx (q x hxf),fun q x hxf=>Classical.byContradiction (fun k=>q x hxf ((hp x).2 k))⟩
 clear hz hp hpred hb hk;unfold kV;go_enter func51,ntmps51;go_wp2_with fail;rw [<-hU];clear hU;refine hcall.mono ?_;clear hcall;rintro e w1 ⟨rfl,hb1⟩;have B1:Aside (Below w.heap.size w w1):=zj HB.o hb1;clear hb1;go_wp2;go_ret;exact ⟨by rw [HZ.o];rfl,B1.o⟩
theorem Lg (a0 a1 a2 a3:Value):(∀w,(Instr.index 65 (.agg #[a0,a1,a2,a3]) (.int .i64 0)).run prog w= .ok a0 w)/\(∀w,(Instr.index 65 (.agg #[a0,a1,a2,a3]) (.int .i64 1)).run prog w= .ok a1 w)/\(∀w,(Instr.index 65 (.agg #[a0,a1,a2,a3]) (.int .i64 2)).run prog w= .ok a2 w)/\∀w,(Instr.index 65 (.agg #[a0,a1,a2,a3]) (.int .i64 3)).run prog w= .ok a3 w:=
 ⟨fun _=>zq,fun _=>zq,fun _=>zq,fun _=>zq⟩
theorem mN (w:World) (ao:Nat->Option Addr) (cap:Nat->Nat) (R:Rws) (hl:∀i,i<4->(R i).length<=1000):
  Calls prog 52 #[kV ao cap R] w fun e w'=>e= .returned (.int .i64 ((aR R).length:Int))/\Below w.heap.size w w':=by
 have h0:=hl 0 zo;have h1:=hl 1 zo;have h2:=hl 2 zo;have h3:=hl 3 zo
 have HL:Aside (((aR R).length:Int)=(R 0).length+(R 1).length+(R 2).length+(R 3).length):=by
  show ((aR R).length:Int)=_
  unfold aR;simp;omega
 obtain ⟨x0,x1,x2,x3⟩:=Lg (.slice (ao 0) (R 0).length (cap 0)) (.slice (ao 1) (R 1).length (cap 1)) (.slice (ao 2) (R 2).length (cap 2)) (.slice (ao 3) (R 3).length (cap 3));unfold kV;go_enter func52,ntmps52;go_wp2;refine wp_loop_rounds 5 ?_
 iterate 5
  rw [rounds_succ];go_wp2
 go_ret;refine ⟨?_,zh w _⟩;rw [HL.o]
 first | rfl | (refine congrArg _ (congrArg _ ?_);omega)
theorem rn {fn:Func} {p:Tmp} {ty:TypeId} (h:fn.results= #[.cell p ty]) (tmps:Array Value) (P:Program) (w:World):
  (results fn tmps).run P w=((asAddr (tmps.getD p undef)).run P w).andThen fun a w1=>((loadVar ty a).run P w1):=by
 exact ko3
theorem sy (w:World) (ao:Nat->Option Addr) (cap:Nat->Nat) (R:Rws) (hl:∀i,i<4->(R i).length<=1000):
  Calls prog 80 #[kV ao cap R] w fun e w'=>e= .returned (.agg #[.int .i64 ((R 0).length:Int),.int .i64 ((R 1).length:Int),.int .i64 ((R 2).length:Int),.int .i64 ((R 3).length:Int)])/\Below w.heap.size w w':=by
 have h0:=hl 0 zo;have h1:=hl 1 zo;have h2:=hl 2 zo;have h3:=hl 3 zo;obtain ⟨x0,x1,x2,x3⟩:=Lg (.slice (ao 0) (R 0).length (cap 0)) (.slice (ao 1) (R 1).length (cap 1)) (.slice (ao 2) (R 2).length (cap 2)) (.slice (ao 3) (R 3).length (cap 3));unfold kV;go_enter func80,ntmps80;go_wp2;refine wp_loop_rounds 5 ?_
 iterate 5
  rw [rounds_succ];go_wp2
 (try simp only [Exit.inBlock,Exit.then]);refine bodyPost_ret (v:=.agg #[.int .i64 ((R 0).length:Int),.int .i64 ((R 1).length:Int),.int .i64 ((R 2).length:Int),.int .i64 ((R 3).length:Int)]) ?_ rfl ⟨rfl,?_⟩
 ·rw [rn rfl];go_simp
 exact ((zh w _).alloc zv _).alloc zr _
end
section
open Go Go.RowKit
theorem dO {o:Nat} (hb:Below w.heap.size w w') (h:w.cell? ⟨b,o,none⟩=some v):w'.cell? ⟨b,o,none⟩=some v:=by
 exact kh7
theorem dP {base:Nat} (h:w.ownsRow base e k v n xs) (hs:∀g,v.ownBlock=some g->w'.heap[g]? =w.heap[g]?):w'.ownsRow base e k v n xs:=by
 refine ⟨h.1,?_⟩
 rcases h.2 with h0 | ⟨g,cap,cur,rfl,h1,hg,h2⟩
 ·exact .inl h0
 exact ko6
theorem EC {base base':Nat} (h:w.ownsRow base e k v n xs) (hb:base'<=base):w.ownsRow base' e k v n xs:=by
 refine ⟨h.1,h.2.imp (fun e=>e) ?_⟩;exact kt2
theorem fD {base:Nat} (h:w.ownsRow base e k v n xs):∃ao cap,v= .slice ao n cap:=by
 rcases h.2 with ⟨h1,h2⟩ | ⟨g,cap,cur,rfl,_⟩
 ·subst h2;exact ⟨_,_,h1⟩
 exact ⟨_,_,rfl⟩
section
variable {α:Type} {enc:α→List Value} {k:Nat}
def InRow (enc:α->List Value) (w:World) (ao:Option Addr) (zs:List α):Prop:=zs= []\/∃blk off,ao=some ⟨blk,off,none⟩/\∀j u,(aA enc zs)[j]? =some u->w.cell? ⟨blk,off+j,none⟩=some u
theorem InRow.later {zs:List α} (h:InRow enc w ao zs) (hb:Below w.heap.size w w'):InRow enc w' ao zs:=by
 rcases h with h | ⟨g,o,h1,h2⟩
 ·exact .inl h
 exact .inr ⟨g,o,h1,fun j u hj=>dO hb (h2 j u hj)⟩
theorem InRow.kept {zs:List α} (h:InRow enc w ao zs) (hk:∀g o,ao=some ⟨g,o,none⟩->w'.heap[g]? =w.heap[g]?):InRow enc w' ao zs:=by
 rcases h with h | ⟨g,o,h1,h2⟩
 ·exact .inl h
 exact kn6
theorem InRow.part (hlen:∀x,(enc x).length=k) {zs:List α} (h:InRow enc w ao zs) (i:Nat) (hi:i<=zs.length):InRow enc w ao (zs.take i)/\InRow enc w (ao.map (fun x=>x.add (i*k))) (zs.drop i):=by
 rcases h with h | ⟨g,o,h1,h2⟩
 ·subst h;exact ⟨.inl zv,.inl zv⟩
 refine ⟨.inr ⟨g,o,h1,fun j u hj=>h2 j u ?_⟩,.inr ⟨g,o+i*k,by rw [h1];simp [Addr.add],fun j u hj=> ?_⟩⟩
 ·rw [<-iX hlen zs i hi,Zq] at hj;split at hj
  ·exact hj
  cases hj
 rw [<-dx hlen zs i hi,uV] at hj;rw [Zc];exact h2 _ u hj
theorem InRow.get (hlen:∀x,(enc x).length=k) {zs:List α} (h:InRow enc w ao zs) {i:Nat} {x:α} (hi:zs[i]? =some x):∃blk off,ao=some ⟨blk,off,none⟩/\∀c u,(enc x)[c]? =some u->w.cell? ⟨blk,off+i*k+c,none⟩=some u:=by
 rcases h with h | ⟨b,o,h1,h2⟩
 ·subst h;simp at hi
 refine ⟨b,o,h1,fun c u hc=> ?_⟩
 have hck:c<k:=by have:=(vL.1 hc).1;rwa [hlen] at this
 rw [Zc];exact h2 _ _ ((dM (enc:=enc) hlen hi hck).trans hc)
theorem tM (hlen:∀x,(enc x).length=k) {base:Nat} {cap:Nat} {L:List α} (h:w.ownsRow base T k (.slice ao L.length cap) L.length (aA enc L)):InRow enc w ao L:=by
 have h':=h
 rcases h.2 with ⟨h1,h2⟩ | ⟨g,cap',cur,hv,_⟩
 ·exact ks4
 cases hv
 refine .inr ⟨g,0,rfl,fun j u hj=> ?_⟩;have hl:j<(aA enc L).length:=(vL.1 hj).1;rw [bR hlen] at hl;exact kq4
theorem fZ {P:Program} {S:TypeId} {z:Value} {bytes:Nat} (hS:P.underlying S=some (.slice T)) (hinfo:(P.info? T).map (fun i=>(i.zero,i.size,i.bytes))=some (some z,k,bytes)) (hb1:bytes<=1000) (hk0:0<k) (hzc:z.cells.size=k)
  (hlen:∀x,(enc x).length=k) (hone:∀x,∀v∈enc x,v.oneCell'=true)
  {base:Nat} (ho:w.ownsRow base T k v n xs) (hn:n<=2000) (hbase:base<=w.heap.size) (ap:Option Addr) (c:Nat) (ys:List α) (hy:ys.length<=2000) (hap:InRow enc w ap ys) (hc:ap=none->c=0) (ty:TypeId):
  ∃v' w',(Builtin.append_ #[S,S] ty #[v,.slice ap ys.length c]).run P w= .ok v' w'/\w'.ownsRow base T k v' (n+ys.length) (xs++aA enc ys)/\w.grownBy w' v.ownBlock:=by
 obtain ⟨i0,hi,hz0,hz1,hz2⟩:=info_parts hinfo
 cases ap with
 | none=>
  have h0:ys= []:=by
   rcases hap with h | ⟨_,_,h,_⟩
   ·exact h
   cases h
  subst h0;rw [hc rfl];refine ⟨v,w,run_append_owned_none w base _ ty _ i0 k hS hi v n xs ho,by simpa [aA] using ho,⟨rfl,rfl,rfl,vM _,fun _ _ _=>rfl⟩⟩
 | some a=>
  have hl:(aA enc ys).length=ys.length*k:=bR hlen ys
  obtain ⟨v',w',h1,h2,h3,-⟩:=run_append_own (P:=P) w base S ty T i0 _ k bytes hS hi hz0 hz1 hz2 hzc zo v n xs ho a ys.length c (aA enc ys) hl (fun j u hj=>by
   rcases hap with h | ⟨b,o,h,hcell⟩
   ·subst h;simp [aA] at hj
   ·cases h
    rw [Addr.add_lit]
    exact hcell j u hj) (gO hone ys) zH (by have:=Nat.mul_le_mul (show n+ys.length<=4000 by omega) hb1;omega) hbase
  exact ⟨v',w',h1,h2,h3⟩
end
end
section
open Go.RowKit Go.Lib Go.Sort Go.Maps
def wZ (ad:Nat->Addr) (w:World) (v:Value) (i:Int) (c:Nat):Prop:=∃b,v= .iface 194 (.pointer (some ⟨b,0,none⟩))/\w.heap[b]? =some (.cells #[.int .i64 i,eV ad c] 198 (0,0))
def lr (ad:Nat->Addr) (w:World) (S l:List OpX) (e:Ending) (w':World):Prop:=(match bp S 0 [] l with
 | .inl (i,c)=>∃v,e= .returned (.tuple #[.slice none 0 0,v])/\wZ ad w' v (i:Int) c
 | .inr fresh=>∃v,e= .returned (.tuple #[v,.nilIface])/\w'.ownsRow w.heap.size 38 8 v fresh.length (cellsOf fresh))/\Below w.heap.size w w'
def oL (l:List OpX):Prop:=∀x∈l,x.2.2.2.2.2.2.1.size<=1000000/\x.2.2.2.2.2.2.2.size<=1000000
structure SiftSt (w:World) (S:Nat) (ao:Nat->Option Addr) (cap:Nat->Nat) (R:Rws) (l:List OpX) (k:Nat) (fresh:List OpX) (v:Value) (wr:World):Prop where
 below:Below w.heap.size w wr
 box:KBox wr S ao cap R
 map:NMapAt wr (S+1) k (fun q=>av fresh q.1 q.2)
 row:wr.ownsRow (S+2) 38 8 v fresh.length (cellsOf fresh)
 fk:FreshK (aR R) fresh
 is:bp (aR R) 0 [] l=bp (aR R) k fresh (l.drop k)
 len:fresh.length<=k
theorem NMapAt.mono {w:World} {b n n':Nat} {f:Bl} (h:NMapAt w b n f) (hn:n<=n'):NMapAt w b n' f:=by
 obtain ⟨D,h,r⟩:=h;exact ⟨D,h.mono hn,r⟩
theorem SiftSt.later {w:World} {S:Nat} {ao:Nat->Option Addr} {cap:Nat->Nat} {R:Rws} {l:List OpX} {k:Nat} {fresh:List OpX} {v:Value} {wr w':World} (h:SiftSt w S ao cap R l k fresh v wr) (hb:Below wr.heap.size wr w'):SiftSt w S ao cap R l k fresh v w':=
 ⟨zj h.below hb,h.box.later hb,h.map.same (hb.block _ h.map.lt),dP h.row (fun g hg=>hb.block g (h.row.lt g hg).2),h.fk,h.is,h.len⟩
theorem CE (fresh:List OpX) (o:OpX):(fun q:my=>av (fresh++ [o]) q.1 q.2)=(fun q:my=>if q=(byO o,ar o) then (av fresh q.1 q.2).or (some o) else av fresh q.1 q.2):=by
 funext q;rw [ip];unfold av;by_cases h:q=(byO o,ar o)
 ·rw [if_pos h,h];simp
 rw [if_neg h]
 have:¬(byO o=q.1/\ar o=q.2):=fun e=>h (by rw [e.1,e.2])
 simp [this]
theorem dC (w:World) (x:OpX) (T:TypeId) (j:Nat) (u:Value) (hj:(au x)[j]? =some u):(w.alloc (.cells #[.int .i64 x.1,.int .i64 x.2.1,.int .i64 x.2.2.1,.int .u8 (x.2.2.2.1:Int),.int .i64 x.2.2.2.2.1,.int .i64 x.2.2.2.2.2.1,.string x.2.2.2.2.2.2.1,.string x.2.2.2.2.2.2.2] T)).cell? ((⟨w.heap.size,0,none⟩:Addr).add j)=some u:=by
 rw [Addr.add_lit,vY];have h:=heap_alloc_new w (.cells #[.int .i64 x.1,.int .i64 x.2.1,.int .i64 x.2.2.1,.int .u8 (x.2.2.2.1:Int),.int .i64 x.2.2.2.2.1,.int .i64 x.2.2.2.2.2.1,.string x.2.2.2.2.2.2.1,.string x.2.2.2.2.2.2.2] T);simp only [World.cell?,h];rw [<-hj];simp [au]
theorem DK (w2:World) (o:Obj) (a b:Value):((w2.alloc o).alloc (.cells #[a,b] 198)).drew.heap[w2.heap.size+1]? =some (.cells #[a,b] 198 (0,0)):=by
 have:=heap_alloc_new (w2.alloc o) (.cells #[a,b] 198);exact ki3
theorem Fu (w:World) (ao:Nat->Option Addr) (cap:Nat->Nat) (R:Rws) (la:Option Addr) (lc:Nat) (l:List OpX) (hE:Op4 ad w) (hX:w.cell? ⟨7,0,none⟩=some (.iface 399 (.pointer (some (ad 6))))) (hK:KnownAt w ao R) (hN:NumK R) (hl:∀i,i<4->(R i).length<=1000) (hin:OpsIn w la l) (hs:oL l) (hn:l.length<=1000):
  Calls prog 49 #[kV ao cap R,.slice la l.length lc] w (lr ad w (aR R) l):=by
 obtain ⟨S,hS⟩:=zc w.heap.size;obtain ⟨U,hU⟩:=zc ((w.alloc (.cells #[.slice (ao 0) (R 0).length (cap 0),.slice (ao 1) (R 1).length (cap 1),.slice (ao 2) (R 2).length (cap 2),.slice (ao 3) (R 3).length (cap 3)] 65)).alloc (.map #[] 0));have hb:Below w.heap.size w U:=zP;have hk:KBox U S ao cap R:=zY
 have hm:NMapAt U (S+1) 0 (fun q=>av [] q.1 q.2):=by
  rw [hU,hS];have:=tu (w.alloc (.cells #[.slice (ao 0) (R 0).length (cap 0),.slice (ao 1) (R 1).length (cap 1),.slice (ao 2) (R 2).length (cap 2),.slice (ao 3) (R 3).length (cap 3)] 65));exact ki3
 have H0:Aside (SiftSt w S ao cap R l 0 [] (.slice none 0 0) U):=⟨hb,hk,hm,un _ _ _ _,dV _,rfl,vM _⟩
 have HE:Aside (Op4 ad w/\KnownAt w ao R/\OpsIn w la l/\S=w.heap.size):=⟨hE,hK,hin,hS⟩
 have HX:Aside (w.cell? ⟨7,0,none⟩=some (.iface 399 (.pointer (some (ad 6))))):=hX;clear hb hk hm hE hK hin hX;unfold kV;have hmm:= @run_makeMap prog;go_enter func49,ntmps49;go_wp2;rw [<-hU,<-hS];clear hU hS hmm;go_loopg [6,17] l.length (fun kx s6 s17 wr=>∃(k:Nat) (fresh:List OpX) (ov:Value),s17= .int .i64 (k:Int)/\ov=s6/\k<=l.length/\l.length - k<=kx/\Aside (SiftSt w S ao cap R l k fresh ov wr))
 case atStart=>exact ⟨0,[],_,rfl,rfl,vV _,vM _,H0.o⟩
 case round=>
  obtain ⟨k,fresh,ov,rfl,rfl,hkl,hkx,A⟩:=hrel;clear H0;by_cases hlt:k<l.length
  ·have d1:decide ((k:Int)<(l.length:Int))=true:=by simp;omega
   have wk:((k:Int)).toNat=k:=zo;have pk:(0:Int)<=(k:Int):=zo;have bk:(k:Int)<(l.length:Int):=zo
   obtain ⟨⟨t,b,n,kd,nd,o,s,v⟩,hx⟩:∃x,Aside (l[k]? =some x):=⟨l[k],vN hlt⟩
   have hdrop:Aside (l.drop k=(t,b,n,kd,nd,o,s,v)::l.drop (k+1)):=by
    show l.drop k=_
    exact ks7
   have hsz:=hs _ (vQ hx.o);obtain ⟨blk,off,hao,hc⟩:=(HE.o.2.2.1.later A.o.below).get hx.o;subst hao;have r0:=hc 0 _ rfl;have r1:=hc 1 _ rfl;have r2:=hc 2 _ rfl;have r3:=hc 3 _ rfl;have r4:=hc 4 _ rfl;have r5:=hc 5 _ rfl;have r6:=hc 6 _ rfl;have r7:=hc 7 _ rfl;simp only [Zg] at r0;clear hc;obtain ⟨U,hU⟩:=zc (wr.alloc (.cells #[.int .i64 t,.int .i64 b,.int .i64 n,.int .u8 (kd:Int),.int .i64 nd,.int .i64 o,.string s,.string v] 38))
   have hbU:Below wr.heap.size wr U:=by rw [hU];exact zh wr _
   have O1:OpBlk U wr.heap.size (t,b,n,kd,nd,o,s,v):=by rw [hU];exact OpBlk.new wr (t,b,n,kd,nd,o,s,v)
   have hck:=cN t b n kd nd o s v U (HE.o.1.later (zj A.o.below hbU)) hsz.1 hsz.2
   have H1:Aside (SiftSt w S ao cap R l k fresh ov U/\OpBlk U wr.heap.size (t,b,n,kd,nd,o,s,v)):=⟨A.o.later hbU,O1⟩
   have e0:an (t,b,n,kd,nd,o,s,v)=opE t b n kd nd o s.data.toList v.data.toList:=rfl;rw [<-e0] at hck;clear e0 hbU O1;by_cases herr:an (t,b,n,kd,nd,o,s,v)=0
   ·rw [herr] at hck;have hev:eV ad 0= .nilIface:=rfl;rw [hev] at hck;clear hev;obtain ⟨i,hi,hbi,-⟩:=rp herr;have hbi:b=(i:Int):=hbi;subst hbi
    obtain ⟨m,hm,hm4⟩:∃m:Nat,n=(m:Int)+1/\m<400:=by
     have q:=aq herr;have q5:1<=n:=q.2.2.2.2.1;have q6:n<=400:=q.2.2.2.2.2.1;exact ⟨(n - 1).toNat,zo,zo⟩
    subst hm;have HERR:Aside (an (t,(i:Int),(m:Int)+1,kd,nd,o,s,v)=0):=herr;clear herr;go_wp2_with fail;rw [<-hU];clear hU r0 r1 r2 r3 r4 r5 r6 r7;refine hck.mono ?_;clear hck;rintro e w1 ⟨rfl,hb1⟩;obtain ⟨P,hP⟩:=zc wr.heap.size;obtain ⟨Q,hQ⟩:=zc w1.heap.size;obtain ⟨V,hV⟩:=zc (w1.alloc (.cells #[.int .i64 (i:Int),.int .i64 ((m:Int)+1)] 204))
    have hbV:Below w1.heap.size w1 V:=by rw [hV];exact zh w1 _
    have N1:V.heap[Q]? =some (.cells #[.int .i64 (i:Int),.int .i64 ((m:Int)+1)] 204 (0,0)):=by rw [hV,hQ];exact heap_alloc_new w1 _
    have H2:Aside (SiftSt w S ao cap R l k fresh ov V/\OpBlk V P (t,(i:Int),(m:Int)+1,kd,nd,o,s,v)/\V.heap[Q]? =some (.cells #[.int .i64 (i:Int),.int .i64 ((m:Int)+1)] 204 (0,0))/\P<Q/\S+1<P/\V.heap.size=Q+1):=by
     have hp1:=(H1.o.2.later hb1)
     refine ⟨(H1.o.1.later hb1).later hbV,by rw [hP];exact hp1.later hbV,N1,by rw [hP,hQ];exact hp1.lt,by rw [hP];exact A.o.map.lt,by rw [hV,hQ];simp⟩
    rw [<-hP];obtain ⟨y0,y1,y2,y3,y4,y5,y6,y7,f8⟩:=(H1.o.2.later hb1).cells;rw [<-hP] at y0 y1 y2 y3 y4 y5 y6 y7 f8;dsimp only at y0 y1 y2 y3 y4 y5 y6 y7
    have HV:Aside (V=w1.alloc (.cells #[.int .i64 (i:Int),.int .i64 ((m:Int)+1)] 204)/\Q=w1.heap.size/\P=wr.heap.size):=⟨hV,hQ,hP⟩
    clear hb1 hbV H1 N1 hV hQ hP
    obtain ⟨q0,q1⟩:V.cell? ⟨Q,0,none⟩=some (.int .i64 (i:Int))/\V.cell? ⟨Q,1,none⟩=some (.int .i64 ((m:Int)+1)):=by
     have:=H2.o.2.2.1;constructor<;>simp [World.cell?,this]
    have k0:=H2.o.1.box.at (i:=0) zo;have k1:=H2.o.1.box.at (i:=1) zo;have k2:=H2.o.1.box.at (i:=2) zo;have k3:=H2.o.1.box.at (i:=3) zo;go_upto_region 10 with fail;rw [<-HV.o.1,<-HV.o.2.1];clear y0 y1 y2 y3 y4 y5 y6 y7 f8;go_wp2_with fail;clear q0 q1 k0 k1 k2 k3
    have hlook:Aside (av (aR R++fresh) (byO (t,(i:Int),(m:Int)+1,kd,nd,o,s,v)) (ar (t,(i:Int),(m:Int)+1,kd,nd,o,s,v))=((R i)[m]?).or (av fresh (i:Int) ((m:Int)+1))):=by
     show av (aR R++fresh) (i:Int) ((m:Int)+1)=_
     rw [ip,hN.look hi]
    cases hy:(R i)[m]? with
    | some y=>
     obtain ⟨t',b',n',kd',nd',o',s',v'⟩:=y;have hcall:=sq V ao cap R i m _ (HE.o.2.1.later H2.o.1.below) hi zo hy;unfold kV aD at hcall;dsimp only at hcall;refine hcall.mono ?_;clear hcall;rintro e w2 ⟨rfl,hb2⟩
     have H3:Aside (SiftSt w S ao cap R l k fresh ov w2/\OpBlk w2 P (t,(i:Int),(m:Int)+1,kd,nd,o,s,v)):=⟨H2.o.1.later hb2,H2.o.2.1.later hb2⟩
     have hpl:=H3.o.2.lt;obtain ⟨y0,y1,y2,y3,y4,y5,y6,y7,f8⟩:=H3.o.2.cells;dsimp only at y0 y1 y2 y3 y4 y5 y6 y7
     have heq:=fun w=>LI t' b' n' kd' nd' o' s' v' t (i:Int) ((m:Int)+1) kd nd o s v w
     have HY:Aside ((R i)[m]? =some (t',b',n',kd',nd',o',s',v')):=hy;clear hb2 H2 HV hy
     cases hq:eqB t' b' n' kd' nd' o' s' v' t (i:Int) ((m:Int)+1) kd nd o s v with
     | true=>
      have HQ:Aside ((t',b',n',kd',nd',o',s',v')=(t,(i:Int),(m:Int)+1,kd,nd,o,s,v)):=by
       exact ki6
      rw [hq] at heq;clear hq;go_wp2;go_roundg (l.length - (k+1))
      case measure=>omega
      case rel=>
       have hS3:=H3.o.1.later ((vP w2.heap.size w2).alloc zg (.cells #[.int .i64 t',.int .i64 b',.int .i64 n',.int .u8 (kd':Int),.int .i64 nd',.int .i64 o',.string s',.string v'] 38));refine ⟨k+1,fresh,ov,zD,rfl,zo,vM _,⟨hS3.below,hS3.box,hS3.map.mono zo,hS3.row,hS3.fk,?_,by have:=hS3.len;omega⟩⟩;rw [hS3.is,hdrop.o];exact dL HERR.o (by rw [hlook.o,HY.o,HQ.o];rfl)
     | false=>
      have HQ:Aside ((t',b',n',kd',nd',o',s',v')≠(t,(i:Int),(m:Int)+1,kd,nd,o,s,v)):=fun e=>by
       exact ko5
      rw [hq] at heq;clear hq;have x6:=HX.o;have x6:w2.cell? ⟨7,0,none⟩=some (.iface 399 (.pointer (some (ad 6)))):=(H3.o.1.below.cell (p:=⟨7,0,none⟩) (vR w ⟨7,0,none⟩ HX.o)).trans HX.o;have hgl:7<w2.heap.size:=vR w2 ⟨7,0,none⟩ x6;go_wp2;go_region
      all_goals
       go_wp2;go_ret2;unfold lr;rw [A.o.is,hdrop.o,dR HERR.o (by rw [hlook.o,HY.o];rfl) HQ.o];exact kl2
    | none=>
     have hcall:=tl V ao cap R i m hi (List.getElem?_eq_none_iff.1 hy);unfold kV aD aV at hcall;refine hcall.mono ?_;clear hcall;rintro e w2 ⟨rfl,hb2⟩
     have H3:Aside (SiftSt w S ao cap R l k fresh ov w2/\OpBlk w2 P (t,(i:Int),(m:Int)+1,kd,nd,o,s,v)/\w2.heap[Q]? =some (.cells #[.int .i64 (i:Int),.int .i64 ((m:Int)+1)] 204 (0,0))/\P<Q/\S+1<P):=⟨H2.o.1.later hb2,H2.o.2.1.later hb2,(hb2.block Q (by have:=H2.o.2.2.2.2.2;omega)).trans H2.o.2.2.1,H2.o.2.2.2.1,H2.o.2.2.2.2.1⟩
     have hpl:=H3.o.2.1.lt;have hql:Q<w2.heap.size:=(vO.1 H3.o.2.2.1).1;obtain ⟨y0,y1,y2,y3,y4,y5,y6,y7,f8⟩:=H3.o.2.1.cells;dsimp only at y0 y1 y2 y3 y4 y5 y6 y7
     obtain ⟨q0,q1⟩:w2.cell? ⟨Q,0,none⟩=some (.int .i64 (i:Int))/\w2.cell? ⟨Q,1,none⟩=some (.int .i64 ((m:Int)+1)):=by
      have:=H3.o.2.2.1;constructor<;>simp [World.cell?,this]
     have HN:Aside ((R i)[m]? =none):=hy;clear hb2 H2 HV hy;have hwf:WfN ((i:Int),(m:Int)+1):=KW zo zo zo zo;have hlk:=(H3.o.1.map.same (vZ w2 (.cells #[.int .i64 0,.int .i64 0,.int .i64 0,.int .u8 0,.int .i64 0,.int .i64 0,.string ⟨#[]⟩,.string ⟨#[]⟩] 38) (S+1) H3.o.1.map.lt)).look hwf;unfold CH at hlk;dsimp only at hlk
     cases hy:av fresh (i:Int) ((m:Int)+1) with
     | some y=>
      obtain ⟨t',b',n',kd',nd',o',s',v'⟩:=y;rw [hy] at hlk;unfold aD at hlk;dsimp only [Option.getD_some,Option.isSome_some] at hlk
      have heq:=fun w=>LI t' b' n' kd' nd' o' s' v' t (i:Int) ((m:Int)+1) kd nd o s v w
      have HY:Aside (av fresh (i:Int) ((m:Int)+1)=some (t',b',n',kd',nd',o',s',v')):=hy;clear hy
      cases hq:eqB t' b' n' kd' nd' o' s' v' t (i:Int) ((m:Int)+1) kd nd o s v with
      | true=>
       have HQ:Aside ((t',b',n',kd',nd',o',s',v')=(t,(i:Int),(m:Int)+1,kd,nd,o,s,v)):=by
        exact ki6
       rw [hq] at heq;clear hq;go_wp2;go_roundg (l.length - (k+1))
       case measure=>omega
       case rel=>
        have hS3:=H3.o.1.later ((vP w2.heap.size w2).alloc zg (.cells #[.int .i64 t',.int .i64 b',.int .i64 n',.int .u8 (kd':Int),.int .i64 nd',.int .i64 o',.string s',.string v'] 38));refine ⟨k+1,fresh,ov,zD,rfl,zo,vM _,⟨hS3.below,hS3.box,hS3.map.mono zo,hS3.row,hS3.fk,?_,by have:=hS3.len;omega⟩⟩;rw [hS3.is,hdrop.o];exact dL HERR.o (by rw [hlook.o,HN.o,HY.o,HQ.o];rfl)
      | false=>
       have HQ:Aside ((t',b',n',kd',nd',o',s',v')≠(t,(i:Int),(m:Int)+1,kd,nd,o,s,v)):=fun e=>by
        exact ko5
       rw [hq] at heq;clear hq;have x6:=HX.o;have x6:w2.cell? ⟨7,0,none⟩=some (.iface 399 (.pointer (some (ad 6)))):=(H3.o.1.below.cell (p:=⟨7,0,none⟩) (vR w ⟨7,0,none⟩ HX.o)).trans HX.o;have hgl:7<w2.heap.size:=vR w2 ⟨7,0,none⟩ x6;go_wp2;go_region
       all_goals
        go_wp2;go_ret2;unfold lr;rw [A.o.is,hdrop.o,dR HERR.o (by rw [hlook.o,HN.o,HY.o];rfl) HQ.o];exact kl2
     | none=>
      rw [hy] at hlk;unfold aD aV at hlk;dsimp only [Option.getD_none,Option.isSome_none] at hlk;have HY:Aside (av fresh (i:Int) ((m:Int)+1)=none):=hy;clear hy;have hlen:=A.o.len
      have hmapZ:=(H3.o.1.map.same (vZ w2 (.cells #[.int .i64 0,.int .i64 0,.int .i64 0,.int .u8 0,.int .i64 0,.int .i64 0,.string ⟨#[]⟩,.string ⟨#[]⟩] 38) (S+1) H3.o.1.map.lt))
      obtain ⟨w3,hrun,hM3,hT3⟩:=hmapZ.store zH hwf (t,(i:Int),(m:Int)+1,kd,nd,o,s,v);have K3:=aP hT3.grown;have HZ:=H3.o.1.later ((vP w2.heap.size w2).alloc zg (.cells #[.int .i64 0,.int .i64 0,.int .i64 0,.int .u8 0,.int .i64 0,.int .i64 0,.string ⟨#[]⟩,.string ⟨#[]⟩] 38));have hO3:OpBlk w3 P (t,(i:Int),(m:Int)+1,kd,nd,o,s,v):=(K3.block P zr (fun e=>by have:=H3.o.2.2.2.2;simp at e;omega)).trans (H3.o.2.1.later ((vP w2.heap.size w2).alloc zg _));have hB3:Below w.heap.size w w3:=HZ.below.trans (K3.below HZ.below.size (fun k e=>by have:=HE.o.2.2.2;simp at e;omega));have hR3:w3.ownsRow (S+2) 38 8 ov fresh.length (cellsOf fresh):=dP HZ.row (fun g hg=>K3.block g (HZ.row.lt g hg).2 (fun e=>by have:=(HZ.row.lt g hg).1;simp at e;omega));have hX3:KBox w3 S ao cap R:=(K3.block S HZ.box.lt (fun e=>qt)).trans HZ.box
      have hM3':NMapAt w3 (S+1) (k+1) (fun q=>av (fresh++ [(t,(i:Int),(m:Int)+1,kd,nd,o,s,v)]) q.1 q.2):=by
       rw [CE]
       have e:(fun q:my=>if q=(byO (t,(i:Int),(m:Int)+1,kd,nd,o,s,v),ar (t,(i:Int),(m:Int)+1,kd,nd,o,s,v)) then (av fresh q.1 q.2).or (some (t,(i:Int),(m:Int)+1,kd,nd,o,s,v)) else av fresh q.1 q.2)=(fun q:my=>if q=((i:Int),(m:Int)+1) then some (t,(i:Int),(m:Int)+1,kd,nd,o,s,v) else av fresh q.1 q.2):=by
        funext q
        show (if q=((i:Int),(m:Int)+1) then _ else _)=_
        split
        ·rename_i e;rw [e];show (av fresh (i:Int) ((m:Int)+1)).or _=_;rw [HY.o];rfl
        rfl
       rw [e];exact hM3
      have hp3:=hO3.lt;obtain ⟨z0,z1,z2,z3,z4,z5,z6,z7,g8⟩:=hO3.cells;dsimp only at z0 z1 z2 z3 z4 z5 z6 z7
      have H4:Aside (Below w.heap.size w w3/\KBox w3 S ao cap R/\NMapAt w3 (S+1) (k+1) (fun q=>av (fresh++ [(t,(i:Int),(m:Int)+1,kd,nd,o,s,v)]) q.1 q.2)/\w3.ownsRow (S+2) 38 8 ov fresh.length (cellsOf fresh)/\S+1<w3.heap.size):=⟨hB3,hX3,hM3',hR3,hM3'.lt⟩
      unfold CH aD at hrun;dsimp only at hrun;obtain ⟨i0,hi0,hz0,hz1,hz2⟩:=info_parts dX;clear hM3 hT3 K3 HZ hO3 hB3 hR3 hX3 hM3' hmapZ;go_wp2_with (at_builtin;refine wpList_append_own _ rfl _ _ 32 rfl (S+2) 38 i0 _ 8 80 underlying32 hi0 hz0 hz1 hz2 rfl zo _ _ _ rfl (H4.o.2.2.2.1.alloc _) ⟨w3.heap.size,0,none⟩ 1 1 (au (t,(i:Int),(m:Int)+1,kd,nd,o,s,v)) rfl ?qc1 ?qc2 ?qc3 ?qc4 ?qc5 ?qc6 ?_)
      case qc1=>rfl
      case qc2=>exact dC w3 (t,(i:Int),(m:Int)+1,kd,nd,o,s,v) _
      case qc3=>exact cv _
      case qc4=>simp only [maxLen];omega
      case qc5=>omega
      case qc6=>simp;have:=H4.o.2.2.2.2;omega
      intro v' w4 hown hgrow hnil;have K4:=aP hgrow
      have hN:Aside (SiftSt w S ao cap R l (k+1) (fresh++ [(t,(i:Int),(m:Int)+1,kd,nd,o,s,v)]) v' w4):=by
       have hbA:Below w3.heap.size w3 (w3.alloc (.cells #[.int .i64 t,.int .i64 (i:Int),.int .i64 ((m:Int)+1),.int .u8 (kd:Int),.int .i64 nd,.int .i64 o,.string s,.string v] 38)):=zh w3 _;have hrow:=H4.o.2.2.2.1;have hsz:=H4.o.2.2.2.2
       have hne:∀g,some g=ov.ownBlock->S+2<=g:=fun g hg=>(hrow.lt g hg.symm).1
       refine ⟨?_,?_,?_,?_,A.o.fk.snoc HERR.o ?_,?_,zr⟩
       ·exact (zj H4.o.1 hbA).trans (K4.below (uf H4.o.1.size hbA.size) (fun g hg=>by have:=hne g hg;have:=HE.o.2.2.2;omega))
       ·exact (K4.block S zr (fun e=>by have:=hne S e;omega)).trans ((hbA.block S zo).trans H4.o.2.1)
       ·exact H4.o.2.2.1.same ((K4.block (S+1) zr (fun e=>by have:=hne _ e;omega)).trans (hbA.block _ hsz))
       ·rw [cM,ub];have:cellsOf [(t,(i:Int),(m:Int)+1,kd,nd,o,s,v)]=au (t,(i:Int),(m:Int)+1,kd,nd,o,s,v):=xC;rw [this];exact hown
       ·rw [hlook.o,HN.o,HY.o];rfl
       rw [A.o.is,hdrop.o,fI HERR.o (by rw [hlook.o,HN.o,HY.o];rfl)]
      clear K4 hown hgrow hnil H4 H3 hlk hrun z0 z1 z2 z3 z4 z5 z6 z7 g8 y0 y1 y2 y3 y4 y5 y6 y7 f8 q0 q1;go_wp2;go_roundg (l.length - (k+1))
      case measure=>omega
      case rel=>exact ⟨k+1,_,_,zD,rfl,zo,vM _,hN.o⟩
   obtain ⟨c,hc⟩:=zc (an (t,b,n,kd,nd,o,s,v));rw [<-hc] at hck
   have hev:eV ad c= .iface 399 (.pointer (some (ad (c - 1)))):=by unfold eV;rw [if_neg zo]
   rw [hev] at hck
   have HC:Aside (an (t,b,n,kd,nd,o,s,v)≠0/\c=an (t,b,n,kd,nd,o,s,v)/\eV ad c= .iface 399 (.pointer (some (ad (c - 1))))):=⟨herr,hc,hev⟩
   clear hev hc herr;go_wp2_with fail;rw [<-hU];clear hU r0 r1 r2 r3 r4 r5 r6 r7;refine hck.mono ?_;clear hck;rintro e w1 ⟨rfl,hb1⟩;have B1:Aside (Below w.heap.size w w1):=(H1.o.1.later hb1).below;clear hb1;go_wp2;go_ret2;unfold lr;rw [A.o.is,hdrop.o,gM HC.o.1];exact ⟨⟨_,rfl,w1.heap.size,rfl,by rw [<-HC.o.2.1,HC.o.2.2];exact heap_alloc_new w1 _⟩,B1.o.alloc B1.o.size _⟩
  have d1:decide ((k:Int)<(l.length:Int))=false:=zr;go_wp2;go_ret2;unfold lr;have:=A.o.is;rw [Zk zo,bp] at this;rw [this];refine ⟨⟨_,rfl,EC A.o.row (by have:=HE.o.2.2.2;omega)⟩,A.o.below⟩
