import Derived.Test.YtebpcnkdhgnghaaGreatDoorPM07
import Derived.Test.YtebpcnkdhgnghaaGreatDoorPM09
import Derived.Test.YtebpcnkdhgnghaaGreatDoorPM10
import Derived.Maps.OwnIn
set_option linter.unusedSimpArgs false
set_option linter.unusedVariables false
set_option maxRecDepth 100000
set_option maxHeartbeats 64000000
namespace Go.Proofs.YtebpcnkdhgnghaaGreatDoor
open Go.Proofs.Tryz
variable {L:List OpX} {qs:List Plc} {b g k kd n:Nat} {p:Plc} {v:Value} {W W' w w':World}
section
open Go.RowKit Go.Lib Go.Sort Go.Maps
def mO (ad:Nat->Addr) (w:World) (v:Value) (i:Int) (c:Nat):Prop:=∃b,v= .iface 72 (.pointer (some ⟨b,0,none⟩))/\w.heap[b]? =some (.cells #[.int .i64 i,eV ad c] 75 (0,0))
def lq (ad:Nat->Addr) (w:World) (S l:List OpX) (e:Ending) (w':World):Prop:=(match bw S 0 [] l with
 | .inl (i,c)=>∃v,e= .returned (.tuple #[.slice none 0 0,v])/\mO ad w' v (i:Int) c
 | .inr fresh=>∃v,e= .returned (.tuple #[v,.nilIface])/\w'.ownsRow w.heap.size 61 8 v fresh.length (cellsOf fresh))/\Below w.heap.size w w'
def il (l:List OpX):Prop:=∀x∈l,x.2.2.2.2.2.2.1.size<=1000000/\x.2.2.2.2.2.2.2.size<=1000000
structure SiftSt (w:World) (S:Nat) (ao:Nat->Option Addr) (cap:Nat->Nat) (R:Rws) (l:List OpX) (k:Nat) (fresh:List OpX) (v:Value) (wr:World):Prop where
 below:Below w.heap.size w wr
 box:KBox wr S ao cap R
 map:NMapAt wr (S+1) k (fun q=>ax fresh q.1 q.2)
 row:wr.ownsRow (S+2) 61 8 v fresh.length (cellsOf fresh)
 fk:FreshK (aQ R) fresh
 is:bw (aQ R) 0 [] l=bw (aQ R) k fresh (l.drop k)
 len:fresh.length<=k
theorem NMapAt.mono {w:World} {b n n':Nat} {f:Bn} (h:NMapAt w b n f) (hn:n<=n'):NMapAt w b n' f:=by
 obtain ⟨D,h,r⟩:=h;exact ⟨D,h.mono hn,r⟩
theorem SiftSt.later {w:World} {S:Nat} {ao:Nat->Option Addr} {cap:Nat->Nat} {R:Rws} {l:List OpX} {k:Nat} {fresh:List OpX} {v:Value} {wr w':World} (h:SiftSt w S ao cap R l k fresh v wr) (hb:Below wr.heap.size wr w'):SiftSt w S ao cap R l k fresh v w':=
 ⟨zi h.below hb,h.box.later hb,h.map.same (hb.block _ h.map.lt),av h.row (fun g hg=>hb.block g (h.row.lt g hg).2),h.fk,h.is,h.len⟩
theorem FZ (fresh:List OpX) (o:OpX):(fun q:ma=>ax (fresh++ [o]) q.1 q.2)=(fun q:ma=>if q=(byO o,aw o) then (ax fresh q.1 q.2).or (some o) else ax fresh q.1 q.2):=by
 funext q;rw [iY];unfold ax;by_cases h:q=(byO o,aw o)
 ·rw [if_pos h,h];simp
 rw [if_neg h]
 have:¬(byO o=q.1/\aw o=q.2):=fun e=>h (by rw [e.1,e.2])
 simp [this]
theorem dE (w:World) (x:OpX) (T:TypeId) (j:Nat) (u:Value) (hj:(bq x)[j]? =some u):(w.alloc (.cells #[.int .i64 x.1,.int .i64 x.2.1,.int .i64 x.2.2.1,.int .u8 (x.2.2.2.1:Int),.int .i64 x.2.2.2.2.1,.int .i64 x.2.2.2.2.2.1,.string x.2.2.2.2.2.2.1,.string x.2.2.2.2.2.2.2] T)).cell? ((⟨w.heap.size,0,none⟩:Addr).add j)=some u:=by
 rw [Addr.add_lit,vQ];have h:=heap_alloc_new w (.cells #[.int .i64 x.1,.int .i64 x.2.1,.int .i64 x.2.2.1,.int .u8 (x.2.2.2.1:Int),.int .i64 x.2.2.2.2.1,.int .i64 x.2.2.2.2.2.1,.string x.2.2.2.2.2.2.1,.string x.2.2.2.2.2.2.2] T);simp only [World.cell?,h];rw [<-hj];simp [bq]
theorem Fq (w2:World) (o:Obj) (a b:Value):((w2.alloc o).alloc (.cells #[a,b] 75)).drew.heap[w2.heap.size+1]? =some (.cells #[a,b] 75 (0,0)):=by
 have:=heap_alloc_new (w2.alloc o) (.cells #[a,b] 75);exact kd4
theorem Gl {ad:Nat->Addr} (w:World) (ao:Nat->Option Addr) (cap:Nat->Nat) (R:Rws) (la:Option Addr) (lc:Nat) (l:List OpX) (hE:Op4 ad w) (hX:w.cell? ⟨7,0,none⟩=some (.iface 450 (.pointer (some (ad 6))))) (hK:KnownAt w ao R) (hN:NumK R) (hl:∀i,i<4->(R i).length<=1000) (hin:OpsIn w la l) (hs:il l) (hn:l.length<=1000):
  Calls prog 68 #[kV ao cap R,.slice la l.length lc] w (lq ad w (aQ R) l):=by
 obtain ⟨S,hS⟩:=zc w.heap.size;obtain ⟨U,hU⟩:=zc ((w.alloc (.cells #[.slice (ao 0) (R 0).length (cap 0),.slice (ao 1) (R 1).length (cap 1),.slice (ao 2) (R 2).length (cap 2),.slice (ao 3) (R 3).length (cap 3)] 112)).alloc (.map #[] 0));have hb:Below w.heap.size w U:=zI;have hk:KBox U S ao cap R:=zT
 have hm:NMapAt U (S+1) 0 (fun q=>ax [] q.1 q.2):=by
  rw [hU,hS];have:=wZ (w.alloc (.cells #[.slice (ao 0) (R 0).length (cap 0),.slice (ao 1) (R 1).length (cap 1),.slice (ao 2) (R 2).length (cap 2),.slice (ao 3) (R 3).length (cap 3)] 112));exact kd4
 have H0:Aside (SiftSt w S ao cap R l 0 [] (.slice none 0 0) U):=⟨hb,hk,hm,uf _ _ _ _,cL _,rfl,vB _⟩
 have HE:Aside (Op4 ad w/\KnownAt w ao R/\OpsIn w la l/\S=w.heap.size):=⟨hE,hK,hin,hS⟩
 have HX:Aside (w.cell? ⟨7,0,none⟩=some (.iface 450 (.pointer (some (ad 6))))):=hX;clear hb hk hm hE hK hin hX;unfold kV;have hmm:= @run_makeMap prog;go_enter func68,ntmps68;go_wp2;rw [<-hU,<-hS];clear hU hS hmm;go_loopg [6,17] l.length (fun kx s6 s17 wr=>∃(k:Nat) (fresh:List OpX) (ov:Value),s17= .int .i64 (k:Int)/\ov=s6/\k<=l.length/\l.length - k<=kx/\Aside (SiftSt w S ao cap R l k fresh ov wr))
 case atStart=>exact ⟨0,[],_,rfl,rfl,vM _,vB _,H0.o⟩
 case round=>
  obtain ⟨k,fresh,ov,rfl,rfl,hkl,hkx,A⟩:=hrel;clear H0;by_cases hlt:k<l.length
  ·have d1:decide ((k:Int)<(l.length:Int))=true:=by simp;omega
   have wk:((k:Int)).toNat=k:=zj;have pk:(0:Int)<=(k:Int):=zj;have bk:(k:Int)<(l.length:Int):=zj
   obtain ⟨⟨t,b,n,kd,nd,o,s,v⟩,hx⟩:∃x,Aside (l[k]? =some x):=⟨l[k],vF hlt⟩
   have hdrop:Aside (l.drop k=(t,b,n,kd,nd,o,s,v)::l.drop (k+1)):=by
    show l.drop k=_
    exact kq3
   have hsz:=hs _ (vH hx.o);obtain ⟨blk,off,hao,hc⟩:=(HE.o.2.2.1.later A.o.below).get hx.o;subst hao;have r0:=hc 0 _ rfl;have r1:=hc 1 _ rfl;have r2:=hc 2 _ rfl;have r3:=hc 3 _ rfl;have r4:=hc 4 _ rfl;have r5:=hc 5 _ rfl;have r6:=hc 6 _ rfl;have r7:=hc 7 _ rfl;simp only [uZ] at r0;clear hc;obtain ⟨U,hU⟩:=zc (wr.alloc (.cells #[.int .i64 t,.int .i64 b,.int .i64 n,.int .u8 (kd:Int),.int .i64 nd,.int .i64 o,.string s,.string v] 61))
   have hbU:Below wr.heap.size wr U:=by rw [hU];exact zh wr _
   have O1:OpBlk U wr.heap.size (t,b,n,kd,nd,o,s,v):=by rw [hU];exact OpBlk.new wr (t,b,n,kd,nd,o,s,v)
   have hck:=bA t b n kd nd o s v U (HE.o.1.later (zi A.o.below hbU)) hsz.1 hsz.2
   have H1:Aside (SiftSt w S ao cap R l k fresh ov U/\OpBlk U wr.heap.size (t,b,n,kd,nd,o,s,v)):=⟨A.o.later hbU,O1⟩
   have e0:ai (t,b,n,kd,nd,o,s,v)=opE t b n kd nd o s.data.toList v.data.toList:=rfl;rw [<-e0] at hck;clear e0 hbU O1;by_cases herr:ai (t,b,n,kd,nd,o,s,v)=0
   ·rw [herr] at hck;have hev:eV ad 0= .nilIface:=rfl;rw [hev] at hck;clear hev;obtain ⟨i,hi,hbi,-⟩:=Ar herr;have hbi:b=(i:Int):=hbi;subst hbi
    obtain ⟨m,hm,hm4⟩:∃m:Nat,n=(m:Int)+1/\m<400:=by
     have q:=ar herr;have q5:1<=n:=q.2.2.2.2.1;have q6:n<=400:=q.2.2.2.2.2.1;exact ⟨(n - 1).toNat,zj,zj⟩
    subst hm;have HERR:Aside (ai (t,(i:Int),(m:Int)+1,kd,nd,o,s,v)=0):=herr;clear herr;go_wp2_with fail;rw [<-hU];clear hU r0 r1 r2 r3 r4 r5 r6 r7;refine hck.mono ?_;clear hck;rintro e w1 ⟨rfl,hb1⟩;obtain ⟨P,hP⟩:=zc wr.heap.size;obtain ⟨Q,hQ⟩:=zc w1.heap.size;obtain ⟨V,hV⟩:=zc (w1.alloc (.cells #[.int .i64 (i:Int),.int .i64 ((m:Int)+1)] 222));have hbV:Below w1.heap.size w1 V:=jK
    have N1:V.heap[Q]? =some (.cells #[.int .i64 (i:Int),.int .i64 ((m:Int)+1)] 222 (0,0)):=by rw [hV,hQ];exact heap_alloc_new w1 _
    have H2:Aside (SiftSt w S ao cap R l k fresh ov V/\OpBlk V P (t,(i:Int),(m:Int)+1,kd,nd,o,s,v)/\V.heap[Q]? =some (.cells #[.int .i64 (i:Int),.int .i64 ((m:Int)+1)] 222 (0,0))/\P<Q/\S+1<P/\V.heap.size=Q+1):=by
     have hp1:=(H1.o.2.later hb1)
     refine ⟨(H1.o.1.later hb1).later hbV,by rw [hP];exact hp1.later hbV,N1,by rw [hP,hQ];exact hp1.lt,by rw [hP];exact A.o.map.lt,by rw [hV,hQ];simp⟩
    rw [<-hP];obtain ⟨y0,y1,y2,y3,y4,y5,y6,y7,f8⟩:=(H1.o.2.later hb1).cells;rw [<-hP] at y0 y1 y2 y3 y4 y5 y6 y7 f8;dsimp only at y0 y1 y2 y3 y4 y5 y6 y7
    have HV:Aside (V=w1.alloc (.cells #[.int .i64 (i:Int),.int .i64 ((m:Int)+1)] 222)/\Q=w1.heap.size/\P=wr.heap.size):=⟨hV,hQ,hP⟩
    clear hb1 hbV H1 N1 hV hQ hP
    obtain ⟨q0,q1⟩:V.cell? ⟨Q,0,none⟩=some (.int .i64 (i:Int))/\V.cell? ⟨Q,1,none⟩=some (.int .i64 ((m:Int)+1)):=by
     have:=H2.o.2.2.1;constructor<;>simp [World.cell?,this]
    have k0:=H2.o.1.box.at (i:=0) zj;have k1:=H2.o.1.box.at (i:=1) zj;have k2:=H2.o.1.box.at (i:=2) zj;have k3:=H2.o.1.box.at (i:=3) zj;go_upto_region 10 with fail;rw [<-HV.o.1,<-HV.o.2.1];clear y0 y1 y2 y3 y4 y5 y6 y7 f8;go_wp2_with fail;clear q0 q1 k0 k1 k2 k3
    have hlook:Aside (ax (aQ R++fresh) (byO (t,(i:Int),(m:Int)+1,kd,nd,o,s,v)) (aw (t,(i:Int),(m:Int)+1,kd,nd,o,s,v))=((R i)[m]?).or (ax fresh (i:Int) ((m:Int)+1))):=by
     show ax (aQ R++fresh) (i:Int) ((m:Int)+1)=_
     rw [iY,hN.look hi]
    cases hy:(R i)[m]? with
    | some y=>
     obtain ⟨t',b',n',kd',nd',o',s',v'⟩:=y;have hcall:=wC V ao cap R i m _ (HE.o.2.1.later H2.o.1.below) hi zj hy;unfold kV bT at hcall;dsimp only at hcall;refine hcall.mono ?_;clear hcall;rintro e w2 ⟨rfl,hb2⟩
     have H3:Aside (SiftSt w S ao cap R l k fresh ov w2/\OpBlk w2 P (t,(i:Int),(m:Int)+1,kd,nd,o,s,v)):=⟨H2.o.1.later hb2,H2.o.2.1.later hb2⟩
     have hpl:=H3.o.2.lt;obtain ⟨y0,y1,y2,y3,y4,y5,y6,y7,f8⟩:=H3.o.2.cells;dsimp only at y0 y1 y2 y3 y4 y5 y6 y7
     have heq:=fun w=>Nv t' b' n' kd' nd' o' s' v' t (i:Int) ((m:Int)+1) kd nd o s v w
     have HY:Aside ((R i)[m]? =some (t',b',n',kd',nd',o',s',v')):=hy;clear hb2 H2 HV hy
     cases hq:eqB t' b' n' kd' nd' o' s' v' t (i:Int) ((m:Int)+1) kd nd o s v with
     | true=>
      have HQ:Aside ((t',b',n',kd',nd',o',s',v')=(t,(i:Int),(m:Int)+1,kd,nd,o,s,v)):=by
       exact kh2
      rw [hq] at heq;clear hq;go_wp2;go_roundg (l.length - (k+1))
      case measure=>omega
      case rel=>
       have hS3:=H3.o.1.later ((vG w2.heap.size w2).alloc zg (.cells #[.int .i64 t',.int .i64 b',.int .i64 n',.int .u8 (kd':Int),.int .i64 nd',.int .i64 o',.string s',.string v'] 61));refine ⟨k+1,fresh,ov,zw,rfl,zj,vB _,⟨hS3.below,hS3.box,hS3.map.mono zj,hS3.row,hS3.fk,?_,by have:=hS3.len;omega⟩⟩;rw [hS3.is,hdrop.o];exact dS HERR.o (by rw [hlook.o,HY.o,HQ.o];rfl)
     | false=>
      have HQ:Aside ((t',b',n',kd',nd',o',s',v')≠(t,(i:Int),(m:Int)+1,kd,nd,o,s,v)):=fun e=>by
       exact km2
      rw [hq] at heq;clear hq;have x6:=HX.o;have x6:w2.cell? ⟨7,0,none⟩=some (.iface 450 (.pointer (some (ad 6)))):=(H3.o.1.below.cell (p:=⟨7,0,none⟩) (vK w ⟨7,0,none⟩ HX.o)).trans HX.o;have hgl:7<w2.heap.size:=vK w2 ⟨7,0,none⟩ x6;go_wp2;go_region
      all_goals
       go_wp2;go_ret2;unfold lq;rw [A.o.is,hdrop.o,ce HERR.o (by rw [hlook.o,HY.o];rfl) HQ.o];exact kj2
    | none=>
     have hcall:=tE V ao cap R i m hi (List.getElem?_eq_none_iff.1 hy);unfold kV bT aR at hcall;refine hcall.mono ?_;clear hcall;rintro e w2 ⟨rfl,hb2⟩
     have H3:Aside (SiftSt w S ao cap R l k fresh ov w2/\OpBlk w2 P (t,(i:Int),(m:Int)+1,kd,nd,o,s,v)/\w2.heap[Q]? =some (.cells #[.int .i64 (i:Int),.int .i64 ((m:Int)+1)] 222 (0,0))/\P<Q/\S+1<P):=⟨H2.o.1.later hb2,H2.o.2.1.later hb2,(hb2.block Q (by have:=H2.o.2.2.2.2.2;omega)).trans H2.o.2.2.1,H2.o.2.2.2.1,H2.o.2.2.2.2.1⟩
     have hpl:=H3.o.2.1.lt;have hql:Q<w2.heap.size:=(vD.1 H3.o.2.2.1).1;obtain ⟨y0,y1,y2,y3,y4,y5,y6,y7,f8⟩:=H3.o.2.1.cells;dsimp only at y0 y1 y2 y3 y4 y5 y6 y7
     obtain ⟨q0,q1⟩:w2.cell? ⟨Q,0,none⟩=some (.int .i64 (i:Int))/\w2.cell? ⟨Q,1,none⟩=some (.int .i64 ((m:Int)+1)):=by
      have:=H3.o.2.2.1;constructor<;>simp [World.cell?,this]
     have HN:Aside ((R i)[m]? =none):=hy;clear hb2 H2 HV hy;have hwf:WfN ((i:Int),(m:Int)+1):=MX zj zj zj zj;have hlk:=(H3.o.1.map.same (vP w2 (.cells #[.int .i64 0,.int .i64 0,.int .i64 0,.int .u8 0,.int .i64 0,.int .i64 0,.string ⟨#[]⟩,.string ⟨#[]⟩] 61) (S+1) H3.o.1.map.lt)).look hwf;unfold Cc at hlk;dsimp only at hlk
     cases hy:ax fresh (i:Int) ((m:Int)+1) with
     | some y=>
      obtain ⟨t',b',n',kd',nd',o',s',v'⟩:=y;rw [hy] at hlk;unfold bT at hlk;dsimp only [Option.getD_some,Option.isSome_some] at hlk
      have heq:=fun w=>Nv t' b' n' kd' nd' o' s' v' t (i:Int) ((m:Int)+1) kd nd o s v w
      have HY:Aside (ax fresh (i:Int) ((m:Int)+1)=some (t',b',n',kd',nd',o',s',v')):=hy;clear hy
      cases hq:eqB t' b' n' kd' nd' o' s' v' t (i:Int) ((m:Int)+1) kd nd o s v with
      | true=>
       have HQ:Aside ((t',b',n',kd',nd',o',s',v')=(t,(i:Int),(m:Int)+1,kd,nd,o,s,v)):=by
        exact kh2
       rw [hq] at heq;clear hq;go_wp2;go_roundg (l.length - (k+1))
       case measure=>omega
       case rel=>
        have hS3:=H3.o.1.later ((vG w2.heap.size w2).alloc zg (.cells #[.int .i64 t',.int .i64 b',.int .i64 n',.int .u8 (kd':Int),.int .i64 nd',.int .i64 o',.string s',.string v'] 61));refine ⟨k+1,fresh,ov,zw,rfl,zj,vB _,⟨hS3.below,hS3.box,hS3.map.mono zj,hS3.row,hS3.fk,?_,by have:=hS3.len;omega⟩⟩;rw [hS3.is,hdrop.o];exact dS HERR.o (by rw [hlook.o,HN.o,HY.o,HQ.o];rfl)
      | false=>
       have HQ:Aside ((t',b',n',kd',nd',o',s',v')≠(t,(i:Int),(m:Int)+1,kd,nd,o,s,v)):=fun e=>by
        exact km2
       rw [hq] at heq;clear hq;have x6:=HX.o;have x6:w2.cell? ⟨7,0,none⟩=some (.iface 450 (.pointer (some (ad 6)))):=(H3.o.1.below.cell (p:=⟨7,0,none⟩) (vK w ⟨7,0,none⟩ HX.o)).trans HX.o;have hgl:7<w2.heap.size:=vK w2 ⟨7,0,none⟩ x6;go_wp2;go_region
       all_goals
        go_wp2;go_ret2;unfold lq;rw [A.o.is,hdrop.o,ce HERR.o (by rw [hlook.o,HN.o,HY.o];rfl) HQ.o];exact kj2
     | none=>
      rw [hy] at hlk;unfold bT aR at hlk;dsimp only [Option.getD_none,Option.isSome_none] at hlk;have HY:Aside (ax fresh (i:Int) ((m:Int)+1)=none):=hy;clear hy;have hlen:=A.o.len
      have hmapZ:=(H3.o.1.map.same (vP w2 (.cells #[.int .i64 0,.int .i64 0,.int .i64 0,.int .u8 0,.int .i64 0,.int .i64 0,.string ⟨#[]⟩,.string ⟨#[]⟩] 61) (S+1) H3.o.1.map.lt))
      obtain ⟨w3,hrun,hM3,hT3⟩:=hmapZ.store zA hwf (t,(i:Int),(m:Int)+1,kd,nd,o,s,v);have K3:=aV hT3.grown;have HZ:=H3.o.1.later ((vG w2.heap.size w2).alloc zg (.cells #[.int .i64 0,.int .i64 0,.int .i64 0,.int .u8 0,.int .i64 0,.int .i64 0,.string ⟨#[]⟩,.string ⟨#[]⟩] 61));have hO3:OpBlk w3 P (t,(i:Int),(m:Int)+1,kd,nd,o,s,v):=(K3.block P zq (fun e=>by have:=H3.o.2.2.2.2;simp at e;omega)).trans (H3.o.2.1.later ((vG w2.heap.size w2).alloc zg _));have hB3:Below w.heap.size w w3:=HZ.below.trans (K3.below HZ.below.size (fun k e=>by have:=HE.o.2.2.2;simp at e;omega));have hR3:w3.ownsRow (S+2) 61 8 ov fresh.length (cellsOf fresh):=av HZ.row (fun g hg=>K3.block g (HZ.row.lt g hg).2 (fun e=>by have:=(HZ.row.lt g hg).1;simp at e;omega));have hX3:KBox w3 S ao cap R:=(K3.block S HZ.box.lt (fun e=>qE)).trans HZ.box
      have hM3':NMapAt w3 (S+1) (k+1) (fun q=>ax (fresh++ [(t,(i:Int),(m:Int)+1,kd,nd,o,s,v)]) q.1 q.2):=by
       rw [FZ]
       have e:(fun q:ma=>if q=(byO (t,(i:Int),(m:Int)+1,kd,nd,o,s,v),aw (t,(i:Int),(m:Int)+1,kd,nd,o,s,v)) then (ax fresh q.1 q.2).or (some (t,(i:Int),(m:Int)+1,kd,nd,o,s,v)) else ax fresh q.1 q.2)=(fun q:ma=>if q=((i:Int),(m:Int)+1) then some (t,(i:Int),(m:Int)+1,kd,nd,o,s,v) else ax fresh q.1 q.2):=by
        funext q
        show (if q=((i:Int),(m:Int)+1) then _ else _)=_
        split
        ·rename_i e;rw [e];show (ax fresh (i:Int) ((m:Int)+1)).or _=_;rw [HY.o];rfl
        rfl
       rw [e];exact hM3
      have hp3:=hO3.lt;obtain ⟨z0,z1,z2,z3,z4,z5,z6,z7,g8⟩:=hO3.cells;dsimp only at z0 z1 z2 z3 z4 z5 z6 z7
      have H4:Aside (Below w.heap.size w w3/\KBox w3 S ao cap R/\NMapAt w3 (S+1) (k+1) (fun q=>ax (fresh++ [(t,(i:Int),(m:Int)+1,kd,nd,o,s,v)]) q.1 q.2)/\w3.ownsRow (S+2) 61 8 ov fresh.length (cellsOf fresh)/\S+1<w3.heap.size):=⟨hB3,hX3,hM3',hR3,hM3'.lt⟩
      unfold Cc bT at hrun;dsimp only at hrun;obtain ⟨i0,hi0,hz0,hz1,hz2⟩:=info_parts fw;clear hM3 hT3 K3 HZ hO3 hB3 hR3 hX3 hM3' hmapZ;go_wp2_with (at_builtin;refine wpList_append_own _ rfl _ _ 25 rfl (S+2) 61 i0 _ 8 80 underlying25 hi0 hz0 hz1 hz2 rfl zj _ _ _ rfl (H4.o.2.2.2.1.alloc _) ⟨w3.heap.size,0,none⟩ 1 1 (bq (t,(i:Int),(m:Int)+1,kd,nd,o,s,v)) rfl ?qc1 ?qc2 ?qc3 ?qc4 ?qc5 ?qc6 ?_)
      case qc1=>rfl
      case qc2=>exact dE w3 (t,(i:Int),(m:Int)+1,kd,nd,o,s,v) _
      case qc3=>exact fP _
      case qc4=>simp only [maxLen];omega
      case qc5=>omega
      case qc6=>simp;have:=H4.o.2.2.2.2;omega
      intro v' w4 hown hgrow hnil;have K4:=aV hgrow
      have hN:Aside (SiftSt w S ao cap R l (k+1) (fresh++ [(t,(i:Int),(m:Int)+1,kd,nd,o,s,v)]) v' w4):=by
       have hbA:Below w3.heap.size w3 (w3.alloc (.cells #[.int .i64 t,.int .i64 (i:Int),.int .i64 ((m:Int)+1),.int .u8 (kd:Int),.int .i64 nd,.int .i64 o,.string s,.string v] 61)):=zh w3 _;have hrow:=H4.o.2.2.2.1;have hsz:=H4.o.2.2.2.2
       have hne:∀g,some g=ov.ownBlock->S+2<=g:=fun g hg=>(hrow.lt g hg.symm).1
       refine ⟨?_,?_,?_,?_,A.o.fk.snoc HERR.o ?_,?_,zq⟩
       ·exact (zi H4.o.1 hbA).trans (K4.below (vI H4.o.1.size hbA.size) (fun g hg=>by have:=hne g hg;have:=HE.o.2.2.2;omega))
       ·exact (K4.block S zq (fun e=>by have:=hne S e;omega)).trans ((hbA.block S zj).trans H4.o.2.1)
       ·exact H4.o.2.2.1.same ((K4.block (S+1) zq (fun e=>by have:=hne _ e;omega)).trans (hbA.block _ hsz))
       ·rw [ci,vN];have:cellsOf [(t,(i:Int),(m:Int)+1,kd,nd,o,s,v)]=bq (t,(i:Int),(m:Int)+1,kd,nd,o,s,v):=xA;rw [this];exact hown
       ·rw [hlook.o,HN.o,HY.o];rfl
       rw [A.o.is,hdrop.o,ee HERR.o (by rw [hlook.o,HN.o,HY.o];rfl)]
      clear K4 hown hgrow hnil H4 H3 hlk hrun z0 z1 z2 z3 z4 z5 z6 z7 g8 y0 y1 y2 y3 y4 y5 y6 y7 f8 q0 q1;go_wp2;go_roundg (l.length - (k+1))
      case measure=>omega
      case rel=>exact ⟨k+1,_,_,zw,rfl,zj,vB _,hN.o⟩
   obtain ⟨c,hc⟩:=zc (ai (t,b,n,kd,nd,o,s,v));rw [<-hc] at hck
   have hev:eV ad c= .iface 450 (.pointer (some (ad (c - 1)))):=by unfold eV;rw [if_neg zj]
   rw [hev] at hck
   have HC:Aside (ai (t,b,n,kd,nd,o,s,v)≠0/\c=ai (t,b,n,kd,nd,o,s,v)/\eV ad c= .iface 450 (.pointer (some (ad (c - 1))))):=⟨herr,hc,hev⟩
   clear hev hc herr;go_wp2_with fail;rw [<-hU];clear hU r0 r1 r2 r3 r4 r5 r6 r7;refine hck.mono ?_;clear hck;rintro e w1 ⟨rfl,hb1⟩;have B1:Aside (Below w.heap.size w w1):=(H1.o.1.later hb1).below;clear hb1;go_wp2;go_ret2;unfold lq;rw [A.o.is,hdrop.o,gV HC.o.1];exact ⟨⟨_,rfl,w1.heap.size,rfl,by rw [<-HC.o.2.1,HC.o.2.2];exact heap_alloc_new w1 _⟩,B1.o.alloc B1.o.size _⟩
  have d1:decide ((k:Int)<(l.length:Int))=false:=zq;go_wp2;go_ret2;unfold lq;have:=A.o.is;rw [Za zj,bw] at this;rw [this];refine ⟨⟨_,rfl,nj A.o.row (by have:=HE.o.2.2.2;omega)⟩,A.o.below⟩
end
section
open Go.RowKit Go.Shelf Go.Maps
attribute [local go_sem] Oper.semAt_some
theorem Ms:(prog.info? 119).map (fun i=>(i.zero,i.size,i.bytes))=some (some (.agg #[.int .i64 0,.int .i64 0,.string ⟨#[]⟩]),3,32):=zo
theorem Cg (w:World) (p:Plc) (j:Nat) (u:Value) (hj:(aP p)[j]? =some u):(w.alloc (.cells #[.int .i64 p.1,.int .i64 p.2.1,.string p.2.2] 119)).cell? ((⟨w.heap.size,0,none⟩:Addr).add j)=some u:=by
 rw [Addr.add_lit,vQ];have h:=heap_alloc_new w (.cells #[.int .i64 p.1,.int .i64 p.2.1,.string p.2.2] 119);simp only [World.cell?,h];rw [<-hj];simp [aP]
theorem oC (w:World) (Bm b nn:Nat) (f:Sta) (G:gj f) (hBm:Bm<w.heap.size) (hm:w.cell? ⟨Bm,0,none⟩=some (.map (some b))) (hM:MapAt prog 3 w b nn f) (hnn:nn<=2000000):
  Calls prog 224 #[.slice none 0 0,.func (.func 170) #[] #[.pointer (some ⟨Bm,0,none⟩)]] w fun e w'=>∃v ps,e= .returned v/\AllP f ps/\ps.length<=nn/\w'.ownsRow w.heap.size 119 3 v ps.length (aI aP ps)/\Below w.heap.size w w':=by
 obtain ⟨i0,hi,hz0,hz1,hz2⟩:=info_parts Ms;refine (callsIn_wide (n:=4)).1 ?_;refine callsIn_of_wp_marks func224 rfl trivial ?_ rfl;simp only [ntmps224,uq,ud,uz,Nat.reduceAdd,Nat.reduceSub,uM,uN,uV,uO,uR,Zb];gi_wp2;obtain ⟨w1,hw1⟩:=zc (w.alloc (.cells #[.slice none 0 0] 105));rw [<-hw1];have hB0:Below w.heap.size w w1:=qd;have hs1:w1.heap.size=w.heap.size+1:=xP;obtain ⟨B,hB⟩:=zc w.heap.size;have e1:Boxed w1 B 105 (.slice none 0 0):=qS
 rw [<-hB] at hB0 hs1 hBm |-
 have HB:Aside (B=w.heap.size):=hB;have hBw:B<=w.heap.size:=zj;clear hB;have hm1:=(hB0.cell (p:=⟨Bm,0,none⟩) hBm).trans hm;have hM1:=hM.same (hB0.block b (by have:=HB.o;have:=hM.lt;omega));clear hw1 hm hM
 refine wpIn_rangeFunc_ownH rfl zj (gf:=170) (lb:= #[.pointer (some ⟨Bm,0,none⟩)]) rfl trivial (enters_of func170 zo rfl)
  (rr Fence.wide (4 - 1) trivial rfl zj Bm b nn f G w1 zj hm1 hM1) walksK_t (walksK_b (w:=w1)) (vG _ _) (fun _=>rfl)
  (fun pre W=>((∃v,Boxed W B 105 v/\W.ownsRow B 119 3 v pre.length (aI aP pre)/\pre.length<=nn))/\(w1.heap.size<=W.heap.size/\Below B w W))
  (fun _ _ _=>False)
  (OwnFrom.and (Own.from (holdsRow_own B B 105 119 3 (fun pre=>pre.length) (fun pre=>aI aP pre) (fun pre _=>pre.length<=nn)) _) (OwnFrom.and (fun _ X Y row hs hg _=>vI hs hg.size) (ownFrom_below zj zj)))
  (fun _ _ _ _ _ hs _ _=>hs)
  ⟨⟨_,e1,uf w1 B _ _,vM _⟩,vB _,hB0⟩
  (fun x a' W=>∃Bx,w1.heap.size<=Bx/\PlcAt W Bx x/\a'= {tmps:= #[.slice none 0 0,.func (.func 170) #[] #[.pointer (some ⟨Bm,0,none⟩)],.pointer (some ⟨B,0,none⟩),undef,.slice none 0 0,.pointer (some ⟨Bx,0,none⟩),.func (.func 170) #[] #[.pointer (some ⟨Bm,0,none⟩)],.agg #[.int .i64 x.1,.int .i64 x.2.1,.string x.2.2],undef,undef,undef,undef,undef],defers:=[]})
  (fun x a'=>Own.from (fun _ X Y row hs hg hr=>yg) _)
  ?assign ?body ?done ?stop
 case assign=>
  rintro l pre x W K ⟨⟨v,hv,hrow,hpl⟩,hsz,hBW⟩ hK;have hK':Aside _:=hK;have hBs:B<=W.heap.size:=zj;clear hK;unfold kC;gi_wp2;refine hK'.o _ _ ((KeepsOthers.alloc _ _).from _) (KeepsOthers.alloc _ _).walks ⟨⟨v,hv.alloc _,hrow.alloc _,hpl⟩,zq,hBW.alloc hBs _⟩ ⟨W.heap.size,zj,heap_alloc_new W _,rfl⟩
 case body=>
  rintro l pre x a' W hl _ ⟨⟨v,hv,hrow,hpl⟩,hsz,hBW⟩ ⟨Bx,hBx,hE,rfl⟩ hlt;have g1:=hv.cell;have f0:=hE.c0;have f1:=hE.c1;have f2:=hE.c2;have hBs:B<=W.heap.size:=zj;gi_wp2_with (gi_at_builtin;refine wpListIn_append_own _ rfl _ _ 105 rfl B 119 i0 _ 3 32 underlying105 hi hz0 hz1 hz2 rfl zj _ _ _ rfl (hrow.alloc _) ⟨W.heap.size,0,none⟩ 1 1 (aP x) rfl rfl (Cg W x) (dG x) zA zj zq ?_;intro v' w2 hown' hgrow _;obtain ⟨g',cap',rfl⟩:=ownsRow_succ hown';obtain ⟨hv1,hv2,hr2,hk2,hb2⟩:=hv.appended zr hrow hBs zg hown' hgrow;have hc1:=hv1.cell;have hf1:=hv1.frozen);exact ⟨hk2.from _,hk2.walks,⟨⟨_,hv2,by rw [vN,Zc,ah];simpa [aI] using hr2,zq⟩,jV,hBW.trans hb2⟩⟩
 case done=>
  rintro D ys W hD hall ⟨⟨v,hv,hrow,hpl⟩,hsz,hBW⟩ hK;have g1:=hv.cell;gi_wp2;refine ⟨zt,.inl ⟨_,_,rfl,run_takeDeferred hK,?_⟩⟩;refine ⟨v,by simp [results,f224,go_sem],v,ys,rfl,hall,hpl,?_,?_⟩
  ·exact kn1
  exact ke8
 case stop=>
  exact km9
def PlsAt (w:World) (v:Value) (qs:List Plc):Prop:=(v= .slice none 0 0/\qs= [])\/∃g cap,v= .slice (some ⟨g,0,none⟩) qs.length cap/\g<w.heap.size/\∀j u,(aI aP qs)[j]? =some u->w.cell? ⟨g,j,none⟩=some u
theorem PlsAt.later (h:PlsAt w v qs) (hb:Below w.heap.size w w'):PlsAt w' v qs:=by
 rcases h with h | ⟨g,cap,h1,h2,h3⟩
 ·exact .inl h
 exact .inr ⟨g,cap,h1,vV h2 hb.size,fun j u hj=>(hb.cell (p:=⟨g,j,none⟩) h2).trans (h3 j u hj)⟩
theorem sj (w:World) (Bm b nn:Nat) (f:Sta) (G:gj f) (hBm:Bm<w.heap.size) (hm:w.cell? ⟨Bm,0,none⟩=some (.map (some b))) (hM:MapAt prog 3 w b nn f) (hnn:nn<=2000000):
  Calls prog 168 #[.func (.func 170) #[] #[.pointer (some ⟨Bm,0,none⟩)]] w fun e w'=>∃v ps,e= .returned v/\AllP f ps/\ps.length<=nn/\w'.ownsRow w.heap.size 119 3 v ps.length (aI aP ps)/\Below w.heap.size w w':=by
 have hc:=oC w Bm b nn f G hBm hm hM hnn;go_enter func168,ntmps168;go_wp2_with fail;refine hc.mono ?_;clear hc;rintro e w' ⟨v,ps,rfl,H⟩;have HH:Aside (AllP f ps/\ps.length<=nn/\w'.ownsRow w.heap.size 119 3 v ps.length (aI aP ps)/\Below w.heap.size w w'):=H;clear H;go_wp2;go_ret;exact ⟨v,ps,rfl,HH.o⟩
theorem Cu (w:World) (Bm b nn:Nat) (f:Sta) (G:gj f) (hBm:Bm<w.heap.size) (hm:w.cell? ⟨Bm,0,none⟩=some (.map (some b))) (hM:MapAt prog 3 w b nn f) (hnn:nn<=200000):
  Calls prog 96 #[.func (.func 170) #[] #[.pointer (some ⟨Bm,0,none⟩)],.func (.func 98) #[] #[]] w fun e w'=>∃v qs,e= .returned v/\IsPlaces f qs/\qs.length<=nn/\PlsAt w' v qs/\Below w.heap.size w w'/\∀g,v.ownBlock=some g->w.heap.size<=g:=by
 have hc:=sj w Bm b nn f G hBm hm hM zj;go_enter func96,ntmps96;go_wp2_with fail;refine hc.mono ?_;clear hc;rintro e w1 ⟨v,ps,rfl,hall,hpl,hown,hb⟩
 rcases hown.2 with ⟨rfl,h0⟩ | ⟨g,cap,cur,rfl,hbg,-⟩
 ·have hps:ps= []:=vZ.1 h0
  have HH:Aside (IsPlaces f []/\Below w.heap.size w w1):=⟨by subst hps;exact hall.places (List.Perm.refl _) List.Pairwise.nil,hb⟩
  clear hall hown hb hps h0;go_wp2_with (go_at_call 169;refine (tq none 0 _ _).mono ?_;rintro e w' ⟨rfl,rfl⟩);go_ret;exact ⟨_,[],rfl,HH.o.1,vM _,.inl ⟨rfl,rfl⟩,HH.o.2,fun g e=>yE⟩
 have hs:=NU w1 w.heap.size g cap ps hown zj;have hgl:=(hown.lt g rfl).2
 have HH:Aside (AllP f ps/\ps.length<=nn/\Below w.heap.size w w1/\w.heap.size<=g/\g<w1.heap.size):=⟨hall,hpl,hb,hbg,hgl⟩
 clear hall hown hb hpl hbg hgl;go_wp2_with fail;refine hs.mono ?_;clear hs;rintro e w2 ⟨rfl,qs,hp,hpw,hcells,hk⟩
 have H2:Aside (IsPlaces f qs/\qs.length=ps.length/\qs.length<=nn/\(∀j u,(aI aP qs)[j]? =some u->w2.cell? ⟨g,j,none⟩=some u)/\Below w.heap.size w w2/\g<w2.heap.size/\w.heap.size<=g):=
  ⟨HH.o.1.places hp (List.Pairwise.imp (fun {a b} h=>zj) hpw),hp.length_eq,jU,hcells,HH.o.2.2.1.trans (hk.below (HH.o.2.2.1.size) (fun k e=>by have:=HH.o.2.2.2.1;omega)),vV HH.o.2.2.2.2 hk.size,HH.o.2.2.2.1⟩
 clear hp hpw hcells hk HH;go_wp2;go_ret;exact ⟨_,qs,rfl,H2.o.1,H2.o.2.2.1,.inr ⟨g,cap,by rw [H2.o.2.1];rfl,H2.o.2.2.2.2.2.1,H2.o.2.2.2.1⟩,H2.o.2.2.2.2.1,fun k e=>by cases e;exact H2.o.2.2.2.2.2.2⟩
theorem nT (w:World) (bt bm nn:Nat) (v0:Value) (f:Sta) (G:gj f) (hT:TreeCell w bt bm v0) (hM:MapAt prog 3 w bm nn f) (hnn:nn<=200000):
  Calls prog 51 #[.pointer (some ⟨bt,0,none⟩)] w fun e w'=>∃v qs,e= .returned v/\IsPlaces f qs/\qs.length<=nn/\PlsAt w' v qs/\Below w.heap.size w w'/\∀g,v.ownBlock=some g->w.heap.size<=g:=by
 have t0:=hT.c0;have hv:=callsIn_wide.1 (DC Fence.wide 3 trivial rfl (some bm) w);have hb1:Below w.heap.size w (w.alloc (.cells #[.map (some bm)] 193)):=zh w _;have hbox:Boxed (w.alloc (.cells #[.map (some bm)] 193)) w.heap.size 193 (.map (some bm)):=heap_alloc_new w _;have hs:=Cu (w.alloc (.cells #[.map (some bm)] 193)) w.heap.size bm nn f G zt hbox.cell (hM.same (hb1.block bm hM.lt)) hnn;go_enter func51,ntmps51;go_wp2_with (go_at_call 97;refine hv.mono ?_;clear hv;rintro e w' ⟨rfl,rfl⟩);refine hs.mono ?_;clear hs;rintro e w2 ⟨v,qs,rfl,h1,h2,h3,h4,h5⟩
 have HH:Aside (IsPlaces f qs/\qs.length<=nn/\PlsAt w2 v qs/\Below w.heap.size w w2/\∀g,v.ownBlock=some g->w.heap.size<=g):=⟨h1,h2,h3,hb1.trans (h4.mono zt),fun g hg=>by have:=h5 g hg;simp at this;omega⟩
 clear h1 h2 h3 h4 h5 hb1 hbox;go_wp2;go_ret;exact ⟨v,qs,rfl,HH.o⟩
end
section
open Go.RowKit Go.Shelf Go.Maps
attribute [local go_sem] Oper.semAt_some
def OpsRow (W:World) (g off:Nat) (L:List OpX):Prop:=∀j u,(cellsOf L)[j]? =some u->W.cell? ⟨g,off+j,none⟩=some u
theorem OpsRow.same {off:Nat} (h:OpsRow W g off L) (e:W'.heap[g]? =W.heap[g]?):OpsRow W' g off L:=fun j u hj=>by
 rw [<-h j u hj];exact uc (a:=⟨g,off+j,none⟩) e
theorem OpsRow.at {off:Nat} (h:OpsRow W g off L) {i:Nat} {x:OpX} (hx:L[i]? =some x) (c:Nat) {u:Value} (hu:(bq x)[c]? =some u):W.cell? ⟨g,off+i*8+c,none⟩=some u:=by
 have hin:OpsIn W (some ⟨g,off,none⟩) L:=.inr ⟨g,off,rfl,h⟩;obtain ⟨b,o,e,hc⟩:=hin.get hx
 cases e
 exact hc c u hu
theorem DQ (h:g<W.heap.size) (e:W'.heap[g]? =W.heap[g]?):g<W'.heap.size:=by
 rw [Zy h] at e;exact (vD.1 e).1
theorem Bz (F:Fence) (n:Nat) (h7:F.fn 192) (hro:F.round=none) (hn:1<=n) (l Bs g off cap:Nat) (ao:Option Addr) (L:List OpX) (hlen:L.length<=1000) (hao:L= []\/ao=some ⟨g,off,none⟩) (J Jx:List OpX->World->Prop)
  (hY:∀pre x W,J pre W->pre.length<L.length->YieldAt F (n - 1) prog l #[bT x] W fun e W'=>
   (e= .returned (.bool true)/\J (pre++ [x]) W'/\KeepTwo g Bs W W')\/(e= .returned (.bool false)/\Jx (pre++ [x]) W'))
  (W:World) (hJ:AbidesFrom W.heap.size J) (hBl:Bs<W.heap.size) (hgl:g<W.heap.size) (hBs:W.cell? ⟨Bs,0,none⟩=some (.slice ao L.length cap)) (hc:OpsRow W g off L) (h0:J [] W):
  CallsIn F n prog 192 #[.func (.yield l) #[] #[],.pointer (some ⟨Bs,0,none⟩)] W fun e W'=>(∃v,e= .returned v)/\
   ((∃ys,ys=L/\J ys W')\/(∃pre,True/\Jx pre W')):=by
 refine callsIn_of_wp func192 rfl h7 ?_ hro;simp only [ntmps192,uq,ud,uz,Nat.reduceAdd,Nat.reduceSub,uM,uN,uV,uO,uR,Zb];gi_wp2
 gi_loopw [4,7] (fun _ i wr=>∃k:Nat,k<=L.length/\i= .int .i64 (k:Int)/\J (L.take k) wr/\KeepTwo g Bs W wr)
  (fun _ i _=>(L.length - (intOf i).toNat))
 case atStart=>exact ⟨0,vM _,zt,by simpa using h0,KeepTwo.refl _ _ _⟩
 case round=>
  obtain ⟨k,hk,rfl,hJs,hnx⟩:=hrel;have hBs':wr.cell? ⟨Bs,0,none⟩=some (.slice ao L.length cap):=(uc (a:=⟨Bs,0,none⟩) hnx.2).trans hBs;by_cases hlt:k<L.length
  ·have hao':ao=some ⟨g,off,none⟩:=hao.resolve_left (fun e=>by rw [e] at hlt;simp at hlt);subst hao'
   obtain ⟨⟨t,b,m,kd,nd,o,s,v⟩,hix⟩:∃x,L[k]? =some x:=⟨L[k],vF hlt⟩
   have hJ3:J (L.take k) (wr.alloc (.cells #[.int .i64 t,.int .i64 b,.int .i64 m,.int .u8 (kd:Int),.int .i64 nd,.int .i64 o,.string s,.string v] 61)):=hJ _ wr _ none hJs (World.grownBy_alloc wr _ none) (fun r e=>yE);obtain ⟨fn,tmps,assign,body,hy,hR⟩:=hY _ (t,b,m,kd,nd,o,s,v) _ hJ3 yw;have hrow:=hc.same hnx.1;unfold bT at hy;dsimp only at hy;have c0:wr.cell? ⟨g,off+k*8,none⟩=some (.int .i64 t):=hrow.at hix 0 (u:=.int .i64 t) rfl;have c1:=hrow.at hix 1 (u:=.int .i64 b) rfl;have c2:=hrow.at hix 2 (u:=.int .i64 m) rfl;have c3:=hrow.at hix 3 (u:=.int .u8 (kd:Int)) rfl;have c4:=hrow.at hix 4 (u:=.int .i64 nd) rfl;have c5:=hrow.at hix 5 (u:=.int .i64 o) rfl;have c6:=hrow.at hix 6 (u:=.string s) rfl;have c7:=hrow.at hix 7 (u:=.string v) rfl;have hi0:(0:Int)<=(k:Int):=zj;have hib:(k:Int)<(L.length:Int):=zj;have wk:((k:Int)).toNat=k:=zj;have d1:decide ((k:Int)<(L.length:Int))=true:=zq
   have htake:L.take (k+1)=L.take k++ [(t,b,m,kd,nd,o,s,v)]:=by
    rw [uA,hix];rfl
   have HK:Aside (k<L.length/\KeepTwo g Bs W (wr.alloc (.cells #[.int .i64 t,.int .i64 b,.int .i64 m,.int .u8 (kd:Int),.int .i64 nd,.int .i64 o,.string s,.string v] 61))/\L.take (k+1)=L.take k++ [(t,b,m,kd,nd,o,s,v)]):=⟨hlt,hnx.trans ⟨vP _ _ _ (DQ hgl hnx.1),vP _ _ _ (DQ hBl hnx.2)⟩,htake⟩
   have hR':Aside (RoundIn F (n - 1) prog l fn tmps assign body (wr.alloc (.cells #[.int .i64 t,.int .i64 b,.int .i64 m,.int .u8 (kd:Int),.int .i64 nd,.int .i64 o,.string s,.string v] 61)) fun e W'=>(e= .returned (.bool true)/\J (L.take k++ [(t,b,m,kd,nd,o,s,v)]) W'/\KeepTwo g Bs (wr.alloc (.cells #[.int .i64 t,.int .i64 b,.int .i64 m,.int .u8 (kd:Int),.int .i64 nd,.int .i64 o,.string s,.string v] 61)) W')\/(e= .returned (.bool false)/\Jx (L.take k++ [(t,b,m,kd,nd,o,s,v)]) W')):=hR;clear hlt hk hix hR hrow hnx hJs hY h0 htake hJ3;gi_wp2;refine hR'.o.mono ?_;rintro e W3 (⟨rfl,hJ3,hk3⟩ | ⟨rfl,hJx3⟩)
   ·gi_wp2;go_roundw
    case rel=>exact ⟨k+1,by have:=HK.o.1;omega,zw,by rw [HK.o.2.2];exact hJ3,HK.o.2.1.trans hk3⟩
    case measure=>have:=HK.o.1;simp [intOf];omega
   gi_wp2;refine bodyPost_ret (results_none rfl _ _ _) rfl ?_;exact ⟨⟨_,rfl⟩,.inr ⟨_,trivial,hJx3⟩⟩
  obtain rfl:k=L.length:=zj;have d1:decide ((L.length:Int)<(L.length:Int))=false:=zt;gi_wp2;go_end0;exact ⟨⟨_,rfl⟩,.inl ⟨_,rfl,by rw [uU] at hJs;exact hJs⟩⟩
theorem re (F:Fence) (n:Nat) (h7:F.fn 192) (hro:F.round=none) (hn:1<=n) (Bs g off cap:Nat) (ao:Option Addr) (L:List OpX) (hlen:L.length<=1000) (hao:L= []\/ao=some ⟨g,off,none⟩) (w:World) (hBs:Bs<w.heap.size) (hg:g<w.heap.size)
  (hc:w.cell? ⟨Bs,0,none⟩=some (.slice ao L.length cap)) (hI:OpsRow w g off L):
  SeqStopsK F n prog 192 #[.pointer (some ⟨Bs,0,none⟩)] (fun x:OpX=> #[bT x]) (KeepTwo g Bs) (fun ys=>ys=L) (fun _=>True) L.length w:=fun l J Jx W hW hJ _ hY h0=>by
 have hc':=(hW.cell (p:=⟨Bs,0,none⟩) hBs).trans hc;exact Bz F n h7 hro hn l Bs g off cap ao L hlen hao J Jx hY W hJ (vV hBs hW.size) (vV hg hW.size) hc' (hI.same (hW.block g hg)) h0
theorem Br (a:Option Addr) (len cap:Nat) (w:World):Calls prog 126 #[.slice a len cap] w fun e w'=>e= .returned (.func (.func 192) #[] #[.pointer (some ⟨w.heap.size,0,none⟩)])/\w'=w.alloc (.cells #[.slice a len cap] 25):=by
 go_enter func126,ntmps126;exact kb3
theorem oP (w:World) (Bs g off cap:Nat) (ao:Option Addr) (L:List OpX) (hlen:L.length<=1000) (hao:L= []\/ao=some ⟨g,off,none⟩) (hBs:Bs<w.heap.size) (hg:g<w.heap.size) (hc:w.cell? ⟨Bs,0,none⟩=some (.slice ao L.length cap)) (hI:OpsRow w g off L):
  Calls prog 253 #[.slice none 0 0,.func (.func 192) #[] #[.pointer (some ⟨Bs,0,none⟩)]] w fun e w'=>∃v,e= .returned v/\w'.ownsRow w.heap.size 61 8 v L.length (cellsOf L)/\Below w.heap.size w w':=by
 obtain ⟨i0,hi,hz0,hz1,hz2⟩:=info_parts fw;refine (callsIn_wide (n:=4)).1 ?_;refine callsIn_of_wp_marks func253 rfl trivial ?_ rfl;simp only [ntmps253,uq,ud,uz,Nat.reduceAdd,Nat.reduceSub,uM,uN,uV,uO,uR,Zb];gi_wp2;obtain ⟨w1,hw1⟩:=zc (w.alloc (.cells #[.slice none 0 0] 25));rw [<-hw1];have hB0:Below w.heap.size w w1:=qd;have hs1:w1.heap.size=w.heap.size+1:=xP;obtain ⟨B,hB⟩:=zc w.heap.size;have e1:Boxed w1 B 25 (.slice none 0 0):=qS
 rw [<-hB] at hB0 hs1 hBs hg |-
 have HB:Aside (B=w.heap.size):=hB;have hBw:B<=w.heap.size:=zj;clear hB;have hc1:=(hB0.cell (p:=⟨Bs,0,none⟩) hBs).trans hc;have hI1:=hI.same (hB0.block g hg);clear hw1 hc hI
 refine wpIn_rangeFunc_ownH rfl zj (gf:=192) (lb:= #[.pointer (some ⟨Bs,0,none⟩)]) rfl trivial (enters_of func192 zo rfl)
  (re Fence.wide (4 - 1) trivial rfl zj Bs g off cap ao L hlen hao w1 zj zj hc1 hI1) KeepTwo.trans (fun W l o o' hl _ _ _=>KeepTwo.put (N:=w1.heap.size) zj zj W l o' hl) (vG _ _) (fun _=>rfl)
  (fun pre W=>((∃v,Boxed W B 25 v/\W.ownsRow B 61 8 v pre.length (cellsOf pre)/\pre.length<=L.length))/\(w1.heap.size<=W.heap.size/\Below B w W))
  (fun _ _ _=>False)
  (OwnFrom.and (Own.from (holdsRow_own B B 25 61 8 (fun pre=>pre.length) (fun pre=>cellsOf pre) (fun pre _=>pre.length<=L.length)) _) (OwnFrom.and (fun _ X Y row hs hg _=>vI hs hg.size) (ownFrom_below zj zj)))
  (fun _ _ _ _ _ hs _ _=>hs)
  ⟨⟨_,e1,uf w1 B _ _,vM _⟩,vB _,hB0⟩
  (fun x a' W=>∃Bx,w1.heap.size<=Bx/\OpBlk W Bx x/\a'= {tmps:= #[.slice none 0 0,.func (.func 192) #[] #[.pointer (some ⟨Bs,0,none⟩)],.pointer (some ⟨B,0,none⟩),undef,.slice none 0 0,.pointer (some ⟨Bx,0,none⟩),.func (.func 192) #[] #[.pointer (some ⟨Bs,0,none⟩)],bT x,undef,undef,undef,undef,undef],defers:=[]})
  (fun x a'=>Own.from (fun _ X Y row hs hg hr=>yg) _)
  ?assign ?body ?done ?stop
 case assign=>
  rintro l pre x W K ⟨⟨v,hv,hrow,hpl⟩,hsz,hBW⟩ hK;have hK':Aside _:=hK;have hBs':B<=W.heap.size:=zj;clear hK;unfold bT;gi_wp2;refine hK'.o _ _ ((KeepsOthers.alloc _ _).from _) ⟨vP _ _ _ zj,vP _ _ _ zj⟩ ⟨⟨v,hv.alloc _,hrow.alloc _,hpl⟩,zq,hBW.alloc hBs' _⟩ ⟨W.heap.size,zj,heap_alloc_new W _,rfl⟩
 case body=>
  rintro l pre x a' W hl _ ⟨⟨v,hv,hrow,hpl⟩,hsz,hBW⟩ ⟨Bx,hBx,hE,rfl⟩ hlt;have g1:=hv.cell;obtain ⟨f0,f1,f2,f3,f4,f5,f6,f7,-⟩:=hE.cells;have hBs':B<=W.heap.size:=zj;obtain ⟨t,b,m,kd,nd,o,s,v0⟩:=x;dsimp only at f0 f1 f2 f3 f4 f5 f6 f7;unfold bT;gi_wp2_with (gi_at_builtin;refine wpListIn_append_own _ rfl _ _ 25 rfl B 61 i0 _ 8 80 underlying25 hi hz0 hz1 hz2 rfl zj _ _ _ rfl (hrow.alloc _) ⟨W.heap.size,0,none⟩ 1 1 (bq (t,b,m,kd,nd,o,s,v0)) rfl rfl (dE W (t,b,m,kd,nd,o,s,v0) _) (fP _) zA zj zq ?_;intro v' w2 hown' hgrow _;obtain ⟨g',cap',rfl⟩:=ownsRow_succ hown';obtain ⟨hv1,hv2,hr2,hk2,hb2⟩:=hv.appended zr hrow hBs' zg hown' hgrow;have hc1:=hv1.cell;have hf1:=hv1.frozen);refine ⟨hk2.from _,⟨hb2.block g hg,hb2.block Bs hBs⟩,⟨⟨_,hv2,?_,zq⟩,jV,hBW.trans hb2⟩⟩;rw [vN,Zc,ci];have:cellsOf [(t,b,m,kd,nd,o,s,v0)]=bq (t,b,m,kd,nd,o,s,v0):=xA;rw [this];exact hr2
 case done=>
  rintro D ys W hD hall ⟨⟨v,hv,hrow,hpl⟩,hsz,hBW⟩ hK;have g1:=hv.cell;gi_wp2;refine ⟨zt,.inl ⟨_,_,rfl,run_takeDeferred hK,?_⟩⟩;subst hall;refine ⟨v,by simp [results,f253,go_sem],v,rfl,?_,?_⟩
  ·exact kn1
  exact ke8
 case stop=>
  exact km9
theorem nZ (w:World) (Bs g off cap:Nat) (ao:Option Addr) (L:List OpX) (hlen:L.length<=1000) (hao:L= []\/ao=some ⟨g,off,none⟩) (hBs:Bs<w.heap.size) (hg:g<w.heap.size) (hc:w.cell? ⟨Bs,0,none⟩=some (.slice ao L.length cap)) (hI:OpsRow w g off L):
  Calls prog 190 #[.func (.func 192) #[] #[.pointer (some ⟨Bs,0,none⟩)]] w fun e w'=>∃v,e= .returned v/\w'.ownsRow w.heap.size 61 8 v L.length (cellsOf L)/\Below w.heap.size w w':=by
 have hcl:=oP w Bs g off cap ao L hlen hao hBs hg hc hI;go_enter func190,ntmps190;go_wp2_with fail;refine hcl.mono ?_;clear hcl;rintro e w' ⟨v,rfl,H⟩;have HH:Aside (w'.ownsRow w.heap.size 61 8 v L.length (cellsOf L)/\Below w.heap.size w w'):=H;clear H;go_wp2;go_ret;exact ⟨v,rfl,HH.o⟩
end
section
open Go.RowKit Go.Lib Go.Sort Go.Maps
open scoped Classical
def Cf (p:Plc):List Plc->List Plc
 | []=>[p]
 | q::r=>if q.1<p.1 then q::Cf p r else if q.1=p.1 then p::r else p::q::r
theorem ou {p:Plc} :∀ {L:List Plc},L.Pairwise (fun a b=>a.1<b.1)->∀x,x∈Cf p L↔x=p\/(x∈L/\x.1≠p.1)
 | [],_,x=>by simp [Cf]
 | q::r,h,x=>by
  have hr:=um.1 h;unfold Cf;split
  ·rename_i k;rw [vJ,ou hr.2 x,vJ];constructor
   ·rintro (e | e | ⟨e,e'⟩)
    ·exact .inr ⟨.inl e,by rw [e];omega⟩
    ·exact .inl e
    exact .inr ⟨.inr e,e'⟩
   rintro (e | ⟨e | e,e'⟩)
   ·exact .inr (.inl e)
   ·exact .inl e
   exact .inr (.inr ⟨e,e'⟩)
  rename_i k;split
  ·rename_i k';rw [vJ,vJ];constructor
   ·rintro (e | e)
    ·exact .inl e
    exact .inr ⟨.inr e,by have:=hr.1 x e;omega⟩
   rintro (e | ⟨e | e,e'⟩)
   ·exact .inl e
   ·exact absurd (by rw [e];exact k') e'
   exact .inr e
  rename_i k';rw [vJ,vJ];constructor
  ·rintro (e | e | e)
   ·exact .inl e
   ·exact .inr ⟨.inl e,by rw [e];omega⟩
   exact .inr ⟨.inr e,by have:=hr.1 x e;omega⟩
  rintro (e | ⟨e | e,e'⟩)
  ·exact .inl e
  ·exact .inr (.inl e)
  exact .inr (.inr e)
theorem rv {p:Plc} :∀ {L:List Plc},L.Pairwise (fun a b=>a.1<b.1)->(Cf p L).Pairwise (fun a b=>a.1<b.1)
 | [],_=>by simp [Cf]
 | q::r,h=>by
  have hr:=um.1 h;unfold Cf;split
  ·rename_i k;refine um.2 ⟨fun x hx=> ?_,rv hr.2⟩
   rcases (ou hr.2 x).1 hx with e | ⟨e,_⟩
   ·rw [e];exact k
   exact hr.1 x e
  rename_i k;split
  ·rename_i k';exact um.2 ⟨fun x hx=>by have:=hr.1 x hx;omega,hr.2⟩
  rename_i k';refine um.2 ⟨fun x hx=> ?_,h⟩
  rcases vJ.1 hx with e | e
  ·rw [e];omega
  have:=hr.1 x e;omega
theorem Aq (p:Plc):∀L:List Plc,(Cf p L).length<=L.length+1
 | []=>by simp [Cf]
 | q::r=>by
  have:=Aq p r;unfold Cf;split
  ·simp;omega
  split<;>simp
theorem gu:∀(ms:List Mov) (f:Sta) (L:List Plc),IsPlaces f L->(∀k p,f k=some p->p.1=k)->∃L',IsPlaces (tR f ms) L'/\L'.length<=L.length+ms.length
 | [],f,L,h,_=>⟨L,h,zt⟩
 | m::ms,f,L,h,hk=>by
  by_cases hi:wo f m.2
  ·obtain ⟨L',h1,h2⟩:=gu ms (step f m) L (by rw [dA hi];exact h) (by rw [dA hi];exact hk);exact ⟨L',h1,by simp only [ud];omega⟩
  have hs:IsPlaces (step f m) (Cf m.2 L):=by
   rw [dy hi];refine ⟨rv h.rise,fun x=> ?_⟩;rw [ou h.rise x];unfold upd;by_cases e:x.1=m.2.1
   ·rw [if_pos e];constructor
    ·rintro (q | ⟨_,q⟩)
     ·rw [q]
     exact absurd e q
    intro q;exact .inl (Option.some.inj q).symm
   rw [if_neg e,<-h.mem x];constructor
   ·rintro (q | ⟨q,_⟩)
    ·exact absurd (by rw [q]) e
    exact q
   exact fun q=>.inr ⟨q,e⟩
  obtain ⟨L',h1,h2⟩:=gu ms (step f m) (Cf m.2 L) hs (fun k p q=>by
   rw [dy hi] at q
   unfold upd at q
   split at q
   ·rename_i e
    rw [<-Option.some.inj q];exact e.symm
   ·exact hk k p q)
  refine ⟨L',h1,?_⟩;have:=Aq m.2 L;simp only [ud];omega
theorem rG (ms:List Mov):∃L,IsPlaces (aO ms) L/\L.length<=ms.length:=by
 obtain ⟨L,h1,h2⟩:=gu ms mh [] ⟨List.Pairwise.nil,fun p=>by simp [mh]⟩ (fun k p h=>jc);exact ⟨L,h1,by simpa using h2⟩
end
section
open Go.RowKit Go.Lib Go.Sort
def PlsIn (w:World) (ao:Option Addr) (qs:List Plc):Prop:=qs= []\/∃g off,ao=some ⟨g,off,none⟩/\∀j u,(aI aP qs)[j]? =some u->w.cell? ⟨g,off+j,none⟩=some u
theorem PlsAt.isIn (h:PlsAt w v qs):∃ao cap,v= .slice ao qs.length cap/\PlsIn w ao qs:=by
 rcases h with ⟨h,e⟩ | ⟨g,cap,h,_,hc⟩
 ·exact ⟨none,0,by rw [h,e];rfl,.inl e⟩
 exact ⟨some ⟨g,0,none⟩,cap,h,.inr ⟨g,0,rfl,fun j u hj=>xf⟩⟩
theorem PlsIn.get {ao:Option Addr} (h:PlsIn w ao qs) (hk:qs[k]? =some p):∃g off,ao=some ⟨g,off,none⟩/\w.cell? ⟨g,off+k*3,none⟩=some (.int .i64 p.1)/\w.cell? ⟨g,off+k*3+1,none⟩=some (.int .i64 p.2.1)/\w.cell? ⟨g,off+k*3+2,none⟩=some (.string p.2.2):=by
 rcases h with h | ⟨g,off,h1,h2⟩
 ·rw [h] at hk;simp at hk
 refine ⟨g,off,h1,?_,?_,?_⟩
 ·exact h2 (k*3) _ (by have:=cX cH hk (c:=0) zj;rw [uZ] at this;rw [this];rfl)
 ·rw [uT];exact h2 (k*3+1) _ jx
 rw [uT];exact h2 (k*3+2) _ jx
end
section
open Go.RowKit Go.Lib Go.Sort Go.Maps
def ltr (k:Nat):ByteArray:=⟨#[UInt8.ofNat (97+k)]⟩
def dN (kd k:Nat) (x y:Int):OpX:=
 if kd=0\/kd=1 then (0,0,0,109,0,x,ltr (k % 4),⟨#[]⟩)
 else if kd=2 then (0,0,0,109,y,x,ltr (k % 4),⟨#[]⟩)
 else if kd=3 then (0,0,0,109,y,1,⟨#[116]⟩,⟨#[]⟩)
 else if kd=4\/kd=5\/kd=6 then (0,0,0,105,y,((k % 5:Nat):Int),⟨#[]⟩,ltr (k % 26))
 else if kd=7 then (0,0,0,100,y,((k % 5:Nat):Int),⟨#[]⟩,⟨#[]⟩)
 else (0,0,0,115,y,0,⟨#[109]⟩,⟨#[118,UInt8.ofNat (48+k % 10)]⟩)
def StpBlk (w:World) (b:Nat) (kd n k:Nat):Prop:=w.heap[b]? =some (.cells #[.int .i64 (kd:Int),.int .i64 (n:Int),.int .i64 (k:Int)] 170 (0,0))
theorem StpBlk.lt (h:StpBlk w b kd n k):b<w.heap.size:=(vD.1 h).1
theorem StpBlk.later (h:StpBlk w b kd n k) (hb:Below w.heap.size w w'):StpBlk w' b kd n k:=(hb.block b h.lt).trans h
theorem StpBlk.cells (h:StpBlk w b kd n k):w.cell? ⟨b,0,none⟩=some (.int .i64 (kd:Int))/\w.cell? ⟨b,1,none⟩=some (.int .i64 (n:Int))/\w.cell? ⟨b,2,none⟩=some (.int .i64 (k:Int)):=by
 unfold StpBlk at h;refine ⟨?_,?_,?_⟩<;>simp [World.cell?,h]
def NumsAt (w:World) (g o:Nat) (xs:List Int):Prop:=∀(i:Nat) (x:Int),xs[i]? =some x->w.cell? ⟨g,o+i,none⟩=some (.int .i64 x)
theorem NumsAt.later {o:Nat} {xs:List Int} (h:NumsAt w g o xs) (hb:Below w.heap.size w w'):NumsAt w' g o xs:=fun i x hx=>cv hb (h i x hx)
