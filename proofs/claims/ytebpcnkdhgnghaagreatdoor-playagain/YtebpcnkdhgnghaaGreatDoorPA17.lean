import Derived.Test.YtebpcnkdhgnghaaGreatDoorPA13
import Derived.Test.YtebpcnkdhgnghaaGreatDoorPA14
import Derived.Test.YtebpcnkdhgnghaaGreatDoorPA16
import Derived.Maps.OwnIn
set_option linter.unusedSimpArgs false
set_option linter.unusedVariables false
set_option maxRecDepth 100000
set_option maxHeartbeats 64000000
namespace Go.Proofs.YtebpcnkdhgnghaaGreatDoor
open Go.Proofs.Tryz
variable {T by_:Int} {ms:List Mov} {A L:List OpX} {bc bm br bt bx g i k n p:Nat} {c':Nat→Nat} {kv:Nat→Value} {R:Rws} {v:Value} {W W' w w':World}
section
open Go.RowKit Go.Lib Go.Sort Go.Maps
def EU (ad:Nat->Addr) (w:World) (v:Value) (i:Int) (c:Nat):Prop:=∃b,v= .iface 72 (.pointer (some ⟨b,0,none⟩))/\w.heap[b]? =some (.cells #[.int .i64 i,eV ad c] 75 (0,0))
def lM (ad:Nat->Addr) (w:World) (S l:List OpX) (e:Ending) (w':World):Prop:=(match cA S 0 [] l with
 | .inl (i,c)=>∃v,e= .returned (.tuple #[.slice none 0 0,v])/\EU ad w' v (i:Int) c
 | .inr fresh=>∃v,e= .returned (.tuple #[v,.nilIface])/\w'.ownsRow w.heap.size 61 8 v fresh.length (cellsOf fresh))/\Below w.heap.size w w'
def JM (l:List OpX):Prop:=∀x∈l,x.2.2.2.2.2.2.1.size<=1000000/\x.2.2.2.2.2.2.2.size<=1000000
structure SiftSt (w:World) (S:Nat) (ao:Nat->Option Addr) (cap:Nat->Nat) (R:Rws) (l:List OpX) (k:Nat) (fresh:List OpX) (v:Value) (wr:World):Prop where
 below:Below w.heap.size w wr
 box:KBox wr S ao cap R
 map:NMapAt wr (S+1) k (fun q=>bF fresh q.1 q.2)
 row:wr.ownsRow (S+2) 61 8 v fresh.length (cellsOf fresh)
 fk:FreshK (aX R) fresh
 is:cA (aX R) 0 [] l=cA (aX R) k fresh (l.drop k)
 len:fresh.length<=k
theorem NMapAt.mono {w:World} {b n n':Nat} {f:BH} (h:NMapAt w b n f) (hn:n<=n'):NMapAt w b n' f:=by
 obtain ⟨D,h,r⟩:=h;exact ⟨D,h.mono hn,r⟩
theorem SiftSt.later {w:World} {S:Nat} {ao:Nat->Option Addr} {cap:Nat->Nat} {R:Rws} {l:List OpX} {k:Nat} {fresh:List OpX} {v:Value} {wr w':World} (h:SiftSt w S ao cap R l k fresh v wr) (hb:Below wr.heap.size wr w'):SiftSt w S ao cap R l k fresh v w':=
 ⟨zi h.below hb,h.box.later hb,h.map.same (hb.block _ h.map.lt),au h.row (fun g hg=>hb.block g (h.row.lt g hg).2),h.fk,h.is,h.len⟩
theorem DH (fresh:List OpX) (o:OpX):(fun q:mn=>bF (fresh++ [o]) q.1 q.2)=(fun q:mn=>if q=(byO o,ah o) then (bF fresh q.1 q.2).or (some o) else bF fresh q.1 q.2):=by
 funext q
 rw [pG]
 unfold bF
 by_cases h:q=(byO o,ah o)
 ·rw [if_pos h,h]
  simp
 rw [if_neg h]
 have:¬(byO o=q.1/\ah o=q.2):=fun e=>h (by rw [e.1,e.2])
 simp [this]
theorem dN (w:World) (x:OpX) (T:TypeId) (j:Nat) (u:Value) (hj:(cN x)[j]? =some u):(w.alloc (.cells #[.int .i64 x.1,.int .i64 x.2.1,.int .i64 x.2.2.1,.int .u8 (x.2.2.2.1:Int),.int .i64 x.2.2.2.2.1,.int .i64 x.2.2.2.2.2.1,.string x.2.2.2.2.2.2.1,.string x.2.2.2.2.2.2.2] T)).cell? ((⟨w.heap.size,0,none⟩:Addr).add j)=some u:=by
 rw [Addr.add_lit,vh]
 have h:=heap_alloc_new w (.cells #[.int .i64 x.1,.int .i64 x.2.1,.int .i64 x.2.2.1,.int .u8 (x.2.2.2.1:Int),.int .i64 x.2.2.2.2.1,.int .i64 x.2.2.2.2.2.1,.string x.2.2.2.2.2.2.1,.string x.2.2.2.2.2.2.2] T)
 simp only [World.cell?,h]
 rw [<-hj]
 simp [cN]
theorem DR (w2:World) (o:Obj) (a b:Value):((w2.alloc o).alloc (.cells #[a,b] 75)).drew.heap[w2.heap.size+1]? =some (.cells #[a,b] 75 (0,0)):=by
 have:=heap_alloc_new (w2.alloc o) (.cells #[a,b] 75)
 exact kc8
theorem Iw {ad:Nat->Addr} (w:World) (ao:Nat->Option Addr) (cap:Nat->Nat) (R:Rws) (la:Option Addr) (lc:Nat) (l:List OpX) (hE:Op4 ad w) (hX:w.cell? ⟨7,0,none⟩=some (.iface 450 (.pointer (some (ad 6))))) (hK:KnownAt w ao R) (hN:NumK R) (hl:∀i,i<4->(R i).length<=1000) (hin:OpsIn w la l) (hs:JM l) (hn:l.length<=1000):
  Calls prog 68 #[kV ao cap R,.slice la l.length lc] w (lM ad w (aX R) l):=by
 obtain ⟨S,hS⟩:=za w.heap.size
 obtain ⟨U,hU⟩:=za ((w.alloc (.cells #[.slice (ao 0) (R 0).length (cap 0),.slice (ao 1) (R 1).length (cap 1),.slice (ao 2) (R 2).length (cap 2),.slice (ao 3) (R 3).length (cap 3)] 112)).alloc (.map #[] 0))
 have hb:Below w.heap.size w U:=zH
 have hk:KBox U S ao cap R:=zQ
 have hm:NMapAt U (S+1) 0 (fun q=>bF [] q.1 q.2):=by
  rw [hU,hS]
  have:=tz (w.alloc (.cells #[.slice (ao 0) (R 0).length (cap 0),.slice (ao 1) (R 1).length (cap 1),.slice (ao 2) (R 2).length (cap 2),.slice (ao 3) (R 3).length (cap 3)] 112))
  exact kc8
 have H0:Aside (SiftSt w S ao cap R l 0 [] (.slice none 0 0) U):=⟨hb,hk,hm,vD _ _ _ _,dK _,rfl,jL _⟩
 have HE:Aside (Op4 ad w/\KnownAt w ao R/\OpsIn w la l/\S=w.heap.size):=⟨hE,hK,hin,hS⟩
 have HX:Aside (w.cell? ⟨7,0,none⟩=some (.iface 450 (.pointer (some (ad 6))))):=hX
 clear hb hk hm hE hK hin hX
 unfold kV
 have hmm:= @run_makeMap prog
 go_enter func68,ntmps68
 go_wp2
 rw [<-hU,<-hS]
 clear hU hS hmm
 go_loopg [6,17] l.length (fun kx s6 s17 wr=>∃(k:Nat) (fresh:List OpX) (ov:Value),s17= .int .i64 (k:Int)/\ov=s6/\k<=l.length/\l.length - k<=kx/\Aside (SiftSt w S ao cap R l k fresh ov wr))
 case atStart=>exact ⟨0,[],_,rfl,rfl,jX _,jL _,H0.o⟩
 case round=>
  obtain ⟨k,fresh,ov,rfl,rfl,hkl,hkx,A⟩:=hrel
  clear H0
  by_cases hlt:k<l.length
  ·have d1:decide ((k:Int)<(l.length:Int))=true:=by simp;omega
   have wk:((k:Int)).toNat=k:=zj
   have pk:(0:Int)<=(k:Int):=zj
   have bk:(k:Int)<(l.length:Int):=zj
   obtain ⟨⟨t,b,n,kd,nd,o,s,v⟩,hx⟩:∃x,Aside (l[k]? =some x):=⟨l[k],jK hlt⟩
   have hdrop:Aside (l.drop k=(t,b,n,kd,nd,o,s,v)::l.drop (k+1)):=by
    show l.drop k=_
    exact ko2
   have hsz:=hs _ (jT hx.o)
   obtain ⟨blk,off,hao,hc⟩:=(HE.o.2.2.1.later A.o.below).get hx.o
   subst hao
   have r0:=hc 0 _ rfl
   have r1:=hc 1 _ rfl
   have r2:=hc 2 _ rfl
   have r3:=hc 3 _ rfl
   have r4:=hc 4 _ rfl
   have r5:=hc 5 _ rfl
   have r6:=hc 6 _ rfl
   have r7:=hc 7 _ rfl
   simp only [vI] at r0
   clear hc
   obtain ⟨U,hU⟩:=za (wr.alloc (.cells #[.int .i64 t,.int .i64 b,.int .i64 n,.int .u8 (kd:Int),.int .i64 nd,.int .i64 o,.string s,.string v] 61))
   have hbU:Below wr.heap.size wr U:=by rw [hU];exact zh wr _
   have O1:OpBlk U wr.heap.size (t,b,n,kd,nd,o,s,v):=by rw [hU];exact OpBlk.new wr (t,b,n,kd,nd,o,s,v)
   have hck:=bX t b n kd nd o s v U (HE.o.1.later (zi A.o.below hbU)) hsz.1 hsz.2
   have H1:Aside (SiftSt w S ao cap R l k fresh ov U/\OpBlk U wr.heap.size (t,b,n,kd,nd,o,s,v)):=⟨A.o.later hbU,O1⟩
   have e0:bY (t,b,n,kd,nd,o,s,v)=opE t b n kd nd o s.data.toList v.data.toList:=rfl
   rw [<-e0] at hck
   clear e0 hbU O1
   by_cases herr:bY (t,b,n,kd,nd,o,s,v)=0
   ·rw [herr] at hck
    have hev:eV ad 0= .nilIface:=rfl
    rw [hev] at hck
    clear hev
    obtain ⟨i,hi,hbi,-⟩:=kG herr
    have hbi:b=(i:Int):=hbi
    subst hbi
    obtain ⟨m,hm,hm4⟩:∃m:Nat,n=(m:Int)+1/\m<400:=by
     have q:=ax herr
     have q5:1<=n:=q.2.2.2.2.1
     have q6:n<=400:=q.2.2.2.2.2.1
     exact ⟨(n - 1).toNat,zj,zj⟩
    subst hm
    have HERR:Aside (bY (t,(i:Int),(m:Int)+1,kd,nd,o,s,v)=0):=herr
    clear herr
    go_wp2_with fail
    rw [<-hU]
    clear hU r0 r1 r2 r3 r4 r5 r6 r7
    refine hck.mono ?_
    clear hck
    rintro e w1 ⟨rfl,hb1⟩
    obtain ⟨P,hP⟩:=za wr.heap.size
    obtain ⟨Q,hQ⟩:=za w1.heap.size
    obtain ⟨V,hV⟩:=za (w1.alloc (.cells #[.int .i64 (i:Int),.int .i64 ((m:Int)+1)] 222))
    have hbV:Below w1.heap.size w1 V:=by rw [hV];exact zh w1 _
    have N1:V.heap[Q]? =some (.cells #[.int .i64 (i:Int),.int .i64 ((m:Int)+1)] 222 (0,0)):=by rw [hV,hQ];exact heap_alloc_new w1 _
    have H2:Aside (SiftSt w S ao cap R l k fresh ov V/\OpBlk V P (t,(i:Int),(m:Int)+1,kd,nd,o,s,v)/\V.heap[Q]? =some (.cells #[.int .i64 (i:Int),.int .i64 ((m:Int)+1)] 222 (0,0))/\P<Q/\S+1<P/\V.heap.size=Q+1):=by
     have hp1:=(H1.o.2.later hb1)
     refine ⟨(H1.o.1.later hb1).later hbV,by rw [hP];exact hp1.later hbV,N1,by rw [hP,hQ];exact hp1.lt,by rw [hP];exact A.o.map.lt,by rw [hV,hQ];simp⟩
    rw [<-hP]
    obtain ⟨y0,y1,y2,y3,y4,y5,y6,y7,f8⟩:=(H1.o.2.later hb1).cells
    rw [<-hP] at y0 y1 y2 y3 y4 y5 y6 y7 f8
    dsimp only at y0 y1 y2 y3 y4 y5 y6 y7
    have HV:Aside (V=w1.alloc (.cells #[.int .i64 (i:Int),.int .i64 ((m:Int)+1)] 222)/\Q=w1.heap.size/\P=wr.heap.size):=⟨hV,hQ,hP⟩
    clear hb1 hbV H1 N1 hV hQ hP
    obtain ⟨q0,q1⟩:V.cell? ⟨Q,0,none⟩=some (.int .i64 (i:Int))/\V.cell? ⟨Q,1,none⟩=some (.int .i64 ((m:Int)+1)):=by
     have:=H2.o.2.2.1
     constructor<;>simp [World.cell?,this]
    have k0:=H2.o.1.box.at (i:=0) zj
    have k1:=H2.o.1.box.at (i:=1) zj
    have k2:=H2.o.1.box.at (i:=2) zj
    have k3:=H2.o.1.box.at (i:=3) zj
    go_upto_region 10 with fail
    rw [<-HV.o.1,<-HV.o.2.1]
    clear y0 y1 y2 y3 y4 y5 y6 y7 f8
    go_wp2_with fail
    clear q0 q1 k0 k1 k2 k3
    have hlook:Aside (bF (aX R++fresh) (byO (t,(i:Int),(m:Int)+1,kd,nd,o,s,v)) (ah (t,(i:Int),(m:Int)+1,kd,nd,o,s,v))=((R i)[m]?).or (bF fresh (i:Int) ((m:Int)+1))):=by
     show bF (aX R++fresh) (i:Int) ((m:Int)+1)=_
     rw [pG,hN.look hi]
    cases hy:(R i)[m]? with
    | some y=>
     obtain ⟨t',b',n',kd',nd',o',s',v'⟩:=y
     have hcall:=tj V ao cap R i m _ (HE.o.2.1.later H2.o.1.below) hi zj hy
     unfold kV ar at hcall
     dsimp only at hcall
     refine hcall.mono ?_
     clear hcall
     rintro e w2 ⟨rfl,hb2⟩
     have H3:Aside (SiftSt w S ao cap R l k fresh ov w2/\OpBlk w2 P (t,(i:Int),(m:Int)+1,kd,nd,o,s,v)):=⟨H2.o.1.later hb2,H2.o.2.1.later hb2⟩
     have hpl:=H3.o.2.lt
     obtain ⟨y0,y1,y2,y3,y4,y5,y6,y7,f8⟩:=H3.o.2.cells
     dsimp only at y0 y1 y2 y3 y4 y5 y6 y7
     have heq:=fun w=>Of t' b' n' kd' nd' o' s' v' t (i:Int) ((m:Int)+1) kd nd o s v w
     have HY:Aside ((R i)[m]? =some (t',b',n',kd',nd',o',s',v')):=hy
     clear hb2 H2 HV hy
     cases hq:eqB t' b' n' kd' nd' o' s' v' t (i:Int) ((m:Int)+1) kd nd o s v with
     | true=>
      have HQ:Aside ((t',b',n',kd',nd',o',s',v')=(t,(i:Int),(m:Int)+1,kd,nd,o,s,v)):=by
       exact kj5
      rw [hq] at heq
      clear hq
      go_wp2
      go_roundg (l.length - (k+1))
      case measure=>omega
      case rel=>
       have hS3:=H3.o.1.later ((jN w2.heap.size w2).alloc zg (.cells #[.int .i64 t',.int .i64 b',.int .i64 n',.int .u8 (kd':Int),.int .i64 nd',.int .i64 o',.string s',.string v'] 61))
       refine ⟨k+1,fresh,ov,zI,rfl,zj,jL _,⟨hS3.below,hS3.box,hS3.map.mono zj,hS3.row,hS3.fk,?_,by have:=hS3.len;omega⟩⟩
       rw [hS3.is,hdrop.o]
       exact fH HERR.o (by rw [hlook.o,HY.o,HQ.o];rfl)
     | false=>
      have HQ:Aside ((t',b',n',kd',nd',o',s',v')≠(t,(i:Int),(m:Int)+1,kd,nd,o,s,v)):=fun e=>by
       cases e
       rw [As] at hq
       cases hq
      rw [hq] at heq
      clear hq
      have x6:=HX.o
      have x6:w2.cell? ⟨7,0,none⟩=some (.iface 450 (.pointer (some (ad 6)))):=(H3.o.1.below.cell (p:=⟨7,0,none⟩) (jR w ⟨7,0,none⟩ HX.o)).trans HX.o
      have hgl:7<w2.heap.size:=jR w2 ⟨7,0,none⟩ x6
      go_wp2
      go_region
      all_goals
       go_wp2
       go_ret2
       unfold lM
       rw [A.o.is,hdrop.o,gZ HERR.o (by rw [hlook.o,HY.o];rfl) HQ.o]
       exact ki1
    | none=>
     have hcall:=wN V ao cap R i m hi (List.getElem?_eq_none_iff.1 hy)
     unfold kV ar aT at hcall
     refine hcall.mono ?_
     clear hcall
     rintro e w2 ⟨rfl,hb2⟩
     have H3:Aside (SiftSt w S ao cap R l k fresh ov w2/\OpBlk w2 P (t,(i:Int),(m:Int)+1,kd,nd,o,s,v)/\w2.heap[Q]? =some (.cells #[.int .i64 (i:Int),.int .i64 ((m:Int)+1)] 222 (0,0))/\P<Q/\S+1<P):=⟨H2.o.1.later hb2,H2.o.2.1.later hb2,(hb2.block Q (by have:=H2.o.2.2.2.2.2;omega)).trans H2.o.2.2.1,H2.o.2.2.2.1,H2.o.2.2.2.2.1⟩
     have hpl:=H3.o.2.1.lt
     have hql:Q<w2.heap.size:=(jJ.1 H3.o.2.2.1).1
     obtain ⟨y0,y1,y2,y3,y4,y5,y6,y7,f8⟩:=H3.o.2.1.cells
     dsimp only at y0 y1 y2 y3 y4 y5 y6 y7
     obtain ⟨q0,q1⟩:w2.cell? ⟨Q,0,none⟩=some (.int .i64 (i:Int))/\w2.cell? ⟨Q,1,none⟩=some (.int .i64 ((m:Int)+1)):=by
      have:=H3.o.2.2.1
      constructor<;>simp [World.cell?,this]
     have HN:Aside ((R i)[m]? =none):=hy
     clear hb2 H2 HV hy
     have hwf:WfN ((i:Int),(m:Int)+1):=NE zj zj zj zj
     have hlk:=(H3.o.1.map.same (jV w2 (.cells #[.int .i64 0,.int .i64 0,.int .i64 0,.int .u8 0,.int .i64 0,.int .i64 0,.string ⟨#[]⟩,.string ⟨#[]⟩] 61) (S+1) H3.o.1.map.lt)).look hwf
     unfold Cf at hlk
     dsimp only at hlk
     cases hy:bF fresh (i:Int) ((m:Int)+1) with
     | some y=>
      obtain ⟨t',b',n',kd',nd',o',s',v'⟩:=y
      rw [hy] at hlk
      unfold ar at hlk
      dsimp only [Option.getD_some,Option.isSome_some] at hlk
      have heq:=fun w=>Of t' b' n' kd' nd' o' s' v' t (i:Int) ((m:Int)+1) kd nd o s v w
      have HY:Aside (bF fresh (i:Int) ((m:Int)+1)=some (t',b',n',kd',nd',o',s',v')):=hy
      clear hy
      cases hq:eqB t' b' n' kd' nd' o' s' v' t (i:Int) ((m:Int)+1) kd nd o s v with
      | true=>
       have HQ:Aside ((t',b',n',kd',nd',o',s',v')=(t,(i:Int),(m:Int)+1,kd,nd,o,s,v)):=by
        exact kj5
       rw [hq] at heq
       clear hq
       go_wp2
       go_roundg (l.length - (k+1))
       case measure=>omega
       case rel=>
        have hS3:=H3.o.1.later ((jN w2.heap.size w2).alloc zg (.cells #[.int .i64 t',.int .i64 b',.int .i64 n',.int .u8 (kd':Int),.int .i64 nd',.int .i64 o',.string s',.string v'] 61))
        refine ⟨k+1,fresh,ov,zI,rfl,zj,jL _,⟨hS3.below,hS3.box,hS3.map.mono zj,hS3.row,hS3.fk,?_,by have:=hS3.len;omega⟩⟩
        rw [hS3.is,hdrop.o]
        exact fH HERR.o (by rw [hlook.o,HN.o,HY.o,HQ.o];rfl)
      | false=>
       have HQ:Aside ((t',b',n',kd',nd',o',s',v')≠(t,(i:Int),(m:Int)+1,kd,nd,o,s,v)):=fun e=>by
        cases e
        rw [As] at hq
        cases hq
       rw [hq] at heq
       clear hq
       have x6:=HX.o
       have x6:w2.cell? ⟨7,0,none⟩=some (.iface 450 (.pointer (some (ad 6)))):=(H3.o.1.below.cell (p:=⟨7,0,none⟩) (jR w ⟨7,0,none⟩ HX.o)).trans HX.o
       have hgl:7<w2.heap.size:=jR w2 ⟨7,0,none⟩ x6
       go_wp2
       go_region
       all_goals
        go_wp2
        go_ret2
        unfold lM
        rw [A.o.is,hdrop.o,gZ HERR.o (by rw [hlook.o,HN.o,HY.o];rfl) HQ.o]
        exact ki1
     | none=>
      rw [hy] at hlk
      unfold ar aT at hlk
      dsimp only [Option.getD_none,Option.isSome_none] at hlk
      have HY:Aside (bF fresh (i:Int) ((m:Int)+1)=none):=hy
      clear hy
      have hlen:=A.o.len
      have hmapZ:=(H3.o.1.map.same (jV w2 (.cells #[.int .i64 0,.int .i64 0,.int .i64 0,.int .u8 0,.int .i64 0,.int .i64 0,.string ⟨#[]⟩,.string ⟨#[]⟩] 61) (S+1) H3.o.1.map.lt))
      obtain ⟨w3,hrun,hM3,hT3⟩:=hmapZ.store zu hwf (t,(i:Int),(m:Int)+1,kd,nd,o,s,v)
      have K3:=aP hT3.grown
      have HZ:=H3.o.1.later ((jN w2.heap.size w2).alloc zg (.cells #[.int .i64 0,.int .i64 0,.int .i64 0,.int .u8 0,.int .i64 0,.int .i64 0,.string ⟨#[]⟩,.string ⟨#[]⟩] 61))
      have hO3:OpBlk w3 P (t,(i:Int),(m:Int)+1,kd,nd,o,s,v):=(K3.block P zl (fun e=>by have:=H3.o.2.2.2.2;simp at e;omega)).trans (H3.o.2.1.later ((jN w2.heap.size w2).alloc zg _))
      have hB3:Below w.heap.size w w3:=HZ.below.trans (K3.below HZ.below.size (fun k e=>by have:=HE.o.2.2.2;simp at e;omega))
      have hR3:w3.ownsRow (S+2) 61 8 ov fresh.length (cellsOf fresh):=au HZ.row (fun g hg=>K3.block g (HZ.row.lt g hg).2 (fun e=>by have:=(HZ.row.lt g hg).1;simp at e;omega))
      have hX3:KBox w3 S ao cap R:=(K3.block S HZ.box.lt (fun e=>by simp at e)).trans HZ.box
      have hM3':NMapAt w3 (S+1) (k+1) (fun q=>bF (fresh++ [(t,(i:Int),(m:Int)+1,kd,nd,o,s,v)]) q.1 q.2):=by
       rw [DH]
       have e:(fun q:mn=>if q=(byO (t,(i:Int),(m:Int)+1,kd,nd,o,s,v),ah (t,(i:Int),(m:Int)+1,kd,nd,o,s,v)) then (bF fresh q.1 q.2).or (some (t,(i:Int),(m:Int)+1,kd,nd,o,s,v)) else bF fresh q.1 q.2)=(fun q:mn=>if q=((i:Int),(m:Int)+1) then some (t,(i:Int),(m:Int)+1,kd,nd,o,s,v) else bF fresh q.1 q.2):=by
        funext q
        show (if q=((i:Int),(m:Int)+1) then _ else _)=_
        split
        ·rename_i e;rw [e];show (bF fresh (i:Int) ((m:Int)+1)).or _=_;rw [HY.o];rfl
        rfl
       rw [e]
       exact hM3
      have hp3:=hO3.lt
      obtain ⟨z0,z1,z2,z3,z4,z5,z6,z7,g8⟩:=hO3.cells
      dsimp only at z0 z1 z2 z3 z4 z5 z6 z7
      have H4:Aside (Below w.heap.size w w3/\KBox w3 S ao cap R/\NMapAt w3 (S+1) (k+1) (fun q=>bF (fresh++ [(t,(i:Int),(m:Int)+1,kd,nd,o,s,v)]) q.1 q.2)/\w3.ownsRow (S+2) 61 8 ov fresh.length (cellsOf fresh)/\S+1<w3.heap.size):=⟨hB3,hX3,hM3',hR3,hM3'.lt⟩
      unfold Cf ar at hrun
      dsimp only at hrun
      obtain ⟨i0,hi0,hz0,hz1,hz2⟩:=info_parts fV
      clear hM3 hT3 K3 HZ hO3 hB3 hR3 hX3 hM3' hmapZ
      go_wp2_with (at_builtin;refine wpList_append_own _ rfl _ _ 25 rfl (S+2) 61 i0 _ 8 80 underlying25 hi0 hz0 hz1 hz2 rfl zj _ _ _ rfl (H4.o.2.2.2.1.alloc _) ⟨w3.heap.size,0,none⟩ 1 1 (cN (t,(i:Int),(m:Int)+1,kd,nd,o,s,v)) rfl ?qc1 ?qc2 ?qc3 ?qc4 ?qc5 ?qc6 ?_)
      case qc1=>rfl
      case qc2=>exact dN w3 (t,(i:Int),(m:Int)+1,kd,nd,o,s,v) _
      case qc3=>exact cB _
      case qc4=>simp only [maxLen];omega
      case qc5=>omega
      case qc6=>simp;have:=H4.o.2.2.2.2;omega
      intro v' w4 hown hgrow hnil
      have K4:=aP hgrow
      have hN:Aside (SiftSt w S ao cap R l (k+1) (fresh++ [(t,(i:Int),(m:Int)+1,kd,nd,o,s,v)]) v' w4):=by
       have hbA:Below w3.heap.size w3 (w3.alloc (.cells #[.int .i64 t,.int .i64 (i:Int),.int .i64 ((m:Int)+1),.int .u8 (kd:Int),.int .i64 nd,.int .i64 o,.string s,.string v] 61)):=zh w3 _
       have hrow:=H4.o.2.2.2.1
       have hsz:=H4.o.2.2.2.2
       have hne:∀g,some g=ov.ownBlock->S+2<=g:=fun g hg=>(hrow.lt g hg.symm).1
       refine ⟨?_,?_,?_,?_,A.o.fk.snoc HERR.o ?_,?_,zl⟩
       ·exact (zi H4.o.1 hbA).trans (K4.below (jM H4.o.1.size hbA.size) (fun g hg=>by have:=hne g hg;have:=HE.o.2.2.2;omega))
       ·exact (K4.block S zl (fun e=>by have:=hne S e;omega)).trans ((hbA.block S zj).trans H4.o.2.1)
       ·exact H4.o.2.2.1.same ((K4.block (S+1) zl (fun e=>by have:=hne _ e;omega)).trans (hbA.block _ hsz))
       ·rw [cl,jP]
        have:cellsOf [(t,(i:Int),(m:Int)+1,kd,nd,o,s,v)]=cN (t,(i:Int),(m:Int)+1,kd,nd,o,s,v):=by simp [cellsOf]
        rw [this]
        exact hown
       ·rw [hlook.o,HN.o,HY.o];rfl
       rw [A.o.is,hdrop.o,lQ HERR.o (by rw [hlook.o,HN.o,HY.o];rfl)]
      clear K4 hown hgrow hnil H4 H3 hlk hrun z0 z1 z2 z3 z4 z5 z6 z7 g8 y0 y1 y2 y3 y4 y5 y6 y7 f8 q0 q1
      go_wp2
      go_roundg (l.length - (k+1))
      case measure=>omega
      case rel=>exact ⟨k+1,_,_,zI,rfl,zj,jL _,hN.o⟩
   obtain ⟨c,hc⟩:=za (bY (t,b,n,kd,nd,o,s,v))
   rw [<-hc] at hck
   have hev:eV ad c= .iface 450 (.pointer (some (ad (c - 1)))):=by unfold eV;rw [if_neg zj]
   rw [hev] at hck
   have HC:Aside (bY (t,b,n,kd,nd,o,s,v)≠0/\c=bY (t,b,n,kd,nd,o,s,v)/\eV ad c= .iface 450 (.pointer (some (ad (c - 1))))):=⟨herr,hc,hev⟩
   clear hev hc herr
   go_wp2_with fail
   rw [<-hU]
   clear hU r0 r1 r2 r3 r4 r5 r6 r7
   refine hck.mono ?_
   clear hck
   rintro e w1 ⟨rfl,hb1⟩
   have B1:Aside (Below w.heap.size w w1):=(H1.o.1.later hb1).below
   clear hb1
   go_wp2
   go_ret2
   unfold lM
   rw [A.o.is,hdrop.o,pT HC.o.1]
   exact ⟨⟨_,rfl,w1.heap.size,rfl,by rw [<-HC.o.2.1,HC.o.2.2];exact heap_alloc_new w1 _⟩,B1.o.alloc B1.o.size _⟩
  have d1:decide ((k:Int)<(l.length:Int))=false:=zl
  go_wp2
  go_ret2
  unfold lM
  have:=A.o.is
  rw [uv zj,cA] at this
  rw [this]
  refine ⟨⟨_,rfl,tY A.o.row (by have:=HE.o.2.2.2;omega)⟩,A.o.below⟩
end
section
open Go.RowKit Go.Shelf Go.Maps
attribute [local go_sem] Oper.semAt_some
def OpsRow (W:World) (g off:Nat) (L:List OpX):Prop:=∀j u,(cellsOf L)[j]? =some u->W.cell? ⟨g,off+j,none⟩=some u
theorem OpsRow.same {off:Nat} (h:OpsRow W g off L) (e:W'.heap[g]? =W.heap[g]?):OpsRow W' g off L:=fun j u hj=>by
 rw [<-h j u hj]
 exact vi (a:=⟨g,off+j,none⟩) e
theorem OpsRow.at {off:Nat} (h:OpsRow W g off L) {x:OpX} (hx:L[i]? =some x) (c:Nat) {u:Value} (hu:(cN x)[c]? =some u):W.cell? ⟨g,off+i*8+c,none⟩=some u:=by
 have hin:OpsIn W (some ⟨g,off,none⟩) L:=.inr ⟨g,off,rfl,h⟩
 obtain ⟨b,o,e,hc⟩:=hin.get hx
 cases e
 exact hc c u hu
theorem Eg (h:g<W.heap.size) (e:W'.heap[g]? =W.heap[g]?):g<W'.heap.size:=by
 rw [vG h] at e
 exact (jJ.1 e).1
theorem CC (F:Fence) (n:Nat) (h7:F.fn 192) (hro:F.round=none) (hn:1<=n) (l Bs g off cap:Nat) (ao:Option Addr) (L:List OpX) (hlen:L.length<=1000) (hao:L= []\/ao=some ⟨g,off,none⟩) (J Jx:List OpX->World->Prop)
  (hY:∀pre x W,J pre W->pre.length<L.length->YieldAt F (n - 1) prog l #[ar x] W fun e W'=>
   (e= .returned (.bool true)/\J (pre++ [x]) W'/\KeepTwo g Bs W W')\/(e= .returned (.bool false)/\Jx (pre++ [x]) W'))
  (W:World) (hJ:AbidesFrom W.heap.size J) (hBl:Bs<W.heap.size) (hgl:g<W.heap.size) (hBs:W.cell? ⟨Bs,0,none⟩=some (.slice ao L.length cap)) (hc:OpsRow W g off L) (h0:J [] W):
  CallsIn F n prog 192 #[.func (.yield l) #[] #[],.pointer (some ⟨Bs,0,none⟩)] W fun e W'=>(∃v,e= .returned v)/\
   ((∃ys,ys=L/\J ys W')\/(∃pre,True/\Jx pre W')):=by
 refine callsIn_of_wp func192 rfl h7 ?_ hro
 simp only [ntmps192,vu,jY,vw,Nat.reduceAdd,Nat.reduceSub,vQ,vR,vY,vT,ua,vX]
 gi_wp2
 gi_loopw [4,7] (fun _ i wr=>∃k:Nat,k<=L.length/\i= .int .i64 (k:Int)/\J (L.take k) wr/\KeepTwo g Bs W wr)
  (fun _ i _=>(L.length - (intOf i).toNat))
 case atStart=>exact ⟨0,jX _,zq,by simpa using h0,KeepTwo.refl _ _ _⟩
 case round=>
  obtain ⟨k,hk,rfl,hJs,hnx⟩:=hrel
  have hBs':wr.cell? ⟨Bs,0,none⟩=some (.slice ao L.length cap):=(vi (a:=⟨Bs,0,none⟩) hnx.2).trans hBs
  by_cases hlt:k<L.length
  ·have hao':ao=some ⟨g,off,none⟩:=hao.resolve_left (fun e=>by rw [e] at hlt;simp at hlt)
   subst hao'
   obtain ⟨⟨t,b,m,kd,nd,o,s,v⟩,hix⟩:∃x,L[k]? =some x:=⟨L[k],jK hlt⟩
   have hJ3:J (L.take k) (wr.alloc (.cells #[.int .i64 t,.int .i64 b,.int .i64 m,.int .u8 (kd:Int),.int .i64 nd,.int .i64 o,.string s,.string v] 61)):=hJ _ wr _ none hJs (World.grownBy_alloc wr _ none) (fun r e=>qu)
   obtain ⟨fn,tmps,assign,body,hy,hR⟩:=hY _ (t,b,m,kd,nd,o,s,v) _ hJ3 (by rw [vj];omega)
   have hrow:=hc.same hnx.1
   unfold ar at hy
   dsimp only at hy
   have c0:wr.cell? ⟨g,off+k*8,none⟩=some (.int .i64 t):=hrow.at hix 0 (u:=.int .i64 t) rfl
   have c1:=hrow.at hix 1 (u:=.int .i64 b) rfl
   have c2:=hrow.at hix 2 (u:=.int .i64 m) rfl
   have c3:=hrow.at hix 3 (u:=.int .u8 (kd:Int)) rfl
   have c4:=hrow.at hix 4 (u:=.int .i64 nd) rfl
   have c5:=hrow.at hix 5 (u:=.int .i64 o) rfl
   have c6:=hrow.at hix 6 (u:=.string s) rfl
   have c7:=hrow.at hix 7 (u:=.string v) rfl
   have hi0:(0:Int)<=(k:Int):=zj
   have hib:(k:Int)<(L.length:Int):=zj
   have wk:((k:Int)).toNat=k:=zj
   have d1:decide ((k:Int)<(L.length:Int))=true:=zl
   have htake:L.take (k+1)=L.take k++ [(t,b,m,kd,nd,o,s,v)]:=by
    rw [vV,hix];rfl
   have HK:Aside (k<L.length/\KeepTwo g Bs W (wr.alloc (.cells #[.int .i64 t,.int .i64 b,.int .i64 m,.int .u8 (kd:Int),.int .i64 nd,.int .i64 o,.string s,.string v] 61))/\L.take (k+1)=L.take k++ [(t,b,m,kd,nd,o,s,v)]):=⟨hlt,hnx.trans ⟨jV _ _ _ (Eg hgl hnx.1),jV _ _ _ (Eg hBl hnx.2)⟩,htake⟩
   have hR':Aside (RoundIn F (n - 1) prog l fn tmps assign body (wr.alloc (.cells #[.int .i64 t,.int .i64 b,.int .i64 m,.int .u8 (kd:Int),.int .i64 nd,.int .i64 o,.string s,.string v] 61)) fun e W'=>(e= .returned (.bool true)/\J (L.take k++ [(t,b,m,kd,nd,o,s,v)]) W'/\KeepTwo g Bs (wr.alloc (.cells #[.int .i64 t,.int .i64 b,.int .i64 m,.int .u8 (kd:Int),.int .i64 nd,.int .i64 o,.string s,.string v] 61)) W')\/(e= .returned (.bool false)/\Jx (L.take k++ [(t,b,m,kd,nd,o,s,v)]) W')):=hR
   clear hlt hk hix hR hrow hnx hJs hY h0 htake hJ3
   gi_wp2
   refine hR'.o.mono ?_
   rintro e W3 (⟨rfl,hJ3,hk3⟩ | ⟨rfl,hJx3⟩)
   ·gi_wp2
    go_roundw
    case rel=>exact ⟨k+1,by have:=HK.o.1;omega,zI,by rw [HK.o.2.2];exact hJ3,HK.o.2.1.trans hk3⟩
    case measure=>have:=HK.o.1;simp [intOf];omega
   gi_wp2
   refine bodyPost_ret (results_none rfl _ _ _) rfl ?_
   exact ⟨⟨_,rfl⟩,.inr ⟨_,trivial,hJx3⟩⟩
  obtain rfl:k=L.length:=zj
  have d1:decide ((L.length:Int)<(L.length:Int))=false:=zq
  gi_wp2
  go_end0
  exact ⟨⟨_,rfl⟩,.inl ⟨_,rfl,by rw [ul] at hJs;exact hJs⟩⟩
theorem rD (F:Fence) (n:Nat) (h7:F.fn 192) (hro:F.round=none) (hn:1<=n) (Bs g off cap:Nat) (ao:Option Addr) (L:List OpX) (hlen:L.length<=1000) (hao:L= []\/ao=some ⟨g,off,none⟩) (w:World) (hBs:Bs<w.heap.size) (hg:g<w.heap.size)
  (hc:w.cell? ⟨Bs,0,none⟩=some (.slice ao L.length cap)) (hI:OpsRow w g off L):
  SeqStopsK F n prog 192 #[.pointer (some ⟨Bs,0,none⟩)] (fun x:OpX=> #[ar x]) (KeepTwo g Bs) (fun ys=>ys=L) (fun _=>True) L.length w:=fun l J Jx W hW hJ _ hY h0=>by
 have hc':=(hW.cell (p:=⟨Bs,0,none⟩) hBs).trans hc
 exact CC F n h7 hro hn l Bs g off cap ao L hlen hao J Jx hY W hJ (jW hBs hW.size) (jW hg hW.size) hc' (hI.same (hW.block g hg)) h0
theorem Cq (a:Option Addr) (len cap:Nat) (w:World):Calls prog 126 #[.slice a len cap] w fun e w'=>e= .returned (.func (.func 192) #[] #[.pointer (some ⟨w.heap.size,0,none⟩)])/\w'=w.alloc (.cells #[.slice a len cap] 25):=by
 go_enter func126,ntmps126
 exact ka9
theorem oa (w:World) (Bs g off cap:Nat) (ao:Option Addr) (L:List OpX) (hlen:L.length<=1000) (hao:L= []\/ao=some ⟨g,off,none⟩) (hBs:Bs<w.heap.size) (hg:g<w.heap.size) (hc:w.cell? ⟨Bs,0,none⟩=some (.slice ao L.length cap)) (hI:OpsRow w g off L):
  Calls prog 253 #[.slice none 0 0,.func (.func 192) #[] #[.pointer (some ⟨Bs,0,none⟩)]] w fun e w'=>∃v,e= .returned v/\w'.ownsRow w.heap.size 61 8 v L.length (cellsOf L)/\Below w.heap.size w w':=by
 obtain ⟨i0,hi,hz0,hz1,hz2⟩:=info_parts fV
 refine (callsIn_wide (n:=4)).1 ?_
 refine callsIn_of_wp_marks func253 rfl trivial ?_ rfl
 simp only [ntmps253,vu,jY,vw,Nat.reduceAdd,Nat.reduceSub,vQ,vR,vY,vT,ua,vX]
 gi_wp2
 obtain ⟨w1,hw1⟩:=za (w.alloc (.cells #[.slice none 0 0] 25))
 rw [<-hw1]
 have hB0:Below w.heap.size w w1:=yH
 have hs1:w1.heap.size=w.heap.size+1:=xf
 obtain ⟨B,hB⟩:=za w.heap.size
 have e1:Boxed w1 B 25 (.slice none 0 0):=qo
 rw [<-hB] at hB0 hs1 hBs hg |-
 have HB:Aside (B=w.heap.size):=hB
 have hBw:B<=w.heap.size:=zj
 clear hB
 have hc1:=(hB0.cell (p:=⟨Bs,0,none⟩) hBs).trans hc
 have hI1:=hI.same (hB0.block g hg)
 clear hw1 hc hI
 refine wpIn_rangeFunc_ownH rfl zj (gf:=192) (lb:= #[.pointer (some ⟨Bs,0,none⟩)]) rfl trivial (enters_of func192 zk rfl)
  (rD Fence.wide (4 - 1) trivial rfl zj Bs g off cap ao L hlen hao w1 zj zj hc1 hI1) KeepTwo.trans (fun W l o o' hl _ _ _=>KeepTwo.put (N:=w1.heap.size) zj zj W l o' hl) (jN _ _) (fun _=>rfl)
  (fun pre W=>((∃v,Boxed W B 25 v/\W.ownsRow B 61 8 v pre.length (cellsOf pre)/\pre.length<=L.length))/\(w1.heap.size<=W.heap.size/\Below B w W))
  (fun _ _ _=>False)
  (OwnFrom.and (Own.from (holdsRow_own B B 25 61 8 (fun pre=>pre.length) (fun pre=>cellsOf pre) (fun pre _=>pre.length<=L.length)) _) (OwnFrom.and (fun _ X Y row hs hg _=>jM hs hg.size) (ownFrom_below zj zj)))
  (fun _ _ _ _ _ hs _ _=>hs)
  ⟨⟨_,e1,vD w1 B _ _,jX _⟩,jL _,hB0⟩
  (fun x a' W=>∃Bx,w1.heap.size<=Bx/\OpBlk W Bx x/\a'= {tmps:= #[.slice none 0 0,.func (.func 192) #[] #[.pointer (some ⟨Bs,0,none⟩)],.pointer (some ⟨B,0,none⟩),undef,.slice none 0 0,.pointer (some ⟨Bx,0,none⟩),.func (.func 192) #[] #[.pointer (some ⟨Bs,0,none⟩)],ar x,undef,undef,undef,undef,undef],defers:=[]})
  (fun x a'=>Own.from (fun _ X Y row hs hg hr=>zW) _)
  ?assign ?body ?done ?stop
 case assign=>
  rintro l pre x W K ⟨⟨v,hv,hrow,hpl⟩,hsz,hBW⟩ hK
  have hK':Aside _:=hK
  have hBs':B<=W.heap.size:=zj
  clear hK
  unfold ar
  gi_wp2
  refine hK'.o _ _ ((KeepsOthers.alloc _ _).from _) ⟨jV _ _ _ zj,jV _ _ _ zj⟩ ⟨⟨v,hv.alloc _,hrow.alloc _,hpl⟩,zl,hBW.alloc hBs' _⟩ ⟨W.heap.size,zj,heap_alloc_new W _,rfl⟩
 case body=>
  rintro l pre x a' W hl _ ⟨⟨v,hv,hrow,hpl⟩,hsz,hBW⟩ ⟨Bx,hBx,hE,rfl⟩ hlt
  have g1:=hv.cell
  obtain ⟨f0,f1,f2,f3,f4,f5,f6,f7,-⟩:=hE.cells
  have hBs':B<=W.heap.size:=zj
  obtain ⟨t,b,m,kd,nd,o,s,v0⟩:=x
  dsimp only at f0 f1 f2 f3 f4 f5 f6 f7
  unfold ar
  gi_wp2_with (gi_at_builtin;refine wpListIn_append_own _ rfl _ _ 25 rfl B 61 i0 _ 8 80 underlying25 hi hz0 hz1 hz2 rfl zj _ _ _ rfl (hrow.alloc _) ⟨W.heap.size,0,none⟩ 1 1 (cN (t,b,m,kd,nd,o,s,v0)) rfl rfl (dN W (t,b,m,kd,nd,o,s,v0) _) (cB _) zu zj zl ?_;intro v' w2 hown' hgrow _;obtain ⟨g',cap',rfl⟩:=ownsRow_succ hown';obtain ⟨hv1,hv2,hr2,hk2,hb2⟩:=hv.appended zo hrow hBs' zg hown' hgrow;have hc1:=hv1.cell;have hf1:=hv1.frozen)
  refine ⟨hk2.from _,⟨hb2.block g hg,hb2.block Bs hBs⟩,⟨⟨_,hv2,?_,zl⟩,jw,hBW.trans hb2⟩⟩
  rw [jP,ub,cl]
  have:cellsOf [(t,b,m,kd,nd,o,s,v0)]=cN (t,b,m,kd,nd,o,s,v0):=by simp [cellsOf]
  rw [this]
  exact hr2
 case done=>
  rintro D ys W hD hall ⟨⟨v,hv,hrow,hpl⟩,hsz,hBW⟩ hK
  have g1:=hv.cell
  gi_wp2
  refine ⟨zq,.inl ⟨_,_,rfl,run_takeDeferred hK,?_⟩⟩
  subst hall
  refine ⟨v,by simp [results,f253,go_sem],v,rfl,?_,?_⟩
  ·exact kl1
  exact ke1
 case stop=>
  exact kk8
theorem mj (w:World) (Bs g off cap:Nat) (ao:Option Addr) (L:List OpX) (hlen:L.length<=1000) (hao:L= []\/ao=some ⟨g,off,none⟩) (hBs:Bs<w.heap.size) (hg:g<w.heap.size) (hc:w.cell? ⟨Bs,0,none⟩=some (.slice ao L.length cap)) (hI:OpsRow w g off L):
  Calls prog 190 #[.func (.func 192) #[] #[.pointer (some ⟨Bs,0,none⟩)]] w fun e w'=>∃v,e= .returned v/\w'.ownsRow w.heap.size 61 8 v L.length (cellsOf L)/\Below w.heap.size w w':=by
 have hcl:=oa w Bs g off cap ao L hlen hao hBs hg hc hI
 go_enter func190,ntmps190
 go_wp2_with fail
 refine hcl.mono ?_
 clear hcl
 rintro e w' ⟨v,rfl,H⟩
 have HH:Aside (w'.ownsRow w.heap.size 61 8 v L.length (cellsOf L)/\Below w.heap.size w w'):=H
 clear H
 go_wp2
 go_ret
 exact ⟨v,rfl,HH.o⟩
end
section
open Go.RowKit Go.Maps
open scoped Classical
structure TreeAt (base:Nat) (w:World) (bt bm:Nat) (v:Value) (ms:List Mov):Prop where
 cell:TreeCell w bt bm v
 row:∃L,LogTo ms ms.length L/\w.ownsRow base 300 8 v ms.length (aB gW L)
 map:∃n,n<=600*ms.length/\MapAt prog 3 w bm n (aH ms)
 by_:bL ms
 fine:∀m∈ms,FineP m.2
theorem TreeAt.good {base:Nat} (h:TreeAt base w bt bm v ms):ko (aH ms):=lw h.fine
theorem TreeAt.lt {base:Nat} {w:World} {bt bm:Nat} {v:Value} {ms:List Mov} (h:TreeAt base w bt bm v ms):bt<w.heap.size/\bm<w.heap.size/\∀g,v.ownBlock=some g->g<w.heap.size:=by
 obtain ⟨n,_,hM⟩:=h.map
 obtain ⟨L,_,hR⟩:=h.row
 exact ⟨h.cell.lt,hM.lt,fun g hg=>(hR.lt g hg).2⟩
theorem cg {base:Nat} {e:TypeId} {xs:List Value} (h:w.ownsRow base e k v n xs) (hs:∀g,v.ownBlock=some g->w'.heap[g]? =w.heap[g]?):w'.ownsRow base e k v n xs:=by
 refine ⟨h.1,?_⟩
 rcases h.2 with h0 | ⟨g,cap,cur,rfl,h1,hg,h2⟩
 ·exact .inl h0
 exact kk3
theorem TreeAt.same {base:Nat} {w w':World} {bt bm:Nat} {v:Value} {ms:List Mov} (h:TreeAt base w bt bm v ms) (h1:w'.heap[bt]? =w.heap[bt]?) (h2:w'.heap[bm]? =w.heap[bm]?) (h3:∀g,v.ownBlock=some g->w'.heap[g]? =w.heap[g]?):TreeAt base w' bt bm v ms:=by
 obtain ⟨n,hn,hM⟩:=h.map
 obtain ⟨L,hL,hR⟩:=h.row
 exact ⟨h1.trans h.cell,⟨L,hL,cg hR h3⟩,⟨n,hn,hM.same h2⟩,h.by_,h.fine⟩
theorem TreeAt.later {base:Nat} (h:TreeAt base w bt bm v ms) (hb:Below w.heap.size w w'):TreeAt base w' bt bm v ms:=
 h.same (hb.block _ h.lt.1) (hb.block _ h.lt.2.1) (fun g hg=>hb.block g (h.lt.2.2 g hg))
theorem GM {t b n:Int} {node other:Int} {name value:ByteArray} (h:opE t b n 109 node other name.data.toList value.data.toList=0):FineP (node,other,name):=by
 have h0:=ax h
 unfold opE at h
 rw [if_pos ⟨h0.1,h0.2.1,h0.2.2.1,h0.2.2.2.1,h0.2.2.2.2.1,h0.2.2.2.2.2.1⟩] at h
 unfold kB at h
 rw [if_pos rfl] at h
 unfold cR at h
 split at h
 ·cases h
 rename_i hc
 have hl:name.data.toList.length=name.size:=zq
 obtain ⟨_,_,_,_,_,_,_,_,_,_,_,_,h12,_⟩:=h0
 refine ⟨?_,?_,?_,?_,?_,?_⟩<;>dsimp only<;>omega
def Ju:Prop:=∀(w:World) (base bt bm n at_:Nat) (v:Value) (ms:List Mov) (L:List Ent),TreeCell w bt bm v->LogTo ms ms.length L->w.ownsRow base 300 8 v ms.length (aB gW L)->MapAt prog 3 w bm n (aH ms)->(∀m∈ms,FineP m.2)->at_<=ms.length->ms.length<=1000->n<=1000000->
  Calls prog 200 #[.pointer (some ⟨bt,0,none⟩),.int .i64 (at_:Int)] w fun e w'=>(∃u,e= .returned u)/\MapAt prog 3 w' bm (n+(ms.length - at_)) (aH (ms.take at_))/\Keeps (fun k=>k=bm) w w'
end
section
open Go.RowKit
open scoped Classical
structure oT (c:Nat->Nat) (i:Nat) (w:World) (c':Nat->Nat) (w':World):Prop where
 block:∀k,k<w.heap.size->c k=i->w'.heap[k]? =w.heap[k]?
 hue:∀k,k<w.heap.size->c' k=c k
def cQ (nd:Int):Nat:=20+nd.toNat
def RepCell (w:World) (br:Nat) (T by_:Int) (kv:Nat->Value) (bt bx bc:Nat):Prop:=w.heap[br]? =some (.cells #[.int .i64 T,.int .i64 by_,kv 0,kv 1,kv 2,kv 3,.pointer (some ⟨bt,0,none⟩),.map (some bx),.pointer (some ⟨bc,0,none⟩)] 117 (0,0))
theorem RepCell.lt (h:RepCell w br T by_ kv bt bx bc):br<w.heap.size:=(jJ.1 h).1
theorem RepCell.same (h:RepCell w br T by_ kv bt bx bc) (e:w'.heap[br]? =w.heap[br]?):RepCell w' br T by_ kv bt bx bc:=e.trans h
theorem RepCell.c0 (h:RepCell w br T by_ kv bt bx bc):w.cell? ⟨br,0,none⟩=some (.int .i64 T):=zL
theorem RepCell.c1 (h:RepCell w br T by_ kv bt bx bc):w.cell? ⟨br,1,none⟩=some (.int .i64 by_):=zL
theorem RepCell.c2 (h:RepCell w br T by_ kv bt bx bc):w.cell? ⟨br,2,none⟩=some (kv 0):=zL
theorem RepCell.c3 (h:RepCell w br T by_ kv bt bx bc):w.cell? ⟨br,3,none⟩=some (kv 1):=zL
theorem RepCell.c4 (h:RepCell w br T by_ kv bt bx bc):w.cell? ⟨br,4,none⟩=some (kv 2):=zL
theorem RepCell.c5 (h:RepCell w br T by_ kv bt bx bc):w.cell? ⟨br,5,none⟩=some (kv 3):=zL
theorem RepCell.c6 (h:RepCell w br T by_ kv bt bx bc):w.cell? ⟨br,6,none⟩=some (.pointer (some ⟨bt,0,none⟩)):=zL
theorem RepCell.c7 (h:RepCell w br T by_ kv bt bx bc):w.cell? ⟨br,7,none⟩=some (.map (some bx)):=zL
theorem RepCell.c8 (h:RepCell w br T by_ kv bt bx bc):w.cell? ⟨br,8,none⟩=some (.pointer (some ⟨bc,0,none⟩)):=zL
theorem RepCell.fz (h:RepCell w br T by_ kv bt bx bc) (o:Nat):w.frozen? ⟨br,o,none⟩=false:=by unfold RepCell at h;simp [World.frozen?,h]
def RowsAt (w:World) (c:Nat->Nat) (kv:Nat->Value) (R:Rws):Prop:=∀i,i<4->w.ownsRow 0 61 8 (kv i) (R i).length (cellsOf (R i))/\∀g,(kv i).ownBlock=some g->c g=10+i
theorem RowsAt.one {c:Nat->Nat} (h:RowsAt w c kv R) (hi:i<4) (hk:oT c (10+i) w c' w'):w'.ownsRow 0 61 8 (kv i) (R i).length (cellsOf (R i))/\∀g,(kv i).ownBlock=some g->c' g=10+i:=by
 obtain ⟨h1,h2⟩:=h i hi
 refine ⟨cg h1 (fun g hg=>hk.block g (h1.lt g hg).2 (h2 g hg)),fun g hg=> ?_⟩
 rw [hk.hue g (h1.lt g hg).2]
 exact h2 g hg
theorem RowsAt.kept {c:Nat->Nat} (h:RowsAt w c kv R) (hk:∀i,i<4->oT c (10+i) w c' w'):RowsAt w' c' kv R:=fun i hi=>h.one hi (hk i hi)
theorem RowsAt.ops {c:Nat->Nat} (h:RowsAt w c kv R) (hi:i<4):OpsAt w (kv i) (R i):=iw (h i hi).1
def TreeC (w:World) (c:Nat->Nat) (bt:Nat) (A:List OpX):Prop:=∃bm v ms,TreeAt 0 w bt bm v ms/\ms.Perm (eu A)/\c bt=2/\c bm=2/\∀g,v.ownBlock=some g->c g=2
theorem TreeC.kept {c:Nat->Nat} (h:TreeC w c bt A) (hk:oT c 2 w c' w'):TreeC w' c' bt A:=by
 obtain ⟨bm,v,ms,h1,h2,h3,h4,h5⟩:=h
 obtain ⟨l1,l2,l3⟩:=h1.lt
 exact ⟨bm,v,ms,h1.same (hk.block _ l1 h3) (hk.block _ l2 h4) (fun g hg=>hk.block g (l3 g hg) (h5 g hg)),h2,(hk.hue _ l1).trans h3,(hk.hue _ l2).trans h4,fun g hg=>(hk.hue g (l3 g hg)).trans (h5 g hg)⟩
def LineC (w:World) (c:Nat->Nat) (p:Nat) (nd:Int) (A:List OpX):Prop:=∃v L,LineAt (p+1) w p v L/\LineIs A nd L/\c p=cQ nd/\∀g,v.ownBlock=some g->c g=cQ nd
theorem LineAt.kin {base:Nat} {L:List Ltr} (h:LineAt base w p v L) (hg:v.ownBlock=some g):g<w.heap.size:=(h.row.lt g hg).2
theorem LineC.kept {c:Nat->Nat} {nd:Int} (h:LineC w c p nd A) (hk:oT c (cQ nd) w c' w'):LineC w' c' p nd A:=by
 obtain ⟨v,L,h1,h2,h3,h4⟩:=h
 refine ⟨v,L,⟨(hk.block p h1.lt h3).trans h1.cell,oH h1.row (fun g hg=>hk.block g (h1.kin hg) (h4 g hg)),h1.low,h1.nodup,h1.pos,h1.small⟩,h2,(hk.hue _ h1.lt).trans h3,fun g hg=>(hk.hue g (h1.kin hg)).trans (h4 g hg)⟩
def TextC (w:World) (c:Nat->Nat) (bx:Nat) (A:List OpX):Prop:=∃n tx,n<=A.length/\TMapAt w bx n tx/\c bx=3/\(∀nd,(tx nd).isSome=true↔KnownN A nd)/\∀nd p,tx nd=some p->LineC w c p nd A
theorem TextC.kept {w w':World} {c c':Nat->Nat} {bx:Nat} {A:List OpX} (h:TextC w c bx A) (hk:oT c 3 w c' w') (hl:∀nd,KnownN A nd->oT c (cQ nd) w c' w'):TextC w' c' bx A:=by
 obtain ⟨n,tx,h1,h2,h3,h4,h5⟩:=h
 exact ⟨n,tx,h1,h2.same (hk.block _ h2.lt h3),(hk.hue _ h2.lt).trans h3,h4,fun nd p hp=>(h5 nd p hp).kept (hl nd ((h4 nd).1 ji))⟩
def CellC (w:World) (c:Nat->Nat) (bc:Nat) (A:List OpX):Prop:=∃cm A',CellsAt w bc cm A.length (fA A')/\A'.Perm A/\c bc=4/\c cm=4
theorem CellC.kept {c:Nat->Nat} (h:CellC w c bc A) (hk:oT c 4 w c' w'):CellC w' c' bc A:=by
 obtain ⟨cm,A',h1,h2,h3,h4⟩:=h
 exact ⟨cm,A',h1.same (hk.block _ h1.lt.1 h3) (hk.block _ h1.lt.2 h4),h2,(hk.hue _ h1.lt.1).trans h3,(hk.hue _ h1.lt.2).trans h4⟩
structure RepMid (w:World) (c:Nat->Nat) (br:Nat) (T by_:Int) (kv:Nat->Value) (bt bx bc:Nat) (R:Rws) (A:List OpX):Prop where
 cell:RepCell w br T by_ kv bt bx bc
 hue:c br=1
 rows:RowsAt w c kv R
 tree:TreeC w c bt A
 text:TextC w c bx A
 marks:CellC w c bc A
 time:cD A T
theorem RepMid.kept {w w':World} {c c':Nat->Nat} {br:Nat} {T by_:Int} {kv:Nat->Value} {bt bx bc:Nat} {R:Rws} {A:List OpX} (h:RepMid w c br T by_ kv bt bx bc R A) (hk:∀i,i≠0->oT c i w c' w'):RepMid w' c' br T by_ kv bt bx bc R A:=by
 have k1:=hk 1 zj
 exact ⟨h.cell.same (k1.block _ h.cell.lt h.hue),(k1.hue _ h.cell.lt).trans h.hue,h.rows.kept (fun i _=>hk _ zj),h.tree.kept (hk 2 zj),h.text.kept (hk 3 zj) (fun nd _=>hk _ zY),h.marks.kept (hk 4 zj),h.time⟩
theorem RepMid.later {c:Nat->Nat} (h:RepMid w c br T by_ kv bt bx bc R A) (hb:Below w.heap.size w w'):RepMid w' c br T by_ kv bt bx bc R A:=
 h.kept (fun i _=>⟨fun k hk _=>hb.block k hk,fun k _=>rfl⟩)
def RepAt (w:World) (c:Nat->Nat) (br:Nat) (by_:Int) (R:Rws):Prop:=∃T kv bt bx bc A,RepMid w c br T by_ kv bt bx bc R A/\A.Perm (aX R)/\RowsK R/\0<=by_/\by_<4
theorem RepAt.kept {w w':World} {c c':Nat->Nat} {br:Nat} {by_:Int} {R:Rws} (h:RepAt w c br by_ R) (hk:∀i,i≠0->oT c i w c' w'):RepAt w' c' br by_ R:=by
 obtain ⟨T,kv,bt,bx,bc,A,h1,h2⟩:=h
 exact ⟨T,kv,bt,bx,bc,A,h1.kept hk,h2⟩
theorem RepAt.later {c:Nat->Nat} (h:RepAt w c br by_ R) (hb:Below w.heap.size w w'):RepAt w' c br by_ R:=
 h.kept (fun i _=>⟨fun k hk _=>hb.block k hk,fun k _=>rfl⟩)
structure Acts (w:World) (c:Nat->Nat) (w':World) (c':Nat->Nat):Prop where
 keeps:Keeps (fun k=>c k≠0) w w'
 hue:∀k,k<w.heap.size->c' k=c k
theorem Acts.of_below (c:Nat->Nat) (hb:Below w.heap.size w w'):Acts w c w' c:=⟨(aV hb).mono (fun k hk e=>absurd hk zj),fun _ _=>rfl⟩
theorem Acts.trans {w w1 w2:World} {c c1 c2:Nat->Nat} (h:Acts w c w1 c1) (k:Acts w1 c1 w2 c2):Acts w c w2 c2:=
 ⟨h.keeps.then k.keeps (fun i hi e=>by rw [h.hue i hi] at e;exact e),fun i hi=>(k.hue i (jW hi h.keeps.size)).trans (h.hue i hi)⟩
end
section
open Go.RowKit Go.Shelf Go.Maps
theorem dZ {P:Program} (w:World) (base:Nat) (t ty e:TypeId) (i:TypeInfo) (z:Value) (size bytes:Nat) (ht:P.underlying t=some (.slice e)) (hi:P.info? e=some i) (hz:i.zero=some z)
  (hsize:i.size=size) (hby:i.bytes=bytes) (hzs:z.cells.size=size) (hsz:0<size)
  (v:Value) (n:Nat) (xs:List Value) (hown:w.ownsRow base e size v n xs)
  (a:Addr) (m c:Nat) (hm0:0<m) (news:List Value) (hl:news.length=m*size) (hnews:∀j u,news[j]? =some u->w.cell? (a.add j)=some u) (h1:∀u∈news,u.oneCell'=true)
  (h63:n+m<=maxLen) (hbytes:(n+m)*bytes<=140737488355328) (hbase:base<=w.heap.size):
  ∃v' w',(Builtin.append_ #[t,t] ty #[v,.slice (some a) m c]).run P w= .ok v' w'/\w'.ownsRow base e size v' (n+m) (xs++news)/\w.grownBy w' v.ownBlock/\
   ((∃g cap,v= .slice (some ⟨g,0,none⟩) n cap/\v'= .slice (some ⟨g,0,none⟩) (n+m) cap)\/(v'.ownBlock=some w.heap.size/\w.grownBy w' none)):=by
 obtain ⟨v',w',hrun,h',hg',-⟩:=run_append_own (P:=P) w base t ty e i z size bytes ht hi hz hsize hby hzs hsz v n xs hown a m c news hl hnews h1 h63 hbytes hbase
 refine ⟨v',w',hrun,h',hg',?_⟩
 subst hsize
 subst hby
 have hsmall:n+m<=9223372036854775807:=by simp only [maxLen] at h63;omega
 rcases hown.2 with ⟨rfl,rfl⟩ | ⟨g,cap,cur,rfl,hbg,hg,hnc,hcm,hcs,htake⟩
 ·have hr:=run_append_nil (P:=P) w t ty e i z ht hi hz a m c news hl hnews zj zj xc
  exact kh3
 by_cases hroom:n+m<=cap
 ·have hfit:n*i.size+news.length<=cur.size:=by rw [hl,hcs,<-uA];exact vK _ hroom
  have hr:=run_append_room (P:=P) w t ty e i ht hi g n cap cur hg a m c news hl hnews h1 hroom hfit
  rw [hr] at hrun
  simp only [Result.ok.injEq] at hrun
  exact .inl ⟨g,cap,rfl,hrun.1.symm⟩
 have holds:∀j u,xs[j]? =some u->w.cell? ((⟨g,0,none⟩:Addr).add j)=some u:=hown.cells (g:=g) rfl
 have hr:=run_append_grow (P:=P) w t ty e i z ht hi hz ⟨g,0,none⟩ n cap xs hown.1 holds a m c news hl hnews zj zj (growslice_fits zj hbytes)
 exact kh3
theorem sf {base cap m:Nat} {xs ys:List OpX} (h:w.ownsRow base 61 8 (.slice (some ⟨g,0,none⟩) m cap) m (cellsOf (xs++ys))) (hn:n=xs.length) (hm:m=n+ys.length):w.ownsRow base 61 8 (.slice (some ⟨g,0,none⟩) n cap) n (cellsOf xs):=by
 refine ⟨by rw [bR,hn],.inr ?_⟩
 rcases h.2 with ⟨h1,_⟩ | ⟨g',cap',cur,e,h1,h2,h3,h4,h5,h6⟩
 ·cases h1
 cases e
 refine ⟨g,cap,cur,rfl,h1,h2,zj,h4,h5,?_⟩
 have:=congrArg (List.take (n*8)) h6
 rw [uR,Nat.min_eq_left zj,cl,vv xD] at this
 rw [this,vm xD]
theorem oN (w:World) (Bs g off cap:Nat) (ao:Option Addr) (L:List OpX) (hlen:L.length<=1000) (hao:L= []\/ao=some ⟨g,off,none⟩) (hBs:Bs<w.heap.size) (hg:g<w.heap.size) (hc:w.cell? ⟨Bs,0,none⟩=some (.slice ao L.length cap)) (hI:OpsRow w g off L):
  Calls prog 125 #[.func (.func 192) #[] #[.pointer (some ⟨Bs,0,none⟩)],.func (.func 127) #[] #[]] w fun e w'=>∃fa fc qs,e= .returned (.slice fa L.length fc)/\qs.Perm L/\qs.Pairwise (fun a b=>ah a<=ah b)/\OpsIn w' fa qs/\(∀a,fa=some a->w.heap.size<=a.block)/\Below w.heap.size w w':=by
 have hcl:=mj w Bs g off cap ao L hlen hao hBs hg hc hI
 go_enter func125,ntmps125
 go_wp2_with fail
 refine hcl.mono ?_
 clear hcl
 rintro e w1 ⟨v,rfl,hown,hb⟩
 rcases hown.2 with ⟨rfl,h0⟩ | ⟨g',cap',cur,rfl,hbg,-⟩
 ·have hps:L= []:=ve.1 h0
  have HB:Aside (Below w.heap.size w w1/\L= []):=⟨hb,hps⟩
  clear hown hb hps h0
  go_wp2_with (go_at_call 191;refine (tl none 0 _ _).mono ?_;rintro e w' ⟨rfl,rfl⟩)
  go_ret
  exact ⟨none,0,[],by rw [HB.o.2];rfl,by rw [HB.o.2],List.Pairwise.nil,.inl rfl,fun a e=>absurd e zq,HB.o.1⟩
 have hs:=Mo w1 w.heap.size g' cap' L hown zj
 have hgl:=(hown.lt g' rfl).2
 have HH:Aside (Below w.heap.size w w1/\w.heap.size<=g'/\g'<w1.heap.size):=⟨hb,hbg,hgl⟩
 clear hown hb hbg hgl
 go_wp2_with fail
 refine hs.mono ?_
 clear hs
 rintro e w2 ⟨rfl,qs,hp,hpw,hcells,hk⟩
 have H2:Aside (qs.Perm L/\qs.Pairwise (fun a b=>ah a<=ah b)/\OpsIn w2 (some ⟨g',0,none⟩) qs/\Below w.heap.size w w2):=⟨hp,hpw,.inr ⟨g',0,rfl,fun j u hj=>by rw [vh];exact hcells j u hj⟩,HH.o.1.trans (hk.below HH.o.1.size (fun k e=>by have:=HH.o.2.1;omega))⟩
 clear hp hpw hcells hk
 go_wp2
 go_ret
 exact ⟨_,_,qs,rfl,H2.o.1,H2.o.2.1,H2.o.2.2.1,fun a e=>by cases e;exact HH.o.2.1,H2.o.2.2.2⟩
theorem FreshK.perm {S F G:List OpX} (h:FreshK S F) (e:G.Perm F):FreshK S G:=
 ⟨fun x hx=>h.ok x (e.mem_iff.1 hx),fun x hx=>h.off x (e.mem_iff.1 hx),(e.pairwise_iff (fun {a b} h q=>h ⟨q.1.symm,q.2.symm⟩)).2 h.one⟩
end
section
open Go.Shelf Go.RowKit Go.Lib Go.Sort Go.Maps
open scoped Classical
theorem GW:(prog.info? 3).map (fun i=>(i.zero,i.size,i.bytes))=some (some (.int .i64 0),1,8):=zk
def eL (k:Int):List Value:=[.int .i64 k]
