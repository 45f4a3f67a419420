import Derived.Test.YtpdbnnimdkfajaaGreatDoorVS13
import Derived.Test.YtpdbnnimdkfajaaGreatDoorVS14
import Derived.Test.YtpdbnnimdkfajaaGreatDoorVS15
import Derived.Sort.OwnSortedInts
set_option linter.unusedSimpArgs false
set_option linter.unusedVariables false
set_option maxRecDepth 100000
set_option maxHeartbeats 64000000
namespace Go.Proofs.YtpdbnnimdkfajaaGreatDoor
open Go.Proofs.Tryz
variable {D:DataW Unit} {ks:List Int} {L:List OpX} {g:Nat} {f:TSta} {W W':World}
section
open Go.RowKit Go.Lib Go.Sort Go.Maps
def FaultIs (ad:Nat->Addr) (w:World) (v:Value) (i:Int) (c:Nat):Prop:=∃b,v= .iface 194 (.pointer (some ⟨b,0,none⟩))/\w.heap[b]? =some (.cells #[.int .i64 i,eV ad c] 198 (0,0))
def SiftOut (ad:Nat->Addr) (w:World) (S l:List OpX) (e:Ending) (w':World):Prop:=(match siftS S 0 [] l with
 | .inl (i,c)=>∃v,e= .returned (.tuple #[.slice none 0 0,v])/\FaultIs ad w' v (i:Int) c
 | .inr fresh=>∃v,e= .returned (.tuple #[v,.nilIface])/\w'.ownsRow w.heap.size 38 8 v fresh.length (cellsOf fresh))/\Below w.heap.size w w'
def Sized (l:List OpX):Prop:=∀x∈l,x.2.2.2.2.2.2.1.size<=1000000/\x.2.2.2.2.2.2.2.size<=1000000
structure SiftSt (w:World) (S:Nat) (ao:Nat->Option Addr) (cap:Nat->Nat) (R:Rws) (l:List OpX) (k:Nat) (fresh:List OpX) (v:Value) (wr:World):Prop where
 below:Below w.heap.size w wr
 box:KBox wr S ao cap R
 map:NMapAt wr (S+1) k (fun q=>lookK fresh q.1 q.2)
 row:wr.ownsRow (S+2) 38 8 v fresh.length (cellsOf fresh)
 fk:FreshK (allR R) fresh
 is:siftS (allR R) 0 [] l=siftS (allR R) k fresh (l.drop k)
 len:fresh.length<=k
theorem NMapAt.mono {w:World} {b n n':Nat} {f:NSta} (h:NMapAt w b n f) (hn:n<=n'):NMapAt w b n' f:=by
 obtain ⟨D,h,r⟩:=h;exact ⟨D,h.mono hn,r⟩
theorem SiftSt.later {w:World} {S:Nat} {ao:Nat->Option Addr} {cap:Nat->Nat} {R:Rws} {l:List OpX} {k:Nat} {fresh:List OpX} {v:Value} {wr w':World} (h:SiftSt w S ao cap R l k fresh v wr) (hb:Below wr.heap.size wr w'):SiftSt w S ao cap R l k fresh v w':=
 ⟨zh h.below hb,h.box.later hb,h.map.same (hb.block _ h.map.lt),ownsHeld h.row (fun g hg=>hb.block g (h.row.lt g hg).2),h.fk,h.is,h.len⟩
theorem look_snoc (fresh:List OpX) (o:OpX):(fun q:NKey=>lookK (fresh++ [o]) q.1 q.2)=(fun q:NKey=>if q=(byO o,numO o) then (lookK fresh q.1 q.2).or (some o) else lookK fresh q.1 q.2):=by
 funext q
 rw [lookK_app]
 unfold lookK
 by_cases h:q=(byO o,numO o)
 ·rw [if_pos h,h]
  simp
 rw [if_neg h]
 have:¬(byO o=q.1/\numO o=q.2):=fun e=>h (by rw [e.1,e.2])
 simp [this]
theorem lit_cellsO (w:World) (x:OpX) (T:TypeId) (j:Nat) (u:Value) (hj:(encX x)[j]? =some u):(w.alloc (.cells #[.int .i64 x.1,.int .i64 x.2.1,.int .i64 x.2.2.1,.int .u8 (x.2.2.2.1:Int),.int .i64 x.2.2.2.2.1,.int .i64 x.2.2.2.2.2.1,.string x.2.2.2.2.2.2.1,.string x.2.2.2.2.2.2.2] T)).cell? ((⟨w.heap.size,0,none⟩:Addr).add j)=some u:=by
 rw [Addr.add_lit,jt]
 have h:=heap_alloc_new w (.cells #[.int .i64 x.1,.int .i64 x.2.1,.int .i64 x.2.2.1,.int .u8 (x.2.2.2.1:Int),.int .i64 x.2.2.2.2.1,.int .i64 x.2.2.2.2.2.1,.string x.2.2.2.2.2.2.1,.string x.2.2.2.2.2.2.2] T)
 simp only [World.cell?,h]
 rw [<-hj]
 simp [encX]
theorem fault_new (w2:World) (o:Obj) (a b:Value):((w2.alloc o).alloc (.cells #[a,b] 198)).drew.heap[w2.heap.size+1]? =some (.cells #[a,b] 198 (0,0)):=by
 have:=heap_alloc_new (w2.alloc o) (.cells #[a,b] 198)
 rw [jI] at this
 exact this
theorem sift_any {ad:Nat->Addr} (w:World) (ao:Nat->Option Addr) (cap:Nat->Nat) (R:Rws) (la:Option Addr) (lc:Nat) (l:List OpX) (hE:Op4 ad w) (hX:w.cell? ⟨7,0,none⟩=some (.iface 399 (.pointer (some (ad 6))))) (hK:KnownAt w ao R) (hN:NumK R) (hl:∀i,i<4->(R i).length<=1000) (hin:OpsIn w la l) (hs:Sized l) (hn:l.length<=1000):
  Calls prog 49 #[kV ao cap R,.slice la l.length lc] w (SiftOut ad w (allR R) l):=by
 obtain ⟨S,hS⟩:=za w.heap.size
 obtain ⟨U,hU⟩:=za ((w.alloc (.cells #[.slice (ao 0) (R 0).length (cap 0),.slice (ao 1) (R 1).length (cap 1),.slice (ao 2) (R 2).length (cap 2),.slice (ao 3) (R 3).length (cap 3)] 65)).alloc (.map #[] 0))
 have hb:Below w.heap.size w U:=zG
 have hk:KBox U S ao cap R:=zM
 have hm:NMapAt U (S+1) 0 (fun q=>lookK [] q.1 q.2):=by
  rw [hU,hS]
  have:=nmapAt_made (w.alloc (.cells #[.slice (ao 0) (R 0).length (cap 0),.slice (ao 1) (R 1).length (cap 1),.slice (ao 2) (R 2).length (cap 2),.slice (ao 3) (R 3).length (cap 3)] 65))
  rw [jI] at this
  exact this
 have H0:Aside (SiftSt w S ao cap R l 0 [] (.slice none 0 0) U):=⟨hb,hk,hm,jQ _ _ _ _,freshK_nil _,rfl,jj _⟩
 have HE:Aside (Op4 ad w/\KnownAt w ao R/\OpsIn w la l/\S=w.heap.size):=⟨hE,hK,hin,hS⟩
 have HX:Aside (w.cell? ⟨7,0,none⟩=some (.iface 399 (.pointer (some (ad 6))))):=hX
 clear hb hk hm hE hK hin hX
 unfold kV
 have hmm:= @run_makeMap prog
 go_enter func49,ntmps49
 go_wp2
 rw [<-hU,<-hS]
 clear hU hS hmm
 go_loopg [6,17] l.length (fun kx s6 s17 wr=>∃(k:Nat) (fresh:List OpX) (ov:Value),s17= .int .i64 (k:Int)/\ov=s6/\k<=l.length/\l.length - k<=kx/\Aside (SiftSt w S ao cap R l k fresh ov wr))
 case atStart=>exact ⟨0,[],_,rfl,rfl,js _,jj _,H0.o⟩
 case round=>
  obtain ⟨k,fresh,ov,rfl,rfl,hkl,hkx,A⟩:=hrel
  clear H0
  by_cases hlt:k<l.length
  ·have d1:decide ((k:Int)<(l.length:Int))=true:=by simp;omega
   have wk:((k:Int)).toNat=k:=zi
   have pk:(0:Int)<=(k:Int):=zi
   have bk:(k:Int)<(l.length:Int):=zi
   obtain ⟨⟨t,b,n,kd,nd,o,s,v⟩,hx⟩:∃x,Aside (l[k]? =some x):=⟨l[k],ji hlt⟩
   have hdrop:Aside (l.drop k=(t,b,n,kd,nd,o,s,v)::l.drop (k+1)):=by
    show l.drop k=_
    rw [jZ hlt,(jh.1 hx.o).2]
   have hsz:=hs _ (jm hx.o)
   obtain ⟨blk,off,hao,hc⟩:=(HE.o.2.2.1.later A.o.below).get hx.o
   subst hao
   have r0:=hc 0 _ rfl
   have r1:=hc 1 _ rfl
   have r2:=hc 2 _ rfl
   have r3:=hc 3 _ rfl
   have r4:=hc 4 _ rfl
   have r5:=hc 5 _ rfl
   have r6:=hc 6 _ rfl
   have r7:=hc 7 _ rfl
   simp only [vk] at r0
   clear hc
   obtain ⟨U,hU⟩:=za (wr.alloc (.cells #[.int .i64 t,.int .i64 b,.int .i64 n,.int .u8 (kd:Int),.int .i64 nd,.int .i64 o,.string s,.string v] 38))
   have hbU:Below wr.heap.size wr U:=by rw [hU];exact zg wr _
   have O1:OpBlk U wr.heap.size (t,b,n,kd,nd,o,s,v):=by rw [hU];exact OpBlk.new wr (t,b,n,kd,nd,o,s,v)
   have hck:=opcheck_any t b n kd nd o s v U (HE.o.1.later (zh A.o.below hbU)) hsz.1 hsz.2
   have H1:Aside (SiftSt w S ao cap R l k fresh ov U/\OpBlk U wr.heap.size (t,b,n,kd,nd,o,s,v)):=⟨A.o.later hbU,O1⟩
   have e0:errO (t,b,n,kd,nd,o,s,v)=opE t b n kd nd o s.data.toList v.data.toList:=rfl
   rw [<-e0] at hck
   clear e0 hbU O1
   by_cases herr:errO (t,b,n,kd,nd,o,s,v)=0
   ·rw [herr] at hck
    have hev:eV ad 0= .nilIface:=rfl
    rw [hev] at hck
    clear hev
    obtain ⟨i,hi,hbi,-⟩:=by_nat herr
    have hbi:b=(i:Int):=hbi
    subst hbi
    obtain ⟨m,hm,hm4⟩:∃m:Nat,n=(m:Int)+1/\m<400:=by
     have q:=opE_zero herr
     have q5:1<=n:=q.2.2.2.2.1
     have q6:n<=400:=q.2.2.2.2.2.1
     exact ⟨(n - 1).toNat,zi,zi⟩
    subst hm
    have HERR:Aside (errO (t,(i:Int),(m:Int)+1,kd,nd,o,s,v)=0):=herr
    clear herr
    go_wp2_with fail
    rw [<-hU]
    clear hU r0 r1 r2 r3 r4 r5 r6 r7
    refine hck.mono ?_
    clear hck
    rintro e w1 ⟨rfl,hb1⟩
    obtain ⟨P,hP⟩:=za wr.heap.size
    obtain ⟨Q,hQ⟩:=za w1.heap.size
    obtain ⟨V,hV⟩:=za (w1.alloc (.cells #[.int .i64 (i:Int),.int .i64 ((m:Int)+1)] 204))
    have hbV:Below w1.heap.size w1 V:=by rw [hV];exact zg w1 _
    have N1:V.heap[Q]? =some (.cells #[.int .i64 (i:Int),.int .i64 ((m:Int)+1)] 204 (0,0)):=by rw [hV,hQ];exact heap_alloc_new w1 _
    have H2:Aside (SiftSt w S ao cap R l k fresh ov V/\OpBlk V P (t,(i:Int),(m:Int)+1,kd,nd,o,s,v)/\V.heap[Q]? =some (.cells #[.int .i64 (i:Int),.int .i64 ((m:Int)+1)] 204 (0,0))/\P<Q/\S+1<P/\V.heap.size=Q+1):=by
     have hp1:=(H1.o.2.later hb1)
     refine ⟨(H1.o.1.later hb1).later hbV,by rw [hP];exact hp1.later hbV,N1,by rw [hP,hQ];exact hp1.lt,by rw [hP];exact A.o.map.lt,by rw [hV,hQ];simp⟩
    rw [<-hP]
    obtain ⟨y0,y1,y2,y3,y4,y5,y6,y7,f8⟩:=(H1.o.2.later hb1).cells
    rw [<-hP] at y0 y1 y2 y3 y4 y5 y6 y7 f8
    dsimp only at y0 y1 y2 y3 y4 y5 y6 y7
    have HV:Aside (V=w1.alloc (.cells #[.int .i64 (i:Int),.int .i64 ((m:Int)+1)] 204)/\Q=w1.heap.size/\P=wr.heap.size):=⟨hV,hQ,hP⟩
    clear hb1 hbV H1 N1 hV hQ hP
    obtain ⟨q0,q1⟩:V.cell? ⟨Q,0,none⟩=some (.int .i64 (i:Int))/\V.cell? ⟨Q,1,none⟩=some (.int .i64 ((m:Int)+1)):=by
     have:=H2.o.2.2.1
     constructor<;>simp [World.cell?,this]
    have k0:=H2.o.1.box.at (i:=0) zi
    have k1:=H2.o.1.box.at (i:=1) zi
    have k2:=H2.o.1.box.at (i:=2) zi
    have k3:=H2.o.1.box.at (i:=3) zi
    go_upto_region 10 with fail
    rw [<-HV.o.1,<-HV.o.2.1]
    clear y0 y1 y2 y3 y4 y5 y6 y7 f8
    go_wp2_with fail
    clear q0 q1 k0 k1 k2 k3
    have hlook:Aside (lookK (allR R++fresh) (byO (t,(i:Int),(m:Int)+1,kd,nd,o,s,v)) (numO (t,(i:Int),(m:Int)+1,kd,nd,o,s,v))=((R i)[m]?).or (lookK fresh (i:Int) ((m:Int)+1))):=by
     show lookK (allR R++fresh) (i:Int) ((m:Int)+1)=_
     rw [lookK_app,hN.look hi]
    cases hy:(R i)[m]? with
    | some y=>
     obtain ⟨t',b',n',kd',nd',o',s',v'⟩:=y
     have hcall:=number_some V ao cap R i m _ (HE.o.2.1.later H2.o.1.below) hi zi hy
     unfold kV encO at hcall
     dsimp only at hcall
     refine hcall.mono ?_
     clear hcall
     rintro e w2 ⟨rfl,hb2⟩
     have H3:Aside (SiftSt w S ao cap R l k fresh ov w2/\OpBlk w2 P (t,(i:Int),(m:Int)+1,kd,nd,o,s,v)):=⟨H2.o.1.later hb2,H2.o.2.1.later hb2⟩
     have hpl:=H3.o.2.lt
     obtain ⟨y0,y1,y2,y3,y4,y5,y6,y7,f8⟩:=H3.o.2.cells
     dsimp only at y0 y1 y2 y3 y4 y5 y6 y7
     have heq:=fun w=>eqOp t' b' n' kd' nd' o' s' v' t (i:Int) ((m:Int)+1) kd nd o s v w
     have HY:Aside ((R i)[m]? =some (t',b',n',kd',nd',o',s',v')):=hy
     clear hb2 H2 HV hy
     cases hq:eqB t' b' n' kd' nd' o' s' v' t (i:Int) ((m:Int)+1) kd nd o s v with
     | true=>
      have HQ:Aside ((t',b',n',kd',nd',o',s',v')=(t,(i:Int),(m:Int)+1,kd,nd,o,s,v)):=by
       have:=of_decide_eq_true hq
       obtain ⟨rfl,rfl,rfl,rfl,rfl,rfl,rfl,rfl⟩:=this
       rfl
      rw [hq] at heq
      clear hq
      go_wp2
      go_roundg (l.length - (k+1))
      case measure=>omega
      case rel=>
       have hS3:=H3.o.1.later ((jo w2.heap.size w2).alloc ze (.cells #[.int .i64 t',.int .i64 b',.int .i64 n',.int .u8 (kd':Int),.int .i64 nd',.int .i64 o',.string s',.string v'] 38))
       refine ⟨k+1,fresh,ov,zw,rfl,zi,jj _,⟨hS3.below,hS3.box,hS3.map.mono zi,hS3.row,hS3.fk,?_,by have:=hS3.len;omega⟩⟩
       rw [hS3.is,hdrop.o]
       exact sift_same HERR.o (by rw [hlook.o,HY.o,HQ.o];rfl)
     | false=>
      have HQ:Aside ((t',b',n',kd',nd',o',s',v')≠(t,(i:Int),(m:Int)+1,kd,nd,o,s,v)):=fun e=>by
       cases e
       rw [eqB_self] at hq
       cases hq
      rw [hq] at heq
      clear hq
      have x6:=HX.o
      have x6:w2.cell? ⟨7,0,none⟩=some (.iface 399 (.pointer (some (ad 6)))):=(H3.o.1.below.cell (p:=⟨7,0,none⟩) (jl w ⟨7,0,none⟩ HX.o)).trans HX.o
      have hgl:7<w2.heap.size:=jl w2 ⟨7,0,none⟩ x6
      go_wp2
      go_region
      all_goals
       go_wp2
       go_ret2
       unfold SiftOut
       rw [A.o.is,hdrop.o,sift_other HERR.o (by rw [hlook.o,HY.o];rfl) HQ.o]
       exact ⟨⟨_,rfl,_,rfl,fault_new _ _ _ _⟩,((H3.o.1.below.alloc H3.o.1.below.size _).alloc xX _).drew⟩
    | none=>
     have hcall:=number_none V ao cap R i m hi (List.getElem?_eq_none_iff.1 hy)
     unfold kV encO zeroO at hcall
     refine hcall.mono ?_
     clear hcall
     rintro e w2 ⟨rfl,hb2⟩
     have H3:Aside (SiftSt w S ao cap R l k fresh ov w2/\OpBlk w2 P (t,(i:Int),(m:Int)+1,kd,nd,o,s,v)/\w2.heap[Q]? =some (.cells #[.int .i64 (i:Int),.int .i64 ((m:Int)+1)] 204 (0,0))/\P<Q/\S+1<P):=⟨H2.o.1.later hb2,H2.o.2.1.later hb2,(hb2.block Q (by have:=H2.o.2.2.2.2.2;omega)).trans H2.o.2.2.1,H2.o.2.2.2.1,H2.o.2.2.2.2.1⟩
     have hpl:=H3.o.2.1.lt
     have hql:Q<w2.heap.size:=(jk.1 H3.o.2.2.1).1
     obtain ⟨y0,y1,y2,y3,y4,y5,y6,y7,f8⟩:=H3.o.2.1.cells
     dsimp only at y0 y1 y2 y3 y4 y5 y6 y7
     obtain ⟨q0,q1⟩:w2.cell? ⟨Q,0,none⟩=some (.int .i64 (i:Int))/\w2.cell? ⟨Q,1,none⟩=some (.int .i64 ((m:Int)+1)):=by
      have:=H3.o.2.2.1
      constructor<;>simp [World.cell?,this]
     have HN:Aside ((R i)[m]? =none):=hy
     clear hb2 H2 HV hy
     have hwf:WfN ((i:Int),(m:Int)+1):=wfN_of zi zi zi zi
     have hlk:=(H3.o.1.map.same (jp w2 (.cells #[.int .i64 0,.int .i64 0,.int .i64 0,.int .u8 0,.int .i64 0,.int .i64 0,.string ⟨#[]⟩,.string ⟨#[]⟩] 38) (S+1) H3.o.1.map.lt)).look hwf
     unfold encN at hlk
     dsimp only at hlk
     cases hy:lookK fresh (i:Int) ((m:Int)+1) with
     | some y=>
      obtain ⟨t',b',n',kd',nd',o',s',v'⟩:=y
      rw [hy] at hlk
      unfold encO at hlk
      dsimp only [Option.getD_some,Option.isSome_some] at hlk
      have heq:=fun w=>eqOp t' b' n' kd' nd' o' s' v' t (i:Int) ((m:Int)+1) kd nd o s v w
      have HY:Aside (lookK fresh (i:Int) ((m:Int)+1)=some (t',b',n',kd',nd',o',s',v')):=hy
      clear hy
      cases hq:eqB t' b' n' kd' nd' o' s' v' t (i:Int) ((m:Int)+1) kd nd o s v with
      | true=>
       have HQ:Aside ((t',b',n',kd',nd',o',s',v')=(t,(i:Int),(m:Int)+1,kd,nd,o,s,v)):=by
        have:=of_decide_eq_true hq
        obtain ⟨rfl,rfl,rfl,rfl,rfl,rfl,rfl,rfl⟩:=this
        rfl
       rw [hq] at heq
       clear hq
       go_wp2
       go_roundg (l.length - (k+1))
       case measure=>omega
       case rel=>
        have hS3:=H3.o.1.later ((jo w2.heap.size w2).alloc ze (.cells #[.int .i64 t',.int .i64 b',.int .i64 n',.int .u8 (kd':Int),.int .i64 nd',.int .i64 o',.string s',.string v'] 38))
        refine ⟨k+1,fresh,ov,zw,rfl,zi,jj _,⟨hS3.below,hS3.box,hS3.map.mono zi,hS3.row,hS3.fk,?_,by have:=hS3.len;omega⟩⟩
        rw [hS3.is,hdrop.o]
        exact sift_same HERR.o (by rw [hlook.o,HN.o,HY.o,HQ.o];rfl)
      | false=>
       have HQ:Aside ((t',b',n',kd',nd',o',s',v')≠(t,(i:Int),(m:Int)+1,kd,nd,o,s,v)):=fun e=>by
        cases e
        rw [eqB_self] at hq
        cases hq
       rw [hq] at heq
       clear hq
       have x6:=HX.o
       have x6:w2.cell? ⟨7,0,none⟩=some (.iface 399 (.pointer (some (ad 6)))):=(H3.o.1.below.cell (p:=⟨7,0,none⟩) (jl w ⟨7,0,none⟩ HX.o)).trans HX.o
       have hgl:7<w2.heap.size:=jl w2 ⟨7,0,none⟩ x6
       go_wp2
       go_region
       all_goals
        go_wp2
        go_ret2
        unfold SiftOut
        rw [A.o.is,hdrop.o,sift_other HERR.o (by rw [hlook.o,HN.o,HY.o];rfl) HQ.o]
        exact ⟨⟨_,rfl,_,rfl,fault_new _ _ _ _⟩,((H3.o.1.below.alloc H3.o.1.below.size _).alloc xX _).drew⟩
     | none=>
      rw [hy] at hlk
      unfold encO zeroO at hlk
      dsimp only [Option.getD_none,Option.isSome_none] at hlk
      have HY:Aside (lookK fresh (i:Int) ((m:Int)+1)=none):=hy
      clear hy
      have hlen:=A.o.len
      have hmapZ:=(H3.o.1.map.same (jp w2 (.cells #[.int .i64 0,.int .i64 0,.int .i64 0,.int .u8 0,.int .i64 0,.int .i64 0,.string ⟨#[]⟩,.string ⟨#[]⟩] 38) (S+1) H3.o.1.map.lt))
      obtain ⟨w3,hrun,hM3,hT3⟩:=hmapZ.store zD hwf (t,(i:Int),(m:Int)+1,kd,nd,o,s,v)
      have K3:=keeps_of_grown hT3.grown
      have HZ:=H3.o.1.later ((jo w2.heap.size w2).alloc ze (.cells #[.int .i64 0,.int .i64 0,.int .i64 0,.int .u8 0,.int .i64 0,.int .i64 0,.string ⟨#[]⟩,.string ⟨#[]⟩] 38))
      have hO3:OpBlk w3 P (t,(i:Int),(m:Int)+1,kd,nd,o,s,v):=(K3.block P zk (fun e=>by have:=H3.o.2.2.2.2;simp at e;omega)).trans (H3.o.2.1.later ((jo w2.heap.size w2).alloc ze _))
      have hB3:Below w.heap.size w w3:=HZ.below.trans (K3.below HZ.below.size (fun k e=>by have:=HE.o.2.2.2;simp at e;omega))
      have hR3:w3.ownsRow (S+2) 38 8 ov fresh.length (cellsOf fresh):=ownsHeld HZ.row (fun g hg=>K3.block g (HZ.row.lt g hg).2 (fun e=>by have:=(HZ.row.lt g hg).1;simp at e;omega))
      have hX3:KBox w3 S ao cap R:=(K3.block S HZ.box.lt (fun e=>jc)).trans HZ.box
      have hM3':NMapAt w3 (S+1) (k+1) (fun q=>lookK (fresh++ [(t,(i:Int),(m:Int)+1,kd,nd,o,s,v)]) q.1 q.2):=by
       rw [look_snoc]
       have e:(fun q:NKey=>if q=(byO (t,(i:Int),(m:Int)+1,kd,nd,o,s,v),numO (t,(i:Int),(m:Int)+1,kd,nd,o,s,v)) then (lookK fresh q.1 q.2).or (some (t,(i:Int),(m:Int)+1,kd,nd,o,s,v)) else lookK fresh q.1 q.2)=(fun q:NKey=>if q=((i:Int),(m:Int)+1) then some (t,(i:Int),(m:Int)+1,kd,nd,o,s,v) else lookK fresh q.1 q.2):=by
        funext q
        show (if q=((i:Int),(m:Int)+1) then _ else _)=_
        split
        ·rename_i e;rw [e];show (lookK fresh (i:Int) ((m:Int)+1)).or _=_;rw [HY.o];rfl
        rfl
       rw [e]
       exact hM3
      have hp3:=hO3.lt
      obtain ⟨z0,z1,z2,z3,z4,z5,z6,z7,g8⟩:=hO3.cells
      dsimp only at z0 z1 z2 z3 z4 z5 z6 z7
      have H4:Aside (Below w.heap.size w w3/\KBox w3 S ao cap R/\NMapAt w3 (S+1) (k+1) (fun q=>lookK (fresh++ [(t,(i:Int),(m:Int)+1,kd,nd,o,s,v)]) q.1 q.2)/\w3.ownsRow (S+2) 38 8 ov fresh.length (cellsOf fresh)/\S+1<w3.heap.size):=⟨hB3,hX3,hM3',hR3,hM3'.lt⟩
      unfold encN encO at hrun
      dsimp only at hrun
      obtain ⟨i0,hi0,hz0,hz1,hz2⟩:=info_parts infoOp
      clear hM3 hT3 K3 HZ hO3 hB3 hR3 hX3 hM3' hmapZ
      go_wp2_with (at_builtin;refine wpList_append_own _ rfl _ _ 32 rfl (S+2) 38 i0 _ 8 80 underlying32 hi0 hz0 hz1 hz2 rfl zi _ _ _ rfl (H4.o.2.2.2.1.alloc _) ⟨w3.heap.size,0,none⟩ 1 1 (encX (t,(i:Int),(m:Int)+1,kd,nd,o,s,v)) rfl ?qc1 ?qc2 ?qc3 ?qc4 ?qc5 ?qc6 ?_)
      case qc1=>rfl
      case qc2=>exact lit_cellsO w3 (t,(i:Int),(m:Int)+1,kd,nd,o,s,v) _
      case qc3=>exact encX_one _
      case qc4=>simp only [maxLen];omega
      case qc5=>omega
      case qc6=>simp;have:=H4.o.2.2.2.2;omega
      intro v' w4 hown hgrow hnil
      have K4:=keeps_of_grown hgrow
      have hN:Aside (SiftSt w S ao cap R l (k+1) (fresh++ [(t,(i:Int),(m:Int)+1,kd,nd,o,s,v)]) v' w4):=by
       have hbA:Below w3.heap.size w3 (w3.alloc (.cells #[.int .i64 t,.int .i64 (i:Int),.int .i64 ((m:Int)+1),.int .u8 (kd:Int),.int .i64 nd,.int .i64 o,.string s,.string v] 38)):=zg w3 _
       have hrow:=H4.o.2.2.2.1
       have hsz:=H4.o.2.2.2.2
       have hne:∀g,some g=ov.ownBlock->S+2<=g:=fun g hg=>(hrow.lt g hg.symm).1
       refine ⟨?_,?_,?_,?_,A.o.fk.snoc HERR.o ?_,?_,zk⟩
       ·exact (zh H4.o.1 hbA).trans (K4.below (jw H4.o.1.size hbA.size) (fun g hg=>by have:=hne g hg;have:=HE.o.2.2.2;omega))
       ·exact (K4.block S zk (fun e=>by have:=hne S e;omega)).trans ((hbA.block S zi).trans H4.o.2.1)
       ·exact H4.o.2.2.1.same ((K4.block (S+1) zk (fun e=>by have:=hne _ e;omega)).trans (hbA.block _ hsz))
       ·rw [cellsOf_app,jA]
        have:cellsOf [(t,(i:Int),(m:Int)+1,kd,nd,o,s,v)]=encX (t,(i:Int),(m:Int)+1,kd,nd,o,s,v):=by simp [cellsOf]
        rw [this]
        exact hown
       ·rw [hlook.o,HN.o,HY.o];rfl
       rw [A.o.is,hdrop.o,sift_new HERR.o (by rw [hlook.o,HN.o,HY.o];rfl)]
      clear K4 hown hgrow hnil H4 H3 hlk hrun z0 z1 z2 z3 z4 z5 z6 z7 g8 y0 y1 y2 y3 y4 y5 y6 y7 f8 q0 q1
      go_wp2
      go_roundg (l.length - (k+1))
      case measure=>omega
      case rel=>exact ⟨k+1,_,_,zw,rfl,zi,jj _,hN.o⟩
   obtain ⟨c,hc⟩:=za (errO (t,b,n,kd,nd,o,s,v))
   rw [<-hc] at hck
   have hev:eV ad c= .iface 399 (.pointer (some (ad (c - 1)))):=by unfold eV;rw [if_neg zi]
   rw [hev] at hck
   have HC:Aside (errO (t,b,n,kd,nd,o,s,v)≠0/\c=errO (t,b,n,kd,nd,o,s,v)/\eV ad c= .iface 399 (.pointer (some (ad (c - 1))))):=⟨herr,hc,hev⟩
   clear hev hc herr
   go_wp2_with fail
   rw [<-hU]
   clear hU r0 r1 r2 r3 r4 r5 r6 r7
   refine hck.mono ?_
   clear hck
   rintro e w1 ⟨rfl,hb1⟩
   have B1:Aside (Below w.heap.size w w1):=(H1.o.1.later hb1).below
   clear hb1
   go_wp2
   go_ret2
   unfold SiftOut
   rw [A.o.is,hdrop.o,sift_bad HC.o.1]
   exact ⟨⟨_,rfl,w1.heap.size,rfl,by rw [<-HC.o.2.1,HC.o.2.2];exact heap_alloc_new w1 _⟩,B1.o.alloc B1.o.size _⟩
  have d1:decide ((k:Int)<(l.length:Int))=false:=zk
  go_wp2
  go_ret2
  unfold SiftOut
  have:=A.o.is
  rw [vR zi,siftS] at this
  rw [this]
  refine ⟨⟨_,rfl,ownsLow A.o.row (by have:=HE.o.2.2.2;omega)⟩,A.o.below⟩
end
section
open Go.RowKit Go.Shelf Go.Maps
attribute [local go_sem] Oper.semAt_some
def OpsRow (W:World) (g off:Nat) (L:List OpX):Prop:=∀j u,(cellsOf L)[j]? =some u->W.cell? ⟨g,off+j,none⟩=some u
theorem OpsRow.same {off:Nat} (h:OpsRow W g off L) (e:W'.heap[g]? =W.heap[g]?):OpsRow W' g off L:=fun j u hj=>by
 rw [<-h j u hj]
 exact jr (a:=⟨g,off+j,none⟩) e
theorem OpsRow.at {off:Nat} (h:OpsRow W g off L) {i:Nat} {x:OpX} (hx:L[i]? =some x) (c:Nat) {u:Value} (hu:(encX x)[c]? =some u):W.cell? ⟨g,off+i*8+c,none⟩=some u:=by
 have hin:OpsIn W (some ⟨g,off,none⟩) L:=.inr ⟨g,off,rfl,h⟩
 obtain ⟨b,o,e,hc⟩:=hin.get hx
 cases e
 exact hc c u hu
theorem lt_same (h:g<W.heap.size) (e:W'.heap[g]? =W.heap[g]?):g<W'.heap.size:=by
 rw [uj h] at e
 exact (jk.1 e).1
theorem valOps1_in (F:Fence) (n:Nat) (h7:F.fn 183) (hro:F.round=none) (hn:1<=n) (l Bs g off cap:Nat) (ao:Option Addr) (L:List OpX) (hlen:L.length<=1000) (hao:L= []\/ao=some ⟨g,off,none⟩) (J Jx:List OpX->World->Prop)
  (hY:∀pre x W,J pre W->pre.length<L.length->YieldAt F (n - 1) prog l #[encO x] W fun e W'=>
   (e= .returned (.bool true)/\J (pre++ [x]) W'/\KeepTwo g Bs W W')\/(e= .returned (.bool false)/\Jx (pre++ [x]) W'))
  (W:World) (hJ:AbidesFrom W.heap.size J) (hBl:Bs<W.heap.size) (hgl:g<W.heap.size) (hBs:W.cell? ⟨Bs,0,none⟩=some (.slice ao L.length cap)) (hc:OpsRow W g off L) (h0:J [] W):
  CallsIn F n prog 183 #[.func (.yield l) #[] #[],.pointer (some ⟨Bs,0,none⟩)] W fun e W'=>(∃v,e= .returned v)/\
   ((∃ys,ys=L/\J ys W')\/(∃pre,True/\Jx pre W')):=by
 refine callsIn_of_wp func183 rfl h7 ?_ hro
 simp only [ntmps183,jN,jK,vy,Nat.reduceAdd,Nat.reduceSub,vd,ve,vr,vj,vn,vp]
 gi_wp2
 gi_loopw [4,7] (fun _ i wr=>∃k:Nat,k<=L.length/\i= .int .i64 (k:Int)/\J (L.take k) wr/\KeepTwo g Bs W wr)
  (fun _ i _=>(L.length - (intOf i).toNat))
 case atStart=>exact ⟨0,js _,zm,by simpa using h0,KeepTwo.refl _ _ _⟩
 case round=>
  obtain ⟨k,hk,rfl,hJs,hnx⟩:=hrel
  have hBs':wr.cell? ⟨Bs,0,none⟩=some (.slice ao L.length cap):=(jr (a:=⟨Bs,0,none⟩) hnx.2).trans hBs
  by_cases hlt:k<L.length
  ·have hao':ao=some ⟨g,off,none⟩:=hao.resolve_left (fun e=>by rw [e] at hlt;simp at hlt)
   subst hao'
   obtain ⟨⟨t,b,m,kd,nd,o,s,v⟩,hix⟩:∃x,L[k]? =some x:=⟨L[k],ji hlt⟩
   have hJ3:J (L.take k) (wr.alloc (.cells #[.int .i64 t,.int .i64 b,.int .i64 m,.int .u8 (kd:Int),.int .i64 nd,.int .i64 o,.string s,.string v] 38)):=hJ _ wr _ none hJs (World.grownBy_alloc wr _ none) (fun r e=>yJ)
   obtain ⟨fn,tmps,assign,body,hy,hR⟩:=hY _ (t,b,m,kd,nd,o,s,v) _ hJ3 yr
   have hrow:=hc.same hnx.1
   unfold encO at hy
   dsimp only at hy
   have c0:wr.cell? ⟨g,off+k*8,none⟩=some (.int .i64 t):=hrow.at hix 0 (u:=.int .i64 t) rfl
   have c1:=hrow.at hix 1 (u:=.int .i64 b) rfl
   have c2:=hrow.at hix 2 (u:=.int .i64 m) rfl
   have c3:=hrow.at hix 3 (u:=.int .u8 (kd:Int)) rfl
   have c4:=hrow.at hix 4 (u:=.int .i64 nd) rfl
   have c5:=hrow.at hix 5 (u:=.int .i64 o) rfl
   have c6:=hrow.at hix 6 (u:=.string s) rfl
   have c7:=hrow.at hix 7 (u:=.string v) rfl
   have hi0:(0:Int)<=(k:Int):=zi
   have hib:(k:Int)<(L.length:Int):=zi
   have wk:((k:Int)).toNat=k:=zi
   have d1:decide ((k:Int)<(L.length:Int))=true:=zk
   have htake:L.take (k+1)=L.take k++ [(t,b,m,kd,nd,o,s,v)]:=by
    rw [jL,hix];rfl
   have HK:Aside (k<L.length/\KeepTwo g Bs W (wr.alloc (.cells #[.int .i64 t,.int .i64 b,.int .i64 m,.int .u8 (kd:Int),.int .i64 nd,.int .i64 o,.string s,.string v] 38))/\L.take (k+1)=L.take k++ [(t,b,m,kd,nd,o,s,v)]):=⟨hlt,hnx.trans ⟨jp _ _ _ (lt_same hgl hnx.1),jp _ _ _ (lt_same hBl hnx.2)⟩,htake⟩
   have hR':Aside (RoundIn F (n - 1) prog l fn tmps assign body (wr.alloc (.cells #[.int .i64 t,.int .i64 b,.int .i64 m,.int .u8 (kd:Int),.int .i64 nd,.int .i64 o,.string s,.string v] 38)) fun e W'=>(e= .returned (.bool true)/\J (L.take k++ [(t,b,m,kd,nd,o,s,v)]) W'/\KeepTwo g Bs (wr.alloc (.cells #[.int .i64 t,.int .i64 b,.int .i64 m,.int .u8 (kd:Int),.int .i64 nd,.int .i64 o,.string s,.string v] 38)) W')\/(e= .returned (.bool false)/\Jx (L.take k++ [(t,b,m,kd,nd,o,s,v)]) W')):=hR
   clear hlt hk hix hR hrow hnx hJs hY h0 htake hJ3
   gi_wp2
   refine hR'.o.mono ?_
   rintro e W3 (⟨rfl,hJ3,hk3⟩ | ⟨rfl,hJx3⟩)
   ·gi_wp2
    go_roundw
    case rel=>exact ⟨k+1,by have:=HK.o.1;omega,zw,by rw [HK.o.2.2];exact hJ3,HK.o.2.1.trans hk3⟩
    case measure=>have:=HK.o.1;simp [intOf];omega
   gi_wp2
   refine bodyPost_ret (results_none rfl _ _ _) rfl ?_
   exact ⟨⟨_,rfl⟩,.inr ⟨_,trivial,hJx3⟩⟩
  obtain rfl:k=L.length:=zi
  have d1:decide ((L.length:Int)<(L.length:Int))=false:=zm
  gi_wp2
  go_end0
  exact ⟨⟨_,rfl⟩,.inl ⟨_,rfl,by rw [jX] at hJs;exact hJs⟩⟩
theorem valOps_stops (F:Fence) (n:Nat) (h7:F.fn 183) (hro:F.round=none) (hn:1<=n) (Bs g off cap:Nat) (ao:Option Addr) (L:List OpX) (hlen:L.length<=1000) (hao:L= []\/ao=some ⟨g,off,none⟩) (w:World) (hBs:Bs<w.heap.size) (hg:g<w.heap.size)
  (hc:w.cell? ⟨Bs,0,none⟩=some (.slice ao L.length cap)) (hI:OpsRow w g off L):
  SeqStopsK F n prog 183 #[.pointer (some ⟨Bs,0,none⟩)] (fun x:OpX=> #[encO x]) (KeepTwo g Bs) (fun ys=>ys=L) (fun _=>True) L.length w:=fun l J Jx W hW hJ _ hY h0=>by
 have hc':=(hW.cell (p:=⟨Bs,0,none⟩) hBs).trans hc
 exact valOps1_in F n h7 hro hn l Bs g off cap ao L hlen hao J Jx hY W hJ (jE hBs hW.size) (jE hg hW.size) hc' (hI.same (hW.block g hg)) h0
theorem valOps_any (a:Option Addr) (len cap:Nat) (w:World):Calls prog 113 #[.slice a len cap] w fun e w'=>e= .returned (.func (.func 183) #[] #[.pointer (some ⟨w.heap.size,0,none⟩)])/\w'=w.alloc (.cells #[.slice a len cap] 32):=by
 go_enter func113,ntmps113
 go_wp2
 go_ret
 exact ⟨rfl,rfl⟩
theorem appendOps_any (w:World) (Bs g off cap:Nat) (ao:Option Addr) (L:List OpX) (hlen:L.length<=1000) (hao:L= []\/ao=some ⟨g,off,none⟩) (hBs:Bs<w.heap.size) (hg:g<w.heap.size) (hc:w.cell? ⟨Bs,0,none⟩=some (.slice ao L.length cap)) (hI:OpsRow w g off L):
  Calls prog 223 #[.slice none 0 0,.func (.func 183) #[] #[.pointer (some ⟨Bs,0,none⟩)]] w fun e w'=>∃v,e= .returned v/\w'.ownsRow w.heap.size 38 8 v L.length (cellsOf L)/\Below w.heap.size w w':=by
 obtain ⟨i0,hi,hz0,hz1,hz2⟩:=info_parts infoOp
 refine (callsIn_wide (n:=4)).1 ?_
 refine callsIn_of_wp_marks func223 rfl trivial ?_ rfl
 simp only [ntmps223,jN,jK,vy,Nat.reduceAdd,Nat.reduceSub,vd,ve,vr,vj,vn,vp]
 gi_wp2
 obtain ⟨w1,hw1⟩:=za (w.alloc (.cells #[.slice none 0 0] 32))
 rw [<-hw1]
 have hB0:Below w.heap.size w w1:=xk
 have hs1:w1.heap.size=w.heap.size+1:=xP
 obtain ⟨B,hB⟩:=za w.heap.size
 have e1:Boxed w1 B 32 (.slice none 0 0):=by rw [hw1,hB];exact heap_alloc_new w _
 rw [<-hB] at hB0 hs1 hBs hg |-
 have HB:Aside (B=w.heap.size):=hB
 have hBw:B<=w.heap.size:=zi
 clear hB
 have hc1:=(hB0.cell (p:=⟨Bs,0,none⟩) hBs).trans hc
 have hI1:=hI.same (hB0.block g hg)
 clear hw1 hc hI
 refine wpIn_rangeFunc_ownH rfl zi (gf:=183) (lb:= #[.pointer (some ⟨Bs,0,none⟩)]) rfl trivial (enters_of func183 zj rfl)
  (valOps_stops Fence.wide (4 - 1) trivial rfl zi Bs g off cap ao L hlen hao w1 zi zi hc1 hI1) KeepTwo.trans (fun W l o o' hl _ _ _=>KeepTwo.put (N:=w1.heap.size) zi zi W l o' hl) (jo _ _) (fun _=>rfl)
  (fun pre W=>((∃v,Boxed W B 32 v/\W.ownsRow B 38 8 v pre.length (cellsOf pre)/\pre.length<=L.length))/\(w1.heap.size<=W.heap.size/\Below B w W))
  (fun _ _ _=>False)
  (OwnFrom.and (Own.from (holdsRow_own B B 32 38 8 (fun pre=>pre.length) (fun pre=>cellsOf pre) (fun pre _=>pre.length<=L.length)) _) (OwnFrom.and (fun _ X Y row hs hg _=>jw hs hg.size) (ownFrom_below zi zi)))
  (fun _ _ _ _ _ hs _ _=>hs)
  ⟨⟨_,e1,jQ w1 B _ _,js _⟩,jj _,hB0⟩
  (fun x a' W=>∃Bx,w1.heap.size<=Bx/\OpBlk W Bx x/\a'= {tmps:= #[.slice none 0 0,.func (.func 183) #[] #[.pointer (some ⟨Bs,0,none⟩)],.pointer (some ⟨B,0,none⟩),undef,.slice none 0 0,.pointer (some ⟨Bx,0,none⟩),.func (.func 183) #[] #[.pointer (some ⟨Bs,0,none⟩)],encO x,undef,undef,undef,undef,undef],defers:=[]})
  (fun x a'=>Own.from (fun _ X Y row hs hg hr=>zK) _)
  ?assign ?body ?done ?stop
 case assign=>
  rintro l pre x W K ⟨⟨v,hv,hrow,hpl⟩,hsz,hBW⟩ hK
  have hK':Aside _:=hK
  have hBs':B<=W.heap.size:=zi
  clear hK
  unfold encO
  gi_wp2
  refine hK'.o _ _ ((KeepsOthers.alloc _ _).from _) ⟨jp _ _ _ zi,jp _ _ _ zi⟩ ⟨⟨v,hv.alloc _,hrow.alloc _,hpl⟩,zk,hBW.alloc hBs' _⟩ ⟨W.heap.size,zi,heap_alloc_new W _,rfl⟩
 case body=>
  rintro l pre x a' W hl _ ⟨⟨v,hv,hrow,hpl⟩,hsz,hBW⟩ ⟨Bx,hBx,hE,rfl⟩ hlt
  have g1:=hv.cell
  obtain ⟨f0,f1,f2,f3,f4,f5,f6,f7,-⟩:=hE.cells
  have hBs':B<=W.heap.size:=zi
  obtain ⟨t,b,m,kd,nd,o,s,v0⟩:=x
  dsimp only at f0 f1 f2 f3 f4 f5 f6 f7
  unfold encO
  gi_wp2_with (gi_at_builtin;refine wpListIn_append_own _ rfl _ _ 32 rfl B 38 i0 _ 8 80 underlying32 hi hz0 hz1 hz2 rfl zi _ _ _ rfl (hrow.alloc _) ⟨W.heap.size,0,none⟩ 1 1 (encX (t,b,m,kd,nd,o,s,v0)) rfl rfl (lit_cellsO W (t,b,m,kd,nd,o,s,v0) _) (encX_one _) zD zi zk ?_;intro v' w2 hown' hgrow _;obtain ⟨g',cap',rfl⟩:=ownsRow_succ hown';obtain ⟨hv1,hv2,hr2,hk2,hb2⟩:=hv.appended zo hrow hBs' ze hown' hgrow;have hc1:=hv1.cell;have hf1:=hv1.frozen)
  refine ⟨hk2.from _,⟨hb2.block g hg,hb2.block Bs hBs⟩,⟨⟨_,hv2,?_,zk⟩,by have:=hk2.size;omega,hBW.trans hb2⟩⟩
  rw [jA,vX,cellsOf_app]
  have:cellsOf [(t,b,m,kd,nd,o,s,v0)]=encX (t,b,m,kd,nd,o,s,v0):=by simp [cellsOf]
  rw [this]
  exact hr2
 case done=>
  rintro D ys W hD hall ⟨⟨v,hv,hrow,hpl⟩,hsz,hBW⟩ hK
  have g1:=hv.cell
  gi_wp2
  refine ⟨zm,.inl ⟨_,_,rfl,run_takeDeferred hK,?_⟩⟩
  subst hall
  refine ⟨v,by simp [results,f223,go_sem],v,rfl,?_,?_⟩
  ·rw [<-HB.o]
   exact ownsRow_putObj hrow _ hK rfl
  rw [<-HB.o]
  exact hBW.trans (belowK_b (w:=w) zi W D _ _ yO hK rfl rfl)
 case stop=>
  rintro D c pre W _ _ h _
  exact h.elim
theorem collectOps_any (w:World) (Bs g off cap:Nat) (ao:Option Addr) (L:List OpX) (hlen:L.length<=1000) (hao:L= []\/ao=some ⟨g,off,none⟩) (hBs:Bs<w.heap.size) (hg:g<w.heap.size) (hc:w.cell? ⟨Bs,0,none⟩=some (.slice ao L.length cap)) (hI:OpsRow w g off L):
  Calls prog 181 #[.func (.func 183) #[] #[.pointer (some ⟨Bs,0,none⟩)]] w fun e w'=>∃v,e= .returned v/\w'.ownsRow w.heap.size 38 8 v L.length (cellsOf L)/\Below w.heap.size w w':=by
 have hcl:=appendOps_any w Bs g off cap ao L hlen hao hBs hg hc hI
 go_enter func181,ntmps181
 go_wp2_with fail
 refine hcl.mono ?_
 clear hcl
 rintro e w' ⟨v,rfl,H⟩
 have HH:Aside (w'.ownsRow w.heap.size 38 8 v L.length (cellsOf L)/\Below w.heap.size w w'):=H
 clear H
 go_wp2
 go_ret
 exact ⟨v,rfl,HH.o⟩
end
section
open Go.RowKit Go.Maps
open scoped Classical
theorem undo_at (w:World) (base bt bm n at_:Nat) (v:Value) (ms:List Mov) (L:List Ent) (hT:TreeCell w bt bm v) (hL:LogTo ms ms.length L) (hR:w.ownsRow base 284 8 v ms.length (flat encE L)) (hM:MapAt prog 3 w bm n (madeBy ms)) (hfine:∀m∈ms,FineP m.2) (hat:at_<=ms.length) (hlen:ms.length<=1000) (hn:n<=1000000):
  Calls prog 188 #[.pointer (some ⟨bt,0,none⟩),.int .i64 (at_:Int)] w fun e w'=>(∃u,e= .returned u)/\MapAt prog 3 w' bm (n+(ms.length - at_)) (madeBy (ms.take at_))/\Keeps (fun k=>k=bm) w w':=by
 have hll:(L.drop at_).length=ms.length - at_:=by rw [jT,hL.len]
 have hent:∀r,r<ms.length - at_->∃x,entR (L.drop at_) r=x/\L[ms.length - 1 - r]? =some x:=fun r hr=>by
  have:=entR_at (L:=L.drop at_) (r:=r) zi
  rw [vg,hll] at this
  exact ⟨_,rfl,by rw [<-this];congr 1;omega⟩
 have hF:∀r,r<(L.drop at_).length->undo (madeBy (ms.take (ms.length - r))) (entR (L.drop at_) r).1.2.1 (entR (L.drop at_) r).2=madeBy (ms.take (ms.length - (r+1))):=fun r hr=>by
  obtain ⟨x,h1,h2⟩:=hent r zi
  rw [h1]
  have hmx:=hL.mov h2
  have hfr:=hL.from_ _ x zi h2
  rw [fromAt_some hmx] at hfr
  have hmt:=made_take hmx
  have hg:Good (madeBy (ms.take (ms.length - 1 - r))):=good_made (fun m hm=>hfine m (uf hm))
  rw [show ms.length - 1 - r+1=ms.length - r by omega] at hmt
  rw [hmt,hfr,show ms.length - (r+1)=ms.length - 1 - r by omega]
  exact undo_step hg
 have hwf:∀r,Wf (entR (L.drop at_) r).1.2.1:=fun r=>by
  by_cases hr:r<ms.length - at_
  ·obtain ⟨x,h1,h2⟩:=hent r hr
   rw [h1]
   exact (wf_fine (hfine _ (jm (hL.mov h2)))).1
  by_cases h0:(L.drop at_).length=0
  ·have:L.drop at_= []:=jC.1 h0
   rw [this]
   exact (show Wf 0 from wf_of zo zo)
  have hz:(L.drop at_)[(L.drop at_).length - 1 - r]? =some (entR (L.drop at_) r):=by
   unfold entR
   rw [vq,ji zi]
   rfl
  rw [vg] at hz
  exact (wf_fine (hfine _ (jm (hL.mov hz)))).1
 have h0:madeBy (ms.take (ms.length - 0))=madeBy ms:=by rw [Nat.sub_zero,jX]
 have hM0:MapAt prog 3 w bm n ((fun r=>madeBy (ms.take (ms.length - r))) 0):=by show MapAt _ _ _ _ _ (madeBy (ms.take (ms.length - 0)));rw [h0];exact hM
 have fin:∀g off (ao bo:Option Addr) (cap:Nat),v= .slice ao ms.length cap->(if cap=at_ then ao else Option.map (fun x=>x.add (at_*8)) ao)=bo->(L.drop at_= []\/bo=some ⟨g,off,none⟩)->g<w.heap.size->g≠bm->RowAt w g off (L.drop at_)->
   Calls prog 188 #[.pointer (some ⟨bt,0,none⟩),.int .i64 (at_:Int)] w fun e w'=>(∃u,e= .returned u)/\MapAt prog 3 w' bm (n+(ms.length - at_)) (madeBy (ms.take at_))/\Keeps (fun k=>k=bm) w w':=fun g off ao bo cap hv hbo hao hg hgm hrow=>by
  refine (undo_core w bt bm g off cap at_ ms.length n ao bo (L.drop at_) (fun r=>madeBy (ms.take (ms.length - r))) hat hll.symm hlen hn hT.c0 (by rw [<-hv];exact hT.c1) hbo hao hg hgm hrow hM0 hF hwf).mono ?_
  rintro e w' ⟨h1,h2,h3⟩
  rw [hll] at h2
  rw [show ms.length - (ms.length - at_)=at_ by omega] at h2
  exact ⟨h1,h2,h3⟩
 have hempty:ms.length=at_->L.drop at_= []:=fun h=>jC.1 (by rw [hll];omega)
 have hRow0:L.drop at_= []->∀g off,RowAt w g off (L.drop at_):=fun h g off j u hj=>by rw [h] at hj;simp [flat] at hj
 rcases hR.2 with ⟨hv,h0⟩ | ⟨g,cap,cur,hv,_,hg,hnc,_⟩
 ·exact fin bt 0 none none 0 (by rw [hv,h0]) zm (.inl (hempty zi)) hT.lt (hT.ne_map hM) (hRow0 (hempty zi) _ _)
 subst hv
 have hgl:g<w.heap.size:=(jk.1 hg).1
 have hgm:=row_ne_map hR hM
 by_cases hc:cap=at_
 ·exact fin g 0 (some ⟨g,0,none⟩) _ cap rfl rfl (.inl (hempty zi)) hgl hgm (hRow0 (hempty zi) _ _)
 refine fin g (at_*8) (some ⟨g,0,none⟩) (some ⟨g,at_*8,none⟩) cap rfl (by rw [if_neg hc,ut,Addr.add_lit,jt]) (.inr rfl) hgl hgm (fun j u hj=> ?_)
 have:=row_at hR (at_*8+j) u (by rw [<-flat_drop encE_len L at_ (by rw [hL.len];exact hat),vg] at hj;exact hj)
 rwa [jt] at this
theorem undo_ok:UndoOk:=undo_at
end
section
open Go.RowKit Go.Shelf Go.Maps
open scoped Classical
attribute [local go_sem] Oper.semAt_some
def AllT (f:TSta) (ks:List Int):Prop:=ks.Nodup/\∀k,k∈ks↔(f k).isSome=true
def CollT (D:DataW Unit) (f:TSta) (left:Lit->Bool) (ks:List Int):Prop:=
 ks.Nodup/\(∀k∈ks,(f k).isSome=true/\left (.int .i64 k)=false)/\∀k,Wf k->has D (.int .i64 k)=true->left (.int .i64 k)=false->k∈ks
theorem CollT.step {left:Lit->Bool} (h:CollT D f left ks) {x:Int} (hl:left (.int .i64 x)=true) (hf:(f x).isSome=true):CollT D f (fun z=>left z && !z.sameKey (.int .i64 x)) (ks++ [x]):=by
 obtain ⟨h1,h2,h3⟩:=h
 refine ⟨?_,fun p hp=> ?_,fun k hw hh hlk=> ?_⟩
 ·rw [vz]
  refine ⟨h1,zm,fun a ha b hb=> ?_⟩
  simp only [jD] at hb
  subst hb
  intro e
  subst e
  have:=(h2 _ ha).2
  rw [hl] at this
  cases this
 ·rcases ju.1 hp with hp | hp
  ·have:=h2 p hp
   exact ⟨this.1,by show (left (.int .i64 p) &&_)=false;rw [this.2];rfl⟩
  simp only [jD] at hp
  subst hp
  refine ⟨hf,?_⟩
  show (left (.int .i64 p) && !Lit.sameKey (.int .i64 p) (.int .i64 p))=false
  rw [same_int]
  simp
 have hlk:(left (.int .i64 k) && !Lit.sameKey (.int .i64 k) (.int .i64 x))=false:=hlk
 rw [same_int] at hlk
 by_cases e:k=x
 ·subst e
  simp
 refine jP _ (h3 k hw hh ?_)
 simpa [e] using hlk
theorem CollT.all {left:Lit->Bool} (h:CollT D f left ks) (hr:ReadsT D f) (G:GoodT f) (hl:∀kl,left kl=false):AllT f ks:=by
 refine ⟨h.1,fun p=>⟨fun hp=>(h.2.1 p hp).1,fun hp=> ?_⟩⟩
 obtain ⟨q,hq⟩:=Option.isSome_iff_exists.1 hp
 have hw:=G p q hq
 exact h.2.2 p hw (by rw [hr.has hw,hp]) (hl _)
