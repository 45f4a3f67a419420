import Derived.Test.YtfkekfibjnjcnaaGreatDoorMZ40
set_option linter.unusedSimpArgs false
set_option linter.unusedVariables false
set_option maxRecDepth 100000
set_option maxHeartbeats 64000000
namespace Go.Proofs.YtfkekfibjnjcnaaGreatDoor
open Go.Proofs.Tryz
section
open Go.RowKit Go.Lib Go.Sort Go.Maps
open scoped Classical
abbrev Stp:=ByteArray×Int×Int×Int×OpX
def encSt (x:Stp):List Value:=[.string x.1,.int .i64 x.2.1,.int .i64 x.2.2.1,.int .i64 x.2.2.2.1]++encX x.2.2.2.2
theorem encSt_len (x:Stp):(encSt x).length=12:=rfl
def aggSt (x:Stp):Value:=.agg #[.string x.1,.int .i64 x.2.1,.int .i64 x.2.2.1,.int .i64 x.2.2.2.1,.int .i64 x.2.2.2.2.1,.int .i64 x.2.2.2.2.2.1,.int .i64 x.2.2.2.2.2.2.1,.int .u8 (x.2.2.2.2.2.2.2.1:Int),.int .i64 x.2.2.2.2.2.2.2.2.1,.int .i64 x.2.2.2.2.2.2.2.2.2.1,.string x.2.2.2.2.2.2.2.2.2.2.1,.string x.2.2.2.2.2.2.2.2.2.2.2]
def I64 (x:Int):Prop:= -9223372036854775808<=x/\x<=9223372036854775807
def StpIn (x:Stp):Prop:=I64 x.2.1/\I64 x.2.2.1/\I64 x.2.2.2.1/\kdO x.2.2.2.2<256/\I64 (nodeO x.2.2.2.2)/\I64 (otherO x.2.2.2.2)
def StpShort (x:Stp):Prop:=x.2.2.2.2.2.2.2.2.2.2.1.size<=60/\x.2.2.2.2.2.2.2.2.2.2.2.size<=60
def LongSt (w:World) (m:Nat) (l:List Stp) (e:Ending) (w':World):Prop:=∃z,e= .returned (.bool z)/\Aside ((z=false->l.length<=m/\∀t∈l,StpShort t)/\w'=w)
theorem longS_any (w:World) (m:Nat) (hm:m<=1000) (la:Option Addr) (lc:Nat) (l:List Stp) (hin:InRow encSt w la l) (hn:l.length<9223372036854775808):
  Calls prog 7 #[.slice la l.length lc,.int .i64 (m:Int)] w (LongSt w m l):=by
 have HI:Aside (InRow encSt w la l):=hin
 clear hin
 by_cases hl:l.length<=m
 ·have d0:decide ((m:Int)<(l.length:Int))=false:=by simp;omega
  have d0n:decide (m<l.length)=false:=zl
  go_enter func7,ntmps7
  go_wp2
  go_loopg [5] l.length (fun kx s5 wr=>∃(k:Nat),s5= .int .i64 (k:Int)/\k<=l.length/\l.length - k<=kx/\Aside ((∀t∈l.take k,StpShort t)/\wr=w))
  case atStart=>exact ⟨0,rfl,vD _,vm _,fun t ht=>by simp at ht,rfl⟩
  case round=>
   obtain ⟨k,rfl,hk,hkx,A⟩:=hrel
   obtain rfl:wr=w:=A.o.2
   by_cases hlt:k<l.length
   ·have d2:decide ((k:Int)<(l.length:Int))=true:=by simp;omega
    have wk:((k:Int)).toNat=k:=zj
    have pk:(0:Int)<=(k:Int):=zj
    have bk:(k:Int)<(l.length:Int):=zj
    obtain ⟨⟨kk,pn,pt,pa,t,b,n,kd,nd,o,s,v⟩,hx⟩:∃x,Aside (l[k]? =some x):=⟨l[k],vj hlt⟩
    obtain ⟨blk,off,hao,hc⟩:=HI.o.get encSt_len hx.o
    subst hao
    have r8:=hc 10 _ rfl
    have r9:=hc 11 _ rfl
    clear hc
    by_cases h1:s.size<=60
    ·have e1:decide ((60:Int)<(s.size:Int))=false:=by simp;omega
     have e1n:decide (60<s.size)=false:=zl
     by_cases h2:v.size<=60
     ·have e2:decide ((60:Int)<(v.size:Int))=false:=by simp;omega
      have e2n:decide (60<v.size)=false:=zl
      have HN:Aside (∀t∈l.take (k+1),StpShort t):=fun t ht=>by
       rw [ut,hx.o] at ht
       rcases vv.1 ht with ht | ht
       ·exact A.o.1 t ht
       simp at ht
       subst ht
       exact ⟨h1,h2⟩
      clear A h1 h2
      go_wp2
      go_roundg (l.length - (k+1))
      case measure=>omega
      case rel=>exact ⟨k+1,zL,zj,vm _,HN.o,rfl⟩
     have e2:decide ((60:Int)<(v.size:Int))=true:=zl
     have e2n:decide (60<v.size)=true:=zl
     go_wp2
     go_ret
     exact ⟨true,rfl,⟨(fun h=>Bool.noConfusion h),rfl⟩⟩
    have e1:decide ((60:Int)<(s.size:Int))=true:=zl
    have e1n:decide (60<s.size)=true:=zl
    go_wp2
    go_ret
    exact ⟨true,rfl,⟨(fun h=>Bool.noConfusion h),rfl⟩⟩
   have d2:decide ((k:Int)<(l.length:Int))=false:=zl
   have ek:l.take k=l:=vG zj
   rw [ek] at A
   go_wp2
   go_ret
   exact ⟨false,rfl,⟨fun _=>⟨hl,A.o.1⟩,rfl⟩⟩
 have d0:decide ((m:Int)<(l.length:Int))=true:=zl
 have d0n:decide (m<l.length)=true:=zl
 go_enter func7,ntmps7
 go_wp2
 go_ret
 exact ⟨true,rfl,⟨(fun h=>Bool.noConfusion h),rfl⟩⟩
theorem str_no {kk l:ByteArray} (h:kk≠l):(kk.toList==l.toList)=false/\(kk==l)=false/\decide (kk=l)=false:=by
 refine ⟨?_,?_,decide_eq_false h⟩
 ·rw [beq_eq_false_iff_ne,vE,vE]
  intro e
  apply h
  cases kk
  cases l
  congr 1
  exact Array.toList_inj.1 e
 rw [Bool.eq_false_iff]
 intro e
 apply h
 cases kk
 cases l
 congr 1
 have e':(_==_)=true:=e
 exact eq_of_beq e'
def WalkOut (gd:Nat->Option Obj) (B n bm i:Nat) (G:List OpX) (K:Nat->Rws) (x:Stp) (w:World) (e:Ending) (w':World):Prop:=∃(y:OpX) (z:Bool) (G':List OpX) (K':Nat->Rws) (D':Nat->List OpX) (st':Nat->DSt) (N':List NoteX),e= .returned (.tuple #[encO y,.bool z])/\Aside (MeshS gd B n bm K' st' N' w'/\Below B w w'/\MeshI n (i+1) G' K' D' st' N'/\N'.length<=30/\(∀r,r<n->¬(x.1=⟨#[98,111,111,116]⟩/\x.2.1=(r:Int))->∀u∈allR (K r),u∈allR (K' r))/\((z=false/\G'=G)\/(z=true/\G'=G++ [y]/\byO y=x.2.1/\0<=x.2.1/\x.2.1<(n:Int))))
theorem walk_any {gd:Nat->Option Obj} {B:Nat} {ad:Nat->Addr} {n bm:Nat} {K:Nat->Rws} {st:Nat->DSt} {N:List NoteX} {i:Nat} {G:List OpX} {D:Nat->List OpX} (w:World) (x:Stp) (hn:1<=n) (hn4:n<=4) (h:MeshS gd B n bm K st N w) (hI:MeshI n i G K D st N) (hN:N.length<=30) (hE:EnvM B ad w) (hi:i<=125) (hx:StpIn x) (hs:StpShort x):
  Calls prog 11 #[.pointer (some ⟨bm,0,none⟩),aggSt x] w (WalkOut gd B n bm i G K x w):=by
 obtain ⟨kk,pn,pt,pa,t,b,m,kd,nd,o,s,v⟩:=x
 obtain ⟨xn,xt,xa,xk,xd,xo⟩:=hx
 unfold I64 at xn xt xa xd xo
 dsimp only at xn xt xa xk xd xo
 obtain ⟨S,hS⟩:=ze w.heap.size
 obtain ⟨U,hU⟩:=ze ((w.alloc (.cells #[.string kk,.int .i64 pn,.int .i64 pt,.int .i64 pa,.int .i64 t,.int .i64 b,.int .i64 m,.int .u8 (kd:Int),.int .i64 nd,.int .i64 o,.string s,.string v] 45)).alloc (.cells #[.int .i64 0,.int .i64 0,.int .i64 0,.int .u8 0,.int .i64 0,.int .i64 0,.string ⟨#[]⟩,.string ⟨#[]⟩] 41))
 have hbU:Below w.heap.size w U:=jD
 have T0:U.heap[S]? =some (.cells #[.string kk,.int .i64 pn,.int .i64 pt,.int .i64 pa,.int .i64 t,.int .i64 b,.int .i64 m,.int .u8 (kd:Int),.int .i64 nd,.int .i64 o,.string s,.string v] 45 (0,0)):=by rw [hU.o,hS.o];exact (vy _ _ _ zm).trans (heap_alloc_new w _)
 have Z0:U.heap[S+1]? =some (.cells #[.int .i64 0,.int .i64 0,.int .i64 0,.int .u8 0,.int .i64 0,.int .i64 0,.string ⟨#[]⟩,.string ⟨#[]⟩] 41 (0,0)):=by
  rw [hU.o,hS.o]
  have:=heap_alloc_new (w.alloc (.cells #[.string kk,.int .i64 pn,.int .i64 pt,.int .i64 pa,.int .i64 t,.int .i64 b,.int .i64 m,.int .u8 (kd:Int),.int .i64 nd,.int .i64 o,.string s,.string v] 45)) (.cells #[.int .i64 0,.int .i64 0,.int .i64 0,.int .u8 0,.int .i64 0,.int .i64 0,.string ⟨#[]⟩,.string ⟨#[]⟩] 41)
  rw [vQ] at this
  exact this
 have j0:U.cell? ⟨S,0,none⟩=some (.string kk):=zV
 have j1:U.cell? ⟨S,1,none⟩=some (.int .i64 pn):=zV
 have j2:U.cell? ⟨S,2,none⟩=some (.int .i64 pt):=zV
 have j3:U.cell? ⟨S,3,none⟩=some (.int .i64 pa):=zV
 have j4:U.cell? ⟨S,4,none⟩=some (.int .i64 t):=zV
 have j5:U.cell? ⟨S,5,none⟩=some (.int .i64 b):=zV
 have j6:U.cell? ⟨S,6,none⟩=some (.int .i64 m):=zV
 have j7:U.cell? ⟨S,7,none⟩=some (.int .u8 (kd:Int)):=zV
 have j8:U.cell? ⟨S,8,none⟩=some (.int .i64 nd):=zV
 have j9:U.cell? ⟨S,9,none⟩=some (.int .i64 o):=zV
 have j10:U.cell? ⟨S,10,none⟩=some (.string s):=zV
 have j11:U.cell? ⟨S,11,none⟩=some (.string v):=zV
 obtain ⟨gq,hgq⟩:∃gq:Nat->Option Obj,Aside (gq=fun k=>if k=S+1 then some (.cells #[.int .i64 0,.int .i64 0,.int .i64 0,.int .u8 0,.int .i64 0,.int .i64 0,.string ⟨#[]⟩,.string ⟨#[]⟩] 41 (0,0)) else gd k):=⟨_,rfl⟩
 have hSz:w.heap.size<=S+1:=by rw [hS.o];omega
 have hSU:MeshS gq B n bm K st N U:=by rw [hgq.o];exact h.ward hbU hSz Z0
 have hBw:B<=w.heap.size:=hE.t.env.size
 have hEU:=hE.later hbU
 have hdo:=do_step U pn (t,b,m,kd,nd,o,s,v) hSU hI hN hEU hi hn4 xn ⟨hs.1,hs.2,xk,xd,xo⟩
 have hask:=ask_any U pn pt hSU hEU (fun r hr=>jz) xn xt
 have hdrop:=drop_any U pa hSU hEU hN xa
 have htw:=twice_any U pa hSU hEU hN xa
 have hcut:=cut_step U pn pa hSU hI hN hEU xn xa
 have hboot:=boot_step U pn hSU hI hN hEU hi xn
 have hcalm:=calm_any U hn hSU hI hEU hi
 have hdel:=deliver_any U pa hSU hI hN hEU hi xa
 have HC1:=Lib.hid hdo
 have HC2:=Lib.hid hask
 have HC3:=Lib.hid hdrop
 have HC4:=Lib.hid htw
 have HC5:=Lib.hid hcut
 have HC6:=Lib.hid hboot
 have HC7:=Lib.hid hcalm
 have HC8:=Lib.hid hdel
 have HX:Aside (∀(w':World) (z8:List Value) (G':List OpX) (K':Nat->Rws) (st':Nat->DSt) (N':List NoteX),MeshS gq B n bm K' st' N' w'->Below B U w'->MeshS gd B n bm K' st' N' (w'.setCells (S+1) 0 z8)/\Below B w (w'.setCells (S+1) 0 z8)):=by
  intro w' z8 G' K' st' N' h1 h2
  have hk:=setCells_keeps (S+1) z8 0 w'
  have hg1:gq (S+1)=some (.cells #[.int .i64 0,.int .i64 0,.int .i64 0,.int .u8 0,.int .i64 0,.int .i64 0,.string ⟨#[]⟩,.string ⟨#[]⟩] 41 (0,0)):=by rw [hgq.o];exact if_pos rfl
  refine ⟨h1.free hg1 hk (fun k ob e=> ?_),((hbU.mono hBw).trans h2).trans (hk.below (vr (vr hBw hbU.size) h2.size) (fun k e=>by have e':k=S+1:=e;omega))⟩
  have hkne:k≠S+1:=fun q=>by
   obtain ⟨ow,pv,fv,bp,br,d,dv,c,hm⟩:=h
   have:=hm.in_ (k:=k) (by rw [(hm.guard k ob e).1];omega)
   omega
  exact ⟨by rw [hgq.o];show (if k=S+1 then _ else gd k)=_;rw [if_neg hkne];exact e,hkne⟩
 have HG:Aside (gq (S+1)=some (.cells #[.int .i64 0,.int .i64 0,.int .i64 0,.int .u8 0,.int .i64 0,.int .i64 0,.string ⟨#[]⟩,.string ⟨#[]⟩] 41 (0,0))/\MeshI n i G K D st N):=⟨by rw [hgq.o];exact if_pos rfl,hI⟩
 clear hdo hask hdrop htw hcut hboot hcalm hdel T0 Z0 hSU hEU hE h hI hs xn xt xa xk xd xo hbU hBw hSz
 unfold aggSt
 dsimp only
 by_cases hk0:kk=⟨#[100,111]⟩
 ·subst hk0
  go_enter func11,ntmps11
  go_upto_region 1 with fail
  rw [<-hU.o,<-hS.o]
  go_wp2_with fail
  refine HC1.o.mono ?_
  rintro e w2 ⟨⟨t',b',m',kd',nd',o',s',v'⟩,cd,G',K',D',st',N',rfl,HR⟩
  clear j0 j1 j2 j3 j4 j5 j6 j7 j8 j9 j10 j11
  unfold encO
  dsimp only
  obtain ⟨y,hy⟩:∃y:OpX,Aside (y=(t',b',m',kd',nd',o',s',v')):=⟨_,rfl⟩
  obtain ⟨X,hX⟩:=ze (w2.alloc (.cells #[.int .i64 t',.int .i64 b',.int .i64 m',.int .u8 (kd':Int),.int .i64 nd',.int .i64 o',.string s',.string v'] 41))
  obtain ⟨M,hM⟩:=ze w2.heap.size
  obtain ⟨V,hV⟩:=ze X.drew
  have hbV:Below w2.heap.size w2 V:=by rw [hV.o,hX.o];exact (zh w2 _).drew
  have OX:OpBlk X.drew M y:=by rw [hX.o,hM.o,hy.o];exact OpBlk.new w2 (t',b',m',kd',nd',o',s',v')
  have OV:OpBlk V M y:=by rw [hV.o];exact OX
  have hmV:=HR.o.1.later hbV
  have hB2:B<=w2.heap.size:=by
   obtain ⟨_,_,_,_,_,_,_,_,q⟩:=HR.o.1
   exact q.base
  have HV:Aside (MeshS gq B n bm K' st' N' V/\Below B U V/\M≠S+1):=⟨hmV,HR.o.2.1.trans (hbV.mono hB2),fun q=>by
   have h1:=(vn.1 (HR.o.1.held HG.o.1)).1
   rw [<-q,hM.o] at h1
   omega⟩
  have Z2:=hmV.held HG.o.1
  have z0:V.cell? ⟨S+1,0,none⟩=some (.int .i64 0):=zr
  have z1:V.cell? ⟨S+1,1,none⟩=some (.int .i64 0):=zr
  have z2:V.cell? ⟨S+1,2,none⟩=some (.int .i64 0):=zr
  have z3:V.cell? ⟨S+1,3,none⟩=some (.int .u8 0):=zr
  have z4:V.cell? ⟨S+1,4,none⟩=some (.int .i64 0):=zr
  have z5:V.cell? ⟨S+1,5,none⟩=some (.int .i64 0):=zr
  have z6:V.cell? ⟨S+1,6,none⟩=some (.string ⟨#[]⟩):=zr
  have z7:V.cell? ⟨S+1,7,none⟩=some (.string ⟨#[]⟩):=zr
  have zf:∀o,V.frozen? ⟨S+1,o,none⟩=false:=fun o=>yh
  clear Z2
  by_cases hcd:cd=0
  ·subst hcd
   have HGG:=HR.o.2.2.2.2.2.1
   rw [show eV ad 0= .nilIface from rfl]
   clear hmV hbV hB2
   go_upto_region 5 with fail
   rw [<-hX.o,<-hM.o]
   refine wp_region_H (S:=(fun w'=>OpBlk w' M y)) zk OX (fun hHeld=> ?_)
   rw [<-hV.o]
   clear hHeld
   have hHeld:=OV
   refine tk 0 hHeld ?_ (hy:=Or.inl ⟨zu,yq⟩)
   refine tk 1 hHeld ?_
   refine tk 2 hHeld ?_
   have OW:OpBlk (V.setCells (S+1) 0 [.int .i64 t',.int .i64 b',.int .i64 m',.int .u8 (kd':Int),.int .i64 nd',.int .i64 o',.string s',.string v']) M y:=(setCells_other (S+1) _ 0 V M HV.o.2.2).trans OV
   refine wpAnyH_one (i:=3) zk rfl (fun kQ hK=> ?_)
   go_simp
   refine hK _ _ OW ?_
   clear hK kQ
   refine qn ?_
   refine wpAnyH_one (i:=4) zk rfl (fun kQ hK=> ?_)
   go_simp
   refine hK _ _ OW ?_
   clear hK kQ
   refine wpAnyH_done zk ?_ _
   refine qn ?_
   clear OW OV OX hHeld
   go_wp2
   (try simp only [Exit.inBlock,Exit.then])
   refine bodyPost_ret (v:=.tuple #[.agg #[.int .i64 t',.int .i64 b',.int .i64 m',.int .u8 (kd':Int),.int .i64 nd',.int .i64 o',.string s',.string v'],.bool true]) ?_ rfl ?_
   ·rw [results_ct rfl]
    go_simp
   obtain ⟨e1,e2⟩:=HX.o V [.int .i64 t',.int .i64 b',.int .i64 m',.int .u8 (kd':Int),.int .i64 nd',.int .i64 o',.string s',.string v'] G _ _ _ HV.o.1 HV.o.2.1
   exact ⟨(t',b',m',kd',nd',o',s',v'),true,G',_,_,_,_,rfl,e1,e2,HR.o.2.2.1,HR.o.2.2.2.1,fun r hr _ u hu=>HR.o.2.2.2.2.1 r hr u hu,.inr ⟨rfl,(HGG.resolve_left (fun q=>q.1 rfl)).2.1,(HGG.resolve_left (fun q=>q.1 rfl)).2.2.1,(HGG.resolve_left (fun q=>q.1 rfl)).2.2.2.1,(HGG.resolve_left (fun q=>q.1 rfl)).2.2.2.2⟩⟩
  have HGG:=HR.o.2.2.2.2.2.1
  rw [eV_iface hcd]
  clear hmV hbV hB2
  go_upto_region 5 with fail
  rw [<-hX.o,<-hM.o]
  refine wp_region_H (S:=(fun w'=>OpBlk w' M y)) zk OX (fun hHeld=> ?_)
  rw [<-hV.o]
  clear hHeld
  have hHeld:=OV
  refine tk 0 hHeld ?_ (hy:=Or.inl ⟨zu,yq⟩)
  refine tk 1 hHeld ?_
  refine tk 2 hHeld ?_
  have OW:OpBlk (V.setCells (S+1) 0 [.int .i64 t',.int .i64 b',.int .i64 m',.int .u8 (kd':Int),.int .i64 nd',.int .i64 o',.string s',.string v']) M y:=(setCells_other (S+1) _ 0 V M HV.o.2.2).trans OV
  refine wpAnyH_one (i:=3) zk rfl (fun kQ hK=> ?_)
  go_simp
  refine hK _ _ OW ?_
  clear hK kQ
  refine qn ?_
  refine wpAnyH_one (i:=4) zk rfl (fun kQ hK=> ?_)
  go_simp
  refine hK _ _ OW ?_
  clear hK kQ
  refine wpAnyH_done zk ?_ _
  refine qn ?_
  clear OW OV OX hHeld
  go_wp2
  (try simp only [Exit.inBlock,Exit.then])
  refine bodyPost_ret (v:=.tuple #[.agg #[.int .i64 t',.int .i64 b',.int .i64 m',.int .u8 (kd':Int),.int .i64 nd',.int .i64 o',.string s',.string v'],.bool false]) ?_ rfl ?_
  ·rw [results_ct rfl]
   go_simp
  obtain ⟨e1,e2⟩:=HX.o V [.int .i64 t',.int .i64 b',.int .i64 m',.int .u8 (kd':Int),.int .i64 nd',.int .i64 o',.string s',.string v'] G _ _ _ HV.o.1 HV.o.2.1
  exact ⟨(t',b',m',kd',nd',o',s',v'),false,G',_,_,_,_,rfl,e1,e2,HR.o.2.2.1,HR.o.2.2.2.1,fun r hr _ u hu=>HR.o.2.2.2.2.1 r hr u hu,.inl ⟨rfl,(HGG.resolve_right (fun q=>hcd q.1)).2⟩⟩
 obtain ⟨hk0a,hk0b,hk0c⟩:=str_no hk0
 have hk0d:(kk.toList== [100,111])=false:=by have q:=hk0a;rw [vE,vE] at q;rw [vE];exact q
 by_cases hk1:kk=⟨#[97,115,107]⟩
 ·subst hk1
  go_enter func11,ntmps11
  go_upto_region 1 with fail
  rw [<-hU.o,<-hS.o]
  go_wp2_with fail
  refine HC2.o.mono ?_
  rintro e w2 ⟨v2,N2,rfl,HR⟩
  clear j0 j1 j2 j3 j4 j5 j6 j7 j8 j9 j10 j11
  have Z2:=HR.o.1.held HG.o.1
  have z0:w2.cell? ⟨S+1,0,none⟩=some (.int .i64 0):=zr
  have z1:w2.cell? ⟨S+1,1,none⟩=some (.int .i64 0):=zr
  have z2:w2.cell? ⟨S+1,2,none⟩=some (.int .i64 0):=zr
  have z3:w2.cell? ⟨S+1,3,none⟩=some (.int .u8 0):=zr
  have z4:w2.cell? ⟨S+1,4,none⟩=some (.int .i64 0):=zr
  have z5:w2.cell? ⟨S+1,5,none⟩=some (.int .i64 0):=zr
  have z6:w2.cell? ⟨S+1,6,none⟩=some (.string ⟨#[]⟩):=zr
  have z7:w2.cell? ⟨S+1,7,none⟩=some (.string ⟨#[]⟩):=zr
  have zf:∀o,w2.frozen? ⟨S+1,o,none⟩=false:=fun o=>yh
  clear Z2
  have HI2:Aside (MeshI n (i+1) G K D st N2/\N2.length<=30):=by
   rcases HR.o.2.2 with ⟨_,h30,a,b',_,_,_,_,_,rfl⟩ | ⟨rfl,_⟩
   ·refine ⟨(HG.o.2.fly (fun u hu=> ?_)).up zj,by rw [vw];simp;omega⟩
    rcases vv.1 hu with q | q
    ·exact .inl q
    rw [vA.1 q]
    exact .inr ⟨fun y hy=>absurd hy yX,vD _⟩
   exact ⟨HG.o.2.up zj,hN⟩
  go_wp2
  (try simp only [Exit.inBlock,Exit.then])
  refine bodyPost_ret (v:=.tuple #[.agg #[.int .i64 0,.int .i64 0,.int .i64 0,.int .u8 0,.int .i64 0,.int .i64 0,.string ⟨#[]⟩,.string ⟨#[]⟩],.bool false]) ?_ rfl ?_
  ·rw [results_ct rfl]
   go_simp
  obtain ⟨e1,e2⟩:=HX.o w2 [.int .i64 0,.int .i64 0,.int .i64 0,.int .u8 0,.int .i64 0,.int .i64 0,.string ⟨#[]⟩,.string ⟨#[]⟩] G _ _ _ HR.o.1 HR.o.2.1
  exact ⟨zeroO,false,G,_,_,_,_,rfl,e1,e2,HI2.o.1,HI2.o.2,fun r hr _ u hu=>hu,.inl ⟨rfl,rfl⟩⟩
 obtain ⟨hk1a,hk1b,hk1c⟩:=str_no hk1
 have hk1d:(kk.toList== [97,115,107])=false:=by have q:=hk1a;rw [vE,vE] at q;rw [vE];exact q
 by_cases hk2:kk=⟨#[100,114,111,112]⟩
 ·subst hk2
  go_enter func11,ntmps11
  go_upto_region 1 with fail
  rw [<-hU.o,<-hS.o]
  go_wp2_with fail
  refine HC3.o.mono ?_
  rintro e w2 (⟨_,⟨t2,v2,rfl⟩,HR⟩ | ⟨k,_,hk,rfl,HR⟩)
  clear j0 j1 j2 j3 j4 j5 j6 j7 j8 j9 j10 j11
  ·have Z2:=HR.o.1.held HG.o.1
   have z0:w2.cell? ⟨S+1,0,none⟩=some (.int .i64 0):=zr
   have z1:w2.cell? ⟨S+1,1,none⟩=some (.int .i64 0):=zr
   have z2:w2.cell? ⟨S+1,2,none⟩=some (.int .i64 0):=zr
   have z3:w2.cell? ⟨S+1,3,none⟩=some (.int .u8 0):=zr
   have z4:w2.cell? ⟨S+1,4,none⟩=some (.int .i64 0):=zr
   have z5:w2.cell? ⟨S+1,5,none⟩=some (.int .i64 0):=zr
   have z6:w2.cell? ⟨S+1,6,none⟩=some (.string ⟨#[]⟩):=zr
   have z7:w2.cell? ⟨S+1,7,none⟩=some (.string ⟨#[]⟩):=zr
   have zf:∀o,w2.frozen? ⟨S+1,o,none⟩=false:=fun o=>yh
   clear Z2
   go_wp2
   (try simp only [Exit.inBlock,Exit.then])
   refine bodyPost_ret (v:=.tuple #[.agg #[.int .i64 0,.int .i64 0,.int .i64 0,.int .u8 0,.int .i64 0,.int .i64 0,.string ⟨#[]⟩,.string ⟨#[]⟩],.bool false]) ?_ rfl ?_
   ·rw [results_ct rfl]
    go_simp
   obtain ⟨e1,e2⟩:=HX.o w2 [.int .i64 0,.int .i64 0,.int .i64 0,.int .u8 0,.int .i64 0,.int .i64 0,.string ⟨#[]⟩,.string ⟨#[]⟩] G _ _ _ HR.o.1 HR.o.2
   exact ⟨zeroO,false,G,_,_,_,_,rfl,e1,e2,HG.o.2.up zj,hN,fun r hr _ u hu=>hu,.inl ⟨rfl,rfl⟩⟩
  have Z2:=HR.o.1.held HG.o.1
  have z0:w2.cell? ⟨S+1,0,none⟩=some (.int .i64 0):=zr
  have z1:w2.cell? ⟨S+1,1,none⟩=some (.int .i64 0):=zr
  have z2:w2.cell? ⟨S+1,2,none⟩=some (.int .i64 0):=zr
  have z3:w2.cell? ⟨S+1,3,none⟩=some (.int .u8 0):=zr
  have z4:w2.cell? ⟨S+1,4,none⟩=some (.int .i64 0):=zr
  have z5:w2.cell? ⟨S+1,5,none⟩=some (.int .i64 0):=zr
  have z6:w2.cell? ⟨S+1,6,none⟩=some (.string ⟨#[]⟩):=zr
  have z7:w2.cell? ⟨S+1,7,none⟩=some (.string ⟨#[]⟩):=zr
  have zf:∀o,w2.frozen? ⟨S+1,o,none⟩=false:=fun o=>yh
  clear Z2
  go_wp2
  (try simp only [Exit.inBlock,Exit.then])
  refine bodyPost_ret (v:=.tuple #[.agg #[.int .i64 0,.int .i64 0,.int .i64 0,.int .u8 0,.int .i64 0,.int .i64 0,.string ⟨#[]⟩,.string ⟨#[]⟩],.bool false]) ?_ rfl ?_
  ·rw [results_ct rfl]
   go_simp
  obtain ⟨e1,e2⟩:=HX.o w2 [.int .i64 0,.int .i64 0,.int .i64 0,.int .u8 0,.int .i64 0,.int .i64 0,.string ⟨#[]⟩,.string ⟨#[]⟩] G _ _ _ HR.o.1 HR.o.2
  exact ⟨zeroO,false,G,_,_,_,_,rfl,e1,e2,(HG.o.2.fly (fun u hu=>.inl (Zx hu))).up zj,by rw [List.length_eraseIdx,if_pos hk];omega,fun r hr _ u hu=>hu,.inl ⟨rfl,rfl⟩⟩
 obtain ⟨hk2a,hk2b,hk2c⟩:=str_no hk2
 have hk2d:(kk.toList== [100,114,111,112])=false:=by have q:=hk2a;rw [vE,vE] at q;rw [vE];exact q
 by_cases hk3:kk=⟨#[116,119,105,99,101]⟩
 ·subst hk3
  go_enter func11,ntmps11
  go_upto_region 1 with fail
  rw [<-hU.o,<-hS.o]
  go_wp2_with fail
  refine HC4.o.mono ?_
  rintro e w2 ⟨v2,N2,rfl,HR⟩
  clear j0 j1 j2 j3 j4 j5 j6 j7 j8 j9 j10 j11
  have Z2:=HR.o.1.held HG.o.1
  have z0:w2.cell? ⟨S+1,0,none⟩=some (.int .i64 0):=zr
  have z1:w2.cell? ⟨S+1,1,none⟩=some (.int .i64 0):=zr
  have z2:w2.cell? ⟨S+1,2,none⟩=some (.int .i64 0):=zr
  have z3:w2.cell? ⟨S+1,3,none⟩=some (.int .u8 0):=zr
  have z4:w2.cell? ⟨S+1,4,none⟩=some (.int .i64 0):=zr
  have z5:w2.cell? ⟨S+1,5,none⟩=some (.int .i64 0):=zr
  have z6:w2.cell? ⟨S+1,6,none⟩=some (.string ⟨#[]⟩):=zr
  have z7:w2.cell? ⟨S+1,7,none⟩=some (.string ⟨#[]⟩):=zr
  have zf:∀o,w2.frozen? ⟨S+1,o,none⟩=false:=fun o=>yh
  clear Z2
  go_wp2
  (try simp only [Exit.inBlock,Exit.then])
  refine bodyPost_ret (v:=.tuple #[.agg #[.int .i64 0,.int .i64 0,.int .i64 0,.int .u8 0,.int .i64 0,.int .i64 0,.string ⟨#[]⟩,.string ⟨#[]⟩],.bool false]) ?_ rfl ?_
  ·rw [results_ct rfl]
   go_simp
  obtain ⟨e1,e2⟩:=HX.o w2 [.int .i64 0,.int .i64 0,.int .i64 0,.int .u8 0,.int .i64 0,.int .i64 0,.string ⟨#[]⟩,.string ⟨#[]⟩] G _ _ _ HR.o.1 HR.o.2.1
  exact ⟨zeroO,false,G,_,_,_,_,rfl,e1,e2,(HG.o.2.fly (fun u hu=>.inl (HR.o.2.2.2 u hu))).up zj,HR.o.2.2.1,fun r hr _ u hu=>hu,.inl ⟨rfl,rfl⟩⟩
 obtain ⟨hk3a,hk3b,hk3c⟩:=str_no hk3
 have hk3d:(kk.toList== [116,119,105,99,101])=false:=by have q:=hk3a;rw [vE,vE] at q;rw [vE];exact q
 by_cases hk4:kk=⟨#[99,117,116]⟩
 ·subst hk4
  go_enter func11,ntmps11
  go_upto_region 1 with fail
  rw [<-hU.o,<-hS.o]
  go_wp2_with fail
  refine HC5.o.mono ?_
  rintro e w2 ⟨v2,K',D',st',N',rfl,HR⟩
  clear j0 j1 j2 j3 j4 j5 j6 j7 j8 j9 j10 j11
  have Z2:=HR.o.1.held HG.o.1
  have z0:w2.cell? ⟨S+1,0,none⟩=some (.int .i64 0):=zr
  have z1:w2.cell? ⟨S+1,1,none⟩=some (.int .i64 0):=zr
  have z2:w2.cell? ⟨S+1,2,none⟩=some (.int .i64 0):=zr
  have z3:w2.cell? ⟨S+1,3,none⟩=some (.int .u8 0):=zr
  have z4:w2.cell? ⟨S+1,4,none⟩=some (.int .i64 0):=zr
  have z5:w2.cell? ⟨S+1,5,none⟩=some (.int .i64 0):=zr
  have z6:w2.cell? ⟨S+1,6,none⟩=some (.string ⟨#[]⟩):=zr
  have z7:w2.cell? ⟨S+1,7,none⟩=some (.string ⟨#[]⟩):=zr
  have zf:∀o,w2.frozen? ⟨S+1,o,none⟩=false:=fun o=>yh
  clear Z2
  go_wp2
  (try simp only [Exit.inBlock,Exit.then])
  refine bodyPost_ret (v:=.tuple #[.agg #[.int .i64 0,.int .i64 0,.int .i64 0,.int .u8 0,.int .i64 0,.int .i64 0,.string ⟨#[]⟩,.string ⟨#[]⟩],.bool false]) ?_ rfl ?_
  ·rw [results_ct rfl]
   go_simp
  obtain ⟨e1,e2⟩:=HX.o w2 [.int .i64 0,.int .i64 0,.int .i64 0,.int .u8 0,.int .i64 0,.int .i64 0,.string ⟨#[]⟩,.string ⟨#[]⟩] G _ _ _ HR.o.1 HR.o.2.1
  exact ⟨zeroO,false,G,_,_,_,_,rfl,e1,e2,HR.o.2.2.1.up zj,HR.o.2.2.2.1,fun r hr _ u hu=>HR.o.2.2.2.2 r hr (fun e=>e) u hu,.inl ⟨rfl,rfl⟩⟩
 obtain ⟨hk4a,hk4b,hk4c⟩:=str_no hk4
 have hk4d:(kk.toList== [99,117,116])=false:=by have q:=hk4a;rw [vE,vE] at q;rw [vE];exact q
 by_cases hk5:kk=⟨#[98,111,111,116]⟩
 ·subst hk5
  go_enter func11,ntmps11
  go_upto_region 1 with fail
  rw [<-hU.o,<-hS.o]
  go_wp2_with fail
  refine HC6.o.mono ?_
  rintro e w2 ⟨v2,K',D',st',N',rfl,HR⟩
  clear j0 j1 j2 j3 j4 j5 j6 j7 j8 j9 j10 j11
  have Z2:=HR.o.1.held HG.o.1
  have z0:w2.cell? ⟨S+1,0,none⟩=some (.int .i64 0):=zr
  have z1:w2.cell? ⟨S+1,1,none⟩=some (.int .i64 0):=zr
  have z2:w2.cell? ⟨S+1,2,none⟩=some (.int .i64 0):=zr
  have z3:w2.cell? ⟨S+1,3,none⟩=some (.int .u8 0):=zr
  have z4:w2.cell? ⟨S+1,4,none⟩=some (.int .i64 0):=zr
  have z5:w2.cell? ⟨S+1,5,none⟩=some (.int .i64 0):=zr
  have z6:w2.cell? ⟨S+1,6,none⟩=some (.string ⟨#[]⟩):=zr
  have z7:w2.cell? ⟨S+1,7,none⟩=some (.string ⟨#[]⟩):=zr
  have zf:∀o,w2.frozen? ⟨S+1,o,none⟩=false:=fun o=>yh
  clear Z2
  go_wp2
  (try simp only [Exit.inBlock,Exit.then])
  refine bodyPost_ret (v:=.tuple #[.agg #[.int .i64 0,.int .i64 0,.int .i64 0,.int .u8 0,.int .i64 0,.int .i64 0,.string ⟨#[]⟩,.string ⟨#[]⟩],.bool false]) ?_ rfl ?_
  ·rw [results_ct rfl]
   go_simp
  obtain ⟨e1,e2⟩:=HX.o w2 [.int .i64 0,.int .i64 0,.int .i64 0,.int .u8 0,.int .i64 0,.int .i64 0,.string ⟨#[]⟩,.string ⟨#[]⟩] G _ _ _ HR.o.1 HR.o.2.1
  exact ⟨zeroO,false,G,_,_,_,_,rfl,e1,e2,HR.o.2.2.1.up zj,HR.o.2.2.2.1,fun r hr q u hu=>HR.o.2.2.2.2 r hr (fun e=>q ⟨rfl,e⟩) u hu,.inl ⟨rfl,rfl⟩⟩
 obtain ⟨hk5a,hk5b,hk5c⟩:=str_no hk5
 have hk5d:(kk.toList== [98,111,111,116])=false:=by have q:=hk5a;rw [vE,vE] at q;rw [vE];exact q
 by_cases hk6:kk=⟨#[99,97,108,109]⟩
 ·subst hk6
  go_enter func11,ntmps11
  go_upto_region 1 with fail
  rw [<-hU.o,<-hS.o]
  go_wp2_with fail
  refine HC7.o.mono ?_
  rintro e w2 ⟨K',D',st',rfl,HR⟩
  clear j0 j1 j2 j3 j4 j5 j6 j7 j8 j9 j10 j11
  have Z2:=HR.o.1.held HG.o.1
  have z0:w2.cell? ⟨S+1,0,none⟩=some (.int .i64 0):=zr
  have z1:w2.cell? ⟨S+1,1,none⟩=some (.int .i64 0):=zr
  have z2:w2.cell? ⟨S+1,2,none⟩=some (.int .i64 0):=zr
  have z3:w2.cell? ⟨S+1,3,none⟩=some (.int .u8 0):=zr
  have z4:w2.cell? ⟨S+1,4,none⟩=some (.int .i64 0):=zr
  have z5:w2.cell? ⟨S+1,5,none⟩=some (.int .i64 0):=zr
  have z6:w2.cell? ⟨S+1,6,none⟩=some (.string ⟨#[]⟩):=zr
  have z7:w2.cell? ⟨S+1,7,none⟩=some (.string ⟨#[]⟩):=zr
  have zf:∀o,w2.frozen? ⟨S+1,o,none⟩=false:=fun o=>yh
  clear Z2
  go_wp2
  (try simp only [Exit.inBlock,Exit.then])
  refine bodyPost_ret (v:=.tuple #[.agg #[.int .i64 0,.int .i64 0,.int .i64 0,.int .u8 0,.int .i64 0,.int .i64 0,.string ⟨#[]⟩,.string ⟨#[]⟩],.bool false]) ?_ rfl ?_
  ·rw [results_ct rfl]
   go_simp
  obtain ⟨e1,e2⟩:=HX.o w2 [.int .i64 0,.int .i64 0,.int .i64 0,.int .u8 0,.int .i64 0,.int .i64 0,.string ⟨#[]⟩,.string ⟨#[]⟩] G _ _ _ HR.o.1 HR.o.2.1
  exact ⟨zeroO,false,G,_,_,_,_,rfl,e1,e2,HR.o.2.2.1.up zj,zm,fun r hr _ u hu=>HR.o.2.2.2.1 r hr u hu,.inl ⟨rfl,rfl⟩⟩
 obtain ⟨hk6a,hk6b,hk6c⟩:=str_no hk6
 have hk6d:(kk.toList== [99,97,108,109])=false:=by have q:=hk6a;rw [vE,vE] at q;rw [vE];exact q
 go_enter func11,ntmps11
 go_upto_region 1 with fail
 rw [<-hU.o,<-hS.o]
 go_wp2_with fail
 refine HC8.o.mono ?_
 rintro e w2 ⟨v2,K',D',st',N',rfl,HR⟩
 clear j0 j1 j2 j3 j4 j5 j6 j7 j8 j9 j10 j11
 have Z2:=HR.o.1.held HG.o.1
 have z0:w2.cell? ⟨S+1,0,none⟩=some (.int .i64 0):=zr
 have z1:w2.cell? ⟨S+1,1,none⟩=some (.int .i64 0):=zr
 have z2:w2.cell? ⟨S+1,2,none⟩=some (.int .i64 0):=zr
 have z3:w2.cell? ⟨S+1,3,none⟩=some (.int .u8 0):=zr
 have z4:w2.cell? ⟨S+1,4,none⟩=some (.int .i64 0):=zr
 have z5:w2.cell? ⟨S+1,5,none⟩=some (.int .i64 0):=zr
 have z6:w2.cell? ⟨S+1,6,none⟩=some (.string ⟨#[]⟩):=zr
 have z7:w2.cell? ⟨S+1,7,none⟩=some (.string ⟨#[]⟩):=zr
 have zf:∀o,w2.frozen? ⟨S+1,o,none⟩=false:=fun o=>yh
 clear Z2
 have HI2:Aside (∀r,r<n->∀u∈allR (K r),u∈allR (K' r)):=fun r hr u hu=>by
  rcases HR.o.2.2.2.2.1 with ⟨_,_,e⟩ | ⟨k,x,_,_,⟨_,_,e,_⟩ | ⟨_,_,hH,_⟩⟩
  ·rw [e];exact hu
  ·rw [e];exact hu
  by_cases q:r=x.2.1
  ·rw [q] at hu |-;exact hH.2.1 u hu
  rw [hH.1 r q];exact hu
 go_wp2
 (try simp only [Exit.inBlock,Exit.then])
 refine bodyPost_ret (v:=.tuple #[.agg #[.int .i64 0,.int .i64 0,.int .i64 0,.int .u8 0,.int .i64 0,.int .i64 0,.string ⟨#[]⟩,.string ⟨#[]⟩],.bool false]) ?_ rfl ?_
 ·rw [results_ct rfl]
  go_simp
 obtain ⟨e1,e2⟩:=HX.o w2 [.int .i64 0,.int .i64 0,.int .i64 0,.int .u8 0,.int .i64 0,.int .i64 0,.string ⟨#[]⟩,.string ⟨#[]⟩] G _ _ _ HR.o.1 HR.o.2.1
 exact ⟨zeroO,false,G,_,_,_,_,rfl,e1,e2,HR.o.2.2.1.up zj,HR.o.2.2.2.1,fun r hr _ u hu=>HI2.o r hr u hu,.inl ⟨rfl,rfl⟩⟩
