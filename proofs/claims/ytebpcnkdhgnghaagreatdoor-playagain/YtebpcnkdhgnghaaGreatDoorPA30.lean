import Derived.Test.YtebpcnkdhgnghaaGreatDoorPA23
import Derived.Test.YtebpcnkdhgnghaaGreatDoorPA28
set_option linter.unusedSimpArgs false
set_option linter.unusedVariables false
set_option maxRecDepth 100000
set_option maxHeartbeats 64000000
namespace Go.Proofs.YtebpcnkdhgnghaaGreatDoor
open Go.Proofs.Tryz
variable {ls:List (List UInt8)} {m:Mrk} {S g k:Nat} {ao:Option Addr} {p:Plc} {v v0:Value} {W1 w w' wr:World}
section
open Go.RowKit Go.Lib Go.Sort Go.Maps
open scoped Classical
structure StSt (w:World) (S:Nat) (W1:World) (v0:Value) (ls:List (List UInt8)) (v:Value) (wr:World):Prop where
 st:TellSt S ls v wr
 below:Below S w wr
 keeps:Keeps (fun k=>k=S\/v0.ownBlock=some k) W1 wr
 own:∀k,v.ownBlock=some k->v0.ownBlock=some k\/W1.heap.size<=k
theorem StSt.start {W:World} (h:TellSt S ls v W) (hb:Below S w W):StSt w S W v ls v W:=⟨h,hb,Keeps.refl _ _,fun k hk=>.inl hk⟩
theorem StSt.later {w W1 wr w':World} {S:Nat} {ls:List (List UInt8)} {v0 v:Value} (h:StSt w S W1 v0 ls v wr) (hb:Below wr.heap.size wr w'):StSt w S W1 v0 ls v w':=
 ⟨h.st.later hb,h.below.trans (hb.mono (uQ h.st.lt)),h.keeps.trans ((aV hb).mono (fun k hk e=>absurd hk zj)),h.own⟩
theorem StSt.tell {line:List UInt8} {e:Ending} (h:StSt w S W1 v0 ls v wr) (ht:wP S line ls v wr e w'):∃v',e= .returned (.tuple #[])/\StSt w S W1 v0 (ls++ [line]) v' w':=by
 obtain ⟨v',rfl,h1,h2,h3⟩:=ht
 have hs:=h.keeps.size
 refine ⟨v',rfl,h1,?_,h.keeps.then h2 (fun i hi q=>q.imp id (fun q=> ?_)),fun k hk=> ?_⟩
 ·refine h.below.trans (h2.below (uQ h.st.lt) (fun k q=> ?_))
  rcases q with rfl | q
  ·exact jL _
  have:=(h.st.row.lt k q).1
  omega
 ·rcases h.own i q with q | q
  ·exact q
  omega
 rcases h3 k hk with q | q
 ·exact h.own k q
 exact .inr zj
theorem StSt.kept (h:StSt w S W1 v0 ls v wr) (hg:g<W1.heap.size) (h1:g≠S) (h2:v0.ownBlock≠some g):wr.heap[g]? =W1.heap[g]? :=h.keeps.block g hg (fun e=>e.elim h1 h2)
theorem StSt.inRow {α:Type} {enc:α->List Value} (h:StSt w S W1 v0 ls v wr) {zs:List α} (hz:InRow enc W1 ao zs) (hk:∀g o,ao=some ⟨g,o,none⟩->g<W1.heap.size/\g≠S/\v0.ownBlock≠some g):InRow enc wr ao zs:=
 hz.kept (fun g o e=>h.kept (hk g o e).1 (hk g o e).2.1 (hk g o e).2.2)
theorem GJ {α:Type} {enc:α->List Value} (hlen:∀x,(enc x).length=k) (hk:0<k) {zs:List α} (h:InRow enc w ao zs) (hz:zs≠ []) {o:Nat} (e:ao=some ⟨g,o,none⟩):g<w.heap.size:=by
 cases zs with
 | nil=>exact absurd rfl hz
 | cons x t=>
  obtain ⟨b,o',e',hc⟩:=h.get hlen (i:=0) (x:=x) rfl
  rw [e] at e'
  cases e'
  cases hx:enc x with
  | nil=>have:=hlen x;rw [hx] at this;simp at this;omega
  | cons u r=>exact jR w ⟨g,_,none⟩ (hc 0 u (by rw [hx];rfl))
theorem NM {qs:List Plc} (h:PlsAt w v qs):∃ao cap,v= .slice ao qs.length cap/\InRow ai w ao qs/\∀g o,ao=some ⟨g,o,none⟩->v.ownBlock=some g/\g<w.heap.size:=by
 rcases h with ⟨rfl,rfl⟩ | ⟨g,cap,rfl,hl,hc⟩
 ·exact ⟨none,0,rfl,.inl rfl,fun g o e=>qu⟩
 exact ⟨some ⟨g,0,none⟩,cap,rfl,.inr ⟨g,0,rfl,fun j u hj=>qC⟩,fun g' o e=>by cases e;exact ⟨rfl,hl⟩⟩
theorem pV (n:Int) (h0:0<=n) (h1:n<2^62):(Lib.itoa n).length<=100:=by
 have:=Lib.itoa_length_le n zj zj
 omega
theorem LO (M:Nat):∀ls:List (List UInt8),(∀l∈ls,l.length<=M)->(Lib.join ls [10]).length<=ls.length*(M+1)
 | [],_=>by simp [Lib.join_nil]
 | x::r,h=>by
  rw [Lib.join_length]
  have:∀r:List (List UInt8),(∀l∈r,l.length<=M)->Lib.lens r<=r.length*M:=fun r=>by
   induction r with
   | nil=>intro _;simp [Lib.lens]
   | cons y r ih=>
    intro h
    have h1:=h y zq
    have h2:=ih (fun l hl=>h l (by simp [hl]))
    simp only [Lib.lens,vJ,List.sum_cons,jY] at h2 |-
    rw [uA]
    omega
  have:=this (x::r) h
  simp only [jY,vw] at this |-
  rw [Nat.mul_add,Nat.mul_one]
  omega
theorem FZ {A:List OpX} {mm:List Mrk} (h:IsMarks (fA A) mm) (hm:m∈mm):0<=m.1/\m.1<2^40/\m.2.1.size<=12/\m.2.2.size<=12:=by
 obtain ⟨-,s,hs⟩:=(h.mem m).1 hm
 have hb:=ir (fD A) (ia m)
 unfold fA at hs
 rw [hs] at hb
 have hmem:(ia m,(m.2.2,s))∈fD A:=hb.1
 obtain ⟨x,hx,e⟩:=uI.1 hmem
 have hx0:bY x=0:=by
  unfold BE at e
  split at e
  ·rename_i q;exact q.1
  cases e
 have ek:=ij e
 have q:=ax hx0
 have e1:m.1=x.2.2.2.2.1:=congrArg (fun z=>z.1.1) ek
 have e2:m.2.1=x.2.2.2.2.2.2.1:=congrArg (fun z=>z.1.2) ek
 have e3:m.2.2=x.2.2.2.2.2.2.2:=congrArg (fun z=>z.2.1) ek
 have l1:x.2.2.2.2.2.2.1.data.toList.length=x.2.2.2.2.2.2.1.size:=zq
 have l2:x.2.2.2.2.2.2.2.data.toList.length=x.2.2.2.2.2.2.2.size:=zq
 rw [e1,e2,e3]
 omega
theorem kh {α β:Type} (f:α->β) (l:List α) {x:α} (h:l[k]? =some x):(l.take (k+1)).map f=(l.take k).map f++ [f x]:=by
 rw [vV,h,vz]
 rfl
theorem IK (A:List OpX):∃tf:Int->List UInt8,Aside (∀nd L,LineIs A nd L->tf nd=fU L):=by
 refine ⟨fun nd=>if h:∃L,LineIs A nd L then fU h.choose else [],fun nd L hL=> ?_⟩
 have h:∃L,LineIs A nd L:=⟨L,hL⟩
 simp only [dif_pos h]
 rw [h.choose_spec.unique hL]
def Hh (k:Int):List Value:=[.int .i64 k]
theorem sZ (k:Int):(Hh k).length=1:=rfl
theorem pC:∀ks:List Int,aB Hh ks=oS ks
 | []=>rfl
 | k::r=>by rw [fF,pC r];rfl
theorem oh (nd:Int) (ws:List (List UInt8)) (h0:0<=nd) (h1:nd<2^62) (hj:(Lib.join ws [32]).length<=5000):(kr nd ws).length<=10000:=by
 have:=pV nd h0 h1
 unfold kr
 simp only [jP,jY,vw]
 omega
theorem wU (h:FineP p):(Lib.join [[105,110],Lib.itoa p.2.1,p.2.2.data.toList] [32]).length<=200000:=by
 have h1:=pV p.2.1 h.lo' h.hi'
 have h2:=h.sz
 have h3:p.2.2.data.toList.length=p.2.2.size:=zq
 exact kd3
theorem Fw (h:FineP p):(cz p).length<=10000:=by
 refine oh _ _ h.lo h.hi ?_
 have h1:=pV p.2.1 h.lo' h.hi'
 have h2:=h.sz
 have h3:p.2.2.data.toList.length=p.2.2.size:=zq
 exact kd3
theorem Gc {t:Int×List UInt8} (h:t.2.length<=1000) (h0:0<=t.1) (h1:t.1<2^40):(mt t).length<=10000:=by
 refine oh _ _ h0 zj ?_
 exact kd3
theorem IW (h:0<=m.1/\m.1<2^40/\m.2.1.size<=12/\m.2.2.size<=12):(rX m).length<=10000:=by
 refine oh _ _ h.1 zj ?_
 have h3:m.2.1.data.toList.length=m.2.1.size:=zq
 have h4:m.2.2.data.toList.length=m.2.2.size:=zq
 exact kd3
theorem DW (w:World) (S:Nat) (ls:List (List UInt8)) (v:Value) (h:TellSt S ls v w) (hl:ls.length<=1000000) (hm:∀l∈ls,l.length<=10000):
  Calls prog 50 #[v,.string ⟨#[10]⟩] w fun e w'=>e= .returned (.string ⟨(Lib.join ls [10]).toArray⟩)/\Below w.heap.size w w':=by
 have hlen:=LO 10000 ls hm
 have hr:=h.row
 rcases h.row.2 with ⟨rfl,h0⟩ | ⟨g,cap,cur,rfl,hbg,hgb,r1,r2,r3,r4⟩
 ·have:ls= []:=ve.1 h0
  subst this
  exact (Tryz.strings_Join_none none 0 ⟨#[10]⟩ w).mono fun e w' ⟨h1,h2⟩=>⟨h1,by rw [h2];exact jN _ _⟩
 have e1:(ls.map fun l=>(⟨l.toArray⟩:ByteArray)).map (·.data.toList)=ls:=by
  rw [List.map_map]
  exact (ut (fun l _=>rfl)).trans (List.map_id ls)
 have e2:(ls.map fun l=>(⟨l.toArray⟩:ByteArray)).length=ls.length:=vy _
 have:=Tryz.strings_Join g 0 cap (ls.map fun l=>(⟨l.toArray⟩:ByteArray)) ⟨#[10]⟩ w (fun j x hj=>by
  rw [vh]
  obtain ⟨l,hl',rfl⟩:∃l,ls[j]? =some l/\(⟨l.toArray⟩:ByteArray)=x:=by
   rw [vP] at hj
   cases hq:ls[j]? with
   | none=>rw [hq] at hj;cases hj
   | some l=>rw [hq] at hj;cases hj;exact ⟨l,rfl,rfl⟩
  have hjl:j<ls.length:=(jI.1 hl').1
  rw [hr.cellAt j zj]
  unfold CL
  rw [vP,hl']
  rfl) (jJ.1 hgb).1 (by rw [e2];omega) (by rw [e2];exact r1) (by rw [e1];show (Lib.join ls [10]).length<=_;omega)
 rw [e1,e2] at this
 exact this
end
section
open Go.RowKit Go.Lib Go.Sort Go.Maps
open scoped Classical
theorem gh (w:World) (c:Nat->Nat) (br:Nat) (by_:Int) (R:Rws) (h:RepAt w c br by_ R) (htab:Lib.TabIs prog w "internal/strconv.uint64pow10" .u64 Lib.pow10Tab) (hn:(aX R).length<=300):
  Calls prog 19 #[.pointer (some ⟨br,0,none⟩)] w fun e w'=>∃s,e= .returned (.string ⟨s.toArray⟩)/\StateIs (aX R) s/\Below w.heap.size w w':=by
 obtain ⟨T,kv,bt,bx,bc,A,hM,hperm,hK,hby⟩:=h
 have hAl:A.length<=300:=xg
 obtain ⟨S,hS⟩:=za w.heap.size
 obtain ⟨U,hU⟩:=za (w.alloc (.cells #[.slice none 0 0] 102))
 have hbU:Below w.heap.size w U:=zN
 have hT0:TellSt S [] (.slice none 0 0) U:=⟨by rw [hU,hS];exact heap_alloc_new w _,vD _ _ _ _⟩
 have HT:Aside (Lib.TabBelow prog w.heap.size w "internal/strconv.uint64pow10" .u64 Lib.pow10Tab):=Lib.tabBelow_of_tabIs htab
 have HM:Aside (RepMid w c br T by_ kv bt bx bc R A/\A.Perm (aX R)/\RowsK R):=⟨hM,hperm,hK⟩
 have eg:∀args w,(callFunc 48 args).run prog w= .ok (.enter 48 args) w:=enters_of func48 zk rfl
 obtain ⟨bm,tv,ms,hTA,hms,-⟩:=(hM.later hbU).tree
 obtain ⟨nm,hnm,hMap⟩:=hTA.map
 have hml:ms.length<=300:=by
  have h1:=hms.length_eq
  have h2:(eu A).length<=A.length:=uW _ _
  omega
 have hpl:=nB U bt bm nm tv (aH ms) hTA.good hTA.cell hMap zj
 have c6:=(hM.later hbU).cell.c6
 have HMS:Aside (ms.Perm (eu A)/\bL ms/\ko (aH ms)):=⟨hms,hTA.by_,hTA.good⟩
 have HU:Aside (U=w.alloc (.cells #[.slice none 0 0] 102)/\Below w.heap.size w U/\TellSt S [] (.slice none 0 0) U/\S=w.heap.size):=⟨hU,hbU,hT0,hS⟩
 clear hTA hMap hms hM hperm hK hby htab hT0 hU hbU
 go_enter func19,ntmps19
 go_upto_region 3 with fail
 rw [<-HU.o.1]
 go_wp2_with fail
 refine hpl.mono ?_
 clear hpl c6
 rintro e W1 ⟨vq,qs,rfl,hIP,hql,hPA,hb1,hnew⟩
 obtain ⟨ao,qc,rfl,hin,hao⟩:=NM hPA
 rw [<-hS]
 have HQ:Aside (IsPlaces (aH ms) qs/\InRow ai W1 ao qs/\(∀g o,ao=some ⟨g,o,none⟩->g<W1.heap.size/\g≠S/\(Value.slice none 0 0).ownBlock≠some g)/\StSt w S W1 (.slice none 0 0) [] (.slice none 0 0) W1):=by
  refine ⟨hIP,hin,fun g o e=>⟨(hao g o e).2,?_,fun q=>by cases q⟩,StSt.start (HU.o.2.2.1.later hb1) ?_⟩
  ·have h1:=hnew g (hao g o e).1
   have h2:=HU.o.2.2.1.lt
   omega
  rw [HU.o.2.2.2]
  exact zi HU.o.2.1 hb1
 have hqs:qs.length<=180000:=zj
 clear hIP hPA hb1 hnew hin hao hql hnm hS
 go_wp2
 go_loopg [19] qs.length (fun kx s19 wr=>∃(k:Nat) (v:Value),s19= .int .i64 (k:Int)/\k<=qs.length/\qs.length - k<=kx/\Aside (StSt w S W1 (.slice none 0 0) ((qs.take k).map cz) v wr))
 case atStart=>exact ⟨0,_,rfl,jX _,jL _,HQ.o.2.2.2⟩
 case round=>
  obtain ⟨k,v,rfl,hk,hkx,A1⟩:=hrel
  by_cases hlt:k<qs.length
  ·have d1:decide ((k:Int)<(qs.length:Int))=true:=by simp;omega
   have wk:((k:Int)).toNat=k:=zj
   have pk:(0:Int)<=(k:Int):=zj
   have bk:(k:Int)<(qs.length:Int):=zj
   obtain ⟨⟨a,b,s⟩,hx⟩:∃x,Aside (qs[k]? =some x):=⟨qs[k],jK hlt⟩
   obtain ⟨blk,off,hao,hc⟩:=(A1.o.inRow HQ.o.2.1 HQ.o.2.2.1).get cF hx.o
   subst hao
   have r0:=hc 0 _ rfl
   have r1:=hc 1 _ rfl
   have r2:=hc 2 _ rfl
   simp only [vI] at r0
   clear hc
   have hfine:=HMS.o.2.2.fine _ _ ((HQ.o.1.mem _).1 (jT hx.o))
   obtain ⟨P,hP⟩:=za wr.heap.size
   obtain ⟨V,hV⟩:=za (wr.alloc (.cells #[.int .i64 a,.int .i64 b,.string s] 119))
   have hbV:Below wr.heap.size wr V:=by rw [hV];exact zh wr _
   have hPV:PlcAt V P (a,b,s):=by rw [hV,hP];exact heap_alloc_new wr _
   have HV:Aside (StSt w S W1 (.slice none 0 0) ((qs.take k).map cz) v V/\PlcAt V P (a,b,s)/\(∀g,v.ownBlock=some g->g<P)/\S<P):=⟨A1.o.later hbV,hPV,fun g hg=>by rw [hP];exact (A1.o.st.row.lt g hg).2,by rw [hP];exact A1.o.st.lt⟩
   have HF:Aside (FineP (a,b,s)):=hfine
   have hPd:PlcAt V.drew P (a,b,s):=hPV
   clear hbV hPV hfine
   go_upto_region 6 with fail
   rw [<-hV]
   clear hV r0 r1 r2
   rw [<-hP]
   clear hP
   refine aM (S:=(fun w'=>PlcAt w' P (a,b,s))) zk hPd (fun hHeld=> ?_)
   refine tk 0 hHeld ?_
   refine tk 1 hHeld ?_
   refine tk 2 hHeld ?_ (hy:=Or.inl ⟨zt,by intro w' hSw;have j0:=PlcAt.c0 hSw;dsimp only at j0;clear hSw;go_simp;try with_reducible rfl⟩)
   refine tk 3 hHeld ?_
   refine tk 4 hHeld ?_ (hy:=Or.inl ⟨zt,by intro w' hSw;have j1:=PlcAt.c1 hSw;dsimp only at j1;clear hSw;go_simp;try with_reducible rfl⟩)
   refine tk 6 hHeld ?_
   refine tk 7 hHeld ?_ (hy:=Or.inl ⟨zt,by intro w' hSw;have j2:=PlcAt.c2 hSw;dsimp only at j2;clear hSw;go_simp;try with_reducible rfl⟩)
   refine aZ (i:=5) zk rfl (fun K hK=> ?_)
   go_simp
   refine (lT b (by have:=HF.o.lo';dsimp only at this;omega) (by have:=HF.o.hi';dsimp only at this;omega) V.drew (HT.o _ (by have:=HV.o.1.below.drew;rw [HU.o.2.2.2] at this;exact this))).mono ?_
   rintro e w3 ⟨rfl,hb3⟩
   have A3:StSt w S W1 (.slice none 0 0) ((qs.take k).map cz) v w3:=HV.o.1.later ((jN _ V).drew.trans hb3)
   have P3:PlcAt w3 P (a,b,s):=HV.o.2.1.same (((jN _ V).drew.trans hb3).block P HV.o.2.1.lt)
   refine hK _ _ P3 ?_
   clear hK K hb3
   refine qn ?_
   obtain ⟨X,hX⟩:=za (w3.alloc (.cells #[.string ⟨#[105,110]⟩,.string ⟨(Lib.itoa b).toArray⟩,.string s] 9))
   have hbX:Below w3.heap.size w3 X:=by rw [hX];exact zh w3 _
   have AX:StSt w S W1 (.slice none 0 0) ((qs.take k).map cz) v X:=A3.later hbX
   have PX:PlcAt X P (a,b,s):=P3.same (hbX.block P P3.lt)
   have hXb:X.heap[w3.heap.size]? =some (.cells #[.string ⟨#[105,110]⟩,.string ⟨(Lib.itoa b).toArray⟩,.string s] 9 (0,0)):=by rw [hX];exact heap_alloc_new w3 _
   have htl:=oR X S a w3.heap.size 3 [⟨#[105,110]⟩,⟨(Lib.itoa b).toArray⟩,s] ((qs.take k).map cz) v AX.st (fun j x hj=>by
     rw [vh]
     match j,hj with
     | 0,hj=>cases hj;simp [World.cell?,hXb]
     | 1,hj=>cases hj;simp [World.cell?,hXb]
     | 2,hj=>cases hj;simp [World.cell?,hXb]
     | n+3,hj=>simp at hj) (jJ.1 hXb).1 zq zq (HT.o _ yF) (by have:=HF.o.lo;dsimp only at this;omega) (by have:=HF.o.hi;dsimp only at this;omega)
     (wU HF.o) (by rw [vy,vj];omega)
   have hle:kr a ([⟨#[105,110]⟩,⟨(Lib.itoa b).toArray⟩,s].map (fun x:ByteArray=>x.data.toList))=cz (a,b,s):=rfl
   rw [hle] at htl
   have htl:=htl.mono (R':=fun e w4=>∃v',e= .returned (.tuple #[])/\PlcAt w4 P (a,b,s)/\Aside (StSt w S W1 (.slice none 0 0) ((qs.take k).map cz++ [cz (a,b,s)]) v' w4)) (fun e w4 ht4=>by
    obtain ⟨v',he,A4⟩:=AX.tell ht4
    obtain ⟨_,-,-,hk4,-⟩:=ht4
    exact ⟨v',he,PX.same (hk4.block P PX.lt (fun q=>by
     rcases q with q | q
     ·have:=HV.o.2.2.2;omega
     ·have:=HV.o.2.2.1 P q;omega)),A4⟩)
   clear hle AX hXb hbX A3
   refine aZ (i:=8) zk rfl (fun K hK=> ?_)
   go_simp
   rw [<-hX]
   refine hK _ _ PX ?_
   clear hK K hX PX
   refine qn ?_
   refine aZ (i:=9) zk rfl (fun K hK=> ?_)
   go_simp
   refine htl.mono ?_
   clear htl
   rintro e w4 ⟨v',rfl,P4,HA4⟩
   refine hK _ _ P4 ?_
   clear hK K P4
   refine wpAnyH_done zk ?_ _
   refine qn ?_
   go_wp2
   go_roundg (qs.length - (k+1))
   case measure=>omega
   case rel=>exact ⟨k+1,v',zI,zj,jL _,by rw [kh _ _ hx.o];exact HA4.o⟩
  have d1:decide ((k:Int)<(qs.length:Int))=false:=zl
  have ek:qs.take k=qs:=vm zj
  rw [ek] at A1
  clear ek
  obtain ⟨nx,tx,t1,t2,t3,t4,t5⟩:=(HM.o.1.later qW).text
  have c7:=(HM.o.1.later qW).cell.c7
  have hky:=callsIn_wide.1 (IX Fence.wide 3 trivial rfl (some bx) wr)
  obtain ⟨V,hV⟩:=za (wr.alloc (.cells #[.map (some bx)] 114))
  have hbV:Below wr.heap.size wr V:=by rw [hV];exact zh wr _
  have hbox:Boxed V wr.heap.size 114 (.map (some bx)):=by rw [hV];exact heap_alloc_new wr _
  have hsi:=mh V wr.heap.size bx nx tx (jJ.1 hbox).1 hbox.cell (t2.same (hbV.block bx t2.lt)) zj
  have H2:Aside (StSt w S W1 (.slice none 0 0) (qs.map cz) v V/\(∀nd,(tx nd).isSome=true↔KnownN A nd)/\nx<=A.length):=⟨A1.o.later hbV,t4,t1⟩
  rw [<-hV] at hky
  clear t1 t2 t3 t4 t5 hV hbV hbox d1
  go_wp2_with fail
  refine hky.mono ?_
  clear hky
  rintro e w5 ⟨rfl,rfl⟩
  clear c7
  go_wp2_with fail
  refine hsi.mono ?_
  clear hsi
  rintro e W2 ⟨vk,ks,rfl,hrise,hmem,hkl,hrow,hb2⟩
  obtain ⟨ak,kc,rfl⟩:=dV hrow
  obtain ⟨tf,htf⟩:∃tf:Int->List UInt8,Aside (∀nd L,LineIs A nd L->tf nd=fU L):=IK A
  have HK:Aside (ks.Pairwise (· < ·)/\(∀nd,nd∈ks↔KnownN A nd)/\InRow Hh W2 ak ks/\(∀g o,ak=some ⟨g,o,none⟩->g<W2.heap.size/\g≠S/\v.ownBlock≠some g)/\StSt w S W2 v (qs.map cz) v W2):=by
   have h3:=H2.o.1.later hb2
   refine ⟨hrise,fun nd=>(hmem nd).trans (H2.o.2.1 nd),Mv (enc:=Hh) sZ (by rw [pC];exact hrow),fun g o e=> ?_,StSt.start h3.st h3.below⟩
   subst e
   have h4:=hrow.lt g rfl
   have h5:=H2.o.1.st.lt
   exact ⟨h4.2,zj,fun q=>by have:=(H2.o.1.st.row.lt g q).2;omega⟩
  have hks:ks.length<=300:=by have:=H2.o.2.2;omega
  clear hrise hmem hkl hrow hb2 A1 H2
  go_wp2
  go_loopg [41] ks.length (fun kx s41 wr=>∃(k:Nat) (u:Value),s41= .int .i64 (k:Int)/\k<=ks.length/\ks.length - k<=kx/\Aside (StSt w S W2 v (qs.map cz++((((ks.take k).map fun nd=>(nd,tf nd)).filter gr).map mt)) u wr))
  case atStart=>exact ⟨0,v,rfl,jX _,jL _,by show StSt w S W2 v _ v W2;simpa using HK.o.2.2.2.2⟩
  case round=>
   obtain ⟨k2,u,rfl,hk2,hkx2,A2⟩:=hrel
   by_cases hlt2:k2<ks.length
   ·have d2:decide ((k2:Int)<(ks.length:Int))=true:=by simp;omega
    have wk:((k2:Int)).toNat=k2:=zj
    have pk:(0:Int)<=(k2:Int):=zj
    have bk:(k2:Int)<(ks.length:Int):=zj
    obtain ⟨nd,hx⟩:∃x,Aside (ks[k2]? =some x):=⟨ks[k2],jK hlt2⟩
    obtain ⟨blk,off,hak,hc⟩:=(A2.o.inRow HK.o.2.2.1 HK.o.2.2.2.1).get sZ hx.o
    subst hak
    have r0:=hc 0 _ rfl
    simp only [vI,Nat.mul_one] at r0
    clear hc
    have hkn:KnownN A nd:=(HK.o.2.1 nd).1 (jT hx.o)
    have hnd:0<=nd/\nd<2^40:=by
     obtain ⟨x,hx,_,e2,_⟩:=hkn
     have q:=ax (HM.o.2.2.well.ok x (HM.o.2.1.mem_iff.1 hx))
     have e3:x.2.2.2.2.1=nd:=e2
     exact kg2
    have hmid:=HM.o.1.later qX
    have htx:=If wr c br T by_ kv bt bx bc A nd hmid.cell hmid.text zj zj zj
    have htx:=htx.mono (R':=fun e w6=>∃s,e= .returned (.string s)/\Aside (tf nd=s.data.toList/\s.size<=1000/\StSt w S W2 v (qs.map cz++((((ks.take k2).map fun nd=>(nd,tf nd)).filter gr).map mt)) u w6)) (fun e w6 q=>by
     obtain ⟨s,he,hti,hb6⟩:=q
     refine ⟨s,he,?_,?_,A2.o.later hb6⟩
     ·rcases hti with ⟨q,_⟩ | ⟨_,L,hL,hs⟩
      ·exact absurd hkn q
      ·rw [htf.o nd L hL,hs]
     ·rcases hti with ⟨q,_⟩ | ⟨_,L,hL,hs⟩
      ·exact absurd hkn q
      ·have h1:=mB L
       have h2:=hL.len
       have h3:s.data.toList.length=s.size:=zq
       rw [hs] at h3
       omega)
    have hnd0:=hnd.1
    have hnd1:=hnd.2
    obtain ⟨y,hy⟩:=za wr
    subst hy
    clear hmid hkn hnd
    go_wp2_with fail
    refine htx.mono ?_
    clear htx
    rintro e w6 ⟨s,rfl,H6⟩
    clear r0
    have hst:=H6.o.1
    have hsl:=H6.o.2.1
    have A6:=H6.o.2.2
    by_cases hs0:s.size=0
    ·have he:=ox hs0
     have HA6:Aside (StSt w S W2 v (qs.map cz++((((ks.take (k2+1)).map fun nd=>(nd,tf nd)).filter gr).map mt)) u w6):=by
      show StSt w S W2 v _ u w6
      rw [kh _ _ hx.o,ug]
      have:gr (nd,tf nd)=false:=by
       have h3:s.data.toList.length=s.size:=zq
       unfold gr
       rw [hst]
       simp only [ne_eq,decide_not,Bool.not_eq_false',decide_eq_true_eq]
       exact ve.1 zj
      simp only [List.filter_cons,this,List.filter_nil]
      simpa using A6
     clear A6 A2
     go_wp2
     go_roundg (ks.length - (k2+1))
     case measure=>omega
     case rel=>exact ⟨k2+1,u,zI,zj,jL _,HA6.o⟩
    have he:=tW hs0
    obtain ⟨X,hX⟩:=za (w6.alloc (.cells #[.string ⟨#[116,101,120,116]⟩,.string s] 9))
    have hbX:Below w6.heap.size w6 X:=by rw [hX];exact zh w6 _
    have AX:=A6.later hbX
    have hXb:X.heap[w6.heap.size]? =some (.cells #[.string ⟨#[116,101,120,116]⟩,.string s] 9 (0,0)):=by rw [hX];exact heap_alloc_new w6 _
    have htl:=oR X S nd w6.heap.size 2 [⟨#[116,101,120,116]⟩,s] (qs.map cz++((((ks.take k2).map fun nd=>(nd,tf nd)).filter gr).map mt)) u AX.st (fun j x hj=>by
      rw [vh]
      match j,hj with
      | 0,hj=>cases hj;simp [World.cell?,hXb]
      | 1,hj=>cases hj;simp [World.cell?,hXb]
      | n+2,hj=>simp at hj) (jJ.1 hXb).1 zq zq (HT.o _ yF) zj zj
      (by simp only [vJ,uB,Lib.join_length,Lib.lens,jY,vw,List.sum_cons,List.sum_nil];have:s.data.toList.length=s.size:=zq;omega) (by
       have h1:((((ks.take k2).map fun nd=>(nd,tf nd)).filter gr).map mt).length<=ks.length:=by
        rw [vy]
        refine jM (uz _ _) ?_
        rw [vy,vj]
        omega
       rw [jP,vy]
       omega)
    have hle:kr nd ([⟨#[116,101,120,116]⟩,s].map (fun x:ByteArray=>x.data.toList))=mt (nd,tf nd):=by rw [hst];rfl
    rw [hle] at htl
    have hfull:gr (nd,tf nd)=true:=by
     have h3:s.data.toList.length=s.size:=zq
     unfold gr
     rw [hst]
     simp only [ne_eq,decide_not,Bool.not_eq_true',decide_eq_false_iff_not]
     intro q
     rw [q] at h3
     simp at h3
     omega
    have htl:=htl.mono (R':=fun e w7=>∃u',e= .returned (.tuple #[])/\Aside (StSt w S W2 v (qs.map cz++((((ks.take (k2+1)).map fun nd=>(nd,tf nd)).filter gr).map mt)) u' w7)) (fun e w7 ht7=>by
     obtain ⟨u',he,A7⟩:=AX.tell ht7
     refine ⟨u',he,?_⟩
     show StSt w S W2 v _ u' w7
     rw [kh _ _ hx.o,ug]
     simp only [List.filter_cons,hfull,List.filter_nil,vz,vJ,uB,if_true]
     rw [<-vn]
     exact A7)
    clear hle AX hXb hbX A6 A2 hfull
    go_wp2_with fail
    rw [<-hX]
    refine htl.mono ?_
    clear htl hX
    rintro e w7 ⟨u',rfl,HA7⟩
    go_wp2
    go_roundg (ks.length - (k2+1))
    case measure=>omega
    case rel=>exact ⟨k2+1,u',zI,zj,jL _,HA7.o⟩
   have d2:decide ((k2:Int)<(ks.length:Int))=false:=zl
   have ek:ks.take k2=ks:=vm zj
   rw [ek] at A2
   clear ek
   obtain ⟨ts,hts⟩:=za (ks.map fun nd=>(nd,tf nd))
   rw [<-hts] at A2
   have hIT:IsTexts A ts:=by
    refine ⟨?_,fun nd=> ?_,fun t ht=> ?_⟩
    ·rw [hts,List.pairwise_map];exact HK.o.1
    ·rw [hts,List.map_map]
     have:ks.map ((fun x:Int×List UInt8=>x.1)∘fun nd=>(nd,tf nd))=ks:=(ut (fun _ _=>rfl)).trans (List.map_id ks)
     rw [this]
     exact HK.o.2.1 nd
    rw [hts] at ht
    obtain ⟨nd,hnd,rfl⟩:=vp.1 ht
    obtain ⟨_,tx',_,_,_,q4,q5⟩:=HM.o.1.text
    obtain ⟨p,hp⟩:=uG.1 ((q4 nd).2 ((HK.o.2.1 nd).1 hnd))
    obtain ⟨_,L,_,hL,_⟩:=q5 nd p hp
    exact ⟨L,hL,htf.o nd L hL⟩
   have htsl:ts.length<=300:=by rw [hts,vy];exact hks
   have htl:∀t∈ts,t.2.length<=1000:=fun t ht=>by
    obtain ⟨L,hL,e⟩:=hIT.line t ht
    have h1:=mB L
    have h2:=hL.len
    rw [e]
    omega
   have htn:∀t∈ts,0<=t.1/\t.1<2^40:=fun t ht=>by
    obtain ⟨x,hx,_,e2,_⟩:=(hIT.mem t.1).1 (vp.2 ⟨t,ht,rfl⟩)
    have q:=ax (HM.o.2.2.well.ok x (HM.o.2.1.mem_iff.1 hx))
    have e3:x.2.2.2.2.1=t.1:=e2
    exact kg2
   have HTS:Aside (IsTexts A ts/\(∀t∈ts,t.2.length<=1000)/\(∀t∈ts,0<=t.1/\t.1<2^40)):=⟨hIT,htl,htn⟩
   obtain ⟨LS,hLS⟩:=za (qs.map cz++(ts.filter gr).map mt)
   rw [<-hLS] at A2
   have hLSl:LS.length<=180300:=by
    rw [hLS,jP,vy,vy]
    have:=uz gr ts
    omega
   have hmid:=HM.o.1.later qX
   obtain ⟨cm,A',m1,m2,m3,m4⟩:=hmid.marks
   have hmk:=Fn wr bc cm A.length (fA A') m1 zj
   have c8:=hmid.cell.c8
   have HLS:Aside (LS=qs.map cz++(ts.filter gr).map mt/\A'.Perm A):=⟨hLS,m2⟩
   obtain ⟨y,hy⟩:=za wr
   subst hy
   clear hts hIT htl htn hLS hmid m1 m2 m3 m4 HK htf
   go_wp2_with fail
   refine hmk.mono ?_
   clear hmk c8
   rintro e W3 ⟨am,mc,mm,rfl,hIM,hmml,hmin,hb3,hnew3⟩
   have HMM:Aside (IsMarks (fA A') mm/\InRow bU W3 am mm/\(∀g o,am=some ⟨g,o,none⟩->mm≠ []->g<W3.heap.size/\g≠S/\u.ownBlock≠some g)/\StSt w S W3 u LS u W3):=by
    have h3:=A2.o.later hb3
    refine ⟨hIM,hmin,fun g o e hne=>⟨GJ ci zj hmin hne e,?_,fun q=> ?_⟩,StSt.start h3.st h3.below⟩
    ·have:=hnew3 g o e
     have:=A2.o.st.lt
     omega
    have h4:=hnew3 g o e
    have:=(A2.o.st.row.lt g q).2
    omega
   have hmm3:mm.length<=300:=zj
   clear hIM hmml hmin hb3 hnew3 A2
   go_wp2
   go_loopg [62] mm.length (fun kx s62 wr=>∃(k:Nat) (z:Value),s62= .int .i64 (k:Int)/\k<=mm.length/\mm.length - k<=kx/\Aside (StSt w S W3 u (LS++(mm.take k).map rX) z wr))
   case atStart=>exact ⟨0,u,rfl,jX _,jL _,by show StSt w S W3 u _ u W3;simpa using HMM.o.2.2.2⟩
   case round=>
    obtain ⟨k3,z,rfl,hk3,hkx3,A3⟩:=hrel
    by_cases hlt3:k3<mm.length
    ·have d3:decide ((k3:Int)<(mm.length:Int))=true:=by simp;omega
     have wk:((k3:Int)).toNat=k3:=zj
     have pk:(0:Int)<=(k3:Int):=zj
     have bk:(k3:Int)<(mm.length:Int):=zj
     obtain ⟨⟨nd,nm',vl⟩,hx⟩:∃x,Aside (mm[k3]? =some x):=⟨mm[k3],jK hlt3⟩
     have hmne:mm≠ []:=fun q=>by rw [q] at hlt3;simp at hlt3
     obtain ⟨blk,off,ham,hc⟩:=(A3.o.inRow HMM.o.2.1 (fun g o e=>HMM.o.2.2.1 g o e hmne)).get ci hx.o
     subst ham
     have r0:=hc 0 _ rfl
     have r1:=hc 1 _ rfl
     have r2:=hc 2 _ rfl
     simp only [vI] at r0
     clear hc hmne
     have hmo:=FZ HMM.o.1 (jT hx.o)
     dsimp only at hmo
     obtain ⟨Y,hY⟩:=za (wr.alloc (.cells #[.int .i64 nd,.string nm',.string vl] 128))
     have hbY:Below wr.heap.size wr Y:=by rw [hY];exact zh wr _
     have hYb:Y.heap[wr.heap.size]? =some (.cells #[.int .i64 nd,.string nm',.string vl] 128 (0,0)):=by rw [hY];exact heap_alloc_new wr _
     have y0:Y.cell? ⟨wr.heap.size,0,none⟩=some (.int .i64 nd):=xR
     have y1:Y.cell? ⟨wr.heap.size,1,none⟩=some (.string nm'):=xR
     have y2:Y.cell? ⟨wr.heap.size,2,none⟩=some (.string vl):=xR
     obtain ⟨X,hX⟩:=za (Y.alloc (.cells #[.string ⟨#[109,97,114,107]⟩,.string nm',.string vl] 9))
     have hbX:Below Y.heap.size Y X:=by rw [hX];exact zh Y _
     have AX:=(A3.o.later hbY).later hbX
     have hXb:X.heap[Y.heap.size]? =some (.cells #[.string ⟨#[109,97,114,107]⟩,.string nm',.string vl] 9 (0,0)):=by rw [hX];exact heap_alloc_new Y _
     have htl:=oR X S nd Y.heap.size 3 [⟨#[109,97,114,107]⟩,nm',vl] (LS++(mm.take k3).map rX) z AX.st (fun j x hj=>by
       rw [vh]
       match j,hj with
       | 0,hj=>cases hj;simp [World.cell?,hXb]
       | 1,hj=>cases hj;simp [World.cell?,hXb]
       | 2,hj=>cases hj;simp [World.cell?,hXb]
       | n+3,hj=>simp at hj) (jJ.1 hXb).1 zq zq (HT.o _ yF) zj zj
       (by simp only [vJ,uB,Lib.join_length,Lib.lens,jY,vw,List.sum_cons,List.sum_nil];have q1:nm'.data.toList.length=nm'.size:=zq;have q2:vl.data.toList.length=vl.size:=zq;omega) (by rw [jP,vy,vj];omega)
     have hle:kr nd ([⟨#[109,97,114,107]⟩,nm',vl].map (fun x:ByteArray=>x.data.toList))=rX (nd,nm',vl):=rfl
     rw [hle] at htl
     have htl:=htl.mono (R':=fun e w7=>∃z',e= .returned (.tuple #[])/\Aside (StSt w S W3 u (LS++(mm.take (k3+1)).map rX) z' w7)) (fun e w7 ht7=>by
      obtain ⟨z',he,A7⟩:=AX.tell ht7
      refine ⟨z',he,?_⟩
      show StSt w S W3 u _ z' w7
      rw [kh _ _ hx.o,<-vn]
      exact A7)
     have HY:Aside (Y.heap.size=wr.heap.size+1):=by show Y.heap.size=_;rw [hY];simp
     obtain ⟨y,hy⟩:=za wr
     subst hy
     clear hle AX hXb hbX hbY hYb A3 hmo d2
     go_upto_region 18 with fail
     rw [<-hY]
     clear hY r0 r1 r2
     go_wp2_with fail
     rw [<-hX]
     refine htl.mono ?_
     clear htl hX
     rintro e w7 ⟨z',rfl,HA7⟩
     clear y0 y1 y2
     go_wp2
     go_roundg (mm.length - (k3+1))
     case measure=>omega
     case rel=>exact ⟨k3+1,z',zI,zj,jL _,HA7.o⟩
    have d3:decide ((k3:Int)<(mm.length:Int))=false:=zl
    have ek:mm.take k3=mm:=vm zj
    rw [ek] at A3
    clear ek
    have hjl:=DW wr S (LS++mm.map rX) z A3.o.st (by rw [jP,vy];omega) (fun l hl=>by
     have hIP:=HQ.o.1
     rcases jO.1 hl with hl | hl
     ·rw [HLS.o.1] at hl
      rcases jO.1 hl with hl | hl
      ·obtain ⟨p,hp,rfl⟩:=vp.1 hl
       exact Fw (HMS.o.2.2.fine _ _ ((HQ.o.1.mem p).1 hp))
      ·obtain ⟨t,ht,rfl⟩:=vp.1 hl
       have ht':=(uN.1 ht).1
       exact Gc (HTS.o.2.1 t ht') (HTS.o.2.2 t ht').1 (HTS.o.2.2 t ht').2
     ·obtain ⟨m,hm,rfl⟩:=vp.1 hl
      exact IW (FZ HMM.o.1 hm))
    have z0:=A3.o.st.box.cell
    have HFIN:Aside (StateIs (aX R) (Lib.join (LS++mm.map rX) [10])):=by
     refine StateIs.perm (A:=A) ⟨ms,qs,ts,A',mm,HMS.o.1,HMS.o.2.1,HQ.o.1,HTS.o.1,HLS.o.2,HMM.o.1,?_⟩ HM.o.2.1
     unfold JB
     rw [HLS.o.1]
    have HB:Aside (Below w.heap.size w wr):=by have:=A3.o.below;rw [HU.o.2.2.2] at this;exact this
    obtain ⟨y,hy⟩:=za wr
    subst hy
    clear A3 d2
    go_wp2_with fail
    refine hjl.mono ?_
    clear hjl
    rintro e w9 ⟨rfl,hb9⟩
    have HB9:Aside (Below w.heap.size w w9):=zi HB.o hb9
    clear hb9
    go_wp2
    go_ret
    exact ⟨_,rfl,HFIN.o,HB9.o⟩
end
section
open Go Go.RowKit Go.Lib Go.Sort
structure PE (w:World) (p i:Nat) (S:List OpX) (v:Value) (L:List (dw×bQ)) (wr:World):Prop where
 mks:Nq (p+1) wr p v L
 lists:OE (fA (S.take i)) L
 len:L.length<=i
 below:Below w.heap.size w wr
 size:p+1<=wr.heap.size
end
section
open Go.RowKit Go.Lib Go.Sort Go.Maps
open scoped Classical
def MN (ad:Nat->Addr) (w:World) (ok:Prop) (x:OpX) (cyc:Prop) (e:Ending) (w':World):Prop:=Below w.heap.size w w'/\
 ((¬ok/\e= .returned (.tuple #[ar aT,eV ad 6]))\/(ok/\dU x≠0/\e= .returned (.tuple #[ar aT,eV ad (dU x)]))\/(ok/\dU x=0/\cyc/\e= .returned (.tuple #[ar aT,eV ad 10]))\/(ok/\dU x=0/\¬cyc/\e= .returned (.tuple #[ar x,.nilIface])))
theorem FU {B:Nat} {ad:Nat->Addr} (w:World) (c:Nat->Nat) (br:Nat) (T:Int) (i:Nat) (ao:Nat->Option Addr) (cap:Nat->Nat) (bt bx bc bm n:Nat) (f:Sta) (R:Rws) (nd into:Int) (name:ByteArray) (hc:RepCell w br T (i:Int) (kvs ao cap R) bt bx bc) (hrows:RowsAt w c (kvs ao cap R) R) (ht:w.cell? ⟨bt,0,none⟩=some (.map (some bm))) (hmap:MapAt prog 3 w bm n f) (hG:ko f) (hR:RowsK R) (hE:EnvE B ad w) (hcy:Aside (Cyc ad)) (hi:i<4) (hT:0<=T) (hm:T<=1073741824) (hn:(aX R).length<=250) (hs1:name.size<=1000000) (h2: -9223372036854775808<=nd) (h3:nd<=9223372036854775807) (h4: -9223372036854775808<=into) (h5:into<=9223372036854775807):
  Calls prog 316 #[.pointer (some ⟨br,0,none⟩),.int .i64 nd,.int .i64 into,.string name] w (MN ad w (KnownN (aX R) nd/\(into=0\/into=1\/KnownN (aX R) into)) (bE T i (R i).length 109 nd into name ⟨#[]⟩) (into=nd\/Ins f into nd)):=by
 have hrl:∀i,i<4->(R i).length<=1000:=fun i hi=>yk
 obtain ⟨S,hS⟩:=za w.heap.size
 obtain ⟨U,hU⟩:=za (w.alloc (.cells #[.int .i64 0,.int .i64 0,.int .i64 0,.int .u8 0,.int .i64 0,.int .i64 0,.string ⟨#[]⟩,.string ⟨#[]⟩] 61))
 have hbU:Below w.heap.size w U:=zN
 have Z0:OpBlk U S aT:=yl
 have hcU:RepCell U br T (i:Int) (kvs ao cap R) bt bx bc:=hc.same (hbU.block _ hc.lt)
 obtain ⟨zb,hzb⟩:∃zb:Bool,zb=true↔KnownN (aX R) nd:=⟨@decide _ (Classical.propDecidable _),@decide_eq_true_iff _ (Classical.propDecidable _)⟩
 obtain ⟨zp,hzp⟩:∃zp:Bool,zp=true↔(into=0\/into=1\/KnownN (aX R) into):=⟨@decide _ (Classical.propDecidable _),@decide_eq_true_iff _ (Classical.propDecidable _)⟩
 have hnode:=eP U ao cap R nd zb hzb ((hE.later hbU).op4) ((KnownAt.of_rows hrows).later hbU) hR.toN hrl h2 h3
 unfold kV at hnode
 have k2:U.cell? ⟨br,2,none⟩=some (.slice (ao 0) (R 0).length (cap 0)):=hcU.c2
 have k3:U.cell? ⟨br,3,none⟩=some (.slice (ao 1) (R 1).length (cap 1)):=hcU.c3
 have k4:U.cell? ⟨br,4,none⟩=some (.slice (ao 2) (R 2).length (cap 2)):=hcU.c4
 have k5:U.cell? ⟨br,5,none⟩=some (.slice (ao 3) (R 3).length (cap 3)):=hcU.c5
 have HT:Aside (KnownAt U ao R/\RowsN R/\(∀i,i<4->(R i).length<=1000)/\w.cell? ⟨bt,0,none⟩=some (.map (some bm))/\MapAt prog 3 w bm n f/\ko f):=⟨(KnownAt.of_rows hrows).later hbU,hR.toN,hrl,ht,hmap,hG⟩
 have H0:Aside (RepCell U br T (i:Int) (kvs ao cap R) bt bx bc/\OpBlk U S aT/\Below w.heap.size w U/\S=w.heap.size/\EnvE B ad U/\B<=w.heap.size/\(zb=true↔KnownN (aX R) nd)/\(zp=true↔(into=0\/into=1\/KnownN (aX R) into))):=⟨hcU,Z0,hbU,hS,hE.later hbU,hE.size,hzb,hzp⟩
 have HU:Aside (U=w.alloc (.cells #[.int .i64 0,.int .i64 0,.int .i64 0,.int .u8 0,.int .i64 0,.int .i64 0,.string ⟨#[]⟩,.string ⟨#[]⟩] 61)):=hU
 clear hU hcU Z0 hbU hE hc hS hzb hzp hrows hR ht hmap hG hrl
 go_enter func316,ntmps316
 go_upto_region 1 with fail
 rw [<-HU.o,<-H0.o.2.2.2.1]
 go_wp2_with fail
 refine hnode.mono ?_
 clear hnode k2 k3 k4 k5
 rintro e w1 ⟨rfl,hb1⟩
 have Z1:=H0.o.2.1.later hb1
 have H1:Aside (OpBlk w1 S aT/\Below w.heap.size w w1/\EnvE B ad w1/\RepCell w1 br T (i:Int) (kvs ao cap R) bt bx bc/\KnownAt w1 ao R):=⟨Z1,zi H0.o.2.2.1 hb1,H0.o.2.2.2.2.1.later hb1,H0.o.1.same (hb1.block _ H0.o.1.lt),HT.o.1.later hb1⟩
 clear hb1 Z1
 cases zb with
 | false=>
  have HNO:=Lib.hid (show ¬(KnownN (aX R) nd/\(into=0\/into=1\/KnownN (aX R) into)) from fun q=>by have:=H0.o.2.2.2.2.2.2.1.2 q.1;cases this)
  obtain ⟨z0,z1,z2,z3,z4,z5,z6,z7,zf⟩:=H1.o.1.cells
  unfold aT at z0 z1 z2 z3 z4 z5 z6 z7
  dsimp only at z0 z1 z2 z3 z4 z5 z6 z7
  have eg:=H1.o.2.2.1.c5
  have hlo:=H1.o.2.2.1.low
  have hSw:=H0.o.2.2.2.1
  have hBw:=H0.o.2.2.2.2.2.1
  have n1:1≠S:=zj
  have n2:S≠1:=zj
  clear hlo hSw hBw
  go_wp2_with fail
  go_region
  all_goals
   go_wp2
   (try simp only [Exit.inBlock,Exit.then])
   refine bodyPost_ret (v:=.tuple #[ar aT,eV ad 6]) ?_ rfl ⟨?_,.inl ⟨HNO.o,rfl⟩⟩
   ·exact kd1
   exact kc2
 | true=>
  have HK1:Aside (KnownN (aX R) nd):=H0.o.2.2.2.2.2.2.1.1 rfl
  have hplace:=gF w1 ao cap R into zp H0.o.2.2.2.2.2.2.2 H1.o.2.2.1.op4 H1.o.2.2.2.2 HT.o.2.1 HT.o.2.2.1 h4 h5
  unfold kV at hplace
  have k2:w1.cell? ⟨br,2,none⟩=some (.slice (ao 0) (R 0).length (cap 0)):=H1.o.2.2.2.1.c2
  have k3:w1.cell? ⟨br,3,none⟩=some (.slice (ao 1) (R 1).length (cap 1)):=H1.o.2.2.2.1.c3
  have k4:w1.cell? ⟨br,4,none⟩=some (.slice (ao 2) (R 2).length (cap 2)):=H1.o.2.2.2.1.c4
  have k5:w1.cell? ⟨br,5,none⟩=some (.slice (ao 3) (R 3).length (cap 3)):=H1.o.2.2.2.1.c5
  go_wp2_with fail
  refine hplace.mono ?_
  clear hplace k2 k3 k4 k5
  rintro e w2 ⟨rfl,hb2⟩
  have H2:Aside (OpBlk w2 S aT/\Below w.heap.size w w2/\EnvE B ad w2/\RepCell w2 br T (i:Int) (kvs ao cap R) bt bx bc):=⟨H1.o.1.later hb2,zi H1.o.2.1 hb2,H1.o.2.2.1.later hb2,H1.o.2.2.2.1.same (hb2.block _ H1.o.2.2.2.1.lt)⟩
  clear hb2
  cases zp with
  | false=>
   have HNO:=Lib.hid (show ¬(KnownN (aX R) nd/\(into=0\/into=1\/KnownN (aX R) into)) from fun q=>by have:=H0.o.2.2.2.2.2.2.2.2 q.2;cases this)
   obtain ⟨z0,z1,z2,z3,z4,z5,z6,z7,zf⟩:=H2.o.1.cells
   unfold aT at z0 z1 z2 z3 z4 z5 z6 z7
   dsimp only at z0 z1 z2 z3 z4 z5 z6 z7
   have eg:=H2.o.2.2.1.c5
   have hlo:=H2.o.2.2.1.low
   have hSw:=H0.o.2.2.2.1
   have hBw:=H0.o.2.2.2.2.2.1
   have n1:1≠S:=zj
   have n2:S≠1:=zj
   clear hlo hSw hBw
   go_wp2_with fail
   go_region
   all_goals
    go_wp2
    (try simp only [Exit.inBlock,Exit.then])
    refine bodyPost_ret (v:=.tuple #[ar aT,eV ad 6]) ?_ rfl ⟨?_,.inl ⟨HNO.o,rfl⟩⟩
    ·exact kd1
    exact (aL (b:=S) H2.o.2.1 yc 0 [.int .i64 0,.int .i64 0,.int .i64 0,.int .u8 0,.int .i64 0,.int .i64 0,.string ⟨#[]⟩,.string ⟨#[]⟩]).drew
  | true=>
   have HOK:Aside (KnownN (aX R) nd/\(into=0\/into=1\/KnownN (aX R) into)):=⟨HK1.o,H0.o.2.2.2.2.2.2.2.1 rfl⟩
   have hown:=kU w2 br T i ao cap bt bx bc R 109 nd into name ⟨#[]⟩ H2.o.2.2.2 H2.o.2.2.1 hi hT hm hn hs1 zo
   unfold ar at hown
   dsimp only at hown
   go_wp2_with fail
   refine hown.mono ?_
   clear hown
   rintro e w3 ⟨he,hb3⟩
   obtain ⟨x,hx⟩:=za ((bE T i (R i).length 109 nd into name ⟨#[]⟩))
   rw [<-hx] at he
   have H3:Aside (OpBlk w3 S aT/\Below w.heap.size w w3/\EnvE B ad w3/\RepCell w3 br T (i:Int) (kvs ao cap R) bt bx bc):=⟨H2.o.1.later hb3,zi H2.o.2.1 hb3,H2.o.2.2.1.later hb3,H2.o.2.2.2.same (hb3.block _ H2.o.2.2.2.lt)⟩
   have HXE:Aside (x=(bE T i (R i).length 109 nd into name ⟨#[]⟩)):=hx
   clear hb3 hx
   by_cases he0:dU x=0
   ·rw [if_pos he0,he0] at he
    subst he
    obtain ⟨t,b,m,kd,nd',o,s,v⟩:=x
    have HX:=Lib.hid he0
    clear he0
    unfold ar eV
    dsimp only
    go_upto_region 4 with fail
    obtain ⟨W,hW⟩:=za (w3.alloc (.cells #[.int .i64 t,.int .i64 b,.int .i64 m,.int .u8 (kd:Int),.int .i64 nd',.int .i64 o,.string s,.string v] 61))
    obtain ⟨V,hV⟩:=za w3.heap.size
    rw [<-hW,<-hV]
    have hbW:Below w3.heap.size w3 W:=by rw [hW];exact zh w3 _
    have hN:OpBlk W V (t,b,m,kd,nd',o,s,v):=by rw [hW,hV];exact OpBlk.new w3 (t,b,m,kd,nd',o,s,v)
    have hBw':=zi H3.o.2.1 hbW
    have H4:Aside (OpBlk W S aT/\Below w.heap.size w W/\EnvE B ad W/\RepCell W br T (i:Int) (kvs ao cap R) bt bx bc/\OpBlk W V (t,b,m,kd,nd',o,s,v)/\V=w3.heap.size/\S<V):=⟨H3.o.1.later hbW,hBw',H3.o.2.2.1.later hbW,H3.o.2.2.2.same (hbW.block _ H3.o.2.2.2.lt),hN,hV,by rw [hV];exact H3.o.1.lt⟩
    obtain ⟨z,hz⟩:∃z:Bool,z=true↔Ins f into nd:=⟨@decide _ (Classical.propDecidable _),@decide_eq_true_iff _ (Classical.propDecidable _)⟩
    have hins:=lB W bt bm n f into nd z hz (cell_later hBw' HT.o.2.2.2.1) (HT.o.2.2.2.2.1.same (hBw'.block _ HT.o.2.2.2.2.1.lt)) HT.o.2.2.2.2.2 (oI zj zj)
    have HZ:Aside (z=true↔Ins f into nd):=hz
    have k6:W.cell? ⟨br,6,none⟩=some (.pointer (some ⟨bt,0,none⟩)):=H4.o.2.2.2.1.c6
    have HX0:Aside (dU (bE T i (R i).length 109 nd into name ⟨#[]⟩)=0):=by have:=HX.o;rw [HXE.o] at this;exact this
    clear hbW hN hBw' hz hW hV
    by_cases hq:into=nd
    ·have HCY:Aside (into=nd\/Ins f into nd):=.inl hq
     subst hq
     clear hins
     obtain ⟨z0,z1,z2,z3,z4,z5,z6,z7,zf⟩:=H4.o.1.cells
     unfold aT at z0 z1 z2 z3 z4 z5 z6 z7
     dsimp only at z0 z1 z2 z3 z4 z5 z6 z7
     have eg:=H4.o.2.2.1.c9 hcy.o
     have hlo:=H4.o.2.2.1.low
     have hSw:=H0.o.2.2.2.1
     have hBw:=H0.o.2.2.2.2.2.1
     have n1:9≠S:=zj
     have n2:S≠9:=zj
     clear hlo hSw hBw
     go_wp2_with fail
     go_region
     all_goals
      go_wp2
      (try simp only [Exit.inBlock,Exit.then])
      refine bodyPost_ret (v:=.tuple #[ar aT,eV ad 10]) ?_ rfl ⟨?_,.inr (.inr (.inl ⟨HOK.o,HX0.o,HCY.o,rfl⟩))⟩
      ·exact kd1
      exact (aL (b:=S) H4.o.2.1 yc 0 [.int .i64 0,.int .i64 0,.int .i64 0,.int .u8 0,.int .i64 0,.int .i64 0,.string ⟨#[]⟩,.string ⟨#[]⟩]).drew
    have HNQ:=Lib.hid hq
    have dq:decide (into=nd)=false:=by simp [hq]
    clear hq
    go_wp2_with fail
    refine hins.mono ?_
    clear hins k6
    rintro e w5 ⟨rfl,hb5⟩
    have H5:Aside (OpBlk w5 S aT/\Below w.heap.size w w5/\EnvE B ad w5/\OpBlk w5 V (t,b,m,kd,nd',o,s,v)):=⟨H4.o.1.later hb5,zi H4.o.2.1 hb5,H4.o.2.2.1.later hb5,H4.o.2.2.2.2.1.later hb5⟩
    clear hb5
    cases z with
    | true=>
     have HCY:Aside (into=nd\/Ins f into nd):=.inr (HZ.o.1 rfl)
     obtain ⟨z0,z1,z2,z3,z4,z5,z6,z7,zf⟩:=H5.o.1.cells
     unfold aT at z0 z1 z2 z3 z4 z5 z6 z7
     dsimp only at z0 z1 z2 z3 z4 z5 z6 z7
     have eg:=H5.o.2.2.1.c9 hcy.o
     have hlo:=H5.o.2.2.1.low
     have hSw:=H0.o.2.2.2.1
     have hBw:=H0.o.2.2.2.2.2.1
     have n1:9≠S:=zj
     have n2:S≠9:=zj
     clear hlo hSw hBw
     go_wp2_with fail
     go_region
     all_goals
      go_wp2
      (try simp only [Exit.inBlock,Exit.then])
      refine bodyPost_ret (v:=.tuple #[ar aT,eV ad 10]) ?_ rfl ⟨?_,.inr (.inr (.inl ⟨HOK.o,HX0.o,HCY.o,rfl⟩))⟩
      ·exact kd1
      exact (aL (b:=S) H5.o.2.1 yc 0 [.int .i64 0,.int .i64 0,.int .i64 0,.int .u8 0,.int .i64 0,.int .i64 0,.string ⟨#[]⟩,.string ⟨#[]⟩]).drew
    | false=>
     have HNC:=Lib.hid (show ¬(into=nd\/Ins f into nd) from fun q=>q.elim HNQ.o (fun q=>by have:=HZ.o.2 q;cases this))
     obtain ⟨z0,z1,z2,z3,z4,z5,z6,z7,zf⟩:=H5.o.1.cells
     unfold aT at z0 z1 z2 z3 z4 z5 z6 z7
     dsimp only at z0 z1 z2 z3 z4 z5 z6 z7
     obtain ⟨y0,y1,y2,y3,y4,y5,y6,y7,yf⟩:=H5.o.2.2.2.cells
     dsimp only at y0 y1 y2 y3 y4 y5 y6 y7
     go_wp2
     (try simp only [Exit.inBlock,Exit.then])
     refine bodyPost_ret (v:=.tuple #[.agg #[.int .i64 t,.int .i64 b,.int .i64 m,.int .u8 (kd:Int),.int .i64 nd',.int .i64 o,.string s,.string v],.nilIface]) ?_ rfl ⟨?_,.inr (.inr (.inr ⟨HOK.o,HX0.o,HNC.o,by rw [<-HXE.o];rfl⟩))⟩
     ·exact kc4
     exact aL (b:=S) H5.o.2.1 yc 0 [.int .i64 t,.int .i64 b,.int .i64 m,.int .u8 (kd:Int),.int .i64 nd',.int .i64 o,.string s,.string v]
   rw [if_neg he0] at he
   subst he
   have HX0:=Lib.hid (show dU (bE T i (R i).length 109 nd into name ⟨#[]⟩)≠0 by rw [<-HXE.o];exact he0)
   obtain ⟨er,her⟩:=za (dU x - 1)
   have hev:eV ad (dU x)= .iface 450 (.pointer (some (ad er))):=by rw [her];unfold eV;rw [if_neg he0]
   have HEV:Aside (eV ad (dU x)= .iface 450 (.pointer (some (ad er)))):=hev
   rw [hev]
   clear her hev he0
   obtain ⟨z0,z1,z2,z3,z4,z5,z6,z7,zf⟩:=H3.o.1.cells
   unfold aT at z0 z1 z2 z3 z4 z5 z6 z7
   dsimp only at z0 z1 z2 z3 z4 z5 z6 z7
   have hlt:=H3.o.1.lt
   have nS:S≠w3.heap.size:=zj
   have nS':w3.heap.size≠S:=zj
   unfold ar aT
   dsimp only
   go_wp2
   (try simp only [Exit.inBlock,Exit.then])
   refine bodyPost_ret (v:=.tuple #[ar aT,.iface 450 (.pointer (some (ad er)))]) ?_ rfl ⟨?_,.inr (.inl ⟨HOK.o,HX0.o,by rw [<-HXE.o,HEV.o]⟩)⟩
   ·exact ke8
   have hbl:=aL (b:=S) H3.o.2.1 yc 0 [.int .i64 0,.int .i64 0,.int .i64 0,.int .u8 0,.int .i64 0,.int .i64 0,.string ⟨#[]⟩,.string ⟨#[]⟩]
   exact hbl.alloc hbl.size _
