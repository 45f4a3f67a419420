import Derived.Test.YtfkekfibjnjcnaaGreatDoorMZ16
import Derived.Test.YtfkekfibjnjcnaaGreatDoorMZ22
set_option linter.unusedSimpArgs false
set_option linter.unusedVariables false
set_option maxRecDepth 100000
set_option maxHeartbeats 64000000
namespace Go.Proofs.YtfkekfibjnjcnaaGreatDoor
open Go.Proofs.Tryz
variable {ls:List (List UInt8)} {cs ys:List OpX} {m:Mrk} {S b g i j k:Nat} {x:OpX} {p:OpX→Bool} {ao:Option Addr} {v v0:Value} {W1 w w' wr:World}
section
open Go.RowKit Go.Lib Go.Sort Go.Maps
open scoped Classical
structure StSt (w:World) (S:Nat) (W1:World) (v0:Value) (ls:List (List UInt8)) (v:Value) (wr:World):Prop where
 st:TellSt S ls v wr
 below:Below S w wr
 keeps:Keeps (fun k=>k=S\/v0.ownBlock=some k) W1 wr
 own:∀k,v.ownBlock=some k->v0.ownBlock=some k\/W1.heap.size<=k
theorem StSt.start {W:World} (h:TellSt S ls v W) (hb:Below S w W):StSt w S W v ls v W:=⟨h,hb,Keeps.refl _ _,fun k hk=>.inl hk⟩
theorem StSt.later {w W1 wr w':World} {S:Nat} {ls:List (List UInt8)} {v0 v:Value} (h:StSt w S W1 v0 ls v wr) (hb:Below wr.heap.size wr w'):StSt w S W1 v0 ls v w':=
 ⟨h.st.later hb,h.below.trans (hb.mono (ZB h.st.lt)),h.keeps.trans ((keeps_of_below hb).mono (fun k hk e=>absurd hk zj)),h.own⟩
theorem StSt.tell {line:List UInt8} {e:Ending} (h:StSt w S W1 v0 ls v wr) (ht:TellOut S line ls v wr e w'):∃v',e= .returned (.tuple #[])/\StSt w S W1 v0 (ls++ [line]) v' w':=by
 obtain ⟨v',rfl,h1,h2,h3⟩:=ht
 have hs:=h.keeps.size
 refine ⟨v',rfl,h1,?_,h.keeps.then h2 (fun i hi q=>q.imp id (fun q=> ?_)),fun k hk=> ?_⟩
 ·refine h.below.trans (h2.below (ZB h.st.lt) (fun k q=> ?_))
  rcases q with rfl | q
  ·exact vm _
  have:=(h.st.row.lt k q).1
  omega
 ·rcases h.own i q with q | q
  ·exact q
  omega
 rcases h3 k hk with q | q
 ·exact h.own k q
 exact .inr zj
theorem StSt.kept (h:StSt w S W1 v0 ls v wr) (hg:g<W1.heap.size) (h1:g≠S) (h2:v0.ownBlock≠some g):wr.heap[g]? =W1.heap[g]? :=h.keeps.block g hg (fun e=>e.elim h1 h2)
theorem StSt.inRow {α:Type} {enc:α->List Value} (h:StSt w S W1 v0 ls v wr) {zs:List α} (hz:InRow enc W1 ao zs) (hk:∀g o,ao=some ⟨g,o,none⟩->g<W1.heap.size/\g≠S/\v0.ownBlock≠some g):InRow enc wr ao zs:=
 hz.kept (fun g o e=>h.kept (hk g o e).1 (hk g o e).2.1 (hk g o e).2.2)
theorem inRow_lt {α:Type} {enc:α->List Value} (hlen:∀x,(enc x).length=k) (hk:0<k) {zs:List α} (h:InRow enc w ao zs) (hz:zs≠ []) {o:Nat} (e:ao=some ⟨g,o,none⟩):g<w.heap.size:=by
 cases zs with
 | nil=>exact absurd rfl hz
 | cons x t=>
  obtain ⟨b,o',e',hc⟩:=h.get hlen (i:=0) (x:=x) rfl
  rw [e] at e'
  cases e'
  cases hx:enc x with
  | nil=>have:=hlen x;rw [hx] at this;simp at this;omega
  | cons u r=>exact vp w ⟨g,_,none⟩ (hc 0 u (by rw [hx];rfl))
theorem pls_in {qs:List Plc} (h:PlsAt w v qs):∃ao cap,v= .slice ao qs.length cap/\InRow cellsP w ao qs/\∀g o,ao=some ⟨g,o,none⟩->v.ownBlock=some g/\g<w.heap.size:=by
 rcases h with ⟨rfl,rfl⟩ | ⟨g,cap,rfl,hl,hc⟩
 ·exact ⟨none,0,rfl,.inl rfl,fun g o e=>qC⟩
 exact ⟨some ⟨g,0,none⟩,cap,rfl,.inr ⟨g,0,rfl,fun j u hj=>by rw [vO];exact hc j u hj⟩,fun g' o e=>by cases e;exact ⟨rfl,hl⟩⟩
theorem itoa_len (n:Int) (h0:0<=n) (h1:n<2^62):(Lib.itoa n).length<=100:=by
 have:=Lib.itoa_length_le n zj zj
 omega
theorem join_le (M:Nat):∀ls:List (List UInt8),(∀l∈ls,l.length<=M)->(Lib.join ls [10]).length<=ls.length*(M+1)
 | [],_=>by simp [Lib.join_nil]
 | x::r,h=>by
  rw [Lib.join_length]
  have:∀r:List (List UInt8),(∀l∈r,l.length<=M)->Lib.lens r<=r.length*M:=fun r=>by
   induction r with
   | nil=>intro _;simp [Lib.lens]
   | cons y r ih=>
    intro h
    have h1:=h y zm
    have h2:=ih (fun l hl=>h l (by simp [hl]))
    simp only [Lib.lens,ug,Zm,vH] at h2 |-
    rw [Zb]
    omega
  have:=this (x::r) h
  simp only [vH,vT] at this |-
  rw [Nat.mul_add,Nat.mul_one]
  omega
theorem mark_of {A:List OpX} {mm:List Mrk} (h:IsMarks (madeO A) mm) (hm:m∈mm):0<=m.1/\m.1<2^40/\m.2.1.size<=12/\m.2.2.size<=12:=by
 obtain ⟨-,s,hs⟩:=(h.mem m).1 hm
 have hb:=bestC_fold (marksO A) (keyM m)
 unfold madeO at hs
 rw [hs] at hb
 have hmem:(keyM m,(m.2.2,s))∈marksO A:=hb.1
 obtain ⟨x,hx,e⟩:=Zi.1 hmem
 have hx0:errO x=0:=by
  unfold markO at e
  split at e
  ·rename_i q;exact q.1
  cases e
 have ek:=markO_some e
 have q:=opE_zero hx0
 have e1:m.1=x.2.2.2.2.1:=congrArg (fun z=>z.1.1) ek
 have e2:m.2.1=x.2.2.2.2.2.2.1:=congrArg (fun z=>z.1.2) ek
 have e3:m.2.2=x.2.2.2.2.2.2.2:=congrArg (fun z=>z.2.1) ek
 have l1:x.2.2.2.2.2.2.1.data.toList.length=x.2.2.2.2.2.2.1.size:=zm
 have l2:x.2.2.2.2.2.2.2.data.toList.length=x.2.2.2.2.2.2.2.size:=zm
 rw [e1,e2,e3]
 omega
theorem take_map {α β:Type} (f:α->β) (l:List α) {x:α} (h:l[k]? =some x):(l.take (k+1)).map f=(l.take k).map f++ [f x]:=by
 rw [ut,h,uq]
 rfl
theorem texts_of (A:List OpX):∃tf:Int->List UInt8,Aside (∀nd L,LineIs A nd L->tf nd=textL L):=by
 refine ⟨fun nd=>if h:∃L,LineIs A nd L then textL h.choose else [],fun nd L hL=> ?_⟩
 have h:∃L,LineIs A nd L:=⟨L,hL⟩
 simp only [dif_pos h]
 rw [h.choose_spec.unique hL]
def encI1 (k:Int):List Value:=[.int .i64 k]
theorem encI1_len (k:Int):(encI1 k).length=1:=rfl
theorem flat_ints:∀ks:List Int,flat encI1 ks=intsV ks
 | []=>rfl
 | k::r=>by rw [flat_cons,flat_ints r];rfl
theorem line_len (nd:Int) (ws:List (List UInt8)) (h0:0<=nd) (h1:nd<2^62) (hj:(Lib.join ws [32]).length<=5000):(lineB nd ws).length<=10000:=by
 have:=itoa_len nd h0 h1
 unfold lineB
 simp only [vw,vH,vT]
 omega
theorem place_words {p:Plc} (h:FineP p):(Lib.join [[105,110],Lib.itoa p.2.1,p.2.2.data.toList] [32]).length<=100000:=by
 have h1:=itoa_len p.2.1 h.lo' h.hi'
 have h2:=h.sz
 have h3:p.2.2.data.toList.length=p.2.2.size:=zm
 simp only [Lib.join_length,Lib.lens,ug,uS,vH,vT,Zm,ZF]
 omega
theorem place_len {p:Plc} (h:FineP p):(placeB p).length<=10000:=by
 refine line_len _ _ h.lo h.hi ?_
 have h1:=itoa_len p.2.1 h.lo' h.hi'
 have h2:=h.sz
 have h3:p.2.2.data.toList.length=p.2.2.size:=zm
 simp only [Lib.join_length,Lib.lens,ug,uS,vH,vT,Zm,ZF]
 omega
theorem text_len {t:Int×List UInt8} (h:t.2.length<=1000) (h0:0<=t.1) (h1:t.1<2^40):(textB t).length<=10000:=by
 refine line_len _ _ h0 zj ?_
 simp only [Lib.join_length,Lib.lens,ug,uS,vH,vT,Zm,ZF]
 omega
theorem mark_len (h:0<=m.1/\m.1<2^40/\m.2.1.size<=12/\m.2.2.size<=12):(markB m).length<=10000:=by
 refine line_len _ _ h.1 zj ?_
 have h3:m.2.1.data.toList.length=m.2.1.size:=zm
 have h4:m.2.2.data.toList.length=m.2.2.size:=zm
 simp only [Lib.join_length,Lib.lens,ug,uS,vH,vT,Zm,ZF]
 omega
theorem joinLines (w:World) (S:Nat) (ls:List (List UInt8)) (v:Value) (h:TellSt S ls v w) (hl:ls.length<=1000000) (hm:∀l∈ls,l.length<=10000):
  Calls prog 40 #[v,.string ⟨#[10]⟩] w fun e w'=>e= .returned (.string ⟨(Lib.join ls [10]).toArray⟩)/\Below w.heap.size w w':=by
 have hlen:=join_le 10000 ls hm
 have hr:=h.row
 rcases h.row.2 with ⟨rfl,h0⟩ | ⟨g,cap,cur,rfl,hbg,hgb,r1,r2,r3,r4⟩
 ·have:ls= []:=vM.1 h0
  subst this
  exact (Tryz.strings_Join_none none 0 ⟨#[10]⟩ w).mono fun e w' ⟨h1,h2⟩=>⟨h1,by rw [h2];exact vu _ _⟩
 have e1:(ls.map fun l=>(⟨l.toArray⟩:ByteArray)).map (·.data.toList)=ls:=by
  rw [List.map_map]
  exact (uO (fun l _=>rfl)).trans (List.map_id ls)
 have e2:(ls.map fun l=>(⟨l.toArray⟩:ByteArray)).length=ls.length:=ue _
 have:=Tryz.strings_Join g 0 cap (ls.map fun l=>(⟨l.toArray⟩:ByteArray)) ⟨#[10]⟩ w (fun j x hj=>by
  rw [vO]
  obtain ⟨l,hl',rfl⟩:∃l,ls[j]? =some l/\(⟨l.toArray⟩:ByteArray)=x:=by
   rw [uu] at hj
   cases hq:ls[j]? with
   | none=>rw [hq] at hj;cases hj
   | some l=>rw [hq] at hj;cases hj;exact ⟨l,rfl,rfl⟩
  have hjl:j<ls.length:=(vi.1 hl').1
  rw [hr.cellAt j zj]
  unfold strsV
  rw [uu,hl']
  rfl) (vn.1 hgb).1 (by rw [e2];omega) (by rw [e2];exact r1) (by rw [e1];show (Lib.join ls [10]).length<=_;omega)
 rw [e1,e2] at this
 exact this
end
section
open Go.RowKit Go.Lib Go.Sort Go.Maps
open scoped Classical
theorem state_any (w:World) (c:Nat->Nat) (br:Nat) (by_:Int) (R:Rws) (h:RepAt w c br by_ R) (htab:Lib.TabIs prog w "internal/strconv.uint64pow10" .u64 Lib.pow10Tab) (hn:(allR R).length<=300):
  Calls prog 20 #[.pointer (some ⟨br,0,none⟩)] w fun e w'=>∃s,e= .returned (.string ⟨s.toArray⟩)/\StateIs (allR R) s/\Below w.heap.size w w':=by
 obtain ⟨T,kv,bt,bx,bc,A,hM,hperm,hK,hby⟩:=h
 have hAl:A.length<=300:=xJ
 obtain ⟨S,hS⟩:=za w.heap.size
 obtain ⟨U,hU⟩:=za (w.alloc (.cells #[.slice none 0 0] 91))
 have hbU:Below w.heap.size w U:=zP
 have hT0:TellSt S [] (.slice none 0 0) U:=⟨by rw [hU,hS];exact heap_alloc_new w _,ud _ _ _ _⟩
 have HT:Aside (Lib.TabBelow prog w.heap.size w "internal/strconv.uint64pow10" .u64 Lib.pow10Tab):=Lib.tabBelow_of_tabIs htab
 have HM:Aside (RepMid w c br T by_ kv bt bx bc R A/\A.Perm (allR R)/\RowsK R):=⟨hM,hperm,hK⟩
 have eg:∀args w,(callFunc 38 args).run prog w= .ok (.enter 38 args) w:=enters_of func38 zk rfl
 obtain ⟨bm,tv,ms,hTA,hms,-⟩:=(hM.later hbU).tree
 obtain ⟨nm,hnm,hMap⟩:=hTA.map
 have hml:ms.length<=300:=by
  have h1:=hms.length_eq
  have h2:(movsO A).length<=A.length:=List.length_filterMap_le _ _
  omega
 have hpl:=places_new U bt bm nm tv (madeBy ms) hTA.good hTA.cell hMap zj
 have c6:=(hM.later hbU).cell.c6
 have HMS:Aside (ms.Perm (movsO A)/\ByStamp ms/\Good (madeBy ms)):=⟨hms,hTA.by_,hTA.good⟩
 have HU:Aside (U=w.alloc (.cells #[.slice none 0 0] 91)/\Below w.heap.size w U/\TellSt S [] (.slice none 0 0) U/\S=w.heap.size):=⟨hU,hbU,hT0,hS⟩
 clear hTA hMap hms hM hperm hK hby htab hT0 hU hbU
 go_enter func20,ntmps20
 go_upto_region 3 with fail
 rw [<-HU.o.1]
 go_wp2_with fail
 refine hpl.mono ?_
 clear hpl c6
 rintro e W1 ⟨vq,qs,rfl,hIP,hql,hPA,hb1,hnew⟩
 obtain ⟨ao,qc,rfl,hin,hao⟩:=pls_in hPA
 rw [<-hS]
 have HQ:Aside (IsPlaces (madeBy ms) qs/\InRow cellsP W1 ao qs/\(∀g o,ao=some ⟨g,o,none⟩->g<W1.heap.size/\g≠S/\(Value.slice none 0 0).ownBlock≠some g)/\StSt w S W1 (.slice none 0 0) [] (.slice none 0 0) W1):=by
  refine ⟨hIP,hin,fun g o e=>⟨(hao g o e).2,?_,fun q=>by cases q⟩,StSt.start (HU.o.2.2.1.later hb1) ?_⟩
  ·have h1:=hnew g (hao g o e).1
   have h2:=HU.o.2.2.1.lt
   omega
  rw [HU.o.2.2.2]
  exact zi HU.o.2.1 hb1
 have hqs:qs.length<=90000:=zj
 clear hIP hPA hb1 hnew hin hao hql hnm hS
 go_wp2
 go_loopg [19] qs.length (fun kx s19 wr=>∃(k:Nat) (v:Value),s19= .int .i64 (k:Int)/\k<=qs.length/\qs.length - k<=kx/\Aside (StSt w S W1 (.slice none 0 0) ((qs.take k).map placeB) v wr))
 case atStart=>exact ⟨0,_,rfl,vD _,vm _,HQ.o.2.2.2⟩
 case round=>
  obtain ⟨k,v,rfl,hk,hkx,A1⟩:=hrel
  by_cases hlt:k<qs.length
  ·have d1:decide ((k:Int)<(qs.length:Int))=true:=by simp;omega
   have wk:((k:Int)).toNat=k:=zj
   have pk:(0:Int)<=(k:Int):=zj
   have bk:(k:Int)<(qs.length:Int):=zj
   obtain ⟨⟨a,b,s⟩,hx⟩:∃x,Aside (qs[k]? =some x):=⟨qs[k],vj hlt⟩
   obtain ⟨blk,off,hao,hc⟩:=(A1.o.inRow HQ.o.2.1 HQ.o.2.2.1).get cellsP_len hx.o
   subst hao
   have r0:=hc 0 _ rfl
   have r1:=hc 1 _ rfl
   have r2:=hc 2 _ rfl
   simp only [ui] at r0
   clear hc
   have hfine:=HMS.o.2.2.fine _ _ ((HQ.o.1.mem _).1 (vx hx.o))
   obtain ⟨P,hP⟩:=za wr.heap.size
   obtain ⟨V,hV⟩:=za (wr.alloc (.cells #[.int .i64 a,.int .i64 b,.string s] 98))
   have hbV:Below wr.heap.size wr V:=by rw [hV];exact zh wr _
   have hPV:PlcAt V P (a,b,s):=by rw [hV,hP];exact heap_alloc_new wr _
   have HV:Aside (StSt w S W1 (.slice none 0 0) ((qs.take k).map placeB) v V/\PlcAt V P (a,b,s)/\(∀g,v.ownBlock=some g->g<P)/\S<P):=⟨A1.o.later hbV,hPV,fun g hg=>by rw [hP];exact (A1.o.st.row.lt g hg).2,by rw [hP];exact A1.o.st.lt⟩
   have HF:Aside (FineP (a,b,s)):=hfine
   have hPd:PlcAt V.drew P (a,b,s):=hPV
   clear hbV hPV hfine
   go_upto_region 6 with fail
   rw [<-hV]
   clear hV r0 r1 r2
   rw [<-hP]
   clear hP
   refine wp_region_H (S:=(fun w'=>PlcAt w' P (a,b,s))) zk hPd (fun hHeld=> ?_)
   refine tk 0 hHeld ?_
   refine tk 1 hHeld ?_
   refine tk 2 hHeld ?_ (hy:=Or.inl ⟨zu,by intro w' hSw;have j0:=PlcAt.c0 hSw;dsimp only at j0;clear hSw;go_simp;try with_reducible rfl⟩)
   refine tk 3 hHeld ?_
   refine tk 4 hHeld ?_ (hy:=Or.inl ⟨zu,by intro w' hSw;have j1:=PlcAt.c1 hSw;dsimp only at j1;clear hSw;go_simp;try with_reducible rfl⟩)
   refine tk 6 hHeld ?_
   refine tk 7 hHeld ?_ (hy:=Or.inl ⟨zu,by intro w' hSw;have j2:=PlcAt.c2 hSw;dsimp only at j2;clear hSw;go_simp;try with_reducible rfl⟩)
   refine wpAnyH_one (i:=5) zk rfl (fun K hK=> ?_)
   go_simp
   refine (itoa_any b (by have:=HF.o.lo';dsimp only at this;omega) (by have:=HF.o.hi';dsimp only at this;omega) V.drew (HT.o _ (by have:=HV.o.1.below.drew;rw [HU.o.2.2.2] at this;exact this))).mono ?_
   rintro e w3 ⟨rfl,hb3⟩
   have A3:StSt w S W1 (.slice none 0 0) ((qs.take k).map placeB) v w3:=HV.o.1.later ((vu _ V).drew.trans hb3)
   have P3:PlcAt w3 P (a,b,s):=HV.o.2.1.same (((vu _ V).drew.trans hb3).block P HV.o.2.1.lt)
   refine hK _ _ P3 ?_
   clear hK K hb3
   refine qn ?_
   obtain ⟨X,hX⟩:=za (w3.alloc (.cells #[.string ⟨#[105,110]⟩,.string ⟨(Lib.itoa b).toArray⟩,.string s] 9))
   have hbX:Below w3.heap.size w3 X:=by rw [hX];exact zh w3 _
   have AX:StSt w S W1 (.slice none 0 0) ((qs.take k).map placeB) v X:=A3.later hbX
   have PX:PlcAt X P (a,b,s):=P3.same (hbX.block P P3.lt)
   have hXb:X.heap[w3.heap.size]? =some (.cells #[.string ⟨#[105,110]⟩,.string ⟨(Lib.itoa b).toArray⟩,.string s] 9 (0,0)):=by rw [hX];exact heap_alloc_new w3 _
   have htl:=tell_any X S a w3.heap.size 3 [⟨#[105,110]⟩,⟨(Lib.itoa b).toArray⟩,s] ((qs.take k).map placeB) v AX.st (fun j x hj=>by
     rw [vO]
     match j,hj with
     | 0,hj=>cases hj;simp [World.cell?,hXb]
     | 1,hj=>cases hj;simp [World.cell?,hXb]
     | 2,hj=>cases hj;simp [World.cell?,hXb]
     | n+3,hj=>simp at hj) (vn.1 hXb).1 zm zm (HT.o _ yS) (by have:=HF.o.lo;dsimp only at this;omega) (by have:=HF.o.hi;dsimp only at this;omega)
     (place_words HF.o) (by rw [ue,vP];omega)
   have hle:lineB a ([⟨#[105,110]⟩,⟨(Lib.itoa b).toArray⟩,s].map (fun x:ByteArray=>x.data.toList))=placeB (a,b,s):=rfl
   rw [hle] at htl
   have htl:=htl.mono (R':=fun e w4=>∃v',e= .returned (.tuple #[])/\PlcAt w4 P (a,b,s)/\Aside (StSt w S W1 (.slice none 0 0) ((qs.take k).map placeB++ [placeB (a,b,s)]) v' w4)) (fun e w4 ht4=>by
    obtain ⟨v',he,A4⟩:=AX.tell ht4
    obtain ⟨_,-,-,hk4,-⟩:=ht4
    exact ⟨v',he,PX.same (hk4.block P PX.lt (fun q=>by
     rcases q with q | q
     ·have:=HV.o.2.2.2;omega
     ·have:=HV.o.2.2.1 P q;omega)),A4⟩)
   clear hle AX hXb hbX A3
   refine wpAnyH_one (i:=8) zk rfl (fun K hK=> ?_)
   go_simp
   rw [<-hX]
   refine hK _ _ PX ?_
   clear hK K hX PX
   refine qn ?_
   refine wpAnyH_one (i:=9) zk rfl (fun K hK=> ?_)
   go_simp
   refine htl.mono ?_
   clear htl
   rintro e w4 ⟨v',rfl,P4,HA4⟩
   refine hK _ _ P4 ?_
   clear hK K P4
   refine wpAnyH_done zk ?_ _
   refine qn ?_
   go_wp2
   go_roundg (qs.length - (k+1))
   case measure=>omega
   case rel=>exact ⟨k+1,v',zL,zj,vm _,by rw [take_map _ _ hx.o];exact HA4.o⟩
  have d1:decide ((k:Int)<(qs.length:Int))=false:=zl
  have ek:qs.take k=qs:=vG zj
  rw [ek] at A1
  clear ek
  obtain ⟨nx,tx,t1,t2,t3,t4,t5⟩:=(HM.o.1.later xw).text
  have c7:=(HM.o.1.later xw).cell.c7
  have hky:=callsIn_wide.1 (keysT_in Fence.wide 3 trivial rfl (some bx) wr)
  obtain ⟨V,hV⟩:=za (wr.alloc (.cells #[.map (some bx)] 76))
  have hbV:Below wr.heap.size wr V:=by rw [hV];exact zh wr _
  have hbox:Boxed V wr.heap.size 76 (.map (some bx)):=by rw [hV];exact heap_alloc_new wr _
  have hsi:=sortedInts_any V wr.heap.size bx nx tx (vn.1 hbox).1 hbox.cell (t2.same (hbV.block bx t2.lt)) zj
  have H2:Aside (StSt w S W1 (.slice none 0 0) (qs.map placeB) v V/\(∀nd,(tx nd).isSome=true↔KnownN A nd)/\nx<=A.length):=⟨A1.o.later hbV,t4,t1⟩
  rw [<-hV] at hky
  clear t1 t2 t3 t4 t5 hV hbV hbox d1
  go_wp2_with fail
  refine hky.mono ?_
  clear hky
  rintro e w5 ⟨rfl,rfl⟩
  clear c7
  go_wp2_with fail
  refine hsi.mono ?_
  clear hsi
  rintro e W2 ⟨vk,ks,rfl,hrise,hmem,hkl,hrow,hb2⟩
  obtain ⟨ak,kc,rfl⟩:=rowIs hrow
  obtain ⟨tf,htf⟩:∃tf:Int->List UInt8,Aside (∀nd L,LineIs A nd L->tf nd=textL L):=texts_of A
  have HK:Aside (ks.Pairwise (· < ·)/\(∀nd,nd∈ks↔KnownN A nd)/\InRow encI1 W2 ak ks/\(∀g o,ak=some ⟨g,o,none⟩->g<W2.heap.size/\g≠S/\v.ownBlock≠some g)/\StSt w S W2 v (qs.map placeB) v W2):=by
   have h3:=H2.o.1.later hb2
   refine ⟨hrise,fun nd=>(hmem nd).trans (H2.o.2.1 nd),rowIn (enc:=encI1) encI1_len (by rw [flat_ints];exact hrow),fun g o e=> ?_,StSt.start h3.st h3.below⟩
   subst e
   have h4:=hrow.lt g rfl
   have h5:=H2.o.1.st.lt
   exact ⟨h4.2,zj,fun q=>by have:=(H2.o.1.st.row.lt g q).2;omega⟩
  have hks:ks.length<=300:=by have:=H2.o.2.2;omega
  clear hrise hmem hkl hrow hb2 A1 H2
  go_wp2
  go_loopg [41] ks.length (fun kx s41 wr=>∃(k:Nat) (u:Value),s41= .int .i64 (k:Int)/\k<=ks.length/\ks.length - k<=kx/\Aside (StSt w S W2 v (qs.map placeB++((((ks.take k).map fun nd=>(nd,tf nd)).filter fullT).map textB)) u wr))
  case atStart=>exact ⟨0,v,rfl,vD _,vm _,by show StSt w S W2 v _ v W2;simpa using HK.o.2.2.2.2⟩
  case round=>
   obtain ⟨k2,u,rfl,hk2,hkx2,A2⟩:=hrel
   by_cases hlt2:k2<ks.length
   ·have d2:decide ((k2:Int)<(ks.length:Int))=true:=by simp;omega
    have wk:((k2:Int)).toNat=k2:=zj
    have pk:(0:Int)<=(k2:Int):=zj
    have bk:(k2:Int)<(ks.length:Int):=zj
    obtain ⟨nd,hx⟩:∃x,Aside (ks[k2]? =some x):=⟨ks[k2],vj hlt2⟩
    obtain ⟨blk,off,hak,hc⟩:=(A2.o.inRow HK.o.2.2.1 HK.o.2.2.2.1).get encI1_len hx.o
    subst hak
    have r0:=hc 0 _ rfl
    simp only [ui,Nat.mul_one] at r0
    clear hc
    have hkn:KnownN A nd:=(HK.o.2.1 nd).1 (vx hx.o)
    have hnd:0<=nd/\nd<2^40:=by
     obtain ⟨x,hx,_,e2,_⟩:=hkn
     have q:=opE_zero (HM.o.2.2.well.ok x (HM.o.2.1.mem_iff.1 hx))
     have e3:x.2.2.2.2.1=nd:=e2
     have q1:0<=x.2.2.2.2.1:=q.2.2.2.2.2.2.2.1
     have q2:x.2.2.2.2.1<=x.1*4+x.2.1:=q.2.2.2.2.2.2.2.2.1
     have q3:x.1<=1073741824:=q.2.1
     have q4:x.2.1<4:=q.2.2.2.1
     omega
    have hmid:=HM.o.1.later xv
    have htx:=rtext_at wr c br T by_ kv bt bx bc A nd hmid.cell hmid.text zj zj zj
    have htx:=htx.mono (R':=fun e w6=>∃s,e= .returned (.string s)/\Aside (tf nd=s.data.toList/\s.size<=1000/\StSt w S W2 v (qs.map placeB++((((ks.take k2).map fun nd=>(nd,tf nd)).filter fullT).map textB)) u w6)) (fun e w6 q=>by
     obtain ⟨s,he,hti,hb6⟩:=q
     refine ⟨s,he,?_,?_,A2.o.later hb6⟩
     ·rcases hti with ⟨q,_⟩ | ⟨_,L,hL,hs⟩
      ·exact absurd hkn q
      ·rw [htf.o nd L hL,hs]
     ·rcases hti with ⟨q,_⟩ | ⟨_,L,hL,hs⟩
      ·exact absurd hkn q
      ·have h1:=textL_len L
       have h2:=hL.len
       have h3:s.data.toList.length=s.size:=zm
       rw [hs] at h3
       omega)
    have hnd0:=hnd.1
    have hnd1:=hnd.2
    obtain ⟨y,hy⟩:=za wr
    subst hy
    clear hmid hkn hnd
    go_wp2_with fail
    refine htx.mono ?_
    clear htx
    rintro e w6 ⟨s,rfl,H6⟩
    clear r0
    have hst:=H6.o.1
    have hsl:=H6.o.2.1
    have A6:=H6.o.2.2
    by_cases hs0:s.size=0
    ·have he:=emptyYes hs0
     have HA6:Aside (StSt w S W2 v (qs.map placeB++((((ks.take (k2+1)).map fun nd=>(nd,tf nd)).filter fullT).map textB)) u w6):=by
      show StSt w S W2 v _ u w6
      rw [take_map _ _ hx.o,uD]
      have:fullT (nd,tf nd)=false:=by
       have h3:s.data.toList.length=s.size:=zm
       unfold fullT
       rw [hst]
       simp only [ne_eq,decide_not,Bool.not_eq_false',decide_eq_true_eq]
       exact vM.1 zj
      simp only [List.filter_cons,this,List.filter_nil]
      simpa using A6
     clear A6 A2
     go_wp2
     go_roundg (ks.length - (k2+1))
     case measure=>omega
     case rel=>exact ⟨k2+1,u,zL,zj,vm _,HA6.o⟩
    have he:=emptyNo hs0
    obtain ⟨X,hX⟩:=za (w6.alloc (.cells #[.string ⟨#[116,101,120,116]⟩,.string s] 9))
    have hbX:Below w6.heap.size w6 X:=by rw [hX];exact zh w6 _
    have AX:=A6.later hbX
    have hXb:X.heap[w6.heap.size]? =some (.cells #[.string ⟨#[116,101,120,116]⟩,.string s] 9 (0,0)):=by rw [hX];exact heap_alloc_new w6 _
    have htl:=tell_any X S nd w6.heap.size 2 [⟨#[116,101,120,116]⟩,s] (qs.map placeB++((((ks.take k2).map fun nd=>(nd,tf nd)).filter fullT).map textB)) u AX.st (fun j x hj=>by
      rw [vO]
      match j,hj with
      | 0,hj=>cases hj;simp [World.cell?,hXb]
      | 1,hj=>cases hj;simp [World.cell?,hXb]
      | n+2,hj=>simp at hj) (vn.1 hXb).1 zm zm (HT.o _ yS) zj zj
      (by simp only [ug,uS,Lib.join_length,Lib.lens,vH,vT,Zm,ZF];have:s.data.toList.length=s.size:=zm;omega) (by
       have h1:((((ks.take k2).map fun nd=>(nd,tf nd)).filter fullT).map textB).length<=ks.length:=by
        rw [ue]
        refine vr (uH _ _) ?_
        rw [ue,vP]
        omega
       rw [vw,ue]
       omega)
    have hle:lineB nd ([⟨#[116,101,120,116]⟩,s].map (fun x:ByteArray=>x.data.toList))=textB (nd,tf nd):=by rw [hst];rfl
    rw [hle] at htl
    have hfull:fullT (nd,tf nd)=true:=by
     have h3:s.data.toList.length=s.size:=zm
     unfold fullT
     rw [hst]
     simp only [ne_eq,decide_not,Bool.not_eq_true',decide_eq_false_iff_not]
     intro q
     rw [q] at h3
     simp at h3
     omega
    have htl:=htl.mono (R':=fun e w7=>∃u',e= .returned (.tuple #[])/\Aside (StSt w S W2 v (qs.map placeB++((((ks.take (k2+1)).map fun nd=>(nd,tf nd)).filter fullT).map textB)) u' w7)) (fun e w7 ht7=>by
     obtain ⟨u',he,A7⟩:=AX.tell ht7
     refine ⟨u',he,?_⟩
     show StSt w S W2 v _ u' w7
     rw [take_map _ _ hx.o,uD]
     simp only [List.filter_cons,hfull,List.filter_nil,uq,ug,uS,if_true]
     rw [<-vR]
     exact A7)
    clear hle AX hXb hbX A6 A2 hfull
    go_wp2_with fail
    rw [<-hX]
    refine htl.mono ?_
    clear htl hX
    rintro e w7 ⟨u',rfl,HA7⟩
    go_wp2
    go_roundg (ks.length - (k2+1))
    case measure=>omega
    case rel=>exact ⟨k2+1,u',zL,zj,vm _,HA7.o⟩
   have d2:decide ((k2:Int)<(ks.length:Int))=false:=zl
   have ek:ks.take k2=ks:=vG zj
   rw [ek] at A2
   clear ek
   obtain ⟨ts,hts⟩:=za (ks.map fun nd=>(nd,tf nd))
   rw [<-hts] at A2
   have hIT:IsTexts A ts:=by
    refine ⟨?_,fun nd=> ?_,fun t ht=> ?_⟩
    ·rw [hts,List.pairwise_map];exact HK.o.1
    ·rw [hts,List.map_map]
     have:ks.map ((fun x:Int×List UInt8=>x.1)∘fun nd=>(nd,tf nd))=ks:=(uO (fun _ _=>rfl)).trans (List.map_id ks)
     rw [this]
     exact HK.o.2.1 nd
    rw [hts] at ht
    obtain ⟨nd,hnd,rfl⟩:=vV.1 ht
    obtain ⟨_,tx',_,_,_,q4,q5⟩:=HM.o.1.text
    obtain ⟨p,hp⟩:=Zf.1 ((q4 nd).2 ((HK.o.2.1 nd).1 hnd))
    obtain ⟨_,L,_,hL,_⟩:=q5 nd p hp
    exact ⟨L,hL,htf.o nd L hL⟩
   have htsl:ts.length<=300:=by rw [hts,ue];exact hks
   have htl:∀t∈ts,t.2.length<=1000:=fun t ht=>by
    obtain ⟨L,hL,e⟩:=hIT.line t ht
    have h1:=textL_len L
    have h2:=hL.len
    rw [e]
    omega
   have htn:∀t∈ts,0<=t.1/\t.1<2^40:=fun t ht=>by
    obtain ⟨x,hx,_,e2,_⟩:=(hIT.mem t.1).1 (vV.2 ⟨t,ht,rfl⟩)
    have q:=opE_zero (HM.o.2.2.well.ok x (HM.o.2.1.mem_iff.1 hx))
    have e3:x.2.2.2.2.1=t.1:=e2
    have q1:0<=x.2.2.2.2.1:=q.2.2.2.2.2.2.2.1
    have q2:x.2.2.2.2.1<=x.1*4+x.2.1:=q.2.2.2.2.2.2.2.2.1
    have q3:x.1<=1073741824:=q.2.1
    have q4:x.2.1<4:=q.2.2.2.1
    omega
   have HTS:Aside (IsTexts A ts/\(∀t∈ts,t.2.length<=1000)/\(∀t∈ts,0<=t.1/\t.1<2^40)):=⟨hIT,htl,htn⟩
   obtain ⟨LS,hLS⟩:=za (qs.map placeB++(ts.filter fullT).map textB)
   rw [<-hLS] at A2
   have hLSl:LS.length<=90300:=by
    rw [hLS,vw,ue,ue]
    have:=uH fullT ts
    omega
   have hmid:=HM.o.1.later xv
   obtain ⟨cm,A',m1,m2,m3,m4⟩:=hmid.marks
   have hmk:=marks_new wr bc cm A.length (madeO A') m1 zj
   have c8:=hmid.cell.c8
   have HLS:Aside (LS=qs.map placeB++(ts.filter fullT).map textB/\A'.Perm A):=⟨hLS,m2⟩
   obtain ⟨y,hy⟩:=za wr
   subst hy
   clear hts hIT htl htn hLS hmid m1 m2 m3 m4 HK htf
   go_wp2_with fail
   refine hmk.mono ?_
   clear hmk c8
   rintro e W3 ⟨am,mc,mm,rfl,hIM,hmml,hmin,hb3,hnew3⟩
   have HMM:Aside (IsMarks (madeO A') mm/\InRow cellsM W3 am mm/\(∀g o,am=some ⟨g,o,none⟩->mm≠ []->g<W3.heap.size/\g≠S/\u.ownBlock≠some g)/\StSt w S W3 u LS u W3):=by
    have h3:=A2.o.later hb3
    refine ⟨hIM,hmin,fun g o e hne=>⟨inRow_lt cellsM_len zj hmin hne e,?_,fun q=> ?_⟩,StSt.start h3.st h3.below⟩
    ·have:=hnew3 g o e
     have:=A2.o.st.lt
     omega
    have h4:=hnew3 g o e
    have:=(A2.o.st.row.lt g q).2
    omega
   have hmm3:mm.length<=300:=zj
   clear hIM hmml hmin hb3 hnew3 A2
   go_wp2
   go_loopg [62] mm.length (fun kx s62 wr=>∃(k:Nat) (z:Value),s62= .int .i64 (k:Int)/\k<=mm.length/\mm.length - k<=kx/\Aside (StSt w S W3 u (LS++(mm.take k).map markB) z wr))
   case atStart=>exact ⟨0,u,rfl,vD _,vm _,by show StSt w S W3 u _ u W3;simpa using HMM.o.2.2.2⟩
   case round=>
    obtain ⟨k3,z,rfl,hk3,hkx3,A3⟩:=hrel
    by_cases hlt3:k3<mm.length
    ·have d3:decide ((k3:Int)<(mm.length:Int))=true:=by simp;omega
     have wk:((k3:Int)).toNat=k3:=zj
     have pk:(0:Int)<=(k3:Int):=zj
     have bk:(k3:Int)<(mm.length:Int):=zj
     obtain ⟨⟨nd,nm',vl⟩,hx⟩:∃x,Aside (mm[k3]? =some x):=⟨mm[k3],vj hlt3⟩
     have hmne:mm≠ []:=fun q=>by rw [q] at hlt3;simp at hlt3
     obtain ⟨blk,off,ham,hc⟩:=(A3.o.inRow HMM.o.2.1 (fun g o e=>HMM.o.2.2.1 g o e hmne)).get cellsM_len hx.o
     subst ham
     have r0:=hc 0 _ rfl
     have r1:=hc 1 _ rfl
     have r2:=hc 2 _ rfl
     simp only [ui] at r0
     clear hc hmne
     have hmo:=mark_of HMM.o.1 (vx hx.o)
     dsimp only at hmo
     obtain ⟨Y,hY⟩:=za (wr.alloc (.cells #[.int .i64 nd,.string nm',.string vl] 107))
     have hbY:Below wr.heap.size wr Y:=by rw [hY];exact zh wr _
     have hYb:Y.heap[wr.heap.size]? =some (.cells #[.int .i64 nd,.string nm',.string vl] 107 (0,0)):=by rw [hY];exact heap_alloc_new wr _
     have y0:Y.cell? ⟨wr.heap.size,0,none⟩=some (.int .i64 nd):=jt
     have y1:Y.cell? ⟨wr.heap.size,1,none⟩=some (.string nm'):=jt
     have y2:Y.cell? ⟨wr.heap.size,2,none⟩=some (.string vl):=jt
     obtain ⟨X,hX⟩:=za (Y.alloc (.cells #[.string ⟨#[109,97,114,107]⟩,.string nm',.string vl] 9))
     have hbX:Below Y.heap.size Y X:=by rw [hX];exact zh Y _
     have AX:=(A3.o.later hbY).later hbX
     have hXb:X.heap[Y.heap.size]? =some (.cells #[.string ⟨#[109,97,114,107]⟩,.string nm',.string vl] 9 (0,0)):=by rw [hX];exact heap_alloc_new Y _
     have htl:=tell_any X S nd Y.heap.size 3 [⟨#[109,97,114,107]⟩,nm',vl] (LS++(mm.take k3).map markB) z AX.st (fun j x hj=>by
       rw [vO]
       match j,hj with
       | 0,hj=>cases hj;simp [World.cell?,hXb]
       | 1,hj=>cases hj;simp [World.cell?,hXb]
       | 2,hj=>cases hj;simp [World.cell?,hXb]
       | n+3,hj=>simp at hj) (vn.1 hXb).1 zm zm (HT.o _ yS) zj zj
       (by simp only [ug,uS,Lib.join_length,Lib.lens,vH,vT,Zm,ZF];have q1:nm'.data.toList.length=nm'.size:=zm;have q2:vl.data.toList.length=vl.size:=zm;omega) (by rw [vw,ue,vP];omega)
     have hle:lineB nd ([⟨#[109,97,114,107]⟩,nm',vl].map (fun x:ByteArray=>x.data.toList))=markB (nd,nm',vl):=rfl
     rw [hle] at htl
     have htl:=htl.mono (R':=fun e w7=>∃z',e= .returned (.tuple #[])/\Aside (StSt w S W3 u (LS++(mm.take (k3+1)).map markB) z' w7)) (fun e w7 ht7=>by
      obtain ⟨z',he,A7⟩:=AX.tell ht7
      refine ⟨z',he,?_⟩
      show StSt w S W3 u _ z' w7
      rw [take_map _ _ hx.o,<-vR]
      exact A7)
     have HY:Aside (Y.heap.size=wr.heap.size+1):=by show Y.heap.size=_;rw [hY];simp
     obtain ⟨y,hy⟩:=za wr
     subst hy
     clear hle AX hXb hbX hbY hYb A3 hmo d2
     go_upto_region 18 with fail
     rw [<-hY]
     clear hY r0 r1 r2
     go_wp2_with fail
     rw [<-hX]
     refine htl.mono ?_
     clear htl hX
     rintro e w7 ⟨z',rfl,HA7⟩
     clear y0 y1 y2
     go_wp2
     go_roundg (mm.length - (k3+1))
     case measure=>omega
     case rel=>exact ⟨k3+1,z',zL,zj,vm _,HA7.o⟩
    have d3:decide ((k3:Int)<(mm.length:Int))=false:=zl
    have ek:mm.take k3=mm:=vG zj
    rw [ek] at A3
    clear ek
    have hjl:=joinLines wr S (LS++mm.map markB) z A3.o.st (by rw [vw,ue];omega) (fun l hl=>by
     have hIP:=HQ.o.1
     rcases vv.1 hl with hl | hl
     ·rw [HLS.o.1] at hl
      rcases vv.1 hl with hl | hl
      ·obtain ⟨p,hp,rfl⟩:=vV.1 hl
       exact place_len (HMS.o.2.2.fine _ _ ((HQ.o.1.mem p).1 hp))
      ·obtain ⟨t,ht,rfl⟩:=vV.1 hl
       have ht':=(Zh.1 ht).1
       exact text_len (HTS.o.2.1 t ht') (HTS.o.2.2 t ht').1 (HTS.o.2.2 t ht').2
     ·obtain ⟨m,hm,rfl⟩:=vV.1 hl
      exact mark_len (mark_of HMM.o.1 hm))
    have z0:=A3.o.st.box.cell
    have HFIN:Aside (StateIs (allR R) (Lib.join (LS++mm.map markB) [10])):=by
     refine StateIs.perm (A:=A) ⟨ms,qs,ts,A',mm,HMS.o.1,HMS.o.2.1,HQ.o.1,HTS.o.1,HLS.o.2,HMM.o.1,?_⟩ HM.o.2.1
     unfold linesB
     rw [HLS.o.1]
    have HB:Aside (Below w.heap.size w wr):=by have:=A3.o.below;rw [HU.o.2.2.2] at this;exact this
    obtain ⟨y,hy⟩:=za wr
    subst hy
    clear A3 d2
    go_wp2_with fail
    refine hjl.mono ?_
    clear hjl
    rintro e w9 ⟨rfl,hb9⟩
    have HB9:Aside (Below w.heap.size w w9):=zi HB.o hb9
    clear hb9
    go_wp2
    go_ret
    exact ⟨_,rfl,HFIN.o,HB9.o⟩
end
section
open Go.RowKit Go.Lib Go.Sort Go.Maps
def AllOut (w:World) (R:Rws) (e:Ending) (w':World):Prop:=∃v ys,e= .returned v/\OpsAt w' v ys/\StableOf (allR R) ys/\Below w.heap.size w w'/\∀g,v.ownBlock=some g->w.heap.size<=g
theorem kall_any (w:World) (ao:Nat->Option Addr) (cap:Nat->Nat) (R:Rws) (hK:KnownAt w ao R) (hnil:∀i,i<4->ao i=none->cap i=0) (hn:(allR R).length<=1000):
  Calls prog 30 #[kV ao cap R] w (AllOut w R):=by
 obtain ⟨W,hW⟩:=za (w.alloc (.cells #[.slice (ao 0) (R 0).length (cap 0),.slice (ao 1) (R 1).length (cap 1),.slice (ao 2) (R 2).length (cap 2),.slice (ao 3) (R 3).length (cap 3)] 74 (0,0)))
 have hb:Below w.heap.size w W:=by rw [hW];exact zh w _
 have hbox:KBox W w.heap.size ao cap R:=by rw [hW];exact heap_alloc_new w _
 have hcat:=concat_any W w.heap.size ao cap R hbox (hK.later hb) hnil hn
 have H:Aside (W=w.alloc (.cells #[.slice (ao 0) (R 0).length (cap 0),.slice (ao 1) (R 1).length (cap 1),.slice (ao 2) (R 2).length (cap 2),.slice (ao 3) (R 3).length (cap 3)] 74 (0,0))/\Below w.heap.size w W/\(allR R).length<=1000):=⟨hW,hb,hn⟩
 clear hW hb hbox hK hnil hn
 unfold kV
 go_enter func30,ntmps30
 go_wp2_with fail
 rw [<-H.o.1]
 refine hcat.mono ?_
 clear hcat
 rintro e w1 ⟨v1,rfl,ho1,hb1⟩
 have hs:=opSort_new w1 v1 (allR R) (ownsOps ho1) H.o.2.2
 have H1:Aside (Below w.heap.size w w1):=zi H.o.2.1 hb1
 clear ho1 hb1 H
 go_wp2_with fail
 refine hs.mono ?_
 clear hs
 rintro e w2 ⟨v2,ys,rfl,h1,h2,h3,h4⟩
 have H2:Aside (OpsAt w2 v2 ys/\StableOf (allR R) ys/\Below w.heap.size w w2/\∀g,v2.ownBlock=some g->w.heap.size<=g):=⟨h1,h2,zi H1.o h3,fun g hg=>vr H1.o.size (h4 g hg)⟩
 clear h1 h2 h3 h4 H1
 go_wp2
 go_ret
 exact ⟨_,_,rfl,H2.o⟩
theorem rows_nil {c:Nat->Nat} {ao:Nat->Option Addr} {cap:Nat->Nat} {R:Rws} (h:RowsAt w c (kvs ao cap R) R):∀i,i<4->ao i=none->cap i=0:=fun i hi e=>by
 obtain ⟨-,h2⟩:=(h i hi).1
 unfold kvs at h2
 rcases h2 with q | ⟨b,cp,_,q,_⟩
 ·have:=q.1
  simp only [Value.slice.injEq] at this
  exact this.2.2
 simp only [Value.slice.injEq] at q
 rw [q.1] at e
 cases e
theorem rops_any (w:World) (c:Nat->Nat) (br:Nat) (by_:Int) (R:Rws) (h:RepAt w c br by_ R) (hn:(allR R).length<=1000):
  Calls prog 14 #[.pointer (some ⟨br,0,none⟩)] w (AllOut w R):=by
 obtain ⟨T,kv,bt,bx,bc,A,hm,hp,hK,hb⟩:=h
 obtain ⟨ao,cap,hM⟩:=hm.norm
 have hall:=kall_any w ao cap R (KnownAt.of_rows hM.rows) (rows_nil hM.rows) hn
 unfold kV at hall
 have k2:w.cell? ⟨br,2,none⟩=some (.slice (ao 0) (R 0).length (cap 0)):=hM.cell.c2
 have k3:w.cell? ⟨br,3,none⟩=some (.slice (ao 1) (R 1).length (cap 1)):=hM.cell.c3
 have k4:w.cell? ⟨br,4,none⟩=some (.slice (ao 2) (R 2).length (cap 2)):=hM.cell.c4
 have k5:w.cell? ⟨br,5,none⟩=some (.slice (ao 3) (R 3).length (cap 3)):=hM.cell.c5
 clear hm hM hp hK hb hn
 go_enter func14,ntmps14
 go_wp2_with fail
 refine hall.mono ?_
 clear hall
 rintro e w2 ⟨v2,ys,rfl,h2⟩
 have H2:Aside (OpsAt w2 v2 ys/\StableOf (allR R) ys/\Below w.heap.size w w2/\∀g,v2.ownBlock=some g->w.heap.size<=g):=h2
 clear h2
 go_wp2
 go_ret
 exact ⟨_,_,rfl,H2.o⟩
theorem rvector_any (w:World) (c:Nat->Nat) (br:Nat) (by_:Int) (R:Rws) (h:RepAt w c br by_ R) (hn:(allR R).length<=1000):
  Calls prog 10 #[.pointer (some ⟨br,0,none⟩)] w fun e w'=>e= .returned (.agg #[.int .i64 ((R 0).length:Int),.int .i64 ((R 1).length:Int),.int .i64 ((R 2).length:Int),.int .i64 ((R 3).length:Int)])/\Below w.heap.size w w':=by
 obtain ⟨T,kv,bt,bx,bc,A,hm,hp,hK,hb⟩:=h
 obtain ⟨ao,cap,hM⟩:=hm.norm
 obtain ⟨U,hU⟩:=za (w.alloc (.cells #[.int .i64 0,.int .i64 0,.int .i64 0,.int .i64 0] 32 (0,0)))
 have hbU:Below w.heap.size w U:=zP
 have hc:RepCell U br T by_ (kvs ao cap R) bt bx bc:=hM.cell.same (hbU.block _ hM.cell.lt)
 have hv:U.heap[w.heap.size]? =some (.cells #[.int .i64 0,.int .i64 0,.int .i64 0,.int .i64 0] 32 (0,0)):=by rw [hU];exact heap_alloc_new w _
 have hall:=kvector_any U ao cap R (fun i hi=>vr (row_le R hi) hn)
 unfold kV at hall
 have k2:U.cell? ⟨br,2,none⟩=some (.slice (ao 0) (R 0).length (cap 0)):=hc.c2
 have k3:U.cell? ⟨br,3,none⟩=some (.slice (ao 1) (R 1).length (cap 1)):=hc.c3
 have k4:U.cell? ⟨br,4,none⟩=some (.slice (ao 2) (R 2).length (cap 2)):=hc.c4
 have k5:U.cell? ⟨br,5,none⟩=some (.slice (ao 3) (R 3).length (cap 3)):=hc.c5
 have HU:Aside (U=w.alloc (.cells #[.int .i64 0,.int .i64 0,.int .i64 0,.int .i64 0] 32 (0,0))/\Below w.heap.size w U/\U.heap[w.heap.size]? =some (.cells #[.int .i64 0,.int .i64 0,.int .i64 0,.int .i64 0] 32 (0,0))):=⟨hU,hbU,hv⟩
 clear hm hM hp hK hb hn hc hU hbU hv
 go_enter func10,ntmps10
 go_upto_region 1 with fail
 rw [<-HU.o.1]
 go_wp2_with fail
 refine hall.mono ?_
 clear hall
 rintro e w2 ⟨rfl,h2⟩
 have hv2:=(h2.block w.heap.size (vn.1 HU.o.2.2).1).trans HU.o.2.2
 have s0:w2.cell? ⟨w.heap.size,0,none⟩=some (.int .i64 0):=yK
 have s1:w2.cell? ⟨w.heap.size,1,none⟩=some (.int .i64 0):=yK
 have s2:w2.cell? ⟨w.heap.size,2,none⟩=some (.int .i64 0):=yK
 have s3:w2.cell? ⟨w.heap.size,3,none⟩=some (.int .i64 0):=yK
 have z:∀o,w2.frozen? ⟨w.heap.size,o,none⟩=false:=fun o=>by simp [World.frozen?,hv2]
 have H2:Aside (Below w.heap.size w w2):=zi HU.o.2.1 h2
 clear h2 hv2 HU k2 k3 k4 k5
 go_wp2
 (try simp only [Exit.inBlock,Exit.then])
 refine bodyPost_ret (v:=.agg #[.int .i64 ((R 0).length:Int),.int .i64 ((R 1).length:Int),.int .i64 ((R 2).length:Int),.int .i64 ((R 3).length:Int)]) ?_ rfl ⟨rfl,?_⟩
 ·rw [results_c rfl]
  go_simp
 exact (((H2.o.setCell zg _).setCell zg _).setCell zg _).setCell zg _
end
section
open Go.RowKit Go.Lib Go.Sort Go.Maps
def VecBlk (w:World) (b:Nat) (v:Nat->Int):Prop:=w.heap[b]? =some (.cells #[.int .i64 (v 0),.int .i64 (v 1),.int .i64 (v 2),.int .i64 (v 3)] 32 (0,0))
theorem VecBlk.lt {v:Nat->Int} (h:VecBlk w b v):b<w.heap.size:=(vn.1 h).1
theorem VecBlk.later {v:Nat->Int} (h:VecBlk w b v) (hb:Below w.heap.size w w'):VecBlk w' b v:=(hb.block b h.lt).trans h
theorem VecBlk.at {v:Nat->Int} (h:VecBlk w b v) (hi:i<4):w.cell? ⟨b,i,none⟩=some (.int .i64 (v i)):=by
 unfold VecBlk at h
 match i,hi with
 | 0,_=>simp [World.cell?,h]
 | 1,_=>simp [World.cell?,h]
 | 2,_=>simp [World.cell?,h]
 | 3,_=>simp [World.cell?,h]
def heldV (v:Nat->Int) (x:OpX):Bool:=decide (x.2.2.1<=v x.2.1.toNat)
theorem diffFn_any (w:World) (b:Nat) (v:Nat->Int) (x:OpX) (hv:VecBlk w b v) (i:Nat) (hi:i<4) (hx:x.2.1=(i:Int)):
  Calls prog 59 #[encO x,.pointer (some ⟨b,0,none⟩)] w fun e w'=>e= .returned (.bool (heldV v x))/\Below w.heap.size w w':=by
 obtain ⟨t,by_,m,kd,nd,o,s,u⟩:=x
 simp only at hx
 subst hx
 have hvl:=hv.lt
 have hb:Below w.heap.size w (w.alloc (.cells #[.int .i64 t,.int .i64 (i:Int),.int .i64 m,.int .u8 (kd:Int),.int .i64 nd,.int .i64 o,.string s,.string u] 41)):=zh w _
 have q:=(hv.later hb).at hi
 have ei:((i:Int)).toNat=i:=zj
 have i4:((i:Int)<4):=zj
 have i0:(0:Int)<=(i:Int):=zj
 have HB:Aside (Below w.heap.size w (w.alloc (.cells #[.int .i64 t,.int .i64 (i:Int),.int .i64 m,.int .u8 (kd:Int),.int .i64 nd,.int .i64 o,.string s,.string u] 41))):=hb
 have HH:Aside (heldV v (t,(i:Int),m,kd,nd,o,s,u)=decide (m<=v i)):=by show decide (m<=v ((i:Int)).toNat)=_;rw [ei]
 clear hb hv
 unfold encO
 dsimp only
 rw [HH.o]
 go_enter func59,ntmps59
 go_wp2_with fail
 go_quiet (fail)
 go_wp2
 go_ret
 exact ⟨rfl,Go.below_drewN HB.o _⟩
end
section
open Go.RowKit Go.Lib Go.Sort Go.Maps
structure OwnAt (w:World) (g:Nat) (ys:List OpX):Prop where
 cell:∀j u,(cellsOf ys)[j]? =some u->w.cell? ⟨g,j,none⟩=some u
 free:∀j,j<ys.length*8->w.frozen? ⟨g,j,none⟩=false
theorem OwnAt.has (h:OwnAt w g ys) (hj:j<ys.length*8):(w.cell? ⟨g,j,none⟩).isSome=true:=by
 have hl:j<(cellsOf ys).length:=jd
 rw [h.cell j _ (vj hl)]
 rfl
theorem OwnAt.at (h:OwnAt w g ys) (hi:ys[i]? =some x) {c:Nat} {u:Value} (hc:(encX x)[c]? =some u):w.cell? ⟨g,i*8+c,none⟩=some u:=by
 have hl:i<ys.length:=(vi.1 hi).1
 have h8:c<8:=by have:=(vi.1 hc).1;rw [encX_len] at this;exact this
 refine h.cell _ _ ?_
 have h8':c<(encX x).length:=by rw [encX_len];exact h8
 rw [cellsOf_get ys i c hl h8,getElem!_pos ys i hl,(vi.1 hi).2,getElem!_pos (encX x) c h8']
 rw [vj h8'] at hc
 exact hc
theorem OwnAt.same (h:OwnAt w g ys) (e:w'.heap[g]? =w.heap[g]?):OwnAt w' g ys:=
 ⟨fun j u hj=>by have:=h.cell j u hj;simp only [World.cell?] at this |-;rw [e];exact this,fun j hj=>by have:=h.free j hj;simp only [World.frozen?] at this |-;rw [e];exact this⟩
theorem OwnAt.set {w:World} {g:Nat} {cs:List OpX} (h:OwnAt w g cs) {i:Nat} (hi:i<cs.length) (x:OpX):OwnAt (w.setCells g (i*8) (encX x)) g (cs.set i x):=by
 constructor
 ·intro j u hj
  have hl:j<(cellsOf (cs.set i x)).length:=(vi.1 hj).1
  rw [cellsOf_len,Zo] at hl
  have h2:j / 8*8+j % 8=j:=zj
  have c:=cellsOf_get (cs.set i x) (j / 8) (j % 8) (by rw [Zo];omega) zj
  rw [h2,hj] at c
  have hq:j / 8<(cs.set i x).length:=by rw [Zo];omega
  rw [getElem!_pos (cs.set i x) (j / 8) hq,List.getElem_set] at c
  by_cases e:i=j / 8
  ·rw [if_pos e] at c
   have hr:j % 8<(encX x).length:=by rw [encX_len];omega
   have k:=World.cell?_setCells_in g (encX x) (i*8) w (fun q hq'=>h.has (by rw [encX_len] at hq';omega)) (j % 8) hr
   rw [show i*8+j % 8=j by omega] at k
   rw [k]
   rw [getElem!_pos (encX x) (j % 8) hr] at c
   exact c.symm
  rw [if_neg e] at c
  rw [uL g (encX x) (i*8) w ⟨g,j,none⟩ (fun _ _=>by rw [encX_len];show j<i*8\/i*8+8<=j;omega)]
  refine h.cell j u ?_
  rw [<-h2,cellsOf_get cs (j / 8) (j % 8) zj zj,getElem!_pos cs (j / 8) zj]
  exact c.symm
 intro j hj
 rw [uU]
 exact h.free j (by rw [Zo] at hj;exact hj)
theorem run_clear_cells {P:Program} (w:World) (t e ty:TypeId) (z:Value) (ht:P.underlying t=some (.slice e)) (hv:∀w,(zeroValue e).run P w= .ok z w) (b o n c:Nat) (hn:0<n)
  (h1:∀v∈(Builtin.zeroCells z.cells n).toList,v.oneCell'=true) (hc:∀j,j<n*z.cells.size->(w.cell? ⟨b,o+j,none⟩).isSome=true) (hf:∀j,j<n*z.cells.size->w.frozen? ⟨b,o+j,none⟩=false):
  (Builtin.clear_ #[t] ty #[.slice (some ⟨b,o,none⟩) n c]).run P w= .ok (.tuple #[]) (w.setCells b o (Builtin.zeroCells z.cells n).toList):=by
 have hsz:(Builtin.zeroCells z.cells n).toList.length=n*z.cells.size:=by rw [uk,size_zeroCells]
 have hst:=run_storeCells_cells (P:=P) b o (Builtin.zeroCells z.cells n).toList 0 w (by rw [hsz];simpa using hc) (by rw [hsz];simpa using hf) h1
 simp only [ui] at hst
 obtain ⟨m,rfl⟩:∃m,n=m+1:=⟨n - 1,zj⟩
 simp [Builtin.clear_,run_underlying ht,hv,hst]
end
section
open Go.RowKit Go.Lib Go.Sort Go.Maps
def PredB (g:Nat) (lb:Array Value) (xs:List OpX) (p:OpX->Bool) (base:Nat) (w:World):Prop:=
 ∀(W:World) (x:OpX),x∈xs->Below base w W->Calls prog g (#[encO x]++lb) W fun e w'=>e= .returned (.bool (p x))/\Below W.heap.size W w'
theorem PredB.toO {lb:Array Value} {xs:List OpX} {base:Nat} (h:PredB g lb xs p base w) (hb:base<=w.heap.size):PredO g lb xs p w:=fun W x hx hW=>(h W x hx (hW.mono hb)).mono (by rintro e w' ⟨rfl,q⟩;exact ⟨rfl,zi hW q⟩)
theorem OwnAt.ops (h:OwnAt w g ys):OpsIn w (some ⟨g,0,none⟩) ys:=.inr ⟨g,0,rfl,fun j u hj=>by rw [vO];exact h.cell j u hj⟩
theorem OwnAt.take {w:World} {g:Nat} {cs:List OpX} (h:OwnAt w g cs) {i:Nat} (hi:i<=cs.length) (vs:List Value):OwnAt (w.setCells g (i*8) vs) g (cs.take i):=by
 have hlen:(cs.take i).length=i:=zl
 constructor
 ·intro j u hj
  have hl:j<(cellsOf (cs.take i)).length:=(vi.1 hj).1
  rw [cellsOf_len,hlen] at hl
  rw [uL g vs (i*8) w ⟨g,j,none⟩ (fun _ _=>.inl (by show j<i*8;omega))]
  refine h.cell j u ?_
  have e:cellsOf cs=cellsOf (cs.take i)++cellsOf (cs.drop i):=by rw [<-cellsOf_app,vX]
  rw [e,Zd (by rw [cellsOf_len,hlen];omega)]
  exact hj
 intro j hj
 rw [hlen] at hj
 rw [uU]
 exact h.free j zj
structure DelSt (p:OpX->Bool) (ys:List OpX) (i j:Nat) (cs:List OpX):Prop where
 lt:i<j
 le:j<=ys.length
 len:cs.length=ys.length
 stay:cs.take i=(ys.take j).filter (fun x=> !p x)
 rest:cs.drop j=ys.drop j
theorem DelSt.start (hx:ys[k]? =some x) (hp:p x=true) (hk:∀j y,j<k->ys[j]? =some y->p y=false):DelSt p ys k (k+1) ys:=by
 have hl:k<ys.length:=(vi.1 hx).1
 refine ⟨zj,zj,rfl,?_,rfl⟩
 rw [ut,hx,uD]
 have e1:(ys.take k).filter (fun x=> !p x)=ys.take k:=Zp.2 (fun a ha=>by
  obtain ⟨q,hq,e⟩:=uB ha
  rw [vP] at hq
  rw [List.getElem_take] at e
  rw [hk q a zj (by rw [<-e];exact vj zj)]
  rfl)
 rw [e1]
 simp [hp]
theorem DelSt.get (h:DelSt p ys i j cs) (hx:ys[j]? =some x):cs[j]? =some x:=by
 have:=congrArg (fun l=>l[0]?) h.rest
 simp only [uw,ui] at this
 rw [this,hx]
theorem DelSt.skip (h:DelSt p ys i j cs) (hx:ys[j]? =some x) (hp:p x=true):DelSt p ys i (j+1) cs:=by
 have hl:j<ys.length:=(vi.1 hx).1
 refine ⟨by have:=h.lt;omega,zj,h.len,?_,?_⟩
 ·rw [ut,hx,uD,h.stay]
  simp [hp]
 have:=congrArg (List.drop 1) h.rest
 simpa [List.drop_drop,Nat.add_comm] using this
theorem DelSt.keep (h:DelSt p ys i j cs) (hx:ys[j]? =some x) (hp:p x=false):DelSt p ys (i+1) (j+1) (cs.set i x):=by
 have hl:j<ys.length:=(vi.1 hx).1
 have hlt:=h.lt
 have hlen:=h.len
 refine ⟨zj,zj,by rw [Zo];exact h.len,?_,?_⟩
 ·rw [ut (l:=ys),hx,uD,<-h.stay,ut,ZC zj,List.take_set_of_le zg]
  simp [hp]
 rw [List.drop_set_of_lt zj]
 have:=congrArg (List.drop 1) h.rest
 simpa [List.drop_drop,Nat.add_comm] using this
end
section
open Go.RowKit Go.Lib Go.Sort Go.Maps
theorem heap_al (w:World) (o:Obj):(w.alloc o).heap=w.heap.push o:=rfl
theorem heap_dr (w:World):w.drew.heap=w.heap:=rfl
theorem rnew_ok (w:World) (b:Int) (h0:0<=b) (h4:b<4):
  Calls prog 46 #[.int .i64 b] w (NewOut w b):=by
 have hmm:= @run_makeMap prog
 have hc:=new_ok b w h0 h4
 go_enter func46,ntmps46
 go_wp2_with fail
 refine hc.mono ?_
 clear hc
 rintro e w1 ⟨rfl,rfl⟩
 go_upto_region 4 with fail
 go_region_with (first | (go_at_call 79;refine (treeNew _).mono ?_;rintro e w' ⟨rfl,rfl⟩) | (go_at_call 80;refine (cellsNew _).mono ?_;rintro e w' ⟨rfl,rfl⟩))
 all_goals (go_wp2;go_ret2)
 all_goals (first
  | (refine new_close h0 h4 (w.heap.size+1+1) (w.heap.size+1) (w.heap.size+1+1+1+1+1) (w.heap.size+1+1+1+1) (w.heap.size+1+1+1) (w.heap.size+1+1+1+1+1+1) ?_ zj zj zj zj zj zj zj zj zj zj zj ?_ ?_ ?_ ?_ ?_ ?_;all_goals (first | (simp only [heap_al,heap_dr,Array.getElem?_push,Array.size_push];(try (repeat first | rw [if_pos trivial] | rw [if_neg zj] | rfl));done) | ((repeat first | exact vu _ _ | refine Below.drew ?_ | refine Below.alloc ?_ yU _);done)))
  | (refine new_close h0 h4 (w.heap.size+1+1) (w.heap.size+1) (w.heap.size+1+1+1) (w.heap.size+1+1+1+1+1) (w.heap.size+1+1+1+1) (w.heap.size+1+1+1+1+1+1) ?_ zj zj zj zj zj zj zj zj zj zj zj ?_ ?_ ?_ ?_ ?_ ?_;all_goals (first | (simp only [heap_al,heap_dr,Array.getElem?_push,Array.size_push];(try (repeat first | rw [if_pos trivial] | rw [if_neg zj] | rfl));done) | ((repeat first | exact vu _ _ | refine Below.drew ?_ | refine Below.alloc ?_ yU _);done)))
  | (refine new_close h0 h4 (w.heap.size+1+1+1) (w.heap.size+1+1) (w.heap.size+1) (w.heap.size+1+1+1+1+1) (w.heap.size+1+1+1+1) (w.heap.size+1+1+1+1+1+1) ?_ zj zj zj zj zj zj zj zj zj zj zj ?_ ?_ ?_ ?_ ?_ ?_;all_goals (first | (simp only [heap_al,heap_dr,Array.getElem?_push,Array.size_push];(try (repeat first | rw [if_pos trivial] | rw [if_neg zj] | rfl));done) | ((repeat first | exact vu _ _ | refine Below.drew ?_ | refine Below.alloc ?_ yU _);done))))
