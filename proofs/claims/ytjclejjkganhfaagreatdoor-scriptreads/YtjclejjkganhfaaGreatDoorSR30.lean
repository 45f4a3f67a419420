import Derived.Test.YtjclejjkganhfaaGreatDoorSR27
import Derived.Sort.LoopGhostIn
set_option linter.unusedSimpArgs false
set_option linter.unusedVariables false
set_option maxRecDepth 100000
set_option maxHeartbeats 64000000
namespace Go.Proofs.YtjclejjkganhfaaGreatDoor
open Go.Proofs.Tryz
section
open Shelf RowKit Lib Go.Sort
theorem L1.holds{w}{g}{ps}(h:L1 w g ps):HoldsK lL 3 w g 0 ps.toArray:=fun j hj=>by
 rw [size_flatK] at hj;simp only [Zl] at hj;have h1:j / 3<ps.length:=zj;have h2:j / 3*3+j % 3=j:=zj;refine ⟨?_,by rw [Zc];exact h.free j zj⟩;rw [Zc,get_flatK _ _ _ _ yG];have:=mi (enc:=lL) mG (L:=ps) (i:=j / 3) (c:=j % 3) (x:=ps[j / 3]) (uJ h1) zj;rw [h2] at this;rw [getElem!_pos ps.toArray (j / 3) (by simpa using h1),ZR,getElem!_pos _ (j % 3) vB];refine h.cell j _ ?_;rw [this,uJ vB];rfl
theorem zaH(w)(g cap)(ps)(hown:L1 w g ps)(hblk:g<w.heap.size)(hl:ps.length<=200000):
  qC 191 #[qG g ps.length cap,.func (.func 192) #[] #[]] w fun e w'=>e=qT #[]/\∃qs:List Plc,qs.Perm ps/\qs.Pairwise (fun a b=>¬NLt (Gb b) (Gb a))/\(∀j u,(mP lL qs)[j]? =some u->w'.cell? (qA g j)=some u)/\m7 (fun k=>k=g) w w':=by
 have hH:=hown.holds;have h:=AnyQ.slices_SortFunc EW 3 isAgg212 sizeOf212 lL mG sF zaN VT 192 #[] g 0 cap ps.toArray w WT (NS g 0 ps.toArray.size w) hH hblk zm;refine Calls.mono h ?_;rintro e w' ⟨rfl,d',n,os,hp,hs,rfl⟩;simp only [Zl] at hp hs;have hsz:d'.size=ps.length:=qv
 have hperm:d'.toList.Perm ps:=by
  exact kb3
 refine ⟨rfl,d'.toList,hperm,?_,?_,sU w g n d' os⟩
 ·rw [ZN];intro i j hi hj aA;have hi':i<d'.size:=xL;have hj':j<d'.size:=yG;have hq:=hs i j (uW _) aA zj
  letI:Decidable (NLt (Gb (d'[j]!)) (Gb (d'[i]!))):=Classical.propDecidable _
  rw [wR] at hq;have:=of_decide_eq_false hq;rw [getElem!_pos d' i hi',getElem!_pos d' j hj'] at this;exact ko5
 exact kl2
def RE:Ren:=⟨fun | 41=>189 | n=>n,fun | 4=>4 | 22=>209 | 23=>212 | n=>n,fun n=>n⟩
theorem Cz:SlLaysE0.n41 prog RE where
 mixed:=zk
 f41:=⟨ "slices.Clone[[]concordat/tree.Place,concordat/tree.Place]",zk,func189.trans qk⟩
 t4:=underlying4
 a4:=isAgg4
 z4:=sizeOf4
 v4:=zeroValue4
 t22:=underlying209
 a22:=isAgg209
 z22:=sizeOf209
 v22:=zeroValue209
theorem XS{w}{l9}{v}{ps}(h:w.ownsRow l9 212 3 v ps.length (mP lL ps))(hv:v≠qE):∃g cap,v=qG g ps.length cap/\L1 w g ps/\l9<=g/\g<w.heap.size/\ps.length<=cap/\cap<=maxLen:=by
 have h2:=h.2
 rcases h2 with ⟨h0,_⟩ | ⟨g,cap,cur,rfl,hbg,hgb,hnc,hcm,hcs,htake⟩
 ·exact absurd h0 hv
 refine ⟨g,cap,rfl,⟨fun j u hj=> ?_,fun j _=>h.frozenAt j⟩,hbg,(h.lt g rfl).2,hnc,hcm⟩;have hl:=(uI.1 hj).1;rw [zaS] at hl;rw [h.cellAt j zj];exact hj
def Ub(w:qW)(qs:List Plc)(e:Ending)(w':qW):Prop:=(∃ao cap,qs= []/\e= .returned (.slice ao 0 cap)/\w'=w)\/∃g cap,e= .returned (qG g qs.length cap)/\Aside (L1 w' g qs/\w.heap.size<=g/\g<w'.heap.size/\qs.length<=cap/\cap<=maxLen/\qL w w')
theorem zaI(w)(v)(qs)(hn:qs.length<=1000)(h:L9 w v qs):
  qC 189 #[v] w (Ub w qs):=by
 rcases h with ⟨h,e⟩ | ⟨g,cap,h,hg,hc⟩
 ·rw [h];refine (AnyE.slices_Clone_nil Cz 0 0 w).mono ?_;rintro e' w' ⟨rfl,rfl⟩;exact .inl ⟨none,0,e,rfl,rfl⟩
 rw [h];obtain ⟨i0,hi,aD,aw,aH⟩:=info_parts Vz;have k:=AnyE.slices_Clone Cz i0 _ 3 32 hi aD aw aH rfl zj sizeOf212 g 0 qs.length cap (mP lL qs) w (zaS qs) zB zj (fun j u hj=>by rw [Zc];exact hc j u hj) (sC sF qs);refine Calls.mono k ?_;rintro e' w' ⟨v',rfl,hown,hne,hb⟩;obtain ⟨g',cap',rfl,hO,h1,h2,h3,h4⟩:=XS hown hne;exact .inr ⟨g',cap',rfl,hO,h1,h2,h3,h4,hb⟩
theorem MK(gf:Nat)(lb)(eg:∀args w,(callFunc gf args).run prog w= .ok (.enter gf args) w)(ao)(cap)(w):
  qC 188 #[.slice ao 0 cap,.func (.func gf) #[] lb] w (qR (.slice ao 0 cap) w):=by
 have aQ:=Bp (fun _=>false) gf lb eg ao cap w.heap.size [] w zg (fun W x hx=>ya) zr (.inl rfl);go_enter func188,ntmps188;go_wp2_with fail;refine aQ.mono ?_;rintro e w1 ⟨r,rfl,HR⟩
 rcases HR.o.1 with ⟨hr,_⟩ | ⟨k,x,hr,hx,_⟩
 ·subst hr;go_wp2;go_ret;exact ⟨rfl,HR.o.2⟩
 simp at hx
theorem Qh(W)(B)(i)(q)(hB:W.cell? (qB B)=some (qI i)):
  qC 190 (#[pG q]++ #[qP B]) W (qR (.bool (q.2.1 !=i)) W):=by
 obtain ⟨n,j,s⟩:=q;have hlt:=uN W (qB B) hB
 have g0:=fun o=>lO ((uM _ W).alloc zg o) hB
 unfold pG
 dsimp only at hlt |-
 go_enter func190,ntmps190;exact ke6
abbrev Enx:=ByteArray×Int
def si(e:Enx):List Value:=[.string e.1,qI e.2]
theorem rn(x):(si x).length=2:=rfl
theorem QF(x):∀v∈si x,v.oneCell'=true:=by
 intro v hv;simp only [si,uX,ZP,or_false] at hv
 rcases hv with rfl | rfl<;>rfl
theorem zbv:(prog.info? 163).map (fun i=>(i.zero,i.size,i.bytes))=some (some (.agg #[.string ⟨#[]⟩,qI 0]),2,24):=zk
def abD(w:qW)(v:Value)(es:List Enx):Prop:=(v=qE/\es= [])\/∃g cap,v=qG g es.length cap/\g<w.heap.size/\∀j u,(mP si es)[j]? =some u->w.cell? (qA g j)=some u
def Sl(qs:List Plc)(i:Int)(es:List Enx):Prop:=∃R:List Plc,R.Perm (qs.filter (fun p=> !(p.2.1 !=i)))/\R.Pairwise (fun a b=>¬NLt (Gb b) (Gb a))/\es=R.map (fun p=>(nmB qs p,p.1))
def Bu(p:Plc):Prop:=0<=p.1/\p.1<2^62/\p.2.2.size<=60
structure aaT (w:qW) (g B:Nat) (R:List Plc) (es:List Enx) (v:Value) (wr:qW):Prop where
 m8:qL w wr
 size:B<=wr.heap.size
 cells:∀j u,(mP lL R)[j]? =some u->wr.cell? (qA g j)=some u
 row:wr.ownsRow B 163 2 v es.length (mP si es)
theorem aaT.H{w}{g B}{R}{es}{v}{wr}(h:aaT w g B R es v wr):Q9 wr (qS g) R:=.inr ⟨g,0,rfl,fun j u hj=>by rw [Zc];exact h.cells j u hj⟩
theorem QP{w}{g B}{R}{es}{v}{wr}(h:aaT w g B R es v wr)(hg:g<B)(hw:w.heap.size<=B){w1}(hb:qL wr w1)(e)(hn:es.length<=1000)(ty):
  ∃v' w3,(Builtin.append_ #[160,160] ty #[v,qG w1.heap.size 1 1]).run prog (w1.alloc (.cells (si e).toArray 163))= .ok v' w3/\Aside (aaT w g B R (es++ [e]) v' w3/\∀k,k<w1.heap.size->v.ownBlock≠some k->w3.heap[k]? =w1.heap[k]?):=by
 have hrow:(w1.alloc (.cells (si e).toArray 163)).ownsRow B 163 2 v es.length (mP si es):=by
  refine nh h.row (fun q hq=> ?_);have:=(h.row.lt q hq).2;rw [uR _ _ _ vO,hb.block q this]
 have hin:N9 si (w1.alloc (.cells (si e).toArray 163)) (qS w1.heap.size) [e]:=by
  refine .inr ⟨w1.heap.size,0,rfl,fun j u hj=> ?_⟩;have hn:=heap_alloc_new w1 (.cells (si e).toArray 163);have hl:=(uI.1 hj).1;rw [mu rn] at hl;exact ki6
 obtain ⟨v',w3,ae,hown,eO⟩:=pV (enc:=si) (k:=2) (S:=160) (T:=163) underlying160 zbv zj zj rfl rn QF hrow zj (by rw [Zt];have:=hb.size;have:=h.size;omega) (qS w1.heap.size) 1 [e] zr hin (fun q=>xP) ty;have cu:qL wr (w1.alloc (.cells (si e).toArray 163)):=hb.alloc hb.size _
 have hkeep:∀k,k<w1.heap.size->v.ownBlock≠some k->w3.heap[k]? =w1.heap[k]? :=fun k hk hne=>by
  rw [eO.block k yM (fun q=>hne q.symm),uR _ _ _ hk]
 refine ⟨v',w3,ae,⟨⟨?_,?_,?_,?_⟩,hkeep⟩⟩
 ·exact (zi h.m8 cu).grown eO (by have:=h.m8.size;have:=cu.size;omega) (fun k hk=>by have:=(h.row.lt k hk).1;omega)
 ·have:=eO.size;have:=cu.size;have:=h.size;omega
 ·intro j u hj;have hc:=h.cells j u hj;have hlt:=uN wr (qA g j) hc;dsimp only at hlt
  have e1:w3.heap[g]? =wr.heap[g]? :=by
   rw [hkeep g vO (fun q=>by have:=(h.row.lt g q).1;omega),hb.block g hlt]
  simp only [World.cell?] at hc |-
  rw [e1];exact hc
 grind [uQ,nR]
def Vv(w:qW)(qs:List Plc)(i:Int)(e:Ending)(w':qW):Prop:=∃v' es,e= .returned v'/\Aside (abD w' v' es/\Sl qs i es/\qL w w')
theorem CZ(w)(v)(qs)(i)(hin:L9 w v qs)(hl:qs.length<=300)(hf:∀p∈qs,Bu p)(aF:Lib.TabIs prog w "internal/strconv.uint64pow10" .u64 Lib.pow10Tab):
  qC 134 #[v,qI i] w (Vv w qs i):=by
 obtain ⟨ao,cap,rfl,hP⟩:=hin.abX;obtain ⟨S,hS⟩:=za w.heap.size;obtain ⟨U,hU⟩:=za (w.alloc (.cells #[qI i] 3));have hUb:qL w U:=zX
 have hUs:U.heap.size=S+1:=by rw [hU,hS,Zt]
 have hUc:U.cell? (qB S)=some (qI i):=by rw [hU,hS];simp [go_sem]
 have HT:Aside (Lib.TabBelow prog w.heap.size w "internal/strconv.uint64pow10" .u64 Lib.pow10Tab):=Lib.tabBelow_of_tabIs aF;have iL:=zaI U (.slice ao qs.length cap) qs zj (hin.later hUb)
 have H:Aside (Q9 w ao qs/\(∀p∈qs,Bu p)/\qL w U/\U.heap.size=S+1/\S=w.heap.size/\U.cell? (qB S)=some (qI i)):=⟨hP,hf,hUb,hUs,hS,hUc⟩
 clear hin hf aF hP hUb hUs hUc;have eg:∀args w,(callFunc 190 args).run prog w= .ok (.enter 190 args) w:=enters_of func190 zk rfl;go_enter func134,ntmps134;go_wp2_with fail;rw [<-hS,<-hU];clear hS hU;refine iL.mono ?_;clear iL;rintro e w1 (⟨ao',cap',hq,rfl,rfl⟩ | ⟨g,cap',rfl,HO⟩)
 ·subst hq;have hd:=MK 190 #[qP S] eg ao' cap' w1;clear eg;go_wp2_with fail;refine hd.mono ?_;clear hd;rintro e w2 ⟨rfl,hb2⟩;have HB:Aside (qL w w2):=zi H.o.2.2.1 hb2;clear hb2
  have hs:=fun fv=>Cx ao' cap' fv w2
  go_wp2_with fail;refine (hs _).mono ?_;clear hs;rintro e w3 ⟨rfl,rfl⟩;go_wp2;refine wp_loop_rounds 1 ?_;rw [rounds_succ];go_wp2;go_ret;exact ⟨_,[],rfl,.inl ⟨rfl,rfl⟩,⟨[],List.Perm.refl _,List.Pairwise.nil,rfl⟩,HB.o⟩
 have hd:=OQ (fun p=>p.2.1 !=i) 190 #[qP S] eg g cap' U.heap.size qs w1 HO.o.2.1 HO.o.2.2.2.2.2.size HO.o.2.2.1 (fun W x _ hW=>Qh W S i x ((hW.cell (p:=(qB S)) vx).trans ((HO.o.2.2.2.2.2.cell (p:=(qB S)) vx).trans H.o.2.2.2.2.2))) zj HO.o.2.2.2.1 HO.o.2.2.2.2.1 HO.o.1;clear eg;go_wp2_with fail;refine hd.mono ?_;clear hd;rintro e w2 ⟨rfl,hO2,hB2⟩;obtain ⟨zs,fK⟩:=za (qs.filter (fun x=> !(x.2.1 !=i)))
 rw [<-fK] at hO2 |-
 have hzl:zs.length<=300:=by rw [fK];exact uO (Yi _ _) hl
 have hs:=zaH w2 g cap' zs hO2 (uT HO.o.2.2.1 hB2.size) zj
 have H2:Aside (zs=qs.filter (fun x=> !(x.2.1 !=i))/\qL w w2/\g<w2.heap.size/\w.heap.size<=g):=⟨fK,(zi H.o.2.2.1 HO.o.2.2.2.2.2).trans (hB2.mono (by have:=H.o.2.2.1.size;omega)),uT HO.o.2.2.1 hB2.size,by have:=HO.o.2.1;have:=H.o.2.2.1.size;omega⟩
 clear fK hO2 hB2 HO;go_wp2_with fail;refine hs.mono ?_;clear hs;rintro e w3 ⟨rfl,R,hperm,hsort,hcells,hkeep⟩;obtain ⟨B,hB⟩:=za w3.heap.size
 have H3:Aside (R.Perm zs/\R.Pairwise (fun a b=>¬NLt (Gb b) (Gb a))/\qL w w3/\g<B/\w.heap.size<=B/\aaT w g B R [] qE w3):=by
  have h1:=H2.o.2.1.trans (hkeep.m8 (B:=w.heap.size) H2.o.2.1.size (fun k e=>by have:=H2.o.2.2.2;omega));exact ⟨hperm,hsort,h1,by rw [hB];exact uT H2.o.2.2.1 hkeep.size,by rw [hB];exact h1.size,⟨h1,zj,hcells,Zi _ _ _ _⟩⟩
 have hRl:=hperm.length_eq;clear hperm hsort hcells hkeep hB;go_wp2;go_loopg [6,17] zs.length (fun kx s6 js wr=>∃(k:Nat),js=qN k/\k<=zs.length/\zs.length - k<=kx/\Aside (aaT w g B R ((R.take k).map (fun p=>(nmB qs p,p.1))) s6 wr))
 case atStart=>exact ⟨0,rfl,uW _,uL _,H3.o.2.2.2.2.2⟩
 case round=>
  obtain ⟨k,rfl,hk,aY,A⟩:=hrel;by_cases hlt:k<zs.length
  ·have aq:qlt k zs.length=true:=by simp;omega
   have ek:((k:Int)).toNat=k:=zj;have pk:(0:Int)<=(k:Int):=zj;have bk:(k:Int)<(zs.length:Int):=zj
   obtain ⟨⟨nd,j,s⟩,hp⟩:∃p,Aside (R[k]? =some p):=⟨R[k],uJ zj⟩
   obtain ⟨_,_,aG,r0,r1,r2⟩:=A.o.H.e hp.o
   cases aG
   simp only [Zc] at r0 r1 r2;go_upto_region 7 with fail;obtain ⟨b,hb⟩:=za wr.heap.size;obtain ⟨X,hX⟩:=za (wr.alloc (.cells #[qI nd,qI j,.string s] 212))
   have hPX:x8 X b (nd,j,s):=by rw [hX,hb];exact heap_alloc_new wr _
   have hbX:qL wr X.drew:=by rw [hX];exact (zh wr _).drew
   have x0:X.drew.cell? (qB b)=some (qI nd):=hPX.c0;have x1:X.drew.cell? (qA b 1)=some (qI j):=hPX.c1;have x2:X.drew.cell? (qA b 2)=some (.string s):=hPX.c2
   have HX:Aside ((X.drew.cell? (qB b)=some (qI nd)/\X.drew.cell? (qA b 1)=some (qI j)/\X.drew.cell? (qA b 2)=some (.string s))/\qL wr X.drew/\b=wr.heap.size):=⟨⟨x0,x1,x2⟩,hbX,hb⟩
   have dE:(nd,j,s)∈qs:=by
    have:=H3.o.1.mem_iff.1 (uP hp.o);rw [H2.o.1] at this;exact (Ye.1 this).1
   have hBX:=zi A.o.m8 hbX;have bg:=Du X.drew ao cap qs (nd,j,s) (H.o.1.later hBX) zj (H.o.2.1 _ dE).1 (H.o.2.1 _ dE).2.1 (H.o.2.1 _ dE).2.2 (HT.o _ hBX);unfold pG at bg;dsimp only at bg;rw [<-hX,<-hb];obtain ⟨nm,dM⟩:=za (nmB qs (nd,j,s));rw [<-dM] at bg;have HN:=Lib.hid dM;clear hX hb hPX hbX x0 x1 x2 dE hBX dM r0 r1 r2;refine lV (S:=fun w'=>w'.cell? (qB b)=some (qI nd)/\w'.cell? (qA b 1)=some (qI j)/\w'.cell? (qA b 2)=some (.string s)) zk HX.o.1 (fun aa=> ?_);refine tk 0 aa ?_;refine tk 1 aa ?_;refine tk 2 aa ?_ (y:=ty zI);refine tk 4 aa ?_;refine tk 5 aa ?_ (y:=ty zI);refine an (i:=3) zk rfl (fun K hK=> ?_);go_simp;refine bg.mono ?_;clear bg;rintro e w4 ⟨rfl,hb4⟩
   have H4:Aside ((w4.cell? (qB b)=some (qI nd)/\w4.cell? (qA b 1)=some (qI j)/\w4.cell? (qA b 2)=some (.string s))/\qL wr w4):=⟨⟨lO hb4 HX.o.1.1,lO hb4 HX.o.1.2.1,lO hb4 HX.o.1.2.2⟩,zi HX.o.2.1 hb4⟩
   clear hb4;refine hK _ _ H4.o.1 ?_;clear hK K;refine qn ?_;refine tk 6 H4.o.1 ?_;obtain ⟨v',w6,ae,HO⟩:=QP A.o H3.o.2.2.2.1 H3.o.2.2.2.2.1 H4.o.2 (nm,nd) vy 160
   have H6:Aside (w6.cell? (qB b)=some (qI nd)/\w6.cell? (qA b 1)=some (qI j)/\w6.cell? (qA b 2)=some (.string s)):=by
    have hblt:=uN w4 (qB b) H4.o.1.1;have e:=HO.o.2 b hblt (fun q=>by have:=(A.o.row.lt b q).2;have:=HX.o.2.2;omega);have k:=H4.o.1
    simp only [World.cell?] at k |-
    rw [e];exact k
   have H5:Aside ((w4.alloc (.cells #[.string nm,qI nd] 163)).cell? (qB b)=some (qI nd)/\(w4.alloc (.cells #[.string nm,qI nd] 163)).cell? (qA b 1)=some (qI j)/\(w4.alloc (.cells #[.string nm,qI nd] 163)).cell? (qA b 2)=some (.string s)):=⟨lO (zh w4 _) H4.o.1.1,lO (zh w4 _) H4.o.1.2.1,lO (zh w4 _) H4.o.1.2.2⟩
   refine an (i:=7) zk rfl (fun K hK=> ?_);go_simp;refine hK _ _ H5.o ?_;clear hK K;refine qn ?_;refine an (i:=8) zk rfl (fun K hK=> ?_);rw [if_pos zt];simp only [ZR,ZU,ZW];refine Lib.wp_append_run _ _ _ _ _ rfl u6 (qG w4.heap.size 1 1) rfl rfl _ w6 ae ?_;refine hK _ _ H6.o ?_;clear hK K ae;refine qn ?_;refine an (i:=9) zk rfl (fun K hK=> ?_);go_simp;refine hK _ _ H6.o ?_;clear hK K;refine wpAnyH_done zk ?_ _;clear aa;go_wp2;go_roundg (zs.length - (k+1))
   case measure=>omega
   case rel=>
    have hE:=HO.o.1
    have e:(R.take k).map (fun p=>(nmB qs p,p.1))++ [(nm,nd)]=(R.take (k+1)).map (fun p=>(nmB qs p,p.1)):=by
     rw [Zy,hp.o,ZL,HN.o];rfl
    rw [e] at hE;exact ⟨k+1,zN,zj,uL _,hE⟩
  have aq:qlt k zs.length=false:=zm;go_wp2;go_ret;have hkz:k=zs.length:=zj;subst hkz;have hrow:=A.o.row;rw [Zk zj] at hrow;refine ⟨_,R.map (fun p=>(nmB qs p,p.1)),rfl,?_,⟨R,by rw [<-H2.o.1];exact H3.o.1,H3.o.2.1,rfl⟩,A.o.m8⟩
  rcases hrow.2 with ⟨h0,h1⟩ | ⟨g',cap',cur,h0,_,_,_,_,_,_⟩
  ·refine .inl ⟨h0,?_⟩;rw [Zh] at h1;exact List.map_eq_nil_iff.2 (Zg.1 h1)
  subst h0
  exact .inr ⟨g',cap',rfl,(hrow.lt g' rfl).2,fun j u hj=>by
   have hl:=(uI.1 hj).1
   rw [mu rn] at hl
   rw [hrow.cellAt j zj];exact hj⟩
end
section
open Shelf RowKit Lib Go.Sort Maps
open scoped Classical
structure Q2 (w:qW) (br bt bm n:Nat) (v:Value) (f:Sta):Prop where
 ptr:w.cell? (qA br 6)=some (qP bt)
 cell:t7 w bt bm v
 map:sL prog 3 w bm n f
 aaq:n<=200000
 U9:WG f
theorem Q2.later{w w'}{br bt bm n}{v}{f}(h:Q2 w br bt bm n v f)(hb:qL w w'):Q2 w' br bt bm n v f:=
 ⟨lO hb h.ptr,(hb.block bt h.cell.lt).trans h.cell,h.map.m8 hb h.map.lt,h.aaq,h.U9⟩
theorem tg{f}{L}(h:WG f)(hL:C3 f L):∀p∈L,Bu p:=fun p hp=>by
 have k:=h.aaa.Y8 p.1 p ((hL.U5 p).1 hp);exact ⟨k.lo,k.hi,k.sz⟩
theorem sK(w)(br bt bm n)(v)(f)(h:Q2 w br bt bm n v f):
  qC 135 #[qP br] w fun e w'=>e= .returned (qP bt)/\w'=w:=by
 have c6:=h.ptr
 have ht:qC 194 #[qP br] w fun e w'=>e= .returned (qP bt)/\w'=w:=by
  go_enter func194,ntmps194;exact ka7
 go_enter func135,ntmps135;go_wp2_with fail;refine ht.mono ?_;rintro e w' ⟨rfl,rfl⟩;exact ka7
theorem Io(w)(br bt bm n)(v)(f)(h:Q2 w br bt bm n v f)(L)(hL:C3 f L):
  qC 129 #[qP bt] w fun e w'=>∃u,e= .returned u/\Aside (L9 w' u L/\qL w w'):=
 (Lz w bt bm n v f h.U9.aaa h.cell h.map h.aaq).mono fun _ _ ⟨u,qs,h1,h2,_,h4,h5⟩=>⟨u,h1,by rw [hL.q h2];exact ⟨h4,h5⟩⟩
theorem Qw(w)(br bt bm n)(v)(f)(h:Q2 w br bt bm n v f)(l8 of)(hk:Wf l8):
  qC 143 #[qP bt,qI l8,qI of] w (qR (.bool (decide (Ins f l8 of))) w):=
 tj w bt bm n f l8 of (decide (Ins f l8 of)) zr h.cell.c0 h.map h.U9.aaa hk
theorem Si(w)(br bt bm n)(v)(f)(h:Q2 w br bt bm n v f)(L)(hL:C3 f L)(hl:L.length<=300)(i)(aF:Lib.TabIs prog w "internal/strconv.uint64pow10" .u64 Lib.pow10Tab):
  qC 103 #[qP br,qI i] w (Vv w L i):=by
 have HT:Aside (Lib.TabBelow prog w.heap.size w "internal/strconv.uint64pow10" .u64 Lib.pow10Tab):=Lib.tabBelow_of_tabIs aF;have h1:=sK w br bt bm n v f h;have h2:=Io w br bt bm n v f h L hL;have HF:Aside (∀p∈L,Bu p):=tg h.U9 hL;go_enter func103,ntmps103;go_wp2_with fail;refine h1.mono ?_;rintro e w1 ⟨rfl,rfl⟩;go_wp2_with fail;refine h2.mono ?_;rintro e w2 ⟨u,rfl,H2⟩;have h3:=CZ w2 u L i H2.o.1 hl HF.o (HT.o w2 H2.o.2);go_wp2_with fail;refine h3.mono ?_;rintro e w3 ⟨v',es,rfl,H3⟩;go_wp2;go_ret;exact ⟨v',es,rfl,H3.o.1,H3.o.2.1,zi H2.o.2 H3.o.2.2⟩
end
section
open RowKit Lib Go.Sort Maps
open scoped Classical
theorem Vf(w)(bt bm n)(f)(l8)(ht:w.cell? (qB bt)=some (.map (some bm)))(hm:sL prog 3 w bm n f)(hk:Wf l8):
  qC 200 #[qP bt,qI l8] w (qR (.tuple #[pG ((f l8).getD mS),.bool (f l8).isSome]) w):=by
 have hbt:bt<w.heap.size:=block_lt_of_cell ht
 have hl:∀o,(Instr.lookup 185 (.map (some bm)) (qI l8) true).run prog (w.alloc o)= .ok (.tuple #[pG ((f l8).getD mS),.bool (f l8).isSome]) (w.alloc o):=fun o=>(hm.same (uR _ _ _ hm.lt)).looks hk
 have hc:∀o,(w.alloc o).cell? (qB bt)=some (.map (some bm)):=fun o=>by grind [uS,uR]
 generalize (f l8).isSome=z at hl |-
 generalize (f l8).getD mS=p at hl |-
 obtain ⟨c,q,nm⟩:=p
 unfold pG at hl |-
 dsimp only at hl |-
 go_enter func200,ntmps200;go_wp2;(try simp only [Exit.inBlock,Exit.then]);refine bodyPost_ret (v:=.tuple #[.agg #[qI c,qI q,.string nm],.bool z]) ?_ rfl ⟨rfl,(zh w _).alloc zr _⟩;rw [results_cell_tmp rfl];go_simp
structure J9 (S:Nat->Prop) (W W':qW):Prop where
 X7:∀k,S k->W'.heap[k]? =W.heap[k]?
 plc:∀(k:Nat) (p:Plc),x8 W k p->W'.heap[k]? =W.heap[k]?
theorem J9.trans{S}{A B C}(h:J9 S A B)(k:J9 S B C):J9 S A C:=
 ⟨fun q hq=>(k.X7 q hq).trans (h.X7 q hq),fun q p hq=>(k.plc q p (hq.same (h.plc q p hq))).trans (h.plc q p hq)⟩
theorem J9.m8{S}{W W'}(hS:∀k,S k->k<W.heap.size)(hb:qL W W'):J9 S W W':=
 ⟨fun k hk=>hb.block k (hS k hk),fun k p h=>hb.block k h.lt⟩
theorem nu{W W'}(hb:qL W W'):W.grownBy W' none:=⟨hb.os,hb.tape,hb.output,hb.size,fun i hi _=>hb.block i hi⟩
theorem DK{W W':qW}{k}(h:k<W.heap.size)(e:W'.heap[k]? =W.heap[k]?):k<W'.heap.size:=by
 grind
def Jf(l8:Int)(L:List Plc):Nat->Int
 | 0=>l8
 | k+1=>(L.getD k mS).2.1
theorem Rb{f} :∀ {L:List Plc} {l8:Int},UpL f l8 L->∀k,k<=L.length->f (Jf l8 L k)=L[k]?
 | [],l8,h,0,_=>h
 | p::L,l8,h,0,_=>h.1
 | p::L,l8,h,k+1,hk=>by
  have ih:=Rb h.2 k (by simpa using hk);rw [Zb,<-ih]
  cases k with
  | zero=>rfl
  | succ k=>rfl
 | [],_,_,k+1,hk=>by simp at hk
theorem zbN(n)(hn:1<=n)(l B1 B2 bt bm nn)(f)(l8)(L)(kG:UpL f l8 L)(G:wg f)(bG:Wf l8)(S)(h1S:S B1)(h2S:S B2)(h3S:S bt)(h4S:S bm)(J Jx:List Nat->World->Prop)
  (hY:∀pre x W,J pre W->pre.length<L.length->YieldAt Fence.wide (n - 1) prog l #[pG (L.getD x mS)] W fun e W'=>
   (e= .returned (.bool true)/\J (pre++ [x]) W'/\J9 S W W')\/(e= .returned (.bool false)/\Jx (pre++ [x]) W'))
  (W) (hJ:AbidesFrom W.heap.size J) (hS:∀k,S k->k<W.heap.size) (c1:W.cell? (qB B1)=some (qP bt)) (c2:W.cell? (qB B2)=some (qI l8)) (ct:W.cell? (qB bt)=some (.map (some bm))) (hm:sL prog 3 W bm nn f) (h0:J [] W):
  CallsIn Fence.wide n prog 199 #[.func (.yield l) #[] #[],qP B1,qP B2] W fun e W'=>(∃v,e= .returned v)/\
   ((∃ys,ys=List.range L.length/\J ys W')\/(∃pre,(∃k,k<=L.length/\pre=List.range k)/\Jx pre W')):=by
 refine callsIn_of_wp func199 rfl trivial ?_ rfl;simp only [ntmps199,Zl,Za,Zq,Nat.reduceAdd,Nat.reduceSub,Zv,Zw,ZD,ZA,ZF,ZE];have i8:=Vf W bt bm nn f l8 ct hm bG;have u0:=Rb kG 0 (uW _)
 have aD:(f l8).isSome=decide (0<L.length):=by
  rw [show f l8=L[0]? from u0]
  cases L<;>simp
 have hg0:(f l8).getD mS=L.getD 0 mS:=by rw [show f l8=L[0]? from u0];simp [List.getD]
 rw [aD,hg0] at i8
 obtain ⟨p0,hp0e⟩:∃p,Aside (p=L.getD 0 mS):=⟨_,rfl⟩
 have hp0e':=hp0e.o;rw [<-hp0e'] at i8;obtain ⟨c,q,nm⟩:=p0;unfold pG at i8;dsimp only at i8
 have H:Aside (UpL f l8 L/\(S B1/\S B2/\S bt/\S bm)/\(∀k,S k->k<W.heap.size)/\W.cell? (qB bt)=some (.map (some bm))/\sL prog 3 W bm nn f/\W.cell? (qB B1)=some (qP bt)/\J [] W):=⟨kG,⟨h1S,h2S,h3S,h4S⟩,hS,ct,hm,c1,h0⟩
 have HJ:Aside (AbidesFrom W.heap.size J):=hJ;have HY:Aside (∀pre x W,J pre W->pre.length<L.length->YieldAt Fence.wide (n - 1) prog l #[pG (L.getD x mS)] W fun e W'=>(e= .returned (.bool true)/\J (pre++ [x]) W'/\J9 S W W')\/(e= .returned (.bool false)/\Jx (pre++ [x]) W')):=hY;gi_wp2_with (refine ⟨trivial,?_⟩;gi_at_call 200;refine ((callsIn_wide (n:=n - 1)).2 i8).mono ?_;rintro e w' ⟨rfl,hb⟩)
 obtain ⟨b0,hb0⟩:∃b,b=w'.heap.size:=⟨_,rfl⟩
 obtain ⟨X,hX⟩:=za (w'.alloc (.cells #[qI c,qI q,.string nm] 212))
 have hPX:x8 X b0 (L.getD 0 mS):=by rw [hX,hb0,<-hp0e.o];exact heap_alloc_new w' _
 have hbX:qL W X:=by rw [hX];exact hb.alloc hb.size _
 rw [<-hX,<-hb0]
 have H0:Aside (x8 X b0 (L.getD 0 mS)/\qL W X):=⟨hPX,hbX⟩
 gi_loopg [4,5] L.length (fun kx s4 s5 wr=>∃(k b:Nat),s4=qP b/\s5= .bool (decide (k<L.length))/\k<=L.length/\L.length - k<=kx/\Aside (J (List.range k) wr/\J9 S W wr/\x8 wr b (L.getD k mS)))
 case atStart=>exact ⟨0,b0,rfl,rfl,uW _,uL _,HJ.o _ W X none H.o.2.2.2.2.2.2 (nu H0.o.2) (fun r e=>yN),J9.m8 H.o.2.2.1 H0.o.2,H0.o.1⟩
 case round=>
  obtain ⟨k,b,rfl,rfl,hk,aY,A⟩:=hrel;by_cases hlt:k<L.length
  ·rw [decide_eq_true hlt];obtain ⟨p,hpe⟩:=ze (L.getD k mS);obtain ⟨fn,tmps,assign,body,hy,hR⟩:=HY.o (List.range k) k wr A.o.1 zL;have hPw:=A.o.2.2;rw [<-hpe.o] at hy hPw
   have hin:L[k]? =some p:=by
    rw [uJ hlt,hpe.o,Yn,uJ hlt];rfl
   have hfp:f (Jf l8 L k)=some p:=by rw [Rb H.o.1 k hk];exact hin
   have hwj:=(tJ (G.Y8 _ _ hfp)).2;have u1:=Rb H.o.1 (k+1) hlt
   have aw:(f p.2.1).isSome=decide (k+1<L.length):=by
    have e:Jf l8 L (k+1)=p.2.1:=uf;rw [e] at u1;rw [u1];by_cases q:k+1<L.length
    ·simp_all
    simp_all
   have hg1:(f p.2.1).getD mS=L.getD (k+1) mS:=by
    have e:Jf l8 L (k+1)=p.2.1:=uf;rw [e] at u1;rw [u1,Yn]
   obtain ⟨nd,j,s⟩:=p;unfold pG at hy;dsimp only at hy hwj aw hg1;have x0:=hPw.c0;have x1:=hPw.c1;have x2:=hPw.c2;dsimp only at x0 x1 x2
   have HP:Aside (x8 wr b (nd,j,s)/\Wf j/\(f j).isSome=decide (k+1<L.length)/\(f j).getD mS=L.getD (k+1) mS/\k<L.length):=⟨hPw,hwj,aw,hg1,hlt⟩
   have hR':Aside (RoundIn Fence.wide (n - 1) prog l fn tmps assign body wr fun e W'=>(e= .returned (.bool true)/\J (List.range k++ [k]) W'/\J9 S wr W')\/(e= .returned (.bool false)/\Jx (List.range k++ [k]) W')):=hR;gi_wp2;refine hR'.o.mono ?_;rintro e W3 (⟨rfl,hJ3,hk3⟩ | ⟨rfl,hJx3⟩)
   ·have hP3:=HP.o.1.same (hk3.plc b _ HP.o.1);have hK3:=A.o.2.1.trans hk3;obtain ⟨W4,hW4⟩:=za (W3.alloc (.cells #[qI nd,qI j,.string s] 212))
    have hb4:qL W3 W4:=by rw [hW4];exact zh W3 _
    have fh:∀q,S q->W4.heap[q]? =W.heap[q]? :=fun q hq=>by
     have e3:=hK3.X7 q hq;exact (hb4.block q (DK (H.o.2.2.1 q hq) e3)).trans e3
    have hpl:=Vf W4 bt bm nn f j ((uS (a:=(qB bt)) (fh bt H.o.2.1.2.2.1)).trans H.o.2.2.2.1) (H.o.2.2.2.2.1.same (fh bm H.o.2.1.2.2.2)) HP.o.2.1;rw [HP.o.2.2.1,HP.o.2.2.2.1] at hpl
    obtain ⟨p',hpe'⟩:∃p,Aside (p=L.getD (k+1) mS):=⟨_,rfl⟩
    have hpe'':=hpe'.o;rw [<-hpe''] at hpl;obtain ⟨nd',j',s'⟩:=p';unfold pG at hpl;dsimp only at hpl;have x0:=hP3.c0;have x1:=hP3.c1;have x2:=hP3.c2;dsimp only at x0 x1 x2;have y1:=(uS (a:=(qB B1)) (fh B1 H.o.2.1.1)).trans H.o.2.2.2.2.2.1;rw [hW4] at y1
    have H4:Aside (J (List.range k++ [k]) W3/\J9 S W W3/\qL W3 W4/\x8 W4 W3.heap.size (nd,j,s)/\W4.heap.size=W3.heap.size+1):=⟨hJ3,hK3,hb4,by rw [hW4];exact heap_alloc_new W3 _,zL⟩
    have z1:=H4.o.2.2.2.1.c1;dsimp only at z1;rw [hW4] at z1 hpl;have hW4':=Lib.hid hW4;gi_wp2_with (refine ⟨trivial,?_⟩;gi_at_call 200;refine ((callsIn_wide (n:=n - 1)).2 hpl).mono ?_;rintro e w5 ⟨rfl,hb5⟩;rw [<-hW4'.o] at hb5;have q0:=(H4.o.2.2.2.1.same (hb5.block _ H4.o.2.2.2.1.lt)).c0;have q1:=(H4.o.2.2.2.1.same (hb5.block _ H4.o.2.2.2.1.lt)).c1;have q2:=(H4.o.2.2.2.1.same (hb5.block _ H4.o.2.2.2.1.lt)).c2;have f0:=(H4.o.2.2.2.1.same (hb5.block _ H4.o.2.2.2.1.lt)).fz 0;have f1:=(H4.o.2.2.2.1.same (hb5.block _ H4.o.2.2.2.1.lt)).fz 1;have f2:=(H4.o.2.2.2.1.same (hb5.block _ H4.o.2.2.2.1.lt)).fz 2);gi_roundg (L.length - (k+1))
    case measure=>have:=HP.o.2.2.2.2;omega
    case rel=>
     have hP5:=H4.o.2.2.2.1.same (hb5.block _ H4.o.2.2.2.1.lt);have hb35:=H4.o.2.2.1.trans (hb5.mono (by have:=H4.o.2.2.2.2;omega));have hbS:=x8.aaL (nd',j',s') hb35 zg;refine ⟨k+1,W3.heap.size,rfl,rfl,HP.o.2.2.2.2,uL _,?_,?_,?_⟩
     ·rw [Yq];exact HJ.o _ W3 _ none H4.o.1 (nu hbS) (fun r e=>yN)
     ·exact ⟨fun q hq=>(hbS.block q (DK (H.o.2.2.1 q hq) (H4.o.2.1.X7 q hq))).trans (H4.o.2.1.X7 q hq),fun q p hp=>by
       have h3:=H4.o.2.1.plc q p hp
       exact (hbS.block q (hp.same h3).lt).trans h3⟩
     rw [<-hpe'.o];exact hP5.ab6 (nd',j',s')
   gi_wp2;refine bodyPost_ret (results_none rfl _ _ _) rfl ?_;exact ⟨⟨_,rfl⟩,.inr ⟨_,⟨k+1,by have:=HP.o.2.2.2.2;omega,(Yq).symm⟩,hJx3⟩⟩
  rw [decide_eq_false hlt];gi_wp2;go_end0;have e:k=L.length:=zj;subst e;exact ⟨⟨_,rfl⟩,.inl ⟨_,rfl,A.o.1⟩⟩
end
section
open RowKit Lib Go.Sort Maps
theorem RM(p):∀s:qU,(Lib.index s [p]= -1/\p∉s)\/∃a r,s=a++p::r/\p∉a/\Lib.index s [p]=(a.length:Int)
 | []=>.inl ⟨rfl,zr⟩
 | b::l=>by
  by_cases h:b=p
  ·exact .inr ⟨[],l,by rw [h];rfl,zr,by simp [Lib.index,h]⟩
  have hp: [p].isPrefixOf (b::l)=false:=by simp [List.isPrefixOf,Ne.symm h]
  rcases RM p l with ⟨h1,h2⟩ | ⟨a,r,h1,h2,h3⟩
  ·exact .inl ⟨by unfold Lib.index;rw [hp,h1];rfl,by simp [h2,Ne.symm h]⟩
  refine .inr ⟨b::a,r,by rw [h1];rfl,by simp [h2,Ne.symm h],?_⟩;unfold Lib.index
  simp_all
theorem Bd(x):(⟨x.data.toList.toArray⟩:qY)=x:=zr
def Y3(S:Nat->Prop)(W W':qW):Prop:=∀k,S k->W'.heap[k]? =W.heap[k]?
theorem Y3.trans{S}{A B C}(h:Y3 S A B)(k:Y3 S B C):Y3 S A C:=fun q hq=>(k q hq).trans (h q hq)
structure X8 (B:Nat) (m:Int) (t:qY) (W:qW):Prop where
 txt:Boxed W B 9 (.string t)
 R6:Boxed W (B+1) 9 (.string ⟨#[47]⟩)
 num:Boxed W (B+1+1) 3 (qI 0)
 max:W.cell? (qB 14)=some (qI m)
def zaL(B k:Nat):Prop:=k=B\/k=B+1\/k=B+1+1\/k=14
theorem X8.F9{B}{m}{t}{W W'}(h:X8 B m t W)(hk:Y3 (zaL B) W W'):X8 B m t W':=
 ⟨(hk B (.inl rfl)).trans h.txt,(hk (B+1) (.inr (.inl rfl))).trans h.R6,(hk (B+1+1) (.inr (.inr (.inl rfl)))).trans h.num,(uS (a:=(qB 14)) (hk _ (.inr (.inr (.inr rfl))))).trans h.max⟩
theorem X8.set{B}{m}{t}{W}(h:X8 B m t W)(hB:B≠14)(t'):X8 B m t' (W.setCell (qB B) (.string t')):=
 ⟨h.txt.set _,h.R6.other zj _,h.num.other zj _,(uS (a:=(qB 14)) ((grownBy_setCell' W B _).block _ (uN W (qB 14) h.max) (fun e=>by cases e;exact hB rfl))).trans h.max⟩
theorem Qg(n)(hn:1<=n)(l B)(m)(hB:B≠14)(s)(hs:s.size<=1000000)(J Jx:List qU->World->Prop)(hJ:Tj (fun r=>r=B) J)
  (hY:∀pre x W,J pre W->pre.length<(nF 47 s.data.toList).length->YieldAt Fence.wide (n - 1) prog l #[.string ⟨x.toArray⟩] W fun e W'=>(e= .returned (.bool true)/\J (pre++ [x]) W'/\Y3 (zaL B) W W')\/(e= .returned (.bool false)/\Jx (pre++ [x]) W'))
  (W) (h:X8 B m s W) (h0:J [] W):
  CallsIn Fence.wide n prog 254 #[.func (.yield l) #[] #[],qP (B+1),qP B,qP (B+1+1)] W fun e W'=>(∃v,e= .returned v)/\((∃xs,xs=nF 47 s.data.toList/\J xs W')\/∃pre,(∃rest,pre++rest=nF 47 s.data.toList)/\Jx pre W'):=by
 refine callsIn_of_wp func254 rfl trivial ?_ rfl;simp only [ntmps254,Zl,Za,Zq,Nat.reduceAdd,Nat.reduceSub,Zv,Zw,ZD,ZA,ZF,ZE];have g0:=h.R6.cell
 have H:Aside (X8 B m s W/\J [] W):=⟨h,h0⟩
 have HJ:Aside (Tj (fun r=>r=B) J):=hJ;have HY:Aside (∀pre x W,J pre W->pre.length<(nF 47 s.data.toList).length->YieldAt Fence.wide (n - 1) prog l #[.string ⟨x.toArray⟩] W fun e W'=>(e= .returned (.bool true)/\J (pre++ [x]) W'/\Y3 (zaL B) W W')\/(e= .returned (.bool false)/\Jx (pre++ [x]) W')):=hY;clear h h0 hJ hY;gi_wp2;gi_loopg [7,8] s.size (fun kx _ _ wr=>∃(t:qY) (pre:List qU),t.size<=kx/\t.size<=s.size/\Aside (X8 B m t wr/\J pre wr/\pre++nF 47 t.data.toList=nF 47 s.data.toList))
 case atStart=>grind
 case round=>
  obtain ⟨t,pre,htk,iY,A⟩:=hrel;have c0:=A.o.1.txt.cell;have c1:=A.o.1.R6.cell;have c2:=A.o.1.num.cell;have aQ:=Tryz.strings_Index t ⟨#[47]⟩ m wr zj A.o.1.max;have hc:=RM 47 t.data.toList;have kj:(⟨#[47]⟩:qY).data.toList= [47]:=rfl;rw [kj] at aQ;clear kj
  rcases hc with ⟨hi,hno⟩ | ⟨a,r,ht,hno,hi⟩
  ·rw [hi] at aQ;obtain ⟨fn,tmps,assign,body,hy,hR⟩:=HY.o pre t.data.toList wr A.o.2.1 (by rw [<-A.o.2.2,sH _ _ hno];simp);rw [Bd] at hy;have hR':Aside (RoundIn Fence.wide (n - 1) prog l fn tmps assign body wr fun e W'=>(e= .returned (.bool true)/\J (pre++ [t.data.toList]) W'/\Y3 (zaL B) wr W')\/(e= .returned (.bool false)/\Jx (pre++ [t.data.toList]) W')):=hR;clear hR;gi_wp2_with (refine ⟨trivial,?_⟩;gi_at_call 149;refine ((callsIn_wide (n:=n - 1)).2 aQ).mono ?_;rintro e w' ⟨rfl,rfl⟩);refine hR'.o.mono ?_;clear hR' hy c0 c1 c2;rintro e W3 (⟨rfl,hJ3,_⟩ | ⟨rfl,hJx3⟩)
   ·gi_wp2;go_end0;exact ⟨⟨_,rfl⟩,.inl ⟨_,rfl,by rw [<-A.o.2.2,sH _ _ hno];exact hJ3⟩⟩
   gi_wp2;go_end0;exact ⟨⟨_,rfl⟩,.inr ⟨_,⟨[],by rw [Yd,<-A.o.2.2,sH _ _ hno]⟩,hJx3⟩⟩
  rw [hi] at aQ
  have hlen:t.size=a.length+1+r.length:=by
   have:=ot t;rw [ht] at this;simp only [uQ,Za] at this;omega
  have hcut:pre++(a::nF 47 r)=nF 47 s.data.toList:=by rw [<-A.o.2.2,ht,nI _ _ _ hno]
  obtain ⟨fn,tmps,assign,body,hy,hR⟩:=HY.o pre a wr A.o.2.1 (by rw [<-hcut];simp);have hR':Aside (RoundIn Fence.wide (n - 1) prog l fn tmps assign body wr fun e W'=>(e= .returned (.bool true)/\J (pre++ [a]) W'/\Y3 (zaL B) wr W')\/(e= .returned (.bool false)/\Jx (pre++ [a]) W')):=hR
  have efrag:t.extract 0 a.length=⟨a.toArray⟩:=by
   apply ByteArray.ext;apply YW.1;simp [ht]
  have erest:t.extract (a.length+1) t.size=⟨r.toArray⟩:=by
   apply ByteArray.ext;apply YW.1;rw [hlen];simp [ht]
  have p1:(0:Int)<=(a.length:Int):=zj;have p2:(a.length:Int)<=(t.size:Int):=zj;have p3:(a.length:Int)+1<=(t.size:Int):=zj;have w0:IntKind.i64.wrap ((a.length:Int)+0)=(a.length:Int):=zw;have w1:IntKind.i64.wrap ((a.length:Int)+1)=(a.length:Int)+1:=zw;have d0:decide ((a.length:Int)<0)=false:=zr
  have HA:Aside (t.data.toList=a++47::r/\t.size=a.length+1+r.length/\pre++(a::nF 47 r)=nF 47 s.data.toList):=⟨ht,hlen,hcut⟩
  clear hR ht hlen hcut hi hno;gi_wp2_with (refine ⟨trivial,?_⟩;gi_at_call 149;refine ((callsIn_wide (n:=n - 1)).2 aQ).mono ?_;rintro e w' ⟨rfl,rfl⟩);refine hR'.o.mono ?_;clear hR' hy c0 c1 c2;rintro e W3 (⟨rfl,hJ3,hk3⟩ | ⟨rfl,hJx3⟩)
  ·have S3:=A.o.1.F9 hk3;have c0:=S3.txt.cell;have c1:=S3.R6.cell;have f0:=S3.txt.frozen
   have H3:Aside (X8 B m t W3/\J (pre++ [a]) W3):=⟨S3,hJ3⟩
   clear S3 hJ3 hk3;gi_wp2;gi_roundg r.length
   case measure=>have:=HA.o.2.1;omega
   case rel=>
    have er:(⟨r.toArray⟩:qY).size=r.length:=ug;refine ⟨⟨r.toArray⟩,pre++ [a],zj,by have:=HA.o.2.1;omega,H3.o.1.set hB _,HJ.o _ W3 _ (some B) H3.o.2 (grownBy_setCell' W3 B _) (fun q e=>ve),?_⟩;rw [<-HA.o.2.2,Zo];rfl
  gi_wp2;refine bodyPost_ret (results_none rfl _ _ _) rfl ?_;exact ⟨⟨_,rfl⟩,.inr ⟨_,⟨nF 47 r,by rw [<-HA.o.2.2,Zo];rfl⟩,hJx3⟩⟩
theorem Ow(n)(hn:1<=n)(B)(m)(hB:B≠14)(s)(hs:s.size<=1000000)(w)(h:X8 B m s w):
  zdq n prog 254 #[qP (B+1),qP B,qP (B+1+1)] (fun r=>r=B) (fun x:qU=>.string ⟨x.toArray⟩) (Y3 (zaL B)) (fun xs=>xs=nF 47 s.data.toList) (fun pre=>∃rest,pre++rest=nF 47 s.data.toList) (nF 47 s.data.toList).length w:=fun l J Jx W hW hJ _ hY h0=>by
 refine Qg n hn l B m hB s hs J Jx hJ hY W (h.F9 fun k hk=>hW.block k ?_) h0
 rcases hk with rfl | rfl | rfl | rfl
 ·exact h.txt.lt
 ·exact h.R6.lt
 ·exact h.num.lt
 exact uN w (qB 14) h.max
theorem Fd(w)(s):qC 140 #[.string s,.string ⟨#[47]⟩] w fun e w'=>e= .returned (.func (.func 254) #[] #[qP (w.heap.size+1),qP w.heap.size,qP (w.heap.size+1+1)])/\w'=((w.alloc (.cells #[.string s] 9)).alloc (.cells #[.string ⟨#[47]⟩] 9)).alloc (.cells #[qI 0] 3):=by
 have h1:qC 198 #[.string s,.string ⟨#[47]⟩,qI 0] w fun e w'=>e= .returned (.func (.func 254) #[] #[qP (w.heap.size+1),qP w.heap.size,qP (w.heap.size+1+1)])/\w'=((w.alloc (.cells #[.string s] 9)).alloc (.cells #[.string ⟨#[47]⟩] 9)).alloc (.cells #[qI 0] 3):=by
  go_enter func198,ntmps198;exact ka7
 go_enter func140,ntmps140;go_wp2_with fail;refine h1.mono ?_;rintro e w' ⟨rfl,rfl⟩;exact ka7
end
section
open RowKit Lib Go.Sort
def UV(e:Enx):Value:=.agg #[.string e.1,qI e.2]
def aal(w:qW)(ao:qO)(es:List Enx):Prop:=es= []\/∃g off,ao=some (qA g off)/\∀j u,(mP si es)[j]? =some u->w.cell? (qA g (off+j))=some u
theorem aal.later{w w'}{ao}{es}(h:aal w ao es)(hb:qL w w'):aal w' ao es:=by
 rcases h with h | ⟨g,o,h1,h2⟩
 ·exact .inl h
 exact kk1
theorem abD.abX{w}{v}{es}(h:abD w v es):∃ao cap,v= .slice ao es.length cap/\aal w ao es:=by
 rcases h with ⟨h,e⟩ | ⟨g,cap,h,_,hc⟩
 ·exact ⟨none,0,by rw [h,e];rfl,.inl e⟩
 exact ko3
theorem aal.e{w}{ao}{es}(h:aal w ao es){k}{p}(hk:es[k]? =some p):∃g off,ao=some (qA g off)/\w.cell? (qA g (off+k*2))=some (.string p.1)/\w.cell? (qA g (off+k*2+1))=some (qI p.2):=by
 rcases h with h | ⟨g,off,h1,h2⟩
 ·simp_all
 refine ⟨g,off,h1,?_,?_⟩
 ·exact h2 (k*2) _ (by have:=mi rn hk (c:=0) zj;rw [ZC] at this;rw [this];rfl)
 rw [Yt];exact h2 (k*2+1) _ (by rw [mi rn hk zj];rfl)
def zbM(g:Nat)(lb:Array Value)(xs:List Enx)(p:Enx->Bool)(l9:Nat)(w:qW):Prop:=
 ∀(W:qW) (x:Enx),x∈xs->Below l9 w W->Calls prog g (#[UV x]++lb) W (qR (.bool (p x)) W)
def zdt(p:Enx->Bool)(zs:List Enx)(r:Int):Prop:=
 (r= -1/\∀x∈zs,p x=false)\/∃k x,r=((k:Nat):Int)/\zs[k]? =some x/\p x=true/\∀j y,j<k->zs[j]? =some y->p y=false
theorem RI(p)(g:Nat)(lb)(eg:∀args w,(callFunc g args).run prog w= .ok (.enter g args) w)(ao)(cap l9)(zs)(w)(aj:l9<=w.heap.size)(hp:zbM g lb zs p l9 w)(fF:zs.length<=1000000)(hin:aal w ao zs):
  qC 141 #[.slice ao zs.length cap,.func (.func g) #[] lb] w fun e w'=>∃r:Int,e= .returned (qI r)/\Aside (zdt p zs r/\qL w w'):=by
 have HP:Aside (zbM g lb zs p l9 w/\l9<=w.heap.size):=⟨hp,aj⟩
 have HI:Aside (aal w ao zs):=hin;go_enter func141,ntmps141;go_wp2;go_loopg [5,8] zs.length (fun kx _ s8 wr=>∃(k:Nat),s8=qN k/\k<=zs.length/\zs.length - k<=kx/\Aside (qL w wr/\∀j l,j<k->zs[j]? =some l->p l=false))
 case atStart=>exact ⟨0,rfl,uW _,uL _,⟨uM _ w,fun j l hj=>zj⟩⟩
 case round=>
  obtain ⟨k,rfl,hk,aY,A⟩:=hrel;by_cases hlt:k<zs.length
  ·have aq:qlt k zs.length=true:=by simp;omega
   have ek:((k:Int)).toNat=k:=zj;have pk:(0:Int)<=(k:Int):=zj;have bk:(k:Int)<(zs.length:Int):=zj
   obtain ⟨⟨s,nd⟩,hl⟩:∃l,Aside (zs[k]? =some l):=⟨zs[k],uJ hlt⟩
   obtain ⟨blk,off,aG,r0,r1⟩:=(HI.o.later A.o.1).e hl.o;subst aG;dsimp only at r0 r1;have ac:=HP.o.1 wr (s,nd) (uP hl.o) (A.o.1.mono HP.o.2);unfold UV at ac;dsimp only at ac
   cases hq:p (s,nd) with
   | true=>
    exact kf7
   | false=>
    rw [hq] at ac;have HQ:=Lib.hid hq;go_wp2_with (go_at_fn g;refine ac.mono ?_;rintro e w' ⟨rfl,hb'⟩);go_roundg (zs.length - (k+1))
    case measure=>omega
    case rel=>
     refine ⟨k+1,zN,zj,uL _,⟨zi A.o.1 hb',fun j l hj e=> ?_⟩⟩
     rcases Yc j k with h | h
     ·exact A.o.2 j l h e
     exact kg0
  exact kb5
theorem Po(W)(B)(q)(nm)(hB:W.cell? (qB B)=some (.string nm)):
  qC 142 (#[UV q]++ #[qP B]) W (qR (.bool (decide (q.1=nm))) W):=by
 obtain ⟨s,n⟩:=q;have hlt:=uN W (qB B) hB
 have g0:=fun o=>lO ((uM _ W).alloc zg o) hB
 have e0:=WU s nm;clear hB;unfold UV
 dsimp only at hlt |-
 rw [<-e0];clear e0;go_enter func142,ntmps142;exact ke6
end
section
open RowKit Lib Go.Sort Maps
open scoped Classical
theorem TF(n)(hn:1<=n)(B1 B2 bt bm nn)(f)(l8)(L)(kG:UpL f l8 L)(G:wg f)(bG:Wf l8)(S)(h1S:S B1)(h2S:S B2)(h3S:S bt)(h4S:S bm)(w)(hS:∀k,S k->k<w.heap.size)
  (c1:w.cell? (qB B1)=some (qP bt)) (c2:w.cell? (qB B2)=some (qI l8)) (ct:w.cell? (qB bt)=some (.map (some bm))) (hm:sL prog 3 w bm nn f):
  SeqStopsK Fence.wide n prog 199 #[qP B1,qP B2] (fun x:Nat=> #[pG (L.getD x mS)]) (J9 S) (fun ys=>ys=List.range L.length) (fun pre=>∃k,k<=L.length/\pre=List.range k) L.length w:=fun l J Jx W hW hJ _ hY h0=>
 zbN n hn l B1 B2 bt bm nn f l8 L kG G bG S h1S h2S h3S h4S J Jx hY W hJ (fun k hk=>uT (hS k hk) hW.size) ((hW.cell (p:=(qB B1)) (hS _ h1S)).trans c1) ((hW.cell (p:=(qB B2)) (hS _ h2S)).trans c2) ((hW.cell (p:=(qB bt)) (hS _ h3S)).trans ct) (hm.same (hW.block bm (hS _ h4S))) h0
theorem LK(w)(bt)(l8):qC 144 #[qP bt,qI l8] w fun e w'=>e= .returned (.func (.func 199) #[] #[qP w.heap.size,qP (w.heap.size+1)])/\w'=(w.alloc (.cells #[qP bt] 131)).alloc (.cells #[qI l8] 3):=by
 go_enter func144,ntmps144;exact ka7
theorem QS(w)(br):qC 106 #[qP br,qI 0] w fun e w'=>e= .returned (.tuple #[.string ⟨#[47]⟩,.bool true])/\w'=w:=by
 go_enter func106,ntmps106;go_wp2;go_ret2;exact ki2
theorem SZ(w)(br bt bm n)(v)(f)(h:Q2 w br bt bm n v f)(l8)(bG:Wf l8)(h0:l8≠0)(cn:¬Ins f l8 0):
  qC 106 #[qP br,qI l8] w (qR (.tuple #[.string ⟨#[]⟩,.bool false]) w):=by
 have h1:=sK w br bt bm n v f h;have h2:=Qw w br bt bm n v f h l8 0 bG;rw [decide_eq_false cn] at h2;have d0:(l8==0)=false:=xm;go_enter func106,ntmps106;go_wp2_with fail;refine h1.mono ?_;rintro e w1 ⟨rfl,hw⟩;obtain rfl:=hw.symm;go_wp2_with fail;refine h2.mono ?_;rintro e w2 ⟨rfl,hb⟩;go_wp2;go_ret2;exact ⟨rfl,hb⟩
def Ec(qs:List Plc)(a:Int)(nm:qU)(b:Int):Prop:=∃es k e,Sl qs a es/\es[k]? =some e/\e.1.data.toList=nm/\(∀(j:Nat) y,j<k->es[j]? =some y->y.1.data.toList≠nm)/\e.2=b
def GM(qs:List Plc)(a:Int)(nm:qU):Prop:=∃es,Sl qs a es/\∀e∈es,e.1.data.toList≠nm
def M7(qs:List Plc):Int->List qU->Int->Prop
 | a,[],b=>a=b
 | a,nm::r,b=>∃c,Ec qs a nm c/\M7 qs c r b
theorem M7.aa2{qs} :∀ {pre:List qU} {a b c:Int} {nm:qU},M7 qs a pre b->Ec qs b nm c->M7 qs a (pre++ [nm]) c
 | [],a,b,c,nm,h,k=>⟨c,by rw [show a=b from h];exact k,rfl⟩
 | x::pre,a,b,c,nm,⟨d,h1,h2⟩,k=>⟨d,h1,h2.aa2 k⟩
theorem RZ(w)(br)(path)(h:Lib.hasPrefix path.data.toList [47]=false):
  qC 105 #[qP br,.string path] w (qR (.tuple #[qI 0,.bool false]) w):=by
 have hc:=fun u=>Tryz.strings_CutPrefix path ⟨#[47]⟩ u
 have kj:(⟨#[47]⟩:qY).data.toList= [47]:=rfl;rw [kj,h] at hc;go_enter func105,ntmps105;go_wp2_with fail;refine (hc _).mono ?_;rintro e w1 ⟨rfl,rfl⟩;go_wp2;refine bodyPost_ret (v:=.tuple #[qI 0,.bool false]) (by simp [results,f105,go_sem]) rfl ⟨rfl,(zh w _).alloc zr _⟩
theorem Nw(w)(br)(path)(h:path.data.toList= [47]):
  qC 105 #[qP br,.string path] w (qR (.tuple #[qI 0,.bool true]) w):=by
 have hc:=fun u=>Tryz.strings_CutPrefix path ⟨#[47]⟩ u
 have kj:(⟨#[47]⟩:qY).data.toList= [47]:=rfl;rw [kj,h,show Lib.hasPrefix [47] [47]=true by decide,show Lib.trimPrefix [47] [47]= [] by decide] at hc;go_enter func105,ntmps105;go_wp2_with fail;refine (hc _).mono ?_;rintro e w1 ⟨rfl,rfl⟩;go_wp2;refine bodyPost_ret (v:=.tuple #[qI 0,.bool true]) (by simp [results,f105,go_sem]) rfl ⟨rfl,((zh w _).alloc zr _).alloc zm _⟩
end
section
open RowKit
def zaO(e:Enx):qU:=e.1.data.toList++ [58]++Lib.itoa e.2
def Na(e:Enx):ByteArray:=e.1++⟨#[58]⟩++⟨(Lib.itoa e.2).toArray⟩
theorem Fy(e):(Na e).data.toList=zaO e:=by simp [Na,zaO]
theorem Py(e)(h:e.1.size<=1000/\0<=e.2/\e.2<2^62):(Na e).size<=10000:=by
 have h1:=Lib.itoa_length_le e.2 zj zj;have h2:(Na e).data.toList.length=(Na e).size:=zr;rw [<-h2,Fy];unfold zaO;have h3:e.1.data.toList.length=e.1.size:=zr
 grind
def Uv(es:List Enx):qU:=orN (Lib.join (es.map zaO) [32])
theorem Xu(w)(B)(v)(xs:List ByteArray)(h:w.ownsRow B 9 1 v xs.length (xs.map ru))(hl:xs.length<=1000000)(hm:∀l∈xs,l.size<=10000):
  qC 104 #[v,.string ⟨#[32]⟩] w (qR (.string ⟨(Lib.join (xs.map (·.data.toList)) [32]).toArray⟩) w):=by
 have hlen:(Lib.join (xs.map (·.data.toList)) [32]).length<=(xs.map (·.data.toList)).length*(10000+1):=by
  have iC:∀L:List qU,(Lib.join L [32]).length=(Lib.join L [10]).length:=fun L=>match L with
   | []=>rfl
   | _::_=>by rw [Lib.join_length,Lib.join_length];rfl
  rw [iC];refine Is 10000 (xs.map (·.data.toList)) (fun l hl=> ?_);obtain ⟨x,hx,rfl⟩:=Zj.1 hl;have:=hm x hx;have e:x.data.toList.length=x.size:=zr;omega
 have hr:=h
 rcases h.2 with ⟨rfl,h0⟩ | ⟨g,cap,cur,rfl,hbg,hgb,r1,r2,r3,r4⟩
 ·have:=Zg.1 h0;subst this
  exact (Tryz.strings_Join_none none 0 ⟨#[32]⟩ w).mono fun e w' ⟨h1,h2⟩=>⟨h1,by rw [h2];exact uM _ _⟩
 exact Tryz.strings_Join g 0 cap xs ⟨#[32]⟩ w (fun j x hj=>by
  rw [Zc,hr.cellAt j (by have:=(uI.1 hj).1;omega),ZM,hj]
  rfl) (uK.1 hgb).1 zj r1 (by rw [Zh] at hlen;show (Lib.join (xs.map (·.data.toList)) [32]).length<=_;omega)
theorem Pg(w)(br)(i)(Q:List Enx->Prop)
  (hs:qC 103 #[qP br,qI i] w fun e w'=>∃v es,e= .returned v/\abD w' v es/\(Q es/\es.length<=1000/\∀e∈es,e.1.size<=1000/\0<=e.2/\e.2<2^62)/\qL w w')
  (hI:∀b W,0<=b->b<2^62->qL w W->qC 54 #[qI b] W (qR (.string ⟨(Lib.itoa b).toArray⟩) W)):
  qC 60 #[qP br,qI i] w fun e w'=>∃es,e= .returned (.string ⟨(Uv es).toArray⟩)/\Aside (Q es/\qL w w'):=by
 have HI:=Aside.mk' hI;go_enter func60,ntmps60;go_wp2_with fail;refine hs.mono ?_;rintro e w1 ⟨v,es,rfl,hE,hQ,hb⟩
 have HQ:Aside (Q es/\(es.length<=1000/\∀e∈es,e.1.size<=1000/\0<=e.2/\e.2<2^62)/\qL w w1):=⟨hQ.1,hQ.2,hb⟩
 obtain ⟨ao,cap,hv,hc⟩:∃ao cap,v= .slice ao es.length cap/\Aside (∀j e,es[j]? =some e->∃g,ao=some (qB g)/\w1.cell? (qA g (j*2))=some (.string e.1)/\w1.cell? (qA g (j*2+1))=some (qI e.2)):=by
  rcases hE with ⟨rfl,rfl⟩ | ⟨g,cap,rfl,hg,hc⟩
  ·exact ⟨none,0,rfl,fun j e he=>by simp at he⟩
  exact ⟨_,cap,rfl,fun j e he=>⟨g,rfl,hc (j*2) _ (mi (enc:=si) (k:=2) (fun _=>rfl) he (by omega:0<2)),hc (j*2+1) _ (mi (enc:=si) (k:=2) (fun _=>rfl) he (by omega:1<2))⟩⟩
 subst hv;go_wp2;go_loopg [5,12] es.length (fun kx s5 s12 wr=>∃(k:Nat) (u:Value),u=s5/\s12=qN k/\k<=es.length/\es.length - k<=kx/\Aside (qL w1 wr/\wr.ownsRow w1.heap.size 9 1 u k ((es.take k).map (fun e=>ru (Na e)))))
 case atStart=>exact ⟨0,_,rfl,rfl,uW _,uL _,uM _ _,Zi _ _ _ _⟩
 case round=>
  obtain ⟨k,u5,rfl,rfl,hk,aY,A⟩:=hrel;by_cases hlt:k<es.length
  ·have aq:qlt k es.length=true:=by simp;omega
   have ek:((k:Int)).toNat=k:=zj;have pk:(0:Int)<=(k:Int):=zj;have bk:(k:Int)<(es.length:Int):=zj
   obtain ⟨⟨nm,nd⟩,he⟩:∃e,Aside (es[k]? =some e):=⟨es[k],uJ hlt⟩
   obtain ⟨g,aG,fj,hc1⟩:=hc.o k _ he.o;subst aG;dsimp only at fj hc1;have c0:=mg A.o.1 fj;have c1:=mg A.o.1 hc1;have hfe:=HQ.o.2.1.2 _ (uP he.o);dsimp only at hfe;have kz:=mq wr [.string nm,qI nd] 163;have hbz:qL wr (wr.alloc (.cells #[.string nm,qI nd] 163)):=zh wr _
   have hne:u5.ownBlock≠some wr.heap.size:=fun q=>by have:=(A.o.2.lt _ q).2;omega
   have n1:¬9223372036854775807<nm.size+1:=by have:=hfe.1;omega
   have n2:¬9223372036854775807<nm.size+1+(Lib.itoa nd).length:=by have:=hfe.1;have:=Lib.itoa_length_le nd zj zj;omega
   go_upto_region 5 with fail;have cz:Aside (qL wr (wr.alloc (.cells #[.string nm,qI nd] 163)).drew):=hbz.drew;generalize wr.alloc (.cells #[.string nm,qI nd] 163)=V at*
   obtain ⟨Sd,hSd⟩:∃Sd,Aside (wr.heap.size=Sd):=⟨_,rfl⟩
   rw [hSd.o] at kz hne |-
   have s0:=kz.cell 0;have s1:=kz.cell 1;simp only [uZ,Zb] at s0 s1;have CS:D6 (fun q=>u5.ownBlock≠some q) V V.drew:=(D6.refl _ V).drew;have HBW:Aside (qL w V.drew):=HQ.o.2.2.trans ((zi A.o.1 cz.o).mono HQ.o.2.2.size);have hi:=HI.o nd V.drew hfe.2.1 hfe.2.2 HBW.o;refine lV (S:=D6 (fun q=>u5.ownBlock≠some q) V) zk CS (fun aa=> ?_);refine tk 0 CS ?_;refine tk 1 CS ?_;refine tk 2 CS ?_ (y:=ty (by intro w' ab;have q:=ab.cell (b:=Sd) (o:=0) hne s0;clear ab;go_simp;try with_reducible rfl));refine tk 3 CS ?_;refine tk 4 CS ?_;refine tk 5 CS ?_ (y:=ty (by intro w' ab;have q:=ab.cell (b:=Sd) (o:=1) hne s1;clear ab;go_simp;try with_reducible rfl));refine an (i:=6) zk rfl (fun K hK=> ?_);go_simp;refine hi.mono ?_;rintro e w4 ⟨rfl,hb4⟩;have C4:=CS.trans (D6.m8 hb4);have HW4:Aside (qL wr w4):=zi cz.o hb4;refine hK _ _ C4 ?_;refine qn ?_;refine tk 7 C4 ?_;have ij:=mD A.o.2 (fun q hq=>HW4.o.block q (A.o.2.lt q hq).2);obtain ⟨v',w6,ae,ho,hg,-⟩:=AO (S:=22) underlying22 JB zj rfl ij (uO A.o.1.size HW4.o.size) zj (ru (Na (nm,nd))) rfl 22;unfold ru Na at ae;dsimp only at ae;have C6:=C4.trans ⟨hg.size,fun q hq hs=>hg.block q hs (fun e=>hq e.symm)⟩
   have C5:∀o,D6 (fun q=>u5.ownBlock≠some q) V (w4.alloc o):=fun o=>C4.trans (D6.m8 ((uM _ w4).alloc zg o))
   have H6:Aside (qL w1 w6/\w6.ownsRow w1.heap.size 9 1 v' (k+1) ((es.take (k+1)).map (fun e=>ru (Na e)))):=by
    refine ⟨(zi A.o.1 HW4.o).grown hg (uO A.o.1.size HW4.o.size) (fun q hq=>(A.o.2.lt q hq).1),?_⟩;rw [Zy,he.o,ZL];exact ho
   refine an (i:=8) zk rfl (fun K hK=> ?_);go_simp;refine hK _ _ (C5 _) ?_;refine qn ?_;refine an (i:=9) zk rfl (fun K hK=> ?_);rw [if_pos zt];simp only [ZR,ZU,ZW];refine Lib.wp_append_run _ _ _ _ _ rfl u5 (qG w4.heap.size 1 1) rfl rfl _ w6 ae ?_;refine hK _ _ C6 ?_;refine qn ?_;refine tk 10 C6 ?_;refine wpAnyH_done zk ?_ _;refine qn ?_;go_wp2;go_roundg (es.length - (k+1))
   case measure=>omega
   case rel=>exact ⟨k+1,_,rfl,zN,zj,uL _,H6.o⟩
  have aq:qlt k es.length=false:=zm;obtain rfl:k=es.length:=zj;have hj:=Xu wr w1.heap.size u5 (es.map Na) (by have:=A.o.2;rw [Ym] at this;rw [Zh,YY];exact this) (by rw [Zh];omega) (fun l hl=>by obtain ⟨e,he,rfl⟩:=Zj.1 hl;exact Py e (HQ.o.2.1.2 e he));rw [YY,show ((fun x:ByteArray=>x.data.toList)∘Na)=zaO from funext Fy] at hj;have HA:Aside (qL w wr):=zi HQ.o.2.2 A.o.1;go_wp2_with fail;refine hj.mono ?_;rintro e w2 ⟨rfl,hb2⟩;have HB:Aside (qL w w2):=zi HA.o hb2;have ho:=wl w2 (Lib.join (es.map zaO) [32]);go_wp2_with fail;refine ho.mono ?_;rintro e w3 ⟨rfl,rfl⟩;go_wp2;go_ret;exact ⟨es,rfl,HQ.o.1,HB.o⟩

end