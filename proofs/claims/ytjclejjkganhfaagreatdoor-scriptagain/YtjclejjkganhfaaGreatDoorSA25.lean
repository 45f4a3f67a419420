import Derived.Test.YtjclejjkganhfaaGreatDoorSA22
import Derived.Sort.LoopGhostIn
set_option linter.unusedSimpArgs false
set_option linter.unusedVariables false
set_option maxRecDepth 100000
set_option maxHeartbeats 64000000
namespace Go.Proofs.YtjclejjkganhfaaGreatDoor
open Go.Proofs.Tryz
section
open Shelf RowKit Lib Go.Sort
def WH(w:qW)(qs:List Plc)(i:Int)(e:Ending)(w':qW):Prop:=∃v' es,e= .returned v'/\Aside (abp w' v' es/\NI qs i es/\qL w w')
theorem DU(w)(v)(qs)(i)(ar:M9 w v qs)(hl:qs.length<=300)(hf:∀p∈qs,Cn p)(aK:Lib.TabIs prog w "internal/strconv.uint64pow10" .u64 Lib.pow10Tab):
  qC 134 #[v,qI i] w (WH w qs i):=by
 obtain ⟨ao,cap,rfl,hP⟩:=ar.abJ;obtain ⟨S,hS⟩:=za w.heap.size;obtain ⟨U,hU⟩:=za (w.alloc (.cells #[qI i] 3));have hUb:qL w U:=zX
 have hUs:U.heap.size=S+1:=by rw [hU,hS,Zv]
 have hUc:U.cell? (qB S)=some (qI i):=by rw [hU,hS];simp [go_sem]
 have HT:Aside (Lib.TabBelow prog w.heap.size w "internal/strconv.uint64pow10" .u64 Lib.pow10Tab):=Lib.tabBelow_of_tabIs aK;have hclone:=zaY U (.slice ao qs.length cap) qs zj (ar.later hUb)
 have H:Aside (S7 w ao qs/\(∀p∈qs,Cn p)/\qL w U/\U.heap.size=S+1/\S=w.heap.size/\U.cell? (qB S)=some (qI i)):=⟨hP,hf,hUb,hUs,hS,hUc⟩
 have eg:∀args w,(callFunc 190 args).run prog w= .ok (.enter 190 args) w:=enters_of func190 zk rfl;go_enter func134,ntmps134;go_wp2_with fail;rw [<-hS,<-hU];clear hS hU;refine hclone.mono ?_;rintro e w1 (⟨ao',cap',hq,rfl,rfl⟩ | ⟨g,cap',rfl,HO⟩)
 ·subst hq;have hd:=LC 190 #[qP S] eg ao' cap' w1;go_wp2_with fail;refine hd.mono ?_;rintro e w2 ⟨rfl,hb2⟩;have HB:Aside (qL w w2):=zi H.o.2.2.1 hb2
  have hs:=fun fv=>Cj ao' cap' fv w2
  go_wp2_with fail;refine (hs _).mono ?_;rintro e w3 ⟨rfl,rfl⟩;go_wp2;refine wp_loop_rounds 1 ?_;rw [rounds_succ];go_wp2;go_ret;exact ⟨_,[],rfl,.inl ⟨rfl,rfl⟩,⟨[],List.Perm.refl _,List.Pairwise.nil,rfl⟩,HB.o⟩
 have hd:=Sz (fun p=>p.2.1 !=i) 190 #[qP S] eg g cap' U.heap.size qs w1 HO.o.2.1 HO.o.2.2.2.2.2.size HO.o.2.2.1 (fun W x _ hW=>Qi W S i x ((hW.cell (p:=(qB S)) vx).trans ((HO.o.2.2.2.2.2.cell (p:=(qB S)) vx).trans H.o.2.2.2.2.2))) zj HO.o.2.2.2.1 HO.o.2.2.2.2.1 HO.o.1;go_wp2_with fail;refine hd.mono ?_;rintro e w2 ⟨rfl,hO2,hB2⟩;obtain ⟨zs,fL⟩:=za (qs.filter (fun x=> !(x.2.1 !=i)))
 rw [<-fL] at hO2 |-
 have hzl:zs.length<=300:=by rw [fL];exact uQ (Yi _ _) hl
 have hs:=zaf w2 g cap' zs hO2 (uY HO.o.2.2.1 hB2.size) zj
 have H2:Aside (zs=qs.filter (fun x=> !(x.2.1 !=i))/\qL w w2/\g<w2.heap.size/\w.heap.size<=g):=⟨fL,(zi H.o.2.2.1 HO.o.2.2.2.2.2).trans (hB2.mono (by have:=H.o.2.2.1.size;omega)),uY HO.o.2.2.1 hB2.size,by have:=HO.o.2.1;have:=H.o.2.2.1.size;omega⟩
 clear fL hO2 hB2 HO;go_wp2_with fail;refine hs.mono ?_;rintro e w3 ⟨rfl,R,hperm,hsort,hcells,hkeep⟩;obtain ⟨B,hB⟩:=za w3.heap.size
 have H3:Aside (R.Perm zs/\R.Pairwise (fun a b=>¬NLt (Dt b) (Dt a))/\qL w w3/\g<B/\w.heap.size<=B/\aaP w g B R [] qE w3):=by
  have h1:=H2.o.2.1.trans (hkeep.m8 (B:=w.heap.size) H2.o.2.1.size (fun k e=>by have:=H2.o.2.2.2;omega));exact ⟨hperm,hsort,h1,by rw [hB];exact uY H2.o.2.2.1 hkeep.size,by rw [hB];exact h1.size,⟨h1,zj,hcells,Zk _ _ _ _⟩⟩
 have hRl:=hperm.length_eq;go_wp2;go_loopg [6,17] zs.length (fun kx s6 ji wr=>∃(k:Nat),ji=qN k/\k<=zs.length/\zs.length - k<=kx/\Aside (aaP w g B R ((R.take k).map (fun p=>(nmB qs p,p.1))) s6 wr))
 case atStart=>exact ⟨0,rfl,uW _,uM _,H3.o.2.2.2.2.2⟩
 case round=>
  obtain ⟨k,rfl,hk,aY,A⟩:=hrel;by_cases hlt:k<zs.length
  ·have aq:qlt k zs.length=true:=by simp;omega
   have ek:((k:Int)).toNat=k:=zj;have pk:(0:Int)<=(k:Int):=zj;have bk:(k:Int)<(zs.length:Int):=zj
   obtain ⟨⟨nd,j,s⟩,hp⟩:∃p,Aside (R[k]? =some p):=⟨R[k],uL zj⟩
   obtain ⟨_,_,aH,r0,r1,r2⟩:=A.o.F.e hp.o
   cases aH
   simp only [Ze] at r0 r1 r2;go_upto_region 7 with fail;obtain ⟨b,hb⟩:=za wr.heap.size;obtain ⟨X,hX⟩:=za (wr.alloc (.cells #[qI nd,qI j,.string s] 212))
   have hPX:x9 X b (nd,j,s):=by rw [hX,hb];exact heap_alloc_new wr _
   have hbX:qL wr X.drew:=by rw [hX];exact (zh wr _).drew
   have x0:X.drew.cell? (qB b)=some (qI nd):=hPX.c0;have x1:X.drew.cell? (qA b 1)=some (qI j):=hPX.c1;have x2:X.drew.cell? (qA b 2)=some (.string s):=hPX.c2
   have HX:Aside ((X.drew.cell? (qB b)=some (qI nd)/\X.drew.cell? (qA b 1)=some (qI j)/\X.drew.cell? (qA b 2)=some (.string s))/\qL wr X.drew/\b=wr.heap.size):=⟨⟨x0,x1,x2⟩,hbX,hb⟩
   have dB:(nd,j,s)∈qs:=by
    have:=H3.o.1.mem_iff.1 (uR hp.o);rw [H2.o.1] at this;exact (Yo.1 this).1
   have hBX:=zi A.o.m8 hbX;have aR:=Dd X.drew ao cap qs (nd,j,s) (H.o.1.later hBX) zj (H.o.2.1 _ dB).1 (H.o.2.1 _ dB).2.1 (H.o.2.1 _ dB).2.2 (HT.o _ hBX);unfold pS at aR;dsimp only at aR;rw [<-hX,<-hb];obtain ⟨nm,dr⟩:=za (nmB qs (nd,j,s));rw [<-dr] at aR;have HN:=Lib.hid dr;clear hX hb hPX hbX x0 x1 x2 dB hBX dr r0 r1 r2;refine lV (S:=fun w'=>w'.cell? (qB b)=some (qI nd)/\w'.cell? (qA b 1)=some (qI j)/\w'.cell? (qA b 2)=some (.string s)) zk HX.o.1 (fun aa=> ?_);refine tk 0 aa ?_;refine tk 1 aa ?_;refine tk 2 aa ?_ (y:=ty zH);refine tk 4 aa ?_;refine tk 5 aa ?_ (y:=ty zH);refine an (i:=3) zk rfl (fun K hK=> ?_);go_simp;refine aR.mono ?_;rintro e w4 ⟨rfl,hb4⟩
   have H4:Aside ((w4.cell? (qB b)=some (qI nd)/\w4.cell? (qA b 1)=some (qI j)/\w4.cell? (qA b 2)=some (.string s))/\qL wr w4):=⟨⟨mZ hb4 HX.o.1.1,mZ hb4 HX.o.1.2.1,mZ hb4 HX.o.1.2.2⟩,zi HX.o.2.1 hb4⟩
   refine hK _ _ H4.o.1 ?_;refine qn ?_;refine tk 6 H4.o.1 ?_;obtain ⟨v',w6,ae,HO⟩:=Rx A.o H3.o.2.2.2.1 H3.o.2.2.2.2.1 H4.o.2 (nm,nd) vz 160
   have H6:Aside (w6.cell? (qB b)=some (qI nd)/\w6.cell? (qA b 1)=some (qI j)/\w6.cell? (qA b 2)=some (.string s)):=by
    have hblt:=uP w4 (qB b) H4.o.1.1;have e:=HO.o.2 b hblt (fun q=>by have:=(A.o.row.lt b q).2;have:=HX.o.2.2;omega);have k:=H4.o.1
    simp only [World.cell?] at k |-
    rw [e];exact k
   have H5:Aside ((w4.alloc (.cells #[.string nm,qI nd] 163)).cell? (qB b)=some (qI nd)/\(w4.alloc (.cells #[.string nm,qI nd] 163)).cell? (qA b 1)=some (qI j)/\(w4.alloc (.cells #[.string nm,qI nd] 163)).cell? (qA b 2)=some (.string s)):=⟨mZ (zh w4 _) H4.o.1.1,mZ (zh w4 _) H4.o.1.2.1,mZ (zh w4 _) H4.o.1.2.2⟩
   refine an (i:=7) zk rfl (fun K hK=> ?_);go_simp;refine hK _ _ H5.o ?_;refine qn ?_;refine an (i:=8) zk rfl (fun K hK=> ?_);rw [if_pos zt];simp only [ZU,ZZ,Ya];refine Lib.wp_append_run _ _ _ _ _ rfl u6 (qG w4.heap.size 1 1) rfl rfl _ w6 ae ?_;refine hK _ _ H6.o ?_;refine qn ?_;refine an (i:=9) zk rfl (fun K hK=> ?_);go_simp;refine hK _ _ H6.o ?_;refine wpAnyH_done zk ?_ _;go_wp2;go_roundg (zs.length - (k+1))
   case measure=>omega
   case rel=>
    have hE:=HO.o.1
    have e:(R.take k).map (fun p=>(nmB qs p,p.1))++ [(nm,nd)]=(R.take (k+1)).map (fun p=>(nmB qs p,p.1)):=by
     rw [ZF,hp.o,Zz,HN.o];rfl
    rw [e] at hE;exact ⟨k+1,zJ,zj,uM _,hE⟩
  have aq:qlt k zs.length=false:=zl;go_wp2;go_ret;have hkz:k=zs.length:=zj;subst hkz;have hrow:=A.o.row;rw [Zl zj] at hrow;refine ⟨_,R.map (fun p=>(nmB qs p,p.1)),rfl,?_,⟨R,by rw [<-H2.o.1];exact H3.o.1,H3.o.2.1,rfl⟩,A.o.m8⟩
  rcases hrow.2 with ⟨h0,h1⟩ | ⟨g',cap',cur,h0,_,_,_,_,_,_⟩
  ·refine .inl ⟨h0,?_⟩;rw [Zj] at h1;exact List.map_eq_nil_iff.2 (Zi.1 h1)
  subst h0
  exact .inr ⟨g',cap',rfl,(hrow.lt g' rfl).2,fun j u hj=>by
   have hl:=(uK.1 hj).1
   rw [mv sU] at hl
   rw [hrow.cellAt j zj];exact hj⟩
end
section
open Shelf RowKit Lib Go.Sort Maps
open scoped Classical
structure Q3 (w:qW) (br bt bm n:Nat) (v:Value) (f:Sta):Prop where
 ptr:w.cell? (qA br 6)=some (qP bt)
 cell:t8 w bt bm v
 map:sE prog 3 w bm n f
 aaq:n<=200000
 V9:zar f
theorem Q3.later{w w'}{br bt bm n}{v}{f}(h:Q3 w br bt bm n v f)(hb:qL w w'):Q3 w' br bt bm n v f:=
 ⟨mZ hb h.ptr,(hb.block bt h.cell.lt).trans h.cell,h.map.m8 hb h.map.lt,h.aaq,h.V9⟩
theorem wo{f}{L}(h:zar f)(hL:D4 f L):∀p∈L,Cn p:=fun p hp=>by
 have k:=h.aaa.Y5 p.1 p ((hL.U7 p).1 hp);exact ⟨k.lo,k.hi,k.sz⟩
theorem sA(w)(br bt bm n)(v)(f)(h:Q3 w br bt bm n v f):
  qC 135 #[qP br] w fun e w'=>e= .returned (qP bt)/\w'=w:=by
 have c6:=h.ptr
 have ht:qC 194 #[qP br] w fun e w'=>e= .returned (qP bt)/\w'=w:=by
  go_enter func194,ntmps194;exact ka7
 go_enter func135,ntmps135;go_wp2_with fail;refine ht.mono ?_;rintro e w' ⟨rfl,rfl⟩;exact ka7
theorem Ja(w)(br bt bm n)(v)(f)(h:Q3 w br bt bm n v f)(L)(hL:D4 f L):
  qC 129 #[qP bt] w fun e w'=>∃u,e= .returned u/\Aside (M9 w' u L/\qL w w'):=
 (Ld w bt bm n v f h.V9.aaa h.cell h.map h.aaq).mono fun _ _ ⟨u,qs,h1,h2,_,h4,h5⟩=>⟨u,h1,by rw [hL.q h2];exact ⟨h4,h5⟩⟩
theorem RH(w)(br bt bm n)(v)(f)(h:Q3 w br bt bm n v f)(l8 of)(hk:Wf l8):
  qC 143 #[qP bt,qI l8,qI of] w (qR (.bool (decide (Ins f l8 of))) w):=
 wX w bt bm n f l8 of (decide (Ins f l8 of)) zq h.cell.c0 h.map h.V9.aaa hk
theorem Te(w)(br bt bm n)(v)(f)(h:Q3 w br bt bm n v f)(L)(hL:D4 f L)(hl:L.length<=300)(i)(aK:Lib.TabIs prog w "internal/strconv.uint64pow10" .u64 Lib.pow10Tab):
  qC 103 #[qP br,qI i] w (WH w L i):=by
 have HT:Aside (Lib.TabBelow prog w.heap.size w "internal/strconv.uint64pow10" .u64 Lib.pow10Tab):=Lib.tabBelow_of_tabIs aK;have h1:=sA w br bt bm n v f h;have h2:=Ja w br bt bm n v f h L hL;have HF:Aside (∀p∈L,Cn p):=wo h.V9 hL;go_enter func103,ntmps103;go_wp2_with fail;refine h1.mono ?_;rintro e w1 ⟨rfl,rfl⟩;go_wp2_with fail;refine h2.mono ?_;rintro e w2 ⟨u,rfl,H2⟩;have h3:=DU w2 u L i H2.o.1 hl HF.o (HT.o w2 H2.o.2);go_wp2_with fail;refine h3.mono ?_;rintro e w3 ⟨v',es,rfl,H3⟩;go_wp2;go_ret;exact ⟨v',es,rfl,H3.o.1,H3.o.2.1,zi H2.o.2 H3.o.2.2⟩
end
section
open RowKit Lib Go.Sort Maps
open scoped Classical
theorem Wv(w)(bt bm n)(f)(l8)(ht:w.cell? (qB bt)=some (.map (some bm)))(hm:sE prog 3 w bm n f)(hk:Wf l8):
  qC 200 #[qP bt,qI l8] w (qR (.tuple #[pS ((f l8).getD mM),.bool (f l8).isSome]) w):=by
 have hbt:bt<w.heap.size:=block_lt_of_cell ht
 have hl:∀o,(Instr.lookup 185 (.map (some bm)) (qI l8) true).run prog (w.alloc o)= .ok (.tuple #[pS ((f l8).getD mM),.bool (f l8).isSome]) (w.alloc o):=fun o=>(hm.same (uT _ _ _ hm.lt)).looks hk
 have hc:∀o,(w.alloc o).cell? (qB bt)=some (.map (some bm)):=fun o=>by grind [uV,uT]
 generalize (f l8).isSome=z at hl |-
 generalize (f l8).getD mM=p at hl |-
 obtain ⟨c,q,nm⟩:=p
 unfold pS at hl |-
 dsimp only at hl |-
 go_enter func200,ntmps200;go_wp2;(try simp only [Exit.inBlock,Exit.then]);refine bodyPost_ret (v:=.tuple #[.agg #[qI c,qI q,.string nm],.bool z]) ?_ rfl ⟨rfl,(zh w _).alloc zq _⟩;rw [results_cell_tmp rfl];go_simp
structure J8 (S:Nat->Prop) (W W':qW):Prop where
 X9:∀k,S k->W'.heap[k]? =W.heap[k]?
 plc:∀(k:Nat) (p:Plc),x9 W k p->W'.heap[k]? =W.heap[k]?
theorem J8.trans{S}{A B C}(h:J8 S A B)(k:J8 S B C):J8 S A C:=
 ⟨fun q hq=>(k.X9 q hq).trans (h.X9 q hq),fun q p hq=>(k.plc q p (hq.same (h.plc q p hq))).trans (h.plc q p hq)⟩
theorem J8.m8{S}{W W'}(hS:∀k,S k->k<W.heap.size)(hb:qL W W'):J8 S W W':=
 ⟨fun k hk=>hb.block k (hS k hk),fun k p h=>hb.block k h.lt⟩
theorem nz{W W'}(hb:qL W W'):W.grownBy W' none:=⟨hb.os,hb.tape,hb.output,hb.size,fun i hi _=>hb.block i hi⟩
theorem Da{W W':qW}{k}(h:k<W.heap.size)(e:W'.heap[k]? =W.heap[k]?):k<W'.heap.size:=by
 grind
def LP(l8:Int)(L:List Plc):Nat->Int
 | 0=>l8
 | k+1=>(L.getD k mM).2.1
theorem Vn{f} :∀ {L:List Plc} {l8:Int},UpL f l8 L->∀k,k<=L.length->f (LP l8 L k)=L[k]?
 | [],l8,h,0,_=>h
 | p::L,l8,h,0,_=>h.1
 | p::L,l8,h,k+1,hk=>by
  have ih:=Vn h.2 k (by simpa using hk);rw [Zf,<-ih]
  cases k with
  | zero=>rfl
  | succ k=>rfl
 | [],_,_,k+1,hk=>by simp at hk
theorem zbX(n)(hn:1<=n)(l B1 B2 bt bm nn)(f)(l8)(L)(lD:UpL f l8 L)(G:AV f)(bE:Wf l8)(S)(h1S:S B1)(h2S:S B2)(h3S:S bt)(h4S:S bm)(J Jx:List Nat->World->Prop)
  (hY:∀pre x W,J pre W->pre.length<L.length->YieldAt Fence.wide (n - 1) prog l #[pS (L.getD x mM)] W fun e W'=>
   (e= .returned (.bool true)/\J (pre++ [x]) W'/\J8 S W W')\/(e= .returned (.bool false)/\Jx (pre++ [x]) W'))
  (W) (hJ:AbidesFrom W.heap.size J) (hS:∀k,S k->k<W.heap.size) (c1:W.cell? (qB B1)=some (qP bt)) (c2:W.cell? (qB B2)=some (qI l8)) (ct:W.cell? (qB bt)=some (.map (some bm))) (hm:sE prog 3 W bm nn f) (h0:J [] W):
  CallsIn Fence.wide n prog 199 #[.func (.yield l) #[] #[],qP B1,qP B2] W fun e W'=>(∃v,e= .returned v)/\
   ((∃ys,ys=List.range L.length/\J ys W')\/(∃pre,(∃k,k<=L.length/\pre=List.range k)/\Jx pre W')):=by
 refine callsIn_of_wp func199 rfl trivial ?_ rfl;simp only [ntmps199,Zn,Zd,Zt,Nat.reduceAdd,Nat.reduceSub,Zx,Zy,ZH,ZC,ZE,ZI];have iT:=Wv W bt bm nn f l8 ct hm bE;have u0:=Vn lD 0 (uW _)
 have aD:(f l8).isSome=decide (0<L.length):=by
  rw [show f l8=L[0]? from u0]
  cases L<;>simp
 have hg0:(f l8).getD mM=L.getD 0 mM:=by rw [show f l8=L[0]? from u0];simp [List.getD]
 rw [aD,hg0] at iT
 obtain ⟨p0,hp0e⟩:∃p,Aside (p=L.getD 0 mM):=⟨_,rfl⟩
 have hp0e':=hp0e.o;rw [<-hp0e'] at iT;obtain ⟨c,q,nm⟩:=p0;unfold pS at iT;dsimp only at iT
 have H:Aside (UpL f l8 L/\(S B1/\S B2/\S bt/\S bm)/\(∀k,S k->k<W.heap.size)/\W.cell? (qB bt)=some (.map (some bm))/\sE prog 3 W bm nn f/\W.cell? (qB B1)=some (qP bt)/\J [] W):=⟨lD,⟨h1S,h2S,h3S,h4S⟩,hS,ct,hm,c1,h0⟩
 have HJ:Aside (AbidesFrom W.heap.size J):=hJ;have HY:Aside (∀pre x W,J pre W->pre.length<L.length->YieldAt Fence.wide (n - 1) prog l #[pS (L.getD x mM)] W fun e W'=>(e= .returned (.bool true)/\J (pre++ [x]) W'/\J8 S W W')\/(e= .returned (.bool false)/\Jx (pre++ [x]) W')):=hY;gi_wp2_with (refine ⟨trivial,?_⟩;gi_at_call 200;refine ((callsIn_wide (n:=n - 1)).2 iT).mono ?_;rintro e w' ⟨rfl,hb⟩)
 obtain ⟨b0,hb0⟩:∃b,b=w'.heap.size:=⟨_,rfl⟩
 obtain ⟨X,hX⟩:=za (w'.alloc (.cells #[qI c,qI q,.string nm] 212))
 have hPX:x9 X b0 (L.getD 0 mM):=by rw [hX,hb0,<-hp0e.o];exact heap_alloc_new w' _
 have hbX:qL W X:=by rw [hX];exact hb.alloc hb.size _
 rw [<-hX,<-hb0]
 have H0:Aside (x9 X b0 (L.getD 0 mM)/\qL W X):=⟨hPX,hbX⟩
 gi_loopg [4,5] L.length (fun kx s4 s5 wr=>∃(k b:Nat),s4=qP b/\s5= .bool (decide (k<L.length))/\k<=L.length/\L.length - k<=kx/\Aside (J (List.range k) wr/\J8 S W wr/\x9 wr b (L.getD k mM)))
 case atStart=>exact ⟨0,b0,rfl,rfl,uW _,uM _,HJ.o _ W X none H.o.2.2.2.2.2.2 (nz H0.o.2) (fun r e=>yN),J8.m8 H.o.2.2.1 H0.o.2,H0.o.1⟩
 case round=>
  obtain ⟨k,b,rfl,rfl,hk,aY,A⟩:=hrel;by_cases hlt:k<L.length
  ·rw [decide_eq_true hlt];obtain ⟨p,hpe⟩:=ze (L.getD k mM);obtain ⟨fn,tmps,assign,body,hy,hR⟩:=HY.o (List.range k) k wr A.o.1 zM;have hPw:=A.o.2.2;rw [<-hpe.o] at hy hPw
   have ar:L[k]? =some p:=by
    rw [uL hlt,hpe.o,YF,uL hlt];rfl
   have hfp:f (LP l8 L k)=some p:=by rw [Vn H.o.1 k hk];exact ar
   have hwj:=(tF (G.Y5 _ _ hfp)).2;have u1:=Vn H.o.1 (k+1) hlt
   have aw:(f p.2.1).isSome=decide (k+1<L.length):=by
    have e:LP l8 L (k+1)=p.2.1:=ug;rw [e] at u1;rw [u1];by_cases q:k+1<L.length
    ·simp_all
    simp_all
   have hg1:(f p.2.1).getD mM=L.getD (k+1) mM:=by
    have e:LP l8 L (k+1)=p.2.1:=ug;rw [e] at u1;rw [u1,YF]
   obtain ⟨nd,j,s⟩:=p;unfold pS at hy;dsimp only at hy hwj aw hg1;have x0:=hPw.c0;have x1:=hPw.c1;have x2:=hPw.c2;dsimp only at x0 x1 x2
   have HP:Aside (x9 wr b (nd,j,s)/\Wf j/\(f j).isSome=decide (k+1<L.length)/\(f j).getD mM=L.getD (k+1) mM/\k<L.length):=⟨hPw,hwj,aw,hg1,hlt⟩
   have hR':Aside (RoundIn Fence.wide (n - 1) prog l fn tmps assign body wr fun e W'=>(e= .returned (.bool true)/\J (List.range k++ [k]) W'/\J8 S wr W')\/(e= .returned (.bool false)/\Jx (List.range k++ [k]) W')):=hR;gi_wp2;refine hR'.o.mono ?_;rintro e W3 (⟨rfl,hJ3,hk3⟩ | ⟨rfl,hJx3⟩)
   ·have hP3:=HP.o.1.same (hk3.plc b _ HP.o.1);have hK3:=A.o.2.1.trans hk3;obtain ⟨W4,hW4⟩:=za (W3.alloc (.cells #[qI nd,qI j,.string s] 212))
    have hb4:qL W3 W4:=by rw [hW4];exact zh W3 _
    have fe:∀q,S q->W4.heap[q]? =W.heap[q]? :=fun q hq=>by
     have e3:=hK3.X9 q hq;exact (hb4.block q (Da (H.o.2.2.1 q hq) e3)).trans e3
    have hpl:=Wv W4 bt bm nn f j ((uV (a:=(qB bt)) (fe bt H.o.2.1.2.2.1)).trans H.o.2.2.2.1) (H.o.2.2.2.2.1.same (fe bm H.o.2.1.2.2.2)) HP.o.2.1;rw [HP.o.2.2.1,HP.o.2.2.2.1] at hpl
    obtain ⟨p',hpe'⟩:∃p,Aside (p=L.getD (k+1) mM):=⟨_,rfl⟩
    have hpe'':=hpe'.o;rw [<-hpe''] at hpl;obtain ⟨nd',j',s'⟩:=p';unfold pS at hpl;dsimp only at hpl;have x0:=hP3.c0;have x1:=hP3.c1;have x2:=hP3.c2;dsimp only at x0 x1 x2;have y1:=(uV (a:=(qB B1)) (fe B1 H.o.2.1.1)).trans H.o.2.2.2.2.2.1;rw [hW4] at y1
    have H4:Aside (J (List.range k++ [k]) W3/\J8 S W W3/\qL W3 W4/\x9 W4 W3.heap.size (nd,j,s)/\W4.heap.size=W3.heap.size+1):=⟨hJ3,hK3,hb4,by rw [hW4];exact heap_alloc_new W3 _,zM⟩
    have z1:=H4.o.2.2.2.1.c1;dsimp only at z1;rw [hW4] at z1 hpl;have hW4':=Lib.hid hW4;gi_wp2_with (refine ⟨trivial,?_⟩;gi_at_call 200;refine ((callsIn_wide (n:=n - 1)).2 hpl).mono ?_;rintro e w5 ⟨rfl,hb5⟩;rw [<-hW4'.o] at hb5;have q0:=(H4.o.2.2.2.1.same (hb5.block _ H4.o.2.2.2.1.lt)).c0;have q1:=(H4.o.2.2.2.1.same (hb5.block _ H4.o.2.2.2.1.lt)).c1;have q2:=(H4.o.2.2.2.1.same (hb5.block _ H4.o.2.2.2.1.lt)).c2;have f0:=(H4.o.2.2.2.1.same (hb5.block _ H4.o.2.2.2.1.lt)).fz 0;have f1:=(H4.o.2.2.2.1.same (hb5.block _ H4.o.2.2.2.1.lt)).fz 1;have f2:=(H4.o.2.2.2.1.same (hb5.block _ H4.o.2.2.2.1.lt)).fz 2);gi_roundg (L.length - (k+1))
    case measure=>have:=HP.o.2.2.2.2;omega
    case rel=>
     have hP5:=H4.o.2.2.2.1.same (hb5.block _ H4.o.2.2.2.1.lt);have hb35:=H4.o.2.2.1.trans (hb5.mono (by have:=H4.o.2.2.2.2;omega));have hbS:=x9.aaJ (nd',j',s') hb35 zg;refine ⟨k+1,W3.heap.size,rfl,rfl,HP.o.2.2.2.2,uM _,?_,?_,?_⟩
     ·rw [Yt];exact HJ.o _ W3 _ none H4.o.1 (nz hbS) (fun r e=>yN)
     ·exact ⟨fun q hq=>(hbS.block q (Da (H.o.2.2.1 q hq) (H4.o.2.1.X9 q hq))).trans (H4.o.2.1.X9 q hq),fun q p hp=>by
       have h3:=H4.o.2.1.plc q p hp
       exact (hbS.block q (hp.same h3).lt).trans h3⟩
     rw [<-hpe'.o];exact hP5.abP (nd',j',s')
   gi_wp2;refine bodyPost_ret (results_none rfl _ _ _) rfl ?_;exact ⟨⟨_,rfl⟩,.inr ⟨_,⟨k+1,by have:=HP.o.2.2.2.2;omega,(Yt).symm⟩,hJx3⟩⟩
  rw [decide_eq_false hlt];gi_wp2;go_end0;have e:k=L.length:=zj;subst e;exact ⟨⟨_,rfl⟩,.inl ⟨_,rfl,A.o.1⟩⟩
end
section
open RowKit Lib Go.Sort Maps
theorem Pu(p):∀s:qU,(Lib.index s [p]= -1/\p∉s)\/∃a r,s=a++p::r/\p∉a/\Lib.index s [p]=(a.length:Int)
 | []=>.inl ⟨rfl,zq⟩
 | b::l=>by
  by_cases h:b=p
  ·exact .inr ⟨[],l,by rw [h];rfl,zq,by simp [Lib.index,h]⟩
  have hp: [p].isPrefixOf (b::l)=false:=by simp [List.isPrefixOf,Ne.symm h]
  rcases Pu p l with ⟨h1,h2⟩ | ⟨a,r,h1,h2,h3⟩
  ·exact .inl ⟨by unfold Lib.index;rw [hp,h1];rfl,by simp [h2,Ne.symm h]⟩
  refine .inr ⟨b::a,r,by rw [h1];rfl,by simp [h2,Ne.symm h],?_⟩;unfold Lib.index
  simp_all
theorem DT(x):(⟨x.data.toList.toArray⟩:qY)=x:=zq
def Y8(S:Nat->Prop)(W W':qW):Prop:=∀k,S k->W'.heap[k]? =W.heap[k]?
theorem Y8.trans{S}{A B C}(h:Y8 S A B)(k:Y8 S B C):Y8 S A C:=fun q hq=>(k q hq).trans (h q hq)
structure X8 (B:Nat) (m:Int) (t:qY) (W:qW):Prop where
 txt:Boxed W B 9 (.string t)
 R7:Boxed W (B+1) 9 (.string ⟨#[47]⟩)
 num:Boxed W (B+1+1) 3 (qI 0)
 max:W.cell? (qB 14)=some (qI m)
def zbO(B k:Nat):Prop:=k=B\/k=B+1\/k=B+1+1\/k=14
theorem X8.GC{B}{m}{t}{W W'}(h:X8 B m t W)(hk:Y8 (zbO B) W W'):X8 B m t W':=
 ⟨(hk B (.inl rfl)).trans h.txt,(hk (B+1) (.inr (.inl rfl))).trans h.R7,(hk (B+1+1) (.inr (.inr (.inl rfl)))).trans h.num,(uV (a:=(qB 14)) (hk _ (.inr (.inr (.inr rfl))))).trans h.max⟩
theorem X8.set{B}{m}{t}{W}(h:X8 B m t W)(hB:B≠14)(t'):X8 B m t' (W.setCell (qB B) (.string t')):=
 ⟨h.txt.set _,h.R7.other zj _,h.num.other zj _,(uV (a:=(qB 14)) ((grownBy_setCell' W B _).block _ (uP W (qB 14) h.max) (fun e=>by cases e;exact hB rfl))).trans h.max⟩
theorem Sy(n)(hn:1<=n)(l B)(m)(hB:B≠14)(s)(hs:s.size<=1000000)(J Jx:List qU->World->Prop)(hJ:VX (fun r=>r=B) J)
  (hY:∀pre x W,J pre W->pre.length<(nk 47 s.data.toList).length->YieldAt Fence.wide (n - 1) prog l #[.string ⟨x.toArray⟩] W fun e W'=>(e= .returned (.bool true)/\J (pre++ [x]) W'/\Y8 (zbO B) W W')\/(e= .returned (.bool false)/\Jx (pre++ [x]) W'))
  (W) (h:X8 B m s W) (h0:J [] W):
  CallsIn Fence.wide n prog 254 #[.func (.yield l) #[] #[],qP (B+1),qP B,qP (B+1+1)] W fun e W'=>(∃v,e= .returned v)/\((∃xs,xs=nk 47 s.data.toList/\J xs W')\/∃pre,(∃rest,pre++rest=nk 47 s.data.toList)/\Jx pre W'):=by
 refine callsIn_of_wp func254 rfl trivial ?_ rfl;simp only [ntmps254,Zn,Zd,Zt,Nat.reduceAdd,Nat.reduceSub,Zx,Zy,ZH,ZC,ZE,ZI];have g0:=h.R7.cell
 have H:Aside (X8 B m s W/\J [] W):=⟨h,h0⟩
 have HJ:Aside (VX (fun r=>r=B) J):=hJ;have HY:Aside (∀pre x W,J pre W->pre.length<(nk 47 s.data.toList).length->YieldAt Fence.wide (n - 1) prog l #[.string ⟨x.toArray⟩] W fun e W'=>(e= .returned (.bool true)/\J (pre++ [x]) W'/\Y8 (zbO B) W W')\/(e= .returned (.bool false)/\Jx (pre++ [x]) W')):=hY;clear h h0 hJ hY;gi_wp2;gi_loopg [7,8] s.size (fun kx _ _ wr=>∃(t:qY) (pre:List qU),t.size<=kx/\t.size<=s.size/\Aside (X8 B m t wr/\J pre wr/\pre++nk 47 t.data.toList=nk 47 s.data.toList))
 case atStart=>grind
 case round=>
  obtain ⟨t,pre,htk,iQ,A⟩:=hrel;have c0:=A.o.1.txt.cell;have c1:=A.o.1.R7.cell;have c2:=A.o.1.num.cell;have aT:=Tryz.strings_Index t ⟨#[47]⟩ m wr zj A.o.1.max;have hc:=Pu 47 t.data.toList;have kX:(⟨#[47]⟩:qY).data.toList= [47]:=rfl;rw [kX] at aT;clear kX
  rcases hc with ⟨hi,hno⟩ | ⟨a,r,ht,hno,hi⟩
  ·rw [hi] at aT;obtain ⟨fn,tmps,assign,body,hy,hR⟩:=HY.o pre t.data.toList wr A.o.2.1 (by rw [<-A.o.2.2,ss _ _ hno];simp);rw [DT] at hy;have hR':Aside (RoundIn Fence.wide (n - 1) prog l fn tmps assign body wr fun e W'=>(e= .returned (.bool true)/\J (pre++ [t.data.toList]) W'/\Y8 (zbO B) wr W')\/(e= .returned (.bool false)/\Jx (pre++ [t.data.toList]) W')):=hR;clear hR;gi_wp2_with (refine ⟨trivial,?_⟩;gi_at_call 149;refine ((callsIn_wide (n:=n - 1)).2 aT).mono ?_;rintro e w' ⟨rfl,rfl⟩);refine hR'.o.mono ?_;clear hR' hy c0 c1 c2;rintro e W3 (⟨rfl,hJ3,_⟩ | ⟨rfl,hJx3⟩)
   ·gi_wp2;go_end0;exact ⟨⟨_,rfl⟩,.inl ⟨_,rfl,by rw [<-A.o.2.2,ss _ _ hno];exact hJ3⟩⟩
   gi_wp2;go_end0;exact ⟨⟨_,rfl⟩,.inr ⟨_,⟨[],by rw [Ye,<-A.o.2.2,ss _ _ hno]⟩,hJx3⟩⟩
  rw [hi] at aT
  have hlen:t.size=a.length+1+r.length:=by
   have:=oq t;rw [ht] at this;simp only [uS,Zd] at this;omega
  have hcut:pre++(a::nk 47 r)=nk 47 s.data.toList:=by rw [<-A.o.2.2,ht,nK _ _ _ hno]
  obtain ⟨fn,tmps,assign,body,hy,hR⟩:=HY.o pre a wr A.o.2.1 (by rw [<-hcut];simp);have hR':Aside (RoundIn Fence.wide (n - 1) prog l fn tmps assign body wr fun e W'=>(e= .returned (.bool true)/\J (pre++ [a]) W'/\Y8 (zbO B) wr W')\/(e= .returned (.bool false)/\Jx (pre++ [a]) W')):=hR
  have efrag:t.extract 0 a.length=⟨a.toArray⟩:=by
   apply ByteArray.ext;apply Qb.1;simp [ht]
  have erest:t.extract (a.length+1) t.size=⟨r.toArray⟩:=by
   apply ByteArray.ext;apply Qb.1;rw [hlen];simp [ht]
  have p1:(0:Int)<=(a.length:Int):=zj;have p2:(a.length:Int)<=(t.size:Int):=zj;have p3:(a.length:Int)+1<=(t.size:Int):=zj;have w0:IntKind.i64.wrap ((a.length:Int)+0)=(a.length:Int):=zw;have w1:IntKind.i64.wrap ((a.length:Int)+1)=(a.length:Int)+1:=zw;have d0:decide ((a.length:Int)<0)=false:=zq
  have HA:Aside (t.data.toList=a++47::r/\t.size=a.length+1+r.length/\pre++(a::nk 47 r)=nk 47 s.data.toList):=⟨ht,hlen,hcut⟩
  clear hR ht hlen hcut hi hno;gi_wp2_with (refine ⟨trivial,?_⟩;gi_at_call 149;refine ((callsIn_wide (n:=n - 1)).2 aT).mono ?_;rintro e w' ⟨rfl,rfl⟩);refine hR'.o.mono ?_;clear hR' hy c0 c1 c2;rintro e W3 (⟨rfl,hJ3,hk3⟩ | ⟨rfl,hJx3⟩)
  ·have S3:=A.o.1.GC hk3;have c0:=S3.txt.cell;have c1:=S3.R7.cell;have f0:=S3.txt.frozen
   have H3:Aside (X8 B m t W3/\J (pre++ [a]) W3):=⟨S3,hJ3⟩
   clear S3 hJ3 hk3;gi_wp2;gi_roundg r.length
   case measure=>have:=HA.o.2.1;omega
   case rel=>
    have er:(⟨r.toArray⟩:qY).size=r.length:=vY;refine ⟨⟨r.toArray⟩,pre++ [a],zj,by have:=HA.o.2.1;omega,H3.o.1.set hB _,HJ.o _ W3 _ (some B) H3.o.2 (grownBy_setCell' W3 B _) (fun q e=>vh),?_⟩;rw [<-HA.o.2.2,Zr];rfl
  gi_wp2;refine bodyPost_ret (results_none rfl _ _ _) rfl ?_;exact ⟨⟨_,rfl⟩,.inr ⟨_,⟨nk 47 r,by rw [<-HA.o.2.2,Zr];rfl⟩,hJx3⟩⟩
theorem Ph(n)(hn:1<=n)(B)(m)(hB:B≠14)(s)(hs:s.size<=1000000)(w)(h:X8 B m s w):
  zek n prog 254 #[qP (B+1),qP B,qP (B+1+1)] (fun r=>r=B) (fun x:qU=>.string ⟨x.toArray⟩) (Y8 (zbO B)) (fun xs=>xs=nk 47 s.data.toList) (fun pre=>∃rest,pre++rest=nk 47 s.data.toList) (nk 47 s.data.toList).length w:=fun l J Jx W hW hJ _ hY h0=>by
 refine Sy n hn l B m hB s hs J Jx hJ hY W (h.GC fun k hk=>hW.block k ?_) h0
 rcases hk with rfl | rfl | rfl | rfl
 ·exact h.txt.lt
 ·exact h.R7.lt
 ·exact h.num.lt
 exact uP w (qB 14) h.max
theorem GV(w)(s):qC 140 #[.string s,.string ⟨#[47]⟩] w fun e w'=>e= .returned (.func (.func 254) #[] #[qP (w.heap.size+1),qP w.heap.size,qP (w.heap.size+1+1)])/\w'=((w.alloc (.cells #[.string s] 9)).alloc (.cells #[.string ⟨#[47]⟩] 9)).alloc (.cells #[qI 0] 3):=by
 have h1:qC 198 #[.string s,.string ⟨#[47]⟩,qI 0] w fun e w'=>e= .returned (.func (.func 254) #[] #[qP (w.heap.size+1),qP w.heap.size,qP (w.heap.size+1+1)])/\w'=((w.alloc (.cells #[.string s] 9)).alloc (.cells #[.string ⟨#[47]⟩] 9)).alloc (.cells #[qI 0] 3):=by
  go_enter func198,ntmps198;exact ka7
 go_enter func140,ntmps140;go_wp2_with fail;refine h1.mono ?_;rintro e w' ⟨rfl,rfl⟩;exact ka7
end
section
open RowKit Lib Go.Sort
def WJ(e:Enx):Value:=.agg #[.string e.1,qI e.2]
def aao(w:qW)(ao:qO)(es:List Enx):Prop:=es= []\/∃g off,ao=some (qA g off)/\∀j u,(mN se es)[j]? =some u->w.cell? (qA g (off+j))=some u
theorem aao.later{w w'}{ao}{es}(h:aao w ao es)(hb:qL w w'):aao w' ao es:=by
 rcases h with h | ⟨g,o,h1,h2⟩
 ·exact .inl h
 exact kk8
theorem abp.abJ{w}{v}{es}(h:abp w v es):∃ao cap,v= .slice ao es.length cap/\aao w ao es:=by
 rcases h with ⟨h,e⟩ | ⟨g,cap,h,_,hc⟩
 ·exact ⟨none,0,by rw [h,e];rfl,.inl e⟩
 exact kp4
theorem aao.e{w}{ao}{es}(h:aao w ao es){k}{p}(hk:es[k]? =some p):∃g off,ao=some (qA g off)/\w.cell? (qA g (off+k*2))=some (.string p.1)/\w.cell? (qA g (off+k*2+1))=some (qI p.2):=by
 rcases h with h | ⟨g,off,h1,h2⟩
 ·simp_all
 refine ⟨g,off,h1,?_,?_⟩
 ·exact h2 (k*2) _ (by have:=me sU hk (c:=0) zj;rw [ZG] at this;rw [this];rfl)
 rw [Yx];exact h2 (k*2+1) _ (by rw [me sU hk zj];rfl)
def zco(g:Nat)(lb:Array Value)(xs:List Enx)(p:Enx->Bool)(l9:Nat)(w:qW):Prop:=
 ∀(W:qW) (x:Enx),x∈xs->Below l9 w W->Calls prog g (#[WJ x]++lb) W (qR (.bool (p x)) W)
def zeD(p:Enx->Bool)(zs:List Enx)(r:Int):Prop:=
 (r= -1/\∀x∈zs,p x=false)\/∃k x,r=((k:Nat):Int)/\zs[k]? =some x/\p x=true/\∀j y,j<k->zs[j]? =some y->p y=false
theorem Pe(p)(g:Nat)(lb)(eg:∀args w,(callFunc g args).run prog w= .ok (.enter g args) w)(ao)(cap l9)(zs)(w)(aj:l9<=w.heap.size)(hp:zco g lb zs p l9 w)(fD:zs.length<=1000000)(ar:aao w ao zs):
  qC 141 #[.slice ao zs.length cap,.func (.func g) #[] lb] w fun e w'=>∃r:Int,e= .returned (qI r)/\Aside (zeD p zs r/\qL w w'):=by
 have HP:Aside (zco g lb zs p l9 w/\l9<=w.heap.size):=⟨hp,aj⟩
 have HI:Aside (aao w ao zs):=ar;go_enter func141,ntmps141;go_wp2;go_loopg [5,8] zs.length (fun kx _ s8 wr=>∃(k:Nat),s8=qN k/\k<=zs.length/\zs.length - k<=kx/\Aside (qL w wr/\∀j l,j<k->zs[j]? =some l->p l=false))
 case atStart=>exact ⟨0,rfl,uW _,uM _,⟨uO _ w,fun j l hj=>zj⟩⟩
 case round=>
  obtain ⟨k,rfl,hk,aY,A⟩:=hrel;by_cases hlt:k<zs.length
  ·have aq:qlt k zs.length=true:=by simp;omega
   have ek:((k:Int)).toNat=k:=zj;have pk:(0:Int)<=(k:Int):=zj;have bk:(k:Int)<(zs.length:Int):=zj
   obtain ⟨⟨s,nd⟩,hl⟩:∃l,Aside (zs[k]? =some l):=⟨zs[k],uL hlt⟩
   obtain ⟨blk,off,aH,r0,r1⟩:=(HI.o.later A.o.1).e hl.o;subst aH;dsimp only at r0 r1;have ac:=HP.o.1 wr (s,nd) (uR hl.o) (A.o.1.mono HP.o.2);unfold WJ at ac;dsimp only at ac
   cases hq:p (s,nd) with
   | true=>
    exact kg0
   | false=>
    rw [hq] at ac;have HQ:=Lib.hid hq;go_wp2_with (go_at_fn g;refine ac.mono ?_;rintro e w' ⟨rfl,hb'⟩);go_roundg (zs.length - (k+1))
    case measure=>omega
    case rel=>
     refine ⟨k+1,zJ,zj,uM _,⟨zi A.o.1 hb',fun j l hj e=> ?_⟩⟩
     rcases Yv j k with h | h
     ·exact A.o.2 j l h e
     exact kg3
  exact kb5
theorem Sr(W)(B)(q)(nm)(hB:W.cell? (qB B)=some (.string nm)):
  qC 142 (#[WJ q]++ #[qP B]) W (qR (.bool (decide (q.1=nm))) W):=by
 obtain ⟨s,n⟩:=q;have hlt:=uP W (qB B) hB
 have g0:=fun o=>mZ ((uO _ W).alloc zg o) hB
 have e0:=Xa s nm;clear hB;unfold WJ
 dsimp only at hlt |-
 rw [<-e0];clear e0;go_enter func142,ntmps142;exact ke9
end
section
open RowKit Lib Go.Sort Maps
open scoped Classical
theorem UG(n)(hn:1<=n)(B1 B2 bt bm nn)(f)(l8)(L)(lD:UpL f l8 L)(G:AV f)(bE:Wf l8)(S)(h1S:S B1)(h2S:S B2)(h3S:S bt)(h4S:S bm)(w)(hS:∀k,S k->k<w.heap.size)
  (c1:w.cell? (qB B1)=some (qP bt)) (c2:w.cell? (qB B2)=some (qI l8)) (ct:w.cell? (qB bt)=some (.map (some bm))) (hm:sE prog 3 w bm nn f):
  SeqStopsK Fence.wide n prog 199 #[qP B1,qP B2] (fun x:Nat=> #[pS (L.getD x mM)]) (J8 S) (fun ys=>ys=List.range L.length) (fun pre=>∃k,k<=L.length/\pre=List.range k) L.length w:=fun l J Jx W hW hJ _ hY h0=>
 zbX n hn l B1 B2 bt bm nn f l8 L lD G bE S h1S h2S h3S h4S J Jx hY W hJ (fun k hk=>uY (hS k hk) hW.size) ((hW.cell (p:=(qB B1)) (hS _ h1S)).trans c1) ((hW.cell (p:=(qB B2)) (hS _ h2S)).trans c2) ((hW.cell (p:=(qB bt)) (hS _ h3S)).trans ct) (hm.same (hW.block bm (hS _ h4S))) h0
theorem Mh(w)(bt)(l8):qC 144 #[qP bt,qI l8] w fun e w'=>e= .returned (.func (.func 199) #[] #[qP w.heap.size,qP (w.heap.size+1)])/\w'=(w.alloc (.cells #[qP bt] 131)).alloc (.cells #[qI l8] 3):=by
 go_enter func144,ntmps144;exact ka7
theorem Oi(w)(br):qC 106 #[qP br,qI 0] w fun e w'=>e= .returned (.tuple #[.string ⟨#[47]⟩,.bool true])/\w'=w:=by
 go_enter func106,ntmps106;go_wp2;go_ret2;exact kh6
theorem Uz(w)(br bt bm n)(v)(f)(h:Q3 w br bt bm n v f)(l8)(bE:Wf l8)(h0:l8≠0)(cn:¬Ins f l8 0):
  qC 106 #[qP br,qI l8] w (qR (.tuple #[.string ⟨#[]⟩,.bool false]) w):=by
 have h1:=sA w br bt bm n v f h;have h2:=RH w br bt bm n v f h l8 0 bE;rw [decide_eq_false cn] at h2;have d0:(l8==0)=false:=xn;go_enter func106,ntmps106;go_wp2_with fail;refine h1.mono ?_;rintro e w1 ⟨rfl,hw⟩;obtain rfl:=hw.symm;go_wp2_with fail;refine h2.mono ?_;rintro e w2 ⟨rfl,hb⟩;go_wp2;go_ret2;exact ⟨rfl,hb⟩
section
variable {P:Program} {ops:Array Oper} {Q:Exit→Act→World→Prop} {S:World→Prop} {z:Nat}
theorem BI{l n id}{a}{w}(hm:P.follows .mixedOrders=true)(hd:FK ops=true)(hno:¬LetsOut Q)(hS:S w.drew)
  (h:S w.drew->nF P .any ops Q S z ops.size (Array.replicate ops.size false) a w.drew):(Code.region id ops true).wpIn (Fence.wide.inRound l) n P Q a w:=
 wpIn_region_any hm (oB hd hno _ _ _ _ (Av _ _ _ _ (h hS)))
end
theorem zdI:(prog.info? 9).map (fun i=>(i.zero,i.size,i.bytes))=some (some (.string ⟨#[]⟩),1,16):=zk
def zbN(b:qY):List Value:=[.string b]
def Wo(qs L:List Plc)(pre:List Nat):List ByteArray:=pre.map fun x=>⟨#[47]⟩++nmB qs (L.getD x mM)
def zas(qs L:List Plc):qU:=Lib.join ((Wo qs L (List.range L.length)).reverse.map (·.data.toList)) []
theorem J8.put{S}{N}(hS:∀k,S k->k<N)(W)(l)(o o')(hl:N<=l)(ho:W.heap[l]? =some o)(hc:o.isCells=false):J8 S W (W.putObj l o'):=by
 have g:=grownBy_putObj' W l o';refine ⟨fun k hk=> ?_,fun k p hp=> ?_⟩
 ·by_cases e:k<W.heap.size
  ·exact g.block k e (fun q=>by have:=hS k hk;cases q;omega)
  simp_all
 refine g.block k hp.lt (fun q=> ?_)
 cases q
 unfold x9 at hp;rw [hp] at ho
 cases ho
 cases hc
structure aap (w4:qW) (B:Nat) (qs L:List Plc) (pre:List Nat) (v:Value) (W:qW):Prop where
 F9:Boxed W (B+1) 22 v
 row:W.ownsRow (B+4) 9 1 v pre.length (mN zbN (Wo qs L pre))
 size:w4.heap.size<=W.heap.size
 GC:m7 (fun k=>k=B+1) w4 W
theorem aap.L4(w4)(B)(hB:w4.heap.size=B+4)(qs L):OwnFrom w4.heap.size (fun pre W=>∃v,aap w4 B qs L pre v W):=fun pre X Y row hs hg hr=>by
 obtain ⟨v,h⟩:=hs;obtain ⟨v',h1,h2,h3⟩:=holdsRow_own (B+4) (B+1) 22 9 1 (fun pre:List Nat=>pre.length) (fun pre=>mN zbN (Wo qs L pre)) (fun _ u=>u=v) pre X Y row ⟨v,h.F9,h.row,rfl⟩ hg (fun r e=>(hr r e).2);subst h3;exact ⟨v',h1,h2,uQ h.size hg.size,h.GC.Y hg (fun r e=>(hr r e).1)⟩
theorem RR{w4}{B}{qs L}{pre}{v}{W}(h:aap w4 B qs L pre v W)(hB:w4.heap.size=B+4){w5}(hb:Below W.heap.size W w5)(x)(hn:pre.length<=1000)(S)(hS:∀k,S k->k<B+4/\k≠B+1)(ty):
  ∃g cap w6,(Builtin.append_ #[22,22] ty #[v,.slice (some ⟨w5.heap.size,0,none⟩) 1 1]).run prog (w5.alloc (.cells #[.string (⟨#[47]⟩++nmB qs (L.getD x mM))] 9))= .ok (.slice (some ⟨g,0,none⟩) (pre.length+1) cap) w6/\w6.cell? ⟨B+1,0,none⟩=some v/\w6.frozen? ⟨B+1,0,none⟩=false/\
   Aside (aap w4 B qs L (pre++ [x]) (.slice (some ⟨g,0,none⟩) (pre.length+1) cap) (w6.setCell ⟨B+1,0,none⟩ (.slice (some ⟨g,0,none⟩) (pre.length+1) cap))/\KeepsOthers W (w6.setCell ⟨B+1,0,none⟩ (.slice (some ⟨g,0,none⟩) (pre.length+1) cap))/\J8 S W (w6.setCell ⟨B+1,0,none⟩ (.slice (some ⟨g,0,none⟩) (pre.length+1) cap))/\w6.heap[B]? =W.heap[B]? /\∀k p,x9 W k p->w6.heap[k]? =W.heap[k]?):=by
 have hsz:=h.size;obtain ⟨v',w6,ae,HO⟩:=QU (enc:=zbN) (k:=1) (S:=22) (T:=9) underlying22 zdI zj zj rfl (fun _=>rfl) (fun x u hu=>by simp only [zbN,uZ,ZS,or_false] at hu;rw [hu];rfl) h.row zj hb (⟨#[47]⟩++nmB qs (L.getD x mM)) hn ty;obtain ⟨hown,hkeep,hs5,fi⟩:=HO.o;obtain ⟨g,cap,rfl⟩:=ownsRow_succ hown;have hgB:=(hown.lt g rfl).1;have hW5:=hb.size
 have hvB:∀q,v.ownBlock=some q->B+4<=q:=fun q hq=>(h.row.lt q hq).1
 have hbx6:Boxed w6 (B+1) 22 v:=by
  have e:w6.heap[B+1]? =W.heap[B+1]? :=by
   rw [hkeep (B+1) zj (fun q=>zM),hb.block (B+1) zj]
  exact e.trans h.F9
 have gs:=grownBy_setCell' w6 (B+1) (.slice (some ⟨g,0,none⟩) (pre.length+1) cap)
 have fq:∀q,q<W.heap.size->v.ownBlock≠some q->q≠B+1->(w6.setCell ⟨B+1,0,none⟩ (.slice (some ⟨g,0,none⟩) (pre.length+1) cap)).heap[q]? =W.heap[q]? :=fun q hq hne gH=>by
  rw [gs.block q zj (fun e=>zM),hkeep q zj hne,hb.block q hq]
 refine ⟨g,cap,w6,ae,hbx6.cell,hbx6.frozen,⟨⟨?_,?_,?_,?_⟩,⟨?_,?_⟩,⟨?_,?_⟩,?_,?_⟩⟩
 ·exact hbx6.set _
 ·have:=hown.kept gs (.inr (by simp only [Value.ownBlock];intro e;cases e;omega));rw [uS,ZO]
  grind [mN,zbN,Wo,nmB,mM,nS]
 ·grind
 ·exact ⟨gs.os.trans (fi.os.trans h.GC.os),gs.tape.trans (fi.tape.trans h.GC.tape),gs.output.trans (fi.output.trans h.GC.output),zN,fun k hk hs=>(fq k zj (fun q=>zN) hs).trans (h.GC.block k hk hs)⟩
 ·have:=gs.size;omega
 ·intro k o hk ho;have hkl:=(uN.1 hk).1;refine (fq k hkl (fun e=> ?_) (fun e=> ?_)).trans hk
  ·rcases h.row.2 with ⟨h0,_⟩ | ⟨g',cap',cur,h0,_,hgb,_⟩
   ·rw [h0] at e;cases e
   rw [h0] at e
   cases e
   rw [hgb] at hk
   cases hk
   cases ho
  have:=h.F9;unfold Boxed at this;rw [<-e,hk] at this
  cases this
  cases ho
 ·grind
 ·intro k p hp;refine fq k hp.lt (fun e=> ?_) (fun e=> ?_)
  ·rcases h.row.2 with ⟨h0,_⟩ | ⟨g',cap',cur,h0,_,hgb,_⟩
   ·rw [h0] at e;cases e
   rw [h0] at e
   cases e
   grind [x9]
  have hx:=h.F9;unfold Boxed at hx
  grind [x9]
 ·rw [hkeep B zj (fun q=>zN),hb.block B zj]
 intro k p hp;rw [hkeep k (by have:=hp.lt;omega) (fun e=> ?_),hb.block k hp.lt]
 rcases h.row.2 with ⟨h0,_⟩ | ⟨g',cap',cur,h0,_,hgb,_⟩
 ·rw [h0] at e;cases e
 rw [h0] at e
 cases e
 grind [x9]
theorem KJ{qs}{p}(h:Cn p):(nmB qs p).size<=2000:=by
 have h1:=h.2.2
 have h2:(Lib.itoa p.1).length<=1000:=by have:=Lib.itoa_length_le p.1 (by have:=h.1;omega) (by have:=h.2.1;omega);omega
 unfold nmB;split
 ·rw [YR,YR];have e:(⟨(Lib.itoa p.1).toArray⟩:qY).size=(Lib.itoa p.1).length:=vY;have e1:(⟨#[126]⟩:qY).size=1:=rfl;omega
 omega
theorem SP(l):Lib.join l []=l.flatten:=by
 cases l with
 | nil=>rfl
 | cons a r=>rw [Lib.join_cons];simp [Lib.joinTail]
theorem Dr{m} :∀(l:List qU),(∀x∈l,x.length<=m)->l.flatten.length<=l.length*m
 | [],_=>zq
 | a::r,h=>by
  have h1:=h a Zq;have h2:=Dr r (fun x hx=>h x (Za _ hx));rw [List.flatten_cons,uS,Zd,Nat.succ_mul];omega
theorem zad(w)(g cap)(xs:List ByteArray)(hc:∀(j:Nat) x,xs[j]? =some x->w.cell? (qA g j)=some (.string x))(hf:∀j,w.frozen? (qA g j)=false)(hn:xs.length<=1000000):
  qC 146 #[qG g xs.length cap] w fun e w'=>e=qT #[]/\Aside ((∀(j:Nat) x,xs.reverse[j]? =some x->w'.cell? (qA g j)=some (.string x))/\m7 (fun k=>k=g) w w'):=by
 have hH:Holds encStr w g 0 (xs.map (·.data.toList)).toArray:=fun j hj=>by
  simp_all
 have h:=Tryz.slices_Reverse_string g 0 cap (xs.map (·.data.toList)) w hH zN;rw [Zj] at h;refine h.mono ?_;rintro e w' ⟨rfl,n,rfl⟩;have hH2:=holds_putRow encStr (Sort.ahead w n) g 0 (xs.map (·.data.toList)).toArray (xs.map (·.data.toList)).reverse.toArray (show Holds encStr (Sort.ahead w n) g 0 (xs.map (fun x:ByteArray=>x.data.toList)).toArray from fun j hj=>hH j hj) zq;refine ⟨rfl,fun j x hj=> ?_,⟨rfl,rfl,rfl,?_,fun k hk hs=> ?_⟩⟩
 ·have hl:=(uK.1 hj).1;have eK:j<(xs.map (·.data.toList)).reverse.toArray.size:=qx;have k:=(hH2 j eK).1
  simp_all
 ·simp [Sort.ahead]
 have hgk:g≠k:=fun e=>hs e.symm
 simp [putRow,mapBlock,Sort.ahead,Array.getElem?_modify,hgk]
theorem zbt(w)(br bt bm n)(v)(f)(h:Q3 w br bt bm n v f)(qs)(hq:D4 f qs)(hql:qs.length<=300)(l8)(bE:Wf l8)(h0:l8≠0)(ar:Ins f l8 0)(L)(lD:UpL f l8 L)
  (aK:Lib.TabIs prog w "internal/strconv.uint64pow10" .u64 Lib.pow10Tab):
  qC 106 #[qP br,qI l8] w (qR (.tuple #[.string ⟨(zas qs L).toArray⟩,.bool true]) w):=by
 have HT:Aside (Lib.TabBelow prog w.heap.size w "internal/strconv.uint64pow10" .u64 Lib.pow10Tab):=Lib.tabBelow_of_tabIs aK;have h1:=sA w br bt bm n v f h;have h2:=RH w br bt bm n v f h l8 0 bE;rw [decide_eq_true ar] at h2;have d0:(l8==0)=false:=xn;have HI:Aside (Ins f l8 0):=ar;have HL:Aside (L.length<=300):=uQ (zdm h.V9.aaa hq lD) hql
 have H:Aside (Q3 w br bt bm n v f/\D4 f qs/\UpL f l8 L/\Wf l8/\(∀p∈qs,Cn p)):=⟨h,hq,lD,bE,wo h.V9 hq⟩
 have H3:Aside (∀W,qL w W->qC 129 #[qP bt] W fun e w'=>∃u,e= .returned u/\Aside (M9 w' u qs/\qL W w')):=fun W hW=>Ja W br bt bm n v f (h.later hW) qs hq
 have kW:∀x:Nat,Cn (L.getD x mM):=fun x=>by
  by_cases q:x<L.length
  ·have e:L.getD x mM=L[x]:=by rw [YF,uL q];rfl
   rw [e]
   rcases Sj H.o.2.2.1 _ (Qc q) with k | ⟨y,k⟩
   ·exact H.o.2.2.2.2 _ ((H.o.2.1.U7 _).2 k)
   exact H.o.2.2.2.2 _ ((H.o.2.1.U7 _).2 (by rw [H.o.1.V9.aaa.T9 y _ k];exact k))
  have e:L.getD x mM=mM:=by rw [YF,List.getElem?_eq_none zj];rfl
  rw [e];exact ⟨zo,zo,zo⟩
 refine (callsIn_wide (n:=4)).1 ?_;refine callsIn_of_wp_marks func106 rfl trivial ?_ rfl;simp only [ntmps106,Zn,Zd,Zt,Nat.reduceAdd,Nat.reduceSub,Zx,Zy,ZH,ZC,ZE,ZI]
 gi_wp2_with (first
  | (refine ⟨trivial,?_⟩;gi_at_call 135;refine ((callsIn_wide (n:=4 - 1)).2 h1).mono ?_;rintro e w1 ⟨rfl,hw1⟩;obtain rfl:=hw1.symm)
  | (refine ⟨trivial,?_⟩;gi_at_call 143;refine ((callsIn_wide (n:=4 - 1)).2 h2).mono ?_;rintro e w2 ⟨rfl,hb2⟩;have h3:=H3.o w2 hb2)
  | (refine ⟨trivial,?_⟩;gi_at_call 129;refine ((callsIn_wide (n:=4 - 1)).2 h3).mono ?_;rintro e w3 ⟨u,rfl,H4⟩;obtain ⟨ao,cap,rfl,hP⟩:=H4.o.1.abJ)
  | (refine ⟨trivial,?_⟩;gi_at_call 144;refine ((callsIn_wide (n:=4 - 1)).2 (Mh _ bt l8)).mono ?_;rintro e w4 ⟨rfl,rfl⟩))
 obtain ⟨B,hB⟩:=za w3.heap.size;obtain ⟨w4,cR⟩:=za (((((w3.alloc (.cells #[.slice ao qs.length cap] 209)).alloc (.cells #[qE] 22)).alloc (.cells #[qP bt] 131)).alloc (.cells #[qI l8] 3)));have e4:=zbU w3 (.cells #[.slice ao qs.length cap] 209) (.cells #[qE] 22) (.cells #[qP bt] 131) (.cells #[qI l8] 3)
 have iR:w4.heap.size=B+4:=by rw [cR,hB];simp
 have eQ:qL w3 w4:=qe;rw [<-cR,<-hB] at e4;rw [<-cR,<-hB];obtain ⟨k1,k2,k3,k4⟩:=e4;have e1:Boxed w4 B 209 (.slice ao qs.length cap):=k1;have e2:Boxed w4 (B+1) 22 qE:=k2;have e3:Boxed w4 (B+1+1) 131 (qP bt):=k3;have e5:Boxed w4 (B+1+1+1) 3 (qI l8):=k4;have cu:=(zi hb2 H4.o.2).trans (eQ.mono ui);have V4:=H.o.1.later cu;have hwB:w.heap.size<=B:=ui;have hP4:=hP.later eQ
 have H6:Aside (S7 w3 ao qs/\qL w3 w4/\B=w3.heap.size):=⟨hP,eQ,hB⟩
 have H5:Aside (S7 w4 ao qs/\qL w w4/\Boxed w4 B 209 (.slice ao qs.length cap)/\w4.heap.size=B+4/\w.heap.size<=B):=⟨hP4,cu,e1,iR,hwB⟩
 have hbt:=H.o.1.cell.lt;have hbm:=H.o.1.map.lt;clear cR hB k1 k2 k3 k4 hP hb2 h1 h2 h3 eQ
 refine wpIn_rangeFunc_ownH rfl zj (gf:=199) (lb:= #[qP (B+1+1),qP (B+1+1+1)]) rfl trivial (enters_of func199 zk rfl)
  (UG (4 - 1) zj (B+1+1) (B+1+1+1) bt bm n f l8 L H.o.2.2.1 H.o.1.V9.aaa H.o.2.2.2.1 (fun k=>k<B+4/\k≠B+1) ⟨zj,zj⟩ ⟨zj,zj⟩ ⟨zj,zj⟩ ⟨zj,zj⟩ w4 (fun k hk=>by rw [iR];exact hk.1) e3.cell e5.cell V4.cell.c0 V4.map) J8.trans (fun W l o o' hl ho hc _=>J8.put (N:=B+4) (fun k hk=>hk.1) W l o o' zj ho hc) (uO _ _) (fun _=>rfl)
  (fun pre W=>∃v,aap w4 B qs L pre v W)
  (fun _ _ _=>False)
  (aap.L4 w4 B iR qs L)
  (fun _ _ _ _ _ hs _ _=>hs)
  ⟨_,e2,Zk w4 _ _ _,uM _,m7.refl _ _⟩
  (fun x a' W=>∃Bx,w4.heap.size<=Bx/\x9 W Bx (L.getD x mM)/\a'= {tmps:= #[qP br,qI l8,undef,undef,.string ⟨#[]⟩,.bool false,qP bt,qP B,qP (B+1),qP Bx,qP br,.bool false,qI l8,.bool false,qP br,qP bt,qP bt,qI l8,.bool true,.bool false,qP bt,.slice ao qs.length cap,qP bt,qI l8,.func (.func 199) #[] #[qP (B+1+1),qP (B+1+1+1)],pS (L.getD x mM),undef,undef,undef,undef,undef,undef,undef,undef,undef,undef,undef],defers:=[]})
  (fun x a'=>Own.from (fun _ X Y row hs hg hr=>zZ) _)
  ?assign ?body ?done ?stop
 case assign=>
  rintro l pre x W K ⟨v0,hA⟩ hK;have df:Aside _:=hK;have hsz:=hA.size;obtain ⟨p,hp⟩:=za (L.getD x mM);rw [<-hp];rw [<-hp] at df;obtain ⟨nd,j,s⟩:=p;unfold pS;dsimp only;gi_wp2;rw [Oper.semAt_eq _ _ _ (fun c h=>qd)];go_simp;gi_wp2;rw [Oper.semAt_eq _ _ _ (fun c h=>qd)];go_simp;gi_wp2;refine df.o _ _ ((KeepsOthers.alloc _ _).from _) (J8.m8 (fun k hk=>by have:=hk.1;omega) (zh W _)) ⟨v0,hA.F9.alloc _,hA.row.alloc _,by rw [Zv];omega,hA.GC.alloc _⟩ ⟨W.heap.size,zj,heap_alloc_new W _,rfl⟩
 case body=>
  rintro l pre x a' W hl _ ⟨v0,hA⟩ ⟨Bx,hBx,hE,rfl⟩ hlt;have hfq:=kW x;have hBW:=H5.o.2.1.trans (hA.GC.m8 H5.o.2.1.size (fun k e=>by have:=H5.o.2.2.2.2;omega));have hPW:=H6.o.1.later (H6.o.2.1.trans (hA.GC.m8 H6.o.2.1.size (fun k e=>by have:=H6.o.2.2;omega)));have gL:qL W W.drew:=(uO _ W).drew;have aR:=Dd W.drew ao cap qs (L.getD x mM) (hPW.later gL) zj hfq.1 hfq.2.1 hfq.2.2 (HT.o _ (zi hBW gL));have hns:=KJ (qs:=qs) hfq
  have HW:Aside (aap w4 B qs L pre v0 W/\x9 W Bx (L.getD x mM)):=⟨hA,hE⟩
  have g1:W.drew.cell? (qB (B+1))=some v0:=hA.F9.cell;have g2:W.drew.cell? (qB B)=some (.slice ao qs.length cap):=(uV (a:=(qB B)) (hA.GC.block B zj zj)).trans H5.o.2.2.1.cell;have x0:W.drew.cell? (qB Bx)=some (qI (L.getD x mM).1):=hE.c0;have x1:W.drew.cell? (qA Bx 1)=some (qI (L.getD x mM).2.1):=hE.c1;have x2:W.drew.cell? (qA Bx 2)=some (.string (L.getD x mM).2.2):=hE.c2;obtain ⟨nm,dr⟩:=za (nmB qs (L.getD x mM));rw [<-dr] at aR hns;have HN:=Lib.hid dr;have hlen:pre.length<=1000:=uo;clear dr hA hE hPW gL hfq;generalize L.getD x mM=p at aR x0 x1 x2;obtain ⟨nd,j,s⟩:=p;unfold pS at aR;dsimp only at aR x0 x1 x2;have n1:¬9223372036854775807<1+nm.size:=zj;gi_wp2;refine BI (z:=7) (S:=fun w'=>w'.cell? (qB (B+1))=some v0/\w'.cell? (qB B)=some (.slice ao qs.length cap)/\w'.cell? (qB Bx)=some (qI nd)/\w'.cell? (qA Bx 1)=some (qI j)/\w'.cell? (qA Bx 2)=some (.string s)) zk zk xO ⟨g1,g2,x0,x1,x2⟩ (fun aa=> ?_);refine mS (i:=0) (v:= ?v0) zo zk rfl zk zk zk zk (fun _ _ _ h=>h) (Or.inl ⟨zt,?hy0⟩) aa ?rest0
  case hy0=>(intro w' ab;obtain ⟨k0,k1,k2,k3,k4⟩:=ab;go_simp;try with_reducible rfl)
  refine qn ?_;refine mS (i:=1) (v:= ?v1) zo zk rfl zk zk zk zk (fun _ _ _ h=>h) (Or.inl ⟨zt,?hy1⟩) aa ?rest1
  case hy1=>(intro w' ab;obtain ⟨k0,k1,k2,k3,k4⟩:=ab;go_simp;try with_reducible rfl)
  refine qn ?_;refine mS (i:=2) (v:= ?v2) zo zk rfl zk zk zk zk (fun _ _ _ h=>h) (Or.inl ⟨zt,?hy2⟩) aa ?rest2
  case hy2=>(intro w' ab;obtain ⟨k0,k1,k2,k3,k4⟩:=ab;go_simp;try with_reducible rfl)
  refine qn ?_;refine mY (i:=3) zk rfl (fun K hK=> ?_);go_simp;refine aR.mono ?_;rintro e w5 ⟨rfl,hb5⟩;have hb:qL W w5:=((uO _ W).drew).trans (hb5.mono zg)
  have hS5:w5.cell? (qB (B+1))=some v0/\w5.cell? (qB B)=some (.slice ao qs.length cap)/\w5.cell? (qB Bx)=some (qI nd)/\w5.cell? (qA Bx 1)=some (qI j)/\w5.cell? (qA Bx 2)=some (.string s):=⟨mZ hb5 aa.1,mZ hb5 aa.2.1,mZ hb5 aa.2.2.1,mZ hb5 aa.2.2.2.1,mZ hb5 aa.2.2.2.2⟩
  obtain ⟨g,cap',w6,ae,kJ,hf6,HO⟩:=RR HW.o.1 iR hb x hlen (fun k=>k<B+4/\k≠B+1) (fun k hk=>hk) 22;rw [<-HN.o] at ae;refine hK _ _ (.inl hS5) ?_;refine qn ?_;refine lX (i:=4) (v:= ?v4) zo rfl zk zk zk (fun _ _ _ h=>h) (Or.inl ⟨zt,?hy4⟩) hS5 ?rest4
  case hy4=>(intro w' _;go_simp;try with_reducible rfl)
  refine qn ?_;have hba:qL w5 (w5.alloc (.cells #[.string (⟨#[47]⟩++nm)] 9)):=zh w5 _;refine mY (i:=5) zk rfl (fun K hK=> ?_);go_simp;refine hK _ _ (.inl ⟨mZ hba hS5.1,mZ hba hS5.2.1,mZ hba hS5.2.2.1,mZ hba hS5.2.2.2.1,mZ hba hS5.2.2.2.2⟩) ?_;refine qn ?_;refine mY (i:=6) zk rfl (fun K hK=> ?_);rw [if_pos zt];simp only [ZU,ZZ,Ya];refine Lib.wp_append_run _ _ _ _ _ rfl v0 (qG w5.heap.size 1 1) rfl rfl _ w6 ae ?_
  have hS6:w6.cell? (qB (B+1))=some v0/\w6.cell? (qB B)=some (.slice ao qs.length cap)/\w6.cell? (qB Bx)=some (qI nd)/\w6.cell? (qA Bx 1)=some (qI j)/\w6.cell? (qA Bx 2)=some (.string s):=by
   have eB:=HO.o.2.2.2.1;have eX:=HO.o.2.2.2.2 Bx _ HW.o.2;exact ⟨kJ,(uV (a:=(qB B)) eB).trans aa.2.1,(uV (a:=(qB Bx)) eX).trans aa.2.2.1,(uV (a:=(qA Bx 1)) eX).trans aa.2.2.2.1,(uV (a:=(qA Bx 2)) eX).trans aa.2.2.2.2⟩
  refine hK _ _ (.inl hS6) ?_;refine qn ?_;refine mY (i:=7) zk rfl (fun K hK=> ?_);go_simp;refine hK _ _ (.inr ⟨rfl,zo⟩) ?_;refine ma zk ?_ _;exact ⟨HO.o.2.1.from _,HO.o.2.2.1,_,HO.o.1⟩
 case done=>
  rintro D ys W hD hall ⟨v0,hA⟩ hK;subst hall
  have hLn:1<=L.length:=by
   cases L with
   | nil=>exact absurd HI.o (FE H.o.2.2.1)
   | cons a r=>simp
  obtain ⟨xs,hxs⟩:=za (Wo qs L (List.range L.length))
  have dS:xs.length=L.length:=by rw [hxs];simp [Wo]
  have hrow:=hA.row;rw [List.length_range,<-hxs] at hrow
  obtain ⟨g,d7,hv0,dE,hgB,kI⟩:∃g d7,v0=qG g L.length d7/\(∃cs t fr,W.heap[g]? =some (.cells cs t fr))/\B+4<=g/\L.length<=d7:=by
   rcases hrow.2 with ⟨_,h0⟩ | ⟨g,d7,cur,h0,hg0,hgb,hcc,_⟩
   ·omega
   exact ⟨g,d7,h0,⟨_,_,_,hgb⟩,hg0,hcc⟩
  subst hv0
  have hc:∀(j:Nat) x,xs[j]? =some x->W.cell? (qA g j)=some (.string x):=fun j x hj=>by
   have hl:=(uK.1 hj).1;rw [hrow.cellAt j zj];have:=me (enc:=zbN) (k:=1) (fun _=>rfl) hj (c:=0) zj;rw [Nat.mul_one,ZG] at this;rw [this];rfl
  have hrev:=zad W g d7 xs hc (fun j=>hrow.frozenAt j) uo;rw [dS] at hrev;have g1:=hA.F9.cell
  have HA:Aside (aap w4 B qs L (List.range L.length) (qG g L.length d7) W/\xs=Wo qs L (List.range L.length)/\xs.length=L.length/\(∃cs t fr,W.heap[g]? =some (.cells cs t fr))/\B+4<=g/\L.length<=d7/\W.heap[D]? =some (.deferred (some []))/\w4.heap.size<=D):=⟨hA,hxs,dS,dE,hgB,kI,hK,hD⟩
  clear hc hrow hxs dE hgB kI hK hA dS;gi_wp2_with fail;refine ⟨trivial,?_⟩;refine ((callsIn_wide (n:=3)).2 hrev).mono ?_;rintro e w7 ⟨rfl,H7⟩
  have hgD:D≠g:=fun e=>by
   obtain ⟨cs,t,fr,q⟩:=HA.o.2.2.2.1;rw [<-e,HA.o.2.2.2.2.2.2.1] at q
   cases q
  have jg:=H7.o.2.block (B+1) HA.o.1.F9.lt (by have:=HA.o.2.2.2.2.1;omega);have g7:=(uV (a:=(qB (B+1))) jg).trans g1;have hD7:=(H7.o.2.block D (uN.1 HA.o.2.2.2.2.2.2.1).1 hgD).trans HA.o.2.2.2.2.2.2.1
  have d9:(Lib.join (xs.reverse.map (·.data.toList)) []).length<=140737488355328:=by
   rw [SP]
   have h1:=Dr (m:=2001) (xs.reverse.map (·.data.toList)) (fun y hy=>by
    obtain ⟨x,hx,rfl⟩:=Zm.1 hy
    rw [List.mem_reverse,HA.o.2.1] at hx
    unfold Wo at hx
    obtain ⟨q,_,rfl⟩:=Zm.1 hx
    have hfq:=kW q
    have:=KJ (qs:=qs) hfq
    have e1:(⟨#[47]⟩:qY).size=1:=rfl
    show (⟨#[47]⟩++nmB qs (L.getD q mM):qY).data.toList.length<=2001
    rw [oq,YR]
    omega)
   rw [Zj,List.length_reverse,HA.o.2.2.1] at h1;have:=HL.o;omega
  have kA:=Tryz.strings_Join g 0 d7 xs.reverse ⟨#[]⟩ w7 (fun j x hj=>by rw [Ze];exact H7.o.1 j x hj) (by obtain ⟨cs,t,fr,q⟩:=HA.o.2.2.2.1;exact uY (uN.1 q).1 H7.o.2.size) (by rw [List.length_reverse,HA.o.2.2.1];have:=HL.o;omega) (by rw [List.length_reverse,HA.o.2.2.1];exact HA.o.2.2.2.2.2.1) d9;rw [List.length_reverse,HA.o.2.2.1] at kA;gi_wp2_with fail;refine ⟨trivial,?_⟩;refine ((callsIn_wide (n:=3)).2 kA).mono ?_;rintro e w8 ⟨rfl,hb8⟩;gi_wp2
  have hb48:qL w w8:=by
   have h1:=H5.o.2.1.trans (HA.o.1.GC.m8 H5.o.2.1.size (fun k e=>by have:=H5.o.2.2.2.2;omega));have h2:=h1.trans (H7.o.2.m8 h1.size (fun k e=>by have:=H5.o.2.2.2.2;have:=HA.o.2.2.2.2.1;omega));exact zi h2 hb8
  have hD8:=(hb8.block D (uN.1 hD7).1).trans hD7;refine ⟨zq,.inl ⟨_,_,rfl,run_takeDeferred hD8,?_⟩⟩;refine ⟨.tuple #[.string ⟨(Lib.join (xs.map (fun x:ByteArray=>x.data.toList)).reverse []).toArray⟩,.bool true],by simp [results,f106,go_sem],?_,?_⟩
  ·unfold zas;rw [<-HA.o.2.1,List.map_reverse]
  exact hb48.trans (belowK_b (w:=w) zg w8 D _ _ (by have:=H5.o.2.2.2.2;have:=HA.o.2.2.2.2.2.2.2;omega) hD8 rfl rfl)
 simp_all
def tP(qs:List Plc)(a:Int)(nm:qU)(b:Int):Prop:=∃es k e,NI qs a es/\es[k]? =some e/\e.1.data.toList=nm/\(∀(j:Nat) y,j<k->es[j]? =some y->y.1.data.toList≠nm)/\e.2=b
def Cq(qs:List Plc)(a:Int)(nm:qU):Prop:=∃es,NI qs a es/\∀e∈es,e.1.data.toList≠nm
def K5(qs:List Plc):Int->List qU->Int->Prop
 | a,[],b=>a=b
 | a,nm::r,b=>∃c,tP qs a nm c/\K5 qs c r b
theorem K5.aaV{qs} :∀ {pre:List qU} {a b c:Int} {nm:qU},K5 qs a pre b->tP qs b nm c->K5 qs a (pre++ [nm]) c
 | [],a,b,c,nm,h,k=>⟨c,by rw [show a=b from h];exact k,rfl⟩
 | x::pre,a,b,c,nm,⟨d,h1,h2⟩,k=>⟨d,h1,h2.aaV k⟩
theorem RG(w)(br)(path)(h:Lib.hasPrefix path.data.toList [47]=false):
  qC 105 #[qP br,.string path] w (qR (.tuple #[qI 0,.bool false]) w):=by
 have hc:=fun u=>Tryz.strings_CutPrefix path ⟨#[47]⟩ u
 have kX:(⟨#[47]⟩:qY).data.toList= [47]:=rfl;rw [kX,h] at hc;go_enter func105,ntmps105;go_wp2_with fail;refine (hc _).mono ?_;rintro e w1 ⟨rfl,rfl⟩;go_wp2;refine bodyPost_ret (v:=.tuple #[qI 0,.bool false]) (by simp [results,f105,go_sem]) rfl ⟨rfl,(zh w _).alloc zq _⟩
theorem Oy(w)(br)(path)(h:path.data.toList= [47]):
  qC 105 #[qP br,.string path] w (qR (.tuple #[qI 0,.bool true]) w):=by
 have hc:=fun u=>Tryz.strings_CutPrefix path ⟨#[47]⟩ u
 have kX:(⟨#[47]⟩:qY).data.toList= [47]:=rfl;rw [kX,h,show Lib.hasPrefix [47] [47]=true by decide,show Lib.trimPrefix [47] [47]= [] by decide] at hc;go_enter func105,ntmps105;go_wp2_with fail;refine (hc _).mono ?_;rintro e w1 ⟨rfl,rfl⟩;go_wp2;refine bodyPost_ret (v:=.tuple #[qI 0,.bool true]) (by simp [results,f105,go_sem]) rfl ⟨rfl,((zh w _).alloc zq _).alloc zl _⟩
end
section
open RowKit Lib Go.Sort Maps
open scoped Classical
attribute [local go_sem] Oper.semAt_some
def zbv(w:qW)(qs:List Plc)(nms:List qU)(e:Ending)(w':qW):Prop:=
 ((∃b,e=qT #[qI b,.bool true]/\K5 qs 0 nms b)\/(e=qT #[qI 0,.bool false]/\∃pre nm rest b,pre++nm::rest=nms/\K5 qs 0 pre b/\Cq qs b nm))/\qL w w'
structure U3 (w4:qW) (S B:Nat) (l8:Int) (W:qW):Prop where
 l8:Boxed W (S+1+1) 3 (qI l8)
 r0:Boxed W S 3 (qI 0)
 r1:Boxed W (S+1) 4 (.bool false)
 size:w4.heap.size<=W.heap.size
 GC:m7 (fun k=>k=S+1+1\/k=B+1) w4 W
theorem U3.grow{w4}{S B}(jL:S+1+1<B){l8}{X Y}{row}(h:U3 w4 S B l8 X)(hg:X.grownBy Y row)(hr:∀r,row=some r->r=B+1\/(w4.heap.size<=r/\∃o:Obj,X.heap[r]? =some o/\o.isCells=false)):U3 w4 S B l8 Y:=by
 have bx:∀ {k:Nat} {t:TypeId} {v:Value},Boxed X k t v->k≠B+1->Boxed Y k t v:=fun {k t v} hb hk=>hb.kept hg (fun e=>by
  rcases hr k e.symm with q | ⟨_,o,ho,hc⟩
  ·exact hk q
  ·unfold Boxed at hb
   rw [hb] at ho
   cases ho
   cases hc)
 refine ⟨bx h.l8 zj,bx h.r0 zj,bx h.r1 zj,uQ h.size hg.size,⟨hg.os.trans h.GC.os,hg.tape.trans h.GC.tape,hg.output.trans h.GC.output,uQ h.GC.size hg.size,fun k hk hs=> ?_⟩⟩;rw [<-h.GC.block k hk hs];refine hg.block k (by have:=h.size;omega) (fun e=> ?_)
 grind
theorem U3.L4(w4)(S B)(jL:S+1+1<B)(qs):abf w4.heap.size (fun r=>r=B+1) (fun pre W=>∃l8,U3 w4 S B l8 W/\K5 qs 0 pre l8):=fun pre X Y row ⟨l8,h,hw⟩ hg hr=>⟨l8,h.grow jL hg hr,hw⟩
def aa3(w4:qW)(S B:Nat)(qs:List Plc)(c:Code)(pre:List qU)(W:qW):Prop:=c= .ret/\(∃p0 x b l8,pre=p0++ [x]/\K5 qs 0 p0 b/\Cq qs b x/\U3 w4 S B l8 W)
theorem aa3.L4(w4)(S B)(jL:S+1+1<B)(qs)(c):abf w4.heap.size (fun r=>r=B+1) (aa3 w4 S B qs c):=fun pre X Y row ⟨hc,p0,x,b,l8,h1,h2,h3,h4⟩ hg hr=>⟨hc,p0,x,b,l8,h1,h2,h3,h4.grow jL hg hr⟩
theorem M9.acW{w W}{v}{qs}{T}(h:M9 w v qs)(hk:m7 T w W)(hT:∀k,T k->∃t u,Boxed w k t u):M9 W v qs:=by
 rcases h with ⟨h1,h2⟩ | ⟨g,cap,h1,hg,hc⟩
 ·exact .inl ⟨h1,h2⟩
 refine .inr ⟨g,cap,h1,uY hg hk.size,fun j u hj=> ?_⟩
 have hne:¬T g:=fun q=>by
  obtain ⟨t,u',hb⟩:=hT g q
  cases qs with
  | nil=>simp [mN] at hj
  | cons a r=>
   have k:=hc 2 (.string a.2.2) rfl;unfold Boxed at hb;simp [World.cell?,hb] at k
 exact (uV (a:=(qA g j)) (hk.block g hg hne)).trans (hc j u hj)
theorem zaa(w)(br bt bm n)(v)(f)(h:Q3 w br bt bm n v f)(qs)(hq:D4 f qs)(hql:qs.length<=300)(path)(nm:ByteArray)(hp:path.data.toList=47::nm.data.toList)(hne:nm.data.toList≠ [])(hsz:path.size<=1000000)
  (aK:Lib.TabIs prog w "internal/strconv.uint64pow10" .u64 Lib.pow10Tab) (m) (hmax:w.cell? ⟨14,0,none⟩=some (.int .i64 m)):
  Calls prog 105 #[.pointer (some ⟨br,0,none⟩),.string path] w (zbv w qs (nk 47 nm.data.toList)):=by
 have HT:Aside (Lib.TabBelow prog w.heap.size w "internal/strconv.uint64pow10" .u64 Lib.pow10Tab):=Lib.tabBelow_of_tabIs aK
 have hc:=fun u=>Tryz.strings_CutPrefix path ⟨#[47]⟩ u
 have kX:(⟨#[47]⟩:ByteArray).data.toList= [47]:=rfl
 have ht:Lib.trimPrefix (47::nm.data.toList) [47]=nm.data.toList:=by simp [Lib.trimPrefix,Lib.hasPrefix]
 have hh:Lib.hasPrefix (47::nm.data.toList) [47]=true:=by simp [Lib.hasPrefix]
 rw [kX,hp,ht,hh,DT] at hc;have hnb:=sK hne
 have hnz:nm.size<=1000000:=by have h1:=oq path;have h2:=oq nm;rw [hp,Zd] at h1;omega
 have H:Aside (Q3 w br bt bm n v f/\D4 f qs/\(∀p∈qs,Cn p)/\w.cell? ⟨14,0,none⟩=some (.int .i64 m)):=⟨h,hq,wo h.V9 hq,hmax⟩
 have H1:Aside (∀W,Below w.heap.size w W->Calls prog 135 #[.pointer (some ⟨br,0,none⟩)] W fun e w'=>e= .returned (.pointer (some ⟨bt,0,none⟩))/\w'=W):=fun W hW=>sA W br bt bm n v f (h.later hW)
 have H3:Aside (∀W,Below w.heap.size w W->Calls prog 129 #[.pointer (some ⟨bt,0,none⟩)] W fun e w'=>∃u,e= .returned u/\Aside (M9 w' u qs/\Below W.heap.size W w')):=fun W hW=>Ja W br bt bm n v f (h.later hW) qs hq
 obtain ⟨S,hS⟩:=za w.heap.size;refine (callsIn_wide (n:=4)).1 ?_;refine callsIn_of_wp_marks func105 rfl trivial ?_ rfl;simp only [ntmps105,Zn,Zd,Zt,Nat.reduceAdd,Nat.reduceSub,Zx,Zy,ZH,ZC,ZE,ZI];gi_wp2_with (refine ⟨trivial,?_⟩;gi_at_call 139;refine ((callsIn_wide (n:=4 - 1)).2 (hc _)).mono ?_;rintro e w1 ⟨rfl,rfl⟩);obtain ⟨U,hU⟩:=za (((w.alloc (.cells #[.int .i64 0] 3)).alloc (.cells #[.bool false] 4)).alloc (.cells #[.int .i64 0] 3));rw [<-hU,<-hS]
 have ah:Below w.heap.size w U:=by rw [hU];exact ((zh w _).alloc zq _).alloc zl _
 have hsU:U.heap.size=S+3:=by rw [hU,hS];simp
 have u0:Boxed U S 3 (.int .i64 0):=by
  have:=(zc5 w (.cells #[.int .i64 0] 3) (.cells #[.bool false] 4)).1;rw [hU,hS];exact (uT _ _ _ zl).trans this
 have u1:Boxed U (S+1) 4 (.bool false):=by
  have:=(zc5 w (.cells #[.int .i64 0] 3) (.cells #[.bool false] 4)).2;rw [hU,hS];exact (uT _ _ _ zq).trans this
 have u2:Boxed U (S+1+1) 3 (.int .i64 0):=by
  have:=heap_alloc_new ((w.alloc (.cells #[.int .i64 0] 3)).alloc (.cells #[.bool false] 4)) (.cells #[.int .i64 0] 3);simp only [Zv] at this;rw [hU,hS];exact this
 have h1:=H1.o U ah;have h3:=H3.o U ah
 have HS:Aside (S=w.heap.size/\U.heap.size=S+3/\Below w.heap.size w U/\Boxed U S 3 (.int .i64 0)/\Boxed U (S+1) 4 (.bool false)/\Boxed U (S+1+1) 3 (.int .i64 0)):=⟨hS,hsU,ah,u0,u1,u2⟩
 clear hU hc hS hsU ah u0 u1 u2;refine ⟨trivial,?_⟩;refine ((callsIn_wide (n:=3)).2 h1).mono ?_;rintro e w2 ⟨rfl,hw2⟩;obtain rfl:=hw2.symm
 gi_wp2_with (first
  | (refine ⟨trivial,?_⟩;gi_at_call 129;refine ((callsIn_wide (n:=4 - 1)).2 h3).mono ?_;rintro e w3 ⟨u,rfl,H4⟩;obtain ⟨ao,cap,rfl,hP⟩:=H4.o.1.abJ)
  | (refine ⟨trivial,?_⟩;gi_at_call 140;refine ((callsIn_wide (n:=4 - 1)).2 (GV _ nm)).mono ?_;rintro e w4 ⟨rfl,rfl⟩))
 obtain ⟨B,hB⟩:=za w3.heap.size;obtain ⟨w4,cR⟩:=za (((((w3.alloc (.cells #[.slice ao qs.length cap] 209)).alloc (.cells #[.string nm] 9)).alloc (.cells #[.string ⟨#[47]⟩] 9)).alloc (.cells #[.int .i64 0] 3)));have e4:=zbU w3 (.cells #[.slice ao qs.length cap] 209) (.cells #[.string nm] 9) (.cells #[.string ⟨#[47]⟩] 9) (.cells #[.int .i64 0] 3)
 have iR:w4.heap.size=B+4:=by rw [cR,hB];simp
 have eQ:Below w3.heap.size w3 w4:=qe;rw [<-cR,<-hB] at e4;rw [<-cR,<-hB];obtain ⟨k1,k2,k3,k4⟩:=e4
 have jL:S+1+1<B:=by have:=H4.o.2.size;have:=HS.o.2.1;omega
 have hU4:=zi H4.o.2 eQ;have cu:=zi HS.o.2.2.1 hU4;have hP4:=H4.o.1.later eQ
 have F4:U3 w4 S B 0 w4:=⟨(hU4.block _ HS.o.2.2.2.2.2.lt).trans HS.o.2.2.2.2.2,(hU4.block _ HS.o.2.2.2.1.lt).trans HS.o.2.2.2.1,(hU4.block _ HS.o.2.2.2.2.1.lt).trans HS.o.2.2.2.2.1,uM _,m7.refl _ _⟩
 have ko:=mZ cu H.o.2.2.2
 have hGB:B+1≠14:=by have:=uP w ⟨14,0,none⟩ H.o.2.2.2;have:=HS.o.1;dsimp only at*;omega
 have X4:X8 (B+1) m nm w4:=⟨k2,k3,k4,ko⟩
 have H5:Aside (M9 w4 (.slice ao qs.length cap) qs/\Boxed w4 B 209 (.slice ao qs.length cap)/\Below w.heap.size w w4/\w.heap.size<=S/\Boxed w4 (B+1) 9 (.string nm)):=⟨hP4,k1,cu,by have:=HS.o.1;omega,k2⟩
 clear cR hB k1 k2 k3 k4 hP h3 eQ hU4 ko hP4
 refine zaj (M:=fun r=>r=B+1) zj (gf:=254) (lb:= #[.pointer (some ⟨B+1+1,0,none⟩),.pointer (some ⟨B+1,0,none⟩),.pointer (some ⟨B+1+1+1,0,none⟩)]) rfl (enters_of func254 zk rfl) (fun r e=>by rw [e,iR];omega)
  (Ph (4 - 1) zj (B+1) m hGB nm hnz w4 X4) Y8.trans (fun W l r o hl ho=>fun k hk=> ?kb) rfl
  (fun pre W=>∃l8,U3 w4 S B l8 W/\K5 qs 0 pre l8) (aa3 w4 S B qs) (U3.L4 w4 S B jL qs) (aa3.L4 w4 S B jL qs) ⟨0,F4,rfl⟩
  (fun x a' W=>∃Bx,w4.heap.size<=Bx/\Boxed W Bx 9 (.string ⟨x.toArray⟩)/\a'= {tmps:= #[.pointer (some ⟨br,0,none⟩),.string path,undef,undef,.pointer (some ⟨S,0,none⟩),.pointer (some ⟨S+1,0,none⟩),.string nm,.bool true,.pointer (some ⟨S+1+1,0,none⟩),.pointer (some ⟨B,0,none⟩),.pointer (some ⟨Bx,0,none⟩),undef,undef,.tuple #[.string nm,.bool true],.string path,.tuple #[.string nm,.bool true],.string nm,.bool true,.pointer (some ⟨br,0,none⟩),.bool false,.bool false,.bool true,.bool false,.bool false,.string nm,.bool false,undef,.pointer (some ⟨br,0,none⟩),.pointer (some ⟨bt,0,none⟩),.slice ao qs.length cap,.string nm,.func (.func 254) #[] #[.pointer (some ⟨B+1+1,0,none⟩),.pointer (some ⟨B+1,0,none⟩),.pointer (some ⟨B+1+1+1,0,none⟩)],.string ⟨x.toArray⟩,undef,undef,undef,undef,undef,undef,undef,undef,undef,undef,undef,undef,undef,undef],defers:=[]})
  ?ax ?assign ?body ?done ?stop
 case kb=>
  refine Yd (fun e=> ?_);exact kk2
 case ax=>
  intro x a' _ X Y row hs hg hr;obtain ⟨Bx,f1,f2,f3⟩:=hs;refine ⟨Bx,f1,f2.kept hg (fun e=> ?_),f3⟩
  rcases hr Bx e.symm with q | ⟨_,o,ho,hc⟩
  ·omega
  unfold Boxed at f2;rw [f2] at ho
  cases ho
  cases hc
 case assign=>
  rintro l pre x W K ⟨l8,hF,hW⟩ hK;have df:Aside _:=hK;have hsz:=hF.size;gi_wp2;refine df.o _ _ ((KeepsOthers.alloc _ _).from _) (fun k hk=> ?_) ⟨l8,hF.grow jL (YK W _ none) (fun r e=>yN),hW⟩ ⟨W.heap.size,zj,heap_alloc_new W _,rfl⟩;refine uT _ _ _ ?_;exact kk2
 case body=>
  rintro l pre x a' W hl ⟨l8,hF,hW⟩ ⟨Bx,hBx,hE,rfl⟩ hlt;have hBW:=H5.o.2.2.1.trans (hF.GC.m8 H5.o.2.2.1.size (fun k e=>qu));have hPW:=H5.o.1.acW hF.GC (fun k e=>e.elim (fun q=>by rw [q];exact ⟨_,_,F4.l8⟩) (fun q=>by rw [q];exact ⟨_,_,H5.o.2.2.2.2⟩));have jE:=DU W (.slice ao qs.length cap) qs l8 hPW hql H.o.2.2.1 (HT.o W hBW);have g9:=(uV (a:=⟨B,0,none⟩) (hF.GC.block B zj zj)).trans H5.o.2.1.cell;have g8:=hF.l8.cell
  have HW:Aside (U3 w4 S B l8 W/\K5 qs 0 pre l8/\Boxed W Bx 9 (.string ⟨x.toArray⟩)/\B+4<=Bx/\w4.heap.size=B+4):=⟨hF,hW,hE,zj,iR⟩
  gi_wp2_with (refine ⟨trivial,?_⟩;gi_at_call 134;refine (CallsIn.inRound l ((callsIn_wide (n:=4 - 1 - 1 - 1)).2 jE)).mono ?_;rintro e w5 ⟨v',es,rfl,HE⟩;obtain ⟨ao',cap',rfl,hEin⟩:=HE.o.1.abJ)
  have aT:=Pe (fun e=>decide (e.1=⟨x.toArray⟩)) 142 #[.pointer (some ⟨Bx,0,none⟩)] (enters_of func142 zk rfl) ao' cap' w5.heap.size es w5 zg (fun W' y _ fX=>Sr W' Bx y ⟨x.toArray⟩ (mZ fX (mZ HE.o.2.2 HW.o.2.2.1.cell))) (by
   obtain ⟨R,hR,_,rfl⟩:=HE.o.2.1
   rw [Zj,hR.length_eq]
   grind) hEin
  refine ⟨trivial,?_⟩;refine (CallsIn.inRound l ((callsIn_wide (n:=1)).2 aT)).mono ?_;rintro e w6 ⟨r,rfl,HR⟩;have hb6:=zi HE.o.2.2 HR.o.2;have F6:=HW.o.1.grow jL (nz hb6) (fun q e=>yN)
  have HF:Aside (U3 w4 S B l8 w6/\Below W.heap.size W w6):=⟨F6,hb6⟩
  have xb:∀y:ByteArray,y.data.toList=x↔y=⟨x.toArray⟩:=fun y=>⟨fun e=>by rw [<-e],fun e=>by rw [e]⟩
  rcases HR.o.1 with ⟨hr,ha⟩ | ⟨k,e,hr,hk,he,hfst⟩
  ·subst hr
   have hno:Cq qs l8 x:=⟨es,HE.o.2.1,fun e he q=>by
    grind⟩
   have HN:=Lib.hid hno;have r0:=F6.r0.cell;have r0f:=F6.r0.frozen;have r1:=F6.r1.cell;have r1f:=F6.r1.frozen;gi_wp2;have g1:=grownBy_setCell' w6 S (.int .i64 0);have g2:=grownBy_setCell' (w6.setCell ⟨S,0,none⟩ (.int .i64 0)) (S+1) (.bool false);have kO:KeepsOthers W ((w6.setCell ⟨S,0,none⟩ (.int .i64 0)).setCell ⟨S+1,0,none⟩ (.bool false)):=((KeepsOthers.of_grownBy (nz HF.o.2) (fun j o e=>yN)).trans (KeepsOthers.setCell _ _ _)).trans (KeepsOthers.setCell _ _ _);refine ⟨kO.from _,rfl,pre,x,l8,l8,rfl,HW.o.2.1,HN.o,?_⟩;have F6:=HF.o.1;have q0:=F6.r0.set (.int .i64 0);have q1:=F6.r1.other (B':=S) zj (.int .i64 0);have q2:=F6.l8.other (B':=S) zj (.int .i64 0);refine ⟨q2.other zj _,q0.other zj _,q1.set _,xp,⟨g2.os.trans (g1.os.trans F6.GC.os),g2.tape.trans (g1.tape.trans F6.GC.tape),g2.output.trans (g1.output.trans F6.GC.output),xp,fun k hk hs=> ?_⟩⟩;by_cases k0:k=S
   ·rw [k0];exact (q0.other (B':=S+1) zj (.bool false)).trans F4.r0.symm
   by_cases k1:k=S+1
   ·rw [k1];exact (q1.set (.bool false)).trans F4.r1.symm
   rw [g2.block k (by have:=F6.size;have:=g1.size;omega) (fun e=>by cases e;exact k1 rfl),g1.block k (by have:=F6.size;omega) (fun e=>by cases e;exact k0 rfl)];exact F6.GC.block k hk hs
  have hlead:tP qs l8 x e.2:=⟨es,k,e,HE.o.2.1,hk,(xb _).2 (of_decide_eq_true he),fun j y hj hy q=>by
   grind,rfl⟩
  have HN:=Lib.hid hlead;obtain ⟨g',off',iG,q0,q1⟩:=(hEin.later HR.o.2).e hk;subst iG;have hkl:=(uK.1 hk).1;have ek:r.toNat=k:=zj;have p0:(0:Int)<=r:=zj;have n8:=F6.l8.cell;have n8f:=F6.l8.frozen;gi_wp2;have g1:=grownBy_setCell' w6 (S+1+1) (.int .i64 e.2);have kO:KeepsOthers W (w6.setCell ⟨S+1+1,0,none⟩ (.int .i64 e.2)):=(KeepsOthers.of_grownBy (nz HF.o.2) (fun j o e=>yN)).trans (KeepsOthers.setCell _ _ _);have F6:=HF.o.1;refine ⟨kO.from _,fun k hk=> ?_,e.2,⟨F6.l8.set _,F6.r0.other zj _,F6.r1.other zj _,xp,⟨g1.os.trans F6.GC.os,g1.tape.trans F6.GC.tape,g1.output.trans F6.GC.output,xp,fun k hk hs=> ?_⟩⟩,HW.o.2.1.aaV HN.o⟩
  ·have hG:=uP w4 ⟨14,0,none⟩ X4.max;have hG2:=uP w ⟨14,0,none⟩ H.o.2.2.2;dsimp only at hG hG2;have hwS:=H5.o.2.2.2.1;have hWs:=HW.o.1.size
   have hkW:k<W.heap.size:=by rcases hk with q | q | q | q<;>omega
   have hkS:k≠S+1+1:=by rcases hk with q | q | q | q<;>omega
   rw [g1.block k (by have:=HF.o.2.size;omega) (fun e=>zM)];exact HF.o.2.block k hkW
  rw [g1.block k (by have:=F6.size;omega) (fun e=>zM)];exact F6.GC.block k hk hs
 case done=>
  rintro D xs W hD hall ⟨l8,hF,hW⟩ hK;subst hall;have g8:=hF.l8.cell;have r0:=hF.r0.cell;have r0f:=hF.r0.frozen;have r1:=hF.r1.cell;have r1f:=hF.r1.frozen;gi_wp2;have b0:Boxed (W.setCell ⟨S,0,none⟩ (.int .i64 l8)) S 3 (.int .i64 l8):=hF.r0.set _;have b1:Boxed (W.setCell ⟨S,0,none⟩ (.int .i64 l8)) (S+1) 4 (.bool false):=hF.r1.other zj _;obtain ⟨V,hV⟩:=za ((W.setCell ⟨S,0,none⟩ (.int .i64 l8)).setCell ⟨S+1,0,none⟩ (.bool true))
  have v0:Boxed V S 3 (.int .i64 l8):=by rw [hV];exact b0.other zj _
  have v1:Boxed V (S+1) 4 (.bool true):=by rw [hV];exact b1.set _
  have g1:=grownBy_setCell' W S (.int .i64 l8);have g2:=grownBy_setCell' (W.setCell ⟨S,0,none⟩ (.int .i64 l8)) (S+1) (.bool true);rw [<-hV] at g2;have hDl:=(uN.1 hK).1
  have hDV:V.heap[D]? =some (.deferred (some [])):=by
   rw [g2.block D zM (fun e=>by cases e;omega),g1.block D hDl (fun e=>by cases e;omega)];exact hK
  have hBW:=H5.o.2.2.1.trans (hF.GC.m8 H5.o.2.2.1.size (fun k e=>qu));have hBV:=(hBW.grown g1 hBW.size (fun k e=>by cases e;exact H5.o.2.2.2.1)).grown g2 (by have:=hBW.size;simp_all) (fun k e=>by cases e;have:=H5.o.2.2.2.1;omega);rw [<-hV];refine ⟨zq,.inl ⟨_,_,rfl,run_takeDeferred hDV,?_⟩⟩;have z0:(V.putObj D (.deferred none)).cell? ⟨S,0,none⟩=some (.int .i64 l8):=(uV (a:=⟨S,0,none⟩) (Yd (show S≠D by omega))).trans v0.cell;have z1:(V.putObj D (.deferred none)).cell? ⟨S+1,0,none⟩=some (.bool true):=(uV (a:=⟨S+1,0,none⟩) (Yd (show S+1≠D by omega))).trans v1.cell;refine ⟨.tuple #[.int .i64 l8,.bool true],by simp [results,f105,go_sem,z0,z1],.inl ⟨l8,rfl,hW⟩,hBV.trans (belowK_b (w:=w) zg V D _ _ qu hDV rfl rfl)⟩
 case stop=>
  rintro D c pre W hD ⟨rest,hrest⟩ ⟨rfl,p0,x,b,l8,hp,hw0,hno,hF⟩ hK;have r0:=hF.r0.cell;have r1:=hF.r1.cell;gi_wp2;have hBW:=H5.o.2.2.1.trans (hF.GC.m8 H5.o.2.2.1.size (fun k e=>by have:=H5.o.2.2.2.1;rcases e with q | q<;>omega));refine ⟨zq,.inl ⟨_,_,rfl,run_takeDeferred hK,?_⟩⟩;have z0:(W.putObj D (.deferred none)).cell? ⟨S,0,none⟩=some (.int .i64 0):=(uV (a:=⟨S,0,none⟩) (Yd (show S≠D by omega))).trans r0;have z1:(W.putObj D (.deferred none)).cell? ⟨S+1,0,none⟩=some (.bool false):=(uV (a:=⟨S+1,0,none⟩) (Yd (show S+1≠D by omega))).trans r1;refine ⟨.tuple #[.int .i64 0,.bool false],by simp [results,f105,go_sem,z0,z1],.inr ⟨rfl,p0,x,rest,b,?_,hw0,hno⟩,hBW.trans (belowK_b (w:=w) zg W D _ _ qu hK rfl rfl)⟩
  simp_all
end
section
open RowKit
theorem Si(qs)(p):(nmB qs p).data.toList=if qs.any (rE p)=true then p.2.2.data.toList++126::Lib.itoa p.1 else p.2.2.data.toList:=by
 unfold nmB;split
 ·simp
 rfl
end
section
open RowKit
open scoped Classical
theorem L0.acj{w}{c}{br}{o8}{R}(h:L0 w c br o8 R)(hl:(lY R).length<=300):
  ∃bt bm n v ms qs,Q3 w br bt bm n v (mX ms)/\ms.Perm (pu (lY R))/\D4 (mX ms) qs/\qs.length<=300/\ml ms:=by
 obtain ⟨T,kv,bt,bx,bc,A,hm,hp,hR,_,_⟩:=h;obtain ⟨bm,v,ms,hT,dB,_,_,_⟩:=hm.Z8;obtain ⟨n,hn,hM⟩:=hT.map;have hpA:ms.Perm (pu (lY R)):=dB.trans (hp.filterMap zbm)
 have hml:ms.length<=300:=by
  rw [hpA.length_eq];exact uQ (YL _ _) hl
 obtain ⟨qs,hq,hql⟩:=Af ms;exact ⟨bt,bm,n,v,ms,qs,⟨hm.cell.c6,hT.cell,hM,zj,Ta hR.G5 hpA hT.o8 hT.Y5⟩,hpA,hq,zj,hT.o8⟩
end
section
abbrev zdo(R:List Plc):Prop:=R.Pairwise (fun a b=>NLt (Dt a) (Dt b))
theorem BO:∀ {R R':List Plc},zdo R->zdo R'->(∀p,p∈R↔p∈R')->R=R'
 | [],[],_,_,_=>rfl
 | [],b::r',_,_,h=>xg
 | a::r,[],_,_,h=>xf
 | a::r,b::r',hl,eK,h=>by
  obtain ⟨h1,h2⟩:=Zw.1 hl;obtain ⟨h1',h2'⟩:=Zw.1 eK
  have e:a=b:=by
   rcases uZ.1 ((h a).1 zq) with e | ha
   ·exact e
   rcases uZ.1 ((h b).2 zq) with e | hb
   ·exact e.symm
   exact absurd (DW (h1 b hb) (h1' a ha)) AA
  subst e;rw [BO h2 h2' (fun p=> ?_)]
  grind [AA]
theorem EU{R}(hn:(R.map (·.1)).Nodup)(hs:R.Pairwise (fun a b=>¬NLt (Dt b) (Dt a))):zdo R:=by
 have hn':R.Pairwise (fun a b=>a.1≠b.1):=by simpa [List.Nodup,YE] using hn
 refine List.Pairwise.imp₂ (fun {a b} h1 h2=> ?_) hn' hs
 rcases IZ (a:=Dt a) (b:=Dt b) (fun e=>h1 (congrArg Prod.snd e)) with q | q
 ·exact q
 exact absurd q h2
theorem Gv{qs:List Plc}(hr:qs.Pairwise (fun a b=>a.1<b.1))(P){R:List Plc}(hp:R.Perm (qs.filter P)):(R.map (·.1)).Nodup:=by
 grind [List.filter_sublist]
theorem sV{qs}(hr:qs.Pairwise (fun a b=>a.1<b.1)){i}{es es'}(h:NI qs i es)(h':NI qs i es'):es=es':=by
 obtain ⟨R,hp,hs,rfl⟩:=h;obtain ⟨R',dl,hs',rfl⟩:=h';rw [BO (EU (Gv hr _ hp) hs) (EU (Gv hr _ dl) hs') (fun p=>(hp.mem_iff).trans (dl.mem_iff).symm)]
structure zeK (R:List Plc) (p:Plc) (k:Nat):Prop where
 le:k<=R.length
 ahead:∀(j:Nat) q,j<k->R[j]? =some q->¬p.2.2.data.toList<q.2.2.data.toList
 stop:∀q,R[k]? =some q->p.2.2.data.toList<q.2.2.data.toList
structure zeu (qs:List Plc) (i:Int) (n:Nat) (R:List Plc):Prop where
 G8:R.Perm ((qs.take n).filter (fun p=> !(p.2.1 !=i)))
 row:zdo R

end