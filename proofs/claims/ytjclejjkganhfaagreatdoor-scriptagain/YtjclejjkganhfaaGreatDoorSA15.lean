import Derived.Test.YtjclejjkganhfaaGreatDoorSA10
import Derived.Test.YtjclejjkganhfaaGreatDoorSA11
import Derived.Test.YtjclejjkganhfaaGreatDoorSA12
import Derived.Test.YtjclejjkganhfaaGreatDoorSA13
import Derived.Lib.IndexMore
import Derived.Laws.Slices
set_option linter.unusedSimpArgs false
set_option linter.unusedVariables false
set_option maxRecDepth 100000
set_option maxHeartbeats 64000000
namespace Go.Proofs.YtjclejjkganhfaaGreatDoor
open Go.Proofs.Tryz
section
open RowKit Shelf Maps
attribute [local go_sem] Oper.semAt_some
theorem zen(p q:Plc)(w):(Op.equalIn 10000 212 (.agg #[qI p.1,qI p.2.1,.string p.2.2]) (.agg #[qI q.1,qI q.2.1,.string q.2.2])).run prog w= .ok (decide (p=q)) w:=by
 obtain ⟨a,b,s⟩:=p;obtain ⟨a',b',s'⟩:=q
 have hs:∀x y:ByteArray,x.toList=y.toList↔x=y:=fun x y=>⟨fun h=>by rw [ZB,ZB] at h;exact WideShapes.bytes_inj h,fun h=>by rw [h]⟩
 go_simp
 grind
theorem m7.Y{S}{w X Y}{row}(h:m7 S w X)(hg:X.grownBy Y row)(hr:∀r,row=some r->w.heap.size<=r):m7 S w Y:=
 h.then (lS hg) (fun i hi e=>zN)
theorem QF(w)(bt bm g off cap p8 y9 n)(ao bo)(L:List Ent)(F:Nat->Sta)(aI:p8<=y9)(jx:y9 - p8=L.length)(hlen:y9<=1000)(hn:n<=1000000)(hm0:w.cell? ⟨bt,0,none⟩=some (.map (some bm)))(gG:w.cell? ⟨bt,1,none⟩=some (.slice ao y9 cap))
  (hbo:(if cap=p8 then ao else Option.map (fun x=>x.add (p8*8)) ao)=bo) (aH:L= []\/bo=some ⟨g,off,none⟩) (hg:g<w.heap.size) (kC:g≠bm) (hrow:V6 w g off L) (hM:sE prog 3 w bm n (F 0))
  (hF:∀r,r<L.length->XO (F r) (nv L r).1.2.1 (nv L r).2=F (r+1)) (bE:∀r,Wf (nv L r).1.2.1):
  Calls prog 275 #[.pointer (some ⟨bt,0,none⟩),.int .i64 (p8:Int)] w fun e w'=>(∃v,e= .returned v)/\sE prog 3 w' bm (n+L.length) (F L.length)/\m7 (fun k=>k=bm) w w':=by
 have hbt:bt<w.heap.size:=block_lt_of_cell gG;have hbm:=hM.lt
 have ke:bt≠bm:=by
  intro e;obtain ⟨es,ck,hb⟩:=hM.block;rw [<-e] at hb;simp [World.cell?,hb] at hm0
 have hsl3:∀o1,(w.alloc o1).cell? ⟨bt,1,none⟩=some (.slice ao y9 cap):=fun o1=>
  (((uO w.heap.size w).alloc zg o1).cell (p:=⟨bt,1,none⟩) hbt).trans gG
 refine (callsIn_wide (n:=4)).1 ?_;refine callsIn_of_wp_marks func275 rfl trivial ?_ rfl;simp only [ntmps275,Zn,Zd,Zt,Nat.reduceAdd,Nat.reduceSub,Zx,Zy,ZH,ZC,ZE,ZI];gi_wp2_with (refine ⟨trivial,?_⟩;gi_at_call 331;refine (Ru Fence.wide (4 - 1) trivial rfl _ _ _ _).mono ?_;rintro e w' ⟨rfl,rfl⟩);obtain ⟨w2,hw2⟩:=za ((w.alloc (.cells #[.pointer (some ⟨bt,0,none⟩)] 131)).alloc (.cells #[.slice bo L.length (cap - p8)] 186));rw [<-hw2]
 have cg:Below w.heap.size w w2:=by rw [hw2];exact ((uO w.heap.size w).alloc zg _).alloc zq _
 have aN:w2.heap.size=w.heap.size+2:=by rw [hw2];simp
 obtain ⟨B,hB⟩:=za w.heap.size
 have e1:Boxed w2 B 131 (.pointer (some ⟨bt,0,none⟩)):=by rw [hw2,hB];exact (zc5 w _ _).1
 have e2:Boxed w2 (B+1) 186 (.slice bo L.length (cap - p8)):=by rw [hw2,hB];exact (zc5 w _ _).2
 rw [<-hB] at cg aN hg hbt hbm |-
 have HB:Aside (B=w.heap.size):=hB;have bI:B<=w.heap.size:=zj;clear hB;have dG:=hrow.same (cg.block g hg);have gC:=hM.same (cg.block bm hbm);have hk2:m7 (fun k=>k=bm) w w2:=(lW cg).mono (fun k hk e=>yK)
 refine wpIn_rangeFunc_ownH rfl zj (gf:=367) (lb:= #[.pointer (some ⟨B+1,0,none⟩)]) rfl trivial (enters_of func367 zk rfl)
  (EP Fence.wide (4 - 1) trivial rfl zj (B+1) g off (cap - p8) bo L zj aH w2 zj zj e2.cell dG) E5.trans (fun W l o o' hl _ _ _=>E5.put (N:=w2.heap.size) zj zj W l o' hl) (uO _ _) (fun _=>rfl)
  (fun pre W=>((∃f,sE prog 3 W bm (n+pre.length) f/\(pre=List.range pre.length->f=F pre.length))/\Boxed W B 131 (.pointer (some ⟨bt,0,none⟩))/\w2.heap.size<=W.heap.size)/\m7 (fun k=>k=bm) w W)
  (fun _ _ _=>False)
  (fun pre X Y row hs hg hr=>by
   obtain ⟨⟨⟨f,q1,q2⟩,q3,q4⟩,q5⟩:=hs
   have hne:some bm≠row:=fun e=>by have:=(hr bm e.symm).1;omega
   exact ⟨⟨⟨f,q1.same (hg.block bm q1.lt hne),q2⟩,nW q3 hg (fun r e=>(hr r e).2),uQ q4 hg.size⟩,q5.Y hg (fun r e=>by have:=(hr r e).1;have:=HB.o;omega)⟩)
  (fun _ _ _ _ _ hs _ _=>hs)
  ⟨⟨⟨F 0,gC,fun _=>rfl⟩,e1,uM _⟩,hk2⟩
  (fun x a' W=>∃Bx,w2.heap.size<=Bx/\aa6 W Bx (nv L x)/\a'= {tmps:= #[.pointer (some ⟨bt,0,none⟩),.int .i64 (p8:Int),.pointer (some ⟨B,0,none⟩),undef,undef,.pointer (some ⟨Bx,0,none⟩),.pointer (some ⟨bt,0,none⟩),.pointer (some ⟨bt,0,none⟩),.pointer (some ⟨bt,1,none⟩),.slice ao y9 cap,.int .i64 (p8:Int),.slice bo L.length (cap - p8),.func (.func 367) #[] #[.pointer (some ⟨B+1,0,none⟩)],.int .i64 ((L.length - 1 - x:Nat):Int),.agg #[.int .i64 (nv L x).1.1.1,.int .i64 (nv L x).1.1.2,.int .i64 (nv L x).1.2.1,.int .i64 (nv L x).1.2.2.1,.string (nv L x).1.2.2.2,.int .i64 (nv L x).2.1,.int .i64 (nv L x).2.2.1,.string (nv L x).2.2.2],undef,undef,undef,undef,undef,undef,undef,undef,undef,undef,undef,undef,undef,undef,undef,undef,undef,undef,undef,undef],defers:=[]})
  (fun x a'=>Own.from (fun _ X Y row hs hg hr=>zZ) _)
  ?assign ?body ?done ?stop
 case assign=>
  rintro l pre x W K ⟨⟨⟨f,hf,hfp⟩,hr1,hsz⟩,hkW⟩ hK;have df:Aside _:=hK;unfold zc9;gi_wp2;refine df.o _ _ ((KeepsOthers.alloc _ _).from _) ⟨uT _ _ _ zj,uT _ _ _ zj⟩ ⟨⟨⟨f,hf.same (uT _ _ _ hf.lt),hfp⟩,hr1.alloc _,zl⟩,hkW.alloc _⟩ ⟨W.heap.size,zj,heap_alloc_new W _,rfl⟩
 case body=>
  rintro l pre x a' W hl _ ⟨⟨⟨f,hf,hfp⟩,hr1,hsz⟩,hkW⟩ ⟨Bx,hBx,hE,rfl⟩ hlt;have gE:=bE x;obtain ⟨y,hy⟩:=za (nv L x)
  rw [<-hy] at hE gE |-
  have hFx:x=pre.length->XO (F pre.length) y.1.2.1 y.2=F (pre.length+1):=fun e=>by rw [hy,e];exact hF pre.length hlt
  obtain ⟨⟨⟨y1,y2⟩,y3,y4,y5⟩,y6,y7,y8⟩:=y
  dsimp only at gE hFx |-
  have g1:=hr1.cell;have f2:=hE.cell 2 (u:=.int .i64 y3) rfl;have f5:=hE.cell 5 (u:=.int .i64 y6) rfl;have f6:=hE.cell 6 (u:=.int .i64 y7) rfl;have f7:=hE.cell 7 (u:=.string y8) rfl;have htc:=(hkW.cell (a:=⟨bt,0,none⟩) (by show bt<_;omega) ke).trans hm0
  have fJ:∀(w1:World) (f':Sta),W.drew.grownBy w1 (some bm)->sE prog 3 w1 bm (n+pre.length+1) f'->f'=XO f y3 (y6,y7,y8)->
    Aside (KeepsFrom w2.heap.size W w1/\E5 g (B+1) W w1/\((∃f,sE prog 3 w1 bm (n+(pre++ [x]).length) f/\(pre++ [x]=List.range (pre++ [x]).length->f=F (pre++ [x]).length))/\Boxed w1 B 131 (.pointer (some ⟨bt,0,none⟩))/\w2.heap.size<=w1.heap.size)/\m7 (fun k=>k=bm) w w1):=fun w1 f' hg1 cM jD=>by
   have gx:W.grownBy w1 (some bm):=⟨hg1.os,hg1.tape,hg1.output,hg1.size,hg1.block⟩
   have hsz1:=gx.size;refine ⟨KeepsFrom.of_grownBy gx (fun j e=>by cases e;omega),⟨gx.block g zj (by simpa using kC),gx.block (B+1) zj zl⟩,⟨⟨f',by rw [uS,ZO,<-Yx];exact cM,fun hp=> ?_⟩,hr1.kept gx zl,zj⟩,hkW.then (lS gx) (fun i _ e=>yG)⟩;obtain ⟨bR,gm⟩:=sG hp;rw [jD,hfp bR,uS,ZO,hFx gm]
  have jO:Bx≠bm:=zj;have jP:=(uN.1 hE).1
  have iL:∀w1:World,W.drew.grownBy w1 (some bm)->Aside (w1.cell? ⟨B,0,none⟩=some (.pointer (some ⟨bt,0,none⟩))/\w1.cell? ⟨bt,0,none⟩=some (.map (some bm))/\w1.cell? ⟨Bx,2,none⟩=some (.int .i64 y3)/\w1.cell? ⟨Bx,5,none⟩=some (.int .i64 y6)/\w1.cell? ⟨Bx,6,none⟩=some (.int .i64 y7)/\w1.cell? ⟨Bx,7,none⟩=some (.string y8)):=fun w1 hg1=>by
   have hb:∀k,k<W.heap.size->k≠bm->∀o,w1.cell? ⟨k,o,none⟩=W.cell? ⟨k,o,none⟩:=fun k hk hne o=>uV (a:=⟨k,o,none⟩) (hg1.block k hk (by simpa using hne))
   exact ⟨(hb B zj zj 0).trans g1,(hb bt zj ke 0).trans htc,(hb Bx jP jO 2).trans f2,(hb Bx jP jO 5).trans f5,(hb Bx jP jO 6).trans f6,(hb Bx jP jO 7).trans f7⟩
  by_cases he:((y6,y7,y8):Plc)=mM
  ·have hq:∀w',(Op.equalIn 10000 212 (.agg #[.int .i64 y6,.int .i64 y7,.string y8]) (.agg #[.int .i64 0,.int .i64 0,.string ⟨#[]⟩])).run prog w'= .ok true w':=fun w'=>by
    have:=zen (y6,y7,y8) mM w';rw [decide_eq_true he] at this;exact this
   obtain ⟨w1,ae,cM,gF⟩:=(show sE prog 3 W.drew bm (n+pre.length) f from hf).drop (T:=185) (E:=212) underlying3 underlying185 gE 0;have X1:=iL w1 gF.grown;have iO:=fJ w1 (upd f y3 none) gF.grown (cM.mono (Nat.le_succ _)) (by rw [he];unfold XO;rw [if_pos rfl]);gi_wp2;refine rh (S:=(fun w'=>w'.cell? ⟨B,0,none⟩=some (.pointer (some ⟨bt,0,none⟩))/\w'.cell? ⟨bt,0,none⟩=some (.map (some bm))/\w'.cell? ⟨Bx,2,none⟩=some (.int .i64 y3))) zk zk xO ⟨g1,htc,f2⟩ (fun aa=> ?_);refine tk 0 aa ?_ (y:=ty zH);refine tk 1 aa ?_ (y:=ty zH);refine tk 2 aa ?_ (y:=ty zH);refine tk 3 aa ?_ (y:=ty zH);refine tk 4 aa ?_ (y:=ty zH);refine tk 5 aa ?_ (y:=ty zH);refine tk 6 aa ?_ (y:=ty zH);refine an (i:=7) zk rfl (fun K hK=> ?_);go_simp;refine hK _ _ ⟨X1.o.1,X1.o.2.1,X1.o.2.2.1⟩ ?_;refine wpAnyH_done zk ?_ _;exact iO.o
  have hq:∀w',(Op.equalIn 10000 212 (.agg #[.int .i64 y6,.int .i64 y7,.string y8]) (.agg #[.int .i64 0,.int .i64 0,.string ⟨#[]⟩])).run prog w'= .ok false w':=fun w'=>by
   have:=zen (y6,y7,y8) mM w';rw [decide_eq_false he] at this;exact this
  obtain ⟨w1,ae,cM,gF⟩:=(show sE prog 3 W.drew bm (n+pre.length) f from hf).store (T:=185) (E:=212) underlying3 underlying185 zB gE (y6,y7,y8);unfold pS at ae;dsimp only at ae;have X1:=iL w1 gF.grown;have iO:=fJ w1 (upd f y3 (some (y6,y7,y8))) gF.grown cM (by unfold XO;rw [if_neg he]);gi_wp2;refine rh (S:=(fun w'=>w'.cell? ⟨B,0,none⟩=some (.pointer (some ⟨bt,0,none⟩))/\w'.cell? ⟨bt,0,none⟩=some (.map (some bm))/\w'.cell? ⟨Bx,2,none⟩=some (.int .i64 y3)/\w'.cell? ⟨Bx,5,none⟩=some (.int .i64 y6)/\w'.cell? ⟨Bx,6,none⟩=some (.int .i64 y7)/\w'.cell? ⟨Bx,7,none⟩=some (.string y8))) zk zk xO ⟨g1,htc,f2,f5,f6,f7⟩ (fun aa=> ?_);refine tk 0 aa ?_ (y:=ty zF);refine tk 1 aa ?_ (y:=ty zF);refine tk 2 aa ?_ (y:=ty zF);refine tk 3 aa ?_ (y:=ty zF);refine tk 4 aa ?_ (y:=ty zF);refine tk 5 aa ?_ (y:=ty zF);refine tk 6 aa ?_ (y:=ty zF);refine tk 7 aa ?_ (y:=ty zF);refine tk 8 aa ?_ (y:=ty zF);refine an (i:=9) zk rfl (fun K hK=> ?_);go_simp;refine hK _ _ ⟨X1.o.1,X1.o.2.1,X1.o.2.2.1,X1.o.2.2.2.1,X1.o.2.2.2.2.1,X1.o.2.2.2.2.2⟩ ?_;refine wpAnyH_done zk ?_ _;exact iO.o
 case done=>
  rintro D ys W hD rfl ⟨⟨⟨f,hf,hfp⟩,hr1,hsz⟩,hkW⟩ hK;have hfF:=hfp zq;subst hfF;gi_wp2;refine ⟨zq,.inl ⟨_,_,rfl,run_takeDeferred hK,?_⟩⟩;have hgp:=grownBy_putObj' W D (.deferred none);refine ⟨.tuple #[],by simp [results,f275,go_sem],⟨_,rfl⟩,?_,hkW.Y hgp (fun r e=>by cases e;have:=HB.o;omega)⟩;have:=hf.same (hgp.block bm hf.lt zl);exact ko1
 case stop=>
  rintro D c pre W _ _ h _;exact h.elim
end
section
open RowKit Lib Go.Sort
theorem Ms(c)(l):Lib.index (c::l) [35]=if c=35 then 0 else if Lib.index l [35]= -1 then -1 else Lib.index l [35]+1:=by
 rw [Lib.index]
 grind
theorem Hs:∀l:qU,(Lib.cut l [35]).1=ahead l
 | []=>by
  unfold Lib.cut;split<;>simp [ahead]
 | c::l=>by
  have ih:=Hs l
  unfold Lib.cut at ih |-
  have hg:=Lib.index_ge l [35];rw [Ms];by_cases h:c=35
  ·rw [if_pos h];simp [ahead,h]
  rw [if_neg h];unfold ahead;rw [if_neg h];by_cases h1:Lib.index l [35]= -1
  ·grind
  rw [if_neg h1,if_pos zj];rw [if_pos zj] at ih;rw [<-ih,show (Lib.index l [35]+1).toNat=(Lib.index l [35]).toNat+1 by omega];rfl
def rW:OpX:=(0,0,0,0,0,0,⟨#[]⟩,⟨#[]⟩)
theorem MH{ad}(s)(w)(hE:aaz ad w)(hs:s.size<=1000000):
  qC 288 #[.string s] w fun e w'=>∃(x:OpX) (er:Value),e=qT #[Iw x,er]/\Aside (qL w w'/\((AW s.data.toList=some x/\er= .nilIface)\/(AW s.data.toList=none/\x=rW/\∃a,er= .iface 437 (.pointer (some a))))):=by
 obtain ⟨m,hm⟩:=hE.mx
 cases hp:nQ s.data.toList with
 | none=>
  refine (RD s w hs m hm hE.et hp).mono ?_;rintro e w' ⟨rfl,hb⟩;exact ⟨rW,_,rfl,hb,.inr ⟨by unfold AW;rw [hp],rfl,_,rfl⟩⟩
 | some p=>
  obtain ⟨c,n1,n2,n3,n4,n5,nm,v⟩:=p;have hl:=EL hp
  have hlen:nm.length<=1000000/\v.length<=1000000:=by
   have e:=congrArg List.length hl;unfold ou at e;simp only [pA,uS,Zd,Zt] at e;have e6:=tM v;have:s.data.toList.length=s.size:=zq;omega
  by_cases hc:opE n1 n2 n3 c.toNat n4 n5 nm v=0
  ·refine (zaJ s w hs m hm hE.txt.Q1 c n1 n2 n3 n4 n5 nm v hp hlen.1 hlen.2 hc).mono ?_;rintro e w' ⟨rfl,hb⟩;exact ⟨((n1:Int),(n2:Int),(n3:Int),c.toNat,(n4:Int),(n5:Int),⟨nm.toArray⟩,⟨v.toArray⟩),_,rfl,hb,.inl ⟨by simp_all [AW,if_pos],rfl⟩⟩
  refine (RB s w hs m hm hE.txt.Q1 c n1 n2 n3 n4 n5 nm v hp hlen.1 hlen.2 hc).mono ?_;rintro e w' ⟨rfl,hb⟩;exact ⟨rW,_,rfl,hb,.inr ⟨by simp_all [AW,if_neg],rfl,_,rfl⟩⟩
theorem tL{fn}{p u u':Tmp}{ty}(h:fn.results= #[.cell p ty,.tmp u,.tmp u'])(tmps)(P)(w):
  (results fn tmps).run P w=
   ((asAddr (tmps.getD p undef)).run P w).andThen fun a w1=>((loadVar ty a).run P w1).andThen fun v w2=>.ok (.tuple #[v,tmps.getD u undef,tmps.getD u' undef]) w2:=by
 simp only [results,h]
 simp_all
def Z9(W:qW)(b:Nat)(x:OpX):Prop:=W.heap[b]? =some (.cells (qVa x) 88 (0,0))
theorem Z9.GA(w:qW)(x):Z9 (w.alloc (qVc x)) w.heap.size x:=heap_alloc_new w _
theorem Z9.lt{W}{b}{x}(h:Z9 W b x):b<W.heap.size:=(uN.1 h).1
theorem Z9.later{w w'}{b}{x}(h:Z9 w b x)(hb:qL w w'):Z9 w' b x:=(hb.block b h.lt).trans h
theorem Z9.cells{W}{b}{x}(h:Z9 W b x):W.cell? (qB b)=some (qI x.1)/\W.cell? (qA b 1)=some (qI x.2.1)/\W.cell? (qA b 2)=some (qI x.2.2.1)/\W.cell? (qA b 3)=some (.int .u8 (x.2.2.2.1:Int))/\W.cell? (qA b 4)=some (qI x.2.2.2.2.1)/\W.cell? (qA b 5)=some (qI x.2.2.2.2.2.1)/\W.cell? (qA b 6)=some (.string x.2.2.2.2.2.2.1)/\W.cell? (qA b 7)=some (.string x.2.2.2.2.2.2.2)/\∀o,W.frozen? (qA b o)=false:=by
 unfold Z9 at h;refine ⟨?_,?_,?_,?_,?_,?_,?_,?_,fun o=> ?_⟩
 ·exact kn1
 ·exact kn1
 ·exact kn1
 ·exact kn1
 ·exact kn1
 ·exact kn1
 ·exact kn1
 ·exact kn1
 simp [World.frozen?,h]
theorem OO{w W}{b}(h:qL w W)(hb:w.heap.size<=b)(o)(vs):qL w (W.setCells b o vs):=h.trans ((lZ b vs o W).m8 h.size (fun k e=>zj))
def zcb(w:qW)(s:qY)(e:Ending)(w':qW):Prop:=∃(x:OpX) (n:Nat) (z:Bool),e=qT #[Iw x,qN n,.bool z]/\Aside (qL w w'/\((z=true/\nB s.data.toList=some (x,n))\/(z=false/\nB s.data.toList=none/\x=rW/\n=0)))
theorem Jc{B}{ad}(s)(w)(hE:O8 B ad w)(hs:s.size<=100000):
  qC 233 #[.string s] w (zcb w s):=by
 obtain ⟨S,hS⟩:=ze w.heap.size;obtain ⟨U,hU⟩:=ze (w.alloc qZc);have ah:qL w U:=yC
 have Z0:Z9 U S rW:=by rw [hU.o,hS.o];exact Z9.GA w rW
 obtain ⟨m,hm⟩:=(hE.later ah).H.mx;have hcut:=Tryz.strings_Cut s ⟨#[35]⟩ m U zj hm
 obtain ⟨t1,gF⟩:∃t1:ByteArray,Aside (t1=⟨(Lib.cut s.data.toList (⟨#[35]⟩:qY).data.toList).1.toArray⟩):=⟨_,rfl⟩
 obtain ⟨t2,kg⟩:∃t2:ByteArray,Aside (t2=⟨(Lib.cut s.data.toList (⟨#[35]⟩:qY).data.toList).2.1.toArray⟩):=⟨_,rfl⟩
 obtain ⟨zc,hzc⟩:∃zc:Bool,Aside (zc=(Lib.cut s.data.toList (⟨#[35]⟩:qY).data.toList).2.2):=⟨_,rfl⟩
 rw [<-gF.o,<-kg.o,<-hzc.o] at hcut
 have HT:Aside (t1.data.toList=ahead s.data.toList):=by
  show _=_
  rw [gF.o];exact Hs s.data.toList
 have iQ:t1.size<=100000:=by
  have h1:=Hn s.data.toList;rw [<-HT.o] at h1;have h2:t1.data.toList.length=t1.size:=zq;have h3:s.data.toList.length=s.size:=zq;omega
 have H0:Aside (Z9 U S rW/\O8 B ad U/\qL w U):=⟨Z0,hE.later ah,ah⟩
 clear hE ah Z0 hm;go_enter func233,ntmps233;go_upto_region 1 with fail;rw [<-hU.o,<-hS.o];go_wp2_with fail;refine hcut.mono ?_;clear hcut;rintro e w1 ⟨rfl,nd,hw1⟩
 have hb1:qL U w1:=by rw [hw1];exact ⟨rfl,rfl,rfl,uM _,fun _ _=>rfl⟩
 have H1:Aside (Z9 w1 S rW/\O8 B ad w1/\qL w w1):=⟨H0.o.1.later hb1,H0.o.2.1.later hb1,zi H0.o.2.2 hb1⟩
 clear hw1 hb1;have jm:=MH t1 w1 H1.o.2.1.H zj;go_wp2_with fail;refine jm.mono ?_;clear jm;rintro e w2 ⟨x,er,rfl,H2⟩
 have HR2:Aside ((AW (ahead s.data.toList)=some x/\er= .nilIface)\/(AW (ahead s.data.toList)=none/\x=rW/\∃a,er= .iface 437 (.pointer (some a)))):=by
  have:=H2.o.2;rw [HT.o] at this;exact this
 obtain ⟨V,hV⟩:=ze (w2.alloc (qVc x));obtain ⟨Q,hQ⟩:=ze w2.heap.size
 have ai:qL w1 V:=by rw [hV.o];exact H2.o.1.alloc H2.o.1.size _
 have OV:Z9 V Q x:=by rw [hV.o,hQ.o];exact Z9.GA w2 x
 have HV:Aside (Z9 V S rW/\Z9 V Q x/\O8 B ad V/\qL w V/\S<Q):=⟨H1.o.1.later ai,OV,H1.o.2.1.later ai,zi H1.o.2.2 ai,by rw [hQ.o];exact uY H1.o.1.lt H2.o.1.size⟩
 clear ai OV;unfold Iw;go_upto_region 3 with fail;rw [<-hV.o,<-hQ.o]
 rcases HR2.o with ⟨hr,he⟩ | ⟨hr,hx,a,he⟩
 ·subst he;have hrc:=Dw t1 V zj HV.o.2.2.1.H.deb;have HRO:Aside (AW (ahead s.data.toList)=some x):=hr;clear hr HR2;go_wp2_with fail;refine hrc.mono ?_;clear hrc;rintro e w3 ⟨r,hr,rfl,hb3⟩;have hpf:=Tryz.strings_HasPrefix s r w3
  obtain ⟨z,hz⟩:∃z:Bool,Aside (z=Lib.hasPrefix s.data.toList r.data.toList):=⟨_,rfl⟩
  rw [<-hz.o] at hpf;rw [HT.o] at hr
  have H3:Aside (Z9 w3 S rW/\Z9 w3 Q x/\qL w w3/\r.data.toList=nE (ahead s.data.toList)):=⟨HV.o.1.later hb3,HV.o.2.1.later hb3,zi HV.o.2.2.2.1 hb3,hr⟩
  clear hr hb3;go_wp2_with fail;refine hpf.mono ?_;clear hpf;rintro e w4 ⟨rfl,rfl⟩;obtain ⟨z0,z1,z2,z3,z4,z5,z6,z7,zf⟩:=H3.o.1.cells;unfold rW at z0 z1 z2 z3 z4 z5 z6 z7;dsimp only at z0 z1 z2 z3 z4 z5 z6 z7;obtain ⟨j0,j1,j2,j3,j4,j5,j6,j7,jf⟩:=H3.o.2.1.cells
  cases z with
  | true=>
   have HF:Aside (nB s.data.toList=some (x,r.size)):=by
    have hp:nE (ahead s.data.toList)<+:s.data.toList:=by
     have:=hz.o;rw [H3.o.2.2.2] at this;exact List.isPrefixOf_iff_prefix.1 this.symm
    show nB s.data.toList=_
    unfold nB;rw [HRO.o];dsimp only;rw [if_pos hp,<-H3.o.2.2.2];simp
   go_wp2;(try simp only [Exit.inBlock,Exit.then]);refine bodyPost_ret (v:=.tuple #[Iw x,qN r.size,.bool true]) ?_ rfl ⟨x,r.size,true,rfl,?_,.inl ⟨rfl,HF.o⟩⟩
   ·rw [tL rfl];unfold Iw;go_simp
   exact OO (b:=S) H3.o.2.2.1 ub 0 (qVl x)
  | false=>
   have HF:Aside (nB s.data.toList=none):=by
    have hp:¬nE (ahead s.data.toList)<+:s.data.toList:=fun q=>by
     have h1:=hz.o;rw [H3.o.2.2.2] at h1;have h2:Lib.hasPrefix s.data.toList (nE (ahead s.data.toList))=true:=List.isPrefixOf_iff_prefix.2 q;rw [h2] at h1
     cases h1
    show nB s.data.toList=_
    unfold nB;rw [HRO.o];dsimp only;rw [if_neg hp]
   clear j0 j1 j2 j3 j4 j5 j6 j7 jf;go_wp2;(try simp only [Exit.inBlock,Exit.then]);refine bodyPost_ret (v:=.tuple #[Iw rW,qI 0,.bool false]) ?_ rfl ⟨rW,0,false,rfl,?_,.inr ⟨rfl,HF.o,rfl,rfl⟩⟩
   ·rw [tL rfl];unfold Iw rW;go_simp
   exact OO (b:=S) H3.o.2.2.1 ub 0 qZl
 subst he
 have HF:Aside (nB s.data.toList=none):=by
  show nB s.data.toList=_
  unfold nB;rw [hr]
 obtain ⟨z0,z1,z2,z3,z4,z5,z6,z7,zf⟩:=HV.o.1.cells;unfold rW at z0 z1 z2 z3 z4 z5 z6 z7;dsimp only at z0 z1 z2 z3 z4 z5 z6 z7;clear hr HR2;go_wp2;(try simp only [Exit.inBlock,Exit.then]);refine bodyPost_ret (v:=.tuple #[Iw rW,qI 0,.bool false]) ?_ rfl ⟨rW,0,false,rfl,?_,.inr ⟨rfl,HF.o,rfl,rfl⟩⟩
 ·rw [tL rfl];unfold Iw rW;go_simp
 exact OO (b:=S) HV.o.2.2.2.1 ub 0 qZl
theorem zcy{w w':qW}{l9 n}{e}{k}{v}{xs}(h:w.ownsRow l9 e k v n xs)(hs:∀g,v.ownBlock=some g->w'.heap[g]? =w.heap[g]?):w'.ownsRow l9 e k v n xs:=by
 refine ⟨h.1,?_⟩
 rcases h.2 with q | ⟨g,cap,cur,rfl,hb,hg,rest⟩
 ·exact .inl q
 exact .inr ⟨g,cap,cur,rfl,hb,(hs g rfl).trans hg,rest⟩
theorem zeB(w:qW)(x):∀j u,(nD x)[j]? =some u->(w.alloc (qVc x)).cell? (((qB w.heap.size):Addr).add j)=some u:=
 YJ (cs:=(qVa x)) (t:=88) (fr:=(0,0)) (heap_alloc_new w _)
theorem zex(x):∀u∈nD x,u.oneCell'=true:=by
 intro u hu;simp only [nD,uZ,ZS,or_false] at hu
 rcases hu with rfl | rfl | rfl | rfl | rfl | rfl | rfl | rfl<;>rfl
theorem MZ(xs)(x):cellsOf (xs++ [x])=cellsOf xs++nD x:=by simp [cellsOf]
theorem QV(s)(n)(h:n<=s.size):∃F:ByteArray,F.data.toList=s.data.toList.drop n/\F.size=s.size - n/\∀w,(Instr.slice 9 (.string s) (some (qN n)) none none).run prog w= .ok (.string F) w:=by
 obtain ⟨F,h1,h2⟩:=PA s n h;refine ⟨F,h1,?_,h2⟩;have:=congrArg List.length h1;exact ko1
def IK(w:qW)(s:qY)(e:Ending)(w':qW):Prop:=∃v:Value,e=qT #[v,qI ((mp s.data.toList).2:Int)]/\Aside (w'.ownsRow w.heap.size 88 8 v (mp s.data.toList).1.length (cellsOf (mp s.data.toList).1)/\qL w w')
theorem KV(b):(mp b).2<=b.length/\10*(mp b).1.length<=b.length:=by
 obtain ⟨r,h1,h2,h3,h4⟩:=KO b.length b zg;have e:=congrArg List.length h1;rw [uS] at e;refine ⟨zj,?_⟩
 have:∀l:List OpX,10*l.length<=(oM l).length:=by
  intro l
  induction l with
  | nil=>simp
  | cons x l ih=>
   show _<=(nE (mO x)++oM l).length
   rw [uS,nG,Zd];omega
 grind
theorem OK{B}{ad}(s)(w)(hE:O8 B ad w)(hs:s.size<=100000):
  qC 167 #[.string s] w (IK w s):=by
 obtain ⟨i0,dY,aD,aw,aJ⟩:=info_parts rD;obtain ⟨T,hT⟩:=ze (mp s.data.toList);have HE:Aside (O8 B ad w):=hE;unfold IK;rw [<-hT.o];go_enter func167,ntmps167;go_wp2;go_loopg [4,5] s.size (fun kx s4 s5 W=>∃(n:Nat) (xs:qX) (ov:Value),ov=s4/\s5=qN n/\n<=s.size/\s.size - n<=kx/\xs.length<=20000/\Aside (W.ownsRow w.heap.size 88 8 ov xs.length (cellsOf xs)/\qL w W/\T=(xs++(mp (s.data.toList.drop n)).1,n+(mp (s.data.toList.drop n)).2)))
 case atStart=>exact ⟨0,[],_,rfl,rfl,uW _,uM _,zq,⟨Zk _ _ _ _,uO _ w,by rw [hT.o];simp⟩⟩
 case round=>
  obtain ⟨n,xs,ov,rfl,rfl,hn,cz,dS,A⟩:=hrel;obtain ⟨F,hF,hFs,gG⟩:=QV s n hn;have HFF:Aside (F.data.toList=s.data.toList.drop n):=hF;have hrr:=Jc F wr (HE.o.later A.o.2.1) zj;obtain ⟨u,hu⟩:=za wr;subst hu;go_wp2_with fail;refine hrr.mono ?_;rintro e w1 ⟨x,m,z,rfl,H1⟩
  have HR:Aside ((z=true/\nB (s.data.toList.drop n)=some (x,m))\/(z=false/\nB (s.data.toList.drop n)=none/\x=rW/\m=0)):=by
   have:=H1.o.2;rw [HFF.o] at this;exact this
  obtain ⟨V,hV⟩:=ze (w1.alloc (qVc x));obtain ⟨Q,hQ⟩:=ze w1.heap.size
  have ai:qL u V:=by rw [hV.o];exact H1.o.1.alloc H1.o.1.size _
  have OV:Z9 V Q x:=by rw [hV.o,hQ.o];exact Z9.GA w1 x
  have HV:Aside (V.ownsRow w.heap.size 88 8 ov xs.length (cellsOf xs)/\qL w V):=⟨zcy A.o.1 (fun g hg=>ai.block g (A.o.1.lt g hg).2),zi A.o.2.1 ai⟩
  unfold Iw;go_upto_region 4 with fail;rw [<-hV.o,<-hQ.o]
  cases z with
  | false=>
   have hr:nB (s.data.toList.drop n)=none:=by
    rcases HR.o with ⟨q,_⟩ | ⟨_,q,_⟩
    ·cases q
    exact q
   have HT:Aside (T=(xs,n)):=by
    show T=(xs,n)
    have:=A.o.2.2;rw [AT hr] at this;exact ko1
   go_wp2;go_ret2;exact ⟨ov,by rw [HT.o];rfl,by rw [HT.o];exact HV.o.1,HV.o.2⟩
  | true=>
   have hr:nB (s.data.toList.drop n)=some (x,m):=by
    rcases HR.o with ⟨_,q⟩ | ⟨q,_⟩
    ·exact q
    cases q
   have hp:=wN hr;rw [ZL] at hp;have hsz:s.data.toList.length=s.size:=zq;rw [hsz] at hp;have hwr:IntKind.i64.wrap ((n:Int)+(m:Int))=((n+m:Nat):Int):=zw
   obtain ⟨nm,dr⟩:∃nm:Nat,Aside (nm=n+m):=⟨_,rfl⟩
   rw [<-dr.o] at hwr
   have HT:Aside (T=((xs++ [x])++(mp (s.data.toList.drop nm)).1,nm+(mp (s.data.toList.drop nm)).2)/\(xs++ [x]).length<=20000):=by
    have h1:=A.o.2.2;rw [AI hr,List.drop_drop] at h1;refine ⟨by rw [h1,dr.o];simp;omega,?_⟩;have hle:=KV s.data.toList;rw [<-hT.o,h1] at hle
    simp at hle |-
    omega
   obtain ⟨j0,j1,j2,j3,j4,j5,j6,j7,jf⟩:=OV.cells;go_wp2_with (at_builtin;refine wpList_append_own _ rfl _ _ 136 rfl w.heap.size 88 i0 _ 8 80 underlying136 dY aD aw aJ rfl zj _ _ _ rfl (HV.o.1.alloc _) (qB V.heap.size) 1 1 (nD x) rfl ?qc1 ?qc2 ?qc3 ?qc4 ?qc5 ?qc6 ?_)
   case qc1=>rfl
   case qc2=>first | exact zeB V x | exact fun j u h=>h
   case qc3=>exact zex x
   case qc4=>simp only [maxLen];omega
   case qc5=>omega
   case qc6=>have:=HV.o.2.size;omega
   intro v' w4 hown ag hnil
   have HN:Aside (w4.ownsRow w.heap.size 88 8 v' (xs++ [x]).length (cellsOf (xs++ [x]))/\qL w w4):=by
    refine ⟨?_,?_⟩
    ·rw [MZ,uS];exact hown
    exact (HV.o.2.alloc HV.o.2.size _).grown ag (by simp;have:=HV.o.2.size;omega) (fun k hk=>(HV.o.1.lt k hk).1)
   go_wp2;go_roundg (s.size - nm)
   case measure=>have:=dr.o;omega
   case rel=>exact ⟨nm,xs++ [x],_,rfl,rfl,by have:=dr.o;omega,uM _,HT.o.2,HN.o.1,HN.o.2,HT.o.1⟩
theorem Ro(g n cap k)(w)(h:k<=cap):(Instr.slice 141 (qG g n cap) none (some (qN k)) none).run prog w= .ok (qG g k cap) w:=by
 exact kn5
def tg(st:DSt):DSt:=(st.1.take (mp st.1).2,false,false,st.2.2.2)
def zaD(d:Nat)(v:Value)(w:qW)(st:DSt)(e:Ending)(w':qW):Prop:=∃rv:Value,e=qT #[rv,.nilIface]/\Aside (E4 d v w (tg st) w'/\w'.ownsRow w.heap.size 88 8 rv (mp st.1).1.length (cellsOf (mp st.1).1)/\m7 (fun k=>k=d) w w')
theorem IC{B}{ad}{d}{v}{st}(w)(hD:t6 w d v st)(hE:O8 B ad w)(hO:∀k,DA d v k->B<=k)(hB:st.1.length<=65536):
  Calls prog 123 #[.pointer (some ⟨d,0,none⟩)] w (zaD d v w st):=by
 obtain ⟨B0,off,waits,left⟩:=st;have hon:=zcM w hD;obtain ⟨g,cap,aW⟩:=hD.row.aag;dsimp only at aW hB
 have H0:Aside (t6 w d v (B0,off,waits,left)/\O8 B ad w/\∀k,DA d v k->B<=k):=⟨hD,hE,hO⟩
 have HV:Aside (v= .slice (some ⟨g,0,none⟩) B0.length cap):=aW;clear hD hE hO aW;go_enter func123,ntmps123;go_wp2_with fail;refine hon.mono ?_;clear hon;rintro e w1 ⟨⟨u,rfl⟩,H1⟩;have bK:=Pi w1 H1.o.1;dsimp only at bK
 obtain ⟨s,hs⟩:∃s:ByteArray,Aside (s=⟨B0.toArray⟩):=⟨_,rfl⟩
 rw [<-hs.o] at bK
 have fO:s.data.toList=B0:=by rw [hs.o]
 have hss:s.size<=65536:=by rw [hs.o];simpa [ByteArray.size] using hB
 have ee:=H0.o.2.1.mono (H1.o.2.m8 H0.o.2.1.size (fun k e=>by rw [e];exact H0.o.2.2 d (.inl rfl)));have jm:=OK s w1 ee zj;obtain ⟨T,hT⟩:=ze (mp B0);unfold IK at jm;rw [fO,<-hT.o] at jm;clear fO ee;go_wp2_with fail;refine bK.mono ?_;clear bK;rintro e w2 ⟨rfl,rfl⟩;go_wp2_with fail;refine jm.mono ?_;clear jm;rintro e w3 ⟨rv,rfl,H3⟩;have hD3:=H1.o.1.later H3.o.2;obtain ⟨c0,c1,c2,c3,cf⟩:=hD3.c;rw [HV.o] at c0;obtain ⟨k,hk⟩:=ze T.2
 have hkB:k<=B0.length:=by
  rw [hk.o,hT.o];exact (KV B0).1
 have hcap:B0.length<=cap:=by
  obtain ⟨g',cap',cur,fr,e1,_,_,h3,_⟩:=hD3.row;rw [HV.o] at e1
  cases e1
  exact h3
 have gG:=fun W=>Ro g B0.length cap k W zj
 rw [<-hk.o]
 have HF:Aside (E4 d v w (B0.take T.2,false,false,left) (w3.setCell ⟨d,0,none⟩ (.slice (some ⟨g,0,none⟩) k cap))/\(w3.setCell ⟨d,0,none⟩ (.slice (some ⟨g,0,none⟩) k cap)).ownsRow w.heap.size 88 8 rv T.1.length (cellsOf T.1)/\m7 (fun k=>k=d) w (w3.setCell ⟨d,0,none⟩ (.slice (some ⟨g,0,none⟩) k cap))):=by
  have hrow:Q0 w3 (.slice (some ⟨g,0,none⟩) k cap) (B0.take T.2):=by
   have:=hD3.row;dsimp only at this;rw [HV.o] at this;rw [<-hk.o];exact this.cut hkB
  have hne:(Value.slice (some ⟨g,0,none⟩) k cap).ownBlock≠some d:=by
   have:=hD3.ne;rw [HV.o] at this;exact this
  have h4:=t6.aaW hD3.cell hrow hne hD3.left;have hk3:m7 (fun k=>k=d) w2 w3:=(lW H3.o.2).mono (fun k hk q=>zj);have gr:=(H1.o.2.trans hk3).trans h4.2;refine ⟨⟨_,h4.1,gr.mono (fun k _ e=>.inl e),fun g' hg'=>.inl (by rw [HV.o];exact hg')⟩,?_,gr⟩;have hr:=H3.o.1;have hr':=zcy hr (w':=w3.setCell ⟨d,0,none⟩ (.slice (some ⟨g,0,none⟩) k cap)) (fun g' hg'=>h4.2.block g' (hr.lt g' hg').2 (fun e=>by have:=(hr.lt g' hg').1;have:=H1.o.1.lt;omega));have hws:=H1.o.2.size
  rcases hr'.2 with q | ⟨g2,cap2,cur2,e1,hb2,rest⟩
  ·exact ⟨hr'.1,.inl q⟩
  exact ⟨hr'.1,.inr ⟨g2,cap2,cur2,e1,uQ hws hb2,rest⟩⟩
 clear hD3 c1 c2 c3 hkB hcap H3 H1;go_wp2;go_ret2;refine ⟨rv,rfl,?_⟩;unfold tg;dsimp only;rw [<-hT.o];exact HF.o
end
section
theorem Ar:∀(r:qU) (B:qU) (left:Int),od (B,false,false,left) r=(true,(B++r,false,false,left))
 | [],B,left=>by simp [od]
 | c::r,B,left=>by
  have h:wr1 (B,false,false,left) c=(true,(B++ [c],false,false,left)):=by unfold wr1;simp
  rw [od,h,if_pos rfl,Ar r];simp
theorem Pa(c)(r)(B)(left):od (B,true,false,left) (c::r)=(false,(B,true,false,left)):=by
 simp_all [wr1,od,if_neg]
theorem LM:∀(r:qU) (B:qU) (left:Nat),od (B,false,true,(left:Int)) r=if r.length<=left then (true,(B++r,false,true,((left - r.length:Nat):Int))) else (false,(B++r.take left,true,false,0))
 | [],B,left=>by simp [od]
 | c::r,B,0=>by
  simp_all [wr1,od,if_neg]
 | c::r,B,left+1=>by
  have h:wr1 (B,false,true,((left+1:Nat):Int)) c=(true,(B++ [c],false,true,(left:Int))):=by
   unfold wr1;have:¬((left:Int)+1=0):=zj;simp [this]
  rw [od,h,if_pos rfl,LM r (B++ [c]) left]
  simp_all
theorem zbL(t):∃c r,nE t=c::r:=by
 cases h:nE t with
 | nil=>grind [nG]
 | cons c r=>exact ⟨c,r,rfl⟩
theorem Og(dn)(x):oM (dn++ [x])=oM dn++nE (mO x):=by
 grind [BW,oM,nE,mO]
theorem Ok(dn)(h:∀x∈dn,wR x=0):mp (oM dn)=(dn,(oM dn).length):=by
 have:=AK dn [] h Ci
 simp_all
theorem Bj{B}{left}{x}(he:wR x=0)(hl:B.length+(nE (mO x)).length<=65536):pJ (B,false,false,left) x=(0,(B++nE (mO x),false,false,left)):=by
 simp_all [pJ,if_neg,Ar]
end
section
open RowKit
def Ea(z:Nat)(P:List ByteArray)(w:qW)(e:Ending)(w':qW):Prop:=∃g cap,e= .returned (qG g P.length cap)/\P.length<=cap/\z<=cap/\Aside (∀j x,P[j]? =some x->w'.cell? (qA g j)=some (.string x))/\Aside (qL w w')
theorem EY{w w'}{b n}{f}(h:F7 w b n f)(hb:qL w w'):F7 w' b n f:=h.same (hb.block _ h.lt)
theorem mu{w w'}{p}{v}(hb:qL w w')(h:w.cell? p=some v):w'.cell? p=some v:=by
 rw [hb.cell (p:=p) (uP w p h)];exact h
theorem Aside.mk'{p}(h:p):Aside p:=h
def Ku(a:Addr)(w:qW)(e:Ending)(w':qW):Prop:=e= .returned (.tuple #[.string ⟨#[]⟩,.iface 437 (.pointer (some a))])/\Aside (qL w w')
theorem PG(w)(z)(b n)(f)(C9 p0)(ps)(hM:F7 w b n f)(hW:qC 68 #[.string C9,.string ⟨#[32]⟩,qI 6] w (Ea z (p0::ps) w))(h0:p0.size<=maxLen)(a)(hT:w.cell? (qB 1)=some (.iface 437 (.pointer (some a))))(hf:f p0.data.toList=none):
  qC 24 #[.map (some b),.string C9] w (Ku a w):=by
 go_enter func24,ntmps24;go_wp2_with fail;refine hW.mono ?_;rintro e w1 ⟨g,cap,rfl,hcap,hz,HC,HB⟩;have c0:=HC.o 0 p0 rfl;have cq:=(EY hM HB.o).A p0 h0;rw [hf] at cq;unfold tq LB at cq;simp only [Option.getD_none,YB] at cq;have hT1:=mu HB.o hT
 have HF:Aside (∀W,qL w1 W->qL w W):=fun W h=>zi HB.o h
 have hT2:∀o,(w1.alloc o).cell? (qB 1)=some (.iface 437 (.pointer (some a))):=fun o=>mu ((uO _ w1).alloc zg o) hT1
 go_upto_region 4 with fail;go_region
 all_goals (go_wp2;go_ret2;exact ⟨rfl,HF.o _ ((zh w1 _).drew)⟩)
def ObS(C g:Nat)(a:Addr)(form:qY)(fv:Value)(ps:List ByteArray)(w:qW):Prop:=o9 w C 63 [.string form,fv]/\Ee w (some (qA g 1)) ps/\w.cell? (qB 1)=some (.iface 437 (.pointer (some a)))
theorem ObS.later{C g}{a}{form}{fv}{ps}{w w'}(h:ObS C g a form fv ps w)(hb:qL w w'):ObS C g a form fv ps w':=
 ⟨h.1.later hb h.1.lt,fun i x hx=>by obtain ⟨blk,off,e,hc⟩:=h.2.1 i x hx;exact ⟨blk,off,e,mu hb hc⟩,mu hb h.2.2⟩
theorem C3.later{w w'}{v0 v1 v2}{s}(h:C3 w v0 v1 v2 s)(hb:qL w w'):C3 w' v0 v1 v2 s:=by
 obtain ⟨⟨B0,h0⟩,⟨B1,h1⟩,⟨B2,h2⟩⟩:=h;exact ⟨⟨B0,mE h0 (fun g hg=>hb.block g (h0.lt g hg).2)⟩,⟨B1,mE h1 (fun g hg=>hb.block g (h1.lt g hg).2)⟩,⟨B2,mE h2 (fun g hg=>hb.block g (h2.lt g hg).2)⟩⟩
theorem C3.put{w}{v0 v1 v2}{s}(h:C3 w v0 v1 v2 s){Z}{cs}(hZ:o9 w Z 84 cs)(x y z):C3 (((w.setCell (qB Z) x).setCell (qA Z 1) y).setCell (qA Z 2) z) v0 v1 v2 s:=by
 obtain ⟨⟨B0,h0⟩,⟨B1,h1⟩,⟨B2,h2⟩⟩:=h;have k0:=nI h0 hZ tyI;have k1:=nI h1 hZ tyI;have k2:=nI h2 hZ tyS;exact ⟨⟨_,mA (mA (mA h0 k0) k0) k0⟩,⟨_,mA (mA (mA h1 k1) k1) k1⟩,⟨_,mA (mA (mA h2 k2) k2) k2⟩⟩
theorem Dm{X}{Z}{t}(hZ:o9 X Z t [.slice none 0 0,.slice none 0 0,.slice none 0 0]){b o}{v}(h:X.cell? ⟨b,o,none⟩=some v)(hv:∀p q r,v≠ .slice p q r)(x y z):(((X.setCell ⟨Z,0,none⟩ x).setCell ⟨Z,1,none⟩ y).setCell ⟨Z,2,none⟩ z).cell? ⟨b,o,none⟩=some v:=by
 have hb:b≠Z:=fun e=>by
  subst e;have hc:=hZ.cell o;rw [h] at hc
  match o with
  | 0=>cases hc;exact hv _ _ _ rfl
  | 1=>cases hc;exact hv _ _ _ rfl
  | 2=>cases hc;exact hv _ _ _ rfl
  | _+3=>cases hc
 simp_all [Zs,congrArg]
theorem za8{C g Z}{a}{form}{fv}{ps}{X}(h:ObS C g a form fv ps X)(hZ:o9 X Z 84 [qE,qE,qE])(hne:C≠Z)(x y z):ObS C g a form fv ps (((X.setCell (qB Z) x).setCell (qA Z 1) y).setCell (qA Z 2) z):=
 ⟨by
  have e:∀(W:qW) (o:Nat) (v:Value),(W.setCell (qA Z o) v).heap[C]? =W.heap[C]? :=fun W o v=>heap_setCell_other W (qA Z o) C v hne
  exact (e _ _ _).trans ((e _ _ _).trans ((e _ _ _).trans h.1)),fun i u hu=>by
  obtain ⟨blk,off,e,hc⟩:=h.2.1 i u hu
  grind [Dm],Dm hZ h.2.2 (fun _ _ _ q=>xQ) _ _ _⟩
theorem Xe(w)(z)(b n)(f)(C9 p0)(ps)(hM:F7 w b n f)(hW:qC 68 #[.string C9,.string ⟨#[32]⟩,qI 6] w (Ea z (p0::ps) w))(h0:p0.size<=maxLen)(a)(hT:w.cell? (qB 1)=some (.iface 437 (.pointer (some a))))(form)(fn)(bs)(aJ:2<=z)(hf:f p0.data.toList=some (form,some (fn,bs)))(iA:form.size<=50)(bg:ps.length<=40)(hsz:∀x∈ps,x.size<=1000000)
  (eg:∀args w,(callFunc fn args).run prog w= .ok (.enter fn args) w) (Q:IL->ByteArray->Value->World->Prop)
  (hD:∀x W v0 v1 v2,nj form.data.toList ps=some x->qL w W->C3 W v0 v1 v2 x->Wz w.heap.size v0 v1->Calls prog fn (#[.agg #[v0,v1,v2]]++(bs.map ptB).toArray) W fun e w'=>∃told ev,e=qT #[.string told,ev]/\Aside (Q x told ev w')):
  qC 24 #[.map (some b),.string C9] w fun e w'=>(nj form.data.toList ps=none/\Ku a w e w')\/∃x told ev,nj form.data.toList ps=some x/\e=qT #[.string told,ev]/\Aside (Q x told ev w'):=by
 go_enter func24,ntmps24;go_wp2_with fail;refine hW.mono ?_;rintro e w1 ⟨g,cap,rfl,hcap,hz,HC,HB⟩;have c0:=HC.o 0 p0 rfl;have cq:=(EY hM HB.o).A p0 h0;rw [hf] at cq;unfold tq at cq;simp only [YS,YC] at cq;have hT1:=mu HB.o hT
 have HWd:Aside (Ee w1 (some (qA g 1)) ps):=fun i x hx=>⟨g,1,rfl,by rw [Nat.add_comm];exact HC.o (i+1) x hx⟩
 have hl:((p0::ps).length:Int)=(ps.length:Int)+1:=zq;have HD:=Aside.mk' hD;generalize hcs:(bs.map ptB).toArray=cs at cq HD;go_upto_region 5 with fail;have hc2:¬cap=1:=zj;have hc3:(1:Int)<=(ps.length:Int)+1:=zj
 have S0:ObS w1.heap.size g a form (.func (.func fn) #[] cs) ps (w1.alloc (.cells #[.string form,.func (.func fn) #[] cs] 63)):=⟨mq w1 _ _,fun i x hx=>by obtain ⟨blk,off,e,hc⟩:=HWd.o i x hx;exact ⟨blk,off,e,mu (zh w1 _) hc⟩,mu (zh w1 _) hT1⟩
 have HB1:Aside (qL w (w1.alloc (.cells #[.string form,.func (.func fn) #[] cs] 63))):=HB.o.trans ((zh w1 _).mono HB.o.size)
 generalize w1.heap.size=C at S0 |-
 generalize w1.alloc (.cells #[.string form,.func (.func fn) #[] cs] 63)=V at S0 HB1 |-
 have CS:ObS C g a form (.func (.func fn) #[] cs) ps V.drew:=S0
 have jm:=fun (W:qW) (hW:ObS C g a form (.func (.func fn) #[] cs) ps W)=>UH W form (some (qA g 1)) (cap - 1) ps hW.2.1 iA zj hsz
 have HRD:Aside _:=jm;have jh:Aside (qL w V.drew):=HB1.o.drew;go_cut [9,10] (fun s9 gP wx=>∃(Z:Nat) (v0 v1 v2:Value),s9=qP Z/\gP= .bool (nj form.data.toList ps).isSome/\Aside (ObS C g a form (.func (.func fn) #[] cs) ps wx/\o9 wx Z 84 [v0,v1,v2]/\C3 wx v0 v1 v2 ((nj form.data.toList ps).getD ([],[],[]))/\qL w wx/\Wz w.heap.size v0 v1))
 case first=>
  refine lV (S:=ObS C g a form (.func (.func fn) #[] cs) ps) zk CS (fun aa=> ?_);refine tk 0 CS ?_;refine tk 1 CS ?_ (y:=ty (by intro w' ab;have q0:=ab.1.cell 1;have q0:=ab.1.cell 0;simp only [Zb] at q0;clear ab;go_simp;try with_reducible rfl));refine tk 2 CS ?_;refine tk 3 CS ?_;refine AB (i:=4) (j:=8) zk rfl rfl (fun K hK=> ?ca) (fun K hK=> ?al)
  case ca=>
   go_simp;refine (HRD.o V.drew CS).mono ?_;rintro e w6 ⟨v0,v1,v2,rfl,H6⟩;have C6:=CS.later H6.o.1
   have HNV:Aside (Wz w.heap.size v0 v1):=fun k q=>uQ jh.o.size (H6.o.2.2 k q)
   refine hK _ _ C6 ?_;refine qn ?_;refine tk 5 C6 ?_;refine tk 6 C6 ?_;refine tk 7 C6 ?_;obtain ⟨X,hX⟩:=ze (w6.alloc (.cells #[qE,qE,qE] 84))
   have hbX:qL w6 X:=by rw [hX.o];exact zh w6 _
   have ZX:o9 X w6.heap.size 84 [qE,qE,qE]:=by rw [hX.o];exact mq w6 _ _
   have HX:Aside (C3 X v0 v1 v2 ((nj form.data.toList ps).getD ([],[],[]))/\qL w X):=⟨H6.o.2.1.later hbX,(zi jh.o H6.o.1).trans (hbX.mono (zi jh.o H6.o.1).size)⟩
   have CX:=C6.later hbX
   have hne:C≠w6.heap.size:=by have:=C6.1.lt;omega
   refine an (i:=8) zk rfl (fun K hK=> ?_);go_simp;rw [<-hX.o];refine hK _ _ CX ?_;refine qn ?_;have hw0:=(zi jh.o H6.o.1).size
   generalize w6.heap.size=Z at ZX hne hw0 |-
   exact ka5
  case al=>
   obtain ⟨X,hX⟩:=ze ((V.alloc (.cells #[qE,qE,qE] 84)).drew)
   have hbX:Below V.drew.heap.size V.drew X:=by rw [hX.o];exact (uO _ V.drew).alloc zg _
   have ZX:o9 X V.drew.heap.size 84 [qE,qE,qE]:=by rw [hX.o];exact mq V _ _
   have hne:C≠V.drew.heap.size:=by have:=CS.1.lt;omega
   have CX:=CS.later hbX;have hw0:=jh.o.size;have jS:Aside (qL w X):=zi jh.o hbX;go_simp;rw [<-hX.o];refine hK _ _ CX ?_;refine qn ?_;change w.heap.size<=V.heap.size at hw0;change C≠V.heap.size at hne;change o9 X V.heap.size _ _ at ZX
   generalize V.heap.size=Z at ZX hne hw0 |-
   refine an (i:=4) zk rfl (fun K hK=> ?_);go_simp;refine (HRD.o X CX).mono ?_;rintro e w6 ⟨v0,v1,v2,rfl,H6⟩;have C6:=CX.later H6.o.1
   have HNV:Aside (Wz w.heap.size v0 v1):=fun k q=>uQ jS.o.size (H6.o.2.2 k q)
   refine hK _ _ C6 ?_;refine qn ?_;refine tk 5 C6 ?_;refine tk 6 C6 ?_;refine tk 7 C6 ?_;have ZY:=ZX.later H6.o.1 ZX.lt
   have HX:Aside (C3 w6 v0 v1 v2 ((nj form.data.toList ps).getD ([],[],[]))/\qL w w6):=⟨H6.o.2.1,zi jS.o H6.o.1⟩
   have CX:=C6;have ZX:=ZY
   generalize w6=X at CX ZX HX |-
   exact ka5
 obtain ⟨Z,v0,v1,v2,rfl,rfl,HE⟩:=hcut
 obtain ⟨o,ho⟩:∃o,Aside (nj form.data.toList ps=o):=⟨_,rfl⟩
 rw [ho.o] at HE |-
 cases o with
 | none=>
  have hT2:=HE.o.1.2.2;have HF:Aside (qL w wc):=HE.o.2.2.2.1;simp only [YB];go_upto_region 7 with fail;go_region
  all_goals (go_wp2;go_ret2;exact .inl ⟨ho.o,rfl,HF.o.drew⟩)
 | some x=>
  simp only [YC];have q1:=HE.o.1.1.cell 1;have z0:=HE.o.2.1.cell 0;have z1:=HE.o.2.1.cell 1;have z2:=HE.o.2.1.cell 2;simp only [Zb,Zf] at q1 z0 z1 z2;have hc:=HD.o x wc v0 v1 v2 ho.o HE.o.2.2.2.1 HE.o.2.2.1 HE.o.2.2.2.2;go_wp2_with fail;refine hc.mono ?_;rintro e w9 ⟨told,ev,rfl,HQ⟩;go_wp2;go_ret2;exact .inr ⟨x,told,ev,ho.o,rfl,HQ.o⟩
def rB(s:qY):List ByteArray:=Lib.splitB ⟨#[32]⟩ 0 (min 6 (s.size+1) - 1) s
theorem tA(R7):∀(k:Nat) (s:qY),∀x∈Lib.splitB R7 0 k s,x.size<=s.size
 | 0,s,x,h=>by
  simp_all [Lib.splitB_zero,Zc,uM]
 | k+1,s,x,h=>by
  unfold Lib.splitB at h;split at h
  ·simp_all
  rcases uZ.1 h with rfl | h
  ·rw [ByteArray.size_extract];omega
  have:=tA R7 k _ x h
  grind [ByteArray.size_extract]
theorem RW(R7)(k)(s):Lib.splitB R7 0 k s≠ []:=by
 cases k with
 | zero=>rw [Lib.splitB_zero];simp
 | succ k=>unfold Lib.splitB;split<;>simp
theorem EM(s):∃p ps,rB s=p::ps:=by
 cases h:rB s with
 | nil=>exact absurd h (RW _ _ _)
 | cons p ps=>simp_all
theorem Rm(s):(rB s).length<=6:=by
 grind [Lib.splitB_length_le,rB]
theorem JH(s)(m)(w)(hs:s.size<=1000000)(hm:w.cell? (qB 14)=some (qI m)):
  qC 68 #[.string s,.string ⟨#[32]⟩,qI 6] w (Ea (min 6 (s.size+1)) (rB s) w):=by
 refine (Tryz.strings_SplitN s ⟨#[32]⟩ 6 m w zj hm zo zo zo).mono ?_;rintro e w' ⟨rfl,rfl⟩;refine ⟨_,_,rfl,?_,uM _,fun j p hj=> ?_,zh _ _⟩
 ·grind [Lib.splitB_length_le,rB]
 have hj2:=(uK.1 hj).1;rw [Ym _ _ _ _ rfl];unfold Lib.cellsOf
 grind [rB,Yh]
end
section
open RowKit Lib Go.Sort
def Uv(x:qY):List Value:=[rz x]
theorem Wy(xs):mN Uv xs=xs.map rz:=by
 unfold mN Uv
 induction xs with
 | nil=>rfl
 | cons x r ih=>simp [ih]
theorem Iu{w}{ao}{L}(h:F5 w ao L):N7 Uv w ao L:=by
 rcases Nat.eq_zero_or_pos L.length with q | q
 ·exact .inl (Zi.1 q)
 obtain ⟨g,o,e,_,_⟩:=h 0 L[0] (uL q);refine .inr ⟨g,o,e,fun j u hj=> ?_⟩;rw [Wy,ZQ] at hj
 cases hx:L[j]? with
 | none=>simp_all
 | some x=>
  rw [hx] at hj;obtain ⟨g',o',e',_,hc⟩:=h j x hx;rw [e] at e'
  cases e'
  cases hj
  exact hc
theorem Gb{w}{l9 n}{v}{xs}(ho:w.ownsRow l9 9 1 v n xs)(hn:n<=2000)(aj:l9<=w.heap.size)(ap)(c)(ys)(hy:ys.length<=2000)(jc:F5 w ap ys)(hc:ap=none->c=0):
  ∃v' w',(Builtin.append_ #[22,22] 22 #[v,.slice ap ys.length c]).run prog w= .ok v' w'/\w'.ownsRow l9 9 1 v' (n+ys.length) (xs++ys.map rz)/\w.grownBy w' v.ownBlock:=by
 have h:=oR (enc:=Uv) underlying22 Gd zj zj rfl (fun _=>rfl) (fun x v hv=>by rw [Zc.1 hv];rfl) ho hn aj ap c ys hy (Iu jc) hc 22;rwa [Wy] at h
theorem QX{w:qW}{B n}{ao}{cap}{T}{xs}(h:w.ownsRow B T 1 (.slice ao n cap) n xs):n<=cap/\(ao=none->cap=0):=by
 rcases h.2 with ⟨h1,h2⟩ | ⟨g,c,cur,hv,_,_,hle,_⟩
 ·simp only [Value.slice.injEq] at h1;exact ⟨zj,fun _=>h1.2.2⟩
 simp_all
theorem Ha(ao)(n cap c)(hc:c<=cap)(W):(Instr.slice 22 (.slice ao n cap) none (some (qN c)) none).run prog W= .ok (.slice ao c cap) W:=by
 have hT:prog.underlying 22=some (.slice (prog.elem 22)):=zk;have he:prog.elem 22=9:=zk;rw [run_slice_h W 22 ao n cap hT .i64 (c:Int) zj zj,he,sizeOf9];simp only [Result.andThen,sliced,Int.toNat_natCast,Nat.sub_zero,Nat.zero_mul]
 cases ao with
 | none=>simp
 | some a=>obtain ⟨b,o,s⟩:=a;split<;>rfl
theorem F5.take{w}{ao}{L}(h:F5 w ao L)(n):F5 w ao (L.take n):=fun i x hx=>by
 obtain ⟨q1,q2⟩:=uK.1 hx;rw [List.getElem_take] at q2;exact h i x zN
abbrev Fb:=ByteArray×(Option Addr×Nat×List Int)×(Option Addr×Nat×List ByteArray)
def lnN(l:Fb):Value:=.slice l.2.1.1 l.2.1.2.2.length l.2.1.2.1
def lnW(l:Fb):Value:=.slice l.2.2.1 l.2.2.2.2.length l.2.2.2.1
structure LV (w:qW) (l:Fb):Prop where
 adg:aam w l.2.1.1 l.2.1.2.2
 ach:F5 w l.2.2.1 l.2.2.2.2
 aab:∀x∈l.2.1.2.2,-9223372036854775808<=x/\x<=9223372036854775807
 adu:l.2.1.2.2.length<9223372036854775808
 adt:l.2.2.2.2.length<9223372036854775808
 F8:l.1.size<9223372036854775808
 aaf:∀u∈l.2.2.2.2,u.size<9223372036854775808
theorem aam.later{w w'}{so}{L}(h:aam w so L)(hb:qL w w'):aam w' so L:=fun i x hx=>by
 obtain ⟨g,o,e,hc⟩:=h i x hx;exact ⟨g,o,e,(hb.cell (p:=(qA g (o+i))) (Eh hc)).trans hc⟩
def zes(w:qW)(g o:Nat)(l:Fb):Prop:=w.cell? (qA g o)=some (.string l.1)/\w.cell? (qA g (o+1))=some (lnN l)/\w.cell? (qA g (o+2))=some (lnW l)
def Xd(w:qW)(so:qO)(L:List Fb):Prop:=∀i x,L[i]? =some x->∃g o,so=some (qA g o)/\zes w g (o+i*3) x/\LV w x
end
section
open ChangeShapes WideShapes RowKit Deep
theorem GK:prog.cellsOf 9=1:=zk
theorem TY{H}{enc}{W}{l9}{sp}{held}{ao}{y9 cap}{d:DataW H}{p}
  (h:DataW.Trod enc prog W l9 sp held 22 (.slice ao y9 cap) d p):∃xs:List ByteArray,xs.length=y9/\y9<=maxLen/\F5 W ao xs/\∀x∈xs,x.size<=maxLen:=by
 obtain ⟨fuel,hf⟩:=h
 rcases open_slice underlying22 hf with ⟨hcs,_⟩ | ⟨a,len',cap',m,n,D,Pl,hcs,_,hl,hmax,hm,_,hx⟩
 ·exact ki8
 simp [Value.cells] at hcs;obtain ⟨rfl,rfl,rfl⟩:=hcs;have ff:y9<=m:=vN
 have T9:∀i,i<y9->∃z:ByteArray,z.size<=maxLen/\W.cell? (a.add i)=some (.string z):=fun i hi=>by
  obtain ⟨cs',h1,h2⟩:=hx i zj;rw [GK] at h1;obtain ⟨z,e0,_,wz⟩:=DataW.trod_string underlying9 h2;have:=(World.cells?_some h1).2.2 0 zj;rw [e0] at this;rw [Nat.mul_one] at this;obtain ⟨b,off,ep⟩:=a;exact ⟨z,wz,by simpa [Addr.add] using this⟩
 obtain ⟨f,hf⟩:=choose_lt T9;obtain ⟨b,off,ep⟩:=a;refine ⟨(List.range y9).map f,zq,zj,fun i x hi=> ?_,fun x hx=> ?_⟩
 ·have bl:i<y9:=by simpa using (uK.1 hi).1
  have bD:f i=x:=by
   exact kj7
  have hz:=(hf i bl).2;rw [bD] at hz
  have ew:ep=none:=by simpa [Addr.add] using World.cell?_spot (hf 0 zj).2
  subst ew
  have hz':W.cell? (qA b (off+i))=some (.string x):=by
   by_cases h0:i=0
   ·subst h0;simpa [Addr.add] using hz
   simpa [Addr.add,h0] using hz
  exact ⟨b,off,rfl,uP W _ hz',hz'⟩
 grind
theorem OH:prog.cellsOf 37=3:=zk
theorem PF:prog.cellsOf 35=1:=zk
theorem PH:prog.cellsOf 22=1:=zk
theorem TK{H}{enc}{W}{l9}{sp}{held}{ao}{y9 cap}{d:DataW H}{p}
  (h:DataW.Trod enc prog W l9 sp held 35 (.slice ao y9 cap) d p):∃xs:List Int,xs.length=y9/\y9<=maxLen/\aam W ao xs/\∀x∈xs,-9223372036854775808<=x/\x<=9223372036854775807:=by
 obtain ⟨fuel,hf⟩:=h
 rcases open_slice underlying35 hf with ⟨hcs,_⟩ | ⟨a,len',cap',m,n,D,Pl,hcs,_,hl,hmax,hm,_,hx⟩
 ·exact ki8
 simp [Value.cells] at hcs;obtain ⟨rfl,rfl,rfl⟩:=hcs;have ff:y9<=m:=vN
 have T9:∀i,i<y9->∃z:Int,(-9223372036854775808<=z/\z<=9223372036854775807)/\W.cell? (a.add i)=some (qI z):=fun i hi=>by
  obtain ⟨cs',h1,h2⟩:=hx i zj;rw [Sn] at h1;obtain ⟨z,e0,_,wz⟩:=DataW.trod_int underlying3 h2;have:=(World.cells?_some h1).2.2 0 zj;rw [e0] at this;rw [Nat.mul_one] at this;obtain ⟨b,off,ep⟩:=a;refine ⟨z,?_,by simpa [Addr.add] using this⟩;simp [Lit.wf,IntKind.min,IntKind.max,IntKind.signed,IntKind.bits] at wz;omega
 obtain ⟨f,hf⟩:=choose_lt T9;obtain ⟨b,off,ep⟩:=a;refine ⟨(List.range y9).map f,zq,zj,fun i x hi=> ?_,fun x hx=> ?_⟩
 ·have bl:i<y9:=by simpa using (uK.1 hi).1
  have bD:f i=x:=by
   exact kj7
  have hz:=(hf i bl).2;rw [bD] at hz
  have ew:ep=none:=by simpa [Addr.add] using World.cell?_spot (hf 0 zj).2
  subst ew;refine ⟨b,off,rfl,?_⟩;by_cases h0:i=0
  ·subst h0;simpa [Addr.add] using hz
  simpa [Addr.add,h0] using hz
 obtain ⟨i,hi,rfl⟩:=Zm.1 hx;exact (hf i (List.mem_range.1 hi)).1
theorem zeE{z}(h:(Lit.int .i64 z).wf=true): -9223372036854775808<=z/\z<=9223372036854775807:=by
 simp [Lit.wf,IntKind.min,IntKind.max,IntKind.signed,IntKind.bits] at h;omega
theorem KT{H}{enc}{W}{l9}{sp}{held}{fuel}{S E}(hS:prog.underlying S=some (.slice E)){c}{y:DataW H×List MemPlace}(h:DataW.trod enc prog W l9 sp held fuel S [c]=some y):∃oa y9 oc,c= .slice oa y9 oc:=by
 rcases open_slice hS h with ⟨h,_⟩ | ⟨a,y9,cap,_,_,_,_,h,_⟩
 ·simp at h;exact ⟨_,_,_,h⟩
 simp at h;exact ⟨_,_,_,h⟩
theorem XC{H}{enc}{W}{l9}{sp}{held}{fuel}{cs}{x:DataW H×List MemPlace}(h:DataW.trod enc prog W l9 sp held fuel 37 cs=some x):
  ∃a:Fb,cs= [.string a.1,lnN a,lnW a]/\LV W a:=by
 obtain ⟨xs,m,_,rfl,hl,hlen,hf⟩:=DataW.trod_struct underlying37 h;rw [OH] at hl
 match cs,hl with
 | [c0,c1,c2],_=>
 match xs,hlen with
 | [y0,y1,y2],_=>
  have g0:=hf 0 _ rfl;have g1:=hf 1 _ rfl;have g2:=hf 2 _ rfl;simp [GK,PF,PH] at g0 g1 g2;obtain ⟨z,e0,_,wz⟩:=DataW.trod_string underlying9 g0;obtain ⟨ia,il,ic,rfl⟩:=KT underlying35 g1;obtain ⟨wa,wl,wc,rfl⟩:=KT underlying22 g2;simp at e0;subst e0
  have t1:DataW.Trod enc prog W l9 sp held 35 (.slice ia il ic) y1.1 y1.2:=⟨_,by simpa [Value.cells] using g1⟩
  have t2:DataW.Trod enc prog W l9 sp held 22 (.slice wa wl wc) y2.1 y2.2:=⟨_,by simpa [Value.cells] using g2⟩
  obtain ⟨ns,rfl,hm1,kk,hb1⟩:=TK t1;obtain ⟨ws,rfl,bJ,hn2,hb2⟩:=TY t2;simp only [maxLen] at wz hm1 bJ hb2;exact ⟨(z,(ia,ic,ns),(wa,wc,ws)),rfl,kk,hn2,hb1,by show ns.length<_;omega,by show ws.length<_;omega,by show z.size<_;omega,fun u hu=>by have:=hb2 u hu;omega⟩
theorem zaU{H}{enc}{W}{l9}{sp}{held}{ao}{y9 cap}{d:DataW H}{p}
  (h:DataW.Trod enc prog W l9 sp held 34 (.slice ao y9 cap) d p):∃xs:List Fb,xs.length=y9/\y9<=maxLen/\Xd W ao xs:=by
 obtain ⟨fuel,hf⟩:=h
 rcases open_slice underlying34 hf with ⟨hcs,_⟩ | ⟨a,len',cap',m,n,D,Pl,hcs,_,hl,hmax,hm,_,hx⟩
 ·simp [Value.cells] at hcs;obtain ⟨rfl,rfl,rfl⟩:=hcs;exact ⟨[],rfl,uW _,fun i x hx=>ya⟩
 simp [Value.cells] at hcs;obtain ⟨rfl,rfl,rfl⟩:=hcs;have ff:y9<=m:=vN
 have T9:∀i,i<y9->∃o:Fb,LV W o/\∀c,c<3->W.cell? ((a.add (i*3)).add c)=([.string o.1,lnN o,lnW o]:List Value)[c]? :=fun i hi=>by
  obtain ⟨cs',h1,h2⟩:=hx i zj;rw [OH] at h1;obtain ⟨o,rfl,ho⟩:=XC h2;exact ⟨o,ho,fun c h3=>(World.cells?_some h1).2.2 c h3⟩
 obtain ⟨f,hf⟩:=choose_lt T9;obtain ⟨b,off,ep⟩:=a;refine ⟨(List.range y9).map f,zq,zj,fun i x hi=> ?_⟩
 have bl:i<y9:=by simpa using (uK.1 hi).1
 have bD:f i=x:=by
  exact kj7
 have h00:W.cell? ((Addr.add ⟨b,off,ep⟩ (0*3)).add 0)=some (.string (f 0).1):=(hf 0 zj).2 0 zj
 have ew:ep=none:=by simpa [Addr.add] using World.cell?_spot h00
 subst ew;obtain ⟨h1,h2⟩:=hf i bl;rw [bD] at h1 h2
 have ap:∀c,(Addr.add (qA b off) (i*3)).add c=(qA b (off+i*3+c)):=fun c=>by
  unfold Addr.add;split<;>split<;>simp_all
 have k0:=h2 0 zj;have k1:=h2 1 zj;have k2:=h2 2 zj;rw [ap] at k0 k1 k2;exact ⟨b,off,rfl,⟨k0,k1,k2⟩,h1⟩

end