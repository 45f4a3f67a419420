import Derived.Test.YtebpcnkdhgnghaaGreatDoorPA14
import Derived.Test.YtebpcnkdhgnghaaGreatDoorPA16
import Derived.Maps.OwnIn
set_option linter.unusedSimpArgs false
set_option linter.unusedVariables false
set_option maxRecDepth 100000
set_option maxHeartbeats 64000000
namespace Go.Proofs.YtebpcnkdhgnghaaGreatDoor
open Go.Proofs.Tryz
variable {blk g k:Nat} {P:Program} {w0:World}
section
open Go.RowKit Go.Shelf Go.Maps
attribute [local go_sem] Oper.semAt_some
theorem Oj (p q:Plc) (w:World):(Op.equalIn 10000 119 (.agg #[.int .i64 p.1,.int .i64 p.2.1,.string p.2.2]) (.agg #[.int .i64 q.1,.int .i64 q.2.1,.string q.2.2])).run prog w= .ok (decide (p=q)) w:=by
 obtain ⟨a,b,s⟩:=p
 obtain ⟨a',b',s'⟩:=q
 have hs:∀x y:ByteArray,x.toList=y.toList↔x=y:=fun x y=>⟨fun h=>by rw [vH,vH] at h;exact WideShapes.bytes_inj h,fun h=>by rw [h]⟩
 go_simp
 by_cases h1:a=a'<;>by_cases h2:b=b'<;>by_cases h3:s=s'<;>simp [h1,h2,h3]
theorem Keeps.grownFrom {S:Nat->Prop} {w X Y:World} {row:Option Nat} (h:Keeps S w X) (hg:X.grownBy Y row) (hr:∀r,row=some r->w.heap.size<=r):Keeps S w Y:=
 h.then (aP hg) (fun i hi e=>by have:=hr i e.symm;omega)
theorem Fz (w:World) (bt bm g off cap at_ len n:Nat) (ao bo:Option Addr) (L:List Ent) (F:Nat->Sta) (hat:at_<=len) (hll:len - at_=L.length) (hlen:len<=1000) (hn:n<=1000000) (hm0:w.cell? ⟨bt,0,none⟩=some (.map (some bm))) (hsl:w.cell? ⟨bt,1,none⟩=some (.slice ao len cap))
  (hbo:(if cap=at_ then ao else Option.map (fun x=>x.add (at_*8)) ao)=bo) (hao:L= []\/bo=some ⟨g,off,none⟩) (hg:g<w.heap.size) (hgm:g≠bm) (hrow:RowAt w g off L) (hM:MapAt prog 3 w bm n (F 0))
  (hF:∀r,r<L.length->Jp (F r) (cL L r).1.2.1 (cL L r).2=F (r+1)) (hwf:∀r,Wf (cL L r).1.2.1):
  Calls prog 200 #[.pointer (some ⟨bt,0,none⟩),.int .i64 (at_:Int)] w fun e w'=>(∃v,e= .returned v)/\MapAt prog 3 w' bm (n+L.length) (F L.length)/\Keeps (fun k=>k=bm) w w':=by
 have hbt:bt<w.heap.size:=block_lt_of_cell hsl
 have hbm:bm<w.heap.size:=hM.lt
 have htm:bt≠bm:=by
  intro e
  obtain ⟨es,ck,hb⟩:=hM.block
  rw [<-e] at hb
  simp [World.cell?,hb] at hm0
 have hsl3:∀o1,(w.alloc o1).cell? ⟨bt,1,none⟩=some (.slice ao len cap):=fun o1=>
  (((jN w.heap.size w).alloc zg o1).cell (p:=⟨bt,1,none⟩) hbt).trans hsl
 refine (callsIn_wide (n:=4)).1 ?_
 refine callsIn_of_wp_marks func200 rfl trivial ?_ rfl
 simp only [ntmps200,vu,jY,vw,Nat.reduceAdd,Nat.reduceSub,vQ,vR,vY,vT,ua,vX]
 gi_wp2_with (refine ⟨trivial,?_⟩;gi_at_call 258;refine (Fq Fence.wide (4 - 1) trivial rfl _ _ _ _).mono ?_;rintro e w' ⟨rfl,rfl⟩)
 obtain ⟨w2,hw2⟩:=za ((w.alloc (.cells #[.pointer (some ⟨bt,0,none⟩)] 113)).alloc (.cells #[.slice bo L.length (cap - at_)] 194))
 rw [<-hw2]
 have hB0:Below w.heap.size w w2:=by rw [hw2];exact ((jN w.heap.size w).alloc zg _).alloc zq _
 have hs2:w2.heap.size=w.heap.size+2:=by rw [hw2];simp
 obtain ⟨B,hB⟩:=za w.heap.size
 have e1:Boxed w2 B 113 (.pointer (some ⟨bt,0,none⟩)):=by rw [hw2,hB];exact (OZ w _ _).1
 have e2:Boxed w2 (B+1) 194 (.slice bo L.length (cap - at_)):=by rw [hw2,hB];exact (OZ w _ _).2
 rw [<-hB] at hB0 hs2 hg hbt hbm |-
 have HB:Aside (B=w.heap.size):=hB
 have hBw:B<=w.heap.size:=zj
 clear hB
 have hrow2:RowAt w2 g off L:=hrow.same (hB0.block g hg)
 have hM2:=hM.same (hB0.block bm hbm)
 have hk2:Keeps (fun k=>k=bm) w w2:=(aV hB0).mono (fun k hk e=>yr)
 clear hw2 hsl3 hrow hM hbo
 refine wpIn_rangeFunc_ownH rfl zj (gf:=308) (lb:= #[.pointer (some ⟨B+1,0,none⟩)]) rfl trivial (enters_of func308 zk rfl)
  (nj Fence.wide (4 - 1) trivial rfl zj (B+1) g off (cap - at_) bo L zj hao w2 zj zj e2.cell hrow2) KeepTwo.trans (fun W l o o' hl _ _ _=>KeepTwo.put (N:=w2.heap.size) zj zj W l o' hl) (jN _ _) (fun _=>rfl)
  (fun pre W=>((∃f,MapAt prog 3 W bm (n+pre.length) f/\(pre=List.range pre.length->f=F pre.length))/\Boxed W B 113 (.pointer (some ⟨bt,0,none⟩))/\w2.heap.size<=W.heap.size)/\Keeps (fun k=>k=bm) w W)
  (fun _ _ _=>False)
  (fun pre X Y row hs hg hr=>by
   obtain ⟨⟨⟨f,q1,q2⟩,q3,q4⟩,q5⟩:=hs
   have hne:some bm≠row:=fun e=>by have:=(hr bm e.symm).1;omega
   exact ⟨⟨⟨f,q1.same (hg.block bm q1.lt hne),q2⟩,bM q3 hg (fun r e=>(hr r e).2),jM q4 hg.size⟩,q5.grownFrom hg (fun r e=>by have:=(hr r e).1;have:=HB.o;omega)⟩)
  (fun _ _ _ _ _ hs _ _=>hs)
  ⟨⟨⟨F 0,hM2,fun _=>rfl⟩,e1,jL _⟩,hk2⟩
  (fun x a' W=>∃Bx,w2.heap.size<=Bx/\EntAt W Bx (cL L x)/\a'= {tmps:= #[.pointer (some ⟨bt,0,none⟩),.int .i64 (at_:Int),.pointer (some ⟨B,0,none⟩),undef,undef,.pointer (some ⟨Bx,0,none⟩),.pointer (some ⟨bt,0,none⟩),.pointer (some ⟨bt,0,none⟩),.pointer (some ⟨bt,1,none⟩),.slice ao len cap,.int .i64 (at_:Int),.slice bo L.length (cap - at_),.func (.func 308) #[] #[.pointer (some ⟨B+1,0,none⟩)],.int .i64 ((L.length - 1 - x:Nat):Int),.agg #[.int .i64 (cL L x).1.1.1,.int .i64 (cL L x).1.1.2,.int .i64 (cL L x).1.2.1,.int .i64 (cL L x).1.2.2.1,.string (cL L x).1.2.2.2,.int .i64 (cL L x).2.1,.int .i64 (cL L x).2.2.1,.string (cL L x).2.2.2],undef,undef,undef,undef,undef,undef,undef,undef,undef,undef,undef,undef,undef,undef,undef,undef,undef,undef,undef,undef],defers:=[]})
  (fun x a'=>Own.from (fun _ X Y row hs hg hr=>zW) _)
  ?assign ?body ?done ?stop
 case assign=>
  rintro l pre x W K ⟨⟨⟨f,hf,hfp⟩,hr1,hsz⟩,hkW⟩ hK
  have hK':Aside _:=hK
  have hBs:B<=W.heap.size:=zj
  clear hK
  unfold MA
  gi_wp2
  refine hK'.o _ _ ((KeepsOthers.alloc _ _).from _) ⟨jV _ _ _ zj,jV _ _ _ zj⟩ ⟨⟨⟨f,hf.same (jV _ _ _ hf.lt),hfp⟩,hr1.alloc _,zl⟩,hkW.alloc _⟩ ⟨W.heap.size,zj,heap_alloc_new W _,rfl⟩
 case body=>
  rintro l pre x a' W hl _ ⟨⟨⟨f,hf,hfp⟩,hr1,hsz⟩,hkW⟩ ⟨Bx,hBx,hE,rfl⟩ hlt
  have hwx:=hwf x
  obtain ⟨y,hy⟩:=za (cL L x)
  rw [<-hy] at hE hwx |-
  have hFx:x=pre.length->Jp (F pre.length) y.1.2.1 y.2=F (pre.length+1):=fun e=>by rw [hy,e];exact hF pre.length hlt
  clear hF hwf hy
  obtain ⟨⟨⟨y1,y2⟩,y3,y4,y5⟩,y6,y7,y8⟩:=y
  dsimp only at hwx hFx |-
  have g1:=hr1.cell
  have f2:=hE.cell 2 (u:=.int .i64 y3) rfl
  have f5:=hE.cell 5 (u:=.int .i64 y6) rfl
  have f6:=hE.cell 6 (u:=.int .i64 y7) rfl
  have f7:=hE.cell 7 (u:=.string y8) rfl
  have htc:W.cell? ⟨bt,0,none⟩=some (.map (some bm)):=(hkW.cell (a:=⟨bt,0,none⟩) (by show bt<_;omega) htm).trans hm0
  have fin:∀(w1:World) (f':Sta),W.drew.grownBy w1 (some bm)->MapAt prog 3 w1 bm (n+pre.length+1) f'->f'=Jp f y3 (y6,y7,y8)->
    Aside (KeepsFrom w2.heap.size W w1/\KeepTwo g (B+1) W w1/\((∃f,MapAt prog 3 w1 bm (n+(pre++ [x]).length) f/\(pre++ [x]=List.range (pre++ [x]).length->f=F (pre++ [x]).length))/\Boxed w1 B 113 (.pointer (some ⟨bt,0,none⟩))/\w2.heap.size<=w1.heap.size)/\Keeps (fun k=>k=bm) w w1):=fun w1 f' hg1 hM1 hf1=>by
   have hg1':W.grownBy w1 (some bm):=⟨hg1.os,hg1.tape,hg1.output,hg1.size,hg1.block⟩
   have hsz1:=hg1'.size
   refine ⟨KeepsFrom.of_grownBy hg1' (fun j e=>by cases e;omega),⟨hg1'.block g zj (by simpa using hgm),hg1'.block (B+1) zj zl⟩,⟨⟨f',by rw [jP,ub,<-uj];exact hM1,fun hp=> ?_⟩,hr1.kept hg1' zl,zj⟩,hkW.then (aP hg1') (fun i _ e=>ym)⟩
   obtain ⟨hp1,hp2⟩:=fb hp
   rw [hf1,hfp hp1,jP,ub,hFx hp2]
  have hBxm:Bx≠bm:=zj
  have hBxW:Bx<W.heap.size:=(jJ.1 hE).1
  have cells1:∀w1:World,W.drew.grownBy w1 (some bm)->Aside (w1.cell? ⟨B,0,none⟩=some (.pointer (some ⟨bt,0,none⟩))/\w1.cell? ⟨bt,0,none⟩=some (.map (some bm))/\w1.cell? ⟨Bx,2,none⟩=some (.int .i64 y3)/\w1.cell? ⟨Bx,5,none⟩=some (.int .i64 y6)/\w1.cell? ⟨Bx,6,none⟩=some (.int .i64 y7)/\w1.cell? ⟨Bx,7,none⟩=some (.string y8)):=fun w1 hg1=>by
   have hb:∀k,k<W.heap.size->k≠bm->∀o,w1.cell? ⟨k,o,none⟩=W.cell? ⟨k,o,none⟩:=fun k hk hne o=>vi (a:=⟨k,o,none⟩) (hg1.block k hk (by simpa using hne))
   exact ⟨(hb B zj zj 0).trans g1,(hb bt zj htm 0).trans htc,(hb Bx hBxW hBxm 2).trans f2,(hb Bx hBxW hBxm 5).trans f5,(hb Bx hBxW hBxm 6).trans f6,(hb Bx hBxW hBxm 7).trans f7⟩
  by_cases he:((y6,y7,y8):Plc)=cZ
  ·have hq:∀w',(Op.equalIn 10000 119 (.agg #[.int .i64 y6,.int .i64 y7,.string y8]) (.agg #[.int .i64 0,.int .i64 0,.string ⟨#[]⟩])).run prog w'= .ok true w':=fun w'=>by
    have:=Oj (y6,y7,y8) cZ w'
    rw [decide_eq_true he] at this
    exact this
   obtain ⟨w1,hrun,hM1,ht1⟩:=(show MapAt prog 3 W.drew bm (n+pre.length) f from hf).drop (T:=193) (E:=119) underlying3 underlying193 hwx 0
   have X1:=cells1 w1 ht1.grown
   have FIN:=fin w1 (upd f y3 none) ht1.grown (hM1.mono (Nat.le_succ _)) (by rw [he];unfold Jp;rw [if_pos rfl])
   clear he fin hM1 ht1 hf hfp hkW hM2 hk2 hrow2 e1 e2 hB0 hE hr1 hao hsl hm0 hll hat hlen hn hsz hBx hl hs2 hbm hbt hg htm hgm hBw HB hwx hlt hFx cells1 hBxm hBxW
   gi_wp2
   refine fL (S:=(fun w'=>w'.cell? ⟨B,0,none⟩=some (.pointer (some ⟨bt,0,none⟩))/\w'.cell? ⟨bt,0,none⟩=some (.map (some bm))/\w'.cell? ⟨Bx,2,none⟩=some (.int .i64 y3))) zk zk (by rintro ⟨_,_,h⟩;exact h) ⟨g1,htc,f2⟩ (fun hHeld=> ?_)
   refine tk 0 hHeld ?_ (hy:=Or.inl ⟨zt,zG⟩)
   refine tk 1 hHeld ?_ (hy:=Or.inl ⟨zt,zG⟩)
   refine tk 2 hHeld ?_ (hy:=Or.inl ⟨zt,zG⟩)
   refine tk 3 hHeld ?_ (hy:=Or.inl ⟨zt,zG⟩)
   refine tk 4 hHeld ?_ (hy:=Or.inl ⟨zt,zG⟩)
   refine tk 5 hHeld ?_ (hy:=Or.inl ⟨zt,zG⟩)
   refine tk 6 hHeld ?_ (hy:=Or.inl ⟨zt,zG⟩)
   refine aZ (i:=7) zk rfl (fun K hK=> ?_)
   go_simp
   refine hK _ _ ⟨X1.o.1,X1.o.2.1,X1.o.2.2.1⟩ ?_
   exact ko3
  have hq:∀w',(Op.equalIn 10000 119 (.agg #[.int .i64 y6,.int .i64 y7,.string y8]) (.agg #[.int .i64 0,.int .i64 0,.string ⟨#[]⟩])).run prog w'= .ok false w':=fun w'=>by
   have:=Oj (y6,y7,y8) cZ w'
   rw [decide_eq_false he] at this
   exact this
  obtain ⟨w1,hrun,hM1,ht1⟩:=(show MapAt prog 3 W.drew bm (n+pre.length) f from hf).store (T:=193) (E:=119) underlying3 underlying193 zu hwx (y6,y7,y8)
  unfold kA at hrun
  dsimp only at hrun
  have X1:=cells1 w1 ht1.grown
  have FIN:=fin w1 (upd f y3 (some (y6,y7,y8))) ht1.grown hM1 (by unfold Jp;rw [if_neg he])
  clear he fin hM1 ht1 hf hfp hkW hM2 hk2 hrow2 e1 e2 hB0 hE hr1 hao hsl hm0 hll hat hlen hn hsz hBx hl hs2 hbm hbt hg htm hgm hBw HB hwx hlt hFx cells1 hBxm hBxW
  gi_wp2
  refine fL (S:=(fun w'=>w'.cell? ⟨B,0,none⟩=some (.pointer (some ⟨bt,0,none⟩))/\w'.cell? ⟨bt,0,none⟩=some (.map (some bm))/\w'.cell? ⟨Bx,2,none⟩=some (.int .i64 y3)/\w'.cell? ⟨Bx,5,none⟩=some (.int .i64 y6)/\w'.cell? ⟨Bx,6,none⟩=some (.int .i64 y7)/\w'.cell? ⟨Bx,7,none⟩=some (.string y8))) zk zk (by rintro ⟨_,_,h⟩;exact h) ⟨g1,htc,f2,f5,f6,f7⟩ (fun hHeld=> ?_)
  refine tk 0 hHeld ?_ (hy:=Or.inl ⟨zt,zw⟩)
  refine tk 1 hHeld ?_ (hy:=Or.inl ⟨zt,zw⟩)
  refine tk 2 hHeld ?_ (hy:=Or.inl ⟨zt,zw⟩)
  refine tk 3 hHeld ?_ (hy:=Or.inl ⟨zt,zw⟩)
  refine tk 4 hHeld ?_ (hy:=Or.inl ⟨zt,zw⟩)
  refine tk 5 hHeld ?_ (hy:=Or.inl ⟨zt,zw⟩)
  refine tk 6 hHeld ?_ (hy:=Or.inl ⟨zt,zw⟩)
  refine tk 7 hHeld ?_ (hy:=Or.inl ⟨zt,zw⟩)
  refine tk 8 hHeld ?_ (hy:=Or.inl ⟨zt,zw⟩)
  refine aZ (i:=9) zk rfl (fun K hK=> ?_)
  go_simp
  refine hK _ _ ⟨X1.o.1,X1.o.2.1,X1.o.2.2.1,X1.o.2.2.2.1,X1.o.2.2.2.2.1,X1.o.2.2.2.2.2⟩ ?_
  exact ko3
 case done=>
  rintro D ys W hD rfl ⟨⟨⟨f,hf,hfp⟩,hr1,hsz⟩,hkW⟩ hK
  have hfF:=hfp zq
  subst hfF
  gi_wp2
  refine ⟨zq,.inl ⟨_,_,rfl,run_takeDeferred hK,?_⟩⟩
  have hgp:=grownBy_putObj' W D (.deferred none)
  refine ⟨.tuple #[],by simp [results,f200,go_sem],⟨_,rfl⟩,?_,hkW.grownFrom hgp (fun r e=>by cases e;have:=HB.o;omega)⟩
  have:=hf.same (hgp.block bm hf.lt zl)
  exact kn3
 case stop=>
  exact kk8
end
section
open Go.Shelf Go.RowKit Go.Lib Go.Sort
theorem Runs.off {β:Type} [Inhabited β] {lt:β->β->Bool} {a c e b:Nat} {d d':Array (β×Nat)} (h:Runs lt c e b d) (hce:c<=e) (p:PermIn a c d d'):Runs lt c e b d' where
 one:=fun i j hi hij hj=>by rw [p.2.1 i (.inr hi),p.2.1 j (.inr zj)];exact h.one i j hi hij hj
 two:=fun i j hi hij hj=>by rw [p.2.1 i (.inr zj),p.2.1 j (.inr zj)];exact h.two i j hi hij hj
 tag:=fun x y hx hxe hy hyb=>by rw [p.2.1 x (.inr hx),p.2.1 y (.inr zj)];exact h.tag x y hx hxe hy hyb
theorem Mn {β:Type} [Inhabited β] {lt:β->β->Bool} {enc:β×Nat->List Value} {cf:β×Nat->β×Nat->Int} {off:Nat} {d0:Array (β×Nat)} (V:LJ P lt k enc cf g w0 blk off d0) (cap a m b:Nat) (d:Array (β×Nat)) (w:World)
  (hs:d0.size=d.size) (S:SWK enc k w0 blk off d w) (hr:Runs lt a m b d) (ham:a<m) (hmb:m<b) (hb:b<=d.size) (hsz:d.size<4611686018427387904) (_h0:m≠a+1) (_h1:b≠m+1)
  (IH:∀a' m' b' d' w',b' - a'<b - a->d0.size=d'.size->SWK enc k w0 blk off d' w'->Runs lt a' m' b' d'->a'<m'->m'<b'->b'<=d'.size->d'.size<4611686018427387904->eU P lt k enc g w0 blk off cap a' m' b' d' w') (hmid:(a+b) / 2<m):
  eU P lt k enc g w0 blk off cap a m b d w:=by
 unfold eU
 have L:=V.ty
 have mixed:=L.mixed;have t0:=L.t0;have a0:=L.a0;have z0:=L.z0;have v0:=L.v0;have t3:=L.t3;have a3:=L.a3;have z3:=L.z3;have v3:=L.v3;have t4:=L.t4;have a4:=L.a4;have z4:=L.z4;have v4:=L.v4;have tS:=L.tS;have aS:=L.aS;have zS:=L.zS;have vS:=L.vS;have tC:=L.tC;have aC:=L.aC;have zC:=L.zC;have vC:=L.vC;have tU:=L.tU;have aU:=L.aU;have zU:=L.zU;have vU:=L.vU;have aE:=L.aE;have zE:=L.zE
 have eR:∀args w,(callFunc 307 args).run P w= .ok (.enter 307 args) w:=enters_of V.fR zk rfl
 have eM:∀args w,(callFunc 257 args).run P w= .ok (.enter 257 args) w:=enters_of V.fM zk rfl
 have R:=V.row
 have eg:=V.eg
 have CMP:Aside (CmpLays P g #[] enc k cf blk off d0.size w0):=V.cmp
 have LT:Aside (∀x y,decide (cf x y<0)=tlt lt x y):=V.less
 have S0:Aside (SWK enc k w0 blk off d w):=S
 have HR:Aside (Runs lt a m b d):=hr
 have IH0:Aside (∀a' m' b' d' w',b' - a'<b - a->d0.size=d'.size->SWK enc k w0 blk off d' w'->Runs lt a' m' b' d'->a'<m'->m'<b'->b'<=d'.size->d'.size<4611686018427387904->eU P lt k enc g w0 blk off cap a' m' b' d' w'):=IH
 clear S hr IH
 have q0:((m:Int) - (a:Int)==1)=false:=zl
 have q1:((b:Int) - (m:Int)==1)=false:=zl
 clear _h0 _h1
 obtain ⟨mid,hmi⟩:∃mid:Nat,mid=(a+b) / 2:=⟨_,rfl⟩
 rw [<-hmi] at hmid
 have hm1:a<mid:=zj
 have hm2:mid<b:=zj
 have hm3:a+b<=2*mid+1:=zj
 have hm4:2*mid<=a+b:=zj
 have q2:decide ((mid:Int)<(m:Int))=true:=zl
 have hz:((a:Int)+(b:Int)) / 2=(mid:Int):=zj
 have HZ:=Lib.hid hz
 obtain ⟨pp,hpp⟩:∃pp:Nat,pp=mid+m - 1:=⟨_,rfl⟩
 have hp1:pp+1<=mid+m:=zj
 have hp2:mid+m<=pp+1:=zj
 have HP:=Lib.hid (show (mid:Int)+(m:Int) - 1=(pp:Int) by omega)
 clear hz hmi hpp
 go_enter V.fM,ntmps257
 go_upto_region 25 with fail
 rw [HZ.o]
 clear HZ
 go_wp2
 rw [HP.o]
 clear HP
 clear q0 q1 q2
 go_loopg [20,21] (mid - (mid+m - b)) (fun kx s20 s21 wr=>∃(i j:Nat),s20= .int .i64 (i:Int)/\s21= .int .i64 (j:Int)/\mid+m - b<=i/\i<=j/\j<=mid/\j - i<=kx/\Aside ((mid+m - b<i->tlt lt d[mid+m - i]! d[i - 1]! =false)/\(j<mid->tlt lt d[mid+m - 1 - j]! d[j]! =true))/\Aside (SWK enc k w0 blk off d wr))
 case atStart=>exact ⟨mid+m - b,mid,zV,rfl,jL _,zj,jL _,jL _,⟨fun h=>zj,fun h=>zj⟩,S0⟩
 case round=>
  clear S0
  obtain ⟨i,j,rfl,rfl,hi,hij,hj,hkx,ED,S1⟩:=hrel
  by_cases hlt:i<j
  ·have hltz:decide ((i:Int)<(j:Int))=true:=by simp;omega
   go_wp2_with fail
   obtain ⟨h,hh⟩:∃h:Nat,h=(i+j) / 2:=⟨_,rfl⟩
   have hi1:i<=h:=zj
   have hi2:h<j:=zj
   have hz:((i:Int)+(j:Int)) / 2=(h:Int):=zj
   obtain ⟨q,hq⟩:∃q:Nat,q=mid+m - 1 - h:=⟨_,rfl⟩
   have hq1:q+h+1<=mid+m:=zj
   have hq2:mid+m<=q+h+1:=zj
   have HQ:=Lib.hid (show (pp:Int)=(q:Int)+(h:Int) by omega)
   have HQN:=Lib.hid hq
   rw [hz,HQ.o]
   clear hz hh hq
   have ex:((q:Int)).toNat=q:=zj
   have px:(0:Int)<=(q:Int):=zj
   have bdx:(q:Int)<(d.size:Int):=zj
   have rx:IntKind.i64.wrap ((q:Int))=(q:Int):=zr
   have ey:((h:Int)).toNat=h:=zj
   have py:(0:Int)<=(h:Int):=zj
   have bdy:(h:Int)<(d.size:Int):=zj
   have ry:IntKind.i64.wrap ((h:Int))=(h:Int):=zr
   have lx:=S1.o.ld R zj P (q) zj
   have ly:=S1.o.ld R zj P (h) zj
   have hc:=S1.o.cmp CMP.o zj d[q]! d[h]!
   have hl:=LT.o d[q]! d[h]!
   have SG:Aside (∀n os,SWK enc k w0 blk off d (grow (wr.drewN n) os)):=fun n os=>S1.o.grown n os
   generalize cf d[q]! d[h]! =z at hc hl
   have HL:=Lib.hid hl
   clear hl
   simp only [Array.append_empty] at hc
   by_cases hlv:z<0
   ·go_wp2_with fail
    go_quiet_grown (first | (go_at_fn g;refine Calls.grown_of (hc _ _)))
    have S2:Aside (SWK enc k w0 blk off d (grow (wr.drewN nq) osq)):=SG.o nq osq
    have ED2:Aside ((mid+m - b<i->tlt lt d[mid+m - i]! d[i - 1]! =false)/\(h<mid->tlt lt d[mid+m - 1 - h]! d[h]! =true)):=⟨ED.o.1,fun _=>xz⟩
    clear lx ly hc SG S1 ED
    generalize grow (wr.drewN nq) osq=w2 at S2 |-
    rw [<-HQ.o]
    clear HQ HQN
    go_wp2
    go_roundg (h - i)
    case measure=>omega
    case rel=>exact ⟨i,h,rfl,rfl,hi,hi1,zj,jL _,ED2,S2⟩
   go_wp2_with fail
   go_quiet_grown (first | (go_at_fn g;refine Calls.grown_of (hc _ _)))
   have S2:Aside (SWK enc k w0 blk off d (grow (wr.drewN nq) osq)):=SG.o nq osq
   have ED2:Aside ((mid+m - b<h+1->tlt lt d[mid+m - (h+1)]! d[h+1 - 1]! =false)/\(j<mid->tlt lt d[mid+m - 1 - j]! d[j]! =true)):=⟨fun _=>by rw [Nat.add_sub_cancel,show mid+m - (h+1)=mid+m - 1 - h by omega,<-HQN.o,<-HL.o];exact decide_eq_false zj,ED.o.2⟩
   clear lx ly hc SG S1 ED
   generalize grow (wr.drewN nq) osq=w2 at S2 |-
   have hd:(!decide (z<0))=true:=qv
   rw [<-HQ.o]
   clear HQ HQN
   go_wp2
   go_roundg (j - (h+1))
   case measure=>omega
   case rel=>exact ⟨h+1,j,zI,rfl,zj,zj,hj,jL _,ED2,S2⟩
   rename_i hx
   exact ko0
  have hltz:decide ((i:Int)<(j:Int))=false:=zl
  obtain rfl:i=j:=zj
  obtain ⟨e,hee⟩:∃e:Nat,e=mid+m - i:=⟨_,rfl⟩
  have he1:i+e=mid+m:=zj
  have hlo:a<i->e<b->tlt lt d[e]! d[i - 1]! =false:=fun x y=>by rw [hee];exact ED.o.1 zj
  have hhi:i<m->m<e->tlt lt d[e - 1]! d[i]! =true:=fun x y=>qd
  have HLO:Aside (a<i->e<b->tlt lt d[e]! d[i - 1]! =false):=hlo
  have HHI:Aside (i<m->m<e->tlt lt d[e - 1]! d[i]! =true):=hhi
  have hze:(mid:Int)+(m:Int) - (i:Int)=(e:Int):=zj
  have HZE:=Lib.hid hze
  clear hlo hhi hze hee ED
  go_upto_region 39 with fail
  rw [HZE.o]
  clear HZE
  by_cases hrot:i<mid
  ·skip
   have b0:decide ((i:Int)<(m:Int))=true:=zl
   have b1:decide ((m:Int)<(e:Int))=true:=zl
   go_wp2_with fail
   clear b0 b1
   refine (lN k L V.fS V.fR enc blk off cap i m e d0 d w0 wr _ R hs S1.o zj zj zj zj).mono ?_
   rintro ex w1 ⟨rfl,d1,RT,S_1⟩
   have hzd1:d1.size=d.size:=RT.perm.1
   have S2:Aside (SWK enc k w0 blk off d1 w1):=S_1
   clear S_1 S1
   have CUT:Aside (Runs lt a i mid d1/\Runs lt mid e b d1/\∀p q,a<=p->p<mid->mid<=q->q<b->slt lt d1[q]! d1[p]! =false):=by
    exact kd0
   have PD1:Aside (PermIn a b d d1):=permIn_mono d d1 _ _ _ _ zj zj hb RT.perm
   clear RT HLO HHI
   by_cases hse:a<i
   ·skip
    have b0:decide ((a:Int)<(i:Int))=true:=zl
    have b1:decide ((i:Int)<(mid:Int))=true:=zl
    go_wp2_with fail
    clear b0 b1
    have C:=IH0.o a i mid d1 w1 zj zj S2.o CUT.o.1 zj zj zj zj
    unfold eU at C
    rw [hzd1] at C
    refine C.mono ?_
    clear C
    rintro ex w2 ⟨rfl,d2,⟨PMd2,SOd2⟩,S_d2⟩
    have hzd2:d2.size=d.size:=by rw [PMd2.1,hzd1]
    have Sd2:Aside (SWK enc k w0 blk off d2 w2):=S_d2
    have Qd2:Aside (PermIn a mid d1 d2/\SortedIn (slt lt) a mid d2):=⟨PMd2,SOd2⟩
    clear PMd2 SOd2 S_d2
    clear S2
    by_cases hth:e<b
    ·exact ka6
    skip
    have b0:decide ((mid:Int)<(e:Int))=true:=zl
    have b1:decide ((e:Int)<(b:Int))=false:=zl
    exact kc3
   skip
   have b0:decide ((a:Int)<(i:Int))=false:=zl
   have Qd1:Aside (PermIn a mid d1 d1/\SortedIn (slt lt) a mid d1):=⟨permIn_refl _ _ _,Runs.sorted CUT.o.1 zj⟩
   by_cases hth:e<b
   ·exfalso;omega
   skip
   have b0:decide ((mid:Int)<(e:Int))=true:=zl
   have b1:decide ((e:Int)<(b:Int))=false:=zl
   exact ka8
  skip
  have b0:decide ((i:Int)<(m:Int))=true:=zl
  have b1:decide ((m:Int)<(e:Int))=false:=zl
  obtain ⟨d1,w1,hd1,hw1⟩:∃d1 w1,d1=d/\w1=wr:=⟨_,_,rfl,rfl⟩
  have RT:Rot d d1 i m e:=qL
  have hzd1:d1.size=d.size:=RT.perm.1
  have S2:Aside (SWK enc k w0 blk off d1 w1):=by rw [hd1,hw1];exact S1
  rw [<-hw1]
  clear hd1 hw1 S1
  have CUT:Aside (Runs lt a i mid d1/\Runs lt mid e b d1/\∀p q,a<=p->p<mid->mid<=q->q<b->slt lt d1[q]! d1[p]! =false):=by
   exact kd0
  have PD1:Aside (PermIn a b d d1):=permIn_mono d d1 _ _ _ _ zj zj hb RT.perm
  clear RT HLO HHI
  have b0:decide ((a:Int)<(i:Int))=true:=zl
  have b1:decide ((i:Int)<(mid:Int))=false:=zl
  have Qd1:Aside (PermIn a mid d1 d1/\SortedIn (slt lt) a mid d1):=⟨permIn_refl _ _ _,Runs.sorted CUT.o.1 zj⟩
  by_cases hth:e<b
  ·exact ka7
  exfalso;omega
end
section
open Go.Shelf Go.RowKit Go.Lib Go.Sort
theorem NH {β:Type} [Inhabited β] {lt:β->β->Bool} {enc:β×Nat->List Value} {cf:β×Nat->β×Nat->Int} {off:Nat} {d0:Array (β×Nat)} (V:LJ P lt k enc cf g w0 blk off d0) (cap a m b:Nat) (d:Array (β×Nat)) (w:World)
  (hs:d0.size=d.size) (S:SWK enc k w0 blk off d w) (hr:Runs lt a m b d) (ham:a<m) (hmb:m<b) (hb:b<=d.size) (hsz:d.size<4611686018427387904) (_h0:m≠a+1) (_h1:b≠m+1)
  (IH:∀a' m' b' d' w',b' - a'<b - a->d0.size=d'.size->SWK enc k w0 blk off d' w'->Runs lt a' m' b' d'->a'<m'->m'<b'->b'<=d'.size->d'.size<4611686018427387904->eU P lt k enc g w0 blk off cap a' m' b' d' w') (hmid:m<=(a+b) / 2):
  eU P lt k enc g w0 blk off cap a m b d w:=by
 unfold eU
 have L:=V.ty
 have mixed:=L.mixed;have t0:=L.t0;have a0:=L.a0;have z0:=L.z0;have v0:=L.v0;have t3:=L.t3;have a3:=L.a3;have z3:=L.z3;have v3:=L.v3;have t4:=L.t4;have a4:=L.a4;have z4:=L.z4;have v4:=L.v4;have tS:=L.tS;have aS:=L.aS;have zS:=L.zS;have vS:=L.vS;have tC:=L.tC;have aC:=L.aC;have zC:=L.zC;have vC:=L.vC;have tU:=L.tU;have aU:=L.aU;have zU:=L.zU;have vU:=L.vU;have aE:=L.aE;have zE:=L.zE
 have eR:∀args w,(callFunc 307 args).run P w= .ok (.enter 307 args) w:=enters_of V.fR zk rfl
 have eM:∀args w,(callFunc 257 args).run P w= .ok (.enter 257 args) w:=enters_of V.fM zk rfl
 have R:=V.row
 have eg:=V.eg
 have CMP:Aside (CmpLays P g #[] enc k cf blk off d0.size w0):=V.cmp
 have LT:Aside (∀x y,decide (cf x y<0)=tlt lt x y):=V.less
 have S0:Aside (SWK enc k w0 blk off d w):=S
 have HR:Aside (Runs lt a m b d):=hr
 have IH0:Aside (∀a' m' b' d' w',b' - a'<b - a->d0.size=d'.size->SWK enc k w0 blk off d' w'->Runs lt a' m' b' d'->a'<m'->m'<b'->b'<=d'.size->d'.size<4611686018427387904->eU P lt k enc g w0 blk off cap a' m' b' d' w'):=IH
 clear S hr IH
 have q0:((m:Int) - (a:Int)==1)=false:=zl
 have q1:((b:Int) - (m:Int)==1)=false:=zl
 clear _h0 _h1
 obtain ⟨mid,hmi⟩:∃mid:Nat,mid=(a+b) / 2:=⟨_,rfl⟩
 rw [<-hmi] at hmid
 have hm1:a<mid:=zj
 have hm2:mid<b:=zj
 have hm3:a+b<=2*mid+1:=zj
 have hm4:2*mid<=a+b:=zj
 have q2:decide ((mid:Int)<(m:Int))=false:=zl
 have hz:((a:Int)+(b:Int)) / 2=(mid:Int):=zj
 have HZ:=Lib.hid hz
 obtain ⟨pp,hpp⟩:∃pp:Nat,pp=mid+m - 1:=⟨_,rfl⟩
 have hp1:pp+1<=mid+m:=zj
 have hp2:mid+m<=pp+1:=zj
 have HP:=Lib.hid (show (mid:Int)+(m:Int) - 1=(pp:Int) by omega)
 clear hz hmi hpp
 go_enter V.fM,ntmps257
 go_upto_region 25 with fail
 rw [HZ.o]
 clear HZ
 go_wp2
 rw [HP.o]
 clear HP
 rw [decide_eq_false (show ¬mid<m by omega)]
 clear q0 q1 q2
 go_loopg [20,21] (m - (a)) (fun kx s20 s21 wr=>∃(i j:Nat),s20= .int .i64 (i:Int)/\s21= .int .i64 (j:Int)/\a<=i/\i<=j/\j<=m/\j - i<=kx/\Aside ((a<i->tlt lt d[mid+m - i]! d[i - 1]! =false)/\(j<m->tlt lt d[mid+m - 1 - j]! d[j]! =true))/\Aside (SWK enc k w0 blk off d wr))
 case atStart=>exact ⟨a,m,zV,rfl,jL _,zj,jL _,jL _,⟨fun h=>zj,fun h=>zj⟩,S0⟩
 case round=>
  clear S0
  obtain ⟨i,j,rfl,rfl,hi,hij,hj,hkx,ED,S1⟩:=hrel
  by_cases hlt:i<j
  ·have hltz:decide ((i:Int)<(j:Int))=true:=by simp;omega
   go_wp2_with fail
   obtain ⟨h,hh⟩:∃h:Nat,h=(i+j) / 2:=⟨_,rfl⟩
   have hi1:i<=h:=zj
   have hi2:h<j:=zj
   have hz:((i:Int)+(j:Int)) / 2=(h:Int):=zj
   obtain ⟨q,hq⟩:∃q:Nat,q=mid+m - 1 - h:=⟨_,rfl⟩
   have hq1:q+h+1<=mid+m:=zj
   have hq2:mid+m<=q+h+1:=zj
   have HQ:=Lib.hid (show (pp:Int)=(q:Int)+(h:Int) by omega)
   have HQN:=Lib.hid hq
   rw [hz,HQ.o]
   clear hz hh hq
   have ex:((q:Int)).toNat=q:=zj
   have px:(0:Int)<=(q:Int):=zj
   have bdx:(q:Int)<(d.size:Int):=zj
   have rx:IntKind.i64.wrap ((q:Int))=(q:Int):=zr
   have ey:((h:Int)).toNat=h:=zj
   have py:(0:Int)<=(h:Int):=zj
   have bdy:(h:Int)<(d.size:Int):=zj
   have ry:IntKind.i64.wrap ((h:Int))=(h:Int):=zr
   have lx:=S1.o.ld R zj P (q) zj
   have ly:=S1.o.ld R zj P (h) zj
   have hc:=S1.o.cmp CMP.o zj d[q]! d[h]!
   have hl:=LT.o d[q]! d[h]!
   have SG:Aside (∀n os,SWK enc k w0 blk off d (grow (wr.drewN n) os)):=fun n os=>S1.o.grown n os
   generalize cf d[q]! d[h]! =z at hc hl
   have HL:=Lib.hid hl
   clear hl
   simp only [Array.append_empty] at hc
   by_cases hlv:z<0
   ·go_wp2_with fail
    go_quiet_grown (first | (go_at_fn g;refine Calls.grown_of (hc _ _)))
    have S2:Aside (SWK enc k w0 blk off d (grow (wr.drewN nq) osq)):=SG.o nq osq
    have ED2:Aside ((a<i->tlt lt d[mid+m - i]! d[i - 1]! =false)/\(h<m->tlt lt d[mid+m - 1 - h]! d[h]! =true)):=⟨ED.o.1,fun _=>xz⟩
    clear lx ly hc SG S1 ED
    generalize grow (wr.drewN nq) osq=w2 at S2 |-
    rw [<-HQ.o]
    clear HQ HQN
    go_wp2
    go_roundg (h - i)
    case measure=>omega
    case rel=>exact ⟨i,h,rfl,rfl,hi,hi1,zj,jL _,ED2,S2⟩
   go_wp2_with fail
   go_quiet_grown (first | (go_at_fn g;refine Calls.grown_of (hc _ _)))
   have S2:Aside (SWK enc k w0 blk off d (grow (wr.drewN nq) osq)):=SG.o nq osq
   have ED2:Aside ((a<h+1->tlt lt d[mid+m - (h+1)]! d[h+1 - 1]! =false)/\(j<m->tlt lt d[mid+m - 1 - j]! d[j]! =true)):=⟨fun _=>by rw [Nat.add_sub_cancel,show mid+m - (h+1)=mid+m - 1 - h by omega,<-HQN.o,<-HL.o];exact decide_eq_false zj,ED.o.2⟩
   clear lx ly hc SG S1 ED
   generalize grow (wr.drewN nq) osq=w2 at S2 |-
   have hd:(!decide (z<0))=true:=qv
   rw [<-HQ.o]
   clear HQ HQN
   go_wp2
   go_roundg (j - (h+1))
   case measure=>omega
   case rel=>exact ⟨h+1,j,zI,rfl,zj,zj,hj,jL _,ED2,S2⟩
   rename_i hx
   exact ko0
  have hltz:decide ((i:Int)<(j:Int))=false:=zl
  obtain rfl:i=j:=zj
  obtain ⟨e,hee⟩:∃e:Nat,e=mid+m - i:=⟨_,rfl⟩
  have he1:i+e=mid+m:=zj
  have hlo:a<i->e<b->tlt lt d[e]! d[i - 1]! =false:=fun x y=>by rw [hee];exact ED.o.1 zj
  have hhi:i<m->m<e->tlt lt d[e - 1]! d[i]! =true:=fun x y=>qd
  have HLO:Aside (a<i->e<b->tlt lt d[e]! d[i - 1]! =false):=hlo
  have HHI:Aside (i<m->m<e->tlt lt d[e - 1]! d[i]! =true):=hhi
  have hze:(mid:Int)+(m:Int) - (i:Int)=(e:Int):=zj
  have HZE:=Lib.hid hze
  clear hlo hhi hze hee ED
  go_upto_region 39 with fail
  rw [HZE.o]
  clear HZE
  by_cases hrot:i<m
  ·skip
   have b0:decide ((i:Int)<(m:Int))=true:=zl
   have b1:decide ((m:Int)<(e:Int))=true:=zl
   go_wp2_with fail
   clear b0 b1
   refine (lN k L V.fS V.fR enc blk off cap i m e d0 d w0 wr _ R hs S1.o zj zj zj zj).mono ?_
   rintro ex w1 ⟨rfl,d1,RT,S_1⟩
   have hzd1:d1.size=d.size:=RT.perm.1
   have S2:Aside (SWK enc k w0 blk off d1 w1):=S_1
   clear S_1 S1
   have CUT:Aside (Runs lt a i mid d1/\Runs lt mid e b d1/\∀p q,a<=p->p<mid->mid<=q->q<b->slt lt d1[q]! d1[p]! =false):=by
    exact kd0
   have PD1:Aside (PermIn a b d d1):=permIn_mono d d1 _ _ _ _ zj zj hb RT.perm
   clear RT HLO HHI
   by_cases hse:a<i
   ·skip
    have b0:decide ((a:Int)<(i:Int))=true:=zl
    have b1:decide ((i:Int)<(mid:Int))=true:=zl
    go_wp2_with fail
    clear b0 b1
    have C:=IH0.o a i mid d1 w1 zj zj S2.o CUT.o.1 zj zj zj zj
    unfold eU at C
    rw [hzd1] at C
    refine C.mono ?_
    clear C
    rintro ex w2 ⟨rfl,d2,⟨PMd2,SOd2⟩,S_d2⟩
    have hzd2:d2.size=d.size:=by rw [PMd2.1,hzd1]
    have Sd2:Aside (SWK enc k w0 blk off d2 w2):=S_d2
    have Qd2:Aside (PermIn a mid d1 d2/\SortedIn (slt lt) a mid d2):=⟨PMd2,SOd2⟩
    clear PMd2 SOd2 S_d2
    clear S2
    by_cases hth:e<b
    ·exact ka6
    exfalso;omega
   skip
   have b0:decide ((a:Int)<(i:Int))=false:=zl
   have Qd1:Aside (PermIn a mid d1 d1/\SortedIn (slt lt) a mid d1):=⟨permIn_refl _ _ _,Runs.sorted CUT.o.1 zj⟩
   by_cases hth:e<b
   ·exact ka7
   skip
   have b0:decide ((mid:Int)<(e:Int))=true:=zl
   have b1:decide ((e:Int)<(b:Int))=false:=zl
   exact ka8
  skip
  have b0:decide ((i:Int)<(m:Int))=false:=zl
  obtain ⟨d1,w1,hd1,hw1⟩:∃d1 w1,d1=d/\w1=wr:=⟨_,_,rfl,rfl⟩
  have RT:Rot d d1 i m e:=qL
  have hzd1:d1.size=d.size:=RT.perm.1
  have S2:Aside (SWK enc k w0 blk off d1 w1):=by rw [hd1,hw1];exact S1
  rw [<-hw1]
  clear hd1 hw1 S1
  have CUT:Aside (Runs lt a i mid d1/\Runs lt mid e b d1/\∀p q,a<=p->p<mid->mid<=q->q<b->slt lt d1[q]! d1[p]! =false):=by
   exact kd0
  have PD1:Aside (PermIn a b d d1):=permIn_mono d d1 _ _ _ _ zj zj hb RT.perm
  clear RT HLO HHI
  by_cases hse:i<mid
  ·skip
   have b0:decide ((a:Int)<(i:Int))=true:=zl
   have b1:decide ((i:Int)<(mid:Int))=true:=zl
   go_wp2_with fail
   clear b0 b1
   have C:=IH0.o a i mid d1 w1 zj zj S2.o CUT.o.1 zj zj zj zj
   unfold eU at C
   rw [hzd1] at C
   refine C.mono ?_
   clear C
   rintro ex w2 ⟨rfl,d2,⟨PMd2,SOd2⟩,S_d2⟩
   have hzd2:d2.size=d.size:=by rw [PMd2.1,hzd1]
   have Sd2:Aside (SWK enc k w0 blk off d2 w2):=S_d2
   have Qd2:Aside (PermIn a mid d1 d2/\SortedIn (slt lt) a mid d2):=⟨PMd2,SOd2⟩
   clear PMd2 SOd2 S_d2
   clear S2
   have b0:decide ((mid:Int)<(e:Int))=false:=zl
   exact kc3
  skip
  have b0:decide ((a:Int)<(i:Int))=true:=zl
  have b1:decide ((i:Int)<(mid:Int))=false:=zl
  have Qd1:Aside (PermIn a mid d1 d1/\SortedIn (slt lt) a mid d1):=⟨permIn_refl _ _ _,Runs.sorted CUT.o.1 zj⟩
  have b0:decide ((mid:Int)<(e:Int))=false:=zl
  exact ka8
end
section
open Go.Shelf Go.RowKit Go.Lib Go.Sort
theorem sA {P:Program} {β:Type} [Inhabited β] {lt:β->β->Bool} {k:Nat} {enc:β×Nat->List Value} {cf:β×Nat->β×Nat->Int} {g:Nat} {w0:World} {blk off:Nat} {d0:Array (β×Nat)} (V:LJ P lt k enc cf g w0 blk off d0) (cap:Nat):∀(n a m b:Nat) (d:Array (β×Nat)) (w:World),
  b - a<=n->d0.size=d.size->SWK enc k w0 blk off d w->Runs lt a m b d->a<m->m<b->b<=d.size->d.size<4611686018427387904->eU P lt k enc g w0 blk off cap a m b d w
 | 0,a,m,b,d,w=>fun hn _ _ _ h1 h2 _ _=>absurd hn zj
 | n+1,a,m,b,d,w=>fun hn hs S hr h1 h2 hb hsz=>by
  have IH:∀a' m' b' d' w',b' - a'<b - a->d0.size=d'.size->SWK enc k w0 blk off d' w'->Runs lt a' m' b' d'->a'<m'->m'<b'->b'<=d'.size->d'.size<4611686018427387904->eU P lt k enc g w0 blk off cap a' m' b' d' w':=fun a' m' b' d' w' hl=>sA V cap n a' m' b' d' w' zj
  by_cases c1:m=a+1
  ·exact GQ V cap a m b d w hs S hr h1 h2 hb hsz c1
  by_cases c2:b=m+1
  ·exact Hf V cap a m b d w hs S hr h1 h2 hb hsz c1 c2
  by_cases c3:(a+b) / 2<m
  ·exact Mn V cap a m b d w hs S hr h1 h2 hb hsz c1 c2 IH c3
  exact NH V cap a m b d w hs S hr h1 h2 hb hsz c1 c2 IH zj
