import Derived.Test.YtjclejjkganhfaaGreatDoorSR06
import Derived.Test.YtjclejjkganhfaaGreatDoorSR07
import Derived.Test.YtjclejjkganhfaaGreatDoorSR08
import Derived.Sort.MapsRangeIn
import Derived.RangeFuncMany
import Derived.Deep.RegionWith
import Derived.Maps.OwnIn
set_option linter.unusedSimpArgs false
set_option linter.unusedVariables false
set_option maxRecDepth 100000
set_option maxHeartbeats 64000000
namespace Go.Proofs.YtjclejjkganhfaaGreatDoor
open Go.Proofs.Tryz
section
open RowKit Shelf
attribute [local go_sem] Oper.semAt_some
theorem zdK(a b c d)(w):(Op.equalIn 10000 86 (.agg #[qI a,qI b]) (.agg #[qI c,qI d])).run prog w= .ok (decide ((a,b)=(c,d))) w:=by
 go_simp
 grind
theorem GH(a b):oa a.1 a.2 b.1 b.2=true↔SLt a b:=by
 unfold oa SLt
 grind
theorem Nk(F)(n)(h5:F.fn 331)(cR:F.round=none)(a)(D4 cap)(w):
  CallsIn F n prog 331 #[.slice a D4 cap] w fun e w'=>e= .returned (.func (.func 367) #[] #[qP w.heap.size])/\w'=w.alloc (.cells #[.slice a D4 cap] 186):=by
 refine callsIn_of_wp func331 rfl h5 ?_ cR;simp only [ntmps331,Zl,Za,Zq,Nat.reduceAdd,Nat.reduceSub,Zv,Zw,ZD,ZA,ZF,ZE];gi_wp2;go_ret;exact ki2
theorem DM(F)(n)(h7:F.fn 367)(cR:F.round=none)(hn:1<=n)(Bs g off cap)(ao)(L)(hlen:L.length<=1000)(aG:L= []\/ao=some (qA g off))(w)(bM:Bs<w.heap.size)(hg:g<w.heap.size)
  (hc:w.cell? (qB Bs)=some (.slice ao L.length cap)) (hI:V8 w g off L):
  SeqStopsK F n prog 367 #[qP Bs] (zcd L) (D8 g Bs) (fun ys=>ys=List.range L.length) (fun pre=>∃k,k<=L.length/\pre=List.range k) L.length w:=fun l J Jx W hW _ _ hY h0=>by
 have fE:=(hW.cell (p:=(qB Bs)) bM).trans hc;exact Tg F n h7 cR hn l Bs g off cap ao L hlen aG J Jx hY W fE (hI.same (hW.block g hg)) h0
def aaM(w:qW)(b:Nat)(s:Int×Int):Prop:=w.heap[b]? =some (.cells #[qI s.1,qI s.2] 86 (0,0))
theorem aaM.c0{w}{b}{s}(h:aaM w b s):w.cell? (qB b)=some (qI s.1):=by unfold aaM at h;simp [World.cell?,h]
theorem aaM.c1{w}{b}{s}(h:aaM w b s):w.cell? (qA b 1)=some (qI s.2):=by unfold aaM at h;simp [World.cell?,h]
def abo(w:qW)(b:Nat)(x:Ent):Prop:=w.heap[b]? =some (.cells #[qI x.1.1.1,qI x.1.1.2,qI x.1.2.1,qI x.1.2.2.1,.string x.1.2.2.2,qI x.2.1,qI x.2.2.1,.string x.2.2.2] 348 (0,0))
theorem abo.cell{w}{b}{x}(h:abo w b x)(c){u}(hu:(tQ x)[c]? =some u):w.cell? (qA b c)=some u:=by
 unfold abo at h;simp only [World.cell?,h];rw [<-hu];simp [tQ]
theorem nW{X Y:qW}{row}{b:Nat}{cs}{t}{fr}(h:X.heap[b]? =some (.cells cs t fr))(hg:X.grownBy Y row)(hr:∀r,row=some r->∃o:Obj,X.heap[r]? =some o/\o.isCells=false):Y.heap[b]? =some (.cells cs t fr):=by
 refine (hg.block b (uK.1 h).1 (fun e=> ?_)).trans h;obtain ⟨o',ho',fE⟩:=hr b e.symm;rw [h] at ho'
 cases ho'
 cases fE
theorem zcl(w:qW)(o1 o2):((w.alloc o1).alloc o2).heap[w.heap.size]? =some o1/\((w.alloc o1).alloc o2).heap[w.heap.size+1]? =some o2:=by
 grind [uR,heap_alloc_new,Zt]
theorem zaK(w:qW)(o1 o2 o3 o4):((((w.alloc o1).alloc o2).alloc o3).alloc o4).heap[w.heap.size]? =some o1/\((((w.alloc o1).alloc o2).alloc o3).alloc o4).heap[w.heap.size+1]? =some o2/\((((w.alloc o1).alloc o2).alloc o3).alloc o4).heap[w.heap.size+1+1]? =some o3/\((((w.alloc o1).alloc o2).alloc o3).alloc o4).heap[w.heap.size+1+1+1]? =some o4:=by
 grind [zcl,Zt,uR]
theorem JR{W}{b1 b2}{t1 t2}{v1 v2}(u1 u2)(h1:Boxed W b1 t1 v1)(h2:Boxed W b2 t2 v2)(hne:b1≠b2):
  Boxed ((W.setCell (qB b1) u1).setCell (qB b2) u2) b1 t1 u1/\Boxed ((W.setCell (qB b1) u1).setCell (qB b2) u2) b2 t2 u2:=
 ⟨(h1.set u1).kept (grownBy_setCell' _ _ _) (by simp [hne]),(h2.kept (grownBy_setCell' _ _ _) zm).set u2⟩
theorem rl{N}{W W'}(h:qL W W'):KeepsFrom N W W':=
 ⟨h.size,fun k _ _ hk _=>(h.block k (uK.1 hk).1).trans hk⟩
theorem EJ{g b}{W W'}(h:qL W W')(hg:g<W.heap.size)(hb:b<W.heap.size):D8 g b W W':=⟨h.block g hg,h.block b hb⟩
theorem su{pre}{x}(h:pre++ [x]=List.range (pre++ [x]).length):pre=List.range pre.length/\x=pre.length:=by
 rw [uQ,ZJ,Yq] at h
 grind [List.append_inj']
theorem Es{L}{r}(h:r<L.length):L[L.length - 1 - r]? =some (nt L r):=by
 grind [nt,uJ]
theorem KJ(w)(bt g cap)(ao)(L)(ms)(s)(hm:L.map (·.1)=ms)(bJ:mn ms)(hlen:L.length<=1000)(fQ:w.cell? ⟨bt,1,none⟩=some (.slice ao L.length cap))(aG:L= []\/ao=some ⟨g,0,none⟩)(hg:g<w.heap.size)(hrow:V8 w g 0 L):
  Calls prog 274 #[.pointer (some ⟨bt,0,none⟩),.agg #[.int .i64 s.1,.int .i64 s.2]] w fun e w'=>(∃(i:Nat) (b:Bool),e= .returned (.tuple #[.int .i64 (i:Int),.bool b])/\Iu ms s i b)/\Below w.heap.size w w':=by
 have hbt:bt<w.heap.size:=block_lt_of_cell fQ
 have hsl3:∀o1 o2 o3,(((w.alloc o1).alloc o2).alloc o3).cell? ⟨bt,1,none⟩=some (.slice ao L.length cap):=fun o1 o2 o3=>
  (((((uM w.heap.size w).alloc zg o1).alloc zr o2).alloc zm o3).cell (p:=⟨bt,1,none⟩) hbt).trans fQ
 refine (callsIn_wide (n:=4)).1 ?_;refine callsIn_of_wp_marks func274 rfl trivial ?_ rfl;simp only [ntmps274,Zl,Za,Zq,Nat.reduceAdd,Nat.reduceSub,Zv,Zw,ZD,ZA,ZF,ZE];gi_wp2_with (refine ⟨trivial,?_⟩;gi_at_call 331;refine (Nk Fence.wide (4 - 1) trivial rfl _ _ _ _).mono ?_;rintro e w' ⟨rfl,rfl⟩);obtain ⟨w4,cZ⟩:=za ((((w.alloc (.cells #[.int .i64 s.1,.int .i64 s.2] 86)).alloc (.cells #[.int .i64 0] 3)).alloc (.cells #[.bool false] 4)).alloc (.cells #[.slice ao L.length cap] 186));rw [<-cZ]
 have bN:Below w.heap.size w w4:=by rw [cZ];exact (((((uM w.heap.size w).alloc zg _).alloc zr _).alloc zm _).alloc zm _)
 have i7:w4.heap.size=w.heap.size+4:=by rw [cZ];simp
 obtain ⟨B,hB⟩:=za w.heap.size
 have e1:aaM w4 B s:=by rw [cZ,hB];exact (zaK w _ _ _ _).1
 have e2:Boxed w4 (B+1) 3 (.int .i64 0):=by rw [cZ,hB];exact (zaK w _ _ _ _).2.1
 have e3:Boxed w4 (B+1+1) 4 (.bool false):=by rw [cZ,hB];exact (zaK w _ _ _ _).2.2.1
 have e4:Boxed w4 (B+1+1+1) 186 (.slice ao L.length cap):=by rw [cZ,hB];exact (zaK w _ _ _ _).2.2.2
 rw [<-hB] at bN i7 hg hbt |-
 have HB:Aside (B=w.heap.size):=hB;have bF:B<=w.heap.size:=zj;clear hB;have ij:=hrow.same (bN.block g hg)
 have jF:ms.length=L.length:=by rw [<-hm];simp
 clear cZ hsl3 hrow
 refine wpIn_rangeFunc_ownH rfl zj (gf:=367) (lb:= #[.pointer (some ⟨B+1+1+1,0,none⟩)]) rfl trivial (enters_of func367 zk rfl)
  (DM Fence.wide (4 - 1) trivial rfl zj (B+1+1+1) g 0 cap ao L hlen aG w4 zj zj e4.cell ij) D8.trans (fun W l o o' hl _ _ _=>D8.put (N:=w4.heap.size) zj zj W l o' hl) (uM _ _) (fun _=>rfl)
  (fun pre W=>((pre=List.range pre.length->Lc ms s (L.length - pre.length))/\aaM W B s/\Boxed W (B+1) 3 (.int .i64 0)/\Boxed W (B+1+1) 4 (.bool false)/\w4.heap.size<=W.heap.size)/\Below B w W)
  (fun c pre W=>(c= .ret/\(pre=List.range pre.length->∃(i:Nat) (b:Bool),Iu ms s i b/\Boxed W (B+1) 3 (.int .i64 (i:Int))/\Boxed W (B+1+1) 4 (.bool b)))/\Below B w W)
  (OwnFrom.and (Own.from (fun _ X Y row hs hg hr=>⟨hs.1,nW hs.2.1 hg hr,nW hs.2.2.1 hg hr,nW hs.2.2.2.1 hg hr,uO hs.2.2.2.2 hg.size⟩) _) (ownFrom_below zj zj))
  (fun c=>OwnFrom.and (Own.from (fun _ X Y row hs hg hr=>⟨hs.1,fun hp=>by obtain ⟨i,b,f1,f2,f3⟩:=hs.2 hp;exact ⟨i,b,f1,nW f2 hg hr,nW f3 hg hr⟩⟩) _) (ownFrom_below zj zj))
  ⟨⟨fun _=>by rw [Zq,Nat.sub_zero,<-jF];exact NQ ms s,e1,e2,e3,uL _⟩,bN⟩
  (fun x a' W=>∃Bx,w4.heap.size<=Bx/\abo W Bx (nt L x)/\a'= {tmps:= #[.pointer (some ⟨bt,0,none⟩),.agg #[.int .i64 s.1,.int .i64 s.2],undef,.pointer (some ⟨B,0,none⟩),.pointer (some ⟨B+1,0,none⟩),.pointer (some ⟨B+1+1,0,none⟩),.int .i64 ((L.length - 1 - x:Nat):Int),.pointer (some ⟨Bx,0,none⟩),.pointer (some ⟨bt,0,none⟩),.pointer (some ⟨bt,0,none⟩),.pointer (some ⟨bt,1,none⟩),.slice ao L.length cap,.func (.func 367) #[] #[.pointer (some ⟨B+1+1+1,0,none⟩)],.int .i64 ((L.length - 1 - x:Nat):Int),.agg #[.int .i64 (nt L x).1.1.1,.int .i64 (nt L x).1.1.2,.int .i64 (nt L x).1.2.1,.int .i64 (nt L x).1.2.2.1,.string (nt L x).1.2.2.2,.int .i64 (nt L x).2.1,.int .i64 (nt L x).2.2.1,.string (nt L x).2.2.2],undef,undef,undef,undef,undef,undef,undef,undef,undef,undef,undef],defers:=[]})
  (fun x a'=>Own.from (fun _ X Y row hs hg hr=>zZ) _)
  ?assign ?body ?done ?stop
 case assign=>
  rintro l pre x W K ⟨⟨jM,hst,hr1,hr2,hsz⟩,hBW⟩ hK;have bM:B<=W.heap.size:=zj;have dl:Aside _:=hK
  have H1:Aside (aaM W B s/\Boxed W (B+1) 3 (.int .i64 0)/\Boxed W (B+1+1) 4 (.bool false)/\Below B w W):=⟨hst,hr1,hr2,hBW⟩
  clear hK hst hr1 hr2 hBW;unfold zcd;gi_wp2;refine dl.o _ _ ((KeepsOthers.alloc _ _).from _) ⟨uR _ _ _ zj,uR _ _ _ zj⟩ ⟨⟨jM,?_,H1.o.2.1.alloc _,H1.o.2.2.1.alloc _,zm⟩,H1.o.2.2.2.alloc bM _⟩ ⟨W.heap.size,zj,heap_alloc_new W _,rfl⟩;exact (uR _ _ _ zj).trans H1.o.1
 case body=>
  rintro l pre x a' W hl _ ⟨⟨jM,hst,hr1,hr2,hsz⟩,hBW⟩ ⟨Bx,hBx,hE,rfl⟩ hlt;have k0:=hst.c0;have k1:=hst.c1;have f0:=hE.cell 0 (u:=.int .i64 (nt L x).1.1.1) rfl;have f1:=hE.cell 1 (u:=.int .i64 (nt L x).1.1.2) rfl;have g1:=hr1.cell;have g2:=hr1.frozen;have g3:=hr2.cell;have g4:=hr2.frozen;have hq:=zdK (nt L x).1.1.1 (nt L x).1.1.2 s.1 s.2;by_cases he:(nt L x).1.1=s
  ·have hd:decide (((nt L x).1.1.1,(nt L x).1.1.2)=(s.1,s.2))=true:=decide_eq_true he;rw [hd] at hq;gi_wp2;obtain ⟨q1,q2⟩:=JR (.int .i64 ((L.length - 1 - x:Nat):Int)) (.bool true) hr1 hr2 zj;refine ⟨((KeepsOthers.setCell _ _ _).trans (KeepsOthers.setCell _ _ _)).from _,⟨rfl,fun hp=> ?_⟩,(hBW.setCell (p:=⟨B+1,0,none⟩) zM _).setCell (p:=⟨B+1+1,0,none⟩) zM _⟩;obtain ⟨bQ,fX⟩:=su hp;have cG:=Es (L:=L) (r:=x) zj;exact ⟨L.length - 1 - x,true,Mq (m:=(nt L x).1) zM he,q1,q2⟩
  have hd:decide (((nt L x).1.1.1,(nt L x).1.1.2)=(s.1,s.2))=false:=decide_eq_false he;rw [hd] at hq;by_cases hls:SLt (nt L x).1.1 s
  ·have hlb:=(GH (nt L x).1.1 s).2 hls;have eK:=Ep (nt L x).1.1.1 (nt L x).1.1.2 s.1 s.2 W;rw [hlb] at eK;have hw1:IntKind.i64.wrap (((L.length - 1 - x:Nat):Int)+1)=((L.length - 1 - x:Nat):Int)+1:=zw
   have G:Aside (Boxed W (B+1) 3 (.int .i64 0)/\Boxed W (B+1+1) 4 (.bool false)):=⟨hr1,hr2⟩
   gi_wp2_with (refine ⟨trivial,?_⟩;gi_at_call 218;refine (CallsIn.inRound l (callsIn_wide.2 eK)).mono ?_;rintro e w' ⟨rfl,hb'⟩;have G1:Aside (Boxed w' (B+1) 3 (.int .i64 0)/\Boxed w' (B+1+1) 4 (.bool false)):=⟨(hb'.block _ zj).trans G.o.1,(hb'.block _ zj).trans G.o.2⟩;have m1:=G1.o.1.cell;have m2:=G1.o.1.frozen;have m3:=G1.o.2.cell;have m4:=G1.o.2.frozen);obtain ⟨q1,q2⟩:=JR (.int .i64 (((L.length - 1 - x:Nat):Int)+1)) (.bool false) G1.o.1 G1.o.2 zj;refine ⟨(rl hb').trans (((KeepsOthers.setCell _ _ _).trans (KeepsOthers.setCell _ _ _)).from _),⟨rfl,fun hp=> ?_⟩,((hBW.trans (hb'.mono zj)).setCell (p:=⟨B+1,0,none⟩) zM _).setCell (p:=⟨B+1+1,0,none⟩) zM _⟩;obtain ⟨bQ,fX⟩:=su hp;have cG:=Es (L:=L) (r:=x) zj;exact ⟨L.length - 1 - x+1,false,Mt (m:=(nt L x).1) bJ zM zM hls,q1,q2⟩
  have hlb:oa (nt L x).1.1.1 (nt L x).1.1.2 s.1 s.2=false:=by
   cases hh:oa (nt L x).1.1.1 (nt L x).1.1.2 s.1 s.2 with
   | false=>rfl
   | true=>grind [GH,nt]
  have eK:=Ep (nt L x).1.1.1 (nt L x).1.1.2 s.1 s.2 W;rw [hlb] at eK;gi_wp2_with (refine ⟨trivial,?_⟩;gi_at_call 218;refine (CallsIn.inRound l (callsIn_wide.2 eK)).mono ?_;rintro e w' ⟨rfl,hb'⟩);refine ⟨rl hb',EJ hb' zj zj,⟨⟨fun hp=> ?_,(hb'.block _ zj).trans hst,(hb'.block _ zj).trans hr1,(hb'.block _ zj).trans hr2,by have:=hb'.size;omega⟩,hBW.trans (hb'.mono zj)⟩⟩;obtain ⟨bQ,fX⟩:=su hp;have cG:=Es (L:=L) (r:=x) zj;have h1:=jM bQ;rw [show L.length - pre.length=L.length - 1 - x+1 by omega] at h1;rw [uQ,ZJ,show L.length - (pre.length+1)=L.length - 1 - x by omega];exact MX (m:=(nt L x).1) h1 zM he hls
 case done=>
  rintro D ys W hD rfl ⟨⟨jM,hst,hr1,hr2,hsz⟩,hBW⟩ hK;have g1:=hr1.cell;have g2:=hr1.frozen;have g3:=hr2.cell;have g4:=hr2.frozen;gi_wp2;have dl:=((KeepsOthers.setCell W ⟨B+1,0,none⟩ (.int .i64 0)).trans (KeepsOthers.setCell _ ⟨B+1+1,0,none⟩ (.bool false))).same D _ hK rfl;refine ⟨zr,.inl ⟨_,_,rfl,run_takeDeferred dl,?_⟩⟩;obtain ⟨q1,q2⟩:=JR (.int .i64 0) (.bool false) hr1 hr2 zj;have q3:Boxed _ (B+1) 3 (.int .i64 0):=nW q1 (grownBy_putObj' _ D (.deferred none)) (fun r e=>by cases e;exact ⟨_,dl,rfl⟩);have q4:Boxed _ (B+1+1) 4 (.bool false):=nW q2 (grownBy_putObj' _ D (.deferred none)) (fun r e=>by cases e;exact ⟨_,dl,rfl⟩);have q5:=q3.cell;have q6:=q4.cell;refine ⟨.tuple #[.int .i64 0,.bool false],?_,⟨0,false,rfl,IX zL⟩,?_⟩
  ·simp [results,f274,go_sem,q5,q6]
  rw [<-HB.o];exact ((hBW.setCell (p:=⟨B+1,0,none⟩) zL _).setCell (p:=⟨B+1+1,0,none⟩) zM _).trans (belowK_b (w:=w) zj _ D _ _ yK dl rfl rfl)
 case stop=>
  rintro D c pre W hD ⟨k,hk,rfl⟩ ⟨⟨rfl,hf⟩,hBW⟩ hK;obtain ⟨i,b,hF,hr1,hr2⟩:=hf zr;gi_wp2;refine ⟨zr,.inl ⟨_,_,rfl,run_takeDeferred hK,?_⟩⟩;have q3:Boxed _ (B+1) 3 (.int .i64 (i:Int)):=nW hr1 (grownBy_putObj' _ D (.deferred none)) (fun r e=>by cases e;exact ⟨_,hK,rfl⟩);have q4:Boxed _ (B+1+1) 4 (.bool b):=nW hr2 (grownBy_putObj' _ D (.deferred none)) (fun r e=>by cases e;exact ⟨_,hK,rfl⟩);have q5:=q3.cell;have q6:=q4.cell;refine ⟨.tuple #[.int .i64 (i:Int),.bool b],?_,⟨i,b,rfl,hF⟩,?_⟩
  ·simp [results,f274,go_sem,q5,q6]
  exact ke3
end
section
open RowKit Maps
open scoped Classical
def WV(x:Ent):List Value:=[qI x.1.1.1,qI x.1.1.2,qI x.1.2.1,qI x.1.2.2.1,.string x.1.2.2.2]
theorem Dx(m)(fr):tQ (m,fr)=WV (m,fr)++lL fr:=rfl
theorem Oa{L}{i}{x}(hx:L[i]? =some x)(fr):∃A C,A.length=i*8+5/\mP tQ L=A++lL x.2++C/\mP tQ (L.set i (x.1,fr))=A++lL fr++C:=by
 obtain ⟨hl,he⟩:=uI.1 hx;have h1:=BS (enc:=tQ) (k:=8) rD L i hl (x.1,fr);have h2:=BS (enc:=tQ) (k:=8) rD L i hl (x.1,x.2)
 have hs:L.set i (x.1,x.2)=L:=by
  rw [show ((x.1,x.2):Ent)=x from rfl,<-he];exact List.set_getElem_self hl
 rw [hs] at h2;refine ⟨(mP tQ L).take (i*8)++WV x,(mP tQ L).drop ((i+1)*8),?_,?_,?_⟩
 ·grind [uQ,Zr,mu,rD,WV]
 ·grind [Dx,Zo]
 rw [h1,Dx];simp only [Zo];rfl
theorem OH{w:qW}{l9 g n cap o}{A C}{q}(p)(h:w.ownsRow l9 348 8 (qG g n cap) n (A++lL q++C))(ho:A.length=o):
  (((w.setCell (qA g o) (qI p.1)).setCell (qA g (o+1)) (qI p.2.1)).setCell (qA g (o+2)) (.string p.2.2)).ownsRow l9 348 8 (qG g n cap) n (A++lL p++C):=by
 subst ho;exact GU (vs:=lL p) h rfl
theorem Ic(w)(g o1 o2 o3)(v1 v2 v3):m7 (fun k=>k=g) w (((w.setCell (qA g o1) v1).setCell (qA g o2) v2).setCell (qA g o3) v3):=
 ((lZ g [v1] o1 w).trans (lZ g [v2] o2 _)).trans (lZ g [v3] o3 _)
def t7(w:qW)(bt bm:Nat)(v:Value):Prop:=w.heap[bt]? =some (.cells #[.map (some bm),v] 188 (0,0))
theorem t7.c0{w}{bt bm}{v}(h:t7 w bt bm v):w.cell? (qB bt)=some (.map (some bm)):=uo
theorem t7.c1{w}{bt bm}{v}(h:t7 w bt bm v):w.cell? (qA bt 1)=some v:=uo
theorem t7.fz{w}{bt bm}{v}(h:t7 w bt bm v)(o):w.frozen? (qA bt o)=false:=by unfold t7 at h;simp [World.frozen?,h]
theorem t7.lt{w}{bt bm}{v}(h:t7 w bt bm v):bt<w.heap.size:=(uK.1 h).1
theorem t7.abO{w}{bt bm n}{v}{f}(h:t7 w bt bm v)(hM:sL prog 3 w bm n f):bt≠bm:=by
 intro e;obtain ⟨es,ck,hb⟩:=hM.block
 grind [t7]
theorem wT{w:qW}{l9 n}{g cap k}{xs}(h:w.ownsRow l9 348 8 (qG g n cap) k xs):∃cur,w.heap[g]? =some (.cells cur 348 (0,0)):=by
 rcases h.2 with ⟨hc,_⟩ | ⟨g',cap',cur,hc,_,hg,_⟩
 ·cases hc
 simp_all
theorem rZ{w}{l9 n g cap k bm nn}{xs}{f}(h:w.ownsRow l9 348 8 (qG g n cap) k xs)(hM:sL prog 3 w bm nn f):g≠bm:=by
 intro e;obtain ⟨cur,hc⟩:=wT h;obtain ⟨es,ck,hb⟩:=hM.block
 simp_all
theorem tG{w}{l9 n g cap k bt bm}{xs}{v}(h:w.ownsRow l9 348 8 (qG g n cap) k xs)(hT:t7 w bt bm v):g≠bt:=by
 grind [wT,t7]
theorem KZ{w}{l9 g cap n}{L}(h:w.ownsRow l9 348 8 (qG g n cap) n (mP tQ L)):V8 w g 0 L:=fun j u hj=>by
 have:=h.cells (g:=g) rfl j u hj;rw [Addr.add_lit] at this;exact this
theorem OT{w:qW}{l9 g cap n k}{xs}(h:w.ownsRow l9 348 8 (qG g n cap) k xs)(j):w.frozen? (qA g j)=false:=by
 obtain ⟨cur,hc⟩:=wT h;simp [World.frozen?,hc]
theorem wJ{w w':qW}{l9 g cap n k}{xs}(h:w.ownsRow l9 348 8 (qG g n cap) k xs)(e:w'.heap[g]? =w.heap[g]?):w'.ownsRow l9 348 8 (qG g n cap) k xs:=by
 refine ⟨h.1,?_⟩
 rcases h.2 with ⟨hc,_⟩ | ⟨g',cap',cur,hc,h1,hg,h2⟩
 ·cases hc
 cases hc;exact .inr ⟨g,cap,cur,rfl,h1,e.trans hg,h2⟩
theorem zaV(w)(bt bm l9 g cap p9 n)(L)(ms)(hT:t7 w bt bm (qG g ms.length cap))(hown:w.ownsRow l9 348 8 (qG g ms.length cap) ms.length (mP tQ L))(hL:M6 ms p9 L)
  (hM:sL prog 3 w bm n (lM (ms.take p9))) (cL:∀m∈ms,O9 m.2) (aN:p9<=ms.length) (hlen:ms.length<=1000) (hn:n<=1000000):
  qC 277 #[qP bt,qN p9] w fun e w'=>(∃u,e= .returned u)/\∃L' n',M6 ms ms.length L'/\w'.ownsRow l9 348 8 (qG g ms.length cap) ms.length (mP tQ L')/\sL prog 3 w' bm n' (lM ms)/\n'<=n+ms.length/\m7 (fun k=>k=bm\/k=g) w w':=by
 have iZ:=hT.abO hM;have je:=rZ hown hM;have hgt:=tG hown hT;have hbt:=hT.lt;have dH:=(uK.1 (wT hown).choose_spec).1;have hbm:=hM.lt;go_enter func277,ntmps277;go_wp2;go_loopg [4] (ms.length - p9) (fun kx s4 wr=>∃(i:Nat) (L:List Ent) (n':Nat),s4=qN i/\i<=ms.length/\ms.length - i<=kx/\M6 ms i L/\wr.ownsRow l9 348 8 (qG g ms.length cap) ms.length (mP tQ L)/\sL prog 3 wr bm n' (lM (ms.take i))/\n'<=n+i/\m7 (fun k=>k=bm\/k=g) w wr)
 case atStart=>exact ⟨p9,L,n,rfl,aN,uL _,hL,hown,hM,Nat.le_add_right _ _,m7.refl _ _⟩
 case round=>
  obtain ⟨i,L,n',rfl,hi,aY,hL,hown,hM,hn',hk⟩:=hrel;have hT1:t7 wr bt bm (qG g ms.length cap):=(hk.block bt hbt zj).trans ‹t7 w bt bm _›;have t0:=hT1.c0;have t1:=hT1.c1;have hsz:=hk.size;by_cases hlt:i<ms.length
  ·have aq:qlt i ms.length=true:=by simp;omega
   obtain ⟨x,hx⟩:∃x,L[i]? =some x:=⟨_,uJ (by rw [hL.D4];exact hlt)⟩
   have hmx:=hL.mov hx;have hf:=cL _ (uP hmx);have hrow:=KZ hown
   have c2:wr.cell? (qA g (i*8+2))=some (qI x.1.2.1):=by have:=hrow.at hx 2 (u:=qI x.1.2.1) rfl;rwa [Zc] at this
   have c3:wr.cell? (qA g (i*8+3))=some (qI x.1.2.2.1):=by have:=hrow.at hx 3 (u:=qI x.1.2.2.1) rfl;rwa [Zc] at this
   have c4:wr.cell? (qA g (i*8+4))=some (.string x.1.2.2.2):=by have:=hrow.at hx 4 (u:=.string x.1.2.2.2) rfl;rwa [Zc] at this
   have ex:((i:Int)).toNat=i:=zj;have px:(0:Int)<=(i:Int):=zj;have bx:(i:Int)<(ms.length:Int):=zj
   have HH:Aside (M6 ms i L/\wr.ownsRow l9 348 8 (qG g ms.length cap) ms.length (mP tQ L)/\sL prog 3 wr bm n' (lM (ms.take i))/\m7 (fun k=>k=bm\/k=g) w wr/\t7 wr bt bm (qG g ms.length cap)/\V8 wr g 0 L/\L[i]? =some x/\ms[i]? =some x.1):=⟨hL,hown,hM,hk,hT1,hrow,hx,hmx⟩
   clear hL hown hM hk hT1 hrow hx hmx;go_wp2;obtain ⟨w1,hw1⟩:=za (wr.alloc (.cells #[qI x.1.2.1,qI x.1.2.2.1,.string x.1.2.2.2] 212))
   have bQ:x8 w1 wr.heap.size x.1.2:=by rw [hw1];exact heap_alloc_new wr _
   have hold:∀k,k<wr.heap.size->w1.heap[k]? =wr.heap[k]? :=fun k hk=>by rw [hw1];exact uR wr _ k hk
   have aI:w1.heap.size=wr.heap.size+1:=xX
   have gC:m7 (fun k=>k=bm\/k=g) w w1:=by rw [hw1];exact HH.o.2.2.2.1.alloc _
   have aX:=wJ HH.o.2.1 (hold g zj);have hT1:t7 w1 bt bm (qG g ms.length cap):=(hold bt zj).trans HH.o.2.2.2.2.1;have cg:=HH.o.2.2.1.same (hold bm zj);obtain ⟨b5,hb5⟩:=za wr.heap.size;rw [<-hw1]
   rw [<-hb5] at bQ aI |-
   have hg5:g<b5:=zj;have hb5w:w.heap.size<=b5:=zj;have fi:bm<b5:=zj;have ht5:bt<b5:=zj;clear hw1 hold hb5 t0 t1 c2 c3 c4;have fV:=KZ aX;have t0:=hT1.c0;have t1:=hT1.c1;have p0:=bQ.c0;have p1:=bQ.c1;have p2:=bQ.c2;have hwn:=(tJ hf).1;have l0:=cg.aca hwn;have l1:=(show sL prog 3 w1.drew bm n' (lM (ms.take i)) from cg).aca hwn;unfold pG at l0 l1
   have c5:w1.cell? (qA g (i*8+5))=some (qI x.2.1):=by have:=fV.at HH.o.2.2.2.2.2.2.1 5 (u:=qI x.2.1) rfl;rwa [Zc] at this
   have c6:w1.cell? (qA g (i*8+6))=some (qI x.2.2.1):=by have:=fV.at HH.o.2.2.2.2.2.2.1 6 (u:=qI x.2.2.1) rfl;rwa [Zc] at this
   have c7:w1.cell? (qA g (i*8+7))=some (.string x.2.2.2):=by have:=fV.at HH.o.2.2.2.2.2.2.1 7 (u:=.string x.2.2.2) rfl;rwa [Zc] at this
   have z5:=OT aX (i*8+5);have z6:=OT aX (i*8+6);have z7:=OT aX (i*8+7);obtain ⟨fr,hfr⟩:=za ((lM (ms.take i) x.1.2.1).getD mS);rw [<-hfr] at l0 l1
   have H1:Aside (w1.ownsRow l9 348 8 (qG g ms.length cap) ms.length (mP tQ L)/\sL prog 3 w1 bm n' (lM (ms.take i))/\m7 (fun k=>k=bm\/k=g) w w1/\t7 w1 bt bm (qG g ms.length cap)/\x8 w1 b5 x.1.2/\fr=Ah ms i):=⟨aX,cg,gC,hT1,bQ,by rw [hfr,CF HH.o.2.2.2.2.2.2.2]⟩
   clear aX cg gC hT1 bQ fV hfr;go_region;obtain ⟨w2,hw2⟩:=za ((((w1.setCell (qA g (i*8+5)) (qI fr.1)).setCell (qA g (i*8+5+1)) (qI fr.2.1)).setCell (qA g (i*8+5+2)) (.string fr.2.2)).drew);rw [<-hw2]
   have gB:m7 (fun k=>k=g) w1 w2:=by rw [hw2];exact (Ic w1 g _ _ _ _ _ _).drew
   obtain ⟨A,C,hA,jh,hf2⟩:=Oa HH.o.2.2.2.2.2.2.1 fr
   have dK:w2.ownsRow l9 348 8 (qG g ms.length cap) ms.length (mP tQ (L.set i (x.1,fr))):=by
    have:=H1.o.1;rw [jh] at this;rw [hw2,hf2];exact OH fr this hA
   have ew:=H1.o.2.1.same (gB.block bm zj zj);have hT2:t7 w2 bt bm (qG g ms.length cap):=(gB.block bt zj zj).trans H1.o.2.2.2.1;have fX:=H1.o.2.2.2.2.1.same (gB.block b5 zj zj)
   have hk2:=H1.o.2.2.1.then gB (fun _ _ e=>.inr e)
   have aJ:=gB.size
   have hL2:M6 ms (i+1) (L.set i (x.1,fr)):=by rw [H1.o.2.2.2.2.2];exact zby HH.o.1 HH.o.2.2.2.2.2.2.1
   have kS:=FG HH.o.2.2.2.2.2.2.2;have fZ:wg (lM (ms.take i)):=ro (fun m hm=>cL m (YD hm))
   have H2:Aside (w2.ownsRow l9 348 8 (qG g ms.length cap) ms.length (mP tQ (L.set i (x.1,fr)))/\sL prog 3 w2 bm n' (lM (ms.take i))/\m7 (fun k=>k=bm\/k=g) w w2/\t7 w2 bt bm (qG g ms.length cap)/\x8 w2 b5 x.1.2/\M6 ms (i+1) (L.set i (x.1,fr))/\lM (ms.take (i+1))=K6 (lM (ms.take i)) x.1/\w2.heap.size≥w1.heap.size):=⟨dK,ew,hk2,hT2,fX,hL2,kS,aJ⟩
   clear hw2 gB hA jh hf2 dK ew hT2 hk2 hL2 kS t0 t1 p0 p1 p2 l0 l1 c5 c6 c7 z5 z6 z7 H1 HH;have p0:=fX.c0;have p1:=fX.c1;have p2:=fX.c2;have t0:=H2.o.2.2.2.1.c0;clear fX;by_cases he:x.1.2.1=x.1.2.2.1
   ·have d0:(x.1.2.1 !=x.1.2.2.1)=false:=by simp [he]
    have cH:Gc (lM (ms.take i)) x.1.2:=.inl he;have HI:Aside (lM (ms.take (i+1))=lM (ms.take i)):=H2.o.2.2.2.2.2.2.1.trans (oC cH);clear he cH;go_wp2;go_roundg (ms.length - (i+1))
    case measure=>omega
    case rel=>exact ⟨i+1,L.set i (x.1,fr),n',zN,zj,uL _,H2.o.2.2.2.2.2.1,H2.o.1,by rw [HI.o];exact H2.o.2.1,zj,H2.o.2.2.1⟩
   have d0:(x.1.2.1 !=x.1.2.2.1)=true:=by simp [he]
   have hwo:=(tJ hf).2;by_cases hin:Ins (lM (ms.take i)) x.1.2.2.1 x.1.2.1
   ·have cH:Gc (lM (ms.take i)) x.1.2:=.inr hin;have HI:Aside (lM (ms.take (i+1))=lM (ms.take i)):=H2.o.2.2.2.2.2.2.1.trans (oC cH);have ac:=tj w2 bt bm n' (lM (ms.take i)) x.1.2.2.1 x.1.2.1 true (by simp [hin]) t0 H2.o.2.1 fZ hwo;clear he cH hin fZ;go_wp2_with (go_at_call 143;refine ac.mono ?_;clear ac;rintro e w3 ⟨rfl,hb3⟩)
    have hk3:=H2.o.2.2.1.then (lW hb3) (fun i hi e=>zj)
    have aW:=wJ H2.o.1 (hb3.block g zj);have eT:=H2.o.2.1.same (hb3.block bm zj);go_roundg (ms.length - (i+1))
    case measure=>omega
    case rel=>exact ⟨i+1,L.set i (x.1,fr),n',zN,zj,uL _,H2.o.2.2.2.2.2.1,aW,by rw [HI.o];exact eT,zj,hk3⟩
   have cH:¬Gc (lM (ms.take i)) x.1.2:=fun h=>h.elim he hin
   have HI:Aside (lM (ms.take (i+1))=upd (lM (ms.take i)) x.1.2.1 (some x.1.2)):=H2.o.2.2.2.2.2.2.1.trans (oZ cH);have ac:=tj w2 bt bm n' (lM (ms.take i)) x.1.2.2.1 x.1.2.1 false (by simp [hin]) t0 H2.o.2.1 fZ hwo;clear he cH hin fZ;go_wp2_with (go_at_call 143;refine ac.mono ?_;clear ac;rintro e w3 ⟨rfl,hb3⟩)
   have hk3:=H2.o.2.2.1.then (lW hb3) (fun i hi e=>zj)
   have aW:=wJ H2.o.1 (hb3.block g zj);have eT:=H2.o.2.1.same (hb3.block bm zj);have lp:t7 w3 bt bm (qG g ms.length cap):=(hb3.block bt zj).trans H2.o.2.2.2.1;have kK:=H2.o.2.2.2.2.1.same (hb3.block b5 zj);obtain ⟨w4,ae,hM4,ht4⟩:=(show sL prog 3 w3.drew bm n' (lM (ms.take i)) from eT).store (T:=185) (E:=212) underlying3 underlying185 zB hwn x.1.2;unfold pG at ae;have hg4:=ht4.grown
   have hg4':w3.grownBy w4 (some bm):=⟨hg4.os,hg4.tape,hg4.output,hg4.size,hg4.block⟩
   have hk4:=hk3.then (lS hg4') (fun i _ e=>.inl yF)
   have eH:=wJ aW (hg4'.block g (by have:=hb3.size;omega) (by simpa using je))
   have H4:Aside (m7 (fun k=>k=bm\/k=g) w w4/\w4.ownsRow l9 348 8 (qG g ms.length cap) ms.length (mP tQ (L.set i (x.1,fr)))/\sL prog 3 w4 bm (n'+1) (lM (ms.take (i+1)))):=⟨hk4,eH,by rw [HI.o];exact hM4⟩
   have q0:=kK.c0;have q1:=kK.c1;have q2:=kK.c2;have u0:=lp.c0;clear p0 p1 p2 t0 hb3 hk3 aW eT lp kK hM4 ht4 hg4 hg4' hk4 eH;go_region
   all_goals go_wp2
   go_roundg (ms.length - (i+1))
   case measure=>omega
   case rel=>exact ⟨i+1,L.set i (x.1,fr),n'+1,zN,zj,uL _,H2.o.2.2.2.2.2.1,H4.o.2.1,H4.o.2.2,zj,H4.o.1⟩
  have aq:qlt i ms.length=false:=zm;have hie:i=ms.length:=zj;subst hie;rw [Ym] at hM;go_wp2;go_end0;exact ⟨⟨_,rfl⟩,L,n',hL,hown,hM,hn',hk⟩
end
section
open RowKit Shelf Maps
open scoped Classical
attribute [local go_sem] Oper.semAt_some
def aaR(f:Sta)(ps:List Plc):Prop:=(ps.map (·.1)).Nodup/\∀p,p∈ps↔f p.1=some p
theorem aaR.acd{f}{ps qs}(h:aaR f ps)(hp:qs.Perm ps)(hs:qs.Pairwise (fun a b=>¬b.1<a.1)):C3 f qs:=by
 refine ⟨?_,fun p=>(hp.mem_iff).trans (h.2 p)⟩;have hn:=(hp.map _).nodup_iff.2 h.1;have hn':=YO.1 hn;exact (hs.and hn').imp (fun {a b} h=>zj)
def aax(D:DataW Unit)(f:Sta)(left:Lit->Bool)(ps:List Plc):Prop:=
 (ps.map (·.1)).Nodup/\(∀p∈ps,f p.1=some p/\left (.int .i64 p.1)=false)/\∀k,Wf k->has D (.int .i64 k)=true->left (.int .i64 k)=false->k∈ps.map (·.1)
theorem Iq(D)(f):aax D f (has D) []:=⟨YU,fun p hp=>by simp at hp,fun k _ h1 h2=>zL⟩
theorem BP(a b):Lit.sameKey (.int .i64 a) (.int .i64 b)=decide (a=b):=by
 by_cases h:a=b
 ·subst h;rw [WideAt.sameKey_self (show WideAt.IsKeyLit (.int .i64 a) from trivial)];simp
 rw [sameKey_ne (Bc h)];simp [h]
theorem aax.K6{D}{f}{left}{ps}(h:aax D f left ps){x}{c}(hl:left (.int .i64 x)=true)(hf:f x=some c)(hk:c.1=x):aax D f (fun z=>left z && !z.sameKey (.int .i64 x)) (ps++ [c]):=by
 obtain ⟨h1,h2,h3⟩:=h;refine ⟨?_,fun p hp=> ?_,fun k hw hh bT=> ?_⟩
 ·rw [ZL,ZI];refine ⟨h1,zr,fun a ha b hb=> ?_⟩;simp only [ZS,YE,Zf] at hb;subst hb;intro e;obtain ⟨p,hp,rfl⟩:=Zj.1 ha;have:=(h2 p hp).2;rw [e,hk,hl] at this
  cases this
 ·rcases uV.1 hp with hp | hp
  ·have:=h2 p hp;exact ⟨this.1,by show (left (.int .i64 p.1) &&_)=false;rw [this.2];rfl⟩
  simp only [Zf] at hp;subst hp;refine ⟨by rw [hk];exact hf,?_⟩
  show (left (.int .i64 p.1) && !Lit.sameKey (.int .i64 p.1) (.int .i64 x))=false
  rw [hk,BP];simp
 grind [BP,Zm]
theorem aax.all{D}{f}{left}{ps}(h:aax D f left ps)(hr:J6 D f)(G:wg f)(hl:∀kl,left kl=false):aaR f ps:=by
 refine ⟨h.1,fun p=>⟨fun hp=>(h.2.1 p hp).1,fun hp=> ?_⟩⟩;have hw:=zbb G hp;have hm:=h.2.2 p.1 hw (by rw [hr.has hw,hp];rfl) (hl _);obtain ⟨q,hq,e⟩:=Zj.1 hm;have:=(h.2.1 q hq).1
 simp_all
theorem Wc{D}{f}(hr:J6 D f)(G:wg f){x}{c}(hw:Wf x)(aN:∀zd,D.atKey (.int .i64 x) zd=dat c):f x=some c/\c.1=x:=by
 have hh:=hr.has hw;rw [has_true_of_atKey aN] at hh
 cases hf:f x with
 | none=>simp_all
 | some p=>
  have:=hr.some hw hf .nil;rw [aN] at this;rw [Ip this];exact ⟨rfl,G.Y9 x p hf⟩
theorem Lu(F)(n)(h8:F.fn 241)(cR:F.round=none)(hn:1<=n)(l Bm b nn)(D0)(f)(hr:J6 D0 f)(G:wg f)(J Jx:List Plc->World->Prop)
  (hY:∀pre x W,J pre W->pre.length<nn->YieldAt F (n - 1) prog l #[pG x] W fun e W'=>
   (e= .returned (.bool true)/\J (pre++ [x]) W'/\KeepsWalks W W')\/(e= .returned (.bool false)/\Jx (pre++ [x]) W'))
  (W) (hJ:AbidesFrom W.heap.size J) (hm:W.cell? ⟨Bm,0,none⟩=some (.map (some b))) (hown:W.ownsMap prog 3 Vp b nn D0) (h0:J [] W):
  CallsIn F n prog 241 #[.func (.yield l) #[] #[],.pointer (some ⟨Bm,0,none⟩)] W fun e W'=>(∃v,e= .returned v)/\
   ((∃xs,aaR f xs/\J xs W')\/(∃pre,True/\Jx pre W')):=by
 refine callsIn_of_wp func241 rfl h8 ?_ cR;simp only [ntmps241,Zl,Za,Zq,Nat.reduceAdd,Nat.reduceSub,Zv,Zw,ZD,ZA,ZF,ZE];have bO:=hown.size_le
 gi_wp2_with (first
  | (gi_at_range;refine wpListIn_range_own _ rfl _ 185 rfl 3 212 (int_keyed underlying3) underlying185 _ b nn _ rfl hown ?_;intro w0 dD hg0 fq)
  | gi_in)
 go_frame
 gi_loopw [4] (fun _ wr=>∃(left:Lit->Bool) (eZ:Nat) (ps:List Plc),wr.ranges prog 3 Vp b W.heap.size nn D0 left eZ/\ps.length+eZ<=nn/\aax D0 f left ps/\J ps wr)
  (fun _ wr=>wr.rangeLeft b W.heap.size)
 case atStart=>
  exact ⟨_,_,[],dD,by simpa using bO,Iq D0 f,hJ [] W w0 none h0 hg0 (fun r e=>yN)⟩
 case round=>
  obtain ⟨left,eZ,ps,fW,hcs,hC,jo⟩:=hrel
  gi_wp2_with (first
   | (gi_at_next;refine wpListIn_next_ranges _ rfl _ rfl 3 (int_keyed underlying3) Vp (Value.int .i64) pG (fun Y9 kl hk=>ub) (fun v y hv=>by grind [BH]) b W.heap.size nn _ _ _ rfl fW ?_ ?_)
   | gi_in)
  ·exact kl7
  intro x c1 c2 c3 kl yd yp w2 bu dZ bT hv aN dC hlt hg2 aJ iI;obtain ⟨x',ex,rfl,fL⟩:=Maps.keyOf_int_inv underlying3 dZ
  obtain rfl:x=x':=by simpa using ex
  obtain ⟨c',ec,ez⟩:=BH hv;obtain rfl:(c1,c2,c3)=c':=Sz ec;obtain rfl:yd=dat (c1,c2,c3):=(Prod.mk.inj ez).1;obtain ⟨kZ,hcx⟩:=Wc hr G fL aN;have hcx:c1=x:=hcx;subst hcx;have hJ2:=hJ ps wr w2 (some W.heap.size) jo hg2 (fun r e=>vK);have hJ3:J ps (w2.alloc (.cells #[.int .i64 c1,.int .i64 c2,.string c3] 212)):=hJ ps w2 _ none hJ2 (YI w2 _ none) (fun r e=>yN);obtain ⟨fn,tmps,assign,body,hy,hR⟩:=hY ps (c1,c2,c3) _ hJ3 zj;unfold pG at hy iI;dsimp only at hy iI;have jz:=dC.alloc (.cells #[.int .i64 c1,.int .i64 c2,.string c3] 212);have kg:=hC.K6 bT kZ rfl;have H3:Aside (RoundIn F (n - 1) prog l fn tmps assign body _ _):=hR;clear aJ hR hJ2 hJ3;unfold pG;dsimp only;gi_wp2;refine RoundIn.mono H3.o ?_;rintro e W3 (⟨rfl,hJ4,hk4⟩ | ⟨rfl,hJx4⟩)
  ·gi_wp2;have dB:=jz.of_walks hk4;go_roundw
   case rel=>exact ⟨_,bu,ps++ [(c1,c2,c3)],dB,zm,kg,hJ4⟩
   case measure=>rw [dB.left_eq,fW.left_eq];exact hlt
  gi_wp2;refine bodyPost_ret (results_none rfl _ _ _) rfl ?_
  grind
theorem Oe(F)(n)(hf:F.fn 176)(cR:F.round=none)(mb)(w):
  CallsIn F n prog 176 #[.map mb] w fun e w'=>e= .returned (.func (.func 241) #[] #[qP w.heap.size])/\w'=w.alloc (.cells #[.map mb] 185):=by
 refine callsIn_of_wp func176 rfl hf ?_ cR;simp only [ntmps176,Zl,Za,Zq,Nat.reduceAdd,Nat.reduceSub,Zv,Zw,ZD,ZA,ZF,ZE];gi_wp2;go_ret;exact ki2
theorem Fv(F)(n)(h8:F.fn 241)(cR:F.round=none)(hn:1<=n)(Bm b nn)(f)(G:wg f)(w)(eU:Bm<w.heap.size)(hm:w.cell? (qB Bm)=some (.map (some b)))(hM:sL prog 3 w b nn f):
  SeqStopsK F n prog 241 #[qP Bm] (fun x:Plc=> #[pG x]) KeepsWalks (fun xs=>aaR f xs) (fun _=>True) nn w:=fun l J Jx W hW hJ _ hY h0=>by
 have cN:=hM.lt;obtain ⟨D,hown,hr⟩:=hM.same (hW.block b cN);exact Lu F n h8 cR hn l Bm b nn D f hr G J Jx hY W hJ ((hW.cell (p:=(qB Bm)) eU).trans hm) hown h0
end
section
open RowKit Maps
open scoped Classical
structure I9 (l9:Nat) (w:qW) (bt bm:Nat) (v:Value) (ms:List Mov):Prop where
 cell:t7 w bt bm v
 row:∃L,M6 ms ms.length L/\w.ownsRow l9 348 8 v ms.length (mP tQ L)
 map:∃n,n<=600*ms.length/\sL prog 3 w bm n (lM ms)
 o9:mn ms
 Y8:∀m∈ms,O9 m.2
theorem I9.aaa{l9}{w}{bt bm}{v}{ms}(h:I9 l9 w bt bm v ms):wg (lM ms):=ro h.Y8
theorem I9.lt{l9}{w}{bt bm}{v}{ms}(h:I9 l9 w bt bm v ms):bt<w.heap.size/\bm<w.heap.size/\∀g,v.ownBlock=some g->g<w.heap.size:=by
 obtain ⟨n,_,hM⟩:=h.map;obtain ⟨L,_,hR⟩:=h.row;exact ⟨h.cell.lt,hM.lt,fun g hg=>(hR.lt g hg).2⟩
theorem nh{w w':qW}{l9 n}{e}{k}{v}{xs}(h:w.ownsRow l9 e k v n xs)(hs:∀g,v.ownBlock=some g->w'.heap[g]? =w.heap[g]?):w'.ownsRow l9 e k v n xs:=by
 refine ⟨h.1,?_⟩
 rcases h.2 with h0 | ⟨g,cap,cur,rfl,h1,hg,h2⟩
 ·exact .inl h0
 exact kl1
theorem I9.same{l9}{w w'}{bt bm}{v}{ms}(h:I9 l9 w bt bm v ms)(h1:w'.heap[bt]? =w.heap[bt]?)(h2:w'.heap[bm]? =w.heap[bm]?)(h3:∀g,v.ownBlock=some g->w'.heap[g]? =w.heap[g]?):I9 l9 w' bt bm v ms:=by
 obtain ⟨n,hn,hM⟩:=h.map;obtain ⟨L,hL,hR⟩:=h.row;exact ⟨h1.trans h.cell,⟨L,hL,nh hR h3⟩,⟨n,hn,hM.same h2⟩,h.o9,h.Y8⟩
theorem I9.later{l9}{w w'}{bt bm}{v}{ms}(h:I9 l9 w bt bm v ms)(hb:qL w w'):I9 l9 w' bt bm v ms:=
 h.same (hb.block _ h.lt.1) (hb.block _ h.lt.2.1) (fun g hg=>hb.block g (h.lt.2.2 g hg))
theorem Gl{t b n}{l8 other}{name value:qY}(h:opE t b n 109 l8 other name.data.toList value.data.toList=0):O9 (l8,other,name):=by
 have h0:=mT h;unfold opE at h;rw [if_pos ⟨h0.1,h0.2.1,h0.2.2.1,h0.2.2.2.1,h0.2.2.2.2.1,h0.2.2.2.2.2.1⟩] at h;unfold wd at h;rw [if_pos rfl] at h;unfold nw at h;split at h
 ·cases h
 rename_i hc;have hl:name.data.toList.length=name.size:=zr;obtain ⟨_,_,_,_,_,_,_,_,_,_,_,_,h12,_⟩:=h0;refine ⟨?_,?_,?_,?_,?_,?_⟩<;>dsimp only<;>omega
def VG:Prop:=∀(w:qW) (l9 bt bm n p9:Nat) (v:Value) (ms:List Mov) (L:List Ent),t7 w bt bm v->M6 ms ms.length L->w.ownsRow l9 348 8 v ms.length (mP tQ L)->sL prog 3 w bm n (lM ms)->(∀m∈ms,O9 m.2)->p9<=ms.length->ms.length<=1000->n<=1000000->
  qC 275 #[qP bt,qN p9] w fun e w'=>(∃u,e= .returned u)/\sL prog 3 w' bm (n+(ms.length - p9)) (lM (ms.take p9))/\m7 (fun k=>k=bm) w w'
end
section
open RowKit Shelf Maps
attribute [local go_sem] Oper.semAt_some
theorem zdi(p q:Plc)(w):(Op.equalIn 10000 212 (.agg #[qI p.1,qI p.2.1,.string p.2.2]) (.agg #[qI q.1,qI q.2.1,.string q.2.2])).run prog w= .ok (decide (p=q)) w:=by
 obtain ⟨a,b,s⟩:=p;obtain ⟨a',b',s'⟩:=q
 have hs:∀x y:ByteArray,x.toList=y.toList↔x=y:=fun x y=>⟨fun h=>by rw [Zu,Zu] at h;exact WideShapes.bytes_inj h,fun h=>by rw [h]⟩
 go_simp
 grind
theorem m7.aaB{S}{w X Y}{row}(h:m7 S w X)(hg:X.grownBy Y row)(hr:∀r,row=some r->w.heap.size<=r):m7 S w Y:=
 h.then (lS hg) (fun i hi e=>zM)
theorem Qe(w)(bt bm g off cap p9 D4 n)(ao bo)(L:List Ent)(F:Nat->Sta)(aN:p9<=D4)(jL:D4 - p9=L.length)(hlen:D4<=1000)(hn:n<=1000000)(jK:w.cell? ⟨bt,0,none⟩=some (.map (some bm)))(fQ:w.cell? ⟨bt,1,none⟩=some (.slice ao D4 cap))
  (hbo:(if cap=p9 then ao else Option.map (fun x=>x.add (p9*8)) ao)=bo) (aG:L= []\/bo=some ⟨g,off,none⟩) (hg:g<w.heap.size) (je:g≠bm) (hrow:V8 w g off L) (hM:sL prog 3 w bm n (F 0))
  (hF:∀r,r<L.length->Ve (F r) (nt L r).1.2.1 (nt L r).2=F (r+1)) (bG:∀r,Wf (nt L r).1.2.1):
  Calls prog 275 #[.pointer (some ⟨bt,0,none⟩),.int .i64 (p9:Int)] w fun e w'=>(∃v,e= .returned v)/\sL prog 3 w' bm (n+L.length) (F L.length)/\m7 (fun k=>k=bm) w w':=by
 have hbt:bt<w.heap.size:=block_lt_of_cell fQ;have hbm:=hM.lt
 have iZ:bt≠bm:=by
  intro e;obtain ⟨es,ck,hb⟩:=hM.block;rw [<-e] at hb;simp [World.cell?,hb] at jK
 have hsl3:∀o1,(w.alloc o1).cell? ⟨bt,1,none⟩=some (.slice ao D4 cap):=fun o1=>
  (((uM w.heap.size w).alloc zg o1).cell (p:=⟨bt,1,none⟩) hbt).trans fQ
 refine (callsIn_wide (n:=4)).1 ?_;refine callsIn_of_wp_marks func275 rfl trivial ?_ rfl;simp only [ntmps275,Zl,Za,Zq,Nat.reduceAdd,Nat.reduceSub,Zv,Zw,ZD,ZA,ZF,ZE];gi_wp2_with (refine ⟨trivial,?_⟩;gi_at_call 331;refine (Nk Fence.wide (4 - 1) trivial rfl _ _ _ _).mono ?_;rintro e w' ⟨rfl,rfl⟩);obtain ⟨w2,hw2⟩:=za ((w.alloc (.cells #[.pointer (some ⟨bt,0,none⟩)] 131)).alloc (.cells #[.slice bo L.length (cap - p9)] 186));rw [<-hw2]
 have bN:Below w.heap.size w w2:=by rw [hw2];exact ((uM w.heap.size w).alloc zg _).alloc zr _
 have aJ:w2.heap.size=w.heap.size+2:=by rw [hw2];simp
 obtain ⟨B,hB⟩:=za w.heap.size
 have e1:Boxed w2 B 131 (.pointer (some ⟨bt,0,none⟩)):=by rw [hw2,hB];exact (zcl w _ _).1
 have e2:Boxed w2 (B+1) 186 (.slice bo L.length (cap - p9)):=by rw [hw2,hB];exact (zcl w _ _).2
 rw [<-hB] at bN aJ hg hbt hbm |-
 have HB:Aside (B=w.heap.size):=hB;have bF:B<=w.heap.size:=zj;clear hB;have cB:=hrow.same (bN.block g hg);have ew:=hM.same (bN.block bm hbm);have hk2:m7 (fun k=>k=bm) w w2:=(lW bN).mono (fun k hk e=>yK);clear hw2 hsl3 hrow hM hbo
 refine wpIn_rangeFunc_ownH rfl zj (gf:=367) (lb:= #[.pointer (some ⟨B+1,0,none⟩)]) rfl trivial (enters_of func367 zk rfl)
  (DM Fence.wide (4 - 1) trivial rfl zj (B+1) g off (cap - p9) bo L zj aG w2 zj zj e2.cell cB) D8.trans (fun W l o o' hl _ _ _=>D8.put (N:=w2.heap.size) zj zj W l o' hl) (uM _ _) (fun _=>rfl)
  (fun pre W=>((∃f,sL prog 3 W bm (n+pre.length) f/\(pre=List.range pre.length->f=F pre.length))/\Boxed W B 131 (.pointer (some ⟨bt,0,none⟩))/\w2.heap.size<=W.heap.size)/\m7 (fun k=>k=bm) w W)
  (fun _ _ _=>False)
  (fun pre X Y row hs hg hr=>by
   obtain ⟨⟨⟨f,q1,q2⟩,q3,q4⟩,q5⟩:=hs
   have hne:some bm≠row:=fun e=>by have:=(hr bm e.symm).1;omega
   exact ⟨⟨⟨f,q1.same (hg.block bm q1.lt hne),q2⟩,nW q3 hg (fun r e=>(hr r e).2),uO q4 hg.size⟩,q5.aaB hg (fun r e=>by have:=(hr r e).1;have:=HB.o;omega)⟩)
  (fun _ _ _ _ _ hs _ _=>hs)
  ⟨⟨⟨F 0,ew,fun _=>rfl⟩,e1,uL _⟩,hk2⟩
  (fun x a' W=>∃Bx,w2.heap.size<=Bx/\abo W Bx (nt L x)/\a'= {tmps:= #[.pointer (some ⟨bt,0,none⟩),.int .i64 (p9:Int),.pointer (some ⟨B,0,none⟩),undef,undef,.pointer (some ⟨Bx,0,none⟩),.pointer (some ⟨bt,0,none⟩),.pointer (some ⟨bt,0,none⟩),.pointer (some ⟨bt,1,none⟩),.slice ao D4 cap,.int .i64 (p9:Int),.slice bo L.length (cap - p9),.func (.func 367) #[] #[.pointer (some ⟨B+1,0,none⟩)],.int .i64 ((L.length - 1 - x:Nat):Int),.agg #[.int .i64 (nt L x).1.1.1,.int .i64 (nt L x).1.1.2,.int .i64 (nt L x).1.2.1,.int .i64 (nt L x).1.2.2.1,.string (nt L x).1.2.2.2,.int .i64 (nt L x).2.1,.int .i64 (nt L x).2.2.1,.string (nt L x).2.2.2],undef,undef,undef,undef,undef,undef,undef,undef,undef,undef,undef,undef,undef,undef,undef,undef,undef,undef,undef,undef],defers:=[]})
  (fun x a'=>Own.from (fun _ X Y row hs hg hr=>zZ) _)
  ?assign ?body ?done ?stop
 case assign=>
  rintro l pre x W K ⟨⟨⟨f,hf,hfp⟩,hr1,hsz⟩,hkW⟩ hK;have dl:Aside _:=hK;clear hK;unfold zcd;gi_wp2;refine dl.o _ _ ((KeepsOthers.alloc _ _).from _) ⟨uR _ _ _ zj,uR _ _ _ zj⟩ ⟨⟨⟨f,hf.same (uR _ _ _ hf.lt),hfp⟩,hr1.alloc _,zm⟩,hkW.alloc _⟩ ⟨W.heap.size,zj,heap_alloc_new W _,rfl⟩
 case body=>
  rintro l pre x a' W hl _ ⟨⟨⟨f,hf,hfp⟩,hr1,hsz⟩,hkW⟩ ⟨Bx,hBx,hE,rfl⟩ hlt;have fL:=bG x;obtain ⟨y,hy⟩:=za (nt L x)
  rw [<-hy] at hE fL |-
  have hFx:x=pre.length->Ve (F pre.length) y.1.2.1 y.2=F (pre.length+1):=fun e=>by rw [hy,e];exact hF pre.length hlt
  clear hF bG hy;obtain ⟨⟨⟨y1,y2⟩,y3,y4,y5⟩,y6,y7,y8⟩:=y
  dsimp only at fL hFx |-
  have g1:=hr1.cell;have f2:=hE.cell 2 (u:=.int .i64 y3) rfl;have f5:=hE.cell 5 (u:=.int .i64 y6) rfl;have f6:=hE.cell 6 (u:=.int .i64 y7) rfl;have f7:=hE.cell 7 (u:=.string y8) rfl;have htc:=(hkW.cell (a:=⟨bt,0,none⟩) (by show bt<_;omega) iZ).trans jK
  have eY:∀(w1:World) (f':Sta),W.drew.grownBy w1 (some bm)->sL prog 3 w1 bm (n+pre.length+1) f'->f'=Ve f y3 (y6,y7,y8)->
    Aside (KeepsFrom w2.heap.size W w1/\D8 g (B+1) W w1/\((∃f,sL prog 3 w1 bm (n+(pre++ [x]).length) f/\(pre++ [x]=List.range (pre++ [x]).length->f=F (pre++ [x]).length))/\Boxed w1 B 131 (.pointer (some ⟨bt,0,none⟩))/\w2.heap.size<=w1.heap.size)/\m7 (fun k=>k=bm) w w1):=fun w1 f' hg1 cg jh=>by
   have gE:W.grownBy w1 (some bm):=⟨hg1.os,hg1.tape,hg1.output,hg1.size,hg1.block⟩
   have hsz1:=gE.size;refine ⟨KeepsFrom.of_grownBy gE (fun j e=>by cases e;omega),⟨gE.block g zj (by simpa using je),gE.block (B+1) zj zm⟩,⟨⟨f',by rw [uQ,ZJ,<-Yt];exact cg,fun hp=> ?_⟩,hr1.kept gE zm,zj⟩,hkW.then (lS gE) (fun i _ e=>yF)⟩;obtain ⟨bQ,fX⟩:=su hp;rw [jh,hfp bQ,uQ,ZJ,hFx fX]
  have gK:Bx≠bm:=zj;have gL:=(uK.1 hE).1
  have eo:∀w1:World,W.drew.grownBy w1 (some bm)->Aside (w1.cell? ⟨B,0,none⟩=some (.pointer (some ⟨bt,0,none⟩))/\w1.cell? ⟨bt,0,none⟩=some (.map (some bm))/\w1.cell? ⟨Bx,2,none⟩=some (.int .i64 y3)/\w1.cell? ⟨Bx,5,none⟩=some (.int .i64 y6)/\w1.cell? ⟨Bx,6,none⟩=some (.int .i64 y7)/\w1.cell? ⟨Bx,7,none⟩=some (.string y8)):=fun w1 hg1=>by
   have hb:∀k,k<W.heap.size->k≠bm->∀o,w1.cell? ⟨k,o,none⟩=W.cell? ⟨k,o,none⟩:=fun k hk hne o=>uS (a:=⟨k,o,none⟩) (hg1.block k hk (by simpa using hne))
   exact ⟨(hb B zj zj 0).trans g1,(hb bt zj iZ 0).trans htc,(hb Bx gL gK 2).trans f2,(hb Bx gL gK 5).trans f5,(hb Bx gL gK 6).trans f6,(hb Bx gL gK 7).trans f7⟩
  by_cases he:((y6,y7,y8):Plc)=mS
  ·have hq:∀w',(Op.equalIn 10000 212 (.agg #[.int .i64 y6,.int .i64 y7,.string y8]) (.agg #[.int .i64 0,.int .i64 0,.string ⟨#[]⟩])).run prog w'= .ok true w':=fun w'=>by
    have:=zdi (y6,y7,y8) mS w';rw [decide_eq_true he] at this;exact this
   obtain ⟨w1,ae,cg,fP⟩:=(show sL prog 3 W.drew bm (n+pre.length) f from hf).drop (T:=185) (E:=212) underlying3 underlying185 fL 0;have X1:=eo w1 fP.grown;have iW:=eY w1 (upd f y3 none) fP.grown (cg.mono (Nat.le_succ _)) (by rw [he];unfold Ve;rw [if_pos rfl]);clear he eY cg fP hf hfp hkW ew hk2 cB e1 e2 bN hE hr1 aG fQ jK jL aN hlen hn hsz hBx hl aJ hbm hbt hg iZ je bF HB fL hlt hFx eo gK gL;gi_wp2;refine sS (S:=(fun w'=>w'.cell? ⟨B,0,none⟩=some (.pointer (some ⟨bt,0,none⟩))/\w'.cell? ⟨bt,0,none⟩=some (.map (some bm))/\w'.cell? ⟨Bx,2,none⟩=some (.int .i64 y3))) zk zk xQ ⟨g1,htc,f2⟩ (fun aa=> ?_);refine tk 0 aa ?_ (y:=ty zI);refine tk 1 aa ?_ (y:=ty zI);refine tk 2 aa ?_ (y:=ty zI);refine tk 3 aa ?_ (y:=ty zI);refine tk 4 aa ?_ (y:=ty zI);refine tk 5 aa ?_ (y:=ty zI);refine tk 6 aa ?_ (y:=ty zI);refine an (i:=7) zk rfl (fun K hK=> ?_);go_simp;refine hK _ _ ⟨X1.o.1,X1.o.2.1,X1.o.2.2.1⟩ ?_;clear hK K;refine wpAnyH_done zk ?_ _;exact iW.o
  have hq:∀w',(Op.equalIn 10000 212 (.agg #[.int .i64 y6,.int .i64 y7,.string y8]) (.agg #[.int .i64 0,.int .i64 0,.string ⟨#[]⟩])).run prog w'= .ok false w':=fun w'=>by
   have:=zdi (y6,y7,y8) mS w';rw [decide_eq_false he] at this;exact this
  obtain ⟨w1,ae,cg,fP⟩:=(show sL prog 3 W.drew bm (n+pre.length) f from hf).store (T:=185) (E:=212) underlying3 underlying185 zB fL (y6,y7,y8);unfold pG at ae;dsimp only at ae;have X1:=eo w1 fP.grown;have iW:=eY w1 (upd f y3 (some (y6,y7,y8))) fP.grown cg (by unfold Ve;rw [if_neg he]);clear he eY cg fP hf hfp hkW ew hk2 cB e1 e2 bN hE hr1 aG fQ jK jL aN hlen hn hsz hBx hl aJ hbm hbt hg iZ je bF HB fL hlt hFx eo gK gL;gi_wp2;refine sS (S:=(fun w'=>w'.cell? ⟨B,0,none⟩=some (.pointer (some ⟨bt,0,none⟩))/\w'.cell? ⟨bt,0,none⟩=some (.map (some bm))/\w'.cell? ⟨Bx,2,none⟩=some (.int .i64 y3)/\w'.cell? ⟨Bx,5,none⟩=some (.int .i64 y6)/\w'.cell? ⟨Bx,6,none⟩=some (.int .i64 y7)/\w'.cell? ⟨Bx,7,none⟩=some (.string y8))) zk zk xQ ⟨g1,htc,f2,f5,f6,f7⟩ (fun aa=> ?_);refine tk 0 aa ?_ (y:=ty zF);refine tk 1 aa ?_ (y:=ty zF);refine tk 2 aa ?_ (y:=ty zF);refine tk 3 aa ?_ (y:=ty zF);refine tk 4 aa ?_ (y:=ty zF);refine tk 5 aa ?_ (y:=ty zF);refine tk 6 aa ?_ (y:=ty zF);refine tk 7 aa ?_ (y:=ty zF);refine tk 8 aa ?_ (y:=ty zF);refine an (i:=9) zk rfl (fun K hK=> ?_);go_simp;refine hK _ _ ⟨X1.o.1,X1.o.2.1,X1.o.2.2.1,X1.o.2.2.2.1,X1.o.2.2.2.2.1,X1.o.2.2.2.2.2⟩ ?_;clear hK K;refine wpAnyH_done zk ?_ _;exact iW.o
 case done=>
  rintro D ys W hD rfl ⟨⟨⟨f,hf,hfp⟩,hr1,hsz⟩,hkW⟩ hK;have hfF:=hfp zr;subst hfF;gi_wp2;refine ⟨zr,.inl ⟨_,_,rfl,run_takeDeferred hK,?_⟩⟩;have hgp:=grownBy_putObj' W D (.deferred none);refine ⟨.tuple #[],by simp [results,f275,go_sem],⟨_,rfl⟩,?_,hkW.aaB hgp (fun r e=>by cases e;have:=HB.o;omega)⟩;have:=hf.same (hgp.block bm hf.lt zm);exact ko5
 case stop=>
  rintro D c pre W _ _ h _;exact h.elim
end
section
open RowKit Maps
open scoped Classical
theorem zaF(w)(l9 bt bm n p9)(v)(ms)(L)(hT:t7 w bt bm v)(hL:M6 ms ms.length L)(hR:w.ownsRow l9 348 8 v ms.length (mP tQ L))(hM:sL prog 3 w bm n (lM ms))(cL:∀m∈ms,O9 m.2)(aN:p9<=ms.length)(hlen:ms.length<=1000)(hn:n<=1000000):
  qC 275 #[qP bt,qN p9] w fun e w'=>(∃u,e= .returned u)/\sL prog 3 w' bm (n+(ms.length - p9)) (lM (ms.take p9))/\m7 (fun k=>k=bm) w w':=by
 have jL:(L.drop p9).length=ms.length - p9:=by rw [ZH,hL.D4]
 have iH:∀r,r<ms.length - p9->∃x,nt (L.drop p9) r=x/\L[ms.length - 1 - r]? =some x:=fun r hr=>by
  have:=Es (L:=L.drop p9) (r:=r) zj
  grind
 have hF:∀r,r<(L.drop p9).length->Ve (lM (ms.take (ms.length - r))) (nt (L.drop p9) r).1.2.1 (nt (L.drop p9) r).2=lM (ms.take (ms.length - (r+1))):=fun r hr=>by
  obtain ⟨x,h1,h2⟩:=iH r zj;rw [h1];have hmx:=hL.mov h2;have hfr:=hL.R5 _ x zj h2;rw [CF hmx] at hfr;have hmt:=FG hmx
  grind [lM,ro,YD,QO]
 have bG:∀r,Wf (nt (L.drop p9) r).1.2.1:=fun r=>by
  by_cases hr:r<ms.length - p9
  ·obtain ⟨x,h1,h2⟩:=iH r hr;rw [h1];exact (tJ (cL _ (uP (hL.mov h2)))).1
  by_cases h0:(L.drop p9).length=0
  ·have:=Zg.1 h0;rw [this];exact (show Wf 0 from EL zo zo)
  have hz:(L.drop p9)[(L.drop p9).length - 1 - r]? =some (nt (L.drop p9) r):=by
   exact km0
  rw [ZO] at hz;exact (tJ (cL _ (uP (hL.mov hz)))).1
 have h0:lM (ms.take (ms.length - 0))=lM ms:=by rw [Nat.sub_zero,Ym]
 have hM0:sL prog 3 w bm n ((fun r=>lM (ms.take (ms.length - r))) 0):=by show sL _ _ _ _ _ (lM (ms.take (ms.length - 0)));rw [h0];exact hM
 have eY:∀g off (ao bo:qO) (cap:Nat),v= .slice ao ms.length cap->(if cap=p9 then ao else Option.map (fun x=>x.add (p9*8)) ao)=bo->(L.drop p9= []\/bo=some (qA g off))->g<w.heap.size->g≠bm->V8 w g off (L.drop p9)->
   qC 275 #[qP bt,qN p9] w fun e w'=>(∃u,e= .returned u)/\sL prog 3 w' bm (n+(ms.length - p9)) (lM (ms.take p9))/\m7 (fun k=>k=bm) w w':=fun g off ao bo cap hv hbo aG hg je hrow=>by
  refine (Qe w bt bm g off cap p9 ms.length n ao bo (L.drop p9) (fun r=>lM (ms.take (ms.length - r))) aN jL.symm hlen hn hT.c0 (by rw [<-hv];exact hT.c1) hbo aG hg je hrow hM0 hF bG).mono ?_
  grind
 have d9:ms.length=p9->L.drop p9= []:=fun h=>Zg.1 (by rw [jL];omega)
 have lq:L.drop p9= []->∀g off,V8 w g off (L.drop p9):=fun h g off j u hj=>by rw [h] at hj;simp [mP] at hj
 rcases hR.2 with ⟨hv,h0⟩ | ⟨g,cap,cur,hv,_,hg,hnc,_⟩
 ·exact eY bt 0 none none 0 (by rw [hv,h0]) zr (.inl (d9 zj)) hT.lt (hT.abO hM) (lq (d9 zj) _ _)
 subst hv;have bY:=(uK.1 hg).1;have je:=rZ hR hM;by_cases hc:cap=p9
 ·exact eY g 0 (qS g) _ cap rfl rfl (.inl (d9 zj)) bY je (lq (d9 zj) _ _)
 refine eY g (p9*8) (qS g) (some (qA g (p9*8))) cap rfl (by rw [if_neg hc,YA,Addr.add_lit,Zc]) (.inr rfl) bY je (fun j u hj=> ?_);have:=KZ hR (p9*8+j) u (by rw [<-rQ rD L p9 (by rw [hL.D4];exact aN),ZO] at hj;exact hj)
 simp_all
theorem Rs:VG:=zaF
end
section
open RowKit Lib Go.Sort
def I7(w:qW)(so:qO)(L:List ByteArray):Prop:=∀i x,L[i]? =some x->∃g o,so=some (qA g o)/\g<w.heap.size/\w.cell? (qA g (o+i))=some (.string x)
theorem I7.later{w w'}{so}{L}(h:I7 w so L)(hb:qL w w'):I7 w' so L:=fun i x hx=>by
 obtain ⟨g,o,e,hg,hc⟩:=h i x hx;exact ⟨g,o,e,uT hg hb.size,(hb.cell (p:=(qA g (o+i))) hg).trans hc⟩
theorem pC{w}{B}{ao}{cap}{L}(h:w.ownsRow B 9 1 (.slice ao L.length cap) L.length (L.map ru)):I7 w ao L:=fun i x hx=>by
 have hl:=(uI.1 hx).1
 rcases h.2 with ⟨h1,h2⟩ | ⟨g,cap',cur,hv,_⟩
 ·omega
 simp only [Value.slice.injEq] at hv;obtain ⟨rfl,-,-⟩:=hv
 have hc:w.cell? (qA g i)=some (.string x):=by
  rw [h.cellAt i zj,ZM,hx];rfl
 grind
def mkT(a:qU):ByteArray:=⟨a.toArray⟩
def sm(tl:List qU):List Value:=tl.map fun a=>ru ⟨a.toArray⟩
theorem LA{w}{B}{ao}{cap n}{tl}(h:w.ownsRow B 9 1 (.slice ao n cap) tl.length (sm tl))(hn:n=tl.length):I7 w ao (tl.map mkT):=by
 subst hn
 have e:sm tl=(tl.map mkT).map ru:=by unfold sm;rw [YY];rfl
 grind [Zh,mkT,pC]
theorem zdC(X:qY):(X !=X)=false:=by
 have:(X==X)=true:=by
  show (X.data==X.data)=true
  simp
 simp [bne,this]
theorem Ev(w)(a1 a2)(c1 c2)(xs)(hn:xs.length<=1000)(h1:I7 w a1 xs)(h2:I7 w a2 xs):
  qC 12 #[.slice a1 xs.length c1,.slice a2 xs.length c2] w (qR (.bool true) w):=by
 have H:Aside (I7 w a1 xs/\I7 w a2 xs):=⟨h1,h2⟩
 go_enter func12,ntmps12;go_wp2;go_loopg [5] xs.length (fun kx s5 wr=>∃k:Nat,s5=qN k/\k<=xs.length/\xs.length - k<=kx/\Aside (qL w wr))
 case atStart=>exact ⟨0,rfl,uW _,uL _,uM _ _⟩
 case round=>
  obtain ⟨k,rfl,hk,aY,A⟩:=hrel;by_cases hlt:k<xs.length
  ·have aq:qlt k xs.length=true:=by simp;omega
   have ek:((k:Int)).toNat=k:=zj;have pk:(0:Int)<=(k:Int):=zj;have bk:(k:Int)<(xs.length:Int):=zj
   obtain ⟨x,hx⟩:∃x,Aside (xs[k]? =some x):=⟨xs[k],uJ hlt⟩
   obtain ⟨g1,o1,e1,_,r1⟩:=H.o.1 k x hx.o;obtain ⟨g2,o2,e2,_,r2⟩:=H.o.2 k x hx.o;subst e1 e2;have z1:=lO A.o r1;have z2:=lO A.o r2;go_wp2;go_quiet (fail);go_wp2;go_roundg (xs.length - (k+1))
   case measure=>omega
   case rel=>exact ⟨k+1,zN,zj,uL _,Go.below_drewN A.o _⟩
  have aq:qlt k xs.length=false:=zm;go_wp2;go_ret;exact ⟨rfl,A.o⟩

end