import Derived.Test.YtjclejjkganhfaaGreatDoorSA06
import Derived.Test.YtjclejjkganhfaaGreatDoorSA07
import Derived.Test.YtjclejjkganhfaaGreatDoorSA08
import Derived.Laws.ResultCell
set_option linter.unusedSimpArgs false
set_option linter.unusedVariables false
set_option maxRecDepth 100000
set_option maxHeartbeats 64000000
namespace Go.Proofs.YtjclejjkganhfaaGreatDoor
open Go.Proofs.Tryz
section
open Shelf RowKit Lib Go.Sort
def FU(a b:qU):Int:=if a<b then -1 else if b<a then 1 else 0
def orZ(a b:Int):Int:=if a=0 then b else a
def zbV(x y:Mrk):Int:=orZ (BU x.1 y.1) (FU x.2.1.data.toList y.2.1.data.toList)
theorem wE(x y):ltOf zbV x y=decide (KLt (Aa x) (Aa y)):=by
 unfold ltOf zbV orZ BU;by_cases h1:x.1<y.1
 ·simp [h1]
 rw [if_neg h1];by_cases h2:y.1<x.1
 ·grind
 have h3:x.1=y.1:=zj;rw [if_neg h2,if_pos rfl];unfold FU
 grind
theorem TN:SWO (ltOf zbV) where
 irrefl x:=by rw [wE];simp_all
 trans x y z h1 h2:=by
  rw [wE] at*
  grind
 ntrans x y z h1 h2:=by
  rw [wE] at*
  grind
def mh(m:Mrk):List Value:=[qI m.1,.string m.2.1,.string m.2.2]
theorem zet(a)(w):qC 247 #[.string a] w fun e w'=>e= .returned (.bool false)/\w'=w:=by
 go_enter func247,ntmps247;go_wp2;go_ret;exact ⟨zq,rfl⟩
theorem Vy(a b)(w):qC 187 #[.string a,.string b] w fun e w'=>e= .returned (qI (FU a.data.toList b.data.toList))/\w'=w:=by
 unfold FU;by_cases h1:a.data.toList<b.data.toList
 ·have d1:=(Dx _ _).trans <| decide_eq_true h1
  rw [if_pos h1];exact ke8
 have d1:=(Dx _ _).trans <| decide_eq_false h1
 rw [if_neg h1];by_cases h2:b.data.toList<a.data.toList
 ·have d2:(a.toList==b.toList)=false:=by
   rw [ZB,ZB];exact beq_false_of_ne (fun e=>by rw [e] at h2;exact List.lt_irrefl _ h2)
  rw [if_pos h2];exact ke8
 have d2:(a.toList==b.toList)=true:=by
  rw [ZB,ZB];by_cases e:a.data.toList=b.data.toList
  ·rw [e];simp
  rcases Ap e with q | q
  ·exact absurd q h1
  exact absurd q h2
 rw [if_neg h2];exact ke8
theorem zcv(w)(g)(a b)(h0:w.cell? (qB g)=some (qI a))(h1:w.cell? (qA g 1)=some (qI b)):
  qC 186 #[qG g 2 2] w fun e w'=>e= .returned (qI (orZ a b))/\w'=w:=by
 unfold orZ;by_cases ha:a=0
 ·rw [if_pos ha]
  have da:(a !=0)=false:=by simp [ha]
  by_cases hb:b=0
  ·have db:(b !=0)=false:=by simp [hb]
   have HB:=Lib.hid hb;go_enter func186,ntmps186;go_wp2;refine wp_loop_rounds 3 ?_;rw [rounds_succ];go_wp2;rw [rounds_succ];go_wp2;rw [rounds_succ];go_wp2;go_ret;exact ⟨by rw [HB.o];rfl,rfl⟩
  have db:(b !=0)=true:=by simp [hb]
  go_enter func186,ntmps186;go_wp2;refine wp_loop_rounds 2 ?_;rw [rounds_succ];go_wp2;rw [rounds_succ];exact ka7
 rw [if_neg ha]
 have da:(a !=0)=true:=by simp [ha]
 go_enter func186,ntmps186;go_wp2;refine wp_loop_rounds 1 ?_;rw [rounds_succ];exact ka7
theorem TS(x y)(w):qC 185 (#[.agg (mh x).toArray,.agg (mh y).toArray]++ #[]) w fun e w'=>e= .returned (qI (zbV x y))/\∃q os',w'=grow (w.drewN q) os':=by
 obtain ⟨a,s,c⟩:=x;obtain ⟨a',s',c'⟩:=y;unfold mh;dsimp only;obtain ⟨S,hS⟩:=za w.heap.size;obtain ⟨U,hU⟩:=za ((w.alloc (.cells #[qI a,.string s,.string c] 221)).alloc (.cells #[qI a',.string s',.string c'] 221))
 have cw:U.heap[S+1]? =some (.cells #[qI a',.string s',.string c'] 221 (0,0)):=by
  have:=heap_alloc_new (w.alloc (.cells #[qI a,.string s,.string c] 221)) (.cells #[qI a',.string s',.string c'] 221);exact km0
 have b9:U.heap[S]? =some (.cells #[qI a,.string s,.string c] 221 (0,0)):=by
  exact kf5
 have x0:U.drew.cell? (qB S)=some (qI a):=yO;have x1:U.drew.cell? (qA S 1)=some (.string s):=yO;have y0:U.drew.cell? (qB (S+1))=some (qI a'):=yP;have y1:U.drew.cell? (qA (S+1) 1)=some (.string s'):=yP
 have HX:Aside (U.drew.cell? (qB S)=some (qI a)/\U.drew.cell? (qA S 1)=some (.string s)/\U.drew.cell? (qB (S+1))=some (qI a')/\U.drew.cell? (qA (S+1) 1)=some (.string s')):=⟨x0,x1,y0,y1⟩
 have HU:Aside (∃os,U=grow w os):=⟨_,vM⟩
 clear b9 cw x0 x1 y0 y1;go_enter func185,ntmps185;go_wp2_with fail;rw [<-hU,<-hS];clear hU hS;refine lV (S:=fun w'=>w'.cell? (qB S)=some (qI a)/\w'.cell? (qA S 1)=some (.string s)/\w'.cell? (qB (S+1))=some (qI a')/\w'.cell? (qA (S+1) 1)=some (.string s')) zk HX.o (fun aa=> ?_);refine tk 0 aa ?_ (y:=ty zu);refine tk 1 aa ?_ (y:=ty zu);refine tk 2 aa ?_ (y:=ty zu);refine tk 3 aa ?_ (y:=ty zu);refine tk 5 aa ?_ (y:=ty zu);refine tk 6 aa ?_ (y:=ty zu);refine tk 7 aa ?_ (y:=ty zu);refine tk 8 aa ?_ (y:=ty zu);refine an (i:=4) zk rfl (fun K hK=> ?_);go_simp;refine (Bh _ _ _).mono ?_;rintro e w1 ⟨rfl,rfl⟩;refine hK _ _ HX.o ?_;clear hK K;refine qn ?_;refine an (i:=9) zk rfl (fun K hK=> ?_);go_simp;refine (Vy _ _ _).mono ?_;rintro e w1 ⟨rfl,rfl⟩;refine hK _ _ HX.o ?_;clear hK K;refine qn ?_;refine an (i:=10) zk rfl (fun K hK=> ?_);go_simp;obtain ⟨V,hV⟩:=za ((U.alloc (.cells #[qI (BU a a'),qI (FU s.data.toList s'.data.toList)] 3)).drew)
 have ai:Below U.drew.heap.size U.drew V:=by rw [hV];exact ⟨rfl,rfl,rfl,((uO U.heap.size U).alloc zg _).size,((uO U.heap.size U).alloc zg (.cells #[qI (BU a a'),qI (FU s.data.toList s'.data.toList)] 3)).block⟩
 have hVn:V.heap[U.heap.size]? =some (.cells #[qI (BU a a'),qI (FU s.data.toList s'.data.toList)] 3 (0,0)):=xD
 have HV:Aside (∃q os',V=grow (w.drewN q) os'):=by
  exact kn2
 have g0:V.cell? (qB U.heap.size)=some (qI (BU a a')):=xq;have g1:V.cell? (qA U.heap.size 1)=some (qI (FU s.data.toList s'.data.toList)):=xq;rw [<-hV]
 have HY:Aside (V.cell? (qB S)=some (qI a)/\V.cell? (qA S 1)=some (.string s)/\V.cell? (qB (S+1))=some (qI a')/\V.cell? (qA (S+1) 1)=some (.string s')):=⟨oH ai HX.o.1,oH ai HX.o.2.1,oH ai HX.o.2.2.1,oH ai HX.o.2.2.2⟩
 exact kc5
theorem RK(blk off size)(w):CmpLays prog 185 #[] mh 3 zbV blk off size w:=fun _ _ _ _ x y=>TS x y _
theorem zal:∀args w,(callFunc 185 args).run prog w= .ok (.enter 185 args) w:=enters_of func185 zk rfl
theorem oK(x):(mh x).length=3:=rfl
theorem EK(x):∀v∈mh x,v.oneCell'=true:=by
 intro v hv;simp only [mh,uZ,ZS,or_false] at hv
 rcases hv with rfl | rfl | rfl<;>rfl
theorem BK(w)(g n)(d)(os):m7 (fun k=>k=g) w (sortWorldK mh 3 w g 0 n d os):=by
 refine ⟨rfl,rfl,rfl,?_,fun k hk hs=> ?_⟩
 ·exact kl4
 exact kh1
theorem zc1{w}{l9 g cap n}{ps}(h:w.ownsRow l9 221 3 (qG g n cap) n (mN mh ps))(hn:n=ps.length):HoldsK mh 3 w g 0 ps.toArray:=fun j hj=>by
 rw [size_flatK] at hj;simp only [Zn] at hj;have h1:j / 3<ps.length:=zj;have h2:j / 3*3+j % 3=j:=zj;refine ⟨?_,yT⟩;rw [Ze,h.cellAt j zj,get_flatK _ _ _ _ yD];have:=me (enc:=mh) oK (L:=ps) (i:=j / 3) (c:=j % 3) (x:=ps[j / 3]) (uL h1) zj
 grind [uL,oK]
theorem GG{w}{g}{d}(h:HoldsK mh 3 w g 0 d)(j)(u)(hj:(mN mh d.toList)[j]? =some u):w.cell? (qA g j)=some u:=by
 have hl:=(uK.1 hj).1;rw [mv oK,ZP] at hl;have h1:j / 3<d.size:=zj;have h2:j / 3*3+j % 3=j:=zj;have H:=(h j xc).1;rw [Ze,get_flatK _ _ _ _ zj] at H;have:=me (enc:=mh) oK (L:=d.toList) (i:=j / 3) (c:=j % 3) (x:=d[j / 3]) (by rw [Qe,Yf h1]) zj
 grind
theorem zb0(w)(l9 g cap)(ps)(hown:w.ownsRow l9 221 3 (qG g ps.length cap) ps.length (mN mh ps))(hl:ps.length<=100000):
  qC 184 #[qG g ps.length cap,.func (.func 185) #[] #[]] w fun e w'=>e=qT #[]/\∃qs:List Mrk,qs.Perm ps/\qs.Pairwise (fun a b=>¬KLt (Aa b) (Aa a))/\(∀j u,(mN mh qs)[j]? =some u->w'.cell? (qA g j)=some u)/\m7 (fun k=>k=g) w w':=by
 have hH:=zc1 hown rfl;have hblk:=(hown.lt g rfl).2;have h:=AnyQ.slices_SortFunc Gm 3 isAgg221 sizeOf221 mh oK EK zbV TN 185 #[] g 0 cap ps.toArray w zal (RK g 0 ps.toArray.size w) hH hblk zl;refine Calls.mono h ?_;rintro e w' ⟨rfl,d',n,os,hp,hs,rfl⟩;simp only [Zn] at hp hs;have hsz:d'.size=ps.length:=qv
 have hperm:d'.toList.Perm ps:=by
  exact kb3
 refine ⟨rfl,d'.toList,hperm,?_,?_,BK w g n d' os⟩
 ·rw [ZJ];intro i j hi hj ay;have hi':i<d'.size:=xM;have hj':j<d'.size:=yD;have:=hs i j (uW _) ay zj;rw [wE,getElem!_pos d' i hi',getElem!_pos d' j hj'] at this;have:=of_decide_eq_false this;exact ko1
 exact GG ((show SWK mh 3 w g 0 d' _ from ⟨n,os,rfl⟩).holds hblk hH (by rw [hsz];simp))
theorem JF(p)(cap)(fv)(w):qC 184 #[.slice p 0 cap,fv] w fun e w'=>e=qT #[]/\w'=w:=
 AnyF.slices_SortFunc_none Gm p cap fv w
def zbJ(x y:OpX):Int:=BU x.2.2.1 y.2.2.1
theorem td(x y):ltOf zbJ x y=decide (x.2.2.1<y.2.2.1):=by
 unfold ltOf zbJ BU
 grind
theorem Ux:SWO (ltOf zbJ) where
 irrefl x:=by grind [td,decide_eq_false]
 trans x y z h1 h2:=by
  rw [td] at*
  grind
 ntrans x y z h1 h2:=by
  grind [td,of_decide_eq_false,decide_eq_false]
theorem VO(x y)(w):qC 217 (#[.agg (nD x).toArray,.agg (nD y).toArray]++ #[]) w fun e w'=>e= .returned (qI (zbJ x y))/\∃q os',w'=grow (w.drewN q) os':=by
 obtain ⟨t,b,n,k,nd,o,s,v⟩:=x;obtain ⟨t',b',n',k',nd',o',s',v'⟩:=y;unfold nD zbJ
 show qC 217 #[.agg (qOa t b n k nd o s v),.agg (qOa t' b' n' k' nd' o' s' v')] w _
 go_enter func217,ntmps217;go_wp2_with (go_at_call 178;refine (Bh _ _ _).mono ?_;rintro e w' ⟨rfl,rfl⟩);go_ret;exact ⟨rfl,0,#[.cells (qOa t b n k nd o s v) 88]++ #[.cells (qOa t' b' n' k' nd' o' s' v') 88],vJ⟩
theorem QK(blk off size)(w):CmpLays prog 217 #[] nD 8 zbJ blk off size w:=fun _ _ _ _ x y=>VO x y _
theorem zbd:∀args w,(callFunc 217 args).run prog w= .ok (.enter 217 args) w:=enters_of func217 zk rfl
theorem BM(w)(g n)(d)(os):m7 (fun k=>k=g) w (sortWorldK nD 8 w g 0 n d os):=by
 refine ⟨rfl,rfl,rfl,?_,fun k hk hs=> ?_⟩
 ·exact kl4
 exact kh1
theorem zcT{w}{l9 g cap n}{ps}(h:w.ownsRow l9 88 8 (qG g n cap) n (cellsOf ps))(hn:n=ps.length):HoldsK nD 8 w g 0 ps.toArray:=fun j hj=>by
 rw [size_flatK] at hj;simp only [Zn] at hj;have h1:j / 8<ps.length:=zj;have h2:j / 8*8+j % 8=j:=zj;refine ⟨?_,yT⟩;rw [Ze,h.cellAt j zj,get_flatK _ _ _ _ yD]
 grind [nZ]
theorem GJ{w}{g}{d}(h:HoldsK nD 8 w g 0 d)(j)(u)(hj:(cellsOf d.toList)[j]? =some u):w.cell? (qA g j)=some u:=by
 have hl:=(uK.1 hj).1;rw [mo,ZP] at hl;have h1:j / 8<d.size:=zj;have h2:j / 8*8+j % 8=j:=zj;have H:=(h j xc).1;rw [Ze,get_flatK _ _ _ _ zj] at H
 grind [nZ,ZP]
theorem zcJ(w)(l9 g cap)(ps)(hown:w.ownsRow l9 88 8 (qG g ps.length cap) ps.length (cellsOf ps))(hl:ps.length<=100000):
  qC 269 #[qG g ps.length cap,.func (.func 217) #[] #[]] w fun e w'=>e=qT #[]/\∃qs:List OpX,qs.Perm ps/\qs.Pairwise (fun a b=>a.2.2.1<=b.2.2.1)/\(∀j u,(cellsOf qs)[j]? =some u->w'.cell? (qA g j)=some u)/\m7 (fun k=>k=g) w w':=by
 have hH:=zcT hown rfl;have hblk:=(hown.lt g rfl).2;have h:=AnyQ.slices_SortFunc KQ 8 isAgg88 sizeOf88 nD nL oY zbJ Ux 217 #[] g 0 cap ps.toArray w zbd (QK g 0 ps.toArray.size w) hH hblk zl;refine Calls.mono h ?_;rintro e w' ⟨rfl,d',n,os,hp,hs,rfl⟩;simp only [Zn] at hp hs;have hsz:d'.size=ps.length:=qv
 have hperm:d'.toList.Perm ps:=by
  exact kb3
 refine ⟨rfl,d'.toList,hperm,?_,?_,BM w g n d' os⟩
 ·rw [ZJ];intro i j hi hj ay;have hi':i<d'.size:=xM;have hj':j<d'.size:=yD;have:=hs i j (uW _) ay zj
  grind [td,of_decide_eq_false]
 exact GJ ((show SWK nD 8 w g 0 d' _ from ⟨n,os,rfl⟩).holds hblk hH (by rw [hsz];simp))
theorem ID(p)(cap)(fv)(w):qC 269 #[.slice p 0 cap,fv] w fun e w'=>e=qT #[]/\w'=w:=
 AnyF.slices_SortFunc_none KQ p cap fv w
end
section
open RowKit Maps
theorem zdH:(prog.info? 221).map (fun i=>(i.zero,i.size,i.bytes))=some (some (.agg #[qI 0,.string ⟨#[]⟩,.string ⟨#[]⟩]),3,40):=zk
theorem Ew{s:qY}(h:s.size=0):s.toList.isEmpty=true:=by
 simp_all
theorem KZ{s:qY}(h:s.size≠0):s.toList.isEmpty=false:=by
 rw [ZB];have:s.data.toList.length≠0:=xo
 grind
theorem Lu(w:qW)(a)(s c)(j)(u)(hj:(mh (a,s,c))[j]? =some u):(w.alloc (.cells #[qI a,.string s,.string c] 221)).cell? (((qB w.heap.size):Addr).add j)=some u:=by
 simp_all [Addr.add_lit,Ze,heap_alloc_new,mh]
theorem ON(w)(bc bm n)(f)(hC:E9 w bc bm n f)(hn:n<=100000):
  qC 133 #[qP bc] w fun e w'=>∃ao cap qs,e= .returned (.slice ao qs.length cap)/\P8 f qs/\qs.length<=n/\N7 mh w' ao qs/\qL w w'/\∀g o,ao=some (qA g o)->w.heap.size<=g:=by
 obtain ⟨i0,hi,aD,aw,aJ⟩:=info_parts zdH;have hall:=Xw w bc bm hC.c0;obtain ⟨⟨D,hown,hr⟩,hg⟩:=hC.map;have bO:=hown.size_le;have hlt:=hC.lt;go_enter func133,ntmps133
 go_wp2_with (first
  | (go_at_call 183;refine hall.mono ?_;clear hall;rintro e w' ⟨rfl,hw'⟩;have hw2:=hw'.symm;subst hw2)
  | (at_range;refine wpList_range_own _ rfl _ 189 rfl 274 276 lawK underlying189 _ bm n D rfl hown ?_;intro w0 dX hg0 fP)
  | go_in)
 go_frame;have hb0:=(uO _ w).grown hg0 zg (by intro k hk;cases hk);obtain ⟨r,jo⟩:=ze w.heap.size
 rw [<-jo.o] at dX |-
 have H0:Aside (w0.ranges prog 274 Nw bm r n D (has D) (size D)/\qL w w0/\M6 D f/\aaj f/\bm<w.heap.size):=⟨dX,hb0,hr,hg,hlt.2⟩
 go_loopw [3] (fun s3 wr=>∃(left:Lit->Bool) (eW:Nat) (ps:List Mrk) (v:Value),v=s3/\Aside (wr.ranges prog 274 Nw bm r n D left eW/\ps.length+eW<=n/\V7 f left ps/\wr.ownsRow (r+1) 221 3 v ps.length (mN mh ps)/\qL w wr/\r<wr.heap.size))
  (fun _ wr=>wr.rangeLeft bm r)
 case atStart=>exact ⟨_,_,[],_,rfl,⟨H0.o.1,by simpa using bO,JP H0.o.2.2.1 H0.o.2.2.2.1,Zk _ _ _ _,H0.o.2.1,H0.o.1.lt⟩⟩
 case round=>
  obtain ⟨left,eW,ps,v,rfl,A⟩:=hrel;obtain ⟨u,hu⟩:=za wr;subst hu;have fT:=A.o.1
  go_wp2_with (first
   | (at_next;refine wpList_next_ranges _ rfl _ rfl 274 lawK Nw Fs Jw (fun T9 kl hk=>by obtain ⟨x,_,hx,_⟩:=Nb hk;exact ⟨x,hx⟩) (fun v y hv=>by obtain ⟨c,rfl,_⟩:=Ev hv;exact ⟨c,rfl⟩) bm r n _ _ _ rfl fT ?_ ?_)
   | go_in)
  ·intro fB cU;have hall:=A.o.2.2.1.all cU;have gI:ps.length<=n:=ua;have hown:=A.o.2.2.2.1;have hbel:=A.o.2.2.2.2.1;have hr1:=jo.o
   rcases hown.2 with ⟨rfl,h0⟩ | ⟨g,cap,cur,rfl,hbg,-⟩
   ·have bg:=Zi.1 h0
    have HH:Aside (P8 f []/\qL w u):=⟨by subst bg;exact hall.P5 (List.Perm.refl _) List.Pairwise.nil,hbel⟩
    go_wp2_with (go_at_call 184;refine (JF none 0 _ _).mono ?_;rintro e w' ⟨rfl,rfl⟩);go_ret;exact ⟨none,0,[],rfl,HH.o.1,uW _,.inl rfl,HH.o.2,fun g o e=>yN⟩
   have hs:=zb0 u (r+1) g cap ps hown zj;have ce:=(hown.lt g rfl).2
   have HH:Aside (abX f ps/\ps.length<=n/\qL w u/\w.heap.size<=g/\g<u.heap.size):=⟨hall,gI,hbel,zj,ce⟩
   go_wp2_with fail;refine hs.mono ?_;rintro e w2 ⟨rfl,qs,hp,hpw,hcells,hk⟩
   have H2:Aside (P8 f qs/\qs.length=ps.length/\qs.length<=n/\(∀j u,(mN mh qs)[j]? =some u->w2.cell? (qA g j)=some u)/\qL w w2/\w.heap.size<=g):=
    ⟨HH.o.1.P5 hp hpw,hp.length_eq,ut,hcells,HH.o.2.2.1.trans (hk.m8 (HH.o.2.2.1.size) (fun k e=>by have:=HH.o.2.2.2.1;omega)),HH.o.2.2.2.1⟩
   go_wp2;go_ret;exact ⟨_,cap,qs,by rw [H2.o.2.1];rfl,H2.o.1,H2.o.2.2.1,.inr ⟨g,0,rfl,fun j u hj=>by rw [Ze];exact H2.o.2.2.2.1 j u hj⟩,H2.o.2.2.2.2.1,fun g' o e=>by cases e;exact H2.o.2.2.2.2.2⟩
  intro a nm c t b kl yd yp w2 bd eL cq hv aI dW hlt hg2 aN iC;obtain ⟨x',gE,ex,rfl⟩:=Nb eL;obtain rfl:(a,nm)=x':=Kh ex;obtain ⟨c',ec,ez⟩:=Ev hv;obtain rfl:(c,t,b)=c':=VK ec;obtain rfl:yd=Kn (c,t,b):=(Prod.mk.inj ez).1;have hfx:=H0.o.2.2.1.got gE aI;have hk2:m7 (fun k=>k=r) u w2:=(lS hg2).mono (fun k _ e=>vh);have hb2:=A.o.2.2.2.2.1.trans (hk2.m8 A.o.2.2.2.2.1.size (fun k e=>xT));have kj:=mE A.o.2.2.2.1 (fun g hg=>hk2.block g (A.o.2.2.2.1.lt g hg).2 (by have:=(A.o.2.2.2.1.lt g hg).1;omega))
  unfold Fs Jw at iC |-
  dsimp only at iC |-
  obtain ⟨S,hS⟩:∃S,Aside (w2.heap.size=S):=⟨_,rfl⟩
  by_cases hc:c.size=0
  ·have kS:=A.o.2.2.1.skip H0.o.2.2.2.1 gE hfx hc;have hce:=Ew hc
   have H2:Aside (w2.ranges prog 274 Nw bm r n D (fun z=>left z && !z.sameKey (rp (a,nm))) bd/\ps.length+bd<=n/\V7 f (fun z=>left z && !z.sameKey (rp (a,nm))) ps/\w2.ownsRow (r+1) 221 3 v ps.length (mN mh ps)/\qL w w2/\bd<eW):=⟨dW,ua,kS,kj,hb2,hlt⟩
   go_wp2;obtain ⟨h1,h2,h3,h4,h5,h6⟩:=H2.o;refine ⟨⟨_,bd,ps,v,rfl,(h1.alloc _).alloc _,h2,h3,(h4.alloc _).alloc _,(h5.alloc h5.size _).alloc (by have:=h5.size;simp;omega) _,((h1.alloc _).alloc _).lt⟩,?_⟩;rw [((h1.alloc _).alloc _).left_eq,fT.left_eq];exact h6
  have kS:=A.o.2.2.1.K8 H0.o.2.2.2.1 gE cq hfx hc;have hce:=KZ hc;obtain ⟨W3,kL⟩:=za ((w2.alloc (.cells #[qI a,.string nm] 274)).alloc (.cells #[.string c,qI t,qI b] 276))
  have hb3:qL w2 W3:=by rw [kL];exact (zh w2 _).alloc zq _
  have gZ:W3.heap.size=w2.heap.size+2:=by rw [kL];simp
  have q0:W3.heap[w2.heap.size]? =some (.cells #[qI a,.string nm] 274 (0,0)):=by
   rw [kL,uT _ _ _ zq];exact heap_alloc_new w2 _
  have q1:W3.heap[w2.heap.size+1]? =some (.cells #[.string c,qI t,qI b] 276 (0,0)):=by
   have:=heap_alloc_new (w2.alloc (.cells #[qI a,.string nm] 274)) (.cells #[.string c,qI t,qI b] 276);rw [Zv] at this;rw [kL];exact this
  have jl:W3.ranges prog 274 Nw bm r n D (fun z=>left z && !z.sameKey (rp (a,nm))) bd:=by rw [kL];exact (dW.alloc _).alloc _
  have ho3:W3.ownsRow (r+1) 221 3 v ps.length (mN mh ps):=by rw [kL];exact (kj.alloc _).alloc _
  have H2:Aside (W3.ranges prog 274 Nw bm r n D (fun z=>left z && !z.sameKey (rp (a,nm))) bd/\ps.length+1+bd<=n/\V7 f (fun z=>left z && !z.sameKey (rp (a,nm))) (ps++ [(a,nm,c)])/\W3.ownsRow (r+1) 221 3 v ps.length (mN mh ps)/\qL w W3/\bd<eW):=⟨jl,ua,kS,ho3,zi hb2 hb3,hlt⟩
  clear kS dW hlt hg2 aN hk2 hb2 kj hfx aI hv eL cq ec ez ex jl ho3 hb3;go_upto_region 6 with fail;rw [<-kL]
  rw [hS.o] at q0 q1 gZ |-
  have f0:W3.cell? (qB S)=some (qI a):=by simp [World.cell?,q0]
  have f1:W3.cell? (qA S 1)=some (.string nm):=by simp [World.cell?,q0]
  have f2:W3.cell? (qB (S+1))=some (.string c):=by simp [World.cell?,q1]
  obtain ⟨X,hX⟩:∃X,Aside (W3.heap.size=X):=⟨_,rfl⟩
  clear q0 q1 kL iC gZ
  have gI:ps.length+1<=n:=by have:=H2.o.2.1;omega
  have hbs:r+1<=W3.heap.size:=H2.o.1.lt;obtain ⟨va,vc,rfl⟩:=mC H2.o.2.2.2.1;go_wp2_with (at_builtin;refine wpList_append_own _ rfl _ _ 218 rfl (r+1) 221 i0 _ 3 40 underlying218 hi aD aw aJ rfl zj _ _ _ rfl (H2.o.2.2.2.1.alloc _) (qB W3.heap.size) 1 1 (mh (a,nm,c)) rfl rfl (Lu W3 a nm c) (EK _) zB zj zl ?_);intro v2 u2 hown ag hnil
  have hrow:∀g,(Value.slice va ps.length vc).ownBlock=some g->r+1<=g:=fun g hg=>(H2.o.2.2.2.1.lt g hg).1
  have hbm:=H0.o.2.2.2.2;have hr1:=jo.o;have h5:=H2.o.2.2.2.2.1;have dV:=(H2.o.1.alloc _).kept ag (fun e=>by have:=hrow bm e.symm;omega) (fun e=>by have:=hrow r e.symm;omega)
  have R4:Aside (u2.ranges prog 274 Nw bm r n D (fun z=>left z && !z.sameKey (rp (a,nm))) bd/\(ps++ [(a,nm,c)]).length+bd<=n/\V7 f (fun z=>left z && !z.sameKey (rp (a,nm))) (ps++ [(a,nm,c)])/\u2.ownsRow (r+1) 221 3 v2 (ps++ [(a,nm,c)]).length (mN mh (ps++ [(a,nm,c)]))/\qL w u2/\r<u2.heap.size):=by
   refine ⟨dV,by have:=H2.o.2.1;simp;omega,H2.o.2.2.1,?_,(h5.alloc h5.size _).grown ag (by have:=h5.size;simp;omega) (fun k hk=>by have:=hrow k hk;omega),dV.lt⟩;rw [uS,nS];simpa [mN] using hown
  have hm:u2.rangeLeft bm r<u.rangeLeft bm r:=by rw [dV.left_eq,fT.left_eq];exact H2.o.2.2.2.2.2
  go_wp2;exact ⟨⟨_,_,_,_,rfl,R4⟩,hm⟩
end
section
open Shelf RowKit Lib Go.Sort
theorem Ac:∀a b:qU,Lib.compareBytes a b=FU a b
 | [],[]=>xV
 | [],b::bs=>xV
 | a::r,[]=>xV
 | a::r,b::t=>by
  unfold Lib.compareBytes FU;rw [Ac r t]
  grind [FU,List.cons_lt_cons_iff,UInt8.lt_irrefl,UInt8.lt_iff_toNat_lt]
theorem Ub(a b)(w):qC 193 #[.string a,.string b] w fun e w'=>e= .returned (qI (FU a.data.toList b.data.toList))/\w'=w:=by
 have h:=Tryz.strings_Compare a b w;rw [Ac] at h;exact h
def zbT(x y:Plc):Int:=orZ (FU x.2.2.data.toList y.2.2.data.toList) (BU x.1 y.1)
def NLt(a b:qU×Int):Prop:=a.1<b.1\/(a.1=b.1/\a.2<b.2)
def Dt(p:Plc):qU×Int:=(p.2.2.data.toList,p.1)
theorem AA{a} :¬NLt a a:=fun h=>h.elim (fun q=>List.lt_irrefl _ q) (fun q=>by have:=q.2;omega)
theorem DW{a b c}(h:NLt a b)(k:NLt b c):NLt a c:=by
 rcases h with h | ⟨h,h'⟩<;>rcases k with k | ⟨k,k'⟩
 ·exact .inl (List.lt_trans h k)
 ·exact .inl (by rw [<-k];exact h)
 ·exact .inl (by rw [h];exact k)
 exact .inr ⟨h.trans k,zj⟩
theorem IZ{a b}(h:a≠b):NLt a b\/NLt b a:=by
 obtain ⟨x,m⟩:=a;obtain ⟨y,n⟩:=b;by_cases e:x=y
 ·subst e
  rcases Int.lt_trichotomy m n with q | q | q
  ·exact .inl (.inr ⟨rfl,q⟩)
  ·simp_all
  exact .inr (.inr ⟨rfl,q⟩)
 rcases Ap e with q | q
 ·exact .inl (.inl q)
 exact .inr (.inl q)
theorem wD(x y)[Decidable (NLt (Dt x) (Dt y))]:ltOf zbT x y=decide (NLt (Dt x) (Dt y)):=by
 unfold ltOf zbT orZ FU BU;rw [YX];simp only [decide_eq_true_eq];unfold NLt Dt
 grind
open scoped Classical in
theorem UO:SWO (ltOf zbT) where
 irrefl x:=by rw [wD];exact decide_eq_false AA
 trans x y z h1 h2:=by
  rw [wD] at*;exact decide_eq_true (DW (of_decide_eq_true h1) (of_decide_eq_true h2))
 ntrans x y z h1 h2:=by
  grind [wD,of_decide_eq_false,decide_eq_false,Dt,IZ,DW]
theorem Va(x y)(w):qC 192 (#[.agg (mW x).toArray,.agg (mW y).toArray]++ #[]) w fun e w'=>e= .returned (qI (zbT x y))/\∃q os',w'=grow (w.drewN q) os':=by
 obtain ⟨a,c,s⟩:=x;obtain ⟨a',c',s'⟩:=y;unfold mW;dsimp only;obtain ⟨S,hS⟩:=za w.heap.size;obtain ⟨U,hU⟩:=za ((w.alloc (.cells #[qI a,qI c,.string s] 212)).alloc (.cells #[qI a',qI c',.string s'] 212))
 have cw:U.heap[S+1]? =some (.cells #[qI a',qI c',.string s'] 212 (0,0)):=by
  have:=heap_alloc_new (w.alloc (.cells #[qI a,qI c,.string s] 212)) (.cells #[qI a',qI c',.string s'] 212);exact km0
 have b9:U.heap[S]? =some (.cells #[qI a,qI c,.string s] 212 (0,0)):=by
  exact kf5
 have x0:U.drew.cell? (qB S)=some (qI a):=yO;have x1:U.drew.cell? (qA S 2)=some (.string s):=yO;have y0:U.drew.cell? (qB (S+1))=some (qI a'):=yP;have y1:U.drew.cell? (qA (S+1) 2)=some (.string s'):=yP
 have HX:Aside (U.drew.cell? (qB S)=some (qI a)/\U.drew.cell? (qA S 2)=some (.string s)/\U.drew.cell? (qB (S+1))=some (qI a')/\U.drew.cell? (qA (S+1) 2)=some (.string s')):=⟨x0,x1,y0,y1⟩
 have HU:Aside (∃os,U=grow w os):=⟨_,vM⟩
 clear b9 cw x0 x1 y0 y1;go_enter func192,ntmps192;go_wp2_with fail;rw [<-hU,<-hS];clear hU hS;refine lV (S:=fun w'=>w'.cell? (qB S)=some (qI a)/\w'.cell? (qA S 2)=some (.string s)/\w'.cell? (qB (S+1))=some (qI a')/\w'.cell? (qA (S+1) 2)=some (.string s')) zk HX.o (fun aa=> ?_);refine tk 0 aa ?_ (y:=ty zu);refine tk 1 aa ?_ (y:=ty zu);refine tk 2 aa ?_ (y:=ty zu);refine tk 3 aa ?_ (y:=ty zu);refine tk 5 aa ?_ (y:=ty zu);refine tk 6 aa ?_ (y:=ty zu);refine tk 7 aa ?_ (y:=ty zu);refine tk 8 aa ?_ (y:=ty zu);refine an (i:=4) zk rfl (fun K hK=> ?_);go_simp;refine (Ub _ _ _).mono ?_;rintro e w1 ⟨rfl,rfl⟩;refine hK _ _ HX.o ?_;clear hK K;refine qn ?_;refine an (i:=9) zk rfl (fun K hK=> ?_);go_simp;refine (Bh _ _ _).mono ?_;rintro e w1 ⟨rfl,rfl⟩;refine hK _ _ HX.o ?_;clear hK K;refine qn ?_;refine an (i:=10) zk rfl (fun K hK=> ?_);go_simp;obtain ⟨V,hV⟩:=za ((U.alloc (.cells #[qI (FU s.data.toList s'.data.toList),qI (BU a a')] 3)).drew)
 have ai:Below U.drew.heap.size U.drew V:=by rw [hV];exact ⟨rfl,rfl,rfl,((uO U.heap.size U).alloc zg _).size,((uO U.heap.size U).alloc zg (.cells #[qI (FU s.data.toList s'.data.toList),qI (BU a a')] 3)).block⟩
 have hVn:V.heap[U.heap.size]? =some (.cells #[qI (FU s.data.toList s'.data.toList),qI (BU a a')] 3 (0,0)):=xD
 have HV:Aside (∃q os',V=grow (w.drewN q) os'):=by
  exact kn2
 have g0:V.cell? (qB U.heap.size)=some (qI (FU s.data.toList s'.data.toList)):=xq;have g1:V.cell? (qA U.heap.size 1)=some (qI (BU a a')):=xq;rw [<-hV]
 have HY:Aside (V.cell? (qB S)=some (qI a)/\V.cell? (qA S 2)=some (.string s)/\V.cell? (qB (S+1))=some (qI a')/\V.cell? (qA (S+1) 2)=some (.string s')):=⟨oH ai HX.o.1,oH ai HX.o.2.1,oH ai HX.o.2.2.1,oH ai HX.o.2.2.2⟩
 exact kc5
theorem OM(blk off size)(w):CmpLays prog 192 #[] mW 3 zbT blk off size w:=fun _ _ _ _ x y=>Va x y _
theorem zaX:∀args w,(callFunc 192 args).run prog w= .ok (.enter 192 args) w:=enters_of func192 zk rfl
end
section
open RowKit Maps
def JV(x:OpX):Nat:=if mz x=0 then (if x.2.2.2.1=115 then 0 else 5) else mz x
def za1(f:ER)(x:OpX):Bool:=if mz x=0/\x.2.2.2.1=115 then tz f (zca x) (SH x) else false
def WV(w:qW)(bc bm n:Nat)(f:ER)(x:OpX)(w':qW):Prop:=E9 w' bc bm (n+1) (Gw f x)/\m7 (fun j=>j=bm) w w'
theorem Dy{w w'}{bc bm n}{f}{x}(h:E9 w bc bm n f)(hx:¬(mz x=0/\x.2.2.2.1=115))(hb:qL w w'):WV w bc bm n f x w':=by
 have:Gw f x=f:=by unfold Gw;rw [if_neg hx]
 exact ⟨by rw [this];exact (h.later hb).mono (Nat.le_succ n),(lW hb).mono (fun k hk e=>zj)⟩
theorem zch{t b n}{k}{l8 other}{name value:qY}(h:opE t b n k l8 other name.data.toList value.data.toList=0)(hs:name.size<=1000000):WfK (l8,name):=by
 obtain ⟨h1,h2,h3,h4,h5,h6,h7,h8,h9,_⟩:=mP h
 grind [zc7]
theorem Mg{ad}(w)(bc)(t b n)(k)(l8 other)(name value)(hE:U9 ad w)(bO:name.size<=1000000)(dF:value.size<=1000000)(dI:opE t b n k l8 other name.data.toList value.data.toList≠0):
  qC 229 #[qP bc,.agg (qOa t b n k l8 other name value)] w (qR (.tuple #[.bool false,eV ad (opE t b n k l8 other name.data.toList value.data.toList)]) w):=by
 obtain ⟨w1,hw1⟩:=za (w.alloc (qOc t b n k l8 other name value));have B1:qL w w1:=uc;have bH:=mn t b n k l8 other name value w1 (hE.later B1) bO dF
 obtain ⟨er,aB⟩:∃er,Aside (opE t b n k l8 other name.data.toList value.data.toList=er):=⟨_,rfl⟩
 rw [aB.o] at bH dI |-
 unfold eV at bH |-
 rw [if_neg dI] at bH |-
 have H1:Aside (qL w w1):=B1;go_enter func229,ntmps229;go_wp2_with fail;rw [<-hw1];refine bH.mono ?_;rintro e w2 ⟨rfl,hb2⟩;have H2:Aside (qL w w2):=zi H1.o hb2;go_wp2;go_ret2;exact ⟨rfl,H2.o⟩
theorem Rz{ad}(w)(bc)(t b n)(k)(l8 other)(name value)(hE:U9 ad w)(bO:name.size<=1000000)(dF:value.size<=1000000)(dI:opE t b n k l8 other name.data.toList value.data.toList=0)(hk:k≠115):
  qC 229 #[qP bc,.agg (qOa t b n k l8 other name value)] w (qR (.tuple #[.bool false,eV ad 5]) w):=by
 obtain ⟨w1,hw1⟩:=za (w.alloc (qOc t b n k l8 other name value))
 have O1:Q5 w1 w.heap.size t b n k l8 other name value:=by rw [hw1];exact Q5.GA w t b n k l8 other name value 88
 have B1:qL w w1:=uc;have bH:=mn t b n k l8 other name value w1 (hE.later B1) bO dF;rw [dI] at bH;have e0:eV ad 0= .nilIface:=rfl;rw [e0] at bH;have e5:eV ad 5= .iface 437 (.pointer (some (ad 4))):=rfl;rw [e5]
 have H1:Aside (Q5 w1 w.heap.size t b n k l8 other name value/\U9 ad w1/\qL w w1):=⟨O1,hE.later B1,B1⟩
 have dk:((k:Int) !=115)=true:=zl;go_enter func229,ntmps229;go_wp2_with fail;rw [<-hw1];refine bH.mono ?_;rintro e w2 ⟨rfl,hb2⟩;have c3:=(H1.o.1.later hb2).c3;have g4:=(H1.o.2.1.later hb2).c4;have H2:Aside (qL w w2):=zi H1.o.2.2 hb2;go_wp2_with fail;go_quiet (fail);go_wp2;go_ret2;exact ⟨rfl,⟨H2.o.os,H2.o.tape,H2.o.output,H2.o.size,H2.o.block⟩⟩
theorem XH{ad}(w)(bc bm m)(f)(t b n l8 other)(name value)(hE:U9 ad w)(hC:E9 w bc bm m f)(hm:m<=1000000)(bO:name.size<=1000000)(dF:value.size<=1000000)(dI:opE t b n 115 l8 other name.data.toList value.data.toList=0):
  qC 229 #[qP bc,.agg (qOa t b n 115 l8 other name value)] w fun e w'=>e=qT #[.bool (tz f (l8,name) (value,(t,b))),.nilIface]/\Dq w bc bm m f ((l8,name),(value,(t,b))) w':=by
 obtain ⟨w1,hw1⟩:=za (w.alloc (qOc t b n 115 l8 other name value))
 have O1:Q5 w1 w.heap.size t b n 115 l8 other name value:=by rw [hw1];exact Q5.GA w t b n 115 l8 other name value 88
 have B1:qL w w1:=uc;have bH:=mn t b n 115 l8 other name value w1 (hE.later B1) bO dF;have bE:=zch dI bO;rw [dI] at bH;have e0:eV ad 0= .nilIface:=rfl;rw [e0] at bH
 have H1:Aside (Q5 w1 w.heap.size t b n 115 l8 other name value/\E9 w1 bc bm m f/\qL w w1/\WfK (l8,name)):=⟨O1,hC.later B1,B1,bE⟩
 go_enter func229,ntmps229;go_wp2_with fail;rw [<-hw1];refine bH.mono ?_;rintro e w2 ⟨rfl,hb2⟩;obtain ⟨c0,c1,c2,c3,c4,c5,c6,c7⟩:=H1.o.1.later hb2;have hput:=XA w2 bc bm m f l8 name value t b (H1.o.2.1.later hb2) hm H1.o.2.2.2;have H2:Aside (qL w w2):=zi H1.o.2.2.1 hb2;go_wp2_with fail;refine hput.mono ?_;rintro e w3 ⟨rfl,hP⟩
 have HP:Aside (Dq w bc bm m f ((l8,name),(value,(t,b))) w3):=⟨hP.1,(lW H2.o).mono (fun k hk e=>zj) |>.then hP.2 (fun i hi e=>e)⟩
 go_wp2;go_ret2;exact ⟨rfl,HP.o⟩
theorem Ug{ad}(w)(bc bm m)(f)(t b n)(k:Nat)(l8 other)(name value)(hE:U9 ad w)(hC:E9 w bc bm m f)(hm:m<=1000000)(bO:name.size<=1000000)(dF:value.size<=1000000):
  qC 229 #[qP bc,.agg (qOa t b n k l8 other name value)] w fun e w'=>e=qT #[.bool (za1 f (t,b,n,k,l8,other,name,value)),eV ad (JV (t,b,n,k,l8,other,name,value))]/\WV w bc bm m f (t,b,n,k,l8,other,name,value) w':=by
 by_cases h0:opE t b n k l8 other name.data.toList value.data.toList=0
 ·by_cases hk:k=115
  ·subst hk
   have hx:mz (t,b,n,115,l8,other,name,value)=0/\(115:Nat)=115:=⟨h0,rfl⟩
   have e1:za1 f (t,b,n,115,l8,other,name,value)=tz f (l8,name) (value,(t,b)):=by unfold za1;rw [if_pos hx];rfl
   have e2:JV (t,b,n,115,l8,other,name,value)=0:=by unfold JV;rw [if_pos (show mz (t,b,n,115,l8,other,name,value)=0 from h0)];rfl
   have e3:Gw f (t,b,n,115,l8,other,name,value)=Ft f ((l8,name),(value,(t,b))):=by unfold Gw;rw [if_pos hx];rfl
   rw [e1,e2];refine (XH w bc bm m f t b n l8 other name value hE hC hm bO dF h0).mono ?_;rintro e w' ⟨rfl,hP⟩;exact ⟨rfl,by rw [e3];exact hP.1,hP.2⟩
  have hx:¬(mz (t,b,n,k,l8,other,name,value)=0/\k=115):=fun h=>hk h.2
  have e1:za1 f (t,b,n,k,l8,other,name,value)=false:=by unfold za1;rw [if_neg hx]
  have e2:JV (t,b,n,k,l8,other,name,value)=5:=by unfold JV;rw [if_pos (show mz (t,b,n,k,l8,other,name,value)=0 from h0)];exact if_neg hk
  rw [e1,e2];refine (Rz w bc t b n k l8 other name value hE bO dF h0 hk).mono ?_;rintro e w' ⟨rfl,hb⟩;exact ⟨rfl,Dy hC hx hb⟩
 have hx:¬(mz (t,b,n,k,l8,other,name,value)=0/\k=115):=fun h=>h0 h.1
 have e1:za1 f (t,b,n,k,l8,other,name,value)=false:=by unfold za1;rw [if_neg hx]
 have e2:JV (t,b,n,k,l8,other,name,value)=opE t b n k l8 other name.data.toList value.data.toList:=by unfold JV;rw [if_neg (show ¬mz (t,b,n,k,l8,other,name,value)=0 from h0)];rfl
 rw [e1,e2];refine (Mg w bc t b n k l8 other name value hE bO dF h0).mono ?_;rintro e w' ⟨rfl,hb⟩;exact ⟨rfl,Dy hC hx hb⟩
end
section
open RowKit
structure abn (ad:qF) (w:qW):Prop where
 Q1:U9 ad w
 tab:Lib.TabIs prog w "internal/strconv.uint64pow10" .u64 Lib.pow10Tab
theorem abn.later{ad}{w w'}(h:abn ad w)(hb:qL w w'):abn ad w':=⟨h.Q1.later hb,Lib.tabBelow_of_tabIs h.tab _ hb⟩
def X5(w0:qW)(t b n:Int)(k:Nat)(l8 other:Int)(name value:qY)(w':qW):Prop:=w'.cell? (qB w0.heap.size)=some (qI t)/\w'.cell? (qA w0.heap.size 1)=some (qI b)/\w'.cell? (qA w0.heap.size 2)=some (qI n)/\w'.cell? (qA w0.heap.size 3)=some (.int .u8 (k:Int))/\w'.cell? (qA w0.heap.size 4)=some (qI l8)/\w'.cell? (qA w0.heap.size 5)=some (qI other)/\w'.cell? (qA w0.heap.size 6)=some (.string name)/\w'.cell? (qA w0.heap.size 7)=some (.string value)/\Lib.TabIs prog w' "internal/strconv.uint64pow10" .u64 Lib.pow10Tab/\qL w0 w'
theorem X5.later{w0 w w'}{t b n}{k}{l8 other}{name value}(h:X5 w0 t b n k l8 other name value w)(hb:qL w w'):X5 w0 t b n k l8 other name value w':=
 ⟨lT hb h.1,lT hb h.2.1,lT hb h.2.2.1,lT hb h.2.2.2.1,lT hb h.2.2.2.2.1,lT hb h.2.2.2.2.2.1,lT hb h.2.2.2.2.2.2.1,lT hb h.2.2.2.2.2.2.2.1,Lib.tabBelow_of_tabIs h.2.2.2.2.2.2.2.2.1 _ hb,zi h.2.2.2.2.2.2.2.2.2 hb⟩
theorem X5.drew{w0 w}{t b n}{k}{l8 other}{name value}(h:X5 w0 t b n k l8 other name value w):X5 w0 t b n k l8 other name value w.drew:=h.later (uO _ _).drew
theorem X5.GA{w0 w}{t b n}{k}{l8 other}{name value}(h:X5 w0 t b n k l8 other name value w)(o):X5 w0 t b n k l8 other name value (w.alloc o):=h.later (zh _ _)
theorem X5.tab{w0 w}{t b n}{k}{l8 other}{name value}(h:X5 w0 t b n k l8 other name value w):Lib.TabIs prog w "internal/strconv.uint64pow10" .u64 Lib.pow10Tab:=h.2.2.2.2.2.2.2.2.1
theorem zeb(y0 y1 y2 y3 y4 y5 y6 y7)(w:qW)(T)
  (hl:y0.size+y1.size+y2.size+y3.size+y4.size+y5.size+y6.size+y7.size<=100000000):
  qC 104 #[qG w.heap.size 8 8,.string ⟨#[124]⟩] (w.alloc (.cells #[.string y0,.string y1,.string y2,.string y3,.string y4,.string y5,.string y6,.string y7] T)) (qR (.string ⟨(pA 124 [y0.data.toList,y1.data.toList,y2.data.toList,y3.data.toList,y4.data.toList,y5.data.toList,y6.data.toList,y7.data.toList]).toArray⟩) (w.alloc (.cells #[.string y0,.string y1,.string y2,.string y3,.string y4,.string y5,.string y6,.string y7] T))):=by
 have hc:∀(j:Nat) x,([y0,y1,y2,y3,y4,y5,y6,y7]:List ByteArray)[j]? =some x->(w.alloc (.cells #[.string y0,.string y1,.string y2,.string y3,.string y4,.string y5,.string y6,.string y7] T)).cell? (qA w.heap.size (0+j))=some (.string x):=by
  intro j x hx;rw [Ym _ _ _ _ rfl]
  match j,hx with
  | 0,hx=>simp at hx;subst hx;rfl
  | 1,hx=>simp at hx;subst hx;rfl
  | 2,hx=>simp at hx;subst hx;rfl
  | 3,hx=>simp at hx;subst hx;rfl
  | 4,hx=>simp at hx;subst hx;rfl
  | 5,hx=>simp at hx;subst hx;rfl
  | 6,hx=>simp at hx;subst hx;rfl
  | 7,hx=>simp at hx;subst hx;rfl
  | n+8,hx=>simp at hx
 refine (Tryz.strings_Join w.heap.size 0 8 [y0,y1,y2,y3,y4,y5,y6,y7] ⟨#[124]⟩ _ hc zq zq zq ?_).mono ?_
 ·simp [Lib.join_cons,Lib.joinTail];omega
 rintro e w' ⟨rfl,hb⟩;refine ⟨?_,hb⟩;rw [<-Mk];simp
theorem Up(k:Nat)(w)(hk:k=109\/k=105\/k=100\/k=115):Sem.run prog (convert 5 21 (.int .u8 (k:Int))) w= .ok (.int .i32 (k:Int)) w:=by
 rcases hk with rfl | rfl | rfl | rfl<;>kernel_rfl
theorem Vt(k:Nat)(w)(hk:k=109\/k=105\/k=100\/k=115):Sem.run prog (convert 21 9 (.int .i32 (k:Int))) w= .ok (.string ⟨[UInt8.ofNat k].toArray⟩) w:=by
 rcases hk with rfl | rfl | rfl | rfl<;>kernel_rfl
theorem NT(l:qU):(⟨l.toArray⟩:qY).size=l.length:=vY
theorem Pk{ad}(t b n)(k)(l8 other)(name value)(w)(hE:abn ad w)(dI:opE t b n k l8 other name.data.toList value.data.toList=0):
  qC 160 #[.agg (qOa t b n k l8 other name value)] w (qR (.tuple #[.string ⟨(ou t b n k l8 other name.data.toList value.data.toList).toArray⟩,.nilIface]) w):=by
 obtain ⟨h1,h2,h3,h4,h5,h6,hk,h7,h8,h9,kU,-,hn,hv⟩:=mP dI;rw [oq] at hn hv;have O0:=Q5.GA w t b n k l8 other name value 88;have E0:=hE.later ((uO _ _).alloc zg (qOc t b n k l8 other name value));have B0:qL w (w.alloc (qOc t b n k l8 other name value)):=zh _ _
 have q1:=fun w=>Up k w hk
 have q2:=fun w=>Vt k w hk
 have HO:=Lib.hid dI;have HB:Hid ((1<=t/\t<=1073741824)/\(0<=b/\b<4)/\(1<=n/\n<=400)/\(0<=l8/\l8<=4294967299)/\(0<=other/\other<=4294967299)/\name.size<=12/\value.size<=12):=Lib.hid zj;have HL:Hid ((Lib.itoa t).length<=21/\(Lib.itoa b).length<=21/\(Lib.itoa n).length<=21/\(Lib.itoa l8).length<=21/\(Lib.itoa other).length<=21):=Lib.hid ⟨Lib.itoa_length_le _ zj zj,Lib.itoa_length_le _ zj zj,Lib.itoa_length_le _ zj zj,Lib.itoa_length_le _ zj zj,Lib.itoa_length_le _ zj zj⟩;unfold ou;generalize hR:pA 124 [[UInt8.ofNat k],Lib.itoa t,Lib.itoa b,Lib.itoa n,Lib.itoa l8,Lib.itoa other,name.data.toList,Co value.data.toList]=R;have HR:=Lib.hid hR;go_enter func160,ntmps160;go_wp2_with fail
 generalize w.alloc (qOc t b n k l8 other name value)=u at O0 E0 B0 |-
 refine (mn t b n k l8 other name value u E0.Q1 yK yK).mono ?_;rintro e w1 ⟨rfl,hb⟩;rw [HO.o]
 have R1:X5 w t b n k l8 other name value w1:=by
  have O1:=O0.later hb;exact ⟨O1.c0,O1.c1,O1.c2,O1.c3,O1.c4,O1.c5,O1.c6,O1.c7,(E0.later hb).tab,zi B0 hb⟩
 have e0:eV ad 0= .nilIface:=rfl;rw [e0];go_wp2_with fail;obtain ⟨A0,A1,A2,A3,A4,A5,A6,A7,A8,A9⟩:=id R1
 go_region_held3 (fun w'=>w'.cell? (qB w.heap.size)=some (qI t)/\w'.cell? (qA w.heap.size 1)=some (qI b)/\w'.cell? (qA w.heap.size 2)=some (qI n)/\w'.cell? (qA w.heap.size 3)=some (.int .u8 (k:Int))/\w'.cell? (qA w.heap.size 4)=some (qI l8)/\w'.cell? (qA w.heap.size 5)=some (qI other)/\w'.cell? (qA w.heap.size 6)=some (.string name)/\w'.cell? (qA w.heap.size 7)=some (.string value)/\Lib.TabIs prog w' "internal/strconv.uint64pow10" .u64 Lib.pow10Tab/\qL w w')
  (first
   | assumption
   | exact X5.drew ⟨A0,A1,A2,A3,A4,A5,A6,A7,A8,A9⟩
   | exact X5.later yQ yQ
   | exact X5.GA yQ _)
  (first
   | (go_at_call 54;refine (Bz _ yK yK _ (X5.tab yQ)).mono ?_;rintro e w' ⟨rfl,hb⟩)
   | (go_at_call 230;refine (Ij _ _ yK).mono ?_;rintro e w' ⟨rfl,hb⟩)
   | (go_at_call 104;refine (zeb _ _ _ _ _ _ _ _ _ _ (by have hb1:=HB.o;have hl1:=HL.o;have gi:=tM value.data.toList;have gk:=oq value;simp only [NT,Zd,Zt];omega)).mono ?_;rintro e w' ⟨rfl,hb⟩))
 have R2:X5 w t b n k l8 other name value w':=yQ;go_wp2;go_ret2;exact ⟨by rw [<-HR.o];rfl,R2.2.2.2.2.2.2.2.2.2⟩
theorem RZ{ad}(t b n)(k)(l8 other)(name value)(w)(hE:abn ad w)(bO:name.size<=1000000)(dF:value.size<=1000000)(dI:opE t b n k l8 other name.data.toList value.data.toList≠0):
  qC 160 #[.agg (qOa t b n k l8 other name value)] w (qR (.tuple #[.string ⟨#[]⟩,.iface 437 (.pointer (some (ad (opE t b n k l8 other name.data.toList value.data.toList - 1))))]) w):=by
 have O0:=Q5.GA w t b n k l8 other name value 88;have E0:=hE.later ((uO _ _).alloc zg (qOc t b n k l8 other name value));have B0:qL w (w.alloc (qOc t b n k l8 other name value)):=zh _ _
 have hc:=fun u hu=>mn (ad:=ad) t b n k l8 other name value u hu bO dF
 generalize opE t b n k l8 other name.data.toList value.data.toList=c at dI hc |-
 have HC:=Lib.hid hc
 have he:eV ad c= .iface 437 (.pointer (some (ad (c - 1)))):=by unfold eV;rw [if_neg dI]
 have HV:=Lib.hid he;go_enter func160,ntmps160;go_wp2_with fail
 generalize w.alloc (qOc t b n k l8 other name value)=u at O0 E0 B0 |-
 refine (HC.o u E0.Q1).mono ?_;rintro e w1 ⟨rfl,hb⟩;rw [HV.o];have B1:=zi B0 hb;go_wp2;go_ret2;exact ⟨rfl,B1⟩
end
section
open RowKit Lib Go.Sort
abbrev DSt:=qU×Bool×Bool×Int
structure t6 (w:qW) (d:Nat) (v:Value) (st:DSt):Prop where
 cell:w.heap[d]? =some (.cells #[v,.bool st.2.1,.bool st.2.2.1,qI st.2.2.2] 143 (0,0))
 row:Q0 w v st.1
 ne:v.ownBlock≠some d
 left:0<=st.2.2.2/\st.2.2.2<=9223372036854775807
def DA(d:Nat)(v:Value)(k:Nat):Prop:=k=d\/v.ownBlock=some k
theorem t6.lt{w}{d}{v}{st}(h:t6 w d v st):d<w.heap.size:=(uN.1 h.cell).1
theorem t6.aai{w}{d}{v}{st}(h:t6 w d v st){k}(hk:DA d v k):k<w.heap.size:=by
 rcases hk with rfl | hk
 ·exact h.lt
 exact h.row.lt hk
theorem t6.same{w w'}{d}{v}{st}(h:t6 w d v st)(e:∀k,DA d v k->w'.heap[k]? =w.heap[k]?):t6 w' d v st:=
 ⟨(e d (.inl rfl)).trans h.cell,h.row.same (fun g hg=>e g (.inr hg)),h.ne,h.left⟩
theorem t6.later{w w'}{d}{v}{st}(h:t6 w d v st)(hb:qL w w'):t6 w' d v st:=h.same (fun k hk=>hb.block k (h.aai hk))
theorem t6.c{w}{d}{v}{st}(h:t6 w d v st):w.cell? (qB d)=some v/\w.cell? (qA d 1)=some (.bool st.2.1)/\w.cell? (qA d 2)=some (.bool st.2.2.1)/\w.cell? (qA d 3)=some (qI st.2.2.2)/\∀o,w.frozen? (qA d o)=false:=by
 have hc:=h.cell;refine ⟨?_,?_,?_,?_,fun o=> ?_⟩
 ·simp [World.cell?,hc]
 ·simp [World.cell?,hc]
 ·simp [World.cell?,hc]
 ·simp [World.cell?,hc]
 simp [World.frozen?,hc]
theorem t6.abl{w}{d}{v}{B}{off waits}{left}(h:t6 w d v (B,off,waits,left))(z):t6 (w.setCell (qA d 1) (.bool z)) d v (B,z,waits,left)/\m7 (fun k=>k=d) w (w.setCell (qA d 1) (.bool z)):=by
 have hk:=lZ d [.bool z] 1 w;refine ⟨⟨heap_setCell_same w d 1 _ _ _ h.cell,h.row.same (fun g hg=>hk.block g (h.row.lt hg) (fun e=>h.ne xF)),h.ne,h.left⟩,hk⟩
theorem t6.abI{w}{d}{v}{B}{off waits}{left}(h:t6 w d v (B,off,waits,left))(z):t6 (w.setCell (qA d 2) (.bool z)) d v (B,off,z,left)/\m7 (fun k=>k=d) w (w.setCell (qA d 2) (.bool z)):=by
 have hk:=lZ d [.bool z] 2 w;refine ⟨⟨heap_setCell_same w d 2 _ _ _ h.cell,h.row.same (fun g hg=>hk.block g (h.row.lt hg) (fun e=>h.ne xF)),h.ne,h.left⟩,hk⟩
theorem t6.abm{w}{d}{v}{B}{off waits}{left}(h:t6 w d v (B,off,waits,left))(z)(hz:0<=z/\z<=9223372036854775807):t6 (w.setCell (qA d 3) (qI z)) d v (B,off,waits,z)/\m7 (fun k=>k=d) w (w.setCell (qA d 3) (qI z)):=by
 have hk:=lZ d [qI z] 3 w;refine ⟨⟨heap_setCell_same w d 3 _ _ _ h.cell,h.row.same (fun g hg=>hk.block g (h.row.lt hg) (fun e=>h.ne xF)),h.ne,hz⟩,hk⟩
theorem t6.aaW{w}{d}{v v'}{B'}{off waits}{left}(h:w.heap[d]? =some (.cells #[v,.bool off,.bool waits,qI left] 143 (0,0)))(hr:Q0 w v' B')(hn:v'.ownBlock≠some d)(hl:0<=left/\left<=9223372036854775807):t6 (w.setCell (qB d) v') d v' (B',off,waits,left)/\m7 (fun k=>k=d) w (w.setCell (qB d) v'):=by
 have hk:=lZ d [v'] 0 w;refine ⟨⟨heap_setCell_same w d 0 _ _ _ h,hr.same (fun g hg=>hk.block g (hr.lt hg) (fun e=>hn xF)),hn,hl⟩,hk⟩
theorem IT(s)(w)(hs:s.size<=65536):
  qC 29 #[.string s] w fun e w'=>∃d v,e=qT #[qP d,.nilIface]/\Aside (t6 w' d v (s.data.toList,false,false,0)/\qL w w'/\∀k,DA d v k->w.heap.size<=k):=by
 obtain ⟨v,w1,i7,hrow,hb,hv⟩:=VD w s zj;have d1:qlt 65536 s.size=false:=zl
 have H:Aside (Q0 w1 v s.data.toList/\qL w w1/\∀g,v.ownBlock=some g->w.heap.size<=g):=⟨hrow,hb,hv⟩
 obtain ⟨g,cap,aW⟩:=hrow.aag;subst aW;go_enter func29,ntmps29;go_wp2;go_ret2;have hb2:qL w1 (w1.alloc (.cells #[qG g s.data.toList.length cap,.bool false,.bool false,qI 0] 143)):=zh w1 _;refine ⟨w1.heap.size,_,rfl,⟨heap_alloc_new w1 _,H.o.1.same (fun g hg=>hb2.block g (H.o.1.lt hg)),fun e=> ?_,⟨by show (0:Int)<=0;omega,by show (0:Int)<=9223372036854775807;omega⟩⟩,zi H.o.2.1 hb2,fun k hk=> ?_⟩
 ·have:=H.o.1.lt e;omega
 rcases hk with rfl | hk
 ·exact H.o.2.1.size
 exact H.o.2.2 k hk
theorem Sm{d}{v}{st}(w)(h:t6 w d v st):
  qC 121 #[qP d] w fun e w'=>e= .returned (.bool (!st.2.1))/\w'=w:=by
 obtain ⟨c0,c1,c2,c3,cf⟩:=h.c;go_enter func121,ntmps121;exact ka7
theorem Pi{d}{v}{st}(w)(h:t6 w d v st):
  qC 168 #[qP d] w fun e w'=>e= .returned (.string ⟨st.1.toArray⟩)/\w'=w:=by
 obtain ⟨c0,c1,c2,c3,cf⟩:=h.c;have i7:=h.row.P9;obtain ⟨g,cap,hv⟩:=h.row.aag;subst hv;go_enter func168,ntmps168;exact ka7
theorem zcM{d}{v}{B}{off waits}{left}(w)(h:t6 w d v (B,off,waits,left)):
  qC 166 #[qP d] w fun e w'=>(∃u,e= .returned u)/\Aside (t6 w' d v (B,false,false,left)/\m7 (fun k=>k=d) w w'):=by
 obtain ⟨c0,c1,c2,c3,cf⟩:=h.c;dsimp only at c1 c2 c3;have H:Aside (t6 w d v (B,off,waits,left)):=h;go_enter func166,ntmps166;go_wp2;go_end0;have h1:=H.o.abl false;have h2:=h1.1.abI false;exact ⟨⟨_,rfl⟩,h2.1,h1.2.trans h2.2⟩
structure zeh (ad:qF) (w:qW):Prop where
 c1:w.cell? (qB 0)=some (.iface 437 (.pointer (some (ad 1))))
 c2:w.cell? (qB 2)=some (.iface 437 (.pointer (some (ad 2))))
 c7:w.cell? (qB 7)=some (.iface 437 (.pointer (some (ad 7))))
 c10:w.cell? (qB 10)=some (.iface 437 (.pointer (some (ad 10))))
def JS(off:Bool)(n:Int):Nat:=if n<0 then 2 else if off then 11 else 0
def BH(st:DSt)(n:Int):DSt:=if JS st.2.1 n=0 then (st.1,st.2.1,true,n) else st
theorem Xk{ad}{d}{v}{B}{off waits}{left}(w)(n)(h:t6 w d v (B,off,waits,left))(hE:zeh ad w)(hn:n<=9223372036854775807):
  qC 91 #[qP d,qI n] w fun e w'=>e= .returned (eV ad (JS off n))/\Aside (t6 w' d v (BH (B,off,waits,left) n)/\m7 (fun k=>k=d) w w'):=by
 obtain ⟨c0,c1,c2,c3,cf⟩:=h.c;dsimp only at c1 c2 c3;have H:Aside (t6 w d v (B,off,waits,left)):=h;have hp:=Sm w h;dsimp only at hp;have e1:=hE.c1;have e10:=hE.c10;by_cases h0:n<0
 ·have d0:decide (n<0)=true:=by simp;omega
  have ec:JS off n=2:=if_pos h0;have HC:Aside (JS off n=2):=ec;rw [ec];go_enter func91,ntmps91;exact km1
 have d0:decide (n<0)=false:=zl
 cases off with
 | true=>
  have HC:Aside (JS true n=11):=by unfold JS;rw [if_neg h0];rfl
  rw [HC.o];go_enter func91,ntmps91;go_wp2_with fail;refine hp.mono ?_;rintro e w1 ⟨rfl,rfl⟩;exact km1
 | false=>
  have HC:Aside (JS false n=0):=by unfold JS;rw [if_neg h0];rfl
  rw [HC.o];go_enter func91,ntmps91;go_wp2_with fail;refine hp.mono ?_;rintro e w1 ⟨rfl,rfl⟩;go_wp2;go_ret;have h1:=H.o.abI true;have h2:=h1.1.abm n ⟨zj,hn⟩;refine ⟨rfl,?_,h1.2.trans h2.2⟩;unfold BH;rw [HC.o];exact h2.1
def wr1(st:DSt)(c:UInt8):Bool×DSt:=if st.2.2.1=true/\st.2.2.2=0 then (false,(st.1,true,false,st.2.2.2)) else if st.2.1=true then (false,st) else (true,(st.1++ [c],st.2.1,st.2.2.1,if st.2.2.1=true then st.2.2.2 - 1 else st.2.2.2))
def E4(d:Nat)(v:Value)(w:qW)(st':DSt)(w':qW):Prop:=∃v',t6 w' d v' st'/\m7 (DA d v) w w'/\∀g,v'.ownBlock=some g->v.ownBlock=some g\/w.heap.size<=g
theorem QY{w w2}{d}{v v2}{B}{off waits}{left}{c}{o}(h:t6 w d v (B,off,waits,left))(hr:Q0 w2 v2 (B++ [c]))(hg:(w.alloc o).grownBy w2 v.ownBlock)(hv:∀g,v2.ownBlock=some g->v.ownBlock=some g\/(w.alloc o).heap.size<=g):t6 (w2.setCell (qB d) v2) d v2 (B++ [c],off,waits,left)/\m7 (DA d v) w (w2.setCell (qB d) v2)/\∀g,v2.ownBlock=some g->v.ownBlock=some g\/w.heap.size<=g:=by
 have hd:w2.heap[d]? =some (.cells #[v,.bool off,.bool waits,qI left] 143 (0,0)):=by
  have h1:=uT w o d h.lt;rw [(lS hg).block d (by simp;have:=h.lt;omega) (fun e=>h.ne e.symm),h1];exact h.cell
 have hn:v2.ownBlock≠some d:=fun e=>by
  rcases hv d e with q | q
  ·exact h.ne q
  have:=h.lt;simp at q;omega
 have h1:=t6.aaW hd hr hn h.left;refine ⟨h1.1,?_,fun g e=>(hv g e).imp id (fun q=>by simp at q;omega)⟩;have k1:m7 (DA d v) w w2:=((m7.refl _ w).alloc o).trans ((lS hg).mono (fun k _ e=>.inr e.symm))
 exact k1.then h1.2 (fun i _ e=>.inl e)
theorem Lp{d}{v}{B}{off waits}{left}(w)(c)(h:t6 w d v (B,off,waits,left))(hB:B.length<1000000):
  qC 162 #[qP d,.int .u8 (c.toNat:Int)] w fun e w'=>e= .returned (.bool (wr1 (B,off,waits,left) c).1)/\Aside (E4 d v w (wr1 (B,off,waits,left) c).2 w'):=by
 obtain ⟨c0,c1,c2,c3,cf⟩:=h.c;dsimp only at c1 c2 c3;have ku:=h.left;dsimp only at ku;have H:Aside (t6 w d v (B,off,waits,left)):=h;obtain ⟨g,cap,aW⟩:=h.row.aag;dsimp only at aW
 obtain ⟨o,ho⟩:∃o:Obj,Aside (o= .cells #[.int .u8 (c.toNat:Int)] 5):=⟨_,rfl⟩
 have hrA:Q0 (w.alloc o) v B:=h.row.same (fun k hk=>uT w o k (h.row.lt hk))
 have dN:(w.alloc o).cell? (qB w.heap.size)=some (.int .u8 (c.toNat:Int)):=by
  have:=heap_alloc_new w o;unfold World.cell?;dsimp only;rw [this,ho.o];rfl
 obtain ⟨v2,w2,ae,hr2,hg2,dh⟩:=NA hrA (qB w.heap.size) 141 c dN hB;have HL:Aside (t6 (w2.setCell (qB d) v2) d v2 (B++ [c],off,waits,left)/\m7 (DA d v) w (w2.setCell (qB d) v2)/\∀g,v2.ownBlock=some g->v.ownBlock=some g\/w.heap.size<=g):=QY h hr2 hg2 dh
 have kF:w2.heap[d]? =some (.cells #[v,.bool off,.bool waits,qI left] 143 (0,0)):=by
  have h1:=uT w o d h.lt;rw [(lS hg2).block d (by simp;have:=h.lt;omega) (fun e=>h.ne e.symm),h1];exact h.cell
 obtain ⟨g2,cap2,hvs2⟩:=hr2.aag;rw [show (B++ [c]).length=B.length+1 by simp] at hvs2;have y0:w2.cell? (qB d)=some v:=vZ;have y2:w2.cell? (qA d 2)=some (.bool waits):=vZ;have y3:w2.cell? (qA d 3)=some (qI left):=vZ
 have yf:∀o,w2.frozen? (qA d o)=false:=fun o=>by simp [World.frozen?,kF]
 rw [ho.o] at ae;subst aW;subst hvs2
 cases waits with
 | true=>
  by_cases h0:left=0
  ·subst h0
   have HW:Aside (wr1 (B,off,true,0) c=(false,(B,true,false,0))):=by unfold wr1;rfl
   rw [HW.o];go_enter func162,ntmps162;go_wp2;go_ret;have h1:=H.o.abl true;have h2:=h1.1.abI false;exact ⟨rfl,_,h2.1,(h1.2.trans h2.2).mono (fun k _ e=>.inl e),fun g hg=>.inl hg⟩
  have d0:(left==0)=false:=xn
  cases off with
  | true=>
   have HW:Aside (wr1 (B,true,true,left) c=(false,(B,true,true,left))):=by
    show wr1 (B,true,true,left) c=_
    unfold wr1;simp [h0]
   exact kj2
  | false=>
   have HW:Aside (wr1 (B,false,true,left) c=(true,(B++ [c],false,true,left - 1))):=by
    show wr1 (B,false,true,left) c=_
    unfold wr1;simp [h0]
   rw [HW.o];have hw1:IntKind.i64.wrap (left - 1)=left - 1:=zw;go_enter func162,ntmps162;go_wp2_with (at_builtin;refine Lib.wpList_append_run _ rfl _ _ _ _ rfl _ _ rfl rfl _ _ ae ?_);go_ret;have h1:=HL.o.1.abm (left - 1) zj;exact ⟨rfl,_,h1.1,HL.o.2.1.then h1.2 (fun k _ e=>.inl e),HL.o.2.2⟩
 | false=>
  cases off with
  | true=>
   have HW:Aside (wr1 (B,true,false,left) c=(false,(B,true,false,left))):=by
    show wr1 (B,true,false,left) c=_
    unfold wr1;simp
   exact kj2
  | false=>
   have HW:Aside (wr1 (B,false,false,left) c=(true,(B++ [c],false,false,left))):=by
    show wr1 (B,false,false,left) c=_
    unfold wr1;simp
   rw [HW.o];go_enter func162,ntmps162;go_wp2_with (at_builtin;refine Lib.wpList_append_run _ rfl _ _ _ _ rfl _ _ rfl rfl _ _ ae ?_);go_ret;exact ⟨rfl,_,HL.o.1,HL.o.2.1,HL.o.2.2⟩
def Iw(x:OpX):Value:=.agg #[.int .i64 x.1,.int .i64 x.2.1,.int .i64 x.2.2.1,.int .u8 (x.2.2.2.1:Int),.int .i64 x.2.2.2.2.1,.int .i64 x.2.2.2.2.2.1,.string x.2.2.2.2.2.2.1,.string x.2.2.2.2.2.2.2]
structure aaz (ad:qF) (w:qW):Prop where
 txt:abn ad w
 aaX:zeh ad w
 deb:DeB w
 et:w.cell? (qB 1)=some (.iface 437 (.pointer (some (ad 0))))
 mx:∃m:Int,w.cell? (qB 14)=some (qI m)
structure O8 (B:Nat) (ad:Nat->Addr) (w:World):Prop where
 size:B<=w.heap.size
 all:∀w',Below B w w'->aaz ad w'
theorem O8.mono{B}{ad}{w w'}(h:O8 B ad w)(hb:Below B w w'):O8 B ad w':=⟨uQ h.size hb.size,fun w'' h'=>h.all w'' (hb.trans h')⟩
theorem O8.later{B}{ad}{w w'}(h:O8 B ad w)(hb:qL w w'):O8 B ad w':=h.mono (hb.mono h.size)
theorem O8.H{B}{ad}{w}(h:O8 B ad w):aaz ad w:=h.all w (uO _ _)
theorem O8.up{B B'}{ad}{w}(h:O8 B ad w)(hB:B<=B')(hs:B'<=w.heap.size):O8 B' ad w:=⟨hs,fun w' h'=>h.all w' (h'.mono hB)⟩
def od:DSt->List UInt8->Bool×DSt
 | st,[]=>(true,st)
 | st,c::l=>if (wr1 st c).1=true then od (wr1 st c).2 l else (false,(wr1 st c).2)
def pJ(st:DSt)(x:OpX):Nat×DSt:=if wR x≠0 then (wR x,st) else if 65536<st.1.length+(nE (mO x)).length then (8,st) else if (od st (nE (mO x))).1=true then (0,(od st (nE (mO x))).2) else (11,(od st (nE (mO x))).2)
theorem zbe(st)(c):(wr1 st c).2.1.length<=st.1.length+1:=by
 grind [wr1]
theorem E4.start{d}{v}{w}{st}(h:t6 w d v st):E4 d v w st w:=⟨v,h,m7.refl _ _,fun g hg=>.inl hg⟩
theorem E4.later{d}{v}{w W W'}{st}(h:E4 d v w st W)(hb:qL W W'):E4 d v w st W':=by
 obtain ⟨v',h1,h2,h3⟩:=h;exact ⟨v',h1.later hb,h2.then (lW hb) (fun i hi q=>by have:=h2.size;omega),h3⟩
theorem E4.from{d}{v}{w W W'}{st}(hb:Below w.heap.size w W)(hd:t6 w d v st){st'}(h:E4 d v W st' W'):E4 d v w st' W':=by
 obtain ⟨v',h1,h2,h3⟩:=h;refine ⟨v',h1,?_,fun g hg=>(h3 g hg).imp id (fun q=>uQ hb.size q)⟩
 exact ((lW hb).mono (fun k hk q=>zj)).then h2 (fun i _ q=>q)
theorem E4.next{d}{v}{w W W'}{st st'}(h:E4 d v w st W)(k:∀v',t6 W d v' st->E4 d v' W st' W'):E4 d v w st' W':=by
 obtain ⟨v',h1,h2,h3⟩:=h;obtain ⟨v2,k1,k2,k3⟩:=k v' h1;refine ⟨v2,k1,h2.then k2 (fun i hi q=> ?_),fun g hg=> ?_⟩
 ·rcases q with rfl | q
  ·exact .inl rfl
  rcases h3 i q with e | e
  ·exact .inr e
  omega
 rcases k3 g hg with e | e
 ·exact h3 g e
 exact .inr (uQ h2.size e)
theorem E4.m8{d}{v}{w W}{st}{B}(h:E4 d v w st W)(hB:B<=w.heap.size)(hO:∀k,DA d v k->B<=k):Below B w W:=by
 obtain ⟨v',h1,h2,h3⟩:=h;exact h2.m8 hB hO
theorem E4.L4{d}{v}{w W}{st}{B}(h:E4 d v w st W)(hB:B<=w.heap.size)(hO:∀k,DA d v k->B<=k):∃v',t6 W d v' st/\(∀k,DA d v' k->B<=k)/\m7 (DA d v) w W:=by
 obtain ⟨v',h1,h2,h3⟩:=h;refine ⟨v',h1,fun k hk=> ?_,h2⟩
 rcases hk with rfl | hk
 ·exact hO k (.inl rfl)
 rcases h3 k hk with e | e
 ·exact hO k (.inr e)
 omega
theorem Do{B:Nat}{ad:Nat->Addr}{d:Nat}{v:Value}{st:DSt}(w:World)(x:OpX)(hD:t6 w d v st)(hE:O8 B ad w)(hO:∀k,DA d v k->B<=k)(aG:x.2.2.2.2.2.2.1.size<=1000000)(aN:x.2.2.2.2.2.2.2.size<=1000000)(hB:st.1.length<=65536):
  Calls prog 117 #[.pointer (some ⟨d,0,none⟩),Iw x] w fun e w'=>e= .returned (eV ad (pJ st x).1)/\Aside (E4 d v w (pJ st x).2 w'):=by
 obtain ⟨t,b,n,kd,nd,o,s,vl⟩:=x;dsimp only at aG aN
 obtain ⟨x,hx⟩:∃x:OpX,Aside (x=(t,b,n,kd,nd,o,s,vl)):=⟨_,rfl⟩
 have ex:(t,b,n,kd,nd,o,s,vl)=x:=hx.o.symm;obtain ⟨U,hU⟩:=ze (w.alloc (.cells #[.int .i64 t,.int .i64 b,.int .i64 n,.int .u8 (kd:Int),.int .i64 nd,.int .i64 o,.string s,.string vl] 88));have ah:Below w.heap.size w U:=yC
 have HD:Aside (t6 w d v st/\t6 U d v st/\O8 B ad w/\O8 B ad U/\(∀k,DA d v k->B<=k)/\Below w.heap.size w U):=⟨hD,hD.later ah,hE,hE.later ah,hO,ah⟩
 by_cases aF:wR x=0
 case neg=>
  have fp:=RZ t b n kd nd o s vl U HD.o.2.2.2.1.H.txt aG aN (by rw [hx.o] at aF;exact aF)
  have HA:Aside (pJ st x=(wR x,st)/\eV ad (wR x)= .iface 437 (.pointer (some (ad (wR x - 1))))):=⟨by unfold pJ;rw [if_pos aF],if_neg aF⟩
  have e0:opE t b n kd nd o s.data.toList vl.data.toList=wR x:=by rw [hx.o];rfl
  rw [e0] at fp;obtain ⟨ea,hea⟩:=ze (ad (wR x - 1));rw [<-hea.o] at fp HA;rw [ex];rw [HA.o.1];dsimp only;rw [HA.o.2,hx.o];unfold Iw;dsimp only;go_enter func117,ntmps117;go_wp2_with fail;rw [<-hU.o];refine fp.mono ?_;rintro e w1 ⟨rfl,hb1⟩
  have HW:Aside (E4 d v w st w1):=((E4.start HD.o.2.1).later hb1).from HD.o.2.2.2.2.2 HD.o.1
  go_wp2;go_ret;exact ⟨rfl,HW.o⟩
 have fp:=Pk t b n kd nd o s vl U HD.o.2.2.2.1.H.txt (by rw [hx.o] at aF;exact aF)
 have e0:ou t b n kd nd o s.data.toList vl.data.toList=mO x:=by rw [hx.o];rfl
 rw [e0] at fp
 obtain ⟨tx,htx2⟩:∃tx:ByteArray,Aside (tx=⟨(mO x).toArray⟩):=⟨_,rfl⟩
 rw [<-htx2.o] at fp
 have aV:tx.data.toList=mO x:=by rw [htx2.o]
 have iQ:tx.size<=1000:=by
  have:=rb aF;rw [<-aV] at this;exact ko1
 obtain ⟨g,cap,aW⟩:=HD.o.1.row.aag;have HX:Aside (wR x=0):=aF;rw [ex]
 obtain ⟨cd,sx,hcs⟩:∃cd sx,Aside (pJ st x=(cd,sx)):=⟨(pJ st x).1,(pJ st x).2,rfl⟩
 rw [hcs.o];unfold Iw;rw [hx.o];dsimp only;go_enter func117,ntmps117;go_wp2_with fail;rw [<-hU.o];refine fp.mono ?_;rintro e w1 ⟨rfl,hb1⟩;have hD1:=HD.o.2.1.later hb1;have ee:=HD.o.2.2.2.1.later hb1;have hrc:=Dw tx w1 zj ee.H.deb;go_wp2_with fail;refine hrc.mono ?_;rintro e w2 ⟨r,hr,rfl,hb2⟩;have hD2:=hD1.later hb2;have cu:Below w.heap.size w w2:=HD.o.2.2.2.2.2.trans ((zi hb1 hb2).mono HD.o.2.2.2.2.2.size);rw [aV] at hr
 have H2:Aside (t6 w2 d v st/\O8 B ad w2/\Below w.heap.size w w2/\r.data.toList=nE (mO x)):=⟨hD2,ee.later hb2,cu,hr⟩
 have hrs:r.size=(nE (mO x)).length:=by rw [<-hr];simp
 have hr1:r.size<=1010:=by
  rw [hrs,nG];have:=rb HX.o;omega
 obtain ⟨c0,c1,c2,c3,cf⟩:=hD2.c;rw [aW] at c0;have e7:=(ee.later hb2).H.aaX.c7;have HRS:Aside (r.size=(nE (mO x)).length):=hrs;clear hb1 hb2 hD1 hD2 ee cu hr c1 c2 c3 cf hrs aV aW
 obtain ⟨lm,gV⟩:∃lm:Nat,Aside (lm=st.1.length+r.size):=⟨_,rfl⟩
 have hwr:IntKind.i64.wrap ((st.1.length:Int)+(r.size:Int))=(lm:Int):=by rw [IntKind.wrap_i64,gV.o];omega
 by_cases eP:65536<st.1.length+r.size
 ·have d1:decide ((65536:Int)<(lm:Int))=true:=by have:=gV.o;simp;omega
  have dg:decide (65536<lm)=true:=vA
  have HA:Aside (eV ad cd= .iface 437 (.pointer (some (ad 7)))/\E4 d v w sx w2):=by
   have ha:pJ st x=(8,st):=by
    unfold pJ;rw [if_neg (fun q=>q HX.o),if_pos (by rw [<-HRS.o];exact eP)]
   rw [hcs.o] at ha
   cases ha
   exact ⟨rfl,(E4.start H2.o.1).from H2.o.2.2.1 HD.o.1⟩
  go_wp2;go_ret;exact ⟨by rw [HA.o.1];rfl,HA.o.2⟩
 have d1:decide ((65536:Int)<(lm:Int))=false:=vA;have dg:decide (65536<lm)=false:=vA
 have HA:Aside (∀z st',od st (nE (mO x))=(z,st')->(z=true->cd=0/\sx=st')/\(z=false->cd=11/\sx=st')):=fun z st' hz=>by
  have ha:pJ st x=if (od st (nE (mO x))).1=true then (0,(od st (nE (mO x))).2) else (11,(od st (nE (mO x))).2):=by
   unfold pJ;rw [if_neg (fun q=>q HX.o),if_neg (by rw [<-HRS.o];exact eP)]
  rw [hcs.o,hz] at ha;refine ⟨fun q=> ?_,fun q=> ?_⟩
  ·subst q;cases ha;exact ⟨rfl,rfl⟩
  subst q;cases ha;exact ⟨rfl,rfl⟩
 go_wp2;go_loopg [34] r.size (fun kx s34 W=>∃(k:Nat) (sk:DSt),s34= .int .i64 (k:Int)/\k<=r.size/\r.size - k<=kx/\Aside (E4 d v w2 sk W/\od st (nE (mO x))=od sk ((nE (mO x)).drop k)/\sk.1.length<=st.1.length+k))
 case atStart=>exact ⟨0,st,rfl,uW _,uM _,E4.start H2.o.1,rfl,uM _⟩
 case round=>
  obtain ⟨k,sk,rfl,hk,aY,A⟩:=hrel;by_cases hlt:k<r.size
  ·have d2:decide ((k:Int)<(r.size:Int))=true:=by simp;omega
   have d2n:decide (k<r.size)=true:=zl;obtain ⟨vk,hDk,-,-⟩:=A.o.1.L4 H2.o.2.1.size HD.o.2.2.2.2.1;obtain ⟨Bk,ofk,wtk,lfk⟩:=sk
   obtain ⟨ch,kG⟩:∃ch:UInt8,Aside (ch=r[k]):=⟨r[k],rfl⟩
   obtain ⟨z,sn,j8⟩:∃z sn,Aside (wr1 (Bk,ofk,wtk,lfk) ch=(z,sn)):=⟨_,_,rfl⟩
   have hwb:Calls prog 162 #[.pointer (some ⟨d,0,none⟩),.int .u8 (r[k].toNat:Int)] wr fun e w'=>e= .returned (.bool z)/\Aside (E4 d v w2 sn w'):=by
    obtain ⟨vk,hDk,h2,h3⟩:=A.o.1;refine (Lp wr r[k] hDk (by have:=A.o.2.2;show Bk.length<1000000;dsimp only at this;omega)).mono ?_;rintro e w' ⟨he,H⟩;rw [<-kG.o,j8.o] at he H;refine ⟨he,E4.next ⟨vk,hDk,h2,h3⟩ (fun v'' hv''=> ?_)⟩
    have:v''=vk:=by
     have e1:=hDk.cell;rw [hv''.cell] at e1;simpa using e1
    rw [this];exact H.o
   have hdr:(nE (mO x)).drop k=ch::(nE (mO x)).drop (k+1):=by
    have:=rk r k hlt;rw [H2.o.2.2.2] at this;rw [kG.o];exact this
   have HW:Aside (od st (nE (mO x))=if z=true then od sn ((nE (mO x)).drop (k+1)) else (false,sn)):=by
    show _=_
    rw [A.o.2.1,hdr,od,j8.o]
   have HL:Aside (sn.1.length<=st.1.length+(k+1)):=by
    have:=zbe (Bk,ofk,wtk,lfk) ch;rw [j8.o] at this;have h3:=A.o.2.2
    show sn.1.length<=_
    dsimp only at this h3;omega
   go_wp2_with fail;refine hwb.mono ?_;rintro e w3 ⟨rfl,H3⟩
   cases z with
   | true=>
    have HR:Aside (E4 d v w2 sn w3/\od st (nE (mO x))=od sn ((nE (mO x)).drop (k+1))/\sn.1.length<=st.1.length+(k+1)):=⟨H3.o,HW.o,HL.o⟩
    go_wp2;go_roundg (r.size - (k+1))
    case measure=>omega
    case rel=>exact ⟨k+1,sn,zJ,zj,uM _,HR.o⟩
   | false=>
    have hc:=(HA.o false sn HW.o).2 rfl;have e10:=(H2.o.2.1.mono (H3.o.m8 H2.o.2.1.size HD.o.2.2.2.2.1)).H.aaX.c10
    have HF:Aside (eV ad cd= .iface 437 (.pointer (some (ad 10)))/\E4 d v w sx w3):=by
     refine ⟨by rw [hc.1];rfl,?_⟩;rw [hc.2]
     exact E4.from H2.o.2.2.1 HD.o.1 H3.o
    go_wp2;go_ret;exact ⟨by rw [HF.o.1];rfl,HF.o.2⟩
  have d2:decide ((k:Int)<(r.size:Int))=false:=zl;have d2n:decide (k<r.size)=false:=zl
  have HF:Aside (eV ad cd= .nilIface/\E4 d v w sx wr):=by
   have hd:(nE (mO x)).drop k= []:=by
    rw [List.drop_eq_nil_iff,<-HRS.o];omega
   have hw:=A.o.2.1;rw [hd] at hw;have hc:=(HA.o true sk hw).1 rfl;refine ⟨by rw [hc.1];rfl,?_⟩;rw [hc.2]
   exact E4.from H2.o.2.2.1 HD.o.1 A.o.1
  go_wp2;go_ret;exact ⟨by rw [HF.o.1];rfl,HF.o.2⟩
end
section
open ChangeShapes WideShapes ChangeAt RowKit Joins
def Qt:List Int:=[0,1,56,2,57,49,28,3,61,58,42,50,38,29,17,4,62,47,59,36,45,43,51,22,53,39,33,30,24,18,12,5,63,55,48,27,60,41,37,16,46,35,44,21,52,32,23,11,54,26,40,15,34,20,31,10,25,14,19,9,13,8,7,6]
theorem gDeb:prog.globalNamed "math/bits.deBruijn64tab" =some 18:=zk
theorem tDeb:(prog.globals[18]?).map (·.type)=some 406:=zk
theorem Tz:prog.cellsOf 406=64:=zk
theorem zah:prog.cellsOf 5=1:=zk
theorem zax{W}(h:Lib.VarReads prog W "math/bits.deBruijn64tab" (Lib.tabData .u8 Qt)):Lib.TabIs prog W "math/bits.deBruijn64tab" .u8 Qt:=by
 obtain ⟨g,t,cs,fuel,p,hg,ht,dU,hd⟩:=h;obtain rfl:=Option.some.inj (gDeb.symm.trans hg);obtain rfl:=Option.some.inj (tDeb.symm.trans ht);unfold Lib.TabIs;rw [dU,<-Lib.cells_of_tab underlying406 underlying5 zah Tz hd]
theorem zce{W}(h:Lib.VarReads prog W "math/bits.deBruijn64tab" Rows.laid_math_bits_deBruijn64tab):DeB W:=by
 have h':Lib.VarReads prog W "math/bits.deBruijn64tab" (Lib.tabData .u8 Qt):=h;have ht:=zax h';unfold Lib.TabIs at ht;exact (YV gDeb ht 15).trans (show _=some (Value.int .u8 4) by kernel_rfl)
theorem aaz.later{ad}{w w'}(h:aaz ad w)(hb:qL w w'):aaz ad w':=by
 obtain ⟨m,hm⟩:=h.mx;exact ⟨h.txt.later hb,⟨lT hb h.aaX.c1,lT hb h.aaX.c2,lT hb h.aaX.c7,lT hb h.aaX.c10⟩,h.deb.later hb,lT hb h.et,m,lT hb hm⟩
theorem zbl{ad}{w}(h:aaz ad w):O8 w.heap.size ad w:=⟨uM _,fun _ hb=>h.later hb⟩
end
section
section
open RowKit
theorem NM(s:qY):mr s.data.toList=(s.data.toList.all oU &&(decide (1<=(s.size:Int)) &&decide ((s.size:Int)<=12))):=by
 have hl:s.data.toList.length=s.size:=zq;unfold mr
 grind
theorem Od(s)(w)(hs:s.size<=1000000):
  qC 18 #[.string s] w fun e w'=>e= .returned (.bool (mr s.data.toList))/\w'=w:=by
 rw [NM];generalize hR:s.data.toList.all oU=R;have HR:=Lib.hid hR;generalize hQ:(R &&(decide (1<=(s.size:Int)) &&decide ((s.size:Int)<=12)))=Q;have HQ:=Lib.hid hQ;go_enter func18,ntmps18;go_wp2;go_loop [3] (fun i=>∃k:Nat,k<=s.size/\i=qI k/\Hid ((s.data.toList.drop k).all oU=R)) (fun i=>s.size - (intOf i).toNat)
 case atStart=>exact ⟨0,uW _,rfl,Lib.hid yY⟩
 case round=>
  obtain ⟨k,hk,rfl,HD⟩:=hrel;by_cases hlt:k<s.size
  ·have hd:qlt k s.size=true:=by simp;omega
   have HA:=Lib.hid ((QM s oU k hlt).symm.trans HD.o)
   rcases (by omega:122<s[k].toNat\/(97<=s[k].toNat/\s[k].toNat<=122)\/(57<s[k].toNat/\s[k].toNat<97)\/(48<=s[k].toNat/\s[k].toNat<=57)\/s[k].toNat=46\/s[k].toNat=45\/(s[k].toNat<48/\s[k].toNat≠46/\s[k].toNat≠45)) with h | h | h | h | h | h | h
   ·have hb:oU s[k]=false:=by unfold oU;rw [decide_eq_false zj]
    have d1:decide ((s[k].toNat:Int)<=122)=false:=zl;have d0:decide (97<=(s[k].toNat:Int))=true:=zl;have d3:decide (48<=(s[k].toNat:Int))=true:=zl;have d2:decide ((s[k].toNat:Int)<=57)=false:=zl;exact kc1
   ·have hb:oU s[k]=true:=by unfold oU;rw [decide_eq_true zj]
    have d0:decide (97<=(s[k].toNat:Int))=true:=zl;have d1:decide ((s[k].toNat:Int)<=122)=true:=zl;have HE:=Lib.hid yc;go_wp2;go_round
    case rel=>exact ⟨k+1,zj,zJ,HE⟩
    case measure=>simp [intOf];omega
   ·have hb:oU s[k]=false:=by unfold oU;rw [decide_eq_false zj]
    have d0:decide (97<=(s[k].toNat:Int))=false:=zl;have d3:decide (48<=(s[k].toNat:Int))=true:=zl;have d2:decide ((s[k].toNat:Int)<=57)=false:=zl;exact kc1
   ·have hb:oU s[k]=true:=by unfold oU;rw [decide_eq_true zj]
    have d0:decide (97<=(s[k].toNat:Int))=false:=zl;have d3:decide (48<=(s[k].toNat:Int))=true:=zl;have d2:decide ((s[k].toNat:Int)<=57)=true:=zl;have HE:=Lib.hid yc;go_wp2;go_round
    case rel=>exact ⟨k+1,zj,zJ,HE⟩
    case measure=>simp [intOf];omega
   ·have hb:oU s[k]=true:=by unfold oU;rw [decide_eq_true zj]
    have d0:decide (97<=(s[k].toNat:Int))=false:=zl;have d3:decide (48<=(s[k].toNat:Int))=false:=zl;have e1:((s[k].toNat:Int)==45)=false:=zl;have e2:((s[k].toNat:Int)==46)=true:=zl;have HE:=Lib.hid yc;go_wp2;go_round
    case rel=>exact ⟨k+1,zj,zJ,HE⟩
    case measure=>simp [intOf];omega
   ·have hb:oU s[k]=true:=by unfold oU;rw [decide_eq_true zj]
    have d0:decide (97<=(s[k].toNat:Int))=false:=zl;have d3:decide (48<=(s[k].toNat:Int))=false:=zl;have e1:((s[k].toNat:Int)==45)=true:=zl;have HE:=Lib.hid yc;go_wp2;go_round
    case rel=>exact ⟨k+1,zj,zJ,HE⟩
    case measure=>simp [intOf];omega
   have hb:oU s[k]=false:=by unfold oU;rw [decide_eq_false zj]
   have d0:decide (97<=(s[k].toNat:Int))=false:=zl;have d3:decide (48<=(s[k].toNat:Int))=false:=zl;exact kc1
  have hd:qlt k s.size=false:=zl;have HE:Hid (R=true):=Lib.hid uF;by_cases h1:1<=s.size
  ·have d1:decide (1<=(s.size:Int))=true:=by simp;omega
   go_wp2;go_ret;exact ⟨by rw [<-HQ.o,HE.o,d1];rfl,rfl⟩
  have d1:decide (1<=(s.size:Int))=false:=zl;go_wp2;go_ret;exact ⟨by rw [<-HQ.o,HE.o,d1];rfl,rfl⟩
end
section
open RowKit
end
section
open RowKit

end