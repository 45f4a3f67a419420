import Derived.Test.YtjclejjkganhfaaGreatDoorSR02
import Derived.Test.YtjclejjkganhfaaGreatDoorSR03
import Derived.Test.YtjclejjkganhfaaGreatDoorSR04
import Derived.Shelf.Spec.SlicesInsertGrow
import Derived.Lib.AppendZerosOnto
import Derived.Laws.NewBlocks
import Derived.Sort.Grow
import Derived.Lib.AppendZeros
set_option linter.unusedSimpArgs false
set_option linter.unusedVariables false
set_option maxRecDepth 100000
set_option maxHeartbeats 64000000
namespace Go.Proofs.YtjclejjkganhfaaGreatDoor
open Go.Proofs.Tryz
section
open Shelf RowKit Lib
theorem Ij:(prog.info? 334).map (fun i=>(i.zero,i.size,i.bytes))=some (some (.agg #[qI 0,.int .u8 0,.bool false]),3,16):=zk
def IK(w:qW)(l9:Nat)(v:Value)(n:Nat)(ys:List Value)(e:Ending)(w':qW):Prop:=
 ∃v',e= .returned v'/\w'.ownsRow l9 334 3 v' (n+1) ys/\m7 (fun k=>some k=v.ownBlock) w w'/\(v'.ownBlock=v.ownBlock\/v'.ownBlock=some w.heap.size)
theorem IZ(w)(l9)(v)(n:Nat)(xs vs)(hown:w.ownsRow l9 334 3 v n xs)(hn:n<=1000)(vb)(hv:vs.length=3)
  (aT:∀j u,vs[j]? =some u->w.cell? (qA vb j)=some u) (cw:∀u∈vs,u.oneCell'=true) (aj:l9<=w.heap.size):
  qC 280 #[v,qI n,qG vb 1 1] w (IK w l9 v n (xs++vs)):=by
 obtain ⟨i0,hi,aD,aw,aH⟩:=info_parts Ij
 obtain ⟨v',w',ae,ho,hg,hb⟩:=Bn (P:=prog) w l9 330 330 334 i0 _ 3 16 underlying330 hi aD aw aH rfl zj v n xs hown (qB vb) 1 1 zj vs zj
  (fun j u hj=>vH) cw zB zj aj
 have iG:Aside (IK w l9 v n (xs++vs) (.returned v') w'):=⟨v',rfl,ho,lS hg,hb⟩
 rcases hown.2 with ⟨rfl,rfl⟩ | ⟨g,cap,cur,rfl,hbg,hgb,hnc,hcm,hcs,htake⟩
 ·clear hown ho hg hb aT cw;go_enter func280,ntmps280;exact kj6
 clear hown ho hg hb aT cw htake hcs hgb hbg;go_enter func280,ntmps280;go_wp2_with (at_builtin;refine Lib.wpList_append_run _ rfl _ _ _ _ rfl _ _ rfl rfl _ _ ae ?_)
 all_goals (go_ret;exact iG.o)
theorem Gj(w)(l9 g n cap i)(xs vs)(hown:w.ownsRow l9 334 3 (qG g n cap) n xs)(hn:n<=1000)(vb)(hv:vs.length=3)
  (aT:∀j u,vs[j]? =some u->w.cell? (qA vb j)=some u) (cw:∀u∈vs,u.oneCell'=true) (eW:∀u∈xs,u.oneCell'=true) (fN:vb≠g) (jy:w.shape? vb=some (334,3)) (hfa:∀j,w.frozen? (qA vb j)=false)
  (hi:i<n) (ar:n+1<=cap):
  qC 280 #[qG g n cap,qI i,qG vb 1 1] w (IK w l9 (qG g n cap) n (xs.take (i*3)++vs++xs.drop (i*3))):=by
 have hL:Aside (∀W:World,W.heap=w.heap->W.os=w.os->W.tape=w.tape->W.output=w.output->IK w l9 (qG g n cap) n (xs.take (i*3)++vs++xs.drop (i*3)) (.returned (qG g (n+1) cap)) ((W.setCells g ((i+1)*3) (xs.drop (i*3))).setCells g (i*3) vs)):=by
  intro W h0 h2 h3 h4;have il:W.ownsRow l9 334 3 (qG g n cap) n xs:=uB;have k1:=(lZ g (xs.drop (i*3)) ((i+1)*3) W).trans (lZ g vs (i*3) _);exact kf5
 obtain ⟨dw,h2⟩:=hown
 rcases h2 with ⟨hc,_⟩ | ⟨g',cap',cur,hc,hbg,hgb,hnc,hcm,hcs,htake⟩
 ·cases hc
 cases hc
 have hcm':cap<=9223372036854775807:=by simp only [maxLen] at hcm;omega
 have hsp:∀j,j<(n+1)*3->(w.cell? (qA g j)).isSome=true:=fun j hj=>by
  have:j<cur.size:=by rw [hcs];omega
  simp [World.cell?,hgb,this]
 have kY:∀j,w.frozen? (qA g j)=false:=fun j=>by simp [World.frozen?,hgb]
 have hcell:∀j u,xs[j]? =some u->w.cell? (qA g j)=some u:=fun j u hj=>by
  exact kd3
 have hsb:w.shape? g=some (334,cap*3):=by simp [World.shape?,hgb,hcs]
 have hsz:(prog.info? 334).map (·.size)=some 3:=by
  obtain ⟨i0,d6,_,h1,_⟩:=info_parts Ij;rw [d6];simp [h1]
 have hov:∀lb cb,(callFunc 336 #[qG vb 1 1,.slice (some (qA g ((i+1)*3))) lb cb]).run prog w= .ok (.value (.bool false)) w:=fun lb cb=>by
  rw [run_callFunc_extern func336 zk zk zk (e:=Extern.SlicesOverlaps.overlaps #[330,330] #[4]) zk,
   Lib.run_overlaps_apart w 330 4 334 underlying330 3 sizeOf334 (qB vb) (qA g ((i+1)*3)) 1 1 lb cb fN 334 334 3 (cap*3) jy hsb zj (hfa 0) (hfa 3)]
  rfl
 have bw:(xs.drop (i*3)).length=n*3 - i*3:=xa
 have iJ:∀ty dc sc,(Builtin.copy_ #[330,330] ty #[.slice (some (qA g ((i+1)*3))) (n - i) dc,.slice (some (qA g (i*3))) (n+1 - i) sc]).run prog w.drew= .ok (goInt ((n - i:Nat):Int)) (w.drew.setCells g ((i+1)*3) (xs.drop (i*3))):=fun ty dc sc=>by
  have hmin:Nat.min (n+1 - i) (n - i)=n - i:=yj
  have:=nk (P:=prog) w.drew 330 330 ty 334 3 g ((i+1)*3) (n - i) dc (qA g (i*3)) (n+1 - i) sc (xs.drop (i*3)) underlying330 hsz xE
   (fun j u hj=>by rw [Addr.add_lit];exact hcell _ u (by rwa [ZO] at hj))
   (fun j hj=>hsp _ xx) (fun j _=>kY _) (fun u hu=>eW u (YQ hu))
  simp_all
 obtain ⟨W1,bL⟩:=za (w.drew.setCells g ((i+1)*3) (xs.drop (i*3)))
 have ii:∀j,j<(n+1)*3->(W1.cell? (qA g j)).isSome=true:=fun j hj=>by
  rw [bL];exact isSome_setCells g (xs.drop (i*3)) ((i+1)*3) w.drew (fun t ht=>hsp ((i+1)*3+t) (by rw [bw] at ht;omega)) _ (hsp j hj)
 have hcp2:∀(W:qW),(∀x,W.cell? x=W1.cell? x)->(∀x,W.frozen? x=W1.frozen? x)->∀ty dc,(Builtin.copy_ #[330,330] ty #[.slice (some (qA g (i*3))) (n+1 - i) dc,qG vb 1 1]).run prog W= .ok (goInt 1) (W.setCells g (i*3) vs):=fun W eQ iP ty dc=>by
  have hmin:Nat.min 1 (n+1 - i)=1:=yj
  have:=nk (P:=prog) W 330 330 ty 334 3 g (i*3) (n+1 - i) dc (qB vb) 1 1 vs underlying330 hsz vJ
   (fun j u hj=>by
    rw [Addr.add_lit,Zc,eQ,bL,ZZ g _ _ _ _ (fun h _=>absurd h fN)]
    exact aT j u hj)
   (fun j hj=>by rw [eQ];exact ii _ zj) (fun j _=>by rw [iP,bL,Yw];exact kY _) cw
  simp_all
 rw [<-bL] at iJ;have hw1:IntKind.i64.wrap ((i:Int)+1)=(i:Int)+1:=zw;have hw2:IntKind.i64.wrap ((n:Int)+1)=(n:Int)+1:=zw;have hb1:(0:Int)<=(i:Int)+1:=zj;have hin:i<=n:=zj;have htn:((i:Int)+1).toNat=i+1:=zj;have htn2:((n:Int)+1).toNat=n+1:=zj;have hb2:¬(cap=i+1):=zj;have hb3:(i:Int)<=(n:Int)+1:=zj;have hb4:¬(cap=i):=zj;have hb5:¬((cap:Int)<(n:Int)+1):=zj;clear htake hcs hgb hsp kY hcell hsb hcm dw bw aT cw eW jy hfa ii hbg;go_enter func280,ntmps280;go_wp2_with (simp only [hov]);have mixed:prog.follows .mixedOrders=true:=zk;go_region_law_o (refine step_copy_runI rfl _ _ 330 330 rfl _ _ yn yn (iJ _ _ _) ?_);clear mixed;go_wp2_with (at_builtin;refine wpList_copy_runI _ rfl _ _ 330 330 rfl _ _ rfl rfl (hcp2 _ (fun _=>rfl) (fun _=>rfl) _ _) ?_);go_ret;subst bL;exact hL.o w.drew rfl rfl rfl rfl
theorem GQ(w)(l9 g n cap i)(xs vs)(hown:w.ownsRow l9 334 3 (qG g n cap) n xs)(hn:n<=1000)(vb)(hv:vs.length=3)
  (aT:∀j u,vs[j]? =some u->w.cell? (qA vb j)=some u) (cw:∀u∈vs,u.oneCell'=true) (eW:∀u∈xs,u.oneCell'=true) (aj:l9<=w.heap.size)
  (hi:i<n) (ar:cap<n+1):
  qC 280 #[qG g n cap,qI i,qG vb 1 1] w (IK w l9 (qG g n cap) n (xs.take (i*3)++vs++xs.drop (i*3))):=by
 obtain ⟨dw,h2⟩:=hown
 rcases h2 with ⟨hc,_⟩ | ⟨g',cap',cur,hc,hbg,hgb,hnc,hcm,hcs,htake⟩
 ·cases hc
 cases hc
 obtain ⟨i0,d6,aD,fK,cY⟩:=info_parts Ij
 have hcell:∀j u,xs[j]? =some u->w.cell? (qA g j)=some u:=fun j u hj=>by
  exact kd3
 have dH:=(uK.1 hgb).1;have hvw:vb<w.heap.size:=block_lt_of_cell (aT 0 _ (uJ zj))
 have hsz:(prog.info? 334).map (·.size)=some 3:=by rw [d6];simp [fK]
 have aV:(xs.take (i*3)).length=i*3:=by rw [Zr,dw];omega
 have bw:(xs.drop (i*3)).length=n*3 - i*3:=xa
 have hold:(Builtin.firstCells i0.size i (qG g i cap)).run prog w.drew= .ok (xs.take (i*3)).toArray w.drew:=by
  rw [fK]
  exact run_firstCells_some w.drew 3 i (qB g) i cap (xs.take (i*3)) aV (fun j u hj=>by
   simp_all [Addr.add_lit,Zc,Yj])
 have hik:i+(n+1 - i)=n+1:=zj;have gA:(n:Int)+1 - (i:Int)=((n+1 - i:Nat):Int):=zj;obtain ⟨Z,hZ⟩:=za ((Value.agg #[qI 0,.int .u8 0,.bool false]).cells)
 have hZs:Z.size=3:=by rw [hZ];rfl
 obtain ⟨G,hG⟩:=za (grownCap w (n+1) cap 334)
 have hGn:n+1<=G:=by rw [hG];exact grownCap_ge w _ _ _
 have hGm:G<=maxLen:=by rw [hG];exact grownCap_le_maxLen w (n+1) cap 334 yt
 obtain ⟨bv,fI⟩:∃bv:Array Value,bv=(xs.take (i*3)).toArray++Builtin.zeroCells Z (n+1 - i)++Builtin.zeroCells Z (G - (n+1)):=⟨_,rfl⟩
 have hrz:∀ty,(Builtin.append_ #[330,3] ty #[qG g i cap,qI ((n:Int)+1 - (i:Int))]).run prog w= .ok (qG w.heap.size (n+1) G) (w.drew.alloc (.cells bv 334)):=fun ty=>by
  grind [Lib.run_append_grow_zeros,underlying330,underlying3,growslice_fits]
 have hRs:bv.size=G*3:=by
  exact km2
 have hRl:∃Y,bv.toList=xs.take (i*3)++Y:=⟨(Builtin.zeroCells Z (n+1 - i)++Builtin.zeroCells Z (G - (n+1))).toList,by rw [fI];simp⟩
 obtain ⟨W1,bL⟩:=za (w.drew.alloc (.cells bv 334));rw [<-bL] at hrz
 have hN:∀j,j<(n+1)*3->(W1.cell? (qA w.heap.size j)).isSome=true:=fun j hj=>by
  exact kk9
 have hNf:∀j,W1.frozen? (qA w.heap.size j)=false:=fun j=>by rw [bL];exact World.frozen?_alloc_at (w:=w.drew) bv _ w.heap.size j rfl
 have hOb:∀j u,w.cell? (qA g j)=some u->W1.cell? (qA g j)=some u:=fun j u h=>by rw [bL,YX (w:=w.drew) _ g j dH];exact h
 have hOv:∀j u,w.cell? (qA vb j)=some u->W1.cell? (qA vb j)=some u:=fun j u h=>by rw [bL,YX (w:=w.drew) _ vb j hvw];exact h
 have hcpA:∀(W:qW),(∀x,W.cell? x=W1.cell? x)->(∀x,W.frozen? x=W1.frozen? x)->∀ty dc,(Builtin.copy_ #[330,330] ty #[.slice (some (qA w.heap.size (i*3))) (n+1 - i) dc,qG vb 1 1]).run prog W= .ok (goInt 1) (W.setCells w.heap.size (i*3) vs):=fun W eQ iP ty dc=>by
  have hmin:Nat.min 1 (n+1 - i)=1:=yj
  have:=nk (P:=prog) W 330 330 ty 334 3 w.heap.size (i*3) (n+1 - i) dc (qB vb) 1 1 vs underlying330 hsz vJ
   (fun j u hj=>xM)
   (fun j hj=>by rw [eQ];exact hN _ zj) (fun j _=>by rw [iP];exact hNf _) cw
  simp_all
 have hgN:g≠w.heap.size:=zj
 have hcpB:∀(W:qW),(∀x,W.cell? x=(W1.setCells w.heap.size (i*3) vs).cell? x)->(∀x,W.frozen? x=(W1.setCells w.heap.size (i*3) vs).frozen? x)->∀ty dc sc,(Builtin.copy_ #[330,330] ty #[.slice (some (qA w.heap.size ((i+1)*3))) (n - i) dc,.slice (some (qA g (i*3))) (n - i) sc]).run prog W= .ok (goInt ((n - i:Nat):Int)) (W.setCells w.heap.size ((i+1)*3) (xs.drop (i*3))):=fun W eQ iP ty dc sc=>by
  have hmin:Nat.min (n - i) (n - i)=n - i:=by simp [Nat.min_def]
  have:=nk (P:=prog) W 330 330 ty 334 3 w.heap.size ((i+1)*3) (n - i) dc (qA g (i*3)) (n - i) sc (xs.drop (i*3)) underlying330 hsz xE
   (fun j u hj=>by
    rw [Addr.add_lit,eQ,ZZ _ _ _ _ _ (fun h _=>absurd h hgN)]
    exact hOb _ u (hcell _ u (by rwa [ZO] at hj)))
   (fun j hj=>by rw [eQ];exact isSome_setCells w.heap.size vs (i*3) W1 (fun t ht=>hN _ zj) _ (hN _ xx))
   (fun j _=>by rw [iP,Yw];exact hNf _) (fun u hu=>eW u (YQ hu))
  simp_all
 have hL:Aside (∀W:World,W.heap=W1.heap->W.os=w.os->W.tape=w.tape->W.output=w.output->IK w l9 (qG g n cap) n (xs.take (i*3)++vs++xs.drop (i*3)) (.returned (qG w.heap.size (n+1) G)) ((W.setCells w.heap.size (i*3) vs).setCells w.heap.size ((i+1)*3) (xs.drop (i*3)))):=by
  intro W h0 h2 h3 h4;have hgW:W.heap[w.heap.size]? =some (.cells bv 334 (0,0)):=uw;obtain ⟨Y,hY⟩:=hRl;have k1:=(lZ w.heap.size vs (i*3) W).trans (lZ w.heap.size (xs.drop (i*3)) ((i+1)*3) _);exact kd6
 have hGi:¬(G=i):=zj;have hGim:¬(G=i+1):=zj;have hci:¬(cap=i):=zj;have hw1:IntKind.i64.wrap ((i:Int)+1)=(i:Int)+1:=zw;have hw2:IntKind.i64.wrap ((n:Int)+1)=(n:Int)+1:=zw;have hw3:IntKind.i64.wrap ((n:Int)+1 - (i:Int))=(n:Int)+1 - (i:Int):=zw;have hb1:(0:Int)<=(i:Int)+1:=zj;have hin:i<=n:=zj;have hin2:i<=cap:=zj;have htn:((i:Int)+1).toNat=i+1:=zj;have hb5:((cap:Int)<(n:Int)+1):=zj
 have ee:∀x,((w.alloc (.cells bv 334)).drew).cell? x=(w.drew.alloc (.cells bv 334)).cell? x:=fun x=>rfl
 have hE2:∀x,((w.alloc (.cells bv 334)).drew).frozen? x=(w.drew.alloc (.cells bv 334)).frozen? x:=fun x=>rfl
 subst bL
 have lA:∀x,(((w.alloc (.cells bv 334)).drew.setCells w.heap.size (i*3) vs).drew).cell? x=((w.drew.alloc (.cells bv 334)).setCells w.heap.size (i*3) vs).cell? x:=fun x=>rfl
 have hF2:∀x,(((w.alloc (.cells bv 334)).drew.setCells w.heap.size (i*3) vs).drew).frozen? x=((w.drew.alloc (.cells bv 334)).setCells w.heap.size (i*3) vs).frozen? x:=fun x=>rfl
 clear htake hcs hgb hcell hcm dw bw aV aT cw eW hbg hold fI hG hRs hRl hN hNf hOb hOv hik gA hGm hZ hZs dH hvw;go_enter func280,ntmps280
 go_wp2_with (first
  | (at_builtin;refine Lib.wpList_append_run _ rfl _ _ _ _ rfl _ _ rfl rfl _ _ (hrz _) ?_)
  | (at_builtin;refine wpList_copy_runI _ rfl _ _ 330 330 rfl _ _ rfl rfl (hcpA _ ee hE2 _ _) ?_))
 have mixed:prog.follows .mixedOrders=true:=zk;go_region_law_o (refine step_copy_runI rfl _ _ 330 330 rfl (.slice (some (qA w.heap.size ((i+1)*3))) (n - i) (G - (i+1))) (.slice (some (qA g (i*3))) (n - i) (cap - i)) yn yn (hcpB _ lA hF2 3 (G - (i+1)) (cap - i)) ?_);clear mixed;go_wp2;go_ret;rw [drew_setCells];exact hL.o ((w.alloc (.cells bv 334)).drew.drew) rfl rfl rfl rfl
theorem Kd(w)(l9 n i:Nat)(v)(xs vs)(hown:w.ownsRow l9 334 3 v n xs)(hn:n<=1000)(vb)(hv:vs.length=3)
  (aT:∀j u,vs[j]? =some u->w.cell? (qA vb j)=some u) (cw:∀u∈vs,u.oneCell'=true) (eW:∀u∈xs,u.oneCell'=true) (fN:some vb≠v.ownBlock) (jy:w.shape? vb=some (334,3)) (hfa:∀j,w.frozen? (qA vb j)=false) (aj:l9<=w.heap.size) (hi:i<=n):
  qC 280 #[v,qI i,qG vb 1 1] w (IK w l9 v n (xs.take (i*3)++vs++xs.drop (i*3))):=by
 by_cases he:i=n
 ·subst he;have e1:xs.take (i*3)=xs:=Zk xK;have e2:xs.drop (i*3)= []:=Yx xK;rw [e1,e2,Yd];exact IZ w l9 v i xs vs hown hn vb hv aT cw aj
 have hown':=hown
 rcases hown.2 with ⟨rfl,rfl⟩ | ⟨g,cap,cur,rfl,-⟩
 ·omega
 by_cases ar:n+1<=cap
 ·exact Gj w l9 g n cap i xs vs hown hn vb hv aT cw eW (fun e=>fN uH) jy hfa zj ar
 exact GQ w l9 g n cap i xs vs hown hn vb hv aT cw eW aj zj zj
end
section
open RowKit Lib Go.Sort
def Fq(l:Ltr):List Value:=[qI l.1,.int .u8 (l.2.1:Int),.bool (!l.2.2)]
theorem rI(l):(Fq l).length=3:=rfl
theorem KR(l):∀v∈Fq l,v.oneCell'=true:=by
 intro v hv;simp [Fq] at hv
 rcases hv with rfl | rfl | rfl<;>rfl
theorem pS{w w'}{b o}{v}(hb:qL w w')(h:w.cell? (qA b o)=some v):w'.cell? (qA b o)=some v:=by
 exact kg7
def Q0(w:qW)(ao:qO)(zs:List Ltr):Prop:=zs= []\/∃blk off,ao=some (qA blk off)/\∀j u,(mP Fq zs)[j]? =some u->w.cell? (qA blk (off+j))=some u
theorem Q0.later{w w'}{ao}{zs}(h:Q0 w ao zs)(hb:qL w w'):Q0 w' ao zs:=by
 rcases h with h | ⟨g,o,h1,h2⟩
 ·exact .inl h
 exact .inr ⟨g,o,h1,fun j u hj=>pS hb (h2 j u hj)⟩
theorem Q0.at{w}{ao}{zs}(h:Q0 w ao zs){i:Nat}{a}{c}{g}(hi:zs[i]? =some (a,c,g)):∃blk off,ao=some (qA blk off)/\w.cell? (qA blk (off+i*3))=some (qI a)/\w.cell? (qA blk (off+i*3+1))=some (.int .u8 (c:Int))/\w.cell? (qA blk (off+i*3+2))=some (.bool (!g)):=by
 rcases h with h | ⟨b,o,h1,h2⟩
 ·subst h;simp at hi
 have hg:=fun k hk=>mi (enc:=Fq) (k:=3) rI (c:=k) hi hk
 refine ⟨b,o,h1,?_,?_,?_⟩
 ·exact h2 (i*3+0) _ (hg 0 zj)
 ·rw [Yt];exact h2 _ _ (hg 1 zj)
 rw [Yt];exact h2 _ _ (hg 2 zj)
def SR(g:Nat)(lb:Array Value)(p:Ltr->Bool)(w:qW):Prop:=
 ∀(W:qW) (a:Int) (c:Nat) (gn:Bool),qL w W->Calls prog g (#[.agg #[qI a,.int .u8 (c:Int),.bool (!gn)]]++lb) W (qR (.bool (p (a,c,gn))) w)
theorem CN(p)(g:Nat)(lb)(eg:∀args w,(callFunc g args).run prog w= .ok (.enter g args) w)(ao)(cap)(zs)(w)(hp:SR g lb p w)(fF:zs.length<=1000000)(hin:Q0 w ao zs):
  qC 334 #[.slice ao zs.length cap,.func (.func g) #[] lb] w fun e w'=>∃r:Int,e= .returned (qI r)/\Aside (Wl p zs r/\qL w w'):=by
 have HP:Aside (SR g lb p w):=hp;have HI:Aside (Q0 w ao zs):=hin;go_enter func334,ntmps334;go_wp2;go_loopg [5,8] zs.length (fun kx _ s8 wr=>∃(k:Nat),s8=qN k/\k<=zs.length/\zs.length - k<=kx/\Aside (qL w wr/\∀j l,j<k->zs[j]? =some l->p l=false))
 case atStart=>exact ⟨0,rfl,uW _,uL _,⟨uM _ w,fun j l hj=>zj⟩⟩
 case round=>
  obtain ⟨k,rfl,hk,aY,A⟩:=hrel;by_cases hlt:k<zs.length
  ·have aq:qlt k zs.length=true:=by simp;omega
   have ek:((k:Int)).toNat=k:=zj;have pk:(0:Int)<=(k:Int):=zj;have bk:(k:Int)<(zs.length:Int):=zj
   obtain ⟨⟨a,c,gn⟩,hl⟩:∃l,Aside (zs[k]? =some l):=⟨zs[k],uJ hlt⟩
   obtain ⟨blk,off,rfl,c0,c1,c2⟩:=(HI.o.later A.o.1).at hl.o;have ac:=HP.o wr a c gn A.o.1
   cases hq:p (a,c,gn) with
   | true=>
    exact kg8
   | false=>
    rw [hq] at ac;have HQ:=Lib.hid hq;go_wp2_with (go_at_fn g;refine ac.mono ?_;rintro e w' ⟨rfl,hb'⟩);go_roundg (zs.length - (k+1))
    case measure=>omega
    case rel=>
     refine ⟨k+1,zN,zj,uL _,⟨hb',fun j l hj e=> ?_⟩⟩
     rcases Yc j k with h | h
     ·exact A.o.2 j l h e
     exact kg0
  exact kb5
theorem Sa(id)(B)(w)(hB:B<w.heap.size)(hc:w.cell? (qB B)=some (qI id)):SR 335 #[qP B] (fun l=>decide (l.1=id)) w:=fun W a c gn hb=>by
 have fE:=(hb.cell (p:=(qB B)) hB).trans hc;have hBW:=uT hB hb.size
 show qC 335 #[.agg #[qI a,.int .u8 (c:Int),.bool (!gn)],qP B] W _
 go_enter func335,ntmps335;go_wp2
 all_goals (go_ret;exact ⟨by simp [BEq.beq],hb.alloc hb.size _⟩)
theorem UE(id)(B)(w)(hB:B<w.heap.size)(hc:w.cell? (qB B)=some (qI id)):SR 338 #[qP B] (fun l=>decide (l.1<id)) w:=fun W a c gn hb=>by
 have fE:=(hb.cell (p:=(qB B)) hB).trans hc;have hBW:=uT hB hb.size
 show qC 338 #[.agg #[qI a,.int .u8 (c:Int),.bool (!gn)],qP B] W _
 go_enter func338,ntmps338;go_wp2
 all_goals (go_ret;exact ⟨rfl,hb.alloc hb.size _⟩)
structure x9 (l9:Nat) (w:qW) (p:Nat) (v:Value) (L:List Ltr):Prop where
 cell:w.heap[p]? =some (.cells #[v] 332 (0,0))
 row:w.ownsRow l9 334 3 v L.length (mP Fq L)
 low:p<l9
 J2:(L.map (·.1)).Nodup
 pos:∀l∈L,l.1≠0
 aaq:∀l∈L,l.2.1<256
theorem x9.c0{l9}{w}{p}{v}{L}(h:x9 l9 w p v L):w.cell? (qB p)=some v:=by simp [World.cell?,h.cell]
theorem x9.lt{l9}{w}{p}{v}{L}(h:x9 l9 w p v L):p<w.heap.size:=(uK.1 h.cell).1
theorem EB{w w':qW}{l9 n}{e}{k}{v}{xs}(h:w.ownsRow l9 e k v n xs)(hs:∀g,v.ownBlock=some g->w'.heap[g]? =w.heap[g]?):w'.ownsRow l9 e k v n xs:=by
 refine ⟨h.1,?_⟩
 rcases h.2 with h0 | ⟨g,cap,cur,rfl,h1,hg,h2⟩
 ·exact .inl h0
 exact kl1
theorem x9.same{l9}{w w'}{p}{v}{L}(h:x9 l9 w p v L)(h1:w'.heap[p]? =w.heap[p]?)(h2:∀g,v.ownBlock=some g->w'.heap[g]? =w.heap[g]?):x9 l9 w' p v L:=
 ⟨h1.trans h.cell,EB h.row h2,h.low,h.J2,h.pos,h.aaq⟩
theorem x9.later{l9}{w w'}{p}{v}{L}(h:x9 l9 w p v L)(hb:qL w w'):x9 l9 w' p v L:=
 h.same (hb.block _ h.lt) (fun g hg=>hb.block g (h.row.lt g hg).2)
theorem wA{w:qW}{l9 n k}{v}{e}{xs}(h:w.ownsRow l9 e k v n xs):∃ao cap,v= .slice ao n cap:=by
 rcases h.2 with ⟨h1,h2⟩ | ⟨g,cap,cur,rfl,_⟩
 ·subst h2;exact ⟨_,_,h1⟩
 simp_all
theorem DL{w}{l9}{ao}{cap}{L}(h:w.ownsRow l9 334 3 (.slice ao L.length cap) L.length (mP Fq L)):Q0 w ao L:=by
 have h':=h
 rcases h.2 with ⟨h1,h2⟩ | ⟨g,cap',cur,hv,_⟩
 ·exact .inl (Zg.1 h2)
 cases hv
 refine .inr ⟨g,0,rfl,fun j u hj=> ?_⟩;have hl:=(uI.1 hj).1;rw [mu rI] at hl;rw [Zc,h'.cellAt j hl,hj]
theorem Wv(w):qC 225 #[] w fun e w'=>e= .returned (qP w.heap.size)/\w'=w.alloc (.cells #[qE] 332):=by
 go_enter func225,ntmps225;exact ka7
theorem pL(w)(l9 p)(v)(L)(id)(h:x9 l9 w p v L)(hL:L.length<=1000):
  qC 279 #[qP p,qI id] w (qR (qI (DZ id L)) w):=by
 obtain ⟨ao,cap,rfl⟩:=wA h.row;have eg:∀args w,(callFunc 335 args).run prog w= .ok (.enter 335 args) w:=enters_of func335 zk rfl;have gF:qL w (w.alloc (.cells #[qI id] 3)):=zh w _;have hc:=CN (fun l=>decide (l.1=id)) 335 #[qP w.heap.size] eg ao cap L (w.alloc (.cells #[qI id] 3)) (Sa id w.heap.size _ zr zY) zj ((DL h.row).later gF);have c0:=h.c0;have hpl:=h.lt;have HB:=Lib.hid gF;go_enter func279,ntmps279;go_wp2_with fail;refine hc.mono ?_;rintro e w1 ⟨r,rfl,hr⟩;go_wp2;go_ret;exact ⟨by rw [TU hr.o.1];rfl,HB.o.trans (hr.o.2.mono zr)⟩
theorem KV(w)(l9 p k)(v)(L)(id)(h:x9 l9 w p v L)(hL:L.length<=1000)(hk:k<=L.length)(hn:id∉L.map (·.1)):
  qC 281 #[qP p,qN k,qI id] w (qR (qI ((k+ou id (L.drop k):Nat):Int)) w):=by
 have HN:Aside (id∉(L.drop k).map (·.1)):=fun hm=>hn (by
  obtain ⟨l,hl,e⟩:=Zj.1 hm
  exact Zj.2 ⟨l,YQ hl,e⟩)
 have HS:Aside (ou id (L.drop k)<=L.length - k):=by have:=BU id (L.drop k);rwa [ZH] at this
 obtain ⟨ao,cap,rfl⟩:=wA h.row
 have hLc:L.length<=cap:=by
  rcases h.row.2 with ⟨h1,h2⟩ | ⟨g,cap',cur,hv,_,_,h3,_⟩
  ·omega
  cases hv;exact h3
 have eg:∀args w,(callFunc 338 args).run prog w= .ok (.enter 338 args) w:=enters_of func338 zk rfl;have gF:qL w (w.alloc (.cells #[qI id] 3)):=zh w _;have bw:(L.drop k).length=L.length - k:=ZH
 have hc:∀ap,Q0 w ap (L.drop k)->qC 334 #[.slice ap (L.length - k) (cap - k),.func (.func 338) #[] #[qP w.heap.size]] (w.alloc (.cells #[qI id] 3)) _:=fun ap ll=>by
  have:=CN (fun l=>decide (l.1<id)) 338 #[qP w.heap.size] eg ap (cap - k) (L.drop k) (w.alloc (.cells #[qI id] 3)) (UE id w.heap.size _ zr zY) (by rw [bw];omega) (ll.later gF);rw [bw] at this;exact this
 have c0:=h.c0;have hpl:=h.lt;have HI:Aside (Q0 w ao L):=DL h.row;have HB:=Lib.hid gF;clear h eg gF
 obtain ⟨q,hq⟩:∃q,Aside (ou id (L.drop k)=q):=⟨_,rfl⟩
 rw [hq.o] at HS |-
 have hq2:=HS.o;have d0:decide ((q:Int)<0)=false:=zr;have e0:IntKind.i64.wrap ((k:Int)+(q:Int))=(k:Int)+(q:Int):=zw;have HD:=Lib.hid bw;clear bw HS;go_enter func281,ntmps281;go_wp2_with fail
 ·have hd0:L.drop k= []:=Yx zj;have fE:=hc ao (.inl hd0);rw [show cap - k=0 by omega] at fE
  have hf:L.length=k+q:=by rw [<-hq.o,hd0];simp only [ou];omega
  have HF:=Lib.hid hf;have bA:cap=k:=yC
  have c0':w.cell? (qB p)=some (Value.slice ao L.length k):=by rw [<-bA];exact c0
  refine fE.mono ?_;rintro e w1 ⟨r,rfl,hr⟩
  have hr1:r= -1:=by
   rcases hr.o.1 with ⟨h,_⟩ | ⟨i,l,_,hl,_⟩
   ·exact h
   rw [hd0] at hl;simp at hl
  subst hr1;have jq:=HB.o.trans (hr.o.2.mono zr);have c1:=pS jq c0';have H1:=Lib.hid jq;clear jq hr fE hf hd0 bA c0 c0' hc hLc;go_wp2;go_ret;exact ⟨by rw [HF.o];rfl,H1.o⟩
 have hLp:Q0 w (ao.map (fun x=>x.add (k*3))) (L.drop k):=by
  rcases HI.o with h0 | ⟨b,o,rfl,hcell⟩
  ·subst h0;exact .inl zr
  refine .inr ⟨b,o+k*3,by simp [Addr.add],fun j u hj=> ?_⟩;rw [<-rQ rI L k hk,ZO] at hj;rw [Yt];exact hcell _ u hj
 refine (hc _ hLp).mono ?_;clear hc HI hLp;rintro e w1 ⟨r,rfl,hr⟩;have jq:=HB.o.trans (hr.o.2.mono zr);have c1:=pS jq c0;have H1:=Lib.hid jq
 rcases Xs HN.o hr.o.1 with ⟨rfl,hs⟩ | hs
 ·have hf:L.length=k+q:=by rw [hq.o,HD.o] at hs;omega
  have HF:=Lib.hid hf;clear jq hr hs hf;go_wp2;go_ret;exact ⟨by rw [HF.o];rfl,H1.o⟩
 rw [hq.o] at hs;subst hs;clear jq hr;go_wp2;go_ret;exact ⟨zr,H1.o⟩
end
section
open Shelf RowKit Lib
theorem IM:(prog.info? 348).map (fun i=>(i.zero,i.size,i.bytes))=some (some (.agg #[qI 0,qI 0,qI 0,qI 0,.string ⟨#[]⟩,qI 0,qI 0,.string ⟨#[]⟩]),8,80):=zk
def Wa(w:qW)(l9:Nat)(v:Value)(n:Nat)(ys:List Value)(e:Ending)(w':qW):Prop:=
 ∃v',e= .returned v'/\w'.ownsRow l9 348 8 v' (n+1) ys/\m7 (fun k=>some k=v.ownBlock) w w'/\(v'.ownBlock=v.ownBlock\/v'.ownBlock=some w.heap.size)
theorem MW(w)(l9)(v)(n:Nat)(xs vs)(hown:w.ownsRow l9 348 8 v n xs)(hn:n<=1000)(vb)(hv:vs.length=8)
  (aT:∀j u,vs[j]? =some u->w.cell? (qA vb j)=some u) (cw:∀u∈vs,u.oneCell'=true) (aj:l9<=w.heap.size):
  qC 276 #[v,qI n,qG vb 1 1] w (Wa w l9 v n (xs++vs)):=by
 obtain ⟨i0,hi,aD,aw,aH⟩:=info_parts IM
 obtain ⟨v',w',ae,ho,hg,hb⟩:=Bn (P:=prog) w l9 186 186 348 i0 _ 8 80 underlying186 hi aD aw aH rfl zj v n xs hown (qB vb) 1 1 zj vs zj
  (fun j u hj=>vH) cw zB zj aj
 have iG:Aside (Wa w l9 v n (xs++vs) (.returned v') w'):=⟨v',rfl,ho,lS hg,hb⟩
 rcases hown.2 with ⟨rfl,rfl⟩ | ⟨g,cap,cur,rfl,hbg,hgb,hnc,hcm,hcs,htake⟩
 ·clear hown ho hg hb aT cw;go_enter func276,ntmps276;exact kj6
 clear hown ho hg hb aT cw htake hcs hgb hbg;go_enter func276,ntmps276;go_wp2_with (at_builtin;refine Lib.wpList_append_run _ rfl _ _ _ _ rfl _ _ rfl rfl _ _ ae ?_)
 all_goals (go_ret;exact iG.o)
theorem IW(w)(l9 g n cap i)(xs vs)(hown:w.ownsRow l9 348 8 (qG g n cap) n xs)(hn:n<=1000)(vb)(hv:vs.length=8)
  (aT:∀j u,vs[j]? =some u->w.cell? (qA vb j)=some u) (cw:∀u∈vs,u.oneCell'=true) (eW:∀u∈xs,u.oneCell'=true) (fN:vb≠g) (jy:w.shape? vb=some (348,8)) (hfa:∀j,w.frozen? (qA vb j)=false)
  (hi:i<n) (ar:n+1<=cap):
  qC 276 #[qG g n cap,qI i,qG vb 1 1] w (Wa w l9 (qG g n cap) n (xs.take (i*8)++vs++xs.drop (i*8))):=by
 have hL:Aside (∀W:World,W.heap=w.heap->W.os=w.os->W.tape=w.tape->W.output=w.output->Wa w l9 (qG g n cap) n (xs.take (i*8)++vs++xs.drop (i*8)) (.returned (qG g (n+1) cap)) ((W.setCells g ((i+1)*8) (xs.drop (i*8))).setCells g (i*8) vs)):=by
  intro W h0 h2 h3 h4;have il:W.ownsRow l9 348 8 (qG g n cap) n xs:=uB;have k1:=(lZ g (xs.drop (i*8)) ((i+1)*8) W).trans (lZ g vs (i*8) _);exact kf5
 obtain ⟨dw,h2⟩:=hown
 rcases h2 with ⟨hc,_⟩ | ⟨g',cap',cur,hc,hbg,hgb,hnc,hcm,hcs,htake⟩
 ·cases hc
 cases hc
 have hcm':cap<=9223372036854775807:=by simp only [maxLen] at hcm;omega
 have hsp:∀j,j<(n+1)*8->(w.cell? (qA g j)).isSome=true:=fun j hj=>by
  have:j<cur.size:=by rw [hcs];omega
  simp [World.cell?,hgb,this]
 have kY:∀j,w.frozen? (qA g j)=false:=fun j=>by simp [World.frozen?,hgb]
 have hcell:∀j u,xs[j]? =some u->w.cell? (qA g j)=some u:=fun j u hj=>by
  exact kd3
 have hsb:w.shape? g=some (348,cap*8):=by simp [World.shape?,hgb,hcs]
 have hsz:(prog.info? 348).map (·.size)=some 8:=by
  obtain ⟨i0,d6,_,h1,_⟩:=info_parts IM;rw [d6];simp [h1]
 have hov:∀lb cb,(callFunc 332 #[qG vb 1 1,.slice (some (qA g ((i+1)*8))) lb cb]).run prog w= .ok (.value (.bool false)) w:=fun lb cb=>by
  rw [run_callFunc_extern func332 zk zk zk (e:=Extern.SlicesOverlaps.overlaps #[186,186] #[4]) zk,
   Lib.run_overlaps_apart w 186 4 348 underlying186 8 sizeOf348 (qB vb) (qA g ((i+1)*8)) 1 1 lb cb fN 348 348 8 (cap*8) jy hsb zj (hfa 0) (hfa 8)]
  rfl
 have bw:(xs.drop (i*8)).length=n*8 - i*8:=xa
 have iJ:∀ty dc sc,(Builtin.copy_ #[186,186] ty #[.slice (some (qA g ((i+1)*8))) (n - i) dc,.slice (some (qA g (i*8))) (n+1 - i) sc]).run prog w.drew= .ok (goInt ((n - i:Nat):Int)) (w.drew.setCells g ((i+1)*8) (xs.drop (i*8))):=fun ty dc sc=>by
  have hmin:Nat.min (n+1 - i) (n - i)=n - i:=yj
  have:=nk (P:=prog) w.drew 186 186 ty 348 8 g ((i+1)*8) (n - i) dc (qA g (i*8)) (n+1 - i) sc (xs.drop (i*8)) underlying186 hsz xE
   (fun j u hj=>by rw [Addr.add_lit];exact hcell _ u (by rwa [ZO] at hj))
   (fun j hj=>hsp _ xx) (fun j _=>kY _) (fun u hu=>eW u (YQ hu))
  simp_all
 obtain ⟨W1,bL⟩:=za (w.drew.setCells g ((i+1)*8) (xs.drop (i*8)))
 have ii:∀j,j<(n+1)*8->(W1.cell? (qA g j)).isSome=true:=fun j hj=>by
  rw [bL];exact isSome_setCells g (xs.drop (i*8)) ((i+1)*8) w.drew (fun t ht=>hsp ((i+1)*8+t) (by rw [bw] at ht;omega)) _ (hsp j hj)
 have hcp2:∀(W:qW),(∀x,W.cell? x=W1.cell? x)->(∀x,W.frozen? x=W1.frozen? x)->∀ty dc,(Builtin.copy_ #[186,186] ty #[.slice (some (qA g (i*8))) (n+1 - i) dc,qG vb 1 1]).run prog W= .ok (goInt 1) (W.setCells g (i*8) vs):=fun W eQ iP ty dc=>by
  have hmin:Nat.min 1 (n+1 - i)=1:=yj
  have:=nk (P:=prog) W 186 186 ty 348 8 g (i*8) (n+1 - i) dc (qB vb) 1 1 vs underlying186 hsz vJ
   (fun j u hj=>by
    rw [Addr.add_lit,Zc,eQ,bL,ZZ g _ _ _ _ (fun h _=>absurd h fN)]
    exact aT j u hj)
   (fun j hj=>by rw [eQ];exact ii _ zj) (fun j _=>by rw [iP,bL,Yw];exact kY _) cw
  simp_all
 rw [<-bL] at iJ;have hw1:IntKind.i64.wrap ((i:Int)+1)=(i:Int)+1:=zw;have hw2:IntKind.i64.wrap ((n:Int)+1)=(n:Int)+1:=zw;have hb1:(0:Int)<=(i:Int)+1:=zj;have hin:i<=n:=zj;have htn:((i:Int)+1).toNat=i+1:=zj;have htn2:((n:Int)+1).toNat=n+1:=zj;have hb2:¬(cap=i+1):=zj;have hb3:(i:Int)<=(n:Int)+1:=zj;have hb4:¬(cap=i):=zj;have hb5:¬((cap:Int)<(n:Int)+1):=zj;clear htake hcs hgb hsp kY hcell hsb hcm dw bw aT cw eW jy hfa ii hbg;go_enter func276,ntmps276;go_wp2_with (simp only [hov]);have mixed:prog.follows .mixedOrders=true:=zk;go_region_law_o (refine step_copy_runI rfl _ _ 186 186 rfl _ _ yn yn (iJ _ _ _) ?_);clear mixed;go_wp2_with (at_builtin;refine wpList_copy_runI _ rfl _ _ 186 186 rfl _ _ rfl rfl (hcp2 _ (fun _=>rfl) (fun _=>rfl) _ _) ?_);go_ret;subst bL;exact hL.o w.drew rfl rfl rfl rfl
theorem JP(w)(l9 g n cap i)(xs vs)(hown:w.ownsRow l9 348 8 (qG g n cap) n xs)(hn:n<=1000)(vb)(hv:vs.length=8)
  (aT:∀j u,vs[j]? =some u->w.cell? (qA vb j)=some u) (cw:∀u∈vs,u.oneCell'=true) (eW:∀u∈xs,u.oneCell'=true) (aj:l9<=w.heap.size)
  (hi:i<n) (ar:cap<n+1):
  qC 276 #[qG g n cap,qI i,qG vb 1 1] w (Wa w l9 (qG g n cap) n (xs.take (i*8)++vs++xs.drop (i*8))):=by
 obtain ⟨dw,h2⟩:=hown
 rcases h2 with ⟨hc,_⟩ | ⟨g',cap',cur,hc,hbg,hgb,hnc,hcm,hcs,htake⟩
 ·cases hc
 cases hc
 obtain ⟨i0,d6,aD,fK,cY⟩:=info_parts IM
 have hcell:∀j u,xs[j]? =some u->w.cell? (qA g j)=some u:=fun j u hj=>by
  exact kd3
 have dH:=(uK.1 hgb).1;have hvw:vb<w.heap.size:=block_lt_of_cell (aT 0 _ (uJ zj))
 have hsz:(prog.info? 348).map (·.size)=some 8:=by rw [d6];simp [fK]
 have aV:(xs.take (i*8)).length=i*8:=by rw [Zr,dw];omega
 have bw:(xs.drop (i*8)).length=n*8 - i*8:=xa
 have hold:(Builtin.firstCells i0.size i (qG g i cap)).run prog w.drew= .ok (xs.take (i*8)).toArray w.drew:=by
  rw [fK]
  exact run_firstCells_some w.drew 8 i (qB g) i cap (xs.take (i*8)) aV (fun j u hj=>by
   simp_all [Addr.add_lit,Zc,Yj])
 have hik:i+(n+1 - i)=n+1:=zj;have gA:(n:Int)+1 - (i:Int)=((n+1 - i:Nat):Int):=zj;obtain ⟨Z,hZ⟩:=za ((Value.agg #[qI 0,qI 0,qI 0,qI 0,.string ⟨#[]⟩,qI 0,qI 0,.string ⟨#[]⟩]).cells)
 have hZs:Z.size=8:=by rw [hZ];rfl
 obtain ⟨G,hG⟩:=za (grownCap w (n+1) cap 348)
 have hGn:n+1<=G:=by rw [hG];exact grownCap_ge w _ _ _
 have hGm:G<=maxLen:=by rw [hG];exact grownCap_le_maxLen w (n+1) cap 348 yt
 obtain ⟨bv,fI⟩:∃bv:Array Value,bv=(xs.take (i*8)).toArray++Builtin.zeroCells Z (n+1 - i)++Builtin.zeroCells Z (G - (n+1)):=⟨_,rfl⟩
 have hrz:∀ty,(Builtin.append_ #[186,3] ty #[qG g i cap,qI ((n:Int)+1 - (i:Int))]).run prog w= .ok (qG w.heap.size (n+1) G) (w.drew.alloc (.cells bv 348)):=fun ty=>by
  grind [Lib.run_append_grow_zeros,underlying186,underlying3,growslice_fits]
 have hRs:bv.size=G*8:=by
  exact km2
 have hRl:∃Y,bv.toList=xs.take (i*8)++Y:=⟨(Builtin.zeroCells Z (n+1 - i)++Builtin.zeroCells Z (G - (n+1))).toList,by rw [fI];simp⟩
 obtain ⟨W1,bL⟩:=za (w.drew.alloc (.cells bv 348));rw [<-bL] at hrz
 have hN:∀j,j<(n+1)*8->(W1.cell? (qA w.heap.size j)).isSome=true:=fun j hj=>by
  exact kk9
 have hNf:∀j,W1.frozen? (qA w.heap.size j)=false:=fun j=>by rw [bL];exact World.frozen?_alloc_at (w:=w.drew) bv _ w.heap.size j rfl
 have hOb:∀j u,w.cell? (qA g j)=some u->W1.cell? (qA g j)=some u:=fun j u h=>by rw [bL,YX (w:=w.drew) _ g j dH];exact h
 have hOv:∀j u,w.cell? (qA vb j)=some u->W1.cell? (qA vb j)=some u:=fun j u h=>by rw [bL,YX (w:=w.drew) _ vb j hvw];exact h
 have hcpA:∀(W:qW),(∀x,W.cell? x=W1.cell? x)->(∀x,W.frozen? x=W1.frozen? x)->∀ty dc,(Builtin.copy_ #[186,186] ty #[.slice (some (qA w.heap.size (i*8))) (n+1 - i) dc,qG vb 1 1]).run prog W= .ok (goInt 1) (W.setCells w.heap.size (i*8) vs):=fun W eQ iP ty dc=>by
  have hmin:Nat.min 1 (n+1 - i)=1:=yj
  have:=nk (P:=prog) W 186 186 ty 348 8 w.heap.size (i*8) (n+1 - i) dc (qB vb) 1 1 vs underlying186 hsz vJ
   (fun j u hj=>xM)
   (fun j hj=>by rw [eQ];exact hN _ zj) (fun j _=>by rw [iP];exact hNf _) cw
  simp_all
 have hgN:g≠w.heap.size:=zj
 have hcpB:∀(W:qW),(∀x,W.cell? x=(W1.setCells w.heap.size (i*8) vs).cell? x)->(∀x,W.frozen? x=(W1.setCells w.heap.size (i*8) vs).frozen? x)->∀ty dc sc,(Builtin.copy_ #[186,186] ty #[.slice (some (qA w.heap.size ((i+1)*8))) (n - i) dc,.slice (some (qA g (i*8))) (n - i) sc]).run prog W= .ok (goInt ((n - i:Nat):Int)) (W.setCells w.heap.size ((i+1)*8) (xs.drop (i*8))):=fun W eQ iP ty dc sc=>by
  have hmin:Nat.min (n - i) (n - i)=n - i:=by simp [Nat.min_def]
  have:=nk (P:=prog) W 186 186 ty 348 8 w.heap.size ((i+1)*8) (n - i) dc (qA g (i*8)) (n - i) sc (xs.drop (i*8)) underlying186 hsz xE
   (fun j u hj=>by
    rw [Addr.add_lit,eQ,ZZ _ _ _ _ _ (fun h _=>absurd h hgN)]
    exact hOb _ u (hcell _ u (by rwa [ZO] at hj)))
   (fun j hj=>by rw [eQ];exact isSome_setCells w.heap.size vs (i*8) W1 (fun t ht=>hN _ zj) _ (hN _ xx))
   (fun j _=>by rw [iP,Yw];exact hNf _) (fun u hu=>eW u (YQ hu))
  simp_all
 have hL:Aside (∀W:World,W.heap=W1.heap->W.os=w.os->W.tape=w.tape->W.output=w.output->Wa w l9 (qG g n cap) n (xs.take (i*8)++vs++xs.drop (i*8)) (.returned (qG w.heap.size (n+1) G)) ((W.setCells w.heap.size (i*8) vs).setCells w.heap.size ((i+1)*8) (xs.drop (i*8)))):=by
  intro W h0 h2 h3 h4;have hgW:W.heap[w.heap.size]? =some (.cells bv 348 (0,0)):=uw;obtain ⟨Y,hY⟩:=hRl;have k1:=(lZ w.heap.size vs (i*8) W).trans (lZ w.heap.size (xs.drop (i*8)) ((i+1)*8) _);exact kd6
 have hGi:¬(G=i):=zj;have hGim:¬(G=i+1):=zj;have hci:¬(cap=i):=zj;have hw1:IntKind.i64.wrap ((i:Int)+1)=(i:Int)+1:=zw;have hw2:IntKind.i64.wrap ((n:Int)+1)=(n:Int)+1:=zw;have hw3:IntKind.i64.wrap ((n:Int)+1 - (i:Int))=(n:Int)+1 - (i:Int):=zw;have hb1:(0:Int)<=(i:Int)+1:=zj;have hin:i<=n:=zj;have hin2:i<=cap:=zj;have htn:((i:Int)+1).toNat=i+1:=zj;have hb5:((cap:Int)<(n:Int)+1):=zj
 have ee:∀x,((w.alloc (.cells bv 348)).drew).cell? x=(w.drew.alloc (.cells bv 348)).cell? x:=fun x=>rfl
 have hE2:∀x,((w.alloc (.cells bv 348)).drew).frozen? x=(w.drew.alloc (.cells bv 348)).frozen? x:=fun x=>rfl
 subst bL
 have lA:∀x,(((w.alloc (.cells bv 348)).drew.setCells w.heap.size (i*8) vs).drew).cell? x=((w.drew.alloc (.cells bv 348)).setCells w.heap.size (i*8) vs).cell? x:=fun x=>rfl
 have hF2:∀x,(((w.alloc (.cells bv 348)).drew.setCells w.heap.size (i*8) vs).drew).frozen? x=((w.drew.alloc (.cells bv 348)).setCells w.heap.size (i*8) vs).frozen? x:=fun x=>rfl
 clear htake hcs hgb hcell hcm dw bw aV aT cw eW hbg hold fI hG hRs hRl hN hNf hOb hOv hik gA hGm hZ hZs dH hvw;go_enter func276,ntmps276
 go_wp2_with (first
  | (at_builtin;refine Lib.wpList_append_run _ rfl _ _ _ _ rfl _ _ rfl rfl _ _ (hrz _) ?_)
  | (at_builtin;refine wpList_copy_runI _ rfl _ _ 186 186 rfl _ _ rfl rfl (hcpA _ ee hE2 _ _) ?_))
 have mixed:prog.follows .mixedOrders=true:=zk;go_region_law_o (refine step_copy_runI rfl _ _ 186 186 rfl (.slice (some (qA w.heap.size ((i+1)*8))) (n - i) (G - (i+1))) (.slice (some (qA g (i*8))) (n - i) (cap - i)) yn yn (hcpB _ lA hF2 3 (G - (i+1)) (cap - i)) ?_);clear mixed;go_wp2;go_ret;rw [drew_setCells];exact hL.o ((w.alloc (.cells bv 348)).drew.drew) rfl rfl rfl rfl
theorem Lg(w)(l9 n i:Nat)(v)(xs vs)(hown:w.ownsRow l9 348 8 v n xs)(hn:n<=1000)(vb)(hv:vs.length=8)
  (aT:∀j u,vs[j]? =some u->w.cell? (qA vb j)=some u) (cw:∀u∈vs,u.oneCell'=true) (eW:∀u∈xs,u.oneCell'=true) (fN:some vb≠v.ownBlock) (jy:w.shape? vb=some (348,8)) (hfa:∀j,w.frozen? (qA vb j)=false) (aj:l9<=w.heap.size) (hi:i<=n):
  qC 276 #[v,qI i,qG vb 1 1] w (Wa w l9 v n (xs.take (i*8)++vs++xs.drop (i*8))):=by
 by_cases he:i=n
 ·subst he;have e1:xs.take (i*8)=xs:=Zk xK;have e2:xs.drop (i*8)= []:=Yx xK;rw [e1,e2,Yd];exact MW w l9 v i xs vs hown hn vb hv aT cw aj
 have hown':=hown
 rcases hown.2 with ⟨rfl,rfl⟩ | ⟨g,cap,cur,rfl,-⟩
 ·omega
 by_cases ar:n+1<=cap
 ·exact IW w l9 g n cap i xs vs hown hn vb hv aT cw eW (fun e=>fN uH) jy hfa zj ar
 exact JP w l9 g n cap i xs vs hown hn vb hv aT cw eW aj zj zj
end
section
open RowKit Lib Go.Sort
def P6(w:qW)(v:Value)(B:qU):Prop:=∃(g cap:Nat) (cur:Array Value) (fr:Nat×Nat),v=qG g B.length cap/\w.heap[g]? =some (.cells cur 5 fr)/\(fr=(0,0)\/cur.size<=fr.1)/\B.length<=cap/\cap<=maxLen/\cur.size=cap/\cur.toList.take B.length=ni B
theorem Lw(B):(ni B).length=B.length:=by simp [ni]
theorem P6.lt{w}{v}{B}(h:P6 w v B){g}(hg:v.ownBlock=some g):g<w.heap.size:=by
 obtain ⟨g',cap,cur,fr,rfl,h1,_⟩:=h
 cases hg
 grind
theorem P6.same{w w'}{v}{B}(h:P6 w v B)(e:∀g,v.ownBlock=some g->w'.heap[g]? =w.heap[g]?):P6 w' v B:=by
 obtain ⟨g',cap,cur,fr,rfl,h1,h2⟩:=h;exact ⟨g',cap,cur,fr,rfl,(e g' rfl).trans h1,h2⟩
theorem P6.aab{w}{v}{B}(h:P6 w v B):∃g cap,v=qG g B.length cap:=by
 obtain ⟨g',cap,cur,fr,rfl,_⟩:=h
 simp_all
theorem P6.cells{w}{g cap}{B}(h:P6 w (qG g B.length cap) B):∀j u,(ni B)[j]? =some u->w.cell? (((qB g):Addr).add j)=some u:=by
 obtain ⟨g',cap',cur,fr,e,h1,h2,h3,h4,h5,h6⟩:=h
 cases e
 intro j u hu;rw [Addr.add_lit]
 have:cur[j]? =some u:=by
  rw [<-h6,Yj] at hu;split at hu
  ·simpa using hu
  cases hu
 simp [World.cell?,h1,this]
theorem P6.P8{w}{v}{B}(h:P6 w v B):Sem.run prog (convert 141 9 v) w= .ok (.string ⟨B.toArray⟩) w:=by
 obtain ⟨g,cap,rfl⟩:=h.aab;have hc:=h.cells
 grind [run_convert_bytes_back,underlying141,underlying5,underlying9,ni,uJ]
theorem TA(w)(s)(hs:s.size<=1000000):∃v w',Sem.run prog (convert 9 141 (.string s)) w= .ok v w'/\P6 w' v s.data.toList/\qL w w'/\∀g,v.ownBlock=some g->w.heap.size<=g:=by
 have hge:=grownCap_ge w s.size 0 5;have bD:=grownCap_le_maxLen w s.size 0 5 zB;obtain ⟨cap,hcap⟩:=za (grownCap w s.size 0 5);rw [<-hcap] at hge bD;refine ⟨_,_,run_bytes_of_string w 9 141 5 s underlying9 underlying141 underlying5,?_,?_,?_⟩
 ·rw [<-hcap]
  have hbs:(bytesRow s cap).size=cap:=by
   unfold bytesRow;simp;have:s.data.size=s.size:=rfl;omega
  refine ⟨w.heap.size,cap,bytesRow s cap,_,zr,heap_alloc_new w.drew _,.inr zg,by simpa using hge,bD,hbs,?_⟩;unfold bytesRow ni
  simp_all
 ·exact ((uM _ w).drew).alloc zr _
 intro g hg
 cases hg
 exact uL _
theorem P6.cut{w}{g cap}{B}(h:P6 w (qG g B.length cap) B){n}(hn:n<=B.length):P6 w (qG g n cap) (B.take n):=by
 obtain ⟨g',cap',cur,fr,e,h1,h2,h3,h4,h5,h6⟩:=h
 cases e
 refine ⟨g,cap,cur,fr,zL,h1,h2,zM,h4,h5,?_⟩;rw [Zr,Nat.min_eq_left hn]
 have:(cur.toList.take B.length).take n=(ni B).take n:=by rw [h6]
 rw [List.take_take,Nat.min_eq_left hn] at this;rw [this];simp [ni]
theorem Kx(w)(g n)(cur)(fr)(c:UInt8)(hg:w.heap[g]? =some (.cells cur 5 fr))(hf:fr=(0,0)\/cur.size<=fr.1)(hn:n<cur.size):(storeCells (qA g n) [.int .u8 (c.toNat:Int)] 0).run prog w= .ok () (w.setRow g (cur.setIfInBounds n (.int .u8 (c.toNat:Int)))):=by
 have hadd:((qA g n):Addr).add 0=(qA g n):=rfl
 have hcell:w.cell? (qA g n)=some cur[n]:=by simp [World.cell?,hg,hn]
 have hfro:w.frozen? (qA g n)=false:=by
  obtain ⟨lo,hi⟩:=fr;simp only [World.frozen?,hg,Bool.and_eq_false_iff,decide_eq_false_iff_not]
  rcases hf with hf | hf
  ·simp_all
  omega
 have hst:(store (((qA g n):Addr).add 0) (.int .u8 (c.toNat:Int))).run prog w= .ok () (w.setRow g (cur.setIfInBounds n (.int .u8 (c.toNat:Int)))):=by
  rw [hadd,run_store prog w _ _ _ rfl,hcell];simp [hfro,setCell_eq_setRow w g n cur 5 fr _ hg]
 simp only [storeCells,Sem.run_bind,hst,Result.andThen_ok];rfl
theorem Kt{w}{v}{B}(h:P6 w v B)(a)(ty)(c)(hc:w.cell? a=some (.int .u8 (c.toNat:Int)))(hB:B.length<1000000):
  ∃v' w',(Builtin.append_ #[141,141] ty #[v,.slice (some a) 1 1]).run prog w= .ok v' w'/\P6 w' v' (B++ [c])/\w.grownBy w' v.ownBlock/\∀g,v'.ownBlock=some g->v.ownBlock=some g\/w.heap.size<=g:=by
 obtain ⟨i0,hi,aD,aw,aH⟩:=info_parts infoByte
 have bB:∀j u,[Value.int .u8 (c.toNat:Int)][j]? =some u->w.cell? (a.add j)=some u:=fun j u hj=>by
  match j,hj with
  | 0,hj=>
   cases hj
   rw [show a.add 0=a from rfl];exact hc
  | j+1,hj=>simp at hj
 obtain ⟨g,cap,hv⟩:=h.aab;subst hv;have hcells:=h.cells;obtain ⟨g',cap',cur,fr,e,h1,h2,h3,h4,h5,h6⟩:=h
 cases e
 by_cases ar:B.length+1<=cap
 ·have hf:=run_firstCells_some (P:=prog) w 1 1 a 1 1 [.int .u8 (c.toNat:Int)] rfl bB;have hst:=Kx w g B.length cur fr c h1 h2 zj;refine ⟨qG g (B.length+1) cap,w.setRow g (cur.setIfInBounds B.length (.int .u8 (c.toNat:Int))),?_,?_,⟨rfl,rfl,rfl,zr,fun k _ hk=>setRow_other w g k _ (fun e=>hk (by simp [Value.ownBlock,e]))⟩,fun g hg=>.inl hg⟩
  ·simp [Builtin.append_,run_underlying underlying141,sizeOf,typeInfo,hi,aw,Builtin.lenOf,ar,hf,Addr.add_lit,hst]
  refine ⟨g,cap,_,fr,zr,setRow_heap w g cur _ _ _ h1,by simpa using h2,by simpa using ar,h4,by simpa using h5,?_⟩;rw [uQ,ZJ,Array.toList_setIfInBounds,oc,<-h6];have hl:B.length<cur.toList.length:=zm;have fw:B.length<(cur.toList.set B.length (Value.int .u8 (c.toNat:Int))).length:=qw;rw [List.take_succ_eq_append_getElem fw,List.take_set_of_le zg,List.getElem_set_self];rfl
 have hr:=run_append_grow (P:=prog) w 141 ty 5 i0 (.int .u8 0) underlying141 hi aD (qB g) B.length cap (ni B) zM hcells a 1 1 [.int .u8 (c.toNat:Int)] (by rw [aw];rfl) bB zj zj (by rw [aH];exact growslice_fits zj zj);have hge:=grownCap_ge w (B.length+1) cap 5;have hcm2:=grownCap_le_maxLen w (B.length+1) cap 5 zB;refine ⟨_,_,hr,⟨w.heap.size,_,_,(0,0),zr,heap_alloc_new w.drew _,.inl rfl,by simpa using hge,hcm2,?_,?_⟩,⟨rfl,rfl,rfl,zr,fun k hk _=>uR w.drew _ k (by simpa using hk)⟩,fun k hk=> ?_⟩
 ·have hz1':(Value.int IntKind.u8 0).cells.size=1:=rfl
  grind [Array.size_append,Zl,size_zeroCells,Lw]
 ·grind [Array.toList_append,Zo,oc,ni,Zk]
 cases hk
 simp_all
end
section
open RowKit
abbrev Lr:=List Int×List Int×List ByteArray
def Mf(n:Int):Value:=qI n
def ru(s:qY):Value:=.string s
structure J8 (w:qW) (B b:Nat) (v0 v1 v2:Value) (s:Lr):Prop where
 F3:p8 w b 84 [v0,v1,v2]
 r0:w.ownsRow B 3 1 v0 s.1.length (s.1.map Mf)
 r1:w.ownsRow B 3 1 v1 s.2.1.length (s.2.1.map Mf)
 r2:w.ownsRow B 9 1 v2 s.2.2.length (s.2.2.map ru)
 apart:v0.ownBlock=none\/v0.ownBlock≠v1.ownBlock
theorem Vx:(prog.info? 3).map (fun i=>(i.zero,i.size,i.bytes))=some (some (qI 0),1,8):=zk
theorem JB:(prog.info? 9).map (fun i=>(i.zero,i.size,i.bytes))=some (some (.string ⟨#[]⟩),1,16):=zk
theorem AO{S T}{z}{bytes}(hS:prog.underlying S=some (.slice T))(bX:(prog.info? T).map (fun i=>(i.zero,i.size,i.bytes))=some (some z,1,bytes))(hb1:bytes<=16)(hz:z.cells.size=1)
  {w:qW} {B n} {v} {xs} (h:w.ownsRow B T 1 v n xs) (hB:B<=w.heap.size) (hn:n<=1000) (u) (hu:u.oneCell'=true) (ty):
  ∃v' w3,(Builtin.append_ #[S,S] ty #[v,qG w.heap.size 1 1]).run prog (w.alloc (.cells #[u] T))= .ok v' w3/\w3.ownsRow B T 1 v' (n+1) (xs++ [u])/\w.grownBy w3 v.ownBlock/\(v'.ownBlock=v.ownBlock\/∀g,v'.ownBlock=some g->w.heap.size<=g):=by
 cases hi:prog.info? T with
 | none=>simp_all
 | some i=>
  rw [hi] at bX;simp only [YA,Option.some.injEq,Prod.mk.injEq] at bX;have h1:=h.alloc (.cells #[u] T);have hcell:=(mq w [u] T).cell
  obtain ⟨v',w3,ae,hown,hg,hv⟩:=Bn (P:=prog) (w.alloc (.cells #[u] T)) B S ty T i z 1 bytes hS hi bX.1 bX.2.1 bX.2.2 hz zj v n xs h1 (qB w.heap.size) 1 1 zj [u] rfl (fun j x hj=>by
   obtain rfl:j=0:=zM
   exact (hcell 0).trans hj) (fun x hx=>zL) yt (by have:(n+1)*bytes<=1001*16:=Nat.mul_le_mul zj hb1;omega) zm
  refine ⟨v',w3,ae,hown,?_,?_⟩
  ·exact ((YI w _ none).but _).trans hg
  rcases hv with hv | hv
  ·exact .inl hv
  simp_all
theorem p8.set{w}{b}{t}{cs}(h:p8 w b t cs)(i)(v):p8 (w.setCell (qA b i) v) b t (cs.set i v):=by
 have:=heap_setCell_same w b i cs.toArray t v h;exact ko5
theorem nJ{w}{B b n}{T}{v}{xs}{cs}(h:w.ownsRow B T 1 v n xs)(hb:p8 w b 84 cs)(hT:T≠84):v.ownBlock≠some b:=fun e=>by
 rcases h.2 with ⟨rfl,_⟩ | ⟨g,cap,cur,rfl,_,hg,_⟩
 ·cases e
 cases e
 simp_all
theorem De{w:qW}{B C m n}{T U}{v u}{xs ys}(h:w.ownsRow B T 1 v n xs)(k:w.ownsRow C U 1 u m ys)(hT:T≠U):v.ownBlock=none\/v.ownBlock≠u.ownBlock:=by
 rcases h.2 with ⟨rfl,_⟩ | ⟨g,cap,cur,rfl,_,hg,_⟩
 ·exact .inl rfl
 refine .inr (fun e=> ?_)
 rcases k.2 with ⟨rfl,_⟩ | ⟨g',cap',cur',rfl,_,hg',_⟩
 ·cases e
 cases e
 simp_all
theorem mz{w:qW}{B n}{T}{v x}{xs}{a}(h:w.ownsRow B T 1 v n xs)(ha:v.ownBlock≠some a.block):(w.setCell a x).ownsRow B T 1 v n xs:=by
 refine ⟨h.1,h.2.imp id ?_⟩;rintro ⟨g,cap,cur,rfl,h1,hg,h2⟩;exact ⟨g,cap,cur,rfl,h1,(heap_setCell_other w a g x (fun e=>ha (by rw [<-e];rfl))).trans hg,h2⟩
theorem PO{v0 v1 v':Value}{w:qW}{B n}{T}{xs}(h1:w.ownsRow B T 1 v1 n xs)(hv:v'.ownBlock=v0.ownBlock\/∀g,v'.ownBlock=some g->w.heap.size<=g)(h:v0.ownBlock=none\/v0.ownBlock≠v1.ownBlock):v'.ownBlock=none\/v'.ownBlock≠v1.ownBlock:=by
 rcases hv with hv | hv
 ·rw [hv];exact h
 cases e:v'.ownBlock with
 | none=>exact .inl rfl
 | some g=>exact .inr (fun q=>by have:=hv g e;have:=(h1.lt g q.symm).2;omega)
theorem tyI:3≠84:=zo
theorem tyS:9≠84:=zo
theorem zcp:3≠9:=zo
section
variable {w w3:qW} {B b:Nat} {v0 v1 v2 v':Value} {s:Lr}
theorem J8.adP(h:J8 w B b v0 v1 v2 s)(n)(ho:w3.ownsRow B 3 1 v' (s.1.length+1) (s.1.map Mf++ [Mf n]))(hg:w.grownBy w3 v0.ownBlock)(hv:v'.ownBlock=v0.ownBlock\/∀g,v'.ownBlock=some g->w.heap.size<=g)(hB:B<=b):
  J8 (w3.setCell (qB b) v') B b v' v1 v2 (s.1++ [n],s.2.1,s.2.2)/\(B<=w.heap.size->Below B w (w3.setCell (qB b) v')):=by
 have e0:=nJ h.r0 h.F3 tyI;have hb3:p8 w3 b 84 [v0,v1,v2]:=(hg.block b h.F3.lt (fun e=>e0 e.symm)).trans h.F3;have h1:=h.r1.kept hg (h.apart.elim (fun e=>zM) (fun e=>.inr (fun q=>e q.symm)));have h2:=h.r2.kept hg ((De h.r2 h.r0 (fun e=>zcp e.symm)));refine ⟨⟨hb3.set 0 v',ue,mz h1 (nJ h1 hb3 tyI),mz h2 (nJ h2 hb3 tyS),PO h.r1 hv h.apart⟩,fun hw=> ?_⟩;exact (((uM B w).mono zg).grown hg hw (fun k hk=>(h.r0.lt k hk).1)).setCell hB _
theorem J8.adJ(h:J8 w B b v0 v1 v2 s)(n)(ho:w3.ownsRow B 3 1 v' (s.2.1.length+1) (s.2.1.map Mf++ [Mf n]))(hg:w.grownBy w3 v1.ownBlock)(hv:v'.ownBlock=v1.ownBlock\/∀g,v'.ownBlock=some g->w.heap.size<=g)(hB:B<=b):
  J8 (w3.setCell (qA b 1) v') B b v0 v' v2 (s.1,s.2.1++ [n],s.2.2)/\(B<=w.heap.size->Below B w (w3.setCell (qA b 1) v')):=by
 have e1:=nJ h.r1 h.F3 tyI;have hb3:p8 w3 b 84 [v0,v1,v2]:=(hg.block b h.F3.lt (fun e=>e1 e.symm)).trans h.F3;have h0:=h.r0.kept hg h.apart;have h2:=h.r2.kept hg ((De h.r2 h.r1 (fun e=>zcp e.symm)));refine ⟨⟨hb3.set 1 v',mz h0 (nJ h0 hb3 tyI),ue,mz h2 (nJ h2 hb3 tyS),?_⟩,fun hw=> ?_⟩
 ·cases e:v0.ownBlock with
  | none=>exact .inl rfl
  | some g=>
   refine .inr (fun q=> ?_)
   rcases hv with hv | hv
   ·exact h.apart.elim (fun x=>by rw [e] at x;cases x) (fun x=>x (by rw [e,q,hv]))
   have:=hv g q.symm;have:=(h.r0.lt g e).2;omega
 exact (((uM B w).mono zg).grown hg hw (fun k hk=>(h.r1.lt k hk).1)).setCell hB _
theorem J8.adM(h:J8 w B b v0 v1 v2 s)(n)(ho:w3.ownsRow B 9 1 v' (s.2.2.length+1) (s.2.2.map ru++ [ru n]))(hg:w.grownBy w3 v2.ownBlock)(hB:B<=b):
  J8 (w3.setCell (qA b 2) v') B b v0 v1 v' (s.1,s.2.1,s.2.2++ [n])/\(B<=w.heap.size->Below B w (w3.setCell (qA b 2) v')):=by
 have e2:=nJ h.r2 h.F3 tyS;have hb3:p8 w3 b 84 [v0,v1,v2]:=(hg.block b h.F3.lt (fun e=>e2 e.symm)).trans h.F3;have h0:=h.r0.kept hg (De h.r0 h.r2 zcp);have h1:=h.r1.kept hg (De h.r1 h.r2 zcp);refine ⟨⟨hb3.set 2 v',mz h0 (nJ h0 hb3 tyI),mz h1 (nJ h1 hb3 tyI),by simpa using mz ho (nJ ho hb3 tyS),h.apart⟩,fun hw=> ?_⟩;exact (((uM B w).mono zg).grown hg hw (fun k hk=>(h.r2.lt k hk).1)).setCell hB _
end
end
section
open RowKit Extern.Stop Stop Extern
theorem zcu(a t)(w)(hg:w.cell? (qB 12)=some (.iface 172 (.agg #[.pointer (some (qA 19 25))]))):
  qC 25 #[.iface 437 (.pointer (some a)),.iface 69 (.pointer (some t))] w fun ev w'=>ev= .returned (.bool false)/\qL w w':=by
 have h6:= @run_callFunc_extern prog 70 _ (fun args=>ReflectliteValue.unpack (args.getD 0 (.tuple #[]))) func70 zk zk zk zk;have h7:= @run_callFunc_extern prog 71 _ (ReflectliteValue.methodAny (ReflectliteValue.valueError "reflectlite.Value.Type" 0) (fun t _ _ _=>ReflectliteType.toType t)) func71 zk zk zk zk;have h8:= @run_callFunc_extern prog 72 _ (ReflectliteValue.method (ReflectliteValue.valueError "reflectlite.Value.IsNil" 0) ReflectliteValue.isNil) func72 zk zk zk zk;have h27:= @run_callFunc_extern prog 398 _ (ReflectliteType.abiMethod fun t=>do pure (.int .u8 (<-Rtype.kind t))) func398 zk zk zk zk;have h37:= @run_callFunc_extern prog 410 _ (ReflectliteType.method ReflectliteType.elem) func410 zk zk zk zk;have h38:= @run_callFunc_extern prog 411 _ (ReflectliteType.relation "Implements" ReflectliteType.implements_) func411 zk zk zk zk;have ki:= @run_callFunc_extern prog 74 _ ReflectliteType.typeOf func74 zk zk zk zk;have h35:= @run_callFunc_extern prog 408 _ (ReflectliteType.relation "AssignableTo" ReflectliteType.assignableTo) func408 zk zk zk zk;have tO:=Tryz.aaS;have mA:=Tryz.U;have a25:=Tryz.abt;have f6:=Tryz.abQ;have f7:=Tryz.acD;have mK:=Tryz.abI;have mE:=Tryz.abP;have mI:=Tryz.aaD;have k27:=Tryz.acK;have k25:=Tryz.adh;have e27:=Tryz.acN;have i25:=Tryz.abq;have nA:=Tryz.ac3;have uE:=Tryz.aa4;have vE:=Tryz.aaN;have n8:=Tryz.acl (qB w.heap.size) t ((w.alloc (.cells #[.pointer (some t)] 69)).alloc (.cells #[.pointer (some (qA 19 69)),qP w.heap.size,.int .u64 150] 112)) zr
 have hlt:12<w.heap.size:=by
  rcases Yc 12 w.heap.size with h | h
  ·exact h
  simp [World.cell?,YN h] at hg
 have hg2:((w.alloc (.cells #[.pointer (some t)] 69)).alloc (.cells #[.pointer (some (qA 19 69)),qP w.heap.size,.int .u64 150] 112)).cell? (qB 12)=some (.iface 172 (.agg #[.pointer (some (qA 19 25))])):=by
  rw [Yr _ _ (qB 12) zm,Yr _ _ (qB 12) hlt];exact hg
 go_enter func25,ntmps25;go_wp2;refine wp_loop_rounds 1 ?_;rw [rounds_succ];go_wp2;go_ret;exact ⟨rfl,((zh _ _).alloc zr _).alloc zm _⟩
theorem zaA(a)(w):
  qC 26 #[.iface 437 (.pointer (some a)),.iface 437 (.pointer (some a))] w fun e w'=>e= .returned (.bool true)/\w'=w:=by
 obtain ⟨i,hi,hcmp⟩:=ZT.1 Tryz.acL;obtain ⟨j,hj,hjs⟩:=ZT.1 Tryz.aco;have h8:= @run_callFunc_extern prog 74 _ Extern.ReflectliteType.typeOf func74 zk zk zk zk;have h32:= @run_callFunc_extern prog 409 _ zcT func409 zk zk zk zk;have tT:=Tryz.aaS;have cT:=Tryz.aaF;have mR:=Tryz.C;have jR:=run_eql_iface_ptr_same (P:=prog) w a underlying25 underlying437 hi hcmp hj;go_enter func26,ntmps26;go_wp2;refine wp_loop_rounds 1 ?_;rw [rounds_succ];exact ka7
theorem Ug(a b)(ca cb)(ta tb)(w)(hne:a≠b)(ha:w.heap[a.block]? =some (.cells ca ta (0,0)))(hb:w.heap[b.block]? =some (.cells cb tb (0,0))):
  qC 26 #[.iface 437 (.pointer (some a)),.iface 437 (.pointer (some b))] w fun e w'=>e= .returned (.bool false)/\w'=w:=by
 obtain ⟨i,hi,hcmp⟩:=ZT.1 Tryz.acL;obtain ⟨j,hj,hjs⟩:=ZT.1 Tryz.aco;have h8:= @run_callFunc_extern prog 74 _ Extern.ReflectliteType.typeOf func74 zk zk zk zk;have h32:= @run_callFunc_extern prog 409 _ zcT func409 zk zk zk zk;have tT:=Tryz.aaS;have cT:=Tryz.aaF;have mR:=Tryz.C;have nE:=Tryz.ac8;have uE:=Tryz.aa4;have vE:=Tryz.aaN;have jR:=run_eql_iface_ptr_other (P:=prog) w underlying25 underlying437 hi hcmp hj (by rw [hjs];decide) hne ha hb;go_enter func26,ntmps26;go_wp2;refine wp_loop_rounds 1 ?_;rw [rounds_succ];exact ka7

end