import Derived.Test.YtebpcnkdhgnghaaGreatDoorPM01
import Derived.Test.YtebpcnkdhgnghaaGreatDoorPM02
import Derived.Test.YtebpcnkdhgnghaaGreatDoorPM03
import Derived.Test.YtebpcnkdhgnghaaGreatDoorPM04
import Derived.Shelf.SlSortCmp.NoneTotal
import Derived.WalkSmall
set_option linter.unusedSimpArgs false
set_option linter.unusedVariables false
set_option maxRecDepth 100000
set_option maxHeartbeats 64000000
namespace Go.Proofs.YtebpcnkdhgnghaaGreatDoor
open Go.Proofs.Tryz
variable {f:cA} {L zs:List Ltr} {xs:List Value} {base bc bm cap g k n p:Nat} {ao:Option Addr} {e:TypeId} {v:Value} {w w':World}
section
open Go.RowKit Go.Lib Go.Sort
def pK (l:Ltr):List Value:=[.int .i64 l.1,.int .u8 (l.2.1:Int),.bool (!l.2.2)]
theorem fW (l:Ltr):(pK l).length=3:=rfl
theorem AE (l:Ltr):∀v∈pK l,v.oneCell'=true:=by
 intro v hv;simp [pK] at hv;exact kn6
theorem co {b o:Nat} (hb:Below w.heap.size w w') (h:w.cell? ⟨b,o,none⟩=some v):w'.cell? ⟨b,o,none⟩=some v:=by
 exact kg2
def LtrsIn (w:World) (ao:Option Addr) (zs:List Ltr):Prop:=zs= []\/∃blk off,ao=some ⟨blk,off,none⟩/\∀j u,(aI pK zs)[j]? =some u->w.cell? ⟨blk,off+j,none⟩=some u
theorem LtrsIn.later (h:LtrsIn w ao zs) (hb:Below w.heap.size w w'):LtrsIn w' ao zs:=by
 rcases h with h | ⟨g,o,h1,h2⟩
 ·exact .inl h
 exact .inr ⟨g,o,h1,fun j u hj=>co hb (h2 j u hj)⟩
theorem LtrsIn.at (h:LtrsIn w ao zs) {i:Nat} {a:Int} {c:Nat} {g:Bool} (hi:zs[i]? =some (a,c,g)):∃blk off,ao=some ⟨blk,off,none⟩/\w.cell? ⟨blk,off+i*3,none⟩=some (.int .i64 a)/\w.cell? ⟨blk,off+i*3+1,none⟩=some (.int .u8 (c:Int))/\w.cell? ⟨blk,off+i*3+2,none⟩=some (.bool (!g)):=by
 rcases h with h | ⟨b,o,h1,h2⟩
 ·subst h;simp at hi
 have hg:=fun k hk=>cX (enc:=pK) (k:=3) fW (c:=k) hi hk
 refine ⟨b,o,h1,?_,?_,?_⟩
 ·exact h2 (i*3+0) _ (hg 0 zj)
 ·rw [uT];exact h2 _ _ (hg 1 zj)
 rw [uT];exact h2 _ _ (hg 2 zj)
def JT (g:Nat) (lb:Array Value) (p:Ltr->Bool) (w:World):Prop:=
 ∀(W:World) (a:Int) (c:Nat) (gn:Bool),Below w.heap.size w W->Calls prog g (#[.agg #[.int .i64 a,.int .u8 (c:Int),.bool (!gn)]]++lb) W fun e w'=>e= .returned (.bool (p (a,c,gn)))/\Below w.heap.size w w'
theorem mW (p:Ltr->Bool) (g:Nat) (lb:Array Value) (eg:∀args w,(callFunc g args).run prog w= .ok (.enter g args) w) (ao:Option Addr) (cap:Nat) (zs:List Ltr) (w:World) (hp:JT g lb p w) (hbig:zs.length<=1000000) (hin:LtrsIn w ao zs):
  Calls prog 262 #[.slice ao zs.length cap,.func (.func g) #[] lb] w fun e w'=>∃r:Int,e= .returned (.int .i64 r)/\Aside (Ln p zs r/\Below w.heap.size w w'):=by
 have HP:Aside (JT g lb p w):=hp;have HI:Aside (LtrsIn w ao zs):=hin;clear hp hin;go_enter func262,ntmps262;go_wp2;go_loopg [5,8] zs.length (fun kx _ s8 wr=>∃(k:Nat),s8= .int .i64 (k:Int)/\k<=zs.length/\zs.length - k<=kx/\Aside (Below w.heap.size w wr/\∀j l,j<k->zs[j]? =some l->p l=false))
 case atStart=>exact ⟨0,rfl,vM _,vB _,⟨vG _ w,fun j l hj=>zj⟩⟩
 case round=>
  obtain ⟨k,rfl,hk,hkx,A⟩:=hrel;by_cases hlt:k<zs.length
  ·have hltz:decide ((k:Int)<(zs.length:Int))=true:=by simp;omega
   have ek:((k:Int)).toNat=k:=zj;have pk:(0:Int)<=(k:Int):=zj;have bk:(k:Int)<(zs.length:Int):=zj
   obtain ⟨⟨a,c,gn⟩,hl⟩:∃l,Aside (zs[k]? =some l):=⟨zs[k],vF hlt⟩
   obtain ⟨blk,off,rfl,c0,c1,c2⟩:=(HI.o.later A.o.1).at hl.o;have hcall:=HP.o wr a c gn A.o.1
   cases hq:p (a,c,gn) with
   | true=>
    exact kg5
   | false=>
    rw [hq] at hcall;have HQ:=Lib.hid hq;clear hq;go_wp2_with (go_at_fn g;refine hcall.mono ?_;rintro e w' ⟨rfl,hb'⟩);go_roundg (zs.length - (k+1))
    case measure=>omega
    case rel=>
     refine ⟨k+1,zw,zj,vB _,⟨hb',fun j l hj e=> ?_⟩⟩
     rcases uB j k with h | h
     ·exact A.o.2 j l h e
     exact kn7
  exact kg0
theorem Gt (id:Int) (B:Nat) (w:World) (hB:B<w.heap.size) (hc:w.cell? ⟨B,0,none⟩=some (.int .i64 id)):JT 263 #[.pointer (some ⟨B,0,none⟩)] (fun l=>decide (l.1=id)) w:=fun W a c gn hb=>by
 have hc':W.cell? ⟨B,0,none⟩=some (.int .i64 id):=(hb.cell (p:=⟨B,0,none⟩) hB).trans hc;have hBW:B<W.heap.size:=vV hB hb.size;have hne:B≠W.heap.size:=zj;clear hc
 show Calls prog 263 #[.agg #[.int .i64 a,.int .u8 (c:Int),.bool (!gn)],.pointer (some ⟨B,0,none⟩)] W _
 go_enter func263,ntmps263;go_wp2
 all_goals (go_ret;exact ⟨by simp [BEq.beq],hb.alloc hb.size _⟩)
theorem IS (id:Int) (B:Nat) (w:World) (hB:B<w.heap.size) (hc:w.cell? ⟨B,0,none⟩=some (.int .i64 id)):JT 266 #[.pointer (some ⟨B,0,none⟩)] (fun l=>decide (l.1<id)) w:=fun W a c gn hb=>by
 have hc':W.cell? ⟨B,0,none⟩=some (.int .i64 id):=(hb.cell (p:=⟨B,0,none⟩) hB).trans hc;have hBW:B<W.heap.size:=vV hB hb.size;have hne:B≠W.heap.size:=zj;clear hc
 show Calls prog 266 #[.agg #[.int .i64 a,.int .u8 (c:Int),.bool (!gn)],.pointer (some ⟨B,0,none⟩)] W _
 go_enter func266,ntmps266;go_wp2
 all_goals (go_ret;exact ⟨rfl,hb.alloc hb.size _⟩)
structure LineAt (base:Nat) (w:World) (p:Nat) (v:Value) (L:List Ltr):Prop where
 cell:w.heap[p]? =some (.cells #[v] 280 (0,0))
 row:w.ownsRow base 282 3 v L.length (aI pK L)
 low:p<base
 nodup:(L.map (·.1)).Nodup
 pos:∀l∈L,l.1≠0
 small:∀l∈L,l.2.1<256
theorem LineAt.c0 (h:LineAt base w p v L):w.cell? ⟨p,0,none⟩=some v:=qJ
theorem LineAt.lt (h:LineAt base w p v L):p<w.heap.size:=(vD.1 h.cell).1
theorem gT (h:w.ownsRow base e k v n xs) (hs:∀g,v.ownBlock=some g->w'.heap[g]? =w.heap[g]?):w'.ownsRow base e k v n xs:=by
 refine ⟨h.1,?_⟩
 rcases h.2 with h0 | ⟨g,cap,cur,rfl,h1,hg,h2⟩
 ·exact .inl h0
 exact km3
theorem LineAt.same (h:LineAt base w p v L) (h1:w'.heap[p]? =w.heap[p]?) (h2:∀g,v.ownBlock=some g->w'.heap[g]? =w.heap[g]?):LineAt base w' p v L:=
 ⟨h1.trans h.cell,gT h.row h2,h.low,h.nodup,h.pos,h.small⟩
theorem LineAt.later (h:LineAt base w p v L) (hb:Below w.heap.size w w'):LineAt base w' p v L:=
 h.same (hb.block _ h.lt) (fun g hg=>hb.block g (h.row.lt g hg).2)
theorem cP (h:w.ownsRow base e k v n xs):∃ao cap,v= .slice ao n cap:=by
 rcases h.2 with ⟨h1,h2⟩ | ⟨g,cap,cur,rfl,_⟩
 ·subst h2;exact ⟨_,_,h1⟩
 exact ⟨_,_,rfl⟩
theorem rN (h:w.ownsRow base 282 3 (.slice ao L.length cap) L.length (aI pK L)):LtrsIn w ao L:=by
 have h':=h
 rcases h.2 with ⟨h1,h2⟩ | ⟨g,cap',cur,hv,_⟩
 ·exact kj5
 cases hv
 refine .inr ⟨g,0,rfl,fun j u hj=> ?_⟩;have hl:j<(aI pK L).length:=(vA.1 hj).1;rw [bX fW] at hl;exact ko1
theorem Jd (w:World):Calls prog 136 #[] w fun e w'=>e= .returned (.pointer (some ⟨w.heap.size,0,none⟩))/\w'=w.alloc (.cells #[.slice none 0 0] 280):=by
 go_enter func136,ntmps136;exact kb3
theorem dw (w:World) (base p:Nat) (v:Value) (L:List Ltr) (id:Int) (h:LineAt base w p v L) (hL:L.length<=1000):
  Calls prog 204 #[.pointer (some ⟨p,0,none⟩),.int .i64 id] w fun e w'=>e= .returned (.int .i64 (iC id L))/\Below w.heap.size w w':=by
 obtain ⟨ao,cap,rfl⟩:=cP h.row;have eg:∀args w,(callFunc 263 args).run prog w= .ok (.enter 263 args) w:=enters_of func263 zo rfl;have hbx:Below w.heap.size w (w.alloc (.cells #[.int .i64 id] 3)):=zh w _;have hc:=mW (fun l=>decide (l.1=id)) 263 #[.pointer (some ⟨w.heap.size,0,none⟩)] eg ao cap L (w.alloc (.cells #[.int .i64 id] 3)) (Gt id w.heap.size _ zt qe) zj ((rN h.row).later hbx);have c0:=h.c0;have hpl:=h.lt;have HB:=Lib.hid hbx;clear h eg hbx;go_enter func204,ntmps204;go_wp2_with fail;refine hc.mono ?_;rintro e w1 ⟨r,rfl,hr⟩;go_wp2;go_ret;exact ⟨by rw [oT hr.o.1];rfl,HB.o.trans (hr.o.2.mono zt)⟩
theorem Al (w:World) (base p k:Nat) (v:Value) (L:List Ltr) (id:Int) (h:LineAt base w p v L) (hL:L.length<=1000) (hk:k<=L.length) (hn:id∉L.map (·.1)):
  Calls prog 206 #[.pointer (some ⟨p,0,none⟩),.int .i64 (k:Int),.int .i64 id] w fun e w'=>e= .returned (.int .i64 ((k+cl id (L.drop k):Nat):Int))/\Below w.heap.size w w':=by
 have HN:Aside (id∉(L.drop k).map (·.1)):=fun hm=>hn (by
  obtain ⟨l,hl,e⟩:=uh.1 hm
  exact uh.2 ⟨l,Zh hl,e⟩)
 have HS:Aside (cl id (L.drop k)<=L.length - k):=by have:=lP id (L.drop k);rwa [ur] at this
 obtain ⟨ao,cap,rfl⟩:=cP h.row
 have hLc:L.length<=cap:=by
  rcases h.row.2 with ⟨h1,h2⟩ | ⟨g,cap',cur,hv,_,_,h3,_⟩
  ·omega
  cases hv;exact h3
 have eg:∀args w,(callFunc 266 args).run prog w= .ok (.enter 266 args) w:=enters_of func266 zo rfl;have hbx:Below w.heap.size w (w.alloc (.cells #[.int .i64 id] 3)):=zh w _;have hdl:(L.drop k).length=L.length - k:=ur
 have hc:∀ap,LtrsIn w ap (L.drop k)->Calls prog 262 #[.slice ap (L.length - k) (cap - k),.func (.func 266) #[] #[.pointer (some ⟨w.heap.size,0,none⟩)]] (w.alloc (.cells #[.int .i64 id] 3)) _:=fun ap hap=>by
  have:=mW (fun l=>decide (l.1<id)) 266 #[.pointer (some ⟨w.heap.size,0,none⟩)] eg ap (cap - k) (L.drop k) (w.alloc (.cells #[.int .i64 id] 3)) (IS id w.heap.size _ zt qe) (by rw [hdl];omega) (hap.later hbx);rw [hdl] at this;exact this
 have c0:=h.c0;have hpl:=h.lt;have HI:Aside (LtrsIn w ao L):=rN h.row;have HB:=Lib.hid hbx;clear h eg hbx
 obtain ⟨q,hq⟩:∃q,Aside (cl id (L.drop k)=q):=⟨_,rfl⟩
 rw [hq.o] at HS |-
 have hq2:q<=L.length - k:=HS.o;have d0:decide ((q:Int)<0)=false:=zt;have e0:IntKind.i64.wrap ((k:Int)+(q:Int))=(k:Int)+(q:Int):=zu;have HD:=Lib.hid hdl;clear hdl HS;go_enter func206,ntmps206;go_wp2_with fail
 ·have hd0:L.drop k= []:=Za zj;have hc':=hc ao (.inl hd0);rw [show cap - k=0 by omega] at hc'
  have hf:L.length=k+q:=by rw [<-hq.o,hd0];simp only [cl];omega
  have HF:=Lib.hid hf;have hck:cap=k:=yS
  have c0':w.cell? ⟨p,0,none⟩=some (Value.slice ao L.length k):=by rw [<-hck];exact c0
  refine hc'.mono ?_;rintro e w1 ⟨r,rfl,hr⟩
  have hr1:r= -1:=by
   rcases hr.o.1 with ⟨h,_⟩ | ⟨i,l,_,hl,_⟩
   ·exact h
   rw [hd0] at hl;simp at hl
  subst hr1;have hB1:Below w.heap.size w w1:=HB.o.trans (hr.o.2.mono zt);have c1:=co hB1 c0';have H1:=Lib.hid hB1;clear hB1 hr hc' hf hd0 hck c0 c0' hc hLc;go_wp2;go_ret;exact ⟨by rw [HF.o];rfl,H1.o⟩
 have hLp:LtrsIn w (ao.map (fun x=>x.add (k*3))) (L.drop k):=by
  rcases HI.o with h0 | ⟨b,o,rfl,hcell⟩
  ·subst h0;exact .inl zt
  refine .inr ⟨b,o+k*3,by simp [Addr.add],fun j u hj=> ?_⟩;rw [<-dB fW L k hk,uP] at hj;rw [uT];exact hcell _ u hj
 refine (hc _ hLp).mono ?_;clear hc HI hLp;rintro e w1 ⟨r,rfl,hr⟩;have hB1:Below w.heap.size w w1:=HB.o.trans (hr.o.2.mono zt);have c1:=co hB1 c0;have H1:=Lib.hid hB1
 rcases LL HN.o hr.o.1 with ⟨rfl,hs⟩ | hs
 ·have hf:L.length=k+q:=by rw [hq.o,HD.o] at hs;omega
  have HF:=Lib.hid hf;clear hB1 hr hs hf;go_wp2;go_ret;exact ⟨by rw [HF.o];rfl,H1.o⟩
 rw [hq.o] at hs;subst hs;clear hB1 hr;go_wp2;go_ret;exact ⟨zt,H1.o⟩
end
section
open Go.Shelf Go.RowKit Go.Lib
theorem ss:(prog.info? 300).map (fun i=>(i.zero,i.size,i.bytes))=some (some (.agg #[.int .i64 0,.int .i64 0,.int .i64 0,.int .i64 0,.string ⟨#[]⟩,.int .i64 0,.int .i64 0,.string ⟨#[]⟩]),8,80):=zo
def Lj (w:World) (base:Nat) (v:Value) (n:Nat) (ys:List Value) (e:Ending) (w':World):Prop:=
 ∃v',e= .returned v'/\w'.ownsRow base 300 8 v' (n+1) ys/\Keeps (fun k=>some k=v.ownBlock) w w'/\(v'.ownBlock=v.ownBlock\/v'.ownBlock=some w.heap.size)
theorem Bq (w:World) (base:Nat) (v:Value) (n:Nat) (xs vs:List Value) (hown:w.ownsRow base 300 8 v n xs) (hn:n<=1000) (vb:Nat) (hv:vs.length=8)
  (hvs:∀j u,vs[j]? =some u->w.cell? ⟨vb,j,none⟩=some u) (h1v:∀u∈vs,u.oneCell'=true) (hbase:base<=w.heap.size):
  Calls prog 201 #[v,.int .i64 n,.slice (some ⟨vb,0,none⟩) 1 1] w (Lj w base v n (xs++vs)):=by
 obtain ⟨i0,hi,hz0,hz1,hz2⟩:=info_parts ss
 obtain ⟨v',w',hrun,ho,hg,hb⟩:=rA (P:=prog) w base 194 194 300 i0 _ 8 80 underlying194 hi hz0 hz1 hz2 rfl zj v n xs hown ⟨vb,0,none⟩ 1 1 zj vs zj
  (fun j u hj=>jq) h1v zA zj hbase
 have hfin:Aside (Lj w base v n (xs++vs) (.returned v') w'):=⟨v',rfl,ho,aV hg,hb⟩
 rcases hown.2 with ⟨rfl,rfl⟩ | ⟨g,cap,cur,rfl,hbg,hgb,hnc,hcm,hcs,htake⟩
 ·clear hown ho hg hb hvs h1v;go_enter func201,ntmps201;exact kk4
 clear hown ho hg hb hvs h1v htake hcs hgb hbg;go_enter func201,ntmps201;go_wp2_with (at_builtin;refine Lib.wpList_append_run _ rfl _ _ _ _ rfl _ _ rfl rfl _ _ hrun ?_)
 all_goals (go_ret;exact hfin.o)
theorem tY (w:World) (base g n cap i:Nat) (xs vs:List Value) (hown:w.ownsRow base 300 8 (.slice (some ⟨g,0,none⟩) n cap) n xs) (hn:n<=1000) (vb:Nat) (hv:vs.length=8)
  (hvs:∀j u,vs[j]? =some u->w.cell? ⟨vb,j,none⟩=some u) (h1v:∀u∈vs,u.oneCell'=true) (h1x:∀u∈xs,u.oneCell'=true) (hvb:vb≠g) (hsa:w.shape? vb=some (300,8)) (hfa:∀j,w.frozen? ⟨vb,j,none⟩=false)
  (hi:i<n) (hroom:n+1<=cap):
  Calls prog 201 #[.slice (some ⟨g,0,none⟩) n cap,.int .i64 i,.slice (some ⟨vb,0,none⟩) 1 1] w (Lj w base (.slice (some ⟨g,0,none⟩) n cap) n (xs.take (i*8)++vs++xs.drop (i*8))):=by
 have hL:Aside (∀W:World,W.heap=w.heap->W.os=w.os->W.tape=w.tape->W.output=w.output->Lj w base (.slice (some ⟨g,0,none⟩) n cap) n (xs.take (i*8)++vs++xs.drop (i*8)) (.returned (.slice (some ⟨g,0,none⟩) (n+1) cap)) ((W.setCells g ((i+1)*8) (xs.drop (i*8))).setCells g (i*8) vs)):=by
  intro W h0 h2 h3 h4;have hownW:W.ownsRow base 300 8 (.slice (some ⟨g,0,none⟩) n cap) n xs:=vg;have k1:=(aZ g (xs.drop (i*8)) ((i+1)*8) W).trans (aZ g vs (i*8) _);exact kf9
 obtain ⟨hxl,h2⟩:=hown
 rcases h2 with ⟨hc,_⟩ | ⟨g',cap',cur,hc,hbg,hgb,hnc,hcm,hcs,htake⟩
 ·cases hc
 cases hc
 have hcm':cap<=9223372036854775807:=by simp only [maxLen] at hcm;omega
 have hsp:∀j,j<(n+1)*8->(w.cell? ⟨g,j,none⟩).isSome=true:=fun j hj=>by
  have:j<cur.size:=by rw [hcs];omega
  simp [World.cell?,hgb,this]
 have hfz:∀j,w.frozen? ⟨g,j,none⟩=false:=fun j=>by simp [World.frozen?,hgb]
 have hcell:∀j u,xs[j]? =some u->w.cell? ⟨g,j,none⟩=some u:=fun j u hj=>by
  exact kd7
 have hsb:w.shape? g=some (300,cap*8):=by simp [World.shape?,hgb,hcs]
 have hsz:(prog.info? 300).map (·.size)=some 8:=by
  obtain ⟨i0,hi0,_,h1,_⟩:=info_parts ss;rw [hi0];simp [h1]
 have hov:∀lb cb,(callFunc 259 #[.slice (some ⟨vb,0,none⟩) 1 1,.slice (some ⟨g,(i+1)*8,none⟩) lb cb]).run prog w= .ok (.value (.bool false)) w:=fun lb cb=>by
  rw [run_callFunc_extern func259 zo zo zo (e:=Extern.SlicesOverlaps.overlaps #[194,194] #[4]) zo,
   Lib.run_overlaps_apart w 194 4 300 underlying194 8 sizeOf300 ⟨vb,0,none⟩ ⟨g,(i+1)*8,none⟩ 1 1 lb cb hvb 300 300 8 (cap*8) hsa hsb zj (hfa 0) (hfa 8)]
  rfl
 have hdl:(xs.drop (i*8)).length=n*8 - i*8:=qH
 have hcp1:∀ty dc sc,(Builtin.copy_ #[194,194] ty #[.slice (some ⟨g,(i+1)*8,none⟩) (n - i) dc,.slice (some ⟨g,i*8,none⟩) (n+1 - i) sc]).run prog w.drew= .ok (goInt ((n - i:Nat):Int)) (w.drew.setCells g ((i+1)*8) (xs.drop (i*8))):=fun ty dc sc=>by
  have hmin:Nat.min (n+1 - i) (n - i)=n - i:=yi
  have:=cG (P:=prog) w.drew 194 194 ty 300 8 g ((i+1)*8) (n - i) dc ⟨g,i*8,none⟩ (n+1 - i) sc (xs.drop (i*8)) underlying194 hsz xl
   (fun j u hj=>by rw [Addr.add_lit];exact hcell _ u (by rwa [uP] at hj))
   (fun j hj=>hsp _ qZ) (fun j _=>hfz _) (fun u hu=>h1x u (Zh hu))
  exact ki9
 obtain ⟨W1,hW1⟩:=zc (w.drew.setCells g ((i+1)*8) (xs.drop (i*8)))
 have hsp1:∀j,j<(n+1)*8->(W1.cell? ⟨g,j,none⟩).isSome=true:=fun j hj=>by
  rw [hW1];exact isSome_setCells g (xs.drop (i*8)) ((i+1)*8) w.drew (fun t ht=>hsp ((i+1)*8+t) (by rw [hdl] at ht;omega)) _ (hsp j hj)
 have hcp2:∀(W:World),(∀x,W.cell? x=W1.cell? x)->(∀x,W.frozen? x=W1.frozen? x)->∀ty dc,(Builtin.copy_ #[194,194] ty #[.slice (some ⟨g,i*8,none⟩) (n+1 - i) dc,.slice (some ⟨vb,0,none⟩) 1 1]).run prog W= .ok (goInt 1) (W.setCells g (i*8) vs):=fun W hWc hWf ty dc=>by
  have hmin:Nat.min 1 (n+1 - i)=1:=yi
  have:=cG (P:=prog) W 194 194 ty 300 8 g (i*8) (n+1 - i) dc ⟨vb,0,none⟩ 1 1 vs underlying194 hsz ju
   (fun j u hj=>by
    rw [Addr.add_lit,vQ,hWc,hW1,ZM g _ _ _ _ (fun h _=>absurd h hvb)]
    exact hvs j u hj)
   (fun j hj=>by rw [hWc];exact hsp1 _ zj) (fun j _=>by rw [hWf,hW1,ZR];exact hfz _) h1v
  exact ki9
 rw [<-hW1] at hcp1;have hw1:IntKind.i64.wrap ((i:Int)+1)=(i:Int)+1:=zu;have hw2:IntKind.i64.wrap ((n:Int)+1)=(n:Int)+1:=zu;have hb1:(0:Int)<=(i:Int)+1:=zj;have hz2:¬((i:Int)=(n:Int)):=zj;have hin:i<=n:=zj;have htn:((i:Int)+1).toNat=i+1:=zj;have htn2:((n:Int)+1).toNat=n+1:=zj;have hb2:¬(cap=i+1):=zj;have hb3:(i:Int)<=(n:Int)+1:=zj;have hb4:¬(cap=i):=zj;have hb5:¬((cap:Int)<(n:Int)+1):=zj;clear htake hcs hgb hsp hfz hcell hsb hcm hxl hdl hvs h1v h1x hsa hfa hsp1 hbg;go_enter func201,ntmps201;go_wp2_with (simp only [hov]);have mixed:prog.follows .mixedOrders=true:=zo;go_region_law_o (refine step_copy_runI rfl _ _ 194 194 rfl _ _ yl yl (hcp1 _ _ _) ?_);clear mixed;go_wp2_with (at_builtin;refine wpList_copy_runI _ rfl _ _ 194 194 rfl _ _ rfl rfl (hcp2 _ (fun _=>rfl) (fun _=>rfl) _ _) ?_);go_ret;subst hW1;exact hL.o w.drew rfl rfl rfl rfl
theorem wX (w:World) (base g n cap i:Nat) (xs vs:List Value) (hown:w.ownsRow base 300 8 (.slice (some ⟨g,0,none⟩) n cap) n xs) (hn:n<=1000) (vb:Nat) (hv:vs.length=8)
  (hvs:∀j u,vs[j]? =some u->w.cell? ⟨vb,j,none⟩=some u) (h1v:∀u∈vs,u.oneCell'=true) (h1x:∀u∈xs,u.oneCell'=true) (hbase:base<=w.heap.size)
  (hi:i<n) (hroom:cap<n+1):
  Calls prog 201 #[.slice (some ⟨g,0,none⟩) n cap,.int .i64 i,.slice (some ⟨vb,0,none⟩) 1 1] w (Lj w base (.slice (some ⟨g,0,none⟩) n cap) n (xs.take (i*8)++vs++xs.drop (i*8))):=by
 obtain ⟨hxl,h2⟩:=hown
 rcases h2 with ⟨hc,_⟩ | ⟨g',cap',cur,hc,hbg,hgb,hnc,hcm,hcs,htake⟩
 ·cases hc
 cases hc
 obtain ⟨i0,hi0,hz0,hzs,hzb⟩:=info_parts ss
 have hcell:∀j u,xs[j]? =some u->w.cell? ⟨g,j,none⟩=some u:=fun j u hj=>by
  exact kd7
 have hgw:g<w.heap.size:=(vD.1 hgb).1;have hvw:vb<w.heap.size:=block_lt_of_cell (hvs 0 _ (vF zj))
 have hsz:(prog.info? 300).map (·.size)=some 8:=by rw [hi0];simp [hzs]
 have htl:(xs.take (i*8)).length=i*8:=by rw [vW,hxl];omega
 have hdl:(xs.drop (i*8)).length=n*8 - i*8:=qH
 have hold:(Builtin.firstCells i0.size i (.slice (some ⟨g,0,none⟩) i cap)).run prog w.drew= .ok (xs.take (i*8)).toArray w.drew:=by
  rw [hzs]
  exact run_firstCells_some w.drew 8 i ⟨g,0,none⟩ i cap (xs.take (i*8)) htl (fun j u hj=>by
   rw [Addr.add_lit,vQ]
   rw [Zd] at hj
   split at hj
   ·exact hcell j u hj
   ·cases hj)
 have hik:i+(n+1 - i)=n+1:=zj;have hkk:(n:Int)+1 - (i:Int)=((n+1 - i:Nat):Int):=zj;obtain ⟨Z,hZ⟩:=zc ((Value.agg #[.int .i64 0,.int .i64 0,.int .i64 0,.int .i64 0,.string ⟨#[]⟩,.int .i64 0,.int .i64 0,.string ⟨#[]⟩]).cells)
 have hZs:Z.size=8:=by rw [hZ];rfl
 obtain ⟨G,hG⟩:=zc (grownCap w (n+1) cap 300)
 have hGn:n+1<=G:=by rw [hG];exact grownCap_ge w _ _ _
 have hGm:G<=maxLen:=by rw [hG];exact grownCap_le_maxLen w (n+1) cap 300 xi
 obtain ⟨ROW,hROW⟩:∃ROW:Array Value,ROW=(xs.take (i*8)).toArray++Builtin.zeroCells Z (n+1 - i)++Builtin.zeroCells Z (G - (n+1)):=⟨_,rfl⟩
 have hrz:∀ty,(Builtin.append_ #[194,3] ty #[.slice (some ⟨g,0,none⟩) i cap,.int .i64 ((n:Int)+1 - (i:Int))]).run prog w= .ok (.slice (some ⟨w.heap.size,0,none⟩) (n+1) G) (w.drew.alloc (.cells ROW 300)):=fun ty=>by
  have h:=Lib.run_append_grow_zeros w 194 3 ty 300 i0 _ .i64 .i64 underlying194 underlying3 hi0 hz0 (some ⟨g,0,none⟩) i cap (xs.take (i*8)) hold (n+1 - i) zj zj zj zj (by rw [hzb];omega) xV;rw [hik,<-hG,<-hZ,<-hROW] at h;rw [hkk];exact h
 have hRs:ROW.size=G*8:=by
  exact kn3
 have hRl:∃Y,ROW.toList=xs.take (i*8)++Y:=⟨(Builtin.zeroCells Z (n+1 - i)++Builtin.zeroCells Z (G - (n+1))).toList,by rw [hROW];simp⟩
 obtain ⟨W1,hW1⟩:=zc (w.drew.alloc (.cells ROW 300));rw [<-hW1] at hrz
 have hN:∀j,j<(n+1)*8->(W1.cell? ⟨w.heap.size,j,none⟩).isSome=true:=fun j hj=>by
  exact kl5
 have hNf:∀j,W1.frozen? ⟨w.heap.size,j,none⟩=false:=fun j=>by rw [hW1];exact World.frozen?_alloc_at (w:=w.drew) ROW _ w.heap.size j rfl
 have hOb:∀j u,w.cell? ⟨g,j,none⟩=some u->W1.cell? ⟨g,j,none⟩=some u:=fun j u h=>by rw [hW1,ZS (w:=w.drew) _ g j hgw];exact h
 have hOv:∀j u,w.cell? ⟨vb,j,none⟩=some u->W1.cell? ⟨vb,j,none⟩=some u:=fun j u h=>by rw [hW1,ZS (w:=w.drew) _ vb j hvw];exact h
 have hcpA:∀(W:World),(∀x,W.cell? x=W1.cell? x)->(∀x,W.frozen? x=W1.frozen? x)->∀ty dc,(Builtin.copy_ #[194,194] ty #[.slice (some ⟨w.heap.size,i*8,none⟩) (n+1 - i) dc,.slice (some ⟨vb,0,none⟩) 1 1]).run prog W= .ok (goInt 1) (W.setCells w.heap.size (i*8) vs):=fun W hWc hWf ty dc=>by
  have hmin:Nat.min 1 (n+1 - i)=1:=yi
  have:=cG (P:=prog) W 194 194 ty 300 8 w.heap.size (i*8) (n+1 - i) dc ⟨vb,0,none⟩ 1 1 vs underlying194 hsz ju
   (fun j u hj=>xD)
   (fun j hj=>by rw [hWc];exact hN _ zj) (fun j _=>by rw [hWf];exact hNf _) h1v
  exact ki9
 have hgN:g≠w.heap.size:=zj
 have hcpB:∀(W:World),(∀x,W.cell? x=(W1.setCells w.heap.size (i*8) vs).cell? x)->(∀x,W.frozen? x=(W1.setCells w.heap.size (i*8) vs).frozen? x)->∀ty dc sc,(Builtin.copy_ #[194,194] ty #[.slice (some ⟨w.heap.size,(i+1)*8,none⟩) (n - i) dc,.slice (some ⟨g,i*8,none⟩) (n - i) sc]).run prog W= .ok (goInt ((n - i:Nat):Int)) (W.setCells w.heap.size ((i+1)*8) (xs.drop (i*8))):=fun W hWc hWf ty dc sc=>by
  have hmin:Nat.min (n - i) (n - i)=n - i:=by simp [Nat.min_def]
  have:=cG (P:=prog) W 194 194 ty 300 8 w.heap.size ((i+1)*8) (n - i) dc ⟨g,i*8,none⟩ (n - i) sc (xs.drop (i*8)) underlying194 hsz xl
   (fun j u hj=>by
    rw [Addr.add_lit,hWc,ZM _ _ _ _ _ (fun h _=>absurd h hgN)]
    exact hOb _ u (hcell _ u (by rwa [uP] at hj)))
   (fun j hj=>by rw [hWc];exact isSome_setCells w.heap.size vs (i*8) W1 (fun t ht=>hN _ zj) _ (hN _ qZ))
   (fun j _=>by rw [hWf,ZR];exact hNf _) (fun u hu=>h1x u (Zh hu))
  exact ki9
 have hL:Aside (∀W:World,W.heap=W1.heap->W.os=w.os->W.tape=w.tape->W.output=w.output->Lj w base (.slice (some ⟨g,0,none⟩) n cap) n (xs.take (i*8)++vs++xs.drop (i*8)) (.returned (.slice (some ⟨w.heap.size,0,none⟩) (n+1) G)) ((W.setCells w.heap.size (i*8) vs).setCells w.heap.size ((i+1)*8) (xs.drop (i*8)))):=by
  intro W h0 h2 h3 h4;have hgW:W.heap[w.heap.size]? =some (.cells ROW 300 (0,0)):=jS;obtain ⟨Y,hY⟩:=hRl;have k1:=(aZ w.heap.size vs (i*8) W).trans (aZ w.heap.size (xs.drop (i*8)) ((i+1)*8) _);exact ke0
 have hG63:G<=9223372036854775807:=by unfold maxLen at hGm;omega
 have hGi:¬(G=i):=zj;have hGim:¬(G=i+1):=zj;have hci:¬(cap=i):=zj;have hw1:IntKind.i64.wrap ((i:Int)+1)=(i:Int)+1:=zu;have hw2:IntKind.i64.wrap ((n:Int)+1)=(n:Int)+1:=zu;have hw3:IntKind.i64.wrap ((n:Int)+1 - (i:Int))=(n:Int)+1 - (i:Int):=zu;have hb1:(0:Int)<=(i:Int)+1:=zj;have hz2:¬((i:Int)=(n:Int)):=zj;have hin:i<=n:=zj;have hin2:i<=cap:=zj;have htn:((i:Int)+1).toNat=i+1:=zj;have hb5:((cap:Int)<(n:Int)+1):=zj;have hb6:¬((n:Int)+1<=(cap:Int)):=zj
 have hE1:∀x,((w.alloc (.cells ROW 300)).drew).cell? x=(w.drew.alloc (.cells ROW 300)).cell? x:=fun x=>rfl
 have hE2:∀x,((w.alloc (.cells ROW 300)).drew).frozen? x=(w.drew.alloc (.cells ROW 300)).frozen? x:=fun x=>rfl
 subst hW1
 have hF1:∀x,(((w.alloc (.cells ROW 300)).drew.setCells w.heap.size (i*8) vs).drew).cell? x=((w.drew.alloc (.cells ROW 300)).setCells w.heap.size (i*8) vs).cell? x:=fun x=>rfl
 have hF2:∀x,(((w.alloc (.cells ROW 300)).drew.setCells w.heap.size (i*8) vs).drew).frozen? x=((w.drew.alloc (.cells ROW 300)).setCells w.heap.size (i*8) vs).frozen? x:=fun x=>rfl
 clear htake hcs hgb hcell hcm hxl hdl htl hvs h1v h1x hbg hold hROW hG hRs hRl hN hNf hOb hOv hik hkk hGm hZ hZs hgw hvw;go_enter func201,ntmps201
 go_wp2_with (first
  | (at_builtin;refine Lib.wpList_append_run _ rfl _ _ _ _ rfl _ _ rfl rfl _ _ (hrz _) ?_)
  | (at_builtin;refine wpList_copy_runI _ rfl _ _ 194 194 rfl _ _ rfl rfl (hcpA _ hE1 hE2 _ _) ?_))
 have mixed:prog.follows .mixedOrders=true:=zo;go_region_law_o (refine step_copy_runI rfl _ _ 194 194 rfl (.slice (some ⟨w.heap.size,(i+1)*8,none⟩) (n - i) (G - (i+1))) (.slice (some ⟨g,i*8,none⟩) (n - i) (cap - i)) yl yl (hcpB _ hF1 hF2 3 (G - (i+1)) (cap - i)) ?_);clear mixed;go_wp2;go_ret;rw [drew_setCells];exact hL.o ((w.alloc (.cells ROW 300)).drew.drew) rfl rfl rfl rfl
theorem CR (w:World) (base n i:Nat) (v:Value) (xs vs:List Value) (hown:w.ownsRow base 300 8 v n xs) (hn:n<=1000) (vb:Nat) (hv:vs.length=8)
  (hvs:∀j u,vs[j]? =some u->w.cell? ⟨vb,j,none⟩=some u) (h1v:∀u∈vs,u.oneCell'=true) (h1x:∀u∈xs,u.oneCell'=true) (hvb:some vb≠v.ownBlock) (hsa:w.shape? vb=some (300,8)) (hfa:∀j,w.frozen? ⟨vb,j,none⟩=false) (hbase:base<=w.heap.size) (hi:i<=n):
  Calls prog 201 #[v,.int .i64 i,.slice (some ⟨vb,0,none⟩) 1 1] w (Lj w base v n (xs.take (i*8)++vs++xs.drop (i*8))):=by
 by_cases he:i=n
 ·subst he;have e1:xs.take (i*8)=xs:=vT xF;have e2:xs.drop (i*8)= []:=Za xF;rw [e1,e2,uQ];exact Bq w base v i xs vs hown hn vb hv hvs h1v hbase
 have hown':=hown
 rcases hown.2 with ⟨rfl,rfl⟩ | ⟨g,cap,cur,rfl,-⟩
 ·omega
 by_cases hroom:n+1<=cap
 ·exact tY w base g n cap i xs vs hown hn vb hv hvs h1v h1x (fun e=>hvb vd) hsa hfa zj hroom
 exact wX w base g n cap i xs vs hown hn vb hv hvs h1v h1x hbase zj zj
end
section
open Go.Shelf Go.RowKit Go.Lib Go.Sort
def NC (a b:Int):Int:=if a<b then -1 else if b<a then 1 else 0
theorem DT (a:Int) (w:World):Calls prog 171 #[.int .i64 a] w fun e w'=>e= .returned (.bool false)/\w'=w:=by
 have d0:(a !=a)=false:=zt;go_enter func171,ntmps171;exact kb3
theorem wL (a b:Int) (w:World):Calls prog 99 #[.int .i64 a,.int .i64 b] w fun e w'=>e= .returned (.int .i64 (NC a b))/\w'=w:=by
 unfold NC;by_cases h1:a<b
 ·have d1:decide (a<b)=true:=decide_eq_true h1;rw [if_pos h1];exact ke7
 have d1:decide (a<b)=false:=decide_eq_false h1;rw [if_neg h1];by_cases h2:b<a
 ·have d2:decide (b<a)=true:=decide_eq_true h2;rw [if_pos h2];exact ke7
 have d2:decide (b<a)=false:=decide_eq_false h2;rw [if_neg h2];exact ke7
def KX (x y:Plc):Int:=NC x.1 y.1
theorem iQ (x y:Plc):ltOf KX x y=decide (x.1<y.1):=by
 unfold ltOf KX NC;by_cases h1:x.1<y.1
 ·simp [h1]
 rw [if_neg h1];by_cases h2:y.1<x.1<;>simp [h1,h2]
theorem Gm:SWO (ltOf KX) where
 irrefl x:=by rw [iQ];simp
 trans x y z h1 h2:=by rw [iQ] at*;simp at*;omega
 ntrans x y z h1 h2:=by rw [iQ] at*;simp at*;omega
theorem Iv (x y:Plc) (w:World):Calls prog 98 (#[.agg (aP x).toArray,.agg (aP y).toArray]++ #[]) w fun e w'=>e= .returned (.int .i64 (KX x y))/\∃q os',w'=grow (w.drewN q) os':=by
 have hc:∀w',Calls prog 99 #[.int .i64 x.1,.int .i64 y.1] w' fun e w''=>e= .returned (.int .i64 (KX x y))/\w''=w':=fun w'=>wL _ _ _
 unfold aP;go_enter func98,ntmps98;go_wp2_with (go_at_call 99;refine (hc _).mono ?_;rintro e w' ⟨rfl,rfl⟩);exact ke1
theorem FC (blk off size:Nat) (w:World):CmpLays prog 98 #[] aP 3 KX blk off size w:=fun _ _ _ _ x y=>Iv x y _
theorem Jc:∀args w,(callFunc 98 args).run prog w= .ok (.enter 98 args) w:=enters_of func98 zo rfl
theorem cH (x:Plc):(aP x).length=3:=rfl
theorem dG (x:Plc):∀v∈aP x,v.oneCell'=true:=by
 intro v hv;simp only [aP,vJ,Zr,or_false] at hv;exact kn6
theorem lI (w:World) (g n:Nat) (d:Array Plc) (os:Array Obj):Keeps (fun k=>k=g) w (sortWorldK aP 3 w g 0 n d os):=by
 refine ⟨rfl,rfl,rfl,?_,fun k hk hs=> ?_⟩
 ·exact kl9
 exact kd9
theorem NV {ps:List Plc} (h:w.ownsRow base 119 3 (.slice (some ⟨g,0,none⟩) n cap) n (aI aP ps)) (hn:n=ps.length):HoldsK aP 3 w g 0 ps.toArray:=fun j hj=>by
 rw [size_flatK] at hj;simp only [uq] at hj;have h1:j / 3<ps.length:=zj;have h2:j / 3*3+j % 3=j:=zj;refine ⟨?_,yX⟩;rw [vQ,h.cellAt j zj,get_flatK _ _ _ _ yC];have:=cX (enc:=aP) cH (L:=ps) (i:=j / 3) (c:=j % 3) (x:=ps[j / 3]) (vF h1) zj;rw [h2] at this;rw [this,getElem!_pos ps.toArray (j / 3) xp,Zq,vF qQ,getElem!_pos _ (j % 3) qQ];rfl
theorem sD {d:Array Plc} (h:HoldsK aP 3 w g 0 d) (j:Nat) (u:Value) (hj:(aI aP d.toList)[j]? =some u):w.cell? ⟨g,j,none⟩=some u:=by
 have hl:=(vA.1 hj).1;rw [bX cH,uv] at hl;have h1:j / 3<d.size:=zj;have h2:j / 3*3+j % 3=j:=zj;have H:=(h j qR).1;rw [vQ,get_flatK _ _ _ _ zj] at H;have:=cX (enc:=aP) cH (L:=d.toList) (i:=j / 3) (c:=j % 3) (x:=d[j / 3]) (by rw [Array.getElem?_toList,Zy h1]) zj;rw [h2,hj,vF qQ] at this;rw [H,getElem!_pos d (j / 3) h1,getElem!_pos _ (j % 3) qQ,this];rfl
theorem NU (w:World) (base g cap:Nat) (ps:List Plc) (hown:w.ownsRow base 119 3 (.slice (some ⟨g,0,none⟩) ps.length cap) ps.length (aI aP ps)) (hl:ps.length<=200000):
  Calls prog 169 #[.slice (some ⟨g,0,none⟩) ps.length cap,.func (.func 98) #[] #[]] w fun e w'=>e= .returned (.tuple #[])/\∃qs:List Plc,qs.Perm ps/\qs.Pairwise (fun a b=>¬b.1<a.1)/\(∀j u,(aI aP qs)[j]? =some u->w'.cell? ⟨g,j,none⟩=some u)/\Keeps (fun k=>k=g) w w':=by
 have hH:=NV hown rfl;have hblk:g<w.heap.size:=(hown.lt g rfl).2;have h:=AnyQ.slices_SortFunc AD 3 isAgg119 sizeOf119 aP cH dG KX Gm 98 #[] g 0 cap ps.toArray w Jc (FC g 0 ps.toArray.size w) hH hblk zq;refine Calls.mono h ?_;rintro e w' ⟨rfl,d',n,os,hp,hs,rfl⟩;simp only [uq] at hp hs;have hsz:d'.size=ps.length:=xR
 have hperm:d'.toList.Perm ps:=by
  exact kc9
 refine ⟨rfl,d'.toList,hperm,?_,?_,lI w g n d' os⟩
 ·rw [ub];intro i j hi hj hij;have hi':i<d'.size:=qF;have hj':j<d'.size:=yC;have:=hs i j (vM _) hij zj;rw [iQ,getElem!_pos d' i hi',getElem!_pos d' j hj'] at this;exact kp3
 exact sD ((show SWK aP 3 w g 0 d' _ from ⟨n,os,rfl⟩).holds hblk hH (by rw [hsz];simp))
theorem tq (p:Option Addr) (cap:Nat) (fv:Value) (w:World):Calls prog 169 #[.slice p 0 cap,fv] w fun e w'=>e= .returned (.tuple #[])/\w'=w:=
 AnyF.slices_SortFunc_none AD p cap fv w
end
section
open Go.RowKit Go.Maps
structure CellsAt (w:World) (bc bm n:Nat) (f:cA):Prop where
 cell:w.heap[bc]? =some (.cells #[.map (some bm)] 218 (0,0))
 map:CMapAt w bm n f
theorem CellsAt.c0 (h:CellsAt w bc bm n f):w.cell? ⟨bc,0,none⟩=some (.map (some bm)):=qJ
theorem CellsAt.lt {w:World} {bc bm n:Nat} {f:cA} (h:CellsAt w bc bm n f):bc<w.heap.size/\bm<w.heap.size:=⟨(vD.1 h.cell).1,h.map.lt⟩
theorem CellsAt.ne (h:CellsAt w bc bm n f):bc≠bm:=fun e=>by
 obtain ⟨⟨D,⟨es,clock,hb,_⟩,_⟩,_⟩:=h.map;have:=h.cell;rw [e,hb] at this
 cases this
theorem CellsAt.same {w w':World} {bc bm n:Nat} {f:cA} (h:CellsAt w bc bm n f) (h1:w'.heap[bc]? =w.heap[bc]?) (h2:w'.heap[bm]? =w.heap[bm]?):CellsAt w' bc bm n f:=⟨h1.trans h.cell,h.map.same h2⟩
theorem CellsAt.later (h:CellsAt w bc bm n f) (hb:Below w.heap.size w w'):CellsAt w' bc bm n f:=h.same (hb.block _ h.lt.1) (hb.block _ h.lt.2)
theorem CellsAt.mono {w:World} {bc bm n n':Nat} {f:cA} (h:CellsAt w bc bm n f) (hn:n<=n'):CellsAt w bc bm n' f:=⟨h.cell,h.map.mono hn⟩
theorem Ii (w:World):Calls prog 67 #[] w fun e w'=>e= .returned (.pointer (some ⟨w.heap.size+1,0,none⟩))/\w'=(w.alloc (.map #[] 0)).alloc (.cells #[.map (some w.heap.size)] 218):=by
 have hmm:= @run_makeMap prog;go_enter func67,ntmps67;exact kb3
theorem LE (w:World) (bc bm:Nat) (h:w.cell? ⟨bc,0,none⟩=some (.map (some bm))):Calls prog 104 #[.pointer (some ⟨bc,0,none⟩)] w fun e w'=>e= .returned (.map (some bm))/\w'=w:=by
 go_enter func104,ntmps104;exact kb3
theorem mP (a b:Int×Int):bM a.1 a.2 b.1 b.2=decide (CLt a b):=by
 unfold bM CLt;by_cases h:a.1=b.1
 ·rw [if_pos h];simp [h]
 rw [if_neg h];simp [h]
def nJ (w:World) (bc bm n:Nat) (f:cA) (m:bU×aG) (w':World):Prop:=CellsAt w' bc bm (n+1) (lw f m)/\Keeps (fun j=>j=bm) w w'
theorem Ky (w:World) (bc bm n:Nat) (f:cA) (a:Int) (s c:ByteArray) (t b:Int) (h:CellsAt w bc bm n f) (hn:n<=1000000) (hk:WfK (a,s)):
  Calls prog 207 #[.pointer (some ⟨bc,0,none⟩),.agg #[.int .i64 a,.string s],.agg #[.string c,.int .i64 t,.int .i64 b]] w fun e w'=>e= .returned (.bool (fF f (a,s) (c,(t,b))))/\nJ w bc bm n f ((a,s),(c,(t,b))) w':=by
 obtain ⟨S,hS⟩:=zc w.heap.size;obtain ⟨U,hU⟩:=zc ((w.alloc (.cells #[.int .i64 a,.string s] 204)).alloc (.cells #[.string c,.int .i64 t,.int .i64 b] 206))
 have hKU:Keeps (fun _=>False) w U:=by rw [hU];exact ((Keeps.refl _ w).alloc _).alloc _
 have hsU:U.heap.size=S+2:=by rw [hU,hS];simp
 have hu1:U.heap[S+1]? =some (.cells #[.string c,.int .i64 t,.int .i64 b] 206 (0,0)):=by
  have:=heap_alloc_new (w.alloc (.cells #[.int .i64 a,.string s] 204)) (.cells #[.string c,.int .i64 t,.int .i64 b] 206);rw [uD] at this;rw [hU,hS];exact this
 have hu0:U.heap[S]? =some (.cells #[.int .i64 a,.string s] 204 (0,0)):=by
  exact kh3
 have hA:CellsAt U bc bm n f:=h.same (hKU.block _ h.lt.1 (fun e=>e)) (hKU.block _ h.lt.2 (fun e=>e));obtain ⟨Z,hZ⟩:=zc (U.alloc (.cells #[.string ⟨#[]⟩,.int .i64 0,.int .i64 0] 206))
 have hbZ:Below U.heap.size U Z:=by rw [hZ];exact zh U _
 have hAZ:CellsAt Z bc bm n f:=hA.later hbZ;have c0:U.cell? ⟨bc,0,none⟩=some (.map (some bm)):=hA.c0;have c1:=hAZ.c0;have l0:=(hA.later (vG _ U).drew).map.look hk;have l1:=(hAZ.later (vG _ Z).drew).map.look hk
 have k0:U.cell? ⟨S,0,none⟩=some (.int .i64 a):=by simp [World.cell?,hu0]
 have k1:U.cell? ⟨S,1,none⟩=some (.string s):=by simp [World.cell?,hu0]
 have j0:Z.cell? ⟨S,0,none⟩=some (.int .i64 a):=(hbZ.cell (p:=⟨S,0,none⟩) zQ).trans k0;have j1:Z.cell? ⟨S,1,none⟩=some (.string s):=(hbZ.cell (p:=⟨S,1,none⟩) zQ).trans k1;unfold pM at l0 l1
 cases hf:f (a,s) with
 | none=>
  have hg:fF f (a,s) (c,(t,b))=true:=by unfold fF;rw [hf]
  rw [hg];rw [hf] at l0 l1;simp only [Option.getD_none,Option.isSome_none] at l0 l1;unfold wF BR at l0 l1;dsimp only at l0 l1
  have HA:Aside (CellsAt U bc bm n f/\Keeps (fun _=>False) w U/\U.heap.size=S+2/\U.heap[S]? =some (.cells #[.int .i64 a,.string s] 204 (0,0))/\U.heap[S+1]? =some (.cells #[.string c,.int .i64 t,.int .i64 b] 206 (0,0))):=⟨hA,hKU,hsU,hu0,hu1⟩
  clear hA hKU hu0 hu1 hAZ hbZ h hg;subst hZ;go_enter func207,ntmps207;go_wp2_with fail;rw [<-hU,<-hS];have HS:Aside (S=w.heap.size):=hS;clear hU hS;have hu1':=HA.o.2.2.2.2;have hbV:=(vG U.heap.size U).alloc zg (.cells #[.string ⟨#[]⟩,.int .i64 0,.int .i64 0] 206);have m0:(U.alloc (.cells #[.string ⟨#[]⟩,.int .i64 0,.int .i64 0] 206)).cell? ⟨S+1,0,none⟩=some (.string c):=(hbV.cell (p:=⟨S+1,0,none⟩) zQ).trans jb;have m1:(U.alloc (.cells #[.string ⟨#[]⟩,.int .i64 0,.int .i64 0] 206)).cell? ⟨S+1,1,none⟩=some (.int .i64 t):=(hbV.cell (p:=⟨S+1,1,none⟩) zQ).trans jb;have m2:(U.alloc (.cells #[.string ⟨#[]⟩,.int .i64 0,.int .i64 0] 206)).cell? ⟨S+1,2,none⟩=some (.int .i64 b):=(hbV.cell (p:=⟨S+1,2,none⟩) zQ).trans jb;obtain ⟨w2,hrun,hM2,hT2⟩:=((HA.o.1.later hbV).later (vG _ _).drew |>.later (vG _ _).drew).map.store zA hk (c,(t,b))
  have HP:Aside (nJ w bc bm n f ((a,s),(c,(t,b))) w2):=by
   have hKV:=aV hT2.grown;have hne:=HA.o.1.ne;have hlt:=HA.o.1.lt;have hs2:=hbV.size;refine ⟨⟨?_,?_⟩,?_⟩
   ·rw [hKV.block bc (by simp [World.drew];omega) (fun e=>hne yu)];exact (hbV.block bc hlt.1).trans HA.o.1.cell
   ·have:lw f ((a,s),(c,(t,b)))=fun x=>if x=(a,s) then some (c,(t,b)) else f x:=rQ (by unfold fF;rw [hf])
    rw [this];exact hM2
   exact ((HA.o.2.1.mono (fun _ _ e=>e.elim)).then (((aX hbV).drew).drew) (fun i hi e=>by have:=HA.o.2.1.size;omega)).then hKV (fun i hi e=>yu)
  unfold pM wF at hrun;dsimp only at hrun;have HR:=HP;clear hM2 hT2 hbV hu1';go_region
  all_goals
   go_wp2_with fail;go_region
  all_goals
   go_wp2;go_ret;exact ⟨rfl,HP.o⟩
 | some o=>
  obtain ⟨vo,tO,bo⟩:=o;rw [hf] at l0 l1;simp only [ZO,Option.isSome_some] at l0 l1;unfold wF at l0 l1;dsimp only at l0 l1;obtain ⟨V,hV⟩:=zc ((U.alloc (.cells #[.string vo,.int .i64 tO,.int .i64 bo] 206)).drew)
  have hbV:Below U.heap.size U V:=by rw [hV];exact ((vG U.heap.size U).alloc zg _).drew
  have hv1:V.heap[S+1]? =some (.cells #[.string c,.int .i64 t,.int .i64 b] 206 (0,0)):=(hbV.block _ zj).trans hu1;have hv0:V.heap[S]? =some (.cells #[.int .i64 a,.string s] 204 (0,0)):=(hbV.block _ zj).trans hu0
  have hv2:V.heap[S+2]? =some (.cells #[.string vo,.int .i64 tO,.int .i64 bo] 206 (0,0)):=by
   rw [hV,<-hsU];exact heap_alloc_new U _
  have hKV:Keeps (fun _=>False) w V:=(hKU.then (aX hbV) (fun i hi e=>by have:=hKU.size;omega))
  have hAV:CellsAt V bc bm n f:=hA.later hbV
  have hsV:V.heap.size=S+3:=by rw [hV];show (U.alloc _).heap.size=_;rw [uD,hsU]
  have hg:fF f (a,s) (c,(t,b))=bM tO bo t b:=by unfold fF;rw [hf];exact (mP (tO,bo) (t,b)).symm
  rw [hg]
  have HA:Aside (CellsAt V bc bm n f/\Keeps (fun _=>False) w V/\V.heap.size=S+3/\V.heap[S]? =some (.cells #[.int .i64 a,.string s] 204 (0,0))/\V.heap[S+1]? =some (.cells #[.string c,.int .i64 t,.int .i64 b] 206 (0,0))/\V.heap[S+2]? =some (.cells #[.string vo,.int .i64 tO,.int .i64 bo] 206 (0,0))/\fF f (a,s) (c,(t,b))=bM tO bo t b):=⟨hAV,hKV,hsV,hv0,hv1,hv2,hg⟩
  have x1:V.cell? ⟨S+1,1,none⟩=some (.int .i64 t):=by simp [World.cell?,hv1]
  have x2:V.cell? ⟨S+1,2,none⟩=some (.int .i64 b):=by simp [World.cell?,hv1]
  have y1:V.cell? ⟨S+2,1,none⟩=some (.int .i64 tO):=by simp [World.cell?,hv2]
  have y2:V.cell? ⟨S+2,2,none⟩=some (.int .i64 bo):=by simp [World.cell?,hv2]
  clear hA hKU hu0 hu1 hAZ hbZ h hg hbV hv0 hv1 hv2 hKV hAV hsV;subst hZ;go_enter func207,ntmps207;go_wp2_with fail;rw [<-hU,<-hS];have HS:Aside (S=w.heap.size):=hS;clear hU hS;go_region
  all_goals
   rw [<-hV];clear l0 l1 c0 c1 k0 k1 j0 j1 hV;go_wp2_with fail;refine (pQ tO bo t b _).mono ?_;rintro e w3 ⟨rfl,hb3⟩;have hA3:CellsAt w3 bc bm n f:=HA.o.1.later hb3
   have hK3:Keeps (fun _=>False) w w3:=HA.o.2.1.then (aX hb3) (fun i hi e=>by have:=HA.o.2.1.size;omega)
   cases hl:bM tO bo t b with
   | false=>
    have HP:Aside (nJ w bc bm n f ((a,s),(c,(t,b))) w3):=by
     have:lw f ((a,s),(c,(t,b)))=f:=Ct (HA.o.2.2.2.2.2.2.trans hl);exact ⟨by rw [this];exact hA3.mono (Nat.le_succ n),hK3.mono (fun _ _ e=>e.elim)⟩
    clear hA3 hK3 hb3;go_wp2;go_ret;exact ⟨by rw [hl];rfl,HP.o⟩
   | true=>
    obtain ⟨w2,hrun,hM2,hT2⟩:=(hA3.later (vG _ _).drew).map.store zA hk (c,(t,b))
    have HP:Aside (nJ w bc bm n f ((a,s),(c,(t,b))) w2):=by
     have hKV:=aV hT2.grown;refine ⟨⟨?_,?_⟩,?_⟩
     ·rw [hKV.block bc hA3.lt.1 (fun e=>hA3.ne yu)];exact hA3.cell
     ·have:lw f ((a,s),(c,(t,b)))=fun x=>if x=(a,s) then some (c,(t,b)) else f x:=rQ (HA.o.2.2.2.2.2.2.trans hl)
      rw [this];exact hM2
     exact ((hK3.mono (fun _ _ e=>e.elim)).drew).then hKV (fun i hi e=>yu)
    have c3:=hA3.c0;have hs3:=HA.o.2.2.1;have k0:w3.cell? ⟨S,0,none⟩=some (.int .i64 a):=(hb3.cell (p:=⟨S,0,none⟩) zQ).trans (by simp [World.cell?,HA.o.2.2.2.1]);have k1:w3.cell? ⟨S,1,none⟩=some (.string s):=(hb3.cell (p:=⟨S,1,none⟩) zQ).trans (by simp [World.cell?,HA.o.2.2.2.1]);have m0:w3.cell? ⟨S+1,0,none⟩=some (.string c):=(hb3.cell (p:=⟨S+1,0,none⟩) zQ).trans qG;have m1:w3.cell? ⟨S+1,1,none⟩=some (.int .i64 t):=(hb3.cell (p:=⟨S+1,1,none⟩) zQ).trans qG;have m2:w3.cell? ⟨S+1,2,none⟩=some (.int .i64 b):=(hb3.cell (p:=⟨S+1,2,none⟩) zQ).trans qG;unfold pM wF at hrun;dsimp only at hrun;clear hA3 hK3 hb3 hM2 hT2 hs3;go_wp2_with fail;go_region
    all_goals
     go_wp2;go_ret;exact ⟨by rw [hl];rfl,HP.o⟩
end
section
open Go.RowKit
theorem ot (u:Nat):(Lib.decDigits u).length<=u+1:=by
 induction u using Nat.strongRecOn with
 | ind u ih=>
  by_cases h:u<10
  ·rw [Lib.decDigits,dif_pos h];simp
  rw [Lib.decDigits,dif_neg h];have:=ih (u / 10) zj;simp;omega
theorem GT (u:Nat) (hu:u<=9223372036854775808):∀(w:World),
  Calls prog 78 #[.int .i64 (-(u:Int))] w fun e w'=>e= .returned (.string ⟨(Lib.decDigits u).toArray⟩)/\Below w.heap.size w w':=by
 induction u using Nat.strongRecOn with
 | ind u ih=>
  intro w;have IH:=Lib.hid ih;clear ih;by_cases h:u<10
  ·have hd:decide (-10< -(u:Int))=true:=by simp;omega
   have HE:Hid (Lib.decDigits u= [JF (48+u)]):=Lib.hid (by rw [Lib.decDigits,dif_pos h];rfl);go_enter func78,ntmps78;go_wp2_with fail;refine (pX (48+u) w zj).mono ?_;rintro e w1 ⟨rfl,hb⟩;go_wp2;go_ret;exact ⟨by rw [HE.o];rfl,hb⟩
  have hd:decide (-10< -(u:Int))=false:=zq;have HE:Hid (Lib.decDigits u=Lib.decDigits (u / 10)++ [JF (48+u % 10)]):=Lib.hid (by rw [Lib.decDigits,dif_neg h];rfl);have hlen:=Lib.hid (ot (u / 10));go_enter func78,ntmps78;go_wp2_with fail;refine (IH.o (u / 10) zj zj w).mono ?_;rintro e w1 ⟨rfl,hb1⟩;go_wp2_with fail;refine (pX (48+u % 10) w1 zj).mono ?_;rintro e w2 ⟨rfl,hb2⟩;have B2:Below w.heap.size w w2:=zi hb1 hb2;have hadd:=lO (Lib.decDigits (u / 10)) [JF (48+u % 10)] (by have:=hlen.o;simp;omega);clear hb1 hb2;go_wp2;go_ret;exact ⟨by rw [HE.o];rfl,B2⟩
theorem Eg (n:Int) (h:n<0):Lib.itoa n=45::Lib.decDigits n.natAbs:=by rw [Lib.itoa,if_pos h]
theorem DS (n:Int) (h:0<=n):Lib.itoa n=Lib.decDigits n.natAbs:=by
 rw [Lib.itoa,if_neg zj];congr 1;omega
theorem fV (n:Int) (w:World) (h0: -9223372036854775808<=n) (h1:n<=9223372036854775807):
  Calls prog 39 #[.int .i64 n] w fun e w'=>e= .returned (.string ⟨(Lib.itoa n).toArray⟩)/\Below w.heap.size w w':=by
 by_cases h:n<0
 ·obtain ⟨u,rfl⟩:∃u:Nat,n= -(u:Int):=⟨n.natAbs,zj⟩
  have HE:Hid (Lib.itoa (-(u:Int))=45::Lib.decDigits u):=Lib.hid (by rw [Eg _ h];simp);have hd:decide (-(u:Int)<0)=true:=yR
  have hadd:=lO [45] (Lib.decDigits u) (by
   have:=Lib.itoa_length_le _ h0 h1
   rw [HE.o] at this
   simp at this |-
   omega)
  exact kh5
 obtain ⟨u,rfl⟩:∃u:Nat,n=(u:Int):=⟨n.natAbs,zj⟩
 have HE:Hid (Lib.itoa (u:Int)=Lib.decDigits u):=Lib.hid (by rw [DS _ zj];simp);have hd:decide ((u:Int)<0)=false:=zt;exact kh5
