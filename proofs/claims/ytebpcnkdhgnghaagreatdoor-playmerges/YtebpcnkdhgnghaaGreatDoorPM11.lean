import Derived.Test.YtebpcnkdhgnghaaGreatDoorPM05
import Derived.Test.YtebpcnkdhgnghaaGreatDoorPM06
import Derived.Test.YtebpcnkdhgnghaaGreatDoorPM07
import Derived.Test.YtebpcnkdhgnghaaGreatDoorPM08
import Derived.Deep.DeepCutAuto
set_option linter.unusedSimpArgs false
set_option linter.unusedVariables false
set_option maxRecDepth 100000
set_option maxHeartbeats 64000000
namespace Go.Proofs.YtebpcnkdhgnghaaGreatDoor
open Go.Proofs.Tryz
variable {g:Bool} {a:Int} {L M zs:List Ltr} {A B:List OpX} {s t:List UInt8} {xs:List Value} {base i k n p:Nat} {ad:Nat→Addr} {ao:Option Addr} {v:Value} {w w':World}
section
open Go.RowKit Go.Lib Go.Sort
section
variable {P:Program} {ops:Array Oper} {Q:Exit→Act→World→Prop} {md:Region.Mode} {S:World→Prop} {z:Nat}
theorem BN {j:Nat} {oi oj:Oper} {fuel:Nat} {listed:Array Bool} {a:Act} (hr:Region.ready md ops listed= [i,j]) (hoi:ops[i]? =some oi) (hoj:ops[j]? =some oj)
  (h1:∀K:Act->World->Prop,(∀a' w',(S w'\/i=z/\z<listed.size)->cR P md ops Q S z fuel (listed.setIfInBounds i true) a' w'->K a' w')->if Region.wanted oi (yielded ops a.tmps)=true then Oper.wp P oi a w K Q else K (a.put oi.dst undef) w)
  (h2:∀K:Act->World->Prop,(∀a' w',(S w'\/j=z/\z<listed.size)->cR P md ops Q S z fuel (listed.setIfInBounds j true) a' w'->K a' w')->if Region.wanted oj (yielded ops a.tmps)=true then Oper.wp P oj a w K Q else K (a.put oj.dst undef) w):cR P md ops Q S z (fuel+1) listed a w:=by
 refine ⟨fun h0=>qg,fun k hk=> ?_⟩;rw [hr] at hk;simp only [vJ,Zr,or_false] at hk
 rcases hk with rfl | rfl
 ·have:=h1 (fun a' w'=>(S w'\/(listed.setIfInBounds k true).getD z false=true)/\cR P md ops Q S z fuel (listed.setIfInBounds k true) a' w') (fun a' w' h1 h2=>⟨h1.imp id (fun h=>by
   obtain ⟨e,hl⟩:=h
   subst e
   simp [hl]),h2⟩)
  unfold wpOp;simp only [hoi];split
  ·rename_i hw;exact kh0
  rename_i hw;exact ki7
 have:=h2 (fun a' w'=>(S w'\/(listed.setIfInBounds k true).getD z false=true)/\cR P md ops Q S z fuel (listed.setIfInBounds k true) a' w') (fun a' w' h1 h2=>⟨h1.imp id (fun h=>by
  obtain ⟨e,hl⟩:=h
  subst e
  simp [hl]),h2⟩)
 unfold wpOp;simp only [hoj];split
 ·rename_i hw;exact kh0
 rename_i hw;exact ki7
end
structure Ln4 (ad:Nat->Addr) (w:World):Prop where
 c1:w.cell? ⟨0,0,none⟩=some (.iface 450 (.pointer (some (ad 1))))
 c2:w.cell? ⟨4,0,none⟩=some (.iface 450 (.pointer (some (ad 2))))
 c5:w.cell? ⟨1,0,none⟩=some (.iface 450 (.pointer (some (ad 5))))
 c6:w.cell? ⟨7,0,none⟩=some (.iface 450 (.pointer (some (ad 6))))
theorem Ln4.later (h:Ln4 ad w) (hb:Below w.heap.size w w'):Ln4 ad w':=
 ⟨co hb h.c1,co hb h.c2,co hb h.c5,co hb h.c6⟩
def lM (id behind:Int):Prop:=4<=id/\id<4294967300/\0<=behind/\behind<id
theorem rI (w:World) (p:Nat) (id behind:Int) (c:Nat) (hE:Ln4 ad w) (hi: -9223372036854775808<=id/\id<=9223372036854775807) (h:¬lM id behind):
  Calls prog 138 #[.pointer (some ⟨p,0,none⟩),.int .i64 id,.int .i64 behind,.int .u8 (c:Int)] w fun e w'=>e= .returned (.iface 450 (.pointer (some (ad 2))))/\Below w.heap.size w w':=by
 have HE:Aside (Ln4 ad w):=hE;have hzb:0<w.heap.size:=vK w ⟨_,0,none⟩ hE.c1;by_cases h1:4<=id/\id<4294967300
 ·have hof:=Es id w h1.1 h1.2;by_cases h2:behind<0
  ·have d2:decide (behind<0)=true:=decide_eq_true h2;exact kb6
  have d2:decide (behind<0)=false:=decide_eq_false h2;have d3:decide (id<=behind)=true:=decide_eq_true (by unfold lM at h;omega);exact kb6
 have hof:=NN id w _ _ hE.c1 hzb zj hi.1 hi.2;exact kb6
theorem rk (w:World) (base p:Nat) (v:Value) (L:List Ltr) (id behind:Int) (c:Nat) (hE:Ln4 ad w) (hT:LineAt base w p v L) (hL:L.length<=1000) (h:lM id behind) (hx:id∈L.map (·.1)):
  Calls prog 138 #[.pointer (some ⟨p,0,none⟩),.int .i64 id,.int .i64 behind,.int .u8 (c:Int)] w fun e w'=>e= .returned (.iface 450 (.pointer (some (ad 6))))/\Below w.heap.size w w':=by
 have HE:Aside (Ln4 ad w):=hE;have HT:Aside (LineAt base w p v L):=hT;have hof:=Es id w h.1 h.2.1;have d2:decide (behind<0)=false:=decide_eq_false jE;have d3:decide (id<=behind)=false:=decide_eq_false jy;obtain ⟨i,hi,-,hil⟩:=mu hx;have d4:decide ((0:Int)<=(i:Int))=true:=zt;have HI:=Lib.hid hi;clear hE hT h hx hi;go_enter func138,ntmps138;go_wp2_with fail;refine hof.mono ?_;rintro e w1 ⟨rfl,hb⟩
 have B2:Aside (∀o,Below w.heap.size w (w1.alloc o)):=fun o=>hb.alloc hb.size o
 clear hb hof;go_wp2_with fail;refine (dw _ base p v L id (HT.o.later (B2.o _)) hL).mono ?_;rintro e w2 ⟨rfl,hb2⟩;rw [HI.o];have B3:Aside (Below w.heap.size w w2):=(B2.o _).trans (hb2.mono (B2.o _).size);have c6:=(HE.o.later B3.o).c6;clear hb2;go_wp2;go_ret;exact ⟨rfl,B3.o⟩
theorem tL (w:World) (base p:Nat) (v:Value) (L:List Ltr) (id behind:Int) (c:Nat) (hE:Ln4 ad w) (hT:LineAt base w p v L) (hL:L.length<=1000) (h:lM id behind) (hx:id∉L.map (·.1)) (h0:behind≠0) (hy:behind∉L.map (·.1)):
  Calls prog 138 #[.pointer (some ⟨p,0,none⟩),.int .i64 id,.int .i64 behind,.int .u8 (c:Int)] w fun e w'=>e= .returned (.iface 450 (.pointer (some (ad 5))))/\Below w.heap.size w w':=by
 have HE:Aside (Ln4 ad w):=hE;have HT:Aside (LineAt base w p v L):=hT;have hof:=Es id w h.1 h.2.1;have d2:decide (behind<0)=false:=decide_eq_false jE;have d3:decide (id<=behind)=false:=decide_eq_false jy;have d4:(behind !=0)=true:=xG;have HI:=Lib.hid (eG hx);have HJ:=Lib.hid (eG hy);clear hE hT h hx hy h0;go_enter func138,ntmps138;go_wp2_with fail;refine hof.mono ?_;rintro e w1 ⟨rfl,hb⟩
 have B2:Aside (∀o,Below w.heap.size w (w1.alloc o)):=fun o=>hb.alloc hb.size o
 clear hb hof;go_wp2_with fail;refine (dw _ base p v L id (HT.o.later (B2.o _)) hL).mono ?_;rintro e w2 ⟨rfl,hb2⟩;rw [HI.o];have B3:Aside (Below w.heap.size w w2):=(B2.o _).trans (hb2.mono (B2.o _).size);clear hb2;go_wp2_with fail;refine (dw _ base p v L behind (HT.o.later B3.o) hL).mono ?_;rintro e w3 ⟨rfl,hb3⟩;rw [HJ.o];have B4:Aside (Below w.heap.size w w3):=zi B3.o hb3;have c5:=(HE.o.later B4.o).c5;clear hb3;go_wp2;go_ret;exact ⟨rfl,B4.o⟩
end
section
open Go.RowKit Go.Lib Go.Sort
theorem KV {e:TypeId} (h:w.ownsRow base e k v (n+1) xs):∃g cap,v= .slice (some ⟨g,0,none⟩) (n+1) cap:=by
 rcases h.2 with ⟨_,h2⟩ | ⟨g,cap,cur,rfl,_⟩
 ·omega
 exact ⟨g,cap,rfl⟩
theorem LineAt.ne (h:LineAt base w p v L):∀g,v.ownBlock=some g->g≠p/\g<w.heap.size/\base<=g:=fun g hg=>by
 exact kk0
theorem nt (X:World) (base p vb k:Nat) (v:Value) (L:List Ltr) (x:Ltr) (hT:LineAt base X p v L) (hbase:base<=X.heap.size) (hL:L.length<=900) (hk:k<=L.length) (hvb:X.heap[vb]? =some (.cells #[.int .i64 x.1,.int .u8 (x.2.1:Int),.bool (!x.2.2)] 282 (0,0))) (hvn:some vb≠v.ownBlock):
  Calls prog 205 #[v,.int .i64 (k:Int),.slice (some ⟨vb,0,none⟩) 1 1] X
   fun e w'=>∃g' cap',e= .returned (.slice (some ⟨g',0,none⟩) (L.length+1) cap')/\w'.cell? ⟨p,0,none⟩=some v/\w'.frozen? ⟨p,0,none⟩=false/\Aside (w'.ownsRow base 282 3 (.slice (some ⟨g',0,none⟩) (L.length+1) cap') (L.length+1) (aI pK (L.take k++x::L.drop k))/\Keeps (fun k=>some k=v.ownBlock) X w'/\(some g'=v.ownBlock\/X.heap.size<=g')/\w'.heap[p]? =some (.cells #[v] 280 (0,0))):=by
 refine (CQ X base L.length k v (aI pK L) (pK x) hT.row zj vb rfl (fun j u hj=> ?_) (AE x) (fb AE L) hvn ?_ (fun j=> ?_) hbase hk).mono ?_
 ·simp only [World.cell?,hvb];rw [<-hj];simp [pK]
 ·simp [World.shape?,hvb]
 ·simp [World.frozen?,hvb]
 rintro e w' ⟨v',rfl,ho,hkp,hv'⟩;obtain ⟨g',cap',rfl⟩:=KV ho;have hp:=hkp.block p hT.lt (fun e=>(hT.ne p e.symm).1 rfl);have hp':w'.heap[p]? =some (.cells #[v] 280 (0,0)):=hp.trans hT.cell;rw [<-AC fW L k hk] at ho;refine ⟨g',cap',rfl,by simp [World.cell?,hp'],by simp [World.frozen?,hp'],ho,hkp,?_,hp'⟩
 rcases hv' with e | e
 ·exact .inl e
 right
 have:g'=X.heap.size:=by simpa [Value.ownBlock] using e
 omega
theorem CG {wc:World} (hb:Below w.heap.size w wc) (cs:Array Value) (t:TypeId):∃Y,Y=(wc.alloc (.cells cs t)).drew/\Below w.heap.size w Y/\Y.heap[wc.heap.size]? =some (.cells cs t (0,0))/\wc.heap.size<Y.heap.size:=by
 refine ⟨_,rfl,(hb.alloc hb.size _).drew,?_,?_⟩
 ·exact heap_alloc_new wc _
 have h:=uD wc (.cells cs t);have e:(wc.alloc (.cells cs t)).drew.heap.size=(wc.alloc (.cells cs t)).heap.size:=rfl;omega
def Ij (base:Nat) (w:World) (p:Nat) (v:Value) (M:List Ltr) (w':World):Prop:=
 ∃v',LineAt base w' p v' M/\Keeps (fun k=>k=p\/some k=v.ownBlock) w w'/\(v'.ownBlock=v.ownBlock\/∀g,v'.ownBlock=some g->w.heap.size<=g)
theorem LC {X w5:World} {g' cap':Nat} {x:Ltr} (hT:LineAt base w p v L) (hB:Below w.heap.size w X) (hM:M=L.take k++x::L.drop k) (hlen:M.length=L.length+1)
  (hn:(M.map (·.1)).Nodup) (hpos:∀l∈M,l.1≠0) (hsm:∀l∈M,l.2.1<256)
  (h5:w5.ownsRow base 282 3 (.slice (some ⟨g',0,none⟩) (L.length+1) cap') (L.length+1) (aI pK (L.take k++x::L.drop k))/\Keeps (fun k=>some k=v.ownBlock) X w5/\(some g'=v.ownBlock\/X.heap.size<=g')/\w5.heap[p]? =some (.cells #[v] 280 (0,0))):
  Ij base w p v M (w5.setCell ⟨p,0,none⟩ (.slice (some ⟨g',0,none⟩) (L.length+1) cap')):=by
 obtain ⟨ho,hkp,hg,hp⟩:=h5;obtain ⟨w6,hw6⟩:=zc (w5.setCell ⟨p,0,none⟩ (.slice (some ⟨g',0,none⟩) (L.length+1) cap'));rw [<-hw6]
 have hk56:Keeps (fun k=>k=p) w5 w6:=by rw [hw6];exact aZ p [_] 0 w5
 have hgl:=ho.lt g' rfl;have hlow:=hT.low
 have hc6:w6.heap[p]? =some (.cells #[.slice (some ⟨g',0,none⟩) (L.length+1) cap'] 280 (0,0)):=by rw [hw6];exact heap_setCell_same w5 p 0 _ _ _ hp
 have hr6:=gT (w':=w6) ho (fun g hg'=>by
  cases hg'
  exact hk56.block g' hgl.2 (fun e=>zj))
 have hKw:Keeps (fun k=>k=p\/some k=v.ownBlock) w X:=(aX hB).mono (fun k hk e=>zj);refine ⟨_,⟨hc6,by rw [hlen,hM];exact hr6,hT.low,hn,hpos,hsm⟩,(hKw.then hkp (fun _ _ e=>.inr e)).then hk56 (fun _ _ e=>.inl e),?_⟩
 rcases hg with h | h
 ·exact .inl h
 refine .inr (fun g hg=> ?_)
 have e:g'=g:=by simpa [Value.ownBlock] using hg
 have:=hB.size;omega
theorem DV (w:World) (base p:Nat) (v:Value) (L:List Ltr) (id behind:Int) (c:Nat) (hT:LineAt base w p v L) (hbase:base<=w.heap.size) (hL:L.length<=900) (h:lM id behind) (hc:c<256) (hx:id∉L.map (·.1)) (hy:behind=0\/behind∈L.map (·.1)):
  Calls prog 138 #[.pointer (some ⟨p,0,none⟩),.int .i64 id,.int .i64 behind,.int .u8 (c:Int)] w fun e w'=>e= .returned .nilIface/\Ij base w p v (put behind (id,c,false) L) w':=by
 have HT:Aside (LineAt base w p v L):=hT;have hof:=Es id w h.1 h.2.1;have d2:decide (behind<0)=false:=decide_eq_false jE;have d3:decide (id<=behind)=false:=decide_eq_false jy;have HI:=Lib.hid (eG hx);have HX:Aside (id∉L.map (·.1)):=hx
 obtain ⟨bf,k,hbf,hbk,hk,hpl⟩:∃(bf:Int) (k:Nat),Aside (iC behind L=bf/\((bf= -1/\behind=0)\/0<=bf))/\IntKind.i64.wrap (bf+1)=(k:Int)/\k<=L.length/\Aside (k+cl id (L.drop k)=ew behind id L):=by
  unfold ew;by_cases h0:behind=0
  ·refine ⟨-1,0,⟨eG (fun hm=> ?_),.inl ⟨rfl,h0⟩⟩,zr,vM _,?_⟩
   ·obtain ⟨l,hl,e⟩:=uh.1 hm;exact hT.pos l hl (by rw [e,h0])
   show _=_
   rw [if_pos h0];simp
  obtain ⟨i,hi,hf,hil⟩:=mu (hy.resolve_left h0);refine ⟨i,i+1,⟨hi,.inr zj⟩,?_,zj,?_⟩
  ·rw [IntKind.wrap_i64];omega
  show _=_
  rw [if_neg h0,hf]
 have HM:Aside (put behind (id,c,false) L=L.take (ew behind id L)++(id,c,false)::L.drop (ew behind id L)/\(put behind (id,c,false) L).length=L.length+1/\((put behind (id,c,false) L).map (·.1)).Nodup/\(∀l∈put behind (id,c,false) L,l.1≠0)/\(∀l∈put behind (id,c,false) L,l.2.1<256)/\ew behind id L<=L.length):=by
  refine ⟨(Au hy).2,Kv hy,DF hy hT.nodup hx,fun l hl=> ?_,fun l hl=> ?_,(Au (x:=(id,c,false)) hy).1⟩
  ·rcases vJ.1 ((ko hy).mem_iff.1 hl) with rfl | hl
   ·have:=h.1
    show id≠0
    omega
   exact hT.pos l hl
  rcases vJ.1 ((ko hy).mem_iff.1 hl) with rfl | hl
  ·exact hc
  exact hT.small l hl
 obtain ⟨M,hM⟩:∃M,put behind (id,c,false) L=M:=⟨_,rfl⟩
 rw [hM] at HM |-
 obtain ⟨q,hq⟩:∃q,ew behind id L=q:=⟨_,rfl⟩
 rw [hq] at HM hpl;clear hM hq hT hy hx h;go_enter func138,ntmps138;go_wp2_with fail;refine hof.mono ?_;rintro e w1 ⟨rfl,hb⟩
 have B2:Aside (∀o,Below w.heap.size w (w1.alloc o)):=fun o=>hb.alloc hb.size o
 clear hb hof;go_wp2_with fail;refine (dw _ base p v L id (HT.o.later (B2.o _)) zj).mono ?_;rintro e w2 ⟨rfl,hb2⟩;rw [HI.o];have B3:Aside (Below w.heap.size w w2):=(B2.o _).trans (hb2.mono (B2.o _).size);clear hb2 B2;go_wp2_with fail;refine (dw _ base p v L behind (HT.o.later B3.o) zj).mono ?_;rintro e w3 ⟨rfl,hb3⟩;rw [hbf.o.1];have B4:Aside (Below w.heap.size w w3):=zi B3.o hb3;clear hb3 B3;go_upto_region 7 with fail;go_cut [42] (fun s42 wx=>s42= .bool false/\wx=w3)
 case first=>
  rcases hbf.o.2 with ⟨rfl,rfl⟩ | hp
  ·go_wp2;go_meet;exact kl3
  have dp:decide (bf<0)=false:=decide_eq_false zj;go_wp2;go_meet;exact kl3
 obtain ⟨rfl,rfl⟩:=hcut;go_upto_region 9 with fail;have hpc:=Al wc.drew base p k v L id (HT.o.later B4.o.drew) zj hk HX.o;rw [hpl.o] at hpc;obtain ⟨Y,hY,BY,hYb,hYs⟩:=CG B4.o #[.int .i64 id,.int .u8 (c:Int),.bool true] 282;have hpy:=Al Y base p k v L id (HT.o.later BY) zj hk HX.o;rw [hpl.o] at hpy;have hS0:wc.drew.cell? ⟨p,0,none⟩=some v:=(HT.o.later B4.o.drew).c0;refine bv (S:=fun w'=>w'.cell? ⟨p,0,none⟩=some v) (z:=17) zo hS0 (fun hHeld=> ?_);refine aY (i:=0) (v:= ?v0) zr rfl zo zo zo (fun _ _ _ h=>h) (Or.inl ⟨zv,?hy0⟩) hHeld ?rest0
 case hy0=>(intro w' _;go_simp;try with_reducible rfl)
 refine qn ?_;refine aY (i:=1) (v:= ?v1) zr rfl zo zo zo (fun _ _ _ h=>h) (Or.inl ⟨zv,?hy1⟩) hHeld ?rest1
 case hy1=>(intro w' _;go_simp;try with_reducible rfl)
 refine qn ?_;refine aY (i:=2) (v:= ?v2) zr rfl zo zo zo (fun _ _ _ h=>h) (Or.inl ⟨zv,?hy2⟩) hHeld ?rest2
 case hy2=>(intro w' _;go_simp;try with_reducible rfl)
 refine qn ?_;refine aY (i:=3) (v:= ?v3) zr rfl zo zo zo (fun _ _ _ h=>h) (Or.inl ⟨zv,?hy3⟩) hHeld ?rest3
 case hy3=>(intro w' _;go_simp;try with_reducible rfl)
 refine qn ?_;refine aA (i:=4) (v:= ?v4) zr zo rfl zo zo zo zo (fun _ _ _ h=>h) (Or.inl ⟨zv,?hy4⟩) hHeld ?rest4
 case hy4=>(intro w' hSw;go_simp;try with_reducible rfl)
 refine qn ?_;refine aY (i:=5) (v:= ?v5) zr rfl zo zo zo (fun _ _ _ h=>h) (Or.inl ⟨zv,?hy5⟩) hHeld ?rest5
 case hy5=>(intro w' _;go_simp;try with_reducible rfl)
 refine qn ?_;refine aY (i:=6) (v:= ?v6) zr rfl zo zo zo (fun _ _ _ h=>h) (Or.inl ⟨zv,?hy6⟩) hHeld ?rest6
 case hy6=>(intro w' _;go_simp;try with_reducible rfl)
 refine qn ?_;refine aY (i:=7) (v:= ?v7) zr rfl zo zo zo (fun _ _ _ h=>h) (Or.inl ⟨zv,?hy7⟩) hHeld ?rest7
 case hy7=>(intro w' _;go_simp;try with_reducible rfl)
 refine qn ?_;refine aY (i:=8) (v:= ?v8) zr rfl zo zo zo (fun _ _ _ h=>h) (Or.inl ⟨zv,?hy8⟩) hHeld ?rest8
 case hy8=>(intro w' _;go_simp;try with_reducible rfl)
 refine qn ?_;refine aY (i:=10) (v:= ?v10) zr rfl zo zo zo (fun _ _ _ h=>h) (Or.inl ⟨zv,?hy10⟩) hHeld ?rest10
 case hy10=>(intro w' _;go_simp;try with_reducible rfl)
 refine qn ?_;refine aY (i:=11) (v:= ?v11) zr rfl zo zo zo (fun _ _ _ h=>h) (Or.inl ⟨zv,?hy11⟩) hHeld ?rest11
 case hy11=>(intro w' _;go_simp;try with_reducible rfl)
 refine qn ?_;refine aY (i:=12) (v:= ?v12) zr rfl zo zo zo (fun _ _ _ h=>h) (Or.inl ⟨zv,?hy12⟩) hHeld ?rest12
 case hy12=>(intro w' _;go_simp;try with_reducible rfl)
 refine qn ?_;refine BN (i:=9) (j:=13) zo rfl rfl (fun K hK=> ?pa) (fun K hK=> ?al)
 case pa=>
  go_simp;refine hpc.mono ?_;rintro e w4 ⟨rfl,hb4⟩;have B5:Below w.heap.size w w4:=zi B4.o.drew hb4;refine hK _ _ (.inl (HT.o.later B5).c0) ?_;clear hK K;refine qn ?_;obtain ⟨X,hX⟩:=zc (w4.alloc (.cells #[.int .i64 id,.int .u8 (c:Int),.bool true] 282))
  have BX:Below w.heap.size w X:=by rw [hX];exact B5.alloc B5.size _
  have TX:Aside (LineAt base X p v L/\Below w.heap.size w X):=⟨HT.o.later BX,BX⟩
  have hlay:=nt X base p w4.heap.size q v L (id,c,false) TX.o.1 (by have:=BX.size;omega) hL HM.o.2.2.2.2.2 (by rw [hX];exact heap_alloc_new w4 _) (fun e=>by have h1:=((HT.o.later B5).ne _ e.symm).2.1;omega);refine aF (i:=13) zo rfl (fun K hK=> ?_);go_simp;rw [<-hX];refine hK _ _ (.inl TX.o.1.c0) ?_;clear hK K hX;refine qn ?_;refine aF (i:=14) zo rfl (fun K hK=> ?_);go_simp;refine hlay.mono ?_;rintro e w5 ⟨g',cap',rfl,u1,u2,H5⟩;refine hK _ _ (.inl u1) ?_;clear hK K;refine qn ?_;refine aY (i:=15) (v:= ?v15) zr rfl zo zo zo (fun _ _ _ h=>h) (Or.inl ⟨zv,?hy15⟩) u1 ?rest15
  case hy15=>(intro w' _;go_simp;try with_reducible rfl)
  refine qn ?_;refine aY (i:=16) (v:= ?v16) zr rfl zo zo zo (fun _ _ _ h=>h) (Or.inl ⟨zv,?hy16⟩) u1 ?rest16
  case hy16=>(intro w' _;go_simp;try with_reducible rfl)
  exact kd1
 case al=>
  go_simp;rw [<-hY];refine hK _ _ (.inl (HT.o.later BY).c0) ?_;clear hK K hY;refine qn ?_;refine aF (i:=9) zo rfl (fun K hK=> ?_);go_simp;refine hpy.mono ?_;rintro e X ⟨rfl,hbX⟩;have BX:Below w.heap.size w X:=zi BY hbX
  have TX:Aside (LineAt base X p v L/\Below w.heap.size w X):=⟨HT.o.later BX,BX⟩
  have hlay:=nt X base p wc.heap.size q v L (id,c,false) TX.o.1 (by have:=BX.size;omega) hL HM.o.2.2.2.2.2 ((hbX.block _ hYs).trans hYb) (fun e=>by have h1:=((HT.o.later B4.o).ne _ e.symm).2.1;omega);refine hK _ _ (.inl TX.o.1.c0) ?_;clear hK K;refine qn ?_;refine aF (i:=14) zo rfl (fun K hK=> ?_);go_simp;refine hlay.mono ?_;rintro e w5 ⟨g',cap',rfl,u1,u2,H5⟩;refine hK _ _ (.inl u1) ?_;clear hK K;refine qn ?_;refine aY (i:=15) (v:= ?vb15) zr rfl zo zo zo (fun _ _ _ h=>h) (Or.inl ⟨zv,?hyb15⟩) u1 ?restb15
  case hyb15=>(intro w' _;go_simp;try with_reducible rfl)
  refine qn ?_;refine aY (i:=16) (v:= ?vb16) zr rfl zo zo zo (fun _ _ _ h=>h) (Or.inl ⟨zv,?hyb16⟩) u1 ?restb16
  case hyb16=>(intro w' _;go_simp;try with_reducible rfl)
  exact kd1
end
section
open Go.RowKit Go.Lib Go.Sort
theorem ML:(prog.info? 5).map (fun i=>(i.zero,i.size,i.bytes))=some (some (.int .u8 0),1,1):=zo
def iJ (l:List UInt8):List Value:=l.map fun c=>.int .u8 (c.toNat:Int)
theorem og (a b:List UInt8):iJ (a++b)=iJ a++iJ b:=by simp [iJ]
theorem Ig {l:List UInt8} (h:w.ownsRow base 5 1 v n (iJ l)) (hl:l.length=n):
  Sem.run prog (convert 184 9 v) w= .ok (.string ⟨l.toArray⟩) w:=by
 rcases Zs n with h0 | h0
 ·have hl0:l= []:=vZ.1 zj;subst hl0
  rcases h.2 with ⟨hv,_⟩ | ⟨g,cap,cur,hv,_⟩
  ·exact kl6
  exact kj3
 obtain ⟨g,cap,rfl⟩:∃g cap,v= .slice (some ⟨g,0,none⟩) n cap:=by
  rcases h.2 with ⟨_,h2⟩ | ⟨g,cap,cur,hv,_⟩
  ·omega
  exact ⟨g,cap,hv⟩
 have hc:=h.cells (g:=g) rfl;subst hl;refine run_convert_bytes_back w _ _ _ _ _ l underlying184 underlying5 underlying9 (fun j hj=> ?_);refine hc j _ ?_;simp [iJ,vF hj]
def cu (L:List Ltr):List UInt8:=(bs L).map fun l=>UInt8.ofNat l.2.1
theorem sX {l:Ltr} (h:L[k]? =some l):bs (L.take (k+1))=bs (L.take k)++(if l.2.2 then [] else [l]):=by
 unfold bs;rw [uA,h,Zt];congr 1;by_cases hg:l.2.2=true
 ·rw [if_pos hg];simp [hg]
 rw [if_neg hg];simp [hg]
theorem CK {c:Nat} (h:L[k]? =some (a,c,g)):cu (L.take (k+1))=cu (L.take k)++(if g then [] else [UInt8.ofNat c]):=by
 unfold cu;rw [sX h,un]
 cases g<;>rfl
theorem lN (L:List Ltr):(cu L).length<=L.length:=by
 unfold cu bs;rw [ul];exact Zv _ _
theorem Ib (w:World) (base p:Nat) (v:Value) (L:List Ltr) (h:LineAt base w p v L) (hL:L.length<=1000):
  Calls prog 103 #[.pointer (some ⟨p,0,none⟩)] w fun e w'=>e= .returned (.string ⟨(cu L).toArray⟩)/\Below w.heap.size w w':=by
 obtain ⟨i0,hi,hz0,hz1,hz2⟩:=info_parts ML;obtain ⟨ao,cap,rfl⟩:=cP h.row;have c0:=h.c0
 have HI:Aside (LtrsIn w ao L/\∀l∈L,l.2.1<256):=⟨rN h.row,h.small⟩
 clear h;go_enter func103,ntmps103;go_wp2;clear c0;go_loopg [3,11] L.length (fun kx s3 s11 wr=>∃(k:Nat) (ov:Value),ov=s3/\s11= .int .i64 (k:Int)/\k<=L.length/\L.length - k<=kx/\Aside (wr.ownsRow w.heap.size 5 1 ov (cu (L.take k)).length (iJ (cu (L.take k)))/\Below w.heap.size w wr))
 case atStart=>exact ⟨0,_,rfl,rfl,vM _,vB _,⟨uf _ _ _ _,vG _ w⟩⟩
 case round=>
  obtain ⟨k,ov,rfl,rfl,hk,hkx,A⟩:=hrel;by_cases hlt:k<L.length
  ·have hltz:decide ((k:Int)<(L.length:Int))=true:=by simp;omega
   have ek:((k:Int)).toNat=k:=zj;have pk:(0:Int)<=(k:Int):=zj;have bk:(k:Int)<(L.length:Int):=zj
   obtain ⟨⟨a,c,gn⟩,hl⟩:∃l,Aside (L[k]? =some l):=⟨L[k],vF hlt⟩
   obtain ⟨blk,off,rfl,f0,f1,f2⟩:=(HI.o.1.later A.o.2).at hl.o;have HN:=Lib.hid (CK hl.o);have hc256:c<256:=HI.o.2 _ (vH hl.o)
   obtain ⟨T,hT⟩:∃T,Aside (cu (L.take k)=T):=⟨_,rfl⟩
   have A':Aside (wr.ownsRow w.heap.size 5 1 ov T.length (iJ T)/\Below w.heap.size w wr):=jL
   have hTl:T.length<=1000:=by have:=lN (L.take k);rw [hT.o,vW] at this;omega
   obtain ⟨u,hu⟩:=zc wr;subst hu
   cases gn with
   | true=>
    have f2':u.cell? ⟨blk,off+k*3+2,none⟩=some (.bool false):=f2;clear f2 A;go_wp2;go_roundg (L.length - (k+1))
    case measure=>omega
    case rel=>
     refine ⟨k+1,_,rfl,zw,zj,vB _,?_⟩
     have e:cu (L.take (k+1))=T:=by rw [HN.o,hT.o];simp
     rw [e];exact ⟨A'.o.1.alloc _,A'.o.2.alloc A'.o.2.size _⟩
   | false=>
    have f2':u.cell? ⟨blk,off+k*3+2,none⟩=some (.bool true):=f2;clear f2 A
    obtain ⟨cb,hcb⟩:∃cb:UInt8,Aside (UInt8.ofNat c=cb):=⟨_,rfl⟩
    have hcn:(c:Int)=(cb.toNat:Int):=by rw [<-hcb.o];simp;omega
    rw [hcn] at f1;clear hcn;go_wp2_with (at_builtin;refine wpList_append_own _ rfl _ _ 184 rfl w.heap.size 5 i0 _ 1 1 underlying184 hi hz0 hz1 hz2 rfl zj _ _ _ rfl ((A'.o.1.alloc _).alloc _) ⟨u.heap.size+1,0,none⟩ 1 1 [.int .u8 (cb.toNat:Int)] rfl ?qb1 ?qb2 ?qb3 ?qb4 ?qb5 ?qb6 ?_)
    case qb1=>rfl
    case qb2=>exact Zj (cs:= #[.int .u8 (cb.toNat:Int)]) (t:=5) (fr:=(0,0)) (by
     have:=heap_alloc_new (u.alloc (.cells #[.int .i64 a,.int .u8 (cb.toNat:Int),.bool true] 282)) (.cells #[.int .u8 (cb.toNat:Int)] 5)
     rwa [uD] at this)
    case qb3=>simp [Value.oneCell']
    case qb4=>simp only [maxLen];omega
    case qb5=>omega
    case qb6=>have:=A'.o.2.size;simp;omega
    intro v2 u2 hown hgrow hnil;clear hnil
    have W1:=(A'.o.2.alloc A'.o.2.size (.cells #[.int .i64 a,.int .u8 (cb.toNat:Int),.bool true] 282))
    have W2:Below w.heap.size w u2:=(W1.alloc W1.size _).grown hgrow (by have:=A'.o.2.size;simp;omega) (fun k hk=>(A'.o.1.lt k hk).1)
    have R2:Aside (u2.ownsRow w.heap.size 5 1 v2 (cu (L.take (k+1))).length (iJ (cu (L.take (k+1))))/\Below w.heap.size w u2):=by
     have e:cu (L.take (k+1))=T++ [cb]:=by rw [HN.o,hT.o,<-hcb.o];rfl
     rw [e,og,vN];exact ⟨hown,W2⟩
    clear hown hgrow W1 W2;go_wp2;go_roundg (L.length - (k+1))
    case measure=>omega
    case rel=>exact ⟨k+1,_,rfl,zw,zj,vB _,R2⟩
  have hltz:decide ((k:Int)<(L.length:Int))=false:=zq;have ek:L.take k=L:=vT zj;rw [ek] at A;have hcv:=Ig A.o.1 rfl;clear ek;go_wp2;go_ret;exact ⟨rfl,A.o.2⟩
end
section
open Go.RowKit Go.Lib Go.Sort
theorem tn (w:World) (base p:Nat) (v:Value) (L:List Ltr) (id:Int) (hE:Ln4 ad w) (hT:LineAt base w p v L) (hL:L.length<=1000) (hx:id∉L.map (·.1)):
  Calls prog 139 #[.pointer (some ⟨p,0,none⟩),.int .i64 id] w fun e w'=>e= .returned (.iface 450 (.pointer (some (ad 5))))/\Below w.heap.size w w':=by
 have HE:Aside (Ln4 ad w):=hE;have hf:=dw w base p v L id hT hL;rw [eG hx] at hf;clear hE hT hx;go_enter func139,ntmps139;go_wp2_with fail;refine hf.mono ?_;rintro e w1 ⟨rfl,hb1⟩;have B1:Aside (Below w.heap.size w w1):=hb1;have c5:=(HE.o.later hb1).c5;clear hb1 hf;go_wp2;go_ret;exact ⟨rfl,B1.o⟩
theorem Eo (w:World) (base p i:Nat) (v:Value) (L:List Ltr) (id:Int) (hT:LineAt base w p v L) (hL:L.length<=1000) (hf:bj id L=some i):
  Calls prog 139 #[.pointer (some ⟨p,0,none⟩),.int .i64 id] w fun e w'=>e= .returned .nilIface/\LineAt base w' p v (L.set i (id,0,true))/\Keeps (fun k=>some k=v.ownBlock) w w':=by
 obtain ⟨⟨a,c,gn⟩,hl,rfl⟩:=cM hf;have hil:=(vA.1 hl).1;have hfa:=dw w base p v L a hT hL;rw [show iC a L=(i:Int) by unfold iC;rw [hf]] at hfa;obtain ⟨ao,cap,rfl⟩:=cP hT.row
 obtain ⟨g,rfl⟩:∃g,ao=some ⟨g,0,none⟩:=by
  rcases hT.row.2 with ⟨_,h2⟩ | ⟨g,cap',cur,hv,_⟩
  ·omega
  cases hv;exact ⟨g,rfl⟩
 have HT:Aside (LineAt base w p (.slice (some ⟨g,0,none⟩) L.length cap) L):=hT;have HL:Aside (L[i]? =some (a,c,gn)):=hl;have d0:decide ((i:Int)<0)=false:=zt;have ei:((i:Int)).toNat=i:=zj;have bi:(i:Int)<(L.length:Int):=zj;have pi:(0:Int)<=(i:Int):=zj;clear hT hl hf;go_enter func139,ntmps139;go_wp2_with fail;refine hfa.mono ?_;rintro e w1 ⟨rfl,hb1⟩
 have H1:Aside (LineAt base w1 p (.slice (some ⟨g,0,none⟩) L.length cap) L/\Below w.heap.size w w1):=⟨HT.o.later hb1,hb1⟩
 clear hb1 hfa;have c0:=H1.o.1.c0;obtain ⟨blk,off,hbo,f0,f1,f2⟩:=(rN H1.o.1.row).at HL.o
 have hoff:blk=g/\off=0:=by
  rcases rN H1.o.1.row with h | ⟨b',o',h1,_⟩
  ·rw [h] at hil;simp at hil
  simp only [Option.some.injEq,Addr.mk.injEq,and_true] at hbo;exact ⟨hbo.1.symm,hbo.2.symm⟩
 obtain ⟨rfl,rfl⟩:=hoff;rw [vQ] at f0 f1 f2
 have z0:∀j,w1.frozen? ⟨blk,j,none⟩=false:=fun j=>H1.o.1.row.frozenAt j
 have z1:=z0 (i*3);have z2:=z0 (i*3+1);have z3:=z0 (i*3+2);have hne:blk≠p:=(H1.o.1.ne blk rfl).1
 have FIN:Aside (LineAt base (w1.setCells blk (i*3) [.int .i64 a,.int .u8 0,.bool false]) p (.slice (some ⟨blk,0,none⟩) L.length cap) (L.set i (a,0,true))/\Keeps (fun k=>some k=some blk) w (w1.setCells blk (i*3) [.int .i64 a,.int .u8 0,.bool false])):=by
  have hkp:=aZ blk [.int .i64 a,.int .u8 0,.bool false] (i*3) w1;have hro:=H1.o.1.row
  have hself:L.set i (a,c,gn)=L:=by
   exact km7
  have e1:aI pK L=(aI pK L).take (i*3)++pK (a,c,gn)++(aI pK L).drop ((i+1)*3):=by
   rw [<-dV fW L i hil (a,c,gn),hself]
  have e2:=dV fW L i hil (a,0,true)
  have el:((aI pK L).take (i*3)).length=i*3:=by rw [vW,bX fW];omega
  rw [e1] at hro;have ho:=fg (vs:=[.int .i64 a,.int .u8 0,.bool false]) hro rfl;rw [el] at ho
  have hm:∀l∈L.set i (a,0,true),l∈L\/l=(a,0,true):=fun l hl=>List.mem_or_eq_of_mem_set hl
  refine ⟨⟨(hkp.block p H1.o.1.lt (fun e=>hne e.symm)).trans H1.o.1.cell,?_,H1.o.1.low,?_,fun l hl=> ?_,fun l hl=> ?_⟩,?_⟩
  ·rw [ZY,e2];exact ho
  ·rw [Kr HL.o];exact H1.o.1.nodup
  ·rcases hm l hl with h | rfl
   ·exact H1.o.1.pos l h
   exact H1.o.1.pos (a,c,gn) (vH HL.o)
  ·rcases hm l hl with h | rfl
   ·exact H1.o.1.small l h
   show 0<256
   omega
  exact ((aX H1.o.2).mono (fun k hk e=>zj)).then hkp (fun k _ e=>by rw [e])
 clear z0;go_wp2;go_ret;exact ⟨rfl,FIN.o⟩
def atL (n:Int) (L:List Ltr):Int×Bool:=if 0<=n then (match (bs L)[n.toNat]? with
 | some l=>(l.1,true)
 | none=>(0,false)) else (0,false)
end
section
open Go.RowKit Go.Lib Go.Sort
end
section
open Go.RowKit Go.Lib Go.Sort
open scoped Classical
def ActOk (base:Nat) (w:World) (p:Nat) (v:Value) (M:List Ltr) (w':World):Prop:=
 ∃v',LineAt base w' p v' M/\Keeps (fun k=>k=p\/some k=v.ownBlock) w w'/\(v'.ownBlock=v.ownBlock\/∀g,v'.ownBlock=some g->w.heap.size<=g)
theorem ActOk.of_below (h:LineAt base w p v L) (hb:Below w.heap.size w w'):ActOk base w p v L w':=
 ⟨v,h.later hb,(aX hb).mono (fun k hk e=>zj),.inl rfl⟩
theorem ActOk.of_put (h:Ij base w p v M w'):ActOk base w p v M w':=by
 obtain ⟨v',h1,h2,h3⟩:=h;exact ⟨v',h1,h2,h3⟩
def rZ (id behind:Int) (L:List Ltr):Nat:=
 if 4<=id/\id<4294967300/\0<=behind/\behind<id then (if id∈L.map (·.1) then 7 else if behind=0\/behind∈L.map (·.1) then 0 else 6) else 3
def OR (id behind:Int) (c:Nat) (L:List Ltr):List Ltr:=if rZ id behind L=0 then put behind (id,c,false) L else L
def OH (ad:Nat->Addr) (c:Nat):Value:=if c=0 then .nilIface else .iface 450 (.pointer (some (ad (c - 1))))
theorem Ag (w:World) (base p:Nat) (v:Value) (L:List Ltr) (id behind:Int) (c:Nat) (hE:Ln4 ad w) (hT:LineAt base w p v L) (hbase:base<=w.heap.size) (hL:L.length<=900) (hi: -9223372036854775808<=id/\id<=9223372036854775807) (hc:c<256):
  Calls prog 138 #[.pointer (some ⟨p,0,none⟩),.int .i64 id,.int .i64 behind,.int .u8 (c:Int)] w fun e w'=>e= .returned (OH ad (rZ id behind L))/\ActOk base w p v (OR id behind c L) w':=by
 unfold OR rZ;by_cases h1:4<=id/\id<4294967300/\0<=behind/\behind<id
 ·rw [if_pos h1];by_cases h2:id∈L.map (·.1)
  ·rw [if_pos h2,if_neg zj];refine (rk w base p v L id behind c hE hT zj h1 h2).mono ?_;exact kh8
  rw [if_neg h2];by_cases h3:behind=0\/behind∈L.map (·.1)
  ·rw [if_pos h3,if_pos rfl];refine (DV w base p v L id behind c hT hbase hL h1 hc h2 h3).mono ?_;rintro e w' ⟨rfl,hp⟩;exact ⟨rfl,ActOk.of_put hp⟩
  rw [if_neg h3,if_neg zj];refine (tL w base p v L id behind c hE hT zj h1 h2 (fun e=>h3 (.inl e)) (fun e=>h3 (.inr e))).mono ?_;exact kh8
 rw [if_neg h1,if_neg zj];refine (rI w p id behind c hE hi h1).mono ?_;exact kh8
def Ax (id:Int) (L:List Ltr):Nat:=match bj id L with
 | none=>6
 | some _=>0
def Lv (id:Int) (L:List Ltr):List Ltr:=match bj id L with
 | none=>L
 | some i=>L.set i (id,0,true)
theorem Bd (w:World) (base p:Nat) (v:Value) (L:List Ltr) (id:Int) (hE:Ln4 ad w) (hT:LineAt base w p v L) (hL:L.length<=1000):
  Calls prog 139 #[.pointer (some ⟨p,0,none⟩),.int .i64 id] w fun e w'=>e= .returned (OH ad (Ax id L))/\ActOk base w p v (Lv id L) w':=by
 unfold Ax Lv
 cases hf:bj id L with
 | none=>
  refine (tn w base p v L id hE hT hL (fun hm=> ?_)).mono ?_
  ·obtain ⟨l,hl,e⟩:=uh.1 hm;exact gW hf l hl e
  exact kh8
 | some i=>
  refine (Eo w base p i v L id hT hL hf).mono ?_;rintro e w' ⟨rfl,h1,h2⟩;exact ⟨rfl,v,h1,h2.mono (fun k _ e=>.inr e),.inl rfl⟩
end
section
open scoped Classical
def iS (nd:Int) (ws:List (List UInt8)):List UInt8:=Lib.itoa nd++ [32]++Lib.join ws [32]
def bY (p:Plc):List UInt8:=iS p.1 [[105,110],Lib.itoa p.2.1,p.2.2.data.toList]
def cq (t:Int×List UInt8):List UInt8:=iS t.1 [[116,101,120,116],t.2]
def gD (m:Mrk):List UInt8:=iS m.1 [[109,97,114,107],m.2.1.data.toList,m.2.2.data.toList]
def cB (t:Int×List UInt8):Bool:=decide (t.2≠ [])
def FO (qs:List Plc) (ts:List (Int×List UInt8)) (ms:List Mrk):List (List UInt8):=qs.map bY++(ts.filter cB).map cq++ms.map gD
structure IsTexts (A:List OpX) (ts:List (Int×List UInt8)):Prop where
 rise:ts.Pairwise (fun a b=>a.1<b.1)
 mem:∀nd,nd∈ts.map (·.1)↔KnownN A nd
 line:∀t∈ts,∃L,LineIs A t.1 L/\t.2=cu L
theorem IsTexts.perm {A B:List OpX} {ts:List (Int×List UInt8)} (h:IsTexts A ts) (e:A.Perm B):IsTexts B ts:=by
 refine ⟨h.rise,fun nd=>(h.mem nd).trans ⟨fun q=>q.mono (fun x hx=>e.mem_iff.1 hx),fun q=>q.mono (fun x hx=>e.mem_iff.2 hx)⟩,fun t ht=> ?_⟩;obtain ⟨L,h1,h2⟩:=h.line t ht;exact ⟨L,h1.perm e,h2⟩
theorem IsTexts.unique {A:List OpX} {ts us:List (Int×List UInt8)} (h:IsTexts A ts) (k:IsTexts A us):ts=us:=by
 have one:∀ {xs ys:List (Int×List UInt8)},IsTexts A xs->IsTexts A ys->∀p,p∈xs->p∈ys:=fun {xs ys} hx hy p hp=>by
  have:p.1∈ys.map (·.1):=(hy.mem _).2 ((hx.mem _).1 (uh.2 ⟨p,hp,rfl⟩));obtain ⟨q,hq,e⟩:=uh.1 this;obtain ⟨L,l1,l2⟩:=hx.line p hp;obtain ⟨M,m1,m2⟩:=hy.line q hq;have e':q.1=p.1:=e;rw [e'] at m1;obtain rfl:=l1.unique m1;have:q=p:=Prod.ext e' (m2.trans l2.symm);rwa [this] at hq
 exact gA (R:=fun a b:Int×List UInt8=>a.1<b.1) (fun a=>Int.lt_irrefl _) (fun a b c=>Int.lt_trans) h.rise k.rise (fun p=>⟨one h k p,one k h p⟩)
def StateIs (A:List OpX) (s:List UInt8):Prop:=∃ms qs ts A' mm,ms.Perm (bO A)/\bQ ms/\IsPlaces (aO ms) qs/\IsTexts A ts/\A'.Perm A/\IsMarks (du A') mm/\s=Lib.join (FO qs ts mm) [10]
theorem StateIs.perm {A B:List OpX} {s:List UInt8} (h:StateIs A s) (e:A.Perm B):StateIs B s:=by
 obtain ⟨ms,qs,ts,A',mm,h1,h2,h3,h4,h5,h6,h7⟩:=h;exact ⟨ms,qs,ts,A',mm,h1.trans (e.filterMap _),h2,h3,h4.perm e,h5.trans e,h6,h7⟩
theorem WellK.oneO (h:WellK A):OneO A:=fun x hx y hy e1 e2=>h.stamp hx hy (by unfold stO;rw [e1,e2])
theorem OneO.mono (h:OneO A) (e:∀x,x∈B->x∈A):OneO B:=fun x hx y hy=>h x (e x hx) y (e y hy)
theorem CC (h:OneO A) (e:A.Perm B):du A=du B:=
 sM (fun m=>(e.filterMap _).mem_iff) h.marks
theorem StateIs.unique {A:List OpX} {s t:List UInt8} (hA:WellK A) (h:StateIs A s) (k:StateIs A t):s=t:=by
 obtain ⟨ms,qs,ts,A',mm,h1,h2,h3,h4,h5,h6,rfl⟩:=h;obtain ⟨ms',qs',ts',A'',mm',k1,k2,k3,k4,k5,k6,rfl⟩:=k;obtain rfl:=gF (h1.trans k1.symm) h2 k2;obtain rfl:=h3.unique k3;obtain rfl:=h4.unique k4;have e:du A'=du A'':=CC (hA.oneO.mono (fun x hx=>h5.mem_iff.1 hx)) (h5.trans k5.symm);rw [e] at h6;obtain rfl:=h6.unique k6;rfl
theorem StateIs.same (hA:WellK A) (e:A.Perm B) (h:StateIs A s) (k:StateIs B t):s=t:=h.unique hA (k.perm e.symm)
theorem join_nil (x:List UInt8):Lib.join [] x= []:=rfl
end
section
open Go.RowKit Go.Lib Go.Sort
def cz (l:Ltr):List Value:=[.int .i64 l.1,.int .u8 (l.2.1:Int),.bool l.2.2]
theorem dt (l:Ltr):(cz l).length=3:=rfl
theorem IA (l:Ltr):∀v∈cz l,v.oneCell'=true:=by
 intro v hv;simp [cz] at hv;exact kn6
theorem Dp:(prog.info? 256).map (fun i=>(i.zero,i.size,i.bytes))=some (some (.agg #[.int .i64 0,.int .u8 0,.bool false]),3,16):=zo
def LetsIn (w:World) (ao:Option Addr) (zs:List Ltr):Prop:=zs= []\/∃blk off,ao=some ⟨blk,off,none⟩/\∀j u,(aI cz zs)[j]? =some u->w.cell? ⟨blk,off+j,none⟩=some u
theorem LetsIn.later (h:LetsIn w ao zs) (hb:Below w.heap.size w w'):LetsIn w' ao zs:=by
 rcases h with h | ⟨g,o,h1,h2⟩
 ·exact .inl h
 exact .inr ⟨g,o,h1,fun j u hj=>co hb (h2 j u hj)⟩
theorem LetsIn.at (h:LetsIn w ao zs) {c:Nat} (hi:zs[i]? =some (a,c,g)):∃blk off,ao=some ⟨blk,off,none⟩/\w.cell? ⟨blk,off+i*3,none⟩=some (.int .i64 a)/\w.cell? ⟨blk,off+i*3+1,none⟩=some (.int .u8 (c:Int))/\w.cell? ⟨blk,off+i*3+2,none⟩=some (.bool g):=by
 rcases h with h | ⟨b,o,h1,h2⟩
 ·subst h;simp at hi
 have hg:=fun k hk=>cX (enc:=cz) (k:=3) dt (c:=k) hi hk
 refine ⟨b,o,h1,?_,?_,?_⟩
 ·exact h2 (i*3+0) _ (hg 0 zj)
 ·rw [uT];exact h2 _ _ (hg 1 zj)
 rw [uT];exact h2 _ _ (hg 2 zj)
theorem lJ {cap:Nat} (h:w.ownsRow base 256 3 (.slice ao L.length cap) L.length (aI cz L)):LetsIn w ao L:=by
 have h':=h
 rcases h.2 with ⟨h1,h2⟩ | ⟨g,cap',cur,hv,_⟩
 ·exact kj5
 cases hv
 refine .inr ⟨g,0,rfl,fun j u hj=> ?_⟩;have hl:j<(aI cz L).length:=(vA.1 hj).1;rw [bX dt] at hl;exact ko1
structure RefAt (base:Nat) (w:World) (p:Nat) (v:Value) (L:List Ltr):Prop where
 cell:w.heap[p]? =some (.cells #[v] 253 (0,0))
 row:w.ownsRow base 256 3 v L.length (aI cz L)
 low:p<base
 small:∀l∈L,l.2.1<256
theorem RefAt.c0 (h:RefAt base w p v L):w.cell? ⟨p,0,none⟩=some v:=qJ
theorem RefAt.lt (h:RefAt base w p v L):p<w.heap.size:=(vD.1 h.cell).1
theorem RefAt.ne (h:RefAt base w p v L):∀g,v.ownBlock=some g->g≠p/\g<w.heap.size/\base<=g:=fun g hg=>by
 exact kk0
theorem RefAt.same (h:RefAt base w p v L) (h1:w'.heap[p]? =w.heap[p]?) (h2:∀g,v.ownBlock=some g->w'.heap[g]? =w.heap[g]?):RefAt base w' p v L:=
 ⟨h1.trans h.cell,gT h.row h2,h.low,h.small⟩
theorem RefAt.later (h:RefAt base w p v L) (hb:Below w.heap.size w w'):RefAt base w' p v L:=
 h.same (hb.block _ h.lt) (fun g hg=>hb.block g (h.row.lt g hg).2)
theorem lm (w:World) (base p:Nat) (v:Value) (L:List Ltr) (id:Int) (h:RefAt base w p v L) (hL:L.length<=1000):
  Calls prog 147 #[.pointer (some ⟨p,0,none⟩),.int .i64 id] w fun e w'=>e= .returned (.int .i64 (iC id L))/\w'=w:=by
 obtain ⟨ao,cap,rfl⟩:=cP h.row;have c0:=h.c0;have HI:Aside (LetsIn w ao L):=lJ h.row;clear h;go_enter func147,ntmps147;go_wp2;go_loopg [5] L.length (fun kx s5 wr=>∃(k:Nat),s5= .int .i64 (k:Int)/\k<=L.length/\L.length - k<=kx/\wr=w/\Aside (∀j l,j<k->L[j]? =some l->l.1≠id))
 case atStart=>exact ⟨0,rfl,vM _,vB _,rfl,fun j l hj=>zj⟩
 case round=>
  obtain ⟨k,rfl,hk,hkx,rfl,A⟩:=hrel;by_cases hlt:k<L.length
  ·have hltz:decide ((k:Int)<(L.length:Int))=true:=by simp;omega
   have ek:((k:Int)).toNat=k:=zj;have pk:(0:Int)<=(k:Int):=zj;have bk:(k:Int)<(L.length:Int):=zj
   obtain ⟨⟨a,c,gn⟩,hl⟩:∃l,Aside (L[k]? =some l):=⟨L[k],vF hlt⟩
   obtain ⟨blk,off,rfl,f0,f1,f2⟩:=HI.o.at hl.o;by_cases ha:a=id
   ·have da:(a==id)=true:=by simp [ha]
    have HA:=Lib.hid ha;clear ha;go_wp2;go_ret;refine ⟨?_,rfl⟩;rw [<-oT (r:=(k:Int)) (.inr ⟨k,_,rfl,hl.o,by simpa using HA.o,fun j g hj hg=>by simpa using A.o j g hj hg⟩)];rfl
   have da:(a==id)=false:=by simp [ha]
   have HA:=Lib.hid ha;clear ha;go_wp2;go_roundg (L.length - (k+1))
   case measure=>omega
   case rel=>
    refine ⟨k+1,zw,zj,vB _,rfl,fun j l hj e=> ?_⟩
    rcases uB j k with h | h
    ·exact A.o j l h e
    obtain rfl:j=k:=zj;rw [hl.o] at e
    cases e
    exact HA.o
  have hltz:decide ((k:Int)<(L.length:Int))=false:=zq;go_wp2;go_ret;refine ⟨?_,rfl⟩
  rw [<-oT (r:= -1) (.inl ⟨rfl,fun l hl=>by
   obtain ⟨j,hj,rfl⟩:=uJ hl
   simpa using A.o j _ zj (vF hj)⟩)]
  rfl
theorem gy (ho:w.ownsRow base 256 3 v n xs) (hn:n<=2000) (hbase:base<=w.heap.size) (ap:Option Addr) (c:Nat) (ys:List Ltr) (hy:ys.length<=2000) (hap:LetsIn w ap ys) (hc:ap=none->c=0) (ty:TypeId):
  ∃v' w',(Builtin.append_ #[251,251] ty #[v,.slice ap ys.length c]).run prog w= .ok v' w'/\w'.ownsRow base 256 3 v' (n+ys.length) (xs++aI cz ys)/\w.grownBy w' v.ownBlock:=by
 obtain ⟨i0,hi,hz0,hz1,hz2⟩:=info_parts Dp
 cases ap with
 | none=>
  have h0:ys= []:=by
   rcases hap with h | ⟨_,_,h,_⟩
   ·exact h
   cases h
  subst h0;rw [hc rfl];refine ⟨v,w,run_append_owned_none w base _ ty _ i0 3 underlying251 hi v n xs ho,by simpa [aI] using ho,⟨rfl,rfl,rfl,vB _,fun _ _ _=>rfl⟩⟩
 | some a=>
  have hl:(aI cz ys).length=ys.length*3:=bX dt ys
  obtain ⟨v',w',h1,h2,h3,-⟩:=run_append_own (P:=prog) w base 251 ty 256 i0 _ 3 16 underlying251 hi hz0 hz1 hz2 rfl zj v n xs ho a ys.length c (aI cz ys) hl (fun j u hj=>by
   rcases hap with h | ⟨b,o,h,hcell⟩
   ·subst h;simp [aI] at hj
   ·cases h
    rw [Addr.add_lit]
    exact hcell j u hj) (fb IA ys) zA zj hbase
  exact ⟨v',w',h1,h2,h3⟩
end
section
open Go.RowKit
structure PZ (w0:World) (w:World):Prop where
 z:OpAt w w0.heap.size 0 0 0 0 0 0 ⟨#[]⟩ ⟨#[]⟩
 f0:w.frozen? ⟨w0.heap.size,0,none⟩=false
 f1:w.frozen? ⟨w0.heap.size,1,none⟩=false
 f2:w.frozen? ⟨w0.heap.size,2,none⟩=false
 f3:w.frozen? ⟨w0.heap.size,3,none⟩=false
 f4:w.frozen? ⟨w0.heap.size,4,none⟩=false
 f5:w.frozen? ⟨w0.heap.size,5,none⟩=false
 f6:w.frozen? ⟨w0.heap.size,6,none⟩=false
 f7:w.frozen? ⟨w0.heap.size,7,none⟩=false
 b:Below w0.heap.size w0 w
end
section
open Go.RowKit
abbrev Oa (kn g n1 n2 n3 n4 n5:Nat) (c:UInt8) (p6:ByteArray) (w':World):Prop:=w'.cell? ⟨kn,0,none⟩=some (.int .i64 (n1:Int))/\w'.cell? ⟨kn,1,none⟩=some (.int .i64 (n2:Int))/\w'.cell? ⟨kn,2,none⟩=some (.int .i64 (n3:Int))/\w'.cell? ⟨kn,3,none⟩=some (.int .i64 (n4:Int))/\w'.cell? ⟨kn,4,none⟩=some (.int .i64 (n5:Int))/\w'.cell? ⟨g,0,none⟩=some (.string ⟨#[c]⟩)/\w'.cell? ⟨g,6,none⟩=some (.string p6)
end
section
open Go.RowKit
