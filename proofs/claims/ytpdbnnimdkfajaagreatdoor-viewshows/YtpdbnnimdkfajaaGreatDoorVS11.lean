import Derived.Test.YtpdbnnimdkfajaaGreatDoorHeldTk
import Derived.Test.YtpdbnnimdkfajaaGreatDoorVS07
import Derived.Test.YtpdbnnimdkfajaaGreatDoorVS08
import Derived.Deep.DeepCutAuto
import Derived.Test.YtpdbnnimdkfajaaGreatDoorRows
set_option linter.unusedSimpArgs false
set_option linter.unusedVariables false
set_option maxRecDepth 100000
set_option maxHeartbeats 64000000
namespace Go.Proofs.YtpdbnnimdkfajaaGreatDoor
open Go.Proofs.Tryz
variable {L M:List Ltr} {l:Ltr} {k n p:Nat} {ad:Nat→Addr} {v:Value} {w w' w0:World}
section
open Go.RowKit Go.Lib Go.Sort
section
variable {P:Program} {ops:Array Oper} {Q:Exit→Act→World→Prop} {md:Region.Mode} {S:World→Prop} {z:Nat}
theorem wpAnyZ_two {i j:Nat} {oi oj:Oper} {fuel:Nat} {listed:Array Bool} {a:Act} (hr:Region.ready md ops listed= [i,j]) (hoi:ops[i]? =some oi) (hoj:ops[j]? =some oj)
  (h1:∀K:Act->World->Prop,(∀a' w',(S w'\/i=z/\z<listed.size)->wpAnyZ P md ops Q S z fuel (listed.setIfInBounds i true) a' w'->K a' w')->if Region.wanted oi (yielded ops a.tmps)=true then Oper.wp P oi a w K Q else K (a.put oi.dst undef) w)
  (h2:∀K:Act->World->Prop,(∀a' w',(S w'\/j=z/\z<listed.size)->wpAnyZ P md ops Q S z fuel (listed.setIfInBounds j true) a' w'->K a' w')->if Region.wanted oj (yielded ops a.tmps)=true then Oper.wp P oj a w K Q else K (a.put oj.dst undef) w):wpAnyZ P md ops Q S z (fuel+1) listed a w:=by
 refine ⟨fun h0=>yW,fun k hk=> ?_⟩
 rw [hr] at hk
 simp only [jn,ui,or_false] at hk
 rcases hk with rfl | rfl
 ·have:=h1 (fun a' w'=>(S w'\/(listed.setIfInBounds k true).getD z false=true)/\wpAnyZ P md ops Q S z fuel (listed.setIfInBounds k true) a' w') (fun a' w' h1 h2=>⟨h1.imp id (fun h=>by
   obtain ⟨e,hl⟩:=h
   subst e
   simp [hl]),h2⟩)
  unfold wpOp
  simp only [hoi]
  split
  ·rename_i hw
   rw [if_pos hw] at this
   exact .inl this
  rename_i hw
  rw [if_neg hw] at this
  exact this
 have:=h2 (fun a' w'=>(S w'\/(listed.setIfInBounds k true).getD z false=true)/\wpAnyZ P md ops Q S z fuel (listed.setIfInBounds k true) a' w') (fun a' w' h1 h2=>⟨h1.imp id (fun h=>by
  obtain ⟨e,hl⟩:=h
  subst e
  simp [hl]),h2⟩)
 unfold wpOp
 simp only [hoj]
 split
 ·rename_i hw
  rw [if_pos hw] at this
  exact .inl this
 rename_i hw
 rw [if_neg hw] at this
 exact this
end
structure Ln4 (ad:Nat->Addr) (w:World):Prop where
 c1:w.cell? ⟨2,0,none⟩=some (.iface 399 (.pointer (some (ad 1))))
 c2:w.cell? ⟨4,0,none⟩=some (.iface 399 (.pointer (some (ad 2))))
 c5:w.cell? ⟨0,0,none⟩=some (.iface 399 (.pointer (some (ad 5))))
 c6:w.cell? ⟨7,0,none⟩=some (.iface 399 (.pointer (some (ad 6))))
theorem Ln4.later (h:Ln4 ad w) (hb:Below w.heap.size w w'):Ln4 ad w':=
 ⟨cellStays hb h.c1,cellStays hb h.c2,cellStays hb h.c5,cellStays hb h.c6⟩
def ShapeOk (id behind:Int):Prop:=4<=id/\id<4294967300/\0<=behind/\behind<id
theorem insert_shape (w:World) (p:Nat) (id behind:Int) (c:Nat) (hE:Ln4 ad w) (hi: -9223372036854775808<=id/\id<=9223372036854775807) (h:¬ShapeOk id behind):
  Calls prog 126 #[.pointer (some ⟨p,0,none⟩),.int .i64 id,.int .i64 behind,.int .u8 (c:Int)] w fun e w'=>e= .returned (.iface 399 (.pointer (some (ad 2))))/\Below w.heap.size w w':=by
 have HE:Aside (Ln4 ad w):=hE
 have hzb:2<w.heap.size:=jl w ⟨_,0,none⟩ hE.c1
 by_cases h1:4<=id/\id<4294967300
 ·have hof:=of_ok id w h1.1 h1.2
  by_cases h2:behind<0
  ·have d2:decide (behind<0)=true:=decide_eq_true h2
   clear hE h h1 hi hzb
   go_enter func126,ntmps126
   go_wp2_with fail
   refine hof.mono ?_
   rintro e w1 ⟨rfl,hb⟩
   have B2:Aside (∀o,Below w.heap.size w (w1.alloc o)):=fun o=>hb.alloc hb.size o
   have c2:∀o,(w1.alloc o).cell? ⟨4,0,none⟩=_:=fun o=>(HE.o.later (B2.o o)).c2
   clear hb hof
   go_wp2
   go_ret
   exact ⟨rfl,B2.o _⟩
  have d2:decide (behind<0)=false:=decide_eq_false h2
  have d3:decide (id<=behind)=true:=decide_eq_true (by unfold ShapeOk at h;omega)
  clear hE h h1 hi hzb
  go_enter func126,ntmps126
  go_wp2_with fail
  refine hof.mono ?_
  rintro e w1 ⟨rfl,hb⟩
  have B2:Aside (∀o,Below w.heap.size w (w1.alloc o)):=fun o=>hb.alloc hb.size o
  have c2:∀o,(w1.alloc o).cell? ⟨4,0,none⟩=_:=fun o=>(HE.o.later (B2.o o)).c2
  clear hb hof
  go_wp2
  go_ret
  exact ⟨rfl,B2.o _⟩
 have hof:=of_no id w _ _ hE.c1 hzb zi hi.1 hi.2
 clear hE h h1 hi hzb
 go_enter func126,ntmps126
 go_wp2_with fail
 refine hof.mono ?_
 rintro e w1 ⟨rfl,hb⟩
 have B2:Aside (∀o,Below w.heap.size w (w1.alloc o)):=fun o=>hb.alloc hb.size o
 have c2:∀o,(w1.alloc o).cell? ⟨4,0,none⟩=_:=fun o=>(HE.o.later (B2.o o)).c2
 clear hb hof
 go_wp2
 go_ret
 exact ⟨rfl,B2.o _⟩
theorem insert_exist (w:World) (base p:Nat) (v:Value) (L:List Ltr) (id behind:Int) (c:Nat) (hE:Ln4 ad w) (hT:LineAt base w p v L) (hL:L.length<=1000) (h:ShapeOk id behind) (hx:id∈L.map (·.1)):
  Calls prog 126 #[.pointer (some ⟨p,0,none⟩),.int .i64 id,.int .i64 behind,.int .u8 (c:Int)] w fun e w'=>e= .returned (.iface 399 (.pointer (some (ad 6))))/\Below w.heap.size w w':=by
 have HE:Aside (Ln4 ad w):=hE
 have HT:Aside (LineAt base w p v L):=hT
 have hof:=of_ok id w h.1 h.2.1
 have d2:decide (behind<0)=false:=decide_eq_false xC
 have d3:decide (id<=behind)=false:=decide_eq_false xE
 obtain ⟨i,hi,-,hil⟩:=findI_pos hx
 have d4:decide ((0:Int)<=(i:Int))=true:=zm
 have HI:=Lib.hid hi
 clear hE hT h hx hi
 go_enter func126,ntmps126
 go_wp2_with fail
 refine hof.mono ?_
 rintro e w1 ⟨rfl,hb⟩
 have B2:Aside (∀o,Below w.heap.size w (w1.alloc o)):=fun o=>hb.alloc hb.size o
 clear hb hof
 go_wp2_with fail
 refine (lfind_any _ base p v L id (HT.o.later (B2.o _)) hL).mono ?_
 rintro e w2 ⟨rfl,hb2⟩
 rw [HI.o]
 have B3:Aside (Below w.heap.size w w2):=(B2.o _).trans (hb2.mono (B2.o _).size)
 have c6:=(HE.o.later B3.o).c6
 clear hb2
 go_wp2
 go_ret
 exact ⟨rfl,B3.o⟩
theorem insert_none (w:World) (base p:Nat) (v:Value) (L:List Ltr) (id behind:Int) (c:Nat) (hE:Ln4 ad w) (hT:LineAt base w p v L) (hL:L.length<=1000) (h:ShapeOk id behind) (hx:id∉L.map (·.1)) (h0:behind≠0) (hy:behind∉L.map (·.1)):
  Calls prog 126 #[.pointer (some ⟨p,0,none⟩),.int .i64 id,.int .i64 behind,.int .u8 (c:Int)] w fun e w'=>e= .returned (.iface 399 (.pointer (some (ad 5))))/\Below w.heap.size w w':=by
 have HE:Aside (Ln4 ad w):=hE
 have HT:Aside (LineAt base w p v L):=hT
 have hof:=of_ok id w h.1 h.2.1
 have d2:decide (behind<0)=false:=decide_eq_false xC
 have d3:decide (id<=behind)=false:=decide_eq_false xE
 have d4:(behind !=0)=true:=qP
 have HI:=Lib.hid (findI_neg hx)
 have HJ:=Lib.hid (findI_neg hy)
 clear hE hT h hx hy h0
 go_enter func126,ntmps126
 go_wp2_with fail
 refine hof.mono ?_
 rintro e w1 ⟨rfl,hb⟩
 have B2:Aside (∀o,Below w.heap.size w (w1.alloc o)):=fun o=>hb.alloc hb.size o
 clear hb hof
 go_wp2_with fail
 refine (lfind_any _ base p v L id (HT.o.later (B2.o _)) hL).mono ?_
 rintro e w2 ⟨rfl,hb2⟩
 rw [HI.o]
 have B3:Aside (Below w.heap.size w w2):=(B2.o _).trans (hb2.mono (B2.o _).size)
 clear hb2
 go_wp2_with fail
 refine (lfind_any _ base p v L behind (HT.o.later B3.o) hL).mono ?_
 rintro e w3 ⟨rfl,hb3⟩
 rw [HJ.o]
 have B4:Aside (Below w.heap.size w w3):=zh B3.o hb3
 have c5:=(HE.o.later B4.o).c5
 clear hb3
 go_wp2
 go_ret
 exact ⟨rfl,B4.o⟩
end
section
open Go.RowKit Go.Lib Go.Sort
theorem rowSucc {base:Nat} {e:TypeId} {xs:List Value} (h:w.ownsRow base e k v (n+1) xs):∃g cap,v= .slice (some ⟨g,0,none⟩) (n+1) cap:=by
 rcases h.2 with ⟨_,h2⟩ | ⟨g,cap,cur,rfl,_⟩
 ·omega
 exact ⟨g,cap,rfl⟩
theorem LineAt.ne {base:Nat} (h:LineAt base w p v L):∀g,v.ownBlock=some g->g≠p/\g<w.heap.size/\base<=g:=fun g hg=>by
 have h1:=h.row.lt g hg
 have h2:=h.low
 exact ⟨zi,h1.2,h1.1⟩
theorem lay_letter (X:World) (base p vb k:Nat) (v:Value) (L:List Ltr) (x:Ltr) (hT:LineAt base X p v L) (hbase:base<=X.heap.size) (hL:L.length<=900) (hk:k<=L.length) (hvb:X.heap[vb]? =some (.cells #[.int .i64 x.1,.int .u8 (x.2.1:Int),.bool (!x.2.2)] 250 (0,0))) (hvn:some vb≠v.ownBlock):
  Calls prog 193 #[v,.int .i64 (k:Int),.slice (some ⟨vb,0,none⟩) 1 1] X
   fun e w'=>∃g' cap',e= .returned (.slice (some ⟨g',0,none⟩) (L.length+1) cap')/\w'.cell? ⟨p,0,none⟩=some v/\w'.frozen? ⟨p,0,none⟩=false/\Aside (w'.ownsRow base 250 3 (.slice (some ⟨g',0,none⟩) (L.length+1) cap') (L.length+1) (flat encL (L.take k++x::L.drop k))/\Keeps (fun k=>some k=v.ownBlock) X w'/\(some g'=v.ownBlock\/X.heap.size<=g')/\w'.heap[p]? =some (.cells #[v] 248 (0,0))):=by
 refine (layLtr_any X base L.length k v (flat encL L) (encL x) hT.row zi vb rfl (fun j u hj=> ?_) (encL_one x) (flat_one encL_one L) hvn ?_ (fun j=> ?_) hbase hk).mono ?_
 ·simp only [World.cell?,hvb]
  rw [<-hj]
  simp [encL]
 ·simp [World.shape?,hvb]
 ·simp [World.frozen?,hvb]
 rintro e w' ⟨v',rfl,ho,hkp,hv'⟩
 obtain ⟨g',cap',rfl⟩:=rowSucc ho
 have hp:=hkp.block p hT.lt (fun e=>(hT.ne p e.symm).1 rfl)
 have hp':w'.heap[p]? =some (.cells #[v] 248 (0,0)):=hp.trans hT.cell
 rw [<-flat_lay encL_len L k hk] at ho
 refine ⟨g',cap',rfl,by simp [World.cell?,hp'],by simp [World.frozen?,hp'],ho,hkp,?_,hp'⟩
 rcases hv' with e | e
 ·exact .inl e
 right
 have:g'=X.heap.size:=by simpa [Value.ownBlock] using e
 omega
theorem side_alloc {wc:World} (hb:Below w.heap.size w wc) (cs:Array Value) (t:TypeId):∃Y,Y=(wc.alloc (.cells cs t)).drew/\Below w.heap.size w Y/\Y.heap[wc.heap.size]? =some (.cells cs t (0,0))/\wc.heap.size<Y.heap.size:=by
 refine ⟨_,rfl,(hb.alloc hb.size _).drew,?_,?_⟩
 ·exact heap_alloc_new wc _
 have h:=jI wc (.cells cs t)
 have e:(wc.alloc (.cells cs t)).drew.heap.size=(wc.alloc (.cells cs t)).heap.size:=rfl
 omega
def PutOk (base:Nat) (w:World) (p:Nat) (v:Value) (M:List Ltr) (w':World):Prop:=
 ∃v',LineAt base w' p v' M/\Keeps (fun k=>k=p\/some k=v.ownBlock) w w'/\(v'.ownBlock=v.ownBlock\/∀g,v'.ownBlock=some g->w.heap.size<=g)
theorem put_fin {base:Nat} {X w5:World} {g' cap':Nat} {x:Ltr} (hT:LineAt base w p v L) (hB:Below w.heap.size w X) (hM:M=L.take k++x::L.drop k) (hlen:M.length=L.length+1)
  (hn:(M.map (·.1)).Nodup) (hpos:∀l∈M,l.1≠0) (hsm:∀l∈M,l.2.1<256)
  (h5:w5.ownsRow base 250 3 (.slice (some ⟨g',0,none⟩) (L.length+1) cap') (L.length+1) (flat encL (L.take k++x::L.drop k))/\Keeps (fun k=>some k=v.ownBlock) X w5/\(some g'=v.ownBlock\/X.heap.size<=g')/\w5.heap[p]? =some (.cells #[v] 248 (0,0))):
  PutOk base w p v M (w5.setCell ⟨p,0,none⟩ (.slice (some ⟨g',0,none⟩) (L.length+1) cap')):=by
 obtain ⟨ho,hkp,hg,hp⟩:=h5
 obtain ⟨w6,hw6⟩:=za (w5.setCell ⟨p,0,none⟩ (.slice (some ⟨g',0,none⟩) (L.length+1) cap'))
 rw [<-hw6]
 have hk56:Keeps (fun k=>k=p) w5 w6:=by rw [hw6];exact setCells_keeps p [_] 0 w5
 have hgl:=ho.lt g' rfl
 have hlow:=hT.low
 have hc6:w6.heap[p]? =some (.cells #[.slice (some ⟨g',0,none⟩) (L.length+1) cap'] 248 (0,0)):=by rw [hw6];exact heap_setCell_same w5 p 0 _ _ _ hp
 have hr6:=ownsSame (w':=w6) ho (fun g hg'=>by
  cases hg'
  exact hk56.block g' hgl.2 (fun e=>zi))
 have hKw:Keeps (fun k=>k=p\/some k=v.ownBlock) w X:=(keeps_of_below hB).mono (fun k hk e=>zi)
 refine ⟨_,⟨hc6,by rw [hlen,hM];exact hr6,hT.low,hn,hpos,hsm⟩,(hKw.then hkp (fun _ _ e=>.inr e)).then hk56 (fun _ _ e=>.inl e),?_⟩
 rcases hg with h | h
 ·exact .inl h
 refine .inr (fun g hg=> ?_)
 have e:g'=g:=by simpa [Value.ownBlock] using hg
 have:=hB.size
 omega
theorem insert_ok (w:World) (base p:Nat) (v:Value) (L:List Ltr) (id behind:Int) (c:Nat) (hT:LineAt base w p v L) (hbase:base<=w.heap.size) (hL:L.length<=900) (h:ShapeOk id behind) (hc:c<256) (hx:id∉L.map (·.1)) (hy:behind=0\/behind∈L.map (·.1)):
  Calls prog 126 #[.pointer (some ⟨p,0,none⟩),.int .i64 id,.int .i64 behind,.int .u8 (c:Int)] w fun e w'=>e= .returned .nilIface/\PutOk base w p v (put behind (id,c,false) L) w':=by
 have HT:Aside (LineAt base w p v L):=hT
 have hof:=of_ok id w h.1 h.2.1
 have d2:decide (behind<0)=false:=decide_eq_false xC
 have d3:decide (id<=behind)=false:=decide_eq_false xE
 have HI:=Lib.hid (findI_neg hx)
 have HX:Aside (id∉L.map (·.1)):=hx
 obtain ⟨bf,k,hbf,hbk,hk,hpl⟩:∃(bf:Int) (k:Nat),Aside (findI behind L=bf/\((bf= -1/\behind=0)\/0<=bf))/\IntKind.i64.wrap (bf+1)=(k:Int)/\k<=L.length/\Aside (k+skipN id (L.drop k)=placeL behind id L):=by
  unfold placeL
  by_cases h0:behind=0
  ·refine ⟨-1,0,⟨findI_neg (fun hm=> ?_),.inl ⟨rfl,h0⟩⟩,zo,js _,?_⟩
   ·obtain ⟨l,hl,e⟩:=jO.1 hm
    exact hT.pos l hl (by rw [e,h0])
   show _=_
   rw [if_pos h0]
   simp
  obtain ⟨i,hi,hf,hil⟩:=findI_pos (hy.resolve_left h0)
  refine ⟨i,i+1,⟨hi,.inr zi⟩,?_,zi,?_⟩
  ·rw [IntKind.wrap_i64];omega
  show _=_
  rw [if_neg h0,hf]
 have HM:Aside (put behind (id,c,false) L=L.take (placeL behind id L)++(id,c,false)::L.drop (placeL behind id L)/\(put behind (id,c,false) L).length=L.length+1/\((put behind (id,c,false) L).map (·.1)).Nodup/\(∀l∈put behind (id,c,false) L,l.1≠0)/\(∀l∈put behind (id,c,false) L,l.2.1<256)/\placeL behind id L<=L.length):=by
  refine ⟨(put_at hy).2,put_len hy,put_nodup hy hT.nodup hx,fun l hl=> ?_,fun l hl=> ?_,(put_at (x:=(id,c,false)) hy).1⟩
  ·rcases jn.1 ((put_perm hy).mem_iff.1 hl) with rfl | hl
   ·have:=h.1
    show id≠0
    omega
   exact hT.pos l hl
  rcases jn.1 ((put_perm hy).mem_iff.1 hl) with rfl | hl
  ·exact hc
  exact hT.small l hl
 obtain ⟨M,hM⟩:∃M,put behind (id,c,false) L=M:=⟨_,rfl⟩
 rw [hM] at HM |-
 obtain ⟨q,hq⟩:∃q,placeL behind id L=q:=⟨_,rfl⟩
 rw [hq] at HM hpl
 clear hM hq hT hy hx h
 go_enter func126,ntmps126
 go_wp2_with fail
 refine hof.mono ?_
 rintro e w1 ⟨rfl,hb⟩
 have B2:Aside (∀o,Below w.heap.size w (w1.alloc o)):=fun o=>hb.alloc hb.size o
 clear hb hof
 go_wp2_with fail
 refine (lfind_any _ base p v L id (HT.o.later (B2.o _)) zi).mono ?_
 rintro e w2 ⟨rfl,hb2⟩
 rw [HI.o]
 have B3:Aside (Below w.heap.size w w2):=(B2.o _).trans (hb2.mono (B2.o _).size)
 clear hb2 B2
 go_wp2_with fail
 refine (lfind_any _ base p v L behind (HT.o.later B3.o) zi).mono ?_
 rintro e w3 ⟨rfl,hb3⟩
 rw [hbf.o.1]
 have B4:Aside (Below w.heap.size w w3):=zh B3.o hb3
 clear hb3 B3
 go_upto_region 7 with fail
 go_cut [42] (fun s42 wx=>s42= .bool false/\wx=w3)
 case first=>
  rcases hbf.o.2 with ⟨rfl,rfl⟩ | hp
  ·go_wp2
   go_meet
   exact ⟨rfl,rfl⟩
  have dp:decide (bf<0)=false:=decide_eq_false zi
  go_wp2
  go_meet
  exact ⟨rfl,rfl⟩
 obtain ⟨rfl,rfl⟩:=hcut
 go_upto_region 9 with fail
 have hpc:=pass_any wc.drew base p k v L id (HT.o.later B4.o.drew) zi hk HX.o
 rw [hpl.o] at hpc
 obtain ⟨Y,hY,BY,hYb,hYs⟩:=side_alloc B4.o #[.int .i64 id,.int .u8 (c:Int),.bool true] 250
 have hpy:=pass_any Y base p k v L id (HT.o.later BY) zi hk HX.o
 rw [hpl.o] at hpy
 have hS0:wc.drew.cell? ⟨p,0,none⟩=some v:=(HT.o.later B4.o.drew).c0
 refine wp_region_Z (S:=fun w'=>w'.cell? ⟨p,0,none⟩=some v) (z:=17) zj hS0 (fun hHeld=> ?_)
 refine wpAnyZ_free (i:=0) (v:= ?v0) zo rfl zj zj zj (fun _ _ _ h=>h) (Or.inl ⟨zu,?hy0⟩) hHeld ?rest0
 case hy0=>(intro w' _;go_simp;try with_reducible rfl)
 refine qn ?_
 refine wpAnyZ_free (i:=1) (v:= ?v1) zo rfl zj zj zj (fun _ _ _ h=>h) (Or.inl ⟨zu,?hy1⟩) hHeld ?rest1
 case hy1=>(intro w' _;go_simp;try with_reducible rfl)
 refine qn ?_
 refine wpAnyZ_free (i:=2) (v:= ?v2) zo rfl zj zj zj (fun _ _ _ h=>h) (Or.inl ⟨zu,?hy2⟩) hHeld ?rest2
 case hy2=>(intro w' _;go_simp;try with_reducible rfl)
 refine qn ?_
 refine wpAnyZ_free (i:=3) (v:= ?v3) zo rfl zj zj zj (fun _ _ _ h=>h) (Or.inl ⟨zu,?hy3⟩) hHeld ?rest3
 case hy3=>(intro w' _;go_simp;try with_reducible rfl)
 refine qn ?_
 refine wpAnyZ_take (i:=4) (v:= ?v4) zo zj rfl zj zj zj zj (fun _ _ _ h=>h) (Or.inl ⟨zu,?hy4⟩) hHeld ?rest4
 case hy4=>(intro w' hSw;go_simp;try with_reducible rfl)
 refine qn ?_
 refine wpAnyZ_free (i:=5) (v:= ?v5) zo rfl zj zj zj (fun _ _ _ h=>h) (Or.inl ⟨zu,?hy5⟩) hHeld ?rest5
 case hy5=>(intro w' _;go_simp;try with_reducible rfl)
 refine qn ?_
 refine wpAnyZ_free (i:=6) (v:= ?v6) zo rfl zj zj zj (fun _ _ _ h=>h) (Or.inl ⟨zu,?hy6⟩) hHeld ?rest6
 case hy6=>(intro w' _;go_simp;try with_reducible rfl)
 refine qn ?_
 refine wpAnyZ_free (i:=7) (v:= ?v7) zo rfl zj zj zj (fun _ _ _ h=>h) (Or.inl ⟨zu,?hy7⟩) hHeld ?rest7
 case hy7=>(intro w' _;go_simp;try with_reducible rfl)
 refine qn ?_
 refine wpAnyZ_free (i:=8) (v:= ?v8) zo rfl zj zj zj (fun _ _ _ h=>h) (Or.inl ⟨zu,?hy8⟩) hHeld ?rest8
 case hy8=>(intro w' _;go_simp;try with_reducible rfl)
 refine qn ?_
 refine wpAnyZ_free (i:=10) (v:= ?v10) zo rfl zj zj zj (fun _ _ _ h=>h) (Or.inl ⟨zu,?hy10⟩) hHeld ?rest10
 case hy10=>(intro w' _;go_simp;try with_reducible rfl)
 refine qn ?_
 refine wpAnyZ_free (i:=11) (v:= ?v11) zo rfl zj zj zj (fun _ _ _ h=>h) (Or.inl ⟨zu,?hy11⟩) hHeld ?rest11
 case hy11=>(intro w' _;go_simp;try with_reducible rfl)
 refine qn ?_
 refine wpAnyZ_free (i:=12) (v:= ?v12) zo rfl zj zj zj (fun _ _ _ h=>h) (Or.inl ⟨zu,?hy12⟩) hHeld ?rest12
 case hy12=>(intro w' _;go_simp;try with_reducible rfl)
 refine qn ?_
 refine wpAnyZ_two (i:=9) (j:=13) zj rfl rfl (fun K hK=> ?pa) (fun K hK=> ?al)
 case pa=>
  go_simp
  refine hpc.mono ?_
  rintro e w4 ⟨rfl,hb4⟩
  have B5:Below w.heap.size w w4:=zh B4.o.drew hb4
  refine hK _ _ (.inl (HT.o.later B5).c0) ?_
  clear hK K
  refine qn ?_
  obtain ⟨X,hX⟩:=za (w4.alloc (.cells #[.int .i64 id,.int .u8 (c:Int),.bool true] 250))
  have BX:Below w.heap.size w X:=by rw [hX];exact B5.alloc B5.size _
  have TX:Aside (LineAt base X p v L/\Below w.heap.size w X):=⟨HT.o.later BX,BX⟩
  have hlay:=lay_letter X base p w4.heap.size q v L (id,c,false) TX.o.1 (by have:=BX.size;omega) hL HM.o.2.2.2.2.2 (by rw [hX];exact heap_alloc_new w4 _) (fun e=>by have h1:=((HT.o.later B5).ne _ e.symm).2.1;omega)
  refine wpAnyZ_one (i:=13) zj rfl (fun K hK=> ?_)
  go_simp
  rw [<-hX]
  refine hK _ _ (.inl TX.o.1.c0) ?_
  clear hK K hX
  refine qn ?_
  refine wpAnyZ_one (i:=14) zj rfl (fun K hK=> ?_)
  go_simp
  refine hlay.mono ?_
  rintro e w5 ⟨g',cap',rfl,u1,u2,H5⟩
  refine hK _ _ (.inl u1) ?_
  clear hK K
  refine qn ?_
  refine wpAnyZ_free (i:=15) (v:= ?v15) zo rfl zj zj zj (fun _ _ _ h=>h) (Or.inl ⟨zu,?hy15⟩) u1 ?rest15
  case hy15=>(intro w' _;go_simp;try with_reducible rfl)
  refine qn ?_
  refine wpAnyZ_free (i:=16) (v:= ?v16) zo rfl zj zj zj (fun _ _ _ h=>h) (Or.inl ⟨zu,?hy16⟩) u1 ?rest16
  case hy16=>(intro w' _;go_simp;try with_reducible rfl)
  refine qn ?_
  refine wpAnyZ_one (i:=17) zj rfl (fun K hK=> ?_)
  go_simp
  refine hK _ _ (.inr ⟨rfl,zo⟩) ?_
  clear hK K
  refine wpAnyZ_done zj ?_ _
  have FIN:Aside (PutOk base w p v M (w5.setCell ⟨p,0,none⟩ (.slice (some ⟨g',0,none⟩) (L.length+1) cap'))):=put_fin HT.o TX.o.2 HM.o.1 HM.o.2.1 HM.o.2.2.1 HM.o.2.2.2.1 HM.o.2.2.2.2.1 H5.o
  clear H5 u1 u2
  go_wp2
  go_ret
  exact ⟨rfl,FIN.o⟩
 case al=>
  go_simp
  rw [<-hY]
  refine hK _ _ (.inl (HT.o.later BY).c0) ?_
  clear hK K hY
  refine qn ?_
  refine wpAnyZ_one (i:=9) zj rfl (fun K hK=> ?_)
  go_simp
  refine hpy.mono ?_
  rintro e X ⟨rfl,hbX⟩
  have BX:Below w.heap.size w X:=zh BY hbX
  have TX:Aside (LineAt base X p v L/\Below w.heap.size w X):=⟨HT.o.later BX,BX⟩
  have hlay:=lay_letter X base p wc.heap.size q v L (id,c,false) TX.o.1 (by have:=BX.size;omega) hL HM.o.2.2.2.2.2 ((hbX.block _ hYs).trans hYb) (fun e=>by have h1:=((HT.o.later B4.o).ne _ e.symm).2.1;omega)
  refine hK _ _ (.inl TX.o.1.c0) ?_
  clear hK K
  refine qn ?_
  refine wpAnyZ_one (i:=14) zj rfl (fun K hK=> ?_)
  go_simp
  refine hlay.mono ?_
  rintro e w5 ⟨g',cap',rfl,u1,u2,H5⟩
  refine hK _ _ (.inl u1) ?_
  clear hK K
  refine qn ?_
  refine wpAnyZ_free (i:=15) (v:= ?vb15) zo rfl zj zj zj (fun _ _ _ h=>h) (Or.inl ⟨zu,?hyb15⟩) u1 ?restb15
  case hyb15=>(intro w' _;go_simp;try with_reducible rfl)
  refine qn ?_
  refine wpAnyZ_free (i:=16) (v:= ?vb16) zo rfl zj zj zj (fun _ _ _ h=>h) (Or.inl ⟨zu,?hyb16⟩) u1 ?restb16
  case hyb16=>(intro w' _;go_simp;try with_reducible rfl)
  refine qn ?_
  refine wpAnyZ_one (i:=17) zj rfl (fun K hK=> ?_)
  go_simp
  refine hK _ _ (.inr ⟨rfl,zo⟩) ?_
  clear hK K
  refine wpAnyZ_done zj ?_ _
  have FIN:Aside (PutOk base w p v M (w5.setCell ⟨p,0,none⟩ (.slice (some ⟨g',0,none⟩) (L.length+1) cap'))):=put_fin HT.o TX.o.2 HM.o.1 HM.o.2.1 HM.o.2.2.1 HM.o.2.2.2.1 HM.o.2.2.2.2.1 H5.o
  clear H5 u1 u2
  go_wp2
  go_ret
  exact ⟨rfl,FIN.o⟩
end
section
open Go.RowKit Go.Lib Go.Sort
def bytesW (l:List UInt8):List Value:=l.map fun c=>.int .u8 (c.toNat:Int)
theorem conv_row {base:Nat} {l:List UInt8} (h:w.ownsRow base 5 1 v n (bytesW l)) (hl:l.length=n):
  Sem.run prog (convert 221 9 v) w= .ok (.string ⟨l.toArray⟩) w:=by
 rcases ul n with h0 | h0
 ·have hl0:l= []:=jC.1 zi
  subst hl0
  rcases h.2 with ⟨hv,_⟩ | ⟨g,cap,cur,hv,_⟩
  ·subst hv
   exact run_convert_bytes_nil w _ _ underlying221 underlying5 0 0 _ underlying9
  subst hv
  subst h0
  exact run_convert_bytes_back w _ _ _ _ _ [] underlying221 underlying5 underlying9 (fun j hj=>by simp at hj)
 obtain ⟨g,cap,rfl⟩:∃g cap,v= .slice (some ⟨g,0,none⟩) n cap:=by
  rcases h.2 with ⟨_,h2⟩ | ⟨g,cap,cur,hv,_⟩
  ·omega
  exact ⟨g,cap,hv⟩
 have hc:=h.cells (g:=g) rfl
 subst hl
 refine run_convert_bytes_back w _ _ _ _ _ l underlying221 underlying5 underlying9 (fun j hj=> ?_)
 refine hc j _ ?_
 simp [bytesW,ji hj]
def textL (L:List Ltr):List UInt8:=(seenOf L).map fun l=>UInt8.ofNat l.2.1
theorem seen_next (h:L[k]? =some l):seenOf (L.take (k+1))=seenOf (L.take k)++(if l.2.2 then [] else [l]):=by
 unfold seenOf
 rw [jL,h,vw]
 congr 1
 by_cases hg:l.2.2=true
 ·rw [if_pos hg];simp [hg]
 rw [if_neg hg];simp [hg]
end
section
open Go.RowKit Go.Lib Go.Sort
theorem delete_none (w:World) (base p:Nat) (v:Value) (L:List Ltr) (id:Int) (hE:Ln4 ad w) (hT:LineAt base w p v L) (hL:L.length<=1000) (hx:id∉L.map (·.1)):
  Calls prog 127 #[.pointer (some ⟨p,0,none⟩),.int .i64 id] w fun e w'=>e= .returned (.iface 399 (.pointer (some (ad 5))))/\Below w.heap.size w w':=by
 have HE:Aside (Ln4 ad w):=hE
 have hf:=lfind_any w base p v L id hT hL
 rw [findI_neg hx] at hf
 clear hE hT hx
 go_enter func127,ntmps127
 go_wp2_with fail
 refine hf.mono ?_
 rintro e w1 ⟨rfl,hb1⟩
 have B1:Aside (Below w.heap.size w w1):=hb1
 have c5:=(HE.o.later hb1).c5
 clear hb1 hf
 go_wp2
 go_ret
 exact ⟨rfl,B1.o⟩
theorem delete_ok (w:World) (base p i:Nat) (v:Value) (L:List Ltr) (id:Int) (hT:LineAt base w p v L) (hL:L.length<=1000) (hf:findL id L=some i):
  Calls prog 127 #[.pointer (some ⟨p,0,none⟩),.int .i64 id] w fun e w'=>e= .returned .nilIface/\LineAt base w' p v (L.set i (id,0,true))/\Keeps (fun k=>some k=v.ownBlock) w w':=by
 obtain ⟨⟨a,c,gn⟩,hl,rfl⟩:=findL_some hf
 have hil:=(jh.1 hl).1
 have hfa:=lfind_any w base p v L a hT hL
 rw [show findI a L=(i:Int) by unfold findI;rw [hf]] at hfa
 obtain ⟨ao,cap,rfl⟩:=rowShape hT.row
 obtain ⟨g,rfl⟩:∃g,ao=some ⟨g,0,none⟩:=by
  rcases hT.row.2 with ⟨_,h2⟩ | ⟨g,cap',cur,hv,_⟩
  ·omega
  cases hv;exact ⟨g,rfl⟩
 have HT:Aside (LineAt base w p (.slice (some ⟨g,0,none⟩) L.length cap) L):=hT
 have HL:Aside (L[i]? =some (a,c,gn)):=hl
 have d0:decide ((i:Int)<0)=false:=zm
 have ei:((i:Int)).toNat=i:=zi
 have bi:(i:Int)<(L.length:Int):=zi
 have pi:(0:Int)<=(i:Int):=zi
 clear hT hl hf
 go_enter func127,ntmps127
 go_wp2_with fail
 refine hfa.mono ?_
 rintro e w1 ⟨rfl,hb1⟩
 have H1:Aside (LineAt base w1 p (.slice (some ⟨g,0,none⟩) L.length cap) L/\Below w.heap.size w w1):=⟨HT.o.later hb1,hb1⟩
 clear hb1 hfa
 have c0:=H1.o.1.c0
 obtain ⟨blk,off,hbo,f0,f1,f2⟩:=(lrowIn H1.o.1.row).at HL.o
 have hoff:blk=g/\off=0:=by
  rcases lrowIn H1.o.1.row with h | ⟨b',o',h1,_⟩
  ·rw [h] at hil;simp at hil
  simp only [Option.some.injEq,Addr.mk.injEq,and_true] at hbo
  exact ⟨hbo.1.symm,hbo.2.symm⟩
 obtain ⟨rfl,rfl⟩:=hoff
 rw [jt] at f0 f1 f2
 have z0:∀j,w1.frozen? ⟨blk,j,none⟩=false:=fun j=>H1.o.1.row.frozenAt j
 have z1:=z0 (i*3)
 have z2:=z0 (i*3+1)
 have z3:=z0 (i*3+2)
 have hne:blk≠p:=(H1.o.1.ne blk rfl).1
 have FIN:Aside (LineAt base (w1.setCells blk (i*3) [.int .i64 a,.int .u8 0,.bool false]) p (.slice (some ⟨blk,0,none⟩) L.length cap) (L.set i (a,0,true))/\Keeps (fun k=>some k=some blk) w (w1.setCells blk (i*3) [.int .i64 a,.int .u8 0,.bool false])):=by
  have hkp:=setCells_keeps blk [.int .i64 a,.int .u8 0,.bool false] (i*3) w1
  have hro:=H1.o.1.row
  have hself:L.set i (a,c,gn)=L:=by
   have h:=List.set_getElem_self hil
   rw [(jh.1 HL.o).2] at h
   exact h
  have e1:flat encL L=(flat encL L).take (i*3)++encL (a,c,gn)++(flat encL L).drop ((i+1)*3):=by
   rw [<-flat_set encL_len L i hil (a,c,gn),hself]
  have e2:=flat_set encL_len L i hil (a,0,true)
  have el:((flat encL L).take (i*3)).length=i*3:=by rw [jz,flat_len encL_len];omega
  rw [e1] at hro
  have ho:=owns_over (vs:=[.int .i64 a,.int .u8 0,.bool false]) hro rfl
  rw [el] at ho
  have hm:∀l∈L.set i (a,0,true),l∈L\/l=(a,0,true):=fun l hl=>List.mem_or_eq_of_mem_set hl
  refine ⟨⟨(hkp.block p H1.o.1.lt (fun e=>hne e.symm)).trans H1.o.1.cell,?_,H1.o.1.low,?_,fun l hl=> ?_,fun l hl=> ?_⟩,?_⟩
  ·rw [vZ,e2]
   exact ho
  ·rw [set_ids HL.o]
   exact H1.o.1.nodup
  ·rcases hm l hl with h | rfl
   ·exact H1.o.1.pos l h
   exact H1.o.1.pos (a,c,gn) (jm HL.o)
  ·rcases hm l hl with h | rfl
   ·exact H1.o.1.small l h
   show 0<256
   omega
  exact ((keeps_of_below H1.o.2).mono (fun k hk e=>zi)).then hkp (fun k _ e=>by rw [e])
 clear z0
 go_wp2
 go_ret
 exact ⟨rfl,FIN.o⟩
def atL (n:Int) (L:List Ltr):Int×Bool:=if 0<=n then (match (seenOf L)[n.toNat]? with
 | some l=>(l.1,true)
 | none=>(0,false)) else (0,false)
theorem atL_hit {n:Int} (h:L[k]? =some l) (hg:l.2.2=false) (hn:n=((seenOf (L.take k)).length:Int)):atL n L=(l.1,true):=by
 have hk:=(jh.1 h).1
 have e:seenOf L=seenOf (L.take (k+1))++seenOf (L.drop (k+1)):=by
  unfold seenOf
  rw [<-vw,jH]
 unfold atL
 rw [if_pos zi,hn,Int.toNat_natCast,e,seen_next h,hg]
 simp
theorem atL_miss {n:Int} (h:∀j:Nat,j<(seenOf L).length->n≠(j:Int)):atL n L=(0,false):=by
 unfold atL
 split
 ·rw [uJ]
  have:=h n.toNat
  omega
 rfl
theorem at_any (w:World) (base p:Nat) (v:Value) (L:List Ltr) (n:Int) (h:LineAt base w p v L) (hL:L.length<=1000) (hn: -9223372036854775808<=n/\n<=9223372036854775807):
  Calls prog 197 #[.pointer (some ⟨p,0,none⟩),.int .i64 n] w fun e w'=>e= .returned (.tuple #[.int .i64 (atL n L).1,.bool (atL n L).2])/\Below w.heap.size w w':=by
 obtain ⟨ao,cap,rfl⟩:=rowShape h.row
 have c0:=h.c0
 have HI:Aside (LtrsIn w ao L):=lrowIn h.row
 clear h
 obtain ⟨r1,r2,hr⟩:∃r1 r2,Aside (atL n L=(r1,r2)):=⟨_,_,rfl⟩
 rw [hr.o]
 show Calls _ _ _ _ fun e w'=>e= .returned (.tuple #[.int .i64 r1,.bool r2])/\Below w.heap.size w w'
 go_enter func197,ntmps197
 go_wp2
 clear c0
 go_loopg [1,13] L.length (fun kx s1 s13 wr=>∃(k:Nat) (m:Int),s1= .int .i64 m/\s13= .int .i64 (k:Int)/\k<=L.length/\L.length - k<=kx/\Aside (m=IntKind.i64.wrap (n - ((seenOf (L.take k)).length:Int))/\(∀j:Nat,j<(seenOf (L.take k)).length->n≠(j:Int))/\Below w.heap.size w wr))
 case atStart=>exact ⟨0,_,rfl,rfl,js _,jj _,⟨by rw [IntKind.wrap_i64];simp [seenOf];omega,fun j hj=>by simp [seenOf] at hj,jo _ w⟩⟩
 case round=>
  obtain ⟨k,m,rfl,rfl,hk,hkx,A⟩:=hrel
  by_cases hlt:k<L.length
  ·have hltz:decide ((k:Int)<(L.length:Int))=true:=by simp;omega
   have ek:((k:Int)).toNat=k:=zi
   have pk:(0:Int)<=(k:Int):=zi
   have bk:(k:Int)<(L.length:Int):=zi
   obtain ⟨⟨a,c,gn⟩,hl⟩:∃l,Aside (L[k]? =some l):=⟨L[k],ji hlt⟩
   obtain ⟨blk,off,rfl,f0,f1,f2⟩:=(HI.o.later A.o.2.2).at hl.o
   have HN:=Lib.hid (seen_next hl.o)
   have HS:=Lib.hid (show (seenOf (L.take k)).length<=1000 by
    have:(seenOf (L.take k)).length<=(L.take k).length:=vF _ _
    rw [jz] at this;omega)
   obtain ⟨u,hu⟩:=za wr
   subst hu
   have HB:Aside (∀o,Below w.heap.size w (u.alloc o)):=fun o=>A.o.2.2.alloc A.o.2.2.size o
   cases gn with
   | true=>
    have f2':u.cell? ⟨blk,off+k*3+2,none⟩=some (.bool false):=f2
    clear f2
    go_wp2
    go_roundg (L.length - (k+1))
    case measure=>omega
    case rel=>
     have e:seenOf (L.take (k+1))=seenOf (L.take k):=by rw [HN.o];simp
     exact ⟨k+1,m,rfl,zw,zi,jj _,⟨by rw [e];exact A.o.1,by rw [e];exact A.o.2.1,HB.o _⟩⟩
   | false=>
    have f2':u.cell? ⟨blk,off+k*3+2,none⟩=some (.bool true):=f2
    clear f2
    by_cases hm:m=0
    ·have dm:(m==0)=true:=by simp [hm]
     have hnk:n=((seenOf (L.take k)).length:Int):=by
      have h1:=A.o.1
      have h2:=HS.o
      rw [hm,IntKind.wrap_i64] at h1
      omega
     have hat:=atL_hit hl.o rfl hnk
     rw [hr.o] at hat
     have HR:=Lib.hid hat
     clear hm hnk hat
     go_wp2
     go_ret2
     exact ⟨by cases HR.o;rfl,HB.o _⟩
    have dm:(m==0)=false:=by simp [hm]
    have hne:n≠((seenOf (L.take k)).length:Int):=by
     intro e
     have h1:=A.o.1
     rw [e,IntKind.wrap_i64] at h1
     omega
    have HNE:=Lib.hid hne
    clear hm hne
    go_wp2
    go_roundg (L.length - (k+1))
    case measure=>omega
    case rel=>
     have e:(seenOf (L.take (k+1))).length=(seenOf (L.take k)).length+1:=by rw [HN.o];simp
     refine ⟨k+1,_,rfl,zw,zi,jj _,⟨?_,fun j hj=> ?_,HB.o _⟩⟩
     ·have h1:=A.o.1
      have h2:=HS.o
      rw [e,h1,IntKind.wrap_i64,IntKind.wrap_i64]
      unfold wrap64
      omega
     rw [e] at hj
     rcases vh j (seenOf (L.take k)).length with h | h
     ·exact A.o.2.1 j h
     obtain rfl:j=(seenOf (L.take k)).length:=zi
     exact HNE.o
  have hltz:decide ((k:Int)<(L.length:Int))=false:=zk
  have et:L.take k=L:=jJ zi
  have hat:=atL_miss (n:=n) (L:=L) (by have:=A.o.2.1;rwa [et] at this)
  rw [hr.o] at hat
  have HR:=Lib.hid hat
  clear et hat
  go_wp2
  go_ret2
  exact ⟨by cases HR.o;rfl,A.o.2.2⟩
end
section
open Go.RowKit Go.Lib Go.Sort
theorem PutOk.step {base:Nat} (h:PutOk base w p v M w') (hT:LineAt base w p v L) (hB:Below w0.heap.size w0 w) (hp:w0.heap.size<=p):
  ∃v',LineAt base w' p v' M/\Below w0.heap.size w0 w'/\Keeps (fun k=>k=p\/base<=k) w w':=by
 obtain ⟨v',h1,h2,-⟩:=h
 have hlow:=hT.low
 have hk:Keeps (fun k=>k=p\/base<=k) w w':=h2.mono (fun k _ e=>e.imp id (fun e=>(hT.ne k e.symm).2.2))
 exact ⟨v',h1,hB.trans (hk.below hB.size (by rintro k (rfl | e)<;>omega)),hk⟩
end
section
open Go.RowKit Go.Lib Go.Sort
open scoped Classical
def ActOk (base:Nat) (w:World) (p:Nat) (v:Value) (M:List Ltr) (w':World):Prop:=
 ∃v',LineAt base w' p v' M/\Keeps (fun k=>k=p\/some k=v.ownBlock) w w'/\(v'.ownBlock=v.ownBlock\/∀g,v'.ownBlock=some g->w.heap.size<=g)
theorem ActOk.of_below {base:Nat} (h:LineAt base w p v L) (hb:Below w.heap.size w w'):ActOk base w p v L w':=
 ⟨v,h.later hb,(keeps_of_below hb).mono (fun k hk e=>zi),.inl rfl⟩
theorem ActOk.of_put {base:Nat} (h:PutOk base w p v M w'):ActOk base w p v M w':=by
 obtain ⟨v',h1,h2,h3⟩:=h
 exact ⟨v',h1,h2,h3⟩
def lnInsE (id behind:Int) (L:List Ltr):Nat:=
 if 4<=id/\id<4294967300/\0<=behind/\behind<id then (if id∈L.map (·.1) then 7 else if behind=0\/behind∈L.map (·.1) then 0 else 6) else 3
def insL (id behind:Int) (c:Nat) (L:List Ltr):List Ltr:=if lnInsE id behind L=0 then put behind (id,c,false) L else L
def errN (ad:Nat->Addr) (c:Nat):Value:=if c=0 then .nilIface else .iface 399 (.pointer (some (ad (c - 1))))
theorem insert_all (w:World) (base p:Nat) (v:Value) (L:List Ltr) (id behind:Int) (c:Nat) (hE:Ln4 ad w) (hT:LineAt base w p v L) (hbase:base<=w.heap.size) (hL:L.length<=900) (hi: -9223372036854775808<=id/\id<=9223372036854775807) (hc:c<256):
  Calls prog 126 #[.pointer (some ⟨p,0,none⟩),.int .i64 id,.int .i64 behind,.int .u8 (c:Int)] w fun e w'=>e= .returned (errN ad (lnInsE id behind L))/\ActOk base w p v (insL id behind c L) w':=by
 unfold insL lnInsE
 by_cases h1:4<=id/\id<4294967300/\0<=behind/\behind<id
 ·rw [if_pos h1]
  by_cases h2:id∈L.map (·.1)
  ·rw [if_pos h2,if_neg zi]
   refine (insert_exist w base p v L id behind c hE hT zi h1 h2).mono ?_
   rintro e w' ⟨rfl,hb⟩
   exact ⟨rfl,ActOk.of_below hT hb⟩
  rw [if_neg h2]
  by_cases h3:behind=0\/behind∈L.map (·.1)
  ·rw [if_pos h3,if_pos rfl]
   refine (insert_ok w base p v L id behind c hT hbase hL h1 hc h2 h3).mono ?_
   rintro e w' ⟨rfl,hp⟩
   exact ⟨rfl,ActOk.of_put hp⟩
  rw [if_neg h3,if_neg zi]
  refine (insert_none w base p v L id behind c hE hT zi h1 h2 (fun e=>h3 (.inl e)) (fun e=>h3 (.inr e))).mono ?_
  rintro e w' ⟨rfl,hb⟩
  exact ⟨rfl,ActOk.of_below hT hb⟩
 rw [if_neg h1,if_neg zi]
 refine (insert_shape w p id behind c hE hi h1).mono ?_
 rintro e w' ⟨rfl,hb⟩
 exact ⟨rfl,ActOk.of_below hT hb⟩
def lnDelE (id:Int) (L:List Ltr):Nat:=match findL id L with
 | none=>6
 | some _=>0
def delL (id:Int) (L:List Ltr):List Ltr:=match findL id L with
 | none=>L
 | some i=>L.set i (id,0,true)
theorem delete_all (w:World) (base p:Nat) (v:Value) (L:List Ltr) (id:Int) (hE:Ln4 ad w) (hT:LineAt base w p v L) (hL:L.length<=1000):
  Calls prog 127 #[.pointer (some ⟨p,0,none⟩),.int .i64 id] w fun e w'=>e= .returned (errN ad (lnDelE id L))/\ActOk base w p v (delL id L) w':=by
 unfold lnDelE delL
 cases hf:findL id L with
 | none=>
  refine (delete_none w base p v L id hE hT hL (fun hm=> ?_)).mono ?_
  ·obtain ⟨l,hl,e⟩:=jO.1 hm
   exact findL_none hf l hl e
  rintro e w' ⟨rfl,hb⟩
  exact ⟨rfl,ActOk.of_below hT hb⟩
 | some i=>
  refine (delete_ok w base p i v L id hT hL hf).mono ?_
  rintro e w' ⟨rfl,h1,h2⟩
  exact ⟨rfl,v,h1,h2.mono (fun k _ e=>.inr e),.inl rfl⟩
theorem ActOk.step {base:Nat} (h:ActOk base w p v M w') (hT:LineAt base w p v L) (hB:Below w0.heap.size w0 w) (hp:w0.heap.size<=p):
  ∃v',LineAt base w' p v' M/\Below w0.heap.size w0 w'/\Keeps (fun k=>k=p\/some k=v.ownBlock) w w'/\(v'.ownBlock=v.ownBlock\/∀g,v'.ownBlock=some g->w.heap.size<=g):=by
 obtain ⟨v',h1,h2,h3⟩:=h
 have hlow:=hT.low
 refine ⟨v',h1,hB.trans (h2.below hB.size ?_),h2,h3⟩
 rintro k (rfl | e)
 ·exact hp
 have:=(hT.ne k e.symm).2.2
 omega
end
section
theorem laid_list {P:Program} {W:World} {ti tp te ts:TypeId} {ms:Array (String×TypeId)} {nm:String} {f:Field}
  (hi:P.underlying ti=some (.interface ms)) (hrow:∀u,P.typeName? 3 u=some nm->u=tp) (hp:P.underlying tp=some (.pointer te)) (he:P.underlying te=some (.struct #[f])) (hft:f.type=ts) (hfo:f.offset=0) (hs:P.underlying ts=some .string) (hc:P.cellsOf te=1) (hcs:P.cellsOf ts=1):
  ∀(l:List (String×Nat×List UInt8)) (ps:List MemPlace),
   (∀x∈l,P.globalNamed x.1=some x.2.1/\(P.globals[x.2.1]?).map (·.type)=some ti)->
   DataW.LaidVars P W (l.map fun x=>(x.1,.iface nm (.ptr (.agg [.lit (.string x.2.2)])))) ps->ps.Nodup->
   (∀b off,MemPlace.cell b off∈ps->(∃c t,W.heap[b]? =some (.cells c t (0,0)))/\∀u v,W.cell? ⟨b,off,none⟩=some (.iface u v)->Value.okWide P W .any 0 u v)->
   ∃az:List Addr,az.length=l.length/\(∀(i:Nat) (x:String×Nat×List UInt8) (a:Addr),l[i]? =some x->az[i]? =some a->W.cell? ⟨x.2.1,0,none⟩=some (.iface tp (.pointer (some a))))/\
    (∀a∈az,(∃c t,W.heap[a.block]? =some (.cells c t (0,0)))/\MemPlace.cell a.block a.off∈ps)/\az.Nodup
 | [],ps,_,_,_,_=>⟨[],rfl,zm,zm,List.nodup_nil⟩
 | x::l,ps,hx,hv,hnd,hr=>by
  obtain ⟨g,t,cs,fuel,p,q,hg,ht,hvar,hd,hq,e⟩:=hv
  subst e
  obtain ⟨hg',ht'⟩:=hx x (jM)
  obtain rfl:=Option.some.inj (hg'.symm.trans hg)
  obtain rfl:=Option.some.inj (ht'.symm.trans ht)
  obtain ⟨l0⟩:=cs
  have ok0:∀u v,l0= [.iface u v]->Value.okWide P W .any 0 u v:=fun u v e=>by
   subst e
   exact (hr x.2.1 0 (by simp [MemPlace.row])).2 u v (by simpa using World.var?_cell hg hvar 0)
  obtain ⟨a0,s0,rfl,hc0,hs0,hz0,rfl⟩:=errorString_of_trod hi hrow hp he hft hfo hs hc hcs hd ok0
  have hnd2:=vz.1 hnd
  obtain ⟨az,hl,h1,h2,h3⟩:=laid_list hi hrow hp he hft hfo hs hc hcs l q (fun y hy=>hx y (jv _ hy)) hq hnd2.2.1 (fun b off hm=>hr b off (vi _ hm))
  have hm0:MemPlace.cell a0.block a0.off∈MemPlace.row ⟨x.2.1,0,none⟩ (#[Value.iface tp (.pointer (some a0))]:Array Value).size++MemPlace.row a0 1:=vi _ (by simp [MemPlace.row])
  refine ⟨a0::az,by simp [hl],?_,?_,?_⟩
  ·intro i y a hy ha
   cases i with
   | zero=>
    simp only [List.getElem?_cons_zero,Option.some.injEq] at hy ha
    subst hy ha
    simpa using World.var?_cell hg hvar 0
   | succ i=>
    simp only [List.getElem?_cons_succ] at hy ha
    exact h1 i y a hy ha
  ·intro a ha
   rcases jn.1 ha with rfl | ha
   ·exact ⟨(hr _ _ (jP _ hm0)).1,jP _ hm0⟩
   exact ⟨(h2 a ha).1,vi _ (h2 a ha).2⟩
  refine List.nodup_cons.2 ⟨fun hin=> ?_,h3⟩
  exact hnd2.2.2 _ hm0 _ (h2 a0 hin).2 rfl
theorem Tryz.yStar: "*" ++ "errors.errorString" = "*errors.errorString" :=zo
theorem Tryz.yRow (u:TypeId) (h:prog.typeName? 3 u=some "*errors.errorString"):u=399:=
 typeName_ptr_named (nm:= "errors.errorString") (by rw [Tryz.yStar];kernel_rfl) zj zo u (by rw [Tryz.yStar];exact h)
theorem Tryz.yCellsS:prog.cellsOf 417=1:=zj
theorem Tryz.yCellsString:prog.cellsOf 9=1:=zj
