import Derived.Test.YtfkekfibjnjcnaaGreatDoorMZ09
import Derived.Test.YtfkekfibjnjcnaaGreatDoorMZ10
import Derived.Test.YtfkekfibjnjcnaaGreatDoorMZ12
set_option linter.unusedSimpArgs false
set_option linter.unusedVariables false
set_option maxRecDepth 100000
set_option maxHeartbeats 64000000
namespace Go.Proofs.YtfkekfibjnjcnaaGreatDoor
open Go.Proofs.Tryz
variable {L M:List Ltr} {A B:List OpX} {s t:List UInt8} {l:Ltr} {D k n p:Nat} {ad:Nat→Addr} {x y:OpX} {v:Value} {w w' w0:World}
section
open Go.RowKit Go.Lib Go.Sort
theorem rowSucc {base:Nat} {e:TypeId} {xs:List Value} (h:w.ownsRow base e k v (n+1) xs):∃g cap,v= .slice (some ⟨g,0,none⟩) (n+1) cap:=by
 rcases h.2 with ⟨_,h2⟩ | ⟨g,cap,cur,rfl,_⟩
 ·omega
 exact ⟨g,cap,rfl⟩
theorem LineAt.ne {base:Nat} (h:LineAt base w p v L):∀g,v.ownBlock=some g->g≠p/\g<w.heap.size/\base<=g:=fun g hg=>by
 have h1:=h.row.lt g hg
 have h2:=h.low
 exact ⟨zj,h1.2,h1.1⟩
theorem lay_letter (X:World) (base p vb k:Nat) (v:Value) (L:List Ltr) (x:Ltr) (hT:LineAt base X p v L) (hbase:base<=X.heap.size) (hL:L.length<=900) (hk:k<=L.length) (hvb:X.heap[vb]? =some (.cells #[.int .i64 x.1,.int .u8 (x.2.1:Int),.bool (!x.2.2)] 194 (0,0))) (hvn:some vb≠v.ownBlock):
  Calls prog 190 #[v,.int .i64 (k:Int),.slice (some ⟨vb,0,none⟩) 1 1] X
   fun e w'=>∃g' cap',e= .returned (.slice (some ⟨g',0,none⟩) (L.length+1) cap')/\w'.cell? ⟨p,0,none⟩=some v/\w'.frozen? ⟨p,0,none⟩=false/\Aside (w'.ownsRow base 194 3 (.slice (some ⟨g',0,none⟩) (L.length+1) cap') (L.length+1) (flat encL (L.take k++x::L.drop k))/\Keeps (fun k=>some k=v.ownBlock) X w'/\(some g'=v.ownBlock\/X.heap.size<=g')/\w'.heap[p]? =some (.cells #[v] 192 (0,0))):=by
 refine (layLtr_any X base L.length k v (flat encL L) (encL x) hT.row zj vb rfl (fun j u hj=> ?_) (encL_one x) (flat_one encL_one L) hvn ?_ (fun j=> ?_) hbase hk).mono ?_
 ·simp only [World.cell?,hvb]
  rw [<-hj]
  simp [encL]
 ·simp [World.shape?,hvb]
 ·simp [World.frozen?,hvb]
 rintro e w' ⟨v',rfl,ho,hkp,hv'⟩
 obtain ⟨g',cap',rfl⟩:=rowSucc ho
 have hp:=hkp.block p hT.lt (fun e=>(hT.ne p e.symm).1 rfl)
 have hp':w'.heap[p]? =some (.cells #[v] 192 (0,0)):=hp.trans hT.cell
 rw [<-flat_lay encL_len L k hk] at ho
 refine ⟨g',cap',rfl,by simp [World.cell?,hp'],by simp [World.frozen?,hp'],ho,hkp,?_,hp'⟩
 rcases hv' with e | e
 ·exact .inl e
 right
 have:g'=X.heap.size:=by simpa [Value.ownBlock] using e
 omega
theorem side_alloc {wc:World} (hb:Below w.heap.size w wc) (cs:Array Value) (t:TypeId):∃Y,Y=(wc.alloc (.cells cs t)).drew/\Below w.heap.size w Y/\Y.heap[wc.heap.size]? =some (.cells cs t (0,0))/\wc.heap.size<Y.heap.size:=by
 refine ⟨_,rfl,(hb.alloc hb.size _).drew,?_,?_⟩
 ·exact heap_alloc_new wc _
 have h:=vQ wc (.cells cs t)
 have e:(wc.alloc (.cells cs t)).drew.heap.size=(wc.alloc (.cells cs t)).heap.size:=rfl
 omega
def PutOk (base:Nat) (w:World) (p:Nat) (v:Value) (M:List Ltr) (w':World):Prop:=
 ∃v',LineAt base w' p v' M/\Keeps (fun k=>k=p\/some k=v.ownBlock) w w'/\(v'.ownBlock=v.ownBlock\/∀g,v'.ownBlock=some g->w.heap.size<=g)
theorem put_fin {base:Nat} {X w5:World} {g' cap':Nat} {x:Ltr} (hT:LineAt base w p v L) (hB:Below w.heap.size w X) (hM:M=L.take k++x::L.drop k) (hlen:M.length=L.length+1)
  (hn:(M.map (·.1)).Nodup) (hpos:∀l∈M,l.1≠0) (hsm:∀l∈M,l.2.1<256)
  (h5:w5.ownsRow base 194 3 (.slice (some ⟨g',0,none⟩) (L.length+1) cap') (L.length+1) (flat encL (L.take k++x::L.drop k))/\Keeps (fun k=>some k=v.ownBlock) X w5/\(some g'=v.ownBlock\/X.heap.size<=g')/\w5.heap[p]? =some (.cells #[v] 192 (0,0))):
  PutOk base w p v M (w5.setCell ⟨p,0,none⟩ (.slice (some ⟨g',0,none⟩) (L.length+1) cap')):=by
 obtain ⟨ho,hkp,hg,hp⟩:=h5
 obtain ⟨w6,hw6⟩:=za (w5.setCell ⟨p,0,none⟩ (.slice (some ⟨g',0,none⟩) (L.length+1) cap'))
 rw [<-hw6]
 have hk56:Keeps (fun k=>k=p) w5 w6:=by rw [hw6];exact setCells_keeps p [_] 0 w5
 have hgl:=ho.lt g' rfl
 have hlow:=hT.low
 have hc6:w6.heap[p]? =some (.cells #[.slice (some ⟨g',0,none⟩) (L.length+1) cap'] 192 (0,0)):=by rw [hw6];exact heap_setCell_same w5 p 0 _ _ _ hp
 have hr6:=ownsSame (w':=w6) ho (fun g hg'=>by
  cases hg'
  exact hk56.block g' hgl.2 (fun e=>zj))
 have hKw:Keeps (fun k=>k=p\/some k=v.ownBlock) w X:=(keeps_of_below hB).mono (fun k hk e=>zj)
 refine ⟨_,⟨hc6,by rw [hlen,hM];exact hr6,hT.low,hn,hpos,hsm⟩,(hKw.then hkp (fun _ _ e=>.inr e)).then hk56 (fun _ _ e=>.inl e),?_⟩
 rcases hg with h | h
 ·exact .inl h
 refine .inr (fun g hg=> ?_)
 have e:g'=g:=by simpa [Value.ownBlock] using hg
 have:=hB.size
 omega
theorem insert_ok (w:World) (base p:Nat) (v:Value) (L:List Ltr) (id behind:Int) (c:Nat) (hT:LineAt base w p v L) (hbase:base<=w.heap.size) (hL:L.length<=900) (h:ShapeOk id behind) (hc:c<256) (hx:id∉L.map (·.1)) (hy:behind=0\/behind∈L.map (·.1)):
  Calls prog 134 #[.pointer (some ⟨p,0,none⟩),.int .i64 id,.int .i64 behind,.int .u8 (c:Int)] w fun e w'=>e= .returned .nilIface/\PutOk base w p v (put behind (id,c,false) L) w':=by
 have HT:Aside (LineAt base w p v L):=hT
 have hof:=of_ok id w h.1 h.2.1
 have d2:decide (behind<0)=false:=decide_eq_false jy
 have d3:decide (id<=behind)=false:=decide_eq_false qT
 have HI:=Lib.hid (findI_neg hx)
 have HX:Aside (id∉L.map (·.1)):=hx
 obtain ⟨bf,k,hbf,hbk,hk,hpl⟩:∃(bf:Int) (k:Nat),Aside (findI behind L=bf/\((bf= -1/\behind=0)\/0<=bf))/\IntKind.i64.wrap (bf+1)=(k:Int)/\k<=L.length/\Aside (k+skipN id (L.drop k)=placeL behind id L):=by
  unfold placeL
  by_cases h0:behind=0
  ·refine ⟨-1,0,⟨findI_neg (fun hm=> ?_),.inl ⟨rfl,h0⟩⟩,zt,vD _,?_⟩
   ·obtain ⟨l,hl,e⟩:=vV.1 hm
    exact hT.pos l hl (by rw [e,h0])
   show _=_
   rw [if_pos h0]
   simp
  obtain ⟨i,hi,hf,hil⟩:=findI_pos (hy.resolve_left h0)
  refine ⟨i,i+1,⟨hi,.inr zj⟩,?_,zj,?_⟩
  ·rw [IntKind.wrap_i64];omega
  show _=_
  rw [if_neg h0,hf]
 have HM:Aside (put behind (id,c,false) L=L.take (placeL behind id L)++(id,c,false)::L.drop (placeL behind id L)/\(put behind (id,c,false) L).length=L.length+1/\((put behind (id,c,false) L).map (·.1)).Nodup/\(∀l∈put behind (id,c,false) L,l.1≠0)/\(∀l∈put behind (id,c,false) L,l.2.1<256)/\placeL behind id L<=L.length):=by
  refine ⟨(put_at hy).2,put_len hy,put_nodup hy hT.nodup hx,fun l hl=> ?_,fun l hl=> ?_,(put_at (x:=(id,c,false)) hy).1⟩
  ·rcases vz.1 ((put_perm hy).mem_iff.1 hl) with rfl | hl
   ·have:=h.1
    show id≠0
    omega
   exact hT.pos l hl
  rcases vz.1 ((put_perm hy).mem_iff.1 hl) with rfl | hl
  ·exact hc
  exact hT.small l hl
 obtain ⟨M,hM⟩:∃M,put behind (id,c,false) L=M:=⟨_,rfl⟩
 rw [hM] at HM |-
 obtain ⟨q,hq⟩:∃q,placeL behind id L=q:=⟨_,rfl⟩
 rw [hq] at HM hpl
 clear hM hq hT hy hx h
 go_enter func134,ntmps134
 go_wp2_with fail
 refine hof.mono ?_
 rintro e w1 ⟨rfl,hb⟩
 have B2:Aside (∀o,Below w.heap.size w (w1.alloc o)):=fun o=>hb.alloc hb.size o
 clear hb hof
 go_wp2_with fail
 refine (lfind_any _ base p v L id (HT.o.later (B2.o _)) zj).mono ?_
 rintro e w2 ⟨rfl,hb2⟩
 rw [HI.o]
 have B3:Aside (Below w.heap.size w w2):=(B2.o _).trans (hb2.mono (B2.o _).size)
 clear hb2 B2
 go_wp2_with fail
 refine (lfind_any _ base p v L behind (HT.o.later B3.o) zj).mono ?_
 rintro e w3 ⟨rfl,hb3⟩
 rw [hbf.o.1]
 have B4:Aside (Below w.heap.size w w3):=zi B3.o hb3
 clear hb3 B3
 go_upto_region 7 with fail
 go_cut [42] (fun s42 wx=>s42= .bool false/\wx=w3)
 case first=>
  rcases hbf.o.2 with ⟨rfl,rfl⟩ | hp
  ·go_wp2
   go_meet
   exact ⟨rfl,rfl⟩
  have dp:decide (bf<0)=false:=decide_eq_false zj
  go_wp2
  go_meet
  exact ⟨rfl,rfl⟩
 obtain ⟨rfl,rfl⟩:=hcut
 go_upto_region 9 with fail
 have hpc:=pass_any wc.drew base p k v L id (HT.o.later B4.o.drew) zj hk HX.o
 rw [hpl.o] at hpc
 obtain ⟨Y,hY,BY,hYb,hYs⟩:=side_alloc B4.o #[.int .i64 id,.int .u8 (c:Int),.bool true] 194
 have hpy:=pass_any Y base p k v L id (HT.o.later BY) zj hk HX.o
 rw [hpl.o] at hpy
 have hS0:wc.drew.cell? ⟨p,0,none⟩=some v:=(HT.o.later B4.o.drew).c0
 refine wp_region_Z (S:=fun w'=>w'.cell? ⟨p,0,none⟩=some v) (z:=17) zk hS0 (fun hHeld=> ?_)
 refine wpAnyZ_free (i:=0) (v:= ?v0) zt rfl zk zk zk (fun _ _ _ h=>h) (Or.inl ⟨zu,?hy0⟩) hHeld ?rest0
 case hy0=>(intro w' _;go_simp;try with_reducible rfl)
 refine qn ?_
 refine wpAnyZ_free (i:=1) (v:= ?v1) zt rfl zk zk zk (fun _ _ _ h=>h) (Or.inl ⟨zu,?hy1⟩) hHeld ?rest1
 case hy1=>(intro w' _;go_simp;try with_reducible rfl)
 refine qn ?_
 refine wpAnyZ_free (i:=2) (v:= ?v2) zt rfl zk zk zk (fun _ _ _ h=>h) (Or.inl ⟨zu,?hy2⟩) hHeld ?rest2
 case hy2=>(intro w' _;go_simp;try with_reducible rfl)
 refine qn ?_
 refine wpAnyZ_free (i:=3) (v:= ?v3) zt rfl zk zk zk (fun _ _ _ h=>h) (Or.inl ⟨zu,?hy3⟩) hHeld ?rest3
 case hy3=>(intro w' _;go_simp;try with_reducible rfl)
 refine qn ?_
 refine wpAnyZ_take (i:=4) (v:= ?v4) zt zk rfl zk zk zk zk (fun _ _ _ h=>h) (Or.inl ⟨zu,?hy4⟩) hHeld ?rest4
 case hy4=>(intro w' hSw;go_simp;try with_reducible rfl)
 refine qn ?_
 refine wpAnyZ_free (i:=5) (v:= ?v5) zt rfl zk zk zk (fun _ _ _ h=>h) (Or.inl ⟨zu,?hy5⟩) hHeld ?rest5
 case hy5=>(intro w' _;go_simp;try with_reducible rfl)
 refine qn ?_
 refine wpAnyZ_free (i:=6) (v:= ?v6) zt rfl zk zk zk (fun _ _ _ h=>h) (Or.inl ⟨zu,?hy6⟩) hHeld ?rest6
 case hy6=>(intro w' _;go_simp;try with_reducible rfl)
 refine qn ?_
 refine wpAnyZ_free (i:=7) (v:= ?v7) zt rfl zk zk zk (fun _ _ _ h=>h) (Or.inl ⟨zu,?hy7⟩) hHeld ?rest7
 case hy7=>(intro w' _;go_simp;try with_reducible rfl)
 refine qn ?_
 refine wpAnyZ_free (i:=8) (v:= ?v8) zt rfl zk zk zk (fun _ _ _ h=>h) (Or.inl ⟨zu,?hy8⟩) hHeld ?rest8
 case hy8=>(intro w' _;go_simp;try with_reducible rfl)
 refine qn ?_
 refine wpAnyZ_free (i:=10) (v:= ?v10) zt rfl zk zk zk (fun _ _ _ h=>h) (Or.inl ⟨zu,?hy10⟩) hHeld ?rest10
 case hy10=>(intro w' _;go_simp;try with_reducible rfl)
 refine qn ?_
 refine wpAnyZ_free (i:=11) (v:= ?v11) zt rfl zk zk zk (fun _ _ _ h=>h) (Or.inl ⟨zu,?hy11⟩) hHeld ?rest11
 case hy11=>(intro w' _;go_simp;try with_reducible rfl)
 refine qn ?_
 refine wpAnyZ_free (i:=12) (v:= ?v12) zt rfl zk zk zk (fun _ _ _ h=>h) (Or.inl ⟨zu,?hy12⟩) hHeld ?rest12
 case hy12=>(intro w' _;go_simp;try with_reducible rfl)
 refine qn ?_
 refine wpAnyZ_two (i:=9) (j:=13) zk rfl rfl (fun K hK=> ?pa) (fun K hK=> ?al)
 case pa=>
  go_simp
  refine hpc.mono ?_
  rintro e w4 ⟨rfl,hb4⟩
  have B5:Below w.heap.size w w4:=zi B4.o.drew hb4
  refine hK _ _ (.inl (HT.o.later B5).c0) ?_
  clear hK K
  refine qn ?_
  obtain ⟨X,hX⟩:=za (w4.alloc (.cells #[.int .i64 id,.int .u8 (c:Int),.bool true] 194))
  have BX:Below w.heap.size w X:=by rw [hX];exact B5.alloc B5.size _
  have TX:Aside (LineAt base X p v L/\Below w.heap.size w X):=⟨HT.o.later BX,BX⟩
  have hlay:=lay_letter X base p w4.heap.size q v L (id,c,false) TX.o.1 (by have:=BX.size;omega) hL HM.o.2.2.2.2.2 (by rw [hX];exact heap_alloc_new w4 _) (fun e=>by have h1:=((HT.o.later B5).ne _ e.symm).2.1;omega)
  refine wpAnyZ_one (i:=13) zk rfl (fun K hK=> ?_)
  go_simp
  rw [<-hX]
  refine hK _ _ (.inl TX.o.1.c0) ?_
  clear hK K hX
  refine qn ?_
  refine wpAnyZ_one (i:=14) zk rfl (fun K hK=> ?_)
  go_simp
  refine hlay.mono ?_
  rintro e w5 ⟨g',cap',rfl,u1,u2,H5⟩
  refine hK _ _ (.inl u1) ?_
  clear hK K
  refine qn ?_
  refine wpAnyZ_free (i:=15) (v:= ?v15) zt rfl zk zk zk (fun _ _ _ h=>h) (Or.inl ⟨zu,?hy15⟩) u1 ?rest15
  case hy15=>(intro w' _;go_simp;try with_reducible rfl)
  refine qn ?_
  refine wpAnyZ_free (i:=16) (v:= ?v16) zt rfl zk zk zk (fun _ _ _ h=>h) (Or.inl ⟨zu,?hy16⟩) u1 ?rest16
  case hy16=>(intro w' _;go_simp;try with_reducible rfl)
  refine qn ?_
  refine wpAnyZ_one (i:=17) zk rfl (fun K hK=> ?_)
  go_simp
  refine hK _ _ (.inr ⟨rfl,zt⟩) ?_
  clear hK K
  refine wpAnyZ_done zk ?_ _
  have FIN:Aside (PutOk base w p v M (w5.setCell ⟨p,0,none⟩ (.slice (some ⟨g',0,none⟩) (L.length+1) cap'))):=put_fin HT.o TX.o.2 HM.o.1 HM.o.2.1 HM.o.2.2.1 HM.o.2.2.2.1 HM.o.2.2.2.2.1 H5.o
  clear H5 u1 u2
  go_wp2
  go_ret
  exact ⟨rfl,FIN.o⟩
 case al=>
  go_simp
  rw [<-hY]
  refine hK _ _ (.inl (HT.o.later BY).c0) ?_
  clear hK K hY
  refine qn ?_
  refine wpAnyZ_one (i:=9) zk rfl (fun K hK=> ?_)
  go_simp
  refine hpy.mono ?_
  rintro e X ⟨rfl,hbX⟩
  have BX:Below w.heap.size w X:=zi BY hbX
  have TX:Aside (LineAt base X p v L/\Below w.heap.size w X):=⟨HT.o.later BX,BX⟩
  have hlay:=lay_letter X base p wc.heap.size q v L (id,c,false) TX.o.1 (by have:=BX.size;omega) hL HM.o.2.2.2.2.2 ((hbX.block _ hYs).trans hYb) (fun e=>by have h1:=((HT.o.later B4.o).ne _ e.symm).2.1;omega)
  refine hK _ _ (.inl TX.o.1.c0) ?_
  clear hK K
  refine qn ?_
  refine wpAnyZ_one (i:=14) zk rfl (fun K hK=> ?_)
  go_simp
  refine hlay.mono ?_
  rintro e w5 ⟨g',cap',rfl,u1,u2,H5⟩
  refine hK _ _ (.inl u1) ?_
  clear hK K
  refine qn ?_
  refine wpAnyZ_free (i:=15) (v:= ?vb15) zt rfl zk zk zk (fun _ _ _ h=>h) (Or.inl ⟨zu,?hyb15⟩) u1 ?restb15
  case hyb15=>(intro w' _;go_simp;try with_reducible rfl)
  refine qn ?_
  refine wpAnyZ_free (i:=16) (v:= ?vb16) zt rfl zk zk zk (fun _ _ _ h=>h) (Or.inl ⟨zu,?hyb16⟩) u1 ?restb16
  case hyb16=>(intro w' _;go_simp;try with_reducible rfl)
  refine qn ?_
  refine wpAnyZ_one (i:=17) zk rfl (fun K hK=> ?_)
  go_simp
  refine hK _ _ (.inr ⟨rfl,zt⟩) ?_
  clear hK K
  refine wpAnyZ_done zk ?_ _
  have FIN:Aside (PutOk base w p v M (w5.setCell ⟨p,0,none⟩ (.slice (some ⟨g',0,none⟩) (L.length+1) cap'))):=put_fin HT.o TX.o.2 HM.o.1 HM.o.2.1 HM.o.2.2.1 HM.o.2.2.2.1 HM.o.2.2.2.2.1 H5.o
  clear H5 u1 u2
  go_wp2
  go_ret
  exact ⟨rfl,FIN.o⟩
end
section
open Go.RowKit Go.Lib Go.Sort
theorem infoU8:(prog.info? 5).map (fun i=>(i.zero,i.size,i.bytes))=some (some (.int .u8 0),1,1):=zk
def bytesW (l:List UInt8):List Value:=l.map fun c=>.int .u8 (c.toNat:Int)
theorem bytesW_append (a b:List UInt8):bytesW (a++b)=bytesW a++bytesW b:=by simp [bytesW]
theorem conv_row {base:Nat} {l:List UInt8} (h:w.ownsRow base 5 1 v n (bytesW l)) (hl:l.length=n):
  Sem.run prog (convert 123 9 v) w= .ok (.string ⟨l.toArray⟩) w:=by
 rcases Nat.eq_zero_or_pos n with h0 | h0
 ·have hl0:l= []:=vM.1 zj
  subst hl0
  rcases h.2 with ⟨hv,_⟩ | ⟨g,cap,cur,hv,_⟩
  ·subst hv
   exact run_convert_bytes_nil w _ _ underlying123 underlying5 0 0 _ underlying9
  subst hv
  subst h0
  exact run_convert_bytes_back w _ _ _ _ _ [] underlying123 underlying5 underlying9 (fun j hj=>by simp at hj)
 obtain ⟨g,cap,rfl⟩:∃g cap,v= .slice (some ⟨g,0,none⟩) n cap:=by
  rcases h.2 with ⟨_,h2⟩ | ⟨g,cap,cur,hv,_⟩
  ·omega
  exact ⟨g,cap,hv⟩
 have hc:=h.cells (g:=g) rfl
 subst hl
 refine run_convert_bytes_back w _ _ _ _ _ l underlying123 underlying5 underlying9 (fun j hj=> ?_)
 refine hc j _ ?_
 simp [bytesW,vj hj]
def textL (L:List Ltr):List UInt8:=(seenOf L).map fun l=>UInt8.ofNat l.2.1
theorem seen_next (h:L[k]? =some l):seenOf (L.take (k+1))=seenOf (L.take k)++(if l.2.2 then [] else [l]):=by
 unfold seenOf
 rw [ut,h,uD]
 congr 1
 by_cases hg:l.2.2=true
 ·rw [if_pos hg];simp [hg]
 rw [if_neg hg];simp [hg]
theorem textL_next {a:Int} {c:Nat} {g:Bool} (h:L[k]? =some (a,c,g)):textL (L.take (k+1))=textL (L.take k)++(if g then [] else [UInt8.ofNat c]):=by
 unfold textL
 rw [seen_next h,uq]
 cases g<;>rfl
theorem textL_len (L:List Ltr):(textL L).length<=L.length:=by
 unfold textL seenOf
 rw [ue]
 exact uH _ _
theorem text_any (w:World) (base p:Nat) (v:Value) (L:List Ltr) (h:LineAt base w p v L) (hL:L.length<=1000):
  Calls prog 72 #[.pointer (some ⟨p,0,none⟩)] w fun e w'=>e= .returned (.string ⟨(textL L).toArray⟩)/\Below w.heap.size w w':=by
 obtain ⟨i0,hi,hz0,hz1,hz2⟩:=info_parts infoU8
 obtain ⟨ao,cap,rfl⟩:=rowShape h.row
 have c0:=h.c0
 have HI:Aside (LtrsIn w ao L/\∀l∈L,l.2.1<256):=⟨lrowIn h.row,h.small⟩
 clear h
 go_enter func72,ntmps72
 go_wp2
 clear c0
 go_loopg [3,11] L.length (fun kx s3 s11 wr=>∃(k:Nat) (ov:Value),ov=s3/\s11= .int .i64 (k:Int)/\k<=L.length/\L.length - k<=kx/\Aside (wr.ownsRow w.heap.size 5 1 ov (textL (L.take k)).length (bytesW (textL (L.take k)))/\Below w.heap.size w wr))
 case atStart=>exact ⟨0,_,rfl,rfl,vD _,vm _,⟨ud _ _ _ _,vu _ w⟩⟩
 case round=>
  obtain ⟨k,ov,rfl,rfl,hk,hkx,A⟩:=hrel
  by_cases hlt:k<L.length
  ·have hltz:decide ((k:Int)<(L.length:Int))=true:=by simp;omega
   have ek:((k:Int)).toNat=k:=zj
   have pk:(0:Int)<=(k:Int):=zj
   have bk:(k:Int)<(L.length:Int):=zj
   obtain ⟨⟨a,c,gn⟩,hl⟩:∃l,Aside (L[k]? =some l):=⟨L[k],vj hlt⟩
   obtain ⟨blk,off,rfl,f0,f1,f2⟩:=(HI.o.1.later A.o.2).at hl.o
   have HN:=Lib.hid (textL_next hl.o)
   have hc256:c<256:=HI.o.2 _ (vx hl.o)
   obtain ⟨T,hT⟩:∃T,Aside (textL (L.take k)=T):=⟨_,rfl⟩
   have A':Aside (wr.ownsRow w.heap.size 5 1 ov T.length (bytesW T)/\Below w.heap.size w wr):=by have:=A.o;rw [hT.o] at this;exact this
   have hTl:T.length<=1000:=by have:=textL_len (L.take k);rw [hT.o,vP] at this;omega
   obtain ⟨u,hu⟩:=za wr
   subst hu
   cases gn with
   | true=>
    have f2':u.cell? ⟨blk,off+k*3+2,none⟩=some (.bool false):=f2
    clear f2 A
    go_wp2
    go_roundg (L.length - (k+1))
    case measure=>omega
    case rel=>
     refine ⟨k+1,_,rfl,zL,zj,vm _,?_⟩
     have e:textL (L.take (k+1))=T:=by rw [HN.o,hT.o];simp
     rw [e]
     exact ⟨A'.o.1.alloc _,A'.o.2.alloc A'.o.2.size _⟩
   | false=>
    have f2':u.cell? ⟨blk,off+k*3+2,none⟩=some (.bool true):=f2
    clear f2 A
    obtain ⟨cb,hcb⟩:∃cb:UInt8,Aside (UInt8.ofNat c=cb):=⟨_,rfl⟩
    have hcn:(c:Int)=(cb.toNat:Int):=by rw [<-hcb.o];simp;omega
    rw [hcn] at f1
    clear hcn
    go_wp2_with (at_builtin;refine wpList_append_own _ rfl _ _ 123 rfl w.heap.size 5 i0 _ 1 1 underlying123 hi hz0 hz1 hz2 rfl zj _ _ _ rfl ((A'.o.1.alloc _).alloc _) ⟨u.heap.size+1,0,none⟩ 1 1 [.int .u8 (cb.toNat:Int)] rfl ?qb1 ?qb2 ?qb3 ?qb4 ?qb5 ?qb6 ?_)
    case qb1=>rfl
    case qb2=>exact uF (cs:= #[.int .u8 (cb.toNat:Int)]) (t:=5) (fr:=(0,0)) (by
     have:=heap_alloc_new (u.alloc (.cells #[.int .i64 a,.int .u8 (cb.toNat:Int),.bool true] 194)) (.cells #[.int .u8 (cb.toNat:Int)] 5)
     rwa [vQ] at this)
    case qb3=>simp [Value.oneCell']
    case qb4=>simp only [maxLen];omega
    case qb5=>omega
    case qb6=>have:=A'.o.2.size;simp;omega
    intro v2 u2 hown hgrow hnil
    clear hnil
    have W1:=(A'.o.2.alloc A'.o.2.size (.cells #[.int .i64 a,.int .u8 (cb.toNat:Int),.bool true] 194))
    have W2:Below w.heap.size w u2:=(W1.alloc W1.size _).grown hgrow (by have:=A'.o.2.size;simp;omega) (fun k hk=>(A'.o.1.lt k hk).1)
    have R2:Aside (u2.ownsRow w.heap.size 5 1 v2 (textL (L.take (k+1))).length (bytesW (textL (L.take (k+1))))/\Below w.heap.size w u2):=by
     have e:textL (L.take (k+1))=T++ [cb]:=by rw [HN.o,hT.o,<-hcb.o];rfl
     rw [e,bytesW_append,vw]
     exact ⟨hown,W2⟩
    clear hown hgrow W1 W2
    go_wp2
    go_roundg (L.length - (k+1))
    case measure=>omega
    case rel=>exact ⟨k+1,_,rfl,zL,zj,vm _,R2⟩
  have hltz:decide ((k:Int)<(L.length:Int))=false:=zl
  have ek:L.take k=L:=vG zj
  rw [ek] at A
  have hcv:=conv_row A.o.1 rfl
  clear ek
  go_wp2
  go_ret
  exact ⟨rfl,A.o.2⟩
end
section
open Go.RowKit Go.Lib Go.Sort
theorem delete_none (w:World) (base p:Nat) (v:Value) (L:List Ltr) (id:Int) (hE:Ln4 ad w) (hT:LineAt base w p v L) (hL:L.length<=1000) (hx:id∉L.map (·.1)):
  Calls prog 135 #[.pointer (some ⟨p,0,none⟩),.int .i64 id] w fun e w'=>e= .returned (.iface 350 (.pointer (some (ad 5))))/\Below w.heap.size w w':=by
 have HE:Aside (Ln4 ad w):=hE
 have hf:=lfind_any w base p v L id hT hL
 rw [findI_neg hx] at hf
 clear hE hT hx
 go_enter func135,ntmps135
 go_wp2_with fail
 refine hf.mono ?_
 rintro e w1 ⟨rfl,hb1⟩
 have B1:Aside (Below w.heap.size w w1):=hb1
 have c5:=(HE.o.later hb1).c5
 clear hb1 hf
 go_wp2
 go_ret
 exact ⟨rfl,B1.o⟩
theorem delete_ok (w:World) (base p i:Nat) (v:Value) (L:List Ltr) (id:Int) (hT:LineAt base w p v L) (hL:L.length<=1000) (hf:findL id L=some i):
  Calls prog 135 #[.pointer (some ⟨p,0,none⟩),.int .i64 id] w fun e w'=>e= .returned .nilIface/\LineAt base w' p v (L.set i (id,0,true))/\Keeps (fun k=>some k=v.ownBlock) w w':=by
 obtain ⟨⟨a,c,gn⟩,hl,rfl⟩:=findL_some hf
 have hil:=(vi.1 hl).1
 have hfa:=lfind_any w base p v L a hT hL
 rw [show findI a L=(i:Int) by unfold findI;rw [hf]] at hfa
 obtain ⟨ao,cap,rfl⟩:=rowShape hT.row
 obtain ⟨g,rfl⟩:∃g,ao=some ⟨g,0,none⟩:=by
  rcases hT.row.2 with ⟨_,h2⟩ | ⟨g,cap',cur,hv,_⟩
  ·omega
  cases hv;exact ⟨g,rfl⟩
 have HT:Aside (LineAt base w p (.slice (some ⟨g,0,none⟩) L.length cap) L):=hT
 have HL:Aside (L[i]? =some (a,c,gn)):=hl
 have d0:decide ((i:Int)<0)=false:=zm
 have ei:((i:Int)).toNat=i:=zj
 have bi:(i:Int)<(L.length:Int):=zj
 have pi:(0:Int)<=(i:Int):=zj
 clear hT hl hf
 go_enter func135,ntmps135
 go_wp2_with fail
 refine hfa.mono ?_
 rintro e w1 ⟨rfl,hb1⟩
 have H1:Aside (LineAt base w1 p (.slice (some ⟨g,0,none⟩) L.length cap) L/\Below w.heap.size w w1):=⟨HT.o.later hb1,hb1⟩
 clear hb1 hfa
 have c0:=H1.o.1.c0
 obtain ⟨blk,off,hbo,f0,f1,f2⟩:=(lrowIn H1.o.1.row).at HL.o
 have hoff:blk=g/\off=0:=by
  rcases lrowIn H1.o.1.row with h | ⟨b',o',h1,_⟩
  ·rw [h] at hil;simp at hil
  simp only [Option.some.injEq,Addr.mk.injEq,and_true] at hbo
  exact ⟨hbo.1.symm,hbo.2.symm⟩
 obtain ⟨rfl,rfl⟩:=hoff
 rw [vO] at f0 f1 f2
 have z0:∀j,w1.frozen? ⟨blk,j,none⟩=false:=fun j=>H1.o.1.row.frozenAt j
 have z1:=z0 (i*3)
 have z2:=z0 (i*3+1)
 have z3:=z0 (i*3+2)
 have hne:blk≠p:=(H1.o.1.ne blk rfl).1
 have FIN:Aside (LineAt base (w1.setCells blk (i*3) [.int .i64 a,.int .u8 0,.bool false]) p (.slice (some ⟨blk,0,none⟩) L.length cap) (L.set i (a,0,true))/\Keeps (fun k=>some k=some blk) w (w1.setCells blk (i*3) [.int .i64 a,.int .u8 0,.bool false])):=by
  have hkp:=setCells_keeps blk [.int .i64 a,.int .u8 0,.bool false] (i*3) w1
  have hro:=H1.o.1.row
  have hself:L.set i (a,c,gn)=L:=by
   have h:=List.set_getElem_self hil
   rw [(vi.1 HL.o).2] at h
   exact h
  have e1:flat encL L=(flat encL L).take (i*3)++encL (a,c,gn)++(flat encL L).drop ((i+1)*3):=by
   rw [<-flat_set encL_len L i hil (a,c,gn),hself]
  have e2:=flat_set encL_len L i hil (a,0,true)
  have el:((flat encL L).take (i*3)).length=i*3:=by rw [vP,flat_len encL_len];omega
  rw [e1] at hro
  have ho:=owns_over (vs:=[.int .i64 a,.int .u8 0,.bool false]) hro rfl
  rw [el] at ho
  have hm:∀l∈L.set i (a,0,true),l∈L\/l=(a,0,true):=fun l hl=>List.mem_or_eq_of_mem_set hl
  refine ⟨⟨(hkp.block p H1.o.1.lt (fun e=>hne e.symm)).trans H1.o.1.cell,?_,H1.o.1.low,?_,fun l hl=> ?_,fun l hl=> ?_⟩,?_⟩
  ·rw [Zo,e2]
   exact ho
  ·rw [set_ids HL.o]
   exact H1.o.1.nodup
  ·rcases hm l hl with h | rfl
   ·exact H1.o.1.pos l h
   exact H1.o.1.pos (a,c,gn) (vx HL.o)
  ·rcases hm l hl with h | rfl
   ·exact H1.o.1.small l h
   show 0<256
   omega
  exact ((keeps_of_below H1.o.2).mono (fun k hk e=>zj)).then hkp (fun k _ e=>by rw [e])
 clear z0
 go_wp2
 go_ret
 exact ⟨rfl,FIN.o⟩
def atL (n:Int) (L:List Ltr):Int×Bool:=if 0<=n then (match (seenOf L)[n.toNat]? with
 | some l=>(l.1,true)
 | none=>(0,false)) else (0,false)
theorem atL_hit {n:Int} (h:L[k]? =some l) (hg:l.2.2=false) (hn:n=((seenOf (L.take k)).length:Int)):atL n L=(l.1,true):=by
 have hk:=(vi.1 h).1
 have e:seenOf L=seenOf (L.take (k+1))++seenOf (L.drop (k+1)):=by
  unfold seenOf
  rw [<-uD,vX]
 unfold atL
 rw [if_pos zj,hn,Int.toNat_natCast,e,seen_next h,hg]
 simp
theorem atL_miss {n:Int} (h:∀j:Nat,j<(seenOf L).length->n≠(j:Int)):atL n L=(0,false):=by
 unfold atL
 split
 ·rw [List.getElem?_eq_none]
  have:=h n.toNat
  omega
 rfl
theorem at_any (w:World) (base p:Nat) (v:Value) (L:List Ltr) (n:Int) (h:LineAt base w p v L) (hL:L.length<=1000) (hn: -9223372036854775808<=n/\n<=9223372036854775807):
  Calls prog 198 #[.pointer (some ⟨p,0,none⟩),.int .i64 n] w fun e w'=>e= .returned (.tuple #[.int .i64 (atL n L).1,.bool (atL n L).2])/\Below w.heap.size w w':=by
 obtain ⟨ao,cap,rfl⟩:=rowShape h.row
 have c0:=h.c0
 have HI:Aside (LtrsIn w ao L):=lrowIn h.row
 clear h
 obtain ⟨r1,r2,hr⟩:∃r1 r2,Aside (atL n L=(r1,r2)):=⟨_,_,rfl⟩
 rw [hr.o]
 show Calls _ _ _ _ fun e w'=>e= .returned (.tuple #[.int .i64 r1,.bool r2])/\Below w.heap.size w w'
 go_enter func198,ntmps198
 go_wp2
 clear c0
 go_loopg [1,13] L.length (fun kx s1 s13 wr=>∃(k:Nat) (m:Int),s1= .int .i64 m/\s13= .int .i64 (k:Int)/\k<=L.length/\L.length - k<=kx/\Aside (m=IntKind.i64.wrap (n - ((seenOf (L.take k)).length:Int))/\(∀j:Nat,j<(seenOf (L.take k)).length->n≠(j:Int))/\Below w.heap.size w wr))
 case atStart=>exact ⟨0,_,rfl,rfl,vD _,vm _,⟨by rw [IntKind.wrap_i64];simp [seenOf];omega,fun j hj=>by simp [seenOf] at hj,vu _ w⟩⟩
 case round=>
  obtain ⟨k,m,rfl,rfl,hk,hkx,A⟩:=hrel
  by_cases hlt:k<L.length
  ·have hltz:decide ((k:Int)<(L.length:Int))=true:=by simp;omega
   have ek:((k:Int)).toNat=k:=zj
   have pk:(0:Int)<=(k:Int):=zj
   have bk:(k:Int)<(L.length:Int):=zj
   obtain ⟨⟨a,c,gn⟩,hl⟩:∃l,Aside (L[k]? =some l):=⟨L[k],vj hlt⟩
   obtain ⟨blk,off,rfl,f0,f1,f2⟩:=(HI.o.later A.o.2.2).at hl.o
   have HN:=Lib.hid (seen_next hl.o)
   have HS:=Lib.hid (show (seenOf (L.take k)).length<=1000 by
    have:(seenOf (L.take k)).length<=(L.take k).length:=uH _ _
    rw [vP] at this;omega)
   obtain ⟨u,hu⟩:=za wr
   subst hu
   have HB:Aside (∀o,Below w.heap.size w (u.alloc o)):=fun o=>A.o.2.2.alloc A.o.2.2.size o
   cases gn with
   | true=>
    have f2':u.cell? ⟨blk,off+k*3+2,none⟩=some (.bool false):=f2
    clear f2
    go_wp2
    go_roundg (L.length - (k+1))
    case measure=>omega
    case rel=>
     have e:seenOf (L.take (k+1))=seenOf (L.take k):=by rw [HN.o];simp
     exact ⟨k+1,m,rfl,zL,zj,vm _,⟨by rw [e];exact A.o.1,by rw [e];exact A.o.2.1,HB.o _⟩⟩
   | false=>
    have f2':u.cell? ⟨blk,off+k*3+2,none⟩=some (.bool true):=f2
    clear f2
    by_cases hm:m=0
    ·have dm:(m==0)=true:=by simp [hm]
     have hnk:n=((seenOf (L.take k)).length:Int):=by
      have h1:=A.o.1
      have h2:=HS.o
      rw [hm,IntKind.wrap_i64] at h1
      omega
     have hat:=atL_hit hl.o rfl hnk
     rw [hr.o] at hat
     have HR:=Lib.hid hat
     clear hm hnk hat
     go_wp2
     go_ret2
     exact ⟨by cases HR.o;rfl,HB.o _⟩
    have dm:(m==0)=false:=by simp [hm]
    have hne:n≠((seenOf (L.take k)).length:Int):=by
     intro e
     have h1:=A.o.1
     rw [e,IntKind.wrap_i64] at h1
     omega
    have HNE:=Lib.hid hne
    clear hm hne
    go_wp2
    go_roundg (L.length - (k+1))
    case measure=>omega
    case rel=>
     have e:(seenOf (L.take (k+1))).length=(seenOf (L.take k)).length+1:=by rw [HN.o];simp
     refine ⟨k+1,_,rfl,zL,zj,vm _,⟨?_,fun j hj=> ?_,HB.o _⟩⟩
     ·have h1:=A.o.1
      have h2:=HS.o
      rw [e,h1,IntKind.wrap_i64,IntKind.wrap_i64]
      unfold wrap64
      omega
     rw [e] at hj
     rcases uK j (seenOf (L.take k)).length with h | h
     ·exact A.o.2.1 j h
     obtain rfl:j=(seenOf (L.take k)).length:=zj
     exact HNE.o
  have hltz:decide ((k:Int)<(L.length:Int))=false:=zl
  have et:L.take k=L:=vG zj
  have hat:=atL_miss (n:=n) (L:=L) (by have:=A.o.2.1;rwa [et] at this)
  rw [hr.o] at hat
  have HR:=Lib.hid hat
  clear et hat
  go_wp2
  go_ret2
  exact ⟨by cases HR.o;rfl,A.o.2.2⟩
end
section
open Go.RowKit Go.Lib Go.Sort
theorem PutOk.step {base:Nat} (h:PutOk base w p v M w') (hT:LineAt base w p v L) (hB:Below w0.heap.size w0 w) (hp:w0.heap.size<=p):
  ∃v',LineAt base w' p v' M/\Below w0.heap.size w0 w'/\Keeps (fun k=>k=p\/base<=k) w w':=by
 obtain ⟨v',h1,h2,-⟩:=h
 have hlow:=hT.low
 have hk:Keeps (fun k=>k=p\/base<=k) w w':=h2.mono (fun k _ e=>e.imp id (fun e=>(hT.ne k e.symm).2.2))
 exact ⟨v',h1,hB.trans (hk.below hB.size (by rintro k (rfl | e)<;>omega)),hk⟩
end
section
open Go.RowKit Go.Lib Go.Sort
open scoped Classical
def ActOk (base:Nat) (w:World) (p:Nat) (v:Value) (M:List Ltr) (w':World):Prop:=
 ∃v',LineAt base w' p v' M/\Keeps (fun k=>k=p\/some k=v.ownBlock) w w'/\(v'.ownBlock=v.ownBlock\/∀g,v'.ownBlock=some g->w.heap.size<=g)
theorem ActOk.of_below {base:Nat} (h:LineAt base w p v L) (hb:Below w.heap.size w w'):ActOk base w p v L w':=
 ⟨v,h.later hb,(keeps_of_below hb).mono (fun k hk e=>zj),.inl rfl⟩
theorem ActOk.of_put {base:Nat} (h:PutOk base w p v M w'):ActOk base w p v M w':=by
 obtain ⟨v',h1,h2,h3⟩:=h
 exact ⟨v',h1,h2,h3⟩
def lnInsE (id behind:Int) (L:List Ltr):Nat:=
 if 4<=id/\id<4294967300/\0<=behind/\behind<id then (if id∈L.map (·.1) then 7 else if behind=0\/behind∈L.map (·.1) then 0 else 6) else 3
def insL (id behind:Int) (c:Nat) (L:List Ltr):List Ltr:=if lnInsE id behind L=0 then put behind (id,c,false) L else L
def errN (ad:Nat->Addr) (c:Nat):Value:=if c=0 then .nilIface else .iface 350 (.pointer (some (ad (c - 1))))
theorem insert_all (w:World) (base p:Nat) (v:Value) (L:List Ltr) (id behind:Int) (c:Nat) (hE:Ln4 ad w) (hT:LineAt base w p v L) (hbase:base<=w.heap.size) (hL:L.length<=900) (hi: -9223372036854775808<=id/\id<=9223372036854775807) (hc:c<256):
  Calls prog 134 #[.pointer (some ⟨p,0,none⟩),.int .i64 id,.int .i64 behind,.int .u8 (c:Int)] w fun e w'=>e= .returned (errN ad (lnInsE id behind L))/\ActOk base w p v (insL id behind c L) w':=by
 unfold insL lnInsE
 by_cases h1:4<=id/\id<4294967300/\0<=behind/\behind<id
 ·rw [if_pos h1]
  by_cases h2:id∈L.map (·.1)
  ·rw [if_pos h2,if_neg zj]
   refine (insert_exist w base p v L id behind c hE hT zj h1 h2).mono ?_
   rintro e w' ⟨rfl,hb⟩
   exact ⟨rfl,ActOk.of_below hT hb⟩
  rw [if_neg h2]
  by_cases h3:behind=0\/behind∈L.map (·.1)
  ·rw [if_pos h3,if_pos rfl]
   refine (insert_ok w base p v L id behind c hT hbase hL h1 hc h2 h3).mono ?_
   rintro e w' ⟨rfl,hp⟩
   exact ⟨rfl,ActOk.of_put hp⟩
  rw [if_neg h3,if_neg zj]
  refine (insert_none w base p v L id behind c hE hT zj h1 h2 (fun e=>h3 (.inl e)) (fun e=>h3 (.inr e))).mono ?_
  rintro e w' ⟨rfl,hb⟩
  exact ⟨rfl,ActOk.of_below hT hb⟩
 rw [if_neg h1,if_neg zj]
 refine (insert_shape w p id behind c hE hi h1).mono ?_
 rintro e w' ⟨rfl,hb⟩
 exact ⟨rfl,ActOk.of_below hT hb⟩
def lnDelE (id:Int) (L:List Ltr):Nat:=match findL id L with
 | none=>6
 | some _=>0
def delL (id:Int) (L:List Ltr):List Ltr:=match findL id L with
 | none=>L
 | some i=>L.set i (id,0,true)
theorem delete_all (w:World) (base p:Nat) (v:Value) (L:List Ltr) (id:Int) (hE:Ln4 ad w) (hT:LineAt base w p v L) (hL:L.length<=1000):
  Calls prog 135 #[.pointer (some ⟨p,0,none⟩),.int .i64 id] w fun e w'=>e= .returned (errN ad (lnDelE id L))/\ActOk base w p v (delL id L) w':=by
 unfold lnDelE delL
 cases hf:findL id L with
 | none=>
  refine (delete_none w base p v L id hE hT hL (fun hm=> ?_)).mono ?_
  ·obtain ⟨l,hl,e⟩:=vV.1 hm
   exact findL_none hf l hl e
  rintro e w' ⟨rfl,hb⟩
  exact ⟨rfl,ActOk.of_below hT hb⟩
 | some i=>
  refine (delete_ok w base p i v L id hT hL hf).mono ?_
  rintro e w' ⟨rfl,h1,h2⟩
  exact ⟨rfl,v,h1,h2.mono (fun k _ e=>.inr e),.inl rfl⟩
theorem ActOk.step {base:Nat} (h:ActOk base w p v M w') (hT:LineAt base w p v L) (hB:Below w0.heap.size w0 w) (hp:w0.heap.size<=p):
  ∃v',LineAt base w' p v' M/\Below w0.heap.size w0 w'/\Keeps (fun k=>k=p\/some k=v.ownBlock) w w'/\(v'.ownBlock=v.ownBlock\/∀g,v'.ownBlock=some g->w.heap.size<=g):=by
 obtain ⟨v',h1,h2,h3⟩:=h
 have hlow:=hT.low
 refine ⟨v',h1,hB.trans (h2.below hB.size ?_),h2,h3⟩
 rintro k (rfl | e)
 ·exact hp
 have:=(hT.ne k e.symm).2.2
 omega
end
section
open scoped Classical
def lineB (nd:Int) (ws:List (List UInt8)):List UInt8:=Lib.itoa nd++ [32]++Lib.join ws [32]
def placeB (p:Plc):List UInt8:=lineB p.1 [[105,110],Lib.itoa p.2.1,p.2.2.data.toList]
def textB (t:Int×List UInt8):List UInt8:=lineB t.1 [[116,101,120,116],t.2]
def markB (m:Mrk):List UInt8:=lineB m.1 [[109,97,114,107],m.2.1.data.toList,m.2.2.data.toList]
def fullT (t:Int×List UInt8):Bool:=decide (t.2≠ [])
def linesB (qs:List Plc) (ts:List (Int×List UInt8)) (ms:List Mrk):List (List UInt8):=qs.map placeB++(ts.filter fullT).map textB++ms.map markB
structure IsTexts (A:List OpX) (ts:List (Int×List UInt8)):Prop where
 rise:ts.Pairwise (fun a b=>a.1<b.1)
 mem:∀nd,nd∈ts.map (·.1)↔KnownN A nd
 line:∀t∈ts,∃L,LineIs A t.1 L/\t.2=textL L
theorem IsTexts.perm {A B:List OpX} {ts:List (Int×List UInt8)} (h:IsTexts A ts) (e:A.Perm B):IsTexts B ts:=by
 refine ⟨h.rise,fun nd=>(h.mem nd).trans ⟨fun q=>q.mono (fun x hx=>e.mem_iff.1 hx),fun q=>q.mono (fun x hx=>e.mem_iff.2 hx)⟩,fun t ht=> ?_⟩
 obtain ⟨L,h1,h2⟩:=h.line t ht
 exact ⟨L,h1.perm e,h2⟩
theorem IsTexts.unique {A:List OpX} {ts us:List (Int×List UInt8)} (h:IsTexts A ts) (k:IsTexts A us):ts=us:=by
 have one:∀ {xs ys:List (Int×List UInt8)},IsTexts A xs->IsTexts A ys->∀p,p∈xs->p∈ys:=fun {xs ys} hx hy p hp=>by
  have:p.1∈ys.map (·.1):=(hy.mem _).2 ((hx.mem _).1 (vV.2 ⟨p,hp,rfl⟩))
  obtain ⟨q,hq,e⟩:=vV.1 this
  obtain ⟨L,l1,l2⟩:=hx.line p hp
  obtain ⟨M,m1,m2⟩:=hy.line q hq
  have e':q.1=p.1:=e
  rw [e'] at m1
  obtain rfl:=l1.unique m1
  have:q=p:=Prod.ext e' (m2.trans l2.symm)
  rwa [this] at hq
 exact rise_unique (R:=fun a b:Int×List UInt8=>a.1<b.1) (fun a=>Int.lt_irrefl _) (fun a b c=>Int.lt_trans) h.rise k.rise (fun p=>⟨one h k p,one k h p⟩)
def StateIs (A:List OpX) (s:List UInt8):Prop:=∃ms qs ts A' mm,ms.Perm (movsO A)/\ByStamp ms/\IsPlaces (madeBy ms) qs/\IsTexts A ts/\A'.Perm A/\IsMarks (madeO A') mm/\s=Lib.join (linesB qs ts mm) [10]
theorem StateIs.perm {A B:List OpX} {s:List UInt8} (h:StateIs A s) (e:A.Perm B):StateIs B s:=by
 obtain ⟨ms,qs,ts,A',mm,h1,h2,h3,h4,h5,h6,h7⟩:=h
 exact ⟨ms,qs,ts,A',mm,h1.trans (e.filterMap _),h2,h3,h4.perm e,h5.trans e,h6,h7⟩
theorem WellK.oneO (h:WellK A):OneO A:=fun x hx y hy e1 e2=>h.stamp hx hy (by unfold stO;rw [e1,e2])
theorem OneO.mono (h:OneO A) (e:∀x,x∈B->x∈A):OneO B:=fun x hx y hy=>h x (e x hx) y (e y hy)
theorem madeO_perm (h:OneO A) (e:A.Perm B):madeO A=madeO B:=
 foldC_turned (fun m=>(e.filterMap _).mem_iff) h.marks
theorem StateIs.unique {A:List OpX} {s t:List UInt8} (hA:WellK A) (h:StateIs A s) (k:StateIs A t):s=t:=by
 obtain ⟨ms,qs,ts,A',mm,h1,h2,h3,h4,h5,h6,rfl⟩:=h
 obtain ⟨ms',qs',ts',A'',mm',k1,k2,k3,k4,k5,k6,rfl⟩:=k
 obtain rfl:=byStamp_unique (h1.trans k1.symm) h2 k2
 obtain rfl:=h3.unique k3
 obtain rfl:=h4.unique k4
 have e:madeO A'=madeO A'':=madeO_perm (hA.oneO.mono (fun x hx=>h5.mem_iff.1 hx)) (h5.trans k5.symm)
 rw [e] at h6
 obtain rfl:=h6.unique k6
 rfl
theorem StateIs.same (hA:WellK A) (e:A.Perm B) (h:StateIs A s) (k:StateIs B t):s=t:=h.unique hA (k.perm e.symm)
theorem join_nil (x:List UInt8):Lib.join [] x= []:=rfl
end
section
open scoped Classical
def ByTime (ys:List OpX):Prop:=ys.Pairwise (fun a b=>¬CLt (stO b) (stO a))
theorem idO_lt (hx:errO x=0) (hy:errO y=0) (h:idO x<idO y):CLt (stO x) (stO y):=by
 have a:=opE_zero hx
 have b:=opE_zero hy
 unfold idO at h
 unfold CLt stO
 dsimp only
 omega
theorem idO_eq (hx:errO x=0) (hy:errO y=0) (h:idO x=idO y):stO x=stO y:=by
 have a:=opE_zero hx
 have b:=opE_zero hy
 unfold idO at h
 unfold stO
 have h1:x.1=y.1:=zj
 have h2:x.2.1=y.2.1:=zj
 rw [h1,h2]
theorem take_down {ys:List OpX} (ho:ByTime ys) {c:Nat} (hx:x∈ys.take c) (hy:y∈ys) (h:CLt (stO y) (stO x)):y∈ys.take c:=by
 have e:=vX c ys
 unfold ByTime at ho
 rw [<-e] at hy ho
 rcases vv.1 hy with q | q
 ·exact q
 exact absurd h ((Za.1 ho).2.2 x hx y q)
end
section
open Go.RowKit Go.Maps
open scoped Classical
theorem undo_at (w:World) (base bt bm n at_:Nat) (v:Value) (ms:List Mov) (L:List Ent) (hT:TreeCell w bt bm v) (hL:LogTo ms ms.length L) (hR:w.ownsRow base 261 8 v ms.length (flat encE L)) (hM:MapAt prog 3 w bm n (madeBy ms)) (hfine:∀m∈ms,FineP m.2) (hat:at_<=ms.length) (hlen:ms.length<=1000) (hn:n<=1000000):
  Calls prog 185 #[.pointer (some ⟨bt,0,none⟩),.int .i64 (at_:Int)] w fun e w'=>(∃u,e= .returned u)/\MapAt prog 3 w' bm (n+(ms.length - at_)) (madeBy (ms.take at_))/\Keeps (fun k=>k=bm) w w':=by
 have hll:(L.drop at_).length=ms.length - at_:=by rw [ua,hL.len]
 have hent:∀r,r<ms.length - at_->∃x,entR (L.drop at_) r=x/\L[ms.length - 1 - r]? =some x:=fun r hr=>by
  have:=entR_at (L:=L.drop at_) (r:=r) zj
  rw [uw,hll] at this
  exact ⟨_,rfl,by rw [<-this];congr 1;omega⟩
 have hF:∀r,r<(L.drop at_).length->undo (madeBy (ms.take (ms.length - r))) (entR (L.drop at_) r).1.2.1 (entR (L.drop at_) r).2=madeBy (ms.take (ms.length - (r+1))):=fun r hr=>by
  obtain ⟨x,h1,h2⟩:=hent r zj
  rw [h1]
  have hmx:=hL.mov h2
  have hfr:=hL.from_ _ x zj h2
  rw [fromAt_some hmx] at hfr
  have hmt:=made_take hmx
  have hg:Good (madeBy (ms.take (ms.length - 1 - r))):=good_made (fun m hm=>hfine m (uz hm))
  rw [show ms.length - 1 - r+1=ms.length - r by omega] at hmt
  rw [hmt,hfr,show ms.length - (r+1)=ms.length - 1 - r by omega]
  exact undo_step hg
 have hwf:∀r,Wf (entR (L.drop at_) r).1.2.1:=fun r=>by
  by_cases hr:r<ms.length - at_
  ·obtain ⟨x,h1,h2⟩:=hent r hr
   rw [h1]
   exact (wf_fine (hfine _ (vx (hL.mov h2)))).1
  by_cases h0:(L.drop at_).length=0
  ·have:L.drop at_= []:=vM.1 h0
   rw [this]
   exact (show Wf 0 from wf_of zt zt)
  have hz:(L.drop at_)[(L.drop at_).length - 1 - r]? =some (entR (L.drop at_) r):=by
   unfold entR
   rw [Zs,vj zj]
   rfl
  rw [uw] at hz
  exact (wf_fine (hfine _ (vx (hL.mov hz)))).1
 have h0:madeBy (ms.take (ms.length - 0))=madeBy ms:=by rw [Nat.sub_zero,uR]
 have hM0:MapAt prog 3 w bm n ((fun r=>madeBy (ms.take (ms.length - r))) 0):=by show MapAt _ _ _ _ _ (madeBy (ms.take (ms.length - 0)));rw [h0];exact hM
 have fin:∀g off (ao bo:Option Addr) (cap:Nat),v= .slice ao ms.length cap->(if cap=at_ then ao else Option.map (fun x=>x.add (at_*8)) ao)=bo->(L.drop at_= []\/bo=some ⟨g,off,none⟩)->g<w.heap.size->g≠bm->RowAt w g off (L.drop at_)->
   Calls prog 185 #[.pointer (some ⟨bt,0,none⟩),.int .i64 (at_:Int)] w fun e w'=>(∃u,e= .returned u)/\MapAt prog 3 w' bm (n+(ms.length - at_)) (madeBy (ms.take at_))/\Keeps (fun k=>k=bm) w w':=fun g off ao bo cap hv hbo hao hg hgm hrow=>by
  refine (undo_core w bt bm g off cap at_ ms.length n ao bo (L.drop at_) (fun r=>madeBy (ms.take (ms.length - r))) hat hll.symm hlen hn hT.c0 (by rw [<-hv];exact hT.c1) hbo hao hg hgm hrow hM0 hF hwf).mono ?_
  rintro e w' ⟨h1,h2,h3⟩
  rw [hll] at h2
  rw [show ms.length - (ms.length - at_)=at_ by omega] at h2
  exact ⟨h1,h2,h3⟩
 have hempty:ms.length=at_->L.drop at_= []:=fun h=>vM.1 (by rw [hll];omega)
 have hRow0:L.drop at_= []->∀g off,RowAt w g off (L.drop at_):=fun h g off j u hj=>by rw [h] at hj;simp [flat] at hj
 rcases hR.2 with ⟨hv,h0⟩ | ⟨g,cap,cur,hv,_,hg,hnc,_⟩
 ·exact fin bt 0 none none 0 (by rw [hv,h0]) zm (.inl (hempty zj)) hT.lt (hT.ne_map hM) (hRow0 (hempty zj) _ _)
 subst hv
 have hgl:g<w.heap.size:=(vn.1 hg).1
 have hgm:=row_ne_map hR hM
 by_cases hc:cap=at_
 ·exact fin g 0 (some ⟨g,0,none⟩) _ cap rfl rfl (.inl (hempty zj)) hgl hgm (hRow0 (hempty zj) _ _)
 refine fin g (at_*8) (some ⟨g,0,none⟩) (some ⟨g,at_*8,none⟩) cap rfl (by rw [if_neg hc,uX,Addr.add_lit,vO]) (.inr rfl) hgl hgm (fun j u hj=> ?_)
 have:=row_at hR (at_*8+j) u (by rw [<-flat_drop encE_len L at_ (by rw [hL.len];exact hat),uw] at hj;exact hj)
 rwa [vO] at this
theorem undo_ok:UndoOk:=undo_at
end
section
open Go.RowKit
theorem rn_any (D:Nat) (hD:D<=18) (s:ByteArray) (w:World) (h1:1<=s.size) (h4:s.size<=D) (hz:¬(s[0].toNat=48/\1<s.size)):
  Calls prog 271 #[.string s,.int .i64 (D:Int)] w fun e w'=>e= .returned (.tuple #[.int .i64 ((digitsL 0 s.data.toList).getD 0:Nat),.bool (digitsL 0 s.data.toList).isSome])/\w'=w:=by
 have hs0:0<s.size:=h1
 have d1:decide ((s.size:Int)<1)=false:=zl
 have d4:decide ((D:Int)<(s.size:Int))=false:=zl
 have hc:(((s[0].toNat:Int)==48)=true/\decide (1<(s.size:Int))=false)\/(((s[0].toNat:Int)==48)=false/\True):=by
  by_cases e:s[0].toNat=48
  ·refine .inl ⟨by simp [e],?_⟩
   simp;omega
  refine .inr ⟨?_,trivial⟩
  simp;omega
 have H4:=Lib.hid h4
 clear hz h1 h4
 generalize hR:digitsL 0 s.data.toList=R
 have HR:=Lib.hid hR
 clear hR
 rcases hc with ⟨e0,d5⟩ | ⟨e0,d5⟩
 ·go_enter func271,ntmps271
  go_wp2
  go_loop [6,30] (fun n i=>∃k v:Nat,k<=s.size/\i= .int .i64 k/\n= .int .i64 v/\Hid (digitsL v (s.data.toList.drop k)=R)/\v<10^k) (fun _ i=>s.size - (intOf i).toNat)
  case atStart=>exact ⟨0,0,vD _,rfl,rfl,Lib.hid qj,zm⟩
  case round=>
   obtain ⟨k,v,hk,rfl,rfl,HD,hv⟩:=hrel
   by_cases hlt:k<s.size
   ·have hd:decide ((k:Int)<(s.size:Int))=true:=by simp;omega
    by_cases hdig:48<=s[k].toNat/\s[k].toNat<=57
    ·obtain ⟨g1,g2⟩:=hdig
     have l1:decide ((s[k].toNat:Int)<48)=false:=zl
     have l2:decide (57<(s[k].toNat:Int))=false:=zl
     have hk3:k<18:=by have:=H4.o;omega
     have hv3:=pow_lt k v hv hk3
     have HE:Hid (digitsL (10*v+(s[k].toNat - 48)) (s.data.toList.drop (k+1))=R):=Lib.hid (by
      have:=HD.o
      rw [byteAt s k hlt,digitsL,if_neg zj] at this
      exact this)
     have HV:=Lib.hid (pow_next k v (s[k].toNat - 48) hv zj)
     clear HD hv
     go_wp2
     go_round
     case rel=>exact ⟨k+1,10*v+(s[k].toNat - 48),zj,zL,zL,HE,HV.o⟩
     case measure=>simp [intOf];omega
    have HN:Hid (R=none):=Lib.hid (by
     have:=HD.o
     rw [byteAt s k hlt,digitsL,if_pos zj] at this
     exact this.symm)
    clear HD
    by_cases hlo:s[k].toNat<48
    ·have l1:decide ((s[k].toNat:Int)<48)=true:=by simp;omega
     clear hdig
     go_wp2
     go_ret2
     exact ⟨by rw [HN.o];rfl,rfl⟩
    have l1:decide ((s[k].toNat:Int)<48)=false:=zl
    have l2:decide (57<(s[k].toNat:Int))=true:=zl
    clear hdig
    go_wp2
    go_ret2
    exact ⟨by rw [HN.o];rfl,rfl⟩
   have hd:decide ((k:Int)<(s.size:Int))=false:=zl
   have HN:Hid (R=some v):=Lib.hid (by
    have:=HD.o
    rw [show k=s.size by omega,dropEnd,digitsL] at this
    exact this.symm)
   clear HD
   go_wp2
   go_ret2
   exact ⟨by rw [HN.o];rfl,rfl⟩
 go_enter func271,ntmps271
 go_wp2
 go_loop [6,30] (fun n i=>∃k v:Nat,k<=s.size/\i= .int .i64 k/\n= .int .i64 v/\Hid (digitsL v (s.data.toList.drop k)=R)/\v<10^k) (fun _ i=>s.size - (intOf i).toNat)
 case atStart=>exact ⟨0,0,vD _,rfl,rfl,Lib.hid qj,zm⟩
 case round=>
  obtain ⟨k,v,hk,rfl,rfl,HD,hv⟩:=hrel
  by_cases hlt:k<s.size
  ·have hd:decide ((k:Int)<(s.size:Int))=true:=by simp;omega
   by_cases hdig:48<=s[k].toNat/\s[k].toNat<=57
   ·obtain ⟨g1,g2⟩:=hdig
    have l1:decide ((s[k].toNat:Int)<48)=false:=zl
    have l2:decide (57<(s[k].toNat:Int))=false:=zl
    have hk3:k<18:=by have:=H4.o;omega
    have hv3:=pow_lt k v hv hk3
    have HE:Hid (digitsL (10*v+(s[k].toNat - 48)) (s.data.toList.drop (k+1))=R):=Lib.hid (by
     have:=HD.o
     rw [byteAt s k hlt,digitsL,if_neg zj] at this
     exact this)
    have HV:=Lib.hid (pow_next k v (s[k].toNat - 48) hv zj)
    clear HD hv
    go_wp2
    go_round
    case rel=>exact ⟨k+1,10*v+(s[k].toNat - 48),zj,zL,zL,HE,HV.o⟩
    case measure=>simp [intOf];omega
   have HN:Hid (R=none):=Lib.hid (by
    have:=HD.o
    rw [byteAt s k hlt,digitsL,if_pos zj] at this
    exact this.symm)
   clear HD
   by_cases hlo:s[k].toNat<48
   ·have l1:decide ((s[k].toNat:Int)<48)=true:=by simp;omega
    clear hdig
    go_wp2
    go_ret2
    exact ⟨by rw [HN.o];rfl,rfl⟩
   have l1:decide ((s[k].toNat:Int)<48)=false:=zl
   have l2:decide (57<(s[k].toNat:Int))=true:=zl
   clear hdig
   go_wp2
   go_ret2
   exact ⟨by rw [HN.o];rfl,rfl⟩
  have hd:decide ((k:Int)<(s.size:Int))=false:=zl
  have HN:Hid (R=some v):=Lib.hid (by
   have:=HD.o
   rw [show k=s.size by omega,dropEnd,digitsL] at this
   exact this.symm)
  clear HD
  go_wp2
  go_ret2
  exact ⟨by rw [HN.o];rfl,rfl⟩
theorem rn_short (D:Nat) (hD:D<=18) (s:ByteArray) (w:World) (h:s.size<1\/D<s.size):
  Calls prog 271 #[.string s,.int .i64 (D:Int)] w fun e w'=>e= .returned (.tuple #[.int .i64 0,.bool false])/\w'=w:=by
 rcases h with h | h
 ·have d1:decide ((s.size:Int)<1)=true:=by simp;omega
  go_enter func271,ntmps271
  go_wp2
  go_ret2
  exact ⟨rfl,rfl⟩
 have d1:decide ((s.size:Int)<1)=false:=zl
 have d4:decide ((D:Int)<(s.size:Int))=true:=zl
 go_enter func271,ntmps271
 go_wp2
 go_ret2
 exact ⟨rfl,rfl⟩
theorem rn_zero (D:Nat) (s:ByteArray) (w:World) (h1:1<s.size) (h4:s.size<=D) (hz:s[0].toNat=48):
  Calls prog 271 #[.string s,.int .i64 (D:Int)] w fun e w'=>e= .returned (.tuple #[.int .i64 0,.bool false])/\w'=w:=by
 have hs0:0<s.size:=zj
 have d1:decide ((s.size:Int)<1)=false:=zl
 have d4:decide ((D:Int)<(s.size:Int))=false:=zl
 have d5:decide (1<(s.size:Int))=true:=zl
 have e0:((s[0].toNat:Int)==48)=true:=jL
 clear hz
 go_enter func271,ntmps271
 go_wp2
 go_ret2
 exact ⟨rfl,rfl⟩
theorem numN_in {s:ByteArray} (h1:1<=s.size) (h4:s.size<=D) (hz:¬(s[0].toNat=48/\1<s.size)):numN D s.data.toList=digitsL 0 s.data.toList:=by
 have h0:s.data.toList.getD 0 0=s[0]:=by
  have:=byteAt s 0 h1
  rw [uP] at this
  rw [this];rfl
 have hl:s.data.toList.length=s.size:=zm
 unfold numN
 rw [if_neg (by rw [h0,hl];omega)]
theorem numN_out {s:ByteArray} (h:s.size<1\/D<s.size):numN D s.data.toList=none:=by
 have hl:s.data.toList.length=s.size:=zm
 unfold numN
 rw [if_pos (by rw [hl];omega)]
theorem numN_zero {s:ByteArray} (h1:1<s.size) (hz:s[0].toNat=48):numN D s.data.toList=none:=by
 have h0:s.data.toList.getD 0 0=s[0]:=by
  have:=byteAt s 0 zj
  rw [uP] at this
  rw [this];rfl
 have hl:s.data.toList.length=s.size:=zm
 unfold numN
 rw [if_pos (by rw [h0,hl];omega)]
theorem readN_any (D:Nat) (hD:D<=18) (s:ByteArray) (w:World):
  Calls prog 271 #[.string s,.int .i64 (D:Int)] w fun e w'=>e= .returned (.tuple #[.int .i64 ((numN D s.data.toList).getD 0:Nat),.bool (numN D s.data.toList).isSome])/\w'=w:=by
 by_cases h:s.size<1\/D<s.size
 ·rw [numN_out h];exact rn_short D hD s w h
 by_cases hz:(s[0]'zj).toNat=48
 ·by_cases h1:1<s.size
  ·rw [numN_zero h1 hz];exact rn_zero D s w h1 zj hz
  rw [numN_in zj zj zj];exact rn_any D hD s w zj zj zj
 rw [numN_in zj zj zj];exact rn_any D hD s w zj zj zj
