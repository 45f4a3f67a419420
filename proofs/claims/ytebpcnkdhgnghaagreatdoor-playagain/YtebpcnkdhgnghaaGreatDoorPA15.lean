import Derived.Test.YtebpcnkdhgnghaaGreatDoorHeldTk
import Derived.Test.YtebpcnkdhgnghaaGreatDoorPA07
import Derived.Test.YtebpcnkdhgnghaaGreatDoorPA09
import Derived.Test.YtebpcnkdhgnghaaGreatDoorPA10
set_option linter.unusedSimpArgs false
set_option linter.unusedVariables false
set_option maxRecDepth 100000
set_option maxHeartbeats 64000000
namespace Go.Proofs.YtebpcnkdhgnghaaGreatDoor
open Go.Proofs.Tryz
variable {name value:ByteArray} {b n other t:Int} {L M:List Ltr} {A B:List OpX} {s:List UInt8} {l:Ltr} {k p:Nat} {ad:Nat→Addr} {x y:OpX} {v:Value} {w w' w0:World}
section
open Go.RowKit Go.Lib Go.Sort
theorem LW {base n:Nat} {e:TypeId} {xs:List Value} (h:w.ownsRow base e k v (n+1) xs):∃g cap,v= .slice (some ⟨g,0,none⟩) (n+1) cap:=by
 rcases h.2 with ⟨_,h2⟩ | ⟨g,cap,cur,rfl,_⟩
 ·omega
 exact ⟨g,cap,rfl⟩
theorem LineAt.ne {base:Nat} (h:LineAt base w p v L):∀g,v.ownBlock=some g->g≠p/\g<w.heap.size/\base<=g:=fun g hg=>by
 have h1:=h.row.lt g hg
 have h2:=h.low
 exact ⟨zj,h1.2,h1.1⟩
theorem nK (X:World) (base p vb k:Nat) (v:Value) (L:List Ltr) (x:Ltr) (hT:LineAt base X p v L) (hbase:base<=X.heap.size) (hL:L.length<=900) (hk:k<=L.length) (hvb:X.heap[vb]? =some (.cells #[.int .i64 x.1,.int .u8 (x.2.1:Int),.bool (!x.2.2)] 282 (0,0))) (hvn:some vb≠v.ownBlock):
  Calls prog 205 #[v,.int .i64 (k:Int),.slice (some ⟨vb,0,none⟩) 1 1] X
   fun e w'=>∃g' cap',e= .returned (.slice (some ⟨g',0,none⟩) (L.length+1) cap')/\w'.cell? ⟨p,0,none⟩=some v/\w'.frozen? ⟨p,0,none⟩=false/\Aside (w'.ownsRow base 282 3 (.slice (some ⟨g',0,none⟩) (L.length+1) cap') (L.length+1) (aB pK (L.take k++x::L.drop k))/\Keeps (fun k=>some k=v.ownBlock) X w'/\(some g'=v.ownBlock\/X.heap.size<=g')/\w'.heap[p]? =some (.cells #[v] 280 (0,0))):=by
 refine (CD X base L.length k v (aB pK L) (pK x) hT.row zj vb rfl (fun j u hj=> ?_) (wj x) (lS wj L) hvn ?_ (fun j=> ?_) hbase hk).mono ?_
 ·simp only [World.cell?,hvb]
  rw [<-hj]
  simp [pK]
 ·simp [World.shape?,hvb]
 ·simp [World.frozen?,hvb]
 rintro e w' ⟨v',rfl,ho,hkp,hv'⟩
 obtain ⟨g',cap',rfl⟩:=LW ho
 have hp:=hkp.block p hT.lt (fun e=>(hT.ne p e.symm).1 rfl)
 have hp':w'.heap[p]? =some (.cells #[v] 280 (0,0)):=hp.trans hT.cell
 rw [<-AM ep L k hk] at ho
 refine ⟨g',cap',rfl,by simp [World.cell?,hp'],by simp [World.frozen?,hp'],ho,hkp,?_,hp'⟩
 rcases hv' with e | e
 ·exact .inl e
 right
 have:g'=X.heap.size:=by simpa [Value.ownBlock] using e
 omega
theorem Bu {wc:World} (hb:Below w.heap.size w wc) (cs:Array Value) (t:TypeId):∃Y,Y=(wc.alloc (.cells cs t)).drew/\Below w.heap.size w Y/\Y.heap[wc.heap.size]? =some (.cells cs t (0,0))/\wc.heap.size<Y.heap.size:=by
 refine ⟨_,rfl,(hb.alloc hb.size _).drew,?_,?_⟩
 ·exact heap_alloc_new wc _
 have h:=vL wc (.cells cs t)
 have e:(wc.alloc (.cells cs t)).drew.heap.size=(wc.alloc (.cells cs t)).heap.size:=rfl
 omega
def JU (base:Nat) (w:World) (p:Nat) (v:Value) (M:List Ltr) (w':World):Prop:=
 ∃v',LineAt base w' p v' M/\Keeps (fun k=>k=p\/some k=v.ownBlock) w w'/\(v'.ownBlock=v.ownBlock\/∀g,v'.ownBlock=some g->w.heap.size<=g)
theorem KE {base:Nat} {X w5:World} {g' cap':Nat} {x:Ltr} (hT:LineAt base w p v L) (hB:Below w.heap.size w X) (hM:M=L.take k++x::L.drop k) (hlen:M.length=L.length+1)
  (hn:(M.map (·.1)).Nodup) (hpos:∀l∈M,l.1≠0) (hsm:∀l∈M,l.2.1<256)
  (h5:w5.ownsRow base 282 3 (.slice (some ⟨g',0,none⟩) (L.length+1) cap') (L.length+1) (aB pK (L.take k++x::L.drop k))/\Keeps (fun k=>some k=v.ownBlock) X w5/\(some g'=v.ownBlock\/X.heap.size<=g')/\w5.heap[p]? =some (.cells #[v] 280 (0,0))):
  JU base w p v M (w5.setCell ⟨p,0,none⟩ (.slice (some ⟨g',0,none⟩) (L.length+1) cap')):=by
 obtain ⟨ho,hkp,hg,hp⟩:=h5
 obtain ⟨w6,hw6⟩:=za (w5.setCell ⟨p,0,none⟩ (.slice (some ⟨g',0,none⟩) (L.length+1) cap'))
 rw [<-hw6]
 have hk56:Keeps (fun k=>k=p) w5 w6:=by rw [hw6];exact aY p [_] 0 w5
 have hgl:=ho.lt g' rfl
 have hlow:=hT.low
 have hc6:w6.heap[p]? =some (.cells #[.slice (some ⟨g',0,none⟩) (L.length+1) cap'] 280 (0,0)):=by rw [hw6];exact heap_setCell_same w5 p 0 _ _ _ hp
 have hr6:=oH (w':=w6) ho (fun g hg'=>by
  cases hg'
  exact hk56.block g' hgl.2 (fun e=>zj))
 have hKw:Keeps (fun k=>k=p\/some k=v.ownBlock) w X:=(aV hB).mono (fun k hk e=>zj)
 refine ⟨_,⟨hc6,by rw [hlen,hM];exact hr6,hT.low,hn,hpos,hsm⟩,(hKw.then hkp (fun _ _ e=>.inr e)).then hk56 (fun _ _ e=>.inl e),?_⟩
 rcases hg with h | h
 ·exact .inl h
 refine .inr (fun g hg=> ?_)
 have e:g'=g:=by simpa [Value.ownBlock] using hg
 have:=hB.size
 omega
theorem De (w:World) (base p:Nat) (v:Value) (L:List Ltr) (id behind:Int) (c:Nat) (hT:LineAt base w p v L) (hbase:base<=w.heap.size) (hL:L.length<=900) (h:ll id behind) (hc:c<256) (hx:id∉L.map (·.1)) (hy:behind=0\/behind∈L.map (·.1)):
  Calls prog 138 #[.pointer (some ⟨p,0,none⟩),.int .i64 id,.int .i64 behind,.int .u8 (c:Int)] w fun e w'=>e= .returned .nilIface/\JU base w p v (put behind (id,c,false) L) w':=by
 have HT:Aside (LineAt base w p v L):=hT
 have hof:=Ev id w h.1 h.2.1
 have d2:decide (behind<0)=false:=decide_eq_false xP
 have d3:decide (id<=behind)=false:=decide_eq_false xU
 have HI:=Lib.hid (fx hx)
 have HX:Aside (id∉L.map (·.1)):=hx
 obtain ⟨bf,k,hbf,hbk,hk,hpl⟩:∃(bf:Int) (k:Nat),Aside (mo behind L=bf/\((bf= -1/\behind=0)\/0<=bf))/\IntKind.i64.wrap (bf+1)=(k:Int)/\k<=L.length/\Aside (k+cq id (L.drop k)=gO behind id L):=by
  unfold gO
  by_cases h0:behind=0
  ·refine ⟨-1,0,⟨fx (fun hm=> ?_),.inl ⟨rfl,h0⟩⟩,zo,jX _,?_⟩
   ·obtain ⟨l,hl,e⟩:=vp.1 hm
    exact hT.pos l hl (by rw [e,h0])
   show _=_
   rw [if_pos h0]
   simp
  obtain ⟨i,hi,hf,hil⟩:=rW (hy.resolve_left h0)
  refine ⟨i,i+1,⟨hi,.inr zj⟩,?_,zj,?_⟩
  ·rw [IntKind.wrap_i64];omega
  show _=_
  rw [if_neg h0,hf]
 have HM:Aside (put behind (id,c,false) L=L.take (gO behind id L)++(id,c,false)::L.drop (gO behind id L)/\(put behind (id,c,false) L).length=L.length+1/\((put behind (id,c,false) L).map (·.1)).Nodup/\(∀l∈put behind (id,c,false) L,l.1≠0)/\(∀l∈put behind (id,c,false) L,l.2.1<256)/\gO behind id L<=L.length):=by
  refine ⟨(Fm hy).2,KO hy,Fa hy hT.nodup hx,fun l hl=> ?_,fun l hl=> ?_,(Fm (x:=(id,c,false)) hy).1⟩
  ·rcases jQ.1 ((km hy).mem_iff.1 hl) with rfl | hl
   ·have:=h.1
    show id≠0
    omega
   exact hT.pos l hl
  rcases jQ.1 ((km hy).mem_iff.1 hl) with rfl | hl
  ·exact hc
  exact hT.small l hl
 obtain ⟨M,hM⟩:∃M,put behind (id,c,false) L=M:=⟨_,rfl⟩
 rw [hM] at HM |-
 obtain ⟨q,hq⟩:∃q,gO behind id L=q:=⟨_,rfl⟩
 rw [hq] at HM hpl
 clear hM hq hT hy hx h
 go_enter func138,ntmps138
 go_wp2_with fail
 refine hof.mono ?_
 rintro e w1 ⟨rfl,hb⟩
 have B2:Aside (∀o,Below w.heap.size w (w1.alloc o)):=fun o=>hb.alloc hb.size o
 clear hb hof
 go_wp2_with fail
 refine (dE _ base p v L id (HT.o.later (B2.o _)) zj).mono ?_
 rintro e w2 ⟨rfl,hb2⟩
 rw [HI.o]
 have B3:Aside (Below w.heap.size w w2):=(B2.o _).trans (hb2.mono (B2.o _).size)
 clear hb2 B2
 go_wp2_with fail
 refine (dE _ base p v L behind (HT.o.later B3.o) zj).mono ?_
 rintro e w3 ⟨rfl,hb3⟩
 rw [hbf.o.1]
 have B4:Aside (Below w.heap.size w w3):=zi B3.o hb3
 clear hb3 B3
 go_upto_region 7 with fail
 go_cut [42] (fun s42 wx=>s42= .bool false/\wx=w3)
 case first=>
  rcases hbf.o.2 with ⟨rfl,rfl⟩ | hp
  ·go_wp2
   go_meet
   exact ki0
  have dp:decide (bf<0)=false:=decide_eq_false zj
  go_wp2
  go_meet
  exact ki0
 obtain ⟨rfl,rfl⟩:=hcut
 go_upto_region 9 with fail
 have hpc:=Az wc.drew base p k v L id (HT.o.later B4.o.drew) zj hk HX.o
 rw [hpl.o] at hpc
 obtain ⟨Y,hY,BY,hYb,hYs⟩:=Bu B4.o #[.int .i64 id,.int .u8 (c:Int),.bool true] 282
 have hpy:=Az Y base p k v L id (HT.o.later BY) zj hk HX.o
 rw [hpl.o] at hpy
 have hS0:wc.drew.cell? ⟨p,0,none⟩=some v:=(HT.o.later B4.o.drew).c0
 refine bJ (S:=fun w'=>w'.cell? ⟨p,0,none⟩=some v) (z:=17) zk hS0 (fun hHeld=> ?_)
 refine aW (i:=0) (v:= ?v0) zo rfl zk zk zk (fun _ _ _ h=>h) (Or.inl ⟨zt,?hy0⟩) hHeld ?rest0
 case hy0=>(intro w' _;go_simp;try with_reducible rfl)
 refine qn ?_
 refine aW (i:=1) (v:= ?v1) zo rfl zk zk zk (fun _ _ _ h=>h) (Or.inl ⟨zt,?hy1⟩) hHeld ?rest1
 case hy1=>(intro w' _;go_simp;try with_reducible rfl)
 refine qn ?_
 refine aW (i:=2) (v:= ?v2) zo rfl zk zk zk (fun _ _ _ h=>h) (Or.inl ⟨zt,?hy2⟩) hHeld ?rest2
 case hy2=>(intro w' _;go_simp;try with_reducible rfl)
 refine qn ?_
 refine aW (i:=3) (v:= ?v3) zo rfl zk zk zk (fun _ _ _ h=>h) (Or.inl ⟨zt,?hy3⟩) hHeld ?rest3
 case hy3=>(intro w' _;go_simp;try with_reducible rfl)
 refine qn ?_
 refine ay (i:=4) (v:= ?v4) zo zk rfl zk zk zk zk (fun _ _ _ h=>h) (Or.inl ⟨zt,?hy4⟩) hHeld ?rest4
 case hy4=>(intro w' hSw;go_simp;try with_reducible rfl)
 refine qn ?_
 refine aW (i:=5) (v:= ?v5) zo rfl zk zk zk (fun _ _ _ h=>h) (Or.inl ⟨zt,?hy5⟩) hHeld ?rest5
 case hy5=>(intro w' _;go_simp;try with_reducible rfl)
 refine qn ?_
 refine aW (i:=6) (v:= ?v6) zo rfl zk zk zk (fun _ _ _ h=>h) (Or.inl ⟨zt,?hy6⟩) hHeld ?rest6
 case hy6=>(intro w' _;go_simp;try with_reducible rfl)
 refine qn ?_
 refine aW (i:=7) (v:= ?v7) zo rfl zk zk zk (fun _ _ _ h=>h) (Or.inl ⟨zt,?hy7⟩) hHeld ?rest7
 case hy7=>(intro w' _;go_simp;try with_reducible rfl)
 refine qn ?_
 refine aW (i:=8) (v:= ?v8) zo rfl zk zk zk (fun _ _ _ h=>h) (Or.inl ⟨zt,?hy8⟩) hHeld ?rest8
 case hy8=>(intro w' _;go_simp;try with_reducible rfl)
 refine qn ?_
 refine aW (i:=10) (v:= ?v10) zo rfl zk zk zk (fun _ _ _ h=>h) (Or.inl ⟨zt,?hy10⟩) hHeld ?rest10
 case hy10=>(intro w' _;go_simp;try with_reducible rfl)
 refine qn ?_
 refine aW (i:=11) (v:= ?v11) zo rfl zk zk zk (fun _ _ _ h=>h) (Or.inl ⟨zt,?hy11⟩) hHeld ?rest11
 case hy11=>(intro w' _;go_simp;try with_reducible rfl)
 refine qn ?_
 refine aW (i:=12) (v:= ?v12) zo rfl zk zk zk (fun _ _ _ h=>h) (Or.inl ⟨zt,?hy12⟩) hHeld ?rest12
 case hy12=>(intro w' _;go_simp;try with_reducible rfl)
 refine qn ?_
 refine Bl (i:=9) (j:=13) zk rfl rfl (fun K hK=> ?pa) (fun K hK=> ?al)
 case pa=>
  go_simp
  refine hpc.mono ?_
  rintro e w4 ⟨rfl,hb4⟩
  have B5:Below w.heap.size w w4:=zi B4.o.drew hb4
  refine hK _ _ (.inl (HT.o.later B5).c0) ?_
  clear hK K
  refine qn ?_
  obtain ⟨X,hX⟩:=za (w4.alloc (.cells #[.int .i64 id,.int .u8 (c:Int),.bool true] 282))
  have BX:Below w.heap.size w X:=by rw [hX];exact B5.alloc B5.size _
  have TX:Aside (LineAt base X p v L/\Below w.heap.size w X):=⟨HT.o.later BX,BX⟩
  have hlay:=nK X base p w4.heap.size q v L (id,c,false) TX.o.1 (by have:=BX.size;omega) hL HM.o.2.2.2.2.2 (by rw [hX];exact heap_alloc_new w4 _) (fun e=>by have h1:=((HT.o.later B5).ne _ e.symm).2.1;omega)
  refine aI (i:=13) zk rfl (fun K hK=> ?_)
  go_simp
  rw [<-hX]
  refine hK _ _ (.inl TX.o.1.c0) ?_
  clear hK K hX
  refine qn ?_
  refine aI (i:=14) zk rfl (fun K hK=> ?_)
  go_simp
  refine hlay.mono ?_
  rintro e w5 ⟨g',cap',rfl,u1,u2,H5⟩
  refine hK _ _ (.inl u1) ?_
  clear hK K
  refine qn ?_
  refine aW (i:=15) (v:= ?v15) zo rfl zk zk zk (fun _ _ _ h=>h) (Or.inl ⟨zt,?hy15⟩) u1 ?rest15
  case hy15=>(intro w' _;go_simp;try with_reducible rfl)
  refine qn ?_
  refine aW (i:=16) (v:= ?v16) zo rfl zk zk zk (fun _ _ _ h=>h) (Or.inl ⟨zt,?hy16⟩) u1 ?rest16
  case hy16=>(intro w' _;go_simp;try with_reducible rfl)
  exact kc7
 case al=>
  go_simp
  rw [<-hY]
  refine hK _ _ (.inl (HT.o.later BY).c0) ?_
  clear hK K hY
  refine qn ?_
  refine aI (i:=9) zk rfl (fun K hK=> ?_)
  go_simp
  refine hpy.mono ?_
  rintro e X ⟨rfl,hbX⟩
  have BX:Below w.heap.size w X:=zi BY hbX
  have TX:Aside (LineAt base X p v L/\Below w.heap.size w X):=⟨HT.o.later BX,BX⟩
  have hlay:=nK X base p wc.heap.size q v L (id,c,false) TX.o.1 (by have:=BX.size;omega) hL HM.o.2.2.2.2.2 ((hbX.block _ hYs).trans hYb) (fun e=>by have h1:=((HT.o.later B4.o).ne _ e.symm).2.1;omega)
  refine hK _ _ (.inl TX.o.1.c0) ?_
  clear hK K
  refine qn ?_
  refine aI (i:=14) zk rfl (fun K hK=> ?_)
  go_simp
  refine hlay.mono ?_
  rintro e w5 ⟨g',cap',rfl,u1,u2,H5⟩
  refine hK _ _ (.inl u1) ?_
  clear hK K
  refine qn ?_
  refine aW (i:=15) (v:= ?vb15) zo rfl zk zk zk (fun _ _ _ h=>h) (Or.inl ⟨zt,?hyb15⟩) u1 ?restb15
  case hyb15=>(intro w' _;go_simp;try with_reducible rfl)
  refine qn ?_
  refine aW (i:=16) (v:= ?vb16) zo rfl zk zk zk (fun _ _ _ h=>h) (Or.inl ⟨zt,?hyb16⟩) u1 ?restb16
  case hyb16=>(intro w' _;go_simp;try with_reducible rfl)
  exact kc7
end
section
open Go.RowKit Go.Lib Go.Sort
theorem MF:(prog.info? 5).map (fun i=>(i.zero,i.size,i.bytes))=some (some (.int .u8 0),1,1):=zk
def gV (l:List UInt8):List Value:=l.map fun c=>.int .u8 (c.toNat:Int)
theorem oP (a b:List UInt8):gV (a++b)=gV a++gV b:=by simp [gV]
theorem oF {base:Nat} {n:Nat} {l:List UInt8} (h:w.ownsRow base 5 1 v n (gV l)) (hl:l.length=n):
  Sem.run prog (convert 184 9 v) w= .ok (.string ⟨l.toArray⟩) w:=by
 rcases Nat.eq_zero_or_pos n with h0 | h0
 ·have hl0:l= []:=ve.1 zj
  subst hl0
  rcases h.2 with ⟨hv,_⟩ | ⟨g,cap,cur,hv,_⟩
  ·exact kj9
  exact ki3
 obtain ⟨g,cap,rfl⟩:∃g cap,v= .slice (some ⟨g,0,none⟩) n cap:=by
  rcases h.2 with ⟨_,h2⟩ | ⟨g,cap,cur,hv,_⟩
  ·omega
  exact ⟨g,cap,hv⟩
 have hc:=h.cells (g:=g) rfl
 subst hl
 refine run_convert_bytes_back w _ _ _ _ _ l underlying184 underlying5 underlying9 (fun j hj=> ?_)
 refine hc j _ ?_
 simp [gV,jK hj]
def fU (L:List Ltr):List UInt8:=(bN L).map fun l=>UInt8.ofNat l.2.1
theorem lJ (h:L[k]? =some l):bN (L.take (k+1))=bN (L.take k)++(if l.2.2 then [] else [l]):=by
 unfold bN
 rw [vV,h,ug]
 congr 1
 by_cases hg:l.2.2=true
 ·rw [if_pos hg];simp [hg]
 rw [if_neg hg];simp [hg]
theorem Cp {a:Int} {c:Nat} {g:Bool} (h:L[k]? =some (a,c,g)):fU (L.take (k+1))=fU (L.take k)++(if g then [] else [UInt8.ofNat c]):=by
 unfold fU
 rw [lJ h,vz]
 cases g<;>rfl
theorem mB (L:List Ltr):(fU L).length<=L.length:=by
 unfold fU bN
 rw [vy]
 exact uz _ _
theorem JV (w:World) (base p:Nat) (v:Value) (L:List Ltr) (h:LineAt base w p v L) (hL:L.length<=1000):
  Calls prog 103 #[.pointer (some ⟨p,0,none⟩)] w fun e w'=>e= .returned (.string ⟨(fU L).toArray⟩)/\Below w.heap.size w w':=by
 obtain ⟨i0,hi,hz0,hz1,hz2⟩:=info_parts MF
 obtain ⟨ao,cap,rfl⟩:=iV h.row
 have c0:=h.c0
 have HI:Aside (LtrsIn w ao L/\∀l∈L,l.2.1<256):=⟨nw h.row,h.small⟩
 clear h
 go_enter func103,ntmps103
 go_wp2
 clear c0
 go_loopg [3,11] L.length (fun kx s3 s11 wr=>∃(k:Nat) (ov:Value),ov=s3/\s11= .int .i64 (k:Int)/\k<=L.length/\L.length - k<=kx/\Aside (wr.ownsRow w.heap.size 5 1 ov (fU (L.take k)).length (gV (fU (L.take k)))/\Below w.heap.size w wr))
 case atStart=>exact ⟨0,_,rfl,rfl,jX _,jL _,⟨vD _ _ _ _,jN _ w⟩⟩
 case round=>
  obtain ⟨k,ov,rfl,rfl,hk,hkx,A⟩:=hrel
  by_cases hlt:k<L.length
  ·have hltz:decide ((k:Int)<(L.length:Int))=true:=by simp;omega
   have ek:((k:Int)).toNat=k:=zj
   have pk:(0:Int)<=(k:Int):=zj
   have bk:(k:Int)<(L.length:Int):=zj
   obtain ⟨⟨a,c,gn⟩,hl⟩:∃l,Aside (L[k]? =some l):=⟨L[k],jK hlt⟩
   obtain ⟨blk,off,rfl,f0,f1,f2⟩:=(HI.o.1.later A.o.2).at hl.o
   have HN:=Lib.hid (Cp hl.o)
   have hc256:c<256:=HI.o.2 _ (jT hl.o)
   obtain ⟨T,hT⟩:∃T,Aside (fU (L.take k)=T):=⟨_,rfl⟩
   have A':Aside (wr.ownsRow w.heap.size 5 1 ov T.length (gV T)/\Below w.heap.size w wr):=by have:=A.o;rw [hT.o] at this;exact this
   have hTl:T.length<=1000:=by have:=mB (L.take k);rw [hT.o,vj] at this;omega
   obtain ⟨u,hu⟩:=za wr
   subst hu
   cases gn with
   | true=>
    have f2':u.cell? ⟨blk,off+k*3+2,none⟩=some (.bool false):=f2
    clear f2 A
    go_wp2
    go_roundg (L.length - (k+1))
    case measure=>omega
    case rel=>
     refine ⟨k+1,_,rfl,zI,zj,jL _,?_⟩
     have e:fU (L.take (k+1))=T:=by rw [HN.o,hT.o];simp
     rw [e]
     exact ⟨A'.o.1.alloc _,A'.o.2.alloc A'.o.2.size _⟩
   | false=>
    have f2':u.cell? ⟨blk,off+k*3+2,none⟩=some (.bool true):=f2
    clear f2 A
    obtain ⟨cb,hcb⟩:∃cb:UInt8,Aside (UInt8.ofNat c=cb):=⟨_,rfl⟩
    have hcn:(c:Int)=(cb.toNat:Int):=by rw [<-hcb.o];simp;omega
    rw [hcn] at f1
    clear hcn
    go_wp2_with (at_builtin;refine wpList_append_own _ rfl _ _ 184 rfl w.heap.size 5 i0 _ 1 1 underlying184 hi hz0 hz1 hz2 rfl zj _ _ _ rfl ((A'.o.1.alloc _).alloc _) ⟨u.heap.size+1,0,none⟩ 1 1 [.int .u8 (cb.toNat:Int)] rfl ?qb1 ?qb2 ?qb3 ?qb4 ?qb5 ?qb6 ?_)
    case qb1=>rfl
    case qb2=>exact ui (cs:= #[.int .u8 (cb.toNat:Int)]) (t:=5) (fr:=(0,0)) (by
     have:=heap_alloc_new (u.alloc (.cells #[.int .i64 a,.int .u8 (cb.toNat:Int),.bool true] 282)) (.cells #[.int .u8 (cb.toNat:Int)] 5)
     rwa [vL] at this)
    case qb3=>simp [Value.oneCell']
    case qb4=>simp only [maxLen];omega
    case qb5=>omega
    case qb6=>have:=A'.o.2.size;simp;omega
    intro v2 u2 hown hgrow hnil
    clear hnil
    have W1:=(A'.o.2.alloc A'.o.2.size (.cells #[.int .i64 a,.int .u8 (cb.toNat:Int),.bool true] 282))
    have W2:Below w.heap.size w u2:=(W1.alloc W1.size _).grown hgrow (by have:=A'.o.2.size;simp;omega) (fun k hk=>(A'.o.1.lt k hk).1)
    have R2:Aside (u2.ownsRow w.heap.size 5 1 v2 (fU (L.take (k+1))).length (gV (fU (L.take (k+1))))/\Below w.heap.size w u2):=by
     have e:fU (L.take (k+1))=T++ [cb]:=by rw [HN.o,hT.o,<-hcb.o];rfl
     rw [e,oP,jP]
     exact ⟨hown,W2⟩
    clear hown hgrow W1 W2
    go_wp2
    go_roundg (L.length - (k+1))
    case measure=>omega
    case rel=>exact ⟨k+1,_,rfl,zI,zj,jL _,R2⟩
  have hltz:decide ((k:Int)<(L.length:Int))=false:=zl
  have ek:L.take k=L:=vm zj
  rw [ek] at A
  have hcv:=oF A.o.1 rfl
  clear ek
  go_wp2
  go_ret
  exact ⟨rfl,A.o.2⟩
end
section
open Go.RowKit Go.Lib Go.Sort
theorem wT (w:World) (base p:Nat) (v:Value) (L:List Ltr) (id:Int) (hE:Ln4 ad w) (hT:LineAt base w p v L) (hL:L.length<=1000) (hx:id∉L.map (·.1)):
  Calls prog 139 #[.pointer (some ⟨p,0,none⟩),.int .i64 id] w fun e w'=>e= .returned (.iface 450 (.pointer (some (ad 5))))/\Below w.heap.size w w':=by
 have HE:Aside (Ln4 ad w):=hE
 have hf:=dE w base p v L id hT hL
 rw [fx hx] at hf
 clear hE hT hx
 go_enter func139,ntmps139
 go_wp2_with fail
 refine hf.mono ?_
 rintro e w1 ⟨rfl,hb1⟩
 have B1:Aside (Below w.heap.size w w1):=hb1
 have c5:=(HE.o.later hb1).c5
 clear hb1 hf
 go_wp2
 go_ret
 exact ⟨rfl,B1.o⟩
theorem Es (w:World) (base p i:Nat) (v:Value) (L:List Ltr) (id:Int) (hT:LineAt base w p v L) (hL:L.length<=1000) (hf:cj id L=some i):
  Calls prog 139 #[.pointer (some ⟨p,0,none⟩),.int .i64 id] w fun e w'=>e= .returned .nilIface/\LineAt base w' p v (L.set i (id,0,true))/\Keeps (fun k=>some k=v.ownBlock) w w':=by
 obtain ⟨⟨a,c,gn⟩,hl,rfl⟩:=cn hf
 have hil:=(jI.1 hl).1
 have hfa:=dE w base p v L a hT hL
 rw [show mo a L=(i:Int) by unfold mo;rw [hf]] at hfa
 obtain ⟨ao,cap,rfl⟩:=iV hT.row
 obtain ⟨g,rfl⟩:∃g,ao=some ⟨g,0,none⟩:=by
  rcases hT.row.2 with ⟨_,h2⟩ | ⟨g,cap',cur,hv,_⟩
  ·omega
  cases hv;exact ⟨g,rfl⟩
 have HT:Aside (LineAt base w p (.slice (some ⟨g,0,none⟩) L.length cap) L):=hT
 have HL:Aside (L[i]? =some (a,c,gn)):=hl
 have d0:decide ((i:Int)<0)=false:=zq
 have ei:((i:Int)).toNat=i:=zj
 have bi:(i:Int)<(L.length:Int):=zj
 have pi:(0:Int)<=(i:Int):=zj
 clear hT hl hf
 go_enter func139,ntmps139
 go_wp2_with fail
 refine hfa.mono ?_
 rintro e w1 ⟨rfl,hb1⟩
 have H1:Aside (LineAt base w1 p (.slice (some ⟨g,0,none⟩) L.length cap) L/\Below w.heap.size w w1):=⟨HT.o.later hb1,hb1⟩
 clear hb1 hfa
 have c0:=H1.o.1.c0
 obtain ⟨blk,off,hbo,f0,f1,f2⟩:=(nw H1.o.1.row).at HL.o
 have hoff:blk=g/\off=0:=by
  rcases nw H1.o.1.row with h | ⟨b',o',h1,_⟩
  ·rw [h] at hil;simp at hil
  simp only [Option.some.injEq,Addr.mk.injEq,and_true] at hbo
  exact ⟨hbo.1.symm,hbo.2.symm⟩
 obtain ⟨rfl,rfl⟩:=hoff
 rw [vh] at f0 f1 f2
 have z0:∀j,w1.frozen? ⟨blk,j,none⟩=false:=fun j=>H1.o.1.row.frozenAt j
 have z1:=z0 (i*3)
 have z2:=z0 (i*3+1)
 have z3:=z0 (i*3+2)
 have hne:blk≠p:=(H1.o.1.ne blk rfl).1
 have FIN:Aside (LineAt base (w1.setCells blk (i*3) [.int .i64 a,.int .u8 0,.bool false]) p (.slice (some ⟨blk,0,none⟩) L.length cap) (L.set i (a,0,true))/\Keeps (fun k=>some k=some blk) w (w1.setCells blk (i*3) [.int .i64 a,.int .u8 0,.bool false])):=by
  have hkp:=aY blk [.int .i64 a,.int .u8 0,.bool false] (i*3) w1
  have hro:=H1.o.1.row
  have hself:L.set i (a,c,gn)=L:=by
   have h:=List.set_getElem_self hil
   rw [(jI.1 HL.o).2] at h
   exact h
  have e1:aB pK L=(aB pK L).take (i*3)++pK (a,c,gn)++(aB pK L).drop ((i+1)*3):=by
   rw [<-lZ ep L i hil (a,c,gn),hself]
  have e2:=lZ ep L i hil (a,0,true)
  have el:((aB pK L).take (i*3)).length=i*3:=by rw [vj,aa ep];omega
  rw [e1] at hro
  have ho:=pz (vs:=[.int .i64 a,.int .u8 0,.bool false]) hro rfl
  rw [el] at ho
  have hm:∀l∈L.set i (a,0,true),l∈L\/l=(a,0,true):=fun l hl=>List.mem_or_eq_of_mem_set hl
  refine ⟨⟨(hkp.block p H1.o.1.lt (fun e=>hne e.symm)).trans H1.o.1.cell,?_,H1.o.1.low,?_,fun l hl=> ?_,fun l hl=> ?_⟩,?_⟩
  ·rw [uO,e2]
   exact ho
  ·rw [Kl HL.o]
   exact H1.o.1.nodup
  ·rcases hm l hl with h | rfl
   ·exact H1.o.1.pos l h
   exact H1.o.1.pos (a,c,gn) (jT HL.o)
  ·rcases hm l hl with h | rfl
   ·exact H1.o.1.small l h
   show 0<256
   omega
  exact ((aV H1.o.2).mono (fun k hk e=>zj)).then hkp (fun k _ e=>qR)
 clear z0
 go_wp2
 go_ret
 exact ⟨rfl,FIN.o⟩
def atL (n:Int) (L:List Ltr):Int×Bool:=if 0<=n then (match (bN L)[n.toNat]? with
 | some l=>(l.1,true)
 | none=>(0,false)) else (0,false)
theorem Lu (h:L[k]? =some l) (hg:l.2.2=false) (hn:n=((bN (L.take k)).length:Int)):atL n L=(l.1,true):=by
 have hk:=(jI.1 h).1
 have e:bN L=bN (L.take (k+1))++bN (L.drop (k+1)):=by
  unfold bN
  rw [<-ug,vA]
 unfold atL
 rw [if_pos zj,hn,Int.toNat_natCast,e,lJ h,hg]
 simp
theorem Iv (h:∀j:Nat,j<(bN L).length->n≠(j:Int)):atL n L=(0,false):=by
 unfold atL
 split
 ·rw [List.getElem?_eq_none]
  have:=h n.toNat
  omega
 rfl
theorem NP (w:World) (base p:Nat) (v:Value) (L:List Ltr) (n:Int) (h:LineAt base w p v L) (hL:L.length<=1000) (hn: -9223372036854775808<=n/\n<=9223372036854775807):
  Calls prog 353 #[.pointer (some ⟨p,0,none⟩),.int .i64 n] w fun e w'=>e= .returned (.tuple #[.int .i64 (atL n L).1,.bool (atL n L).2])/\Below w.heap.size w w':=by
 obtain ⟨ao,cap,rfl⟩:=iV h.row
 have c0:=h.c0
 have HI:Aside (LtrsIn w ao L):=nw h.row
 clear h
 obtain ⟨r1,r2,hr⟩:∃r1 r2,Aside (atL n L=(r1,r2)):=⟨_,_,rfl⟩
 rw [hr.o]
 show Calls _ _ _ _ fun e w'=>e= .returned (.tuple #[.int .i64 r1,.bool r2])/\Below w.heap.size w w'
 go_enter func353,ntmps353
 go_wp2
 clear c0
 go_loopg [1,13] L.length (fun kx s1 s13 wr=>∃(k:Nat) (m:Int),s1= .int .i64 m/\s13= .int .i64 (k:Int)/\k<=L.length/\L.length - k<=kx/\Aside (m=IntKind.i64.wrap (n - ((bN (L.take k)).length:Int))/\(∀j:Nat,j<(bN (L.take k)).length->n≠(j:Int))/\Below w.heap.size w wr))
 case atStart=>exact ⟨0,_,rfl,rfl,jX _,jL _,⟨by rw [IntKind.wrap_i64];simp [bN];omega,fun j hj=>by simp [bN] at hj,jN _ w⟩⟩
 case round=>
  obtain ⟨k,m,rfl,rfl,hk,hkx,A⟩:=hrel
  by_cases hlt:k<L.length
  ·have hltz:decide ((k:Int)<(L.length:Int))=true:=by simp;omega
   have ek:((k:Int)).toNat=k:=zj
   have pk:(0:Int)<=(k:Int):=zj
   have bk:(k:Int)<(L.length:Int):=zj
   obtain ⟨⟨a,c,gn⟩,hl⟩:∃l,Aside (L[k]? =some l):=⟨L[k],jK hlt⟩
   obtain ⟨blk,off,rfl,f0,f1,f2⟩:=(HI.o.later A.o.2.2).at hl.o
   have HN:=Lib.hid (lJ hl.o)
   have HS:=Lib.hid (show (bN (L.take k)).length<=1000 by
    have:(bN (L.take k)).length<=(L.take k).length:=uz _ _
    rw [vj] at this;omega)
   obtain ⟨u,hu⟩:=za wr
   subst hu
   have HB:Aside (∀o,Below w.heap.size w (u.alloc o)):=fun o=>A.o.2.2.alloc A.o.2.2.size o
   cases gn with
   | true=>
    have f2':u.cell? ⟨blk,off+k*3+2,none⟩=some (.bool false):=f2
    clear f2
    go_wp2
    go_roundg (L.length - (k+1))
    case measure=>omega
    case rel=>
     have e:bN (L.take (k+1))=bN (L.take k):=by rw [HN.o];simp
     exact ⟨k+1,m,rfl,zI,zj,jL _,⟨by rw [e];exact A.o.1,by rw [e];exact A.o.2.1,HB.o _⟩⟩
   | false=>
    have f2':u.cell? ⟨blk,off+k*3+2,none⟩=some (.bool true):=f2
    clear f2
    by_cases hm:m=0
    ·have dm:(m==0)=true:=by simp [hm]
     have hnk:n=((bN (L.take k)).length:Int):=by
      have h1:=A.o.1
      have h2:=HS.o
      rw [hm,IntKind.wrap_i64] at h1
      omega
     have hat:=Lu hl.o rfl hnk
     rw [hr.o] at hat
     have HR:=Lib.hid hat
     clear hm hnk hat
     go_wp2
     go_ret2
     exact ⟨by cases HR.o;rfl,HB.o _⟩
    have dm:(m==0)=false:=by simp [hm]
    have hne:n≠((bN (L.take k)).length:Int):=by
     intro e
     have h1:=A.o.1
     rw [e,IntKind.wrap_i64] at h1
     omega
    have HNE:=Lib.hid hne
    clear hm hne
    go_wp2
    go_roundg (L.length - (k+1))
    case measure=>omega
    case rel=>
     have e:(bN (L.take (k+1))).length=(bN (L.take k)).length+1:=by rw [HN.o];simp
     refine ⟨k+1,_,rfl,zI,zj,jL _,⟨?_,fun j hj=> ?_,HB.o _⟩⟩
     ·have h1:=A.o.1
      have h2:=HS.o
      rw [e,h1,IntKind.wrap_i64,IntKind.wrap_i64]
      unfold wrap64
      omega
     rw [e] at hj
     rcases ue j (bN (L.take k)).length with h | h
     ·exact A.o.2.1 j h
     obtain rfl:j=(bN (L.take k)).length:=zj
     exact HNE.o
  have hltz:decide ((k:Int)<(L.length:Int))=false:=zl
  have et:L.take k=L:=vm zj
  have hat:=Iv (n:=n) (L:=L) (by have:=A.o.2.1;rwa [et] at this)
  rw [hr.o] at hat
  have HR:=Lib.hid hat
  clear et hat
  go_wp2
  go_ret2
  exact ⟨by cases HR.o;rfl,A.o.2.2⟩
end
section
open Go.RowKit Go.Lib Go.Sort
end
section
open Go.RowKit Go.Lib Go.Sort
open scoped Classical
def ActOk (base:Nat) (w:World) (p:Nat) (v:Value) (M:List Ltr) (w':World):Prop:=
 ∃v',LineAt base w' p v' M/\Keeps (fun k=>k=p\/some k=v.ownBlock) w w'/\(v'.ownBlock=v.ownBlock\/∀g,v'.ownBlock=some g->w.heap.size<=g)
theorem ActOk.of_below {base:Nat} (h:LineAt base w p v L) (hb:Below w.heap.size w w'):ActOk base w p v L w':=
 ⟨v,h.later hb,(aV hb).mono (fun k hk e=>zj),.inl rfl⟩
theorem ActOk.of_put {base:Nat} (h:JU base w p v M w'):ActOk base w p v M w':=by
 obtain ⟨v',h1,h2,h3⟩:=h
 exact ⟨v',h1,h2,h3⟩
def rz (id behind:Int) (L:List Ltr):Nat:=
 if 4<=id/\id<4294967300/\0<=behind/\behind<id then (if id∈L.map (·.1) then 7 else if behind=0\/behind∈L.map (·.1) then 0 else 6) else 3
def Om (id behind:Int) (c:Nat) (L:List Ltr):List Ltr:=if rz id behind L=0 then put behind (id,c,false) L else L
def Ob (ad:Nat->Addr) (c:Nat):Value:=if c=0 then .nilIface else .iface 450 (.pointer (some (ad (c - 1))))
theorem CJ (w:World) (base p:Nat) (v:Value) (L:List Ltr) (id behind:Int) (c:Nat) (hE:Ln4 ad w) (hT:LineAt base w p v L) (hbase:base<=w.heap.size) (hL:L.length<=900) (hi: -9223372036854775808<=id/\id<=9223372036854775807) (hc:c<256):
  Calls prog 138 #[.pointer (some ⟨p,0,none⟩),.int .i64 id,.int .i64 behind,.int .u8 (c:Int)] w fun e w'=>e= .returned (Ob ad (rz id behind L))/\ActOk base w p v (Om id behind c L) w':=by
 unfold Om rz
 by_cases h1:4<=id/\id<4294967300/\0<=behind/\behind<id
 ·rw [if_pos h1]
  by_cases h2:id∈L.map (·.1)
  ·rw [if_pos h2,if_neg zj]
   refine (rO w base p v L id behind c hE hT zj h1 h2).mono ?_
   exact kh0
  rw [if_neg h2]
  by_cases h3:behind=0\/behind∈L.map (·.1)
  ·rw [if_pos h3,if_pos rfl]
   refine (De w base p v L id behind c hT hbase hL h1 hc h2 h3).mono ?_
   rintro e w' ⟨rfl,hp⟩
   exact ⟨rfl,ActOk.of_put hp⟩
  rw [if_neg h3,if_neg zj]
  refine (ss w base p v L id behind c hE hT zj h1 h2 (fun e=>h3 (.inl e)) (fun e=>h3 (.inr e))).mono ?_
  exact kh0
 rw [if_neg h1,if_neg zj]
 refine (rn w p id behind c hE hi h1).mono ?_
 exact kh0
def JD (id:Int) (L:List Ltr):Nat:=match cj id L with
 | none=>6
 | some _=>0
def Nc (id:Int) (L:List Ltr):List Ltr:=match cj id L with
 | none=>L
 | some i=>L.set i (id,0,true)
theorem Bz (w:World) (base p:Nat) (v:Value) (L:List Ltr) (id:Int) (hE:Ln4 ad w) (hT:LineAt base w p v L) (hL:L.length<=1000):
  Calls prog 139 #[.pointer (some ⟨p,0,none⟩),.int .i64 id] w fun e w'=>e= .returned (Ob ad (JD id L))/\ActOk base w p v (Nc id L) w':=by
 unfold JD Nc
 cases hf:cj id L with
 | none=>
  refine (wT w base p v L id hE hT hL (fun hm=> ?_)).mono ?_
  ·obtain ⟨l,hl,e⟩:=vp.1 hm
   exact ik hf l hl e
  exact kh0
 | some i=>
  refine (Es w base p i v L id hT hL hf).mono ?_
  rintro e w' ⟨rfl,h1,h2⟩
  exact ⟨rfl,v,h1,h2.mono (fun k _ e=>.inr e),.inl rfl⟩
end
section
open scoped Classical
def kr (nd:Int) (ws:List (List UInt8)):List UInt8:=Lib.itoa nd++ [32]++Lib.join ws [32]
def cz (p:Plc):List UInt8:=kr p.1 [[105,110],Lib.itoa p.2.1,p.2.2.data.toList]
def mt (t:Int×List UInt8):List UInt8:=kr t.1 [[116,101,120,116],t.2]
def rX (m:Mrk):List UInt8:=kr m.1 [[109,97,114,107],m.2.1.data.toList,m.2.2.data.toList]
def gr (t:Int×List UInt8):Bool:=decide (t.2≠ [])
def JB (qs:List Plc) (ts:List (Int×List UInt8)) (ms:List Mrk):List (List UInt8):=qs.map cz++(ts.filter gr).map mt++ms.map rX
structure IsTexts (A:List OpX) (ts:List (Int×List UInt8)):Prop where
 rise:ts.Pairwise (fun a b=>a.1<b.1)
 mem:∀nd,nd∈ts.map (·.1)↔KnownN A nd
 line:∀t∈ts,∃L,LineIs A t.1 L/\t.2=fU L
theorem IsTexts.perm {A B:List OpX} {ts:List (Int×List UInt8)} (h:IsTexts A ts) (e:A.Perm B):IsTexts B ts:=by
 refine ⟨h.rise,fun nd=>(h.mem nd).trans ⟨fun q=>q.mono (fun x hx=>e.mem_iff.1 hx),fun q=>q.mono (fun x hx=>e.mem_iff.2 hx)⟩,fun t ht=> ?_⟩
 obtain ⟨L,h1,h2⟩:=h.line t ht
 exact ⟨L,h1.perm e,h2⟩
theorem IsTexts.unique {A:List OpX} {ts us:List (Int×List UInt8)} (h:IsTexts A ts) (k:IsTexts A us):ts=us:=by
 have one:∀ {xs ys:List (Int×List UInt8)},IsTexts A xs->IsTexts A ys->∀p,p∈xs->p∈ys:=fun {xs ys} hx hy p hp=>by
  have:p.1∈ys.map (·.1):=(hy.mem _).2 ((hx.mem _).1 (vp.2 ⟨p,hp,rfl⟩))
  obtain ⟨q,hq,e⟩:=vp.1 this
  obtain ⟨L,l1,l2⟩:=hx.line p hp
  obtain ⟨M,m1,m2⟩:=hy.line q hq
  have e':q.1=p.1:=e
  rw [e'] at m1
  obtain rfl:=l1.unique m1
  have:q=p:=Prod.ext e' (m2.trans l2.symm)
  rwa [this] at hq
 exact ew (R:=fun a b:Int×List UInt8=>a.1<b.1) (fun a=>Int.lt_irrefl _) (fun a b c=>Int.lt_trans) h.rise k.rise (fun p=>⟨one h k p,one k h p⟩)
def StateIs (A:List OpX) (s:List UInt8):Prop:=∃ms qs ts A' mm,ms.Perm (eu A)/\bL ms/\IsPlaces (aH ms) qs/\IsTexts A ts/\A'.Perm A/\IsMarks (fA A') mm/\s=Lib.join (JB qs ts mm) [10]
theorem StateIs.perm {A B:List OpX} {s:List UInt8} (h:StateIs A s) (e:A.Perm B):StateIs B s:=by
 obtain ⟨ms,qs,ts,A',mm,h1,h2,h3,h4,h5,h6,h7⟩:=h
 exact ⟨ms,qs,ts,A',mm,h1.trans (e.filterMap _),h2,h3,h4.perm e,h5.trans e,h6,h7⟩
theorem WellK.oneO (h:WellK A):OneO A:=fun x hx y hy e1 e2=>h.stamp hx hy (by unfold stO;rw [e1,e2])
theorem OneO.mono (h:OneO A) (e:∀x,x∈B->x∈A):OneO B:=fun x hx y hy=>h x (e x hx) y (e y hy)
theorem Bi (h:OneO A) (e:A.Perm B):fA A=fA B:=
 pm (fun m=>(e.filterMap _).mem_iff) h.marks
theorem StateIs.unique {A:List OpX} {s t:List UInt8} (hA:WellK A) (h:StateIs A s) (k:StateIs A t):s=t:=by
 obtain ⟨ms,qs,ts,A',mm,h1,h2,h3,h4,h5,h6,rfl⟩:=h
 obtain ⟨ms',qs',ts',A'',mm',k1,k2,k3,k4,k5,k6,rfl⟩:=k
 obtain rfl:=gQ (h1.trans k1.symm) h2 k2
 obtain rfl:=h3.unique k3
 obtain rfl:=h4.unique k4
 have e:fA A'=fA A'':=Bi (hA.oneO.mono (fun x hx=>h5.mem_iff.1 hx)) (h5.trans k5.symm)
 rw [e] at h6
 obtain rfl:=h6.unique k6
 rfl
theorem StateIs.same {t:List UInt8} (hA:WellK A) (e:A.Perm B) (h:StateIs A s) (k:StateIs B t):s=t:=h.unique hA (k.perm e.symm)
theorem join_nil (x:List UInt8):Lib.join [] x= []:=rfl
end
section
open scoped Classical
def kL (ys:List OpX):Prop:=ys.Pairwise (fun a b=>¬CLt (stO b) (stO a))
theorem NR (hx:bY x=0) (hy:bY y=0) (h:idO x<idO y):CLt (stO x) (stO y):=by
 have a:=ax hx
 have b:=ax hy
 unfold idO at h
 unfold CLt stO
 dsimp only
 omega
theorem Nl (hx:bY x=0) (hy:bY y=0) (h:idO x=idO y):stO x=stO y:=by
 have a:=ax hx
 have b:=ax hy
 unfold idO at h
 unfold stO
 have h1:x.1=y.1:=zj
 have h2:x.2.1=y.2.1:=zj
 rw [h1,h2]
theorem Fg {ys:List OpX} (ho:kL ys) {c:Nat} (hx:x∈ys.take c) (hy:y∈ys) (h:CLt (stO y) (stO x)):y∈ys.take c:=by
 have e:=vA c ys
 unfold kL at ho
 rw [<-e] at hy ho
 rcases jO.1 hy with q | q
 ·exact q
 exact absurd h ((List.pairwise_append.1 ho).2.2 x hx y q)
end
section
open Go.RowKit Go.Lib Go.Sort
def Oy (l:Ltr):List Value:=[.int .i64 l.1,.int .u8 (l.2.1:Int),.bool l.2.2]
structure OG (base:Nat) (w:World) (p:Nat) (v:Value) (L:List Ltr):Prop where
 cell:w.heap[p]? =some (.cells #[v] 253 (0,0))
 row:w.ownsRow base 256 3 v L.length (aB Oy L)
 low:p<base
 small:∀l∈L,l.2.1<256
end
section
open Go.RowKit Go.Lib Go.Sort
end
section
open Go.RowKit Go.Lib Go.Sort
end
section
open Go.RowKit Go.Lib Go.Sort
end
section
open Go.RowKit
structure TxtE (ad:Nat->Addr) (w:World):Prop where
 op4:Op4 ad w
 tab:Lib.TabIs prog w "internal/strconv.uint64pow10" .u64 Lib.pow10Tab
theorem TxtE.later {ad:Nat->Addr} {w w':World} (h:TxtE ad w) (hb:Below w.heap.size w w'):TxtE ad w':=⟨h.op4.later hb,Lib.tabBelow_of_tabIs h.tab _ hb⟩
def TxtR (w0:World) (t b n:Int) (k:Nat) (node other:Int) (name value:ByteArray) (w':World):Prop:=w'.cell? ⟨w0.heap.size,0,none⟩=some (.int .i64 t)/\w'.cell? ⟨w0.heap.size,1,none⟩=some (.int .i64 b)/\w'.cell? ⟨w0.heap.size,2,none⟩=some (.int .i64 n)/\w'.cell? ⟨w0.heap.size,3,none⟩=some (.int .u8 (k:Int))/\w'.cell? ⟨w0.heap.size,4,none⟩=some (.int .i64 node)/\w'.cell? ⟨w0.heap.size,5,none⟩=some (.int .i64 other)/\w'.cell? ⟨w0.heap.size,6,none⟩=some (.string name)/\w'.cell? ⟨w0.heap.size,7,none⟩=some (.string value)/\Lib.TabIs prog w' "internal/strconv.uint64pow10" .u64 Lib.pow10Tab/\Below w0.heap.size w0 w'
theorem TxtR.later {node:Int} (h:TxtR w0 t b n k node other name value w) (hb:Below w.heap.size w w'):TxtR w0 t b n k node other name value w':=
 ⟨aQ hb h.1,aQ hb h.2.1,aQ hb h.2.2.1,aQ hb h.2.2.2.1,aQ hb h.2.2.2.2.1,aQ hb h.2.2.2.2.2.1,aQ hb h.2.2.2.2.2.2.1,aQ hb h.2.2.2.2.2.2.2.1,Lib.tabBelow_of_tabIs h.2.2.2.2.2.2.2.2.1 _ hb,zi h.2.2.2.2.2.2.2.2.2 hb⟩
theorem TxtR.drew {w0 w:World} {t b n:Int} {k:Nat} {node other:Int} {name value:ByteArray} (h:TxtR w0 t b n k node other name value w):TxtR w0 t b n k node other name value w.drew:=h.later (jN _ _).drew
theorem TxtR.new {node:Int} (h:TxtR w0 t b n k node other name value w) (o:Obj):TxtR w0 t b n k node other name value (w.alloc o):=h.later (zh _ _)
theorem TxtR.tab {node:Int} (h:TxtR w0 t b n k node other name value w):Lib.TabIs prog w "internal/strconv.uint64pow10" .u64 Lib.pow10Tab:=h.2.2.2.2.2.2.2.2.1
theorem Oz (y0 y1 y2 y3 y4 y5 y6 y7:ByteArray) (w:World) (T:TypeId)
  (hl:y0.size+y1.size+y2.size+y3.size+y4.size+y5.size+y6.size+y7.size<=100000000):
  Calls prog 50 #[.slice (some ⟨w.heap.size,0,none⟩) 8 8,.string ⟨#[124]⟩] (w.alloc (.cells #[.string y0,.string y1,.string y2,.string y3,.string y4,.string y5,.string y6,.string y7] T)) fun e w'=>e= .returned (.string ⟨(eY 124 [y0.data.toList,y1.data.toList,y2.data.toList,y3.data.toList,y4.data.toList,y5.data.toList,y6.data.toList,y7.data.toList]).toArray⟩)/\Below (w.alloc (.cells #[.string y0,.string y1,.string y2,.string y3,.string y4,.string y5,.string y6,.string y7] T)).heap.size (w.alloc (.cells #[.string y0,.string y1,.string y2,.string y3,.string y4,.string y5,.string y6,.string y7] T)) w':=by
 have hc:∀(j:Nat) x,([y0,y1,y2,y3,y4,y5,y6,y7]:List ByteArray)[j]? =some x->(w.alloc (.cells #[.string y0,.string y1,.string y2,.string y3,.string y4,.string y5,.string y6,.string y7] T)).cell? ⟨w.heap.size,0+j,none⟩=some (.string x):=by
  intro j x hx
  rw [World.cell?_alloc_at _ _ _ _ rfl]
  match j,hx with
  | 0,hx=>simp at hx;subst hx;rfl
  | 1,hx=>simp at hx;subst hx;rfl
  | 2,hx=>simp at hx;subst hx;rfl
  | 3,hx=>simp at hx;subst hx;rfl
  | 4,hx=>simp at hx;subst hx;rfl
  | 5,hx=>simp at hx;subst hx;rfl
  | 6,hx=>simp at hx;subst hx;rfl
  | 7,hx=>simp at hx;subst hx;rfl
  | n+8,hx=>simp at hx
 refine (Tryz.strings_Join w.heap.size 0 8 [y0,y1,y2,y3,y4,y5,y6,y7] ⟨#[124]⟩ _ hc zq zq zq ?_).mono ?_
 ·simp [Lib.join_cons,Lib.joinTail];omega
 rintro e w' ⟨rfl,hb⟩
 refine ⟨?_,hb⟩
 rw [<-CK]
 simp
theorem Gg (k:Nat) (w:World) (hk:k=109\/k=105\/k=100\/k=115):Sem.run prog (convert 5 21 (.int .u8 (k:Int))) w= .ok (.int .i32 (k:Int)) w:=by
 rcases hk with rfl | rfl | rfl | rfl<;>kernel_rfl
theorem Is (k:Nat) (w:World) (hk:k=109\/k=105\/k=100\/k=115):Sem.run prog (convert 21 9 (.int .i32 (k:Int))) w= .ok (.string ⟨[UInt8.ofNat k].toArray⟩) w:=by
 rcases hk with rfl | rfl | rfl | rfl<;>kernel_rfl
theorem Bp (l:List UInt8):(⟨l.toArray⟩:ByteArray).size=l.length:=by simp [ByteArray.size]
theorem DX (t b n:Int) (k:Nat) (node other:Int) (name value:ByteArray) (w:World) (hE:TxtE ad w) (hop:opE t b n k node other name.data.toList value.data.toList=0):
  Calls prog 215 #[.agg #[.int .i64 t,.int .i64 b,.int .i64 n,.int .u8 (k:Int),.int .i64 node,.int .i64 other,.string name,.string value]] w fun e w'=>e= .returned (.tuple #[.string ⟨(dX t b n k node other name.data.toList value.data.toList).toArray⟩,.nilIface])/\Below w.heap.size w w':=by
 obtain ⟨h1,h2,h3,h4,h5,h6,hk,h7,h8,h9,h10,-,hn,hv⟩:=ax hop
 rw [cw] at hn hv
 have O0:=OpAt.new w t b n k node other name value 61
 have E0:=hE.later ((jN _ _).alloc zg (.cells #[.int .i64 t,.int .i64 b,.int .i64 n,.int .u8 (k:Int),.int .i64 node,.int .i64 other,.string name,.string value] 61))
 have B0:Below w.heap.size w (w.alloc (.cells #[.int .i64 t,.int .i64 b,.int .i64 n,.int .u8 (k:Int),.int .i64 node,.int .i64 other,.string name,.string value] 61)):=zh _ _
 have q1:=fun w=>Gg k w hk
 have q2:=fun w=>Is k w hk
 have HO:=Lib.hid hop
 have HB:Hid ((1<=t/\t<=1073741824)/\(0<=b/\b<4)/\(1<=n/\n<=400)/\(0<=node/\node<=4294967299)/\(0<=other/\other<=4294967299)/\name.size<=12/\value.size<=12):=Lib.hid zj
 have HL:Hid ((Lib.itoa t).length<=21/\(Lib.itoa b).length<=21/\(Lib.itoa n).length<=21/\(Lib.itoa node).length<=21/\(Lib.itoa other).length<=21):=Lib.hid ⟨Lib.itoa_length_le _ zj zj,Lib.itoa_length_le _ zj zj,Lib.itoa_length_le _ zj zj,Lib.itoa_length_le _ zj zj,Lib.itoa_length_le _ zj zj⟩
 clear hop hk h1 h2 h3 h4 h5 h6 h7 h8 h9 h10 hn hv hE
 unfold dX
 generalize hR:eY 124 [[UInt8.ofNat k],Lib.itoa t,Lib.itoa b,Lib.itoa n,Lib.itoa node,Lib.itoa other,name.data.toList,lW value.data.toList]=R
 have HR:=Lib.hid hR
 clear hR
 go_enter func215,ntmps215
 go_wp2_with fail
 generalize w.alloc (.cells #[.int .i64 t,.int .i64 b,.int .i64 n,.int .u8 (k:Int),.int .i64 node,.int .i64 other,.string name,.string value] 61)=u at O0 E0 B0 |-
 refine (bX t b n k node other name value u E0.op4 yr yr).mono ?_
 rintro e w1 ⟨rfl,hb⟩
 rw [HO.o]
 have R1:TxtR w t b n k node other name value w1:=by
  have O1:=O0.later hb
  exact ⟨O1.c0,O1.c1,O1.c2,O1.c3,O1.c4,O1.c5,O1.c6,O1.c7,(E0.later hb).tab,zi B0 hb⟩
 clear hb O0 E0 B0
 have e0:eV ad 0= .nilIface:=rfl
 rw [e0]
 clear e0
 go_wp2_with fail
 obtain ⟨A0,A1,A2,A3,A4,A5,A6,A7,A8,A9⟩:=id R1
 go_region_held3 (fun w'=>w'.cell? ⟨w.heap.size,0,none⟩=some (.int .i64 t)/\w'.cell? ⟨w.heap.size,1,none⟩=some (.int .i64 b)/\w'.cell? ⟨w.heap.size,2,none⟩=some (.int .i64 n)/\w'.cell? ⟨w.heap.size,3,none⟩=some (.int .u8 (k:Int))/\w'.cell? ⟨w.heap.size,4,none⟩=some (.int .i64 node)/\w'.cell? ⟨w.heap.size,5,none⟩=some (.int .i64 other)/\w'.cell? ⟨w.heap.size,6,none⟩=some (.string name)/\w'.cell? ⟨w.heap.size,7,none⟩=some (.string value)/\Lib.TabIs prog w' "internal/strconv.uint64pow10" .u64 Lib.pow10Tab/\Below w.heap.size w w')
  (first
   | assumption
   | exact TxtR.drew ⟨A0,A1,A2,A3,A4,A5,A6,A7,A8,A9⟩
   | exact TxtR.later qj qj
   | exact TxtR.new qj _)
  (first
   | (go_at_call 49;refine (lT _ yr yr _ (TxtR.tab qj)).mono ?_;rintro e w' ⟨rfl,hb⟩)
   | (go_at_call 271;refine (tM _ _ yr).mono ?_;rintro e w' ⟨rfl,hb⟩)
   | (go_at_call 50;refine (Oz _ _ _ _ _ _ _ _ _ _ (by have hb1:=HB.o;have hl1:=HL.o;have hx1:=gN value.data.toList;have hv1:=cw value;simp only [Bp,jY,vw];omega)).mono ?_;rintro e w' ⟨rfl,hb⟩))
 have R2:TxtR w t b n k node other name value w':=qj
 go_wp2
 go_ret2
 exact ⟨by rw [<-HR.o];rfl,R2.2.2.2.2.2.2.2.2.2⟩
theorem Fb (t b n:Int) (k:Nat) (node other:Int) (name value:ByteArray) (w:World) (hE:TxtE ad w) (hsn:name.size<=1000000) (hsv:value.size<=1000000) (hop:opE t b n k node other name.data.toList value.data.toList≠0):
  Calls prog 215 #[.agg #[.int .i64 t,.int .i64 b,.int .i64 n,.int .u8 (k:Int),.int .i64 node,.int .i64 other,.string name,.string value]] w fun e w'=>e= .returned (.tuple #[.string ⟨#[]⟩,.iface 450 (.pointer (some (ad (opE t b n k node other name.data.toList value.data.toList - 1))))])/\Below w.heap.size w w':=by
 have O0:=OpAt.new w t b n k node other name value 61
 have E0:=hE.later ((jN _ _).alloc zg (.cells #[.int .i64 t,.int .i64 b,.int .i64 n,.int .u8 (k:Int),.int .i64 node,.int .i64 other,.string name,.string value] 61))
 have B0:Below w.heap.size w (w.alloc (.cells #[.int .i64 t,.int .i64 b,.int .i64 n,.int .u8 (k:Int),.int .i64 node,.int .i64 other,.string name,.string value] 61)):=zh _ _
 have hc:=fun u hu=>bX (ad:=ad) t b n k node other name value u hu hsn hsv
 generalize opE t b n k node other name.data.toList value.data.toList=c at hop hc |-
 have HC:=Lib.hid hc
 have he:eV ad c= .iface 450 (.pointer (some (ad (c - 1)))):=by unfold eV;rw [if_neg hop]
 have HV:=Lib.hid he
 clear hc he hop
 go_enter func215,ntmps215
 go_wp2_with fail
 generalize w.alloc (.cells #[.int .i64 t,.int .i64 b,.int .i64 n,.int .u8 (k:Int),.int .i64 node,.int .i64 other,.string name,.string value] 61)=u at O0 E0 B0 |-
 refine (HC.o u E0.op4).mono ?_
 rintro e w1 ⟨rfl,hb⟩
 rw [HV.o]
 have B1:Below w.heap.size w w1:=zi B0 hb
 clear hb O0 E0 B0
 go_wp2
 go_ret2
 exact ⟨rfl,B1⟩
