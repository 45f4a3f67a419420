import Derived.Test.YtfkekfibjnjcnaaGreatDoorMZ01
import Derived.Test.YtfkekfibjnjcnaaGreatDoorMZ02
import Derived.Shelf.Spec.SlicesInsertGrow
import Derived.RangeFuncNested
import Derived.OwnWalkIn
import Derived.TacticsInMore
import Derived.LoopNIn
import Derived.LoopIn
set_option linter.unusedSimpArgs false
set_option linter.unusedVariables false
set_option maxRecDepth 100000
set_option maxHeartbeats 64000000
namespace Go.Proofs.YtfkekfibjnjcnaaGreatDoor
open Go.Proofs.Tryz
variable {x:Ent} {T:Int} {s:Int×Int} {L zs:List Ltr} {xs:List Value} {N b g h i k n o p pb:Nat} {ao:Option Addr} {e:TypeId} {u v:Value} {W W' w w' w1:World}
section
open Go.Shelf Go.RowKit Go.Lib
theorem infoLtr:(prog.info? 194).map (fun i=>(i.zero,i.size,i.bytes))=some (some (.agg #[.int .i64 0,.int .u8 0,.bool false]),3,16):=zk
def LaidL (w:World) (base:Nat) (v:Value) (n:Nat) (ys:List Value) (e:Ending) (w':World):Prop:=
 ∃v',e= .returned v'/\w'.ownsRow base 194 3 v' (n+1) ys/\Keeps (fun k=>some k=v.ownBlock) w w'/\(v'.ownBlock=v.ownBlock\/v'.ownBlock=some w.heap.size)
theorem linsert_end (w:World) (base:Nat) (v:Value) (n:Nat) (xs vs:List Value) (hown:w.ownsRow base 194 3 v n xs) (hn:n<=1000) (vb:Nat) (hv:vs.length=3)
  (hvs:∀j u,vs[j]? =some u->w.cell? ⟨vb,j,none⟩=some u) (h1v:∀u∈vs,u.oneCell'=true) (hbase:base<=w.heap.size):
  Calls prog 190 #[v,.int .i64 n,.slice (some ⟨vb,0,none⟩) 1 1] w (LaidL w base v n (xs++vs)):=by
 obtain ⟨i0,hi,hz0,hz1,hz2⟩:=info_parts infoLtr
 obtain ⟨v',w',hrun,ho,hg,hb⟩:=append_at (P:=prog) w base 190 190 194 i0 _ 3 16 underlying190 hi hz0 hz1 hz2 rfl zj v n xs hown ⟨vb,0,none⟩ 1 1 zj vs zj
  (fun j u hj=>jk) h1v zw zj hbase
 have hfin:Aside (LaidL w base v n (xs++vs) (.returned v') w'):=⟨v',rfl,ho,keeps_of_grown hg,hb⟩
 rcases hown.2 with ⟨rfl,rfl⟩ | ⟨g,cap,cur,rfl,hbg,hgb,hnc,hcm,hcs,htake⟩
 ·clear hown ho hg hb hvs h1v
  go_enter func190,ntmps190
  go_wp2_with (at_builtin;refine Lib.wpList_append_run _ rfl _ _ _ _ rfl _ _ rfl rfl _ _ hrun ?_)
  go_ret
  exact hfin.o
 clear hown ho hg hb hvs h1v htake hcs hgb hbg
 go_enter func190,ntmps190
 go_wp2_with (at_builtin;refine Lib.wpList_append_run _ rfl _ _ _ _ rfl _ _ rfl rfl _ _ hrun ?_)
 all_goals (go_ret;exact hfin.o)
theorem linsert_room (w:World) (base g n cap i:Nat) (xs vs:List Value) (hown:w.ownsRow base 194 3 (.slice (some ⟨g,0,none⟩) n cap) n xs) (hn:n<=1000) (vb:Nat) (hv:vs.length=3)
  (hvs:∀j u,vs[j]? =some u->w.cell? ⟨vb,j,none⟩=some u) (h1v:∀u∈vs,u.oneCell'=true) (h1x:∀u∈xs,u.oneCell'=true) (hvb:vb≠g) (hsa:w.shape? vb=some (194,3)) (hfa:∀j,w.frozen? ⟨vb,j,none⟩=false)
  (hi:i<n) (hroom:n+1<=cap):
  Calls prog 190 #[.slice (some ⟨g,0,none⟩) n cap,.int .i64 i,.slice (some ⟨vb,0,none⟩) 1 1] w (LaidL w base (.slice (some ⟨g,0,none⟩) n cap) n (xs.take (i*3)++vs++xs.drop (i*3))):=by
 have hL:Aside (∀W:World,W.heap=w.heap->W.os=w.os->W.tape=w.tape->W.output=w.output->LaidL w base (.slice (some ⟨g,0,none⟩) n cap) n (xs.take (i*3)++vs++xs.drop (i*3)) (.returned (.slice (some ⟨g,0,none⟩) (n+1) cap)) ((W.setCells g ((i+1)*3) (xs.drop (i*3))).setCells g (i*3) vs)):=by
  intro W h0 h2 h3 h4
  have hownW:W.ownsRow base 194 3 (.slice (some ⟨g,0,none⟩) n cap) n xs:=vf
  have k1:=(setCells_keeps g (xs.drop (i*3)) ((i+1)*3) W).trans (setCells_keeps g vs (i*3) _)
  exact ⟨_,rfl,owns_laidIn hownW hroom zj hv,⟨k1.os.trans h2,k1.tape.trans h3,k1.output.trans h4,by rw [<-h0];exact k1.size,fun k hk hs=>by
   rw [<-h0]
   exact k1.block k (by rw [h0];exact hk) (fun e=>hs xP)⟩,.inl rfl⟩
 obtain ⟨hxl,h2⟩:=hown
 rcases h2 with ⟨hc,_⟩ | ⟨g',cap',cur,hc,hbg,hgb,hnc,hcm,hcs,htake⟩
 ·cases hc
 cases hc
 have hcm':cap<=9223372036854775807:=by simp only [maxLen] at hcm;omega
 have hsp:∀j,j<(n+1)*3->(w.cell? ⟨g,j,none⟩).isSome=true:=fun j hj=>by
  have:j<cur.size:=by rw [hcs];omega
  simp [World.cell?,hgb,this]
 have hfz:∀j,w.frozen? ⟨g,j,none⟩=false:=fun j=>by simp [World.frozen?,hgb]
 have hcell:∀j u,xs[j]? =some u->w.cell? ⟨g,j,none⟩=some u:=fun j u hj=>by
  have hlt:=(vi.1 hj).1
  rw [<-htake,un,if_pos zj] at hj
  simp [World.cell?,hgb,<-hj]
 have hsb:w.shape? g=some (194,cap*3):=by simp [World.shape?,hgb,hcs]
 have hsz:(prog.info? 194).map (·.size)=some 3:=by
  obtain ⟨i0,hi0,_,h1,_⟩:=info_parts infoLtr
  rw [hi0];simp [h1]
 have hov:∀lb cb,(callFunc 234 #[.slice (some ⟨vb,0,none⟩) 1 1,.slice (some ⟨g,(i+1)*3,none⟩) lb cb]).run prog w= .ok (.value (.bool false)) w:=fun lb cb=>by
  rw [run_callFunc_extern func234 zk zk zk (e:=Extern.SlicesOverlaps.overlaps #[190,190] #[4]) zk,
   Lib.run_overlaps_apart w 190 4 194 underlying190 3 sizeOf194 ⟨vb,0,none⟩ ⟨g,(i+1)*3,none⟩ 1 1 lb cb hvb 194 194 3 (cap*3) hsa hsb zj (hfa 0) (hfa 3)]
  rfl
 have hdl:(xs.drop (i*3)).length=n*3 - i*3:=qu
 have hcp1:∀ty dc sc,(Builtin.copy_ #[190,190] ty #[.slice (some ⟨g,(i+1)*3,none⟩) (n - i) dc,.slice (some ⟨g,i*3,none⟩) (n+1 - i) sc]).run prog w.drew= .ok (goInt ((n - i:Nat):Int)) (w.drew.setCells g ((i+1)*3) (xs.drop (i*3))):=fun ty dc sc=>by
  have hmin:Nat.min (n+1 - i) (n - i)=n - i:=yi
  have:=run_copy_k (P:=prog) w.drew 190 190 ty 194 3 g ((i+1)*3) (n - i) dc ⟨g,i*3,none⟩ (n+1 - i) sc (xs.drop (i*3)) underlying190 hsz qV
   (fun j u hj=>by rw [Addr.add_lit];exact hcell _ u (by rwa [uw] at hj))
   (fun j hj=>hsp _ qM) (fun j _=>hfz _) (fun u hu=>h1x u (uZ hu))
  rw [hmin] at this
  exact this
 obtain ⟨W1,hW1⟩:=za (w.drew.setCells g ((i+1)*3) (xs.drop (i*3)))
 have hsp1:∀j,j<(n+1)*3->(W1.cell? ⟨g,j,none⟩).isSome=true:=fun j hj=>by
  rw [hW1]
  exact isSome_setCells g (xs.drop (i*3)) ((i+1)*3) w.drew (fun t ht=>hsp ((i+1)*3+t) (by rw [hdl] at ht;omega)) _ (hsp j hj)
 have hcp2:∀(W:World),(∀x,W.cell? x=W1.cell? x)->(∀x,W.frozen? x=W1.frozen? x)->∀ty dc,(Builtin.copy_ #[190,190] ty #[.slice (some ⟨g,i*3,none⟩) (n+1 - i) dc,.slice (some ⟨vb,0,none⟩) 1 1]).run prog W= .ok (goInt 1) (W.setCells g (i*3) vs):=fun W hWc hWf ty dc=>by
  have hmin:Nat.min 1 (n+1 - i)=1:=yi
  have:=run_copy_k (P:=prog) W 190 190 ty 194 3 g (i*3) (n+1 - i) dc ⟨vb,0,none⟩ 1 1 vs underlying190 hsz jr
   (fun j u hj=>by
    rw [Addr.add_lit,vO,hWc,hW1,uL g _ _ _ _ (fun h _=>absurd h hvb)]
    exact hvs j u hj)
   (fun j hj=>by rw [hWc];exact hsp1 _ zj) (fun j _=>by rw [hWf,hW1,uU];exact hfz _) h1v
  rw [hmin] at this
  exact this
 rw [<-hW1] at hcp1
 have hw1:IntKind.i64.wrap ((i:Int)+1)=(i:Int)+1:=zv
 have hw2:IntKind.i64.wrap ((n:Int)+1)=(n:Int)+1:=zv
 have hb1:(0:Int)<=(i:Int)+1:=zj
 have hz2:¬((i:Int)=(n:Int)):=zj
 have hin:i<=n:=zj
 have htn:((i:Int)+1).toNat=i+1:=zj
 have htn2:((n:Int)+1).toNat=n+1:=zj
 have hb2:¬(cap=i+1):=zj
 have hb3:(i:Int)<=(n:Int)+1:=zj
 have hb4:¬(cap=i):=zj
 have hb5:¬((cap:Int)<(n:Int)+1):=zj
 clear htake hcs hgb hsp hfz hcell hsb hcm hxl hdl hvs h1v h1x hsa hfa hsp1 hbg
 go_enter func190,ntmps190
 go_wp2_with (simp only [hov])
 have mixed:prog.follows .mixedOrders=true:=zk
 go_region_law_o (refine step_copy_runI rfl _ _ 190 190 rfl _ _ ym ym (hcp1 _ _ _) ?_)
 clear mixed
 go_wp2_with (at_builtin;refine wpList_copy_runI _ rfl _ _ 190 190 rfl _ _ rfl rfl (hcp2 _ (fun _=>rfl) (fun _=>rfl) _ _) ?_)
 go_ret
 subst hW1
 exact hL.o w.drew rfl rfl rfl rfl
theorem linsert_grow (w:World) (base g n cap i:Nat) (xs vs:List Value) (hown:w.ownsRow base 194 3 (.slice (some ⟨g,0,none⟩) n cap) n xs) (hn:n<=1000) (vb:Nat) (hv:vs.length=3)
  (hvs:∀j u,vs[j]? =some u->w.cell? ⟨vb,j,none⟩=some u) (h1v:∀u∈vs,u.oneCell'=true) (h1x:∀u∈xs,u.oneCell'=true) (hbase:base<=w.heap.size)
  (hi:i<n) (hroom:cap<n+1):
  Calls prog 190 #[.slice (some ⟨g,0,none⟩) n cap,.int .i64 i,.slice (some ⟨vb,0,none⟩) 1 1] w (LaidL w base (.slice (some ⟨g,0,none⟩) n cap) n (xs.take (i*3)++vs++xs.drop (i*3))):=by
 obtain ⟨hxl,h2⟩:=hown
 rcases h2 with ⟨hc,_⟩ | ⟨g',cap',cur,hc,hbg,hgb,hnc,hcm,hcs,htake⟩
 ·cases hc
 cases hc
 obtain ⟨i0,hi0,hz0,hzs,hzb⟩:=info_parts infoLtr
 have hcell:∀j u,xs[j]? =some u->w.cell? ⟨g,j,none⟩=some u:=fun j u hj=>by
  have hlt:=(vi.1 hj).1
  rw [<-htake,un,if_pos zj] at hj
  simp [World.cell?,hgb,<-hj]
 have hgw:g<w.heap.size:=(vn.1 hgb).1
 have hvw:vb<w.heap.size:=block_lt_of_cell (hvs 0 _ (vj zj))
 have hsz:(prog.info? 194).map (·.size)=some 3:=by rw [hi0];simp [hzs]
 have htl:(xs.take (i*3)).length=i*3:=by rw [vP,hxl];omega
 have hdl:(xs.drop (i*3)).length=n*3 - i*3:=qu
 have hold:(Builtin.firstCells i0.size i (.slice (some ⟨g,0,none⟩) i cap)).run prog w.drew= .ok (xs.take (i*3)).toArray w.drew:=by
  rw [hzs]
  exact run_firstCells_some w.drew 3 i ⟨g,0,none⟩ i cap (xs.take (i*3)) htl (fun j u hj=>by
   rw [Addr.add_lit,vO]
   rw [un] at hj
   split at hj
   ·exact hcell j u hj
   ·cases hj)
 have hik:i+(n+1 - i)=n+1:=zj
 have hkk:(n:Int)+1 - (i:Int)=((n+1 - i:Nat):Int):=zj
 obtain ⟨Z,hZ⟩:=za ((Value.agg #[.int .i64 0,.int .u8 0,.bool false]).cells)
 have hZs:Z.size=3:=by rw [hZ];rfl
 obtain ⟨G,hG⟩:=za (grownCap w (n+1) cap 194)
 have hGn:n+1<=G:=by rw [hG];exact grownCap_ge w _ _ _
 have hGm:G<=maxLen:=by rw [hG];exact grownCap_le_maxLen w (n+1) cap 194 yM
 obtain ⟨ROW,hROW⟩:∃ROW:Array Value,ROW=(xs.take (i*3)).toArray++Builtin.zeroCells Z (n+1 - i)++Builtin.zeroCells Z (G - (n+1)):=⟨_,rfl⟩
 have hrz:∀ty,(Builtin.append_ #[190,3] ty #[.slice (some ⟨g,0,none⟩) i cap,.int .i64 ((n:Int)+1 - (i:Int))]).run prog w= .ok (.slice (some ⟨w.heap.size,0,none⟩) (n+1) G) (w.drew.alloc (.cells ROW 194)):=fun ty=>by
  have h:=Lib.run_append_grow_zeros w 190 3 ty 194 i0 _ .i64 .i64 underlying190 underlying3 hi0 hz0 (some ⟨g,0,none⟩) i cap (xs.take (i*3)) hold (n+1 - i) zj zj zj zj (by rw [hzb];omega) xM
  rw [hik,<-hG,<-hZ,<-hROW] at h
  rw [hkk]
  exact h
 have hRs:ROW.size=G*3:=by
  rw [hROW]
  simp only [Array.size_append,vY,htl,size_zeroCells,hZs]
  omega
 have hRl:∃Y,ROW.toList=xs.take (i*3)++Y:=⟨(Builtin.zeroCells Z (n+1 - i)++Builtin.zeroCells Z (G - (n+1))).toList,by rw [hROW];simp⟩
 obtain ⟨W1,hW1⟩:=za (w.drew.alloc (.cells ROW 194))
 rw [<-hW1] at hrz
 have hN:∀j,j<(n+1)*3->(W1.cell? ⟨w.heap.size,j,none⟩).isSome=true:=fun j hj=>by
  rw [hW1,World.cell?_alloc_at (w:=w.drew) ROW _ w.heap.size j rfl,Ze zj];rfl
 have hNf:∀j,W1.frozen? ⟨w.heap.size,j,none⟩=false:=fun j=>by rw [hW1];exact World.frozen?_alloc_at (w:=w.drew) ROW _ w.heap.size j rfl
 have hOb:∀j u,w.cell? ⟨g,j,none⟩=some u->W1.cell? ⟨g,j,none⟩=some u:=fun j u h=>by rw [hW1,ZE (w:=w.drew) _ g j hgw];exact h
 have hOv:∀j u,w.cell? ⟨vb,j,none⟩=some u->W1.cell? ⟨vb,j,none⟩=some u:=fun j u h=>by rw [hW1,ZE (w:=w.drew) _ vb j hvw];exact h
 have hcpA:∀(W:World),(∀x,W.cell? x=W1.cell? x)->(∀x,W.frozen? x=W1.frozen? x)->∀ty dc,(Builtin.copy_ #[190,190] ty #[.slice (some ⟨w.heap.size,i*3,none⟩) (n+1 - i) dc,.slice (some ⟨vb,0,none⟩) 1 1]).run prog W= .ok (goInt 1) (W.setCells w.heap.size (i*3) vs):=fun W hWc hWf ty dc=>by
  have hmin:Nat.min 1 (n+1 - i)=1:=yi
  have:=run_copy_k (P:=prog) W 190 190 ty 194 3 w.heap.size (i*3) (n+1 - i) dc ⟨vb,0,none⟩ 1 1 vs underlying190 hsz jr
   (fun j u hj=>xr)
   (fun j hj=>by rw [hWc];exact hN _ zj) (fun j _=>by rw [hWf];exact hNf _) h1v
  rw [hmin] at this
  exact this
 have hgN:g≠w.heap.size:=zj
 have hcpB:∀(W:World),(∀x,W.cell? x=(W1.setCells w.heap.size (i*3) vs).cell? x)->(∀x,W.frozen? x=(W1.setCells w.heap.size (i*3) vs).frozen? x)->∀ty dc sc,(Builtin.copy_ #[190,190] ty #[.slice (some ⟨w.heap.size,(i+1)*3,none⟩) (n - i) dc,.slice (some ⟨g,i*3,none⟩) (n - i) sc]).run prog W= .ok (goInt ((n - i:Nat):Int)) (W.setCells w.heap.size ((i+1)*3) (xs.drop (i*3))):=fun W hWc hWf ty dc sc=>by
  have hmin:Nat.min (n - i) (n - i)=n - i:=by simp [Nat.min_def]
  have:=run_copy_k (P:=prog) W 190 190 ty 194 3 w.heap.size ((i+1)*3) (n - i) dc ⟨g,i*3,none⟩ (n - i) sc (xs.drop (i*3)) underlying190 hsz qV
   (fun j u hj=>by
    rw [Addr.add_lit,hWc,uL _ _ _ _ _ (fun h _=>absurd h hgN)]
    exact hOb _ u (hcell _ u (by rwa [uw] at hj)))
   (fun j hj=>by rw [hWc];exact isSome_setCells w.heap.size vs (i*3) W1 (fun t ht=>hN _ zj) _ (hN _ qM))
   (fun j _=>by rw [hWf,uU];exact hNf _) (fun u hu=>h1x u (uZ hu))
  rw [hmin] at this
  exact this
 have hL:Aside (∀W:World,W.heap=W1.heap->W.os=w.os->W.tape=w.tape->W.output=w.output->LaidL w base (.slice (some ⟨g,0,none⟩) n cap) n (xs.take (i*3)++vs++xs.drop (i*3)) (.returned (.slice (some ⟨w.heap.size,0,none⟩) (n+1) G)) ((W.setCells w.heap.size (i*3) vs).setCells w.heap.size ((i+1)*3) (xs.drop (i*3)))):=by
  intro W h0 h2 h3 h4
  have hgW:W.heap[w.heap.size]? =some (.cells ROW 194 (0,0)):=jT
  obtain ⟨Y,hY⟩:=hRl
  have k1:=(setCells_keeps w.heap.size vs (i*3) W).trans (setCells_keeps w.heap.size (xs.drop (i*3)) ((i+1)*3) _)
  have hWs:W.heap.size=w.heap.size+1:=by rw [h0,hW1];simp
  exact ⟨_,rfl,owns_newIn hgW hY hRs hbase hGn hGm zj hxl hv,⟨k1.os.trans h2,k1.tape.trans h3,k1.output.trans h4,by have:=k1.size;omega,fun k hk hs=>by
   refine (k1.block k zj zj).trans ?_
   rw [h0,hW1]
   exact vy w.drew _ k hk⟩,.inr rfl⟩
 have hG63:G<=9223372036854775807:=by unfold maxLen at hGm;omega
 have hGi:¬(G=i):=zj
 have hGim:¬(G=i+1):=zj
 have hci:¬(cap=i):=zj
 have hw1:IntKind.i64.wrap ((i:Int)+1)=(i:Int)+1:=zv
 have hw2:IntKind.i64.wrap ((n:Int)+1)=(n:Int)+1:=zv
 have hw3:IntKind.i64.wrap ((n:Int)+1 - (i:Int))=(n:Int)+1 - (i:Int):=zv
 have hb1:(0:Int)<=(i:Int)+1:=zj
 have hz2:¬((i:Int)=(n:Int)):=zj
 have hin:i<=n:=zj
 have hin2:i<=cap:=zj
 have htn:((i:Int)+1).toNat=i+1:=zj
 have hb5:((cap:Int)<(n:Int)+1):=zj
 have hb6:¬((n:Int)+1<=(cap:Int)):=zj
 have hE1:∀x,((w.alloc (.cells ROW 194)).drew).cell? x=(w.drew.alloc (.cells ROW 194)).cell? x:=fun x=>rfl
 have hE2:∀x,((w.alloc (.cells ROW 194)).drew).frozen? x=(w.drew.alloc (.cells ROW 194)).frozen? x:=fun x=>rfl
 subst hW1
 have hF1:∀x,(((w.alloc (.cells ROW 194)).drew.setCells w.heap.size (i*3) vs).drew).cell? x=((w.drew.alloc (.cells ROW 194)).setCells w.heap.size (i*3) vs).cell? x:=fun x=>rfl
 have hF2:∀x,(((w.alloc (.cells ROW 194)).drew.setCells w.heap.size (i*3) vs).drew).frozen? x=((w.drew.alloc (.cells ROW 194)).setCells w.heap.size (i*3) vs).frozen? x:=fun x=>rfl
 clear htake hcs hgb hcell hcm hxl hdl htl hvs h1v h1x hbg hold hROW hG hRs hRl hN hNf hOb hOv hik hkk hGm hZ hZs hgw hvw
 go_enter func190,ntmps190
 go_wp2_with (first
  | (at_builtin;refine Lib.wpList_append_run _ rfl _ _ _ _ rfl _ _ rfl rfl _ _ (hrz _) ?_)
  | (at_builtin;refine wpList_copy_runI _ rfl _ _ 190 190 rfl _ _ rfl rfl (hcpA _ hE1 hE2 _ _) ?_))
 have mixed:prog.follows .mixedOrders=true:=zk
 go_region_law_o (refine step_copy_runI rfl _ _ 190 190 rfl (.slice (some ⟨w.heap.size,(i+1)*3,none⟩) (n - i) (G - (i+1))) (.slice (some ⟨g,i*3,none⟩) (n - i) (cap - i)) ym ym (hcpB _ hF1 hF2 3 (G - (i+1)) (cap - i)) ?_)
 clear mixed
 go_wp2
 go_ret
 rw [drew_setCells]
 exact hL.o ((w.alloc (.cells ROW 194)).drew.drew) rfl rfl rfl rfl
theorem layLtr_any (w:World) (base n i:Nat) (v:Value) (xs vs:List Value) (hown:w.ownsRow base 194 3 v n xs) (hn:n<=1000) (vb:Nat) (hv:vs.length=3)
  (hvs:∀j u,vs[j]? =some u->w.cell? ⟨vb,j,none⟩=some u) (h1v:∀u∈vs,u.oneCell'=true) (h1x:∀u∈xs,u.oneCell'=true) (hvb:some vb≠v.ownBlock) (hsa:w.shape? vb=some (194,3)) (hfa:∀j,w.frozen? ⟨vb,j,none⟩=false) (hbase:base<=w.heap.size) (hi:i<=n):
  Calls prog 190 #[v,.int .i64 i,.slice (some ⟨vb,0,none⟩) 1 1] w (LaidL w base v n (xs.take (i*3)++vs++xs.drop (i*3))):=by
 by_cases he:i=n
 ·subst he
  have e1:xs.take (i*3)=xs:=vG xp
  have e2:xs.drop (i*3)= []:=uT xp
  rw [e1,e2,ur]
  exact linsert_end w base v i xs vs hown hn vb hv hvs h1v hbase
 have hown':=hown
 rcases hown.2 with ⟨rfl,rfl⟩ | ⟨g,cap,cur,rfl,-⟩
 ·omega
 by_cases hroom:n+1<=cap
 ·exact linsert_room w base g n cap i xs vs hown hn vb hv hvs h1v h1x (fun e=>hvb xP) hsa hfa zj hroom
 exact linsert_grow w base g n cap i xs vs hown hn vb hv hvs h1v h1x hbase zj zj
end
section
open Go.RowKit Go.Lib Go.Sort
def encL (l:Ltr):List Value:=[.int .i64 l.1,.int .u8 (l.2.1:Int),.bool (!l.2.2)]
theorem encL_len (l:Ltr):(encL l).length=3:=rfl
theorem encL_one (l:Ltr):∀v∈encL l,v.oneCell'=true:=by
 intro v hv
 simp [encL] at hv
 rcases hv with rfl | rfl | rfl<;>rfl
theorem cellStays (hb:Below w.heap.size w w') (h:w.cell? ⟨b,o,none⟩=some v):w'.cell? ⟨b,o,none⟩=some v:=by
 rw [hb.cell (p:=⟨b,o,none⟩) (vp w ⟨b,o,none⟩ h)];exact h
def LtrsIn (w:World) (ao:Option Addr) (zs:List Ltr):Prop:=zs= []\/∃blk off,ao=some ⟨blk,off,none⟩/\∀j u,(flat encL zs)[j]? =some u->w.cell? ⟨blk,off+j,none⟩=some u
theorem LtrsIn.later (h:LtrsIn w ao zs) (hb:Below w.heap.size w w'):LtrsIn w' ao zs:=by
 rcases h with h | ⟨g,o,h1,h2⟩
 ·exact .inl h
 exact .inr ⟨g,o,h1,fun j u hj=>cellStays hb (h2 j u hj)⟩
theorem LtrsIn.at (h:LtrsIn w ao zs) {a:Int} {c:Nat} {g:Bool} (hi:zs[i]? =some (a,c,g)):∃blk off,ao=some ⟨blk,off,none⟩/\w.cell? ⟨blk,off+i*3,none⟩=some (.int .i64 a)/\w.cell? ⟨blk,off+i*3+1,none⟩=some (.int .u8 (c:Int))/\w.cell? ⟨blk,off+i*3+2,none⟩=some (.bool (!g)):=by
 rcases h with h | ⟨b,o,h1,h2⟩
 ·subst h;simp at hi
 have hg:=fun k hk=>flat_get (enc:=encL) (k:=3) encL_len (c:=k) hi hk
 refine ⟨b,o,h1,?_,?_,?_⟩
 ·exact h2 (i*3+0) _ (hg 0 zj)
 ·rw [uY];exact h2 _ _ (hg 1 zj)
 rw [uY];exact h2 _ _ (hg 2 zj)
def PredL (g:Nat) (lb:Array Value) (p:Ltr->Bool) (w:World):Prop:=
 ∀(W:World) (a:Int) (c:Nat) (gn:Bool),Below w.heap.size w W->Calls prog g (#[.agg #[.int .i64 a,.int .u8 (c:Int),.bool (!gn)]]++lb) W fun e w'=>e= .returned (.bool (p (a,c,gn)))/\Below w.heap.size w w'
theorem idxFunc_any (p:Ltr->Bool) (g:Nat) (lb:Array Value) (eg:∀args w,(callFunc g args).run prog w= .ok (.enter g args) w) (ao:Option Addr) (cap:Nat) (zs:List Ltr) (w:World) (hp:PredL g lb p w) (hbig:zs.length<=1000000) (hin:LtrsIn w ao zs):
  Calls prog 232 #[.slice ao zs.length cap,.func (.func g) #[] lb] w fun e w'=>∃r:Int,e= .returned (.int .i64 r)/\Aside (IdxIs p zs r/\Below w.heap.size w w'):=by
 have HP:Aside (PredL g lb p w):=hp
 have HI:Aside (LtrsIn w ao zs):=hin
 clear hp hin
 go_enter func232,ntmps232
 go_wp2
 go_loopg [5,8] zs.length (fun kx _ s8 wr=>∃(k:Nat),s8= .int .i64 (k:Int)/\k<=zs.length/\zs.length - k<=kx/\Aside (Below w.heap.size w wr/\∀j l,j<k->zs[j]? =some l->p l=false))
 case atStart=>exact ⟨0,rfl,vD _,vm _,⟨vu _ w,fun j l hj=>zj⟩⟩
 case round=>
  obtain ⟨k,rfl,hk,hkx,A⟩:=hrel
  by_cases hlt:k<zs.length
  ·have hltz:decide ((k:Int)<(zs.length:Int))=true:=by simp;omega
   have ek:((k:Int)).toNat=k:=zj
   have pk:(0:Int)<=(k:Int):=zj
   have bk:(k:Int)<(zs.length:Int):=zj
   obtain ⟨⟨a,c,gn⟩,hl⟩:∃l,Aside (zs[k]? =some l):=⟨zs[k],vj hlt⟩
   obtain ⟨blk,off,rfl,c0,c1,c2⟩:=(HI.o.later A.o.1).at hl.o
   have hcall:=HP.o wr a c gn A.o.1
   cases hq:p (a,c,gn) with
   | true=>
    rw [hq] at hcall
    have HQ:=Lib.hid hq
    clear hq
    go_wp2_with (go_at_fn g;refine hcall.mono ?_;rintro e w' ⟨rfl,hb'⟩)
    go_ret
    exact ⟨_,rfl,.inr ⟨k,_,rfl,hl.o,HQ.o,A.o.2⟩,hb'⟩
   | false=>
    rw [hq] at hcall
    have HQ:=Lib.hid hq
    clear hq
    go_wp2_with (go_at_fn g;refine hcall.mono ?_;rintro e w' ⟨rfl,hb'⟩)
    go_roundg (zs.length - (k+1))
    case measure=>omega
    case rel=>
     refine ⟨k+1,zL,zj,vm _,⟨hb',fun j l hj e=> ?_⟩⟩
     rcases uK j k with h | h
     ·exact A.o.2 j l h e
     obtain rfl:j=k:=zj
     rw [hl.o] at e
     cases e
     exact HQ.o
  have hltz:decide ((k:Int)<(zs.length:Int))=false:=zl
  go_wp2
  go_ret
  refine ⟨_,rfl,.inl ⟨rfl,fun l hl=> ?_⟩,A.o.1⟩
  obtain ⟨j,hj,rfl⟩:=uB hl
  exact A.o.2 j _ zj (vj hj)
theorem find1_is (id:Int) (B:Nat) (w:World) (hB:B<w.heap.size) (hc:w.cell? ⟨B,0,none⟩=some (.int .i64 id)):PredL 233 #[.pointer (some ⟨B,0,none⟩)] (fun l=>decide (l.1=id)) w:=fun W a c gn hb=>by
 have hc':W.cell? ⟨B,0,none⟩=some (.int .i64 id):=(hb.cell (p:=⟨B,0,none⟩) hB).trans hc
 have hBW:B<W.heap.size:=vJ hB hb.size
 have hne:B≠W.heap.size:=zj
 clear hc
 show Calls prog 233 #[.agg #[.int .i64 a,.int .u8 (c:Int),.bool (!gn)],.pointer (some ⟨B,0,none⟩)] W _
 go_enter func233,ntmps233
 go_wp2
 all_goals (go_ret;exact ⟨by simp [BEq.beq],hb.alloc hb.size _⟩)
theorem pass1_is (id:Int) (B:Nat) (w:World) (hB:B<w.heap.size) (hc:w.cell? ⟨B,0,none⟩=some (.int .i64 id)):PredL 236 #[.pointer (some ⟨B,0,none⟩)] (fun l=>decide (l.1<id)) w:=fun W a c gn hb=>by
 have hc':W.cell? ⟨B,0,none⟩=some (.int .i64 id):=(hb.cell (p:=⟨B,0,none⟩) hB).trans hc
 have hBW:B<W.heap.size:=vJ hB hb.size
 have hne:B≠W.heap.size:=zj
 clear hc
 show Calls prog 236 #[.agg #[.int .i64 a,.int .u8 (c:Int),.bool (!gn)],.pointer (some ⟨B,0,none⟩)] W _
 go_enter func236,ntmps236
 go_wp2
 all_goals (go_ret;exact ⟨rfl,hb.alloc hb.size _⟩)
structure LineAt (base:Nat) (w:World) (p:Nat) (v:Value) (L:List Ltr):Prop where
 cell:w.heap[p]? =some (.cells #[v] 192 (0,0))
 row:w.ownsRow base 194 3 v L.length (flat encL L)
 low:p<base
 nodup:(L.map (·.1)).Nodup
 pos:∀l∈L,l.1≠0
 small:∀l∈L,l.2.1<256
theorem LineAt.c0 {base:Nat} (h:LineAt base w p v L):w.cell? ⟨p,0,none⟩=some v:=by simp [World.cell?,h.cell]
theorem LineAt.fz {base:Nat} (h:LineAt base w p v L):w.frozen? ⟨p,0,none⟩=false:=by simp [World.frozen?,h.cell]
theorem LineAt.lt {base:Nat} (h:LineAt base w p v L):p<w.heap.size:=(vn.1 h.cell).1
theorem ownsSame {base:Nat} (h:w.ownsRow base e k v n xs) (hs:∀g,v.ownBlock=some g->w'.heap[g]? =w.heap[g]?):w'.ownsRow base e k v n xs:=by
 refine ⟨h.1,?_⟩
 rcases h.2 with h0 | ⟨g,cap,cur,rfl,h1,hg,h2⟩
 ·exact .inl h0
 exact .inr ⟨g,cap,cur,rfl,h1,(hs g rfl).trans hg,h2⟩
theorem LineAt.same {base:Nat} (h:LineAt base w p v L) (h1:w'.heap[p]? =w.heap[p]?) (h2:∀g,v.ownBlock=some g->w'.heap[g]? =w.heap[g]?):LineAt base w' p v L:=
 ⟨h1.trans h.cell,ownsSame h.row h2,h.low,h.nodup,h.pos,h.small⟩
theorem LineAt.later {base:Nat} (h:LineAt base w p v L) (hb:Below w.heap.size w w'):LineAt base w' p v L:=
 h.same (hb.block _ h.lt) (fun g hg=>hb.block g (h.row.lt g hg).2)
theorem rowShape {base:Nat} (h:w.ownsRow base e k v n xs):∃ao cap,v= .slice ao n cap:=by
 rcases h.2 with ⟨h1,h2⟩ | ⟨g,cap,cur,rfl,_⟩
 ·subst h2;exact ⟨_,_,h1⟩
 exact ⟨_,_,rfl⟩
theorem lrowIn {base:Nat} {cap:Nat} (h:w.ownsRow base 194 3 (.slice ao L.length cap) L.length (flat encL L)):LtrsIn w ao L:=by
 have h':=h
 rcases h.2 with ⟨h1,h2⟩ | ⟨g,cap',cur,hv,_⟩
 ·exact .inl (vM.1 h2)
 cases hv
 refine .inr ⟨g,0,rfl,fun j u hj=> ?_⟩
 have hl:j<(flat encL L).length:=(vi.1 hj).1
 rw [flat_len encL_len] at hl
 rw [vO,h'.cellAt j hl,hj]
theorem lineNew (w:World):Calls prog 132 #[] w fun e w'=>e= .returned (.pointer (some ⟨w.heap.size,0,none⟩))/\w'=w.alloc (.cells #[.slice none 0 0] 192):=by
 go_enter func132,ntmps132
 go_wp2
 go_ret
 exact ⟨rfl,rfl⟩
theorem lfind_any (w:World) (base p:Nat) (v:Value) (L:List Ltr) (id:Int) (h:LineAt base w p v L) (hL:L.length<=1000):
  Calls prog 189 #[.pointer (some ⟨p,0,none⟩),.int .i64 id] w fun e w'=>e= .returned (.int .i64 (findI id L))/\Below w.heap.size w w':=by
 obtain ⟨ao,cap,rfl⟩:=rowShape h.row
 have eg:∀args w,(callFunc 233 args).run prog w= .ok (.enter 233 args) w:=enters_of func233 zk rfl
 have hbx:Below w.heap.size w (w.alloc (.cells #[.int .i64 id] 3)):=zh w _
 have hc:=idxFunc_any (fun l=>decide (l.1=id)) 233 #[.pointer (some ⟨w.heap.size,0,none⟩)] eg ao cap L (w.alloc (.cells #[.int .i64 id] 3)) (find1_is id w.heap.size _ zm ye) zj ((lrowIn h.row).later hbx)
 have c0:=h.c0
 have hpl:=h.lt
 have HB:=Lib.hid hbx
 clear h eg hbx
 go_enter func189,ntmps189
 go_wp2_with fail
 refine hc.mono ?_
 rintro e w1 ⟨r,rfl,hr⟩
 go_wp2
 go_ret
 exact ⟨by rw [findI_is hr.o.1];rfl,HB.o.trans (hr.o.2.mono zm)⟩
theorem pass_any (w:World) (base p k:Nat) (v:Value) (L:List Ltr) (id:Int) (h:LineAt base w p v L) (hL:L.length<=1000) (hk:k<=L.length) (hn:id∉L.map (·.1)):
  Calls prog 191 #[.pointer (some ⟨p,0,none⟩),.int .i64 (k:Int),.int .i64 id] w fun e w'=>e= .returned (.int .i64 ((k+skipN id (L.drop k):Nat):Int))/\Below w.heap.size w w':=by
 have HN:Aside (id∉(L.drop k).map (·.1)):=fun hm=>hn (by
  obtain ⟨l,hl,e⟩:=vV.1 hm
  exact vV.2 ⟨l,uZ hl,e⟩)
 have HS:Aside (skipN id (L.drop k)<=L.length - k):=by have:=skipN_le id (L.drop k);rwa [ua] at this
 obtain ⟨ao,cap,rfl⟩:=rowShape h.row
 have hLc:L.length<=cap:=by
  rcases h.row.2 with ⟨h1,h2⟩ | ⟨g,cap',cur,hv,_,_,h3,_⟩
  ·omega
  cases hv;exact h3
 have eg:∀args w,(callFunc 236 args).run prog w= .ok (.enter 236 args) w:=enters_of func236 zk rfl
 have hbx:Below w.heap.size w (w.alloc (.cells #[.int .i64 id] 3)):=zh w _
 have hdl:(L.drop k).length=L.length - k:=ua
 have hc:∀ap,LtrsIn w ap (L.drop k)->Calls prog 232 #[.slice ap (L.length - k) (cap - k),.func (.func 236) #[] #[.pointer (some ⟨w.heap.size,0,none⟩)]] (w.alloc (.cells #[.int .i64 id] 3)) _:=fun ap hap=>by
  have:=idxFunc_any (fun l=>decide (l.1<id)) 236 #[.pointer (some ⟨w.heap.size,0,none⟩)] eg ap (cap - k) (L.drop k) (w.alloc (.cells #[.int .i64 id] 3)) (pass1_is id w.heap.size _ zm ye) (by rw [hdl];omega) (hap.later hbx)
  rw [hdl] at this
  exact this
 have c0:=h.c0
 have hpl:=h.lt
 have HI:Aside (LtrsIn w ao L):=lrowIn h.row
 have HB:=Lib.hid hbx
 clear h eg hbx
 obtain ⟨q,hq⟩:∃q,Aside (skipN id (L.drop k)=q):=⟨_,rfl⟩
 rw [hq.o] at HS |-
 have hq2:q<=L.length - k:=HS.o
 have d0:decide ((q:Int)<0)=false:=zm
 have e0:IntKind.i64.wrap ((k:Int)+(q:Int))=(k:Int)+(q:Int):=zv
 have HD:=Lib.hid hdl
 clear hdl HS
 go_enter func191,ntmps191
 go_wp2_with fail
 ·have hd0:L.drop k= []:=uT zj
  have hc':=hc ao (.inl hd0)
  rw [show cap - k=0 by omega] at hc'
  have hf:L.length=k+q:=by rw [<-hq.o,hd0];simp only [skipN];omega
  have HF:=Lib.hid hf
  have hck:cap=k:=zq
  have c0':w.cell? ⟨p,0,none⟩=some (Value.slice ao L.length k):=by rw [<-hck];exact c0
  refine hc'.mono ?_
  rintro e w1 ⟨r,rfl,hr⟩
  have hr1:r= -1:=by
   rcases hr.o.1 with ⟨h,_⟩ | ⟨i,l,_,hl,_⟩
   ·exact h
   rw [hd0] at hl;simp at hl
  subst hr1
  have hB1:Below w.heap.size w w1:=HB.o.trans (hr.o.2.mono zm)
  have c1:=cellStays hB1 c0'
  have H1:=Lib.hid hB1
  clear hB1 hr hc' hf hd0 hck c0 c0' hc hLc
  go_wp2
  go_ret
  exact ⟨by rw [HF.o];rfl,H1.o⟩
 have hLp:LtrsIn w (ao.map (fun x=>x.add (k*3))) (L.drop k):=by
  rcases HI.o with h0 | ⟨b,o,rfl,hcell⟩
  ·subst h0;exact .inl zm
  refine .inr ⟨b,o+k*3,by simp [Addr.add],fun j u hj=> ?_⟩
  rw [<-flat_drop encL_len L k hk,uw] at hj
  rw [uY]
  exact hcell _ u hj
 refine (hc _ hLp).mono ?_
 clear hc HI hLp
 rintro e w1 ⟨r,rfl,hr⟩
 have hB1:Below w.heap.size w w1:=HB.o.trans (hr.o.2.mono zm)
 have c1:=cellStays hB1 c0
 have H1:=Lib.hid hB1
 rcases skip_is HN.o hr.o.1 with ⟨rfl,hs⟩ | hs
 ·have hf:L.length=k+q:=by rw [hq.o,HD.o] at hs;omega
  have HF:=Lib.hid hf
  clear hB1 hr hs hf
  go_wp2
  go_ret
  exact ⟨by rw [HF.o];rfl,H1.o⟩
 rw [hq.o] at hs
 subst hs
 clear hB1 hr
 go_wp2
 go_ret
 exact ⟨zm,H1.o⟩
end
section
open Go.RowKit Go.Shelf
attribute [local go_sem] Oper.semAt_some
def encE (x:Ent):List Value:=[.int .i64 x.1.1.1,.int .i64 x.1.1.2,.int .i64 x.1.2.1,.int .i64 x.1.2.2.1,.string x.1.2.2.2,.int .i64 x.2.1,.int .i64 x.2.2.1,.string x.2.2.2]
theorem encE_len (x:Ent):(encE x).length=8:=rfl
theorem encE_one (x:Ent):∀v∈encE x,v.oneCell'=true:=by
 intro v hv
 simp only [encE,vz,Zc,or_false] at hv
 rcases hv with rfl | rfl | rfl | rfl | rfl | rfl | rfl | rfl<;>rfl
def zeroE:Ent:=(((0,0),zeroP),zeroP)
def entR (L:List Ent) (r:Nat):Ent:=L.getD (L.length - 1 - r) zeroE
def encR (L:List Ent) (r:Nat):Array Value:= #[.int .i64 ((L.length - 1 - r:Nat):Int),.agg #[.int .i64 (entR L r).1.1.1,.int .i64 (entR L r).1.1.2,.int .i64 (entR L r).1.2.1,.int .i64 (entR L r).1.2.2.1,.string (entR L r).1.2.2.2,.int .i64 (entR L r).2.1,.int .i64 (entR L r).2.2.1,.string (entR L r).2.2.2]]
def KeepTwo (g h:Nat) (W W':World):Prop:=W'.heap[g]? =W.heap[g]? /\W'.heap[h]? =W.heap[h]?
theorem KeepTwo.refl (g h:Nat) (W:World):KeepTwo g h W W:=⟨rfl,rfl⟩
theorem KeepTwo.trans {g h:Nat} {A B C:World} (x:KeepTwo g h A B) (y:KeepTwo g h B C):KeepTwo g h A C:=⟨y.1.trans x.1,y.2.trans x.2⟩
theorem KeepTwo.put (hg:g<N) (hh:h<N) (W:World) (l:Nat) (o':Obj) (hl:N<=l):KeepTwo g h W (W.putObj l o'):=
 ⟨World.putObj_heap_other zj,World.putObj_heap_other zj⟩
def RowAt (W:World) (g off:Nat) (L:List Ent):Prop:=∀j u,(flat encE L)[j]? =some u->W.cell? ⟨g,off+j,none⟩=some u
theorem RowAt.same {off:Nat} {L:List Ent} (h:RowAt W g off L) (e:W'.heap[g]? =W.heap[g]?):RowAt W' g off L:=fun j u hj=>by
 have:=h j u hj
 rw [<-this]
 exact vI (a:=⟨g,off+j,none⟩) e
theorem RowAt.at {off:Nat} {L:List Ent} (h:RowAt W g off L) (hx:L[i]? =some x) (c:Nat) (hu:(encE x)[c]? =some u):W.cell? ⟨g,off+i*8+c,none⟩=some u:=by
 have hc:c<8:=by have:=(vi.1 hu).1;rwa [encE_len] at this
 rw [uY]
 exact h _ u (by rw [flat_get encE_len hx hc];exact hu)
theorem back1_in (F:Fence) (n:Nat) (h7:F.fn 263) (hro:F.round=none) (hn:1<=n) (l Bs g off cap:Nat) (ao:Option Addr) (L:List Ent) (hlen:L.length<=1000) (hao:L= []\/ao=some ⟨g,off,none⟩) (J Jx:List Nat->World->Prop)
  (hY:∀pre x W,J pre W->pre.length<L.length->YieldAt F (n - 1) prog l (encR L x) W fun e W'=>
   (e= .returned (.bool true)/\J (pre++ [x]) W'/\KeepTwo g Bs W W')\/(e= .returned (.bool false)/\Jx (pre++ [x]) W'))
  (W:World) (hBs:W.cell? ⟨Bs,0,none⟩=some (.slice ao L.length cap)) (hc:RowAt W g off L) (h0:J [] W):
  CallsIn F n prog 263 #[.func (.yield l) #[] #[],.pointer (some ⟨Bs,0,none⟩)] W fun e W'=>(∃v,e= .returned v)/\
   ((∃ys,ys=List.range L.length/\J ys W')\/(∃pre,(∃k,k<=L.length/\pre=List.range k)/\Jx pre W')):=by
 refine callsIn_of_wp func263 rfl h7 ?_ hro
 simp only [ntmps263,vY,vH,vT,Nat.reduceAdd,Nat.reduceSub,ul,um,uy,uo,uA,ux]
 have hw0:IntKind.i64.wrap ((L.length:Int) - 1)=(L.length:Int) - 1:=zv
 gi_wp2
 gi_loopw [3] (fun i wr=>∃k:Nat,k<=L.length/\i= .int .i64 ((L.length:Int) - 1 - k)/\J (List.range k) wr/\KeepTwo g Bs W wr)
  (fun i _=>(intOf i+1).toNat)
 case atStart=>exact ⟨0,vD _,zm,h0,KeepTwo.refl _ _ _⟩
 case round=>
  obtain ⟨k,hk,rfl,hJs,hnx⟩:=hrel
  have hBs':wr.cell? ⟨Bs,0,none⟩=some (.slice ao L.length cap):=(vI (a:=⟨Bs,0,none⟩) hnx.2).trans hBs
  by_cases hlt:k<L.length
  ·have hao':ao=some ⟨g,off,none⟩:=hao.resolve_left (fun e=>by rw [e] at hlt;simp at hlt)
   subst hao'
   obtain ⟨fn,tmps,assign,body,hy,hR⟩:=hY _ k wr hJs (by rw [List.length_range];exact hlt)
   have hix:L[L.length - 1 - k]? =some (entR L k):=by
    unfold entR
    rw [Zs,vj zj]
    rfl
   have hrow:=hc.same hnx.1
   obtain ⟨x,hx⟩:=za (entR L k)
   rw [<-hx] at hix
   obtain ⟨i,hi⟩:=za (L.length - 1 - k)
   have hil:(L.length:Int) - 1 - k=(i:Int):=zj
   have hilt:i<L.length:=zj
   unfold encR at hy
   rw [<-hx,<-hi] at hy
   rw [<-hi] at hix
   have c0:wr.cell? ⟨g,off+i*8,none⟩=some (.int .i64 x.1.1.1):=hrow.at hix 0 (u:=.int .i64 x.1.1.1) rfl
   have c1:=hrow.at hix 1 (u:=.int .i64 x.1.1.2) rfl
   have c2:=hrow.at hix 2 (u:=.int .i64 x.1.2.1) rfl
   have c3:=hrow.at hix 3 (u:=.int .i64 x.1.2.2.1) rfl
   have c4:=hrow.at hix 4 (u:=.string x.1.2.2.2) rfl
   have c5:=hrow.at hix 5 (u:=.int .i64 x.2.1) rfl
   have c6:=hrow.at hix 6 (u:=.int .i64 x.2.2.1) rfl
   have c7:=hrow.at hix 7 (u:=.string x.2.2.2) rfl
   rw [hil]
   have hw1:IntKind.i64.wrap ((i:Int) - 1)=(i:Int) - 1:=zv
   have hi0:(0:Int)<=(i:Int):=zj
   have hib:(i:Int)<(L.length:Int):=zj
   have HK:Aside (i=L.length - 1 - k/\k<L.length/\KeepTwo g Bs W wr):=⟨hi,hlt,hnx⟩
   have hR':Aside (RoundIn F (n - 1) prog l fn tmps assign body wr fun e W'=>(e= .returned (.bool true)/\J (List.range k++ [k]) W'/\KeepTwo g Bs wr W')\/(e= .returned (.bool false)/\Jx (List.range k++ [k]) W')):=hR
   clear hi hil hlt hk hix hx hR hrow hnx hJs hY h0
   gi_wp2
   refine hR'.o.mono ?_
   rintro e W3 (⟨rfl,hJ3,hk3⟩ | ⟨rfl,hJx3⟩)
   ·gi_wp2
    go_roundw
    case rel=>exact ⟨k+1,xB,by have:=HK.o;congr 1;omega,by rw [Zg];exact hJ3,HK.o.2.2.trans hk3⟩
    case measure=>have:=HK.o;simp [intOf]
   gi_wp2
   refine bodyPost_ret (results_none rfl _ _ _) rfl ?_
   exact ⟨⟨_,rfl⟩,.inr ⟨_,⟨k+1,xB,(Zg).symm⟩,hJx3⟩⟩
  obtain rfl:k=L.length:=zj
  gi_wp2
  go_end0
  exact ⟨⟨_,rfl⟩,.inl ⟨_,rfl,hJs⟩⟩
end
section
open Go.RowKit Go.Shelf
attribute [local go_sem] Oper.semAt_some
theorem eqSt (a b c d:Int) (w:World):(Op.equalIn 10000 39 (.agg #[.int .i64 a,.int .i64 b]) (.agg #[.int .i64 c,.int .i64 d])).run prog w= .ok (decide ((a,b)=(c,d))) w:=by
 go_simp
 by_cases h1:a=c<;>by_cases h2:b=d<;>simp [h1,h2]
theorem lessB_iff (a b:Int×Int):lessB a.1 a.2 b.1 b.2=true↔SLt a b:=by
 unfold lessB SLt
 split<;>simp<;>omega
theorem back_in (F:Fence) (n:Nat) (h5:F.fn 229) (hro:F.round=none) (a:Option Addr) (len cap:Nat) (w:World):
  CallsIn F n prog 229 #[.slice a len cap] w fun e w'=>e= .returned (.func (.func 263) #[] #[.pointer (some ⟨w.heap.size,0,none⟩)])/\w'=w.alloc (.cells #[.slice a len cap] 133):=by
 refine callsIn_of_wp func229 rfl h5 ?_ hro
 simp only [ntmps229,vY,vH,vT,Nat.reduceAdd,Nat.reduceSub,ul,um,uy,uo,uA,ux]
 gi_wp2
 go_ret
 exact ⟨rfl,rfl⟩
theorem back_stops (F:Fence) (n:Nat) (h7:F.fn 263) (hro:F.round=none) (hn:1<=n) (Bs g off cap:Nat) (ao:Option Addr) (L:List Ent) (hlen:L.length<=1000) (hao:L= []\/ao=some ⟨g,off,none⟩) (w:World) (hBs:Bs<w.heap.size) (hg:g<w.heap.size)
  (hc:w.cell? ⟨Bs,0,none⟩=some (.slice ao L.length cap)) (hI:RowAt w g off L):
  SeqStopsK F n prog 263 #[.pointer (some ⟨Bs,0,none⟩)] (encR L) (KeepTwo g Bs) (fun ys=>ys=List.range L.length) (fun pre=>∃k,k<=L.length/\pre=List.range k) L.length w:=fun l J Jx W hW _ _ hY h0=>by
 have hc':=(hW.cell (p:=⟨Bs,0,none⟩) hBs).trans hc
 exact back1_in F n h7 hro hn l Bs g off cap ao L hlen hao J Jx hY W hc' (hI.same (hW.block g hg)) h0
def StAt (w:World) (b:Nat) (s:Int×Int):Prop:=w.heap[b]? =some (.cells #[.int .i64 s.1,.int .i64 s.2] 39 (0,0))
theorem StAt.c0 (h:StAt w b s):w.cell? ⟨b,0,none⟩=some (.int .i64 s.1):=by unfold StAt at h;simp [World.cell?,h]
theorem StAt.c1 (h:StAt w b s):w.cell? ⟨b,1,none⟩=some (.int .i64 s.2):=by unfold StAt at h;simp [World.cell?,h]
def EntAt (w:World) (b:Nat) (x:Ent):Prop:=w.heap[b]? =some (.cells #[.int .i64 x.1.1.1,.int .i64 x.1.1.2,.int .i64 x.1.2.1,.int .i64 x.1.2.2.1,.string x.1.2.2.2,.int .i64 x.2.1,.int .i64 x.2.2.1,.string x.2.2.2] 261 (0,0))
theorem EntAt.cell {w:World} {b:Nat} {x:Ent} (h:EntAt w b x) (c:Nat) {u:Value} (hu:(encE x)[c]? =some u):w.cell? ⟨b,c,none⟩=some u:=by
 unfold EntAt at h
 simp only [World.cell?,h]
 rw [<-hu]
 simp [encE]
theorem kept_cells {X Y:World} {row:Option Nat} {cs:Array Value} {t:TypeId} {fr:Nat×Nat} (h:X.heap[b]? =some (.cells cs t fr)) (hg:X.grownBy Y row) (hr:∀r,row=some r->∃o:Obj,X.heap[r]? =some o/\o.isCells=false):Y.heap[b]? =some (.cells cs t fr):=by
 refine (hg.block b (vn.1 h).1 (fun e=> ?_)).trans h
 obtain ⟨o',ho',hc'⟩:=hr b e.symm
 rw [h] at ho'
 cases ho'
 cases hc'
theorem blk2 (w:World) (o1 o2:Obj):((w.alloc o1).alloc o2).heap[w.heap.size]? =some o1/\((w.alloc o1).alloc o2).heap[w.heap.size+1]? =some o2:=by
 refine ⟨(vy _ _ _ zm).trans (heap_alloc_new w o1),?_⟩
 have:=heap_alloc_new (w.alloc o1) o2
 rwa [vQ] at this
theorem blk4 (w:World) (o1 o2 o3 o4:Obj):((((w.alloc o1).alloc o2).alloc o3).alloc o4).heap[w.heap.size]? =some o1/\((((w.alloc o1).alloc o2).alloc o3).alloc o4).heap[w.heap.size+1]? =some o2/\((((w.alloc o1).alloc o2).alloc o3).alloc o4).heap[w.heap.size+1+1]? =some o3/\((((w.alloc o1).alloc o2).alloc o3).alloc o4).heap[w.heap.size+1+1+1]? =some o4:=by
 obtain ⟨a1,a2⟩:=blk2 w o1 o2
 obtain ⟨a3,a4⟩:=blk2 ((w.alloc o1).alloc o2) o3 o4
 simp only [vQ] at a3 a4
 exact ⟨(vy _ _ _ yL).trans ((vy _ _ _ yL).trans a1),(vy _ _ _ yL).trans ((vy _ _ _ yL).trans a2),a3,a4⟩
theorem two_set {b1 b2:Nat} {t1 t2:TypeId} {v1 v2:Value} (u1 u2:Value) (h1:Boxed W b1 t1 v1) (h2:Boxed W b2 t2 v2) (hne:b1≠b2):
  Boxed ((W.setCell ⟨b1,0,none⟩ u1).setCell ⟨b2,0,none⟩ u2) b1 t1 u1/\Boxed ((W.setCell ⟨b1,0,none⟩ u1).setCell ⟨b2,0,none⟩ u2) b2 t2 u2:=
 ⟨(h1.set u1).kept (grownBy_setCell' _ _ _) (by simp [hne]),(h2.kept (grownBy_setCell' _ _ _) zl).set u2⟩
theorem keepsFrom_below (h:Below W.heap.size W W'):KeepsFrom N W W':=
 ⟨h.size,fun k _ _ hk _=>(h.block k (vn.1 hk).1).trans hk⟩
theorem keepTwo_below (h:Below W.heap.size W W') (hg:g<W.heap.size) (hb:b<W.heap.size):KeepTwo g b W W':=⟨h.block g hg,h.block b hb⟩
theorem range_snoc {pre:List Nat} {x:Nat} (h:pre++ [x]=List.range (pre++ [x]).length):pre=List.range pre.length/\x=pre.length:=by
 rw [vw,uC,Zg] at h
 have:=List.append_inj' h rfl
 exact ⟨this.1,by simpa using this.2⟩
theorem entR_at {L:List Ent} {r:Nat} (h:r<L.length):L[L.length - 1 - r]? =some (entR L r):=by
 unfold entR
 rw [Zs,vj zj]
 rfl
theorem find_any (w:World) (bt g cap:Nat) (ao:Option Addr) (L:List Ent) (ms:List Mov) (s:Int×Int) (hm:L.map (·.1)=ms) (hby:ByStamp ms) (hlen:L.length<=1000) (hsl:w.cell? ⟨bt,1,none⟩=some (.slice ao L.length cap)) (hao:L= []\/ao=some ⟨g,0,none⟩) (hg:g<w.heap.size) (hrow:RowAt w g 0 L):
  Calls prog 184 #[.pointer (some ⟨bt,0,none⟩),.agg #[.int .i64 s.1,.int .i64 s.2]] w fun e w'=>(∃(i:Nat) (b:Bool),e= .returned (.tuple #[.int .i64 (i:Int),.bool b])/\Found ms s i b)/\Below w.heap.size w w':=by
 have hbt:bt<w.heap.size:=block_lt_of_cell hsl
 have hsl3:∀o1 o2 o3,(((w.alloc o1).alloc o2).alloc o3).cell? ⟨bt,1,none⟩=some (.slice ao L.length cap):=fun o1 o2 o3=>
  (((((vu w.heap.size w).alloc zg o1).alloc zm o2).alloc zl o3).cell (p:=⟨bt,1,none⟩) hbt).trans hsl
 refine (callsIn_wide (n:=4)).1 ?_
 refine callsIn_of_wp_marks func184 rfl trivial ?_ rfl
 simp only [ntmps184,vY,vH,vT,Nat.reduceAdd,Nat.reduceSub,ul,um,uy,uo,uA,ux]
 gi_wp2_with (refine ⟨trivial,?_⟩;gi_at_call 229;refine (back_in Fence.wide (4 - 1) trivial rfl _ _ _ _).mono ?_;rintro e w' ⟨rfl,rfl⟩)
 obtain ⟨w4,hw4⟩:=za ((((w.alloc (.cells #[.int .i64 s.1,.int .i64 s.2] 39)).alloc (.cells #[.int .i64 0] 3)).alloc (.cells #[.bool false] 4)).alloc (.cells #[.slice ao L.length cap] 133))
 rw [<-hw4]
 have hB0:Below w.heap.size w w4:=by rw [hw4];exact (((((vu w.heap.size w).alloc zg _).alloc zm _).alloc zl _).alloc zl _)
 have hs4:w4.heap.size=w.heap.size+4:=by rw [hw4];simp
 obtain ⟨B,hB⟩:=za w.heap.size
 have e1:StAt w4 B s:=by rw [hw4,hB];exact (blk4 w _ _ _ _).1
 have e2:Boxed w4 (B+1) 3 (.int .i64 0):=by rw [hw4,hB];exact (blk4 w _ _ _ _).2.1
 have e3:Boxed w4 (B+1+1) 4 (.bool false):=by rw [hw4,hB];exact (blk4 w _ _ _ _).2.2.1
 have e4:Boxed w4 (B+1+1+1) 133 (.slice ao L.length cap):=by rw [hw4,hB];exact (blk4 w _ _ _ _).2.2.2
 rw [<-hB] at hB0 hs4 hg hbt |-
 have HB:Aside (B=w.heap.size):=hB
 have hBw:B<=w.heap.size:=zj
 clear hB
 have hrow4:RowAt w4 g 0 L:=hrow.same (hB0.block g hg)
 have hms:ms.length=L.length:=by rw [<-hm];simp
 clear hw4 hsl3 hrow
 refine wpIn_rangeFunc_ownH rfl zj (gf:=263) (lb:= #[.pointer (some ⟨B+1+1+1,0,none⟩)]) rfl trivial (enters_of func263 zk rfl)
  (back_stops Fence.wide (4 - 1) trivial rfl zj (B+1+1+1) g 0 cap ao L hlen hao w4 zj zj e4.cell hrow4) KeepTwo.trans (fun W l o o' hl _ _ _=>KeepTwo.put (N:=w4.heap.size) zj zj W l o' hl) (vu _ _) (fun _=>rfl)
  (fun pre W=>((pre=List.range pre.length->Later ms s (L.length - pre.length))/\StAt W B s/\Boxed W (B+1) 3 (.int .i64 0)/\Boxed W (B+1+1) 4 (.bool false)/\w4.heap.size<=W.heap.size)/\Below B w W)
  (fun c pre W=>(c= .ret/\(pre=List.range pre.length->∃(i:Nat) (b:Bool),Found ms s i b/\Boxed W (B+1) 3 (.int .i64 (i:Int))/\Boxed W (B+1+1) 4 (.bool b)))/\Below B w W)
  (OwnFrom.and (Own.from (fun _ X Y row hs hg hr=>⟨hs.1,kept_cells hs.2.1 hg hr,kept_cells hs.2.2.1 hg hr,kept_cells hs.2.2.2.1 hg hr,vr hs.2.2.2.2 hg.size⟩) _) (ownFrom_below zj zj))
  (fun c=>OwnFrom.and (Own.from (fun _ X Y row hs hg hr=>⟨hs.1,fun hp=>by obtain ⟨i,b,f1,f2,f3⟩:=hs.2 hp;exact ⟨i,b,f1,kept_cells f2 hg hr,kept_cells f3 hg hr⟩⟩) _) (ownFrom_below zj zj))
  ⟨⟨fun _=>by rw [vT,Nat.sub_zero,<-hms];exact later_end ms s,e1,e2,e3,vm _⟩,hB0⟩
  (fun x a' W=>∃Bx,w4.heap.size<=Bx/\EntAt W Bx (entR L x)/\a'= {tmps:= #[.pointer (some ⟨bt,0,none⟩),.agg #[.int .i64 s.1,.int .i64 s.2],undef,.pointer (some ⟨B,0,none⟩),.pointer (some ⟨B+1,0,none⟩),.pointer (some ⟨B+1+1,0,none⟩),.int .i64 ((L.length - 1 - x:Nat):Int),.pointer (some ⟨Bx,0,none⟩),.pointer (some ⟨bt,0,none⟩),.pointer (some ⟨bt,0,none⟩),.pointer (some ⟨bt,1,none⟩),.slice ao L.length cap,.func (.func 263) #[] #[.pointer (some ⟨B+1+1+1,0,none⟩)],.int .i64 ((L.length - 1 - x:Nat):Int),.agg #[.int .i64 (entR L x).1.1.1,.int .i64 (entR L x).1.1.2,.int .i64 (entR L x).1.2.1,.int .i64 (entR L x).1.2.2.1,.string (entR L x).1.2.2.2,.int .i64 (entR L x).2.1,.int .i64 (entR L x).2.2.1,.string (entR L x).2.2.2],undef,undef,undef,undef,undef,undef,undef,undef,undef,undef,undef],defers:=[]})
  (fun x a'=>Own.from (fun _ X Y row hs hg hr=>ya) _)
  ?assign ?body ?done ?stop
 case assign=>
  rintro l pre x W K ⟨⟨hlat,hst,hr1,hr2,hsz⟩,hBW⟩ hK
  have hBs:B<=W.heap.size:=zj
  have hK':Aside _:=hK
  have H1:Aside (StAt W B s/\Boxed W (B+1) 3 (.int .i64 0)/\Boxed W (B+1+1) 4 (.bool false)/\Below B w W):=⟨hst,hr1,hr2,hBW⟩
  clear hK hst hr1 hr2 hBW
  unfold encR
  gi_wp2
  refine hK'.o _ _ ((KeepsOthers.alloc _ _).from _) ⟨vy _ _ _ zj,vy _ _ _ zj⟩ ⟨⟨hlat,?_,H1.o.2.1.alloc _,H1.o.2.2.1.alloc _,zl⟩,H1.o.2.2.2.alloc hBs _⟩ ⟨W.heap.size,zj,heap_alloc_new W _,rfl⟩
  exact (vy _ _ _ zj).trans H1.o.1
 case body=>
  rintro l pre x a' W hl _ ⟨⟨hlat,hst,hr1,hr2,hsz⟩,hBW⟩ ⟨Bx,hBx,hE,rfl⟩ hlt
  have k0:=hst.c0
  have k1:=hst.c1
  have f0:=hE.cell 0 (u:=.int .i64 (entR L x).1.1.1) rfl
  have f1:=hE.cell 1 (u:=.int .i64 (entR L x).1.1.2) rfl
  have g1:=hr1.cell
  have g2:=hr1.frozen
  have g3:=hr2.cell
  have g4:=hr2.frozen
  have hq:=eqSt (entR L x).1.1.1 (entR L x).1.1.2 s.1 s.2
  by_cases he:(entR L x).1.1=s
  ·have hd:decide (((entR L x).1.1.1,(entR L x).1.1.2)=(s.1,s.2))=true:=decide_eq_true he
   rw [hd] at hq
   gi_wp2
   obtain ⟨q1,q2⟩:=two_set (.int .i64 ((L.length - 1 - x:Nat):Int)) (.bool true) hr1 hr2 zj
   refine ⟨((KeepsOthers.setCell _ _ _).trans (KeepsOthers.setCell _ _ _)).from _,⟨rfl,fun hp=> ?_⟩,(hBW.setCell (p:=⟨B+1,0,none⟩) jK _).setCell (p:=⟨B+1+1,0,none⟩) jm _⟩
   obtain ⟨hp1,hp2⟩:=range_snoc hp
   have hix:=entR_at (L:=L) (r:=x) zj
   exact ⟨L.length - 1 - x,true,found_same (m:=(entR L x).1) (by rw [<-hm,uu,hix];rfl) he,q1,q2⟩
  have hd:decide (((entR L x).1.1.1,(entR L x).1.1.2)=(s.1,s.2))=false:=decide_eq_false he
  rw [hd] at hq
  by_cases hls:SLt (entR L x).1.1 s
  ·have hlb:=(lessB_iff (entR L x).1.1 s).2 hls
   have hless:=less_any (entR L x).1.1.1 (entR L x).1.1.2 s.1 s.2 W
   rw [hlb] at hless
   have hw1:IntKind.i64.wrap (((L.length - 1 - x:Nat):Int)+1)=((L.length - 1 - x:Nat):Int)+1:=zv
   have G:Aside (Boxed W (B+1) 3 (.int .i64 0)/\Boxed W (B+1+1) 4 (.bool false)):=⟨hr1,hr2⟩
   gi_wp2_with (refine ⟨trivial,?_⟩;gi_at_call 87;refine (CallsIn.inRound l (callsIn_wide.2 hless)).mono ?_;rintro e w' ⟨rfl,hb'⟩;have G1:Aside (Boxed w' (B+1) 3 (.int .i64 0)/\Boxed w' (B+1+1) 4 (.bool false)):=⟨(hb'.block _ zj).trans G.o.1,(hb'.block _ zj).trans G.o.2⟩;have m1:=G1.o.1.cell;have m2:=G1.o.1.frozen;have m3:=G1.o.2.cell;have m4:=G1.o.2.frozen)
   obtain ⟨q1,q2⟩:=two_set (.int .i64 (((L.length - 1 - x:Nat):Int)+1)) (.bool false) G1.o.1 G1.o.2 zj
   refine ⟨(keepsFrom_below hb').trans (((KeepsOthers.setCell _ _ _).trans (KeepsOthers.setCell _ _ _)).from _),⟨rfl,fun hp=> ?_⟩,((hBW.trans (hb'.mono zj)).setCell (p:=⟨B+1,0,none⟩) jK _).setCell (p:=⟨B+1+1,0,none⟩) jm _⟩
   obtain ⟨hp1,hp2⟩:=range_snoc hp
   have hix:=entR_at (L:=L) (r:=x) zj
   exact ⟨L.length - 1 - x+1,false,found_less (m:=(entR L x).1) hby (by have:=hlat hp1;rwa [show L.length - pre.length=L.length - 1 - x+1 by omega] at this) (by rw [<-hm,uu,hix];rfl) hls,q1,q2⟩
  have hlb:lessB (entR L x).1.1.1 (entR L x).1.1.2 s.1 s.2=false:=by
   cases hh:lessB (entR L x).1.1.1 (entR L x).1.1.2 s.1 s.2 with
   | false=>rfl
   | true=>exact absurd ((lessB_iff (entR L x).1.1 s).1 hh) hls
  have hless:=less_any (entR L x).1.1.1 (entR L x).1.1.2 s.1 s.2 W
  rw [hlb] at hless
  gi_wp2_with (refine ⟨trivial,?_⟩;gi_at_call 87;refine (CallsIn.inRound l (callsIn_wide.2 hless)).mono ?_;rintro e w' ⟨rfl,hb'⟩)
  refine ⟨keepsFrom_below hb',keepTwo_below hb' zj zj,⟨⟨fun hp=> ?_,(hb'.block _ zj).trans hst,(hb'.block _ zj).trans hr1,(hb'.block _ zj).trans hr2,by have:=hb'.size;omega⟩,hBW.trans (hb'.mono zj)⟩⟩
  obtain ⟨hp1,hp2⟩:=range_snoc hp
  have hix:=entR_at (L:=L) (r:=x) zj
  have h1:=hlat hp1
  rw [show L.length - pre.length=L.length - 1 - x+1 by omega] at h1
  rw [vw,uC,show L.length - (pre.length+1)=L.length - 1 - x by omega]
  exact later_step (m:=(entR L x).1) h1 (by rw [<-hm,uu,hix];rfl) he hls
 case done=>
  rintro D ys W hD rfl ⟨⟨hlat,hst,hr1,hr2,hsz⟩,hBW⟩ hK
  have g1:=hr1.cell
  have g2:=hr1.frozen
  have g3:=hr2.cell
  have g4:=hr2.frozen
  gi_wp2
  have hK':=((KeepsOthers.setCell W ⟨B+1,0,none⟩ (.int .i64 0)).trans (KeepsOthers.setCell _ ⟨B+1+1,0,none⟩ (.bool false))).same D _ hK rfl
  refine ⟨zm,.inl ⟨_,_,rfl,run_takeDeferred hK',?_⟩⟩
  obtain ⟨q1,q2⟩:=two_set (.int .i64 0) (.bool false) hr1 hr2 zj
  have q3:Boxed _ (B+1) 3 (.int .i64 0):=kept_cells q1 (grownBy_putObj' _ D (.deferred none)) (fun r e=>by cases e;exact ⟨_,hK',rfl⟩)
  have q4:Boxed _ (B+1+1) 4 (.bool false):=kept_cells q2 (grownBy_putObj' _ D (.deferred none)) (fun r e=>by cases e;exact ⟨_,hK',rfl⟩)
  have q5:=q3.cell
  have q6:=q4.cell
  refine ⟨.tuple #[.int .i64 0,.bool false],?_,⟨0,false,rfl,found_first (by have:=hlat zm;simpa using this)⟩,?_⟩
  ·simp [results,f184,go_sem,q5,q6]
  rw [<-HB.o]
  exact ((hBW.setCell (p:=⟨B+1,0,none⟩) jK _).setCell (p:=⟨B+1+1,0,none⟩) jm _).trans (belowK_b (w:=w) zj _ D _ _ yb hK' rfl rfl)
 case stop=>
  rintro D c pre W hD ⟨k,hk,rfl⟩ ⟨⟨rfl,hf⟩,hBW⟩ hK
  obtain ⟨i,b,hF,hr1,hr2⟩:=hf zm
  gi_wp2
  refine ⟨zm,.inl ⟨_,_,rfl,run_takeDeferred hK,?_⟩⟩
  have q3:Boxed _ (B+1) 3 (.int .i64 (i:Int)):=kept_cells hr1 (grownBy_putObj' _ D (.deferred none)) (fun r e=>by cases e;exact ⟨_,hK,rfl⟩)
  have q4:Boxed _ (B+1+1) 4 (.bool b):=kept_cells hr2 (grownBy_putObj' _ D (.deferred none)) (fun r e=>by cases e;exact ⟨_,hK,rfl⟩)
  have q5:=q3.cell
  have q6:=q4.cell
  refine ⟨.tuple #[.int .i64 (i:Int),.bool b],?_,⟨i,b,rfl,hF⟩,?_⟩
  ·simp [results,f184,go_sem,q5,q6]
  rw [<-HB.o]
  exact hBW.trans (belowK_b (w:=w) zj W D _ _ yb hK rfl rfl)
end
section
open Go.RowKit
structure But (pb:Nat) (w w':World):Prop where
 os:w'.os=w.os
 tape:w'.tape=w.tape
 output:w'.output=w.output
 size:w.heap.size<=w'.heap.size
 block:∀k,k<w.heap.size->k≠pb->w'.heap[k]? =w.heap[k]?
theorem But.of_below (h:Below w.heap.size w w'):But pb w w':=⟨h.os,h.tape,h.output,h.size,fun k hk _=>h.block k hk⟩
theorem But.below (h:But pb w w') (hp:pb<w.heap.size):Below pb w w':=⟨h.os,h.tape,h.output,h.size,fun k hk=>h.block k zj zj⟩
theorem But.later (h:But pb w w1) (hb:Below w1.heap.size w1 w'):But pb w w':=
 ⟨hb.os.trans h.os,hb.tape.trans h.tape,hb.output.trans h.output,vr h.size hb.size,fun k hk hn=>(hb.block k (vJ hk h.size)).trans (h.block k hk hn)⟩
theorem But.setCell {pb o:Nat} {w w1:World} (h:But pb w w1) (v:Value):But pb w (w1.setCell ⟨pb,o,none⟩ v):=by
 have hb:Below 0 w1 (w1.setCell ⟨pb,o,none⟩ v):=(vu 0 w1).setCell (vD _) v
 exact ⟨hb.os.trans h.os,hb.tape.trans h.tape,hb.output.trans h.output,vr h.size hb.size,fun k hk hn=>(Below.heap_setCell w1 ⟨pb,o,none⟩ v k hn).trans (h.block k hk hn)⟩
theorem new_ok (b:Int) (w:World) (h3:0<=b) (h4:b<4):
  Calls prog 78 #[.int .i64 b] w fun e w'=>e= .returned (.tuple #[.pointer (some ⟨w.heap.size,0,none⟩),.nilIface])/\w'=w.alloc (.cells #[.int .i64 0,.int .i64 b] 70):=by
 go_enter func78,ntmps78
 go_wp2
 go_ret2
 exact ⟨rfl,rfl⟩
structure Clk (pb:Nat) (T b:Int) (w:World):Prop where
 t:w.cell? ⟨pb,0,none⟩=some (.int .i64 T)
 b:w.cell? ⟨pb,1,none⟩=some (.int .i64 b)
 f:w.frozen? ⟨pb,0,none⟩=false
theorem Clk.lt {b:Int} (h:Clk pb T b w):pb<w.heap.size:=vp w ⟨pb,0,none⟩ h.t
theorem Clk.later {b:Int} (h:Clk pb T b w) (hb:Below w.heap.size w w'):Clk pb T b w':=
 ⟨cell_later hb h.t,cell_later hb h.b,(hb.frozen (p:=⟨pb,0,none⟩) h.lt).trans h.f⟩
theorem Clk.set {b:Int} (h:Clk pb T b w) (T':Int):Clk pb T' b (w.setCell ⟨pb,0,none⟩ (.int .i64 T')):=
 ⟨World.cell?_setCell_same _ _ _ h.t,(World.cell?_setCell_other _ _ _ _ zm).trans h.b,by rw [World.frozen?_setCell];exact h.f⟩
theorem tick_full (pb:Nat) (T c:Int) (w:World) (eb:Value) (hg:w.cell? ⟨2,0,none⟩=some eb) (hC:Clk pb T c w) (hT:1073741824<=T):
  Calls prog 241 #[.pointer (some ⟨pb,0,none⟩)] w fun e w'=>e= .returned (.tuple #[.agg #[.int .i64 0,.int .i64 0],eb])/\Below w.heap.size w w':=by
 obtain ⟨k0,k1,kf⟩:=hC
 have hz:2<w.heap.size:=vp w ⟨2,0,none⟩ hg
 have hp:pb<w.heap.size:=vp w ⟨pb,0,none⟩ k0
 go_enter func241,ntmps241
 go_wp2
 go_region
 all_goals try go_wp2
 exact bodyPost_ret (v:=.tuple #[.agg #[.int .i64 0,.int .i64 0],eb]) jW rfl ⟨rfl,(zh _ _).drew⟩
theorem tick_ok (pb:Nat) (T c:Int) (w:World) (hC:Clk pb T c w) (h0:0<=T) (hT:T<1073741824):
  Calls prog 241 #[.pointer (some ⟨pb,0,none⟩)] w fun e w'=>e= .returned (.tuple #[.agg #[.int .i64 (T+1),.int .i64 c],.nilIface])/\But pb w w'/\Clk pb (T+1) c w':=by
 obtain ⟨k0,k1,kf⟩:=hC
 have hp:pb<w.heap.size:=vp w ⟨pb,0,none⟩ k0
 go_enter func241,ntmps241
 go_wp2
 exact bodyPost_ret (v:=.tuple #[.agg #[.int .i64 (T+1),.int .i64 c],.nilIface]) jW rfl
  ⟨rfl,((But.of_below (vu _ _)).setCell _).later (zh _ _),(Clk.set (T:=T) ⟨k0,k1,kf⟩ (T+1)).later (zh _ _)⟩
