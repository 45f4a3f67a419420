import Derived.Test.YtebpcnkdhgnghaaGreatDoorPA05
import Derived.Test.YtebpcnkdhgnghaaGreatDoorPA06
import Derived.Shelf.Spec.SlicesInsertGrow
import Derived.RangeFuncNested
set_option linter.unusedSimpArgs false
set_option linter.unusedVariables false
set_option maxRecDepth 100000
set_option maxHeartbeats 64000000
namespace Go.Proofs.YtebpcnkdhgnghaaGreatDoor
open Go.Proofs.Tryz
variable {L zs:List Ltr} {xs:List Value} {b cap g h i k n o p:Nat} {ad:Nat→Addr} {ao:Option Addr} {T e:TypeId} {v:Value} {W w w':World}
section
open Go.Shelf Go.RowKit Go.Lib
theorem sP:(prog.info? 282).map (fun i=>(i.zero,i.size,i.bytes))=some (some (.agg #[.int .i64 0,.int .u8 0,.bool false]),3,16):=zk
def tG (w:World) (base:Nat) (v:Value) (n:Nat) (ys:List Value) (e:Ending) (w':World):Prop:=
 ∃v',e= .returned v'/\w'.ownsRow base 282 3 v' (n+1) ys/\Keeps (fun k=>some k=v.ownBlock) w w'/\(v'.ownBlock=v.ownBlock\/v'.ownBlock=some w.heap.size)
theorem tQ (w:World) (base:Nat) (v:Value) (n:Nat) (xs vs:List Value) (hown:w.ownsRow base 282 3 v n xs) (hn:n<=1000) (vb:Nat) (hv:vs.length=3)
  (hvs:∀j u,vs[j]? =some u->w.cell? ⟨vb,j,none⟩=some u) (h1v:∀u∈vs,u.oneCell'=true) (hbase:base<=w.heap.size):
  Calls prog 205 #[v,.int .i64 n,.slice (some ⟨vb,0,none⟩) 1 1] w (tG w base v n (xs++vs)):=by
 obtain ⟨i0,hi,hz0,hz1,hz2⟩:=info_parts sP
 obtain ⟨v',w',hrun,ho,hg,hb⟩:=rB (P:=prog) w base 278 278 282 i0 _ 3 16 underlying278 hi hz0 hz1 hz2 rfl zj v n xs hown ⟨vb,0,none⟩ 1 1 zj vs zj
  (fun j u hj=>xJ) h1v zu zj hbase
 have hfin:Aside (tG w base v n (xs++vs) (.returned v') w'):=⟨v',rfl,ho,aP hg,hb⟩
 rcases hown.2 with ⟨rfl,rfl⟩ | ⟨g,cap,cur,rfl,hbg,hgb,hnc,hcm,hcs,htake⟩
 ·clear hown ho hg hb hvs h1v
  go_enter func205,ntmps205
  exact kj0
 clear hown ho hg hb hvs h1v htake hcs hgb hbg
 go_enter func205,ntmps205
 go_wp2_with (at_builtin;refine Lib.wpList_append_run _ rfl _ _ _ _ rfl _ _ rfl rfl _ _ hrun ?_)
 all_goals (go_ret;exact hfin.o)
theorem rA (w:World) (base g n cap i:Nat) (xs vs:List Value) (hown:w.ownsRow base 282 3 (.slice (some ⟨g,0,none⟩) n cap) n xs) (hn:n<=1000) (vb:Nat) (hv:vs.length=3)
  (hvs:∀j u,vs[j]? =some u->w.cell? ⟨vb,j,none⟩=some u) (h1v:∀u∈vs,u.oneCell'=true) (h1x:∀u∈xs,u.oneCell'=true) (hvb:vb≠g) (hsa:w.shape? vb=some (282,3)) (hfa:∀j,w.frozen? ⟨vb,j,none⟩=false)
  (hi:i<n) (hroom:n+1<=cap):
  Calls prog 205 #[.slice (some ⟨g,0,none⟩) n cap,.int .i64 i,.slice (some ⟨vb,0,none⟩) 1 1] w (tG w base (.slice (some ⟨g,0,none⟩) n cap) n (xs.take (i*3)++vs++xs.drop (i*3))):=by
 have hL:Aside (∀W:World,W.heap=w.heap->W.os=w.os->W.tape=w.tape->W.output=w.output->tG w base (.slice (some ⟨g,0,none⟩) n cap) n (xs.take (i*3)++vs++xs.drop (i*3)) (.returned (.slice (some ⟨g,0,none⟩) (n+1) cap)) ((W.setCells g ((i+1)*3) (xs.drop (i*3))).setCells g (i*3) vs)):=by
  intro W h0 h2 h3 h4
  have hownW:W.ownsRow base 282 3 (.slice (some ⟨g,0,none⟩) n cap) n xs:=jx
  have k1:=(aY g (xs.drop (i*3)) ((i+1)*3) W).trans (aY g vs (i*3) _)
  exact kf1
 obtain ⟨hxl,h2⟩:=hown
 rcases h2 with ⟨hc,_⟩ | ⟨g',cap',cur,hc,hbg,hgb,hnc,hcm,hcs,htake⟩
 ·cases hc
 cases hc
 have hcm':cap<=9223372036854775807:=by simp only [maxLen] at hcm;omega
 have hsp:∀j,j<(n+1)*3->(w.cell? ⟨g,j,none⟩).isSome=true:=fun j hj=>by
  have:j<cur.size:=by rw [hcs];omega
  simp [World.cell?,hgb,this]
 have hfz:∀j,w.frozen? ⟨g,j,none⟩=false:=fun j=>by simp [World.frozen?,hgb]
 have hcell:∀j u,xs[j]? =some u->w.cell? ⟨g,j,none⟩=some u:=fun j u hj=>by
  exact kd2
 have hsb:w.shape? g=some (282,cap*3):=by simp [World.shape?,hgb,hcs]
 have hsz:(prog.info? 282).map (·.size)=some 3:=by
  obtain ⟨i0,hi0,_,h1,_⟩:=info_parts sP
  rw [hi0];simp [h1]
 have hov:∀lb cb,(callFunc 264 #[.slice (some ⟨vb,0,none⟩) 1 1,.slice (some ⟨g,(i+1)*3,none⟩) lb cb]).run prog w= .ok (.value (.bool false)) w:=fun lb cb=>by
  rw [run_callFunc_extern func264 zk zk zk (e:=Extern.SlicesOverlaps.overlaps #[278,278] #[4]) zk,
   Lib.run_overlaps_apart w 278 4 282 underlying278 3 sizeOf282 ⟨vb,0,none⟩ ⟨g,(i+1)*3,none⟩ 1 1 lb cb hvb 282 282 3 (cap*3) hsa hsb zj (hfa 0) (hfa 3)]
  rfl
 have hdl:(xs.drop (i*3)).length=n*3 - i*3:=qa
 have hcp1:∀ty dc sc,(Builtin.copy_ #[278,278] ty #[.slice (some ⟨g,(i+1)*3,none⟩) (n - i) dc,.slice (some ⟨g,i*3,none⟩) (n+1 - i) sc]).run prog w.drew= .ok (goInt ((n - i:Nat):Int)) (w.drew.setCells g ((i+1)*3) (xs.drop (i*3))):=fun ty dc sc=>by
  have hmin:Nat.min (n+1 - i) (n - i)=n - i:=zX
  have:=cG (P:=prog) w.drew 278 278 ty 282 3 g ((i+1)*3) (n - i) dc ⟨g,i*3,none⟩ (n+1 - i) sc (xs.drop (i*3)) underlying278 hsz qE
   (fun j u hj=>by rw [Addr.add_lit];exact hcell _ u (by rwa [vW] at hj))
   (fun j hj=>hsp _ qx) (fun j _=>hfz _) (fun u hu=>h1x u (uM hu))
  exact kh7
 obtain ⟨W1,hW1⟩:=za (w.drew.setCells g ((i+1)*3) (xs.drop (i*3)))
 have hsp1:∀j,j<(n+1)*3->(W1.cell? ⟨g,j,none⟩).isSome=true:=fun j hj=>by
  rw [hW1]
  exact isSome_setCells g (xs.drop (i*3)) ((i+1)*3) w.drew (fun t ht=>hsp ((i+1)*3+t) (by rw [hdl] at ht;omega)) _ (hsp j hj)
 have hcp2:∀(W:World),(∀x,W.cell? x=W1.cell? x)->(∀x,W.frozen? x=W1.frozen? x)->∀ty dc,(Builtin.copy_ #[278,278] ty #[.slice (some ⟨g,i*3,none⟩) (n+1 - i) dc,.slice (some ⟨vb,0,none⟩) 1 1]).run prog W= .ok (goInt 1) (W.setCells g (i*3) vs):=fun W hWc hWf ty dc=>by
  have hmin:Nat.min 1 (n+1 - i)=1:=zX
  have:=cG (P:=prog) W 278 278 ty 282 3 g (i*3) (n+1 - i) dc ⟨vb,0,none⟩ 1 1 vs underlying278 hsz xM
   (fun j u hj=>by
    rw [Addr.add_lit,vh,hWc,hW1,ur g _ _ _ _ (fun h _=>absurd h hvb)]
    exact hvs j u hj)
   (fun j hj=>by rw [hWc];exact hsp1 _ zj) (fun j _=>by rw [hWf,hW1,uw];exact hfz _) h1v
  exact kh7
 rw [<-hW1] at hcp1
 have hw1:IntKind.i64.wrap ((i:Int)+1)=(i:Int)+1:=zr
 have hw2:IntKind.i64.wrap ((n:Int)+1)=(n:Int)+1:=zr
 have hb1:(0:Int)<=(i:Int)+1:=zj
 have hz2:¬((i:Int)=(n:Int)):=zj
 have hin:i<=n:=zj
 have htn:((i:Int)+1).toNat=i+1:=zj
 have htn2:((n:Int)+1).toNat=n+1:=zj
 have hb2:¬(cap=i+1):=zj
 have hb3:(i:Int)<=(n:Int)+1:=zj
 have hb4:¬(cap=i):=zj
 have hb5:¬((cap:Int)<(n:Int)+1):=zj
 clear htake hcs hgb hsp hfz hcell hsb hcm hxl hdl hvs h1v h1x hsa hfa hsp1 hbg
 go_enter func205,ntmps205
 go_wp2_with (simp only [hov])
 have mixed:prog.follows .mixedOrders=true:=zk
 go_region_law_o (refine step_copy_runI rfl _ _ 278 278 rfl _ _ zZ zZ (hcp1 _ _ _) ?_)
 clear mixed
 go_wp2_with (at_builtin;refine wpList_copy_runI _ rfl _ _ 278 278 rfl _ _ rfl rfl (hcp2 _ (fun _=>rfl) (fun _=>rfl) _ _) ?_)
 go_ret
 subst hW1
 exact hL.o w.drew rfl rfl rfl rfl
theorem re (w:World) (base g n cap i:Nat) (xs vs:List Value) (hown:w.ownsRow base 282 3 (.slice (some ⟨g,0,none⟩) n cap) n xs) (hn:n<=1000) (vb:Nat) (hv:vs.length=3)
  (hvs:∀j u,vs[j]? =some u->w.cell? ⟨vb,j,none⟩=some u) (h1v:∀u∈vs,u.oneCell'=true) (h1x:∀u∈xs,u.oneCell'=true) (hbase:base<=w.heap.size)
  (hi:i<n) (hroom:cap<n+1):
  Calls prog 205 #[.slice (some ⟨g,0,none⟩) n cap,.int .i64 i,.slice (some ⟨vb,0,none⟩) 1 1] w (tG w base (.slice (some ⟨g,0,none⟩) n cap) n (xs.take (i*3)++vs++xs.drop (i*3))):=by
 obtain ⟨hxl,h2⟩:=hown
 rcases h2 with ⟨hc,_⟩ | ⟨g',cap',cur,hc,hbg,hgb,hnc,hcm,hcs,htake⟩
 ·cases hc
 cases hc
 obtain ⟨i0,hi0,hz0,hzs,hzb⟩:=info_parts sP
 have hcell:∀j u,xs[j]? =some u->w.cell? ⟨g,j,none⟩=some u:=fun j u hj=>by
  exact kd2
 have hgw:g<w.heap.size:=(jJ.1 hgb).1
 have hvw:vb<w.heap.size:=block_lt_of_cell (hvs 0 _ (jK zj))
 have hsz:(prog.info? 282).map (·.size)=some 3:=by rw [hi0];simp [hzs]
 have htl:(xs.take (i*3)).length=i*3:=by rw [vj,hxl];omega
 have hdl:(xs.drop (i*3)).length=n*3 - i*3:=qa
 have hold:(Builtin.firstCells i0.size i (.slice (some ⟨g,0,none⟩) i cap)).run prog w.drew= .ok (xs.take (i*3)).toArray w.drew:=by
  rw [hzs]
  exact run_firstCells_some w.drew 3 i ⟨g,0,none⟩ i cap (xs.take (i*3)) htl (fun j u hj=>by
   rw [Addr.add_lit,vh]
   rw [uf] at hj
   split at hj
   ·exact hcell j u hj
   ·cases hj)
 have hik:i+(n+1 - i)=n+1:=zj
 have hkk:(n:Int)+1 - (i:Int)=((n+1 - i:Nat):Int):=zj
 obtain ⟨Z,hZ⟩:=za ((Value.agg #[.int .i64 0,.int .u8 0,.bool false]).cells)
 have hZs:Z.size=3:=by rw [hZ];rfl
 obtain ⟨G,hG⟩:=za (grownCap w (n+1) cap 282)
 have hGn:n+1<=G:=by rw [hG];exact grownCap_ge w _ _ _
 have hGm:G<=maxLen:=by rw [hG];exact grownCap_le_maxLen w (n+1) cap 282 yA
 obtain ⟨ROW,hROW⟩:∃ROW:Array Value,ROW=(xs.take (i*3)).toArray++Builtin.zeroCells Z (n+1 - i)++Builtin.zeroCells Z (G - (n+1)):=⟨_,rfl⟩
 have hrz:∀ty,(Builtin.append_ #[278,3] ty #[.slice (some ⟨g,0,none⟩) i cap,.int .i64 ((n:Int)+1 - (i:Int))]).run prog w= .ok (.slice (some ⟨w.heap.size,0,none⟩) (n+1) G) (w.drew.alloc (.cells ROW 282)):=fun ty=>by
  have h:=Lib.run_append_grow_zeros w 278 3 ty 282 i0 _ .i64 .i64 underlying278 underlying3 hi0 hz0 (some ⟨g,0,none⟩) i cap (xs.take (i*3)) hold (n+1 - i) zj zj zj zj (by rw [hzb];omega) xl
  rw [hik,<-hG,<-hZ,<-hROW] at h
  rw [hkk]
  exact h
 have hRs:ROW.size=G*3:=by
  exact kl5
 have hRl:∃Y,ROW.toList=xs.take (i*3)++Y:=⟨(Builtin.zeroCells Z (n+1 - i)++Builtin.zeroCells Z (G - (n+1))).toList,by rw [hROW];simp⟩
 obtain ⟨W1,hW1⟩:=za (w.drew.alloc (.cells ROW 282))
 rw [<-hW1] at hrz
 have hN:∀j,j<(n+1)*3->(W1.cell? ⟨w.heap.size,j,none⟩).isSome=true:=fun j hj=>by
  exact kj8
 have hNf:∀j,W1.frozen? ⟨w.heap.size,j,none⟩=false:=fun j=>by rw [hW1];exact World.frozen?_alloc_at (w:=w.drew) ROW _ w.heap.size j rfl
 have hOb:∀j u,w.cell? ⟨g,j,none⟩=some u->W1.cell? ⟨g,j,none⟩=some u:=fun j u h=>by rw [hW1,Za (w:=w.drew) _ g j hgw];exact h
 have hOv:∀j u,w.cell? ⟨vb,j,none⟩=some u->W1.cell? ⟨vb,j,none⟩=some u:=fun j u h=>by rw [hW1,Za (w:=w.drew) _ vb j hvw];exact h
 have hcpA:∀(W:World),(∀x,W.cell? x=W1.cell? x)->(∀x,W.frozen? x=W1.frozen? x)->∀ty dc,(Builtin.copy_ #[278,278] ty #[.slice (some ⟨w.heap.size,i*3,none⟩) (n+1 - i) dc,.slice (some ⟨vb,0,none⟩) 1 1]).run prog W= .ok (goInt 1) (W.setCells w.heap.size (i*3) vs):=fun W hWc hWf ty dc=>by
  have hmin:Nat.min 1 (n+1 - i)=1:=zX
  have:=cG (P:=prog) W 278 278 ty 282 3 w.heap.size (i*3) (n+1 - i) dc ⟨vb,0,none⟩ 1 1 vs underlying278 hsz xM
   (fun j u hj=>qT)
   (fun j hj=>by rw [hWc];exact hN _ zj) (fun j _=>by rw [hWf];exact hNf _) h1v
  exact kh7
 have hgN:g≠w.heap.size:=zj
 have hcpB:∀(W:World),(∀x,W.cell? x=(W1.setCells w.heap.size (i*3) vs).cell? x)->(∀x,W.frozen? x=(W1.setCells w.heap.size (i*3) vs).frozen? x)->∀ty dc sc,(Builtin.copy_ #[278,278] ty #[.slice (some ⟨w.heap.size,(i+1)*3,none⟩) (n - i) dc,.slice (some ⟨g,i*3,none⟩) (n - i) sc]).run prog W= .ok (goInt ((n - i:Nat):Int)) (W.setCells w.heap.size ((i+1)*3) (xs.drop (i*3))):=fun W hWc hWf ty dc sc=>by
  have hmin:Nat.min (n - i) (n - i)=n - i:=by simp [Nat.min_def]
  have:=cG (P:=prog) W 278 278 ty 282 3 w.heap.size ((i+1)*3) (n - i) dc ⟨g,i*3,none⟩ (n - i) sc (xs.drop (i*3)) underlying278 hsz qE
   (fun j u hj=>by
    rw [Addr.add_lit,hWc,ur _ _ _ _ _ (fun h _=>absurd h hgN)]
    exact hOb _ u (hcell _ u (by rwa [vW] at hj)))
   (fun j hj=>by rw [hWc];exact isSome_setCells w.heap.size vs (i*3) W1 (fun t ht=>hN _ zj) _ (hN _ qx))
   (fun j _=>by rw [hWf,uw];exact hNf _) (fun u hu=>h1x u (uM hu))
  exact kh7
 have hL:Aside (∀W:World,W.heap=W1.heap->W.os=w.os->W.tape=w.tape->W.output=w.output->tG w base (.slice (some ⟨g,0,none⟩) n cap) n (xs.take (i*3)++vs++xs.drop (i*3)) (.returned (.slice (some ⟨w.heap.size,0,none⟩) (n+1) G)) ((W.setCells w.heap.size (i*3) vs).setCells w.heap.size ((i+1)*3) (xs.drop (i*3)))):=by
  intro W h0 h2 h3 h4
  have hgW:W.heap[w.heap.size]? =some (.cells ROW 282 (0,0)):=jl
  obtain ⟨Y,hY⟩:=hRl
  have k1:=(aY w.heap.size vs (i*3) W).trans (aY w.heap.size (xs.drop (i*3)) ((i+1)*3) _)
  exact kd5
 have hG63:G<=9223372036854775807:=by unfold maxLen at hGm;omega
 have hGi:¬(G=i):=zj
 have hGim:¬(G=i+1):=zj
 have hci:¬(cap=i):=zj
 have hw1:IntKind.i64.wrap ((i:Int)+1)=(i:Int)+1:=zr
 have hw2:IntKind.i64.wrap ((n:Int)+1)=(n:Int)+1:=zr
 have hw3:IntKind.i64.wrap ((n:Int)+1 - (i:Int))=(n:Int)+1 - (i:Int):=zr
 have hb1:(0:Int)<=(i:Int)+1:=zj
 have hz2:¬((i:Int)=(n:Int)):=zj
 have hin:i<=n:=zj
 have hin2:i<=cap:=zj
 have htn:((i:Int)+1).toNat=i+1:=zj
 have hb5:((cap:Int)<(n:Int)+1):=zj
 have hb6:¬((n:Int)+1<=(cap:Int)):=zj
 have hE1:∀x,((w.alloc (.cells ROW 282)).drew).cell? x=(w.drew.alloc (.cells ROW 282)).cell? x:=fun x=>rfl
 have hE2:∀x,((w.alloc (.cells ROW 282)).drew).frozen? x=(w.drew.alloc (.cells ROW 282)).frozen? x:=fun x=>rfl
 subst hW1
 have hF1:∀x,(((w.alloc (.cells ROW 282)).drew.setCells w.heap.size (i*3) vs).drew).cell? x=((w.drew.alloc (.cells ROW 282)).setCells w.heap.size (i*3) vs).cell? x:=fun x=>rfl
 have hF2:∀x,(((w.alloc (.cells ROW 282)).drew.setCells w.heap.size (i*3) vs).drew).frozen? x=((w.drew.alloc (.cells ROW 282)).setCells w.heap.size (i*3) vs).frozen? x:=fun x=>rfl
 clear htake hcs hgb hcell hcm hxl hdl htl hvs h1v h1x hbg hold hROW hG hRs hRl hN hNf hOb hOv hik hkk hGm hZ hZs hgw hvw
 go_enter func205,ntmps205
 go_wp2_with (first
  | (at_builtin;refine Lib.wpList_append_run _ rfl _ _ _ _ rfl _ _ rfl rfl _ _ (hrz _) ?_)
  | (at_builtin;refine wpList_copy_runI _ rfl _ _ 278 278 rfl _ _ rfl rfl (hcpA _ hE1 hE2 _ _) ?_))
 have mixed:prog.follows .mixedOrders=true:=zk
 go_region_law_o (refine step_copy_runI rfl _ _ 278 278 rfl (.slice (some ⟨w.heap.size,(i+1)*3,none⟩) (n - i) (G - (i+1))) (.slice (some ⟨g,i*3,none⟩) (n - i) (cap - i)) zZ zZ (hcpB _ hF1 hF2 3 (G - (i+1)) (cap - i)) ?_)
 clear mixed
 go_wp2
 go_ret
 rw [drew_setCells]
 exact hL.o ((w.alloc (.cells ROW 282)).drew.drew) rfl rfl rfl rfl
theorem CD (w:World) (base n i:Nat) (v:Value) (xs vs:List Value) (hown:w.ownsRow base 282 3 v n xs) (hn:n<=1000) (vb:Nat) (hv:vs.length=3)
  (hvs:∀j u,vs[j]? =some u->w.cell? ⟨vb,j,none⟩=some u) (h1v:∀u∈vs,u.oneCell'=true) (h1x:∀u∈xs,u.oneCell'=true) (hvb:some vb≠v.ownBlock) (hsa:w.shape? vb=some (282,3)) (hfa:∀j,w.frozen? ⟨vb,j,none⟩=false) (hbase:base<=w.heap.size) (hi:i<=n):
  Calls prog 205 #[v,.int .i64 i,.slice (some ⟨vb,0,none⟩) 1 1] w (tG w base v n (xs.take (i*3)++vs++xs.drop (i*3))):=by
 by_cases he:i=n
 ·subst he
  have e1:xs.take (i*3)=xs:=vm qU
  have e2:xs.drop (i*3)= []:=uv qU
  rw [e1,e2,vZ]
  exact tQ w base v i xs vs hown hn vb hv hvs h1v hbase
 have hown':=hown
 rcases hown.2 with ⟨rfl,rfl⟩ | ⟨g,cap,cur,rfl,-⟩
 ·omega
 by_cases hroom:n+1<=cap
 ·exact rA w base g n cap i xs vs hown hn vb hv hvs h1v h1x (fun e=>hvb jH) hsa hfa zj hroom
 exact re w base g n cap i xs vs hown hn vb hv hvs h1v h1x hbase zj zj
end
section
open Go.RowKit Go.Lib Go.Sort
def pK (l:Ltr):List Value:=[.int .i64 l.1,.int .u8 (l.2.1:Int),.bool (!l.2.2)]
theorem ep (l:Ltr):(pK l).length=3:=rfl
theorem wj (l:Ltr):∀v∈pK l,v.oneCell'=true:=by
 intro v hv
 simp [pK] at hv
 rcases hv with rfl | rfl | rfl<;>rfl
theorem dB (hb:Below w.heap.size w w') (h:w.cell? ⟨b,o,none⟩=some v):w'.cell? ⟨b,o,none⟩=some v:=by
 exact kf6
def LtrsIn (w:World) (ao:Option Addr) (zs:List Ltr):Prop:=zs= []\/∃blk off,ao=some ⟨blk,off,none⟩/\∀j u,(aB pK zs)[j]? =some u->w.cell? ⟨blk,off+j,none⟩=some u
theorem LtrsIn.later (h:LtrsIn w ao zs) (hb:Below w.heap.size w w'):LtrsIn w' ao zs:=by
 rcases h with h | ⟨g,o,h1,h2⟩
 ·exact .inl h
 exact .inr ⟨g,o,h1,fun j u hj=>dB hb (h2 j u hj)⟩
theorem LtrsIn.at (h:LtrsIn w ao zs) {a:Int} {c:Nat} {g:Bool} (hi:zs[i]? =some (a,c,g)):∃blk off,ao=some ⟨blk,off,none⟩/\w.cell? ⟨blk,off+i*3,none⟩=some (.int .i64 a)/\w.cell? ⟨blk,off+i*3+1,none⟩=some (.int .u8 (c:Int))/\w.cell? ⟨blk,off+i*3+2,none⟩=some (.bool (!g)):=by
 rcases h with h | ⟨b,o,h1,h2⟩
 ·subst h;simp at hi
 have hg:=fun k hk=>bd (enc:=pK) (k:=3) ep (c:=k) hi hk
 refine ⟨b,o,h1,?_,?_,?_⟩
 ·exact h2 (i*3+0) _ (hg 0 zj)
 ·rw [uj];exact h2 _ _ (hg 1 zj)
 rw [uj];exact h2 _ _ (hg 2 zj)
def Gx (g:Nat) (lb:Array Value) (p:Ltr->Bool) (w:World):Prop:=
 ∀(W:World) (a:Int) (c:Nat) (gn:Bool),Below w.heap.size w W->Calls prog g (#[.agg #[.int .i64 a,.int .u8 (c:Int),.bool (!gn)]]++lb) W fun e w'=>e= .returned (.bool (p (a,c,gn)))/\Below w.heap.size w w'
theorem lH (p:Ltr->Bool) (g:Nat) (lb:Array Value) (eg:∀args w,(callFunc g args).run prog w= .ok (.enter g args) w) (ao:Option Addr) (cap:Nat) (zs:List Ltr) (w:World) (hp:Gx g lb p w) (hbig:zs.length<=1000000) (hin:LtrsIn w ao zs):
  Calls prog 262 #[.slice ao zs.length cap,.func (.func g) #[] lb] w fun e w'=>∃r:Int,e= .returned (.int .i64 r)/\Aside (MV p zs r/\Below w.heap.size w w'):=by
 have HP:Aside (Gx g lb p w):=hp
 have HI:Aside (LtrsIn w ao zs):=hin
 clear hp hin
 go_enter func262,ntmps262
 go_wp2
 go_loopg [5,8] zs.length (fun kx _ s8 wr=>∃(k:Nat),s8= .int .i64 (k:Int)/\k<=zs.length/\zs.length - k<=kx/\Aside (Below w.heap.size w wr/\∀j l,j<k->zs[j]? =some l->p l=false))
 case atStart=>exact ⟨0,rfl,jX _,jL _,⟨jN _ w,fun j l hj=>zj⟩⟩
 case round=>
  obtain ⟨k,rfl,hk,hkx,A⟩:=hrel
  by_cases hlt:k<zs.length
  ·have hltz:decide ((k:Int)<(zs.length:Int))=true:=by simp;omega
   have ek:((k:Int)).toNat=k:=zj
   have pk:(0:Int)<=(k:Int):=zj
   have bk:(k:Int)<(zs.length:Int):=zj
   obtain ⟨⟨a,c,gn⟩,hl⟩:∃l,Aside (zs[k]? =some l):=⟨zs[k],jK hlt⟩
   obtain ⟨blk,off,rfl,c0,c1,c2⟩:=(HI.o.later A.o.1).at hl.o
   have hcall:=HP.o wr a c gn A.o.1
   cases hq:p (a,c,gn) with
   | true=>
    exact kf9
   | false=>
    rw [hq] at hcall
    have HQ:=Lib.hid hq
    clear hq
    go_wp2_with (go_at_fn g;refine hcall.mono ?_;rintro e w' ⟨rfl,hb'⟩)
    go_roundg (zs.length - (k+1))
    case measure=>omega
    case rel=>
     refine ⟨k+1,zI,zj,jL _,⟨hb',fun j l hj e=> ?_⟩⟩
     rcases ue j k with h | h
     ·exact A.o.2 j l h e
     exact kl8
  exact kf4
theorem He (id:Int) (B:Nat) (w:World) (hB:B<w.heap.size) (hc:w.cell? ⟨B,0,none⟩=some (.int .i64 id)):Gx 263 #[.pointer (some ⟨B,0,none⟩)] (fun l=>decide (l.1=id)) w:=fun W a c gn hb=>by
 have hc':W.cell? ⟨B,0,none⟩=some (.int .i64 id):=(hb.cell (p:=⟨B,0,none⟩) hB).trans hc
 have hBW:B<W.heap.size:=jW hB hb.size
 have hne:B≠W.heap.size:=zj
 clear hc
 show Calls prog 263 #[.agg #[.int .i64 a,.int .u8 (c:Int),.bool (!gn)],.pointer (some ⟨B,0,none⟩)] W _
 go_enter func263,ntmps263
 go_wp2
 all_goals (go_ret;exact ⟨by simp [BEq.beq],hb.alloc hb.size _⟩)
theorem Gp (id:Int) (B:Nat) (w:World) (hB:B<w.heap.size) (hc:w.cell? ⟨B,0,none⟩=some (.int .i64 id)):Gx 266 #[.pointer (some ⟨B,0,none⟩)] (fun l=>decide (l.1<id)) w:=fun W a c gn hb=>by
 have hc':W.cell? ⟨B,0,none⟩=some (.int .i64 id):=(hb.cell (p:=⟨B,0,none⟩) hB).trans hc
 have hBW:B<W.heap.size:=jW hB hb.size
 have hne:B≠W.heap.size:=zj
 clear hc
 show Calls prog 266 #[.agg #[.int .i64 a,.int .u8 (c:Int),.bool (!gn)],.pointer (some ⟨B,0,none⟩)] W _
 go_enter func266,ntmps266
 go_wp2
 all_goals (go_ret;exact ⟨rfl,hb.alloc hb.size _⟩)
structure LineAt (base:Nat) (w:World) (p:Nat) (v:Value) (L:List Ltr):Prop where
 cell:w.heap[p]? =some (.cells #[v] 280 (0,0))
 row:w.ownsRow base 282 3 v L.length (aB pK L)
 low:p<base
 nodup:(L.map (·.1)).Nodup
 pos:∀l∈L,l.1≠0
 small:∀l∈L,l.2.1<256
theorem LineAt.c0 {base:Nat} (h:LineAt base w p v L):w.cell? ⟨p,0,none⟩=some v:=by simp [World.cell?,h.cell]
theorem LineAt.lt {base:Nat} (h:LineAt base w p v L):p<w.heap.size:=(jJ.1 h.cell).1
theorem oH {base:Nat} (h:w.ownsRow base e k v n xs) (hs:∀g,v.ownBlock=some g->w'.heap[g]? =w.heap[g]?):w'.ownsRow base e k v n xs:=by
 refine ⟨h.1,?_⟩
 rcases h.2 with h0 | ⟨g,cap,cur,rfl,h1,hg,h2⟩
 ·exact .inl h0
 exact kk3
theorem LineAt.same {base:Nat} (h:LineAt base w p v L) (h1:w'.heap[p]? =w.heap[p]?) (h2:∀g,v.ownBlock=some g->w'.heap[g]? =w.heap[g]?):LineAt base w' p v L:=
 ⟨h1.trans h.cell,oH h.row h2,h.low,h.nodup,h.pos,h.small⟩
theorem LineAt.later {base:Nat} (h:LineAt base w p v L) (hb:Below w.heap.size w w'):LineAt base w' p v L:=
 h.same (hb.block _ h.lt) (fun g hg=>hb.block g (h.row.lt g hg).2)
theorem iV {base:Nat} (h:w.ownsRow base e k v n xs):∃ao cap,v= .slice ao n cap:=by
 rcases h.2 with ⟨h1,h2⟩ | ⟨g,cap,cur,rfl,_⟩
 ·subst h2;exact ⟨_,_,h1⟩
 exact ⟨_,_,rfl⟩
theorem nw {base:Nat} (h:w.ownsRow base 282 3 (.slice ao L.length cap) L.length (aB pK L)):LtrsIn w ao L:=by
 have h':=h
 rcases h.2 with ⟨h1,h2⟩ | ⟨g,cap',cur,hv,_⟩
 ·exact kn9
 cases hv
 refine .inr ⟨g,0,rfl,fun j u hj=> ?_⟩
 have hl:j<(aB pK L).length:=(jI.1 hj).1
 rw [aa ep] at hl
 rw [vh,h'.cellAt j hl,hj]
theorem KG (w:World):Calls prog 136 #[] w fun e w'=>e= .returned (.pointer (some ⟨w.heap.size,0,none⟩))/\w'=w.alloc (.cells #[.slice none 0 0] 280):=by
 go_enter func136,ntmps136
 exact ka9
theorem dE (w:World) (base p:Nat) (v:Value) (L:List Ltr) (id:Int) (h:LineAt base w p v L) (hL:L.length<=1000):
  Calls prog 204 #[.pointer (some ⟨p,0,none⟩),.int .i64 id] w fun e w'=>e= .returned (.int .i64 (mo id L))/\Below w.heap.size w w':=by
 obtain ⟨ao,cap,rfl⟩:=iV h.row
 have eg:∀args w,(callFunc 263 args).run prog w= .ok (.enter 263 args) w:=enters_of func263 zk rfl
 have hbx:Below w.heap.size w (w.alloc (.cells #[.int .i64 id] 3)):=zh w _
 have hc:=lH (fun l=>decide (l.1=id)) 263 #[.pointer (some ⟨w.heap.size,0,none⟩)] eg ao cap L (w.alloc (.cells #[.int .i64 id] 3)) (He id w.heap.size _ zq ye) zj ((nw h.row).later hbx)
 have c0:=h.c0
 have hpl:=h.lt
 have HB:=Lib.hid hbx
 clear h eg hbx
 go_enter func204,ntmps204
 go_wp2_with fail
 refine hc.mono ?_
 rintro e w1 ⟨r,rfl,hr⟩
 go_wp2
 go_ret
 exact ⟨by rw [Ij hr.o.1];rfl,HB.o.trans (hr.o.2.mono zq)⟩
theorem Az (w:World) (base p k:Nat) (v:Value) (L:List Ltr) (id:Int) (h:LineAt base w p v L) (hL:L.length<=1000) (hk:k<=L.length) (hn:id∉L.map (·.1)):
  Calls prog 206 #[.pointer (some ⟨p,0,none⟩),.int .i64 (k:Int),.int .i64 id] w fun e w'=>e= .returned (.int .i64 ((k+cq id (L.drop k):Nat):Int))/\Below w.heap.size w w':=by
 have HN:Aside (id∉(L.drop k).map (·.1)):=fun hm=>hn (by
  obtain ⟨l,hl,e⟩:=vp.1 hm
  exact vp.2 ⟨l,uM hl,e⟩)
 have HS:Aside (cq id (L.drop k)<=L.length - k):=by have:=ke id (L.drop k);rwa [vx] at this
 obtain ⟨ao,cap,rfl⟩:=iV h.row
 have hLc:L.length<=cap:=by
  rcases h.row.2 with ⟨h1,h2⟩ | ⟨g,cap',cur,hv,_,_,h3,_⟩
  ·omega
  cases hv;exact h3
 have eg:∀args w,(callFunc 266 args).run prog w= .ok (.enter 266 args) w:=enters_of func266 zk rfl
 have hbx:Below w.heap.size w (w.alloc (.cells #[.int .i64 id] 3)):=zh w _
 have hdl:(L.drop k).length=L.length - k:=vx
 have hc:∀ap,LtrsIn w ap (L.drop k)->Calls prog 262 #[.slice ap (L.length - k) (cap - k),.func (.func 266) #[] #[.pointer (some ⟨w.heap.size,0,none⟩)]] (w.alloc (.cells #[.int .i64 id] 3)) _:=fun ap hap=>by
  have:=lH (fun l=>decide (l.1<id)) 266 #[.pointer (some ⟨w.heap.size,0,none⟩)] eg ap (cap - k) (L.drop k) (w.alloc (.cells #[.int .i64 id] 3)) (Gp id w.heap.size _ zq ye) (by rw [hdl];omega) (hap.later hbx)
  rw [hdl] at this
  exact this
 have c0:=h.c0
 have hpl:=h.lt
 have HI:Aside (LtrsIn w ao L):=nw h.row
 have HB:=Lib.hid hbx
 clear h eg hbx
 obtain ⟨q,hq⟩:∃q,Aside (cq id (L.drop k)=q):=⟨_,rfl⟩
 rw [hq.o] at HS |-
 have hq2:q<=L.length - k:=HS.o
 have d0:decide ((q:Int)<0)=false:=zq
 have e0:IntKind.i64.wrap ((k:Int)+(q:Int))=(k:Int)+(q:Int):=zr
 have HD:=Lib.hid hdl
 clear hdl HS
 go_enter func206,ntmps206
 go_wp2_with fail
 ·have hd0:L.drop k= []:=uv zj
  have hc':=hc ao (.inl hd0)
  rw [show cap - k=0 by omega] at hc'
  have hf:L.length=k+q:=by rw [<-hq.o,hd0];simp only [cq];omega
  have HF:=Lib.hid hf
  have hck:cap=k:=qj
  have c0':w.cell? ⟨p,0,none⟩=some (Value.slice ao L.length k):=by rw [<-hck];exact c0
  refine hc'.mono ?_
  rintro e w1 ⟨r,rfl,hr⟩
  have hr1:r= -1:=by
   rcases hr.o.1 with ⟨h,_⟩ | ⟨i,l,_,hl,_⟩
   ·exact h
   rw [hd0] at hl;simp at hl
  subst hr1
  have hB1:Below w.heap.size w w1:=HB.o.trans (hr.o.2.mono zq)
  have c1:=dB hB1 c0'
  have H1:=Lib.hid hB1
  clear hB1 hr hc' hf hd0 hck c0 c0' hc hLc
  go_wp2
  go_ret
  exact ⟨by rw [HF.o];rfl,H1.o⟩
 have hLp:LtrsIn w (ao.map (fun x=>x.add (k*3))) (L.drop k):=by
  rcases HI.o with h0 | ⟨b,o,rfl,hcell⟩
  ·subst h0;exact .inl zq
  refine .inr ⟨b,o+k*3,by simp [Addr.add],fun j u hj=> ?_⟩
  rw [<-eO ep L k hk,vW] at hj
  rw [uj]
  exact hcell _ u hj
 refine (hc _ hLp).mono ?_
 clear hc HI hLp
 rintro e w1 ⟨r,rfl,hr⟩
 have hB1:Below w.heap.size w w1:=HB.o.trans (hr.o.2.mono zq)
 have c1:=dB hB1 c0
 have H1:=Lib.hid hB1
 rcases LQ HN.o hr.o.1 with ⟨rfl,hs⟩ | hs
 ·have hf:L.length=k+q:=by rw [hq.o,HD.o] at hs;omega
  have HF:=Lib.hid hf
  clear hB1 hr hs hf
  go_wp2
  go_ret
  exact ⟨by rw [HF.o];rfl,H1.o⟩
 rw [hq.o] at hs
 subst hs
 clear hB1 hr
 go_wp2
 go_ret
 exact ⟨zq,H1.o⟩
end
section
open Go.RowKit Go.Lib Go.Sort
section
variable {P:Program} {ops:Array Oper} {Q:Exit→Act→World→Prop} {md:Region.Mode} {S:World→Prop} {z:Nat}
theorem Bl {j:Nat} {oi oj:Oper} {fuel:Nat} {listed:Array Bool} {a:Act} (hr:Region.ready md ops listed= [i,j]) (hoi:ops[i]? =some oi) (hoj:ops[j]? =some oj)
  (h1:∀K:Act->World->Prop,(∀a' w',(S w'\/i=z/\z<listed.size)->cW P md ops Q S z fuel (listed.setIfInBounds i true) a' w'->K a' w')->if Region.wanted oi (yielded ops a.tmps)=true then Oper.wp P oi a w K Q else K (a.put oi.dst undef) w)
  (h2:∀K:Act->World->Prop,(∀a' w',(S w'\/j=z/\z<listed.size)->cW P md ops Q S z fuel (listed.setIfInBounds j true) a' w'->K a' w')->if Region.wanted oj (yielded ops a.tmps)=true then Oper.wp P oj a w K Q else K (a.put oj.dst undef) w):cW P md ops Q S z (fuel+1) listed a w:=by
 refine ⟨fun h0=>yK,fun k hk=> ?_⟩
 rw [hr] at hk
 simp only [jQ,uu,or_false] at hk
 rcases hk with rfl | rfl
 ·have:=h1 (fun a' w'=>(S w'\/(listed.setIfInBounds k true).getD z false=true)/\cW P md ops Q S z fuel (listed.setIfInBounds k true) a' w') (fun a' w' h1 h2=>⟨h1.imp id (fun h=>by
   obtain ⟨e,hl⟩:=h
   subst e
   simp [hl]),h2⟩)
  unfold wpOp
  simp only [hoi]
  split
  ·rename_i hw
   exact kg1
  rename_i hw
  exact kh6
 have:=h2 (fun a' w'=>(S w'\/(listed.setIfInBounds k true).getD z false=true)/\cW P md ops Q S z fuel (listed.setIfInBounds k true) a' w') (fun a' w' h1 h2=>⟨h1.imp id (fun h=>by
  obtain ⟨e,hl⟩:=h
  subst e
  simp [hl]),h2⟩)
 unfold wpOp
 simp only [hoj]
 split
 ·rename_i hw
  exact kg1
 rename_i hw
 exact kh6
end
structure Ln4 (ad:Nat->Addr) (w:World):Prop where
 c1:w.cell? ⟨0,0,none⟩=some (.iface 450 (.pointer (some (ad 1))))
 c2:w.cell? ⟨4,0,none⟩=some (.iface 450 (.pointer (some (ad 2))))
 c5:w.cell? ⟨1,0,none⟩=some (.iface 450 (.pointer (some (ad 5))))
 c6:w.cell? ⟨7,0,none⟩=some (.iface 450 (.pointer (some (ad 6))))
theorem Ln4.later (h:Ln4 ad w) (hb:Below w.heap.size w w'):Ln4 ad w':=
 ⟨dB hb h.c1,dB hb h.c2,dB hb h.c5,dB hb h.c6⟩
def ll (id behind:Int):Prop:=4<=id/\id<4294967300/\0<=behind/\behind<id
theorem rn (w:World) (p:Nat) (id behind:Int) (c:Nat) (hE:Ln4 ad w) (hi: -9223372036854775808<=id/\id<=9223372036854775807) (h:¬ll id behind):
  Calls prog 138 #[.pointer (some ⟨p,0,none⟩),.int .i64 id,.int .i64 behind,.int .u8 (c:Int)] w fun e w'=>e= .returned (.iface 450 (.pointer (some (ad 2))))/\Below w.heap.size w w':=by
 have HE:Aside (Ln4 ad w):=hE
 have hzb:0<w.heap.size:=jR w ⟨_,0,none⟩ hE.c1
 by_cases h1:4<=id/\id<4294967300
 ·have hof:=Ev id w h1.1 h1.2
  by_cases h2:behind<0
  ·have d2:decide (behind<0)=true:=decide_eq_true h2
   exact kb1
  have d2:decide (behind<0)=false:=decide_eq_false h2
  have d3:decide (id<=behind)=true:=decide_eq_true (by unfold ll at h;omega)
  exact kb1
 have hof:=Np id w _ _ hE.c1 hzb zj hi.1 hi.2
 exact kb1
theorem rO (w:World) (base p:Nat) (v:Value) (L:List Ltr) (id behind:Int) (c:Nat) (hE:Ln4 ad w) (hT:LineAt base w p v L) (hL:L.length<=1000) (h:ll id behind) (hx:id∈L.map (·.1)):
  Calls prog 138 #[.pointer (some ⟨p,0,none⟩),.int .i64 id,.int .i64 behind,.int .u8 (c:Int)] w fun e w'=>e= .returned (.iface 450 (.pointer (some (ad 6))))/\Below w.heap.size w w':=by
 have HE:Aside (Ln4 ad w):=hE
 have HT:Aside (LineAt base w p v L):=hT
 have hof:=Ev id w h.1 h.2.1
 have d2:decide (behind<0)=false:=decide_eq_false xP
 have d3:decide (id<=behind)=false:=decide_eq_false xU
 obtain ⟨i,hi,-,hil⟩:=rW hx
 have d4:decide ((0:Int)<=(i:Int))=true:=zq
 have HI:=Lib.hid hi
 clear hE hT h hx hi
 go_enter func138,ntmps138
 go_wp2_with fail
 refine hof.mono ?_
 rintro e w1 ⟨rfl,hb⟩
 have B2:Aside (∀o,Below w.heap.size w (w1.alloc o)):=fun o=>hb.alloc hb.size o
 clear hb hof
 go_wp2_with fail
 refine (dE _ base p v L id (HT.o.later (B2.o _)) hL).mono ?_
 rintro e w2 ⟨rfl,hb2⟩
 rw [HI.o]
 have B3:Aside (Below w.heap.size w w2):=(B2.o _).trans (hb2.mono (B2.o _).size)
 have c6:=(HE.o.later B3.o).c6
 clear hb2
 go_wp2
 go_ret
 exact ⟨rfl,B3.o⟩
theorem ss (w:World) (base p:Nat) (v:Value) (L:List Ltr) (id behind:Int) (c:Nat) (hE:Ln4 ad w) (hT:LineAt base w p v L) (hL:L.length<=1000) (h:ll id behind) (hx:id∉L.map (·.1)) (h0:behind≠0) (hy:behind∉L.map (·.1)):
  Calls prog 138 #[.pointer (some ⟨p,0,none⟩),.int .i64 id,.int .i64 behind,.int .u8 (c:Int)] w fun e w'=>e= .returned (.iface 450 (.pointer (some (ad 5))))/\Below w.heap.size w w':=by
 have HE:Aside (Ln4 ad w):=hE
 have HT:Aside (LineAt base w p v L):=hT
 have hof:=Ev id w h.1 h.2.1
 have d2:decide (behind<0)=false:=decide_eq_false xP
 have d3:decide (id<=behind)=false:=decide_eq_false xU
 have d4:(behind !=0)=true:=xC
 have HI:=Lib.hid (fx hx)
 have HJ:=Lib.hid (fx hy)
 clear hE hT h hx hy h0
 go_enter func138,ntmps138
 go_wp2_with fail
 refine hof.mono ?_
 rintro e w1 ⟨rfl,hb⟩
 have B2:Aside (∀o,Below w.heap.size w (w1.alloc o)):=fun o=>hb.alloc hb.size o
 clear hb hof
 go_wp2_with fail
 refine (dE _ base p v L id (HT.o.later (B2.o _)) hL).mono ?_
 rintro e w2 ⟨rfl,hb2⟩
 rw [HI.o]
 have B3:Aside (Below w.heap.size w w2):=(B2.o _).trans (hb2.mono (B2.o _).size)
 clear hb2
 go_wp2_with fail
 refine (dE _ base p v L behind (HT.o.later B3.o) hL).mono ?_
 rintro e w3 ⟨rfl,hb3⟩
 rw [HJ.o]
 have B4:Aside (Below w.heap.size w w3):=zi B3.o hb3
 have c5:=(HE.o.later B4.o).c5
 clear hb3
 go_wp2
 go_ret
 exact ⟨rfl,B4.o⟩
end
section
open Go.RowKit Go.Shelf
attribute [local go_sem] Oper.semAt_some
def gW (x:Ent):List Value:=[.int .i64 x.1.1.1,.int .i64 x.1.1.2,.int .i64 x.1.2.1,.int .i64 x.1.2.2.1,.string x.1.2.2.2,.int .i64 x.2.1,.int .i64 x.2.2.1,.string x.2.2.2]
theorem eA (x:Ent):(gW x).length=8:=rfl
theorem AB (x:Ent):∀v∈gW x,v.oneCell'=true:=by
 intro v hv
 simp only [gW,jQ,uu,or_false] at hv
 exact kg8
def Ox:Ent:=(((0,0),cZ),cZ)
def cL (L:List Ent) (r:Nat):Ent:=L.getD (L.length - 1 - r) Ox
def MA (L:List Ent) (r:Nat):Array Value:= #[.int .i64 ((L.length - 1 - r:Nat):Int),.agg #[.int .i64 (cL L r).1.1.1,.int .i64 (cL L r).1.1.2,.int .i64 (cL L r).1.2.1,.int .i64 (cL L r).1.2.2.1,.string (cL L r).1.2.2.2,.int .i64 (cL L r).2.1,.int .i64 (cL L r).2.2.1,.string (cL L r).2.2.2]]
def KeepTwo (g h:Nat) (W W':World):Prop:=W'.heap[g]? =W.heap[g]? /\W'.heap[h]? =W.heap[h]?
theorem KeepTwo.refl (g h:Nat) (W:World):KeepTwo g h W W:=⟨rfl,rfl⟩
theorem KeepTwo.trans {g h:Nat} {A B C:World} (x:KeepTwo g h A B) (y:KeepTwo g h B C):KeepTwo g h A C:=⟨y.1.trans x.1,y.2.trans x.2⟩
theorem KeepTwo.put {N:Nat} (hg:g<N) (hh:h<N) (W:World) (l:Nat) (o':Obj) (hl:N<=l):KeepTwo g h W (W.putObj l o'):=
 ⟨World.putObj_heap_other zj,World.putObj_heap_other zj⟩
def RowAt (W:World) (g off:Nat) (L:List Ent):Prop:=∀j u,(aB gW L)[j]? =some u->W.cell? ⟨g,off+j,none⟩=some u
theorem RowAt.same {W':World} {off:Nat} {L:List Ent} (h:RowAt W g off L) (e:W'.heap[g]? =W.heap[g]?):RowAt W' g off L:=fun j u hj=>by
 have:=h j u hj
 rw [<-this]
 exact vi (a:=⟨g,off+j,none⟩) e
theorem RowAt.at {off:Nat} {L:List Ent} (h:RowAt W g off L) {x:Ent} (hx:L[i]? =some x) (c:Nat) {u:Value} (hu:(gW x)[c]? =some u):W.cell? ⟨g,off+i*8+c,none⟩=some u:=by
 have hc:c<8:=by have:=(jI.1 hu).1;rwa [eA] at this
 rw [uj]
 exact h _ u (by rw [bd eA hx hc];exact hu)
theorem Hk (F:Fence) (n:Nat) (h7:F.fn 308) (hro:F.round=none) (hn:1<=n) (l Bs g off cap:Nat) (ao:Option Addr) (L:List Ent) (hlen:L.length<=1000) (hao:L= []\/ao=some ⟨g,off,none⟩) (J Jx:List Nat->World->Prop)
  (hY:∀pre x W,J pre W->pre.length<L.length->YieldAt F (n - 1) prog l (MA L x) W fun e W'=>
   (e= .returned (.bool true)/\J (pre++ [x]) W'/\KeepTwo g Bs W W')\/(e= .returned (.bool false)/\Jx (pre++ [x]) W'))
  (W:World) (hBs:W.cell? ⟨Bs,0,none⟩=some (.slice ao L.length cap)) (hc:RowAt W g off L) (h0:J [] W):
  CallsIn F n prog 308 #[.func (.yield l) #[] #[],.pointer (some ⟨Bs,0,none⟩)] W fun e W'=>(∃v,e= .returned v)/\
   ((∃ys,ys=List.range L.length/\J ys W')\/(∃pre,(∃k,k<=L.length/\pre=List.range k)/\Jx pre W')):=by
 refine callsIn_of_wp func308 rfl h7 ?_ hro
 simp only [ntmps308,vu,jY,vw,Nat.reduceAdd,Nat.reduceSub,vQ,vR,vY,vT,ua,vX]
 have hw0:IntKind.i64.wrap ((L.length:Int) - 1)=(L.length:Int) - 1:=zr
 gi_wp2
 gi_loopw [3] (fun i wr=>∃k:Nat,k<=L.length/\i= .int .i64 ((L.length:Int) - 1 - k)/\J (List.range k) wr/\KeepTwo g Bs W wr)
  (fun i _=>(intOf i+1).toNat)
 case atStart=>exact ⟨0,jX _,zq,h0,KeepTwo.refl _ _ _⟩
 case round=>
  obtain ⟨k,hk,rfl,hJs,hnx⟩:=hrel
  have hBs':wr.cell? ⟨Bs,0,none⟩=some (.slice ao L.length cap):=(vi (a:=⟨Bs,0,none⟩) hnx.2).trans hBs
  by_cases hlt:k<L.length
  ·have hao':ao=some ⟨g,off,none⟩:=hao.resolve_left (fun e=>by rw [e] at hlt;simp at hlt)
   subst hao'
   obtain ⟨fn,tmps,assign,body,hy,hR⟩:=hY _ k wr hJs (by rw [List.length_range];exact hlt)
   have hix:L[L.length - 1 - k]? =some (cL L k):=by
    exact kh1
   have hrow:=hc.same hnx.1
   obtain ⟨x,hx⟩:=za (cL L k)
   rw [<-hx] at hix
   obtain ⟨i,hi⟩:=za (L.length - 1 - k)
   have hil:(L.length:Int) - 1 - k=(i:Int):=zj
   have hilt:i<L.length:=zj
   unfold MA at hy
   rw [<-hx,<-hi] at hy
   rw [<-hi] at hix
   have c0:wr.cell? ⟨g,off+i*8,none⟩=some (.int .i64 x.1.1.1):=hrow.at hix 0 (u:=.int .i64 x.1.1.1) rfl
   have c1:=hrow.at hix 1 (u:=.int .i64 x.1.1.2) rfl
   have c2:=hrow.at hix 2 (u:=.int .i64 x.1.2.1) rfl
   have c3:=hrow.at hix 3 (u:=.int .i64 x.1.2.2.1) rfl
   have c4:=hrow.at hix 4 (u:=.string x.1.2.2.2) rfl
   have c5:=hrow.at hix 5 (u:=.int .i64 x.2.1) rfl
   have c6:=hrow.at hix 6 (u:=.int .i64 x.2.2.1) rfl
   have c7:=hrow.at hix 7 (u:=.string x.2.2.2) rfl
   rw [hil]
   have hw1:IntKind.i64.wrap ((i:Int) - 1)=(i:Int) - 1:=zr
   have hi0:(0:Int)<=(i:Int):=zj
   have hib:(i:Int)<(L.length:Int):=zj
   have HK:Aside (i=L.length - 1 - k/\k<L.length/\KeepTwo g Bs W wr):=⟨hi,hlt,hnx⟩
   have hR':Aside (RoundIn F (n - 1) prog l fn tmps assign body wr fun e W'=>(e= .returned (.bool true)/\J (List.range k++ [k]) W'/\KeepTwo g Bs wr W')\/(e= .returned (.bool false)/\Jx (List.range k++ [k]) W')):=hR
   clear hi hil hlt hk hix hx hR hrow hnx hJs hY h0
   gi_wp2
   refine hR'.o.mono ?_
   rintro e W3 (⟨rfl,hJ3,hk3⟩ | ⟨rfl,hJx3⟩)
   ·gi_wp2
    go_roundw
    case rel=>exact ⟨k+1,xb,by have:=HK.o;congr 1;omega,by rw [uH];exact hJ3,HK.o.2.2.trans hk3⟩
    case measure=>have:=HK.o;simp [intOf]
   gi_wp2
   refine bodyPost_ret (results_none rfl _ _ _) rfl ?_
   exact ⟨⟨_,rfl⟩,.inr ⟨_,⟨k+1,xb,(uH).symm⟩,hJx3⟩⟩
  obtain rfl:k=L.length:=zj
  gi_wp2
  go_end0
  exact ⟨⟨_,rfl⟩,.inl ⟨_,rfl,hJs⟩⟩
end
section
open Go Go.RowKit
theorem dt (hb:Below w.heap.size w w') (h:w.cell? ⟨b,o,none⟩=some v):w'.cell? ⟨b,o,none⟩=some v:=by
 exact kf6
theorem au {base:Nat} (h:w.ownsRow base e k v n xs) (hs:∀g,v.ownBlock=some g->w'.heap[g]? =w.heap[g]?):w'.ownsRow base e k v n xs:=by
 refine ⟨h.1,?_⟩
 rcases h.2 with h0 | ⟨g,cap,cur,rfl,h1,hg,h2⟩
 ·exact .inl h0
 exact kk3
theorem tY {base base':Nat} (h:w.ownsRow base e k v n xs) (hb:base'<=base):w.ownsRow base' e k v n xs:=by
 refine ⟨h.1,h.2.imp (fun e=>e) ?_⟩
 rintro ⟨g,cap,cur,h1,h2,h3⟩
 exact ⟨g,cap,cur,h1,zj,h3⟩
theorem dV {base:Nat} (h:w.ownsRow base e k v n xs):∃ao cap,v= .slice ao n cap:=by
 rcases h.2 with ⟨h1,h2⟩ | ⟨g,cap,cur,rfl,_⟩
 ·subst h2;exact ⟨_,_,h1⟩
 exact ⟨_,_,rfl⟩
section
variable {α:Type} {enc:α→List Value} {k:Nat}
def InRow (enc:α->List Value) (w:World) (ao:Option Addr) (zs:List α):Prop:=zs= []\/∃blk off,ao=some ⟨blk,off,none⟩/\∀j u,(aB enc zs)[j]? =some u->w.cell? ⟨blk,off+j,none⟩=some u
theorem InRow.later {zs:List α} (h:InRow enc w ao zs) (hb:Below w.heap.size w w'):InRow enc w' ao zs:=by
 rcases h with h | ⟨g,o,h1,h2⟩
 ·exact .inl h
 exact .inr ⟨g,o,h1,fun j u hj=>dt hb (h2 j u hj)⟩
theorem InRow.kept {zs:List α} (h:InRow enc w ao zs) (hk:∀g o,ao=some ⟨g,o,none⟩->w'.heap[g]? =w.heap[g]?):InRow enc w' ao zs:=by
 rcases h with h | ⟨g,o,h1,h2⟩
 ·exact .inl h
 exact .inr ⟨g,o,h1,fun j u hj=>by rw [vi (a:=⟨g,o+j,none⟩) (hk g o h1)];exact h2 j u hj⟩
theorem InRow.get (hlen:∀x,(enc x).length=k) {zs:List α} (h:InRow enc w ao zs) {x:α} (hi:zs[i]? =some x):∃blk off,ao=some ⟨blk,off,none⟩/\∀c u,(enc x)[c]? =some u->w.cell? ⟨blk,off+i*k+c,none⟩=some u:=by
 rcases h with h | ⟨b,o,h1,h2⟩
 ·subst h;simp at hi
 refine ⟨b,o,h1,fun c u hc=> ?_⟩
 have hck:c<k:=by have:=(jI.1 hc).1;rwa [hlen] at this
 rw [uj]
 exact h2 _ _ ((bd (enc:=enc) hlen hi hck).trans hc)
theorem Mv (hlen:∀x,(enc x).length=k) {base:Nat} {L:List α} (h:w.ownsRow base T k (.slice ao L.length cap) L.length (aB enc L)):InRow enc w ao L:=by
 have h':=h
 rcases h.2 with ⟨h1,h2⟩ | ⟨g,cap',cur,hv,_⟩
 ·exact kn9
 cases hv
 refine .inr ⟨g,0,rfl,fun j u hj=> ?_⟩
 have hl:j<(aB enc L).length:=(jI.1 hj).1
 rw [aa hlen] at hl
 rw [vh,h'.cellAt j hl,hj]
theorem fj {P:Program} {S:TypeId} {z:Value} {bytes:Nat} (hS:P.underlying S=some (.slice T)) (hinfo:(P.info? T).map (fun i=>(i.zero,i.size,i.bytes))=some (some z,k,bytes)) (hb1:bytes<=1000) (hk0:0<k) (hzc:z.cells.size=k)
  (hlen:∀x,(enc x).length=k) (hone:∀x,∀v∈enc x,v.oneCell'=true)
  {base:Nat} (ho:w.ownsRow base T k v n xs) (hn:n<=2000) (hbase:base<=w.heap.size) (ap:Option Addr) (c:Nat) (ys:List α) (hy:ys.length<=2000) (hap:InRow enc w ap ys) (hc:ap=none->c=0) (ty:TypeId):
  ∃v' w',(Builtin.append_ #[S,S] ty #[v,.slice ap ys.length c]).run P w= .ok v' w'/\w'.ownsRow base T k v' (n+ys.length) (xs++aB enc ys)/\w.grownBy w' v.ownBlock:=by
 obtain ⟨i0,hi,hz0,hz1,hz2⟩:=info_parts hinfo
 cases ap with
 | none=>
  have h0:ys= []:=by
   rcases hap with h | ⟨_,_,h,_⟩
   ·exact h
   cases h
  subst h0
  rw [hc rfl]
  refine ⟨v,w,run_append_owned_none w base _ ty _ i0 k hS hi v n xs ho,by simpa [aB] using ho,⟨rfl,rfl,rfl,jL _,fun _ _ _=>rfl⟩⟩
 | some a=>
  have hl:(aB enc ys).length=ys.length*k:=aa hlen ys
  obtain ⟨v',w',h1,h2,h3,-⟩:=run_append_own (P:=P) w base S ty T i0 _ k bytes hS hi hz0 hz1 hz2 hzc zj v n xs ho a ys.length c (aB enc ys) hl (fun j u hj=>by
   rcases hap with h | ⟨b,o,h,hcell⟩
   ·subst h;simp [aB] at hj
   ·cases h
    rw [Addr.add_lit]
    exact hcell j u hj) (lS hone ys) zu (by have:=Nat.mul_le_mul (show n+ys.length<=4000 by omega) hb1;omega) hbase
  exact ⟨v',w',h1,h2,h3⟩
end
end
section
open Go Go.RowKit
def PH (m:dw×bQ):List Value:=[.int .i64 m.1.1,.string m.1.2,.string m.2.1,.int .i64 m.2.2.1,.int .i64 m.2.2.2]
structure Nq (base:Nat) (w:World) (p:Nat) (v:Value) (L:List (dw×bQ)):Prop where
 cell:w.heap[p]? =some (.cells #[v] 87 (0,0))
 row:w.ownsRow base 89 5 v L.length (aB PH L)
 low:p<base
def LaidIn (base:Nat) (w:World) (p:Nat) (v:Value) (L':List (dw×bQ)) (w':World):Prop:=
 ∃v',Nq base w' p v' L'/\Keeps (fun b=>b=p\/some b=v.ownBlock) w w'/\(∀g,v'.ownBlock=some g->v.ownBlock=some g\/w.heap.size<=g)
end
section
open Go Go.RowKit
abbrev MK (U:World) (p S g o:Nat) (v:Value) (t' b' t b:Int) (w:World):Prop:=w.cell? ⟨p,0,none⟩=some v/\w.cell? ⟨g,o+3,none⟩=some (.int .i64 t')/\w.cell? ⟨g,o+4,none⟩=some (.int .i64 b')/\w.cell? ⟨S,3,none⟩=some (.int .i64 t)/\w.cell? ⟨S,4,none⟩=some (.int .i64 b)/\Below U.heap.size U w
