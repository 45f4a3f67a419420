import Derived.Test.YtebpcnkdhgnghaaGreatDoorPA05
import Derived.Test.YtebpcnkdhgnghaaGreatDoorPA06
import Derived.Shelf.Spec.SlicesInsertGrow
import Derived.Shelf.SlSortCmp.NoneTotal
set_option linter.unusedSimpArgs false
set_option linter.unusedVariables false
set_option maxRecDepth 100000
set_option maxHeartbeats 64000000
namespace Go.Proofs.YtebpcnkdhgnghaaGreatDoor
open Go.Proofs.Tryz
variable {g n:Nat} {ad:Nat→Addr} {P:Program} {w w':World}
section
open Go.Shelf Go.RowKit Go.Lib
theorem wO:(prog.info? 300).map (fun i=>(i.zero,i.size,i.bytes))=some (some (.agg #[.int .i64 0,.int .i64 0,.int .i64 0,.int .i64 0,.string ⟨#[]⟩,.int .i64 0,.int .i64 0,.string ⟨#[]⟩]),8,80):=zk
def Le (w:World) (base:Nat) (v:Value) (n:Nat) (ys:List Value) (e:Ending) (w':World):Prop:=
 ∃v',e= .returned v'/\w'.ownsRow base 300 8 v' (n+1) ys/\Keeps (fun k=>some k=v.ownBlock) w w'/\(v'.ownBlock=v.ownBlock\/v'.ownBlock=some w.heap.size)
theorem BK (w:World) (base:Nat) (v:Value) (n:Nat) (xs vs:List Value) (hown:w.ownsRow base 300 8 v n xs) (hn:n<=1000) (vb:Nat) (hv:vs.length=8)
  (hvs:∀j u,vs[j]? =some u->w.cell? ⟨vb,j,none⟩=some u) (h1v:∀u∈vs,u.oneCell'=true) (hbase:base<=w.heap.size):
  Calls prog 201 #[v,.int .i64 n,.slice (some ⟨vb,0,none⟩) 1 1] w (Le w base v n (xs++vs)):=by
 obtain ⟨i0,hi,hz0,hz1,hz2⟩:=info_parts wO
 obtain ⟨v',w',hrun,ho,hg,hb⟩:=rB (P:=prog) w base 194 194 300 i0 _ 8 80 underlying194 hi hz0 hz1 hz2 rfl zj v n xs hown ⟨vb,0,none⟩ 1 1 zj vs zj
  (fun j u hj=>xJ) h1v zu zj hbase
 have hfin:Aside (Le w base v n (xs++vs) (.returned v') w'):=⟨v',rfl,ho,aP hg,hb⟩
 rcases hown.2 with ⟨rfl,rfl⟩ | ⟨g,cap,cur,rfl,hbg,hgb,hnc,hcm,hcs,htake⟩
 ·clear hown ho hg hb hvs h1v
  go_enter func201,ntmps201
  exact kj0
 clear hown ho hg hb hvs h1v htake hcs hgb hbg
 go_enter func201,ntmps201
 go_wp2_with (at_builtin;refine Lib.wpList_append_run _ rfl _ _ _ _ rfl _ _ rfl rfl _ _ hrun ?_)
 all_goals (go_ret;exact hfin.o)
theorem sC (w:World) (base g n cap i:Nat) (xs vs:List Value) (hown:w.ownsRow base 300 8 (.slice (some ⟨g,0,none⟩) n cap) n xs) (hn:n<=1000) (vb:Nat) (hv:vs.length=8)
  (hvs:∀j u,vs[j]? =some u->w.cell? ⟨vb,j,none⟩=some u) (h1v:∀u∈vs,u.oneCell'=true) (h1x:∀u∈xs,u.oneCell'=true) (hvb:vb≠g) (hsa:w.shape? vb=some (300,8)) (hfa:∀j,w.frozen? ⟨vb,j,none⟩=false)
  (hi:i<n) (hroom:n+1<=cap):
  Calls prog 201 #[.slice (some ⟨g,0,none⟩) n cap,.int .i64 i,.slice (some ⟨vb,0,none⟩) 1 1] w (Le w base (.slice (some ⟨g,0,none⟩) n cap) n (xs.take (i*8)++vs++xs.drop (i*8))):=by
 have hL:Aside (∀W:World,W.heap=w.heap->W.os=w.os->W.tape=w.tape->W.output=w.output->Le w base (.slice (some ⟨g,0,none⟩) n cap) n (xs.take (i*8)++vs++xs.drop (i*8)) (.returned (.slice (some ⟨g,0,none⟩) (n+1) cap)) ((W.setCells g ((i+1)*8) (xs.drop (i*8))).setCells g (i*8) vs)):=by
  intro W h0 h2 h3 h4
  have hownW:W.ownsRow base 300 8 (.slice (some ⟨g,0,none⟩) n cap) n xs:=jx
  have k1:=(aY g (xs.drop (i*8)) ((i+1)*8) W).trans (aY g vs (i*8) _)
  exact kf1
 obtain ⟨hxl,h2⟩:=hown
 rcases h2 with ⟨hc,_⟩ | ⟨g',cap',cur,hc,hbg,hgb,hnc,hcm,hcs,htake⟩
 ·cases hc
 cases hc
 have hcm':cap<=9223372036854775807:=by simp only [maxLen] at hcm;omega
 have hsp:∀j,j<(n+1)*8->(w.cell? ⟨g,j,none⟩).isSome=true:=fun j hj=>by
  have:j<cur.size:=by rw [hcs];omega
  simp [World.cell?,hgb,this]
 have hfz:∀j,w.frozen? ⟨g,j,none⟩=false:=fun j=>by simp [World.frozen?,hgb]
 have hcell:∀j u,xs[j]? =some u->w.cell? ⟨g,j,none⟩=some u:=fun j u hj=>by
  exact kd2
 have hsb:w.shape? g=some (300,cap*8):=by simp [World.shape?,hgb,hcs]
 have hsz:(prog.info? 300).map (·.size)=some 8:=by
  obtain ⟨i0,hi0,_,h1,_⟩:=info_parts wO
  rw [hi0];simp [h1]
 have hov:∀lb cb,(callFunc 259 #[.slice (some ⟨vb,0,none⟩) 1 1,.slice (some ⟨g,(i+1)*8,none⟩) lb cb]).run prog w= .ok (.value (.bool false)) w:=fun lb cb=>by
  rw [run_callFunc_extern func259 zk zk zk (e:=Extern.SlicesOverlaps.overlaps #[194,194] #[4]) zk,
   Lib.run_overlaps_apart w 194 4 300 underlying194 8 sizeOf300 ⟨vb,0,none⟩ ⟨g,(i+1)*8,none⟩ 1 1 lb cb hvb 300 300 8 (cap*8) hsa hsb zj (hfa 0) (hfa 8)]
  rfl
 have hdl:(xs.drop (i*8)).length=n*8 - i*8:=qa
 have hcp1:∀ty dc sc,(Builtin.copy_ #[194,194] ty #[.slice (some ⟨g,(i+1)*8,none⟩) (n - i) dc,.slice (some ⟨g,i*8,none⟩) (n+1 - i) sc]).run prog w.drew= .ok (goInt ((n - i:Nat):Int)) (w.drew.setCells g ((i+1)*8) (xs.drop (i*8))):=fun ty dc sc=>by
  have hmin:Nat.min (n+1 - i) (n - i)=n - i:=zX
  have:=cG (P:=prog) w.drew 194 194 ty 300 8 g ((i+1)*8) (n - i) dc ⟨g,i*8,none⟩ (n+1 - i) sc (xs.drop (i*8)) underlying194 hsz qE
   (fun j u hj=>by rw [Addr.add_lit];exact hcell _ u (by rwa [vW] at hj))
   (fun j hj=>hsp _ qx) (fun j _=>hfz _) (fun u hu=>h1x u (uM hu))
  exact kh7
 obtain ⟨W1,hW1⟩:=za (w.drew.setCells g ((i+1)*8) (xs.drop (i*8)))
 have hsp1:∀j,j<(n+1)*8->(W1.cell? ⟨g,j,none⟩).isSome=true:=fun j hj=>by
  rw [hW1]
  exact isSome_setCells g (xs.drop (i*8)) ((i+1)*8) w.drew (fun t ht=>hsp ((i+1)*8+t) (by rw [hdl] at ht;omega)) _ (hsp j hj)
 have hcp2:∀(W:World),(∀x,W.cell? x=W1.cell? x)->(∀x,W.frozen? x=W1.frozen? x)->∀ty dc,(Builtin.copy_ #[194,194] ty #[.slice (some ⟨g,i*8,none⟩) (n+1 - i) dc,.slice (some ⟨vb,0,none⟩) 1 1]).run prog W= .ok (goInt 1) (W.setCells g (i*8) vs):=fun W hWc hWf ty dc=>by
  have hmin:Nat.min 1 (n+1 - i)=1:=zX
  have:=cG (P:=prog) W 194 194 ty 300 8 g (i*8) (n+1 - i) dc ⟨vb,0,none⟩ 1 1 vs underlying194 hsz xM
   (fun j u hj=>by
    rw [Addr.add_lit,vh,hWc,hW1,ur g _ _ _ _ (fun h _=>absurd h hvb)]
    exact hvs j u hj)
   (fun j hj=>by rw [hWc];exact hsp1 _ zj) (fun j _=>by rw [hWf,hW1,uw];exact hfz _) h1v
  exact kh7
 rw [<-hW1] at hcp1
 have hw1:IntKind.i64.wrap ((i:Int)+1)=(i:Int)+1:=zr
 have hw2:IntKind.i64.wrap ((n:Int)+1)=(n:Int)+1:=zr
 have hb1:(0:Int)<=(i:Int)+1:=zj
 have hz2:¬((i:Int)=(n:Int)):=zj
 have hin:i<=n:=zj
 have htn:((i:Int)+1).toNat=i+1:=zj
 have htn2:((n:Int)+1).toNat=n+1:=zj
 have hb2:¬(cap=i+1):=zj
 have hb3:(i:Int)<=(n:Int)+1:=zj
 have hb4:¬(cap=i):=zj
 have hb5:¬((cap:Int)<(n:Int)+1):=zj
 clear htake hcs hgb hsp hfz hcell hsb hcm hxl hdl hvs h1v h1x hsa hfa hsp1 hbg
 go_enter func201,ntmps201
 go_wp2_with (simp only [hov])
 have mixed:prog.follows .mixedOrders=true:=zk
 go_region_law_o (refine step_copy_runI rfl _ _ 194 194 rfl _ _ zZ zZ (hcp1 _ _ _) ?_)
 clear mixed
 go_wp2_with (at_builtin;refine wpList_copy_runI _ rfl _ _ 194 194 rfl _ _ rfl rfl (hcp2 _ (fun _=>rfl) (fun _=>rfl) _ _) ?_)
 go_ret
 subst hW1
 exact hL.o w.drew rfl rfl rfl rfl
theorem sr (w:World) (base g n cap i:Nat) (xs vs:List Value) (hown:w.ownsRow base 300 8 (.slice (some ⟨g,0,none⟩) n cap) n xs) (hn:n<=1000) (vb:Nat) (hv:vs.length=8)
  (hvs:∀j u,vs[j]? =some u->w.cell? ⟨vb,j,none⟩=some u) (h1v:∀u∈vs,u.oneCell'=true) (h1x:∀u∈xs,u.oneCell'=true) (hbase:base<=w.heap.size)
  (hi:i<n) (hroom:cap<n+1):
  Calls prog 201 #[.slice (some ⟨g,0,none⟩) n cap,.int .i64 i,.slice (some ⟨vb,0,none⟩) 1 1] w (Le w base (.slice (some ⟨g,0,none⟩) n cap) n (xs.take (i*8)++vs++xs.drop (i*8))):=by
 obtain ⟨hxl,h2⟩:=hown
 rcases h2 with ⟨hc,_⟩ | ⟨g',cap',cur,hc,hbg,hgb,hnc,hcm,hcs,htake⟩
 ·cases hc
 cases hc
 obtain ⟨i0,hi0,hz0,hzs,hzb⟩:=info_parts wO
 have hcell:∀j u,xs[j]? =some u->w.cell? ⟨g,j,none⟩=some u:=fun j u hj=>by
  exact kd2
 have hgw:g<w.heap.size:=(jJ.1 hgb).1
 have hvw:vb<w.heap.size:=block_lt_of_cell (hvs 0 _ (jK zj))
 have hsz:(prog.info? 300).map (·.size)=some 8:=by rw [hi0];simp [hzs]
 have htl:(xs.take (i*8)).length=i*8:=by rw [vj,hxl];omega
 have hdl:(xs.drop (i*8)).length=n*8 - i*8:=qa
 have hold:(Builtin.firstCells i0.size i (.slice (some ⟨g,0,none⟩) i cap)).run prog w.drew= .ok (xs.take (i*8)).toArray w.drew:=by
  rw [hzs]
  exact run_firstCells_some w.drew 8 i ⟨g,0,none⟩ i cap (xs.take (i*8)) htl (fun j u hj=>by
   rw [Addr.add_lit,vh]
   rw [uf] at hj
   split at hj
   ·exact hcell j u hj
   ·cases hj)
 have hik:i+(n+1 - i)=n+1:=zj
 have hkk:(n:Int)+1 - (i:Int)=((n+1 - i:Nat):Int):=zj
 obtain ⟨Z,hZ⟩:=za ((Value.agg #[.int .i64 0,.int .i64 0,.int .i64 0,.int .i64 0,.string ⟨#[]⟩,.int .i64 0,.int .i64 0,.string ⟨#[]⟩]).cells)
 have hZs:Z.size=8:=by rw [hZ];rfl
 obtain ⟨G,hG⟩:=za (grownCap w (n+1) cap 300)
 have hGn:n+1<=G:=by rw [hG];exact grownCap_ge w _ _ _
 have hGm:G<=maxLen:=by rw [hG];exact grownCap_le_maxLen w (n+1) cap 300 yA
 obtain ⟨ROW,hROW⟩:∃ROW:Array Value,ROW=(xs.take (i*8)).toArray++Builtin.zeroCells Z (n+1 - i)++Builtin.zeroCells Z (G - (n+1)):=⟨_,rfl⟩
 have hrz:∀ty,(Builtin.append_ #[194,3] ty #[.slice (some ⟨g,0,none⟩) i cap,.int .i64 ((n:Int)+1 - (i:Int))]).run prog w= .ok (.slice (some ⟨w.heap.size,0,none⟩) (n+1) G) (w.drew.alloc (.cells ROW 300)):=fun ty=>by
  have h:=Lib.run_append_grow_zeros w 194 3 ty 300 i0 _ .i64 .i64 underlying194 underlying3 hi0 hz0 (some ⟨g,0,none⟩) i cap (xs.take (i*8)) hold (n+1 - i) zj zj zj zj (by rw [hzb];omega) xl
  rw [hik,<-hG,<-hZ,<-hROW] at h
  rw [hkk]
  exact h
 have hRs:ROW.size=G*8:=by
  exact kl5
 have hRl:∃Y,ROW.toList=xs.take (i*8)++Y:=⟨(Builtin.zeroCells Z (n+1 - i)++Builtin.zeroCells Z (G - (n+1))).toList,by rw [hROW];simp⟩
 obtain ⟨W1,hW1⟩:=za (w.drew.alloc (.cells ROW 300))
 rw [<-hW1] at hrz
 have hN:∀j,j<(n+1)*8->(W1.cell? ⟨w.heap.size,j,none⟩).isSome=true:=fun j hj=>by
  exact kj8
 have hNf:∀j,W1.frozen? ⟨w.heap.size,j,none⟩=false:=fun j=>by rw [hW1];exact World.frozen?_alloc_at (w:=w.drew) ROW _ w.heap.size j rfl
 have hOb:∀j u,w.cell? ⟨g,j,none⟩=some u->W1.cell? ⟨g,j,none⟩=some u:=fun j u h=>by rw [hW1,Za (w:=w.drew) _ g j hgw];exact h
 have hOv:∀j u,w.cell? ⟨vb,j,none⟩=some u->W1.cell? ⟨vb,j,none⟩=some u:=fun j u h=>by rw [hW1,Za (w:=w.drew) _ vb j hvw];exact h
 have hcpA:∀(W:World),(∀x,W.cell? x=W1.cell? x)->(∀x,W.frozen? x=W1.frozen? x)->∀ty dc,(Builtin.copy_ #[194,194] ty #[.slice (some ⟨w.heap.size,i*8,none⟩) (n+1 - i) dc,.slice (some ⟨vb,0,none⟩) 1 1]).run prog W= .ok (goInt 1) (W.setCells w.heap.size (i*8) vs):=fun W hWc hWf ty dc=>by
  have hmin:Nat.min 1 (n+1 - i)=1:=zX
  have:=cG (P:=prog) W 194 194 ty 300 8 w.heap.size (i*8) (n+1 - i) dc ⟨vb,0,none⟩ 1 1 vs underlying194 hsz xM
   (fun j u hj=>qT)
   (fun j hj=>by rw [hWc];exact hN _ zj) (fun j _=>by rw [hWf];exact hNf _) h1v
  exact kh7
 have hgN:g≠w.heap.size:=zj
 have hcpB:∀(W:World),(∀x,W.cell? x=(W1.setCells w.heap.size (i*8) vs).cell? x)->(∀x,W.frozen? x=(W1.setCells w.heap.size (i*8) vs).frozen? x)->∀ty dc sc,(Builtin.copy_ #[194,194] ty #[.slice (some ⟨w.heap.size,(i+1)*8,none⟩) (n - i) dc,.slice (some ⟨g,i*8,none⟩) (n - i) sc]).run prog W= .ok (goInt ((n - i:Nat):Int)) (W.setCells w.heap.size ((i+1)*8) (xs.drop (i*8))):=fun W hWc hWf ty dc sc=>by
  have hmin:Nat.min (n - i) (n - i)=n - i:=by simp [Nat.min_def]
  have:=cG (P:=prog) W 194 194 ty 300 8 w.heap.size ((i+1)*8) (n - i) dc ⟨g,i*8,none⟩ (n - i) sc (xs.drop (i*8)) underlying194 hsz qE
   (fun j u hj=>by
    rw [Addr.add_lit,hWc,ur _ _ _ _ _ (fun h _=>absurd h hgN)]
    exact hOb _ u (hcell _ u (by rwa [vW] at hj)))
   (fun j hj=>by rw [hWc];exact isSome_setCells w.heap.size vs (i*8) W1 (fun t ht=>hN _ zj) _ (hN _ qx))
   (fun j _=>by rw [hWf,uw];exact hNf _) (fun u hu=>h1x u (uM hu))
  exact kh7
 have hL:Aside (∀W:World,W.heap=W1.heap->W.os=w.os->W.tape=w.tape->W.output=w.output->Le w base (.slice (some ⟨g,0,none⟩) n cap) n (xs.take (i*8)++vs++xs.drop (i*8)) (.returned (.slice (some ⟨w.heap.size,0,none⟩) (n+1) G)) ((W.setCells w.heap.size (i*8) vs).setCells w.heap.size ((i+1)*8) (xs.drop (i*8)))):=by
  intro W h0 h2 h3 h4
  have hgW:W.heap[w.heap.size]? =some (.cells ROW 300 (0,0)):=jl
  obtain ⟨Y,hY⟩:=hRl
  have k1:=(aY w.heap.size vs (i*8) W).trans (aY w.heap.size (xs.drop (i*8)) ((i+1)*8) _)
  exact kd5
 have hG63:G<=9223372036854775807:=by unfold maxLen at hGm;omega
 have hGi:¬(G=i):=zj
 have hGim:¬(G=i+1):=zj
 have hci:¬(cap=i):=zj
 have hw1:IntKind.i64.wrap ((i:Int)+1)=(i:Int)+1:=zr
 have hw2:IntKind.i64.wrap ((n:Int)+1)=(n:Int)+1:=zr
 have hw3:IntKind.i64.wrap ((n:Int)+1 - (i:Int))=(n:Int)+1 - (i:Int):=zr
 have hb1:(0:Int)<=(i:Int)+1:=zj
 have hz2:¬((i:Int)=(n:Int)):=zj
 have hin:i<=n:=zj
 have hin2:i<=cap:=zj
 have htn:((i:Int)+1).toNat=i+1:=zj
 have hb5:((cap:Int)<(n:Int)+1):=zj
 have hb6:¬((n:Int)+1<=(cap:Int)):=zj
 have hE1:∀x,((w.alloc (.cells ROW 300)).drew).cell? x=(w.drew.alloc (.cells ROW 300)).cell? x:=fun x=>rfl
 have hE2:∀x,((w.alloc (.cells ROW 300)).drew).frozen? x=(w.drew.alloc (.cells ROW 300)).frozen? x:=fun x=>rfl
 subst hW1
 have hF1:∀x,(((w.alloc (.cells ROW 300)).drew.setCells w.heap.size (i*8) vs).drew).cell? x=((w.drew.alloc (.cells ROW 300)).setCells w.heap.size (i*8) vs).cell? x:=fun x=>rfl
 have hF2:∀x,(((w.alloc (.cells ROW 300)).drew.setCells w.heap.size (i*8) vs).drew).frozen? x=((w.drew.alloc (.cells ROW 300)).setCells w.heap.size (i*8) vs).frozen? x:=fun x=>rfl
 clear htake hcs hgb hcell hcm hxl hdl htl hvs h1v h1x hbg hold hROW hG hRs hRl hN hNf hOb hOv hik hkk hGm hZ hZs hgw hvw
 go_enter func201,ntmps201
 go_wp2_with (first
  | (at_builtin;refine Lib.wpList_append_run _ rfl _ _ _ _ rfl _ _ rfl rfl _ _ (hrz _) ?_)
  | (at_builtin;refine wpList_copy_runI _ rfl _ _ 194 194 rfl _ _ rfl rfl (hcpA _ hE1 hE2 _ _) ?_))
 have mixed:prog.follows .mixedOrders=true:=zk
 go_region_law_o (refine step_copy_runI rfl _ _ 194 194 rfl (.slice (some ⟨w.heap.size,(i+1)*8,none⟩) (n - i) (G - (i+1))) (.slice (some ⟨g,i*8,none⟩) (n - i) (cap - i)) zZ zZ (hcpB _ hF1 hF2 3 (G - (i+1)) (cap - i)) ?_)
 clear mixed
 go_wp2
 go_ret
 rw [drew_setCells]
 exact hL.o ((w.alloc (.cells ROW 300)).drew.drew) rfl rfl rfl rfl
theorem Cs (w:World) (base n i:Nat) (v:Value) (xs vs:List Value) (hown:w.ownsRow base 300 8 v n xs) (hn:n<=1000) (vb:Nat) (hv:vs.length=8)
  (hvs:∀j u,vs[j]? =some u->w.cell? ⟨vb,j,none⟩=some u) (h1v:∀u∈vs,u.oneCell'=true) (h1x:∀u∈xs,u.oneCell'=true) (hvb:some vb≠v.ownBlock) (hsa:w.shape? vb=some (300,8)) (hfa:∀j,w.frozen? ⟨vb,j,none⟩=false) (hbase:base<=w.heap.size) (hi:i<=n):
  Calls prog 201 #[v,.int .i64 i,.slice (some ⟨vb,0,none⟩) 1 1] w (Le w base v n (xs.take (i*8)++vs++xs.drop (i*8))):=by
 by_cases he:i=n
 ·subst he
  have e1:xs.take (i*8)=xs:=vm qU
  have e2:xs.drop (i*8)= []:=uv qU
  rw [e1,e2,vZ]
  exact BK w base v i xs vs hown hn vb hv hvs h1v hbase
 have hown':=hown
 rcases hown.2 with ⟨rfl,rfl⟩ | ⟨g,cap,cur,rfl,-⟩
 ·omega
 by_cases hroom:n+1<=cap
 ·exact sC w base g n cap i xs vs hown hn vb hv hvs h1v h1x (fun e=>hvb jH) hsa hfa zj hroom
 exact sr w base g n cap i xs vs hown hn vb hv hvs h1v h1x hbase zj zj
end
section
open Go.Shelf Go.RowKit Go.Lib Go.Sort
def Nf (a b:Int):Int:=if a<b then -1 else if b<a then 1 else 0
theorem Dl (a:Int) (w:World):Calls prog 171 #[.int .i64 a] w fun e w'=>e= .returned (.bool false)/\w'=w:=by
 have d0:(a !=a)=false:=zq
 go_enter func171,ntmps171
 exact ka9
theorem tD (a b:Int) (w:World):Calls prog 99 #[.int .i64 a,.int .i64 b] w fun e w'=>e= .returned (.int .i64 (Nf a b))/\w'=w:=by
 unfold Nf
 by_cases h1:a<b
 ·have d1:decide (a<b)=true:=decide_eq_true h1
  rw [if_pos h1]
  exact ke0
 have d1:decide (a<b)=false:=decide_eq_false h1
 rw [if_neg h1]
 by_cases h2:b<a
 ·have d2:decide (b<a)=true:=decide_eq_true h2
  rw [if_pos h2]
  exact ke0
 have d2:decide (b<a)=false:=decide_eq_false h2
 rw [if_neg h2]
 exact ke0
def Li (x y:Plc):Int:=Nf x.1 y.1
theorem iH (x y:Plc):ltOf Li x y=decide (x.1<y.1):=by
 unfold ltOf Li Nf
 by_cases h1:x.1<y.1
 ·simp [h1]
 rw [if_neg h1]
 by_cases h2:y.1<x.1<;>simp [h1,h2]
theorem Hl:SWO (ltOf Li) where
 irrefl x:=by rw [iH];simp
 trans x y z h1 h2:=by rw [iH] at*;simp at*;omega
 ntrans x y z h1 h2:=by rw [iH] at*;simp at*;omega
theorem JR (x y:Plc) (w:World):Calls prog 98 (#[.agg (ai x).toArray,.agg (ai y).toArray]++ #[]) w fun e w'=>e= .returned (.int .i64 (Li x y))/\∃q os',w'=grow (w.drewN q) os':=by
 have hc:∀w',Calls prog 99 #[.int .i64 x.1,.int .i64 y.1] w' fun e w''=>e= .returned (.int .i64 (Li x y))/\w''=w':=fun w'=>tD _ _ _
 unfold ai
 go_enter func98,ntmps98
 go_wp2_with (go_at_call 99;refine (hc _).mono ?_;rintro e w' ⟨rfl,rfl⟩)
 exact ki2
theorem EY (blk off size:Nat) (w:World):CmpLays prog 98 #[] ai 3 Li blk off size w:=fun _ _ _ _ x y=>JR x y _
theorem LU:∀args w,(callFunc 98 args).run prog w= .ok (.enter 98 args) w:=enters_of func98 zk rfl
theorem cF (x:Plc):(ai x).length=3:=rfl
theorem nD (x:Plc):∀v∈ai x,v.oneCell'=true:=by
 intro v hv
 simp only [ai,jQ,uu,or_false] at hv
 rcases hv with rfl | rfl | rfl<;>rfl
theorem lu (w:World) (g n:Nat) (d:Array Plc) (os:Array Obj):Keeps (fun k=>k=g) w (sortWorldK ai 3 w g 0 n d os):=by
 refine ⟨rfl,rfl,rfl,?_,fun k hk hs=> ?_⟩
 ·exact kk1
 exact kd4
theorem Mj {base cap:Nat} {ps:List Plc} (h:w.ownsRow base 119 3 (.slice (some ⟨g,0,none⟩) n cap) n (aB ai ps)) (hn:n=ps.length):HoldsK ai 3 w g 0 ps.toArray:=fun j hj=>by
 rw [size_flatK] at hj
 simp only [vu] at hj
 have h1:j / 3<ps.length:=zj
 have h2:j / 3*3+j % 3=j:=zj
 refine ⟨?_,yD⟩
 rw [vh,h.cellAt j zj,get_flatK _ _ _ _ yj]
 have:=bd (enc:=ai) cF (L:=ps) (i:=j / 3) (c:=j % 3) (x:=ps[j / 3]) (jK h1) zj
 rw [h2] at this
 rw [this,getElem!_pos ps.toArray (j / 3) xx,ud,jK ql,getElem!_pos _ (j % 3) ql]
 rfl
theorem tX {d:Array Plc} (h:HoldsK ai 3 w g 0 d) (j:Nat) (u:Value) (hj:(aB ai d.toList)[j]? =some u):w.cell? ⟨g,j,none⟩=some u:=by
 have hl:=(jI.1 hj).1
 rw [aa cF,vN] at hl
 have h1:j / 3<d.size:=zj
 have h2:j / 3*3+j % 3=j:=zj
 have H:=(h j qm).1
 rw [vh,get_flatK _ _ _ _ zj] at H
 have:=bd (enc:=ai) cF (L:=d.toList) (i:=j / 3) (c:=j % 3) (x:=d[j / 3]) (by rw [Zb,vG h1]) zj
 rw [h2,hj,jK ql] at this
 rw [H,getElem!_pos d (j / 3) h1,getElem!_pos _ (j % 3) ql,this]
 rfl
theorem MH (w:World) (base g cap:Nat) (ps:List Plc) (hown:w.ownsRow base 119 3 (.slice (some ⟨g,0,none⟩) ps.length cap) ps.length (aB ai ps)) (hl:ps.length<=200000):
  Calls prog 169 #[.slice (some ⟨g,0,none⟩) ps.length cap,.func (.func 98) #[] #[]] w fun e w'=>e= .returned (.tuple #[])/\∃qs:List Plc,qs.Perm ps/\qs.Pairwise (fun a b=>¬b.1<a.1)/\(∀j u,(aB ai qs)[j]? =some u->w'.cell? ⟨g,j,none⟩=some u)/\Keeps (fun k=>k=g) w w':=by
 have hH:=Mj hown rfl
 have hblk:g<w.heap.size:=(hown.lt g rfl).2
 have h:=AnyQ.slices_SortFunc Ar 3 isAgg119 sizeOf119 ai cF nD Li Hl 98 #[] g 0 cap ps.toArray w LU (EY g 0 ps.toArray.size w) hH hblk zl
 refine Calls.mono h ?_
 rintro e w' ⟨rfl,d',n,os,hp,hs,rfl⟩
 simp only [vu] at hp hs
 have hsz:d'.size=ps.length:=xi
 have hperm:d'.toList.Perm ps:=by
  exact kc6
 refine ⟨rfl,d'.toList,hperm,?_,?_,lu w g n d' os⟩
 ·rw [vO]
  intro i j hi hj hij
  have hi':i<d'.size:=qQ
  have hj':j<d'.size:=yj
  have:=hs i j (jX _) hij zj
  rw [iH,getElem!_pos d' i hi',getElem!_pos d' j hj'] at this
  exact kn3
 exact tX ((show SWK ai 3 w g 0 d' _ from ⟨n,os,rfl⟩).holds hblk hH (by rw [hsz];simp))
theorem sK (p:Option Addr) (cap:Nat) (fv:Value) (w:World):Calls prog 169 #[.slice p 0 cap,fv] w fun e w'=>e= .returned (.tuple #[])/\w'=w:=
 AnyF.slices_SortFunc_none Ar p cap fv w
end
section
open Go.Shelf Go.RowKit Go.Lib Go.Sort
def lR (x:OpX×Nat):List Value:=cN x.1
theorem Iz (x:OpX×Nat):(lR x).length=8:=rfl
theorem Gf (x:OpX×Nat):∀v∈lR x,v.oneCell'=true:=by
 intro v hv
 simp [lR,cN] at hv
 exact kg8
def ltX (x y:OpX):Bool:=dO x.1 x.2.1 y.1 y.2.1
def Jh (x y:OpX×Nat):Int:=if ltX x.1 y.1 then -1 else if ltX y.1 x.1 then 1 else 0
theorem Eh (x y:OpX×Nat):decide (Jh x y<0)=tlt ltX x y:=by
 unfold Jh tlt
 cases h:ltX x.1 y.1 with
 | true=>rfl
 | false=>
  simp only [Bool.false_eq_true,if_false]
  split<;>rfl
theorem FI:ltOf Jh=tlt ltX:=by
 funext x y
 exact Eh x y
theorem we (t b t' b':Int):dO t b t' b'=decide (t<t'\/(t=t'/\b<b')):=by
 unfold dO
 by_cases h:t=t'
 ·subst h;simp
 rw [if_neg h];simp [h]
theorem GU:SWO ltX where
 irrefl x:=by unfold ltX;rw [we];simp
 trans x y z h1 h2:=xG
 ntrans x y z h1 h2:=xG
theorem dF {w1 w2:World} (h1:∃q os,w1=grow (w.drewN q) os) (h2:∃q os,w2=grow (w1.drewN q) os):∃q os,w2=grow (w.drewN q) os:=by
 obtain ⟨q,os,rfl⟩:=h1
 obtain ⟨q',os',rfl⟩:=h2
 exact ⟨q+q',os++os',by rw [<-grow_grow,<-World.drewN_drewN];rfl⟩
theorem GR (t b t' b':Int) (w:World):
  Calls prog 128 #[.agg #[.int .i64 t,.int .i64 b],.agg #[.int .i64 t',.int .i64 b']] w fun e w'=>e= .returned (.bool (dO t b t' b'))/\∃q os,w'=grow (w.drewN q) os:=by
 unfold dO
 by_cases h:t=t'
 ·have hd:(t !=t')=false:=by simp [h]
  rw [if_pos h]
  clear h
  go_enter func128,ntmps128
  go_wp2
  exact ki2
 have hd:(t !=t')=true:=by simp [h]
 rw [if_neg h]
 clear h
 go_enter func128,ntmps128
 go_wp2
 exact ki2
theorem gM (t b t' b':Int) (z:Bool) (w:World) (hz:dO t b t' b'=z):
  Calls prog 128 #[.agg #[.int .i64 t,.int .i64 b],.agg #[.int .i64 t',.int .i64 b']] w fun e w'=>e= .returned (.bool z)/\∃q os,w'=grow (w.drewN q) os:=by rw [<-hz];exact GR t b t' b' w
theorem an (h:∃q os,w'=grow (w.drewN q) os):Below w.heap.size w w':=by
 obtain ⟨q,os,rfl⟩:=h
 exact Lib.below_grow _ _ zg _ _
theorem tP (x y:OpX×Nat) (w:World):
  Calls prog 133 #[.agg (lR x).toArray,.agg (lR y).toArray] w fun e w'=>e= .returned (.int .i64 (Jh x y))/\∃q os,w'=grow (w.drewN q) os:=by
 obtain ⟨⟨t,b,n,k,node,other,name,value⟩,i⟩:=x
 obtain ⟨⟨t',b',n',k',node',other',name',value'⟩,i'⟩:=y
 have hg:∃q os,((w.alloc (.cells #[.int .i64 t,.int .i64 b,.int .i64 n,.int .u8 (k:Int),.int .i64 node,.int .i64 other,.string name,.string value] 61)).alloc (.cells #[.int .i64 t',.int .i64 b',.int .i64 n',.int .u8 (k':Int),.int .i64 node',.int .i64 other',.string name',.string value'] 61))=grow (w.drewN q) os:=⟨0,_,xK⟩
 have c0:((w.alloc (.cells #[.int .i64 t,.int .i64 b,.int .i64 n,.int .u8 (k:Int),.int .i64 node,.int .i64 other,.string name,.string value] 61)).alloc (.cells #[.int .i64 t',.int .i64 b',.int .i64 n',.int .u8 (k':Int),.int .i64 node',.int .i64 other',.string name',.string value'] 61)).cell? ⟨w.heap.size,0,none⟩=some (.int .i64 t):=ye
 have c1:((w.alloc (.cells #[.int .i64 t,.int .i64 b,.int .i64 n,.int .u8 (k:Int),.int .i64 node,.int .i64 other,.string name,.string value] 61)).alloc (.cells #[.int .i64 t',.int .i64 b',.int .i64 n',.int .u8 (k':Int),.int .i64 node',.int .i64 other',.string name',.string value'] 61)).cell? ⟨w.heap.size,1,none⟩=some (.int .i64 b):=ye
 have c2:((w.alloc (.cells #[.int .i64 t,.int .i64 b,.int .i64 n,.int .u8 (k:Int),.int .i64 node,.int .i64 other,.string name,.string value] 61)).alloc (.cells #[.int .i64 t',.int .i64 b',.int .i64 n',.int .u8 (k':Int),.int .i64 node',.int .i64 other',.string name',.string value'] 61)).cell? ⟨w.heap.size+1,0,none⟩=some (.int .i64 t'):=ye
 have c3:((w.alloc (.cells #[.int .i64 t,.int .i64 b,.int .i64 n,.int .u8 (k:Int),.int .i64 node,.int .i64 other,.string name,.string value] 61)).alloc (.cells #[.int .i64 t',.int .i64 b',.int .i64 n',.int .u8 (k':Int),.int .i64 node',.int .i64 other',.string name',.string value'] 61)).cell? ⟨w.heap.size+1,1,none⟩=some (.int .i64 b'):=ye
 unfold Jh ltX
 simp only [lR,cN]
 cases h1:dO t b t' b' with
 | true=>
  have H1:=Lib.hid h1
  clear h1
  go_enter func133,ntmps133
  go_wp2_with fail
  generalize ((w.alloc (.cells #[.int .i64 t,.int .i64 b,.int .i64 n,.int .u8 (k:Int),.int .i64 node,.int .i64 other,.string name,.string value] 61)).alloc (.cells #[.int .i64 t',.int .i64 b',.int .i64 n',.int .u8 (k':Int),.int .i64 node',.int .i64 other',.string name',.string value'] 61))=u at hg c0 c1 c2 c3 |-
  refine (gM _ _ _ _ true _ H1.o).mono ?_
  rintro e w1 ⟨rfl,hb⟩
  have hg1:=dF hg hb
  clear hb c0 c1 c2 c3
  go_wp2
  go_ret
  exact ⟨rfl,hg1⟩
 | false=>
  have H1:=Lib.hid h1
  clear h1
  cases h2:dO t' b' t b with
  | true=>
   have H2:=Lib.hid h2
   clear h2
   go_enter func133,ntmps133
   go_wp2_with fail
   generalize ((w.alloc (.cells #[.int .i64 t,.int .i64 b,.int .i64 n,.int .u8 (k:Int),.int .i64 node,.int .i64 other,.string name,.string value] 61)).alloc (.cells #[.int .i64 t',.int .i64 b',.int .i64 n',.int .u8 (k':Int),.int .i64 node',.int .i64 other',.string name',.string value'] 61))=u at hg c0 c1 c2 c3 |-
   refine (gM _ _ _ _ false _ H1.o).mono ?_
   rintro e w1 ⟨rfl,hb⟩
   have hg1:=dF hg hb
   have e0:=bA (an hb) c0
   have e1:=bA (an hb) c1
   have e2:=bA (an hb) c2
   have e3:=bA (an hb) c3
   clear hb c0 c1 c2 c3 hg
   go_wp2_with fail
   refine (gM _ _ _ _ true _ H2.o).mono ?_
   exact ki6
  | false=>
   have H2:=Lib.hid h2
   clear h2
   go_enter func133,ntmps133
   go_wp2_with fail
   generalize ((w.alloc (.cells #[.int .i64 t,.int .i64 b,.int .i64 n,.int .u8 (k:Int),.int .i64 node,.int .i64 other,.string name,.string value] 61)).alloc (.cells #[.int .i64 t',.int .i64 b',.int .i64 n',.int .u8 (k':Int),.int .i64 node',.int .i64 other',.string name',.string value'] 61))=u at hg c0 c1 c2 c3 |-
   refine (gM _ _ _ _ false _ H1.o).mono ?_
   rintro e w1 ⟨rfl,hb⟩
   have hg1:=dF hg hb
   have e0:=bA (an hb) c0
   have e1:=bA (an hb) c1
   have e2:=bA (an hb) c2
   have e3:=bA (an hb) c3
   clear hb c0 c1 c2 c3 hg
   go_wp2_with fail
   refine (gM _ _ _ _ false _ H2.o).mono ?_
   exact ki6
theorem Aq (blk off size:Nat) (w:World):CmpLays prog 133 #[] lR 8 Jh blk off size w:=fun _ _ _ _ x y=>tP x y _
theorem Jj:∀args w,(callFunc 133 args).run prog w= .ok (.enter 133 args) w:=enters_of func133 zk rfl
end
section
open Go.Shelf Go.RowKit Go.Lib Go.Sort
structure STy (P:Program) (k:Nat):Prop where
 mixed:P.follows .mixedOrders=true
 t0:P.underlying 0=some (TypeDesc.tuple #[])
 a0:∀w,(isAgg 0).run P w= .ok false w
 z0:∀w,(Go.sizeOf 0).run P w= .ok 1 w
 v0:∀w,(zeroValue 0).run P w= .ok (Value.tuple #[]) w
 t3:P.underlying 3=some (TypeDesc.int IntKind.i64)
 a3:∀w,(isAgg 3).run P w= .ok false w
 z3:∀w,(Go.sizeOf 3).run P w= .ok 1 w
 v3:∀w,(zeroValue 3).run P w= .ok (Value.int IntKind.i64 0) w
 t4:P.underlying 4=some (TypeDesc.bool)
 a4:∀w,(isAgg 4).run P w= .ok false w
 z4:∀w,(Go.sizeOf 4).run P w= .ok 1 w
 v4:∀w,(zeroValue 4).run P w= .ok (Value.bool false) w
 tS:P.underlying 25=some (TypeDesc.slice 61)
 aS:∀w,(isAgg 25).run P w= .ok false w
 zS:∀w,(Go.sizeOf 25).run P w= .ok 1 w
 vS:∀w,(zeroValue 25).run P w= .ok (Value.slice none 0 0) w
 tC:P.underlying 228=some (TypeDesc.func #[61,61] #[3] false)
 aC:∀w,(isAgg 228).run P w= .ok false w
 zC:∀w,(Go.sizeOf 228).run P w= .ok 1 w
 vC:∀w,(zeroValue 228).run P w= .ok (Value.nilFunc) w
 tU:P.underlying 277=some (TypeDesc.int IntKind.u64)
 aU:∀w,(isAgg 277).run P w= .ok false w
 zU:∀w,(Go.sizeOf 277).run P w= .ok 1 w
 vU:∀w,(zeroValue 277).run P w= .ok (Value.int IntKind.u64 0) w
 aE:∀w,(isAgg 61).run P w= .ok true w
 zE:∀w,(Go.sizeOf 61).run P w= .ok k w
theorem Aw:STy prog 8:=⟨zk,underlying0,isAgg0,sizeOf0,zeroValue0,underlying3,isAgg3,sizeOf3,zeroValue3,underlying4,isAgg4,sizeOf4,zeroValue4,underlying25,isAgg25,sizeOf25,zeroValue25,underlying228,isAgg228,sizeOf228,zeroValue228,underlying277,isAgg277,sizeOf277,zeroValue277,isAgg61,sizeOf61⟩
theorem eX {α:Type} [Inhabited α] (k:Nat) (L:STy P k) (hF:P.funcs[(337:Nat)]? =some f337) (enc:α->List Value) (blk off cap a b n:Nat) (d0 d:Array α) (w0 w:World) (cf:Value)
  (R:RowK enc k w0 blk off d0) (hs:d0.size=d.size) (S:SWK enc k w0 blk off d w) (hab:a+n<=b) (hb:b+n<=d.size) (hsz:d.size<4611686018427387904):
  Calls P 337 #[.slice (some ⟨blk,off,none⟩) d.size cap,.int .i64 a,.int .i64 b,.int .i64 n,cf] w fun e w'=>e= .returned (.tuple #[])/\∃d',Exch d d' a b n/\SWK enc k w0 blk off d' w':=by
 have mixed:=L.mixed;have t0:=L.t0;have a0:=L.a0;have z0:=L.z0;have v0:=L.v0;have t3:=L.t3;have a3:=L.a3;have z3:=L.z3;have v3:=L.v3;have t4:=L.t4;have a4:=L.a4;have z4:=L.z4;have v4:=L.v4;have tS:=L.tS;have aS:=L.aS;have zS:=L.zS;have vS:=L.vS;have tC:=L.tC;have aC:=L.aC;have zC:=L.zC;have vC:=L.vC;have tU:=L.tU;have aU:=L.aU;have zU:=L.zU;have vU:=L.vU;have aE:=L.aE;have zE:=L.zE
 have S0:Aside (SWK enc k w0 blk off d w):=S
 clear S
 go_enter hF,ntmps337
 go_wp2
 go_loopg [10] n (fun kx s10 wr=>∃(i:Nat) (dk:Array α),s10= .int .i64 i/\i<=n/\n - i<=kx/\Aside (Exch d dk a b i)/\Aside (SWK enc k w0 blk off dk wr))
 case atStart=>exact ⟨0,d,rfl,jX _,jL _,Exch.zero d a b,S0⟩
 case round=>
  clear S0
  obtain ⟨i,dk,rfl,hi,hkx,EX,S1⟩:=hrel
  have hds:dk.size=d.size:=EX.o.size
  by_cases hlt:i<n
  ·have hltz:(i:Int)<(n:Int):=by omega
   go_wp2_with fail
   have ea:((a:Int)+(i:Int)).toNat=a+i:=zj
   have pa:(0:Int)<=(a:Int)+(i:Int):=zj
   have ba:(a:Int)+(i:Int)<(d.size:Int):=zj
   have ra:IntKind.i64.wrap ((a:Int)+(i:Int))=(a:Int)+(i:Int):=zr
   have ec:((b:Int)+(i:Int)).toNat=b+i:=zj
   have pc:(0:Int)<=(b:Int)+(i:Int):=zj
   have bc:(b:Int)+(i:Int)<(d.size:Int):=zj
   have rc:IntKind.i64.wrap ((b:Int)+(i:Int))=(b:Int)+(i:Int):=zr
   have S2:Aside (SWK enc k w0 blk off (swp dk (a+i) (b+i)) ((wr.drew.setCells blk (off+(a+i)*k) (enc dk[b+i]!)).setCells blk (off+(b+i)*k) (enc dk[a+i]!))):=S1.o.swapped R (a+i) (b+i) zj zj
   have la:=S1.o.ld1 R zj P (a+i) zj
   have lb:=S1.o.ld1 R zj P (b+i) zj
   have sa:=S1.o.st1 R zj P (a+i) zj dk[b+i]!
   have sb:=S1.o.st2 R zj P (a+i) (b+i) zj zj dk[b+i]! dk[a+i]!
   have na:(enc dk[a+i]!).length=k:=R.hk _
   have nb:(enc dk[b+i]!).length=k:=R.hk _
   generalize enc dk[a+i]! =cI at S2 la sb na
   generalize enc dk[b+i]! =cJ at S2 lb sa sb nb
   clear S1
   go_big_region_o
   clear la lb sa sb
   generalize (wr.drew.setCells blk (off+(a+i)*k) cJ).setCells blk (off+(b+i)*k) cI=w2 at S2 |-
   go_wp2
   go_roundg (n - (i+1))
   case measure=>omega
   case rel=>exact ⟨i+1,swp dk (a+i) (b+i),zI,zj,jL _,EX.o.next zj zj,S2⟩
  have hltz:¬(i:Int)<(n:Int):=zj
  go_wp2
  go_end0
  have:i=n:=zj
  subst this
  exact ⟨rfl,dk,EX.o,S1.o⟩
end
section
open Go.Shelf Go.RowKit Go.Lib Go.Sort
theorem lN {α:Type} [Inhabited α] (k:Nat) (L:STy P k) (hF:P.funcs[(337:Nat)]? =some f337) (hG:P.funcs[(307:Nat)]? =some f307) (enc:α->List Value) (blk off cap a m b:Nat) (d0 d:Array α) (w0 w:World) (cf:Value)
  (R:RowK enc k w0 blk off d0) (hs:d0.size=d.size) (S:SWK enc k w0 blk off d w) (ham:a<m) (hmb:m<b) (hb:b<=d.size) (hsz:d.size<4611686018427387904):
  Calls P 307 #[.slice (some ⟨blk,off,none⟩) d.size cap,.int .i64 a,.int .i64 m,.int .i64 b,cf] w fun e w'=>e= .returned (.tuple #[])/\∃d',Rot d d' a m b/\SWK enc k w0 blk off d' w':=by
 have mixed:=L.mixed;have t0:=L.t0;have a0:=L.a0;have z0:=L.z0;have v0:=L.v0;have t3:=L.t3;have a3:=L.a3;have z3:=L.z3;have v3:=L.v3;have t4:=L.t4;have a4:=L.a4;have z4:=L.z4;have v4:=L.v4;have tS:=L.tS;have aS:=L.aS;have zS:=L.zS;have vS:=L.vS;have tC:=L.tC;have aC:=L.aC;have zC:=L.zC;have vC:=L.vC;have tU:=L.tU;have aU:=L.aU;have zU:=L.zU;have vU:=L.vU;have aE:=L.aE;have zE:=L.zE
 have eS:∀args w,(callFunc 337 args).run P w= .ok (.enter 337 args) w:=enters_of hF zk rfl
 have S0:Aside (SWK enc k w0 blk off d w):=S
 clear S
 go_enter hG,ntmps307
 go_wp2
 go_loopg [10,11] (b - a) (fun kx s10 s11 wr=>∃(i j:Nat) (dk:Array α),s10= .int .i64 (i:Int)/\s11= .int .i64 (j:Int)/\0<i/\0<j/\a+i<=m/\m+j<=b/\i+j<=kx/\dk.size=d.size/\Aside (∀d2,Rot dk d2 (m - i) m (m+j)->Rot d d2 a m b)/\Aside (SWK enc k w0 blk off dk wr))
 case atStart=>exact ⟨m - a,b - m,d,jt,jt,zj,zj,zj,zj,zj,rfl,(fun d2 h=>by rw [show m - (m - a)=a by omega,show m+(b - m)=b by omega] at h;exact h),S0⟩
 case round=>
  clear S0
  obtain ⟨i,j,dk,rfl,rfl,hi,hj,him,hjm,hkx,hds,RT,S1⟩:=hrel
  rcases Nat.lt_trichotomy i j with hlt | rfl | hgt
  ·have q1:((i:Int) !=(j:Int))=true:=by simp;omega
   have q2:decide ((j:Int)<(i:Int))=false:=zl
   go_wp2_with fail
   have c1:(m:Int) - (i:Int)=((m - i:Nat):Int):=zj
   have c2:(m:Int)+(j:Int) - (i:Int)=((m+j - i:Nat):Int):=zj
   rw [c1,c2,<-hds]
   clear c1 c2
   refine (eX k L hF enc blk off cap (m - i) (m+j - i) i d0 dk w0 wr cf R zj S1.o zj zj zj).mono ?_
   rintro e w2 ⟨rfl,d1,EX,S2⟩
   have hd1:d1.size=d.size:=by rw [EX.size,hds]
   have RT2:Aside (∀d2,Rot d1 d2 (m - i) m (m+(j - i))->Rot d d2 a m b):=fun d2 h2=>RT.o d2 (Rot.right zj hlt zj EX h2)
   have S3:Aside (SWK enc k w0 blk off d1 w2):=S2
   clear EX S2 S1 RT
   rw [hds]
   go_wp2
   go_roundg (i+(j - i))
   case measure=>omega
   case rel=>exact ⟨i,j - i,d1,rfl,jt,hi,zj,him,zj,jL _,hd1,RT2,S3⟩
  ·have q1:((i:Int) !=(i:Int))=false:=by simp
   go_wp2_with fail
   have c1:(m:Int) - (i:Int)=((m - i:Nat):Int):=zj
   rw [c1,<-hds]
   clear c1
   refine (eX k L hF enc blk off cap (m - i) m i d0 dk w0 wr cf R zj S1.o zj zj zj).mono ?_
   rintro e w2 ⟨rfl,d1,EX,S2⟩
   have RT2:=RT.o d1 (Rot.both zj zj EX)
   clear EX S1 RT
   go_wp2
   go_end0
   exact ⟨rfl,d1,RT2,S2⟩
  have q1:((i:Int) !=(j:Int))=true:=zl
  have q2:decide ((j:Int)<(i:Int))=true:=zl
  go_wp2_with fail
  have c1:(m:Int) - (i:Int)=((m - i:Nat):Int):=zj
  rw [c1,<-hds]
  clear c1
  refine (eX k L hF enc blk off cap (m - i) m j d0 dk w0 wr cf R zj S1.o zj zj zj).mono ?_
  rintro e w2 ⟨rfl,d1,EX,S2⟩
  have hd1:d1.size=d.size:=by rw [EX.size,hds]
  have RT2:Aside (∀d2,Rot d1 d2 (m - (i - j)) m (m+j)->Rot d d2 a m b):=fun d2 h2=>RT.o d2 (Rot.left zj hgt zj EX h2)
  have S3:Aside (SWK enc k w0 blk off d1 w2):=S2
  clear EX S2 S1 RT
  rw [hds]
  go_wp2
  go_roundg (i - j+j)
  case measure=>omega
  case rel=>exact ⟨i - j,j,d1,jt,rfl,zj,hj,zj,hjm,jL _,hd1,RT2,S3⟩
end
section
open Go.RowKit Go.Maps
def td (x:OpX):Nat:=if bY x=0 then (if x.2.2.2.1=115 then 0 else 5) else bY x
def LY (f:eD) (x:OpX):Bool:=if bY x=0/\x.2.2.2.1=115 then gH f (NZ x) (wS x) else false
def Gz (w:World) (bc bm n:Nat) (f:eD) (x:OpX) (w':World):Prop:=CellsAt w' bc bm (n+1) (rm f x)/\Keeps (fun j=>j=bm) w w'
theorem nu {bc bm:Nat} {f:eD} {x:OpX} (h:CellsAt w bc bm n f) (hx:¬(bY x=0/\x.2.2.2.1=115)) (hb:Below w.heap.size w w'):Gz w bc bm n f x w':=by
 have:rm f x=f:=by unfold rm;rw [if_neg hx]
 exact ⟨by rw [this];exact (h.later hb).mono (Nat.le_succ n),(aV hb).mono (fun k hk e=>zj)⟩
theorem NQ {t b n:Int} {k:Nat} {node other:Int} {name value:ByteArray} (h:opE t b n k node other name.data.toList value.data.toList=0) (hs:name.size<=1000000):WfK (node,name):=by
 obtain ⟨h1,h2,h3,h4,h5,h6,h7,h8,h9,_⟩:=ax h
 exact Nk zO zO hs
theorem CT (w:World) (bc:Nat) (t b n:Int) (k:Nat) (node other:Int) (name value:ByteArray) (hE:Op4 ad w) (hsn:name.size<=1000000) (hsv:value.size<=1000000) (hop:opE t b n k node other name.data.toList value.data.toList≠0):
  Calls prog 140 #[.pointer (some ⟨bc,0,none⟩),.agg #[.int .i64 t,.int .i64 b,.int .i64 n,.int .u8 (k:Int),.int .i64 node,.int .i64 other,.string name,.string value]] w fun e w'=>e= .returned (.tuple #[.bool false,eV ad (opE t b n k node other name.data.toList value.data.toList)])/\Below w.heap.size w w':=by
 obtain ⟨w1,hw1⟩:=za (w.alloc (.cells #[.int .i64 t,.int .i64 b,.int .i64 n,.int .u8 (k:Int),.int .i64 node,.int .i64 other,.string name,.string value] 61))
 have B1:Below w.heap.size w w1:=jb
 have hck:=bX t b n k node other name value w1 (hE.later B1) hsn hsv
 obtain ⟨er,her⟩:∃er,Aside (opE t b n k node other name.data.toList value.data.toList=er):=⟨_,rfl⟩
 rw [her.o] at hck hop |-
 unfold eV at hck |-
 rw [if_neg hop] at hck |-
 have H1:Aside (Below w.heap.size w w1):=B1
 clear B1 hE hop
 go_enter func140,ntmps140
 go_wp2_with fail
 rw [<-hw1]
 clear hw1
 refine hck.mono ?_
 clear hck
 rintro e w2 ⟨rfl,hb2⟩
 have H2:Aside (Below w.heap.size w w2):=zi H1.o hb2
 clear hb2 H1
 go_wp2
 go_ret2
 exact ⟨rfl,H2.o⟩
theorem Ez (w:World) (bc:Nat) (t b n:Int) (k:Nat) (node other:Int) (name value:ByteArray) (hE:Op4 ad w) (hsn:name.size<=1000000) (hsv:value.size<=1000000) (hop:opE t b n k node other name.data.toList value.data.toList=0) (hk:k≠115):
  Calls prog 140 #[.pointer (some ⟨bc,0,none⟩),.agg #[.int .i64 t,.int .i64 b,.int .i64 n,.int .u8 (k:Int),.int .i64 node,.int .i64 other,.string name,.string value]] w fun e w'=>e= .returned (.tuple #[.bool false,eV ad 5])/\Below w.heap.size w w':=by
 obtain ⟨w1,hw1⟩:=za (w.alloc (.cells #[.int .i64 t,.int .i64 b,.int .i64 n,.int .u8 (k:Int),.int .i64 node,.int .i64 other,.string name,.string value] 61))
 have O1:OpAt w1 w.heap.size t b n k node other name value:=by rw [hw1];exact OpAt.new w t b n k node other name value 61
 have B1:Below w.heap.size w w1:=jb
 have hck:=bX t b n k node other name value w1 (hE.later B1) hsn hsv
 rw [hop] at hck
 have e0:eV ad 0= .nilIface:=rfl
 rw [e0] at hck
 have e5:eV ad 5= .iface 450 (.pointer (some (ad 4))):=rfl
 rw [e5]
 have H1:Aside (OpAt w1 w.heap.size t b n k node other name value/\Op4 ad w1/\Below w.heap.size w w1):=⟨O1,hE.later B1,B1⟩
 have dk:((k:Int) !=115)=true:=zl
 clear B1 hE hop O1 e0 e5
 go_enter func140,ntmps140
 go_wp2_with fail
 rw [<-hw1]
 clear hw1
 refine hck.mono ?_
 clear hck
 rintro e w2 ⟨rfl,hb2⟩
 have c3:=(H1.o.1.later hb2).c3
 have g4:=(H1.o.2.1.later hb2).c4
 have H2:Aside (Below w.heap.size w w2):=zi H1.o.2.2 hb2
 clear hb2 H1
 go_wp2_with fail
 go_quiet (fail)
 go_wp2
 go_ret2
 exact ⟨rfl,⟨H2.o.os,H2.o.tape,H2.o.output,H2.o.size,H2.o.block⟩⟩
theorem KQ (w:World) (bc bm m:Nat) (f:eD) (t b n node other:Int) (name value:ByteArray) (hE:Op4 ad w) (hC:CellsAt w bc bm m f) (hm:m<=1000000) (hsn:name.size<=1000000) (hsv:value.size<=1000000) (hop:opE t b n 115 node other name.data.toList value.data.toList=0):
  Calls prog 140 #[.pointer (some ⟨bc,0,none⟩),.agg #[.int .i64 t,.int .i64 b,.int .i64 n,.int .u8 (115:Int),.int .i64 node,.int .i64 other,.string name,.string value]] w fun e w'=>e= .returned (.tuple #[.bool (gH f (node,name) (value,(t,b))),.nilIface])/\nV w bc bm m f ((node,name),(value,(t,b))) w':=by
 obtain ⟨w1,hw1⟩:=za (w.alloc (.cells #[.int .i64 t,.int .i64 b,.int .i64 n,.int .u8 (115:Int),.int .i64 node,.int .i64 other,.string name,.string value] 61))
 have O1:OpAt w1 w.heap.size t b n 115 node other name value:=by rw [hw1];exact OpAt.new w t b n 115 node other name value 61
 have B1:Below w.heap.size w w1:=jb
 have hck:=bX t b n 115 node other name value w1 (hE.later B1) hsn hsv
 have hwf:=NQ hop hsn
 rw [hop] at hck
 have e0:eV ad 0= .nilIface:=rfl
 rw [e0] at hck
 have H1:Aside (OpAt w1 w.heap.size t b n 115 node other name value/\CellsAt w1 bc bm m f/\Below w.heap.size w w1/\WfK (node,name)):=⟨O1,hC.later B1,B1,hwf⟩
 clear B1 hE hop O1 e0 hC hwf
 go_enter func140,ntmps140
 go_wp2_with fail
 rw [<-hw1]
 clear hw1
 refine hck.mono ?_
 clear hck
 rintro e w2 ⟨rfl,hb2⟩
 obtain ⟨c0,c1,c2,c3,c4,c5,c6,c7⟩:=H1.o.1.later hb2
 have hput:=KJ w2 bc bm m f node name value t b (H1.o.2.1.later hb2) hm H1.o.2.2.2
 have H2:Aside (Below w.heap.size w w2):=zi H1.o.2.2.1 hb2
 clear hb2 H1
 go_wp2_with fail
 refine hput.mono ?_
 clear hput
 rintro e w3 ⟨rfl,hP⟩
 have HP:Aside (nV w bc bm m f ((node,name),(value,(t,b))) w3):=⟨hP.1,(aV H2.o).mono (fun k hk e=>zj) |>.then hP.2 (fun i hi e=>e)⟩
 clear hP H2
 go_wp2
 go_ret2
 exact ⟨rfl,HP.o⟩
theorem Im (w:World) (bc bm m:Nat) (f:eD) (t b n:Int) (k:Nat) (node other:Int) (name value:ByteArray) (hE:Op4 ad w) (hC:CellsAt w bc bm m f) (hm:m<=1000000) (hsn:name.size<=1000000) (hsv:value.size<=1000000):
  Calls prog 140 #[.pointer (some ⟨bc,0,none⟩),.agg #[.int .i64 t,.int .i64 b,.int .i64 n,.int .u8 (k:Int),.int .i64 node,.int .i64 other,.string name,.string value]] w fun e w'=>e= .returned (.tuple #[.bool (LY f (t,b,n,k,node,other,name,value)),eV ad (td (t,b,n,k,node,other,name,value))])/\Gz w bc bm m f (t,b,n,k,node,other,name,value) w':=by
 by_cases h0:opE t b n k node other name.data.toList value.data.toList=0
 ·by_cases hk:k=115
  ·subst hk
   have hx:bY (t,b,n,115,node,other,name,value)=0/\(115:Nat)=115:=⟨h0,rfl⟩
   have e1:LY f (t,b,n,115,node,other,name,value)=gH f (node,name) (value,(t,b)):=by unfold LY;rw [if_pos hx];rfl
   have e2:td (t,b,n,115,node,other,name,value)=0:=by unfold td;rw [if_pos (show bY (t,b,n,115,node,other,name,value)=0 from h0)];rfl
   have e3:rm f (t,b,n,115,node,other,name,value)=pJ f ((node,name),(value,(t,b))):=by unfold rm;rw [if_pos hx];rfl
   rw [e1,e2]
   refine (KQ w bc bm m f t b n node other name value hE hC hm hsn hsv h0).mono ?_
   rintro e w' ⟨rfl,hP⟩
   exact ⟨rfl,by rw [e3];exact hP.1,hP.2⟩
  have hx:¬(bY (t,b,n,k,node,other,name,value)=0/\k=115):=fun h=>hk h.2
  have e1:LY f (t,b,n,k,node,other,name,value)=false:=by unfold LY;rw [if_neg hx]
  have e2:td (t,b,n,k,node,other,name,value)=5:=by unfold td;rw [if_pos (show bY (t,b,n,k,node,other,name,value)=0 from h0)];exact if_neg hk
  rw [e1,e2]
  refine (Ez w bc t b n k node other name value hE hsn hsv h0 hk).mono ?_
  rintro e w' ⟨rfl,hb⟩
  exact ⟨rfl,nu hC hx hb⟩
 have hx:¬(bY (t,b,n,k,node,other,name,value)=0/\k=115):=fun h=>h0 h.1
 have e1:LY f (t,b,n,k,node,other,name,value)=false:=by unfold LY;rw [if_neg hx]
 have e2:td (t,b,n,k,node,other,name,value)=opE t b n k node other name.data.toList value.data.toList:=by unfold td;rw [if_neg (show ¬bY (t,b,n,k,node,other,name,value)=0 from h0)];rfl
 rw [e1,e2]
 refine (CT w bc t b n k node other name value hE hsn hsv h0).mono ?_
 rintro e w' ⟨rfl,hb⟩
 exact ⟨rfl,nu hC hx hb⟩
