import Derived.Test.YtehighgebbdenaaGreatDoorRa10
set_option linter.unusedSimpArgs false
set_option maxRecDepth 100000
set_option maxHeartbeats 64000000
namespace Go.Proofs.YtehighgebbdenaaGreatDoor
open Go.Proofs.Tryz
variable {f:cA} {L zs:List Ltr} {xs:List Value} {bc bm k n p:Nat} {ao:Option Addr} {e:TypeId} {v:Value} {w w':World}
section
open Go.Shelf Go.RowKit Go.Lib
theorem tK:(prog.info? 250).map (fun i=>(i.zero,i.size,i.bytes))=some (some (.agg #[.int .i64 0,.int .u8 0,.bool false]),3,16):=zq
def sK (w:World) (base:Nat) (v:Value) (n:Nat) (ys:List Value) (e:Ending) (w':World):Prop:=
 ∃v',e= .returned v'/\w'.ownsRow base 250 3 v' (n+1) ys/\Keeps (fun k=>some k=v.ownBlock) w w'/\(v'.ownBlock=v.ownBlock\/v'.ownBlock=some w.heap.size)
theorem sI (w:World) (base:Nat) (v:Value) (n:Nat) (xs vs:List Value) (hown:w.ownsRow base 250 3 v n xs) (hn:n<=1000) (vb:Nat) (hv:vs.length=3)
  (hvs:∀j u,vs[j]? =some u->w.cell? ⟨vb,j,none⟩=some u) (h1v:∀u∈vs,u.oneCell'=true) (hbase:base<=w.heap.size):
  Calls prog 193 #[v,.int .i64 n,.slice (some ⟨vb,0,none⟩) 1 1] w (sK w base v n (xs++vs)):=by
 obtain ⟨i0,hi,hz0,hz1,hz2⟩:=info_parts tK
 obtain ⟨v',w',hrun,ho,hg,hb⟩:=pl (P:=prog) w base 246 246 250 i0 _ 3 16 underlying246 hi hz0 hz1 hz2 rfl zo v n xs hown ⟨vb,0,none⟩ 1 1 zo vs zo
  (fun j u hj=>jv) h1v zH zo hbase
 have hfin:Aside (sK w base v n (xs++vs) (.returned v') w'):=⟨v',rfl,ho,aP hg,hb⟩
 rcases hown.2 with ⟨rfl,rfl⟩ | ⟨g,cap,cur,rfl,hbg,hgb,hnc,hcm,hcs,htake⟩
 ·clear hown ho hg hb hvs h1v;go_enter func193,ntmps193;exact km5
 clear hown ho hg hb hvs h1v htake hcs hgb hbg;go_enter func193,ntmps193;go_wp2_with (at_builtin;refine Lib.wpList_append_run _ rfl _ _ _ _ rfl _ _ rfl rfl _ _ hrun ?_)
 all_goals (go_ret;exact hfin.o)
theorem pg (w:World) (base g n cap i:Nat) (xs vs:List Value) (hown:w.ownsRow base 250 3 (.slice (some ⟨g,0,none⟩) n cap) n xs) (hn:n<=1000) (vb:Nat) (hv:vs.length=3)
  (hvs:∀j u,vs[j]? =some u->w.cell? ⟨vb,j,none⟩=some u) (h1v:∀u∈vs,u.oneCell'=true) (h1x:∀u∈xs,u.oneCell'=true) (hvb:vb≠g) (hsa:w.shape? vb=some (250,3)) (hfa:∀j,w.frozen? ⟨vb,j,none⟩=false)
  (hi:i<n) (hroom:n+1<=cap):
  Calls prog 193 #[.slice (some ⟨g,0,none⟩) n cap,.int .i64 i,.slice (some ⟨vb,0,none⟩) 1 1] w (sK w base (.slice (some ⟨g,0,none⟩) n cap) n (xs.take (i*3)++vs++xs.drop (i*3))):=by
 have hL:Aside (∀W:World,W.heap=w.heap->W.os=w.os->W.tape=w.tape->W.output=w.output->sK w base (.slice (some ⟨g,0,none⟩) n cap) n (xs.take (i*3)++vs++xs.drop (i*3)) (.returned (.slice (some ⟨g,0,none⟩) (n+1) cap)) ((W.setCells g ((i+1)*3) (xs.drop (i*3))).setCells g (i*3) vs)):=by
  intro W h0 h2 h3 h4;have hownW:W.ownsRow base 250 3 (.slice (some ⟨g,0,none⟩) n cap) n xs:=vr;have k1:=(aZ g (xs.drop (i*3)) ((i+1)*3) W).trans (aZ g vs (i*3) _);exact kh1
 obtain ⟨hxl,h2⟩:=hown
 rcases h2 with ⟨hc,_⟩ | ⟨g',cap',cur,hc,hbg,hgb,hnc,hcm,hcs,htake⟩
 ·cases hc
 cases hc
 have hcm':cap<=9223372036854775807:=by simp only [maxLen] at hcm;omega
 have hsp:∀j,j<(n+1)*3->(w.cell? ⟨g,j,none⟩).isSome=true:=fun j hj=>by
  have:j<cur.size:=by rw [hcs];omega
  simp [World.cell?,hgb,this]
 have hfz:∀j,w.frozen? ⟨g,j,none⟩=false:=fun j=>by simp [World.frozen?,hgb]
 have hcell:∀j u,xs[j]? =some u->w.cell? ⟨g,j,none⟩=some u:=fun j u hj=>by
  exact ke4
 have hsb:w.shape? g=some (250,cap*3):=by simp [World.shape?,hgb,hcs]
 have hsz:(prog.info? 250).map (·.size)=some 3:=by
  obtain ⟨i0,hi0,_,h1,_⟩:=info_parts tK;rw [hi0];simp [h1]
 have hov:∀lb cb,(callFunc 232 #[.slice (some ⟨vb,0,none⟩) 1 1,.slice (some ⟨g,(i+1)*3,none⟩) lb cb]).run prog w= .ok (.value (.bool false)) w:=fun lb cb=>by
  rw [run_callFunc_extern func232 zq zq zq (e:=Extern.SlicesOverlaps.overlaps #[246,246] #[4]) zq,
   Lib.run_overlaps_apart w 246 4 250 underlying246 3 sizeOf250 ⟨vb,0,none⟩ ⟨g,(i+1)*3,none⟩ 1 1 lb cb hvb 250 250 3 (cap*3) hsa hsb zo (hfa 0) (hfa 3)]
  rfl
 have hdl:(xs.drop (i*3)).length=n*3 - i*3:=qH
 have hcp1:∀ty dc sc,(Builtin.copy_ #[246,246] ty #[.slice (some ⟨g,(i+1)*3,none⟩) (n - i) dc,.slice (some ⟨g,i*3,none⟩) (n+1 - i) sc]).run prog w.drew= .ok (goInt ((n - i:Nat):Int)) (w.drew.setCells g ((i+1)*3) (xs.drop (i*3))):=fun ty dc sc=>by
  have hmin:Nat.min (n+1 - i) (n - i)=n - i:=yq
  have:=cC (P:=prog) w.drew 246 246 ty 250 3 g ((i+1)*3) (n - i) dc ⟨g,i*3,none⟩ (n+1 - i) sc (xs.drop (i*3)) underlying246 hsz xq
   (fun j u hj=>by rw [Addr.add_lit];exact hcell _ u (by rwa [uV] at hj))
   (fun j hj=>hsp _ xa) (fun j _=>hfz _) (fun u hu=>h1x u (Zr hu))
  exact kk8
 obtain ⟨W1,hW1⟩:=zc (w.drew.setCells g ((i+1)*3) (xs.drop (i*3)))
 have hsp1:∀j,j<(n+1)*3->(W1.cell? ⟨g,j,none⟩).isSome=true:=fun j hj=>by
  rw [hW1];exact isSome_setCells g (xs.drop (i*3)) ((i+1)*3) w.drew (fun t ht=>hsp ((i+1)*3+t) (by rw [hdl] at ht;omega)) _ (hsp j hj)
 have hcp2:∀(W:World),(∀x,W.cell? x=W1.cell? x)->(∀x,W.frozen? x=W1.frozen? x)->∀ty dc,(Builtin.copy_ #[246,246] ty #[.slice (some ⟨g,i*3,none⟩) (n+1 - i) dc,.slice (some ⟨vb,0,none⟩) 1 1]).run prog W= .ok (goInt 1) (W.setCells g (i*3) vs):=fun W hWc hWf ty dc=>by
  have hmin:Nat.min 1 (n+1 - i)=1:=yq
  have:=cC (P:=prog) W 246 246 ty 250 3 g (i*3) (n+1 - i) dc ⟨vb,0,none⟩ 1 1 vs underlying246 hsz jz
   (fun j u hj=>by
    rw [Addr.add_lit,vY,hWc,hW1,ZD g _ _ _ _ (fun h _=>absurd h hvb)]
    exact hvs j u hj)
   (fun j hj=>by rw [hWc];exact hsp1 _ zo) (fun j _=>by rw [hWf,hW1,ZF];exact hfz _) h1v
  exact kk8
 rw [<-hW1] at hcp1;have hw1:IntKind.i64.wrap ((i:Int)+1)=(i:Int)+1:=zB;have hw2:IntKind.i64.wrap ((n:Int)+1)=(n:Int)+1:=zB;have hb1:(0:Int)<=(i:Int)+1:=zo;have hz2:¬((i:Int)=(n:Int)):=zo;have hin:i<=n:=zo;have htn:((i:Int)+1).toNat=i+1:=zo;have htn2:((n:Int)+1).toNat=n+1:=zo;have hb2:¬(cap=i+1):=zo;have hb3:(i:Int)<=(n:Int)+1:=zo;have hb4:¬(cap=i):=zo;have hb5:¬((cap:Int)<(n:Int)+1):=zo;clear htake hcs hgb hsp hfz hcell hsb hcm hxl hdl hvs h1v h1x hsa hfa hsp1 hbg;go_enter func193,ntmps193;go_wp2_with (simp only [hov]);have mixed:prog.follows .mixedOrders=true:=zq;go_region_law_o (refine step_copy_runI rfl _ _ 246 246 rfl _ _ yA yA (hcp1 _ _ _) ?_);clear mixed;go_wp2_with (at_builtin;refine wpList_copy_runI _ rfl _ _ 246 246 rfl _ _ rfl rfl (hcp2 _ (fun _=>rfl) (fun _=>rfl) _ _) ?_);go_ret;subst hW1;exact hL.o w.drew rfl rfl rfl rfl
theorem pf (w:World) (base g n cap i:Nat) (xs vs:List Value) (hown:w.ownsRow base 250 3 (.slice (some ⟨g,0,none⟩) n cap) n xs) (hn:n<=1000) (vb:Nat) (hv:vs.length=3)
  (hvs:∀j u,vs[j]? =some u->w.cell? ⟨vb,j,none⟩=some u) (h1v:∀u∈vs,u.oneCell'=true) (h1x:∀u∈xs,u.oneCell'=true) (hbase:base<=w.heap.size)
  (hi:i<n) (hroom:cap<n+1):
  Calls prog 193 #[.slice (some ⟨g,0,none⟩) n cap,.int .i64 i,.slice (some ⟨vb,0,none⟩) 1 1] w (sK w base (.slice (some ⟨g,0,none⟩) n cap) n (xs.take (i*3)++vs++xs.drop (i*3))):=by
 obtain ⟨hxl,h2⟩:=hown
 rcases h2 with ⟨hc,_⟩ | ⟨g',cap',cur,hc,hbg,hgb,hnc,hcm,hcs,htake⟩
 ·cases hc
 cases hc
 obtain ⟨i0,hi0,hz0,hzs,hzb⟩:=info_parts tK
 have hcell:∀j u,xs[j]? =some u->w.cell? ⟨g,j,none⟩=some u:=fun j u hj=>by
  exact ke4
 have hgw:g<w.heap.size:=(vO.1 hgb).1;have hvw:vb<w.heap.size:=block_lt_of_cell (hvs 0 _ (vN zo))
 have hsz:(prog.info? 250).map (·.size)=some 3:=by rw [hi0];simp [hzs]
 have htl:(xs.take (i*3)).length=i*3:=by rw [ug,hxl];omega
 have hdl:(xs.drop (i*3)).length=n*3 - i*3:=qH
 have hold:(Builtin.firstCells i0.size i (.slice (some ⟨g,0,none⟩) i cap)).run prog w.drew= .ok (xs.take (i*3)).toArray w.drew:=by
  rw [hzs]
  exact run_firstCells_some w.drew 3 i ⟨g,0,none⟩ i cap (xs.take (i*3)) htl (fun j u hj=>by
   rw [Addr.add_lit,vY]
   rw [Zq] at hj
   split at hj
   ·exact hcell j u hj
   ·cases hj)
 have hik:i+(n+1 - i)=n+1:=zo;have hkk:(n:Int)+1 - (i:Int)=((n+1 - i:Nat):Int):=zo;obtain ⟨Z,hZ⟩:=zc ((Value.agg #[.int .i64 0,.int .u8 0,.bool false]).cells)
 have hZs:Z.size=3:=by rw [hZ];rfl
 obtain ⟨G,hG⟩:=zc (grownCap w (n+1) cap 250)
 have hGn:n+1<=G:=by rw [hG];exact grownCap_ge w _ _ _
 have hGm:G<=maxLen:=by rw [hG];exact grownCap_le_maxLen w (n+1) cap 250 (by unfold maxLen;omega)
 obtain ⟨ROW,hROW⟩:∃ROW:Array Value,ROW=(xs.take (i*3)).toArray++Builtin.zeroCells Z (n+1 - i)++Builtin.zeroCells Z (G - (n+1)):=⟨_,rfl⟩
 have hrz:∀ty,(Builtin.append_ #[246,3] ty #[.slice (some ⟨g,0,none⟩) i cap,.int .i64 ((n:Int)+1 - (i:Int))]).run prog w= .ok (.slice (some ⟨w.heap.size,0,none⟩) (n+1) G) (w.drew.alloc (.cells ROW 250)):=fun ty=>by
  have h:=Lib.run_append_grow_zeros w 246 3 ty 250 i0 _ .i64 .i64 underlying246 underlying3 hi0 hz0 (some ⟨g,0,none⟩) i cap (xs.take (i*3)) hold (n+1 - i) zo zo zo zo (by rw [hzb];omega) ja;rw [hik,<-hG,<-hZ,<-hROW] at h;rw [hkk];exact h
 have hRs:ROW.size=G*3:=by
  exact kp5
 have hRl:∃Y,ROW.toList=xs.take (i*3)++Y:=⟨(Builtin.zeroCells Z (n+1 - i)++Builtin.zeroCells Z (G - (n+1))).toList,by rw [hROW];simp⟩
 obtain ⟨W1,hW1⟩:=zc (w.drew.alloc (.cells ROW 250));rw [<-hW1] at hrz
 have hN:∀j,j<(n+1)*3->(W1.cell? ⟨w.heap.size,j,none⟩).isSome=true:=fun j hj=>by
  exact kn9
 have hNf:∀j,W1.frozen? ⟨w.heap.size,j,none⟩=false:=fun j=>by rw [hW1];exact World.frozen?_alloc_at (w:=w.drew) ROW _ w.heap.size j rfl
 have hOb:∀j u,w.cell? ⟨g,j,none⟩=some u->W1.cell? ⟨g,j,none⟩=some u:=fun j u h=>by rw [hW1,Yf (w:=w.drew) _ g j hgw];exact h
 have hOv:∀j u,w.cell? ⟨vb,j,none⟩=some u->W1.cell? ⟨vb,j,none⟩=some u:=fun j u h=>by rw [hW1,Yf (w:=w.drew) _ vb j hvw];exact h
 have hcpA:∀(W:World),(∀x,W.cell? x=W1.cell? x)->(∀x,W.frozen? x=W1.frozen? x)->∀ty dc,(Builtin.copy_ #[246,246] ty #[.slice (some ⟨w.heap.size,i*3,none⟩) (n+1 - i) dc,.slice (some ⟨vb,0,none⟩) 1 1]).run prog W= .ok (goInt 1) (W.setCells w.heap.size (i*3) vs):=fun W hWc hWf ty dc=>by
  have hmin:Nat.min 1 (n+1 - i)=1:=yq
  have:=cC (P:=prog) W 246 246 ty 250 3 w.heap.size (i*3) (n+1 - i) dc ⟨vb,0,none⟩ 1 1 vs underlying246 hsz jz
   (fun j u hj=>xF)
   (fun j hj=>by rw [hWc];exact hN _ zo) (fun j _=>by rw [hWf];exact hNf _) h1v
  exact kk8
 have hgN:g≠w.heap.size:=zo
 have hcpB:∀(W:World),(∀x,W.cell? x=(W1.setCells w.heap.size (i*3) vs).cell? x)->(∀x,W.frozen? x=(W1.setCells w.heap.size (i*3) vs).frozen? x)->∀ty dc sc,(Builtin.copy_ #[246,246] ty #[.slice (some ⟨w.heap.size,(i+1)*3,none⟩) (n - i) dc,.slice (some ⟨g,i*3,none⟩) (n - i) sc]).run prog W= .ok (goInt ((n - i:Nat):Int)) (W.setCells w.heap.size ((i+1)*3) (xs.drop (i*3))):=fun W hWc hWf ty dc sc=>by
  have hmin:Nat.min (n - i) (n - i)=n - i:=by simp [Nat.min_def]
  have:=cC (P:=prog) W 246 246 ty 250 3 w.heap.size ((i+1)*3) (n - i) dc ⟨g,i*3,none⟩ (n - i) sc (xs.drop (i*3)) underlying246 hsz xq
   (fun j u hj=>by
    rw [Addr.add_lit,hWc,ZD _ _ _ _ _ (fun h _=>absurd h hgN)]
    exact hOb _ u (hcell _ u (by rwa [uV] at hj)))
   (fun j hj=>by rw [hWc];exact isSome_setCells w.heap.size vs (i*3) W1 (fun t ht=>hN _ zo) _ (hN _ xa))
   (fun j _=>by rw [hWf,ZF];exact hNf _) (fun u hu=>h1x u (Zr hu))
  exact kk8
 have hL:Aside (∀W:World,W.heap=W1.heap->W.os=w.os->W.tape=w.tape->W.output=w.output->sK w base (.slice (some ⟨g,0,none⟩) n cap) n (xs.take (i*3)++vs++xs.drop (i*3)) (.returned (.slice (some ⟨w.heap.size,0,none⟩) (n+1) G)) ((W.setCells w.heap.size (i*3) vs).setCells w.heap.size ((i+1)*3) (xs.drop (i*3)))):=by
  intro W h0 h2 h3 h4;have hgW:W.heap[w.heap.size]? =some (.cells ROW 250 (0,0)):=jT;obtain ⟨Y,hY⟩:=hRl;have k1:=(aZ w.heap.size vs (i*3) W).trans (aZ w.heap.size (xs.drop (i*3)) ((i+1)*3) _);exact kf1
 have hG63:G<=9223372036854775807:=by unfold maxLen at hGm;omega
 have hGi:¬(G=i):=zo;have hGim:¬(G=i+1):=zo;have hci:¬(cap=i):=zo;have hw1:IntKind.i64.wrap ((i:Int)+1)=(i:Int)+1:=zB;have hw2:IntKind.i64.wrap ((n:Int)+1)=(n:Int)+1:=zB;have hw3:IntKind.i64.wrap ((n:Int)+1 - (i:Int))=(n:Int)+1 - (i:Int):=zB;have hb1:(0:Int)<=(i:Int)+1:=zo;have hz2:¬((i:Int)=(n:Int)):=zo;have hin:i<=n:=zo;have hin2:i<=cap:=zo;have htn:((i:Int)+1).toNat=i+1:=zo;have hb5:((cap:Int)<(n:Int)+1):=zo;have hb6:¬((n:Int)+1<=(cap:Int)):=zo
 have hE1:∀x,((w.alloc (.cells ROW 250)).drew).cell? x=(w.drew.alloc (.cells ROW 250)).cell? x:=fun x=>rfl
 have hE2:∀x,((w.alloc (.cells ROW 250)).drew).frozen? x=(w.drew.alloc (.cells ROW 250)).frozen? x:=fun x=>rfl
 subst hW1
 have hF1:∀x,(((w.alloc (.cells ROW 250)).drew.setCells w.heap.size (i*3) vs).drew).cell? x=((w.drew.alloc (.cells ROW 250)).setCells w.heap.size (i*3) vs).cell? x:=fun x=>rfl
 have hF2:∀x,(((w.alloc (.cells ROW 250)).drew.setCells w.heap.size (i*3) vs).drew).frozen? x=((w.drew.alloc (.cells ROW 250)).setCells w.heap.size (i*3) vs).frozen? x:=fun x=>rfl
 clear htake hcs hgb hcell hcm hxl hdl htl hvs h1v h1x hbg hold hROW hG hRs hRl hN hNf hOb hOv hik hkk hGm hZ hZs hgw hvw;go_enter func193,ntmps193
 go_wp2_with (first
  | (at_builtin;refine Lib.wpList_append_run _ rfl _ _ _ _ rfl _ _ rfl rfl _ _ (hrz _) ?_)
  | (at_builtin;refine wpList_copy_runI _ rfl _ _ 246 246 rfl _ _ rfl rfl (hcpA _ hE1 hE2 _ _) ?_))
 have mixed:prog.follows .mixedOrders=true:=zq;go_region_law_o (refine step_copy_runI rfl _ _ 246 246 rfl (.slice (some ⟨w.heap.size,(i+1)*3,none⟩) (n - i) (G - (i+1))) (.slice (some ⟨g,i*3,none⟩) (n - i) (cap - i)) yA yA (hcpB _ hF1 hF2 3 (G - (i+1)) (cap - i)) ?_);clear mixed;go_wp2;go_ret;rw [drew_setCells];exact hL.o ((w.alloc (.cells ROW 250)).drew.drew) rfl rfl rfl rfl
theorem BM (w:World) (base n i:Nat) (v:Value) (xs vs:List Value) (hown:w.ownsRow base 250 3 v n xs) (hn:n<=1000) (vb:Nat) (hv:vs.length=3)
  (hvs:∀j u,vs[j]? =some u->w.cell? ⟨vb,j,none⟩=some u) (h1v:∀u∈vs,u.oneCell'=true) (h1x:∀u∈xs,u.oneCell'=true) (hvb:some vb≠v.ownBlock) (hsa:w.shape? vb=some (250,3)) (hfa:∀j,w.frozen? ⟨vb,j,none⟩=false) (hbase:base<=w.heap.size) (hi:i<=n):
  Calls prog 193 #[v,.int .i64 i,.slice (some ⟨vb,0,none⟩) 1 1] w (sK w base v n (xs.take (i*3)++vs++xs.drop (i*3))):=by
 by_cases he:i=n
 ·subst he;have e1:xs.take (i*3)=xs:=uc xG;have e2:xs.drop (i*3)= []:=Zk xG;rw [e1,e2,Zi];exact sI w base v i xs vs hown hn vb hv hvs h1v hbase
 have hown':=hown
 rcases hown.2 with ⟨rfl,rfl⟩ | ⟨g,cap,cur,rfl,-⟩
 ·omega
 by_cases hroom:n+1<=cap
 ·exact pg w base g n cap i xs vs hown hn vb hv hvs h1v h1x (fun e=>hvb vg) hsa hfa zo hroom
 exact pf w base g n cap i xs vs hown hn vb hv hvs h1v h1x hbase zo zo
end
section
open Go.RowKit Go.Lib Go.Sort
def pZ (l:Ltr):List Value:=[.int .i64 l.1,.int .u8 (l.2.1:Int),.bool (!l.2.2)]
theorem fW (l:Ltr):(pZ l).length=3:=rfl
theorem AT (l:Ltr):∀v∈pZ l,v.oneCell'=true:=by
 intro v hv;simp [pZ] at hv;exact kp8
theorem cn {b o:Nat} (hb:Below w.heap.size w w') (h:w.cell? ⟨b,o,none⟩=some v):w'.cell? ⟨b,o,none⟩=some v:=by
 exact kh7
def LtrsIn (w:World) (ao:Option Addr) (zs:List Ltr):Prop:=zs= []\/∃blk off,ao=some ⟨blk,off,none⟩/\∀j u,(aA pZ zs)[j]? =some u->w.cell? ⟨blk,off+j,none⟩=some u
theorem LtrsIn.later (h:LtrsIn w ao zs) (hb:Below w.heap.size w w'):LtrsIn w' ao zs:=by
 rcases h with h | ⟨g,o,h1,h2⟩
 ·exact .inl h
 exact .inr ⟨g,o,h1,fun j u hj=>cn hb (h2 j u hj)⟩
theorem LtrsIn.at (h:LtrsIn w ao zs) {i:Nat} {a:Int} {c:Nat} {g:Bool} (hi:zs[i]? =some (a,c,g)):∃blk off,ao=some ⟨blk,off,none⟩/\w.cell? ⟨blk,off+i*3,none⟩=some (.int .i64 a)/\w.cell? ⟨blk,off+i*3+1,none⟩=some (.int .u8 (c:Int))/\w.cell? ⟨blk,off+i*3+2,none⟩=some (.bool (!g)):=by
 rcases h with h | ⟨b,o,h1,h2⟩
 ·subst h;simp at hi
 have hg:=fun k hk=>dM (enc:=pZ) (k:=3) fW (c:=k) hi hk
 refine ⟨b,o,h1,?_,?_,?_⟩
 ·exact h2 (i*3+0) _ (hg 0 zo)
 ·rw [Zc];exact h2 _ _ (hg 1 zo)
 rw [Zc];exact h2 _ _ (hg 2 zo)
def Gz (g:Nat) (lb:Array Value) (p:Ltr->Bool) (w:World):Prop:=
 ∀(W:World) (a:Int) (c:Nat) (gn:Bool),Below w.heap.size w W->Calls prog g (#[.agg #[.int .i64 a,.int .u8 (c:Int),.bool (!gn)]]++lb) W fun e w'=>e= .returned (.bool (p (a,c,gn)))/\Below w.heap.size w w'
theorem lE (p:Ltr->Bool) (g:Nat) (lb:Array Value) (eg:∀args w,(callFunc g args).run prog w= .ok (.enter g args) w) (ao:Option Addr) (cap:Nat) (zs:List Ltr) (w:World) (hp:Gz g lb p w) (hbig:zs.length<=1000000) (hin:LtrsIn w ao zs):
  Calls prog 230 #[.slice ao zs.length cap,.func (.func g) #[] lb] w fun e w'=>∃r:Int,e= .returned (.int .i64 r)/\Aside (Jz p zs r/\Below w.heap.size w w'):=by
 have HP:Aside (Gz g lb p w):=hp;have HI:Aside (LtrsIn w ao zs):=hin;clear hp hin;go_enter func230,ntmps230;go_wp2;go_loopg [5,8] zs.length (fun kx _ s8 wr=>∃(k:Nat),s8= .int .i64 (k:Int)/\k<=zs.length/\zs.length - k<=kx/\Aside (Below w.heap.size w wr/\∀j l,j<k->zs[j]? =some l->p l=false))
 case atStart=>exact ⟨0,rfl,vV _,vM _,⟨vP _ w,fun j l hj=>zo⟩⟩
 case round=>
  obtain ⟨k,rfl,hk,hkx,A⟩:=hrel;by_cases hlt:k<zs.length
  ·have hltz:decide ((k:Int)<(zs.length:Int))=true:=by simp;omega
   have ek:((k:Int)).toNat=k:=zo;have pk:(0:Int)<=(k:Int):=zo;have bk:(k:Int)<(zs.length:Int):=zo
   obtain ⟨⟨a,c,gn⟩,hl⟩:∃l,Aside (zs[k]? =some l):=⟨zs[k],vN hlt⟩
   obtain ⟨blk,off,rfl,c0,c1,c2⟩:=(HI.o.later A.o.1).at hl.o;have hcall:=HP.o wr a c gn A.o.1
   cases hq:p (a,c,gn) with
   | true=>
    exact kh9
   | false=>
    rw [hq] at hcall;have HQ:=Lib.hid hq;clear hq;go_wp2_with (go_at_fn g;refine hcall.mono ?_;rintro e w' ⟨rfl,hb'⟩);go_roundg (zs.length - (k+1))
    case measure=>omega
    case rel=>
     refine ⟨k+1,zD,zo,vM _,⟨hb',fun j l hj e=> ?_⟩⟩
     rcases uJ j k with h | h
     ·exact A.o.2 j l h e
     exact kq0
  exact kh3
theorem Gm (id:Int) (B:Nat) (w:World) (hB:B<w.heap.size) (hc:w.cell? ⟨B,0,none⟩=some (.int .i64 id)):Gz 231 #[.pointer (some ⟨B,0,none⟩)] (fun l=>decide (l.1=id)) w:=fun W a c gn hb=>by
 have hc':W.cell? ⟨B,0,none⟩=some (.int .i64 id):=(hb.cell (p:=⟨B,0,none⟩) hB).trans hc;have hBW:B<W.heap.size:=um hB hb.size;have hne:B≠W.heap.size:=zo;clear hc
 show Calls prog 231 #[.agg #[.int .i64 a,.int .u8 (c:Int),.bool (!gn)],.pointer (some ⟨B,0,none⟩)] W _
 go_enter func231,ntmps231;go_wp2
 all_goals (go_ret;exact ⟨by simp [BEq.beq],hb.alloc hb.size _⟩)
theorem FU (id:Int) (B:Nat) (w:World) (hB:B<w.heap.size) (hc:w.cell? ⟨B,0,none⟩=some (.int .i64 id)):Gz 234 #[.pointer (some ⟨B,0,none⟩)] (fun l=>decide (l.1<id)) w:=fun W a c gn hb=>by
 have hc':W.cell? ⟨B,0,none⟩=some (.int .i64 id):=(hb.cell (p:=⟨B,0,none⟩) hB).trans hc;have hBW:B<W.heap.size:=um hB hb.size;have hne:B≠W.heap.size:=zo;clear hc
 show Calls prog 234 #[.agg #[.int .i64 a,.int .u8 (c:Int),.bool (!gn)],.pointer (some ⟨B,0,none⟩)] W _
 go_enter func234,ntmps234;go_wp2
 all_goals (go_ret;exact ⟨rfl,hb.alloc hb.size _⟩)
structure LineAt (base:Nat) (w:World) (p:Nat) (v:Value) (L:List Ltr):Prop where
 cell:w.heap[p]? =some (.cells #[v] 248 (0,0))
 row:w.ownsRow base 250 3 v L.length (aA pZ L)
 low:p<base
 nodup:(L.map (·.1)).Nodup
 pos:∀l∈L,l.1≠0
 small:∀l∈L,l.2.1<256
theorem LineAt.c0 {base:Nat} (h:LineAt base w p v L):w.cell? ⟨p,0,none⟩=some v:=qI
theorem LineAt.fz {base:Nat} (h:LineAt base w p v L):w.frozen? ⟨p,0,none⟩=false:=xW
theorem LineAt.lt {base:Nat} (h:LineAt base w p v L):p<w.heap.size:=(vO.1 h.cell).1
theorem fe {base:Nat} (h:w.ownsRow base e k v n xs) (hs:∀g,v.ownBlock=some g->w'.heap[g]? =w.heap[g]?):w'.ownsRow base e k v n xs:=by
 refine ⟨h.1,?_⟩
 rcases h.2 with h0 | ⟨g,cap,cur,rfl,h1,hg,h2⟩
 ·exact .inl h0
 exact ko6
theorem LineAt.same {base:Nat} (h:LineAt base w p v L) (h1:w'.heap[p]? =w.heap[p]?) (h2:∀g,v.ownBlock=some g->w'.heap[g]? =w.heap[g]?):LineAt base w' p v L:=
 ⟨h1.trans h.cell,fe h.row h2,h.low,h.nodup,h.pos,h.small⟩
theorem LineAt.later {base:Nat} (h:LineAt base w p v L) (hb:Below w.heap.size w w'):LineAt base w' p v L:=
 h.same (hb.block _ h.lt) (fun g hg=>hb.block g (h.row.lt g hg).2)
theorem bI {base:Nat} (h:w.ownsRow base e k v n xs):∃ao cap,v= .slice ao n cap:=by
 rcases h.2 with ⟨h1,h2⟩ | ⟨g,cap,cur,rfl,_⟩
 ·subst h2;exact ⟨_,_,h1⟩
 exact ⟨_,_,rfl⟩
theorem mo {base:Nat} {cap:Nat} (h:w.ownsRow base 250 3 (.slice ao L.length cap) L.length (aA pZ L)):LtrsIn w ao L:=by
 have h':=h
 rcases h.2 with ⟨h1,h2⟩ | ⟨g,cap',cur,hv,_⟩
 ·exact ks4
 cases hv
 refine .inr ⟨g,0,rfl,fun j u hj=> ?_⟩;have hl:j<(aA pZ L).length:=(vL.1 hj).1;rw [bR fW] at hl;exact kq4
theorem Jp (w:World):Calls prog 124 #[] w fun e w'=>e= .returned (.pointer (some ⟨w.heap.size,0,none⟩))/\w'=w.alloc (.cells #[.slice none 0 0] 248):=by
 go_enter func124,ntmps124;exact kb4
theorem dt (w:World) (base p:Nat) (v:Value) (L:List Ltr) (id:Int) (h:LineAt base w p v L) (hL:L.length<=1000):
  Calls prog 192 #[.pointer (some ⟨p,0,none⟩),.int .i64 id] w fun e w'=>e= .returned (.int .i64 (iV id L))/\Below w.heap.size w w':=by
 obtain ⟨ao,cap,rfl⟩:=bI h.row;have eg:∀args w,(callFunc 231 args).run prog w= .ok (.enter 231 args) w:=enters_of func231 zq rfl;have hbx:Below w.heap.size w (w.alloc (.cells #[.int .i64 id] 3)):=zh w _;have hc:=lE (fun l=>decide (l.1=id)) 231 #[.pointer (some ⟨w.heap.size,0,none⟩)] eg ao cap L (w.alloc (.cells #[.int .i64 id] 3)) (Gm id w.heap.size _ zv qi) zo ((mo h.row).later hbx);have c0:=h.c0;have hpl:=h.lt;have HB:=Lib.hid hbx;clear h eg hbx;go_enter func192,ntmps192;go_wp2_with fail;refine hc.mono ?_;rintro e w1 ⟨r,rfl,hr⟩;go_wp2;go_ret;exact ⟨by rw [ox hr.o.1];rfl,HB.o.trans (hr.o.2.mono zv)⟩
theorem AU (w:World) (base p k:Nat) (v:Value) (L:List Ltr) (id:Int) (h:LineAt base w p v L) (hL:L.length<=1000) (hk:k<=L.length) (hn:id∉L.map (·.1)):
  Calls prog 194 #[.pointer (some ⟨p,0,none⟩),.int .i64 (k:Int),.int .i64 id] w fun e w'=>e= .returned (.int .i64 ((k+ce id (L.drop k):Nat):Int))/\Below w.heap.size w w':=by
 have HN:Aside (id∉(L.drop k).map (·.1)):=fun hm=>hn (by
  obtain ⟨l,hl,e⟩:=ut.1 hm
  exact ut.2 ⟨l,Zr hl,e⟩)
 have HS:Aside (ce id (L.drop k)<=L.length - k):=by have:=kj id (L.drop k);rwa [uy] at this
 obtain ⟨ao,cap,rfl⟩:=bI h.row
 have hLc:L.length<=cap:=by
  rcases h.row.2 with ⟨h1,h2⟩ | ⟨g,cap',cur,hv,_,_,h3,_⟩
  ·omega
  cases hv;exact h3
 have eg:∀args w,(callFunc 234 args).run prog w= .ok (.enter 234 args) w:=enters_of func234 zq rfl;have hbx:Below w.heap.size w (w.alloc (.cells #[.int .i64 id] 3)):=zh w _;have hdl:(L.drop k).length=L.length - k:=uy
 have hc:∀ap,LtrsIn w ap (L.drop k)->Calls prog 230 #[.slice ap (L.length - k) (cap - k),.func (.func 234) #[] #[.pointer (some ⟨w.heap.size,0,none⟩)]] (w.alloc (.cells #[.int .i64 id] 3)) _:=fun ap hap=>by
  have:=lE (fun l=>decide (l.1<id)) 234 #[.pointer (some ⟨w.heap.size,0,none⟩)] eg ap (cap - k) (L.drop k) (w.alloc (.cells #[.int .i64 id] 3)) (FU id w.heap.size _ zv qi) (by rw [hdl];omega) (hap.later hbx);rw [hdl] at this;exact this
 have c0:=h.c0;have hpl:=h.lt;have HI:Aside (LtrsIn w ao L):=mo h.row;have HB:=Lib.hid hbx;clear h eg hbx
 obtain ⟨q,hq⟩:∃q,Aside (ce id (L.drop k)=q):=⟨_,rfl⟩
 rw [hq.o] at HS |-
 have hq2:q<=L.length - k:=HS.o;have d0:decide ((q:Int)<0)=false:=zv;have e0:IntKind.i64.wrap ((k:Int)+(q:Int))=(k:Int)+(q:Int):=zB;have HD:=Lib.hid hdl;clear hdl HS;go_enter func194,ntmps194;go_wp2_with fail
 ·have hd0:L.drop k= []:=Zk zo;have hc':=hc ao (.inl hd0);rw [show cap - k=0 by omega] at hc'
  have hf:L.length=k+q:=by rw [<-hq.o,hd0];simp only [ce];omega
  have HF:=Lib.hid hf;have hck:cap=k:=jp
  have c0':w.cell? ⟨p,0,none⟩=some (Value.slice ao L.length k):=by rw [<-hck];exact c0
  refine hc'.mono ?_;rintro e w1 ⟨r,rfl,hr⟩
  have hr1:r= -1:=by
   rcases hr.o.1 with ⟨h,_⟩ | ⟨i,l,_,hl,_⟩
   ·exact h
   rw [hd0] at hl;simp at hl
  subst hr1;have hB1:Below w.heap.size w w1:=HB.o.trans (hr.o.2.mono zv);have c1:=cn hB1 c0';have H1:=Lib.hid hB1;clear hB1 hr hc' hf hd0 hck c0 c0' hc hLc;go_wp2;go_ret;exact ⟨by rw [HF.o];rfl,H1.o⟩
 have hLp:LtrsIn w (ao.map (fun x=>x.add (k*3))) (L.drop k):=by
  rcases HI.o with h0 | ⟨b,o,rfl,hcell⟩
  ·subst h0;exact .inl zv
  refine .inr ⟨b,o+k*3,by simp [Addr.add],fun j u hj=> ?_⟩;rw [<-dx fW L k hk,uV] at hj;rw [Zc];exact hcell _ u hj
 refine (hc _ hLp).mono ?_;clear hc HI hLp;rintro e w1 ⟨r,rfl,hr⟩;have hB1:Below w.heap.size w w1:=HB.o.trans (hr.o.2.mono zv);have c1:=cn hB1 c0;have H1:=Lib.hid hB1
 rcases Ij HN.o hr.o.1 with ⟨rfl,hs⟩ | hs
 ·have hf:L.length=k+q:=by rw [hq.o,HD.o] at hs;omega
  have HF:=Lib.hid hf;clear hB1 hr hs hf;go_wp2;go_ret;exact ⟨by rw [HF.o];rfl,H1.o⟩
 rw [hq.o] at hs;subst hs;clear hB1 hr;go_wp2;go_ret;exact ⟨zv,H1.o⟩
end
section
open Go.RowKit Go.Maps
structure CellsAt (w:World) (bc bm n:Nat) (f:cA):Prop where
 cell:w.heap[bc]? =some (.cells #[.map (some bm)] 193 (0,0))
 map:CMapAt w bm n f
theorem CellsAt.c0 (h:CellsAt w bc bm n f):w.cell? ⟨bc,0,none⟩=some (.map (some bm)):=qI
theorem CellsAt.lt {w:World} {bc bm n:Nat} {f:cA} (h:CellsAt w bc bm n f):bc<w.heap.size/\bm<w.heap.size:=⟨(vO.1 h.cell).1,h.map.lt⟩
theorem CellsAt.ne (h:CellsAt w bc bm n f):bc≠bm:=fun e=>by
 obtain ⟨⟨D,⟨es,clock,hb,_⟩,_⟩,_⟩:=h.map;have:=h.cell;rw [e,hb] at this
 cases this
theorem CellsAt.same {w w':World} {bc bm n:Nat} {f:cA} (h:CellsAt w bc bm n f) (h1:w'.heap[bc]? =w.heap[bc]?) (h2:w'.heap[bm]? =w.heap[bm]?):CellsAt w' bc bm n f:=⟨h1.trans h.cell,h.map.same h2⟩
theorem CellsAt.later (h:CellsAt w bc bm n f) (hb:Below w.heap.size w w'):CellsAt w' bc bm n f:=h.same (hb.block _ h.lt.1) (hb.block _ h.lt.2)
theorem CellsAt.mono {w:World} {bc bm n n':Nat} {f:cA} (h:CellsAt w bc bm n f) (hn:n<=n'):CellsAt w bc bm n' f:=⟨h.cell,h.map.mono hn⟩
theorem Hn (w:World):Calls prog 47 #[] w fun e w'=>e= .returned (.pointer (some ⟨w.heap.size+1,0,none⟩))/\w'=(w.alloc (.map #[] 0)).alloc (.cells #[.map (some w.heap.size)] 193):=by
 have hmm:= @run_makeMap prog;go_enter func47,ntmps47;exact kb4
theorem Jy (w:World) (bc bm:Nat) (h:w.cell? ⟨bc,0,none⟩=some (.map (some bm))):Calls prog 144 #[.pointer (some ⟨bc,0,none⟩)] w fun e w'=>e= .returned (.map (some bm))/\w'=w:=by
 go_enter func144,ntmps144;exact kb4
theorem mG (a b:Int×Int):bL a.1 a.2 b.1 b.2=decide (CLt a b):=by
 unfold bL CLt;by_cases h:a.1=b.1
 ·rw [if_pos h];simp [h]
 rw [if_neg h];simp [h]
def nR (w:World) (bc bm n:Nat) (f:cA) (m:bU×aG) (w':World):Prop:=CellsAt w' bc bm (n+1) (lC f m)/\Keeps (fun j=>j=bm) w w'
theorem Ib (w:World) (bc bm n:Nat) (f:cA) (a:Int) (s c:ByteArray) (t b:Int) (h:CellsAt w bc bm n f) (hn:n<=1000000) (hk:WfK (a,s)):
  Calls prog 195 #[.pointer (some ⟨bc,0,none⟩),.agg #[.int .i64 a,.string s],.agg #[.string c,.int .i64 t,.int .i64 b]] w fun e w'=>e= .returned (.bool (fC f (a,s) (c,(t,b))))/\nR w bc bm n f ((a,s),(c,(t,b))) w':=by
 obtain ⟨S,hS⟩:=zc w.heap.size;obtain ⟨U,hU⟩:=zc ((w.alloc (.cells #[.int .i64 a,.string s] 234)).alloc (.cells #[.string c,.int .i64 t,.int .i64 b] 236))
 have hKU:Keeps (fun _=>False) w U:=by rw [hU];exact ((Keeps.refl _ w).alloc _).alloc _
 have hsU:U.heap.size=S+2:=by rw [hU,hS];simp
 have hu1:U.heap[S+1]? =some (.cells #[.string c,.int .i64 t,.int .i64 b] 236 (0,0)):=by
  have:=heap_alloc_new (w.alloc (.cells #[.int .i64 a,.string s] 234)) (.cells #[.string c,.int .i64 t,.int .i64 b] 236);rw [uP] at this;rw [hU,hS];exact this
 have hu0:U.heap[S]? =some (.cells #[.int .i64 a,.string s] 234 (0,0)):=by
  exact ki7
 have hA:CellsAt U bc bm n f:=h.same (hKU.block _ h.lt.1 (fun e=>e)) (hKU.block _ h.lt.2 (fun e=>e));obtain ⟨Z,hZ⟩:=zc (U.alloc (.cells #[.string ⟨#[]⟩,.int .i64 0,.int .i64 0] 236))
 have hbZ:Below U.heap.size U Z:=by rw [hZ];exact zh U _
 have hAZ:CellsAt Z bc bm n f:=hA.later hbZ;have c0:U.cell? ⟨bc,0,none⟩=some (.map (some bm)):=hA.c0;have c1:=hAZ.c0;have l0:=(hA.later (vP _ U).drew).map.look hk;have l1:=(hAZ.later (vP _ Z).drew).map.look hk
 have k0:U.cell? ⟨S,0,none⟩=some (.int .i64 a):=by simp [World.cell?,hu0]
 have k1:U.cell? ⟨S,1,none⟩=some (.string s):=by simp [World.cell?,hu0]
 have j0:Z.cell? ⟨S,0,none⟩=some (.int .i64 a):=(hbZ.cell (p:=⟨S,0,none⟩) yc).trans k0;have j1:Z.cell? ⟨S,1,none⟩=some (.string s):=(hbZ.cell (p:=⟨S,1,none⟩) yc).trans k1;unfold od at l0 l1
 cases hf:f (a,s) with
 | none=>
  have hg:fC f (a,s) (c,(t,b))=true:=by unfold fC;rw [hf]
  rw [hg];rw [hf] at l0 l1;simp only [Option.getD_none,ZW] at l0 l1;unfold sn Ag at l0 l1;dsimp only at l0 l1
  have HA:Aside (CellsAt U bc bm n f/\Keeps (fun _=>False) w U/\U.heap.size=S+2/\U.heap[S]? =some (.cells #[.int .i64 a,.string s] 234 (0,0))/\U.heap[S+1]? =some (.cells #[.string c,.int .i64 t,.int .i64 b] 236 (0,0))):=⟨hA,hKU,hsU,hu0,hu1⟩
  clear hA hKU hu0 hu1 hAZ hbZ h hg;subst hZ;go_enter func195,ntmps195;go_wp2_with fail;rw [<-hU,<-hS];have HS:Aside (S=w.heap.size):=hS;clear hU hS;have hu1':=HA.o.2.2.2.2;have hbV:=(vP U.heap.size U).alloc zg (.cells #[.string ⟨#[]⟩,.int .i64 0,.int .i64 0] 236);have m0:(U.alloc (.cells #[.string ⟨#[]⟩,.int .i64 0,.int .i64 0] 236)).cell? ⟨S+1,0,none⟩=some (.string c):=(hbV.cell (p:=⟨S+1,0,none⟩) yc).trans jg;have m1:(U.alloc (.cells #[.string ⟨#[]⟩,.int .i64 0,.int .i64 0] 236)).cell? ⟨S+1,1,none⟩=some (.int .i64 t):=(hbV.cell (p:=⟨S+1,1,none⟩) yc).trans jg;have m2:(U.alloc (.cells #[.string ⟨#[]⟩,.int .i64 0,.int .i64 0] 236)).cell? ⟨S+1,2,none⟩=some (.int .i64 b):=(hbV.cell (p:=⟨S+1,2,none⟩) yc).trans jg;obtain ⟨w2,hrun,hM2,hT2⟩:=((HA.o.1.later hbV).later (vP _ _).drew |>.later (vP _ _).drew).map.store zH hk (c,(t,b))
  have HP:Aside (nR w bc bm n f ((a,s),(c,(t,b))) w2):=by
   have hKV:=aP hT2.grown;have hne:=HA.o.1.ne;have hlt:=HA.o.1.lt;have hs2:=hbV.size;refine ⟨⟨?_,?_⟩,?_⟩
   ·rw [hKV.block bc (by simp [World.drew];omega) (fun e=>hne yD)];exact (hbV.block bc hlt.1).trans HA.o.1.cell
   ·have:lC f ((a,s),(c,(t,b)))=fun x=>if x=(a,s) then some (c,(t,b)) else f x:=pB (by unfold fC;rw [hf])
    rw [this];exact hM2
   exact ((HA.o.2.1.mono (fun _ _ e=>e.elim)).then (((aW hbV).drew).drew) (fun i hi e=>by have:=HA.o.2.1.size;omega)).then hKV (fun i hi e=>yD)
  unfold od sn at hrun;dsimp only at hrun;have HR:=HP;clear hM2 hT2 hbV hu1';go_region
  all_goals
   go_wp2_with fail;go_region
  all_goals
   go_wp2;go_ret;exact ⟨rfl,HP.o⟩
 | some o=>
  obtain ⟨vo,tO,bo⟩:=o;rw [hf] at l0 l1;simp only [ZP,ZY] at l0 l1;unfold sn at l0 l1;dsimp only at l0 l1;obtain ⟨V,hV⟩:=zc ((U.alloc (.cells #[.string vo,.int .i64 tO,.int .i64 bo] 236)).drew)
  have hbV:Below U.heap.size U V:=by rw [hV];exact ((vP U.heap.size U).alloc zg _).drew
  have hv1:V.heap[S+1]? =some (.cells #[.string c,.int .i64 t,.int .i64 b] 236 (0,0)):=(hbV.block _ zo).trans hu1;have hv0:V.heap[S]? =some (.cells #[.int .i64 a,.string s] 234 (0,0)):=(hbV.block _ zo).trans hu0
  have hv2:V.heap[S+2]? =some (.cells #[.string vo,.int .i64 tO,.int .i64 bo] 236 (0,0)):=by
   rw [hV,<-hsU];exact heap_alloc_new U _
  have hKV:Keeps (fun _=>False) w V:=(hKU.then (aW hbV) (fun i hi e=>by have:=hKU.size;omega))
  have hAV:CellsAt V bc bm n f:=hA.later hbV
  have hsV:V.heap.size=S+3:=by rw [hV];show (U.alloc _).heap.size=_;rw [uP,hsU]
  have hg:fC f (a,s) (c,(t,b))=bL tO bo t b:=by unfold fC;rw [hf];exact (mG (tO,bo) (t,b)).symm
  rw [hg]
  have HA:Aside (CellsAt V bc bm n f/\Keeps (fun _=>False) w V/\V.heap.size=S+3/\V.heap[S]? =some (.cells #[.int .i64 a,.string s] 234 (0,0))/\V.heap[S+1]? =some (.cells #[.string c,.int .i64 t,.int .i64 b] 236 (0,0))/\V.heap[S+2]? =some (.cells #[.string vo,.int .i64 tO,.int .i64 bo] 236 (0,0))/\fC f (a,s) (c,(t,b))=bL tO bo t b):=⟨hAV,hKV,hsV,hv0,hv1,hv2,hg⟩
  have x1:V.cell? ⟨S+1,1,none⟩=some (.int .i64 t):=by simp [World.cell?,hv1]
  have x2:V.cell? ⟨S+1,2,none⟩=some (.int .i64 b):=by simp [World.cell?,hv1]
  have y1:V.cell? ⟨S+2,1,none⟩=some (.int .i64 tO):=yW;have y2:V.cell? ⟨S+2,2,none⟩=some (.int .i64 bo):=yW;clear hA hKU hu0 hu1 hAZ hbZ h hg hbV hv0 hv1 hv2 hKV hAV hsV;subst hZ;go_enter func195,ntmps195;go_wp2_with fail;rw [<-hU,<-hS];have HS:Aside (S=w.heap.size):=hS;clear hU hS;go_region
  all_goals
   rw [<-hV];clear l0 l1 c0 c1 k0 k1 j0 j1 hV;go_wp2_with fail;refine (oB tO bo t b _).mono ?_;rintro e w3 ⟨rfl,hb3⟩;have hA3:CellsAt w3 bc bm n f:=HA.o.1.later hb3
   have hK3:Keeps (fun _=>False) w w3:=HA.o.2.1.then (aW hb3) (fun i hi e=>by have:=HA.o.2.1.size;omega)
   cases hl:bL tO bo t b with
   | false=>
    have HP:Aside (nR w bc bm n f ((a,s),(c,(t,b))) w3):=by
     have:lC f ((a,s),(c,(t,b)))=f:=Al (HA.o.2.2.2.2.2.2.trans hl);exact ⟨by rw [this];exact hA3.mono (Nat.le_succ n),hK3.mono (fun _ _ e=>e.elim)⟩
    clear hA3 hK3 hb3;go_wp2;go_ret;exact ⟨by rw [hl];rfl,HP.o⟩
   | true=>
    obtain ⟨w2,hrun,hM2,hT2⟩:=(hA3.later (vP _ _).drew).map.store zH hk (c,(t,b))
    have HP:Aside (nR w bc bm n f ((a,s),(c,(t,b))) w2):=by
     have hKV:=aP hT2.grown;refine ⟨⟨?_,?_⟩,?_⟩
     ·rw [hKV.block bc hA3.lt.1 (fun e=>hA3.ne yD)];exact hA3.cell
     ·have:lC f ((a,s),(c,(t,b)))=fun x=>if x=(a,s) then some (c,(t,b)) else f x:=pB (HA.o.2.2.2.2.2.2.trans hl)
      rw [this];exact hM2
     exact ((hK3.mono (fun _ _ e=>e.elim)).drew).then hKV (fun i hi e=>yD)
    have c3:=hA3.c0;have hs3:=HA.o.2.2.1;have k0:w3.cell? ⟨S,0,none⟩=some (.int .i64 a):=(hb3.cell (p:=⟨S,0,none⟩) yc).trans (by simp [World.cell?,HA.o.2.2.2.1]);have k1:w3.cell? ⟨S,1,none⟩=some (.string s):=(hb3.cell (p:=⟨S,1,none⟩) yc).trans (by simp [World.cell?,HA.o.2.2.2.1]);have m0:w3.cell? ⟨S+1,0,none⟩=some (.string c):=(hb3.cell (p:=⟨S+1,0,none⟩) yc).trans qJ;have m1:w3.cell? ⟨S+1,1,none⟩=some (.int .i64 t):=(hb3.cell (p:=⟨S+1,1,none⟩) yc).trans qJ;have m2:w3.cell? ⟨S+1,2,none⟩=some (.int .i64 b):=(hb3.cell (p:=⟨S+1,2,none⟩) yc).trans qJ;unfold od sn at hrun;dsimp only at hrun;clear hA3 hK3 hb3 hM2 hT2 hs3;go_wp2_with fail;go_region
    all_goals
     go_wp2;go_ret;exact ⟨by rw [hl];rfl,HP.o⟩
