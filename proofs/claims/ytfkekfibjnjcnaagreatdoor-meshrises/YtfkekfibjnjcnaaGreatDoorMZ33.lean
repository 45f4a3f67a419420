import Derived.Test.YtfkekfibjnjcnaaGreatDoorMZ32
set_option linter.unusedSimpArgs false
set_option linter.unusedVariables false
set_option maxRecDepth 100000
set_option maxHeartbeats 64000000
namespace Go.Proofs.YtfkekfibjnjcnaaGreatDoor
open Go.Proofs.Tryz
variable {N:List NoteX} {L:List OpX} {B b bm fc k n:Nat} {ad:Nat→Addr} {st:Nat→DSt} {bp br d ow:Nat→Nat} {gd:Nat→Option Obj} {K:Nat→Rws} {dv:Nat→Value} {x:NoteX} {fo:Option Addr} {P:Program} {fv pv v:Value} {w w':World}
section
open Go.RowKit Go.Lib Go.Sort Go.Maps
open scoped Classical
def NtBlk (w:World) (b:Nat) (x:NoteX):Prop:=w.heap[b]? =some (.cells #[.int .i64 (x.1:Int),.int .i64 (x.2.1:Int),.bool x.2.2.1,.int .i64 (x.2.2.2.1 0),.int .i64 (x.2.2.2.1 1),.int .i64 (x.2.2.2.1 2),.int .i64 (x.2.2.2.1 3),valN x] 82 (0,0))
theorem NtBlk.lt (h:NtBlk w b x):b<w.heap.size:=(vn.1 h).1
theorem NtBlk.same (h:NtBlk w b x) (e:w'.heap[b]? =w.heap[b]?):NtBlk w' b x:=e.trans h
theorem NtBlk.later (h:NtBlk w b x) (hb:Below w.heap.size w w'):NtBlk w' b x:=h.same (hb.block b h.lt)
theorem NtBlk.new (w:World) (x:NoteX):NtBlk (w.alloc (.cells #[.int .i64 (x.1:Int),.int .i64 (x.2.1:Int),.bool x.2.2.1,.int .i64 (x.2.2.2.1 0),.int .i64 (x.2.2.2.1 1),.int .i64 (x.2.2.2.1 2),.int .i64 (x.2.2.2.1 3),valN x] 82)) w.heap.size x:=heap_alloc_new w _
theorem NtBlk.cells (h:NtBlk w b x):w.cell? ⟨b,0,none⟩=some (.int .i64 (x.1:Int))/\w.cell? ⟨b,1,none⟩=some (.int .i64 (x.2.1:Int))/\w.cell? ⟨b,2,none⟩=some (.bool x.2.2.1)/\w.cell? ⟨b,3,none⟩=some (.int .i64 (x.2.2.2.1 0))/\w.cell? ⟨b,4,none⟩=some (.int .i64 (x.2.2.2.1 1))/\w.cell? ⟨b,5,none⟩=some (.int .i64 (x.2.2.2.1 2))/\w.cell? ⟨b,6,none⟩=some (.int .i64 (x.2.2.2.1 3))/\w.cell? ⟨b,7,none⟩=some (valN x)/\∀o,w.frozen? ⟨b,o,none⟩=false:=by
 unfold NtBlk at h
 refine ⟨?_,?_,?_,?_,?_,?_,?_,?_,fun c=> ?_⟩<;>simp [World.cell?,World.frozen?,h]
def aggN (x:NoteX):Value:=.agg #[.int .i64 (x.1:Int),.int .i64 (x.2.1:Int),.bool x.2.2.1,.int .i64 (x.2.2.2.1 0),.int .i64 (x.2.2.2.1 1),.int .i64 (x.2.2.2.1 2),.int .i64 (x.2.2.2.1 3),valN x]
theorem infoNt:(prog.info? 82).map (fun i=>(i.zero,i.size,i.bytes))=some (some (.agg #[.int .i64 0,.int .i64 0,.bool false,.int .i64 0,.int .i64 0,.int .i64 0,.int .i64 0,.slice none 0 0]),8,80):=zk
theorem send_any {c:Nat->Nat->Nat} (w:World) (x:NoteX) (h:MeshAt gd B w ow n bm pv fv bp br d dv c K st N) (hE:EnvM B ad w) (hx:NoteIn w ow n x):
  Calls prog 34 #[.pointer (some ⟨bm,0,none⟩),aggN x] w fun e w'=>(30<=N.length/\e= .returned (eV ad 8)/\Aside (Below w.heap.size w w'))\/(N.length<30/\e= .returned .nilIface/\Aside (∃fv' ow',MeshAt gd B w' ow' n bm pv fv' bp br d dv c K st (N++ [x])/\Below B w w')):=by
 obtain ⟨i0,hi,hz0,hz1,hz2⟩:=info_parts infoNt
 obtain ⟨x1,x2,x3,x4,x5,x6,x7⟩:=x
 obtain ⟨x,hxe⟩:∃x:NoteX,Aside (x=(x1,x2,x3,x4,x5,x6,x7)):=⟨_,rfl⟩
 obtain ⟨Q,hQ⟩:=ze w.heap.size
 obtain ⟨U,hU⟩:=ze (w.alloc (.cells #[.int .i64 (x1:Int),.int .i64 (x2:Int),.bool x3,.int .i64 (x4 0),.int .i64 (x4 1),.int .i64 (x4 2),.int .i64 (x4 3),.slice x5 x7.length x6] 82))
 have hbU:Below w.heap.size w U:=yA
 have XU:NtBlk U Q x:=by rw [hU.o,hQ.o,hxe.o];exact NtBlk.new w (x1,x2,x3,x4,x5,x6,x7)
 have hmU:=h.later hbU
 have m1:=hmU.mesh.c1
 obtain ⟨fo,fc,hfv⟩:=rowIs h.fly
 have HM:Aside (MeshAt gd B w ow n bm pv fv bp br d dv c K st N/\EnvM B ad w/\NoteIn w ow n x/\MeshAt gd B U ow n bm pv fv bp br d dv c K st N/\Below w.heap.size w U/\NtBlk U Q x):=⟨h,hE,by rw [hxe.o];exact hx,hmU,hbU,XU⟩
 have ef:=(hE.later hbU).t.env.c7
 subst hfv
 unfold aggN valN
 dsimp only
 clear h hE hx hbU hmU XU
 by_cases hlen:30<=N.length
 ·have d1:decide ((30:Int)<=(N.length:Int))=true:=by simp;omega
  have d1n:decide (30<=N.length)=true:=zl
  go_enter func34,ntmps34
  go_upto_region 1 with fail
  rw [<-hU.o,<-hQ.o]
  go_wp2
  go_ret
  exact .inl ⟨hlen,rfl,HM.o.2.2.2.2.1⟩
 have d1:decide ((30:Int)<=(N.length:Int))=false:=zl
 have d1n:decide (30<=N.length)=false:=zl
 obtain ⟨X,hX⟩:=ze ((U.alloc (.cells #[.int .i64 (x1:Int),.int .i64 (x2:Int),.bool x3,.int .i64 (x4 0),.int .i64 (x4 1),.int .i64 (x4 2),.int .i64 (x4 3),.slice x5 x7.length x6] 82)).drew)
 have hbX:Below U.heap.size U X:=by rw [hX.o];exact (zh U _).drew
 have hmX:=HM.o.2.2.2.1.later hbX
 have hXc:X.heap[U.heap.size]? =some (.cells #[.int .i64 (x1:Int),.int .i64 (x2:Int),.bool x3,.int .i64 (x4 0),.int .i64 (x4 1),.int .i64 (x4 2),.int .i64 (x4 3),.slice x5 x7.length x6] 82 (0,0)):=by rw [hX.o];exact heap_alloc_new U _
 obtain ⟨v2,w2,hrun,hown,hgrow,hcase⟩:=append_in (P:=prog) X B 52 52 82 i0 _ 8 80 underlying52 hi hz0 hz1 hz2 rfl zj (.slice fo N.length fc) N.length (flat encNt N) hmX.fly ⟨U.heap.size,0,none⟩ 1 1 zj (encNt x) (by rw [encNt_len])
  (by rw [hxe.o];exact uF (cs:= #[.int .i64 (x1:Int),.int .i64 (x2:Int),.bool x3,.int .i64 (x4 0),.int .i64 (x4 1),.int .i64 (x4 2),.int .i64 (x4 3),.slice x5 x7.length x6]) (t:=82) (fr:=(0,0)) hXc) (encNt_one x) zw zj hmX.base
 have hown':w2.ownsRow B 82 8 v2 (N++ [x]).length (flat encNt (N++ [x])):=by
  rw [vw]
  have e:flat encNt (N++ [x])=flat encNt N++encNt x:=by simp [flat]
  rw [e]
  exact hown
 have hkU:Keeps (fun k=>some k=(Value.slice fo N.length fc).ownBlock) U w2:=((keeps_of_below hbX).mono (fun k hk q=>absurd hk (by have q':U.heap.size<=k:=q;omega))).then (keeps_of_grown hgrow) (fun k _ q=>q)
 have hnU:NoteIn U ow n x:=HM.o.2.2.1.later HM.o.2.2.2.2.1
 obtain ⟨hmF,hkF⟩:=HM.o.2.2.2.1.flyAct (v:=v2) (N':=N++ [x]) hkU hown' (fun g hg=>by
  rcases hcase with ⟨g',cp,e1,e2⟩ | ⟨e1,_⟩
  ·left
   rw [e2] at hg
   rw [e1]
   exact hg
  ·right
   rw [hg] at e1
   cases e1
   exact hbX.size) (fun y hy=>by
  rcases vv.1 hy with q | q
  ·exact HM.o.2.2.2.1.notes y q
  ·rw [vA.1 q];exact hnU)
 have HF:Aside (MeshAt gd B (w2.setCell ⟨bm,1,none⟩ v2) (paintTo ow U w2 3) n bm pv v2 bp br d dv c K st (N++ [x])/\Below B w (w2.setCell ⟨bm,1,none⟩ v2)):=⟨hmF,(HM.o.2.2.2.2.1.mono HM.o.1.base).trans (HM.o.2.2.2.1.below hkF (fun k e=>xH))⟩
 have kbm:∀ {b:Nat},b<U.heap.size->ow b≠3->w2.heap[b]? =U.heap[b]? :=fun {b} hb ho=>hkU.block b hb (fun q=>ho (HM.o.1.of b (Eq.symm q)))
 have SU:MeshC U.drew bm pv (.slice fo N.length fc)/\NtBlk U.drew Q x:=⟨HM.o.2.2.2.1.mesh,HM.o.2.2.2.2.2⟩
 have SX:MeshC X bm pv (.slice fo N.length fc)/\NtBlk X Q x:=⟨hmX.mesh,HM.o.2.2.2.2.2.later hbX⟩
 have S2:MeshC w2 bm pv (.slice fo N.length fc)/\NtBlk w2 Q x:=⟨(kbm HM.o.2.2.2.1.mesh.lt (by rw [HM.o.1.om];omega)).trans HM.o.2.2.2.1.mesh,HM.o.2.2.2.2.2.same (kbm HM.o.2.2.2.2.2.lt (by rw [HM.o.1.high Q (by rw [hQ.o];exact vm _)];omega))⟩
 have n1:=S2.1.c1
 have nf:=S2.1.fz 1
 obtain ⟨g2,cp2,hv2⟩:∃g cap,v2= .slice (some ⟨g,0,none⟩) (N.length+1) cap:=by
  rcases hown.2 with ⟨_,q⟩ | ⟨g,cap,cur,q,_⟩
  ·omega
  exact ⟨g,cap,q⟩
 subst hv2
 have HFS:Aside (∃fv' ow',MeshAt gd B (w2.setCell ⟨bm,1,none⟩ (.slice (some ⟨g2,0,none⟩) (N.length+1) cp2)) ow' n bm pv fv' bp br d dv c K st (N++ [(x1,x2,x3,x4,x5,x6,x7)])/\Below B w (w2.setCell ⟨bm,1,none⟩ (.slice (some ⟨g2,0,none⟩) (N.length+1) cp2))):=⟨_,_,by rw [<-hxe.o];exact HF.o.1,HF.o.2⟩
 clear hbX hmX hXc hown hown' hgrow hcase hkU hnU hmF hkF HF kbm
 go_enter func34,ntmps34
 go_upto_region 1 with fail
 rw [<-hU.o,<-hQ.o]
 go_upto_region 3 with fail
 refine wp_region_Z (S:=(fun w'=>MeshC w' bm pv (.slice fo N.length fc)/\NtBlk w' Q x)) (z:=10) zk SU (fun hHeld=> ?_)
 refine wpAnyZ_free (i:=0) (v:= ?va0) zt rfl zk zk zk (fun _ _ _ h=>h) (Or.inl ⟨zu,?hya0⟩) hHeld ?resta0
 case hya0=>(intro w' _;go_simp;try with_reducible rfl)
 refine qn ?_
 refine wpAnyZ_free (i:=1) (v:= ?va1) zt rfl zk zk zk (fun _ _ _ h=>h) (Or.inl ⟨zu,?hya1⟩) hHeld ?resta1
 case hya1=>(intro w' _;go_simp;try with_reducible rfl)
 refine qn ?_
 refine wpAnyZ_free (i:=2) (v:= ?va2) zt rfl zk zk zk (fun _ _ _ h=>h) (Or.inl ⟨zu,?hya2⟩) hHeld ?resta2
 case hya2=>(intro w' _;go_simp;try with_reducible rfl)
 refine qn ?_
 refine wpAnyZ_free (i:=3) (v:= ?va3) zt rfl zk zk zk (fun _ _ _ h=>h) (Or.inl ⟨zu,?hya3⟩) hHeld ?resta3
 case hya3=>(intro w' _;go_simp;try with_reducible rfl)
 refine qn ?_
 refine wpAnyZ_take (i:=4) (v:= ?va4) zt zk rfl zk zk zk zk (fun _ _ _ h=>h) (Or.inl ⟨zu,?hya4⟩) hHeld ?resta4
 case hya4=>(intro w' hSw;have q1:=hSw.1.c1;clear hSw;go_simp;try with_reducible rfl)
 refine qn ?_
 refine wpAnyZ_take (i:=5) (v:= ?va5) zt zk rfl zk zk zk zk (fun _ _ _ h=>h) (Or.inl ⟨zu,?hya5⟩) hHeld ?resta5
 case hya5=>(intro w' hSw;have q9:=hSw.2;rw [hxe.o] at q9;obtain ⟨q0,q1,q2,q3,q4,q5,q6,q7,-⟩:=NtBlk.cells q9;unfold valN at q7;dsimp only at q0 q1 q2 q3 q4 q5 q6 q7;clear q9;clear hSw;go_simp;try with_reducible rfl)
 refine qn ?_
 refine wpAnyZ_one (i:=6) zk rfl (fun kQ hK=> ?_)
 go_simp
 rw [<-hX.o]
 refine hK _ _ (.inl SX) ?_
 clear hK kQ hHeld
 refine qn ?_
 refine wpAnyZ_one (i:=7) zk rfl (fun kQ hK=> ?_)
 simp only [uE,uV,uW]
 refine Lib.wp_append_run _ _ _ _ _ rfl (.slice fo N.length fc) (.slice (some ⟨U.heap.size,0,none⟩) 1 1) ?ahs ?ahx _ w2 hrun ?_
 case ahs=>rfl
 case ahx=>rfl
 refine hK _ _ (.inl S2) ?_
 clear hK kQ
 refine qn ?_
 refine wpAnyZ_free (i:=8) (v:= ?vb8) zt rfl zk zk zk (fun _ _ _ h=>h) (Or.inl ⟨zu,?hyb8⟩) S2 ?restb8
 case hyb8=>(intro w' _;go_simp;try with_reducible rfl)
 refine qn ?_
 refine wpAnyZ_free (i:=9) (v:= ?vb9) zt rfl zk zk zk (fun _ _ _ h=>h) (Or.inl ⟨zu,?hyb9⟩) S2 ?restb9
 case hyb9=>(intro w' _;go_simp;try with_reducible rfl)
 refine qn ?_
 refine wpAnyZ_one (i:=10) zk rfl (fun kQ hK=> ?_)
 go_simp
 refine hK _ _ (.inr ⟨rfl,zt⟩) ?_
 clear hK kQ
 refine wpAnyZ_done zk ?_ _
 clear n1 nf S2 SX SU
 go_wp2
 go_ret
 exact .inr ⟨zj,rfl,HFS.o⟩
theorem flies_any {m:Nat} (w:World) (at_:Int) (h:MeshC w bm pv (.slice fo m fc)) (ho: -9223372036854775808<=at_/\at_<=9223372036854775807):
  Calls prog 48 #[.pointer (some ⟨bm,0,none⟩),.int .i64 at_] w fun e w'=>e= .returned (.bool (decide (0<=at_/\at_<(m:Int))))/\w'=w:=by
 have m1:=h.c1
 clear h
 by_cases h0:0<=at_
 ·have d0:decide (0<=at_)=true:=by simp;omega
  have e:decide (0<=at_/\at_<(m:Int))=decide (at_<(m:Int)):=jg
  rw [e]
  clear e h0
  go_enter func48,ntmps48
  go_wp2
  go_ret
  exact ⟨rfl,rfl⟩
 have d0:decide (0<=at_)=false:=zl
 have e:decide (0<=at_/\at_<(m:Int))=false:=jg
 rw [e]
 clear e h0
 go_enter func48,ntmps48
 go_wp2
 go_ret
 exact ⟨rfl,rfl⟩
end
section
open Go.RowKit Go.Lib Go.Sort Go.Maps
open scoped Classical
theorem cut_head (g n cap k:Nat) (w:World) (h:k<=cap):(Instr.slice 52 (.slice (some ⟨g,0,none⟩) n cap) none (some (.int .i64 (k:Int))) none).run prog w= .ok (.slice (some ⟨g,0,none⟩) k cap) w:=by
 have h1:(k:Int)<=(cap:Int):=zj
 have h0:(0:Int)<=(k:Int):=zj
 go_simp
theorem cut_tail (g n cap k:Nat) (h:k+1<=n) (hc:n<=cap):∃a:Addr,(k+1<cap->a=⟨g,(k+1)*8,none⟩)/\∀w:World,(Instr.slice 52 (.slice (some ⟨g,0,none⟩) n cap) (some (.int .i64 ((k:Int)+1))) none none).run prog w= .ok (.slice (some a) (n - (k+1)) (cap - (k+1))) w:=by
 have h1:(k:Int)+1<=(n:Int):=zj
 have h2:(n:Int)<=(cap:Int):=zj
 have h0:(0:Int)<=(k:Int)+1:=zj
 have tk:((k:Int)+1).toNat=k+1:=zj
 by_cases e:k+1=cap
 ·refine ⟨⟨g,0,none⟩,fun q=>zj,fun w=> ?_⟩
  subst e
  have en:n=k+1:=zj
  subst en
  go_simp
 have e1:¬(cap=k+1):=fun q=>e q.symm
 have e2:¬(cap - (k+1)=0):=zj
 refine ⟨⟨g,(k+1)*8,none⟩,fun _=>rfl,fun w=> ?_⟩
 go_simp
theorem cut_mid (g n cap k:Nat) (h:k+1<=n) (hc:n<=cap):∃V:Value,∀w:World,(Instr.slice 52 (.slice (some ⟨g,0,none⟩) n cap) (some (.int .i64 (k:Int))) (some (.int .i64 ((k:Int)+1))) (some (.int .i64 (n:Int)))).run prog w= .ok V w:=by
 have h1:(k:Int)+1<=(n:Int):=zj
 have h2:(n:Int)<=(cap:Int):=zj
 have h0:(0:Int)<=(k:Int):=zj
 have h3:(k:Int)<=(k:Int)+1:=zj
 have tk:((k:Int)+1).toNat=k+1:=zj
 have e2:¬(n - k=0):=zj
 have e3:¬(n=k):=zj
 refine ⟨.slice (some ⟨g,k*8,none⟩) 1 (n - k),fun w=> ?_⟩
 go_simp
theorem cut_end (g m cap:Nat) (hc:m+1<=cap) (w:World):(Instr.slice 52 (.slice (some ⟨g,0,none⟩) m cap) (some (.int .i64 (m:Int))) (some (.int .i64 ((m:Int)+1))) none).run prog w= .ok (.slice (some ⟨g,m*8,none⟩) 1 (cap - m)) w:=by
 have h1:(m:Int)+1<=(cap:Int):=zj
 have h0:(0:Int)<=(m:Int):=zj
 have h3:(m:Int)<=(m:Int)+1:=zj
 have tk:((m:Int)+1).toNat=m+1:=zj
 have e2:¬(cap - m=0):=zj
 have e3:¬(cap=m):=zj
 go_simp
theorem zeroNt:∀w:World,(zeroValue 82).run prog w= .ok (.agg #[.int .i64 0,.int .i64 0,.bool false,.int .i64 0,.int .i64 0,.int .i64 0,.int .i64 0,.slice none 0 0]) w:=fun w=>by
 go_simp
theorem zeroNs:(Value.agg #[.int .i64 0,.int .i64 0,.bool false,.int .i64 0,.int .i64 0,.int .i64 0,.int .i64 0,.slice none 0 0]).cells.size=8:=rfl
theorem zeroNc:(Builtin.zeroCells (Value.agg #[.int .i64 0,.int .i64 0,.bool false,.int .i64 0,.int .i64 0,.int .i64 0,.int .i64 0,.slice none 0 0]).cells 1).toList= [.int .i64 0,.int .i64 0,.bool false,.int .i64 0,.int .i64 0,.int .i64 0,.int .i64 0,.slice none 0 0]:=by
 simp [Builtin.zeroCells,Value.cells]
 rfl
theorem row_left (hk:k<N.length) {cur:Array Value} {cap:Nat} (hc:N.length<=cap) (hcs:cur.size=cap*8) (ht:cur.toList.take (N.length*8)=flat encNt N):
  flat encNt (N.take k)=cur.toList.take (k*8)/\(cur.toList.take (k*8)++flat encNt (N.drop (k+1))++cur.toList.drop (k*8+(flat encNt (N.drop (k+1))).length)).length=cap*8/\∀j u,(flat encNt (N.drop (k+1)))[j]? =some u->cur[(k+1)*8+j]? =some u:=by
 have hl:(flat encNt (N.drop (k+1))).length=(N.length - (k+1))*8:=by rw [flat_len encNt_len,ua]
 have hcl:cur.toList.length=cap*8:=by rw [uk,hcs]
 refine ⟨?_,?_,fun j u hj=> ?_⟩
 ·rw [<-flat_take encNt_len N k zj,<-ht,Zr]
  congr 1
  omega
 ·simp only [vw,vP,ua,hl,hcl]
  omega
 have hj':=hj
 rw [<-flat_drop encNt_len N (k+1) zj,<-ht,uw,un] at hj
 split at hj
 ·rw [<-ZH];exact hj
 cases hj
theorem del_any (w:World) (v:Value) (N:List NoteX) (k:Nat) (hrow:w.ownsRow B 82 8 v N.length (flat encNt N)) (hk:k<N.length) (hlen:N.length<=1000):
  Calls prog 55 #[v,.int .i64 (k:Int),.int .i64 ((k:Int)+1)] w fun e w'=>∃v',e= .returned v'/\Aside (w'.ownsRow B 82 8 v' (N.eraseIdx k).length (flat encNt (N.eraseIdx k))/\Keeps (fun j=>some j=v.ownBlock) w w'/\v'.ownBlock=v.ownBlock):=by
 obtain ⟨i0,hi,hz0,hz1,hz2⟩:=info_parts infoNt
 rcases hrow.2 with ⟨_,q⟩ | ⟨g,cap,cur,rfl,hBg,hg,hnc,hcm,hcs,htake⟩
 ·omega
 obtain ⟨r1,r2,r3⟩:=row_left hk hnc hcs htake
 obtain ⟨V1,hs1⟩:=cut_mid g N.length cap k zj hnc
 have hs2:=fun W=>cut_head g N.length cap k W zj
 obtain ⟨a3,ha3,hs3⟩:=cut_tail g N.length cap k zj hnc
 obtain ⟨m,hm⟩:∃m,N.length=m+1:=⟨N.length - 1,zj⟩
 have hrun:=run_append_room (P:=prog) w.drew 52 52 82 i0 underlying52 hi g k cap cur hg a3 (N.length - (k+1)) (cap - (k+1)) (flat encNt (N.drop (k+1))) (by rw [flat_len encNt_len,ua,hz1]) (fun j u hj=>by
   have hjl:=(vi.1 hj).1
   rw [flat_len encNt_len,ua] at hjl
   rw [ha3 zj,Addr.add_lit]
   show w.cell? ⟨g,(k+1)*8+j,none⟩=some u
   have:=r3 j u hj
   unfold World.cell?
   dsimp only
   rw [hg]
   exact this) (flat_one encNt_one _) zj (by rw [hz1,flat_len encNt_len,ua,hcs];omega)
 rw [hz1] at hrun
 obtain ⟨X,hX⟩:=ze (w.drew.setRow g (cur.toList.take (k*8)++flat encNt (N.drop (k+1))++cur.toList.drop (k*8+(flat encNt (N.drop (k+1))).length)).toArray)
 rw [<-hX.o] at hrun
 have em:k+(N.length - (k+1))=m:=zj
 rw [em] at hrun
 have hgX:X.heap[g]? =some (.cells (cur.toList.take (k*8)++flat encNt (N.drop (k+1))++cur.toList.drop (k*8+(flat encNt (N.drop (k+1))).length)).toArray 82 (0,0)):=by rw [hX.o];exact setRow_heap w.drew g cur _ _ _ hg
 have hkX:Keeps (fun j=>j=g) w X:=by rw [hX.o];exact ⟨rfl,rfl,rfl,zm,fun j _ hj=>setRow_other w.drew g j _ hj⟩
 have hs4:=fun W=>cut_end g m cap zj W
 have hmc:(m+1)*8<=cap*8:=zj
 have hclr:∀ty,(Builtin.clear_ #[52] ty #[.slice (some ⟨g,m*8,none⟩) 1 (cap - m)]).run prog X= .ok (.tuple #[]) (X.setCells g (m*8) [.int .i64 0,.int .i64 0,.bool false,.int .i64 0,.int .i64 0,.int .i64 0,.int .i64 0,.slice none 0 0]):=fun ty=>by
  have h:=run_clear_cells (P:=prog) X 52 82 ty _ underlying52 zeroNt g (m*8) 1 (cap - m) zj (by rw [zeroNc];simp [Value.oneCell']) (fun j hj=>by
   rw [zeroNs] at hj
   unfold World.cell?
   dsimp only
   rw [hgX]
   simp only [List.getElem?_toArray]
   rw [Zf]
   exact ⟨_,vj (by rw [r2];omega)⟩) (fun j hj=>by simp [World.frozen?,hgX])
  rw [zeroNc] at h
  exact h
 have HF:Aside ((X.setCells g (m*8) [.int .i64 0,.int .i64 0,.bool false,.int .i64 0,.int .i64 0,.int .i64 0,.int .i64 0,.slice none 0 0]).ownsRow B 82 8 (.slice (some ⟨g,0,none⟩) m cap) (N.eraseIdx k).length (flat encNt (N.eraseIdx k))/\Keeps (fun j=>some j=some g) w (X.setCells g (m*8) [.int .i64 0,.int .i64 0,.bool false,.int .i64 0,.int .i64 0,.int .i64 0,.int .i64 0,.slice none 0 0])):=by
  have hel:(N.eraseIdx k).length=m:=jO
  have hef:flat encNt (N.eraseIdx k)=cur.toList.take (k*8)++flat encNt (N.drop (k+1)):=by
   rw [List.eraseIdx_eq_take_drop_succ,<-r1]
   simp [flat]
  have hl:(cur.toList.take (k*8)++flat encNt (N.drop (k+1))).length=m*8:=by
   rw [<-hef,flat_len encNt_len,hel]
  refine ⟨?_,hkX.then (setCells_keeps g _ (m*8) X) (fun j _ e=>e) |>.mono (fun j _ e=>by have e':j=g:=e;rw [e'])⟩
  rw [hel,hef]
  refine ⟨hl,.inr ⟨g,cap,_,rfl,hBg,setCells_heap g _ (m*8) X _ _ hgX,zj,hcm,?_,?_⟩⟩
  ·rw [over_size]
   simpa using r2
  obtain ⟨C1,C2,hC,hC1⟩:∃C1 C2,cur.toList.drop (k*8+(flat encNt (N.drop (k+1))).length)=C1++C2/\C1.length=8:=by
   refine ⟨(cur.toList.drop (k*8+(flat encNt (N.drop (k+1))).length)).take 8,(cur.toList.drop (k*8+(flat encNt (N.drop (k+1))).length)).drop 8,(vX 8 _).symm,?_⟩
   rw [vP,ua,uk,hcs,flat_len encNt_len,ua]
   omega
  have ho:=over_list [.int .i64 0,.int .i64 0,.bool false,.int .i64 0,.int .i64 0,.int .i64 0,.int .i64 0,.slice none 0 0] (cur.toList.take (k*8)++flat encNt (N.drop (k+1))) C1 C2 (cur.toList.take (k*8)++flat encNt (N.drop (k+1))++cur.toList.drop (k*8+(flat encNt (N.drop (k+1))).length)).toArray (by rw [hC];simp) (by rw [hC1];rfl)
  rw [hl] at ho
  rw [ho,vR,vZ (Nat.le_of_eq hl.symm),vG (Nat.le_of_eq hl)]
 have pk:(0:Int)<=(k:Int):=zj
 have dne:((k:Int)==(k:Int)+1)=false:=qd
 have dnd:decide ((k:Int)=(k:Int)+1)=false:=yW
 have HN:Aside (N.length=m+1):=hm
 rw [hm] at hs1 hs2 hs3 hrun
 rw [show ((m+1:Nat):Int)=(m:Int)+1 by omega] at hs1
 rw [hm]
 rw [show m+1 - (k+1)=m - k by omega] at hs3 hrun
 have HCC:Aside (m+1<=cap/\k<m+1):=⟨zj,zj⟩
 clear hrow hBg hg hnc hcm hcs htake r1 r2 r3 ha3 hgX hkX hmc em hm hlen hk
 go_enter func55,ntmps55
 go_upto_region 5 with fail
 refine wp_region_H (S:=(fun _=>True)) zk trivial (fun hHeld=> ?_)
 refine tk 0 hHeld ?_
 refine tk 1 hHeld ?_
 refine tk 2 hHeld ?_
 refine tk 3 hHeld ?_
 refine tk 4 hHeld ?_
 refine tk 5 hHeld ?_
 refine wpAnyH_one (i:=6) zk rfl (fun kQ hK=> ?_)
 simp only [uE,uV,uW]
 refine Lib.wp_append_run _ _ _ _ _ rfl (.slice (some ⟨g,0,none⟩) k cap) (.slice (some a3) (m - k) (cap - (k+1))) ?ahs ?ahx _ X hrun ?_
 case ahs=>rfl
 case ahx=>rfl
 refine hK _ _ trivial ?_
 clear hK kQ
 refine qn ?_
 refine wpAnyH_one (i:=7) zk rfl (fun kQ hK=> ?_)
 go_simp
 refine hK _ _ trivial ?_
 clear hK kQ
 refine wpAnyH_done zk ?_ _
 refine qn ?_
 clear hrun hs1 hs2 hs3
 go_wp2
 go_ret
 exact ⟨_,rfl,HF.o.1,HF.o.2,rfl⟩
end
section
open Go.RowKit Go.Lib Go.Sort Go.Maps
open scoped Classical
def TakeOk (gd:Nat->Option Obj) (B n bm:Nat) (pv:Value) (bp br d:Nat->Nat) (dv:Nat->Value) (c:Nat->Nat->Nat) (K:Nat->Rws) (st:Nat->DSt) (N:List NoteX) (k:Nat) (x:NoteX) (w w':World):Prop:=N[k]? =some x/\∃ow' fv',MeshAt gd B w' ow' n bm pv fv' bp br d dv c K st (N.eraseIdx k)/\NoteIn w' ow' n x/\Below B w w'
theorem note_cells (h:w.ownsRow B 82 8 (.slice fo N.length fc) N.length (flat encNt N)) (hx:N[k]? =some x):∃blk off,fo=some ⟨blk,off,none⟩/\∀c u,(encNt x)[c]? =some u->w.cell? ⟨blk,off+k*8+c,none⟩=some u:=(rowIn encNt_len h).get encNt_len hx
theorem take_any {c:Nat->Nat->Nat} (w:World) (at_:Int) (h:MeshAt gd B w ow n bm pv fv bp br d dv c K st N) (hE:EnvM B ad w) (hN:N.length<=30) (ho: -9223372036854775808<=at_/\at_<=9223372036854775807):
  Calls prog 31 #[.pointer (some ⟨bm,0,none⟩),.int .i64 at_] w fun e w'=>(¬(0<=at_/\at_<(N.length:Int))/\e= .returned (.tuple #[.agg #[.int .i64 0,.int .i64 0,.bool false,.int .i64 0,.int .i64 0,.int .i64 0,.int .i64 0,.slice none 0 0],eV ad 6])/\Aside (Below w.heap.size w w'))\/(∃(k:Nat) (x:NoteX),at_=(k:Int)/\k<N.length/\e= .returned (.tuple #[aggN x,.nilIface])/\Aside (TakeOk gd B n bm pv bp br d dv c K st N k x w w')):=by
 obtain ⟨S,hS⟩:=ze w.heap.size
 obtain ⟨U,hU⟩:=ze (w.alloc (.cells #[.int .i64 0,.int .i64 0,.bool false,.int .i64 0,.int .i64 0,.int .i64 0,.int .i64 0,.slice none 0 0] 82))
 have hbU:Below w.heap.size w U:=yA
 have hSc:U.heap[S]? =some (.cells #[.int .i64 0,.int .i64 0,.bool false,.int .i64 0,.int .i64 0,.int .i64 0,.int .i64 0,.slice none 0 0] 82 (0,0)):=by rw [hU.o,hS.o];exact heap_alloc_new w _
 have hmU:=h.later hbU
 obtain ⟨fo,fc,hfv⟩:=rowIs h.fly
 subst hfv
 have m1:=hmU.mesh.c1
 have hfl:=flies_any U at_ hmU.mesh ho
 have HM:Aside (MeshAt gd B w ow n bm pv (.slice fo N.length fc) bp br d dv c K st N/\EnvM B ad w/\MeshAt gd B U ow n bm pv (.slice fo N.length fc) bp br d dv c K st N/\Below w.heap.size w U/\U.heap[S]? =some (.cells #[.int .i64 0,.int .i64 0,.bool false,.int .i64 0,.int .i64 0,.int .i64 0,.int .i64 0,.slice none 0 0] 82 (0,0))):=⟨h,hE,hmU,hbU,hSc⟩
 have en:=(hE.later hbU).t.env.c5
 have lowE:1<S:=by have h1:=hE.t.env.low;have h2:=hE.t.env.size;rw [hS.o];show _<_;omega
 have HL:Aside (1<S):=lowE
 clear h hE hmU hbU lowE
 by_cases hin:0<=at_/\at_<(N.length:Int)
 ·obtain ⟨k,rfl⟩:∃k:Nat,at_=(k:Int):=⟨at_.toNat,zj⟩
  have hk:k<N.length:=zj
  rw [decide_eq_true hin] at hfl
  obtain ⟨⟨x1,x2,x3,x4,x5,x6,x7⟩,hx⟩:∃x,Aside (N[k]? =some x):=⟨N[k],vj hk⟩
  obtain ⟨x,hxe⟩:∃x:NoteX,Aside (x=(x1,x2,x3,x4,x5,x6,x7)):=⟨_,rfl⟩
  obtain ⟨blk,off,rfl,hc⟩:=note_cells HM.o.2.2.1.fly hx.o
  have r0:=hc 0 _ rfl
  have r1:=hc 1 _ rfl
  have r2:=hc 2 _ rfl
  have r3:=hc 3 _ rfl
  have r4:=hc 4 _ rfl
  have r5:=hc 5 _ rfl
  have r6:=hc 6 _ rfl
  have r7:=hc 7 _ rfl
  simp only [ui] at r0
  dsimp only at r0 r1 r2 r3 r4 r5 r6 r7
  unfold valN at r7
  dsimp only at r7
  have wk:((k:Int)).toNat=k:=zj
  have pk:(0:Int)<=(k:Int):=zj
  have bk:(k:Int)<(N.length:Int):=zj
  obtain ⟨P,hP⟩:=ze U.heap.size
  obtain ⟨V,hV⟩:=ze (U.alloc (.cells #[.int .i64 (x1:Int),.int .i64 (x2:Int),.bool x3,.int .i64 (x4 0),.int .i64 (x4 1),.int .i64 (x4 2),.int .i64 (x4 3),.slice x5 x7.length x6] 82))
  have hbV:Below U.heap.size U V:=by rw [hV.o];exact zh U _
  have hmV:=HM.o.2.2.1.later hbV
  have XV:NtBlk V P x:=by rw [hV.o,hP.o,hxe.o];exact NtBlk.new U (x1,x2,x3,x4,x5,x6,x7)
  have hSV:V.heap[S]? =some (.cells #[.int .i64 0,.int .i64 0,.bool false,.int .i64 0,.int .i64 0,.int .i64 0,.int .i64 0,.slice none 0 0] 82 (0,0)):=(hbV.block S ((vn.1 HM.o.2.2.2.2).1)).trans HM.o.2.2.2.2
  have hdel:=del_any V (.slice (some ⟨blk,off,none⟩) N.length fc) N k hmV.fly hk zj
  have v1:=hmV.mesh.c1
  have HV:Aside (MeshAt gd B V ow n bm pv (.slice (some ⟨blk,off,none⟩) N.length fc) bp br d dv c K st N/\NtBlk V P x/\V.heap[S]? =some (.cells #[.int .i64 0,.int .i64 0,.bool false,.int .i64 0,.int .i64 0,.int .i64 0,.int .i64 0,.slice none 0 0] 82 (0,0))/\Below w.heap.size w V/\ow P=0/\ow S=0/\S≠P):=⟨hmV,XV,hSV,zi HM.o.2.2.2.1 hbV,HM.o.1.high P (by have:=HM.o.2.2.2.1.size;rw [hP.o];exact this),HM.o.1.high S yt,by have:=(vn.1 HM.o.2.2.2.2).1;rw [hP.o];omega⟩
  clear hc hbV hmV XV hSV hSc
  go_enter func31,ntmps31
  go_upto_region 1 with fail
  rw [<-hU.o,<-hS.o]
  go_wp2_with fail
  refine hfl.mono ?_
  clear hfl
  rintro e w1 ⟨rfl,rfl⟩
  go_upto_region 4 with fail
  rw [<-hV.o,<-hP.o]
  clear r0 r1 r2 r3 r4 r5 r6 r7 m1
  go_wp2_with fail
  refine hdel.mono ?_
  clear hdel
  rintro e w3 ⟨v3,rfl,H3⟩
  have hnx:=HM.o.2.2.1.notes _ (vx hx.o)
  have hnV:NoteIn V ow n x:=by
   have q:=HV.o.1.notes _ (vx hx.o)
   rw [hxe.o];exact q
  obtain ⟨hmF,hkF⟩:=HV.o.1.flyAct (v:=v3) (N':=N.eraseIdx k) H3.o.2.1 H3.o.1 (fun g hg=>.inl (by rw [<-H3.o.2.2];exact hg)) (fun y hy=>HV.o.1.notes y (Zx hy))
  have hnF:=HV.o.1.note hnV hkF (fun j q=>by rcases q with q | q<;>omega) (w2:=w3) 3
  have k0:∀j,j<V.heap.size->ow j=0->w3.heap[j]? =V.heap[j]? :=fun j hj e=>H3.o.2.1.block j hj (fun q=>by have:=HV.o.1.of j (Eq.symm q);omega)
  have hM3:MeshC w3 bm pv (.slice (some ⟨blk,off,none⟩) N.length fc):=(H3.o.2.1.block bm HV.o.1.mesh.lt (fun q=>by have:=HV.o.1.of bm (Eq.symm q);rw [HV.o.1.om] at this;omega)).trans HV.o.1.mesh
  have n1:=hM3.c1
  have nf:=hM3.fz 1
  have X3:NtBlk w3 P x:=HV.o.2.1.same (k0 P HV.o.2.1.lt HV.o.2.2.2.2.1)
  have Z3:w3.heap[S]? =some (.cells #[.int .i64 0,.int .i64 0,.bool false,.int .i64 0,.int .i64 0,.int .i64 0,.int .i64 0,.slice none 0 0] 82 (0,0)):=(k0 S (vn.1 HV.o.2.2.1).1 HV.o.2.2.2.2.2.1).trans HV.o.2.2.1
  have X4:NtBlk (w3.setCell ⟨bm,1,none⟩ v3) P x:=X3.same (setCells_other bm [v3] 1 w3 P (fun q=>by have:=HV.o.2.2.2.2.1;rw [q,HV.o.1.om] at this;omega))
  have Z4:(w3.setCell ⟨bm,1,none⟩ v3).heap[S]? =some (.cells #[.int .i64 0,.int .i64 0,.bool false,.int .i64 0,.int .i64 0,.int .i64 0,.int .i64 0,.slice none 0 0] 82 (0,0)):=(setCells_other bm [v3] 1 w3 S (fun q=>by have:=HV.o.2.2.2.2.2.1;rw [q,HV.o.1.om] at this;omega)).trans Z3
  obtain ⟨w4,hw4⟩:=ze (w3.setCell ⟨bm,1,none⟩ v3)
  rw [<-hw4.o] at hmF hkF hnF X4 Z4
  have H4:Aside (MeshAt gd B w4 (paintTo ow V w3 3) n bm pv v3 bp br d dv c K st (N.eraseIdx k)/\NoteIn w4 (paintTo ow V w3 3) n x/\Below B w w4/\paintTo ow V w3 3 S=0):=⟨hmF,hnF,(HV.o.2.2.2.1.mono HM.o.1.base).trans (HV.o.1.below hkF (fun j e=>xH)),(paint_is (vn.1 HV.o.2.2.1).1).trans HV.o.2.2.2.2.2.1⟩
  rw [hxe.o] at X4
  obtain ⟨q0,q1,q2,q3,q4,q5,q6,q7,-⟩:=X4.cells
  unfold valN at q7
  dsimp only at q0 q1 q2 q3 q4 q5 q6 q7
  have z0:w4.cell? ⟨S,0,none⟩=some (.int .i64 0):=zM
  have z1:w4.cell? ⟨S,1,none⟩=some (.int .i64 0):=zM
  have z2:w4.cell? ⟨S,2,none⟩=some (.bool false):=zM
  have z3:w4.cell? ⟨S,3,none⟩=some (.int .i64 0):=zM
  have z4:w4.cell? ⟨S,4,none⟩=some (.int .i64 0):=zM
  have z5:w4.cell? ⟨S,5,none⟩=some (.int .i64 0):=zM
  have z6:w4.cell? ⟨S,6,none⟩=some (.int .i64 0):=zM
  have z7:w4.cell? ⟨S,7,none⟩=some (.slice none 0 0):=zM
  have zf:∀o,w4.frozen? ⟨S,o,none⟩=false:=fun o=>by simp [World.frozen?,Z4]
  obtain ⟨v3o,v3c,hv3⟩:=rowIs H3.o.1
  subst hv3
  clear hnx hnV hmF hkF hnF k0 hM3 X3 Z3 X4 Z4 H3 v1
  go_upto_region 5 with fail
  rw [<-hw4.o]
  clear n1 nf
  go_wp2
  (try simp only [Exit.inBlock,Exit.then])
  refine bodyPost_ret (v:=.tuple #[.agg #[.int .i64 (x1:Int),.int .i64 (x2:Int),.bool x3,.int .i64 (x4 0),.int .i64 (x4 1),.int .i64 (x4 2),.int .i64 (x4 3),.slice x5 x7.length x6],.nilIface]) ?_ rfl (.inr ⟨k,x,rfl,hk,by rw [hxe.o];rfl,?_⟩)
  ·rw [results_ct rfl]
   go_simp
  have hk7:=setCells_keeps S [.int .i64 (x1:Int),.int .i64 (x2:Int),.bool x3,.int .i64 (x4 0),.int .i64 (x4 1),.int .i64 (x4 2),.int .i64 (x4 3),.slice x5 x7.length x6] 0 w4
  have hs0:∀j,j=S->paintTo ow V w3 3 j=0:=fun j e=>by rw [e];exact H4.o.2.2.2
  refine ⟨by rw [hxe.o];exact hx.o,_,_,H4.o.1.still hk7 hs0,⟨H4.o.2.1.from_,H4.o.2.1.to_,opsAt_kept H4.o.2.1.ops (fun g hg=>hk7.block g (H4.o.1.in_ (by rw [H4.o.2.1.own g hg];omega)) (fun q=>by have:=hs0 g q;rw [H4.o.2.1.own g hg] at this;omega)),H4.o.2.1.own⟩,H4.o.2.2.1.trans (hk7.below H4.o.1.base (fun j e=>by have e':j=S:=e;have:=HM.o.1.base;rw [e',hS.o];exact this))⟩
 rw [decide_eq_false hin] at hfl
 have SD:U.drew.cell? ⟨1,0,none⟩=some (.iface 350 (.pointer (some (ad 5)))):=en
 obtain ⟨V,hV⟩:=ze U.drew
 have SV:V.cell? ⟨1,0,none⟩=some (.iface 350 (.pointer (some (ad 5)))):=by rw [hV.o];exact en
 have Z4:V.heap[S]? =some (.cells #[.int .i64 0,.int .i64 0,.bool false,.int .i64 0,.int .i64 0,.int .i64 0,.int .i64 0,.slice none 0 0] 82 (0,0)):=by rw [hV.o];exact hSc
 have SW:(V.setCells S 0 [.int .i64 0,.int .i64 0,.bool false,.int .i64 0,.int .i64 0,.int .i64 0,.int .i64 0,.slice none 0 0]).cell? ⟨1,0,none⟩=some (.iface 350 (.pointer (some (ad 5)))):=(vI (a:=⟨1,0,none⟩) (setCells_other S _ 0 V 1 (by have:=HL.o;omega))).trans SV
 have z0:V.cell? ⟨S,0,none⟩=some (.int .i64 0):=zM
 have z1:V.cell? ⟨S,1,none⟩=some (.int .i64 0):=zM
 have z2:V.cell? ⟨S,2,none⟩=some (.bool false):=zM
 have z3:V.cell? ⟨S,3,none⟩=some (.int .i64 0):=zM
 have z4:V.cell? ⟨S,4,none⟩=some (.int .i64 0):=zM
 have z5:V.cell? ⟨S,5,none⟩=some (.int .i64 0):=zM
 have z6:V.cell? ⟨S,6,none⟩=some (.int .i64 0):=zM
 have z7:V.cell? ⟨S,7,none⟩=some (.slice none 0 0):=zM
 have zf:∀o,V.frozen? ⟨S,o,none⟩=false:=fun o=>by simp [World.frozen?,Z4]
 have HIN:Aside (¬(0<=at_/\at_<(N.length:Int))):=hin
 clear Z4 hSc hin en m1
 go_enter func31,ntmps31
 go_upto_region 1 with fail
 rw [<-hU.o,<-hS.o]
 go_wp2_with fail
 refine hfl.mono ?_
 clear hfl
 rintro e w1 ⟨rfl,rfl⟩
 go_upto_region 2 with fail
 refine wp_region_H (S:=(fun w'=>w'.cell? ⟨1,0,none⟩=some (.iface 350 (.pointer (some (ad 5)))))) zk SD (fun hHeld=> ?_)
 rw [<-hV.o]
 clear hHeld
 have hHeld:=SV
 refine tk 0 hHeld ?_
 refine tk 1 hHeld ?_ (hy:=Or.inl ⟨zu,yg⟩)
 refine wpAnyH_one (i:=2) zk rfl (fun kQ hK=> ?_)
 go_simp
 refine hK _ _ SW ?_
 clear hK kQ
 refine qn ?_
 refine wpAnyH_one (i:=3) zk rfl (fun kQ hK=> ?_)
 go_simp
 refine hK _ _ SW ?_
 clear hK kQ
 refine wpAnyH_done zk ?_ _
 refine qn ?_
 clear SW SV SD hHeld
 go_wp2
 (try simp only [Exit.inBlock,Exit.then])
 refine bodyPost_ret (v:=.tuple #[.agg #[.int .i64 0,.int .i64 0,.bool false,.int .i64 0,.int .i64 0,.int .i64 0,.int .i64 0,.slice none 0 0],.iface 350 (.pointer (some (ad 5)))]) ?_ rfl (.inl ⟨HIN.o,rfl,?_⟩)
 ·rw [results_ct rfl]
  go_simp
 have hbV:Below w.heap.size w V:=by rw [hV.o];exact HM.o.2.2.2.1.drew
 exact below_cells (b:=S) hbV yt 0 [.int .i64 0,.int .i64 0,.bool false,.int .i64 0,.int .i64 0,.int .i64 0,.int .i64 0,.slice none 0 0]
end
section
open Go.RowKit Go.Lib Go.Sort Go.Maps
open scoped Classical
theorem MeshAt.redo {gd':Nat->Option Obj} {ow':Nat->Nat} {c:Nat->Nat->Nat}
  (h:MeshAt gd B w ow n bm pv fv bp br d dv c K st N) (hk:Keeps (fun k=>ow k=5) w w') (hs:∀k,ow k≠0->ow' k=ow k) (hn:∀k,ow' k≠0->ow k≠0\/(w.heap.size<=k/\k<w'.heap.size)) (hg:∀k o,gd' k=some o->ow' k=5/\w'.heap[k]? =some o):
  MeshAt gd' B w' ow' n bm pv fv bp br d dv c K st N:=by
 have same:∀ {k i:Nat},ow k=i->i≠0->i≠5->w'.heap[k]? =w.heap[k]? :=fun {k i} e hi h5=>hk.block k (h.in_ yw) (fun p=>h5 (by rw [<-e];exact p))
 have tw:∀ {k i:Nat},ow k=i->i≠0->ow' k=i:=fun {k i} e hi=>(hs k yw).trans e
 refine ⟨h.few,(same h.om zj zj).trans h.mesh,tw h.om zj,ownsHeld h.peers (fun g hg=>same (h.op g hg) zj zj),fun g hg=>tw (h.op g hg) zj,ownsHeld h.fly (fun g hg=>same (h.of g hg) zj zj),fun g hg=>tw (h.of g hg) zj,fun x hx=>⟨(h.notes x hx).from_,(h.notes x hx).to_,opsAt_kept (h.notes x hx).ops (fun g hg=>same ((h.notes x hx).own g hg) zj zj),fun g hg=>tw ((h.notes x hx).own g hg) zj⟩,fun r hr=>⟨(h.peer r hr).1.same (same (h.peer r hr).2 zj zj),tw (h.peer r hr).2 zj⟩,fun r hr=>⟨(h.rep r hr).1.keep hk.size (fun k _ e=>same ((h.rep r hr).2 k e) zj (by have:=h.few;omega)),fun k e=>tw ((h.rep r hr).2 k e) zj⟩,fun r hr=>⟨(h.disk r hr).1.same (fun k e=>same ((h.disk r hr).2 k e) zj zj),fun k e=>tw ((h.disk r hr).2 k e) zj⟩,fun k e=> ?_,fun k e=> ?_,vr h.base hk.size,hg⟩
 ·rcases hn k e with q | ⟨q,_⟩
  ·exact h.low k q
  exact vr h.base q
 by_cases q:ow' k=0
 ·exact q
 rcases hn k q with q' | ⟨_,q'⟩
 ·exact absurd (h.high k (vr hk.size e)) q'
 omega
def MeshR (B n bm:Nat) (K:Nat->Rws) (st:Nat->DSt) (N:List NoteX) (v:Value) (L:List OpX) (gd:Nat->Option Obj) (w:World):Prop:=
 MeshS gd B n bm K st N w/\(∀g,v.ownBlock=some g->gd g=w.heap[g]?)/\(∀k o,gd k=some o->v.ownBlock=some k)/\w.ownsRow B 41 8 v L.length (flat encX L)
theorem own_some {base:Nat} {e:TypeId} {xs:List Value} (h:w.ownsRow base e k v n xs) {g:Nat} (hg:v.ownBlock=some g):∃o,w.heap[g]? =some o:=by
 rcases h.2 with ⟨h1,_⟩ | ⟨g',cap,cur,rfl,_,h3,_⟩
 ·rw [h1] at hg;cases hg
 cases hg;exact ⟨_,h3⟩
theorem MeshS.bare (h:MeshS (fun _=>none) B n bm K st N w):MeshR B n bm K st N (.slice none 0 0) [] (fun _=>none) w:=
 ⟨h,fun g hg=>qr,fun k o e=>qC,ud _ _ _ _⟩
theorem MeshR.on {K':Nat->Rws} {st':Nat->DSt} {N':List NoteX} (h:MeshR B n bm K st N v L gd w) (h':MeshS gd B n bm K' st' N' w'):MeshR B n bm K' st' N' v L gd w':=by
 have e:∀g,v.ownBlock=some g->w'.heap[g]? =w.heap[g]? :=fun g hg=>by
  obtain ⟨o,ho⟩:=own_some h.2.2.2 hg
  rw [ho]
  exact h'.held ((h.2.1 g hg).trans ho)
 exact ⟨h',fun g hg=>(h.2.1 g hg).trans (e g hg).symm,h.2.2.1,ownsHeld h.2.2.2 e⟩
theorem MeshR.more {v':Value} {L':List OpX} (h:MeshR B n bm K st N v L gd w) (hk:Keeps (fun k=>some k=v.ownBlock) w w') (ho:w'.ownsRow B 41 8 v' L'.length (flat encX L')) (hv:∀g,v'.ownBlock=some g->v.ownBlock=some g\/w.heap.size<=g):
  ∃gd',MeshR B n bm K st N v' L' gd' w':=by
 obtain ⟨⟨ow,pv,fv,bp,br,d,dv,c,hm⟩,h1,h2,h3⟩:=h
 have h5:∀g,v.ownBlock=some g->ow g=5:=fun g hg=>by
  obtain ⟨o,ho⟩:=own_some h3 hg
  exact (hm.guard g o ((h1 g hg).trans ho)).1
 refine ⟨fun k=>if v'.ownBlock=some k then w'.heap[k]? else none,⟨fun k=>if v'.ownBlock=some k then 5 else ow k,pv,fv,bp,br,d,dv,c,hm.redo (hk.mono (fun k _ q=>h5 k (Eq.symm q))) (fun k e=> ?_) (fun k e=> ?_) (fun k o e=> ?_)⟩,fun g hg=>if_pos hg,fun k o e=> ?_,ho⟩
 ·try dsimp only
  by_cases q:v'.ownBlock=some k
  ·rw [if_pos q]
   rcases hv k q with q' | q'
   ·exact (h5 k q').symm
   exact absurd (hm.high k q') e
  rw [if_neg q]
 ·try dsimp only at e
  by_cases q:v'.ownBlock=some k
  ·rcases hv k q with q' | q'
   ·left;rw [h5 k q'];omega
   right
   obtain ⟨o,ho'⟩:=own_some ho q
   exact ⟨q',(vn.1 ho').1⟩
  rw [if_neg q] at e
  exact .inl e
 ·try dsimp only at e |-
  by_cases q:v'.ownBlock=some k
  ·rw [if_pos q] at e |-
   exact ⟨rfl,e⟩
  rw [if_neg q] at e
  cases e
 try dsimp only at e
 by_cases q:v'.ownBlock=some k
 ·exact q
 rw [if_neg q] at e
 cases e
theorem MeshS.rewrite (h:MeshS gd B n bm K st N w) {q:Nat} {o o':Obj} (hq:gd q=some o) (hk:Keeps (fun k=>k=q) w w') (ho:w'.heap[q]? =some o'):MeshS (fun k=>if k=q then some o' else gd k) B n bm K st N w':=by
 obtain ⟨ow,pv,fv,bp,br,d,dv,c,hm⟩:=h
 have h5:=(hm.guard q o hq).1
 refine ⟨ow,pv,fv,bp,br,d,dv,c,hm.redo (hk.mono (fun k _ e=>by have e':k=q:=e;rw [e'];exact h5)) (fun k _=>rfl) (fun k e=>.inl e) (fun k u e=> ?_)⟩
 by_cases q':k=q
 ·subst q'
  rw [if_pos rfl] at e
  cases e
  exact ⟨h5,ho⟩
 rw [if_neg q'] at e
 obtain ⟨e1,e2⟩:=hm.guard k u e
 exact ⟨e1,(hk.block k (hm.in_ (by rw [e1];omega)) q').trans e2⟩
end
section
open Go.RowKit Go.Lib Go.Sort Go.Maps
open scoped Classical
def BootOut (gd:Nat->Option Obj) (B n bm i:Nat) (G:List OpX) (K:Nat->Rws) (D:Nat->List OpX) (N:List NoteX) (a:Nat) (w:World) (e:Ending) (w':World):Prop:=∃(K':Nat->Rws) (st':Nat->DSt),e= .returned .nilIface/\Aside (MeshS gd B n bm K' st' N w'/\Below B w w'/\MeshI n i G K' D st' N/\∀r,r≠a->K' r=K r)
theorem setAt_two {α:Type} (f:Nat->α) (a:Nat) (x y:α):setAt (setAt f a x) a y=setAt f a y:=by
 funext r
 unfold setAt
 split<;>rfl
theorem pboot_any {c:Nat->Nat->Nat} {i:Nat} {G:List OpX} {D:Nat->List OpX} (w:World) (a:Nat) (h:MeshAt gd B w ow n bm pv fv bp br d dv c K st N) (hI:MeshI n i G K D st N) (hE:EnvM B ad w) (ha:a<n) (hi:i<=125):
  Calls prog 50 #[.pointer (some ⟨bp a,0,none⟩)] w (BootOut gd B n bm i G K D N a w):=by
 have ha4:a<4:=vJ ha h.few
 have p0:=(h.peer a ha).1.c0
 obtain ⟨T,kv,bt,bx,bc,A,hM,-⟩:=(h.rep a ha).1.rep
 have hby:=rby_any w (br a) T (a:Int) kv bt bx bc hM.cell
 have hnew:=rnew_ok w (a:Int) zj zj
 have HM:Aside (MeshAt gd B w ow n bm pv fv bp br d dv c K st N/\MeshI n i G K D st N/\EnvM B ad w):=⟨h,hI,hE⟩
 clear h hI hE hM
 go_enter func50,ntmps50
 go_wp2_with fail
 refine hby.mono ?_
 clear hby
 rintro e w1 ⟨rfl,rfl⟩
 go_wp2_with fail
 refine hnew.mono ?_
 clear hnew p0
 rintro e w2 ⟨c0,b0,rfl,hR0,hb2⟩
 have hm2:=HM.o.1.later hb2
 have p2:=(hm2.peer a ha).1
 have p0:=p2.c0
 have p1:=p2.c1
 have pf:=p2.fz 0
 obtain ⟨hm3,hk3⟩:=HM.o.1.anew ha hb2 hR0
 obtain ⟨W,hW⟩:=ze (w2.setCell ⟨bp a,0,none⟩ (.pointer (some ⟨b0,0,none⟩)))
 rw [<-hW.o] at hm3 hk3
 obtain ⟨ow3,how3⟩:∃f,Aside (f=paintTo ow w1 w2 (10+a)):=⟨_,rfl⟩
 rw [<-how3.o] at hm3
 have hb3:Below B w1 W:=HM.o.1.below hk3 (fun k e=>by have e':ow k=30+a:=e;omega)
 have hrec:=recover_any W (hm3.disk a ha).1 (HM.o.2.2.mono hb3).j (fun k hk=>hm3.low k (by rw [(hm3.disk a ha).2 k hk];omega)) (HM.o.2.1.blen ha zj)
 have hp3:=(hm3.peer a ha).1
 rw [setAt_is] at hp3
 have H3:Aside (MeshAt gd B W ow3 n bm pv fv bp (setAt br a b0) d dv (setAt c a c0) (setAt K a (fun _=>[])) st N/\Below B w1 W/\PeerC W (bp a) b0 (d a)):=⟨hm3,hb3,hp3⟩
 have r1:=hp3.c1
 clear hR0 hb2 hm2 p2 hm3 hk3 hb3 hp3
 go_upto_region 5 with fail
 rw [<-hW.o]
 clear p0 p1 pf
 go_wp2_with fail
 refine hrec.mono ?_
 clear hrec r1
 rintro e w4 ⟨rv,rfl,H4⟩
 obtain ⟨dv',hm4,hk4⟩:=H3.o.1.diskAct ha H4.o.1
 have hbk:=(HM.o.2.1.disk a ha).back
 have hrow:=H4.o.2.1
 rw [hbk.1] at hrow
 obtain ⟨ra,rc,hrv⟩:=rowIs hrow
 have hops:OpsIn w4 ra (D a):=by
  rw [hrv] at hrow
  rcases ownsOps hrow with ⟨_,q⟩ | ⟨b,o,cp,q1,q2⟩
  ·exact .inl q
  exact .inr ⟨b,o,(Value.slice.inj q1).1,q2⟩
 obtain ⟨ow4,how4⟩:∃f,Aside (f=paintTo ow3 W w4 (20+a)):=⟨_,rfl⟩
 rw [<-how4.o] at hm4
 have hb4:Below B w1 w4:=H3.o.2.1.trans (H3.o.1.below hk4 (fun k e=>by have e':ow3 k=20+a:=e;omega))
 have hr4:=(hm4.rep a ha).1
 simp only [setAt_is] at hr4
 have hdw:=(HM.o.2.1.inv.dwell a ha).1
 have hjn:=joined w4 c0 b0 (a:Int) (fun _=>[]) ra rc (D a) (D a) hr4 (HM.o.2.2.mono hb4).t hops hdw (fun x hx=>by simp [allR] at hx) (fun x hx=>hx) (fun x hx=>.inr hx) (by have:=HM.o.2.1.dlen ha;simp [allR];omega)
 have hp4:=(hm4.peer a ha).1
 rw [setAt_is] at hp4
 have r0:=hp4.c0
 have H5:Aside (MeshAt gd B w4 ow4 n bm pv fv bp (setAt br a b0) d (setAt dv a dv') (setAt c a c0) (setAt K a (fun _=>[])) (setAt st a (backSt (st a))) N/\Below B w1 w4):=⟨hm4,hb4⟩
 subst hrv
 clear hm4 hk4 hbk hrow hops hb4 hr4 hdw hp4 H4
 go_wp2_with fail
 refine hjn.mono ?_
 clear hjn r0
 rintro e w5 ⟨m,c',R',rfl,hA,hR',hmem,hlen⟩
 obtain ⟨hm5,hk5⟩:=H5.o.1.repAct (a:=a) (c':=c') (R':=R') ha (by rw [setAt_is];exact hA) (by rw [setAt_is];exact hR')
 rw [setAt_two,setAt_two] at hm5
 have H6:Aside (MeshS gd B n bm (setAt K a R') (setAt st a (backSt (st a))) N w5/\Below B w1 w5/\RowsK R'/\∀x,x∈allR R'↔x∈D a):=⟨⟨_,_,_,_,_,_,_,_,hm5⟩,H5.o.2.trans (H5.o.1.below hk5 (fun k e=>by have e':ow4 k=10+a:=e;omega)),hR'.wellK,fun x=>by rw [hmem x];simp [allR]⟩
 clear hA hR' hmem hlen hm5 hk5
 go_wp2
 go_ret
 have hbk:=(HM.o.2.1.disk a ha).back
 exact ⟨setAt K a R',setAt st a (backSt (st a)),rfl,H6.o.1,H6.o.2.1,HM.o.2.1.boot ha H6.o.2.2.2 H6.o.2.2.1 hbk.2.1 hbk.2.2,fun r hr=>setAt_ne _ _ hr⟩
end
section
open Go.ChangeShapes Go.WideShapes Go.ChangeAt Go.RowKit Go.Joins Go.ChangeMaps
def elevenE:List (String×Nat×List UInt8):=[("concordat/api.ErrText",12,[99,111,110,99,111,114,100,97,116,58,32,116,101,120,116]),("concordat/api.ErrBound",0,[99,111,110,99,111,114,100,97,116,58,32,98,111,117,110,100]),("concordat/api.ErrShape",4,[99,111,110,99,111,114,100,97,116,58,32,115,104,97,112,101]),("concordat/api.ErrName",11,[99,111,110,99,111,114,100,97,116,58,32,110,97,109,101]),("concordat/api.ErrKind",5,[99,111,110,99,111,114,100,97,116,58,32,107,105,110,100]),("concordat/api.ErrNone",1,[99,111,110,99,111,114,100,97,116,58,32,110,111,110,101]),("concordat/api.ErrExist",6,[99,111,110,99,111,114,100,97,116,58,32,101,120,105,115,116]),("concordat/api.ErrFull",2,[99,111,110,99,111,114,100,97,116,58,32,102,117,108,108]),("concordat/api.ErrGap",7,[99,111,110,99,111,114,100,97,116,58,32,103,97,112]),("concordat/api.ErrCycle",8,[99,111,110,99,111,114,100,97,116,58,32,99,121,99,108,101]),("concordat/api.ErrOff",3,[99,111,110,99,111,114,100,97,116,58,32,111,102,102])]
def elevenLaid:List (String×DataW Unit):=elevenE.map fun x=>(x.1,.iface "*errors.errorString" (.ptr (.agg [.lit (.string x.2.2)])))
theorem eleven_named:∀x∈elevenE,prog.globalNamed x.1=some x.2.1/\(prog.globals[x.2.1]?).map (·.type)=some 27:=by
 have h:(elevenE.all fun x=>(prog.globalNamed x.1==some x.2.1) &&((prog.globals[x.2.1]?).map (·.type)==some 27))=true:=zk
 intro x hx
 have:=Zl.1 h x hx
 simpa using this
theorem laidVarsM_parts {P:Program} {w:World} :∀(l1 l2:List (String×DataW Unit)) (ps:List MemPlace),DataW.LaidVars P w (l1++l2) ps->∃q1 q2,DataW.LaidVars P w l1 q1/\DataW.LaidVars P w l2 q2/\ps=q1++q2
 | [],l2,ps,h=>⟨[],ps,rfl,h,rfl⟩
 | x::l1,l2,ps,h=>by
  obtain ⟨g,t,cs,fuel,p,q,a1,a2,a3,a4,a5,rfl⟩:=h
  obtain ⟨q1,q2,b1,b2,rfl⟩:=laidVarsM_parts l1 l2 q a5
  exact ⟨_,q2,⟨g,t,cs,fuel,p,q1,a1,a2,a3,a4,b1,rfl⟩,b2,zm⟩
theorem laidMetM_mid (l1 l2 l3:List (String×DataW Unit)) (h:laidMet P (l1++(l2++l3)) w):laidMet P l2 w:=by
 obtain ⟨ps,hv,hnd,hr⟩:=h
 obtain ⟨q1,q2,-,b,rfl⟩:=laidVarsM_parts l1 (l2++l3) ps hv
 obtain ⟨q3,q4,c,-,rfl⟩:=laidVarsM_parts l2 l3 q2 b
 exact ⟨q3,c,(uf.1 (uf.1 hnd).2.1).1,fun b off hm=>hr b off (ub _ (vN _ hm))⟩
def meshLaid:List (String×DataW Unit):=[("math/bits.deBruijn32tab",Rows.laid_math_bits_deBruijn32tab),("math/bits.deBruijn64tab",Rows.laid_math_bits_deBruijn64tab),("internal/strconv.uint64pow10",Rows.laid_internal_strconv_uint64pow10),("unicode/utf8.acceptRanges",Rows.laid_unicode_utf8_acceptRanges)]++(elevenLaid++ [("unicode/utf8.first",Rows.laid_unicode_utf8_first)])
theorem envM_of {W:World} (h:laidMet prog meshLaid W) (hsh:W.ShapedOpen prog):∃ad:Nat->Addr,EnvM W.heap.size ad W:=by
 have hmid:laidMet prog elevenLaid W:=laidMetM_mid _ elevenLaid _ h
 obtain ⟨az,hat⟩:=some_of elevenE eleven_named hmid
 obtain ⟨m,hm⟩:=Tryz.laysM147.s1_3 W hsh
 have hp:("internal/strconv.uint64pow10",Rows.laid_internal_strconv_uint64pow10)∈meshLaid:=.tail _ (.tail _ (.head _))
 have hq:("math/bits.deBruijn64tab",Rows.laid_math_bits_deBruijn64tab)∈meshLaid:=.tail _ (.head _)
 have ht:=tab_of (Lib.laidMet.reads h hp)
 have hg:9<W.heap.size:=by
  unfold Lib.TabIs at ht
  exact vp W ⟨9,0,none⟩ ((World.var?_cell gPow ht 0).trans (show _=some (Value.int .u64 1) by kernel_rfl))
 have hg0:12<W.heap.size:=vp W ⟨12,0,none⟩ (hat 0 _ rfl)
 have hg1:0<W.heap.size:=vp W ⟨0,0,none⟩ (hat 1 _ rfl)
 have hg2:4<W.heap.size:=vp W ⟨4,0,none⟩ (hat 2 _ rfl)
 have hg3:11<W.heap.size:=vp W ⟨11,0,none⟩ (hat 3 _ rfl)
 have hg4:5<W.heap.size:=vp W ⟨5,0,none⟩ (hat 4 _ rfl)
 have hg5:1<W.heap.size:=vp W ⟨1,0,none⟩ (hat 5 _ rfl)
 have hg6:6<W.heap.size:=vp W ⟨6,0,none⟩ (hat 6 _ rfl)
 have hg7:2<W.heap.size:=vp W ⟨2,0,none⟩ (hat 7 _ rfl)
 have hg8:7<W.heap.size:=vp W ⟨7,0,none⟩ (hat 8 _ rfl)
 have hg9:8<W.heap.size:=vp W ⟨8,0,none⟩ (hat 9 _ rfl)
 have hg10:3<W.heap.size:=vp W ⟨3,0,none⟩ (hat 10 _ rfl)
 exact ⟨fun i=>if i=100 then ⟨1,0,none⟩ else az.getD i ⟨0,0,none⟩,⟨⟨⟨hat 1 _ rfl,hat 2 _ rfl,hat 3 _ rfl,hat 4 _ rfl⟩,hat 5 _ rfl,hat 6 _ rfl,hat 7 _ rfl,hat 8 _ rfl,fun _=>hat 9 _ rfl,zj,vm _⟩,Lib.tabBelow_of_tabIs ht⟩,
  envJ_of ⟨⟨⟨hat 1 _ rfl,hat 2 _ rfl,hat 3 _ rfl,hat 4 _ rfl⟩,ht⟩,⟨hat 1 _ rfl,hat 2 _ rfl,hat 7 _ rfl,hat 10 _ rfl⟩,deb_of (Lib.laidMet.reads h hq),hat 0 _ rfl,m,hm⟩,rfl⟩
