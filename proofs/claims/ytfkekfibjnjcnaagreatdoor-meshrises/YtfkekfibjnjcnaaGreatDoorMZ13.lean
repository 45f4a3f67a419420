import Derived.Test.YtfkekfibjnjcnaaGreatDoorMZ09
import Derived.Test.YtfkekfibjnjcnaaGreatDoorMZ10
import Derived.Test.YtfkekfibjnjcnaaGreatDoorMZ12
set_option linter.unusedSimpArgs false
set_option linter.unusedVariables false
set_option maxRecDepth 100000
set_option maxHeartbeats 64000000
namespace Go.Proofs.YtfkekfibjnjcnaaGreatDoor
open Go.Proofs.Tryz
variable {T by_:Int} {A B L:List OpX} {bc br bt bx g i p:Nat} {ad:Nat→Addr} {c':Nat→Nat} {kv:Nat→Value} {R:Rws} {v:Value} {W W' w w':World}
section
open Go.RowKit Go.Lib Go.Sort
def PredO (g:Nat) (lb:Array Value) (xs:List OpX) (p:OpX->Bool) (w:World):Prop:=
 ∀(W:World) (x:OpX),x∈xs->Below w.heap.size w W->Calls prog g (#[encO x]++lb) W fun e w'=>e= .returned (.bool (p x))/\Below w.heap.size w w'
def IdxO (p:OpX->Bool) (zs:List OpX) (r:Int):Prop:=
 (r= -1/\∀x∈zs,p x=false)\/∃k x,r=((k:Nat):Int)/\zs[k]? =some x/\p x=true/\∀j y,j<k->zs[j]? =some y->p y=false
theorem idxOps_any (p:OpX->Bool) (g:Nat) (lb:Array Value) (eg:∀args w,(callFunc g args).run prog w= .ok (.enter g args) w) (ao:Option Addr) (cap:Nat) (zs:List OpX) (w:World) (hp:PredO g lb zs p w) (hbig:zs.length<=1000000) (hin:OpsIn w ao zs):
  Calls prog 97 #[.slice ao zs.length cap,.func (.func g) #[] lb] w fun e w'=>∃r:Int,e= .returned (.int .i64 r)/\Aside (IdxO p zs r/\Below w.heap.size w w'):=by
 have HP:Aside (PredO g lb zs p w):=hp
 have HI:Aside (OpsIn w ao zs):=hin
 clear hp hin
 go_enter func97,ntmps97
 go_wp2
 go_loopg [5,8] zs.length (fun kx _ s8 wr=>∃(k:Nat),s8= .int .i64 (k:Int)/\k<=zs.length/\zs.length - k<=kx/\Aside (Below w.heap.size w wr/\∀j l,j<k->zs[j]? =some l->p l=false))
 case atStart=>exact ⟨0,rfl,vD _,vm _,⟨vu _ w,fun j l hj=>zj⟩⟩
 case round=>
  obtain ⟨k,rfl,hk,hkx,A⟩:=hrel
  by_cases hlt:k<zs.length
  ·have hltz:decide ((k:Int)<(zs.length:Int))=true:=by simp;omega
   have ek:((k:Int)).toNat=k:=zj
   have pk:(0:Int)<=(k:Int):=zj
   have bk:(k:Int)<(zs.length:Int):=zj
   obtain ⟨⟨t,b,n,kd,nd,o,s,v⟩,hl⟩:∃l,Aside (zs[k]? =some l):=⟨zs[k],vj hlt⟩
   obtain ⟨blk,off,hao,hc⟩:=(HI.o.later A.o.1).get hl.o
   subst hao
   have r0:=hc 0 _ rfl
   have r1:=hc 1 _ rfl
   have r2:=hc 2 _ rfl
   have r3:=hc 3 _ rfl
   have r4:=hc 4 _ rfl
   have r5:=hc 5 _ rfl
   have r6:=hc 6 _ rfl
   have r7:=hc 7 _ rfl
   simp only [ui] at r0
   clear hc
   have hcall:=HP.o wr (t,b,n,kd,nd,o,s,v) (vx hl.o) A.o.1
   unfold encO at hcall
   dsimp only at hcall
   cases hq:p (t,b,n,kd,nd,o,s,v) with
   | true=>
    rw [hq] at hcall
    have HQ:=Lib.hid hq
    clear hq
    go_wp2_with (go_at_fn g;refine hcall.mono ?_;rintro e w' ⟨rfl,hb'⟩)
    go_ret
    exact ⟨_,rfl,.inr ⟨k,_,rfl,hl.o,HQ.o,A.o.2⟩,hb'⟩
   | false=>
    rw [hq] at hcall
    have HQ:=Lib.hid hq
    clear hq
    go_wp2_with (go_at_fn g;refine hcall.mono ?_;rintro e w' ⟨rfl,hb'⟩)
    go_roundg (zs.length - (k+1))
    case measure=>omega
    case rel=>
     refine ⟨k+1,zL,zj,vm _,⟨hb',fun j l hj e=> ?_⟩⟩
     rcases uK j k with h | h
     ·exact A.o.2 j l h e
     obtain rfl:j=k:=zj
     rw [hl.o] at e
     cases e
     exact HQ.o
  have hltz:decide ((k:Int)<(zs.length:Int))=false:=zl
  go_wp2
  go_ret
  refine ⟨_,rfl,.inl ⟨rfl,fun l hl=> ?_⟩,A.o.1⟩
  obtain ⟨j,hj,rfl⟩:=uB hl
  exact A.o.2 j _ zj (vj hj)
theorem hasOps_any (p:OpX->Bool) (g:Nat) (lb:Array Value) (eg:∀args w,(callFunc g args).run prog w= .ok (.enter g args) w) (ao:Option Addr) (cap:Nat) (zs:List OpX) (w:World) (hp:PredO g lb zs p w) (hbig:zs.length<=1000000) (hin:OpsIn w ao zs):
  Calls prog 127 #[.slice ao zs.length cap,.func (.func g) #[] lb] w fun e w'=>e= .returned (.bool (zs.any p))/\Below w.heap.size w w':=by
 have hcall:=idxOps_any p g lb eg ao cap zs w hp hbig hin
 clear hp hin eg
 go_enter func127,ntmps127
 go_wp2_with fail
 refine hcall.mono ?_
 clear hcall
 rintro e w' ⟨r,rfl,H⟩
 rcases H.o.1 with ⟨hr,ha⟩ | ⟨k,x,hr,hx,hpx,_⟩
 ·have HA:Aside (zs.any p=false):=by
   show zs.any p=false
   rw [List.any_eq_false]
   intro x hx
   rw [ha x hx]
   decide
  clear ha
  subst hr
  go_wp2
  go_ret
  exact ⟨by rw [HA.o];rfl,H.o.2⟩
 have HA:Aside (zs.any p=true):=List.any_eq_true.2 ⟨x,vx hx,hpx⟩
 have dr:decide (0<=r)=true:=zl
 clear hx hpx hr
 go_wp2
 go_ret
 exact ⟨by rw [HA.o];rfl,H.o.2⟩
theorem bearsAll_any (w:World) (ao:Nat->Option Addr) (cap:Nat->Nat) (R:Rws) (fa:Option Addr) (fc:Nat) (fresh:List OpX) (hin:OpsIn w fa fresh) (hx:∀x∈fresh,x∈allR R) (z:Bool) (hz:z=true↔∀x∈fresh,RefOk (allR R) x) (hE:Op4 ad w) (hK:KnownAt w ao R) (hR:RowsN R) (hl:∀i,i<4->(R i).length<=1000) (hn:fresh.length<=1000):
  Calls prog 91 #[kV ao cap R,.slice fa fresh.length fc] w fun e w'=>e= .returned (.bool z)/\Below w.heap.size w w':=by
 obtain ⟨U,hU⟩:=za (w.alloc (.cells #[.slice (ao 0) (R 0).length (cap 0),.slice (ao 1) (R 1).length (cap 1),.slice (ao 2) (R 2).length (cap 2),.slice (ao 3) (R 3).length (cap 3)] 74))
 have hb:Below w.heap.size w U:=zP
 have hk:KBox U w.heap.size ao cap R:=by rw [hU];exact KBox.new w ao cap R
 obtain ⟨p,hp⟩:∃p:OpX->Bool,∀x,p x=true↔¬RefOk (allR R) x:=by
  refine ⟨fun x=> @decide (¬RefOk (allR R) x) (Classical.propDecidable _),fun x=> ?_⟩
  exact @decide_eq_true_iff _ (Classical.propDecidable _)
 have hpred:PredO 128 #[.pointer (some ⟨w.heap.size,0,none⟩)] fresh p U:=by
  intro W x hxf hbW
  have hkW:=hk.later hbW
  have hc:=bears_any (W.alloc (.cells #[.int .i64 x.1,.int .i64 x.2.1,.int .i64 x.2.2.1,.int .u8 (x.2.2.2.1:Int),.int .i64 x.2.2.2.2.1,.int .i64 x.2.2.2.2.2.1,.string x.2.2.2.2.2.2.1,.string x.2.2.2.2.2.2.2] 41)) ao cap R x (hx x hxf) (!(p x)) (by
   rw [Bool.not_eq_true']
   constructor
   ·intro q
    refine Classical.byContradiction (fun k=> ?_)
    rw [(hp x).2 k] at q
    cases q
   ·intro q
    cases hq:p x with
    | false=>rfl
    | true=>exact absurd q ((hp x).1 hq)) ((hE.later hb).later (hbW.alloc hbW.size _)) ((hK.later hb).later (hbW.alloc hbW.size _)) hR hl
  have k0:=hkW.at (i:=0) zj
  have k1:=hkW.at (i:=1) zj
  have k2:=hkW.at (i:=2) zj
  have k3:=hkW.at (i:=3) zj
  have hlt:=hkW.lt
  have hsz:=hbW.size
  have HB:Aside (Below U.heap.size U W):=hbW
  clear hkW hbW hp
  obtain ⟨t,b,n,kd,nd,o,s,v⟩:=x
  unfold kV encO at hc
  dsimp only at hc
  show Calls prog 128 #[encO (t,b,n,kd,nd,o,s,v),.pointer (some ⟨w.heap.size,0,none⟩)] W _
  unfold encO
  dsimp only
  go_enter func128,ntmps128
  go_wp2_with fail
  refine hc.mono ?_
  clear hc
  rintro e w1 ⟨rfl,hb1⟩
  have B1:Aside (Below U.heap.size U w1):=(HB.o.alloc HB.o.size _).trans (hb1.mono (by simp;have:=HB.o.size;omega))
  clear hb1
  go_wp2
  go_ret
  exact ⟨zm,B1.o⟩
 have hcall:=hasOps_any p 128 #[.pointer (some ⟨w.heap.size,0,none⟩)] (enters_of func128 zk rfl) fa fc fresh U hpred zj (hin.later hb)
 have HB:Aside (Below w.heap.size w U):=hb
 have HZ:Aside (z= !(fresh.any p)):=by
  show z= !(fresh.any p)
  rw [Bool.eq_iff_iff,hz,Bool.not_eq_true',List.any_eq_false]
  exact ⟨fun q x hxf hpx=>(hp x).1 hpx (q x hxf),fun q x hxf=>Classical.byContradiction (fun k=>q x hxf ((hp x).2 k))⟩
 clear hz hp hpred hb hk
 unfold kV
 go_enter func91,ntmps91
 go_wp2_with fail
 rw [<-hU]
 clear hU
 refine hcall.mono ?_
 clear hcall
 rintro e w1 ⟨rfl,hb1⟩
 have B1:Aside (Below w.heap.size w w1):=zi HB.o hb1
 clear hb1
 go_wp2
 go_ret
 exact ⟨by rw [HZ.o];rfl,B1.o⟩
theorem kidx (a0 a1 a2 a3:Value):(∀w,(Instr.index 74 (.agg #[a0,a1,a2,a3]) (.int .i64 0)).run prog w= .ok a0 w)/\(∀w,(Instr.index 74 (.agg #[a0,a1,a2,a3]) (.int .i64 1)).run prog w= .ok a1 w)/\(∀w,(Instr.index 74 (.agg #[a0,a1,a2,a3]) (.int .i64 2)).run prog w= .ok a2 w)/\∀w,(Instr.index 74 (.agg #[a0,a1,a2,a3]) (.int .i64 3)).run prog w= .ok a3 w:=
 ⟨fun _=>zk,fun _=>zk,fun _=>zk,fun _=>zk⟩
theorem count_any (w:World) (ao:Nat->Option Addr) (cap:Nat->Nat) (R:Rws) (hl:∀i,i<4->(R i).length<=1000):
  Calls prog 92 #[kV ao cap R] w fun e w'=>e= .returned (.int .i64 ((allR R).length:Int))/\Below w.heap.size w w':=by
 have h0:=hl 0 zj
 have h1:=hl 1 zj
 have h2:=hl 2 zj
 have h3:=hl 3 zj
 have HL:Aside (((allR R).length:Int)=(R 0).length+(R 1).length+(R 2).length+(R 3).length):=by
  show ((allR R).length:Int)=_
  unfold allR;simp;omega
 obtain ⟨x0,x1,x2,x3⟩:=kidx (.slice (ao 0) (R 0).length (cap 0)) (.slice (ao 1) (R 1).length (cap 1)) (.slice (ao 2) (R 2).length (cap 2)) (.slice (ao 3) (R 3).length (cap 3))
 unfold kV
 go_enter func92,ntmps92
 go_wp2
 refine wp_loop_rounds 5 ?_
 iterate 5
  rw [rounds_succ]
  go_wp2
 go_ret
 refine ⟨?_,zh w _⟩
 rw [HL.o]
 first | rfl | (refine congrArg _ (congrArg _ ?_);omega)
theorem results_c {fn:Func} {p:Tmp} {ty:TypeId} (h:fn.results= #[.cell p ty]) (tmps:Array Value) (P:Program) (w:World):
  (results fn tmps).run P w=((asAddr (tmps.getD p undef)).run P w).andThen fun a w1=>((loadVar ty a).run P w1):=by
 simp only [results,h]
 simp [Sem.run_bind,Result.andThen]
theorem kvector_any (w:World) (ao:Nat->Option Addr) (cap:Nat->Nat) (R:Rws) (hl:∀i,i<4->(R i).length<=1000):
  Calls prog 23 #[kV ao cap R] w fun e w'=>e= .returned (.agg #[.int .i64 ((R 0).length:Int),.int .i64 ((R 1).length:Int),.int .i64 ((R 2).length:Int),.int .i64 ((R 3).length:Int)])/\Below w.heap.size w w':=by
 have h0:=hl 0 zj
 have h1:=hl 1 zj
 have h2:=hl 2 zj
 have h3:=hl 3 zj
 obtain ⟨x0,x1,x2,x3⟩:=kidx (.slice (ao 0) (R 0).length (cap 0)) (.slice (ao 1) (R 1).length (cap 1)) (.slice (ao 2) (R 2).length (cap 2)) (.slice (ao 3) (R 3).length (cap 3))
 unfold kV
 go_enter func23,ntmps23
 go_wp2
 refine wp_loop_rounds 5 ?_
 iterate 5
  rw [rounds_succ]
  go_wp2
 (try simp only [Exit.inBlock,Exit.then])
 refine bodyPost_ret (v:=.agg #[.int .i64 ((R 0).length:Int),.int .i64 ((R 1).length:Int),.int .i64 ((R 2).length:Int),.int .i64 ((R 3).length:Int)]) ?_ rfl ⟨rfl,?_⟩
 ·rw [results_c rfl]
  go_simp
 exact ((zh w _).alloc zm _).alloc zl _
end
section
open Go.RowKit Go.Lib Go.Sort Go.Maps
def FaultIs (ad:Nat->Addr) (w:World) (v:Value) (i:Int) (c:Nat):Prop:=∃b,v= .iface 205 (.pointer (some ⟨b,0,none⟩))/\w.heap[b]? =some (.cells #[.int .i64 i,eV ad c] 207 (0,0))
def SiftOut (ad:Nat->Addr) (w:World) (S l:List OpX) (e:Ending) (w':World):Prop:=(match siftS S 0 [] l with
 | .inl (i,c)=>∃v,e= .returned (.tuple #[.slice none 0 0,v])/\FaultIs ad w' v (i:Int) c
 | .inr fresh=>∃v,e= .returned (.tuple #[v,.nilIface])/\w'.ownsRow w.heap.size 41 8 v fresh.length (cellsOf fresh))/\Below w.heap.size w w'
def Sized (l:List OpX):Prop:=∀x∈l,x.2.2.2.2.2.2.1.size<=1000000/\x.2.2.2.2.2.2.2.size<=1000000
structure SiftSt (w:World) (S:Nat) (ao:Nat->Option Addr) (cap:Nat->Nat) (R:Rws) (l:List OpX) (k:Nat) (fresh:List OpX) (v:Value) (wr:World):Prop where
 below:Below w.heap.size w wr
 box:KBox wr S ao cap R
 map:NMapAt wr (S+1) k (fun q=>lookK fresh q.1 q.2)
 row:wr.ownsRow (S+2) 41 8 v fresh.length (cellsOf fresh)
 fk:FreshK (allR R) fresh
 is:siftS (allR R) 0 [] l=siftS (allR R) k fresh (l.drop k)
 len:fresh.length<=k
theorem NMapAt.mono {w:World} {b n n':Nat} {f:NSta} (h:NMapAt w b n f) (hn:n<=n'):NMapAt w b n' f:=by
 obtain ⟨D,h,r⟩:=h;exact ⟨D,h.mono hn,r⟩
theorem SiftSt.later {w:World} {S:Nat} {ao:Nat->Option Addr} {cap:Nat->Nat} {R:Rws} {l:List OpX} {k:Nat} {fresh:List OpX} {v:Value} {wr w':World} (h:SiftSt w S ao cap R l k fresh v wr) (hb:Below wr.heap.size wr w'):SiftSt w S ao cap R l k fresh v w':=
 ⟨zi h.below hb,h.box.later hb,h.map.same (hb.block _ h.map.lt),ownsHeld h.row (fun g hg=>hb.block g (h.row.lt g hg).2),h.fk,h.is,h.len⟩
theorem look_snoc (fresh:List OpX) (o:OpX):(fun q:NKey=>lookK (fresh++ [o]) q.1 q.2)=(fun q:NKey=>if q=(byO o,numO o) then (lookK fresh q.1 q.2).or (some o) else lookK fresh q.1 q.2):=by
 funext q
 rw [lookK_app]
 unfold lookK
 by_cases h:q=(byO o,numO o)
 ·rw [if_pos h,h]
  simp
 rw [if_neg h]
 have:¬(byO o=q.1/\numO o=q.2):=fun e=>h (by rw [e.1,e.2])
 simp [this]
theorem lit_cellsO (w:World) (x:OpX) (T:TypeId) (j:Nat) (u:Value) (hj:(encX x)[j]? =some u):(w.alloc (.cells #[.int .i64 x.1,.int .i64 x.2.1,.int .i64 x.2.2.1,.int .u8 (x.2.2.2.1:Int),.int .i64 x.2.2.2.2.1,.int .i64 x.2.2.2.2.2.1,.string x.2.2.2.2.2.2.1,.string x.2.2.2.2.2.2.2] T)).cell? ((⟨w.heap.size,0,none⟩:Addr).add j)=some u:=by
 rw [Addr.add_lit,vO]
 have h:=heap_alloc_new w (.cells #[.int .i64 x.1,.int .i64 x.2.1,.int .i64 x.2.2.1,.int .u8 (x.2.2.2.1:Int),.int .i64 x.2.2.2.2.1,.int .i64 x.2.2.2.2.2.1,.string x.2.2.2.2.2.2.1,.string x.2.2.2.2.2.2.2] T)
 simp only [World.cell?,h]
 rw [<-hj]
 simp [encX]
theorem fault_new (w2:World) (o:Obj) (a b:Value):((w2.alloc o).alloc (.cells #[a,b] 207)).drew.heap[w2.heap.size+1]? =some (.cells #[a,b] 207 (0,0)):=by
 have:=heap_alloc_new (w2.alloc o) (.cells #[a,b] 207)
 rw [vQ] at this
 exact this
theorem sift_any (w:World) (ao:Nat->Option Addr) (cap:Nat->Nat) (R:Rws) (la:Option Addr) (lc:Nat) (l:List OpX) (hE:Op4 ad w) (hX:w.cell? ⟨6,0,none⟩=some (.iface 350 (.pointer (some (ad 6))))) (hK:KnownAt w ao R) (hN:NumK R) (hl:∀i,i<4->(R i).length<=1000) (hin:OpsIn w la l) (hs:Sized l) (hn:l.length<=1000):
  Calls prog 89 #[kV ao cap R,.slice la l.length lc] w (SiftOut ad w (allR R) l):=by
 obtain ⟨S,hS⟩:=za w.heap.size
 obtain ⟨U,hU⟩:=za ((w.alloc (.cells #[.slice (ao 0) (R 0).length (cap 0),.slice (ao 1) (R 1).length (cap 1),.slice (ao 2) (R 2).length (cap 2),.slice (ao 3) (R 3).length (cap 3)] 74)).alloc (.map #[] 0))
 have hb:Below w.heap.size w U:=zI
 have hk:KBox U S ao cap R:=zW
 have hm:NMapAt U (S+1) 0 (fun q=>lookK [] q.1 q.2):=by
  rw [hU,hS]
  have:=nmapAt_made (w.alloc (.cells #[.slice (ao 0) (R 0).length (cap 0),.slice (ao 1) (R 1).length (cap 1),.slice (ao 2) (R 2).length (cap 2),.slice (ao 3) (R 3).length (cap 3)] 74))
  rw [vQ] at this
  exact this
 have H0:Aside (SiftSt w S ao cap R l 0 [] (.slice none 0 0) U):=⟨hb,hk,hm,ud _ _ _ _,freshK_nil _,rfl,vm _⟩
 have HE:Aside (Op4 ad w/\KnownAt w ao R/\OpsIn w la l/\S=w.heap.size):=⟨hE,hK,hin,hS⟩
 have HX:Aside (w.cell? ⟨6,0,none⟩=some (.iface 350 (.pointer (some (ad 6))))):=hX
 clear hb hk hm hE hK hin hX
 unfold kV
 have hmm:= @run_makeMap prog
 go_enter func89,ntmps89
 go_wp2
 rw [<-hU,<-hS]
 clear hU hS hmm
 go_loopg [6,17] l.length (fun kx s6 s17 wr=>∃(k:Nat) (fresh:List OpX) (ov:Value),s17= .int .i64 (k:Int)/\ov=s6/\k<=l.length/\l.length - k<=kx/\Aside (SiftSt w S ao cap R l k fresh ov wr))
 case atStart=>exact ⟨0,[],_,rfl,rfl,vD _,vm _,H0.o⟩
 case round=>
  obtain ⟨k,fresh,ov,rfl,rfl,hkl,hkx,A⟩:=hrel
  clear H0
  by_cases hlt:k<l.length
  ·have d1:decide ((k:Int)<(l.length:Int))=true:=by simp;omega
   have wk:((k:Int)).toNat=k:=zj
   have pk:(0:Int)<=(k:Int):=zj
   have bk:(k:Int)<(l.length:Int):=zj
   obtain ⟨⟨t,b,n,kd,nd,o,s,v⟩,hx⟩:∃x,Aside (l[k]? =some x):=⟨l[k],vj hlt⟩
   have hdrop:Aside (l.drop k=(t,b,n,kd,nd,o,s,v)::l.drop (k+1)):=by
    show l.drop k=_
    rw [uI hlt,(vi.1 hx.o).2]
   have hsz:=hs _ (vx hx.o)
   obtain ⟨blk,off,hao,hc⟩:=(HE.o.2.2.1.later A.o.below).get hx.o
   subst hao
   have r0:=hc 0 _ rfl
   have r1:=hc 1 _ rfl
   have r2:=hc 2 _ rfl
   have r3:=hc 3 _ rfl
   have r4:=hc 4 _ rfl
   have r5:=hc 5 _ rfl
   have r6:=hc 6 _ rfl
   have r7:=hc 7 _ rfl
   simp only [ui] at r0
   clear hc
   obtain ⟨U,hU⟩:=za (wr.alloc (.cells #[.int .i64 t,.int .i64 b,.int .i64 n,.int .u8 (kd:Int),.int .i64 nd,.int .i64 o,.string s,.string v] 41))
   have hbU:Below wr.heap.size wr U:=by rw [hU];exact zh wr _
   have O1:OpBlk U wr.heap.size (t,b,n,kd,nd,o,s,v):=by rw [hU];exact OpBlk.new wr (t,b,n,kd,nd,o,s,v)
   have hck:=opcheck_any t b n kd nd o s v U (HE.o.1.later (zi A.o.below hbU)) hsz.1 hsz.2
   have H1:Aside (SiftSt w S ao cap R l k fresh ov U/\OpBlk U wr.heap.size (t,b,n,kd,nd,o,s,v)):=⟨A.o.later hbU,O1⟩
   have e0:errO (t,b,n,kd,nd,o,s,v)=opE t b n kd nd o s.data.toList v.data.toList:=rfl
   rw [<-e0] at hck
   clear e0 hbU O1
   by_cases herr:errO (t,b,n,kd,nd,o,s,v)=0
   ·rw [herr] at hck
    have hev:eV ad 0= .nilIface:=rfl
    rw [hev] at hck
    clear hev
    obtain ⟨i,hi,hbi,-⟩:=by_nat herr
    have hbi:b=(i:Int):=hbi
    subst hbi
    obtain ⟨m,hm,hm4⟩:∃m:Nat,n=(m:Int)+1/\m<400:=by
     have q:=opE_zero herr
     have q5:1<=n:=q.2.2.2.2.1
     have q6:n<=400:=q.2.2.2.2.2.1
     exact ⟨(n - 1).toNat,zj,zj⟩
    subst hm
    have HERR:Aside (errO (t,(i:Int),(m:Int)+1,kd,nd,o,s,v)=0):=herr
    clear herr
    go_wp2_with fail
    rw [<-hU]
    clear hU r0 r1 r2 r3 r4 r5 r6 r7
    refine hck.mono ?_
    clear hck
    rintro e w1 ⟨rfl,hb1⟩
    obtain ⟨P,hP⟩:=za wr.heap.size
    obtain ⟨Q,hQ⟩:=za w1.heap.size
    obtain ⟨V,hV⟩:=za (w1.alloc (.cells #[.int .i64 (i:Int),.int .i64 ((m:Int)+1)] 209))
    have hbV:Below w1.heap.size w1 V:=by rw [hV];exact zh w1 _
    have N1:V.heap[Q]? =some (.cells #[.int .i64 (i:Int),.int .i64 ((m:Int)+1)] 209 (0,0)):=by rw [hV,hQ];exact heap_alloc_new w1 _
    have H2:Aside (SiftSt w S ao cap R l k fresh ov V/\OpBlk V P (t,(i:Int),(m:Int)+1,kd,nd,o,s,v)/\V.heap[Q]? =some (.cells #[.int .i64 (i:Int),.int .i64 ((m:Int)+1)] 209 (0,0))/\P<Q/\S+1<P/\V.heap.size=Q+1):=by
     have hp1:=(H1.o.2.later hb1)
     refine ⟨(H1.o.1.later hb1).later hbV,by rw [hP];exact hp1.later hbV,N1,by rw [hP,hQ];exact hp1.lt,by rw [hP];exact A.o.map.lt,by rw [hV,hQ];simp⟩
    rw [<-hP]
    obtain ⟨y0,y1,y2,y3,y4,y5,y6,y7,f8⟩:=(H1.o.2.later hb1).cells
    rw [<-hP] at y0 y1 y2 y3 y4 y5 y6 y7 f8
    dsimp only at y0 y1 y2 y3 y4 y5 y6 y7
    have HV:Aside (V=w1.alloc (.cells #[.int .i64 (i:Int),.int .i64 ((m:Int)+1)] 209)/\Q=w1.heap.size/\P=wr.heap.size):=⟨hV,hQ,hP⟩
    clear hb1 hbV H1 N1 hV hQ hP
    obtain ⟨q0,q1⟩:V.cell? ⟨Q,0,none⟩=some (.int .i64 (i:Int))/\V.cell? ⟨Q,1,none⟩=some (.int .i64 ((m:Int)+1)):=by
     have:=H2.o.2.2.1
     constructor<;>simp [World.cell?,this]
    have k0:=H2.o.1.box.at (i:=0) zj
    have k1:=H2.o.1.box.at (i:=1) zj
    have k2:=H2.o.1.box.at (i:=2) zj
    have k3:=H2.o.1.box.at (i:=3) zj
    go_upto_region 10 with fail
    rw [<-HV.o.1,<-HV.o.2.1]
    clear y0 y1 y2 y3 y4 y5 y6 y7 f8
    go_wp2_with fail
    clear q0 q1 k0 k1 k2 k3
    have hlook:Aside (lookK (allR R++fresh) (byO (t,(i:Int),(m:Int)+1,kd,nd,o,s,v)) (numO (t,(i:Int),(m:Int)+1,kd,nd,o,s,v))=((R i)[m]?).or (lookK fresh (i:Int) ((m:Int)+1))):=by
     show lookK (allR R++fresh) (i:Int) ((m:Int)+1)=_
     rw [lookK_app,hN.look hi]
    cases hy:(R i)[m]? with
    | some y=>
     obtain ⟨t',b',n',kd',nd',o',s',v'⟩:=y
     have hcall:=number_some V ao cap R i m _ (HE.o.2.1.later H2.o.1.below) hi zj hy
     unfold kV encO at hcall
     dsimp only at hcall
     refine hcall.mono ?_
     clear hcall
     rintro e w2 ⟨rfl,hb2⟩
     have H3:Aside (SiftSt w S ao cap R l k fresh ov w2/\OpBlk w2 P (t,(i:Int),(m:Int)+1,kd,nd,o,s,v)):=⟨H2.o.1.later hb2,H2.o.2.1.later hb2⟩
     have hpl:=H3.o.2.lt
     obtain ⟨y0,y1,y2,y3,y4,y5,y6,y7,f8⟩:=H3.o.2.cells
     dsimp only at y0 y1 y2 y3 y4 y5 y6 y7
     have heq:=fun w=>eqOp t' b' n' kd' nd' o' s' v' t (i:Int) ((m:Int)+1) kd nd o s v w
     have HY:Aside ((R i)[m]? =some (t',b',n',kd',nd',o',s',v')):=hy
     clear hb2 H2 HV hy
     cases hq:eqB t' b' n' kd' nd' o' s' v' t (i:Int) ((m:Int)+1) kd nd o s v with
     | true=>
      have HQ:Aside ((t',b',n',kd',nd',o',s',v')=(t,(i:Int),(m:Int)+1,kd,nd,o,s,v)):=by
       have:=of_decide_eq_true hq
       obtain ⟨rfl,rfl,rfl,rfl,rfl,rfl,rfl,rfl⟩:=this
       rfl
      rw [hq] at heq
      clear hq
      go_wp2
      go_roundg (l.length - (k+1))
      case measure=>omega
      case rel=>
       have hS3:=H3.o.1.later ((vu w2.heap.size w2).alloc zg (.cells #[.int .i64 t',.int .i64 b',.int .i64 n',.int .u8 (kd':Int),.int .i64 nd',.int .i64 o',.string s',.string v'] 41))
       refine ⟨k+1,fresh,ov,zL,rfl,zj,vm _,⟨hS3.below,hS3.box,hS3.map.mono zj,hS3.row,hS3.fk,?_,by have:=hS3.len;omega⟩⟩
       rw [hS3.is,hdrop.o]
       exact sift_same HERR.o (by rw [hlook.o,HY.o,HQ.o];rfl)
     | false=>
      have HQ:Aside ((t',b',n',kd',nd',o',s',v')≠(t,(i:Int),(m:Int)+1,kd,nd,o,s,v)):=fun e=>by
       cases e
       rw [eqB_self] at hq
       cases hq
      rw [hq] at heq
      clear hq
      have x6:=HX.o
      have x6:w2.cell? ⟨6,0,none⟩=some (.iface 350 (.pointer (some (ad 6)))):=(H3.o.1.below.cell (p:=⟨6,0,none⟩) (vp w ⟨6,0,none⟩ HX.o)).trans HX.o
      have hgl:6<w2.heap.size:=vp w2 ⟨6,0,none⟩ x6
      go_wp2
      go_region
      all_goals
       go_wp2
       go_ret2
       unfold SiftOut
       rw [A.o.is,hdrop.o,sift_other HERR.o (by rw [hlook.o,HY.o];rfl) HQ.o]
       exact ⟨⟨_,rfl,_,rfl,fault_new _ _ _ _⟩,((H3.o.1.below.alloc H3.o.1.below.size _).alloc jY _).drew⟩
    | none=>
     have hcall:=number_none V ao cap R i m hi (List.getElem?_eq_none_iff.1 hy)
     unfold kV encO zeroO at hcall
     refine hcall.mono ?_
     clear hcall
     rintro e w2 ⟨rfl,hb2⟩
     have H3:Aside (SiftSt w S ao cap R l k fresh ov w2/\OpBlk w2 P (t,(i:Int),(m:Int)+1,kd,nd,o,s,v)/\w2.heap[Q]? =some (.cells #[.int .i64 (i:Int),.int .i64 ((m:Int)+1)] 209 (0,0))/\P<Q/\S+1<P):=⟨H2.o.1.later hb2,H2.o.2.1.later hb2,(hb2.block Q (by have:=H2.o.2.2.2.2.2;omega)).trans H2.o.2.2.1,H2.o.2.2.2.1,H2.o.2.2.2.2.1⟩
     have hpl:=H3.o.2.1.lt
     have hql:Q<w2.heap.size:=(vn.1 H3.o.2.2.1).1
     obtain ⟨y0,y1,y2,y3,y4,y5,y6,y7,f8⟩:=H3.o.2.1.cells
     dsimp only at y0 y1 y2 y3 y4 y5 y6 y7
     obtain ⟨q0,q1⟩:w2.cell? ⟨Q,0,none⟩=some (.int .i64 (i:Int))/\w2.cell? ⟨Q,1,none⟩=some (.int .i64 ((m:Int)+1)):=by
      have:=H3.o.2.2.1
      constructor<;>simp [World.cell?,this]
     have HN:Aside ((R i)[m]? =none):=hy
     clear hb2 H2 HV hy
     have hwf:WfN ((i:Int),(m:Int)+1):=wfN_of zj zj zj zj
     have hlk:=(H3.o.1.map.same (vy w2 (.cells #[.int .i64 0,.int .i64 0,.int .i64 0,.int .u8 0,.int .i64 0,.int .i64 0,.string ⟨#[]⟩,.string ⟨#[]⟩] 41) (S+1) H3.o.1.map.lt)).look hwf
     unfold encN at hlk
     dsimp only at hlk
     cases hy:lookK fresh (i:Int) ((m:Int)+1) with
     | some y=>
      obtain ⟨t',b',n',kd',nd',o',s',v'⟩:=y
      rw [hy] at hlk
      unfold encO at hlk
      dsimp only [Option.getD_some,Option.isSome_some] at hlk
      have heq:=fun w=>eqOp t' b' n' kd' nd' o' s' v' t (i:Int) ((m:Int)+1) kd nd o s v w
      have HY:Aside (lookK fresh (i:Int) ((m:Int)+1)=some (t',b',n',kd',nd',o',s',v')):=hy
      clear hy
      cases hq:eqB t' b' n' kd' nd' o' s' v' t (i:Int) ((m:Int)+1) kd nd o s v with
      | true=>
       have HQ:Aside ((t',b',n',kd',nd',o',s',v')=(t,(i:Int),(m:Int)+1,kd,nd,o,s,v)):=by
        have:=of_decide_eq_true hq
        obtain ⟨rfl,rfl,rfl,rfl,rfl,rfl,rfl,rfl⟩:=this
        rfl
       rw [hq] at heq
       clear hq
       go_wp2
       go_roundg (l.length - (k+1))
       case measure=>omega
       case rel=>
        have hS3:=H3.o.1.later ((vu w2.heap.size w2).alloc zg (.cells #[.int .i64 t',.int .i64 b',.int .i64 n',.int .u8 (kd':Int),.int .i64 nd',.int .i64 o',.string s',.string v'] 41))
        refine ⟨k+1,fresh,ov,zL,rfl,zj,vm _,⟨hS3.below,hS3.box,hS3.map.mono zj,hS3.row,hS3.fk,?_,by have:=hS3.len;omega⟩⟩
        rw [hS3.is,hdrop.o]
        exact sift_same HERR.o (by rw [hlook.o,HN.o,HY.o,HQ.o];rfl)
      | false=>
       have HQ:Aside ((t',b',n',kd',nd',o',s',v')≠(t,(i:Int),(m:Int)+1,kd,nd,o,s,v)):=fun e=>by
        cases e
        rw [eqB_self] at hq
        cases hq
       rw [hq] at heq
       clear hq
       have x6:=HX.o
       have x6:w2.cell? ⟨6,0,none⟩=some (.iface 350 (.pointer (some (ad 6)))):=(H3.o.1.below.cell (p:=⟨6,0,none⟩) (vp w ⟨6,0,none⟩ HX.o)).trans HX.o
       have hgl:6<w2.heap.size:=vp w2 ⟨6,0,none⟩ x6
       go_wp2
       go_region
       all_goals
        go_wp2
        go_ret2
        unfold SiftOut
        rw [A.o.is,hdrop.o,sift_other HERR.o (by rw [hlook.o,HN.o,HY.o];rfl) HQ.o]
        exact ⟨⟨_,rfl,_,rfl,fault_new _ _ _ _⟩,((H3.o.1.below.alloc H3.o.1.below.size _).alloc jY _).drew⟩
     | none=>
      rw [hy] at hlk
      unfold encO zeroO at hlk
      dsimp only [Option.getD_none,Option.isSome_none] at hlk
      have HY:Aside (lookK fresh (i:Int) ((m:Int)+1)=none):=hy
      clear hy
      have hlen:=A.o.len
      have hmapZ:=(H3.o.1.map.same (vy w2 (.cells #[.int .i64 0,.int .i64 0,.int .i64 0,.int .u8 0,.int .i64 0,.int .i64 0,.string ⟨#[]⟩,.string ⟨#[]⟩] 41) (S+1) H3.o.1.map.lt))
      obtain ⟨w3,hrun,hM3,hT3⟩:=hmapZ.store zw hwf (t,(i:Int),(m:Int)+1,kd,nd,o,s,v)
      have K3:=keeps_of_grown hT3.grown
      have HZ:=H3.o.1.later ((vu w2.heap.size w2).alloc zg (.cells #[.int .i64 0,.int .i64 0,.int .i64 0,.int .u8 0,.int .i64 0,.int .i64 0,.string ⟨#[]⟩,.string ⟨#[]⟩] 41))
      have hO3:OpBlk w3 P (t,(i:Int),(m:Int)+1,kd,nd,o,s,v):=(K3.block P zl (fun e=>by have:=H3.o.2.2.2.2;simp at e;omega)).trans (H3.o.2.1.later ((vu w2.heap.size w2).alloc zg _))
      have hB3:Below w.heap.size w w3:=HZ.below.trans (K3.below HZ.below.size (fun k e=>by have:=HE.o.2.2.2;simp at e;omega))
      have hR3:w3.ownsRow (S+2) 41 8 ov fresh.length (cellsOf fresh):=ownsHeld HZ.row (fun g hg=>K3.block g (HZ.row.lt g hg).2 (fun e=>by have:=(HZ.row.lt g hg).1;simp at e;omega))
      have hX3:KBox w3 S ao cap R:=(K3.block S HZ.box.lt (fun e=>jb)).trans HZ.box
      have hM3':NMapAt w3 (S+1) (k+1) (fun q=>lookK (fresh++ [(t,(i:Int),(m:Int)+1,kd,nd,o,s,v)]) q.1 q.2):=by
       rw [look_snoc]
       have e:(fun q:NKey=>if q=(byO (t,(i:Int),(m:Int)+1,kd,nd,o,s,v),numO (t,(i:Int),(m:Int)+1,kd,nd,o,s,v)) then (lookK fresh q.1 q.2).or (some (t,(i:Int),(m:Int)+1,kd,nd,o,s,v)) else lookK fresh q.1 q.2)=(fun q:NKey=>if q=((i:Int),(m:Int)+1) then some (t,(i:Int),(m:Int)+1,kd,nd,o,s,v) else lookK fresh q.1 q.2):=by
        funext q
        show (if q=((i:Int),(m:Int)+1) then _ else _)=_
        split
        ·rename_i e;rw [e];show (lookK fresh (i:Int) ((m:Int)+1)).or _=_;rw [HY.o];rfl
        rfl
       rw [e]
       exact hM3
      have hp3:=hO3.lt
      obtain ⟨z0,z1,z2,z3,z4,z5,z6,z7,g8⟩:=hO3.cells
      dsimp only at z0 z1 z2 z3 z4 z5 z6 z7
      have H4:Aside (Below w.heap.size w w3/\KBox w3 S ao cap R/\NMapAt w3 (S+1) (k+1) (fun q=>lookK (fresh++ [(t,(i:Int),(m:Int)+1,kd,nd,o,s,v)]) q.1 q.2)/\w3.ownsRow (S+2) 41 8 ov fresh.length (cellsOf fresh)/\S+1<w3.heap.size):=⟨hB3,hX3,hM3',hR3,hM3'.lt⟩
      unfold encN encO at hrun
      dsimp only at hrun
      obtain ⟨i0,hi0,hz0,hz1,hz2⟩:=info_parts infoOp
      clear hM3 hT3 K3 HZ hO3 hB3 hR3 hX3 hM3' hmapZ
      go_wp2_with (at_builtin;refine wpList_append_own _ rfl _ _ 48 rfl (S+2) 41 i0 _ 8 80 underlying48 hi0 hz0 hz1 hz2 rfl zj _ _ _ rfl (H4.o.2.2.2.1.alloc _) ⟨w3.heap.size,0,none⟩ 1 1 (encX (t,(i:Int),(m:Int)+1,kd,nd,o,s,v)) rfl ?qc1 ?qc2 ?qc3 ?qc4 ?qc5 ?qc6 ?_)
      case qc1=>rfl
      case qc2=>exact lit_cellsO w3 (t,(i:Int),(m:Int)+1,kd,nd,o,s,v) _
      case qc3=>exact encX_one _
      case qc4=>simp only [maxLen];omega
      case qc5=>omega
      case qc6=>simp;have:=H4.o.2.2.2.2;omega
      intro v' w4 hown hgrow hnil
      have K4:=keeps_of_grown hgrow
      have hN:Aside (SiftSt w S ao cap R l (k+1) (fresh++ [(t,(i:Int),(m:Int)+1,kd,nd,o,s,v)]) v' w4):=by
       have hbA:Below w3.heap.size w3 (w3.alloc (.cells #[.int .i64 t,.int .i64 (i:Int),.int .i64 ((m:Int)+1),.int .u8 (kd:Int),.int .i64 nd,.int .i64 o,.string s,.string v] 41)):=zh w3 _
       have hrow:=H4.o.2.2.2.1
       have hsz:=H4.o.2.2.2.2
       have hne:∀g,some g=ov.ownBlock->S+2<=g:=fun g hg=>(hrow.lt g hg.symm).1
       refine ⟨?_,?_,?_,?_,A.o.fk.snoc HERR.o ?_,?_,zl⟩
       ·exact (zi H4.o.1 hbA).trans (K4.below (vr H4.o.1.size hbA.size) (fun g hg=>by have:=hne g hg;have:=HE.o.2.2.2;omega))
       ·exact (K4.block S zl (fun e=>by have:=hne S e;omega)).trans ((hbA.block S zj).trans H4.o.2.1)
       ·exact H4.o.2.2.1.same ((K4.block (S+1) zl (fun e=>by have:=hne _ e;omega)).trans (hbA.block _ hsz))
       ·rw [cellsOf_app,vw]
        have:cellsOf [(t,(i:Int),(m:Int)+1,kd,nd,o,s,v)]=encX (t,(i:Int),(m:Int)+1,kd,nd,o,s,v):=by simp [cellsOf]
        rw [this]
        exact hown
       ·rw [hlook.o,HN.o,HY.o];rfl
       rw [A.o.is,hdrop.o,sift_new HERR.o (by rw [hlook.o,HN.o,HY.o];rfl)]
      clear K4 hown hgrow hnil H4 H3 hlk hrun z0 z1 z2 z3 z4 z5 z6 z7 g8 y0 y1 y2 y3 y4 y5 y6 y7 f8 q0 q1
      go_wp2
      go_roundg (l.length - (k+1))
      case measure=>omega
      case rel=>exact ⟨k+1,_,_,zL,rfl,zj,vm _,hN.o⟩
   obtain ⟨c,hc⟩:=za (errO (t,b,n,kd,nd,o,s,v))
   rw [<-hc] at hck
   have hev:eV ad c= .iface 350 (.pointer (some (ad (c - 1)))):=by unfold eV;rw [if_neg zj]
   rw [hev] at hck
   have HC:Aside (errO (t,b,n,kd,nd,o,s,v)≠0/\c=errO (t,b,n,kd,nd,o,s,v)/\eV ad c= .iface 350 (.pointer (some (ad (c - 1))))):=⟨herr,hc,hev⟩
   clear hev hc herr
   go_wp2_with fail
   rw [<-hU]
   clear hU r0 r1 r2 r3 r4 r5 r6 r7
   refine hck.mono ?_
   clear hck
   rintro e w1 ⟨rfl,hb1⟩
   have B1:Aside (Below w.heap.size w w1):=(H1.o.1.later hb1).below
   clear hb1
   go_wp2
   go_ret2
   unfold SiftOut
   rw [A.o.is,hdrop.o,sift_bad HC.o.1]
   exact ⟨⟨_,rfl,w1.heap.size,rfl,by rw [<-HC.o.2.1,HC.o.2.2];exact heap_alloc_new w1 _⟩,B1.o.alloc B1.o.size _⟩
  have d1:decide ((k:Int)<(l.length:Int))=false:=zl
  go_wp2
  go_ret2
  unfold SiftOut
  have:=A.o.is
  rw [uT zj,siftS] at this
  rw [this]
  refine ⟨⟨_,rfl,ownsLow A.o.row (by have:=HE.o.2.2.2;omega)⟩,A.o.below⟩
end
section
open Go.RowKit Go.Shelf Go.Maps
attribute [local go_sem] Oper.semAt_some
def OpsRow (W:World) (g off:Nat) (L:List OpX):Prop:=∀j u,(cellsOf L)[j]? =some u->W.cell? ⟨g,off+j,none⟩=some u
theorem OpsRow.same {off:Nat} (h:OpsRow W g off L) (e:W'.heap[g]? =W.heap[g]?):OpsRow W' g off L:=fun j u hj=>by
 rw [<-h j u hj]
 exact vI (a:=⟨g,off+j,none⟩) e
theorem OpsRow.at {off:Nat} (h:OpsRow W g off L) {x:OpX} (hx:L[i]? =some x) (c:Nat) {u:Value} (hu:(encX x)[c]? =some u):W.cell? ⟨g,off+i*8+c,none⟩=some u:=by
 have hin:OpsIn W (some ⟨g,off,none⟩) L:=.inr ⟨g,off,rfl,h⟩
 obtain ⟨b,o,e,hc⟩:=hin.get hx
 cases e
 exact hc c u hu
theorem lt_same (h:g<W.heap.size) (e:W'.heap[g]? =W.heap[g]?):g<W'.heap.size:=by
 rw [Ze h] at e
 exact (vn.1 e).1
theorem valOps1_in (F:Fence) (n:Nat) (h7:F.fn 181) (hro:F.round=none) (hn:1<=n) (l Bs g off cap:Nat) (ao:Option Addr) (L:List OpX) (hlen:L.length<=1000) (hao:L= []\/ao=some ⟨g,off,none⟩) (J Jx:List OpX->World->Prop)
  (hY:∀pre x W,J pre W->pre.length<L.length->YieldAt F (n - 1) prog l #[encO x] W fun e W'=>
   (e= .returned (.bool true)/\J (pre++ [x]) W'/\KeepTwo g Bs W W')\/(e= .returned (.bool false)/\Jx (pre++ [x]) W'))
  (W:World) (hJ:AbidesFrom W.heap.size J) (hBl:Bs<W.heap.size) (hgl:g<W.heap.size) (hBs:W.cell? ⟨Bs,0,none⟩=some (.slice ao L.length cap)) (hc:OpsRow W g off L) (h0:J [] W):
  CallsIn F n prog 181 #[.func (.yield l) #[] #[],.pointer (some ⟨Bs,0,none⟩)] W fun e W'=>(∃v,e= .returned v)/\
   ((∃ys,ys=L/\J ys W')\/(∃pre,True/\Jx pre W')):=by
 refine callsIn_of_wp func181 rfl h7 ?_ hro
 simp only [ntmps181,vY,vH,vT,Nat.reduceAdd,Nat.reduceSub,ul,um,uy,uo,uA,ux]
 gi_wp2
 gi_loopw [4,7] (fun _ i wr=>∃k:Nat,k<=L.length/\i= .int .i64 (k:Int)/\J (L.take k) wr/\KeepTwo g Bs W wr)
  (fun _ i _=>(L.length - (intOf i).toNat))
 case atStart=>exact ⟨0,vD _,zm,by simpa using h0,KeepTwo.refl _ _ _⟩
 case round=>
  obtain ⟨k,hk,rfl,hJs,hnx⟩:=hrel
  have hBs':wr.cell? ⟨Bs,0,none⟩=some (.slice ao L.length cap):=(vI (a:=⟨Bs,0,none⟩) hnx.2).trans hBs
  by_cases hlt:k<L.length
  ·have hao':ao=some ⟨g,off,none⟩:=hao.resolve_left (fun e=>by rw [e] at hlt;simp at hlt)
   subst hao'
   obtain ⟨⟨t,b,m,kd,nd,o,s,v⟩,hix⟩:∃x,L[k]? =some x:=⟨L[k],vj hlt⟩
   have hJ3:J (L.take k) (wr.alloc (.cells #[.int .i64 t,.int .i64 b,.int .i64 m,.int .u8 (kd:Int),.int .i64 nd,.int .i64 o,.string s,.string v] 41)):=hJ _ wr _ none hJs (World.grownBy_alloc wr _ none) (fun r e=>qC)
   obtain ⟨fn,tmps,assign,body,hy,hR⟩:=hY _ (t,b,m,kd,nd,o,s,v) _ hJ3 (by rw [vP];omega)
   have hrow:=hc.same hnx.1
   unfold encO at hy
   dsimp only at hy
   have c0:wr.cell? ⟨g,off+k*8,none⟩=some (.int .i64 t):=hrow.at hix 0 (u:=.int .i64 t) rfl
   have c1:=hrow.at hix 1 (u:=.int .i64 b) rfl
   have c2:=hrow.at hix 2 (u:=.int .i64 m) rfl
   have c3:=hrow.at hix 3 (u:=.int .u8 (kd:Int)) rfl
   have c4:=hrow.at hix 4 (u:=.int .i64 nd) rfl
   have c5:=hrow.at hix 5 (u:=.int .i64 o) rfl
   have c6:=hrow.at hix 6 (u:=.string s) rfl
   have c7:=hrow.at hix 7 (u:=.string v) rfl
   have hi0:(0:Int)<=(k:Int):=zj
   have hib:(k:Int)<(L.length:Int):=zj
   have wk:((k:Int)).toNat=k:=zj
   have d1:decide ((k:Int)<(L.length:Int))=true:=zl
   have htake:L.take (k+1)=L.take k++ [(t,b,m,kd,nd,o,s,v)]:=by
    rw [ut,hix];rfl
   have HK:Aside (k<L.length/\KeepTwo g Bs W (wr.alloc (.cells #[.int .i64 t,.int .i64 b,.int .i64 m,.int .u8 (kd:Int),.int .i64 nd,.int .i64 o,.string s,.string v] 41))/\L.take (k+1)=L.take k++ [(t,b,m,kd,nd,o,s,v)]):=⟨hlt,hnx.trans ⟨vy _ _ _ (lt_same hgl hnx.1),vy _ _ _ (lt_same hBl hnx.2)⟩,htake⟩
   have hR':Aside (RoundIn F (n - 1) prog l fn tmps assign body (wr.alloc (.cells #[.int .i64 t,.int .i64 b,.int .i64 m,.int .u8 (kd:Int),.int .i64 nd,.int .i64 o,.string s,.string v] 41)) fun e W'=>(e= .returned (.bool true)/\J (L.take k++ [(t,b,m,kd,nd,o,s,v)]) W'/\KeepTwo g Bs (wr.alloc (.cells #[.int .i64 t,.int .i64 b,.int .i64 m,.int .u8 (kd:Int),.int .i64 nd,.int .i64 o,.string s,.string v] 41)) W')\/(e= .returned (.bool false)/\Jx (L.take k++ [(t,b,m,kd,nd,o,s,v)]) W')):=hR
   clear hlt hk hix hR hrow hnx hJs hY h0 htake hJ3
   gi_wp2
   refine hR'.o.mono ?_
   rintro e W3 (⟨rfl,hJ3,hk3⟩ | ⟨rfl,hJx3⟩)
   ·gi_wp2
    go_roundw
    case rel=>exact ⟨k+1,by have:=HK.o.1;omega,zL,by rw [HK.o.2.2];exact hJ3,HK.o.2.1.trans hk3⟩
    case measure=>have:=HK.o.1;simp [intOf];omega
   gi_wp2
   refine bodyPost_ret (results_none rfl _ _ _) rfl ?_
   exact ⟨⟨_,rfl⟩,.inr ⟨_,trivial,hJx3⟩⟩
  obtain rfl:k=L.length:=zj
  have d1:decide ((L.length:Int)<(L.length:Int))=false:=zm
  gi_wp2
  go_end0
  exact ⟨⟨_,rfl⟩,.inl ⟨_,rfl,by rw [uR] at hJs;exact hJs⟩⟩
theorem valOps_stops (F:Fence) (n:Nat) (h7:F.fn 181) (hro:F.round=none) (hn:1<=n) (Bs g off cap:Nat) (ao:Option Addr) (L:List OpX) (hlen:L.length<=1000) (hao:L= []\/ao=some ⟨g,off,none⟩) (w:World) (hBs:Bs<w.heap.size) (hg:g<w.heap.size)
  (hc:w.cell? ⟨Bs,0,none⟩=some (.slice ao L.length cap)) (hI:OpsRow w g off L):
  SeqStopsK F n prog 181 #[.pointer (some ⟨Bs,0,none⟩)] (fun x:OpX=> #[encO x]) (KeepTwo g Bs) (fun ys=>ys=L) (fun _=>True) L.length w:=fun l J Jx W hW hJ _ hY h0=>by
 have hc':=(hW.cell (p:=⟨Bs,0,none⟩) hBs).trans hc
 exact valOps1_in F n h7 hro hn l Bs g off cap ao L hlen hao J Jx hY W hJ (vJ hBs hW.size) (vJ hg hW.size) hc' (hI.same (hW.block g hg)) h0
theorem valOps_any (a:Option Addr) (len cap:Nat) (w:World):Calls prog 125 #[.slice a len cap] w fun e w'=>e= .returned (.func (.func 181) #[] #[.pointer (some ⟨w.heap.size,0,none⟩)])/\w'=w.alloc (.cells #[.slice a len cap] 48):=by
 go_enter func125,ntmps125
 go_wp2
 go_ret
 exact ⟨rfl,rfl⟩
theorem appendOps_any (w:World) (Bs g off cap:Nat) (ao:Option Addr) (L:List OpX) (hlen:L.length<=1000) (hao:L= []\/ao=some ⟨g,off,none⟩) (hBs:Bs<w.heap.size) (hg:g<w.heap.size) (hc:w.cell? ⟨Bs,0,none⟩=some (.slice ao L.length cap)) (hI:OpsRow w g off L):
  Calls prog 227 #[.slice none 0 0,.func (.func 181) #[] #[.pointer (some ⟨Bs,0,none⟩)]] w fun e w'=>∃v,e= .returned v/\w'.ownsRow w.heap.size 41 8 v L.length (cellsOf L)/\Below w.heap.size w w':=by
 obtain ⟨i0,hi,hz0,hz1,hz2⟩:=info_parts infoOp
 refine (callsIn_wide (n:=4)).1 ?_
 refine callsIn_of_wp_marks func227 rfl trivial ?_ rfl
 simp only [ntmps227,vY,vH,vT,Nat.reduceAdd,Nat.reduceSub,ul,um,uy,uo,uA,ux]
 gi_wp2
 obtain ⟨w1,hw1⟩:=za (w.alloc (.cells #[.slice none 0 0] 48))
 rw [<-hw1]
 have hB0:Below w.heap.size w w1:=yV
 have hs1:w1.heap.size=w.heap.size+1:=xI
 obtain ⟨B,hB⟩:=za w.heap.size
 have e1:Boxed w1 B 48 (.slice none 0 0):=qD
 rw [<-hB] at hB0 hs1 hBs hg |-
 have HB:Aside (B=w.heap.size):=hB
 have hBw:B<=w.heap.size:=zj
 clear hB
 have hc1:=(hB0.cell (p:=⟨Bs,0,none⟩) hBs).trans hc
 have hI1:=hI.same (hB0.block g hg)
 clear hw1 hc hI
 refine wpIn_rangeFunc_ownH rfl zj (gf:=181) (lb:= #[.pointer (some ⟨Bs,0,none⟩)]) rfl trivial (enters_of func181 zk rfl)
  (valOps_stops Fence.wide (4 - 1) trivial rfl zj Bs g off cap ao L hlen hao w1 zj zj hc1 hI1) KeepTwo.trans (fun W l o o' hl _ _ _=>KeepTwo.put (N:=w1.heap.size) zj zj W l o' hl) (vu _ _) (fun _=>rfl)
  (fun pre W=>((∃v,Boxed W B 48 v/\W.ownsRow B 41 8 v pre.length (cellsOf pre)/\pre.length<=L.length))/\(w1.heap.size<=W.heap.size/\Below B w W))
  (fun _ _ _=>False)
  (OwnFrom.and (Own.from (holdsRow_own B B 48 41 8 (fun pre=>pre.length) (fun pre=>cellsOf pre) (fun pre _=>pre.length<=L.length)) _) (OwnFrom.and (fun _ X Y row hs hg _=>vr hs hg.size) (ownFrom_below zj zj)))
  (fun _ _ _ _ _ hs _ _=>hs)
  ⟨⟨_,e1,ud w1 B _ _,vD _⟩,vm _,hB0⟩
  (fun x a' W=>∃Bx,w1.heap.size<=Bx/\OpBlk W Bx x/\a'= {tmps:= #[.slice none 0 0,.func (.func 181) #[] #[.pointer (some ⟨Bs,0,none⟩)],.pointer (some ⟨B,0,none⟩),undef,.slice none 0 0,.pointer (some ⟨Bx,0,none⟩),.func (.func 181) #[] #[.pointer (some ⟨Bs,0,none⟩)],encO x,undef,undef,undef,undef,undef],defers:=[]})
  (fun x a'=>Own.from (fun _ X Y row hs hg hr=>ya) _)
  ?assign ?body ?done ?stop
 case assign=>
  rintro l pre x W K ⟨⟨v,hv,hrow,hpl⟩,hsz,hBW⟩ hK
  have hK':Aside _:=hK
  have hBs':B<=W.heap.size:=zj
  clear hK
  unfold encO
  gi_wp2
  refine hK'.o _ _ ((KeepsOthers.alloc _ _).from _) ⟨vy _ _ _ zj,vy _ _ _ zj⟩ ⟨⟨v,hv.alloc _,hrow.alloc _,hpl⟩,zl,hBW.alloc hBs' _⟩ ⟨W.heap.size,zj,heap_alloc_new W _,rfl⟩
 case body=>
  rintro l pre x a' W hl _ ⟨⟨v,hv,hrow,hpl⟩,hsz,hBW⟩ ⟨Bx,hBx,hE,rfl⟩ hlt
  have g1:=hv.cell
  obtain ⟨f0,f1,f2,f3,f4,f5,f6,f7,-⟩:=hE.cells
  have hBs':B<=W.heap.size:=zj
  obtain ⟨t,b,m,kd,nd,o,s,v0⟩:=x
  dsimp only at f0 f1 f2 f3 f4 f5 f6 f7
  unfold encO
  gi_wp2_with (gi_at_builtin;refine wpListIn_append_own _ rfl _ _ 48 rfl B 41 i0 _ 8 80 underlying48 hi hz0 hz1 hz2 rfl zj _ _ _ rfl (hrow.alloc _) ⟨W.heap.size,0,none⟩ 1 1 (encX (t,b,m,kd,nd,o,s,v0)) rfl rfl (lit_cellsO W (t,b,m,kd,nd,o,s,v0) _) (encX_one _) zw zj zl ?_;intro v' w2 hown' hgrow _;obtain ⟨g',cap',rfl⟩:=ownsRow_succ hown';obtain ⟨hv1,hv2,hr2,hk2,hb2⟩:=hv.appended zt hrow hBs' zg hown' hgrow;have hc1:=hv1.cell;have hf1:=hv1.frozen)
  refine ⟨hk2.from _,⟨hb2.block g hg,hb2.block Bs hBs⟩,⟨⟨_,hv2,?_,zl⟩,jS,hBW.trans hb2⟩⟩
  rw [vw,uC,cellsOf_app]
  have:cellsOf [(t,b,m,kd,nd,o,s,v0)]=encX (t,b,m,kd,nd,o,s,v0):=by simp [cellsOf]
  rw [this]
  exact hr2
 case done=>
  rintro D ys W hD hall ⟨⟨v,hv,hrow,hpl⟩,hsz,hBW⟩ hK
  have g1:=hv.cell
  gi_wp2
  refine ⟨zm,.inl ⟨_,_,rfl,run_takeDeferred hK,?_⟩⟩
  subst hall
  refine ⟨v,by simp [results,f227,go_sem],v,rfl,?_,?_⟩
  ·rw [<-HB.o]
   exact ownsRow_putObj hrow _ hK rfl
  rw [<-HB.o]
  exact hBW.trans (belowK_b (w:=w) zj W D _ _ yb hK rfl rfl)
 case stop=>
  rintro D c pre W _ _ h _
  exact h.elim
theorem collectOps_any (w:World) (Bs g off cap:Nat) (ao:Option Addr) (L:List OpX) (hlen:L.length<=1000) (hao:L= []\/ao=some ⟨g,off,none⟩) (hBs:Bs<w.heap.size) (hg:g<w.heap.size) (hc:w.cell? ⟨Bs,0,none⟩=some (.slice ao L.length cap)) (hI:OpsRow w g off L):
  Calls prog 179 #[.func (.func 181) #[] #[.pointer (some ⟨Bs,0,none⟩)]] w fun e w'=>∃v,e= .returned v/\w'.ownsRow w.heap.size 41 8 v L.length (cellsOf L)/\Below w.heap.size w w':=by
 have hcl:=appendOps_any w Bs g off cap ao L hlen hao hBs hg hc hI
 go_enter func179,ntmps179
 go_wp2_with fail
 refine hcl.mono ?_
 clear hcl
 rintro e w' ⟨v,rfl,H⟩
 have HH:Aside (w'.ownsRow w.heap.size 41 8 v L.length (cellsOf L)/\Below w.heap.size w w'):=H
 clear H
 go_wp2
 go_ret
 exact ⟨v,rfl,HH.o⟩
end
section
open Go.RowKit
open scoped Classical
structure Kept (c:Nat->Nat) (i:Nat) (w:World) (c':Nat->Nat) (w':World):Prop where
 block:∀k,k<w.heap.size->c k=i->w'.heap[k]? =w.heap[k]?
 hue:∀k,k<w.heap.size->c' k=c k
def hueOf (nd:Int):Nat:=20+nd.toNat
def RepCell (w:World) (br:Nat) (T by_:Int) (kv:Nat->Value) (bt bx bc:Nat):Prop:=w.heap[br]? =some (.cells #[.int .i64 T,.int .i64 by_,kv 0,kv 1,kv 2,kv 3,.pointer (some ⟨bt,0,none⟩),.map (some bx),.pointer (some ⟨bc,0,none⟩)] 79 (0,0))
theorem RepCell.lt (h:RepCell w br T by_ kv bt bx bc):br<w.heap.size:=(vn.1 h).1
theorem RepCell.same (h:RepCell w br T by_ kv bt bx bc) (e:w'.heap[br]? =w.heap[br]?):RepCell w' br T by_ kv bt bx bc:=e.trans h
theorem RepCell.c0 (h:RepCell w br T by_ kv bt bx bc):w.cell? ⟨br,0,none⟩=some (.int .i64 T):=zN
theorem RepCell.c1 (h:RepCell w br T by_ kv bt bx bc):w.cell? ⟨br,1,none⟩=some (.int .i64 by_):=zN
theorem RepCell.c2 (h:RepCell w br T by_ kv bt bx bc):w.cell? ⟨br,2,none⟩=some (kv 0):=zN
theorem RepCell.c3 (h:RepCell w br T by_ kv bt bx bc):w.cell? ⟨br,3,none⟩=some (kv 1):=zN
theorem RepCell.c4 (h:RepCell w br T by_ kv bt bx bc):w.cell? ⟨br,4,none⟩=some (kv 2):=zN
theorem RepCell.c5 (h:RepCell w br T by_ kv bt bx bc):w.cell? ⟨br,5,none⟩=some (kv 3):=zN
theorem RepCell.c6 (h:RepCell w br T by_ kv bt bx bc):w.cell? ⟨br,6,none⟩=some (.pointer (some ⟨bt,0,none⟩)):=zN
theorem RepCell.c7 (h:RepCell w br T by_ kv bt bx bc):w.cell? ⟨br,7,none⟩=some (.map (some bx)):=zN
theorem RepCell.c8 (h:RepCell w br T by_ kv bt bx bc):w.cell? ⟨br,8,none⟩=some (.pointer (some ⟨bc,0,none⟩)):=zN
theorem RepCell.fz (h:RepCell w br T by_ kv bt bx bc) (o:Nat):w.frozen? ⟨br,o,none⟩=false:=by unfold RepCell at h;simp [World.frozen?,h]
def RowsAt (w:World) (c:Nat->Nat) (kv:Nat->Value) (R:Rws):Prop:=∀i,i<4->w.ownsRow 0 41 8 (kv i) (R i).length (cellsOf (R i))/\∀g,(kv i).ownBlock=some g->c g=10+i
theorem RowsAt.one {c:Nat->Nat} (h:RowsAt w c kv R) (hi:i<4) (hk:Kept c (10+i) w c' w'):w'.ownsRow 0 41 8 (kv i) (R i).length (cellsOf (R i))/\∀g,(kv i).ownBlock=some g->c' g=10+i:=by
 obtain ⟨h1,h2⟩:=h i hi
 refine ⟨owns_same h1 (fun g hg=>hk.block g (h1.lt g hg).2 (h2 g hg)),fun g hg=> ?_⟩
 rw [hk.hue g (h1.lt g hg).2]
 exact h2 g hg
theorem RowsAt.kept {c:Nat->Nat} (h:RowsAt w c kv R) (hk:∀i,i<4->Kept c (10+i) w c' w'):RowsAt w' c' kv R:=fun i hi=>h.one hi (hk i hi)
theorem RowsAt.ops {c:Nat->Nat} (h:RowsAt w c kv R) (hi:i<4):OpsAt w (kv i) (R i):=ownsOps (h i hi).1
def TreeC (w:World) (c:Nat->Nat) (bt:Nat) (A:List OpX):Prop:=∃bm v ms,TreeAt 0 w bt bm v ms/\ms.Perm (movsO A)/\c bt=2/\c bm=2/\∀g,v.ownBlock=some g->c g=2
theorem TreeC.kept {c:Nat->Nat} (h:TreeC w c bt A) (hk:Kept c 2 w c' w'):TreeC w' c' bt A:=by
 obtain ⟨bm,v,ms,h1,h2,h3,h4,h5⟩:=h
 obtain ⟨l1,l2,l3⟩:=h1.lt
 exact ⟨bm,v,ms,h1.same (hk.block _ l1 h3) (hk.block _ l2 h4) (fun g hg=>hk.block g (l3 g hg) (h5 g hg)),h2,(hk.hue _ l1).trans h3,(hk.hue _ l2).trans h4,fun g hg=>(hk.hue g (l3 g hg)).trans (h5 g hg)⟩
theorem TreeC.perm {c:Nat->Nat} (h:TreeC w c bt A) (e:A.Perm B):TreeC w c bt B:=by
 obtain ⟨bm,v,ms,h1,h2,h3⟩:=h
 exact ⟨bm,v,ms,h1,h2.trans (e.filterMap _),h3⟩
def LineC (w:World) (c:Nat->Nat) (p:Nat) (nd:Int) (A:List OpX):Prop:=∃v L,LineAt (p+1) w p v L/\LineIs A nd L/\c p=hueOf nd/\∀g,v.ownBlock=some g->c g=hueOf nd
theorem LineAt.kin {base:Nat} {L:List Ltr} (h:LineAt base w p v L) (hg:v.ownBlock=some g):g<w.heap.size:=(h.row.lt g hg).2
theorem LineC.kept {c:Nat->Nat} {nd:Int} (h:LineC w c p nd A) (hk:Kept c (hueOf nd) w c' w'):LineC w' c' p nd A:=by
 obtain ⟨v,L,h1,h2,h3,h4⟩:=h
 refine ⟨v,L,⟨(hk.block p h1.lt h3).trans h1.cell,ownsSame h1.row (fun g hg=>hk.block g (h1.kin hg) (h4 g hg)),h1.low,h1.nodup,h1.pos,h1.small⟩,h2,(hk.hue _ h1.lt).trans h3,fun g hg=>(hk.hue g (h1.kin hg)).trans (h4 g hg)⟩
def TextC (w:World) (c:Nat->Nat) (bx:Nat) (A:List OpX):Prop:=∃n tx,n<=A.length/\TMapAt w bx n tx/\c bx=3/\(∀nd,(tx nd).isSome=true↔KnownN A nd)/\∀nd p,tx nd=some p->LineC w c p nd A
theorem TextC.kept {w w':World} {c c':Nat->Nat} {bx:Nat} {A:List OpX} (h:TextC w c bx A) (hk:Kept c 3 w c' w') (hl:∀nd,KnownN A nd->Kept c (hueOf nd) w c' w'):TextC w' c' bx A:=by
 obtain ⟨n,tx,h1,h2,h3,h4,h5⟩:=h
 exact ⟨n,tx,h1,h2.same (hk.block _ h2.lt h3),(hk.hue _ h2.lt).trans h3,h4,fun nd p hp=>(h5 nd p hp).kept (hl nd ((h4 nd).1 xz))⟩
theorem TextC.perm {w:World} {c:Nat->Nat} {bx:Nat} {A B:List OpX} (h:TextC w c bx A) (e:A.Perm B):TextC w c bx B:=by
 obtain ⟨n,tx,h1,h2,h3,h4,h5⟩:=h
 refine ⟨n,tx,by rw [<-e.length_eq];exact h1,h2,h3,fun nd=>(h4 nd).trans ⟨fun q=>q.mono (fun x hx=>e.mem_iff.1 hx),fun q=>q.mono (fun x hx=>e.mem_iff.2 hx)⟩,fun nd p hp=> ?_⟩
 obtain ⟨v,L,k1,k2,k3⟩:=h5 nd p hp
 exact ⟨v,L,k1,k2.perm e,k3⟩
def CellC (w:World) (c:Nat->Nat) (bc:Nat) (A:List OpX):Prop:=∃cm A',CellsAt w bc cm A.length (madeO A')/\A'.Perm A/\c bc=4/\c cm=4
theorem CellC.kept {c:Nat->Nat} (h:CellC w c bc A) (hk:Kept c 4 w c' w'):CellC w' c' bc A:=by
 obtain ⟨cm,A',h1,h2,h3,h4⟩:=h
 exact ⟨cm,A',h1.same (hk.block _ h1.lt.1 h3) (hk.block _ h1.lt.2 h4),h2,(hk.hue _ h1.lt.1).trans h3,(hk.hue _ h1.lt.2).trans h4⟩
theorem CellC.perm {c:Nat->Nat} (h:CellC w c bc A) (e:A.Perm B):CellC w c bc B:=by
 obtain ⟨cm,A',h1,h2,h3⟩:=h
 exact ⟨cm,A',by rw [<-e.length_eq];exact h1,h2.trans e,h3⟩
structure RepMid (w:World) (c:Nat->Nat) (br:Nat) (T by_:Int) (kv:Nat->Value) (bt bx bc:Nat) (R:Rws) (A:List OpX):Prop where
 cell:RepCell w br T by_ kv bt bx bc
 hue:c br=1
 rows:RowsAt w c kv R
 tree:TreeC w c bt A
 text:TextC w c bx A
 marks:CellC w c bc A
 time:timeO A T
theorem RepMid.kept {w w':World} {c c':Nat->Nat} {br:Nat} {T by_:Int} {kv:Nat->Value} {bt bx bc:Nat} {R:Rws} {A:List OpX} (h:RepMid w c br T by_ kv bt bx bc R A) (hk:∀i,i≠0->Kept c i w c' w'):RepMid w' c' br T by_ kv bt bx bc R A:=by
 have k1:=hk 1 zj
 exact ⟨h.cell.same (k1.block _ h.cell.lt h.hue),(k1.hue _ h.cell.lt).trans h.hue,h.rows.kept (fun i _=>hk _ zj),h.tree.kept (hk 2 zj),h.text.kept (hk 3 zj) (fun nd _=>hk _ yk),h.marks.kept (hk 4 zj),h.time⟩
theorem RepMid.later {c:Nat->Nat} (h:RepMid w c br T by_ kv bt bx bc R A) (hb:Below w.heap.size w w'):RepMid w' c br T by_ kv bt bx bc R A:=
 h.kept (fun i _=>⟨fun k hk _=>hb.block k hk,fun k _=>rfl⟩)
def RepAt (w:World) (c:Nat->Nat) (br:Nat) (by_:Int) (R:Rws):Prop:=∃T kv bt bx bc A,RepMid w c br T by_ kv bt bx bc R A/\A.Perm (allR R)/\RowsK R/\0<=by_/\by_<4
theorem RepAt.kept {w w':World} {c c':Nat->Nat} {br:Nat} {by_:Int} {R:Rws} (h:RepAt w c br by_ R) (hk:∀i,i≠0->Kept c i w c' w'):RepAt w' c' br by_ R:=by
 obtain ⟨T,kv,bt,bx,bc,A,h1,h2⟩:=h
 exact ⟨T,kv,bt,bx,bc,A,h1.kept hk,h2⟩
theorem RepAt.later {c:Nat->Nat} (h:RepAt w c br by_ R) (hb:Below w.heap.size w w'):RepAt w' c br by_ R:=
 h.kept (fun i _=>⟨fun k hk _=>hb.block k hk,fun k _=>rfl⟩)
structure Acts (w:World) (c:Nat->Nat) (w':World) (c':Nat->Nat):Prop where
 keeps:Keeps (fun k=>c k≠0) w w'
 hue:∀k,k<w.heap.size->c' k=c k
theorem Acts.refl (w:World) (c:Nat->Nat):Acts w c w c:=⟨Keeps.refl _ _,fun _ _=>rfl⟩
theorem Acts.of_below (c:Nat->Nat) (hb:Below w.heap.size w w'):Acts w c w' c:=⟨(keeps_of_below hb).mono (fun k hk e=>absurd hk zj),fun _ _=>rfl⟩
theorem Acts.trans {w w1 w2:World} {c c1 c2:Nat->Nat} (h:Acts w c w1 c1) (k:Acts w1 c1 w2 c2):Acts w c w2 c2:=
 ⟨h.keeps.then k.keeps (fun i hi e=>by rw [h.hue i hi] at e;exact e),fun i hi=>(k.hue i (vJ hi h.keeps.size)).trans (h.hue i hi)⟩
