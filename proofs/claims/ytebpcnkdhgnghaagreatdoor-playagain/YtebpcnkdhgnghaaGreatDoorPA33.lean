import Derived.Test.YtebpcnkdhgnghaaGreatDoorPA32
set_option linter.unusedSimpArgs false
set_option linter.unusedVariables false
set_option maxRecDepth 100000
set_option maxHeartbeats 64000000
namespace Go.Proofs.YtebpcnkdhgnghaaGreatDoor
open Go.Proofs.Tryz
variable {N:List aO} {G:List OpX} {B b bm i k n r:Nat} {ad:Nat→Addr} {st:Nat→DSt} {D:Nat→List OpX} {bp br d ow:Nat→Nat} {gd:Nat→Option Obj} {K:Nat→Rws} {dv:Nat→Value} {x:aO} {R R':Rws} {fv pv:Value} {w w':World}
section
open Go Go.RowKit Go.Lib
open scoped Classical
theorem lC (K:Nat->Rws) (a:Nat) (R':Rws):(fun r=>aX (aN K a R' r))=aN (fun r=>aX (K r)) a (aX R'):=by
 funext r
 unfold aN
 split<;>rfl
theorem gq (st:Nat->DSt) (a:Nat) (s:DSt):(fun r=>(aN st a s r).2.1)=aN (fun r=>(st r).2.1) a s.2.1:=by
 funext r
 unfold aN
 split<;>rfl
theorem fm {α:Type} (f:Nat->α) (a:Nat):aN f a (f a)=f:=by
 funext r
 unfold aN
 split
 ·rename_i e;rw [e]
 rfl
structure MeshI (n i:Nat) (G:List OpX) (K:Nat->Rws) (D:Nat->List OpX) (st:Nat->DSt) (N:List aO):Prop where
 inv:MInv n i G (fun r=>aX (K r)) D (fun r=>(st r).2.1)
 disk:∀r,r<n->DiskI (st r) (D r)
 notes:∀x∈N,(∀y∈Cd x,y∈G)/\(Cd x).length<=i
 rows:∀r,r<n->RowsK (K r)
section
variable {n i:Nat} {G:List OpX} {K:Nat→Rws} {D:Nat→List OpX} {st:Nat→DSt} {N:List aO}
theorem MeshI.up (h:MeshI n i G K D st N) {j:Nat} (hij:i<=j):MeshI n j G K D st N:=⟨h.inv.up hij,h.disk,fun x hx=>⟨(h.notes x hx).1,jM (h.notes x hx).2 hij⟩,h.rows⟩
theorem MeshI.fly (h:MeshI n i G K D st N) {N':List aO} (hN:∀x∈N',x∈N\/((∀y∈Cd x,y∈G)/\(Cd x).length<=i)):MeshI n i G K D st N':=⟨h.inv,h.disk,fun x hx=>(hN x hx).elim (h.notes x) id,h.rows⟩
theorem MeshI.len (h:MeshI n i G K D st N) (hr:r<n):(aX (K r)).length<=i:=h.inv.slen hr (h.rows r hr).num.nodup
theorem MeshI.time (h:MeshI n i G K D st N) {r:Nat} (hr:r<n) {T:Int} (hT:cD (aX (K r)) T):T<=(i:Int):=by
 rcases hT.2.1 with q | ⟨x,hx,q⟩
 ·omega
 have:=h.inv.time x (h.inv.sub r hr x hx);omega
theorem MeshI.dlen (h:MeshI n i G K D st N) {r:Nat} (hr:r<n):(D r).length<=i:=h.inv.dlen hr
theorem MeshI.blen (h:MeshI n i G K D st N) (hr:r<n) (hi:i<=200):(st r).1.length<=65536:=by
 have h1:=(h.disk r hr).len
 have h2:=h.dlen hr
 omega
theorem MeshI.dark (h:MeshI n i G K D st N) {a:Nat} {s:DSt} (hs:DiskI s (D a)) (ho:s.2.1=false->(st a).2.1=false):MeshI n i G K D (aN st a s) N:=by
 refine ⟨?_,fun r hr=> ?_,h.notes,h.rows⟩
 ·rw [gq]
  refine h.inv.dark (fun r hr e=> ?_)
  by_cases q:r=a
  ·subst q;rw [aR] at e;exact ho e
  rw [aK _ _ q] at e;exact e
 by_cases q:r=a
 ·subst q;rw [aR];exact hs
 rw [aK _ _ q];exact h.disk r hr
theorem MeshI.cut (h:MeshI n i G K D st N) {a:Nat} (ha:a<n) (m:Int):MeshI n i G K D (aN st a (kt (st a) m)) N:=by
 have:=(h.disk a ha).cut m
 exact h.dark this.1 (fun e=>by rw [<-this.2];exact e)
theorem MeshI.made (h:MeshI n i G K D st N) {a:Nat} (ha:a<n) {x:OpX} {T:Int} {R':Rws} {s:DSt} (ha4:a<4) (hT:cD (aX (K a)) T) (hx:NextOp (K a) a T x) (hon:(st a).2.1=false) (hs:DiskI s (D a++ [x])) (hso:s.2.1=false) (hR:RowsK R') (hm:∀y,y∈aX R'↔y=x\/y∈aX (K a)):MeshI n (i+1) (G++ [x]) (aN K a R') (aN D a (D a++ [x])) (aN st a s) N:=by
 have hw:=hx.well (h.rows a ha) ha4 hT.1
 refine ⟨?_,fun r hr=> ?_,fun y hy=>⟨fun z hz=>vg _ ((h.notes y hy).1 z hz),jM (h.notes y hy).2 zj⟩,fun r hr=> ?_⟩
 ·rw [lC,gq,hso]
  exact h.inv.made ha hon hx.by_ (by have:=hx.time;have:=h.time ha hT;omega) hw.1 hw.2 hm
 ·by_cases q:r=a
  ·subst q;rw [aR,aR];exact hs
  exact kl2
 by_cases q:r=a
 ·subst q;rw [aR];exact hR
 rw [aK _ _ q];exact h.rows r hr
theorem MeshI.heard (h:MeshI n i G K D st N) {a:Nat} (ha:a<n) {l F:List OpX} {R':Rws} {k:Nat} {s:DSt} (hl:∀x∈l,x∈G) (hm:∀x,x∈aX R'↔x∈aX (K a)\/x∈l) (hR:RowsK R') (hF:kL F) (hFn:F.Nodup) (hFm:∀x,x∈F↔x∈aX R'/\x∉aX (K a)) (hk0:(st a).2.1=true->k=0) (hko:s.2.1=false->(st a).2.1=false/\F.length<=k) (hs:DiskI s (D a++F.take k)):MeshI n i G (aN K a R') (aN D a (D a++F.take k)) (aN st a s) N:=by
 refine ⟨?_,fun r hr=> ?_,h.notes,fun r hr=> ?_⟩
 ·rw [lC,gq]
  exact h.inv.heard ha hl hm hR.well hF hFn hFm hk0 hko
 ·by_cases q:r=a
  ·subst q;rw [aR,aR];exact hs
  exact kl2
 by_cases q:r=a
 ·subst q;rw [aR];exact hR
 rw [aK _ _ q];exact h.rows r hr
theorem MeshI.boot (h:MeshI n i G K D st N) {a:Nat} (ha:a<n) {R':Rws} {s:DSt} (hm:∀x,x∈aX R'↔x∈D a) (hR:RowsK R') (hs:DiskI s (D a)) (ho:s.2.1=false):MeshI n i G (aN K a R') D (aN st a s) N:=by
 refine ⟨?_,fun r hr=> ?_,h.notes,fun r hr=> ?_⟩
 ·rw [lC,gq,ho]
  have:=h.inv.boot ha hm
  rwa [fm] at this
 ·by_cases q:r=a
  ·subst q;rw [aR];exact hs
  rw [aK _ _ q];exact h.disk r hr
 by_cases q:r=a
 ·subst q;rw [aR];exact hR
 rw [aK _ _ q];exact h.rows r hr
end
def KF (G S l:List OpX):Prop:=∃T:List OpX,WellK T/\(∀x∈T,x∈G)/\(∀x∈l,x∈T)/\∀x∈T,x∈S\/x∈l
def dY (R:Rws):Nat->Int:=fun i=>((R i).length:Int)
theorem Io (h:RowsK R) {x:OpX} (hx:x∈aX R):du (dY R) x=true:=by
 obtain ⟨i,hi,hb,hbn⟩:=kG (h.well.ok x hx)
 have:=Jf h.num hi hx hb
 unfold du dY
 have e:x.2.1.toNat=i:=hbn
 rw [e]
 exact decide_eq_true this
theorem Hj (h:RowsK R) {x:OpX} (he:bY x=0) (hc:∀y∈aX R,byO y=byO x->ah y=ah x->y=x) (hx:du (dY R) x=true):x∈aX R:=by
 obtain ⟨i,hi,hb,hbn⟩:=kG he
 have hp:=oG he
 unfold du dY at hx
 have e:x.2.1.toNat=i:=hbn
 rw [e] at hx
 have hle:ah x<=((R i).length:Int):=of_decide_eq_true hx
 have hj:(ah x - 1).toNat<(R i).length:=zj
 have hm:(R i)[(ah x - 1).toNat]∈R i:=List.getElem_mem hj
 have hg:=h.num i hi _ _ (jK hj)
 have:=hc _ (mem_allR.2 ⟨i,hi,hm⟩) (hg.1.trans hb.symm) (by have:=hg.2.1;omega)
 rw [<-this]
 exact mem_allR.2 ⟨i,hi,hm⟩
theorem pP (h:RowsK R) (h':RowsK R') (hc:Compat (aX R) (aX R')) {ys:List OpX} (hst:ae (aX R') ys):kL (ys.filter (fun x=> !du (dY R) x))/\(ys.filter (fun x=> !du (dY R) x)).Nodup/\∀x,x∈ys.filter (fun x=> !du (dY R) x)↔x∈aX R'/\x∉aX R:=by
 obtain ⟨hp,hb⟩:=bG hst
 refine ⟨hb.sublist List.filter_sublist,((hp.nodup_iff).2 h'.num.nodup).sublist List.filter_sublist,fun x=> ?_⟩
 rw [uN,hp.mem_iff]
 constructor
 ·rintro ⟨h1,h2⟩
  refine ⟨h1,fun q=> ?_⟩
  rw [Io h q] at h2
  cases h2
 rintro ⟨h1,h2⟩
 refine ⟨h1,?_⟩
 cases e:du (dY R) x with
 | false=>rfl
 | true=>exact absurd (Hj h (h'.well.ok x h1) (fun y hy=>hc y hy x h1) e) h2
end
section
open Go.RowKit Go.Lib Go.Sort Go.Maps
open scoped Classical
structure EnvM (B:Nat) (ad:Nat->Addr) (w:World):Prop where
 t:EnvT B ad w
 j:EnvJ B ad w
 cyc:Aside (Cyc ad)
theorem EnvM.mono {B:Nat} {ad:Nat->Addr} {w w':World} (h:EnvM B ad w) (hb:Below B w w'):EnvM B ad w':=⟨h.t.mono hb,h.j.mono hb,h.cyc⟩
theorem EnvM.later (h:EnvM B ad w) (hb:Below w.heap.size w w'):EnvM B ad w':=h.mono (hb.mono h.t.env.size)
theorem EnvM.up {B B':Nat} {ad:Nat->Addr} {w:World} (h:EnvM B ad w) (hB:B<=B') (hs:B'<=w.heap.size):EnvM B' ad w:=⟨h.t.up hB hs,h.j.up hB hs,h.cyc⟩
theorem aw {cd:Nat} (h:cd≠0):eV ad cd= .iface 450 (.pointer (some (ad (cd - 1)))):=if_neg h
def Oi (x:OpX):Prop:=x.2.2.2.2.2.2.1.size<=60/\x.2.2.2.2.2.2.2.size<=60/\x.2.2.2.1<256/\(-9223372036854775808<=aG x/\aG x<=9223372036854775807)/\(-9223372036854775808<=aF x/\aF x<=9223372036854775807)
def Oq (ow:Nat->Nat) (w:World) (ow':Nat->Nat) (w':World):Prop:=∀k,k<w.heap.size->ow k=0->ow' k=0/\w'.heap[k]? =w.heap[k]?
def OC (gd:Nat->Option Obj) (B n bm:Nat) (ow:Nat->Nat) (w:World) (K:Nat->Rws) (st:Nat->DSt) (N:List aO) (w':World):Prop:=∃ow' pv fv bp br d dv c,MeshAt gd B w' ow' n bm pv fv bp br d dv c K st N/\Oq ow w ow' w'
def DoX (K K':Nat->Rws) (st st':Nat->DSt) (a:Nat) (y0:OpX) (cd0:Nat) (y:OpX) (cd:Nat):Prop:=(cd0≠0/\cd=cd0/\y=aT/\K'=K/\st'=st)\/(cd0=0/\(dW (st a) y0).1≠0/\cd=(dW (st a) y0).1/\y=aT/\K'=K/\st'=aN st a (dW (st a) y0).2)\/(cd0=0/\(dW (st a) y0).1=0/\cd=0/\y=y0/\(∃R',K'=aN K a R'/\RowsK R'/\∀z,z∈aX R'↔z=y0\/z∈aX (K a))/\st'=aN st a (dW (st a) y0).2)
def OL (gd:Nat->Option Obj) (B n bm i:Nat) (ad:Nat->Addr) (ow:Nat->Nat) (G:List OpX) (K:Nat->Rws) (st:Nat->DSt) (N:List aO) (a:Nat) (P:OpX->Nat->Prop) (w:World) (e:Ending) (w':World):Prop:=∃(y:OpX) (cd:Nat) (G':List OpX) (K':Nat->Rws) (D':Nat->List OpX) (st':Nat->DSt),e= .returned (.tuple #[ar y,eV ad cd])/\Aside (OC gd B n bm ow w K' st' N w'/\Below B w w'/\MeshI n (i+1) G' K' D' st' N/\(∀r,r<n->∀x∈aX (K r),x∈aX (K' r))/\((cd≠0/\G'=G)\/(cd=0/\G'=G++ [y]/\byO y=(a:Int)))/\∃y0 cd0,P y0 cd0/\(cd0=0->(st a).2.1=false->(st a).2.2.1=false->cd=0/\y=y0)/\(∀r,r≠a->K' r=K r/\st' r=st r)/\DoX K K' st st' a y0 cd0 y cd)
theorem NX {c:Nat->Nat->Nat} (w:World) (a:Nat) (x:OpX) (h:MeshAt gd B w ow n bm pv fv bp br d dv c K st N) (hI:MeshI n i G K D st N) (hE:EnvM B ad w) (ha:a<n) (hi:i<=155) (P:OpX->Nat->Prop) (hnx0:∀U,Below w.heap.size w U->Calls prog 270 #[.pointer (some ⟨bp a,0,none⟩),ar x] U (IR ad U (K a) a P)):
  Calls prog 212 #[.pointer (some ⟨bp a,0,none⟩),ar x] w (OL gd B n bm i ad ow G K st N a P w):=by
 obtain ⟨t,b,m,kd,nd,o,s,v⟩:=x
 have ha4:a<4:=jW ha h.few
 obtain ⟨S,hS⟩:=za w.heap.size
 obtain ⟨U,hU⟩:=za ((w.alloc (.cells #[.int .i64 t,.int .i64 b,.int .i64 m,.int .u8 (kd:Int),.int .i64 nd,.int .i64 o,.string s,.string v] 61)).alloc (.cells #[.int .i64 0,.int .i64 0,.int .i64 0,.int .u8 0,.int .i64 0,.int .i64 0,.string ⟨#[]⟩,.string ⟨#[]⟩] 61))
 have hbU:Below w.heap.size w U:=zH
 have O0:OpBlk U S (t,b,m,kd,nd,o,s,v):=yO
 have Z0:OpBlk U (S+1) aT:=by
  rw [hU,hS]
  have:=OpBlk.new (w.alloc (.cells #[.int .i64 t,.int .i64 b,.int .i64 m,.int .u8 (kd:Int),.int .i64 nd,.int .i64 o,.string s,.string v] 61)) aT
  exact kc8
 obtain ⟨j0,j1,j2,j3,j4,j5,j6,j7,-⟩:=O0.cells
 dsimp only at j0 j1 j2 j3 j4 j5 j6 j7
 have hUm:=h.later hbU
 have hnx:=hnx0 U hbU
 unfold ar at hnx
 dsimp only at hnx
 have H0:Aside (U=(w.alloc (.cells #[.int .i64 t,.int .i64 b,.int .i64 m,.int .u8 (kd:Int),.int .i64 nd,.int .i64 o,.string s,.string v] 61)).alloc (.cells #[.int .i64 0,.int .i64 0,.int .i64 0,.int .u8 0,.int .i64 0,.int .i64 0,.string ⟨#[]⟩,.string ⟨#[]⟩] 61)/\OpBlk U (S+1) aT/\Below w.heap.size w U/\S=w.heap.size):=⟨hU,Z0,hbU,hS⟩
 have HM:Aside (MeshAt gd B w ow n bm pv fv bp br d dv c K st N/\MeshI n i G K D st N/\EnvM B ad w):=⟨h,hI,hE⟩
 clear hU hbU hS O0 Z0 hUm h hI hE hnx0
 unfold ar
 dsimp only
 go_enter func212,ntmps212
 go_upto_region 1 with fail
 rw [<-H0.o.1,<-H0.o.2.2.2]
 go_wp2_with fail
 refine hnx.mono ?_
 clear hnx j0 j1 j2 j3 j4 j5 j6 j7
 rintro e w2 ⟨⟨t',b',m',kd',nd',o',s',v'⟩,cd,rfl,H2,HP⟩
 unfold ar
 dsimp only
 obtain ⟨y,hy⟩:∃y:OpX,Aside (y=(t',b',m',kd',nd',o',s',v')):=⟨_,rfl⟩
 obtain ⟨V,hV⟩:=ze (w2.alloc (.cells #[.int .i64 t',.int .i64 b',.int .i64 m',.int .u8 (kd':Int),.int .i64 nd',.int .i64 o',.string s',.string v'] 61))
 obtain ⟨M,hM⟩:=ze w2.heap.size
 have hbw2:Below w.heap.size w w2:=zi H0.o.2.2.1 H2.o.1
 have hbV:Below w.heap.size w V:=by rw [hV.o];exact hbw2.alloc hbw2.size _
 have OY:OpBlk V M y:=by rw [hV.o,hM.o,hy.o];exact OpBlk.new w2 (t',b',m',kd',nd',o',s',v')
 have Z2:=H0.o.2.1.later H2.o.1
 have ZV:OpBlk V (S+1) aT:=by
  rw [hV.o]
  exact (jV _ _ _ Z2.lt).trans Z2
 have HV:Aside (Below w.heap.size w V/\OpBlk V M y/\OpBlk V (S+1) aT/\S+1<M/\w.heap.size<=M):=⟨hbV,OY,ZV,by have:=Z2.lt;rw [hM.o];exact this,by have:=hbw2.size;rw [hM.o];exact this⟩
 obtain ⟨z0,z1,z2,z3,z4,z5,z6,z7,zf⟩:=ZV.cells
 unfold aT at z0 z1 z2 z3 z4 z5 z6 z7
 dsimp only at z0 z1 z2 z3 z4 z5 z6 z7
 clear hbw2 hbV OY ZV Z2
 by_cases hcd:cd=0
 ·subst hcd
  obtain ⟨T,hT,hnext⟩:∃T,cD (aX (K a)) T/\NextOp (K a) a T y:=by
   rw [hy.o]
   rcases H2.o.2.2 with ⟨q,_⟩ | ⟨_,q⟩
   ·exact absurd rfl q
   exact q
  have HN:Aside (cD (aX (K a)) T/\NextOp (K a) a T y):=⟨hT,hnext⟩
  have hbD:Below w.heap.size w V.drew:=HV.o.1.drew
  have hVm:=HM.o.1.later hbD
  have hsz:=lV (l:=[y]) (fun z hz=>by rw [jS.1 hz];exact hnext.ok) y zq
  have happ:=nJ V.drew y (hVm.disk a ha).1 (HM.o.2.2.later hbD).j (fun k hk=>hVm.low k (by rw [(hVm.disk a ha).2 k hk];omega)) hsz.1 hsz.2 (HM.o.2.1.blen ha zj)
  have hst:=(HM.o.2.1.disk a ha).app (hVm.disk a ha).1.left.1 (by have:=HM.o.2.1.dlen ha;omega) hnext.ok
  obtain ⟨cd2,s2,hcs⟩:∃cd2 s2,Aside (dW (st a) y=(cd2,s2)):=⟨(dW (st a) y).1,(dW (st a) y).2,rfl⟩
  rw [hcs.o] at happ hst
  dsimp only at happ hst
  have HST:Aside ((cd2=0/\(st a).2.1=false/\s2.2.1=false/\DiskI s2 (D a++ [y]))\/(cd2=11/\s2.2.1=true/\DiskI s2 (D a))):=hst
  have HFR:Aside ((st a).2.1=false->(st a).2.2.1=false->cd2=0):=fun f1 f2=>by
   have hB0:=(HM.o.2.1.disk a ha).len
   have hDl:=HM.o.2.1.dlen ha
   have htx:=fg hnext.ok
   have hrl:=bB (aA y)
   have hc:=hcs.o
   obtain ⟨sq,hsq⟩:∃sq:DSt,sq=st a:=⟨_,rfl⟩
   rw [<-hsq] at f1 f2 hB0 hc
   obtain ⟨B0,off0,wt0,lf0⟩:=sq
   dsimp only at f1 f2 hB0
   subst f1
   subst f2
   rw [lU hnext.ok zj] at hc
   cases hc
   rfl
  have SD:PeerC V.drew (bp a) (br a) (d a)/\OpBlk V.drew M y:=⟨(hVm.peer a ha).1,HV.o.2.1⟩
  have HVM:Aside (MeshAt gd B V.drew ow n bm pv fv bp br d dv c K st N/\OpBlk V.drew (S+1) aT/\Below w.heap.size w V.drew/\ow M=0/\ow (S+1)=0):=⟨hVm,HV.o.2.2.1,hbD,HM.o.1.high M HV.o.2.2.2.2,HM.o.1.high (S+1) yE⟩
  clear hT hnext hsz hst hVm hbD
  rw [hy.o] at happ
  unfold tg at happ
  dsimp only at happ
  rw [show eV ad 0= .nilIface from rfl]
  go_upto_region 4 with fail
  rw [<-hV.o,<-hM.o]
  refine aM (S:=(fun w'=>PeerC w' (bp a) (br a) (d a)/\OpBlk w' M y)) zk SD (fun hHeld=> ?_)
  refine tk 0 hHeld ?_
  refine tk 1 hHeld ?_
  refine tk 2 hHeld ?_
  refine tk 3 hHeld ?_ (hy:=Or.inl ⟨zt,qr⟩)
  refine tk 4 hHeld ?_ (hy:=Or.inl ⟨zt,yb⟩)
  refine aZ (i:=5) zk rfl (fun kQ hK=> ?_)
  go_simp
  refine happ.mono ?_
  clear happ
  rintro e w5 ⟨rfl,H5⟩
  obtain ⟨dv',hm5,hk5⟩:=HVM.o.1.diskAct ha H5.o
  have S5:PeerC w5 (bp a) (br a) (d a)/\OpBlk w5 M y:=⟨(hm5.peer a ha).1,(hk5.block M HV.o.2.1.lt (fun q=>by have q':ow M=20+a:=q;rw [HVM.o.2.2.2.1] at q';omega)).trans HV.o.2.1⟩
  have Z5:OpBlk w5 (S+1) aT:=(hk5.block (S+1) HV.o.2.2.1.lt (fun q=>by have q':ow (S+1)=20+a:=q;rw [HVM.o.2.2.2.2] at q';omega)).trans HV.o.2.2.1
  have hb5:Below B w w5:=(HVM.o.2.2.1.mono HM.o.1.base).trans (HVM.o.1.below hk5 (fun k e=>by have e':ow k=20+a:=e;omega))
  have H5M:Aside (MeshAt gd B w5 (aD ow V.drew w5 (20+a)) n bm pv fv bp br d (aN dv a dv') c K (aN st a s2) N/\Below B w w5/\aD ow V.drew w5 (20+a) M=0/\aD ow V.drew w5 (20+a) (S+1)=0/\Oq ow w (aD ow V.drew w5 (20+a)) w5):=⟨hm5,hb5,(bT HV.o.2.1.lt).trans HVM.o.2.2.2.1,(bT HV.o.2.2.1.lt).trans HVM.o.2.2.2.2,fun k hk e=>by
   have hkV:=jW hk HVM.o.2.2.1.size
   exact ⟨(bT hkV).trans e,(hk5.block k hkV (fun q=>by have q':ow k=20+a:=q;omega)).trans (HVM.o.2.2.1.block k hk)⟩⟩
  refine hK _ _ S5 ?_
  clear hK kQ hm5 hk5 hb5 SD
  refine qn ?_
  refine aZ (i:=6) zk rfl (fun kQ hK=> ?_)
  go_simp
  refine hK _ _ S5 ?_
  clear hK kQ
  refine wpAnyH_done zk ?_ _
  refine qn ?_
  obtain ⟨ow5,how5⟩:∃f,Aside (f=aD ow V.drew w5 (20+a)):=⟨_,rfl⟩
  rw [<-how5.o] at H5M
  clear z0 z1 z2 z3 z4 z5 z6 z7 zf
  obtain ⟨z0,z1,z2,z3,z4,z5,z6,z7,zf⟩:=Z5.cells
  unfold aT at z0 z1 z2 z3 z4 z5 z6 z7
  dsimp only at z0 z1 z2 z3 z4 z5 z6 z7
  have HZ5:Aside (OpBlk w5 (S+1) aT/\PeerC w5 (bp a) (br a) (d a)/\OpBlk w5 M y):=⟨Z5,S5.1,S5.2⟩
  clear Z5 S5 H5
  rcases HST.o with ⟨rfl,hon,hso,hdi⟩ | ⟨rfl,hso,hdi⟩
  ·have HD:Aside ((st a).2.1=false/\s2.2.1=false/\DiskI s2 (D a++ [y])):=⟨hon,hso,hdi⟩
   clear hon hso hdi z0 z1 z2 z3 z4 z5 z6 z7 zf
   rw [show eV ad 0= .nilIface from rfl]
   obtain ⟨X,hX⟩:=ze ((w5.alloc (.cells #[.int .i64 t',.int .i64 b',.int .i64 m',.int .u8 (kd':Int),.int .i64 nd',.int .i64 o',.string s',.string v'] 61)).drew)
   have hbX:Below w5.heap.size w5 X:=by rw [hX.o];exact (zh w5 _).drew
   have hinX:OpsIn X (some ⟨w5.heap.size,0,none⟩) [y]:=by
    refine .inr ⟨w5.heap.size,0,rfl,fun j u hj=> ?_⟩
    rw [hX.o]
    have:=dN w5 (t',b',m',kd',nd',o',s',v') 61 j u (by rw [hy.o] at hj;simpa [cellsOf,aB] using hj)
    rw [Addr.add_lit] at this
    exact this
   have hmX:=H5M.o.1.later hbX
   have hjn:=BP X (c a) (br a) a (K a) (some ⟨w5.heap.size,0,none⟩) 1 T y (hmX.rep a ha).1 ((HM.o.2.2.mono H5M.o.2.1).later hbX).t ha4 hinX HN.o.2 HN.o.1.1 (by have:=HM.o.2.1.len ha;omega)
   have HX:Aside (MeshAt gd B X ow5 n bm pv fv bp br d (aN dv a dv') c K (aN st a s2) N/\OpBlk X (S+1) aT/\PeerC X (bp a) (br a) (d a)/\OpBlk X M y/\Below B w X/\Below w5.heap.size w5 X):=⟨hmX,HZ5.o.1.later hbX,(hmX.peer a ha).1,HZ5.o.2.2.later hbX,H5M.o.2.1.trans (hbX.mono H5M.o.1.base),hbX⟩
   have SD7:PeerC w5.drew (bp a) (br a) (d a)/\OpBlk w5.drew M y:=HZ5.o.2
   have SX:PeerC X (bp a) (br a) (d a)/\OpBlk X M y:=⟨HX.o.2.2.1,HX.o.2.2.2.1⟩
   clear hbX hinX hmX
   go_upto_region 7 with fail
   refine aM (S:=(fun w'=>PeerC w' (bp a) (br a) (d a)/\OpBlk w' M y)) zk SD7 (fun hHeld=> ?_)
   refine tk 0 hHeld ?_
   refine tk 1 hHeld ?_
   refine tk 2 hHeld ?_
   refine tk 3 hHeld ?_ (hy:=Or.inl ⟨zt,zB⟩)
   refine tk 4 hHeld ?_ (hy:=Or.inl ⟨zt,yb⟩)
   refine aZ (i:=5) zk rfl (fun kQ hK=> ?_)
   go_simp
   rw [<-hX.o]
   refine hK _ _ SX ?_
   clear hK kQ hHeld
   refine qn ?_
   refine aZ (i:=6) zk rfl (fun kQ hK=> ?_)
   go_simp
   refine hjn.mono ?_
   clear hjn
   rintro e w6 ⟨c',R',rfl,hA,hR',hmem,hlen⟩
   obtain ⟨hm6,hk6⟩:=HX.o.1.repAct ha hA hR'
   have k0:∀k,k<X.heap.size->ow5 k=0->w6.heap[k]? =X.heap[k]? :=fun k hk e=>hk6.block k hk (fun q=>by have q':ow5 k=10+a:=q;rw [e] at q';omega)
   have S6:PeerC w6 (bp a) (br a) (d a)/\OpBlk w6 M y:=⟨(hm6.peer a ha).1,(k0 M HX.o.2.2.2.1.lt H5M.o.2.2.1).trans HX.o.2.2.2.1⟩
   have Z6:OpBlk w6 (S+1) aT:=(k0 (S+1) HX.o.2.1.lt H5M.o.2.2.2.1).trans HX.o.2.1
   have H6:Aside (MeshAt gd B w6 (aD ow5 X w6 (10+a)) n bm pv fv bp br d (aN dv a dv') (aN c a c') (aN K a R') (aN st a s2) N/\Below B w w6/\aD ow5 X w6 (10+a) (S+1)=0/\RowsK R'/\(∀z,z∈aX R'↔z=y\/z∈aX (K a))/\Oq ow w (aD ow5 X w6 (10+a)) w6):=⟨hm6,HX.o.2.2.2.2.1.trans (HX.o.1.below hk6 (fun k e=>by have e':ow5 k=10+a:=e;omega)),(bT HX.o.2.1.lt).trans H5M.o.2.2.2.1,hR'.wellK,hmem,fun k hk e=>by
    obtain ⟨e5,b5⟩:=H5M.o.2.2.2.2 k hk e
    have hk5:k<w5.heap.size:=jW hk H5M.o.2.1.size
    have hkX:=jW hk5 HX.o.2.2.2.2.2.size
    exact ⟨(bT hkX).trans e5,((k0 k hkX e5).trans (HX.o.2.2.2.2.2.block k hk5)).trans b5⟩⟩
   have hHeld:=S6
   refine hK _ _ S6 ?_
   clear hK kQ hm6 hk6 k0 hA hR' hmem hlen SX SD7
   refine qn ?_
   refine tk 7 hHeld ?_
   refine tk 8 hHeld ?_
   refine tk 9 hHeld ?_
   refine tk 10 hHeld ?_
   refine aZ (i:=11) zk rfl (fun kQ hK=> ?_)
   go_simp
   refine hK _ _ S6 ?_
   clear hK kQ
   refine wpAnyH_done zk ?_ _
   refine qn ?_
   have Y6:=S6.2
   rw [hy.o] at Y6
   obtain ⟨q0,q1,q2,q3,q4,q5,q6,q7,-⟩:=Y6.cells
   dsimp only at q0 q1 q2 q3 q4 q5 q6 q7
   obtain ⟨z0,z1,z2,z3,z4,z5,z6,z7,zf⟩:=Z6.cells
   unfold aT at z0 z1 z2 z3 z4 z5 z6 z7
   dsimp only at z0 z1 z2 z3 z4 z5 z6 z7
   clear Y6 Z6 S6 hHeld
   go_wp2
   (try simp only [Exit.inBlock,Exit.then])
   refine bodyPost_ret (v:=.tuple #[.agg #[.int .i64 t',.int .i64 b',.int .i64 m',.int .u8 (kd':Int),.int .i64 nd',.int .i64 o',.string s',.string v'],.nilIface]) ?_ rfl ?_
   ·exact kc4
   have hk7:=aY (S+1) [.int .i64 t',.int .i64 b',.int .i64 m',.int .u8 (kd':Int),.int .i64 nd',.int .i64 o',.string s',.string v'] 0 w6
   refine ⟨(t',b',m',kd',nd',o',s',v'),0,G++ [y],aN K a R',aN D a (D a++ [y]),aN st a s2,rfl,⟨_,_,_,_,_,_,_,_,H6.o.1.still hk7 (fun k e=>by have e':k=S+1:=e;rw [e'];exact H6.o.2.2.1),fun k hk e=>⟨(H6.o.2.2.2.2.2 k hk e).1,(hk7.block k (jW hk H6.o.2.1.size) (fun q=>yX)).trans (H6.o.2.2.2.2.2 k hk e).2⟩⟩,H6.o.2.1.trans (hk7.below (jM HM.o.1.base H6.o.2.1.size) (fun k e=>yt)),HM.o.2.1.made ha ha4 HN.o.1 HN.o.2 HD.o.1 HD.o.2.2 HD.o.2.1 H6.o.2.2.2.1 H6.o.2.2.2.2.1,fun r hr x hx=> ?_,.inr ⟨rfl,by rw [hy.o],by have:=HN.o.2.by_;rw [hy.o] at this;exact this⟩,_,_,HP.o,fun _ _ _=>⟨rfl,rfl⟩,fun r hr=>⟨aK _ _ hr,aK _ _ hr⟩,.inr (.inr ⟨rfl,by rw [<-hy.o,hcs.o],rfl,rfl,⟨R',rfl,H6.o.2.2.2.1,fun z=>by rw [<-hy.o];exact H6.o.2.2.2.2.1 z⟩,by rw [<-hy.o,hcs.o]⟩)⟩
   by_cases q:r=a
   ·subst q;rw [aR];exact (H6.o.2.2.2.2.1 x).2 (.inr hx)
   rw [aK _ _ q];exact hx
  have HD:Aside (s2.2.1=true/\DiskI s2 (D a)):=⟨hso,hdi⟩
  clear hso hdi
  rw [aw (show (11:Nat)≠0 by omega)]
  go_wp2
  (try simp only [Exit.inBlock,Exit.then])
  refine bodyPost_ret (v:=.tuple #[.agg #[.int .i64 0,.int .i64 0,.int .i64 0,.int .u8 0,.int .i64 0,.int .i64 0,.string ⟨#[]⟩,.string ⟨#[]⟩],.iface 450 (.pointer (some (ad (11 - 1))))]) ?_ rfl ?_
  ·exact kc4
  have hk7:=aY (S+1) [.int .i64 0,.int .i64 0,.int .i64 0,.int .u8 0,.int .i64 0,.int .i64 0,.string ⟨#[]⟩,.string ⟨#[]⟩] 0 w5
  exact ⟨aT,11,G,K,D,aN st a s2,rfl,⟨_,_,_,_,_,_,_,_,H5M.o.1.still hk7 (fun k e=>by have e':k=S+1:=e;rw [e'];exact H5M.o.2.2.2.1),fun k hk e=>⟨(H5M.o.2.2.2.2 k hk e).1,(hk7.block k (jW hk H5M.o.2.1.size) (fun q=>yX)).trans (H5M.o.2.2.2.2 k hk e).2⟩⟩,H5M.o.2.1.trans (hk7.below (jM HM.o.1.base H5M.o.2.1.size) (fun k e=>yt)),(HM.o.2.1.dark HD.o.2 (fun e=>by rw [HD.o.1] at e;cases e)).up zj,fun r hr x hx=>hx,.inl ⟨zj,rfl⟩,_,_,HP.o,fun _ f1 f2=>absurd (HFR.o f1 f2) zj,fun r hr=>⟨rfl,aK _ _ hr⟩,.inr (.inl ⟨rfl,by rw [<-hy.o,hcs.o];show (11:Nat)≠0;omega,by rw [<-hy.o,hcs.o],rfl,rfl,by rw [<-hy.o,hcs.o]⟩)⟩
 obtain ⟨er,her⟩:=ze (ad (cd - 1))
 have HB:Aside (cd≠0):=hcd
 rw [aw hcd,<-her.o]
 clear hcd
 go_upto_region 3 with fail
 rw [<-hV.o,<-hM.o]
 go_wp2
 (try simp only [Exit.inBlock,Exit.then])
 refine bodyPost_ret (v:=.tuple #[.agg #[.int .i64 0,.int .i64 0,.int .i64 0,.int .u8 0,.int .i64 0,.int .i64 0,.string ⟨#[]⟩,.string ⟨#[]⟩],.iface 450 (.pointer (some er))]) ?_ rfl ?_
 ·exact kc4
 have hk7:=aY (S+1) [.int .i64 0,.int .i64 0,.int .i64 0,.int .u8 0,.int .i64 0,.int .i64 0,.string ⟨#[]⟩,.string ⟨#[]⟩] 0 V
 have hVm:=HM.o.1.later HV.o.1
 have hbV:=HV.o.1.mono HM.o.1.base
 exact ⟨aT,cd,G,K,D,st,by rw [aw HB.o,<-her.o];rfl,⟨_,_,_,_,_,_,_,_,hVm.still hk7 (fun k e=>by have e':k=S+1:=e;rw [e'];exact HM.o.1.high _ yE),fun k hk e=>⟨e,(hk7.block k (jW hk HV.o.1.size) (fun q=>yX)).trans (HV.o.1.block k hk)⟩⟩,hbV.trans (hk7.below hVm.base (fun k e=>yt)),HM.o.2.1.up zj,fun r hr x hx=>hx,.inl ⟨HB.o,rfl⟩,_,_,HP.o,fun q=>absurd q HB.o,fun r hr=>⟨rfl,rfl⟩,.inl ⟨HB.o,rfl,rfl,rfl,rfl⟩⟩
end
section
open Go.RowKit Go.Lib Go.Sort Go.Maps
open scoped Classical
def NtBlk (w:World) (b:Nat) (x:aO):Prop:=w.heap[b]? =some (.cells #[.int .i64 (x.1:Int),.int .i64 (x.2.1:Int),.bool x.2.2.1,.int .i64 (x.2.2.2.1 0),.int .i64 (x.2.2.2.1 1),.int .i64 (x.2.2.2.1 2),.int .i64 (x.2.2.2.1 3),lE x] 175 (0,0))
theorem NtBlk.lt (h:NtBlk w b x):b<w.heap.size:=(jJ.1 h).1
theorem NtBlk.same (h:NtBlk w b x) (e:w'.heap[b]? =w.heap[b]?):NtBlk w' b x:=e.trans h
theorem NtBlk.later (h:NtBlk w b x) (hb:Below w.heap.size w w'):NtBlk w' b x:=h.same (hb.block b h.lt)
theorem NtBlk.new (w:World) (x:aO):NtBlk (w.alloc (.cells #[.int .i64 (x.1:Int),.int .i64 (x.2.1:Int),.bool x.2.2.1,.int .i64 (x.2.2.2.1 0),.int .i64 (x.2.2.2.1 1),.int .i64 (x.2.2.2.1 2),.int .i64 (x.2.2.2.1 3),lE x] 175)) w.heap.size x:=heap_alloc_new w _
theorem NtBlk.cells (h:NtBlk w b x):w.cell? ⟨b,0,none⟩=some (.int .i64 (x.1:Int))/\w.cell? ⟨b,1,none⟩=some (.int .i64 (x.2.1:Int))/\w.cell? ⟨b,2,none⟩=some (.bool x.2.2.1)/\w.cell? ⟨b,3,none⟩=some (.int .i64 (x.2.2.2.1 0))/\w.cell? ⟨b,4,none⟩=some (.int .i64 (x.2.2.2.1 1))/\w.cell? ⟨b,5,none⟩=some (.int .i64 (x.2.2.2.1 2))/\w.cell? ⟨b,6,none⟩=some (.int .i64 (x.2.2.2.1 3))/\w.cell? ⟨b,7,none⟩=some (lE x)/\∀o,w.frozen? ⟨b,o,none⟩=false:=by
 unfold NtBlk at h
 exact km3
def Jn (x:aO):Value:=.agg #[.int .i64 (x.1:Int),.int .i64 (x.2.1:Int),.bool x.2.2.1,.int .i64 (x.2.2.2.1 0),.int .i64 (x.2.2.2.1 1),.int .i64 (x.2.2.2.1 2),.int .i64 (x.2.2.2.1 3),lE x]
theorem Jb:(prog.info? 175).map (fun i=>(i.zero,i.size,i.bytes))=some (some (.agg #[.int .i64 0,.int .i64 0,.bool false,.int .i64 0,.int .i64 0,.int .i64 0,.int .i64 0,.slice none 0 0]),8,80):=zk
theorem pX {c:Nat->Nat->Nat} (w:World) (x:aO) (h:MeshAt gd B w ow n bm pv fv bp br d dv c K st N) (hE:EnvM B ad w) (hx:NoteIn w ow n x):
  Calls prog 89 #[.pointer (some ⟨bm,0,none⟩),Jn x] w fun e w'=>(30<=N.length/\e= .returned (eV ad 8)/\Aside (Below w.heap.size w w'))\/(N.length<30/\e= .returned .nilIface/\Aside (∃fv' ow',MeshAt gd B w' ow' n bm pv fv' bp br d dv c K st (N++ [x])/\Below B w w')):=by
 obtain ⟨i0,hi,hz0,hz1,hz2⟩:=info_parts Jb
 obtain ⟨x1,x2,x3,x4,x5,x6,x7⟩:=x
 obtain ⟨x,hxe⟩:∃x:aO,Aside (x=(x1,x2,x3,x4,x5,x6,x7)):=⟨_,rfl⟩
 obtain ⟨Q,hQ⟩:=ze w.heap.size
 obtain ⟨U,hU⟩:=ze (w.alloc (.cells #[.int .i64 (x1:Int),.int .i64 (x2:Int),.bool x3,.int .i64 (x4 0),.int .i64 (x4 1),.int .i64 (x4 2),.int .i64 (x4 3),.slice x5 x7.length x6] 175))
 have hbU:Below w.heap.size w U:=yg
 have XU:NtBlk U Q x:=by rw [hU.o,hQ.o,hxe.o];exact NtBlk.new w (x1,x2,x3,x4,x5,x6,x7)
 have hmU:=h.later hbU
 have m1:=hmU.mesh.c1
 obtain ⟨fo,fc,hfv⟩:=dV h.fly
 have HM:Aside (MeshAt gd B w ow n bm pv fv bp br d dv c K st N/\EnvM B ad w/\NoteIn w ow n x/\MeshAt gd B U ow n bm pv fv bp br d dv c K st N/\Below w.heap.size w U/\NtBlk U Q x):=⟨h,hE,by rw [hxe.o];exact hx,hmU,hbU,XU⟩
 have ef:=(hE.later hbU).t.env.c7
 subst hfv
 unfold Jn lE
 dsimp only
 clear h hE hx hbU hmU XU
 by_cases hlen:30<=N.length
 ·have d1:decide ((30:Int)<=(N.length:Int))=true:=by simp;omega
  have d1n:decide (30<=N.length)=true:=zl
  go_enter func89,ntmps89
  go_upto_region 1 with fail
  rw [<-hU.o,<-hQ.o]
  go_wp2
  go_ret
  exact .inl ⟨hlen,rfl,HM.o.2.2.2.2.1⟩
 have d1:decide ((30:Int)<=(N.length:Int))=false:=zl
 have d1n:decide (30<=N.length)=false:=zl
 obtain ⟨X,hX⟩:=ze ((U.alloc (.cells #[.int .i64 (x1:Int),.int .i64 (x2:Int),.bool x3,.int .i64 (x4 0),.int .i64 (x4 1),.int .i64 (x4 2),.int .i64 (x4 3),.slice x5 x7.length x6] 175)).drew)
 have hbX:Below U.heap.size U X:=by rw [hX.o];exact (zh U _).drew
 have hmX:=HM.o.2.2.2.1.later hbX
 have hXc:X.heap[U.heap.size]? =some (.cells #[.int .i64 (x1:Int),.int .i64 (x2:Int),.bool x3,.int .i64 (x4 0),.int .i64 (x4 1),.int .i64 (x4 2),.int .i64 (x4 3),.slice x5 x7.length x6] 175 (0,0)):=by rw [hX.o];exact heap_alloc_new U _
 obtain ⟨v2,w2,hrun,hown,hgrow,hcase⟩:=dZ (P:=prog) X B 91 91 175 i0 _ 8 80 underlying91 hi hz0 hz1 hz2 rfl zj (.slice fo N.length fc) N.length (aB bD N) hmX.fly ⟨U.heap.size,0,none⟩ 1 1 zj (bD x) (by rw [bw])
  (by rw [hxe.o];exact ui (cs:= #[.int .i64 (x1:Int),.int .i64 (x2:Int),.bool x3,.int .i64 (x4 0),.int .i64 (x4 1),.int .i64 (x4 2),.int .i64 (x4 3),.slice x5 x7.length x6]) (t:=175) (fr:=(0,0)) hXc) (rS x) zu zj hmX.base
 have hown':w2.ownsRow B 175 8 v2 (N++ [x]).length (aB bD (N++ [x])):=by
  rw [jP]
  have e:aB bD (N++ [x])=aB bD N++bD x:=by simp [aB]
  rw [e]
  exact hown
 have hkU:Keeps (fun k=>some k=(Value.slice fo N.length fc).ownBlock) U w2:=((aV hbX).mono (fun k hk q=>absurd hk (by have q':U.heap.size<=k:=q;omega))).then (aP hgrow) (fun k _ q=>q)
 have hnU:NoteIn U ow n x:=HM.o.2.2.1.later HM.o.2.2.2.2.1
 obtain ⟨hmF,hkF⟩:=HM.o.2.2.2.1.flyAct (v:=v2) (N':=N++ [x]) hkU hown' (fun g hg=>by
  rcases hcase with ⟨g',cp,e1,e2⟩ | ⟨e1,_⟩
  ·left
   rw [e2] at hg
   rw [e1]
   exact hg
  ·right
   rw [hg] at e1
   cases e1
   exact hbX.size) (fun y hy=>by
  rcases jO.1 hy with q | q
  ·exact HM.o.2.2.2.1.notes y q
  ·rw [jS.1 q];exact hnU)
 have HF:Aside (MeshAt gd B (w2.setCell ⟨bm,1,none⟩ v2) (aD ow U w2 3) n bm pv v2 bp br d dv c K st (N++ [x])/\Below B w (w2.setCell ⟨bm,1,none⟩ v2)):=⟨hmF,(HM.o.2.2.2.2.1.mono HM.o.1.base).trans (HM.o.2.2.2.1.below hkF (fun k e=>xh))⟩
 have kbm:∀ {b:Nat},b<U.heap.size->ow b≠3->w2.heap[b]? =U.heap[b]? :=fun {b} hb ho=>hkU.block b hb (fun q=>ho (HM.o.1.of b (Eq.symm q)))
 have SU:MeshC U.drew bm pv (.slice fo N.length fc)/\NtBlk U.drew Q x:=⟨HM.o.2.2.2.1.mesh,HM.o.2.2.2.2.2⟩
 have SX:MeshC X bm pv (.slice fo N.length fc)/\NtBlk X Q x:=⟨hmX.mesh,HM.o.2.2.2.2.2.later hbX⟩
 have S2:MeshC w2 bm pv (.slice fo N.length fc)/\NtBlk w2 Q x:=⟨(kbm HM.o.2.2.2.1.mesh.lt (by rw [HM.o.1.om];omega)).trans HM.o.2.2.2.1.mesh,HM.o.2.2.2.2.2.same (kbm HM.o.2.2.2.2.2.lt (by rw [HM.o.1.high Q (by rw [hQ.o];exact jL _)];omega))⟩
 have n1:=S2.1.c1
 have nf:=S2.1.fz 1
 obtain ⟨g2,cp2,hv2⟩:∃g cap,v2= .slice (some ⟨g,0,none⟩) (N.length+1) cap:=by
  rcases hown.2 with ⟨_,q⟩ | ⟨g,cap,cur,q,_⟩
  ·omega
  exact ⟨g,cap,q⟩
 subst hv2
 have HFS:Aside (∃fv' ow',MeshAt gd B (w2.setCell ⟨bm,1,none⟩ (.slice (some ⟨g2,0,none⟩) (N.length+1) cp2)) ow' n bm pv fv' bp br d dv c K st (N++ [(x1,x2,x3,x4,x5,x6,x7)])/\Below B w (w2.setCell ⟨bm,1,none⟩ (.slice (some ⟨g2,0,none⟩) (N.length+1) cp2))):=⟨_,_,by rw [<-hxe.o];exact HF.o.1,HF.o.2⟩
 clear hbX hmX hXc hown hown' hgrow hcase hkU hnU hmF hkF HF kbm
 go_enter func89,ntmps89
 go_upto_region 1 with fail
 rw [<-hU.o,<-hQ.o]
 go_upto_region 3 with fail
 refine bJ (S:=(fun w'=>MeshC w' bm pv (.slice fo N.length fc)/\NtBlk w' Q x)) (z:=10) zk SU (fun hHeld=> ?_)
 refine aW (i:=0) (v:= ?va0) zo rfl zk zk zk (fun _ _ _ h=>h) (Or.inl ⟨zt,?hya0⟩) hHeld ?resta0
 case hya0=>(intro w' _;go_simp;try with_reducible rfl)
 refine qn ?_
 refine aW (i:=1) (v:= ?va1) zo rfl zk zk zk (fun _ _ _ h=>h) (Or.inl ⟨zt,?hya1⟩) hHeld ?resta1
 case hya1=>(intro w' _;go_simp;try with_reducible rfl)
 refine qn ?_
 refine aW (i:=2) (v:= ?va2) zo rfl zk zk zk (fun _ _ _ h=>h) (Or.inl ⟨zt,?hya2⟩) hHeld ?resta2
 case hya2=>(intro w' _;go_simp;try with_reducible rfl)
 refine qn ?_
 refine aW (i:=3) (v:= ?va3) zo rfl zk zk zk (fun _ _ _ h=>h) (Or.inl ⟨zt,?hya3⟩) hHeld ?resta3
 case hya3=>(intro w' _;go_simp;try with_reducible rfl)
 refine qn ?_
 refine ay (i:=4) (v:= ?va4) zo zk rfl zk zk zk zk (fun _ _ _ h=>h) (Or.inl ⟨zt,?hya4⟩) hHeld ?resta4
 case hya4=>(intro w' hSw;have q1:=hSw.1.c1;clear hSw;go_simp;try with_reducible rfl)
 refine qn ?_
 refine ay (i:=5) (v:= ?va5) zo zk rfl zk zk zk zk (fun _ _ _ h=>h) (Or.inl ⟨zt,?hya5⟩) hHeld ?resta5
 case hya5=>(intro w' hSw;have q9:=hSw.2;rw [hxe.o] at q9;obtain ⟨q0,q1,q2,q3,q4,q5,q6,q7,-⟩:=NtBlk.cells q9;unfold lE at q7;dsimp only at q0 q1 q2 q3 q4 q5 q6 q7;clear q9;clear hSw;go_simp;try with_reducible rfl)
 refine qn ?_
 refine aI (i:=6) zk rfl (fun kQ hK=> ?_)
 go_simp
 rw [<-hX.o]
 refine hK _ _ (.inl SX) ?_
 clear hK kQ hHeld
 refine qn ?_
 refine aI (i:=7) zk rfl (fun kQ hK=> ?_)
 simp only [ud,ux,uy]
 refine Lib.wp_append_run _ _ _ _ _ rfl (.slice fo N.length fc) (.slice (some ⟨U.heap.size,0,none⟩) 1 1) ?ahs ?ahx _ w2 hrun ?_
 case ahs=>rfl
 case ahx=>rfl
 refine hK _ _ (.inl S2) ?_
 clear hK kQ
 refine qn ?_
 refine aW (i:=8) (v:= ?vb8) zo rfl zk zk zk (fun _ _ _ h=>h) (Or.inl ⟨zt,?hyb8⟩) S2 ?restb8
 case hyb8=>(intro w' _;go_simp;try with_reducible rfl)
 refine qn ?_
 refine aW (i:=9) (v:= ?vb9) zo rfl zk zk zk (fun _ _ _ h=>h) (Or.inl ⟨zt,?hyb9⟩) S2 ?restb9
 case hyb9=>(intro w' _;go_simp;try with_reducible rfl)
 refine qn ?_
 refine aI (i:=10) zk rfl (fun kQ hK=> ?_)
 go_simp
 refine hK _ _ (.inr ⟨rfl,zo⟩) ?_
 clear hK kQ
 refine bI zk ?_ _
 clear n1 nf S2 SX SU
 go_wp2
 go_ret
 exact .inr ⟨zj,rfl,HFS.o⟩
theorem rP {fo:Option Addr} {m fc:Nat} (w:World) (at_:Int) (h:MeshC w bm pv (.slice fo m fc)) (ho: -9223372036854775808<=at_/\at_<=9223372036854775807):
  Calls prog 159 #[.pointer (some ⟨bm,0,none⟩),.int .i64 at_] w fun e w'=>e= .returned (.bool (decide (0<=at_/\at_<(m:Int))))/\w'=w:=by
 have m1:=h.c1
 clear h
 by_cases h0:0<=at_
 ·have d0:decide (0<=at_)=true:=by simp;omega
  have e:decide (0<=at_/\at_<(m:Int))=decide (at_<(m:Int)):=xC
  rw [e]
  clear e h0
  go_enter func159,ntmps159
  exact ka9
 have d0:decide (0<=at_)=false:=zl
 have e:decide (0<=at_/\at_<(m:Int))=false:=xC
 rw [e]
 clear e h0
 go_enter func159,ntmps159
 exact ka9
end
section
open Go.RowKit Go.Lib Go.Sort Go.Maps
open scoped Classical
def Gl (K K':Nat->Rws) (st st':Nat->DSt) (a:Nat):Prop:=(∃R',K'=aN K a R'/\RowsK R'/\∀z,z∈aX R'↔z∈(ab (st a).1).1)/\st'=aN st a (iI (st a))
def Kv (gd:Nat->Option Obj) (B n bm i:Nat) (G:List OpX) (K:Nat->Rws) (D:Nat->List OpX) (st:Nat->DSt) (N:List aO) (a:Nat) (w:World) (e:Ending) (w':World):Prop:=∃(K':Nat->Rws) (st':Nat->DSt),e= .returned .nilIface/\Aside (MeshS gd B n bm K' st' N w'/\Below B w w'/\MeshI n i G K' D st' N/\(∀r,r≠a->K' r=K r)/\Gl K K' st st' a)
theorem rq {α:Type} (f:Nat->α) (a:Nat) (x y:α):aN (aN f a x) a y=aN f a y:=by
 funext r
 unfold aN
 split<;>rfl
theorem Fj {c:Nat->Nat->Nat} (w:World) (a:Nat) (h:MeshAt gd B w ow n bm pv fv bp br d dv c K st N) (hI:MeshI n i G K D st N) (hE:EnvM B ad w) (ha:a<n) (hi:i<=155):
  Calls prog 211 #[.pointer (some ⟨bp a,0,none⟩)] w (Kv gd B n bm i G K D st N a w):=by
 have ha4:a<4:=jW ha h.few
 have p0:=(h.peer a ha).1.c0
 obtain ⟨T,kv,bt,bx,bc,A,hM,-⟩:=(h.rep a ha).1.rep
 have hby:=MR w (br a) T (a:Int) kv bt bx bc hM.cell
 have hnew:=FO w (a:Int) zj zj
 have HM:Aside (MeshAt gd B w ow n bm pv fv bp br d dv c K st N/\MeshI n i G K D st N/\EnvM B ad w):=⟨h,hI,hE⟩
 clear h hI hE hM
 go_enter func211,ntmps211
 go_wp2_with fail
 refine hby.mono ?_
 clear hby
 rintro e w1 ⟨rfl,rfl⟩
 go_wp2_with fail
 refine hnew.mono ?_
 clear hnew p0
 rintro e w2 ⟨c0,b0,rfl,hR0,hb2⟩
 have hm2:=HM.o.1.later hb2
 have p2:=(hm2.peer a ha).1
 have p0:=p2.c0
 have p1:=p2.c1
 have pf:=p2.fz 0
 obtain ⟨hm3,hk3⟩:=HM.o.1.anew ha hb2 hR0
 obtain ⟨W,hW⟩:=ze (w2.setCell ⟨bp a,0,none⟩ (.pointer (some ⟨b0,0,none⟩)))
 rw [<-hW.o] at hm3 hk3
 obtain ⟨ow3,how3⟩:∃f,Aside (f=aD ow w1 w2 (10+a)):=⟨_,rfl⟩
 rw [<-how3.o] at hm3
 have hb3:Below B w1 W:=HM.o.1.below hk3 (fun k e=>by have e':ow k=30+a:=e;omega)
 have hrec:=sj W (hm3.disk a ha).1 (HM.o.2.2.mono hb3).j (fun k hk=>hm3.low k (by rw [(hm3.disk a ha).2 k hk];omega)) (HM.o.2.1.blen ha zj)
 have hp3:=(hm3.peer a ha).1
 rw [aR] at hp3
 have H3:Aside (MeshAt gd B W ow3 n bm pv fv bp (aN br a b0) d dv (aN c a c0) (aN K a (fun _=>[])) st N/\Below B w1 W/\PeerC W (bp a) b0 (d a)):=⟨hm3,hb3,hp3⟩
 have r1:=hp3.c1
 clear hR0 hb2 hm2 p2 hm3 hk3 hb3 hp3
 go_upto_region 5 with fail
 rw [<-hW.o]
 clear p0 p1 pf
 go_wp2_with fail
 refine hrec.mono ?_
 clear hrec r1
 rintro e w4 ⟨rv,rfl,H4⟩
 obtain ⟨dv',hm4,hk4⟩:=H3.o.1.diskAct ha H4.o.1
 have hbk:=(HM.o.2.1.disk a ha).back
 have hrow:=H4.o.2.1
 rw [hbk.1] at hrow
 obtain ⟨ra,rc,hrv⟩:=dV hrow
 have hops:OpsIn w4 ra (D a):=by
  rw [hrv] at hrow
  rcases iw hrow with ⟨_,q⟩ | ⟨b,o,cp,q1,q2⟩
  ·exact .inl q
  exact kj1
 obtain ⟨ow4,how4⟩:∃f,Aside (f=aD ow3 W w4 (20+a)):=⟨_,rfl⟩
 rw [<-how4.o] at hm4
 have hb4:Below B w1 w4:=H3.o.2.1.trans (H3.o.1.below hk4 (fun k e=>by have e':ow3 k=20+a:=e;omega))
 have hr4:=(hm4.rep a ha).1
 simp only [aR] at hr4
 have hdw:=(HM.o.2.1.inv.dwell a ha).1
 have hjn:=Jz w4 c0 b0 (a:Int) (fun _=>[]) ra rc (D a) (D a) hr4 (HM.o.2.2.mono hb4).t hops hdw (fun x hx=>by simp [aX] at hx) (fun x hx=>hx) (fun x hx=>.inr hx) (by have:=HM.o.2.1.dlen ha;simp [aX];omega)
 have hp4:=(hm4.peer a ha).1
 rw [aR] at hp4
 have r0:=hp4.c0
 have H5:Aside (MeshAt gd B w4 ow4 n bm pv fv bp (aN br a b0) d (aN dv a dv') (aN c a c0) (aN K a (fun _=>[])) (aN st a (iI (st a))) N/\Below B w1 w4):=⟨hm4,hb4⟩
 subst hrv
 clear hm4 hk4 hbk hrow hops hb4 hr4 hdw hp4 H4
 go_wp2_with fail
 refine hjn.mono ?_
 clear hjn r0
 rintro e w5 ⟨m,c',R',rfl,hA,hR',hmem,hlen⟩
 obtain ⟨hm5,hk5⟩:=H5.o.1.repAct (a:=a) (c':=c') (R':=R') ha (by rw [aR];exact hA) (by rw [aR];exact hR')
 rw [rq,rq] at hm5
 have H6:Aside (MeshS gd B n bm (aN K a R') (aN st a (iI (st a))) N w5/\Below B w1 w5/\RowsK R'/\∀x,x∈aX R'↔x∈D a):=⟨⟨_,_,_,_,_,_,_,_,hm5⟩,H5.o.2.trans (H5.o.1.below hk5 (fun k e=>by have e':ow4 k=10+a:=e;omega)),hR'.wellK,fun x=>by rw [hmem x];simp [aX]⟩
 clear hA hR' hmem hlen hm5 hk5
 go_wp2
 go_ret
 have hbk:=(HM.o.2.1.disk a ha).back
 exact ⟨aN K a R',aN st a (iI (st a)),rfl,H6.o.1,H6.o.2.1,HM.o.2.1.boot ha H6.o.2.2.2 H6.o.2.2.1 hbk.2.1 hbk.2.2,fun r hr=>aK _ _ hr,⟨R',rfl,H6.o.2.2.1,fun z=>by rw [hbk.1];exact H6.o.2.2.2 z⟩,rfl⟩
end
section
open Go.RowKit Go.Lib Go.Sort Go.Maps
open scoped Classical
theorem MeshAt.redo {gd':Nat->Option Obj} {ow':Nat->Nat} {c:Nat->Nat->Nat}
  (h:MeshAt gd B w ow n bm pv fv bp br d dv c K st N) (hk:Keeps (fun k=>ow k=5) w w') (hs:∀k,ow k≠0->ow' k=ow k) (hn:∀k,ow' k≠0->ow k≠0\/(w.heap.size<=k/\k<w'.heap.size)) (hg:∀k o,gd' k=some o->ow' k=5/\w'.heap[k]? =some o):
  MeshAt gd' B w' ow' n bm pv fv bp br d dv c K st N:=by
 have same:∀ {k i:Nat},ow k=i->i≠0->i≠5->w'.heap[k]? =w.heap[k]? :=fun {k i} e hi h5=>hk.block k (h.in_ yh) (fun p=>h5 (by rw [<-e];exact p))
 have tw:∀ {k i:Nat},ow k=i->i≠0->ow' k=i:=fun {k i} e hi=>(hs k yh).trans e
 refine ⟨h.few,(same h.om zj zj).trans h.mesh,tw h.om zj,au h.peers (fun g hg=>same (h.op g hg) zj zj),fun g hg=>tw (h.op g hg) zj,au h.fly (fun g hg=>same (h.of g hg) zj zj),fun g hg=>tw (h.of g hg) zj,fun x hx=>⟨(h.notes x hx).from_,(h.notes x hx).to_,bg (h.notes x hx).ops (fun g hg=>same ((h.notes x hx).own g hg) zj zj),fun g hg=>tw ((h.notes x hx).own g hg) zj⟩,fun r hr=>⟨(h.peer r hr).1.same (same (h.peer r hr).2 zj zj),tw (h.peer r hr).2 zj⟩,fun r hr=>⟨(h.rep r hr).1.keep hk.size (fun k _ e=>same ((h.rep r hr).2 k e) zj (by have:=h.few;omega)),fun k e=>tw ((h.rep r hr).2 k e) zj⟩,fun r hr=>⟨(h.disk r hr).1.same (fun k e=>same ((h.disk r hr).2 k e) zj zj),fun k e=>tw ((h.disk r hr).2 k e) zj⟩,fun k e=> ?_,fun k e=> ?_,jM h.base hk.size,hg⟩
 ·rcases hn k e with q | ⟨q,_⟩
  ·exact h.low k q
  exact jM h.base q
 by_cases q:ow' k=0
 ·exact q
 rcases hn k q with q' | ⟨_,q'⟩
 ·exact absurd (h.high k (jM hk.size e)) q'
 omega
theorem iC {base:Nat} {v:Value} {e:TypeId} {xs:List Value} (h:w.ownsRow base e k v n xs) {g:Nat} (hg:v.ownBlock=some g):∃o,w.heap[g]? =some o:=by
 rcases h.2 with ⟨h1,_⟩ | ⟨g',cap,cur,rfl,_,h3,_⟩
 ·rw [h1] at hg;cases hg
 cases hg;exact ⟨_,h3⟩
