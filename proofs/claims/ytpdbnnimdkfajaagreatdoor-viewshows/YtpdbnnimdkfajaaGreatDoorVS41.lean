import Derived.Test.YtpdbnnimdkfajaaGreatDoorVS40
set_option linter.unusedSimpArgs false
set_option linter.unusedVariables false
set_option maxRecDepth 100000
set_option maxHeartbeats 64000000
namespace Go.Proofs.YtpdbnnimdkfajaaGreatDoor
open Go.Proofs.Tryz
section
open Go.RowKit Go.Lib Go.Sort Go.Maps
open scoped Classical
section
variable {P:Program} {ops:Array Oper} {Q:Exit→Act→World→Prop} {S:World→Prop} {z:Nat}
theorem region_in_roundZ {l n id:Nat} {a:Act} {w:World} (hm:P.follows .mixedOrders=true) (hd:noDefer ops=true) (hno:¬LetsOut Q) (hS:S w.drew)
  (h:S w.drew->wpAnyZ P .any ops Q S z ops.size (Array.replicate ops.size false) a w.drew):(Code.region id ops true).wpIn (Fence.wide.inRound l) n P Q a w:=
 wpIn_region_any hm (any_in_round hd hno _ _ _ _ (wpAny_of_Z _ _ _ _ (h hS)))
end
theorem infoS:(prog.info? 9).map (fun i=>(i.zero,i.size,i.bytes))=some (some (.string ⟨#[]⟩),1,16):=zj
def encS (b:ByteArray):List Value:=[.string b]
def wayN (qs L:List Plc) (pre:List Nat):List ByteArray:=pre.map fun x=>⟨#[47]⟩++nmB qs (L.getD x zeroP)
def pathL (qs L:List Plc):List UInt8:=Lib.join ((wayN qs L (List.range L.length)).reverse.map (·.data.toList)) []
theorem KeepUp.put {S:Nat->Prop} {N:Nat} (hS:∀k,S k->k<N) (W:World) (l:Nat) (o o':Obj) (hl:N<=l) (ho:W.heap[l]? =some o) (hc:o.isCells=false):KeepUp S W (W.putObj l o'):=by
 have g:=grownBy_putObj' W l o'
 refine ⟨fun k hk=> ?_,fun k p hp=> ?_⟩
 ·by_cases e:k<W.heap.size
  ·exact g.block k e (fun q=>by have:=hS k hk;cases q;omega)
  have:=hS k hk
  have:=(jk.1 ho).1
  omega
 refine g.block k hp.lt (fun q=> ?_)
 cases q
 unfold PlcAt at hp
 rw [hp] at ho
 cases ho
 cases hc
structure WayAt (w4:World) (B:Nat) (qs L:List Plc) (pre:List Nat) (v:Value) (W:World):Prop where
 box:Boxed W (B+1) 141 v
 row:W.ownsRow (B+4) 9 1 v pre.length (flat encS (wayN qs L pre))
 size:w4.heap.size<=W.heap.size
 keep:Keeps (fun k=>k=B+1) w4 W
theorem WayAt.own (w4:World) (B:Nat) (hB:w4.heap.size=B+4) (qs L:List Plc):OwnFrom w4.heap.size (fun pre W=>∃v,WayAt w4 B qs L pre v W):=fun pre X Y row hs hg hr=>by
 obtain ⟨v,h⟩:=hs
 obtain ⟨v',h1,h2,h3⟩:=holdsRow_own (B+4) (B+1) 141 9 1 (fun pre:List Nat=>pre.length) (fun pre=>flat encS (wayN qs L pre)) (fun _ u=>u=v) pre X Y row ⟨v,h.box,h.row,rfl⟩ hg (fun r e=>(hr r e).2)
 subst h3
 exact ⟨v',h1,h2,jw h.size hg.size,h.keep.grownFrom hg (fun r e=>(hr r e).1)⟩
theorem way_close {w4:World} {B:Nat} {qs L:List Plc} {pre:List Nat} {v:Value} {W:World} (h:WayAt w4 B qs L pre v W) (hB:w4.heap.size=B+4) {w5:World} (hb:Below W.heap.size W w5) (x:Nat) (hn:pre.length<=1000) (S:Nat->Prop) (hS:∀k,S k->k<B+4/\k≠B+1) (ty:TypeId):
  ∃g cap w6,(Builtin.append_ #[141,141] ty #[v,.slice (some ⟨w5.heap.size,0,none⟩) 1 1]).run prog (w5.alloc (.cells #[.string (⟨#[47]⟩++nmB qs (L.getD x zeroP))] 9))= .ok (.slice (some ⟨g,0,none⟩) (pre.length+1) cap) w6/\w6.cell? ⟨B+1,0,none⟩=some v/\w6.frozen? ⟨B+1,0,none⟩=false/\
   Aside (WayAt w4 B qs L (pre++ [x]) (.slice (some ⟨g,0,none⟩) (pre.length+1) cap) (w6.setCell ⟨B+1,0,none⟩ (.slice (some ⟨g,0,none⟩) (pre.length+1) cap))/\KeepsOthers W (w6.setCell ⟨B+1,0,none⟩ (.slice (some ⟨g,0,none⟩) (pre.length+1) cap))/\KeepUp S W (w6.setCell ⟨B+1,0,none⟩ (.slice (some ⟨g,0,none⟩) (pre.length+1) cap))/\w6.heap[B]? =W.heap[B]? /\∀k p,PlcAt W k p->w6.heap[k]? =W.heap[k]?):=by
 have hsz:=h.size
 obtain ⟨v',w6,hrun,HO⟩:=row_close (enc:=encS) (k:=1) (S:=141) (T:=9) underlying141 infoS zi zi rfl (fun _=>rfl) (fun x u hu=>by simp only [encS,jn,ui,or_false] at hu;rw [hu];rfl) h.row zi hb (⟨#[47]⟩++nmB qs (L.getD x zeroP)) hn ty
 obtain ⟨hown,hkeep,hs5,hbB⟩:=HO.o
 obtain ⟨g,cap,rfl⟩:=ownsRow_succ hown
 have hgB:B+4<=g:=(hown.lt g rfl).1
 have hW5:=hb.size
 have hvB:∀q,v.ownBlock=some q->B+4<=q:=fun q hq=>(h.row.lt q hq).1
 have hbx6:Boxed w6 (B+1) 141 v:=by
  have e:w6.heap[B+1]? =W.heap[B+1]? :=by
   rw [hkeep (B+1) zi (fun q=>xY),hb.block (B+1) zi]
  exact e.trans h.box
 have gs:=grownBy_setCell' w6 (B+1) (.slice (some ⟨g,0,none⟩) (pre.length+1) cap)
 have hother:∀q,q<W.heap.size->v.ownBlock≠some q->q≠B+1->(w6.setCell ⟨B+1,0,none⟩ (.slice (some ⟨g,0,none⟩) (pre.length+1) cap)).heap[q]? =W.heap[q]? :=fun q hq hne hqb=>by
  rw [gs.block q zi (fun e=>by cases e;exact hqb rfl),hkeep q zi hne,hb.block q hq]
 refine ⟨g,cap,w6,hrun,hbx6.cell,hbx6.frozen,⟨⟨?_,?_,?_,?_⟩,⟨?_,?_⟩,⟨?_,?_⟩,?_,?_⟩⟩
 ·exact hbx6.set _
 ·have:=hown.kept gs (.inr (by simp only [Value.ownBlock];intro e;cases e;omega))
  rw [jA,vX]
  have e:flat encS (wayN qs L (pre++ [x]))=flat encS (wayN qs L pre)++encS (⟨#[47]⟩++nmB qs (L.getD x zeroP)):=by
   unfold wayN
   rw [jY,flat_append]
   simp [flat]
  rw [e]
  exact this
 ·have:=gs.size;omega
 ·exact ⟨gs.os.trans (hbB.os.trans h.keep.os),gs.tape.trans (hbB.tape.trans h.keep.tape),gs.output.trans (hbB.output.trans h.keep.output),by have:=gs.size;omega,fun k hk hs=>(hother k zi (fun q=>xY) hs).trans (h.keep.block k hk hs)⟩
 ·have:=gs.size;omega
 ·intro k o hk ho
  have hkl:=(jk.1 hk).1
  refine (hother k hkl (fun e=> ?_) (fun e=> ?_)).trans hk
  ·rcases h.row.2 with ⟨h0,_⟩ | ⟨g',cap',cur,h0,_,hgb,_⟩
   ·rw [h0] at e;cases e
   rw [h0] at e
   cases e
   rw [hgb] at hk
   cases hk
   cases ho
  have:=h.box
  unfold Boxed at this
  rw [<-e,hk] at this
  cases this
  cases ho
 ·intro k hk
  exact hother k (by have:=(hS k hk).1;omega) (fun q=>by have:=hvB _ q;have:=(hS k hk).1;omega) (hS k hk).2
 ·intro k p hp
  refine hother k hp.lt (fun e=> ?_) (fun e=> ?_)
  ·rcases h.row.2 with ⟨h0,_⟩ | ⟨g',cap',cur,h0,_,hgb,_⟩
   ·rw [h0] at e;cases e
   rw [h0] at e
   cases e
   unfold PlcAt at hp
   rw [hgb] at hp
   cases hp
  have hx:=h.box
  unfold Boxed at hx
  unfold PlcAt at hp
  rw [<-e,hp] at hx
  cases hx
 ·rw [hkeep B zi (fun q=>xY),hb.block B zi]
 intro k p hp
 rw [hkeep k (by have:=hp.lt;omega) (fun e=> ?_),hb.block k hp.lt]
 rcases h.row.2 with ⟨h0,_⟩ | ⟨g',cap',cur,h0,_,hgb,_⟩
 ·rw [h0] at e;cases e
 rw [h0] at e
 cases e
 unfold PlcAt at hp
 rw [hgb] at hp
 cases hp
theorem nmB_size {qs:List Plc} {p:Plc} (h:FineQ p):(nmB qs p).size<=2000:=by
 have h1:=h.2.2
 have h2:(Lib.itoa p.1).length<=1000:=by have:=Lib.itoa_length_le p.1 (by have:=h.1;omega) (by have:=h.2.1;omega);omega
 unfold nmB
 split
 ·rw [uK,uK]
  have e:(⟨(Lib.itoa p.1).toArray⟩:ByteArray).size=(Lib.itoa p.1).length:=by simp [ByteArray.size]
  have e1:(⟨#[126]⟩:ByteArray).size=1:=rfl
  omega
 omega
theorem join_none (l:List (List UInt8)):Lib.join l []=l.flatten:=by
 cases l with
 | nil=>rfl
 | cons a r=>rw [Lib.join_cons];simp [Lib.joinTail]
theorem flatten_le {m:Nat} :∀(l:List (List UInt8)),(∀x∈l,x.length<=m)->l.flatten.length<=l.length*m
 | [],_=>zm
 | a::r,h=>by
  have h1:=h a jM
  have h2:=flatten_le r (fun x hx=>h x (jv _ hx))
  rw [List.flatten_cons,jA,jK,Nat.succ_mul]
  omega
theorem rev_any (w:World) (g cap:Nat) (xs:List ByteArray) (hc:∀(j:Nat) x,xs[j]? =some x->w.cell? ⟨g,j,none⟩=some (.string x)) (hf:∀j,w.frozen? ⟨g,j,none⟩=false) (hn:xs.length<=1000000):
  Calls prog 99 #[.slice (some ⟨g,0,none⟩) xs.length cap] w fun e w'=>e= .returned (.tuple #[])/\Aside ((∀(j:Nat) x,xs.reverse[j]? =some x->w'.cell? ⟨g,j,none⟩=some (.string x))/\Keeps (fun k=>k=g) w w'):=by
 have hH:Holds encStr w g 0 (xs.map (·.data.toList)).toArray:=fun j hj=>by
  simp only [jN,jG] at hj
  refine ⟨?_,by rw [jt];exact hf j⟩
  rw [jt,hc j _ (ji hj),getElem!_pos _ j yg]
  simp
 have h:=Tryz.slices_Reverse_string g 0 cap (xs.map (·.data.toList)) w hH yo
 rw [jG] at h
 refine h.mono ?_
 rintro e w' ⟨rfl,n,rfl⟩
 have hH2:=holds_putRow encStr (Sort.ahead w n) g 0 (xs.map (·.data.toList)).toArray (xs.map (·.data.toList)).reverse.toArray (show Holds encStr (Sort.ahead w n) g 0 (xs.map (fun x:ByteArray=>x.data.toList)).toArray from fun j hj=>hH j hj) zm
 refine ⟨rfl,fun j x hj=> ?_,⟨rfl,rfl,rfl,?_,fun k hk hs=> ?_⟩⟩
 ·have hl:=(jh.1 hj).1
  have hl':j<(xs.map (·.data.toList)).reverse.toArray.size:=xn
  have k:=(hH2 j hl').1
  rw [jt,getElem!_pos _ j hl'] at k
  rw [k]
  have e:(xs.map (·.data.toList)).reverse.toArray[j]=x.data.toList:=by
   rw [vv,List.getElem_reverse,List.getElem_map]
   have:=(jh.1 hj).2
   rw [List.getElem_reverse] at this
   simp only [jG] at this |-
   rw [this]
  rw [e]
 ·simp [Sort.ahead]
 have hgk:g≠k:=fun e=>hs e.symm
 simp [putRow,mapBlock,Sort.ahead,Array.getElem?_modify,hgk]
theorem path_in (w:World) (br bt bm n:Nat) (v:Value) (f:Sta) (h:ViewAt w br bt bm n v f) (qs:List Plc) (hq:IsPlaces f qs) (hql:qs.length<=300) (node:Int) (hwf:Wf node) (h0:node≠0) (hin:Ins f node 0) (L:List Plc) (hup:UpL f node L)
  (htab:Lib.TabIs prog w "internal/strconv.uint64pow10" .u64 Lib.pow10Tab):
  Calls prog 37 #[.pointer (some ⟨br,0,none⟩),.int .i64 node] w fun e w'=>e= .returned (.tuple #[.string ⟨(pathL qs L).toArray⟩,.bool true])/\Below w.heap.size w w':=by
 have HT:Aside (Lib.TabBelow prog w.heap.size w "internal/strconv.uint64pow10" .u64 Lib.pow10Tab):=Lib.tabBelow_of_tabIs htab
 have h1:=treeOf_any w br bt bm n v f h
 have h2:=insideV w br bt bm n v f h node 0 hwf
 rw [decide_eq_true hin] at h2
 have d0:(node==0)=false:=qP
 have HI:Aside (Ins f node 0):=hin
 have HL:Aside (L.length<=300):=jw (up_len h.shown.good hq hup) hql
 have H:Aside (ViewAt w br bt bm n v f/\IsPlaces f qs/\UpL f node L/\Wf node/\(∀p∈qs,FineQ p)):=⟨h,hq,hup,hwf,fineQ_of h.shown hq⟩
 have H3:Aside (∀W,Below w.heap.size w W->Calls prog 42 #[.pointer (some ⟨bt,0,none⟩)] W fun e w'=>∃u,e= .returned u/\Aside (PlsAt w' u qs/\Below W.heap.size W w')):=fun W hW=>placesV W br bt bm n v f (h.later hW) qs hq
 clear h hq hup hwf h0 hin htab
 have fineL:∀x:Nat,FineQ (L.getD x zeroP):=fun x=>by
  by_cases q:x<L.length
  ·have e:L.getD x zeroP=L[x]:=by rw [vq,ji q];rfl
   rw [e]
   rcases up_get H.o.2.2.1 _ (vJ q) with k | ⟨y,k⟩
   ·exact H.o.2.2.2.2 _ ((H.o.2.1.mem _).2 k)
   exact H.o.2.2.2.2 _ ((H.o.2.1.mem _).2 (by rw [H.o.1.shown.good.key y _ k];exact k))
  have e:L.getD x zeroP=zeroP:=by rw [vq,uJ zi];rfl
  rw [e]
  exact ⟨zo,zo,zo⟩
 refine (callsIn_wide (n:=4)).1 ?_
 refine callsIn_of_wp_marks func37 rfl trivial ?_ rfl
 simp only [ntmps37,jN,jK,vy,Nat.reduceAdd,Nat.reduceSub,vd,ve,vr,vj,vn,vp]
 gi_wp2_with (first
  | (refine ⟨trivial,?_⟩;gi_at_call 89;refine ((callsIn_wide (n:=4 - 1)).2 h1).mono ?_;rintro e w1 ⟨rfl,hw1⟩;obtain rfl:=hw1.symm)
  | (refine ⟨trivial,?_⟩;gi_at_call 96;refine ((callsIn_wide (n:=4 - 1)).2 h2).mono ?_;rintro e w2 ⟨rfl,hb2⟩;have h3:=H3.o w2 hb2)
  | (refine ⟨trivial,?_⟩;gi_at_call 42;refine ((callsIn_wide (n:=4 - 1)).2 h3).mono ?_;rintro e w3 ⟨u,rfl,H4⟩;obtain ⟨ao,cap,rfl,hP⟩:=H4.o.1.isIn)
  | (refine ⟨trivial,?_⟩;gi_at_call 97;refine ((callsIn_wide (n:=4 - 1)).2 (upward_any _ bt node)).mono ?_;rintro e w4 ⟨rfl,rfl⟩))
 obtain ⟨B,hB⟩:=za w3.heap.size
 obtain ⟨w4,hw4⟩:=za (((((w3.alloc (.cells #[.slice ao qs.length cap] 103)).alloc (.cells #[.slice none 0 0] 141)).alloc (.cells #[.pointer (some ⟨bt,0,none⟩)] 66)).alloc (.cells #[.int .i64 node] 3)))
 have e4:=blk4 w3 (.cells #[.slice ao qs.length cap] 103) (.cells #[.slice none 0 0] 141) (.cells #[.pointer (some ⟨bt,0,none⟩)] 66) (.cells #[.int .i64 node] 3)
 have hs4:w4.heap.size=B+4:=by rw [hw4,hB];simp
 have hb34:Below w3.heap.size w3 w4:=yF
 rw [<-hw4,<-hB] at e4
 rw [<-hw4,<-hB]
 obtain ⟨k1,k2,k3,k4⟩:=e4
 have e1:Boxed w4 B 103 (.slice ao qs.length cap):=k1
 have e2:Boxed w4 (B+1) 141 (.slice none 0 0):=k2
 have e3:Boxed w4 (B+1+1) 66 (.pointer (some ⟨bt,0,none⟩)):=k3
 have e5:Boxed w4 (B+1+1+1) 3 (.int .i64 node):=k4
 have hbw:Below w.heap.size w w4:=(zh hb2 H4.o.2).trans (hb34.mono xO)
 have V4:=H.o.1.later hbw
 have hwB:w.heap.size<=B:=xO
 have hP4:PlsIn w4 ao qs:=hP.later hb34
 have H6:Aside (PlsIn w3 ao qs/\Below w3.heap.size w3 w4/\B=w3.heap.size):=⟨hP,hb34,hB⟩
 have H5:Aside (PlsIn w4 ao qs/\Below w.heap.size w w4/\Boxed w4 B 103 (.slice ao qs.length cap)/\w4.heap.size=B+4/\w.heap.size<=B):=⟨hP4,hbw,e1,hs4,hwB⟩
 have hbt:bt<w.heap.size:=H.o.1.cell.lt
 have hbm:bm<w.heap.size:=H.o.1.map.lt
 clear hw4 hB k1 k2 k3 k4 hP hb2 h1 h2 h3 hb34
 refine wpIn_rangeFunc_ownH rfl zi (gf:=162) (lb:= #[.pointer (some ⟨B+1+1,0,none⟩),.pointer (some ⟨B+1+1+1,0,none⟩)]) rfl trivial (enters_of func162 zj rfl)
  (up_stops (4 - 1) zi (B+1+1) (B+1+1+1) bt bm n f node L H.o.2.2.1 H.o.1.shown.good H.o.2.2.2.1 (fun k=>k<B+4/\k≠B+1) ⟨zi,zi⟩ ⟨zi,zi⟩ ⟨zi,zi⟩ ⟨zi,zi⟩ w4 (fun k hk=>by rw [hs4];exact hk.1) e3.cell e5.cell V4.cell.c0 V4.map) KeepUp.trans (fun W l o o' hl ho hc _=>KeepUp.put (N:=B+4) (fun k hk=>hk.1) W l o o' zi ho hc) (jo _ _) (fun _=>rfl)
  (fun pre W=>∃v,WayAt w4 B qs L pre v W)
  (fun _ _ _=>False)
  (WayAt.own w4 B hs4 qs L)
  (fun _ _ _ _ _ hs _ _=>hs)
  ⟨_,e2,jQ w4 _ _ _,jj _,Keeps.refl _ _⟩
  (fun x a' W=>∃Bx,w4.heap.size<=Bx/\PlcAt W Bx (L.getD x zeroP)/\a'= {tmps:= #[.pointer (some ⟨br,0,none⟩),.int .i64 node,undef,undef,.string ⟨#[]⟩,.bool false,.pointer (some ⟨bt,0,none⟩),.pointer (some ⟨B,0,none⟩),.pointer (some ⟨B+1,0,none⟩),.pointer (some ⟨Bx,0,none⟩),.pointer (some ⟨br,0,none⟩),.bool false,.int .i64 node,.bool false,.pointer (some ⟨br,0,none⟩),.pointer (some ⟨bt,0,none⟩),.pointer (some ⟨bt,0,none⟩),.int .i64 node,.bool true,.bool false,.pointer (some ⟨bt,0,none⟩),.slice ao qs.length cap,.pointer (some ⟨bt,0,none⟩),.int .i64 node,.func (.func 162) #[] #[.pointer (some ⟨B+1+1,0,none⟩),.pointer (some ⟨B+1+1+1,0,none⟩)],encP (L.getD x zeroP),undef,undef,undef,undef,undef,undef,undef,undef,undef,undef,undef],defers:=[]})
  (fun x a'=>Own.from (fun _ X Y row hs hg hr=>zK) _)
  ?assign ?body ?done ?stop
 case assign=>
  rintro l pre x W K ⟨v0,hA⟩ hK
  have hK':Aside _:=hK
  have hsz:=hA.size
  clear hK
  obtain ⟨p,hp⟩:=za (L.getD x zeroP)
  rw [<-hp]
  rw [<-hp] at hK'
  obtain ⟨nd,j,s⟩:=p
  unfold encP
  dsimp only
  gi_wp2
  rw [Oper.semAt_eq _ _ _ (fun c h=>yA)]
  go_simp
  gi_wp2
  rw [Oper.semAt_eq _ _ _ (fun c h=>yA)]
  go_simp
  gi_wp2
  refine hK'.o _ _ ((KeepsOthers.alloc _ _).from _) (KeepUp.below (fun k hk=>by have:=hk.1;omega) (zg W _)) ⟨v0,hA.box.alloc _,hA.row.alloc _,by rw [jI];omega,hA.keep.alloc _⟩ ⟨W.heap.size,zi,heap_alloc_new W _,rfl⟩
 case body=>
  rintro l pre x a' W hl _ ⟨v0,hA⟩ ⟨Bx,hBx,hE,rfl⟩ hlt
  have hfq:FineQ (L.getD x zeroP):=fineL x
  have hBW:Below w.heap.size w W:=H5.o.2.1.trans (hA.keep.below H5.o.2.1.size (fun k e=>by have:=H5.o.2.2.2.2;omega))
  have hPW:PlsIn W ao qs:=H6.o.1.later (H6.o.2.1.trans (hA.keep.below H6.o.2.1.size (fun k e=>by have:=H6.o.2.2;omega)))
  have hbD:Below W.heap.size W W.drew:=(jo _ W).drew
  have hname:=nameOf_any W.drew ao cap qs (L.getD x zeroP) (hPW.later hbD) zi hfq.1 hfq.2.1 hfq.2.2 (HT.o _ (zh hBW hbD))
  have hns:=nmB_size (qs:=qs) hfq
  have HW:Aside (WayAt w4 B qs L pre v0 W/\PlcAt W Bx (L.getD x zeroP)):=⟨hA,hE⟩
  have g1:W.drew.cell? ⟨B+1,0,none⟩=some v0:=hA.box.cell
  have g2:W.drew.cell? ⟨B,0,none⟩=some (.slice ao qs.length cap):=(jr (a:=⟨B,0,none⟩) (hA.keep.block B zi zi)).trans H5.o.2.2.1.cell
  have x0:W.drew.cell? ⟨Bx,0,none⟩=some (.int .i64 (L.getD x zeroP).1):=hE.c0
  have x1:W.drew.cell? ⟨Bx,1,none⟩=some (.int .i64 (L.getD x zeroP).2.1):=hE.c1
  have x2:W.drew.cell? ⟨Bx,2,none⟩=some (.string (L.getD x zeroP).2.2):=hE.c2
  obtain ⟨nm,hnm⟩:=za (nmB qs (L.getD x zeroP))
  rw [<-hnm] at hname hns
  have HN:=Lib.hid hnm
  have hlen:pre.length<=1000:=by have:=HL.o;omega
  clear hnm hA hE hPW hbD hfq
  generalize L.getD x zeroP=p at hname x0 x1 x2
  obtain ⟨nd,j,s⟩:=p
  unfold encP at hname
  dsimp only at hname x0 x1 x2
  have n1:¬9223372036854775807<1+nm.size:=zi
  gi_wp2
  refine region_in_roundZ (z:=7) (S:=fun w'=>w'.cell? ⟨B+1,0,none⟩=some v0/\w'.cell? ⟨B,0,none⟩=some (.slice ao qs.length cap)/\w'.cell? ⟨Bx,0,none⟩=some (.int .i64 nd)/\w'.cell? ⟨Bx,1,none⟩=some (.int .i64 j)/\w'.cell? ⟨Bx,2,none⟩=some (.string s)) zj zj qQ ⟨g1,g2,x0,x1,x2⟩ (fun hHeld=> ?_)
  clear g1 g2 x0 x1 x2
  refine wpAnyZ_take (i:=0) (v:= ?v0) zo zj rfl zj zj zj zj (fun _ _ _ h=>h) (Or.inl ⟨zu,?hy0⟩) hHeld ?rest0
  case hy0=>(intro w' hSw;obtain ⟨k0,k1,k2,k3,k4⟩:=hSw;go_simp;try with_reducible rfl)
  refine qn ?_
  refine wpAnyZ_take (i:=1) (v:= ?v1) zo zj rfl zj zj zj zj (fun _ _ _ h=>h) (Or.inl ⟨zu,?hy1⟩) hHeld ?rest1
  case hy1=>(intro w' hSw;obtain ⟨k0,k1,k2,k3,k4⟩:=hSw;go_simp;try with_reducible rfl)
  refine qn ?_
  refine wpAnyZ_take (i:=2) (v:= ?v2) zo zj rfl zj zj zj zj (fun _ _ _ h=>h) (Or.inl ⟨zu,?hy2⟩) hHeld ?rest2
  case hy2=>(intro w' hSw;obtain ⟨k0,k1,k2,k3,k4⟩:=hSw;go_simp;try with_reducible rfl)
  refine qn ?_
  refine wpAnyZ_one (i:=3) zj rfl (fun K hK=> ?_)
  go_simp
  refine hname.mono ?_
  clear hname
  rintro e w5 ⟨rfl,hb5⟩
  have hb:Below W.heap.size W w5:=((jo _ W).drew).trans (hb5.mono ze)
  have hS5:w5.cell? ⟨B+1,0,none⟩=some v0/\w5.cell? ⟨B,0,none⟩=some (.slice ao qs.length cap)/\w5.cell? ⟨Bx,0,none⟩=some (.int .i64 nd)/\w5.cell? ⟨Bx,1,none⟩=some (.int .i64 j)/\w5.cell? ⟨Bx,2,none⟩=some (.string s):=⟨cellKept hb5 hHeld.1,cellKept hb5 hHeld.2.1,cellKept hb5 hHeld.2.2.1,cellKept hb5 hHeld.2.2.2.1,cellKept hb5 hHeld.2.2.2.2⟩
  obtain ⟨g,cap',w6,hrun,hc6,hf6,HO⟩:=way_close HW.o.1 hs4 hb x hlen (fun k=>k<B+4/\k≠B+1) (fun k hk=>hk) 141
  rw [<-HN.o] at hrun
  refine hK _ _ (.inl hS5) ?_
  clear hK K hb5
  refine qn ?_
  refine wpAnyZ_free (i:=4) (v:= ?v4) zo rfl zj zj zj (fun _ _ _ h=>h) (Or.inl ⟨zu,?hy4⟩) hS5 ?rest4
  case hy4=>(intro w' _;go_simp;try with_reducible rfl)
  refine qn ?_
  have hba:Below w5.heap.size w5 (w5.alloc (.cells #[.string (⟨#[47]⟩++nm)] 9)):=zg w5 _
  refine wpAnyZ_one (i:=5) zj rfl (fun K hK=> ?_)
  go_simp
  refine hK _ _ (.inl ⟨cellKept hba hS5.1,cellKept hba hS5.2.1,cellKept hba hS5.2.2.1,cellKept hba hS5.2.2.2.1,cellKept hba hS5.2.2.2.2⟩) ?_
  clear hK K hba
  refine qn ?_
  refine wpAnyZ_one (i:=6) zj rfl (fun K hK=> ?_)
  rw [if_pos zu]
  simp only [vv,vT,vV]
  refine Lib.wp_append_run _ _ _ _ _ rfl v0 (.slice (some ⟨w5.heap.size,0,none⟩) 1 1) rfl rfl _ w6 hrun ?_
  have hS6:w6.cell? ⟨B+1,0,none⟩=some v0/\w6.cell? ⟨B,0,none⟩=some (.slice ao qs.length cap)/\w6.cell? ⟨Bx,0,none⟩=some (.int .i64 nd)/\w6.cell? ⟨Bx,1,none⟩=some (.int .i64 j)/\w6.cell? ⟨Bx,2,none⟩=some (.string s):=by
   have eB:=HO.o.2.2.2.1
   have eX:=HO.o.2.2.2.2 Bx _ HW.o.2
   exact ⟨hc6,(jr (a:=⟨B,0,none⟩) eB).trans hHeld.2.1,(jr (a:=⟨Bx,0,none⟩) eX).trans hHeld.2.2.1,(jr (a:=⟨Bx,1,none⟩) eX).trans hHeld.2.2.2.1,(jr (a:=⟨Bx,2,none⟩) eX).trans hHeld.2.2.2.2⟩
  refine hK _ _ (.inl hS6) ?_
  clear hK K hrun
  refine qn ?_
  refine wpAnyZ_one (i:=7) zj rfl (fun K hK=> ?_)
  go_simp
  refine hK _ _ (.inr ⟨rfl,zo⟩) ?_
  clear hK K
  refine wpAnyZ_done zj ?_ _
  exact ⟨HO.o.2.1.from _,HO.o.2.2.1,_,HO.o.1⟩
 case done=>
  rintro D ys W hD hall ⟨v0,hA⟩ hK
  subst hall
  have hLn:1<=L.length:=by
   cases L with
   | nil=>exact absurd HI.o (ins_none H.o.2.2.1)
   | cons a r=>simp
  obtain ⟨xs,hxs⟩:=za (wayN qs L (List.range L.length))
  have hxl:xs.length=L.length:=by rw [hxs];simp [wayN]
  have hrow:=hA.row
  rw [List.length_range,<-hxs] at hrow
  obtain ⟨g,cap0,hv0,hgw,hgB,hcap0⟩:∃g cap0,v0= .slice (some ⟨g,0,none⟩) L.length cap0/\(∃cs t fr,W.heap[g]? =some (.cells cs t fr))/\B+4<=g/\L.length<=cap0:=by
   rcases hrow.2 with ⟨_,h0⟩ | ⟨g,cap0,cur,h0,hg0,hgb,hcc,_⟩
   ·omega
   exact ⟨g,cap0,h0,⟨_,_,_,hgb⟩,hg0,hcc⟩
  subst hv0
  have hc:∀(j:Nat) x,xs[j]? =some x->W.cell? ⟨g,j,none⟩=some (.string x):=fun j x hj=>by
   have hl:=(jh.1 hj).1
   rw [hrow.cellAt j zi]
   have:=flat_get (enc:=encS) (k:=1) (fun _=>rfl) hj (c:=0) zi
   rw [Nat.mul_one,vk] at this
   rw [this]
   rfl
  have hrev:=rev_any W g cap0 xs hc (fun j=>hrow.frozenAt j) (by have:=HL.o;omega)
  rw [hxl] at hrev
  have g1:=hA.box.cell
  have HA:Aside (WayAt w4 B qs L (List.range L.length) (.slice (some ⟨g,0,none⟩) L.length cap0) W/\xs=wayN qs L (List.range L.length)/\xs.length=L.length/\(∃cs t fr,W.heap[g]? =some (.cells cs t fr))/\B+4<=g/\L.length<=cap0/\W.heap[D]? =some (.deferred (some []))/\w4.heap.size<=D):=⟨hA,hxs,hxl,hgw,hgB,hcap0,hK,hD⟩
  clear hc hrow hxs hgw hgB hcap0 hK hA hxl
  gi_wp2_with fail
  refine ⟨trivial,?_⟩
  refine ((callsIn_wide (n:=3)).2 hrev).mono ?_
  clear hrev
  rintro e w7 ⟨rfl,H7⟩
  have hgD:D≠g:=fun e=>by
   obtain ⟨cs,t,fr,q⟩:=HA.o.2.2.2.1
   rw [<-e,HA.o.2.2.2.2.2.2.1] at q
   cases q
  have hB1:w7.heap[B+1]? =W.heap[B+1]? :=H7.o.2.block (B+1) HA.o.1.box.lt (by have:=HA.o.2.2.2.2.1;omega)
  have g7:w7.cell? ⟨B+1,0,none⟩=some (.slice (some ⟨g,0,none⟩) L.length cap0):=(jr (a:=⟨B+1,0,none⟩) hB1).trans g1
  have hD7:w7.heap[D]? =some (.deferred (some [])):=(H7.o.2.block D (jk.1 HA.o.2.2.2.2.2.2.1).1 hgD).trans HA.o.2.2.2.2.2.2.1
  have hjl:(Lib.join (xs.reverse.map (·.data.toList)) []).length<=140737488355328:=by
   rw [join_none]
   have h1:=flatten_le (m:=2001) (xs.reverse.map (·.data.toList)) (fun y hy=>by
    obtain ⟨x,hx,rfl⟩:=jO.1 hy
    rw [List.mem_reverse,HA.o.2.1] at hx
    unfold wayN at hx
    obtain ⟨q,_,rfl⟩:=jO.1 hx
    have hfq:FineQ (L.getD q zeroP):=fineL q
    have:=nmB_size (qs:=qs) hfq
    have e1:(⟨#[47]⟩:ByteArray).size=1:=rfl
    show (⟨#[47]⟩++nmB qs (L.getD q zeroP):ByteArray).data.toList.length<=2001
    rw [listLen,uK]
    omega)
   rw [jG,List.length_reverse,HA.o.2.2.1] at h1
   have:=HL.o
   omega
  have hjoin:=Tryz.strings_Join g 0 cap0 xs.reverse ⟨#[]⟩ w7 (fun j x hj=>by rw [jt];exact H7.o.1 j x hj) (by obtain ⟨cs,t,fr,q⟩:=HA.o.2.2.2.1;exact jE (jk.1 q).1 H7.o.2.size) (by rw [List.length_reverse,HA.o.2.2.1];have:=HL.o;omega) (by rw [List.length_reverse,HA.o.2.2.1];exact HA.o.2.2.2.2.2.1) hjl
  rw [List.length_reverse,HA.o.2.2.1] at hjoin
  clear g1 hjl
  gi_wp2_with fail
  refine ⟨trivial,?_⟩
  refine ((callsIn_wide (n:=3)).2 hjoin).mono ?_
  clear hjoin
  rintro e w8 ⟨rfl,hb8⟩
  gi_wp2
  have hb48:Below w.heap.size w w8:=by
   have h1:=H5.o.2.1.trans (HA.o.1.keep.below H5.o.2.1.size (fun k e=>by have:=H5.o.2.2.2.2;omega))
   have h2:=h1.trans (H7.o.2.below h1.size (fun k e=>by have:=H5.o.2.2.2.2;have:=HA.o.2.2.2.2.1;omega))
   exact zh h2 hb8
  have hD8:w8.heap[D]? =some (.deferred (some [])):=(hb8.block D (jk.1 hD7).1).trans hD7
  refine ⟨zm,.inl ⟨_,_,rfl,run_takeDeferred hD8,?_⟩⟩
  refine ⟨.tuple #[.string ⟨(Lib.join (xs.map (fun x:ByteArray=>x.data.toList)).reverse []).toArray⟩,.bool true],by simp [results,f37,go_sem],?_,?_⟩
  ·unfold pathL
   rw [<-HA.o.2.1,List.map_reverse]
  exact hb48.trans (belowK_b (w:=w) ze w8 D _ _ (by have:=H5.o.2.2.2.2;have:=HA.o.2.2.2.2.2.2.2;omega) hD8 rfl rfl)
 case stop=>
  rintro D c pre W _ _ h _
  exact h.elim
