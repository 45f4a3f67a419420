import Derived.Test.YtjclejjkganhfaaGreatDoorSR30
set_option linter.unusedSimpArgs false
set_option linter.unusedVariables false
set_option maxRecDepth 100000
set_option maxHeartbeats 64000000
namespace Go.Proofs.YtjclejjkganhfaaGreatDoor
open Go.Proofs.Tryz
section
open RowKit Lib Go.Sort Maps
open scoped Classical
section
variable {P:Program} {ops:Array Oper} {Q:Exit→Act→World→Prop} {S:World→Prop} {z:Nat}
theorem Ac{l n id}{a}{w}(hm:P.follows .mixedOrders=true)(hd:FZ ops=true)(hno:¬LetsOut Q)(hS:S w.drew)
  (h:S w.drew->nz P .any ops Q S z ops.size (Array.replicate ops.size false) a w.drew):(Code.region id ops true).wpIn (Fence.wide.inRound l) n P Q a w:=
 wpIn_region_any hm (oy hd hno _ _ _ _ (AY _ _ _ _ (h hS)))
end
theorem zcN:(prog.info? 9).map (fun i=>(i.zero,i.size,i.bytes))=some (some (.string ⟨#[]⟩),1,16):=zk
def zaT(b:qY):List Value:=[.string b]
def Uw(qs L:List Plc)(pre:List Nat):List ByteArray:=pre.map fun x=>⟨#[47]⟩++nmB qs (L.getD x mS)
def Pn(qs L:List Plc):qU:=Lib.join ((Uw qs L (List.range L.length)).reverse.map (·.data.toList)) []
theorem J9.put{S}{N}(hS:∀k,S k->k<N)(W)(l)(o o')(hl:N<=l)(ho:W.heap[l]? =some o)(hc:o.isCells=false):J9 S W (W.putObj l o'):=by
 have g:=grownBy_putObj' W l o';refine ⟨fun k hk=> ?_,fun k p hp=> ?_⟩
 ·by_cases e:k<W.heap.size
  ·exact g.block k e (fun q=>by have:=hS k hk;cases q;omega)
  simp_all
 refine g.block k hp.lt (fun q=> ?_)
 cases q
 unfold x8 at hp;rw [hp] at ho
 cases ho
 cases hc
structure aap (w4:qW) (B:Nat) (qs L:List Plc) (pre:List Nat) (v:Value) (W:qW):Prop where
 F3:Boxed W (B+1) 22 v
 row:W.ownsRow (B+4) 9 1 v pre.length (mP zaT (Uw qs L pre))
 size:w4.heap.size<=W.heap.size
 F9:m7 (fun k=>k=B+1) w4 W
theorem aap.I8(w4)(B)(hB:w4.heap.size=B+4)(qs L):OwnFrom w4.heap.size (fun pre W=>∃v,aap w4 B qs L pre v W):=fun pre X Y row hs hg hr=>by
 obtain ⟨v,h⟩:=hs;obtain ⟨v',h1,h2,h3⟩:=holdsRow_own (B+4) (B+1) 22 9 1 (fun pre:List Nat=>pre.length) (fun pre=>mP zaT (Uw qs L pre)) (fun _ u=>u=v) pre X Y row ⟨v,h.F3,h.row,rfl⟩ hg (fun r e=>(hr r e).2);subst h3;exact ⟨v',h1,h2,uO h.size hg.size,h.F9.aaB hg (fun r e=>(hr r e).1)⟩
theorem Pe{w4}{B}{qs L}{pre}{v}{W}(h:aap w4 B qs L pre v W)(hB:w4.heap.size=B+4){w5}(hb:Below W.heap.size W w5)(x)(hn:pre.length<=1000)(S)(hS:∀k,S k->k<B+4/\k≠B+1)(ty):
  ∃g cap w6,(Builtin.append_ #[22,22] ty #[v,.slice (some ⟨w5.heap.size,0,none⟩) 1 1]).run prog (w5.alloc (.cells #[.string (⟨#[47]⟩++nmB qs (L.getD x mS))] 9))= .ok (.slice (some ⟨g,0,none⟩) (pre.length+1) cap) w6/\w6.cell? ⟨B+1,0,none⟩=some v/\w6.frozen? ⟨B+1,0,none⟩=false/\
   Aside (aap w4 B qs L (pre++ [x]) (.slice (some ⟨g,0,none⟩) (pre.length+1) cap) (w6.setCell ⟨B+1,0,none⟩ (.slice (some ⟨g,0,none⟩) (pre.length+1) cap))/\KeepsOthers W (w6.setCell ⟨B+1,0,none⟩ (.slice (some ⟨g,0,none⟩) (pre.length+1) cap))/\J9 S W (w6.setCell ⟨B+1,0,none⟩ (.slice (some ⟨g,0,none⟩) (pre.length+1) cap))/\w6.heap[B]? =W.heap[B]? /\∀k p,x8 W k p->w6.heap[k]? =W.heap[k]?):=by
 have hsz:=h.size;obtain ⟨v',w6,ae,HO⟩:=Qz (enc:=zaT) (k:=1) (S:=22) (T:=9) underlying22 zcN zj zj rfl (fun _=>rfl) (fun x u hu=>by simp only [zaT,uX,ZP,or_false] at hu;rw [hu];rfl) h.row zj hb (⟨#[47]⟩++nmB qs (L.getD x mS)) hn ty;obtain ⟨hown,hkeep,hs5,eu⟩:=HO.o;obtain ⟨g,cap,rfl⟩:=ownsRow_succ hown;have hgB:=(hown.lt g rfl).1;have hW5:=hb.size
 have hvB:∀q,v.ownBlock=some q->B+4<=q:=fun q hq=>(h.row.lt q hq).1
 have hbx6:Boxed w6 (B+1) 22 v:=by
  have e:w6.heap[B+1]? =W.heap[B+1]? :=by
   rw [hkeep (B+1) zj (fun q=>zL),hb.block (B+1) zj]
  exact e.trans h.F3
 have gs:=grownBy_setCell' w6 (B+1) (.slice (some ⟨g,0,none⟩) (pre.length+1) cap)
 have ft:∀q,q<W.heap.size->v.ownBlock≠some q->q≠B+1->(w6.setCell ⟨B+1,0,none⟩ (.slice (some ⟨g,0,none⟩) (pre.length+1) cap)).heap[q]? =W.heap[q]? :=fun q hq hne gP=>by
  rw [gs.block q zj (fun e=>zL),hkeep q zj hne,hb.block q hq]
 refine ⟨g,cap,w6,ae,hbx6.cell,hbx6.frozen,⟨⟨?_,?_,?_,?_⟩,⟨?_,?_⟩,⟨?_,?_⟩,?_,?_⟩⟩
 ·exact hbx6.set _
 ·have:=hown.kept gs (.inr (by simp only [Value.ownBlock];intro e;cases e;omega));rw [uQ,ZJ]
  grind [mP,zaT,Uw,nmB,mS,nR]
 ·grind
 ·exact ⟨gs.os.trans (eu.os.trans h.F9.os),gs.tape.trans (eu.tape.trans h.F9.tape),gs.output.trans (eu.output.trans h.F9.output),zM,fun k hk hs=>(ft k zj (fun q=>zM) hs).trans (h.F9.block k hk hs)⟩
 ·have:=gs.size;omega
 ·intro k o hk ho;have hkl:=(uK.1 hk).1;refine (ft k hkl (fun e=> ?_) (fun e=> ?_)).trans hk
  ·rcases h.row.2 with ⟨h0,_⟩ | ⟨g',cap',cur,h0,_,hgb,_⟩
   ·rw [h0] at e;cases e
   rw [h0] at e
   cases e
   rw [hgb] at hk
   cases hk
   cases ho
  have:=h.F3;unfold Boxed at this;rw [<-e,hk] at this
  cases this
  cases ho
 ·grind
 ·intro k p hp;refine ft k hp.lt (fun e=> ?_) (fun e=> ?_)
  ·rcases h.row.2 with ⟨h0,_⟩ | ⟨g',cap',cur,h0,_,hgb,_⟩
   ·rw [h0] at e;cases e
   rw [h0] at e
   cases e
   grind [x8]
  have hx:=h.F3;unfold Boxed at hx
  grind [x8]
 ·rw [hkeep B zj (fun q=>zM),hb.block B zj]
 intro k p hp;rw [hkeep k (by have:=hp.lt;omega) (fun e=> ?_),hb.block k hp.lt]
 rcases h.row.2 with ⟨h0,_⟩ | ⟨g',cap',cur,h0,_,hgb,_⟩
 ·rw [h0] at e;cases e
 rw [h0] at e
 cases e
 grind [x8]
theorem KO{qs}{p}(h:Bu p):(nmB qs p).size<=2000:=by
 have h1:=h.2.2
 have h2:(Lib.itoa p.1).length<=1000:=by have:=Lib.itoa_length_le p.1 (by have:=h.1;omega) (by have:=h.2.1;omega);omega
 unfold nmB;split
 ·rw [ByteArray.size_append,ByteArray.size_append];have e:(⟨(Lib.itoa p.1).toArray⟩:qY).size=(Lib.itoa p.1).length:=ug;have e1:(⟨#[126]⟩:qY).size=1:=rfl;omega
 omega
theorem OO(l):Lib.join l []=l.flatten:=by
 cases l with
 | nil=>rfl
 | cons a r=>rw [Lib.join_cons];simp [Lib.joinTail]
theorem DO{m} :∀(l:List qU),(∀x∈l,x.length<=m)->l.flatten.length<=l.length*m
 | [],_=>zr
 | a::r,h=>by
  have h1:=h a Zn;have h2:=DO r (fun x hx=>h x (uY _ hx));rw [List.flatten_cons,uQ,Za,Nat.succ_mul];omega
theorem Xx(w)(g cap)(xs:List ByteArray)(hc:∀(j:Nat) x,xs[j]? =some x->w.cell? (qA g j)=some (.string x))(hf:∀j,w.frozen? (qA g j)=false)(hn:xs.length<=1000000):
  qC 146 #[qG g xs.length cap] w fun e w'=>e=qT #[]/\Aside ((∀(j:Nat) x,xs.reverse[j]? =some x->w'.cell? (qA g j)=some (.string x))/\m7 (fun k=>k=g) w w'):=by
 have hH:Holds encStr w g 0 (xs.map (·.data.toList)).toArray:=fun j hj=>by
  simp_all
 have h:=Tryz.slices_Reverse_string g 0 cap (xs.map (·.data.toList)) w hH zM;rw [Zh] at h;refine h.mono ?_;rintro e w' ⟨rfl,n,rfl⟩;have hH2:=holds_putRow encStr (Sort.ahead w n) g 0 (xs.map (·.data.toList)).toArray (xs.map (·.data.toList)).reverse.toArray (show Holds encStr (Sort.ahead w n) g 0 (xs.map (fun x:ByteArray=>x.data.toList)).toArray from fun j hj=>hH j hj) zr;refine ⟨rfl,fun j x hj=> ?_,⟨rfl,rfl,rfl,?_,fun k hk hs=> ?_⟩⟩
 ·have hl:=(uI.1 hj).1;have fw:j<(xs.map (·.data.toList)).reverse.toArray.size:=qw;have k:=(hH2 j fw).1
  simp_all
 ·simp [Sort.ahead]
 have hgk:g≠k:=fun e=>hs e.symm
 simp [putRow,mapBlock,Sort.ahead,Array.getElem?_modify,hgk]
theorem Xy(w)(br bt bm n)(v)(f)(h:Q2 w br bt bm n v f)(qs)(hq:C3 f qs)(hql:qs.length<=300)(l8)(bG:Wf l8)(h0:l8≠0)(hin:Ins f l8 0)(L)(kG:UpL f l8 L)
  (aF:Lib.TabIs prog w "internal/strconv.uint64pow10" .u64 Lib.pow10Tab):
  qC 106 #[qP br,qI l8] w (qR (.tuple #[.string ⟨(Pn qs L).toArray⟩,.bool true]) w):=by
 have HT:Aside (Lib.TabBelow prog w.heap.size w "internal/strconv.uint64pow10" .u64 Lib.pow10Tab):=Lib.tabBelow_of_tabIs aF;have h1:=sK w br bt bm n v f h;have h2:=Qw w br bt bm n v f h l8 0 bG;rw [decide_eq_true hin] at h2;have d0:(l8==0)=false:=xm;have HI:Aside (Ins f l8 0):=hin;have HL:Aside (L.length<=300):=uO (zbR h.U9.aaa hq kG) hql
 have H:Aside (Q2 w br bt bm n v f/\C3 f qs/\UpL f l8 L/\Wf l8/\(∀p∈qs,Bu p)):=⟨h,hq,kG,bG,tg h.U9 hq⟩
 have H3:Aside (∀W,qL w W->qC 129 #[qP bt] W fun e w'=>∃u,e= .returned u/\Aside (L9 w' u qs/\qL W w')):=fun W hW=>Io W br bt bm n v f (h.later hW) qs hq
 clear h hq kG bG h0 hin aF
 have lC:∀x:Nat,Bu (L.getD x mS):=fun x=>by
  by_cases q:x<L.length
  ·have e:L.getD x mS=L[x]:=by rw [Yn,uJ q];rfl
   rw [e]
   rcases OL H.o.2.2.1 _ (List.getElem_mem q) with k | ⟨y,k⟩
   ·exact H.o.2.2.2.2 _ ((H.o.2.1.U5 _).2 k)
   exact H.o.2.2.2.2 _ ((H.o.2.1.U5 _).2 (by rw [H.o.1.U9.aaa.Y9 y _ k];exact k))
  have e:L.getD x mS=mS:=by rw [Yn,List.getElem?_eq_none zj];rfl
  rw [e];exact ⟨zo,zo,zo⟩
 refine (callsIn_wide (n:=4)).1 ?_;refine callsIn_of_wp_marks func106 rfl trivial ?_ rfl;simp only [ntmps106,Zl,Za,Zq,Nat.reduceAdd,Nat.reduceSub,Zv,Zw,ZD,ZA,ZF,ZE]
 gi_wp2_with (first
  | (refine ⟨trivial,?_⟩;gi_at_call 135;refine ((callsIn_wide (n:=4 - 1)).2 h1).mono ?_;rintro e w1 ⟨rfl,hw1⟩;obtain rfl:=hw1.symm)
  | (refine ⟨trivial,?_⟩;gi_at_call 143;refine ((callsIn_wide (n:=4 - 1)).2 h2).mono ?_;rintro e w2 ⟨rfl,hb2⟩;have h3:=H3.o w2 hb2)
  | (refine ⟨trivial,?_⟩;gi_at_call 129;refine ((callsIn_wide (n:=4 - 1)).2 h3).mono ?_;rintro e w3 ⟨u,rfl,H4⟩;obtain ⟨ao,cap,rfl,hP⟩:=H4.o.1.abX)
  | (refine ⟨trivial,?_⟩;gi_at_call 144;refine ((callsIn_wide (n:=4 - 1)).2 (LK _ bt l8)).mono ?_;rintro e w4 ⟨rfl,rfl⟩))
 obtain ⟨B,hB⟩:=za w3.heap.size;obtain ⟨w4,cZ⟩:=za (((((w3.alloc (.cells #[.slice ao qs.length cap] 209)).alloc (.cells #[qE] 22)).alloc (.cells #[qP bt] 131)).alloc (.cells #[qI l8] 3)));have e4:=zaK w3 (.cells #[.slice ao qs.length cap] 209) (.cells #[qE] 22) (.cells #[qP bt] 131) (.cells #[qI l8] 3)
 have i7:w4.heap.size=B+4:=by rw [cZ,hB];simp
 have eP:qL w3 w4:=qd;rw [<-cZ,<-hB] at e4;rw [<-cZ,<-hB];obtain ⟨k1,k2,k3,k4⟩:=e4;have e1:Boxed w4 B 209 (.slice ao qs.length cap):=k1;have e2:Boxed w4 (B+1) 22 qE:=k2;have e3:Boxed w4 (B+1+1) 131 (qP bt):=k3;have e5:Boxed w4 (B+1+1+1) 3 (qI l8):=k4;have cu:=(zi hb2 H4.o.2).trans (eP.mono uj);have V4:=H.o.1.later cu;have hwB:w.heap.size<=B:=uj;have hP4:=hP.later eP
 have H6:Aside (Q9 w3 ao qs/\qL w3 w4/\B=w3.heap.size):=⟨hP,eP,hB⟩
 have H5:Aside (Q9 w4 ao qs/\qL w w4/\Boxed w4 B 209 (.slice ao qs.length cap)/\w4.heap.size=B+4/\w.heap.size<=B):=⟨hP4,cu,e1,i7,hwB⟩
 have hbt:=H.o.1.cell.lt;have hbm:=H.o.1.map.lt;clear cZ hB k1 k2 k3 k4 hP hb2 h1 h2 h3 eP
 refine wpIn_rangeFunc_ownH rfl zj (gf:=199) (lb:= #[qP (B+1+1),qP (B+1+1+1)]) rfl trivial (enters_of func199 zk rfl)
  (TF (4 - 1) zj (B+1+1) (B+1+1+1) bt bm n f l8 L H.o.2.2.1 H.o.1.U9.aaa H.o.2.2.2.1 (fun k=>k<B+4/\k≠B+1) ⟨zj,zj⟩ ⟨zj,zj⟩ ⟨zj,zj⟩ ⟨zj,zj⟩ w4 (fun k hk=>by rw [i7];exact hk.1) e3.cell e5.cell V4.cell.c0 V4.map) J9.trans (fun W l o o' hl ho hc _=>J9.put (N:=B+4) (fun k hk=>hk.1) W l o o' zj ho hc) (uM _ _) (fun _=>rfl)
  (fun pre W=>∃v,aap w4 B qs L pre v W)
  (fun _ _ _=>False)
  (aap.I8 w4 B i7 qs L)
  (fun _ _ _ _ _ hs _ _=>hs)
  ⟨_,e2,Zi w4 _ _ _,uL _,m7.refl _ _⟩
  (fun x a' W=>∃Bx,w4.heap.size<=Bx/\x8 W Bx (L.getD x mS)/\a'= {tmps:= #[qP br,qI l8,undef,undef,.string ⟨#[]⟩,.bool false,qP bt,qP B,qP (B+1),qP Bx,qP br,.bool false,qI l8,.bool false,qP br,qP bt,qP bt,qI l8,.bool true,.bool false,qP bt,.slice ao qs.length cap,qP bt,qI l8,.func (.func 199) #[] #[qP (B+1+1),qP (B+1+1+1)],pG (L.getD x mS),undef,undef,undef,undef,undef,undef,undef,undef,undef,undef,undef],defers:=[]})
  (fun x a'=>Own.from (fun _ X Y row hs hg hr=>zZ) _)
  ?assign ?body ?done ?stop
 case assign=>
  rintro l pre x W K ⟨v0,hA⟩ hK;have dl:Aside _:=hK;have hsz:=hA.size;clear hK;obtain ⟨p,hp⟩:=za (L.getD x mS);rw [<-hp];rw [<-hp] at dl;obtain ⟨nd,j,s⟩:=p;unfold pG;dsimp only;gi_wp2;rw [Oper.semAt_eq _ _ _ (fun c h=>qa)];go_simp;gi_wp2;rw [Oper.semAt_eq _ _ _ (fun c h=>qa)];go_simp;gi_wp2;refine dl.o _ _ ((KeepsOthers.alloc _ _).from _) (J9.m8 (fun k hk=>by have:=hk.1;omega) (zh W _)) ⟨v0,hA.F3.alloc _,hA.row.alloc _,by rw [Zt];omega,hA.F9.alloc _⟩ ⟨W.heap.size,zj,heap_alloc_new W _,rfl⟩
 case body=>
  rintro l pre x a' W hl _ ⟨v0,hA⟩ ⟨Bx,hBx,hE,rfl⟩ hlt;have hfq:=lC x;have hBW:=H5.o.2.1.trans (hA.F9.m8 H5.o.2.1.size (fun k e=>by have:=H5.o.2.2.2.2;omega));have hPW:=H6.o.1.later (H6.o.2.1.trans (hA.F9.m8 H6.o.2.1.size (fun k e=>by have:=H6.o.2.2;omega)));have gI:qL W W.drew:=(uM _ W).drew;have bg:=Du W.drew ao cap qs (L.getD x mS) (hPW.later gI) zj hfq.1 hfq.2.1 hfq.2.2 (HT.o _ (zi hBW gI));have hns:=KO (qs:=qs) hfq
  have HW:Aside (aap w4 B qs L pre v0 W/\x8 W Bx (L.getD x mS)):=⟨hA,hE⟩
  have g1:W.drew.cell? (qB (B+1))=some v0:=hA.F3.cell;have g2:W.drew.cell? (qB B)=some (.slice ao qs.length cap):=(uS (a:=(qB B)) (hA.F9.block B zj zj)).trans H5.o.2.2.1.cell;have x0:W.drew.cell? (qB Bx)=some (qI (L.getD x mS).1):=hE.c0;have x1:W.drew.cell? (qA Bx 1)=some (qI (L.getD x mS).2.1):=hE.c1;have x2:W.drew.cell? (qA Bx 2)=some (.string (L.getD x mS).2.2):=hE.c2;obtain ⟨nm,dM⟩:=za (nmB qs (L.getD x mS));rw [<-dM] at bg hns;have HN:=Lib.hid dM;have hlen:pre.length<=1000:=un;clear dM hA hE hPW gI hfq;generalize L.getD x mS=p at bg x0 x1 x2;obtain ⟨nd,j,s⟩:=p;unfold pG at bg;dsimp only at bg x0 x1 x2;have n1:¬9223372036854775807<1+nm.size:=zj;gi_wp2;refine Ac (z:=7) (S:=fun w'=>w'.cell? (qB (B+1))=some v0/\w'.cell? (qB B)=some (.slice ao qs.length cap)/\w'.cell? (qB Bx)=some (qI nd)/\w'.cell? (qA Bx 1)=some (qI j)/\w'.cell? (qA Bx 2)=some (.string s)) zk zk xQ ⟨g1,g2,x0,x1,x2⟩ (fun aa=> ?_);clear g1 g2 x0 x1 x2;refine mV (i:=0) (v:= ?v0) zo zk rfl zk zk zk zk (fun _ _ _ h=>h) (Or.inl ⟨zt,?hy0⟩) aa ?rest0
  case hy0=>(intro w' ab;obtain ⟨k0,k1,k2,k3,k4⟩:=ab;go_simp;try with_reducible rfl)
  refine qn ?_;refine mV (i:=1) (v:= ?v1) zo zk rfl zk zk zk zk (fun _ _ _ h=>h) (Or.inl ⟨zt,?hy1⟩) aa ?rest1
  case hy1=>(intro w' ab;obtain ⟨k0,k1,k2,k3,k4⟩:=ab;go_simp;try with_reducible rfl)
  refine qn ?_;refine mV (i:=2) (v:= ?v2) zo zk rfl zk zk zk zk (fun _ _ _ h=>h) (Or.inl ⟨zt,?hy2⟩) aa ?rest2
  case hy2=>(intro w' ab;obtain ⟨k0,k1,k2,k3,k4⟩:=ab;go_simp;try with_reducible rfl)
  refine qn ?_;refine lN (i:=3) zk rfl (fun K hK=> ?_);go_simp;refine bg.mono ?_;clear bg;rintro e w5 ⟨rfl,hb5⟩;have hb:qL W w5:=((uM _ W).drew).trans (hb5.mono zg)
  have hS5:w5.cell? (qB (B+1))=some v0/\w5.cell? (qB B)=some (.slice ao qs.length cap)/\w5.cell? (qB Bx)=some (qI nd)/\w5.cell? (qA Bx 1)=some (qI j)/\w5.cell? (qA Bx 2)=some (.string s):=⟨lO hb5 aa.1,lO hb5 aa.2.1,lO hb5 aa.2.2.1,lO hb5 aa.2.2.2.1,lO hb5 aa.2.2.2.2⟩
  obtain ⟨g,cap',w6,ae,jU,hf6,HO⟩:=Pe HW.o.1 i7 hb x hlen (fun k=>k<B+4/\k≠B+1) (fun k hk=>hk) 22;rw [<-HN.o] at ae;refine hK _ _ (.inl hS5) ?_;clear hK K hb5;refine qn ?_;refine lY (i:=4) (v:= ?v4) zo rfl zk zk zk (fun _ _ _ h=>h) (Or.inl ⟨zt,?hy4⟩) hS5 ?rest4
  case hy4=>(intro w' _;go_simp;try with_reducible rfl)
  refine qn ?_;have hba:qL w5 (w5.alloc (.cells #[.string (⟨#[47]⟩++nm)] 9)):=zh w5 _;refine lN (i:=5) zk rfl (fun K hK=> ?_);go_simp;refine hK _ _ (.inl ⟨lO hba hS5.1,lO hba hS5.2.1,lO hba hS5.2.2.1,lO hba hS5.2.2.2.1,lO hba hS5.2.2.2.2⟩) ?_;clear hK K hba;refine qn ?_;refine lN (i:=6) zk rfl (fun K hK=> ?_);rw [if_pos zt];simp only [ZR,ZU,ZW];refine Lib.wp_append_run _ _ _ _ _ rfl v0 (qG w5.heap.size 1 1) rfl rfl _ w6 ae ?_
  have hS6:w6.cell? (qB (B+1))=some v0/\w6.cell? (qB B)=some (.slice ao qs.length cap)/\w6.cell? (qB Bx)=some (qI nd)/\w6.cell? (qA Bx 1)=some (qI j)/\w6.cell? (qA Bx 2)=some (.string s):=by
   have eB:=HO.o.2.2.2.1;have eX:=HO.o.2.2.2.2 Bx _ HW.o.2;exact ⟨jU,(uS (a:=(qB B)) eB).trans aa.2.1,(uS (a:=(qB Bx)) eX).trans aa.2.2.1,(uS (a:=(qA Bx 1)) eX).trans aa.2.2.2.1,(uS (a:=(qA Bx 2)) eX).trans aa.2.2.2.2⟩
  refine hK _ _ (.inl hS6) ?_;clear hK K ae;refine qn ?_;refine lN (i:=7) zk rfl (fun K hK=> ?_);go_simp;refine hK _ _ (.inr ⟨rfl,zo⟩) ?_;clear hK K;refine nZ zk ?_ _;exact ⟨HO.o.2.1.from _,HO.o.2.2.1,_,HO.o.1⟩
 case done=>
  rintro D ys W hD hall ⟨v0,hA⟩ hK;subst hall
  have hLn:1<=L.length:=by
   cases L with
   | nil=>exact absurd HI.o (BT H.o.2.2.1)
   | cons a r=>simp
  obtain ⟨xs,hxs⟩:=za (Uw qs L (List.range L.length))
  have dw:xs.length=L.length:=by rw [hxs];simp [Uw]
  have hrow:=hA.row;rw [List.length_range,<-hxs] at hrow
  obtain ⟨g,ep,hv0,dH,hgB,lh⟩:∃g ep,v0=qG g L.length ep/\(∃cs t fr,W.heap[g]? =some (.cells cs t fr))/\B+4<=g/\L.length<=ep:=by
   rcases hrow.2 with ⟨_,h0⟩ | ⟨g,ep,cur,h0,hg0,hgb,hcc,_⟩
   ·omega
   exact ⟨g,ep,h0,⟨_,_,_,hgb⟩,hg0,hcc⟩
  subst hv0
  have hc:∀(j:Nat) x,xs[j]? =some x->W.cell? (qA g j)=some (.string x):=fun j x hj=>by
   have hl:=(uI.1 hj).1;rw [hrow.cellAt j zj];have:=mi (enc:=zaT) (k:=1) (fun _=>rfl) hj (c:=0) zj;rw [Nat.mul_one,ZC] at this;rw [this];rfl
  have hrev:=Xx W g ep xs hc (fun j=>hrow.frozenAt j) un;rw [dw] at hrev;have g1:=hA.F3.cell
  have HA:Aside (aap w4 B qs L (List.range L.length) (qG g L.length ep) W/\xs=Uw qs L (List.range L.length)/\xs.length=L.length/\(∃cs t fr,W.heap[g]? =some (.cells cs t fr))/\B+4<=g/\L.length<=ep/\W.heap[D]? =some (.deferred (some []))/\w4.heap.size<=D):=⟨hA,hxs,dw,dH,hgB,lh,hK,hD⟩
  clear hc hrow hxs dH hgB lh hK hA dw;gi_wp2_with fail;refine ⟨trivial,?_⟩;refine ((callsIn_wide (n:=3)).2 hrev).mono ?_;clear hrev;rintro e w7 ⟨rfl,H7⟩
  have hgD:D≠g:=fun e=>by
   obtain ⟨cs,t,fr,q⟩:=HA.o.2.2.2.1;rw [<-e,HA.o.2.2.2.2.2.2.1] at q
   cases q
  have jq:=H7.o.2.block (B+1) HA.o.1.F3.lt (by have:=HA.o.2.2.2.2.1;omega);have g7:=(uS (a:=(qB (B+1))) jq).trans g1;have hD7:=(H7.o.2.block D (uK.1 HA.o.2.2.2.2.2.2.1).1 hgD).trans HA.o.2.2.2.2.2.2.1
  have eN:(Lib.join (xs.reverse.map (·.data.toList)) []).length<=140737488355328:=by
   rw [OO]
   have h1:=DO (m:=2001) (xs.reverse.map (·.data.toList)) (fun y hy=>by
    obtain ⟨x,hx,rfl⟩:=Zj.1 hy
    rw [List.mem_reverse,HA.o.2.1] at hx
    unfold Uw at hx
    obtain ⟨q,_,rfl⟩:=Zj.1 hx
    have hfq:=lC q
    have:=KO (qs:=qs) hfq
    have e1:(⟨#[47]⟩:qY).size=1:=rfl
    show (⟨#[47]⟩++nmB qs (L.getD q mS):qY).data.toList.length<=2001
    rw [ot,ByteArray.size_append]
    omega)
   rw [Zh,List.length_reverse,HA.o.2.2.1] at h1;have:=HL.o;omega
  have iB:=Tryz.strings_Join g 0 ep xs.reverse ⟨#[]⟩ w7 (fun j x hj=>by rw [Zc];exact H7.o.1 j x hj) (by obtain ⟨cs,t,fr,q⟩:=HA.o.2.2.2.1;exact uT (uK.1 q).1 H7.o.2.size) (by rw [List.length_reverse,HA.o.2.2.1];have:=HL.o;omega) (by rw [List.length_reverse,HA.o.2.2.1];exact HA.o.2.2.2.2.2.1) eN;rw [List.length_reverse,HA.o.2.2.1] at iB;clear g1 eN;gi_wp2_with fail;refine ⟨trivial,?_⟩;refine ((callsIn_wide (n:=3)).2 iB).mono ?_;clear iB;rintro e w8 ⟨rfl,hb8⟩;gi_wp2
  have hb48:qL w w8:=by
   have h1:=H5.o.2.1.trans (HA.o.1.F9.m8 H5.o.2.1.size (fun k e=>by have:=H5.o.2.2.2.2;omega));have h2:=h1.trans (H7.o.2.m8 h1.size (fun k e=>by have:=H5.o.2.2.2.2;have:=HA.o.2.2.2.2.1;omega));exact zi h2 hb8
  have hD8:=(hb8.block D (uK.1 hD7).1).trans hD7;refine ⟨zr,.inl ⟨_,_,rfl,run_takeDeferred hD8,?_⟩⟩;refine ⟨.tuple #[.string ⟨(Lib.join (xs.map (fun x:ByteArray=>x.data.toList)).reverse []).toArray⟩,.bool true],by simp [results,f106,go_sem],?_,?_⟩
  ·unfold Pn;rw [<-HA.o.2.1,List.map_reverse]
  exact hb48.trans (belowK_b (w:=w) zg w8 D _ _ (by have:=H5.o.2.2.2.2;have:=HA.o.2.2.2.2.2.2.2;omega) hD8 rfl rfl)
 simp_all

end