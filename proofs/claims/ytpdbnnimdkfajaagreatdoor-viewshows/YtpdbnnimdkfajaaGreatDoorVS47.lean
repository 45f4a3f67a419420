import Derived.Test.YtpdbnnimdkfajaaGreatDoorVS46
set_option linter.unusedSimpArgs false
set_option linter.unusedVariables false
set_option maxRecDepth 100000
set_option maxHeartbeats 64000000
namespace Go.Proofs.YtpdbnnimdkfajaaGreatDoor
open Go.Proofs.Tryz
variable {m:Int} {qs:List Plc} {f:Sta}
section
open Go.RowKit
open scoped Classical
structure EnvV (m:Int) (w:World):Prop where
 tab:Lib.TabIs prog w "internal/strconv.uint64pow10" .u64 Lib.pow10Tab
 max:w.cell? ⟨13,0,none⟩=some (.int .i64 m)
theorem EnvV.later {w w':World} (h:EnvV m w) (hb:Below w.heap.size w w'):EnvV m w':=⟨Lib.tabBelow_of_tabIs h.tab w' hb,cellKept hb h.max⟩
theorem pathL_len {L:List Plc} (h:∀p∈L,FineQ p):(pathL qs L).length<=L.length*2001:=by
 rw [pathL_is]
 have h1:=flatten_le (m:=2001) ((namesOf qs L).map (47:: ·)) (fun y hy=>by
  obtain ⟨z,hz,rfl⟩:=jO.1 hy
  unfold namesOf at hz
  rw [List.mem_reverse] at hz
  obtain ⟨p,hp,rfl⟩:=jO.1 hz
  have:=nmB_size (qs:=qs) (h p hp)
  rw [jK,listLen]
  omega)
 have e:((namesOf qs L).map (47:: ·)).length=L.length:=by simp [namesOf]
 rw [e] at h1
 exact h1
theorem find_path (w:World) (br bt bm n:Nat) (v:Value) (f:Sta) (h:ViewAt w br bt bm n v f) (qs:List Plc) (hq:IsPlaces f qs) (hql:qs.length<=300) (x:Int) (L:List Plc) (hu:UpL f x L) (hi:Ins f x 0) (m:Int) (hE:EnvV m w):
  Calls prog 33 #[.pointer (some ⟨br,0,none⟩),.string ⟨(pathL qs L).toArray⟩] w fun e w'=>e= .returned (.tuple #[.int .i64 x,.bool true])/\Below w.heap.size w w':=by
 obtain ⟨nm,e1,e2,e3⟩:=path_found h.shown hq hu hi
 have hLl:=up_len h.shown.good hq hu
 have hfL:∀p∈L,FineQ p:=fun p hp=>by
  rcases up_get hu p hp with k | ⟨y,k⟩
  ·exact fineQ_of h.shown hq _ (up_mem h.shown.good hq k)
  exact fineQ_of h.shown hq _ (up_mem h.shown.good hq k)
 have hlen:=pathL_len (qs:=qs) hfL
 have k:=find_in w br bt bm n v f h qs hq hql ⟨(pathL qs L).toArray⟩ nm (by simpa using e1) e2 (by simp only [ByteArray.size,jN];omega) hE.tab m hE.max
 rw [e3] at k
 refine k.mono ?_
 rintro e w' ⟨hh,hb⟩
 rcases hh with ⟨b,rfl,hw⟩ | ⟨_,pre,nm',rest,b,ee,hw,hno⟩
 ·rw [walk_up h.shown hq hu (.inr hi) hw]
  exact ⟨rfl,hb⟩
 exact absurd hno (walk_not h.shown hq hu (.inr hi) ee hw)
def plcA:Plc:=(4,0,⟨#[97]⟩)
def movA:Mov:=((1,0),plcA)
def opA:OpX:=(1,0,1,109,4,0,⟨#[97]⟩,⟨#[]⟩)
theorem one_mov {ms:List Mov} (hb:ByStamp ms) (h1:∀m∈ms,m=movA) (h2:ms≠ []):ms= [movA]:=by
 match ms,hb,h1,h2 with
 | [],_,_,h2=>exact absurd rfl h2
 | [a],_,h1,_=>rw [h1 a zm]
 | a::b::r,hb,h1,_=>
  have:=(jB.1 hb).1 b zm
  rw [h1 a zm,h1 b zm] at this
  exact absurd this slt_irrefl
theorem made_A:madeBy [movA]=upd noSta 4 (some plcA):=by
 show step noSta movA=_
 rw [step_goes]
 ·rfl
 rintro (q | q)
 ·revert q;decide
 exact ins_none zu q
theorem wellA:WellK [opA]:=by
 have h0:errO opA=0:=zo
 refine ⟨fun x hx=> ?_,fun x hx y hy _ _=> ?_,fun x hx=> ?_,fun x hx y hy _ h=> ?_,fun x hx=> ?_⟩
 ·simp only [jD] at hx;rw [hx];exact h0
 ·simp only [jD] at hx hy;rw [hx,hy]
 ·simp only [jD] at hx;rw [hx];exact .inl rfl
 ·simp only [jD] at hx hy;rw [hx,hy] at h;exact absurd h zo
 simp only [jD] at hx
 rw [hx]
 exact ⟨.inl ⟨rfl,zo⟩,fun _=>.inl rfl,fun q=>by rcases q with ⟨q,_⟩ | q<;>revert q<;>decide⟩
theorem placesA:IsPlaces (madeBy [movA]) [plcA]:=by
 rw [made_A]
 refine ⟨zm,fun p=> ?_⟩
 unfold upd
 constructor
 ·intro h
  simp only [jD] at h
  rw [h];rfl
 intro h
 split at h
 ·rw [jD];exact (Option.some.inj h).symm
 simp [noSta] at h
theorem fA:madeBy [movA] 4=some plcA:=by rw [made_A];rfl
theorem fA0:madeBy [movA] 0=none:=by rw [made_A];rfl
theorem insA:Ins (madeBy [movA]) 4 0:=(ins_some fA).2 (.inl rfl)
theorem insA1:¬Ins (madeBy [movA]) 4 1:=fun h=>by
 rcases (ins_some fA).1 h with q | q
 ·revert q;decide
 exact ins_none fA0 q
theorem upA:UpL (madeBy [movA]) 4 [plcA]:=⟨fA,fA0⟩
theorem pathA:pathL [plcA] [plcA]= [47,97]:=by
 rw [pathL_is]
 have:(nmB [plcA] plcA)=⟨#[97]⟩:=by unfold nmB;rw [if_neg zo];rfl
 simp [namesOf,this]
theorem lostA:lostL (madeBy [movA]) [plcA]= []:=by
 unfold lostL
 have:(decide (Ins (madeBy [movA]) plcA.1 1))=false:=decide_eq_false insA1
 simp [this]
theorem looked_any {B:Nat} {ad:Nat->Addr} (w:World) (hE:EnvT B ad w) (hV:EnvV m w):
  Calls prog 28 #[] w fun e w'=>e= .returned (.bool true)/\Below w.heap.size w w':=by
 obtain ⟨S,hS⟩:=za w.heap.size
 obtain ⟨U,hU⟩:=za (w.alloc (.cells #[.int .i64 1,.int .i64 0,.int .i64 1,.int .u8 109,.int .i64 4,.int .i64 0,.string ⟨#[97]⟩,.string ⟨#[]⟩] 38))
 have hbU:Below w.heap.size w U:=zJ
 have hops:OpsAt U (.slice (some ⟨S,0,none⟩) 1 1) [opA]:=by
  have hn:U.heap[S]? =some (.cells #[.int .i64 1,.int .i64 0,.int .i64 1,.int .u8 109,.int .i64 4,.int .i64 0,.string ⟨#[97]⟩,.string ⟨#[]⟩] 38 (0,0)):=by rw [hU,hS];exact heap_alloc_new w _
  refine .inr ⟨S,0,1,rfl,fun j u hj=> ?_⟩
  simp only [World.cell?,jt]
  rw [hn]
  simpa [cellsOf,encX,opA] using hj
 have hrep:=repOf_any U 0 (.slice (some ⟨S,0,none⟩) 1 1) [opA] (hE.later hbU) zi zi hops wellA zm
 have H:Aside (EnvV m U/\Below w.heap.size w U):=⟨hV.later hbU,hbU⟩
 clear hops hE hV hbU
 go_enter func28,ntmps28
 go_wp2_with fail
 rw [<-hU,<-hS]
 clear hU hS
 refine hrep.mono ?_
 clear hrep
 rintro e w1 ⟨c,br,R,rfl,H1⟩
 have hall:=H1.o.2.1
 have hRK:RowsK R:=by obtain ⟨_,_,_,_,_,_,_,_,q,_,_⟩:=H1.o.1.rep;exact q
 have h1R:∀i,i<4->(R i).length<=1:=fun i hi=>by
  rcases vh 1 (R i).length with q | q
  ·have k:=hRK.num i hi 1 _ (ji q)
   have k2:=(hall _).1 (mem_allR.2 ⟨i,hi,vJ q⟩)
   rw [jD] at k2
   rw [k2] at k
   exact absurd k.2.1 zo
  exact q
 have hv:=H1.o.1.rep.view (by
  unfold allR
  simp only [jA]
  have:=h1R 0 zi;have:=h1R 1 zi;have:=h1R 2 zi;have:=h1R 3 zi
  omega)
 obtain ⟨bt,bm,n,v,ms,qs,hA,hpm,hq,hql,hby⟩:=hv
 have hms:ms= [movA]:=by
  refine one_mov hby (fun q hq'=> ?_) (fun e=> ?_)
  ·obtain ⟨x,hx,_,rfl⟩:=mem_movs (hpm.mem_iff.1 hq')
   have:=(hall x).1 hx
   rw [jD] at this
   rw [this];rfl
  have:movA∈ms:=hpm.mem_iff.2 (vO.2 ⟨opA,(hall opA).2 zm,zo⟩)
  rw [e] at this
  cases this
 subst hms
 have hqs:qs= [plcA]:=hq.unique placesA
 subst hqs
 have E1:EnvV m w1:=H.o.1.later H1.o.2.2
 have hfind:=find_path w1 br bt bm n v _ hA [plcA] hq zm 4 [plcA] upA insA m E1
 rw [pathA] at hfind
 have HA:Aside (ViewAt w1 br bt bm n v (madeBy [movA])/\EnvV m w1/\Below w.heap.size w w1):=⟨hA,E1,zh H.o.2 H1.o.2.2⟩
 clear hA hpm hq hql hby E1 H1 H
 go_wp2_with fail
 refine hfind.mono ?_
 clear hfind
 rintro e w2 ⟨rfl,hb2⟩
 have hpath:=path_in w2 br bt bm n v _ (HA.o.1.later hb2) [plcA] placesA zm 4 (wf_of zo zo) zo insA [plcA] upA (HA.o.2.1.later hb2).tab
 rw [pathA] at hpath
 go_wp2_with fail
 refine hpath.mono ?_
 clear hpath
 rintro e w3 ⟨rfl,hb3⟩
 have hb13:Below w1.heap.size w1 w3:=zh hb2 hb3
 have hlist:=list_any w3 br bt bm n v _ (HA.o.1.later hb13) [plcA] placesA zm 0 (HA.o.2.1.later hb13).tab
 have HB:Aside (Below w1.heap.size w1 w3):=hb13
 clear hb2 hb3 hb13
 go_wp2_with fail
 refine hlist.mono ?_
 clear hlist
 rintro e w4 ⟨v',es,rfl,H4⟩
 have hb14:Below w1.heap.size w1 w4:=zh HB.o H4.o.2.2
 have hlost:=lost_any w4 br bt bm n v _ (HA.o.1.later hb14) [plcA] placesA zm
 rw [lostA] at hlost
 obtain ⟨ao,cap,hvs,_⟩:=H4.o.1.isIn
 have hel:es.length=1:=by
  obtain ⟨R',hR',_,rfl⟩:=H4.o.2.1
  rw [jG,hR'.length_eq]
  rfl
 rw [hel] at hvs
 subst hvs
 have HC:Aside (Below w1.heap.size w1 w4):=hb14
 clear hb14 hel
 go_wp2_with fail
 refine hlost.mono ?_
 clear hlost
 rintro e w5 ⟨v5,rfl,H5⟩
 have hb5:Below w.heap.size w w5:=(zh HA.o.2.2 HC.o).trans (H5.o.2.mono (jw HA.o.2.2.size HC.o.size))
 obtain ⟨B5,hrow⟩:=H5.o.1
 obtain ⟨x5,y5,rfl⟩:=rowIs hrow
 clear hrow
 go_wp2
 go_ret
 exact ⟨rfl,hb5⟩
end
section
open Go.RowKit Go.Lib Go.Sort
open scoped Classical
def FindK (qs:List Plc) (path:ByteArray) (n:Int) (is:Bool):Prop:=
 (Lib.hasPrefix path.data.toList [47]=false/\n=0/\is=false)\/(path.data.toList= [47]/\n=0/\is=true)\/
 ∃nm:ByteArray,path.data.toList=47::nm.data.toList/\nm.data.toList≠ []/\((is=true/\WalkTo qs 0 (cutP 47 nm.data.toList) n)\/(is=false/\n=0/\∃pre x rest b,pre++x::rest=cutP 47 nm.data.toList/\WalkTo qs 0 pre b/\NoLead qs b x))
def FofK (qs:List Plc) (path:ByteArray) (k:Int):Prop:=
 (Lib.hasPrefix path.data.toList [47]=false/\k= -1)\/(path.data.toList= [47]/\k=0)\/
 ∃nm:ByteArray,path.data.toList=47::nm.data.toList/\nm.data.toList≠ []/\(WalkTo qs 0 (cutP 47 nm.data.toList) k\/(k= -1/\∃pre x rest b,pre++x::rest=cutP 47 nm.data.toList/\WalkTo qs 0 pre b/\NoLead qs b x))
theorem prefix_of {l r:List UInt8} (h:l=47::r):Lib.hasPrefix l [47]=true:=by rw [h];simp [Lib.hasPrefix]
theorem path_cases (path:ByteArray):Lib.hasPrefix path.data.toList [47]=false\/path.data.toList= [47]\/∃nm:ByteArray,path.data.toList=47::nm.data.toList/\nm.data.toList≠ []:=by
 cases e:path.data.toList with
 | nil=>exact .inl (by simp [Lib.hasPrefix])
 | cons c r=>
  by_cases hc:c=47
  ·subst hc
   cases r with
   | nil=>exact .inr (.inl rfl)
   | cons d r=>exact .inr (.inr ⟨⟨(d::r).toArray⟩,zm,zm⟩)
  refine .inl ?_
  show ((47:UInt8)==c && [].isPrefixOf r)=false
  rw [beq_false_of_ne (fun q=>hc q.symm)];rfl
theorem findK_one (hr:qs.Pairwise (fun a b=>a.1<b.1)) (hf:∀p∈qs,FineQ p) {path:ByteArray} {n k:Int} {is:Bool} (h:FindK qs path n is) (h':FofK qs path k):FoundV n is k:=by
 rcases h with ⟨a1,a2,a3⟩ | ⟨a1,a2,a3⟩ | ⟨nm,a1,a2,a3⟩<;>rcases h' with ⟨b1,b2⟩ | ⟨b1,b2⟩ | ⟨nm',b1,b2,b3⟩
 ·exact .inr ⟨a3,a2,b2⟩
 ·rw [prefix_of b1] at a1;cases a1
 ·rw [prefix_of b1] at a1;cases a1
 ·rw [prefix_of a1] at b1;cases b1
 ·exact .inl ⟨a3,by rw [a2,b2],zi⟩
 ·rw [a1] at b1;exact absurd (List.cons.inj b1).2.symm b2
 ·rw [prefix_of a1] at b1;cases b1
 ·rw [a1] at b1;exact absurd (List.cons.inj b1).2 a2
 rw [a1] at b1
 rw [<-(List.cons.inj b1).2] at b3
 rcases a3 with ⟨c1,c2⟩ | ⟨c1,c2,pre,x,rest,b,c3,c4,c5⟩<;>rcases b3 with d1 | ⟨d1,pre',x',rest',b',d3,d4,d5⟩
 ·exact .inl ⟨c1,walk_fun hr c2 d1,walk_pos hf (Int.le_refl 0) d1⟩
 ·rw [<-d3] at c2;exact absurd d5 (walk_no hr c2 d4)
 ·rw [<-c3] at d1;exact absurd c5 (walk_no hr d1 c4)
 exact .inr ⟨c1,c2,d1⟩
theorem find_all (w:World) (br bt bm n:Nat) (v:Value) (f:Sta) (h:ViewAt w br bt bm n v f) (qs:List Plc) (hq:IsPlaces f qs) (hql:qs.length<=300) (path:ByteArray) (hsz:path.size<=60) (m:Int) (hE:EnvV m w):
  Calls prog 33 #[.pointer (some ⟨br,0,none⟩),.string path] w fun e w'=>∃x is,e= .returned (.tuple #[.int .i64 x,.bool is])/\Aside (FindK qs path x is/\Below w.heap.size w w'):=by
 rcases path_cases path with c | c | ⟨nm,c1,c2⟩
 ·exact (find_bare w br path c).mono fun e w' ⟨h1,h2⟩=>⟨_,_,h1,.inl ⟨c,rfl,rfl⟩,h2⟩
 ·exact (find_root w br path c).mono fun e w' ⟨h1,h2⟩=>⟨_,_,h1,.inr (.inl ⟨c,rfl,rfl⟩),h2⟩
 refine (find_in w br bt bm n v f h qs hq hql path nm c1 c2 zi hE.tab m hE.max).mono ?_
 rintro e w' ⟨h1 | h1,h2⟩
 ·obtain ⟨b,rfl,h3⟩:=h1
  exact ⟨_,_,rfl,.inr (.inr ⟨nm,c1,c2,.inl ⟨rfl,h3⟩⟩),h2⟩
 obtain ⟨rfl,h3⟩:=h1
 exact ⟨_,_,rfl,.inr (.inr ⟨nm,c1,c2,.inr ⟨rfl,rfl,h3⟩⟩),h2⟩
theorem findOf_all (w:World) (b:Nat) (xs:List OpX) (qs:List Plc) (h:RefV w b xs qs) (path:ByteArray) (hsz:path.size<=60):
  Calls prog 34 #[.pointer (some ⟨b,0,none⟩),.string path] w fun e w'=>∃k,e= .returned (.int .i64 k)/\Aside (FofK qs path k/\Below w.heap.size w w'):=by
 rcases path_cases path with c | c | ⟨nm,c1,c2⟩
 ·exact (findOf_bare w b path hsz c).mono fun e w' ⟨h1,h2⟩=>⟨_,h1,.inl ⟨c,rfl⟩,qT⟩
 ·exact (findOf_root w b path c).mono fun e w' ⟨h1,h2⟩=>⟨_,h1,.inr (.inl ⟨c,rfl⟩),qT⟩
 refine (findOf_in w b xs qs h path nm c1 c2 hsz).mono ?_
 rintro e w' ⟨h1 | h1,h2⟩
 ·obtain ⟨b,rfl,h3⟩:=h1
  exact ⟨_,rfl,.inr (.inr ⟨nm,c1,c2,.inl h3⟩),h2⟩
 obtain ⟨rfl,h3⟩:=h1
 exact ⟨_,rfl,.inr (.inr ⟨nm,c1,c2,.inr ⟨rfl,h3⟩⟩),h2⟩
def PathK (f:Sta) (qs:List Plc) (node:Int) (s:ByteArray) (is:Bool):Prop:=
 (node=0/\s=⟨#[47]⟩/\is=true)\/(node≠0/\¬Ins f node 0/\s=⟨#[]⟩/\is=false)\/(node≠0/\Ins f node 0/\is=true/\∃L,UpL f node L/\s=⟨(pathL qs L).toArray⟩)
theorem up_unique {f:Sta} :∀ {L L':List Plc} {x:Int},UpL f x L->UpL f x L'->L=L'
 | [],[],_,_,_=>rfl
 | [],p::r,x,h,h'=>by have h1:f x=none:=h;rw [h'.1] at h1;cases h1
 | p::r,[],x,h,h'=>by have h1:f x=none:=h';rw [h.1] at h1;cases h1
 | p::r,q::r',x,h,h'=>by
  have e:p=q:=Option.some.inj (h.1.symm.trans h'.1)
  subst e
  rw [up_unique h.2 h'.2]
theorem path_all (w:World) (br bt bm n:Nat) (v:Value) (f:Sta) (h:ViewAt w br bt bm n v f) (qs:List Plc) (hq:IsPlaces f qs) (hql:qs.length<=300) (node:Int) (hwf:Wf node) (m:Int) (hE:EnvV m w):
  Calls prog 37 #[.pointer (some ⟨br,0,none⟩),.int .i64 node] w fun e w'=>∃s is,e= .returned (.tuple #[.string s,.bool is])/\Aside (PathK f qs node s is/\Below w.heap.size w w'):=by
 by_cases h0:node=0
 ·subst h0
  exact (path_root w br).mono fun e w' ⟨h1,h2⟩=>⟨_,_,h1,.inl ⟨rfl,rfl,rfl⟩,qT⟩
 by_cases hi:Ins f node 0
 ·obtain ⟨d,hd⟩:=h.shown.good.rank
  obtain ⟨L,hL⟩:=up_exists hd (d node+1) node zi
  exact (path_in w br bt bm n v f h qs hq hql node hwf h0 hi L hL hE.tab).mono fun e w' ⟨h1,h2⟩=>⟨_,_,h1,.inr (.inr ⟨h0,hi,rfl,L,hL,rfl⟩),h2⟩
 exact (path_out w br bt bm n v f h node hwf h0 hi).mono fun e w' ⟨h1,h2⟩=>⟨_,_,h1,.inr (.inl ⟨h0,hi,rfl,rfl⟩),h2⟩
theorem pathOf_all (w:World) (b:Nat) (xs:List OpX) (qs:List Plc) (h:RefV w b xs qs) (f:Sta) (hf:Shown f) (hq:IsPlaces f qs) (hql:qs.length<=200) (node:Int):
  Calls prog 38 #[.pointer (some ⟨b,0,none⟩),.int .i64 node] w fun e w'=>∃t,e= .returned (.string t)/\Aside ((∃is,PathK f qs node t is)/\Below w.heap.size w w'):=by
 by_cases h0:node=0
 ·subst h0
  exact (pathOf_root w b xs qs h).mono fun e w' ⟨h1,h2⟩=>⟨_,h1,⟨_,.inl ⟨rfl,rfl,rfl⟩⟩,h2⟩
 by_cases hi:Ins f node 0
 ·obtain ⟨d,hd⟩:=hf.good.rank
  obtain ⟨L,hL⟩:=up_exists hd (d node+1) node zi
  exact (pathOf_in w b xs qs h f hf hq hql node h0 hi L hL).mono fun e w' ⟨h1,h2⟩=>⟨_,h1,⟨_,.inr (.inr ⟨h0,hi,rfl,L,hL,rfl⟩)⟩,h2⟩
 exact (pathOf_out w b xs qs h f hf hq node h0 hi).mono fun e w' ⟨h1,h2⟩=>⟨_,h1,⟨_,.inr (.inl ⟨h0,hi,rfl,rfl⟩)⟩,h2⟩
theorem pathK_one (hf:Shown f) (hq:IsPlaces f qs) {node:Int} {s t:ByteArray} {is is':Bool} (h:PathK f qs node s is) (h':PathK f qs node t is'):s=t/\is= !decide (t=⟨#[]⟩):=by
 rcases h with ⟨a0,a1,a2⟩ | ⟨a0,a1,a2,a3⟩ | ⟨a0,a1,a2,L,a3,a4⟩<;>rcases h' with ⟨b0,b1,b2⟩ | ⟨b0,b1,b2,b3⟩ | ⟨b0,b1,b2,L',b3,b4⟩
 ·exact ⟨by rw [a1,b1],by rw [a2,b1];decide⟩
 ·exact absurd a0 b0
 ·exact absurd a0 b0
 ·exact absurd b0 a0
 ·exact ⟨by rw [a2,b2],by rw [a3,b2];decide⟩
 ·exact absurd b1 a1
 ·exact absurd b0 a0
 ·exact absurd a1 b1
 obtain rfl:=up_unique a3 b3
 refine ⟨by rw [a4,b4],?_⟩
 obtain ⟨nm,c1,_,_⟩:=path_found hf hq a3 a1
 rw [a2,b4,c1]
 symm
 rw [Bool.not_eq_true',decide_eq_false_iff_not]
 intro e
 have:=congrArg (fun b:ByteArray=>b.data.size) e
 simp at this
end
section
open Go.RowKit Go.Lib Go.Sort Go.Maps
open scoped Classical
