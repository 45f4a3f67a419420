import Derived.Test.YtebpcnkdhgnghaaGreatDoorPM11
import Derived.Test.YtebpcnkdhgnghaaGreatDoorPM13
import Derived.Test.YtebpcnkdhgnghaaGreatDoorPM14
import Derived.Test.YtebpcnkdhgnghaaGreatDoorPM15
set_option linter.unusedSimpArgs false
set_option linter.unusedVariables false
set_option maxRecDepth 100000
set_option maxHeartbeats 64000000
namespace Go.Proofs.YtebpcnkdhgnghaaGreatDoor
open Go.Proofs.Tryz
variable {T T' by_:Int} {ls:List (List UInt8)} {ms:List Mov} {A A' xs ys:List OpX} {B:List UInt8} {b base bc br bt bx cap cm g i k m n nx p:Nat} {c':Nat→Nat} {kv:Nat→Value} {o:OpX} {R:Rws} {tx:kr} {v:Value} {w w' w1:World}
section
open Go.RowKit Go.Maps
open scoped Classical
theorem LW (w:World) (base bt bm n at_:Nat) (v:Value) (ms:List Mov) (L:List Ent) (hT:TreeCell w bt bm v) (hL:LogTo ms ms.length L) (hR:w.ownsRow base 300 8 v ms.length (aI gE L)) (hM:MapAt prog 3 w bm n (aO ms)) (hfine:∀m∈ms,FineP m.2) (hat:at_<=ms.length) (hlen:ms.length<=1000) (hn:n<=1000000):
  Calls prog 200 #[.pointer (some ⟨bt,0,none⟩),.int .i64 (at_:Int)] w fun e w'=>(∃u,e= .returned u)/\MapAt prog 3 w' bm (n+(ms.length - at_)) (aO (ms.take at_))/\Keeps (fun k=>k=bm) w w':=by
 have hll:(L.drop at_).length=ms.length - at_:=by rw [ur,hL.len]
 have hent:∀r,r<ms.length - at_->∃x,cE (L.drop at_) r=x/\L[ms.length - 1 - r]? =some x:=fun r hr=>by
  have:=oQ (L:=L.drop at_) (r:=r) zj;rw [uP,hll] at this;exact ⟨_,rfl,by rw [<-this];congr 1;omega⟩
 have hF:∀r,r<(L.drop at_).length->JJ (aO (ms.take (ms.length - r))) (cE (L.drop at_) r).1.2.1 (cE (L.drop at_) r).2=aO (ms.take (ms.length - (r+1))):=fun r hr=>by
  obtain ⟨x,h1,h2⟩:=hent r zj;rw [h1];have hmx:=hL.mov h2;have hfr:=hL.from_ _ x zj h2;rw [mM hmx] at hfr;have hmt:=rE hmx;have hg:gj (aO (ms.take (ms.length - 1 - r))):=fl (fun m hm=>hfine m (Zg hm));rw [show ms.length - 1 - r+1=ms.length - r by omega] at hmt;rw [hmt,hfr,show ms.length - (r+1)=ms.length - 1 - r by omega];exact GV hg
 have hwf:∀r,Wf (cE (L.drop at_) r).1.2.1:=fun r=>by
  by_cases hr:r<ms.length - at_
  ·obtain ⟨x,h1,h2⟩:=hent r hr;rw [h1];exact (ib (hfine _ (vH (hL.mov h2)))).1
  by_cases h0:(L.drop at_).length=0
  ·have:L.drop at_= []:=vZ.1 h0;rw [this];exact (show Wf 0 from wR zr zr)
  have hz:(L.drop at_)[(L.drop at_).length - 1 - r]? =some (cE (L.drop at_) r):=by
   exact kh9
  rw [uP] at hz;exact (ib (hfine _ (vH (hL.mov hz)))).1
 have h0:aO (ms.take (ms.length - 0))=aO ms:=by rw [Nat.sub_zero,uU]
 have hM0:MapAt prog 3 w bm n ((fun r=>aO (ms.take (ms.length - r))) 0):=by show MapAt _ _ _ _ _ (aO (ms.take (ms.length - 0)));rw [h0];exact hM
 have fin:∀g off (ao bo:Option Addr) (cap:Nat),v= .slice ao ms.length cap->(if cap=at_ then ao else Option.map (fun x=>x.add (at_*8)) ao)=bo->(L.drop at_= []\/bo=some ⟨g,off,none⟩)->g<w.heap.size->g≠bm->RowAt w g off (L.drop at_)->
   Calls prog 200 #[.pointer (some ⟨bt,0,none⟩),.int .i64 (at_:Int)] w fun e w'=>(∃u,e= .returned u)/\MapAt prog 3 w' bm (n+(ms.length - at_)) (aO (ms.take at_))/\Keeps (fun k=>k=bm) w w':=fun g off ao bo cap hv hbo hao hg hgm hrow=>by
  refine (EJ w bt bm g off cap at_ ms.length n ao bo (L.drop at_) (fun r=>aO (ms.take (ms.length - r))) hat hll.symm hlen hn hT.c0 (by rw [<-hv];exact hT.c1) hbo hao hg hgm hrow hM0 hF hwf).mono ?_;rintro e w' ⟨h1,h2,h3⟩;rw [hll] at h2;rw [show ms.length - (ms.length - at_)=at_ by omega] at h2;exact ⟨h1,h2,h3⟩
 have hempty:ms.length=at_->L.drop at_= []:=fun h=>vZ.1 (by rw [hll];omega)
 have hRow0:L.drop at_= []->∀g off,RowAt w g off (L.drop at_):=fun h g off j u hj=>by rw [h] at hj;simp [aI] at hj
 rcases hR.2 with ⟨hv,h0⟩ | ⟨g,cap,cur,hv,_,hg,hnc,_⟩
 ·exact fin bt 0 none none 0 (by rw [hv,h0]) zt (.inl (hempty zj)) hT.lt (hT.ne_map hM) (hRow0 (hempty zj) _ _)
 subst hv;have hgl:g<w.heap.size:=(vD.1 hg).1;have hgm:=eu hR hM;by_cases hc:cap=at_
 ·exact fin g 0 (some ⟨g,0,none⟩) _ cap rfl rfl (.inl (hempty zj)) hgl hgm (hRow0 (hempty zj) _ _)
 refine fin g (at_*8) (some ⟨g,0,none⟩) (some ⟨g,at_*8,none⟩) cap rfl (by rw [if_neg hc,Zu,Addr.add_lit,vQ]) (.inr rfl) hgl hgm (fun j u hj=> ?_);have:=AY hR (at_*8+j) u (by rw [<-dB ed L at_ (by rw [hL.len];exact hat),uP] at hj;exact hj);rwa [vQ] at this
theorem Ev:Jm:=LW
end
section
open Go.RowKit Go.Shelf Go.Maps
theorem dR {P:Program} (w:World) (base:Nat) (t ty e:TypeId) (i:TypeInfo) (z:Value) (size bytes:Nat) (ht:P.underlying t=some (.slice e)) (hi:P.info? e=some i) (hz:i.zero=some z)
  (hsize:i.size=size) (hby:i.bytes=bytes) (hzs:z.cells.size=size) (hsz:0<size)
  (v:Value) (n:Nat) (xs:List Value) (hown:w.ownsRow base e size v n xs)
  (a:Addr) (m c:Nat) (hm0:0<m) (news:List Value) (hl:news.length=m*size) (hnews:∀j u,news[j]? =some u->w.cell? (a.add j)=some u) (h1:∀u∈news,u.oneCell'=true)
  (h63:n+m<=maxLen) (hbytes:(n+m)*bytes<=140737488355328) (hbase:base<=w.heap.size):
  ∃v' w',(Builtin.append_ #[t,t] ty #[v,.slice (some a) m c]).run P w= .ok v' w'/\w'.ownsRow base e size v' (n+m) (xs++news)/\w.grownBy w' v.ownBlock/\
   ((∃g cap,v= .slice (some ⟨g,0,none⟩) n cap/\v'= .slice (some ⟨g,0,none⟩) (n+m) cap)\/(v'.ownBlock=some w.heap.size/\w.grownBy w' none)):=by
 obtain ⟨v',w',hrun,h',hg',-⟩:=run_append_own (P:=P) w base t ty e i z size bytes ht hi hz hsize hby hzs hsz v n xs hown a m c news hl hnews h1 h63 hbytes hbase;refine ⟨v',w',hrun,h',hg',?_⟩;subst hsize;subst hby
 have hsmall:n+m<=9223372036854775807:=by simp only [maxLen] at h63;omega
 rcases hown.2 with ⟨rfl,rfl⟩ | ⟨g,cap,cur,rfl,hbg,hg,hnc,hcm,hcs,htake⟩
 ·have hr:=run_append_nil (P:=P) w t ty e i z ht hi hz a m c news hl hnews zj zj xN;exact ki2
 by_cases hroom:n+m<=cap
 ·have hfit:n*i.size+news.length<=cur.size:=by rw [hl,hcs,<-Zz];exact uC _ hroom
  have hr:=run_append_room (P:=P) w t ty e i ht hi g n cap cur hg a m c news hl hnews h1 hroom hfit;rw [hr] at hrun;simp only [Result.ok.injEq] at hrun;exact .inl ⟨g,cap,rfl,hrun.1.symm⟩
 have holds:∀j u,xs[j]? =some u->w.cell? ((⟨g,0,none⟩:Addr).add j)=some u:=hown.cells (g:=g) rfl;have hr:=run_append_grow (P:=P) w t ty e i z ht hi hz ⟨g,0,none⟩ n cap xs hown.1 holds a m c news hl hnews zj zj (growslice_fits zj hbytes);exact ki2
theorem sv (h:w.ownsRow base 61 8 (.slice (some ⟨g,0,none⟩) m cap) m (cellsOf (xs++ys))) (hn:n=xs.length) (hm:m=n+ys.length):w.ownsRow base 61 8 (.slice (some ⟨g,0,none⟩) n cap) n (cellsOf xs):=by
 refine ⟨by rw [aD,hn],.inr ?_⟩
 rcases h.2 with ⟨h1,_⟩ | ⟨g',cap',cur,e,h1,h2,h3,h4,h5,h6⟩
 ·cases h1
 cases e
 refine ⟨g,cap,cur,rfl,h1,h2,zj,h4,h5,?_⟩;have:=congrArg (List.take (n*8)) h6;rw [List.take_take,Nat.min_eq_left zj,ci,ux (by rw [aD];omega)] at this;rw [this,vT (by rw [aD];omega)]
theorem oU (w:World) (Bs g off cap:Nat) (ao:Option Addr) (L:List OpX) (hlen:L.length<=1000) (hao:L= []\/ao=some ⟨g,off,none⟩) (hBs:Bs<w.heap.size) (hg:g<w.heap.size) (hc:w.cell? ⟨Bs,0,none⟩=some (.slice ao L.length cap)) (hI:OpsRow w g off L):
  Calls prog 125 #[.func (.func 192) #[] #[.pointer (some ⟨Bs,0,none⟩)],.func (.func 127) #[] #[]] w fun e w'=>∃fa fc qs,e= .returned (.slice fa L.length fc)/\qs.Perm L/\qs.Pairwise (fun a b=>aw a<=aw b)/\OpsIn w' fa qs/\(∀a,fa=some a->w.heap.size<=a.block)/\Below w.heap.size w w':=by
 have hcl:=nZ w Bs g off cap ao L hlen hao hBs hg hc hI;go_enter func125,ntmps125;go_wp2_with fail;refine hcl.mono ?_;clear hcl;rintro e w1 ⟨v,rfl,hown,hb⟩
 rcases hown.2 with ⟨rfl,h0⟩ | ⟨g',cap',cur,rfl,hbg,-⟩
 ·have hps:L= []:=vZ.1 h0
  have HB:Aside (Below w.heap.size w w1/\L= []):=⟨hb,hps⟩
  clear hown hb hps h0;go_wp2_with (go_at_call 191;refine (sh none 0 _ _).mono ?_;rintro e w' ⟨rfl,rfl⟩);go_ret;exact ⟨none,0,[],by rw [HB.o.2];rfl,by rw [HB.o.2],List.Pairwise.nil,.inl rfl,fun a e=>absurd e zt,HB.o.1⟩
 have hs:=MI w1 w.heap.size g' cap' L hown zj;have hgl:=(hown.lt g' rfl).2
 have HH:Aside (Below w.heap.size w w1/\w.heap.size<=g'/\g'<w1.heap.size):=⟨hb,hbg,hgl⟩
 clear hown hb hbg hgl;go_wp2_with fail;refine hs.mono ?_;clear hs;rintro e w2 ⟨rfl,qs,hp,hpw,hcells,hk⟩
 have H2:Aside (qs.Perm L/\qs.Pairwise (fun a b=>aw a<=aw b)/\OpsIn w2 (some ⟨g',0,none⟩) qs/\Below w.heap.size w w2):=⟨hp,hpw,.inr ⟨g',0,rfl,fun j u hj=>by rw [vQ];exact hcells j u hj⟩,HH.o.1.trans (hk.below HH.o.1.size (fun k e=>by have:=HH.o.2.1;omega))⟩
 clear hp hpw hcells hk;go_wp2;go_ret;exact ⟨_,_,qs,rfl,H2.o.1,H2.o.2.1,H2.o.2.2.1,fun a e=>by cases e;exact HH.o.2.1,H2.o.2.2.2⟩
theorem FreshK.perm {S F G:List OpX} (h:FreshK S F) (e:G.Perm F):FreshK S G:=
 ⟨fun x hx=>h.ok x (e.mem_iff.1 hx),fun x hx=>h.off x (e.mem_iff.1 hx),(e.pairwise_iff (fun {a b} h q=>h ⟨q.1.symm,q.2.symm⟩)).2 h.one⟩
end
section
open Go.RowKit Go.Shelf Go.Maps
section
variable {P:Program} {ops:Array Oper} {Q:Exit→Act→World→Prop} {md:Region.Mode} {S:World→Prop} {z:Nat}
theorem wM {o:Oper} {fuel:Nat} {listed:Array Bool} {a:Act} (hr:Region.ready md ops listed= [i]) (ho:ops[i]? =some o) (hz:listed.getD z false=true)
  (h:∀K:Act->World->Prop,(∀a' w',cR P md ops Q S z fuel (listed.setIfInBounds i true) a' w'->K a' w')->if Region.wanted o (yielded ops a.tmps)=true then Oper.wp P o a w K Q else K (a.put o.dst undef) w):cR P md ops Q S z (fuel+1) listed a w:=by
 refine ⟨fun h0=>qg,fun j hj=> ?_⟩;rw [hr] at hj;simp only [vR] at hj;subst hj;have:=h (fun a' w'=>(S w'\/(listed.setIfInBounds j true).getD z false=true)/\cR P md ops Q S z fuel (listed.setIfInBounds j true) a' w') (fun a' w' h2=>⟨.inr (iN hz),h2⟩);unfold wpOp;simp only [ho];split
 ·rename_i hw;exact kh0
 rename_i hw;exact ki7
end
theorem Kj:(prog.info? 9).map (fun i=>(i.zero,i.size,i.bytes))=some (some (.string ⟨#[]⟩),1,16):=zo
def CF (ls:List (List UInt8)):List Value:=ls.map fun l=>.string ⟨l.toArray⟩
theorem Fe (a b:List (List UInt8)):CF (a++b)=CF a++CF b:=un
structure TellSt (b:Nat) (ls:List (List UInt8)) (v:Value) (w:World):Prop where
 box:Boxed w b 102 v
 row:w.ownsRow (b+1) 9 1 v ls.length (CF ls)
theorem TellSt.lt (h:TellSt b ls v w):b<w.heap.size:=(vD.1 h.box).1
theorem TellSt.later (h:TellSt b ls v w) (hb:Below w.heap.size w w'):TellSt b ls v w':=
 ⟨(hb.block b h.lt).trans h.box,av h.row (fun g hg=>hb.block g (h.row.lt g hg).2)⟩
def sg (b:Nat) (line:List UInt8) (ls:List (List UInt8)) (v:Value) (w:World) (e:Ending) (w':World):Prop:=
 ∃v',e= .returned (.tuple #[])/\TellSt b (ls++ [line]) v' w'/\Keeps (fun k=>k=b\/v.ownBlock=some k) w w'/\∀k,v'.ownBlock=some k->v.ownBlock=some k\/w.heap.size<=k
theorem BQ {u:World} (h:TellSt b ls v w) (hb:Below w.heap.size w u) (line:List UInt8) (hls:ls.length<=1000000):
  ∃g cap w',(Builtin.append_ #[102,102] 102 #[v,.slice (some ⟨u.heap.size,0,none⟩) 1 1]).run prog (u.alloc (.cells #[.string ⟨line.toArray⟩] 9))= .ok (.slice (some ⟨g,0,none⟩) (ls.length+1) cap) w'/\
   w'.cell? ⟨b,0,none⟩=some v/\w'.frozen? ⟨b,0,none⟩=false/\sg b line ls v w (.returned (.tuple #[])) (w'.setCell ⟨b,0,none⟩ (.slice (some ⟨g,0,none⟩) (ls.length+1) cap)):=by
 obtain ⟨i0,hi,hz0,hz1,hz2⟩:=info_parts Kj;have hu:=h.later hb;have hlt:=hu.lt
 obtain ⟨v',w',hrun,hown,hgrow,hcase⟩:=dR (P:=prog) (u.alloc (.cells #[.string ⟨line.toArray⟩] 9)) (b+1) 102 102 9 i0 _ 1 16 underlying102 hi hz0 hz1 hz2 rfl zj v ls.length (CF ls) (hu.row.alloc _) ⟨u.heap.size,0,none⟩ 1 1 zj [.string ⟨line.toArray⟩] rfl
  (Zj (cs:= #[.string ⟨line.toArray⟩]) (t:=9) (fr:=(0,0)) (heap_alloc_new u _)) qW zA zj (by rw [uD];omega)
 obtain ⟨g,cap,rfl⟩:=ownsRow_succ hown
 have hvb:∀k,v.ownBlock=some k->b+1<=k/\k<w.heap.size:=fun k hk=>h.row.lt k hk
 have hK1:Keeps (fun k=>v.ownBlock=some k) u w':=(((Keeps.refl (fun k=>v.ownBlock=some k) u).alloc _).trans ((aV hgrow).mono (fun k _ hk=>by rw [<-hk])))
 have hK2:Keeps (fun k=>v.ownBlock=some k) w w':=((aX hb).mono (fun k hk hle=>absurd hk zj)).trans hK1;have hbb:w'.heap[b]? =u.heap[b]? :=hK1.block b hlt (fun e=>by have:=(hvb b e).1;omega);have hbox:Boxed w' b 102 v:=hbb.trans hu.box;refine ⟨g,cap,w',hrun,hbox.cell,hbox.frozen,.slice (some ⟨g,0,none⟩) (ls.length+1) cap,rfl,⟨?_,?_⟩,?_,?_⟩
 ·exact heap_setCell_same w' b 0 _ _ _ hbox
 ·rw [vN,Zc,Fe];refine av hown (fun k hk=> ?_);have hkb:=(hown.lt k hk).1;exact Below.heap_setCell _ _ _ k (by show k≠b;omega)
 ·exact ⟨hK2.os,hK2.tape,hK2.output,by simpa using hK2.size,fun k hk hn=>by
   rw [Below.heap_setCell _ _ _ k (show k≠b from fun e=>hn (.inl e))]
   exact hK2.block k hk (fun e=>hn (.inr e))⟩
 intro k hk
 rcases hcase with ⟨g1,c1,e1,e2⟩ | ⟨e1,_⟩
 ·cases e2
  subst e1;exact .inl hk
 rw [hk] at e1
 cases e1
 exact .inr (by have:=hb.size;simp;omega)
theorem BW (nd:Int) (ws:List (List UInt8)):(⟨(Lib.itoa nd).toArray⟩:ByteArray)++⟨#[32]⟩++⟨(Lib.join ws [32]).toArray⟩=⟨(iS nd ws).toArray⟩:=by
 apply ByteArray.ext;simp [iS]
theorem ng (w:World) (b:Nat) (nd:Int) (wb c:Nat) (ws:List ByteArray) (ls:List (List UInt8)) (v:Value) (hst:TellSt b ls v w) (hw:∀(j:Nat) x,ws[j]? =some x->w.cell? ⟨wb,0+j,none⟩=some (.string x)) (hwb:wb<w.heap.size) (hwc:ws.length<=c) (hws:ws.length<=10)
  (htab:Lib.TabIs prog w "internal/strconv.uint64pow10" .u64 Lib.pow10Tab) (h0: -9223372036854775808<=nd) (h1:nd<=9223372036854775807) (hlen:(Lib.join (ws.map (·.data.toList)) [32]).length<=200000) (hls:ls.length<=1000000):
  Calls prog 48 #[.int .i64 nd,.slice (some ⟨wb,0,none⟩) ws.length c,.pointer (some ⟨b,0,none⟩)] w (sg b (iS nd (ws.map (·.data.toList))) ls v w):=by
 have HT:Aside (Lib.TabBelow prog w.heap.size w "internal/strconv.uint64pow10" .u64 Lib.pow10Tab):=Lib.tabBelow_of_tabIs htab
 have itoaU:∀u,Below w.heap.size w u->Calls prog 49 #[.int .i64 nd] u fun e w'=>e= .returned (.string ⟨(Lib.itoa nd).toArray⟩)/\Below u.heap.size u w':=fun u hu=>oy nd h0 h1 u (HT.o u hu)
 have joinU:∀u,Below w.heap.size w u->Calls prog 50 #[.slice (some ⟨wb,0,none⟩) ws.length c,.string ⟨#[32]⟩] u fun e w'=>e= .returned (.string ⟨(Lib.join (ws.map (·.data.toList)) [32]).toArray⟩)/\Below u.heap.size u w':=fun u hu=>
  Tryz.strings_Join wb 0 c ws ⟨#[32]⟩ u (fun j x hj=>(hu.cell (p:=⟨wb,0+j,none⟩) hwb).trans (hw j x hj)) (vV hwb hu.size) zj hwc (by show (Lib.join _ [32]).length<=_;omega)
 have HI:Aside (∀u,Below w.heap.size w u->Calls prog 49 #[.int .i64 nd] u fun e w'=>e= .returned (.string ⟨(Lib.itoa nd).toArray⟩)/\Below u.heap.size u w'):=itoaU;have HJ:Aside (∀u,Below w.heap.size w u->Calls prog 50 #[.slice (some ⟨wb,0,none⟩) ws.length c,.string ⟨#[32]⟩] u fun e w'=>e= .returned (.string ⟨(Lib.join (ws.map (·.data.toList)) [32]).toArray⟩)/\Below u.heap.size u w'):=joinU;have HS:Aside (TellSt b ls v w):=hst;have HB0:Aside (Below w.heap.size w w.drew):=(vG _ w).drew;have hS0:w.drew.cell? ⟨b,0,none⟩=some v:=(hst.later HB0.o).box.cell;have hLB:=BW nd (ws.map (·.data.toList))
 have hIL:(Lib.itoa nd).length<=1000:=by have:=Lib.itoa_length_le nd h0 h1;omega
 obtain ⟨jn,hjn⟩:=zc (Lib.join (ws.map (·.data.toList)) [32]);rw [<-hjn] at HJ hLB hlen;obtain ⟨line,hline⟩:=zc (iS nd (ws.map (·.data.toList)))
 rw [<-hline] at hLB |-
 obtain ⟨it,hit⟩:=zc (Lib.itoa nd);rw [<-hit] at HI hLB hIL
 obtain ⟨sl,hsl⟩:∃sl:Nat,sl=ws.length:=⟨_,rfl⟩
 rw [<-hsl] at HJ |-
 have n1:¬9223372036854775807<it.length+1:=zj;have n2:¬9223372036854775807<it.length+1+jn.length:=zj;clear itoaU joinU hst hw hwb hwc hws htab h0 h1 hlen hjn hline hit hsl HT hIL;go_enter func48,ntmps48;go_upto_region 0 with fail;refine bv (S:=fun w'=>w'.cell? ⟨b,0,none⟩=some v) (z:=8) zo hS0 (fun hHeld=> ?_);refine aA (i:=0) (v:= ?v0) zr zo rfl zo zo zo zo (fun _ _ _ h=>h) (Or.inl ⟨zv,?hy0⟩) hHeld ?rest0
 case hy0=>(intro w' hSw;go_simp;try with_reducible rfl)
 refine qn ?_;refine aY (i:=1) (v:= ?v1) zr rfl zo zo zo (fun _ _ _ h=>h) (Or.inl ⟨zv,?hy1⟩) hHeld ?rest1
 case hy1=>(intro w' _;go_simp;try with_reducible rfl)
 refine qn ?_;refine aY (i:=4) (v:= ?v4) zr rfl zo zo zo (fun _ _ _ h=>h) (Or.inl ⟨zv,?hy4⟩) hHeld ?rest4
 case hy4=>(intro w' _;go_simp;try with_reducible rfl)
 refine qn ?_;refine aF (i:=2) zo rfl (fun K hK=> ?_);go_simp;refine (HI.o _ HB0.o).mono ?_;rintro e w1 ⟨rfl,hb1⟩;have B1:Below w.heap.size w w1:=zi HB0.o hb1;have hS1:=(HS.o.later B1).box.cell;refine hK _ _ (.inl hS1) ?_;clear hK K hb1;refine qn ?_;refine aY (i:=3) (v:= ?v3) zr rfl zo zo zo (fun _ _ _ h=>h) (Or.inl ⟨zv,?hy3⟩) hS1 ?rest3
 case hy3=>(intro w' _;go_simp;try with_reducible rfl)
 refine qn ?_;refine aF (i:=5) zo rfl (fun K hK=> ?_);go_simp;refine (HJ.o _ B1).mono ?_;rintro e w2 ⟨rfl,hb2⟩;have B2:Below w.heap.size w w2:=zi B1 hb2;have hS2:=(HS.o.later B2).box.cell;refine hK _ _ (.inl hS2) ?_;clear hK K hb2;refine qn ?_;obtain ⟨g,cap,w3,hrun,hc3,hf3,hout⟩:=BQ HS.o B2 line hls;have HO:Aside _:=hout;clear hout;refine aY (i:=6) (v:= ?v6a) zr rfl zo zo zo (fun _ _ _ h=>h) (Or.inl ⟨zv,?hy6a⟩) hS2 ?rest6a
 case hy6a=>(intro w' _;go_simp;try with_reducible rfl)
 refine qn ?_
 try rw [hLB]
 refine aF (i:=7) zo rfl (fun K hK=> ?_);go_simp;refine hK _ _ (.inl ((HS.o.later (B2.alloc B2.size _)).box.cell)) ?_;clear hK K;refine qn ?_;refine aF (i:=8) zo rfl (fun K hK=> ?_);rw [if_pos zv];simp only [Zq,ZT,ZW];refine Lib.wp_append_run _ _ _ _ _ rfl v (.slice (some ⟨w2.heap.size,0,none⟩) 1 1) rfl rfl _ w3 hrun ?_;refine hK _ _ (.inr ⟨rfl,zr⟩) ?_;clear hK K hrun;refine qn ?_;refine wM (i:=9) zo rfl zo (fun K hK=> ?_);go_simp;refine hK _ _ ?_;clear hK K hc3 hf3;refine bB zo ?_ _;go_wp2;go_end0;obtain ⟨v',_,h⟩:=HO.o;exact ⟨v',rfl,h⟩
end
section
open Go.RowKit
open scoped Classical
theorem Dy (h:kdO o≠109):bO (o::A)=bO A:=by
 unfold bO;exact List.filterMap_cons_none (if_neg h)
theorem FE (h:kdO o=109):bO (o::A)=((o.1,o.2.1),(aM o,aN o,o.2.2.2.2.2.2.1))::bO A:=by
 unfold bO;exact List.filterMap_cons_some (if_pos h)
theorem TreeC.skip {c:Nat->Nat} (h:TreeC w c bt A) (ho:kdO o≠109):TreeC w c bt (o::A):=by
 obtain ⟨bm,v,ms,h1,h2,h3⟩:=h;exact ⟨bm,v,ms,h1,by rw [Dy ho];exact h2,h3⟩
theorem AR (h:StepOk A o) (hp:ms.Perm (bO A)):∀m∈ms,m.1≠(o.1,o.2.1):=fun m hm e=>by
 obtain ⟨x,hx,q⟩:=Zl.1 (hp.mem_iff.1 hm);unfold GJ at q;split at q
 ·cases q
  exact h.new x hx e
 cases q
theorem CellC.skip {c:Nat->Nat} (h:CellC w c bc A) (ho:kdO o≠115):CellC w c bc (o::A):=by
 obtain ⟨cm,A',h1,h2,h3⟩:=h;refine ⟨cm,A'++ [o],?_,(Zm).trans (h2.cons o),h3⟩;rw [kW];unfold ku;rw [if_neg (fun q=>ho q.2)];exact h1.mono zt
theorem CellC.set {c:Nat->Nat} (h2:A'.Perm A) (h3:c bc=4/\c cm=4) (h:JR w bc cm A.length (du A') o w'):CellC w' c bc (o::A):=
 ⟨cm,A'++ [o],by rw [kW];exact h.1,(Zm).trans (h2.cons o),h3⟩
theorem TextC.skip {w:World} {c:Nat->Nat} {bx:Nat} {A:List OpX} (h:TextC w c bx A) {o:OpX} (ho:kdO o≠105/\kdO o≠100) (hn:¬(kdO o=109/\aM o=idO o)):TextC w c bx (o::A):=by
 obtain ⟨n,tx,h1,h2,h3,h4,h5⟩:=h;refine ⟨n,tx,zq,h2,h3,fun nd=>(h4 nd).trans ?_,fun nd p hp=> ?_⟩
 ·rw [ie];exact ⟨.inl,fun q=>q.elim id (fun q=>absurd ⟨q.1,q.2.1.trans q.2.2.symm⟩ hn)⟩
 obtain ⟨v,L,k1,k2,k3⟩:=h5 nd p hp;exact ⟨v,L,k1,k2.skip (fun q=>q.2.elim ho.1 ho.2),k3⟩
theorem fx (hA:∀x∈A,ai x=0) {nd:Int} (h:KnownN A nd):4<=nd:=by
 obtain ⟨x,hx,_,_,e⟩:=h;have:=Dk (hA x hx);omega
theorem Lg {a b:Int} (ha:0<=a) (hb:0<=b) (h:cO a=cO b):a=b:=by unfold cO at h;omega
end
section
open Go.RowKit Go.Maps
open scoped Classical
theorem EH (x:OpX) (w:World) (h:ai x=0):Calls prog 135 #[bT x] w fun e w'=>e= .returned (.int .i64 (idO x))/\Below w.heap.size w w':=by
 have h0:=iv h;obtain ⟨t,b,n,k,nd,o,s,v⟩:=x;unfold bT idO;dsimp only;have h1:1<=t:=h0.1;have h2:t<=1073741824:=h0.2.1;have h3:0<=b:=h0.2.2.1;have h4:b<4:=h0.2.2.2;exact kf3
end
section
open Go.RowKit Go.Maps
open scoped Classical
structure RepPart (w:World) (c:Nat->Nat) (br:Nat) (T by_:Int) (kv:Nat->Value) (bt bx bc:Nat) (R:Rws) (A:List OpX):Prop where
 cell:RepCell w br T by_ kv bt bx bc
 hue:c br=1
 rows:RowsAt w c kv R
 tree:TreeC w c bt A
 text:TextC w c bx A
 marks:CellC w c bc A
theorem RepPart.kept {w w':World} {c c':Nat->Nat} {br:Nat} {T by_:Int} {kv:Nat->Value} {bt bx bc:Nat} {R:Rws} {A:List OpX} (h:RepPart w c br T by_ kv bt bx bc R A) (hk:∀i,i≠0->pR c i w c' w'):RepPart w' c' br T by_ kv bt bx bc R A:=by
 have k1:=hk 1 zj;exact ⟨h.cell.same (k1.block _ h.cell.lt h.hue),(k1.hue _ h.cell.lt).trans h.hue,h.rows.kept (fun i _=>hk _ zj),h.tree.kept (hk 2 zj),h.text.kept (hk 3 zj) (fun nd _=>hk _ yj),h.marks.kept (hk 4 zj)⟩
theorem RepPart.later {c:Nat->Nat} (h:RepPart w c br T by_ kv bt bx bc R A) (hb:Below w.heap.size w w'):RepPart w' c br T by_ kv bt bx bc R A:=
 h.kept (fun i _=>⟨fun k hk _=>hb.block k hk,fun k _=>rfl⟩)
theorem RepPart.heard {W:World} {c:Nat->Nat} {t:Int} (h:RepPart w c br T by_ kv bt bx bc R A) (hb:Below w.heap.size w W) (hh:Dz br T t W w'):RepPart w' c br (if T<t then t else T) by_ kv bt bx bc R A/\Keeps (fun k=>k=br) w w':=by
 have hW:=h.later hb;have hKW:Keeps (fun k=>k=br) w W:=(aX hb).mono (fun k hk e=>zj)
 rcases hh with ⟨hlt,W',hb',hheap,hk⟩ | ⟨hlt,hb'⟩
 ·have hW':=hW.later hb'
  have hk3:Keeps (fun k=>k=br) w w':=(hKW.then (aX hb') (fun k hk e=>by have:=hKW.size;omega)).then hk (fun _ _ e=>e)
  rw [if_pos hlt]
  have hkept:∀i,i≠1->pR c i W' c w':=fun i hi=>⟨fun k hkl e=>hk.block k hkl (fun e'=>by rw [e',hW'.hue] at e;omega),fun _ _=>rfl⟩
  refine ⟨⟨?_,hW'.hue,hW'.rows.kept (fun i _=>hkept _ zj),hW'.tree.kept (hkept 2 zj),hW'.text.kept (hkept 3 zj) (fun nd _=>hkept _ yj),hW'.marks.kept (hkept 4 zj)⟩,hk3⟩;have:=heap_setCell_same W' br 0 _ _ (.int .i64 t) hW'.cell;unfold RepCell;rw [hheap,this];simp
 rw [if_neg hlt];exact ⟨hW.later hb',hKW.then (aX hb') (fun k hk e=>by have:=hKW.size;omega)⟩
def dL (c:Nat->Nat) (w w':World) (i:Nat):Nat->Nat:=fun k=>if k<w.heap.size then c k else if k<w'.heap.size then i else 0
theorem aq {c:Nat->Nat} (h:k<w.heap.size):dL c w w' i k=c k:=if_pos h
theorem gN {c:Nat->Nat} (h:w.heap.size<=k) (h':k<w'.heap.size):dL c w w' i k=i:=by unfold dL;rw [if_neg zj,if_pos h']
theorem gP {c:Nat->Nat} {Sx:Nat->Prop} {j:Nat} (hk:Keeps Sx w w') (hS:∀k,k<w.heap.size->Sx k->c k=i) (hij:j≠i):pR c j w (dL c w w' m) w':=
 ⟨fun k hkl e=>hk.block k hkl (fun s=>hij (by rw [<-hS k hkl s,e])),fun k hkl=>aq hkl⟩
def AppOk (B:Nat) (w:World) (c:Nat->Nat) (br:Nat) (by_:Int) (kv:Nat->Value) (bt bx bc:Nat) (R:Rws) (A:List OpX) (T':Int) (w':World):Prop:=∃c',RepPart w' c' br T' by_ kv bt bx bc R A/\Acts w c w' c'/\(∀k,c' k≠0->B<=k)/\∀k,w'.heap.size<=k->c' k=0
theorem AppOk.of {B:Nat} {c c1:Nat->Nat} {Sx:Nat->Prop} (hc:c'=dL c1 w1 w' i) (hp:RepPart w' c' br T' by_ kv bt bx bc R A) (h1:Acts w c w1 c1) (hk:Keeps Sx w1 w') (hS:∀k,k<w1.heap.size->Sx k->c1 k≠0) (hB:∀k,c1 k≠0->B<=k) (hBw:B<=w.heap.size):AppOk B w c br by_ kv bt bx bc R A T' w':=by
 subst hc;refine ⟨_,hp,h1.trans ⟨hk.mono hS,fun k hkl=>aq hkl⟩,fun k e=> ?_,fun k hkl=> ?_⟩
 ·by_cases hkl:k<w1.heap.size
  ·rw [aq hkl] at e;exact hB k e
  have:=h1.keeps.size;omega
 have:=hk.size;unfold dL;exact km5
theorem pF {B:Nat} {c:Nat->Nat} (h:RepPart w1 c br T' by_ kv bt bx bc R A) (hkd:kdO o=115) (hA':A'.Perm A) (hcm:c bc=4/\c cm=4) (hset:JR w1 bc cm A.length (du A') o w') (h1:Acts w c w1 c) (hB:∀k,c k≠0->B<=k) (hBw:B<=w.heap.size):AppOk B w c br by_ kv bt bx bc R (o::A) T' w':=by
 have hS4:∀k,k<w1.heap.size->(k=cm)->c k=4:=fun k _ e=>by rw [e];exact hcm.2
 have kp:∀j,j≠4->pR c j w1 (dL c w1 w' 4) w':=fun j hj=>gP hset.2 hS4 hj
 have hk115:kdO o≠109:=by rw [hkd];decide
 have hbcl:=hset.1.lt;refine AppOk.of (i:=4) rfl ⟨?_,?_,?_,?_,?_,?_⟩ h1 hset.2 (fun k hk e=>by rw [hS4 k hk e];decide) hB hBw
 ·exact h.cell.same ((kp 1 zj).block _ h.cell.lt h.hue)
 ·rw [aq h.cell.lt];exact h.hue
 ·exact h.rows.kept (fun i _=>kp _ zj)
 ·exact (h.tree.kept (kp 2 zj)).skip hk115
 ·exact (h.text.kept (kp 3 zj) (fun nd _=>kp _ yj)).skip ⟨by rw [hkd];decide,by rw [hkd];decide⟩ (fun q=>hk115 q.1)
 refine CellC.set (A':=A') (cm:=cm) hA' ?_ hset;obtain ⟨cm0,A0,q1,_⟩:=h.marks;have hbl:bc<w1.heap.size:=q1.lt.1;have hcl:cm<w'.heap.size:=hbcl.2;refine ⟨by rw [aq hbl];exact hcm.1,?_⟩;by_cases e:cm<w1.heap.size
 ·rw [aq e];exact hcm.2
 rw [gN zj hcl]
theorem iG {B:Nat} {w w1 w':World} {c:Nat->Nat} {br:Nat} {by_:Int} {kv:Nat->Value} {bt bx bc:Nat} {R:Rws} {A:List OpX} {T':Int} {o:OpX} {nx:Nat} {tx:kr} {p:Nat} {v:Value} {L M:List Ltr} (h:RepPart w1 c br T' by_ kv bt bx bc R A) (hA:∀x∈A,ai x=0) (hkd:kdO o=105\/kdO o=100)
  (t1:nx<=A.length) (t2:TMapAt w1 bx nx tx) (t3:c bx=3) (t4:∀nd,(tx nd).isSome=true↔KnownN A nd) (t5:∀nd p,tx nd=some p->LineC w1 c p nd A) (hp:tx (aM o)=some p)
  (hL:LineAt (p+1) w1 p v L) (hue:c p=cO (aM o)/\∀g,v.ownBlock=some g->c g=cO (aM o)) (hact:ActOk (p+1) w1 p v M w') (hM:LineIs (o::A) (aM o) M) (h1:Acts w c w1 c) (hB:∀k,c k≠0->B<=k) (hBw:B<=w.heap.size):AppOk B w c br by_ kv bt bx bc R (o::A) T' w':=by
 obtain ⟨v',q1,q2,q3⟩:=hact
 have hS:∀k,k<w1.heap.size->(k=p\/some k=v.ownBlock)->c k=cO (aM o):=fun k _ e=>e.elim (fun e=>by rw [e];exact hue.1) (fun e=>hue.2 k e.symm)
 have kp:∀j,j≠cO (aM o)->pR c j w1 (dL c w1 w' (cO (aM o))) w':=fun j hj=>gP q2 hS hj
 have n20:∀i,i<20->i≠cO (aM o):=fun i hi=>yj
 have hk109:kdO o≠109:=fun e=>xz
 have hk115:kdO o≠115:=fun e=>xz
 have hnd:KnownN A (aM o):=(t4 _).1 (by rw [hp];rfl);have hnd4:=fx hA hnd;refine AppOk.of (i:=cO (aM o)) rfl ⟨?_,?_,?_,?_,?_,?_⟩ h1 q2 (fun k hk e=>by rw [hS k hk e];unfold cO;omega) hB hBw
 ·exact h.cell.same ((kp 1 (n20 1 zj)).block _ h.cell.lt h.hue)
 ·rw [aq h.cell.lt];exact h.hue
 ·exact h.rows.kept (fun i hi=>kp _ (n20 _ zj))
 ·exact (h.tree.kept (kp 2 (n20 2 zj))).skip hk109
 ·have k3:=kp 3 (n20 3 zj);refine ⟨nx,tx,zq,t2.same (k3.block _ t2.lt t3),(k3.hue _ t2.lt).trans t3,fun nd=>(t4 nd).trans ?_,fun nd p' hp'=> ?_⟩
  ·rw [ie];exact ⟨.inl,fun q=>q.elim id (fun q=>absurd q.1 hk109)⟩
  by_cases e:nd=aM o
  ·subst e;rw [hp] at hp'
   cases hp'
   refine ⟨v',M,q1,hM,by rw [aq hL.lt];exact hue.1,fun g hg=> ?_⟩;have hgl:=q1.kin hg;by_cases e:g<w1.heap.size
   ·rw [aq e]
    rcases q3 with e3 | e3
    ·rw [e3] at hg;exact hue.2 g hg
    have:=e3 g hg;omega
   rw [gN zj hgl]
  have hnk:=(t4 nd).1 (by rw [hp'];rfl);have hn4:=fx hA hnk;obtain ⟨v2,L2,k1,k2,k4⟩:=(t5 nd p' hp').kept (kp (cO nd) (fun q=>e (Lg zj zj q)));exact ⟨v2,L2,k1,k2.skip (fun q=>e q.1.symm),k4⟩
 exact (h.marks.kept (kp 4 (n20 4 zj))).skip hk115
theorem iI {B:Nat} {w w1 w':World} {c c1:Nat->Nat} {br:Nat} {by_:Int} {kv:Nat->Value} {bt bx bc:Nat} {R:Rws} {A:List OpX} {T':Int} {o:OpX} {bm:Nat} {v v':Value} {ms ms':List Mov} (hcell:RepCell w1 br T' by_ kv bt bx bc) (hhue:c1 br=1) (hrows:RowsAt w1 c1 kv R) (htext:TextC w1 c1 bx (o::A)) (hmarks:CellC w1 c1 bc A) (hkd:kdO o=109)
  (hT:TreeAt 0 w1 bt bm v ms) (hms:ms.Perm (bO A)) (hue:c1 bt=2/\c1 bm=2/\∀g,v.ownBlock=some g->c1 g=2) (q1:TreeAt 0 w' bt bm v' ms') (q2:ms'.Perm (((o.1,o.2.1),(aM o,aN o,o.2.2.2.2.2.2.1))::ms)) (q3:Keeps (fun k=>k=bt\/k=bm\/some k=v.ownBlock) w1 w') (q4:v'.ownBlock=v.ownBlock\/∀g,v'.ownBlock=some g->w1.heap.size<=g) (h1:Acts w c w1 c1) (hB:∀k,c1 k≠0->B<=k) (hBw:B<=w.heap.size):AppOk B w c br by_ kv bt bx bc R (o::A) T' w':=by
 have hS:∀k,k<w1.heap.size->(k=bt\/k=bm\/some k=v.ownBlock)->c1 k=2:=fun k _ e=>by
  rcases e with e | e | e
  ·rw [e];exact hue.1
  ·rw [e];exact hue.2.1
  exact hue.2.2 k e.symm
 have kp:∀j,j≠2->pR c1 j w1 (dL c1 w1 w' 2) w':=fun j hj=>gP q3 hS hj
 obtain ⟨l1,l2,l3⟩:=hT.lt;refine AppOk.of (i:=2) rfl ⟨?_,?_,?_,?_,?_,?_⟩ h1 q3 (fun k hk e=>by rw [hS k hk e];decide) hB hBw
 ·exact hcell.same ((kp 1 zj).block _ hcell.lt hhue)
 ·rw [aq hcell.lt];exact hhue
 ·exact hrows.kept (fun i _=>kp _ zj)
 ·refine ⟨bm,v',ms',q1,by rw [FE hkd];exact q2.trans (hms.cons _),by rw [aq l1];exact hue.1,by rw [aq l2];exact hue.2.1,fun g hg=> ?_⟩;have hgl:=q1.lt.2.2 g hg;by_cases e:g<w1.heap.size
  ·rw [aq e]
   rcases q4 with e4 | e4
   ·rw [e4] at hg;exact hue.2.2 g hg
   have:=e4 g hg;omega
  rw [gN zj hgl]
 ·exact htext.kept (kp 3 zj) (fun nd _=>kp _ yj)
 exact (hmarks.kept (kp 4 zj)).skip (by rw [hkd];decide)
theorem rm {w2:World} {c:Nat->Nat} (h:RepPart w1 c br T' by_ kv bt bx bc R A) (hs:StepOk A o) (hkd:kdO o=109) (hid:aM o=idO o)
  (t1:nx<=A.length) (t2:TMapAt w2 bx (nx+1) (fun x=>if x=aM o then some p else tx x)) (t3:c bx=3) (t4:∀nd,(tx nd).isSome=true↔KnownN A nd) (t5:∀nd p,tx nd=some p->LineC w1 c p nd A) (hbx:bx<w1.heap.size)
  (hline:w2.heap[p]? =some (.cells #[.slice none 0 0] 280 (0,0))) (hpn:w1.heap.size<=p) (hk:Keeps (fun k=>k=bx) w1 w2):
  RepCell w2 br T' by_ kv bt bx bc/\dL c w1 w2 (cO (aM o)) br=1/\RowsAt w2 (dL c w1 w2 (cO (aM o))) kv R/\TreeC w2 (dL c w1 w2 (cO (aM o))) bt A/\TextC w2 (dL c w1 w2 (cO (aM o))) bx (o::A)/\CellC w2 (dL c w1 w2 (cO (aM o))) bc A:=by
 have hS:∀k,k<w1.heap.size->k=bx->c k=3:=fun k _ e=>by rw [e];exact t3
 have kp:∀j,j≠3->pR c j w1 (dL c w1 w2 (cO (aM o))) w2:=fun j hj=>gP hk hS hj
 have hA:∀x∈A,ai x=0:=fun x hx=>(hs.all x hx).1
 obtain ⟨hnk,hno⟩:=hs.fresh hid;have hpl:p<w2.heap.size:=(vD.1 hline).1;refine ⟨h.cell.same ((kp 1 zj).block _ h.cell.lt h.hue),by rw [aq h.cell.lt];exact h.hue,h.rows.kept (fun i _=>kp _ zj),h.tree.kept (kp 2 zj),?_,h.marks.kept (kp 4 zj)⟩;refine ⟨nx+1,_,zq,t2,by rw [aq hbx];exact t3,fun nd=> ?_,fun nd p' hp'=> ?_⟩
 ·rw [ie];by_cases e:nd=aM o
  ·subst e;rw [if_pos rfl];exact ⟨fun _=>.inr ⟨hkd,rfl,hid.symm⟩,fun _=>rfl⟩
  rw [if_neg e,t4 nd];exact ⟨.inl,fun q=>q.elim id (fun q=>absurd q.2.1.symm e)⟩
 by_cases e:nd=aM o
 ·subst e;rw [if_pos rfl] at hp'
  cases hp'
  refine ⟨.slice none 0 0,[],⟨hline,uf _ _ _ _,zj,zt,fun l hl=>xW,fun l hl=>xW⟩,?_,by rw [gN hpn hpl],fun g hg=>jl⟩
  exact LineIs.new (fun x hx q=>by
   rcases vJ.1 hx with rfl | hx
   ·rw [hkd];decide
   ·exact absurd q (hno x hx))
 rw [if_neg e] at hp';have hnk':=(t4 nd).1 (by rw [hp'];rfl);have hn4:=fx hA hnk';have hno4:=Dk hs.ok;obtain ⟨v2,L2,k1,k2,k4⟩:=(t5 nd p' hp').kept (kp (cO nd) yj);exact ⟨v2,L2,k1,k2.skip (fun q=>e q.1.symm),k4⟩
end
section
open Go.Shelf Go.RowKit Go.Lib Go.Sort
def InsOf (xs:List OpX) (i:Nat) (ys:List OpX):Prop:=∃D:List (OpX×Nat),D.Perm (xs.take i).zipIdx/\D.Pairwise (fun u v=>slt ltX v u=false)/\ys=D.map Prod.fst
theorem InsOf.zero (xs:List OpX):InsOf xs 0 []:=⟨[],zt,List.Pairwise.nil,rfl⟩
theorem InsOf.len (h:InsOf xs i ys) (hi:i<=xs.length):ys.length=i:=by
 obtain ⟨D,hp,_,rfl⟩:=h;rw [ul,hp.length_eq,List.length_zipIdx,vW];omega
theorem InsOf.next (h:InsOf xs i ys) (hi:i<xs.length) (hk:k<=ys.length) (h1:0<k->ltX xs[i]! ys[k - 1]! =false) (h2:∀p,k<=p->p<ys.length->ltX xs[i]! ys[p]! =true):
  InsOf xs (i+1) (ys.take k++xs[i]! ::ys.drop k):=by
 obtain ⟨D,hp,hs,rfl⟩:=h;rw [ul] at hk h2;refine ⟨D.take k++(xs[i]!,i)::D.drop k,?_,?_,zt⟩
 ·have e:(xs.take (i+1)).zipIdx=(xs.take i).zipIdx++ [(xs[i]!,i)]:=by
   rw [uA,vF hi,getElem!_pos xs i hi,List.zipIdx_append];simp;omega
  rw [e];refine (List.perm_middle.trans ?_);rw [ui];exact (List.Perm.cons _ hp).trans (List.perm_append_singleton _ _).symm
 refine GG sA D (xs[i]!,i) k hk hs ?_ ?_ ?_
 ·intro u hu;have:=hp.mem_iff.1 hu;obtain ⟨a,n⟩:=u;rw [List.mem_zipIdx_iff_getElem?] at this;have h3:=(vA.1 this).1;rw [vW] at h3
  show n<i
  omega
 ·intro u hu hk0;have h3:=h1 hk0;have h4:=(vA.1 hu).1;rw [getElem!_pos (D.map Prod.fst) (k - 1) (by rw [ul];exact h4)] at h3;rw [<-(vA.1 hu).2];simpa using h3
 intro u hu;obtain ⟨p,hp1,rfl⟩:=List.mem_iff_getElem.1 hu;rw [ur] at hp1;have h3:=h2 (k+p) zj zj;rw [getElem!_pos (D.map Prod.fst) (k+p) (by rw [ul];omega)] at h3;simpa using h3
theorem InsOf.all (h:InsOf xs xs.length ys):cY xs ys:=by
 obtain ⟨D,hp,hs,rfl⟩:=h;rw [uU] at hp
 have hl:D.length=xs.length:=by rw [hp.length_eq,List.length_zipIdx]
 refine ⟨D.toArray,⟨⟨by rw [bN];simpa using hl,?_,?_⟩,?_⟩,zt⟩
 ·intro j hj;have h1:¬j<D.toArray.size:=zq
  have h2:¬j<(dO xs).size:=by rw [bN];omega
  rw [getElem!_neg D.toArray j h1,getElem!_neg (dO xs) j h2]
 ·have e1:(D.toArray.extract 0 xs.length).toList=D:=by simp [<-hl]
  have e2:((dO xs).extract 0 xs.length).toList=xs.zipIdx:=by simp [dO];exact vT zt
  rw [e1,e2];exact hp
 intro a b _ hab hb;have h:=ub.1 hs a b zj zj hab;rw [getElem!_pos D.toArray a zq,getElem!_pos D.toArray b zq];simpa using h
end
section
open Go.Shelf Go.RowKit Go.Lib Go.Sort
theorem su (t b t' b':Int) (w:World):
  Calls prog 27 #[.agg #[.int .i64 t,.int .i64 b],.agg #[.int .i64 t',.int .i64 b']] w fun e w'=>e= .returned (.bool (bM t b t' b'))/\∃q os,w'=grow (w.drewN q) os:=by
 unfold bM;by_cases h:t=t'
 ·have hl:decide (t<t')=false:=by simp;omega
  have hd:(t==t')=true:=xQ;rw [if_pos h];clear h;go_enter func27,ntmps27;go_wp2;exact ke1
 by_cases hlt:t<t'
 ·have hl:decide (t<t')=true:=by simp;omega
  rw [if_neg h,hl];clear h;go_enter func27,ntmps27;go_wp2;exact ke1
 have hl:decide (t<t')=false:=zq;have hd:(t==t')=false:=xQ;rw [if_neg h,hl];clear h;go_enter func27,ntmps27;go_wp2;exact ke1
theorem fj (t b t' b':Int) (z:Bool) (w:World) (hz:bM t b t' b'=z):
  Calls prog 27 #[.agg #[.int .i64 t,.int .i64 b],.agg #[.int .i64 t',.int .i64 b']] w fun e w'=>e= .returned (.bool z)/\∃q os,w'=grow (w.drewN q) os:=by rw [<-hz];exact su t b t' b' w
theorem Gu (t b t' b':Int) (z:Bool) (w:World) (hz:bM t b t' b'=z):
  Calls prog 27 #[.agg #[.int .i64 t,.int .i64 b],.agg #[.int .i64 t',.int .i64 b']] w fun e w'=>e= .returned (.bool z)/\Below w.heap.size w w':=
 (fj t b t' b' z w hz).mono fun _ _ h=>⟨h.1,aJ h.2⟩
def OutAt (w:World) (v:Value) (ys:List OpX):Prop:=
 (v= .slice none 0 0/\ys= [])\/∃g o c,v= .slice (some ⟨g,o,none⟩) ys.length c/\ys.length<=c/\∀j u,(cellsOf ys)[j]? =some u->w.cell? ⟨g,o+j,none⟩=some u
theorem OutAt.ops (h:OutAt w v ys):OpsAt w v ys:=by
 rcases h with h | ⟨g,o,c,h1,_,h2⟩
 ·exact .inl h
 exact .inr ⟨g,o,c,h1,h2⟩
theorem no {cs:List Value} (h:w.ownsRow base 61 8 v n cs) (hn:n=ys.length) (hc:cs=cellsOf ys):OutAt w v ys:=by
 subst hn hc;have h':=h
 rcases h.2 with ⟨h1,h2⟩ | ⟨g,cap,cur,rfl,_,_,hr,_⟩
 ·exact kn8
 refine .inr ⟨g,0,cap,rfl,hr,fun j u hj=> ?_⟩;have hl:j<(cellsOf ys).length:=(vA.1 hj).1;rw [aD] at hl;exact ko1
theorem ll (ys:List OpX) (k:Nat) (x:OpX):cellsOf (ys.take k)++bq x++cellsOf (ys.drop k)=cellsOf (ys.take k++x::ys.drop k):=by
 rw [ci,eP,uj]
theorem gY {o:Nat} (k:Nat) (h:∀j u,(cellsOf ys)[j]? =some u->w.cell? ⟨g,o+j,none⟩=some u) (j:Nat) (u:Value) (hj:(cellsOf (ys.take k))[j]? =some u):w.cell? ((⟨g,o,none⟩:Addr).add j)=some u:=by
 rw [Addr.add_lit];refine h j u ?_;have e:cellsOf ys=cellsOf (ys.take k)++cellsOf (ys.drop k):=jO;exact kp8
theorem gJ {o:Nat} (k:Nat) (hk:k<=ys.length) (h:∀j u,(cellsOf ys)[j]? =some u->w.cell? ⟨g,o+j,none⟩=some u) (j:Nat) (u:Value) (hj:(cellsOf (ys.drop k))[j]? =some u):w.cell? ((⟨g,o+k*8,none⟩:Addr).add j)=some u:=by
 rw [Addr.add_lit,uT];refine h _ u ?_;have e:cellsOf ys=cellsOf (ys.take k)++cellsOf (ys.drop k):=jO
 have hl:(cellsOf (ys.take k)).length=k*8:=by rw [aD,vW];congr 1;omega
 exact kp1
theorem cN (h:w.cell? ⟨g,p,none⟩=some v) (q:Nat) (os:Array Obj):(grow (w.drewN q) os).cell? ⟨g,p,none⟩=some v:=
 aT (below_grow ⟨rfl,rfl,rfl,vB _,fun _ _=>rfl⟩ zg) h
theorem iZ (ao:Option Addr) (cap:Nat) (w:World):
  Calls prog 29 #[.slice ao 0 cap] w fun e w'=>e= .returned (.slice none 0 0)/\w'=w:=by
 go_enter func29,ntmps29;go_wp2;refine wp_loop_rounds 1 ?_;rw [rounds_succ];exact kb3
end
section
open Go Go.RowKit Go.Lib Go.Sort
def RowB (w:World) (v:Value) (B:List UInt8):Prop:=∃(g cap:Nat) (cur:Array Value) (fr:Nat×Nat),v= .slice (some ⟨g,0,none⟩) B.length cap/\w.heap[g]? =some (.cells cur 5 fr)/\(fr=(0,0)\/cur.size<=fr.1)/\B.length<=cap/\cap<=maxLen/\cur.size=cap/\cur.toList.take B.length=ej B
theorem nr (B:List UInt8):(ej B).length=B.length:=jz
theorem RowB.lt (h:RowB w v B) (hg:v.ownBlock=some g):g<w.heap.size:=by
 obtain ⟨g',cap,cur,fr,rfl,h1,_⟩:=h
 cases hg
 exact (vD.1 h1).1
theorem RowB.same (h:RowB w v B) (e:∀g,v.ownBlock=some g->w'.heap[g]? =w.heap[g]?):RowB w' v B:=by
 obtain ⟨g',cap,cur,fr,rfl,h1,h2⟩:=h;exact ⟨g',cap,cur,fr,rfl,(e g' rfl).trans h1,h2⟩
theorem RowB.shape (h:RowB w v B):∃g cap,v= .slice (some ⟨g,0,none⟩) B.length cap:=by
 obtain ⟨g',cap,cur,fr,rfl,_⟩:=h;exact ⟨g',cap,rfl⟩
theorem RowB.cells (h:RowB w (.slice (some ⟨g,0,none⟩) B.length cap) B):∀j u,(ej B)[j]? =some u->w.cell? ((⟨g,0,none⟩:Addr).add j)=some u:=by
 obtain ⟨g',cap',cur,fr,e,h1,h2,h3,h4,h5,h6⟩:=h
 cases e
 intro j u hu;rw [Addr.add_lit]
 have:cur[j]? =some u:=by
  rw [<-h6,Zd] at hu;split at hu
  ·simpa using hu
  cases hu
 simp [World.cell?,h1,this]
theorem Gf (w:World) (s:ByteArray) (hs:s.size<=1000000):∃v w',Sem.run prog (convert 9 184 (.string s)) w= .ok v w'/\RowB w' v s.data.toList/\Below w.heap.size w w'/\∀g,v.ownBlock=some g->w.heap.size<=g:=by
 have hge:=grownCap_ge w s.size 0 5;have hle:=grownCap_le_maxLen w s.size 0 5 zA;obtain ⟨cap,hcap⟩:=zc (grownCap w s.size 0 5);rw [<-hcap] at hge hle;refine ⟨_,_,run_bytes_of_string w 9 184 5 s underlying9 underlying184 underlying5,?_,?_,?_⟩
 ·rw [<-hcap]
  have hbs:(bytesRow s cap).size=cap:=by
   unfold bytesRow;simp;have:s.data.size=s.size:=rfl;omega
  refine ⟨w.heap.size,cap,bytesRow s cap,_,zt,heap_alloc_new w.drew _,.inr zg,by simpa using hge,hle,hbs,?_⟩;unfold bytesRow ej;rw [Array.toList_append,ux zt];simp;rw [vT zt]
 ·exact ((vG _ w).drew).alloc zt _
 intro g hg
 cases hg
 exact vB _
theorem Cq (w:World) (g n:Nat) (cur:Array Value) (fr:Nat×Nat) (c:UInt8) (hg:w.heap[g]? =some (.cells cur 5 fr)) (hf:fr=(0,0)\/cur.size<=fr.1) (hn:n<cur.size):(storeCells ⟨g,n,none⟩ [.int .u8 (c.toNat:Int)] 0).run prog w= .ok () (w.setRow g (cur.setIfInBounds n (.int .u8 (c.toNat:Int)))):=by
 have hadd:(⟨g,n,none⟩:Addr).add 0=⟨g,n,none⟩:=rfl
 have hcell:w.cell? ⟨g,n,none⟩=some cur[n]:=by simp [World.cell?,hg,hn]
 have hfro:w.frozen? ⟨g,n,none⟩=false:=by
  obtain ⟨lo,hi⟩:=fr;simp only [World.frozen?,hg,Bool.and_eq_false_iff,decide_eq_false_iff_not]
  rcases hf with hf | hf
  ·cases hf;right;omega
  left;simp only at hf;omega
 have hst:(store ((⟨g,n,none⟩:Addr).add 0) (.int .u8 (c.toNat:Int))).run prog w= .ok () (w.setRow g (cur.setIfInBounds n (.int .u8 (c.toNat:Int)))):=by
  rw [hadd,run_store prog w _ _ _ rfl,hcell];simp [hfro,setCell_eq_setRow w g n cur 5 fr _ hg]
 simp only [storeCells,Sem.run_bind,hst,Result.andThen_ok];rfl
theorem Cz (h:RowB w v B) (a:Addr) (ty:TypeId) (c:UInt8) (hc:w.cell? a=some (.int .u8 (c.toNat:Int))) (hB:B.length<1000000):
  ∃v' w',(Builtin.append_ #[184,184] ty #[v,.slice (some a) 1 1]).run prog w= .ok v' w'/\RowB w' v' (B++ [c])/\w.grownBy w' v.ownBlock/\∀g,v'.ownBlock=some g->v.ownBlock=some g\/w.heap.size<=g:=by
 obtain ⟨i0,hi,hz0,hz1,hz2⟩:=info_parts infoByte
 have hnews:∀j u,[Value.int .u8 (c.toNat:Int)][j]? =some u->w.cell? (a.add j)=some u:=fun j u hj=>by
  match j,hj with
  | 0,hj=>
   cases hj
   rw [show a.add 0=a from rfl];exact hc
  | j+1,hj=>simp at hj
 obtain ⟨g,cap,hv⟩:=h.shape;subst hv;have hcells:=h.cells;obtain ⟨g',cap',cur,fr,e,h1,h2,h3,h4,h5,h6⟩:=h
 cases e
 by_cases hroom:B.length+1<=cap
 ·have hf:=run_firstCells_some (P:=prog) w 1 1 a 1 1 [.int .u8 (c.toNat:Int)] rfl hnews;have hst:=Cq w g B.length cur fr c h1 h2 zj;refine ⟨.slice (some ⟨g,0,none⟩) (B.length+1) cap,w.setRow g (cur.setIfInBounds B.length (.int .u8 (c.toNat:Int))),?_,?_,⟨rfl,rfl,rfl,zt,fun k _ hk=>setRow_other w g k _ (fun e=>hk (by simp [Value.ownBlock,e]))⟩,fun g hg=>.inl hg⟩
  ·simp [Builtin.append_,run_underlying underlying184,sizeOf,typeInfo,hi,hz1,Builtin.lenOf,hroom,hf,Addr.add_lit,hst]
  refine ⟨g,cap,_,fr,zt,setRow_heap w g cur _ _ _ h1,by simpa using h2,by simpa using hroom,h4,by simpa using h5,?_⟩;rw [vN,Zc,Array.toList_setIfInBounds,fT,<-h6];have hl:B.length<cur.toList.length:=zq;have hl':B.length<(cur.toList.set B.length (Value.int .u8 (c.toNat:Int))).length:=qi;rw [uF hl',List.take_set_of_le zg,List.getElem_set_self];rfl
 have hr:=run_append_grow (P:=prog) w 184 ty 5 i0 (.int .u8 0) underlying184 hi hz0 ⟨g,0,none⟩ B.length cap (ej B) (by rw [hz1,nr];omega) hcells a 1 1 [.int .u8 (c.toNat:Int)] (by rw [hz1];rfl) hnews zj zj (by rw [hz2];exact growslice_fits zj zj);have hge:=grownCap_ge w (B.length+1) cap 5;have hcm2:grownCap w (B.length+1) cap 5<=maxLen:=grownCap_le_maxLen w (B.length+1) cap 5 zA;refine ⟨_,_,hr,⟨w.heap.size,_,_,(0,0),zt,heap_alloc_new w.drew _,.inl rfl,by simpa using hge,hcm2,?_,?_⟩,⟨rfl,rfl,rfl,zt,fun k hk _=>vP w.drew _ k (by simpa using hk)⟩,fun k hk=> ?_⟩
 ·have hz1':(Value.int IntKind.u8 0).cells.size=1:=rfl;simp only [Array.size_append,uq,size_zeroCells,hz1',nr];simp;omega
 ·simp only [Array.toList_append,uj];rw [fT,<-uj];rw [ux jz];rw [vT jz];rfl
 cases hk
 exact .inr zg
