import Derived.Test.YtpdbnnimdkfajaaGreatDoorVS33
set_option linter.unusedSimpArgs false
set_option linter.unusedVariables false
set_option maxRecDepth 100000
set_option maxHeartbeats 64000000
namespace Go.Proofs.YtpdbnnimdkfajaaGreatDoor
open Go.Proofs.Tryz
variable {xs:List Int} {R ps:List Plc} {B g k n:Nat} {ao:Option Addr} {f:Sta} {v:Value} {w w1 wr:World}
section
open Go.RowKit Go.Lib Go.Sort Go.Maps
abbrev zeroPV:Value:=.agg #[.int .i64 0,.int .i64 0,.string ⟨#[]⟩]
theorem zeroP_size:zeroPV.cells.size=3:=rfl
def zeroRowP (n:Nat):List Value:=(Builtin.zeroCells zeroPV.cells n).toList
theorem zeroP_one (n:Nat):∀v∈(Builtin.zeroCells zeroPV.cells n).toList,v.oneCell'=true:=by
 intro v hv
 unfold Builtin.zeroCells at hv
 rw [Array.toList_map,jO] at hv
 obtain ⟨a,_,rfl⟩:=hv
 rw [zeroP_size]
 have h8:a % 3<3:=Nat.mod_lt _ zi
 have key:∀q,q<3->(zeroPV.cells[q]!).oneCell'=true:=fun q hq=>by
  match q,hq with
  | 0,_=>rfl
  | 1,_=>rfl
  | 2,_=>rfl
 exact key _ h8
structure ThreeW (w:World) (g a:Nat) (x:Plc):Prop where
 c0:w.cell? ⟨g,a,none⟩=some (.int .i64 x.1)
 c1:w.cell? ⟨g,a+1,none⟩=some (.int .i64 x.2.1)
 c2:w.cell? ⟨g,a+2,none⟩=some (.string x.2.2)
 f0:w.frozen? ⟨g,a,none⟩=false
 f1:w.frozen? ⟨g,a+1,none⟩=false
 f2:w.frozen? ⟨g,a+2,none⟩=false
theorem OwnP.three {cs:List Plc} (h:OwnP w g cs) {i:Nat} {x:Plc} (hi:cs[i]? =some x):ThreeW w g (i*3) x:=by
 have hl:i<cs.length:=(jh.1 hi).1
 have e0:=h.at hi (c:=0) rfl
 rw [vk] at e0
 exact ⟨e0,h.at hi (c:=1) rfl,h.at hi (c:=2) rfl,h.free _ zi,h.free _ zi,h.free _ zi⟩
theorem set3 (w:World) (g a:Nat) (n i:Int) (s:ByteArray):(((w.setCell ⟨g,a,none⟩ (.int .i64 n)).setCell ⟨g,a+1,none⟩ (.int .i64 i)).setCell ⟨g,a+2,none⟩ (.string s))=w.setCells g a (cellsP (n,i,s)):=rfl
def DelOutP (w:World) (g cap base:Nat) (zs:List Plc) (e:Ending) (w':World):Prop:=e= .returned (.slice (some ⟨g,0,none⟩) zs.length cap)/\OwnP w' g zs/\Below base w w'
theorem delPl_any (p:Plc->Bool) (gf:Nat) (lb:Array Value) (eg:∀args w,(callFunc gf args).run prog w= .ok (.enter gf args) w) (g cap base:Nat) (ys:List Plc) (w:World) (hbg:base<=g) (hbw:base<=w.heap.size) (hgw:g<w.heap.size) (hp:PredP gf lb ys p base w) (hn:ys.length<=1000) (hc1:ys.length<=cap) (hc2:cap<=maxLen) (hO:OwnP w g ys):
  Calls prog 154 #[.slice (some ⟨g,0,none⟩) ys.length cap,.func (.func gf) #[] lb] w (DelOutP w g cap base (ys.filter (fun x=> !p x))):=by
 have hidx:=idxPl_any p gf lb eg (some ⟨g,0,none⟩) cap base ys w hbw hp zi hO.ins
 have H:Aside (PredP gf lb ys p base w/\OwnP w g ys/\base<=g/\base<=w.heap.size/\g<w.heap.size):=⟨hp,hO,hbg,hbw,hgw⟩
 clear hp hO hbg hbw hgw
 have hc63:(cap:Int)<=9223372036854775807:=by simp only [maxLen] at hc2;omega
 clear hc2
 go_enter func154,ntmps154
 go_wp2_with fail
 refine hidx.mono ?_
 clear hidx
 rintro e w1 ⟨r,rfl,HR⟩
 rcases HR.o.1 with ⟨hr,ha⟩ | ⟨k,x,hr,hx,hpx,hfst⟩
 ·subst hr
  have HF:Aside (ys.filter (fun x=> !p x)=ys):=ux.2 (fun a h=>by rw [ha a h];rfl)
  clear ha
  go_wp2
  go_ret
  unfold DelOutP
  rw [HF.o]
  exact ⟨rfl,H.o.2.1.same (HR.o.2.block g H.o.2.2.2.2),HR.o.2.mono H.o.2.2.2.1⟩
 have hkl:k<ys.length:=(jh.1 hx).1
 have d0:decide (((k:Nat):Int)= -1)=false:=zm
 have H1:Aside (DelP p ys k (k+1) ys/\OwnP w1 g ys/\Below base w w1):=⟨DelP.start hx hpx hfst,H.o.2.1.same (HR.o.2.block g H.o.2.2.2.2),HR.o.2.mono H.o.2.2.2.1⟩
 subst hr
 clear hx hpx hfst HR
 go_wp2
 go_loopg [5,6] ys.length (fun kx s5 s6 wr=>∃(i j:Nat) (cs:List Plc),s5= .int .i64 (i:Int)/\s6= .int .i64 (j:Int)/\ys.length - j<=kx/\Aside (DelP p ys i j cs/\OwnP wr g cs/\Below base w wr))
 case atStart=>exact ⟨k,k+1,ys,rfl,zm,zi,H1.o⟩
 case round=>
  obtain ⟨i,j,cs,rfl,rfl,hkx,A⟩:=hrel
  have hij:=A.o.1.lt
  have hjl:=A.o.1.le
  have hcl:=A.o.1.len
  by_cases hlt:j<ys.length
  ·have hltz:decide ((j:Int)<(ys.length:Int))=true:=by simp;omega
   have hgw:g<wr.heap.size:=jE H.o.2.2.2.2 A.o.2.2.size
   have hbr:=A.o.2.2.size
   have hbw:=H.o.2.2.2.1
   have ej:((j:Int)).toNat=j:=zi
   have pj:(0:Int)<=(j:Int):=zi
   have bj:(j:Int)<(ys.length:Int):=zi
   obtain ⟨⟨nd,i_,s⟩,hl⟩:∃l,Aside (ys[j]? =some l):=⟨ys[j],ji hlt⟩
   obtain ⟨r0,r1,r2,-,-,-⟩:=A.o.2.1.three (A.o.1.get hl.o)
   dsimp only at r0 r1 r2
   have hbW:Below wr.heap.size wr (wr.alloc (.cells #[.int .i64 nd,.int .i64 i_,.string s] 106)):=zg wr _
   have hBW:Below base w (wr.alloc (.cells #[.int .i64 nd,.int .i64 i_,.string s] 106)):=A.o.2.2.trans (hbW.mono zi)
   have hcall:=H.o.1 _ (nd,i_,s) (jm hl.o) hBW
   have HW:Aside (PlcAt (wr.alloc (.cells #[.int .i64 nd,.int .i64 i_,.string s] 106)) wr.heap.size (nd,i_,s)/\OwnP (wr.alloc (.cells #[.int .i64 nd,.int .i64 i_,.string s] 106)) g cs/\Below base w (wr.alloc (.cells #[.int .i64 nd,.int .i64 i_,.string s] 106))/\g<wr.heap.size):=⟨heap_alloc_new wr _,A.o.2.1.same (hbW.block g hgw),hBW,hgw⟩
   clear hbW hBW
   unfold encP at hcall
   dsimp only at hcall
   cases hq:p (nd,i_,s) with
   | true=>
    rw [hq] at hcall
    have HQ:=Lib.hid hq
    clear hq
    go_wp2_with (go_at_fn gf;refine hcall.mono ?_;rintro e w' ⟨rfl,hb'⟩)
    go_roundg (ys.length - (j+1))
    case measure=>omega
    case rel=>
     have hsz:(wr.alloc (.cells #[.int .i64 nd,.int .i64 i_,.string s] 106)).heap.size=wr.heap.size+1:=zm
     exact ⟨i,j+1,cs,rfl,zw,jj _,⟨A.o.1.skip hl.o HQ.o,HW.o.2.1.same (hb'.block g zi),HW.o.2.2.1.trans (hb'.mono zi)⟩⟩
   | false=>
    rw [hq] at hcall
    have HQ:=Lib.hid hq
    clear hq
    have ei:((i:Int)).toNat=i:=zi
    have pi:(0:Int)<=(i:Int):=zi
    have bi:(i:Int)<(ys.length:Int):=zi
    obtain ⟨z,hz⟩:∃z,Aside (cs[i]? =some z):=⟨cs[i],ji zi⟩
    go_wp2_with (go_at_fn gf;refine hcall.mono ?_;rintro e w' ⟨rfl,hb'⟩;have q0:=(HW.o.1.same (hb'.block _ HW.o.1.lt)).c0;have q1:=(HW.o.1.same (hb'.block _ HW.o.1.lt)).c1;have q2:=(HW.o.1.same (hb'.block _ HW.o.1.lt)).c2;dsimp only at q0 q1 q2;obtain ⟨y0,y1,y2,f0,f1,f2⟩:=(HW.o.2.1.same (hb'.block g ye)).three hz.o)
    have hsz:(wr.alloc (.cells #[.int .i64 nd,.int .i64 i_,.string s] 106)).heap.size=wr.heap.size+1:=zm
    have HE:Aside (OwnP w' g cs/\Below base w w'):=⟨HW.o.2.1.same (hb'.block g zi),HW.o.2.2.1.trans (hb'.mono zi)⟩
    clear hsz hb' q0 q1 q2 y0 y1 y2 f0 f1 f2 r0 r1 r2 hcall
    go_roundg (ys.length - (j+1))
    case measure=>omega
    case rel=>
     rw [set3 w' g (i*3) nd i_ s]
     refine ⟨i+1,j+1,cs.set i (nd,i_,s),?_,?_,jj _,?_⟩
     ·go_num
     ·go_num
     exact ⟨A.o.1.keep hl.o HQ.o,HE.o.1.set zi (nd,i_,s),HE.o.2.trans ((setCells_keeps g (cellsP (nd,i_,s)) (i*3) w').below (jw H.o.2.2.2.1 HE.o.2.size) (fun k e=>qk))⟩
  have hltz:decide ((j:Int)<(ys.length:Int))=false:=zk
  have hltn:decide (j<ys.length)=false:=zk
  have hgw:g<wr.heap.size:=jE H.o.2.2.2.2 A.o.2.2.size
  have ei:((i:Int)).toNat=i:=zi
  have pi:(0:Int)<=(i:Int):=zi
  have bi:(i:Int)<=(ys.length:Int):=zi
  have bi2:(i:Int)<=(cap:Int):=zi
  have bl:(ys.length:Int)<=(cap:Int):=zi
  have hclear:∀ty,(Builtin.clear_ #[103] ty #[.slice (some ⟨g,i*3,none⟩) (ys.length - i) (cap - i)]).run prog wr= .ok (.tuple #[]) (wr.setCells g (i*3) (zeroRowP (ys.length - i))):=fun ty=>run_clear_cells (P:=prog) wr 103 106 ty _ underlying103 zeroValue106 g (i*3) (ys.length - i) (cap - i) zi (zeroP_one _) (fun q hq=>A.o.2.1.has (by rw [zeroP_size] at hq;omega)) (fun q hq=>A.o.2.1.free _ (by rw [zeroP_size] at hq;omega))
  go_wp2
  go_ret
  have st:=A.o.1.stay
  have ejl:j=ys.length:=zi
  rw [ejl,jX] at st
  have hil:(cs.take i).length=i:=yr
  unfold DelOutP
  rw [<-st,hil]
  exact ⟨rfl,A.o.2.1.take zi _,A.o.2.2.trans ((setCells_keeps g (zeroRowP (ys.length - i)) (i*3) wr).below (jw H.o.2.2.2.1 A.o.2.2.size) (fun k e=>qk))⟩
end
section
open Go.Shelf Go.RowKit Go.Lib Go.Sort
theorem OwnP.holds (h:OwnP w g ps):HoldsK cellsP 3 w g 0 ps.toArray:=fun j hj=>by
 rw [size_flatK] at hj
 simp only [jN] at hj
 have h1:j / 3<ps.length:=zi
 have h2:j / 3*3+j % 3=j:=zi
 refine ⟨?_,by rw [jt];exact h.free j zi⟩
 rw [jt,get_flatK _ _ _ _ yg]
 have:=flat_get (enc:=cellsP) cellsP_len (L:=ps) (i:=j / 3) (c:=j % 3) (x:=ps[j / 3]) (ji h1) zi
 rw [h2] at this
 rw [getElem!_pos ps.toArray (j / 3) qD,vv,getElem!_pos _ (j % 3) yi]
 refine h.cell j _ ?_
 rw [this,ji yi]
 rfl
theorem sortEnt (w:World) (g cap:Nat) (ps:List Plc) (hown:OwnP w g ps) (hblk:g<w.heap.size) (hl:ps.length<=100000):
  Calls prog 157 #[.slice (some ⟨g,0,none⟩) ps.length cap,.func (.func 158) #[] #[]] w fun e w'=>e= .returned (.tuple #[])/\∃qs:List Plc,qs.Perm ps/\qs.Pairwise (fun a b=>¬NLt (keyE b) (keyE a))/\(∀j u,(flat cellsP qs)[j]? =some u->w'.cell? ⟨g,j,none⟩=some u)/\Keeps (fun k=>k=g) w w':=by
 have hH:=hown.holds
 have h:=AnyQ.slices_SortFunc sortLays 3 isAgg106 sizeOf106 cellsP cellsP_len cellsP_one cmpE swo_cmpE 158 #[] g 0 cap ps.toArray w eg_cmpE (cmp_laysE g 0 ps.toArray.size w) hH hblk zk
 refine Calls.mono h ?_
 rintro e w' ⟨rfl,d',n,os,hp,hs,rfl⟩
 simp only [jN] at hp hs
 have hsz:d'.size=ps.length:=qY
 have hperm:d'.toList.Perm ps:=by
  have:=hp.2.2
  simp only [Array.toList_extract] at this
  rw [vY,vY,uA,uA,Nat.sub_zero,jJ (by simp [hsz]),jJ zm] at this
  exact this
 refine ⟨rfl,d'.toList,hperm,?_,?_,sortWorld_keeps w g n d' os⟩
 ·rw [jF]
  intro i j hi hj hij
  have hi':i<d'.size:=qL
  have hj':j<d'.size:=yg
  have hq:=hs i j (js _) hij zi
  letI:Decidable (NLt (keyE (d'[j]!)) (keyE (d'[i]!))):=Classical.propDecidable _
  rw [ltOf_cmpE] at hq
  have:=of_decide_eq_false hq
  rw [getElem!_pos d' i hi',getElem!_pos d' j hj'] at this
  simpa using this
 exact holds_cells ((show SWK cellsP 3 w g 0 d' _ from ⟨n,os,rfl⟩).holds hblk hH (by rw [hsz];simp))
def cloneRenP:Ren:=⟨fun | 41=>155 | n=>n,fun | 4=>4 | 22=>103 | 23=>106 | n=>n,fun n=>n⟩
theorem cloneP_lays:SlLaysE0.n41 prog cloneRenP where
 mixed:=zj
 f41:=⟨ "slices.Clone[[]concordat/tree.Place,concordat/tree.Place]",zj,func155.trans (congrArg some zj)⟩
 t4:=underlying4
 a4:=isAgg4
 z4:=sizeOf4
 v4:=zeroValue4
 t22:=underlying103
 a22:=isAgg103
 z22:=sizeOf103
 v22:=zeroValue103
theorem ownP_of {base:Nat} (h:w.ownsRow base 106 3 v ps.length (flat cellsP ps)) (hv:v≠ .slice none 0 0):∃g cap,v= .slice (some ⟨g,0,none⟩) ps.length cap/\OwnP w g ps/\base<=g/\g<w.heap.size/\ps.length<=cap/\cap<=maxLen:=by
 have h2:=h.2
 rcases h2 with ⟨h0,_⟩ | ⟨g,cap,cur,rfl,hbg,hgb,hnc,hcm,hcs,htake⟩
 ·exact absurd h0 hv
 refine ⟨g,cap,rfl,⟨fun j u hj=> ?_,fun j _=>h.frozenAt j⟩,hbg,(h.lt g rfl).2,hnc,hcm⟩
 have hl:=(jh.1 hj).1
 rw [plen] at hl
 rw [h.cellAt j zi]
 exact hj
def CloneOut (w:World) (qs:List Plc) (e:Ending) (w':World):Prop:=(∃ao cap,qs= []/\e= .returned (.slice ao 0 cap)/\w'=w)\/∃g cap,e= .returned (.slice (some ⟨g,0,none⟩) qs.length cap)/\Aside (OwnP w' g qs/\w.heap.size<=g/\g<w'.heap.size/\qs.length<=cap/\cap<=maxLen/\Below w.heap.size w w')
theorem clonePl (w:World) (v:Value) (qs:List Plc) (hn:qs.length<=1000) (h:PlsAt w v qs):
  Calls prog 155 #[v] w (CloneOut w qs):=by
 rcases h with ⟨h,e⟩ | ⟨g,cap,h,hg,hc⟩
 ·rw [h]
  refine (AnyE.slices_Clone_nil cloneP_lays 0 0 w).mono ?_
  rintro e' w' ⟨rfl,rfl⟩
  exact .inl ⟨none,0,e,rfl,rfl⟩
 rw [h]
 obtain ⟨i0,hi,hz0,hz1,hz2⟩:=info_parts infoPl
 have k:=AnyE.slices_Clone cloneP_lays i0 _ 3 32 hi hz0 hz1 hz2 rfl zi sizeOf106 g 0 qs.length cap (flat cellsP qs) w (plen qs) zD zi (fun j u hj=>yD) (flat_one cellsP_one qs)
 refine Calls.mono k ?_
 rintro e' w' ⟨v',rfl,hown,hne,hb⟩
 obtain ⟨g',cap',rfl,hO,h1,h2,h3,h4⟩:=ownP_of hown hne
 exact .inr ⟨g',cap',rfl,hO,h1,h2,h3,h4,hb⟩
theorem delPl_none (gf:Nat) (lb:Array Value) (eg:∀args w,(callFunc gf args).run prog w= .ok (.enter gf args) w) (ao:Option Addr) (cap:Nat) (w:World):
  Calls prog 154 #[.slice ao 0 cap,.func (.func gf) #[] lb] w fun e w'=>e= .returned (.slice ao 0 cap)/\Below w.heap.size w w':=by
 have hidx:=idxPl_any (fun _=>false) gf lb eg ao cap w.heap.size [] w ze (fun W x hx=>yy) zm (.inl rfl)
 go_enter func154,ntmps154
 go_wp2_with fail
 refine hidx.mono ?_
 clear hidx
 rintro e w1 ⟨r,rfl,HR⟩
 rcases HR.o.1 with ⟨hr,_⟩ | ⟨k,x,hr,hx,_⟩
 ·subst hr
  go_wp2
  go_ret
  exact ⟨rfl,HR.o.2⟩
 simp at hx
theorem other_any (W:World) (B:Nat) (i:Int) (q:Plc) (hB:W.cell? ⟨B,0,none⟩=some (.int .i64 i)):
  Calls prog 156 (#[encP q]++ #[.pointer (some ⟨B,0,none⟩)]) W fun e w'=>e= .returned (.bool (q.2.1 !=i))/\Below W.heap.size W w':=by
 obtain ⟨n,j,s⟩:=q
 have hlt:=jl W ⟨B,0,none⟩ hB
 have g0:=fun o=>cellKept ((jo _ W).alloc ze o) hB
 clear hB
 unfold encP
 dsimp only at hlt |-
 go_enter func156,ntmps156
 go_wp2
 go_ret
 exact ⟨rfl,zg W _⟩
end
section
open Go.Shelf Go.RowKit Go.Lib Go.Sort
abbrev Enx:=ByteArray×Int
def encEn (e:Enx):List Value:=[.string e.1,.int .i64 e.2]
theorem encEn_len (x:Enx):(encEn x).length=2:=rfl
theorem encEn_one (x:Enx):∀v∈encEn x,v.oneCell'=true:=by
 intro v hv
 simp only [encEn,jn,ui,or_false] at hv
 rcases hv with rfl | rfl<;>rfl
theorem infoEn:(prog.info? 86).map (fun i=>(i.zero,i.size,i.bytes))=some (some (.agg #[.string ⟨#[]⟩,.int .i64 0]),2,24):=zj
def EnsAt (w:World) (v:Value) (es:List Enx):Prop:=(v= .slice none 0 0/\es= [])\/∃g cap,v= .slice (some ⟨g,0,none⟩) es.length cap/\g<w.heap.size/\∀j u,(flat encEn es)[j]? =some u->w.cell? ⟨g,j,none⟩=some u
def IsEnt (qs:List Plc) (i:Int) (es:List Enx):Prop:=∃R:List Plc,R.Perm (qs.filter (fun p=> !(p.2.1 !=i)))/\R.Pairwise (fun a b=>¬NLt (keyE b) (keyE a))/\es=R.map (fun p=>(nmB qs p,p.1))
def FineQ (p:Plc):Prop:=0<=p.1/\p.1<2^62/\p.2.2.size<=60
structure EntSt (w:World) (g B:Nat) (R:List Plc) (es:List Enx) (v:Value) (wr:World):Prop where
 below:Below w.heap.size w wr
 size:B<=wr.heap.size
 cells:∀j u,(flat cellsP R)[j]? =some u->wr.cell? ⟨g,j,none⟩=some u
 row:wr.ownsRow B 86 2 v es.length (flat encEn es)
theorem EntSt.in_ {es:List Enx} (h:EntSt w g B R es v wr):PlsIn wr (some ⟨g,0,none⟩) R:=.inr ⟨g,0,rfl,fun j u hj=>by rw [jt];exact h.cells j u hj⟩
theorem ent_close {es:List Enx} (h:EntSt w g B R es v wr) (hg:g<B) (hw:w.heap.size<=B) (hb:Below wr.heap.size wr w1) (e:Enx) (hn:es.length<=1000) (ty:TypeId):
  ∃v' w3,(Builtin.append_ #[81,81] ty #[v,.slice (some ⟨w1.heap.size,0,none⟩) 1 1]).run prog (w1.alloc (.cells (encEn e).toArray 86))= .ok v' w3/\Aside (EntSt w g B R (es++ [e]) v' w3/\∀k,k<w1.heap.size->v.ownBlock≠some k->w3.heap[k]? =w1.heap[k]?):=by
 have hrow:(w1.alloc (.cells (encEn e).toArray 86)).ownsRow B 86 2 v es.length (flat encEn es):=by
  refine owns_same h.row (fun q hq=> ?_)
  have:=(h.row.lt q hq).2
  rw [jp _ _ _ qA,hb.block q this]
 have hin:InRow encEn (w1.alloc (.cells (encEn e).toArray 86)) (some ⟨w1.heap.size,0,none⟩) [e]:=by
  refine .inr ⟨w1.heap.size,0,rfl,fun j u hj=> ?_⟩
  have hn:=heap_alloc_new w1 (.cells (encEn e).toArray 86)
  have hl:=(jh.1 hj).1
  rw [flat_len encEn_len] at hl
  simp only [flat,List.flatMap_cons,List.flatMap_nil,vf] at hj
  simp only [World.cell?,jt]
  rw [hn]
  simpa using hj
 obtain ⟨v',w3,hrun,hown,hgr⟩:=append_row (enc:=encEn) (k:=2) (S:=81) (T:=86) underlying81 infoEn zi zi rfl encEn_len encEn_one hrow zi (by rw [jI];have:=hb.size;have:=h.size;omega) (some ⟨w1.heap.size,0,none⟩) 1 [e] zm hin (fun q=>by cases q) ty
 have hbw:Below wr.heap.size wr (w1.alloc (.cells (encEn e).toArray 86)):=hb.alloc hb.size _
 have hkeep:∀k,k<w1.heap.size->v.ownBlock≠some k->w3.heap[k]? =w1.heap[k]? :=fun k hk hne=>by
  rw [hgr.block k ye (fun q=>hne q.symm),jp _ _ _ hk]
 refine ⟨v',w3,hrun,⟨⟨?_,?_,?_,?_⟩,hkeep⟩⟩
 ·exact (zh h.below hbw).grown hgr (by have:=h.below.size;have:=hbw.size;omega) (fun k hk=>by have:=(h.row.lt k hk).1;omega)
 ·have:=hgr.size;have:=hbw.size;have:=h.size;omega
 ·intro j u hj
  have hc:=h.cells j u hj
  have hlt:=jl wr ⟨g,j,none⟩ hc
  dsimp only at hlt
  have e1:w3.heap[g]? =wr.heap[g]? :=by
   rw [hkeep g qA (fun q=>by have:=(h.row.lt g q).1;omega),hb.block g hlt]
  simp only [World.cell?] at hc |-
  rw [e1]
  exact hc
 rw [jA,flat_append]
 exact hown
end
section
open Go.Shelf Go.RowKit Go.Lib Go.Sort
def EntOut (w:World) (qs:List Plc) (i:Int) (e:Ending) (w':World):Prop:=∃v' es,e= .returned v'/\Aside (EnsAt w' v' es/\IsEnt qs i es/\Below w.heap.size w w')
theorem entries_any (w:World) (v:Value) (qs:List Plc) (i:Int) (hin:PlsAt w v qs) (hl:qs.length<=300) (hf:∀p∈qs,FineQ p) (htab:Lib.TabIs prog w "internal/strconv.uint64pow10" .u64 Lib.pow10Tab):
  Calls prog 88 #[v,.int .i64 i] w (EntOut w qs i):=by
 obtain ⟨ao,cap,rfl,hP⟩:=hin.isIn
 obtain ⟨S,hS⟩:=za w.heap.size
 obtain ⟨U,hU⟩:=za (w.alloc (.cells #[.int .i64 i] 3))
 have hUb:Below w.heap.size w U:=zJ
 have hUs:U.heap.size=S+1:=by rw [hU,hS,jI]
 have hUc:U.cell? ⟨S,0,none⟩=some (.int .i64 i):=by rw [hU,hS];simp [go_sem]
 have HT:Aside (Lib.TabBelow prog w.heap.size w "internal/strconv.uint64pow10" .u64 Lib.pow10Tab):=Lib.tabBelow_of_tabIs htab
 have hclone:=clonePl U (.slice ao qs.length cap) qs zi (hin.later hUb)
 have H:Aside (PlsIn w ao qs/\(∀p∈qs,FineQ p)/\Below w.heap.size w U/\U.heap.size=S+1/\S=w.heap.size/\U.cell? ⟨S,0,none⟩=some (.int .i64 i)):=⟨hP,hf,hUb,hUs,hS,hUc⟩
 clear hin hf htab hP hUb hUs hUc
 have eg:∀args w,(callFunc 156 args).run prog w= .ok (.enter 156 args) w:=enters_of func156 zj rfl
 go_enter func88,ntmps88
 go_wp2_with fail
 rw [<-hS,<-hU]
 clear hS hU
 refine hclone.mono ?_
 clear hclone
 rintro e w1 (⟨ao',cap',hq,rfl,rfl⟩ | ⟨g,cap',rfl,HO⟩)
 ·subst hq
  have hd:=delPl_none 156 #[.pointer (some ⟨S,0,none⟩)] eg ao' cap' w1
  clear eg
  go_wp2_with fail
  refine hd.mono ?_
  clear hd
  rintro e w2 ⟨rfl,hb2⟩
  have HB:Aside (Below w.heap.size w w2):=zh H.o.2.2.1 hb2
  clear hb2
  have hs:=fun fv=>sortPl_none ao' cap' fv w2
  go_wp2_with fail
  refine (hs _).mono ?_
  clear hs
  rintro e w3 ⟨rfl,rfl⟩
  go_wp2
  refine wp_loop_rounds 1 ?_
  rw [rounds_succ]
  go_wp2
  go_ret
  exact ⟨_,[],rfl,.inl ⟨rfl,rfl⟩,⟨[],List.Perm.refl _,List.Pairwise.nil,rfl⟩,HB.o⟩
 have hd:=delPl_any (fun p=>p.2.1 !=i) 156 #[.pointer (some ⟨S,0,none⟩)] eg g cap' U.heap.size qs w1 HO.o.2.1 HO.o.2.2.2.2.2.size HO.o.2.2.1 (fun W x _ hW=>other_any W S i x ((hW.cell (p:=⟨S,0,none⟩) xu).trans ((HO.o.2.2.2.2.2.cell (p:=⟨S,0,none⟩) xu).trans H.o.2.2.2.2.2))) zi HO.o.2.2.2.1 HO.o.2.2.2.2.1 HO.o.1
 clear eg
 go_wp2_with fail
 refine hd.mono ?_
 clear hd
 rintro e w2 ⟨rfl,hO2,hB2⟩
 obtain ⟨zs,hzs⟩:=za (qs.filter (fun x=> !(x.2.1 !=i)))
 rw [<-hzs] at hO2 |-
 have hzl:zs.length<=300:=by rw [hzs];exact jw (vF _ _) hl
 have hs:=sortEnt w2 g cap' zs hO2 (jE HO.o.2.2.1 hB2.size) zi
 have H2:Aside (zs=qs.filter (fun x=> !(x.2.1 !=i))/\Below w.heap.size w w2/\g<w2.heap.size/\w.heap.size<=g):=⟨hzs,(zh H.o.2.2.1 HO.o.2.2.2.2.2).trans (hB2.mono (by have:=H.o.2.2.1.size;omega)),jE HO.o.2.2.1 hB2.size,by have:=HO.o.2.1;have:=H.o.2.2.1.size;omega⟩
 clear hzs hO2 hB2 HO
 go_wp2_with fail
 refine hs.mono ?_
 clear hs
 rintro e w3 ⟨rfl,R,hperm,hsort,hcells,hkeep⟩
 obtain ⟨B,hB⟩:=za w3.heap.size
 have H3:Aside (R.Perm zs/\R.Pairwise (fun a b=>¬NLt (keyE b) (keyE a))/\Below w.heap.size w w3/\g<B/\w.heap.size<=B/\EntSt w g B R [] (.slice none 0 0) w3):=by
  have h1:=H2.o.2.1.trans (hkeep.below (B:=w.heap.size) H2.o.2.1.size (fun k e=>by have:=H2.o.2.2.2;omega))
  exact ⟨hperm,hsort,h1,by rw [hB];exact jE H2.o.2.2.1 hkeep.size,by rw [hB];exact h1.size,⟨h1,by rw [hB];exact jj _,hcells,jQ _ _ _ _⟩⟩
 have hRl:R.length=zs.length:=hperm.length_eq
 clear hperm hsort hcells hkeep hB
 go_wp2
 go_loopg [6,17] zs.length (fun kx s6 s17 wr=>∃(k:Nat),s17= .int .i64 (k:Int)/\k<=zs.length/\zs.length - k<=kx/\Aside (EntSt w g B R ((R.take k).map (fun p=>(nmB qs p,p.1))) s6 wr))
 case atStart=>exact ⟨0,rfl,js _,jj _,H3.o.2.2.2.2.2⟩
 case round=>
  obtain ⟨k,rfl,hk,hkx,A⟩:=hrel
  by_cases hlt:k<zs.length
  ·have hltz:decide ((k:Int)<(zs.length:Int))=true:=by simp;omega
   have ek:((k:Int)).toNat=k:=zi
   have pk:(0:Int)<=(k:Int):=zi
   have bk:(k:Int)<(zs.length:Int):=zi
   obtain ⟨⟨nd,j,s⟩,hp⟩:∃p,Aside (R[k]? =some p):=⟨R[k],ji zi⟩
   obtain ⟨_,_,hao,r0,r1,r2⟩:=A.o.in_.get hp.o
   cases hao
   simp only [jt] at r0 r1 r2
   go_upto_region 7 with fail
   obtain ⟨b,hb⟩:=za wr.heap.size
   obtain ⟨X,hX⟩:=za (wr.alloc (.cells #[.int .i64 nd,.int .i64 j,.string s] 106))
   have hPX:PlcAt X b (nd,j,s):=by rw [hX,hb];exact heap_alloc_new wr _
   have hbX:Below wr.heap.size wr X.drew:=by rw [hX];exact (zg wr _).drew
   have x0:X.drew.cell? ⟨b,0,none⟩=some (.int .i64 nd):=hPX.c0
   have x1:X.drew.cell? ⟨b,1,none⟩=some (.int .i64 j):=hPX.c1
   have x2:X.drew.cell? ⟨b,2,none⟩=some (.string s):=hPX.c2
   have HX:Aside ((X.drew.cell? ⟨b,0,none⟩=some (.int .i64 nd)/\X.drew.cell? ⟨b,1,none⟩=some (.int .i64 j)/\X.drew.cell? ⟨b,2,none⟩=some (.string s))/\Below wr.heap.size wr X.drew/\b=wr.heap.size):=⟨⟨x0,x1,x2⟩,hbX,hb⟩
   have hpm:(nd,j,s)∈qs:=by
    have:=H3.o.1.mem_iff.1 (jm hp.o)
    rw [H2.o.1] at this
    exact (vx.1 this).1
   have hBX:Below w.heap.size w X.drew:=zh A.o.below hbX
   have hname:=nameOf_any X.drew ao cap qs (nd,j,s) (H.o.1.later hBX) zi (H.o.2.1 _ hpm).1 (H.o.2.1 _ hpm).2.1 (H.o.2.1 _ hpm).2.2 (HT.o _ hBX)
   unfold encP at hname
   dsimp only at hname
   rw [<-hX,<-hb]
   obtain ⟨nm,hnm⟩:=za (nmB qs (nd,j,s))
   rw [<-hnm] at hname
   have HN:=Lib.hid hnm
   clear hX hb hPX hbX x0 x1 x2 hpm hBX hnm r0 r1 r2
   refine wp_region_H (S:=fun w'=>w'.cell? ⟨b,0,none⟩=some (.int .i64 nd)/\w'.cell? ⟨b,1,none⟩=some (.int .i64 j)/\w'.cell? ⟨b,2,none⟩=some (.string s)) zj HX.o.1 (fun hHeld=> ?_)
   refine tk 0 hHeld ?_
   refine tk 1 hHeld ?_
   refine tk 2 hHeld ?_ (hy:=Or.inl ⟨zu,zv⟩)
   refine tk 4 hHeld ?_
   refine tk 5 hHeld ?_ (hy:=Or.inl ⟨zu,zv⟩)
   refine wpAnyH_one (i:=3) zj rfl (fun K hK=> ?_)
   go_simp
   refine hname.mono ?_
   clear hname
   rintro e w4 ⟨rfl,hb4⟩
   have H4:Aside ((w4.cell? ⟨b,0,none⟩=some (.int .i64 nd)/\w4.cell? ⟨b,1,none⟩=some (.int .i64 j)/\w4.cell? ⟨b,2,none⟩=some (.string s))/\Below wr.heap.size wr w4):=⟨⟨cellKept hb4 HX.o.1.1,cellKept hb4 HX.o.1.2.1,cellKept hb4 HX.o.1.2.2⟩,zh HX.o.2.1 hb4⟩
   clear hb4
   refine hK _ _ H4.o.1 ?_
   clear hK K
   refine qn ?_
   refine tk 6 H4.o.1 ?_
   obtain ⟨v',w6,hrun,HO⟩:=ent_close A.o H3.o.2.2.2.1 H3.o.2.2.2.2.1 H4.o.2 (nm,nd) (by rw [jG,jz];omega) 81
   have H6:Aside (w6.cell? ⟨b,0,none⟩=some (.int .i64 nd)/\w6.cell? ⟨b,1,none⟩=some (.int .i64 j)/\w6.cell? ⟨b,2,none⟩=some (.string s)):=by
    have hblt:=jl w4 ⟨b,0,none⟩ H4.o.1.1
    have e:=HO.o.2 b hblt (fun q=>by have:=(A.o.row.lt b q).2;have:=HX.o.2.2;omega)
    have k:=H4.o.1
    simp only [World.cell?] at k |-
    rw [e]
    exact k
   have H5:Aside ((w4.alloc (.cells #[.string nm,.int .i64 nd] 86)).cell? ⟨b,0,none⟩=some (.int .i64 nd)/\(w4.alloc (.cells #[.string nm,.int .i64 nd] 86)).cell? ⟨b,1,none⟩=some (.int .i64 j)/\(w4.alloc (.cells #[.string nm,.int .i64 nd] 86)).cell? ⟨b,2,none⟩=some (.string s)):=⟨cellKept (zg w4 _) H4.o.1.1,cellKept (zg w4 _) H4.o.1.2.1,cellKept (zg w4 _) H4.o.1.2.2⟩
   refine wpAnyH_one (i:=7) zj rfl (fun K hK=> ?_)
   go_simp
   refine hK _ _ H5.o ?_
   clear hK K
   refine qn ?_
   refine wpAnyH_one (i:=8) zj rfl (fun K hK=> ?_)
   rw [if_pos zu]
   simp only [vv,vT,vV]
   refine Lib.wp_append_run _ _ _ _ _ rfl u6 (.slice (some ⟨w4.heap.size,0,none⟩) 1 1) rfl rfl _ w6 hrun ?_
   refine hK _ _ H6.o ?_
   clear hK K hrun
   refine qn ?_
   refine wpAnyH_one (i:=9) zj rfl (fun K hK=> ?_)
   go_simp
   refine hK _ _ H6.o ?_
   clear hK K
   refine wpAnyH_done zj ?_ _
   clear hHeld
   go_wp2
   go_roundg (zs.length - (k+1))
   case measure=>omega
   case rel=>
    have hE:=HO.o.1
    have e:(R.take k).map (fun p=>(nmB qs p,p.1))++ [(nm,nd)]=(R.take (k+1)).map (fun p=>(nmB qs p,p.1)):=by
     rw [jL,hp.o,jY,HN.o]
     rfl
    rw [e] at hE
    exact ⟨k+1,zw,zi,jj _,hE⟩
  have hltz:decide ((k:Int)<(zs.length:Int))=false:=zk
  go_wp2
  go_ret
  have hkz:k=zs.length:=zi
  subst hkz
  have hrow:=A.o.row
  rw [jJ zi] at hrow
  refine ⟨_,R.map (fun p=>(nmB qs p,p.1)),rfl,?_,⟨R,by rw [<-H2.o.1];exact H3.o.1,H3.o.2.1,rfl⟩,A.o.below⟩
  rcases hrow.2 with ⟨h0,h1⟩ | ⟨g',cap',cur,h0,_,_,_,_,_,_⟩
  ·refine .inl ⟨h0,?_⟩
   rw [jG] at h1
   exact List.map_eq_nil_iff.2 (jC.1 h1)
  subst h0
  exact .inr ⟨g',cap',rfl,(hrow.lt g' rfl).2,fun j u hj=>by
   have hl:=(jh.1 hj).1
   rw [flat_len encEn_len] at hl
   rw [hrow.cellAt j zi];exact hj⟩
end
section
open Go.Shelf Go.RowKit Go.Lib Go.Sort Go.Maps
open scoped Classical
structure ViewAt (w:World) (br bt bm n:Nat) (v:Value) (f:Sta):Prop where
 ptr:w.cell? ⟨br,6,none⟩=some (.pointer (some ⟨bt,0,none⟩))
 cell:TreeCell w bt bm v
 map:MapAt prog 3 w bm n f
 small:n<=100000
 shown:Shown f
theorem ViewAt.later {w':World} {br bt bm:Nat} (h:ViewAt w br bt bm n v f) (hb:Below w.heap.size w w'):ViewAt w' br bt bm n v f:=
 ⟨cellKept hb h.ptr,(hb.block bt h.cell.lt).trans h.cell,h.map.below hb h.map.lt,h.small,h.shown⟩
theorem fineQ_of {L:List Plc} (h:Shown f) (hL:IsPlaces f L):∀p∈L,FineQ p:=fun p hp=>by
 have k:=h.good.fine p.1 p ((hL.mem p).1 hp)
 exact ⟨k.lo,k.hi,k.sz⟩
theorem treeOf_any (w:World) (br bt bm n:Nat) (v:Value) (f:Sta) (h:ViewAt w br bt bm n v f):
  Calls prog 89 #[.pointer (some ⟨br,0,none⟩)] w fun e w'=>e= .returned (.pointer (some ⟨bt,0,none⟩))/\w'=w:=by
 have c6:=h.ptr
 have ht:Calls prog 41 #[.pointer (some ⟨br,0,none⟩)] w fun e w'=>e= .returned (.pointer (some ⟨bt,0,none⟩))/\w'=w:=by
  clear h
  go_enter func41,ntmps41
  go_wp2
  go_ret
  exact ⟨rfl,rfl⟩
 clear c6 h
 go_enter func89,ntmps89
 go_wp2_with fail
 refine ht.mono ?_
 clear ht
 rintro e w' ⟨rfl,rfl⟩
 go_wp2
 go_ret
 exact ⟨rfl,rfl⟩
theorem placesV (w:World) (br bt bm n:Nat) (v:Value) (f:Sta) (h:ViewAt w br bt bm n v f) (L:List Plc) (hL:IsPlaces f L):
  Calls prog 42 #[.pointer (some ⟨bt,0,none⟩)] w fun e w'=>∃u,e= .returned u/\Aside (PlsAt w' u L/\Below w.heap.size w w'):=
 (places_any w bt bm n v f h.shown.good h.cell h.map h.small).mono fun _ _ ⟨u,qs,h1,h2,_,h4,h5⟩=>⟨u,h1,by rw [hL.unique h2];exact ⟨h4,h5⟩⟩
theorem insideV (w:World) (br bt bm n:Nat) (v:Value) (f:Sta) (h:ViewAt w br bt bm n v f) (node of:Int) (hk:Wf node):
  Calls prog 96 #[.pointer (some ⟨bt,0,none⟩),.int .i64 node,.int .i64 of] w fun e w'=>e= .returned (.bool (decide (Ins f node of)))/\Below w.heap.size w w':=
 inside_is w bt bm n f node of (decide (Ins f node of)) zm h.cell.c0 h.map h.shown.good hk
theorem list_any (w:World) (br bt bm n:Nat) (v:Value) (f:Sta) (h:ViewAt w br bt bm n v f) (L:List Plc) (hL:IsPlaces f L) (hl:L.length<=300) (i:Int) (htab:Lib.TabIs prog w "internal/strconv.uint64pow10" .u64 Lib.pow10Tab):
  Calls prog 31 #[.pointer (some ⟨br,0,none⟩),.int .i64 i] w (EntOut w L i):=by
 have HT:Aside (Lib.TabBelow prog w.heap.size w "internal/strconv.uint64pow10" .u64 Lib.pow10Tab):=Lib.tabBelow_of_tabIs htab
 have h1:=treeOf_any w br bt bm n v f h
 have h2:=placesV w br bt bm n v f h L hL
 have HF:Aside (∀p∈L,FineQ p):=fineQ_of h.shown hL
 clear h hL htab
 go_enter func31,ntmps31
 go_wp2_with fail
 refine h1.mono ?_
 clear h1
 rintro e w1 ⟨rfl,rfl⟩
 go_wp2_with fail
 refine h2.mono ?_
 clear h2
 rintro e w2 ⟨u,rfl,H2⟩
 have h3:=entries_any w2 u L i H2.o.1 hl HF.o (HT.o w2 H2.o.2)
 go_wp2_with fail
 refine h3.mono ?_
 clear h3
 rintro e w3 ⟨v',es,rfl,H3⟩
 go_wp2
 go_ret
 exact ⟨v',es,rfl,H3.o.1,H3.o.2.1,zh H2.o.2 H3.o.2.2⟩
end
section
open Go.Shelf Go.RowKit Go.Lib Go.Sort Go.Maps
open scoped Classical
theorem row_close {α:Type} {P:Program} {enc:α->List Value} {S T:TypeId} {z:Value} {bytes:Nat} (hS:P.underlying S=some (.slice T)) (hinfo:(P.info? T).map (fun i=>(i.zero,i.size,i.bytes))=some (some z,k,bytes)) (hb1:bytes<=1000) (hk0:0<k) (hzc:z.cells.size=k) (hlen:∀x,(enc x).length=k) (hone:∀x,∀v∈enc x,v.oneCell'=true)
  {xs:List Value} (h:wr.ownsRow B T k v n xs) (hB:B<=wr.heap.size) (hb:Below wr.heap.size wr w1) (e:α) (hn:n<=1000) (ty:TypeId):
  ∃v' w3,(Builtin.append_ #[S,S] ty #[v,.slice (some ⟨w1.heap.size,0,none⟩) 1 1]).run P (w1.alloc (.cells (enc e).toArray T))= .ok v' w3/\Aside (w3.ownsRow B T k v' (n+1) (xs++enc e)/\(∀q,q<w1.heap.size->v.ownBlock≠some q->w3.heap[q]? =w1.heap[q]?)/\w1.heap.size<=w3.heap.size/\Below B wr w3):=by
 have hrow:(w1.alloc (.cells (enc e).toArray T)).ownsRow B T k v n xs:=by
  refine ownsHeld h (fun q hq=> ?_)
  have:=(h.lt q hq).2
  rw [jp _ _ _ qA,hb.block q this]
 have hin:InRow enc (w1.alloc (.cells (enc e).toArray T)) (some ⟨w1.heap.size,0,none⟩) [e]:=by
  refine .inr ⟨w1.heap.size,0,rfl,fun j u hj=> ?_⟩
  have hn:=heap_alloc_new w1 (.cells (enc e).toArray T)
  simp only [flat,List.flatMap_cons,List.flatMap_nil,vf] at hj
  simp only [World.cell?,jt]
  rw [hn]
  simpa using hj
 obtain ⟨v',w3,hrun,hown,hgr⟩:=append_row (enc:=enc) (k:=k) (S:=S) (T:=T) hS hinfo hb1 hk0 hzc hlen hone hrow zi (by rw [jI];have:=hb.size;omega) (some ⟨w1.heap.size,0,none⟩) 1 [e] zm hin (fun q=>by cases q) ty
 have hbw:Below wr.heap.size wr (w1.alloc (.cells (enc e).toArray T)):=hb.alloc hb.size _
 refine ⟨v',w3,hrun,?_,fun q hq hne=> ?_,?_,?_⟩
 ·simpa [flat] using hown
 ·rw [hgr.block q ye (fun q'=>hne q'.symm),jp _ _ _ hq]
 ·have:=hgr.size;rw [jI] at this;omega
 exact (hbw.mono hB).grown hgr (by have:=hbw.size;omega) (fun q hq=>(h.lt q hq).1)
theorem infoIL:(prog.info? 3).map (fun i=>(i.zero,i.size,i.bytes))=some (some (.int .i64 0),1,8):=zj
def encI (k:Int):List Value:=[.int .i64 k]
def lostL (f:Sta) [DecidablePred fun x=>Ins f x 1] (L:List Plc):List Int:=(L.filter (fun p=>decide (Ins f p.1 1))).map (·.1)
def IntsAt (w:World) (v:Value) (xs:List Int):Prop:=∃B,w.ownsRow B 3 1 v xs.length (flat encI xs)
def LostOut (w:World) (xs:List Int) (e:Ending) (w':World):Prop:=∃v',e= .returned v'/\Aside (IntsAt w' v' xs/\Below w.heap.size w w')
theorem lost_any (w:World) (br bt bm n:Nat) (v:Value) (f:Sta) (h:ViewAt w br bt bm n v f) (L:List Plc) (hL:IsPlaces f L) (hl:L.length<=300):
  Calls prog 40 #[.pointer (some ⟨br,0,none⟩)] w (LostOut w (lostL f L)):=by
 have h1:=treeOf_any w br bt bm n v f h
 have h2:=placesV w br bt bm n v f h L hL
 have H:Aside (ViewAt w br bt bm n v f/\(∀p∈L,FineQ p)):=⟨h,fineQ_of h.shown hL⟩
 clear h hL
 go_enter func40,ntmps40
 go_wp2_with fail
 refine h1.mono ?_
 clear h1
 rintro e w1 ⟨rfl,hw⟩
 obtain rfl:=hw.symm
 clear hw
 go_wp2_with fail
 refine h2.mono ?_
 clear h2
 rintro e w2 ⟨u,rfl,H2⟩
 obtain ⟨ao,cap,rfl,hP⟩:=H2.o.1.isIn
 have HP:Aside (PlsIn w2 ao L):=hP
 clear hP
 obtain ⟨B,hB⟩:=zc w2.heap.size
 go_wp2
 go_loopg [4,14] L.length (fun kx s4 s14 wr=>∃(k:Nat),s14= .int .i64 (k:Int)/\k<=L.length/\L.length - k<=kx/\Aside (Below w2.heap.size w2 wr/\wr.ownsRow B 3 1 s4 (lostL f (L.take k)).length (flat encI (lostL f (L.take k)))))
 case atStart=>exact ⟨0,rfl,js _,jj _,jo _ _,jQ _ _ _ _⟩
 case round=>
  obtain ⟨k,rfl,hk,hkx,A⟩:=hrel
  by_cases hlt:k<L.length
  ·have hltz:decide ((k:Int)<(L.length:Int))=true:=by simp;omega
   have ek:((k:Int)).toNat=k:=zi
   have pk:(0:Int)<=(k:Int):=zi
   have bk:(k:Int)<(L.length:Int):=zi
   obtain ⟨⟨nd,j,s⟩,hp⟩:∃p,Aside (L[k]? =some p):=⟨L[k],ji hlt⟩
   obtain ⟨blk,off,hao,r0,r1,r2⟩:=(HP.o.later A.o.1).get hp.o
   subst hao
   dsimp only at r0 r1 r2
   have hfq:=H.o.2 _ (jm hp.o)
   have hwf:Wf nd:=wf_of (by have:=hfq.1;dsimp only at this;omega) (by have:=hfq.2.1;dsimp only at this;omega)
   have hbX:Below w.heap.size w (wr.alloc (.cells #[.int .i64 nd,.int .i64 j,.string s] 106)):=(zh H2.o.2 A.o.1).alloc (by have:=H2.o.2.size;have:=A.o.1.size;omega) _
   have hi:=insideV _ br bt bm n v f (H.o.1.later hbX) nd 1 hwf
   clear hbX hfq hwf
   have hlost:lostL f (L.take (k+1))=lostL f (L.take k)++(if Ins f nd 1 then [nd] else []):=by
    unfold lostL
    rw [jL,hp.o,vw,jY]
    congr 1
    by_cases q:Ins f nd 1<;>simp [q]
   by_cases hq:Ins f nd 1
   ·rw [decide_eq_true hq] at hi
    rw [if_pos hq] at hlost
    have HL:=Lib.hid hlost
    clear hq hlost
    go_wp2_with fail
    refine hi.mono ?_
    clear hi
    rintro e w4 ⟨rfl,hb4⟩
    have hbw:Below wr.heap.size wr w4:=(zg wr _).trans (hb4.mono ye)
    have c0:w4.cell? ⟨wr.heap.size,0,none⟩=some (.int .i64 nd):=cellKept hb4 yn
    obtain ⟨v',w6,hrun,HO⟩:=row_close (enc:=encI) (k:=1) (S:=93) (T:=3) underlying93 infoIL zi zi rfl (fun _=>rfl) (fun x u hu=>yX) A.o.2 (by rw [hB.o];exact A.o.1.size) hbw nd (by unfold lostL;rw [jG];have:=vF (fun p:Plc=>decide (Ins f p.1 1)) (L.take k);rw [jz] at this;omega) 93
    unfold encI at hrun
    have hbw4:Aside (Below wr.heap.size wr w4):=hbw
    clear hb4 hbw r0 r1 r2
    go_wp2_with (at_builtin;refine Lib.wpList_append_run _ rfl _ _ _ _ rfl _ _ rfl rfl _ _ hrun ?_)
    clear hrun
    go_roundg (L.length - (k+1))
    case measure=>omega
    case rel=>
     have hb6:Below w2.heap.size w2 w6:=A.o.1.trans (by have:=HO.o.2.2.2;rw [hB.o] at this;exact this)
     refine ⟨k+1,zw,zi,jj _,hb6,?_⟩
     rw [HL.o,jA,flat_append]
     exact HO.o.1
   rw [decide_eq_false hq] at hi
   rw [if_neg hq,vf] at hlost
   have HL:=Lib.hid hlost
   clear hq hlost
   go_wp2_with fail
   refine hi.mono ?_
   clear hi
   rintro e w4 ⟨rfl,hb4⟩
   go_wp2
   go_roundg (L.length - (k+1))
   case measure=>omega
   case rel=>
    have hbw:Below wr.heap.size wr w4:=(zg wr _).trans (hb4.mono ye)
    refine ⟨k+1,zw,zi,jj _,zh A.o.1 hbw,?_⟩
    rw [HL.o]
    exact ownsHeld A.o.2 (fun q hq=>hbw.block q (A.o.2.lt q hq).2)
  have hltz:decide ((k:Int)<(L.length:Int))=false:=zk
  go_wp2
  go_ret
  have hkz:k=L.length:=zi
  subst hkz
  have hrow:=A.o.2
  rw [jX] at hrow
  exact ⟨_,rfl,⟨B,hrow⟩,zh H2.o.2 A.o.1⟩
end
section
open Go.RowKit Go.Lib Go.Sort
theorem ints_get (h:InRow encI w ao xs) {x:Int} (hk:xs[k]? =some x):∃g o,ao=some ⟨g,o,none⟩/\w.cell? ⟨g,o+k,none⟩=some (.int .i64 x):=by
 rcases h with rfl | ⟨g,o,h1,h2⟩
 ·simp at hk
 have c0:=flat_get (enc:=encI) (k:=1) (fun _=>rfl) hk (c:=0) zi
 exact ⟨g,o,h1,h2 k _ (by simpa [encI] using c0)⟩
theorem ints_in_row {cap:Nat} (h:w.ownsRow B 3 1 (.slice ao xs.length cap) xs.length (flat encI xs)):InRow encI w ao xs:=by
 rcases h.2 with ⟨h1,h2⟩ | ⟨g,cap',cur,hv,_⟩
 ·exact .inl (jC.1 h2)
 simp only [Value.slice.injEq] at hv
 obtain ⟨rfl,-,-⟩:=hv
 refine .inr ⟨g,0,rfl,fun j u hj=> ?_⟩
 have hl:=(jh.1 hj).1
 rw [flat_len (k:=1) (fun _=>rfl)] at hl
 rw [jt,h.cellAt j hl];exact hj
theorem sameInts_row (w:World) (a1 a2:Option Addr) (c1 c2:Nat) (xs:List Int) (hn:xs.length<=1000) (h1:InRow encI w a1 xs) (h2:InRow encI w a2 xs):
  Calls prog 39 #[.slice a1 xs.length c1,.slice a2 xs.length c2] w fun e w'=>e= .returned (.bool true)/\Below w.heap.size w w':=by
 have H:Aside (InRow encI w a1 xs/\InRow encI w a2 xs):=⟨h1,h2⟩
 clear h1 h2
 go_enter func39,ntmps39
 go_wp2
 go_loopg [5] xs.length (fun kx s5 wr=>∃k:Nat,s5= .int .i64 (k:Int)/\k<=xs.length/\xs.length - k<=kx/\Aside (Below w.heap.size w wr))
 case atStart=>exact ⟨0,rfl,js _,jj _,jo _ _⟩
 case round=>
  obtain ⟨k,rfl,hk,hkx,A⟩:=hrel
  by_cases hlt:k<xs.length
  ·have hltz:decide ((k:Int)<(xs.length:Int))=true:=by simp;omega
   have ek:((k:Int)).toNat=k:=zi
   have pk:(0:Int)<=(k:Int):=zi
   have bk:(k:Int)<(xs.length:Int):=zi
   obtain ⟨x,hx⟩:∃x,Aside (xs[k]? =some x):=⟨xs[k],ji hlt⟩
   obtain ⟨g1,o1,e1,r1⟩:=ints_get H.o.1 hx.o
   obtain ⟨g2,o2,e2,r2⟩:=ints_get H.o.2 hx.o
   subst e1 e2
   have z1:=cellKept A.o r1
   have z2:=cellKept A.o r2
   clear r1 r2
   go_wp2
   go_quiet (fail)
   go_wp2
   go_roundg (xs.length - (k+1))
   case measure=>omega
   case rel=>exact ⟨k+1,zw,zi,jj _,below_drewN A.o _⟩
  have hltz:decide ((k:Int)<(xs.length:Int))=false:=zk
  go_wp2
  go_ret
  exact ⟨rfl,A.o⟩
