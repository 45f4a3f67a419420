import Derived.Test.YtpdbnnimdkfajaaGreatDoorVS33
set_option linter.unusedSimpArgs false
set_option linter.unusedVariables false
set_option maxRecDepth 100000
set_option maxHeartbeats 64000000
namespace Go.Proofs.YtpdbnnimdkfajaaGreatDoor
open Go.Proofs.Tryz
variable {w w':World}
section
open Go.RowKit Go.Lib Go.Sort Go.Maps
abbrev zeroOpV:Value:=.agg #[.int .i64 0,.int .i64 0,.int .i64 0,.int .u8 0,.int .i64 0,.int .i64 0,.string ⟨#[]⟩,.string ⟨#[]⟩]
theorem zero_size:zeroOpV.cells.size=8:=rfl
def zeroRow (n:Nat):List Value:=(Builtin.zeroCells zeroOpV.cells n).toList
theorem zero_one (n:Nat):∀v∈(Builtin.zeroCells zeroOpV.cells n).toList,v.oneCell'=true:=by
 intro v hv
 unfold Builtin.zeroCells at hv
 rw [Array.toList_map,jO] at hv
 obtain ⟨a,_,rfl⟩:=hv
 rw [zero_size]
 have h8:a % 8<8:=Nat.mod_lt _ zi
 have key:∀q,q<8->(zeroOpV.cells[q]!).oneCell'=true:=fun q hq=>by
  match q,hq with
  | 0,_=>rfl
  | 1,_=>rfl
  | 2,_=>rfl
  | 3,_=>rfl
  | 4,_=>rfl
  | 5,_=>rfl
  | 6,_=>rfl
  | 7,_=>rfl
 exact key _ h8
structure EightW (w:World) (g a:Nat) (x:OpX):Prop where
 c0:w.cell? ⟨g,a,none⟩=some (.int .i64 x.1)
 c1:w.cell? ⟨g,a+1,none⟩=some (.int .i64 x.2.1)
 c2:w.cell? ⟨g,a+2,none⟩=some (.int .i64 x.2.2.1)
 c3:w.cell? ⟨g,a+3,none⟩=some (.int .u8 (x.2.2.2.1:Int))
 c4:w.cell? ⟨g,a+4,none⟩=some (.int .i64 x.2.2.2.2.1)
 c5:w.cell? ⟨g,a+5,none⟩=some (.int .i64 x.2.2.2.2.2.1)
 c6:w.cell? ⟨g,a+6,none⟩=some (.string x.2.2.2.2.2.2.1)
 c7:w.cell? ⟨g,a+7,none⟩=some (.string x.2.2.2.2.2.2.2)
 f0:w.frozen? ⟨g,a,none⟩=false
 f1:w.frozen? ⟨g,a+1,none⟩=false
 f2:w.frozen? ⟨g,a+2,none⟩=false
 f3:w.frozen? ⟨g,a+3,none⟩=false
 f4:w.frozen? ⟨g,a+4,none⟩=false
 f5:w.frozen? ⟨g,a+5,none⟩=false
 f6:w.frozen? ⟨g,a+6,none⟩=false
 f7:w.frozen? ⟨g,a+7,none⟩=false
theorem OwnAt.eight {g:Nat} {cs:List OpX} (h:OwnAt w g cs) {i:Nat} {x:OpX} (hi:cs[i]? =some x):EightW w g (i*8) x:=by
 have hl:i<cs.length:=(jh.1 hi).1
 have e0:=h.at hi (c:=0) rfl
 rw [vk] at e0
 exact ⟨e0,h.at hi (c:=1) rfl,h.at hi (c:=2) rfl,h.at hi (c:=3) rfl,h.at hi (c:=4) rfl,h.at hi (c:=5) rfl,h.at hi (c:=6) rfl,h.at hi (c:=7) rfl,h.free _ zi,h.free _ zi,h.free _ zi,h.free _ zi,h.free _ zi,h.free _ zi,h.free _ zi,h.free _ zi⟩
theorem set8 (w:World) (g a:Nat) (t b m:Int) (kd:Nat) (nd o:Int) (s u:ByteArray):((((((((w.setCell ⟨g,a,none⟩ (.int .i64 t)).setCell ⟨g,a+1,none⟩ (.int .i64 b)).setCell ⟨g,a+2,none⟩ (.int .i64 m)).setCell ⟨g,a+3,none⟩ (.int .u8 (kd:Int))).setCell ⟨g,a+4,none⟩ (.int .i64 nd)).setCell ⟨g,a+5,none⟩ (.int .i64 o)).setCell ⟨g,a+6,none⟩ (.string s)).setCell ⟨g,a+7,none⟩ (.string u))=w.setCells g a (encX (t,b,m,kd,nd,o,s,u)):=rfl
def DelOut (w:World) (g cap base:Nat) (zs:List OpX) (e:Ending) (w':World):Prop:=e= .returned (.slice (some ⟨g,0,none⟩) zs.length cap)/\OwnAt w' g zs/\Below base w w'
theorem delOps_any (p:OpX->Bool) (gf:Nat) (lb:Array Value) (eg:∀args w,(callFunc gf args).run prog w= .ok (.enter gf args) w) (g cap base:Nat) (ys:List OpX) (w:World) (hbg:base<=g) (hbw:base<=w.heap.size) (hgw:g<w.heap.size) (hp:PredB gf lb ys p base w) (hn:ys.length<=1000) (hc1:ys.length<=cap) (hc2:cap<=maxLen) (hO:OwnAt w g ys):
  Calls prog 83 #[.slice (some ⟨g,0,none⟩) ys.length cap,.func (.func gf) #[] lb] w (DelOut w g cap base (ys.filter (fun x=> !p x))):=by
 have hidx:=idxOps_any p gf lb eg (some ⟨g,0,none⟩) cap ys w (hp.toO hbw) zi hO.ops
 have H:Aside (PredB gf lb ys p base w/\OwnAt w g ys/\base<=g/\base<=w.heap.size/\g<w.heap.size):=⟨hp,hO,hbg,hbw,hgw⟩
 clear hp hO hbg hbw hgw
 have hc63:(cap:Int)<=9223372036854775807:=by simp only [maxLen] at hc2;omega
 clear hc2
 go_enter func83,ntmps83
 go_wp2_with fail
 refine hidx.mono ?_
 clear hidx
 rintro e w1 ⟨r,rfl,HR⟩
 rcases HR.o.1 with ⟨hr,ha⟩ | ⟨k,x,hr,hx,hpx,hfst⟩
 ·subst hr
  have HF:Aside (ys.filter (fun x=> !p x)=ys):=ux.2 (fun a h=>by rw [ha a h];rfl)
  clear ha
  go_wp2
  go_ret
  unfold DelOut
  rw [HF.o]
  exact ⟨rfl,H.o.2.1.same (HR.o.2.block g H.o.2.2.2.2),HR.o.2.mono H.o.2.2.2.1⟩
 have hkl:k<ys.length:=(jh.1 hx).1
 have d0:decide (((k:Nat):Int)= -1)=false:=zm
 have H1:Aside (DelSt p ys k (k+1) ys/\OwnAt w1 g ys/\Below base w w1):=⟨DelSt.start hx hpx hfst,H.o.2.1.same (HR.o.2.block g H.o.2.2.2.2),HR.o.2.mono H.o.2.2.2.1⟩
 subst hr
 clear hx hpx hfst HR
 go_wp2
 go_loopg [5,6] ys.length (fun kx s5 s6 wr=>∃(i j:Nat) (cs:List OpX),s5= .int .i64 (i:Int)/\s6= .int .i64 (j:Int)/\ys.length - j<=kx/\Aside (DelSt p ys i j cs/\OwnAt wr g cs/\Below base w wr))
 case atStart=>exact ⟨k,k+1,ys,rfl,zm,zi,H1.o⟩
 case round=>
  obtain ⟨i,j,cs,rfl,rfl,hkx,A⟩:=hrel
  have hij:=A.o.1.lt
  have hjl:=A.o.1.le
  have hcl:=A.o.1.len
  by_cases hlt:j<ys.length
  ·have hltz:decide ((j:Int)<(ys.length:Int))=true:=by simp;omega
   have hgw:g<wr.heap.size:=jE H.o.2.2.2.2 A.o.2.2.size
   have hbr:=A.o.2.2.size
   have hbw:=H.o.2.2.2.1
   have ej:((j:Int)).toNat=j:=zi
   have pj:(0:Int)<=(j:Int):=zi
   have bj:(j:Int)<(ys.length:Int):=zi
   obtain ⟨⟨t,b,m,kd,nd,o,s,u⟩,hl⟩:∃l,Aside (ys[j]? =some l):=⟨ys[j],ji hlt⟩
   obtain ⟨r0,r1,r2,r3,r4,r5,r6,r7,-,-,-,-,-,-,-,-⟩:=A.o.2.1.eight (A.o.1.get hl.o)
   dsimp only at r0 r1 r2 r3 r4 r5 r6 r7
   have hbW:Below wr.heap.size wr (wr.alloc (.cells #[.int .i64 t,.int .i64 b,.int .i64 m,.int .u8 (kd:Int),.int .i64 nd,.int .i64 o,.string s,.string u] 38)):=zg wr _
   have hBW:Below base w (wr.alloc (.cells #[.int .i64 t,.int .i64 b,.int .i64 m,.int .u8 (kd:Int),.int .i64 nd,.int .i64 o,.string s,.string u] 38)):=A.o.2.2.trans (hbW.mono zi)
   have hcall:=H.o.1 _ (t,b,m,kd,nd,o,s,u) (jm hl.o) hBW
   have HW:Aside (OpBlk (wr.alloc (.cells #[.int .i64 t,.int .i64 b,.int .i64 m,.int .u8 (kd:Int),.int .i64 nd,.int .i64 o,.string s,.string u] 38)) wr.heap.size (t,b,m,kd,nd,o,s,u)/\OwnAt (wr.alloc (.cells #[.int .i64 t,.int .i64 b,.int .i64 m,.int .u8 (kd:Int),.int .i64 nd,.int .i64 o,.string s,.string u] 38)) g cs/\Below base w (wr.alloc (.cells #[.int .i64 t,.int .i64 b,.int .i64 m,.int .u8 (kd:Int),.int .i64 nd,.int .i64 o,.string s,.string u] 38))/\g<wr.heap.size):=⟨OpBlk.new wr (t,b,m,kd,nd,o,s,u),A.o.2.1.same (hbW.block g hgw),hBW,hgw⟩
   clear hbW hBW
   unfold encO at hcall
   dsimp only at hcall
   cases hq:p (t,b,m,kd,nd,o,s,u) with
   | true=>
    rw [hq] at hcall
    have HQ:=Lib.hid hq
    clear hq
    go_wp2_with (go_at_fn gf;refine hcall.mono ?_;rintro e w' ⟨rfl,hb'⟩)
    go_roundg (ys.length - (j+1))
    case measure=>omega
    case rel=>
     have hsz:(wr.alloc (.cells #[.int .i64 t,.int .i64 b,.int .i64 m,.int .u8 (kd:Int),.int .i64 nd,.int .i64 o,.string s,.string u] 38)).heap.size=wr.heap.size+1:=zm
     exact ⟨i,j+1,cs,rfl,zw,jj _,⟨A.o.1.skip hl.o HQ.o,HW.o.2.1.same (hb'.block g zi),HW.o.2.2.1.trans (hb'.mono zi)⟩⟩
   | false=>
    rw [hq] at hcall
    have HQ:=Lib.hid hq
    clear hq
    have ei:((i:Int)).toNat=i:=zi
    have pi:(0:Int)<=(i:Int):=zi
    have bi:(i:Int)<(ys.length:Int):=zi
    obtain ⟨z,hz⟩:∃z,Aside (cs[i]? =some z):=⟨cs[i],ji zi⟩
    go_wp2_with (go_at_fn gf;refine hcall.mono ?_;rintro e w' ⟨rfl,hb'⟩;obtain ⟨q0,q1,q2,q3,q4,q5,q6,q7,-⟩:=(HW.o.1.later hb').cells;dsimp only at q0 q1 q2 q3 q4 q5 q6 q7;obtain ⟨y0,y1,y2,y3,y4,y5,y6,y7,f0,f1,f2,f3,f4,f5,f6,f7⟩:=(HW.o.2.1.same (hb'.block g ye)).eight hz.o)
    have hsz:(wr.alloc (.cells #[.int .i64 t,.int .i64 b,.int .i64 m,.int .u8 (kd:Int),.int .i64 nd,.int .i64 o,.string s,.string u] 38)).heap.size=wr.heap.size+1:=zm
    have HE:Aside (OwnAt w' g cs/\Below base w w'):=⟨HW.o.2.1.same (hb'.block g zi),HW.o.2.2.1.trans (hb'.mono zi)⟩
    clear hsz hb' q0 q1 q2 q3 q4 q5 q6 q7 y0 y1 y2 y3 y4 y5 y6 y7 f0 f1 f2 f3 f4 f5 f6 f7 r0 r1 r2 r3 r4 r5 r6 r7 hcall
    go_roundg (ys.length - (j+1))
    case measure=>omega
    case rel=>
     rw [set8 w' g (i*8) t b m kd nd o s u]
     refine ⟨i+1,j+1,cs.set i (t,b,m,kd,nd,o,s,u),?_,?_,jj _,?_⟩
     ·go_num
     ·go_num
     exact ⟨A.o.1.keep hl.o HQ.o,HE.o.1.set zi (t,b,m,kd,nd,o,s,u),HE.o.2.trans ((setCells_keeps g (encX (t,b,m,kd,nd,o,s,u)) (i*8) w').below (jw H.o.2.2.2.1 HE.o.2.size) (fun k e=>qk))⟩
  have hltz:decide ((j:Int)<(ys.length:Int))=false:=zk
  have hltn:decide (j<ys.length)=false:=zk
  have hgw:g<wr.heap.size:=jE H.o.2.2.2.2 A.o.2.2.size
  have ei:((i:Int)).toNat=i:=zi
  have pi:(0:Int)<=(i:Int):=zi
  have bi:(i:Int)<=(ys.length:Int):=zi
  have bi2:(i:Int)<=(cap:Int):=zi
  have bl:(ys.length:Int)<=(cap:Int):=zi
  have hclear:∀ty,(Builtin.clear_ #[32] ty #[.slice (some ⟨g,i*8,none⟩) (ys.length - i) (cap - i)]).run prog wr= .ok (.tuple #[]) (wr.setCells g (i*8) (zeroRow (ys.length - i))):=fun ty=>run_clear_cells (P:=prog) wr 32 38 ty _ underlying32 zeroValue38 g (i*8) (ys.length - i) (cap - i) zi (zero_one _) (fun q hq=>A.o.2.1.has (by rw [zero_size] at hq;omega)) (fun q hq=>A.o.2.1.free _ (by rw [zero_size] at hq;omega))
  go_wp2
  go_ret
  have st:=A.o.1.stay
  have ejl:j=ys.length:=zi
  rw [ejl,jX] at st
  have hil:(cs.take i).length=i:=yr
  unfold DelOut
  rw [<-st,hil]
  exact ⟨rfl,A.o.2.1.take zi _,A.o.2.2.trans ((setCells_keeps g (zeroRow (ys.length - i)) (i*8) wr).below (jw H.o.2.2.2.1 A.o.2.2.size) (fun k e=>qk))⟩
end
section
open Go.RowKit Go.Lib Go.Sort Go.Maps
def SortOut (w:World) (xs:List OpX) (e:Ending) (w':World):Prop:=∃v ys,e= .returned v/\((v= .slice none 0 0/\ys= [])\/∃g cap,v= .slice (some ⟨g,0,none⟩) ys.length cap/\w.heap.size<=g/\g<w'.heap.size/\ys.length<=cap/\cap<=maxLen/\OwnAt w' g ys)/\StableOf xs ys/\Below w.heap.size w w'
theorem opSort_own (w:World) (v:Value) (xs:List OpX) (h:OpsAt w v xs) (hn:xs.length<=1000):
  Calls prog 53 #[v] w (SortOut w xs):=by
 rcases h with ⟨rfl,rfl⟩ | ⟨blk,off,cap,rfl,hc⟩
 ·go_enter func53,ntmps53
  go_wp2_with fail
  refine (clone_nil _).mono ?_
  rintro e w' ⟨rfl,rfl⟩
  go_wp2_with fail
  refine (sortStable_nil _ _).mono ?_
  rintro e w1 ⟨rfl,rfl⟩
  go_wp2
  go_ret
  exact ⟨_,[],rfl,.inl ⟨rfl,rfl⟩,⟨#[],⟨permIn_refl _ _ _,fun i j _ _ hj=>absurd hj zm⟩,rfl⟩,jo _ _⟩
 have HC:Aside (∀j u,(cellsOf xs)[j]? =some u->w.cell? ⟨blk,off+j,none⟩=some u):=hc
 clear hc
 go_enter func53,ntmps53
 go_wp2_with fail
 refine (clone_some w blk off cap xs hn HC.o).mono ?_
 clear HC
 rintro e w1 ⟨v1,rfl,hown,hnil,hb⟩
 obtain ⟨g,c1,rfl,hg,hc1,hc2⟩:∃g c1,v1= .slice (some ⟨g,0,none⟩) xs.length c1/\w.heap.size<=g/\xs.length<=c1/\c1<=maxLen:=by
  rcases hown.2 with ⟨h1,_⟩ | ⟨g,c1,cur,h1,h2,_,h3,h4,_⟩
  ·exact absurd h1 hnil
  exact ⟨g,c1,h1,h2,h3,h4⟩
 have R0:Aside (RowK encT 8 w1 g 0 (tagged xs)):=row_of rfl hown
 have HB:Aside (Below w.heap.size w w1):=hb
 clear hown hnil hb
 go_wp2_with fail
 have C:=sortStable_any w1 g 0 c1 (tagged xs) R0.o (fun p hp=>qV) xt
 rw [tagged_size] at C
 refine C.mono ?_
 clear C
 rintro e w2 ⟨rfl,d',hd,S⟩
 have hl:d'.size=xs.length:=by rw [hd.1.1,tagged_size]
 have hl2:(d'.toList.map Prod.fst).length=xs.length:=xr
 have hsz:w1.heap.size<=w2.heap.size:=(below_sorted (jo 0 w1) (js _) (js _) S).size
 have F:Aside (SortOut w xs (.returned (.slice (some ⟨g,0,none⟩) xs.length c1)) w2):=
  ⟨_,d'.toList.map Prod.fst,rfl,.inr ⟨g,c1,by rw [hl2],hg,jE R0.o.hblk hsz,by rw [hl2];exact hc1,hc2,⟨fun j u hj=>by have:=sorted_at R0.o xD S j u hj;rw [jt] at this;exact this,fun j hj=>by
   have H:=((S.holds R0.o.hblk R0.o.hH xD) j (by rw [size_flatK];rw [hl2] at hj;omega)).2
   rw [jt] at H
   exact H⟩⟩,⟨d',hd,rfl⟩,below_sorted HB.o hg HB.o.size S⟩
 clear hd S R0 HB hl hl2 hsz hc1 hc2
 go_wp2
 go_ret
 exact F.o
end
section
open Go.RowKit Go.Lib Go.Sort Go.Maps
theorem SortOut.base {w1:World} {xs:List OpX} {e:Ending} (h:SortOut w1 xs e w') (hb:Below w.heap.size w w1):SortOut w xs e w':=by
 obtain ⟨v,ys,h1,h2,h3,h4⟩:=h
 refine ⟨v,ys,h1,h2.imp id ?_,h3,zh hb h4⟩
 rintro ⟨g,cap,k1,k2,k3⟩
 exact ⟨g,cap,k1,jw hb.size k2,k3⟩
theorem kall_own (w:World) (ao:Nat->Option Addr) (cap:Nat->Nat) (R:Rws) (hK:KnownAt w ao R) (hnil:∀i,i<4->ao i=none->cap i=0) (hn:(allR R).length<=1000):
  Calls prog 82 #[kV ao cap R] w (SortOut w (allR R)):=by
 obtain ⟨W,hW⟩:=za (w.alloc (.cells #[.slice (ao 0) (R 0).length (cap 0),.slice (ao 1) (R 1).length (cap 1),.slice (ao 2) (R 2).length (cap 2),.slice (ao 3) (R 3).length (cap 3)] 65 (0,0)))
 have hb:Below w.heap.size w W:=by rw [hW];exact zg w _
 have hbox:KBox W w.heap.size ao cap R:=by rw [hW];exact heap_alloc_new w _
 have hcat:=concat_any W w.heap.size ao cap R hbox (hK.later hb) hnil hn
 have H:Aside (W=w.alloc (.cells #[.slice (ao 0) (R 0).length (cap 0),.slice (ao 1) (R 1).length (cap 1),.slice (ao 2) (R 2).length (cap 2),.slice (ao 3) (R 3).length (cap 3)] 65 (0,0))/\Below w.heap.size w W/\(allR R).length<=1000):=⟨hW,hb,hn⟩
 clear hW hb hbox hK hnil hn
 unfold kV
 go_enter func82,ntmps82
 go_wp2_with fail
 rw [<-H.o.1]
 refine hcat.mono ?_
 clear hcat
 rintro e w1 ⟨v1,rfl,ho1,hb1⟩
 have hs:=opSort_own w1 v1 (allR R) (ownsOps ho1) H.o.2.2
 have H1:Aside (Below w.heap.size w w1):=zh H.o.2.1 hb1
 clear ho1 hb1 H
 go_wp2_with fail
 refine hs.mono ?_
 clear hs
 intro e w2 hs2
 have hs3:=hs2.base H1.o
 obtain ⟨v2,ys,rfl,h⟩:=hs2
 have H2:Aside (SortOut w (allR R) (.returned v2) w2):=hs3
 clear h hs3 H1
 go_wp2
 go_ret
 exact H2.o
theorem rops_own (w:World) (c:Nat->Nat) (br:Nat) (by_:Int) (R:Rws) (h:RepAt w c br by_ R) (hn:(allR R).length<=1000):
  Calls prog 23 #[.pointer (some ⟨br,0,none⟩)] w (SortOut w (allR R)):=by
 obtain ⟨T,kv,bt,bx,bc,A,hm,hp,hK,hb⟩:=h
 obtain ⟨ao,cap,hM⟩:=hm.norm
 have hall:=kall_own w ao cap R (KnownAt.of_rows hM.rows) (rows_nil hM.rows) hn
 unfold kV at hall
 have k2:w.cell? ⟨br,2,none⟩=some (.slice (ao 0) (R 0).length (cap 0)):=hM.cell.c2
 have k3:w.cell? ⟨br,3,none⟩=some (.slice (ao 1) (R 1).length (cap 1)):=hM.cell.c3
 have k4:w.cell? ⟨br,4,none⟩=some (.slice (ao 2) (R 2).length (cap 2)):=hM.cell.c4
 have k5:w.cell? ⟨br,5,none⟩=some (.slice (ao 3) (R 3).length (cap 3)):=hM.cell.c5
 clear hm hM hp hK hb hn
 go_enter func23,ntmps23
 go_wp2_with fail
 refine hall.mono ?_
 clear hall
 intro e w2 hs2
 have hs3:=hs2
 obtain ⟨v2,ys,rfl,h⟩:=hs2
 have H2:Aside (SortOut w (allR R) (.returned v2) w2):=hs3
 clear h hs3
 go_wp2
 go_ret
 exact H2.o
end
section
open Go.RowKit Go.Lib Go.Sort Go.Maps
def DiffOut (w:World) (R:Rws) (v:Nat->Int) (e:Ending) (w':World):Prop:=∃val ys,e= .returned val/\StableOf (allR R) ys/\((val= .slice none 0 0/\ys= [])\/∃g cap,val= .slice (some ⟨g,0,none⟩) (ys.filter (fun x=> !heldV v x)).length cap/\w.heap.size<=g/\OwnAt w' g (ys.filter (fun x=> !heldV v x)))/\Below w.heap.size w w'
theorem VecBlk.same' {b B:Nat} {v:Nat->Int} (h:VecBlk w b v) (hb:Below B w w') (hB:b<B):VecBlk w' b v:=(hb.block b hB).trans h
theorem delNil (p:OpX->Bool) (gf:Nat) (lb:Array Value) (eg:∀args w,(callFunc gf args).run prog w= .ok (.enter gf args) w) (w:World):
  Calls prog 83 #[.slice none 0 0,.func (.func gf) #[] lb] w fun e w'=>e= .returned (.slice none 0 0)/\Below w.heap.size w w':=by
 have hidx:=idxOps_any p gf lb eg none 0 [] w (fun W x hx=>by cases hx) zm (.inl rfl)
 go_enter func83,ntmps83
 go_wp2_with fail
 refine hidx.mono ?_
 clear hidx
 rintro e w1 ⟨r,rfl,HR⟩
 rcases HR.o.1 with ⟨hr,ha⟩ | ⟨k,x,hr,hx,_⟩
 ·subst hr
  clear ha
  go_wp2
  go_ret
  exact ⟨rfl,HR.o.2⟩
 simp at hx
theorem rdiff_any (w:World) (c:Nat->Nat) (br:Nat) (by_:Int) (R:Rws) (v:Nat->Int) (h:RepAt w c br by_ R) (hn:(allR R).length<=1000):
  Calls prog 24 #[.pointer (some ⟨br,0,none⟩),.agg #[.int .i64 (v 0),.int .i64 (v 1),.int .i64 (v 2),.int .i64 (v 3)]] w (DiffOut w R v):=by
 have eg:∀args w,(callFunc 84 args).run prog w= .ok (.enter 84 args) w:=enters_of func84 zj rfl
 obtain ⟨U,hU⟩:=za (w.alloc (.cells #[.int .i64 (v 0),.int .i64 (v 1),.int .i64 (v 2),.int .i64 (v 3)] 55 (0,0)))
 have hbU:Below w.heap.size w U:=zJ
 have hv:VecBlk U w.heap.size v:=by rw [hU];exact heap_alloc_new w _
 have hops:=rops_own U c br by_ R (h.later hbU) hn
 have hK:RowsK R:=xN
 have H:Aside (U=w.alloc (.cells #[.int .i64 (v 0),.int .i64 (v 1),.int .i64 (v 2),.int .i64 (v 3)] 55 (0,0))/\Below w.heap.size w U/\VecBlk U w.heap.size v/\RowsK R):=⟨hU,hbU,hv,hK⟩
 clear hU hbU hv hK h
 go_enter func24,ntmps24
 go_upto_region 1 with fail
 rw [<-H.o.1]
 go_wp2_with fail
 refine hops.mono ?_
 clear hops
 rintro e w1 ⟨val,ys,rfl,hval,hst,hb1⟩
 rcases hval with ⟨rfl,rfl⟩ | ⟨g,cap,rfl,hg1,hg2,hc1,hc2,hO⟩
 ·have hd:=delNil (heldV v) 84 #[.pointer (some ⟨w.heap.size,0,none⟩)] eg w1
  have H1:Aside (StableOf (allR R) []/\Below w.heap.size w w1):=⟨hst,zh H.o.2.1 hb1⟩
  clear hst hb1 eg
  go_wp2_with fail
  refine hd.mono ?_
  clear hd
  rintro e w2 ⟨rfl,hb2⟩
  have H2:Aside (Below w.heap.size w w2):=zh H1.o.2 hb2
  clear hb2
  go_wp2
  go_ret
  exact ⟨_,[],rfl,H1.o.1,.inl ⟨rfl,rfl⟩,H2.o⟩
 have hlen:ys.length=(allR R).length:=(stable_by hst).1.length_eq
 have hpred:PredB 84 #[.pointer (some ⟨w.heap.size,0,none⟩)] ys (heldV v) U.heap.size w1:=fun W x hx hW=>by
  obtain ⟨i,hi,hb,_⟩:=by_nat (H.o.2.2.2.well.ok x ((stable_by hst).1.mem_iff.1 hx))
  exact diffFn_any W w.heap.size v x ((H.o.2.2.1.later hb1).same' hW H.o.2.2.1.lt) i hi hb
 have hd:=delOps_any (heldV v) 84 #[.pointer (some ⟨w.heap.size,0,none⟩)] eg g cap U.heap.size ys w1 hg1 hb1.size hg2 hpred zi hc1 hc2 hO
 have H1:Aside (StableOf (allR R) ys/\Below w.heap.size w w1/\w.heap.size<=g):=⟨hst,zh H.o.2.1 hb1,jw H.o.2.1.size hg1⟩
 clear hst hb1 eg hpred hO hlen hg1 hg2 hc1 hc2
 go_wp2_with fail
 refine hd.mono ?_
 clear hd
 rintro e w2 ⟨rfl,hO2,hb2⟩
 have H2:Aside (Below w.heap.size w w2/\OwnAt w2 g (ys.filter (fun x=> !heldV v x))):=⟨H1.o.2.1.trans (hb2.mono H.o.2.1.size),hO2⟩
 clear hb2 hO2
 go_wp2
 go_ret
 exact ⟨_,ys,rfl,H1.o.1,.inr ⟨g,cap,rfl,H1.o.2.2,H2.o.2⟩,H2.o.1⟩
