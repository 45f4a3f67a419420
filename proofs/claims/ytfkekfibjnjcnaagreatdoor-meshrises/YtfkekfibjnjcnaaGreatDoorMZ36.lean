import Derived.Test.YtfkekfibjnjcnaaGreatDoorMZ35
set_option linter.unusedSimpArgs false
set_option linter.unusedVariables false
set_option maxRecDepth 100000
set_option maxHeartbeats 64000000
namespace Go.Proofs.YtfkekfibjnjcnaaGreatDoor
open Go.Proofs.Tryz
variable {N:List NoteX} {B bm n:Nat} {ad:Nat→Addr} {st:Nat→DSt} {gd:Nat→Option Obj} {K:Nat→Rws}
section
open Go.RowKit Go.Lib Go.Sort Go.Maps
open scoped Classical
def askN (a b:Nat) (v:Nat->Int):NoteX:=(a,b,true,v,none,0,[])
def DropOut (gd:Nat->Option Obj) (B n bm:Nat) (K:Nat->Rws) (st:Nat->DSt) (N:List NoteX) (at_:Int) (w:World) (e:Ending) (w':World):Prop:=(¬(0<=at_/\at_<(N.length:Int))/\(∃t v,e= .returned (.iface t v))/\Aside (MeshS gd B n bm K st N w'/\Below B w w'))\/(∃k:Nat,at_=(k:Int)/\k<N.length/\e= .returned .nilIface/\Aside (MeshS gd B n bm K st (N.eraseIdx k) w'/\Below B w w'))
theorem drop_any (w:World) (at_:Int) (h:MeshS gd B n bm K st N w) (hE:EnvM B ad w) (hN:N.length<=30) (ho:(-9223372036854775808<=at_/\at_<=9223372036854775807)):
  Calls prog 15 #[.pointer (some ⟨bm,0,none⟩),.int .i64 at_] w (DropOut gd B n bm K st N at_ w):=by
 obtain ⟨ow,pv,fv,bp,br,d,dv,c,hm⟩:=h
 have ht:=take_any w at_ hm hE hN ho
 have HM:Aside (MeshAt gd B w ow n bm pv fv bp br d dv c K st N/\EnvM B ad w):=⟨hm,hE⟩
 clear hm hE
 go_enter func15,ntmps15
 go_wp2_with fail
 refine ht.mono ?_
 clear ht
 rintro e w1 (⟨q,rfl,HB⟩ | ⟨k,⟨x1,x2,x3,x4,x5,x6,x7⟩,rfl,hk,rfl,HT⟩)
 ·have HQ:Aside (¬(0<=at_/\at_<(N.length:Int))):=q
  rw [eV_iface (show (6:Nat)≠0 by omega)]
  clear q
  go_wp2
  go_ret
  have hb:Below w.heap.size w (w1.alloc (.cells #[.int .i64 0,.int .i64 0,.bool false,.int .i64 0,.int .i64 0,.int .i64 0,.int .i64 0,.slice none 0 0] 82)):=HB.o.alloc HB.o.size _
  exact .inl ⟨HQ.o,⟨_,_,rfl⟩,⟨_,_,_,_,_,_,_,_,HM.o.1.later hb⟩,hb.mono HM.o.1.base⟩
 unfold aggN valN
 dsimp only
 go_wp2
 go_ret
 obtain ⟨_,ow',fv',hm',hn',hb'⟩:=HT.o
 have hb:Below w1.heap.size w1 (w1.alloc (.cells #[.int .i64 (x1:Int),.int .i64 (x2:Int),.bool x3,.int .i64 (x4 0),.int .i64 (x4 1),.int .i64 (x4 2),.int .i64 (x4 3),.slice x5 x7.length x6] 82)):=zh w1 _
 exact .inr ⟨k,rfl,hk,rfl,⟨_,_,_,_,_,_,_,_,hm'.later hb⟩,hb'.trans (hb.mono hm'.base)⟩
def TwiceOut (gd:Nat->Option Obj) (B n bm:Nat) (K:Nat->Rws) (st:Nat->DSt) (N:List NoteX) (w:World) (e:Ending) (w':World):Prop:=∃(v:Value) (N':List NoteX),e= .returned v/\Aside (MeshS gd B n bm K st N' w'/\Below B w w'/\N'.length<=30/\∀x∈N',x∈N)
theorem twice_any (w:World) (at_:Int) (h:MeshS gd B n bm K st N w) (hE:EnvM B ad w) (hN:N.length<=30) (ho:(-9223372036854775808<=at_/\at_<=9223372036854775807)):
  Calls prog 24 #[.pointer (some ⟨bm,0,none⟩),.int .i64 at_] w (TwiceOut gd B n bm K st N w):=by
 obtain ⟨ow,pv,fv,bp,br,d,dv,c,hm⟩:=h
 obtain ⟨fo,fc,hfv⟩:=rowIs hm.fly
 subst hfv
 have m1:=hm.mesh.c1
 have en:=hE.t.env.c5
 have hfl:=flies_any w at_ hm.mesh ho
 have HM:Aside (MeshAt gd B w ow n bm pv (.slice fo N.length fc) bp br d dv c K st N/\EnvM B ad w):=⟨hm,hE⟩
 clear hm hE
 by_cases hin:0<=at_/\at_<(N.length:Int)
 ·obtain ⟨k,rfl⟩:∃k:Nat,at_=(k:Int):=⟨at_.toNat,zj⟩
  have hk:k<N.length:=zj
  rw [decide_eq_true hin] at hfl
  obtain ⟨⟨x1,x2,x3,x4,x5,x6,x7⟩,hx⟩:∃x,Aside (N[k]? =some x):=⟨N[k],vj hk⟩
  have hsd:=send_any w (x1,x2,x3,x4,x5,x6,x7) HM.o.1 HM.o.2 (HM.o.1.notes _ (vx hx.o))
  unfold aggN valN at hsd
  dsimp only at hsd
  obtain ⟨blk,off,rfl,hc⟩:=note_cells HM.o.1.fly hx.o
  have r0:=hc 0 _ rfl
  have r1:=hc 1 _ rfl
  have r2:=hc 2 _ rfl
  have r3:=hc 3 _ rfl
  have r4:=hc 4 _ rfl
  have r5:=hc 5 _ rfl
  have r6:=hc 6 _ rfl
  have r7:=hc 7 _ rfl
  simp only [ui] at r0
  dsimp only at r0 r1 r2 r3 r4 r5 r6 r7
  unfold valN at r7
  dsimp only at r7
  have wk:((k:Int)).toNat=k:=zj
  have pk:(0:Int)<=(k:Int):=zj
  have bk:(k:Int)<(N.length:Int):=zj
  clear hc hin
  go_enter func24,ntmps24
  go_wp2_with fail
  refine hfl.mono ?_
  clear hfl
  rintro e w1 ⟨rfl,rfl⟩
  go_wp2_with fail
  refine hsd.mono ?_
  clear hsd
  rintro e w2 (⟨h30,rfl,HB⟩ | ⟨h30,rfl,HB⟩)
  ·rw [eV_iface (show (8:Nat)≠0 by omega)]
   go_wp2
   go_ret
   exact ⟨_,N,rfl,⟨_,_,_,_,_,_,_,_,HM.o.1.later HB.o⟩,HB.o.mono HM.o.1.base,hN,fun x hx=>hx⟩
  go_wp2
  go_ret
  obtain ⟨fv',ow',hm',hb'⟩:=HB.o
  refine ⟨_,_,rfl,⟨_,_,_,_,_,_,_,_,hm'⟩,hb',by rw [vw];simp;omega,fun x hx'=> ?_⟩
  rcases vv.1 hx' with q | q
  ·exact q
  rw [vA.1 q];exact vx hx.o
 rw [decide_eq_false hin] at hfl
 clear hin
 go_enter func24,ntmps24
 go_wp2_with fail
 refine hfl.mono ?_
 clear hfl
 rintro e w1 ⟨rfl,rfl⟩
 go_wp2
 go_ret
 exact ⟨_,N,rfl,⟨_,_,_,_,_,_,_,_,HM.o.1⟩,vu _ _,hN,fun x hx=>hx⟩
def AskOut (gd:Nat->Option Obj) (B n bm:Nat) (K:Nat->Rws) (st:Nat->DSt) (N:List NoteX) (x y:Int) (w:World) (e:Ending) (w':World):Prop:=∃(v:Value) (N':List NoteX),e= .returned v/\Aside (MeshS gd B n bm K st N' w'/\Below B w w'/\((v= .nilIface/\N.length<30/\∃a b:Nat,a<n/\b<n/\a≠b/\x=(a:Int)/\y=(b:Int)/\N'=N++ [askN a b (vecR (K a))])\/(N'=N/\¬((0<=x/\x<(n:Int))/\(0<=y/\y<(n:Int))/\x≠y/\N.length<30))))
theorem ask_any (w:World) (x y:Int) (h:MeshS gd B n bm K st N w) (hE:EnvM B ad w) (hK:∀r,r<n->(allR (K r)).length<=1000) (hx:(-9223372036854775808<=x/\x<=9223372036854775807)) (hy:(-9223372036854775808<=y/\y<=9223372036854775807)):
  Calls prog 17 #[.pointer (some ⟨bm,0,none⟩),.int .i64 x,.int .i64 y] w (AskOut gd B n bm K st N x y w):=by
 obtain ⟨ow,pv,fv,bp,br,d,dv,c,hm⟩:=h
 have hp:=peer_any w x hm hE hx
 have HM:Aside (MeshAt gd B w ow n bm pv fv bp br d dv c K st N/\EnvM B ad w):=⟨hm,hE⟩
 clear hm hE
 go_enter func17,ntmps17
 go_wp2_with fail
 refine hp.mono ?_
 clear hp
 rintro e w1 (⟨q,rfl,HB⟩ | ⟨r,hr,rfl,rfl,rfl⟩)
 ·have HQ:Aside (¬(0<=x/\x<(n:Int))):=q
  rw [eV_iface (show (2:Nat)≠0 by omega)]
  clear q
  go_wp2
  go_ret
  exact ⟨_,N,rfl,⟨_,_,_,_,_,_,_,_,HM.o.1.later HB.o⟩,HB.o.mono HM.o.1.base,.inr ⟨rfl,fun q=>HQ.o q.1⟩⟩
 have hp2:=peer_any w1 y HM.o.1 HM.o.2 hy
 go_wp2_with fail
 refine hp2.mono ?_
 clear hp2
 rintro e w2 (⟨q,rfl,HB⟩ | ⟨s,hs,rfl,rfl,rfl⟩)
 ·have HQ:Aside (¬(0<=y/\y<(n:Int))):=q
  rw [eV_iface (show (2:Nat)≠0 by omega)]
  clear q
  go_wp2
  go_ret
  exact ⟨_,N,rfl,⟨_,_,_,_,_,_,_,_,HM.o.1.later HB.o⟩,HB.o.mono HM.o.1.base,.inr ⟨rfl,fun q=>HQ.o q.2.1⟩⟩
 by_cases hrs:r=s
 ·subst hrs
  have dq:((r:Int)==(r:Int))=true:=zm
  have eb:=HM.o.2.t.env.op4.c1
  go_wp2
  go_ret
  exact ⟨_,N,rfl,⟨_,_,_,_,_,_,_,_,HM.o.1⟩,vu _ _,.inr ⟨rfl,fun q=>q.2.2.1 rfl⟩⟩
 have dq:((r:Int)==(s:Int))=false:=qd
 have dq2:decide ((r:Int)=(s:Int))=false:=yW
 have p0:=(HM.o.1.peer r hr).1.c0
 have hvec:=rvector_any w2 (c r) (br r) (r:Int) (K r) (HM.o.1.rep r hr).1.rep (hK r hr)
 have HRS:Aside (r≠s):=hrs
 clear hrs
 go_wp2_with fail
 refine hvec.mono ?_
 clear hvec p0
 rintro e w3 ⟨rfl,hb3⟩
 have hsd:=send_any w3 (askN r s (vecR (K r))) (HM.o.1.later hb3) (HM.o.2.later hb3) ⟨hr,hs,.inl ⟨rfl,rfl⟩,fun g hg=>qr⟩
 unfold aggN valN askN vecR at hsd
 dsimp only [List.length_nil] at hsd
 have HB3:Aside (Below w2.heap.size w2 w3):=hb3
 clear hb3
 go_wp2_with fail
 refine hsd.mono ?_
 clear hsd
 rintro e w4 (⟨h30,rfl,HB⟩ | ⟨h30,rfl,HB⟩)
 ·rw [eV_iface (show (8:Nat)≠0 by omega)]
  go_wp2
  go_ret
  have hb4:Below w2.heap.size w2 w4:=zi HB3.o HB.o
  exact ⟨_,N,rfl,⟨_,_,_,_,_,_,_,_,HM.o.1.later hb4⟩,hb4.mono HM.o.1.base,.inr ⟨rfl,fun q=>zj⟩⟩
 go_wp2
 go_ret
 obtain ⟨fv',ow',hm',hb'⟩:=HB.o
 exact ⟨_,_,rfl,⟨_,_,_,_,_,_,_,_,hm'⟩,(HB3.o.mono HM.o.1.base).trans hb',.inl ⟨rfl,h30,r,s,hr,hs,HRS.o,rfl,rfl,rfl⟩⟩
