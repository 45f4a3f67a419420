import Derived.Test.YtfkekfibjnjcnaaGreatDoorMZ42
set_option linter.unusedSimpArgs false
set_option linter.unusedVariables false
set_option maxRecDepth 100000
set_option maxHeartbeats 64000000
namespace Go.Proofs.YtfkekfibjnjcnaaGreatDoor
open Go.Proofs.Tryz
variable {xs:List OpX} {b i o:Nat} {x:OpX} {w:World}
section
open Go.RowKit Go.Lib Go.Sort Go.Maps
open scoped Classical
theorem opsIn_row {v:Value} (h:OpsAt w v xs):∃ao cap,v= .slice ao xs.length cap/\InRow encX w ao xs:=by
 rcases h with ⟨rfl,rfl⟩ | ⟨b,o,c,rfl,h⟩
 ·exact ⟨none,0,rfl,.inl rfl⟩
 exact ⟨some ⟨b,o,none⟩,c,rfl,.inr ⟨b,o,rfl,h⟩⟩
structure Oct (w:World) (b o:Nat) (x:OpX):Prop where
 at_:∀c u,(encX x)[c]? =some u->w.cell? ⟨b,o+c,none⟩=some u
theorem Oct.later {w':World} (h:Oct w b o x) (hb:Below w.heap.size w w'):Oct w' b o x:=⟨fun c u hu=>cellHeld hb (h.at_ c u hu)⟩
theorem Oct.eight {t b' n:Int} {k:Nat} {nd ot:Int} {s v:ByteArray} (h:Oct w b o (t,b',n,k,nd,ot,s,v)):w.cell? ⟨b,o,none⟩=some (.int .i64 t)/\w.cell? ⟨b,o+1,none⟩=some (.int .i64 b')/\w.cell? ⟨b,o+2,none⟩=some (.int .i64 n)/\w.cell? ⟨b,o+3,none⟩=some (.int .u8 (k:Int))/\w.cell? ⟨b,o+4,none⟩=some (.int .i64 nd)/\w.cell? ⟨b,o+5,none⟩=some (.int .i64 ot)/\w.cell? ⟨b,o+6,none⟩=some (.string s)/\w.cell? ⟨b,o+7,none⟩=some (.string v):=
 ⟨h.at_ 0 _ rfl,h.at_ 1 _ rfl,h.at_ 2 _ rfl,h.at_ 3 _ rfl,h.at_ 4 _ rfl,h.at_ 5 _ rfl,h.at_ 6 _ rfl,h.at_ 7 _ rfl⟩
theorem row_oct {ao:Option Addr} (h:InRow encX w ao xs) (hx:xs[i]? =some x):∃b o,ao=some ⟨b,o,none⟩/\Oct w b (o+i*8) x:=by
 obtain ⟨b,o,h1,h2⟩:=h.get encX_len hx
 exact ⟨b,o,h1,⟨fun c u hu=>h2 c u hu⟩⟩
theorem all_met {n:Nat} {G:List OpX} {K:Nat->Rws} {D:Nat->List OpX} {st:Nat->DSt} {N:List NoteX} (hI:MeshI n i G K D st N) (hn:0<n) (hG:∀x∈G,x∈allR (K 0)) {ys:List OpX} (hp:ys.Perm (allR (K 0))):(∀x∈G,x∈ys)/\ys.length=G.length:=by
 refine ⟨fun x hx=>hp.mem_iff.2 (hG x hx),?_⟩
 have h1:(allR (K 0)).Perm G:=(Zw (hI.rows 0 hn).num.nodup hI.inv.nodup).2 fun a=>⟨fun q=>hI.inv.sub 0 hn a q,fun q=>hG a q⟩
 exact (hp.trans h1).length_eq
theorem meshMeets_law {B:Nat} {ad:Nat->Addr} (w:World) (many:Int) (la:Option Addr) (lc:Nat) (l:List Stp) (hE0:EnvM B ad w) (hin:InRow encSt w la l) (hl:l.length<9223372036854775808) (hok:∀t∈l,StpIn t) (hx:I64 many):
  Calls prog 4 #[.int .i64 many,.slice la l.length lc] w fun e w'=>e= .returned (.bool true)/\Below w.heap.size w w':=by
 unfold I64 at hx
 obtain ⟨i0,hi0,hz0,hz1,hz2⟩:=info_parts infoOp
 have hmet:=meshed_any w hE0
 obtain ⟨S,hS⟩:=ze w.heap.size
 have hE:EnvM S ad w:=yH
 have HE:Aside (EnvM S ad w/\InRow encSt w la l/\∀t∈l,StpIn t):=⟨hE,hin,hok⟩
 have hSw:S<=w.heap.size:=yt
 clear hE hE0 hin hok
 go_enter func4,ntmps4
 go_wp2_with fail
 refine hmet.mono ?_
 clear hmet
 rintro e w1 ⟨rfl,hb1⟩
 have HB1:Aside (Below w.heap.size w w1):=hb1
 have hlg:=longS_any w1 120 zj la lc l (HE.o.2.1.later hb1) hl
 clear hb1
 go_wp2_with fail
 refine hlg.mono ?_
 clear hlg
 rintro e w2 ⟨z,rfl,HZ⟩
 obtain rfl:w2=w1:=HZ.o.2
 cases z with
 | true=>
  go_wp2
  go_ret
  exact ⟨rfl,HB1.o⟩
 | false=>
 have hsh:=HZ.o.1 rfl
 by_cases c1:many<1
 ·have d1:decide (many<1)=true:=by simp;omega
  go_wp2
  go_ret
  exact ⟨rfl,HB1.o⟩
 by_cases c2:4<many
 ·have d1:decide (many<1)=false:=by simp;omega
  have d2:decide (4<many)=true:=zl
  go_wp2
  go_ret
  exact ⟨rfl,HB1.o⟩
 obtain ⟨n,rfl⟩:∃n:Nat,many=(n:Int):=⟨many.toNat,zj⟩
 have hn1:1<=n:=zj
 have hn4:n<=4:=zj
 have d1:decide ((n:Int)<1)=false:=zl
 have d2:decide ((4:Int)<(n:Int))=false:=zl
 have d1n:decide (n<1)=false:=zl
 have d2n:decide (4<n)=false:=zl
 have hnew:=mnew_any (B:=S) w2 n hn1 hn4 (vr hSw HB1.o.size)
 have HSH:Aside (l.length<=120/\∀t∈l,StpShort t):=hsh
 clear c1 c2 hsh HZ
 go_wp2_with fail
 refine hnew.mono ?_
 clear hnew d1 d2 d1n d2n
 rintro e w3 ⟨bm,rfl,H3⟩
 have HS3:Aside (∃(gd:Nat->Option Obj) (K:Nat->Rws) (D:Nat->List OpX) (st:Nat->DSt) (N:List NoteX),MeshR S n bm K st N (.slice none 0 0) [] gd w3/\Below S w w3/\MeshI n 0 [] K D st N/\N.length<=30):=by
  obtain ⟨K0,st0,hm,hb,hK,hst,_⟩:=H3.o
  have hbS:Below S w w3:=by
   have:=zi HB1.o hb
   rw [hS.o];exact this
  exact ⟨_,K0,fun _=>[],st0,[],hm.bare,hbS,⟨(MInv.start n _).congr (fun r hr x=>jp),fun r hr=>by rw [hst r hr];exact diskI_new,fun x hx=>zO,fun r hr=>xx⟩,zm⟩
 clear H3
 go_wp2
 go_loopg [8,9] l.length (fun kx s8 s9 wr=>∃(k:Nat) (G:List OpX) (ao:Option Addr) (cap:Nat),s8= .slice ao G.length cap/\s9= .int .i64 (k:Int)/\k<=l.length/\l.length - k<=kx/\G.length<=k/\Aside (∃(gd:Nat->Option Obj) (K:Nat->Rws) (D:Nat->List OpX) (st:Nat->DSt) (N:List NoteX),MeshR S n bm K st N (.slice ao G.length cap) G gd wr/\Below S w wr/\MeshI n k G K D st N/\N.length<=30))
 case atStart=>exact ⟨0,[],none,0,rfl,rfl,vD _,vm _,vm _,HS3.o⟩
 case round=>
  obtain ⟨k,G,ao,cap,rfl,rfl,hk,hkx,hGk,A⟩:=hrel
  clear HS3
  have hl120:=HSH.o.1
  by_cases hlt:k<l.length
  ·have e1:decide ((k:Int)<(l.length:Int))=true:=by simp;omega
   have wk:((k:Int)).toNat=k:=zj
   have pk:(0:Int)<=(k:Int):=zj
   have bk:(k:Int)<(l.length:Int):=zj
   obtain ⟨gd,K,D,st,N,hm,hb,hI,hN⟩:=A.o
   obtain ⟨⟨kk,pn,pt,pa,t',b',m',kd',nd',o',s',v'⟩,hxk⟩:∃q,Aside (l[k]? =some q):=⟨l[k],vj hlt⟩
   have hmem:=vx hxk.o
   have hbw:Below w.heap.size w wr:=by rw [<-hS.o];exact hb
   obtain ⟨blk,off,hao,hcl⟩:=(HE.o.2.1.later hbw).get encSt_len hxk.o
   subst hao
   have r0:=hcl 0 _ rfl
   have r1:=hcl 1 _ rfl
   have r2:=hcl 2 _ rfl
   have r3:=hcl 3 _ rfl
   have r4:=hcl 4 _ rfl
   have r5:=hcl 5 _ rfl
   have r6:=hcl 6 _ rfl
   have r7:=hcl 7 _ rfl
   have r8:=hcl 8 _ rfl
   have r9:=hcl 9 _ rfl
   have r10:=hcl 10 _ rfl
   have r11:=hcl 11 _ rfl
   simp only [ui] at r0
   have hwk:=walk_any wr (kk,pn,pt,pa,t',b',m',kd',nd',o',s',v') hn1 hn4 hm.1 hI hN (HE.o.1.mono hb) zj (HE.o.2.2 _ hmem) (HSH.o.2 _ hmem)
   unfold aggSt at hwk
   dsimp only at hwk
   have HB:Aside (Below S w wr/\MeshR S n bm K st N (.slice ao G.length cap) G gd wr):=⟨hb,hm⟩
   obtain ⟨u0,hu0⟩:=za wr
   subst hu0
   clear A hm hb hI hmem hbw hcl
   go_wp2_with fail
   refine hwk.mono ?_
   clear hwk r0 r1 r2 r3 r4 r5 r6 r7 r8 r9 r10 r11
   rintro e w5 ⟨⟨t,b,m,kd,nd,o,s,v⟩,z5,G5,K5,D5,st5,N5,rfl,H5⟩
   obtain ⟨hm5,hb5,hI5,hN5,_,hG5⟩:=H5.o
   obtain ⟨V,hV⟩:=ze (w5.alloc (.cells #[.int .i64 t,.int .i64 b,.int .i64 m,.int .u8 (kd:Int),.int .i64 nd,.int .i64 o,.string s,.string v] 41))
   obtain ⟨Q,hQ⟩:=ze w5.heap.size
   have hbV:Below w5.heap.size w5 V:=by rw [hV.o];exact zh w5 _
   have OV:Oct V Q 0 (t,b,m,kd,nd,o,s,v):=⟨fun c u hu=>by
    have:=uF (w:=V) (B:=Q) (cs:= #[.int .i64 t,.int .i64 b,.int .i64 m,.int .u8 (kd:Int),.int .i64 nd,.int .i64 o,.string s,.string v]) (t:=41) (fr:=(0,0)) (by rw [hV.o,hQ.o];exact heap_alloc_new w5 _) c u hu
    rw [add_plain] at this
    exact this⟩
   have hm5':=HB.o.2.on hm5
   have hmV:=hm5'.on (hm5'.1.later hbV)
   have hSw5:S<=w5.heap.size:=vr (vr hSw HB.o.1.size) hb5.size
   have hSV:S<=V.heap.size:=vr hSw5 hbV.size
   have HV:Aside (MeshR S n bm K5 st5 N5 (.slice ao G.length cap) G gd V/\Below S w V/\MeshI n (k+1) G5 K5 D5 st5 N5/\N5.length<=30):=⟨hmV,(HB.o.1.trans hb5).trans (hbV.mono hSw5),hI5,hN5⟩
   clear H5 HB hm5 hb5 hI5 hN5 hbV hm5' hmV
   unfold encO
   dsimp only
   go_upto_region 12 with fail
   rw [<-hV.o,<-hQ.o]
   cases z5 with
   | false=>
    obtain rfl:G5=G:=by
     rcases hG5 with ⟨_,q⟩ | ⟨q,_⟩
     ·exact q
     cases q
    clear hG5 OV
    go_wp2
    go_roundg (l.length - (k+1))
    case measure=>omega
    case rel=>exact ⟨k+1,G5,ao,cap,rfl,zL,zj,vm _,zj,gd,K5,D5,st5,N5,HV.o⟩
   | true=>
    obtain rfl:G5=G++ [(t,b,m,kd,nd,o,s,v)]:=by
     rcases hG5 with ⟨q,_⟩ | ⟨_,q,_⟩
     ·cases q
     exact q
    clear hG5
    obtain ⟨X,hX⟩:=ze (V.alloc (.cells #[.int .i64 t,.int .i64 b,.int .i64 m,.int .u8 (kd:Int),.int .i64 nd,.int .i64 o,.string s,.string v] 41))
    obtain ⟨P,hP⟩:=ze V.heap.size
    have hbX:Below V.heap.size V X:=by rw [hX.o];exact zh V _
    have hmX:=HV.o.1.on (HV.o.1.1.later hbX)
    have hXc:X.heap[P]? =some (.cells #[.int .i64 t,.int .i64 b,.int .i64 m,.int .u8 (kd:Int),.int .i64 nd,.int .i64 o,.string s,.string v] 41 (0,0)):=by rw [hX.o,hP.o];exact heap_alloc_new V _
    obtain ⟨v2,w2',hrun,hown,hgrow,hcase⟩:=append_in (P:=prog) X S 48 48 41 i0 _ 8 80 underlying48 hi0 hz0 hz1 hz2 rfl zj (.slice ao G.length cap) G.length (flat encX G) hmX.2.2.2 ⟨P,0,none⟩ 1 1 zj (encX (t,b,m,kd,nd,o,s,v)) (by rw [encX_len])
     (uF (cs:= #[.int .i64 t,.int .i64 b,.int .i64 m,.int .u8 (kd:Int),.int .i64 nd,.int .i64 o,.string s,.string v]) (t:=41) (fr:=(0,0)) hXc) (encX_one _) zw zj (vr hSV hbX.size)
    have hown':w2'.ownsRow S 41 8 v2 (G++ [(t,b,m,kd,nd,o,s,v)]).length (flat encX (G++ [(t,b,m,kd,nd,o,s,v)])):=by
     rw [vw]
     have e:flat encX (G++ [(t,b,m,kd,nd,o,s,v)])=flat encX G++encX (t,b,m,kd,nd,o,s,v):=by simp [flat]
     rw [e]
     exact hown
    obtain ⟨gd2,hm2⟩:=hmX.more (keeps_of_grown hgrow) hown' (fun g hg=>by
     rcases hcase with ⟨g',cp,e1,e2⟩ | ⟨e1,_⟩
     ·left
      rw [e2] at hg
      rw [e1]
      exact hg
     ·right
      rw [hg] at e1
      cases e1
      exact vm _)
    obtain ⟨ao2,cap2,hv2⟩:=rowIs hown'
    subst hv2
    have hb2:Below S w w2':=(HV.o.2.1.trans (hbX.mono hSV)).grown hgrow (vr hSw (vr HV.o.2.1.size hbX.size)) (fun k hk=>(hmX.2.2.2.lt k hk).1)
    have H2:Aside (MeshR S n bm K5 st5 N5 (.slice ao2 (G++ [(t,b,m,kd,nd,o,s,v)]).length cap2) (G++ [(t,b,m,kd,nd,o,s,v)]) gd2 w2'/\Below S w w2'/\MeshI n (k+1) (G++ [(t,b,m,kd,nd,o,s,v)]) K5 D5 st5 N5/\N5.length<=30):=⟨hm2,hb2,HV.o.2.2⟩
    obtain ⟨j0,j1,j2,j3,j4,j5,j6,j7⟩:=OV.eight
    simp only [vO] at j1 j2 j3 j4 j5 j6 j7
    rw [hX.o,hP.o] at hrun
    clear hbX hmX hXc hown hown' hgrow hcase hm2 hb2 HV
    go_wp2_with (at_builtin;refine Lib.wpList_append_run _ rfl _ _ _ _ rfl _ _ rfl rfl _ _ hrun ?_)
    clear hrun j0 j1 j2 j3 j4 j5 j6 j7 OV
    go_wp2
    go_roundg (l.length - (k+1))
    case measure=>omega
    case rel=>exact ⟨k+1,G++ [(t,b,m,kd,nd,o,s,v)],ao2,cap2,zm,zL,zj,vm _,zl,gd2,K5,D5,st5,N5,H2.o⟩
  have e1:decide ((k:Int)<(l.length:Int))=false:=zl
  obtain rfl:k=l.length:=zj
  obtain ⟨gd,K,D,st,N,hm,hb,hI,hN⟩:=A.o
  have hcalm:=calm_any wr hn1 hm.1 hI (HE.o.1.mono hb) zj
  have HN:Aside (MeshR S n bm K st N (.slice ao G.length cap) G gd wr/\Below S w wr):=⟨hm,hb⟩
  obtain ⟨u0,hu0⟩:=za wr
  subst hu0
  clear A hm hb hI hN
  go_wp2_with fail
  refine hcalm.mono ?_
  clear hcalm
  rintro e w6 ⟨K6,D6,st6,rfl,H6⟩
  have hb6:Below S w w6:=HN.o.2.trans H6.o.2.1
  have hm6:=HN.o.1.on H6.o.1
  have hlen6:(allR (K6 0)).length<=1000:=by have:=H6.o.2.2.1.len (r:=0) zj;omega
  obtain ⟨ow6,pv6,fv6,bp6,br6,d6,dv6,c6,hat6⟩:=H6.o.1
  have hrep:=replica_any w6 0 hn1 hat6 (HE.o.1.mono hb6)
  have hops:=rops_any w6 (c6 0) (br6 0) ((0:Nat):Int) (K6 0) (hat6.rep 0 hn1).1.rep hlen6
  have H7:Aside (InRow encX w6 ao G/\Below S w w6/\S<=w6.heap.size/\MeshI n l.length G K6 D6 st6 []/\∀x∈G,x∈allR (K6 0)):=⟨rowIn encX_len hm6.2.2.2,hb6,vr hSw hb6.size,H6.o.2.2.1,H6.o.2.2.2.2 0 hn1⟩
  rw [show ((0:Nat):Int)=0 from rfl] at hrep
  clear H6 HN hb6 hm6 hat6
  go_wp2_with fail
  refine hrep.mono ?_
  clear hrep
  rintro e wz ⟨rfl,rfl⟩
  go_wp2_with fail
  refine hops.mono ?_
  clear hops
  rintro e w7 ⟨v7,ys,rfl,hy,hst,hb7,_⟩
  obtain ⟨ay,cy,rfl,hyr⟩:=opsIn_row hy
  have hal:=all_met H7.o.2.2.2.1 hn1 H7.o.2.2.2.2 (stable_by hst).1
  have hyl:=hal.2
  have H8:Aside (InRow encX w7 ay ys/\InRow encX w7 ao G/\Below S w w7/\∀x∈G,x∈ys):=⟨hyr,H7.o.1.later hb7,H7.o.2.1.trans (hb7.mono H7.o.2.2.1),hal.1⟩
  clear H7 hy hst hb7 hyr hal
  go_wp2
  go_loopg [14] G.length (fun kx s14 wr=>∃(i:Nat),s14= .int .i64 (i:Int)/\i<=G.length/\G.length - i<=kx/\Aside (Below w7.heap.size w7 wr))
  case atStart=>exact ⟨0,rfl,vD _,vm _,vu _ w7⟩
  case round=>
   obtain ⟨i,rfl,hi,hix,A⟩:=hrel
   by_cases hlt:i<G.length
   ·have d1:decide ((i:Int)<(G.length:Int))=true:=by simp;omega
    have d1n:decide (i<G.length)=true:=zl
    obtain ⟨⟨t',b',m',kd',nd',o',s',v'⟩,hg⟩:∃x,Aside (G[i]? =some x):=⟨G[i],vj hlt⟩
    have hgy:Aside ((t',b',m',kd',nd',o',s',v')∈ys):=H8.o.2.2.2 _ (vx hg.o)
    have wi:((i:Int)).toNat=i:=zj
    have pi:(0:Int)<=(i:Int):=zj
    have bi:(i:Int)<(G.length:Int):=zj
    obtain ⟨u1,hu1⟩:=za wr
    subst hu1
    go_wp2
    go_loopg [15,16] ys.length (fun ky s15 s16 wr=>∃(k:Nat) (fd:Bool),s15= .bool fd/\s16= .int .i64 (k:Int)/\k<=ys.length/\ys.length - k<=ky/\Aside ((fd=false->∀x∈ys.take k,x≠(t',b',m',kd',nd',o',s',v'))/\Below w7.heap.size w7 wr))
    case atStart=>exact ⟨0,false,rfl,rfl,vD _,vm _,fun _ x hx=>zO,A.o⟩
    case round=>
     obtain ⟨k,fd,rfl,rfl,hk2,hky,A2⟩:=hrel
     by_cases hlk:k<ys.length
     ·have d2:decide ((k:Int)<(ys.length:Int))=true:=by simp;omega
      have d2n:decide (k<ys.length)=true:=zl
      obtain ⟨⟨t,b,m,kd,nd,o,s,v⟩,hy⟩:∃x,Aside (ys[k]? =some x):=⟨ys[k],vj hlk⟩
      obtain ⟨b1,o1,e1,E1⟩:=row_oct (H8.o.1.later A2.o.2) hy.o
      obtain ⟨b2,o2,e2,E2⟩:=row_oct (H8.o.2.1.later A2.o.2) hg.o
      subst e1
      subst e2
      have wk:((k:Int)).toNat=k:=zj
      have pk:(0:Int)<=(k:Int):=zj
      have bk:(k:Int)<(ys.length:Int):=zj
      have heq:=eqOp t b m kd nd o s v t' b' m' kd' nd' o' s' v'
      obtain ⟨z,hz⟩:=ze (eqB t b m kd nd o s v t' b' m' kd' nd' o' s' v')
      rw [<-hz.o] at heq
      obtain ⟨u2,hu2⟩:=za wr
      subst hu2
      have hh:Oct u2.drew b1 (o1+k*8) (t,b,m,kd,nd,o,s,v)/\Oct u2.drew b2 (o2+i*8) (t',b',m',kd',nd',o',s',v'):=⟨E1.later (vu _ u2).drew,E2.later (vu _ u2).drew⟩
      clear E1 E2
      go_upto_region 27 with fail
      refine wp_region_H (S:=(fun w'=>Oct w' b1 (o1+k*8) (t,b,m,kd,nd,o,s,v)/\Oct w' b2 (o2+i*8) (t',b',m',kd',nd',o',s',v'))) zk hh (fun hHeld=> ?_)
      refine tk 0 hHeld ?_
      refine tk 1 hHeld ?_
      refine tk 2 hHeld ?_
      refine tk 3 hHeld ?_ (hy:=Or.inl ⟨zu,by intro w' hSw;obtain ⟨q0,q1,q2,q3,q4,q5,q6,q7⟩:=hSw.1.eight;clear hSw;go_simp;try with_reducible rfl⟩)
      refine tk 4 hHeld ?_
      refine tk 5 hHeld ?_
      refine tk 6 hHeld ?_
      refine tk 7 hHeld ?_ (hy:=Or.inl ⟨zu,by intro w' hSw;obtain ⟨q0,q1,q2,q3,q4,q5,q6,q7⟩:=hSw.2.eight;clear hSw;go_simp;try with_reducible rfl⟩)
      refine tk 8 hHeld ?_
      refine wpAnyH_done zk ?_ _
      refine qn ?_
      have HB:Aside (Below w7.heap.size w7 u2.drew):=A2.o.2.drew
      have HF:Aside (fd=false->∀x∈ys.take k,x≠(t',b',m',kd',nd',o',s',v')):=A2.o.1
      clear A2 hh heq
      cases z with
      | true=>
       go_wp2
       go_roundg (ys.length - (k+1))
       case measure=>omega
       case rel=>exact ⟨k+1,true,rfl,zL,zj,vm _,fun q=>(by cases q),HB.o⟩
      | false=>
       have hne:(t,b,m,kd,nd,o,s,v)≠(t',b',m',kd',nd',o',s',v'):=fun q=>by
        cases q
        have:=hz.o
        rw [eqB_self] at this
        cases this
       have HF2:Aside (fd=false->∀x∈ys.take (k+1),x≠(t',b',m',kd',nd',o',s',v')):=fun q x hx=>by
        rw [ut,hy.o] at hx
        rcases vv.1 hx with q' | q'
        ·exact HF.o q x q'
        rw [show x=(t,b,m,kd,nd,o,s,v) by simpa using q']
        exact hne
       clear hne HF
       go_wp2
       go_roundg (ys.length - (k+1))
       case measure=>omega
       case rel=>exact ⟨k+1,fd,rfl,zL,zj,vm _,HF2.o,HB.o⟩
     have d2:decide ((k:Int)<(ys.length:Int))=false:=zl
     have d2n:decide (k<ys.length)=false:=zl
     obtain rfl:k=ys.length:=zj
     cases fd with
     | false=>exact absurd rfl (A2.o.1 rfl _ (by rw [uR];exact hgy.o))
     | true=>
      have HB:Aside (Below w7.heap.size w7 wr):=A2.o.2
      clear A2
      go_wp2
      go_roundg (G.length - (i+1))
      case measure=>omega
      case rel=>exact ⟨i+1,zL,zj,vm _,HB.o⟩
   have d1:decide ((i:Int)<(G.length:Int))=false:=zl
   have d1n:decide (i<G.length)=false:=zl
   have d3:((ys.length:Int)==(G.length:Int))=true:=by rw [hyl];simp
   have d3n:decide ((ys.length:Int)=(G.length:Int))=true:=by rw [hyl];simp
   have d3m:decide (ys.length=G.length)=true:=by rw [hyl];simp
   have HB:Aside (Below S w wr):=H8.o.2.2.1.trans (A.o.mono (vr hSw H8.o.2.2.1.size))
   clear A
   go_wp2
   go_ret
   refine ⟨rfl,?_⟩
   have:=HB.o
   rwa [hS.o] at this
