import Derived.Test.YtfkekfibjnjcnaaGreatDoorMZ24
import Derived.Test.YtfkekfibjnjcnaaGreatDoorMZ25
set_option linter.unusedSimpArgs false
set_option linter.unusedVariables false
set_option maxRecDepth 100000
set_option maxHeartbeats 64000000
namespace Go.Proofs.YtfkekfibjnjcnaaGreatDoor
open Go.Proofs.Tryz
variable {st:DSt} {by_:Int} {dn:List OpX} {B B' b br n:Nat} {ad:Nat→Addr} {x:OpX} {R:Rws} {v:Value} {W w w':World}
section
open Go Go.RowKit Go.Lib Go.Sort
theorem results_ctt {fn:Func} {p u u':Tmp} {ty:TypeId} (h:fn.results= #[.cell p ty,.tmp u,.tmp u']) (tmps:Array Value) (P:Program) (w:World):
  (results fn tmps).run P w=
   ((asAddr (tmps.getD p undef)).run P w).andThen fun a w1=>((loadVar ty a).run P w1).andThen fun v w2=>.ok (.tuple #[v,tmps.getD u undef,tmps.getD u' undef]) w2:=by
 simp only [results,h]
 simp [Sem.run_bind,Result.andThen]
def OpJ (W:World) (b:Nat) (x:OpX):Prop:=W.heap[b]? =some (.cells #[.int .i64 x.1,.int .i64 x.2.1,.int .i64 x.2.2.1,.int .u8 (x.2.2.2.1:Int),.int .i64 x.2.2.2.2.1,.int .i64 x.2.2.2.2.2.1,.string x.2.2.2.2.2.2.1,.string x.2.2.2.2.2.2.2] 41 (0,0))
theorem OpJ.new (w:World) (x:OpX):OpJ (w.alloc (.cells #[.int .i64 x.1,.int .i64 x.2.1,.int .i64 x.2.2.1,.int .u8 (x.2.2.2.1:Int),.int .i64 x.2.2.2.2.1,.int .i64 x.2.2.2.2.2.1,.string x.2.2.2.2.2.2.1,.string x.2.2.2.2.2.2.2] 41)) w.heap.size x:=heap_alloc_new w _
theorem OpJ.lt (h:OpJ W b x):b<W.heap.size:=(vn.1 h).1
theorem OpJ.later (h:OpJ w b x) (hb:Below w.heap.size w w'):OpJ w' b x:=(hb.block b h.lt).trans h
theorem OpJ.cells (h:OpJ W b x):W.cell? ⟨b,0,none⟩=some (.int .i64 x.1)/\W.cell? ⟨b,1,none⟩=some (.int .i64 x.2.1)/\W.cell? ⟨b,2,none⟩=some (.int .i64 x.2.2.1)/\W.cell? ⟨b,3,none⟩=some (.int .u8 (x.2.2.2.1:Int))/\W.cell? ⟨b,4,none⟩=some (.int .i64 x.2.2.2.2.1)/\W.cell? ⟨b,5,none⟩=some (.int .i64 x.2.2.2.2.2.1)/\W.cell? ⟨b,6,none⟩=some (.string x.2.2.2.2.2.2.1)/\W.cell? ⟨b,7,none⟩=some (.string x.2.2.2.2.2.2.2)/\∀o,W.frozen? ⟨b,o,none⟩=false:=by
 unfold OpJ at h
 refine ⟨?_,?_,?_,?_,?_,?_,?_,?_,fun o=> ?_⟩
 ·simp [World.cell?,h]
 ·simp [World.cell?,h]
 ·simp [World.cell?,h]
 ·simp [World.cell?,h]
 ·simp [World.cell?,h]
 ·simp [World.cell?,h]
 ·simp [World.cell?,h]
 ·simp [World.cell?,h]
 simp [World.frozen?,h]
theorem belowJ (h:Below w.heap.size w W) (hb:w.heap.size<=b) (o:Nat) (vs:List Value):Below w.heap.size w (W.setCells b o vs):=h.trans ((setCells_keeps b vs o W).below h.size (fun k e=>zj))
def RecOut (w:World) (s:ByteArray) (e:Ending) (w':World):Prop:=∃(x:OpX) (n:Nat) (z:Bool),e= .returned (.tuple #[encJ x,.int .i64 (n:Int),.bool z])/\Aside (Below w.heap.size w w'/\((z=true/\readR s.data.toList=some (x,n))\/(z=false/\readR s.data.toList=none/\x=zeroJ/\n=0)))
theorem readRec_any (s:ByteArray) (w:World) (hE:EnvJ B ad w) (hs:s.size<=100000):
  Calls prog 171 #[.string s] w (RecOut w s):=by
 obtain ⟨S,hS⟩:=ze w.heap.size
 obtain ⟨U,hU⟩:=ze (w.alloc (.cells #[.int .i64 0,.int .i64 0,.int .i64 0,.int .u8 0,.int .i64 0,.int .i64 0,.string ⟨#[]⟩,.string ⟨#[]⟩] 41))
 have hbU:Below w.heap.size w U:=yA
 have Z0:OpJ U S zeroJ:=by rw [hU.o,hS.o];exact OpJ.new w zeroJ
 obtain ⟨m,hm⟩:=(hE.later hbU).here.mx
 have hcut:=Tryz.strings_Cut s ⟨#[35]⟩ m U zj hm
 obtain ⟨t1,ht1⟩:∃t1:ByteArray,Aside (t1=⟨(Lib.cut s.data.toList (⟨#[35]⟩:ByteArray).data.toList).1.toArray⟩):=⟨_,rfl⟩
 obtain ⟨t2,ht2⟩:∃t2:ByteArray,Aside (t2=⟨(Lib.cut s.data.toList (⟨#[35]⟩:ByteArray).data.toList).2.1.toArray⟩):=⟨_,rfl⟩
 obtain ⟨zc,hzc⟩:∃zc:Bool,Aside (zc=(Lib.cut s.data.toList (⟨#[35]⟩:ByteArray).data.toList).2.2):=⟨_,rfl⟩
 rw [<-ht1.o,<-ht2.o,<-hzc.o] at hcut
 have HT:Aside (t1.data.toList=ahead s.data.toList):=by
  show _=_
  rw [ht1.o]
  exact cut_ahead s.data.toList
 have hts:t1.size<=100000:=by
  have h1:=ahead_len s.data.toList
  rw [<-HT.o] at h1
  have h2:t1.data.toList.length=t1.size:=zm
  have h3:s.data.toList.length=s.size:=zm
  omega
 have H0:Aside (OpJ U S zeroJ/\EnvJ B ad U/\Below w.heap.size w U):=⟨Z0,hE.later hbU,hbU⟩
 clear hE hbU Z0 hm
 go_enter func171,ntmps171
 go_upto_region 1 with fail
 rw [<-hU.o,<-hS.o]
 go_wp2_with fail
 refine hcut.mono ?_
 clear hcut
 rintro e w1 ⟨rfl,nd,hw1⟩
 have hb1:Below U.heap.size U w1:=by rw [hw1];exact ⟨rfl,rfl,rfl,vm _,fun _ _=>rfl⟩
 have H1:Aside (OpJ w1 S zeroJ/\EnvJ B ad w1/\Below w.heap.size w w1):=⟨H0.o.1.later hb1,H0.o.2.1.later hb1,zi H0.o.2.2 hb1⟩
 clear hw1 hb1
 have hrd:=opread_any t1 w1 H1.o.2.1.here zj
 go_wp2_with fail
 refine hrd.mono ?_
 clear hrd
 rintro e w2 ⟨x,er,rfl,H2⟩
 have HR2:Aside ((readO (ahead s.data.toList)=some x/\er= .nilIface)\/(readO (ahead s.data.toList)=none/\x=zeroJ/\∃a,er= .iface 350 (.pointer (some a)))):=by
  have:=H2.o.2
  rw [HT.o] at this
  exact this
 obtain ⟨V,hV⟩:=ze (w2.alloc (.cells #[.int .i64 x.1,.int .i64 x.2.1,.int .i64 x.2.2.1,.int .u8 (x.2.2.2.1:Int),.int .i64 x.2.2.2.2.1,.int .i64 x.2.2.2.2.2.1,.string x.2.2.2.2.2.2.1,.string x.2.2.2.2.2.2.2] 41))
 obtain ⟨Q,hQ⟩:=ze w2.heap.size
 have hbV:Below w1.heap.size w1 V:=by rw [hV.o];exact H2.o.1.alloc H2.o.1.size _
 have OV:OpJ V Q x:=by rw [hV.o,hQ.o];exact OpJ.new w2 x
 have HV:Aside (OpJ V S zeroJ/\OpJ V Q x/\EnvJ B ad V/\Below w.heap.size w V/\S<Q):=⟨H1.o.1.later hbV,OV,H1.o.2.1.later hbV,zi H1.o.2.2 hbV,by rw [hQ.o];exact vJ H1.o.1.lt H2.o.1.size⟩
 clear hbV OV
 unfold encJ
 go_upto_region 3 with fail
 rw [<-hV.o,<-hQ.o]
 rcases HR2.o with ⟨hr,he⟩ | ⟨hr,hx,a,he⟩
 ·subst he
  have hrc:=record_any t1 V zj HV.o.2.2.1.here.deb
  have HRO:Aside (readO (ahead s.data.toList)=some x):=hr
  clear hr HR2
  go_wp2_with fail
  refine hrc.mono ?_
  clear hrc
  rintro e w3 ⟨r,hr,rfl,hb3⟩
  have hpf:=Tryz.strings_HasPrefix s r w3
  obtain ⟨z,hz⟩:∃z:Bool,Aside (z=Lib.hasPrefix s.data.toList r.data.toList):=⟨_,rfl⟩
  rw [<-hz.o] at hpf
  rw [HT.o] at hr
  have H3:Aside (OpJ w3 S zeroJ/\OpJ w3 Q x/\Below w.heap.size w w3/\r.data.toList=recL (ahead s.data.toList)):=⟨HV.o.1.later hb3,HV.o.2.1.later hb3,zi HV.o.2.2.2.1 hb3,hr⟩
  clear hr hb3
  go_wp2_with fail
  refine hpf.mono ?_
  clear hpf
  rintro e w4 ⟨rfl,rfl⟩
  obtain ⟨z0,z1,z2,z3,z4,z5,z6,z7,zf⟩:=H3.o.1.cells
  unfold zeroJ at z0 z1 z2 z3 z4 z5 z6 z7
  dsimp only at z0 z1 z2 z3 z4 z5 z6 z7
  obtain ⟨j0,j1,j2,j3,j4,j5,j6,j7,jf⟩:=H3.o.2.1.cells
  cases z with
  | true=>
   have HF:Aside (readR s.data.toList=some (x,r.size)):=by
    have hp:recL (ahead s.data.toList)<+:s.data.toList:=by
     have:=hz.o
     rw [H3.o.2.2.2] at this
     exact List.isPrefixOf_iff_prefix.1 this.symm
    show readR s.data.toList=_
    unfold readR
    rw [HRO.o]
    dsimp only
    rw [if_pos hp,<-H3.o.2.2.2]
    simp
   go_wp2
   (try simp only [Exit.inBlock,Exit.then])
   refine bodyPost_ret (v:=.tuple #[encJ x,.int .i64 (r.size:Int),.bool true]) ?_ rfl ⟨x,r.size,true,rfl,?_,.inl ⟨rfl,HF.o⟩⟩
   ·rw [results_ctt rfl]
    unfold encJ
    go_simp
   exact belowJ (b:=S) H3.o.2.2.1 jJ 0 [.int .i64 x.1,.int .i64 x.2.1,.int .i64 x.2.2.1,.int .u8 (x.2.2.2.1:Int),.int .i64 x.2.2.2.2.1,.int .i64 x.2.2.2.2.2.1,.string x.2.2.2.2.2.2.1,.string x.2.2.2.2.2.2.2]
  | false=>
   have HF:Aside (readR s.data.toList=none):=by
    have hp:¬recL (ahead s.data.toList)<+:s.data.toList:=fun q=>by
     have h1:=hz.o
     rw [H3.o.2.2.2] at h1
     have h2:Lib.hasPrefix s.data.toList (recL (ahead s.data.toList))=true:=List.isPrefixOf_iff_prefix.2 q
     rw [h2] at h1
     cases h1
    show readR s.data.toList=_
    unfold readR
    rw [HRO.o]
    dsimp only
    rw [if_neg hp]
   clear j0 j1 j2 j3 j4 j5 j6 j7 jf
   go_wp2
   (try simp only [Exit.inBlock,Exit.then])
   refine bodyPost_ret (v:=.tuple #[encJ zeroJ,.int .i64 0,.bool false]) ?_ rfl ⟨zeroJ,0,false,rfl,?_,.inr ⟨rfl,HF.o,rfl,rfl⟩⟩
   ·rw [results_ctt rfl]
    unfold encJ zeroJ
    go_simp
   exact belowJ (b:=S) H3.o.2.2.1 jJ 0 [.int .i64 0,.int .i64 0,.int .i64 0,.int .u8 0,.int .i64 0,.int .i64 0,.string ⟨#[]⟩,.string ⟨#[]⟩]
 subst he
 have HF:Aside (readR s.data.toList=none):=by
  show readR s.data.toList=_
  unfold readR
  rw [hr]
 obtain ⟨z0,z1,z2,z3,z4,z5,z6,z7,zf⟩:=HV.o.1.cells
 unfold zeroJ at z0 z1 z2 z3 z4 z5 z6 z7
 dsimp only at z0 z1 z2 z3 z4 z5 z6 z7
 clear hr HR2
 go_wp2
 (try simp only [Exit.inBlock,Exit.then])
 refine bodyPost_ret (v:=.tuple #[encJ zeroJ,.int .i64 0,.bool false]) ?_ rfl ⟨zeroJ,0,false,rfl,?_,.inr ⟨rfl,HF.o,rfl,rfl⟩⟩
 ·rw [results_ctt rfl]
  unfold encJ zeroJ
  go_simp
 exact belowJ (b:=S) HV.o.2.2.2.1 jJ 0 [.int .i64 0,.int .i64 0,.int .i64 0,.int .u8 0,.int .i64 0,.int .i64 0,.string ⟨#[]⟩,.string ⟨#[]⟩]
end
section
open Go Go.RowKit Go.Lib Go.Sort
theorem ownsJ {base:Nat} {e:TypeId} {k:Nat} {xs:List Value} (h:w.ownsRow base e k v n xs) (hs:∀g,v.ownBlock=some g->w'.heap[g]? =w.heap[g]?):w'.ownsRow base e k v n xs:=by
 refine ⟨h.1,?_⟩
 rcases h.2 with q | ⟨g,cap,cur,rfl,hb,hg,rest⟩
 ·exact .inl q
 exact .inr ⟨g,cap,cur,rfl,hb,(hs g rfl).trans hg,rest⟩
theorem litJ (w:World) (x:OpX):∀j u,(encX x)[j]? =some u->(w.alloc (.cells #[.int .i64 x.1,.int .i64 x.2.1,.int .i64 x.2.2.1,.int .u8 (x.2.2.2.1:Int),.int .i64 x.2.2.2.2.1,.int .i64 x.2.2.2.2.2.1,.string x.2.2.2.2.2.2.1,.string x.2.2.2.2.2.2.2] 41)).cell? ((⟨w.heap.size,0,none⟩:Addr).add j)=some u:=
 uF (cs:= #[.int .i64 x.1,.int .i64 x.2.1,.int .i64 x.2.2.1,.int .u8 (x.2.2.2.1:Int),.int .i64 x.2.2.2.2.1,.int .i64 x.2.2.2.2.2.1,.string x.2.2.2.2.2.2.1,.string x.2.2.2.2.2.2.2]) (t:=41) (fr:=(0,0)) (heap_alloc_new w _)
theorem oneJ (x:OpX):∀u∈encX x,u.oneCell'=true:=by
 intro u hu
 simp only [encX,vz,Zc,or_false] at hu
 rcases hu with rfl | rfl | rfl | rfl | rfl | rfl | rfl | rfl<;>rfl
theorem cells_snoc (xs:List OpX) (x:OpX):cellsOf (xs++ [x])=cellsOf xs++encX x:=by simp [cellsOf]
theorem drop_text (s:ByteArray) (n:Nat) (h:n<=s.size):∃F:ByteArray,F.data.toList=s.data.toList.drop n/\F.size=s.size - n/\∀w,(Instr.slice 9 (.string s) (some (.int .i64 (n:Int))) none none).run prog w= .ok (.string F) w:=by
 obtain ⟨F,h1,h2⟩:=cut_right s n h
 refine ⟨F,h1,?_,h2⟩
 have:=congrArg List.length h1
 simpa using this
def ReadOut (w:World) (s:ByteArray) (e:Ending) (w':World):Prop:=∃v:Value,e= .returned (.tuple #[v,.int .i64 ((readL_ s.data.toList).2:Int)])/\Aside (w'.ownsRow w.heap.size 41 8 v (readL_ s.data.toList).1.length (cellsOf (readL_ s.data.toList).1)/\Below w.heap.size w w')
theorem readA_le (b:List UInt8):(readL_ b).2<=b.length/\10*(readL_ b).1.length<=b.length:=by
 obtain ⟨r,h1,h2,h3,h4⟩:=readA_is b.length b zg
 have e:=congrArg List.length h1
 rw [vw] at e
 refine ⟨zj,?_⟩
 have:∀l:List OpX,10*l.length<=(recsL l).length:=by
  intro l
  induction l with
  | nil=>simp
  | cons x l ih=>
   show _<=(recL (textO x)++recsL l).length
   rw [vw,recL_len,vH]
   omega
 have:=this (readL_ b).1
 omega
theorem jread_any (s:ByteArray) (w:World) (hE:EnvJ B ad w) (hs:s.size<=100000):
  Calls prog 119 #[.string s] w (ReadOut w s):=by
 obtain ⟨i0,hi0,hz0,hz1,hz2⟩:=info_parts infoOp
 obtain ⟨T,hT⟩:=ze (readL_ s.data.toList)
 have HE:Aside (EnvJ B ad w):=hE
 clear hE
 unfold ReadOut
 rw [<-hT.o]
 go_enter func119,ntmps119
 go_wp2
 go_loopg [4,5] s.size (fun kx s4 s5 W=>∃(n:Nat) (xs:List OpX) (ov:Value),ov=s4/\s5= .int .i64 (n:Int)/\n<=s.size/\s.size - n<=kx/\xs.length<=20000/\Aside (W.ownsRow w.heap.size 41 8 ov xs.length (cellsOf xs)/\Below w.heap.size w W/\T=(xs++(readL_ (s.data.toList.drop n)).1,n+(readL_ (s.data.toList.drop n)).2)))
 case atStart=>exact ⟨0,[],_,rfl,rfl,vD _,vm _,zm,⟨ud _ _ _ _,vu _ w,by rw [hT.o];simp⟩⟩
 case round=>
  obtain ⟨n,xs,ov,rfl,rfl,hn,hnx,hxl,A⟩:=hrel
  obtain ⟨F,hF,hFs,hsl⟩:=drop_text s n hn
  have HFF:Aside (F.data.toList=s.data.toList.drop n):=hF
  have hrr:=readRec_any F wr (HE.o.later A.o.2.1) zj
  obtain ⟨u,hu⟩:=za wr
  subst hu
  clear hF
  go_wp2_with fail
  refine hrr.mono ?_
  clear hrr
  rintro e w1 ⟨x,m,z,rfl,H1⟩
  have HR:Aside ((z=true/\readR (s.data.toList.drop n)=some (x,m))\/(z=false/\readR (s.data.toList.drop n)=none/\x=zeroJ/\m=0)):=by
   have:=H1.o.2
   rw [HFF.o] at this
   exact this
  obtain ⟨V,hV⟩:=ze (w1.alloc (.cells #[.int .i64 x.1,.int .i64 x.2.1,.int .i64 x.2.2.1,.int .u8 (x.2.2.2.1:Int),.int .i64 x.2.2.2.2.1,.int .i64 x.2.2.2.2.2.1,.string x.2.2.2.2.2.2.1,.string x.2.2.2.2.2.2.2] 41))
  obtain ⟨Q,hQ⟩:=ze w1.heap.size
  have hbV:Below u.heap.size u V:=by rw [hV.o];exact H1.o.1.alloc H1.o.1.size _
  have OV:OpJ V Q x:=by rw [hV.o,hQ.o];exact OpJ.new w1 x
  have HV:Aside (V.ownsRow w.heap.size 41 8 ov xs.length (cellsOf xs)/\Below w.heap.size w V):=⟨ownsJ A.o.1 (fun g hg=>hbV.block g (A.o.1.lt g hg).2),zi A.o.2.1 hbV⟩
  clear hbV
  unfold encJ
  go_upto_region 4 with fail
  rw [<-hV.o,<-hQ.o]
  cases z with
  | false=>
   have hr:readR (s.data.toList.drop n)=none:=by
    rcases HR.o with ⟨q,_⟩ | ⟨_,q,_⟩
    ·cases q
    exact q
   have HT:Aside (T=(xs,n)):=by
    show T=(xs,n)
    have:=A.o.2.2
    rw [readA_none hr] at this
    simpa using this
   clear hr A HR OV
   go_wp2
   go_ret2
   exact ⟨ov,by rw [HT.o];rfl,by rw [HT.o];exact HV.o.1,HV.o.2⟩
  | true=>
   have hr:readR (s.data.toList.drop n)=some (x,m):=by
    rcases HR.o with ⟨_,q⟩ | ⟨q,_⟩
    ·exact q
    cases q
   have hp:=readR_pos hr
   rw [ua] at hp
   have hsz:s.data.toList.length=s.size:=zm
   rw [hsz] at hp
   have hwr:IntKind.i64.wrap ((n:Int)+(m:Int))=((n+m:Nat):Int):=zv
   obtain ⟨nm,hnm⟩:∃nm:Nat,Aside (nm=n+m):=⟨_,rfl⟩
   rw [<-hnm.o] at hwr
   have HT:Aside (T=((xs++ [x])++(readL_ (s.data.toList.drop nm)).1,nm+(readL_ (s.data.toList.drop nm)).2)/\(xs++ [x]).length<=20000):=by
    have h1:=A.o.2.2
    rw [readA_some hr,List.drop_drop] at h1
    refine ⟨by rw [h1,hnm.o];simp;omega,?_⟩
    have hle:=readA_le s.data.toList
    rw [<-hT.o,h1] at hle
    simp at hle |-
    omega
   obtain ⟨j0,j1,j2,j3,j4,j5,j6,j7,jf⟩:=OV.cells
   clear hr A HR
   go_wp2_with (at_builtin;refine wpList_append_own _ rfl _ _ 48 rfl w.heap.size 41 i0 _ 8 80 underlying48 hi0 hz0 hz1 hz2 rfl zj _ _ _ rfl (HV.o.1.alloc _) ⟨V.heap.size,0,none⟩ 1 1 (encX x) rfl ?qc1 ?qc2 ?qc3 ?qc4 ?qc5 ?qc6 ?_)
   case qc1=>rfl
   case qc2=>first | exact litJ V x | exact fun j u h=>h
   case qc3=>exact oneJ x
   case qc4=>simp only [maxLen];omega
   case qc5=>omega
   case qc6=>have:=HV.o.2.size;first | omega | (simp;omega)
   intro v' w4 hown hgrow hnil
   have HN:Aside (w4.ownsRow w.heap.size 41 8 v' (xs++ [x]).length (cellsOf (xs++ [x]))/\Below w.heap.size w w4):=by
    refine ⟨?_,?_⟩
    ·rw [cells_snoc,vw]
     exact hown
    exact (HV.o.2.alloc HV.o.2.size _).grown hgrow (by simp;have:=HV.o.2.size;omega) (fun k hk=>(HV.o.1.lt k hk).1)
   clear hown hgrow hnil j0 j1 j2 j3 j4 j5 j6 j7 jf OV
   go_wp2
   go_roundg (s.size - nm)
   case measure=>have:=hnm.o;omega
   case rel=>exact ⟨nm,xs++ [x],_,rfl,rfl,by have:=hnm.o;omega,vm _,HT.o.2,HN.o.1,HN.o.2,HT.o.1⟩
end
section
open Go Go.RowKit Go.Lib Go.Sort
theorem cut_bytes (g n cap k:Nat) (w:World) (h:k<=cap):(Instr.slice 123 (.slice (some ⟨g,0,none⟩) n cap) none (some (.int .i64 (k:Int))) none).run prog w= .ok (.slice (some ⟨g,0,none⟩) k cap) w:=by
 have h1:(k:Int)<=(cap:Int):=zj
 have h0:(0:Int)<=(k:Int):=zj
 go_simp
def backSt (st:DSt):DSt:=(st.1.take (readL_ st.1).2,false,false,st.2.2.2)
def BackOut (d:Nat) (v:Value) (w:World) (st:DSt) (e:Ending) (w':World):Prop:=∃rv:Value,e= .returned (.tuple #[rv,.nilIface])/\Aside (WroteD d v w (backSt st) w'/\w'.ownsRow w.heap.size 41 8 rv (readL_ st.1).1.length (cellsOf (readL_ st.1).1)/\Keeps (fun k=>k=d) w w')
theorem recover_any {d:Nat} (w:World) (hD:DiskAt w d v st) (hE:EnvJ B ad w) (hO:∀k,OwnD d v k->B<=k) (hB:st.1.length<=65536):
  Calls prog 83 #[.pointer (some ⟨d,0,none⟩)] w (BackOut d v w st):=by
 obtain ⟨B0,off,waits,left⟩:=st
 have hon:=on_any w hD
 obtain ⟨g,cap,hvs⟩:=hD.row.shape
 dsimp only at hvs hB
 have H0:Aside (DiskAt w d v (B0,off,waits,left)/\EnvJ B ad w/\∀k,OwnD d v k->B<=k):=⟨hD,hE,hO⟩
 have HV:Aside (v= .slice (some ⟨g,0,none⟩) B0.length cap):=hvs
 clear hD hE hO hvs
 go_enter func83,ntmps83
 go_wp2_with fail
 refine hon.mono ?_
 clear hon
 rintro e w1 ⟨⟨u,rfl⟩,H1⟩
 have hby:=bytes_any w1 H1.o.1
 dsimp only at hby
 obtain ⟨s,hs⟩:∃s:ByteArray,Aside (s=⟨B0.toArray⟩):=⟨_,rfl⟩
 rw [<-hs.o] at hby
 have hsd:s.data.toList=B0:=by rw [hs.o]
 have hss:s.size<=65536:=by rw [hs.o];simpa [ByteArray.size] using hB
 have hE1:EnvJ B ad w1:=H0.o.2.1.mono (H1.o.2.below H0.o.2.1.size (fun k e=>by rw [e];exact H0.o.2.2 d (.inl rfl)))
 have hrd:=jread_any s w1 hE1 zj
 obtain ⟨T,hT⟩:=ze (readL_ B0)
 unfold ReadOut at hrd
 rw [hsd,<-hT.o] at hrd
 clear hsd hE1
 go_wp2_with fail
 refine hby.mono ?_
 clear hby
 rintro e w2 ⟨rfl,rfl⟩
 go_wp2_with fail
 refine hrd.mono ?_
 clear hrd
 rintro e w3 ⟨rv,rfl,H3⟩
 have hD3:=H1.o.1.later H3.o.2
 obtain ⟨c0,c1,c2,c3,cf⟩:=hD3.c
 rw [HV.o] at c0
 obtain ⟨k,hk⟩:=ze T.2
 have hkB:k<=B0.length:=by
  rw [hk.o,hT.o]
  exact (readA_le B0).1
 have hcap:B0.length<=cap:=by
  obtain ⟨g',cap',cur,fr,e1,_,_,h3,_⟩:=hD3.row
  rw [HV.o] at e1
  cases e1
  exact h3
 have hsl:=fun W=>cut_bytes g B0.length cap k W zj
 rw [<-hk.o]
 have HF:Aside (WroteD d v w (B0.take T.2,false,false,left) (w3.setCell ⟨d,0,none⟩ (.slice (some ⟨g,0,none⟩) k cap))/\(w3.setCell ⟨d,0,none⟩ (.slice (some ⟨g,0,none⟩) k cap)).ownsRow w.heap.size 41 8 rv T.1.length (cellsOf T.1)/\Keeps (fun k=>k=d) w (w3.setCell ⟨d,0,none⟩ (.slice (some ⟨g,0,none⟩) k cap))):=by
  have hrow:RowB w3 (.slice (some ⟨g,0,none⟩) k cap) (B0.take T.2):=by
   have:=hD3.row
   dsimp only at this
   rw [HV.o] at this
   rw [<-hk.o]
   exact this.cut hkB
  have hne:(Value.slice (some ⟨g,0,none⟩) k cap).ownBlock≠some d:=by
   have:=hD3.ne
   rw [HV.o] at this
   exact this
  have h4:=DiskAt.set0 hD3.cell hrow hne hD3.left
  have hk3:Keeps (fun k=>k=d) w2 w3:=(keeps_of_below H3.o.2).mono (fun k hk q=>zj)
  have hkk:Keeps (fun k=>k=d) w (w3.setCell ⟨d,0,none⟩ (.slice (some ⟨g,0,none⟩) k cap)):=(H1.o.2.trans hk3).trans h4.2
  refine ⟨⟨_,h4.1,hkk.mono (fun k _ e=>.inl e),fun g' hg'=>.inl (by rw [HV.o];exact hg')⟩,?_,hkk⟩
  have hr:=H3.o.1
  have hr':=ownsJ hr (w':=w3.setCell ⟨d,0,none⟩ (.slice (some ⟨g,0,none⟩) k cap)) (fun g' hg'=>h4.2.block g' (hr.lt g' hg').2 (fun e=>by have:=(hr.lt g' hg').1;have:=H1.o.1.lt;omega))
  have hws:w.heap.size<=w2.heap.size:=H1.o.2.size
  rcases hr'.2 with q | ⟨g2,cap2,cur2,e1,hb2,rest⟩
  ·exact ⟨hr'.1,.inl q⟩
  exact ⟨hr'.1,.inr ⟨g2,cap2,cur2,e1,vr hws hb2,rest⟩⟩
 clear hD3 c1 c2 c3 hkB hcap H3 H1
 go_wp2
 go_ret2
 refine ⟨rv,rfl,?_⟩
 unfold backSt
 dsimp only
 rw [<-hT.o]
 exact HF.o
end
section
open Go
theorem wrAll_free:∀(r:List UInt8) (B:List UInt8) (left:Int),wrAll (B,false,false,left) r=(true,(B++r,false,false,left))
 | [],B,left=>by simp [wrAll]
 | c::r,B,left=>by
  have h:wr1 (B,false,false,left) c=(true,(B++ [c],false,false,left)):=by unfold wr1;simp
  rw [wrAll,h,if_pos rfl,wrAll_free r]
  simp
theorem wrAll_off (c:UInt8) (r:List UInt8) (B:List UInt8) (left:Int):wrAll (B,true,false,left) (c::r)=(false,(B,true,false,left)):=by
 have h:wr1 (B,true,false,left) c=(false,(B,true,false,left)):=by unfold wr1;simp
 rw [wrAll,h,if_neg zm]
theorem wrAll_on:∀(r:List UInt8) (B:List UInt8) (left:Nat),wrAll (B,false,true,(left:Int)) r=if r.length<=left then (true,(B++r,false,true,((left - r.length:Nat):Int))) else (false,(B++r.take left,true,false,0))
 | [],B,left=>by simp [wrAll]
 | c::r,B,0=>by
  have h:wr1 (B,false,true,((0:Nat):Int)) c=(false,(B,true,false,0)):=by unfold wr1;simp
  rw [wrAll,h,if_neg zm,if_neg zm]
  simp
 | c::r,B,left+1=>by
  have h:wr1 (B,false,true,((left+1:Nat):Int)) c=(true,(B++ [c],false,true,(left:Int))):=by
   unfold wr1
   have:¬((left:Int)+1=0):=zj
   simp [this]
  rw [wrAll,h,if_pos rfl,wrAll_on r (B++ [c]) left]
  by_cases hl:r.length<=left
  ·rw [if_pos hl,if_pos yY]
   simp
  rw [if_neg hl,if_neg yY]
  simp
theorem recL_ne (t:List UInt8):∃c r,recL t=c::r:=by
 cases h:recL t with
 | nil=>have:=recL_len t;rw [h] at this;simp at this
 | cons c r=>exact ⟨c,r,rfl⟩
def DInv (st:DSt) (dn:List OpX):Prop:=(∀x∈dn,errJ x=0)/\((st.2.1=false/\st.2.2.1=true/\st.1=recsL dn)\/(st.2.1=true/\st.2.2.1=false/\∃r,st.1=recsL dn++r/\r.length<=1010/\readR r=none))
theorem recs_snoc (dn:List OpX) (x:OpX):recsL (dn++ [x])=recsL dn++recL (textO x):=by
 rw [recsL_append]
 show recsL dn++(recL (textO x)++ [])=_
 rw [ur]
theorem DInv.step (h:DInv st dn) (hl:0<=st.2.2.2) (x:OpX):((appE st x).1=0->DInv (appE st x).2 (dn++ [x]))/\((appE st x).1≠0->DInv (appE st x).2 dn):=by
 obtain ⟨B,off,waits,left⟩:=st
 dsimp only at hl
 obtain ⟨h0,h⟩:=h
 unfold appE
 by_cases he:errJ x=0
 ·rw [if_neg (fun q=>q he)]
  by_cases hf:65536<B.length+(recL (textO x)).length
  ·rw [if_pos hf]
   exact ⟨(fun q=>by cases q),fun _=>⟨h0,h⟩⟩
  rw [if_neg hf]
  rcases h with ⟨rfl,rfl,hB⟩ | ⟨rfl,rfl,r,hB,hr1,hr2⟩
  ·dsimp only at hB
   obtain ⟨n,rfl⟩:∃n:Nat,left=(n:Int):=⟨left.toNat,zj⟩
   rw [wrAll_on]
   by_cases hn:(recL (textO x)).length<=n
   ·rw [if_pos hn]
    dsimp only
    rw [if_pos rfl]
    refine ⟨fun _=>⟨fun y hy=> ?_,.inl ⟨rfl,rfl,?_⟩⟩,fun q=>absurd rfl q⟩
    ·rcases vv.1 hy with q | q
     ·exact h0 y q
     rw [vA.1 q];exact he
    rw [recs_snoc,hB]
   rw [if_neg hn]
   dsimp only
   rw [if_neg zm]
   refine ⟨(fun q=>by cases q),fun _=>⟨h0,.inr ⟨rfl,rfl,(recL (textO x)).take n,by rw [hB],?_,readR_cut he zj⟩⟩⟩
   have:=textO_len he
   have h1:=recL_len (textO x)
   rw [vP]
   omega
  obtain ⟨c,r',hc⟩:=recL_ne (textO x)
  rw [hc,wrAll_off]
  dsimp only
  rw [if_neg zm]
  exact ⟨(fun q=>by cases q),fun _=>⟨h0,.inr ⟨rfl,rfl,r,hB,hr1,hr2⟩⟩⟩
 rw [if_pos he]
 exact ⟨fun q=>absurd q he,fun _=>⟨h0,h⟩⟩
theorem recs_len (h:∀x∈dn,errJ x=0):(recsL dn).length<=1010*dn.length:=by
 induction dn with
 | nil=>simp [recsL]
 | cons x l ih=>
  have h1:=ih (fun y hy=>h y xq)
  have h2:=textO_len (h x zm)
  show (recL (textO x)++recsL l).length<=_
  rw [vw,recL_len,vH]
  omega
theorem DInv.len (h:DInv st dn):st.1.length<=1010*dn.length+1010:=by
 have h1:=recs_len h.1
 rcases h.2 with ⟨_,_,hB⟩ | ⟨_,_,r,hB,hr,_⟩
 ·rw [hB];omega
 rw [hB,vw];omega
theorem DInv.back (h:DInv st dn):readL_ st.1=(dn,(recsL dn).length)/\backSt st=(recsL dn,false,false,st.2.2.2):=by
 have h1:readL_ st.1=(dn,(recsL dn).length):=by
  rcases h.2 with ⟨_,_,hB⟩ | ⟨_,_,r,hB,_,hr⟩
  ·rw [hB,<-ur (recsL dn)]
   have:=readA_recs dn [] h.1 readR_nil
   rw [ur] at this |-
   exact this
  rw [hB]
  exact readA_recs dn r h.1 hr
 refine ⟨h1,?_⟩
 unfold backSt
 rw [h1]
 dsimp only
 rcases h.2 with ⟨_,_,hB⟩ | ⟨_,_,r,hB,_,hr⟩
 ·rw [hB,vG zg]
 rw [hB,List.take_left]
theorem readA_nil (dn:List OpX) (h:∀x∈dn,errJ x=0):readL_ (recsL dn)=(dn,(recsL dn).length):=by
 have:=readA_recs dn [] h readR_nil
 rwa [ur] at this
theorem app_free {B:List UInt8} {left:Int} (he:errJ x=0) (hl:B.length+(recL (textO x)).length<=65536):appE (B,false,false,left) x=(0,(B++recL (textO x),false,false,left)):=by
 unfold appE
 rw [if_neg (fun q=>q he),if_neg zR,wrAll_free]
 rfl
end
section
open Go.RowKit Go.Lib Go.Sort Go.Maps
abbrev zeroOpV:Value:=.agg #[.int .i64 0,.int .i64 0,.int .i64 0,.int .u8 0,.int .i64 0,.int .i64 0,.string ⟨#[]⟩,.string ⟨#[]⟩]
theorem zero_size:zeroOpV.cells.size=8:=rfl
def zeroRow (n:Nat):List Value:=(Builtin.zeroCells zeroOpV.cells n).toList
theorem zero_one (n:Nat):∀v∈(Builtin.zeroCells zeroOpV.cells n).toList,v.oneCell'=true:=by
 intro v hv
 unfold Builtin.zeroCells at hv
 rw [Array.toList_map,vV] at hv
 obtain ⟨a,_,rfl⟩:=hv
 rw [zero_size]
 have h8:a % 8<8:=Nat.mod_lt _ zj
 have key:∀q,q<8->(zeroOpV.cells[q]!).oneCell'=true:=fun q hq=>by
  match q,hq with
  | 0,_=>rfl
  | 1,_=>rfl
  | 2,_=>rfl
  | 3,_=>rfl
  | 4,_=>rfl
  | 5,_=>rfl
  | 6,_=>rfl
  | 7,_=>rfl
 exact key _ h8
structure EightW (w:World) (g a:Nat) (x:OpX):Prop where
 c0:w.cell? ⟨g,a,none⟩=some (.int .i64 x.1)
 c1:w.cell? ⟨g,a+1,none⟩=some (.int .i64 x.2.1)
 c2:w.cell? ⟨g,a+2,none⟩=some (.int .i64 x.2.2.1)
 c3:w.cell? ⟨g,a+3,none⟩=some (.int .u8 (x.2.2.2.1:Int))
 c4:w.cell? ⟨g,a+4,none⟩=some (.int .i64 x.2.2.2.2.1)
 c5:w.cell? ⟨g,a+5,none⟩=some (.int .i64 x.2.2.2.2.2.1)
 c6:w.cell? ⟨g,a+6,none⟩=some (.string x.2.2.2.2.2.2.1)
 c7:w.cell? ⟨g,a+7,none⟩=some (.string x.2.2.2.2.2.2.2)
 f0:w.frozen? ⟨g,a,none⟩=false
 f1:w.frozen? ⟨g,a+1,none⟩=false
 f2:w.frozen? ⟨g,a+2,none⟩=false
 f3:w.frozen? ⟨g,a+3,none⟩=false
 f4:w.frozen? ⟨g,a+4,none⟩=false
 f5:w.frozen? ⟨g,a+5,none⟩=false
 f6:w.frozen? ⟨g,a+6,none⟩=false
 f7:w.frozen? ⟨g,a+7,none⟩=false
theorem OwnAt.eight {g:Nat} {cs:List OpX} (h:OwnAt w g cs) {i:Nat} (hi:cs[i]? =some x):EightW w g (i*8) x:=by
 have hl:i<cs.length:=(vi.1 hi).1
 have e0:=h.at hi (c:=0) rfl
 rw [ui] at e0
 exact ⟨e0,h.at hi (c:=1) rfl,h.at hi (c:=2) rfl,h.at hi (c:=3) rfl,h.at hi (c:=4) rfl,h.at hi (c:=5) rfl,h.at hi (c:=6) rfl,h.at hi (c:=7) rfl,h.free _ zj,h.free _ zj,h.free _ zj,h.free _ zj,h.free _ zj,h.free _ zj,h.free _ zj,h.free _ zj⟩
theorem set8 (w:World) (g a:Nat) (t b m:Int) (kd:Nat) (nd o:Int) (s u:ByteArray):((((((((w.setCell ⟨g,a,none⟩ (.int .i64 t)).setCell ⟨g,a+1,none⟩ (.int .i64 b)).setCell ⟨g,a+2,none⟩ (.int .i64 m)).setCell ⟨g,a+3,none⟩ (.int .u8 (kd:Int))).setCell ⟨g,a+4,none⟩ (.int .i64 nd)).setCell ⟨g,a+5,none⟩ (.int .i64 o)).setCell ⟨g,a+6,none⟩ (.string s)).setCell ⟨g,a+7,none⟩ (.string u))=w.setCells g a (encX (t,b,m,kd,nd,o,s,u)):=rfl
def DelOut (w:World) (g cap base:Nat) (zs:List OpX) (e:Ending) (w':World):Prop:=e= .returned (.slice (some ⟨g,0,none⟩) zs.length cap)/\OwnAt w' g zs/\Below base w w'
theorem delOps_any (p:OpX->Bool) (gf:Nat) (lb:Array Value) (eg:∀args w,(callFunc gf args).run prog w= .ok (.enter gf args) w) (g cap base:Nat) (ys:List OpX) (w:World) (hbg:base<=g) (hbw:base<=w.heap.size) (hgw:g<w.heap.size) (hp:PredB gf lb ys p base w) (hn:ys.length<=1000) (hc1:ys.length<=cap) (hc2:cap<=maxLen) (hO:OwnAt w g ys):
  Calls prog 58 #[.slice (some ⟨g,0,none⟩) ys.length cap,.func (.func gf) #[] lb] w (DelOut w g cap base (ys.filter (fun x=> !p x))):=by
 have hidx:=idxOps_any p gf lb eg (some ⟨g,0,none⟩) cap ys w (hp.toO hbw) zj hO.ops
 have H:Aside (PredB gf lb ys p base w/\OwnAt w g ys/\base<=g/\base<=w.heap.size/\g<w.heap.size):=⟨hp,hO,hbg,hbw,hgw⟩
 clear hp hO hbg hbw hgw
 have hc63:(cap:Int)<=9223372036854775807:=by simp only [maxLen] at hc2;omega
 clear hc2
 go_enter func58,ntmps58
 go_wp2_with fail
 refine hidx.mono ?_
 clear hidx
 rintro e w1 ⟨r,rfl,HR⟩
 rcases HR.o.1 with ⟨hr,ha⟩ | ⟨k,x,hr,hx,hpx,hfst⟩
 ·subst hr
  have HF:Aside (ys.filter (fun x=> !p x)=ys):=Zp.2 (fun a h=>by rw [ha a h];rfl)
  clear ha
  go_wp2
  go_ret
  unfold DelOut
  rw [HF.o]
  exact ⟨rfl,H.o.2.1.same (HR.o.2.block g H.o.2.2.2.2),HR.o.2.mono H.o.2.2.2.1⟩
 have hkl:k<ys.length:=(vi.1 hx).1
 have d0:decide (((k:Nat):Int)= -1)=false:=zm
 have H1:Aside (DelSt p ys k (k+1) ys/\OwnAt w1 g ys/\Below base w w1):=⟨DelSt.start hx hpx hfst,H.o.2.1.same (HR.o.2.block g H.o.2.2.2.2),HR.o.2.mono H.o.2.2.2.1⟩
 subst hr
 clear hx hpx hfst HR
 go_wp2
 go_loopg [5,6] ys.length (fun kx s5 s6 wr=>∃(i j:Nat) (cs:List OpX),s5= .int .i64 (i:Int)/\s6= .int .i64 (j:Int)/\ys.length - j<=kx/\Aside (DelSt p ys i j cs/\OwnAt wr g cs/\Below base w wr))
 case atStart=>exact ⟨k,k+1,ys,rfl,zm,zj,H1.o⟩
 case round=>
  obtain ⟨i,j,cs,rfl,rfl,hkx,A⟩:=hrel
  have hij:=A.o.1.lt
  have hjl:=A.o.1.le
  have hcl:=A.o.1.len
  by_cases hlt:j<ys.length
  ·have hltz:decide ((j:Int)<(ys.length:Int))=true:=by simp;omega
   have hgw:g<wr.heap.size:=vJ H.o.2.2.2.2 A.o.2.2.size
   have hbr:=A.o.2.2.size
   have hbw:=H.o.2.2.2.1
   have ej:((j:Int)).toNat=j:=zj
   have pj:(0:Int)<=(j:Int):=zj
   have bj:(j:Int)<(ys.length:Int):=zj
   obtain ⟨⟨t,b,m,kd,nd,o,s,u⟩,hl⟩:∃l,Aside (ys[j]? =some l):=⟨ys[j],vj hlt⟩
   obtain ⟨r0,r1,r2,r3,r4,r5,r6,r7,-,-,-,-,-,-,-,-⟩:=A.o.2.1.eight (A.o.1.get hl.o)
   dsimp only at r0 r1 r2 r3 r4 r5 r6 r7
   have hbW:Below wr.heap.size wr (wr.alloc (.cells #[.int .i64 t,.int .i64 b,.int .i64 m,.int .u8 (kd:Int),.int .i64 nd,.int .i64 o,.string s,.string u] 41)):=zh wr _
   have hBW:Below base w (wr.alloc (.cells #[.int .i64 t,.int .i64 b,.int .i64 m,.int .u8 (kd:Int),.int .i64 nd,.int .i64 o,.string s,.string u] 41)):=A.o.2.2.trans (hbW.mono zj)
   have hcall:=H.o.1 _ (t,b,m,kd,nd,o,s,u) (vx hl.o) hBW
   have HW:Aside (OpBlk (wr.alloc (.cells #[.int .i64 t,.int .i64 b,.int .i64 m,.int .u8 (kd:Int),.int .i64 nd,.int .i64 o,.string s,.string u] 41)) wr.heap.size (t,b,m,kd,nd,o,s,u)/\OwnAt (wr.alloc (.cells #[.int .i64 t,.int .i64 b,.int .i64 m,.int .u8 (kd:Int),.int .i64 nd,.int .i64 o,.string s,.string u] 41)) g cs/\Below base w (wr.alloc (.cells #[.int .i64 t,.int .i64 b,.int .i64 m,.int .u8 (kd:Int),.int .i64 nd,.int .i64 o,.string s,.string u] 41))/\g<wr.heap.size):=⟨OpBlk.new wr (t,b,m,kd,nd,o,s,u),A.o.2.1.same (hbW.block g hgw),hBW,hgw⟩
   clear hbW hBW
   unfold encO at hcall
   dsimp only at hcall
   cases hq:p (t,b,m,kd,nd,o,s,u) with
   | true=>
    rw [hq] at hcall
    have HQ:=Lib.hid hq
    clear hq
    go_wp2_with (go_at_fn gf;refine hcall.mono ?_;rintro e w' ⟨rfl,hb'⟩)
    go_roundg (ys.length - (j+1))
    case measure=>omega
    case rel=>
     have hsz:(wr.alloc (.cells #[.int .i64 t,.int .i64 b,.int .i64 m,.int .u8 (kd:Int),.int .i64 nd,.int .i64 o,.string s,.string u] 41)).heap.size=wr.heap.size+1:=zm
     exact ⟨i,j+1,cs,rfl,zL,vm _,⟨A.o.1.skip hl.o HQ.o,HW.o.2.1.same (hb'.block g zj),HW.o.2.2.1.trans (hb'.mono zj)⟩⟩
   | false=>
    rw [hq] at hcall
    have HQ:=Lib.hid hq
    clear hq
    have ei:((i:Int)).toNat=i:=zj
    have pi:(0:Int)<=(i:Int):=zj
    have bi:(i:Int)<(ys.length:Int):=zj
    obtain ⟨z,hz⟩:∃z,Aside (cs[i]? =some z):=⟨cs[i],vj zj⟩
    go_wp2_with (go_at_fn gf;refine hcall.mono ?_;rintro e w' ⟨rfl,hb'⟩;obtain ⟨q0,q1,q2,q3,q4,q5,q6,q7,-⟩:=(HW.o.1.later hb').cells;dsimp only at q0 q1 q2 q3 q4 q5 q6 q7;obtain ⟨y0,y1,y2,y3,y4,y5,y6,y7,f0,f1,f2,f3,f4,f5,f6,f7⟩:=(HW.o.2.1.same (hb'.block g (by rw [vQ];omega))).eight hz.o)
    have hsz:(wr.alloc (.cells #[.int .i64 t,.int .i64 b,.int .i64 m,.int .u8 (kd:Int),.int .i64 nd,.int .i64 o,.string s,.string u] 41)).heap.size=wr.heap.size+1:=zm
    have HE:Aside (OwnAt w' g cs/\Below base w w'):=⟨HW.o.2.1.same (hb'.block g zj),HW.o.2.2.1.trans (hb'.mono zj)⟩
    clear hsz hb' q0 q1 q2 q3 q4 q5 q6 q7 y0 y1 y2 y3 y4 y5 y6 y7 f0 f1 f2 f3 f4 f5 f6 f7 r0 r1 r2 r3 r4 r5 r6 r7 hcall
    go_roundg (ys.length - (j+1))
    case measure=>omega
    case rel=>
     rw [set8 w' g (i*8) t b m kd nd o s u]
     refine ⟨i+1,j+1,cs.set i (t,b,m,kd,nd,o,s,u),?_,?_,vm _,?_⟩
     ·go_num
     ·go_num
     exact ⟨A.o.1.keep hl.o HQ.o,HE.o.1.set zj (t,b,m,kd,nd,o,s,u),HE.o.2.trans ((setCells_keeps g (encX (t,b,m,kd,nd,o,s,u)) (i*8) w').below (vr H.o.2.2.2.1 HE.o.2.size) (fun k e=>by have:=H.o.2.2.1;omega))⟩
  have hltz:decide ((j:Int)<(ys.length:Int))=false:=zl
  have hltn:decide (j<ys.length)=false:=zl
  have hgw:g<wr.heap.size:=vJ H.o.2.2.2.2 A.o.2.2.size
  have ei:((i:Int)).toNat=i:=zj
  have pi:(0:Int)<=(i:Int):=zj
  have bi:(i:Int)<=(ys.length:Int):=zj
  have bi2:(i:Int)<=(cap:Int):=zj
  have bl:(ys.length:Int)<=(cap:Int):=zj
  have hclear:∀ty,(Builtin.clear_ #[48] ty #[.slice (some ⟨g,i*8,none⟩) (ys.length - i) (cap - i)]).run prog wr= .ok (.tuple #[]) (wr.setCells g (i*8) (zeroRow (ys.length - i))):=fun ty=>run_clear_cells (P:=prog) wr 48 41 ty _ underlying48 zeroValue41 g (i*8) (ys.length - i) (cap - i) zj (zero_one _) (fun q hq=>A.o.2.1.has (by rw [zero_size] at hq;omega)) (fun q hq=>A.o.2.1.free _ (by rw [zero_size] at hq;omega))
  go_wp2
  go_ret
  have st:=A.o.1.stay
  have ejl:j=ys.length:=zj
  rw [ejl,uR] at st
  have hil:(cs.take i).length=i:=by rw [vP];omega
  unfold DelOut
  rw [<-st,hil]
  exact ⟨rfl,A.o.2.1.take zj _,A.o.2.2.trans ((setCells_keeps g (zeroRow (ys.length - i)) (i*8) wr).below (vr H.o.2.2.2.1 A.o.2.2.size) (fun k e=>by have:=H.o.2.2.1;omega))⟩
end
section
open Go.RowKit Go.Lib Go.Sort Go.Maps
def SortOut (w:World) (xs:List OpX) (e:Ending) (w':World):Prop:=∃v ys,e= .returned v/\((v= .slice none 0 0/\ys= [])\/∃g cap,v= .slice (some ⟨g,0,none⟩) ys.length cap/\w.heap.size<=g/\g<w'.heap.size/\ys.length<=cap/\cap<=maxLen/\OwnAt w' g ys)/\StableOf xs ys/\Below w.heap.size w w'
theorem opSort_own (w:World) (v:Value) (xs:List OpX) (h:OpsAt w v xs) (hn:xs.length<=1000):
  Calls prog 53 #[v] w (SortOut w xs):=by
 rcases h with ⟨rfl,rfl⟩ | ⟨blk,off,cap,rfl,hc⟩
 ·go_enter func53,ntmps53
  go_wp2_with fail
  refine (clone_nil _).mono ?_
  rintro e w' ⟨rfl,rfl⟩
  go_wp2_with fail
  refine (sortStable_nil _ _).mono ?_
  rintro e w1 ⟨rfl,rfl⟩
  go_wp2
  go_ret
  exact ⟨_,[],rfl,.inl ⟨rfl,rfl⟩,⟨#[],⟨permIn_refl _ _ _,fun i j _ _ hj=>absurd hj zm⟩,rfl⟩,vu _ _⟩
 have HC:Aside (∀j u,(cellsOf xs)[j]? =some u->w.cell? ⟨blk,off+j,none⟩=some u):=hc
 clear hc
 go_enter func53,ntmps53
 go_wp2_with fail
 refine (clone_some w blk off cap xs hn HC.o).mono ?_
 clear HC
 rintro e w1 ⟨v1,rfl,hown,hnil,hb⟩
 obtain ⟨g,c1,rfl,hg,hc1,hc2⟩:∃g c1,v1= .slice (some ⟨g,0,none⟩) xs.length c1/\w.heap.size<=g/\xs.length<=c1/\c1<=maxLen:=by
  rcases hown.2 with ⟨h1,_⟩ | ⟨g,c1,cur,h1,h2,_,h3,h4,_⟩
  ·exact absurd h1 hnil
  exact ⟨g,c1,h1,h2,h3,h4⟩
 have R0:Aside (RowK encT 8 w1 g 0 (tagged xs)):=row_of rfl hown
 have HB:Aside (Below w.heap.size w w1):=hb
 clear hown hnil hb
 go_wp2_with fail
 have C:=sortStable_any w1 g 0 c1 (tagged xs) R0.o (fun p hp=>xC) (by rw [tagged_size];omega)
 rw [tagged_size] at C
 refine C.mono ?_
 clear C
 rintro e w2 ⟨rfl,d',hd,S⟩
 have hl:d'.size=xs.length:=by rw [hd.1.1,tagged_size]
 have hl2:(d'.toList.map Prod.fst).length=xs.length:=je
 have hsz:w1.heap.size<=w2.heap.size:=(below_sorted (vu 0 w1) (vD _) (vD _) S).size
 have F:Aside (SortOut w xs (.returned (.slice (some ⟨g,0,none⟩) xs.length c1)) w2):=
  ⟨_,d'.toList.map Prod.fst,rfl,.inr ⟨g,c1,by rw [hl2],hg,vJ R0.o.hblk hsz,by rw [hl2];exact hc1,hc2,⟨fun j u hj=>by have:=sorted_at R0.o js S j u hj;rw [vO] at this;exact this,fun j hj=>by
   have H:=((S.holds R0.o.hblk R0.o.hH js) j (by rw [size_flatK];rw [hl2] at hj;omega)).2
   rw [vO] at H
   exact H⟩⟩,⟨d',hd,rfl⟩,below_sorted HB.o hg HB.o.size S⟩
 clear hd S R0 HB hl hl2 hsz hc1 hc2
 go_wp2
 go_ret
 exact F.o
end
section
open Go.RowKit Go.Lib Go.Sort Go.Maps
theorem SortOut.base {w1:World} {xs:List OpX} {e:Ending} (h:SortOut w1 xs e w') (hb:Below w.heap.size w w1):SortOut w xs e w':=by
 obtain ⟨v,ys,h1,h2,h3,h4⟩:=h
 refine ⟨v,ys,h1,h2.imp id ?_,h3,zi hb h4⟩
 rintro ⟨g,cap,k1,k2,k3⟩
 exact ⟨g,cap,k1,vr hb.size k2,k3⟩
theorem kall_own (w:World) (ao:Nat->Option Addr) (cap:Nat->Nat) (R:Rws) (hK:KnownAt w ao R) (hnil:∀i,i<4->ao i=none->cap i=0) (hn:(allR R).length<=1000):
  Calls prog 30 #[kV ao cap R] w (SortOut w (allR R)):=by
 obtain ⟨W,hW⟩:=za (w.alloc (.cells #[.slice (ao 0) (R 0).length (cap 0),.slice (ao 1) (R 1).length (cap 1),.slice (ao 2) (R 2).length (cap 2),.slice (ao 3) (R 3).length (cap 3)] 74 (0,0)))
 have hb:Below w.heap.size w W:=by rw [hW];exact zh w _
 have hbox:KBox W w.heap.size ao cap R:=by rw [hW];exact heap_alloc_new w _
 have hcat:=concat_any W w.heap.size ao cap R hbox (hK.later hb) hnil hn
 have H:Aside (W=w.alloc (.cells #[.slice (ao 0) (R 0).length (cap 0),.slice (ao 1) (R 1).length (cap 1),.slice (ao 2) (R 2).length (cap 2),.slice (ao 3) (R 3).length (cap 3)] 74 (0,0))/\Below w.heap.size w W/\(allR R).length<=1000):=⟨hW,hb,hn⟩
 clear hW hb hbox hK hnil hn
 unfold kV
 go_enter func30,ntmps30
 go_wp2_with fail
 rw [<-H.o.1]
 refine hcat.mono ?_
 clear hcat
 rintro e w1 ⟨v1,rfl,ho1,hb1⟩
 have hs:=opSort_own w1 v1 (allR R) (ownsOps ho1) H.o.2.2
 have H1:Aside (Below w.heap.size w w1):=zi H.o.2.1 hb1
 clear ho1 hb1 H
 go_wp2_with fail
 refine hs.mono ?_
 clear hs
 intro e w2 hs2
 have hs3:=hs2.base H1.o
 obtain ⟨v2,ys,rfl,h⟩:=hs2
 have H2:Aside (SortOut w (allR R) (.returned v2) w2):=hs3
 clear h hs3 H1
 go_wp2
 go_ret
 exact H2.o
theorem rops_own (w:World) (c:Nat->Nat) (br:Nat) (by_:Int) (R:Rws) (h:RepAt w c br by_ R) (hn:(allR R).length<=1000):
  Calls prog 14 #[.pointer (some ⟨br,0,none⟩)] w (SortOut w (allR R)):=by
 obtain ⟨T,kv,bt,bx,bc,A,hm,hp,hK,hb⟩:=h
 obtain ⟨ao,cap,hM⟩:=hm.norm
 have hall:=kall_own w ao cap R (KnownAt.of_rows hM.rows) (rows_nil hM.rows) hn
 unfold kV at hall
 have k2:w.cell? ⟨br,2,none⟩=some (.slice (ao 0) (R 0).length (cap 0)):=hM.cell.c2
 have k3:w.cell? ⟨br,3,none⟩=some (.slice (ao 1) (R 1).length (cap 1)):=hM.cell.c3
 have k4:w.cell? ⟨br,4,none⟩=some (.slice (ao 2) (R 2).length (cap 2)):=hM.cell.c4
 have k5:w.cell? ⟨br,5,none⟩=some (.slice (ao 3) (R 3).length (cap 3)):=hM.cell.c5
 clear hm hM hp hK hb hn
 go_enter func14,ntmps14
 go_wp2_with fail
 refine hall.mono ?_
 clear hall
 intro e w2 hs2
 have hs3:=hs2
 obtain ⟨v2,ys,rfl,h⟩:=hs2
 have H2:Aside (SortOut w (allR R) (.returned v2) w2):=hs3
 clear h hs3
 go_wp2
 go_ret
 exact H2.o
end
section
open Go.RowKit Go.Lib Go.Sort Go.Maps
def DiffOut (w:World) (R:Rws) (v:Nat->Int) (e:Ending) (w':World):Prop:=∃val ys,e= .returned val/\StableOf (allR R) ys/\((val= .slice none 0 0/\ys= [])\/∃g cap,val= .slice (some ⟨g,0,none⟩) (ys.filter (fun x=> !heldV v x)).length cap/\w.heap.size<=g/\OwnAt w' g (ys.filter (fun x=> !heldV v x)))/\Below w.heap.size w w'
theorem VecBlk.same' {v:Nat->Int} (h:VecBlk w b v) (hb:Below B w w') (hB:b<B):VecBlk w' b v:=(hb.block b hB).trans h
theorem delNil (p:OpX->Bool) (gf:Nat) (lb:Array Value) (eg:∀args w,(callFunc gf args).run prog w= .ok (.enter gf args) w) (w:World):
  Calls prog 58 #[.slice none 0 0,.func (.func gf) #[] lb] w fun e w'=>e= .returned (.slice none 0 0)/\Below w.heap.size w w':=by
 have hidx:=idxOps_any p gf lb eg none 0 [] w (fun W x hx=>by cases hx) zm (.inl rfl)
 go_enter func58,ntmps58
 go_wp2_with fail
 refine hidx.mono ?_
 clear hidx
 rintro e w1 ⟨r,rfl,HR⟩
 rcases HR.o.1 with ⟨hr,ha⟩ | ⟨k,x,hr,hx,_⟩
 ·subst hr
  clear ha
  go_wp2
  go_ret
  exact ⟨rfl,HR.o.2⟩
 simp at hx
theorem rdiff_any (w:World) (c:Nat->Nat) (br:Nat) (by_:Int) (R:Rws) (v:Nat->Int) (h:RepAt w c br by_ R) (hn:(allR R).length<=1000):
  Calls prog 36 #[.pointer (some ⟨br,0,none⟩),.agg #[.int .i64 (v 0),.int .i64 (v 1),.int .i64 (v 2),.int .i64 (v 3)]] w (DiffOut w R v):=by
 have eg:∀args w,(callFunc 59 args).run prog w= .ok (.enter 59 args) w:=enters_of func59 zk rfl
 obtain ⟨U,hU⟩:=za (w.alloc (.cells #[.int .i64 (v 0),.int .i64 (v 1),.int .i64 (v 2),.int .i64 (v 3)] 32 (0,0)))
 have hbU:Below w.heap.size w U:=zP
 have hv:VecBlk U w.heap.size v:=by rw [hU];exact heap_alloc_new w _
 have hops:=rops_own U c br by_ R (h.later hbU) hn
 have hK:RowsK R:=jM
 have H:Aside (U=w.alloc (.cells #[.int .i64 (v 0),.int .i64 (v 1),.int .i64 (v 2),.int .i64 (v 3)] 32 (0,0))/\Below w.heap.size w U/\VecBlk U w.heap.size v/\RowsK R):=⟨hU,hbU,hv,hK⟩
 clear hU hbU hv hK h
 go_enter func36,ntmps36
 go_upto_region 1 with fail
 rw [<-H.o.1]
 go_wp2_with fail
 refine hops.mono ?_
 clear hops
 rintro e w1 ⟨val,ys,rfl,hval,hst,hb1⟩
 rcases hval with ⟨rfl,rfl⟩ | ⟨g,cap,rfl,hg1,hg2,hc1,hc2,hO⟩
 ·have hd:=delNil (heldV v) 59 #[.pointer (some ⟨w.heap.size,0,none⟩)] eg w1
  have H1:Aside (StableOf (allR R) []/\Below w.heap.size w w1):=⟨hst,zi H.o.2.1 hb1⟩
  clear hst hb1 eg
  go_wp2_with fail
  refine hd.mono ?_
  clear hd
  rintro e w2 ⟨rfl,hb2⟩
  have H2:Aside (Below w.heap.size w w2):=zi H1.o.2 hb2
  clear hb2
  go_wp2
  go_ret
  exact ⟨_,[],rfl,H1.o.1,.inl ⟨rfl,rfl⟩,H2.o⟩
 have hlen:ys.length=(allR R).length:=(stable_by hst).1.length_eq
 have hpred:PredB 59 #[.pointer (some ⟨w.heap.size,0,none⟩)] ys (heldV v) U.heap.size w1:=fun W x hx hW=>by
  obtain ⟨i,hi,hb,_⟩:=by_nat (H.o.2.2.2.well.ok x ((stable_by hst).1.mem_iff.1 hx))
  exact diffFn_any W w.heap.size v x ((H.o.2.2.1.later hb1).same' hW H.o.2.2.1.lt) i hi hb
 have hd:=delOps_any (heldV v) 59 #[.pointer (some ⟨w.heap.size,0,none⟩)] eg g cap U.heap.size ys w1 hg1 hb1.size hg2 hpred zj hc1 hc2 hO
 have H1:Aside (StableOf (allR R) ys/\Below w.heap.size w w1/\w.heap.size<=g):=⟨hst,zi H.o.2.1 hb1,vr H.o.2.1.size hg1⟩
 clear hst hb1 eg hpred hO hlen hg1 hg2 hc1 hc2
 go_wp2_with fail
 refine hd.mono ?_
 clear hd
 rintro e w2 ⟨rfl,hO2,hb2⟩
 have H2:Aside (Below w.heap.size w w2/\OwnAt w2 g (ys.filter (fun x=> !heldV v x))):=⟨H1.o.2.1.trans (hb2.mono H.o.2.1.size),hO2⟩
 clear hb2 hO2
 go_wp2
 go_ret
 exact ⟨_,ys,rfl,H1.o.1,.inr ⟨g,cap,rfl,H1.o.2.2,H2.o.2⟩,H2.o.1⟩
end
section
open Go.RowKit Go.Lib Go.Sort Go.Maps
structure EnvT (B:Nat) (ad:Nat->Addr) (w:World):Prop where
 env:EnvE B ad w
 tab:Lib.TabBelow prog B w "internal/strconv.uint64pow10" .u64 Lib.pow10Tab
theorem EnvT.mono {B:Nat} {ad:Nat->Addr} {w w':World} (h:EnvT B ad w) (hb:Below B w w'):EnvT B ad w':=⟨h.env.mono hb,fun w'' h'=>h.tab w'' (hb.trans h')⟩
theorem EnvT.later (h:EnvT B ad w) (hb:Below w.heap.size w w'):EnvT B ad w':=h.mono (hb.mono h.env.size)
theorem EnvT.up (h:EnvT B ad w) (hB:B<=B') (hs:B'<=w.heap.size):EnvT B' ad w:=
 ⟨⟨h.env.op4,h.env.c5,h.env.c6,h.env.c7,h.env.c8,h.env.c9,vr h.env.low hB,hs⟩,fun w' h'=>h.tab w' (h'.mono hB)⟩
theorem EnvT.is (h:EnvT B ad w):Lib.TabIs prog w "internal/strconv.uint64pow10" .u64 Lib.pow10Tab:=h.tab w (vu _ w)
theorem RepOwn.below {B:Nat} {w w':World} {c c':Nat->Nat} {br:Nat} {by_:Int} {R:Rws} (h:RepOwn B w c br by_ R) (ha:Acts w c w' c') (hB:B<=w.heap.size):Below B w w':=ha.keeps.below hB (fun k hk=>h.low k hk)
theorem RepOwn.down {c:Nat->Nat} (h:RepOwn B w c br by_ R) (hB:B'<=B):RepOwn B' w c br by_ R:=⟨h.rep,fun k hk=>vr hB (h.low k hk),h.high⟩
theorem RepAt.rows {c:Nat->Nat} (h:RepAt w c br by_ R):RowsK R:=jM
theorem RepOwn.other {c c1 c1':Nat->Nat} (h:RepOwn B w c br by_ R) (ha:Acts w c1 w' c1') (hd:∀k,c1 k=0\/c k=0):RepOwn B w' c br by_ R/\∀k,c1' k=0\/c k=0:=by
 refine ⟨⟨h.rep.kept (fun i hi=>⟨fun k hk e=>ha.keeps.block k hk (fun q=> ?_),fun _ _=>rfl⟩),h.low,fun k hk=>h.high k (vr ha.keeps.size hk)⟩,fun k=> ?_⟩
 ·rcases hd k with e1 | e1
  ·exact q e1
  rw [e1] at e;exact hi e.symm
 by_cases hk:k<w.heap.size
 ·rw [ha.hue k hk];exact hd k
 exact .inr (h.high k zj)
structure Folk (B:Nat) (w:World) (n:Nat) (c:Nat->Nat->Nat) (br:Nat->Nat) (by_:Nat->Int) (R:Nat->Rws):Prop where
 rep:∀r,r<n->RepOwn B w (c r) (br r) (by_ r) (R r)
 apart:∀r,r<n->∀s,s<n->r≠s->∀k,c r k=0\/c s k=0
theorem Folk.none (B:Nat) (w:World) (c:Nat->Nat->Nat) (br:Nat->Nat) (by_:Nat->Int) (R:Nat->Rws):Folk B w 0 c br by_ R:=⟨fun r hr=>absurd hr zj,fun r hr=>absurd hr zj⟩
theorem Folk.later {B:Nat} {w w':World} {n:Nat} {c:Nat->Nat->Nat} {br:Nat->Nat} {by_:Nat->Int} {R:Nat->Rws} (h:Folk B w n c br by_ R) (hb:Below w.heap.size w w'):Folk B w' n c br by_ R:=⟨fun r hr=>(h.rep r hr).later hb,h.apart⟩
def setAt {α:Type} (f:Nat->α) (a:Nat) (x:α):Nat->α:=fun r=>if r=a then x else f r
theorem setAt_is {α:Type} (f:Nat->α) (a:Nat) (x:α):setAt f a x a=x:=if_pos rfl
theorem setAt_ne {α:Type} (f:Nat->α) {a r:Nat} (x:α) (h:r≠a):setAt f a x r=f r:=if_neg h
theorem Folk.add {c:Nat->Nat->Nat} {br:Nat->Nat} {by_:Nat->Int} {R:Nat->Rws} (h:Folk B w n c br by_ R) (hB:B<=w.heap.size) {c0:Nat->Nat} {br0:Nat} {b:Int} {R0:Rws} (h0:RepOwn w.heap.size w' c0 br0 b R0) (hb:Below w.heap.size w w'):Folk B w' (n+1) (setAt c n c0) (setAt br n br0) (setAt by_ n b) (setAt R n R0):=by
 have off:∀r,r<n->∀k,c r k=0\/c0 k=0:=fun r hr k=>by
  by_cases hk:k<w.heap.size
  ·right
   by_cases e:c0 k=0
   ·exact e
   have:=h0.low k e;omega
  exact .inl ((h.rep r hr).high k zj)
 refine ⟨fun r hr=> ?_,fun r hr s hs hrs=> ?_⟩
 ·by_cases e:r=n
  ·subst e;simp only [setAt_is];exact h0.down hB
  rw [setAt_ne _ _ e,setAt_ne _ _ e,setAt_ne _ _ e,setAt_ne _ _ e];exact (h.later hb).rep r zj
 by_cases e:r=n
 ·subst e
  rw [setAt_is,setAt_ne _ _ (fun q=>hrs q.symm)]
  exact fun k=>(off s zj k).symm
 rw [setAt_ne _ _ e]
 by_cases e':s=n
 ·subst e';rw [setAt_is];exact off r zj
 rw [setAt_ne _ _ e'];exact h.apart r zj s zj hrs
theorem RepOwn.wellK {c:Nat->Nat} (h:RepOwn B w c br by_ R):RowsK R:=h.rep.rows
theorem RepAt.time {w:World} {c:Nat->Nat} {br:Nat} {by_:Int} {R:Rws} (h:RepAt w c br by_ R):∃T kv bt bx bc A,RepMid w c br T by_ kv bt bx bc R A/\A.Perm (allR R)/\timeO (allR R) T:=by
 obtain ⟨T,kv,bt,bx,bc,A,h1,h2,_⟩:=h
 exact ⟨T,kv,bt,bx,bc,A,h1,h2,⟨fun x hx=>h1.time.1 x (h2.mem_iff.2 hx),h1.time.2.1.imp id (fun ⟨x,hx,e⟩=>⟨x,h2.mem_iff.1 hx,e⟩),h1.time.2.2⟩⟩
end
section
open Go.RowKit Go.Lib Go.Sort Go.Maps
open scoped Classical
theorem sized_ok {l:List OpX} (h:∀x∈l,errO x=0):Sized l:=fun x hx=>by
 have q:=opE_zero (h x hx)
 have l1:x.2.2.2.2.2.2.1.data.toList.length=x.2.2.2.2.2.2.1.size:=zm
 have l2:x.2.2.2.2.2.2.2.data.toList.length=x.2.2.2.2.2.2.2.size:=zm
 omega
def JoinedOut (B:Nat) (w:World) (c:Nat->Nat) (br:Nat) (by_:Int) (R:Rws) (l:List OpX) (e:Ending) (w':World):Prop:=∃(n:Nat) (c':Nat->Nat) (R':Rws),e= .returned (.tuple #[.int .i64 (n:Int),.nilIface])/\Acts w c w' c'/\RepOwn B w' c' br by_ R'/\(∀x,x∈allR R'↔x∈allR R\/x∈l)/\(allR R').length=(allR R).length+n
theorem perm_len {R':Rws} {F:List OpX} (hR:RowsK R) (hR':RowsK R') (hF:FreshK (allR R) F) (hm:∀x,x∈allR R'↔x∈allR R++F):(allR R').length=(allR R).length+F.length:=by
 have n1:=hR'.num.nodup
 have n2:(allR R++F).Nodup:=by
  rw [uf]
  refine ⟨hR.num.nodup,hF.one.imp (fun {a b} h e=>h (by rw [e];exact ⟨rfl,rfl⟩)),fun a ha b hb e=> ?_⟩
  subst e
  exact hF.off a hb a ha ⟨rfl,rfl⟩
 have a1:=len_sub n1 (fun x hx=>(hm x).1 hx)
 have a2:=len_sub n2 (fun x hx=>(hm x).2 hx)
 rw [vw] at a1 a2
 omega
theorem joined (w:World) (c:Nat->Nat) (br:Nat) (by_:Int) (R:Rws) (la:Option Addr) (lc:Nat) (T l:List OpX) (h:RepOwn B w c br by_ R) (hE:EnvT B ad w) (hin:OpsIn w la l) (hT:WellK T) (hc:Compat (allR R) T) (hl:∀x,x∈l->x∈T) (hl2:∀x,x∈T->x∈allR R\/x∈l) (hn:(allR R).length+l.length<=140):
  Calls prog 56 #[.pointer (some ⟨br,0,none⟩),.slice la l.length lc] w (JoinedOut B w c br by_ R l):=by
 obtain ⟨fresh,h1,h2,h3,h4⟩:=join_part h.wellK hT hc hl hl2 zj
 refine (join_any w c br by_ R la lc l h hE.env hin (sized_ok (fun x hx=>hT.ok x (hl x hx))) hn).mono ?_
 rintro e w' ⟨a,c',hj,hA,hm⟩
 rw [h1 a hj] at hm
 obtain ⟨he,R',hR',hmem⟩:=hm
 refine ⟨fresh.length,c',R',he,hA,hR',fun x=> ?_,perm_len h.wellK hR'.wellK h2 hmem⟩
 rw [hmem x,h3 x]
 constructor
 ·rintro (q | q)
  ·exact .inl q
  exact hl2 x q
 rintro (q | q)
 ·exact .inl q
 exact .inr (hl x q)
theorem joined_own {B:Nat} {ad:Nat->Addr} (w:World) (c:Nat->Nat) (br:Nat) (i:Nat) (R:Rws) (la:Option Addr) (lc:Nat) (T:Int) (x:OpX) (h:RepOwn B w c br (i:Int) R) (hE:EnvT B ad w) (hi:i<4) (hin:OpsIn w la [x]) (hx:NextOp R i T x) (hT:∀y∈allR R,y.1<=T) (hn:(allR R).length<=130):
  Calls prog 56 #[.pointer (some ⟨br,0,none⟩),.slice la 1 lc] w fun e w'=>∃(c':Nat->Nat) (R':Rws),e= .returned (.tuple #[.int .i64 1,.nilIface])/\Acts w c w' c'/\RepOwn B w' c' br (i:Int) R'/\(∀y,y∈allR R'↔y=x\/y∈allR R)/\(allR R').length=(allR R).length+1:=by
 have hw:=hx.well h.wellK hi hT
 have hxn:x∉allR R:=fun q=>by have:=hw.2 x q rfl;omega
 refine (joined w c br (i:Int) R la lc (x::allR R) [x] h hE hin hw.1 (compat_own hx h.wellK hi hT) (fun y hy=>by simp at hy;rw [hy];exact vW) (fun y hy=>by rcases vz.1 hy with q | q;exact .inr (by simp [q]);exact .inl q) zl).mono ?_
 rintro e w' ⟨n,c',R',he,hA,hR',hm,hlen⟩
 have hm':∀y,y∈allR R'↔y=x\/y∈allR R:=fun y=>by rw [hm y];simp only [vA];exact Or.comm
 have n1:n=1:=by
  have a1:=len_sub hR'.wellK.num.nodup (H:=x::allR R) (fun y hy=>by rcases (hm' y).1 hy with q | q;exact vz.2 (.inl q);exact vF _ q)
  have a2:=len_sub (l:=x::allR R) (H:=allR R') (List.nodup_cons.2 ⟨hxn,h.wellK.num.nodup⟩) (fun y hy=>(hm' y).2 (vz.1 hy))
  rw [vH] at a1 a2
  omega
 subst n1
 exact ⟨c',R',he,hA,hR',hm',hlen⟩
end
section
open Go.RowKit Go.Lib Go.Sort Go.Maps
open scoped Classical
def x0:OpX:=(1,2,1,109,6,0,⟨#[97]⟩,⟨#[]⟩)
theorem made_single (m:Mov) (hne:m.2.1≠m.2.2.1):madeBy [m]=upd noSta m.2.1 (some m.2):=by
 show step noSta m=_
 exact step_goes (fun hi=>hi.elim hne (fun h=>ins_none rfl h))
