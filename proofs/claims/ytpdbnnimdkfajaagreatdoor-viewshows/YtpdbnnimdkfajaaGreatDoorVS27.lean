import Derived.Test.YtpdbnnimdkfajaaGreatDoorVS22
import Derived.Shelf.SlicesE.Clone
import Derived.Lib.OwnBridge
set_option linter.unusedSimpArgs false
set_option linter.unusedVariables false
set_option maxRecDepth 100000
set_option maxHeartbeats 64000000
namespace Go.Proofs.YtpdbnnimdkfajaaGreatDoor
open Go.Proofs.Tryz
variable {d d' d0:Array (OpX×Nat)} {xs ys:List OpX} {B blk g i k n o:Nat} {v:Value} {w w' w0:World}
section
open Go.Shelf Go.RowKit Go.Lib Go.Sort
def InsOk (P:Program) {β:Type} [Inhabited β] (lt:β->β->Bool) (k:Nat) (enc:β×Nat->List Value) (g:Nat) (w0:World) (blk off cap a b:Nat) (d:Array (β×Nat)) (w:World):Prop:=
 Calls P 225 #[.slice (some ⟨blk,off,none⟩) d.size cap,.int .i64 a,.int .i64 b,.func (.func g) #[] #[]] w fun e w'=>e= .returned (.tuple #[])/\∃d',(PermIn a b d d'/\SortedIn (slt lt) a b d')/\SWK enc k w0 blk off d' w'
theorem stable_open {P:Program} {β:Type} [Inhabited β] {lt:β->β->Bool} {enc:β×Nat->List Value} {cf:β×Nat->β×Nat->Int} {off:Nat} {d0:Array (β×Nat)} (V:SEnv P lt k enc cf g w0 blk off d0) (cap:Nat) (d:Array (β×Nat)) (w:World)
  (hF:P.funcs[(185:Nat)]? =some f185)
  (eI:∀args w,(callFunc 225 args).run P w= .ok (.enter 225 args) w)
  (INS:∀a b d w,d0.size=d.size->SWK enc k w0 blk off d w->a<=b->b<=d.size->d.size<4611686018427387904->(∀p q,a<=p->p<q->q<b->d[p]!.2<d[q]!.2)->InsOk P lt k enc g w0 blk off cap a b d w)
  (hs:d0.size=d.size) (S:SWK enc k w0 blk off d w) (ht:∀p,p<d.size->d[p]!.2=p) (hsz:d.size<1152921504606846976):
  Calls P 185 #[.slice (some ⟨blk,off,none⟩) d.size cap,.int .i64 d.size,.func (.func g) #[] #[]] w fun e w'=>e= .returned (.tuple #[])/\∃d',(PermIn 0 d.size d d'/\SortedIn (slt lt) 0 d.size d')/\SWK enc k w0 blk off d' w':=by
 have L:=V.ty
 have mixed:=L.mixed;have t0:=L.t0;have a0:=L.a0;have z0:=L.z0;have v0:=L.v0;have t3:=L.t3;have a3:=L.a3;have z3:=L.z3;have v3:=L.v3;have t4:=L.t4;have a4:=L.a4;have z4:=L.z4;have v4:=L.v4;have tS:=L.tS;have aS:=L.aS;have zS:=L.zS;have vS:=L.vS;have tC:=L.tC;have aC:=L.aC;have zC:=L.zC;have vC:=L.vC;have tU:=L.tU;have aU:=L.aU;have zU:=L.zU;have vU:=L.vU;have aE:=L.aE;have zE:=L.zE
 have eM:∀args w,(callFunc 226 args).run P w= .ok (.enter 226 args) w:=enters_of V.fM zj rfl
 have I0:Aside (∀a b d w,d0.size=d.size->SWK enc k w0 blk off d w->a<=b->b<=d.size->d.size<4611686018427387904->(∀p q,a<=p->p<q->q<b->d[p]!.2<d[q]!.2)->InsOk P lt k enc g w0 blk off cap a b d w):=INS
 have S0:Aside (SWK enc k w0 blk off d w):=S
 have T0:Aside (∀p,p<d.size->d[p]!.2=p):=ht
 clear S ht INS
 go_enter hF,ntmps185
 go_wp2
 go_loopg [7,8] d.size (fun kx s7 s8 wr=>∃(c a:Nat) (dk:Array (β×Nat)),s7= .int .i64 (a:Int)/\s8= .int .i64 ((a:Int)+20)/\a<=d.size/\d.size - a<=kx/\dk.size=d.size/\Aside (a=c*20)/\Aside (Blocks lt 20 a d.size dk)/\Aside (∀p,a<=p->p<d.size->dk[p]!.2=p)/\Aside (PermIn 0 d.size d dk)/\Aside (SWK enc k w0 blk off dk wr))
 case atStart=>exact ⟨0,0,d,rfl,zQ,js _,jj _,rfl,(by omega:(0:Nat)=0*20),⟨fun p hp c=>by rw [T0.o p hp],fun i j _ hj=>zi⟩,fun p _ hp=>T0.o p hp,permIn_refl _ _ _,S0⟩
 case round=>
  clear S0 T0
  obtain ⟨c,a,dk,rfl,rfl,han,hkx,hdk,HA,BL,TG,PM,S1⟩:=hrel
  by_cases hlt:a+20<=d.size
  ·have q1:decide ((a:Int)+20<=(d.size:Int))=true:=by simp;omega
   go_wp2_with fail
   clear q1
   have c1:(a:Int)+20=((a+20:Nat):Int):=zi
   have C:=I0.o a (a+20) dk wr zi S1.o zi zi zi (fun p q hp hpq hq=>qx)
   unfold InsOk at C
   rw [hdk,<-c1] at C
   clear c1
   refine C.mono ?_
   clear C
   rintro ex w1 ⟨rfl,d1,⟨PM1,SO1⟩,S_1⟩
   have S2:Aside (SWK enc k w0 blk off d1 w1):=S_1
   have hd1:d1.size=d.size:=by rw [PM1.1,hdk]
   have BL2:Aside (Blocks lt 20 (a+20) d.size d1):=Blocks.step BL.o hdk.symm HA.o hlt (.inl rfl) PM1 SO1
   have TG2:Aside (∀p,a+20<=p->p<d.size->d1[p]!.2=p):=fun p hp hpn=>by rw [PM1.2.1 p (.inr hp)];exact TG.o p zi hpn
   have PM2:Aside (PermIn 0 d.size d d1):=permIn_trans _ _ _ _ _ PM.o (permIn_mono dk d1 _ _ _ _ (js _) hlt zi PM1)
   have HA2:Aside (a+20=(c+1)*20):=by have:=HA.o;show _=_;omega
   clear S_1 PM1 SO1 BL TG PM S1 HA
   go_wp2
   go_roundg (d.size - (a+20))
   case measure=>omega
   case rel=>exact ⟨c+1,a+20,d1,zw,by first | rfl | go_num | (congr 1;omega),hlt,jj _,hd1,HA2,BL2,TG2,PM2,S2⟩
  have q1:decide ((a:Int)+20<=(d.size:Int))=false:=zk
  go_wp2_with fail
  clear q1
  have C:=I0.o a d.size dk wr zi S1.o zi zi zi (fun p q hp hpq hq=>qx)
  unfold InsOk at C
  rw [hdk] at C
  refine C.mono ?_
  clear C
  rintro ex w1 ⟨rfl,d1,⟨PM1,SO1⟩,S_1⟩
  have S2:Aside (SWK enc k w0 blk off d1 w1):=S_1
  have hd1:d1.size=d.size:=by rw [PM1.1,hdk]
  have BL2:Aside (Blocks lt 20 d.size d.size d1):=Blocks.step BL.o hdk.symm HA.o ze (.inr ⟨rfl,zi⟩) PM1 SO1
  have PM2:Aside (PermIn 0 d.size d d1):=permIn_trans _ _ _ _ _ PM.o (permIn_mono dk d1 _ _ _ _ (js _) ze zi PM1)
  clear S_1 PM1 SO1 BL TG PM S1 HA hkx hlt
  go_wp2
  go_loopg [6] d.size (fun kx s6 wr=>∃(B:Nat) (dk:Array (β×Nat)),s6= .int .i64 (B:Int)/\20<=B/\d.size - B<=kx/\dk.size=d.size/\Aside (Blocks lt B d.size d.size dk)/\Aside (PermIn 0 d.size d dk)/\Aside (SWK enc k w0 blk off dk wr))
  case atStart=>exact ⟨20,d1,rfl,jj _,zi,hd1,BL2,PM2,S2⟩
  case round=>
   clear S2 BL2 PM2 hd1
   obtain ⟨B,dk2,rfl,hB,hkx,hdk2,BL,PM,S1⟩:=hrel
   by_cases hBn:B<d.size
   ·have q1:decide ((B:Int)<(d.size:Int))=true:=by simp;omega
    have HF:Aside (Half lt B 0 d.size dk2):=BL.o.half
    go_wp2
    clear q1 BL
    go_loopg [7,8] d.size (fun kx s7 s8 wr=>∃(c a:Nat) (dk:Array (β×Nat)),s7= .int .i64 (a:Int)/\s8= .int .i64 ((a:Int)+2*(B:Int))/\a<=d.size/\d.size - a<=kx/\dk.size=d.size/\Aside (a=c*(2*B))/\Aside (Half lt B a d.size dk)/\Aside (PermIn 0 d.size d dk)/\Aside (SWK enc k w0 blk off dk wr))
    case atStart=>exact ⟨0,0,dk2,rfl,zQ,js _,jj _,hdk2,(by show 0=_;rw [Nat.zero_mul]),HF,PM,S1⟩
    case round=>
     clear S1 PM HF hdk2
     obtain ⟨c,a,dk3,rfl,rfl,han,hkx3,hdk3,HA,HF,PM,S1⟩:=hrel
     by_cases hlt:a+2*B<=d.size
     ·have q1:decide ((a:Int)+2*(B:Int)<=(d.size:Int))=true:=by simp;omega
      go_wp2_with fail
      clear q1
      have c1:(a:Int)+(B:Int)=((a+B:Nat):Int):=zi
      have c2:(a:Int)+2*(B:Int)=((a+2*B:Nat):Int):=zi
      have C:=sym_all V cap _ a (a+B) (a+2*B) dk3 wr ze zi S1.o (HF.o.runs HA.o rfl zi zi hlt) zi zi zi zi
      unfold SymOk at C
      rw [hdk3,<-c1,<-c2] at C
      clear c1 c2
      refine C.mono ?_
      clear C
      rintro ex w1 ⟨rfl,d1,⟨PM1,SO1⟩,S_1⟩
      have S2:Aside (SWK enc k w0 blk off d1 w1):=S_1
      have hd1:d1.size=d.size:=by rw [PM1.1,hdk3]
      have HF2:Aside (Half lt B (a+2*B) d.size d1):=Half.step HF.o hdk3.symm HA.o zi hlt (.inl rfl) PM1 SO1
      have PM2:Aside (PermIn 0 d.size d d1):=permIn_trans _ _ _ _ _ PM.o (permIn_mono dk3 d1 _ _ _ _ (js _) hlt zi PM1)
      have HA2:Aside (a+2*B=(c+1)*(2*B)):=by show _=_;rw [ur,<-HA.o];omega
      clear S_1 PM1 SO1 HF PM S1 HA
      go_wp2
      go_roundg (d.size - (a+2*B))
      case measure=>omega
      case rel=>exact ⟨c+1,a+2*B,d1,zQ,zQ,hlt,jj _,hd1,HA2,HF2,PM2,S2⟩
     have q1:decide ((a:Int)+2*(B:Int)<=(d.size:Int))=false:=zk
     by_cases hmn:a+B<d.size
     ·have q2:decide ((a:Int)+(B:Int)<(d.size:Int))=true:=by simp;omega
      go_wp2_with fail
      clear q1 q2
      have c1:(a:Int)+(B:Int)=((a+B:Nat):Int):=zi
      have C:=sym_all V cap _ a (a+B) d.size dk3 wr ze zi S1.o (HF.o.runs HA.o rfl zi zi ze) zi zi zi zi
      unfold SymOk at C
      rw [hdk3,<-c1] at C
      clear c1
      refine C.mono ?_
      clear C
      rintro ex w1 ⟨rfl,d1,⟨PM1,SO1⟩,S_1⟩
      have S2:Aside (SWK enc k w0 blk off d1 w1):=S_1
      have hd1:d1.size=d.size:=by rw [PM1.1,hdk3]
      have BL2:Aside (Blocks lt (2*B) d.size d.size d1):=(Half.step HF.o hdk3.symm HA.o zi ze (.inr ⟨rfl,zi⟩) PM1 SO1).end_all
      have PM2:Aside (PermIn 0 d.size d d1):=permIn_trans _ _ _ _ _ PM.o (permIn_mono dk3 d1 _ _ _ _ (js _) ze zi PM1)
      clear S_1 PM1 SO1 HF PM S1 HA
      go_wp2
      go_roundg (d.size - 2*B)
      case measure=>omega
      case rel=>exact ⟨2*B,d1,zQ,zi,jj _,hd1,BL2,PM2,S2⟩
     have q2:decide ((a:Int)+(B:Int)<(d.size:Int))=false:=zk
     have BL2:Aside (Blocks lt (2*B) d.size d.size dk3):=HF.o.end_ HA.o zi
     clear HF HA
     go_wp2
     go_roundg (d.size - 2*B)
     case measure=>omega
     case rel=>exact ⟨2*B,dk3,zQ,zi,jj _,hdk3,BL2,PM,S1⟩
   have q1:decide ((B:Int)<(d.size:Int))=false:=zk
   go_wp2
   go_end0
   exact ⟨rfl,dk2,⟨PM.o,BL.o.all zi⟩,S1.o⟩
end
section
open Go.Shelf Go.RowKit Go.Lib Go.Sort
def insRen:Ren:=⟨fun | 20=>225 | n=>n,fun | 0=>0 | 3=>3 | 4=>4 | 22=>32 | 24=>38 | 25=>210 | n=>n,fun n=>n⟩
theorem ins_lays:SlLaysF0.n20 prog insRen where
 mixed:=zj
 f20:=⟨ "slices.insertionSortCmpFunc[concordat/api.Op]",zj,func225.trans (congrArg some zj)⟩
 t0:=underlying0
 a0:=isAgg0
 z0:=sizeOf0
 v0:=zeroValue0
 t3:=underlying3
 a3:=isAgg3
 z3:=sizeOf3
 v3:=zeroValue3
 t4:=underlying4
 a4:=isAgg4
 z4:=sizeOf4
 v4:=zeroValue4
 t22:=underlying32
 a22:=isAgg32
 z22:=sizeOf32
 v22:=zeroValue32
 t25:=underlying210
 a25:=isAgg210
 z25:=sizeOf210
 v25:=zeroValue210
theorem ins_ok {off:Nat} (R:RowK encT 8 w0 blk off d0) (cap a b:Nat) (d:Array (OpX×Nat)) (w:World) (hs:d0.size=d.size) (S:SWK encT 8 w0 blk off d w) (hab:a<=b) (hb:b<=d.size) (hsz:d.size<4611686018427387904) (ht:∀p q,a<=p->p<q->q<b->d[p]!.2<d[q]!.2):
  InsOk prog ltX 8 encT 121 w0 blk off cap a b d w:=by
 have I:=ins_stable ltX_swo d a b hab hb ht
 rw [<-ltOf_cmpX] at I
 unfold InsOk
 refine (AnyQ.insertionSortCmpFunc ins_lays 8 isAgg38 sizeOf38 encT R.hk R.h1 cmpX 121 #[] blk off cap a b d w eg_cmp (cmp_lays blk off d.size w) (S.holds R.hblk R.hH hs.symm) (S.lt R.hblk) hab hb hsz).mono ?_
 rintro e w' ⟨rfl,n,os,rfl⟩
 exact ⟨rfl,_,I,S.on R.hblk n _ os I.1.1⟩
theorem senv_here {off:Nat} (R:RowK encT 8 w0 blk off d0):SEnv prog ltX 8 encT cmpX 121 w0 blk off d0:=
 ⟨sty_here,func307,func281,func226,R,cmpX_lt,ltX_swo,eg_cmp,cmp_lays blk off d0.size w0⟩
theorem sortStable_any (w:World) (blk off cap:Nat) (d:Array (OpX×Nat)) (R:RowK encT 8 w blk off d) (ht:∀p,p<d.size->d[p]!.2=p) (hsz:d.size<1152921504606846976):
  Calls prog 120 #[.slice (some ⟨blk,off,none⟩) d.size cap,.func (.func 121) #[] #[]] w fun e w'=>e= .returned (.tuple #[])/\∃d',(PermIn 0 d.size d d'/\SortedIn (slt ltX) 0 d.size d')/\SWK encT 8 w blk off d' w':=by
 have eS:∀args w,(callFunc 185 args).run prog w= .ok (.enter 185 args) w:=enters_of func185 zj rfl
 have eI:∀args w,(callFunc 225 args).run prog w= .ok (.enter 225 args) w:=enters_of func225 zj rfl
 have C:=stable_open (senv_here R) cap d w func185 eI (ins_ok R cap) rfl (SWK.start R.hH) ht hsz
 have CA:Aside _:=C
 clear C eI ht
 go_enter func120,ntmps120
 go_wp2_with fail
 refine Calls.mono CA.o ?_
 rintro e w' ⟨rfl,d',hd,S⟩
 have S2:Aside (SWK encT 8 w blk off d' w'):=S
 have H2:Aside (PermIn 0 d.size d d'/\SortedIn (slt ltX) 0 d.size d'):=hd
 clear S hd CA
 go_wp2
 go_end0
 exact ⟨rfl,d',H2.o,S2.o⟩
end
section
open Go.Shelf Go.RowKit Go.Lib Go.Sort
def cloneRen:Ren:=⟨fun | 41=>119 | n=>n,fun | 4=>4 | 22=>32 | 23=>38 | n=>n,fun n=>n⟩
theorem clone_lays:SlLaysE0.n41 prog cloneRen where
 mixed:=zj
 f41:=⟨ "slices.Clone[[]concordat/api.Op,concordat/api.Op]",zj,func119.trans (congrArg some zj)⟩
 t4:=underlying4
 a4:=isAgg4
 z4:=sizeOf4
 v4:=zeroValue4
 t22:=underlying32
 a22:=isAgg32
 z22:=sizeOf32
 v22:=zeroValue32
theorem clone_some (w:World) (b off c:Nat) (xs:List OpX) (hn:xs.length<=1000) (hc:∀j u,(cellsOf xs)[j]? =some u->w.cell? ⟨b,off+j,none⟩=some u):
  Calls prog 119 #[.slice (some ⟨b,off,none⟩) xs.length c] w fun e w'=>∃v',e= .returned v'/\w'.ownsRow w.heap.size 38 8 v' xs.length (cellsOf xs)/\v'≠ .slice none 0 0/\Below w.heap.size w w':=by
 obtain ⟨i0,hi,hz0,hz1,hz2⟩:=info_parts infoOp
 exact AnyE.slices_Clone clone_lays i0 _ 8 80 hi hz0 hz1 hz2 rfl zi sizeOf38 b off xs.length c (cellsOf xs) w (cellsOf_len xs) zD zi hc (cellsOf_one xs)
theorem clone_nil (w:World):Calls prog 119 #[.slice none 0 0] w fun e w'=>e= .returned (.slice none 0 0)/\w'=w:=
 AnyE.slices_Clone_nil clone_lays 0 0 w
def tagged (xs:List OpX):Array (OpX×Nat):=xs.zipIdx.toArray
theorem tagged_size (xs:List OpX):(tagged xs).size=xs.length:=by simp [tagged]
theorem tagged_at (xs:List OpX) (i:Nat) (hi:i<xs.length):(tagged xs)[i]! =(xs[i]!,i):=by
 rw [getElem!_pos _ i (by rw [tagged_size];exact hi),getElem!_pos xs i hi]
 simp [tagged]
theorem row_of {base cap:Nat} (hn:n=xs.length) (h:w.ownsRow base 38 8 (.slice (some ⟨g,0,none⟩) n cap) n (cellsOf xs)):RowK encT 8 w g 0 (tagged xs) where
 hk:=encT_len
 h1:=encT_one
 hblk:=(h.lt g rfl).2
 hH:=fun j hj=>by
  rw [size_flatK,tagged_size] at hj
  have h1:j / 8<xs.length:=zi
  have h2:j / 8*8+j % 8=j:=zi
  refine ⟨?_,qe⟩
  rw [jt,h.cellAt j zi,get_flatK _ _ _ _ (by rw [tagged_size];exact hj),tagged_at xs _ h1]
  have:=cellsOf_get xs (j / 8) (j % 8) h1 zi
  rw [h2] at this
  exact this
end
section
open Go.Shelf Go.RowKit Go.Lib Go.Sort
theorem below_grow {os:Array Obj} (h:Below B w0 w) (hB:B<=w.heap.size):Below B w0 (grow w os):=
 ⟨h.os,h.tape,h.output,by rw [Go.Sort.size_grow];exact jw h.size (Nat.le_add_right _ _),fun k hk=>by
  rw [<-h.block k hk]
  simp only [grow]
  rw [Array.getElem?_append_left zi]⟩
theorem below_sorted (h:Below B w0 w) (hg:B<=g) (hB:B<=w.heap.size) (S:SWK encT 8 w g 0 d w'):Below B w0 w':=by
 obtain ⟨n,os,rfl⟩:=S
 unfold sortWorldK putRowK
 exact below_grow (below_putRow h hg) (by show B<=(putRow id _ g 0 _).heap.size;simpa [putRow,mapBlock,Sort.ahead] using hB)
theorem sorted_at (R:RowK encT 8 w g 0 d) (hs:d'.size=d.size) (S:SWK encT 8 w g 0 d' w') (j:Nat) (u:Value) (hj:(cellsOf (d'.toList.map Prod.fst))[j]? =some u):w'.cell? ⟨g,0+j,none⟩=some u:=by
 have H:=S.holds R.hblk R.hH hs
 have hl:j<(cellsOf (d'.toList.map Prod.fst)).length:=(jh.1 hj).1
 rw [cellsOf_len,jG,vE] at hl
 have h1:j / 8<d'.size:=zi
 have h2:j / 8*8+j % 8=j:=zi
 have c:=cellsOf_get (d'.toList.map Prod.fst) (j / 8) (j % 8) xf zi
 rw [h2,hj] at c
 have H1:=(H j xq).1
 rw [get_flatK _ _ _ _ zi] at H1
 have e:encT d'[j / 8]! =encX (d'.toList.map Prod.fst)[j / 8]! :=by
  rw [getElem!_pos d' (j / 8) h1,getElem!_pos (d'.toList.map Prod.fst) (j / 8) xf]
  simp [encT]
 rw [H1,c,<-e]
 rfl
def StableOf (xs ys:List OpX):Prop:=∃d':Array (OpX×Nat),(PermIn 0 xs.length (tagged xs) d'/\SortedIn (slt ltX) 0 xs.length d')/\ys=d'.toList.map Prod.fst
theorem ins_nil (fv:Value) (w:World):Calls prog 225 #[.slice none 0 0,.int .i64 0,.int .i64 0,fv] w fun e w'=>e= .returned (.tuple #[])/\w'=w:=by
 go_enter func225,ntmps225
 go_wp2
 refine wp_loop_rounds 1 ?_
 rw [rounds_succ]
 go_wp2
 go_end0
 exact ⟨rfl,rfl⟩
theorem stable_nil (g:Nat) (w:World):Calls prog 185 #[.slice none 0 0,.int .i64 0,.func (.func g) #[] #[]] w fun e w'=>e= .returned (.tuple #[])/\w'=w:=by
 go_enter func185,ntmps185
 go_wp2
 refine wp_loop_rounds 1 ?_
 rw [rounds_succ]
 go_wp2_with fail
 refine (ins_nil _ _).mono ?_
 rintro e w' ⟨rfl,rfl⟩
 go_wp2
 refine wp_loop_rounds 1 ?_
 rw [rounds_succ]
 go_wp2
 go_end0
 exact ⟨rfl,rfl⟩
theorem sortStable_nil (g:Nat) (w:World):Calls prog 120 #[.slice none 0 0,.func (.func g) #[] #[]] w fun e w'=>e= .returned (.tuple #[])/\w'=w:=by
 go_enter func120,ntmps120
 go_wp2_with fail
 refine (stable_nil _ _).mono ?_
 rintro e w' ⟨rfl,rfl⟩
 go_wp2
 go_end0
 exact ⟨rfl,rfl⟩
theorem opSort_new (w:World) (v:Value) (xs:List OpX) (h:OpsAt w v xs) (hn:xs.length<=1000):
  Calls prog 53 #[v] w fun e w'=>∃v' ys,e= .returned v'/\OpsAt w' v' ys/\StableOf xs ys/\Below w.heap.size w w'/\∀g,v'.ownBlock=some g->w.heap.size<=g:=by
 rcases h with ⟨rfl,rfl⟩ | ⟨blk,off,cap,rfl,hc⟩
 ·go_enter func53,ntmps53
  go_wp2_with fail
  refine (clone_nil _).mono ?_
  rintro e w' ⟨rfl,rfl⟩
  go_wp2_with fail
  refine (sortStable_nil _ _).mono ?_
  rintro e w1 ⟨rfl,rfl⟩
  go_wp2
  go_ret
  exact ⟨_,[],rfl,.inl ⟨rfl,rfl⟩,⟨#[],⟨permIn_refl _ _ _,fun i j _ _ hj=>absurd hj zm⟩,rfl⟩,jo _ _,fun g hg=>by cases hg⟩
 have HC:Aside (∀j u,(cellsOf xs)[j]? =some u->w.cell? ⟨blk,off+j,none⟩=some u):=hc
 clear hc
 go_enter func53,ntmps53
 go_wp2_with fail
 refine (clone_some w blk off cap xs hn HC.o).mono ?_
 clear HC
 rintro e w1 ⟨v1,rfl,hown,hnil,hb⟩
 obtain ⟨g,c1,rfl,hg⟩:∃g c1,v1= .slice (some ⟨g,0,none⟩) xs.length c1/\w.heap.size<=g:=by
  rcases hown.2 with ⟨h1,_⟩ | ⟨g,c1,cur,h1,h2,_⟩
  ·exact absurd h1 hnil
  exact ⟨g,c1,h1,h2⟩
 have R0:Aside (RowK encT 8 w1 g 0 (tagged xs)):=row_of rfl hown
 have HB:Aside (Below w.heap.size w w1):=hb
 clear hown hnil hb
 go_wp2_with fail
 have C:=sortStable_any w1 g 0 c1 (tagged xs) R0.o (fun p hp=>qV) xt
 rw [tagged_size] at C
 refine C.mono ?_
 clear C
 rintro e w2 ⟨rfl,d',hd,S⟩
 have hl:d'.size=xs.length:=by rw [hd.1.1,tagged_size]
 have hl2:(d'.toList.map Prod.fst).length=xs.length:=xr
 have F:Aside (OpsAt w2 (.slice (some ⟨g,0,none⟩) xs.length c1) (d'.toList.map Prod.fst)/\StableOf xs (d'.toList.map Prod.fst)/\Below w.heap.size w w2):=
  ⟨.inr ⟨g,0,c1,by rw [hl2],fun j u hj=>sorted_at R0.o xD S j u hj⟩,⟨d',hd,rfl⟩,below_sorted HB.o hg HB.o.size S⟩
 clear hd S R0 HB hl hl2
 go_wp2
 go_ret
 exact ⟨_,_,rfl,F.o.1,F.o.2.1,F.o.2.2,fun g' hg'=>by cases hg';exact hg⟩
end
section
open Go.Shelf Go.RowKit Go.Lib Go.Sort
theorem permIn_list (h:PermIn 0 d.size d d'):d.toList.Perm d'.toList:=by
 have h2:=h.2.2
 have e:d'.size=d.size:=h.1
 have e1:d'.toList.take d.size=d'.toList:=by rw [<-e,<-vE,jX]
 have e2:d.toList.take d.size=d.toList:=by rw [<-vE,jX]
 first
  | simpa using h2
  | (simp at h2;rw [e1] at h2;exact h2)
  | (simp at h2;rw [e1] at h2;exact h2.symm)
end
section
open Go.Shelf Go.RowKit Go.Lib Go.Sort
theorem ownOps_any (w:World) (v:Value) (xs:List OpX) (h:OpsAt w v xs) (hn:xs.length<=1000):
  Calls prog 11 #[v] w fun e w'=>∃v',e= .returned v'/\OpsAt w' v' xs/\Below w.heap.size w w':=by
 rcases h with ⟨rfl,rfl⟩ | ⟨blk,off,cap,rfl,hc⟩
 ·go_enter func11,ntmps11
  go_wp2
  go_ret
  exact ⟨_,rfl,.inl ⟨rfl,rfl⟩,jo _ _⟩
 obtain ⟨i0,hi,hz0,hz1,hz2⟩:=info_parts infoOp
 have A:Aside (∀j u,(cellsOf xs)[j]? =some u->w.cell? ⟨blk,off+j,none⟩=some u):=hc
 clear hc
 go_enter func11,ntmps11
 go_wp2_with (at_builtin;refine wpList_append_own _ rfl _ _ 32 rfl w.heap.size 38 i0 _ 8 80 underlying32 hi hz0 hz1 hz2 rfl zi _ _ _ rfl (jQ w _ _ _) ⟨blk,off,none⟩ xs.length cap (cellsOf xs) rfl ?qc1 ?qc2 ?qc3 ?qc4 ?qc5 ?qc6 ?_)
 case qc1=>exact cellsOf_len xs
 case qc2=>
  intro j u hj
  rw [Addr.add_lit]
  exact A.o j u hj
 case qc3=>exact cellsOf_one xs
 case qc4=>rw [jt];simp only [maxLen];omega
 case qc5=>rw [jt];omega
 case qc6=>simp
 intro v' w1 hown hgrow hnil
 have F:Aside (OpsAt w1 v' xs/\Below w.heap.size w w1):=⟨ownsOps qr,(jo _ w).grown hgrow ze zL⟩
 clear hown hgrow hnil A
 go_wp2
 go_ret
 exact ⟨v',rfl,F.o.1,F.o.2⟩
end
section
open Go.Shelf Go.RowKit Go.Lib Go.Sort
end
section
open Go.Shelf Go.RowKit Go.Lib Go.Sort
end
section
open Go.Shelf Go.RowKit Go.Lib Go.Sort
end
section
open Go.Shelf Go.RowKit Go.Lib Go.Sort
end
section
open Go.Shelf Go.RowKit Go.Lib Go.Sort
def InsOf (xs:List OpX) (i:Nat) (ys:List OpX):Prop:=∃D:List (OpX×Nat),D.Perm (xs.take i).zipIdx/\D.Pairwise (fun u v=>slt ltX v u=false)/\ys=D.map Prod.fst
theorem InsOf.zero (xs:List OpX):InsOf xs 0 []:=⟨[],zm,List.Pairwise.nil,rfl⟩
theorem InsOf.len (h:InsOf xs i ys) (hi:i<=xs.length):ys.length=i:=by
 obtain ⟨D,hp,_,rfl⟩:=h
 rw [jG,hp.length_eq,List.length_zipIdx,jz]
 omega
theorem InsOf.next (h:InsOf xs i ys) (hi:i<xs.length) (hk:k<=ys.length) (h1:0<k->ltX xs[i]! ys[k - 1]! =false) (h2:∀p,k<=p->p<ys.length->ltX xs[i]! ys[p]! =true):
  InsOf xs (i+1) (ys.take k++xs[i]! ::ys.drop k):=by
 obtain ⟨D,hp,hs,rfl⟩:=h
 rw [jG] at hk h2
 refine ⟨D.take k++(xs[i]!,i)::D.drop k,?_,?_,zm⟩
 ·have e:(xs.take (i+1)).zipIdx=(xs.take i).zipIdx++ [(xs[i]!,i)]:=by
   rw [jL,ji hi,getElem!_pos xs i hi,List.zipIdx_append]
   simp
   omega
  rw [e]
  refine (uB.trans ?_)
  rw [jH]
  exact (List.Perm.cons _ hp).trans (List.perm_append_singleton _ _).symm
 refine pair_ins ltX_swo D (xs[i]!,i) k hk hs ?_ ?_ ?_
 ·intro u hu
  have:=hp.mem_iff.1 hu
  obtain ⟨a,n⟩:=u
  rw [List.mem_zipIdx_iff_getElem?] at this
  have h3:=(jh.1 this).1
  rw [jz] at h3
  show n<i
  omega
 ·intro u hu hk0
  have h3:=h1 hk0
  have h4:=(jh.1 hu).1
  rw [getElem!_pos (D.map Prod.fst) (k - 1) (by rw [jG];exact h4)] at h3
  rw [<-(jh.1 hu).2]
  simpa using h3
 intro u hu
 obtain ⟨p,hp1,rfl⟩:=vQ.1 hu
 rw [jT] at hp1
 have h3:=h2 (k+p) zi zi
 rw [getElem!_pos (D.map Prod.fst) (k+p) yo] at h3
 simpa using h3
theorem InsOf.all (h:InsOf xs xs.length ys):StableOf xs ys:=by
 obtain ⟨D,hp,hs,rfl⟩:=h
 rw [jX] at hp
 have hl:D.length=xs.length:=by rw [hp.length_eq,List.length_zipIdx]
 refine ⟨D.toArray,⟨⟨by rw [tagged_size];simpa using hl,?_,?_⟩,?_⟩,zm⟩
 ·intro j hj
  have h1:¬j<D.toArray.size:=zk
  have h2:¬j<(tagged xs).size:=xt
  rw [getElem!_neg D.toArray j h1,getElem!_neg (tagged xs) j h2]
 ·have e1:(D.toArray.extract 0 xs.length).toList=D:=by simp [<-hl]
  have e2:((tagged xs).extract 0 xs.length).toList=xs.zipIdx:=by simp [tagged];exact jJ zm
  rw [e1,e2]
  exact hp
 intro a b _ hab hb
 have h:=jF.1 hs a b zi zi hab
 rw [getElem!_pos D.toArray a zk,getElem!_pos D.toArray b zk]
 simpa using h
end
section
open Go.Shelf Go.RowKit Go.Lib Go.Sort
theorem isLess_grow (t b t' b':Int) (w:World):
  Calls prog 57 #[.agg #[.int .i64 t,.int .i64 b],.agg #[.int .i64 t',.int .i64 b']] w fun e w'=>e= .returned (.bool (lessB t b t' b'))/\∃q os,w'=grow (w.drewN q) os:=by
 unfold lessB
 by_cases h:t=t'
 ·have hl:decide (t<t')=false:=by simp;omega
  have hd:(t==t')=true:=by simp [h]
  rw [if_pos h]
  clear h
  go_enter func57,ntmps57
  go_wp2
  go_ret
  exact ⟨rfl,0,_,zH⟩
 by_cases hlt:t<t'
 ·have hl:decide (t<t')=true:=by simp;omega
  rw [if_neg h,hl]
  clear h
  go_enter func57,ntmps57
  go_wp2
  go_ret
  exact ⟨rfl,0,_,zH⟩
 have hl:decide (t<t')=false:=zk
 have hd:(t==t')=false:=by simp [h]
 rw [if_neg h,hl]
 clear h
 go_enter func57,ntmps57
 go_wp2
 go_ret
 exact ⟨rfl,0,_,zH⟩
theorem isLess_is (t b t' b':Int) (z:Bool) (w:World) (hz:lessB t b t' b'=z):
  Calls prog 57 #[.agg #[.int .i64 t,.int .i64 b],.agg #[.int .i64 t',.int .i64 b']] w fun e w'=>e= .returned (.bool z)/\∃q os,w'=grow (w.drewN q) os:=by rw [<-hz];exact isLess_grow t b t' b' w
def Four (u:World) (g1 p1 g2 p2:Nat) (t b t' b':Int) (w':World):Prop:=w'.cell? ⟨g1,p1,none⟩=some (.int .i64 t)/\w'.cell? ⟨g1,p1+1,none⟩=some (.int .i64 b)/\w'.cell? ⟨g2,p2,none⟩=some (.int .i64 t')/\w'.cell? ⟨g2,p2+1,none⟩=some (.int .i64 b')/\Below u.heap.size u w'
theorem Four.later {u:World} {g1 p1 g2 p2:Nat} {t b t' b':Int} (h:Four u g1 p1 g2 p2 t b t' b' w) (hb:Below w.heap.size w w'):Four u g1 p1 g2 p2 t b t' b' w':=
 ⟨cellKept hb h.1,cellKept hb h.2.1,cellKept hb h.2.2.1,cellKept hb h.2.2.2.1,zh h.2.2.2.2 hb⟩
def OutAt (w:World) (v:Value) (ys:List OpX):Prop:=
 (v= .slice none 0 0/\ys= [])\/∃g o c,v= .slice (some ⟨g,o,none⟩) ys.length c/\ys.length<=c/\∀j u,(cellsOf ys)[j]? =some u->w.cell? ⟨g,o+j,none⟩=some u
theorem OutAt.ops (h:OutAt w v ys):OpsAt w v ys:=by
 rcases h with h | ⟨g,o,c,h1,_,h2⟩
 ·exact .inl h
 exact .inr ⟨g,o,c,h1,h2⟩
theorem ownsOut {base:Nat} {cs:List Value} (h:w.ownsRow base 38 8 v n cs) (hn:n=ys.length) (hc:cs=cellsOf ys):OutAt w v ys:=by
 subst hn hc
 have h':=h
 rcases h.2 with ⟨h1,h2⟩ | ⟨g,cap,cur,rfl,_,_,hr,_⟩
 ·exact .inl ⟨h1,jC.1 h2⟩
 refine .inr ⟨g,0,cap,rfl,hr,fun j u hj=> ?_⟩
 have hl:j<(cellsOf ys).length:=(jh.1 hj).1
 rw [cellsOf_len] at hl
 rw [jt,h'.cellAt j hl,hj]
theorem cellsOf_ins (ys:List OpX) (k:Nat) (x:OpX):cellsOf (ys.take k)++encX x++cellsOf (ys.drop k)=cellsOf (ys.take k++x::ys.drop k):=by
 rw [cellsOf_app,cellsOf_cons,jR]
theorem take_cells (k:Nat) (h:∀j u,(cellsOf ys)[j]? =some u->w.cell? ⟨g,o+j,none⟩=some u) (j:Nat) (u:Value) (hj:(cellsOf (ys.take k))[j]? =some u):w.cell? ((⟨g,o,none⟩:Addr).add j)=some u:=by
 rw [Addr.add_lit]
 refine h j u ?_
 have e:cellsOf ys=cellsOf (ys.take k)++cellsOf (ys.drop k):=yP
 rw [e,vD (jh.1 hj).1]
 exact hj
theorem drop_cells (k:Nat) (hk:k<=ys.length) (h:∀j u,(cellsOf ys)[j]? =some u->w.cell? ⟨g,o+j,none⟩=some u) (j:Nat) (u:Value) (hj:(cellsOf (ys.drop k))[j]? =some u):w.cell? ((⟨g,o+k*8,none⟩:Addr).add j)=some u:=by
 rw [Addr.add_lit,vG]
 refine h _ u ?_
 have e:cellsOf ys=cellsOf (ys.take k)++cellsOf (ys.drop k):=yP
 have hl:(cellsOf (ys.take k)).length=k*8:=by rw [cellsOf_len,jz];congr 1;omega
 rw [e,uz zi,hl,Nat.add_sub_cancel_left]
 exact hj
theorem cell_grows {p:Nat} (h:w.cell? ⟨g,p,none⟩=some v) (q:Nat) (os:Array Obj):(grow (w.drewN q) os).cell? ⟨g,p,none⟩=some v:=
 cellKept (below_grow ⟨rfl,rfl,rfl,jj _,fun _ _=>rfl⟩ ze) h
theorem sortedOf_zero (ao:Option Addr) (cap:Nat) (w:World):
  Calls prog 59 #[.slice ao 0 cap] w fun e w'=>e= .returned (.slice none 0 0)/\w'=w:=by
 go_enter func59,ntmps59
 go_wp2
 refine wp_loop_rounds 1 ?_
 rw [rounds_succ]
 go_wp2
 go_ret
 exact ⟨rfl,rfl⟩
