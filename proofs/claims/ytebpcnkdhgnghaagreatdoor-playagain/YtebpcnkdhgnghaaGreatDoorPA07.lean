import Derived.Test.YtebpcnkdhgnghaaGreatDoorPA01
import Derived.Test.YtebpcnkdhgnghaaGreatDoorPA02
import Derived.Test.YtebpcnkdhgnghaaGreatDoorPA04
import Derived.Deep.RegionHeld3
import Derived.Lib.AppendZeros
set_option linter.unusedSimpArgs false
set_option linter.unusedVariables false
set_option maxRecDepth 100000
set_option maxHeartbeats 64000000
namespace Go.Proofs.YtebpcnkdhgnghaaGreatDoor
open Go.Proofs.Tryz
variable {B:List UInt8} {b cap g n:Nat} {p:Plc} {v:Value} {w w':World}
section
open Go.RowKit Go.Maps
def PlcAt (w:World) (b:Nat) (p:Plc):Prop:=w.heap[b]? =some (.cells #[.int .i64 p.1,.int .i64 p.2.1,.string p.2.2] 119 (0,0))
theorem PlcAt.lt (h:PlcAt w b p):b<w.heap.size:=(jJ.1 h).1
theorem PlcAt.c0 (h:PlcAt w b p):w.cell? ⟨b,0,none⟩=some (.int .i64 p.1):=yZ
theorem PlcAt.c1 (h:PlcAt w b p):w.cell? ⟨b,1,none⟩=some (.int .i64 p.2.1):=yZ
theorem PlcAt.c2 (h:PlcAt w b p):w.cell? ⟨b,2,none⟩=some (.string p.2.2):=yZ
theorem PlcAt.fz (h:PlcAt w b p) (o:Nat):w.frozen? ⟨b,o,none⟩=false:=by unfold PlcAt at h;simp [World.frozen?,h]
theorem PlcAt.same (h:PlcAt w b p) (e:w'.heap[b]? =w.heap[b]?):PlcAt w' b p:=e.trans h
theorem PlcAt.stored (h:PlcAt w b p) (q:Plc):PlcAt (((w.setCell ⟨b,0,none⟩ (.int .i64 q.1)).setCell ⟨b,1,none⟩ (.int .i64 q.2.1)).setCell ⟨b,2,none⟩ (.string q.2.2)) b q:=by
 have h0:=heap_setCell_same w b 0 _ _ (.int .i64 q.1) h
 have h1:=heap_setCell_same _ b 1 _ _ (.int .i64 q.2.1) h0
 exact heap_setCell_same _ b 2 _ _ (.string q.2.2) h1
theorem PlcAt.storedBelow {B:Nat} (q:Plc) (h:Below B w w') (hb:B<=b):Below B w (((w'.setCell ⟨b,0,none⟩ (.int .i64 q.1)).setCell ⟨b,1,none⟩ (.int .i64 q.2.1)).setCell ⟨b,2,none⟩ (.string q.2.2)):=
 ((h.setCell (p:=⟨b,0,none⟩) hb _).setCell (p:=⟨b,1,none⟩) hb _).setCell (p:=⟨b,2,none⟩) hb _
theorem MapAt.below {f:Sta} (h:MapAt prog 3 w b n f) {B:Nat} (hb:Below B w w') (hB:b<B):MapAt prog 3 w' b n f:=h.same (hb.block b hB)
theorem lB (w:World) (bt bm n:Nat) (f:Sta) (node of:Int) (z:Bool) (hz:z=true↔Ins f node of) (ht:w.cell? ⟨bt,0,none⟩=some (.map (some bm))) (hm:MapAt prog 3 w bm n f) (G:ko f) (hk:Wf node):
  Calls prog 261 #[.pointer (some ⟨bt,0,none⟩),.int .i64 node,.int .i64 of] w fun e w'=>e= .returned (.bool z)/\Below w.heap.size w w':=by
 have hbt:bt<w.heap.size:=block_lt_of_cell ht
 obtain ⟨d,hd⟩:=G.rank
 have hl:=hm.looks hk
 unfold kA at hl
 go_enter func261,ntmps261
 go_wp2
 obtain ⟨w0,hw0⟩:=za (w.alloc (.cells #[.int .i64 ((f node).getD cZ).1,.int .i64 ((f node).getD cZ).2.1,.string ((f node).getD cZ).2.2] 119))
 have hp0:PlcAt w0 w.heap.size ((f node).getD cZ):=by rw [hw0];exact heap_alloc_new w _
 have hb0:Below w.heap.size w w0:=by rw [hw0];exact zh w _
 rw [<-hw0]
 clear hw0 hl
 go_loopg [7,8] (d node+1) (fun kx s7 s8 wr=>∃(b7:Nat) (cur:Int),s7= .pointer (some ⟨b7,0,none⟩)/\s8= .bool (f cur).isSome/\w.heap.size<=b7/\PlcAt wr b7 ((f cur).getD cZ)/\Wf cur/\(Ins f cur of↔Ins f node of)/\Below w.heap.size w wr/\(∀p,f cur=some p->d cur<kx))
 case atStart=>exact ⟨w.heap.size,node,rfl,rfl,jL _,hp0,hk,Iff.rfl,hb0,fun _ _=>Nat.lt_succ_self _⟩
 case round=>
  obtain ⟨b7,cur,rfl,rfl,hb7,hp,hkc,hi,hb,hkx⟩:=hrel
  clear hp0 hb0 w0
  have ht1:=(hb.cell (p:=⟨bt,0,none⟩) hbt).trans ht
  have hm1:=hm.below hb hm.lt
  cases hf:f cur with
  | none=>
   have hno:z=false:=by
    cases z with
    | false=>rfl
    | true=>exact absurd (hi.2 (hz.1 rfl)) (AK hf)
   subst hno
   rw [hf] at hp
   simp only [uT]
   go_wp2
   go_ret
   exact ⟨rfl,hb⟩
  | some p=>
   rw [hf] at hp
   simp only [uU]
   have hc1:wr.cell? ⟨b7,1,none⟩=some (.int .i64 p.2.1):=hp.c1
   by_cases he:p.2.1=of
   ·have hyes:z=true:=hz.2 (hi.1 ((oC hf).2 (.inl he)))
    subst hyes
    have q0:decide (p.2.1=of)=true:=decide_eq_true he
    go_wp2
    go_ret
    exact ⟨rfl,hb⟩
   have q0:decide (p.2.1=of)=false:=decide_eq_false he
   have hkn:Wf p.2.1:=(il (G.fine cur p hf)).2
   have hc0:=hp.c0
   have hc2:=hp.c2
   go_wp2
   obtain ⟨w1,hw1⟩:=za (wr.alloc (.cells #[.int .i64 p.1,.int .i64 p.2.1,.string p.2.2] 119))
   have hp1:PlcAt w1 wr.heap.size p:=by rw [hw1];exact heap_alloc_new wr _
   have hb1:Below w.heap.size w w1:=by rw [hw1];exact hb.alloc hb.size _
   have hs1:w.heap.size<=wr.heap.size:=hb.size
   rw [<-hw1]
   obtain ⟨b8,hb8⟩:=za wr.heap.size
   rw [<-hb8] at hp1 hs1 |-
   have ht2:=(hb1.cell (p:=⟨bt,0,none⟩) hbt).trans ht
   have hm2:=hm.below hb1 hm.lt
   have hl2:=hm2.looks hkn
   have hl3:=(show MapAt prog 3 w1.drew bm n f from hm2).looks hkn
   unfold kA at hl2 hl3
   have d0:=hp1.c0
   have d1:=hp1.c1
   have d2:=hp1.c2
   have z0:=hp1.fz 0
   have z1:=hp1.fz 1
   have z2:=hp1.fz 2
   have F:Aside (PlcAt w1 b8 p/\Below w.heap.size w w1/\w.heap.size<=b8/\Wf p.2.1):=⟨hp1,hb1,hs1,hkn⟩
   clear hp hc0 hc1 hc2 hp1 hb1 hm2 hm1 ht1 hw1 hb8 hs1 hkn
   go_region
   go_wp2
   go_roundg (d cur)
   case measure=>exact hkx p hf
   case rel=>exact ⟨b8,p.2.1,rfl,rfl,F.o.2.2.1,F.o.1.stored _,F.o.2.2.2,(by rw [<-hi,oC hf];exact ⟨.inr,fun h=>h.resolve_left he⟩),(PlcAt.storedBelow _ F.o.2.1 F.o.2.2.1).drew,fun _ _=>hd cur p hf⟩
end
section
open Go.RowKit
theorem infoByte:(prog.info? 5).map (fun i=>(i.zero,i.size,i.bytes))=some (some (.int .u8 0),1,1):=zk
def ct (l:List UInt8):List Value:=l.map fun c=>.int .u8 (c.toNat:Int)
theorem Ji (x:Int) (w:World) (h0:0<=x) (h1:x<16):(Instr.index 9 (.string ⟨#[48,49,50,51,52,53,54,55,56,57,97,98,99,100,101,102]⟩) (.int .u8 x)).run prog w= .ok (.int .u8 ((iF x.toNat).toNat:Int)) w:=by
 rcases (show x=0\/x=1\/x=2\/x=3\/x=4\/x=5\/x=6\/x=7\/x=8\/x=9\/x=10\/x=11\/x=12\/x=13\/x=14\/x=15 by omega) with rfl | rfl | rfl | rfl | rfl | rfl | rfl | rfl | rfl | rfl | rfl | rfl | rfl | rfl | rfl | rfl
 all_goals kernel_rfl
theorem Ol:∀c:Fin 256,bits .and .u8 (c.1:Int) 15=((c.1 % 16:Nat):Int):=yI
theorem PZ:∀x y:Fin 16,bits .or .i64 ((16*x.1:Nat):Int) (y.1:Int)=((16*x.1+y.1:Nat):Int):=yI
theorem Kj (c:UInt8) (w:World):(Instr.index 9 (.string ⟨#[48,49,50,51,52,53,54,55,56,57,97,98,99,100,101,102]⟩) (.int .u8 ((c.toNat:Int) / 16))).run prog w= .ok (.int .u8 ((iF (c.toNat / 16)).toNat:Int)) w:=by
 have:=c.toNat_lt
 have e:=Ji ((c.toNat:Int) / 16) w zj zj
 rw [show ((c.toNat:Int) / 16).toNat=c.toNat / 16 by omega] at e
 exact e
theorem NL (c:UInt8) (w:World):(Instr.index 9 (.string ⟨#[48,49,50,51,52,53,54,55,56,57,97,98,99,100,101,102]⟩) (.int .u8 (bits .and .u8 (c.toNat:Int) 15))).run prog w= .ok (.int .u8 ((iF (c.toNat % 16)).toNat:Int)) w:=by
 have:=c.toNat_lt
 have e:=Ji ((c.toNat % 16:Nat):Int) w zj zj
 have e2:=Ol ⟨c.toNat,this⟩
 simp only at e2
 rw [e2]
 exact e
theorem dP (a b:List UInt8):ct (a++b)=ct a++ct b:=xV
theorem AT {base:Nat} {l:List UInt8} (h:w.ownsRow base 5 1 v n (ct l)) (hl:l.length=n):
  Sem.run prog (convert 184 9 v) w= .ok (.string ⟨l.toArray⟩) w:=by
 rcases Nat.eq_zero_or_pos n with h0 | h0
 ·have hl0:l= []:=ve.1 zj
  subst hl0
  rcases h.2 with ⟨hv,_⟩ | ⟨g,cap,cur,hv,_⟩
  ·exact kj9
  exact ki3
 obtain ⟨g,cap,rfl,-,-⟩:=h.form h0
 have hc:=h.cells (g:=g) rfl
 subst hl
 refine run_convert_bytes_back w _ _ _ _ _ l underlying184 underlying5 underlying9 (fun j hj=> ?_)
 refine hc j _ ?_
 simp [ct,jK hj]
theorem JK (s:ByteArray) (k:Nat) (h:k<s.size) (done R:List UInt8) (hd:done++lW (s.data.toList.drop k)=R):(done++ [iF (s[k].toNat / 16),iF (s[k].toNat % 16)])++lW (s.data.toList.drop (k+1))=R:=by
 rw [fI s k h] at hd
 simpa [lW] using hd
theorem tM (s:ByteArray) (w:World) (hs:s.size<=1000000):
  Calls prog 271 #[.string s] w fun e w'=>e= .returned (.string ⟨(lW s.data.toList).toArray⟩)/\Below w.heap.size w w':=by
 obtain ⟨i0,hi,hz0,hz1,hz2⟩:=info_parts infoByte
 generalize hR:lW s.data.toList=R
 have HR:=Lib.hid hR
 clear hR
 go_enter func271,ntmps271
 go_wp2_with (at_make;refine wpList_make_own _ rfl _ _ 184 rfl w.heap.size 5 i0 (.int .u8 0) 1 underlying184 hi hz0 hz1 .i64 .i64 _ (2*s.size) rfl rfl zj (by rw [hz2];omega) yA zg ?_;intro w0 hown0 hgrow0)
 go_loopw [3,11] (fun v i wr=>∃(k n:Nat) (done:List UInt8),k<=s.size/\n=2*k/\done.length=n/\i= .int .i64 (k:Nat)/\wr.ownsRow w.heap.size 5 1 v n (ct done)/\Below w.heap.size w wr/\Hid (done++lW (s.data.toList.drop k)=R)) (fun _ i _=>s.size - (intOf i).toNat)
 case atStart=>exact ⟨0,0,[],jX _,rfl,rfl,rfl,hown0,(jN _ _).grown hgrow0 zg (fun k hk=>by simp at hk),Lib.hid yT⟩
 case round=>
  obtain ⟨k,n,done,hk,rfl,hdl,rfl,hown,hB,HD⟩:=hrel
  clear hown0 hgrow0
  by_cases hlt:k<s.size
  ·have hdt:decide ((k:Int)<(s.size:Int))=true:=by simp;omega
   have HE:=Lib.hid (JK s k hlt done R HD.o)
   have HL:=Lib.hid hdl
   have x1:=Kj s[k]
   have x2:=NL s[k]
   have hzB:=hB.size
   clear HD
   generalize hc1:iF (s[k].toNat / 16)=c1 at x1 HE
   generalize hc2:iF (s[k].toNat % 16)=c2 at x2 HE
   clear hc1 hc2
   go_wp2_with fail
   go_region_held3 (fun _=>True) (trivial)
    ((refine step_append_lies _ zt _ _ _ zt w.heap.size 5 i0 _ 1 1 underlying184 hi hz0 hz1 hz2 rfl zj _ (2*k) (ct done) zt ((hown.alloc _).drew) ⟨wr.heap.size,0,none⟩ 2 2 [.int .u8 (c1.toNat:Int),.int .u8 (c2.toNat:Int)] zt zt (ui (cs:= #[.int .u8 (c1.toNat:Int),.int .u8 (c2.toNat:Int)]) (t:=5) (fr:=(0,0)) (heap_alloc_new wr _)) qt zj yA zj zl (wr.heap.size+1) zq ?_;intro gg cap w1 hown1 hgrow hat hlt1))
   all_goals go_wp2
   all_goals
    refine ⟨⟨k+1,2*(k+1),done++ [c1,c2],zj,rfl,by have:=HL.o;simp;omega,zI,by rw [dP];exact hown1,(hB.alloc hB.size _).drew.grown hgrow zl (fun k hk=>(hown.lt k hk).1),HE⟩,?_⟩
    simp [intOf]
    omega
  have hdl':decide ((k:Int)<(s.size:Int))=false:=zl
  have HE:Hid (R=done):=Lib.hid (by have:=HD.o;rw [show k=s.size by omega,mP] at this;simpa [lW] using this.symm)
  have hcv:=AT hown hdl
  go_wp2
  go_ret
  exact ⟨by rw [HE.o];rfl,hB⟩
def Cb (c:UInt8):Int:=match Ch c with
 | none=> -1
 | some x=>(x:Int)
theorem GI:∀c:Fin 256,Lib.indexByte [48,49,50,51,52,53,54,55,56,57,97,98,99,100,101,102] (UInt8.ofNat c.1)=Cb (UInt8.ofNat c.1):=yI
theorem Lk (c:UInt8) (w:World):Calls prog 369 #[.string ⟨#[48,49,50,51,52,53,54,55,56,57,97,98,99,100,101,102]⟩,.int .u8 (c.toNat:Int)] w fun e w'=>e= .returned (.int .i64 (Cb c))/\w'=w:=by
 have h:=Tryz.strings_IndexByte ⟨#[48,49,50,51,52,53,54,55,56,57,97,98,99,100,101,102]⟩ (c.toNat:Int) w
 have e:=GI ⟨c.toNat,c.toNat_lt⟩
 simp only [UInt8.ofNat_toNat] at e
 have e2:((c.toNat:Int).toNat).toUInt8=c:=zq
 rw [e2] at h
 have e3:(⟨#[48,49,50,51,52,53,54,55,56,57,97,98,99,100,101,102]⟩:ByteArray).data.toList= [48,49,50,51,52,53,54,55,56,57,97,98,99,100,101,102]:=rfl
 rw [e3,e] at h
 exact h
theorem AZ (c:UInt8) (z:Int) (w:World) (hz:Cb c=z):Calls prog 369 #[.string ⟨#[48,49,50,51,52,53,54,55,56,57,97,98,99,100,101,102]⟩,.int .u8 (c.toNat:Int)] w fun e w'=>e= .returned (.int .i64 z)/\w'=w:=by rw [<-hz];exact Lk c w
theorem GL (s:ByteArray) (k:Nat) (h:k+1<s.size):s.data.toList.drop k=s[k]::s[k+1]::s.data.toList.drop (k+2):=by
 rw [fI s k zj,fI s (k+1) h]
theorem Kp (x y:Nat) (hx:x<16) (hy:y<16):bits .or .i64 ((x:Int)*16) (y:Int)=((16*x+y:Nat):Int):=by
 have:=PZ ⟨x,hx⟩ ⟨y,hy⟩
 simp only at this
 rw [show ((16*x:Nat):Int)=(x:Int)*16 by omega] at this
 exact this
theorem lg {B:Nat} {v:World} (h:Below B w v) (n:Nat):Below B w (v.drewN n):=h.trans ⟨rfl,rfl,rfl,jL _,fun _ _=>rfl⟩
theorem sW (s:ByteArray) (w:World) (hs:s.size<=1000000) (h2:s.size % 2=0):
  Calls prog 363 #[.string s] w fun e w'=>e= .returned (.tuple #[.string ⟨((bK s.data.toList).getD []).toArray⟩,.bool (bK s.data.toList).isSome])/\Below w.heap.size w w':=by
 obtain ⟨i0,hi,hz0,hz1,hz2⟩:=info_parts infoByte
 generalize hR:bK s.data.toList=R
 have HR:=Lib.hid hR
 clear hR
 have e2:((s.size:Int) % 2 !=0)=false:=zl
 go_enter func363,ntmps363
 go_wp2_with (at_make;refine wpList_make_own _ rfl _ _ 184 rfl w.heap.size 5 i0 (.int .u8 0) 1 underlying184 hi hz0 hz1 .i64 .i64 _ (s.size / 2) rfl rfl zj (by rw [hz2];omega) yA zg ?_;intro w0 hown0 hgrow0)
 clear e2
 go_loopw [4,5] (fun v i wr=>∃(k n:Nat) (done:List UInt8),k<=s.size/\k=2*n/\done.length=n/\i= .int .i64 (k:Nat)/\wr.ownsRow w.heap.size 5 1 v n (ct done)/\Below w.heap.size w wr/\Hid ((bK (s.data.toList.drop k)).map (done++ ·)=R)) (fun _ i _=>s.size - (intOf i).toNat)
 case atStart=>exact ⟨0,0,[],jX _,rfl,rfl,rfl,hown0,(jN _ _).grown hgrow0 zg (fun k hk=>by simp at hk),Lib.hid (by rw [<-HR.o];simp)⟩
 case round=>
  obtain ⟨k,n,done,hk,hkn,hdl,rfl,hown,hB,HD⟩:=hrel
  have HK:=Lib.hid hkn
  have HL:=Lib.hid hdl
  clear hown0 hgrow0 HR hdl
  by_cases hlt:k<s.size
  ·have hlt1:k+1<s.size:=by omega
   clear hkn
   have hdt:decide ((k:Int)<(s.size:Int))=true:=zl
   have ea:IntKind.i64.wrap ((k:Int)+1)=(k:Int)+1:=zr
   have eb:(0:Int)<=(k:Int)+1:=zj
   have ec:(k:Int)+1<(s.size:Int):=zj
   have ed:((k:Int)+1).toNat=k+1:=zj
   have HU:Hid ((bK (s[k]::s[k+1]::s.data.toList.drop (k+2))).map (done++ ·)=R):=Lib.hid (by rw [<-GL s k hlt1];exact HD.o)
   clear HD
   cases hx:Ch s[k] with
   | none=>
    have HE:Hid (R=none):=Lib.hid (by have:=HU.o;simp only [bK,hx,Option.map_none] at this;exact this.symm)
    have z1:Cb s[k]= -1:=by unfold Cb;rw [hx]
    obtain ⟨y,hy⟩:∃y,Cb s[k+1]=y:=⟨_,rfl⟩
    have HX:=Lib.hid hx
    have HZ:=Lib.hid (And.intro z1 hy)
    clear hx z1 hy
    exact kf0
   | some x=>
    have hx16:=lm _ _ hx
    have z1:Cb s[k]=(x:Int):=by unfold Cb;rw [hx]
    cases hy:Ch s[k+1] with
    | none=>
     have HE:Hid (R=none):=Lib.hid (by have:=HU.o;simp only [bK,hx,hy,Option.map_none] at this;exact this.symm)
     have z2:Cb s[k+1]= -1:=by unfold Cb;rw [hy]
     have HZ:=Lib.hid (And.intro z1 z2)
     clear hx hy z1 z2
     exact kf0
    | some y=>
     have hy16:=lm _ _ hy
     have z2:Cb s[k+1]=(y:Int):=by unfold Cb;rw [hy]
     have HE:Hid ((bK (s.data.toList.drop (k+2))).map ((done++ [UInt8.ofNat (16*x+y)])++ ·)=R):=Lib.hid (by
      have:=HU.o
      simp only [bK,hx,hy,Option.map_map] at this
      rw [<-this]
      congr 1
      funext l
      simp)
     have HZ:=Lib.hid (And.intro z1 z2)
     have hor:=Kp x y hx16 hy16
     obtain ⟨c,hc⟩:∃c:UInt8,UInt8.ofNat (16*x+y)=c:=⟨_,rfl⟩
     have hcn:((16*x+y:Nat):Int)=(c.toNat:Int):=by rw [<-hc];simp;omega
     rw [hcn] at hor
     rw [hc] at HE
     have hc256:=c.toNat_lt
     clear hx hy z1 z2 HU hc hcn
     go_wp2_with fail
     go_quiet (first | (go_at_call 369;first | exact Calls.quiet_of_same (AZ _ _ _ HZ.o.1) | exact Calls.quiet_of_same (AZ _ _ _ HZ.o.2)))
     have hownq:(wr.drewN nq).ownsRow w.heap.size 5 1 _ n (ct done):=hown
     have hBq:=lg hB nq
     generalize wr.drewN nq=wq at hownq hBq |-
     clear hown hB
     have hzB:=hBq.size
     have hn5:n<=500000:=xb
     go_wp2_with (at_builtin;refine wpList_append_own _ rfl _ _ 184 rfl w.heap.size 5 i0 (.int .u8 0) 1 1 underlying184 hi hz0 hz1 hz2 rfl zo _ _ _ rfl (hownq.alloc _) _ 1 1 [.int .u8 (c.toNat:Int)] rfl rfl (cell_one_new _ _ _) (by intro u hu;simp at hu;subst hu;rfl) yA zj zl ?_;intro v' w5 hown5 hgrow5 _)
     refine ⟨⟨k+2,n+1,done++ [c],zj,xb,by have:=HL.o;simp;omega,zI,by rw [dP];exact hown5,(hBq.alloc hzB _).grown hgrow5 zl (fun k hk=>(hownq.lt k hk).1),HE⟩,?_⟩
     simp [intOf]
     omega
  have hdt:decide ((k:Int)<(s.size:Int))=false:=zl
  have HE:Hid (R=some done):=Lib.hid (by have:=HD.o;rw [show k=s.size by omega,mP] at this;simpa [bK] using this.symm)
  have hcv:=AT hown HL.o
  go_wp2
  go_ret2
  exact ⟨by rw [HE.o];rfl,hB⟩
theorem mC (s:ByteArray) (w:World) (hs:s.size<=1000000):
  Calls prog 363 #[.string s] w fun e w'=>e= .returned (.tuple #[.string ⟨((bK s.data.toList).getD []).toArray⟩,.bool (bK s.data.toList).isSome])/\Below w.heap.size w w':=by
 by_cases h2:s.size % 2=0
 ·exact sW s w hs h2
 have e2:((s.size:Int) % 2 !=0)=true:=zl
 rw [Fl s.data.toList.length s.data.toList rfl zl]
 go_enter func363,ntmps363
 go_wp2
 go_ret2
 exact ⟨rfl,jN _ _⟩
end
section
open Go Go.RowKit Go.Lib Go.Sort
def RowB (w:World) (v:Value) (B:List UInt8):Prop:=∃(g cap:Nat) (cur:Array Value) (fr:Nat×Nat),v= .slice (some ⟨g,0,none⟩) B.length cap/\w.heap[g]? =some (.cells cur 5 fr)/\(fr=(0,0)\/cur.size<=fr.1)/\B.length<=cap/\cap<=maxLen/\cur.size=cap/\cur.toList.take B.length=ct B
theorem ng (B:List UInt8):(ct B).length=B.length:=xV
theorem RowB.lt (h:RowB w v B) (hg:v.ownBlock=some g):g<w.heap.size:=by
 obtain ⟨g',cap,cur,fr,rfl,h1,_⟩:=h
 cases hg
 exact (jJ.1 h1).1
theorem RowB.same (h:RowB w v B) (e:∀g,v.ownBlock=some g->w'.heap[g]? =w.heap[g]?):RowB w' v B:=by
 obtain ⟨g',cap,cur,fr,rfl,h1,h2⟩:=h
 exact ⟨g',cap,cur,fr,rfl,(e g' rfl).trans h1,h2⟩
theorem RowB.shape (h:RowB w v B):∃g cap,v= .slice (some ⟨g,0,none⟩) B.length cap:=by
 obtain ⟨g',cap,cur,fr,rfl,_⟩:=h
 exact ⟨g',cap,rfl⟩
theorem RowB.cells (h:RowB w (.slice (some ⟨g,0,none⟩) B.length cap) B):∀j u,(ct B)[j]? =some u->w.cell? ((⟨g,0,none⟩:Addr).add j)=some u:=by
 obtain ⟨g',cap',cur,fr,e,h1,h2,h3,h4,h5,h6⟩:=h
 cases e
 intro j u hu
 rw [Addr.add_lit]
 have:cur[j]? =some u:=by
  rw [<-h6,uf] at hu
  split at hu
  ·simpa using hu
  cases hu
 simp [World.cell?,h1,this]
theorem RowB.text (h:RowB w v B):Sem.run prog (convert 184 9 v) w= .ok (.string ⟨B.toArray⟩) w:=by
 obtain ⟨g,cap,rfl⟩:=h.shape
 have hc:=h.cells
 refine run_convert_bytes_back w _ _ _ _ _ B underlying184 underlying5 underlying9 (fun j hj=> ?_)
 refine hc j _ ?_
 simp [ct,jK hj]
theorem IJ (w:World) (s:ByteArray) (hs:s.size<=1000000):∃v w',Sem.run prog (convert 9 184 (.string s)) w= .ok v w'/\RowB w' v s.data.toList/\Below w.heap.size w w'/\∀g,v.ownBlock=some g->w.heap.size<=g:=by
 have hge:=grownCap_ge w s.size 0 5
 have hle:=grownCap_le_maxLen w s.size 0 5 zu
 obtain ⟨cap,hcap⟩:=za (grownCap w s.size 0 5)
 rw [<-hcap] at hge hle
 refine ⟨_,_,run_bytes_of_string w 9 184 5 s underlying9 underlying184 underlying5,?_,?_,?_⟩
 ·rw [<-hcap]
  have hbs:(bytesRow s cap).size=cap:=by
   unfold bytesRow
   simp
   have:s.data.size=s.size:=rfl
   omega
  refine ⟨w.heap.size,cap,bytesRow s cap,_,zq,heap_alloc_new w.drew _,.inr zg,by simpa using hge,hle,hbs,?_⟩
  unfold bytesRow ct
  rw [Array.toList_append,vv zq]
  simp
  rw [vm zq]
 ·exact ((jN _ w).drew).alloc zq _
 intro g hg
 cases hg
 exact jL _
theorem RowB.cut (h:RowB w (.slice (some ⟨g,0,none⟩) B.length cap) B) (hn:n<=B.length):RowB w (.slice (some ⟨g,0,none⟩) n cap) (B.take n):=by
 obtain ⟨g',cap',cur,fr,e,h1,h2,h3,h4,h5,h6⟩:=h
 cases e
 refine ⟨g,cap,cur,fr,by rw [vj];congr 1;omega,h1,h2,by rw [vj];omega,h4,h5,?_⟩
 rw [vj,Nat.min_eq_left hn]
 have:(cur.toList.take B.length).take n=(ct B).take n:=by rw [h6]
 rw [uR,Nat.min_eq_left hn] at this
 rw [this]
 simp [ct]
theorem CB (w:World) (g n:Nat) (cur:Array Value) (fr:Nat×Nat) (c:UInt8) (hg:w.heap[g]? =some (.cells cur 5 fr)) (hf:fr=(0,0)\/cur.size<=fr.1) (hn:n<cur.size):(storeCells ⟨g,n,none⟩ [.int .u8 (c.toNat:Int)] 0).run prog w= .ok () (w.setRow g (cur.setIfInBounds n (.int .u8 (c.toNat:Int)))):=by
 have hadd:(⟨g,n,none⟩:Addr).add 0=⟨g,n,none⟩:=rfl
 have hcell:w.cell? ⟨g,n,none⟩=some cur[n]:=by simp [World.cell?,hg,hn]
 have hfro:w.frozen? ⟨g,n,none⟩=false:=by
  obtain ⟨lo,hi⟩:=fr
  simp only [World.frozen?,hg,Bool.and_eq_false_iff,decide_eq_false_iff_not]
  rcases hf with hf | hf
  ·cases hf;right;omega
  left;simp only at hf;omega
 have hst:(store ((⟨g,n,none⟩:Addr).add 0) (.int .u8 (c.toNat:Int))).run prog w= .ok () (w.setRow g (cur.setIfInBounds n (.int .u8 (c.toNat:Int)))):=by
  rw [hadd,run_store prog w _ _ _ rfl,hcell]
  simp [hfro,setCell_eq_setRow w g n cur 5 fr _ hg]
 simp only [storeCells,Sem.run_bind,hst,Result.andThen_ok]
 rfl
theorem Bd (h:RowB w v B) (a:Addr) (ty:TypeId) (c:UInt8) (hc:w.cell? a=some (.int .u8 (c.toNat:Int))) (hB:B.length<1000000):
  ∃v' w',(Builtin.append_ #[184,184] ty #[v,.slice (some a) 1 1]).run prog w= .ok v' w'/\RowB w' v' (B++ [c])/\w.grownBy w' v.ownBlock/\∀g,v'.ownBlock=some g->v.ownBlock=some g\/w.heap.size<=g:=by
 obtain ⟨i0,hi,hz0,hz1,hz2⟩:=info_parts infoByte
 have hnews:∀j u,[Value.int .u8 (c.toNat:Int)][j]? =some u->w.cell? (a.add j)=some u:=fun j u hj=>by
  match j,hj with
  | 0,hj=>
   cases hj
   rw [show a.add 0=a from rfl]
   exact hc
  | j+1,hj=>simp at hj
 obtain ⟨g,cap,hv⟩:=h.shape
 subst hv
 have hcells:=h.cells
 obtain ⟨g',cap',cur,fr,e,h1,h2,h3,h4,h5,h6⟩:=h
 cases e
 by_cases hroom:B.length+1<=cap
 ·have hf:=run_firstCells_some (P:=prog) w 1 1 a 1 1 [.int .u8 (c.toNat:Int)] rfl hnews
  have hst:=CB w g B.length cur fr c h1 h2 zj
  refine ⟨.slice (some ⟨g,0,none⟩) (B.length+1) cap,w.setRow g (cur.setIfInBounds B.length (.int .u8 (c.toNat:Int))),?_,?_,⟨rfl,rfl,rfl,zq,fun k _ hk=>setRow_other w g k _ (fun e=>hk (by simp [Value.ownBlock,e]))⟩,fun g hg=>.inl hg⟩
  ·simp [Builtin.append_,run_underlying underlying184,sizeOf,typeInfo,hi,hz1,Builtin.lenOf,hroom,hf,Addr.add_lit,hst]
  refine ⟨g,cap,_,fr,zq,setRow_heap w g cur _ _ _ h1,by simpa using h2,by simpa using hroom,h4,by simpa using h5,?_⟩
  rw [jP,ub,Array.toList_setIfInBounds,dP,<-h6]
  have hl:B.length<cur.toList.length:=zl
  have hl':B.length<(cur.toList.set B.length (Value.int .u8 (c.toNat:Int))).length:=yJ
  rw [List.take_succ_eq_append_getElem hl',List.take_set_of_le zg,List.getElem_set_self]
  rfl
 have hr:=run_append_grow (P:=prog) w 184 ty 5 i0 (.int .u8 0) underlying184 hi hz0 ⟨g,0,none⟩ B.length cap (ct B) (by rw [hz1,ng];omega) hcells a 1 1 [.int .u8 (c.toNat:Int)] (by rw [hz1];rfl) hnews zj zj (by rw [hz2];exact growslice_fits zj zj)
 have hge:=grownCap_ge w (B.length+1) cap 5
 have hcm2:grownCap w (B.length+1) cap 5<=maxLen:=grownCap_le_maxLen w (B.length+1) cap 5 zu
 refine ⟨_,_,hr,⟨w.heap.size,_,_,(0,0),zq,heap_alloc_new w.drew _,.inl rfl,by simpa using hge,hcm2,?_,?_⟩,⟨rfl,rfl,rfl,zq,fun k hk _=>jV w.drew _ k (by simpa using hk)⟩,fun k hk=> ?_⟩
 ·have hz1':(Value.int IntKind.u8 0).cells.size=1:=rfl
  simp only [Array.size_append,vu,size_zeroCells,hz1',ng]
  simp
  omega
 ·simp only [Array.toList_append,vn]
  rw [dP,<-vn]
  rw [vv xV]
  rw [vm xV]
  rfl
 cases hk
 exact .inr zg
end
section
open Go.RowKit
theorem Tryz.yEt:prog.globalNamed "errors.errorType" =some 12:=zk
theorem Tryz.yRt:(prog.cutTypes.find? (·.1== "internal/reflectlite.rtype")).map (·.2)=some 306:=zk
theorem Tryz.yOneRow:((List.range prog.types.size).filter fun t=>prog.rowNamed t [101,114,114,111,114])= [36]:=zk
def sents:List (String×Nat×List UInt8):=[("concordat/api.ErrText",3,[99,111,110,99,111,114,100,97,116,58,32,116,101,120,116]),("concordat/api.ErrBound",0,[99,111,110,99,111,114,100,97,116,58,32,98,111,117,110,100]),("concordat/api.ErrShape",4,[99,111,110,99,111,114,100,97,116,58,32,115,104,97,112,101]),("concordat/api.ErrName",5,[99,111,110,99,111,114,100,97,116,58,32,110,97,109,101]),("concordat/api.ErrKind",6,[99,111,110,99,111,114,100,97,116,58,32,107,105,110,100]),("concordat/api.ErrNone",1,[99,111,110,99,111,114,100,97,116,58,32,110,111,110,101]),("concordat/api.ErrExist",7,[99,111,110,99,111,114,100,97,116,58,32,101,120,105,115,116]),("concordat/api.ErrFull",2,[99,111,110,99,111,114,100,97,116,58,32,102,117,108,108]),("concordat/api.ErrGap",8,[99,111,110,99,111,114,100,97,116,58,32,103,97,112]),("concordat/api.ErrCycle",9,[99,111,110,99,111,114,100,97,116,58,32,99,121,99,108,101]),("concordat/api.ErrOff",10,[99,111,110,99,111,114,100,97,116,58,32,111,102,102]),("concordat/api.ErrSum",11,[99,111,110,99,111,114,100,97,116,58,32,115,117,109])]
def gl:List (String×DataW Unit):=sents.map fun x=>(x.1,.iface "*errors.errorString" (.ptr (.agg [.lit (.string x.2.2)])))
def io:List (String×DataW Unit):=[("errors.errorType",.iface "internal/reflectlite.rtype" (.agg [.ptr (.lit (.string [101,114,114,111,114]))]))]
theorem tF:∀x∈sents,prog.globalNamed x.1=some x.2.1/\(prog.globals[x.2.1]?).map (·.type)=some 36:=by
 have h:(sents.all fun x=>(prog.globalNamed x.1==some x.2.1) &&((prog.globals[x.2.1]?).map (·.type)==some 36))=true:=zk
 intro x hx
 have:=List.all_eq_true.1 h x hx
 exact kn3
theorem Lm {W:World} (h1:laidMet prog gl W) (h2:handlesMet prog io W):∃ad:Nat->Addr,Errs W.heap.size ad W:=by
 obtain ⟨ps,hv,hnd,hr⟩:=h1
 obtain ⟨az,hl,hcell,hrow,hn⟩:=pl underlying36 Tryz.yRow underlying450 underlying468 rfl rfl underlying9 Tryz.yCellsS Tryz.yCellsString sents ps tF hv hnd hr
 have hl:az.length=12:=hl
 have hget:∀i,i<12->az[i]? =some (az.getD i ⟨0,0,none⟩):=fun i hi=>by
  rw [List.getD_eq_getElem?_getD,jK zj];rfl
 have hat:∀i x,i<12->sents[i]? =some x->W.cell? ⟨x.2.1,0,none⟩=some (.iface 450 (.pointer (some (az.getD i ⟨0,0,none⟩)))):=fun i x hi hx=>hcell i x _ hx (hget i hi)
 have hmem:∀i,i<12->az.getD i ⟨0,0,none⟩∈az:=fun i hi=>jT (hget i hi)
 have het:W.cell? ⟨12,0,none⟩=some (.iface 306 (.agg #[.pointer (some ⟨19,36,none⟩)])):=by
  obtain ⟨name,u,ty,e1,e2,e3,e4,e5⟩:=h2 _ (jS.2 rfl)
  have en:name= [101,114,114,111,114]:=(Option.some.inj e1).symm
  subst en
  obtain rfl:=Option.some.inj (Tryz.yRt.symm.trans e2)
  have hm:ty∈(List.range prog.types.size).filter fun t=>prog.rowNamed t [101,114,114,111,114]:=uN.2 ⟨List.mem_range.2 e3,e4⟩
  rw [Tryz.yOneRow] at hm
  obtain rfl:=jS.1 hm
  have hh:typeHandle prog 36= .pointer (some ⟨19,36,none⟩):=zk
  rw [hh] at e5
  simpa using World.var?_cell Tryz.yEt e5 0
 have lt_of:∀(b o:Nat) (v:Value),W.cell? ⟨b,o,none⟩=some v->b<W.heap.size:=fun b o v hc=>by
  rcases ue b W.heap.size with h | h
  ·exact h
  simp [World.cell?,uK h] at hc
 refine ⟨fun i=>az.getD i ⟨0,0,none⟩,hat 0 _ zo rfl,hat 1 _ zo rfl,hat 2 _ zo rfl,hat 3 _ zo rfl,hat 4 _ zo rfl,hat 5 _ zo rfl,hat 6 _ zo rfl,hat 7 _ zo rfl,hat 8 _ zo rfl,hat 9 _ zo rfl,hat 10 _ zo rfl,hat 11 _ zo rfl,het,?_,?_,?_,?_,jL _⟩
 ·intro i hi
  obtain ⟨⟨c,t,e⟩,_⟩:=hrow _ (hmem i hi)
  rcases ue (az.getD i ⟨0,0,none⟩).block W.heap.size with h | h
  ·exact h
  rw [uK h] at e;cases e
 ·exact fun i hi=>(hrow _ (hmem i hi)).1
 ·intro i j hi hj hne e
  have e1:=hget i hi
  have e2:=hget j hj
  have e:az.getD i ⟨0,0,none⟩=az.getD j ⟨0,0,none⟩:=e
  rw [e] at e1
  exact hne ((List.getElem?_inj zj hn).1 (e1.trans e2.symm))
 have l0:=lt_of _ _ _ het
 have l1:=lt_of _ _ _ (hat 0 _ zo rfl)
 have l2:=lt_of _ _ _ (hat 1 _ zo rfl)
 have l3:=lt_of _ _ _ (hat 2 _ zo rfl)
 have l4:=lt_of _ _ _ (hat 3 _ zo rfl)
 have l5:=lt_of _ _ _ (hat 4 _ zo rfl)
 have l6:=lt_of _ _ _ (hat 5 _ zo rfl)
 have l7:=lt_of _ _ _ (hat 6 _ zo rfl)
 have l8:=lt_of _ _ _ (hat 7 _ zo rfl)
 have l9:=lt_of _ _ _ (hat 8 _ zo rfl)
 have l10:=lt_of _ _ _ (hat 9 _ zo rfl)
 have l11:=lt_of _ _ _ (hat 10 _ zo rfl)
 have l12:=lt_of _ _ _ (hat 11 _ zo rfl)
 first | exact l0 | exact l1 | exact l2 | exact l3 | exact l4 | exact l5 | exact l6 | exact l7 | exact l8 | exact l9 | exact l10 | exact l11 | exact l12
