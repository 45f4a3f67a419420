import Derived.Test.YtfkekfibjnjcnaaGreatDoorHeldTk
import Derived.Test.YtfkekfibjnjcnaaGreatDoorMZ01
import Derived.Test.YtfkekfibjnjcnaaGreatDoorMZ02
import Derived.Test.YtfkekfibjnjcnaaGreatDoorMZ03
import Derived.Shelf.SlSortCmp.NoneTotal
import Derived.Laws.Cover1
import Derived.Shelf.Spec.SlicesInsertGrow
set_option linter.unusedSimpArgs false
set_option linter.unusedVariables false
set_option maxRecDepth 100000
set_option maxHeartbeats 64000000
namespace Go.Proofs.YtfkekfibjnjcnaaGreatDoor
open Go.Proofs.Tryz
variable {xs:List Value} {B b cap g k n:Nat} {ao:Option Addr} {p:Plc} {T e:TypeId} {v:Value} {w w':World}
section
open Go.RowKit Go.Maps
def PlcAt (w:World) (b:Nat) (p:Plc):Prop:=w.heap[b]? =some (.cells #[.int .i64 p.1,.int .i64 p.2.1,.string p.2.2] 98 (0,0))
theorem PlcAt.lt (h:PlcAt w b p):b<w.heap.size:=(vn.1 h).1
theorem PlcAt.c0 (h:PlcAt w b p):w.cell? ⟨b,0,none⟩=some (.int .i64 p.1):=qt
theorem PlcAt.c1 (h:PlcAt w b p):w.cell? ⟨b,1,none⟩=some (.int .i64 p.2.1):=qt
theorem PlcAt.c2 (h:PlcAt w b p):w.cell? ⟨b,2,none⟩=some (.string p.2.2):=qt
theorem PlcAt.fz (h:PlcAt w b p) (o:Nat):w.frozen? ⟨b,o,none⟩=false:=by unfold PlcAt at h;simp [World.frozen?,h]
theorem PlcAt.same (h:PlcAt w b p) (e:w'.heap[b]? =w.heap[b]?):PlcAt w' b p:=e.trans h
theorem PlcAt.stored (h:PlcAt w b p) (q:Plc):PlcAt (((w.setCell ⟨b,0,none⟩ (.int .i64 q.1)).setCell ⟨b,1,none⟩ (.int .i64 q.2.1)).setCell ⟨b,2,none⟩ (.string q.2.2)) b q:=by
 have h0:=heap_setCell_same w b 0 _ _ (.int .i64 q.1) h
 have h1:=heap_setCell_same _ b 1 _ _ (.int .i64 q.2.1) h0
 exact heap_setCell_same _ b 2 _ _ (.string q.2.2) h1
theorem PlcAt.storedBelow (q:Plc) (h:Below B w w') (hb:B<=b):Below B w (((w'.setCell ⟨b,0,none⟩ (.int .i64 q.1)).setCell ⟨b,1,none⟩ (.int .i64 q.2.1)).setCell ⟨b,2,none⟩ (.string q.2.2)):=
 ((h.setCell (p:=⟨b,0,none⟩) hb _).setCell (p:=⟨b,1,none⟩) hb _).setCell (p:=⟨b,2,none⟩) hb _
theorem MapAt.below {f:Sta} (h:MapAt prog 3 w b n f) (hb:Below B w w') (hB:b<B):MapAt prog 3 w' b n f:=h.same (hb.block b hB)
theorem inside_is (w:World) (bt bm n:Nat) (f:Sta) (node of:Int) (z:Bool) (hz:z=true↔Ins f node of) (ht:w.cell? ⟨bt,0,none⟩=some (.map (some bm))) (hm:MapAt prog 3 w bm n f) (G:Good f) (hk:Wf node):
  Calls prog 142 #[.pointer (some ⟨bt,0,none⟩),.int .i64 node,.int .i64 of] w fun e w'=>e= .returned (.bool z)/\Below w.heap.size w w':=by
 have hbt:bt<w.heap.size:=block_lt_of_cell ht
 obtain ⟨d,hd⟩:=G.rank
 have hl:=hm.looks hk
 unfold encP at hl
 go_enter func142,ntmps142
 go_wp2
 obtain ⟨w0,hw0⟩:=za (w.alloc (.cells #[.int .i64 ((f node).getD zeroP).1,.int .i64 ((f node).getD zeroP).2.1,.string ((f node).getD zeroP).2.2] 98))
 have hp0:PlcAt w0 w.heap.size ((f node).getD zeroP):=by rw [hw0];exact heap_alloc_new w _
 have hb0:Below w.heap.size w w0:=by rw [hw0];exact zh w _
 rw [<-hw0]
 clear hw0 hl
 go_loopg [7,8] (d node+1) (fun kx s7 s8 wr=>∃(b7:Nat) (cur:Int),s7= .pointer (some ⟨b7,0,none⟩)/\s8= .bool (f cur).isSome/\w.heap.size<=b7/\PlcAt wr b7 ((f cur).getD zeroP)/\Wf cur/\(Ins f cur of↔Ins f node of)/\Below w.heap.size w wr/\(∀p,f cur=some p->d cur<kx))
 case atStart=>exact ⟨w.heap.size,node,rfl,rfl,vm _,hp0,hk,Iff.rfl,hb0,fun _ _=>Nat.lt_succ_self _⟩
 case round=>
  obtain ⟨b7,cur,rfl,rfl,hb7,hp,hkc,hi,hb,hkx⟩:=hrel
  clear hp0 hb0 w0
  have ht1:=(hb.cell (p:=⟨bt,0,none⟩) hbt).trans ht
  have hm1:=hm.below hb hm.lt
  cases hf:f cur with
  | none=>
   have hno:z=false:=by
    cases z with
    | false=>rfl
    | true=>exact absurd (hi.2 (hz.1 rfl)) (ins_none hf)
   subst hno
   rw [hf] at hp
   simp only [Zt]
   go_wp2
   go_ret
   exact ⟨rfl,hb⟩
  | some p=>
   rw [hf] at hp
   simp only [Zu]
   have hc1:wr.cell? ⟨b7,1,none⟩=some (.int .i64 p.2.1):=hp.c1
   by_cases he:p.2.1=of
   ·have hyes:z=true:=hz.2 (hi.1 ((ins_some hf).2 (.inl he)))
    subst hyes
    have q0:decide (p.2.1=of)=true:=decide_eq_true he
    go_wp2
    go_ret
    exact ⟨rfl,hb⟩
   have q0:decide (p.2.1=of)=false:=decide_eq_false he
   have hkn:Wf p.2.1:=(wf_fine (G.fine cur p hf)).2
   have hc0:=hp.c0
   have hc2:=hp.c2
   go_wp2
   obtain ⟨w1,hw1⟩:=za (wr.alloc (.cells #[.int .i64 p.1,.int .i64 p.2.1,.string p.2.2] 98))
   have hp1:PlcAt w1 wr.heap.size p:=by rw [hw1];exact heap_alloc_new wr _
   have hb1:Below w.heap.size w w1:=by rw [hw1];exact hb.alloc hb.size _
   have hs1:w.heap.size<=wr.heap.size:=hb.size
   rw [<-hw1]
   obtain ⟨b8,hb8⟩:=za wr.heap.size
   rw [<-hb8] at hp1 hs1 |-
   have ht2:=(hb1.cell (p:=⟨bt,0,none⟩) hbt).trans ht
   have hm2:=hm.below hb1 hm.lt
   have hl2:=hm2.looks hkn
   have hl3:=(show MapAt prog 3 w1.drew bm n f from hm2).looks hkn
   unfold encP at hl2 hl3
   have d0:=hp1.c0
   have d1:=hp1.c1
   have d2:=hp1.c2
   have z0:=hp1.fz 0
   have z1:=hp1.fz 1
   have z2:=hp1.fz 2
   have F:Aside (PlcAt w1 b8 p/\Below w.heap.size w w1/\w.heap.size<=b8/\Wf p.2.1):=⟨hp1,hb1,hs1,hkn⟩
   clear hp hc0 hc1 hc2 hp1 hb1 hm2 hm1 ht1 hw1 hb8 hs1 hkn
   go_region
   go_wp2
   go_roundg (d cur)
   case measure=>exact hkx p hf
   case rel=>exact ⟨b8,p.2.1,rfl,rfl,F.o.2.2.1,F.o.1.stored _,F.o.2.2.2,(by rw [<-hi,ins_some hf];exact ⟨.inr,fun h=>h.resolve_left he⟩),(PlcAt.storedBelow _ F.o.2.1 F.o.2.2.1).drew,fun _ _=>hd cur p hf⟩
end
section
open Go Go.RowKit
theorem cellHeld {o:Nat} (hb:Below w.heap.size w w') (h:w.cell? ⟨b,o,none⟩=some v):w'.cell? ⟨b,o,none⟩=some v:=by
 rw [hb.cell (p:=⟨b,o,none⟩) (vp w ⟨b,o,none⟩ h)];exact h
theorem ownsHeld {base:Nat} (h:w.ownsRow base e k v n xs) (hs:∀g,v.ownBlock=some g->w'.heap[g]? =w.heap[g]?):w'.ownsRow base e k v n xs:=by
 refine ⟨h.1,?_⟩
 rcases h.2 with h0 | ⟨g,cap,cur,rfl,h1,hg,h2⟩
 ·exact .inl h0
 exact .inr ⟨g,cap,cur,rfl,h1,(hs g rfl).trans hg,h2⟩
theorem ownsLow {base base':Nat} (h:w.ownsRow base e k v n xs) (hb:base'<=base):w.ownsRow base' e k v n xs:=by
 refine ⟨h.1,h.2.imp (fun e=>e) ?_⟩
 rintro ⟨g,cap,cur,h1,h2,h3⟩
 exact ⟨g,cap,cur,h1,zj,h3⟩
theorem rowIs {base:Nat} (h:w.ownsRow base e k v n xs):∃ao cap,v= .slice ao n cap:=by
 rcases h.2 with ⟨h1,h2⟩ | ⟨g,cap,cur,rfl,_⟩
 ·subst h2;exact ⟨_,_,h1⟩
 exact ⟨_,_,rfl⟩
section
variable {α:Type} {enc:α→List Value} {k:Nat}
def InRow (enc:α->List Value) (w:World) (ao:Option Addr) (zs:List α):Prop:=zs= []\/∃blk off,ao=some ⟨blk,off,none⟩/\∀j u,(flat enc zs)[j]? =some u->w.cell? ⟨blk,off+j,none⟩=some u
theorem InRow.later {zs:List α} (h:InRow enc w ao zs) (hb:Below w.heap.size w w'):InRow enc w' ao zs:=by
 rcases h with h | ⟨g,o,h1,h2⟩
 ·exact .inl h
 exact .inr ⟨g,o,h1,fun j u hj=>cellHeld hb (h2 j u hj)⟩
theorem InRow.kept {zs:List α} (h:InRow enc w ao zs) (hk:∀g o,ao=some ⟨g,o,none⟩->w'.heap[g]? =w.heap[g]?):InRow enc w' ao zs:=by
 rcases h with h | ⟨g,o,h1,h2⟩
 ·exact .inl h
 exact .inr ⟨g,o,h1,fun j u hj=>by rw [vI (a:=⟨g,o+j,none⟩) (hk g o h1)];exact h2 j u hj⟩
theorem InRow.get (hlen:∀x,(enc x).length=k) {zs:List α} (h:InRow enc w ao zs) {i:Nat} {x:α} (hi:zs[i]? =some x):∃blk off,ao=some ⟨blk,off,none⟩/\∀c u,(enc x)[c]? =some u->w.cell? ⟨blk,off+i*k+c,none⟩=some u:=by
 rcases h with h | ⟨b,o,h1,h2⟩
 ·subst h;simp at hi
 refine ⟨b,o,h1,fun c u hc=> ?_⟩
 have hck:c<k:=by have:=(vi.1 hc).1;rwa [hlen] at this
 rw [uY]
 exact h2 _ _ ((flat_get (enc:=enc) hlen hi hck).trans hc)
theorem rowIn (hlen:∀x,(enc x).length=k) {base:Nat} {L:List α} (h:w.ownsRow base T k (.slice ao L.length cap) L.length (flat enc L)):InRow enc w ao L:=by
 have h':=h
 rcases h.2 with ⟨h1,h2⟩ | ⟨g,cap',cur,hv,_⟩
 ·exact .inl (vM.1 h2)
 cases hv
 refine .inr ⟨g,0,rfl,fun j u hj=> ?_⟩
 have hl:j<(flat enc L).length:=(vi.1 hj).1
 rw [flat_len hlen] at hl
 rw [vO,h'.cellAt j hl,hj]
theorem append_row {P:Program} {S:TypeId} {z:Value} {bytes:Nat} (hS:P.underlying S=some (.slice T)) (hinfo:(P.info? T).map (fun i=>(i.zero,i.size,i.bytes))=some (some z,k,bytes)) (hb1:bytes<=1000) (hk0:0<k) (hzc:z.cells.size=k)
  (hlen:∀x,(enc x).length=k) (hone:∀x,∀v∈enc x,v.oneCell'=true)
  {base:Nat} (ho:w.ownsRow base T k v n xs) (hn:n<=2000) (hbase:base<=w.heap.size) (ap:Option Addr) (c:Nat) (ys:List α) (hy:ys.length<=2000) (hap:InRow enc w ap ys) (hc:ap=none->c=0) (ty:TypeId):
  ∃v' w',(Builtin.append_ #[S,S] ty #[v,.slice ap ys.length c]).run P w= .ok v' w'/\w'.ownsRow base T k v' (n+ys.length) (xs++flat enc ys)/\w.grownBy w' v.ownBlock:=by
 obtain ⟨i0,hi,hz0,hz1,hz2⟩:=info_parts hinfo
 cases ap with
 | none=>
  have h0:ys= []:=by
   rcases hap with h | ⟨_,_,h,_⟩
   ·exact h
   cases h
  subst h0
  rw [hc rfl]
  refine ⟨v,w,run_append_owned_none w base _ ty _ i0 k hS hi v n xs ho,by simpa [flat] using ho,⟨rfl,rfl,rfl,vm _,fun _ _ _=>rfl⟩⟩
 | some a=>
  have hl:(flat enc ys).length=ys.length*k:=flat_len hlen ys
  obtain ⟨v',w',h1,h2,h3,-⟩:=run_append_own (P:=P) w base S ty T i0 _ k bytes hS hi hz0 hz1 hz2 hzc zj v n xs ho a ys.length c (flat enc ys) hl (fun j u hj=>by
   rcases hap with h | ⟨b,o,h,hcell⟩
   ·subst h;simp [flat] at hj
   ·cases h
    rw [Addr.add_lit]
    exact hcell j u hj) (flat_one hone ys) zw (by have:=Nat.mul_le_mul (show n+ys.length<=4000 by omega) hb1;omega) hbase
  exact ⟨v',w',h1,h2,h3⟩
end
end
section
open Go.Shelf Go.RowKit Go.Lib Go.Sort
def cmpT (a b:List UInt8):Int:=if a<b then -1 else if b<a then 1 else 0
def orZ (a b:Int):Int:=if a=0 then b else a
def cmpM (x y:Mrk):Int:=orZ (cmpZ x.1 y.1) (cmpT x.2.1.data.toList y.2.1.data.toList)
theorem ltOf_cmpM (x y:Mrk):ltOf cmpM x y=decide (KLt (keyM x) (keyM y)):=by
 unfold ltOf cmpM orZ cmpZ
 by_cases h1:x.1<y.1
 ·simp [h1]
 rw [if_neg h1]
 by_cases h2:y.1<x.1
 ·have h3:x.1≠y.1:=by omega
  simp [h1,h2,h3]
 have h3:x.1=y.1:=zj
 rw [if_neg h2,if_pos rfl]
 unfold cmpT
 by_cases h4:x.2.1.data.toList<y.2.1.data.toList
 ·simp [h3,h4]
 rw [if_neg h4]
 by_cases h5:y.2.1.data.toList<x.2.1.data.toList<;>simp [h3,h4,h5]
theorem swo_cmpM:SWO (ltOf cmpM) where
 irrefl x:=by rw [ltOf_cmpM];exact decide_eq_false klt_irrefl
 trans x y z h1 h2:=by
  rw [ltOf_cmpM] at*
  exact decide_eq_true (klt_trans (of_decide_eq_true h1) (of_decide_eq_true h2))
 ntrans x y z h1 h2:=by
  rw [ltOf_cmpM] at*
  have k1:=of_decide_eq_false h1
  have k2:=of_decide_eq_false h2
  refine decide_eq_false fun h=> ?_
  by_cases e:keyM x=keyM y
  ·rw [e] at h;exact k2 h
  rcases klt_total e with q | q
  ·exact k1 q
  exact k2 (klt_trans q h)
def cellsM (m:Mrk):List Value:=[.int .i64 m.1,.string m.2.1,.string m.2.2]
theorem nanT (a:ByteArray) (w:World):Calls prog 115 #[.string a] w fun e w'=>e= .returned (.bool false)/\w'=w:=by
 go_enter func115,ntmps115
 go_wp2
 go_ret
 exact ⟨zm,rfl⟩
theorem cmpT_any (a b:ByteArray) (w:World):Calls prog 77 #[.string a,.string b] w fun e w'=>e= .returned (.int .i64 (cmpT a.data.toList b.data.toList))/\w'=w:=by
 unfold cmpT
 by_cases h1:a.data.toList<b.data.toList
 ·have d1:Op.bytesLess a.toList b.toList=true:=(less_bytes _ _).trans <| decide_eq_true h1
  rw [if_pos h1]
  go_enter func77,ntmps77
  go_wp2_with (go_at_call 115;refine (nanT _ _).mono ?_;rintro e w' ⟨rfl,rfl⟩)
  go_ret
  exact ⟨rfl,rfl⟩
 have d1:Op.bytesLess a.toList b.toList=false:=(less_bytes _ _).trans <| decide_eq_false h1
 rw [if_neg h1]
 by_cases h2:b.data.toList<a.data.toList
 ·have d2:(a.toList==b.toList)=false:=by
   rw [vE,vE]
   exact beq_false_of_ne (fun e=>by rw [e] at h2;exact List.lt_irrefl _ h2)
  rw [if_pos h2]
  go_enter func77,ntmps77
  go_wp2_with (go_at_call 115;refine (nanT _ _).mono ?_;rintro e w' ⟨rfl,rfl⟩)
  go_ret
  exact ⟨rfl,rfl⟩
 have d2:(a.toList==b.toList)=true:=by
  rw [vE,vE]
  by_cases e:a.data.toList=b.data.toList
  ·rw [e];simp
  rcases bytesTotal e with q | q
  ·exact absurd q h1
  exact absurd q h2
 rw [if_neg h2]
 go_enter func77,ntmps77
 go_wp2_with (go_at_call 115;refine (nanT _ _).mono ?_;rintro e w' ⟨rfl,rfl⟩)
 go_ret
 exact ⟨rfl,rfl⟩
theorem or_any (w:World) (g:Nat) (a b:Int) (h0:w.cell? ⟨g,0,none⟩=some (.int .i64 a)) (h1:w.cell? ⟨g,1,none⟩=some (.int .i64 b)):
  Calls prog 76 #[.slice (some ⟨g,0,none⟩) 2 2] w fun e w'=>e= .returned (.int .i64 (orZ a b))/\w'=w:=by
 unfold orZ
 by_cases ha:a=0
 ·rw [if_pos ha]
  have da:(a !=0)=false:=by simp [ha]
  clear ha
  by_cases hb:b=0
  ·have db:(b !=0)=false:=by simp [hb]
   have HB:=Lib.hid hb
   clear hb
   go_enter func76,ntmps76
   go_wp2
   refine wp_loop_rounds 3 ?_
   rw [rounds_succ]
   go_wp2
   rw [rounds_succ]
   go_wp2
   rw [rounds_succ]
   go_wp2
   go_ret
   exact ⟨by rw [HB.o];rfl,rfl⟩
  have db:(b !=0)=true:=by simp [hb]
  clear hb
  go_enter func76,ntmps76
  go_wp2
  refine wp_loop_rounds 2 ?_
  rw [rounds_succ]
  go_wp2
  rw [rounds_succ]
  go_wp2
  go_ret
  exact ⟨rfl,rfl⟩
 rw [if_neg ha]
 have da:(a !=0)=true:=by simp [ha]
 clear ha
 go_enter func76,ntmps76
 go_wp2
 refine wp_loop_rounds 1 ?_
 rw [rounds_succ]
 go_wp2
 go_ret
 exact ⟨rfl,rfl⟩
theorem closureM (x y:Mrk) (w:World):Calls prog 75 (#[.agg (cellsM x).toArray,.agg (cellsM y).toArray]++ #[]) w fun e w'=>e= .returned (.int .i64 (cmpM x y))/\∃q os',w'=grow (w.drewN q) os':=by
 obtain ⟨a,s,c⟩:=x
 obtain ⟨a',s',c'⟩:=y
 unfold cellsM
 dsimp only
 obtain ⟨S,hS⟩:=za w.heap.size
 obtain ⟨U,hU⟩:=za ((w.alloc (.cells #[.int .i64 a,.string s,.string c] 107)).alloc (.cells #[.int .i64 a',.string s',.string c'] 107))
 have hu1:U.heap[S+1]? =some (.cells #[.int .i64 a',.string s',.string c'] 107 (0,0)):=by
  have:=heap_alloc_new (w.alloc (.cells #[.int .i64 a,.string s,.string c] 107)) (.cells #[.int .i64 a',.string s',.string c'] 107)
  rw [vQ] at this
  rw [hU,hS]
  exact this
 have hu0:U.heap[S]? =some (.cells #[.int .i64 a,.string s,.string c] 107 (0,0)):=by
  rw [hU,hS,vy _ _ _ zm]
  exact heap_alloc_new w _
 have x0:U.drew.cell? ⟨S,0,none⟩=some (.int .i64 a):=vg
 have x1:U.drew.cell? ⟨S,1,none⟩=some (.string s):=vg
 have y0:U.drew.cell? ⟨S+1,0,none⟩=some (.int .i64 a'):=ve
 have y1:U.drew.cell? ⟨S+1,1,none⟩=some (.string s'):=ve
 have HX:Aside (U.drew.cell? ⟨S,0,none⟩=some (.int .i64 a)/\U.drew.cell? ⟨S,1,none⟩=some (.string s)/\U.drew.cell? ⟨S+1,0,none⟩=some (.int .i64 a')/\U.drew.cell? ⟨S+1,1,none⟩=some (.string s')):=⟨x0,x1,y0,y1⟩
 have HU:Aside (∃os,U=grow w os):=⟨_,by rw [hU,alloc_eq_grow,alloc_eq_grow,grow_grow]⟩
 clear hu0 hu1 x0 x1 y0 y1
 go_enter func75,ntmps75
 go_wp2_with fail
 rw [<-hU,<-hS]
 clear hU hS
 refine wp_region_H (S:=fun w'=>w'.cell? ⟨S,0,none⟩=some (.int .i64 a)/\w'.cell? ⟨S,1,none⟩=some (.string s)/\w'.cell? ⟨S+1,0,none⟩=some (.int .i64 a')/\w'.cell? ⟨S+1,1,none⟩=some (.string s')) zk HX.o (fun hHeld=> ?_)
 refine tk 0 hHeld ?_ (hy:=Or.inl ⟨zu,zG⟩)
 refine tk 1 hHeld ?_ (hy:=Or.inl ⟨zu,zG⟩)
 refine tk 2 hHeld ?_ (hy:=Or.inl ⟨zu,zG⟩)
 refine tk 3 hHeld ?_ (hy:=Or.inl ⟨zu,zG⟩)
 refine tk 5 hHeld ?_ (hy:=Or.inl ⟨zu,zG⟩)
 refine tk 6 hHeld ?_ (hy:=Or.inl ⟨zu,zG⟩)
 refine tk 7 hHeld ?_ (hy:=Or.inl ⟨zu,zG⟩)
 refine tk 8 hHeld ?_ (hy:=Or.inl ⟨zu,zG⟩)
 refine wpAnyH_one (i:=4) zk rfl (fun K hK=> ?_)
 go_simp
 refine (cmpZ_any _ _ _).mono ?_
 rintro e w1 ⟨rfl,rfl⟩
 refine hK _ _ HX.o ?_
 clear hK K
 refine qn ?_
 refine wpAnyH_one (i:=9) zk rfl (fun K hK=> ?_)
 go_simp
 refine (cmpT_any _ _ _).mono ?_
 rintro e w1 ⟨rfl,rfl⟩
 refine hK _ _ HX.o ?_
 clear hK K
 refine qn ?_
 refine wpAnyH_one (i:=10) zk rfl (fun K hK=> ?_)
 go_simp
 obtain ⟨V,hV⟩:=za ((U.alloc (.cells #[.int .i64 (cmpZ a a'),.int .i64 (cmpT s.data.toList s'.data.toList)] 3)).drew)
 have hbV:Below U.drew.heap.size U.drew V:=by rw [hV];exact ⟨rfl,rfl,rfl,((vu U.heap.size U).alloc zg _).size,((vu U.heap.size U).alloc zg (.cells #[.int .i64 (cmpZ a a'),.int .i64 (cmpT s.data.toList s'.data.toList)] 3)).block⟩
 have hVn:V.heap[U.heap.size]? =some (.cells #[.int .i64 (cmpZ a a'),.int .i64 (cmpT s.data.toList s'.data.toList)] 3 (0,0)):=by rw [hV];exact heap_alloc_new U _
 have HV:Aside (∃q os',V=grow (w.drewN q) os'):=by
  obtain ⟨os,rfl⟩:=HU.o
  exact ⟨1,_,by rw [hV,alloc_eq_grow,grow_grow];rfl⟩
 have g0:V.cell? ⟨U.heap.size,0,none⟩=some (.int .i64 (cmpZ a a')):=by simp [World.cell?,hVn]
 have g1:V.cell? ⟨U.heap.size,1,none⟩=some (.int .i64 (cmpT s.data.toList s'.data.toList)):=by simp [World.cell?,hVn]
 rw [<-hV]
 have HY:Aside (V.cell? ⟨S,0,none⟩=some (.int .i64 a)/\V.cell? ⟨S,1,none⟩=some (.string s)/\V.cell? ⟨S+1,0,none⟩=some (.int .i64 a')/\V.cell? ⟨S+1,1,none⟩=some (.string s')):=⟨cellHeld hbV HX.o.1,cellHeld hbV HX.o.2.1,cellHeld hbV HX.o.2.2.1,cellHeld hbV HX.o.2.2.2⟩
 refine hK _ _ HY.o ?_
 clear hK K hV hbV hVn
 refine qn ?_
 refine wpAnyH_one (i:=11) zk rfl (fun K hK=> ?_)
 go_simp
 refine (or_any V _ _ _ g0 g1).mono ?_
 rintro e w1 ⟨rfl,rfl⟩
 refine hK _ _ HY.o ?_
 clear hK K
 refine qn ?_
 refine wpAnyH_one (i:=12) zk rfl (fun K hK=> ?_)
 go_simp
 refine hK _ _ HY.o ?_
 clear hK K
 refine wpAnyH_done zk ?_ _
 clear hHeld
 go_wp2
 go_ret
 exact ⟨rfl,HV.o⟩
theorem cmp_laysM (blk off size:Nat) (w:World):CmpLays prog 75 #[] cellsM 3 cmpM blk off size w:=fun _ _ _ _ x y=>closureM x y _
theorem eg_cmpM:∀args w,(callFunc 75 args).run prog w= .ok (.enter 75 args) w:=enters_of func75 zk rfl
theorem cellsM_len (x:Mrk):(cellsM x).length=3:=rfl
theorem cellsM_one (x:Mrk):∀v∈cellsM x,v.oneCell'=true:=by
 intro v hv
 simp only [cellsM,vz,Zc,or_false] at hv
 rcases hv with rfl | rfl | rfl<;>rfl
theorem sortWorld_keepsM (w:World) (g n:Nat) (d:Array Mrk) (os:Array Obj):Keeps (fun k=>k=g) w (sortWorldK cellsM 3 w g 0 n d os):=by
 refine ⟨rfl,rfl,rfl,?_,fun k hk hs=> ?_⟩
 ·simp [sortWorldK,putRowK,putRow,mapBlock,Sort.ahead,grow]
 have hgk:g≠k:=fun e=>hs e.symm
 simp only [sortWorldK,putRowK,putRow,mapBlock,Sort.ahead,grow]
 rw [Zv qP]
 simp [Array.getElem?_modify,hgk]
theorem holdsM {base:Nat} {ps:List Mrk} (h:w.ownsRow base 107 3 (.slice (some ⟨g,0,none⟩) n cap) n (flat cellsM ps)) (hn:n=ps.length):HoldsK cellsM 3 w g 0 ps.toArray:=fun j hj=>by
 rw [size_flatK] at hj
 simp only [vY] at hj
 have h1:j / 3<ps.length:=zj
 have h2:j / 3*3+j % 3=j:=zj
 refine ⟨?_,yQ⟩
 rw [vO,h.cellAt j zj,get_flatK _ _ _ _ yB]
 have:=flat_get (enc:=cellsM) cellsM_len (L:=ps) (i:=j / 3) (c:=j % 3) (x:=ps[j / 3]) (vj h1) zj
 rw [h2] at this
 rw [this,getElem!_pos ps.toArray (j / 3) xX,uE,vj qA,getElem!_pos _ (j % 3) qA]
 rfl
theorem holds_cellsM {d:Array Mrk} (h:HoldsK cellsM 3 w g 0 d) (j:Nat) (u:Value) (hj:(flat cellsM d.toList)[j]? =some u):w.cell? ⟨g,j,none⟩=some u:=by
 have hl:=(vi.1 hj).1
 rw [flat_len cellsM_len,uk] at hl
 have h1:j / 3<d.size:=zj
 have h2:j / 3*3+j % 3=j:=zj
 have H:=(h j qB).1
 rw [vO,get_flatK _ _ _ _ zj] at H
 have:=flat_get (enc:=cellsM) cellsM_len (L:=d.toList) (i:=j / 3) (c:=j % 3) (x:=d[j / 3]) (by rw [ZH,Ze h1]) zj
 rw [h2,hj,vj qA] at this
 rw [H,getElem!_pos d (j / 3) h1,getElem!_pos _ (j % 3) qA,this]
 rfl
theorem sortMk (w:World) (base g cap:Nat) (ps:List Mrk) (hown:w.ownsRow base 107 3 (.slice (some ⟨g,0,none⟩) ps.length cap) ps.length (flat cellsM ps)) (hl:ps.length<=100000):
  Calls prog 74 #[.slice (some ⟨g,0,none⟩) ps.length cap,.func (.func 75) #[] #[]] w fun e w'=>e= .returned (.tuple #[])/\∃qs:List Mrk,qs.Perm ps/\qs.Pairwise (fun a b=>¬KLt (keyM b) (keyM a))/\(∀j u,(flat cellsM qs)[j]? =some u->w'.cell? ⟨g,j,none⟩=some u)/\Keeps (fun k=>k=g) w w':=by
 have hH:=holdsM hown rfl
 have hblk:g<w.heap.size:=(hown.lt g rfl).2
 have h:=AnyQ.slices_SortFunc sortMarks 3 isAgg107 sizeOf107 cellsM cellsM_len cellsM_one cmpM swo_cmpM 75 #[] g 0 cap ps.toArray w eg_cmpM (cmp_laysM g 0 ps.toArray.size w) hH hblk zl
 refine Calls.mono h ?_
 rintro e w' ⟨rfl,d',n,os,hp,hs,rfl⟩
 simp only [vY] at hp hs
 have hsz:d'.size=ps.length:=xK
 have hperm:d'.toList.Perm ps:=by
  have:=hp.2.2
  simp only [Array.toList_extract] at this
  rw [uJ,uJ,uP,uP,Nat.sub_zero,vG (by simp [hsz]),vG zm] at this
  exact this
 refine ⟨rfl,d'.toList,hperm,?_,?_,sortWorld_keepsM w g n d' os⟩
 ·rw [uh]
  intro i j hi hj hij
  have hi':i<d'.size:=xg
  have hj':j<d'.size:=yB
  have:=hs i j (vD _) hij zj
  rw [ltOf_cmpM,getElem!_pos d' i hi',getElem!_pos d' j hj'] at this
  have:=of_decide_eq_false this
  simpa using this
 exact holds_cellsM ((show SWK cellsM 3 w g 0 d' _ from ⟨n,os,rfl⟩).holds hblk hH (by rw [hsz];simp))
theorem sortMk_none (p:Option Addr) (cap:Nat) (fv:Value) (w:World):Calls prog 74 #[.slice p 0 cap,fv] w fun e w'=>e= .returned (.tuple #[])/\w'=w:=
 AnyF.slices_SortFunc_none sortMarks p cap fv w
end
section
open Go.Shelf Go.RowKit Go.Lib
theorem infoEnt:(prog.info? 261).map (fun i=>(i.zero,i.size,i.bytes))=some (some (.agg #[.int .i64 0,.int .i64 0,.int .i64 0,.int .i64 0,.string ⟨#[]⟩,.int .i64 0,.int .i64 0,.string ⟨#[]⟩]),8,80):=zk
def Laid (w:World) (base:Nat) (v:Value) (n:Nat) (ys:List Value) (e:Ending) (w':World):Prop:=
 ∃v',e= .returned v'/\w'.ownsRow base 261 8 v' (n+1) ys/\Keeps (fun k=>some k=v.ownBlock) w w'/\(v'.ownBlock=v.ownBlock\/v'.ownBlock=some w.heap.size)
theorem insert_end (w:World) (base:Nat) (v:Value) (n:Nat) (xs vs:List Value) (hown:w.ownsRow base 261 8 v n xs) (hn:n<=1000) (vb:Nat) (hv:vs.length=8)
  (hvs:∀j u,vs[j]? =some u->w.cell? ⟨vb,j,none⟩=some u) (h1v:∀u∈vs,u.oneCell'=true) (hbase:base<=w.heap.size):
  Calls prog 186 #[v,.int .i64 n,.slice (some ⟨vb,0,none⟩) 1 1] w (Laid w base v n (xs++vs)):=by
 obtain ⟨i0,hi,hz0,hz1,hz2⟩:=info_parts infoEnt
 obtain ⟨v',w',hrun,ho,hg,hb⟩:=append_at (P:=prog) w base 133 133 261 i0 _ 8 80 underlying133 hi hz0 hz1 hz2 rfl zj v n xs hown ⟨vb,0,none⟩ 1 1 zj vs zj
  (fun j u hj=>jk) h1v zw zj hbase
 have hfin:Aside (Laid w base v n (xs++vs) (.returned v') w'):=⟨v',rfl,ho,keeps_of_grown hg,hb⟩
 rcases hown.2 with ⟨rfl,rfl⟩ | ⟨g,cap,cur,rfl,hbg,hgb,hnc,hcm,hcs,htake⟩
 ·clear hown ho hg hb hvs h1v
  go_enter func186,ntmps186
  go_wp2_with (at_builtin;refine Lib.wpList_append_run _ rfl _ _ _ _ rfl _ _ rfl rfl _ _ hrun ?_)
  go_ret
  exact hfin.o
 clear hown ho hg hb hvs h1v htake hcs hgb hbg
 go_enter func186,ntmps186
 go_wp2_with (at_builtin;refine Lib.wpList_append_run _ rfl _ _ _ _ rfl _ _ rfl rfl _ _ hrun ?_)
 all_goals (go_ret;exact hfin.o)
theorem insert_room (w:World) (base g n cap i:Nat) (xs vs:List Value) (hown:w.ownsRow base 261 8 (.slice (some ⟨g,0,none⟩) n cap) n xs) (hn:n<=1000) (vb:Nat) (hv:vs.length=8)
  (hvs:∀j u,vs[j]? =some u->w.cell? ⟨vb,j,none⟩=some u) (h1v:∀u∈vs,u.oneCell'=true) (h1x:∀u∈xs,u.oneCell'=true) (hvb:vb≠g) (hsa:w.shape? vb=some (261,8)) (hfa:∀j,w.frozen? ⟨vb,j,none⟩=false)
  (hi:i<n) (hroom:n+1<=cap):
  Calls prog 186 #[.slice (some ⟨g,0,none⟩) n cap,.int .i64 i,.slice (some ⟨vb,0,none⟩) 1 1] w (Laid w base (.slice (some ⟨g,0,none⟩) n cap) n (xs.take (i*8)++vs++xs.drop (i*8))):=by
 have hL:Aside (∀W:World,W.heap=w.heap->W.os=w.os->W.tape=w.tape->W.output=w.output->Laid w base (.slice (some ⟨g,0,none⟩) n cap) n (xs.take (i*8)++vs++xs.drop (i*8)) (.returned (.slice (some ⟨g,0,none⟩) (n+1) cap)) ((W.setCells g ((i+1)*8) (xs.drop (i*8))).setCells g (i*8) vs)):=by
  intro W h0 h2 h3 h4
  have hownW:W.ownsRow base 261 8 (.slice (some ⟨g,0,none⟩) n cap) n xs:=vf
  have k1:=(setCells_keeps g (xs.drop (i*8)) ((i+1)*8) W).trans (setCells_keeps g vs (i*8) _)
  exact ⟨_,rfl,owns_laidIn hownW hroom zj hv,⟨k1.os.trans h2,k1.tape.trans h3,k1.output.trans h4,by rw [<-h0];exact k1.size,fun k hk hs=>by
   rw [<-h0]
   exact k1.block k (by rw [h0];exact hk) (fun e=>hs xP)⟩,.inl rfl⟩
 obtain ⟨hxl,h2⟩:=hown
 rcases h2 with ⟨hc,_⟩ | ⟨g',cap',cur,hc,hbg,hgb,hnc,hcm,hcs,htake⟩
 ·cases hc
 cases hc
 have hcm':cap<=9223372036854775807:=by simp only [maxLen] at hcm;omega
 have hsp:∀j,j<(n+1)*8->(w.cell? ⟨g,j,none⟩).isSome=true:=fun j hj=>by
  have:j<cur.size:=by rw [hcs];omega
  simp [World.cell?,hgb,this]
 have hfz:∀j,w.frozen? ⟨g,j,none⟩=false:=fun j=>by simp [World.frozen?,hgb]
 have hcell:∀j u,xs[j]? =some u->w.cell? ⟨g,j,none⟩=some u:=fun j u hj=>by
  have hlt:=(vi.1 hj).1
  rw [<-htake,un,if_pos zj] at hj
  simp [World.cell?,hgb,<-hj]
 have hsb:w.shape? g=some (261,cap*8):=by simp [World.shape?,hgb,hcs]
 have hsz:(prog.info? 261).map (·.size)=some 8:=by
  obtain ⟨i0,hi0,_,h1,_⟩:=info_parts infoEnt
  rw [hi0];simp [h1]
 have hov:∀lb cb,(callFunc 230 #[.slice (some ⟨vb,0,none⟩) 1 1,.slice (some ⟨g,(i+1)*8,none⟩) lb cb]).run prog w= .ok (.value (.bool false)) w:=fun lb cb=>by
  rw [run_callFunc_extern func230 zk zk zk (e:=Extern.SlicesOverlaps.overlaps #[133,133] #[4]) zk,
   Lib.run_overlaps_apart w 133 4 261 underlying133 8 sizeOf261 ⟨vb,0,none⟩ ⟨g,(i+1)*8,none⟩ 1 1 lb cb hvb 261 261 8 (cap*8) hsa hsb zj (hfa 0) (hfa 8)]
  rfl
 have hdl:(xs.drop (i*8)).length=n*8 - i*8:=qu
 have hcp1:∀ty dc sc,(Builtin.copy_ #[133,133] ty #[.slice (some ⟨g,(i+1)*8,none⟩) (n - i) dc,.slice (some ⟨g,i*8,none⟩) (n+1 - i) sc]).run prog w.drew= .ok (goInt ((n - i:Nat):Int)) (w.drew.setCells g ((i+1)*8) (xs.drop (i*8))):=fun ty dc sc=>by
  have hmin:Nat.min (n+1 - i) (n - i)=n - i:=yi
  have:=run_copy_k (P:=prog) w.drew 133 133 ty 261 8 g ((i+1)*8) (n - i) dc ⟨g,i*8,none⟩ (n+1 - i) sc (xs.drop (i*8)) underlying133 hsz qV
   (fun j u hj=>by rw [Addr.add_lit];exact hcell _ u (by rwa [uw] at hj))
   (fun j hj=>hsp _ qM) (fun j _=>hfz _) (fun u hu=>h1x u (uZ hu))
  rw [hmin] at this
  exact this
 obtain ⟨W1,hW1⟩:=za (w.drew.setCells g ((i+1)*8) (xs.drop (i*8)))
 have hsp1:∀j,j<(n+1)*8->(W1.cell? ⟨g,j,none⟩).isSome=true:=fun j hj=>by
  rw [hW1]
  exact isSome_setCells g (xs.drop (i*8)) ((i+1)*8) w.drew (fun t ht=>hsp ((i+1)*8+t) (by rw [hdl] at ht;omega)) _ (hsp j hj)
 have hcp2:∀(W:World),(∀x,W.cell? x=W1.cell? x)->(∀x,W.frozen? x=W1.frozen? x)->∀ty dc,(Builtin.copy_ #[133,133] ty #[.slice (some ⟨g,i*8,none⟩) (n+1 - i) dc,.slice (some ⟨vb,0,none⟩) 1 1]).run prog W= .ok (goInt 1) (W.setCells g (i*8) vs):=fun W hWc hWf ty dc=>by
  have hmin:Nat.min 1 (n+1 - i)=1:=yi
  have:=run_copy_k (P:=prog) W 133 133 ty 261 8 g (i*8) (n+1 - i) dc ⟨vb,0,none⟩ 1 1 vs underlying133 hsz jr
   (fun j u hj=>by
    rw [Addr.add_lit,vO,hWc,hW1,uL g _ _ _ _ (fun h _=>absurd h hvb)]
    exact hvs j u hj)
   (fun j hj=>by rw [hWc];exact hsp1 _ zj) (fun j _=>by rw [hWf,hW1,uU];exact hfz _) h1v
  rw [hmin] at this
  exact this
 rw [<-hW1] at hcp1
 have hw1:IntKind.i64.wrap ((i:Int)+1)=(i:Int)+1:=zv
 have hw2:IntKind.i64.wrap ((n:Int)+1)=(n:Int)+1:=zv
 have hb1:(0:Int)<=(i:Int)+1:=zj
 have hz2:¬((i:Int)=(n:Int)):=zj
 have hin:i<=n:=zj
 have htn:((i:Int)+1).toNat=i+1:=zj
 have htn2:((n:Int)+1).toNat=n+1:=zj
 have hb2:¬(cap=i+1):=zj
 have hb3:(i:Int)<=(n:Int)+1:=zj
 have hb4:¬(cap=i):=zj
 have hb5:¬((cap:Int)<(n:Int)+1):=zj
 clear htake hcs hgb hsp hfz hcell hsb hcm hxl hdl hvs h1v h1x hsa hfa hsp1 hbg
 go_enter func186,ntmps186
 go_wp2_with (simp only [hov])
 have mixed:prog.follows .mixedOrders=true:=zk
 go_region_law_o (refine step_copy_runI rfl _ _ 133 133 rfl _ _ ym ym (hcp1 _ _ _) ?_)
 clear mixed
 go_wp2_with (at_builtin;refine wpList_copy_runI _ rfl _ _ 133 133 rfl _ _ rfl rfl (hcp2 _ (fun _=>rfl) (fun _=>rfl) _ _) ?_)
 go_ret
 subst hW1
 exact hL.o w.drew rfl rfl rfl rfl
theorem insert_grow (w:World) (base g n cap i:Nat) (xs vs:List Value) (hown:w.ownsRow base 261 8 (.slice (some ⟨g,0,none⟩) n cap) n xs) (hn:n<=1000) (vb:Nat) (hv:vs.length=8)
  (hvs:∀j u,vs[j]? =some u->w.cell? ⟨vb,j,none⟩=some u) (h1v:∀u∈vs,u.oneCell'=true) (h1x:∀u∈xs,u.oneCell'=true) (hbase:base<=w.heap.size)
  (hi:i<n) (hroom:cap<n+1):
  Calls prog 186 #[.slice (some ⟨g,0,none⟩) n cap,.int .i64 i,.slice (some ⟨vb,0,none⟩) 1 1] w (Laid w base (.slice (some ⟨g,0,none⟩) n cap) n (xs.take (i*8)++vs++xs.drop (i*8))):=by
 obtain ⟨hxl,h2⟩:=hown
 rcases h2 with ⟨hc,_⟩ | ⟨g',cap',cur,hc,hbg,hgb,hnc,hcm,hcs,htake⟩
 ·cases hc
 cases hc
 obtain ⟨i0,hi0,hz0,hzs,hzb⟩:=info_parts infoEnt
 have hcell:∀j u,xs[j]? =some u->w.cell? ⟨g,j,none⟩=some u:=fun j u hj=>by
  have hlt:=(vi.1 hj).1
  rw [<-htake,un,if_pos zj] at hj
  simp [World.cell?,hgb,<-hj]
 have hgw:g<w.heap.size:=(vn.1 hgb).1
 have hvw:vb<w.heap.size:=block_lt_of_cell (hvs 0 _ (vj zj))
 have hsz:(prog.info? 261).map (·.size)=some 8:=by rw [hi0];simp [hzs]
 have htl:(xs.take (i*8)).length=i*8:=by rw [vP,hxl];omega
 have hdl:(xs.drop (i*8)).length=n*8 - i*8:=qu
 have hold:(Builtin.firstCells i0.size i (.slice (some ⟨g,0,none⟩) i cap)).run prog w.drew= .ok (xs.take (i*8)).toArray w.drew:=by
  rw [hzs]
  exact run_firstCells_some w.drew 8 i ⟨g,0,none⟩ i cap (xs.take (i*8)) htl (fun j u hj=>by
   rw [Addr.add_lit,vO]
   rw [un] at hj
   split at hj
   ·exact hcell j u hj
   ·cases hj)
 have hik:i+(n+1 - i)=n+1:=zj
 have hkk:(n:Int)+1 - (i:Int)=((n+1 - i:Nat):Int):=zj
 obtain ⟨Z,hZ⟩:=za ((Value.agg #[.int .i64 0,.int .i64 0,.int .i64 0,.int .i64 0,.string ⟨#[]⟩,.int .i64 0,.int .i64 0,.string ⟨#[]⟩]).cells)
 have hZs:Z.size=8:=by rw [hZ];rfl
 obtain ⟨G,hG⟩:=za (grownCap w (n+1) cap 261)
 have hGn:n+1<=G:=by rw [hG];exact grownCap_ge w _ _ _
 have hGm:G<=maxLen:=by rw [hG];exact grownCap_le_maxLen w (n+1) cap 261 yM
 obtain ⟨ROW,hROW⟩:∃ROW:Array Value,ROW=(xs.take (i*8)).toArray++Builtin.zeroCells Z (n+1 - i)++Builtin.zeroCells Z (G - (n+1)):=⟨_,rfl⟩
 have hrz:∀ty,(Builtin.append_ #[133,3] ty #[.slice (some ⟨g,0,none⟩) i cap,.int .i64 ((n:Int)+1 - (i:Int))]).run prog w= .ok (.slice (some ⟨w.heap.size,0,none⟩) (n+1) G) (w.drew.alloc (.cells ROW 261)):=fun ty=>by
  have h:=Lib.run_append_grow_zeros w 133 3 ty 261 i0 _ .i64 .i64 underlying133 underlying3 hi0 hz0 (some ⟨g,0,none⟩) i cap (xs.take (i*8)) hold (n+1 - i) zj zj zj zj (by rw [hzb];omega) xM
  rw [hik,<-hG,<-hZ,<-hROW] at h
  rw [hkk]
  exact h
 have hRs:ROW.size=G*8:=by
  rw [hROW]
  simp only [Array.size_append,vY,htl,size_zeroCells,hZs]
  omega
 have hRl:∃Y,ROW.toList=xs.take (i*8)++Y:=⟨(Builtin.zeroCells Z (n+1 - i)++Builtin.zeroCells Z (G - (n+1))).toList,by rw [hROW];simp⟩
 obtain ⟨W1,hW1⟩:=za (w.drew.alloc (.cells ROW 261))
 rw [<-hW1] at hrz
 have hN:∀j,j<(n+1)*8->(W1.cell? ⟨w.heap.size,j,none⟩).isSome=true:=fun j hj=>by
  rw [hW1,World.cell?_alloc_at (w:=w.drew) ROW _ w.heap.size j rfl,Ze zj];rfl
 have hNf:∀j,W1.frozen? ⟨w.heap.size,j,none⟩=false:=fun j=>by rw [hW1];exact World.frozen?_alloc_at (w:=w.drew) ROW _ w.heap.size j rfl
 have hOb:∀j u,w.cell? ⟨g,j,none⟩=some u->W1.cell? ⟨g,j,none⟩=some u:=fun j u h=>by rw [hW1,ZE (w:=w.drew) _ g j hgw];exact h
 have hOv:∀j u,w.cell? ⟨vb,j,none⟩=some u->W1.cell? ⟨vb,j,none⟩=some u:=fun j u h=>by rw [hW1,ZE (w:=w.drew) _ vb j hvw];exact h
 have hcpA:∀(W:World),(∀x,W.cell? x=W1.cell? x)->(∀x,W.frozen? x=W1.frozen? x)->∀ty dc,(Builtin.copy_ #[133,133] ty #[.slice (some ⟨w.heap.size,i*8,none⟩) (n+1 - i) dc,.slice (some ⟨vb,0,none⟩) 1 1]).run prog W= .ok (goInt 1) (W.setCells w.heap.size (i*8) vs):=fun W hWc hWf ty dc=>by
  have hmin:Nat.min 1 (n+1 - i)=1:=yi
  have:=run_copy_k (P:=prog) W 133 133 ty 261 8 w.heap.size (i*8) (n+1 - i) dc ⟨vb,0,none⟩ 1 1 vs underlying133 hsz jr
   (fun j u hj=>xr)
   (fun j hj=>by rw [hWc];exact hN _ zj) (fun j _=>by rw [hWf];exact hNf _) h1v
  rw [hmin] at this
  exact this
 have hgN:g≠w.heap.size:=zj
 have hcpB:∀(W:World),(∀x,W.cell? x=(W1.setCells w.heap.size (i*8) vs).cell? x)->(∀x,W.frozen? x=(W1.setCells w.heap.size (i*8) vs).frozen? x)->∀ty dc sc,(Builtin.copy_ #[133,133] ty #[.slice (some ⟨w.heap.size,(i+1)*8,none⟩) (n - i) dc,.slice (some ⟨g,i*8,none⟩) (n - i) sc]).run prog W= .ok (goInt ((n - i:Nat):Int)) (W.setCells w.heap.size ((i+1)*8) (xs.drop (i*8))):=fun W hWc hWf ty dc sc=>by
  have hmin:Nat.min (n - i) (n - i)=n - i:=by simp [Nat.min_def]
  have:=run_copy_k (P:=prog) W 133 133 ty 261 8 w.heap.size ((i+1)*8) (n - i) dc ⟨g,i*8,none⟩ (n - i) sc (xs.drop (i*8)) underlying133 hsz qV
   (fun j u hj=>by
    rw [Addr.add_lit,hWc,uL _ _ _ _ _ (fun h _=>absurd h hgN)]
    exact hOb _ u (hcell _ u (by rwa [uw] at hj)))
   (fun j hj=>by rw [hWc];exact isSome_setCells w.heap.size vs (i*8) W1 (fun t ht=>hN _ zj) _ (hN _ qM))
   (fun j _=>by rw [hWf,uU];exact hNf _) (fun u hu=>h1x u (uZ hu))
  rw [hmin] at this
  exact this
 have hL:Aside (∀W:World,W.heap=W1.heap->W.os=w.os->W.tape=w.tape->W.output=w.output->Laid w base (.slice (some ⟨g,0,none⟩) n cap) n (xs.take (i*8)++vs++xs.drop (i*8)) (.returned (.slice (some ⟨w.heap.size,0,none⟩) (n+1) G)) ((W.setCells w.heap.size (i*8) vs).setCells w.heap.size ((i+1)*8) (xs.drop (i*8)))):=by
  intro W h0 h2 h3 h4
  have hgW:W.heap[w.heap.size]? =some (.cells ROW 261 (0,0)):=jT
  obtain ⟨Y,hY⟩:=hRl
  have k1:=(setCells_keeps w.heap.size vs (i*8) W).trans (setCells_keeps w.heap.size (xs.drop (i*8)) ((i+1)*8) _)
  have hWs:W.heap.size=w.heap.size+1:=by rw [h0,hW1];simp
  exact ⟨_,rfl,owns_newIn hgW hY hRs hbase hGn hGm zj hxl hv,⟨k1.os.trans h2,k1.tape.trans h3,k1.output.trans h4,by have:=k1.size;omega,fun k hk hs=>by
   refine (k1.block k zj zj).trans ?_
   rw [h0,hW1]
   exact vy w.drew _ k hk⟩,.inr rfl⟩
 have hG63:G<=9223372036854775807:=by unfold maxLen at hGm;omega
 have hGi:¬(G=i):=zj
 have hGim:¬(G=i+1):=zj
 have hci:¬(cap=i):=zj
 have hw1:IntKind.i64.wrap ((i:Int)+1)=(i:Int)+1:=zv
 have hw2:IntKind.i64.wrap ((n:Int)+1)=(n:Int)+1:=zv
 have hw3:IntKind.i64.wrap ((n:Int)+1 - (i:Int))=(n:Int)+1 - (i:Int):=zv
 have hb1:(0:Int)<=(i:Int)+1:=zj
 have hz2:¬((i:Int)=(n:Int)):=zj
 have hin:i<=n:=zj
 have hin2:i<=cap:=zj
 have htn:((i:Int)+1).toNat=i+1:=zj
 have hb5:((cap:Int)<(n:Int)+1):=zj
 have hb6:¬((n:Int)+1<=(cap:Int)):=zj
 have hE1:∀x,((w.alloc (.cells ROW 261)).drew).cell? x=(w.drew.alloc (.cells ROW 261)).cell? x:=fun x=>rfl
 have hE2:∀x,((w.alloc (.cells ROW 261)).drew).frozen? x=(w.drew.alloc (.cells ROW 261)).frozen? x:=fun x=>rfl
 subst hW1
 have hF1:∀x,(((w.alloc (.cells ROW 261)).drew.setCells w.heap.size (i*8) vs).drew).cell? x=((w.drew.alloc (.cells ROW 261)).setCells w.heap.size (i*8) vs).cell? x:=fun x=>rfl
 have hF2:∀x,(((w.alloc (.cells ROW 261)).drew.setCells w.heap.size (i*8) vs).drew).frozen? x=((w.drew.alloc (.cells ROW 261)).setCells w.heap.size (i*8) vs).frozen? x:=fun x=>rfl
 clear htake hcs hgb hcell hcm hxl hdl htl hvs h1v h1x hbg hold hROW hG hRs hRl hN hNf hOb hOv hik hkk hGm hZ hZs hgw hvw
 go_enter func186,ntmps186
 go_wp2_with (first
  | (at_builtin;refine Lib.wpList_append_run _ rfl _ _ _ _ rfl _ _ rfl rfl _ _ (hrz _) ?_)
  | (at_builtin;refine wpList_copy_runI _ rfl _ _ 133 133 rfl _ _ rfl rfl (hcpA _ hE1 hE2 _ _) ?_))
 have mixed:prog.follows .mixedOrders=true:=zk
 go_region_law_o (refine step_copy_runI rfl _ _ 133 133 rfl (.slice (some ⟨w.heap.size,(i+1)*8,none⟩) (n - i) (G - (i+1))) (.slice (some ⟨g,i*8,none⟩) (n - i) (cap - i)) ym ym (hcpB _ hF1 hF2 3 (G - (i+1)) (cap - i)) ?_)
 clear mixed
 go_wp2
 go_ret
 rw [drew_setCells]
 exact hL.o ((w.alloc (.cells ROW 261)).drew.drew) rfl rfl rfl rfl
theorem layEnt_any (w:World) (base n i:Nat) (v:Value) (xs vs:List Value) (hown:w.ownsRow base 261 8 v n xs) (hn:n<=1000) (vb:Nat) (hv:vs.length=8)
  (hvs:∀j u,vs[j]? =some u->w.cell? ⟨vb,j,none⟩=some u) (h1v:∀u∈vs,u.oneCell'=true) (h1x:∀u∈xs,u.oneCell'=true) (hvb:some vb≠v.ownBlock) (hsa:w.shape? vb=some (261,8)) (hfa:∀j,w.frozen? ⟨vb,j,none⟩=false) (hbase:base<=w.heap.size) (hi:i<=n):
  Calls prog 186 #[v,.int .i64 i,.slice (some ⟨vb,0,none⟩) 1 1] w (Laid w base v n (xs.take (i*8)++vs++xs.drop (i*8))):=by
 by_cases he:i=n
 ·subst he
  have e1:xs.take (i*8)=xs:=vG xp
  have e2:xs.drop (i*8)= []:=uT xp
  rw [e1,e2,ur]
  exact insert_end w base v i xs vs hown hn vb hv hvs h1v hbase
 have hown':=hown
 rcases hown.2 with ⟨rfl,rfl⟩ | ⟨g,cap,cur,rfl,-⟩
 ·omega
 by_cases hroom:n+1<=cap
 ·exact insert_room w base g n cap i xs vs hown hn vb hv hvs h1v h1x (fun e=>hvb xP) hsa hfa zj hroom
 exact insert_grow w base g n cap i xs vs hown hn vb hv hvs h1v h1x hbase zj zj
end
section
open Go.Shelf Go.RowKit Go.Lib Go.Sort
def cmpI (a b:Int):Int:=if a<b then -1 else if b<a then 1 else 0
theorem isNaN_any (a:Int) (w:World):Calls prog 110 #[.int .i64 a] w fun e w'=>e= .returned (.bool false)/\w'=w:=by
 have d0:(a !=a)=false:=zm
 go_enter func110,ntmps110
 go_wp2
 go_ret
 exact ⟨rfl,rfl⟩
theorem compare_any (a b:Int) (w:World):Calls prog 68 #[.int .i64 a,.int .i64 b] w fun e w'=>e= .returned (.int .i64 (cmpI a b))/\w'=w:=by
 unfold cmpI
 by_cases h1:a<b
 ·have d1:decide (a<b)=true:=decide_eq_true h1
  rw [if_pos h1]
  go_enter func68,ntmps68
  go_wp2_with (go_at_call 110;refine (isNaN_any _ _).mono ?_;rintro e w' ⟨rfl,rfl⟩)
  go_ret
  exact ⟨rfl,rfl⟩
 have d1:decide (a<b)=false:=decide_eq_false h1
 rw [if_neg h1]
 by_cases h2:b<a
 ·have d2:decide (b<a)=true:=decide_eq_true h2
  rw [if_pos h2]
  go_enter func68,ntmps68
  go_wp2_with (go_at_call 110;refine (isNaN_any _ _).mono ?_;rintro e w' ⟨rfl,rfl⟩)
  go_ret
  exact ⟨rfl,rfl⟩
 have d2:decide (b<a)=false:=decide_eq_false h2
 rw [if_neg h2]
 go_enter func68,ntmps68
 go_wp2_with (go_at_call 110;refine (isNaN_any _ _).mono ?_;rintro e w' ⟨rfl,rfl⟩)
 go_ret
 exact ⟨rfl,rfl⟩
def cmpP (x y:Plc):Int:=cmpI x.1 y.1
theorem ltOf_cmpP (x y:Plc):ltOf cmpP x y=decide (x.1<y.1):=by
 unfold ltOf cmpP cmpI
 by_cases h1:x.1<y.1
 ·simp [h1]
 rw [if_neg h1]
 by_cases h2:y.1<x.1<;>simp [h1,h2]
theorem swo_cmpP:SWO (ltOf cmpP) where
 irrefl x:=by rw [ltOf_cmpP];simp
 trans x y z h1 h2:=by rw [ltOf_cmpP] at*;simp at*;omega
 ntrans x y z h1 h2:=by rw [ltOf_cmpP] at*;simp at*;omega
theorem closureP (x y:Plc) (w:World):Calls prog 67 (#[.agg (cellsP x).toArray,.agg (cellsP y).toArray]++ #[]) w fun e w'=>e= .returned (.int .i64 (cmpP x y))/\∃q os',w'=grow (w.drewN q) os':=by
 have hc:∀w',Calls prog 68 #[.int .i64 x.1,.int .i64 y.1] w' fun e w''=>e= .returned (.int .i64 (cmpP x y))/\w''=w':=fun w'=>compare_any _ _ _
 unfold cellsP
 go_enter func67,ntmps67
 go_wp2_with (go_at_call 68;refine (hc _).mono ?_;rintro e w' ⟨rfl,rfl⟩)
 go_ret
 exact ⟨rfl,0,_,yl⟩
theorem cmp_laysP (blk off size:Nat) (w:World):CmpLays prog 67 #[] cellsP 3 cmpP blk off size w:=fun _ _ _ _ x y=>closureP x y _
theorem eg_cmpP:∀args w,(callFunc 67 args).run prog w= .ok (.enter 67 args) w:=enters_of func67 zk rfl
theorem cellsP_len (x:Plc):(cellsP x).length=3:=rfl
theorem cellsP_one (x:Plc):∀v∈cellsP x,v.oneCell'=true:=by
 intro v hv
 simp only [cellsP,vz,Zc,or_false] at hv
 rcases hv with rfl | rfl | rfl<;>rfl
theorem sortWorld_keeps (w:World) (g n:Nat) (d:Array Plc) (os:Array Obj):Keeps (fun k=>k=g) w (sortWorldK cellsP 3 w g 0 n d os):=by
 refine ⟨rfl,rfl,rfl,?_,fun k hk hs=> ?_⟩
 ·simp [sortWorldK,putRowK,putRow,mapBlock,Sort.ahead,grow]
 have hgk:g≠k:=fun e=>hs e.symm
 simp only [sortWorldK,putRowK,putRow,mapBlock,Sort.ahead,grow]
 rw [Zv qP]
 simp [Array.getElem?_modify,hgk]
theorem holdsP {base:Nat} {ps:List Plc} (h:w.ownsRow base 98 3 (.slice (some ⟨g,0,none⟩) n cap) n (flat cellsP ps)) (hn:n=ps.length):HoldsK cellsP 3 w g 0 ps.toArray:=fun j hj=>by
 rw [size_flatK] at hj
 simp only [vY] at hj
 have h1:j / 3<ps.length:=zj
 have h2:j / 3*3+j % 3=j:=zj
 refine ⟨?_,yQ⟩
 rw [vO,h.cellAt j zj,get_flatK _ _ _ _ yB]
 have:=flat_get (enc:=cellsP) cellsP_len (L:=ps) (i:=j / 3) (c:=j % 3) (x:=ps[j / 3]) (vj h1) zj
 rw [h2] at this
 rw [this,getElem!_pos ps.toArray (j / 3) xX,uE,vj qF,getElem!_pos _ (j % 3) qF]
 rfl
theorem holds_cells {d:Array Plc} (h:HoldsK cellsP 3 w g 0 d) (j:Nat) (u:Value) (hj:(flat cellsP d.toList)[j]? =some u):w.cell? ⟨g,j,none⟩=some u:=by
 have hl:=(vi.1 hj).1
 rw [flat_len cellsP_len,uk] at hl
 have h1:j / 3<d.size:=zj
 have h2:j / 3*3+j % 3=j:=zj
 have H:=(h j qB).1
 rw [vO,get_flatK _ _ _ _ zj] at H
 have:=flat_get (enc:=cellsP) cellsP_len (L:=d.toList) (i:=j / 3) (c:=j % 3) (x:=d[j / 3]) (by rw [ZH,Ze h1]) zj
 rw [h2,hj,vj qF] at this
 rw [H,getElem!_pos d (j / 3) h1,getElem!_pos _ (j % 3) qF,this]
 rfl
theorem sortPl (w:World) (base g cap:Nat) (ps:List Plc) (hown:w.ownsRow base 98 3 (.slice (some ⟨g,0,none⟩) ps.length cap) ps.length (flat cellsP ps)) (hl:ps.length<=100000):
  Calls prog 108 #[.slice (some ⟨g,0,none⟩) ps.length cap,.func (.func 67) #[] #[]] w fun e w'=>e= .returned (.tuple #[])/\∃qs:List Plc,qs.Perm ps/\qs.Pairwise (fun a b=>¬b.1<a.1)/\(∀j u,(flat cellsP qs)[j]? =some u->w'.cell? ⟨g,j,none⟩=some u)/\Keeps (fun k=>k=g) w w':=by
 have hH:=holdsP hown rfl
 have hblk:g<w.heap.size:=(hown.lt g rfl).2
 have h:=AnyQ.slices_SortFunc sortLays 3 isAgg98 sizeOf98 cellsP cellsP_len cellsP_one cmpP swo_cmpP 67 #[] g 0 cap ps.toArray w eg_cmpP (cmp_laysP g 0 ps.toArray.size w) hH hblk zl
 refine Calls.mono h ?_
 rintro e w' ⟨rfl,d',n,os,hp,hs,rfl⟩
 simp only [vY] at hp hs
 have hsz:d'.size=ps.length:=xK
 have hperm:d'.toList.Perm ps:=by
  have:=hp.2.2
  simp only [Array.toList_extract] at this
  rw [uJ,uJ,uP,uP,Nat.sub_zero,vG (by simp [hsz]),vG zm] at this
  exact this
 refine ⟨rfl,d'.toList,hperm,?_,?_,sortWorld_keeps w g n d' os⟩
 ·rw [uh]
  intro i j hi hj hij
  have hi':i<d'.size:=xg
  have hj':j<d'.size:=yB
  have:=hs i j (vD _) hij zj
  rw [ltOf_cmpP,getElem!_pos d' i hi',getElem!_pos d' j hj'] at this
  simpa using this
 exact holds_cells ((show SWK cellsP 3 w g 0 d' _ from ⟨n,os,rfl⟩).holds hblk hH (by rw [hsz];simp))
theorem sortPl_none (p:Option Addr) (cap:Nat) (fv:Value) (w:World):Calls prog 108 #[.slice p 0 cap,fv] w fun e w'=>e= .returned (.tuple #[])/\w'=w:=
 AnyF.slices_SortFunc_none sortLays p cap fv w
