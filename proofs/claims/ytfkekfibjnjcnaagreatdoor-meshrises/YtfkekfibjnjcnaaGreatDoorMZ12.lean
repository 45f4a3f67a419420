import Derived.Test.YtfkekfibjnjcnaaGreatDoorMZ05
import Derived.Test.YtfkekfibjnjcnaaGreatDoorMZ06
import Derived.Test.YtfkekfibjnjcnaaGreatDoorMZ07
import Derived.Test.YtfkekfibjnjcnaaGreatDoorMZ08
import Derived.Maps.OwnIn
set_option linter.unusedSimpArgs false
set_option linter.unusedVariables false
set_option maxRecDepth 100000
set_option maxHeartbeats 64000000
namespace Go.Proofs.YtfkekfibjnjcnaaGreatDoor
open Go.Proofs.Tryz
variable {s:ByteArray} {f:CSta} {T:Int} {bc bm i n:Nat} {ad:Nat→Addr} {x:OpX} {R:Rws} {w w':World}
section
open Go.RowKit Go.Maps
structure CellsAt (w:World) (bc bm n:Nat) (f:CSta):Prop where
 cell:w.heap[bc]? =some (.cells #[.map (some bm)] 196 (0,0))
 map:CMapAt w bm n f
theorem CellsAt.c0 (h:CellsAt w bc bm n f):w.cell? ⟨bc,0,none⟩=some (.map (some bm)):=by simp [World.cell?,h.cell]
theorem CellsAt.lt {w:World} {bc bm n:Nat} {f:CSta} (h:CellsAt w bc bm n f):bc<w.heap.size/\bm<w.heap.size:=⟨(vn.1 h.cell).1,h.map.lt⟩
theorem CellsAt.ne (h:CellsAt w bc bm n f):bc≠bm:=fun e=>by
 obtain ⟨⟨D,⟨es,clock,hb,_⟩,_⟩,_⟩:=h.map
 have:=h.cell
 rw [e,hb] at this
 cases this
theorem CellsAt.same {w w':World} {bc bm n:Nat} {f:CSta} (h:CellsAt w bc bm n f) (h1:w'.heap[bc]? =w.heap[bc]?) (h2:w'.heap[bm]? =w.heap[bm]?):CellsAt w' bc bm n f:=⟨h1.trans h.cell,h.map.same h2⟩
theorem CellsAt.later (h:CellsAt w bc bm n f) (hb:Below w.heap.size w w'):CellsAt w' bc bm n f:=h.same (hb.block _ h.lt.1) (hb.block _ h.lt.2)
theorem CellsAt.mono {w:World} {bc bm n n':Nat} {f:CSta} (h:CellsAt w bc bm n f) (hn:n<=n'):CellsAt w bc bm n' f:=⟨h.cell,h.map.mono hn⟩
theorem cellsNew (w:World):Calls prog 80 #[] w fun e w'=>e= .returned (.pointer (some ⟨w.heap.size+1,0,none⟩))/\w'=(w.alloc (.map #[] 0)).alloc (.cells #[.map (some w.heap.size)] 196):=by
 have hmm:= @run_makeMap prog
 go_enter func80,ntmps80
 go_wp2
 go_ret
 exact ⟨rfl,rfl⟩
theorem all_any (w:World) (bc bm:Nat) (h:w.cell? ⟨bc,0,none⟩=some (.map (some bm))):Calls prog 73 #[.pointer (some ⟨bc,0,none⟩)] w fun e w'=>e= .returned (.map (some bm))/\w'=w:=by
 go_enter func73,ntmps73
 go_wp2
 go_ret
 exact ⟨rfl,rfl⟩
theorem lessB_clt (a b:Int×Int):lessB a.1 a.2 b.1 b.2=decide (CLt a b):=by
 unfold lessB CLt
 by_cases h:a.1=b.1
 ·rw [if_pos h]
  simp [h]
 rw [if_neg h]
 simp [h]
def CPutOk (w:World) (bc bm n:Nat) (f:CSta) (m:CKey×CMark) (w':World):Prop:=CellsAt w' bc bm (n+1) (setC f m)/\Keeps (fun j=>j=bm) w w'
theorem put_any (w:World) (bc bm n:Nat) (f:CSta) (a:Int) (s c:ByteArray) (t b:Int) (h:CellsAt w bc bm n f) (hn:n<=1000000) (hk:WfK (a,s)):
  Calls prog 192 #[.pointer (some ⟨bc,0,none⟩),.agg #[.int .i64 a,.string s],.agg #[.string c,.int .i64 t,.int .i64 b]] w fun e w'=>e= .returned (.bool (goesC f (a,s) (c,(t,b))))/\CPutOk w bc bm n f ((a,s),(c,(t,b))) w':=by
 obtain ⟨S,hS⟩:=za w.heap.size
 obtain ⟨U,hU⟩:=za ((w.alloc (.cells #[.int .i64 a,.string s] 143)).alloc (.cells #[.string c,.int .i64 t,.int .i64 b] 145))
 have hKU:Keeps (fun _=>False) w U:=by rw [hU];exact ((Keeps.refl _ w).alloc _).alloc _
 have hsU:U.heap.size=S+2:=by rw [hU,hS];simp
 have hu1:U.heap[S+1]? =some (.cells #[.string c,.int .i64 t,.int .i64 b] 145 (0,0)):=by
  have:=heap_alloc_new (w.alloc (.cells #[.int .i64 a,.string s] 143)) (.cells #[.string c,.int .i64 t,.int .i64 b] 145)
  rw [vQ] at this
  rw [hU,hS]
  exact this
 have hu0:U.heap[S]? =some (.cells #[.int .i64 a,.string s] 143 (0,0)):=by
  rw [hU,hS,vy _ _ _ zm]
  exact heap_alloc_new w _
 have hA:CellsAt U bc bm n f:=h.same (hKU.block _ h.lt.1 (fun e=>e)) (hKU.block _ h.lt.2 (fun e=>e))
 obtain ⟨Z,hZ⟩:=za (U.alloc (.cells #[.string ⟨#[]⟩,.int .i64 0,.int .i64 0] 145))
 have hbZ:Below U.heap.size U Z:=by rw [hZ];exact zh U _
 have hAZ:CellsAt Z bc bm n f:=hA.later hbZ
 have c0:U.cell? ⟨bc,0,none⟩=some (.map (some bm)):=hA.c0
 have c1:=hAZ.c0
 have l0:=(hA.later (vu _ U).drew).map.look hk
 have l1:=(hAZ.later (vu _ Z).drew).map.look hk
 have k0:U.cell? ⟨S,0,none⟩=some (.int .i64 a):=by simp [World.cell?,hu0]
 have k1:U.cell? ⟨S,1,none⟩=some (.string s):=by simp [World.cell?,hu0]
 have j0:Z.cell? ⟨S,0,none⟩=some (.int .i64 a):=(hbZ.cell (p:=⟨S,0,none⟩) zR).trans k0
 have j1:Z.cell? ⟨S,1,none⟩=some (.string s):=(hbZ.cell (p:=⟨S,1,none⟩) zR).trans k1
 unfold encK at l0 l1
 cases hf:f (a,s) with
 | none=>
  have hg:goesC f (a,s) (c,(t,b))=true:=by unfold goesC;rw [hf]
  rw [hg]
  rw [hf] at l0 l1
  simp only [Option.getD_none,Zt] at l0 l1
  unfold encC zeroC at l0 l1
  dsimp only at l0 l1
  have HA:Aside (CellsAt U bc bm n f/\Keeps (fun _=>False) w U/\U.heap.size=S+2/\U.heap[S]? =some (.cells #[.int .i64 a,.string s] 143 (0,0))/\U.heap[S+1]? =some (.cells #[.string c,.int .i64 t,.int .i64 b] 145 (0,0))):=⟨hA,hKU,hsU,hu0,hu1⟩
  clear hA hKU hu0 hu1 hAZ hbZ h hg
  subst hZ
  go_enter func192,ntmps192
  go_wp2_with fail
  rw [<-hU,<-hS]
  have HS:Aside (S=w.heap.size):=hS
  clear hU hS
  have hu1':=HA.o.2.2.2.2
  have hbV:=(vu U.heap.size U).alloc zg (.cells #[.string ⟨#[]⟩,.int .i64 0,.int .i64 0] 145)
  have m0:(U.alloc (.cells #[.string ⟨#[]⟩,.int .i64 0,.int .i64 0] 145)).cell? ⟨S+1,0,none⟩=some (.string c):=(hbV.cell (p:=⟨S+1,0,none⟩) zR).trans xQ
  have m1:(U.alloc (.cells #[.string ⟨#[]⟩,.int .i64 0,.int .i64 0] 145)).cell? ⟨S+1,1,none⟩=some (.int .i64 t):=(hbV.cell (p:=⟨S+1,1,none⟩) zR).trans xQ
  have m2:(U.alloc (.cells #[.string ⟨#[]⟩,.int .i64 0,.int .i64 0] 145)).cell? ⟨S+1,2,none⟩=some (.int .i64 b):=(hbV.cell (p:=⟨S+1,2,none⟩) zR).trans xQ
  obtain ⟨w2,hrun,hM2,hT2⟩:=((HA.o.1.later hbV).later (vu _ _).drew |>.later (vu _ _).drew).map.store zw hk (c,(t,b))
  have HP:Aside (CPutOk w bc bm n f ((a,s),(c,(t,b))) w2):=by
   have hKV:=keeps_of_grown hT2.grown
   have hne:=HA.o.1.ne
   have hlt:=HA.o.1.lt
   have hs2:=hbV.size
   refine ⟨⟨?_,?_⟩,?_⟩
   ·rw [hKV.block bc (by simp [World.drew];omega) (fun e=>hne yr)]
    exact (hbV.block bc hlt.1).trans HA.o.1.cell
   ·have:setC f ((a,s),(c,(t,b)))=fun x=>if x=(a,s) then some (c,(t,b)) else f x:=setC_goes (by unfold goesC;rw [hf])
    rw [this]
    exact hM2
   exact ((HA.o.2.1.mono (fun _ _ e=>e.elim)).then (((keeps_of_below hbV).drew).drew) (fun i hi e=>by have:=HA.o.2.1.size;omega)).then hKV (fun i hi e=>yr)
  unfold encK encC at hrun
  dsimp only at hrun
  have HR:=HP
  clear hM2 hT2 hbV hu1'
  go_region
  all_goals
   go_wp2_with fail
   go_region
  all_goals
   go_wp2
   go_ret
   exact ⟨rfl,HP.o⟩
 | some o=>
  obtain ⟨vo,tO,bo⟩:=o
  rw [hf] at l0 l1
  simp only [Zy,Zu] at l0 l1
  unfold encC at l0 l1
  dsimp only at l0 l1
  obtain ⟨V,hV⟩:=za ((U.alloc (.cells #[.string vo,.int .i64 tO,.int .i64 bo] 145)).drew)
  have hbV:Below U.heap.size U V:=by rw [hV];exact ((vu U.heap.size U).alloc zg _).drew
  have hv1:V.heap[S+1]? =some (.cells #[.string c,.int .i64 t,.int .i64 b] 145 (0,0)):=(hbV.block _ zj).trans hu1
  have hv0:V.heap[S]? =some (.cells #[.int .i64 a,.string s] 143 (0,0)):=(hbV.block _ zj).trans hu0
  have hv2:V.heap[S+2]? =some (.cells #[.string vo,.int .i64 tO,.int .i64 bo] 145 (0,0)):=by
   rw [hV,<-hsU]
   exact heap_alloc_new U _
  have hKV:Keeps (fun _=>False) w V:=(hKU.then (keeps_of_below hbV) (fun i hi e=>by have:=hKU.size;omega))
  have hAV:CellsAt V bc bm n f:=hA.later hbV
  have hsV:V.heap.size=S+3:=by rw [hV];show (U.alloc _).heap.size=_;rw [vQ,hsU]
  have hg:goesC f (a,s) (c,(t,b))=lessB tO bo t b:=by unfold goesC;rw [hf];exact (lessB_clt (tO,bo) (t,b)).symm
  rw [hg]
  have HA:Aside (CellsAt V bc bm n f/\Keeps (fun _=>False) w V/\V.heap.size=S+3/\V.heap[S]? =some (.cells #[.int .i64 a,.string s] 143 (0,0))/\V.heap[S+1]? =some (.cells #[.string c,.int .i64 t,.int .i64 b] 145 (0,0))/\V.heap[S+2]? =some (.cells #[.string vo,.int .i64 tO,.int .i64 bo] 145 (0,0))/\goesC f (a,s) (c,(t,b))=lessB tO bo t b):=⟨hAV,hKV,hsV,hv0,hv1,hv2,hg⟩
  have x1:V.cell? ⟨S+1,1,none⟩=some (.int .i64 t):=by simp [World.cell?,hv1]
  have x2:V.cell? ⟨S+1,2,none⟩=some (.int .i64 b):=by simp [World.cell?,hv1]
  have y1:V.cell? ⟨S+2,1,none⟩=some (.int .i64 tO):=yK
  have y2:V.cell? ⟨S+2,2,none⟩=some (.int .i64 bo):=yK
  clear hA hKU hu0 hu1 hAZ hbZ h hg hbV hv0 hv1 hv2 hKV hAV hsV
  subst hZ
  go_enter func192,ntmps192
  go_wp2_with fail
  rw [<-hU,<-hS]
  have HS:Aside (S=w.heap.size):=hS
  clear hU hS
  go_region
  all_goals
   rw [<-hV]
   clear l0 l1 c0 c1 k0 k1 j0 j1 hV
   go_wp2_with fail
   refine (less_any tO bo t b _).mono ?_
   rintro e w3 ⟨rfl,hb3⟩
   have hA3:CellsAt w3 bc bm n f:=HA.o.1.later hb3
   have hK3:Keeps (fun _=>False) w w3:=HA.o.2.1.then (keeps_of_below hb3) (fun i hi e=>by have:=HA.o.2.1.size;omega)
   cases hl:lessB tO bo t b with
   | false=>
    have HP:Aside (CPutOk w bc bm n f ((a,s),(c,(t,b))) w3):=by
     have:setC f ((a,s),(c,(t,b)))=f:=setC_stays (HA.o.2.2.2.2.2.2.trans hl)
     exact ⟨by rw [this];exact hA3.mono (Nat.le_succ n),hK3.mono (fun _ _ e=>e.elim)⟩
    clear hA3 hK3 hb3
    go_wp2
    go_ret
    exact ⟨by rw [hl];rfl,HP.o⟩
   | true=>
    obtain ⟨w2,hrun,hM2,hT2⟩:=(hA3.later (vu _ _).drew).map.store zw hk (c,(t,b))
    have HP:Aside (CPutOk w bc bm n f ((a,s),(c,(t,b))) w2):=by
     have hKV:=keeps_of_grown hT2.grown
     refine ⟨⟨?_,?_⟩,?_⟩
     ·rw [hKV.block bc hA3.lt.1 (fun e=>hA3.ne yr)]
      exact hA3.cell
     ·have:setC f ((a,s),(c,(t,b)))=fun x=>if x=(a,s) then some (c,(t,b)) else f x:=setC_goes (HA.o.2.2.2.2.2.2.trans hl)
      rw [this]
      exact hM2
     exact ((hK3.mono (fun _ _ e=>e.elim)).drew).then hKV (fun i hi e=>yr)
    have c3:=hA3.c0
    have hs3:=HA.o.2.2.1
    have k0:w3.cell? ⟨S,0,none⟩=some (.int .i64 a):=(hb3.cell (p:=⟨S,0,none⟩) zR).trans (by simp [World.cell?,HA.o.2.2.2.1])
    have k1:w3.cell? ⟨S,1,none⟩=some (.string s):=(hb3.cell (p:=⟨S,1,none⟩) zR).trans (by simp [World.cell?,HA.o.2.2.2.1])
    have m0:w3.cell? ⟨S+1,0,none⟩=some (.string c):=(hb3.cell (p:=⟨S+1,0,none⟩) zR).trans qq
    have m1:w3.cell? ⟨S+1,1,none⟩=some (.int .i64 t):=(hb3.cell (p:=⟨S+1,1,none⟩) zR).trans qq
    have m2:w3.cell? ⟨S+1,2,none⟩=some (.int .i64 b):=(hb3.cell (p:=⟨S+1,2,none⟩) zR).trans qq
    unfold encK encC at hrun
    dsimp only at hrun
    clear hA3 hK3 hb3 hM2 hT2 hs3
    go_wp2_with fail
    go_region
    all_goals
     go_wp2
     go_ret
     exact ⟨by rw [hl];rfl,HP.o⟩
end
section
open Go.RowKit Go.Maps
def setE_ (x:OpX):Nat:=if errO x=0 then (if x.2.2.2.1=115 then 0 else 5) else errO x
def setD (f:CSta) (x:OpX):Bool:=if errO x=0/\x.2.2.2.1=115 then goesC f (keyO x) (cellO x) else false
def SetOk (w:World) (bc bm n:Nat) (f:CSta) (x:OpX) (w':World):Prop:=CellsAt w' bc bm (n+1) (stepO f x)/\Keeps (fun j=>j=bm) w w'
theorem setOk_none (h:CellsAt w bc bm n f) (hx:¬(errO x=0/\x.2.2.2.1=115)) (hb:Below w.heap.size w w'):SetOk w bc bm n f x w':=by
 have:stepO f x=f:=by unfold stepO;rw [if_neg hx]
 exact ⟨by rw [this];exact (h.later hb).mono (Nat.le_succ n),(keeps_of_below hb).mono (fun k hk e=>zj)⟩
theorem wfK_op {t b n:Int} {k:Nat} {node other:Int} {name value:ByteArray} (h:opE t b n k node other name.data.toList value.data.toList=0) (hs:name.size<=1000000):WfK (node,name):=by
 obtain ⟨h1,h2,h3,h4,h5,h6,h7,h8,h9,_⟩:=opE_zero h
 exact wfK_of zR zR hs
theorem cset_wrong (w:World) (bc:Nat) (t b n:Int) (k:Nat) (node other:Int) (name value:ByteArray) (hE:Op4 ad w) (hsn:name.size<=1000000) (hsv:value.size<=1000000) (hop:opE t b n k node other name.data.toList value.data.toList≠0):
  Calls prog 136 #[.pointer (some ⟨bc,0,none⟩),.agg #[.int .i64 t,.int .i64 b,.int .i64 n,.int .u8 (k:Int),.int .i64 node,.int .i64 other,.string name,.string value]] w fun e w'=>e= .returned (.tuple #[.bool false,eV ad (opE t b n k node other name.data.toList value.data.toList)])/\Below w.heap.size w w':=by
 obtain ⟨w1,hw1⟩:=za (w.alloc (.cells #[.int .i64 t,.int .i64 b,.int .i64 n,.int .u8 (k:Int),.int .i64 node,.int .i64 other,.string name,.string value] 41))
 have B1:Below w.heap.size w w1:=jG
 have hck:=opcheck_any t b n k node other name value w1 (hE.later B1) hsn hsv
 obtain ⟨er,her⟩:∃er,Aside (opE t b n k node other name.data.toList value.data.toList=er):=⟨_,rfl⟩
 rw [her.o] at hck hop |-
 unfold eV at hck |-
 rw [if_neg hop] at hck |-
 have H1:Aside (Below w.heap.size w w1):=B1
 clear B1 hE hop
 go_enter func136,ntmps136
 go_wp2_with fail
 rw [<-hw1]
 clear hw1
 refine hck.mono ?_
 clear hck
 rintro e w2 ⟨rfl,hb2⟩
 have H2:Aside (Below w.heap.size w w2):=zi H1.o hb2
 clear hb2 H1
 go_wp2
 go_ret2
 exact ⟨rfl,H2.o⟩
theorem cset_kind (w:World) (bc:Nat) (t b n:Int) (k:Nat) (node other:Int) (name value:ByteArray) (hE:Op4 ad w) (hsn:name.size<=1000000) (hsv:value.size<=1000000) (hop:opE t b n k node other name.data.toList value.data.toList=0) (hk:k≠115):
  Calls prog 136 #[.pointer (some ⟨bc,0,none⟩),.agg #[.int .i64 t,.int .i64 b,.int .i64 n,.int .u8 (k:Int),.int .i64 node,.int .i64 other,.string name,.string value]] w fun e w'=>e= .returned (.tuple #[.bool false,eV ad 5])/\Below w.heap.size w w':=by
 obtain ⟨w1,hw1⟩:=za (w.alloc (.cells #[.int .i64 t,.int .i64 b,.int .i64 n,.int .u8 (k:Int),.int .i64 node,.int .i64 other,.string name,.string value] 41))
 have O1:OpAt w1 w.heap.size t b n k node other name value:=by rw [hw1];exact OpAt.new w t b n k node other name value 41
 have B1:Below w.heap.size w w1:=jG
 have hck:=opcheck_any t b n k node other name value w1 (hE.later B1) hsn hsv
 rw [hop] at hck
 have e0:eV ad 0= .nilIface:=rfl
 rw [e0] at hck
 have e5:eV ad 5= .iface 350 (.pointer (some (ad 4))):=rfl
 rw [e5]
 have H1:Aside (OpAt w1 w.heap.size t b n k node other name value/\Op4 ad w1/\Below w.heap.size w w1):=⟨O1,hE.later B1,B1⟩
 have dk:((k:Int) !=115)=true:=zl
 clear B1 hE hop O1 e0 e5
 go_enter func136,ntmps136
 go_wp2_with fail
 rw [<-hw1]
 clear hw1
 refine hck.mono ?_
 clear hck
 rintro e w2 ⟨rfl,hb2⟩
 have c3:=(H1.o.1.later hb2).c3
 have g4:=(H1.o.2.1.later hb2).c4
 have H2:Aside (Below w.heap.size w w2):=zi H1.o.2.2 hb2
 clear hb2 H1
 go_wp2_with fail
 go_quiet (fail)
 go_wp2
 go_ret2
 exact ⟨rfl,⟨H2.o.os,H2.o.tape,H2.o.output,H2.o.size,H2.o.block⟩⟩
theorem cset_ok (w:World) (bc bm m:Nat) (f:CSta) (t b n node other:Int) (name value:ByteArray) (hE:Op4 ad w) (hC:CellsAt w bc bm m f) (hm:m<=1000000) (hsn:name.size<=1000000) (hsv:value.size<=1000000) (hop:opE t b n 115 node other name.data.toList value.data.toList=0):
  Calls prog 136 #[.pointer (some ⟨bc,0,none⟩),.agg #[.int .i64 t,.int .i64 b,.int .i64 n,.int .u8 (115:Int),.int .i64 node,.int .i64 other,.string name,.string value]] w fun e w'=>e= .returned (.tuple #[.bool (goesC f (node,name) (value,(t,b))),.nilIface])/\CPutOk w bc bm m f ((node,name),(value,(t,b))) w':=by
 obtain ⟨w1,hw1⟩:=za (w.alloc (.cells #[.int .i64 t,.int .i64 b,.int .i64 n,.int .u8 (115:Int),.int .i64 node,.int .i64 other,.string name,.string value] 41))
 have O1:OpAt w1 w.heap.size t b n 115 node other name value:=by rw [hw1];exact OpAt.new w t b n 115 node other name value 41
 have B1:Below w.heap.size w w1:=jG
 have hck:=opcheck_any t b n 115 node other name value w1 (hE.later B1) hsn hsv
 have hwf:=wfK_op hop hsn
 rw [hop] at hck
 have e0:eV ad 0= .nilIface:=rfl
 rw [e0] at hck
 have H1:Aside (OpAt w1 w.heap.size t b n 115 node other name value/\CellsAt w1 bc bm m f/\Below w.heap.size w w1/\WfK (node,name)):=⟨O1,hC.later B1,B1,hwf⟩
 clear B1 hE hop O1 e0 hC hwf
 go_enter func136,ntmps136
 go_wp2_with fail
 rw [<-hw1]
 clear hw1
 refine hck.mono ?_
 clear hck
 rintro e w2 ⟨rfl,hb2⟩
 obtain ⟨c0,c1,c2,c3,c4,c5,c6,c7⟩:=H1.o.1.later hb2
 have hput:=put_any w2 bc bm m f node name value t b (H1.o.2.1.later hb2) hm H1.o.2.2.2
 have H2:Aside (Below w.heap.size w w2):=zi H1.o.2.2.1 hb2
 clear hb2 H1
 go_wp2_with fail
 refine hput.mono ?_
 clear hput
 rintro e w3 ⟨rfl,hP⟩
 have HP:Aside (CPutOk w bc bm m f ((node,name),(value,(t,b))) w3):=⟨hP.1,(keeps_of_below H2.o).mono (fun k hk e=>zj) |>.then hP.2 (fun i hi e=>e)⟩
 clear hP H2
 go_wp2
 go_ret2
 exact ⟨rfl,HP.o⟩
theorem cset_all (w:World) (bc bm m:Nat) (f:CSta) (t b n:Int) (k:Nat) (node other:Int) (name value:ByteArray) (hE:Op4 ad w) (hC:CellsAt w bc bm m f) (hm:m<=1000000) (hsn:name.size<=1000000) (hsv:value.size<=1000000):
  Calls prog 136 #[.pointer (some ⟨bc,0,none⟩),.agg #[.int .i64 t,.int .i64 b,.int .i64 n,.int .u8 (k:Int),.int .i64 node,.int .i64 other,.string name,.string value]] w fun e w'=>e= .returned (.tuple #[.bool (setD f (t,b,n,k,node,other,name,value)),eV ad (setE_ (t,b,n,k,node,other,name,value))])/\SetOk w bc bm m f (t,b,n,k,node,other,name,value) w':=by
 by_cases h0:opE t b n k node other name.data.toList value.data.toList=0
 ·by_cases hk:k=115
  ·subst hk
   have hx:errO (t,b,n,115,node,other,name,value)=0/\(115:Nat)=115:=⟨h0,rfl⟩
   have e1:setD f (t,b,n,115,node,other,name,value)=goesC f (node,name) (value,(t,b)):=by unfold setD;rw [if_pos hx];rfl
   have e2:setE_ (t,b,n,115,node,other,name,value)=0:=by unfold setE_;rw [if_pos (show errO (t,b,n,115,node,other,name,value)=0 from h0)];rfl
   have e3:stepO f (t,b,n,115,node,other,name,value)=setC f ((node,name),(value,(t,b))):=by unfold stepO;rw [if_pos hx];rfl
   rw [e1,e2]
   refine (cset_ok w bc bm m f t b n node other name value hE hC hm hsn hsv h0).mono ?_
   rintro e w' ⟨rfl,hP⟩
   exact ⟨rfl,by rw [e3];exact hP.1,hP.2⟩
  have hx:¬(errO (t,b,n,k,node,other,name,value)=0/\k=115):=fun h=>hk h.2
  have e1:setD f (t,b,n,k,node,other,name,value)=false:=by unfold setD;rw [if_neg hx]
  have e2:setE_ (t,b,n,k,node,other,name,value)=5:=by unfold setE_;rw [if_pos (show errO (t,b,n,k,node,other,name,value)=0 from h0)];exact if_neg hk
  rw [e1,e2]
  refine (cset_kind w bc t b n k node other name value hE hsn hsv h0 hk).mono ?_
  rintro e w' ⟨rfl,hb⟩
  exact ⟨rfl,setOk_none hC hx hb⟩
 have hx:¬(errO (t,b,n,k,node,other,name,value)=0/\k=115):=fun h=>h0 h.1
 have e1:setD f (t,b,n,k,node,other,name,value)=false:=by unfold setD;rw [if_neg hx]
 have e2:setE_ (t,b,n,k,node,other,name,value)=opE t b n k node other name.data.toList value.data.toList:=by unfold setE_;rw [if_neg (show ¬errO (t,b,n,k,node,other,name,value)=0 from h0)];rfl
 rw [e1,e2]
 refine (cset_wrong w bc t b n k node other name value hE hsn hsv h0).mono ?_
 rintro e w' ⟨rfl,hb⟩
 exact ⟨rfl,setOk_none hC hx hb⟩
end
section
open Go.RowKit Go.Maps
theorem infoM:(prog.info? 107).map (fun i=>(i.zero,i.size,i.bytes))=some (some (.agg #[.int .i64 0,.string ⟨#[]⟩,.string ⟨#[]⟩]),3,40):=zk
theorem emptyYes (h:s.size=0):s.toList.isEmpty=true:=by
 rw [vE]
 have:s.data.toList.length=0:=qO
 rw [vM.1 this]
 rfl
theorem emptyNo (h:s.size≠0):s.toList.isEmpty=false:=by
 rw [vE]
 have:s.data.toList.length≠0:=qO
 cases hs:s.data.toList with
 | nil=>rw [hs] at this;simp at this
 | cons a r=>rfl
theorem lit_cellsM (w:World) (a:Int) (s c:ByteArray) (j:Nat) (u:Value) (hj:(cellsM (a,s,c))[j]? =some u):(w.alloc (.cells #[.int .i64 a,.string s,.string c] 107)).cell? ((⟨w.heap.size,0,none⟩:Addr).add j)=some u:=by
 rw [Addr.add_lit,vO]
 have h:=heap_alloc_new w (.cells #[.int .i64 a,.string s,.string c] 107)
 simp only [World.cell?,h]
 rw [<-hj]
 simp [cellsM]
theorem marks_new (w:World) (bc bm n:Nat) (f:CSta) (hC:CellsAt w bc bm n f) (hn:n<=100000):
  Calls prog 45 #[.pointer (some ⟨bc,0,none⟩)] w fun e w'=>∃ao cap qs,e= .returned (.slice ao qs.length cap)/\IsMarks f qs/\qs.length<=n/\InRow cellsM w' ao qs/\Below w.heap.size w w'/\∀g o,ao=some ⟨g,o,none⟩->w.heap.size<=g:=by
 obtain ⟨i0,hi,hz0,hz1,hz2⟩:=info_parts infoM
 have hall:=all_any w bc bm hC.c0
 obtain ⟨⟨D,hown,hr⟩,hg⟩:=hC.map
 have hsn:=hown.size_le
 have hlt:=hC.lt
 clear hC
 go_enter func45,ntmps45
 go_wp2_with (first
  | (go_at_call 73;refine hall.mono ?_;clear hall;rintro e w' ⟨rfl,hw'⟩;have hw2:=hw'.symm;subst hw2)
  | (at_range;refine wpList_range_own _ rfl _ 140 rfl 143 145 lawK underlying140 _ bm n D rfl hown ?_;intro w0 hrg0 hg0 hs0)
  | go_in)
 go_frame
 have hb0:Below w.heap.size w w0:=(vu _ w).grown hg0 zg (by intro k hk;cases hk)
 obtain ⟨r,hr0⟩:=ze w.heap.size
 rw [<-hr0.o] at hrg0 |-
 have H0:Aside (w0.ranges prog 143 mrkR bm r n D (has D) (size D)/\Below w.heap.size w w0/\ReadsC D f/\GoodC f/\bm<w.heap.size):=⟨hrg0,hb0,hr,hg,hlt.2⟩
 clear hrg0 hg0 hs0 hb0 hr hg hlt hown
 go_loopw [3] (fun s3 wr=>∃(left:Lit->Bool) (cnt:Nat) (ps:List Mrk) (v:Value),v=s3/\Aside (wr.ranges prog 143 mrkR bm r n D left cnt/\ps.length+cnt<=n/\CollM f left ps/\wr.ownsRow (r+1) 107 3 v ps.length (flat cellsM ps)/\Below w.heap.size w wr/\r<wr.heap.size))
  (fun _ wr=>wr.rangeLeft bm r)
 case atStart=>exact ⟨_,_,[],_,rfl,⟨H0.o.1,by simpa using hsn,collM_start H0.o.2.2.1 H0.o.2.2.2.1,ud _ _ _ _,H0.o.2.1,H0.o.1.lt⟩⟩
 case round=>
  obtain ⟨left,cnt,ps,v,rfl,A⟩:=hrel
  obtain ⟨u,hu⟩:=za wr
  subst hu
  have hrg:=A.o.1
  go_wp2_with (first
   | (at_next;refine wpList_next_ranges _ rfl _ rfl 143 lawK mrkR encK encC (fun key kl hk=>by obtain ⟨x,_,hx,_⟩:=key_inv hk;exact ⟨x,hx⟩) (fun v y hv=>by obtain ⟨c,rfl,_⟩:=mrkR_inv hv;exact ⟨c,rfl⟩) bm r n _ _ _ rfl hrg ?_ ?_)
   | go_in)
  ·intro hc0 hl0
   have hall:=A.o.2.2.1.all hl0
   have hpn:ps.length<=n:=jH
   have hown:=A.o.2.2.2.1
   have hbel:=A.o.2.2.2.2.1
   have hr1:=hr0.o
   rcases hown.2 with ⟨rfl,h0⟩ | ⟨g,cap,cur,rfl,hbg,-⟩
   ·have hps:ps= []:=vM.1 h0
    have HH:Aside (IsMarks f []/\Below w.heap.size w u):=⟨by subst hps;exact hall.marks (List.Perm.refl _) List.Pairwise.nil,hbel⟩
    clear hall hown hbel hps h0 hc0 hl0 hr1
    go_wp2_with (go_at_call 74;refine (sortMk_none none 0 _ _).mono ?_;rintro e w' ⟨rfl,rfl⟩)
    go_ret
    exact ⟨none,0,[],rfl,HH.o.1,vD _,.inl rfl,HH.o.2,fun g o e=>qC⟩
   have hs:=sortMk u (r+1) g cap ps hown zj
   have hgl:=(hown.lt g rfl).2
   have HH:Aside (AllM f ps/\ps.length<=n/\Below w.heap.size w u/\w.heap.size<=g/\g<u.heap.size):=⟨hall,hpn,hbel,zj,hgl⟩
   clear hall hown hbel hpn hbg hgl hc0 hl0 hr1
   go_wp2_with fail
   refine hs.mono ?_
   clear hs
   rintro e w2 ⟨rfl,qs,hp,hpw,hcells,hk⟩
   have H2:Aside (IsMarks f qs/\qs.length=ps.length/\qs.length<=n/\(∀j u,(flat cellsM qs)[j]? =some u->w2.cell? ⟨g,j,none⟩=some u)/\Below w.heap.size w w2/\w.heap.size<=g):=
    ⟨HH.o.1.marks hp hpw,hp.length_eq,jQ,hcells,HH.o.2.2.1.trans (hk.below (HH.o.2.2.1.size) (fun k e=>by have:=HH.o.2.2.2.1;omega)),HH.o.2.2.2.1⟩
   clear hp hpw hcells hk HH
   go_wp2
   go_ret
   exact ⟨_,cap,qs,by rw [H2.o.2.1];rfl,H2.o.1,H2.o.2.2.1,.inr ⟨g,0,rfl,fun j u hj=>by rw [vO];exact H2.o.2.2.2.1 j u hj⟩,H2.o.2.2.2.2.1,fun g' o e=>by cases e;exact H2.o.2.2.2.2.2⟩
  intro a nm c t b kl yd yp w2 cnt2 hkey hlk hv hat hrg2 hlt hg2 hs2 hen
  obtain ⟨x',hwx,ex,rfl⟩:=key_inv hkey
  obtain rfl:(a,nm)=x':=encK_inj ex
  obtain ⟨c',ec,ez⟩:=mrkR_inv hv
  obtain rfl:(c,t,b)=c':=encC_inj ec
  obtain rfl:yd=datC (c,t,b):=(Prod.mk.inj ez).1
  have hfx:=H0.o.2.2.1.got hwx hat
  have hk2:Keeps (fun k=>k=r) u w2:=(keeps_of_grown hg2).mono (fun k _ e=>by cases e;rfl)
  have hb2:Below w.heap.size w w2:=A.o.2.2.2.2.1.trans (hk2.below A.o.2.2.2.2.1.size (fun k e=>by have:=hr0.o;omega))
  have ho2:w2.ownsRow (r+1) 107 3 v ps.length (flat cellsM ps):=ownsHeld A.o.2.2.2.1 (fun g hg=>hk2.block g (A.o.2.2.2.1.lt g hg).2 (by have:=(A.o.2.2.2.1.lt g hg).1;omega))
  unfold encK encC at hen |-
  dsimp only at hen |-
  obtain ⟨S,hS⟩:∃S,Aside (w2.heap.size=S):=⟨_,rfl⟩
  by_cases hc:c.size=0
  ·have hC2:=A.o.2.2.1.skip H0.o.2.2.2.1 hwx hfx hc
   have hce:=emptyYes hc
   have H2:Aside (w2.ranges prog 143 mrkR bm r n D (fun z=>left z && !z.sameKey (klit (a,nm))) cnt2/\ps.length+cnt2<=n/\CollM f (fun z=>left z && !z.sameKey (klit (a,nm))) ps/\w2.ownsRow (r+1) 107 3 v ps.length (flat cellsM ps)/\Below w.heap.size w w2/\cnt2<cnt):=⟨hrg2,jH,hC2,ho2,hb2,hlt⟩
   clear hC2 hrg2 hlt hg2 hs2 hk2 hb2 ho2 hfx hat hv hkey hlk ec ez ex
   go_wp2
   obtain ⟨h1,h2,h3,h4,h5,h6⟩:=H2.o
   refine ⟨⟨_,cnt2,ps,v,rfl,(h1.alloc _).alloc _,h2,h3,(h4.alloc _).alloc _,(h5.alloc h5.size _).alloc (by have:=h5.size;simp;omega) _,((h1.alloc _).alloc _).lt⟩,?_⟩
   rw [((h1.alloc _).alloc _).left_eq,hrg.left_eq]
   exact h6
  have hC2:=A.o.2.2.1.step H0.o.2.2.2.1 hwx hlk hfx hc
  have hce:=emptyNo hc
  obtain ⟨W3,hW3⟩:=za ((w2.alloc (.cells #[.int .i64 a,.string nm] 143)).alloc (.cells #[.string c,.int .i64 t,.int .i64 b] 145))
  have hb3:Below w2.heap.size w2 W3:=by rw [hW3];exact (zh w2 _).alloc zm _
  have hs3:W3.heap.size=w2.heap.size+2:=by rw [hW3];simp
  have q0:W3.heap[w2.heap.size]? =some (.cells #[.int .i64 a,.string nm] 143 (0,0)):=by
   rw [hW3,vy _ _ _ zm]
   exact heap_alloc_new w2 _
  have q1:W3.heap[w2.heap.size+1]? =some (.cells #[.string c,.int .i64 t,.int .i64 b] 145 (0,0)):=by
   have:=heap_alloc_new (w2.alloc (.cells #[.int .i64 a,.string nm] 143)) (.cells #[.string c,.int .i64 t,.int .i64 b] 145)
   rw [vQ] at this
   rw [hW3]
   exact this
  have hrg3:W3.ranges prog 143 mrkR bm r n D (fun z=>left z && !z.sameKey (klit (a,nm))) cnt2:=by rw [hW3];exact (hrg2.alloc _).alloc _
  have ho3:W3.ownsRow (r+1) 107 3 v ps.length (flat cellsM ps):=by rw [hW3];exact (ho2.alloc _).alloc _
  have H2:Aside (W3.ranges prog 143 mrkR bm r n D (fun z=>left z && !z.sameKey (klit (a,nm))) cnt2/\ps.length+1+cnt2<=n/\CollM f (fun z=>left z && !z.sameKey (klit (a,nm))) (ps++ [(a,nm,c)])/\W3.ownsRow (r+1) 107 3 v ps.length (flat cellsM ps)/\Below w.heap.size w W3/\cnt2<cnt):=⟨hrg3,jH,hC2,ho3,zi hb2 hb3,hlt⟩
  clear hC2 hrg2 hlt hg2 hs2 hk2 hb2 ho2 hfx hat hv hkey hlk ec ez ex hrg3 ho3 hb3
  go_upto_region 6 with fail
  rw [<-hW3]
  rw [hS.o] at q0 q1 hs3 |-
  have f0:W3.cell? ⟨S,0,none⟩=some (.int .i64 a):=by simp [World.cell?,q0]
  have f1:W3.cell? ⟨S,1,none⟩=some (.string nm):=by simp [World.cell?,q0]
  have f2:W3.cell? ⟨S+1,0,none⟩=some (.string c):=by simp [World.cell?,q1]
  obtain ⟨X,hX⟩:∃X,Aside (W3.heap.size=X):=⟨_,rfl⟩
  clear q0 q1 hW3 hen hs3
  have hpn:ps.length+1<=n:=by have:=H2.o.2.1;omega
  have hbs:r+1<=W3.heap.size:=H2.o.1.lt
  obtain ⟨va,vc,rfl⟩:=rowIs H2.o.2.2.2.1
  go_wp2_with (at_builtin;refine wpList_append_own _ rfl _ _ 104 rfl (r+1) 107 i0 _ 3 40 underlying104 hi hz0 hz1 hz2 rfl zj _ _ _ rfl (H2.o.2.2.2.1.alloc _) ⟨W3.heap.size,0,none⟩ 1 1 (cellsM (a,nm,c)) rfl rfl (lit_cellsM W3 a nm c) (cellsM_one _) zw zj zl ?_)
  intro v2 u2 hown hgrow hnil
  clear hnil f0 f1 f2
  have hrow:∀g,(Value.slice va ps.length vc).ownBlock=some g->r+1<=g:=fun g hg=>(H2.o.2.2.2.1.lt g hg).1
  have hbm:=H0.o.2.2.2.2
  have hr1:=hr0.o
  have h5:=H2.o.2.2.2.2.1
  have hrg4:u2.ranges prog 143 mrkR bm r n D (fun z=>left z && !z.sameKey (klit (a,nm))) cnt2:=(H2.o.1.alloc _).kept hgrow (fun e=>by have:=hrow bm e.symm;omega) (fun e=>by have:=hrow r e.symm;omega)
  have R4:Aside (u2.ranges prog 143 mrkR bm r n D (fun z=>left z && !z.sameKey (klit (a,nm))) cnt2/\(ps++ [(a,nm,c)]).length+cnt2<=n/\CollM f (fun z=>left z && !z.sameKey (klit (a,nm))) (ps++ [(a,nm,c)])/\u2.ownsRow (r+1) 107 3 v2 (ps++ [(a,nm,c)]).length (flat cellsM (ps++ [(a,nm,c)]))/\Below w.heap.size w u2/\r<u2.heap.size):=by
   refine ⟨hrg4,by have:=H2.o.2.1;simp;omega,H2.o.2.2.1,?_,(h5.alloc h5.size _).grown hgrow (by have:=h5.size;simp;omega) (fun k hk=>by have:=hrow k hk;omega),hrg4.lt⟩
   rw [vw,flat_append]
   simpa [flat] using hown
  have hm:u2.rangeLeft bm r<u.rangeLeft bm r:=by rw [hrg4.left_eq,hrg.left_eq];exact H2.o.2.2.2.2.2
  clear hown hgrow hrow hrg4 h5 hr1 hbm
  go_wp2
  exact ⟨⟨_,_,_,_,rfl,R4⟩,hm⟩
end
section
open Go.RowKit Go.Shelf Go.Maps
attribute [local go_sem] Oper.semAt_some
theorem eqPl (p q:Plc) (w:World):(Op.equalIn 10000 98 (.agg #[.int .i64 p.1,.int .i64 p.2.1,.string p.2.2]) (.agg #[.int .i64 q.1,.int .i64 q.2.1,.string q.2.2])).run prog w= .ok (decide (p=q)) w:=by
 obtain ⟨a,b,s⟩:=p
 obtain ⟨a',b',s'⟩:=q
 have hs:∀x y:ByteArray,x.toList=y.toList↔x=y:=fun x y=>⟨fun h=>by rw [vE,vE] at h;exact WideShapes.bytes_inj h,fun h=>by rw [h]⟩
 go_simp
 by_cases h1:a=a'<;>by_cases h2:b=b'<;>by_cases h3:s=s'<;>simp [h1,h2,h3]
theorem Keeps.grownFrom {S:Nat->Prop} {X Y:World} {row:Option Nat} (h:Keeps S w X) (hg:X.grownBy Y row) (hr:∀r,row=some r->w.heap.size<=r):Keeps S w Y:=
 h.then (keeps_of_grown hg) (fun i hi e=>by have:=hr i e.symm;omega)
theorem undo_core (w:World) (bt bm g off cap at_ len n:Nat) (ao bo:Option Addr) (L:List Ent) (F:Nat->Sta) (hat:at_<=len) (hll:len - at_=L.length) (hlen:len<=1000) (hn:n<=1000000) (hm0:w.cell? ⟨bt,0,none⟩=some (.map (some bm))) (hsl:w.cell? ⟨bt,1,none⟩=some (.slice ao len cap))
  (hbo:(if cap=at_ then ao else Option.map (fun x=>x.add (at_*8)) ao)=bo) (hao:L= []\/bo=some ⟨g,off,none⟩) (hg:g<w.heap.size) (hgm:g≠bm) (hrow:RowAt w g off L) (hM:MapAt prog 3 w bm n (F 0))
  (hF:∀r,r<L.length->undo (F r) (entR L r).1.2.1 (entR L r).2=F (r+1)) (hwf:∀r,Wf (entR L r).1.2.1):
  Calls prog 185 #[.pointer (some ⟨bt,0,none⟩),.int .i64 (at_:Int)] w fun e w'=>(∃v,e= .returned v)/\MapAt prog 3 w' bm (n+L.length) (F L.length)/\Keeps (fun k=>k=bm) w w':=by
 have hbt:bt<w.heap.size:=block_lt_of_cell hsl
 have hbm:bm<w.heap.size:=hM.lt
 have htm:bt≠bm:=by
  intro e
  obtain ⟨es,ck,hb⟩:=hM.block
  rw [<-e] at hb
  simp [World.cell?,hb] at hm0
 have hsl3:∀o1,(w.alloc o1).cell? ⟨bt,1,none⟩=some (.slice ao len cap):=fun o1=>
  (((vu w.heap.size w).alloc zg o1).cell (p:=⟨bt,1,none⟩) hbt).trans hsl
 refine (callsIn_wide (n:=4)).1 ?_
 refine callsIn_of_wp_marks func185 rfl trivial ?_ rfl
 simp only [ntmps185,vY,vH,vT,Nat.reduceAdd,Nat.reduceSub,ul,um,uy,uo,uA,ux]
 gi_wp2_with (refine ⟨trivial,?_⟩;gi_at_call 229;refine (back_in Fence.wide (4 - 1) trivial rfl _ _ _ _).mono ?_;rintro e w' ⟨rfl,rfl⟩)
 obtain ⟨w2,hw2⟩:=za ((w.alloc (.cells #[.pointer (some ⟨bt,0,none⟩)] 75)).alloc (.cells #[.slice bo L.length (cap - at_)] 133))
 rw [<-hw2]
 have hB0:Below w.heap.size w w2:=by rw [hw2];exact ((vu w.heap.size w).alloc zg _).alloc zm _
 have hs2:w2.heap.size=w.heap.size+2:=by rw [hw2];simp
 obtain ⟨B,hB⟩:=za w.heap.size
 have e1:Boxed w2 B 75 (.pointer (some ⟨bt,0,none⟩)):=by rw [hw2,hB];exact (blk2 w _ _).1
 have e2:Boxed w2 (B+1) 133 (.slice bo L.length (cap - at_)):=by rw [hw2,hB];exact (blk2 w _ _).2
 rw [<-hB] at hB0 hs2 hg hbt hbm |-
 have HB:Aside (B=w.heap.size):=hB
 have hBw:B<=w.heap.size:=zj
 clear hB
 have hrow2:RowAt w2 g off L:=hrow.same (hB0.block g hg)
 have hM2:=hM.same (hB0.block bm hbm)
 have hk2:Keeps (fun k=>k=bm) w w2:=(keeps_of_below hB0).mono (fun k hk e=>yb)
 clear hw2 hsl3 hrow hM hbo
 refine wpIn_rangeFunc_ownH rfl zj (gf:=263) (lb:= #[.pointer (some ⟨B+1,0,none⟩)]) rfl trivial (enters_of func263 zk rfl)
  (back_stops Fence.wide (4 - 1) trivial rfl zj (B+1) g off (cap - at_) bo L zj hao w2 zj zj e2.cell hrow2) KeepTwo.trans (fun W l o o' hl _ _ _=>KeepTwo.put (N:=w2.heap.size) zj zj W l o' hl) (vu _ _) (fun _=>rfl)
  (fun pre W=>((∃f,MapAt prog 3 W bm (n+pre.length) f/\(pre=List.range pre.length->f=F pre.length))/\Boxed W B 75 (.pointer (some ⟨bt,0,none⟩))/\w2.heap.size<=W.heap.size)/\Keeps (fun k=>k=bm) w W)
  (fun _ _ _=>False)
  (fun pre X Y row hs hg hr=>by
   obtain ⟨⟨⟨f,q1,q2⟩,q3,q4⟩,q5⟩:=hs
   have hne:some bm≠row:=fun e=>by have:=(hr bm e.symm).1;omega
   exact ⟨⟨⟨f,q1.same (hg.block bm q1.lt hne),q2⟩,kept_cells q3 hg (fun r e=>(hr r e).2),vr q4 hg.size⟩,q5.grownFrom hg (fun r e=>by have:=(hr r e).1;have:=HB.o;omega)⟩)
  (fun _ _ _ _ _ hs _ _=>hs)
  ⟨⟨⟨F 0,hM2,fun _=>rfl⟩,e1,vm _⟩,hk2⟩
  (fun x a' W=>∃Bx,w2.heap.size<=Bx/\EntAt W Bx (entR L x)/\a'= {tmps:= #[.pointer (some ⟨bt,0,none⟩),.int .i64 (at_:Int),.pointer (some ⟨B,0,none⟩),undef,undef,.pointer (some ⟨Bx,0,none⟩),.pointer (some ⟨bt,0,none⟩),.pointer (some ⟨bt,0,none⟩),.pointer (some ⟨bt,1,none⟩),.slice ao len cap,.int .i64 (at_:Int),.slice bo L.length (cap - at_),.func (.func 263) #[] #[.pointer (some ⟨B+1,0,none⟩)],.int .i64 ((L.length - 1 - x:Nat):Int),.agg #[.int .i64 (entR L x).1.1.1,.int .i64 (entR L x).1.1.2,.int .i64 (entR L x).1.2.1,.int .i64 (entR L x).1.2.2.1,.string (entR L x).1.2.2.2,.int .i64 (entR L x).2.1,.int .i64 (entR L x).2.2.1,.string (entR L x).2.2.2],undef,undef,undef,undef,undef,undef,undef,undef,undef,undef,undef,undef,undef,undef,undef,undef,undef,undef,undef,undef],defers:=[]})
  (fun x a'=>Own.from (fun _ X Y row hs hg hr=>ya) _)
  ?assign ?body ?done ?stop
 case assign=>
  rintro l pre x W K ⟨⟨⟨f,hf,hfp⟩,hr1,hsz⟩,hkW⟩ hK
  have hK':Aside _:=hK
  have hBs:B<=W.heap.size:=zj
  clear hK
  unfold encR
  gi_wp2
  refine hK'.o _ _ ((KeepsOthers.alloc _ _).from _) ⟨vy _ _ _ zj,vy _ _ _ zj⟩ ⟨⟨⟨f,hf.same (vy _ _ _ hf.lt),hfp⟩,hr1.alloc _,zl⟩,hkW.alloc _⟩ ⟨W.heap.size,zj,heap_alloc_new W _,rfl⟩
 case body=>
  rintro l pre x a' W hl _ ⟨⟨⟨f,hf,hfp⟩,hr1,hsz⟩,hkW⟩ ⟨Bx,hBx,hE,rfl⟩ hlt
  have hwx:=hwf x
  obtain ⟨y,hy⟩:=za (entR L x)
  rw [<-hy] at hE hwx |-
  have hFx:x=pre.length->undo (F pre.length) y.1.2.1 y.2=F (pre.length+1):=fun e=>by rw [hy,e];exact hF pre.length hlt
  clear hF hwf hy
  obtain ⟨⟨⟨y1,y2⟩,y3,y4,y5⟩,y6,y7,y8⟩:=y
  dsimp only at hwx hFx |-
  have g1:=hr1.cell
  have f2:=hE.cell 2 (u:=.int .i64 y3) rfl
  have f5:=hE.cell 5 (u:=.int .i64 y6) rfl
  have f6:=hE.cell 6 (u:=.int .i64 y7) rfl
  have f7:=hE.cell 7 (u:=.string y8) rfl
  have htc:W.cell? ⟨bt,0,none⟩=some (.map (some bm)):=(hkW.cell (a:=⟨bt,0,none⟩) (by show bt<_;omega) htm).trans hm0
  have fin:∀(w1:World) (f':Sta),W.drew.grownBy w1 (some bm)->MapAt prog 3 w1 bm (n+pre.length+1) f'->f'=undo f y3 (y6,y7,y8)->
    Aside (KeepsFrom w2.heap.size W w1/\KeepTwo g (B+1) W w1/\((∃f,MapAt prog 3 w1 bm (n+(pre++ [x]).length) f/\(pre++ [x]=List.range (pre++ [x]).length->f=F (pre++ [x]).length))/\Boxed w1 B 75 (.pointer (some ⟨bt,0,none⟩))/\w2.heap.size<=w1.heap.size)/\Keeps (fun k=>k=bm) w w1):=fun w1 f' hg1 hM1 hf1=>by
   have hg1':W.grownBy w1 (some bm):=⟨hg1.os,hg1.tape,hg1.output,hg1.size,hg1.block⟩
   have hsz1:=hg1'.size
   refine ⟨KeepsFrom.of_grownBy hg1' (fun j e=>by cases e;omega),⟨hg1'.block g zj (by simpa using hgm),hg1'.block (B+1) zj zl⟩,⟨⟨f',by rw [vw,uC,<-uY];exact hM1,fun hp=> ?_⟩,hr1.kept hg1' zl,zj⟩,hkW.then (keeps_of_grown hg1') (fun i _ e=>yr)⟩
   obtain ⟨hp1,hp2⟩:=range_snoc hp
   rw [hf1,hfp hp1,vw,uC,hFx hp2]
  have hBxm:Bx≠bm:=zj
  have hBxW:Bx<W.heap.size:=(vn.1 hE).1
  have cells1:∀w1:World,W.drew.grownBy w1 (some bm)->Aside (w1.cell? ⟨B,0,none⟩=some (.pointer (some ⟨bt,0,none⟩))/\w1.cell? ⟨bt,0,none⟩=some (.map (some bm))/\w1.cell? ⟨Bx,2,none⟩=some (.int .i64 y3)/\w1.cell? ⟨Bx,5,none⟩=some (.int .i64 y6)/\w1.cell? ⟨Bx,6,none⟩=some (.int .i64 y7)/\w1.cell? ⟨Bx,7,none⟩=some (.string y8)):=fun w1 hg1=>by
   have hb:∀k,k<W.heap.size->k≠bm->∀o,w1.cell? ⟨k,o,none⟩=W.cell? ⟨k,o,none⟩:=fun k hk hne o=>vI (a:=⟨k,o,none⟩) (hg1.block k hk (by simpa using hne))
   exact ⟨(hb B zj zj 0).trans g1,(hb bt zj htm 0).trans htc,(hb Bx hBxW hBxm 2).trans f2,(hb Bx hBxW hBxm 5).trans f5,(hb Bx hBxW hBxm 6).trans f6,(hb Bx hBxW hBxm 7).trans f7⟩
  by_cases he:((y6,y7,y8):Plc)=zeroP
  ·have hq:∀w',(Op.equalIn 10000 98 (.agg #[.int .i64 y6,.int .i64 y7,.string y8]) (.agg #[.int .i64 0,.int .i64 0,.string ⟨#[]⟩])).run prog w'= .ok true w':=fun w'=>by
    have:=eqPl (y6,y7,y8) zeroP w'
    rw [decide_eq_true he] at this
    exact this
   obtain ⟨w1,hrun,hM1,ht1⟩:=(show MapAt prog 3 W.drew bm (n+pre.length) f from hf).drop (T:=132) (E:=98) underlying3 underlying132 hwx 0
   have X1:=cells1 w1 ht1.grown
   have FIN:=fin w1 (upd f y3 none) ht1.grown (hM1.mono (Nat.le_succ _)) (by rw [he];unfold undo;rw [if_pos rfl])
   clear he fin hM1 ht1 hf hfp hkW hM2 hk2 hrow2 e1 e2 hB0 hE hr1 hao hsl hm0 hll hat hlen hn hsz hBx hl hs2 hbm hbt hg htm hgm hBw HB hwx hlt hFx cells1 hBxm hBxW
   gi_wp2
   refine region_in_round (S:=(fun w'=>w'.cell? ⟨B,0,none⟩=some (.pointer (some ⟨bt,0,none⟩))/\w'.cell? ⟨bt,0,none⟩=some (.map (some bm))/\w'.cell? ⟨Bx,2,none⟩=some (.int .i64 y3))) zk zk (by rintro ⟨_,_,h⟩;exact h) ⟨g1,htc,f2⟩ (fun hHeld=> ?_)
   refine tk 0 hHeld ?_ (hy:=Or.inl ⟨zu,zK⟩)
   refine tk 1 hHeld ?_ (hy:=Or.inl ⟨zu,zK⟩)
   refine tk 2 hHeld ?_ (hy:=Or.inl ⟨zu,zK⟩)
   refine tk 3 hHeld ?_ (hy:=Or.inl ⟨zu,zK⟩)
   refine tk 4 hHeld ?_ (hy:=Or.inl ⟨zu,zK⟩)
   refine tk 5 hHeld ?_ (hy:=Or.inl ⟨zu,zK⟩)
   refine tk 6 hHeld ?_ (hy:=Or.inl ⟨zu,zK⟩)
   refine wpAnyH_one (i:=7) zk rfl (fun K hK=> ?_)
   go_simp
   refine hK _ _ ⟨X1.o.1,X1.o.2.1,X1.o.2.2.1⟩ ?_
   clear hK K
   refine wpAnyH_done zk ?_ _
   exact FIN.o
  have hq:∀w',(Op.equalIn 10000 98 (.agg #[.int .i64 y6,.int .i64 y7,.string y8]) (.agg #[.int .i64 0,.int .i64 0,.string ⟨#[]⟩])).run prog w'= .ok false w':=fun w'=>by
   have:=eqPl (y6,y7,y8) zeroP w'
   rw [decide_eq_false he] at this
   exact this
  obtain ⟨w1,hrun,hM1,ht1⟩:=(show MapAt prog 3 W.drew bm (n+pre.length) f from hf).store (T:=132) (E:=98) underlying3 underlying132 zw hwx (y6,y7,y8)
  unfold encP at hrun
  dsimp only at hrun
  have X1:=cells1 w1 ht1.grown
  have FIN:=fin w1 (upd f y3 (some (y6,y7,y8))) ht1.grown hM1 (by unfold undo;rw [if_neg he])
  clear he fin hM1 ht1 hf hfp hkW hM2 hk2 hrow2 e1 e2 hB0 hE hr1 hao hsl hm0 hll hat hlen hn hsz hBx hl hs2 hbm hbt hg htm hgm hBw HB hwx hlt hFx cells1 hBxm hBxW
  gi_wp2
  refine region_in_round (S:=(fun w'=>w'.cell? ⟨B,0,none⟩=some (.pointer (some ⟨bt,0,none⟩))/\w'.cell? ⟨bt,0,none⟩=some (.map (some bm))/\w'.cell? ⟨Bx,2,none⟩=some (.int .i64 y3)/\w'.cell? ⟨Bx,5,none⟩=some (.int .i64 y6)/\w'.cell? ⟨Bx,6,none⟩=some (.int .i64 y7)/\w'.cell? ⟨Bx,7,none⟩=some (.string y8))) zk zk (by rintro ⟨_,_,h⟩;exact h) ⟨g1,htc,f2,f5,f6,f7⟩ (fun hHeld=> ?_)
  refine tk 0 hHeld ?_ (hy:=Or.inl ⟨zu,zB⟩)
  refine tk 1 hHeld ?_ (hy:=Or.inl ⟨zu,zB⟩)
  refine tk 2 hHeld ?_ (hy:=Or.inl ⟨zu,zB⟩)
  refine tk 3 hHeld ?_ (hy:=Or.inl ⟨zu,zB⟩)
  refine tk 4 hHeld ?_ (hy:=Or.inl ⟨zu,zB⟩)
  refine tk 5 hHeld ?_ (hy:=Or.inl ⟨zu,zB⟩)
  refine tk 6 hHeld ?_ (hy:=Or.inl ⟨zu,zB⟩)
  refine tk 7 hHeld ?_ (hy:=Or.inl ⟨zu,zB⟩)
  refine tk 8 hHeld ?_ (hy:=Or.inl ⟨zu,zB⟩)
  refine wpAnyH_one (i:=9) zk rfl (fun K hK=> ?_)
  go_simp
  refine hK _ _ ⟨X1.o.1,X1.o.2.1,X1.o.2.2.1,X1.o.2.2.2.1,X1.o.2.2.2.2.1,X1.o.2.2.2.2.2⟩ ?_
  clear hK K
  refine wpAnyH_done zk ?_ _
  exact FIN.o
 case done=>
  rintro D ys W hD rfl ⟨⟨⟨f,hf,hfp⟩,hr1,hsz⟩,hkW⟩ hK
  have hfF:=hfp zm
  subst hfF
  gi_wp2
  refine ⟨zm,.inl ⟨_,_,rfl,run_takeDeferred hK,?_⟩⟩
  have hgp:=grownBy_putObj' W D (.deferred none)
  refine ⟨.tuple #[],by simp [results,f185,go_sem],⟨_,rfl⟩,?_,hkW.grownFrom hgp (fun r e=>by cases e;have:=HB.o;omega)⟩
  have:=hf.same (hgp.block bm hf.lt zl)
  simpa using this
 case stop=>
  rintro D c pre W _ _ h _
  exact h.elim
end
section
open Go.RowKit
def Heard (pb:Nat) (T t:Int) (w w':World):Prop:=(T<t/\∃W,Below w.heap.size w W/\w'.heap=(W.setCell ⟨pb,0,none⟩ (.int .i64 t)).heap/\Keeps (fun k=>k=pb) W w')\/(¬T<t/\Below w.heap.size w w')
theorem hear_at (pb:Nat) (T c t b:Int) (w:World) (hC:Clk pb T c w) (h1:1<=t) (h2:t<=1073741824) (h3:0<=b) (h4:b<4):
  Calls prog 183 #[.pointer (some ⟨pb,0,none⟩),.agg #[.int .i64 t,.int .i64 b]] w fun e w'=>e= .returned .nilIface/\Heard pb T t w w':=by
 have C0:=hC.later ((vu _ _).alloc zg (.cells #[.int .i64 t,.int .i64 b] 39))
 have hlt:=hC.lt
 clear hC
 by_cases hgt:T<t
 ·have HT:Aside (T<t):=hgt
  go_enter func183,ntmps183
  go_wp2_with fail
  refine (check_ok t b _ h1 h2 h3 h4).mono ?_
  rintro e w1 ⟨rfl,hb⟩
  have s0:w1.cell? ⟨w.heap.size,0,none⟩=some (.int .i64 t):=cell_later hb ye
  have B1:Below w.heap.size w w1:=(zh _ _).trans (hb.mono zm)
  have C1:=C0.later hb
  obtain ⟨k0,k1,kf⟩:=C1
  clear C0 hb
  go_wp2
  go_quiet (fail)
  go_wp2
  go_ret
  exact ⟨rfl,.inl ⟨HT.o,_,Go.below_drewN B1 _,rfl,setCells_keeps pb [_] 0 _⟩⟩
 have HT:Aside (¬T<t):=hgt
 go_enter func183,ntmps183
 go_wp2_with fail
 refine (check_ok t b _ h1 h2 h3 h4).mono ?_
 rintro e w1 ⟨rfl,hb⟩
 have s0:w1.cell? ⟨w.heap.size,0,none⟩=some (.int .i64 t):=cell_later hb ye
 have B1:Below w.heap.size w w1:=(zh _ _).trans (hb.mono zm)
 have C1:=C0.later hb
 obtain ⟨k0,k1,kf⟩:=C1
 clear C0 hb
 go_wp2
 go_quiet (fail)
 go_wp2
 go_ret
 exact ⟨rfl,.inr ⟨by have:=HT.o;omega,Go.below_drewN B1 _⟩⟩
theorem chear_any (pb:Nat) (T c t b:Int) (w:World) (hC:Clk pb T c w) (h1:1<=t) (h2:t<=1073741824) (h3:0<=b) (h4:b<4):
  Calls prog 130 #[.pointer (some ⟨pb,0,none⟩),.agg #[.int .i64 t,.int .i64 b]] w fun e w'=>(∃u,e= .returned u)/\∃W,Below w.heap.size w W/\Heard pb T t W w':=by
 obtain ⟨S,hS⟩:=za w.heap.size
 obtain ⟨U,hU⟩:=za (w.alloc (.cells #[.int .i64 t,.int .i64 b] 39))
 have hb:Below w.heap.size w U:=zP
 have hs:U.heap[S]? =some (.cells #[.int .i64 t,.int .i64 b] 39 (0,0)):=by rw [hU,hS];exact heap_alloc_new w _
 have s0:U.cell? ⟨S,0,none⟩=some (.int .i64 t):=by simp [World.cell?,hs]
 have s1:U.cell? ⟨S,1,none⟩=some (.int .i64 b):=by simp [World.cell?,hs]
 have hcall:∀W,Below U.heap.size U W->Calls prog 183 #[.pointer (some ⟨pb,0,none⟩),.agg #[.int .i64 t,.int .i64 b]] W fun e w'=>e= .returned .nilIface/\Heard pb T t W w':=fun W hW=>hear_at pb T c t b W ((hC.later hb).later hW) h1 h2 h3 h4
 have HB:Aside (Below w.heap.size w U):=hb
 clear hb hs hC
 go_enter func130,ntmps130
 go_wp2_with fail
 rw [<-hU,<-hS]
 clear hU hS
 refine wp_region_Z (S:=(fun w'=>Below U.heap.size U w')) (z:=4) zk (vu _ U).drew (fun hHeld=> ?_)
 refine wpAnyZ_free (i:=0) (v:= ?va0) zt rfl zk zk zk (fun _ _ _ h=>h) (Or.inl ⟨zu,?hy0⟩) hHeld ?rest0
 case hy0=>(intro w' _;go_simp;try with_reducible rfl)
 refine qn ?_
 refine wpAnyZ_free (i:=1) (v:= ?va1) zt rfl zk zk zk (fun _ _ _ h=>h) (Or.inl ⟨zu,?hy1⟩) hHeld ?rest1
 case hy1=>(intro w' _;go_simp;try with_reducible rfl)
 refine qn ?_
 refine wpAnyZ_free (i:=2) (v:= ?va2) zt rfl zk zk zk (fun _ _ _ h=>h) (Or.inl ⟨zu,?hy2⟩) hHeld ?rest2
 case hy2=>(intro w' _;go_simp;try with_reducible rfl)
 refine qn ?_
 refine wpAnyZ_take (i:=3) (v:= ?va3) zt zk rfl zk zk zk zk (fun _ _ _ h=>h) (Or.inl ⟨zu,?hy3⟩) hHeld ?rest3
 case hy3=>(intro w' hSw;have j0:=cell_later hSw s0;have j1:=cell_later hSw s1;go_simp;try with_reducible rfl)
 refine qn ?_
 refine wpAnyZ_one (i:=4) zk rfl (fun K hK=> ?_)
 go_simp
 refine (hcall U.drew (vu _ U).drew).mono ?_
 clear hcall
 rintro e w' ⟨rfl,hh⟩
 have HH:Aside (Heard pb T t U.drew w'):=hh
 clear hh
 refine hK _ _ (.inr ⟨rfl,zt⟩) ?_
 clear hK K
 refine wpAnyZ_done zk ?_ _
 go_wp2
 go_end0
 exact ⟨⟨_,rfl⟩,U.drew,HB.o.drew,HH.o⟩
end
section
theorem join_part (h:RowsK R) {T l:List OpX} (hT:WellK T) (hc:Compat (allR R) T) (hl:∀x,x∈l->x∈T) (hl2:∀x,x∈T->x∈allR R\/x∈l) (hlen:(allR R).length+l.length<=400):∃fresh,(∀a,JoinIs (allR R) l a->a= .inr fresh)/\FreshK (allR R) fresh/\(∀x,x∈allR R++fresh↔x∈allR R\/x∈T)/\WellK (allR R++fresh):=by
 obtain ⟨out,h1,h2⟩:=sift_fine h.num.one hT.one hc hT.ok (l:=l) 0 (fresh:=[]) (fun x hx=>hl x hx) (fun x hx=>zO)
 obtain ⟨k1,k2,k3,k4,k5⟩:=sift_fresh (freshK_nil _) h1
 have hmem:∀x,x∈allR R++out↔x∈allR R\/x∈T:=fun x=>by
  rw [vv]
  constructor
  ·rintro (q | q)
   ·exact .inl q
   exact .inr (h2 x q)
  rintro (q | q)
  ·exact .inl q
  rcases hl2 x q with q | q
  ·exact .inl q
  exact k4 x q
 have hw:WellK (allR R++out):=(h.well.union hT hc).congr (fun x=>by rw [vv];exact (hmem x).symm)
 refine ⟨out,fun a ha=> ?_,k1,hmem,hw⟩
 unfold JoinIs at ha
 rw [h1] at ha
 dsimp only at ha
 rcases ha with ⟨⟨x,hx,q1,q2⟩,_⟩ | ⟨_,⟨x,hx,y,hy,q1,q2,q3⟩,_⟩ | ⟨_,_,⟨x,hx,q⟩,_⟩ | ⟨_,q,_⟩ | ⟨_,_,q⟩
 ·exact ((hw.gap x hx).elim q1 q2).elim
 ·exact (q3 (hw.rise x hx y hy q1 q2)).elim
 ·exact (q (hw.refs x hx)).elim
 ·simp at k5;omega
 exact q
structure NextOp (R:Rws) (i:Nat) (T:Int) (x:OpX):Prop where
 ok:errO x=0
 by_:byO x=(i:Int)
 num:numO x=((R i).length:Int)+1
 time:x.1=T+1
 refs:RefOk (x::allR R) x
theorem num_le {R:Rws} (h:NumK R) {i:Nat} (hi:i<4) {y:OpX} (hy:y∈allR R) (e:byO y=(i:Int)):numO y<=((R i).length:Int):=by
 obtain ⟨k,hk,hyk⟩:=mem_allR.1 hy
 obtain ⟨j,hj,q1,q2,_⟩:=h.get hk hyk
 have:k=i:=zj
 subst this
 have:=(vi.1 hj).1
 omega
theorem NextOp.well {R:Rws} {i:Nat} {T:Int} {x:OpX} (hx:NextOp R i T x) (hR:RowsK R) (hi:i<4) (hT:∀y∈allR R,y.1<=T):WellK (x::allR R)/\∀y∈allR R,byO y=byO x->numO y<numO x:=by
 have hnew:∀y∈allR R,byO y=byO x->numO y<numO x:=fun y hy e=>by
  have:=num_le hR.num hi hy (e.trans hx.by_)
  have:=hx.num
  omega
 refine ⟨hR.well.add hx.ok ?_ hnew (fun y hy=> ?_) hx.refs,hnew⟩
 ·by_cases h0:(R i).length=0
  ·left
   have:=hx.num
   omega
  right
  have hl:(R i).length - 1<(R i).length:=zj
  have hm:(R i)[(R i).length - 1]∈R i:=List.getElem_mem hl
  obtain ⟨j,hj,q1,q2,_⟩:=hR.num.get hi hm
  have hlast:=hR.num i hi ((R i).length - 1) _ (vj hl)
  refine ⟨(R i)[(R i).length - 1],mem_allR.2 ⟨i,hi,hm⟩,by rw [q1,hx.by_],?_⟩
  have h3:=hlast.2.1
  have:=hx.num
  omega
 have h1:=hT y hy
 have h2:=hx.time
 unfold CLt stO
 dsimp only
 omega
theorem compat_own (hx:NextOp R i T x) (hR:RowsK R) (hi:i<4) (hT:∀y∈allR R,y.1<=T):Compat (allR R) (x::allR R):=fun a ha b hb e1 e2=>by
 rcases vz.1 hb with rfl | hb
 ·have:=(hx.well hR hi hT).2 a ha e1
  omega
 exact hR.well.one a ha b hb e1 e2
theorem NumK.nodup (h:NumK R):(allR R).Nodup:=by
 have row:∀i,i<4->(R i).Nodup:=fun i hi=>by
  unfold List.Nodup
  rw [uh]
  intro a b ha hb hab e
  have h1:=h i hi a _ (vj ha)
  have h2:=h i hi b _ (vj hb)
  rw [e] at h1
  have:=h1.2.1
  have:=h2.2.1
  omega
 have off:∀i j,i<4->j<4->i≠j->∀a∈R i,∀b∈R j,a≠b:=fun i j hi hj hij a ha b hb e=>by
  obtain ⟨_,_,q1,_⟩:=h.get hi ha
  obtain ⟨_,_,q2,_⟩:=h.get hj hb
  rw [e] at q1
  omega
 unfold allR
 simp only [uf,vv]
 refine ⟨row 0 zj,⟨row 1 zj,⟨row 2 zj,row 3 zj,off 2 3 zj zj zj⟩,fun a ha b hb=> ?_⟩,fun a ha b hb=> ?_⟩
 ·rcases hb with hb | hb
  ·exact off 1 2 zj zj zj a ha b hb
  exact off 1 3 zj zj zj a ha b hb
 rcases hb with hb | hb | hb
 ·exact off 0 1 zj zj zj a ha b hb
 ·exact off 0 2 zj zj zj a ha b hb
 exact off 0 3 zj zj zj a ha b hb
theorem len_sub {α:Type} [DecidableEq α]:∀ {l H:List α},l.Nodup->(∀x,x∈l->x∈H)->l.length<=H.length
 | [],_,_,_=>vD _
 | x::t,H,hn,hs=>by
  obtain ⟨h1,h2⟩:=List.nodup_cons.1 hn
  have hx:x∈H:=hs x zm
  have:=len_sub (l:=t) (H:=H.erase x) h2 (fun y hy=>(List.mem_erase_of_ne (fun e=>h1 (by rw [<-e];exact hy))).2 (hs y xq))
  rw [List.length_erase_of_mem hx] at this
  have hp:0<H.length:=List.length_pos_of_mem hx
  rw [vH]
  omega
