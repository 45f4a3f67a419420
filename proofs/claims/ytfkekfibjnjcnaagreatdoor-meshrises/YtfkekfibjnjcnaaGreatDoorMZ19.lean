import Derived.Test.YtfkekfibjnjcnaaGreatDoorMZ14
import Derived.Test.YtfkekfibjnjcnaaGreatDoorMZ15
import Derived.Test.YtfkekfibjnjcnaaGreatDoorMZ16
set_option linter.unusedSimpArgs false
set_option linter.unusedVariables false
set_option maxRecDepth 100000
set_option maxHeartbeats 64000000
namespace Go.Proofs.YtfkekfibjnjcnaaGreatDoor
open Go.Proofs.Tryz
variable {waits:Bool} {name value:ByteArray} {b n t:Int} {B:List UInt8} {cap d g k:Nat} {ad:Nat→Addr} {v:Value} {W W' w w' w0:World}
section
open Go.RowKit
structure TxtE (ad:Nat->Addr) (w:World):Prop where
 op4:Op4 ad w
 tab:Lib.TabIs prog w "internal/strconv.uint64pow10" .u64 Lib.pow10Tab
theorem TxtE.later {ad:Nat->Addr} {w w':World} (h:TxtE ad w) (hb:Below w.heap.size w w'):TxtE ad w':=⟨h.op4.later hb,Lib.tabBelow_of_tabIs h.tab _ hb⟩
def TxtR (w0:World) (t b n:Int) (k:Nat) (node other:Int) (name value:ByteArray) (w':World):Prop:=w'.cell? ⟨w0.heap.size,0,none⟩=some (.int .i64 t)/\w'.cell? ⟨w0.heap.size,1,none⟩=some (.int .i64 b)/\w'.cell? ⟨w0.heap.size,2,none⟩=some (.int .i64 n)/\w'.cell? ⟨w0.heap.size,3,none⟩=some (.int .u8 (k:Int))/\w'.cell? ⟨w0.heap.size,4,none⟩=some (.int .i64 node)/\w'.cell? ⟨w0.heap.size,5,none⟩=some (.int .i64 other)/\w'.cell? ⟨w0.heap.size,6,none⟩=some (.string name)/\w'.cell? ⟨w0.heap.size,7,none⟩=some (.string value)/\Lib.TabIs prog w' "internal/strconv.uint64pow10" .u64 Lib.pow10Tab/\Below w0.heap.size w0 w'
theorem TxtR.later {node other:Int} (h:TxtR w0 t b n k node other name value w) (hb:Below w.heap.size w w'):TxtR w0 t b n k node other name value w':=
 ⟨cellLater hb h.1,cellLater hb h.2.1,cellLater hb h.2.2.1,cellLater hb h.2.2.2.1,cellLater hb h.2.2.2.2.1,cellLater hb h.2.2.2.2.2.1,cellLater hb h.2.2.2.2.2.2.1,cellLater hb h.2.2.2.2.2.2.2.1,Lib.tabBelow_of_tabIs h.2.2.2.2.2.2.2.2.1 _ hb,zi h.2.2.2.2.2.2.2.2.2 hb⟩
theorem TxtR.drew {w0 w:World} {t b n:Int} {k:Nat} {node other:Int} {name value:ByteArray} (h:TxtR w0 t b n k node other name value w):TxtR w0 t b n k node other name value w.drew:=h.later (vu _ _).drew
theorem TxtR.new {node other:Int} (h:TxtR w0 t b n k node other name value w) (o:Obj):TxtR w0 t b n k node other name value (w.alloc o):=h.later (zh _ _)
theorem TxtR.tab {node other:Int} (h:TxtR w0 t b n k node other name value w):Lib.TabIs prog w "internal/strconv.uint64pow10" .u64 Lib.pow10Tab:=h.2.2.2.2.2.2.2.2.1
theorem join8 (y0 y1 y2 y3 y4 y5 y6 y7:ByteArray) (w:World) (T:TypeId)
  (hl:y0.size+y1.size+y2.size+y3.size+y4.size+y5.size+y6.size+y7.size<=100000000):
  Calls prog 40 #[.slice (some ⟨w.heap.size,0,none⟩) 8 8,.string ⟨#[124]⟩] (w.alloc (.cells #[.string y0,.string y1,.string y2,.string y3,.string y4,.string y5,.string y6,.string y7] T)) fun e w'=>e= .returned (.string ⟨(joinP 124 [y0.data.toList,y1.data.toList,y2.data.toList,y3.data.toList,y4.data.toList,y5.data.toList,y6.data.toList,y7.data.toList]).toArray⟩)/\Below (w.alloc (.cells #[.string y0,.string y1,.string y2,.string y3,.string y4,.string y5,.string y6,.string y7] T)).heap.size (w.alloc (.cells #[.string y0,.string y1,.string y2,.string y3,.string y4,.string y5,.string y6,.string y7] T)) w':=by
 have hc:∀(j:Nat) x,([y0,y1,y2,y3,y4,y5,y6,y7]:List ByteArray)[j]? =some x->(w.alloc (.cells #[.string y0,.string y1,.string y2,.string y3,.string y4,.string y5,.string y6,.string y7] T)).cell? ⟨w.heap.size,0+j,none⟩=some (.string x):=by
  intro j x hx
  rw [World.cell?_alloc_at _ _ _ _ rfl]
  match j,hx with
  | 0,hx=>simp at hx;subst hx;rfl
  | 1,hx=>simp at hx;subst hx;rfl
  | 2,hx=>simp at hx;subst hx;rfl
  | 3,hx=>simp at hx;subst hx;rfl
  | 4,hx=>simp at hx;subst hx;rfl
  | 5,hx=>simp at hx;subst hx;rfl
  | 6,hx=>simp at hx;subst hx;rfl
  | 7,hx=>simp at hx;subst hx;rfl
  | n+8,hx=>simp at hx
 refine (Tryz.strings_Join w.heap.size 0 8 [y0,y1,y2,y3,y4,y5,y6,y7] ⟨#[124]⟩ _ hc zm zm zm ?_).mono ?_
 ·simp [Lib.join_cons,Lib.joinTail];omega
 rintro e w' ⟨rfl,hb⟩
 refine ⟨?_,hb⟩
 rw [<-join_joinP]
 simp
theorem kindRune (k:Nat) (w:World) (hk:k=109\/k=105\/k=100\/k=115):Sem.run prog (convert 5 21 (.int .u8 (k:Int))) w= .ok (.int .i32 (k:Int)) w:=by
 rcases hk with rfl | rfl | rfl | rfl<;>kernel_rfl
theorem kindText (k:Nat) (w:World) (hk:k=109\/k=105\/k=100\/k=115):Sem.run prog (convert 21 9 (.int .i32 (k:Int))) w= .ok (.string ⟨[UInt8.ofNat k].toArray⟩) w:=by
 rcases hk with rfl | rfl | rfl | rfl<;>kernel_rfl
theorem sizeOfList (l:List UInt8):(⟨l.toArray⟩:ByteArray).size=l.length:=by simp [ByteArray.size]
theorem optext_ok (t b n:Int) (k:Nat) (node other:Int) (name value:ByteArray) (w:World) (hE:TxtE ad w) (hop:opE t b n k node other name.data.toList value.data.toList=0):
  Calls prog 94 #[.agg #[.int .i64 t,.int .i64 b,.int .i64 n,.int .u8 (k:Int),.int .i64 node,.int .i64 other,.string name,.string value]] w fun e w'=>e= .returned (.tuple #[.string ⟨(opTextL t b n k node other name.data.toList value.data.toList).toArray⟩,.nilIface])/\Below w.heap.size w w':=by
 obtain ⟨h1,h2,h3,h4,h5,h6,hk,h7,h8,h9,h10,-,hn,hv⟩:=opE_zero hop
 rw [listLen] at hn hv
 have O0:=OpAt.new w t b n k node other name value 41
 have E0:=hE.later ((vu _ _).alloc zg (.cells #[.int .i64 t,.int .i64 b,.int .i64 n,.int .u8 (k:Int),.int .i64 node,.int .i64 other,.string name,.string value] 41))
 have B0:Below w.heap.size w (w.alloc (.cells #[.int .i64 t,.int .i64 b,.int .i64 n,.int .u8 (k:Int),.int .i64 node,.int .i64 other,.string name,.string value] 41)):=zh _ _
 have q1:=fun w=>kindRune k w hk
 have q2:=fun w=>kindText k w hk
 have HO:=Lib.hid hop
 have HB:Hid ((1<=t/\t<=1073741824)/\(0<=b/\b<4)/\(1<=n/\n<=400)/\(0<=node/\node<=4294967299)/\(0<=other/\other<=4294967299)/\name.size<=12/\value.size<=12):=Lib.hid zj
 have HL:Hid ((Lib.itoa t).length<=21/\(Lib.itoa b).length<=21/\(Lib.itoa n).length<=21/\(Lib.itoa node).length<=21/\(Lib.itoa other).length<=21):=Lib.hid ⟨Lib.itoa_length_le _ zj zj,Lib.itoa_length_le _ zj zj,Lib.itoa_length_le _ zj zj,Lib.itoa_length_le _ zj zj,Lib.itoa_length_le _ zj zj⟩
 clear hop hk h1 h2 h3 h4 h5 h6 h7 h8 h9 h10 hn hv hE
 unfold opTextL
 generalize hR:joinP 124 [[UInt8.ofNat k],Lib.itoa t,Lib.itoa b,Lib.itoa n,Lib.itoa node,Lib.itoa other,name.data.toList,hexL value.data.toList]=R
 have HR:=Lib.hid hR
 clear hR
 go_enter func94,ntmps94
 go_wp2_with fail
 generalize w.alloc (.cells #[.int .i64 t,.int .i64 b,.int .i64 n,.int .u8 (k:Int),.int .i64 node,.int .i64 other,.string name,.string value] 41)=u at O0 E0 B0 |-
 refine (opcheck_any t b n k node other name value u E0.op4 yb yb).mono ?_
 rintro e w1 ⟨rfl,hb⟩
 rw [HO.o]
 have R1:TxtR w t b n k node other name value w1:=by
  have O1:=O0.later hb
  exact ⟨O1.c0,O1.c1,O1.c2,O1.c3,O1.c4,O1.c5,O1.c6,O1.c7,(E0.later hb).tab,zi B0 hb⟩
 clear hb O0 E0 B0
 have e0:eV ad 0= .nilIface:=rfl
 rw [e0]
 clear e0
 go_wp2_with fail
 obtain ⟨A0,A1,A2,A3,A4,A5,A6,A7,A8,A9⟩:=id R1
 go_region_held3 (fun w'=>w'.cell? ⟨w.heap.size,0,none⟩=some (.int .i64 t)/\w'.cell? ⟨w.heap.size,1,none⟩=some (.int .i64 b)/\w'.cell? ⟨w.heap.size,2,none⟩=some (.int .i64 n)/\w'.cell? ⟨w.heap.size,3,none⟩=some (.int .u8 (k:Int))/\w'.cell? ⟨w.heap.size,4,none⟩=some (.int .i64 node)/\w'.cell? ⟨w.heap.size,5,none⟩=some (.int .i64 other)/\w'.cell? ⟨w.heap.size,6,none⟩=some (.string name)/\w'.cell? ⟨w.heap.size,7,none⟩=some (.string value)/\Lib.TabIs prog w' "internal/strconv.uint64pow10" .u64 Lib.pow10Tab/\Below w.heap.size w w')
  (first
   | assumption
   | exact TxtR.drew ⟨A0,A1,A2,A3,A4,A5,A6,A7,A8,A9⟩
   | exact TxtR.later zq zq
   | exact TxtR.new zq _)
  (first
   | (go_at_call 39;refine (itoa_any _ yb yb _ (TxtR.tab zq)).mono ?_;rintro e w' ⟨rfl,hb⟩)
   | (go_at_call 137;refine (hexText_any _ _ yb).mono ?_;rintro e w' ⟨rfl,hb⟩)
   | (go_at_call 40;refine (join8 _ _ _ _ _ _ _ _ _ _ (by have hb1:=HB.o;have hl1:=HL.o;have hx1:=hexL_length value.data.toList;have hv1:=listLen value;simp only [sizeOfList,vH,vT];omega)).mono ?_;rintro e w' ⟨rfl,hb⟩))
 have R2:TxtR w t b n k node other name value w':=zq
 go_wp2
 go_ret2
 exact ⟨by rw [<-HR.o];rfl,R2.2.2.2.2.2.2.2.2.2⟩
theorem optext_no (t b n:Int) (k:Nat) (node other:Int) (name value:ByteArray) (w:World) (hE:TxtE ad w) (hsn:name.size<=1000000) (hsv:value.size<=1000000) (hop:opE t b n k node other name.data.toList value.data.toList≠0):
  Calls prog 94 #[.agg #[.int .i64 t,.int .i64 b,.int .i64 n,.int .u8 (k:Int),.int .i64 node,.int .i64 other,.string name,.string value]] w fun e w'=>e= .returned (.tuple #[.string ⟨#[]⟩,.iface 350 (.pointer (some (ad (opE t b n k node other name.data.toList value.data.toList - 1))))])/\Below w.heap.size w w':=by
 have O0:=OpAt.new w t b n k node other name value 41
 have E0:=hE.later ((vu _ _).alloc zg (.cells #[.int .i64 t,.int .i64 b,.int .i64 n,.int .u8 (k:Int),.int .i64 node,.int .i64 other,.string name,.string value] 41))
 have B0:Below w.heap.size w (w.alloc (.cells #[.int .i64 t,.int .i64 b,.int .i64 n,.int .u8 (k:Int),.int .i64 node,.int .i64 other,.string name,.string value] 41)):=zh _ _
 have hc:=fun u hu=>opcheck_any (ad:=ad) t b n k node other name value u hu hsn hsv
 generalize opE t b n k node other name.data.toList value.data.toList=c at hop hc |-
 have HC:=Lib.hid hc
 have he:eV ad c= .iface 350 (.pointer (some (ad (c - 1)))):=by unfold eV;rw [if_neg hop]
 have HV:=Lib.hid he
 clear hc he hop
 go_enter func94,ntmps94
 go_wp2_with fail
 generalize w.alloc (.cells #[.int .i64 t,.int .i64 b,.int .i64 n,.int .u8 (k:Int),.int .i64 node,.int .i64 other,.string name,.string value] 41)=u at O0 E0 B0 |-
 refine (HC.o u E0.op4).mono ?_
 rintro e w1 ⟨rfl,hb⟩
 rw [HV.o]
 have B1:Below w.heap.size w w1:=zi B0 hb
 clear hb O0 E0 B0
 go_wp2
 go_ret2
 exact ⟨rfl,B1⟩
end
section
open Go Go.RowKit Go.Lib Go.Sort
def RowB (w:World) (v:Value) (B:List UInt8):Prop:=∃(g cap:Nat) (cur:Array Value) (fr:Nat×Nat),v= .slice (some ⟨g,0,none⟩) B.length cap/\w.heap[g]? =some (.cells cur 5 fr)/\(fr=(0,0)\/cur.size<=fr.1)/\B.length<=cap/\cap<=maxLen/\cur.size=cap/\cur.toList.take B.length=bytesV B
theorem bytesV_len (B:List UInt8):(bytesV B).length=B.length:=ju
theorem RowB.lt (h:RowB w v B) (hg:v.ownBlock=some g):g<w.heap.size:=by
 obtain ⟨g',cap,cur,fr,rfl,h1,_⟩:=h
 cases hg
 exact (vn.1 h1).1
theorem RowB.same (h:RowB w v B) (e:∀g,v.ownBlock=some g->w'.heap[g]? =w.heap[g]?):RowB w' v B:=by
 obtain ⟨g',cap,cur,fr,rfl,h1,h2⟩:=h
 exact ⟨g',cap,cur,fr,rfl,(e g' rfl).trans h1,h2⟩
theorem RowB.shape (h:RowB w v B):∃g cap,v= .slice (some ⟨g,0,none⟩) B.length cap:=by
 obtain ⟨g',cap,cur,fr,rfl,_⟩:=h
 exact ⟨g',cap,rfl⟩
theorem RowB.cells (h:RowB w (.slice (some ⟨g,0,none⟩) B.length cap) B):∀j u,(bytesV B)[j]? =some u->w.cell? ((⟨g,0,none⟩:Addr).add j)=some u:=by
 obtain ⟨g',cap',cur,fr,e,h1,h2,h3,h4,h5,h6⟩:=h
 cases e
 intro j u hu
 rw [Addr.add_lit]
 have:cur[j]? =some u:=by
  rw [<-h6,un] at hu
  split at hu
  ·simpa using hu
  cases hu
 simp [World.cell?,h1,this]
theorem RowB.text (h:RowB w v B):Sem.run prog (convert 123 9 v) w= .ok (.string ⟨B.toArray⟩) w:=by
 obtain ⟨g,cap,rfl⟩:=h.shape
 have hc:=h.cells
 refine run_convert_bytes_back w _ _ _ _ _ B underlying123 underlying5 underlying9 (fun j hj=> ?_)
 refine hc j _ ?_
 simp [bytesV,vj hj]
theorem row_made (w:World) (s:ByteArray) (hs:s.size<=1000000):∃v w',Sem.run prog (convert 9 123 (.string s)) w= .ok v w'/\RowB w' v s.data.toList/\Below w.heap.size w w'/\∀g,v.ownBlock=some g->w.heap.size<=g:=by
 have hge:=grownCap_ge w s.size 0 5
 have hle:=grownCap_le_maxLen w s.size 0 5 zw
 obtain ⟨cap,hcap⟩:=za (grownCap w s.size 0 5)
 rw [<-hcap] at hge hle
 refine ⟨_,_,run_bytes_of_string w 9 123 5 s underlying9 underlying123 underlying5,?_,?_,?_⟩
 ·rw [<-hcap]
  have hbs:(bytesRow s cap).size=cap:=by
   unfold bytesRow
   simp
   have:s.data.size=s.size:=rfl
   omega
  refine ⟨w.heap.size,cap,bytesRow s cap,_,zm,heap_alloc_new w.drew _,.inr zg,by simpa using hge,hle,hbs,?_⟩
  unfold bytesRow bytesV
  rw [Array.toList_append,vZ zm]
  simp
  rw [vG zm]
 ·exact ((vu _ w).drew).alloc zm _
 intro g hg
 cases hg
 exact vm _
theorem RowB.cut (h:RowB w (.slice (some ⟨g,0,none⟩) B.length cap) B) {n:Nat} (hn:n<=B.length):RowB w (.slice (some ⟨g,0,none⟩) n cap) (B.take n):=by
 obtain ⟨g',cap',cur,fr,e,h1,h2,h3,h4,h5,h6⟩:=h
 cases e
 refine ⟨g,cap,cur,fr,by rw [vP];congr 1;omega,h1,h2,by rw [vP];omega,h4,h5,?_⟩
 rw [vP,Nat.min_eq_left hn]
 have:(cur.toList.take B.length).take n=(bytesV B).take n:=by rw [h6]
 rw [Zr,Nat.min_eq_left hn] at this
 rw [this]
 simp [bytesV]
theorem store_byte (w:World) (g n:Nat) (cur:Array Value) (fr:Nat×Nat) (c:UInt8) (hg:w.heap[g]? =some (.cells cur 5 fr)) (hf:fr=(0,0)\/cur.size<=fr.1) (hn:n<cur.size):(storeCells ⟨g,n,none⟩ [.int .u8 (c.toNat:Int)] 0).run prog w= .ok () (w.setRow g (cur.setIfInBounds n (.int .u8 (c.toNat:Int)))):=by
 have hadd:(⟨g,n,none⟩:Addr).add 0=⟨g,n,none⟩:=rfl
 have hcell:w.cell? ⟨g,n,none⟩=some cur[n]:=by simp [World.cell?,hg,hn]
 have hfro:w.frozen? ⟨g,n,none⟩=false:=by
  obtain ⟨lo,hi⟩:=fr
  simp only [World.frozen?,hg,Bool.and_eq_false_iff,decide_eq_false_iff_not]
  rcases hf with hf | hf
  ·cases hf;right;omega
  left;simp only at hf;omega
 have hst:(store ((⟨g,n,none⟩:Addr).add 0) (.int .u8 (c.toNat:Int))).run prog w= .ok () (w.setRow g (cur.setIfInBounds n (.int .u8 (c.toNat:Int)))):=by
  rw [hadd,run_store prog w _ _ _ rfl,hcell]
  simp [hfro,setCell_eq_setRow w g n cur 5 fr _ hg]
 simp only [storeCells,Sem.run_bind,hst,Result.andThen_ok]
 rfl
theorem row_append (h:RowB w v B) (a:Addr) (ty:TypeId) (c:UInt8) (hc:w.cell? a=some (.int .u8 (c.toNat:Int))) (hB:B.length<1000000):
  ∃v' w',(Builtin.append_ #[123,123] ty #[v,.slice (some a) 1 1]).run prog w= .ok v' w'/\RowB w' v' (B++ [c])/\w.grownBy w' v.ownBlock/\∀g,v'.ownBlock=some g->v.ownBlock=some g\/w.heap.size<=g:=by
 obtain ⟨i0,hi,hz0,hz1,hz2⟩:=info_parts infoByte
 have hnews:∀j u,[Value.int .u8 (c.toNat:Int)][j]? =some u->w.cell? (a.add j)=some u:=fun j u hj=>by
  match j,hj with
  | 0,hj=>
   cases hj
   rw [show a.add 0=a from rfl]
   exact hc
  | j+1,hj=>simp at hj
 obtain ⟨g,cap,hv⟩:=h.shape
 subst hv
 have hcells:=h.cells
 obtain ⟨g',cap',cur,fr,e,h1,h2,h3,h4,h5,h6⟩:=h
 cases e
 by_cases hroom:B.length+1<=cap
 ·have hf:=run_firstCells_some (P:=prog) w 1 1 a 1 1 [.int .u8 (c.toNat:Int)] rfl hnews
  have hst:=store_byte w g B.length cur fr c h1 h2 zj
  refine ⟨.slice (some ⟨g,0,none⟩) (B.length+1) cap,w.setRow g (cur.setIfInBounds B.length (.int .u8 (c.toNat:Int))),?_,?_,⟨rfl,rfl,rfl,zm,fun k _ hk=>setRow_other w g k _ (fun e=>hk (by simp [Value.ownBlock,e]))⟩,fun g hg=>.inl hg⟩
  ·simp [Builtin.append_,run_underlying underlying123,sizeOf,typeInfo,hi,hz1,Builtin.lenOf,hroom,hf,Addr.add_lit,hst]
  refine ⟨g,cap,_,fr,zm,setRow_heap w g cur _ _ _ h1,by simpa using h2,by simpa using hroom,h4,by simpa using h5,?_⟩
  rw [vw,uC,Array.toList_setIfInBounds,bytesV_append,<-h6]
  have hl:B.length<cur.toList.length:=zl
  have hl':B.length<(cur.toList.set B.length (Value.int .u8 (c.toNat:Int))).length:=yY
  rw [List.take_succ_eq_append_getElem hl',List.take_set_of_le zg,List.getElem_set_self]
  rfl
 have hr:=run_append_grow (P:=prog) w 123 ty 5 i0 (.int .u8 0) underlying123 hi hz0 ⟨g,0,none⟩ B.length cap (bytesV B) (by rw [hz1,bytesV_len];omega) hcells a 1 1 [.int .u8 (c.toNat:Int)] (by rw [hz1];rfl) hnews zj zj (by rw [hz2];exact growslice_fits zj zj)
 have hge:=grownCap_ge w (B.length+1) cap 5
 have hcm2:grownCap w (B.length+1) cap 5<=maxLen:=grownCap_le_maxLen w (B.length+1) cap 5 zw
 refine ⟨_,_,hr,⟨w.heap.size,_,_,(0,0),zm,heap_alloc_new w.drew _,.inl rfl,by simpa using hge,hcm2,?_,?_⟩,⟨rfl,rfl,rfl,zm,fun k hk _=>vy w.drew _ k qP⟩,fun k hk=> ?_⟩
 ·have hz1':(Value.int IntKind.u8 0).cells.size=1:=rfl
  simp only [Array.size_append,vY,size_zeroCells,hz1',bytesV_len]
  simp
  omega
 ·simp only [Array.toList_append,vR]
  rw [bytesV_append,<-vR]
  rw [vZ ju]
  rw [vG ju]
  rfl
 cases hk
 exact .inr zg
end
section
open Go Go.RowKit Go.Lib Go.Sort
abbrev DSt:=List UInt8×Bool×Bool×Int
structure DiskAt (w:World) (d:Nat) (v:Value) (st:DSt):Prop where
 cell:w.heap[d]? =some (.cells #[v,.bool st.2.1,.bool st.2.2.1,.int .i64 st.2.2.2] 156 (0,0))
 row:RowB w v st.1
 ne:v.ownBlock≠some d
 left:0<=st.2.2.2/\st.2.2.2<=9223372036854775807
def OwnD (d:Nat) (v:Value) (k:Nat):Prop:=k=d\/v.ownBlock=some k
theorem DiskAt.lt {st:DSt} (h:DiskAt w d v st):d<w.heap.size:=(vn.1 h.cell).1
theorem DiskAt.own_lt {st:DSt} (h:DiskAt w d v st) (hk:OwnD d v k):k<w.heap.size:=by
 rcases hk with rfl | hk
 ·exact h.lt
 exact h.row.lt hk
theorem DiskAt.same {w w':World} {d:Nat} {v:Value} {st:DSt} (h:DiskAt w d v st) (e:∀k,OwnD d v k->w'.heap[k]? =w.heap[k]?):DiskAt w' d v st:=
 ⟨(e d (.inl rfl)).trans h.cell,h.row.same (fun g hg=>e g (.inr hg)),h.ne,h.left⟩
theorem DiskAt.later {st:DSt} (h:DiskAt w d v st) (hb:Below w.heap.size w w'):DiskAt w' d v st:=h.same (fun k hk=>hb.block k (h.own_lt hk))
theorem DiskAt.c {st:DSt} (h:DiskAt w d v st):w.cell? ⟨d,0,none⟩=some v/\w.cell? ⟨d,1,none⟩=some (.bool st.2.1)/\w.cell? ⟨d,2,none⟩=some (.bool st.2.2.1)/\w.cell? ⟨d,3,none⟩=some (.int .i64 st.2.2.2)/\∀o,w.frozen? ⟨d,o,none⟩=false:=by
 have hc:=h.cell
 refine ⟨?_,?_,?_,?_,fun o=> ?_⟩
 ·simp [World.cell?,hc]
 ·simp [World.cell?,hc]
 ·simp [World.cell?,hc]
 ·simp [World.cell?,hc]
 simp [World.frozen?,hc]
theorem DiskAt.set1 {off:Bool} {left:Int} (h:DiskAt w d v (B,off,waits,left)) (z:Bool):DiskAt (w.setCell ⟨d,1,none⟩ (.bool z)) d v (B,z,waits,left)/\Keeps (fun k=>k=d) w (w.setCell ⟨d,1,none⟩ (.bool z)):=by
 have hk:=setCells_keeps d [.bool z] 1 w
 refine ⟨⟨heap_setCell_same w d 1 _ _ _ h.cell,h.row.same (fun g hg=>hk.block g (h.row.lt hg) (fun e=>h.ne xb)),h.ne,h.left⟩,hk⟩
theorem DiskAt.set2 {off:Bool} {left:Int} (h:DiskAt w d v (B,off,waits,left)) (z:Bool):DiskAt (w.setCell ⟨d,2,none⟩ (.bool z)) d v (B,off,z,left)/\Keeps (fun k=>k=d) w (w.setCell ⟨d,2,none⟩ (.bool z)):=by
 have hk:=setCells_keeps d [.bool z] 2 w
 refine ⟨⟨heap_setCell_same w d 2 _ _ _ h.cell,h.row.same (fun g hg=>hk.block g (h.row.lt hg) (fun e=>h.ne xb)),h.ne,h.left⟩,hk⟩
theorem DiskAt.set3 {off:Bool} {left:Int} (h:DiskAt w d v (B,off,waits,left)) (z:Int) (hz:0<=z/\z<=9223372036854775807):DiskAt (w.setCell ⟨d,3,none⟩ (.int .i64 z)) d v (B,off,waits,z)/\Keeps (fun k=>k=d) w (w.setCell ⟨d,3,none⟩ (.int .i64 z)):=by
 have hk:=setCells_keeps d [.int .i64 z] 3 w
 refine ⟨⟨heap_setCell_same w d 3 _ _ _ h.cell,h.row.same (fun g hg=>hk.block g (h.row.lt hg) (fun e=>h.ne xb)),h.ne,hz⟩,hk⟩
theorem DiskAt.set0 {v':Value} {B':List UInt8} {off:Bool} {left:Int} (h:w.heap[d]? =some (.cells #[v,.bool off,.bool waits,.int .i64 left] 156 (0,0))) (hr:RowB w v' B') (hn:v'.ownBlock≠some d) (hl:0<=left/\left<=9223372036854775807):DiskAt (w.setCell ⟨d,0,none⟩ v') d v' (B',off,waits,left)/\Keeps (fun k=>k=d) w (w.setCell ⟨d,0,none⟩ v'):=by
 have hk:=setCells_keeps d [v'] 0 w
 refine ⟨⟨heap_setCell_same w d 0 _ _ _ h,hr.same (fun g hg=>hk.block g (hr.lt hg) (fun e=>hn xb)),hn,hl⟩,hk⟩
theorem newDisk_any (s:ByteArray) (w:World) (hs:s.size<=65536):
  Calls prog 47 #[.string s] w fun e w'=>∃d v,e= .returned (.tuple #[.pointer (some ⟨d,0,none⟩),.nilIface])/\Aside (DiskAt w' d v (s.data.toList,false,false,0)/\Below w.heap.size w w'/\∀k,OwnD d v k->w.heap.size<=k):=by
 obtain ⟨v,w1,hcv,hrow,hb,hv⟩:=row_made w s zj
 have d1:decide ((65536:Int)<(s.size:Int))=false:=zl
 have d1n:decide (65536<s.size)=false:=zl
 have H:Aside (RowB w1 v s.data.toList/\Below w.heap.size w w1/\∀g,v.ownBlock=some g->w.heap.size<=g):=⟨hrow,hb,hv⟩
 obtain ⟨g,cap,hvs⟩:=hrow.shape
 subst hvs
 clear hrow hb hv
 go_enter func47,ntmps47
 go_wp2
 go_ret2
 have hb2:Below w1.heap.size w1 (w1.alloc (.cells #[.slice (some ⟨g,0,none⟩) s.data.toList.length cap,.bool false,.bool false,.int .i64 0] 156)):=zh w1 _
 refine ⟨w1.heap.size,_,rfl,⟨heap_alloc_new w1 _,H.o.1.same (fun g hg=>hb2.block g (H.o.1.lt hg)),fun e=> ?_,⟨by show (0:Int)<=0;omega,by show (0:Int)<=9223372036854775807;omega⟩⟩,zi H.o.2.1 hb2,fun k hk=> ?_⟩
 ·have:=H.o.1.lt e;omega
 rcases hk with rfl | hk
 ·exact H.o.2.1.size
 exact H.o.2.2 k hk
theorem power_any {st:DSt} (w:World) (h:DiskAt w d v st):
  Calls prog 81 #[.pointer (some ⟨d,0,none⟩)] w fun e w'=>e= .returned (.bool (!st.2.1))/\w'=w:=by
 obtain ⟨c0,c1,c2,c3,cf⟩:=h.c
 clear h
 go_enter func81,ntmps81
 go_wp2
 go_ret
 exact ⟨rfl,rfl⟩
theorem bytes_any {st:DSt} (w:World) (h:DiskAt w d v st):
  Calls prog 120 #[.pointer (some ⟨d,0,none⟩)] w fun e w'=>e= .returned (.string ⟨st.1.toArray⟩)/\w'=w:=by
 obtain ⟨c0,c1,c2,c3,cf⟩:=h.c
 have hcv:=h.row.text
 obtain ⟨g,cap,hv⟩:=h.row.shape
 subst hv
 clear h
 go_enter func120,ntmps120
 go_wp2
 go_ret
 exact ⟨rfl,rfl⟩
theorem on_any {off:Bool} {left:Int} (w:World) (h:DiskAt w d v (B,off,waits,left)):
  Calls prog 118 #[.pointer (some ⟨d,0,none⟩)] w fun e w'=>(∃u,e= .returned u)/\Aside (DiskAt w' d v (B,false,false,left)/\Keeps (fun k=>k=d) w w'):=by
 obtain ⟨c0,c1,c2,c3,cf⟩:=h.c
 dsimp only at c1 c2 c3
 have H:Aside (DiskAt w d v (B,off,waits,left)):=h
 clear h
 go_enter func118,ntmps118
 go_wp2
 go_end0
 have h1:=H.o.set1 false
 have h2:=h1.1.set2 false
 exact ⟨⟨_,rfl⟩,h2.1,h1.2.trans h2.2⟩
structure ErrD (ad:Nat->Addr) (w:World):Prop where
 c1:w.cell? ⟨0,0,none⟩=some (.iface 350 (.pointer (some (ad 1))))
 c2:w.cell? ⟨4,0,none⟩=some (.iface 350 (.pointer (some (ad 2))))
 c7:w.cell? ⟨2,0,none⟩=some (.iface 350 (.pointer (some (ad 7))))
 c10:w.cell? ⟨3,0,none⟩=some (.iface 350 (.pointer (some (ad 10))))
theorem ErrD.later (h:ErrD ad w) (e:∀k,k<w.heap.size->k∈ [0,4,2,3]->w'.heap[k]? =w.heap[k]?):ErrD ad w':=by
 refine ⟨?_,?_,?_,?_⟩
 ·rw [vI (a:=⟨0,0,none⟩) (e _ (vp w ⟨0,0,none⟩ h.c1) zm)];exact h.c1
 ·rw [vI (a:=⟨4,0,none⟩) (e _ (vp w ⟨4,0,none⟩ h.c2) zm)];exact h.c2
 ·rw [vI (a:=⟨2,0,none⟩) (e _ (vp w ⟨2,0,none⟩ h.c7) zm)];exact h.c7
 rw [vI (a:=⟨3,0,none⟩) (e _ (vp w ⟨3,0,none⟩ h.c10) zm)];exact h.c10
def cutE (off:Bool) (n:Int):Nat:=if n<0 then 2 else if off then 11 else 0
def cutSt (st:DSt) (n:Int):DSt:=if cutE st.2.1 n=0 then (st.1,st.2.1,true,n) else st
theorem cut_any {off:Bool} {left:Int} (w:World) (n:Int) (h:DiskAt w d v (B,off,waits,left)) (hE:ErrD ad w) (hn:n<=9223372036854775807):
  Calls prog 49 #[.pointer (some ⟨d,0,none⟩),.int .i64 n] w fun e w'=>e= .returned (eV ad (cutE off n))/\Aside (DiskAt w' d v (cutSt (B,off,waits,left) n)/\Keeps (fun k=>k=d) w w'):=by
 obtain ⟨c0,c1,c2,c3,cf⟩:=h.c
 dsimp only at c1 c2 c3
 have H:Aside (DiskAt w d v (B,off,waits,left)):=h
 have hp:=power_any w h
 dsimp only at hp
 have e1:=hE.c1
 have e10:=hE.c10
 clear h hE
 by_cases h0:n<0
 ·have d0:decide (n<0)=true:=by simp;omega
  have ec:cutE off n=2:=if_pos h0
  have HC:Aside (cutE off n=2):=ec
  rw [ec]
  clear ec hp
  go_enter func49,ntmps49
  go_wp2
  go_ret
  refine ⟨rfl,?_,Keeps.refl _ _⟩
  unfold cutSt
  rw [HC.o]
  exact H.o
 have d0:decide (n<0)=false:=zl
 cases off with
 | true=>
  have HC:Aside (cutE true n=11):=by unfold cutE;rw [if_neg h0];rfl
  rw [HC.o]
  go_enter func49,ntmps49
  go_wp2_with fail
  refine hp.mono ?_
  clear hp
  rintro e w1 ⟨rfl,rfl⟩
  go_wp2
  go_ret
  refine ⟨rfl,?_,Keeps.refl _ _⟩
  unfold cutSt
  rw [HC.o]
  exact H.o
 | false=>
  have HC:Aside (cutE false n=0):=by unfold cutE;rw [if_neg h0];rfl
  rw [HC.o]
  go_enter func49,ntmps49
  go_wp2_with fail
  refine hp.mono ?_
  clear hp
  rintro e w1 ⟨rfl,rfl⟩
  go_wp2
  go_ret
  have h1:=H.o.set2 true
  have h2:=h1.1.set3 n ⟨zj,hn⟩
  refine ⟨rfl,?_,h1.2.trans h2.2⟩
  unfold cutSt
  rw [HC.o]
  exact h2.1
def wr1 (st:DSt) (c:UInt8):Bool×DSt:=if st.2.2.1=true/\st.2.2.2=0 then (false,(st.1,true,false,st.2.2.2)) else if st.2.1=true then (false,st) else (true,(st.1++ [c],st.2.1,st.2.2.1,if st.2.2.1=true then st.2.2.2 - 1 else st.2.2.2))
def WroteD (d:Nat) (v:Value) (w:World) (st':DSt) (w':World):Prop:=∃v',DiskAt w' d v' st'/\Keeps (OwnD d v) w w'/\∀g,v'.ownBlock=some g->v.ownBlock=some g\/w.heap.size<=g
theorem laid_byte {w2:World} {v2:Value} {off:Bool} {left:Int} {c:UInt8} {o:Obj} (h:DiskAt w d v (B,off,waits,left)) (hr:RowB w2 v2 (B++ [c])) (hg:(w.alloc o).grownBy w2 v.ownBlock) (hv:∀g,v2.ownBlock=some g->v.ownBlock=some g\/(w.alloc o).heap.size<=g):DiskAt (w2.setCell ⟨d,0,none⟩ v2) d v2 (B++ [c],off,waits,left)/\Keeps (OwnD d v) w (w2.setCell ⟨d,0,none⟩ v2)/\∀g,v2.ownBlock=some g->v.ownBlock=some g\/w.heap.size<=g:=by
 have hd:w2.heap[d]? =some (.cells #[v,.bool off,.bool waits,.int .i64 left] 156 (0,0)):=by
  have h1:(w.alloc o).heap[d]? =w.heap[d]? :=vy w o d h.lt
  rw [(keeps_of_grown hg).block d (by simp;have:=h.lt;omega) (fun e=>h.ne e.symm),h1]
  exact h.cell
 have hn:v2.ownBlock≠some d:=fun e=>by
  rcases hv d e with q | q
  ·exact h.ne q
  have:=h.lt;simp at q;omega
 have h1:=DiskAt.set0 hd hr hn h.left
 refine ⟨h1.1,?_,fun g e=>(hv g e).imp id (fun q=>by simp at q;omega)⟩
 have k1:Keeps (OwnD d v) w w2:=((Keeps.refl _ w).alloc o).trans ((keeps_of_grown hg).mono (fun k _ e=>.inr e.symm))
 exact k1.then h1.2 (fun i _ e=>.inl e)
theorem write_byte {off:Bool} {left:Int} (w:World) (c:UInt8) (h:DiskAt w d v (B,off,waits,left)) (hB:B.length<1000000):
  Calls prog 96 #[.pointer (some ⟨d,0,none⟩),.int .u8 (c.toNat:Int)] w fun e w'=>e= .returned (.bool (wr1 (B,off,waits,left) c).1)/\Aside (WroteD d v w (wr1 (B,off,waits,left) c).2 w'):=by
 obtain ⟨c0,c1,c2,c3,cf⟩:=h.c
 dsimp only at c1 c2 c3
 have hleft:=h.left
 dsimp only at hleft
 have H:Aside (DiskAt w d v (B,off,waits,left)):=h
 obtain ⟨g,cap,hvs⟩:=h.row.shape
 dsimp only at hvs
 obtain ⟨o,ho⟩:∃o:Obj,Aside (o= .cells #[.int .u8 (c.toNat:Int)] 5):=⟨_,rfl⟩
 have hrA:RowB (w.alloc o) v B:=h.row.same (fun k hk=>vy w o k (h.row.lt hk))
 have hcl:(w.alloc o).cell? ⟨w.heap.size,0,none⟩=some (.int .u8 (c.toNat:Int)):=by
  have:=heap_alloc_new w o
  unfold World.cell?
  dsimp only
  rw [this,ho.o]
  rfl
 obtain ⟨v2,w2,hrun,hr2,hg2,hv2⟩:=row_append hrA ⟨w.heap.size,0,none⟩ 123 c hcl hB
 have HL:Aside (DiskAt (w2.setCell ⟨d,0,none⟩ v2) d v2 (B++ [c],off,waits,left)/\Keeps (OwnD d v) w (w2.setCell ⟨d,0,none⟩ v2)/\∀g,v2.ownBlock=some g->v.ownBlock=some g\/w.heap.size<=g):=laid_byte h hr2 hg2 hv2
 have hd2:w2.heap[d]? =some (.cells #[v,.bool off,.bool waits,.int .i64 left] 156 (0,0)):=by
  have h1:(w.alloc o).heap[d]? =w.heap[d]? :=vy w o d h.lt
  rw [(keeps_of_grown hg2).block d (by simp;have:=h.lt;omega) (fun e=>h.ne e.symm),h1]
  exact h.cell
 obtain ⟨g2,cap2,hvs2⟩:=hr2.shape
 rw [show (B++ [c]).length=B.length+1 by simp] at hvs2
 have y0:w2.cell? ⟨d,0,none⟩=some v:=jx
 have y2:w2.cell? ⟨d,2,none⟩=some (.bool waits):=jx
 have y3:w2.cell? ⟨d,3,none⟩=some (.int .i64 left):=jx
 have yf:∀o,w2.frozen? ⟨d,o,none⟩=false:=fun o=>by simp [World.frozen?,hd2]
 rw [ho.o] at hrun
 clear h hrA hcl hr2 hg2 hv2 hd2
 subst hvs
 subst hvs2
 cases waits with
 | true=>
  by_cases h0:left=0
  ·subst h0
   have HW:Aside (wr1 (B,off,true,0) c=(false,(B,true,false,0))):=by unfold wr1;rfl
   rw [HW.o]
   clear hrun HL y0 y2 y3 yf
   go_enter func96,ntmps96
   go_wp2
   go_ret
   have h1:=H.o.set1 true
   have h2:=h1.1.set2 false
   exact ⟨rfl,_,h2.1,(h1.2.trans h2.2).mono (fun k _ e=>.inl e),fun g hg=>.inl hg⟩
  have d0:(left==0)=false:=jg
  cases off with
  | true=>
   have HW:Aside (wr1 (B,true,true,left) c=(false,(B,true,true,left))):=by
    show wr1 (B,true,true,left) c=_
    unfold wr1
    simp [h0]
   rw [HW.o]
   clear hrun HL y0 y2 y3 yf
   go_enter func96,ntmps96
   go_wp2
   go_ret
   exact ⟨rfl,_,H.o,Keeps.refl _ _,fun g hg=>.inl hg⟩
  | false=>
   have HW:Aside (wr1 (B,false,true,left) c=(true,(B++ [c],false,true,left - 1))):=by
    show wr1 (B,false,true,left) c=_
    unfold wr1
    simp [h0]
   rw [HW.o]
   have hw1:IntKind.i64.wrap (left - 1)=left - 1:=zv
   go_enter func96,ntmps96
   go_wp2_with (at_builtin;refine Lib.wpList_append_run _ rfl _ _ _ _ rfl _ _ rfl rfl _ _ hrun ?_)
   go_ret
   have h1:=HL.o.1.set3 (left - 1) zj
   exact ⟨rfl,_,h1.1,HL.o.2.1.then h1.2 (fun k _ e=>.inl e),HL.o.2.2⟩
 | false=>
  cases off with
  | true=>
   have HW:Aside (wr1 (B,true,false,left) c=(false,(B,true,false,left))):=by
    show wr1 (B,true,false,left) c=_
    unfold wr1
    simp
   rw [HW.o]
   clear hrun HL y0 y2 y3 yf
   go_enter func96,ntmps96
   go_wp2
   go_ret
   exact ⟨rfl,_,H.o,Keeps.refl _ _,fun g hg=>.inl hg⟩
  | false=>
   have HW:Aside (wr1 (B,false,false,left) c=(true,(B++ [c],false,false,left))):=by
    show wr1 (B,false,false,left) c=_
    unfold wr1
    simp
   rw [HW.o]
   go_enter func96,ntmps96
   go_wp2_with (at_builtin;refine Lib.wpList_append_run _ rfl _ _ _ _ rfl _ _ rfl rfl _ _ hrun ?_)
   go_ret
   exact ⟨rfl,_,HL.o.1,HL.o.2.1,HL.o.2.2⟩
end
section
open Go Go.RowKit Go.Lib Go.Sort
def encJ (x:OpX):Value:=.agg #[.int .i64 x.1,.int .i64 x.2.1,.int .i64 x.2.2.1,.int .u8 (x.2.2.2.1:Int),.int .i64 x.2.2.2.2.1,.int .i64 x.2.2.2.2.2.1,.string x.2.2.2.2.2.2.1,.string x.2.2.2.2.2.2.2]
structure FactJ (ad:Nat->Addr) (w:World):Prop where
 txt:TxtE ad w
 errd:ErrD ad w
 deb:DeB w
 et:w.cell? ⟨12,0,none⟩=some (.iface 350 (.pointer (some (ad 0))))
 mx:∃m:Int,w.cell? ⟨10,0,none⟩=some (.int .i64 m)
structure EnvJ (B:Nat) (ad:Nat->Addr) (w:World):Prop where
 size:B<=w.heap.size
 all:∀w',Below B w w'->FactJ ad w'
theorem EnvJ.mono {B:Nat} (h:EnvJ B ad w) (hb:Below B w w'):EnvJ B ad w':=⟨vr h.size hb.size,fun w'' h'=>h.all w'' (hb.trans h')⟩
theorem EnvJ.later {B:Nat} (h:EnvJ B ad w) (hb:Below w.heap.size w w'):EnvJ B ad w':=h.mono (hb.mono h.size)
theorem EnvJ.here {B:Nat} (h:EnvJ B ad w):FactJ ad w:=h.all w (vu _ _)
theorem EnvJ.up {B B':Nat} (h:EnvJ B ad w) (hB:B<=B') (hs:B'<=w.heap.size):EnvJ B' ad w:=⟨hs,fun w' h'=>h.all w' (h'.mono hB)⟩
def wrAll:DSt->List UInt8->Bool×DSt
 | st,[]=>(true,st)
 | st,c::l=>if (wr1 st c).1=true then wrAll (wr1 st c).2 l else (false,(wr1 st c).2)
def appE (st:DSt) (x:OpX):Nat×DSt:=if errJ x≠0 then (errJ x,st) else if 65536<st.1.length+(recL (textO x)).length then (8,st) else if (wrAll st (recL (textO x))).1=true then (0,(wrAll st (recL (textO x))).2) else (11,(wrAll st (recL (textO x))).2)
theorem wr1_len (st:DSt) (c:UInt8):(wr1 st c).2.1.length<=st.1.length+1:=by
 unfold wr1
 split
 ·simp
 split
 ·simp
 simp
theorem WroteD.start {st:DSt} (h:DiskAt w d v st):WroteD d v w st w:=⟨v,h,Keeps.refl _ _,fun g hg=>.inl hg⟩
theorem WroteD.later {d:Nat} {v:Value} {w W W':World} {st:DSt} (h:WroteD d v w st W) (hb:Below W.heap.size W W'):WroteD d v w st W':=by
 obtain ⟨v',h1,h2,h3⟩:=h
 exact ⟨v',h1.later hb,h2.then (keeps_of_below hb) (fun i hi q=>by have:=h2.size;omega),h3⟩
theorem WroteD.from {st:DSt} (hb:Below w.heap.size w W) (hd:DiskAt w d v st) {st':DSt} (h:WroteD d v W st' W'):WroteD d v w st' W':=by
 obtain ⟨v',h1,h2,h3⟩:=h
 refine ⟨v',h1,?_,fun g hg=>(h3 g hg).imp id (fun q=>vr hb.size q)⟩
 exact ((keeps_of_below hb).mono (fun k hk q=>zj)).then h2 (fun i _ q=>q)
theorem WroteD.next {st st':DSt} (h:WroteD d v w st W) (k:∀v',DiskAt W d v' st->WroteD d v' W st' W'):WroteD d v w st' W':=by
 obtain ⟨v',h1,h2,h3⟩:=h
 obtain ⟨v2,k1,k2,k3⟩:=k v' h1
 refine ⟨v2,k1,h2.then k2 (fun i hi q=> ?_),fun g hg=> ?_⟩
 ·rcases q with rfl | q
  ·exact .inl rfl
  rcases h3 i q with e | e
  ·exact .inr e
  omega
 rcases k3 g hg with e | e
 ·exact h3 g e
 exact .inr (vr h2.size e)
theorem WroteD.below {d:Nat} {v:Value} {w W:World} {st:DSt} {B:Nat} (h:WroteD d v w st W) (hB:B<=w.heap.size) (hO:∀k,OwnD d v k->B<=k):Below B w W:=by
 obtain ⟨v',h1,h2,h3⟩:=h
 exact h2.below hB hO
theorem WroteD.own {st:DSt} {B:Nat} (h:WroteD d v w st W) (hB:B<=w.heap.size) (hO:∀k,OwnD d v k->B<=k):∃v',DiskAt W d v' st/\(∀k,OwnD d v' k->B<=k)/\Keeps (OwnD d v) w W:=by
 obtain ⟨v',h1,h2,h3⟩:=h
 refine ⟨v',h1,fun k hk=> ?_,h2⟩
 rcases hk with rfl | hk
 ·exact hO k (.inl rfl)
 rcases h3 k hk with e | e
 ·exact hO k (.inr e)
 omega
theorem append_any {B:Nat} {st:DSt} (w:World) (x:OpX) (hD:DiskAt w d v st) (hE:EnvJ B ad w) (hO:∀k,OwnD d v k->B<=k) (hs1:x.2.2.2.2.2.2.1.size<=1000000) (hs2:x.2.2.2.2.2.2.2.size<=1000000) (hB:st.1.length<=65536):
  Calls prog 57 #[.pointer (some ⟨d,0,none⟩),encJ x] w fun e w'=>e= .returned (eV ad (appE st x).1)/\Aside (WroteD d v w (appE st x).2 w'):=by
 obtain ⟨t,b,n,kd,nd,o,s,vl⟩:=x
 dsimp only at hs1 hs2
 obtain ⟨x,hx⟩:∃x:OpX,Aside (x=(t,b,n,kd,nd,o,s,vl)):=⟨_,rfl⟩
 have ex:(t,b,n,kd,nd,o,s,vl)=x:=hx.o.symm
 obtain ⟨U,hU⟩:=ze (w.alloc (.cells #[.int .i64 t,.int .i64 b,.int .i64 n,.int .u8 (kd:Int),.int .i64 nd,.int .i64 o,.string s,.string vl] 41))
 have hbU:Below w.heap.size w U:=yA
 have HD:Aside (DiskAt w d v st/\DiskAt U d v st/\EnvJ B ad w/\EnvJ B ad U/\(∀k,OwnD d v k->B<=k)/\Below w.heap.size w U):=⟨hD,hD.later hbU,hE,hE.later hbU,hO,hbU⟩
 clear hD hE hO hbU
 by_cases herr:errJ x=0
 case neg=>
  have htx:=optext_no t b n kd nd o s vl U HD.o.2.2.2.1.here.txt hs1 hs2 (by rw [hx.o] at herr;exact herr)
  have HA:Aside (appE st x=(errJ x,st)/\eV ad (errJ x)= .iface 350 (.pointer (some (ad (errJ x - 1))))):=⟨by unfold appE;rw [if_pos herr],if_neg herr⟩
  have e0:opE t b n kd nd o s.data.toList vl.data.toList=errJ x:=by rw [hx.o];rfl
  rw [e0] at htx
  obtain ⟨ea,hea⟩:=ze (ad (errJ x - 1))
  rw [<-hea.o] at htx HA
  rw [ex]
  rw [HA.o.1]
  dsimp only
  rw [HA.o.2,hx.o]
  unfold encJ
  dsimp only
  clear e0 ex herr
  go_enter func57,ntmps57
  go_wp2_with fail
  rw [<-hU.o]
  refine htx.mono ?_
  clear htx
  rintro e w1 ⟨rfl,hb1⟩
  have HW:Aside (WroteD d v w st w1):=((WroteD.start HD.o.2.1).later hb1).from HD.o.2.2.2.2.2 HD.o.1
  clear hb1
  go_wp2
  go_ret
  exact ⟨rfl,HW.o⟩
 have htx:=optext_ok t b n kd nd o s vl U HD.o.2.2.2.1.here.txt (by rw [hx.o] at herr;exact herr)
 have e0:opTextL t b n kd nd o s.data.toList vl.data.toList=textO x:=by rw [hx.o];rfl
 rw [e0] at htx
 obtain ⟨tx,htx2⟩:∃tx:ByteArray,Aside (tx=⟨(textO x).toArray⟩):=⟨_,rfl⟩
 rw [<-htx2.o] at htx
 have htl:tx.data.toList=textO x:=by rw [htx2.o]
 have hts:tx.size<=1000:=by
  have:=textO_len herr
  rw [<-htl] at this
  simpa using this
 obtain ⟨g,cap,hvs⟩:=HD.o.1.row.shape
 have HX:Aside (errJ x=0):=herr
 rw [ex]
 obtain ⟨cd,sx,hcs⟩:∃cd sx,Aside (appE st x=(cd,sx)):=⟨(appE st x).1,(appE st x).2,rfl⟩
 rw [hcs.o]
 unfold encJ
 rw [hx.o]
 dsimp only
 clear e0 ex herr
 go_enter func57,ntmps57
 go_wp2_with fail
 rw [<-hU.o]
 refine htx.mono ?_
 clear htx
 rintro e w1 ⟨rfl,hb1⟩
 have hD1:=HD.o.2.1.later hb1
 have hE1:=HD.o.2.2.2.1.later hb1
 have hrc:=record_any tx w1 zj hE1.here.deb
 go_wp2_with fail
 refine hrc.mono ?_
 clear hrc
 rintro e w2 ⟨r,hr,rfl,hb2⟩
 have hD2:=hD1.later hb2
 have hbw:Below w.heap.size w w2:=HD.o.2.2.2.2.2.trans ((zi hb1 hb2).mono HD.o.2.2.2.2.2.size)
 rw [htl] at hr
 have H2:Aside (DiskAt w2 d v st/\EnvJ B ad w2/\Below w.heap.size w w2/\r.data.toList=recL (textO x)):=⟨hD2,hE1.later hb2,hbw,hr⟩
 have hrs:r.size=(recL (textO x)).length:=by rw [<-hr];simp
 have hr1:r.size<=1010:=by
  rw [hrs,recL_len]
  have:=textO_len HX.o
  omega
 obtain ⟨c0,c1,c2,c3,cf⟩:=hD2.c
 rw [hvs] at c0
 have e7:=(hE1.later hb2).here.errd.c7
 have HRS:Aside (r.size=(recL (textO x)).length):=hrs
 clear hb1 hb2 hD1 hD2 hE1 hbw hr c1 c2 c3 cf hrs htl hvs
 obtain ⟨tot,htot⟩:∃tot:Nat,Aside (tot=st.1.length+r.size):=⟨_,rfl⟩
 have hwr:IntKind.i64.wrap ((st.1.length:Int)+(r.size:Int))=(tot:Int):=by rw [IntKind.wrap_i64,htot.o];omega
 by_cases hfull:65536<st.1.length+r.size
 ·have d1:decide ((65536:Int)<(tot:Int))=true:=by have:=htot.o;simp;omega
  have d1n:decide (65536<tot)=true:=xW
  have HA:Aside (eV ad cd= .iface 350 (.pointer (some (ad 7)))/\WroteD d v w sx w2):=by
   have ha:appE st x=(8,st):=by
    unfold appE
    rw [if_neg (fun q=>q HX.o),if_pos (by rw [<-HRS.o];exact hfull)]
   rw [hcs.o] at ha
   cases ha
   exact ⟨rfl,(WroteD.start H2.o.1).from H2.o.2.2.1 HD.o.1⟩
  clear hfull
  go_wp2
  go_ret
  exact ⟨by rw [HA.o.1];rfl,HA.o.2⟩
 have d1:decide ((65536:Int)<(tot:Int))=false:=xW
 have d1n:decide (65536<tot)=false:=xW
 have HA:Aside (∀z st',wrAll st (recL (textO x))=(z,st')->(z=true->cd=0/\sx=st')/\(z=false->cd=11/\sx=st')):=fun z st' hz=>by
  have ha:appE st x=if (wrAll st (recL (textO x))).1=true then (0,(wrAll st (recL (textO x))).2) else (11,(wrAll st (recL (textO x))).2):=by
   unfold appE
   rw [if_neg (fun q=>q HX.o),if_neg (by rw [<-HRS.o];exact hfull)]
  rw [hcs.o,hz] at ha
  refine ⟨fun q=> ?_,fun q=> ?_⟩
  ·subst q;cases ha;exact ⟨rfl,rfl⟩
  subst q;cases ha;exact ⟨rfl,rfl⟩
 go_wp2
 clear c0 e7 d1 d1n hwr
 go_loopg [34] r.size (fun kx s34 W=>∃(k:Nat) (sk:DSt),s34= .int .i64 (k:Int)/\k<=r.size/\r.size - k<=kx/\Aside (WroteD d v w2 sk W/\wrAll st (recL (textO x))=wrAll sk ((recL (textO x)).drop k)/\sk.1.length<=st.1.length+k))
 case atStart=>exact ⟨0,st,rfl,vD _,vm _,WroteD.start H2.o.1,rfl,vm _⟩
 case round=>
  obtain ⟨k,sk,rfl,hk,hkx,A⟩:=hrel
  by_cases hlt:k<r.size
  ·have d2:decide ((k:Int)<(r.size:Int))=true:=by simp;omega
   have d2n:decide (k<r.size)=true:=zl
   obtain ⟨vk,hDk,-,-⟩:=A.o.1.own H2.o.2.1.size HD.o.2.2.2.2.1
   obtain ⟨Bk,ofk,wtk,lfk⟩:=sk
   obtain ⟨ch,hch⟩:∃ch:UInt8,Aside (ch=r[k]):=⟨r[k],rfl⟩
   obtain ⟨z,sn,hzn⟩:∃z sn,Aside (wr1 (Bk,ofk,wtk,lfk) ch=(z,sn)):=⟨_,_,rfl⟩
   have hwb:Calls prog 96 #[.pointer (some ⟨d,0,none⟩),.int .u8 (r[k].toNat:Int)] wr fun e w'=>e= .returned (.bool z)/\Aside (WroteD d v w2 sn w'):=by
    obtain ⟨vk,hDk,h2,h3⟩:=A.o.1
    refine (write_byte wr r[k] hDk (by have:=A.o.2.2;show Bk.length<1000000;dsimp only at this;omega)).mono ?_
    rintro e w' ⟨he,H⟩
    rw [<-hch.o,hzn.o] at he H
    refine ⟨he,WroteD.next ⟨vk,hDk,h2,h3⟩ (fun v'' hv''=> ?_)⟩
    have:v''=vk:=by
     have e1:=hDk.cell
     rw [hv''.cell] at e1
     simpa using e1
    rw [this]
    exact H.o
   have hdr:(recL (textO x)).drop k=ch::(recL (textO x)).drop (k+1):=by
    have:=byteAt r k hlt
    rw [H2.o.2.2.2] at this
    rw [hch.o]
    exact this
   have HW:Aside (wrAll st (recL (textO x))=if z=true then wrAll sn ((recL (textO x)).drop (k+1)) else (false,sn)):=by
    show _=_
    rw [A.o.2.1,hdr,wrAll,hzn.o]
   have HL:Aside (sn.1.length<=st.1.length+(k+1)):=by
    have:=wr1_len (Bk,ofk,wtk,lfk) ch
    rw [hzn.o] at this
    have h3:=A.o.2.2
    show sn.1.length<=_
    dsimp only at this h3
    omega
   clear hDk hdr
   go_wp2_with fail
   refine hwb.mono ?_
   clear hwb
   rintro e w3 ⟨rfl,H3⟩
   cases z with
   | true=>
    have HR:Aside (WroteD d v w2 sn w3/\wrAll st (recL (textO x))=wrAll sn ((recL (textO x)).drop (k+1))/\sn.1.length<=st.1.length+(k+1)):=⟨H3.o,HW.o,HL.o⟩
    clear A HW HL H3
    go_wp2
    go_roundg (r.size - (k+1))
    case measure=>omega
    case rel=>exact ⟨k+1,sn,zL,zj,vm _,HR.o⟩
   | false=>
    have hc:=(HA.o false sn HW.o).2 rfl
    have e10:=(H2.o.2.1.mono (H3.o.below H2.o.2.1.size HD.o.2.2.2.2.1)).here.errd.c10
    have HF:Aside (eV ad cd= .iface 350 (.pointer (some (ad 10)))/\WroteD d v w sx w3):=by
     refine ⟨by rw [hc.1];rfl,?_⟩
     rw [hc.2]
     exact WroteD.from H2.o.2.2.1 HD.o.1 H3.o
    clear A HW HL H3 hc
    go_wp2
    go_ret
    exact ⟨by rw [HF.o.1];rfl,HF.o.2⟩
  have d2:decide ((k:Int)<(r.size:Int))=false:=zl
  have d2n:decide (k<r.size)=false:=zl
  have HF:Aside (eV ad cd= .nilIface/\WroteD d v w sx wr):=by
   have hd:(recL (textO x)).drop k= []:=by
    rw [List.drop_eq_nil_iff,<-HRS.o]
    omega
   have hw:=A.o.2.1
   rw [hd] at hw
   have hc:=(HA.o true sk hw).1 rfl
   refine ⟨by rw [hc.1];rfl,?_⟩
   rw [hc.2]
   exact WroteD.from H2.o.2.2.1 HD.o.1 A.o.1
  clear A
  go_wp2
  go_ret
  exact ⟨by rw [HF.o.1];rfl,HF.o.2⟩
end
section
open Go.ChangeShapes Go.WideShapes Go.ChangeAt Go.RowKit Go.Joins
def deBTab:List Int:=[0,1,56,2,57,49,28,3,61,58,42,50,38,29,17,4,62,47,59,36,45,43,51,22,53,39,33,30,24,18,12,5,63,55,48,27,60,41,37,16,46,35,44,21,52,32,23,11,54,26,40,15,34,20,31,10,25,14,19,9,13,8,7,6]
theorem gDeb:prog.globalNamed "math/bits.deBruijn64tab" =some 14:=zk
theorem tDeb:(prog.globals[14]?).map (·.type)=some 327:=zk
theorem cellsDeb:prog.cellsOf 327=64:=zk
theorem cellsU8:prog.cellsOf 5=1:=zk
theorem deb_tab (h:Lib.VarReads prog W "math/bits.deBruijn64tab" (Lib.tabData .u8 deBTab)):Lib.TabIs prog W "math/bits.deBruijn64tab" .u8 deBTab:=by
 obtain ⟨g,t,cs,fuel,p,hg,ht,hvar,hd⟩:=h
 obtain rfl:=Option.some.inj (gDeb.symm.trans hg)
 obtain rfl:=Option.some.inj (tDeb.symm.trans ht)
 unfold Lib.TabIs
 rw [hvar,<-Lib.cells_of_tab underlying327 underlying5 cellsU8 cellsDeb hd]
theorem deb_of (h:Lib.VarReads prog W "math/bits.deBruijn64tab" Rows.laid_math_bits_deBruijn64tab):DeB W:=by
 have h':Lib.VarReads prog W "math/bits.deBruijn64tab" (Lib.tabData .u8 deBTab):=h
 have ht:=deb_tab h'
 unfold Lib.TabIs at ht
 exact (World.var?_cell gDeb ht 15).trans (show _=some (Value.int .u8 4) by kernel_rfl)
theorem FactJ.later {ad:Nat->Addr} {w w':World} (h:FactJ ad w) (hb:Below w.heap.size w w'):FactJ ad w':=by
 obtain ⟨m,hm⟩:=h.mx
 exact ⟨h.txt.later hb,⟨cellLater hb h.errd.c1,cellLater hb h.errd.c2,cellLater hb h.errd.c7,cellLater hb h.errd.c10⟩,h.deb.later hb,cellLater hb h.et,m,cellLater hb hm⟩
theorem envJ_of (h:FactJ ad w):EnvJ w.heap.size ad w:=⟨vm _,fun _ hb=>h.later hb⟩
end
section
open Go.RowKit
theorem readN_some (s:ByteArray) (n:Nat) (w:World) (h:numN 10 s.data.toList=some n):Calls prog 271 #[.string s,.int .i64 10] w fun e w'=>e= .returned (.tuple #[.int .i64 (n:Int),.bool true])/\w'=w:=by
 have:=readN_any 10 zt s w
 rw [h] at this
 exact this
theorem readN_none (s:ByteArray) (w:World) (h:numN 10 s.data.toList=none):Calls prog 271 #[.string s,.int .i64 10] w fun e w'=>e= .returned (.tuple #[.int .i64 0,.bool false])/\w'=w:=by
 have:=readN_any 10 zt s w
 rw [h] at this
 exact this
theorem hex_some (s:ByteArray) (v:List UInt8) (w:World) (hs:s.size<=1000000) (h:unhexL s.data.toList=some v):Calls prog 272 #[.string s] w fun e w'=>e= .returned (.tuple #[.string ⟨v.toArray⟩,.bool true])/\Below w.heap.size w w':=by
 have:=readHex_any s w hs
 rw [h] at this
 exact this
theorem hex_none (s:ByteArray) (w:World) (hs:s.size<=1000000) (h:unhexL s.data.toList=none):Calls prog 272 #[.string s] w fun e w'=>e= .returned (.tuple #[.string ⟨#[]⟩,.bool false])/\Below w.heap.size w w':=by
 have:=readHex_any s w hs
 rw [h] at this
 exact this
theorem hd_mem (c:UInt8) (x:List (List UInt8)) (q:List UInt8) (h:q∈hd [c] x):q.length<=1\/∃r∈x,q.length<=r.length+1:=by
 cases x with
 | nil=>simp [hd] at h;subst h;exact .inl zm
 | cons p ps=>
  simp only [hd,vz] at h
  rcases h with rfl | h
  ·exact .inr ⟨p,zm,zm⟩
  exact .inr ⟨q,by simp [h],zj⟩
theorem cutP_piece (p:UInt8) (l q:List UInt8) (h:q∈cutP p l):q.length<=l.length:=by
 induction l generalizing q with
 | nil=>simp [cutP] at h;subst h;simp
 | cons c r ih=>
  by_cases hc:c=p
  ·subst hc
   rw [cutP_dot] at h
   rcases vz.1 h with rfl | h
   ·simp
   have:=ih q h;simp;omega
  rw [cutP_other p c r hc] at h
  rcases hd_mem c _ q h with h | ⟨x,hx,h⟩
  ·simp;omega
  have:=ih x hx;simp;omega
theorem split9 (s:ByteArray) (m:Int) (w:World) (hs:s.size<=1000000) (hm:w.cell? ⟨10,0,none⟩=some (.int .i64 m)):
  Calls prog 270 #[.string s,.string ⟨#[124]⟩,.int .i64 9] w fun e w'=>∃(P:List ByteArray) (cap g:Nat),e= .returned (.slice (some ⟨g,0,none⟩) P.length cap)/\w.heap.size<=g/\P.length<=cap/\(∀(j:Nat) p,P[j]? =some p->w'.cell? ⟨g,j,none⟩=some (.string p))/\
   ((cutP 124 s.data.toList).length=8->P.map (·.data.toList)=cutP 124 s.data.toList)/\((cutP 124 s.data.toList).length≠8->P.length≠8)/\Below w.heap.size w w':=by
 refine (Tryz.strings_SplitN s ⟨#[124]⟩ 9 m w zj hm zt zt zt).mono ?_
 rintro e w' ⟨rfl,rfl⟩
 have hl:s.data.toList.length=s.size:=zm
 have hd:(Lib.splitB ⟨#[124]⟩ 0 (min 9 (s.size+1) - 1) s).map (·.data.toList)=Lib.splitK [124] 0 (min 9 (s.size+1) - 1) s.data.toList:=Lib.splitB_data ⟨#[124]⟩ 0 _ s
 have hn:=splitP_length 124 s.data.toList (min 9 (s.size+1) - 1)
 have hle:=cutP_length_le 124 s.data.toList
 rw [hl] at hle
 have hlen:(Lib.splitB ⟨#[124]⟩ 0 (min 9 (s.size+1) - 1) s).length=min (min 9 (s.size+1) - 1+1) (cutP 124 s.data.toList).length:=by
  have:=congrArg List.length hd
  rw [ue] at this
  rw [this,hn]
 refine ⟨_,_,_,rfl,vm _,by rw [hlen];omega,?_,fun h4=> ?_,fun h4=>by rw [hlen];omega,zh _ _⟩
 ·intro j p hj
  have hj2:j<(Lib.splitB ⟨#[124]⟩ 0 (min 9 (s.size+1) - 1) s).length:=(vi.1 hj).1
  rw [World.cell?_alloc_at _ _ _ _ rfl]
  unfold Lib.cellsOf
  rw [List.getElem?_toArray,Zd (by simpa using hj2),uu,hj]
  rfl
 rw [hd]
 exact splitP_eq _ _ _ zj
structure ResO (w0:World) (w:World):Prop where
 z:OpAt w w0.heap.size 0 0 0 0 0 0 ⟨#[]⟩ ⟨#[]⟩
 f0:w.frozen? ⟨w0.heap.size,0,none⟩=false
 f1:w.frozen? ⟨w0.heap.size,1,none⟩=false
 f2:w.frozen? ⟨w0.heap.size,2,none⟩=false
 f3:w.frozen? ⟨w0.heap.size,3,none⟩=false
 f4:w.frozen? ⟨w0.heap.size,4,none⟩=false
 f5:w.frozen? ⟨w0.heap.size,5,none⟩=false
 f6:w.frozen? ⟨w0.heap.size,6,none⟩=false
 f7:w.frozen? ⟨w0.heap.size,7,none⟩=false
 b:Below w0.heap.size w0 w
theorem frozenLater {b o:Nat} {v:Bool} (hb:Below w.heap.size w w') (hz:b<w.heap.size) (h:w.frozen? ⟨b,o,none⟩=v):w'.frozen? ⟨b,o,none⟩=v:=by
 rw [hb.frozen (p:=⟨b,o,none⟩) hz];exact h
theorem ResO.lt (h:ResO w0 w):w0.heap.size<w.heap.size:=vp w ⟨w0.heap.size,0,none⟩ h.z.c0
theorem ResO.later {w0 w w':World} (h:ResO w0 w) (hb:Below w.heap.size w w'):ResO w0 w':=
 ⟨h.z.later hb,frozenLater hb h.lt h.f0,frozenLater hb h.lt h.f1,frozenLater hb h.lt h.f2,frozenLater hb h.lt h.f3,frozenLater hb h.lt h.f4,frozenLater hb h.lt h.f5,frozenLater hb h.lt h.f6,frozenLater hb h.lt h.f7,zi h.b hb⟩
theorem ResO.new (w:World) (T:TypeId):ResO w (w.alloc (.cells #[.int .i64 0,.int .i64 0,.int .i64 0,.int .u8 0,.int .i64 0,.int .i64 0,.string ⟨#[]⟩,.string ⟨#[]⟩] T)):=by
 refine ⟨by constructor<;>simp [go_sem],?_,?_,?_,?_,?_,?_,?_,?_,zh _ _⟩<;>simp [go_sem]
def partsO (r:Option Parts):Value:=match r with
 | none=>.agg #[.int .i64 0,.int .i64 0,.int .i64 0,.int .u8 0,.int .i64 0,.int .i64 0,.string ⟨#[]⟩,.string ⟨#[]⟩]
 | some (c,n1,n2,n3,n4,n5,nm,v)=>.agg #[.int .i64 (n1:Int),.int .i64 (n2:Int),.int .i64 (n3:Int),.int .u8 (c.toNat:Int),.int .i64 (n4:Int),.int .i64 (n5:Int),.string ⟨nm.toArray⟩,.string ⟨v.toArray⟩]
theorem parts_len (s:ByteArray) (w:World) (hs:s.size<=1000000) (m:Int) (hm:w.cell? ⟨10,0,none⟩=some (.int .i64 m)) (h8:(cutP 124 s.data.toList).length≠8):
  Calls prog 252 #[.string s] w fun e w'=>e= .returned (.tuple #[partsO (partsL s.data.toList),.bool (partsL s.data.toList).isSome])/\Below w.heap.size w w':=by
 have R0:=ResO.new w 41
 have HM:=Lib.hid (cellLater ((vu w.heap.size w).alloc zg (.cells #[.int .i64 0,.int .i64 0,.int .i64 0,.int .u8 0,.int .i64 0,.int .i64 0,.string ⟨#[]⟩,.string ⟨#[]⟩] 41)) hm)
 clear hm
 have H8:=Lib.hid h8
 have HE:=Lib.hid (partsL_not h8)
 clear h8
 generalize partsL s.data.toList=R at HE |-
 go_enter func252,ntmps252
 go_wp2_with fail
 refine (split9 s m _ hs HM.o).mono ?_
 rintro e w1 ⟨P,cap,g,rfl,hg,hcap,hc,h4e,h4n,hb⟩
 have R1:=R0.later hb
 have hne:=h4n H8.o
 have d8:((P.length:Int) !=8)=true:=zl
 clear hb R0 HM hc h4e h4n hcap hne hg
 obtain ⟨⟨c0,c1,c2,c3,c4,c5,c6,c7⟩,f0,f1,f2,f3,f4,f5,f6,f7,B1⟩:=R1
 go_wp2
 refine bodyPost_ret (v:=.tuple #[.agg #[.int .i64 0,.int .i64 0,.int .i64 0,.int .u8 0,.int .i64 0,.int .i64 0,.string ⟨#[]⟩,.string ⟨#[]⟩],.bool false]) zH rfl ⟨by rw [HE.o];rfl,?_⟩
 exact (((((((B1.setCell zm _).setCell zm _).setCell zm _).setCell zm _).setCell zm _).setCell zm _).setCell zm _).setCell zm _
theorem parts_kind (s:ByteArray) (w:World) (hs:s.size<=1000000) (m:Int) (hm:w.cell? ⟨10,0,none⟩=some (.int .i64 m)) (l0 l1 l2 l3 l4 l5 l6 l7:List UInt8) (h8:cutP 124 s.data.toList= [l0,l1,l2,l3,l4,l5,l6,l7]) (h0:l0.length≠1):
  Calls prog 252 #[.string s] w fun e w'=>e= .returned (.tuple #[partsO (partsL s.data.toList),.bool (partsL s.data.toList).isSome])/\Below w.heap.size w w':=by
 have R0:=ResO.new w 41
 have HM:=Lib.hid (cellLater ((vu w.heap.size w).alloc zg (.cells #[.int .i64 0,.int .i64 0,.int .i64 0,.int .u8 0,.int .i64 0,.int .i64 0,.string ⟨#[]⟩,.string ⟨#[]⟩] 41)) hm)
 clear hm
 have HE:=Lib.hid (partsL_kind h8 h0)
 generalize partsL s.data.toList=R at HE |-
 have H8:=Lib.hid h8
 clear h8
 go_enter func252,ntmps252
 go_wp2_with fail
 refine (split9 s m _ hs HM.o).mono ?_
 rintro e w1 ⟨P,cap,g,rfl,hg,hcap,hc,h4e,h4n,hb⟩
 have R1:=R0.later hb
 have hP:=h4e (by rw [H8.o];rfl)
 rw [H8.o] at hP
 obtain ⟨p0,p1,p2,p3,p4,p5,p6,p7,rfl,e0,e1,e2,e3,e4,e5,e6,e7⟩:∃p0 p1 p2 p3 p4 p5 p6 p7,P= [p0,p1,p2,p3,p4,p5,p6,p7]/\p0.data.toList=l0/\p1.data.toList=l1/\p2.data.toList=l2/\p3.data.toList=l3/\p4.data.toList=l4/\p5.data.toList=l5/\p6.data.toList=l6/\p7.data.toList=l7:=by
  have hlen:P.length=8:=jq
  match P,hlen,hP with
  | [a0,a1,a2,a3,a4,a5,a6,a7],_,hP=>simp at hP;exact ⟨a0,a1,a2,a3,a4,a5,a6,a7,rfl,hP⟩
 have hcap8:8<=cap:=by simpa using hcap
 have k0:=hc 0 _ rfl
 have hl0:p0.size=l0.length:=by rw [<-e0];simp
 have d1:((p0.size:Int) !=1)=true:=zl
 clear hb R0 HM hc h4e h4n hcap hP hg e0 e1 e2 e3 e4 e5 e6 e7 hl0 h0 H8
 obtain ⟨⟨c0,c1,c2,c3,c4,c5,c6,c7⟩,f0,f1,f2,f3,f4,f5,f6,f7,B1⟩:=R1
 go_wp2
 refine bodyPost_ret (v:=.tuple #[.agg #[.int .i64 0,.int .i64 0,.int .i64 0,.int .u8 0,.int .i64 0,.int .i64 0,.string ⟨#[]⟩,.string ⟨#[]⟩],.bool false]) zH rfl ⟨by rw [HE.o];rfl,?_⟩
 exact (((((((B1.setCell zm _).setCell zm _).setCell zm _).setCell zm _).setCell zm _).setCell zm _).setCell zm _).setCell zm _
