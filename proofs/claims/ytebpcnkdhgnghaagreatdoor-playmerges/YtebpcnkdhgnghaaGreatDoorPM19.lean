import Derived.Test.YtebpcnkdhgnghaaGreatDoorPM11
set_option linter.unusedSimpArgs false
set_option linter.unusedVariables false
set_option maxRecDepth 100000
set_option maxHeartbeats 64000000
namespace Go.Proofs.YtebpcnkdhgnghaaGreatDoor
open Go.Proofs.Tryz
variable {name value:ByteArray} {b n t:Int} {zs:List Ltr} {i k v:Nat} {ad:Nat→Addr} {ao:Option Addr} {W w w' w0:World}
section
open Go.RowKit
structure TxtE (ad:Nat->Addr) (w:World):Prop where
 op4:Op4 ad w
 tab:Lib.TabIs prog w "internal/strconv.uint64pow10" .u64 Lib.pow10Tab
theorem TxtE.later {ad:Nat->Addr} {w w':World} (h:TxtE ad w) (hb:Below w.heap.size w w'):TxtE ad w':=⟨h.op4.later hb,Lib.tabBelow_of_tabIs h.tab _ hb⟩
def TxtR (w0:World) (t b n:Int) (k:Nat) (node other:Int) (name value:ByteArray) (w':World):Prop:=w'.cell? ⟨w0.heap.size,0,none⟩=some (.int .i64 t)/\w'.cell? ⟨w0.heap.size,1,none⟩=some (.int .i64 b)/\w'.cell? ⟨w0.heap.size,2,none⟩=some (.int .i64 n)/\w'.cell? ⟨w0.heap.size,3,none⟩=some (.int .u8 (k:Int))/\w'.cell? ⟨w0.heap.size,4,none⟩=some (.int .i64 node)/\w'.cell? ⟨w0.heap.size,5,none⟩=some (.int .i64 other)/\w'.cell? ⟨w0.heap.size,6,none⟩=some (.string name)/\w'.cell? ⟨w0.heap.size,7,none⟩=some (.string value)/\Lib.TabIs prog w' "internal/strconv.uint64pow10" .u64 Lib.pow10Tab/\Below w0.heap.size w0 w'
theorem TxtR.later {node other:Int} (h:TxtR w0 t b n k node other name value w) (hb:Below w.heap.size w w'):TxtR w0 t b n k node other name value w':=
 ⟨aB hb h.1,aB hb h.2.1,aB hb h.2.2.1,aB hb h.2.2.2.1,aB hb h.2.2.2.2.1,aB hb h.2.2.2.2.2.1,aB hb h.2.2.2.2.2.2.1,aB hb h.2.2.2.2.2.2.2.1,Lib.tabBelow_of_tabIs h.2.2.2.2.2.2.2.2.1 _ hb,zi h.2.2.2.2.2.2.2.2.2 hb⟩
theorem TxtR.drew {w0 w:World} {t b n:Int} {k:Nat} {node other:Int} {name value:ByteArray} (h:TxtR w0 t b n k node other name value w):TxtR w0 t b n k node other name value w.drew:=h.later (vG _ _).drew
theorem TxtR.new {node other:Int} (h:TxtR w0 t b n k node other name value w) (o:Obj):TxtR w0 t b n k node other name value (w.alloc o):=h.later (zh _ _)
theorem TxtR.tab {node other:Int} (h:TxtR w0 t b n k node other name value w):Lib.TabIs prog w "internal/strconv.uint64pow10" .u64 Lib.pow10Tab:=h.2.2.2.2.2.2.2.2.1
theorem Ns (y0 y1 y2 y3 y4 y5 y6 y7:ByteArray) (w:World) (T:TypeId)
  (hl:y0.size+y1.size+y2.size+y3.size+y4.size+y5.size+y6.size+y7.size<=100000000):
  Calls prog 50 #[.slice (some ⟨w.heap.size,0,none⟩) 8 8,.string ⟨#[124]⟩] (w.alloc (.cells #[.string y0,.string y1,.string y2,.string y3,.string y4,.string y5,.string y6,.string y7] T)) fun e w'=>e= .returned (.string ⟨(lG 124 [y0.data.toList,y1.data.toList,y2.data.toList,y3.data.toList,y4.data.toList,y5.data.toList,y6.data.toList,y7.data.toList]).toArray⟩)/\Below (w.alloc (.cells #[.string y0,.string y1,.string y2,.string y3,.string y4,.string y5,.string y6,.string y7] T)).heap.size (w.alloc (.cells #[.string y0,.string y1,.string y2,.string y3,.string y4,.string y5,.string y6,.string y7] T)) w':=by
 have hc:∀(j:Nat) x,([y0,y1,y2,y3,y4,y5,y6,y7]:List ByteArray)[j]? =some x->(w.alloc (.cells #[.string y0,.string y1,.string y2,.string y3,.string y4,.string y5,.string y6,.string y7] T)).cell? ⟨w.heap.size,0+j,none⟩=some (.string x):=by
  intro j x hx;rw [ZE _ _ _ _ rfl]
  match j,hx with
  | 0,hx=>simp at hx;subst hx;rfl
  | 1,hx=>simp at hx;subst hx;rfl
  | 2,hx=>simp at hx;subst hx;rfl
  | 3,hx=>simp at hx;subst hx;rfl
  | 4,hx=>simp at hx;subst hx;rfl
  | 5,hx=>simp at hx;subst hx;rfl
  | 6,hx=>simp at hx;subst hx;rfl
  | 7,hx=>simp at hx;subst hx;rfl
  | n+8,hx=>simp at hx
 refine (Tryz.strings_Join w.heap.size 0 8 [y0,y1,y2,y3,y4,y5,y6,y7] ⟨#[124]⟩ _ hc zt zt zt ?_).mono ?_
 ·simp [Lib.join_cons,Lib.joinTail];omega
 rintro e w' ⟨rfl,hb⟩;refine ⟨?_,hb⟩;rw [<-Bb];simp
theorem GK (k:Nat) (w:World) (hk:k=109\/k=105\/k=100\/k=115):Sem.run prog (convert 5 21 (.int .u8 (k:Int))) w= .ok (.int .i32 (k:Int)) w:=by
 rcases hk with rfl | rfl | rfl | rfl<;>kernel_rfl
theorem IJ (k:Nat) (w:World) (hk:k=109\/k=105\/k=100\/k=115):Sem.run prog (convert 21 9 (.int .i32 (k:Int))) w= .ok (.string ⟨[UInt8.ofNat k].toArray⟩) w:=by
 rcases hk with rfl | rfl | rfl | rfl<;>kernel_rfl
theorem BF (l:List UInt8):(⟨l.toArray⟩:ByteArray).size=l.length:=by simp [ByteArray.size]
theorem Fk (t b n:Int) (k:Nat) (node other:Int) (name value:ByteArray) (w:World) (hE:TxtE ad w) (hop:opE t b n k node other name.data.toList value.data.toList=0):
  Calls prog 215 #[.agg #[.int .i64 t,.int .i64 b,.int .i64 n,.int .u8 (k:Int),.int .i64 node,.int .i64 other,.string name,.string value]] w fun e w'=>e= .returned (.tuple #[.string ⟨(kY t b n k node other name.data.toList value.data.toList).toArray⟩,.nilIface])/\Below w.heap.size w w':=by
 obtain ⟨h1,h2,h3,h4,h5,h6,hk,h7,h8,h9,h10,-,hn,hv⟩:=ar hop;rw [bR] at hn hv;have O0:=OpAt.new w t b n k node other name value 61;have E0:=hE.later ((vG _ _).alloc zg (.cells #[.int .i64 t,.int .i64 b,.int .i64 n,.int .u8 (k:Int),.int .i64 node,.int .i64 other,.string name,.string value] 61));have B0:Below w.heap.size w (w.alloc (.cells #[.int .i64 t,.int .i64 b,.int .i64 n,.int .u8 (k:Int),.int .i64 node,.int .i64 other,.string name,.string value] 61)):=zh _ _
 have q1:=fun w=>GK k w hk
 have q2:=fun w=>IJ k w hk
 have HO:=Lib.hid hop;have HB:Hid ((1<=t/\t<=1073741824)/\(0<=b/\b<4)/\(1<=n/\n<=400)/\(0<=node/\node<=4294967299)/\(0<=other/\other<=4294967299)/\name.size<=12/\value.size<=12):=Lib.hid zj;have HL:Hid ((Lib.itoa t).length<=21/\(Lib.itoa b).length<=21/\(Lib.itoa n).length<=21/\(Lib.itoa node).length<=21/\(Lib.itoa other).length<=21):=Lib.hid ⟨Lib.itoa_length_le _ zj zj,Lib.itoa_length_le _ zj zj,Lib.itoa_length_le _ zj zj,Lib.itoa_length_le _ zj zj,Lib.itoa_length_le _ zj zj⟩;clear hop hk h1 h2 h3 h4 h5 h6 h7 h8 h9 h10 hn hv hE;unfold kY;generalize hR:lG 124 [[UInt8.ofNat k],Lib.itoa t,Lib.itoa b,Lib.itoa n,Lib.itoa node,Lib.itoa other,name.data.toList,tj value.data.toList]=R;have HR:=Lib.hid hR;clear hR;go_enter func215,ntmps215;go_wp2_with fail
 generalize w.alloc (.cells #[.int .i64 t,.int .i64 b,.int .i64 n,.int .u8 (k:Int),.int .i64 node,.int .i64 other,.string name,.string value] 61)=u at O0 E0 B0 |-
 refine (bA t b n k node other name value u E0.op4 yN yN).mono ?_;rintro e w1 ⟨rfl,hb⟩;rw [HO.o]
 have R1:TxtR w t b n k node other name value w1:=by
  have O1:=O0.later hb;exact ⟨O1.c0,O1.c1,O1.c2,O1.c3,O1.c4,O1.c5,O1.c6,O1.c7,(E0.later hb).tab,zi B0 hb⟩
 clear hb O0 E0 B0;have e0:eV ad 0= .nilIface:=rfl;rw [e0];clear e0;go_wp2_with fail;obtain ⟨A0,A1,A2,A3,A4,A5,A6,A7,A8,A9⟩:=id R1
 go_region_held3 (fun w'=>w'.cell? ⟨w.heap.size,0,none⟩=some (.int .i64 t)/\w'.cell? ⟨w.heap.size,1,none⟩=some (.int .i64 b)/\w'.cell? ⟨w.heap.size,2,none⟩=some (.int .i64 n)/\w'.cell? ⟨w.heap.size,3,none⟩=some (.int .u8 (k:Int))/\w'.cell? ⟨w.heap.size,4,none⟩=some (.int .i64 node)/\w'.cell? ⟨w.heap.size,5,none⟩=some (.int .i64 other)/\w'.cell? ⟨w.heap.size,6,none⟩=some (.string name)/\w'.cell? ⟨w.heap.size,7,none⟩=some (.string value)/\Lib.TabIs prog w' "internal/strconv.uint64pow10" .u64 Lib.pow10Tab/\Below w.heap.size w w')
  (first
   | assumption
   | exact TxtR.drew ⟨A0,A1,A2,A3,A4,A5,A6,A7,A8,A9⟩
   | exact TxtR.later yS yS
   | exact TxtR.new yS _)
  (first
   | (go_at_call 49;refine (oy _ yN yN _ (TxtR.tab yS)).mono ?_;rintro e w' ⟨rfl,hb⟩)
   | (go_at_call 271;refine (sB _ _ yN).mono ?_;rintro e w' ⟨rfl,hb⟩)
   | (go_at_call 50;refine (Ns _ _ _ _ _ _ _ _ _ _ (by have hb1:=HB.o;have hl1:=HL.o;have hx1:=mG value.data.toList;have hv1:=bR value;simp only [BF,ud,uz];omega)).mono ?_;rintro e w' ⟨rfl,hb⟩))
 have R2:TxtR w t b n k node other name value w':=yS;go_wp2;go_ret2;exact ⟨by rw [<-HR.o];rfl,R2.2.2.2.2.2.2.2.2.2⟩
theorem Dw (t b n:Int) (k:Nat) (node other:Int) (name value:ByteArray) (w:World) (hE:TxtE ad w) (hsn:name.size<=1000000) (hsv:value.size<=1000000) (hop:opE t b n k node other name.data.toList value.data.toList≠0):
  Calls prog 215 #[.agg #[.int .i64 t,.int .i64 b,.int .i64 n,.int .u8 (k:Int),.int .i64 node,.int .i64 other,.string name,.string value]] w fun e w'=>e= .returned (.tuple #[.string ⟨#[]⟩,.iface 450 (.pointer (some (ad (opE t b n k node other name.data.toList value.data.toList - 1))))])/\Below w.heap.size w w':=by
 have O0:=OpAt.new w t b n k node other name value 61;have E0:=hE.later ((vG _ _).alloc zg (.cells #[.int .i64 t,.int .i64 b,.int .i64 n,.int .u8 (k:Int),.int .i64 node,.int .i64 other,.string name,.string value] 61));have B0:Below w.heap.size w (w.alloc (.cells #[.int .i64 t,.int .i64 b,.int .i64 n,.int .u8 (k:Int),.int .i64 node,.int .i64 other,.string name,.string value] 61)):=zh _ _
 have hc:=fun u hu=>bA (ad:=ad) t b n k node other name value u hu hsn hsv
 generalize opE t b n k node other name.data.toList value.data.toList=c at hop hc |-
 have HC:=Lib.hid hc
 have he:eV ad c= .iface 450 (.pointer (some (ad (c - 1)))):=by unfold eV;rw [if_neg hop]
 have HV:=Lib.hid he;clear hc he hop;go_enter func215,ntmps215;go_wp2_with fail
 generalize w.alloc (.cells #[.int .i64 t,.int .i64 b,.int .i64 n,.int .u8 (k:Int),.int .i64 node,.int .i64 other,.string name,.string value] 61)=u at O0 E0 B0 |-
 refine (HC.o u E0.op4).mono ?_;rintro e w1 ⟨rfl,hb⟩;rw [HV.o];have B1:Below w.heap.size w w1:=zi B0 hb;clear hb O0 E0 B0;go_wp2;go_ret2;exact ⟨rfl,B1⟩
end
section
open Go.RowKit Go.Lib Go.Sort
theorem Ok (w:World) (hz:w.cell? ⟨16,15,none⟩=some (.int .u8 4)):
  Calls prog 325 #[.int .u64 16] w fun e w'=>e= .returned (.int .i64 4)/\w'=w:=by
 have e0:IntKind.u64.wrap (-16)=18446744073709551600:=zr;have e1:bits .and .u64 16 18446744073709551600=16:=zr;have e2:IntKind.u64.wrap 4573923408821661840=4573923408821661840:=zr;go_enter func325,ntmps325;exact kb3
theorem Oe (w:World) (hz:w.cell? ⟨16,15,none⟩=some (.int .u8 4)):
  Calls prog 276 #[.int .u64 16] w fun e w'=>e= .returned (.int .i64 4)/\w'=w:=by
 have h:=Ok w hz;clear hz;go_enter func276,ntmps276;go_wp2_with fail;refine h.mono ?_;rintro e w1 ⟨rfl,rfl⟩;exact kb3
theorem Nj (w:World):Calls prog 275 #[.int .i64 16] w fun e w'=>e= .returned (.bool true)/\w'=w:=by
 have e1:bits .and .i64 16 15=0:=zr;go_enter func275,ntmps275;exact kb3
theorem nv:∀(k v:Nat),ia (k+1) v=kE (v / 16^k % 16)::ia k v
 | 0,v=>by simp [ia]
 | k+1,v=>by
  show ia (k+1) (v / 16)++ [kE (v % 16)]=kE (v / 16^(k+1) % 16)::(ia k (v / 16)++ [kE (v % 16)])
  rw [nv k (v / 16),Nat.div_div_eq_div_mul,Nat.pow_succ,Nat.mul_comm 16];rfl
def HexAt (W:World) (b k v:Nat):Prop:=∃arr:Array Value,W.heap[b]? =some (.cells arr 369 (0,0))/\arr.size=65/\∀(j:Nat) (c:UInt8),(ia k v)[j]? =some c->arr[65 - k+j]? =some (.int .u8 (c.toNat:Int))
theorem HexAt.start {b:Nat} (v:Nat) (h:W.heap[b]? =some (.cells zeroCells369 369 (0,0))):HexAt W b 0 v:=⟨_,h,zo,fun j c hj=>by simp [ia] at hj⟩
theorem HexAt.cell {W:World} {b k v:Nat} (h:HexAt W b k v) {i:Nat} (hi:i<65):(∃o,W.cell? ⟨b,i,none⟩=some o)/\W.frozen? ⟨b,i,none⟩=false:=by
 obtain ⟨arr,h1,h2,_⟩:=h;refine ⟨⟨arr[i],?_⟩,by simp [World.frozen?,h1]⟩;simp [World.cell?,h1,h2,hi]
theorem HexAt.put {b:Nat} (h:HexAt W b k v) (hi:i+(k+1)=65):HexAt (W.setCell ⟨b,i,none⟩ (.int .u8 ((kE (v / 16^k % 16)).toNat:Int))) b (k+1) v:=by
 obtain ⟨arr,h1,h2,h3⟩:=h;refine ⟨_,heap_setCell_same W b i _ _ _ h1,by simp [h2],fun j c hj=> ?_⟩;rw [nv] at hj;rw [Array.getElem?_setIfInBounds]
 match j,hj with
 | 0,hj=>
  have e:kE (v / 16^k % 16)=c:=yC;rw [if_pos zj,if_pos zj,e]
 | j+1,hj=>
  rw [if_neg zj];have:=h3 j c yC;rw [<-this];congr 1;omega
theorem MQ (x:Nat) (w:World) (h1:x<16):(Instr.index 9 (.string ⟨#[48,49,50,51,52,53,54,55,56,57,97,98,99,100,101,102,103,104,105,106,107,108,109,110,111,112,113,114,115,116,117,118,119,120,121,122]⟩) (.int .u64 (x:Int))).run prog w= .ok (.int .u8 ((kE x).toNat:Int)) w:=by
 rcases (show x=0\/x=1\/x=2\/x=3\/x=4\/x=5\/x=6\/x=7\/x=8\/x=9\/x=10\/x=11\/x=12\/x=13\/x=14\/x=15 by omega) with rfl | rfl | rfl | rfl | rfl | rfl | rfl | rfl | rfl | rfl | rfl | rfl | rfl | rfl | rfl | rfl
 all_goals kernel_rfl
theorem NM {u:Nat} (h:u<4294967296):bits .and .u64 (u:Int) 15=((u % 16:Nat):Int):=by
 have:=u64_and_nat u 15 zj zj;rw [show (15:Nat)=2^4 - 1 from rfl,Nat.and_two_pow_sub_one_eq_mod] at this;exact this
theorem HexAt.conv {b:Nat} (h:HexAt W b k v) (hi:i+k=65):Sem.run prog (convert 184 9 (.slice (some ⟨b,i,none⟩) k k)) W= .ok (.string ⟨(ia k v).toArray⟩) W:=by
 obtain ⟨arr,h1,h2,h3⟩:=h;have hl:=kk k v
 have:=run_convert_bytes_back (P:=prog) W 184 9 5 ⟨b,i,none⟩ k (ia k v) underlying184 underlying5 underlying9 (fun j hj=>by
  have e:=h3 j _ (vF hj)
  rw [show 65 - k+j=i+j by omega] at e
  rw [Addr.add_lit]
  simp [World.cell?,h1,e])
 rw [hl] at this;exact this
theorem No (v:Nat) (w:World) (hv:v<4294967296) (hz:w.cell? ⟨16,15,none⟩=some (.int .u8 4)):
  Calls prog 221 #[.slice none 0 0,.int .u64 (v:Int),.int .i64 16,.bool false,.bool false] w fun e w'=>∃k,(1<=k/\k<=8/\v<16^k)/\e= .returned (.tuple #[.slice none 0 0,.string ⟨(ia k v).toArray⟩])/\Below w.heap.size w w':=by
 obtain ⟨b,hb⟩:=ze w.heap.size;obtain ⟨U,hU⟩:=ze (w.alloc (.cells zeroCells369 369));have hbU:Below w.heap.size w U:=yq
 have H0:Aside (HexAt U b 0 v/\Below w.heap.size w U):=⟨HexAt.start v (by rw [hU.o,hb.o];exact heap_alloc_new w _),hbU⟩
 have hp:=Nj U;have ht:=Oe U (by rw [uc (a:=⟨16,15,none⟩) (hbU.block _ (vK w ⟨16,15,none⟩ hz))];exact hz);clear hbU hz;go_enter func221,ntmps221;go_upto_region 7 with fail;rw [<-hU.o,<-hb.o];go_wp2_with fail;refine hp.mono ?_;clear hp;rintro e w1 ⟨rfl,rfl⟩;go_wp2_with fail;refine ht.mono ?_;clear ht;rintro e w2 ⟨rfl,rfl⟩;have HV:Aside (v<4294967296):=hv;go_wp2;go_loopg [1,13] 8 (fun kx s1 s13 wr=>∃(k u i:Nat),s1= .int .u64 (u:Int)/\s13= .int .i64 (i:Int)/\i+k=65/\k<=7/\8 - k<=kx/\u<4294967296/\Aside (u=v / 16^k/\HexAt wr b k v/\Below w.heap.size w wr))
 case atStart=>exact ⟨0,v,65,rfl,rfl,rfl,zj,zj,hv,zt,H0.o⟩
 case round=>
  obtain ⟨k,u,i,rfl,rfl,hik,hk,hkx,hu,A⟩:=hrel;clear H0
  obtain ⟨j,hj⟩:∃j,i=j+1:=⟨i - 1,zj⟩
  subst hj;have hw1:IntKind.i64.wrap (((j+1:Nat):Int) - 1)=(j:Int):=zu;obtain ⟨⟨o,c1⟩,c2⟩:=A.o.2.1.cell (i:=j) zj;have pj:(0:Int)<=(j:Int):=zj;have lj:(j:Int)<65:=zj;by_cases hlt:16<=u
  ·have d1:decide ((16:Int)<=(u:Int))=true:=by simp;omega
   have d1n:decide (16<=u)=true:=zq;have ha:=NM hu
   obtain ⟨r,hr⟩:∃r:Nat,Aside (r=u % 16):=⟨u % 16,rfl⟩
   rw [<-hr.o] at ha;have hx:=MQ r
   have hr16:r<16:=by rw [hr.o];omega
   have hxr:∀w:World,(Instr.index 9 (.string ⟨#[48,49,50,51,52,53,54,55,56,57,97,98,99,100,101,102,103,104,105,106,107,108,109,110,111,112,113,114,115,116,117,118,119,120,121,122]⟩) (.int .u64 (r:Int))).run prog w= .ok (.int .u8 ((kE r).toNat:Int)) w:=fun w=>hx w hr16
   obtain ⟨u',hu'⟩:∃u':Nat,Aside (u'=u / 16):=⟨u / 16,rfl⟩
   have hsh:(u:Int) / 16=(u':Int):=by rw [hu'.o];omega
   obtain ⟨hd,hhd⟩:∃hd:Int,Aside (hd=((kE r).toNat:Int)):=⟨_,rfl⟩
   have HN:Aside (u'=v / 16^(k+1)/\HexAt (wr.setCell ⟨b,j,none⟩ (.int .u8 hd)) b (k+1) v/\Below w.heap.size w (wr.setCell ⟨b,j,none⟩ (.int .u8 hd))/\k+1<=7/\u'<4294967296):=by
    have e1:=A.o.1
    have hk7:k+1<=7:=by
     by_cases q:k=7
     ·subst q;have:v / 16^7<16:=zj;omega
     omega
    refine ⟨?_,?_,?_,hk7,by rw [hu'.o];omega⟩
    ·rw [hu'.o,e1,Nat.div_div_eq_div_mul,<-Nat.pow_succ]
    ·rw [hhd.o,hr.o,e1];exact A.o.2.1.put zj
    exact kj8
   rw [<-hhd.o] at hxr;clear A hx;go_wp2;go_roundg (8 - (k+1))
   case measure=>omega
   case rel=>exact ⟨k+1,u',j,rfl,rfl,zj,HN.o.2.2.2.1,vB _,HN.o.2.2.2.2,HN.o.1,HN.o.2.1,HN.o.2.2.1⟩
  have d1:decide ((16:Int)<=(u:Int))=false:=zq;have d1n:decide (16<=u)=false:=zq;have hx:=MQ u
  have hxr:∀w:World,(Instr.index 9 (.string ⟨#[48,49,50,51,52,53,54,55,56,57,97,98,99,100,101,102,103,104,105,106,107,108,109,110,111,112,113,114,115,116,117,118,119,120,121,122]⟩) (.int .u64 (u:Int))).run prog w= .ok (.int .u8 ((kE u).toNat:Int)) w:=fun w=>hx w zj
  obtain ⟨hd,hhd⟩:∃hd:Int,Aside (hd=((kE u).toNat:Int)):=⟨_,rfl⟩
  have HN:Aside (HexAt (wr.setCell ⟨b,j,none⟩ (.int .u8 hd)) b (k+1) v/\Below w.heap.size w (wr.setCell ⟨b,j,none⟩ (.int .u8 hd))/\v<16^(k+1)):=by
   have e1:=A.o.1;refine ⟨?_,?_,?_⟩
   ·have e2:u=v / 16^k % 16:=by omega
    rw [hhd.o,e2];exact A.o.2.1.put zj
   ·exact kj8
   have q:=(Nat.div_lt_iff_lt_mul (Nat.pow_pos (n:=k) (show 0<16 by omega))).1 (show v / 16^k<16 by rw [<-e1];omega);rw [Nat.pow_succ,Nat.mul_comm];exact q
  have hcv:=HN.o.1.conv (i:=j) zj;rw [<-hhd.o] at hxr;have lk:(65:Int) - (j:Int)=((k+1:Nat):Int):=zj;have lkn:65 - j=k+1:=zj
  have hsl:∀W:World,(Instr.sliceAt 369 (.pointer (some ⟨b,0,none⟩)) (some (.int .i64 (j:Int))) none none).run prog W= .ok (.slice (some ⟨b,j,none⟩) (k+1) (k+1)) W:=fun W=>by
   have e:prog.arrayLen 369=65:=zo;rw [run_sliceAt_array_l W 369 ⟨b,0,none⟩ zo .i64 (j:Int) zj (by rw [e];omega),e];have hj65:¬65=j:=zj;simp [go_sem,slicedAt,hj65,lkn,Addr.add];omega
  clear A hx;go_wp2;go_ret2;exact ⟨k+1,⟨zj,zj,HN.o.2.2⟩,rfl,HN.o.2.1⟩
end
section
open Go.RowKit Go.Lib Go.Sort
theorem LetsIn.kept (h:LetsIn w ao zs) (hk:∀g o,ao=some ⟨g,o,none⟩->w'.heap[g]? =w.heap[g]?):LetsIn w' ao zs:=by
 rcases h with h | ⟨g,o,h1,h2⟩
 ·exact .inl h
 exact kl1
theorem LetsIn.part (h:LetsIn w ao zs) (k:Nat) (hk:k<=zs.length):LetsIn w ao (zs.take k)/\LetsIn w (ao.map (fun x=>x.add (k*3))) (zs.drop k):=by
 rcases h with h | ⟨g,o,h1,h2⟩
 ·subst h;exact ⟨.inl zt,.inl zt⟩
 refine ⟨.inr ⟨g,o,h1,fun j u hj=>h2 j u ?_⟩,.inr ⟨g,o+k*3,by rw [h1];simp [Addr.add],fun j u hj=> ?_⟩⟩
 ·rw [<-iW dt zs k hk,Zd] at hj;split at hj
  ·exact hj
  cases hj
 rw [<-dB dt zs k hk,uP] at hj;rw [uT];exact h2 _ u hj
theorem wj (w:World) (base p k:Nat) (v:Value) (L:List Ltr) (id:Int) (c:Nat) (gn:Bool) (h:RefAt base w p v L) (hbase:base<=w.heap.size) (hL:L.length<=900) (hk:k<=L.length) (hc:c<256):
  Calls prog 148 #[.pointer (some ⟨p,0,none⟩),.int .i64 (k:Int),.agg #[.int .i64 id,.int .u8 (c:Int),.bool gn]] w fun e w'=>(∃u,e= .returned u)/\∃v',RefAt base w' p v' (L.take k++(id,c,gn)::L.drop k)/\Keeps (fun b=>b=p) w w'/\(∀g,v'.ownBlock=some g->w.heap.size<=g):=by
 obtain ⟨ao,cap,rfl⟩:=cP h.row
 have hnc:(ao=none->cap=0)/\L.length<=cap:=by
  rcases h.row.2 with ⟨h1,h2⟩ | ⟨g,cap',cur,hv,_,_,h3,_⟩
  ·simp only [Value.slice.injEq] at h1;exact ⟨fun _=>h1.2.2,zj⟩
  cases hv;exact ⟨fun e=>yE,h3⟩
 have hlt:∀g o,ao=some ⟨g,o,none⟩->g<w.heap.size:=fun g o e=>by
  subst e
  rcases h.row.2 with ⟨h1,_⟩ | ⟨g',cap',cur,hv,_⟩
  ·simp at h1
  cases hv
  exact (h.row.lt g rfl).2
 obtain ⟨W0,hW0⟩:=zc (w.alloc (.cells #[.int .i64 id,.int .u8 (c:Int),.bool gn] 256))
 have hs0:W0.heap.size=w.heap.size+1:=by rw [hW0];simp
 have hk0:Keeps (fun _=>False) w W0:=by rw [hW0];exact (Keeps.refl _ w).alloc _
 have hx0:W0.heap[w.heap.size]? =some (.cells #[.int .i64 id,.int .u8 (c:Int),.bool gn] 256 (0,0)):=by rw [hW0];exact heap_alloc_new w _
 have hIn:=lJ h.row;have hI0:LetsIn W0 ao L:=hIn.kept (fun g o e=>hk0.block g (hlt g o e) (fun e=>e));have l1:(L.take k).length=k:=yw;obtain ⟨v1,W1,r1,o1,g1⟩:=gy (w:=W0) (base:=w.heap.size) (n:=0) (v:=.slice none 0 0) (xs:=[]) (uf _ _ _ _) zj zj ao cap (L.take k) zj (hI0.part k hk).1 hnc.1 251;rw [l1] at r1 o1;have hk1:Keeps (fun _=>False) W0 W1:=(aV g1).mono (fun b _ e=>yE);have hs1:=hk1.size;obtain ⟨W2,hW2⟩:=zc (W1.alloc (.cells #[.int .i64 id,.int .u8 (c:Int),.bool gn] 256));have hk2:Keeps (fun _=>False) W1 W2:=jZ
 have hs2:W2.heap.size=W1.heap.size+1:=by rw [hW2];simp
 have hx2:W2.heap[W1.heap.size]? =some (.cells #[.int .i64 id,.int .u8 (c:Int),.bool gn] 256 (0,0)):=by rw [hW2];exact heap_alloc_new W1 _
 have hI2:LetsIn W2 (some ⟨W1.heap.size,0,none⟩) [(id,c,gn)]:=.inr ⟨_,0,rfl,fun j u hj=>by
  simp only [World.cell?,hx2]
  rw [<-hj]
  simp [aI,cz]⟩
 have o2:W2.ownsRow w.heap.size 256 3 v1 (0+k) ([]++aI cz (L.take k)):=gT o1 (fun g hg=>hk2.block g (o1.lt g hg).2 (fun e=>e));obtain ⟨v3,W3,r3,o3,g3⟩:=gy (base:=w.heap.size) (by rw [vQ] at o2;exact o2) zj zj (some ⟨W1.heap.size,0,none⟩) 1 [(id,c,gn)] zt hI2 (fun e=>yE) 251;have hk3:Keeps (fun b=>some b=v1.ownBlock) W2 W3:=aV g3;have hs3:=hk3.size
 have hv1:∀b,some b=v1.ownBlock->w.heap.size<=b:=fun b e=>(o1.lt b e.symm).1
 have hI3:LetsIn W3 ao L:=hI0.kept (fun g o e=>by
  have hg:=hlt g o e
  rw [hk3.block g zj (fun e'=>by have:=hv1 g e';omega),hk2.block g zj (fun e=>e),hk1.block g zj (fun e=>e)])
 have hp3:W3.heap[p]? =w.heap[p]? :=by
  have hg:=h.lt;rw [hk3.block p zj (fun e'=>by have:=hv1 p e';omega),hk2.block p zj (fun e=>e),hk1.block p zj (fun e=>e),hk0.block p zj (fun e=>e)]
 have ld:(L.drop k).length=L.length - k:=ur
 have o3':W3.ownsRow w.heap.size 256 3 v3 (k+1) (aI cz (L.take k++ [(id,c,gn)])):=by rw [ah];exact o3
 have hx1:∀j u,(cz (id,c,gn))[j]? =some u->W1.cell? ⟨w.heap.size,j,none⟩=some u:=fun j u hj=>by
  rw [uc (a:=⟨w.heap.size,j,none⟩) (hk1.block w.heap.size zj (fun e=>e))];simp only [World.cell?,hx0];rw [<-hj];simp [cz]
 have b0:W1.cell? ⟨w.heap.size,0,none⟩=some (.int .i64 id):=hx1 0 _ rfl;have b1:W1.cell? ⟨w.heap.size,1,none⟩=some (.int .u8 (c:Int)):=hx1 1 _ rfl;have b2:W1.cell? ⟨w.heap.size,2,none⟩=some (.bool gn):=hx1 2 _ rfl
 have cp0:W0.cell? ⟨p,0,none⟩=some (.slice ao L.length cap):=by rw [uc (a:=⟨p,0,none⟩) (hk0.block p h.lt (fun e=>e))];exact h.c0
 have cp3:W3.cell? ⟨p,0,none⟩=some (.slice ao L.length cap):=by rw [uc (a:=⟨p,0,none⟩) hp3];exact h.c0
 have FIN:∀ap c',LetsIn W3 ap (L.drop k)->(ap=none->c'=0)->∃v4 W4,(∃a4 n4 c4,v4=Value.slice a4 n4 c4)/\(Builtin.append_ #[251,251] 251 #[v3,.slice ap (L.length - k) c']).run prog W3= .ok v4 W4/\W4.cell? ⟨p,0,none⟩=some (.slice ao L.length cap)/\W4.frozen? ⟨p,0,none⟩=false/\Aside (RefAt base (W4.setCell ⟨p,0,none⟩ v4) p v4 (L.take k++(id,c,gn)::L.drop k)/\Keeps (fun b=>b=p) w (W4.setCell ⟨p,0,none⟩ v4)/\(∀g,v4.ownBlock=some g->w.heap.size<=g)):=fun ap c' hap hc'=>by
  obtain ⟨v4,W4,r4,o4,g4⟩:=gy (base:=w.heap.size) o3' zj zj ap c' (L.drop k) zj hap hc' 251;rw [ld] at r4;have hk4:Keeps (fun b=>some b=v3.ownBlock) W3 W4:=aV g4
  have hv3:∀b,some b=v3.ownBlock->w.heap.size<=b:=fun b e=>(o3.lt b e.symm).1
  have hg:=h.lt;have hp4:W4.heap[p]? =w.heap[p]? :=(hk4.block p zj (fun e'=>by have:=hv3 p e';omega)).trans hp3;have hc4:W4.heap[p]? =some (.cells #[.slice ao L.length cap] 253 (0,0)):=hp4.trans h.cell;refine ⟨v4,W4,(by obtain ⟨a4,c4,e⟩:=cP o4;exact ⟨_,_,_,e⟩),r4,by simp [World.cell?,hc4],by simp [World.frozen?,hc4],?_,?_,fun g hg=>(o4.lt g hg).1⟩
  ·have hks:Keeps (fun b=>b=p) W4 (W4.setCell ⟨p,0,none⟩ v4):=aZ p [_] 0 W4
   have e1:aI cz (L.take k++ [(id,c,gn)])++aI cz (L.drop k)=aI cz (L.take k++(id,c,gn)::L.drop k):=by rw [<-ah];simp
   have e2:k+1+(L.drop k).length=(L.take k++(id,c,gn)::L.drop k).length:=zq;rw [e1,e2] at o4
   have o5:(W4.setCell ⟨p,0,none⟩ v4).ownsRow base 256 3 v4 (L.take k++(id,c,gn)::L.drop k).length (aI cz (L.take k++(id,c,gn)::L.drop k)):=by
    have:=gT (w':=W4.setCell ⟨p,0,none⟩ v4) o4 (fun g hg'=>hks.block g (o4.lt g hg').2 (fun e=>by have:=(o4.lt g hg').1;omega));refine ⟨this.1,this.2.imp (fun e=>e) ?_⟩;exact kq8
   refine ⟨heap_setCell_same W4 p 0 _ _ _ hc4,o5,h.low,fun l hl=> ?_⟩
   rcases vL.1 hl with hl | hl
   ·exact h.small l (Zg hl)
   rcases vJ.1 hl with rfl | hl
   ·exact hc
   exact h.small l (Zh hl)
  refine ((((((hk0.mono (fun _ _ e=>e.elim)).then hk1 (fun _ _ e=>e.elim)).then hk2 (fun _ _ e=>e.elim)).then hk3 (fun b hb e=> ?_)).then hk4 (fun b hb e=> ?_)).then (aZ p [v4] 0 W4) (fun b _ e=>e))
  ·have:=hv1 b e;omega
  have:=hv3 b e;omega
 have HF:=Lib.hid FIN;have HI3:=Lib.hid (hI3.part k hk);have hlc:=hnc.2;clear FIN hI3 hI0 o1 o2 o3 o3' hk0 hk1 hk2 hk3 g1 g3 hs0 hs1 hs2 hs3 hx0 hx1 hx2 hI2 hv1 hp3 l1 ld
 rcases hIn with h0 | ⟨g,o,hao,-⟩
 ·
  have hL0:L.length=0:=by rw [h0];rfl
  obtain rfl:k=0:=zj
  have hc0:Aside (∃v4 W4,(∃a4 n4 c4,v4=Value.slice a4 n4 c4)/\(Builtin.append_ #[251,251] 251 #[v3,.slice ao 0 (if cap=0 then 0 else cap)]).run prog W3= .ok v4 W4/\W4.cell? ⟨p,0,none⟩=some (.slice ao L.length cap)/\W4.frozen? ⟨p,0,none⟩=false/\Aside (RefAt base (W4.setCell ⟨p,0,none⟩ v4) p v4 (L.take 0++(id,c,gn)::L.drop 0)/\Keeps (fun b=>b=p) w (W4.setCell ⟨p,0,none⟩ v4)/\(∀g,v4.ownBlock=some g->w.heap.size<=g))):=by
   have:=HF.o ao (if cap=0 then 0 else cap) (.inl (by rw [h0];rfl)) (fun e=>by rw [hnc.1 e];rfl)
   rwa [hL0] at this |-
  obtain ⟨v4,W4,⟨a4,n4,k4,rfl⟩,r4,c4,z4,H4⟩:=hc0.o;have HF':=H4;rw [hL0] at cp0 cp3
  have hcase:ao=none\/∃g,ao=some ⟨g,0,none⟩:=by
   rcases h.row.2 with ⟨h1,_⟩ | ⟨g',cap',cur,hv,_⟩
   ·simp only [Value.slice.injEq] at h1;exact .inl h1.1
   simp only [Value.slice.injEq] at hv;exact .inr ⟨g',hv.1⟩
  clear HF HI3 H4 hc0 hL0 h0 hlt hlc h
  rcases hcase with rfl | ⟨g,rfl⟩
  ·obtain rfl:cap=0:=hnc.1 rfl;rw [if_pos rfl] at r4;clear hnc;exact ka7
  clear hnc;by_cases hc1:cap=0
  ·subst hc1;rw [if_pos rfl] at r4;exact ka7
  rw [if_neg hc1] at r4;exact ka7
 have ho:o=0:=by
  rcases h.row.2 with ⟨h1,_⟩ | ⟨g',cap',cur,hv,_⟩
  ·rw [hao] at h1;simp at h1
  rw [hao] at hv;simp only [Value.slice.injEq,Option.some.injEq,Addr.mk.injEq,and_true] at hv;exact hv.1.2
 subst hao ho;clear h hlt hnc;by_cases hck:cap=k
 ·subst hck;have hd0:L.drop cap= []:=Za zj;obtain ⟨v4,W4,⟨a4,n4,k4,rfl⟩,r4,c4,z4,H4⟩:=HF.o (some ⟨g,0,none⟩) 0 (.inl hd0) (fun e=>qE);have HF':=H4;clear HF HI3 H4 hd0;have hz:L.length - cap=0:=zj;rw [hz] at r4;clear hz;exact ka7
 obtain ⟨v4,W4,⟨a4,n4,k4,rfl⟩,r4,c4,z4,H4⟩:=HF.o _ (cap - k) HI3.o.2 (fun e=>qE);have HF':=H4;clear HF HI3 H4;simp only [Zu,Addr.add_lit,vQ] at r4;exact ka7
end
section
open Go.RowKit Go.Lib Go.Sort
theorem EL (w:World) (base p:Nat) (v:Value) (L:List Ltr) (id:Int) (hT:RefAt base w p v L) (hL:L.length<=1000) (hx:id∉L.map (·.1)):
  Calls prog 149 #[.pointer (some ⟨p,0,none⟩),.int .i64 id] w fun e w'=>e= .returned (.int .i64 6)/\w'=w:=by
 have hf:=lm w base p v L id hT hL;rw [eG hx] at hf;clear hT hx;go_enter func149,ntmps149;go_wp2_with fail;refine hf.mono ?_;rintro e w1 ⟨rfl,hw1⟩;subst hw1;exact kb3
theorem Jb (w:World) (base p i:Nat) (v:Value) (L:List Ltr) (a:Int) (c:Nat) (gn:Bool) (hT:RefAt base w p v L) (hL:L.length<=1000) (hf:bj a L=some i) (hl:L[i]? =some (a,c,gn)):
  Calls prog 149 #[.pointer (some ⟨p,0,none⟩),.int .i64 a] w fun e w'=>e= .returned (.int .i64 0)/\RefAt base w' p v (L.set i (a,c,true))/\Keeps (fun k=>some k=v.ownBlock) w w':=by
 have hil:=(vA.1 hl).1;have hfa:=lm w base p v L a hT hL;rw [show iC a L=(i:Int) by unfold iC;rw [hf]] at hfa;obtain ⟨ao,cap,rfl⟩:=cP hT.row
 obtain ⟨g,rfl⟩:∃g,ao=some ⟨g,0,none⟩:=by
  rcases hT.row.2 with ⟨_,h2⟩ | ⟨g,cap',cur,hv,_⟩
  ·omega
  cases hv;exact ⟨g,rfl⟩
 have HT:Aside (RefAt base w p (.slice (some ⟨g,0,none⟩) L.length cap) L):=hT;have HL:Aside (L[i]? =some (a,c,gn)):=hl;have d0:decide ((i:Int)<0)=false:=zt;have ei:((i:Int)).toNat=i:=zj;have bi:(i:Int)<(L.length:Int):=zj;have pi:(0:Int)<=(i:Int):=zj;have c0:=hT.c0;obtain ⟨blk,off,hbo,f0,f1,f2⟩:=(lJ hT.row).at hl;simp only [Option.some.injEq,Addr.mk.injEq,and_true] at hbo;obtain ⟨rfl,rfl⟩:=hbo;rw [vQ] at f0 f1 f2
 have z0:∀j,w.frozen? ⟨g,j,none⟩=false:=fun j=>hT.row.frozenAt j
 have z1:=z0 (i*3);have z2:=z0 (i*3+1);have z3:=z0 (i*3+2);have hne:g≠p:=(hT.ne g rfl).1
 have FIN:Aside (∀W:World,W.heap=w.heap->W.os=w.os->W.tape=w.tape->W.output=w.output->RefAt base (W.setCells g (i*3) [.int .i64 a,.int .u8 (c:Int),.bool true]) p (.slice (some ⟨g,0,none⟩) L.length cap) (L.set i (a,c,true))/\Keeps (fun k=>some k=some g) w (W.setCells g (i*3) [.int .i64 a,.int .u8 (c:Int),.bool true])):=fun W e0 e1 e2 e3=>by
  have hTW:RefAt base W p (.slice (some ⟨g,0,none⟩) L.length cap) L:=hT.same (by rw [e0]) (fun g _=>by rw [e0]);have hkp:=aZ g [.int .i64 a,.int .u8 (c:Int),.bool true] (i*3) W;have hro:=hTW.row
  have hself:L.set i (a,c,gn)=L:=by
   exact km7
  have q1:aI cz L=(aI cz L).take (i*3)++cz (a,c,gn)++(aI cz L).drop ((i+1)*3):=by
   rw [<-dV dt L i hil (a,c,gn),hself]
  have q2:=dV dt L i hil (a,c,true)
  have el:((aI cz L).take (i*3)).length=i*3:=by rw [vW,bX dt];omega
  rw [q1] at hro;have ho:=fg (vs:=[.int .i64 a,.int .u8 (c:Int),.bool true]) hro rfl;rw [el] at ho
  have hm:∀l∈L.set i (a,c,true),l∈L\/l=(a,c,true):=fun l hl=>List.mem_or_eq_of_mem_set hl
  have hkW:Keeps (fun k=>some k=some g) w W:=⟨e1,e2,e3,by rw [e0];exact vB _,fun k _ _=>by rw [e0]⟩
  refine ⟨⟨(hkp.block p hTW.lt (fun e=>hne e.symm)).trans hTW.cell,?_,hT.low,fun l hl=> ?_⟩,hkW.then hkp (fun k _ e=>by rw [e])⟩
  ·rw [ZY,q2];exact ho
  rcases hm l hl with h | rfl
  ·exact hT.small l h
  exact hT.small (a,c,gn) (vH HL.o)
 clear hT hl hf z0;go_enter func149,ntmps149;go_wp2_with fail;refine hfa.mono ?_;rintro e w1 ⟨rfl,hw1⟩;subst hw1;clear hfa;go_upto_region 4 with fail;refine bv (S:=fun w'=>w'.cell? ⟨p,0,none⟩=some (.slice (some ⟨g,0,none⟩) L.length cap)/\w'.cell? ⟨g,i*3+1,none⟩=some (.int .u8 (c:Int))) (z:=16) zo ⟨c0,f1⟩ (fun hHeld=> ?_);refine aY (i:=0) (v:= ?v0) zr rfl zo zo zo (fun _ _ _ h=>h) (Or.inl ⟨zv,?hy0⟩) hHeld ?rest0
 case hy0=>(intro w' _;go_simp;try with_reducible rfl)
 refine qn ?_;refine aY (i:=1) (v:= ?v1) zr rfl zo zo zo (fun _ _ _ h=>h) (Or.inl ⟨zv,?hy1⟩) hHeld ?rest1
 case hy1=>(intro w' _;go_simp;try with_reducible rfl)
 refine qn ?_;refine aY (i:=2) (v:= ?v2) zr rfl zo zo zo (fun _ _ _ h=>h) (Or.inl ⟨zv,?hy2⟩) hHeld ?rest2
 case hy2=>(intro w' _;go_simp;try with_reducible rfl)
 refine qn ?_;refine aA (i:=3) (v:= ?v3) zr zo rfl zo zo zo zo (fun _ _ _ h=>h) (Or.inl ⟨zv,?hy3⟩) hHeld ?rest3
 case hy3=>(intro w' hSw;obtain ⟨k1,k2⟩:=hSw;go_simp;try with_reducible rfl)
 refine qn ?_;refine aY (i:=4) (v:= ?v4) zr rfl zo zo zo (fun _ _ _ h=>h) (Or.inl ⟨zv,?hy4⟩) hHeld ?rest4
 case hy4=>(intro w' _;go_simp;try with_reducible rfl)
 refine qn ?_;refine aY (i:=5) (v:= ?v5) zr rfl zo zo zo (fun _ _ _ h=>h) (Or.inl ⟨zv,?hy5⟩) hHeld ?rest5
 case hy5=>(intro w' _;go_simp;try with_reducible rfl)
 refine qn ?_;refine aY (i:=6) (v:= ?v6) zr rfl zo zo zo (fun _ _ _ h=>h) (Or.inl ⟨zv,?hy6⟩) hHeld ?rest6
 case hy6=>(intro w' _;go_simp;try with_reducible rfl)
 refine qn ?_;refine aY (i:=7) (v:= ?v7) zr rfl zo zo zo (fun _ _ _ h=>h) (Or.inl ⟨zv,?hy7⟩) hHeld ?rest7
 case hy7=>(intro w' _;go_simp;try with_reducible rfl)
 refine qn ?_;refine aY (i:=8) (v:= ?v8) zr rfl zo zo zo (fun _ _ _ h=>h) (Or.inl ⟨zv,?hy8⟩) hHeld ?rest8
 case hy8=>(intro w' _;go_simp;try with_reducible rfl)
 refine qn ?_;refine aA (i:=9) (v:= ?v9) zr zo rfl zo zo zo zo (fun _ _ _ h=>h) (Or.inl ⟨zv,?hy9⟩) hHeld ?rest9
 case hy9=>(intro w' hSw;obtain ⟨k1,k2⟩:=hSw;go_simp;try with_reducible rfl)
 refine qn ?_;refine aY (i:=10) (v:= ?v10) zr rfl zo zo zo (fun _ _ _ h=>h) (Or.inl ⟨zv,?hy10⟩) hHeld ?rest10
 case hy10=>(intro w' _;go_simp;try with_reducible rfl)
 refine qn ?_;refine aY (i:=11) (v:= ?v11) zr rfl zo zo zo (fun _ _ _ h=>h) (Or.inl ⟨zv,?hy11⟩) hHeld ?rest11
 case hy11=>(intro w' _;go_simp;try with_reducible rfl)
 refine qn ?_;refine aY (i:=12) (v:= ?v12) zr rfl zo zo zo (fun _ _ _ h=>h) (Or.inl ⟨zv,?hy12⟩) hHeld ?rest12
 case hy12=>(intro w' _;go_simp;try with_reducible rfl)
 refine qn ?_;refine aA (i:=13) (v:= ?v13) zr zo rfl zo zo zo zo (fun _ _ _ h=>h) (Or.inl ⟨zv,?hy13⟩) hHeld ?rest13
 case hy13=>(intro w' hSw;obtain ⟨k1,k2⟩:=hSw;go_simp;try with_reducible rfl)
 refine qn ?_;refine aY (i:=14) (v:= ?v14) zr rfl zo zo zo (fun _ _ _ h=>h) (Or.inl ⟨zv,?hy14⟩) hHeld ?rest14
 case hy14=>(intro w' _;go_simp;try with_reducible rfl)
 refine qn ?_;refine aY (i:=15) (v:= ?v15) zr rfl zo zo zo (fun _ _ _ h=>h) (Or.inl ⟨zv,?hy15⟩) hHeld ?rest15
 case hy15=>(intro w' _;go_simp;try with_reducible rfl)
 refine qn ?_;refine aF (i:=16) zo rfl (fun K hK=> ?_);go_simp;refine hK _ _ (.inr ⟨rfl,zr⟩) ?_;clear hK K;refine bB zo ?_ _;have F:=FIN.o w1.drew rfl rfl rfl rfl;have HF:=Lib.hid F;clear F FIN;go_wp2;go_ret;exact ⟨rfl,HF.o⟩
def sW (id:Int) (L:List Ltr):List Ltr:=match bj id L with
 | none=>L
 | some i=>L.set i (id,(L[i]!).2.1,true)
theorem CZ (id:Int) (L:List Ltr):(sW id L).map bare=Lv id (L.map bare):=by
 unfold sW Lv;rw [sN]
 cases hf:bj id L with
 | none=>rfl
 | some i=>exact GD id _
theorem Et (id:Int) (L:List Ltr):(sW id L).length=L.length:=by
 unfold sW
 cases bj id L with
 | none=>rfl
 | some i=>simp
theorem Gq (w:World) (base p:Nat) (v:Value) (L:List Ltr) (id:Int) (hT:RefAt base w p v L) (hL:L.length<=1000):
  Calls prog 149 #[.pointer (some ⟨p,0,none⟩),.int .i64 id] w fun e w'=>e= .returned (.int .i64 (Ax id L:Int))/\RefAt base w' p v (sW id L)/\Keeps (fun k=>some k=v.ownBlock) w w':=by
 unfold Ax sW
 cases hf:bj id L with
 | none=>
  refine (EL w base p v L id hT hL (fun hm=> ?_)).mono ?_
  ·obtain ⟨l,hl,e⟩:=uh.1 hm;exact gW hf l hl e
  rintro e w' ⟨rfl,rfl⟩;exact ⟨rfl,hT,Keeps.refl _ _⟩
 | some i=>
  obtain ⟨⟨a,c,gn⟩,hl,rfl⟩:=cM hf
  have hil:=(vA.1 hl)
  refine (Jb w base p i v L a c gn hT hL hf hl).mono ?_;rintro e w' ⟨rfl,h1,h2⟩;refine ⟨rfl,?_,h2⟩;dsimp only;rw [getElem!_pos L i hil.1,hil.2];exact h1
end
section
open Go.RowKit Go.Lib Go.Sort
theorem Fm (w:World) (base p:Nat) (v:Value) (L:List Ltr) (h:RefAt base w p v L) (hL:L.length<=1000):
  Calls prog 150 #[.pointer (some ⟨p,0,none⟩)] w fun e w'=>∃vs,e= .returned vs/\w'.ownsRow w.heap.size 256 3 vs (bs L).length (aI cz (bs L))/\Below w.heap.size w w':=by
 obtain ⟨i0,hi,hz0,hz1,hz2⟩:=info_parts Dp;obtain ⟨ao,cap,rfl⟩:=cP h.row;have C0:Aside (w.cell? ⟨p,0,none⟩=some (.slice ao L.length cap)):=h.c0;have c0:=h.c0;have HI:Aside (LetsIn w ao L):=lJ h.row;clear h;go_enter func150,ntmps150;go_wp2;clear c0;go_loopg [3,4] L.length (fun kx s3 s4 wr=>∃(k:Nat) (ov:Value),ov=s3/\s4= .int .i64 (k:Int)/\k<=L.length/\L.length - k<=kx/\Aside (wr.ownsRow w.heap.size 256 3 ov (bs (L.take k)).length (aI cz (bs (L.take k)))/\Below w.heap.size w wr))
 case atStart=>exact ⟨0,_,rfl,rfl,vM _,vB _,⟨uf _ _ _ _,vG _ w⟩⟩
 case round=>
  obtain ⟨k,ov,rfl,rfl,hk,hkx,A⟩:=hrel;have c0:=co A.o.2 C0.o;by_cases hlt:k<L.length
  ·have hltz:decide ((k:Int)<(L.length:Int))=true:=by simp;omega
   have ek:((k:Int)).toNat=k:=zj;have pk:(0:Int)<=(k:Int):=zj;have bk:(k:Int)<(L.length:Int):=zj
   obtain ⟨⟨a,c,gn⟩,hl⟩:∃l,Aside (L[k]? =some l):=⟨L[k],vF hlt⟩
   obtain ⟨blk,off,rfl,f0,f1,f2⟩:=(HI.o.later A.o.2).at hl.o;have HN:=Lib.hid (sX hl.o)
   obtain ⟨T,hT⟩:∃T,Aside (bs (L.take k)=T):=⟨_,rfl⟩
   have A':Aside (wr.ownsRow w.heap.size 256 3 ov T.length (aI cz T)/\Below w.heap.size w wr):=jL
   have hTl:T.length<=1000:=by
    have:(bs (L.take k)).length<=(L.take k).length:=Zv _ _;rw [hT.o,vW] at this;omega
   obtain ⟨u,hu⟩:=zc wr;subst hu
   cases gn with
   | true=>
    clear A;go_wp2;go_roundg (L.length - (k+1))
    case measure=>omega
    case rel=>
     refine ⟨k+1,_,rfl,zw,zj,vB _,?_⟩
     have e:bs (L.take (k+1))=T:=by rw [HN.o,hT.o];simp
     rw [e];exact A'.o
   | false=>
    clear A;go_wp2_with (at_builtin;refine wpList_append_own _ rfl _ _ 251 rfl w.heap.size 256 i0 _ 3 16 underlying251 hi hz0 hz1 hz2 rfl zj _ _ _ rfl (A'.o.1.alloc _) ⟨u.heap.size,0,none⟩ 1 1 [.int .i64 a,.int .u8 (c:Int),.bool false] rfl ?qb1 ?qb2 ?qb3 ?qb4 ?qb5 ?qb6 ?_)
    case qb3=>exact ⟨rfl,rfl,rfl⟩
    case qb4=>simp only [maxLen];omega
    case qb5=>omega
    case qb6=>have:=A'.o.2.size;simp;omega
    intro v2 u2 hown hgrow hnil;clear hnil;have W2:Below w.heap.size w u2:=(A'.o.2.alloc A'.o.2.size _).grown hgrow (by have:=A'.o.2.size;simp;omega) (fun k hk=>(A'.o.1.lt k hk).1)
    have R2:Aside (u2.ownsRow w.heap.size 256 3 v2 (bs (L.take (k+1))).length (aI cz (bs (L.take (k+1))))/\Below w.heap.size w u2):=by
     have e:bs (L.take (k+1))=T++ [(a,c,false)]:=by rw [HN.o,hT.o];rfl
     rw [e,ah,vN];exact ⟨hown,W2⟩
    clear hown hgrow W2;go_wp2;go_roundg (L.length - (k+1))
    case measure=>omega
    case rel=>exact ⟨k+1,_,rfl,zw,zj,vB _,R2⟩
  have hltz:decide ((k:Int)<(L.length:Int))=false:=zq;have ek:L.take k=L:=vT zj;rw [ek] at A;clear ek;go_wp2;go_ret;exact ⟨_,rfl,A.o⟩
theorem Ds (w:World) (base p:Nat) (v:Value) (L:List Ltr) (h:RefAt base w p v L) (hL:L.length<=1000):
  Calls prog 80 #[.pointer (some ⟨p,0,none⟩)] w fun e w'=>e= .returned (.string ⟨(cu L).toArray⟩)/\Below w.heap.size w w':=by
 have hS:=Fm w base p v L h hL
 have HS:Aside ((∀l∈bs L,l.2.1<256)/\(bs L).length<=1000):=⟨fun l hl=>h.small l (Zn.1 hl).1,by
  have:(bs L).length<=L.length:=Zv _ _
  omega⟩
 have HX:Aside (cu L=(bs L).map fun l=>UInt8.ofNat l.2.1):=rfl;generalize bs L=M at hS HS HX;have hM:M.length<=1000:=HS.o.2;clear h;go_enter func80,ntmps80;go_wp2_with fail;refine hS.mono ?_;clear hS;rintro e w1 ⟨vs,rfl,ho,hb1⟩;obtain ⟨ao,cap,rfl⟩:=cP ho
 have H1:Aside (LetsIn w1 ao M/\Below w.heap.size w w1):=⟨lJ ho,hb1⟩
 clear ho hb1;go_wp2;go_loopg [3,5] M.length (fun kx s3 s5 wr=>∃(k:Nat),s3= .string ⟨((M.take k).map fun l=>UInt8.ofNat l.2.1).toArray⟩/\s5= .int .i64 (k:Int)/\k<=M.length/\M.length - k<=kx/\Aside (Below w1.heap.size w1 wr))
 case atStart=>exact ⟨0,rfl,rfl,vM _,vB _,vG _ _⟩
 case round=>
  obtain ⟨k,rfl,rfl,hk,hkx,A⟩:=hrel;by_cases hlt:k<M.length
  ·have hltz:decide ((k:Int)<(M.length:Int))=true:=by simp;omega
   have ek:((k:Int)).toNat=k:=zj;have pk:(0:Int)<=(k:Int):=zj;have bk:(k:Int)<(M.length:Int):=zj
   obtain ⟨⟨a,c,gn⟩,hl⟩:∃l,Aside (M[k]? =some l):=⟨M[k],vF hlt⟩
   obtain ⟨blk,off,rfl,f0,f1,f2⟩:=(H1.o.1.later A.o).at hl.o;have hc:c<256:=HS.o.1 _ (vH hl.o)
   obtain ⟨T,hT⟩:∃T,Aside (((M.take k).map fun l=>UInt8.ofNat l.2.1)=T):=⟨_,rfl⟩
   rw [hT.o]
   have hTl:T.length<=1000:=by rw [<-hT.o,ul,vW];omega
   have hadd:=lO T [JF c] zq;go_wp2_with fail;refine (pX c wr zj).mono ?_;rintro e w2 ⟨rfl,hb2⟩;have A2:Aside (Below w1.heap.size w1 w2):=zi A.o hb2;clear hb2;go_wp2;go_roundg (M.length - (k+1))
   case measure=>omega
   case rel=>
    refine ⟨k+1,?_,zw,zj,vB _,A2⟩;rw [uA,hl.o,un,hT.o];rfl
  have hltz:decide ((k:Int)<(M.length:Int))=false:=zq;have ek:M.take k=M:=vT zj;rw [ek,<-HX.o];clear ek;have F:Aside (Below w.heap.size w wr):=zi H1.o.2 A.o;go_wp2;go_ret;exact ⟨rfl,F.o⟩
