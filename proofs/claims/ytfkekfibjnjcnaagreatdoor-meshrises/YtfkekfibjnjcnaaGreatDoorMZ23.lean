import Derived.Test.YtfkekfibjnjcnaaGreatDoorMZ21
set_option linter.unusedSimpArgs false
set_option linter.unusedVariables false
set_option maxRecDepth 100000
set_option maxHeartbeats 64000000
namespace Go.Proofs.YtfkekfibjnjcnaaGreatDoor
open Go.Proofs.Tryz
variable {ad:Nat→Addr}
section
open Go.RowKit
theorem parts_any (s:ByteArray) (w:World) (hs:s.size<=1000000) (m:Int) (hm:w.cell? ⟨10,0,none⟩=some (.int .i64 m)):
  Calls prog 252 #[.string s] w fun e w'=>e= .returned (.tuple #[partsO (partsL s.data.toList),.bool (partsL s.data.toList).isSome])/\Below w.heap.size w w':=by
 by_cases h8:(cutP 124 s.data.toList).length=8
 ·obtain ⟨l0,l1,l2,l3,l4,l5,l6,l7,hl⟩:∃l0 l1 l2 l3 l4 l5 l6 l7,cutP 124 s.data.toList= [l0,l1,l2,l3,l4,l5,l6,l7]:=by
   match cutP 124 s.data.toList,h8 with
   | [a0,a1,a2,a3,a4,a5,a6,a7],_=>exact ⟨a0,a1,a2,a3,a4,a5,a6,a7,rfl⟩
  by_cases h0:l0.length=1
  ·match l0,h0 with
   | [c],_=>exact parts_eight s w hs m hm c l1 l2 l3 l4 l5 l6 l7 hl
  exact parts_kind s w hs m hm l0 l1 l2 l3 l4 l5 l6 l7 hl h0
 exact parts_len s w hs m hm h8
theorem read_text (s:ByteArray) (w:World) (hs:s.size<=1000000) (m:Int) (hm:w.cell? ⟨10,0,none⟩=some (.int .i64 m)) (ht:w.cell? ⟨12,0,none⟩=some (.iface 350 (.pointer (some (ad 0))))) (h:partsL s.data.toList=none):
  Calls prog 220 #[.string s] w fun e w'=>e= .returned (.tuple #[partsO none,.iface 350 (.pointer (some (ad 0)))])/\Below w.heap.size w w':=by
 have R0:=ResO.new w 41
 have hb0:Below w.heap.size w (w.alloc (.cells #[.int .i64 0,.int .i64 0,.int .i64 0,.int .u8 0,.int .i64 0,.int .i64 0,.string ⟨#[]⟩,.string ⟨#[]⟩] 41)):=(vu w.heap.size w).alloc zg _
 have HM:=Lib.hid (parts_any s _ hs m (cellLater hb0 hm))
 rw [h] at HM
 have T0:=cellLater hb0 ht
 have neT0:12<w.heap.size:=vp w ⟨12,0,none⟩ ht
 have neT1:¬w.heap.size=12:=zj
 have neT2:¬12=w.heap.size:=zj
 clear hm ht hb0 h
 go_enter func220,ntmps220
 go_wp2_with fail
 generalize w.alloc (.cells #[.int .i64 0,.int .i64 0,.int .i64 0,.int .u8 0,.int .i64 0,.int .i64 0,.string ⟨#[]⟩,.string ⟨#[]⟩] 41)=u at R0 HM T0 |-
 refine HM.o.mono ?_
 rintro e w1 ⟨rfl,hb⟩
 have R1:=R0.later hb
 have T1:=cellLater hb T0
 clear hb R0 HM T0
 unfold partsO
 go_wp2_with fail
 have hb2:Below w1.heap.size w1 (w1.alloc (.cells #[.int .i64 0,.int .i64 0,.int .i64 0,.int .u8 0,.int .i64 0,.int .i64 0,.string ⟨#[]⟩,.string ⟨#[]⟩] 41)):=zh _ _
 have R2:=R1.later hb2
 have T2:=cellLater hb2 T1
 clear hb2 R1 T1
 generalize w1.alloc (.cells #[.int .i64 0,.int .i64 0,.int .i64 0,.int .u8 0,.int .i64 0,.int .i64 0,.string ⟨#[]⟩,.string ⟨#[]⟩] 41)=w2 at R2 T2 |-
 obtain ⟨⟨c0,c1,c2,c3,c4,c5,c6,c7⟩,f0,f1,f2,f3,f4,f5,f6,f7,B1⟩:=R2
 go_region
 all_goals go_wp2
 all_goals
  refine bodyPost_ret (v:=.tuple #[.agg #[.int .i64 0,.int .i64 0,.int .i64 0,.int .u8 0,.int .i64 0,.int .i64 0,.string ⟨#[]⟩,.string ⟨#[]⟩],.iface 350 (.pointer (some (ad 0)))]) yG rfl ⟨rfl,?_⟩
  exact ((((((((B1.setCell zm _).setCell zm _).setCell zm _).setCell zm _).setCell zm _).setCell zm _).setCell zm _).setCell zm _).drew
theorem read_code (s:ByteArray) (w:World) (hs:s.size<=1000000) (m:Int) (hm:w.cell? ⟨10,0,none⟩=some (.int .i64 m)) (hE:Op4 ad w) (c:UInt8) (n1 n2 n3 n4 n5:Nat) (nm v:List UInt8) (h:partsL s.data.toList=some (c,n1,n2,n3,n4,n5,nm,v)) (hn:nm.length<=1000000) (hv:v.length<=1000000) (hc:opE n1 n2 n3 c.toNat n4 n5 nm v≠0):
  Calls prog 220 #[.string s] w fun e w'=>e= .returned (.tuple #[partsO none,.iface 350 (.pointer (some (ad (opE n1 n2 n3 c.toNat n4 n5 nm v - 1))))])/\Below w.heap.size w w':=by
 have R0:=ResO.new w 41
 have hb0:Below w.heap.size w (w.alloc (.cells #[.int .i64 0,.int .i64 0,.int .i64 0,.int .u8 0,.int .i64 0,.int .i64 0,.string ⟨#[]⟩,.string ⟨#[]⟩] 41)):=(vu w.heap.size w).alloc zg _
 have HM:=Lib.hid (parts_any s _ hs m (cellLater hb0 hm))
 rw [h] at HM
 have E0:=hE.later hb0
 have hk:=fun u hu=>opcheck_any (ad:=ad) n1 n2 n3 c.toNat n4 n5 ⟨nm.toArray⟩ ⟨v.toArray⟩ u hu (by simpa [ByteArray.size] using hn) (by simpa [ByteArray.size] using hv)
 have hd1:(⟨nm.toArray⟩:ByteArray).data.toList=nm:=rfl
 have hd2:(⟨v.toArray⟩:ByteArray).data.toList=v:=rfl
 rw [hd1,hd2] at hk
 generalize opE n1 n2 n3 c.toNat n4 n5 nm v=code at hc hk |-
 have HC:=Lib.hid hk
 have he:eV ad code= .iface 350 (.pointer (some (ad (code - 1)))):=by unfold eV;rw [if_neg hc]
 have HV:=Lib.hid he
 clear hm hb0 h hE hk hd1 hd2 hc he
 go_enter func220,ntmps220
 go_wp2_with fail
 generalize w.alloc (.cells #[.int .i64 0,.int .i64 0,.int .i64 0,.int .u8 0,.int .i64 0,.int .i64 0,.string ⟨#[]⟩,.string ⟨#[]⟩] 41)=u at R0 HM E0 |-
 refine HM.o.mono ?_
 rintro e w1 ⟨rfl,hb⟩
 have R1:=R0.later hb
 have E1:=E0.later hb
 clear hb R0 HM E0
 unfold partsO
 go_wp2_with fail
 have hb2:Below w1.heap.size w1 (w1.alloc (.cells #[.int .i64 (n1:Int),.int .i64 (n2:Int),.int .i64 (n3:Int),.int .u8 (c.toNat:Int),.int .i64 (n4:Int),.int .i64 (n5:Int),.string ⟨nm.toArray⟩,.string ⟨v.toArray⟩] 41)):=zh _ _
 have R2:=R1.later hb2
 have E2:=E1.later hb2
 clear hb2 R1 E1
 refine (HC.o _ E2).mono ?_
 rintro e w3 ⟨rfl,hb⟩
 rw [HV.o]
 have R3:=R2.later hb
 clear hb R2 E2 HC HV
 obtain ⟨⟨c0,c1,c2,c3,c4,c5,c6,c7⟩,f0,f1,f2,f3,f4,f5,f6,f7,B1⟩:=R3
 go_wp2
 refine bodyPost_ret (v:=.tuple #[.agg #[.int .i64 0,.int .i64 0,.int .i64 0,.int .u8 0,.int .i64 0,.int .i64 0,.string ⟨#[]⟩,.string ⟨#[]⟩],.iface 350 (.pointer (some (ad (code - 1))))]) yG rfl ⟨rfl,?_⟩
 exact (((((((B1.setCell zm _).setCell zm _).setCell zm _).setCell zm _).setCell zm _).setCell zm _).setCell zm _).setCell zm _
theorem read_ok (s:ByteArray) (w:World) (hs:s.size<=1000000) (m:Int) (hm:w.cell? ⟨10,0,none⟩=some (.int .i64 m)) (hE:Op4 ad w) (c:UInt8) (n1 n2 n3 n4 n5:Nat) (nm v:List UInt8) (h:partsL s.data.toList=some (c,n1,n2,n3,n4,n5,nm,v)) (hn:nm.length<=1000000) (hv:v.length<=1000000) (hc:opE n1 n2 n3 c.toNat n4 n5 nm v=0):
  Calls prog 220 #[.string s] w fun e w'=>e= .returned (.tuple #[partsO (some (c,n1,n2,n3,n4,n5,nm,v)),.nilIface])/\Below w.heap.size w w':=by
 have R0:=ResO.new w 41
 have hb0:Below w.heap.size w (w.alloc (.cells #[.int .i64 0,.int .i64 0,.int .i64 0,.int .u8 0,.int .i64 0,.int .i64 0,.string ⟨#[]⟩,.string ⟨#[]⟩] 41)):=(vu w.heap.size w).alloc zg _
 have HM:=Lib.hid (parts_any s _ hs m (cellLater hb0 hm))
 rw [h] at HM
 have E0:=hE.later hb0
 have hk:=fun u hu=>opcheck_any (ad:=ad) n1 n2 n3 c.toNat n4 n5 ⟨nm.toArray⟩ ⟨v.toArray⟩ u hu (by simpa [ByteArray.size] using hn) (by simpa [ByteArray.size] using hv)
 have hd1:(⟨nm.toArray⟩:ByteArray).data.toList=nm:=rfl
 have hd2:(⟨v.toArray⟩:ByteArray).data.toList=v:=rfl
 rw [hd1,hd2,hc] at hk
 have HC:=Lib.hid hk
 clear hm hb0 h hE hk hd1 hd2 hc
 go_enter func220,ntmps220
 go_wp2_with fail
 generalize w.alloc (.cells #[.int .i64 0,.int .i64 0,.int .i64 0,.int .u8 0,.int .i64 0,.int .i64 0,.string ⟨#[]⟩,.string ⟨#[]⟩] 41)=u at R0 HM E0 |-
 refine HM.o.mono ?_
 rintro e w1 ⟨rfl,hb⟩
 have R1:=R0.later hb
 have E1:=E0.later hb
 clear hb R0 HM E0
 unfold partsO
 go_wp2_with fail
 have hb2:Below w1.heap.size w1 (w1.alloc (.cells #[.int .i64 (n1:Int),.int .i64 (n2:Int),.int .i64 (n3:Int),.int .u8 (c.toNat:Int),.int .i64 (n4:Int),.int .i64 (n5:Int),.string ⟨nm.toArray⟩,.string ⟨v.toArray⟩] 41)):=zh _ _
 have R2:=R1.later hb2
 have E2:=E1.later hb2
 have O2:=OpAt.new w1 n1 n2 n3 c.toNat n4 n5 ⟨nm.toArray⟩ ⟨v.toArray⟩ 41
 have ne1:¬w1.heap.size=w.heap.size:=by have:=R1.lt;omega
 have ne2:¬w.heap.size=w1.heap.size:=zj
 clear hb2 R1 E1
 refine (HC.o _ E2).mono ?_
 rintro e w3 ⟨rfl,hb⟩
 have R3:=R2.later hb
 have O3:=O2.later hb
 clear hb R2 E2 HC O2
 have he:eV ad 0= .nilIface:=rfl
 rw [he]
 clear he
 obtain ⟨⟨c0,c1,c2,c3,c4,c5,c6,c7⟩,f0,f1,f2,f3,f4,f5,f6,f7,B1⟩:=R3
 obtain ⟨x0,x1,x2,x3,x4,x5,x6,x7⟩:=O3
 go_wp2
 refine bodyPost_ret (v:=.tuple #[.agg #[.int .i64 (n1:Int),.int .i64 (n2:Int),.int .i64 (n3:Int),.int .u8 (c.toNat:Int),.int .i64 (n4:Int),.int .i64 (n5:Int),.string ⟨nm.toArray⟩,.string ⟨v.toArray⟩],.nilIface]) yG rfl ⟨rfl,?_⟩
 exact (((((((B1.setCell zm _).setCell zm _).setCell zm _).setCell zm _).setCell zm _).setCell zm _).setCell zm _).setCell zm _
