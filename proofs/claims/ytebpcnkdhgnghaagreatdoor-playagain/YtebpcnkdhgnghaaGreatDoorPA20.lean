import Derived.Test.YtebpcnkdhgnghaaGreatDoorPA10
import Derived.Test.YtebpcnkdhgnghaaGreatDoorPA12
import Derived.Test.YtebpcnkdhgnghaaGreatDoorPA13
set_option linter.unusedSimpArgs false
set_option linter.unusedVariables false
set_option maxRecDepth 100000
set_option maxHeartbeats 64000000
namespace Go.Proofs.YtebpcnkdhgnghaaGreatDoor
open Go.Proofs.Tryz
variable {p6:ByteArray} {a b g k kd kn n n1 n2 n3 n4 n5 o:Nat} {ad:Nat→Addr} {w w':World}
section
open Go.RowKit
abbrev PrtR (kn g n1 n2 n3 n4 n5:Nat) (c:UInt8) (p6:ByteArray) (w':World):Prop:=w'.cell? ⟨kn,0,none⟩=some (.int .i64 (n1:Int))/\w'.cell? ⟨kn,1,none⟩=some (.int .i64 (n2:Int))/\w'.cell? ⟨kn,2,none⟩=some (.int .i64 (n3:Int))/\w'.cell? ⟨kn,3,none⟩=some (.int .i64 (n4:Int))/\w'.cell? ⟨kn,4,none⟩=some (.int .i64 (n5:Int))/\w'.cell? ⟨g,0,none⟩=some (.string ⟨#[c]⟩)/\w'.cell? ⟨g,6,none⟩=some (.string p6)
theorem PrtR.drew {kn g n1 n2 n3 n4 n5:Nat} {c:UInt8} {p6:ByteArray} {w:World} (h:PrtR kn g n1 n2 n3 n4 n5 c p6 w):PrtR kn g n1 n2 n3 n4 n5 c p6 w.drew:=h
theorem PrtR.set {c:UInt8} {v:Value} (h1:a≠kn) (h2:a≠g) (h:PrtR kn g n1 n2 n3 n4 n5 c p6 w):PrtR kn g n1 n2 n3 n4 n5 c p6 (w.setCell ⟨a,o,none⟩ v):=by
 have k:∀j,(w.setCell ⟨a,o,none⟩ v).cell? ⟨kn,j,none⟩=w.cell? ⟨kn,j,none⟩:=fun j=>World.cell?_setCell_other _ _ _ _ (fun e=>h1 (congrArg Addr.block e))
 have l:∀j,(w.setCell ⟨a,o,none⟩ v).cell? ⟨g,j,none⟩=w.cell? ⟨g,j,none⟩:=fun j=>World.cell?_setCell_other _ _ _ _ (fun e=>h2 (congrArg Addr.block e))
 unfold PrtR
 rw [k,k,k,k,k,l,l]
 exact h
theorem PrtR.set8 {o0 o1 o2 o3 o4 o5 o6 o7:Nat} {c:UInt8} {v0 v1 v2 v3 v4 v5 v6 v7:Value} (h1:a≠kn) (h2:a≠g) (h:PrtR kn g n1 n2 n3 n4 n5 c p6 w):
  PrtR kn g n1 n2 n3 n4 n5 c p6 ((((((((w.setCell ⟨a,o0,none⟩ v0).setCell ⟨a,o1,none⟩ v1).setCell ⟨a,o2,none⟩ v2).setCell ⟨a,o3,none⟩ v3).setCell ⟨a,o4,none⟩ v4).setCell ⟨a,o5,none⟩ v5).setCell ⟨a,o6,none⟩ v6).setCell ⟨a,o7,none⟩ v7):=
 ((((((((h.set h1 h2).set h1 h2).set h1 h2).set h1 h2).set h1 h2).set h1 h2).set h1 h2).set h1 h2)
theorem tH (s:ByteArray) (w:World) (hs:s.size<=1000000) (m:Int) (hm:w.cell? ⟨14,0,none⟩=some (.int .i64 m)) (c:UInt8) (l1 l2 l3 l4 l5 l6 l7:List UInt8) (h8:dh 124 s.data.toList= [[c],l1,l2,l3,l4,l5,l6,l7]):
  Calls prog 358 #[.string s] w fun e w'=>e= .returned (.tuple #[gR (bH s.data.toList),.bool (bH s.data.toList).isSome])/\Below w.heap.size w w':=by
 have R0:=ResO.new w 61
 have HM:=Lib.hid (aQ ((jN w.heap.size w).alloc zg (.cells #[.int .i64 0,.int .i64 0,.int .i64 0,.int .u8 0,.int .i64 0,.int .i64 0,.string ⟨#[]⟩,.string ⟨#[]⟩] 61)) hm)
 clear hm
 have HR:=Lib.hid (kN h8)
 generalize bH s.data.toList=R at HR |-
 have H8:=Lib.hid h8
 clear h8
 go_enter func358,ntmps358
 go_wp2_with fail
 refine (EJ s m _ hs HM.o).mono ?_
 rintro e w1 ⟨P,cap,g,rfl,hg,hcap,hc,h4e,h4n,hb⟩
 have R1:=R0.later hb
 have hP:=h4e (by rw [H8.o];rfl)
 rw [H8.o] at hP
 obtain ⟨p0,p1,p2,p3,p4,p5,p6,p7,rfl,e0,e1,e2,e3,e4,e5,e6,e7⟩:∃p0 p1 p2 p3 p4 p5 p6 p7,P= [p0,p1,p2,p3,p4,p5,p6,p7]/\p0.data.toList= [c]/\p1.data.toList=l1/\p2.data.toList=l2/\p3.data.toList=l3/\p4.data.toList=l4/\p5.data.toList=l5/\p6.data.toList=l6/\p7.data.toList=l7:=by
  have hlen:P.length=8:=xL
  match P,hlen,hP with
  | [a0,a1,a2,a3,a4,a5,a6,a7],_,hP=>simp at hP;exact ⟨a0,a1,a2,a3,a4,a5,a6,a7,rfl,hP⟩
 have hcap8:8<=cap:=by simpa using hcap
 have hl0:p0.size=1:=by rw [<-cw,e0];rfl
 have hl7:p7.size<=1000000:=by
  have:=BT 124 s.data.toList l7 (by rw [H8.o];simp)
  rw [<-cw,e7]
  have:=cw s
  omega
 have hp0:p0=⟨#[c]⟩:=by
  have:p0.data= #[c]:=by rw [<-Array.toArray_toList (xs:=p0.data),e0]
  cases p0;simp_all
 subst hp0
 have d1:(((⟨#[c]⟩:ByteArray).size:Int) !=1)=false:=rfl
 have k0:∀o,(w1.alloc o).cell? ⟨g,0,none⟩=some (.string ⟨#[c]⟩):=fun o=>aQ ((jN _ _).alloc zg o) (hc 0 _ rfl)
 have k1:∀o,(w1.alloc o).cell? ⟨g,1,none⟩=some (.string p1):=fun o=>aQ ((jN _ _).alloc zg o) (hc 1 _ rfl)
 have k2:∀o,(w1.alloc o).cell? ⟨g,2,none⟩=some (.string p2):=fun o=>aQ ((jN _ _).alloc zg o) (hc 2 _ rfl)
 have k3:∀o,(w1.alloc o).cell? ⟨g,3,none⟩=some (.string p3):=fun o=>aQ ((jN _ _).alloc zg o) (hc 3 _ rfl)
 have k4:∀o,(w1.alloc o).cell? ⟨g,4,none⟩=some (.string p4):=fun o=>aQ ((jN _ _).alloc zg o) (hc 4 _ rfl)
 have k5:∀o,(w1.alloc o).cell? ⟨g,5,none⟩=some (.string p5):=fun o=>aQ ((jN _ _).alloc zg o) (hc 5 _ rfl)
 have k6:∀o,(w1.alloc o).cell? ⟨g,6,none⟩=some (.string p6):=fun o=>aQ ((jN _ _).alloc zg o) (hc 6 _ rfl)
 have k7:∀o,(w1.alloc o).cell? ⟨g,7,none⟩=some (.string p7):=fun o=>aQ ((jN _ _).alloc zg o) (hc 7 _ rfl)
 have k0b:=hc 0 _ rfl
 have C:=fun o=>R1.later ((jN _ _).alloc zg o)
 have c0:=fun o=>(C o).z.c0
 have c1:=fun o=>(C o).z.c1
 have c2:=fun o=>(C o).z.c2
 have c3:=fun o=>(C o).z.c3
 have c4:=fun o=>(C o).z.c4
 have c5:=fun o=>(C o).z.c5
 have c6:=fun o=>(C o).z.c6
 have c7:=fun o=>(C o).z.c7
 have f0:=fun o=>(C o).f0
 have f1:=fun o=>(C o).f1
 have f2:=fun o=>(C o).f2
 have f3:=fun o=>(C o).f3
 have f4:=fun o=>(C o).f4
 have f5:=fun o=>(C o).f5
 have f6:=fun o=>(C o).f6
 have f7:=fun o=>(C o).f7
 have BB:=fun o=>(C o).b
 have HB:=Lib.hid BB
 have ne1:¬w1.heap.size=w.heap.size:=by have:=R1.lt;omega
 have ne2:w.heap.size≠w1.heap.size:=zj
 have ne3:w.heap.size≠g:=by simp at hg;omega
 subst e1 e2 e3 e4 e5 e6 e7
 clear hb R0 HM hc h4e h4n hcap hP hg e0 H8 C BB hl0
 go_wp2
 refine wp_loop_rounds 6 ?_
 rw [rounds_succ];go_wp2_with fail
 cases hN1:kY 10 p1.data.toList with
 | none=>
  have HE:Hid (R=none):=Lib.hid (by rw [HR.o,ml];simp only [hN1])
  refine (eN p1 _ hN1).mono ?_
  rintro e w' ⟨rfl,hw⟩
  subst hw
  clear hN1
  exact ka4
 | some n1=>
  have b1:=eE _ _ _ hN1
  refine (eK p1 n1 _ hN1).mono ?_
  rintro e w' ⟨rfl,hw⟩
  subst hw
  go_wp2
  rw [rounds_succ];go_wp2_with fail
  cases hN2:kY 10 p2.data.toList with
  | none=>
   have HE:Hid (R=none):=Lib.hid (by rw [HR.o,ml];simp only [hN1,hN2])
   refine (eN p2 _ hN2).mono ?_
   rintro e w' ⟨rfl,hw⟩
   subst hw
   clear hN1 hN2
   exact ka4
  | some n2=>
   have b2:=eE _ _ _ hN2
   refine (eK p2 n2 _ hN2).mono ?_
   rintro e w' ⟨rfl,hw⟩
   subst hw
   go_wp2
   rw [rounds_succ];go_wp2_with fail
   cases hN3:kY 10 p3.data.toList with
   | none=>
    have HE:Hid (R=none):=Lib.hid (by rw [HR.o,ml];simp only [hN1,hN2,hN3])
    refine (eN p3 _ hN3).mono ?_
    rintro e w' ⟨rfl,hw⟩
    subst hw
    clear hN1 hN2 hN3
    exact ka4
   | some n3=>
    have b3:=eE _ _ _ hN3
    refine (eK p3 n3 _ hN3).mono ?_
    rintro e w' ⟨rfl,hw⟩
    subst hw
    go_wp2
    rw [rounds_succ];go_wp2_with fail
    cases hN4:kY 10 p4.data.toList with
    | none=>
     have HE:Hid (R=none):=Lib.hid (by rw [HR.o,ml];simp only [hN1,hN2,hN3,hN4])
     refine (eN p4 _ hN4).mono ?_
     rintro e w' ⟨rfl,hw⟩
     subst hw
     clear hN1 hN2 hN3 hN4
     exact ka4
    | some n4=>
     have b4:=eE _ _ _ hN4
     refine (eK p4 n4 _ hN4).mono ?_
     rintro e w' ⟨rfl,hw⟩
     subst hw
     go_wp2
     rw [rounds_succ];go_wp2_with fail
     cases hN5:kY 10 p5.data.toList with
     | none=>
      have HE:Hid (R=none):=Lib.hid (by rw [HR.o,ml];simp only [hN1,hN2,hN3,hN4,hN5])
      refine (eN p5 _ hN5).mono ?_
      rintro e w' ⟨rfl,hw⟩
      subst hw
      clear hN1 hN2 hN3 hN4 hN5
      exact ka4
     | some n5=>
      have b5:=eE _ _ _ hN5
      refine (eK p5 n5 _ hN5).mono ?_
      rintro e w' ⟨rfl,hw⟩
      subst hw
      go_wp2
      rw [rounds_succ];go_wp2_with fail
      have R2:ResO w (w1.alloc (.cells #[.int .i64 (n1:Int),.int .i64 (n2:Int),.int .i64 (n3:Int),.int .i64 (n4:Int),.int .i64 (n5:Int)] 435)):=R1.later (zh _ _)
      have m0:(w1.alloc (.cells #[.int .i64 (n1:Int),.int .i64 (n2:Int),.int .i64 (n3:Int),.int .i64 (n4:Int),.int .i64 (n5:Int)] 435)).cell? ⟨w1.heap.size,0,none⟩=some (.int .i64 (n1:Int)):=ye
      have m1:(w1.alloc (.cells #[.int .i64 (n1:Int),.int .i64 (n2:Int),.int .i64 (n3:Int),.int .i64 (n4:Int),.int .i64 (n5:Int)] 435)).cell? ⟨w1.heap.size,1,none⟩=some (.int .i64 (n2:Int)):=ye
      have m2:(w1.alloc (.cells #[.int .i64 (n1:Int),.int .i64 (n2:Int),.int .i64 (n3:Int),.int .i64 (n4:Int),.int .i64 (n5:Int)] 435)).cell? ⟨w1.heap.size,2,none⟩=some (.int .i64 (n3:Int)):=ye
      have m3:(w1.alloc (.cells #[.int .i64 (n1:Int),.int .i64 (n2:Int),.int .i64 (n3:Int),.int .i64 (n4:Int),.int .i64 (n5:Int)] 435)).cell? ⟨w1.heap.size,3,none⟩=some (.int .i64 (n4:Int)):=ye
      have m4:(w1.alloc (.cells #[.int .i64 (n1:Int),.int .i64 (n2:Int),.int .i64 (n3:Int),.int .i64 (n4:Int),.int .i64 (n5:Int)] 435)).cell? ⟨w1.heap.size,4,none⟩=some (.int .i64 (n5:Int)):=ye
      have j0:=k0 (.cells #[.int .i64 (n1:Int),.int .i64 (n2:Int),.int .i64 (n3:Int),.int .i64 (n4:Int),.int .i64 (n5:Int)] 435)
      have j6:=k6 (.cells #[.int .i64 (n1:Int),.int .i64 (n2:Int),.int .i64 (n3:Int),.int .i64 (n4:Int),.int .i64 (n5:Int)] 435)
      clear k0 k1 k2 k3 k4 k5 k6 k7 k0b c0 c1 c2 c3 c4 c5 c6 c7 f0 f1 f2 f3 f4 f5 f6 f7 HB
      generalize w1.alloc (.cells #[.int .i64 (n1:Int),.int .i64 (n2:Int),.int .i64 (n3:Int),.int .i64 (n4:Int),.int .i64 (n5:Int)] 435)=w2 at R2 m0 m1 m2 m3 m4 j0 j6 |-
      cases hX:bK p7.data.toList with
      | none=>
       have HE:Hid (R=none):=Lib.hid xd
       refine (IZ p7 _ hl7 hX).mono ?_
       rintro e w3 ⟨rfl,hb⟩
       have R3:=R2.later hb
       clear hb R1 R2 m0 m1 m2 m3 m4 j0 j6 hX hN1 hN2 hN3 hN4 hN5
       obtain ⟨⟨c0,c1,c2,c3,c4,c5,c6,c7⟩,f0,f1,f2,f3,f4,f5,f6,f7,B1⟩:=R3
       exact kb0
      | some v=>
       have HE:Hid (R=some (c,n1,n2,n3,n4,n5,p6.data.toList,v)):=Lib.hid xd
       refine (Ga p7 v _ hl7 hX).mono ?_
       rintro e w3 ⟨rfl,hb⟩
       have R3:=R2.later hb
       have g0:=aQ hb m0
       have g1:=aQ hb m1
       have g2:=aQ hb m2
       have g3:=aQ hb m3
       have g4:=aQ hb m4
       have i0:=aQ hb j0
       have i6:=aQ hb j6
       clear hb R1 R2 m0 m1 m2 m3 m4 j0 j6 hX hN1 hN2 hN3 hN4 hN5
       obtain ⟨⟨c0,c1,c2,c3,c4,c5,c6,c7⟩,f0,f1,f2,f3,f4,f5,f6,f7,B1⟩:=R3
       generalize w1.heap.size=kn at ne1 ne2 g0 g1 g2 g3 g4 |-
       have h0:PrtR kn g n1 n2 n3 n4 n5 c p6 w3:=⟨g0,g1,g2,g3,g4,i0,i6⟩
       have hidx:∀w,(Instr.index 9 (.string ⟨#[c]⟩) (.int .i64 0)).run prog w= .ok (.int .u8 (c.toNat:Int)) w:=fun _=>zk
       clear d1 hl7 b1 b2 b3 b4 b5
       go_wp2_with fail
       go_region_held3 (fun w'=>w'.cell? ⟨kn,0,none⟩=some (.int .i64 (n1:Int))/\w'.cell? ⟨kn,1,none⟩=some (.int .i64 (n2:Int))/\w'.cell? ⟨kn,2,none⟩=some (.int .i64 (n3:Int))/\w'.cell? ⟨kn,3,none⟩=some (.int .i64 (n4:Int))/\w'.cell? ⟨kn,4,none⟩=some (.int .i64 (n5:Int))/\w'.cell? ⟨g,0,none⟩=some (.string ⟨#[c]⟩)/\w'.cell? ⟨g,6,none⟩=some (.string p6))
        (first
         | with_reducible assumption
         | with_reducible exact PrtR.drew h0
         | with_reducible exact PrtR.drew (PrtR.set8 ne2 ne3 h0)
         | with_reducible exact PrtR.set8 ne2 ne3 (PrtR.drew h0))
        (fail)
       all_goals go_wp2
       all_goals
        refine bodyPost_ret (v:=.tuple #[.agg #[.int .i64 (n1:Int),.int .i64 (n2:Int),.int .i64 (n3:Int),.int .u8 (c.toNat:Int),.int .i64 (n4:Int),.int .i64 (n5:Int),.string p6,.string ⟨v.toArray⟩],.bool true]) jD rfl ⟨by rw [HE.o];rfl,?_⟩
        exact kg4
end
section
open Go.RowKit
theorem lr (s:ByteArray) (w:World) (hs:s.size<=1000000) (m:Int) (hm:w.cell? ⟨14,0,none⟩=some (.int .i64 m)):
  Calls prog 358 #[.string s] w fun e w'=>e= .returned (.tuple #[gR (bH s.data.toList),.bool (bH s.data.toList).isSome])/\Below w.heap.size w w':=by
 by_cases h8:(dh 124 s.data.toList).length=8
 ·obtain ⟨l0,l1,l2,l3,l4,l5,l6,l7,hl⟩:∃l0 l1 l2 l3 l4 l5 l6 l7,dh 124 s.data.toList= [l0,l1,l2,l3,l4,l5,l6,l7]:=by
   match dh 124 s.data.toList,h8 with
   | [a0,a1,a2,a3,a4,a5,a6,a7],_=>exact ⟨a0,a1,a2,a3,a4,a5,a6,a7,rfl⟩
  by_cases h0:l0.length=1
  ·match l0,h0 with
   | [c],_=>exact tH s w hs m hm c l1 l2 l3 l4 l5 l6 l7 hl
  exact Am s w hs m hm l0 l1 l2 l3 l4 l5 l6 l7 hl h0
 exact FF s w hs m hm h8
theorem DJ (s:ByteArray) (w:World) (hs:s.size<=1000000) (m:Int) (hm:w.cell? ⟨14,0,none⟩=some (.int .i64 m)) (ht:w.cell? ⟨3,0,none⟩=some (.iface 450 (.pointer (some (ad 0))))) (h:bH s.data.toList=none):
  Calls prog 351 #[.string s] w fun e w'=>e= .returned (.tuple #[gR none,.iface 450 (.pointer (some (ad 0)))])/\Below w.heap.size w w':=by
 have R0:=ResO.new w 61
 have hb0:Below w.heap.size w (w.alloc (.cells #[.int .i64 0,.int .i64 0,.int .i64 0,.int .u8 0,.int .i64 0,.int .i64 0,.string ⟨#[]⟩,.string ⟨#[]⟩] 61)):=(jN w.heap.size w).alloc zg _
 have HM:=Lib.hid (lr s _ hs m (aQ hb0 hm))
 rw [h] at HM
 have T0:=aQ hb0 ht
 have neT0:3<w.heap.size:=jR w ⟨3,0,none⟩ ht
 have neT1:¬w.heap.size=3:=zj
 have neT2:¬3=w.heap.size:=zj
 clear hm ht hb0 h
 go_enter func351,ntmps351
 go_wp2_with fail
 generalize w.alloc (.cells #[.int .i64 0,.int .i64 0,.int .i64 0,.int .u8 0,.int .i64 0,.int .i64 0,.string ⟨#[]⟩,.string ⟨#[]⟩] 61)=u at R0 HM T0 |-
 refine HM.o.mono ?_
 rintro e w1 ⟨rfl,hb⟩
 have R1:=R0.later hb
 have T1:=aQ hb T0
 clear hb R0 HM T0
 unfold gR
 go_wp2_with fail
 have hb2:Below w1.heap.size w1 (w1.alloc (.cells #[.int .i64 0,.int .i64 0,.int .i64 0,.int .u8 0,.int .i64 0,.int .i64 0,.string ⟨#[]⟩,.string ⟨#[]⟩] 61)):=zh _ _
 have R2:=R1.later hb2
 have T2:=aQ hb2 T1
 clear hb2 R1 T1
 generalize w1.alloc (.cells #[.int .i64 0,.int .i64 0,.int .i64 0,.int .u8 0,.int .i64 0,.int .i64 0,.string ⟨#[]⟩,.string ⟨#[]⟩] 61)=w2 at R2 T2 |-
 obtain ⟨⟨c0,c1,c2,c3,c4,c5,c6,c7⟩,f0,f1,f2,f3,f4,f5,f6,f7,B1⟩:=R2
 go_region
 all_goals go_wp2
 all_goals
  refine bodyPost_ret (v:=.tuple #[.agg #[.int .i64 0,.int .i64 0,.int .i64 0,.int .u8 0,.int .i64 0,.int .i64 0,.string ⟨#[]⟩,.string ⟨#[]⟩],.iface 450 (.pointer (some (ad 0)))]) yo rfl ⟨rfl,?_⟩
  exact kg4
theorem EA (s:ByteArray) (w:World) (hs:s.size<=1000000) (m:Int) (hm:w.cell? ⟨14,0,none⟩=some (.int .i64 m)) (hE:Op4 ad w) (c:UInt8) (n1 n2 n3 n4 n5:Nat) (nm v:List UInt8) (h:bH s.data.toList=some (c,n1,n2,n3,n4,n5,nm,v)) (hn:nm.length<=1000000) (hv:v.length<=1000000) (hc:opE n1 n2 n3 c.toNat n4 n5 nm v≠0):
  Calls prog 351 #[.string s] w fun e w'=>e= .returned (.tuple #[gR none,.iface 450 (.pointer (some (ad (opE n1 n2 n3 c.toNat n4 n5 nm v - 1))))])/\Below w.heap.size w w':=by
 have R0:=ResO.new w 61
 have hb0:Below w.heap.size w (w.alloc (.cells #[.int .i64 0,.int .i64 0,.int .i64 0,.int .u8 0,.int .i64 0,.int .i64 0,.string ⟨#[]⟩,.string ⟨#[]⟩] 61)):=(jN w.heap.size w).alloc zg _
 have HM:=Lib.hid (lr s _ hs m (aQ hb0 hm))
 rw [h] at HM
 have E0:=hE.later hb0
 have hk:=fun u hu=>bX (ad:=ad) n1 n2 n3 c.toNat n4 n5 ⟨nm.toArray⟩ ⟨v.toArray⟩ u hu (by simpa [ByteArray.size] using hn) (by simpa [ByteArray.size] using hv)
 have hd1:(⟨nm.toArray⟩:ByteArray).data.toList=nm:=rfl
 have hd2:(⟨v.toArray⟩:ByteArray).data.toList=v:=rfl
 rw [hd1,hd2] at hk
 generalize opE n1 n2 n3 c.toNat n4 n5 nm v=code at hc hk |-
 have HC:=Lib.hid hk
 have he:eV ad code= .iface 450 (.pointer (some (ad (code - 1)))):=by unfold eV;rw [if_neg hc]
 have HV:=Lib.hid he
 clear hm hb0 h hE hk hd1 hd2 hc he
 go_enter func351,ntmps351
 go_wp2_with fail
 generalize w.alloc (.cells #[.int .i64 0,.int .i64 0,.int .i64 0,.int .u8 0,.int .i64 0,.int .i64 0,.string ⟨#[]⟩,.string ⟨#[]⟩] 61)=u at R0 HM E0 |-
 refine HM.o.mono ?_
 rintro e w1 ⟨rfl,hb⟩
 have R1:=R0.later hb
 have E1:=E0.later hb
 clear hb R0 HM E0
 unfold gR
 go_wp2_with fail
 have hb2:Below w1.heap.size w1 (w1.alloc (.cells #[.int .i64 (n1:Int),.int .i64 (n2:Int),.int .i64 (n3:Int),.int .u8 (c.toNat:Int),.int .i64 (n4:Int),.int .i64 (n5:Int),.string ⟨nm.toArray⟩,.string ⟨v.toArray⟩] 61)):=zh _ _
 have R2:=R1.later hb2
 have E2:=E1.later hb2
 clear hb2 R1 E1
 refine (HC.o _ E2).mono ?_
 rintro e w3 ⟨rfl,hb⟩
 rw [HV.o]
 have R3:=R2.later hb
 clear hb R2 E2 HC HV
 obtain ⟨⟨c0,c1,c2,c3,c4,c5,c6,c7⟩,f0,f1,f2,f3,f4,f5,f6,f7,B1⟩:=R3
 go_wp2
 refine bodyPost_ret (v:=.tuple #[.agg #[.int .i64 0,.int .i64 0,.int .i64 0,.int .u8 0,.int .i64 0,.int .i64 0,.string ⟨#[]⟩,.string ⟨#[]⟩],.iface 450 (.pointer (some (ad (code - 1))))]) yo rfl ⟨rfl,?_⟩
 exact kg7
theorem KI (s:ByteArray) (w:World) (hs:s.size<=1000000) (m:Int) (hm:w.cell? ⟨14,0,none⟩=some (.int .i64 m)) (hE:Op4 ad w) (c:UInt8) (n1 n2 n3 n4 n5:Nat) (nm v:List UInt8) (h:bH s.data.toList=some (c,n1,n2,n3,n4,n5,nm,v)) (hn:nm.length<=1000000) (hv:v.length<=1000000) (hc:opE n1 n2 n3 c.toNat n4 n5 nm v=0):
  Calls prog 351 #[.string s] w fun e w'=>e= .returned (.tuple #[gR (some (c,n1,n2,n3,n4,n5,nm,v)),.nilIface])/\Below w.heap.size w w':=by
 have R0:=ResO.new w 61
 have hb0:Below w.heap.size w (w.alloc (.cells #[.int .i64 0,.int .i64 0,.int .i64 0,.int .u8 0,.int .i64 0,.int .i64 0,.string ⟨#[]⟩,.string ⟨#[]⟩] 61)):=(jN w.heap.size w).alloc zg _
 have HM:=Lib.hid (lr s _ hs m (aQ hb0 hm))
 rw [h] at HM
 have E0:=hE.later hb0
 have hk:=fun u hu=>bX (ad:=ad) n1 n2 n3 c.toNat n4 n5 ⟨nm.toArray⟩ ⟨v.toArray⟩ u hu (by simpa [ByteArray.size] using hn) (by simpa [ByteArray.size] using hv)
 have hd1:(⟨nm.toArray⟩:ByteArray).data.toList=nm:=rfl
 have hd2:(⟨v.toArray⟩:ByteArray).data.toList=v:=rfl
 rw [hd1,hd2,hc] at hk
 have HC:=Lib.hid hk
 clear hm hb0 h hE hk hd1 hd2 hc
 go_enter func351,ntmps351
 go_wp2_with fail
 generalize w.alloc (.cells #[.int .i64 0,.int .i64 0,.int .i64 0,.int .u8 0,.int .i64 0,.int .i64 0,.string ⟨#[]⟩,.string ⟨#[]⟩] 61)=u at R0 HM E0 |-
 refine HM.o.mono ?_
 rintro e w1 ⟨rfl,hb⟩
 have R1:=R0.later hb
 have E1:=E0.later hb
 clear hb R0 HM E0
 unfold gR
 go_wp2_with fail
 have hb2:Below w1.heap.size w1 (w1.alloc (.cells #[.int .i64 (n1:Int),.int .i64 (n2:Int),.int .i64 (n3:Int),.int .u8 (c.toNat:Int),.int .i64 (n4:Int),.int .i64 (n5:Int),.string ⟨nm.toArray⟩,.string ⟨v.toArray⟩] 61)):=zh _ _
 have R2:=R1.later hb2
 have E2:=E1.later hb2
 have O2:=OpAt.new w1 n1 n2 n3 c.toNat n4 n5 ⟨nm.toArray⟩ ⟨v.toArray⟩ 61
 have ne1:¬w1.heap.size=w.heap.size:=by have:=R1.lt;omega
 have ne2:¬w.heap.size=w1.heap.size:=zj
 clear hb2 R1 E1
 refine (HC.o _ E2).mono ?_
 rintro e w3 ⟨rfl,hb⟩
 have R3:=R2.later hb
 have O3:=O2.later hb
 clear hb R2 E2 HC O2
 have he:eV ad 0= .nilIface:=rfl
 rw [he]
 clear he
 obtain ⟨⟨c0,c1,c2,c3,c4,c5,c6,c7⟩,f0,f1,f2,f3,f4,f5,f6,f7,B1⟩:=R3
 obtain ⟨x0,x1,x2,x3,x4,x5,x6,x7⟩:=O3
 go_wp2
 refine bodyPost_ret (v:=.tuple #[.agg #[.int .i64 (n1:Int),.int .i64 (n2:Int),.int .i64 (n3:Int),.int .u8 (c.toNat:Int),.int .i64 (n4:Int),.int .i64 (n5:Int),.string ⟨nm.toArray⟩,.string ⟨v.toArray⟩],.nilIface]) yo rfl ⟨rfl,?_⟩
 exact kg7
end
section
open Go.RowKit Go.Lib Go.Sort Go.Maps
def ltr (k:Nat):ByteArray:=⟨#[UInt8.ofNat (97+k)]⟩
def cV (kd k:Nat) (x y:Int):OpX:=
 if kd=0\/kd=1 then (0,0,0,109,0,x,ltr (k % 4),⟨#[]⟩)
 else if kd=2 then (0,0,0,109,y,x,ltr (k % 4),⟨#[]⟩)
 else if kd=3 then (0,0,0,109,y,1,⟨#[116]⟩,⟨#[]⟩)
 else if kd=4\/kd=5\/kd=6 then (0,0,0,105,y,((k % 5:Nat):Int),⟨#[]⟩,ltr (k % 26))
 else if kd=7 then (0,0,0,100,y,((k % 5:Nat):Int),⟨#[]⟩,⟨#[]⟩)
 else (0,0,0,115,y,0,⟨#[109]⟩,⟨#[118,UInt8.ofNat (48+k % 10)]⟩)
theorem IM (d:Nat) (h:d<10):Lib.itoa (d:Int)= [UInt8.ofNat (48+d)]:=by
 have h:d=0\/d=1\/d=2\/d=3\/d=4\/d=5\/d=6\/d=7\/d=8\/d=9:=zj
 rcases h with rfl | rfl | rfl | rfl | rfl | rfl | rfl | rfl | rfl | rfl<;>(show _=_;kernel_rfl)
def StpBlk (w:World) (b:Nat) (kd n k:Nat):Prop:=w.heap[b]? =some (.cells #[.int .i64 (kd:Int),.int .i64 (n:Int),.int .i64 (k:Int)] 170 (0,0))
theorem StpBlk.lt (h:StpBlk w b kd n k):b<w.heap.size:=(jJ.1 h).1
theorem StpBlk.later (h:StpBlk w b kd n k) (hb:Below w.heap.size w w'):StpBlk w' b kd n k:=(hb.block b h.lt).trans h
theorem StpBlk.cells (h:StpBlk w b kd n k):w.cell? ⟨b,0,none⟩=some (.int .i64 (kd:Int))/\w.cell? ⟨b,1,none⟩=some (.int .i64 (n:Int))/\w.cell? ⟨b,2,none⟩=some (.int .i64 (k:Int)):=by
 unfold StpBlk at h
 refine ⟨?_,?_,?_⟩<;>simp [World.cell?,h]
def NumsAt (w:World) (g o:Nat) (xs:List Int):Prop:=∀(i:Nat) (x:Int),xs[i]? =some x->w.cell? ⟨g,o+i,none⟩=some (.int .i64 x)
theorem NumsAt.later {xs:List Int} (h:NumsAt w g o xs) (hb:Below w.heap.size w w'):NumsAt w' g o xs:=fun i x hx=>dt hb (h i x hx)
theorem oU (kd n k:Nat) (xs:List Int) (x y:Int) (g o cap:Nat) (w:World) (hkd:kd<=8) (hk:k<9223372036854775808) (hl:xs.length<9223372036854775808) (hx:xs[k % xs.length]? =some x) (hy:xs[k / 8 % xs.length]? =some y) (hr:NumsAt w g o xs) (htab:∀U,Below w.heap.size w U->Lib.TabIs prog U "internal/strconv.uint64pow10" .u64 Lib.pow10Tab):
  Calls prog 157 #[.agg #[.int .i64 (kd:Int),.int .i64 (n:Int),.int .i64 (k:Int)],.slice (some ⟨g,o,none⟩) xs.length cap] w fun e w'=>e= .returned (ar (cV kd k x y))/\Below w.heap.size w w':=by
 obtain ⟨SB,hSB⟩:=ze w.heap.size
 obtain ⟨U,hU⟩:=ze ((w.alloc (.cells #[.int .i64 (kd:Int),.int .i64 (n:Int),.int .i64 (k:Int)] 170)).alloc (.cells #[.int .i64 0,.int .i64 0,.int .i64 0,.int .u8 0,.int .i64 0,.int .i64 0,.string ⟨#[]⟩,.string ⟨#[]⟩] 61))
 have hbU:Below w.heap.size w U:=xX
 have BU:StpBlk U SB kd n k:=by rw [hU.o,hSB.o];exact (jV _ _ _ zq).trans (heap_alloc_new w _)
 have ZU:OpBlk U (SB+1) aT:=by
  rw [hU.o,hSB.o]
  have:=OpBlk.new (w.alloc (.cells #[.int .i64 (kd:Int),.int .i64 (n:Int),.int .i64 (k:Int)] 170)) aT
  exact kc8
 have hrU:=hr.later hbU
 have hlen:0<xs.length:=by
  have:=(jI.1 hx).1
  omega
 have cx:=hrU _ _ hx
 have cy:=hrU _ _ hy
 obtain ⟨i1,hi1⟩:=za (k % xs.length)
 obtain ⟨k8,hk8⟩:=za (k / 8)
 have l1:i1<xs.length:=by rw [hi1];exact uV _ hlen
 rw [<-hk8] at cy
 obtain ⟨i2,hi2⟩:=za (k8 % xs.length)
 have l2:i2<xs.length:=by rw [hi2];exact uV _ hlen
 have t1:Int.tmod (k:Int) (xs.length:Int)=(i1:Int):=by rw [hi1];exact ft k _
 have t2:Int.tdiv (k:Int) 8=(k8:Int):=by rw [hk8];exact Ex k 8
 have t3:Int.tmod (k8:Int) (xs.length:Int)=(i2:Int):=by rw [hi2];exact ft k8 _
 rw [<-hi1] at cx
 rw [<-hi2] at cy
 have k8l:k8<9223372036854775808:=zj
 have w8:IntKind.i64.wrap (k8:Int)=(k8:Int):=zr
 have n0:((xs.length:Int)==0)=false:=zM
 have n0d:decide ((xs.length:Int)=0)=false:=zJ
 have w1:((i1:Int)).toNat=i1:=zj
 have p1:(0:Int)<=(i1:Int):=zj
 have b1:(i1:Int)<(xs.length:Int):=zj
 have w2:((i2:Int)).toNat=i2:=zj
 have p2:(0:Int)<=(i2:Int):=zj
 have b2:(i2:Int)<(xs.length:Int):=zj
 have HTAB:Aside (∀U,Below w.heap.size w U->Lib.TabIs prog U "internal/strconv.uint64pow10" .u64 Lib.pow10Tab):=htab
 clear htab
 have t4:Int.tmod (k:Int) 4=((k % 4:Nat):Int):=ft k 4
 have t5:Int.tmod (k:Int) 5=((k % 5:Nat):Int):=ft k 5
 have t6:Int.tmod (k:Int) 26=((k % 26:Nat):Int):=ft k 26
 have t7:Int.tmod (k:Int) 10=((k % 10:Nat):Int):=ft k 10
 have HU:Aside (U=(w.alloc (.cells #[.int .i64 (kd:Int),.int .i64 (n:Int),.int .i64 (k:Int)] 170)).alloc (.cells #[.int .i64 0,.int .i64 0,.int .i64 0,.int .u8 0,.int .i64 0,.int .i64 0,.string ⟨#[]⟩,.string ⟨#[]⟩] 61)/\SB=w.heap.size/\Below w.heap.size w U/\StpBlk U SB kd n k/\OpBlk U (SB+1) aT):=⟨hU.o,hSB.o,hbU,BU,ZU⟩
 obtain ⟨s0,s1,s2⟩:=BU.cells
 obtain ⟨z0,z1,z2,z3,z4,z5,z6,z7,zf⟩:=ZU.cells
 unfold aT at z0 z1 z2 z3 z4 z5 z6 z7
 dsimp only at z0 z1 z2 z3 z4 z5 z6 z7
 clear hi1 hi2 hk8 hrU hr hx hy hbU BU ZU hU hSB
 obtain ⟨L,hL⟩:=za xs.length
 rw [<-hL] at hl hlen l1 l2 t1 t3 n0 n0d b1 b2
 rw [<-hL]
 clear hL
 have m0:L≠0:=zj
 have m1:(L:Int)≠0:=zj
 have m2:¬(L=0):=m0
 go_enter func157,ntmps157
 go_upto_region 1 with fail
 rw [<-HU.o.1,<-HU.o.2.1]
 go_quiet (fail)
 replace hkd:kd=0\/kd=1\/kd=2\/kd=3\/kd=4\/kd=5\/kd=6\/kd=7\/kd=8:=zj
 rcases hkd with hk0 | hk1 | hk2 | hk3 | hk4 | hk5 | hk6 | hk7 | hk8
 ·have hkk:kd=0:=hk0
  subst hkk
  have d0:((0:Nat):Int)=0:=rfl
  rw [d0] at s0
  go_wp2_with fail
  refine (fp (k % 4) zj _).mono ?_
  rintro e w9 ⟨rfl,rfl⟩
  obtain ⟨lt,hlt⟩:=ze (UInt8.ofNat (97+k % 4))
  rw [<-hlt.o]
  go_wp2
  (try simp only [Exit.inBlock,Exit.then])
  refine bodyPost_ret (v:=.agg #[.int .i64 0,.int .i64 0,.int .i64 0,.int .u8 109,.int .i64 0,.int .i64 x,.string ⟨#[lt]⟩,.string ⟨#[]⟩]) ?_ rfl ?_
  ·exact ke9
  exact kf3
 ·have hkk:kd=1:=hk1
  subst hkk
  have d0:((1:Nat):Int)=1:=rfl
  rw [d0] at s0
  go_wp2_with fail
  refine (fp (k % 4) zj _).mono ?_
  rintro e w9 ⟨rfl,rfl⟩
  obtain ⟨lt,hlt⟩:=ze (UInt8.ofNat (97+k % 4))
  rw [<-hlt.o]
  go_wp2
  (try simp only [Exit.inBlock,Exit.then])
  refine bodyPost_ret (v:=.agg #[.int .i64 0,.int .i64 0,.int .i64 0,.int .u8 109,.int .i64 0,.int .i64 x,.string ⟨#[lt]⟩,.string ⟨#[]⟩]) ?_ rfl ?_
  ·exact ke9
  exact kf3
 ·have hkk:kd=2:=hk2
  subst hkk
  have d0:((2:Nat):Int)=2:=rfl
  rw [d0] at s0
  go_wp2_with fail
  refine (fp (k % 4) zj _).mono ?_
  rintro e w9 ⟨rfl,rfl⟩
  obtain ⟨lt,hlt⟩:=ze (UInt8.ofNat (97+k % 4))
  rw [<-hlt.o]
  go_wp2
  (try simp only [Exit.inBlock,Exit.then])
  refine bodyPost_ret (v:=.agg #[.int .i64 0,.int .i64 0,.int .i64 0,.int .u8 109,.int .i64 y,.int .i64 x,.string ⟨#[lt]⟩,.string ⟨#[]⟩]) ?_ rfl ?_
  ·exact ke9
  refine ⟨jE,?_⟩
  exact aL (b:=SB+1) (Go.below_drewN HU.o.2.2.1 _) qg 0 [.int .i64 0,.int .i64 0,.int .i64 0,.int .u8 109,.int .i64 y,.int .i64 x,.string ⟨#[lt]⟩,.string ⟨#[]⟩]
 ·have hkk:kd=3:=hk3
  subst hkk
  have d0:((3:Nat):Int)=3:=rfl
  rw [d0] at s0
  go_wp2
  (try simp only [Exit.inBlock,Exit.then])
  refine bodyPost_ret (v:=.agg #[.int .i64 0,.int .i64 0,.int .i64 0,.int .u8 109,.int .i64 y,.int .i64 1,.string ⟨#[116]⟩,.string ⟨#[]⟩]) ?_ rfl ?_
  ·exact ke9
  refine ⟨by simp [ar,cV,ltr],?_⟩
  exact aL (b:=SB+1) (Go.below_drewN HU.o.2.2.1 _) qg 0 [.int .i64 0,.int .i64 0,.int .i64 0,.int .u8 109,.int .i64 y,.int .i64 1,.string ⟨#[116]⟩,.string ⟨#[]⟩]
 ·have hkk:kd=4:=hk4
  subst hkk
  have d0:((4:Nat):Int)=4:=rfl
  rw [d0] at s0
  go_upto_region 13 with fail
  have SD:StpBlk (U.drewN nq).drew SB 4 n k:=HU.o.2.2.2.1
  refine aM (S:=(fun w'=>StpBlk w' SB 4 n k)) zk SD (fun hHeld=> ?_)
  refine tk 0 hHeld ?_
  refine tk 1 hHeld ?_
  refine tk 2 hHeld ?_ (hy:=Or.inl ⟨zt,zv⟩)
  refine tk 3 hHeld ?_
  refine tk 4 hHeld ?_
  refine tk 5 hHeld ?_ (hy:=Or.inl ⟨zt,zv⟩)
  refine tk 6 hHeld ?_
  refine aZ (i:=7) zk rfl (fun kQ hK=> ?_)
  go_simp
  refine (fp (k % 26) zj _).mono ?_
  rintro e w9 ⟨rfl,rfl⟩
  obtain ⟨lt,hlt⟩:=ze (UInt8.ofNat (97+k % 26))
  rw [<-hlt.o]
  refine hK _ _ SD ?_
  clear hK kQ
  refine qn ?_
  refine tk 8 hHeld ?_
  refine aZ (i:=9) zk rfl (fun kQ hK=> ?_)
  go_simp
  have SE:StpBlk ((U.drewN nq).drew.setCells (SB+1) 0 [.int .i64 0,.int .i64 0,.int .i64 0,.int .u8 105,.int .i64 y,.int .i64 ((k % 5:Nat):Int),.string ⟨#[]⟩,.string ⟨#[lt]⟩]) SB 4 n k:=(aJ (SB+1) _ 0 _ SB zj).trans SD
  refine hK _ _ SE ?_
  clear hK kQ
  refine wpAnyH_done zk ?_ _
  refine qn ?_
  go_wp2
  (try simp only [Exit.inBlock,Exit.then])
  refine bodyPost_ret (v:=.agg #[.int .i64 0,.int .i64 0,.int .i64 0,.int .u8 105,.int .i64 y,.int .i64 ((k % 5:Nat):Int),.string ⟨#[]⟩,.string ⟨#[lt]⟩]) ?_ rfl ?_
  ·exact ke9
  exact kb9
 ·have hkk:kd=5:=hk5
  subst hkk
  have d0:((5:Nat):Int)=5:=rfl
  rw [d0] at s0
  go_upto_region 13 with fail
  have SD:StpBlk (U.drewN nq).drew SB 5 n k:=HU.o.2.2.2.1
  refine aM (S:=(fun w'=>StpBlk w' SB 5 n k)) zk SD (fun hHeld=> ?_)
  refine tk 0 hHeld ?_
  refine tk 1 hHeld ?_
  refine tk 2 hHeld ?_ (hy:=Or.inl ⟨zt,zv⟩)
  refine tk 3 hHeld ?_
  refine tk 4 hHeld ?_
  refine tk 5 hHeld ?_ (hy:=Or.inl ⟨zt,zv⟩)
  refine tk 6 hHeld ?_
  refine aZ (i:=7) zk rfl (fun kQ hK=> ?_)
  go_simp
  refine (fp (k % 26) zj _).mono ?_
  rintro e w9 ⟨rfl,rfl⟩
  obtain ⟨lt,hlt⟩:=ze (UInt8.ofNat (97+k % 26))
  rw [<-hlt.o]
  refine hK _ _ SD ?_
  clear hK kQ
  refine qn ?_
  refine tk 8 hHeld ?_
  refine aZ (i:=9) zk rfl (fun kQ hK=> ?_)
  go_simp
  have SE:StpBlk ((U.drewN nq).drew.setCells (SB+1) 0 [.int .i64 0,.int .i64 0,.int .i64 0,.int .u8 105,.int .i64 y,.int .i64 ((k % 5:Nat):Int),.string ⟨#[]⟩,.string ⟨#[lt]⟩]) SB 5 n k:=(aJ (SB+1) _ 0 _ SB zj).trans SD
  refine hK _ _ SE ?_
  clear hK kQ
  refine wpAnyH_done zk ?_ _
  refine qn ?_
  go_wp2
  (try simp only [Exit.inBlock,Exit.then])
  refine bodyPost_ret (v:=.agg #[.int .i64 0,.int .i64 0,.int .i64 0,.int .u8 105,.int .i64 y,.int .i64 ((k % 5:Nat):Int),.string ⟨#[]⟩,.string ⟨#[lt]⟩]) ?_ rfl ?_
  ·exact ke9
  exact kb9
 ·have hkk:kd=6:=hk6
  subst hkk
  have d0:((6:Nat):Int)=6:=rfl
  rw [d0] at s0
  go_upto_region 13 with fail
  have SD:StpBlk (U.drewN nq).drew SB 6 n k:=HU.o.2.2.2.1
  refine aM (S:=(fun w'=>StpBlk w' SB 6 n k)) zk SD (fun hHeld=> ?_)
  refine tk 0 hHeld ?_
  refine tk 1 hHeld ?_
  refine tk 2 hHeld ?_ (hy:=Or.inl ⟨zt,zv⟩)
  refine tk 3 hHeld ?_
  refine tk 4 hHeld ?_
  refine tk 5 hHeld ?_ (hy:=Or.inl ⟨zt,zv⟩)
  refine tk 6 hHeld ?_
  refine aZ (i:=7) zk rfl (fun kQ hK=> ?_)
  go_simp
  refine (fp (k % 26) zj _).mono ?_
  rintro e w9 ⟨rfl,rfl⟩
  obtain ⟨lt,hlt⟩:=ze (UInt8.ofNat (97+k % 26))
  rw [<-hlt.o]
  refine hK _ _ SD ?_
  clear hK kQ
  refine qn ?_
  refine tk 8 hHeld ?_
  refine aZ (i:=9) zk rfl (fun kQ hK=> ?_)
  go_simp
  have SE:StpBlk ((U.drewN nq).drew.setCells (SB+1) 0 [.int .i64 0,.int .i64 0,.int .i64 0,.int .u8 105,.int .i64 y,.int .i64 ((k % 5:Nat):Int),.string ⟨#[]⟩,.string ⟨#[lt]⟩]) SB 6 n k:=(aJ (SB+1) _ 0 _ SB zj).trans SD
  refine hK _ _ SE ?_
  clear hK kQ
  refine wpAnyH_done zk ?_ _
  refine qn ?_
  go_wp2
  (try simp only [Exit.inBlock,Exit.then])
  refine bodyPost_ret (v:=.agg #[.int .i64 0,.int .i64 0,.int .i64 0,.int .u8 105,.int .i64 y,.int .i64 ((k % 5:Nat):Int),.string ⟨#[]⟩,.string ⟨#[lt]⟩]) ?_ rfl ?_
  ·exact ke9
  exact kb9
 ·have hkk:kd=7:=hk7
  subst hkk
  have d0:((7:Nat):Int)=7:=rfl
  rw [d0] at s0
  go_wp2
  (try simp only [Exit.inBlock,Exit.then])
  refine bodyPost_ret (v:=.agg #[.int .i64 0,.int .i64 0,.int .i64 0,.int .u8 100,.int .i64 y,.int .i64 ((k % 5:Nat):Int),.string ⟨#[]⟩,.string ⟨#[]⟩]) ?_ rfl ?_
  ·exact ke9
  refine ⟨by simp [ar,cV,ltr],?_⟩
  exact aL (b:=SB+1) (Go.below_drewN HU.o.2.2.1 _) qg 0 [.int .i64 0,.int .i64 0,.int .i64 0,.int .u8 100,.int .i64 y,.int .i64 ((k % 5:Nat):Int),.string ⟨#[]⟩,.string ⟨#[]⟩]
 have hkk:kd=8:=hk8
 subst hkk
 have d0:((8:Nat):Int)=8:=rfl
 rw [d0] at s0
 go_wp2_with fail
 refine (lT ((k % 10:Nat):Int) zj zj _ (HTAB.o _ (Go.below_drewN HU.o.2.2.1 _))).mono ?_
 rintro e w9 ⟨rfl,hb9⟩
 rw [IM _ (uV _ zj)]
 obtain ⟨dg,hdg⟩:=ze (UInt8.ofNat (48+k % 10))
 rw [<-hdg.o]
 have Z9:OpBlk w9 (SB+1) aT:=(hb9.block (SB+1) HU.o.2.2.2.2.lt).trans HU.o.2.2.2.2
 clear z0 z1 z2 z3 z4 z5 z6 z7 zf
 obtain ⟨z0,z1,z2,z3,z4,z5,z6,z7,zf⟩:=Z9.cells
 unfold aT at z0 z1 z2 z3 z4 z5 z6 z7
 dsimp only at z0 z1 z2 z3 z4 z5 z6 z7
 have HB9:Aside (Below w.heap.size w w9):=(Go.below_drewN HU.o.2.2.1 _).trans (hb9.mono (Go.below_drewN HU.o.2.2.1 _).size)
 clear hb9 Z9
 go_wp2
 (try simp only [Exit.inBlock,Exit.then])
 refine bodyPost_ret (v:=.agg #[.int .i64 0,.int .i64 0,.int .i64 0,.int .u8 115,.int .i64 y,.int .i64 0,.string ⟨#[109]⟩,.string ⟨#[118,dg]⟩]) ?_ rfl ?_
 ·exact ke9
 refine ⟨by simp [ar,cV,ltr,hdg.o],?_⟩
 exact aL (b:=SB+1) HB9.o qg 0 [.int .i64 0,.int .i64 0,.int .i64 0,.int .u8 115,.int .i64 y,.int .i64 0,.string ⟨#[109]⟩,.string ⟨#[118,dg]⟩]
