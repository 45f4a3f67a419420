import Derived.Test.YtfkekfibjnjcnaaGreatDoorMZ19
set_option linter.unusedSimpArgs false
set_option linter.unusedVariables false
set_option maxRecDepth 100000
set_option maxHeartbeats 64000000
namespace Go.Proofs.YtfkekfibjnjcnaaGreatDoor
variable {p6:ByteArray} {a g kn n1 n2 n3 n4 n5:Nat} {w:World}
section
open Go.RowKit
abbrev PrtR (kn g n1 n2 n3 n4 n5:Nat) (c:UInt8) (p6:ByteArray) (w':World):Prop:=w'.cell? ⟨kn,0,none⟩=some (.int .i64 (n1:Int))/\w'.cell? ⟨kn,1,none⟩=some (.int .i64 (n2:Int))/\w'.cell? ⟨kn,2,none⟩=some (.int .i64 (n3:Int))/\w'.cell? ⟨kn,3,none⟩=some (.int .i64 (n4:Int))/\w'.cell? ⟨kn,4,none⟩=some (.int .i64 (n5:Int))/\w'.cell? ⟨g,0,none⟩=some (.string ⟨#[c]⟩)/\w'.cell? ⟨g,6,none⟩=some (.string p6)
theorem PrtR.drew {kn g n1 n2 n3 n4 n5:Nat} {c:UInt8} {p6:ByteArray} {w:World} (h:PrtR kn g n1 n2 n3 n4 n5 c p6 w):PrtR kn g n1 n2 n3 n4 n5 c p6 w.drew:=h
theorem PrtR.set {o:Nat} {c:UInt8} {v:Value} (h1:a≠kn) (h2:a≠g) (h:PrtR kn g n1 n2 n3 n4 n5 c p6 w):PrtR kn g n1 n2 n3 n4 n5 c p6 (w.setCell ⟨a,o,none⟩ v):=by
 have k:∀j,(w.setCell ⟨a,o,none⟩ v).cell? ⟨kn,j,none⟩=w.cell? ⟨kn,j,none⟩:=fun j=>World.cell?_setCell_other _ _ _ _ (fun e=>h1 (congrArg Addr.block e))
 have l:∀j,(w.setCell ⟨a,o,none⟩ v).cell? ⟨g,j,none⟩=w.cell? ⟨g,j,none⟩:=fun j=>World.cell?_setCell_other _ _ _ _ (fun e=>h2 (congrArg Addr.block e))
 unfold PrtR
 rw [k,k,k,k,k,l,l]
 exact h
theorem PrtR.set8 {o0 o1 o2 o3 o4 o5 o6 o7:Nat} {c:UInt8} {v0 v1 v2 v3 v4 v5 v6 v7:Value} (h1:a≠kn) (h2:a≠g) (h:PrtR kn g n1 n2 n3 n4 n5 c p6 w):
  PrtR kn g n1 n2 n3 n4 n5 c p6 ((((((((w.setCell ⟨a,o0,none⟩ v0).setCell ⟨a,o1,none⟩ v1).setCell ⟨a,o2,none⟩ v2).setCell ⟨a,o3,none⟩ v3).setCell ⟨a,o4,none⟩ v4).setCell ⟨a,o5,none⟩ v5).setCell ⟨a,o6,none⟩ v6).setCell ⟨a,o7,none⟩ v7):=
 ((((((((h.set h1 h2).set h1 h2).set h1 h2).set h1 h2).set h1 h2).set h1 h2).set h1 h2).set h1 h2)
theorem parts_eight (s:ByteArray) (w:World) (hs:s.size<=1000000) (m:Int) (hm:w.cell? ⟨10,0,none⟩=some (.int .i64 m)) (c:UInt8) (l1 l2 l3 l4 l5 l6 l7:List UInt8) (h8:cutP 124 s.data.toList= [[c],l1,l2,l3,l4,l5,l6,l7]):
  Calls Tryz.prog 252 #[.string s] w fun e w'=>e= .returned (.tuple #[partsO (partsL s.data.toList),.bool (partsL s.data.toList).isSome])/\Below w.heap.size w w':=by
 have R0:=ResO.new w 41
 have HM:=Lib.hid (cellLater ((vu w.heap.size w).alloc zg (.cells #[.int .i64 0,.int .i64 0,.int .i64 0,.int .u8 0,.int .i64 0,.int .i64 0,.string ⟨#[]⟩,.string ⟨#[]⟩] 41)) hm)
 clear hm
 have HR:=Lib.hid (partsL_eight h8)
 generalize partsL s.data.toList=R at HR |-
 have H8:=Lib.hid h8
 clear h8
 go_enter Tryz.func252,Tryz.ntmps252
 go_wp2_with fail
 refine (split9 s m _ hs HM.o).mono ?_
 rintro e w1 ⟨P,cap,g,rfl,hg,hcap,hc,h4e,h4n,hb⟩
 have R1:=R0.later hb
 have hP:=h4e (by rw [H8.o];rfl)
 rw [H8.o] at hP
 obtain ⟨p0,p1,p2,p3,p4,p5,p6,p7,rfl,e0,e1,e2,e3,e4,e5,e6,e7⟩:∃p0 p1 p2 p3 p4 p5 p6 p7,P= [p0,p1,p2,p3,p4,p5,p6,p7]/\p0.data.toList= [c]/\p1.data.toList=l1/\p2.data.toList=l2/\p3.data.toList=l3/\p4.data.toList=l4/\p5.data.toList=l5/\p6.data.toList=l6/\p7.data.toList=l7:=by
  have hlen:P.length=8:=jq
  match P,hlen,hP with
  | [a0,a1,a2,a3,a4,a5,a6,a7],_,hP=>simp at hP;exact ⟨a0,a1,a2,a3,a4,a5,a6,a7,rfl,hP⟩
 have hcap8:8<=cap:=by simpa using hcap
 have hl0:p0.size=1:=by rw [<-listLen,e0];rfl
 have hl7:p7.size<=1000000:=by
  have:=cutP_piece 124 s.data.toList l7 (by rw [H8.o];simp)
  rw [<-listLen,e7]
  have:=listLen s
  omega
 have hp0:p0=⟨#[c]⟩:=by
  have:p0.data= #[c]:=by rw [<-Array.toArray_toList (xs:=p0.data),e0]
  cases p0;simp_all
 subst hp0
 have d1:(((⟨#[c]⟩:ByteArray).size:Int) !=1)=false:=rfl
 have k0:∀o,(w1.alloc o).cell? ⟨g,0,none⟩=some (.string ⟨#[c]⟩):=fun o=>cellLater ((vu _ _).alloc zg o) (hc 0 _ rfl)
 have k1:∀o,(w1.alloc o).cell? ⟨g,1,none⟩=some (.string p1):=fun o=>cellLater ((vu _ _).alloc zg o) (hc 1 _ rfl)
 have k2:∀o,(w1.alloc o).cell? ⟨g,2,none⟩=some (.string p2):=fun o=>cellLater ((vu _ _).alloc zg o) (hc 2 _ rfl)
 have k3:∀o,(w1.alloc o).cell? ⟨g,3,none⟩=some (.string p3):=fun o=>cellLater ((vu _ _).alloc zg o) (hc 3 _ rfl)
 have k4:∀o,(w1.alloc o).cell? ⟨g,4,none⟩=some (.string p4):=fun o=>cellLater ((vu _ _).alloc zg o) (hc 4 _ rfl)
 have k5:∀o,(w1.alloc o).cell? ⟨g,5,none⟩=some (.string p5):=fun o=>cellLater ((vu _ _).alloc zg o) (hc 5 _ rfl)
 have k6:∀o,(w1.alloc o).cell? ⟨g,6,none⟩=some (.string p6):=fun o=>cellLater ((vu _ _).alloc zg o) (hc 6 _ rfl)
 have k7:∀o,(w1.alloc o).cell? ⟨g,7,none⟩=some (.string p7):=fun o=>cellLater ((vu _ _).alloc zg o) (hc 7 _ rfl)
 have k0b:=hc 0 _ rfl
 have C:=fun o=>R1.later ((vu _ _).alloc zg o)
 have c0:=fun o=>(C o).z.c0
 have c1:=fun o=>(C o).z.c1
 have c2:=fun o=>(C o).z.c2
 have c3:=fun o=>(C o).z.c3
 have c4:=fun o=>(C o).z.c4
 have c5:=fun o=>(C o).z.c5
 have c6:=fun o=>(C o).z.c6
 have c7:=fun o=>(C o).z.c7
 have f0:=fun o=>(C o).f0
 have f1:=fun o=>(C o).f1
 have f2:=fun o=>(C o).f2
 have f3:=fun o=>(C o).f3
 have f4:=fun o=>(C o).f4
 have f5:=fun o=>(C o).f5
 have f6:=fun o=>(C o).f6
 have f7:=fun o=>(C o).f7
 have BB:=fun o=>(C o).b
 have HB:=Lib.hid BB
 have ne1:¬w1.heap.size=w.heap.size:=by have:=R1.lt;omega
 have ne2:w.heap.size≠w1.heap.size:=zj
 have ne3:w.heap.size≠g:=by simp at hg;omega
 subst e1 e2 e3 e4 e5 e6 e7
 clear hb R0 HM hc h4e h4n hcap hP hg e0 H8 C BB hl0
 go_wp2
 refine wp_loop_rounds 6 ?_
 rw [rounds_succ];go_wp2_with fail
 cases hN1:numN 10 p1.data.toList with
 | none=>
  have HE:Hid (R=none):=Lib.hid (by rw [HR.o,numsP];simp only [hN1])
  refine (readN_none p1 _ hN1).mono ?_
  rintro e w' ⟨rfl,hw⟩
  subst hw
  clear hN1
  go_wp2
  refine bodyPost_ret (v:=.tuple #[.agg #[.int .i64 0,.int .i64 0,.int .i64 0,.int .u8 0,.int .i64 0,.int .i64 0,.string ⟨#[]⟩,.string ⟨#[]⟩],.bool false]) zH rfl ⟨by rw [HE.o];rfl,?_⟩
  exact ((((((((HB.o _).setCell zm _).setCell zm _).setCell zm _).setCell zm _).setCell zm _).setCell zm _).setCell zm _).setCell zm _
 | some n1=>
  have b1:=numN_bound _ _ _ hN1
  refine (readN_some p1 n1 _ hN1).mono ?_
  rintro e w' ⟨rfl,hw⟩
  subst hw
  go_wp2
  rw [rounds_succ];go_wp2_with fail
  cases hN2:numN 10 p2.data.toList with
  | none=>
   have HE:Hid (R=none):=Lib.hid (by rw [HR.o,numsP];simp only [hN1,hN2])
   refine (readN_none p2 _ hN2).mono ?_
   rintro e w' ⟨rfl,hw⟩
   subst hw
   clear hN1 hN2
   go_wp2
   refine bodyPost_ret (v:=.tuple #[.agg #[.int .i64 0,.int .i64 0,.int .i64 0,.int .u8 0,.int .i64 0,.int .i64 0,.string ⟨#[]⟩,.string ⟨#[]⟩],.bool false]) zH rfl ⟨by rw [HE.o];rfl,?_⟩
   exact ((((((((HB.o _).setCell zm _).setCell zm _).setCell zm _).setCell zm _).setCell zm _).setCell zm _).setCell zm _).setCell zm _
  | some n2=>
   have b2:=numN_bound _ _ _ hN2
   refine (readN_some p2 n2 _ hN2).mono ?_
   rintro e w' ⟨rfl,hw⟩
   subst hw
   go_wp2
   rw [rounds_succ];go_wp2_with fail
   cases hN3:numN 10 p3.data.toList with
   | none=>
    have HE:Hid (R=none):=Lib.hid (by rw [HR.o,numsP];simp only [hN1,hN2,hN3])
    refine (readN_none p3 _ hN3).mono ?_
    rintro e w' ⟨rfl,hw⟩
    subst hw
    clear hN1 hN2 hN3
    go_wp2
    refine bodyPost_ret (v:=.tuple #[.agg #[.int .i64 0,.int .i64 0,.int .i64 0,.int .u8 0,.int .i64 0,.int .i64 0,.string ⟨#[]⟩,.string ⟨#[]⟩],.bool false]) zH rfl ⟨by rw [HE.o];rfl,?_⟩
    exact ((((((((HB.o _).setCell zm _).setCell zm _).setCell zm _).setCell zm _).setCell zm _).setCell zm _).setCell zm _).setCell zm _
   | some n3=>
    have b3:=numN_bound _ _ _ hN3
    refine (readN_some p3 n3 _ hN3).mono ?_
    rintro e w' ⟨rfl,hw⟩
    subst hw
    go_wp2
    rw [rounds_succ];go_wp2_with fail
    cases hN4:numN 10 p4.data.toList with
    | none=>
     have HE:Hid (R=none):=Lib.hid (by rw [HR.o,numsP];simp only [hN1,hN2,hN3,hN4])
     refine (readN_none p4 _ hN4).mono ?_
     rintro e w' ⟨rfl,hw⟩
     subst hw
     clear hN1 hN2 hN3 hN4
     go_wp2
     refine bodyPost_ret (v:=.tuple #[.agg #[.int .i64 0,.int .i64 0,.int .i64 0,.int .u8 0,.int .i64 0,.int .i64 0,.string ⟨#[]⟩,.string ⟨#[]⟩],.bool false]) zH rfl ⟨by rw [HE.o];rfl,?_⟩
     exact ((((((((HB.o _).setCell zm _).setCell zm _).setCell zm _).setCell zm _).setCell zm _).setCell zm _).setCell zm _).setCell zm _
    | some n4=>
     have b4:=numN_bound _ _ _ hN4
     refine (readN_some p4 n4 _ hN4).mono ?_
     rintro e w' ⟨rfl,hw⟩
     subst hw
     go_wp2
     rw [rounds_succ];go_wp2_with fail
     cases hN5:numN 10 p5.data.toList with
     | none=>
      have HE:Hid (R=none):=Lib.hid (by rw [HR.o,numsP];simp only [hN1,hN2,hN3,hN4,hN5])
      refine (readN_none p5 _ hN5).mono ?_
      rintro e w' ⟨rfl,hw⟩
      subst hw
      clear hN1 hN2 hN3 hN4 hN5
      go_wp2
      refine bodyPost_ret (v:=.tuple #[.agg #[.int .i64 0,.int .i64 0,.int .i64 0,.int .u8 0,.int .i64 0,.int .i64 0,.string ⟨#[]⟩,.string ⟨#[]⟩],.bool false]) zH rfl ⟨by rw [HE.o];rfl,?_⟩
      exact ((((((((HB.o _).setCell zm _).setCell zm _).setCell zm _).setCell zm _).setCell zm _).setCell zm _).setCell zm _).setCell zm _
     | some n5=>
      have b5:=numN_bound _ _ _ hN5
      refine (readN_some p5 n5 _ hN5).mono ?_
      rintro e w' ⟨rfl,hw⟩
      subst hw
      go_wp2
      rw [rounds_succ];go_wp2_with fail
      have R2:ResO w (w1.alloc (.cells #[.int .i64 (n1:Int),.int .i64 (n2:Int),.int .i64 (n3:Int),.int .i64 (n4:Int),.int .i64 (n5:Int)] 330)):=R1.later (zh _ _)
      have m0:(w1.alloc (.cells #[.int .i64 (n1:Int),.int .i64 (n2:Int),.int .i64 (n3:Int),.int .i64 (n4:Int),.int .i64 (n5:Int)] 330)).cell? ⟨w1.heap.size,0,none⟩=some (.int .i64 (n1:Int)):=ye
      have m1:(w1.alloc (.cells #[.int .i64 (n1:Int),.int .i64 (n2:Int),.int .i64 (n3:Int),.int .i64 (n4:Int),.int .i64 (n5:Int)] 330)).cell? ⟨w1.heap.size,1,none⟩=some (.int .i64 (n2:Int)):=ye
      have m2:(w1.alloc (.cells #[.int .i64 (n1:Int),.int .i64 (n2:Int),.int .i64 (n3:Int),.int .i64 (n4:Int),.int .i64 (n5:Int)] 330)).cell? ⟨w1.heap.size,2,none⟩=some (.int .i64 (n3:Int)):=ye
      have m3:(w1.alloc (.cells #[.int .i64 (n1:Int),.int .i64 (n2:Int),.int .i64 (n3:Int),.int .i64 (n4:Int),.int .i64 (n5:Int)] 330)).cell? ⟨w1.heap.size,3,none⟩=some (.int .i64 (n4:Int)):=ye
      have m4:(w1.alloc (.cells #[.int .i64 (n1:Int),.int .i64 (n2:Int),.int .i64 (n3:Int),.int .i64 (n4:Int),.int .i64 (n5:Int)] 330)).cell? ⟨w1.heap.size,4,none⟩=some (.int .i64 (n5:Int)):=ye
      have j0:=k0 (.cells #[.int .i64 (n1:Int),.int .i64 (n2:Int),.int .i64 (n3:Int),.int .i64 (n4:Int),.int .i64 (n5:Int)] 330)
      have j6:=k6 (.cells #[.int .i64 (n1:Int),.int .i64 (n2:Int),.int .i64 (n3:Int),.int .i64 (n4:Int),.int .i64 (n5:Int)] 330)
      clear k0 k1 k2 k3 k4 k5 k6 k7 k0b c0 c1 c2 c3 c4 c5 c6 c7 f0 f1 f2 f3 f4 f5 f6 f7 HB
      generalize w1.alloc (.cells #[.int .i64 (n1:Int),.int .i64 (n2:Int),.int .i64 (n3:Int),.int .i64 (n4:Int),.int .i64 (n5:Int)] 330)=w2 at R2 m0 m1 m2 m3 m4 j0 j6 |-
      cases hX:unhexL p7.data.toList with
      | none=>
       have HE:Hid (R=none):=Lib.hid xD
       refine (hex_none p7 _ hl7 hX).mono ?_
       rintro e w3 ⟨rfl,hb⟩
       have R3:=R2.later hb
       clear hb R1 R2 m0 m1 m2 m3 m4 j0 j6 hX hN1 hN2 hN3 hN4 hN5
       obtain ⟨⟨c0,c1,c2,c3,c4,c5,c6,c7⟩,f0,f1,f2,f3,f4,f5,f6,f7,B1⟩:=R3
       go_wp2
       refine bodyPost_ret (v:=.tuple #[.agg #[.int .i64 0,.int .i64 0,.int .i64 0,.int .u8 0,.int .i64 0,.int .i64 0,.string ⟨#[]⟩,.string ⟨#[]⟩],.bool false]) zH rfl ⟨by rw [HE.o];rfl,?_⟩
       exact (((((((B1.setCell zm _).setCell zm _).setCell zm _).setCell zm _).setCell zm _).setCell zm _).setCell zm _).setCell zm _
      | some v=>
       have HE:Hid (R=some (c,n1,n2,n3,n4,n5,p6.data.toList,v)):=Lib.hid xD
       refine (hex_some p7 v _ hl7 hX).mono ?_
       rintro e w3 ⟨rfl,hb⟩
       have R3:=R2.later hb
       have g0:=cellLater hb m0
       have g1:=cellLater hb m1
       have g2:=cellLater hb m2
       have g3:=cellLater hb m3
       have g4:=cellLater hb m4
       have i0:=cellLater hb j0
       have i6:=cellLater hb j6
       clear hb R1 R2 m0 m1 m2 m3 m4 j0 j6 hX hN1 hN2 hN3 hN4 hN5
       obtain ⟨⟨c0,c1,c2,c3,c4,c5,c6,c7⟩,f0,f1,f2,f3,f4,f5,f6,f7,B1⟩:=R3
       generalize w1.heap.size=kn at ne1 ne2 g0 g1 g2 g3 g4 |-
       have h0:PrtR kn g n1 n2 n3 n4 n5 c p6 w3:=⟨g0,g1,g2,g3,g4,i0,i6⟩
       have hidx:∀w,(Instr.index 9 (.string ⟨#[c]⟩) (.int .i64 0)).run Tryz.prog w= .ok (.int .u8 (c.toNat:Int)) w:=fun _=>zk
       clear d1 hl7 b1 b2 b3 b4 b5
       go_wp2_with fail
       go_region_held3 (fun w'=>w'.cell? ⟨kn,0,none⟩=some (.int .i64 (n1:Int))/\w'.cell? ⟨kn,1,none⟩=some (.int .i64 (n2:Int))/\w'.cell? ⟨kn,2,none⟩=some (.int .i64 (n3:Int))/\w'.cell? ⟨kn,3,none⟩=some (.int .i64 (n4:Int))/\w'.cell? ⟨kn,4,none⟩=some (.int .i64 (n5:Int))/\w'.cell? ⟨g,0,none⟩=some (.string ⟨#[c]⟩)/\w'.cell? ⟨g,6,none⟩=some (.string p6))
        (first
         | with_reducible assumption
         | with_reducible exact PrtR.drew h0
         | with_reducible exact PrtR.drew (PrtR.set8 ne2 ne3 h0)
         | with_reducible exact PrtR.set8 ne2 ne3 (PrtR.drew h0))
        (fail)
       all_goals go_wp2
       all_goals
        refine bodyPost_ret (v:=.tuple #[.agg #[.int .i64 (n1:Int),.int .i64 (n2:Int),.int .i64 (n3:Int),.int .u8 (c.toNat:Int),.int .i64 (n4:Int),.int .i64 (n5:Int),.string p6,.string ⟨v.toArray⟩],.bool true]) zH rfl ⟨by rw [HE.o];rfl,?_⟩
        exact ((((((((B1.setCell zm _).setCell zm _).setCell zm _).setCell zm _).setCell zm _).setCell zm _).setCell zm _).setCell zm _).drew
