import Derived.Test.YtjclejjkganhfaaGreatDoorSR02
import Derived.Test.YtjclejjkganhfaaGreatDoorSR04
import Derived.Carry
import Derived.Laws.IdiomRangeMap
set_option linter.unusedSimpArgs false
set_option linter.unusedVariables false
set_option maxRecDepth 100000
set_option maxHeartbeats 64000000
namespace Go.Proofs.YtjclejjkganhfaaGreatDoor
open Go.Proofs.Tryz
section
open RowKit Maps
structure aac (lo:Nat) (w0 w:qW) (S p n:Nat) (l:Tbl):Prop where
 tbl:J3 lo w p S n l
 m8:Below S w0 w
theorem aac.later{lo}{w0 w w'}{S p n}{l}(h:aac lo w0 w S p n l)(hb:qL w w'):aac lo w0 w' S p n l:=
 ⟨h.tbl.later hb,h.m8.trans (hb.mono (Ys h.tbl.lt))⟩
theorem aac.put{lo}{w0 w w1}{S p n}{l}(h:aac lo w0 w S p n l)(hb:qL w w1)(hn:n<1000)(s)(hs:s.size<=1000)(x)(c)(hc:Q5 lo w1 p x c):
  ∃w',(Instr.mapUpdate 47 (.map (some S)) (.string s) (tW c)).run prog w1= .ok () w'/\Aside (aac lo w0 w' S p (n+1) ((s.data.toList,x)::l)):=by
 have h:=h.later hb;obtain ⟨w',hr,hT,ht⟩:=h.tbl.store hn s hs x c hc;exact ⟨w',hr,hT,h.m8.trans ((uM _ w1).grown ht.grown (Ys h.tbl.lt) zL)⟩
theorem Vq{lo}{w0 w w1}{S s p n}{l}{t}{cs}{wx}(b)(h0:s<=w0.heap.size/\p8 w0 b t cs/\Below s wx w0)(h:aac lo w0 w S p n l)(hS:w0.heap.size=S)(hb:qL w w1):p8 w1 b t cs:=
 have q:p8 w b t cs:=h0.2.1.later h.m8 zM
 q.later hb q.lt
def rW:Tbl:=[([109,97,114,107],(0,⟨#[68,78,87,87]⟩,36)),([101,114,97,115,101],(0,⟨#[68,78,78]⟩,35)),([119,114,105,116,101],(0,⟨#[68,78,78,76]⟩,34)),([109,111,118,101],(1,⟨#[68,78,78,87]⟩,33)),([109,97,107,101],(0,⟨#[68,78,87]⟩,31))]
def pM:Tbl:=[([102,108,121],(3,⟨#[]⟩,53)),([99,97,108,109],(3,⟨#[]⟩,50)),([98,111,111,116],(2,⟨#[68]⟩,48)),([99,117,116],(2,⟨#[68,78]⟩,46)),([116,119,105,99,101],(2,⟨#[78]⟩,44)),([100,114,111,112],(2,⟨#[78]⟩,42)),([103,111],(2,⟨#[78]⟩,40)),([97,115,107],(2,⟨#[68,68]⟩,38))]
def wG:Tbl:=[([118,101,99,116,111,114],(4,⟨#[68]⟩,65)),([112,97,116,104],(4,⟨#[68,78]⟩,63)),([102,105,110,100],(4,⟨#[68,80]⟩,61)),([108,105,115,116],(4,⟨#[68,78]⟩,59)),([115,116,97,116,101],(4,⟨#[68]⟩,57))]
theorem JT(w)(lo p)(bC:lo<=w.heap.size):Calls prog 20 #[ptB p] w fun e w'=>∃S,w.heap.size<=S/\e= .returned (.map (some S))/\Aside (J3 lo w' p S 5 rW/\Below w.heap.size w w'):=by
 have jG:= @run_makeMap prog;unfold ptB;go_enter func20,ntmps20;go_wp2_with fail
 have T0:Aside (aac lo w (w.alloc (.map #[] 0)) w.heap.size p 0 []):=⟨AJ w p,zh w _⟩
 obtain ⟨S,hS⟩:∃S,Aside (w.heap.size=S):=⟨_,rfl⟩
 rw [hS.o] at T0 |-
 generalize w.alloc (.map #[] 0)=W0 at T0 |-
 refine (rV _ p _ _).mono ?_;rintro e V0 ⟨rfl,k0,k1,hb⟩;obtain ⟨W1,hr,T1⟩:=T0.o.put hb zj ⟨#[109,97,107,101]⟩ zo (0,⟨#[68,78,87]⟩,31) _ ⟨_,_,rfl,⟨ql,k0⟩,⟨ql,k1⟩⟩;clear T0 hb k0 k1;go_wp2_with fail;clear hr;refine (rV _ p _ _).mono ?_;rintro e V1 ⟨rfl,k0,k1,hb⟩;go_wp2_with fail;refine (EF _ _ _ _).mono ?_;rintro e X1 ⟨rfl,k2,hb2⟩;obtain ⟨W2,hr,T2⟩:=T1.o.put (zi hb hb2) zj ⟨#[109,111,118,101]⟩ zo (1,⟨#[68,78,78,87]⟩,33) _ ⟨_,_,_,rfl,⟨by have:=T1.o.m8.size;have:=hb.size;omega,k2⟩,⟨qh,k0.later hb2 k0.lt⟩,⟨qh,k1.later hb2 k1.lt⟩⟩;clear T1 hb hb2 k0 k1 k2;go_wp2_with fail;clear hr;refine (rV _ p _ _).mono ?_;rintro e V2 ⟨rfl,k0,k1,hb⟩;obtain ⟨W3,hr,T3⟩:=T2.o.put hb zj ⟨#[119,114,105,116,101]⟩ zo (0,⟨#[68,78,78,76]⟩,34) _ ⟨_,_,rfl,⟨qm,k0⟩,⟨qm,k1⟩⟩;clear T2 hb k0 k1;go_wp2_with fail;clear hr;refine (rV _ p _ _).mono ?_;rintro e V3 ⟨rfl,k0,k1,hb⟩;obtain ⟨W4,hr,T4⟩:=T3.o.put hb zj ⟨#[101,114,97,115,101]⟩ zo (0,⟨#[68,78,78]⟩,35) _ ⟨_,_,rfl,⟨qi,k0⟩,⟨qi,k1⟩⟩;clear T3 hb k0 k1;go_wp2_with fail;clear hr;refine (rV _ p _ _).mono ?_;rintro e V4 ⟨rfl,k0,k1,hb⟩;obtain ⟨W5,hr,T5⟩:=T4.o.put hb zj ⟨#[109,97,114,107]⟩ zo (0,⟨#[68,78,87,87]⟩,36) _ ⟨_,_,rfl,⟨qj,k0⟩,⟨qj,k1⟩⟩;exact ki5
theorem GO(w)(lo p)(bC:lo<=w.heap.size):Calls prog 22 #[ptB p] w fun e w'=>∃S,w.heap.size<=S/\e= .returned (.map (some S))/\Aside (J3 lo w' p S 8 pM/\Below w.heap.size w w'):=by
 have jG:= @run_makeMap prog
 have U:Aside (p8 (w.alloc (.cells [ptB p].toArray 44)) w.heap.size 44 [ptB p]/\Below w.heap.size w (w.alloc (.cells [ptB p].toArray 44))/\(w.alloc (.cells [ptB p].toArray 44)).heap.size=w.heap.size+1):=⟨mq w _ _,zh w _,zr⟩
 unfold ptB at*;go_enter func22,ntmps22;go_wp2_with fail
 obtain ⟨s,hs⟩:∃s,Aside (w.heap.size=s):=⟨_,rfl⟩
 generalize (w.alloc (.cells #[.pointer (some ⟨p,0,none⟩)] 44))=w0 at U |-
 rw [hs.o] at U |-
 have B0:Aside (s<=w0.heap.size/\p8 w0 s 44 [ptB p]/\Below s w w0):=⟨Ys U.o.1.lt,U.o.1,U.o.2.1⟩
 have hS:Aside (w0.heap.size=s+1):=U.o.2.2
 have T0:Aside (aac lo w0 (w0.alloc (.map #[] 0)) w0.heap.size p 0 []):=⟨AJ w0 p,zh w0 _⟩
 rw [hS.o] at T0;clear U
 generalize w0.alloc (.map #[] 0)=W0 at T0 |-
 refine (oL _ _ s _).mono ?_;rintro e V0 ⟨rfl,k0,hb⟩;obtain ⟨W1,hr,T1⟩:=T0.o.put hb zj ⟨#[97,115,107]⟩ zo (2,⟨#[68,68]⟩,38) _ ⟨s,_,rfl,⟨by have:=T0.o.m8.size;have:=hs.o;have:=hS.o;omega,k0⟩,⟨yA,Vq _ B0.o T0.o hS.o hb⟩⟩;clear T0 hb k0;go_wp2_with fail;clear hr;refine (oL _ _ s _).mono ?_;rintro e V1 ⟨rfl,k0,hb⟩;obtain ⟨W2,hr,T2⟩:=T1.o.put hb zj ⟨#[103,111]⟩ zo (2,⟨#[78]⟩,40) _ ⟨s,_,rfl,⟨by have:=T1.o.m8.size;have:=hs.o;have:=hS.o;omega,k0⟩,⟨yA,Vq _ B0.o T1.o hS.o hb⟩⟩;clear T1 hb k0;go_wp2_with fail;clear hr;refine (oL _ _ s _).mono ?_;rintro e V2 ⟨rfl,k0,hb⟩;obtain ⟨W3,hr,T3⟩:=T2.o.put hb zj ⟨#[100,114,111,112]⟩ zo (2,⟨#[78]⟩,42) _ ⟨s,_,rfl,⟨by have:=T2.o.m8.size;have:=hs.o;have:=hS.o;omega,k0⟩,⟨yA,Vq _ B0.o T2.o hS.o hb⟩⟩;clear T2 hb k0;go_wp2_with fail;clear hr;refine (oL _ _ s _).mono ?_;rintro e V3 ⟨rfl,k0,hb⟩;obtain ⟨W4,hr,T4⟩:=T3.o.put hb zj ⟨#[116,119,105,99,101]⟩ zo (2,⟨#[78]⟩,44) _ ⟨s,_,rfl,⟨by have:=T3.o.m8.size;have:=hs.o;have:=hS.o;omega,k0⟩,⟨yA,Vq _ B0.o T3.o hS.o hb⟩⟩;clear T3 hb k0;go_wp2_with fail;clear hr;refine (oL _ _ s _).mono ?_;rintro e V4 ⟨rfl,k0,hb⟩;obtain ⟨W5,hr,T5⟩:=T4.o.put hb zj ⟨#[99,117,116]⟩ zo (2,⟨#[68,78]⟩,46) _ ⟨s,_,rfl,⟨by have:=T4.o.m8.size;have:=hs.o;have:=hS.o;omega,k0⟩,⟨yA,Vq _ B0.o T4.o hS.o hb⟩⟩;clear T4 hb k0;go_wp2_with fail;clear hr;refine (oL _ _ s _).mono ?_;rintro e V5 ⟨rfl,k0,hb⟩;obtain ⟨W6,hr,T6⟩:=T5.o.put hb zj ⟨#[98,111,111,116]⟩ zo (2,⟨#[68]⟩,48) _ ⟨s,_,rfl,⟨by have:=T5.o.m8.size;have:=hs.o;have:=hS.o;omega,k0⟩,⟨yA,Vq _ B0.o T5.o hS.o hb⟩⟩;clear T5 hb k0;go_wp2_with fail;clear hr;obtain ⟨W7,hr,T7⟩:=T6.o.put (uM _ _) zj ⟨#[99,97,108,109]⟩ zo (3,⟨#[]⟩,50) _ ⟨s,rfl,⟨yA,Vq _ B0.o T6.o hS.o (uM _ _)⟩⟩;clear T6;replace hr:(Instr.mapUpdate 47 (.map (some (s+1))) (.string ⟨#[99,97,108,109]⟩) (.agg #[.string ⟨#[]⟩,.func (.func 50) #[] #[.pointer (some ⟨s,0,none⟩)]])).run prog W6= .ok () W7:=hr;go_wp2_with fail;clear hr
 obtain ⟨W8,hr,T8⟩:=T7.o.put (uM _ _) zj ⟨#[102,108,121]⟩ zo (3,⟨#[]⟩,53) _ ⟨s,rfl,⟨yA,Vq _ B0.o T7.o hS.o (uM _ _)⟩⟩;clear T7;replace hr:(Instr.mapUpdate 47 (.map (some (s+1))) (.string ⟨#[102,108,121]⟩) (.agg #[.string ⟨#[]⟩,.func (.func 53) #[] #[.pointer (some ⟨s,0,none⟩)]])).run prog W7= .ok () W8:=hr;go_wp2_with fail;clear hr;go_wp2;go_ret;exact ⟨s+1,yA,rfl,T8.o.tbl,by rw [hs.o];exact B0.o.2.2.trans (T8.o.m8.mono (Nat.le_succ s))⟩
theorem Ps(w)(lo p)(bC:lo<=w.heap.size):Calls prog 23 #[ptB p] w fun e w'=>∃S,w.heap.size<=S/\e= .returned (.map (some S))/\Aside (J3 lo w' p S 5 wG/\Below w.heap.size w w'):=by
 have jG:= @run_makeMap prog;unfold ptB;go_enter func23,ntmps23;go_wp2_with fail
 have T0:Aside (aac lo w (w.alloc (.map #[] 0)) w.heap.size p 0 []):=⟨AJ w p,zh w _⟩
 obtain ⟨S,hS⟩:∃S,Aside (w.heap.size=S):=⟨_,rfl⟩
 rw [hS.o] at T0 |-
 generalize w.alloc (.map #[] 0)=W0 at T0 |-
 refine (th _ p _ _).mono ?_;rintro e V0 ⟨rfl,k0,k1,hb⟩;obtain ⟨W1,hr,T1⟩:=T0.o.put hb zj ⟨#[115,116,97,116,101]⟩ zo (4,⟨#[68]⟩,57) _ ⟨_,_,rfl,⟨ql,k0⟩,⟨ql,k1⟩⟩;clear T0 hb k0 k1;go_wp2_with fail;clear hr;refine (th _ p _ _).mono ?_;rintro e V1 ⟨rfl,k0,k1,hb⟩;obtain ⟨W2,hr,T2⟩:=T1.o.put hb zj ⟨#[108,105,115,116]⟩ zo (4,⟨#[68,78]⟩,59) _ ⟨_,_,rfl,⟨qh,k0⟩,⟨qh,k1⟩⟩;clear T1 hb k0 k1;go_wp2_with fail;clear hr;refine (th _ p _ _).mono ?_;rintro e V2 ⟨rfl,k0,k1,hb⟩;obtain ⟨W3,hr,T3⟩:=T2.o.put hb zj ⟨#[102,105,110,100]⟩ zo (4,⟨#[68,80]⟩,61) _ ⟨_,_,rfl,⟨qm,k0⟩,⟨qm,k1⟩⟩;clear T2 hb k0 k1;go_wp2_with fail;clear hr;refine (th _ p _ _).mono ?_;rintro e V3 ⟨rfl,k0,k1,hb⟩;obtain ⟨W4,hr,T4⟩:=T3.o.put hb zj ⟨#[112,97,116,104]⟩ zo (4,⟨#[68,78]⟩,63) _ ⟨_,_,rfl,⟨qi,k0⟩,⟨qi,k1⟩⟩;clear T3 hb k0 k1;go_wp2_with fail;clear hr;refine (th _ p _ _).mono ?_;rintro e V4 ⟨rfl,k0,k1,hb⟩;obtain ⟨W5,hr,T5⟩:=T4.o.put hb zj ⟨#[118,101,99,116,111,114]⟩ zo (4,⟨#[68]⟩,65) _ ⟨_,_,rfl,⟨qj,k0⟩,⟨qj,k1⟩⟩;exact ki5
def orM(f g:Vk):Vk:=fun s=>(f s).or (g s)
def Bt(f g:Vk)(left:Lit->Bool):Vk:=fun s=>if left (.string s) then g s else (f s).or (g s)
theorem JN{D}{f}(g)(hr:M5 D f)(hg:WE f):Bt f g (has D)=g:=by
 funext s;unfold Bt;split
 ·rfl
 rename_i h
 cases hf:f s with
 | none=>rfl
 | some c=>exact absurd (by rw [hr.has (hg s c hf),hf];rfl) h
theorem QT{f g}{left}(h:∀k,left k=false):Bt f g left=orM f g:=by
 funext s;unfold Bt;rw [if_neg (by rw [h];simp)];rfl
theorem Kf{f g}{left}{k}{c}(hf:f k=some c):(fun x=>if x=k then some c else Bt f g left x)=Bt f g (fun z=>left z && !z.sameKey (.string k)):=by
 funext x;by_cases e:x=k
 ·subst e;rw [if_pos rfl];unfold Bt;simp [WideAt.sameKey_self (show WideAt.IsKeyLit (.string x) from trivial),hf]
 simp_all [if_neg,Bt,sameKey_ne,Np]
theorem M5.got{D}{f}(h:M5 D f){k}(hk:Mj k){c}(aN:∀z,D.atKey (.string k) z=Kn c):f k=some c:=by
 have h1:=h.has hk;rw [has_true_of_atKey aN] at h1
 cases hf:f k with
 | none=>rw [hf] at h1;cases h1
 | some d=>rw [Et ((h.held hk hf (.agg [])).symm.trans (aN (.agg [])))]
theorem Ud(w)(b1 b2 n1 n2)(f1 f2)(h1:F2 w b1 n1 f1)(h2:F2 w b2 n2 f2)(hne:b1≠b2)(hn:n1+n2<1000)(hq:∀s c,f2 s=some c->∃q,c.2=some q):
  qC 21 #[.map (some b1),.map (some b2)] w fun e w'=>e=qT #[]/\F2 w' b1 (n1+n2) (orM f2 f1)/\w.grownBy w' (some b1):=by
 obtain ⟨⟨D,hown,hr⟩,hg⟩:=h2;have bO:=hown.size_le;have l1:=h1.lt;have l2:=hown.lt;have H:Aside (F2 w b1 n1 f1):=h1;go_enter func21,ntmps21
 go_wp2_with (first
  | (at_range;refine wpList_range_own _ rfl _ 47 rfl 9 63 zcq underlying47 _ b2 n2 D rfl hown ?_;intro w0 dD hg0 fq)
  | go_in)
 go_frame;obtain ⟨r,jB⟩:=ze w.heap.size
 rw [<-jB.o] at dD |-
 have H0:Aside (w0.ranges prog 9 PR b2 r n2 D (has D) (size D)/\F2 w0 b1 n1 f1/\w.grownBy w0 none/\M5 D f2/\WE f2/\b1<r/\b2<r/\size D<=n2):=by
  refine ⟨dD,H.o.same (hg0.block b1 l1 zr),hg0,hr,hg,xR,xR,bO⟩
 go_loopw [8] (fun _ wr=>∃(left:Lit->Bool) (eZ m:Nat),Aside (wr.ranges prog 9 PR b2 r n2 D left eZ/\F2 wr b1 m (Bt f2 f1 left)/\m+eZ<=n1+n2/\w.grownBy wr (some b1)))
  (fun _ wr=>wr.rangeLeft b2 r)
 case atStart=>
  refine ⟨_,_,n1,H0.o.1,?_,?_,H0.o.2.2.1.but _⟩
  ·rw [JN _ H0.o.2.2.2.1 H0.o.2.2.2.2.1];exact H0.o.2.1
  have:=H0.o.2.2.2.2.2.2.2;omega
 case round=>
  obtain ⟨left,eZ,m,A2⟩:=hrel;obtain ⟨u2,hu2⟩:=za wr;subst hu2;have fW:=A2.o.1
  go_wp2_with (first
   | (at_next;refine wpList_next_ranges _ rfl _ rfl 9 zcq PR (fun s:ByteArray=>.string s) tW (fun Y9 kl hk=>by obtain ⟨x,hx,_⟩:=Jj hk;exact ⟨x,hx⟩) (fun v y hv=>by obtain ⟨c,rfl,_⟩:=Eg hv;exact ⟨c,rfl⟩) b2 r n2 _ _ _ rfl fW ?_ ?_)
   | go_in)
  ·intro fj cP
   have hE:Aside (F2 u2 b1 (n1+n2) (orM f2 f1)/\w.grownBy u2 (some b1)):=by
    have h:=A2.o.2.1;rw [QT cP] at h;exact ⟨h.mono vg,A2.o.2.2.2⟩
   go_wp2;go_end0;exact ⟨rfl,hE.o⟩
  intro s form o kl yd yp w2 bu dZ bT hv aN dC iv hg2 aJ iI;obtain ⟨s',es,rfl,hsz⟩:=Jj dZ
  obtain rfl:s=s':=by cases es;rfl
  obtain ⟨c',ec,ez⟩:=Eg hv;obtain rfl:(form,o)=c':=TV ec;obtain rfl:yd=Kn (form,o):=(Prod.mk.inj ez).1
  have bG:Mj s.data.toList:=by unfold Mj;simpa using hsz
  have hf:=H0.o.2.2.2.1.got bG aN;obtain ⟨⟨fn,bs⟩,rfl⟩:∃q,o=some q:=hq _ _ hf
  unfold tW at iI |-
  dsimp only at iI |-
  generalize hcs:(bs.map ptB).toArray=cs at iI |-
  have HC:Aside _:=hcs;go_upto_region 3 with fail
  obtain ⟨S,hS⟩:∃S,Aside (w2.heap.size=S):=⟨_,rfl⟩
  rw [<-aJ,hS.o]
  have K3:Aside (p8 (w2.alloc (.cells #[.string form,.func (.func fn) #[] cs] 63)) S 63 [.string form,.func (.func fn) #[] cs]):=by rw [<-hS.o];exact mq w2 _ _
  have hg3:=hg2.andThen (YI w2 (.cells #[.string form,.func (.func fn) #[] cs] 63) none) zr
  have M3:Aside (F2 (w2.alloc (.cells #[.string form,.func (.func fn) #[] cs] 63)) b1 m (Bt f2 f1 left)/\(w2.alloc (.cells #[.string form,.func (.func fn) #[] cs] 63)).ranges prog 9 PR b2 r n2 D (fun z=>left z && !z.sameKey (.string s.data.toList)) bu/\w.grownBy (w2.alloc (.cells #[.string form,.func (.func fn) #[] cs] 63)) (some b1)):=by
   refine ⟨A2.o.2.1.same (hg3.block b1 A2.o.2.1.lt (by have:=H0.o.2.2.2.2.2.1;simp;omega)),dC.alloc _,A2.o.2.2.2.andThen hg3 ?_⟩;intro j hj
   cases hj
   exact .inl xR
  generalize w2.alloc (.cells #[.string form,.func (.func fn) #[] cs] 63)=W3 at K3 M3 |-
  have g0:=K3.o.cell 0;have g1:=K3.o.cell 1;simp only [uZ,Zb] at g0 g1;obtain ⟨w4,ae,M4,ht⟩:=M3.o.1.store vg s hsz (form,some (fn,bs));rw [Kf hf] at M4
  have hm:w4.rangeLeft b2 r<u2.rangeLeft b2 r:=by
   rw [(M3.o.2.1.kept ht.grown zm uy).left_eq,fW.left_eq];exact iv
  have J4:Aside (w4.ranges prog 9 PR b2 r n2 D (fun z=>left z && !z.sameKey (.string s.data.toList)) bu/\F2 w4 b1 (m+1) (Bt f2 f1 (fun z=>left z && !z.sameKey (.string s.data.toList)))/\m+1+bu<=n1+n2/\w.grownBy w4 (some b1)):=
   ⟨M3.o.2.1.kept ht.grown zm uy,M4,vg,M3.o.2.2.andThen ht.grown (by intro j hj;exact .inr hj)⟩
  unfold tW at ae;dsimp only at ae;rw [HC.o] at ae;go_wp2;exact ⟨⟨_,_,_,J4⟩,hm⟩
theorem DY(s)(l1):∀l2:Tbl,(l2++l1).lookup s=(l2.lookup s).or (l1.lookup s)
 | []=>rfl
 | (k,x)::l2=>by
  grind
theorem Q5.has{lo}{w}{p}{x}{c}(h:Q5 lo w p x c):∃q,c.2=some q:=by
 grind [Q5]
theorem p8.kept{w w'}{m b}{t}{cs}(h:p8 w b t cs)(hg:w.grownBy w' (some m))(hm:∃f n,F2 w m n f):p8 w' b t cs:=by
 have hne:b≠m:=fun e=>by
  obtain ⟨f,n,⟨D,⟨es,aM,hb,_⟩,_⟩,_⟩:=hm
  simp_all
 exact (hg.block b h.lt (fun e=>hne ve)).trans h
theorem Cs{lo}(w)(p b1 b2 n1 n2)(l1 l2)(h1:J3 lo w p b1 n1 l1)(h2:J3 lo w p b2 n2 l2)(hne:b1≠b2)(hn:n1+n2<1000):
  qC 21 #[.map (some b1),.map (some b2)] w fun e w'=>e=qT #[]/\Aside (J3 lo w' p b1 (n1+n2) (l2++l1)/\Below b1 w w'):=by
 obtain ⟨f1,m1,t1⟩:=h1.map;obtain ⟨f2,m2,t2⟩:=h2.map;refine (Ud w b1 b2 n1 n2 f1 f2 m1 m2 hne hn (fun s c hc=> ?_)).mono ?_
 ·have:=t2 s;split at this
  ·rw [this] at hc;cases hc
  obtain ⟨c',e,hI⟩:=this;rw [hc] at e
  cases e
  exact hI.has
 rintro e w' ⟨rfl,hM,hg⟩;refine ⟨rfl,⟨_,hM,fun s=> ?_⟩,(uM _ w).grown hg (Ys m1.lt) (by intro k hk;cases hk;exact uL _)⟩
 have hk:∀b t cs,lo<=b->p8 w b t cs->p8 w' b t cs:=fun _ _ _ _ q=>q.kept hg ⟨f1,n1,m1⟩
 rw [DY];have q1:=t1 s;have q2:=t2 s;unfold orM
 cases e2:l2.lookup s with
 | some x=>
  rw [e2] at q2;obtain ⟨c,h,hI⟩:=q2;rw [h];exact ⟨c,rfl,hI.same hk⟩
 | none=>
  rw [e2] at q2;dsimp only at q2;rw [q2,Option.none_or,Option.none_or]
  cases e1:l1.lookup s with
  | none=>rw [e1] at q1;exact q1
  | some x=>
   rw [e1] at q1;obtain ⟨c,h,hI⟩:=q1;exact ⟨c,h,hI.same hk⟩
def tblAll:Tbl:=wG++(pM++rW)
theorem Fm(w)(p):qC 14 #[ptB p] w fun e w'=>∃S,w.heap.size<=S/\e= .returned (.map (some S))/\Aside (J3 w.heap.size w' p S 18 tblAll/\qL w w'):=by
 unfold ptB;go_enter func14,ntmps14;go_wp2_with fail;refine (JT w w.heap.size p zg).mono ?_;rintro e w1 ⟨S,hS,rfl,H1⟩;have HS:Aside (w.heap.size<=S):=hS;go_wp2_with fail;refine (GO w1 w.heap.size p H1.o.2.size).mono ?_;rintro e w2 ⟨S2,hS2,rfl,H2⟩;have T2:=H1.o.1.later H2.o.2
 have hne:S≠S2:=by have:=H1.o.1.lt;omega
 have hC:=Cs w2 p S S2 5 8 rW pM T2 H2.o.1 hne zj;have B2:Aside (qL w w2):=zi H1.o.2 H2.o.2;go_wp2_with fail;refine hC.mono ?_;rintro e w3 ⟨rfl,H3⟩;have B3:Aside (qL w w3):=B2.o.trans (H3.o.2.mono HS.o);go_wp2_with fail;refine (Ps w3 w.heap.size p B3.o.size).mono ?_;rintro e w4 ⟨S4,hS4,rfl,H4⟩;have T4:=H3.o.1.later H4.o.2
 have hne:S≠S4:=by have:=H3.o.1.lt;omega
 have hC:=Cs w4 p S S4 13 5 _ wG T4 H4.o.1 hne zj;have B4:Aside (qL w w4):=zi B3.o H4.o.2;go_wp2_with fail;refine hC.mono ?_;rintro e w5 ⟨rfl,H5⟩;have B5:Aside (qL w w5):=B4.o.trans (H5.o.2.mono HS.o);go_wp2;go_ret;exact ⟨S,HS.o,rfl,H5.o.1,B5.o⟩
end
section
open RowKit
def JS(s:qY)(w:qW)(e:Ending)(w':qW):Prop:=∃(f:qY) (is:Bool),e=qT #[.string f,.bool is]/\Aside (f.size<=4/\(is=false↔tblAll.lookup s.data.toList=none)/\w'=w)
theorem VW:∀ {l:Tbl} {k:qU},l.lookup k=none->∀x∈l,k≠x.1
 | [],_,_,x,hx=>ya
 | (a,b)::l,k,h,x,hx=>by
  grind
theorem RC{k}{sp} :∀ {l:Tbl},l.lookup k=some sp->k∈l.map (·.1)
 | [],h=>qa
 | (a,b)::l,h=>by
  rw [List.lookup_cons] at h;split at h
  ·simp_all
  exact uY _ (RC h)
theorem zal{s:qY}{l}(h:s.data.toList=l):s=⟨l.toArray⟩:=by
 rw [<-h]
theorem nL{s:qY}(h:tblAll.lookup s.data.toList=none)(l)(hl:l∈tblAll.map (·.1)):(s.toList==l)=false:=by
 grind [VW,Zu]
theorem QK(s)(w)(h:tblAll.lookup s.data.toList=none):qC 9 #[.string s] w (JS s w):=by
 have h1:=nL h [109,97,107,101] zo;have h2:=nL h [109,111,118,101] zo;have h3:=nL h [119,114,105,116,101] zo;have h4:=nL h [101,114,97,115,101] zo;have h5:=nL h [109,97,114,107] zo;have h6:=nL h [97,115,107] zo;have h7:=nL h [103,111] zo;have h8:=nL h [100,114,111,112] zo;have h9:=nL h [116,119,105,99,101] zo;have ki:=nL h [99,117,116] zo;have h11:=nL h [108,105,115,116] zo;have h12:=nL h [112,97,116,104] zo;have h13:=nL h [98,111,111,116] zo;have h14:=nL h [115,116,97,116,101] zo;have h15:=nL h [118,101,99,116,111,114] zo;have h16:=nL h [102,105,110,100] zo;have h17:=nL h [99,97,108,109] zo;have h18:=nL h [102,108,121] zo;have H:Aside (tblAll.lookup s.data.toList=none):=h;go_enter func9,ntmps9;go_wp2;go_ret2;exact ⟨_,_,rfl,zo,⟨fun _=>H.o,fun _=>rfl⟩,rfl⟩
theorem On(l)(hl:l∈tblAll.map (·.1))(w):qC 9 #[.string ⟨l.toArray⟩] w (JS ⟨l.toArray⟩ w):=by
 have hm:l= [118,101,99,116,111,114]\/l= [112,97,116,104]\/l= [102,105,110,100]\/l= [108,105,115,116]\/l= [115,116,97,116,101]\/l= [102,108,121]\/l= [99,97,108,109]\/l= [98,111,111,116]\/l= [99,117,116]\/l= [116,119,105,99,101]\/l= [100,114,111,112]\/l= [103,111]\/l= [97,115,107]\/l= [109,97,114,107]\/l= [101,114,97,115,101]\/l= [119,114,105,116,101]\/l= [109,111,118,101]\/l= [109,97,107,101]:=by
  simpa [tblAll,wG,pM,rW] using hl
 rcases hm with rfl | rfl | rfl | rfl | rfl | rfl | rfl | rfl | rfl | rfl | rfl | rfl | rfl | rfl | rfl | rfl | rfl | rfl
 all_goals
  go_enter func9,ntmps9;go_wp2;go_ret2;exact ⟨_,_,rfl,zo,⟨fun q=>xP,fun q=>xP⟩,rfl⟩
theorem MY(s)(w):qC 9 #[.string s] w (JS s w):=by
 cases h:tblAll.lookup s.data.toList with
 | none=>exact QK s w h
 | some sp=>
  have:=On _ (RC h) w;rwa [<-zal rfl] at this
theorem Ei(w):qC 10 #[qI 1] w (qR (.string ⟨(oh 1).toArray⟩) w):=by
 have hb:qL w (w.alloc (.cells #[.string ⟨#[116,101,120,116]⟩,.string ⟨#[98,111,117,110,100]⟩,.string ⟨#[115,104,97,112,101]⟩,.string ⟨#[110,97,109,101]⟩,.string ⟨#[107,105,110,100]⟩,.string ⟨#[110,111,110,101]⟩,.string ⟨#[101,120,105,115,116]⟩,.string ⟨#[102,117,108,108]⟩,.string ⟨#[103,97,112]⟩,.string ⟨#[99,121,99,108,101]⟩,.string ⟨#[111,102,102]⟩,.string ⟨#[115,117,109]⟩] 9)):=zh w _;go_enter func10,ntmps10;go_wp2;go_ret;exact ⟨rfl,hb⟩
theorem pT(n)(h0: -9223372036854775808<=n)(h1:n<=9223372036854775807)(w)(aF:Lib.TabIs prog w "internal/strconv.uint64pow10" .u64 Lib.pow10Tab):
  qC 54 #[qI n] w (qR (.string ⟨(Lib.itoa n).toArray⟩) w):=by
 refine (Tryz.strconv_Itoa n h0 h1 w aF).mono ?_;rintro e w' ⟨rfl,k,os,rfl⟩;exact ⟨rfl,Lib.below_grow _ _ zg _ _⟩
structure Q6 (w0:qW) (s0 s1 s2 s3:Value) (w:qW):Prop where
 c0:w.cell? (qB (w0.heap.size+1))=some s0
 c1:w.cell? (qA (w0.heap.size+1) 1)=some s1
 c2:w.cell? (qA (w0.heap.size+1) 2)=some s2
 c3:w.cell? (qA (w0.heap.size+1) 3)=some s3
 f0:w.frozen? (qB (w0.heap.size+1))=false
 f1:w.frozen? (qA (w0.heap.size+1) 1)=false
 f2:w.frozen? (qA (w0.heap.size+1) 2)=false
 f3:w.frozen? (qA (w0.heap.size+1) 3)=false
 b:qL w0 w
 z:w0.heap.size+2<=w.heap.size
theorem Q6.later{w0 w w'}{s0 s1 s2 s3}(h:Q6 w0 s0 s1 s2 s3 w)(hb:qL w w'):Q6 w0 s0 s1 s2 s3 w':=by
 obtain ⟨hc,hf⟩:=(⟨fun b o h=>hb.cell (p:=(qA b o)) h,fun b o h=>hb.frozen (p:=(qA b o)) h⟩:(∀b o,b<w.heap.size->w'.cell? (qA b o)=w.cell? (qA b o))/\(∀b o,b<w.heap.size->w'.frozen? (qA b o)=w.frozen? (qA b o)))
 have z:=h.z
 exact ⟨by rw [hc _ _ zj];exact h.c0,by rw [hc _ _ zj];exact h.c1,by rw [hc _ _ zj];exact h.c2,by rw [hc _ _ zj];exact h.c3,
  by rw [hf _ _ zj];exact h.f0,by rw [hf _ _ zj];exact h.f1,by rw [hf _ _ zj];exact h.f2,by rw [hf _ _ zj];exact h.f3,
  h.b.trans (hb.mono zj),uO z hb.size⟩
theorem Q6.aa1{w0 w}{s0 s1 s2 s3}(h:Q6 w0 s0 s1 s2 s3 w)(s):Q6 w0 s s1 s2 s3 (w.setCell (qB (w0.heap.size+1)) s):=
 ⟨YK _ _ _ h.c0,(Zp _ _ _ _ zr).trans h.c1,(Zp _ _ _ _ zr).trans h.c2,(Zp _ _ _ _ zr).trans h.c3,by rw [Zs];exact h.f0,by rw [Zs];exact h.f1,by rw [Zs];exact h.f2,by rw [Zs];exact h.f3,h.b.setCell zr _,vA⟩
theorem Q6.abB{w0 w}{s0 s1 s2 s3}(h:Q6 w0 s0 s1 s2 s3 w)(s):Q6 w0 s0 s s2 s3 (w.setCell (qA (w0.heap.size+1) 1) s):=
 ⟨(Zp _ _ _ _ zr).trans h.c0,YK _ _ _ h.c1,(Zp _ _ _ _ zr).trans h.c2,(Zp _ _ _ _ zr).trans h.c3,by rw [Zs];exact h.f0,by rw [Zs];exact h.f1,by rw [Zs];exact h.f2,by rw [Zs];exact h.f3,h.b.setCell zr _,vA⟩
theorem Q6.ab1{w0 w}{s0 s1 s2 s3}(h:Q6 w0 s0 s1 s2 s3 w)(s):Q6 w0 s0 s1 s s3 (w.setCell (qA (w0.heap.size+1) 2) s):=
 ⟨(Zp _ _ _ _ zr).trans h.c0,(Zp _ _ _ _ zr).trans h.c1,YK _ _ _ h.c2,(Zp _ _ _ _ zr).trans h.c3,by rw [Zs];exact h.f0,by rw [Zs];exact h.f1,by rw [Zs];exact h.f2,by rw [Zs];exact h.f3,h.b.setCell zr _,vA⟩
theorem Q6.abz{w0 w}{s0 s1 s2 s3}(h:Q6 w0 s0 s1 s2 s3 w)(s):Q6 w0 s0 s1 s2 s (w.setCell (qA (w0.heap.size+1) 3) s):=
 ⟨(Zp _ _ _ _ zr).trans h.c0,(Zp _ _ _ _ zr).trans h.c1,(Zp _ _ _ _ zr).trans h.c2,YK _ _ _ h.c3,by rw [Zs];exact h.f0,by rw [Zs];exact h.f1,by rw [Zs];exact h.f2,by rw [Zs];exact h.f3,h.b.setCell zr _,vA⟩
theorem zda(bk)(x0 x1 x2 x3)(w)(c0:w.cell? (qB bk)=some (.string ⟨x0.toArray⟩))(c1:w.cell? (qA bk 1)=some (.string ⟨x1.toArray⟩))(c2:w.cell? (qA bk 2)=some (.string ⟨x2.toArray⟩))(c3:w.cell? (qA bk 3)=some (.string ⟨x3.toArray⟩))
  (hl:x0.length+x1.length+x2.length+x3.length<=1000000):
  qC 104 #[qG bk 4 4,.string ⟨#[46]⟩] w (qR (.string ⟨(Lib.join [x0,x1,x2,x3] [46]).toArray⟩) w):=by
 have hc:∀(j:Nat) x,([⟨x0.toArray⟩,⟨x1.toArray⟩,⟨x2.toArray⟩,⟨x3.toArray⟩]:List ByteArray)[j]? =some x->w.cell? (qA bk (0+j))=some (.string x):=by
  intro j x hx
  match j,hx with
  | 0,hx=>simp at hx;subst hx;simpa using c0
  | 1,hx=>simp at hx;subst hx;simpa using c1
  | 2,hx=>simp at hx;subst hx;simpa using c2
  | 3,hx=>simp at hx;subst hx;simpa using c3
  | n+4,hx=>simp at hx
 refine (Tryz.strings_Join bk 0 4 [⟨x0.toArray⟩,⟨x1.toArray⟩,⟨x2.toArray⟩,⟨x3.toArray⟩] ⟨#[46]⟩ w hc (uN w (qB bk) c0) zr zr ?_).mono ?_
 ·simp [Lib.join_cons,Lib.joinTail];omega
 rintro e w' ⟨rfl,hb⟩;exact ⟨zr,hb⟩
def Ge(a0 a1 a2 a3:Int):qU:=Lib.join [Lib.itoa a0,Lib.itoa a1,Lib.itoa a2,Lib.itoa a3] [46]
theorem Oz(a0 a1 a2 a3)(w)(aF:Lib.TabIs prog w "internal/strconv.uint64pow10" .u64 Lib.pow10Tab)
  (l0: -9223372036854775808<=a0) (g0:a0<=9223372036854775807) (l1: -9223372036854775808<=a1) (g1:a1<=9223372036854775807) (l2: -9223372036854775808<=a2) (g2:a2<=9223372036854775807) (l3: -9223372036854775808<=a3) (g3:a3<=9223372036854775807):
  qC 67 #[.agg #[qI a0,qI a1,qI a2,qI a3]] w (qR (.string ⟨(Ge a0 a1 a2 a3).toArray⟩) w):=by
 have i0:∀w:World,(Instr.index 103 (.agg #[qI a0,qI a1,qI a2,qI a3]) (qI 0)).run prog w= .ok (qI a0) w:=fun _=>zk
 have i1:∀w:World,(Instr.index 103 (.agg #[qI a0,qI a1,qI a2,qI a3]) (qI 1)).run prog w= .ok (qI a1) w:=fun _=>zk
 have i2:∀w:World,(Instr.index 103 (.agg #[qI a0,qI a1,qI a2,qI a3]) (qI 2)).run prog w= .ok (qI a2) w:=fun _=>zk
 have i3:∀w:World,(Instr.index 103 (.agg #[qI a0,qI a1,qI a2,qI a3]) (qI 3)).run prog w= .ok (qI a3) w:=fun _=>zk
 have HT:Hid (Lib.TabBelow prog w.heap.size w "internal/strconv.uint64pow10" .u64 Lib.pow10Tab):=Lib.tabBelow_of_tabIs aF
 have S0:Q6 w (.string ⟨#[]⟩) (.string ⟨#[]⟩) (.string ⟨#[]⟩) (.string ⟨#[]⟩) ((w.alloc (.cells #[qI a0,qI a1,qI a2,qI a3] 103)).alloc (.cells #[.string ⟨#[]⟩,.string ⟨#[]⟩,.string ⟨#[]⟩,.string ⟨#[]⟩] 168)):=
  ⟨zY,zY,zY,zY,zY,zY,zY,zY,(zh _ _).alloc zr _,zr⟩
 go_enter func67,ntmps67;go_wp2;refine wp_loop_rounds 5 ?_;rw [rounds_succ];go_wp2_with fail;refine (pT a0 l0 g0 _ (HT.o _ S0.b)).mono ?_;rintro e w1 ⟨rfl,hb⟩;have T0:=S0.later hb;have S1:=T0.aa1 (.string ⟨(Lib.itoa a0).toArray⟩);obtain ⟨c0,c1,c2,c3,f0,f1,f2,f3,-,-⟩:=T0;go_wp2
 generalize w1.setCell (qB (w.heap.size+1)) (.string ⟨(Lib.itoa a0).toArray⟩)=v1 at S1 |-
 rw [rounds_succ];go_wp2_with fail;refine (pT a1 l1 g1 _ (HT.o _ S1.b)).mono ?_;rintro e w2 ⟨rfl,hb⟩;have T1:=S1.later hb;have S2:=T1.abB (.string ⟨(Lib.itoa a1).toArray⟩);obtain ⟨c0,c1,c2,c3,f0,f1,f2,f3,-,-⟩:=T1;go_wp2
 generalize w2.setCell (qA (w.heap.size+1) 1) (.string ⟨(Lib.itoa a1).toArray⟩)=v2 at S2 |-
 rw [rounds_succ];go_wp2_with fail;refine (pT a2 l2 g2 _ (HT.o _ S2.b)).mono ?_;rintro e w3 ⟨rfl,hb⟩;have T2:=S2.later hb;have S3:=T2.ab1 (.string ⟨(Lib.itoa a2).toArray⟩);obtain ⟨c0,c1,c2,c3,f0,f1,f2,f3,-,-⟩:=T2;go_wp2
 generalize w3.setCell (qA (w.heap.size+1) 2) (.string ⟨(Lib.itoa a2).toArray⟩)=v3 at S3 |-
 rw [rounds_succ];go_wp2_with fail;refine (pT a3 l3 g3 _ (HT.o _ S3.b)).mono ?_;rintro e w4 ⟨rfl,hb⟩;have T3:=S3.later hb;have S4:=T3.abz (.string ⟨(Lib.itoa a3).toArray⟩);obtain ⟨c0,c1,c2,c3,f0,f1,f2,f3,-,-⟩:=T3;go_wp2
 generalize w4.setCell (qA (w.heap.size+1) 3) (.string ⟨(Lib.itoa a3).toArray⟩)=v4 at S4 |-
 rw [rounds_succ];go_wp2_with fail;refine (zda (w.heap.size+1) (Lib.itoa a0) (Lib.itoa a1) (Lib.itoa a2) (Lib.itoa a3) _ S4.c0 S4.c1 S4.c2 S4.c3 ?_).mono ?_
 ·have e0:=Lib.itoa_length_le _ l0 g0;have e1:=Lib.itoa_length_le _ l1 g1;have e2:=Lib.itoa_length_le _ l2 g2;have e3:=Lib.itoa_length_le _ l3 g3;omega
 rintro e w5 ⟨rfl,hb⟩;have B5:=S4.b.trans (hb.mono (by have:=S4.z;omega));go_wp2;go_ret;exact ⟨rfl,B5⟩

end