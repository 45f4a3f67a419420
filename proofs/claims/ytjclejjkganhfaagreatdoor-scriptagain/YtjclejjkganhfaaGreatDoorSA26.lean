import Derived.Test.YtjclejjkganhfaaGreatDoorSA22
set_option linter.unusedSimpArgs false
set_option linter.unusedVariables false
namespace Go.Proofs.YtjclejjkganhfaaGreatDoor
section
theorem CD{S}(h:D5 S):¬Gap S:=fun ⟨x,hx,h1,h2⟩=>by
 rcases h.gap x hx with q | q
 ·exact h1 q
 exact h2 q
theorem Aj{S}(h:D5 S):¬R8 S:=fun ⟨x,hx,y,hy,e1,e2,e3⟩=>e3 (h.K7 x hx y hy e1 e2)
theorem As{S l}{a a'}(h:ny S l a)(h':ny S l a'):a=a':=by
 unfold ny at h h'
 cases hs:nh S 0 [] l with
 | inl p=>
  simp_all
 | inr fresh=>
  rw [hs] at h h';dsimp only at h h'
  rcases h with ⟨q1,rfl⟩ | ⟨q1,q2,rfl⟩ | ⟨q1,q2,q3,rfl⟩ | ⟨q1,q2,rfl⟩ | ⟨q1,q2,rfl⟩<;>rcases h' with ⟨r1,rfl⟩ | ⟨r1,r2,rfl⟩ | ⟨r1,r2,r3,rfl⟩ | ⟨r1,r2,rfl⟩ | ⟨r1,r2,rfl⟩
  all_goals first
   | rfl
   | exact absurd q1 r1
   | exact absurd r1 q1
   | exact absurd q2 r2
   | exact absurd r2 q2
   | exact absurd q1 (CD r1)
   | exact absurd r1 (CD q1)
   | exact absurd q2 (Aj r1)
   | exact absurd r2 (Aj q1)
   | (obtain ⟨x,hx,hn⟩:=q3;exact absurd (r1.Q6 x hx) hn)
   | (obtain ⟨x,hx,hn⟩:=r3;exact absurd (q1.Q6 x hx) hn)
   | omega

end