import Derived.Test.YtfkekfibjnjcnaaGreatDoorMZ23
set_option linter.unusedSimpArgs false
set_option linter.unusedVariables false
namespace Go.Proofs.YtfkekfibjnjcnaaGreatDoor
section
open Go Go.RowKit Go.Lib Go.Sort
theorem index_cons (c:UInt8) (l:List UInt8):Lib.index (c::l) [35]=if c=35 then 0 else if Lib.index l [35]= -1 then -1 else Lib.index l [35]+1:=by
 rw [Lib.index]
 by_cases h:c=35
 ·subst h
  rw [if_pos rfl]
  simp
 rw [if_neg h]
 have:([35]:List UInt8).isPrefixOf (c::l)=false:=by simp [List.isPrefixOf];exact fun e=>h e.symm
 rw [this]
 simp
theorem cut_ahead:∀l:List UInt8,(Lib.cut l [35]).1=ahead l
 | []=>by
  unfold Lib.cut
  split<;>simp [ahead]
 | c::l=>by
  have ih:=cut_ahead l
  unfold Lib.cut at ih |-
  have hg:=Lib.index_ge l [35]
  rw [index_cons]
  by_cases h:c=35
  ·rw [if_pos h]
   simp [ahead,h]
  rw [if_neg h]
  unfold ahead
  rw [if_neg h]
  by_cases h1:Lib.index l [35]= -1
  ·rw [if_pos h1,if_neg zj]
   rw [if_neg zj] at ih
   rw [<-ih]
  rw [if_neg h1,if_pos zj]
  rw [if_pos zj] at ih
  rw [<-ih,show (Lib.index l [35]+1).toNat=(Lib.index l [35]).toNat+1 by omega]
  rfl
def zeroJ:OpX:=(0,0,0,0,0,0,⟨#[]⟩,⟨#[]⟩)
theorem opread_any {ad:Nat->Addr} (s:ByteArray) (w:World) (hE:FactJ ad w) (hs:s.size<=1000000):
  Calls Tryz.prog 220 #[.string s] w fun e w'=>∃(x:OpX) (er:Value),e= .returned (.tuple #[encJ x,er])/\Aside (Below w.heap.size w w'/\((readO s.data.toList=some x/\er= .nilIface)\/(readO s.data.toList=none/\x=zeroJ/\∃a,er= .iface 350 (.pointer (some a))))):=by
 obtain ⟨m,hm⟩:=hE.mx
 cases hp:partsL s.data.toList with
 | none=>
  refine (read_text s w hs m hm hE.et hp).mono ?_
  rintro e w' ⟨rfl,hb⟩
  exact ⟨zeroJ,_,rfl,hb,.inr ⟨by unfold readO;rw [hp],rfl,_,rfl⟩⟩
 | some p=>
  obtain ⟨c,n1,n2,n3,n4,n5,nm,v⟩:=p
  have hl:=text_parts hp
  have hlen:nm.length<=1000000/\v.length<=1000000:=by
   have e:=congrArg List.length hl
   unfold opTextL at e
   simp only [joinP,vw,vH,vT] at e
   have e6:=hexL_length v
   have:s.data.toList.length=s.size:=zm
   omega
  by_cases hc:opE n1 n2 n3 c.toNat n4 n5 nm v=0
  ·refine (read_ok s w hs m hm hE.txt.op4 c n1 n2 n3 n4 n5 nm v hp hlen.1 hlen.2 hc).mono ?_
   rintro e w' ⟨rfl,hb⟩
   exact ⟨((n1:Int),(n2:Int),(n3:Int),c.toNat,(n4:Int),(n5:Int),⟨nm.toArray⟩,⟨v.toArray⟩),_,rfl,hb,.inl ⟨by unfold readO;rw [hp];dsimp only;rw [if_pos hc],rfl⟩⟩
  refine (read_code s w hs m hm hE.txt.op4 c n1 n2 n3 n4 n5 nm v hp hlen.1 hlen.2 hc).mono ?_
  rintro e w' ⟨rfl,hb⟩
  exact ⟨zeroJ,_,rfl,hb,.inr ⟨by unfold readO;rw [hp];dsimp only;rw [if_neg hc],rfl,_,rfl⟩⟩
