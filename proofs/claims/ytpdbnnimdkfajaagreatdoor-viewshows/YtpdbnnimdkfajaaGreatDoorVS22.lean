import Derived.Test.YtpdbnnimdkfajaaGreatDoorVS19
set_option linter.unusedSimpArgs false
set_option linter.unusedVariables false
namespace Go.Proofs.YtpdbnnimdkfajaaGreatDoor
section
open Go.Shelf Go.RowKit Go.Lib Go.Sort
theorem sym_all {P:Program} {β:Type} [Inhabited β] {lt:β->β->Bool} {k:Nat} {enc:β×Nat->List Value} {cf:β×Nat->β×Nat->Int} {g:Nat} {w0:World} {blk off:Nat} {d0:Array (β×Nat)} (V:SEnv P lt k enc cf g w0 blk off d0) (cap:Nat):∀(n a m b:Nat) (d:Array (β×Nat)) (w:World),
  b - a<=n->d0.size=d.size->SWK enc k w0 blk off d w->Runs lt a m b d->a<m->m<b->b<=d.size->d.size<4611686018427387904->SymOk P lt k enc g w0 blk off cap a m b d w
 | 0,a,m,b,d,w=>fun hn _ _ _ h1 h2 _ _=>absurd hn zi
 | n+1,a,m,b,d,w=>fun hn hs S hr h1 h2 hb hsz=>by
  have IH:∀a' m' b' d' w',b' - a'<b - a->d0.size=d'.size->SWK enc k w0 blk off d' w'->Runs lt a' m' b' d'->a'<m'->m'<b'->b'<=d'.size->d'.size<4611686018427387904->SymOk P lt k enc g w0 blk off cap a' m' b' d' w':=fun a' m' b' d' w' hl=>sym_all V cap n a' m' b' d' w' zi
  by_cases c1:m=a+1
  ·exact sym_first V cap a m b d w hs S hr h1 h2 hb hsz c1
  by_cases c2:b=m+1
  ·exact sym_last V cap a m b d w hs S hr h1 h2 hb hsz c1 c2
  by_cases c3:(a+b) / 2<m
  ·exact sym_hi V cap a m b d w hs S hr h1 h2 hb hsz c1 c2 IH c3
  exact sym_lo V cap a m b d w hs S hr h1 h2 hb hsz c1 c2 IH zi
