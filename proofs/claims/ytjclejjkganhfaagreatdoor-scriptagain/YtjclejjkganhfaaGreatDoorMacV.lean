import Derived.Test.YtjclejjkganhfaaGreatDoorProg
import Derived.WalkKit
import Derived.Below
import Derived.KernelRfl
namespace Go.Proofs
open Go Go.RowKit
abbrev qI(x:Int):Value:=.int .i64 x
abbrev qZa:Array Value:=#[.int .i64 0,.int .i64 0,.int .i64 0,.int .u8 0,.int .i64 0,.int .i64 0,.string ⟨#[]⟩,.string ⟨#[]⟩]
abbrev qZl:List Value:=[.int .i64 0,.int .i64 0,.int .i64 0,.int .u8 0,.int .i64 0,.int .i64 0,.string ⟨#[]⟩,.string ⟨#[]⟩]
abbrev qZc:Obj:=.cells qZa 88
abbrev qOa(t b m:Int)(k:Nat)(n o:Int)(s v:ByteArray):Array Value:=#[.int .i64 t,.int .i64 b,.int .i64 m,.int .u8 (k:Int),.int .i64 n,.int .i64 o,.string s,.string v]
abbrev qOl(t b m:Int)(k:Nat)(n o:Int)(s v:ByteArray):List Value:=[.int .i64 t,.int .i64 b,.int .i64 m,.int .u8 (k:Int),.int .i64 n,.int .i64 o,.string s,.string v]
abbrev qOc(t b m:Int)(k:Nat)(n o:Int)(s v:ByteArray):Obj:=.cells (qOa t b m k n o s v) 88
abbrev qA(b o:Nat):Addr:=⟨b,o,none⟩
abbrev qB(b:Nat):Addr:=⟨b,0,none⟩
abbrev qS(b:Nat):Option Addr:=some ⟨b,0,none⟩
abbrev qL(w w':World):Prop:=Below w.heap.size w w'
abbrev qR(v:Value)(w:World)(e:Ending)(w':World):Prop:=e= .returned v/\Below w.heap.size w w'
abbrev qU:=List UInt8
abbrev qO:=Option Addr
abbrev qY:=ByteArray
abbrev qX:=List (Int×Int×Int×Nat×Int×Int×ByteArray×ByteArray)
abbrev qN(k:Nat):Value:=.int .i64 (k:Int)
abbrev qP(b:Nat):Value:=.pointer (some ⟨b,0,none⟩)
abbrev qE:Value:=.slice none 0 0
abbrev qT(a:Array Value):Ending:=.returned (.tuple a)
theorem qk{α:Type}{a b:α}(h:a=b:=by kernel_rfl):some a=some b:=congrArg some h
abbrev qW:=World
abbrev qVa(x:Int×Int×Int×Nat×Int×Int×ByteArray×ByteArray):Array Value:=qOa x.1 x.2.1 x.2.2.1 x.2.2.2.1 x.2.2.2.2.1 x.2.2.2.2.2.1 x.2.2.2.2.2.2.1 x.2.2.2.2.2.2.2
abbrev qVl(x:Int×Int×Int×Nat×Int×Int×ByteArray×ByteArray):List Value:=qOl x.1 x.2.1 x.2.2.1 x.2.2.2.1 x.2.2.2.2.1 x.2.2.2.2.2.1 x.2.2.2.2.2.2.1 x.2.2.2.2.2.2.2
abbrev qVc(x:Int×Int×Int×Nat×Int×Int×ByteArray×ByteArray):Obj:=.cells (qVa x) 88
abbrev qG(b n c:Nat):Value:=.slice (some ⟨b,0,none⟩) n c
abbrev qlt(a b:Int):Bool:=decide (a<b)
abbrev qF:=Nat->Addr
abbrev qJ:=List (Nat×Nat×Bool×(Nat->Int)×Option Addr×Nat×qX)
abbrev qH:=Nat->Nat->qX
abbrev qD:=Nat->List UInt8×Bool×Bool×Int
abbrev qC:=Calls Tryz.prog
end Go.Proofs
