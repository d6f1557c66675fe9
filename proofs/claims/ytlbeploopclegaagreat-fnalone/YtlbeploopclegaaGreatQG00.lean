/- A region that draws its order, whose operations only read and whose callees only make new memory: one walk, in the order of the text. No condition. The plain side of chapter 7: when a step of a core is right, and its word: functions of integers alone. No condition. -/
import Derived.Test.YtlbeploopclegaaGreatChecked
import Derived.WalkKit
import Derived.KernelRfl
import Derived.Below
import Derived.Deep.QuietTactic
import Derived.BigQuiet
namespace Go.Proofs.YtlbeploopclegaaGreat
section
set_option linter.unusedSimpArgs false
set_option linter.unusedVariables false
set_option maxRecDepth 100000
open Go.RowKit
/- a world that has all that W has, and perhaps more -/
structure Ext (W:World) where
 w:World
 b:Below W.heap.size W w
theorem ext_ne (W:World):Nonempty (Ext W):=⟨⟨W,Below.refl _ _⟩⟩
theorem regionExt {P : Program} {id : Nat} {Q : Exit → Act → World → Prop} {a : Act} (W : World) {l : List Oper} (hm : P.follows .mixedOrders = true) (hB : Region.lexB .any l.toArray = true)
  (h:wpQuiet P l.toArray (fun w'=>∃ x:Ext W,w'=x.w) (fun a'=>∀ w',(∃ x:Ext W,w'=x.w)→Q .normal a' w') l a):(Code.region id l.toArray true).wp P Q a W:=
 wp_region_quiet (C:=fun w'=>∃ x:Ext W,w'=x.w) hm hB ⟨⟨{ W with drawn:=W.drawn+1 },⟨rfl,rfl,rfl,Nat.le_refl _,fun _ _=>rfl⟩⟩,rfl⟩ (by simpa using h)
theorem Ext.fit {W:World} {b o:Nat} {v:Value} (h:W.cell? ⟨b,o,none⟩=some v) (hb:b < W.heap.size):∀ x:Ext W,x.w.cell? ⟨b,o,none⟩=some v:=fun x=>(x.b.cell (p:=⟨b,o,none⟩) hb).trans h
theorem Ext.on {W:World} (X:Ext W) {w3:World} (h:Below X.w.heap.size X.w w3):∃ y:Ext W,w3=y.w:=⟨⟨w3,X.b.trans (h.mono X.b.size)⟩,rfl⟩
end
section
set_option linter.unusedSimpArgs false
set_option linter.unusedVariables false
set_option maxRecDepth 100000
namespace Plain
def stepB (op r a b n pl:Int):Bool:=
 decide (0≤r∧r≤7∧0≤b∧b≤7∧a≤7∧(0≤a∨(a=-1∧(op=5∨op=6∨op=7)))∧
  ((op=1∧ -1000000000≤n∧n≤1000000000∧a=0∧b=0)
   ∨((op=2∨op=3∨op=4)∧n=0)
   ∨(op=5∧0≤n∧n≤23∧b=0)
   ∨((op=6∨op=7)∧0≤n∧n≤23∧r=0)
   ∨(op=8∧0≤n∧n≤23∧a=0)
   ∨(op=9∧r=0∧b=0∧n=0)
   ∨(op=10∧0≤n∧n < pl∧r=0∧a=0∧b=0)
   ∨(op=11∧0≤n∧n < pl∧r=0∧b=0)
   ∨((op=12∨op=13)∧r=0∧a=0∧b=0∧n=0)))
def numB (n:Int):Bool:=decide (-1000000000≤n∧n≤1000000000)
def oneB (n c:Int):Bool:=decide (0≤n∧n < c)
def inB (x lo hi:Int):Bool:=decide (lo≤x∧x≤hi)
def memB (op:Int):Bool:=decide (op=5∨op=6∨op=7)
def regsB (op r a b:Int):Bool:=decide ((oneB a 8=true∨(a=-1∧memB op=true))∧oneB r 8=true∧oneB b 8=true)
def nB (op n pl:Int):Bool:=if op=1 then numB n else if op=5∨op=6∨op=7∨op=8 then oneB n 24 else if op=10∨op=11 then oneB n pl else true
def endB (op:Int):Bool:=decide (op=10∨op=12∨op=13)
end Plain
end
end Go.Proofs.YtlbeploopclegaaGreat
