/- A region that draws its order, whose operations only read and whose callees only make new memory: one walk, in the order of the text. No condition. Lists of integers as they lie in memory, and what the laws' small functions make of them. Conditions: the lists are of at most a thousand million numbers. Lists of integers as they lie in memory between two blocks, and how the laws copy and count them. Conditions: at most 1048576 integers where they are copied. The plain side of chapter 1: when a place is right, which registers it takes and sets: functions of integers alone. No condition. -/
import Derived.Test.YtkhjhibigldcgaaGreatChecked
import Derived.WalkKit
import Derived.KernelRfl
import Derived.Below
import Derived.Deep.QuietTactic
import Derived.BigQuiet
import Derived.WalkSpells
import Derived.WalkLawsBesides
import Derived.Laws.MakeOwn
namespace Go.Proofs.YtkhjhibigldcgaaGreat
section
set_option linter.unusedSimpArgs false
set_option linter.unusedVariables false
set_option maxRecDepth 100000
open Go.RowKit
/- a world that has all that W has, and perhaps more -/
structure Ext (W:World) where
 w:World
 b:Below W.heap.size W w
theorem ext_ne (W:World):Nonempty (Ext W):=⟨⟨W,Below.refl _ _⟩⟩
theorem regionExt {P : Program} {id : Nat} {Q : Exit → Act → World → Prop} {a : Act} (W : World) {l : List Oper} (hm : P.follows .mixedOrders = true) (hB : Region.lexB .any l.toArray = true)
  (h:wpQuiet P l.toArray (fun w'=>∃ x:Ext W,w'=x.w) (fun a'=>∀ w',(∃ x:Ext W,w'=x.w)→Q .normal a' w') l a):(Code.region id l.toArray true).wp P Q a W:=
 wp_region_quiet (C:=fun w'=>∃ x:Ext W,w'=x.w) hm hB ⟨⟨{ W with drawn:=W.drawn+1 },⟨rfl,rfl,rfl,Nat.le_refl _,fun _ _=>rfl⟩⟩,rfl⟩ (by simpa using h)
theorem Ext.fit {W:World} {b o:Nat} {v:Value} (h:W.cell? ⟨b,o,none⟩=some v) (hb:b < W.heap.size):∀ x:Ext W,x.w.cell? ⟨b,o,none⟩=some v:=fun x=>(x.b.cell (p:=⟨b,o,none⟩) hb).trans h
theorem Ext.on {W:World} (X:Ext W) {w3:World} (h:Below X.w.heap.size X.w w3):∃ y:Ext W,w3=y.w:=⟨⟨w3,X.b.trans (h.mono X.b.size)⟩,rfl⟩
end
section
set_option linter.unusedSimpArgs false
set_option linter.unusedVariables false
set_option maxRecDepth 100000
open Go.RowKit
theorem ret_bool' {x y:Bool} (h:x=y):Ending.returned (.bool x)=Ending.returned (.bool y):=by rw [h]
end
section
set_option linter.unusedSimpArgs false
set_option linter.unusedVariables false
set_option maxRecDepth 100000
open Go.RowKit
theorem setC_at {w:World} {g i:Nat} {v:Value} (h:(w.cell? ⟨g,i,none⟩).isSome=true):(w.setCell ⟨g,i,none⟩ v).cell? ⟨g,i,none⟩=some v:=World.cell?_setCell_same' w _ v h
theorem setC_off {w:World} {g i j:Nat} {v:Value} (h:i≠j):(w.setCell ⟨g,i,none⟩ v).cell? ⟨g,j,none⟩=w.cell? ⟨g,j,none⟩:=by
 apply World.cell?_setCell_other
 intro e
 injection e with e1 e2
 exact h e2
def Keep (lo hi:Nat) (w w':World):Prop:=∀ k,lo≤k→k < hi→w'.heap[k]? =w.heap[k]?
theorem Keep.of_below {lo hi B:Nat} {w w':World} (hb:Below B w w') (h:hi≤B):Keep lo hi w w':=fun k _ hk=>hb.block k (by omega)
theorem Keep.of_set {lo hi:Nat} {w:World} {a:Addr} {v:Value} (h:a.block < lo):Keep lo hi w (w.setCell a v):=fun k hk _=>Below.heap_setCell w a v k (by omega)
theorem Keep.trans {lo hi:Nat} {w w1 w2:World} (h:Keep lo hi w w1) (h':Keep lo hi w1 w2):Keep lo hi w w2:=fun k a b=>(h' k a b).trans (h k a b)
theorem Keep.cell {lo hi:Nat} {w w':World} (h:Keep lo hi w w') {p:Addr} (h1:lo≤p.block) (h2:p.block < hi):w'.cell? p=w.cell? p:=World.cell?_of_block (w:=w) (h p.block h1 h2)
def IntsR (w:World) (lo hi:Nat) (s:Option Addr) (l:List Int):Prop:=
 l=[]∨∃ g off,s=some ⟨g,off,none⟩∧lo≤g∧g < hi∧∀ i,i < l.length→w.cell? ⟨g,off+i,none⟩=some (.int .i64 (l.getD i 0))
theorem IntsR.keep {w w':World} {lo hi:Nat} {s:Option Addr} {l:List Int} (h:IntsR w lo hi s l) (hb:Keep lo hi w w'):IntsR w' lo hi s l:=by
 rcases h with h | ⟨g,o,hs,h1,h2,hc⟩
 ·exact .inl h
 ·exact .inr ⟨g,o,hs,h1,h2,fun i hi=>(hb.cell h1 h2).trans (hc i hi)⟩
theorem IntsR.mono {w:World} {lo hi lo' hi':Nat} {s:Option Addr} {l:List Int} (h:IntsR w lo hi s l) (h1:lo'≤lo) (h2:hi≤hi'):IntsR w lo' hi' s l:=by
 rcases h with h | ⟨g,o,hs,a,b,hc⟩
 ·exact .inl h
 ·exact .inr ⟨g,o,hs,by omega,by omega,hc⟩
theorem mkInt (n:Nat) (hn:n≤1048576) (w:World):(Instr.makeSlice 24 (.int .i64 (n:Int)) (.int .i64 (n:Int))).run Tryz.prog w=.ok (.slice (some ⟨w.heap.size,0,none⟩) n n) (w.alloc (.cells (madeCells #[.int .i64 0] (n * 1)) 3)):=by
 have h:=run_make (P:=Tryz.prog) w 24 3 _ (.int .i64 0) Tryz.underlying24 rfl rfl .i64 .i64 n n (by omega) (Int.le_refl _) (by show (8:Int) * _≤_;omega) (by omega)
 have e:(Value.int .i64 0).cells=#[.int .i64 0]:=rfl
 have e':∀ t,Tryz.prog.info? 3=some t→t.size=1:=by intro t h;cases h;rfl
 rw [e,e' _ rfl] at h
 simpa using h
theorem setC_blk {w:World} {g g' i j:Nat} {v:Value} (h:g≠g'):(w.setCell ⟨g,i,none⟩ v).cell? ⟨g',j,none⟩=w.cell? ⟨g',j,none⟩:=by
 apply World.cell?_setCell_other
 intro e
 injection e with e1 e2
 exact h e1
end
section
set_option linter.unusedSimpArgs false
set_option linter.unusedVariables false
set_option maxRecDepth 100000
namespace Plain
def insB (op r a b n pl ch:Int):Bool:=
 decide (0≤r∧r≤3∧0≤a∧a≤3∧0≤b∧b≤3∧0≤ch∧ch≤3∧
  ((op=1∧ -1000000000≤n∧n≤1000000000∧a=0∧b=0)
   ∨((op=2∨op=3∨op=4)∧n=0)
   ∨(op=5∧0≤n∧n < ch∧r=0∧b=0)
   ∨((op=6∨op=8)∧0≤n∧n < ch∧a=0∧r≠b)
   ∨(op=7∧0≤n∧n < ch∧b=0)
   ∨(op=9∧0≤n∧n < ch∧r=0∧a=0∧b=0)
   ∨(op=10∧r=0∧b=0∧n=0)
   ∨(op=11∧0≤n∧n < pl∧r=0∧a=0∧b=0)
   ∨(op=12∧0≤n∧n < pl∧r=0∧b=0)
   ∨(op=13∧r=0∧a=0∧b=0∧n=0)))
def regB (r:Int):Bool:=decide (0≤r∧r≤3)
def numB (n:Int):Bool:=decide (-1000000000≤n∧n≤1000000000)
def oneB (n c:Int):Bool:=decide (0≤n∧n < c)
def chansB (c:Int):Bool:=decide (0≤c∧c≤3)
def inB (x lo hi:Int):Bool:=decide (lo≤x∧x≤hi)
def areB (r a b:Int):Bool:=regB r&&regB a&&regB b
def takesB (r b:Int):Bool:=regB r&&regB b&&(r !=b)
end Plain
end
end Go.Proofs.YtkhjhibigldcgaaGreat
