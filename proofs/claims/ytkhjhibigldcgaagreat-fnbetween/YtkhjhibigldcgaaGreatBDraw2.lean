/- l1New, l1DrawIns, l1Spoil: a place is drawn; the cursor's own block alone is turned. Conditions: the cursor and its bytes lie in memory as the reading says; 1 to 256 places, 0 to 256 channels. -/
import Derived.Test.YtkhjhibigldcgaaGreatBG00
import Derived.Test.YtkhjhibigldcgaaGreatBG13
import Derived.Test.YtkhjhibigldcgaaGreatBG14
namespace Go.Proofs.YtkhjhibigldcgaaGreat
set_option linter.unusedSimpArgs false
set_option linter.unusedVariables false
set_option maxRecDepth 100000
open Go.RowKit
def Res (w:World) (R:Nat):Prop:=(∀ j,j < 5→(w.cell? ⟨R,j,none⟩).isSome=true)∧(∀ j,w.frozen? ⟨R,j,none⟩=false)∧R < w.heap.size
theorem Res.but {w w':World} {R p:Nat} (h:Res w R) (hb:But p w w') (hp:R≠p):Res w' R:=
 ⟨fun j hj=>by rw [hb.cell (p:=⟨R,j,none⟩) h.2.2 hp];exact h.1 j hj,fun j=>by rw [hb.frozen (p:=⟨R,j,none⟩) h.2.2 hp];exact h.2.1 j,by have:=hb.size;have:=h.2.2;omega⟩
theorem Res.at {w:World} {R:Nat} (h:Res w R):∃ u0 u1 u2 u3 u4,w.cell? ⟨R,0,none⟩=some u0∧w.cell? ⟨R,1,none⟩=some u1∧w.cell? ⟨R,2,none⟩=some u2∧w.cell? ⟨R,3,none⟩=some u3∧w.cell? ⟨R,4,none⟩=some u4:=by
 obtain ⟨u0,h0⟩:=Option.isSome_iff_exists.1 (h.1 0 (by omega))
 obtain ⟨u1,h1⟩:=Option.isSome_iff_exists.1 (h.1 1 (by omega))
 obtain ⟨u2,h2⟩:=Option.isSome_iff_exists.1 (h.1 2 (by omega))
 obtain ⟨u3,h3⟩:=Option.isSome_iff_exists.1 (h.1 3 (by omega))
 obtain ⟨u4,h4⟩:=Option.isSome_iff_exists.1 (h.1 4 (by omega))
 exact ⟨u0,u1,u2,u3,u4,h0,h1,h2,h3,h4⟩
theorem res_new (w:World) (v0 v1 v2 v3 v4:Value) (T:TypeId):Res (w.alloc (.cells #[v0,v1,v2,v3,v4] T)) w.heap.size:=by
 refine ⟨fun j hj=>?_,fun j=>by simp [go_sem],by simp⟩
 match j,hj with
 | 0,_=>simp [go_sem]
 | 1,_=>simp [go_sem]
 | 2,_=>simp [go_sem]
 | 3,_=>simp [go_sem]
 | 4,_=>simp [go_sem]
def set5v (w:World) (R:Nat) (v0 v1 v2 v3 v4:Value):World:=((((w.setCell ⟨R,0,none⟩ v0).setCell ⟨R,1,none⟩ v1).setCell ⟨R,2,none⟩ v2).setCell ⟨R,3,none⟩ v3).setCell ⟨R,4,none⟩ v4
theorem CBx158.set5v {w:World} {p n c R:Nat} {s:Option Addr} {v0 v1 v2 v3 v4:Value} (h:CBx158 w p s n c) (hR:p < R):CBx158 (set5v w R v0 v1 v2 v3 v4) p s n c:=((((h.set hR).set hR).set hR).set hR).set hR
/- the state of a draw: the cursor, the place of the answer, what was there -/
structure Dr (w0 w:World) (p:Nat) (s:Option Addr) (n c R:Nat):Prop where
 cb:CBx158 w p s n c
 res:Res w R
 but:But p w0 w
 pR:p < R
 old:w0.heap.size≤R
theorem dr_below {w0 : World} {p n c R : Nat} {s : Option Addr} (q : Int) (w : World) (h : Dr w0 w p s n c R) (hq0 : 0 < q) (hq : q ≤ 256) :
  Calls Tryz.prog 11 #[.pointer (some ⟨p,0,none⟩),.int .i64 q] w fun e w'=>∃ x:Int,e=.returned (.int .i64 x)∧0≤x∧x < q∧Dr w0 w' p s n c R:=by
 refine (below_cb p s n c q w h.cb hq0 hq).mono ?_
 rintro e w' ⟨x,rfl,x0,x1,hc,hb⟩
 have:=h.pR
 exact ⟨x,rfl,x0,x1,hc,h.res.but hb (by omega),h.but.trans hb,h.pR,h.old⟩
theorem dr_once {w0 : World} {p n c R : Nat} {s : Option Addr} (q : Int) (w : World) (h : Dr w0 w p s n c R) (hq0 : 0 < q) (hq : q ≤ 256) :
  Calls Tryz.prog 53 #[.pointer (some ⟨p,0,none⟩),.int .i64 q] w fun e w'=>∃ x:Bool,e=.returned (.bool x)∧Dr w0 w' p s n c R:=by
 refine (once_cb p s n c q w h.cb hq0 hq).mono ?_
 rintro e w' ⟨x,rfl,hc,hb⟩
 have:=h.pR
 exact ⟨x,rfl,hc,h.res.but hb (by omega),h.but.trans hb,h.pR,h.old⟩
theorem but_set5v {w0 w:World} {p R:Nat} {v0 v1 v2 v3 v4:Value} (h:But p w0 w) (hR:w0.heap.size≤R):But p w0 (set5v w R v0 v1 v2 v3 v4):=by
 have b:Below w0.heap.size w (set5v w R v0 v1 v2 v3 v4):=(((((Below.refl _ _).setCell (p:=⟨R,0,none⟩) hR _).setCell (p:=⟨R,1,none⟩) hR _).setCell (p:=⟨R,2,none⟩) hR _).setCell (p:=⟨R,3,none⟩) hR _).setCell (p:=⟨R,4,none⟩) hR _
 exact ⟨b.os.trans h.os,b.tape.trans h.tape,b.output.trans h.output,Nat.le_trans h.size b.size,fun k hk hp=>(b.block k hk).trans (h.block k hk hp)⟩
end Go.Proofs.YtkhjhibigldcgaaGreat
