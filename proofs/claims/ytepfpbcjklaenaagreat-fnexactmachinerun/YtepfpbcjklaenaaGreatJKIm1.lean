/- A runner of the program: its cells; where it stops and goes on. No condition. -/
import Derived.Test.YtepfpbcjklaenaaGreatJG00
import Derived.Test.YtepfpbcjklaenaaGreatJG13
import Derived.Test.YtepfpbcjklaenaaGreatJG15
import Derived.Test.YtepfpbcjklaenaaGreatJG10
namespace Go.Proofs.YtepfpbcjklaenaaGreat
set_option linter.unusedSimpArgs false
set_option linter.unusedVariables false
set_option maxRecDepth 100000
open Go.RowKit
theorem hidM1 {p:Prop} (h:p):Hid p:=h
/- the cells of a runner and what they lead to -/
structure Rn (w:World) (R bm gk gc gs gr gv who n:Nat) (cv cr cs:Nat) (late:Int) (vc vk vm vt:Value) (nc cc:Nat) (pc st:Int):Prop where
 r0:w.cell? ⟨R,0,none⟩=some (.slice (some ⟨gv,0,none⟩) 24 cv)
 r1:w.cell? ⟨R,1,none⟩=some (.pointer (some ⟨gk,who * 4,none⟩))
 r2:w.cell? ⟨R,2,none⟩=some (.pointer (some ⟨bm,0,none⟩))
 r3:w.cell? ⟨R,3,none⟩=some (.int .i64 who)
 r4:w.cell? ⟨R,4,none⟩=some (.int .i64 late)
 m0:w.cell? ⟨bm,0,none⟩=some vc
 m1:w.cell? ⟨bm,1,none⟩=some vk
 m2:w.cell? ⟨bm,2,none⟩=some vm
 m3:w.cell? ⟨bm,3,none⟩=some vt
 fm:∀ j,w.frozen? ⟨bm,j,none⟩=false
 ec:vc=.slice (some ⟨gc,0,none⟩) nc cc
 c0:w.cell? ⟨gc,who,none⟩=some (.slice (some ⟨gs,0,none⟩) n cs)
 k0:w.cell? ⟨gk,who * 4,none⟩=some (.int .i64 pc)
 k1:w.cell? ⟨gk,who * 4+1,none⟩=some (.slice (some ⟨gr,0,none⟩) 8 cr)
 k3:w.cell? ⟨gk,who * 4+3,none⟩=some (.int .i64 st)
 fk:∀ j,w.frozen? ⟨gk,j,none⟩=false
 wc:who < nc
 zR:R < w.heap.size
 zm:bm < w.heap.size
 zk:gk < w.heap.size
 zc:gc < w.heap.size
 zr:gr < w.heap.size
theorem stop_any {w : World} {R bm gk gc gs gr gv who n cv cr cs : Nat} {late : Int} {vc vk vm vt : Value} {nc cc : Nat} {pc st : Int} (z : Int) (h : Rn w R bm gk gc gs gr gv who n cv cr cs late vc vk vm vt nc cc pc st) :
  Calls Tryz.prog 110 #[.pointer (some ⟨R,0,none⟩),.int .i64 z] w fun e w'=>e=.returned (.int .i64 0)∧Below w.heap.size (w.setCell ⟨gk,who * 4+3,none⟩ (.int .i64 z)) w':=by
 obtain ⟨r0,r1,r2,r3,r4,m0,m1,m2,m3,fm,ec,c0,k0,k1,k3,fk,wc,zR,zm,zk,zc,zr⟩:=h
 go_enter Tryz.func110,Tryz.ntmps110
 go_wp2
 go_ret
 exact ⟨rfl,Below.refl _ _⟩
theorem Rn.below {w w':World} {R bm gk gc gs gr gv who n cv cr cs:Nat} {late:Int} {vc vk vm vt:Value} {nc cc:Nat} {pc st:Int} (h:Rn w R bm gk gc gs gr gv who n cv cr cs late vc vk vm vt nc cc pc st) (hb:Below w.heap.size w w'):Rn w' R bm gk gc gs gr gv who n cv cr cs late vc vk vm vt nc cc pc st:=by
 obtain ⟨r0,r1,r2,r3,r4,m0,m1,m2,m3,fm,ec,c0,k0,k1,k3,fk,wc,zR,zm,zk,zc,zr⟩:=h
 have hs:=hb.size
 have cc':∀ b j,b < w.heap.size→w'.cell? ⟨b,j,none⟩=w.cell? ⟨b,j,none⟩:=fun b j hb'=>hb.cell (p:=⟨b,j,none⟩) hb'
 exact ⟨(cc' _ _ zR).trans r0,(cc' _ _ zR).trans r1,(cc' _ _ zR).trans r2,(cc' _ _ zR).trans r3,(cc' _ _ zR).trans r4,(cc' _ _ zm).trans m0,(cc' _ _ zm).trans m1,(cc' _ _ zm).trans m2,(cc' _ _ zm).trans m3,fun j=>(hb.frozen (p:=⟨bm,j,none⟩) zm).trans (fm j),ec,(cc' _ _ zc).trans c0,(cc' _ _ zk).trans k0,(cc' _ _ zk).trans k1,(cc' _ _ zk).trans k3,fun j=>(hb.frozen (p:=⟨gk,j,none⟩) zk).trans (fk j),wc,by omega,by omega,by omega,by omega,by omega⟩
/- a store behind what a call has left alone -/
theorem below_pair {w w':World} {g j:Nat} {v:Value} (h:Below w.heap.size w w'):Below w.heap.size (w.setCell ⟨g,j,none⟩ v) (w'.setCell ⟨g,j,none⟩ v):=
 ⟨h.os,h.tape,h.output,by simpa using h.size,fun b hb=>heap_pair (h.block b hb)⟩
theorem goTo_yes {w : World} {R bm gk gc gs gr gv who n cv cr cs : Nat} {late : Int} {vc vk vm vt : Value} {nc cc : Nat} {pc st : Int} (at_ : Int) (h : Rn w R bm gk gc gs gr gv who n cv cr cs late vc vk vm vt nc cc pc st) (h0 : 0 ≤ at_) (h1 : at_ < (n : Int)) :
  Calls Tryz.prog 113 #[.pointer (some ⟨R,0,none⟩),.int .i64 at_] w fun e w'=>e=.returned (.int .i64 0)∧Below w.heap.size (w.setCell ⟨gk,who * 4,none⟩ (.int .i64 at_)) w':=by
 have hh:=h
 obtain ⟨r0,r1,r2,r3,r4,m0,m1,m2,m3,fm,ec,c0,k0,k1,k3,fk,wc,zR,zm,zk,zc,zr⟩:=h
 subst ec
 have b0:(0:Int)≤(who:Int):=by omega
 have b1:(who:Int) < (nc:Int):=by omega
 have H:=hidM1 hh
 go_enter Tryz.func113,Tryz.ntmps113
 go_wp2_with fail
 have hne:=ext_ne w
 have u0:=Ext.fit r2 zR
 have u1:=Ext.fit m0 zm
 have u2:=Ext.fit r3 zR
 have u3:=Ext.fit c0 zc
 refine regionExt w (by kernel_rfl) (by kernel_rfl) ?_
 repeat (go_big_quiet_step ((rename_i X;go_at_call 69;refine (isOneOf_is _ _ true _ (by unfold Plain.oneB;simp;omega)).mono ?_;rintro e w3 ⟨rfl,hw3⟩;exact ⟨rfl,by rw [hw3];exact X.on (Below.refl _ _)⟩)))
 refine wpQuiet_nil ?_
 rintro w3 ⟨X3,rfl⟩
 obtain ⟨V,hV⟩:∃ V,X3.w=V:=⟨_,rfl⟩
 have hb:=X3.b
 rw [hV] at hb ⊢
 have HB:Hid (Below w.heap.size w V):=hb
 clear hne u0 u1 u2 u3 r0 r1 r2 r3 r4 m0 m1 m2 m3 fm c0 k0 k1 k3 fk hV X3
 obtain ⟨r0,r1,r2,r3,r4,m0,m1,m2,m3,fm,ec,c0,k0,k1,k3,fk,wc,zR',zm',zk',zc',zr'⟩:=H.out.below hb
 clear hb ec
 go_wp2
 go_ret
 exact ⟨rfl,below_pair HB.out⟩
theorem goTo_no {w : World} {R bm gk gc gs gr gv who n cv cr cs : Nat} {late : Int} {vc vk vm vt : Value} {nc cc : Nat} {pc st : Int} (at_ : Int) (h : Rn w R bm gk gc gs gr gv who n cv cr cs late vc vk vm vt nc cc pc st) (h1 : ¬ (0 ≤ at_ ∧ at_ < (n : Int))) :
  Calls Tryz.prog 113 #[.pointer (some ⟨R,0,none⟩),.int .i64 at_] w fun e w'=>e=.returned (.int .i64 0)∧Below w.heap.size (w.setCell ⟨gk,who * 4+3,none⟩ (.int .i64 2)) w':=by
 have hh:=h
 obtain ⟨r0,r1,r2,r3,r4,m0,m1,m2,m3,fm,ec,c0,k0,k1,k3,fk,wc,zR,zm,zk,zc,zr⟩:=h
 subst ec
 have b0:(0:Int)≤(who:Int):=by omega
 have b1:(who:Int) < (nc:Int):=by omega
 have H:=hidM1 hh
 have H1:=hidM1 h1
 go_enter Tryz.func113,Tryz.ntmps113
 go_wp2_with fail
 have hne:=ext_ne w
 have u0:=Ext.fit r2 zR
 have u1:=Ext.fit m0 zm
 have u2:=Ext.fit r3 zR
 have u3:=Ext.fit c0 zc
 refine regionExt w (by kernel_rfl) (by kernel_rfl) ?_
 repeat (go_big_quiet_step ((rename_i X;go_at_call 69;refine (isOneOf_is _ _ false _ (by have:=H1.out;unfold Plain.oneB;simp;omega)).mono ?_;rintro e w3 ⟨rfl,hw3⟩;exact ⟨rfl,by rw [hw3];exact X.on (Below.refl _ _)⟩)))
 refine wpQuiet_nil ?_
 rintro w3 ⟨X3,rfl⟩
 obtain ⟨V,hV⟩:∃ V,X3.w=V:=⟨_,rfl⟩
 have hb:=X3.b
 rw [hV] at hb ⊢
 have HB:Hid (Below w.heap.size w V):=hb
 have ST:=hidM1 (stop_any 2 (H.out.below hb))
 clear hne u0 u1 u2 u3 r0 r1 r2 r3 r4 m0 m1 m2 m3 fm c0 k0 k1 k3 fk hV X3
 go_wp2_with fail
 refine Calls.mono ST.out ?_
 rintro e w4 ⟨rfl,hb4⟩
 have HB4:=hidM1 hb4
 clear hb4
 go_wp2
 go_ret
 have q:=HB.out.size
 exact ⟨rfl,(below_pair (g:=gk) (j:=who * 4+3) (v:=.int .i64 2) HB.out).trans (HB4.out.mono q)⟩
theorem lessOf_any (a b:Int) (w:World):Calls Tryz.prog 119 #[.int .i64 a,.int .i64 b] w fun e w'=>e=.returned (.int .i64 (bitN (decide (a < b))))∧w'=w:=by
 by_cases h:a < b
 all_goals
  go_enter Tryz.func119,Tryz.ntmps119
  go_wp2
  go_ret
  exact ⟨by simp [bitN,h],rfl⟩
def reckV (o n va vb:Int):Int:=if o=1 then n else if o=2 then wI (va+vb) else if o=3 then wI (va - vb) else bitN (decide (va < vb))
end Go.Proofs.YtepfpbcjklaenaaGreat
