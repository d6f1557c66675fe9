/- A turn's jumps and its end, both registers of a take, registers as an array, the table of doings. No condition. -/
import Derived.Test.YtknffngbdakblaaGreatJG06
import Derived.Test.YtknffngbdakblaaGreatJG08
import Derived.Test.YtknffngbdakblaaGreatJG00
import Derived.Test.YtknffngbdakblaaGreatJG12
import Derived.Laws.CopyOwn
import Derived.Laws.EntriesVeiled
namespace Go.Proofs.YtknffngbdakblaaGreat
set_option linter.unusedSimpArgs false
set_option linter.unusedVariables false
set_option maxRecDepth 100000
open Go.RowKit
theorem jump_any (o r a bb n : Int) (b S : Nat) (who pc nx st : Int) (rg : List Int) (w : World) (h : Tn w b S who pc nx st rg) (hr : 0 ≤ r ∧ r ≤ 3) (ha : 0 ≤ a ∧ a ≤ 3) (hb : 0 ≤ bb ∧ bb ≤ 3) :
  Calls Tryz.prog 75 #[.pointer (some ⟨b,0,none⟩),.agg #[.int .i64 o,.int .i64 r,.int .i64 a,.int .i64 bb,.int .i64 n]] w fun e w'=>e=.returned (.int .i64 0)∧Below w.heap.size (w.setCell ⟨b,3,none⟩ (.int .i64 n)) w':=by
 obtain ⟨r',hr'⟩:∃ r':Nat,r=r':=⟨r.toNat,by omega⟩
 subst hr'
 have br0:(0:Int)≤(r':Int):=by omega
 have br1:(r':Int) < 4:=by omega
 obtain ⟨a',ha'⟩:∃ a':Nat,a=a':=⟨a.toNat,by omega⟩
 subst ha'
 have ba0:(0:Int)≤(a':Int):=by omega
 have ba1:(a':Int) < 4:=by omega
 obtain ⟨bb',hbb'⟩:∃ bb':Nat,bb=bb':=⟨bb.toNat,by omega⟩
 subst hbb'
 have bbb0:(0:Int)≤(bb':Int):=by omega
 have bbb1:(bb':Int) < 4:=by omega
 have HT:=hidW h
 have hz:=h.z
 have hl:=h.l
 obtain ⟨W,hW,hx,kW,zW⟩:=Xb.new w (.int .i64 o) (.int .i64 r') (.int .i64 a') (.int .i64 bb') (.int .i64 n) 85
 have HWW:=hidW hW
 have KW:=hidW kW
 have HX:=hidW hx
 have HTW:=hidW (h.below kW hz)
 clear h kW hx hW
 obtain ⟨x0,x1,x2,x3,x4,xz⟩:=HX.out
 obtain ⟨c0,c1,c2,c3,c4,cr,cf,cz,-⟩:=HTW.out
 go_enter Tryz.func75,Tryz.ntmps75
 go_upto_region 1 with fail
 rw [HWW.out]
 go_wp2
 go_ret
 exact ⟨rfl,belowP KW.out⟩
theorem end_any (o r a bb n : Int) (b S : Nat) (who pc nx st : Int) (rg : List Int) (w : World) (h : Tn w b S who pc nx st rg) (hr : 0 ≤ r ∧ r ≤ 3) (ha : 0 ≤ a ∧ a ≤ 3) (hb : 0 ≤ bb ∧ bb ≤ 3) :
  Calls Tryz.prog 77 #[.pointer (some ⟨b,0,none⟩),.agg #[.int .i64 o,.int .i64 r,.int .i64 a,.int .i64 bb,.int .i64 n]] w fun e w'=>e=.returned (.int .i64 0)∧Below w.heap.size ((w.setCell ⟨b,3,none⟩ (.int .i64 pc)).setCell ⟨b,4,none⟩ (.int .i64 1)) w':=by
 obtain ⟨r',hr'⟩:∃ r':Nat,r=r':=⟨r.toNat,by omega⟩
 subst hr'
 have br0:(0:Int)≤(r':Int):=by omega
 have br1:(r':Int) < 4:=by omega
 obtain ⟨a',ha'⟩:∃ a':Nat,a=a':=⟨a.toNat,by omega⟩
 subst ha'
 have ba0:(0:Int)≤(a':Int):=by omega
 have ba1:(a':Int) < 4:=by omega
 obtain ⟨bb',hbb'⟩:∃ bb':Nat,bb=bb':=⟨bb.toNat,by omega⟩
 subst hbb'
 have bbb0:(0:Int)≤(bb':Int):=by omega
 have bbb1:(bb':Int) < 4:=by omega
 have HT:=hidW h
 have hz:=h.z
 have hl:=h.l
 obtain ⟨W,hW,hx,kW,zW⟩:=Xb.new w (.int .i64 o) (.int .i64 r') (.int .i64 a') (.int .i64 bb') (.int .i64 n) 85
 have HWW:=hidW hW
 have KW:=hidW kW
 have HX:=hidW hx
 have HTW:=hidW (h.below kW hz)
 clear h kW hx hW
 obtain ⟨x0,x1,x2,x3,x4,xz⟩:=HX.out
 obtain ⟨c0,c1,c2,c3,c4,cr,cf,cz,-⟩:=HTW.out
 go_enter Tryz.func77,Tryz.ntmps77
 go_upto_region 1 with fail
 rw [HWW.out]
 go_wp2
 go_ret
 exact ⟨rfl,belowP (belowP KW.out)⟩
theorem zero_yes (o r a bb n : Int) (b S : Nat) (who pc nx st : Int) (rg : List Int) (w : World) (h : Tn w b S who pc nx st rg) (hr : 0 ≤ r ∧ r ≤ 3) (ha : 0 ≤ a ∧ a ≤ 3) (hb : 0 ≤ bb ∧ bb ≤ 3) (hz0 : regN rg a = 0) :
  Calls Tryz.prog 76 #[.pointer (some ⟨b,0,none⟩),.agg #[.int .i64 o,.int .i64 r,.int .i64 a,.int .i64 bb,.int .i64 n]] w fun e w'=>e=.returned (.int .i64 0)∧Below w.heap.size (w.setCell ⟨b,3,none⟩ (.int .i64 n)) w':=by
 obtain ⟨r',hr'⟩:∃ r':Nat,r=r':=⟨r.toNat,by omega⟩
 subst hr'
 have br0:(0:Int)≤(r':Int):=by omega
 have br1:(r':Int) < 4:=by omega
 obtain ⟨a',ha'⟩:∃ a':Nat,a=a':=⟨a.toNat,by omega⟩
 subst ha'
 have ba0:(0:Int)≤(a':Int):=by omega
 have ba1:(a':Int) < 4:=by omega
 obtain ⟨bb',hbb'⟩:∃ bb':Nat,bb=bb':=⟨bb.toNat,by omega⟩
 subst hbb'
 have bbb0:(0:Int)≤(bb':Int):=by omega
 have bbb1:(bb':Int) < 4:=by omega
 have HT:=hidW h
 have hz:=h.z
 have hl:=h.l
 obtain ⟨va,hva⟩:∃ v,rg.getD a' 0=v:=⟨_,rfl⟩
 have HVa:=hidW hva
 clear hva
 obtain ⟨W,hW,hx,kW,zW⟩:=Xb.new w (.int .i64 o) (.int .i64 r') (.int .i64 a') (.int .i64 bb') (.int .i64 n) 85
 have HWW:=hidW hW
 have KW:=hidW kW
 have HX:=hidW hx
 have HTW:=hidW (h.below kW hz)
 clear h kW hx hW
 obtain ⟨x0,x1,x2,x3,x4,xz⟩:=HX.out
 obtain ⟨c0,c1,c2,c3,c4,cr,cf,cz,-⟩:=HTW.out
 have la:W.cell? ⟨b,5+a',none⟩=some (.int .i64 va):=by rw [← HVa.out];exact cr a' (by omega)
 go_enter Tryz.func76,Tryz.ntmps76
 go_wp2_with fail
 rw [HWW.out]
 have hee:(va==0)=true:=by
  have q:=hz0
  simp only [regN,Int.toNat_natCast,HVa.out] at q
  simp [q]
 clear hz0
 have hne:=ext_ne W
 have u2:=Ext.fit x2 xz
 have ua:=Ext.fit la cz
 refine regionExt W (by kernel_rfl) (by kernel_rfl) ?_
 repeat (go_big_quiet_step (fail))
 refine wpQuiet_nil ?_
 clear hne u2 ua
 rintro w3 ⟨X3,rfl⟩
 obtain ⟨V2,hX3⟩:∃ V2,X3.w=V2:=⟨_,rfl⟩
 have hb3:=X3.b
 rw [hX3] at hb3 ⊢
 have K2:=hidW (KW.out.trans (hb3.mono (by omega)))
 have HX2:=hidW (HX.out.below hb3 xz)
 have HT2:=hidW (HTW.out.below hb3 (by omega))
 clear hb3 hX3 X3 x0 x1 x2 x3 x4 xz c0 c1 c2 c3 c4 cr cf cz la
 obtain ⟨x0,x1,x2,x3,x4,xz⟩:=HX2.out
 obtain ⟨c0,c1,c2,c3,c4,cr,cf,cz,-⟩:=HT2.out
 go_wp2
 go_ret
 exact ⟨rfl,belowP K2.out⟩
theorem zero_no (o r a bb n : Int) (b S : Nat) (who pc nx st : Int) (rg : List Int) (w : World) (h : Tn w b S who pc nx st rg) (hr : 0 ≤ r ∧ r ≤ 3) (ha : 0 ≤ a ∧ a ≤ 3) (hb : 0 ≤ bb ∧ bb ≤ 3) (hz0 : ¬ regN rg a = 0) :
  Calls Tryz.prog 76 #[.pointer (some ⟨b,0,none⟩),.agg #[.int .i64 o,.int .i64 r,.int .i64 a,.int .i64 bb,.int .i64 n]] w fun e w'=>e=.returned (.int .i64 0)∧Below w.heap.size w w':=by
 obtain ⟨r',hr'⟩:∃ r':Nat,r=r':=⟨r.toNat,by omega⟩
 subst hr'
 have br0:(0:Int)≤(r':Int):=by omega
 have br1:(r':Int) < 4:=by omega
 obtain ⟨a',ha'⟩:∃ a':Nat,a=a':=⟨a.toNat,by omega⟩
 subst ha'
 have ba0:(0:Int)≤(a':Int):=by omega
 have ba1:(a':Int) < 4:=by omega
 obtain ⟨bb',hbb'⟩:∃ bb':Nat,bb=bb':=⟨bb.toNat,by omega⟩
 subst hbb'
 have bbb0:(0:Int)≤(bb':Int):=by omega
 have bbb1:(bb':Int) < 4:=by omega
 have HT:=hidW h
 have hz:=h.z
 have hl:=h.l
 obtain ⟨va,hva⟩:∃ v,rg.getD a' 0=v:=⟨_,rfl⟩
 have HVa:=hidW hva
 clear hva
 obtain ⟨W,hW,hx,kW,zW⟩:=Xb.new w (.int .i64 o) (.int .i64 r') (.int .i64 a') (.int .i64 bb') (.int .i64 n) 85
 have HWW:=hidW hW
 have KW:=hidW kW
 have HX:=hidW hx
 have HTW:=hidW (h.below kW hz)
 clear h kW hx hW
 obtain ⟨x0,x1,x2,x3,x4,xz⟩:=HX.out
 obtain ⟨c0,c1,c2,c3,c4,cr,cf,cz,-⟩:=HTW.out
 have la:W.cell? ⟨b,5+a',none⟩=some (.int .i64 va):=by rw [← HVa.out];exact cr a' (by omega)
 go_enter Tryz.func76,Tryz.ntmps76
 go_wp2_with fail
 rw [HWW.out]
 have hee:(va==0)=false:=by
  have q:=hz0
  simp only [regN,Int.toNat_natCast,HVa.out] at q
  simp [q]
 clear hz0
 have hne:=ext_ne W
 have u2:=Ext.fit x2 xz
 have ua:=Ext.fit la cz
 refine regionExt W (by kernel_rfl) (by kernel_rfl) ?_
 repeat (go_big_quiet_step (fail))
 refine wpQuiet_nil ?_
 clear hne u2 ua
 rintro w3 ⟨X3,rfl⟩
 obtain ⟨V2,hX3⟩:∃ V2,X3.w=V2:=⟨_,rfl⟩
 have hb3:=X3.b
 rw [hX3] at hb3 ⊢
 have K2:=hidW (KW.out.trans (hb3.mono (by omega)))
 have HX2:=hidW (HX.out.below hb3 xz)
 have HT2:=hidW (HTW.out.below hb3 (by omega))
 clear hb3 hX3 X3 x0 x1 x2 x3 x4 xz c0 c1 c2 c3 c4 cr cf cz la
 obtain ⟨x0,x1,x2,x3,x4,xz⟩:=HX2.out
 obtain ⟨c0,c1,c2,c3,c4,cr,cf,cz,-⟩:=HT2.out
 go_wp2
 go_ret
 exact ⟨rfl,K2.out⟩
set_option maxHeartbeats 2000000 in
theorem came_any (v how : Int) (o r a bb n : Int) (b S : Nat) (who pc nx st : Int) (rg : List Int) (w : World) (h : Tn w b S who pc nx st rg) (hr : 0 ≤ r ∧ r ≤ 3) (ha : 0 ≤ a ∧ a ≤ 3) (hb : 0 ≤ bb ∧ bb ≤ 3) (hne' : r ≠ bb) :
  Calls Tryz.prog 91 #[.pointer (some ⟨b,0,none⟩),.agg #[.int .i64 o,.int .i64 r,.int .i64 a,.int .i64 bb,.int .i64 n],.int .i64 v,.int .i64 how] w fun e w'=>e=.returned (.int .i64 0)∧Below w.heap.size ((w.setCell ⟨b,5+r.toNat,none⟩ (.int .i64 v)).setCell ⟨b,5+bb.toNat,none⟩ (.int .i64 how)) w':=by
 obtain ⟨r',hr'⟩:∃ r':Nat,r=r':=⟨r.toNat,by omega⟩
 subst hr'
 have br0:(0:Int)≤(r':Int):=by omega
 have br1:(r':Int) < 4:=by omega
 obtain ⟨a',ha'⟩:∃ a':Nat,a=a':=⟨a.toNat,by omega⟩
 subst ha'
 have ba0:(0:Int)≤(a':Int):=by omega
 have ba1:(a':Int) < 4:=by omega
 obtain ⟨bb',hbb'⟩:∃ bb':Nat,bb=bb':=⟨bb.toNat,by omega⟩
 subst hbb'
 have bbb0:(0:Int)≤(bb':Int):=by omega
 have bbb1:(bb':Int) < 4:=by omega
 have HT:=hidW h
 have hz:=h.z
 have hl:=h.l
 obtain ⟨vr,hvr⟩:∃ v,rg.getD r' 0=v:=⟨_,rfl⟩
 have HVr:=hidW hvr
 clear hvr
 obtain ⟨vbb,hvbb⟩:∃ v,rg.getD bb' 0=v:=⟨_,rfl⟩
 have HVbb:=hidW hvbb
 clear hvbb
 obtain ⟨W,hW,hx,kW,zW⟩:=Xb.new w (.int .i64 o) (.int .i64 r') (.int .i64 a') (.int .i64 bb') (.int .i64 n) 85
 have HWW:=hidW hW
 have KW:=hidW kW
 have HX:=hidW hx
 have HTW:=hidW (h.below kW hz)
 clear h kW hx hW
 obtain ⟨x0,x1,x2,x3,x4,xz⟩:=HX.out
 obtain ⟨c0,c1,c2,c3,c4,cr,cf,cz,-⟩:=HTW.out
 have lr:W.cell? ⟨b,5+r',none⟩=some (.int .i64 vr):=by rw [← HVr.out];exact cr r' (by omega)
 have lbb:W.cell? ⟨b,5+bb',none⟩=some (.int .i64 vbb):=by rw [← HVbb.out];exact cr bb' (by omega)
 go_enter Tryz.func91,Tryz.ntmps91
 go_wp2_with fail
 rw [HWW.out]
 have nrb:¬ r'=bb':=fun e=>hne' (by rw [e])
 have nrb':¬ bb'=r':=fun e=>hne' (by rw [e])
 have nd1:¬ 5+r'=5+bb':=by omega
 have nd2:¬ 5+bb'=5+r':=by omega
 have nz1:¬ b=w.heap.size:=by omega
 have nz2:¬ w.heap.size=b:=by omega
 clear hne'
 go_region_held3 (fun w'=>w'.cell? ⟨w.heap.size,1,none⟩=some (.int .i64 r')∧w'.cell? ⟨w.heap.size,3,none⟩=some (.int .i64 bb')) (go_keep) (fail)
 all_goals
  go_wp2
  go_ret
  exact ⟨rfl,by simp only [Int.toNat_natCast];first | exact belowP (belowP KW.out) | exact belowP (belowP KW.out.drew) | exact Below.drew (belowP (belowP KW.out))⟩
theorem cell_blk {w:World} {b j:Nat} {cs:Array Value} {T:TypeId} {f:Nat×Nat} (h:w.heap[b]? =some (.cells cs T f)):w.cell? ⟨b,j,none⟩=cs[j]? :=by
 simp [World.cell?,h]
theorem regs2 {w:World} {b:Nat} {l0 l1 l2 l3:Int} {T:TypeId} (h:w.heap[b]? =some (.cells (splice [Value.int .i64 0,.int .i64 0,.int .i64 0,.int .i64 0] 0 [Value.int .i64 l0,.int .i64 l1,.int .i64 l2,.int .i64 l3]).toArray T (0,0))):w.cell? ⟨b,0,none⟩=some (.int .i64 l0)∧w.cell? ⟨b,1,none⟩=some (.int .i64 l1)∧w.cell? ⟨b,2,none⟩=some (.int .i64 l2)∧w.cell? ⟨b,3,none⟩=some (.int .i64 l3):=by
 refine ⟨?_,?_,?_,?_⟩<;>(rw [cell_blk h];simp [splice])
set_option maxHeartbeats 2000000 in
theorem regsOf_any (s : Option Addr) (c lo hi : Nat) (l : List Int) (w : World) (h : IntsR w lo hi s l) (hB : hi ≤ w.heap.size) (h4 : l.length = 4) :
  Calls Tryz.prog 50 #[.slice s 4 c] w fun e w'=>e=.returned (.agg #[.int .i64 (l.getD 0 0),.int .i64 (l.getD 1 0),.int .i64 (l.getD 2 0),.int .i64 (l.getD 3 0)])∧Below w.heap.size w w':=by
 obtain ⟨l0,l1,l2,l3,rfl⟩:∃ a b c d,l=[a,b,c,d]:=by
  match l,h4 with
  | [a,b,c,d],_=>exact ⟨a,b,c,d,rfl⟩
 obtain ⟨g,o,hs,h1,h2,hc⟩:∃ g o,s=some ⟨g,o,none⟩∧lo≤g∧g < hi∧∀ i,i < 4→w.cell? ⟨g,o+i,none⟩=some (.int .i64 ([l0,l1,l2,l3].getD i 0)):=by
  rcases h with h | ⟨g,o,a,b,c,d⟩
  ·cases h
  ·exact ⟨g,o,a,b,c,d⟩
 subst hs
 have HC:=hidW hc
 clear h hc
 show Calls Tryz.prog 50 #[.slice (some ⟨g,o,none⟩) 4 c] w fun e w'=>e=.returned (.agg #[.int .i64 l0,.int .i64 l1,.int .i64 l2,.int .i64 l3])∧Below w.heap.size w w'
 obtain ⟨W,hW⟩:∃ W,(w.alloc (.cells #[.int .i64 0,.int .i64 0,.int .i64 0,.int .i64 0] 87)).alloc (.cells #[.int .i64 0,.int .i64 0,.int .i64 0,.int .i64 0] 87)=W:=⟨_,rfl⟩
 have kW:Below w.heap.size w W:=by subst hW;exact ((Below.refl _ _).alloc (Nat.le_refl _) _).alloc (by simp) _
 have zW:W.heap.size=w.heap.size+1+1:=by subst hW;simp
 have hg1:W.heap[w.heap.size+1]? =some (.cells [Value.int .i64 0,.int .i64 0,.int .i64 0,.int .i64 0].toArray 87 (0,0)):=by
  have e:w.heap.size+1=(w.alloc (.cells #[.int .i64 0,.int .i64 0,.int .i64 0,.int .i64 0] 87)).heap.size:=by simp
  rw [e]
  subst hW
  exact heap_alloc_new _ _
 have hr0:∀ j,j < 4→W.cell? ⟨w.heap.size,j,none⟩=some (.int .i64 0):=fun j hj=>by
  subst hW
  match j,hj with
  | 0,_=>simp [go_sem]
  | 1,_=>simp [go_sem]
  | 2,_=>simp [go_sem]
  | 3,_=>simp [go_sem]
 have hrf:∀ j,W.frozen? ⟨w.heap.size,j,none⟩=false:=fun j=>by subst hW;simp [go_sem]
 have HSRC:Hid (∀ (j:Nat) (v:Value),[Value.int .i64 l0,.int .i64 l1,.int .i64 l2,.int .i64 l3][j]? =some v→W.cell? (Addr.add ⟨g,o,none⟩ j)=some v):=fun j v hv=>by
  have e:=kW.cell (p:=⟨g,o+j,none⟩) (by show g < _;omega)
  have e3:Addr.add ⟨g,o,none⟩ j=⟨g,o+j,none⟩:=by simp [Addr.add]
  rw [e3,e]
  match j,hv with
  | 0,hv=>simp at hv;subst hv;exact HC.out 0 (by omega)
  | 1,hv=>simp at hv;subst hv;exact HC.out 1 (by omega)
  | 2,hv=>simp at hv;subst hv;exact HC.out 2 (by omega)
  | 3,hv=>simp at hv;subst hv;exact HC.out 3 (by omega)
  | j+4,hv=>simp at hv
 have HW:=hidW hW
 have KW:=hidW kW
 have HG1:=hidW hg1
 have HR0:=hidW hr0
 have HRF:=hidW hrf
 have hz1:w.heap.size+1 < W.heap.size:=by omega
 clear hW kW hg1 hr0 hrf zW
 go_enter Tryz.func50,Tryz.ntmps50
 go_upto_region 2 with fail
 rw [HW.out]
 go_wp2_with (refine wpList_copy_splice rfl _ _ 24 24 rfl 3 Tryz.underlying24 rfl _ (some ⟨g,o,none⟩) _ _ _ _ rfl rfl (w.heap.size+1) 0 [Value.int .i64 0,.int .i64 0,.int .i64 0,.int .i64 0] 87 HG1.out [Value.int .i64 l0,.int .i64 l1,.int .i64 l2,.int .i64 l3] rfl (fun _=>⟨rfl,⟨g,o,none⟩,rfl,HSRC.out⟩) (by simp) (fun v hv=>by simp at hv;rcases hv with rfl | rfl | rfl | rfl<;>rfl) (w.heap.size+1) W (Below.refl _ _) (Nat.le_refl _) ?_;intro w2 hG2 hB2;obtain ⟨q0,q1,q2,q3⟩:=regs2 hG2.out;have K2:=hidW hB2;have zr:w.heap.size < w.heap.size+1:=(by omega);have r0:=(hB2.cell (p:=⟨w.heap.size,0,none⟩) zr).trans (HR0.out 0 (by omega));have r1:=(hB2.cell (p:=⟨w.heap.size,1,none⟩) zr).trans (HR0.out 1 (by omega));have r2:=(hB2.cell (p:=⟨w.heap.size,2,none⟩) zr).trans (HR0.out 2 (by omega));have r3:=(hB2.cell (p:=⟨w.heap.size,3,none⟩) zr).trans (HR0.out 3 (by omega));have rf:∀ j,w2.frozen? ⟨w.heap.size,j,none⟩=false:=fun j=>(hB2.frozen (p:=⟨w.heap.size,j,none⟩) zr).trans (HRF.out j);clear hG2 hB2)
 refine bodyPost_ret (v:=.agg #[.int .i64 l0,.int .i64 l1,.int .i64 l2,.int .i64 l3]) (by simp [results,Tryz.results50,go_sem,r0,r1,r2,r3]) rfl ⟨rfl,?_⟩
 refine Below.setCell (Below.setCell (Below.setCell (Below.setCell (KW.out.trans (K2.out.mono (by omega))) ?_ _) ?_ _) ?_ _) ?_ _<;>exact Nat.le_refl _
set_option maxHeartbeats 2000000 in
theorem doings_any (w:World):Calls Tryz.prog 51 #[] w fun e w'=>e=.returned (.agg #[.nilFunc,.func (.func 65) #[] #[],.func (.func 66) #[] #[],.func (.func 67) #[] #[],.func (.func 68) #[] #[],.func (.func 69) #[] #[],.func (.func 70) #[] #[],.func (.func 71) #[] #[],.func (.func 72) #[] #[],.func (.func 73) #[] #[],.func (.func 74) #[] #[],.func (.func 75) #[] #[],.func (.func 76) #[] #[],.func (.func 77) #[] #[]])∧Below w.heap.size w w':=by
 go_enter Tryz.func51,Tryz.ntmps51
 go_wp2
 refine bodyPost_ret (v:=.agg #[.nilFunc,.func (.func 65) #[] #[],.func (.func 66) #[] #[],.func (.func 67) #[] #[],.func (.func 68) #[] #[],.func (.func 69) #[] #[],.func (.func 70) #[] #[],.func (.func 71) #[] #[],.func (.func 72) #[] #[],.func (.func 73) #[] #[],.func (.func 74) #[] #[],.func (.func 75) #[] #[],.func (.func 76) #[] #[],.func (.func 77) #[] #[]]) (by simp [results,Tryz.results51,go_sem]) rfl ⟨rfl,?_⟩
 exact (Below.refl _ _).alloc (Nat.le_refl _) _
end Go.Proofs.YtknffngbdakblaaGreat
