/- ViewOk and MemoryOk, of the program and of the specification. Conditions: lists of at most 2^20 + 100. laws.eqStep says yes of a step and itself; it makes memory, and turns none. No condition. -/
import Derived.Test.YtlbeploopclegaaGreatQG00
import Derived.Test.YtlbeploopclegaaGreatQG01
import Derived.Test.YtlbeploopclegaaGreatQG05
import Derived.Test.YtlbeploopclegaaGreatQG04
import Derived.Deep.QuietTactic
import Derived.BigQuiet
import Derived.Test.YtlbeploopclegaaGreatQC7Leaf
namespace Go.Proofs.YtlbeploopclegaaGreat
section
set_option linter.unusedSimpArgs false
set_option linter.unusedVariables false
set_option maxRecDepth 100000
open Go.RowKit
def viewB (m:List (List WD)) (l:List Int):Bool:=decide (l.length=m.length∧∀ i,i < l.length→0≤l.getD i 0∧l.getD i 0 < ((m.getD i []).length:Int))
def rowB (m:List (List WD)) (r:List WD):Bool:=decide (1≤r.length∧r.length≤4000)&&r.all (fun x=>viewB m x.vw)
def memB (m:List (List WD)):Bool:=decide (m.length=24)&&m.all (rowB m)
theorem all_take {α:Type} {p:α→Bool} {l:List α} {k:Nat} {x:α} (h:l[k]? =some x):(l.take (k+1)).all p=((l.take k).all p&&p x):=by
 rw [List.take_add_one,h,Option.toList_some,List.all_append]
 simp
theorem all_no {α:Type} {p:α→Bool} {l:List α} {k:Nat} {x:α} (h:l[k]? =some x) (hx:p x=false):l.all p=false:=by
 rw [List.all_eq_false]
 exact ⟨x,List.mem_of_getElem? h,by simp [hx]⟩
theorem belowQ {B:Nat} {w w':World} (h:Below B w w') (n:Nat):Below B w (w'.drewN n):=⟨h.os,h.tape,h.output,h.size,h.block⟩
theorem isOneOfD_any (n c:Int) (w:World):Calls Tryz.prog 31 #[.int .i64 n,.int .i64 c] w fun e w'=>e=.returned (.bool (decide (0≤n∧n < c)))∧w'=w:=by
 by_cases h:0≤n
 ·by_cases h2:n < c
  ·rw [decide_eq_true ⟨h,h2⟩]
   go_enter Tryz.func31,Tryz.ntmps31
   go_wp2
   go_ret
   exact ⟨by simp,rfl⟩
  ·rw [decide_eq_false (fun e=>h2 e.2)]
   go_enter Tryz.func31,Tryz.ntmps31
   go_wp2
   go_ret
   exact ⟨by simp,rfl⟩
 ·rw [decide_eq_false (fun e=>h e.1)]
  go_enter Tryz.func31,Tryz.ntmps31
  go_wp2
  go_ret
  exact ⟨by simp,rfl⟩
theorem l1InD_any (x a b:Int) (w:World):Calls Tryz.prog 23 #[.int .i64 x,.int .i64 a,.int .i64 b] w fun e w'=>e=.returned (.bool (decide (a≤x∧x≤b)))∧w'=w:=by
 by_cases h:x≥a
 ·by_cases h2:x≤b
  ·rw [decide_eq_true ⟨h,h2⟩]
   go_enter Tryz.func23,Tryz.ntmps23
   go_wp2
   go_ret
   exact ⟨by simp,rfl⟩
  ·rw [decide_eq_false (fun e=>h2 e.2)]
   go_enter Tryz.func23,Tryz.ntmps23
   go_wp2
   go_ret
   exact ⟨by simp,rfl⟩
 ·rw [decide_eq_false (fun e=>h e.1)]
  go_enter Tryz.func23,Tryz.ntmps23
  go_wp2
  go_ret
  exact ⟨by simp,rfl⟩
theorem l1InD_is (x lo hi:Int) (b:Bool) (w:World) (h:decide (lo≤x∧x≤hi)=b):Calls Tryz.prog 23 #[.int .i64 x,.int .i64 lo,.int .i64 hi] w fun e w'=>e=.returned (.bool b)∧w'=w:=by
 rw [← h]
 exact l1InD_any x lo hi w
set_option maxHeartbeats 2000000 in
theorem fits_any (s s' : Option Addr) (c c' lo hi lo' hi' : Nat) (m : List (List WD)) (l : List Int) (w : World) (h : MemR w lo hi s m) (h' : IntsR w lo' hi' s' l) (hB : hi ≤ w.heap.size) (hB' : hi' ≤ w.heap.size) (hl : l.length ≤ 2000000) :
  Calls Tryz.prog 134 #[.slice s' l.length c',.agg #[.slice s m.length c]] w fun e w'=>e=.returned (.bool (viewB m l))∧Below w.heap.size w w':=by
 have H:Hid (MemR w lo hi s m):=h
 have H':Hid (IntsR w lo' hi' s' l):=h'
 clear h h'
 by_cases hn:l.length=m.length
 ·have hne:((l.length:Int) !=(m.length:Int))=false:=by simp;omega
  have HN:Hid (l.length=m.length):=hn
  clear hn
  go_enter Tryz.func134,Tryz.ntmps134
  go_wp2
  obtain ⟨W,hW,bx,kb,zb⟩:=Bo1.new w (.slice s m.length c) 35
  rw [hW]
  clear hW
  have HW:Hid (MemR W lo hi s m):=H.out.keep (Keep.of_below kb hB)
  have HW':Hid (IntsR W lo' hi' s' l):=H'.out.keep (Keep.of_below kb hB')
  have c0:=bx.c0
  have HKB:Hid (Below w.heap.size w W):=kb
  have z0:w.heap.size < W.heap.size:=by omega
  clear bx kb zb
  go_loop [5,6,15] (fun _ _ i=>∃ k:Nat,k≤l.length∧i=.int .i64 k∧∀ j,j < k→0≤l.getD j 0∧l.getD j 0 < ((m.getD j []).length:Int)) (fun _ _ i=>l.length - (intOf i).toNat)
  case atStart=>exact ⟨0,Nat.zero_le _,rfl,fun j hj=>absurd hj (Nat.not_lt_zero _)⟩
  case round=>
   obtain ⟨k,hk,rfl,hj⟩:=hrel
   have HJ:Hid (∀ j,j < k→0≤l.getD j 0∧l.getD j 0 < ((m.getD j []).length:Int)):=hj
   clear hj
   by_cases hlt:k < l.length
   ·have hlt':k < m.length:=by have:=HN.out;omega
    obtain ⟨g',o',e1,a1,a2,a3⟩:=HW'.out.pos (by omega)
    obtain ⟨r,hr⟩:∃ r,m[k]? =some r:=⟨_,List.getElem?_eq_getElem hlt'⟩
    obtain ⟨g,o,s1,c1,e2,q1,q2,q3,-⟩:=HW.out.row hr
    subst e1 e2
    have f1:=a3 k hlt
    have HG:Hid (m.getD k []=r):=by show m.getD k []=r;rw [List.getD_eq_getElem?_getD,hr];rfl
    clear a3 hr
    generalize hx:l.getD k 0=x at f1
    have HX:Hid (l.getD k 0=x):=hx
    clear hx
    generalize hrn:r.length=rn at q3
    have HRN:Hid (r.length=rn):=hrn
    clear hrn
    have b0:(0:Int)≤(k:Int):=by omega
    have b1:(k:Int) < (l.length:Int):=by omega
    have b2:(k:Int) < (m.length:Int):=by omega
    have io:=isOneOfD_any x rn W
    by_cases hxy:0≤x∧x < (rn:Int)
    ·rw [decide_eq_true hxy] at io
     have HXY:Hid (0≤x∧x < (rn:Int)):=hxy
     clear hxy
     go_wp2_with (go_at_call 31;refine io.mono ?_;rintro e w9 ⟨rfl,hw9⟩;subst w9)
     go_round
     case rel=>
      refine ⟨k+1,by omega,by go_num,fun j hj=>?_⟩
      by_cases e:j < k
      ·exact HJ.out j e
      ·have:j=k:=by omega
       subst this
       rw [HX.out,HG.out,HRN.out]
       exact HXY.out
     case measure=>simp [intOf];omega
    ·rw [decide_eq_false hxy] at io
     have HXY:Hid (¬ (0≤x∧x < (rn:Int))):=hxy
     clear hxy
     go_wp2_with (go_at_call 31;refine io.mono ?_;rintro e w9 ⟨rfl,hw9⟩;subst w9)
     go_ret
     refine ⟨ret_bool' ?_,HKB.out⟩
     symm
     refine decide_eq_false (fun h=>HXY.out ?_)
     have:=h.2 k hlt
     rw [HX.out,HG.out,HRN.out] at this
     exact this
   ·go_wp2
    go_ret
    refine ⟨ret_bool' ?_,HKB.out⟩
    symm
    exact decide_eq_true ⟨HN.out,fun j hj=>HJ.out j (by omega)⟩
 ·have hne:((l.length:Int) !=(m.length:Int))=true:=by simp;omega
  have HN:Hid (¬ l.length=m.length):=hn
  clear hn
  go_enter Tryz.func134,Tryz.ntmps134
  go_wp2
  go_ret
  refine ⟨ret_bool' ?_,(Below.refl _ _).alloc (Nat.le_refl _) _⟩
  symm
  exact decide_eq_false (fun h=>HN.out h.1)
theorem implViewOk_any (s s' : Option Addr) (c c' lo hi lo' hi' : Nat) (m : List (List WD)) (l : List Int) (w : World) (h : MemR w lo hi s m) (h' : IntsR w lo' hi' s' l) (hB : hi ≤ w.heap.size) (hB' : hi' ≤ w.heap.size) (hl : l.length ≤ 2000000) :
  Calls Tryz.prog 114 #[.agg #[.slice s m.length c],.slice s' l.length c'] w fun e w'=>e=.returned (.bool (viewB m l))∧Below w.heap.size w w':=by
 have k1:Below w.heap.size w (w.alloc (.cells #[.slice s m.length c] 35)):=(Below.refl _ _).alloc (Nat.le_refl _) _
 have H:=fits_any s s' c c' lo hi lo' hi' m l (w.alloc (.cells #[.slice s m.length c] 35)) (h.keep (Keep.of_below k1 hB)) (h'.keep (Keep.of_below k1 hB')) (by simp;omega) (by simp;omega) hl
 have HK:Hid (Below w.heap.size w (w.alloc (.cells #[.slice s m.length c] 35))):=k1
 clear h h' k1
 go_enter Tryz.func114,Tryz.ntmps114
 go_wp2_with (go_at_call 134;refine H.mono ?_;rintro e w1 ⟨rfl,hb1⟩;have HB1:=(show Hid _ from hb1);clear hb1)
 go_ret
 exact ⟨rfl,HK.out.trans (HB1.out.mono (by simp))⟩
set_option maxHeartbeats 2000000 in
theorem specViewOk_any (s s' : Option Addr) (c c' lo hi lo' hi' : Nat) (m : List (List WD)) (l : List Int) (w : World) (h : MemR w lo hi s m) (h' : IntsR w lo' hi' s' l) (hB : hi ≤ w.heap.size) (hB' : hi' ≤ w.heap.size) (hl : l.length ≤ 2000000) (hm : ∀ (i : Nat) (r : List WD), m[i]? = some r → r.length ≤ 2000000) :
  Calls Tryz.prog 51 #[.agg #[.slice s m.length c],.slice s' l.length c'] w fun e w'=>e=.returned (.bool (viewB m l))∧Below w.heap.size w w':=by
 have H:Hid (MemR w lo hi s m):=h
 have H':Hid (IntsR w lo' hi' s' l):=h'
 have HM:Hid (∀ (i:Nat) (r:List WD),m[i]? =some r→r.length≤2000000):=hm
 clear h h' hm
 by_cases hn:l.length=m.length
 ·have hne:((l.length:Int) !=(m.length:Int))=false:=by simp;omega
  have HN:Hid (l.length=m.length):=hn
  clear hn
  go_enter Tryz.func51,Tryz.ntmps51
  go_wp2
  obtain ⟨W,hW,bx,kb,zb⟩:=Bo1.new w (.slice s m.length c) 35
  rw [hW]
  clear hW
  have HW:Hid (MemR W lo hi s m):=H.out.keep (Keep.of_below kb hB)
  have HW':Hid (IntsR W lo' hi' s' l):=H'.out.keep (Keep.of_below kb hB')
  have c0:=bx.c0
  have HKB:Hid (Below w.heap.size w W):=kb
  have z9:hi≤W.heap.size∧hi'≤W.heap.size:=by omega
  obtain ⟨z9,z8⟩:=z9
  have z0:w.heap.size < W.heap.size:=by omega
  clear bx kb zb
  go_loopw [5] (fun i wr=>∃ k:Nat,k≤l.length∧i=.int .i64 k∧(∀ j,j < k→0≤l.getD j 0∧l.getD j 0 < ((m.getD j []).length:Int))∧Below W.heap.size W wr) (fun i _=>l.length - (intOf i).toNat)
  case atStart=>exact ⟨0,Nat.zero_le _,rfl,fun j hj=>absurd hj (Nat.not_lt_zero _),Below.refl _ _⟩
  case round=>
   obtain ⟨k,hk,rfl,hj,hbw⟩:=hrel
   have HBW:Hid (Below W.heap.size W wr):=hbw
   have c1:=(hbw.cell (p:=⟨w.heap.size,0,none⟩) z0).trans c0
   have z1:=hbw.size
   have z2:w.heap.size < wr.heap.size:=by omega
   clear hbw
   have HJ:Hid (∀ j,j < k→0≤l.getD j 0∧l.getD j 0 < ((m.getD j []).length:Int)):=hj
   clear hj
   by_cases hlt:k < l.length
   ·have hlt':k < m.length:=by have:=HN.out;omega
    obtain ⟨g',o',e1,a1,a2,a3⟩:=(HW'.out.keep (Keep.of_below HBW.out (by omega))).pos (by omega)
    obtain ⟨r,hr⟩:∃ r,m[k]? =some r:=⟨_,List.getElem?_eq_getElem hlt'⟩
    obtain ⟨g,o,s1,c2,e2,q1,q2,q3,-⟩:=(HW.out.keep (Keep.of_below HBW.out (by omega))).row hr
    subst e1 e2
    have f1:=a3 k hlt
    have HG:Hid (m.getD k []=r):=by show m.getD k []=r;rw [List.getD_eq_getElem?_getD,hr];rfl
    have hrb:=HM.out k r hr
    clear a3 hr
    generalize hx:l.getD k 0=x at f1
    have HX:Hid (l.getD k 0=x):=hx
    clear hx
    generalize hrn:r.length=rn at q3 hrb
    have HRN:Hid (r.length=rn):=hrn
    clear hrn
    have b0:(0:Int)≤(k:Int):=by omega
    have b1:(k:Int) < (l.length:Int):=by omega
    have b2:(k:Int) < (m.length:Int):=by omega
    have hwp:IntKind.i64.wrap ((rn:Int) - 1)=(rn:Int) - 1:=Go.IntWalk.i64_in _ (by omega)
    by_cases hxy:0≤x∧x≤(rn:Int) - 1
    ·have HXY:Hid (0≤x∧x < (rn:Int)):=⟨hxy.1,by omega⟩
     have HD:Hid (decide ((0:Int)≤x∧x≤IntKind.i64.wrap ((rn:Int) - 1))=true):=by show decide _=true;rw [hwp];exact decide_eq_true hxy
     clear hxy hwp
     go_wp2_with fail
     go_quiet ((go_at_call 23;exact Calls.quiet_of_same (l1InD_is _ _ _ true _ HD.out)))
     go_wp2
     go_roundw
     case rel=>
      refine ⟨k+1,by omega,by go_num,fun j hj=>?_,belowQ HBW.out nq⟩
      by_cases e:j < k
      ·exact HJ.out j e
      ·have:j=k:=by omega
       subst this
       rw [HX.out,HG.out,HRN.out]
       exact HXY.out
     case measure=>simp [intOf];omega
    ·have HXY:Hid (¬ (0≤x∧x < (rn:Int))):=fun h=>hxy ⟨h.1,by omega⟩
     have HD:Hid (decide ((0:Int)≤x∧x≤IntKind.i64.wrap ((rn:Int) - 1))=false):=by show decide _=false;rw [hwp];exact decide_eq_false hxy
     clear hxy hwp
     go_wp2_with fail
     go_quiet ((go_at_call 23;exact Calls.quiet_of_same (l1InD_is _ _ _ false _ HD.out)))
     go_wp2
     go_ret
     refine ⟨ret_bool' ?_,HKB.out.trans ((belowQ HBW.out nq).mono (by omega))⟩
     symm
     refine decide_eq_false (fun h=>HXY.out ?_)
     have:=h.2 k hlt
     rw [HX.out,HG.out,HRN.out] at this
     exact this
   ·go_wp2
    go_ret
    refine ⟨ret_bool' ?_,HKB.out.trans (HBW.out.mono (by omega))⟩
    symm
    exact decide_eq_true ⟨HN.out,fun j hj=>HJ.out j (by omega)⟩
 ·have hne:((l.length:Int) !=(m.length:Int))=true:=by simp;omega
  have HN:Hid (¬ l.length=m.length):=hn
  clear hn
  go_enter Tryz.func51,Tryz.ntmps51
  go_wp2
  go_ret
  refine ⟨ret_bool' ?_,(Below.refl _ _).alloc (Nat.le_refl _) _⟩
  symm
  exact decide_eq_false (fun h=>HN.out h.1)
set_option maxHeartbeats 2000000 in
theorem writesOk_any (s s' : Option Addr) (c c' lo hi : Nat) (m : List (List WD)) (l : List WD) (w : World) (h : MemR w lo hi s m) (h' : WsR w lo hi s' l) (hB : hi ≤ w.heap.size) (hl : l.length + szV l ≤ 2000000) :
  Calls Tryz.prog 86 #[.agg #[.slice s m.length c],.slice s' l.length c'] w fun e w'=>e=.returned (.bool (rowB m l))∧Below w.heap.size w w':=by
 have H:Hid (MemR w lo hi s m):=h
 have H':Hid (WsR w lo hi s' l):=h'
 have HV:Hid (∀ (i:Nat) (x:WD),l[i]? =some x→x.vw.length≤2000000):=fun i x hx=>by have:=szV_at l i x hx;omega
 clear h h'
 by_cases h1:(l.length:Int) < 1
 ·have HR:Hid (rowB m l=false):=by show rowB m l=false;unfold rowB;rw [decide_eq_false (by omega)];rfl
  go_enter Tryz.func86,Tryz.ntmps86
  go_wp2
  go_ret
  exact ⟨ret_bool' HR.out.symm,(Below.refl _ _).alloc (Nat.le_refl _) _⟩
 by_cases h2:(l.length:Int) > 4000
 ·have HR:Hid (rowB m l=false):=by show rowB m l=false;unfold rowB;rw [decide_eq_false (by omega)];rfl
  go_enter Tryz.func86,Tryz.ntmps86
  go_wp2
  go_ret
  exact ⟨ret_bool' HR.out.symm,(Below.refl _ _).alloc (Nat.le_refl _) _⟩
 have HR:Hid (rowB m l=l.all (fun x=>viewB m x.vw)):=by show rowB m l=_;unfold rowB;rw [decide_eq_true (by omega)];rfl
 go_enter Tryz.func86,Tryz.ntmps86
 go_wp2
 obtain ⟨W,hW,bx,kb,zb⟩:=Bo1.new w (.slice s m.length c) 35
 rw [hW]
 clear hW
 have c0:=bx.c0
 have HKB:Hid (Below w.heap.size w W):=kb
 have z0:w.heap.size < W.heap.size:=by omega
 have z9:hi≤W.heap.size:=by omega
 have HW:Hid (MemR W lo hi s m):=H.out.keep (Keep.of_below kb hB)
 have HW':Hid (WsR W lo hi s' l):=H'.out.keep (Keep.of_below kb hB)
 clear bx kb zb
 go_loopw [17] (fun i wr=>∃ k:Nat,k≤l.length∧i=.int .i64 k∧Hid ((l.take k).all (fun x=>viewB m x.vw)=true)∧Below W.heap.size W wr) (fun i _=>l.length - (intOf i).toNat)
 case atStart=>exact ⟨0,Nat.zero_le _,rfl,show _=_ by simp,Below.refl _ _⟩
 case round=>
  obtain ⟨k,hk,rfl,HJ,hbw⟩:=hrel
  have HBW:Hid (Below W.heap.size W wr):=hbw
  have d0:=(hbw.cell (p:=⟨w.heap.size,0,none⟩) z0).trans c0
  have z1:=hbw.size
  have z2:w.heap.size < wr.heap.size:=by omega
  clear hbw
  by_cases hlt:k < l.length
  ·obtain ⟨x,hx⟩:∃ x,l[k]? =some x:=⟨_,List.getElem?_eq_getElem hlt⟩
   obtain ⟨g,o,s1,c1,e1,q1,q2,q3,q4,q5⟩:=(HW'.out.keep (Keep.of_below HBW.out z9)).at hx
   subst e1
   have hv:=HV.out k x hx
   have HI:Hid (IntsR wr lo hi s1 x.vw):=q5
   have HM:Hid (MemR wr lo hi s m):=HW.out.keep (Keep.of_below HBW.out z9)
   have HX:Hid (l[k]? =some x):=hx
   clear q5 hx
   have b0:(0:Int)≤(k:Int):=by omega
   have b1:(k:Int) < (l.length:Int):=by omega
   have zg:g < wr.heap.size:=by omega
   go_wp2_with fail
   have k2:Below wr.heap.size wr (wr.alloc (.cells #[.int .i64 x.v,.slice s1 x.vw.length c1] 99)):=(Below.refl _ _).alloc (Nat.le_refl _) _
   refine (implViewOk_any s s1 c c1 lo hi lo hi m x.vw _ (HM.out.keep (Keep.of_below k2 (by omega))) (HI.out.keep (Keep.of_below k2 (by omega))) (by simp;omega) (by simp;omega) hv).mono ?_
   rintro e w2 ⟨rfl,hb2⟩
   have HB2:Hid (Below W.heap.size W w2):=(HBW.out.trans (k2.mono z1)).trans (hb2.mono (by simp;omega))
   have HT:Hid ((l.take (k+1)).all (fun x=>viewB m x.vw)=((l.take k).all (fun x=>viewB m x.vw)&&viewB m x.vw)):=all_take HX.out
   have HF:Hid (viewB m x.vw=false→l.all (fun x=>viewB m x.vw)=false):=fun h=>all_no HX.out h
   clear hb2 k2
   generalize viewB m x.vw=b at HT HF
   cases b
   ·go_wp2
    go_ret
    exact ⟨ret_bool' (HR.out.trans (by first | exact HF.out rfl | exact HF.out trivial)).symm,HKB.out.trans (HB2.out.mono (by omega))⟩
   ·go_wp2
    go_roundw
    case rel=>exact ⟨k+1,by omega,by go_num,show _=_ by rw [HT.out,HJ.out];rfl,HB2.out⟩
    case measure=>simp [intOf];omega
  ·go_wp2
   go_ret
   have:k=l.length:=by omega
   subst this
   have hj:=HJ.out
   rw [List.take_length] at hj
   exact ⟨ret_bool' (by rw [HR.out,hj]),HKB.out.trans (HBW.out.mono (by omega))⟩
set_option maxHeartbeats 2000000 in
theorem implMemoryOk_any (s : Option Addr) (c lo hi : Nat) (m : List (List WD)) (w : World) (h : MemR w lo hi s m) (hB : hi ≤ w.heap.size) (hl : m.length + szR m ≤ 2000000) :
  Calls Tryz.prog 55 #[.agg #[.slice s m.length c]] w fun e w'=>e=.returned (.bool (memB m))∧Below w.heap.size w w':=by
 have H:Hid (MemR w lo hi s m):=h
 have HV:Hid (∀ (i:Nat) (x:List WD),m[i]? =some x→x.length+szV x≤2000000):=fun i x hx=>by have:=szR_at m i x hx;omega
 clear h
 by_cases h1:m.length=24
 ·have hne:((m.length:Int) !=24)=false:=by simp;omega
  have HR:Hid (memB m=m.all (rowB m)):=by show memB m=_;unfold memB;rw [decide_eq_true h1];rfl
  have HN:Hid (m.length=24):=h1
  clear h1
  go_enter Tryz.func55,Tryz.ntmps55
  go_wp2
  obtain ⟨W,hW,bx,kb,zb⟩:=Bo1.new w (.slice s m.length c) 35
  rw [hW]
  clear hW
  have c0:=bx.c0
  have HKB:Hid (Below w.heap.size w W):=kb
  have z0:w.heap.size < W.heap.size:=by omega
  have z9:hi≤W.heap.size:=by omega
  have HW:Hid (MemR W lo hi s m):=H.out.keep (Keep.of_below kb hB)
  clear bx kb zb
  go_loopw [4,12] (fun _ i wr=>∃ k:Nat,k≤m.length∧i=.int .i64 k∧Hid ((m.take k).all (rowB m)=true)∧Below W.heap.size W wr) (fun _ i _=>m.length - (intOf i).toNat)
  case atStart=>exact ⟨0,Nat.zero_le _,rfl,show _=_ by simp,Below.refl _ _⟩
  case round=>
   obtain ⟨k,hk,rfl,HJ,hbw⟩:=hrel
   have HBW:Hid (Below W.heap.size W wr):=hbw
   have d0:=(hbw.cell (p:=⟨w.heap.size,0,none⟩) z0).trans c0
   have z1:=hbw.size
   have z2:w.heap.size < wr.heap.size:=by omega
   clear hbw
   by_cases hlt:k < m.length
   ·obtain ⟨x,hx⟩:∃ x,m[k]? =some x:=⟨_,List.getElem?_eq_getElem hlt⟩
    obtain ⟨g,o,s1,c1,e1,q1,q2,q3,q5⟩:=(HW.out.keep (Keep.of_below HBW.out z9)).row hx
    subst e1
    have HVx:Hid (x.length+szV x≤2000000):=HV.out k x hx
    have HI:Hid (WsR wr lo hi s1 x):=q5
    have HM:Hid (MemR wr lo hi (some ⟨g,o,none⟩) m):=HW.out.keep (Keep.of_below HBW.out z9)
    have HX:Hid (m[k]? =some x):=hx
    clear q5 hx
    have b0:(0:Int)≤(k:Int):=by omega
    have b1:(k:Int) < (m.length:Int):=by omega
    have zg:g < wr.heap.size:=by omega
    go_wp2_with fail
    refine (writesOk_any (some ⟨g,o,none⟩) s1 c c1 lo hi m x wr HM.out HI.out (by omega) HVx.out).mono ?_
    rintro e w2 ⟨rfl,hb2⟩
    have HB2:Hid (Below W.heap.size W w2):=HBW.out.trans (hb2.mono z1)
    have HT:Hid ((m.take (k+1)).all (rowB m)=((m.take k).all (rowB m)&&rowB m x)):=all_take HX.out
    have HF:Hid (rowB m x=false→m.all (rowB m)=false):=fun h=>all_no HX.out h
    clear hb2
    generalize rowB m x=b at HT HF
    cases b
    ·go_wp2
     go_ret
     exact ⟨ret_bool' (HR.out.trans (by first | exact HF.out rfl | exact HF.out trivial)).symm,HKB.out.trans (HB2.out.mono (by omega))⟩
    ·go_wp2
     go_roundw
     case rel=>exact ⟨k+1,by omega,by go_num,show _=_ by rw [HT.out,HJ.out];rfl,HB2.out⟩
     case measure=>simp [intOf];omega
   ·go_wp2
    go_ret
    have:k=m.length:=by omega
    subst this
    have hj:=HJ.out
    rw [List.take_length] at hj
    exact ⟨ret_bool' (by rw [HR.out,hj]),HKB.out.trans (HBW.out.mono (by omega))⟩
 ·have hne:((m.length:Int) !=24)=true:=by simp;omega
  have HR:Hid (memB m=false):=by show memB m=false;unfold memB;rw [decide_eq_false h1];rfl
  go_enter Tryz.func55,Tryz.ntmps55
  go_wp2
  go_ret
  exact ⟨ret_bool' HR.out.symm,(Below.refl _ _).alloc (Nat.le_refl _) _⟩
set_option maxHeartbeats 2000000 in
theorem specMemoryOk_any (s : Option Addr) (c lo hi : Nat) (m : List (List WD)) (w : World) (h : MemR w lo hi s m) (hB : hi ≤ w.heap.size) (hl : m.length + szR m ≤ 2000000) :
  Calls Tryz.prog 49 #[.agg #[.slice s m.length c]] w fun e w'=>e=.returned (.bool (memB m))∧Below w.heap.size w w':=by
 have H:Hid (MemR w lo hi s m):=h
 have HV:Hid (∀ (i:Nat) (x:List WD),m[i]? =some x→x.length+szV x≤2000000):=fun i x hx=>by have:=szR_at m i x hx;omega
 clear h
 by_cases h1:m.length=24
 ·have hne:((m.length:Int) !=24)=false:=by simp;omega
  have HR:Hid (memB m=m.all (rowB m)):=by show memB m=_;unfold memB;rw [decide_eq_true h1];rfl
  have HN:Hid (m.length=24):=h1
  clear h1
  go_enter Tryz.func49,Tryz.ntmps49
  go_wp2
  obtain ⟨W,hW,bx,kb,zb⟩:=Bo1.new w (.slice s m.length c) 35
  rw [hW]
  clear hW
  have c0:=bx.c0
  have HKB:Hid (Below w.heap.size w W):=kb
  have z0:w.heap.size < W.heap.size:=by omega
  have z9:hi≤W.heap.size:=by omega
  have HW:Hid (MemR W lo hi s m):=H.out.keep (Keep.of_below kb hB)
  clear bx kb zb
  go_loopw [3,4] (fun i _ wr=>∃ k:Nat,k≤24∧i=.int .i64 k∧Hid ((m.take k).all (rowB m)=true)∧Below W.heap.size W wr) (fun i _ _=>24 - (intOf i).toNat)
  case atStart=>exact ⟨0,Nat.zero_le _,rfl,show _=_ by simp,Below.refl _ _⟩
  case round=>
   obtain ⟨k,hk,rfl,HJ,hbw⟩:=hrel
   have HBW:Hid (Below W.heap.size W wr):=hbw
   have d0:=(hbw.cell (p:=⟨w.heap.size,0,none⟩) z0).trans c0
   have z1:=hbw.size
   have z2:w.heap.size < wr.heap.size:=by omega
   clear hbw
   by_cases hlt:k < 24
   ·obtain ⟨x,hx⟩:∃ x,m[k]? =some x:=⟨_,List.getElem?_eq_getElem (by have:=HN.out;omega)⟩
    obtain ⟨g,o,s1,c1,e1,q1,q2,q3,q5⟩:=(HW.out.keep (Keep.of_below HBW.out z9)).row hx
    subst e1
    have hvx:=HV.out k x hx
    have HVx:Hid (x.length+szV x≤2000000):=hvx
    have HI:Hid (WsR W lo hi s1 x):=by
     obtain ⟨g2,o2,s2,c2,e2,r1,r2,r3,r5⟩:=HW.out.row hx
     injection e2 with e2;injection e2 with e2 e3 e4
     subst e2 e3
     have r4:=(HBW.out.cell (p:=⟨g,o+k,none⟩) (by show g < _;omega)).trans r3
     rw [q3] at r4
     injection r4 with r4;injection r4 with r4 r6 r7
     rw [r4]
     exact r5
    have HX:Hid (m[k]? =some x):=hx
    have HT:Hid ((m.take (k+1)).all (rowB m)=((m.take k).all (rowB m)&&rowB m x)):=all_take hx
    have HF:Hid (rowB m x=false→m.all (rowB m)=false):=fun h=>all_no HX.out h
    have hxl:x.length≤2000000:=by omega
    clear q5 hx hvx
    have b0:(0:Int)≤(k:Int):=by omega
    have b1:(k:Int) < 24:=by omega
    have b1':(k:Int) < (m.length:Int):=by have:=HN.out;omega
    have zg:g < wr.heap.size:=by omega
    have io:=l1InD_any (x.length:Int) 1 4000 wr
    by_cases hin:(1:Int)≤x.length∧(x.length:Int)≤4000
    ·rw [decide_eq_true hin] at io
     have HRX:Hid (rowB m x=x.all (fun x=>viewB m x.vw)):=by show rowB m x=_;unfold rowB;rw [decide_eq_true (by omega)];rfl
     clear hin
     have HIw:Hid (WsR wr lo hi s1 x):=HI.out.keep (Keep.of_below HBW.out z9)
     have HMw:Hid (MemR wr lo hi (some ⟨g,o,none⟩) m):=HW.out.keep (Keep.of_below HBW.out z9)
     go_wp2_with (go_at_call 23;refine io.mono ?_;rintro e w9 ⟨rfl,hw9⟩;subst w9)
     clear io
     rename World=>wo
     go_loopw [4] (fun i wr=>∃ j:Nat,j≤x.length∧i=.int .i64 j∧Hid ((x.take j).all (fun x=>viewB m x.vw)=true)∧Below wo.heap.size wo wr) (fun i _=>x.length - (intOf i).toNat)
     case atStart=>exact ⟨0,Nat.zero_le _,rfl,show _=_ by simp,Below.refl _ _⟩
     case round=>
      obtain ⟨j,hj,rfl,HJ2,hbo⟩:=hrel
      have HBO:Hid (Below wo.heap.size wo wr):=hbo
      have d1:=(hbo.cell (p:=⟨w.heap.size,0,none⟩) z2).trans d0
      have d2:=(hbo.cell (p:=⟨g,o+k,none⟩) zg).trans q3
      have z3:=hbo.size
      have z4:w.heap.size < wr.heap.size:=by omega
      have z5:g < wr.heap.size:=by omega
      clear hbo
      by_cases hjt:j < x.length
      ·obtain ⟨y,hy⟩:∃ y,x[j]? =some y:=⟨_,List.getElem?_eq_getElem hjt⟩
       obtain ⟨g',o',s2,c2,e2,r1,r2,r3,r4,r5⟩:=(HIw.out.keep (Keep.of_below HBO.out (by omega))).at hy
       subst e2
       have HMr:Hid (MemR wr lo hi (some ⟨g,o,none⟩) m):=HMw.out.keep (Keep.of_below HBO.out (by omega))
       have HIr:Hid (IntsR wr lo hi s2 y.vw):=r5
       have hyl:y.vw.length≤2000000:=by have:=szV_at x j y hy;have:=HVx.out;omega
       have HVr:Hid (∀ (i:Nat) (r:List WD),m[i]? =some r→r.length≤2000000):=fun i r hr=>by have:=HV.out i r hr;omega
       have HT2:Hid ((x.take (j+1)).all (fun x=>viewB m x.vw)=((x.take j).all (fun x=>viewB m x.vw)&&viewB m y.vw)):=all_take hy
       have HF2:Hid (viewB m y.vw=false→x.all (fun x=>viewB m x.vw)=false):=fun h=>all_no hy h
       clear r5 hy r3
       have z6:g' < wr.heap.size:=by omega
       have b2:(0:Int)≤(j:Int):=by omega
       have b3:(j:Int) < (x.length:Int):=by omega
       go_wp2_with fail
       go_region_held3 (fun w'=>w'.cell? ⟨w.heap.size,0,none⟩=some (.slice (some ⟨g,o,none⟩) m.length c)∧w'.cell? ⟨g,o+k,none⟩=some (.slice (some ⟨g',o',none⟩) x.length c1)∧w'.cell? ⟨g',o'+j * 2+1,none⟩=some (.slice s2 y.vw.length c2)) (go_keep) ((go_at_call 51;refine (specViewOk_any (some ⟨g,o,none⟩) s2 c c2 lo hi lo hi m y.vw wr.drew HMr.out HIr.out (by show hi≤wr.heap.size;omega) (by show hi≤wr.heap.size;omega) hyl HVr.out).mono ?_;rintro e w3 ⟨rfl,hb3⟩;have t1:=(hb3.cell (p:=⟨w.heap.size,0,none⟩) (show w.heap.size < wr.heap.size by omega)).trans d1;have t2:=(hb3.cell (p:=⟨g,o+k,none⟩) (show g < wr.heap.size by omega)).trans d2;have t3:=(hb3.cell (p:=⟨g',o'+j * 2+1,none⟩) (show g' < wr.heap.size by omega)).trans r4))
       have HB3:Hid (Below wo.heap.size wo w3):=HBO.out.trans ((show Below wr.heap.size wr w3 from ⟨hb3.os,hb3.tape,hb3.output,hb3.size,hb3.block⟩).mono z3)
       clear hb3 t1 t2 t3
       generalize viewB m y.vw=b at HT2 HF2
       cases b
       ·go_wp2
        go_ret
        exact ⟨ret_bool' (HR.out.trans (HF.out (HRX.out.trans (by first | exact HF2.out rfl | exact HF2.out trivial)))).symm,HKB.out.trans ((HBW.out.trans (HB3.out.mono (by omega))).mono (by omega))⟩
       ·go_wp2
        go_roundw
        case rel=>exact ⟨j+1,by omega,by go_num,show _=_ by rw [HT2.out,HJ2.out];rfl,HB3.out⟩
        case measure=>simp [intOf];omega
      ·go_wp2
       go_roundw
       case rel=>
        have:j=x.length:=by omega
        subst this
        have hj:=HJ2.out
        rw [List.take_length] at hj
        exact ⟨k+1,by omega,by go_num,show _=_ by rw [HT.out,HJ.out,HRX.out,hj];rfl,HBW.out.trans (HBO.out.mono (by omega))⟩
       case measure=>simp [intOf];omega
    ·rw [decide_eq_false hin] at io
     have HRX:Hid (rowB m x=false):=by show rowB m x=_;unfold rowB;rw [decide_eq_false (by omega)];rfl
     clear hin
     go_wp2_with (go_at_call 23;refine io.mono ?_;rintro e w9 ⟨rfl,hw9⟩;subst w9)
     go_ret
     exact ⟨ret_bool' (by rw [HR.out,HF.out HRX.out]),HKB.out.trans (HBW.out.mono (by omega))⟩
   ·go_wp2
    go_ret
    have hj:=HJ.out
    rw [List.take_of_length_le (by have:=HN.out;omega)] at hj
    exact ⟨ret_bool' (by rw [HR.out,hj]),HKB.out.trans (HBW.out.mono (by omega))⟩
 ·have hne:((m.length:Int) !=24)=true:=by simp;omega
  have HR:Hid (memB m=false):=by show memB m=false;unfold memB;rw [decide_eq_false h1];rfl
  go_enter Tryz.func49,Tryz.ntmps49
  go_wp2
  go_ret
  exact ⟨ret_bool' HR.out.symm,(Below.refl _ _).alloc (Nat.le_refl _) _⟩
end
section
set_option linter.unusedSimpArgs false
set_option linter.unusedVariables false
set_option maxRecDepth 100000
open Go.RowKit
end
end Go.Proofs.YtlbeploopclegaaGreat
