/- ViewOk and MemoryOk, of the program and of the specification. Conditions: lists of at most 2^20 + 100. Views: what the program and the specification make of rows of integers (copied, cut, learn, knows, Join, Knows). Conditions: at most 2^20 + 1 integers a row. Rows of rows of writes that append makes. No condition. Memories whose rows are owned whole: rows of writes and rows of rows that append may grow. No condition. Memories copied by the program: sameWrites, sameMemory. Conditions: they are counted. Memories copied by the program: sameMemory. Conditions: they are counted. Memories copied by the specification: l6Copy. Conditions: they are counted. What Load is made of, in the program and in the specification. Conditions: memories that are counted, views of at most 2^20. A write put behind a row of a memory that is owned whole. No condition but those of the lemmas. -/
import Derived.Test.YtkhjhibigldcgaaGreatBG00
import Derived.Test.YtkhjhibigldcgaaGreatBG04
import Derived.Test.YtkhjhibigldcgaaGreatBG01
import Derived.Test.YtkhjhibigldcgaaGreatBG07
import Derived.Deep.QuietTactic
import Derived.BigQuiet
import Derived.Laws.CopyOwn
namespace Go.Proofs.YtkhjhibigldcgaaGreat
section
set_option linter.unusedSimpArgs false
set_option linter.unusedVariables false
set_option maxRecDepth 100000
open Go.RowKit
def viewB (m:List (List WD)) (l:List Int):Bool:=decide (l.length=m.length∧∀ i,i < l.length→0≤l.getD i 0∧l.getD i 0 < ((m.getD i []).length:Int))
def rowB (m:List (List WD)) (r:List WD):Bool:=decide (1≤r.length∧r.length≤4000)&&r.all (fun x=>viewB m x.vw)
def memB (m:List (List WD)):Bool:=decide (m.length=24)&&m.all (rowB m)
theorem belowQ {B:Nat} {w w':World} (h:Below B w w') (n:Nat):Below B w (w'.drewN n):=⟨h.os,h.tape,h.output,h.size,h.block⟩
set_option maxHeartbeats 2000000 in
theorem specViewOk_any (s s' : Option Addr) (c c' lo hi lo' hi' : Nat) (m : List (List WD)) (l : List Int) (w : World) (h : MemR w lo hi s m) (h' : IntsR w lo' hi' s' l) (hB : hi ≤ w.heap.size) (hB' : hi' ≤ w.heap.size) (hl : l.length ≤ 2000000) (hm : ∀ (i : Nat) (r : List WD), m[i]? = some r → r.length ≤ 2000000) :
  Calls Tryz.prog 46 #[.agg #[.slice s m.length c],.slice s' l.length c'] w fun e w'=>e=.returned (.bool (viewB m l))∧Below w.heap.size w w':=by
 have H:Hid (MemR w lo hi s m):=h
 have H':Hid (IntsR w lo' hi' s' l):=h'
 have HM:Hid (∀ (i:Nat) (r:List WD),m[i]? =some r→r.length≤2000000):=hm
 clear h h' hm
 by_cases hn:l.length=m.length
 ·have hne:((l.length:Int) !=(m.length:Int))=false:=by simp;omega
  have HN:Hid (l.length=m.length):=hn
  clear hn
  go_enter Tryz.func46,Tryz.ntmps46
  go_wp2
  obtain ⟨W,hW,bx,kb,zb⟩:=Bo1.new w (.slice s m.length c) 32
  rw [hW]
  clear hW
  have HW:Hid (MemR W lo hi s m):=H.out.keep (Keep.of_below kb hB)
  have HW':Hid (IntsR W lo' hi' s' l):=H'.out.keep (Keep.of_below kb hB')
  have c0:=bx.c0
  have HKB:Hid (Below w.heap.size w W):=kb
  have z9:hi≤W.heap.size∧hi'≤W.heap.size:=by omega
  obtain ⟨z9,z8⟩:=z9
  have z0:w.heap.size < W.heap.size:=by omega
  clear bx kb zb
  go_loopw [5] (fun i wr=>∃ k:Nat,k≤l.length∧i=.int .i64 k∧(∀ j,j < k→0≤l.getD j 0∧l.getD j 0 < ((m.getD j []).length:Int))∧Below W.heap.size W wr) (fun i _=>l.length - (intOf i).toNat)
  case atStart=>exact ⟨0,Nat.zero_le _,rfl,fun j hj=>absurd hj (Nat.not_lt_zero _),Below.refl _ _⟩
  case round=>
   obtain ⟨k,hk,rfl,hj,hbw⟩:=hrel
   have HBW:Hid (Below W.heap.size W wr):=hbw
   have c1:=(hbw.cell (p:=⟨w.heap.size,0,none⟩) z0).trans c0
   have z1:=hbw.size
   have z2:w.heap.size < wr.heap.size:=by omega
   clear hbw
   have HJ:Hid (∀ j,j < k→0≤l.getD j 0∧l.getD j 0 < ((m.getD j []).length:Int)):=hj
   clear hj
   by_cases hlt:k < l.length
   ·have hlt':k < m.length:=by have:=HN.out;omega
    obtain ⟨g',o',e1,a1,a2,a3⟩:=(HW'.out.keep (Keep.of_below HBW.out (by omega))).pos (by omega)
    obtain ⟨r,hr⟩:∃ r,m[k]? =some r:=⟨_,List.getElem?_eq_getElem hlt'⟩
    obtain ⟨g,o,s1,c2,e2,q1,q2,q3,-⟩:=(HW.out.keep (Keep.of_below HBW.out (by omega))).row hr
    subst e1 e2
    have f1:=a3 k hlt
    have HG:Hid (m.getD k []=r):=by show m.getD k []=r;rw [List.getD_eq_getElem?_getD,hr];rfl
    have hrb:=HM.out k r hr
    clear a3 hr
    generalize hx:l.getD k 0=x at f1
    have HX:Hid (l.getD k 0=x):=hx
    clear hx
    generalize hrn:r.length=rn at q3 hrb
    have HRN:Hid (r.length=rn):=hrn
    clear hrn
    have b0:(0:Int)≤(k:Int):=by omega
    have b1:(k:Int) < (l.length:Int):=by omega
    have b2:(k:Int) < (m.length:Int):=by omega
    have hwp:IntKind.i64.wrap ((rn:Int) - 1)=(rn:Int) - 1:=Go.IntWalk.i64_in _ (by omega)
    by_cases hxy:0≤x∧x≤(rn:Int) - 1
    ·have HXY:Hid (0≤x∧x < (rn:Int)):=⟨hxy.1,by omega⟩
     have HD:Hid (decide ((0:Int)≤x∧x≤IntKind.i64.wrap ((rn:Int) - 1))=true):=by show decide _=true;rw [hwp];exact decide_eq_true hxy
     clear hxy hwp
     go_wp2_with fail
     go_quiet ((go_at_call 13;exact Calls.quiet_of_same (l1InD_is _ _ _ true _ HD.out)))
     go_wp2
     go_roundw
     case rel=>
      refine ⟨k+1,by omega,by go_num,fun j hj=>?_,belowQ HBW.out nq⟩
      by_cases e:j < k
      ·exact HJ.out j e
      ·have:j=k:=by omega
       subst this
       rw [HX.out,HG.out,HRN.out]
       exact HXY.out
     case measure=>simp [intOf];omega
    ·have HXY:Hid (¬ (0≤x∧x < (rn:Int))):=fun h=>hxy ⟨h.1,by omega⟩
     have HD:Hid (decide ((0:Int)≤x∧x≤IntKind.i64.wrap ((rn:Int) - 1))=false):=by show decide _=false;rw [hwp];exact decide_eq_false hxy
     clear hxy hwp
     go_wp2_with fail
     go_quiet ((go_at_call 13;exact Calls.quiet_of_same (l1InD_is _ _ _ false _ HD.out)))
     go_wp2
     go_ret
     refine ⟨ret_bool' ?_,HKB.out.trans ((belowQ HBW.out nq).mono (by omega))⟩
     symm
     refine decide_eq_false (fun h=>HXY.out ?_)
     have:=h.2 k hlt
     rw [HX.out,HG.out,HRN.out] at this
     exact this
   ·go_wp2
    go_ret
    refine ⟨ret_bool' ?_,HKB.out.trans (HBW.out.mono (by omega))⟩
    symm
    exact decide_eq_true ⟨HN.out,fun j hj=>HJ.out j (by omega)⟩
 ·have hne:((l.length:Int) !=(m.length:Int))=true:=by simp;omega
  have HN:Hid (¬ l.length=m.length):=hn
  clear hn
  go_enter Tryz.func46,Tryz.ntmps46
  go_wp2
  go_ret
  refine ⟨ret_bool' ?_,(Below.refl _ _).alloc (Nat.le_refl _) _⟩
  symm
  exact decide_eq_false (fun h=>HN.out h.1)
set_option maxHeartbeats 2000000 in
theorem specMemoryOk_any (s : Option Addr) (c lo hi : Nat) (m : List (List WD)) (w : World) (h : MemR w lo hi s m) (hB : hi ≤ w.heap.size) (hl : m.length + szR m ≤ 2000000) :
  Calls Tryz.prog 44 #[.agg #[.slice s m.length c]] w fun e w'=>e=.returned (.bool (memB m))∧Below w.heap.size w w':=by
 have H:Hid (MemR w lo hi s m):=h
 have HV:Hid (∀ (i:Nat) (x:List WD),m[i]? =some x→x.length+szV x≤2000000):=fun i x hx=>by have:=szR_at m i x hx;omega
 clear h
 by_cases h1:m.length=24
 ·have hne:((m.length:Int) !=24)=false:=by simp;omega
  have HR:Hid (memB m=m.all (rowB m)):=by show memB m=_;unfold memB;rw [decide_eq_true h1];rfl
  have HN:Hid (m.length=24):=h1
  clear h1
  go_enter Tryz.func44,Tryz.ntmps44
  go_wp2
  obtain ⟨W,hW,bx,kb,zb⟩:=Bo1.new w (.slice s m.length c) 32
  rw [hW]
  clear hW
  have c0:=bx.c0
  have HKB:Hid (Below w.heap.size w W):=kb
  have z0:w.heap.size < W.heap.size:=by omega
  have z9:hi≤W.heap.size:=by omega
  have HW:Hid (MemR W lo hi s m):=H.out.keep (Keep.of_below kb hB)
  clear bx kb zb
  go_loopw [3,4] (fun i _ wr=>∃ k:Nat,k≤24∧i=.int .i64 k∧Hid ((m.take k).all (rowB m)=true)∧Below W.heap.size W wr) (fun i _ _=>24 - (intOf i).toNat)
  case atStart=>exact ⟨0,Nat.zero_le _,rfl,show _=_ by simp,Below.refl _ _⟩
  case round=>
   obtain ⟨k,hk,rfl,HJ,hbw⟩:=hrel
   have HBW:Hid (Below W.heap.size W wr):=hbw
   have d0:=(hbw.cell (p:=⟨w.heap.size,0,none⟩) z0).trans c0
   have z1:=hbw.size
   have z2:w.heap.size < wr.heap.size:=by omega
   clear hbw
   by_cases hlt:k < 24
   ·obtain ⟨x,hx⟩:∃ x,m[k]? =some x:=⟨_,List.getElem?_eq_getElem (by have:=HN.out;omega)⟩
    obtain ⟨g,o,s1,c1,e1,q1,q2,q3,q5⟩:=(HW.out.keep (Keep.of_below HBW.out z9)).row hx
    subst e1
    have hvx:=HV.out k x hx
    have HVx:Hid (x.length+szV x≤2000000):=hvx
    have HI:Hid (WsR W lo hi s1 x):=by
     obtain ⟨g2,o2,s2,c2,e2,r1,r2,r3,r5⟩:=HW.out.row hx
     injection e2 with e2;injection e2 with e2 e3 e4
     subst e2 e3
     have r4:=(HBW.out.cell (p:=⟨g,o+k,none⟩) (by show g < _;omega)).trans r3
     rw [q3] at r4
     injection r4 with r4;injection r4 with r4 r6 r7
     rw [r4]
     exact r5
    have HX:Hid (m[k]? =some x):=hx
    have HT:Hid ((m.take (k+1)).all (rowB m)=((m.take k).all (rowB m)&&rowB m x)):=all_take hx
    have HF:Hid (rowB m x=false→m.all (rowB m)=false):=fun h=>all_no HX.out h
    have hxl:x.length≤2000000:=by omega
    clear q5 hx hvx
    have b0:(0:Int)≤(k:Int):=by omega
    have b1:(k:Int) < 24:=by omega
    have b1':(k:Int) < (m.length:Int):=by have:=HN.out;omega
    have zg:g < wr.heap.size:=by omega
    have io:=l1InD_any (x.length:Int) 1 4000 wr
    by_cases hin:(1:Int)≤x.length∧(x.length:Int)≤4000
    ·rw [decide_eq_true hin] at io
     have HRX:Hid (rowB m x=x.all (fun x=>viewB m x.vw)):=by show rowB m x=_;unfold rowB;rw [decide_eq_true (by omega)];rfl
     clear hin
     have HIw:Hid (WsR wr lo hi s1 x):=HI.out.keep (Keep.of_below HBW.out z9)
     have HMw:Hid (MemR wr lo hi (some ⟨g,o,none⟩) m):=HW.out.keep (Keep.of_below HBW.out z9)
     go_wp2_with (go_at_call 13;refine io.mono ?_;rintro e w9 ⟨rfl,hw9⟩;subst w9)
     clear io
     rename World=>wo
     go_loopw [4] (fun i wr=>∃ j:Nat,j≤x.length∧i=.int .i64 j∧Hid ((x.take j).all (fun x=>viewB m x.vw)=true)∧Below wo.heap.size wo wr) (fun i _=>x.length - (intOf i).toNat)
     case atStart=>exact ⟨0,Nat.zero_le _,rfl,show _=_ by simp,Below.refl _ _⟩
     case round=>
      obtain ⟨j,hj,rfl,HJ2,hbo⟩:=hrel
      have HBO:Hid (Below wo.heap.size wo wr):=hbo
      have d1:=(hbo.cell (p:=⟨w.heap.size,0,none⟩) z2).trans d0
      have d2:=(hbo.cell (p:=⟨g,o+k,none⟩) zg).trans q3
      have z3:=hbo.size
      have z4:w.heap.size < wr.heap.size:=by omega
      have z5:g < wr.heap.size:=by omega
      clear hbo
      by_cases hjt:j < x.length
      ·obtain ⟨y,hy⟩:∃ y,x[j]? =some y:=⟨_,List.getElem?_eq_getElem hjt⟩
       obtain ⟨g',o',s2,c2,e2,r1,r2,r3,r4,r5⟩:=(HIw.out.keep (Keep.of_below HBO.out (by omega))).at hy
       subst e2
       have HMr:Hid (MemR wr lo hi (some ⟨g,o,none⟩) m):=HMw.out.keep (Keep.of_below HBO.out (by omega))
       have HIr:Hid (IntsR wr lo hi s2 y.vw):=r5
       have hyl:y.vw.length≤2000000:=by have:=szV_at x j y hy;have:=HVx.out;omega
       have HVr:Hid (∀ (i:Nat) (r:List WD),m[i]? =some r→r.length≤2000000):=fun i r hr=>by have:=HV.out i r hr;omega
       have HT2:Hid ((x.take (j+1)).all (fun x=>viewB m x.vw)=((x.take j).all (fun x=>viewB m x.vw)&&viewB m y.vw)):=all_take hy
       have HF2:Hid (viewB m y.vw=false→x.all (fun x=>viewB m x.vw)=false):=fun h=>all_no hy h
       clear r5 hy r3
       have z6:g' < wr.heap.size:=by omega
       have b2:(0:Int)≤(j:Int):=by omega
       have b3:(j:Int) < (x.length:Int):=by omega
       go_wp2_with fail
       go_region_held3 (fun w'=>w'.cell? ⟨w.heap.size,0,none⟩=some (.slice (some ⟨g,o,none⟩) m.length c)∧w'.cell? ⟨g,o+k,none⟩=some (.slice (some ⟨g',o',none⟩) x.length c1)∧w'.cell? ⟨g',o'+j * 2+1,none⟩=some (.slice s2 y.vw.length c2)) (go_keep) ((go_at_call 46;refine (specViewOk_any (some ⟨g,o,none⟩) s2 c c2 lo hi lo hi m y.vw wr.drew HMr.out HIr.out (by show hi≤wr.heap.size;omega) (by show hi≤wr.heap.size;omega) hyl HVr.out).mono ?_;rintro e w3 ⟨rfl,hb3⟩;have t1:=(hb3.cell (p:=⟨w.heap.size,0,none⟩) (show w.heap.size < wr.heap.size by omega)).trans d1;have t2:=(hb3.cell (p:=⟨g,o+k,none⟩) (show g < wr.heap.size by omega)).trans d2;have t3:=(hb3.cell (p:=⟨g',o'+j * 2+1,none⟩) (show g' < wr.heap.size by omega)).trans r4))
       have HB3:Hid (Below wo.heap.size wo w3):=HBO.out.trans ((show Below wr.heap.size wr w3 from ⟨hb3.os,hb3.tape,hb3.output,hb3.size,hb3.block⟩).mono z3)
       clear hb3 t1 t2 t3
       generalize viewB m y.vw=b at HT2 HF2
       cases b
       ·go_wp2
        go_ret
        exact ⟨ret_bool' (HR.out.trans (HF.out (HRX.out.trans (by first | exact HF2.out rfl | exact HF2.out trivial)))).symm,HKB.out.trans ((HBW.out.trans (HB3.out.mono (by omega))).mono (by omega))⟩
       ·go_wp2
        go_roundw
        case rel=>exact ⟨j+1,by omega,by go_num,show _=_ by rw [HT2.out,HJ2.out];rfl,HB3.out⟩
        case measure=>simp [intOf];omega
      ·go_wp2
       go_roundw
       case rel=>
        have:j=x.length:=by omega
        subst this
        have hj:=HJ2.out
        rw [List.take_length] at hj
        exact ⟨k+1,by omega,by go_num,show _=_ by rw [HT.out,HJ.out,HRX.out,hj];rfl,HBW.out.trans (HBO.out.mono (by omega))⟩
       case measure=>simp [intOf];omega
    ·rw [decide_eq_false hin] at io
     have HRX:Hid (rowB m x=false):=by show rowB m x=_;unfold rowB;rw [decide_eq_false (by omega)];rfl
     clear hin
     go_wp2_with (go_at_call 13;refine io.mono ?_;rintro e w9 ⟨rfl,hw9⟩;subst w9)
     go_ret
     exact ⟨ret_bool' (by rw [HR.out,HF.out HRX.out]),HKB.out.trans (HBW.out.mono (by omega))⟩
   ·go_wp2
    go_ret
    have hj:=HJ.out
    rw [List.take_of_length_le (by have:=HN.out;omega)] at hj
    exact ⟨ret_bool' (by rw [HR.out,hj]),HKB.out.trans (HBW.out.mono (by omega))⟩
 ·have hne:((m.length:Int) !=24)=true:=by simp;omega
  have HR:Hid (memB m=false):=by show memB m=false;unfold memB;rw [decide_eq_false h1];rfl
  go_enter Tryz.func44,Tryz.ntmps44
  go_wp2
  go_ret
  exact ⟨ret_bool' HR.out.symm,(Below.refl _ _).alloc (Nat.le_refl _) _⟩
end
section
set_option linter.unusedSimpArgs false
set_option linter.unusedVariables false
set_option maxRecDepth 100000
open Go.RowKit
def mx (a b:Int):Int:=if a < b then b else a
def learnL:List Int→List Int→List Int
 | [],_=>[]
 | a::l,[]=>a::l
 | a::l,b::r=>mx a b::learnL l r
def joinL (a b:List Int):List Int:=List.zipWith mx a b
theorem learn_len:∀ (l r:List Int),(learnL l r).length=l.length
 | [],r=>by cases r<;>rfl
 | a::l,[]=>rfl
 | a::l,b::r=>by simp [learnL,learn_len l r]
theorem join_take:∀ (l r:List Int),joinL (l.take (min l.length r.length)) r=joinL l r
 | [],r=>by simp [joinL]
 | a::l,[]=>by simp [joinL]
 | a::l,b::r=>by
  have h:=join_take l r
  simp only [joinL] at h ⊢
  rw [List.length_cons,List.length_cons,Nat.add_min_add_right,List.take_succ_cons,List.zipWith_cons_cons,List.zipWith_cons_cons,h]
theorem join_cut (l r:List Int) (h:r.length≤l.length):joinL (l.take r.length) r=joinL l r:=by
 have:=join_take l r
 rwa [Nat.min_eq_right h] at this
theorem join_cut' (l r:List Int) (h:l.length≤r.length):joinL l (r.take l.length)=joinL l r:=by
 simp only [joinL]
 apply List.ext_getElem? fun i=>?_
 rw [List.getElem?_zipWith,List.getElem?_zipWith]
 by_cases hi:i < l.length
 ·rw [List.getElem?_take,if_pos hi]
 ·rw [List.getElem?_eq_none (show l.length≤i by omega)]
theorem join_len (l r:List Int):(joinL l r).length=min l.length r.length:=by simp [joinL]
theorem join_step (k:Nat) (l r:List Int) (h:k < l.length) (h':k < r.length):joinL (l.take (k+1)) (r.take (k+1))=joinL (l.take k) (r.take k)++[mx (l.getD k 0) (r.getD k 0)]:=by
 rw [List.take_add_one,List.take_add_one,List.getElem?_eq_getElem h,List.getElem?_eq_getElem h']
 simp only [joinL,Option.toList_some]
 rw [List.zipWith_append (by simp;omega)]
 simp [List.getD_eq_getElem?_getD,h,h']
theorem mx_l1 (a b:Int):(if a > b then a else b)=mx a b:=by unfold mx;split<;>split<;>omega
theorem l1Max_any (a b:Int) (w:World):Calls Tryz.prog 30 #[.int .i64 a,.int .i64 b] w fun e w'=>e=.returned (.int .i64 (mx a b))∧w'=w:=by
 rw [← mx_l1]
 by_cases h:a > b
 ·rw [if_pos h]
  go_enter Tryz.func30,Tryz.ntmps30
  go_wp2
  go_ret
  exact ⟨rfl,rfl⟩
 ·rw [if_neg h]
  go_enter Tryz.func30,Tryz.ntmps30
  go_wp2
  go_ret
  exact ⟨rfl,rfl⟩
set_option maxHeartbeats 2000000 in
theorem specJoin_any (s s' : Option Addr) (c c' lo hi lo' hi' : Nat) (l l' : List Int) (w : World) (h : IntsR w lo hi s l) (h' : IntsR w lo' hi' s' l') (hl : l.length ≤ 1048577) (hl' : l'.length ≤ 1048577) (hB : hi ≤ w.heap.size) (hB' : hi' ≤ w.heap.size) :
  Calls Tryz.prog 84 #[.slice s l.length c,.slice s' l'.length c'] w fun e w'=>∃ v,e=.returned v∧OwnN w' w.heap.size v (joinL l l')∧Below w.heap.size w w':=by
 have H:Hid (IntsR w lo hi s l):=h
 have H':Hid (IntsR w lo' hi' s' l'):=h'
 clear h h'
 go_enter Tryz.func84,Tryz.ntmps84
 go_wp2
 go_loopw [5,6] (fun u i wr=>∃ k:Nat,k≤l.length∧k≤l'.length∧i=.int .i64 k∧OwnN wr w.heap.size u (joinL (l.take k) (l'.take k))∧Below w.heap.size w wr) (fun _ i _=>l'.length - (intOf i).toNat)
 case atStart=>exact ⟨0,Nat.zero_le _,Nat.zero_le _,rfl,by simpa [joinL] using ownN_empty (Nat.le_refl _),(Below.refl _ _).alloc (Nat.le_refl _) _⟩
 case round=>
  obtain ⟨k,hk,hk',rfl,ho,hb⟩:=hrel
  have HO:Hid (OwnN wr w.heap.size u5 (joinL (l.take k) (l'.take k))):=ho
  have HB:Hid (Below w.heap.size w wr):=hb
  have hs:=hb.size
  clear ho hb
  by_cases hlt:k < l.length
  ·by_cases hlt':k < l'.length
   ·obtain ⟨g,o,e1,a1,a2,a3⟩:=H.out.pos (by omega)
    obtain ⟨g',o',e1',a1',a2',a3'⟩:=H'.out.pos (by omega)
    subst e1 e1'
    have e1:=(HB.out.cell (p:=⟨g,o+k,none⟩) (show g < _ by omega)).trans (a3 k hlt)
    have e2:=(HB.out.cell (p:=⟨g',o'+k,none⟩) (show g' < _ by omega)).trans (a3' k hlt')
    have ST:Hid (joinL (l.take (k+1)) (l'.take (k+1))=joinL (l.take k) (l'.take k)++[mx (l.getD k 0) (l'.getD k 0)]):=join_step k l l' hlt hlt'
    have TL:Hid ((joinL (l.take k) (l'.take k)).length=k):=by show (joinL (l.take k) (l'.take k)).length=k;rw [join_len];simp;omega
    clear a3 a3'
    generalize l.getD k 0=x at e1 ST
    generalize l'.getD k 0=y at e2 ST
    generalize joinL (l.take k) (l'.take k)=lk at HO ST TL
    generalize hz:mx x y=z at ST
    have HZ:Hid (mx x y=z):=hz
    clear hz
    have b0:(0:Int)≤(k:Int):=by omega
    have b1:(k:Int) < (l.length:Int):=by omega
    have b2:(k:Int) < (l'.length:Int):=by omega
    have gl:g < wr.heap.size:=by omega
    have gl':g' < wr.heap.size:=by omega
    go_wp2_with fail
    go_region_held3 (fun w'=>w'.cell? ⟨g,o+k,none⟩=some (.int .i64 x)∧w'.cell? ⟨g',o'+k,none⟩=some (.int .i64 y)) (go_keep) (first | (go_at_call 30;refine (l1Max_any x y _).mono ?_;rintro e w' ⟨rfl,rfl⟩;rw [HZ.out]) | (refine step_row rfl _ _ rfl _ w.heap.size u5 lk rfl (HO.out.alloc (.cells #[.int .i64 z] 3)) wr.heap.size 0 1 [z] rfl (fun i hi=>by simp at hi;subst hi;simp [go_sem]) (by simp) (by have:=TL.out;simp;omega) (by simp;omega) ?_;intro g1 cap1 w1 ho1 hb1 hg1 hg1';have t1:=(hb1.cell (p:=⟨g,o+k,none⟩) (show g < w.heap.size by omega)).trans ((show _=wr.cell? ⟨g,o+k,none⟩ by simp [go_sem,gl]).trans e1);have t2:=(hb1.cell (p:=⟨g',o'+k,none⟩) (show g' < w.heap.size by omega)).trans ((show _=wr.cell? ⟨g',o'+k,none⟩ by simp [go_sem,gl']).trans e2)))
    have HO1:Hid (OwnN w1 w.heap.size (.slice (some ⟨g1,0,none⟩) (lk.length+1) cap1) (lk++[z])):=ho1
    have HB1:Hid (Below w.heap.size w w1):=HB.out.trans ((show Below w.heap.size wr (wr.alloc (.cells #[.int .i64 z] 3)).drew from Below.drew ((Below.refl _ _).alloc hs _)).trans hb1)
    clear ho1 hb1 t1 t2
    go_wp2
    go_roundw
    case rel=>exact ⟨k+1,by omega,by omega,by go_num,by rw [ST.out];exact HO1.out,HB1.out⟩
    case measure=>simp [intOf];omega
   ·have e0:joinL (l.take k) (l'.take k)=joinL l l':=by
     have:k=l'.length:=by omega
     subst this
     rw [List.take_length]
     have:=join_cut l l' hk
     exact this
    go_wp2
    go_ret
    exact ⟨_,rfl,by have:=HO.out;rw [e0] at this;exact this,HB.out⟩
  ·have e0:joinL (l.take k) (l'.take k)=joinL l l':=by
    have:k=l.length:=by omega
    subst this
    rw [List.take_length]
    have:=join_cut' l l' hk'
    exact this
   go_wp2
   go_ret
   exact ⟨_,rfl,by have:=HO.out;rw [e0] at this;exact this,HB.out⟩
end
section
set_option linter.unusedSimpArgs false
set_option linter.unusedVariables false
set_option maxRecDepth 100000
open Go.RowKit
def RS.val (r:RS):Value:=.slice r.s r.vs.length r.c
structure OM (w:World) (B:Nat) (v:Value) (S:List RS) (m:List (List WD)):Prop where
 n:S.length=m.length
 row:w.ownsRow B 101 1 v S.length (S.map RS.val)
 r:∀ (i:Nat) (r:RS) (l:List WD),S[i]? =some r→m[i]? =some l→RO w B w.heap.size r l
 d:(mAs S).Nodup
 sep:∀ a∈mAs S,v.ownBlock≠some a.block
theorem OM.mo {w:World} {B:Nat} {v:Value} {S:List RS} {m:List (List WD)} (h:OM w B v S m):∃ s c,v=.slice s m.length c∧MO w B w.heap.size s S m:=by
 rcases Nat.eq_zero_or_pos S.length with h0 | hpos
 ·obtain ⟨s,c,e⟩:=ownSl h.row
  have h1:=h.n
  have hm:m=[]:=List.length_eq_zero_iff.1 (by omega)
  exact ⟨s,c,by rw [e,h1],h1,.inl hm,h.r,h.d⟩
 ·obtain ⟨g,cap,rfl,-⟩:=World.ownsRow.form h.row hpos
  have hlt:=World.ownsRow.lt h.row g rfl
  refine ⟨_,_,by rw [h.n],h.n,.inr ⟨g,0,rfl,hlt.1,hlt.2,fun i r hr=>?_⟩,h.r,h.d⟩
  have hi':=(List.getElem?_eq_some_iff.1 hr).1
  rw [Nat.zero_add,World.ownsRow.cellAt h.row i (by omega),List.getElem?_map,hr]
  rfl
theorem OM.blk {w:World} {B:Nat} {v:Value} {S:List RS} {m:List (List WD)} (h:OM w B v S m) {a:Addr} (ha:a∈mAs S):B≤a.block∧a.block < w.heap.size:=by
 obtain ⟨s,c,-,hm⟩:=h.mo
 exact hm.blk ha
theorem infoW:∃ i,Tryz.prog.info? 101=some i∧i.zero=some (.slice none 0 0)∧i.size=1∧i.bytes=24:=⟨_,rfl,rfl,rfl,rfl⟩
theorem wp_rowW {o : Oper} {a : Act} {w : World} {K : Act → World → Prop} {Q : Exit → Act → World → Prop} (s x : Operand) (ho : o.op = .call { callee := .builtin .append, args := #[s, x], argTypes := #[30, 30] })
  (base:Nat) (v:Value) (n:Nat) (xs:List Value) (hs:a.eval s=v) (hown:w.ownsRow base 101 1 v n xs) (g0:Nat) (u:Value) (hu:u.oneCell'=true) (hx:a.eval x=.slice (some ⟨g0,0,none⟩) 1 1) (hc:w.cell? ⟨g0,0,none⟩=some u) (hn:n≤1073741824) (hbase:base≤w.heap.size)
  (h:∀ g cap w',w'.ownsRow base 101 1 (.slice (some ⟨g,0,none⟩) (n+1) cap) (n+1) (xs++[u])→w.grownBy w' v.ownBlock→(v.ownBlock=some g∨w.heap.size≤g)→g < w'.heap.size→K (a.put o.dst (.slice (some ⟨g,0,none⟩) (n+1) cap)) w'):Oper.wp Tryz.prog o a w K Q:=by
 obtain ⟨i0,hi,hz0,hz1,hz2⟩:=infoW
 refine wp_append_lies w s x 30 ho base 101 i0 _ 1 24 Tryz.underlying30 hi hz0 hz1 hz2 rfl (by decide) v n xs hs hown ⟨g0,0,none⟩ 1 1 [u] hx rfl (fun j u' hj=>?_) (fun u' hu'=>by simp at hu';subst hu';exact hu) (by decide) (by unfold maxLen;omega) (by omega) hbase _ rfl ?_
 ·match j,hj with
  | 0,hj=>simp at hj;subst hj;simpa [Addr.add] using hc
  | j+1,hj=>simp at hj
 ·intro g cap w' q1 q2 q3 q4
  exact h g cap w' q1 q2 (by rcases q3 with q3 | q3<;>first | exact .inl q3 | exact .inr (by omega)) q4
theorem step_rowW {ops : Array Oper} {o : Oper} {a : Act} {K : Act → World → Prop} {Q : Exit → Act → World → Prop} {E : Prop} (hgd : o.guard = none) (s x : Operand) (ho : o.op = .call { callee := .builtin .append, args := #[s, x], argTypes := #[30, 30] })
  (w:World) (base:Nat) (v:Value) (n:Nat) (xs:List Value) (hs:a.eval s=v) (hown:w.ownsRow base 101 1 v n xs) (g0:Nat) (u:Value) (hu:u.oneCell'=true) (hx:a.eval x=.slice (some ⟨g0,0,none⟩) 1 1) (hc:w.cell? ⟨g0,0,none⟩=some u) (hn:n≤1073741824) (hbase:base≤w.heap.size)
  (h:∀ g cap w',w'.ownsRow base 101 1 (.slice (some ⟨g,0,none⟩) (n+1) cap) (n+1) (xs++[u])→w.grownBy w' v.ownBlock→(v.ownBlock=some g∨w.heap.size≤g)→g < w'.heap.size→K (a.put o.dst (.slice (some ⟨g,0,none⟩) (n+1) cap)) w'):if Region.wanted o (yielded ops a.tmps)=true then Oper.wp Tryz.prog o a w K Q else E:=by
 have hw:Region.wanted o (yielded ops a.tmps)=true:=by simp [Region.wanted,hgd]
 rw [if_pos hw]
 exact wp_rowW s x ho base v n xs hs hown g0 u hu hx hc hn hbase h
end
section
set_option linter.unusedSimpArgs false
set_option linter.unusedVariables false
set_option maxRecDepth 100000
open Go.RowKit
def flatV:List VS→List WD→List Value
 | x::r,y::t=>.int .i64 y.v::.slice x.s x.n x.c::flatV r t
 | _,_=>[]
theorem flatV_len:∀ (vs:List VS) (l:List WD),vs.length=l.length→(flatV vs l).length=vs.length * 2
 | [],[],_=>rfl
 | x::r,y::t,h=>by
  have:=flatV_len r t (by simpa using h)
  simp [flatV,this]
  omega
 | [],_::_,h=>by simp at h
 | _::_,[],h=>by simp at h
theorem flatV_at:∀ (vs:List VS) (l:List WD) (i:Nat) (x:VS) (y:WD),vs[i]? =some x→l[i]? =some y→(flatV vs l)[i * 2]? =some (.int .i64 y.v)∧(flatV vs l)[i * 2+1]? =some (.slice x.s x.n x.c)
 | [],_,i,x,y,h,_=>by simp at h
 | _::_,[],i,x,y,_,h=>by simp at h
 | a::r,b::t,0,x,y,h,h'=>by
  simp at h h'
  subst h h'
  exact ⟨rfl,rfl⟩
 | a::r,b::t,i+1,x,y,h,h'=>by
  have e:=flatV_at r t i x y (by simpa using h) (by simpa using h')
  have e0:(i+1) * 2=i * 2+2:=by omega
  rw [e0]
  exact e
theorem flatV_app (x:VS) (y:WD):∀ (vs:List VS) (l:List WD),vs.length=l.length→flatV (vs++[x]) (l++[y])=flatV vs l++[.int .i64 y.v,.slice x.s x.n x.c]
 | [],[],_=>rfl
 | a::r,b::t,h=>by
  have:=flatV_app x y r t (by simpa using h)
  simp [flatV,this]
 | [],_::_,h=>by simp at h
 | _::_,[],h=>by simp at h
def TyI (w:World) (b:Nat):Prop:=∃ cs f,w.heap[b]? =some (.cells cs 3 f)
def vsA:List VS→List Addr
 | []=>[]
 | x::r=>vAs x++vsA r
theorem mem_vsA {a:Addr}:∀ {vs:List VS},a∈vsA vs↔∃ x∈vs,a∈vAs x
 | []=>by simp [vsA]
 | y::r=>by simp [vsA,mem_vsA (vs:=r)]
theorem vsA_app (x:VS):∀ (vs:List VS),vsA (vs++[x])=vsA vs++vAs x
 | []=>by simp [vsA]
 | y::r=>by simp [vsA,vsA_app x r]
structure ORow (w:World) (B:Nat) (r:RS) (l:List WD):Prop where
 n:r.vs.length=l.length
 own:w.ownsRow B 100 2 r.val r.vs.length (flatV r.vs l)
 v:∀ (i:Nat) (x:VS) (y:WD),r.vs[i]? =some x→l[i]? =some y→VO w B w.heap.size x y.vw
 vt:∀ a∈vsA r.vs,TyI w a.block
 vd:(vsA r.vs).Nodup
theorem rAs_nodup {g:Nat}:∀ (vs:List VS) (k:Nat),(∀ a∈vsA vs,a.block≠g)→(vsA vs).Nodup→(rAs (some ⟨g,0,none⟩) vs k).Nodup
 | [],k,_,_=>by simp [rAs]
 | x::r,k,h,hd=>by
  rw [vsA] at hd
  obtain ⟨d1,d2,d3⟩:=List.nodup_append.1 hd
  have ih:=rAs_nodup (g:=g) r (k+1) (fun a ha=>h a (by simp [vsA,ha])) d2
  rw [rAs]
  refine List.nodup_cons.2 ⟨fun hm=>?_,List.nodup_append.2 ⟨d1,ih,fun a ha b hb e=>?_⟩⟩
  ·rcases List.mem_append.1 hm with hm | hm
   ·exact h _ (by rw [vsA];exact List.mem_append_left _ hm) rfl
   ·rcases mem_rAs.1 hm with ⟨i,hi',e⟩ | ⟨x',hx',hax⟩
    ·simp [adr] at e;omega
    ·exact h _ (by rw [vsA];exact List.mem_append_right _ (mem_vsA.2 ⟨x',hx',hax⟩)) rfl
  ·subst e
   rcases mem_rAs.1 hb with ⟨i,hi',e⟩ | ⟨x',hx',hax⟩
   ·exact h a (by rw [vsA];exact List.mem_append_left _ ha) (by rw [e];rfl)
   ·exact d3 a ha a (mem_vsA.2 ⟨x',hx',hax⟩) rfl
theorem ORow.blkT {w:World} {B:Nat} {r:RS} {l:List WD} (h:ORow w B r l) {k:Nat} (hk:r.val.ownBlock=some k):∃ cs,w.heap[k]? =some (.cells cs 100 (0,0)):=by
 rcases h.own.2 with ⟨e,-⟩ | ⟨g,cap,cur,e,-,c,-⟩
 ·rw [e] at hk;cases hk
 ·rw [e] at hk
  injection hk with hk
  have hk:g=k:=hk
  subst hk
  exact ⟨_,c⟩
theorem ORow.sepV {w:World} {B:Nat} {r:RS} {l:List WD} (h:ORow w B r l) {k:Nat} (hk:r.val.ownBlock=some k) {a:Addr} (ha:TyI w a.block):a.block≠k:=by
 obtain ⟨cs,h1⟩:=h.blkT hk
 obtain ⟨cs',f,h2⟩:=ha
 intro e
 rw [e,h1] at h2
 injection h2 with h2
 injection h2 with _ h2
 exact absurd h2 (by decide)
theorem ORow.ro {w:World} {B:Nat} {r:RS} {l:List WD} (h:ORow w B r l):RO w B w.heap.size r l:=by
 refine ⟨h.n,?_,h.v,fun x hx a ha g o e=>?_,?_⟩
 ·rcases Nat.eq_zero_or_pos r.vs.length with h0 | hpos
  ·exact .inl (List.length_eq_zero_iff.1 (by have:=h.n;omega))
  ·obtain ⟨g,cap,e,-⟩:=World.ownsRow.form h.own hpos
   have hlt:=World.ownsRow.lt h.own g (by rw [e];rfl)
   have e2:r.s=some ⟨g,0,none⟩:=by unfold RS.val at e;injection e with e
   have e3:r.c=cap:=by unfold RS.val at e;injection e
   refine .inr ⟨g,0,e2,hlt.1,hlt.2,fun i x y hx hy=>?_⟩
   have hi':=(List.getElem?_eq_some_iff.1 hx).1
   have ho:w.ownsRow B 100 2 (.slice (some ⟨g,0,none⟩) r.vs.length cap) r.vs.length (flatV r.vs l):=by rw [← e];exact h.own
   obtain ⟨f1,f2⟩:=flatV_at r.vs l i x y hx hy
   rw [Nat.zero_add]
   exact ⟨(World.ownsRow.cellAt ho (i * 2) (by omega)).trans f1,World.ownsRow.frozenAt ho _,(World.ownsRow.cellAt ho (i * 2+1) (by omega)).trans f2⟩
 ·exact h.sepV (k:=g) (by unfold RS.val;rw [e];rfl) (h.vt a (mem_vsA.2 ⟨x,hx,ha⟩))
 ·rcases Nat.eq_zero_or_pos r.vs.length with h0 | hpos
  ·rw [List.length_eq_zero_iff.1 h0];simp [rAs]
  ·obtain ⟨g,cap,e,-⟩:=World.ownsRow.form h.own hpos
   have e2:r.s=some ⟨g,0,none⟩:=by unfold RS.val at e;injection e with e
   rw [e2]
   exact rAs_nodup r.vs 0 (fun a ha=>h.sepV (k:=g) (by rw [e];rfl) (h.vt a ha)) h.vd
theorem ORow.blk {w:World} {B:Nat} {r:RS} {l:List WD} (h:ORow w B r l) {a:Addr} (ha:a∈vsA r.vs):B≤a.block∧a.block < w.heap.size:=by
 obtain ⟨x,hx,hax⟩:=mem_vsA.1 ha
 exact h.ro.blk (mem_rAs.2 (.inr ⟨x,hx,hax⟩))
theorem ORow.kept {w w':World} {B:Nat} {r:RS} {l:List WD} (h:ORow w B r l) (h1:∀ k,r.val.ownBlock=some k→w'.heap[k]? =w.heap[k]?) (h2:∀ a∈vsA r.vs,w'.heap[a.block]? =w.heap[a.block]?) (hs:w.heap.size≤w'.heap.size):ORow w' B r l:=by
 refine ⟨h.n,ownKeep' h.own h1,fun i x y hx hy=>?_,fun a ha=>?_,h.vd⟩
 ·have hv:=h.v i x y hx hy
  refine ⟨hv.n,?_⟩
  rcases hv.c with h0 | ⟨g,o,es,b1,b2,hc⟩
  ·exact .inl h0
  ·refine .inr ⟨g,o,es,b1,by omega,fun j hj=>?_⟩
   have hne:w'.heap[g]? =w.heap[g]? :=by
    have:=h2 (adr x.s j) (mem_vsA.2 ⟨x,List.mem_of_getElem? hx,mem_vAs.2 ⟨j,by rw [hv.n];exact hj,rfl⟩⟩)
    rw [es] at this
    exact this
   exact ⟨(World.cell?_of_block (w:=w) hne).trans (hc j hj).1,(World.frozen?_of_block (w:=w) hne).trans (hc j hj).2⟩
 ·obtain ⟨cs,f,e⟩:=h.vt a ha
  exact ⟨cs,f,(h2 a ha).trans e⟩
theorem ORow.low {w:World} {B B':Nat} {r:RS} {l:List WD} (h:ORow w B r l) (hb:B'≤B):ORow w B' r l:=
 ⟨h.n,ownLow' h.own hb,fun i x y hx hy=>(h.v i x y hx hy).mono hb (Nat.le_refl _),h.vt,h.vd⟩
/- a row that append has grown by one write -/
theorem ORow.push {w w2 : World} {B g cap : Nat} {r : RS} {l : List WD} (x : VS) (y : WD) (h : ORow w B r l) (hx : VO w B w.heap.size x y.vw) (hxt : ∀ a ∈ vAs x, TyI w a.block) (hxd : (vAs x).Nodup) (hd : ∀ a ∈ vsA r.vs, a ∉ vAs x)
  (h2:w2.ownsRow B 100 2 (.slice (some ⟨g,0,none⟩) (r.vs.length+1) cap) (r.vs.length+1) (flatV r.vs l++[.int .i64 y.v,.slice x.s x.n x.c])) (hg:w.grownBy w2 r.val.ownBlock):ORow w2 B ⟨some ⟨g,0,none⟩,cap,r.vs++[x]⟩ (l++[y]):=by
 have hn:=h.n
 have kp:∀ a:Addr,a.block < w.heap.size→TyI w a.block→w2.heap[a.block]? =w.heap[a.block]? :=fun a ha ht=>hg.block _ ha (fun e=>h.sepV (k:=a.block) e.symm ht rfl)
 have hv2:∀ (x':VS) (l':List Int),VO w B w.heap.size x' l'→(∀ a∈vAs x',TyI w a.block)→VO w2 B w2.heap.size x' l':=fun x' l' hv ht=>by
  refine ⟨hv.n,?_⟩
  rcases hv.c with h0 | ⟨g',o,es,b1,b2,hc⟩
  ·exact .inl h0
  ·refine .inr ⟨g',o,es,b1,by have:=hg.size;omega,fun j hj=>?_⟩
   have hne:w2.heap[g']? =w.heap[g']? :=by
    have hm:adr x'.s j∈vAs x':=mem_vAs.2 ⟨j,by rw [hv.n];exact hj,rfl⟩
    have:=kp (adr x'.s j) (by rw [es];exact b2) (ht _ hm)
    rw [es] at this
    exact this
   exact ⟨(World.cell?_of_block (w:=w) hne).trans (hc j hj).1,(World.frozen?_of_block (w:=w) hne).trans (hc j hj).2⟩
 refine ⟨by simp [hn],?_,fun i x1 y1 e1 e2=>?_,fun a ha=>?_,?_⟩
 ·show w2.ownsRow B 100 2 (.slice (some ⟨g,0,none⟩) (r.vs++[x]).length cap) (r.vs++[x]).length (flatV (r.vs++[x]) (l++[y]))
  rw [flatV_app x y r.vs l hn]
  simpa using h2
 ·rcases getElem?_push e1 with e1 | ⟨i1,rfl⟩
  ·rcases getElem?_push e2 with e2 | ⟨i2,rfl⟩
   ·exact hv2 x1 y1.vw (h.v i x1 y1 e1 e2) (fun a ha=>h.vt a (mem_vsA.2 ⟨x1,List.mem_of_getElem? e1,ha⟩))
   ·have:=(List.getElem?_eq_some_iff.1 e1).1;omega
  ·rcases getElem?_push e2 with e2 | ⟨i2,rfl⟩
   ·have:=(List.getElem?_eq_some_iff.1 e2).1;omega
   ·exact hv2 x1 y1.vw hx hxt
 ·rw [vsA_app] at ha
  rcases List.mem_append.1 ha with ha | ha
  ·obtain ⟨cs,f,e⟩:=h.vt a ha
   exact ⟨cs,f,(kp a (h.blk ha).2 (h.vt a ha)).trans e⟩
  ·obtain ⟨cs,f,e⟩:=hxt a ha
   exact ⟨cs,f,(kp a (hx.blk ha).2 (hxt a ha)).trans e⟩
 ·rw [vsA_app]
  exact List.nodup_append.2 ⟨h.vd,hxd,fun a ha b hb e=>hd a ha (by rw [e];exact hb)⟩
structure OW (w:World) (B:Nat) (v:Value) (S:List RS) (m:List (List WD)):Prop where
 n:S.length=m.length
 row:w.ownsRow B 101 1 v S.length (S.map RS.val)
 r:∀ (i:Nat) (r:RS) (l:List WD),S[i]? =some r→m[i]? =some l→ORow w B r l
 d:(mAs S).Nodup
theorem rows_blkT {w:World} {B n:Nat} {v:Value} {xs:List Value} (h:w.ownsRow B 101 1 v n xs) {k:Nat} (hk:v.ownBlock=some k):∃ cs,w.heap[k]? =some (.cells cs 101 (0,0)):=by
 rcases h.2 with ⟨e,-⟩ | ⟨g,cap,cur,e,-,c,-⟩
 ·rw [e] at hk;cases hk
 ·rw [e] at hk
  injection hk with hk
  have hk:g=k:=hk
  subst hk
  exact ⟨_,c⟩
theorem ORow.sepO {w:World} {B:Nat} {r:RS} {l:List WD} (h:ORow w B r l) {a:Addr} (ha:a∈rAs r.s r.vs 0):∃ cs t f,w.heap[a.block]? =some (.cells cs t f)∧t≠101:=by
 rcases mem_rAs.1 ha with ⟨i,hi',e⟩ | ⟨x,hx,hax⟩
 ·obtain ⟨g,cap,ev,-⟩:=World.ownsRow.form h.own (by omega)
  obtain ⟨cs,hc⟩:=h.blkT (k:=g) (by rw [ev];rfl)
  have e2:r.s=some ⟨g,0,none⟩:=by unfold RS.val at ev;injection ev with ev
  rw [e,e2]
  exact ⟨cs,_,_,hc,by decide⟩
 ·obtain ⟨cs,f,e⟩:=h.vt a (mem_vsA.2 ⟨x,hx,hax⟩)
  exact ⟨cs,_,f,e,by decide⟩
theorem OW.om {w:World} {B:Nat} {v:Value} {S:List RS} {m:List (List WD)} (h:OW w B v S m):OM w B v S m:=by
 refine ⟨h.n,h.row,fun i r l hr hl=>(h.r i r l hr hl).ro,h.d,fun a ha e=>?_⟩
 obtain ⟨r,hr,har⟩:=mem_mAs.1 ha
 obtain ⟨i,hi',er⟩:=List.getElem_of_mem hr
 have hl:i < m.length:=by have:=h.n;omega
 obtain ⟨cs,t,f,h1,h2⟩:=(h.r i r m[i] (by rw [List.getElem?_eq_getElem hi',er]) (List.getElem?_eq_getElem hl)).sepO har
 obtain ⟨cs',h3⟩:=rows_blkT h.row e
 rw [h1] at h3
 injection h3 with h3
 injection h3 with _ h3
 exact h2 h3
theorem OW.nil (w:World) (B:Nat):OW w B (.slice none 0 0) [] []:=⟨rfl,World.ownsRow_nil _ _ _ _,fun i r l h=>by simp at h,by simp [mAs]⟩
theorem OW.kept {w w':World} {B:Nat} {v:Value} {S:List RS} {m:List (List WD)} (h:OW w B v S m) (hb:∀ k,B≤k→k < w.heap.size→w'.heap[k]? =w.heap[k]?) (hs:w.heap.size≤w'.heap.size):OW w' B v S m:=
 ⟨h.n,ownKeep' h.row (fun k e=>hb k (World.ownsRow.lt h.row _ e).1 (World.ownsRow.lt h.row _ e).2),fun i r l hr hl=>by
  have q:=h.r i r l hr hl
  exact q.kept (fun k e=>hb k (World.ownsRow.lt q.own _ e).1 (World.ownsRow.lt q.own _ e).2) (fun a ha=>hb _ (q.blk ha).1 (q.blk ha).2) hs,h.d⟩
theorem OW.below {w w':World} {B:Nat} {v:Value} {S:List RS} {m:List (List WD)} (h:OW w B v S m) (hb:Below w.heap.size w w'):OW w' B v S m:=h.kept (fun k _ hk=>hb.block k hk) hb.size
end
section
set_option linter.unusedSimpArgs false
set_option linter.unusedVariables false
set_option maxRecDepth 100000
open Go.RowKit
end
section
set_option linter.unusedSimpArgs false
set_option linter.unusedVariables false
set_option maxRecDepth 100000
open Go.RowKit
theorem OW.low {w:World} {B B':Nat} {v:Value} {S:List RS} {m:List (List WD)} (h:OW w B v S m) (hb:B'≤B):OW w B' v S m:=
 ⟨h.n,ownLow' h.row hb,fun i r l hr hl=>(h.r i r l hr hl).low hb,h.d⟩
end
section
set_option linter.unusedSimpArgs false
set_option linter.unusedVariables false
set_option maxRecDepth 100000
open Go.RowKit
theorem OW.push {w w1 w2 : World} {B g cap : Nat} {v : Value} {S : List RS} {m : List (List WD)} (r : RS) (l : List WD) (h : OW w B v S m) (hb : Below w.heap.size w w1) (hr : ORow w1 w.heap.size r l) (hB : B ≤ w.heap.size)
  (h2:w2.ownsRow B 101 1 (.slice (some ⟨g,0,none⟩) (S.length+1) cap) (S.length+1) (S.map RS.val++[r.val])) (hg:w1.grownBy w2 v.ownBlock):OW w2 B (.slice (some ⟨g,0,none⟩) (S++[r]).length cap) (S++[r]) (m++[l]):=by
 have hn1:=h.n
 have h1:=h.below hb
 have kp:∀ (r':RS) (l':List WD),ORow w1 B r' l'→ORow w2 B r' l':=fun r' l' q=>by
  refine q.kept (fun k e=>hg.block _ (World.ownsRow.lt q.own _ e).2 (fun e'=>?_)) (fun a ha=>hg.block _ (q.blk ha).2 (fun e'=>?_)) hg.size
  ·obtain ⟨cs,c1⟩:=q.blkT e
   obtain ⟨cs',c2⟩:=rows_blkT h1.row e'.symm
   rw [c1] at c2
   injection c2 with c2
   injection c2 with _ c2
   exact absurd c2 (by decide)
  ·obtain ⟨cs,f,c1⟩:=q.vt a ha
   obtain ⟨cs',c2⟩:=rows_blkT h1.row e'.symm
   rw [c1] at c2
   injection c2 with c2
   injection c2 with _ c2
   exact absurd c2 (by decide)
 refine ⟨by simp [hn1],by simpa using h2,fun i r1 l1 e1 e2=>?_,?_⟩
 ·rcases getElem?_push e1 with e1 | ⟨i1,rfl⟩
  ·rcases getElem?_push e2 with e2 | ⟨i2,rfl⟩
   ·exact kp r1 l1 (h1.r i r1 l1 e1 e2)
   ·have:=(List.getElem?_eq_some_iff.1 e1).1;omega
  ·rcases getElem?_push e2 with e2 | ⟨i2,rfl⟩
   ·have:=(List.getElem?_eq_some_iff.1 e2).1;omega
   ·exact kp r1 l1 (hr.low hB)
 ·rw [mAs_app]
  refine List.nodup_append.2 ⟨h.d,hr.ro.d,fun a ha b hb' e=>?_⟩
  subst e
  have q1:=(h.om.blk ha).2
  have q2:=(hr.ro.blk hb').1
  omega
theorem ownV {w:World} {b c n:Nat} {s:Option Addr} {l:List Int} (h:OwnN w b (.slice s n c) l) (hn:n=l.length):VO w b w.heap.size ⟨s,n,c⟩ l∧(∀ a∈vAs ⟨s,n,c⟩,TyI w a.block)∧(vAs ⟨s,n,c⟩).Nodup∧∀ a∈vAs ⟨s,n,c⟩,b≤a.block:=by
 subst hn
 rcases Nat.eq_zero_or_pos l.length with h0 | hpos
 ·have e:vAs ⟨s,l.length,c⟩=[]:=by simp [vAs,h0]
  rw [e]
  exact ⟨⟨rfl,.inl (List.length_eq_zero_iff.1 h0)⟩,fun a ha=>by simp at ha,by simp,fun a ha=>by simp at ha⟩
 ·obtain ⟨g,cap,e,-⟩:=World.ownsRow.form h hpos
  injection e with e1 e2 e3
  subst e1
  have hlt:=World.ownsRow.lt h g rfl
  have ty:TyI w g:=by
   rcases h.2 with ⟨e,-⟩ | ⟨g',cap',cur,e,-,c',-⟩
   ·cases e
   ·injection e with e;injection e with e;injection e with e
    subst e
    exact ⟨_,_,c'⟩
  refine ⟨⟨rfl,.inr ⟨g,0,rfl,hlt.1,hlt.2,fun i hi'=>⟨?_,World.ownsRow.frozenAt h _⟩⟩⟩,fun a ha=>?_,vAs_nodup (g:=g) (o:=0) rfl,fun a ha=>?_⟩
  ·rw [Nat.zero_add];exact h.cell hi'
  ·obtain ⟨i,-,rfl⟩:=mem_vAs.1 ha;exact ty
  ·obtain ⟨i,-,rfl⟩:=mem_vAs.1 ha;exact hlt.1
theorem infoWr:∃ i,Tryz.prog.info? 100=some i∧i.zero=some (.agg #[.int .i64 0,.slice none 0 0])∧i.size=2∧i.bytes=32:=⟨_,rfl,rfl,rfl,rfl⟩
theorem wp_rec {o : Oper} {a : Act} {w : World} {K : Act → World → Prop} {Q : Exit → Act → World → Prop} (s x : Operand) (ho : o.op = .call { callee := .builtin .append, args := #[s, x], argTypes := #[101, 101] })
  (base:Nat) (v:Value) (n:Nat) (xs:List Value) (hs:a.eval s=v) (hown:w.ownsRow base 100 2 v n xs) (g0:Nat) (u0 u1:Value) (hu0:u0.oneCell'=true) (hu1:u1.oneCell'=true) (hx:a.eval x=.slice (some ⟨g0,0,none⟩) 1 1) (hc0:w.cell? ⟨g0,0,none⟩=some u0) (hc1:w.cell? ⟨g0,1,none⟩=some u1) (hn:n≤1073741824) (hbase:base≤w.heap.size)
  (h:∀ g cap w',w'.ownsRow base 100 2 (.slice (some ⟨g,0,none⟩) (n+1) cap) (n+1) (xs++[u0,u1])→w.grownBy w' v.ownBlock→(v.ownBlock=some g∨w.heap.size≤g)→g < w'.heap.size→K (a.put o.dst (.slice (some ⟨g,0,none⟩) (n+1) cap)) w'):Oper.wp Tryz.prog o a w K Q:=by
 obtain ⟨i0,hi,hz0,hz1,hz2⟩:=infoWr
 refine wp_append_lies w s x 101 ho base 100 i0 _ 2 32 Tryz.underlying101 hi hz0 hz1 hz2 rfl (by decide) v n xs hs hown ⟨g0,0,none⟩ 1 1 [u0,u1] hx rfl (fun j u' hj=>?_) (fun u' hu'=>by simp at hu';rcases hu' with rfl | rfl<;>assumption) (by decide) (by unfold maxLen;omega) (by omega) hbase _ rfl ?_
 ·match j,hj with
  | 0,hj=>simp at hj;subst hj;simpa [Addr.add] using hc0
  | 1,hj=>simp at hj;subst hj;simpa [Addr.add] using hc1
  | j+2,hj=>simp at hj
 ·intro g cap w' q1 q2 q3 q4
  exact h g cap w' q1 q2 (by rcases q3 with q3 | q3<;>first | exact .inl q3 | exact .inr (by omega)) q4
theorem step_rec {ops : Array Oper} {o : Oper} {a : Act} {K : Act → World → Prop} {Q : Exit → Act → World → Prop} {E : Prop} (hgd : o.guard = none) (s x : Operand) (ho : o.op = .call { callee := .builtin .append, args := #[s, x], argTypes := #[101, 101] })
  (w:World) (base:Nat) (v:Value) (n:Nat) (xs:List Value) (hs:a.eval s=v) (hown:w.ownsRow base 100 2 v n xs) (g0:Nat) (u0 u1:Value) (hu0:u0.oneCell'=true) (hu1:u1.oneCell'=true) (hx:a.eval x=.slice (some ⟨g0,0,none⟩) 1 1) (hc0:w.cell? ⟨g0,0,none⟩=some u0) (hc1:w.cell? ⟨g0,1,none⟩=some u1) (hn:n≤1073741824) (hbase:base≤w.heap.size)
  (h:∀ g cap w',w'.ownsRow base 100 2 (.slice (some ⟨g,0,none⟩) (n+1) cap) (n+1) (xs++[u0,u1])→w.grownBy w' v.ownBlock→(v.ownBlock=some g∨w.heap.size≤g)→g < w'.heap.size→K (a.put o.dst (.slice (some ⟨g,0,none⟩) (n+1) cap)) w'):if Region.wanted o (yielded ops a.tmps)=true then Oper.wp Tryz.prog o a w K Q else E:=by
 have hw:Region.wanted o (yielded ops a.tmps)=true:=by simp [Region.wanted,hgd]
 rw [if_pos hw]
 exact wp_rec s x ho base v n xs hs hown g0 u0 u1 hu0 hu1 hx hc0 hc1 hn hbase h
end
section
set_option linter.unusedSimpArgs false
set_option linter.unusedVariables false
set_option maxRecDepth 100000
open Go.RowKit
def rightB (m:List (List WD)) (l:List Int) (cell:Int):Bool:=memB m&&viewB m l&&decide (0≤cell∧cell < 24)
theorem mx_comm (a b:Int):mx a b=mx b a:=by unfold mx;split<;>split<;>omega
structure Rtx102 (m:List (List WD)) (l:List Int) (k:Nat) (r:List WD):Prop where
 hk:k < 24
 hr:m[k]? =some r
 n1:1≤r.length
 n2:r.length≤4000
 hl:l.length=24
 hm:m.length=24
 v0:0≤l.getD k 0
 v1:l.getD k 0 < (r.length:Int)
 hw:∀ (i:Nat) (x:WD),r[i]? =some x→x.vw.length=24
theorem right_of {m:List (List WD)} {l:List Int} {cell:Int} (h:rightB m l cell=true):∃ (k:Nat) (r:List WD),cell=k∧Rtx102 m l k r:=by
 unfold rightB at h
 rw [Bool.and_eq_true,Bool.and_eq_true,decide_eq_true_eq] at h
 obtain ⟨⟨h1,h2⟩,h3⟩:=h
 unfold memB at h1
 rw [Bool.and_eq_true,decide_eq_true_eq,List.all_eq_true] at h1
 unfold viewB at h2
 rw [decide_eq_true_eq] at h2
 obtain ⟨k,rfl⟩:∃ k:Nat,cell=k:=⟨cell.toNat,by omega⟩
 have hk:k < 24:=by omega
 obtain ⟨r,hr⟩:∃ r,m[k]? =some r:=⟨_,List.getElem?_eq_getElem (by omega)⟩
 have h4:=h1.2 r (List.mem_of_getElem? hr)
 unfold rowB at h4
 rw [Bool.and_eq_true,decide_eq_true_eq,List.all_eq_true] at h4
 have h5:=h2.2 k (by omega)
 have e:m.getD k []=r:=by rw [List.getD_eq_getElem?_getD,hr];rfl
 rw [e] at h5
 refine ⟨k,r,rfl,hk,hr,h4.1.1,h4.1.2,by omega,h1.1,h5.1,h5.2,fun i x hx=>?_⟩
 have h6:=h4.2 x (List.mem_of_getElem? hx)
 unfold viewB at h6
 rw [decide_eq_true_eq] at h6
 omega
theorem l1Max_is (a b z:Int) (w:World) (h:mx a b=z):Calls Tryz.prog 30 #[.int .i64 a,.int .i64 b] w fun e w'=>e=.returned (.int .i64 z)∧w'=w:=by
 rw [← h]
 exact l1Max_any a b w
set_option maxHeartbeats 2000000 in
theorem l6Load_any (s s' : Option Addr) (c c' lo hi lo' hi' : Nat) (m : List (List WD)) (l : List Int) (k : Nat) (r : List WD) (late : Int) (hold : Bool) (j : Nat) (x : WD) (w : World) (h : MemR w lo hi s m) (h' : IntsR w lo' hi' s' l) (hB : hi ≤ w.heap.size) (hB' : hi' ≤ w.heap.size) (hr : Rtx102 m l k r)
  (hlate:late≤9223372036854775807) (hj:mx (l.getD k 0) ((r.length:Int) - 1 - mx late 0)=j) (hx:r[j]? =some x):
  Calls Tryz.prog 57 #[.agg #[.slice s m.length c],.slice s' l.length c',.int .i64 k,.int .i64 late,.bool hold] w fun e w'=>∃ v,e=.returned (.tuple #[.int .i64 x.v,v])∧OwnN w' w.heap.size v (if hold=true then joinL (l.set k j) x.vw else l.set k j)∧Below w.heap.size w w':=by
 obtain ⟨gm,om,s1,c1,es,a1,a2,a3,a4⟩:=h.row hr.hr
 subst es
 obtain ⟨gr,or_,s2,c2,es,b1,b2,b3,b4,b5⟩:=a4.at hx
 subst es
 have hk:=hr.hk
 have hll:=hr.hl
 have hml:=hr.hm
 have hn1:=hr.n1
 have hn2:=hr.n2
 have hjr:=(List.getElem?_eq_some_iff.1 hx).1
 obtain ⟨gv,ov,es,f1,f2,f3⟩:=h'.pos (by omega)
 subst es
 have e1:=f3 k (by omega)
 have hv0:=hr.v0
 have hv1:=hr.v1
 have H:Hid (MemR w lo hi (some ⟨gm,om,none⟩) m):=h
 have H':Hid (IntsR w lo' hi' (some ⟨gv,ov,none⟩) l):=h'
 have HI:Hid (IntsR w lo hi s2 x.vw):=b5
 have hxl:=hr.hw j x hx
 have HXL:Hid (x.vw.length=24):=hxl
 have HLL:Hid (l.length=24):=hll
 have hl2:l.length≤1048577:=by omega
 generalize l.getD k 0=y at e1 hv0 hv1 hj
 obtain ⟨q,hq⟩:∃ q:Int,mx late 0=q:=⟨_,rfl⟩
 have hq0:0≤q∧q≤9223372036854775807:=by subst hq;unfold mx;split<;>omega
 rw [hq] at hj
 have HQ:Hid (mx late 0=q):=hq
 have HJ:Hid (mx ((r.length:Int) - 1 - q) y=j):=by show mx _ _=_;rw [mx_comm];exact hj
 have hw1:IntKind.i64.wrap ((r.length:Int) - 1 - q)=(r.length:Int) - 1 - q:=Go.IntWalk.i64_in _ (by omega)
 have hw0:IntKind.i64.wrap ((r.length:Int) - 1)=(r.length:Int) - 1:=Go.IntWalk.i64_in _ (by omega)
 have HJ2:Hid (mx (IntKind.i64.wrap (IntKind.i64.wrap ((r.length:Int) - 1) - q)) y=j):=by show mx _ _=_;rw [hw0,hw1];exact HJ.out
 have HJ3:Hid (mx (IntKind.i64.wrap ((r.length:Int) - 1 - q)) y=j):=by show mx _ _=_;rw [hw1];exact HJ.out
 clear hw0 hw1
 have B0:(0:Int)≤(k:Int):=by omega
 have B1:(k:Int) < (l.length:Int):=by omega
 have B2:(k:Int) < (m.length:Int):=by omega
 have B3:(0:Int)≤(j:Int):=by omega
 have B4:(j:Int) < (r.length:Int):=by omega
 have G1:gm < w.heap.size:=by omega
 have G2:gr < w.heap.size:=by omega
 have G3:gv < w.heap.size:=by omega
 clear h h' a4 b5 hx hj hr hq hll hml hxl f3
 go_enter Tryz.func57,Tryz.ntmps57
 go_wp2_with fail
 obtain ⟨W,hW,bx,kb,zb⟩:=Bo1.new w (.slice (some ⟨gm,om,none⟩) m.length c) 32
 rw [hW]
 clear hW
 have c0:=bx.c0
 have HKB:Hid (Below w.heap.size w W):=kb
 have z0:w.heap.size < W.heap.size:=by omega
 have k1:=(kb.cell (p:=⟨gm,om+k,none⟩) G1).trans a3
 have k2:=(kb.cell (p:=⟨gr,or_+j * 2,none⟩) G2).trans b3
 have k3:=(kb.cell (p:=⟨gr,or_+j * 2+1,none⟩) G2).trans b4
 have k4:=(kb.cell (p:=⟨gv,ov+k,none⟩) G3).trans e1
 have IW:Hid (IntsR W lo hi s2 x.vw):=HI.out.keep (Keep.of_below kb hB)
 have LW:Hid (IntsR W lo' hi' (some ⟨gv,ov,none⟩) l):=H'.out.keep (Keep.of_below kb hB')
 have y1:gm < W.heap.size:=by omega
 have y2:gr < W.heap.size:=by omega
 have y3:gv < W.heap.size:=by omega
 have y4:hi≤W.heap.size:=by omega
 clear bx kb zb a3 b3 b4 e1
 go_quiet (first | (go_at_call 30;exact Calls.quiet_of_same (l1Max_is _ _ _ _ HQ.out)) | (go_at_call 30;exact Calls.quiet_of_same (l1Max_is _ _ _ _ HJ.out)) | (go_at_call 30;exact Calls.quiet_of_same (l1Max_is _ _ _ _ HJ2.out)) | (go_at_call 30;exact Calls.quiet_of_same (l1Max_is _ _ _ _ HJ3.out)))
 obtain ⟨Y,hY⟩:∃ Y,W.drewN nq=Y:=⟨_,rfl⟩
 have kY:Below W.heap.size W Y:=by rw [← hY];exact below_drewN _ _
 have zY:=kY.size
 rw [hY]
 clear hY
 have HKY:Hid (Below w.heap.size w Y):=HKB.out.trans (kY.mono (by omega))
 have m1:=(kY.cell (p:=⟨gm,om+k,none⟩) y1).trans k1
 have m2:=(kY.cell (p:=⟨gr,or_+j * 2,none⟩) y2).trans k2
 have m3:=(kY.cell (p:=⟨gr,or_+j * 2+1,none⟩) y2).trans k3
 have IY:Hid (IntsR Y lo hi s2 x.vw):=IW.out.keep (Keep.of_below kY (by omega))
 have LY:Hid (IntsR (Y.alloc (.cells #[] 3)) lo' hi' (some ⟨gv,ov,none⟩) l):=LW.out.keep (Keep.of_below (kY.trans (((Below.refl _ _).alloc (Nat.le_refl _) _).mono zY)) (by omega))
 have w2:gr < Y.heap.size:=by omega
 have w4:hi≤Y.heap.size:=by omega
 clear kY k1 k2 k3 k4 c0 m1
 cases hold
 ·go_wp2_with (at_builtin;refine app_copyI rfl _ _ rfl rfl _ Y.heap.size (some ⟨Y.heap.size,0,none⟩) 0 rfl (ownN_empty (Nat.le_refl _)) (some ⟨gv,ov,none⟩) c' l rfl LY.out (by omega) (by simp) ?_;intro s5 c5 w5 ho5 hc5;obtain ⟨g5,cap5,e5,-⟩:=World.ownsRow.form ho5 (by omega);injection e5 with e51 e52 e53;subst e51;have q0:w5.cell? ⟨g5,k,none⟩=some (.int .i64 (l.getD k 0)):=ho5.cell (by omega);have q1:w5.frozen? ⟨g5,k,none⟩=false:=World.ownsRow.frozenAt ho5 k;have q9:=(World.ownsRow.lt ho5 g5 rfl);have hb5:Below Y.heap.size Y w5:=((Below.refl _ _).alloc (Nat.le_refl _) _).trans hc5.low;have q2:=(hb5.cell (p:=⟨gr,or_+j * 2,none⟩) w2).trans m2;have q3:=(hb5.cell (p:=⟨gr,or_+j * 2+1,none⟩) w2).trans m3;have q4:¬ g5=gr:=(by omega);have q5:¬ gr=g5:=(by omega);have HO5:=(show Hid (OwnN w5 Y.heap.size (.slice (some ⟨g5,0,none⟩) l.length c5) l) from ho5);have HB5:Hid (Below Y.heap.size Y w5):=hb5;clear ho5 hc5 hb5 e53)
  have st:OwnN (w5.setCell ⟨g5,k,none⟩ (.int .i64 j)) Y.heap.size (.slice (some ⟨g5,0,none⟩) l.length c5) (l.set k j):=by
   have p5:=(World.ownsRow.stored HO5.out k (.int .i64 j)).1
   unfold OwnN
   rw [List.map_set,List.length_set]
   exact p5
  have kb:Below Y.heap.size Y (w5.setCell ⟨g5,k,none⟩ (.int .i64 j)):=HB5.out.setCell (p:=⟨g5,k,none⟩) q9.1 _
  go_ret2
  exact ⟨_,rfl,ownLow' st (by have:=HKY.out.size;omega),HKY.out.trans (kb.mono HKY.out.size)⟩
 ·go_wp2_with (first | (at_builtin;refine app_copyI rfl _ _ rfl rfl _ Y.heap.size (some ⟨Y.heap.size,0,none⟩) 0 rfl (ownN_empty (Nat.le_refl _)) (some ⟨gv,ov,none⟩) c' l rfl LY.out (by omega) (by simp) ?_;intro s5 c5 w5 ho5 hc5;obtain ⟨g5,cap5,e5,-⟩:=World.ownsRow.form ho5 (by omega);injection e5 with e51 e52 e53;subst e51;have q0:w5.cell? ⟨g5,k,none⟩=some (.int .i64 (l.getD k 0)):=ho5.cell (by omega);have q1:w5.frozen? ⟨g5,k,none⟩=false:=World.ownsRow.frozenAt ho5 k;have q9:=(World.ownsRow.lt ho5 g5 rfl);have hb5:Below Y.heap.size Y w5:=((Below.refl _ _).alloc (Nat.le_refl _) _).trans hc5.low;have q2:=(hb5.cell (p:=⟨gr,or_+j * 2,none⟩) w2).trans m2;have q3:=(hb5.cell (p:=⟨gr,or_+j * 2+1,none⟩) w2).trans m3;have q4:¬ g5=gr:=(by omega);have q5:¬ gr=g5:=(by omega);have HO5:=(show Hid (OwnN w5 Y.heap.size (.slice (some ⟨g5,0,none⟩) l.length c5) l) from ho5);have HB5:Hid (Below Y.heap.size Y w5):=hb5;clear ho5 hc5 hb5 e53) | fail)
  have st:OwnN (w5.setCell ⟨g5,k,none⟩ (.int .i64 j)) Y.heap.size (.slice (some ⟨g5,0,none⟩) l.length c5) (l.set k j):=by
   have p5:=(World.ownsRow.stored HO5.out k (.int .i64 j)).1
   unfold OwnN
   rw [List.map_set,List.length_set]
   exact p5
  have kb:Below Y.heap.size Y (w5.setCell ⟨g5,k,none⟩ (.int .i64 j)):=HB5.out.setCell (p:=⟨g5,k,none⟩) q9.1 _
  obtain ⟨X,hX⟩:∃ X,w5.setCell ⟨g5,k,none⟩ (.int .i64 j)=X:=⟨_,rfl⟩
  rw [hX] at st kb
  rw [hX]
  have n2:=(kb.cell (p:=⟨gr,or_+j * 2,none⟩) w2).trans m2
  have zX:=kb.size
  have OX:Hid (IntsR X Y.heap.size X.heap.size (some ⟨g5,0,none⟩) (l.set k (j:Int))):=ownN_intsR (c:=c5) (by rw [List.length_set];exact st)
  have IX:Hid (IntsR X lo hi s2 x.vw):=IY.out.keep (Keep.of_below kb (by omega))
  have HKX:Hid (Below Y.heap.size Y X):=kb
  have zg:gr < X.heap.size:=by omega
  clear hX st kb q0 q1 q2 q3
  have jn:=specJoin_any (some ⟨g5,0,none⟩) s2 c5 c2 _ _ lo hi (l.set k (j:Int)) x.vw X OX.out IX.out (by rw [List.length_set];omega) (by have:=HXL.out;omega) (Nat.le_refl _) (by omega)
  rw [List.length_set] at jn
  refine jn.mono ?_
  rintro e w6 ⟨v6,rfl,ho6,hb6⟩
  have n3:=(hb6.cell (p:=⟨gr,or_+j * 2,none⟩) zg).trans n2
  have HO6:=(show Hid _ from ho6)
  have HB6:Hid (Below X.heap.size X w6):=hb6
  have z6:=hb6.size
  have zg6:gr < w6.heap.size:=by omega
  clear ho6 hb6 jn n2
  go_wp2
  go_ret2
  exact ⟨_,rfl,ownLow' HO6.out (by have:=HKY.out.size;omega),HKY.out.trans ((HKX.out.trans (HB6.out.mono (by omega))).mono HKY.out.size)⟩
end
section
set_option linter.unusedSimpArgs false
set_option linter.unusedVariables false
set_option maxRecDepth 100000
open Go.RowKit
theorem mAs_join (b:List RS):∀ (a:List RS),mAs (a++b)=mAs a++mAs b
 | []=>by simp [mAs]
 | y::r=>by simp [mAs,mAs_join b r]
theorem mAs_cut {S:List RS} {j:Nat} {x:RS} (h:S[j]? =some x):mAs S=mAs (S.take j)++(rAs x.s x.vs 0++mAs (S.drop (j+1))):=by
 have hj:=(List.getElem?_eq_some_iff.1 h).1
 have e:S=S.take j++(x::S.drop (j+1)):=by
  rw [← (List.getElem?_eq_some_iff.1 h).2,← List.drop_eq_getElem_cons hj,List.take_append_drop]
 have h1:=mAs_join (x::S.drop (j+1)) (S.take j)
 rw [← e] at h1
 exact h1
theorem mAs_disj {S:List RS} (hd:(mAs S).Nodup) {i k:Nat} {r r':RS} (hi:S[i]? =some r) (hk:S[k]? =some r') (hlt:i < k):∀ a∈rAs r.s r.vs 0,a∉rAs r'.s r'.vs 0:=fun a ha ha'=>by
 have sp:=mAs_cut hk
 rw [sp] at hd
 have hm:a∈mAs (S.take k):=mem_mAs.2 ⟨r,List.mem_of_getElem? (i:=i) (by rw [List.getElem?_take,if_pos hlt];exact hi),ha⟩
 exact (List.nodup_append.1 hd).2.2 a hm a (List.mem_append_left _ ha') rfl
theorem OW.sepR {w : World} {B : Nat} {v : Value} {S : List RS} {m : List (List WD)} (h : OW w B v S m) (hne : ∀ (i : Nat) (r : RS), S[i]? = some r → 0 < r.vs.length) {i k : Nat} {r r' : RS} {l l' : List WD} (hi : S[i]? = some r) (hl : m[i]? = some l) (hk : S[k]? = some r') (hl' : m[k]? = some l') (hik : i ≠ k) {b : Nat} (hb : r'.val.ownBlock = some b) :
  (∀ k',r.val.ownBlock=some k'→k'≠b)∧∀ a∈vsA r.vs,a.block≠b:=by
 have q:=h.r i r l hi hl
 have q':=h.r k r' l' hk hl'
 refine ⟨fun k' e1 e=>?_,fun a ha=>q'.sepV hb (q.vt a ha)⟩
 subst e
 obtain ⟨g1,cap1,f1,-⟩:=World.ownsRow.form q.own (hne i r hi)
 obtain ⟨g2,cap2,f2,-⟩:=World.ownsRow.form q'.own (hne k r' hk)
 have s1:r.s=some ⟨g1,0,none⟩:=by unfold RS.val at f1;injection f1 with f1
 have s2:r'.s=some ⟨g2,0,none⟩:=by unfold RS.val at f2;injection f2 with f2
 have b1:g1=k':=by unfold RS.val at e1;rw [s1] at e1;injection e1
 have b2:g2=k':=by unfold RS.val at hb;rw [s2] at hb;injection hb
 have m1:(⟨k',0,none⟩:Addr)∈rAs r.s r.vs 0:=mem_rAs.2 (.inl ⟨0,hne i r hi,by rw [s1,b1];rfl⟩)
 have m2:(⟨k',0,none⟩:Addr)∈rAs r'.s r'.vs 0:=mem_rAs.2 (.inl ⟨0,hne k r' hk,by rw [s2,b2];rfl⟩)
 rcases Nat.lt_or_gt_of_ne hik with h1 | h1
 ·exact mAs_disj h.d hi hk h1 _ m1 m2
 ·exact mAs_disj h.d hk hi h1 _ m2 m1
theorem OW.setRow {w w1 w2 : World} {B gO cO g cap k : Nat} {S : List RS} {m : List (List WD)} {r : RS} {l : List WD} (x : VS) (y : WD) (h : OW w B (.slice (some ⟨gO, 0, none⟩) m.length cO) S m) (hb : Below w.heap.size w w1) (hB : B ≤ w.heap.size) (hne : ∀ (i : Nat) (r : RS), S[i]? = some r → 0 < r.vs.length)
  (hk:S[k]? =some r) (hl:m[k]? =some l) (hx:VO w1 w.heap.size w1.heap.size x y.vw) (hxt:∀ a∈vAs x,TyI w1 a.block) (hxd:(vAs x).Nodup)
  (h2:w2.ownsRow B 100 2 (.slice (some ⟨g,0,none⟩) (r.vs.length+1) cap) (r.vs.length+1) (flatV r.vs l++[.int .i64 y.v,.slice x.s x.n x.c])) (hg:w1.grownBy w2 r.val.ownBlock) (hn:r.val.ownBlock=some g∨w1.heap.size≤g):
  OW (w2.setCell ⟨gO,k,none⟩ (.slice (some ⟨g,0,none⟩) (r.vs.length+1) cap)) B (.slice (some ⟨gO,0,none⟩) m.length cO) (S.set k ⟨some ⟨g,0,none⟩,cap,r.vs++[x]⟩) (m.set k (l++[y])):=by
 have h1:=h.below hb
 have hkS:=(List.getElem?_eq_some_iff.1 hk).1
 have hkm:k < m.length:=by have:=h.n;omega
 have hn1:=h.n
 have q:=h1.r k r l hk hl
 have old:∀ a∈mAs S,a.block < w.heap.size:=fun a ha=>(h.om.blk ha).2
 have P:ORow w2 B ⟨some ⟨g,0,none⟩,cap,r.vs++[x]⟩ (l++[y]):=by
  refine q.push x y (hx.mono hB (Nat.le_refl _)) hxt hxd (fun a ha ha'=>?_) h2 hg
  have e1:=(hx.blk ha').1
  have e2:=old a (mem_mAs.2 ⟨r,List.mem_of_getElem? hk,by obtain ⟨x',hx',hax⟩:=mem_vsA.1 ha;exact mem_rAs.2 (.inr ⟨x',hx',hax⟩)⟩)
  omega
 obtain ⟨cO',ocs⟩:=rows_blkT h1.row (k:=gO) rfl
 have rb:∀ b,r.val.ownBlock=some b→b≠gO:=fun b e e'=>by
  subst e'
  obtain ⟨cs,c1⟩:=q.blkT e
  rw [c1] at ocs
  injection ocs with ocs
  injection ocs with _ ocs
  exact absurd ocs (by decide)
 have gOl:gO < w1.heap.size:=(World.ownsRow.lt h1.row gO rfl).2
 have ocs2:w2.heap[gO]? =w1.heap[gO]? :=hg.block _ gOl (fun e=>rb gO e.symm rfl)
 have kS:∀ b,b≠gO→(w2.setCell ⟨gO,k,none⟩ (.slice (some ⟨g,0,none⟩) (r.vs.length+1) cap)).heap[b]? =w2.heap[b]? :=fun b hb=>Below.heap_setCell _ _ _ b hb
 have fin:∀ (r':RS) (l':List WD),ORow w2 B r' l'→ORow (w2.setCell ⟨gO,k,none⟩ (.slice (some ⟨g,0,none⟩) (r.vs.length+1) cap)) B r' l':=fun r' l' p=>by
  refine p.kept (fun b e=>kS b (fun e'=>?_)) (fun a ha=>kS _ (fun e'=>?_)) (by simp)
  ·subst e'
   obtain ⟨cs,c1⟩:=p.blkT e
   rw [ocs2,ocs] at c1
   injection c1 with c1
   injection c1 with _ c1
   exact absurd c1 (by decide)
  ·obtain ⟨cs,f,c1⟩:=p.vt a ha
   rw [e',ocs2,ocs] at c1
   injection c1 with c1
   injection c1 with _ c1
   exact absurd c1 (by decide)
 have oth:∀ (i:Nat) (r1:RS) (l1:List WD),i≠k→S[i]? =some r1→m[i]? =some l1→ORow w2 B r1 l1:=fun i r1 l1 hik e1 e2=>by
  have p:=h1.r i r1 l1 e1 e2
  refine p.kept (fun b e=>hg.block _ (World.ownsRow.lt p.own _ e).2 (fun e'=>?_)) (fun a ha=>hg.block _ (p.blk ha).2 (fun e'=>?_)) hg.size
  ·exact (h1.sepR hne e1 e2 hk hl hik e'.symm).1 b e rfl
  ·exact (h1.sepR hne e1 e2 hk hl hik e'.symm).2 a ha rfl
 refine ⟨by simp [hn1],?_,fun i r1 l1 e1 e2=>?_,?_⟩
 ·have o2:w2.ownsRow B 101 1 (.slice (some ⟨gO,0,none⟩) m.length cO) m.length (S.map RS.val):=by
   have:=ownKeep' (w':=w2) h1.row (fun b e=>by have e9:some gO=some b:=e;injection e9 with e9;subst e9;exact ocs2)
   rw [hn1] at this
   exact this
  have p1:=(World.ownsRow.stored o2 k (.slice (some ⟨g,0,none⟩) (r.vs.length+1) cap)).1
  have e3:(S.map RS.val).set k (.slice (some ⟨g,0,none⟩) (r.vs.length+1) cap)=(S.set k ⟨some ⟨g,0,none⟩,cap,r.vs++[x]⟩).map RS.val:=by
   rw [List.map_set]
   simp [RS.val]
  rw [e3] at p1
  rw [List.length_set,hn1]
  exact p1
 ·by_cases hik:i=k
  ·subst hik
   rw [List.getElem?_set_self hkS] at e1
   rw [List.getElem?_set_self hkm] at e2
   injection e1 with e1
   injection e2 with e2
   subst e1 e2
   exact fin _ _ P
  ·rw [List.getElem?_set_ne (fun e=>hik e.symm)] at e1 e2
   exact fin _ _ (oth i r1 l1 hik e1 e2)
 ·have sp:=mAs_cut hk
  have d0:=h.d
  rw [sp] at d0
  obtain ⟨dA,dr,dAr⟩:=List.nodup_append.1 d0
  obtain ⟨drr,dB,drB⟩:=List.nodup_append.1 dr
  rw [List.set_eq_take_append_cons_drop,if_pos hkS,mAs_join]
  show (mAs (S.take k)++(rAs (some ⟨g,0,none⟩) (r.vs++[x]) 0++mAs (S.drop (k+1)))).Nodup
  -- an address of the new row is in no other row
  have key:∀ a∈rAs (some ⟨g,0,none⟩) (r.vs++[x]) 0,∀ (i:Nat) (r1:RS),i≠k→S[i]? =some r1→a∉rAs r1.s r1.vs 0:=fun a ha i r1 hik e1 ha1=>by
   have hil:i < m.length:=by have:=(List.getElem?_eq_some_iff.1 e1).1;omega
   have e2:m[i]? =some m[i]:=List.getElem?_eq_getElem hil
   have ao:=old a (mem_mAs.2 ⟨r1,List.mem_of_getElem? e1,ha1⟩)
   rcases mem_rAs.1 ha with ⟨j,hj,e⟩ | ⟨x',hx',hax⟩
   ·rcases hn with hn | hn
    ·have sr:=h1.sepR hne e1 e2 hk hl hik hn
     rcases mem_rAs.1 ha1 with ⟨j1,hj1,e3⟩ | ⟨x1,hx1,hax1⟩
     ·obtain ⟨g1,cap1,f1,-⟩:=World.ownsRow.form (h1.r i r1 _ e1 e2).own (hne i r1 e1)
      have s1:r1.s=some ⟨g1,0,none⟩:=by unfold RS.val at f1;injection f1 with f1
      have:=sr.1 g1 (by unfold RS.val;rw [s1];rfl)
      rw [s1] at e3
      rw [e3] at e
      injection e with e _ _
      exact this e
     ·exact sr.2 a (mem_vsA.2 ⟨x1,hx1,hax1⟩) (by rw [e];rfl)
    ·have:a.block=g:=by rw [e];rfl
     have:=hb.size
     omega
   ·rcases List.mem_append.1 hx' with hx' | hx'
    ·have m1:a∈rAs r.s r.vs 0:=mem_rAs.2 (.inr ⟨x',hx',hax⟩)
     rcases Nat.lt_or_gt_of_ne hik with h9 | h9
     ·exact mAs_disj h.d e1 hk h9 a ha1 m1
     ·exact mAs_disj h.d hk e1 h9 a m1 ha1
    ·simp at hx'
     subst hx'
     have:=(hx.blk hax).1
     omega
  refine List.nodup_append.2 ⟨dA,List.nodup_append.2 ⟨P.ro.d,dB,fun a ha b hb' e=>?_⟩,fun a ha b hb' e=>?_⟩
  ·subst e
   obtain ⟨r1,hr1,har⟩:=mem_mAs.1 hb'
   obtain ⟨i,hi',er⟩:=List.getElem_of_mem hr1
   rw [List.getElem_drop] at er
   exact key a ha (k+1+i) r1 (by omega) (by rw [List.getElem?_eq_getElem (by simp at hi';omega),er]) har
  ·subst e
   rcases List.mem_append.1 hb' with hb' | hb'
   ·obtain ⟨r1,hr1,har⟩:=mem_mAs.1 ha
    obtain ⟨i,hi',er⟩:=List.getElem_of_mem hr1
    rw [List.getElem_take] at er
    exact key a hb' i r1 (by simp at hi';omega) (by rw [List.getElem?_eq_getElem (by simp at hi';omega),er]) har
   ·exact dAr a ha a (List.mem_append_right _ hb') rfl
end
end Go.Proofs.YtkhjhibigldcgaaGreat
