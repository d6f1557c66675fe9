/- Lists of integers as they lie in memory, and what the laws' small functions make of them. Conditions: the lists are of at most a thousand million numbers. Lists of integers as they lie in memory between two blocks, and how the laws copy and count them. Conditions: at most 1048576 integers where they are copied. Lists of steps as they lie in memory, and how the laws copy them. Conditions: lists of at most 1048576 steps. Rows of numbers that a call has made: how they lie, what keeps them, and append of one number, and of three noughts. Conditions: fewer than 2^40 numbers. -/
import Derived.Test.YtepfpbcjklaenaaGreatJG00
import Derived.Test.YtepfpbcjklaenaaGreatChecked
import Derived.WalkKit
import Derived.KernelRfl
import Derived.WalkSpells
import Derived.WalkLawsBesides
import Derived.Deep.QuietTactic
import Derived.BigQuiet
import Derived.Laws.MakeOwn
import Derived.Below
import Derived.Laws.OwnMore
import Derived.Deep.AppendLies
namespace Go.Proofs.YtepfpbcjklaenaaGreat
section
set_option linter.unusedSimpArgs false
set_option linter.unusedVariables false
set_option maxRecDepth 100000
open Go.RowKit
def Ints (w:World) (s:Option Addr) (l:List Int):Prop:=
 l=[]∨∃ g o,s=some ⟨g,o,none⟩∧g < w.heap.size∧∀ i,i < l.length→w.cell? ⟨g,o+i,none⟩=some (.int .i64 (l.getD i 0))
theorem ret_bool' {x y:Bool} (h:x=y):Ending.returned (.bool x)=Ending.returned (.bool y):=by rw [h]
theorem getD_eq_all (l l':List Int) (h:l.length=l'.length) (hj:∀ j,j < l.length→l.getD j 0=l'.getD j 0):l=l':=by
 apply List.ext_getElem h
 intro i h1 h2
 have:=hj i h1
 simpa [List.getD_eq_getElem?_getD,h1,h2] using this
set_option maxHeartbeats 400000 in
theorem eqIntS_any (s s' : Option Addr) (l l' : List Int) (c c' : Nat) (w : World) (h : Ints w s l) (h' : Ints w s' l') (hb : l.length ≤ 1000000000) :
  Calls Tryz.prog 11 #[.slice s l.length c,.slice s' l'.length c'] w fun e w'=>e=.returned (.bool (decide (l=l')))∧∃ n,w'=w.drewN n:=by
 by_cases hn:l.length=l'.length
 ·have hne:((l.length:Int) !=(l'.length:Int))=false:=by simp;omega
  have HN:Hid (l.length=l'.length):=hn
  rcases h with rfl | ⟨g,o,rfl,hg,hc⟩
  ·have:l'=[]:=by cases l' with | nil=>rfl | cons a t=>simp at hn
   subst this
   clear hn
   go_enter Tryz.func11,Tryz.ntmps11
   go_wp2
   go_loop [5] (fun i=>i=.int .i64 0) (fun _=>0)
   case atStart=>rfl
   case round=>
    subst hrel
    go_wp2
    go_ret
    exact ⟨by simp,0,rfl⟩
  ·rcases h' with rfl | ⟨g',o',rfl,hg',hc'⟩
   ·have:l=[]:=by cases l with | nil=>rfl | cons a t=>simp at hn
    subst this
    clear hn
    go_enter Tryz.func11,Tryz.ntmps11
    go_wp2
    go_loop [5] (fun i=>i=.int .i64 0) (fun _=>0)
    case atStart=>rfl
    case round=>
     subst hrel
     go_wp2
     go_ret
     exact ⟨by simp,0,rfl⟩
   ·have HC:Hid (∀ i,i < l.length→w.cell? ⟨g,o+i,none⟩=some (.int .i64 (l.getD i 0))):=hc
    have HC':Hid (∀ i,i < l'.length→w.cell? ⟨g',o'+i,none⟩=some (.int .i64 (l'.getD i 0))):=hc'
    clear hn hc hc'
    go_enter Tryz.func11,Tryz.ntmps11
    go_wp2
    go_loopw [5] (fun i wr=>∃ k m:Nat,k≤l.length∧i=.int .i64 k∧(∀ j,j < k→l.getD j 0=l'.getD j 0)∧wr=w.drewN m) (fun i _=>l.length - (intOf i).toNat)
    case atStart=>exact ⟨0,0,Nat.zero_le _,rfl,fun j hj=>absurd hj (Nat.not_lt_zero _),rfl⟩
    case round=>
     obtain ⟨k,m,hk,rfl,hj,rfl⟩:=hrel
     have HJ:Hid (∀ j,j < k→l.getD j 0=l'.getD j 0):=hj
     clear hj
     by_cases hlt:k < l.length
     ·have hlt':k < l'.length:=by have:=HN.out;omega
      have e1:=HC.out k hlt
      have e2:=HC'.out k hlt'
      generalize hx:l.getD k 0=x at e1
      generalize hy:l'.getD k 0=y at e2
      have HX:Hid (l.getD k 0=x):=hx
      have HY:Hid (l'.getD k 0=y):=hy
      clear hx hy
      have b0:(0:Int)≤(k:Int):=by omega
      have b1:(k:Int) < (l.length:Int):=by omega
      have b2:(k:Int) < (l'.length:Int):=by omega
      by_cases hxy:x=y
      ·have hd:(x !=y)=false:=by simp [hxy]
       have HXY:Hid (x=y):=hxy
       clear hxy
       go_wp2_with fail
       go_quiet (fail)
       go_wp2
       go_roundw
       case rel=>
        refine ⟨k+1,_,by omega,by go_num,?_,rfl⟩
        intro j hj
        by_cases e:j < k
        ·exact HJ.out j e
        ·have:j=k:=by omega
         subst this
         rw [HX.out,HY.out,HXY.out]
       case measure=>simp [intOf];omega
      ·have hd:(x !=y)=true:=by simp [hxy]
       have HXY:Hid (¬ x=y):=hxy
       clear hxy
       go_wp2_with fail
       go_quiet (fail)
       go_wp2
       go_ret
       refine ⟨ret_bool' ?_,m+nq,World.drewN_drewN _ _ _⟩
       symm
       rw [decide_eq_false_iff_not]
       rintro rfl
       exact HXY.out (HX.out.symm.trans HY.out)
     ·go_wp2
      go_ret
      refine ⟨ret_bool' ?_,_,rfl⟩
      symm
      rw [decide_eq_true_iff]
      exact getD_eq_all l l' HN.out (fun j hj=>HJ.out j (by omega))
 ·have hne:((l.length:Int) !=(l'.length:Int))=true:=by simp;omega
  have HN:Hid (¬ l.length=l'.length):=hn
  clear hn
  go_enter Tryz.func11,Tryz.ntmps11
  go_wp2
  go_ret
  refine ⟨ret_bool' ?_,0,rfl⟩
  symm
  rw [decide_eq_false_iff_not]
  rintro rfl
  exact HN.out rfl
end
section
set_option linter.unusedSimpArgs false
set_option linter.unusedVariables false
set_option maxRecDepth 100000
open Go.RowKit
theorem new_cell {w:World} {C:Array Value} {t:TypeId} {j:Nat} (h:j < C.size):((w.alloc (.cells C t)).cell? ⟨w.heap.size,j,none⟩).isSome=true:=by
 simp [go_sem,h]
theorem new_frozen {w:World} {C:Array Value} {t:TypeId} {j:Nat}:(w.alloc (.cells C t)).frozen? ⟨w.heap.size,j,none⟩=false:=by
 simp [go_sem]
theorem setC_at {w:World} {g i:Nat} {v:Value} (h:(w.cell? ⟨g,i,none⟩).isSome=true):(w.setCell ⟨g,i,none⟩ v).cell? ⟨g,i,none⟩=some v:=World.cell?_setCell_same' w _ v h
theorem setC_off {w:World} {g i j:Nat} {v:Value} (h:i≠j):(w.setCell ⟨g,i,none⟩ v).cell? ⟨g,j,none⟩=w.cell? ⟨g,j,none⟩:=by
 apply World.cell?_setCell_other
 intro e
 injection e with e1 e2
 exact h e2
theorem setC_some {w:World} {g i j:Nat} {v:Value} (h:(w.cell? ⟨g,j,none⟩).isSome=true):((w.setCell ⟨g,i,none⟩ v).cell? ⟨g,j,none⟩).isSome=true:=by
 by_cases e:i=j
 ·subst e;rw [setC_at h];rfl
 ·rw [setC_off e];exact h
def Keep (lo hi:Nat) (w w':World):Prop:=∀ k,lo≤k→k < hi→w'.heap[k]? =w.heap[k]?
theorem Keep.of_below {lo hi B:Nat} {w w':World} (hb:Below B w w') (h:hi≤B):Keep lo hi w w':=fun k _ hk=>hb.block k (by omega)
theorem Keep.cell {lo hi:Nat} {w w':World} (h:Keep lo hi w w') {p:Addr} (h1:lo≤p.block) (h2:p.block < hi):w'.cell? p=w.cell? p:=World.cell?_of_block (w:=w) (h p.block h1 h2)
def IntsR (w:World) (lo hi:Nat) (s:Option Addr) (l:List Int):Prop:=
 l=[]∨∃ g off,s=some ⟨g,off,none⟩∧lo≤g∧g < hi∧∀ i,i < l.length→w.cell? ⟨g,off+i,none⟩=some (.int .i64 (l.getD i 0))
theorem IntsR.keep {w w':World} {lo hi:Nat} {s:Option Addr} {l:List Int} (h:IntsR w lo hi s l) (hb:Keep lo hi w w'):IntsR w' lo hi s l:=by
 rcases h with h | ⟨g,o,hs,h1,h2,hc⟩
 ·exact .inl h
 ·exact .inr ⟨g,o,hs,h1,h2,fun i hi=>(hb.cell h1 h2).trans (hc i hi)⟩
theorem IntsR.mono {w:World} {lo hi lo' hi':Nat} {s:Option Addr} {l:List Int} (h:IntsR w lo hi s l) (h1:lo'≤lo) (h2:hi≤hi'):IntsR w lo' hi' s l:=by
 rcases h with h | ⟨g,o,hs,a,b,hc⟩
 ·exact .inl h
 ·exact .inr ⟨g,o,hs,by omega,by omega,hc⟩
theorem IntsR.ints {w:World} {lo hi:Nat} {s:Option Addr} {l:List Int} (h:IntsR w lo hi s l) (hh:hi≤w.heap.size):Ints w s l:=by
 rcases h with h | ⟨g,o,hs,a,b,hc⟩
 ·exact .inl h
 ·exact .inr ⟨g,o,hs,by omega,hc⟩
theorem mkInt (n:Nat) (hn:n≤1048576) (w:World):(Instr.makeSlice 41 (.int .i64 (n:Int)) (.int .i64 (n:Int))).run Tryz.prog w=.ok (.slice (some ⟨w.heap.size,0,none⟩) n n) (w.alloc (.cells (madeCells #[.int .i64 0] (n * 1)) 3)):=by
 have h:=run_make (P:=Tryz.prog) w 41 3 _ (.int .i64 0) Tryz.underlying41 rfl rfl .i64 .i64 n n (by omega) (Int.le_refl _) (by show (8:Int) * _≤_;omega) (by omega)
 have e:(Value.int .i64 0).cells=#[.int .i64 0]:=rfl
 have e':∀ t,Tryz.prog.info? 3=some t→t.size=1:=by intro t h;cases h;rfl
 rw [e,e' _ rfl] at h
 simpa using h
theorem setC_blk {w:World} {g g' i j:Nat} {v:Value} (h:g≠g'):(w.setCell ⟨g,i,none⟩ v).cell? ⟨g',j,none⟩=w.cell? ⟨g',j,none⟩:=by
 apply World.cell?_setCell_other
 intro e
 injection e with e1 e2
 exact h e1
theorem szIntS_any (s:Option Addr) (n c:Nat) (q:Int) (w:World) (hn:n≤maxLen) (hq:0≤q) (hq':q≤1048576):Calls Tryz.prog 79 #[.slice s n c,.int .i64 q] w fun e w'=>e=.returned (.int .i64 (if q < n then -1 else q - (n:Int)))∧w'=w:=by
 unfold maxLen at hn
 by_cases h:q < n
 ·rw [if_pos h]
  have h1:q - (n:Int) < 0:=by omega
  go_enter Tryz.func79,Tryz.ntmps79
  go_wp2
  go_ret
  exact ⟨rfl,rfl⟩
 ·rw [if_neg h]
  have h1:¬ q - (n:Int) < 0:=by omega
  go_enter Tryz.func79,Tryz.ntmps79
  go_wp2
  go_ret
  exact ⟨rfl,rfl⟩
end
section
set_option linter.unusedSimpArgs false
set_option linter.unusedVariables false
set_option maxRecDepth 100000
open Go.RowKit
structure I5 where
 o:Int
 r:Int
 a:Int
 b:Int
 n:Int
def z5:I5:=⟨0,0,0,0,0⟩
def At5 (w:World) (g off:Nat) (x:I5):Prop:=
 w.cell? ⟨g,off,none⟩=some (.int .i64 x.o)∧w.cell? ⟨g,off+1,none⟩=some (.int .i64 x.r)∧w.cell? ⟨g,off+2,none⟩=some (.int .i64 x.a)∧w.cell? ⟨g,off+3,none⟩=some (.int .i64 x.b)∧w.cell? ⟨g,off+4,none⟩=some (.int .i64 x.n)
theorem At5.keep {w w':World} {B g off:Nat} {x:I5} (h:At5 w g off x) (hb:Below B w w') (hg:g < B):At5 w' g off x:=
 ⟨(hb.cell hg).trans h.1,(hb.cell hg).trans h.2.1,(hb.cell hg).trans h.2.2.1,(hb.cell hg).trans h.2.2.2.1,(hb.cell hg).trans h.2.2.2.2⟩
/- a list of steps below block B -/
def InsB (w:World) (B:Nat) (s:Option Addr) (l:List I5):Prop:=
 l=[]∨∃ g off,s=some ⟨g,off,none⟩∧g < B∧∀ i,i < l.length→At5 w g (off+i * 5) (l.getD i z5)
theorem InsB.mono {w:World} {B B':Nat} {s:Option Addr} {l:List I5} (h:InsB w B s l) (hB:B≤B'):InsB w B' s l:=by
 rcases h with h | ⟨g,o,hs,hg,hc⟩
 ·exact .inl h
 ·exact .inr ⟨g,o,hs,by omega,hc⟩
theorem mk25 (n:Nat) (hn:n≤1048576) (w:World):(Instr.makeSlice 94 (.int .i64 (n:Int)) (.int .i64 (n:Int))).run Tryz.prog w=.ok (.slice (some ⟨w.heap.size,0,none⟩) n n) (w.alloc (.cells (madeCells #[.int .i64 0,.int .i64 0,.int .i64 0,.int .i64 0,.int .i64 0] (n * 5)) 99)):=by
 have h:=run_make (P:=Tryz.prog) w 94 99 _ (.agg #[.int .i64 0,.int .i64 0,.int .i64 0,.int .i64 0,.int .i64 0]) Tryz.underlying94 rfl rfl .i64 .i64 n n (by omega) (Int.le_refl _) (by show (40:Int) * _≤_;omega) (by omega)
 have e:(Value.agg #[.int .i64 0,.int .i64 0,.int .i64 0,.int .i64 0,.int .i64 0]).cells=#[.int .i64 0,.int .i64 0,.int .i64 0,.int .i64 0,.int .i64 0]:=rfl
 have e':∀ t,Tryz.prog.info? 99=some t→t.size=5:=by intro t h;cases h;rfl
 rw [e,e' _ rfl] at h
 simpa using h
/- what the store of a step into a list leaves -/
def set5 (w:World) (g o:Nat) (x:I5):World:=((((w.setCell ⟨g,o,none⟩ (.int .i64 x.o)).setCell ⟨g,o+1,none⟩ (.int .i64 x.r)).setCell ⟨g,o+2,none⟩ (.int .i64 x.a)).setCell ⟨g,o+3,none⟩ (.int .i64 x.b)).setCell ⟨g,o+4,none⟩ (.int .i64 x.n)
theorem set5_below {B g o:Nat} {w w':World} {x:I5} (h:Below B w w') (hg:B≤g):Below B w (set5 w' g o x):=((((h.setCell (p:=⟨g,o,none⟩) hg _).setCell (p:=⟨g,o+1,none⟩) hg _).setCell (p:=⟨g,o+2,none⟩) hg _).setCell (p:=⟨g,o+3,none⟩) hg _).setCell (p:=⟨g,o+4,none⟩) hg _
theorem set5_size {g o:Nat} {w:World} {x:I5}:(set5 w g o x).heap.size=w.heap.size:=by simp [set5]
theorem set5_frozen {g o:Nat} {w:World} {x:I5} {b:Addr}:(set5 w g o x).frozen? b=w.frozen? b:=by simp [set5]
theorem set5_other {g o j:Nat} {w:World} {x:I5} (h:j < o∨o+5≤j):(set5 w g o x).cell? ⟨g,j,none⟩=w.cell? ⟨g,j,none⟩:=by
 unfold set5
 rw [setC_off (by omega),setC_off (by omega),setC_off (by omega),setC_off (by omega),setC_off (by omega)]
theorem set5_some {g o j:Nat} {w:World} {x:I5} (h:(w.cell? ⟨g,j,none⟩).isSome=true):((set5 w g o x).cell? ⟨g,j,none⟩).isSome=true:=
 setC_some (setC_some (setC_some (setC_some (setC_some h))))
theorem set5_at {g o:Nat} {w:World} {x:I5} (h0:(w.cell? ⟨g,o,none⟩).isSome=true) (h1:(w.cell? ⟨g,o+1,none⟩).isSome=true) (h2:(w.cell? ⟨g,o+2,none⟩).isSome=true) (h3:(w.cell? ⟨g,o+3,none⟩).isSome=true) (h4:(w.cell? ⟨g,o+4,none⟩).isSome=true):At5 (set5 w g o x) g o x:=by
 unfold set5
 refine ⟨?_,?_,?_,?_,?_⟩
 ·rw [setC_off (by omega),setC_off (by omega),setC_off (by omega),setC_off (by omega),setC_at h0]
 ·rw [setC_off (by omega),setC_off (by omega),setC_off (by omega),setC_at (setC_some h1)]
 ·rw [setC_off (by omega),setC_off (by omega),setC_at (setC_some (setC_some h2))]
 ·rw [setC_off (by omega),setC_at (setC_some (setC_some (setC_some h3)))]
 ·rw [setC_at (setC_some (setC_some (setC_some (setC_some h4))))]
theorem At5.set5_off {w:World} {g o o':Nat} {x y:I5} (h:At5 w g o' y) (hd:o'+5≤o∨o+5≤o'):At5 (set5 w g o x) g o' y:=by
 obtain ⟨h0,h1,h2,h3,h4⟩:=h
 exact ⟨(set5_other (by omega)).trans h0,(set5_other (by omega)).trans h1,(set5_other (by omega)).trans h2,(set5_other (by omega)).trans h3,(set5_other (by omega)).trans h4⟩
set_option maxHeartbeats 400000 in
theorem toStepS_none (s : Option Addr) (c : Nat) (w : World) :
  Calls Tryz.prog 58 #[.slice s 0 c] w fun e w'=>e=.returned (.slice (some ⟨w.heap.size,0,none⟩) 0 0)∧Below w.heap.size w w'∧w.heap.size < w'.heap.size:=by
 have hmk:=mk25 0 (by omega)
 simp only [Int.natCast_zero] at hmk
 go_enter Tryz.func58,Tryz.ntmps58
 go_wp2
 clear hmk
 go_loopw [4] (fun i wr=>i=.int .i64 0∧Below w.heap.size w wr∧w.heap.size < wr.heap.size) (fun _ _=>0)
 case atStart=>exact ⟨rfl,(Below.refl _ _).alloc (Nat.le_refl _) _,by simp⟩
 case round=>
  obtain ⟨rfl,hb,hsz⟩:=hrel
  go_wp2
  go_ret
  exact ⟨rfl,hb,hsz⟩
end
section
set_option linter.unusedSimpArgs false
set_option linter.unusedVariables false
set_option maxRecDepth 100000
open Go.RowKit
def OwnN (w:World) (base:Nat) (v:Value) (ls:List Int):Prop:=w.ownsRow base 3 1 v ls.length (ls.map (Value.int .i64))
theorem infoInt:∃ i,Tryz.prog.info? 3=some i∧i.zero=some (.int .i64 0)∧i.size=1∧i.bytes=8:=⟨_,rfl,rfl,rfl,rfl⟩
theorem ownN_empty {w:World} {base:Nat} (hb:base≤w.heap.size):OwnN (w.alloc (.cells #[] 3)) base (.slice (some ⟨w.heap.size,0,none⟩) 0 0) []:=
 World.ownsRow_lit w #[] 0 hb (by unfold maxLen;omega) rfl
theorem OwnN.keep {w w':World} {base:Nat} {v:Value} {ls:List Int} (h:OwnN w base v ls) (hb:∀ k,base≤k→k < w.heap.size→w'.heap[k]? =w.heap[k]?):OwnN w' base v ls:=by
 obtain ⟨h1,h2⟩:=h
 refine ⟨h1,?_⟩
 rcases h2 with h2 | ⟨g,cap,cur,a,b,c,d⟩
 ·exact .inl h2
 ·have hlt:g < w.heap.size:=(Array.getElem?_eq_some_iff.1 c).1
  exact .inr ⟨g,cap,cur,a,b,(hb g b hlt).trans c,d⟩
theorem OwnN.below {w w':World} {base:Nat} {v:Value} {ls:List Int} (h:OwnN w base v ls) (hb:Below w.heap.size w w'):OwnN w' base v ls:=h.keep fun k _ hk=>hb.block k hk
theorem OwnN.alloc {w:World} {base:Nat} {v:Value} {ls:List Int} (h:OwnN w base v ls) (o:Obj):OwnN (w.alloc o) base v ls:=h.keep fun k _ hk=>Below.heap_alloc _ _ _ hk
theorem OwnN.cell {w:World} {base g cap:Nat} {ls:List Int} (h:OwnN w base (.slice (some ⟨g,0,none⟩) ls.length cap) ls) {i:Nat} (hi:i < ls.length):w.cell? ⟨g,i,none⟩=some (.int .i64 (ls.getD i 0)):=by
 rw [World.ownsRow.cellAt h i (by omega)]
 simp [List.getD_eq_getElem?_getD,List.getElem?_eq_getElem hi]
theorem OwnN.sl {w:World} {base:Nat} {v:Value} {ls:List Int} (h:OwnN w base v ls):∃ s cap,v=.slice s ls.length cap:=by
 rcases h.2 with ⟨h1,h2⟩ | ⟨g,cap,cur,a,-⟩
 ·exact ⟨none,0,by rw [h1,h2]⟩
 ·exact ⟨_,_,a⟩
theorem newN1 (w:World) (u:Value):∀ j v,[u][j]? =some v→(w.alloc (.cells #[u] 3)).cell? (Addr.add ⟨w.heap.size,0,none⟩ j)=some v:=by
 intro j v h
 match j,h with
 | 0,h=>simpa [Addr.add,go_sem] using h
 | j+1,h=>simp at h
end
end Go.Proofs.YtepfpbcjklaenaaGreat
