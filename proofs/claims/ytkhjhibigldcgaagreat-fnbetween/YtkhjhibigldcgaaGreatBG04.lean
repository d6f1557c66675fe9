/- Rows of numbers that a call has made: how they lie, what keeps them, and append of one number, and of three noughts. Conditions: fewer than 2^40 numbers. Rows of integers that a call has made: kept, copied, written over, looked at again; boxes; what a call that writes over a row leaves. Conditions: at most 2^20 + 1 integers. The table of emitters, and which one an op has. No condition. A row of integers that is not empty lies somewhere. No condition. Whether a number is within, answered with a draw. -/
import Derived.Test.YtkhjhibigldcgaaGreatBG00
import Derived.Test.YtkhjhibigldcgaaGreatChecked
import Derived.WalkKit
import Derived.KernelRfl
import Derived.WalkSpells
import Derived.WalkLawsBesides
import Derived.Below
import Derived.Laws.OwnMore
import Derived.Deep.AppendLies
import Derived.Laws.EntriesVeiled
import Derived.Deep.WholeRow
import Derived.Deep.QuietTactic
import Derived.BigQuiet
namespace Go.Proofs.YtkhjhibigldcgaaGreat
section
set_option linter.unusedSimpArgs false
set_option linter.unusedVariables false
set_option maxRecDepth 100000
open Go.RowKit
def OwnN (w:World) (base:Nat) (v:Value) (ls:List Int):Prop:=w.ownsRow base 3 1 v ls.length (ls.map (Value.int .i64))
theorem infoInt:∃ i,Tryz.prog.info? 3=some i∧i.zero=some (.int .i64 0)∧i.size=1∧i.bytes=8:=⟨_,rfl,rfl,rfl,rfl⟩
theorem ownN_empty {w:World} {base:Nat} (hb:base≤w.heap.size):OwnN (w.alloc (.cells #[] 3)) base (.slice (some ⟨w.heap.size,0,none⟩) 0 0) []:=
 World.ownsRow_lit w #[] 0 hb (by unfold maxLen;omega) rfl
theorem OwnN.keep {w w':World} {base:Nat} {v:Value} {ls:List Int} (h:OwnN w base v ls) (hb:∀ k,base≤k→k < w.heap.size→w'.heap[k]? =w.heap[k]?):OwnN w' base v ls:=by
 obtain ⟨h1,h2⟩:=h
 refine ⟨h1,?_⟩
 rcases h2 with h2 | ⟨g,cap,cur,a,b,c,d⟩
 ·exact .inl h2
 ·have hlt:g < w.heap.size:=(Array.getElem?_eq_some_iff.1 c).1
  exact .inr ⟨g,cap,cur,a,b,(hb g b hlt).trans c,d⟩
theorem OwnN.below {w w':World} {base:Nat} {v:Value} {ls:List Int} (h:OwnN w base v ls) (hb:Below w.heap.size w w'):OwnN w' base v ls:=h.keep fun k _ hk=>hb.block k hk
theorem OwnN.alloc {w:World} {base:Nat} {v:Value} {ls:List Int} (h:OwnN w base v ls) (o:Obj):OwnN (w.alloc o) base v ls:=h.keep fun k _ hk=>Below.heap_alloc _ _ _ hk
theorem OwnN.cell {w:World} {base g cap:Nat} {ls:List Int} (h:OwnN w base (.slice (some ⟨g,0,none⟩) ls.length cap) ls) {i:Nat} (hi:i < ls.length):w.cell? ⟨g,i,none⟩=some (.int .i64 (ls.getD i 0)):=by
 rw [World.ownsRow.cellAt h i (by omega)]
 simp [List.getD_eq_getElem?_getD,List.getElem?_eq_getElem hi]
theorem OwnN.sl {w:World} {base:Nat} {v:Value} {ls:List Int} (h:OwnN w base v ls):∃ s cap,v=.slice s ls.length cap:=by
 rcases h.2 with ⟨h1,h2⟩ | ⟨g,cap,cur,a,-⟩
 ·exact ⟨none,0,by rw [h1,h2]⟩
 ·exact ⟨_,_,a⟩
theorem newN1 (w:World) (u:Value):∀ j v,[u][j]? =some v→(w.alloc (.cells #[u] 3)).cell? (Addr.add ⟨w.heap.size,0,none⟩ j)=some v:=by
 intro j v h
 match j,h with
 | 0,h=>simpa [Addr.add,go_sem] using h
 | j+1,h=>simp at h
end
section
set_option linter.unusedSimpArgs false
set_option linter.unusedVariables false
set_option maxRecDepth 100000
open Go.RowKit
theorem ownKeep' {w w':World} {base:Nat} {e:TypeId} {size n:Nat} {v:Value} {xs:List Value} (h:w.ownsRow base e size v n xs) (hb:∀ k,v.ownBlock=some k→w'.heap[k]? =w.heap[k]?):w'.ownsRow base e size v n xs:=by
 obtain ⟨h1,h2⟩:=h
 refine ⟨h1,?_⟩
 rcases h2 with h2 | ⟨g,cap,cur,rfl,b0,c,d⟩
 ·exact .inl h2
 ·exact .inr ⟨g,cap,cur,rfl,b0,(hb g rfl).trans c,d⟩
theorem ownLow' {w:World} {b b':Nat} {e:TypeId} {size n:Nat} {v:Value} {xs:List Value} (h:w.ownsRow b e size v n xs) (hb:b'≤b):w.ownsRow b' e size v n xs:=by
 obtain ⟨h1,h2⟩:=h
 refine ⟨h1,?_⟩
 rcases h2 with h2 | ⟨g,cap,cur,a,b0,c,d⟩
 ·exact .inl h2
 ·exact .inr ⟨g,cap,cur,a,Nat.le_trans hb b0,c,d⟩
theorem ownType' {w:World} {base base':Nat} {e e':TypeId} {size size' n n':Nat} {v v':Value} {xs xs':List Value} (h:w.ownsRow base e size v n xs) (h':w.ownsRow base' e' size' v' n' xs') (hne:e≠e') {k:Nat} (hk:v.ownBlock=some k):v'.ownBlock≠some k:=by
 intro hk'
 rcases h.2 with ⟨rfl,-⟩ | ⟨g,cap,cur,rfl,-,c,-⟩
 ·cases hk
 rcases h'.2 with ⟨rfl,-⟩ | ⟨g',cap',cur',rfl,-,c',-⟩
 ·cases hk'
 ·simp only [Value.ownBlock,Option.some.injEq] at hk hk'
  subst hk
  subst hk'
  rw [c] at c'
  injection c' with c'
  injection c' with c1 c2
  exact hne c2
theorem ownSl {w:World} {base:Nat} {e:TypeId} {size n:Nat} {v:Value} {xs:List Value} (h:w.ownsRow base e size v n xs):∃ s c,v=.slice s n c:=by
 rcases h.2 with ⟨h1,h2⟩ | ⟨g,cap,cur,a,-⟩
 ·exact ⟨none,0,by rw [h1,h2]⟩
 ·exact ⟨_,_,a⟩
theorem ownN_ints {w:World} {base:Nat} {v:Value} {l:List Int} (h:OwnN w base v l):∃ s c,v=.slice s l.length c∧IntsR w base w.heap.size s l:=by
 rcases Nat.eq_zero_or_pos l.length with h0 | hpos
 ·obtain ⟨s,c,e⟩:=ownSl h
  exact ⟨s,c,e,.inl (List.length_eq_zero_iff.1 h0)⟩
 ·obtain ⟨g,cap,rfl,-⟩:=World.ownsRow.form h hpos
  have hlt:=World.ownsRow.lt h g rfl
  refine ⟨_,_,rfl,.inr ⟨g,0,rfl,hlt.1,hlt.2,fun i hi=>?_⟩⟩
  rw [Nat.zero_add,World.ownsRow.cellAt h i (by omega),List.getElem?_map,List.getD_eq_getElem?_getD,List.getElem?_eq_getElem hi]
  rfl
structure Bo2 (G:Nat) (W:World) (a b:Value):Prop where
 c0:W.cell? ⟨G,0,none⟩=some a
 c1:W.cell? ⟨G,1,none⟩=some b
theorem Bo2.new (w:World) (a b:Value) (T:TypeId):∃ W,w.alloc (.cells #[a,b] T)=W∧Bo2 w.heap.size W a b∧Below w.heap.size w W∧W.heap.size=w.heap.size+1:=
 ⟨_,rfl,⟨by simp [go_sem],by simp [go_sem]⟩,(Below.refl _ _).alloc (Nat.le_refl _) _,by simp⟩
theorem Bo2.keep {G:Nat} {W W':World} {a b:Value} (h:Bo2 G W a b) (hk:Keep G (G+1) W W'):Bo2 G W' a b:=⟨(hk.cell (p:=⟨G,0,none⟩) (Nat.le_refl _) (Nat.lt_succ_self _)).trans h.c0,(hk.cell (p:=⟨G,1,none⟩) (Nat.le_refl _) (Nat.lt_succ_self _)).trans h.c1⟩
theorem ownN_intsR {w:World} {base g c:Nat} {l:List Int} (h:OwnN w base (.slice (some ⟨g,0,none⟩) l.length c) l):IntsR w base w.heap.size (some ⟨g,0,none⟩) l:=by
 obtain ⟨s,c',e,hi⟩:=ownN_ints h
 injection e with e1 e2 e3
 rw [e1]
 exact hi
theorem below_drewN (w:World) (n:Nat):Below w.heap.size w (w.drewN n):=⟨rfl,rfl,rfl,Nat.le_refl _,fun _ _=>rfl⟩
structure Bo1 (G:Nat) (W:World) (a:Value):Prop where
 c0:W.cell? ⟨G,0,none⟩=some a
theorem Bo1.new (w:World) (a:Value) (T:TypeId):∃ W,w.alloc (.cells #[a] T)=W∧Bo1 w.heap.size W a∧Below w.heap.size w W∧W.heap.size=w.heap.size+1:=
 ⟨_,rfl,⟨by simp [go_sem]⟩,(Below.refl _ _).alloc (Nat.le_refl _) _,by simp⟩
end
section
set_option linter.unusedSimpArgs false
set_option linter.unusedVariables false
set_option maxRecDepth 100000
open Go.RowKit
def emF (n:Nat):Value:=.func (.func n) #[] #[]
def emTab:Array Value:=#[.int .i64 0,.bool false,.nilFunc,.int .i64 1,.bool false,emF 60,.int .i64 1,.bool false,emF 61,.int .i64 1,.bool false,emF 62,.int .i64 1,.bool false,emF 63,
 .int .i64 29,.bool true,emF 64,.int .i64 30,.bool true,emF 65,.int .i64 31,.bool true,emF 66,.int .i64 32,.bool true,emF 67,.int .i64 13,.bool true,emF 68,
 .int .i64 1,.bool false,emF 69,.int .i64 1,.bool false,emF 70,.int .i64 1,.bool false,emF 71,.int .i64 1,.bool false,emF 72]
theorem wp_storeRow {ops : Array Oper} {rest : List Oper} {o : Oper} {a : Act} {Q : Exit → Act → World → Prop} {P : Program} (hgd : o.guard = none) (t : TypeId) (p v : Operand) (ho : o.op = .store t p v) (hd : o.dst = none) (w : World) (c c' : Array Value)
  (hp:a.eval p=.pointer (some ⟨w.heap.size,0,none⟩)) (hv:a.eval v=.agg c') (hi:(P.info? t).map (·.size)=some c'.size) (hs:c.size=c'.size) (h1:c'.all (·.oneCell')=true)
  (h:wpList P ops Q rest a (w.alloc (.cells c' t))):wpList P ops Q (o::rest) a (w.alloc (.cells c t)):=by
 refine wpList_plain hgd fun K hK=>?_
 have hrun:=run_storeAt_new (P:=P) w t c c' hi hs h1
 unfold Oper.wp
 simp [execOp,ho,hp,hv,hrun,Result.andThen,hd]
 have e:a.put o.dst undef=a:=by rw [hd];rfl
 have q:=hK _ _ h
 rw [← e] at q
 exact q
theorem emTab_one:emTab.all (·.oneCell')=true:=by kernel_rfl
theorem emitters_is (w:World):Calls Tryz.prog 48 #[] w fun e w'=>e=.returned (.agg emTab)∧w'=w.alloc (.cells emTab 106):=by
 go_enter Tryz.func48,Tryz.ntmps48
 go_wp2_with (refine wp_storeRow (by rfl) 106 (.tmp 0) (.tmp 14) (by rfl) (by rfl) _ _ emTab (by rfl) (by rfl) (by kernel_rfl) (by rfl) emTab_one ?_)
 have hld:=run_loadVar_new (P:=Tryz.prog) w 106 emTab 14 87 rfl (by kernel_rfl)
 refine bodyPost_ret (v:=.agg emTab) ?_ rfl ⟨rfl,rfl⟩
 simp [results,Tryz.results48,asAddr,Result.andThen,hld]
end
section
set_option linter.unusedSimpArgs false
set_option linter.unusedVariables false
set_option maxRecDepth 100000
open Go.RowKit
theorem IntsR.pos {w:World} {lo hi:Nat} {s:Option Addr} {l:List Int} (h:IntsR w lo hi s l) (hl:0 < l.length):∃ g off,s=some ⟨g,off,none⟩∧lo≤g∧g < hi∧∀ i,i < l.length→w.cell? ⟨g,off+i,none⟩=some (.int .i64 (l.getD i 0)):=by
 rcases h with rfl | h
 ·simp at hl
 ·exact h
end
section
set_option linter.unusedSimpArgs false
set_option linter.unusedVariables false
set_option maxRecDepth 100000
open Go.RowKit
theorem all_take {α:Type} {p:α→Bool} {l:List α} {k:Nat} {x:α} (h:l[k]? =some x):(l.take (k+1)).all p=((l.take k).all p&&p x):=by
 rw [List.take_add_one,h,Option.toList_some,List.all_append]
 simp
theorem all_no {α:Type} {p:α→Bool} {l:List α} {k:Nat} {x:α} (h:l[k]? =some x) (hx:p x=false):l.all p=false:=by
 rw [List.all_eq_false]
 exact ⟨x,List.mem_of_getElem? h,by simp [hx]⟩
theorem l1InD_any (x a b:Int) (w:World):Calls Tryz.prog 13 #[.int .i64 x,.int .i64 a,.int .i64 b] w fun e w'=>e=.returned (.bool (decide (a≤x∧x≤b)))∧w'=w:=by
 by_cases h:x≥a
 ·by_cases h2:x≤b
  ·rw [decide_eq_true ⟨h,h2⟩]
   go_enter Tryz.func13,Tryz.ntmps13
   go_wp2
   go_ret
   exact ⟨by simp,rfl⟩
  ·rw [decide_eq_false (fun e=>h2 e.2)]
   go_enter Tryz.func13,Tryz.ntmps13
   go_wp2
   go_ret
   exact ⟨by simp,rfl⟩
 ·rw [decide_eq_false (fun e=>h e.1)]
  go_enter Tryz.func13,Tryz.ntmps13
  go_wp2
  go_ret
  exact ⟨by simp,rfl⟩
theorem l1InD_is (x lo hi:Int) (b:Bool) (w:World) (h:decide (lo≤x∧x≤hi)=b):Calls Tryz.prog 13 #[.int .i64 x,.int .i64 lo,.int .i64 hi] w fun e w'=>e=.returned (.bool b)∧w'=w:=by
 rw [← h]
 exact l1InD_any x lo hi w
end
end Go.Proofs.YtkhjhibigldcgaaGreat
