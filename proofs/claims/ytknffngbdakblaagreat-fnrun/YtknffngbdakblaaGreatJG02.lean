/- Rows of rows of places that a call has made, with what they hold: each inner row has a block of its own. Conditions: fewer than 2^30 rows, fewer than 2^30 places in each. Lists of places as they lie in memory. No condition. When a body is right: the plain law. No condition. -/
import Derived.Test.YtknffngbdakblaaGreatJG00
import Derived.Test.YtknffngbdakblaaGreatJG01
import Derived.Test.YtknffngbdakblaaGreatJBody
import Derived.Test.YtknffngbdakblaaGreatJInsOk
import Derived.Test.YtknffngbdakblaaGreatJSpecIns
namespace Go.Proofs.YtknffngbdakblaaGreat
section
set_option linter.unusedSimpArgs false
set_option linter.unusedVariables false
set_option maxRecDepth 100000
open Go.RowKit
def cellsP (x:I5):List Value:=[.int .i64 x.o,.int .i64 x.r,.int .i64 x.a,.int .i64 x.b,.int .i64 x.n]
def flatP:List I5→List Value
 | []=>[]
 | x::r=>cellsP x++flatP r
theorem flatP_len:∀ l:List I5,(flatP l).length=l.length * 5
 | []=>rfl
 | x::r=>by simp [flatP,cellsP,flatP_len r];omega
theorem flatP_snoc:∀ (l:List I5) (x:I5),flatP (l++[x])=flatP l++cellsP x
 | [],x=>by simp [flatP]
 | y::r,x=>by simp [flatP,flatP_snoc r x]
theorem flatP_at:∀ (l:List I5) (i j:Nat) (hi:i < l.length) (hj:j < 5),(flatP l)[i * 5+j]? =(cellsP (l.getD i z5))[j]?
 | [],i,j,hi,hj=>absurd hi (Nat.not_lt_zero _)
 | x::r,0,j,hi,hj=>by
  simp only [flatP,Nat.zero_mul,Nat.zero_add]
  rw [List.getElem?_append_left (by simp [cellsP];omega)]
  simp
 | x::r,i+1,j,hi,hj=>by
  have h5:(cellsP x).length=5:=rfl
  simp only [flatP]
  rw [List.getElem?_append_right (by rw [h5];omega),h5,show (i+1) * 5+j - 5=i * 5+j by omega,flatP_at r i j (by simp at hi;omega) hj]
  simp
def OwnP (w:World) (base:Nat) (v:Value) (b:List I5):Prop:=w.ownsRow base 85 5 v b.length (flatP b)
def OwnB (w:World) (base:Nat) (v:Value) (bs:List (List I5)):Prop:=
 ∃ xs:List Value,w.ownsRow base 62 1 v bs.length xs∧(∀ i,i < bs.length→OwnP w base (xs.getD i undef) (bs.getD i []))∧∀ i j k,i < bs.length→j < bs.length→i≠j→(xs.getD i undef).ownBlock=some k→(xs.getD j undef).ownBlock≠some k
theorem infoP:∃ i,Tryz.prog.info? 85=some i∧i.zero=some (.agg #[.int .i64 0,.int .i64 0,.int .i64 0,.int .i64 0,.int .i64 0])∧i.size=5∧i.bytes=40:=⟨_,rfl,rfl,rfl,rfl⟩
theorem ownKeep {w w':World} {base:Nat} {e:TypeId} {size n:Nat} {v:Value} {xs:List Value} (h:w.ownsRow base e size v n xs) (hb:∀ k,v.ownBlock=some k→w'.heap[k]? =w.heap[k]?):w'.ownsRow base e size v n xs:=by
 obtain ⟨h1,h2⟩:=h
 refine ⟨h1,?_⟩
 rcases h2 with h2 | ⟨g,cap,cur,rfl,b0,c,d⟩
 ·exact .inl h2
 ·exact .inr ⟨g,cap,cur,rfl,b0,(hb g rfl).trans c,d⟩
theorem ownLow {w:World} {b b':Nat} {e:TypeId} {size n:Nat} {v:Value} {xs:List Value} (h:w.ownsRow b e size v n xs) (hb:b'≤b):w.ownsRow b' e size v n xs:=by
 obtain ⟨h1,h2⟩:=h
 refine ⟨h1,?_⟩
 rcases h2 with h2 | ⟨g,cap,cur,a,b0,c,d⟩
 ·exact .inl h2
 ·exact .inr ⟨g,cap,cur,a,Nat.le_trans hb b0,c,d⟩
theorem ownType {w:World} {base base':Nat} {e e':TypeId} {size size' n n':Nat} {v v':Value} {xs xs':List Value} (h:w.ownsRow base e size v n xs) (h':w.ownsRow base' e' size' v' n' xs') (hne:e≠e') {k:Nat} (hk:v.ownBlock=some k):v'.ownBlock≠some k:=by
 intro hk'
 rcases h.2 with ⟨rfl,-⟩ | ⟨g,cap,cur,rfl,-,c,-⟩
 ·cases hk
 rcases h'.2 with ⟨rfl,-⟩ | ⟨g',cap',cur',rfl,-,c',-⟩
 ·cases hk'
 ·simp only [Value.ownBlock,Option.some.injEq] at hk hk'
  subst hk
  subst hk'
  rw [c] at c'
  injection c' with c'
  injection c' with c1 c2
  exact hne c2
theorem OwnB.keep {w w':World} {base:Nat} {v:Value} {bs:List (List I5)} (h:OwnB w base v bs) (hb:∀ k,base≤k→k < w.heap.size→w'.heap[k]? =w.heap[k]?):OwnB w' base v bs:=by
 obtain ⟨xs,h1,h2,h3⟩:=h
 exact ⟨xs,ownKeep h1 (fun k hk=>hb k (World.ownsRow.lt h1 _ hk).1 (World.ownsRow.lt h1 _ hk).2),fun i hi=>ownKeep (h2 i hi) (fun k hk=>hb k (World.ownsRow.lt (h2 i hi) _ hk).1 (World.ownsRow.lt (h2 i hi) _ hk).2),h3⟩
theorem OwnB.nil (w:World) (base:Nat):OwnB w base (.slice none 0 0) []:=⟨[],World.ownsRow_nil _ _ _ _,fun i hi=>absurd hi (Nat.not_lt_zero _),fun i j k hi=>absurd hi (Nat.not_lt_zero _)⟩
theorem OwnB.sl {w:World} {base:Nat} {v:Value} {bs:List (List I5)} (h:OwnB w base v bs):∃ s c,v=.slice s bs.length c:=by
 obtain ⟨xs,h,-⟩:=h
 rcases h.2 with ⟨h1,h2⟩ | ⟨g,cap,cur,a,-⟩
 ·exact ⟨none,0,by rw [h1,h2]⟩
 ·exact ⟨_,_,a⟩
theorem OwnB.low {w:World} {b b':Nat} {v:Value} {bs:List (List I5)} (h:OwnB w b v bs) (hb:b'≤b):OwnB w b' v bs:=by
 obtain ⟨xs,h1,h2,h3⟩:=h
 exact ⟨xs,ownLow h1 hb,fun i hi=>ownLow (h2 i hi) hb,h3⟩
theorem getD_snoc {α:Type} (xs:List α) (y d:α) (i:Nat):(xs++[y]).getD i d=if i < xs.length then xs.getD i d else if i=xs.length then y else d:=by
 by_cases h:i < xs.length
 ·rw [if_pos h];simp [List.getD_eq_getElem?_getD,List.getElem?_append_left h]
 ·rw [if_neg h]
  by_cases h2:i=xs.length
  ·subst h2;simp [List.getD_eq_getElem?_getD]
  ·rw [if_neg h2,List.getD_eq_getElem?_getD,List.getElem?_eq_none (by simp;omega)];rfl
end
section
set_option linter.unusedSimpArgs false
set_option linter.unusedVariables false
set_option maxRecDepth 100000
open Go.RowKit
end
section
set_option linter.unusedSimpArgs false
set_option linter.unusedVariables false
set_option maxRecDepth 100000
open Go.RowKit
end
end Go.Proofs.YtknffngbdakblaaGreat
