/- A region that draws its order, whose first operations only read and whose others come one behind the other: one walk of the first ones, in the order of the text, and then the others. No condition. A region that draws its order: first operations that only read, as long as the world stays in a class; then such as keep the class, one behind the other; then such as wait for all that was read. One walk, in the order of the text. No condition. Boxes of a source's type are no blocks of its rows; a source opened at the thread that goes on; the boxes of a step of the specification. No condition. -/
import Derived.Test.YtknffngbdakblaaGreatJG00
import Derived.OrdersHeld
import Derived.Test.YtknffngbdakblaaGreatJG06
import Derived.Test.YtknffngbdakblaaGreatJG01
import Derived.Test.YtknffngbdakblaaGreatJG03
import Derived.Test.YtknffngbdakblaaGreatJG04
import Derived.Test.YtknffngbdakblaaGreatJBody
import Derived.Test.YtknffngbdakblaaGreatJG07
namespace Go.Proofs.YtknffngbdakblaaGreat
section
set_option linter.unusedSimpArgs false
set_option linter.unusedVariables false
set_option maxRecDepth 100000
open Go.RowKit
def edgeB (full:List Oper) (i' i:Nat):Bool:=(full[i']?.map fun x=>x.after.any fun e=>Region.binds .any e&&e.on==i).getD false
def lexE (full:List Oper):Bool:=(List.range full.length).all fun i=>(full[i]?.map fun x=>x.after.all fun e=>!Region.binds .any e||decide (e.on < i)).getD true
/- whatever is ahead of number j is listed when j may come up -/
def covB (full:List Oper) (j:Nat):Bool:=(List.range j).all fun i=>(List.range (j+1)).any fun i'=>decide (i < i')&&edgeB full i' i
def sufOk (full:List Oper) (k:Nat):Bool:=lexE full&&((List.range full.length).all fun j=>decide (j < k)||covB full j)
theorem edge_iff {full:List Oper} {i' i:Nat}:edgeB full i' i=true↔∃ x,full[i']? =some x∧∃ e∈x.after,Region.binds .any e=true∧e.on=i:=by
 unfold edgeB
 cases h:full[i']? with
 | none=>simp
 | some x=>
  simp only [Option.map_some,Option.getD_some,Array.any_eq_true',Bool.and_eq_true,beq_iff_eq]
  constructor
  ·rintro ⟨e,h1,h2,h3⟩;exact ⟨x,rfl,e,h1,h2,h3⟩
  ·rintro ⟨y,hy,e,h1,h2,h3⟩;injection hy with hy;subst hy;exact ⟨e,h1,h2,h3⟩
theorem mem_rdy {full:List Oper} {listed:Array Bool} {i:Nat}:i∈Region.ready .any full.toArray listed↔i < full.length∧listed.getD i true=false∧∀ i2,edgeB full i i2=true→listed.getD i2 false=true:=by
 unfold Region.ready
 rw [List.mem_filter,List.mem_range,Bool.and_eq_true,Bool.not_eq_true',List.size_toArray,List.getElem?_toArray]
 refine and_congr_right fun hi=>and_congr_right fun _=>?_
 rw [List.getElem?_eq_getElem hi]
 simp only [Option.map_some,Option.getD_some,Array.all_eq_true',Bool.or_eq_true,Bool.not_eq_true']
 constructor
 ·intro h i2 h2
  rw [edge_iff] at h2
  obtain ⟨x,hx,e,he,hb,rfl⟩:=h2
  rw [List.getElem?_eq_getElem hi] at hx
  injection hx with hx
  subst hx
  rcases h e he with h | h
  ·rw [hb] at h;cases h
  ·exact h
 ·intro h e he
  cases hb:Region.binds .any e with
  | false=>exact .inl rfl
  | true=>exact .inr (h e.on (edge_iff.2 ⟨_,List.getElem?_eq_getElem hi,e,he,hb,rfl⟩))
/- what is listed was waited for -/
def Down (full:List Oper) (listed:Array Bool):Prop:=∀ i i2,i < full.length→listed.getD i true=true→edgeB full i i2=true→listed.getD i2 false=true
theorem lex_lt {full:List Oper} (h:lexE full=true) {i i2:Nat} (he:edgeB full i i2=true):i2 < i∧i < full.length:=by
 rw [edge_iff] at he
 obtain ⟨x,hx,e,hm,hb,rfl⟩:=he
 have hi:=(List.getElem?_eq_some_iff.1 hx).1
 unfold lexE at h
 rw [List.all_eq_true] at h
 have q:=h i (List.mem_range.2 hi)
 rw [hx] at q
 simp only [Option.map_some,Option.getD_some,Array.all_eq_true',Bool.or_eq_true,Bool.not_eq_true'] at q
 rcases q e hm with q | q
 ·rw [hb] at q;cases q
 ·exact ⟨by simpa using q,hi⟩
theorem getD_in {listed:Array Bool} {i:Nat} (h:i < listed.size) (b c:Bool):listed.getD i b=listed.getD i c:=by simp [Array.getD,h]
theorem down_set {full:List Oper} {listed:Array Bool} (hs:listed.size=full.length) (hd:Down full listed) (hx:lexE full=true) {k:Nat} (hk:k∈Region.ready .any full.toArray listed):Down full (listed.setIfInBounds k true):=fun i i2 hi hl he=>by
 have h2:=lex_lt hx he
 have q:listed.getD i2 false=true:=by
  by_cases e:i=k
  ·subst e
   exact (mem_rdy.1 hk).2.2 i2 he
  ·refine hd i i2 hi ?_ he
   have:i < listed.size:=by omega
   simpa [Array.getD,this,Array.getElem_setIfInBounds,Ne.symm e] using hl
 have:i2 < listed.size:=by omega
 by_cases e:k=i2
 ·subst e;simp [Array.getD,this]
 ·simp only [Array.getD,this,dif_pos] at q
  simp [Array.getD,this,Array.getElem_setIfInBounds,e]
  exact q
theorem cov_all {full:List Oper} {listed:Array Bool} (hs:listed.size=full.length) (hd:Down full listed) {j:Nat} (hj:j < full.length) (hc:covB full j=true) (hr:∀ i2,edgeB full j i2=true→listed.getD i2 false=true):∀ n i,j - i≤n→i < j→listed.getD i false=true:=by
 intro n
 induction n with
 | zero=>intro i h1 h2;omega
 | succ n ih=>
  intro i h1 h2
  unfold covB at hc
  rw [List.all_eq_true] at hc
  have q:=hc i (List.mem_range.2 h2)
  rw [List.any_eq_true] at q
  obtain ⟨i',hm,q⟩:=q
  rw [List.mem_range] at hm
  rw [Bool.and_eq_true,decide_eq_true_eq] at q
  by_cases e:i'=j
  ·subst e;exact hr i q.2
  ·have:=ih i' (by omega) (by omega)
   exact hd i' i (by omega) (by rw [getD_in (by omega) true false];exact this) q.2
theorem rdy_some {full:List Oper} (hx:lexE full=true) {listed:Array Bool} (hs:listed.size=full.length):∀ (k:Nat),k < full.length→listed.getD k true=false→∃ i,i≤k∧i∈Region.ready .any full.toArray listed:=by
 intro k
 induction k using Nat.strongRecOn with
 | ind k ih=>
  intro hk hf
  by_cases h:∃ j,j < k∧listed.getD j true=false
  ·obtain ⟨j,h1,h2⟩:=h
   obtain ⟨i,h3,h4⟩:=ih j h1 (by omega) h2
   exact ⟨i,by omega,h4⟩
  ·refine ⟨k,Nat.le_refl _,mem_rdy.2 ⟨hk,hf,fun i2 he=>?_⟩⟩
   have h2:=lex_lt hx he
   have hn:¬ listed.getD i2 true=false:=fun hh=>h ⟨i2,h2.1,hh⟩
   rw [getD_in (by omega) false true]
   simpa using hn
/- all below k are listed, none from k on -/
def Upto (n:Nat) (listed:Array Bool) (k:Nat):Prop:=listed.size=n∧(∀ i,i < k→i < n→listed.getD i true=true)∧∀ i,k≤i→i < n→listed.getD i true=false
theorem Upto.next {n k:Nat} {listed:Array Bool} (h:Upto n listed k) (hk:k < n):Upto n (listed.setIfInBounds k true) (k+1):=by
 obtain ⟨h1,h2,h3⟩:=h
 refine ⟨by simpa using h1,fun i a b=>?_,fun i a b=>?_⟩
 ·have hi:i < listed.size:=by omega
  by_cases e:k=i
  ·subst e;simp [Array.getD,hi]
  ·have q:=h2 i (by omega) b
   simp only [Array.getD,hi,dif_pos] at q
   simp [Array.getD,hi,Array.getElem_setIfInBounds,e]
   exact q
 ·have hi:i < listed.size:=by omega
  have q:=h3 i (by omega) b
  simp only [Array.getD,hi,dif_pos] at q
  simp [Array.getD,hi,Array.getElem_setIfInBounds,show ¬ k=i by omega]
  exact q
theorem forced {P:Program} {Q:Exit→Act→World→Prop} {full:List Oper} (hx:lexE full=true):∀ (t:List Oper) (k:Nat) (listed:Array Bool) (a:Act) (w:World),full.drop k=t→(∀ j,k≤j→j < full.length→covB full j=true)→Down full listed→Upto full.length listed k→wpList P full.toArray Q t a w→wpAny P .any full.toArray Q t.length listed a w
 | [],k,listed,a,w,ht,hc,hd,hu,h=>by
  have hk:full.length≤k:=List.drop_eq_nil_iff.1 ht
  refine ⟨List.eq_nil_iff_forall_not_mem.2 fun i hi=>?_,h⟩
  obtain ⟨h1,h2,-⟩:=mem_rdy.1 hi
  rw [hu.2.1 i (by omega) h1] at h2
  cases h2
 | o::t,k,listed,a,w,ht,hc,hd,hu,h=>by
  have hk:k < full.length:=by
   rcases Nat.lt_or_ge k full.length with q | q
   ·exact q
   ·rw [List.drop_eq_nil_of_le q] at ht;cases ht
  have ho:full[k]? =some o:=by
   have:(full.drop k)[0]? =some o:=by rw [ht];rfl
   rw [List.getElem?_drop] at this
   simpa using this
  have hall:∀ i,i∈Region.ready .any full.toArray listed→i=k:=fun i hi=>by
   obtain ⟨h1,h2,h3⟩:=mem_rdy.1 hi
   rcases Nat.lt_trichotomy i k with q | q | q
   ·rw [hu.2.1 i q h1] at h2;cases h2
   ·exact q
   ·have c:=cov_all hu.1 hd h1 (hc i (by omega) h1) h3 i k (by omega) q
    have c2:=hu.2.2 k (Nat.le_refl _) hk
    rw [getD_in (by have:=hu.1;omega) true false,c] at c2
    cases c2
  refine ⟨fun h0=>?_,fun i hi=>?_⟩
  ·obtain ⟨i,-,hi⟩:=rdy_some hx hu.1 k hk (hu.2.2 k (Nat.le_refl _) hk)
   rw [h0] at hi
   cases hi
  ·have e:=hall i hi
   subst e
   unfold wpList at h
   unfold wpOp
   have ho2:full.toArray[i]? =some o:=by rw [List.getElem?_toArray];exact ho
   have hd2:=down_set hu.1 hd hx hi
   have go:∀ a' w',wpList P full.toArray Q t a' w'→wpAny P .any full.toArray Q t.length (listed.setIfInBounds i true) a' w':=fun a' w' hh=>forced hx t (i+1) _ a' w' (by rw [← List.drop_drop,ht];rfl) (fun j a b=>hc j (by omega) b) hd2 (hu.next hk) hh
   simp only [ho2]
   split
   ·rename_i hw
    rw [if_pos hw] at h
    exact h.imp (Oper.wp_mono go) id
   ·rename_i hw
    rw [if_neg hw] at h
    exact go _ _ h
theorem take_at {full:List Oper} {k i:Nat} (h:i < k):(full.take k)[i]? =full[i]? :=by rw [List.getElem?_take];simp [h]
theorem edge_take {full:List Oper} {k i i2:Nat} (h:i < k):edgeB (full.take k) i i2=edgeB full i i2:=by unfold edgeB;rw [take_at h]
/- the first k in whatever order, then the others -/
theorem suf_conv {P : Program} {Q : Exit → Act → World → Prop} {C : World → Prop} {Qa : Act → Prop} {full : List Oper} {k : Nat} (hk : k < full.length) (hx : lexE full = true) (hc : ∀ j, k ≤ j → j < full.length → covB full j = true) (hy : ∀ i x, i < k → full[i]? = some x → ∀ t : Array Value, Region.wanted x (yielded (full.take k).toArray t) = Region.wanted x (yielded full.toArray t))
  (hQ:∀ a w,C w→Qa a→wpList P full.toArray Q (full.drop k) a w):
  ∀ (fuel:Nat) (l1 listed:Array Bool) (a:Act) (w:World),listed.size=full.length→l1.size=k→(∀ i,i < k→l1.getD i true=listed.getD i true)→(∀ i,k≤i→i < full.length→listed.getD i true=false)→Down full listed→C w→wpAnyQ P .any (full.take k).toArray C Qa fuel l1 a→wpAny P .any full.toArray Q (fuel+(full.length - k)) listed a w:=by
 have hl:(full.take k).length=k:=by rw [List.length_take];omega
 have hx1:lexE (full.take k)=true:=by
  unfold lexE at hx ⊢
  rw [List.all_eq_true] at hx ⊢
  intro i hi
  rw [List.mem_range,hl] at hi
  rw [take_at hi]
  exact hx i (List.mem_range.2 (by omega))
 have fin:∀ (fuel:Nat) (l1 listed:Array Bool) (a:Act) (w:World),listed.size=full.length→l1.size=k→(∀ i,i < k→l1.getD i true=listed.getD i true)→(∀ i,k≤i→i < full.length→listed.getD i true=false)→Down full listed→Region.ready .any (full.take k).toArray l1=[]→wpList P full.toArray Q (full.drop k) a w→wpAny P .any full.toArray Q (fuel+(full.length - k)) listed a w:=by
  intro fuel l1 listed a w hs h1 hsame hun hd h0 hw
  have hup:Upto full.length listed k:=by
   refine ⟨hs,fun i a1 a2=>?_,hun⟩
   rw [← hsame i a1]
   cases hb:l1.getD i true with
   | true=>rfl
   | false=>
    obtain ⟨i',-,hi'⟩:=rdy_some hx1 (by omega) i (by omega) hb
    rw [h0] at hi'
    cases hi'
  have q:=forced (P:=P) (Q:=Q) hx (full.drop k) k listed a w rfl hc hd hup hw
  have mono:∀ (n:Nat) (f:Nat) (l:Array Bool) (a:Act) (w:World),wpAny P .any full.toArray Q f l a w→wpAny P .any full.toArray Q (n+f) l a w:=by
   intro n f
   induction f with
   | zero=>
    intro l a w h
    cases n with
    | zero=>exact h
    | succ n=>exact ⟨fun _=>h.2,by rw [h.1];simp⟩
   | succ f ih=>intro l a w h;exact ⟨h.1,fun i hi=>wpOp_mono (fun a' w' hh=>ih _ a' w' hh) (h.2 i hi)⟩
  have e:(full.drop k).length=full.length - k:=List.length_drop
  rw [e] at q
  exact mono fuel _ _ _ _ q
 intro fuel
 induction fuel with
 | zero=>
  intro l1 listed a w hs h1 hsame hun hd hC h
  exact fin 0 l1 listed a w hs h1 hsame hun hd h.1 (hQ a w hC h.2)
 | succ fuel ih=>
  intro l1 listed a w hs h1 hsame hun hd hC h
  by_cases h0:Region.ready .any (full.take k).toArray l1=[]
  ·exact fin (fuel+1) l1 listed a w hs h1 hsame hun hd h0 (hQ a w hC (h.1 h0))
  ·rw [show fuel+1+(full.length - k)=(fuel+(full.length - k))+1 by omega]
   have hlt:∀ i,i∈Region.ready .any full.toArray listed→i < k:=fun i hi=>by
    rcases Nat.lt_or_ge i k with q | q
    ·exact q
    ·exfalso
     obtain ⟨a1,a2,a3⟩:=mem_rdy.1 hi
     apply h0
     refine List.eq_nil_iff_forall_not_mem.2 fun j hj=>?_
     obtain ⟨b1,b2,-⟩:=mem_rdy.1 hj
     rw [hl] at b1
     have c:=cov_all hs hd a1 (hc i q a1) a3 i j (by omega) (by omega)
     rw [hsame j b1,getD_in (by omega) true false,c] at b2
     cases b2
   refine ⟨fun hn=>?_,fun i hi=>?_⟩
   ·obtain ⟨i,-,hi⟩:=rdy_some hx hs k hk (hun k (Nat.le_refl _) hk)
    rw [hn] at hi
    cases hi
   ·have hik:=hlt i hi
    obtain ⟨a1,a2,a3⟩:=mem_rdy.1 hi
    have hi1:i∈Region.ready .any (full.take k).toArray l1:=by
     refine mem_rdy.2 ⟨by omega,by rw [hsame i hik];exact a2,fun i2 he=>?_⟩
     rw [edge_take hik] at he
     have:=(lex_lt hx he).1
     rw [getD_in (by omega) false true,hsame i2 (by omega),getD_in (by omega) true false]
     exact a3 i2 he
    have hq:=h.2 i hi1
    obtain ⟨o,ho⟩:∃ o,full[i]? =some o:=⟨_,List.getElem?_eq_getElem a1⟩
    have hq':qOp P full.toArray C i (wpAnyQ P .any (full.take k).toArray C Qa fuel (l1.setIfInBounds i true)) a:=by
     unfold qOp at hq ⊢
     rw [List.getElem?_toArray] at hq ⊢
     rw [take_at hik,ho] at hq
     rw [ho]
     simp only at hq ⊢
     rw [hy i o hik ho] at hq
     exact hq
    refine wpOp_of_qOp hC (fun a' w' hC' hk'=>ih _ _ a' w' (by simpa using hs) (by simpa using h1) (fun j hj=>?_) (fun j b1 b2=>?_) (down_set hs hd hx hi) hC' hk') hq'
    ·have j1:j < l1.size:=by omega
     have j2:j < listed.size:=by omega
     have q:=hsame j hj
     simp only [Array.getD,j1,j2,dif_pos] at q
     by_cases e:i=j
     ·subst e;simp [Array.getD,j1,j2]
     ·simp [Array.getD,j1,j2,Array.getElem_setIfInBounds,e]
      exact q
    ·have j2:j < listed.size:=by omega
     have q:=hun j b1 b2
     simp only [Array.getD,j2,dif_pos] at q
     simp [Array.getD,j2,Array.getElem_setIfInBounds,show ¬ i=j by omega]
     exact q
/- no guard among the first k looks beyond them -/
def grdB (full:List Oper) (k:Nat):Bool:=(full.take k).all fun x=>match x.guard with | some (g,_)=>decide (g < k) | none=>true
theorem regionSuf {P : Program} {id : Nat} {Q : Exit → Act → World → Prop} {a : Act} (W : World) {full : List Oper} (k : Nat) (hk : decide (k < full.length) = true) (hm : P.follows .mixedOrders = true) (hB : Region.lexB .any (full.take k).toArray = true) (hS : sufOk full k = true) (hG : grdB full k = true)
  (h:wpQuiet P (full.take k).toArray (fun w'=>∃ x:Ext W,w'=x.w) (fun a'=>∀ w',(∃ x:Ext W,w'=x.w)→wpList P full.toArray Q (full.drop k) a' w') (full.take k) a):(Code.region id full.toArray true).wp P Q a W:=by
 rw [decide_eq_true_eq] at hk
 unfold sufOk at hS
 rw [Bool.and_eq_true,List.all_eq_true] at hS
 obtain ⟨hx,hc⟩:=hS
 have hc':∀ j,k≤j→j < full.length→covB full j=true:=fun j a1 a2=>by
  have q:=hc j (List.mem_range.2 a2)
  rw [Bool.or_eq_true,decide_eq_true_eq] at q
  rcases q with q | q
  ·omega
  ·exact q
 have hl:(full.take k).length=k:=by rw [List.length_take];omega
 simp only [Region.lexB,Bool.and_eq_true] at hB
 have h2:=wpAnyQ_lex (md:=.any) hB.1 (full.take k) 0 (Array.replicate (full.take k).toArray.size false) a (by simp) (by simpa using hB.2) h
 refine wp_region_any hm ?_
 have hy:∀ i x,i < k→full[i]? =some x→∀ t:Array Value,Region.wanted x (yielded (full.take k).toArray t)=Region.wanted x (yielded full.toArray t):=fun i x hi hx' t=>by
  unfold grdB at hG
  rw [List.all_eq_true] at hG
  have q:=hG x (List.mem_of_getElem? (by rw [take_at hi];exact hx'))
  unfold Region.wanted
  cases hg:x.guard with
  | none=>rfl
  | some y=>
   rw [hg] at q
   simp only [decide_eq_true_eq] at q
   have e:yielded (full.take k).toArray t y.1=yielded full.toArray t y.1:=by
    unfold yielded
    rw [List.getElem?_toArray,List.getElem?_toArray,take_at q]
   simp only [e]
 have q:=suf_conv (P:=P) (Q:=Q) (C:=fun w'=>∃ x:Ext W,w'=x.w) (Qa:=fun a'=>∀ w',(∃ x:Ext W,w'=x.w)→wpList P full.toArray Q (full.drop k) a' w') hk hx hc' hy (fun a' w' hC hh=>hh w' hC) k (Array.replicate k false) (Array.replicate full.length false) a { W with drawn:=W.drawn+1 } (by simp) (by simp) (fun i hi=>by simp [Array.getD,hi,show i < full.length by omega]) (fun i _ hi=>by simp [Array.getD,hi]) (fun i i2 hi hl=>by simp [Array.getD,hi] at hl) ⟨⟨{ W with drawn:=W.drawn+1 },⟨rfl,rfl,rfl,Nat.le_refl _,fun _ _=>rfl⟩⟩,rfl⟩ (by simp only [List.size_toArray,hl] at h2;exact h2)
 have e:k+(full.length - k)=full.toArray.size:=by simp;omega
 rw [e] at q
 simpa using q
end
section
set_option linter.unusedSimpArgs false
set_option linter.unusedVariables false
set_option maxRecDepth 100000
open Go.RowKit
section
variable {P:Program} {full:List Oper} {Q:Exit→Act→World→Prop} {C:World→Prop} {m:Nat}
/- whatever order is picked; behind one of the first m the world is of the class -/
def wpAnyU (P:Program) (full:List Oper) (Q:Exit→Act→World→Prop) (C:World→Prop) (m:Nat):Nat→Array Bool→Act→World→Prop
 | 0,listed,a,w=>Region.ready .any full.toArray listed=[]∧Q .normal a w
 | fuel+1,listed,a,w=>(Region.ready .any full.toArray listed=[]→Q .normal a w)∧∀ i∈Region.ready .any full.toArray listed,wpOp P full.toArray Q i (fun a' w'=>(i < m→C w→C w')∧wpAnyU P full Q C m fuel (listed.setIfInBounds i true) a' w') a w
theorem any_of_U:∀ (fuel:Nat) (listed:Array Bool) (a:Act) (w:World),wpAnyU P full Q C m fuel listed a w→wpAny P .any full.toArray Q fuel listed a w
 | 0,_,_,_,h=>h
 | fuel+1,_,_,_,h=>⟨h.1,fun i hi=>wpOp_mono (fun a' w' h'=>any_of_U fuel _ a' w' h'.2) (h.2 i hi)⟩
theorem U_first {T : World → Prop} {i : Nat} {oi : Oper} {v : Value} (hi : full[i]? = some oi) (hsel : Region.noSelect full.toArray = true) (hQ : ∀ c a w, Q (.panic c) (a.put oi.dst v) w → Q (.panic c) a w) (hT : ∀ j, j < full.length → j ≠ i → edgeB full j i = false → ∀ w w', (j < m → C w → C w') → T w → T w') :
  ∀ (fuel:Nat) (listed:Array Bool) (a:Act) (w:World),(∀ j oj,full[j]? =some oj→j≠i→listed.getD j true=false→edgeB full j i=false→oi.apart full.toArray oj=true)→i∈Region.ready .any full.toArray listed→i < listed.size→YieldsIf P full.toArray T oi v a→T w→
   wpAnyU P full Q C m fuel (listed.setIfInBounds i true) (a.put oi.dst v) w→wpAnyU P full Q C m (fuel+1) listed a w:=by
 have hi':full.toArray[i]? =some oi:=by rw [List.getElem?_toArray];exact hi
 have sl:=Region.noSelect_spec hsel
 intro fuel
 induction fuel with
 | zero=>
  intro listed a w _ hr _ hy hw H
  refine ⟨fun h=>(by rw [h] at hr;cases hr),fun j hj=>?_⟩
  by_cases e:j=i
  ·subst e;exact hy.wpOp hi' hw ⟨fun _ hc=>hc,H⟩
  ·have q:=ready_mono hj e
   rw [H.1] at q
   cases q
 | succ n ih=>
  intro listed a w hf hr hsz hy hw H
  refine ⟨fun h=>(by rw [h] at hr;cases hr),fun j hj=>?_⟩
  by_cases e:j=i
  ·subst e;exact hy.wpOp hi' hw ⟨fun _ hc=>hc,H⟩
  ·have h1:=H.2 j (ready_mono hj e)
   obtain ⟨b1,b2,b3⟩:=mem_rdy.1 hj
   obtain ⟨oj,hoj⟩:∃ o,full[j]? =some o:=⟨_,List.getElem?_eq_getElem b1⟩
   have hno:edgeB full j i=false:=by
    cases hh:edgeB full j i with
    | false=>rfl
    | true=>
     have q:=b3 i hh
     have q2:=(mem_rdy.1 hr).2.1
     rw [getD_in hsz true false,q] at q2
     cases q2
   have hoj':full.toArray[j]? =some oj:=by rw [List.getElem?_toArray];exact hoj
   have h2:=wpOp_putIf hoj' (hf j oj hoj e b2 hno) (fun cs b=>sl i oi cs b hi') (fun cs b=>sl j oj cs b hoj') hQ hy h1
   refine wpOp_mono (fun a' w' h3=>⟨h3.2.1,ih (listed.setIfInBounds j true) a' w' (fun k ok hk hki hun hn=>hf k ok hk hki ?_ hn) (ready_mono hr (Ne.symm e)) (by simpa using hsz) h3.1 (hT j b1 e hno w w' h3.2.1 hw) ?_⟩) h2
   ·by_cases hjk:j=k
    ·subst hjk;exact b2
    ·rw [getD_set_ne true hjk] at hun;exact hun
   ·rw [Array.setIfInBounds_comm _ _ e]
    exact h3.2.2
/- the operations whose result is a value -/
def isVal (o:Oper):Bool:=match o.op with | .load .. | .fieldAddr .. | .indexAddr .. | .move _ | .assign _ | .nilCheck _ | .binOp .. | .unOp .. | .build .. | .extract ..=>true | _=>false
theorem val_run {ρ:Operand→Value} {o:Oper} {w w':World} {n:Next} (hv:isVal o=true) (h:(execOp ρ o).run P w=.ok n w'):∃ u,n=.value u:=by
 have vv:∀ (s:Sem Value),(do pure (Next.value (← s)):Sem Next).run P w=.ok n w'→∃ u,n=.value u:=fun s hs=>by
  rw [Sem.run_bind] at hs
  cases hr:s.run P w with
  | ok u w2=>
   rw [hr] at hs
   simp only [Result.andThen,Sem.run_pure] at hs
   injection hs with h1 h2
   exact ⟨u,h1.symm⟩
  | halt x w2=>
   rw [hr] at hs
   simp only [Result.andThen] at hs
   cases hs
 have bd:∀ {α:Type} (s:Sem α) (f:α→Sem Next) (w:World),(∀ x w1,(f x).run P w1=.ok n w'→∃ u,n=.value u)→(s >>=f).run P w=.ok n w'→∃ u,n=.value u:=fun s f w hf hs=>by
  rw [Sem.run_bind] at hs
  cases hr:s.run P w with
  | ok u w2=>rw [hr] at hs;exact hf u w2 hs
  | halt x w2=>
   rw [hr] at hs
   simp only [Result.andThen] at hs
   cases hs
 have pr:∀ (v:Value) (w:World),(pure (Next.value v):Sem Next).run P w=.ok n w'→∃ u,n=.value u:=fun v w hs=>by
  rw [Sem.run_pure] at hs
  injection hs with h1 h2
  exact ⟨_,h1.symm⟩
 unfold isVal at hv
 unfold execOp at h
 split at hv
 all_goals first
  | cases hv
  | skip
 all_goals (rename_i heq;rw [heq] at h;simp only at h)
 all_goals first
  | exact vv _ h
  | (rw [Sem.run_pure] at h;injection h with h1 h2;exact ⟨_,h1.symm⟩)
  | skip
 split at h
 all_goals first
  | (simp [runtimePanic] at h;done)
  | (rw [Sem.run_pure] at h;injection h with h1 h2;exact ⟨_,h1.symm⟩)
  | skip
 split at h
 ·simp [runtimePanic] at h
 ·refine bd _ _ _ (fun x w1 h1=>?_) h
  refine bd _ _ _ (fun y w2 h2=>?_) h1
  split at h2
  ·exact bd _ _ _ (fun z w3 h3=>pr _ _ h3) h2
  ·exact pr _ _ h2
 ·exact pr _ _ h
/- what is quiet and a value yields it in every world of the class -/
theorem val_quiet {o:Oper} {a:Act} {w:World} {v:Value} (hv:isVal o=true) (h:o.quietAt P a C w v):(execOp a.eval o).run P w=.ok (.value v) w:=by
 unfold Oper.quietAt at h
 cases hr:(execOp a.eval o).run P w with
 | ok n w'=>
  obtain ⟨u,rfl⟩:=val_run hv hr
  rw [hr] at h
  obtain ⟨rfl,rfl⟩:=h
  rfl
 | halt x w'=>rw [hr] at h;cases h
theorem ext_run {o:Oper} {t:Operand} {ix:Nat} (ho:o.op=.extract t ix) (a:Act):((∃ v,∀ w,(execOp a.eval o).run P w=.ok (.value v) w)∨∃ s,∀ w,(execOp a.eval o).run P w=.halt (.stuck s) w)∧∀ w,((execOp a.eval o).runT P w #[]).2=#[]:=by
 have e:execOp a.eval o=(do pure (Next.value (← Instr.extract (a.eval t) ix))):=by unfold execOp;rw [ho]
 rw [e]
 unfold Instr.extract
 split
 ·split
  ·exact ⟨.inl ⟨_,fun w=>rfl⟩,fun w=>rfl⟩
  ·exact ⟨.inr ⟨_,fun w=>rfl⟩,fun w=>rfl⟩
 ·exact ⟨.inr ⟨_,fun w=>rfl⟩,fun w=>rfl⟩
def up (n k:Nat):Array Bool:=((List.range n).map fun i=>decide (i < k)).toArray
theorem up_size (n k:Nat):(up n k).size=n:=by simp [up]
theorem up_at {n k i:Nat} (h:i < n) (b:Bool):(up n k).getD i b=decide (i < k):=by simp [up,Array.getD,h]
theorem up_next {n k:Nat} (h:k < n):(up n k).setIfInBounds k true=up n (k+1):=by
 refine Array.ext (by simp [up]) fun i h1 h2=>?_
 simp [up] at h1 h2
 by_cases e:k=i
 ·subst e;simp [up]
 ·simp [up,Array.getElem_setIfInBounds,e]
  omega
theorem up_zero (n:Nat):Array.replicate n false=up n 0:=Array.ext (by simp [up]) fun i h1 h2=>by simp [up]
def barB (full:List Oper) (k:Nat):Bool:=(List.range full.length).all fun j=>decide (j≤k)||(List.range j).any fun i=>decide (k≤i)&&edgeB full j i
def isExt (o:Oper):Bool:=o.guard.isNone&&match o.op with | .extract ..=>true | _=>false
def stepOkB (full:List Oper) (j:Nat):Bool:=barB full j||(((full[j]?).map isExt).getD false&&Region.free .any full.toArray (up full.length j) j)
def readB (full:List Oper) (i:Nat):Bool:=((full[i]?).map isVal).getD false&&Region.free .any full.toArray (up full.length i) i
def mixOk (full:List Oper) (k m:Nat):Bool:=
 decide (k < full.length)&&(lexE full&&(Region.noSelect full.toArray&&((List.range k).all (readB full)&&((List.range full.length).all (fun j=>decide (j < m)||(List.range k).all fun i=>edgeB full j i)&&(List.range full.length).all (fun j=>decide (j < k)||stepOkB full j)))))
/- another end where all went well -/
def Qn (Q:Exit→Act→World→Prop) (K:Act→World→Prop):Exit→Act→World→Prop
 | .normal,a,w=>K a w
 | e,a,w=>Q e a w
def wpListC (P:Program) (ops:Array Oper) (Q:Exit→Act→World→Prop) (C:World→Prop) (m:Nat):Nat→List Oper→Act→World→Prop
 | _,[],a,w=>Q .normal a w
 | j,o::t,a,w=>wpList P ops (Qn Q fun a' w'=>(j < m→C w→C w')∧wpListC P ops Q C m (j+1) t a' w') [o] a w
theorem wp_monoQ {o:Oper} {a:Act} {w:World} {K K' L:Act→World→Prop} (h:∀ a w,K a w→K' a w) (hh:o.wp P a w K (Qn Q L)):o.wp P a w K' Q:=by
 unfold Oper.wp at *
 generalize (execOp a.eval o).run P w=r at *
 cases r with
 | ok n w'=>
  cases n<;>simp only [Oper.upon] at hh ⊢<;>
   first
    | exact h _ _ hh
    | exact Calls.mono hh (fun e w'' he=>by cases e<;>first | exact h _ _ he | exact he)
    | exact Rows.mono hh (fun _ _ he=>h _ _ he)
 | halt x w'=>cases x<;>simp only [Oper.upon] at hh ⊢<;>exact hh
/- from number m on: the walk as ever -/
theorem listC_late {ops:Array Oper}:∀ (t:List Oper) (j:Nat) (a:Act) (w:World),m≤j→wpList P ops Q t a w→wpListC P ops Q C m j t a w
 | [],_,_,_,_,h=>h
 | o::t,j,a,w,hj,h=>by
  unfold wpListC
  unfold wpList at h ⊢
  have go:∀ a' w',wpList P ops Q t a' w'→(Qn Q fun a' w'=>(j < m→C w→C w')∧wpListC P ops Q C m (j+1) t a' w') .normal a' w':=fun a' w' hh=>⟨fun q=>by omega,listC_late t (j+1) a' w' (by omega) hh⟩
  split
  ·rename_i hw
   rw [if_pos hw] at h
   rcases h with h | ⟨h1,a2,w2,h2⟩
   ·refine .inl ?_
    unfold Oper.wp at *
    generalize (execOp a.eval o).run P w=r at *
    cases r with
    | ok n w'=>
     cases n<;>simp only [Oper.upon] at h ⊢<;>
      first
       | exact go _ _ h
       | exact Calls.mono h (fun e w'' he=>by cases e<;>first | exact go _ _ he | exact he)
       | exact Rows.mono h (fun _ _ he=>go _ _ he)
    | halt x w'=>cases x<;>simp only [Oper.upon] at h ⊢<;>exact h
   ·exact .inr ⟨h1,a2,w2,h2⟩
  ·rename_i hw
   rw [if_neg hw] at h
   exact go _ _ h
theorem rdy_up {j:Nat} (hx:lexE full=true) (hj:j < full.length):j∈Region.ready .any full.toArray (up full.length j):=
 mem_rdy.2 ⟨hj,by rw [up_at hj];simp,fun i2 he=>by have:=(lex_lt hx he).1;rw [up_at (by omega)];simpa using this⟩
theorem free_up {i j:Nat} {oi oj:Oper} {listed:Array Bool} (hi:full[i]? =some oi) (h:Region.free .any full.toArray listed i=true) (hj:full[j]? =some oj) (hne:j≠i) (hun:listed.getD j true=false) (hno:edgeB full j i=false):oi.apart full.toArray oj=true:=by
 refine Region.free_spec (by rw [List.getElem?_toArray];exact hi) h j oj (by rw [List.getElem?_toArray];exact hj) hne hun (fun e he hb heq=>?_)
 have:edgeB full j i=true:=edge_iff.2 ⟨oj,hj,e,he,hb,heq⟩
 rw [hno] at this
 cases this
theorem mix_rest (hx:lexE full=true) (hs:Region.noSelect full.toArray=true) (hQ:∀ c a d v w,Q (.panic c) (Act.put a d v) w→Q (.panic c) a w):∀ (t:List Oper) (j:Nat) (a:Act) (w:World),full.drop j=t→(∀ i,j≤i→i < full.length→stepOkB full i=true)→wpListC P full.toArray Q C m j t a w→wpAnyU P full Q C m t.length (up full.length j) a w
 | [],j,a,w,ht,_,h=>by
  have hk:full.length≤j:=List.drop_eq_nil_iff.1 ht
  refine ⟨List.eq_nil_iff_forall_not_mem.2 fun i hi=>?_,h⟩
  obtain ⟨h1,h2,-⟩:=mem_rdy.1 hi
  rw [up_at h1] at h2
  simp at h2
  omega
 | o::t,j,a,w,ht,hst,h=>by
  have hj:j < full.length:=by
   rcases Nat.lt_or_ge j full.length with q | q
   ·exact q
   ·rw [List.drop_eq_nil_of_le q] at ht;cases ht
  have ho:full[j]? =some o:=by
   have:(full.drop j)[0]? =some o:=by rw [ht];rfl
   rw [List.getElem?_drop] at this
   simpa using this
  have ho':full.toArray[j]? =some o:=by rw [List.getElem?_toArray];exact ho
  have hr:=rdy_up hx hj
  have ht':full.drop (j+1)=t:=by rw [← List.drop_drop,ht];rfl
  have go:∀ a' w',wpListC P full.toArray Q C m (j+1) t a' w'→wpAnyU P full Q C m t.length (up full.length (j+1)) a' w':=fun a' w' hh=>mix_rest hx hs hQ t (j+1) a' w' ht' (fun i a b=>hst i (by omega) b) hh
  have hq:=hst j (Nat.le_refl _) hj
  unfold stepOkB at hq
  rw [Bool.or_eq_true] at hq
  unfold wpListC at h
  unfold wpList at h
  rcases hq with hq | hq
  ·have hall:∀ i,i∈Region.ready .any full.toArray (up full.length j)→i=j:=fun i hi=>by
    obtain ⟨h1,h2,h3⟩:=mem_rdy.1 hi
    rw [up_at h1] at h2
    simp at h2
    rcases Nat.lt_or_eq_of_le h2 with q | q
    ·exfalso
     unfold barB at hq
     rw [List.all_eq_true] at hq
     have c:=hq i (List.mem_range.2 h1)
     rw [Bool.or_eq_true,decide_eq_true_eq,List.any_eq_true] at c
     rcases c with c | ⟨i2,m1,c⟩
     ·omega
     ·rw [Bool.and_eq_true,decide_eq_true_eq] at c
      rw [List.mem_range] at m1
      have c2:=h3 i2 c.2
      rw [up_at (by omega)] at c2
      simp at c2
      omega
    ·exact q.symm
   refine ⟨fun h0=>(by rw [h0] at hr;cases hr),fun i hi=>?_⟩
   have e:=hall i hi
   subst e
   unfold wpOp
   simp only [ho']
   rw [up_next hj]
   split
   ·rename_i hw
    rw [if_pos hw] at h
    exact h.imp (wp_monoQ fun a' w' hh=>⟨hh.1,go _ _ hh.2⟩) id
   ·rename_i hw
    rw [if_neg hw] at h
    exact ⟨h.1,go _ _ h.2⟩
  ·rw [Bool.and_eq_true,ho] at hq
   obtain ⟨q1,q2⟩:=hq
   simp only [Option.map_some,Option.getD_some] at q1
   unfold isExt at q1
   rw [Bool.and_eq_true] at q1
   obtain ⟨g1,q1⟩:=q1
   have hg:o.guard=none:=by simpa using g1
   have hw:∀ t,Region.wanted o t=true:=fun t=>by simp [Region.wanted,hg]
   rw [if_pos (hw _)] at h
   split at q1
   ·rename_i tt ix heq
    obtain ⟨hrun,htr⟩:=ext_run (P:=P) heq a
    have h:=h.resolve_right (fun hh=>by have h1:=hh.1.1;rw [htr w] at h1;simp at h1)
    rcases hrun with ⟨v,hv⟩ | ⟨s,hv⟩
    ·unfold Oper.wp at h
     rw [hv w] at h
     simp only [Oper.upon] at h
     refine U_first (T:=fun _=>True) ho hs (fun c a w=>hQ c a o.dst v w) (fun _ _ _ _ _ _ _ _=>trivial) t.length (up full.length j) a w (fun j' oj hj' hne hun hno=>free_up ho q2 hj' hne hun hno) hr (by rw [up_size];exact hj) (.inl ⟨hw _,fun w _=>hv w⟩) trivial ?_
     rw [up_next hj]
     exact go _ _ h.2
    ·unfold Oper.wp at h
     rw [hv w] at h
     simp only [Oper.upon] at h
   ·cases q1
theorem mix_reads {k:Nat} (hk:k < full.length) (hx:lexE full=true) (hs:Region.noSelect full.toArray=true) (hQ:∀ c a d v w,Q (.panic c) (Act.put a d v) w→Q (.panic c) a w) (hrd:∀ i,i < k→readB full i=true) (hlt:∀ i j,i < k→m≤j→j < full.length→edgeB full j i=true) (hst:∀ i,k≤i→i < full.length→stepOkB full i=true):∀ (l:List Oper) (i:Nat) (a:Act) (w:World),(full.take k).drop i=l→i≤k→C w→wpQuiet P full.toArray C (fun a'=>wpListC P full.toArray Q C m k (full.drop k) a' w) l a→wpAnyU P full Q C m (full.length - i) (up full.length i) a w
 | [],i,a,w,hl,hi,hC,h=>by
  have hkl:(full.take k).length=k:=by rw [List.length_take];omega
  have:k≤i:=by have:=List.drop_eq_nil_iff.1 hl;omega
  have e:i=k:=by omega
  subst e
  have q:=mix_rest (P:=P) (C:=C) (m:=m) hx hs hQ (full.drop i) i a w rfl hst h
  rw [List.length_drop] at q
  exact q
 | o::l,i,a,w,hl,hi,hC,h=>by
  have hkl:(full.take k).length=k:=by rw [List.length_take];omega
  have hik:i < k:=by
   rcases Nat.lt_or_ge i k with q | q
   ·exact q
   ·rw [List.drop_eq_nil_of_le (by omega)] at hl;cases hl
  have ho:full[i]? =some o:=by
   have q:((full.take k).drop i)[0]? =some o:=by rw [hl];rfl
   rw [List.getElem?_drop,Nat.add_zero,take_at hik] at q
   exact q
  have hl':(full.take k).drop (i+1)=l:=by rw [← List.drop_drop,hl];rfl
  have hr:=rdy_up hx (show i < full.length by omega)
  have q:=hrd i hik
  unfold readB at q
  rw [Bool.and_eq_true,ho] at q
  simp only [Option.map_some,Option.getD_some] at q
  have main:∀ v,YieldsIf P full.toArray C o v a→wpQuiet P full.toArray C (fun a'=>wpListC P full.toArray Q C m k (full.drop k) a' w) l (a.put o.dst v)→wpAnyU P full Q C m (full.length - i) (up full.length i) a w:=fun v hy hn=>by
   have r:=mix_reads hk hx hs hQ hrd hlt hst l (i+1) (a.put o.dst v) w hl' (by omega) hC hn
   rw [show full.length - i=(full.length - (i+1))+1 by omega]
   refine U_first (T:=C) ho hs (fun c a w=>hQ c a o.dst v w) (fun j hj hne hno w w' hh hw=>?_) _ (up full.length i) a w (fun j' oj hj' hne hun hno=>free_up ho q.2 hj' hne hun hno) hr (by rw [up_size];omega) hy hC ?_
   ·refine hh ?_ hw
    rcases Nat.lt_or_ge j m with c | c
    ·exact c
    ·rw [hlt i j hik c hj] at hno;cases hno
   ·rw [up_next (by omega)]
    exact r
  unfold wpQuiet at h
  split at h
  ·rename_i hw
   obtain ⟨v,hv,hn⟩:=h
   exact main v (.inl ⟨hw,fun w hCw=>val_quiet q.1 (hv w hCw)⟩) hn
  ·rename_i hw
   exact main undef (.inr ⟨by simpa using hw,rfl⟩) h
theorem regionMix {id : Nat} {a : Act} (W : World) (C : World → Prop) (k m : Nat) (hm : P.follows .mixedOrders = true) (hO : mixOk full k m = true) (hQ : ∀ c a d v w, Q (.panic c) (Act.put a d v) w → Q (.panic c) a w) (hC : C W.drew)
  (h:wpQuiet P full.toArray C (fun a'=>wpListC P full.toArray Q C m k (full.drop k) a' W.drew) (full.take k) a):(Code.region id full.toArray true).wp P Q a W:=by
 unfold mixOk at hO
 simp only [Bool.and_eq_true,decide_eq_true_eq,List.all_eq_true,List.mem_range,Bool.or_eq_true] at hO
 obtain ⟨o1,o2,o3,o4,o5,o6⟩:=hO
 refine wp_region_any hm (any_of_U (C:=C) (m:=m) _ _ _ _ ?_)
 have q:=mix_reads (P:=P) (Q:=Q) (C:=C) (m:=m) o1 o2 o3 hQ o4 (fun i j h1 h2 h3=>by rcases o5 j h3 with c | c;omega;exact c i h1) (fun i h1 h2=>by rcases o6 i h2 with c | c;omega;exact c) (full.take k) 0 a { W with drawn:=W.drawn+1 } rfl (by omega) hC h
 rw [← up_zero] at q
 simpa using q
/- a world that has all that W has, but for what may be in block g, and perhaps more -/
structure ExtN (W:World) (g:Option Nat) where
 w:World
 os:w.os=W.os
 tape:w.tape=W.tape
 out:w.output=W.output
 size:W.heap.size≤w.heap.size
 blk:∀ b,b < W.heap.size→g≠some b→w.heap[b]? =W.heap[b]?
def CN (W:World) (g:Option Nat) (w':World):Prop:=∃ x:ExtN W g,w'=x.w
theorem CN.drew (W:World) (g:Option Nat):CN W g W.drew:=⟨⟨W.drew,rfl,rfl,rfl,Nat.le_refl _,fun _ _ _=>rfl⟩,rfl⟩
theorem extN_ne (W:World) (g:Option Nat):Nonempty (ExtN W g):=⟨⟨W,rfl,rfl,rfl,Nat.le_refl _,fun _ _ _=>rfl⟩⟩
theorem ExtN.fit {W:World} {g:Option Nat} {b o:Nat} {v:Value} (h:W.cell? ⟨b,o,none⟩=some v) (hb:b < W.heap.size) (hg:g≠some b):∀ x:ExtN W g,x.w.cell? ⟨b,o,none⟩=some v:=fun x=>(World.cell?_of_block (w:=W) (x.blk b hb hg)).trans h
theorem CN.on {W:World} {g:Option Nat} {w w':World} (h:CN W g w) (h1:w'.os=w.os) (h2:w'.tape=w.tape) (h3:w'.output=w.output) (h4:w.heap.size≤w'.heap.size) (h5:∀ b,b < w.heap.size→g≠some b→w'.heap[b]? =w.heap[b]?):CN W g w':=by
 obtain ⟨x,rfl⟩:=h
 exact ⟨⟨w',h1.trans x.os,h2.trans x.tape,h3.trans x.out,Nat.le_trans x.size h4,fun b hb hg=>(h5 b (Nat.lt_of_lt_of_le hb x.size) hg).trans (x.blk b hb hg)⟩,rfl⟩
theorem CN.below {W:World} {g:Option Nat} {w w':World} (h:CN W g w) (hb:Below w.heap.size w w'):CN W g w':=h.on hb.os hb.tape hb.output hb.size (fun b h1 _=>hb.block b h1)
theorem CN.grown {W:World} {g:Option Nat} {w w':World} (h:CN W g w) (hb:w.grownBy w' g):CN W g w':=h.on hb.os hb.tape hb.output hb.size (fun b h1 h2=>hb.block b h1 (fun e=>h2 e.symm))
/- the same, several blocks left out -/
structure ExtP (W:World) (E:Nat→Prop) where
 w:World
 os:w.os=W.os
 tape:w.tape=W.tape
 out:w.output=W.output
 size:W.heap.size≤w.heap.size
 blk:∀ b,b < W.heap.size→¬ E b→w.heap[b]? =W.heap[b]?
def CP (W:World) (E:Nat→Prop) (w':World):Prop:=∃ x:ExtP W E,w'=x.w
theorem CP.drew (W:World) (E:Nat→Prop):CP W E W.drew:=⟨⟨W.drew,rfl,rfl,rfl,Nat.le_refl _,fun _ _ _=>rfl⟩,rfl⟩
theorem extP_ne (W:World) (E:Nat→Prop):Nonempty (ExtP W E):=⟨⟨W,rfl,rfl,rfl,Nat.le_refl _,fun _ _ _=>rfl⟩⟩
theorem ExtP.fit {W:World} {E:Nat→Prop} {b o:Nat} {v:Value} (h:W.cell? ⟨b,o,none⟩=some v) (hb:b < W.heap.size) (hg:¬ E b):∀ x:ExtP W E,x.w.cell? ⟨b,o,none⟩=some v:=fun x=>(World.cell?_of_block (w:=W) (x.blk b hb hg)).trans h
theorem CP.on {W:World} {E:Nat→Prop} {w w':World} (h:CP W E w) (h1:w'.os=w.os) (h2:w'.tape=w.tape) (h3:w'.output=w.output) (h4:w.heap.size≤w'.heap.size) (h5:∀ b,b < w.heap.size→¬ E b→w'.heap[b]? =w.heap[b]?):CP W E w':=by
 obtain ⟨x,rfl⟩:=h
 exact ⟨⟨w',h1.trans x.os,h2.trans x.tape,h3.trans x.out,Nat.le_trans x.size h4,fun b hb hg=>(h5 b (Nat.lt_of_lt_of_le hb x.size) hg).trans (x.blk b hb hg)⟩,rfl⟩
theorem CP.below {W:World} {E:Nat→Prop} {w w':World} (h:CP W E w) (hb:Below w.heap.size w w'):CP W E w':=h.on hb.os hb.tape hb.output hb.size (fun b h1 _=>hb.block b h1)
end
end
section
set_option linter.unusedSimpArgs false
set_option linter.unusedVariables false
set_option maxRecDepth 100000
open Go.RowKit
theorem hidW {p:Prop} (h:p):Hid p:=h
def BxS (w:World) (b:Nat):Prop:=∃ cs f,w.heap[b]? =some (.cells cs 32 f)
theorem own_bxS {w:World} {base size n b:Nat} {e:TypeId} {v:Value} {xs:List Value} (h:w.ownsRow base e size v n xs) (he:e≠32) (hb:BxS w b):v.ownBlock≠some b:=by
 obtain ⟨cs,f,c⟩:=hb
 intro hk
 rcases h.2 with ⟨rfl,-⟩ | ⟨g,cap,cur,rfl,-,c',-⟩
 ·cases hk
 ·simp only [Value.ownBlock,Option.some.injEq] at hk
  subst hk
  rw [c] at c'
  injection c' with c'
  injection c' with _ c'
  exact he c'.symm
theorem heap_setS {w:World} {g k:Nat} {v:Value} {cur:Array Value} {e:TypeId} {fr:Nat×Nat} (h:w.heap[g]? =some (.cells cur e fr)):(w.setCell ⟨g,k,none⟩ v).heap[g]? =some (.cells (cur.setIfInBounds k v) e fr):=by
 simp only [World.setCell,Array.getElem?_modify,h]
 simp
theorem BxS.set {w:World} {b g o:Nat} {v:Value} (h:BxS w b):BxS (w.setCell ⟨g,o,none⟩ v) b:=by
 obtain ⟨cs,f,c⟩:=h
 by_cases e:b=g
 ·subst e
  exact ⟨_,f,heap_setS c⟩
 ·exact ⟨cs,f,(Below.heap_setCell _ _ _ b e).trans c⟩
theorem BxS.same {w w':World} {b:Nat} (h:BxS w b) (e:w'.heap[b]? =w.heap[b]?):BxS w' b:=by
 obtain ⟨cs,f,c⟩:=h
 exact ⟨cs,f,e.trans c⟩
theorem BxS.lt {w:World} {b:Nat} (h:BxS w b):b < w.heap.size:=by
 obtain ⟨cs,f,c⟩:=h
 exact (Array.getElem?_eq_some_iff.1 c).1
theorem BxS.new (w:World) (cs:Array Value):BxS (w.alloc (.cells cs 32)) w.heap.size:=by
 exact ⟨_,_,heap_alloc_new _ _⟩
theorem OwnS.hitB {w:World} {base b:Nat} {v1 v2 v3:Value} {L1 L2:List (Rec×Value)} {d:SD} (h:OwnS w base v1 v2 v3 L1 L2 d) (ht:BxS w b):¬ HitS v1 v2 v3 L1 L2 b:=by
 rintro ((hk | ⟨i,x,hx,hk⟩) | (hk | ⟨i,x,hx,hk⟩) | hk)
 ·exact own_bxS h.t.row (by decide) ht hk
 ·exact own_bxS (h.t.inn i x hx) (by decide) ht hk
 ·exact own_bxS h.c.row (by decide) ht hk
 ·exact own_bxS (h.c.inn i x hx) (by decide) ht hk
 ·exact own_bxS h.n (by decide) ht hk
theorem OwnS.offB {w:World} {base b j:Nat} {v1 v2 v3 u:Value} {L1 L2:List (Rec×Value)} {d:SD} (h:OwnS w base v1 v2 v3 L1 L2 d) (ht:BxS w b):OwnS (w.setCell ⟨b,j,none⟩ u) base v1 v2 v3 L1 L2 d:=
 h.keepB (fun k hk=>Below.heap_setCell _ _ _ k (by show k≠b;intro e;subst e;exact h.hitB ht hk))
/- a source opened at a thread, with its place in the program -/
structure Op4 (w:World) (base lo hi:Nat) (p2:Option Addr) (v1 v2 v3:Value) (L1:List (Rec×Value)) (d:SD) (p:PD) (k q:Nat) (t:TD) (x:I5) (g1 c1 gr cr gb ob gi oi cb nb:Nat) (s2 s3:Option Addr) (c2 c3:Nat) (y:Rec×Value):Prop where
 e1:v1=.slice (some ⟨g1,0,none⟩) d.ths.length c1
 e2:v2=.slice s2 d.chs.length c2
 e3:v3=.slice s3 d.tr.length c3
 ep:p2=some ⟨gb,ob,none⟩
 hy:L1[k]? =some y
 y1:y.1=t.rec3
 y2:y.2=.slice (some ⟨gr,0,none⟩) 4 cr
 hq:t.pc=q
 nq:q < nb
 kl:k < d.ths.length
 kb:k < p.bods.length
 hb:(bodyOf p k).length=nb
 t0:w.cell? ⟨g1,k * 3,none⟩=some (.int .i64 t.pc)
 t1:w.cell? ⟨g1,k * 3+1,none⟩=some (.slice (some ⟨gr,0,none⟩) 4 cr)
 t2:w.cell? ⟨g1,k * 3+2,none⟩=some (.int .i64 t.st)
 b0:w.cell? ⟨gb,ob+k,none⟩=some (.slice (some ⟨gi,oi,none⟩) nb cb)
 xa:At5 w gi (oi+q * 5) x
 r:∀ i,i < 4→w.cell? ⟨gr,i,none⟩=some (.int .i64 (t.regs.getD i 0))
 f1:∀ j,w.frozen? ⟨g1,j,none⟩=false
 fr:∀ j,w.frozen? ⟨gr,j,none⟩=false
 z1:g1 < w.heap.size
 zr:gr < w.heap.size
 zb:gb < w.heap.size
 zi:gi < w.heap.size
 a1:base≤g1
 ar:base≤gr
 ab:gb < base
 ai:gi < base
 n1:¬ g1=gr
 ok:insX x nb p.caps.length=true
 ou:outOf p d k=stepO nb t x d.chs d.tr k
 h4:t.regs.length=4
theorem OwnS.open {w : World} {base lo hi : Nat} {p1 p2 : Option Addr} {p : PD} {v1 v2 v3 : Value} {L1 L2 : List (Rec × Value)} {d : SD} {k : Nat} {t : TD} (h : OwnS w base v1 v2 v3 L1 L2 d) (hP : ProgR w lo hi p1 p2 p) (hB : hi ≤ base) (hb : base ≤ w.heap.size) (hR : Right p d) (ht : d.ths[k]? = some t) :
  ∃ q g1 c1 gr cr gb ob gi oi cb nb s2 s3 c2 c3 y,Op4 w base lo hi p2 v1 v2 v3 L1 d p k q t (insOf p d k) g1 c1 gr cr gb ob gi oi cb nb s2 s3 c2 c3 y:=by
 have hkl:k < d.ths.length:=(List.getElem?_eq_some_iff.1 ht).1
 have hkb:k < p.bods.length:=by have:=hR.tl;omega
 obtain ⟨q1,q2,q3,q4,q5⟩:=hR.th k t ht
 obtain ⟨g1,c1,y,hv1,hy,ey,a1,z1,t0,t1,t2,f1⟩:=h.thread ht
 obtain ⟨gr,cr,y2,ar,zr,r,fr⟩:=h.regs hy ey q1
 obtain ⟨s2,c2,e2⟩:=ownSl h.c.row
 obtain ⟨s3,c3,e3⟩:=ownSl h.n
 rw [h.l2] at e2
 obtain ⟨q,hq⟩:∃ q:Nat,t.pc=q:=⟨t.pc.toNat,by omega⟩
 have ethd:thOf d k=t:=by unfold thOf;rw [List.getD_eq_getElem?_getD,ht];rfl
 have hins:insOf p d k=(bodyOf p k).getD q z5:=by unfold insOf;rw [ethd,hq,Int.toNat_natCast]
 have hqn:q < (bodyOf p k).length:=by omega
 rcases hP.2 with h0 | ⟨gb,ob,ep,_,zb,hc⟩
 ·rw [h0] at hkb;simp at hkb
 ·obtain ⟨sb,cb,b0,hI⟩:=hc k hkb
  rcases hI with h0 | ⟨gi,oi,es,_,zi,hx⟩
  ·have:(bodyOf p k).length=0:=by unfold bodyOf;rw [h0];rfl
   omega
  ·subst es
   have hx':=hx q hqn
   refine ⟨q,g1,c1,gr,cr,gb,ob,gi,oi,cb,(bodyOf p k).length,s2,s3,c2,c3,y,hv1,e2,e3,ep,hy,ey,y2,hq,hqn,hkl,hkb,rfl,t0,by rw [t1,y2],t2,b0,by rw [hins];exact hx',r,f1,fr,z1,zr,by omega,by omega,a1,ar,by omega,by omega,?_,by rw [hins];exact hR.ix k q hkb hqn,by unfold outOf;rw [ethd],q1⟩
   intro e
   have ho:=h.t.inn k y hy
   exact ownType' h.t.row ho (by decide) (k:=gr) (by rw [hv1,e];rfl) (by rw [y2];rfl)
/- the boxes of l4Step: program, source, answer, place -/
structure Bq (V:World) (z:Nat) (p0 p1 v1 v2 v3 x0 x1 x2 x3 x4:Value):Prop where
 p:Bo2 z V p0 p1
 s:BoF (z+1) V v1 v2 v3
 a:BoF (z+1+1) V (.slice none 0 0) (.slice none 0 0) (.slice none 0 0)
 x0:V.cell? ⟨z+1+1+1,0,none⟩=some x0
 x1:V.cell? ⟨z+1+1+1,1,none⟩=some x1
 x2:V.cell? ⟨z+1+1+1,2,none⟩=some x2
 x3:V.cell? ⟨z+1+1+1,3,none⟩=some x3
 x4:V.cell? ⟨z+1+1+1,4,none⟩=some x4
 bs:BxS V (z+1)
 ba:BxS V (z+1+1)
 zz:z+1+1+1 < V.heap.size
theorem Bq.keep {V V':World} {z:Nat} {p0 p1 v1 v2 v3 x0 x1 x2 x3 x4:Value} (h:Bq V z p0 p1 v1 v2 v3 x0 x1 x2 x3 x4) (hb:∀ b,z≤b→b < V.heap.size→V'.heap[b]? =V.heap[b]?) (hs:V.heap.size≤V'.heap.size):Bq V' z p0 p1 v1 v2 v3 x0 x1 x2 x3 x4:=by
 have hz:=h.zz
 have c3:∀ j,V'.cell? ⟨z+1+1+1,j,none⟩=V.cell? ⟨z+1+1+1,j,none⟩:=fun j=>World.cell?_of_block (hb (z+1+1+1) (by omega) (by omega))
 exact ⟨h.p.keep (fun b h1 h2=>hb b h1 (by omega)),h.s.keep (hb _ (by omega) (by omega)) hs,h.a.keep (hb _ (by omega) (by omega)) hs,(c3 _).trans h.x0,(c3 _).trans h.x1,(c3 _).trans h.x2,(c3 _).trans h.x3,(c3 _).trans h.x4,h.bs.same (hb _ (by omega) (by omega)),h.ba.same (hb _ (by omega) (by omega)),by omega⟩
theorem bq_new {w W V : World} {p0 p1 v1 v2 v3 x0 x1 x2 x3 x4 : Value} {T0 T3 : TypeId} (hW : (((w.alloc (.cells #[p0, p1] T0)).alloc (.cells #[v1, v2, v3] 32)).alloc (.cells #[.slice none 0 0, .slice none 0 0, .slice none 0 0] 32)) = W) (hV : W.alloc (.cells #[x0, x1, x2, x3, x4] T3) = V) :
  Bq V w.heap.size p0 p1 v1 v2 v3 x0 x1 x2 x3 x4∧Below w.heap.size w V:=by
 obtain ⟨W0,h0,b0,k0,z0⟩:=Bo2.new w p0 p1 T0
 obtain ⟨W1,h1,b1,k1,z1⟩:=BoF.new W0 v1 v2 v3 32
 have t1:BxS W1 W0.heap.size:=by rw [← h1];exact BxS.new _ _
 obtain ⟨W2,h2,b2,k2,z2⟩:=BoF.new W1 (.slice none 0 0) (.slice none 0 0) (.slice none 0 0) 32
 have t2:BxS W2 W1.heap.size:=by rw [← h2];exact BxS.new _ _
 have eW:W2=W:=by rw [← hW,h0,h1,h2]
 subst eW
 have kV:Below W2.heap.size W2 V:=by subst hV;exact (Below.refl _ _).alloc (Nat.le_refl _) _
 rw [z0] at b1 t1
 rw [z1,z0] at b2 t2
 have zV:W2.heap.size < V.heap.size:=by subst hV;simp
 have e3:w.heap.size+1+1+1=W2.heap.size:=by omega
 refine ⟨⟨((b0.keep (Keep.of_below k1 (by omega))).keep (Keep.of_below k2 (by omega))).keep (Keep.of_below kV (by omega)),(b1.below k2 (by omega)).below kV (by omega),b2.below kV (by omega),?_,?_,?_,?_,?_,(t1.same (k2.block _ (by omega))).same (kV.block _ (by omega)),t2.same (kV.block _ (by omega)),by omega⟩,(k0.trans ((k1.mono (by omega)).trans (k2.mono (by omega)))).trans (kV.mono (by omega))⟩
 all_goals rw [e3];subst hV;simp [go_sem]
end
end Go.Proofs.YtknffngbdakblaaGreat
