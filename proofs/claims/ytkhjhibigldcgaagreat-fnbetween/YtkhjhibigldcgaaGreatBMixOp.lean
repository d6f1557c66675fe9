/- A region that draws its order: first operations that only read, as long as the world stays in a class; then such as keep the class, one behind the other; then such as wait for all that was read. One walk, in the order of the text. No condition. -/
import Derived.Test.YtkhjhibigldcgaaGreatBG00
import Derived.Test.YtkhjhibigldcgaaGreatBG11
import Derived.OrdersHeld
namespace Go.Proofs.YtkhjhibigldcgaaGreat
set_option linter.unusedSimpArgs false
set_option linter.unusedVariables false
set_option maxRecDepth 100000
open Go.RowKit
section
variable {P:Program} {full:List Oper} {Q:Exit→Act→World→Prop} {C:World→Prop} {m:Nat}
/- whatever order is picked; behind one of the first m the world is of the class -/
def wpAnyU (P:Program) (full:List Oper) (Q:Exit→Act→World→Prop) (C:World→Prop) (m:Nat):Nat→Array Bool→Act→World→Prop
 | 0,listed,a,w=>Region.ready .any full.toArray listed=[]∧Q .normal a w
 | fuel+1,listed,a,w=>(Region.ready .any full.toArray listed=[]→Q .normal a w)∧∀ i∈Region.ready .any full.toArray listed,wpOp P full.toArray Q i (fun a' w'=>(i < m→C w→C w')∧wpAnyU P full Q C m fuel (listed.setIfInBounds i true) a' w') a w
theorem any_of_U:∀ (fuel:Nat) (listed:Array Bool) (a:Act) (w:World),wpAnyU P full Q C m fuel listed a w→wpAny P .any full.toArray Q fuel listed a w
 | 0,_,_,_,h=>h
 | fuel+1,_,_,_,h=>⟨h.1,fun i hi=>wpOp_mono (fun a' w' h'=>any_of_U fuel _ a' w' h'.2) (h.2 i hi)⟩
theorem U_first {T : World → Prop} {i : Nat} {oi : Oper} {v : Value} (hi : full[i]? = some oi) (hsel : Region.noSelect full.toArray = true) (hQ : ∀ c a w, Q (.panic c) (a.put oi.dst v) w → Q (.panic c) a w) (hT : ∀ j, j < full.length → j ≠ i → edgeB full j i = false → ∀ w w', (j < m → C w → C w') → T w → T w') :
  ∀ (fuel:Nat) (listed:Array Bool) (a:Act) (w:World),(∀ j oj,full[j]? =some oj→j≠i→listed.getD j true=false→edgeB full j i=false→oi.apart full.toArray oj=true)→i∈Region.ready .any full.toArray listed→i < listed.size→YieldsIf P full.toArray T oi v a→T w→
   wpAnyU P full Q C m fuel (listed.setIfInBounds i true) (a.put oi.dst v) w→wpAnyU P full Q C m (fuel+1) listed a w:=by
 have hi':full.toArray[i]? =some oi:=by rw [List.getElem?_toArray];exact hi
 have sl:=Region.noSelect_spec hsel
 intro fuel
 induction fuel with
 | zero=>
  intro listed a w _ hr _ hy hw H
  refine ⟨fun h=>(by rw [h] at hr;cases hr),fun j hj=>?_⟩
  by_cases e:j=i
  ·subst e;exact hy.wpOp hi' hw ⟨fun _ hc=>hc,H⟩
  ·have q:=ready_mono hj e
   rw [H.1] at q
   cases q
 | succ n ih=>
  intro listed a w hf hr hsz hy hw H
  refine ⟨fun h=>(by rw [h] at hr;cases hr),fun j hj=>?_⟩
  by_cases e:j=i
  ·subst e;exact hy.wpOp hi' hw ⟨fun _ hc=>hc,H⟩
  ·have h1:=H.2 j (ready_mono hj e)
   obtain ⟨b1,b2,b3⟩:=mem_rdy.1 hj
   obtain ⟨oj,hoj⟩:∃ o,full[j]? =some o:=⟨_,List.getElem?_eq_getElem b1⟩
   have hno:edgeB full j i=false:=by
    cases hh:edgeB full j i with
    | false=>rfl
    | true=>
     have q:=b3 i hh
     have q2:=(mem_rdy.1 hr).2.1
     rw [getD_in hsz true false,q] at q2
     cases q2
   have hoj':full.toArray[j]? =some oj:=by rw [List.getElem?_toArray];exact hoj
   have h2:=wpOp_putIf hoj' (hf j oj hoj e b2 hno) (fun cs b=>sl i oi cs b hi') (fun cs b=>sl j oj cs b hoj') hQ hy h1
   refine wpOp_mono (fun a' w' h3=>⟨h3.2.1,ih (listed.setIfInBounds j true) a' w' (fun k ok hk hki hun hn=>hf k ok hk hki ?_ hn) (ready_mono hr (Ne.symm e)) (by simpa using hsz) h3.1 (hT j b1 e hno w w' h3.2.1 hw) ?_⟩) h2
   ·by_cases hjk:j=k
    ·subst hjk;exact b2
    ·rw [getD_set_ne true hjk] at hun;exact hun
   ·rw [Array.setIfInBounds_comm _ _ e]
    exact h3.2.2
/- the operations whose result is a value -/
def isVal (o:Oper):Bool:=match o.op with | .load .. | .fieldAddr .. | .indexAddr .. | .move _ | .assign _ | .nilCheck _ | .binOp .. | .unOp .. | .build .. | .extract ..=>true | _=>false
theorem val_run {ρ:Operand→Value} {o:Oper} {w w':World} {n:Next} (hv:isVal o=true) (h:(execOp ρ o).run P w=.ok n w'):∃ u,n=.value u:=by
 have vv:∀ (s:Sem Value),(do pure (Next.value (← s)):Sem Next).run P w=.ok n w'→∃ u,n=.value u:=fun s hs=>by
  rw [Sem.run_bind] at hs
  cases hr:s.run P w with
  | ok u w2=>
   rw [hr] at hs
   simp only [Result.andThen,Sem.run_pure] at hs
   injection hs with h1 h2
   exact ⟨u,h1.symm⟩
  | halt x w2=>
   rw [hr] at hs
   simp only [Result.andThen] at hs
   cases hs
 have bd:∀ {α:Type} (s:Sem α) (f:α→Sem Next) (w:World),(∀ x w1,(f x).run P w1=.ok n w'→∃ u,n=.value u)→(s >>=f).run P w=.ok n w'→∃ u,n=.value u:=fun s f w hf hs=>by
  rw [Sem.run_bind] at hs
  cases hr:s.run P w with
  | ok u w2=>rw [hr] at hs;exact hf u w2 hs
  | halt x w2=>
   rw [hr] at hs
   simp only [Result.andThen] at hs
   cases hs
 have pr:∀ (v:Value) (w:World),(pure (Next.value v):Sem Next).run P w=.ok n w'→∃ u,n=.value u:=fun v w hs=>by
  rw [Sem.run_pure] at hs
  injection hs with h1 h2
  exact ⟨_,h1.symm⟩
 unfold isVal at hv
 unfold execOp at h
 split at hv
 all_goals first
  | cases hv
  | skip
 all_goals (rename_i heq;rw [heq] at h;simp only at h)
 all_goals first
  | exact vv _ h
  | (rw [Sem.run_pure] at h;injection h with h1 h2;exact ⟨_,h1.symm⟩)
  | skip
 split at h
 all_goals first
  | (simp [runtimePanic] at h;done)
  | (rw [Sem.run_pure] at h;injection h with h1 h2;exact ⟨_,h1.symm⟩)
  | skip
 split at h
 ·simp [runtimePanic] at h
 ·refine bd _ _ _ (fun x w1 h1=>?_) h
  refine bd _ _ _ (fun y w2 h2=>?_) h1
  split at h2
  ·exact bd _ _ _ (fun z w3 h3=>pr _ _ h3) h2
  ·exact pr _ _ h2
 ·exact pr _ _ h
/- what is quiet and a value yields it in every world of the class -/
theorem val_quiet {o:Oper} {a:Act} {w:World} {v:Value} (hv:isVal o=true) (h:o.quietAt P a C w v):(execOp a.eval o).run P w=.ok (.value v) w:=by
 unfold Oper.quietAt at h
 cases hr:(execOp a.eval o).run P w with
 | ok n w'=>
  obtain ⟨u,rfl⟩:=val_run hv hr
  rw [hr] at h
  obtain ⟨rfl,rfl⟩:=h
  rfl
 | halt x w'=>rw [hr] at h;cases h
theorem ext_run {o:Oper} {t:Operand} {ix:Nat} (ho:o.op=.extract t ix) (a:Act):((∃ v,∀ w,(execOp a.eval o).run P w=.ok (.value v) w)∨∃ s,∀ w,(execOp a.eval o).run P w=.halt (.stuck s) w)∧∀ w,((execOp a.eval o).runT P w #[]).2=#[]:=by
 have e:execOp a.eval o=(do pure (Next.value (← Instr.extract (a.eval t) ix))):=by unfold execOp;rw [ho]
 rw [e]
 unfold Instr.extract
 split
 ·split
  ·exact ⟨.inl ⟨_,fun w=>rfl⟩,fun w=>rfl⟩
  ·exact ⟨.inr ⟨_,fun w=>rfl⟩,fun w=>rfl⟩
 ·exact ⟨.inr ⟨_,fun w=>rfl⟩,fun w=>rfl⟩
def up (n k:Nat):Array Bool:=((List.range n).map fun i=>decide (i < k)).toArray
theorem up_size (n k:Nat):(up n k).size=n:=by simp [up]
theorem up_at {n k i:Nat} (h:i < n) (b:Bool):(up n k).getD i b=decide (i < k):=by simp [up,Array.getD,h]
theorem up_next {n k:Nat} (h:k < n):(up n k).setIfInBounds k true=up n (k+1):=by
 refine Array.ext (by simp [up]) fun i h1 h2=>?_
 simp [up] at h1 h2
 by_cases e:k=i
 ·subst e;simp [up]
 ·simp [up,Array.getElem_setIfInBounds,e]
  omega
theorem up_zero (n:Nat):Array.replicate n false=up n 0:=Array.ext (by simp [up]) fun i h1 h2=>by simp [up]
def barB (full:List Oper) (k:Nat):Bool:=(List.range full.length).all fun j=>decide (j≤k)||(List.range j).any fun i=>decide (k≤i)&&edgeB full j i
def isExt (o:Oper):Bool:=o.guard.isNone&&match o.op with | .extract ..=>true | _=>false
def stepOkB (full:List Oper) (j:Nat):Bool:=barB full j||(((full[j]?).map isExt).getD false&&Region.free .any full.toArray (up full.length j) j)
def readB (full:List Oper) (i:Nat):Bool:=((full[i]?).map isVal).getD false&&Region.free .any full.toArray (up full.length i) i
def mixOk (full:List Oper) (k m:Nat):Bool:=
 decide (k < full.length)&&(lexE full&&(Region.noSelect full.toArray&&((List.range k).all (readB full)&&((List.range full.length).all (fun j=>decide (j < m)||(List.range k).all fun i=>edgeB full j i)&&(List.range full.length).all (fun j=>decide (j < k)||stepOkB full j)))))
/- another end where all went well -/
def Qn (Q:Exit→Act→World→Prop) (K:Act→World→Prop):Exit→Act→World→Prop
 | .normal,a,w=>K a w
 | e,a,w=>Q e a w
def wpListC (P:Program) (ops:Array Oper) (Q:Exit→Act→World→Prop) (C:World→Prop) (m:Nat):Nat→List Oper→Act→World→Prop
 | _,[],a,w=>Q .normal a w
 | j,o::t,a,w=>wpList P ops (Qn Q fun a' w'=>(j < m→C w→C w')∧wpListC P ops Q C m (j+1) t a' w') [o] a w
theorem wp_monoQ {o:Oper} {a:Act} {w:World} {K K' L:Act→World→Prop} (h:∀ a w,K a w→K' a w) (hh:o.wp P a w K (Qn Q L)):o.wp P a w K' Q:=by
 unfold Oper.wp at *
 generalize (execOp a.eval o).run P w=r at *
 cases r with
 | ok n w'=>
  cases n<;>simp only [Oper.upon] at hh ⊢<;>
   first
    | exact h _ _ hh
    | exact Calls.mono hh (fun e w'' he=>by cases e<;>first | exact h _ _ he | exact he)
    | exact Rows.mono hh (fun _ _ he=>h _ _ he)
 | halt x w'=>cases x<;>simp only [Oper.upon] at hh ⊢<;>exact hh
/- from number m on: the walk as ever -/
theorem listC_late {ops:Array Oper}:∀ (t:List Oper) (j:Nat) (a:Act) (w:World),m≤j→wpList P ops Q t a w→wpListC P ops Q C m j t a w
 | [],_,_,_,_,h=>h
 | o::t,j,a,w,hj,h=>by
  unfold wpListC
  unfold wpList at h ⊢
  have go:∀ a' w',wpList P ops Q t a' w'→(Qn Q fun a' w'=>(j < m→C w→C w')∧wpListC P ops Q C m (j+1) t a' w') .normal a' w':=fun a' w' hh=>⟨fun q=>by omega,listC_late t (j+1) a' w' (by omega) hh⟩
  split
  ·rename_i hw
   rw [if_pos hw] at h
   rcases h with h | ⟨h1,a2,w2,h2⟩
   ·refine .inl ?_
    unfold Oper.wp at *
    generalize (execOp a.eval o).run P w=r at *
    cases r with
    | ok n w'=>
     cases n<;>simp only [Oper.upon] at h ⊢<;>
      first
       | exact go _ _ h
       | exact Calls.mono h (fun e w'' he=>by cases e<;>first | exact go _ _ he | exact he)
       | exact Rows.mono h (fun _ _ he=>go _ _ he)
    | halt x w'=>cases x<;>simp only [Oper.upon] at h ⊢<;>exact h
   ·exact .inr ⟨h1,a2,w2,h2⟩
  ·rename_i hw
   rw [if_neg hw] at h
   exact go _ _ h
theorem rdy_up {j:Nat} (hx:lexE full=true) (hj:j < full.length):j∈Region.ready .any full.toArray (up full.length j):=
 mem_rdy.2 ⟨hj,by rw [up_at hj];simp,fun i2 he=>by have:=(lex_lt hx he).1;rw [up_at (by omega)];simpa using this⟩
theorem free_up {i j:Nat} {oi oj:Oper} {listed:Array Bool} (hi:full[i]? =some oi) (h:Region.free .any full.toArray listed i=true) (hj:full[j]? =some oj) (hne:j≠i) (hun:listed.getD j true=false) (hno:edgeB full j i=false):oi.apart full.toArray oj=true:=by
 refine Region.free_spec (by rw [List.getElem?_toArray];exact hi) h j oj (by rw [List.getElem?_toArray];exact hj) hne hun (fun e he hb heq=>?_)
 have:edgeB full j i=true:=edge_iff.2 ⟨oj,hj,e,he,hb,heq⟩
 rw [hno] at this
 cases this
theorem mix_rest (hx:lexE full=true) (hs:Region.noSelect full.toArray=true) (hQ:∀ c a d v w,Q (.panic c) (Act.put a d v) w→Q (.panic c) a w):∀ (t:List Oper) (j:Nat) (a:Act) (w:World),full.drop j=t→(∀ i,j≤i→i < full.length→stepOkB full i=true)→wpListC P full.toArray Q C m j t a w→wpAnyU P full Q C m t.length (up full.length j) a w
 | [],j,a,w,ht,_,h=>by
  have hk:full.length≤j:=List.drop_eq_nil_iff.1 ht
  refine ⟨List.eq_nil_iff_forall_not_mem.2 fun i hi=>?_,h⟩
  obtain ⟨h1,h2,-⟩:=mem_rdy.1 hi
  rw [up_at h1] at h2
  simp at h2
  omega
 | o::t,j,a,w,ht,hst,h=>by
  have hj:j < full.length:=by
   rcases Nat.lt_or_ge j full.length with q | q
   ·exact q
   ·rw [List.drop_eq_nil_of_le q] at ht;cases ht
  have ho:full[j]? =some o:=by
   have:(full.drop j)[0]? =some o:=by rw [ht];rfl
   rw [List.getElem?_drop] at this
   simpa using this
  have ho':full.toArray[j]? =some o:=by rw [List.getElem?_toArray];exact ho
  have hr:=rdy_up hx hj
  have ht':full.drop (j+1)=t:=by rw [← List.drop_drop,ht];rfl
  have go:∀ a' w',wpListC P full.toArray Q C m (j+1) t a' w'→wpAnyU P full Q C m t.length (up full.length (j+1)) a' w':=fun a' w' hh=>mix_rest hx hs hQ t (j+1) a' w' ht' (fun i a b=>hst i (by omega) b) hh
  have hq:=hst j (Nat.le_refl _) hj
  unfold stepOkB at hq
  rw [Bool.or_eq_true] at hq
  unfold wpListC at h
  unfold wpList at h
  rcases hq with hq | hq
  ·have hall:∀ i,i∈Region.ready .any full.toArray (up full.length j)→i=j:=fun i hi=>by
    obtain ⟨h1,h2,h3⟩:=mem_rdy.1 hi
    rw [up_at h1] at h2
    simp at h2
    rcases Nat.lt_or_eq_of_le h2 with q | q
    ·exfalso
     unfold barB at hq
     rw [List.all_eq_true] at hq
     have c:=hq i (List.mem_range.2 h1)
     rw [Bool.or_eq_true,decide_eq_true_eq,List.any_eq_true] at c
     rcases c with c | ⟨i2,m1,c⟩
     ·omega
     ·rw [Bool.and_eq_true,decide_eq_true_eq] at c
      rw [List.mem_range] at m1
      have c2:=h3 i2 c.2
      rw [up_at (by omega)] at c2
      simp at c2
      omega
    ·exact q.symm
   refine ⟨fun h0=>(by rw [h0] at hr;cases hr),fun i hi=>?_⟩
   have e:=hall i hi
   subst e
   unfold wpOp
   simp only [ho']
   rw [up_next hj]
   split
   ·rename_i hw
    rw [if_pos hw] at h
    exact h.imp (wp_monoQ fun a' w' hh=>⟨hh.1,go _ _ hh.2⟩) id
   ·rename_i hw
    rw [if_neg hw] at h
    exact ⟨h.1,go _ _ h.2⟩
  ·rw [Bool.and_eq_true,ho] at hq
   obtain ⟨q1,q2⟩:=hq
   simp only [Option.map_some,Option.getD_some] at q1
   unfold isExt at q1
   rw [Bool.and_eq_true] at q1
   obtain ⟨g1,q1⟩:=q1
   have hg:o.guard=none:=by simpa using g1
   have hw:∀ t,Region.wanted o t=true:=fun t=>by simp [Region.wanted,hg]
   rw [if_pos (hw _)] at h
   split at q1
   ·rename_i tt ix heq
    obtain ⟨hrun,htr⟩:=ext_run (P:=P) heq a
    have h:=h.resolve_right (fun hh=>by have h1:=hh.1.1;rw [htr w] at h1;simp at h1)
    rcases hrun with ⟨v,hv⟩ | ⟨s,hv⟩
    ·unfold Oper.wp at h
     rw [hv w] at h
     simp only [Oper.upon] at h
     refine U_first (T:=fun _=>True) ho hs (fun c a w=>hQ c a o.dst v w) (fun _ _ _ _ _ _ _ _=>trivial) t.length (up full.length j) a w (fun j' oj hj' hne hun hno=>free_up ho q2 hj' hne hun hno) hr (by rw [up_size];exact hj) (.inl ⟨hw _,fun w _=>hv w⟩) trivial ?_
     rw [up_next hj]
     exact go _ _ h.2
    ·unfold Oper.wp at h
     rw [hv w] at h
     simp only [Oper.upon] at h
   ·cases q1
theorem mix_reads {k:Nat} (hk:k < full.length) (hx:lexE full=true) (hs:Region.noSelect full.toArray=true) (hQ:∀ c a d v w,Q (.panic c) (Act.put a d v) w→Q (.panic c) a w) (hrd:∀ i,i < k→readB full i=true) (hlt:∀ i j,i < k→m≤j→j < full.length→edgeB full j i=true) (hst:∀ i,k≤i→i < full.length→stepOkB full i=true):∀ (l:List Oper) (i:Nat) (a:Act) (w:World),(full.take k).drop i=l→i≤k→C w→wpQuiet P full.toArray C (fun a'=>wpListC P full.toArray Q C m k (full.drop k) a' w) l a→wpAnyU P full Q C m (full.length - i) (up full.length i) a w
 | [],i,a,w,hl,hi,hC,h=>by
  have hkl:(full.take k).length=k:=by rw [List.length_take];omega
  have:k≤i:=by have:=List.drop_eq_nil_iff.1 hl;omega
  have e:i=k:=by omega
  subst e
  have q:=mix_rest (P:=P) (C:=C) (m:=m) hx hs hQ (full.drop i) i a w rfl hst h
  rw [List.length_drop] at q
  exact q
 | o::l,i,a,w,hl,hi,hC,h=>by
  have hkl:(full.take k).length=k:=by rw [List.length_take];omega
  have hik:i < k:=by
   rcases Nat.lt_or_ge i k with q | q
   ·exact q
   ·rw [List.drop_eq_nil_of_le (by omega)] at hl;cases hl
  have ho:full[i]? =some o:=by
   have q:((full.take k).drop i)[0]? =some o:=by rw [hl];rfl
   rw [List.getElem?_drop,Nat.add_zero,take_at hik] at q
   exact q
  have hl':(full.take k).drop (i+1)=l:=by rw [← List.drop_drop,hl];rfl
  have hr:=rdy_up hx (show i < full.length by omega)
  have q:=hrd i hik
  unfold readB at q
  rw [Bool.and_eq_true,ho] at q
  simp only [Option.map_some,Option.getD_some] at q
  have main:∀ v,YieldsIf P full.toArray C o v a→wpQuiet P full.toArray C (fun a'=>wpListC P full.toArray Q C m k (full.drop k) a' w) l (a.put o.dst v)→wpAnyU P full Q C m (full.length - i) (up full.length i) a w:=fun v hy hn=>by
   have r:=mix_reads hk hx hs hQ hrd hlt hst l (i+1) (a.put o.dst v) w hl' (by omega) hC hn
   rw [show full.length - i=(full.length - (i+1))+1 by omega]
   refine U_first (T:=C) ho hs (fun c a w=>hQ c a o.dst v w) (fun j hj hne hno w w' hh hw=>?_) _ (up full.length i) a w (fun j' oj hj' hne hun hno=>free_up ho q.2 hj' hne hun hno) hr (by rw [up_size];omega) hy hC ?_
   ·refine hh ?_ hw
    rcases Nat.lt_or_ge j m with c | c
    ·exact c
    ·rw [hlt i j hik c hj] at hno;cases hno
   ·rw [up_next (by omega)]
    exact r
  unfold wpQuiet at h
  split at h
  ·rename_i hw
   obtain ⟨v,hv,hn⟩:=h
   exact main v (.inl ⟨hw,fun w hCw=>val_quiet q.1 (hv w hCw)⟩) hn
  ·rename_i hw
   exact main undef (.inr ⟨by simpa using hw,rfl⟩) h
theorem regionMix {id : Nat} {a : Act} (W : World) (C : World → Prop) (k m : Nat) (hm : P.follows .mixedOrders = true) (hO : mixOk full k m = true) (hQ : ∀ c a d v w, Q (.panic c) (Act.put a d v) w → Q (.panic c) a w) (hC : C W.drew)
  (h:wpQuiet P full.toArray C (fun a'=>wpListC P full.toArray Q C m k (full.drop k) a' W.drew) (full.take k) a):(Code.region id full.toArray true).wp P Q a W:=by
 unfold mixOk at hO
 simp only [Bool.and_eq_true,decide_eq_true_eq,List.all_eq_true,List.mem_range,Bool.or_eq_true] at hO
 obtain ⟨o1,o2,o3,o4,o5,o6⟩:=hO
 refine wp_region_any hm (any_of_U (C:=C) (m:=m) _ _ _ _ ?_)
 have q:=mix_reads (P:=P) (Q:=Q) (C:=C) (m:=m) o1 o2 o3 hQ o4 (fun i j h1 h2 h3=>by rcases o5 j h3 with c | c;omega;exact c i h1) (fun i h1 h2=>by rcases o6 i h2 with c | c;omega;exact c) (full.take k) 0 a { W with drawn:=W.drawn+1 } rfl (by omega) hC h
 rw [← up_zero] at q
 simpa using q
/- a world that has all that W has, but for what may be in block g, and perhaps more -/
structure ExtN (W:World) (g:Option Nat) where
 w:World
 os:w.os=W.os
 tape:w.tape=W.tape
 out:w.output=W.output
 size:W.heap.size≤w.heap.size
 blk:∀ b,b < W.heap.size→g≠some b→w.heap[b]? =W.heap[b]?
def CN (W:World) (g:Option Nat) (w':World):Prop:=∃ x:ExtN W g,w'=x.w
theorem CN.drew (W:World) (g:Option Nat):CN W g W.drew:=⟨⟨W.drew,rfl,rfl,rfl,Nat.le_refl _,fun _ _ _=>rfl⟩,rfl⟩
theorem extN_ne (W:World) (g:Option Nat):Nonempty (ExtN W g):=⟨⟨W,rfl,rfl,rfl,Nat.le_refl _,fun _ _ _=>rfl⟩⟩
theorem ExtN.fit {W:World} {g:Option Nat} {b o:Nat} {v:Value} (h:W.cell? ⟨b,o,none⟩=some v) (hb:b < W.heap.size) (hg:g≠some b):∀ x:ExtN W g,x.w.cell? ⟨b,o,none⟩=some v:=fun x=>(World.cell?_of_block (w:=W) (x.blk b hb hg)).trans h
theorem CN.on {W:World} {g:Option Nat} {w w':World} (h:CN W g w) (h1:w'.os=w.os) (h2:w'.tape=w.tape) (h3:w'.output=w.output) (h4:w.heap.size≤w'.heap.size) (h5:∀ b,b < w.heap.size→g≠some b→w'.heap[b]? =w.heap[b]?):CN W g w':=by
 obtain ⟨x,rfl⟩:=h
 exact ⟨⟨w',h1.trans x.os,h2.trans x.tape,h3.trans x.out,Nat.le_trans x.size h4,fun b hb hg=>(h5 b (Nat.lt_of_lt_of_le hb x.size) hg).trans (x.blk b hb hg)⟩,rfl⟩
theorem CN.below {W:World} {g:Option Nat} {w w':World} (h:CN W g w) (hb:Below w.heap.size w w'):CN W g w':=h.on hb.os hb.tape hb.output hb.size (fun b h1 _=>hb.block b h1)
theorem CN.grown {W:World} {g:Option Nat} {w w':World} (h:CN W g w) (hb:w.grownBy w' g):CN W g w':=h.on hb.os hb.tape hb.output hb.size (fun b h1 h2=>hb.block b h1 (fun e=>h2 e.symm))
/- the same, several blocks left out -/
structure ExtP (W:World) (E:Nat→Prop) where
 w:World
 os:w.os=W.os
 tape:w.tape=W.tape
 out:w.output=W.output
 size:W.heap.size≤w.heap.size
 blk:∀ b,b < W.heap.size→¬ E b→w.heap[b]? =W.heap[b]?
def CP (W:World) (E:Nat→Prop) (w':World):Prop:=∃ x:ExtP W E,w'=x.w
theorem CP.drew (W:World) (E:Nat→Prop):CP W E W.drew:=⟨⟨W.drew,rfl,rfl,rfl,Nat.le_refl _,fun _ _ _=>rfl⟩,rfl⟩
theorem extP_ne (W:World) (E:Nat→Prop):Nonempty (ExtP W E):=⟨⟨W,rfl,rfl,rfl,Nat.le_refl _,fun _ _ _=>rfl⟩⟩
theorem ExtP.fit {W:World} {E:Nat→Prop} {b o:Nat} {v:Value} (h:W.cell? ⟨b,o,none⟩=some v) (hb:b < W.heap.size) (hg:¬ E b):∀ x:ExtP W E,x.w.cell? ⟨b,o,none⟩=some v:=fun x=>(World.cell?_of_block (w:=W) (x.blk b hb hg)).trans h
theorem CP.on {W:World} {E:Nat→Prop} {w w':World} (h:CP W E w) (h1:w'.os=w.os) (h2:w'.tape=w.tape) (h3:w'.output=w.output) (h4:w.heap.size≤w'.heap.size) (h5:∀ b,b < w.heap.size→¬ E b→w'.heap[b]? =w.heap[b]?):CP W E w':=by
 obtain ⟨x,rfl⟩:=h
 exact ⟨⟨w',h1.trans x.os,h2.trans x.tape,h3.trans x.out,Nat.le_trans x.size h4,fun b hb hg=>(h5 b (Nat.lt_of_lt_of_le hb x.size) hg).trans (x.blk b hb hg)⟩,rfl⟩
theorem CP.below {W:World} {E:Nat→Prop} {w w':World} (h:CP W E w) (hb:Below w.heap.size w w'):CP W E w':=h.on hb.os hb.tape hb.output hb.size (fun b h1 _=>hb.block b h1)
end
end Go.Proofs.YtkhjhibigldcgaaGreat
