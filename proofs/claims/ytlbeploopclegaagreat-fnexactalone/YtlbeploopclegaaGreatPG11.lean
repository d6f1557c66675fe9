/- The model of a step of a machine that is right, and what being right tells of the core that goes on. No condition. A region that draws its order, whose first operations only read and whose others come one behind the other: one walk of the first ones, in the order of the text, and then the others. No condition. A region that draws its order: first operations that only read, as long as the world stays in a class; then such as keep the class, one behind the other; then such as wait for all that was read. One walk, in the order of the text. No condition. Rows of code and of cores that a call has made: owned whole, so that more may be put behind them. No condition. Append of steps onto an empty row, and of a row of steps onto rows of them. Conditions: fewer than 2^30 of them. Append of a core onto a row of them. Conditions: fewer than 2^30 of them. Rows of code copied by the program and by the specification. Conditions: they are counted. -/
import Derived.Test.YtlbeploopclegaaGreatPG00
import Derived.Test.YtlbeploopclegaaGreatPG07
import Derived.Test.YtlbeploopclegaaGreatPG01
import Derived.Test.YtlbeploopclegaaGreatPMemOk
import Derived.Test.YtlbeploopclegaaGreatPG03
import Derived.Test.YtlbeploopclegaaGreatPG06
import Derived.Test.YtlbeploopclegaaGreatPKOkB
import Derived.Test.YtlbeploopclegaaGreatPG08
import Derived.Test.YtlbeploopclegaaGreatPMemStore
import Derived.OrdersHeld
import Derived.Test.YtlbeploopclegaaGreatPG04
import Derived.Test.YtlbeploopclegaaGreatPG05
namespace Go.Proofs.YtlbeploopclegaaGreat
section
set_option linter.unusedSimpArgs false
set_option linter.unusedVariables false
set_option maxRecDepth 100000
open Go.RowKit
def wI (x:Int):Int:=IntKind.i64.wrap x
def regA (k:KD) (i:Int):Int:=k.regs.getD i.toNat 0
def setR (k:KD) (r v:Int):KD:={ k with regs:=k.regs.set r.toNat v }
def putK (d:MD) (who:Nat) (k:KD):MD:={ d with cores:=d.cores.set who k }
/- the cell that a step names -/
def cellM (k:KD) (s:I5):Int:=if s.o≠8∧0≤s.a then wI (s.n+regA k s.a) else s.n
def ldJ (m:List (List WD)) (l:List Int) (c:Nat) (late:Int):Nat:=(mx (l.getD c 0) (((m.getD c []).length:Int) - 1 - mx late 0)).toNat
def ldX (m:List (List WD)) (l:List Int) (c:Nat) (late:Int):WD:=(m.getD c []).getD (ldJ m l c late) ⟨0,[]⟩
def ldW (m:List (List WD)) (l:List Int) (c:Nat) (late:Int) (hold:Bool):List Int:=if hold=true then joinL (l.set c (ldJ m l c late)) (ldX m l c late).vw else l.set c (ldJ m l c late)
def stM (m:List (List WD)) (l:List Int) (c:Nat) (z:Int) (b:Bool):List (List WD):=m.set c (m.getD c []++[⟨z,toldL l c (m.getD c []).length b⟩])
def stW (m:List (List WD)) (l:List Int) (c:Nat):List Int:=l.set c ((m.getD c []).length:Int)
/- where a core goes on; beyond its code it faults -/
def goM (d:MD) (who:Nat) (k:KD) (n:Nat) (p:Int):MD:=if p < (n:Int) then putK d who { k with pc:=p } else putK d who { k with st:=2 }
def memS (d:MD) (late:Int) (k:KD) (s:I5) (c:Nat):MD×KD:=
 if s.o=5 then (d,{ k with regs:=k.regs.set s.r.toNat (ldX d.mem k.vw c late).v,vw:=ldW d.mem k.vw c late false })
 else if s.o=8 then ({ d with mem:=stM d.mem (ldW d.mem k.vw c 0 true) c (regA k s.b) true },{ k with regs:=k.regs.set s.r.toNat (ldX d.mem k.vw c 0).v,vw:=stW d.mem (ldW d.mem k.vw c 0 true) c })
 else ({ d with mem:=stM d.mem k.vw c (regA k s.b) (decide (s.o=7)) },{ k with vw:=stW d.mem k.vw c })
def stepAt (d:MD) (who:Nat) (late:Int) (k:KD) (n:Nat) (s:I5):MD×Int:=
 if s.o=1 then (goM d who (setR k s.r s.n) n (k.pc+1),0)
 else if s.o=2 then (goM d who (setR k s.r (wI (regA k s.a+regA k s.b))) n (k.pc+1),0)
 else if s.o=3 then (goM d who (setR k s.r (wI (regA k s.a - regA k s.b))) n (k.pc+1),0)
 else if s.o=4 then (goM d who (setR k s.r (if regA k s.a < regA k s.b then 1 else 0)) n (k.pc+1),0)
 else if s.o=9 then (if d.tr.length=4000 then (d,3) else (goM { d with tr:=d.tr++[⟨who,regA k s.a⟩] } who k n (k.pc+1),0))
 else if s.o=10 then (goM d who k n s.n,0)
 else if s.o=11 then (goM d who k n (if regA k s.a=0 then s.n else k.pc+1),0)
 else if s.o=12 then (putK d who { k with st:=1 },0)
 else if s.o=13 then (putK d who { k with st:=2 },0)
 else if 0≤cellM k s∧cellM k s≤23 then
  (if s.o≠5∧(d.mem.getD (cellM k s).toNat []).length=4000 then (d,3)
   else (goM (memS d late k s (cellM k s).toNat).1 who (memS d late k s (cellM k s).toNat).2 n (k.pc+1),0))
 else (putK d who { k with st:=2 },0)
/- a step by a pick: 2: nobody such, 3: it does not run -/
def stepM (d:MD) (who late:Int):MD×Int:=
 if 0≤who∧who < (d.cores.length:Int) then
  (match d.cores[who.toNat]?,d.codes[who.toNat]? with
   | some k,some code=>if k.st=0 then stepAt d who.toNat late k code.length (code.getD k.pc.toNat z5) else (d,3)
   | _,_=>(d,3))
 else (d,2)
/- what a right machine tells of a core -/
structure At8 (d:MD) (who:Nat) (k:KD) (code:List I5) (s:I5):Prop where
 hk:d.cores[who]? =some k
 hc:d.codes[who]? =some code
 hs:code[k.pc.toNat]? =some s
 hz:code.getD k.pc.toNat z5=s
 pc0:0≤k.pc
 pcl:k.pc < (code.length:Int)
 n1:1≤code.length
 n8:code.length≤800
 regs:k.regs.length=8
 vw:viewB d.mem k.vw=true
 st0:0≤k.st
 st2:k.st≤2
 ok:stX s code.length=true
 mem:memB d.mem=true
 tr:d.tr.length≤4000
theorem mach_len {d:MD} (h:machB d=true):d.cores.length=d.codes.length:=by
 unfold machB coresB at h
 simp only [Bool.and_eq_true,decide_eq_true_eq] at h
 exact h.2.1.1
theorem mach_at {d:MD} (h:machB d=true) {who:Nat} (hw:who < d.cores.length):∃ k code s,At8 d who k code s:=by
 have hl:=mach_len h
 unfold machB at h
 rw [Bool.and_eq_true,Bool.and_eq_true,Bool.and_eq_true] at h
 obtain ⟨hc,hk,ht,hm⟩:=h
 obtain ⟨k,ek⟩:∃ k,d.cores[who]? =some k:=⟨_,List.getElem?_eq_getElem hw⟩
 obtain ⟨code,ec⟩:∃ c,d.codes[who]? =some c:=⟨_,List.getElem?_eq_getElem (by omega)⟩
 have hz:(d.cores.zip d.codes)[who]? =some (k,code):=by rw [List.getElem?_zip_eq_some];exact ⟨ek,ec⟩
 unfold coresB at hk
 rw [Bool.and_eq_true,List.all_eq_true] at hk
 have q:=hk.2 _ (List.mem_of_getElem? hz)
 unfold coreB at q
 simp only [Bool.and_eq_true,decide_eq_true_eq] at q
 obtain ⟨q1,q2,q3,q4⟩:=q
 have cb:codeB code=true:=by
  unfold codesB at hc
  rw [Bool.and_eq_true,List.all_eq_true] at hc
  exact hc.2 _ (List.mem_of_getElem? ec)
 unfold codeB at cb
 simp only [Bool.and_eq_true,decide_eq_true_eq] at cb
 obtain ⟨c1,c2,-⟩:=cb
 unfold Plain.oneB at q3
 unfold Plain.inB at q2
 rw [decide_eq_true_eq] at q2 q3
 have hp:k.pc.toNat < code.length:=by omega
 obtain ⟨s,es⟩:∃ s,code[k.pc.toNat]? =some s:=⟨_,List.getElem?_eq_getElem hp⟩
 have ez:code.getD k.pc.toNat z5=s:=by rw [List.getD_eq_getElem?_getD,es];rfl
 have hs:=c1 _ hp
 rw [ez] at hs
 unfold trB at ht
 rw [Bool.and_eq_true,decide_eq_true_eq] at ht
 exact ⟨k,code,s,ek,ec,es,ez,q3.1,q3.2,c2.1,c2.2,q1,q4,q2.1,q2.2,hs,hm,ht.1⟩
theorem stepM_at {d:MD} {who:Nat} {k:KD} {code:List I5} {s:I5} (h:At8 d who k code s) (late:Int) (hr:k.st=0):stepM d who late=stepAt d who late k code.length s:=by
 have hw:who < d.cores.length:=by
  have:=h.hk
  rw [List.getElem?_eq_some_iff] at this
  exact this.1
 unfold stepM
 rw [if_pos (by omega),Int.toNat_natCast,h.hk,h.hc]
 show (if k.st=0 then _ else _)=_
 rw [if_pos hr,h.hz]
theorem stepM_over {d:MD} {who:Nat} {k:KD} {code:List I5} {s:I5} (h:At8 d who k code s) (late:Int) (hr:¬ k.st=0):stepM d who late=(d,3):=by
 have hw:who < d.cores.length:=by
  have:=h.hk
  rw [List.getElem?_eq_some_iff] at this
  exact this.1
 unfold stepM
 rw [if_pos (by omega),Int.toNat_natCast,h.hk,h.hc]
 show (if k.st=0 then _ else _)=_
 rw [if_neg hr]
theorem stepM_none {d:MD} {who:Int} (late:Int) (h:¬ (0≤who∧who < (d.cores.length:Int))):stepM d who late=(d,2):=by
 unfold stepM
 rw [if_neg h]
end
section
set_option linter.unusedSimpArgs false
set_option linter.unusedVariables false
set_option maxRecDepth 100000
open Go.RowKit
def edgeB (full:List Oper) (i' i:Nat):Bool:=(full[i']?.map fun x=>x.after.any fun e=>Region.binds .any e&&e.on==i).getD false
def lexE (full:List Oper):Bool:=(List.range full.length).all fun i=>(full[i]?.map fun x=>x.after.all fun e=>!Region.binds .any e||decide (e.on < i)).getD true
/- whatever is ahead of number j is listed when j may come up -/
def covB (full:List Oper) (j:Nat):Bool:=(List.range j).all fun i=>(List.range (j+1)).any fun i'=>decide (i < i')&&edgeB full i' i
def sufOk (full:List Oper) (k:Nat):Bool:=lexE full&&((List.range full.length).all fun j=>decide (j < k)||covB full j)
theorem edge_iff {full:List Oper} {i' i:Nat}:edgeB full i' i=true↔∃ x,full[i']? =some x∧∃ e∈x.after,Region.binds .any e=true∧e.on=i:=by
 unfold edgeB
 cases h:full[i']? with
 | none=>simp
 | some x=>
  simp only [Option.map_some,Option.getD_some,Array.any_eq_true',Bool.and_eq_true,beq_iff_eq]
  constructor
  ·rintro ⟨e,h1,h2,h3⟩;exact ⟨x,rfl,e,h1,h2,h3⟩
  ·rintro ⟨y,hy,e,h1,h2,h3⟩;injection hy with hy;subst hy;exact ⟨e,h1,h2,h3⟩
theorem mem_rdy {full:List Oper} {listed:Array Bool} {i:Nat}:i∈Region.ready .any full.toArray listed↔i < full.length∧listed.getD i true=false∧∀ i2,edgeB full i i2=true→listed.getD i2 false=true:=by
 unfold Region.ready
 rw [List.mem_filter,List.mem_range,Bool.and_eq_true,Bool.not_eq_true',List.size_toArray,List.getElem?_toArray]
 refine and_congr_right fun hi=>and_congr_right fun _=>?_
 rw [List.getElem?_eq_getElem hi]
 simp only [Option.map_some,Option.getD_some,Array.all_eq_true',Bool.or_eq_true,Bool.not_eq_true']
 constructor
 ·intro h i2 h2
  rw [edge_iff] at h2
  obtain ⟨x,hx,e,he,hb,rfl⟩:=h2
  rw [List.getElem?_eq_getElem hi] at hx
  injection hx with hx
  subst hx
  rcases h e he with h | h
  ·rw [hb] at h;cases h
  ·exact h
 ·intro h e he
  cases hb:Region.binds .any e with
  | false=>exact .inl rfl
  | true=>exact .inr (h e.on (edge_iff.2 ⟨_,List.getElem?_eq_getElem hi,e,he,hb,rfl⟩))
/- what is listed was waited for -/
def Down (full:List Oper) (listed:Array Bool):Prop:=∀ i i2,i < full.length→listed.getD i true=true→edgeB full i i2=true→listed.getD i2 false=true
theorem lex_lt {full:List Oper} (h:lexE full=true) {i i2:Nat} (he:edgeB full i i2=true):i2 < i∧i < full.length:=by
 rw [edge_iff] at he
 obtain ⟨x,hx,e,hm,hb,rfl⟩:=he
 have hi:=(List.getElem?_eq_some_iff.1 hx).1
 unfold lexE at h
 rw [List.all_eq_true] at h
 have q:=h i (List.mem_range.2 hi)
 rw [hx] at q
 simp only [Option.map_some,Option.getD_some,Array.all_eq_true',Bool.or_eq_true,Bool.not_eq_true'] at q
 rcases q e hm with q | q
 ·rw [hb] at q;cases q
 ·exact ⟨by simpa using q,hi⟩
theorem getD_in {listed:Array Bool} {i:Nat} (h:i < listed.size) (b c:Bool):listed.getD i b=listed.getD i c:=by simp [Array.getD,h]
theorem down_set {full:List Oper} {listed:Array Bool} (hs:listed.size=full.length) (hd:Down full listed) (hx:lexE full=true) {k:Nat} (hk:k∈Region.ready .any full.toArray listed):Down full (listed.setIfInBounds k true):=fun i i2 hi hl he=>by
 have h2:=lex_lt hx he
 have q:listed.getD i2 false=true:=by
  by_cases e:i=k
  ·subst e
   exact (mem_rdy.1 hk).2.2 i2 he
  ·refine hd i i2 hi ?_ he
   have:i < listed.size:=by omega
   simpa [Array.getD,this,Array.getElem_setIfInBounds,Ne.symm e] using hl
 have:i2 < listed.size:=by omega
 by_cases e:k=i2
 ·subst e;simp [Array.getD,this]
 ·simp only [Array.getD,this,dif_pos] at q
  simp [Array.getD,this,Array.getElem_setIfInBounds,e]
  exact q
theorem cov_all {full:List Oper} {listed:Array Bool} (hs:listed.size=full.length) (hd:Down full listed) {j:Nat} (hj:j < full.length) (hc:covB full j=true) (hr:∀ i2,edgeB full j i2=true→listed.getD i2 false=true):∀ n i,j - i≤n→i < j→listed.getD i false=true:=by
 intro n
 induction n with
 | zero=>intro i h1 h2;omega
 | succ n ih=>
  intro i h1 h2
  unfold covB at hc
  rw [List.all_eq_true] at hc
  have q:=hc i (List.mem_range.2 h2)
  rw [List.any_eq_true] at q
  obtain ⟨i',hm,q⟩:=q
  rw [List.mem_range] at hm
  rw [Bool.and_eq_true,decide_eq_true_eq] at q
  by_cases e:i'=j
  ·subst e;exact hr i q.2
  ·have:=ih i' (by omega) (by omega)
   exact hd i' i (by omega) (by rw [getD_in (by omega) true false];exact this) q.2
theorem rdy_some {full:List Oper} (hx:lexE full=true) {listed:Array Bool} (hs:listed.size=full.length):∀ (k:Nat),k < full.length→listed.getD k true=false→∃ i,i≤k∧i∈Region.ready .any full.toArray listed:=by
 intro k
 induction k using Nat.strongRecOn with
 | ind k ih=>
  intro hk hf
  by_cases h:∃ j,j < k∧listed.getD j true=false
  ·obtain ⟨j,h1,h2⟩:=h
   obtain ⟨i,h3,h4⟩:=ih j h1 (by omega) h2
   exact ⟨i,by omega,h4⟩
  ·refine ⟨k,Nat.le_refl _,mem_rdy.2 ⟨hk,hf,fun i2 he=>?_⟩⟩
   have h2:=lex_lt hx he
   have hn:¬ listed.getD i2 true=false:=fun hh=>h ⟨i2,h2.1,hh⟩
   rw [getD_in (by omega) false true]
   simpa using hn
/- all below k are listed, none from k on -/
def Upto (n:Nat) (listed:Array Bool) (k:Nat):Prop:=listed.size=n∧(∀ i,i < k→i < n→listed.getD i true=true)∧∀ i,k≤i→i < n→listed.getD i true=false
theorem Upto.next {n k:Nat} {listed:Array Bool} (h:Upto n listed k) (hk:k < n):Upto n (listed.setIfInBounds k true) (k+1):=by
 obtain ⟨h1,h2,h3⟩:=h
 refine ⟨by simpa using h1,fun i a b=>?_,fun i a b=>?_⟩
 ·have hi:i < listed.size:=by omega
  by_cases e:k=i
  ·subst e;simp [Array.getD,hi]
  ·have q:=h2 i (by omega) b
   simp only [Array.getD,hi,dif_pos] at q
   simp [Array.getD,hi,Array.getElem_setIfInBounds,e]
   exact q
 ·have hi:i < listed.size:=by omega
  have q:=h3 i (by omega) b
  simp only [Array.getD,hi,dif_pos] at q
  simp [Array.getD,hi,Array.getElem_setIfInBounds,show ¬ k=i by omega]
  exact q
theorem forced {P:Program} {Q:Exit→Act→World→Prop} {full:List Oper} (hx:lexE full=true):∀ (t:List Oper) (k:Nat) (listed:Array Bool) (a:Act) (w:World),full.drop k=t→(∀ j,k≤j→j < full.length→covB full j=true)→Down full listed→Upto full.length listed k→wpList P full.toArray Q t a w→wpAny P .any full.toArray Q t.length listed a w
 | [],k,listed,a,w,ht,hc,hd,hu,h=>by
  have hk:full.length≤k:=List.drop_eq_nil_iff.1 ht
  refine ⟨List.eq_nil_iff_forall_not_mem.2 fun i hi=>?_,h⟩
  obtain ⟨h1,h2,-⟩:=mem_rdy.1 hi
  rw [hu.2.1 i (by omega) h1] at h2
  cases h2
 | o::t,k,listed,a,w,ht,hc,hd,hu,h=>by
  have hk:k < full.length:=by
   rcases Nat.lt_or_ge k full.length with q | q
   ·exact q
   ·rw [List.drop_eq_nil_of_le q] at ht;cases ht
  have ho:full[k]? =some o:=by
   have:(full.drop k)[0]? =some o:=by rw [ht];rfl
   rw [List.getElem?_drop] at this
   simpa using this
  have hall:∀ i,i∈Region.ready .any full.toArray listed→i=k:=fun i hi=>by
   obtain ⟨h1,h2,h3⟩:=mem_rdy.1 hi
   rcases Nat.lt_trichotomy i k with q | q | q
   ·rw [hu.2.1 i q h1] at h2;cases h2
   ·exact q
   ·have c:=cov_all hu.1 hd h1 (hc i (by omega) h1) h3 i k (by omega) q
    have c2:=hu.2.2 k (Nat.le_refl _) hk
    rw [getD_in (by have:=hu.1;omega) true false,c] at c2
    cases c2
  refine ⟨fun h0=>?_,fun i hi=>?_⟩
  ·obtain ⟨i,-,hi⟩:=rdy_some hx hu.1 k hk (hu.2.2 k (Nat.le_refl _) hk)
   rw [h0] at hi
   cases hi
  ·have e:=hall i hi
   subst e
   unfold wpList at h
   unfold wpOp
   have ho2:full.toArray[i]? =some o:=by rw [List.getElem?_toArray];exact ho
   have hd2:=down_set hu.1 hd hx hi
   have go:∀ a' w',wpList P full.toArray Q t a' w'→wpAny P .any full.toArray Q t.length (listed.setIfInBounds i true) a' w':=fun a' w' hh=>forced hx t (i+1) _ a' w' (by rw [← List.drop_drop,ht];rfl) (fun j a b=>hc j (by omega) b) hd2 (hu.next hk) hh
   simp only [ho2]
   split
   ·rename_i hw
    rw [if_pos hw] at h
    exact h.imp (Oper.wp_mono go) id
   ·rename_i hw
    rw [if_neg hw] at h
    exact go _ _ h
theorem take_at {full:List Oper} {k i:Nat} (h:i < k):(full.take k)[i]? =full[i]? :=by rw [List.getElem?_take];simp [h]
theorem edge_take {full:List Oper} {k i i2:Nat} (h:i < k):edgeB (full.take k) i i2=edgeB full i i2:=by unfold edgeB;rw [take_at h]
/- the first k in whatever order, then the others -/
theorem suf_conv {P : Program} {Q : Exit → Act → World → Prop} {C : World → Prop} {Qa : Act → Prop} {full : List Oper} {k : Nat} (hk : k < full.length) (hx : lexE full = true) (hc : ∀ j, k ≤ j → j < full.length → covB full j = true) (hy : ∀ i x, i < k → full[i]? = some x → ∀ t : Array Value, Region.wanted x (yielded (full.take k).toArray t) = Region.wanted x (yielded full.toArray t))
  (hQ:∀ a w,C w→Qa a→wpList P full.toArray Q (full.drop k) a w):
  ∀ (fuel:Nat) (l1 listed:Array Bool) (a:Act) (w:World),listed.size=full.length→l1.size=k→(∀ i,i < k→l1.getD i true=listed.getD i true)→(∀ i,k≤i→i < full.length→listed.getD i true=false)→Down full listed→C w→wpAnyQ P .any (full.take k).toArray C Qa fuel l1 a→wpAny P .any full.toArray Q (fuel+(full.length - k)) listed a w:=by
 have hl:(full.take k).length=k:=by rw [List.length_take];omega
 have hx1:lexE (full.take k)=true:=by
  unfold lexE at hx ⊢
  rw [List.all_eq_true] at hx ⊢
  intro i hi
  rw [List.mem_range,hl] at hi
  rw [take_at hi]
  exact hx i (List.mem_range.2 (by omega))
 have fin:∀ (fuel:Nat) (l1 listed:Array Bool) (a:Act) (w:World),listed.size=full.length→l1.size=k→(∀ i,i < k→l1.getD i true=listed.getD i true)→(∀ i,k≤i→i < full.length→listed.getD i true=false)→Down full listed→Region.ready .any (full.take k).toArray l1=[]→wpList P full.toArray Q (full.drop k) a w→wpAny P .any full.toArray Q (fuel+(full.length - k)) listed a w:=by
  intro fuel l1 listed a w hs h1 hsame hun hd h0 hw
  have hup:Upto full.length listed k:=by
   refine ⟨hs,fun i a1 a2=>?_,hun⟩
   rw [← hsame i a1]
   cases hb:l1.getD i true with
   | true=>rfl
   | false=>
    obtain ⟨i',-,hi'⟩:=rdy_some hx1 (by omega) i (by omega) hb
    rw [h0] at hi'
    cases hi'
  have q:=forced (P:=P) (Q:=Q) hx (full.drop k) k listed a w rfl hc hd hup hw
  have mono:∀ (n:Nat) (f:Nat) (l:Array Bool) (a:Act) (w:World),wpAny P .any full.toArray Q f l a w→wpAny P .any full.toArray Q (n+f) l a w:=by
   intro n f
   induction f with
   | zero=>
    intro l a w h
    cases n with
    | zero=>exact h
    | succ n=>exact ⟨fun _=>h.2,by rw [h.1];simp⟩
   | succ f ih=>intro l a w h;exact ⟨h.1,fun i hi=>wpOp_mono (fun a' w' hh=>ih _ a' w' hh) (h.2 i hi)⟩
  have e:(full.drop k).length=full.length - k:=List.length_drop
  rw [e] at q
  exact mono fuel _ _ _ _ q
 intro fuel
 induction fuel with
 | zero=>
  intro l1 listed a w hs h1 hsame hun hd hC h
  exact fin 0 l1 listed a w hs h1 hsame hun hd h.1 (hQ a w hC h.2)
 | succ fuel ih=>
  intro l1 listed a w hs h1 hsame hun hd hC h
  by_cases h0:Region.ready .any (full.take k).toArray l1=[]
  ·exact fin (fuel+1) l1 listed a w hs h1 hsame hun hd h0 (hQ a w hC (h.1 h0))
  ·rw [show fuel+1+(full.length - k)=(fuel+(full.length - k))+1 by omega]
   have hlt:∀ i,i∈Region.ready .any full.toArray listed→i < k:=fun i hi=>by
    rcases Nat.lt_or_ge i k with q | q
    ·exact q
    ·exfalso
     obtain ⟨a1,a2,a3⟩:=mem_rdy.1 hi
     apply h0
     refine List.eq_nil_iff_forall_not_mem.2 fun j hj=>?_
     obtain ⟨b1,b2,-⟩:=mem_rdy.1 hj
     rw [hl] at b1
     have c:=cov_all hs hd a1 (hc i q a1) a3 i j (by omega) (by omega)
     rw [hsame j b1,getD_in (by omega) true false,c] at b2
     cases b2
   refine ⟨fun hn=>?_,fun i hi=>?_⟩
   ·obtain ⟨i,-,hi⟩:=rdy_some hx hs k hk (hun k (Nat.le_refl _) hk)
    rw [hn] at hi
    cases hi
   ·have hik:=hlt i hi
    obtain ⟨a1,a2,a3⟩:=mem_rdy.1 hi
    have hi1:i∈Region.ready .any (full.take k).toArray l1:=by
     refine mem_rdy.2 ⟨by omega,by rw [hsame i hik];exact a2,fun i2 he=>?_⟩
     rw [edge_take hik] at he
     have:=(lex_lt hx he).1
     rw [getD_in (by omega) false true,hsame i2 (by omega),getD_in (by omega) true false]
     exact a3 i2 he
    have hq:=h.2 i hi1
    obtain ⟨o,ho⟩:∃ o,full[i]? =some o:=⟨_,List.getElem?_eq_getElem a1⟩
    have hq':qOp P full.toArray C i (wpAnyQ P .any (full.take k).toArray C Qa fuel (l1.setIfInBounds i true)) a:=by
     unfold qOp at hq ⊢
     rw [List.getElem?_toArray] at hq ⊢
     rw [take_at hik,ho] at hq
     rw [ho]
     simp only at hq ⊢
     rw [hy i o hik ho] at hq
     exact hq
    refine wpOp_of_qOp hC (fun a' w' hC' hk'=>ih _ _ a' w' (by simpa using hs) (by simpa using h1) (fun j hj=>?_) (fun j b1 b2=>?_) (down_set hs hd hx hi) hC' hk') hq'
    ·have j1:j < l1.size:=by omega
     have j2:j < listed.size:=by omega
     have q:=hsame j hj
     simp only [Array.getD,j1,j2,dif_pos] at q
     by_cases e:i=j
     ·subst e;simp [Array.getD,j1,j2]
     ·simp [Array.getD,j1,j2,Array.getElem_setIfInBounds,e]
      exact q
    ·have j2:j < listed.size:=by omega
     have q:=hun j b1 b2
     simp only [Array.getD,j2,dif_pos] at q
     simp [Array.getD,j2,Array.getElem_setIfInBounds,show ¬ i=j by omega]
     exact q
/- no guard among the first k looks beyond them -/
def grdB (full:List Oper) (k:Nat):Bool:=(full.take k).all fun x=>match x.guard with | some (g,_)=>decide (g < k) | none=>true
theorem regionSuf {P : Program} {id : Nat} {Q : Exit → Act → World → Prop} {a : Act} (W : World) {full : List Oper} (k : Nat) (hk : decide (k < full.length) = true) (hm : P.follows .mixedOrders = true) (hB : Region.lexB .any (full.take k).toArray = true) (hS : sufOk full k = true) (hG : grdB full k = true)
  (h:wpQuiet P (full.take k).toArray (fun w'=>∃ x:Ext W,w'=x.w) (fun a'=>∀ w',(∃ x:Ext W,w'=x.w)→wpList P full.toArray Q (full.drop k) a' w') (full.take k) a):(Code.region id full.toArray true).wp P Q a W:=by
 rw [decide_eq_true_eq] at hk
 unfold sufOk at hS
 rw [Bool.and_eq_true,List.all_eq_true] at hS
 obtain ⟨hx,hc⟩:=hS
 have hc':∀ j,k≤j→j < full.length→covB full j=true:=fun j a1 a2=>by
  have q:=hc j (List.mem_range.2 a2)
  rw [Bool.or_eq_true,decide_eq_true_eq] at q
  rcases q with q | q
  ·omega
  ·exact q
 have hl:(full.take k).length=k:=by rw [List.length_take];omega
 simp only [Region.lexB,Bool.and_eq_true] at hB
 have h2:=wpAnyQ_lex (md:=.any) hB.1 (full.take k) 0 (Array.replicate (full.take k).toArray.size false) a (by simp) (by simpa using hB.2) h
 refine wp_region_any hm ?_
 have hy:∀ i x,i < k→full[i]? =some x→∀ t:Array Value,Region.wanted x (yielded (full.take k).toArray t)=Region.wanted x (yielded full.toArray t):=fun i x hi hx' t=>by
  unfold grdB at hG
  rw [List.all_eq_true] at hG
  have q:=hG x (List.mem_of_getElem? (by rw [take_at hi];exact hx'))
  unfold Region.wanted
  cases hg:x.guard with
  | none=>rfl
  | some y=>
   rw [hg] at q
   simp only [decide_eq_true_eq] at q
   have e:yielded (full.take k).toArray t y.1=yielded full.toArray t y.1:=by
    unfold yielded
    rw [List.getElem?_toArray,List.getElem?_toArray,take_at q]
   simp only [e]
 have q:=suf_conv (P:=P) (Q:=Q) (C:=fun w'=>∃ x:Ext W,w'=x.w) (Qa:=fun a'=>∀ w',(∃ x:Ext W,w'=x.w)→wpList P full.toArray Q (full.drop k) a' w') hk hx hc' hy (fun a' w' hC hh=>hh w' hC) k (Array.replicate k false) (Array.replicate full.length false) a { W with drawn:=W.drawn+1 } (by simp) (by simp) (fun i hi=>by simp [Array.getD,hi,show i < full.length by omega]) (fun i _ hi=>by simp [Array.getD,hi]) (fun i i2 hi hl=>by simp [Array.getD,hi] at hl) ⟨⟨{ W with drawn:=W.drawn+1 },⟨rfl,rfl,rfl,Nat.le_refl _,fun _ _=>rfl⟩⟩,rfl⟩ (by simp only [List.size_toArray,hl] at h2;exact h2)
 have e:k+(full.length - k)=full.toArray.size:=by simp;omega
 rw [e] at q
 simpa using q
end
section
set_option linter.unusedSimpArgs false
set_option linter.unusedVariables false
set_option maxRecDepth 100000
open Go.RowKit
section
variable {P:Program} {full:List Oper} {Q:Exit→Act→World→Prop} {C:World→Prop} {m:Nat}
/- whatever order is picked; behind one of the first m the world is of the class -/
def wpAnyU (P:Program) (full:List Oper) (Q:Exit→Act→World→Prop) (C:World→Prop) (m:Nat):Nat→Array Bool→Act→World→Prop
 | 0,listed,a,w=>Region.ready .any full.toArray listed=[]∧Q .normal a w
 | fuel+1,listed,a,w=>(Region.ready .any full.toArray listed=[]→Q .normal a w)∧∀ i∈Region.ready .any full.toArray listed,wpOp P full.toArray Q i (fun a' w'=>(i < m→C w→C w')∧wpAnyU P full Q C m fuel (listed.setIfInBounds i true) a' w') a w
theorem any_of_U:∀ (fuel:Nat) (listed:Array Bool) (a:Act) (w:World),wpAnyU P full Q C m fuel listed a w→wpAny P .any full.toArray Q fuel listed a w
 | 0,_,_,_,h=>h
 | fuel+1,_,_,_,h=>⟨h.1,fun i hi=>wpOp_mono (fun a' w' h'=>any_of_U fuel _ a' w' h'.2) (h.2 i hi)⟩
theorem U_first {T : World → Prop} {i : Nat} {oi : Oper} {v : Value} (hi : full[i]? = some oi) (hsel : Region.noSelect full.toArray = true) (hQ : ∀ c a w, Q (.panic c) (a.put oi.dst v) w → Q (.panic c) a w) (hT : ∀ j, j < full.length → j ≠ i → edgeB full j i = false → ∀ w w', (j < m → C w → C w') → T w → T w') :
  ∀ (fuel:Nat) (listed:Array Bool) (a:Act) (w:World),(∀ j oj,full[j]? =some oj→j≠i→listed.getD j true=false→edgeB full j i=false→oi.apart full.toArray oj=true)→i∈Region.ready .any full.toArray listed→i < listed.size→YieldsIf P full.toArray T oi v a→T w→
   wpAnyU P full Q C m fuel (listed.setIfInBounds i true) (a.put oi.dst v) w→wpAnyU P full Q C m (fuel+1) listed a w:=by
 have hi':full.toArray[i]? =some oi:=by rw [List.getElem?_toArray];exact hi
 have sl:=Region.noSelect_spec hsel
 intro fuel
 induction fuel with
 | zero=>
  intro listed a w _ hr _ hy hw H
  refine ⟨fun h=>(by rw [h] at hr;cases hr),fun j hj=>?_⟩
  by_cases e:j=i
  ·subst e;exact hy.wpOp hi' hw ⟨fun _ hc=>hc,H⟩
  ·have q:=ready_mono hj e
   rw [H.1] at q
   cases q
 | succ n ih=>
  intro listed a w hf hr hsz hy hw H
  refine ⟨fun h=>(by rw [h] at hr;cases hr),fun j hj=>?_⟩
  by_cases e:j=i
  ·subst e;exact hy.wpOp hi' hw ⟨fun _ hc=>hc,H⟩
  ·have h1:=H.2 j (ready_mono hj e)
   obtain ⟨b1,b2,b3⟩:=mem_rdy.1 hj
   obtain ⟨oj,hoj⟩:∃ o,full[j]? =some o:=⟨_,List.getElem?_eq_getElem b1⟩
   have hno:edgeB full j i=false:=by
    cases hh:edgeB full j i with
    | false=>rfl
    | true=>
     have q:=b3 i hh
     have q2:=(mem_rdy.1 hr).2.1
     rw [getD_in hsz true false,q] at q2
     cases q2
   have hoj':full.toArray[j]? =some oj:=by rw [List.getElem?_toArray];exact hoj
   have h2:=wpOp_putIf hoj' (hf j oj hoj e b2 hno) (fun cs b=>sl i oi cs b hi') (fun cs b=>sl j oj cs b hoj') hQ hy h1
   refine wpOp_mono (fun a' w' h3=>⟨h3.2.1,ih (listed.setIfInBounds j true) a' w' (fun k ok hk hki hun hn=>hf k ok hk hki ?_ hn) (ready_mono hr (Ne.symm e)) (by simpa using hsz) h3.1 (hT j b1 e hno w w' h3.2.1 hw) ?_⟩) h2
   ·by_cases hjk:j=k
    ·subst hjk;exact b2
    ·rw [getD_set_ne true hjk] at hun;exact hun
   ·rw [Array.setIfInBounds_comm _ _ e]
    exact h3.2.2
/- the operations whose result is a value -/
def isVal (o:Oper):Bool:=match o.op with | .load .. | .fieldAddr .. | .indexAddr .. | .move _ | .assign _ | .nilCheck _ | .binOp .. | .unOp .. | .build .. | .extract ..=>true | _=>false
theorem val_run {ρ:Operand→Value} {o:Oper} {w w':World} {n:Next} (hv:isVal o=true) (h:(execOp ρ o).run P w=.ok n w'):∃ u,n=.value u:=by
 have vv:∀ (s:Sem Value),(do pure (Next.value (← s)):Sem Next).run P w=.ok n w'→∃ u,n=.value u:=fun s hs=>by
  rw [Sem.run_bind] at hs
  cases hr:s.run P w with
  | ok u w2=>
   rw [hr] at hs
   simp only [Result.andThen,Sem.run_pure] at hs
   injection hs with h1 h2
   exact ⟨u,h1.symm⟩
  | halt x w2=>
   rw [hr] at hs
   simp only [Result.andThen] at hs
   cases hs
 have bd:∀ {α:Type} (s:Sem α) (f:α→Sem Next) (w:World),(∀ x w1,(f x).run P w1=.ok n w'→∃ u,n=.value u)→(s >>=f).run P w=.ok n w'→∃ u,n=.value u:=fun s f w hf hs=>by
  rw [Sem.run_bind] at hs
  cases hr:s.run P w with
  | ok u w2=>rw [hr] at hs;exact hf u w2 hs
  | halt x w2=>
   rw [hr] at hs
   simp only [Result.andThen] at hs
   cases hs
 have pr:∀ (v:Value) (w:World),(pure (Next.value v):Sem Next).run P w=.ok n w'→∃ u,n=.value u:=fun v w hs=>by
  rw [Sem.run_pure] at hs
  injection hs with h1 h2
  exact ⟨_,h1.symm⟩
 unfold isVal at hv
 unfold execOp at h
 split at hv
 all_goals first
  | cases hv
  | skip
 all_goals (rename_i heq;rw [heq] at h;simp only at h)
 all_goals first
  | exact vv _ h
  | (rw [Sem.run_pure] at h;injection h with h1 h2;exact ⟨_,h1.symm⟩)
  | skip
 split at h
 all_goals first
  | (simp [runtimePanic] at h;done)
  | (rw [Sem.run_pure] at h;injection h with h1 h2;exact ⟨_,h1.symm⟩)
  | skip
 split at h
 ·simp [runtimePanic] at h
 ·refine bd _ _ _ (fun x w1 h1=>?_) h
  refine bd _ _ _ (fun y w2 h2=>?_) h1
  split at h2
  ·exact bd _ _ _ (fun z w3 h3=>pr _ _ h3) h2
  ·exact pr _ _ h2
 ·exact pr _ _ h
/- what is quiet and a value yields it in every world of the class -/
theorem val_quiet {o:Oper} {a:Act} {w:World} {v:Value} (hv:isVal o=true) (h:o.quietAt P a C w v):(execOp a.eval o).run P w=.ok (.value v) w:=by
 unfold Oper.quietAt at h
 cases hr:(execOp a.eval o).run P w with
 | ok n w'=>
  obtain ⟨u,rfl⟩:=val_run hv hr
  rw [hr] at h
  obtain ⟨rfl,rfl⟩:=h
  rfl
 | halt x w'=>rw [hr] at h;cases h
theorem ext_run {o:Oper} {t:Operand} {ix:Nat} (ho:o.op=.extract t ix) (a:Act):((∃ v,∀ w,(execOp a.eval o).run P w=.ok (.value v) w)∨∃ s,∀ w,(execOp a.eval o).run P w=.halt (.stuck s) w)∧∀ w,((execOp a.eval o).runT P w #[]).2=#[]:=by
 have e:execOp a.eval o=(do pure (Next.value (← Instr.extract (a.eval t) ix))):=by unfold execOp;rw [ho]
 rw [e]
 unfold Instr.extract
 split
 ·split
  ·exact ⟨.inl ⟨_,fun w=>rfl⟩,fun w=>rfl⟩
  ·exact ⟨.inr ⟨_,fun w=>rfl⟩,fun w=>rfl⟩
 ·exact ⟨.inr ⟨_,fun w=>rfl⟩,fun w=>rfl⟩
def up (n k:Nat):Array Bool:=((List.range n).map fun i=>decide (i < k)).toArray
theorem up_size (n k:Nat):(up n k).size=n:=by simp [up]
theorem up_at {n k i:Nat} (h:i < n) (b:Bool):(up n k).getD i b=decide (i < k):=by simp [up,Array.getD,h]
theorem up_next {n k:Nat} (h:k < n):(up n k).setIfInBounds k true=up n (k+1):=by
 refine Array.ext (by simp [up]) fun i h1 h2=>?_
 simp [up] at h1 h2
 by_cases e:k=i
 ·subst e;simp [up]
 ·simp [up,Array.getElem_setIfInBounds,e]
  omega
theorem up_zero (n:Nat):Array.replicate n false=up n 0:=Array.ext (by simp [up]) fun i h1 h2=>by simp [up]
def barB (full:List Oper) (k:Nat):Bool:=(List.range full.length).all fun j=>decide (j≤k)||(List.range j).any fun i=>decide (k≤i)&&edgeB full j i
def isExt (o:Oper):Bool:=o.guard.isNone&&match o.op with | .extract ..=>true | _=>false
def stepOkB (full:List Oper) (j:Nat):Bool:=barB full j||(((full[j]?).map isExt).getD false&&Region.free .any full.toArray (up full.length j) j)
def readB (full:List Oper) (i:Nat):Bool:=((full[i]?).map isVal).getD false&&Region.free .any full.toArray (up full.length i) i
def mixOk (full:List Oper) (k m:Nat):Bool:=
 decide (k < full.length)&&(lexE full&&(Region.noSelect full.toArray&&((List.range k).all (readB full)&&((List.range full.length).all (fun j=>decide (j < m)||(List.range k).all fun i=>edgeB full j i)&&(List.range full.length).all (fun j=>decide (j < k)||stepOkB full j)))))
/- another end where all went well -/
def Qn (Q:Exit→Act→World→Prop) (K:Act→World→Prop):Exit→Act→World→Prop
 | .normal,a,w=>K a w
 | e,a,w=>Q e a w
def wpListC (P:Program) (ops:Array Oper) (Q:Exit→Act→World→Prop) (C:World→Prop) (m:Nat):Nat→List Oper→Act→World→Prop
 | _,[],a,w=>Q .normal a w
 | j,o::t,a,w=>wpList P ops (Qn Q fun a' w'=>(j < m→C w→C w')∧wpListC P ops Q C m (j+1) t a' w') [o] a w
theorem wp_monoQ {o:Oper} {a:Act} {w:World} {K K' L:Act→World→Prop} (h:∀ a w,K a w→K' a w) (hh:o.wp P a w K (Qn Q L)):o.wp P a w K' Q:=by
 unfold Oper.wp at *
 generalize (execOp a.eval o).run P w=r at *
 cases r with
 | ok n w'=>
  cases n<;>simp only [Oper.upon] at hh ⊢<;>
   first
    | exact h _ _ hh
    | exact Calls.mono hh (fun e w'' he=>by cases e<;>first | exact h _ _ he | exact he)
    | exact Rows.mono hh (fun _ _ he=>h _ _ he)
 | halt x w'=>cases x<;>simp only [Oper.upon] at hh ⊢<;>exact hh
/- from number m on: the walk as ever -/
theorem listC_late {ops:Array Oper}:∀ (t:List Oper) (j:Nat) (a:Act) (w:World),m≤j→wpList P ops Q t a w→wpListC P ops Q C m j t a w
 | [],_,_,_,_,h=>h
 | o::t,j,a,w,hj,h=>by
  unfold wpListC
  unfold wpList at h ⊢
  have go:∀ a' w',wpList P ops Q t a' w'→(Qn Q fun a' w'=>(j < m→C w→C w')∧wpListC P ops Q C m (j+1) t a' w') .normal a' w':=fun a' w' hh=>⟨fun q=>by omega,listC_late t (j+1) a' w' (by omega) hh⟩
  split
  ·rename_i hw
   rw [if_pos hw] at h
   rcases h with h | ⟨h1,a2,w2,h2⟩
   ·refine .inl ?_
    unfold Oper.wp at *
    generalize (execOp a.eval o).run P w=r at *
    cases r with
    | ok n w'=>
     cases n<;>simp only [Oper.upon] at h ⊢<;>
      first
       | exact go _ _ h
       | exact Calls.mono h (fun e w'' he=>by cases e<;>first | exact go _ _ he | exact he)
       | exact Rows.mono h (fun _ _ he=>go _ _ he)
    | halt x w'=>cases x<;>simp only [Oper.upon] at h ⊢<;>exact h
   ·exact .inr ⟨h1,a2,w2,h2⟩
  ·rename_i hw
   rw [if_neg hw] at h
   exact go _ _ h
theorem rdy_up {j:Nat} (hx:lexE full=true) (hj:j < full.length):j∈Region.ready .any full.toArray (up full.length j):=
 mem_rdy.2 ⟨hj,by rw [up_at hj];simp,fun i2 he=>by have:=(lex_lt hx he).1;rw [up_at (by omega)];simpa using this⟩
theorem free_up {i j:Nat} {oi oj:Oper} {listed:Array Bool} (hi:full[i]? =some oi) (h:Region.free .any full.toArray listed i=true) (hj:full[j]? =some oj) (hne:j≠i) (hun:listed.getD j true=false) (hno:edgeB full j i=false):oi.apart full.toArray oj=true:=by
 refine Region.free_spec (by rw [List.getElem?_toArray];exact hi) h j oj (by rw [List.getElem?_toArray];exact hj) hne hun (fun e he hb heq=>?_)
 have:edgeB full j i=true:=edge_iff.2 ⟨oj,hj,e,he,hb,heq⟩
 rw [hno] at this
 cases this
theorem mix_rest (hx:lexE full=true) (hs:Region.noSelect full.toArray=true) (hQ:∀ c a d v w,Q (.panic c) (Act.put a d v) w→Q (.panic c) a w):∀ (t:List Oper) (j:Nat) (a:Act) (w:World),full.drop j=t→(∀ i,j≤i→i < full.length→stepOkB full i=true)→wpListC P full.toArray Q C m j t a w→wpAnyU P full Q C m t.length (up full.length j) a w
 | [],j,a,w,ht,_,h=>by
  have hk:full.length≤j:=List.drop_eq_nil_iff.1 ht
  refine ⟨List.eq_nil_iff_forall_not_mem.2 fun i hi=>?_,h⟩
  obtain ⟨h1,h2,-⟩:=mem_rdy.1 hi
  rw [up_at h1] at h2
  simp at h2
  omega
 | o::t,j,a,w,ht,hst,h=>by
  have hj:j < full.length:=by
   rcases Nat.lt_or_ge j full.length with q | q
   ·exact q
   ·rw [List.drop_eq_nil_of_le q] at ht;cases ht
  have ho:full[j]? =some o:=by
   have:(full.drop j)[0]? =some o:=by rw [ht];rfl
   rw [List.getElem?_drop] at this
   simpa using this
  have ho':full.toArray[j]? =some o:=by rw [List.getElem?_toArray];exact ho
  have hr:=rdy_up hx hj
  have ht':full.drop (j+1)=t:=by rw [← List.drop_drop,ht];rfl
  have go:∀ a' w',wpListC P full.toArray Q C m (j+1) t a' w'→wpAnyU P full Q C m t.length (up full.length (j+1)) a' w':=fun a' w' hh=>mix_rest hx hs hQ t (j+1) a' w' ht' (fun i a b=>hst i (by omega) b) hh
  have hq:=hst j (Nat.le_refl _) hj
  unfold stepOkB at hq
  rw [Bool.or_eq_true] at hq
  unfold wpListC at h
  unfold wpList at h
  rcases hq with hq | hq
  ·have hall:∀ i,i∈Region.ready .any full.toArray (up full.length j)→i=j:=fun i hi=>by
    obtain ⟨h1,h2,h3⟩:=mem_rdy.1 hi
    rw [up_at h1] at h2
    simp at h2
    rcases Nat.lt_or_eq_of_le h2 with q | q
    ·exfalso
     unfold barB at hq
     rw [List.all_eq_true] at hq
     have c:=hq i (List.mem_range.2 h1)
     rw [Bool.or_eq_true,decide_eq_true_eq,List.any_eq_true] at c
     rcases c with c | ⟨i2,m1,c⟩
     ·omega
     ·rw [Bool.and_eq_true,decide_eq_true_eq] at c
      rw [List.mem_range] at m1
      have c2:=h3 i2 c.2
      rw [up_at (by omega)] at c2
      simp at c2
      omega
    ·exact q.symm
   refine ⟨fun h0=>(by rw [h0] at hr;cases hr),fun i hi=>?_⟩
   have e:=hall i hi
   subst e
   unfold wpOp
   simp only [ho']
   rw [up_next hj]
   split
   ·rename_i hw
    rw [if_pos hw] at h
    exact h.imp (wp_monoQ fun a' w' hh=>⟨hh.1,go _ _ hh.2⟩) id
   ·rename_i hw
    rw [if_neg hw] at h
    exact ⟨h.1,go _ _ h.2⟩
  ·rw [Bool.and_eq_true,ho] at hq
   obtain ⟨q1,q2⟩:=hq
   simp only [Option.map_some,Option.getD_some] at q1
   unfold isExt at q1
   rw [Bool.and_eq_true] at q1
   obtain ⟨g1,q1⟩:=q1
   have hg:o.guard=none:=by simpa using g1
   have hw:∀ t,Region.wanted o t=true:=fun t=>by simp [Region.wanted,hg]
   rw [if_pos (hw _)] at h
   split at q1
   ·rename_i tt ix heq
    obtain ⟨hrun,htr⟩:=ext_run (P:=P) heq a
    have h:=h.resolve_right (fun hh=>by have h1:=hh.1.1;rw [htr w] at h1;simp at h1)
    rcases hrun with ⟨v,hv⟩ | ⟨s,hv⟩
    ·unfold Oper.wp at h
     rw [hv w] at h
     simp only [Oper.upon] at h
     refine U_first (T:=fun _=>True) ho hs (fun c a w=>hQ c a o.dst v w) (fun _ _ _ _ _ _ _ _=>trivial) t.length (up full.length j) a w (fun j' oj hj' hne hun hno=>free_up ho q2 hj' hne hun hno) hr (by rw [up_size];exact hj) (.inl ⟨hw _,fun w _=>hv w⟩) trivial ?_
     rw [up_next hj]
     exact go _ _ h.2
    ·unfold Oper.wp at h
     rw [hv w] at h
     simp only [Oper.upon] at h
   ·cases q1
theorem mix_reads {k:Nat} (hk:k < full.length) (hx:lexE full=true) (hs:Region.noSelect full.toArray=true) (hQ:∀ c a d v w,Q (.panic c) (Act.put a d v) w→Q (.panic c) a w) (hrd:∀ i,i < k→readB full i=true) (hlt:∀ i j,i < k→m≤j→j < full.length→edgeB full j i=true) (hst:∀ i,k≤i→i < full.length→stepOkB full i=true):∀ (l:List Oper) (i:Nat) (a:Act) (w:World),(full.take k).drop i=l→i≤k→C w→wpQuiet P full.toArray C (fun a'=>wpListC P full.toArray Q C m k (full.drop k) a' w) l a→wpAnyU P full Q C m (full.length - i) (up full.length i) a w
 | [],i,a,w,hl,hi,hC,h=>by
  have hkl:(full.take k).length=k:=by rw [List.length_take];omega
  have:k≤i:=by have:=List.drop_eq_nil_iff.1 hl;omega
  have e:i=k:=by omega
  subst e
  have q:=mix_rest (P:=P) (C:=C) (m:=m) hx hs hQ (full.drop i) i a w rfl hst h
  rw [List.length_drop] at q
  exact q
 | o::l,i,a,w,hl,hi,hC,h=>by
  have hkl:(full.take k).length=k:=by rw [List.length_take];omega
  have hik:i < k:=by
   rcases Nat.lt_or_ge i k with q | q
   ·exact q
   ·rw [List.drop_eq_nil_of_le (by omega)] at hl;cases hl
  have ho:full[i]? =some o:=by
   have q:((full.take k).drop i)[0]? =some o:=by rw [hl];rfl
   rw [List.getElem?_drop,Nat.add_zero,take_at hik] at q
   exact q
  have hl':(full.take k).drop (i+1)=l:=by rw [← List.drop_drop,hl];rfl
  have hr:=rdy_up hx (show i < full.length by omega)
  have q:=hrd i hik
  unfold readB at q
  rw [Bool.and_eq_true,ho] at q
  simp only [Option.map_some,Option.getD_some] at q
  have main:∀ v,YieldsIf P full.toArray C o v a→wpQuiet P full.toArray C (fun a'=>wpListC P full.toArray Q C m k (full.drop k) a' w) l (a.put o.dst v)→wpAnyU P full Q C m (full.length - i) (up full.length i) a w:=fun v hy hn=>by
   have r:=mix_reads hk hx hs hQ hrd hlt hst l (i+1) (a.put o.dst v) w hl' (by omega) hC hn
   rw [show full.length - i=(full.length - (i+1))+1 by omega]
   refine U_first (T:=C) ho hs (fun c a w=>hQ c a o.dst v w) (fun j hj hne hno w w' hh hw=>?_) _ (up full.length i) a w (fun j' oj hj' hne hun hno=>free_up ho q.2 hj' hne hun hno) hr (by rw [up_size];omega) hy hC ?_
   ·refine hh ?_ hw
    rcases Nat.lt_or_ge j m with c | c
    ·exact c
    ·rw [hlt i j hik c hj] at hno;cases hno
   ·rw [up_next (by omega)]
    exact r
  unfold wpQuiet at h
  split at h
  ·rename_i hw
   obtain ⟨v,hv,hn⟩:=h
   exact main v (.inl ⟨hw,fun w hCw=>val_quiet q.1 (hv w hCw)⟩) hn
  ·rename_i hw
   exact main undef (.inr ⟨by simpa using hw,rfl⟩) h
theorem regionMix {id : Nat} {a : Act} (W : World) (C : World → Prop) (k m : Nat) (hm : P.follows .mixedOrders = true) (hO : mixOk full k m = true) (hQ : ∀ c a d v w, Q (.panic c) (Act.put a d v) w → Q (.panic c) a w) (hC : C W.drew)
  (h:wpQuiet P full.toArray C (fun a'=>wpListC P full.toArray Q C m k (full.drop k) a' W.drew) (full.take k) a):(Code.region id full.toArray true).wp P Q a W:=by
 unfold mixOk at hO
 simp only [Bool.and_eq_true,decide_eq_true_eq,List.all_eq_true,List.mem_range,Bool.or_eq_true] at hO
 obtain ⟨o1,o2,o3,o4,o5,o6⟩:=hO
 refine wp_region_any hm (any_of_U (C:=C) (m:=m) _ _ _ _ ?_)
 have q:=mix_reads (P:=P) (Q:=Q) (C:=C) (m:=m) o1 o2 o3 hQ o4 (fun i j h1 h2 h3=>by rcases o5 j h3 with c | c;omega;exact c i h1) (fun i h1 h2=>by rcases o6 i h2 with c | c;omega;exact c) (full.take k) 0 a { W with drawn:=W.drawn+1 } rfl (by omega) hC h
 rw [← up_zero] at q
 simpa using q
/- a world that has all that W has, but for what may be in block g, and perhaps more -/
structure ExtN (W:World) (g:Option Nat) where
 w:World
 os:w.os=W.os
 tape:w.tape=W.tape
 out:w.output=W.output
 size:W.heap.size≤w.heap.size
 blk:∀ b,b < W.heap.size→g≠some b→w.heap[b]? =W.heap[b]?
def CN (W:World) (g:Option Nat) (w':World):Prop:=∃ x:ExtN W g,w'=x.w
theorem CN.drew (W:World) (g:Option Nat):CN W g W.drew:=⟨⟨W.drew,rfl,rfl,rfl,Nat.le_refl _,fun _ _ _=>rfl⟩,rfl⟩
theorem extN_ne (W:World) (g:Option Nat):Nonempty (ExtN W g):=⟨⟨W,rfl,rfl,rfl,Nat.le_refl _,fun _ _ _=>rfl⟩⟩
theorem ExtN.fit {W:World} {g:Option Nat} {b o:Nat} {v:Value} (h:W.cell? ⟨b,o,none⟩=some v) (hb:b < W.heap.size) (hg:g≠some b):∀ x:ExtN W g,x.w.cell? ⟨b,o,none⟩=some v:=fun x=>(World.cell?_of_block (w:=W) (x.blk b hb hg)).trans h
theorem CN.on {W:World} {g:Option Nat} {w w':World} (h:CN W g w) (h1:w'.os=w.os) (h2:w'.tape=w.tape) (h3:w'.output=w.output) (h4:w.heap.size≤w'.heap.size) (h5:∀ b,b < w.heap.size→g≠some b→w'.heap[b]? =w.heap[b]?):CN W g w':=by
 obtain ⟨x,rfl⟩:=h
 exact ⟨⟨w',h1.trans x.os,h2.trans x.tape,h3.trans x.out,Nat.le_trans x.size h4,fun b hb hg=>(h5 b (Nat.lt_of_lt_of_le hb x.size) hg).trans (x.blk b hb hg)⟩,rfl⟩
theorem CN.below {W:World} {g:Option Nat} {w w':World} (h:CN W g w) (hb:Below w.heap.size w w'):CN W g w':=h.on hb.os hb.tape hb.output hb.size (fun b h1 _=>hb.block b h1)
theorem CN.grown {W:World} {g:Option Nat} {w w':World} (h:CN W g w) (hb:w.grownBy w' g):CN W g w':=h.on hb.os hb.tape hb.output hb.size (fun b h1 h2=>hb.block b h1 (fun e=>h2 e.symm))
/- the same, several blocks left out -/
structure ExtP (W:World) (E:Nat→Prop) where
 w:World
 os:w.os=W.os
 tape:w.tape=W.tape
 out:w.output=W.output
 size:W.heap.size≤w.heap.size
 blk:∀ b,b < W.heap.size→¬ E b→w.heap[b]? =W.heap[b]?
def CP (W:World) (E:Nat→Prop) (w':World):Prop:=∃ x:ExtP W E,w'=x.w
theorem CP.drew (W:World) (E:Nat→Prop):CP W E W.drew:=⟨⟨W.drew,rfl,rfl,rfl,Nat.le_refl _,fun _ _ _=>rfl⟩,rfl⟩
theorem extP_ne (W:World) (E:Nat→Prop):Nonempty (ExtP W E):=⟨⟨W,rfl,rfl,rfl,Nat.le_refl _,fun _ _ _=>rfl⟩⟩
theorem ExtP.fit {W:World} {E:Nat→Prop} {b o:Nat} {v:Value} (h:W.cell? ⟨b,o,none⟩=some v) (hb:b < W.heap.size) (hg:¬ E b):∀ x:ExtP W E,x.w.cell? ⟨b,o,none⟩=some v:=fun x=>(World.cell?_of_block (w:=W) (x.blk b hb hg)).trans h
theorem CP.on {W:World} {E:Nat→Prop} {w w':World} (h:CP W E w) (h1:w'.os=w.os) (h2:w'.tape=w.tape) (h3:w'.output=w.output) (h4:w.heap.size≤w'.heap.size) (h5:∀ b,b < w.heap.size→¬ E b→w'.heap[b]? =w.heap[b]?):CP W E w':=by
 obtain ⟨x,rfl⟩:=h
 exact ⟨⟨w',h1.trans x.os,h2.trans x.tape,h3.trans x.out,Nat.le_trans x.size h4,fun b hb hg=>(h5 b (Nat.lt_of_lt_of_le hb x.size) hg).trans (x.blk b hb hg)⟩,rfl⟩
theorem CP.below {W:World} {E:Nat→Prop} {w w':World} (h:CP W E w) (hb:Below w.heap.size w w'):CP W E w':=h.on hb.os hb.tape hb.output hb.size (fun b h1 _=>hb.block b h1)
end
end
section
set_option linter.unusedSimpArgs false
set_option linter.unusedVariables false
set_option maxRecDepth 100000
section
open Go.RowKit
structure KV where
 d:KD
 r:Value
 v:Value
structure CV where
 l:List I5
 v:Value
def flatK:List KV→List Value
 | []=>[]
 | x::t=>[.int .i64 x.d.pc,x.r,x.v,.int .i64 x.d.st]++flatK t
theorem flatK_app:∀ (a b:List KV),flatK (a++b)=flatK a++flatK b
 | [],b=>rfl
 | x::r,b=>by simp [flatK,flatK_app r b]
theorem flatK_at:∀ (L:List KV) (i:Nat) (x:KV),L[i]? =some x→(flatK L)[i * 4]? =some (.int .i64 x.d.pc)∧(flatK L)[i * 4+1]? =some x.r∧(flatK L)[i * 4+2]? =some x.v∧(flatK L)[i * 4+3]? =some (.int .i64 x.d.st)
 | [],i,x,h=>by simp at h
 | y::r,0,x,h=>by
  simp at h
  subst h
  exact ⟨rfl,rfl,rfl,rfl⟩
 | y::r,i+1,x,h=>by
  have h':r[i]? =some x:=by simpa using h
  have e:=flatK_at r i x h'
  have e0:(i+1) * 4=i * 4+4:=by omega
  rw [e0]
  exact e
structure OwnK (w:World) (base:Nat) (v:Value) (L:List KV):Prop where
 row:w.ownsRow base 53 4 v L.length (flatK L)
 inn:∀ (i:Nat) (x:KV),L[i]? =some x→OwnN w base x.r x.d.regs∧OwnN w base x.v x.d.vw
 two:∀ (i:Nat) (x:KV) (k:Nat),L[i]? =some x→x.r.ownBlock=some k→x.v.ownBlock≠some k
 sep:∀ (i j:Nat) (x y:KV) (k:Nat),L[i]? =some x→L[j]? =some y→i≠j→(x.r.ownBlock=some k∨x.v.ownBlock=some k)→¬ (y.r.ownBlock=some k∨y.v.ownBlock=some k)
def OwnT5 (w:World) (base:Nat) (v:Value) (l:List I5):Prop:=w.ownsRow base 141 5 v l.length ((fl5 l).map (Value.int .i64))
structure OwnC (w:World) (base:Nat) (v:Value) (L:List CV):Prop where
 row:w.ownsRow base 102 1 v L.length (L.map CV.v)
 inn:∀ (i:Nat) (x:CV),L[i]? =some x→OwnT5 w base x.v x.l
 sep:∀ (i j:Nat) (x y:CV) (k:Nat),L[i]? =some x→L[j]? =some y→i≠j→x.v.ownBlock=some k→y.v.ownBlock≠some k
theorem OwnK.keep {w w':World} {base:Nat} {v:Value} {L:List KV} (h:OwnK w base v L) (hb:∀ k,base≤k→k < w.heap.size→w'.heap[k]? =w.heap[k]?):OwnK w' base v L:=
 ⟨ownKeep' h.row (fun k hk=>hb k (World.ownsRow.lt h.row _ hk).1 (World.ownsRow.lt h.row _ hk).2),fun i x hx=>⟨ownKeep' (h.inn i x hx).1 (fun k hk=>hb k (World.ownsRow.lt (h.inn i x hx).1 _ hk).1 (World.ownsRow.lt (h.inn i x hx).1 _ hk).2),ownKeep' (h.inn i x hx).2 (fun k hk=>hb k (World.ownsRow.lt (h.inn i x hx).2 _ hk).1 (World.ownsRow.lt (h.inn i x hx).2 _ hk).2)⟩,h.two,h.sep⟩
theorem OwnK.nil (w:World) (base:Nat):OwnK w base (.slice none 0 0) []:=⟨World.ownsRow_nil _ _ _ _,fun i x hx=>by simp at hx,fun i x k hx=>by simp at hx,fun i j x y k hx=>by simp at hx⟩
theorem OwnC.keep {w w':World} {base:Nat} {v:Value} {L:List CV} (h:OwnC w base v L) (hb:∀ k,base≤k→k < w.heap.size→w'.heap[k]? =w.heap[k]?):OwnC w' base v L:=
 ⟨ownKeep' h.row (fun k hk=>hb k (World.ownsRow.lt h.row _ hk).1 (World.ownsRow.lt h.row _ hk).2),fun i x hx=>ownKeep' (h.inn i x hx) (fun k hk=>hb k (World.ownsRow.lt (h.inn i x hx) _ hk).1 (World.ownsRow.lt (h.inn i x hx) _ hk).2),h.sep⟩
theorem OwnC.below {w w':World} {base:Nat} {v:Value} {L:List CV} (h:OwnC w base v L) (hb:Below w.heap.size w w'):OwnC w' base v L:=h.keep fun k _ hk=>hb.block k hk
theorem OwnC.nil (w:World) (base:Nat):OwnC w base (.slice none 0 0) []:=⟨World.ownsRow_nil _ _ _ _,fun i x hx=>by simp at hx,fun i j x y k hx=>by simp at hx⟩
theorem VO.nodup {w:World} {lo hi:Nat} {x:VS} {l:List Int} (h:VO w lo hi x l):(vAs x).Nodup:=by
 rcases h.c with e | ⟨g,o,hs,-⟩
 ·have:=h.n
  rw [e] at this
  simp at this
  simp [vAs,this]
 ·exact vAs_nodup hs
theorem push_get {α:Type} {L:List α} {y z:α} {i:Nat} (h:(L++[y])[i]? =some z):L[i]? =some z∨(i=L.length∧z=y):=by
 rcases getElem?_push h with h | ⟨h,e⟩
 ·exact .inl h
 ·exact .inr ⟨h,e⟩
/- one more behind a row -/
theorem OwnC.push {w w' : World} {base g cap : Nat} {v : Value} {L : List CV} {y : CV} (h : OwnC w base v L) (hy : OwnT5 w base y.v y.l)
  (hs:∀ (i:Nat) (z:CV) (k:Nat),L[i]? =some z→y.v.ownBlock=some k→z.v.ownBlock≠some k)
  (q1:w'.ownsRow base 102 1 (.slice (some ⟨g,0,none⟩) (L.length+1) cap) (L.length+1) (L.map CV.v++[y.v])) (hk:∀ k,k < w.heap.size→v.ownBlock≠some k→w'.heap[k]? =w.heap[k]?):
  OwnC w' base (.slice (some ⟨g,0,none⟩) (L.length+1) cap) (L++[y]):=by
 have kp:∀ (x:CV),OwnT5 w base x.v x.l→OwnT5 w' base x.v x.l:=fun x hx=>ownKeep' hx (fun k hk'=>hk k (World.ownsRow.lt hx _ hk').2 (ownType' hx h.row (by decide) hk'))
 refine ⟨by rw [List.map_append,List.length_append];exact q1,fun i x hx=>?_,fun i j x z k hx hz hne=>?_⟩
 ·rcases push_get hx with hx | ⟨-,rfl⟩
  ·exact kp _ (h.inn i x hx)
  ·exact kp _ hy
 ·rcases push_get hx with hx1 | ⟨e1,ex⟩<;>rcases push_get hz with hz1 | ⟨e2,ez⟩
  ·exact h.sep i j x z k hx1 hz1 hne
  ·rw [ez]
   intro a b
   exact hs i x k hx1 b a
  ·rw [ex]
   exact hs j z k hz1
  ·omega
theorem OwnK.push {w w' : World} {base g cap : Nat} {v : Value} {L : List KV} {y : KV} (h : OwnK w base v L) (hy : OwnN w base y.r y.d.regs ∧ OwnN w base y.v y.d.vw) (ht : ∀ k, y.r.ownBlock = some k → y.v.ownBlock ≠ some k)
  (hs:∀ (i:Nat) (z:KV) (k:Nat),L[i]? =some z→(y.r.ownBlock=some k∨y.v.ownBlock=some k)→¬ (z.r.ownBlock=some k∨z.v.ownBlock=some k))
  (q1:w'.ownsRow base 53 4 (.slice (some ⟨g,0,none⟩) (L.length+1) cap) (L.length+1) (flatK L++[.int .i64 y.d.pc,y.r,y.v,.int .i64 y.d.st])) (hk:∀ k,k < w.heap.size→v.ownBlock≠some k→w'.heap[k]? =w.heap[k]?):
  OwnK w' base (.slice (some ⟨g,0,none⟩) (L.length+1) cap) (L++[y]):=by
 have kp:∀ (u:Value) (l:List Int),OwnN w base u l→OwnN w' base u l:=fun u l hx=>ownKeep' hx (fun k hk'=>hk k (World.ownsRow.lt hx _ hk').2 (ownType' hx h.row (by decide) hk'))
 refine ⟨by rw [flatK_app,List.length_append];exact q1,fun i x hx=>?_,fun i x k hx=>?_,fun i j x z k hx hz hne=>?_⟩
 ·rcases push_get hx with hx | ⟨-,rfl⟩
  ·exact ⟨kp _ _ (h.inn i x hx).1,kp _ _ (h.inn i x hx).2⟩
  ·exact ⟨kp _ _ hy.1,kp _ _ hy.2⟩
 ·rcases push_get hx with hx | ⟨-,rfl⟩
  ·exact h.two i x k hx
  ·exact ht k
 ·rcases push_get hx with hx1 | ⟨e1,ex⟩<;>rcases push_get hz with hz1 | ⟨e2,ez⟩
  ·exact h.sep i j x z k hx1 hz1 hne
  ·rw [ez]
   intro a b
   exact hs i x k hx1 b a
  ·rw [ex]
   exact hs j z k hz1
  ·omega
/- rows that are owned, as rows of records -/
theorem vAs_blk {s:Option Addr} {n c e:Nat} {a:Addr} (ha:a∈vAs ((⟨s,n,c⟩:VS).wide e)) (hs:Somewhere s):(Value.slice s n c).ownBlock=some a.block:=by
 obtain ⟨i,-,rfl⟩:=mem_vAs.1 ha
 obtain ⟨g,o,rfl⟩:=hs
 rfl
theorem VO.own {w:World} {lo hi:Nat} {s:Option Addr} {n c e:Nat} {l:List Int} (h:VO w lo hi ((⟨s,n,c⟩:VS).wide e) l) {a:Addr} (ha:a∈vAs ((⟨s,n,c⟩:VS).wide e)):(Value.slice s n c).ownBlock=some a.block:=by
 rcases h.c with e | ⟨g,o,hs,-⟩
 ·have:=h.n
  rw [e] at this
  obtain ⟨i,hi',-⟩:=mem_vAs.1 ha
  rw [this] at hi'
  simp at hi'
 ·exact vAs_blk ha ⟨g,o,hs⟩
theorem OwnK.go {w:World} {base:Nat} {v:Value} {L:List KV} (h:OwnK w base v L):∃ s c R,v=.slice s L.length c∧GO w base w.heap.size s TK R (L.map fun x=>coreV x.d)∧∀ a∈gAs s TK.length R 0,v.ownBlock=some a.block∨∃ (i:Nat) (x:KV),L[i]? =some x∧(x.r.ownBlock=some a.block∨x.v.ownBlock=some a.block):=by
 rcases Nat.eq_zero_or_pos L.length with h0 | hpos
 ·obtain ⟨s,c,e⟩:=ownSl h.row
  rw [List.length_eq_zero_iff.1 h0]
  rw [h0] at e
  exact ⟨s,c,[],e,GO.nil _ _ _ _ _,fun a ha=>by simp [gAs] at ha⟩
 obtain ⟨g,cap,e,-⟩:=World.ownsRow.form h.row hpos
 have hlt:=World.ownsRow.lt h.row g (by rw [e];rfl)
 have hrow:=h.row
 rw [e] at hrow
 have step:∀ k,k≤L.length→∃ R,GO w base w.heap.size (some ⟨g,0,none⟩) TK R ((L.take k).map fun x=>coreV x.d)∧∀ a∈gAs (some ⟨g,0,none⟩) TK.length R 0,(∃ i j,i < k∧j < 4∧a=⟨g,i * 4+j,none⟩)∨∃ (i:Nat) (x:KV),i < k∧L[i]? =some x∧(x.r.ownBlock=some a.block∨x.v.ownBlock=some a.block):=by
  intro k
  induction k with
  | zero=>intro _;exact ⟨[],GO.nil _ _ _ _ _,fun a ha=>by simp [gAs] at ha⟩
  | succ k ih=>
   intro hk
   obtain ⟨R,hR,hA⟩:=ih (by omega)
   obtain ⟨x,hx⟩:∃ x,L[k]? =some x:=⟨_,List.getElem?_eq_getElem (by omega)⟩
   obtain ⟨i1,i2⟩:=h.inn k x hx
   obtain ⟨s,c,ev,vo⟩:=own_vo (size:=1) i1 (by simp)
   obtain ⟨s',c',ev',vo'⟩:=own_vo (size:=1) i2 (by simp)
   rw [wide_one] at vo vo'
   have tl:((L.take k).map fun x=>coreV x.d).length=k:=by simp;omega
   have ow:∀ a∈vAs (⟨s,x.d.regs.length,c⟩:VS),x.r.ownBlock=some a.block:=fun a ha=>by rw [ev];exact VO.own (e:=1) (by rw [wide_one];exact vo) (by rw [wide_one];exact ha)
   have ow':∀ a∈vAs (⟨s',x.d.vw.length,c'⟩:VS),x.v.ownBlock=some a.block:=fun a ha=>by rw [ev'];exact VO.own (e:=1) (by rw [wide_one];exact vo') (by rw [wide_one];exact ha)
   have far:∀ {u:Value} {l:List Int} {a:Addr},OwnN w base u l→u.ownBlock=some a.block→a.block≠g:=fun hu ha eb=>ownType' hu hrow (by decide) ha (by rw [eb];rfl)
   obtain ⟨fa,fb,fc,fd⟩:=flatK_at L k x hx
   have q:∀ j u,j < 4→(flatK L)[k * 4+j]? =some u→w.cell? ⟨g,k * 4+j,none⟩=some u:=fun j u hj hu=>by rw [World.ownsRow.cellAt hrow (k * 4+j) (by omega)];exact hu
   have ra:recAs (some ⟨g,0,none⟩) [.i,.r ⟨s,x.d.regs.length,c⟩ 1,.r ⟨s',x.d.vw.length,c'⟩ 1,.i] (k * TK.length)=⟨g,k * 4,none⟩::(vAs (⟨s,x.d.regs.length,c⟩:VS)++(vAs (⟨s',x.d.vw.length,c'⟩:VS)++[⟨g,k * 4+3,none⟩])):=by
    simp [recAs,fAs,wide_one,adr,TK]
   have et:(L.take (k+1)).map (fun x=>coreV x.d)=(L.take k).map (fun x=>coreV x.d)++[coreV x.d]:=by rw [List.take_add_one,hx];simp
   refine ⟨R++[[.i,.r ⟨s,x.d.regs.length,c⟩ 1,.r ⟨s',x.d.vw.length,c'⟩ 1,.i]],?_,fun a ha=>?_⟩
   ·rw [et]
    refine GO.push _ _ hR ⟨_,_,rfl⟩ rfl rfl (fun _ _ _ _ _ _ _ _ _ _ hf=>hf) (fun j f u hf hu=>?_) (fun x' e' hx' a ha g' o' hg'=>?_) ?_ (fun a ha ha'=>?_)
    ·rw [tl]
     match j,hf,hu with
     | 0,hf,hu=>
      simp at hf
      simp [coreV] at hu
      subst hf hu
      exact ⟨by simpa [adr,TK] using q 0 _ (by omega) fa,World.ownsRow.frozenAt hrow _,hlt.1,hlt.2⟩
     | 1,hf,hu=>
      simp at hf
      simp [coreV] at hu
      subst hf hu
      refine ⟨by have:=q 1 _ (by omega) fb;rw [ev] at this;simpa [adr,TK] using this,⟨hlt.1,hlt.2⟩,by rw [wide_one];exact vo⟩
     | 2,hf,hu=>
      simp at hf
      simp [coreV] at hu
      subst hf hu
      refine ⟨by have:=q 2 _ (by omega) fc;rw [ev'] at this;simpa [adr,TK] using this,⟨hlt.1,hlt.2⟩,by rw [wide_one];exact vo'⟩
     | 3,hf,hu=>
      simp at hf
      simp [coreV] at hu
      subst hf hu
      exact ⟨by simpa [adr,TK] using q 3 _ (by omega) fd,World.ownsRow.frozenAt hrow _,hlt.1,hlt.2⟩
    ·injection hg' with hg'
     injection hg' with hg'
     simp at hx'
     rw [← hg']
     rcases hx' with ⟨rfl,rfl⟩ | ⟨rfl,rfl⟩
     ·rw [wide_one] at ha
      exact far i1 (ow a ha)
     ·rw [wide_one] at ha
      exact far i2 (ow' a ha)
    ·rw [tl,ra]
     refine List.nodup_cons.2 ⟨fun hm=>?_,List.nodup_append.2 ⟨vo.nodup,List.nodup_append.2 ⟨vo'.nodup,by simp,fun a ha b hb eq=>?_⟩,fun a ha b hb eq=>?_⟩⟩
     ·rcases List.mem_append.1 hm with hm | hm
      ·exact far i1 (ow _ hm) rfl
      ·rcases List.mem_append.1 hm with hm | hm
       ·exact far i2 (ow' _ hm) rfl
       ·simp at hm
     ·simp at hb
      subst hb eq
      exact far i2 (ow' _ ha) rfl
     ·subst eq
      rcases List.mem_append.1 hb with hb | hb
      ·exact h.two k x _ hx (ow _ ha) (ow' _ hb)
      ·simp at hb
       subst hb
       exact far i1 (ow _ ha) rfl
    ·rw [tl,ra] at ha'
     have new:a.block=g∧(a=⟨g,k * 4,none⟩∨a=⟨g,k * 4+3,none⟩)∨(x.r.ownBlock=some a.block∨x.v.ownBlock=some a.block):=by
      rcases List.mem_cons.1 ha' with rfl | ha'
      ·exact .inl ⟨rfl,.inl rfl⟩
      ·rcases List.mem_append.1 ha' with ha' | ha'
       ·exact .inr (.inl (ow a ha'))
       ·rcases List.mem_append.1 ha' with ha' | ha'
        ·exact .inr (.inr (ow' a ha'))
        ·simp at ha'
         exact .inl ⟨by rw [ha'],.inr ha'⟩
     rcases hA a ha with ⟨i,j,hi,hj,e1⟩ | ⟨i,z,hi,hz,hb⟩
     ·rcases new with ⟨-,e2 | e2⟩ | hb
      ·rw [e1] at e2;simp at e2<;>omega
      ·rw [e1] at e2;simp at e2<;>omega
      ·rcases hb with hb | hb
       ·exact far i1 hb (by rw [e1])
       ·exact far i2 hb (by rw [e1])
     ·rcases new with ⟨e2,-⟩ | hb'
      ·obtain ⟨j1,j2⟩:=h.inn i z hz
       rcases hb with hb | hb
       ·exact far j1 hb e2
       ·exact far j2 hb e2
      ·exact h.sep i k z x _ hz hx (by omega) hb hb'
   ·rw [gAs_append] at ha
    rcases List.mem_append.1 ha with ha | ha
    ·rcases hA a ha with ⟨i,j,hi,hj,e1⟩ | ⟨i,z,hi,hz,hb⟩
     ·exact .inl ⟨i,j,by omega,hj,e1⟩
     ·exact .inr ⟨i,z,by omega,hz,hb⟩
    ·have hl:R.length=k:=by have:=hR.n;rw [tl] at this;exact this
     rw [hl] at ha
     simp only [gAs,List.append_nil,Nat.zero_add] at ha
     rw [ra] at ha
     rcases List.mem_cons.1 ha with e1 | ha
     ·exact .inl ⟨k,0,by omega,by omega,by rw [e1,Nat.add_zero]⟩
     ·rcases List.mem_append.1 ha with ha | ha
      ·exact .inr ⟨k,x,by omega,hx,.inl (ow a ha)⟩
      ·rcases List.mem_append.1 ha with ha | ha
       ·exact .inr ⟨k,x,by omega,hx,.inr (ow' a ha)⟩
       ·simp at ha
        exact .inl ⟨k,3,by omega,by omega,ha⟩
 obtain ⟨R,hR,hA⟩:=step L.length (Nat.le_refl _)
 rw [List.take_length] at hR
 refine ⟨some ⟨g,0,none⟩,cap,R,e,hR,fun a ha=>?_⟩
 rcases hA a ha with ⟨i,j,-,-,e1⟩ | ⟨i,z,-,hz,hb⟩
 ·left
  rw [e,e1]
  rfl
 ·exact .inr ⟨i,z,hz,hb⟩
end
section
open Go.RowKit
theorem steps_cell {w:World} {g off:Nat} {l:List I5} (hc:∀ i,i < l.length→At5 w g (off+i * 5) (l.getD i z5)) (i:Nat) (hi:i < l.length * 5):w.cell? ⟨g,off+i,none⟩=some (.int .i64 ((fl5 l).getD i 0)):=by
 have hk:i / 5 < l.length:=by omega
 have hx:l[i / 5]? =some (l.getD (i / 5) z5):=by rw [List.getD_eq_getElem?_getD,List.getElem?_eq_getElem hk];rfl
 obtain ⟨c0,c1,c2,c3,c4⟩:=hc (i / 5) hk
 obtain ⟨e0,e1,e2,e3,e4⟩:=fl5_at l (i / 5) _ hx
 rw [List.getD_eq_getElem?_getD]
 rcases (show i % 5=0∨i % 5=1∨i % 5=2∨i % 5=3∨i % 5=4 by omega) with h | h | h | h | h
 ·have e:i=i / 5 * 5:=by omega
  rw [e];rw [e0];exact c0
 ·have e:i=i / 5 * 5+1:=by omega
  rw [e,← Nat.add_assoc];rw [e1];exact c1
 ·have e:i=i / 5 * 5+2:=by omega
  rw [e,← Nat.add_assoc];rw [e2];exact c2
 ·have e:i=i / 5 * 5+3:=by omega
  rw [e,← Nat.add_assoc];rw [e3];exact c3
 ·have e:i=i / 5 * 5+4:=by omega
  rw [e,← Nat.add_assoc];rw [e4];exact c4
theorem infoSt:∃ i,Tryz.prog.info? 141=some i∧i.zero=some (.agg #[.int .i64 0,.int .i64 0,.int .i64 0,.int .i64 0,.int .i64 0])∧i.size=5∧i.bytes=40:=⟨_,rfl,rfl,rfl,rfl⟩
theorem infoCd:∃ i,Tryz.prog.info? 102=some i∧i.zero=some (.slice none 0 0)∧i.size=1∧i.bytes=24:=⟨_,rfl,rfl,rfl,rfl⟩
theorem infoKo:∃ i,Tryz.prog.info? 53=some i∧i.zero=some (.agg #[.int .i64 0,.slice none 0 0,.slice none 0 0,.int .i64 0])∧i.size=4∧i.bytes=64:=⟨_,rfl,rfl,rfl,rfl⟩
theorem run_append_zeroS (w : World) (base : Nat) (v : Value) (l : List I5) (hown : OwnT5 w base v l) (s : Option Addr) (c : Nat) :
  (Builtin.append_ #[102,102] 102 #[v,.slice s 0 c]).run Tryz.prog w=.ok v w:=by
 obtain ⟨i0,hi,hz0,hz1,hz2⟩:=infoSt
 rcases hown.2 with ⟨rfl,-⟩ | ⟨g,cap,cur,rfl,_,_,hnc,_⟩
 ·cases s<;>simp [Builtin.append_,run_underlying Tryz.underlying102,sizeOf,typeInfo,hi,Builtin.lenOf,Builtin.firstCells,loadCells,loadCellsFrom,storeCells]
 ·cases s<;>simp [Builtin.append_,run_underlying Tryz.underlying102,sizeOf,typeInfo,hi,Builtin.lenOf,Builtin.firstCells,hnc,storeCells,loadCells,loadCellsFrom,storeCells]
theorem wp_copyS {o : Oper} {a : Act} {w : World} {K : Act → World → Prop} {Q : Exit → Act → World → Prop} (s x : Operand) (hty : o.type = 102) (ho : o.op = .call { callee := .builtin .append, args := #[s, x], argTypes := #[102, 102] })
  (base:Nat) (sv:Option Addr) (cv:Nat) (hs:a.eval s=.slice sv 0 cv) (hown:OwnT5 w base (.slice sv 0 cv) []) (sx:Option Addr) (c:Nat) (l:List I5) {lo hi:Nat} (hx:a.eval x=.slice sx l.length c) (hr:InsR w lo hi sx l) (hn:l.length≤1073741824) (hbase:base≤w.heap.size)
  (h:∀ s' c' w',OwnT5 w' base (.slice s' l.length c') l→Copied w w' sv cv base l.length s' c'→K (a.put o.dst (.slice s' l.length c')) w'):Oper.wp Tryz.prog o a w K Q:=by
 rcases Nat.eq_zero_or_pos l.length with h0 | hl
 ·have e:=List.length_eq_zero_iff.1 h0
  subst e
  have hrun:=run_append_zeroS w base _ _ hown sx c
  unfold Oper.wp
  simp at hx
  simp [execOp,ho,resolve,invoke,builtin,hs,hx,hty,hrun,Result.andThen]
  exact h sv cv w hown ⟨fun _ _ _=>rfl,Below.refl _ _,fun k hk=>.inr hk⟩
 ·rcases hr with rfl | ⟨g,off,rfl,h1,h2,hc⟩
  ·simp at hl
  ·obtain ⟨i0,hi0,hz0,hz1,hz2⟩:=infoSt
   refine wp_append_lies w s x 102 ho base 141 i0 _ 5 40 Tryz.underlying102 hi0 hz0 hz1 hz2 rfl (by decide) _ 0 _ hs hown ⟨g,off,none⟩ l.length c ((fl5 l).map (Value.int .i64)) hx (by rw [List.length_map,fl5_len]) (fun j u hj=>?_) (fun u hu=>by obtain ⟨z,-,rfl⟩:=List.mem_map.1 hu;rfl) hl (by unfold maxLen;omega) (by omega) hbase _ rfl ?_
   ·rw [List.getElem?_map] at hj
    obtain ⟨z,hz,rfl⟩:=Option.map_eq_some_iff.1 hj
    have hj':=(List.getElem?_eq_some_iff.1 hz).1
    rw [fl5_len] at hj'
    have q:=steps_cell hc j hj'
    rw [List.getD_eq_getElem?_getD,hz] at q
    have ea:Addr.add ⟨g,off,none⟩ j=⟨g,off+j,none⟩:=by
     by_cases h:j=0
     ·subst h;rfl
     ·simp [Addr.add,h]
    rw [ea]
    exact q
   intro g' cap w' q1 q2 q3 q4
   have hb:Below base w w':=Below.grown (Below.refl _ _) q2 hbase (fun j hj=>(World.ownsRow.lt hown _ hj).1)
   rw [Nat.zero_add]
   rw [Nat.zero_add] at q1
   refine h _ _ w' (by show w'.ownsRow base 141 5 _ l.length ((fl5 l).map (Value.int .i64));exact q1) ⟨fun k hk hne=>q2.block k hk (fun e=>hne e.symm),hb,fun k hk=>?_⟩
   injection hk with hk
   rcases q3 with q3 | q3
   ·exact .inr (by rw [q3];exact congrArg some hk)
   ·exact .inl (by have:g'=k:=hk;omega)
theorem app_copyS {ops : Array Oper} {rest : List Oper} {o : Oper} {a : Act} {Q : Exit → Act → World → Prop} (hgd : o.guard = none) (s x : Operand) (hty : o.type = 102) (ho : o.op = .call { callee := .builtin .append, args := #[s, x], argTypes := #[102, 102] }) (w : World)
  (base:Nat) (sv:Option Addr) (cv:Nat) (hs:a.eval s=.slice sv 0 cv) (hown:OwnT5 w base (.slice sv 0 cv) []) (sx:Option Addr) (c:Nat) (l:List I5) {lo hi:Nat} (hx:a.eval x=.slice sx l.length c) (hr:InsR w lo hi sx l) (hn:l.length≤1073741824) (hbase:base≤w.heap.size)
  (h:∀ s' c' w',OwnT5 w' base (.slice s' l.length c') l→Copied w w' sv cv base l.length s' c'→wpList Tryz.prog ops Q rest (a.put o.dst (.slice s' l.length c')) w'):wpList Tryz.prog ops Q (o::rest) a w:=
 wpList_plain hgd fun _ hK=>wp_copyS s x hty ho base sv cv hs hown sx c l hx hr hn hbase fun s' c' w' h1 h2=>hK _ _ (h s' c' w' h1 h2)
/- one more row of steps -/
structure PushedC (w w':World) (base:Nat) (v:Value) (L:List CV) (y:CV) (g cap:Nat):Prop where
 own:OwnC w' base (.slice (some ⟨g,0,none⟩) (L.length+1) cap) (L++[y])
 low:Below base w w'
theorem app_rowC {ops : Array Oper} {rest : List Oper} {o : Oper} {a : Act} {Q : Exit → Act → World → Prop} (hgd : o.guard = none) (s x : Operand) (ho : o.op = .call { callee := .builtin .append, args := #[s, x], argTypes := #[31, 31] })
  (w:World) (base:Nat) (v:Value) (L:List CV) (y:CV) (hs:a.eval s=v) (hown:OwnC w base v L) (hy:OwnT5 w base y.v y.l) (h1:y.v.oneCell'=true) (hx:a.eval x=.slice (some ⟨w.heap.size,0,none⟩) 1 1) (hn:L.length≤1073741824) (hbase:base≤w.heap.size)
  (hsep:∀ (i:Nat) (z:CV) (k:Nat),L[i]? =some z→y.v.ownBlock=some k→z.v.ownBlock≠some k)
  (h:∀ g cap w',PushedC w w' base v L y g cap→wpList Tryz.prog ops Q rest (a.put o.dst (.slice (some ⟨g,0,none⟩) (L.length+1) cap)) w'):
  wpList Tryz.prog ops Q (o::rest) a (w.alloc (.cells #[y.v] 102)):=by
 obtain ⟨i0,hi,hz0,hz1,hz2⟩:=infoCd
 have h1':(w.alloc (.cells #[y.v] 102)).ownsRow base 102 1 v L.length (L.map CV.v):=ownKeep' hown.row (fun k hk=>Below.heap_alloc _ _ _ (World.ownsRow.lt hown.row _ hk).2)
 refine wpList_append_lies _ hgd s x 31 ho base 102 i0 _ 1 24 Tryz.underlying31 hi hz0 hz1 hz2 rfl (by decide) v L.length _ hs h1' ⟨w.heap.size,0,none⟩ 1 1 [y.v] hx rfl (fun j u hj=>?_) (fun u hu=>by simp at hu;subst hu;exact h1) (by decide) (by unfold maxLen;omega) (by omega) (by simp;omega) _ rfl ?_
 ·match j,hj with
  | 0,hj=>simpa [Addr.add,go_sem] using hj
  | j+1,hj=>simp at hj
 intro g cap w' q1 q2 q3 q4
 have hb:Below base w w':=Below.grown (((Below.refl _ _).alloc hbase _)) q2 (by simp;omega) (fun j hj=>(World.ownsRow.lt h1' _ hj).1)
 have hf:∀ k,k < w.heap.size→v.ownBlock≠some k→w'.heap[k]? =w.heap[k]? :=fun k hk hne=>(q2.block k (by simp;omega) (fun e=>hne e.symm)).trans (Below.heap_alloc _ _ _ hk)
 exact h g cap w' ⟨OwnC.push hown hy hsep q1 hf,hb⟩
end
section
open Go.RowKit
structure PushedK (w w':World) (base:Nat) (v:Value) (L:List KV) (y:KV) (g cap:Nat):Prop where
 own:OwnK w' base (.slice (some ⟨g,0,none⟩) (L.length+1) cap) (L++[y])
 low:Below base w w'
 far:∀ k,k < w.heap.size→v.ownBlock≠some k→w'.heap[k]? =w.heap[k]?
theorem wp_recK {o : Oper} {a : Act} {K : Act → World → Prop} {Q : Exit → Act → World → Prop} (s x : Operand) (ho : o.op = .call { callee := .builtin .append, args := #[s, x], argTypes := #[32, 32] })
  (w:World) (base:Nat) (v:Value) (L:List KV) (y:KV) (hs:a.eval s=v) (hown:OwnK w base v L) (hy:OwnN w base y.r y.d.regs∧OwnN w base y.v y.d.vw) (ht:∀ k,y.r.ownBlock=some k→y.v.ownBlock≠some k) (h1:y.r.oneCell'=true) (h2:y.v.oneCell'=true) (g0:Nat) (hg:g0=w.heap.size) (hx:a.eval x=.slice (some ⟨g0,0,none⟩) 1 1) (hn:L.length≤1073741824) (hbase:base≤w.heap.size)
  (hsep:∀ (i:Nat) (z:KV) (k:Nat),L[i]? =some z→(y.r.ownBlock=some k∨y.v.ownBlock=some k)→¬ (z.r.ownBlock=some k∨z.v.ownBlock=some k))
  (h:∀ g cap w',PushedK w w' base v L y g cap→K (a.put o.dst (.slice (some ⟨g,0,none⟩) (L.length+1) cap)) w'):
  Oper.wp Tryz.prog o a (w.alloc (.cells #[.int .i64 y.d.pc,y.r,y.v,.int .i64 y.d.st] 53)) K Q:=by
 subst hg
 obtain ⟨i0,hi,hz0,hz1,hz2⟩:=infoKo
 have h1':(w.alloc (.cells #[.int .i64 y.d.pc,y.r,y.v,.int .i64 y.d.st] 53)).ownsRow base 53 4 v L.length (flatK L):=ownKeep' hown.row (fun k hk=>Below.heap_alloc _ _ _ (World.ownsRow.lt hown.row _ hk).2)
 refine wp_append_lies _ s x 32 ho base 53 i0 _ 4 64 Tryz.underlying32 hi hz0 hz1 hz2 rfl (by decide) v L.length _ hs h1' ⟨w.heap.size,0,none⟩ 1 1 [.int .i64 y.d.pc,y.r,y.v,.int .i64 y.d.st] hx rfl (fun j u hj=>?_) (fun u hu=>by simp at hu;rcases hu with rfl | rfl | rfl | rfl;rfl;exact h1;exact h2;rfl) (by decide) (by unfold maxLen;omega) (by omega) (by simp;omega) _ rfl ?_
 ·match j,hj with
  | 0,hj=>simpa [Addr.add,go_sem] using hj
  | 1,hj=>simpa [Addr.add,go_sem] using hj
  | 2,hj=>simpa [Addr.add,go_sem] using hj
  | 3,hj=>simpa [Addr.add,go_sem] using hj
  | j+4,hj=>simp at hj
 intro g cap w' q1 q2 q3 q4
 have hb:Below base w w':=Below.grown (((Below.refl _ _).alloc hbase _)) q2 (by simp;omega) (fun j hj=>(World.ownsRow.lt h1' _ hj).1)
 have hf:∀ k,k < w.heap.size→v.ownBlock≠some k→w'.heap[k]? =w.heap[k]? :=fun k hk hne=>(q2.block k (by simp;omega) (fun e=>hne e.symm)).trans (Below.heap_alloc _ _ _ hk)
 exact h g cap w' ⟨OwnK.push hown hy ht hsep q1 hf,hb,hf⟩
theorem step_recK {ops : Array Oper} {o : Oper} {a : Act} {K : Act → World → Prop} {Q : Exit → Act → World → Prop} {E : Prop} (hgd : o.guard = none) (s x : Operand) (ho : o.op = .call { callee := .builtin .append, args := #[s, x], argTypes := #[32, 32] })
  (w:World) (base:Nat) (v:Value) (L:List KV) (y:KV) (hs:a.eval s=v) (hown:OwnK w base v L) (hy:OwnN w base y.r y.d.regs∧OwnN w base y.v y.d.vw) (ht:∀ k,y.r.ownBlock=some k→y.v.ownBlock≠some k) (h1:y.r.oneCell'=true) (h2:y.v.oneCell'=true) (g0:Nat) (hg:g0=w.heap.size) (hx:a.eval x=.slice (some ⟨g0,0,none⟩) 1 1) (hn:L.length≤1073741824) (hbase:base≤w.heap.size)
  (hsep:∀ (i:Nat) (z:KV) (k:Nat),L[i]? =some z→(y.r.ownBlock=some k∨y.v.ownBlock=some k)→¬ (z.r.ownBlock=some k∨z.v.ownBlock=some k))
  (h:∀ g cap w',PushedK w w' base v L y g cap→K (a.put o.dst (.slice (some ⟨g,0,none⟩) (L.length+1) cap)) w'):
  if Region.wanted o (yielded ops a.tmps)=true then Oper.wp Tryz.prog o a (w.alloc (.cells #[.int .i64 y.d.pc,y.r,y.v,.int .i64 y.d.st] 53)) K Q else E:=by
 have hw:Region.wanted o (yielded ops a.tmps)=true:=by simp [Region.wanted,hgd]
 rw [if_pos hw]
 exact wp_recK s x ho w base v L y hs hown hy ht h1 h2 g0 hg hx hn hbase hsep h
end
section
open Go.RowKit
set_option maxHeartbeats 1000000 in
theorem sameCodes_any (s : Option Addr) (c lo hi : Nat) (l : List (List I5)) (w : World) (h : CsR w lo hi s l) (hB : hi ≤ w.heap.size) (hl : l.length + szC l ≤ 1048576) :
  Calls Tryz.prog 94 #[.slice s l.length c] w fun e w'=>∃ v L,e=.returned v∧L.map CV.l=l∧OwnC w' w.heap.size v L∧Below w.heap.size w w':=by
 have H:Hid (CsR w lo hi s l):=h
 have HV:Hid (∀ (i:Nat) (x:List I5),l[i]? =some x→x.length≤1048576):=fun i x hx=>by have:=szC_at l i x hx;omega
 clear h
 go_enter Tryz.func94,Tryz.ntmps94
 go_wp2
 go_loopw [3,8] (fun v i wr=>∃ (k:Nat) (L:List CV),k≤l.length∧i=.int .i64 k∧L.length=k∧L.map CV.l=l.take k∧OwnC wr w.heap.size v L∧Below w.heap.size w wr) (fun _ i _=>l.length - (intOf i).toNat)
 case atStart=>exact ⟨0,[],Nat.zero_le _,rfl,rfl,rfl,OwnC.nil _ _,Below.refl _ _⟩
 case round=>
  obtain ⟨k,L,hk,rfl,hL,hM,ho,hb⟩:=hrel
  obtain ⟨sv,cv,ev⟩:=ownSl ho.row
  rw [hL] at ev
  subst ev
  have HO:Hid (OwnC wr w.heap.size (.slice sv k cv) L):=ho
  have HB:Hid (Below w.heap.size w wr):=hb
  have HL:Hid (L.length=k):=hL
  have HM:Hid (L.map CV.l=l.take k):=hM
  have hz:=hb.size
  clear ho hb hL hM
  by_cases hlt:k < l.length
  ·obtain ⟨x,hx⟩:∃ x,l[k]? =some x:=⟨_,List.getElem?_eq_getElem hlt⟩
   obtain ⟨g,o,s1,c1,e1,q1,q2,q3,q5⟩:=(H.out.keep (Keep.of_below HB.out hB)).at hx
   subst e1
   have hv:=HV.out k x hx
   have HI:Hid (InsR wr lo hi s1 x):=q5
   have HX:Hid (l[k]? =some x):=hx
   clear q5 hx
   have b0:(0:Int)≤(k:Int):=by omega
   have b1:(k:Int) < (l.length:Int):=by omega
   have zg:g < wr.heap.size:=by omega
   go_wp2_with (first | (at_builtin;refine app_copyS rfl _ _ rfl rfl wr wr.heap.size none 0 rfl (World.ownsRow_nil _ _ _ _) s1 c1 x (by rfl) (HI.out) (by omega) (Nat.le_refl _) ?_;intro s5 c5 w5 ho5 hc5;have O5:=(show Hid (OwnT5 w5 wr.heap.size (.slice s5 x.length c5) x) from ho5);have K5:=(show Hid (Below wr.heap.size wr w5) from hc5.low);have Z5:=(show Hid (∀ k,(Value.slice s5 x.length c5).ownBlock=some k→wr.heap.size≤k) from fun k hk=>(World.ownsRow.lt ho5 _ hk).1);clear ho5 hc5) | (at_builtin;refine app_rowC rfl _ _ rfl w5 w.heap.size (.slice sv k cv) L ⟨x,.slice s5 x.length c5⟩ rfl (HO.out.below K5.out) (ownLow' O5.out (by omega)) rfl (by rfl) (by have:=HL.out;omega) (by have:=K5.out.size;omega) (fun i z kk hz1 hk1 hk2=>by have h1:=Z5.out kk hk1;have h2:=(World.ownsRow.lt (HO.out.inn i z hz1) _ hk2).2;omega) ?_;intro g6 c6 w6 hp6;have P6:=(show Hid (OwnC w6 w.heap.size (.slice (some ⟨g6,0,none⟩) (L.length+1) c6) (L++[⟨x,.slice s5 x.length c5⟩])) from hp6.own);have K6:=(show Hid (Below w.heap.size w w6) from (HB.out.trans (K5.out.mono hz)).trans hp6.low);clear hp6))
   go_roundw
   case rel=>
    refine ⟨k+1,L++[⟨x,.slice s5 x.length c5⟩],by omega,by go_num,by simp [HL.out],?_,P6.out,K6.out⟩
    rw [List.map_append,HM.out,List.take_add_one,HX.out]
    rfl
   case measure=>simp [intOf];omega
  ·go_wp2
   go_ret
   have e:k=l.length:=by omega
   have hm:=HM.out
   rw [List.take_of_length_le (by omega)] at hm
   exact ⟨_,L,rfl,hm,HO.out,HB.out⟩
set_option maxHeartbeats 1000000 in
theorem l8Codes_any (s : Option Addr) (c lo hi : Nat) (l : List (List I5)) (w : World) (h : CsR w lo hi s l) (hB : hi ≤ w.heap.size) (hl : l.length + szC l ≤ 1048576) :
  Calls Tryz.prog 59 #[.slice s l.length c] w fun e w'=>∃ v L,e=.returned v∧L.map CV.l=l∧OwnC w' w.heap.size v L∧Below w.heap.size w w':=by
 have H:Hid (CsR w lo hi s l):=h
 have HV:Hid (∀ (i:Nat) (x:List I5),l[i]? =some x→x.length≤1048576):=fun i x hx=>by have:=szC_at l i x hx;omega
 clear h
 go_enter Tryz.func59,Tryz.ntmps59
 go_wp2
 go_loopw [3,4] (fun v i wr=>∃ (k:Nat) (L:List CV),k≤l.length∧i=.int .i64 k∧L.length=k∧L.map CV.l=l.take k∧OwnC wr w.heap.size v L∧Below w.heap.size w wr) (fun _ i _=>l.length - (intOf i).toNat)
 case atStart=>exact ⟨0,[],Nat.zero_le _,rfl,rfl,rfl,⟨World.ownsRow_lit w #[] 0 (Nat.le_refl _) (by unfold maxLen;omega) rfl,fun i x hx=>by simp at hx,fun i j x y k hx=>by simp at hx⟩,(Below.refl _ _).alloc (Nat.le_refl _) _⟩
 case round=>
  obtain ⟨k,L,hk,rfl,hL,hM,ho,hb⟩:=hrel
  obtain ⟨sv,cv,ev⟩:=ownSl ho.row
  rw [hL] at ev
  subst ev
  have HO:Hid (OwnC wr w.heap.size (.slice sv k cv) L):=ho
  have HB:Hid (Below w.heap.size w wr):=hb
  have HL:Hid (L.length=k):=hL
  have HM:Hid (L.map CV.l=l.take k):=hM
  have hz:=hb.size
  clear ho hb hL hM
  by_cases hlt:k < l.length
  ·obtain ⟨x,hx⟩:∃ x,l[k]? =some x:=⟨_,List.getElem?_eq_getElem hlt⟩
   obtain ⟨g,o,s1,c1,e1,q1,q2,q3,q5⟩:=(H.out.keep (Keep.of_below HB.out hB)).at hx
   subst e1
   have hv:=HV.out k x hx
   have HI:Hid (InsR wr lo hi s1 x):=q5
   have HX:Hid (l[k]? =some x):=hx
   clear q5 hx
   have b0:(0:Int)≤(k:Int):=by omega
   have b1:(k:Int) < (l.length:Int):=by omega
   have zg:g < wr.heap.size:=by omega
   go_wp2_with (first | (at_builtin;refine app_copyS rfl _ _ rfl rfl (wr.alloc (.cells #[] 141)) wr.heap.size (some ⟨wr.heap.size,0,none⟩) 0 rfl (World.ownsRow_lit wr #[] 0 (Nat.le_refl _) (by unfold maxLen;omega) rfl) s1 c1 x (by rfl) (HI.out.keep (Keep.of_below ((Below.refl wr.heap.size wr).alloc (Nat.le_refl _) _) (by omega))) (by omega) (by simp) ?_;intro s5 c5 w5 ho5 hc5;have O5:=(show Hid (OwnT5 w5 wr.heap.size (.slice s5 x.length c5) x) from ho5);have K5:=(show Hid (Below wr.heap.size wr w5) from ((Below.refl wr.heap.size wr).alloc (Nat.le_refl _) _).trans hc5.low);have Z5:=(show Hid (∀ k,(Value.slice s5 x.length c5).ownBlock=some k→wr.heap.size≤k) from fun k hk=>(World.ownsRow.lt ho5 _ hk).1);clear ho5 hc5) | (at_builtin;refine app_rowC rfl _ _ rfl w5 w.heap.size (.slice sv k cv) L ⟨x,.slice s5 x.length c5⟩ rfl (HO.out.below K5.out) (ownLow' O5.out (by omega)) rfl (by rfl) (by have:=HL.out;omega) (by have:=K5.out.size;omega) (fun i z kk hz1 hk1 hk2=>by have h1:=Z5.out kk hk1;have h2:=(World.ownsRow.lt (HO.out.inn i z hz1) _ hk2).2;omega) ?_;intro g6 c6 w6 hp6;have P6:=(show Hid (OwnC w6 w.heap.size (.slice (some ⟨g6,0,none⟩) (L.length+1) c6) (L++[⟨x,.slice s5 x.length c5⟩])) from hp6.own);have K6:=(show Hid (Below w.heap.size w w6) from (HB.out.trans (K5.out.mono hz)).trans hp6.low);clear hp6))
   go_roundw
   case rel=>
    refine ⟨k+1,L++[⟨x,.slice s5 x.length c5⟩],by omega,by go_num,by simp [HL.out],?_,P6.out,K6.out⟩
    rw [List.map_append,HM.out,List.take_add_one,HX.out]
    rfl
   case measure=>simp [intOf];omega
  ·go_wp2
   go_ret
   have e:k=l.length:=by omega
   have hm:=HM.out
   rw [List.take_of_length_le (by omega)] at hm
   exact ⟨_,L,rfl,hm,HO.out,HB.out⟩
end
end
end Go.Proofs.YtlbeploopclegaaGreat
