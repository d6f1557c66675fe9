/- MachineNew of the specification. Conditions: the codes are counted. The frame of a law over drawn bytes: they are a slice of bytes in memory; laws.big counts them. No condition. What the law of the lock reads and makes: its letters, its steps, its picks. No condition. l7DrawStep: a step is drawn; the cursor's own block alone is turned. Conditions: the cursor and its bytes lie in memory as the reading says; 1 to 256 places. A drawn step is right for its places. Conditions: the cursor and its bytes lie in memory as the reading says; 1 to 256 places. l7Spoil: a step is drawn and perhaps spoiled. Conditions: the cursor and its bytes lie in memory as the reading says; 1 to 256 places. -/
import Derived.Test.YtkhjhibigldcgaaLG00
import Derived.Test.YtkhjhibigldcgaaLG07
import Derived.Test.YtkhjhibigldcgaaLG02
import Derived.Test.YtkhjhibigldcgaaLG06
import Derived.Test.YtkhjhibigldcgaaLG03
import Derived.Test.YtkhjhibigldcgaaLG01
import Derived.Test.YtkhjhibigldcgaaLC7SpA
import Derived.Test.YtkhjhibigldcgaaLG12
import Derived.Test.YtkhjhibigldcgaaLKOkS
import Derived.Test.YtkhjhibigldcgaaRows
import Derived.Test.YtkhjhibigldcgaaLG08
import Derived.ProofKit
import Derived.OpenShut
import Derived.ShutString
import Derived.ChangeOld
import Derived.ChangeSlices
import Derived.Test.YtkhjhibigldcgaaLDraw2
import Derived.Test.YtkhjhibigldcgaaLDraw1
namespace Go.Proofs.Ytkhjhibigldcgaa
section
set_option linter.unusedSimpArgs false
set_option linter.unusedVariables false
set_option maxRecDepth 100000
open Go.RowKit
set_option maxHeartbeats 400000 in
theorem specMachineOk_long (s1 s2 s3 s4 : Option Addr) (c1 c2 c3 c4 n1 n2 n3 n4 : Nat) (w : World) (hn : Plain.inB (n1 : Int) 1 4 = false) :
  Calls Try.prog 72 #[.agg #[.slice s1 n1 c1,.slice s2 n2 c2,.slice s3 n3 c3,.slice s4 n4 c4]] w fun e w'=>e=.returned (.bool false)∧Below w.heap.size w w':=by
 go_enter Try.func72,Try.ntmps72
 go_wp2_with (go_at_call 21;refine (l1In_is _ _ _ _ _ hn).mono ?_;rintro e w' ⟨rfl,rfl⟩)
 go_ret
 exact ⟨rfl,(Below.refl _ _).alloc (Nat.le_refl _) _⟩
theorem specMachNew_ok (s1 s2 s3 : Option Addr) (c1 c2 c3 lo hi : Nat) (l : List (List I5)) (w : World) (h : MaR w lo hi s1 s2 s3 none (newMd l)) (hB : hi ≤ w.heap.size) (hl : l.length + szC l ≤ 1048576) :
  Calls Try.prog 72 #[.agg #[.slice s1 l.length c1,.slice s2 l.length c2,.slice s3 24 c3,.slice none 0 0]] w fun e w'=>e=.returned (.bool (codesB l))∧Below w.heap.size w w':=by
 cases hn:Plain.inB (l.length:Int) 1 4 with
 | true=>
  have C:=specMachineOk_any s1 s2 s3 none c1 c2 c3 0 lo hi (newMd l) w h hB (fits_new hl (by simp [Plain.inB] at hn;omega))
  rw [mach_new] at C
  simp only [newMd,List.length_replicate,newM_len,List.length_nil] at C
  exact C
 | false=>
  have e:codesB l=false:=by
   unfold codesB
   rw [decide_eq_false (by simp [Plain.inB] at hn;omega)]
   rfl
  rw [e]
  exact specMachineOk_long s1 s2 s3 none c1 c2 c3 0 l.length l.length 24 0 w hn
end
section
set_option linter.unusedSimpArgs false
set_option linter.unusedVariables false
set_option maxRecDepth 100000
open Go.ChangeShapes Go.WideShapes Go.ChangeAt Go.RowKit
theorem retB {x y:Bool} (h:x=y):Ending.returned (.bool x)=Ending.returned (.bool y):=by rw [h]
theorem big_any (s:Option Addr) (n c:Nat) (w:World):Calls Try.prog 4 #[.slice s n c] w fun e w'=>e=.returned (.bool (decide (1048576 < n)))∧w'=w:=by
 go_enter Try.func4,Try.ntmps4
 go_wp2
 go_ret
 refine ⟨retB ?_,rfl⟩
 rw [Bool.eq_iff_iff]
 simp
 omega
theorem ownS:ownKnob Try.prog.godebug=none:=by kernel_rfl
theorem laidOutS:laidOutB Try.prog=true:=by kernel_rfl
theorem bytes_read {H : Type} {enc : TypeId × Value → H} {w : World} {base b0 : Nat} {held : Bool} {k : Reach} {v : Value} {d : DataW H} {p : List MemPlace}
  (hv:Value.okWide Try.prog w k b0 22 v) (h:DataW.Trod enc Try.prog w base (fun _=>true) held 22 v d p):
  ∃ (s:Option Addr) (n c:Nat),v=.slice s n c∧n≤maxLen∧Bytes w w.heap.size s n:=by
 obtain ⟨s,len,cap,rfl⟩:=okWide_slice Try.underlying22 hv
 obtain ⟨fuel,hf⟩:=h
 rcases open_ints Try.underlying22 Try.underlying5 (by kernel_rfl) hf with ⟨hcs,_⟩ | ⟨a,l,c,zs,hcs,_,hl,hm,hz,_,hcell,hwz⟩
 ·simp [Value.cells] at hcs
  obtain ⟨rfl,rfl,rfl⟩:=hcs
  exact ⟨none,0,0,rfl,Nat.zero_le _,.inl rfl⟩
 ·simp [Value.cells] at hcs
  obtain ⟨rfl,rfl,rfl⟩:=hcs
  simp at hz
  refine ⟨some a,len,cap,rfl,by omega,?_⟩
  by_cases h0:len=0
  ·exact .inl h0
  ·have c0:=hcell 0 (by omega)
   have c0':w.cell? a=some (.int .u8 (zs.getD 0 0)):=by simpa [Addr.add] using c0
   have hs:=World.cell?_spot c0'
   have hg:a.block < w.heap.size:=by
    apply Classical.byContradiction
    intro hn
    have:w.heap[a.block]? =none:=by simp;omega
    simp [World.cell?,this] at c0'
   obtain ⟨g,off,spot⟩:=a
   simp at hs
   subst hs
   refine .inr ⟨g,off,rfl,hg,fun i hi=>?_⟩
   have ci:=hcell i (by omega)
   have e:(Addr.add ⟨g,off,none⟩ i)=⟨g,off+i,none⟩:=by
    by_cases h:i=0
    ·subst h;rfl
    ·simp [Addr.add,h]
   rw [e] at ci
   have hmem:zs.getD i 0∈zs:=by
    rw [List.getD_eq_getElem?_getD,List.getElem?_eq_getElem (by omega)]
    exact List.getElem_mem (by omega)
   have hw:=bounds_u8 (hwz _ hmem)
   exact ⟨_,ci,by omega,by omega⟩
theorem Bytes.up {w w':World} {s:Option Addr} {n:Nat} (h:Bytes w w.heap.size s n) (hb:Below w.heap.size w w'):Bytes w' w'.heap.size s n:=by
 have hz:=hb.size
 rcases h with h | ⟨g,o,hs,hg,hc⟩
 ·exact .inl h
 ·refine .inr ⟨g,o,hs,by omega,fun k hk=>?_⟩
  obtain ⟨b,h1,h2⟩:=hc k hk
  exact ⟨b,(hb.cell (p:=⟨g,o+k,none⟩) hg).trans h1,h2⟩
end
section
set_option linter.unusedSimpArgs false
set_option linter.unusedVariables false
set_option maxRecDepth 100000
open Go.RowKit
def OwnPk (w:World) (base:Nat) (v:Value) (l:List ND):Prop:=w.ownsRow base 91 2 v l.length (flatN l)
theorem OwnPk.nts {w:World} {base:Nat} {v:Value} {l:List ND} (h:OwnPk w base v l):∃ s c,v=.slice s l.length c∧NtsR w base w.heap.size s l:=by
 rcases Nat.eq_zero_or_pos l.length with h0 | hpos
 ·obtain ⟨s,c,e⟩:=ownSl h
  exact ⟨s,c,e,.inl (List.length_eq_zero_iff.1 h0)⟩
 ·obtain ⟨g,cap,rfl,-⟩:=World.ownsRow.form h hpos
  have hlt:=World.ownsRow.lt h g rfl
  refine ⟨_,_,rfl,.inr ⟨g,0,rfl,hlt.1,hlt.2,fun i r hr=>?_⟩⟩
  have hi:i < l.length:=(List.getElem?_eq_some_iff.1 hr).1
  obtain ⟨e0,e1⟩:=flatN_at l i r hr
  refine ⟨?_,?_⟩
  ·rw [Nat.zero_add,World.ownsRow.cellAt h _ (by omega)];exact e0
  ·rw [Nat.zero_add,World.ownsRow.cellAt h _ (by omega)];exact e1
theorem infoPk:∃ i,Try.prog.info? 91=some i∧i.zero=some (.agg #[.int .i64 0,.int .i64 0])∧i.size=2∧i.bytes=16:=⟨_,rfl,rfl,rfl,rfl⟩
theorem wp_pick {o : Oper} {a : Act} {w : World} {K : Act → World → Prop} {Q : Exit → Act → World → Prop} (s x : Operand) (ho : o.op = .call { callee := .builtin .append, args := #[s, x], argTypes := #[75, 75] })
  (base:Nat) (v:Value) (n:Nat) (xs:List Value) (hs:a.eval s=v) (hown:w.ownsRow base 91 2 v n xs) (g0:Nat) (u0 u1:Value) (hu0:u0.oneCell'=true) (hu1:u1.oneCell'=true) (hx:a.eval x=.slice (some ⟨g0,0,none⟩) 1 1) (hc0:w.cell? ⟨g0,0,none⟩=some u0) (hc1:w.cell? ⟨g0,1,none⟩=some u1) (hn:n≤1073741824) (hbase:base≤w.heap.size)
  (h:∀ g cap w',w'.ownsRow base 91 2 (.slice (some ⟨g,0,none⟩) (n+1) cap) (n+1) (xs++[u0,u1])→w.grownBy w' v.ownBlock→(v.ownBlock=some g∨w.heap.size≤g)→g < w'.heap.size→K (a.put o.dst (.slice (some ⟨g,0,none⟩) (n+1) cap)) w'):Oper.wp Try.prog o a w K Q:=by
 obtain ⟨i0,hi,hz0,hz1,hz2⟩:=infoPk
 refine wp_append_lies w s x 75 ho base 91 i0 _ 2 16 Try.underlying75 hi hz0 hz1 hz2 rfl (by decide) v n xs hs hown ⟨g0,0,none⟩ 1 1 [u0,u1] hx rfl (fun j u' hj=>?_) (fun u' hu'=>by simp at hu';rcases hu' with rfl | rfl<;>assumption) (by decide) (by unfold maxLen;omega) (by omega) hbase _ rfl ?_
 ·match j,hj with
  | 0,hj=>simp at hj;subst hj;simpa [Addr.add] using hc0
  | 1,hj=>simp at hj;subst hj;simpa [Addr.add] using hc1
  | j+2,hj=>simp at hj
 ·intro g cap w' q1 q2 q3 q4
  exact h g cap w' q1 q2 (by rcases q3 with q3 | q3<;>first | exact .inl q3 | exact .inr (by omega)) q4
theorem app_pick {ops : Array Oper} {rest : List Oper} {o : Oper} {a : Act} {Q : Exit → Act → World → Prop} (hgd : o.guard = none) (s x : Operand) (ho : o.op = .call { callee := .builtin .append, args := #[s, x], argTypes := #[75, 75] })
  (w:World) (base:Nat) (v:Value) (n:Nat) (xs:List Value) (hs:a.eval s=v) (hown:w.ownsRow base 91 2 v n xs) (g0:Nat) (u0 u1:Value) (hu0:u0.oneCell'=true) (hu1:u1.oneCell'=true) (hx:a.eval x=.slice (some ⟨g0,0,none⟩) 1 1) (hc0:w.cell? ⟨g0,0,none⟩=some u0) (hc1:w.cell? ⟨g0,1,none⟩=some u1) (hn:n≤1073741824) (hbase:base≤w.heap.size)
  (h:∀ g cap w',w'.ownsRow base 91 2 (.slice (some ⟨g,0,none⟩) (n+1) cap) (n+1) (xs++[u0,u1])→w.grownBy w' v.ownBlock→(v.ownBlock=some g∨w.heap.size≤g)→g < w'.heap.size→wpList Try.prog ops Q rest (a.put o.dst (.slice (some ⟨g,0,none⟩) (n+1) cap)) w'):wpList Try.prog ops Q (o::rest) a w:=
 wpList_plain hgd fun _ hK=>wp_pick s x ho base v n xs hs hown g0 u0 u1 hu0 hu1 hx hc0 hc1 hn hbase fun g cap w' h1 h2 h3 h4=>hK _ _ (h g cap w' h1 h2 h3 h4)
theorem X4.put4 {V:World} {b lo hi:Nat} {v0 v1 v2 v3:Value} {s1 s2 s3 s4:Option Addr} {E:MD} (a b' c d:Value) (h:X4 V b v0 v1 v2 v3) (hm:MaR V lo hi s1 s2 s3 s4 E) (hb:b < lo):∃ Z,(((V.setCell ⟨b,0,none⟩ a).setCell ⟨b,1,none⟩ b').setCell ⟨b,2,none⟩ c).setCell ⟨b,3,none⟩ d=Z∧X4 Z b a b' c d∧MaR Z lo hi s1 s2 s3 s4 E∧Z.heap.size=V.heap.size∧(∀ q,q≠b→Z.heap[q]? =V.heap[q]?)∧∀ (B:Nat) (A:World),Below B A V→B≤b→Below B A Z:=by
 refine ⟨_,rfl,h.set0.set1.set2.set3,hm.keep ?_,by simp,fun q hq=>?_,fun B A k hB=>?_⟩
 ·exact fun q h1 _=>(Below.heap_setCell _ ⟨b,_,none⟩ _ q (by show q≠b;omega)).trans ((Below.heap_setCell _ ⟨b,_,none⟩ _ q (by show q≠b;omega)).trans ((Below.heap_setCell _ ⟨b,_,none⟩ _ q (by show q≠b;omega)).trans (Below.heap_setCell _ ⟨b,_,none⟩ _ q (by show q≠b;omega))))
 ·exact (Below.heap_setCell _ ⟨b,_,none⟩ _ q hq).trans ((Below.heap_setCell _ ⟨b,_,none⟩ _ q hq).trans ((Below.heap_setCell _ ⟨b,_,none⟩ _ q hq).trans (Below.heap_setCell _ ⟨b,_,none⟩ _ q hq)))
 ·exact (((k.setCell (p:=⟨b,_,none⟩) hB _).setCell (p:=⟨b,_,none⟩) hB _).setCell (p:=⟨b,_,none⟩) hB _).setCell (p:=⟨b,_,none⟩) hB _
end
section
set_option linter.unusedSimpArgs false
set_option linter.unusedVariables false
set_option maxRecDepth 100000
open Go.RowKit
end
section
set_option linter.unusedSimpArgs false
set_option linter.unusedVariables false
set_option maxRecDepth 100000
open Go.RowKit
end
section
set_option linter.unusedSimpArgs false
set_option linter.unusedVariables false
set_option maxRecDepth 100000
open Go.RowKit
end
end Go.Proofs.Ytkhjhibigldcgaa
