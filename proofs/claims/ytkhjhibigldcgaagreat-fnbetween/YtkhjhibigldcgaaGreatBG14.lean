/- The frame of a law over drawn bytes: they are a slice of bytes in memory; laws.big counts them. No condition. What the law of the lock reads and makes: its letters, its steps, its picks. No condition. Cores copied by the specification. Conditions: their rows of at most 1048576. A machine copied by the specification. Conditions: it is counted. The draws of chapter 1 of a place: each makes a place of five numbers, and turns the cursor's own block alone. Conditions: the cursor and its bytes lie in memory as the reading says. What Store leaves, as lists; hasRoom. No condition. A memory that a call has made: its outer row may be written too. No condition. MemoryNew of the specification: its rows are owned whole. No condition. MemoryNew of the specification: its memory may be written. No condition. Whether a cell may be read, in the specification. Conditions: memories that are counted. Store of the specification: its memory may be written. Conditions: memories that are counted, views of at most 2^20. Swap of the program. Conditions: memories that are counted, views of at most 2^20. Swap of the specification: its memory may be written. Conditions: memories that are counted, views of at most 2^20. What holds of every memory that chapter 6 draws: 24 rows with something in each, views of 24, and how much there is. No condition. l6DrawRight: a memory and a view are drawn; the cursor's own block alone is turned. Conditions: the cursor and its bytes lie in memory as the reading says. A row of rooms is drawn. Conditions: the cursor lies in memory. -/
import Derived.Test.YtkhjhibigldcgaaGreatBG00
import Derived.Test.YtkhjhibigldcgaaGreatRows
import Derived.Test.YtkhjhibigldcgaaGreatBG13
import Derived.ProofKit
import Derived.OpenShut
import Derived.ShutString
import Derived.ChangeOld
import Derived.ChangeSlices
import Derived.Test.YtkhjhibigldcgaaGreatBG07
import Derived.Test.YtkhjhibigldcgaaGreatBG10
import Derived.Test.YtkhjhibigldcgaaGreatBG04
import Derived.Test.YtkhjhibigldcgaaGreatBG12
import Derived.Test.YtkhjhibigldcgaaGreatBG11
import Derived.Test.YtkhjhibigldcgaaGreatBG08
import Derived.Test.YtkhjhibigldcgaaGreatBG05
import Derived.Deep.RegionHeld3
import Derived.Deep.DeepCutAuto
import Derived.Test.YtkhjhibigldcgaaGreatBG09
import Derived.Test.YtkhjhibigldcgaaGreatBMemStoreS
import Derived.Deep.RegionLaw
namespace Go.Proofs.YtkhjhibigldcgaaGreat
section
set_option linter.unusedSimpArgs false
set_option linter.unusedVariables false
set_option maxRecDepth 100000
open Go.ChangeShapes Go.WideShapes Go.ChangeAt Go.RowKit
theorem retB {x y:Bool} (h:x=y):Ending.returned (.bool x)=Ending.returned (.bool y):=by rw [h]
theorem big_any (s:Option Addr) (n c:Nat) (w:World):Calls Tryz.prog 4 #[.slice s n c] w fun e w'=>e=.returned (.bool (decide (1048576 < n)))∧w'=w:=by
 go_enter Tryz.func4,Tryz.ntmps4
 go_wp2
 go_ret
 refine ⟨retB ?_,rfl⟩
 rw [Bool.eq_iff_iff]
 simp
 omega
theorem ownS:ownKnob Tryz.prog.godebug=none:=by kernel_rfl
theorem laidOutS:laidOutB Tryz.prog=true:=by kernel_rfl
theorem bytes_read {H : Type} {enc : TypeId × Value → H} {w : World} {base b0 : Nat} {held : Bool} {k : Reach} {v : Value} {d : DataW H} {p : List MemPlace}
  (hv:Value.okWide Tryz.prog w k b0 22 v) (h:DataW.Trod enc Tryz.prog w base (fun _=>true) held 22 v d p):
  ∃ (s:Option Addr) (n c:Nat),v=.slice s n c∧n≤maxLen∧Bytes w w.heap.size s n:=by
 obtain ⟨s,len,cap,rfl⟩:=okWide_slice Tryz.underlying22 hv
 obtain ⟨fuel,hf⟩:=h
 rcases open_ints Tryz.underlying22 Tryz.underlying5 (by kernel_rfl) hf with ⟨hcs,_⟩ | ⟨a,l,c,zs,hcs,_,hl,hm,hz,_,hcell,hwz⟩
 ·simp [Value.cells] at hcs
  obtain ⟨rfl,rfl,rfl⟩:=hcs
  exact ⟨none,0,0,rfl,Nat.zero_le _,.inl rfl⟩
 ·simp [Value.cells] at hcs
  obtain ⟨rfl,rfl,rfl⟩:=hcs
  simp at hz
  refine ⟨some a,len,cap,rfl,by omega,?_⟩
  by_cases h0:len=0
  ·exact .inl h0
  ·have c0:=hcell 0 (by omega)
   have c0':w.cell? a=some (.int .u8 (zs.getD 0 0)):=by simpa [Addr.add] using c0
   have hs:=World.cell?_spot c0'
   have hg:a.block < w.heap.size:=by
    apply Classical.byContradiction
    intro hn
    have:w.heap[a.block]? =none:=by simp;omega
    simp [World.cell?,this] at c0'
   obtain ⟨g,off,spot⟩:=a
   simp at hs
   subst hs
   refine .inr ⟨g,off,rfl,hg,fun i hi=>?_⟩
   have ci:=hcell i (by omega)
   have e:(Addr.add ⟨g,off,none⟩ i)=⟨g,off+i,none⟩:=by
    by_cases h:i=0
    ·subst h;rfl
    ·simp [Addr.add,h]
   rw [e] at ci
   have hmem:zs.getD i 0∈zs:=by
    rw [List.getD_eq_getElem?_getD,List.getElem?_eq_getElem (by omega)]
    exact List.getElem_mem (by omega)
   have hw:=bounds_u8 (hwz _ hmem)
   exact ⟨_,ci,by omega,by omega⟩
theorem Bytes.up {w w':World} {s:Option Addr} {n:Nat} (h:Bytes w w.heap.size s n) (hb:Below w.heap.size w w'):Bytes w' w'.heap.size s n:=by
 have hz:=hb.size
 rcases h with h | ⟨g,o,hs,hg,hc⟩
 ·exact .inl h
 ·refine .inr ⟨g,o,hs,by omega,fun k hk=>?_⟩
  obtain ⟨b,h1,h2⟩:=hc k hk
  exact ⟨b,(hb.cell (p:=⟨g,o+k,none⟩) hg).trans h1,h2⟩
end
section
set_option linter.unusedSimpArgs false
set_option linter.unusedVariables false
set_option maxRecDepth 100000
open Go.RowKit
def OwnPk (w:World) (base:Nat) (v:Value) (l:List ND):Prop:=w.ownsRow base 75 2 v l.length (flatN l)
theorem OwnPk.nts {w:World} {base:Nat} {v:Value} {l:List ND} (h:OwnPk w base v l):∃ s c,v=.slice s l.length c∧NtsR w base w.heap.size s l:=by
 rcases Nat.eq_zero_or_pos l.length with h0 | hpos
 ·obtain ⟨s,c,e⟩:=ownSl h
  exact ⟨s,c,e,.inl (List.length_eq_zero_iff.1 h0)⟩
 ·obtain ⟨g,cap,rfl,-⟩:=World.ownsRow.form h hpos
  have hlt:=World.ownsRow.lt h g rfl
  refine ⟨_,_,rfl,.inr ⟨g,0,rfl,hlt.1,hlt.2,fun i r hr=>?_⟩⟩
  have hi:i < l.length:=(List.getElem?_eq_some_iff.1 hr).1
  obtain ⟨e0,e1⟩:=flatN_at l i r hr
  refine ⟨?_,?_⟩
  ·rw [Nat.zero_add,World.ownsRow.cellAt h _ (by omega)];exact e0
  ·rw [Nat.zero_add,World.ownsRow.cellAt h _ (by omega)];exact e1
theorem infoPk:∃ i,Tryz.prog.info? 75=some i∧i.zero=some (.agg #[.int .i64 0,.int .i64 0])∧i.size=2∧i.bytes=16:=⟨_,rfl,rfl,rfl,rfl⟩
theorem wp_pick {o : Oper} {a : Act} {w : World} {K : Act → World → Prop} {Q : Exit → Act → World → Prop} (s x : Operand) (ho : o.op = .call { callee := .builtin .append, args := #[s, x], argTypes := #[60, 60] })
  (base:Nat) (v:Value) (n:Nat) (xs:List Value) (hs:a.eval s=v) (hown:w.ownsRow base 75 2 v n xs) (g0:Nat) (u0 u1:Value) (hu0:u0.oneCell'=true) (hu1:u1.oneCell'=true) (hx:a.eval x=.slice (some ⟨g0,0,none⟩) 1 1) (hc0:w.cell? ⟨g0,0,none⟩=some u0) (hc1:w.cell? ⟨g0,1,none⟩=some u1) (hn:n≤1073741824) (hbase:base≤w.heap.size)
  (h:∀ g cap w',w'.ownsRow base 75 2 (.slice (some ⟨g,0,none⟩) (n+1) cap) (n+1) (xs++[u0,u1])→w.grownBy w' v.ownBlock→(v.ownBlock=some g∨w.heap.size≤g)→g < w'.heap.size→K (a.put o.dst (.slice (some ⟨g,0,none⟩) (n+1) cap)) w'):Oper.wp Tryz.prog o a w K Q:=by
 obtain ⟨i0,hi,hz0,hz1,hz2⟩:=infoPk
 refine wp_append_lies w s x 60 ho base 75 i0 _ 2 16 Tryz.underlying60 hi hz0 hz1 hz2 rfl (by decide) v n xs hs hown ⟨g0,0,none⟩ 1 1 [u0,u1] hx rfl (fun j u' hj=>?_) (fun u' hu'=>by simp at hu';rcases hu' with rfl | rfl<;>assumption) (by decide) (by unfold maxLen;omega) (by omega) hbase _ rfl ?_
 ·match j,hj with
  | 0,hj=>simp at hj;subst hj;simpa [Addr.add] using hc0
  | 1,hj=>simp at hj;subst hj;simpa [Addr.add] using hc1
  | j+2,hj=>simp at hj
 ·intro g cap w' q1 q2 q3 q4
  exact h g cap w' q1 q2 (by rcases q3 with q3 | q3<;>first | exact .inl q3 | exact .inr (by omega)) q4
theorem app_pick {ops : Array Oper} {rest : List Oper} {o : Oper} {a : Act} {Q : Exit → Act → World → Prop} (hgd : o.guard = none) (s x : Operand) (ho : o.op = .call { callee := .builtin .append, args := #[s, x], argTypes := #[60, 60] })
  (w:World) (base:Nat) (v:Value) (n:Nat) (xs:List Value) (hs:a.eval s=v) (hown:w.ownsRow base 75 2 v n xs) (g0:Nat) (u0 u1:Value) (hu0:u0.oneCell'=true) (hu1:u1.oneCell'=true) (hx:a.eval x=.slice (some ⟨g0,0,none⟩) 1 1) (hc0:w.cell? ⟨g0,0,none⟩=some u0) (hc1:w.cell? ⟨g0,1,none⟩=some u1) (hn:n≤1073741824) (hbase:base≤w.heap.size)
  (h:∀ g cap w',w'.ownsRow base 75 2 (.slice (some ⟨g,0,none⟩) (n+1) cap) (n+1) (xs++[u0,u1])→w.grownBy w' v.ownBlock→(v.ownBlock=some g∨w.heap.size≤g)→g < w'.heap.size→wpList Tryz.prog ops Q rest (a.put o.dst (.slice (some ⟨g,0,none⟩) (n+1) cap)) w'):wpList Tryz.prog ops Q (o::rest) a w:=
 wpList_plain hgd fun _ hK=>wp_pick s x ho base v n xs hs hown g0 u0 u1 hu0 hu1 hx hc0 hc1 hn hbase fun g cap w' h1 h2 h3 h4=>hK _ _ (h g cap w' h1 h2 h3 h4)
theorem X4.put4 {V:World} {b lo hi:Nat} {v0 v1 v2 v3:Value} {s1 s2 s3 s4:Option Addr} {E:MD} (a b' c d:Value) (h:X4 V b v0 v1 v2 v3) (hm:MaR V lo hi s1 s2 s3 s4 E) (hb:b < lo):∃ Z,(((V.setCell ⟨b,0,none⟩ a).setCell ⟨b,1,none⟩ b').setCell ⟨b,2,none⟩ c).setCell ⟨b,3,none⟩ d=Z∧X4 Z b a b' c d∧MaR Z lo hi s1 s2 s3 s4 E∧Z.heap.size=V.heap.size∧(∀ q,q≠b→Z.heap[q]? =V.heap[q]?)∧∀ (B:Nat) (A:World),Below B A V→B≤b→Below B A Z:=by
 refine ⟨_,rfl,h.set0.set1.set2.set3,hm.keep ?_,by simp,fun q hq=>?_,fun B A k hB=>?_⟩
 ·exact fun q h1 _=>(Below.heap_setCell _ ⟨b,_,none⟩ _ q (by show q≠b;omega)).trans ((Below.heap_setCell _ ⟨b,_,none⟩ _ q (by show q≠b;omega)).trans ((Below.heap_setCell _ ⟨b,_,none⟩ _ q (by show q≠b;omega)).trans (Below.heap_setCell _ ⟨b,_,none⟩ _ q (by show q≠b;omega))))
 ·exact (Below.heap_setCell _ ⟨b,_,none⟩ _ q hq).trans ((Below.heap_setCell _ ⟨b,_,none⟩ _ q hq).trans ((Below.heap_setCell _ ⟨b,_,none⟩ _ q hq).trans (Below.heap_setCell _ ⟨b,_,none⟩ _ q hq)))
 ·exact (((k.setCell (p:=⟨b,_,none⟩) hB _).setCell (p:=⟨b,_,none⟩) hB _).setCell (p:=⟨b,_,none⟩) hB _).setCell (p:=⟨b,_,none⟩) hB _
end
section
set_option linter.unusedSimpArgs false
set_option linter.unusedVariables false
set_option maxRecDepth 100000
open Go.RowKit
end
section
set_option linter.unusedSimpArgs false
set_option linter.unusedVariables false
set_option maxRecDepth 100000
open Go.RowKit
def BoxAt (X:World):Option Nat→Prop
 | none=>True
 | some p=>X4 X p (.slice none 0 0) (.slice none 0 0) (.slice none 0 0) (.slice none 0 0)∧BxT X p
theorem boxSome {X:World} {p:Nat} (h:BoxAt X (some p)):X4 X p (.slice none 0 0) (.slice none 0 0) (.slice none 0 0) (.slice none 0 0)∧BxT X p:=h
theorem BoxAt.keep {X Y:World} {p:Option Nat} (h:BoxAt X p) (hb:Below X.heap.size X Y):BoxAt Y p:=by
 cases p with
 | none=>trivial
 | some p=>exact bx_keep h hb h.1.x.z
theorem boxN0 (X:World):BoxAt (X.alloc (.cells #[.slice none 0 0,.slice none 0 0,.slice none 0 0,.slice none 0 0] 35)) (some X.heap.size):=X4.zero X _ _ _ _
end
section
set_option linter.unusedSimpArgs false
set_option linter.unusedVariables false
set_option maxRecDepth 100000
open Go.RowKit
theorem Cur.but {w w':World} {p n c:Nat} {s:Option Addr} (h:Cur w p s n c) (hb:Below w.heap.size w w'):Cur w' p s n c:=by
 obtain ⟨i,h,c0,c1,c2,hf,hi,hi',hp⟩:=h
 exact ⟨i,h,(hb.cell (p:=⟨p,0,none⟩) hp).trans c0,(hb.cell (p:=⟨p,1,none⟩) hp).trans c1,(hb.cell (p:=⟨p,2,none⟩) hp).trans c2,fun j=>(hb.frozen (p:=⟨p,j,none⟩) hp).trans (hf j),hi,hi',by have:=hb.size;omega⟩
theorem Cur.lt {w:World} {p n c:Nat} {s:Option Addr} (h:Cur w p s n c):p < w.heap.size:=by
 obtain ⟨i,h,c0,c1,c2,hf,hi,hi',hp⟩:=h
 exact hp
theorem Cur.set {w:World} {p n c:Nat} {s:Option Addr} {a:Addr} {v:Value} (h:Cur w p s n c) (ha:a.block≠p):Cur (w.setCell a v) p s n c:=by
 obtain ⟨i,h,c0,c1,c2,hf,hi,hi',hp⟩:=h
 have e:∀ j,(w.setCell a v).cell? ⟨p,j,none⟩=w.cell? ⟨p,j,none⟩:=fun j=>by
  apply World.cell?_setCell_other
  intro e
  subst e
  exact ha rfl
 exact ⟨i,h,(e 0).trans c0,(e 1).trans c1,(e 2).trans c2,fun j=>by rw [World.frozen?_setCell];exact hf j,hi,hi',by simpa using hp⟩
theorem Bytes.below {w w':World} {p n B:Nat} {s:Option Addr} (h:Bytes w p s n) (hb:Below B w w') (hp:p≤B):Bytes w' p s n:=by
 rcases h with h | ⟨g,o,hs,hg,hc⟩
 ·exact .inl h
 ·refine .inr ⟨g,o,hs,hg,fun k hk=>?_⟩
  obtain ⟨b,h1,h2⟩:=hc k hk
  exact ⟨b,(hb.cell (p:=⟨g,o+k,none⟩) (by show g < _;omega)).trans h1,h2⟩
/- the cursor and the bytes together -/
def CBx158 (w:World) (p:Nat) (s:Option Addr) (n c:Nat):Prop:=Cur w p s n c∧Bytes w p s n∧n≤maxLen
theorem CBx158.lt {w:World} {p n c:Nat} {s:Option Addr} (h:CBx158 w p s n c):p < w.heap.size:=h.1.lt
theorem CBx158.alloc {w:World} {p n c:Nat} {s:Option Addr} (h:CBx158 w p s n c) (o:Obj):CBx158 (w.alloc o) p s n c:=
 ⟨h.1.but ((Below.refl _ _).alloc (Nat.le_refl _) _),h.2.1.below ((Below.refl w.heap.size w).alloc (Nat.le_refl _) o) (Nat.le_of_lt h.1.lt),h.2.2⟩
theorem CBx158.keep {w w':World} {p n c:Nat} {s:Option Addr} (h:CBx158 w p s n c) (hb:Below w.heap.size w w'):CBx158 w' p s n c:=
 ⟨h.1.but hb,h.2.1.below hb (Nat.le_of_lt h.1.lt),h.2.2⟩
theorem CBx158.set {w:World} {p n c:Nat} {s:Option Addr} {a:Addr} {v:Value} (h:CBx158 w p s n c) (ha:p < a.block):CBx158 (w.setCell a v) p s n c:=
 ⟨h.1.set (by omega),h.2.1.below ((Below.refl a.block w).setCell (p:=a) (Nat.le_refl _) v) (by omega),h.2.2⟩
theorem below_cb (p : Nat) (s : Option Addr) (n c : Nat) (q : Int) (w : World) (h : CBx158 w p s n c) (hq0 : 0 < q) (hq : q ≤ 256) :
  Calls Tryz.prog 11 #[.pointer (some ⟨p,0,none⟩),.int .i64 q] w fun e w'=>∃ x:Int,e=.returned (.int .i64 x)∧0≤x∧x < q∧CBx158 w' p s n c∧But p w w':=by
 refine (l1Below_t p s n c q w h.1 h.2.1 h.2.2 hq0 hq).mono ?_
 rintro e w' ⟨x,rfl,x0,x1,hc,hb⟩
 exact ⟨x,rfl,x0,x1,⟨hc,h.2.1.but hb (Nat.le_of_lt h.lt),h.2.2⟩,hb⟩
theorem max_any (a b:Int) (w:World):Calls Tryz.prog 30 #[.int .i64 a,.int .i64 b] w fun e w'=>e=.returned (.int .i64 (if b < a then a else b))∧w'=w:=by
 by_cases h:b < a
 ·rw [if_pos h]
  go_enter Tryz.func30,Tryz.ntmps30
  go_wp2
  go_ret
  exact ⟨rfl,rfl⟩
 ·rw [if_neg h]
  go_enter Tryz.func30,Tryz.ntmps30
  go_wp2
  go_ret
  exact ⟨rfl,rfl⟩
set_option maxHeartbeats 400000 in
theorem once_cb (p : Nat) (s : Option Addr) (n c : Nat) (q : Int) (w : World) (h : CBx158 w p s n c) (hq0 : 0 < q) (hq : q ≤ 256) :
  Calls Tryz.prog 53 #[.pointer (some ⟨p,0,none⟩),.int .i64 q] w fun e w'=>∃ x:Bool,e=.returned (.bool x)∧CBx158 w' p s n c∧But p w w':=by
 have H:Hid (CBx158 w p s n c):=h
 clear h
 go_enter Tryz.func53,Tryz.ntmps53
 go_wp2_with fail
 refine (below_cb p s n c q w H.out hq0 hq).mono ?_
 rintro e w1 ⟨x,rfl,x0,x1,hc,hb⟩
 have HC:Hid (CBx158 w1 p s n c):=hc
 clear hc
 go_wp2
 go_ret
 exact ⟨_,rfl,HC.out,hb⟩
/- a slice literal of integers, picked from -/
set_option maxHeartbeats 400000 in
theorem pick_cb (p : Nat) (s : Option Addr) (n c : Nat) (g m : Nat) (l : List Int) (w : World) (h : CBx158 w p s n c) (hm : m = l.length) (hl0 : 0 < l.length) (hl : l.length ≤ 256) (hg : g < w.heap.size) (hgp : g ≠ p) (hcell : ∀ i, i < l.length → w.cell? ⟨g, 0 + i, none⟩ = some (.int .i64 (l.getD i 0))) :
  Calls Tryz.prog 40 #[.pointer (some ⟨p,0,none⟩),.slice (some ⟨g,0,none⟩) m m] w fun e w'=>∃ x:Int,e=.returned (.int .i64 x)∧x∈l∧CBx158 w' p s n c∧But p w w':=by
 subst hm
 have H:Hid (CBx158 w p s n c):=h
 have HC:Hid (∀ i,i < l.length→w.cell? ⟨g,0+i,none⟩=some (.int .i64 (l.getD i 0))):=hcell
 clear h hcell
 go_enter Tryz.func40,Tryz.ntmps40
 go_wp2_with fail
 refine (below_cb p s n c (l.length:Int) w H.out (by omega) (by omega)).mono ?_
 rintro e w1 ⟨x,rfl,x0,x1,hc,hb⟩
 obtain ⟨k,rfl⟩:=Int.eq_ofNat_of_zero_le x0
 have hk:k < l.length:=by omega
 have f0:=(hb.cell (p:=⟨g,0+k,none⟩) hg hgp).trans (HC.out k hk)
 rw [Nat.zero_add] at f0
 have HM:Hid (l.getD k 0∈l):=by
  show _∈_
  rw [List.getD_eq_getElem?_getD,List.getElem?_eq_getElem hk]
  exact List.getElem_mem hk
 generalize l.getD k 0=y at f0 HM
 have HC1:Hid (CBx158 w1 p s n c):=hc
 clear hc
 go_wp2
 go_ret
 exact ⟨y,rfl,HM.out,HC1.out,hb⟩
set_option maxHeartbeats 1000000 in
theorem new_cb (s : Option Addr) (n c : Nat) (w : World) (hb : Bytes w w.heap.size s n) (hn : n ≤ maxLen) :
  Calls Tryz.prog 9 #[.slice s n c] w fun e w'=>e=.returned (.pointer (some ⟨w.heap.size,0,none⟩))∧CBx158 w' w.heap.size s n c∧Below w.heap.size w w'∧w'.heap.size=w.heap.size+1:=by
 have HB:Hid (Bytes w w.heap.size s n):=hb
 have HN:Hid (n≤maxLen):=hn
 clear hb
 unfold maxLen at hn
 go_enter Tryz.func9,Tryz.ntmps9
 go_wp2
 go_loop [3,4] (fun a i=>∃ (k:Nat) (x:Int),k≤n∧k≤4000∧i=.int .i64 k∧a=.int .i64 x) (fun _ i=>n - (intOf i).toNat)
 case atStart=>exact ⟨0,_,Nat.zero_le _,by omega,rfl,rfl⟩
 case round=>
  obtain ⟨k,x,hk,hk',rfl,rfl⟩:=hrel
  by_cases h:k < n∧k < 4000
  ·obtain ⟨h1,h2⟩:=h
   obtain ⟨g,off,hs,hc⟩:∃ g off,s=some ⟨g,off,none⟩∧∃ b:Int,w.cell? ⟨g,off+k,none⟩=some (.int .u8 b)∧0≤b∧b≤255:=by
    rcases HB.out with h | ⟨g,off,a,b,d⟩
    ·omega
    ·exact ⟨g,off,a,d k h1⟩
   subst hs
   obtain ⟨b,f0,b0,b1⟩:=hc
   have i0:(0:Int)≤(k:Int):=by omega
   have i1:(k:Int) < (n:Int):=by omega
   have i2:(k:Int) < 4000:=by omega
   go_wp2
   go_round
   case rel=>exact ⟨k+1,_,by omega,by omega,by go_num,rfl⟩
   case measure=>simp [intOf];omega
  ·have i2:(k:Int) < (n:Int)→¬ (k:Int) < 4000:=by omega
   by_cases h1:k < n
   ·have i1:(k:Int) < (n:Int):=by omega
    have i3:¬ (k:Int) < 4000:=by omega
    clear i2 h
    go_wp2
    go_ret
    refine ⟨rfl,⟨?_,HB.out.below ((Below.refl w.heap.size w).alloc (Nat.le_refl _) _) (Nat.le_refl _),HN.out⟩,(Below.refl _ _).alloc (Nat.le_refl _) _,by simp⟩
    exact ⟨0,x,by simp [go_sem],by simp [go_sem],by simp [go_sem],fun j=>by simp [go_sem],by omega,by omega,by simp⟩
   ·have i1:¬ (k:Int) < (n:Int):=by omega
    clear i2 h
    go_wp2
    go_ret
    refine ⟨rfl,⟨?_,HB.out.below ((Below.refl w.heap.size w).alloc (Nat.le_refl _) _) (Nat.le_refl _),HN.out⟩,(Below.refl _ _).alloc (Nat.le_refl _) _,by simp⟩
    exact ⟨0,x,by simp [go_sem],by simp [go_sem],by simp [go_sem],fun j=>by simp [go_sem],by omega,by omega,by simp⟩
end
section
set_option linter.unusedSimpArgs false
set_option linter.unusedVariables false
set_option maxRecDepth 100000
open Go.RowKit
end
section
set_option linter.unusedSimpArgs false
set_option linter.unusedVariables false
set_option maxRecDepth 100000
open Go.RowKit
end
section
set_option linter.unusedSimpArgs false
set_option linter.unusedVariables false
set_option maxRecDepth 100000
open Go.RowKit
theorem W3_orow (w:World):ORow (W3 w) w.heap.size ⟨some ⟨w.heap.size+1,0,none⟩,1,[⟨some ⟨w.heap.size,0,none⟩,24,24⟩]⟩ zRow:=by
 have hr:=W3_row w
 have h0:=World.ownsRow_lit (base:=w.heap.size) (e:=100) (size:=2) (w.alloc (.cells (madeCells #[.int .i64 0] 24) 3)) #[.int .i64 0,.slice (some ⟨w.heap.size,0,none⟩) 24 24] 1 (by simp) (by unfold maxLen;omega) rfl
 rw [World.size_alloc] at h0
 refine ⟨rfl,ownKeep' (w:=(w.alloc (.cells (madeCells #[.int .i64 0] 24) 3)).alloc (.cells #[.int .i64 0,.slice (some ⟨w.heap.size,0,none⟩) 24 24] 100)) h0 (fun k hk=>Below.heap_alloc _ _ _ ?_),hr.v,fun a ha=>?_,?_⟩
 ·have e:some (w.heap.size+1)=some k:=hk
  injection e with e
  simp
  omega
 ·obtain ⟨x,hx,hax⟩:=mem_vsA.1 ha
  simp at hx
  subst hx
  obtain ⟨i,-,rfl⟩:=mem_vAs.1 hax
  refine ⟨madeCells #[.int .i64 0] 24,(0,0),?_⟩
  show (W3 w).heap[w.heap.size]? =some (.cells (madeCells #[.int .i64 0] 24) 3 (0,0))
  unfold W3
  rw [Below.heap_alloc _ _ _ (by simp;omega),Below.heap_alloc _ _ _ (by simp)]
  exact heap_alloc_new w _
 ·simp only [vsA,List.append_nil]
  exact vAs_nodup rfl
set_option maxHeartbeats 2000000 in
theorem specNewW_any (w:World):Calls Tryz.prog 32 #[] w fun e w'=>∃ s c S,e=.returned (.agg #[.slice s 24 c])∧OW w' w.heap.size (.slice s 24 c) S (newM 24)∧Below w.heap.size w w':=by
 have hmk:∀ w:World,(Instr.makeSlice 24 (.int .i64 24) (.int .i64 24)).run Tryz.prog w=.ok (.slice (some ⟨w.heap.size,0,none⟩) 24 24) (w.alloc (.cells (madeCells #[.int .i64 0] 24) 3)):=fun w=>mkInt 24 (by omega) w
 go_enter Tryz.func32,Tryz.ntmps32
 go_wp2
 go_loopw [2] (fun i wr=>∃ (k:Nat) (v:Value) (S:List RS),k≤24∧i=.int .i64 k∧S.length=k∧OW wr (w.heap.size+2) v S (newM k)∧wr.cell? ⟨w.heap.size+1,0,none⟩=some v∧(wr.cell? ⟨w.heap.size,0,none⟩).isSome=true∧(∀ j,wr.frozen? ⟨w.heap.size+1,j,none⟩=false)∧(∀ j,wr.frozen? ⟨w.heap.size,j,none⟩=false)∧w.heap.size+1 < wr.heap.size∧Below w.heap.size w wr) (fun i _=>24 - (intOf i).toNat)
 case atStart=>exact ⟨0,.slice none 0 0,[],Nat.zero_le _,rfl,rfl,OW.nil _ _,by simp [go_sem],by simp [go_sem],fun j=>by simp [go_sem],fun j=>by simp [go_sem],by simp,((Below.refl _ _).alloc (Nat.le_refl _) _).alloc (by simp) _⟩
 case round=>
  obtain ⟨k,v,S,hk,rfl,hS,ho,c1,c0,f1,f0,hz,hb⟩:=hrel
  obtain ⟨s,c,hv,-⟩:=ho.om.mo
  rw [newM_len] at hv
  subst hv
  have HO:Hid (OW wr (w.heap.size+2) (.slice s k c) S (newM k)):=ho
  have HB:Hid (Below w.heap.size w wr):=hb
  have HS:Hid (S.length=k):=hS
  have hzz:w.heap.size < wr.heap.size:=by omega
  have hz2:w.heap.size+2≤wr.heap.size:=by omega
  obtain ⟨u0,c0'⟩:=Option.isSome_iff_exists.1 c0
  clear ho hb hS c0
  by_cases hlt:k < 24
  ·have b0:(k:Int) < 24:=by omega
   go_wp2
   have HOX:Hid (OW (W3 wr.drew) (w.heap.size+2) (.slice s k c) S (newM k)):=(HO.out.below (Below.drew (Below.refl _ _))).below (W3_below _)
   go_region_law (refine step_rowW rfl _ _ rfl (W3 wr.drew) (w.heap.size+2) (.slice s k c) S.length (S.map RS.val) rfl HOX.out.row (wr.heap.size+1+1) (.slice (some ⟨wr.heap.size+1,0,none⟩) 1 1) rfl rfl (by simp [W3,go_sem]) (by have:=HS.out;omega) (by rw [W3_size];show w.heap.size+2≤wr.heap.size+3;omega) ?_;intro g1 cap1 w1 ho1 hg1 hn1 hl1;have hb1:Below (w.heap.size+2) wr w1:=((Below.drew (Below.refl _ _)).trans ((W3_below wr.drew).mono (show w.heap.size+2≤wr.heap.size by omega))).trans (Below.grown (Below.refl _ _) hg1 (by rw [W3_size];show w.heap.size+2≤wr.heap.size+3;omega) (fun j hj=>(World.ownsRow.lt HOX.out.row _ hj).1));have t1:=(hb1.cell (p:=⟨w.heap.size+1,0,none⟩) (show w.heap.size+1 < w.heap.size+2 by omega)).trans c1;have t2:=(hb1.frozen (p:=⟨w.heap.size+1,0,none⟩) (show w.heap.size+1 < w.heap.size+2 by omega)).trans (f1 0);have HO1:=(show Hid _ from ho1);have HG1:=(show Hid _ from hg1);have HN1:=(show Hid _ from hn1);have HB1:=(show Hid _ from hb1);clear ho1 hg1 hn1 hb1)
   all_goals
    have HP:=(HO.out.below (Below.drew (Below.refl _ _))).push _ zRow (W3_below _) (W3_orow wr.drew) (show w.heap.size+2≤wr.heap.size by omega) HO1.out HG1.out
    have HP1:Hid (OW w1 (w.heap.size+2) (.slice (some ⟨g1,0,none⟩) (S.length+1) cap1) (S++[⟨some ⟨wr.heap.size+1,0,none⟩,1,[⟨some ⟨wr.heap.size,0,none⟩,24,24⟩]⟩]) (newM (k+1))):=by
     show OW _ _ _ _ _
     rw [newM_succ]
     have e:(S++[(⟨some ⟨wr.heap.size+1,0,none⟩,1,[⟨some ⟨wr.heap.size,0,none⟩,24,24⟩]⟩:RS)]).length=S.length+1:=by simp
     rw [← e]
     exact HP
    have t3:=(HB1.out.cell (p:=⟨w.heap.size,0,none⟩) (show w.heap.size < w.heap.size+2 by omega)).trans c0'
    have hz1:=HB1.out.size
    clear HP
    go_wp2
    go_roundw
    case rel=>
     refine ⟨k+1,.slice (some ⟨g1,0,none⟩) (S.length+1) cap1,_,by omega,by go_num,by simp [HS.out],HP1.out.kept (fun b hb _=>Below.heap_setCell _ _ _ b (by show b≠w.heap.size+1;omega)) (by simp),setC_at (by rw [t1];rfl),?_,fun j=>?_,fun j=>?_,by simp;omega,?_⟩
     ·rw [setC_blk (by omega),t3];rfl
     ·rw [World.frozen?_setCell,HB1.out.frozen (p:=⟨w.heap.size+1,j,none⟩) (show w.heap.size+1 < w.heap.size+2 by omega)];exact f1 j
     ·rw [World.frozen?_setCell,HB1.out.frozen (p:=⟨w.heap.size,j,none⟩) (show w.heap.size < w.heap.size+2 by omega)];exact f0 j
     ·exact (HB.out.trans (HB1.out.mono (by omega))).setCell (p:=⟨w.heap.size+1,0,none⟩) (by show w.heap.size≤w.heap.size+1;omega) _
    case measure=>simp [intOf];omega
  ·have e24:k=24:=by omega
   subst e24
   go_wp2
   refine bodyPost_ret (v:=.agg #[.slice s 24 c]) (by simp [results,Tryz.results32,go_sem,c0']) rfl ⟨s,c,S,rfl,?_,?_⟩
   ·exact (HO.out.kept (w':=wr.setCell ⟨w.heap.size,0,none⟩ (.slice s 24 c)) (fun b h1 h2=>Below.heap_setCell _ _ _ b (by show b≠w.heap.size;omega)) (by simp)).low (by omega)
   ·exact HB.out.setCell (p:=⟨w.heap.size,0,none⟩) (Nat.le_refl _) _
end
section
set_option linter.unusedSimpArgs false
set_option linter.unusedVariables false
set_option maxRecDepth 100000
open Go.RowKit
end
section
set_option linter.unusedSimpArgs false
set_option linter.unusedVariables false
set_option maxRecDepth 100000
open Go.RowKit
end
section
set_option linter.unusedSimpArgs false
set_option linter.unusedVariables false
set_option maxRecDepth 100000
open Go.RowKit
end
section
set_option linter.unusedSimpArgs false
set_option linter.unusedVariables false
set_option maxRecDepth 100000
open Go.RowKit
end
section
set_option linter.unusedSimpArgs false
set_option linter.unusedVariables false
set_option maxRecDepth 100000
open Go.RowKit
end
section
set_option linter.unusedSimpArgs false
set_option linter.unusedVariables false
set_option maxRecDepth 100000
end
section
set_option linter.unusedSimpArgs false
set_option linter.unusedVariables false
set_option maxRecDepth 100000
open Go.RowKit
theorem CBx158.keepB {w w':World} {B p n c:Nat} {s:Option Addr} (h:CBx158 w p s n c) (hb:Below B w w') (hp:p < B):CBx158 w' p s n c:=by
 refine ⟨?_,h.2.1.below hb (by omega),h.2.2⟩
 obtain ⟨i,h',c0,c1,c2,hf,hi,hi',hp'⟩:=h.1
 exact ⟨i,h',(hb.cell (p:=⟨p,0,none⟩) hp).trans c0,(hb.cell (p:=⟨p,1,none⟩) hp).trans c1,(hb.cell (p:=⟨p,2,none⟩) hp).trans c2,fun j=>(hb.frozen (p:=⟨p,j,none⟩) hp).trans (hf j),hi,hi',by have:=hb.size;omega⟩
end
section
set_option linter.unusedSimpArgs false
set_option linter.unusedVariables false
set_option maxRecDepth 100000
open Go.RowKit
theorem but_low {p:Nat} {w a b:World} (h:But p w a) (hb:Below w.heap.size a b):But p w b:=⟨hb.os.trans h.os,hb.tape.trans h.tape,hb.output.trans h.output,Nat.le_trans h.size hb.size,fun k hk hp=>(hb.block k hk).trans (h.block k hk hp)⟩
end
end Go.Proofs.YtkhjhibigldcgaaGreat
