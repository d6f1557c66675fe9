/- The map of first steps. Conditions: bodies of at most 24 places, each of a kind that there is. The first steps of a body, told sorted out of the map. Conditions: bodies of at most 24 places, each of a kind that there is. The code of a body: what codeOf of the program answers. Conditions: bodies that are right, at most 2^20 channels. Rows of rows of steps that a call has made: marked, and looked at again. Conditions: as with rows of rows of places. Compile of the program. Conditions: programs that fit. A step of the specification, of an op: registers set. No condition. A region that draws its order, in which the last operation alone writes and waits for all others: one walk of these, in the order of the text, and then that one. No condition. -/
import Derived.Test.YtkhjhibigldcgaaGreatBG00
import Derived.Test.YtkhjhibigldcgaaGreatBG01
import Derived.Test.YtkhjhibigldcgaaGreatBE10Of
import Derived.Test.YtkhjhibigldcgaaGreatBG05
import Derived.Test.YtkhjhibigldcgaaGreatBG16
import Derived.Maps.OwnOps
import Derived.Maps.OwnSet
import Derived.Maps.RangeWalk
import Derived.Test.YtkhjhibigldcgaaGreatBG04
import Derived.Test.YtkhjhibigldcgaaGreatBG12
import Derived.Test.YtkhjhibigldcgaaGreatBG07
import Derived.Deep.RegionHeld3
import Derived.Deep.QuietTactic
import Derived.BigQuiet
import Derived.Deep.RegionWith
import Derived.Test.YtkhjhibigldcgaaGreatBProgOk
import Derived.Test.YtkhjhibigldcgaaGreatBG10
import Derived.Test.YtkhjhibigldcgaaGreatBG11
import Derived.Test.YtkhjhibigldcgaaGreatBG09
namespace Go.Proofs.YtkhjhibigldcgaaGreat
section
set_option linter.unusedSimpArgs false
set_option linter.unusedVariables false
set_option maxRecDepth 100000
open Go.RowKit Go.Maps
theorem lawI:Keyed Tryz.prog 3:=int_keyed Tryz.underlying3
theorem zeroI (w:World):(zeroValue 3).run Tryz.prog w=.ok (.int .i64 0) w:=by kernel_rfl
def OwnF (w:World) (b n:Nat) (D:DataW Unit):Prop:=w.ownsMap Tryz.prog 3 (plainElem Tryz.prog 3) b n D
theorem OwnF.keep {w w':World} {b n:Nat} {D:DataW Unit} (h:OwnF w b n D) (hk:w'.heap[b]? =w.heap[b]?):OwnF w' b n D:=by
 obtain ⟨es,clock,h1,h2⟩:=h
 exact ⟨es,clock,hk.trans h1,h2⟩
theorem mkMap (n:Int) (w:World):(Instr.makeMap 50 (some (.int .i64 n))).run Tryz.prog w=.ok (.map (some w.heap.size)) (w.alloc (.map #[] 0)):=by
 simp [Instr.makeMap,run_underlying Tryz.underlying50,asInt,asIntOf]
theorem keyOf_int_mk' {x y:Int} (e:y=x) (h:(Lit.int .i64 y).wf=true):keyOf Tryz.prog 3 (.int .i64 x)=some (.int .i64 y):=by
 subst e
 exact keyOf_int_mk Tryz.underlying3 h
theorem insR_at {w:World} {lo hi:Nat} {s:Option Addr} {l:List I5} (h:InsR w lo hi s l) {i:Nat} (hi':i < l.length):∃ g off,s=some ⟨g,off,none⟩∧lo≤g∧g < hi∧∀ j,j < l.length→At5 w g (off+j * 5) (l.getD j z5):=by
 rcases h with rfl | ⟨g,off,rfl,h1,h2,h3⟩
 ·exact absurd hi' (Nat.not_lt_zero _)
 ·exact ⟨g,off,rfl,h1,h2,h3⟩
set_option maxRecDepth 100000 in
set_option maxHeartbeats 4000000 in
theorem firstsOf_any (s : Option Addr) (c lo hi : Nat) (l : List I5) (w : World) (h : InsR w lo hi s l) (hB : hi ≤ w.heap.size) (hr : Rt l) :
  Calls Tryz.prog 15 #[.slice s l.length c] w fun e w'=>e=.returned (.tuple #[.map (some w.heap.size),.int .i64 (stV l l.length)])∧OwnF w' w.heap.size l.length (mpD l l.length)∧Below w.heap.size w w':=by
 have hmm:=mkMap
 have HI:=hidP h
 have HR:=hidP hr
 have hl24:=hr.len
 clear h hr
 go_enter Tryz.func15,Tryz.ntmps15
 go_wp2
 refine wp_scope_two 0 1 (fun a' w'=>OwnF w' w.heap.size l.length (mpD l l.length)∧Below w.heap.size w w'∧∃ (u0 u1 u5 u7 u8 u9 u10 u11 u12 u13 u14 u15 u16 u17 u18 u19 u20 u21 u22 u23 u24 u25 u26 u27:Value),a'={ tmps:=#[u0,u1,.map none,.int .i64 0,.map (some w.heap.size),u5,.int .i64 (stV l l.length),u7,u8,u9,u10,u11,u12,u13,u14,u15,u16,u17,u18,u19,u20,u21,u22,u23,u24,u25,u26,u27],defers:=[] })
  (fun a' w'=>∃ k:Nat,k≤l.length∧OwnF w' w.heap.size k (mpD l k)∧Below w.heap.size w w'∧∃ (u1 u7 u8 u9 u10 u11 u12 u13 u14 u15 u16 u17 u18 u19 u20 u21 u22 u23 u24 u25 u26 u27:Value),a'={ tmps:=#[.slice s l.length c,u1,.map none,.int .i64 0,.map (some w.heap.size),.int .i64 k,.int .i64 (stV l k),u7,u8,u9,u10,u11,u12,u13,u14,u15,u16,u17,u18,u19,u20,u21,u22,u23,u24,u25,u26,u27],defers:=[] })
  (fun _ _=>0) (fun a' _=>l.length+1 - (intOf (a'.tmps.getD 5 undef)).toNat) rfl rfl (by decide) ?_ ?_ ?_
 ·go_wp2
  go_step3
  have HF:Hid (OwnF (w.alloc (.map #[] 0)) w.heap.size 0 (mpD l 0)):=World.ownsMap_made _ _ _ _
  have HB:Hid (Below w.heap.size w (w.alloc (.map #[] 0))):=(Below.refl _ _).alloc (Nat.le_refl _) _
  have hzb:w.heap.size < (w.alloc (.map #[] 0)).heap.size:=by simp
  have hk:0≤l.length:=Nat.zero_le _
  generalize w.alloc (.map #[] 0)=w' at HF HB hzb ⊢
  by_cases hlt:0 < l.length
  ·obtain ⟨g,off,hs,hlo,hg,hc⟩:=insR_at HI.out hlt
   subst hs
   have hc5:=hidP (hc 0 hlt)
   clear hc
   have hsz:=HR.out.sz 0 hlt
   have hbd:=stV_big HR.out hk
   have wfk:=stV_wf HR.out hk
   have ST:=hidP (show stV l (0+1)=stV l 0+sizeV (l.getD 0 z5).o from rfl)
   generalize l.getD 0 z5=x at hc5 hsz ST
   obtain ⟨xo,xr,xa,xb,xn⟩:=x
   have WK:=hidP wfk
   clear wfk
   have HST:Hid (stV l 0=0):=rfl
   obtain ⟨sz,hsz0⟩:∃ sz,sizeV xo=sz:=⟨_,rfl⟩
   have HSZ:=hidP hsz0
   have hsz1:1≤sz∧sz≤32:=by rw [← hsz0];exact hsz
   clear hsz0 hsz
   have b0:(0:Int)≤(0:Int):=by omega
   have b1:(0:Int) < (l.length:Int):=by omega
   have b2:((0:Int)==(l.length:Int))=false:=by simp;omega
   go_wp2_with (first | (at_mapUpdate;refine wpList_mapUpdate_own _ rfl _ _ _ 50 rfl 3 3 lawI Tryz.underlying50 _ w.heap.size 0 _ rfl HF.out (by unfold maxLen;omega) _ _ (.int .i64 (stV l 0)) rfl rfl (keyOf_int_mk' (HST.out) WK.out) (.lit (.int .i64 (0:Nat))) [] (plainElem_int Tryz.underlying3 (WalkArith.wf_i64 (by omega))) ?_;intro w1 ho1 hg1;have HO1:Hid (OwnF w1 w.heap.size (0+1) (mpD l (0+1))):=ho1;have HB1:=hidP (HB.out.grown hg1 HB.out.size (fun j hj=>by cases hj;exact Nat.le_refl _));have hz1:=hg1.size;clear ho1 hg1;obtain ⟨f0,f1,f2,f3,f4⟩:=hc5.out.keep HB1.out (by omega);simp only [Nat.zero_mul,Nat.add_zero] at f0 f1 f2 f3 f4) | (go_at_call 24;refine (implSize_any _ _ _ _ _ _).mono ?_;rintro e w2 ⟨rfl,hb2⟩;rw [HSZ.out]))
   go_step3
   have hz2:=hb2.size
   have HB2:=hidP (HB1.out.trans (hb2.mono (by omega)))
   have HO2:=hidP (OwnF.keep HO1.out (hb2.block w.heap.size (by omega)))
   clear hb2
   have e2:sz=stV l (0+1):=by rw [ST.out,HST.out,HSZ.out];omega
   rw [e2]
   exact .inr ⟨rfl,⟨0+1,by omega,HO2.out,HB2.out,_,_,_,_,_,_,_,_,_,_,_,_,_,_,_,_,_,_,_,_,_,_,rfl⟩⟩
  ·have hkn:l.length=0:=by omega
   have b2:((0:Int)==(l.length:Int))=true:=by simp [hkn]
   go_wp2
   go_step3
   exact .inl ⟨rfl,⟨by rw [hkn];exact HF.out,HB.out,_,_,_,_,_,_,_,_,_,_,_,_,_,_,_,_,_,_,_,_,_,_,_,_,by rw [hkn];rfl⟩⟩
 ·rintro a' w' ⟨hF,hb,u0,u1,u5,u7,u8,u9,u10,u11,u12,u13,u14,u15,u16,u17,u18,u19,u20,u21,u22,u23,u24,u25,u26,u27,rfl⟩
  go_wp2
  simp only [jump2]
  refine bodyPost_ret (v:=.tuple #[.map (some w.heap.size),.int .i64 (stV l l.length)]) (by simp [results,Tryz.results15,go_sem]) rfl ?_
  exact ⟨rfl,hF,hb⟩
 ·rintro a' w' ⟨k,hk,hF,hb,u1,u7,u8,u9,u10,u11,u12,u13,u14,u15,u16,u17,u18,u19,u20,u21,u22,u23,u24,u25,u26,u27,rfl⟩
  have HF:=hidP hF
  have HB:=hidP hb
  have hzb:w.heap.size < w'.heap.size:=by obtain ⟨es,clock,h1,h2⟩:=hF;exact (Array.getElem?_eq_some_iff.1 h1).1
  clear hF hb
  by_cases hlt:k < l.length
  ·obtain ⟨g,off,hs,hlo,hg,hc⟩:=insR_at HI.out hlt
   subst hs
   have hc5:=hidP (hc k hlt)
   clear hc
   have hsz:=HR.out.sz k hlt
   have hbd:=stV_big HR.out hk
   have wfk:=stV_wf HR.out hk
   have ST:=hidP (show stV l (k+1)=stV l k+sizeV (l.getD k z5).o from rfl)
   generalize l.getD k z5=x at hc5 hsz ST
   obtain ⟨xo,xr,xa,xb,xn⟩:=x
   have WK:=hidP wfk
   clear wfk
   obtain ⟨st,hst⟩:∃ st,stV l k=st:=⟨_,rfl⟩
   have HST:=hidP hst
   rw [hst] at hbd ⊢
   clear hst
   obtain ⟨sz,hsz0⟩:∃ sz,sizeV xo=sz:=⟨_,rfl⟩
   have HSZ:=hidP hsz0
   have hsz1:1≤sz∧sz≤32:=by rw [← hsz0];exact hsz
   clear hsz0 hsz
   have b0:(0:Int)≤(k:Int):=by omega
   have b1:(k:Int) < (l.length:Int):=by omega
   have b2:((k:Int)==(l.length:Int))=false:=by simp;omega
   go_wp2_with (first | (at_mapUpdate;refine wpList_mapUpdate_own _ rfl _ _ _ 50 rfl 3 3 lawI Tryz.underlying50 _ w.heap.size k _ rfl HF.out (by unfold maxLen;omega) _ _ (.int .i64 (stV l k)) rfl rfl (keyOf_int_mk' (HST.out) WK.out) (.lit (.int .i64 (k:Nat))) [] (plainElem_int Tryz.underlying3 (WalkArith.wf_i64 (by omega))) ?_;intro w1 ho1 hg1;have HO1:Hid (OwnF w1 w.heap.size (k+1) (mpD l (k+1))):=ho1;have HB1:=hidP (HB.out.grown hg1 HB.out.size (fun j hj=>by cases hj;exact Nat.le_refl _));have hz1:=hg1.size;clear ho1 hg1;obtain ⟨f0,f1,f2,f3,f4⟩:=hc5.out.keep HB1.out (by omega)) | (go_at_call 24;refine (implSize_any _ _ _ _ _ _).mono ?_;rintro e w2 ⟨rfl,hb2⟩;rw [HSZ.out]))
   go_step3
   have hz2:=hb2.size
   have HB2:=hidP (HB1.out.trans (hb2.mono (by omega)))
   have HO2:=hidP (OwnF.keep HO1.out (hb2.block w.heap.size (by omega)))
   clear hb2
   have e3:((k:Int)+1)=((k+1:Nat):Int):=by omega
   have e2:st+sz=stV l (k+1):=by rw [ST.out,HST.out,HSZ.out]
   rw [e2,e3]
   exact .inr ⟨rfl,⟨k+1,by omega,HO2.out,HB2.out,_,_,_,_,_,_,_,_,_,_,_,_,_,_,_,_,_,_,_,_,_,_,rfl⟩,by simp [intOf];omega⟩
  ·have hkn:l.length=k:=by omega
   subst hkn
   have b2:(((l.length:Nat):Int)==(l.length:Int))=true:=by simp
   go_wp2
   go_step3
   exact .inl ⟨rfl,⟨HF.out,HB.out,_,_,_,_,_,_,_,_,_,_,_,_,_,_,_,_,_,_,_,_,_,_,_,_,rfl⟩,by simp [intOf]⟩
end
section
set_option linter.unusedSimpArgs false
set_option linter.unusedVariables false
set_option maxRecDepth 100000
open Go.RowKit Go.Maps
end
section
set_option linter.unusedSimpArgs false
set_option linter.unusedVariables false
set_option maxRecDepth 100000
open Go.RowKit
end
section
set_option linter.unusedSimpArgs false
set_option linter.unusedVariables false
set_option maxRecDepth 100000
open Go.RowKit
def OwnP6 (w:World) (base:Nat) (v:Value) (b:List I5):Prop:=w.ownsRow base 65 5 v b.length (flatP b)
def OwnB6 (w:World) (base:Nat) (v:Value) (bs:List (List I5)):Prop:=
 ∃ xs:List Value,w.ownsRow base 66 1 v bs.length xs∧(∀ i,i < bs.length→OwnP6 w base (xs.getD i undef) (bs.getD i []))∧∀ i j k,i < bs.length→j < bs.length→i≠j→(xs.getD i undef).ownBlock=some k→(xs.getD j undef).ownBlock≠some k
theorem infoB6:∃ i,Tryz.prog.info? 66=some i∧i.zero=some (.slice none 0 0)∧i.size=1∧i.bytes=24:=⟨_,rfl,rfl,rfl,rfl⟩
theorem OwnB6.keep {w w':World} {base:Nat} {v:Value} {bs:List (List I5)} (h:OwnB6 w base v bs) (hb:∀ k,base≤k→k < w.heap.size→w'.heap[k]? =w.heap[k]?):OwnB6 w' base v bs:=by
 obtain ⟨xs,h1,h2,h3⟩:=h
 exact ⟨xs,ownKeep h1 (fun k hk=>hb k (World.ownsRow.lt h1 _ hk).1 (World.ownsRow.lt h1 _ hk).2),fun i hi=>ownKeep (h2 i hi) (fun k hk=>hb k (World.ownsRow.lt (h2 i hi) _ hk).1 (World.ownsRow.lt (h2 i hi) _ hk).2),h3⟩
theorem OwnB6.below {w w':World} {base:Nat} {v:Value} {bs:List (List I5)} (h:OwnB6 w base v bs) (hb:Below w.heap.size w w'):OwnB6 w' base v bs:=h.keep fun k _ hk=>hb.block k hk
theorem OwnB6.low {w:World} {b b':Nat} {v:Value} {bs:List (List I5)} (h:OwnB6 w b v bs) (hb:b'≤b):OwnB6 w b' v bs:=by
 obtain ⟨xs,h1,h2,h3⟩:=h
 exact ⟨xs,ownLow h1 hb,fun i hi=>ownLow (h2 i hi) hb,h3⟩
/- append of an empty row: what it makes of the rows -/
theorem OwnB6.grow {w w' : World} {base g cap : Nat} {v u : Value} {bs : List (List I5)} {xs : List Value} (h1 : w.ownsRow base 66 1 v bs.length xs) (h2 : ∀ i, i < bs.length → OwnP6 w base (xs.getD i undef) (bs.getD i []))
  (h3:∀ i j k,i < bs.length→j < bs.length→i≠j→(xs.getD i undef).ownBlock=some k→(xs.getD j undef).ownBlock≠some k) (hu:u.ownBlock=none∨∃ k,u.ownBlock=some k∧w.heap.size≤k)
  (q1:w'.ownsRow base 66 1 (.slice (some ⟨g,0,none⟩) (bs.length+1) cap) (bs.length+1) (xs++[u])) (hk:∀ k,base≤k→k < w.heap.size→v.ownBlock≠some k→w'.heap[k]? =w.heap[k]?) {b:List I5} (hP:OwnP6 w' base u b):
  OwnB6 w' base (.slice (some ⟨g,0,none⟩) (bs.length+1) cap) (bs++[b]):=by
 have hxl:xs.length=bs.length:=by have:=h1.1;omega
 refine ⟨xs++[u],by rw [List.length_append];exact q1,?_,?_⟩
 ·intro i hi
  rw [getD_snoc,getD_snoc,hxl]
  by_cases e:i < bs.length
  ·rw [if_pos e,if_pos e]
   exact ownKeep (h2 i e) (fun k hk'=>hk k (World.ownsRow.lt (h2 i e) _ hk').1 (World.ownsRow.lt (h2 i e) _ hk').2 (ownType (h2 i e) h1 (by decide) hk'))
  ·have:i=bs.length:=by simp at hi;omega
   rw [if_neg e,if_pos this,if_neg e,if_pos this]
   exact hP
 ·intro i j k hi hj hne
  simp only [List.length_append,List.length_cons,List.length_nil] at hi hj
  rw [getD_snoc,getD_snoc,hxl]
  by_cases e:i < bs.length<;>by_cases e':j < bs.length
  ·rw [if_pos e,if_pos e'];exact h3 i j k e e' hne
  ·rw [if_pos e,if_neg e',if_pos (by omega)]
   intro hk' hk''
   have:=(World.ownsRow.lt (h2 i e) _ hk').2
   rcases hu with hu | ⟨k',hu,hk2⟩
   ·rw [hu] at hk'';cases hk''
   ·rw [hu] at hk'';injection hk'' with hk'';omega
  ·rw [if_neg e,if_pos (by omega),if_pos e']
   intro hk' hk''
   have:=(World.ownsRow.lt (h2 j e') _ hk'').2
   rcases hu with hu | ⟨k',hu,hk2⟩
   ·rw [hu] at hk';cases hk'
   ·rw [hu] at hk';injection hk' with hk';omega
  ·omega
theorem OwnP6.ins {w:World} {base:Nat} {v:Value} {l:List I5} (h:OwnP6 w base v l):∃ s c,v=.slice s l.length c∧InsR w base w.heap.size s l:=by
 rcases Nat.eq_zero_or_pos l.length with h0 | hpos
 ·rcases h.2 with ⟨h1,h2⟩ | ⟨g,cap,cur,a,-⟩
  ·exact ⟨none,0,by rw [h1,h2],.inl (List.length_eq_zero_iff.1 h0)⟩
  ·exact ⟨_,_,a,.inl (List.length_eq_zero_iff.1 h0)⟩
 ·obtain ⟨g,cap,rfl,-⟩:=World.ownsRow.form h hpos
  have hlt:=World.ownsRow.lt h g rfl
  refine ⟨_,_,rfl,.inr ⟨g,0,rfl,hlt.1,hlt.2,fun i hi=>?_⟩⟩
  have hc:∀ j,j < 5→w.cell? ⟨g,i * 5+j,none⟩=(cellsP (l.getD i z5))[j]? :=fun j hj=>by
   rw [World.ownsRow.cellAt h (i * 5+j) (by omega)]
   exact flatP_at l i j hi hj
  rw [Nat.zero_add]
  exact ⟨hc 0 (by omega),hc 1 (by omega),hc 2 (by omega),hc 3 (by omega),hc 4 (by omega)⟩
theorem OwnB6.bods {w:World} {base:Nat} {v:Value} {l:List (List I5)} (h:OwnB6 w base v l):∃ s c,v=.slice s l.length c∧BodsR w base w.heap.size s l:=by
 obtain ⟨xs,h1,h2,-⟩:=h
 rcases Nat.eq_zero_or_pos l.length with h0 | hpos
 ·rcases h1.2 with ⟨h1,h2⟩ | ⟨g,cap,cur,a,-⟩
  ·exact ⟨none,0,by rw [h1,h2],.inl (List.length_eq_zero_iff.1 h0)⟩
  ·exact ⟨_,_,a,.inl (List.length_eq_zero_iff.1 h0)⟩
 ·obtain ⟨g,cap,rfl,-⟩:=World.ownsRow.form h1 hpos
  have hlt:=World.ownsRow.lt h1 g rfl
  have hxl:xs.length=l.length:=by have:=h1.1;omega
  refine ⟨_,_,rfl,.inr ⟨g,0,rfl,hlt.1,hlt.2,fun i hi=>?_⟩⟩
  obtain ⟨s,c,e,hi'⟩:=OwnP6.ins (h2 i hi)
  refine ⟨s,c,?_,hi'⟩
  rw [Nat.zero_add,World.ownsRow.cellAt h1 i (by omega),← e,List.getD_eq_getElem?_getD,List.getElem?_eq_getElem (by omega)]
  rfl
end
section
set_option linter.unusedSimpArgs false
set_option linter.unusedVariables false
set_option maxRecDepth 100000
open Go.RowKit
def cdAt (p:PD) (k:Nat):List I5:=cdM p.caps (p.bods.getD k []) (p.bods.getD k []).length
def cdL (p:PD) (n:Nat):List (List I5):=(List.range n).map (cdAt p)
theorem cdL_len (p:PD) (n:Nat):(cdL p n).length=n:=by simp [cdL]
theorem cdL_succ (p:PD) (n:Nat):cdL p (n+1)=cdL p n++[cdAt p n]:=by simp [cdL,List.range_succ]
theorem cdL_at (p:PD) {n i:Nat} (h:i < n):(cdL p n).getD i []=cdAt p i:=by simp [cdL,List.getD_eq_getElem?_getD,h]
def cpM (p:PD):List (List I5)×Bool:=if progB p=true∧∀ i,i < p.bods.length→codeB (cdAt p i)=true then (cdL p p.bods.length,true) else ([],false)
theorem cpM_yes {p:PD} (h:progB p=true) (h2:∀ i,i < p.bods.length→codeB (cdAt p i)=true):cpM p=(cdL p p.bods.length,true):=by unfold cpM;rw [if_pos ⟨h,h2⟩]
theorem cpM_no {p:PD} {k:Nat} (hk:k < p.bods.length) (h:codeB (cdAt p k)=false):cpM p=([],false):=by
 unfold cpM
 rw [if_neg (fun h2=>by rw [h2.2 k hk] at h;cases h)]
theorem cpM_none {p:PD} (h:progB p=false):cpM p=([],false):=by
 unfold cpM
 rw [if_neg (fun h2=>by rw [h2.1] at h;cases h)]
theorem own5_six {w:World} {base:Nat} {v:Value} {l:List I5} (h:OwnT5 w base v l):OwnP6 w base v l:=by
 show w.ownsRow base 65 5 v l.length (flatP l)
 rw [← flat_fl]
 exact h
theorem own_hu {w:World} {base:Nat} {e:TypeId} {size n:Nat} {v:Value} {xs:List Value} (h:w.ownsRow base e size v n xs):v.ownBlock=none∨∃ k,v.ownBlock=some k∧base≤k:=by
 rcases hob:v.ownBlock with _ | kk
 ·exact .inl rfl
 ·exact .inr ⟨kk,rfl,(World.ownsRow.lt h _ hob).1⟩
theorem ok_step {p:PD} {k:Nat} (h:∀ i,i < k→codeB (cdAt p i)=true) (h2:codeB (cdAt p k)=true):∀ i,i < k+1→codeB (cdAt p i)=true:=fun i hi=>by
 by_cases e:i=k
 ·subst e;exact h2
 ·exact h i (by omega)
theorem wp6 {o : Oper} {a : Act} {K : Act → World → Prop} {Q : Exit → Act → World → Prop} (s x : Operand) (ho : o.op = .call { callee := .builtin .append, args := #[s, x], argTypes := #[28, 28] })
  (w:World) (base:Nat) (v:Value) (xs:List Value) (n:Nat) (hs:a.eval s=v) (hown:w.ownsRow base 66 1 v n xs) (g0 c:Nat) (u:Value) (hu:u.oneCell'=true) (hx:a.eval x=.slice (some ⟨g0,0,none⟩) 1 c) (hc:w.cell? ⟨g0,0,none⟩=some u) (hn:n≤1000) (hbase:base≤w.heap.size)
  (h:∀ g cap w',w'.ownsRow base 66 1 (.slice (some ⟨g,0,none⟩) (n+1) cap) (n+1) (xs++[u])→w.grownBy w' v.ownBlock→(v.ownBlock=some g∨g=w.heap.size)→g < w'.heap.size→K (a.put o.dst (.slice (some ⟨g,0,none⟩) (n+1) cap)) w'):Oper.wp Tryz.prog o a w K Q:=by
 obtain ⟨i0,hi0,hz0,hz1,hz2⟩:=infoB6
 refine wp_append_lies w s x 28 ho base 66 i0 _ 1 24 Tryz.underlying28 hi0 hz0 hz1 hz2 rfl (by decide) v n xs hs hown ⟨g0,0,none⟩ 1 c [u] hx rfl (fun j y hj=>?_) (fun y hy=>by simp at hy;subst hy;exact hu) (by decide) (by unfold maxLen;omega) (by omega) hbase _ rfl h
 cases j with
 | zero=>simp at hj;subst hj;simpa [Addr.add] using hc
 | succ j=>simp at hj
theorem app6 {ops : Array Oper} {rest : List Oper} {o : Oper} {a : Act} {Q : Exit → Act → World → Prop} (hgd : o.guard = none) (s x : Operand) (ho : o.op = .call { callee := .builtin .append, args := #[s, x], argTypes := #[28, 28] })
  (w:World) (base:Nat) (v:Value) (xs:List Value) (n:Nat) (hs:a.eval s=v) (hown:w.ownsRow base 66 1 v n xs) (g0 c:Nat) (u:Value) (hu:u.oneCell'=true) (hx:a.eval x=.slice (some ⟨g0,0,none⟩) 1 c) (hc:w.cell? ⟨g0,0,none⟩=some u) (hn:n≤1000) (hbase:base≤w.heap.size)
  (h:∀ g cap w',w'.ownsRow base 66 1 (.slice (some ⟨g,0,none⟩) (n+1) cap) (n+1) (xs++[u])→w.grownBy w' v.ownBlock→(v.ownBlock=some g∨g=w.heap.size)→g < w'.heap.size→wpList Tryz.prog ops Q rest (a.put o.dst (.slice (some ⟨g,0,none⟩) (n+1) cap)) w'):wpList Tryz.prog ops Q (o::rest) a w:=
 wpList_plain hgd fun _ hK=>wp6 s x ho w base v xs n hs hown g0 c u hu hx hc hn hbase fun g cap w' h2 h3 h4 h5=>hK _ _ (h g cap w' h2 h3 h4 h5)
end
section
set_option linter.unusedSimpArgs false
set_option linter.unusedVariables false
set_option maxRecDepth 100000
open Go.RowKit
/- what a step answers, and the blocks that it leaves alone: those behind any world in which the machine was -/
def StepX (w:World) (B:Nat) (Hq:Nat→Prop) (vc vk vm vt:Value) (LC:List CV) (LK:List KV) (S:List RS) (d:MD) (x:MD×Int) (e:Ending) (w':World):Prop:=StepQ w B Hq x e w'∧∀ b,¬ Hq b→w'.heap[b]? =w.heap[b]?
theorem ex7 {Hq:Nat→Prop} {w F:World} {B:Nat} {vc vk vm vt:Value} {LC:List CV} {S:List RS} {d:MD} {c:Int} (h:∃ LK',MQ F B Hq vc vk vm vt LC LK' S d) (hb:Below B w F):StepQ w B Hq (d,c) (.returned (.tuple #[.agg #[vc,vk,vm,vt],.int .i64 c])) F:=by
 obtain ⟨LK',h⟩:=h
 exact ⟨vc,vk,vm,vt,LC,LK',S,rfl,h,hb⟩
set_option maxHeartbeats 4000000 in
theorem sp1 {Hq : Nat → Prop} (B : Nat) (vc vk vm vt : Value) (LC : List CV) (LK : List KV) (S : List RS) (d : MD) (who : Nat) (k : KD) (code : List I5) (s : I5) (late : Int) (w : World) (h : MQ w B Hq vc vk vm vt LC LK S d) (ha : At8 d who k code s) (hb : B ≤ w.heap.size) (ho : s.o = 1) :
  Calls Tryz.prog 28 #[.agg #[vc,vk,vm,vt],.agg #[.int .i64 who,.int .i64 late]] w fun e w'=>StepX w B Hq vc vk vm vt LC LK S d (stepAt d who late k code.length s) e w':=by
 obtain ⟨p,gc,cc,gk,ck,gs,cs,gr,cr,gv,cv,gO,cO,st,ct,O⟩:=h.open ha
 have HO8:=(show Hid (Op8 w B vc vk vm vt LK d who p k code s gc cc gk ck gs cs gr cr gv cv gO cO st ct) from O)
 obtain ⟨n1,n2,n3,n4,n5,n6,n7,n8,n9,n10⟩:=O.ne h
 obtain ⟨ec,ek,em,et,hx,hp,wc,wk,c0,k0,k1,k2,k3,s0,s1,s2,s3,s4,rr,fk,fr,zc,zk,zs,zr,zv,zO,bk,br,bv,bO⟩:=O
 subst ec ek em et
 have H:=hidS h
 have HA:=hidS ha
 have H8:Hid (k.regs.length=8):=ha.regs
 have HX:=hidS hx
 have hok:=ha.ok
 unfold stX Plain.stepB at hok
 rw [decide_eq_true_eq] at hok
 have hpl:=ha.pcl
 have hn8:=ha.n8
 have htr:=ha.tr
 obtain ⟨pc,regs,vw,st_⟩:=k
 obtain ⟨o,r,a,b,n⟩:=s
 simp only at ho hp hok k0 k3 rr s0 s1 s2 s3 s4 hpl
 subst hp
 subst ho
 obtain ⟨r',hr'⟩:∃ r':Nat,r=r':=⟨r.toNat,by omega⟩
 subst hr'
 have br0:(0:Int)≤(r':Int):=by omega
 have br1:(r':Int) < 8:=by omega
 have br2:r' < 8:=by omega
 obtain ⟨a',ha'⟩:∃ a':Nat,a=a':=⟨a.toNat,by omega⟩
 subst ha'
 have ba0:(0:Int)≤(a':Int):=by omega
 have ba1:(a':Int) < 8:=by omega
 have ba2:a' < 8:=by omega
 obtain ⟨b',hb'⟩:∃ b':Nat,b=b':=⟨b.toNat,by omega⟩
 subst hb'
 have bb0:(0:Int)≤(b':Int):=by omega
 have bb1:(b':Int) < 8:=by omega
 have bb2:b' < 8:=by omega
 clear hok
 have b0:(0:Int)≤(who:Int):=by omega
 have b1:(who:Int) < (d.codes.length:Int):=by omega
 have b2:(who:Int) < (LK.length:Int):=by omega
 have b3:(0:Int)≤(p:Int):=by omega
 have b4:(p:Int) < (code.length:Int):=by omega
 have z1:gk < w.heap.size+1:=by omega
 have z2:gk < w.heap.size+1+1:=by omega
 have C0:=hidS c0
 have K0:=hidS k0
 have K3:=hidS k3
 have RR:=hidS rr
 have FK:=hidS fk
 have FR:=hidS fr
 clear h ha hx rr fk fr
 go_enter Tryz.func28,Tryz.ntmps28
 go_wp2_with fail
 obtain ⟨W,hW⟩:∃ W,(((w.alloc (.cells #[.slice (some ⟨gc,0,none⟩) d.codes.length cc,.slice (some ⟨gk,0,none⟩) LK.length ck,.slice (some ⟨gO,0,none⟩) d.mem.length cO,.slice st d.tr.length ct] 35)).alloc (.cells #[.int .i64 who,.int .i64 late] 75)).alloc (.cells #[.slice none 0 0,.slice none 0 0,.slice none 0 0,.slice none 0 0] 35)).alloc (.cells #[.int .i64 p,.slice (some ⟨gr,0,none⟩) 8 cr,.slice (some ⟨gv,0,none⟩) 24 cv,.int .i64 st_] 42)=W:=⟨_,rfl⟩
 obtain ⟨V,hV⟩:∃ V,(W.alloc (.cells #[.int .i64 1,.int .i64 r',.int .i64 a',.int .i64 b',.int .i64 n] 65)).drew=V:=⟨_,rfl⟩
 obtain ⟨BX,KV⟩:=boxes5 hW hV
 have HBT:Hid (BxT V w.heap.size∧BxT V (w.heap.size+1+1)):=boxT hW hV
 have q0:W.cell? ⟨w.heap.size,0,none⟩=some (.slice (some ⟨gc,0,none⟩) d.codes.length cc):=by subst hW;simp [go_sem]
 have q1:W.cell? ⟨w.heap.size+1,0,none⟩=some (.int .i64 who):=by subst hW;simp [go_sem]
 have q2:W.cell? ⟨w.heap.size+1+1+1,0,none⟩=some (.int .i64 p):=by subst hW;simp [go_sem]
 have kW:Below w.heap.size w W:=by subst hW;exact ((((Below.refl _ _).alloc (Nat.le_refl _) _).alloc (by simp) _).alloc (by simp;omega) _).alloc (by simp;omega) _
 have q3:=(kW.cell (p:=⟨gc,who,none⟩) zc).trans c0
 have q4:=(kW.cell (p:=⟨gs,p * 5,none⟩) zs).trans s0
 have q5:=(kW.cell (p:=⟨gs,p * 5+1,none⟩) zs).trans s1
 have q6:=(kW.cell (p:=⟨gs,p * 5+2,none⟩) zs).trans s2
 have q7:=(kW.cell (p:=⟨gs,p * 5+3,none⟩) zs).trans s3
 have q8:=(kW.cell (p:=⟨gs,p * 5+4,none⟩) zs).trans s4
 have zW:=(show Hid (W.heap.size=w.heap.size+1+1+1+1) from by subst hW;show _=_;simp)
 have y0:w.heap.size < W.heap.size:=by have:=zW.out;omega
 have y1:w.heap.size+1 < W.heap.size:=by have:=zW.out;omega
 have y2:w.heap.size+1+1+1 < W.heap.size:=by have:=zW.out;omega
 have y3:gc < W.heap.size:=by omega
 have y4:gs < W.heap.size:=by omega
 rw [hW]
 have HV:=hidS hV
 have HBX:=(show Hid (Bx5 V w.heap.size _ _ _ _ _ _ _ _ _ _ _ _ _ _ _) from BX)
 have HKV:Hid (Below w.heap.size w V):=KV
 clear hW hV BX KV kW
 go_region
 rw [HV.out]
 rw [zW.out]
 clear q0 q1 q2 q3 q4 q5 q6 q7 q8 y0 y1 y2 y3 y4 c0 k0 k1 k2 k3 s0 s1 s2 s3 s4
 obtain ⟨m0,m1,m2,m3,x0,x1,a0,a1,a2,a3,e0,e1,e2,e3,t0,t1,t2,t3,t4,fm,fa,zV⟩:=HBX.out
 have l0:=(HKV.out.cell (p:=⟨gc,who,none⟩) zc).trans C0.out
 have l2:=(HKV.out.cell (p:=⟨gk,who * 4,none⟩) zk).trans K0.out
 have l3:=(HKV.out.cell (p:=⟨gk,who * 4+3,none⟩) zk).trans K3.out
 obtain ⟨vr,hvr⟩:∃ v,regs.getD r' 0=v:=⟨_,rfl⟩
 have HVr:=hidS hvr
 clear hvr
 have lr:V.cell? ⟨gr,r',none⟩=some (.int .i64 vr):=by rw [← HVr.out];exact (HKV.out.cell (p:=⟨gr,r',none⟩) zr).trans (RR.out r' (by omega))
 obtain ⟨va,hva⟩:∃ v,regs.getD a' 0=v:=⟨_,rfl⟩
 have HVa:=hidS hva
 clear hva
 have la:V.cell? ⟨gr,a',none⟩=some (.int .i64 va):=by rw [← HVa.out];exact (HKV.out.cell (p:=⟨gr,a',none⟩) zr).trans (RR.out a' (by omega))
 obtain ⟨vb,hvb⟩:∃ v,regs.getD b' 0=v:=⟨_,rfl⟩
 have HVb:=hidS hvb
 clear hvb
 have lb:V.cell? ⟨gr,b',none⟩=some (.int .i64 vb):=by rw [← HVb.out];exact (HKV.out.cell (p:=⟨gr,b',none⟩) zr).trans (RR.out b' (by omega))
 have f2:∀ j,V.frozen? ⟨gk,j,none⟩=false:=fun j=>(HKV.out.frozen (p:=⟨gk,j,none⟩) zk).trans (FK.out j)
 have f3:∀ j,V.frozen? ⟨gr,j,none⟩=false:=fun j=>(HKV.out.frozen (p:=⟨gr,j,none⟩) zr).trans (FR.out j)
 have v0:w.heap.size < V.heap.size:=by omega
 have v1:w.heap.size+1 < V.heap.size:=by omega
 have v2:w.heap.size+1+1 < V.heap.size:=by omega
 have v3:w.heap.size+1+1+1 < V.heap.size:=by omega
 have v4:gc < V.heap.size:=by omega
 have v5:gr < V.heap.size:=by omega
 have v6:gk < V.heap.size:=by omega
 have w1:IntKind.i64.wrap ((p:Int)+1)=(p:Int)+1:=Go.IntWalk.i64_in _ (by omega)
 have HQ:=(show Hid _ from H.out.reg HX.out H8.out r' n)
 have LN:(LK.set who ⟨⟨p,regs.set r' n,vw,st_⟩,.slice (some ⟨gr,0,none⟩) 8 cr,.slice (some ⟨gv,0,none⟩) 24 cv⟩).length=LK.length:=by rw [List.length_set]
 have HXN:=set_at (y:=⟨⟨p,regs.set r' n,vw,st_⟩,.slice (some ⟨gr,0,none⟩) 8 cr,.slice (some ⟨gv,0,none⟩) 24 cv⟩) HX.out
 have HSZ:=(show Hid ((w.setCell ⟨gr,r',none⟩ (.int .i64 n)).heap.size=w.heap.size) from by show _=_;simp)
 have EQ:Hid (stepAt d who late ⟨p,regs,vw,st_⟩ code.length ⟨1,r',a',b',n⟩=(goM (putK d who ⟨p,regs.set r' n,vw,st_⟩) who ⟨p,regs.set r' n,vw,st_⟩ code.length (p+1),0)):=by
  show _=_
  rw [goM_put]
  rw [stepAt1 _ _ _ _ _ _ rfl];unfold setR;simp only [Int.toNat_natCast]
 by_cases hin:(p:Int)+1 < (code.length:Int)
 ·go_wp2_with fail
  refine bodyPost_ret (v:=.tuple #[.agg #[.slice (some ⟨gc,0,none⟩) d.codes.length cc,.slice (some ⟨gk,0,none⟩) LK.length ck,.slice (some ⟨gO,0,none⟩) d.mem.length cO,.slice st d.tr.length ct],.int .i64 0]) (by simp [results,Tryz.results28,go_sem,fa,a0,a1,a2,a3]) rfl ?_
  rw [EQ.out]
  have hsz:=HSZ.out
  refine ⟨ex7 (HQ.out.go (n:=code.length) LN HXN (p+1) (by omega) (fun b hb1=>?_) ?_) ?_,fun b9 hX1=>?_⟩
  ·rw [hsz] at hb1;repeat' (first | with_reducible exact HKV.out.block b hb1 | (with_reducible refine (Below.heap_setCell _ ⟨w.heap.size+1+1,_,none⟩ _ b (by show b≠w.heap.size+1+1;omega)).trans ?_) | (with_reducible refine heap_pair ?_))
  ·rw [hsz];simp;omega
  ·repeat' (first | with_reducible exact HKV.out.mono hb | (with_reducible refine Below.setCell ?_ (by first | exact br | exact bk | (show B≤w.heap.size+1+1;omega)) _))
  ·have hX2:=H.out.lt hX1
   have hk9:b9≠gk:=fun e=>hX1 (e▸H.out.hh.k gk rfl)
   have hr9:b9≠gr:=fun e=>hX1 (e▸H.out.hh.ki who _ gr HX.out (.inl rfl))
   repeat' (first | with_reducible exact HKV.out.block b9 hX2 | (with_reducible refine (Below.heap_setCell _ ⟨_,_,none⟩ _ b9 (by first | (show b9≠w.heap.size+1+1;omega) | (show b9≠gk;omega) | (show b9≠gr;omega) | (show b9≠w.heap.size;omega))).trans ?_) | (with_reducible refine (Below.heap_alloc _ _ _ (by simp;omega)).trans ?_))
 ·go_wp2_with fail
  refine bodyPost_ret (v:=.tuple #[.agg #[.slice (some ⟨gc,0,none⟩) d.codes.length cc,.slice (some ⟨gk,0,none⟩) LK.length ck,.slice (some ⟨gO,0,none⟩) d.mem.length cO,.slice st d.tr.length ct],.int .i64 0]) (by simp [results,Tryz.results28,go_sem,fa,a0,a1,a2,a3]) rfl ?_
  rw [EQ.out]
  have hsz:=HSZ.out
  refine ⟨ex7 (HQ.out.no (n:=code.length) LN HXN (p+1) (by omega) (fun b hb1=>?_) ?_) ?_,fun b9 hX1=>?_⟩
  ·rw [hsz] at hb1;repeat' (first | with_reducible exact HKV.out.block b hb1 | (with_reducible refine (Below.heap_setCell _ ⟨w.heap.size+1+1,_,none⟩ _ b (by show b≠w.heap.size+1+1;omega)).trans ?_) | (with_reducible refine heap_pair ?_))
  ·rw [hsz];simp;omega
  ·repeat' (first | with_reducible exact HKV.out.mono hb | (with_reducible refine Below.setCell ?_ (by first | exact br | exact bk | (show B≤w.heap.size+1+1;omega)) _))
  ·have hX2:=H.out.lt hX1
   have hk9:b9≠gk:=fun e=>hX1 (e▸H.out.hh.k gk rfl)
   have hr9:b9≠gr:=fun e=>hX1 (e▸H.out.hh.ki who _ gr HX.out (.inl rfl))
   repeat' (first | with_reducible exact HKV.out.block b9 hX2 | (with_reducible refine (Below.heap_setCell _ ⟨_,_,none⟩ _ b9 (by first | (show b9≠w.heap.size+1+1;omega) | (show b9≠gk;omega) | (show b9≠gr;omega) | (show b9≠w.heap.size;omega))).trans ?_) | (with_reducible refine (Below.heap_alloc _ _ _ (by simp;omega)).trans ?_))
end
section
set_option linter.unusedSimpArgs false
set_option linter.unusedVariables false
set_option maxRecDepth 100000
open Go.RowKit
/- the same operation, made to do nothing -/
def idle (o:Oper):Oper:={ o with op:=.assign (.const (.bool false)) }
def lastOk (l:List Oper) (o:Oper):Bool:=
 (List.range l.length).all (fun i=>o.after.any fun e=>Region.binds .any e&&e.on==i)&&((List.range (l.length+1)).all fun i=>((l++[o])[i]?.map fun x=>x.after.all fun e=>!Region.binds .any e||decide (e.on < i)).getD true)
theorem idle_at (l:List Oper) (o:Oper) (i:Nat):(i < l.length∧(l++[idle o])[i]? =l[i]? ∧(l++[o])[i]? =l[i]?)∨(i=l.length∧(l++[idle o])[i]? =some (idle o)∧(l++[o])[i]? =some o)∨(l.length < i∧(l++[idle o])[i]? =none∧(l++[o])[i]? =none):=by
 rcases Nat.lt_trichotomy i l.length with h | h | h
 ·exact .inl ⟨h,List.getElem?_append_left h,List.getElem?_append_left h⟩
 ·subst h
  exact .inr (.inl ⟨rfl,by simp,by simp⟩)
 ·exact .inr (.inr ⟨h,by simp;omega,by simp;omega⟩)
theorem ready_idle (l:List Oper) (o:Oper) (listed:Array Bool):Region.ready .any (l++[idle o]).toArray listed=Region.ready .any (l++[o]).toArray listed:=by
 unfold Region.ready
 have hs:(l++[idle o]).toArray.size=(l++[o]).toArray.size:=by simp
 rw [hs]
 refine List.filter_congr fun i _=>?_
 rw [List.getElem?_toArray,List.getElem?_toArray]
 rcases idle_at l o i with ⟨-,h1,h2⟩ | ⟨-,h1,h2⟩ | ⟨-,h1,h2⟩<;>rw [h1,h2]<;>rfl
theorem yielded_idle (l:List Oper) (o:Oper) (t:Array Value):yielded (l++[idle o]).toArray t=yielded (l++[o]).toArray t:=by
 funext j
 unfold yielded
 rw [List.getElem?_toArray,List.getElem?_toArray]
 rcases idle_at l o j with ⟨-,h1,h2⟩ | ⟨-,h1,h2⟩ | ⟨-,h1,h2⟩<;>rw [h1,h2]<;>rfl
theorem mem_ready {ops:Array Oper} {listed:Array Bool} {i:Nat}:i∈Region.ready .any ops listed↔i < ops.size∧listed.getD i true=false∧((ops[i]?).map (·.after.all fun e=>!Region.binds .any e||listed.getD e.on false)).getD false=true:=by
 unfold Region.ready
 rw [List.mem_filter,List.mem_range,Bool.and_eq_true,Bool.not_eq_true']
theorem ready_some {l:List Oper} {o:Oper} (hL:lastOk l o=true) {listed:Array Bool} (hs:listed.size=l.length+1):∀ (k:Nat),k≤l.length→listed.getD k true=false→Region.ready .any (l++[o]).toArray listed≠[]:=by
 intro k
 induction k using Nat.strongRecOn with
 | ind k ih=>
  intro hk hf
  by_cases h:∃ j,j < k∧listed.getD j true=false
  ·obtain ⟨j,h1,h2⟩:=h
   exact ih j h1 (by omega) h2
  ·intro hn
   have:k∈Region.ready .any (l++[o]).toArray listed:=by
    rw [mem_ready]
    refine ⟨by simp;omega,hf,?_⟩
    unfold lastOk at hL
    rw [Bool.and_eq_true,List.all_eq_true,List.all_eq_true] at hL
    have q:=hL.2 k (List.mem_range.2 (by omega))
    rw [List.getElem?_toArray]
    obtain ⟨x,hx⟩:∃ x,(l++[o])[k]? =some x:=⟨_,List.getElem?_eq_getElem (by simp;omega)⟩
    rw [hx] at q ⊢
    simp only [Option.map_some,Option.getD_some] at q ⊢
    rw [Array.all_eq_true'] at q ⊢
    intro e he
    have q':=q e he
    rw [Bool.or_eq_true] at q' ⊢
    rcases q' with q' | q'
    ·exact .inl q'
    ·refine .inr ?_
     rw [decide_eq_true_eq] at q'
     have hj:¬ listed.getD e.on true=false:=fun hh=>h ⟨e.on,q',hh⟩
     have hlt:e.on < listed.size:=by omega
     simp only [Array.getD,hlt,dif_pos] at hj ⊢
     simpa using hj
   rw [hn] at this
   cases this
theorem ready_last {l:List Oper} {o:Oper} (hL:lastOk l o=true) {listed:Array Bool} (hs:listed.size=l.length+1) (h:l.length∈Region.ready .any (l++[o]).toArray listed):Region.ready .any (l++[o]).toArray (listed.setIfInBounds l.length true)=[]:=by
 rw [mem_ready] at h
 obtain ⟨-,-,h⟩:=h
 have e:(l++[o]).toArray[l.length]? =some o:=by rw [List.getElem?_toArray];simp
 rw [e] at h
 simp only [Option.map_some,Option.getD_some] at h
 rw [Array.all_eq_true'] at h
 unfold lastOk at hL
 rw [Bool.and_eq_true,List.all_eq_true] at hL
 refine List.eq_nil_iff_forall_not_mem.2 fun i hi=>?_
 rw [mem_ready] at hi
 obtain ⟨h1,h2,-⟩:=hi
 simp at h1
 by_cases hil:i=l.length
 ·subst hil
  have:l.length < listed.size:=by omega
  simp [Array.getD,this] at h2
 ·have q:=hL.1 i (List.mem_range.2 (by omega))
  rw [Array.any_eq_true'] at q
  obtain ⟨x,hx,q⟩:=q
  rw [Bool.and_eq_true,beq_iff_eq] at q
  have:=h x hx
  rw [q.1,q.2] at this
  have hlt:i < listed.size:=by omega
  simp [Array.getD,hlt] at this
  simp [Array.getD,hlt,Array.getElem_setIfInBounds,Ne.symm hil,this] at h2
theorem any_done {P:Program} {ops:Array Oper} {Q:Exit→Act→World→Prop} {listed:Array Bool} (hr:Region.ready .any ops listed=[]) {a:Act} {w:World} (h:Q .normal a w):∀ fuel,wpAny P .any ops Q fuel listed a w
 | 0=>⟨hr,h⟩
 | _+1=>⟨fun _=>h,by rw [hr];simp⟩
theorem last_conv {P : Program} {Q : Exit → Act → World → Prop} {C : World → Prop} {Qa : Act → Prop} {l : List Oper} {o : Oper} (hL : lastOk l o = true) (hg : o.guard = none) (hd : o.dst = none) {A : Array Oper} (hQ : ∀ a w, C w → Qa a → wpList P A Q [o] a w) :
  ∀ (fuel:Nat) (listed:Array Bool) (a:Act) (w:World),listed.size=l.length+1→listed.getD l.length true=false→C w→wpAnyQ P .any (l++[idle o]).toArray C Qa fuel listed a→wpAny P .any (l++[o]).toArray Q fuel listed a w
 | 0,listed,a,w,hs,hf,hC,h=>absurd ((ready_idle l o listed)▸h.1) (ready_some hL hs l.length (Nat.le_refl _) hf)
 | fuel+1,listed,a,w,hs,hf,hC,h=>by
  refine ⟨fun h0=>absurd h0 (ready_some hL hs l.length (Nat.le_refl _) hf),fun i hi=>?_⟩
  have hq:=h.2 i ((ready_idle l o listed).symm▸hi)
  have hlt:=(mem_ready.1 hi).1
  simp at hlt
  by_cases hil:i=l.length
  ·subst hil
   have hr:=ready_last hL hs hi
   have e':(l++[idle o]).toArray[l.length]? =some (idle o):=by rw [List.getElem?_toArray];simp
   have e:(l++[o]).toArray[l.length]? =some o:=by rw [List.getElem?_toArray];simp
   unfold qOp at hq
   simp only [e'] at hq
   have hw:∀ t,Region.wanted (idle o) t=true:=fun t=>by simp [Region.wanted,idle,hg]
   have hw':∀ t,Region.wanted o t=true:=fun t=>by simp [Region.wanted,hg]
   rw [if_pos (hw _)] at hq
   obtain ⟨v,-,hq⟩:=hq
   have ep:a.put (idle o).dst v=a:=by show a.put o.dst v=a;rw [hd];rfl
   rw [ep] at hq
   have ha:Qa a:=by
    cases fuel with
    | zero=>exact hq.2
    | succ n=>exact hq.1 (by rw [ready_idle];exact hr)
   unfold wpOp
   simp only [e]
   rw [if_pos (hw' _)]
   have hh:=hQ a w hC ha
   unfold wpList at hh
   rw [if_pos (hw' _)] at hh
   exact hh.imp (Oper.wp_mono (fun a' w' hh=>any_done hr hh fuel)) id
  ·have hi2:i < l.length:=by omega
   have ee:(l++[idle o]).toArray[i]? =(l++[o]).toArray[i]? :=by rw [List.getElem?_toArray,List.getElem?_toArray,List.getElem?_append_left hi2,List.getElem?_append_left hi2]
   have hq':qOp P (l++[o]).toArray C i (wpAnyQ P .any (l++[idle o]).toArray C Qa fuel (listed.setIfInBounds i true)) a:=by
    unfold qOp at hq ⊢
    rw [ee,yielded_idle] at hq
    exact hq
   refine wpOp_of_qOp hC (fun a' w' hC' hk=>last_conv hL hg hd hQ fuel _ a' w' (by simpa using hs) ?_ hC' hk) hq'
   have h9:l.length < listed.size:=by omega
   simp only [Array.getD,h9,dif_pos] at hf
   simp [Array.getD,h9,Array.getElem_setIfInBounds,hil]
   simpa using hf
theorem quiet_snoc {P:Program} {ops:Array Oper} {C:World→Prop} {Qa:Act→Prop} {o:Oper} (hg:o.guard=none) (hd:o.dst=none):∀ (l:List Oper) (a:Act),wpQuiet P ops C Qa l a→wpQuiet P ops C Qa (l++[idle o]) a
 | [],a,h=>by
  have hw:Region.wanted (idle o) (yielded ops a.tmps)=true:=by simp [Region.wanted,idle,hg]
  refine BigFrame.wpQuiet_want hw fun K hK=>?_
  refine BigFrame.quiet_assign (.const (.bool false)) rfl ?_
  refine hK _ ?_
  show Qa (a.put o.dst _)
  rw [hd]
  exact h
 | x::r,a,h=>by
  unfold wpQuiet at h
  show wpQuiet P ops C Qa (x::(r++[idle o])) a
  unfold wpQuiet
  split
  ·rename_i hw
   rw [if_pos hw] at h
   exact Oper.quiet_mono (fun a'=>quiet_snoc hg hd r a') h
  ·rename_i hw
   rw [if_neg hw] at h
   exact quiet_snoc hg hd r _ h
theorem regionLast {P : Program} {id : Nat} {Q : Exit → Act → World → Prop} {a : Act} (W : World) {full : List Oper} (o : Oper) (hf : full.getLast? = some o) (hm : P.follows .mixedOrders = true) (hB : Region.lexB .any (full.dropLast ++ [idle o]).toArray = true) (hL : lastOk full.dropLast o = true) (hg : o.guard = none) (hd : o.dst = none)
  (h:wpQuiet P (full.dropLast++[idle o]).toArray (fun w'=>∃ x:Ext W,w'=x.w) (fun a'=>∀ w',(∃ x:Ext W,w'=x.w)→wpList P full.toArray Q [o] a' w') full.dropLast a):(Code.region id full.toArray true).wp P Q a W:=by
 have hfull:full=full.dropLast++[o]:=by
  have hne:full≠[]:=fun e=>by rw [e] at hf;cases hf
  rw [List.getLast?_eq_some_getLast hne] at hf
  injection hf with hf
  rw [← hf]
  exact (List.dropLast_concat_getLast hne).symm
 have hq:=quiet_snoc hg hd _ _ h
 simp only [Region.lexB,Bool.and_eq_true] at hB
 have h2:=wpAnyQ_lex (md:=.any) hB.1 (full.dropLast++[idle o]) 0 (Array.replicate (full.dropLast++[idle o]).toArray.size false) a (by simp) (by simpa using hB.2) hq
 have hgoal:(Code.region id (full.dropLast++[o]).toArray true).wp P Q a W→(Code.region id full.toArray true).wp P Q a W:=fun hh=>by rw [← hfull] at hh;exact hh
 refine hgoal ?_
 refine wp_region_any hm ?_
 have hn:(full.dropLast++[o]).toArray.size=full.dropLast.length+1:=by simp
 rw [hn]
 refine last_conv (C:=fun w'=>∃ x:Ext W,w'=x.w) (Qa:=fun a'=>∀ w',(∃ x:Ext W,w'=x.w)→wpList P full.toArray Q [o] a' w') hL hg hd (fun a' w' hC hh=>hh w' hC) _ _ _ _ (by simp) ?_ ⟨⟨{ W with drawn:=W.drawn+1 },⟨rfl,rfl,rfl,Nat.le_refl _,fun _ _=>rfl⟩⟩,rfl⟩ ?_
 ·simp [Array.getD]
 ·have e2:(full.dropLast++[idle o]).toArray.size=full.dropLast.length+1:=by simp
  rw [e2] at h2
  simpa using h2
end
end Go.Proofs.YtkhjhibigldcgaaGreat
