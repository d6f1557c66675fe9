/- A machine and a row of codes beside it: marks over both. No condition of its own. -/
import Derived.Test.YtepfpbcjklaenaaGreatJG09
import Derived.Test.YtepfpbcjklaenaaGreatJG23
namespace Go.Proofs.YtepfpbcjklaenaaGreat
set_option linter.unusedSimpArgs false
set_option linter.unusedVariables false
set_option maxRecDepth 100000
open Go.RowKit
theorem IntC.same {w w':World} {lo hi:Nat} {a:Addr} (h:IntC w lo hi a) (hb:w'.heap[a.block]? =w.heap[a.block]?):IntC w' lo hi a:=
 ⟨by obtain ⟨z,hz⟩:=h.1;exact ⟨z,(World.cell?_of_block hb).trans hz⟩,(World.frozen?_of_block hb).trans h.2.1,h.2.2⟩
structure SN8 (w:World) (lo hi:Nat) (p:MP) (d:MD) (x:VS):Prop where
 o:MaSh w lo hi p d
 i:∀ a∈vAs x,IntC w lo hi a
 t:x.n=0∨Somewhere x.s
 s:∀ a∈vAs x,∀ b∈p.as d,b.block≠a.block
theorem SN8.keep {w w':World} {lo hi:Nat} {p:MP} {d:MD} {x:VS} (h:SN8 w lo hi p d x) (hb:Keep lo hi w w'):SN8 w' lo hi p d x:=⟨h.o.keep hb,fun a ha=>(h.i a ha).keep hb,h.t,h.s⟩
theorem own_vs {w:World} {base c:Nat} {s:Option Addr} {l:List Int} (h:OwnN w base (.slice s l.length c) l):(l.length=0∨Somewhere s)∧∀ a∈vAs ⟨s,l.length,c⟩,IntC w base w.heap.size a∧(Value.slice s l.length c).ownBlock=some a.block:=by
 rcases Nat.eq_zero_or_pos l.length with h0 | hp
 ·refine ⟨.inl h0,fun a ha=>?_⟩
  obtain ⟨i,hi,-⟩:=mem_vAs.1 ha
  simp only at hi
  omega
 ·obtain ⟨g,cap,e,-⟩:=World.ownsRow.form h hp
  injection e with e1 _ e3
  subst e1 e3
  have hlt:=World.ownsRow.lt h g rfl
  refine ⟨.inr ⟨g,0,rfl⟩,fun a ha=>?_⟩
  obtain ⟨i,hi,rfl⟩:=mem_vAs.1 ha
  simp only at hi
  refine ⟨⟨⟨l.getD i 0,?_⟩,?_,hlt.1,hlt.2⟩,rfl⟩
  ·show w.cell? ⟨g,0+i,none⟩=_
   rw [Nat.zero_add]
   exact OwnN.cell h hi
  ·show w.frozen? ⟨g,0+i,none⟩=false
   exact World.ownsRow.frozenAt h _
theorem SN8.of {w:World} {base c:Nat} {s:Option Addr} {p:MP} {d:MD} {C:List Int} (mo:MaO w base w.heap.size p d) (hn:OwnN w base (.slice s C.length c) C) (sp:∀ q,(Value.slice s C.length c).ownBlock=some q→∀ a∈p.as d,a.block≠q):SN8 w base w.heap.size p d ⟨s,C.length,c⟩:=
 ⟨mo.sh,fun a ha=>((own_vs hn).2 a ha).1,(own_vs hn).1,fun a ha b hb=>sp a.block ((own_vs hn).2 a ha).2 b hb⟩
structure MN8 (w:World) (lo hi:Nat) (p:MP) (d:MD) (x:VS):Prop where
 o:MaMk w lo hi p d 1
 i:∀ a∈vAs x,IntC w lo hi a
 t:x.n=0∨Somewhere x.s
 s:∀ a∈vAs x,∀ b∈p.as d,b.block≠a.block
theorem MN8.keep {w w':World} {lo hi:Nat} {p:MP} {d:MD} {x:VS} (h:MN8 w lo hi p d x) (hb:Keep lo hi w w'):MN8 w' lo hi p d x:=⟨h.o.keep hb,fun a ha=>(h.i a ha).keep hb,h.t,h.s⟩
structure HN8 (w:World) (lo hi:Nat) (p:MP) (d:MD) (x:VS) (q:Int):Prop where
 m:MN8 w lo hi p d x
 c:MarkedA w (vAs x) q
theorem HN8.keep {w w':World} {lo hi:Nat} {p:MP} {d:MD} {x:VS} {q:Int} (h:HN8 w lo hi p d x q) (hb:Keep lo hi w w'):HN8 w' lo hi p d x q:=⟨h.m.keep hb,fun i a ha=>by obtain ⟨-,-,b,c⟩:=h.m.i a (List.mem_of_getElem? ha);exact (hb.cell b c).trans (h.c i a ha)⟩
theorem markSN8 {w : World} {lo hi : Nat} {p : MP} {d : MD} {x : VS} (h : SN8 w lo hi p d x) (hB : hi ≤ w.heap.size) (hf : MaFits d) :
  Calls Tryz.prog 13 #[.agg #[.slice p.s1 d.codes.length p.c1,.slice p.s2 d.cores.length p.c2,.slice p.s3 d.mem.length p.c3,.slice p.s4 d.tr.length p.c4],.int .i64 1] w fun e w'=>e=.returned (.int .i64 (1+p.len d))∧MN8 w' lo hi p d x∧Exc lo hi w w':=by
 refine (markMachine_any p d lo hi 1 w h.o hB hf (by omega) (by omega)).mono ?_
 rintro e w' ⟨he,hm,hx,hk⟩
 exact ⟨he,⟨hm,fun a ha=>(h.i a ha).same (hk a.block (Nat.lt_of_lt_of_le (h.i a ha).2.2.2 hB) (h.s a ha)),h.t,h.s⟩,hx⟩
theorem markMN8 {w : World} {lo hi : Nat} {p : MP} {d : MD} {x : VS} (q : Int) (h : MN8 w lo hi p d x) (hn : x.n ≤ 2000000) (hq : 0 ≤ q) (hq' : q ≤ 1000000000000) :
  Calls Tryz.prog 15 #[.slice x.s x.n x.c,.int .i64 q] w fun e w'=>e=.returned (.int .i64 (q+x.n))∧HN8 w' lo hi p d x q∧Exc lo hi w w':=by
 refine (markI_any x lo hi q w h.t h.i hn hq (by omega)).mono ?_
 rintro e w' ⟨he,hw⟩
 exact ⟨he,⟨⟨⟨hw.mash (fun a ha=>(h.i a ha).1) h.o.sh,h.o.m.far hw (fun a ha hb=>h.s a hb a ha rfl)⟩,fun a ha=>hw.intc (h.i a ha),h.t,h.s⟩,hw.at'⟩,hw.exc (fun a ha=>(h.i a ha).2.2)⟩
theorem heldHN8 {w : World} {lo hi : Nat} {p : MP} {d : MD} {x : VS} {q : Int} (h : HN8 w lo hi p d x q) (hn : x.n ≤ 2000000) (hq : 0 ≤ q) (hq' : q ≤ 1000000000000) :
  Calls Tryz.prog 17 #[.slice x.s x.n x.c,.int .i64 q] w fun e w'=>e=.returned (.int .i64 (q+x.n))∧w'=w:=
 heldI_any x q w h.m.t (fun i hi=>h.c i _ (vAs_at hi)) hn hq (by omega)
theorem ownPk_vs {w:World} {base c:Nat} {s:Option Addr} {l:List ND} (h:OwnPk w base (.slice s l.length c) l):(l.length * 2=0∨Somewhere s)∧∀ a∈vAs ((⟨s,l.length,c⟩:VS).wide 2),IntC w base w.heap.size a:=by
 rcases Nat.eq_zero_or_pos l.length with h0 | hp
 ·refine ⟨.inl (by omega),fun a ha=>?_⟩
  obtain ⟨i,hi,-⟩:=mem_vAs.1 ha
  simp only [VS.wide] at hi
  omega
 ·obtain ⟨g,cap,e,-⟩:=World.ownsRow.form h hp
  injection e with e1 _ e3
  subst e1 e3
  have hlt:=World.ownsRow.lt h g rfl
  refine ⟨.inr ⟨g,0,rfl⟩,fun a ha=>?_⟩
  obtain ⟨i,hi,rfl⟩:=mem_vAs.1 ha
  simp only [VS.wide] at hi
  have hj:i / 2 < l.length:=by omega
  obtain ⟨e0,e1⟩:=flatN_at l (i / 2) _ (List.getElem?_eq_getElem hj)
  refine ⟨?_,?_,hlt.1,hlt.2⟩
  ·show ∃ z,w.cell? ⟨g,0+i,none⟩=_
   rw [Nat.zero_add,World.ownsRow.cellAt h _ (by omega)]
   rcases (show i=i / 2 * 2∨i=i / 2 * 2+1 by omega) with q | q
   ·rw [q,e0];exact ⟨_,rfl⟩
   ·rw [q,e1];exact ⟨_,rfl⟩
  ·show w.frozen? ⟨g,0+i,none⟩=false
   exact World.ownsRow.frozenAt h _
structure Pk8 (w:World) (lo hi:Nat) (s:Option Addr) (l:List ND):Prop where
 r:NtsR w lo hi s l
 t:l.length * 2=0∨Somewhere s
 i:∀ a∈vAs ((⟨s,l.length,l.length⟩:VS).wide 2),IntC w lo hi a
theorem Pk8.keep {w w':World} {lo hi:Nat} {s:Option Addr} {l:List ND} (h:Pk8 w lo hi s l) (hb:Keep lo hi w w'):Pk8 w' lo hi s l:=⟨h.r.keep hb,h.t,fun a ha=>(h.i a ha).keep hb⟩
theorem toPickS_ex (s : Option Addr) (c lo hi : Nat) (l : List ND) (w : World) (h : NtsR w lo hi s l) (hB : hi ≤ w.heap.size) (hl : l.length ≤ 1048576) :
  Calls Tryz.prog 8 #[.slice s l.length c] w fun e w'=>∃ g,e=.returned (.slice (some ⟨g,0,none⟩) l.length l.length)∧Pk8 w' w.heap.size w'.heap.size (some ⟨g,0,none⟩) l∧Below w.heap.size w w'∧w.heap.size < w'.heap.size:=by
 refine (toPickS_own s c lo hi l w h hB hl).mono ?_
 rintro e w' ⟨he,ho,hb,hz⟩
 obtain ⟨s',c',e',hr⟩:=ho.nts
 injection e' with e1 _ _
 subst e1
 exact ⟨_,he,⟨hr,(ownPk_vs ho).1,(ownPk_vs ho).2⟩,hb,hz⟩
theorem markPk8 {w : World} {lo hi : Nat} {s : Option Addr} {l : List ND} (q : Int) (h : Pk8 w lo hi s l) (hl : l.length ≤ 1048576) (hq : 0 ≤ q) (hq' : q ≤ 1000000000000000) :
  Calls Tryz.prog 14 #[.slice s l.length l.length,.int .i64 q] w fun e w'=>e=.returned (.int .i64 (q+(l.length * 2:Nat)))∧Exc lo hi w w':=by
 refine (markPk_any ⟨s,l.length,l.length⟩ lo hi q w h.t h.i (by show l.length * 2≤_;omega) hq hq').mono ?_
 rintro e w' ⟨he,hw⟩
 exact ⟨he,hw.exc (fun a ha=>(h.i a ha).2.2)⟩
theorem OwnN.intsM {w:World} {base c:Nat} {s:Option Addr} {l:List Int} (h:OwnN w base (.slice s l.length c) l):IntsR w base w.heap.size s l:=by
 obtain ⟨s',c',e,hi⟩:=ownN_ints h
 injection e with e _ _
 rw [e]
 exact hi
theorem mplen_le {d:MD} (p:MP) (hf:MaFits d):p.len d≤20000000:=by
 have h1:=hf.c
 have h2:=hf.k
 have h3:=hf.m
 have h4:=hf.t
 unfold MP.len
 omega
theorem rnM_sz:∀ (l:List ND) {d:MD},machB d=true→(rnM d l).mem.length+szR (rnM d l).mem≤d.mem.length+szR d.mem+25 * l.length
 | [],_,_=>by simp [rnM]
 | x::r,d,h=>by
  have h1:=(stepM_sz x.who x.v h).2
  have h2:=rnM_sz r (stepM_ok x.who x.v h)
  have e:rnM d (x::r)=rnM (stepM d x.who x.v).1 r:=rfl
  rw [e,List.length_cons]
  omega
theorem rnM_cds:∀ (l:List ND) {d:MD},machB d=true→(rnM d l).codes=d.codes
 | [],_,_=>rfl
 | x::r,d,h=>(rnM_cds r (stepM_ok x.who x.v h)).trans (stepM_sz x.who x.v h).1
theorem runMb_fits {d:MD} (l:List ND) (hf:MaSz d≤1048576):MaFits (runMb d l):=by
 unfold runMb
 split
 ·rename_i h
  exact fits_of (e:=100000) (rnM_ok l h.2) hf (rnM_cds l h.2) (by have:=rnM_sz l h.2;omega) (by omega)
 ·exact MaFits.of hf
end Go.Proofs.YtepfpbcjklaenaaGreat
