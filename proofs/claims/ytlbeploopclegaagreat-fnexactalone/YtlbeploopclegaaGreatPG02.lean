/- How the laws copy memories into new memory. Conditions: they are counted. Rows of notes as they lie in memory, and how the laws count, copy and compare them. Conditions: each list of at most 1048576. How arguments of the laws read: a Step is five integers. No condition. How a list of steps that came in reads: each step is five integers. No condition. -/
import Derived.Test.YtlbeploopclegaaGreatPG00
import Derived.Test.YtlbeploopclegaaGreatPG01
import Derived.Deep.RegionWith
import Derived.Test.YtlbeploopclegaaGreatRows
import Derived.WalkKit
import Derived.ProofKit
import Derived.OpenShut
import Derived.ShutString
import Derived.ChangeOld
import Derived.Below
import Derived.Deep.Slices
namespace Go.Proofs.YtlbeploopclegaaGreat
section
set_option linter.unusedSimpArgs false
set_option linter.unusedVariables false
set_option maxRecDepth 100000
open Go.RowKit
set_option maxHeartbeats 1000000 in
theorem toWrite_own (pc : Int) (s : Option Addr) (c lo hi : Nat) (l : List Int) (w : World) (h : IntsR w lo hi s l) (hB : hi ≤ w.heap.size) (hl : l.length ≤ 1048576) :
  Calls Tryz.prog 118 #[.agg #[.int .i64 pc,.slice s l.length c]] w fun e w'=>∃ g,e=.returned (.agg #[.int .i64 pc,.slice (some ⟨g,0,none⟩) l.length l.length])∧OwnN w' w.heap.size (.slice (some ⟨g,0,none⟩) l.length l.length) l∧Below w.heap.size w w'∧g < w'.heap.size∧w.heap.size≤g:=by
 have HR:Hid (IntsR w lo hi s l):=h
 clear h
 go_enter Tryz.func118,Tryz.ntmps118
 go_wp2_with fail
 refine (toIntS_own s c lo hi l _ (HR.out.keep (Keep.of_below ((((Below.refl w.heap.size w).alloc (Nat.le_refl _) _).alloc (by simp) _).alloc (by simp;omega) _) hB)) (by simp;omega) hl).mono ?_
 rintro e w1 ⟨rfl,ho1,hb1,hz1⟩
 have z3:w.heap.size+3 < w1.heap.size:=by simp at hz1;omega
 have z0:w.heap.size < w1.heap.size:=by omega
 have z1:w.heap.size+1 < w1.heap.size:=by omega
 have z2:w.heap.size+1+1 < w1.heap.size:=by omega
 have d0:w1.cell? ⟨w.heap.size+1,0,none⟩=some (.int .i64 0):=by rw [hb1.cell (by simp)];simp [go_sem]
 have d1:w1.cell? ⟨w.heap.size+1,1,none⟩=some (.slice none 0 0):=by rw [hb1.cell (by simp)];simp [go_sem]
 have e0:w1.cell? ⟨w.heap.size+1+1,0,none⟩=some (.int .i64 pc):=by rw [hb1.cell (by simp)];simp [go_sem]
 have e1:w1.cell? ⟨w.heap.size+1+1,1,none⟩=some (.slice none 0 0):=by rw [hb1.cell (by simp)];simp [go_sem]
 have y0:∀ j,w1.frozen? ⟨w.heap.size+1,j,none⟩=false:=fun j=>by rw [hb1.frozen (by simp)];simp [go_sem]
 have y1:∀ j,w1.frozen? ⟨w.heap.size+1+1,j,none⟩=false:=fun j=>by rw [hb1.frozen (by simp)];simp [go_sem]
 have k1:Below w.heap.size w w1:=((((Below.refl _ w).alloc (Nat.le_refl _) _).alloc (by simp) _).alloc (by simp;omega) _).trans (hb1.mono (by simp;omega))
 obtain ⟨G,hG,hGb⟩:∃ G,G=w.heap.size+1+1+1∧w.heap.size+3≤G:=⟨_,rfl,Nat.le_refl _⟩
 have HI:Hid (OwnN w1 w.heap.size (.slice (some ⟨G,0,none⟩) l.length l.length) l):=by
  have h:=ho1
  simp at h
  rw [hG]
  exact ownLow' h (by omega)
 have HGs:Hid (G < w1.heap.size):=by show G < w1.heap.size;omega
 have e3:(((w.alloc (.cells #[.int .i64 pc,.slice s l.length c] 170)).alloc (.cells #[.int .i64 0,.slice none 0 0] 99)).alloc (.cells #[.int .i64 pc,.slice none 0 0] 99)).heap.size=G:=by simp [hG]
 first | rw [e3] | (simp only [World.size_alloc];rw [← hG]) | skip
 clear hb1 ho1 hz1 hG e3
 go_wp2
 have fin:∀ k,w.heap.size+3≤k→(((w1.setCell ⟨w.heap.size+1+1,1,none⟩ (.slice (some ⟨G,0,none⟩) l.length l.length)).setCell ⟨w.heap.size+1,0,none⟩ (.int .i64 pc)).setCell ⟨w.heap.size+1,1,none⟩ (.slice (some ⟨G,0,none⟩) l.length l.length)).heap[k]? =w1.heap[k]? :=fun k hk=>by
  rw [Below.heap_setCell _ _ _ k (by simp;omega),Below.heap_setCell _ _ _ k (by simp;omega),Below.heap_setCell _ _ _ k (by simp;omega)]
 refine bodyPost_ret (v:=.agg #[.int .i64 pc,.slice (some ⟨G,0,none⟩) l.length l.length]) (by simp [results,Tryz.results118,go_sem,d0,d1]) rfl ⟨G,rfl,?_,?_,by have:=HGs.out;simp;omega,by omega⟩
 ·exact ownKeep' HI.out (fun k hk=>fin k (by have hk2:some G=some k:=hk;injection hk2 with hk2;omega))
 ·exact (((k1.setCell (p:=⟨w.heap.size+1+1,1,none⟩) (by simp;omega) _).setCell (p:=⟨w.heap.size+1,0,none⟩) (by simp) _).setCell (p:=⟨w.heap.size+1,1,none⟩) (by simp) _)
theorem mkW (n:Nat) (hn:n≤1048576) (w:World):(Instr.makeSlice 97 (.int .i64 (n:Int)) (.int .i64 (n:Int))).run Tryz.prog w=.ok (.slice (some ⟨w.heap.size,0,none⟩) n n) (w.alloc (.cells (madeCells #[.int .i64 0,.slice none 0 0] (n * 2)) 99)):=by
 have h:=run_make (P:=Tryz.prog) w 97 99 _ (.agg #[.int .i64 0,.slice none 0 0]) Tryz.underlying97 rfl rfl .i64 .i64 n n (by omega) (Int.le_refl _) (by show (32:Int) * _≤_;omega) (by omega)
 have e:(Value.agg #[.int .i64 0,.slice none 0 0]).cells=#[.int .i64 0,.slice none 0 0]:=rfl
 have e':∀ t,Tryz.prog.info? 99=some t→t.size=2:=by intro t h;cases h;rfl
 rw [e,e' _ rfl] at h
 simpa using h
theorem mkWW (n:Nat) (hn:n≤1048576) (w:World):(Instr.makeSlice 33 (.int .i64 (n:Int)) (.int .i64 (n:Int))).run Tryz.prog w=.ok (.slice (some ⟨w.heap.size,0,none⟩) n n) (w.alloc (.cells (madeCells #[.slice none 0 0] (n * 1)) 97)):=by
 have h:=run_make (P:=Tryz.prog) w 33 97 _ (.slice none 0 0) Tryz.underlying33 rfl rfl .i64 .i64 n n (by omega) (Int.le_refl _) (by show (24:Int) * _≤_;omega) (by omega)
 have e:(Value.slice none 0 0).cells=#[.slice none 0 0]:=rfl
 have e':∀ t,Tryz.prog.info? 97=some t→t.size=1:=by intro t h;cases h;rfl
 rw [e,e' _ rfl] at h
 simpa using h
def set2 (w:World) (g o:Nat) (a b:Value):World:=(w.setCell ⟨g,o,none⟩ a).setCell ⟨g,o+1,none⟩ b
theorem set2_below {B g o:Nat} {w w':World} {a b:Value} (h:Below B w w') (hg:B≤g):Below B w (set2 w' g o a b):=(h.setCell (p:=⟨g,o,none⟩) hg _).setCell (p:=⟨g,o+1,none⟩) hg _
theorem set2_size {g o:Nat} {w:World} {a b:Value}:(set2 w g o a b).heap.size=w.heap.size:=by simp [set2]
theorem set2_block {g o k:Nat} {w:World} {a b:Value} (h:k≠g):(set2 w g o a b).heap[k]? =w.heap[k]? :=by
 unfold set2
 rw [Below.heap_setCell _ _ _ k h,Below.heap_setCell _ _ _ k h]
theorem set2_frozen {g o:Nat} {w:World} {a b:Value} (p:Addr):(set2 w g o a b).frozen? p=w.frozen? p:=by simp [set2,World.frozen?_setCell]
theorem set2_off {g o:Nat} {w:World} {a b:Value} (p:Addr) (h1:p≠⟨g,o,none⟩) (h2:p≠⟨g,o+1,none⟩):(set2 w g o a b).cell? p=w.cell? p:=by
 unfold set2
 rw [World.cell?_setCell_other _ _ _ _ (fun e=>h2 e.symm),World.cell?_setCell_other _ _ _ _ (fun e=>h1 e.symm)]
theorem set2_at {g o:Nat} {w:World} {a b:Value} (h1:(w.cell? ⟨g,o,none⟩).isSome=true) (h2:(w.cell? ⟨g,o+1,none⟩).isSome=true):(set2 w g o a b).cell? ⟨g,o,none⟩=some a∧(set2 w g o a b).cell? ⟨g,o+1,none⟩=some b:=by
 unfold set2
 refine ⟨?_,setC_at (setC_some h2)⟩
 rw [setC_off (by omega)]
 exact setC_at h1
set_option maxHeartbeats 1000000 in
theorem toWriteS_own (s : Option Addr) (c lo hi : Nat) (l : List WD) (w : World) (h : WsR w lo hi s l) (hB : hi ≤ w.heap.size) (hl : l.length + szV l ≤ 1048576) :
  Calls Tryz.prog 93 #[.slice s l.length c] w fun e w'=>∃ vs,e=.returned (.slice (some ⟨w.heap.size,0,none⟩) l.length l.length)∧RO w' w.heap.size w'.heap.size ⟨some ⟨w.heap.size,0,none⟩,l.length,vs⟩ l∧Below w.heap.size w w'∧w.heap.size < w'.heap.size:=by
 have hl1:l.length≤1048576:=by omega
 have hmk:=mkW l.length hl1
 have HC:Hid (WsR w lo hi s l):=h
 have HLS:Hid (∀ (i:Nat) (t:WD),l[i]? =some t→t.vw.length≤1048576):=fun i t ht=>by have:=szV_at l i t ht;omega
 clear h hl
 go_enter Tryz.func93,Tryz.ntmps93
 go_wp2
 clear hmk
 go_loopw [4] (fun i wr=>∃ k:Nat,k≤l.length∧i=.int .i64 k∧Below w.heap.size w wr∧w.heap.size < wr.heap.size∧(∀ j,j < l.length * 2→(wr.cell? ⟨w.heap.size,j,none⟩).isSome=true)∧(∀ j,wr.frozen? ⟨w.heap.size,j,none⟩=false)∧∃ vs,RO wr w.heap.size wr.heap.size ⟨some ⟨w.heap.size,0,none⟩,l.length,vs⟩ (l.take k)) (fun i _=>l.length - (intOf i).toNat)
 case atStart=>
  exact ⟨0,Nat.zero_le _,rfl,(Below.refl _ _).alloc (Nat.le_refl _) _,by simp,fun j hj=>new_cell (by rw [size_madeCells];omega),fun j=>new_frozen,[],RO.nil _ _ _ _ _⟩
 case round=>
  obtain ⟨k,hk,rfl,hb,hsz,hso,hfz,vs,hro⟩:=hrel
  have HB:Hid (Below w.heap.size w wr):=hb
  have HSO:Hid (∀ j,j < l.length * 2→(wr.cell? ⟨w.heap.size,j,none⟩).isSome=true):=hso
  have HFZ:Hid (∀ j,wr.frozen? ⟨w.heap.size,j,none⟩=false):=hfz
  have HRO:Hid (RO wr w.heap.size wr.heap.size ⟨some ⟨w.heap.size,0,none⟩,l.length,vs⟩ (l.take k)):=hro
  clear hb hso hfz hro
  by_cases hlt:k < l.length
  ·obtain ⟨t,ht⟩:∃ t,l[k]? =some t:=⟨_,List.getElem?_eq_getElem hlt⟩
   obtain ⟨g,off,s1,c1,hs,hg1,hg,f0,f1,hin⟩:=(HC.out.keep (Keep.of_below HB.out hB)).at ht
   subst hs
   have hlen:=HLS.out k t ht
   have HT:Hid (l.take (k+1)=l.take k++[t]):=by show l.take (k+1)=l.take k++[t];rw [List.take_add_one,ht];rfl
   have TL:Hid ((l.take k).length=k):=by show (l.take k).length=k;simp;omega
   obtain ⟨v,rg⟩:=t
   simp only at f0 f1 hin hlen
   have HIN:Hid (IntsR wr lo hi s1 rg):=hin
   clear ht hin
   have b0:(0:Int)≤(k:Int):=by omega
   have b1:(k:Int) < (l.length:Int):=by omega
   go_wp2_with fail
   refine (toWrite_own v s1 c1 lo hi rg wr HIN.out (by omega) hlen).mono ?_
   rintro e w1 ⟨G,rfl,ho1,hb1,hz1,hG⟩
   have HB1:Hid (Below wr.heap.size wr w1):=hb1
   have HO1:Hid (OwnN w1 wr.heap.size (.slice (some ⟨G,0,none⟩) rg.length rg.length) rg):=ho1
   have HG:Hid (wr.heap.size≤G∧G < w1.heap.size):=⟨hG,hz1⟩
   have HSO1:Hid (∀ j,j < l.length * 2→(w1.cell? ⟨w.heap.size,j,none⟩).isSome=true):=fun j hj=>by rw [hb1.cell (p:=⟨w.heap.size,j,none⟩) hsz];exact HSO.out j hj
   have hfz:∀ j,w1.frozen? ⟨w.heap.size,j,none⟩=false:=fun j=>by rw [hb1.frozen (p:=⟨w.heap.size,j,none⟩) hsz];exact HFZ.out j
   obtain ⟨u0,g0⟩:=Option.isSome_iff_exists.1 (HSO1.out (k * 2) (by omega))
   obtain ⟨u1,g1⟩:=Option.isSome_iff_exists.1 (HSO1.out (k * 2+1) (by omega))
   clear hb1 ho1 hG hz1 f0 f1
   go_wp2
   go_roundw
   case rel=>
    have hs1:=HB1.out.size
    have hg:=HG.out
    show ∃ k':Nat,_∧_∧Below w.heap.size w (set2 w1 w.heap.size (k * 2) (.int .i64 v) (.slice (some ⟨G,0,none⟩) rg.length rg.length))∧_ < (set2 w1 w.heap.size (k * 2) (.int .i64 v) (.slice (some ⟨G,0,none⟩) rg.length rg.length)).heap.size∧(∀ j,_→((set2 w1 w.heap.size (k * 2) (.int .i64 v) (.slice (some ⟨G,0,none⟩) rg.length rg.length)).cell? _).isSome=true)∧(∀ j,(set2 w1 w.heap.size (k * 2) (.int .i64 v) (.slice (some ⟨G,0,none⟩) rg.length rg.length)).frozen? _=false)∧∃ vs',RO (set2 w1 w.heap.size (k * 2) (.int .i64 v) (.slice (some ⟨G,0,none⟩) rg.length rg.length)) _ (set2 w1 w.heap.size (k * 2) (.int .i64 v) (.slice (some ⟨G,0,none⟩) rg.length rg.length)).heap.size _ _
    have ats:=set2_at (w:=w1) (g:=w.heap.size) (o:=k * 2) (a:=.int .i64 v) (b:=.slice (some ⟨G,0,none⟩) rg.length rg.length) (by rw [g0];rfl) (by rw [g1];rfl)
    refine ⟨k+1,by omega,by go_num,set2_below (HB.out.trans (HB1.out.mono (by omega))) (Nat.le_refl _),by rw [set2_size];omega,fun j hj=>setC_some (setC_some (HSO1.out j hj)),fun j=>by rw [set2_frozen];exact hfz j,vs++[⟨some ⟨G,0,none⟩,rg.length,rg.length⟩],?_⟩
    rw [HT.out,set2_size]
    have hr:=(HRO.out.keep (Keep.of_below HB1.out (Nat.le_refl _))).mono (Nat.le_refl _) hs1
    have tl:=TL.out
    refine RO.push (w:=w1) ⟨some ⟨G,0,none⟩,rg.length,rg.length⟩ ⟨v,rg⟩ hr ⟨Nat.le_refl _,by omega⟩ (fun a h1 h2=>⟨set2_off a (by rw [tl,Nat.zero_add] at h1;exact h1) (by rw [tl,Nat.zero_add] at h2;exact h2),set2_frozen a⟩) ?_ ?_ ?_ ?_ ?_ (vAs_nodup (g:=G) (o:=0) rfl) ?_
    ·rw [tl,Nat.zero_add];exact ats.1
    ·rw [set2_frozen];exact hfz _
    ·rw [tl,Nat.zero_add];exact ats.2
    ·exact vAs_of_ints (ownKeep' HO1.out (fun b hb=>set2_block (by have hb2:some G=some b:=hb;injection hb2 with hb2;omega))) (by omega) hg.2
    ·intro a ha
     obtain ⟨i,-,rfl⟩:=mem_vAs.1 ha
     show G≠_
     omega
    ·intro x' hx' a ha ha'
     obtain ⟨i,-,rfl⟩:=mem_vAs.1 ha'
     have hm:adr (some ⟨G,0,none⟩) i∈rAs (some ⟨w.heap.size,0,none⟩) vs 0:=mem_rAs.2 (.inr ⟨x',hx',ha⟩)
     have:=(HRO.out.blk (a:=adr (some ⟨G,0,none⟩) i) hm).2
     have h9:G < wr.heap.size:=this
     omega
   case measure=>simp [intOf];omega
  ·go_wp2
   go_ret
   have:k=l.length:=by omega
   subst this
   have h1:=HRO.out
   rw [List.take_length] at h1
   exact ⟨vs,rfl,h1,HB.out,hsz⟩
set_option maxHeartbeats 1000000 in
theorem toWriteSS_own (s : Option Addr) (c lo hi : Nat) (m : List (List WD)) (w : World) (h : MemR w lo hi s m) (hB : hi ≤ w.heap.size) (hl : MFits m) :
  Calls Tryz.prog 66 #[.slice s m.length c] w fun e w'=>∃ S,e=.returned (.slice (some ⟨w.heap.size,0,none⟩) m.length m.length)∧MO w' w.heap.size w'.heap.size (some ⟨w.heap.size,0,none⟩) S m∧Below w.heap.size w w'∧w.heap.size < w'.heap.size:=by
 have hl1:=hl.n
 have hmk:=mkWW m.length hl1
 have HC:Hid (MemR w lo hi s m):=h
 have HLS:Hid (∀ (i:Nat) (t:List WD),m[i]? =some t→t.length+szV t≤1048576):=fun i t ht=>hl.r ht
 clear h hl
 go_enter Tryz.func66,Tryz.ntmps66
 go_wp2
 clear hmk
 go_loopw [4] (fun i wr=>∃ k:Nat,k≤m.length∧i=.int .i64 k∧Below w.heap.size w wr∧w.heap.size < wr.heap.size∧(∀ j,j < m.length→(wr.cell? ⟨w.heap.size,j,none⟩).isSome=true)∧(∀ j,wr.frozen? ⟨w.heap.size,j,none⟩=false)∧∃ S,MO wr w.heap.size wr.heap.size (some ⟨w.heap.size,0,none⟩) S (m.take k)∧∀ a∈mAs S,a.block≠w.heap.size) (fun i _=>m.length - (intOf i).toNat)
 case atStart=>
  exact ⟨0,Nat.zero_le _,rfl,(Below.refl _ _).alloc (Nat.le_refl _) _,by simp,fun j hj=>new_cell (by rw [size_madeCells];omega),fun j=>new_frozen,[],MO.nil _ _ _ _,fun a ha=>by simp [mAs] at ha⟩
 case round=>
  obtain ⟨k,hk,rfl,hb,hsz,hso,hfz,S,hro,hne⟩:=hrel
  have HB:Hid (Below w.heap.size w wr):=hb
  have HSO:Hid (∀ j,j < m.length→(wr.cell? ⟨w.heap.size,j,none⟩).isSome=true):=hso
  have HFZ:Hid (∀ j,wr.frozen? ⟨w.heap.size,j,none⟩=false):=hfz
  have HRO:Hid (MO wr w.heap.size wr.heap.size (some ⟨w.heap.size,0,none⟩) S (m.take k)):=hro
  have HNE:Hid (∀ a∈mAs S,a.block≠w.heap.size):=hne
  clear hb hso hfz hro hne
  by_cases hlt:k < m.length
  ·obtain ⟨t,ht⟩:∃ t,m[k]? =some t:=⟨_,List.getElem?_eq_getElem hlt⟩
   obtain ⟨g,off,s1,c1,hs,hg1,hg,f0,hin⟩:=(HC.out.keep (Keep.of_below HB.out hB)).row ht
   subst hs
   have HL:Hid (t.length+szV t≤1048576):=HLS.out k t ht
   have HT:Hid (m.take (k+1)=m.take k++[t]):=by show m.take (k+1)=m.take k++[t];rw [List.take_add_one,ht];rfl
   have TL:Hid ((m.take k).length=k):=by show (m.take k).length=k;simp;omega
   have HIN:Hid (WsR wr lo hi s1 t):=hin
   clear ht hin
   have b0:(0:Int)≤(k:Int):=by omega
   have b1:(k:Int) < (m.length:Int):=by omega
   go_wp2_with fail
   refine (toWriteS_own s1 c1 lo hi t wr HIN.out (by omega) HL.out).mono ?_
   rintro e w1 ⟨vs,rfl,ho1,hb1,hz1⟩
   have HB1:Hid (Below wr.heap.size wr w1):=hb1
   have HO1:Hid (RO w1 wr.heap.size w1.heap.size ⟨some ⟨wr.heap.size,0,none⟩,t.length,vs⟩ t):=ho1
   have HSO1:Hid (∀ j,j < m.length→(w1.cell? ⟨w.heap.size,j,none⟩).isSome=true):=fun j hj=>by rw [hb1.cell (p:=⟨w.heap.size,j,none⟩) hsz];exact HSO.out j hj
   have hfz:∀ j,w1.frozen? ⟨w.heap.size,j,none⟩=false:=fun j=>by rw [hb1.frozen (p:=⟨w.heap.size,j,none⟩) hsz];exact HFZ.out j
   obtain ⟨u0,g0⟩:=Option.isSome_iff_exists.1 (HSO1.out k (by omega))
   have HZ1:Hid (wr.heap.size < w1.heap.size):=hz1
   clear hb1 ho1 f0 hz1
   go_wp2
   go_roundw
   case rel=>
    have hs1:=HB1.out.size
    have tl:=TL.out
    have hz:=HZ1.out
    have n1:=HO1.out.n
    simp only at n1
    have at0:(w1.setCell ⟨w.heap.size,k,none⟩ (.slice (some ⟨wr.heap.size,0,none⟩) t.length t.length)).cell? ⟨w.heap.size,k,none⟩=some (.slice (some ⟨wr.heap.size,0,none⟩) t.length t.length):=setC_at (by rw [g0];rfl)
    have kp:Keep (w.heap.size+1) w1.heap.size w1 (w1.setCell ⟨w.heap.size,k,none⟩ (.slice (some ⟨wr.heap.size,0,none⟩) t.length t.length)):=fun b h1 h2=>Below.heap_setCell _ _ _ b (by show b≠w.heap.size;omega)
    have hr1:RO (w1.setCell ⟨w.heap.size,k,none⟩ (.slice (some ⟨wr.heap.size,0,none⟩) t.length t.length)) w.heap.size w1.heap.size ⟨some ⟨wr.heap.size,0,none⟩,t.length,vs⟩ t:=((HO1.out.mono (lo':=w.heap.size+1) (by omega) (Nat.le_refl _)).keep kp).mono (by omega) (Nat.le_refl _)
    refine ⟨k+1,by omega,by go_num,(HB.out.trans (HB1.out.mono (by omega))).setCell (p:=⟨w.heap.size,k,none⟩) (Nat.le_refl _) _,by simp;omega,fun j hj=>setC_some (HSO1.out j hj),fun j=>by rw [World.frozen?_setCell];exact hfz j,S++[⟨some ⟨wr.heap.size,0,none⟩,t.length,vs⟩],?_,?_⟩
    ·rw [HT.out]
     have e9:(w1.setCell ⟨w.heap.size,k,none⟩ (.slice (some ⟨wr.heap.size,0,none⟩) t.length t.length)).heap.size=w1.heap.size:=by simp
     rw [e9]
     have hm1:=(HRO.out.keep (Keep.of_below HB1.out (Nat.le_refl _))).mono (Nat.le_refl _) hs1
     refine MO.push (w:=w1) ⟨some ⟨wr.heap.size,0,none⟩,t.length,vs⟩ t hm1 ⟨Nat.le_refl _,by omega⟩ (fun i hi'=>setC_off (by rw [tl] at hi';omega)) (fun i r' l' e1 e2=>?_) ?_ hr1 ?_
     ·have hh:=hm1.r i r' l' e1 e2
      exact hh.far (fun a ha=>HNE.out a (mem_mAs.2 ⟨r',List.mem_of_getElem? e1,ha⟩)) (fun b hb=>Below.heap_setCell _ _ _ b hb)
     ·rw [tl,Nat.zero_add,at0]
      rw [← n1]
     ·intro a ha ha'
      have h1:=(HRO.out.blk ha).2
      have h2:=(HO1.out.blk ha').1
      omega
    ·intro a ha
     rw [mAs_app] at ha
     rcases List.mem_append.1 ha with ha | ha
     ·exact HNE.out a ha
     ·have h2:=(HO1.out.blk ha).1
      omega
   case measure=>simp [intOf];omega
  ·go_wp2
   go_ret
   have:k=m.length:=by omega
   subst this
   have h1:=HRO.out
   rw [List.take_length] at h1
   exact ⟨S,rfl,h1,HB.out,hsz⟩
set_option maxHeartbeats 1000000 in
theorem toMemory_own (s : Option Addr) (c lo hi : Nat) (m : List (List WD)) (w : World) (h : MemR w lo hi s m) (hB : hi ≤ w.heap.size) (hl : MFits m) :
  Calls Tryz.prog 28 #[.agg #[.slice s m.length c]] w fun e w'=>∃ G S,e=.returned (.agg #[.slice (some ⟨G,0,none⟩) m.length m.length])∧MO w' w.heap.size w'.heap.size (some ⟨G,0,none⟩) S m∧Below w.heap.size w w'∧w.heap.size < w'.heap.size:=by
 have HR:Hid (MemR w lo hi s m):=h
 clear h
 go_enter Tryz.func28,Tryz.ntmps28
 go_wp2_with fail
 have k0:Below w.heap.size w (((w.alloc (.cells #[.slice s m.length c] 26)).alloc (.cells #[.slice none 0 0] 35)).alloc (.cells #[.slice none 0 0] 35)):=(((Below.refl w.heap.size w).alloc (Nat.le_refl _) _).alloc (by simp) _).alloc (by simp;omega) _
 refine (toWriteSS_own s c lo hi m _ (HR.out.keep (Keep.of_below k0 hB)) (by simp;omega) hl).mono ?_
 rintro e w1 ⟨S,rfl,ho1,hb1,hz1⟩
 have z3:w.heap.size+3 < w1.heap.size:=by simp at hz1;omega
 have z1:w.heap.size+1 < w1.heap.size:=by omega
 have z2:w.heap.size+1+1 < w1.heap.size:=by omega
 have d0:w1.cell? ⟨w.heap.size+1,0,none⟩=some (.slice none 0 0):=by rw [hb1.cell (by simp)];simp [go_sem]
 have e0:w1.cell? ⟨w.heap.size+1+1,0,none⟩=some (.slice none 0 0):=by rw [hb1.cell (by simp)];simp [go_sem]
 have y0:∀ j,w1.frozen? ⟨w.heap.size+1,j,none⟩=false:=fun j=>by rw [hb1.frozen (by simp)];simp [go_sem]
 have y1:∀ j,w1.frozen? ⟨w.heap.size+1+1,j,none⟩=false:=fun j=>by rw [hb1.frozen (by simp)];simp [go_sem]
 have k1:Below w.heap.size w w1:=k0.trans (hb1.mono (by simp;omega))
 obtain ⟨G,hG,hGb⟩:∃ G,G=w.heap.size+1+1+1∧w.heap.size+3≤G:=⟨_,rfl,Nat.le_refl _⟩
 have HI:Hid (MO w1 G w1.heap.size (some ⟨G,0,none⟩) S m):=by
  have h:=ho1
  simp at h
  rw [hG]
  exact h
 have e3:(((w.alloc (.cells #[.slice s m.length c] 26)).alloc (.cells #[.slice none 0 0] 35)).alloc (.cells #[.slice none 0 0] 35)).heap.size=G:=by simp [hG]
 first | rw [e3] | (simp only [World.size_alloc];rw [← hG]) | skip
 clear hb1 ho1 hz1 hG e3 k0
 go_wp2
 refine bodyPost_ret (v:=.agg #[.slice (some ⟨G,0,none⟩) m.length m.length]) (by simp [results,Tryz.results28,go_sem,d0]) rfl ⟨G,S,rfl,?_,?_,by simp;omega⟩
 ·refine (MO.mono (lo:=G) (hi:=w1.heap.size) ?_ (by omega) (by simp))
  exact HI.out.keep (fun k h1 h2=>by rw [Below.heap_setCell _ _ _ k (by simp;omega),Below.heap_setCell _ _ _ k (by simp;omega)])
 ·exact (k1.setCell (p:=⟨w.heap.size+1+1,0,none⟩) (by simp;omega) _).setCell (p:=⟨w.heap.size+1,0,none⟩) (by simp) _
end
section
set_option linter.unusedSimpArgs false
set_option linter.unusedVariables false
set_option maxRecDepth 100000
open Go.RowKit
structure ND where
 who:Int
 v:Int
def NtR (w:World) (g off:Nat) (n:ND):Prop:=w.cell? ⟨g,off,none⟩=some (.int .i64 n.who)∧w.cell? ⟨g,off+1,none⟩=some (.int .i64 n.v)
def NtsR (w:World) (lo hi:Nat) (s:Option Addr) (l:List ND):Prop:=
 l=[]∨∃ g off,s=some ⟨g,off,none⟩∧lo≤g∧g < hi∧∀ (i:Nat) (n:ND),l[i]? =some n→NtR w g (off+i * 2) n
theorem NtsR.keep {w w':World} {lo hi:Nat} {s:Option Addr} {l:List ND} (h:NtsR w lo hi s l) (hb:Keep lo hi w w'):NtsR w' lo hi s l:=by
 rcases h with h | ⟨g,o,hs,h1,h2,hc⟩
 ·exact .inl h
 ·exact .inr ⟨g,o,hs,h1,h2,fun i r hi=>⟨(hb.cell h1 h2).trans (hc i r hi).1,(hb.cell h1 h2).trans (hc i r hi).2⟩⟩
def flatN:List ND→List Value
 | []=>[]
 | x::t=>[.int .i64 x.who,.int .i64 x.v]++flatN t
theorem flatN_len:∀ L:List ND,(flatN L).length=L.length * 2
 | []=>rfl
 | x::t=>by simp [flatN,flatN_len t];omega
theorem flatN_app:∀ (a b:List ND),flatN (a++b)=flatN a++flatN b
 | [],b=>rfl
 | x::r,b=>by simp [flatN,flatN_app r b]
theorem flatN_at:∀ (L:List ND) (i:Nat) (x:ND),L[i]? =some x→(flatN L)[i * 2]? =some (.int .i64 x.who)∧(flatN L)[i * 2+1]? =some (.int .i64 x.v)
 | [],i,x,h=>by simp at h
 | y::r,0,x,h=>by
  simp at h
  subst h
  exact ⟨rfl,rfl⟩
 | y::r,i+1,x,h=>by
  have h':r[i]? =some x:=by simpa using h
  have e:=flatN_at r i x h'
  have e0:(i+1) * 2=i * 2+2:=by omega
  rw [e0]
  exact e
def OwnD (w:World) (base:Nat) (v:Value) (l:List ND):Prop:=w.ownsRow base 105 2 v l.length (flatN l)
theorem flatN_put (A B:List ND) (x y:ND):((flatN (A++x::B)).set (A.length * 2) (.int .i64 y.who)).set (A.length * 2+1) (.int .i64 y.v)=flatN (A++y::B):=by
 have hl:A.length * 2=(flatN A).length:=(flatN_len A).symm
 rw [flatN_app,flatN_app,hl]
 have e0:=setApp (flatN (x::B)) 0 (Value.int .i64 y.who) (flatN A)
 rw [Nat.add_zero] at e0
 rw [e0,setApp]
 rfl
theorem flatN_rep (n:Nat):flatN (List.replicate n ⟨0,0⟩)=(madeCells #[.int .i64 0,.int .i64 0] (n * 2)).toList:=by
 apply List.ext_getElem?
 intro j
 by_cases hj:j < n * 2
 ·have h1:(List.replicate n (⟨0,0⟩:ND))[j / 2]? =some ⟨0,0⟩:=by rw [List.getElem?_replicate,if_pos (by omega)]
  obtain ⟨e0,e1⟩:=flatN_at _ _ _ h1
  have hm:(madeCells #[.int .i64 0,.int .i64 0] (n * 2)).toList[j]? =some (.int .i64 0):=by
   simp [madeCells,hj]
   rcases (show j % 2=0∨j % 2=1 by omega) with h | h<;>rw [h]<;>rfl
  rw [hm]
  rcases (show j % 2=0∨j % 2=1 by omega) with h | h
  ·rw [show j=j / 2 * 2 by omega,e0]
  ·rw [show j=j / 2 * 2+1 by omega,e1]
 ·rw [List.getElem?_eq_none (by rw [flatN_len];simp;omega),List.getElem?_eq_none (by rw [Array.length_toList,size_madeCells];omega)]
theorem toNote_any (a b:Int) (w:World):Calls Tryz.prog 67 #[.agg #[.int .i64 a,.int .i64 b]] w fun e w'=>e=.returned (.agg #[.int .i64 a,.int .i64 b])∧Below w.heap.size w w':=by
 go_enter Tryz.func67,Tryz.ntmps67
 go_wp2
 exact bodyPost_ret (v:=.agg #[.int .i64 a,.int .i64 b]) (by simp [results,Tryz.results67,go_sem]) rfl ⟨rfl,(((Below.refl _ _).alloc (Nat.le_refl _) _).alloc (by simp) _).alloc (by simp;omega) _⟩
theorem mkN (n:Nat) (hn:n≤1048576) (w:World):(Instr.makeSlice 36 (.int .i64 (n:Int)) (.int .i64 (n:Int))).run Tryz.prog w=.ok (.slice (some ⟨w.heap.size,0,none⟩) n n) (w.alloc (.cells (madeCells #[.int .i64 0,.int .i64 0] (n * 2)) 105)):=by
 have h:=run_make (P:=Tryz.prog) w 36 105 _ (.agg #[.int .i64 0,.int .i64 0]) Tryz.underlying36 rfl rfl .i64 .i64 n n (by omega) (Int.le_refl _) (by show (16:Int) * _≤_;omega) (by omega)
 have e:(Value.agg #[.int .i64 0,.int .i64 0]).cells=#[.int .i64 0,.int .i64 0]:=rfl
 have e':∀ t,Tryz.prog.info? 105=some t→t.size=2:=by intro t h;cases h;rfl
 rw [e,e' _ rfl] at h
 simpa using h
set_option maxHeartbeats 1000000 in
theorem toNoteS_own (s : Option Addr) (c lo hi : Nat) (l : List ND) (w : World) (h : NtsR w lo hi s l) (hB : hi ≤ w.heap.size) (hl : l.length ≤ 1048576) :
  Calls Tryz.prog 29 #[.slice s l.length c] w fun e w'=>e=.returned (.slice (some ⟨w.heap.size,0,none⟩) l.length l.length)∧OwnD w' w.heap.size (.slice (some ⟨w.heap.size,0,none⟩) l.length l.length) l∧Below w.heap.size w w'∧w.heap.size < w'.heap.size:=by
 have hmk:=mkN l.length hl
 have HC:Hid (NtsR w lo hi s l):=h
 clear h
 go_enter Tryz.func29,Tryz.ntmps29
 go_wp2
 clear hmk
 go_loopw [4] (fun i wr=>∃ k:Nat,k≤l.length∧i=.int .i64 k∧Below w.heap.size w wr∧w.heap.size < wr.heap.size∧wr.ownsRow w.heap.size 105 2 (.slice (some ⟨w.heap.size,0,none⟩) l.length l.length) l.length (flatN (l.take k++List.replicate (l.length - k) ⟨0,0⟩))) (fun i _=>l.length - (intOf i).toNat)
 case atStart=>
  refine ⟨0,Nat.zero_le _,rfl,(Below.refl _ _).alloc (Nat.le_refl _) _,by simp,?_⟩
  have h0:=World.ownsRow_lit (base:=w.heap.size) (e:=105) (size:=2) w (madeCells #[.int .i64 0,.int .i64 0] (l.length * 2)) l.length (Nat.le_refl _) (by unfold maxLen;omega) (size_madeCells _ _)
  rw [← flatN_rep] at h0
  simpa using h0
 case round=>
  obtain ⟨k,hk,rfl,hb,hsz,ho⟩:=hrel
  have HB:Hid (Below w.heap.size w wr):=hb
  have HO:=(show Hid _ from ho)
  clear hb ho
  by_cases hlt:k < l.length
  ·obtain ⟨t,ht⟩:∃ t,l[k]? =some t:=⟨_,List.getElem?_eq_getElem hlt⟩
   obtain ⟨g,off,hs,hg,hc⟩:∃ g off,s=some ⟨g,off,none⟩∧g < w.heap.size∧NtR w g (off+k * 2) t:=by
    rcases HC.out with h | ⟨g,off,a,b,d,e⟩
    ·rw [h] at hlt;simp at hlt
    ·exact ⟨g,off,a,by omega,e k t ht⟩
   subst hs
   have f0:=(HB.out.cell (p:=⟨g,off+k * 2,none⟩) hg).trans hc.1
   have f1:=(HB.out.cell (p:=⟨g,off+k * 2+1,none⟩) hg).trans hc.2
   have HT:Hid (l[k]? =some t):=ht
   clear ht hc
   obtain ⟨ta,tb⟩:=t
   simp only at f0 f1
   have b0:(0:Int)≤(k:Int):=by omega
   have b1:(k:Int) < (l.length:Int):=by omega
   go_wp2_with fail
   refine (toNote_any ta tb _).mono ?_
   rintro e w1 ⟨rfl,hb1⟩
   have HB1:Hid (Below wr.heap.size wr w1):=hb1
   have hlr:(l.take k++List.replicate (l.length - k) (⟨0,0⟩:ND)).length=l.length:=by simp;omega
   have HO1:Hid (w1.ownsRow w.heap.size 105 2 (.slice (some ⟨w.heap.size,0,none⟩) l.length l.length) l.length (flatN (l.take k++List.replicate (l.length - k) ⟨0,0⟩))):=ownKeep' HO.out (fun k hk=>hb1.block k (World.ownsRow.lt HO.out _ hk).2)
   clear hb1 f0 f1
   have cc:∀ j,j < 2→∃ u,w1.cell? ⟨w.heap.size,k * 2+j,none⟩=some u:=fun j hj=>by
    rw [World.ownsRow.cellAt HO1.out (k * 2+j) (by omega)]
    exact ⟨_,List.getElem?_eq_getElem (by rw [flatN_len,hlr];omega)⟩
   have hfz:∀ j,w1.frozen? ⟨w.heap.size,j,none⟩=false:=fun j=>World.ownsRow.frozenAt HO1.out j
   obtain ⟨u0,g0⟩:=cc 0 (by omega)
   obtain ⟨u1,g1⟩:=cc 1 (by omega)
   rw [Nat.add_zero] at g0
   clear cc hlr
   go_wp2
   go_roundw
   case rel=>
    have hs1:=HB1.out.size
    show ∃ k':Nat,_∧_∧Below w.heap.size w (set2 w1 w.heap.size (k * 2) (.int .i64 ta) (.int .i64 tb))∧_ < (set2 w1 w.heap.size (k * 2) (.int .i64 ta) (.int .i64 tb)).heap.size∧World.ownsRow (set2 w1 w.heap.size (k * 2) (.int .i64 ta) (.int .i64 tb)) _ _ _ _ _ _
    refine ⟨k+1,by omega,by go_num,set2_below (HB.out.trans (HB1.out.mono (by omega))) (Nat.le_refl _),by rw [set2_size];omega,?_⟩
    have p:=(World.ownsRow.stored (World.ownsRow.stored HO1.out (k * 2) (.int .i64 ta)).1 (k * 2+1) (.int .i64 tb)).1
    have e3:l.length - k=(l.length - (k+1))+1:=by omega
    have e4:l.take (k+1)=l.take k++[⟨ta,tb⟩]:=by rw [List.take_add_one,HT.out];rfl
    have e5:(l.take k).length=k:=by rw [List.length_take];omega
    have fp:=flatN_put (l.take k) (List.replicate (l.length - (k+1)) ⟨0,0⟩) ⟨0,0⟩ ⟨ta,tb⟩
    rw [e5] at fp
    rw [e3,List.replicate_succ,fp] at p
    rw [e4,List.append_assoc]
    exact p
   case measure=>simp [intOf];omega
  ·go_wp2
   go_ret
   have:k=l.length:=by omega
   subst this
   have h1:=HO.out
   simp only [List.take_length,Nat.sub_self,List.replicate_zero,List.append_nil] at h1
   exact ⟨rfl,h1,HB.out,hsz⟩
theorem szNoteS_all (s:Option Addr) (n c:Nat) (q:Int) (w:World) (hn:n≤maxLen) (hq:0≤q) (hq':q≤1048576):Calls Tryz.prog 22 #[.slice s n c,.int .i64 q] w fun e w'=>e=.returned (.int .i64 (if q < n then -1 else q - (n:Int)))∧w'=w:=by
 unfold maxLen at hn
 by_cases h:q < n
 ·rw [if_pos h]
  have h1:q - (n:Int) < 0:=by omega
  go_enter Tryz.func22,Tryz.ntmps22
  go_wp2
  go_ret
  exact ⟨rfl,rfl⟩
 ·rw [if_neg h]
  have h1:¬ q - (n:Int) < 0:=by omega
  go_enter Tryz.func22,Tryz.ntmps22
  go_wp2
  go_ret
  exact ⟨rfl,rfl⟩
theorem eqNote_alike (a b:Int) (w:World):Calls Tryz.prog 73 #[.agg #[.int .i64 a,.int .i64 b],.agg #[.int .i64 a,.int .i64 b]] w fun e w'=>e=.returned (.bool true)∧Below w.heap.size w w':=by
 go_enter Tryz.func73,Tryz.ntmps73
 go_wp2
 go_ret
 exact ⟨rfl,((Below.refl _ _).alloc (Nat.le_refl _) _).alloc (by simp) _⟩
set_option maxHeartbeats 2000000 in
theorem eqNoteS_alike (s s' : Option Addr) (c c' lo hi lo' hi' : Nat) (l : List ND) (w : World) (h : NtsR w lo hi s l) (h' : NtsR w lo' hi' s' l) (hB : hi ≤ w.heap.size) (hB' : hi' ≤ w.heap.size) (hl : l.length ≤ 2000000) :
  Calls Tryz.prog 36 #[.slice s l.length c,.slice s' l.length c'] w fun e w'=>e=.returned (.bool true)∧Below w.heap.size w w':=by
 have H1:Hid (NtsR w lo hi s l):=h
 have H2:Hid (NtsR w lo' hi' s' l):=h'
 clear h h'
 have hne:((l.length:Int) !=(l.length:Int))=false:=by simp
 go_enter Tryz.func36,Tryz.ntmps36
 go_wp2
 go_loopw [5] (fun i wr=>∃ k:Nat,k≤l.length∧i=.int .i64 k∧Below w.heap.size w wr) (fun i _=>l.length - (intOf i).toNat)
 case atStart=>exact ⟨0,Nat.zero_le _,rfl,Below.refl _ _⟩
 case round=>
  obtain ⟨k,hk,rfl,hb⟩:=hrel
  have HB:Hid (Below w.heap.size w wr):=hb
  have hsz:=hb.size
  clear hb
  by_cases hlt:k < l.length
  ·obtain ⟨t,ht⟩:∃ t,l[k]? =some t:=⟨_,List.getElem?_eq_getElem hlt⟩
   obtain ⟨g,off,hs,hg,f0,f1⟩:∃ g off,s=some ⟨g,off,none⟩∧g < w.heap.size∧NtR wr g (off+k * 2) t:=by
    rcases H1.out with h | ⟨g,off,a,b,d,e⟩
    ·rw [h] at hlt;simp at hlt
    ·exact ⟨g,off,a,by omega,(HB.out.cell (p:=⟨g,_,none⟩) (by show g < _;omega)).trans (e k t ht).1,(HB.out.cell (p:=⟨g,_,none⟩) (by show g < _;omega)).trans (e k t ht).2⟩
   obtain ⟨g',off',hs',hg',f0',f1'⟩:∃ g off,s'=some ⟨g,off,none⟩∧g < w.heap.size∧NtR wr g (off+k * 2) t:=by
    rcases H2.out with h | ⟨g,off,a,b,d,e⟩
    ·rw [h] at hlt;simp at hlt
    ·exact ⟨g,off,a,by omega,(HB.out.cell (p:=⟨g,_,none⟩) (by show g < _;omega)).trans (e k t ht).1,(HB.out.cell (p:=⟨g,_,none⟩) (by show g < _;omega)).trans (e k t ht).2⟩
   subst hs
   subst hs'
   obtain ⟨ta,tb⟩:=t
   simp only at f0 f1 f0' f1'
   clear ht
   have b0:(0:Int)≤(k:Int):=by omega
   have b1:(k:Int) < (l.length:Int):=by omega
   go_wp2_with fail
   first | go_region_with (go_at_call 73;refine (eqNote_alike ta tb _).mono ?_;rintro e w1 ⟨rfl,hb1⟩) | fail
   all_goals
    have HB1:Hid (Below wr.heap.size wr w1):=⟨hb1.os,hb1.tape,hb1.output,hb1.size,hb1.block⟩
    clear hb1
    go_wp2
    go_roundw
    case rel=>exact ⟨k+1,by omega,by go_num,HB.out.trans (HB1.out.mono hsz)⟩
    case measure=>simp [intOf];omega
  ·go_wp2
   go_ret
   exact ⟨rfl,HB.out⟩
end
section
set_option linter.unusedSimpArgs false
set_option linter.unusedVariables false
set_option maxRecDepth 100000
open Go.ChangeShapes Go.WideShapes Go.ChangeAt Go.RowKit
theorem cellsInt:Tryz.prog.cellsOf 3=1:=by kernel_rfl
theorem cellsStep:Tryz.prog.cellsOf 150=5:=by kernel_rfl
theorem list5 {α:Type} {cs:List α} (h:cs.length=5):∃ c0 c1 c2 c3 c4,cs=[c0,c1,c2,c3,c4]:=by
 match cs,h with
 | [c0,c1,c2,c3,c4],_=>exact ⟨c0,c1,c2,c3,c4,rfl⟩
theorem step_cells {H : Type} {enc : TypeId × Value → H} {w : World} {base : Nat} {spare : TypeId → Bool} {held : Bool} {fuel : Nat} {cs : List Value} {x : DataW H × List MemPlace}
  (h:DataW.trod enc Tryz.prog w base spare held fuel 150 cs=some x):
  ∃ o r a b n:Int,cs=[.int .i64 o,.int .i64 r,.int .i64 a,.int .i64 b,.int .i64 n]∧(Lit.int .i64 o).wf=true∧(Lit.int .i64 r).wf=true∧(Lit.int .i64 a).wf=true∧(Lit.int .i64 b).wf=true∧(Lit.int .i64 n).wf=true:=by
 obtain ⟨xs,n,_,rfl,hl,hlen,hf⟩:=DataW.trod_struct Tryz.underlying150 h
 rw [cellsStep] at hl
 obtain ⟨c0,c1,c2,c3,c4,rfl⟩:=list5 hl
 obtain ⟨y0,y1,y2,y3,y4,rfl⟩:=list5 (hlen.trans rfl)
 have g0:=hf 0 _ rfl
 have g1:=hf 1 _ rfl
 have g2:=hf 2 _ rfl
 have g3:=hf 3 _ rfl
 have g4:=hf 4 _ rfl
 simp [cellsInt] at g0 g1 g2 g3 g4
 obtain ⟨o,e0,-,w0⟩:=DataW.trod_int Tryz.underlying3 g0
 obtain ⟨r,e1,-,w1⟩:=DataW.trod_int Tryz.underlying3 g1
 obtain ⟨a,e2,-,w2⟩:=DataW.trod_int Tryz.underlying3 g2
 obtain ⟨b,e3,-,w3⟩:=DataW.trod_int Tryz.underlying3 g3
 obtain ⟨c,e4,-,w4⟩:=DataW.trod_int Tryz.underlying3 g4
 simp at e0 e1 e2 e3 e4
 subst e0 e1 e2 e3 e4
 exact ⟨o,r,a,b,c,rfl,w0,w1,w2,w3,w4⟩
end
section
set_option linter.unusedSimpArgs false
set_option linter.unusedVariables false
set_option maxRecDepth 100000
open Go.ChangeShapes Go.WideShapes Go.ChangeAt Go.RowKit Go.Deep
theorem cell_lt {w:World} {a:Addr} {v:Value} (h:w.cell? a=some v):a.block < w.heap.size:=by
 apply Classical.byContradiction
 intro hn
 have:w.heap[a.block]? =none:=by simp;omega
 simp [World.cell?,this] at h
theorem add_plain (g off n:Nat):(Addr.add ⟨g,off,none⟩ n)=⟨g,off+n,none⟩:=by
 by_cases h:n=0
 ·subst h;rfl
 ·simp [Addr.add,h]
theorem stepS_spot {H : Type} {enc : TypeId × Value → H} {w : World} {base : Nat} {spare : TypeId → Bool} {held : Bool} {n : Nat} {a : Addr} {cs : List Value} {x : DataW H × List MemPlace}
  (hc:w.cells? base (a.add (0 * 5)) 5=some cs) (h:DataW.trod enc Tryz.prog w base spare held n 150 cs=some x):
  a.spot=none∧a.block < w.heap.size:=by
 obtain ⟨o,r,b,c,d,rfl,-⟩:=step_cells h
 obtain ⟨-,-,hcell⟩:=World.cells?_some hc
 have c0:w.cell? a=some (.int .i64 o):=by simpa [Addr.add] using hcell 0 (by omega)
 exact ⟨World.cell?_spot c0,cell_lt c0⟩
theorem stepS_at {H : Type} {enc : TypeId × Value → H} {w : World} {base : Nat} {spare : TypeId → Bool} {held : Bool} {n g off i : Nat} {cs : List Value} {x : DataW H × List MemPlace}
  (hc:w.cells? base (Addr.add ⟨g,off,none⟩ (i * 5)) 5=some cs) (h:DataW.trod enc Tryz.prog w base spare held n 150 cs=some x):
  ∃ y:I5,At5 w g (off+i * 5) y:=by
 obtain ⟨o,r,b,c,d,rfl,-⟩:=step_cells h
 obtain ⟨-,-,hcell⟩:=World.cells?_some hc
 rw [add_plain] at hcell
 have c0:=hcell 0 (by omega)
 have c1:=hcell 1 (by omega)
 have c2:=hcell 2 (by omega)
 have c3:=hcell 3 (by omega)
 have c4:=hcell 4 (by omega)
 rw [add_plain] at c0 c1 c2 c3 c4
 exact ⟨⟨o,r,b,c,d⟩,c0,c1,c2,c3,c4⟩
end
end Go.Proofs.YtlbeploopclegaaGreat
