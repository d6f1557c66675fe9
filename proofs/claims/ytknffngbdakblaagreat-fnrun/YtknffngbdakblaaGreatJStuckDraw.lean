/- The draw of FnStuck: a program, and a source as they are read, perhaps one that ran on. Conditions: the code's bytes lie in memory. -/
import Derived.Test.YtknffngbdakblaaGreatJG00
import Derived.Test.YtknffngbdakblaaGreatJG12
import Derived.Test.YtknffngbdakblaaGreatJG01
import Derived.Test.YtknffngbdakblaaGreatJG17
import Derived.Test.YtknffngbdakblaaGreatJG19
import Derived.Test.YtknffngbdakblaaGreatJDraw2
import Derived.Test.YtknffngbdakblaaGreatJDrawLT
import Derived.Test.YtknffngbdakblaaGreatJG21
namespace Go.Proofs.YtknffngbdakblaaGreat
set_option linter.unusedSimpArgs false
set_option linter.unusedVariables false
set_option maxRecDepth 100000
open Go.RowKit Go.Deep
/- a source, as it is read -/
def SrZ (V:World) (lo:Nat) (x1 x2 x3:Value):Prop:=∃ (hi:Nat) (s1 s2 s3:Option Addr) (c1 c2 c3:Nat) (D:SD),x1=.slice s1 D.ths.length c1∧x2=.slice s2 D.chs.length c2∧x3=.slice s3 D.tr.length c3∧SrcR V lo hi s1 s2 s3 D∧SFits D∧hi≤V.heap.size
theorem SrQ.toZ {V:World} {lo:Nat} {x1 x2 x3:Value} (h:SrQ V lo x1 x2 x3):SrZ V lo x1 x2 x3:=by
 obtain ⟨hi,s1,s2,s3,c1,c2,c3,D,e1,e2,e3,hr,hf,-,hB⟩:=h
 exact ⟨hi,s1,s2,s3,c1,c2,c3,D,e1,e2,e3,hr,hf,hB⟩
theorem SrZ.keep {V V':World} {lo:Nat} {x1 x2 x3:Value} (h:SrZ V lo x1 x2 x3) (hk:∀ k,lo≤k→k < V.heap.size→V'.heap[k]? =V.heap[k]?) (hs:V.heap.size≤V'.heap.size):SrZ V' lo x1 x2 x3:=by
 obtain ⟨hi,s1,s2,s3,c1,c2,c3,D,e1,e2,e3,hr,hf,hB⟩:=h
 exact ⟨hi,s1,s2,s3,c1,c2,c3,D,e1,e2,e3,hr.keep (fun k a b=>hk k a (by omega)),hf,by omega⟩
theorem SrZ.low {V:World} {lo lo':Nat} {x1 x2 x3:Value} (h:SrZ V lo x1 x2 x3) (hl:lo'≤lo):SrZ V lo' x1 x2 x3:=by
 obtain ⟨hi,s1,s2,s3,c1,c2,c3,D,e1,e2,e3,hr,hf,hB⟩:=h
 exact ⟨hi,s1,s2,s3,c1,c2,c3,D,e1,e2,e3,hr.mono hl (Nat.le_refl _),hf,hB⟩
/- a box of two cells -/
structure BoP (G:Nat) (W:World) (a b:Value):Prop where
 c0:W.cell? ⟨G,0,none⟩=some a
 c1:W.cell? ⟨G,1,none⟩=some b
 f:∀ j,W.frozen? ⟨G,j,none⟩=false
 z:G < W.heap.size
theorem BoP.keep {G:Nat} {W w1:World} {a b:Value} (h:BoP G W a b) (hb:w1.heap[G]? =W.heap[G]?) (hs:W.heap.size≤w1.heap.size):BoP G w1 a b:=
 ⟨(World.cell?_of_block hb).trans h.c0,(World.cell?_of_block hb).trans h.c1,fun j=>(World.frozen?_of_block hb).trans (h.f j),Nat.lt_of_lt_of_le h.z hs⟩
theorem heap5 (w:World) (A B:Nat) (u0 u1 u2 u3 u4:Value) (k:Nat) (h1:k≠A) (h2:k≠B):(((((w.setCell ⟨A,0,none⟩ u0).setCell ⟨A,1,none⟩ u1).setCell ⟨B,0,none⟩ u2).setCell ⟨B,1,none⟩ u3).setCell ⟨B,2,none⟩ u4).heap[k]? =w.heap[k]? :=
 (Below.heap_setCell _ ⟨B,2,none⟩ _ k h2).trans ((Below.heap_setCell _ ⟨B,1,none⟩ _ k h2).trans ((Below.heap_setCell _ ⟨B,0,none⟩ _ k h2).trans ((Below.heap_setCell _ ⟨A,1,none⟩ _ k h1).trans (Below.heap_setCell _ ⟨A,0,none⟩ _ k h1))))
/- ahead of the answer: the drawn ones in their boxes, the boxes of the answer -/
structure Fin7 (w:World) (P S lo hi hi':Nat) (p1 p2:Option Addr) (a1 a2:Nat) (pd:PD) (s1 s2 s3:Option Addr) (c1 c2 c3:Nat) (D:SD) (Z:World):Prop where
 pb:BoP P Z (.slice p1 pd.caps.length a1) (.slice p2 pd.bods.length a2)
 sb:BoF S Z (.slice s1 D.ths.length c1) (.slice s2 D.chs.length c2) (.slice s3 D.tr.length c3)
 rp:BoP w.heap.size Z (.slice none 0 0) (.slice none 0 0)
 rs:BoF (w.heap.size+1) Z (.slice none 0 0) (.slice none 0 0) (.slice none 0 0)
 pg:ProgR Z lo hi p1 p2 pd
 sr:SrcR Z lo hi' s1 s2 s3 D
 h1:hi≤Z.heap.size
 h2:hi'≤Z.heap.size
 lw:w.heap.size+2≤lo
 bl:Below w.heap.size w Z
theorem Fin7.below {w:World} {P S lo hi hi':Nat} {p1 p2:Option Addr} {a1 a2:Nat} {pd:PD} {s1 s2 s3:Option Addr} {c1 c2 c3:Nat} {D:SD} {Z Y:World} (h:Fin7 w P S lo hi hi' p1 p2 a1 a2 pd s1 s2 s3 c1 c2 c3 D Z) (k:Below Z.heap.size Z Y):Fin7 w P S lo hi hi' p1 p2 a1 a2 pd s1 s2 s3 c1 c2 c3 D Y:=
 ⟨h.pb.keep (k.block _ h.pb.z) k.size,h.sb.below k h.sb.z,h.rp.keep (k.block _ h.rp.z) k.size,h.rs.below k h.rs.z,ProgR.keep' h.pg (Keep.of_below k h.h1),h.sr.keep (Keep.of_below k h.h2),Nat.le_trans h.h1 k.size,Nat.le_trans h.h2 k.size,h.lw,h.bl.trans (k.mono h.bl.size)⟩
theorem Fin7.but {w:World} {P S lo hi hi' cu:Nat} {p1 p2:Option Addr} {a1 a2:Nat} {pd:PD} {s1 s2 s3:Option Addr} {c1 c2 c3:Nat} {D:SD} {Z Y:World} (h:Fin7 w P S lo hi hi' p1 p2 a1 a2 pd s1 s2 s3 c1 c2 c3 D Z) (k:But cu Z Y) (hc:cu=w.heap.size+2) (hl:cu < lo) (hP:P≠cu) (hS:S≠cu):Fin7 w P S lo hi hi' p1 p2 a1 a2 pd s1 s2 s3 c1 c2 c3 D Y:=by
 have hz:=h.rs.z
 have hs:=h.bl.size
 have h1:=h.h1
 have h2:=h.h2
 have hk:∀ b,lo≤b→b < Z.heap.size→Y.heap[b]? =Z.heap[b]? :=fun b a hb=>k.block b hb (by omega)
 exact ⟨h.pb.keep (k.block _ h.pb.z hP) k.size,h.sb.keep (k.block _ h.sb.z hS) k.size,h.rp.keep (k.block _ h.rp.z (by omega)) k.size,h.rs.keep (k.block _ hz (by omega)) k.size,ProgR.keep' h.pg (fun b a hb=>hk b a (by omega)),h.sr.keep (fun b a hb=>hk b a (by omega)),Nat.le_trans h.h1 k.size,Nat.le_trans h.h2 k.size,h.lw,h.bl.trans (k.below (by omega) (by omega))⟩
end Go.Proofs.YtknffngbdakblaaGreat
