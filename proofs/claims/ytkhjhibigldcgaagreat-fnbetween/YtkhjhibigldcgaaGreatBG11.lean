/- Rows of code and of cores that a call has made: owned whole, so that more may be put behind them. No condition. Append of steps onto an empty row, and of a row of steps onto rows of them. Conditions: fewer than 2^30 of them. Append of a core onto a row of them. Conditions: fewer than 2^30 of them. Rows of code copied by the program and by the specification. Conditions: they are counted. Machines that run: all their rows owned whole; append of notes. Conditions: fewer than 2^30 of them. Cores copied by the program and by the specification. Conditions: their rows of at most 1048576. A machine copied by the program. Conditions: it is counted. Stores into a machine that runs: a core's place, its state, a register, its view. No condition. A machine that runs may be marked: its places are apart; what its memory reads is apart from its cores. No condition. A machine that runs, opened at the core that goes on; the boxes of a step. No condition. What steps of both sides end with. No condition. A region that draws its order, whose first operations only read and whose others come one behind the other: one walk of the first ones, in the order of the text, and then the others. No condition. -/
import Derived.Test.YtkhjhibigldcgaaGreatBG00
import Derived.Test.YtkhjhibigldcgaaGreatBG01
import Derived.Test.YtkhjhibigldcgaaGreatBG04
import Derived.Test.YtkhjhibigldcgaaGreatBG07
import Derived.Test.YtkhjhibigldcgaaGreatBG10
import Derived.Test.YtkhjhibigldcgaaGreatBG06
import Derived.Test.YtkhjhibigldcgaaGreatBG05
import Derived.Test.YtkhjhibigldcgaaGreatBG08
import Derived.Deep.RegionHeld3
import Derived.Deep.DeepCutAuto
namespace Go.Proofs.YtkhjhibigldcgaaGreat
section
set_option linter.unusedSimpArgs false
set_option linter.unusedVariables false
set_option maxRecDepth 100000
open Go.RowKit
structure KV where
 d:KD
 r:Value
 v:Value
structure CV where
 l:List I5
 v:Value
def flatK:List KV→List Value
 | []=>[]
 | x::t=>[.int .i64 x.d.pc,x.r,x.v,.int .i64 x.d.st]++flatK t
theorem flatK_app:∀ (a b:List KV),flatK (a++b)=flatK a++flatK b
 | [],b=>rfl
 | x::r,b=>by simp [flatK,flatK_app r b]
theorem flatK_at:∀ (L:List KV) (i:Nat) (x:KV),L[i]? =some x→(flatK L)[i * 4]? =some (.int .i64 x.d.pc)∧(flatK L)[i * 4+1]? =some x.r∧(flatK L)[i * 4+2]? =some x.v∧(flatK L)[i * 4+3]? =some (.int .i64 x.d.st)
 | [],i,x,h=>by simp at h
 | y::r,0,x,h=>by
  simp at h
  subst h
  exact ⟨rfl,rfl,rfl,rfl⟩
 | y::r,i+1,x,h=>by
  have h':r[i]? =some x:=by simpa using h
  have e:=flatK_at r i x h'
  have e0:(i+1) * 4=i * 4+4:=by omega
  rw [e0]
  exact e
structure OwnKx117 (w:World) (base:Nat) (v:Value) (L:List KV):Prop where
 row:w.ownsRow base 42 4 v L.length (flatK L)
 inn:∀ (i:Nat) (x:KV),L[i]? =some x→OwnN w base x.r x.d.regs∧OwnN w base x.v x.d.vw
 two:∀ (i:Nat) (x:KV) (k:Nat),L[i]? =some x→x.r.ownBlock=some k→x.v.ownBlock≠some k
 sep:∀ (i j:Nat) (x y:KV) (k:Nat),L[i]? =some x→L[j]? =some y→i≠j→(x.r.ownBlock=some k∨x.v.ownBlock=some k)→¬ (y.r.ownBlock=some k∨y.v.ownBlock=some k)
structure OwnC (w:World) (base:Nat) (v:Value) (L:List CV):Prop where
 row:w.ownsRow base 66 1 v L.length (L.map CV.v)
 inn:∀ (i:Nat) (x:CV),L[i]? =some x→OwnT5 w base x.v x.l
 sep:∀ (i j:Nat) (x y:CV) (k:Nat),L[i]? =some x→L[j]? =some y→i≠j→x.v.ownBlock=some k→y.v.ownBlock≠some k
theorem OwnKx117.keep {w w':World} {base:Nat} {v:Value} {L:List KV} (h:OwnKx117 w base v L) (hb:∀ k,base≤k→k < w.heap.size→w'.heap[k]? =w.heap[k]?):OwnKx117 w' base v L:=
 ⟨ownKeep' h.row (fun k hk=>hb k (World.ownsRow.lt h.row _ hk).1 (World.ownsRow.lt h.row _ hk).2),fun i x hx=>⟨ownKeep' (h.inn i x hx).1 (fun k hk=>hb k (World.ownsRow.lt (h.inn i x hx).1 _ hk).1 (World.ownsRow.lt (h.inn i x hx).1 _ hk).2),ownKeep' (h.inn i x hx).2 (fun k hk=>hb k (World.ownsRow.lt (h.inn i x hx).2 _ hk).1 (World.ownsRow.lt (h.inn i x hx).2 _ hk).2)⟩,h.two,h.sep⟩
theorem OwnKx117.below {w w':World} {base:Nat} {v:Value} {L:List KV} (h:OwnKx117 w base v L) (hb:Below w.heap.size w w'):OwnKx117 w' base v L:=h.keep fun k _ hk=>hb.block k hk
theorem OwnKx117.nil (w:World) (base:Nat):OwnKx117 w base (.slice none 0 0) []:=⟨World.ownsRow_nil _ _ _ _,fun i x hx=>by simp at hx,fun i x k hx=>by simp at hx,fun i j x y k hx=>by simp at hx⟩
theorem OwnC.keep {w w':World} {base:Nat} {v:Value} {L:List CV} (h:OwnC w base v L) (hb:∀ k,base≤k→k < w.heap.size→w'.heap[k]? =w.heap[k]?):OwnC w' base v L:=
 ⟨ownKeep' h.row (fun k hk=>hb k (World.ownsRow.lt h.row _ hk).1 (World.ownsRow.lt h.row _ hk).2),fun i x hx=>ownKeep' (h.inn i x hx) (fun k hk=>hb k (World.ownsRow.lt (h.inn i x hx) _ hk).1 (World.ownsRow.lt (h.inn i x hx) _ hk).2),h.sep⟩
theorem OwnC.below {w w':World} {base:Nat} {v:Value} {L:List CV} (h:OwnC w base v L) (hb:Below w.heap.size w w'):OwnC w' base v L:=h.keep fun k _ hk=>hb.block k hk
theorem VO.nodup {w:World} {lo hi:Nat} {x:VS} {l:List Int} (h:VO w lo hi x l):(vAs x).Nodup:=by
 rcases h.c with e | ⟨g,o,hs,-⟩
 ·have:=h.n
  rw [e] at this
  simp at this
  simp [vAs,this]
 ·exact vAs_nodup hs
theorem push_get {α:Type} {L:List α} {y z:α} {i:Nat} (h:(L++[y])[i]? =some z):L[i]? =some z∨(i=L.length∧z=y):=by
 rcases getElem?_push h with h | ⟨h,e⟩
 ·exact .inl h
 ·exact .inr ⟨h,e⟩
/- one more behind a row -/
theorem OwnC.push {w w' : World} {base g cap : Nat} {v : Value} {L : List CV} {y : CV} (h : OwnC w base v L) (hy : OwnT5 w base y.v y.l)
  (hs:∀ (i:Nat) (z:CV) (k:Nat),L[i]? =some z→y.v.ownBlock=some k→z.v.ownBlock≠some k)
  (q1:w'.ownsRow base 66 1 (.slice (some ⟨g,0,none⟩) (L.length+1) cap) (L.length+1) (L.map CV.v++[y.v])) (hk:∀ k,k < w.heap.size→v.ownBlock≠some k→w'.heap[k]? =w.heap[k]?):
  OwnC w' base (.slice (some ⟨g,0,none⟩) (L.length+1) cap) (L++[y]):=by
 have kp:∀ (x:CV),OwnT5 w base x.v x.l→OwnT5 w' base x.v x.l:=fun x hx=>ownKeep' hx (fun k hk'=>hk k (World.ownsRow.lt hx _ hk').2 (ownType' hx h.row (by decide) hk'))
 refine ⟨by rw [List.map_append,List.length_append];exact q1,fun i x hx=>?_,fun i j x z k hx hz hne=>?_⟩
 ·rcases push_get hx with hx | ⟨-,rfl⟩
  ·exact kp _ (h.inn i x hx)
  ·exact kp _ hy
 ·rcases push_get hx with hx1 | ⟨e1,ex⟩<;>rcases push_get hz with hz1 | ⟨e2,ez⟩
  ·exact h.sep i j x z k hx1 hz1 hne
  ·rw [ez]
   intro a b
   exact hs i x k hx1 b a
  ·rw [ex]
   exact hs j z k hz1
  ·omega
theorem OwnKx117.push {w w' : World} {base g cap : Nat} {v : Value} {L : List KV} {y : KV} (h : OwnKx117 w base v L) (hy : OwnN w base y.r y.d.regs ∧ OwnN w base y.v y.d.vw) (ht : ∀ k, y.r.ownBlock = some k → y.v.ownBlock ≠ some k)
  (hs:∀ (i:Nat) (z:KV) (k:Nat),L[i]? =some z→(y.r.ownBlock=some k∨y.v.ownBlock=some k)→¬ (z.r.ownBlock=some k∨z.v.ownBlock=some k))
  (q1:w'.ownsRow base 42 4 (.slice (some ⟨g,0,none⟩) (L.length+1) cap) (L.length+1) (flatK L++[.int .i64 y.d.pc,y.r,y.v,.int .i64 y.d.st])) (hk:∀ k,k < w.heap.size→v.ownBlock≠some k→w'.heap[k]? =w.heap[k]?):
  OwnKx117 w' base (.slice (some ⟨g,0,none⟩) (L.length+1) cap) (L++[y]):=by
 have kp:∀ (u:Value) (l:List Int),OwnN w base u l→OwnN w' base u l:=fun u l hx=>ownKeep' hx (fun k hk'=>hk k (World.ownsRow.lt hx _ hk').2 (ownType' hx h.row (by decide) hk'))
 refine ⟨by rw [flatK_app,List.length_append];exact q1,fun i x hx=>?_,fun i x k hx=>?_,fun i j x z k hx hz hne=>?_⟩
 ·rcases push_get hx with hx | ⟨-,rfl⟩
  ·exact ⟨kp _ _ (h.inn i x hx).1,kp _ _ (h.inn i x hx).2⟩
  ·exact ⟨kp _ _ hy.1,kp _ _ hy.2⟩
 ·rcases push_get hx with hx | ⟨-,rfl⟩
  ·exact h.two i x k hx
  ·exact ht k
 ·rcases push_get hx with hx1 | ⟨e1,ex⟩<;>rcases push_get hz with hz1 | ⟨e2,ez⟩
  ·exact h.sep i j x z k hx1 hz1 hne
  ·rw [ez]
   intro a b
   exact hs i x k hx1 b a
  ·rw [ex]
   exact hs j z k hz1
  ·omega
/- rows that are owned, as rows of records -/
theorem vAs_blk {s:Option Addr} {n c e:Nat} {a:Addr} (ha:a∈vAs ((⟨s,n,c⟩:VS).wide e)) (hs:Somewhere s):(Value.slice s n c).ownBlock=some a.block:=by
 obtain ⟨i,-,rfl⟩:=mem_vAs.1 ha
 obtain ⟨g,o,rfl⟩:=hs
 rfl
theorem VO.own {w:World} {lo hi:Nat} {s:Option Addr} {n c e:Nat} {l:List Int} (h:VO w lo hi ((⟨s,n,c⟩:VS).wide e) l) {a:Addr} (ha:a∈vAs ((⟨s,n,c⟩:VS).wide e)):(Value.slice s n c).ownBlock=some a.block:=by
 rcases h.c with e | ⟨g,o,hs,-⟩
 ·have:=h.n
  rw [e] at this
  obtain ⟨i,hi',-⟩:=mem_vAs.1 ha
  rw [this] at hi'
  simp at hi'
 ·exact vAs_blk ha ⟨g,o,hs⟩
theorem OwnC.go {w:World} {base:Nat} {v:Value} {L:List CV} (h:OwnC w base v L):∃ s c R,v=.slice s L.length c∧GO w base w.heap.size s TC R (L.map fun x=>codeV x.l):=by
 rcases Nat.eq_zero_or_pos L.length with h0 | hpos
 ·obtain ⟨s,c,e⟩:=ownSl h.row
  rw [List.length_eq_zero_iff.1 h0]
  rw [h0] at e
  exact ⟨s,c,[],e,GO.nil _ _ _ _ _⟩
 obtain ⟨g,cap,e,-⟩:=World.ownsRow.form h.row hpos
 have hlt:=World.ownsRow.lt h.row g (by rw [e];rfl)
 have hrow:=h.row
 rw [e] at hrow
 have step:∀ k,k≤L.length→∃ R,GO w base w.heap.size (some ⟨g,0,none⟩) TC R ((L.take k).map fun x=>codeV x.l)∧∀ a∈gAs (some ⟨g,0,none⟩) TC.length R 0,∃ (i:Nat) (x:CV),i < k∧L[i]? =some x∧x.v.ownBlock=some a.block:=by
  intro k
  induction k with
  | zero=>intro _;exact ⟨[],GO.nil _ _ _ _ _,fun a ha=>by simp [gAs] at ha⟩
  | succ k ih=>
   intro hk
   obtain ⟨R,hR,hA⟩:=ih (by omega)
   obtain ⟨x,hx⟩:∃ x,L[k]? =some x:=⟨_,List.getElem?_eq_getElem (by omega)⟩
   obtain ⟨s,c,ev,vo⟩:=own_vo (h.inn k x hx) (fl5_len x.l)
   have tl:((L.take k).map fun x=>codeV x.l).length=k:=by simp;omega
   have ow:∀ a∈vAs ((⟨s,x.l.length,c⟩:VS).wide 5),x.v.ownBlock=some a.block:=fun a ha=>by rw [ev];exact vo.own ha
   refine ⟨R++[[.r ⟨s,x.l.length,c⟩ 5]],?_,fun a ha=>?_⟩
   ·have et:(L.take (k+1)).map (fun x=>codeV x.l)=(L.take k).map (fun x=>codeV x.l)++[codeV x.l]:=by rw [List.take_add_one,hx];simp
    rw [et]
    refine GO.push _ _ hR ⟨_,_,rfl⟩ rfl rfl (fun _ _ _ _ _ _ _ _ _ _ hf=>hf) (fun j f u hf hu=>?_) (fun x' e' hx' a ha g' o' hg'=>?_) ?_ (fun a ha ha'=>?_)
    ·match j,hf,hu with
     | 0,hf,hu=>
      simp at hf
      simp [codeV] at hu
      subst hf hu
      rw [tl]
      refine ⟨?_,⟨hlt.1,hlt.2⟩,vo⟩
      have q:=World.ownsRow.cellAt hrow k (by omega)
      rw [List.getElem?_map,hx] at q
      simp only [Option.map_some] at q
      rw [ev] at q
      simpa [adr,TC] using q
    ·simp at hx'
     obtain ⟨rfl,rfl⟩:=hx'
     injection hg' with hg'
     injection hg' with hg'
     intro eb
     refine ownType' (h.inn k x hx) hrow (by decide) (ow a ha) ?_
     rw [eb,← hg']
     rfl
    ·simp only [recAs,fAs,List.append_nil]
     exact vo.nodup
    ·simp only [recAs,fAs,List.append_nil] at ha'
     obtain ⟨i,z,hi,hz,hb⟩:=hA a ha
     exact h.sep i k z x _ hz hx (by omega) hb (ow a ha')
   ·rw [gAs_append] at ha
    rcases List.mem_append.1 ha with ha | ha
    ·obtain ⟨i,z,hi,hz,hb⟩:=hA a ha
     exact ⟨i,z,by omega,hz,hb⟩
    ·simp only [gAs,recAs,fAs,List.append_nil] at ha
     exact ⟨k,x,by omega,hx,ow a ha⟩
 obtain ⟨R,hR,-⟩:=step L.length (Nat.le_refl _)
 rw [List.take_length] at hR
 exact ⟨some ⟨g,0,none⟩,cap,R,e,hR⟩
theorem OwnKx117.go {w:World} {base:Nat} {v:Value} {L:List KV} (h:OwnKx117 w base v L):∃ s c R,v=.slice s L.length c∧GO w base w.heap.size s TK R (L.map fun x=>coreV x.d)∧∀ a∈gAs s TK.length R 0,v.ownBlock=some a.block∨∃ (i:Nat) (x:KV),L[i]? =some x∧(x.r.ownBlock=some a.block∨x.v.ownBlock=some a.block):=by
 rcases Nat.eq_zero_or_pos L.length with h0 | hpos
 ·obtain ⟨s,c,e⟩:=ownSl h.row
  rw [List.length_eq_zero_iff.1 h0]
  rw [h0] at e
  exact ⟨s,c,[],e,GO.nil _ _ _ _ _,fun a ha=>by simp [gAs] at ha⟩
 obtain ⟨g,cap,e,-⟩:=World.ownsRow.form h.row hpos
 have hlt:=World.ownsRow.lt h.row g (by rw [e];rfl)
 have hrow:=h.row
 rw [e] at hrow
 have step:∀ k,k≤L.length→∃ R,GO w base w.heap.size (some ⟨g,0,none⟩) TK R ((L.take k).map fun x=>coreV x.d)∧∀ a∈gAs (some ⟨g,0,none⟩) TK.length R 0,(∃ i j,i < k∧j < 4∧a=⟨g,i * 4+j,none⟩)∨∃ (i:Nat) (x:KV),i < k∧L[i]? =some x∧(x.r.ownBlock=some a.block∨x.v.ownBlock=some a.block):=by
  intro k
  induction k with
  | zero=>intro _;exact ⟨[],GO.nil _ _ _ _ _,fun a ha=>by simp [gAs] at ha⟩
  | succ k ih=>
   intro hk
   obtain ⟨R,hR,hA⟩:=ih (by omega)
   obtain ⟨x,hx⟩:∃ x,L[k]? =some x:=⟨_,List.getElem?_eq_getElem (by omega)⟩
   obtain ⟨i1,i2⟩:=h.inn k x hx
   obtain ⟨s,c,ev,vo⟩:=own_vo (size:=1) i1 (by simp)
   obtain ⟨s',c',ev',vo'⟩:=own_vo (size:=1) i2 (by simp)
   rw [wide_one] at vo vo'
   have tl:((L.take k).map fun x=>coreV x.d).length=k:=by simp;omega
   have ow:∀ a∈vAs (⟨s,x.d.regs.length,c⟩:VS),x.r.ownBlock=some a.block:=fun a ha=>by rw [ev];exact VO.own (e:=1) (by rw [wide_one];exact vo) (by rw [wide_one];exact ha)
   have ow':∀ a∈vAs (⟨s',x.d.vw.length,c'⟩:VS),x.v.ownBlock=some a.block:=fun a ha=>by rw [ev'];exact VO.own (e:=1) (by rw [wide_one];exact vo') (by rw [wide_one];exact ha)
   have far:∀ {u:Value} {l:List Int} {a:Addr},OwnN w base u l→u.ownBlock=some a.block→a.block≠g:=fun hu ha eb=>ownType' hu hrow (by decide) ha (by rw [eb];rfl)
   obtain ⟨fa,fb,fc,fd⟩:=flatK_at L k x hx
   have q:∀ j u,j < 4→(flatK L)[k * 4+j]? =some u→w.cell? ⟨g,k * 4+j,none⟩=some u:=fun j u hj hu=>by rw [World.ownsRow.cellAt hrow (k * 4+j) (by omega)];exact hu
   have ra:recAs (some ⟨g,0,none⟩) [.i,.r ⟨s,x.d.regs.length,c⟩ 1,.r ⟨s',x.d.vw.length,c'⟩ 1,.i] (k * TK.length)=⟨g,k * 4,none⟩::(vAs (⟨s,x.d.regs.length,c⟩:VS)++(vAs (⟨s',x.d.vw.length,c'⟩:VS)++[⟨g,k * 4+3,none⟩])):=by
    simp [recAs,fAs,wide_one,adr,TK]
   have et:(L.take (k+1)).map (fun x=>coreV x.d)=(L.take k).map (fun x=>coreV x.d)++[coreV x.d]:=by rw [List.take_add_one,hx];simp
   refine ⟨R++[[.i,.r ⟨s,x.d.regs.length,c⟩ 1,.r ⟨s',x.d.vw.length,c'⟩ 1,.i]],?_,fun a ha=>?_⟩
   ·rw [et]
    refine GO.push _ _ hR ⟨_,_,rfl⟩ rfl rfl (fun _ _ _ _ _ _ _ _ _ _ hf=>hf) (fun j f u hf hu=>?_) (fun x' e' hx' a ha g' o' hg'=>?_) ?_ (fun a ha ha'=>?_)
    ·rw [tl]
     match j,hf,hu with
     | 0,hf,hu=>
      simp at hf
      simp [coreV] at hu
      subst hf hu
      exact ⟨by simpa [adr,TK] using q 0 _ (by omega) fa,World.ownsRow.frozenAt hrow _,hlt.1,hlt.2⟩
     | 1,hf,hu=>
      simp at hf
      simp [coreV] at hu
      subst hf hu
      refine ⟨by have:=q 1 _ (by omega) fb;rw [ev] at this;simpa [adr,TK] using this,⟨hlt.1,hlt.2⟩,by rw [wide_one];exact vo⟩
     | 2,hf,hu=>
      simp at hf
      simp [coreV] at hu
      subst hf hu
      refine ⟨by have:=q 2 _ (by omega) fc;rw [ev'] at this;simpa [adr,TK] using this,⟨hlt.1,hlt.2⟩,by rw [wide_one];exact vo'⟩
     | 3,hf,hu=>
      simp at hf
      simp [coreV] at hu
      subst hf hu
      exact ⟨by simpa [adr,TK] using q 3 _ (by omega) fd,World.ownsRow.frozenAt hrow _,hlt.1,hlt.2⟩
    ·injection hg' with hg'
     injection hg' with hg'
     simp at hx'
     rw [← hg']
     rcases hx' with ⟨rfl,rfl⟩ | ⟨rfl,rfl⟩
     ·rw [wide_one] at ha
      exact far i1 (ow a ha)
     ·rw [wide_one] at ha
      exact far i2 (ow' a ha)
    ·rw [tl,ra]
     refine List.nodup_cons.2 ⟨fun hm=>?_,List.nodup_append.2 ⟨vo.nodup,List.nodup_append.2 ⟨vo'.nodup,by simp,fun a ha b hb eq=>?_⟩,fun a ha b hb eq=>?_⟩⟩
     ·rcases List.mem_append.1 hm with hm | hm
      ·exact far i1 (ow _ hm) rfl
      ·rcases List.mem_append.1 hm with hm | hm
       ·exact far i2 (ow' _ hm) rfl
       ·simp at hm
     ·simp at hb
      subst hb eq
      exact far i2 (ow' _ ha) rfl
     ·subst eq
      rcases List.mem_append.1 hb with hb | hb
      ·exact h.two k x _ hx (ow _ ha) (ow' _ hb)
      ·simp at hb
       subst hb
       exact far i1 (ow _ ha) rfl
    ·rw [tl,ra] at ha'
     have new:a.block=g∧(a=⟨g,k * 4,none⟩∨a=⟨g,k * 4+3,none⟩)∨(x.r.ownBlock=some a.block∨x.v.ownBlock=some a.block):=by
      rcases List.mem_cons.1 ha' with rfl | ha'
      ·exact .inl ⟨rfl,.inl rfl⟩
      ·rcases List.mem_append.1 ha' with ha' | ha'
       ·exact .inr (.inl (ow a ha'))
       ·rcases List.mem_append.1 ha' with ha' | ha'
        ·exact .inr (.inr (ow' a ha'))
        ·simp at ha'
         exact .inl ⟨by rw [ha'],.inr ha'⟩
     rcases hA a ha with ⟨i,j,hi,hj,e1⟩ | ⟨i,z,hi,hz,hb⟩
     ·rcases new with ⟨-,e2 | e2⟩ | hb
      ·rw [e1] at e2;simp at e2<;>omega
      ·rw [e1] at e2;simp at e2<;>omega
      ·rcases hb with hb | hb
       ·exact far i1 hb (by rw [e1])
       ·exact far i2 hb (by rw [e1])
     ·rcases new with ⟨e2,-⟩ | hb'
      ·obtain ⟨j1,j2⟩:=h.inn i z hz
       rcases hb with hb | hb
       ·exact far j1 hb e2
       ·exact far j2 hb e2
      ·exact h.sep i k z x _ hz hx (by omega) hb hb'
   ·rw [gAs_append] at ha
    rcases List.mem_append.1 ha with ha | ha
    ·rcases hA a ha with ⟨i,j,hi,hj,e1⟩ | ⟨i,z,hi,hz,hb⟩
     ·exact .inl ⟨i,j,by omega,hj,e1⟩
     ·exact .inr ⟨i,z,by omega,hz,hb⟩
    ·have hl:R.length=k:=by have:=hR.n;rw [tl] at this;exact this
     rw [hl] at ha
     simp only [gAs,List.append_nil,Nat.zero_add] at ha
     rw [ra] at ha
     rcases List.mem_cons.1 ha with e1 | ha
     ·exact .inl ⟨k,0,by omega,by omega,by rw [e1,Nat.add_zero]⟩
     ·rcases List.mem_append.1 ha with ha | ha
      ·exact .inr ⟨k,x,by omega,hx,.inl (ow a ha)⟩
      ·rcases List.mem_append.1 ha with ha | ha
       ·exact .inr ⟨k,x,by omega,hx,.inr (ow' a ha)⟩
       ·simp at ha
        exact .inl ⟨k,3,by omega,by omega,ha⟩
 obtain ⟨R,hR,hA⟩:=step L.length (Nat.le_refl _)
 rw [List.take_length] at hR
 refine ⟨some ⟨g,0,none⟩,cap,R,e,hR,fun a ha=>?_⟩
 rcases hA a ha with ⟨i,j,-,-,e1⟩ | ⟨i,z,-,hz,hb⟩
 ·left
  rw [e,e1]
  rfl
 ·exact .inr ⟨i,z,hz,hb⟩
theorem infoKo:∃ i,Tryz.prog.info? 42=some i∧i.zero=some (.agg #[.int .i64 0,.slice none 0 0,.slice none 0 0,.int .i64 0])∧i.size=4∧i.bytes=64:=⟨_,rfl,rfl,rfl,rfl⟩
theorem run_append_zeroS (w : World) (base : Nat) (v : Value) (l : List I5) (hown : OwnT5 w base v l) (s : Option Addr) (c : Nat) :
  (Builtin.append_ #[66,66] 66 #[v,.slice s 0 c]).run Tryz.prog w=.ok v w:=by
 obtain ⟨i0,hi,hz0,hz1,hz2⟩:=infoSt
 rcases hown.2 with ⟨rfl,-⟩ | ⟨g,cap,cur,rfl,_,_,hnc,_⟩
 ·cases s<;>simp [Builtin.append_,run_underlying Tryz.underlying66,sizeOf,typeInfo,hi,Builtin.lenOf,Builtin.firstCells,loadCells,loadCellsFrom,storeCells]
 ·cases s<;>simp [Builtin.append_,run_underlying Tryz.underlying66,sizeOf,typeInfo,hi,Builtin.lenOf,Builtin.firstCells,hnc,storeCells,loadCells,loadCellsFrom,storeCells]
theorem wp_copyS {o : Oper} {a : Act} {w : World} {K : Act → World → Prop} {Q : Exit → Act → World → Prop} (s x : Operand) (hty : o.type = 66) (ho : o.op = .call { callee := .builtin .append, args := #[s, x], argTypes := #[66, 66] })
  (base:Nat) (sv:Option Addr) (cv:Nat) (hs:a.eval s=.slice sv 0 cv) (hown:OwnT5 w base (.slice sv 0 cv) []) (sx:Option Addr) (c:Nat) (l:List I5) {lo hi:Nat} (hx:a.eval x=.slice sx l.length c) (hr:InsR w lo hi sx l) (hn:l.length≤1073741824) (hbase:base≤w.heap.size)
  (h:∀ s' c' w',OwnT5 w' base (.slice s' l.length c') l→Copied w w' sv cv base l.length s' c'→K (a.put o.dst (.slice s' l.length c')) w'):Oper.wp Tryz.prog o a w K Q:=by
 rcases Nat.eq_zero_or_pos l.length with h0 | hl
 ·have e:=List.length_eq_zero_iff.1 h0
  subst e
  have hrun:=run_append_zeroS w base _ _ hown sx c
  unfold Oper.wp
  simp at hx
  simp [execOp,ho,resolve,invoke,builtin,hs,hx,hty,hrun,Result.andThen]
  exact h sv cv w hown ⟨fun _ _ _=>rfl,Below.refl _ _,fun k hk=>.inr hk⟩
 ·rcases hr with rfl | ⟨g,off,rfl,h1,h2,hc⟩
  ·simp at hl
  ·obtain ⟨i0,hi0,hz0,hz1,hz2⟩:=infoSt
   refine wp_append_lies w s x 66 ho base 65 i0 _ 5 40 Tryz.underlying66 hi0 hz0 hz1 hz2 rfl (by decide) _ 0 _ hs hown ⟨g,off,none⟩ l.length c ((fl5 l).map (Value.int .i64)) hx (by rw [List.length_map,fl5_len]) (fun j u hj=>?_) (fun u hu=>by obtain ⟨z,-,rfl⟩:=List.mem_map.1 hu;rfl) hl (by unfold maxLen;omega) (by omega) hbase _ rfl ?_
   ·rw [List.getElem?_map] at hj
    obtain ⟨z,hz,rfl⟩:=Option.map_eq_some_iff.1 hj
    have hj':=(List.getElem?_eq_some_iff.1 hz).1
    rw [fl5_len] at hj'
    have q:=steps_cell hc j hj'
    rw [List.getD_eq_getElem?_getD,hz] at q
    have ea:Addr.add ⟨g,off,none⟩ j=⟨g,off+j,none⟩:=by
     by_cases h:j=0
     ·subst h;rfl
     ·simp [Addr.add,h]
    rw [ea]
    exact q
   intro g' cap w' q1 q2 q3 q4
   have hb:Below base w w':=Below.grown (Below.refl _ _) q2 hbase (fun j hj=>(World.ownsRow.lt hown _ hj).1)
   rw [Nat.zero_add]
   rw [Nat.zero_add] at q1
   refine h _ _ w' (by show w'.ownsRow base 65 5 _ l.length ((fl5 l).map (Value.int .i64));exact q1) ⟨fun k hk hne=>q2.block k hk (fun e=>hne e.symm),hb,fun k hk=>?_⟩
   injection hk with hk
   rcases q3 with q3 | q3
   ·exact .inr (by rw [q3];exact congrArg some hk)
   ·exact .inl (by have:g'=k:=hk;omega)
theorem app_copyS {ops : Array Oper} {rest : List Oper} {o : Oper} {a : Act} {Q : Exit → Act → World → Prop} (hgd : o.guard = none) (s x : Operand) (hty : o.type = 66) (ho : o.op = .call { callee := .builtin .append, args := #[s, x], argTypes := #[66, 66] }) (w : World)
  (base:Nat) (sv:Option Addr) (cv:Nat) (hs:a.eval s=.slice sv 0 cv) (hown:OwnT5 w base (.slice sv 0 cv) []) (sx:Option Addr) (c:Nat) (l:List I5) {lo hi:Nat} (hx:a.eval x=.slice sx l.length c) (hr:InsR w lo hi sx l) (hn:l.length≤1073741824) (hbase:base≤w.heap.size)
  (h:∀ s' c' w',OwnT5 w' base (.slice s' l.length c') l→Copied w w' sv cv base l.length s' c'→wpList Tryz.prog ops Q rest (a.put o.dst (.slice s' l.length c')) w'):wpList Tryz.prog ops Q (o::rest) a w:=
 wpList_plain hgd fun _ hK=>wp_copyS s x hty ho base sv cv hs hown sx c l hx hr hn hbase fun s' c' w' h1 h2=>hK _ _ (h s' c' w' h1 h2)
/- one more row of steps -/
structure PushedC (w w':World) (base:Nat) (v:Value) (L:List CV) (y:CV) (g cap:Nat):Prop where
 own:OwnC w' base (.slice (some ⟨g,0,none⟩) (L.length+1) cap) (L++[y])
 low:Below base w w'
theorem app_rowC {ops : Array Oper} {rest : List Oper} {o : Oper} {a : Act} {Q : Exit → Act → World → Prop} (hgd : o.guard = none) (s x : Operand) (ho : o.op = .call { callee := .builtin .append, args := #[s, x], argTypes := #[28, 28] })
  (w:World) (base:Nat) (v:Value) (L:List CV) (y:CV) (hs:a.eval s=v) (hown:OwnC w base v L) (hy:OwnT5 w base y.v y.l) (h1:y.v.oneCell'=true) (hx:a.eval x=.slice (some ⟨w.heap.size,0,none⟩) 1 1) (hn:L.length≤1073741824) (hbase:base≤w.heap.size)
  (hsep:∀ (i:Nat) (z:CV) (k:Nat),L[i]? =some z→y.v.ownBlock=some k→z.v.ownBlock≠some k)
  (h:∀ g cap w',PushedC w w' base v L y g cap→wpList Tryz.prog ops Q rest (a.put o.dst (.slice (some ⟨g,0,none⟩) (L.length+1) cap)) w'):
  wpList Tryz.prog ops Q (o::rest) a (w.alloc (.cells #[y.v] 66)):=by
 obtain ⟨i0,hi,hz0,hz1,hz2⟩:=infoCd
 have h1':(w.alloc (.cells #[y.v] 66)).ownsRow base 66 1 v L.length (L.map CV.v):=ownKeep' hown.row (fun k hk=>Below.heap_alloc _ _ _ (World.ownsRow.lt hown.row _ hk).2)
 refine wpList_append_lies _ hgd s x 28 ho base 66 i0 _ 1 24 Tryz.underlying28 hi hz0 hz1 hz2 rfl (by decide) v L.length _ hs h1' ⟨w.heap.size,0,none⟩ 1 1 [y.v] hx rfl (fun j u hj=>?_) (fun u hu=>by simp at hu;subst hu;exact h1) (by decide) (by unfold maxLen;omega) (by omega) (by simp;omega) _ rfl ?_
 ·match j,hj with
  | 0,hj=>simpa [Addr.add,go_sem] using hj
  | j+1,hj=>simp at hj
 intro g cap w' q1 q2 q3 q4
 have hb:Below base w w':=Below.grown (((Below.refl _ _).alloc hbase _)) q2 (by simp;omega) (fun j hj=>(World.ownsRow.lt h1' _ hj).1)
 have hf:∀ k,k < w.heap.size→v.ownBlock≠some k→w'.heap[k]? =w.heap[k]? :=fun k hk hne=>(q2.block k (by simp;omega) (fun e=>hne e.symm)).trans (Below.heap_alloc _ _ _ hk)
 exact h g cap w' ⟨OwnC.push hown hy hsep q1 hf,hb⟩
structure PushedK (w w':World) (base:Nat) (v:Value) (L:List KV) (y:KV) (g cap:Nat):Prop where
 own:OwnKx117 w' base (.slice (some ⟨g,0,none⟩) (L.length+1) cap) (L++[y])
 low:Below base w w'
 far:∀ k,k < w.heap.size→v.ownBlock≠some k→w'.heap[k]? =w.heap[k]?
theorem wp_recK {o : Oper} {a : Act} {K : Act → World → Prop} {Q : Exit → Act → World → Prop} (s x : Operand) (ho : o.op = .call { callee := .builtin .append, args := #[s, x], argTypes := #[29, 29] })
  (w:World) (base:Nat) (v:Value) (L:List KV) (y:KV) (hs:a.eval s=v) (hown:OwnKx117 w base v L) (hy:OwnN w base y.r y.d.regs∧OwnN w base y.v y.d.vw) (ht:∀ k,y.r.ownBlock=some k→y.v.ownBlock≠some k) (h1:y.r.oneCell'=true) (h2:y.v.oneCell'=true) (g0:Nat) (hg:g0=w.heap.size) (hx:a.eval x=.slice (some ⟨g0,0,none⟩) 1 1) (hn:L.length≤1073741824) (hbase:base≤w.heap.size)
  (hsep:∀ (i:Nat) (z:KV) (k:Nat),L[i]? =some z→(y.r.ownBlock=some k∨y.v.ownBlock=some k)→¬ (z.r.ownBlock=some k∨z.v.ownBlock=some k))
  (h:∀ g cap w',PushedK w w' base v L y g cap→K (a.put o.dst (.slice (some ⟨g,0,none⟩) (L.length+1) cap)) w'):
  Oper.wp Tryz.prog o a (w.alloc (.cells #[.int .i64 y.d.pc,y.r,y.v,.int .i64 y.d.st] 42)) K Q:=by
 subst hg
 obtain ⟨i0,hi,hz0,hz1,hz2⟩:=infoKo
 have h1':(w.alloc (.cells #[.int .i64 y.d.pc,y.r,y.v,.int .i64 y.d.st] 42)).ownsRow base 42 4 v L.length (flatK L):=ownKeep' hown.row (fun k hk=>Below.heap_alloc _ _ _ (World.ownsRow.lt hown.row _ hk).2)
 refine wp_append_lies _ s x 29 ho base 42 i0 _ 4 64 Tryz.underlying29 hi hz0 hz1 hz2 rfl (by decide) v L.length _ hs h1' ⟨w.heap.size,0,none⟩ 1 1 [.int .i64 y.d.pc,y.r,y.v,.int .i64 y.d.st] hx rfl (fun j u hj=>?_) (fun u hu=>by simp at hu;rcases hu with rfl | rfl | rfl | rfl;rfl;exact h1;exact h2;rfl) (by decide) (by unfold maxLen;omega) (by omega) (by simp;omega) _ rfl ?_
 ·match j,hj with
  | 0,hj=>simpa [Addr.add,go_sem] using hj
  | 1,hj=>simpa [Addr.add,go_sem] using hj
  | 2,hj=>simpa [Addr.add,go_sem] using hj
  | 3,hj=>simpa [Addr.add,go_sem] using hj
  | j+4,hj=>simp at hj
 intro g cap w' q1 q2 q3 q4
 have hb:Below base w w':=Below.grown (((Below.refl _ _).alloc hbase _)) q2 (by simp;omega) (fun j hj=>(World.ownsRow.lt h1' _ hj).1)
 have hf:∀ k,k < w.heap.size→v.ownBlock≠some k→w'.heap[k]? =w.heap[k]? :=fun k hk hne=>(q2.block k (by simp;omega) (fun e=>hne e.symm)).trans (Below.heap_alloc _ _ _ hk)
 exact h g cap w' ⟨OwnKx117.push hown hy ht hsep q1 hf,hb,hf⟩
theorem step_recK {ops : Array Oper} {o : Oper} {a : Act} {K : Act → World → Prop} {Q : Exit → Act → World → Prop} {E : Prop} (hgd : o.guard = none) (s x : Operand) (ho : o.op = .call { callee := .builtin .append, args := #[s, x], argTypes := #[29, 29] })
  (w:World) (base:Nat) (v:Value) (L:List KV) (y:KV) (hs:a.eval s=v) (hown:OwnKx117 w base v L) (hy:OwnN w base y.r y.d.regs∧OwnN w base y.v y.d.vw) (ht:∀ k,y.r.ownBlock=some k→y.v.ownBlock≠some k) (h1:y.r.oneCell'=true) (h2:y.v.oneCell'=true) (g0:Nat) (hg:g0=w.heap.size) (hx:a.eval x=.slice (some ⟨g0,0,none⟩) 1 1) (hn:L.length≤1073741824) (hbase:base≤w.heap.size)
  (hsep:∀ (i:Nat) (z:KV) (k:Nat),L[i]? =some z→(y.r.ownBlock=some k∨y.v.ownBlock=some k)→¬ (z.r.ownBlock=some k∨z.v.ownBlock=some k))
  (h:∀ g cap w',PushedK w w' base v L y g cap→K (a.put o.dst (.slice (some ⟨g,0,none⟩) (L.length+1) cap)) w'):
  if Region.wanted o (yielded ops a.tmps)=true then Oper.wp Tryz.prog o a (w.alloc (.cells #[.int .i64 y.d.pc,y.r,y.v,.int .i64 y.d.st] 42)) K Q else E:=by
 have hw:Region.wanted o (yielded ops a.tmps)=true:=by simp [Region.wanted,hgd]
 rw [if_pos hw]
 exact wp_recK s x ho w base v L y hs hown hy ht h1 h2 g0 hg hx hn hbase hsep h
set_option maxHeartbeats 1000000 in
theorem l8Codes_any (s : Option Addr) (c lo hi : Nat) (l : List (List I5)) (w : World) (h : CsR w lo hi s l) (hB : hi ≤ w.heap.size) (hl : l.length + szC l ≤ 1048576) :
  Calls Tryz.prog 31 #[.slice s l.length c] w fun e w'=>∃ v L,e=.returned v∧L.map CV.l=l∧OwnC w' w.heap.size v L∧Below w.heap.size w w':=by
 have H:Hid (CsR w lo hi s l):=h
 have HV:Hid (∀ (i:Nat) (x:List I5),l[i]? =some x→x.length≤1048576):=fun i x hx=>by have:=szC_at l i x hx;omega
 clear h
 go_enter Tryz.func31,Tryz.ntmps31
 go_wp2
 go_loopw [3,4] (fun v i wr=>∃ (k:Nat) (L:List CV),k≤l.length∧i=.int .i64 k∧L.length=k∧L.map CV.l=l.take k∧OwnC wr w.heap.size v L∧Below w.heap.size w wr) (fun _ i _=>l.length - (intOf i).toNat)
 case atStart=>exact ⟨0,[],Nat.zero_le _,rfl,rfl,rfl,⟨World.ownsRow_lit w #[] 0 (Nat.le_refl _) (by unfold maxLen;omega) rfl,fun i x hx=>by simp at hx,fun i j x y k hx=>by simp at hx⟩,(Below.refl _ _).alloc (Nat.le_refl _) _⟩
 case round=>
  obtain ⟨k,L,hk,rfl,hL,hM,ho,hb⟩:=hrel
  obtain ⟨sv,cv,ev⟩:=ownSl ho.row
  rw [hL] at ev
  subst ev
  have HO:Hid (OwnC wr w.heap.size (.slice sv k cv) L):=ho
  have HB:Hid (Below w.heap.size w wr):=hb
  have HL:Hid (L.length=k):=hL
  have HM:Hid (L.map CV.l=l.take k):=hM
  have hz:=hb.size
  clear ho hb hL hM
  by_cases hlt:k < l.length
  ·obtain ⟨x,hx⟩:∃ x,l[k]? =some x:=⟨_,List.getElem?_eq_getElem hlt⟩
   obtain ⟨g,o,s1,c1,e1,q1,q2,q3,q5⟩:=(H.out.keep (Keep.of_below HB.out hB)).at hx
   subst e1
   have hv:=HV.out k x hx
   have HI:Hid (InsR wr lo hi s1 x):=q5
   have HX:Hid (l[k]? =some x):=hx
   clear q5 hx
   have b0:(0:Int)≤(k:Int):=by omega
   have b1:(k:Int) < (l.length:Int):=by omega
   have zg:g < wr.heap.size:=by omega
   go_wp2_with (first | (at_builtin;refine app_copyS rfl _ _ rfl rfl (wr.alloc (.cells #[] 65)) wr.heap.size (some ⟨wr.heap.size,0,none⟩) 0 rfl (World.ownsRow_lit wr #[] 0 (Nat.le_refl _) (by unfold maxLen;omega) rfl) s1 c1 x (by rfl) (HI.out.keep (Keep.of_below ((Below.refl wr.heap.size wr).alloc (Nat.le_refl _) _) (by omega))) (by omega) (by simp) ?_;intro s5 c5 w5 ho5 hc5;have O5:=(show Hid (OwnT5 w5 wr.heap.size (.slice s5 x.length c5) x) from ho5);have K5:=(show Hid (Below wr.heap.size wr w5) from ((Below.refl wr.heap.size wr).alloc (Nat.le_refl _) _).trans hc5.low);have Z5:=(show Hid (∀ k,(Value.slice s5 x.length c5).ownBlock=some k→wr.heap.size≤k) from fun k hk=>(World.ownsRow.lt ho5 _ hk).1);clear ho5 hc5) | (at_builtin;refine app_rowC rfl _ _ rfl w5 w.heap.size (.slice sv k cv) L ⟨x,.slice s5 x.length c5⟩ rfl (HO.out.below K5.out) (ownLow' O5.out (by omega)) rfl (by rfl) (by have:=HL.out;omega) (by have:=K5.out.size;omega) (fun i z kk hz1 hk1 hk2=>by have h1:=Z5.out kk hk1;have h2:=(World.ownsRow.lt (HO.out.inn i z hz1) _ hk2).2;omega) ?_;intro g6 c6 w6 hp6;have P6:=(show Hid (OwnC w6 w.heap.size (.slice (some ⟨g6,0,none⟩) (L.length+1) c6) (L++[⟨x,.slice s5 x.length c5⟩])) from hp6.own);have K6:=(show Hid (Below w.heap.size w w6) from (HB.out.trans (K5.out.mono hz)).trans hp6.low);clear hp6))
   go_roundw
   case rel=>
    refine ⟨k+1,L++[⟨x,.slice s5 x.length c5⟩],by omega,by go_num,by simp [HL.out],?_,P6.out,K6.out⟩
    rw [List.map_append,HM.out,List.take_add_one,HX.out]
    rfl
   case measure=>simp [intOf];omega
  ·go_wp2
   go_ret
   have e:k=l.length:=by omega
   have hm:=HM.out
   rw [List.take_of_length_le (by omega)] at hm
   exact ⟨_,L,rfl,hm,HO.out,HB.out⟩
end
section
set_option linter.unusedSimpArgs false
set_option linter.unusedVariables false
set_option maxRecDepth 100000
open Go.RowKit
theorem infoD:∃ i,Tryz.prog.info? 96=some i∧i.zero=some (.agg #[.int .i64 0,.int .i64 0])∧i.size=2∧i.bytes=16:=⟨_,rfl,rfl,rfl,rfl⟩
theorem step_call {ops : Array Oper} {o : Oper} {a : Act} {w : World} {K : Act → World → Prop} {Q : Exit → Act → World → Prop} {F : Prop} (f : FuncId) (args : Array Value) (hgd : o.guard = none) (xs : Array Operand) (ats : Array TypeId) (ho : o.op = .call { callee := .value (.func f), args := xs, argTypes := ats }) (hx : xs.map a.eval = args)
  (hent:∀ (args:Array Value) (w:World),(callFunc f args).run Tryz.prog w=.ok (.enter f args) w) (h:Calls Tryz.prog f args w fun e w'=>∃ v,e=.returned v∧K (a.put o.dst v) w'):
  if Region.wanted o (yielded ops a.tmps)=true then Oper.wp Tryz.prog o a w K Q else F:=by
 have hw:Region.wanted o (yielded ops a.tmps)=true:=by simp [Region.wanted,hgd]
 rw [if_pos hw]
 obtain ⟨dst,op,ty,pos,after,guard⟩:=o
 simp only at ho
 subst ho
 unfold Oper.wp
 rw [execOp_call_go]
 have e:(#[]++xs.map a.eval++#[])=args:=by rw [hx];simp
 rw [e,hent,Oper.upon_enter]
 refine h.mono ?_
 rintro e w' ⟨v,rfl,hk⟩
 exact hk
theorem OwnC.low {w:World} {b b':Nat} {v:Value} {L:List CV} (h:OwnC w b v L) (hb:b'≤b):OwnC w b' v L:=⟨ownLow' h.row hb,fun i x hx=>ownLow' (h.inn i x hx) hb,h.sep⟩
theorem OwnKx117.low {w:World} {b b':Nat} {v:Value} {L:List KV} (h:OwnKx117 w b v L) (hb:b'≤b):OwnKx117 w b' v L:=⟨ownLow' h.row hb,fun i x hx=>⟨ownLow' (h.inn i x hx).1 hb,ownLow' (h.inn i x hx).2 hb⟩,h.two,h.sep⟩
/- a machine that runs: all its rows owned whole -/
structure MQ0 (w:World) (B:Nat) (vc vk vm vt:Value) (LC:List CV) (LK:List KV) (S:List RS) (d:MD):Prop where
 c:OwnC w B vc LC
 ec:LC.map CV.l=d.codes
 k:OwnKx117 w B vk LK
 ek:LK.map KV.d=d.cores
 m:OW w B vm S d.mem
 t:OwnD w B vt d.tr
 sk:∀ (i:Nat) (x:KV) (q:Nat),LK[i]? =some x→(x.r.ownBlock=some q∨x.v.ownBlock=some q)→∀ a∈mAs S,a.block≠q
theorem MQ0.low {w:World} {B B':Nat} {vc vk vm vt:Value} {LC:List CV} {LK:List KV} {S:List RS} {d:MD} (h:MQ0 w B vc vk vm vt LC LK S d) (hb:B'≤B):MQ0 w B' vc vk vm vt LC LK S d:=⟨h.c.low hb,h.ec,h.k.low hb,h.ek,h.m.low hb,ownLow' h.t hb,h.sk⟩
theorem MQ0.keep {w w':World} {B:Nat} {vc vk vm vt:Value} {LC:List CV} {LK:List KV} {S:List RS} {d:MD} (h:MQ0 w B vc vk vm vt LC LK S d) (hb:∀ k,B≤k→k < w.heap.size→w'.heap[k]? =w.heap[k]?) (hs:w.heap.size≤w'.heap.size):MQ0 w' B vc vk vm vt LC LK S d:=
 ⟨h.c.keep hb,h.ec,h.k.keep hb,h.ek,h.m.kept hb hs,ownKeep' h.t (fun k hk=>hb k (World.ownsRow.lt h.t _ hk).1 (World.ownsRow.lt h.t _ hk).2),h.sk⟩
/- all blocks that a machine has are P -/
structure HitQ (P:Nat→Prop) (vc vk vm vt:Value) (LC:List CV) (LK:List KV) (S:List RS):Prop where
 c:∀ q,vc.ownBlock=some q→P q
 ci:∀ (i:Nat) (x:CV) (q:Nat),LC[i]? =some x→x.v.ownBlock=some q→P q
 k:∀ q,vk.ownBlock=some q→P q
 ki:∀ (i:Nat) (x:KV) (q:Nat),LK[i]? =some x→(x.r.ownBlock=some q∨x.v.ownBlock=some q)→P q
 m:∀ q,vm.ownBlock=some q→P q
 mi:∀ a∈mAs S,P a.block
 t:∀ q,vt.ownBlock=some q→P q
structure MQ (w:World) (B:Nat) (Hq:Nat→Prop) (vc vk vm vt:Value) (LC:List CV) (LK:List KV) (S:List RS) (d:MD):Prop extends MQ0 w B vc vk vm vt LC LK S d where
 hh:HitQ Hq vc vk vm vt LC LK S
 hn:∀ q,w.heap.size≤q→Hq q
theorem MQ.lt {w:World} {B b:Nat} {Hq:Nat→Prop} {vc vk vm vt:Value} {LC:List CV} {LK:List KV} {S:List RS} {d:MD} (h:MQ w B Hq vc vk vm vt LC LK S d) (hb:¬ Hq b):b < w.heap.size:=Classical.byContradiction fun e=>hb (h.hn b (by omega))
theorem MQ.keep {w w':World} {B:Nat} {Hq:Nat→Prop} {vc vk vm vt:Value} {LC:List CV} {LK:List KV} {S:List RS} {d:MD} (h:MQ w B Hq vc vk vm vt LC LK S d) (hb:∀ k,B≤k→k < w.heap.size→w'.heap[k]? =w.heap[k]?) (hs:w.heap.size≤w'.heap.size):MQ w' B Hq vc vk vm vt LC LK S d:=
 ⟨h.toMQ0.keep hb hs,h.hh,fun q hq=>h.hn q (Nat.le_trans hs hq)⟩
theorem X4.zero (w:World) (v0 v1 v2 v3:Value):X4 (w.alloc (.cells #[v0,v1,v2,v3] 35)) w.heap.size v0 v1 v2 v3∧∃ cs f,(w.alloc (.cells #[v0,v1,v2,v3] 35)).heap[w.heap.size]? =some (.cells cs 35 f):=by
 obtain ⟨W,hW,x,-,-⟩:=X4.new w v0 v1 v2 v3 35
 rw [hW]
 refine ⟨x,?_⟩
 rw [← hW]
 exact ⟨_,_,heap_alloc_new _ _⟩
/- a box of a machine's type is no block of its rows -/
def BxT (w:World) (b:Nat):Prop:=∃ cs f,w.heap[b]? =some (.cells cs 35 f)
theorem own_bx {w:World} {base size n b:Nat} {e:TypeId} {v:Value} {xs:List Value} (h:w.ownsRow base e size v n xs) (he:e≠35) (hb:BxT w b):v.ownBlock≠some b:=by
 obtain ⟨cs,f,c⟩:=hb
 intro hk
 rcases h.2 with ⟨rfl,-⟩ | ⟨g,cap,cur,rfl,-,c',-⟩
 ·cases hk
 ·simp only [Value.ownBlock,Option.some.injEq] at hk
  subst hk
  rw [c] at c'
  injection c' with c'
  injection c' with _ c'
  exact he c'.symm
theorem heap_set {w:World} {g k:Nat} {v:Value} {cur:Array Value} {e:TypeId} {fr:Nat×Nat} (h:w.heap[g]? =some (.cells cur e fr)):(w.setCell ⟨g,k,none⟩ v).heap[g]? =some (.cells (cur.setIfInBounds k v) e fr):=by
 simp only [World.setCell,Array.getElem?_modify,h]
 simp
theorem BxT.set {w:World} {b g o:Nat} {v:Value} (h:BxT w b):BxT (w.setCell ⟨g,o,none⟩ v) b:=by
 obtain ⟨cs,f,c⟩:=h
 by_cases e:b=g
 ·subst e
  exact ⟨_,f,heap_set c⟩
 ·exact ⟨cs,f,(Below.heap_setCell _ _ _ b e).trans c⟩
theorem OwnC.off {w w':World} {base b:Nat} {v:Value} {L:List CV} (h:OwnC w base v L) (ht:BxT w b) (hb:∀ k,k≠b→w'.heap[k]? =w.heap[k]?):OwnC w' base v L:=
 ⟨ownKeep' h.row (fun k hk=>hb k (fun e=>own_bx h.row (by decide) ht (by rw [hk,e]))),fun i x hx=>ownKeep' (h.inn i x hx) (fun k hk=>hb k (fun e=>own_bx (h.inn i x hx) (by decide) ht (by rw [hk,e]))),h.sep⟩
theorem OwnKx117.off {w w':World} {base b:Nat} {v:Value} {L:List KV} (h:OwnKx117 w base v L) (ht:BxT w b) (hb:∀ k,k≠b→w'.heap[k]? =w.heap[k]?):OwnKx117 w' base v L:=
 ⟨ownKeep' h.row (fun k hk=>hb k (fun e=>own_bx h.row (by decide) ht (by rw [hk,e]))),fun i x hx=>⟨ownKeep' (h.inn i x hx).1 (fun k hk=>hb k (fun e=>own_bx (h.inn i x hx).1 (by decide) ht (by rw [hk,e]))),ownKeep' (h.inn i x hx).2 (fun k hk=>hb k (fun e=>own_bx (h.inn i x hx).2 (by decide) ht (by rw [hk,e])))⟩,h.two,h.sep⟩
theorem OwnD.off {w w':World} {base b:Nat} {v:Value} {l:List ND} (h:OwnD w base v l) (ht:BxT w b) (hb:∀ k,k≠b→w'.heap[k]? =w.heap[k]?):OwnD w' base v l:=ownKeep' h (fun k hk=>hb k (fun e=>own_bx h (by decide) ht (by rw [hk,e])))
theorem OW.off {w w':World} {B b:Nat} {v:Value} {S:List RS} {m:List (List WD)} (h:OW w B v S m) (ht:BxT w b) (hb:∀ k,k≠b→w'.heap[k]? =w.heap[k]?) (hs:w.heap.size≤w'.heap.size):OW w' B v S m:=by
 refine ⟨h.n,ownKeep' h.row (fun k hk=>hb k (fun e=>own_bx h.row (by decide) ht (by rw [hk,e]))),fun i r l hr hl=>?_,h.d⟩
 have q:=h.r i r l hr hl
 refine q.kept (fun k hk=>hb k (fun e=>?_)) (fun a ha=>hb _ (fun e=>?_)) hs
 ·obtain ⟨cs,c⟩:=q.blkT hk
  obtain ⟨cs',f,c'⟩:=ht
  rw [e,c'] at c
  injection c with c
  injection c with _ c
  exact absurd c (by decide)
 ·obtain ⟨cs,f,c⟩:=q.vt a ha
  obtain ⟨cs',f',c'⟩:=ht
  rw [e,c'] at c
  injection c with c
  injection c with _ c
  exact absurd c (by decide)
end
section
set_option linter.unusedSimpArgs false
set_option linter.unusedVariables false
set_option maxRecDepth 100000
open Go.RowKit
end
section
set_option linter.unusedSimpArgs false
set_option linter.unusedVariables false
set_option maxRecDepth 100000
open Go.RowKit
theorem own_ty {w:World} {base size n k:Nat} {e:TypeId} {v:Value} {xs:List Value} (h:w.ownsRow base e size v n xs) (hk:v.ownBlock=some k):∃ cs f,w.heap[k]? =some (.cells cs e f):=by
 rcases h.2 with ⟨rfl,-⟩ | ⟨g,cap,cur,rfl,-,c,-⟩
 ·cases hk
 ·simp only [Value.ownBlock,Option.some.injEq] at hk
  subst hk
  exact ⟨_,_,c⟩
theorem X4.blk {w w':World} {b:Nat} {v0 v1 v2 v3:Value} (h:X4 w b v0 v1 v2 v3) (hk:w'.heap[b]? =w.heap[b]?) (hs:w.heap.size≤w'.heap.size):X4 w' b v0 v1 v2 v3:=
 ⟨⟨Nat.lt_of_lt_of_le h.x.z hs,(World.cell?_of_block (w:=w) hk).trans h.x.c0,(World.cell?_of_block (w:=w) hk).trans h.x.c1,(World.cell?_of_block (w:=w) hk).trans h.x.c2,(World.cell?_of_block (w:=w) hk).trans h.x.c3⟩,fun j=>(World.frozen?_of_block (w:=w) hk).trans (h.fz j)⟩
theorem OW.memblk {w:World} {B:Nat} {v:Value} {S:List RS} {m:List (List WD)} (h:OW w B v S m) {a:Addr} (ha:a∈mAs S):a.block < w.heap.size:=(h.om.blk ha).2
theorem bx_keep {w w':World} {b B:Nat} {v0 v1 v2 v3:Value} (h:X4 w b v0 v1 v2 v3∧BxT w b) (hb:Below B w w') (hB:b < B):X4 w' b v0 v1 v2 v3∧BxT w' b:=by
 obtain ⟨cs,f,c⟩:=h.2
 exact ⟨h.1.keep hb hB,cs,f,(hb.block b hB).trans c⟩
end
section
set_option linter.unusedSimpArgs false
set_option linter.unusedVariables false
set_option maxRecDepth 100000
open Go.RowKit
theorem setKV_at {α:Type} {L:List α} {k i:Nat} {y z:α} (h:(L.set k y)[i]? =some z):(i=k∧z=y∧k < L.length)∨(i≠k∧L[i]? =some z):=by
 rw [List.getElem?_set] at h
 by_cases e:k=i
 ·subst e
  rw [if_pos rfl] at h
  split at h
  ·injection h with h
   exact .inl ⟨rfl,h.symm,by assumption⟩
  ·cases h
 ·rw [if_neg e] at h
  exact .inr ⟨Ne.symm e,h⟩
theorem flatK_set:∀ (L:List KV) (k:Nat) (x:KV),L[k]? =some x→∀ z:Int,(flatK L).set (k * 4) (.int .i64 z)=flatK (L.set k ⟨{ x.d with pc:=z },x.r,x.v⟩)∧(flatK L).set (k * 4+3) (.int .i64 z)=flatK (L.set k ⟨{ x.d with st:=z },x.r,x.v⟩)
 | [],k,x,h,z=>by simp at h
 | y::r,0,x,h,z=>by simp at h;subst h;exact ⟨rfl,rfl⟩
 | y::r,k+1,x,h,z=>by
  have q:=flatK_set r k x (by simpa using h) z
  have e1:(k+1) * 4=k * 4+1+1+1+1:=by omega
  have e2:(k+1) * 4+3=(k * 4+3)+1+1+1+1:=by omega
  refine ⟨?_,?_⟩
  ·rw [e1]
   show _::_::_::_::(flatK r).set (k * 4) _=_::_::_::_::flatK (r.set k _)
   rw [q.1]
  ·rw [e2]
   show _::_::_::_::(flatK r).set (k * 4+3) _=_::_::_::_::flatK (r.set k _)
   rw [q.2]
theorem flatK_same:∀ (L:List KV) (k:Nat) (a b:KV),L[k]? =some a→a.d.pc=b.d.pc→a.d.st=b.d.st→a.r=b.r→a.v=b.v→flatK (L.set k b)=flatK L
 | [],k,a,b,h,_,_,_,_=>by simp at h
 | y::r,0,a,b,h,h1,h2,h3,h4=>by simp at h;subst h;show [_,_,_,_]++flatK r=[_,_,_,_]++flatK r;rw [h1,h2,h3,h4]
 | y::r,k+1,a,b,h,h1,h2,h3,h4=>by show [_,_,_,_]++flatK (r.set k b)=[_,_,_,_]++flatK r;rw [flatK_same r k a b (by simpa using h) h1 h2 h3 h4]
/- one core's data turned, its rows where they were; the row of cores given anew -/
theorem OwnKx117.turn {w w':World} {B:Nat} {v:Value} {L:List KV} {i:Nat} {x y:KV} (h:OwnKx117 w B v L) (hx:L[i]? =some x) (hr:y.r=x.r) (hv:y.v=x.v) (hrow:w'.ownsRow B 42 4 v L.length (flatK (L.set i y))) (hy:OwnN w' B y.r y.d.regs∧OwnN w' B y.v y.d.vw) (hk:∀ (j:Nat) (z:KV),j≠i→L[j]? =some z→OwnN w' B z.r z.d.regs∧OwnN w' B z.v z.d.vw):OwnKx117 w' B v (L.set i y):=by
 refine ⟨by rw [List.length_set];exact hrow,fun j z hz=>?_,fun j z k hz=>?_,fun j j' z z' k hz hz' hne=>?_⟩
 ·rcases setKV_at hz with ⟨rfl,rfl,-⟩ | ⟨hj,hz⟩
  ·exact hy
  ·exact hk j z hj hz
 ·rcases setKV_at hz with ⟨rfl,rfl,-⟩ | ⟨hj,hz⟩
  ·rw [hr,hv];exact h.two _ x k hx
  ·exact h.two j z k hz
 ·rcases setKV_at hz with ⟨e1,e2,-⟩ | ⟨hj,q1⟩
  ·rcases setKV_at hz' with ⟨e3,e4,-⟩ | ⟨hj',q2⟩
   ·exact absurd (e1.trans e3.symm) hne
   ·subst e1 e2
    rw [hr,hv]
    exact h.sep _ j' x z' k hx q2 hne
  ·rcases setKV_at hz' with ⟨e3,e4,-⟩ | ⟨hj',q2⟩
   ·subst e3 e4
    rw [hr,hv]
    exact h.sep j _ z x k q1 hx hne
   ·exact h.sep j j' z z' k q1 q2 hne
theorem sk_turn {L:List KV} {S:List RS} {i:Nat} {x y:KV} (h:∀ (i:Nat) (x:KV) (q:Nat),L[i]? =some x→(x.r.ownBlock=some q∨x.v.ownBlock=some q)→∀ a∈mAs S,a.block≠q) (hx:L[i]? =some x) (hr:y.r=x.r) (hv:y.v=x.v):∀ (j:Nat) (z:KV) (q:Nat),(L.set i y)[j]? =some z→(z.r.ownBlock=some q∨z.v.ownBlock=some q)→∀ a∈mAs S,a.block≠q:=fun j z q hz hq=>by
 rcases setKV_at hz with ⟨rfl,rfl,-⟩ | ⟨hj,hz⟩
 ·rw [hr,hv] at hq;exact h _ x q hx hq
 ·exact h j z q hz hq
/- a store into the row of cores -/
theorem MQ0.setK {w : World} {B g c : Nat} {vc vm vt : Value} {LC : List CV} {LK : List KV} {S : List RS} {d : MD} (h : MQ0 w B vc (.slice (some ⟨g, 0, none⟩) LK.length c) vm vt LC LK S d) {i : Nat} {x : KV} (hx : LK[i]? = some x) (z : Int) :
  MQ0 (w.setCell ⟨g,i * 4,none⟩ (.int .i64 z)) B vc (.slice (some ⟨g,0,none⟩) LK.length c) vm vt LC (LK.set i ⟨{ x.d with pc:=z },x.r,x.v⟩) S (putK d i { x.d with pc:=z })
  ∧MQ0 (w.setCell ⟨g,i * 4+3,none⟩ (.int .i64 z)) B vc (.slice (some ⟨g,0,none⟩) LK.length c) vm vt LC (LK.set i ⟨{ x.d with st:=z },x.r,x.v⟩) S (putK d i { x.d with st:=z }):=by
 have ne:∀ {e:TypeId} {size n:Nat} {u:Value} {xs:List Value} (j:Nat) (v:Value),w.ownsRow B e size u n xs→e≠42→∀ k,u.ownBlock=some k→(w.setCell ⟨g,j,none⟩ v).heap[k]? =w.heap[k]? :=fun j v hu he k hk'=>Below.heap_setCell _ _ _ k (fun e=>ownType' hu h.k.row he hk' (by rw [e];rfl))
 have oc:∀ (j:Nat) (v:Value),OwnC (w.setCell ⟨g,j,none⟩ v) B vc LC:=fun j v=>⟨ownKeep' h.c.row (ne j v h.c.row (by decide)),fun i' x' hx'=>ownKeep' (h.c.inn i' x' hx') (ne j v (h.c.inn i' x' hx') (by decide)),h.c.sep⟩
 have om:∀ (j:Nat) (v:Value),OW (w.setCell ⟨g,j,none⟩ v) B vm S d.mem:=fun j v=>by
  refine ⟨h.m.n,ownKeep' h.m.row (ne j v h.m.row (by decide)),fun i' r l hr hl=>?_,h.m.d⟩
  have q:=h.m.r i' r l hr hl
  refine q.kept (ne j v q.own (by decide)) (fun a ha=>Below.heap_setCell _ _ _ _ (fun e=>?_)) (by simp)
  obtain ⟨cs,f,c1⟩:=q.vt a ha
  obtain ⟨cs',f',c2⟩:=own_ty h.k.row (k:=g) rfl
  rw [e,c2] at c1
  injection c1 with c1
  injection c1 with _ c1
  exact absurd c1 (by decide)
 have on:∀ (j:Nat) (v:Value),OwnD (w.setCell ⟨g,j,none⟩ v) B vt d.tr:=fun j v=>ownKeep' h.t (ne j v h.t (by decide))
 have oi:∀ (j:Nat) (v:Value) (i':Nat) (x':KV),LK[i']? =some x'→OwnN (w.setCell ⟨g,j,none⟩ v) B x'.r x'.d.regs∧OwnN (w.setCell ⟨g,j,none⟩ v) B x'.v x'.d.vw:=fun j v i' x' hx'=>⟨ownKeep' (h.k.inn i' x' hx').1 (ne j v (h.k.inn i' x' hx').1 (by decide)),ownKeep' (h.k.inn i' x' hx').2 (ne j v (h.k.inn i' x' hx').2 (by decide))⟩
 have fs:=flatK_set LK i x hx z
 refine ⟨⟨oc _ _,h.ec,?_,?_,om _ _,on _ _,sk_turn h.sk hx rfl rfl⟩,⟨oc _ _,h.ec,?_,?_,om _ _,on _ _,sk_turn h.sk hx rfl rfl⟩⟩
 ·refine h.k.turn hx rfl rfl ?_ (oi _ _ i x hx) (fun j z' _ hz'=>oi _ _ j z' hz')
  have r:=(World.ownsRow.stored h.k.row (i * 4) (.int .i64 z)).1
  rw [fs.1] at r
  exact r
 ·show (LK.set i _).map KV.d=d.cores.set i _
  rw [List.map_set,h.ek]
 ·refine h.k.turn hx rfl rfl ?_ (oi _ _ i x hx) (fun j z' _ hz'=>oi _ _ j z' hz')
  have r:=(World.ownsRow.stored h.k.row (i * 4+3) (.int .i64 z)).1
  rw [fs.2] at r
  exact r
 ·show (LK.set i _).map KV.d=d.cores.set i _
  rw [List.map_set,h.ek]
/- a store into a register -/
theorem MQ0.setR {w : World} {B g c j : Nat} {vc vk vm vt : Value} {LC : List CV} {LK : List KV} {S : List RS} {d : MD} (h : MQ0 w B vc vk vm vt LC LK S d) {i : Nat} {x : KV} (hx : LK[i]? = some x) (hr : x.r = .slice (some ⟨g, 0, none⟩) x.d.regs.length c) (z : Int) :
  MQ0 (w.setCell ⟨g,j,none⟩ (.int .i64 z)) B vc vk vm vt LC (LK.set i ⟨{ x.d with regs:=x.d.regs.set j z },x.r,x.v⟩) S (putK d i { x.d with regs:=x.d.regs.set j z }):=by
 have hxo:=(h.k.inn i x hx).1
 have hrow:w.ownsRow B 3 1 (.slice (some ⟨g,0,none⟩) x.d.regs.length c) x.d.regs.length (x.d.regs.map (Value.int .i64)):=by have q:=hxo;unfold OwnN at q;rw [hr] at q;exact q
 have hxb:x.r.ownBlock=some g:=by rw [hr];rfl
 have ne:∀ {e:TypeId} {size n:Nat} {u:Value} {xs:List Value},w.ownsRow B e size u n xs→e≠3→∀ k,u.ownBlock=some k→(w.setCell ⟨g,j,none⟩ (.int .i64 z)).heap[k]? =w.heap[k]? :=fun hu he k hk'=>Below.heap_setCell _ _ _ k (fun e=>ownType' hu hrow he hk' (by rw [e];rfl))
 have nn:∀ {u:Value} {l:List Int},OwnN w B u l→u.ownBlock≠some g→OwnN (w.setCell ⟨g,j,none⟩ (.int .i64 z)) B u l:=fun hu hn=>ownKeep' hu (fun k hk=>Below.heap_setCell _ _ _ k (fun e=>hn (hk.trans (congrArg some e))))
 refine ⟨⟨ownKeep' h.c.row (ne h.c.row (by decide)),fun i' x' hx'=>ownKeep' (h.c.inn i' x' hx') (ne (h.c.inn i' x' hx') (by decide)),h.c.sep⟩,h.ec,?_,?_,?_,ownKeep' h.t (ne h.t (by decide)),sk_turn h.sk hx rfl rfl⟩
 ·refine h.k.turn hx rfl rfl ?_ ⟨?_,nn (h.k.inn i x hx).2 (h.k.two i x g hx hxb)⟩ (fun j' z' hj hz'=>?_)
  ·have r:=ownKeep' h.k.row (ne h.k.row (by decide))
   have e:=flatK_same LK i x ⟨{ x.d with regs:=x.d.regs.set j z },x.r,x.v⟩ hx rfl rfl rfl rfl
   rw [e]
   exact r
  ·show (w.setCell ⟨g,j,none⟩ (.int .i64 z)).ownsRow B 3 1 x.r (x.d.regs.set j z).length ((x.d.regs.set j z).map (Value.int .i64))
   rw [hr,List.length_set,List.map_set]
   exact (World.ownsRow.stored hrow j (.int .i64 z)).1
  ·have q:=h.k.sep i j' x z' g hx hz' (Ne.symm hj) (.inl hxb)
   exact ⟨nn (h.k.inn j' z' hz').1 (fun e=>q (.inl e)),nn (h.k.inn j' z' hz').2 (fun e=>q (.inr e))⟩
 ·show (LK.set i _).map KV.d=d.cores.set i _
  rw [List.map_set,h.ek]
 ·refine ⟨h.m.n,ownKeep' h.m.row (ne h.m.row (by decide)),fun i' r l hr' hl=>?_,h.m.d⟩
  have q:=h.m.r i' r l hr' hl
  refine q.kept (ne q.own (by decide)) (fun a ha=>Below.heap_setCell _ _ _ _ (fun e=>?_)) (by simp)
  refine h.sk i x g hx (.inl hxb) a (mem_mAs.2 ⟨r,List.mem_of_getElem? hr',mem_rAs.2 (.inr (mem_vsA.1 ha))⟩) e
theorem flatK_setV:∀ (L:List KV) (k:Nat) (x:KV) (u:Value) (l:List Int),L[k]? =some x→(flatK L).set (k * 4+2) u=flatK (L.set k ⟨{ x.d with vw:=l },x.r,u⟩)
 | [],k,x,u,l,h=>by simp at h
 | y::r,0,x,u,l,h=>by simp at h;subst h;rfl
 | y::r,k+1,x,u,l,h=>by
  have q:=flatK_setV r k x u l (by simpa using h)
  have e2:(k+1) * 4+2=(k * 4+2)+1+1+1+1:=by omega
  rw [e2]
  show _::_::_::_::(flatK r).set (k * 4+2) _=_::_::_::_::flatK (r.set k _)
  rw [q]
/- another view put in its place: it lies apart from all that the machine has -/
theorem MQ0.setV {w : World} {B g c : Nat} {vc vm vt : Value} {LC : List CV} {LK : List KV} {S : List RS} {d : MD} (h : MQ0 w B vc (.slice (some ⟨g, 0, none⟩) LK.length c) vm vt LC LK S d) {i : Nat} {x : KV} (hx : LK[i]? = some x) (u : Value) (l : List Int) (hu : OwnN w B u l) (hf : ∀ q, u.ownBlock = some q → (∀ (j : Nat) (z : KV), LK[j]? = some z → ¬ (z.r.ownBlock = some q ∨ z.v.ownBlock = some q)) ∧ ∀ a ∈ mAs S, a.block ≠ q) :
  MQ0 (w.setCell ⟨g,i * 4+2,none⟩ u) B vc (.slice (some ⟨g,0,none⟩) LK.length c) vm vt LC (LK.set i ⟨{ x.d with vw:=l },x.r,u⟩) S (putK d i { x.d with vw:=l }):=by
 have ne:∀ {e:TypeId} {size n:Nat} {u':Value} {xs:List Value},w.ownsRow B e size u' n xs→e≠42→∀ k,u'.ownBlock=some k→(w.setCell ⟨g,i * 4+2,none⟩ u).heap[k]? =w.heap[k]? :=fun hu he k hk'=>Below.heap_setCell _ _ _ k (fun e=>ownType' hu h.k.row he hk' (by rw [e];rfl))
 have oi:∀ (i':Nat) (x':KV),LK[i']? =some x'→OwnN (w.setCell ⟨g,i * 4+2,none⟩ u) B x'.r x'.d.regs∧OwnN (w.setCell ⟨g,i * 4+2,none⟩ u) B x'.v x'.d.vw:=fun i' x' hx'=>⟨ownKeep' (h.k.inn i' x' hx').1 (ne (h.k.inn i' x' hx').1 (by decide)),ownKeep' (h.k.inn i' x' hx').2 (ne (h.k.inn i' x' hx').2 (by decide))⟩
 refine ⟨⟨ownKeep' h.c.row (ne h.c.row (by decide)),fun i' x' hx'=>ownKeep' (h.c.inn i' x' hx') (ne (h.c.inn i' x' hx') (by decide)),h.c.sep⟩,h.ec,⟨?_,fun j z hz=>?_,fun j z k hz hk=>?_,fun j j' z z' k hz hz' hne hk=>?_⟩,?_,?_,ownKeep' h.t (ne h.t (by decide)),fun j z q hz hq=>?_⟩
 ·have r:=(World.ownsRow.stored h.k.row (i * 4+2) u).1
  rw [flatK_setV LK i x u l hx] at r
  rw [List.length_set]
  exact r
 ·rcases setKV_at hz with ⟨e1,e2,-⟩ | ⟨hj,q1⟩
  ·subst e1 e2
   exact ⟨(oi _ x hx).1,ownKeep' hu (ne hu (by decide))⟩
  ·exact oi j z q1
 ·rcases setKV_at hz with ⟨e1,e2,-⟩ | ⟨hj,q1⟩
  ·subst e1 e2
   exact fun e=>(hf k e).1 _ x hx (.inl hk)
  ·exact h.k.two j z k q1 hk
 ·rcases setKV_at hz with ⟨e1,e2,-⟩ | ⟨hj,q1⟩
  ·rcases setKV_at hz' with ⟨e3,e4,-⟩ | ⟨hj',q2⟩
   ·exact absurd (e1.trans e3.symm) hne
   ·subst e1 e2
    rcases hk with hk | hk
    ·exact h.k.sep _ j' x z' k hx q2 hne (.inl hk)
    ·exact (hf k hk).1 j' z' q2
  ·rcases setKV_at hz' with ⟨e3,e4,-⟩ | ⟨hj',q2⟩
   ·subst e3 e4
    rintro (e | e)
    ·exact h.k.sep j _ z x k q1 hx hne hk (.inl e)
    ·exact (hf k e).1 j z q1 hk
   ·exact h.k.sep j j' z z' k q1 q2 hne hk
 ·show (LK.set i _).map KV.d=d.cores.set i _
  rw [List.map_set,h.ek]
 ·refine ⟨h.m.n,ownKeep' h.m.row (ne h.m.row (by decide)),fun i' r l' hr hl=>?_,h.m.d⟩
  have q:=h.m.r i' r l' hr hl
  refine q.kept (ne q.own (by decide)) (fun a ha=>Below.heap_setCell _ _ _ _ (fun e=>?_)) (by simp)
  obtain ⟨cs,f,c1⟩:=q.vt a ha
  obtain ⟨cs',f',c2⟩:=own_ty h.k.row (k:=g) rfl
  rw [e,c2] at c1
  injection c1 with c1
  injection c1 with _ c1
  exact absurd c1 (by decide)
 ·rcases setKV_at hz with ⟨e1,e2,-⟩ | ⟨hj,q1⟩
  ·subst e1 e2
   rcases hq with hq | hq
   ·exact h.sk _ x q hx (.inl hq)
   ·exact (hf q hq).2
  ·exact h.sk j z q q1 hq
/- the memory behind a store: the rest of the machine stays -/
theorem MQ0.sto {w w' : World} {B gO cO k : Nat} {vc vk vt : Value} {LC : List CV} {LK : List KV} {S : List RS} {d : MD} {r r' : RS} {lr : List WD} {m' : List (List WD)} (h : MQ0 w B vc vk (.slice (some ⟨gO, 0, none⟩) d.mem.length cO) vt LC LK S d) (hk : S[k]? = some r) (hlm : d.mem[k]? = some lr) (hm : OW w' B (.slice (some ⟨gO, 0, none⟩) d.mem.length cO) (S.set k r') m')
  (hf:∀ b,b < w.heap.size→b≠gO→r.val.ownBlock≠some b→w'.heap[b]? =w.heap[b]?) (hp:∀ a∈mAs (S.set k r'),(∃ a'∈mAs S,a'.block=a.block)∨w.heap.size≤a.block):MQ0 w' B vc vk (.slice (some ⟨gO,0,none⟩) d.mem.length cO) vt LC LK (S.set k r') { d with mem:=m' }:=by
 have hro:=(h.m.r k r lr hk hlm).own
 have ne:∀ {e:TypeId} {size n:Nat} {u:Value} {xs:List Value},w.ownsRow B e size u n xs→e≠101→e≠100→∀ q,u.ownBlock=some q→w'.heap[q]? =w.heap[q]? :=fun hu h1 h2 q hq=>hf q (World.ownsRow.lt hu _ hq).2 (fun e=>ownType' hu h.m.row h1 hq (by rw [e];rfl)) (ownType' hu hro h2 hq)
 refine ⟨⟨ownKeep' h.c.row (ne h.c.row (by decide) (by decide)),fun i x hx=>ownKeep' (h.c.inn i x hx) (ne (h.c.inn i x hx) (by decide) (by decide)),h.c.sep⟩,h.ec,⟨ownKeep' h.k.row (ne h.k.row (by decide) (by decide)),fun i x hx=>⟨ownKeep' (h.k.inn i x hx).1 (ne (h.k.inn i x hx).1 (by decide) (by decide)),ownKeep' (h.k.inn i x hx).2 (ne (h.k.inn i x hx).2 (by decide) (by decide))⟩,h.k.two,h.k.sep⟩,h.ek,hm,ownKeep' h.t (ne h.t (by decide) (by decide)),fun i x q hx hq a ha e=>?_⟩
 rcases hp a ha with ⟨a',ha',e'⟩ | hlt
 ·exact h.sk i x q hx hq a' ha' (e'.trans e)
 ·have:q < w.heap.size:=by
   rcases hq with hq | hq
   ·exact (World.ownsRow.lt (h.k.inn i x hx).1 _ hq).2
   ·exact (World.ownsRow.lt (h.k.inn i x hx).2 _ hq).2
  omega
theorem HitQ.set {P:Nat→Prop} {vc vk vm vt:Value} {LC:List CV} {LK:List KV} {S:List RS} (h:HitQ P vc vk vm vt LC LK S) (i:Nat) (y:KV) (hy:∀ q,(y.r.ownBlock=some q∨y.v.ownBlock=some q)→P q):HitQ P vc vk vm vt LC (LK.set i y) S:=
 ⟨h.c,h.ci,h.k,fun j z q hz hq=>by
  rcases setKV_at hz with ⟨-,rfl,-⟩ | ⟨-,hz⟩
  ·exact hy q hq
  ·exact h.ki j z q hz hq,h.m,h.mi,h.t⟩
theorem HitQ.same {P:Nat→Prop} {vc vk vm vt:Value} {LC:List CV} {LK:List KV} {S:List RS} {i:Nat} {x:KV} (h:HitQ P vc vk vm vt LC LK S) (hx:LK[i]? =some x) (k:KD):HitQ P vc vk vm vt LC (LK.set i ⟨k,x.r,x.v⟩) S:=h.set i _ (fun q hq=>h.ki i x q hx hq)
theorem MQ.setK {Hq : Nat → Prop} {w : World} {B g c : Nat} {vc vm vt : Value} {LC : List CV} {LK : List KV} {S : List RS} {d : MD} (h : MQ w B Hq vc (.slice (some ⟨g, 0, none⟩) LK.length c) vm vt LC LK S d) {i : Nat} {x : KV} (hx : LK[i]? = some x) (z : Int) :
  MQ (w.setCell ⟨g,i * 4,none⟩ (.int .i64 z)) B Hq vc (.slice (some ⟨g,0,none⟩) LK.length c) vm vt LC (LK.set i ⟨{ x.d with pc:=z },x.r,x.v⟩) S (putK d i { x.d with pc:=z })
  ∧MQ (w.setCell ⟨g,i * 4+3,none⟩ (.int .i64 z)) B Hq vc (.slice (some ⟨g,0,none⟩) LK.length c) vm vt LC (LK.set i ⟨{ x.d with st:=z },x.r,x.v⟩) S (putK d i { x.d with st:=z }):=⟨⟨(h.toMQ0.setK hx z).1,h.hh.same hx _,by simpa using h.hn⟩,⟨(h.toMQ0.setK hx z).2,h.hh.same hx _,by simpa using h.hn⟩⟩
theorem MQ.setR {Hq : Nat → Prop} {w : World} {B g c j : Nat} {vc vk vm vt : Value} {LC : List CV} {LK : List KV} {S : List RS} {d : MD} (h : MQ w B Hq vc vk vm vt LC LK S d) {i : Nat} {x : KV} (hx : LK[i]? = some x) (hr : x.r = .slice (some ⟨g, 0, none⟩) x.d.regs.length c) (z : Int) :
  MQ (w.setCell ⟨g,j,none⟩ (.int .i64 z)) B Hq vc vk vm vt LC (LK.set i ⟨{ x.d with regs:=x.d.regs.set j z },x.r,x.v⟩) S (putK d i { x.d with regs:=x.d.regs.set j z }):=⟨h.toMQ0.setR hx hr z,h.hh.same hx _,by simpa using h.hn⟩
theorem MQ.setV {Hq : Nat → Prop} {w : World} {B g c : Nat} {vc vm vt : Value} {LC : List CV} {LK : List KV} {S : List RS} {d : MD} (h : MQ w B Hq vc (.slice (some ⟨g, 0, none⟩) LK.length c) vm vt LC LK S d) {i : Nat} {x : KV} (hx : LK[i]? = some x) (u : Value) (l : List Int) (hu : OwnN w B u l) (hf : ∀ q, u.ownBlock = some q → ((∀ (j : Nat) (z : KV), LK[j]? = some z → ¬ (z.r.ownBlock = some q ∨ z.v.ownBlock = some q)) ∧ ∀ a ∈ mAs S, a.block ≠ q) ∧ Hq q) :
  MQ (w.setCell ⟨g,i * 4+2,none⟩ u) B Hq vc (.slice (some ⟨g,0,none⟩) LK.length c) vm vt LC (LK.set i ⟨{ x.d with vw:=l },x.r,u⟩) S (putK d i { x.d with vw:=l }):=⟨h.toMQ0.setV hx u l hu (fun q hq=>(hf q hq).1),h.hh.set i _ (fun q hq=>hq.elim (fun e=>h.hh.ki i x q hx (.inl e)) (fun e=>(hf q e).2)),by simpa using h.hn⟩
theorem MQ.sto {Hq : Nat → Prop} {w w' : World} {B gO cO k : Nat} {vc vk vt : Value} {LC : List CV} {LK : List KV} {S : List RS} {d : MD} {r r' : RS} {lr : List WD} {m' : List (List WD)} (h : MQ w B Hq vc vk (.slice (some ⟨gO, 0, none⟩) d.mem.length cO) vt LC LK S d) (hk : S[k]? = some r) (hlm : d.mem[k]? = some lr) (hm : OW w' B (.slice (some ⟨gO, 0, none⟩) d.mem.length cO) (S.set k r') m')
  (hf:∀ b,b < w.heap.size→b≠gO→r.val.ownBlock≠some b→w'.heap[b]? =w.heap[b]?) (hp:∀ a∈mAs (S.set k r'),(∃ a'∈mAs S,a'.block=a.block)∨w.heap.size≤a.block) (hz:w.heap.size≤w'.heap.size):MQ w' B Hq vc vk (.slice (some ⟨gO,0,none⟩) d.mem.length cO) vt LC LK (S.set k r') { d with mem:=m' }:=⟨h.toMQ0.sto hk hlm hm hf hp,⟨h.hh.c,h.hh.ci,h.hh.k,h.hh.ki,h.hh.m,fun a ha=>(hp a ha).elim (fun ⟨a',h1,h2⟩=>h2▸h.hh.mi a' h1) (fun e=>h.hn _ e),h.hh.t⟩,fun q hq=>h.hn q (Nat.le_trans hz hq)⟩
end
section
set_option linter.unusedSimpArgs false
set_option linter.unusedVariables false
set_option maxRecDepth 100000
open Go.RowKit
theorem OwnC.go' {w:World} {base:Nat} {v:Value} {L:List CV} (h:OwnC w base v L):∃ s c R,v=.slice s L.length c∧GO w base w.heap.size s TC R (L.map fun x=>codeV x.l)∧∀ a∈gAs s TC.length R 0,∃ (i:Nat) (x:CV),L[i]? =some x∧x.v.ownBlock=some a.block:=by
 rcases Nat.eq_zero_or_pos L.length with h0 | hpos
 ·obtain ⟨s,c,e⟩:=ownSl h.row
  rw [List.length_eq_zero_iff.1 h0]
  rw [h0] at e
  exact ⟨s,c,[],e,GO.nil _ _ _ _ _,fun a ha=>by simp [gAs] at ha⟩
 obtain ⟨g,cap,e,-⟩:=World.ownsRow.form h.row hpos
 have hlt:=World.ownsRow.lt h.row g (by rw [e];rfl)
 have hrow:=h.row
 rw [e] at hrow
 have step:∀ k,k≤L.length→∃ R,GO w base w.heap.size (some ⟨g,0,none⟩) TC R ((L.take k).map fun x=>codeV x.l)∧∀ a∈gAs (some ⟨g,0,none⟩) TC.length R 0,∃ (i:Nat) (x:CV),i < k∧L[i]? =some x∧x.v.ownBlock=some a.block:=by
  intro k
  induction k with
  | zero=>intro _;exact ⟨[],GO.nil _ _ _ _ _,fun a ha=>by simp [gAs] at ha⟩
  | succ k ih=>
   intro hk
   obtain ⟨R,hR,hA⟩:=ih (by omega)
   obtain ⟨x,hx⟩:∃ x,L[k]? =some x:=⟨_,List.getElem?_eq_getElem (by omega)⟩
   obtain ⟨s,c,ev,vo⟩:=own_vo (h.inn k x hx) (fl5_len x.l)
   have tl:((L.take k).map fun x=>codeV x.l).length=k:=by simp;omega
   have ow:∀ a∈vAs ((⟨s,x.l.length,c⟩:VS).wide 5),x.v.ownBlock=some a.block:=fun a ha=>by rw [ev];exact vo.own ha
   refine ⟨R++[[.r ⟨s,x.l.length,c⟩ 5]],?_,fun a ha=>?_⟩
   ·have et:(L.take (k+1)).map (fun x=>codeV x.l)=(L.take k).map (fun x=>codeV x.l)++[codeV x.l]:=by rw [List.take_add_one,hx];simp
    rw [et]
    refine GO.push _ _ hR ⟨_,_,rfl⟩ rfl rfl (fun _ _ _ _ _ _ _ _ _ _ hf=>hf) (fun j f u hf hu=>?_) (fun x' e' hx' a ha g' o' hg'=>?_) ?_ (fun a ha ha'=>?_)
    ·match j,hf,hu with
     | 0,hf,hu=>
      simp at hf
      simp [codeV] at hu
      subst hf hu
      rw [tl]
      refine ⟨?_,⟨hlt.1,hlt.2⟩,vo⟩
      have q:=World.ownsRow.cellAt hrow k (by omega)
      rw [List.getElem?_map,hx] at q
      simp only [Option.map_some] at q
      rw [ev] at q
      simpa [adr,TC] using q
    ·simp at hx'
     obtain ⟨rfl,rfl⟩:=hx'
     injection hg' with hg'
     injection hg' with hg'
     intro eb
     refine ownType' (h.inn k x hx) hrow (by decide) (ow a ha) ?_
     rw [eb,← hg']
     rfl
    ·simp only [recAs,fAs,List.append_nil]
     exact vo.nodup
    ·simp only [recAs,fAs,List.append_nil] at ha'
     obtain ⟨i,z,hi,hz,hb⟩:=hA a ha
     exact h.sep i k z x _ hz hx (by omega) hb (ow a ha')
   ·rw [gAs_append] at ha
    rcases List.mem_append.1 ha with ha | ha
    ·obtain ⟨i,z,hi,hz,hb⟩:=hA a ha
     exact ⟨i,z,by omega,hz,hb⟩
    ·simp only [gAs,recAs,fAs,List.append_nil] at ha
     exact ⟨k,x,by omega,hx,ow a ha⟩
 obtain ⟨R,hR,hA⟩:=step L.length (Nat.le_refl _)
 rw [List.take_length] at hR
 exact ⟨some ⟨g,0,none⟩,cap,R,e,hR,fun a ha=>by obtain ⟨i,x,-,h1,h2⟩:=hA a ha;exact ⟨i,x,h1,h2⟩⟩
def TyB (w:World) (b:Nat) (t:TypeId):Prop:=∃ cs f,w.heap[b]? =some (.cells cs t f)
theorem TyB.ne {w:World} {b:Nat} {t t':TypeId} (h:TyB w b t) (h':TyB w b t'):t=t':=by
 obtain ⟨cs,f,c⟩:=h
 obtain ⟨cs',f',c'⟩:=h'
 rw [c] at c'
 injection c' with c'
 injection c' with _ c'
theorem OW.ty {w:World} {B:Nat} {v:Value} {S:List RS} {m:List (List WD)} (h:OW w B v S m) {a:Addr} (ha:a∈mAs S):TyB w a.block 100∨TyB w a.block 3:=by
 obtain ⟨r,hr,har⟩:=mem_mAs.1 ha
 obtain ⟨i,hi,e⟩:=List.getElem_of_mem hr
 have hr':S[i]? =some r:=by rw [List.getElem?_eq_getElem hi,e]
 obtain ⟨l,hl⟩:=at_same h.n.symm hr'
 have q:=h.r i r l hr' hl
 rcases mem_rAs.1 har with ⟨j,hj,rfl⟩ | ⟨x,hx,hax⟩
 ·left
  rcases q.ro.c with e0 | ⟨g,o,es,-⟩
  ·have:=q.n
   rw [e0] at this
   simp at this
   rw [this] at hj
   simp at hj
  ·rw [es]
   exact own_ty q.own (by rw [RS.val,es];rfl)
 ·right
  exact q.vt a (mem_vsA.2 ⟨x,hx,hax⟩)
theorem MQ0.mo {w:World} {B:Nat} {vc vk vm vt:Value} {LC:List CV} {LK:List KV} {S:List RS} {d:MD} (h:MQ0 w B vc vk vm vt LC LK S d):∃ p:MP,vc=.slice p.s1 d.codes.length p.c1∧vk=.slice p.s2 d.cores.length p.c2∧vm=.slice p.s3 d.mem.length p.c3∧vt=.slice p.s4 d.tr.length p.c4∧MaO w B w.heap.size p d∧∀ (P:Nat→Prop),HitQ P vc vk vm vt LC LK S→∀ a∈p.as d,P a.block:=by
 obtain ⟨s1,c1,RC,e1,g1,a1⟩:=h.c.go'
 obtain ⟨s2,c2,RK,e2,g2,a2⟩:=h.k.go
 obtain ⟨s3,c3,e3,m3⟩:=h.m.om.mo
 obtain ⟨s4,c4,e4⟩:=ownSl h.t
 have l1:LC.length=d.codes.length:=by have:=congrArg List.length h.ec;simpa using this
 have l2:LK.length=d.cores.length:=by have:=congrArg List.length h.ek;simpa using this
 have q1:GO w B w.heap.size s1 TC RC (d.codes.map codeV):=by
  rw [← h.ec,List.map_map]
  exact g1
 have q2:GO w B w.heap.size s2 TK RK (d.cores.map coreV):=by
  rw [← h.ek,List.map_map]
  exact g2
 have ht:=h.t
 rw [e4] at ht
 have v4:=OwnD.vo ht rfl
 rw [l1] at e1
 rw [l2] at e2
 have t1:∀ a∈gAs s1 TC.length RC 0,TyB w a.block 65:=fun a ha=>by
  obtain ⟨i,x,hx,hb⟩:=a1 a ha
  exact own_ty (h.c.inn i x hx) hb
 have t2:∀ a∈gAs s2 TK.length RK 0,TyB w a.block 42∨(TyB w a.block 3∧∀ b∈mAs S,b.block≠a.block):=fun a ha=>by
  rcases a2 a ha with hb | ⟨i,x,hx,hb⟩
  ·exact .inl (own_ty h.k.row hb)
  ·refine .inr ⟨?_,fun b hb'=>h.sk i x _ hx hb b hb'⟩
   rcases hb with hb | hb
   ·exact own_ty (h.k.inn i x hx).1 hb
   ·exact own_ty (h.k.inn i x hx).2 hb
 have t4:∀ a∈vAs ((⟨s4,d.tr.length,c4⟩:VS).wide 2),TyB w a.block 96:=fun a ha=>own_ty ht (v4.own ha)
 refine ⟨⟨s1,c1,RC,s2,c2,RK,s3,c3,S,s4,c4⟩,e1,e2,e3,e4,⟨q1,q2,m3,v4,?_⟩,fun P hP a ha=>?_⟩
 unfold MP.as
 refine List.nodup_append.2 ⟨q1.d,List.nodup_append.2 ⟨q2.d,List.nodup_append.2 ⟨m3.d,v4.nodup,fun a ha b hb e=>?_⟩,fun a ha b hb e=>?_⟩,fun a ha b hb e=>?_⟩
 ·subst e
  rcases h.m.ty ha with q | q
  ·exact absurd (q.ne (t4 a hb)) (by decide)
  ·exact absurd (q.ne (t4 a hb)) (by decide)
 ·subst e
  rcases List.mem_append.1 hb with hb | hb
  ·rcases t2 a ha with q | ⟨q,hs⟩
   ·rcases h.m.ty hb with q' | q'
    ·exact absurd (q.ne q') (by decide)
    ·exact absurd (q.ne q') (by decide)
   ·exact hs a hb rfl
  ·rcases t2 a ha with q | ⟨q,-⟩
   ·exact absurd (q.ne (t4 a hb)) (by decide)
   ·exact absurd (q.ne (t4 a hb)) (by decide)
 ·subst e
  have q:=t1 a ha
  rcases List.mem_append.1 hb with hb | hb
  ·rcases t2 a hb with q' | ⟨q',-⟩
   ·exact absurd (q.ne q') (by decide)
   ·exact absurd (q.ne q') (by decide)
  ·rcases List.mem_append.1 hb with hb | hb
   ·rcases h.m.ty hb with q' | q'
    ·exact absurd (q.ne q') (by decide)
    ·exact absurd (q.ne q') (by decide)
   ·exact absurd (q.ne (t4 a hb)) (by decide)
 ·unfold MP.as at ha
  rcases List.mem_append.1 ha with ha | ha
  ·obtain ⟨i,x,hx,hb⟩:=a1 a ha
   exact hP.ci i x _ hx hb
  rcases List.mem_append.1 ha with ha | ha
  ·rcases a2 a ha with hb | ⟨i,x,hx,hb⟩
   ·exact hP.k _ hb
   ·exact hP.ki i x _ hx hb
  rcases List.mem_append.1 ha with ha | ha
  ·exact hP.mi a ha
  ·exact hP.t _ (by rw [e4];exact v4.own ha)
end
section
set_option linter.unusedSimpArgs false
set_option linter.unusedVariables false
set_option maxRecDepth 100000
open Go.RowKit
structure Op8 (w:World) (B:Nat) (vc vk vm vt:Value) (LK:List KV) (d:MD) (who p:Nat) (k:KD) (code:List I5) (s:I5) (gc cc gk ck gs cs gr cr gv cv gO cO:Nat) (st:Option Addr) (ct:Nat):Prop where
 ec:vc=.slice (some ⟨gc,0,none⟩) d.codes.length cc
 ek:vk=.slice (some ⟨gk,0,none⟩) LK.length ck
 em:vm=.slice (some ⟨gO,0,none⟩) d.mem.length cO
 et:vt=.slice st d.tr.length ct
 hx:LK[who]? =some ⟨k,.slice (some ⟨gr,0,none⟩) 8 cr,.slice (some ⟨gv,0,none⟩) 24 cv⟩
 hp:k.pc=p
 wc:who < d.codes.length
 wk:who < LK.length
 c0:w.cell? ⟨gc,who,none⟩=some (.slice (some ⟨gs,0,none⟩) code.length cs)
 k0:w.cell? ⟨gk,who * 4,none⟩=some (.int .i64 k.pc)
 k1:w.cell? ⟨gk,who * 4+1,none⟩=some (.slice (some ⟨gr,0,none⟩) 8 cr)
 k2:w.cell? ⟨gk,who * 4+2,none⟩=some (.slice (some ⟨gv,0,none⟩) 24 cv)
 k3:w.cell? ⟨gk,who * 4+3,none⟩=some (.int .i64 k.st)
 s0:w.cell? ⟨gs,p * 5,none⟩=some (.int .i64 s.o)
 s1:w.cell? ⟨gs,p * 5+1,none⟩=some (.int .i64 s.r)
 s2:w.cell? ⟨gs,p * 5+2,none⟩=some (.int .i64 s.a)
 s3:w.cell? ⟨gs,p * 5+3,none⟩=some (.int .i64 s.b)
 s4:w.cell? ⟨gs,p * 5+4,none⟩=some (.int .i64 s.n)
 r:∀ i,i < 8→w.cell? ⟨gr,i,none⟩=some (.int .i64 (k.regs.getD i 0))
 fk:∀ j,w.frozen? ⟨gk,j,none⟩=false
 fr:∀ j,w.frozen? ⟨gr,j,none⟩=false
 zc:gc < w.heap.size
 zk:gk < w.heap.size
 zs:gs < w.heap.size
 zr:gr < w.heap.size
 zv:gv < w.heap.size
 zO:gO < w.heap.size
 bk:B≤gk
 br:B≤gr
 bv:B≤gv
 bO:B≤gO
theorem MQ0.open {w : World} {B : Nat} {vc vk vm vt : Value} {LC : List CV} {LK : List KV} {S : List RS} {d : MD} {who : Nat} {k : KD} {code : List I5} {s : I5} (h : MQ0 w B vc vk vm vt LC LK S d) (ha : At8 d who k code s) :
  ∃ p gc cc gk ck gs cs gr cr gv cv gO cO st ct,Op8 w B vc vk vm vt LK d who p k code s gc cc gk ck gs cs gr cr gv cv gO cO st ct:=by
 have hp0:=ha.pc0
 have hpl:=ha.pcl
 have hn1:=ha.n1
 obtain ⟨p,hp⟩:∃ p:Nat,k.pc=p:=⟨k.pc.toNat,by omega⟩
 have wcl:who < d.codes.length:=(List.getElem?_eq_some_iff.1 ha.hc).1
 have wkl:who < d.cores.length:=(List.getElem?_eq_some_iff.1 ha.hk).1
 have lc:LC.length=d.codes.length:=by rw [← h.ec,List.length_map]
 have lk:LK.length=d.cores.length:=by rw [← h.ek,List.length_map]
 obtain ⟨x,hx⟩:∃ x,LK[who]? =some x:=⟨_,List.getElem?_eq_getElem (by omega)⟩
 have ex:x.d=k:=by
  have q:=ha.hk
  rw [← h.ek,List.getElem?_map,hx] at q
  simpa using q
 obtain ⟨y,hy⟩:∃ y,LC[who]? =some y:=⟨_,List.getElem?_eq_getElem (by omega)⟩
 have ey:y.l=code:=by
  have q:=ha.hc
  rw [← h.ec,List.getElem?_map,hy] at q
  simpa using q
 have hrk:=h.k.row
 have hrc:=h.c.row
 rw [lc] at hrc
 obtain ⟨gc,cc,hvc,-⟩:=World.ownsRow.form hrc (by omega)
 obtain ⟨gk,ck,hvk,-⟩:=World.ownsRow.form hrk (by omega)
 subst hvc
 subst hvk
 have ho:=h.c.inn who y hy
 unfold OwnT5 at ho
 rw [ey] at ho
 obtain ⟨gs,cs,hvs,-⟩:=World.ownsRow.form ho (by omega)
 have ho':=ho
 rw [hvs] at ho'
 obtain ⟨hr1,hr2⟩:=h.k.inn who x hx
 rw [ex] at hr1 hr2
 have hr8:=ha.regs
 have hv24:k.vw.length=24:=by
  have q:=ha.vw
  rw [viewB_iff] at q
  have m:=(memB_at ha.mem (i:=0) (by omega)).1
  omega
 obtain ⟨gr,cr,hvr,-⟩:=World.ownsRow.form hr1 (by omega)
 obtain ⟨gv,cv,hvv,-⟩:=World.ownsRow.form hr2 (by omega)
 have hr1':=hr1
 have hr2':=hr2
 unfold OwnN at hr1' hr2'
 rw [hvr] at hr1'
 rw [hvv] at hr2'
 have m24:=(memB_at ha.mem (i:=0) (by omega)).1
 have hrm:=h.m.row
 rw [h.m.n] at hrm
 obtain ⟨gO,cO,hvO,-⟩:=World.ownsRow.form hrm (by omega)
 obtain ⟨st,ct,hvt⟩:=ownSl h.t
 obtain ⟨f0,f1,f2,f3⟩:=flatK_at LK who x hx
 rw [hvO] at hrm
 obtain ⟨e0,e1,e2,e3,e4⟩:=fl5_at code p s (by have q:=ha.hs;rw [hp,Int.toNat_natCast] at q;exact q)
 have q5:∀ j,j < 5→w.cell? ⟨gs,p * 5+j,none⟩=((fl5 code).map (Value.int .i64))[p * 5+j]? :=fun j hj=>World.ownsRow.cellAt ho' _ (by omega)
 rw [hr8] at hvr hr1'
 rw [hv24] at hvv hr2'
 refine ⟨p,gc,cc,gk,ck,gs,cs,gr,cr,gv,cv,gO,cO,st,ct,rfl,rfl,hvO,hvt,?_,hp,wcl,by omega,?_,?_,?_,?_,?_,?_,?_,?_,?_,?_,?_,fun j=>World.ownsRow.frozenAt hrk j,fun j=>World.ownsRow.frozenAt hr1' j,(World.ownsRow.lt hrc gc rfl).2,(World.ownsRow.lt hrk gk rfl).2,(World.ownsRow.lt ho' gs rfl).2,(World.ownsRow.lt hr1' gr rfl).2,(World.ownsRow.lt hr2' gv rfl).2,(World.ownsRow.lt hrm gO rfl).2,(World.ownsRow.lt hrk gk rfl).1,(World.ownsRow.lt hr1' gr rfl).1,(World.ownsRow.lt hr2' gv rfl).1,(World.ownsRow.lt hrm gO rfl).1⟩
 ·rw [hx,← ex,← hvr,← hvv]
 ·rw [World.ownsRow.cellAt hrc _ (by omega),List.getElem?_map,hy,← hvs];rfl
 ·rw [World.ownsRow.cellAt hrk _ (by omega),f0,ex]
 ·rw [World.ownsRow.cellAt hrk _ (by omega),f1,hvr]
 ·rw [World.ownsRow.cellAt hrk _ (by omega),f2,hvv]
 ·rw [World.ownsRow.cellAt hrk _ (by omega),f3,ex]
 ·have q:=q5 0 (by omega)
  rw [Nat.add_zero,List.getElem?_map,e0] at q
  exact q
 ·rw [q5 1 (by omega),List.getElem?_map,e1];rfl
 ·rw [q5 2 (by omega),List.getElem?_map,e2];rfl
 ·rw [q5 3 (by omega),List.getElem?_map,e3];rfl
 ·rw [q5 4 (by omega),List.getElem?_map,e4];rfl
 ·intro i hi
  rw [hvr,← hr8] at hr1
  exact OwnN.cell hr1 (by omega)
/- the boxes of a step: machine, pick, answer, core, step -/
structure Bx5 (V:World) (z:Nat) (m0 m1 m2 m3 x0 x1 k0 k1 k2 k3 s0 s1 s2 s3 s4:Value):Prop where
 m0:V.cell? ⟨z,0,none⟩=some m0
 m1:V.cell? ⟨z,1,none⟩=some m1
 m2:V.cell? ⟨z,2,none⟩=some m2
 m3:V.cell? ⟨z,3,none⟩=some m3
 x0:V.cell? ⟨z+1,0,none⟩=some x0
 x1:V.cell? ⟨z+1,1,none⟩=some x1
 a0:V.cell? ⟨z+1+1,0,none⟩=some (.slice none 0 0)
 a1:V.cell? ⟨z+1+1,1,none⟩=some (.slice none 0 0)
 a2:V.cell? ⟨z+1+1,2,none⟩=some (.slice none 0 0)
 a3:V.cell? ⟨z+1+1,3,none⟩=some (.slice none 0 0)
 k0:V.cell? ⟨z+1+1+1,0,none⟩=some k0
 k1:V.cell? ⟨z+1+1+1,1,none⟩=some k1
 k2:V.cell? ⟨z+1+1+1,2,none⟩=some k2
 k3:V.cell? ⟨z+1+1+1,3,none⟩=some k3
 s0:V.cell? ⟨z+1+1+1+1,0,none⟩=some s0
 s1:V.cell? ⟨z+1+1+1+1,1,none⟩=some s1
 s2:V.cell? ⟨z+1+1+1+1,2,none⟩=some s2
 s3:V.cell? ⟨z+1+1+1+1,3,none⟩=some s3
 s4:V.cell? ⟨z+1+1+1+1,4,none⟩=some s4
 fm:∀ j,V.frozen? ⟨z,j,none⟩=false
 fa:∀ j,V.frozen? ⟨z+1+1,j,none⟩=false
 z:z+1+1+1+1 < V.heap.size
theorem Bx5.keep {V V':World} {z:Nat} {m0 m1 m2 m3 x0 x1 k0 k1 k2 k3 s0 s1 s2 s3 s4:Value} (h:Bx5 V z m0 m1 m2 m3 x0 x1 k0 k1 k2 k3 s0 s1 s2 s3 s4) (hb:∀ b,z≤b→b < V.heap.size→V'.heap[b]? =V.heap[b]?) (hs:V.heap.size≤V'.heap.size):Bx5 V' z m0 m1 m2 m3 x0 x1 k0 k1 k2 k3 s0 s1 s2 s3 s4:=by
 have hz:=h.z
 have c0:∀ j,V'.cell? ⟨z,j,none⟩=V.cell? ⟨z,j,none⟩:=fun j=>World.cell?_of_block (hb z (by omega) (by omega))
 have c1:∀ j,V'.cell? ⟨z+1,j,none⟩=V.cell? ⟨z+1,j,none⟩:=fun j=>World.cell?_of_block (hb (z+1) (by omega) (by omega))
 have c2:∀ j,V'.cell? ⟨z+1+1,j,none⟩=V.cell? ⟨z+1+1,j,none⟩:=fun j=>World.cell?_of_block (hb (z+1+1) (by omega) (by omega))
 have c3:∀ j,V'.cell? ⟨z+1+1+1,j,none⟩=V.cell? ⟨z+1+1+1,j,none⟩:=fun j=>World.cell?_of_block (hb (z+1+1+1) (by omega) (by omega))
 have c4:∀ j,V'.cell? ⟨z+1+1+1+1,j,none⟩=V.cell? ⟨z+1+1+1+1,j,none⟩:=fun j=>World.cell?_of_block (hb (z+1+1+1+1) (by omega) (by omega))
 exact ⟨(c0 _).trans h.m0,(c0 _).trans h.m1,(c0 _).trans h.m2,(c0 _).trans h.m3,(c1 _).trans h.x0,(c1 _).trans h.x1,(c2 _).trans h.a0,(c2 _).trans h.a1,(c2 _).trans h.a2,(c2 _).trans h.a3,(c3 _).trans h.k0,(c3 _).trans h.k1,(c3 _).trans h.k2,(c3 _).trans h.k3,(c4 _).trans h.s0,(c4 _).trans h.s1,(c4 _).trans h.s2,(c4 _).trans h.s3,(c4 _).trans h.s4,fun j=>(World.frozen?_of_block (hb z (by omega) (by omega))).trans (h.fm j),fun j=>(World.frozen?_of_block (hb (z+1+1) (by omega) (by omega))).trans (h.fa j),by omega⟩
theorem boxes5 {w W V : World} {m0 m1 m2 m3 x0 x1 k0 k1 k2 k3 s0 s1 s2 s3 s4 : Value} {T0 T1 T2 T3 T4 : TypeId}
  (hW:(((w.alloc (.cells #[m0,m1,m2,m3] T0)).alloc (.cells #[x0,x1] T1)).alloc (.cells #[.slice none 0 0,.slice none 0 0,.slice none 0 0,.slice none 0 0] T2)).alloc (.cells #[k0,k1,k2,k3] T3)=W) (hV:(W.alloc (.cells #[s0,s1,s2,s3,s4] T4)).drew=V):
  Bx5 V w.heap.size m0 m1 m2 m3 x0 x1 k0 k1 k2 k3 s0 s1 s2 s3 s4∧Below w.heap.size w V:=by
 have zW:W.heap.size=w.heap.size+1+1+1+1:=by subst hW;simp
 have kW:Below w.heap.size w W:=by
  subst hW
  exact ((((Below.refl _ _).alloc (Nat.le_refl _) _).alloc (by simp) _).alloc (by simp;omega) _).alloc (by simp;omega) _
 have kV:Below W.heap.size W V:=by subst hV;exact Below.drew ((Below.refl _ _).alloc (Nat.le_refl _) _)
 have cV:∀ b j,b < W.heap.size→V.cell? ⟨b,j,none⟩=W.cell? ⟨b,j,none⟩:=fun b j hb=>kV.cell (p:=⟨b,j,none⟩) hb
 have fV:∀ b j,b < W.heap.size→V.frozen? ⟨b,j,none⟩=W.frozen? ⟨b,j,none⟩:=fun b j hb=>kV.frozen (p:=⟨b,j,none⟩) hb
 refine ⟨⟨?_,?_,?_,?_,?_,?_,?_,?_,?_,?_,?_,?_,?_,?_,?_,?_,?_,?_,?_,fun j=>?_,fun j=>?_,?_⟩,kW.trans (kV.mono (by omega))⟩
 any_goals (refine (cV _ _ (by omega)).trans ?_;subst hW;simp [go_sem];done)
 any_goals (refine (fV _ _ (by omega)).trans ?_;subst hW;simp [go_sem];done)
 any_goals (rw [← zW];subst hV;show (W.alloc _).cell? _=_;simp [go_sem];done)
 rw [← zW]
 subst hV
 show W.heap.size < (W.alloc _).heap.size
 simp
end
section
set_option linter.unusedSimpArgs false
set_option linter.unusedVariables false
set_option maxRecDepth 100000
open Go.RowKit
theorem hidS {p:Prop} (h:p):Hid p:=h
def StepQ (w:World) (B:Nat) (Hq:Nat→Prop) (x:MD×Int) (e:Ending) (w':World):Prop:=∃ vc vk vm vt LC LK S,e=.returned (.tuple #[.agg #[vc,vk,vm,vt],.int .i64 x.2])∧MQ w' B Hq vc vk vm vt LC LK S x.1∧Below B w w'
theorem heap_pair {w V:World} {b g j:Nat} {u:Value} (h:V.heap[b]? =w.heap[b]?):(V.setCell ⟨g,j,none⟩ u).heap[b]? =(w.setCell ⟨g,j,none⟩ u).heap[b]? :=by
 simp only [World.setCell,Array.getElem?_modify,h]
theorem putK_putK (d:MD) (who:Nat) (a b:KD):putK (putK d who a) who b=putK d who b:=by
 unfold putK
 simp only [List.set_set]
theorem goM_put (d:MD) (who:Nat) (a k:KD) (n:Nat) (p:Int):goM (putK d who a) who k n p=goM d who k n p:=by
 unfold goM
 rw [putK_putK,putK_putK]
theorem MQ.reg {Hq : Nat → Prop} {w : World} {B gr cr who : Nat} {vc vk vm vt v : Value} {LC : List CV} {LK : List KV} {S : List RS} {d : MD} {k : KD} (h : MQ w B Hq vc vk vm vt LC LK S d) (hx : LK[who]? = some ⟨k, .slice (some ⟨gr, 0, none⟩) 8 cr, v⟩) (h8 : k.regs.length = 8) (j : Nat) (z : Int) :
  MQ (w.setCell ⟨gr,j,none⟩ (.int .i64 z)) B Hq vc vk vm vt LC (LK.set who ⟨{ k with regs:=k.regs.set j z },.slice (some ⟨gr,0,none⟩) 8 cr,v⟩) S (putK d who { k with regs:=k.regs.set j z }):=
 MQ.setR h hx (by show _=_;rw [h8]) z
theorem MQ.go {Hq : Nat → Prop} {w F : World} {B gk ck N who n : Nat} {vc vm vt r v : Value} {LC : List CV} {LK : List KV} {S : List RS} {d : MD} {k : KD} (h : MQ w B Hq vc (.slice (some ⟨gk, 0, none⟩) N ck) vm vt LC LK S d) (hN : LK.length = N) (hx : LK[who]? = some ⟨k, r, v⟩) (p : Int) (hp : p < (n : Int)) (hF : ∀ b, b < w.heap.size → F.heap[b]? = (w.setCell ⟨gk, who * 4, none⟩ (.int .i64 p)).heap[b]?) (hs : w.heap.size ≤ F.heap.size) :
  ∃ LK',MQ F B Hq vc (.slice (some ⟨gk,0,none⟩) N ck) vm vt LC LK' S (goM d who k n p):=by
 subst hN
 unfold goM
 rw [if_pos hp]
 exact ⟨_,(MQ.setK h hx p).1.keep (fun b _ hb=>hF b (by simpa using hb)) (by simpa using hs)⟩
theorem MQ.st {Hq : Nat → Prop} {w F : World} {B gk ck N who : Nat} {vc vm vt r v : Value} {LC : List CV} {LK : List KV} {S : List RS} {d : MD} {k : KD} (h : MQ w B Hq vc (.slice (some ⟨gk, 0, none⟩) N ck) vm vt LC LK S d) (hN : LK.length = N) (hx : LK[who]? = some ⟨k, r, v⟩) (z : Int) (hF : ∀ b, b < w.heap.size → F.heap[b]? = (w.setCell ⟨gk, who * 4 + 3, none⟩ (.int .i64 z)).heap[b]?) (hs : w.heap.size ≤ F.heap.size) :
  ∃ LK',MQ F B Hq vc (.slice (some ⟨gk,0,none⟩) N ck) vm vt LC LK' S (putK d who { k with st:=z }):=by
 subst hN
 exact ⟨_,(MQ.setK h hx z).2.keep (fun b _ hb=>hF b (by simpa using hb)) (by simpa using hs)⟩
theorem MQ.no {Hq : Nat → Prop} {w F : World} {B gk ck N who n : Nat} {vc vm vt r v : Value} {LC : List CV} {LK : List KV} {S : List RS} {d : MD} {k : KD} (h : MQ w B Hq vc (.slice (some ⟨gk, 0, none⟩) N ck) vm vt LC LK S d) (hN : LK.length = N) (hx : LK[who]? = some ⟨k, r, v⟩) (p : Int) (hp : ¬ p < (n : Int)) (hF : ∀ b, b < w.heap.size → F.heap[b]? = (w.setCell ⟨gk, who * 4 + 3, none⟩ (.int .i64 2)).heap[b]?) (hs : w.heap.size ≤ F.heap.size) :
  ∃ LK',MQ F B Hq vc (.slice (some ⟨gk,0,none⟩) N ck) vm vt LC LK' S (goM d who k n p):=by
 unfold goM
 rw [if_neg hp]
 exact h.st hN hx 2 hF hs
theorem set_at {L:List KV} {i:Nat} {x y:KV} (h:L[i]? =some x):(L.set i y)[i]? =some y:=by
 have:=(List.getElem?_eq_some_iff.1 h).1
 rw [List.getElem?_set_self this]
theorem Op8.ne {Hq : Nat → Prop} {w : World} {B : Nat} {vc vk vm vt : Value} {LC : List CV} {LK : List KV} {S : List RS} {d : MD} {who p : Nat} {k : KD} {code : List I5} {s : I5} {gc cc gk ck gs cs gr cr gv cv gO cO : Nat} {st : Option Addr} {ct : Nat} (h : MQ w B Hq vc vk vm vt LC LK S d) (o : Op8 w B vc vk vm vt LK d who p k code s gc cc gk ck gs cs gr cr gv cv gO cO st ct) :
  gr≠gc∧gr≠gk∧gr≠gO∧gr≠gv∧gk≠gc∧gk≠gO∧gc≠gO∧gv≠gk∧gv≠gc∧gv≠gO:=by
 have hr:=(h.k.inn who _ o.hx).1
 have hv:=(h.k.inn who _ o.hx).2
 have hk:=h.k.row
 have hc:=h.c.row
 have hm:=h.m.row
 have e1:(Value.slice (some ⟨gr,0,none⟩) 8 cr).ownBlock=some gr:=rfl
 have e2:(Value.slice (some ⟨gv,0,none⟩) 24 cv).ownBlock=some gv:=rfl
 have e3:vk.ownBlock=some gk:=by rw [o.ek];rfl
 have e4:vc.ownBlock=some gc:=by rw [o.ec];rfl
 have e5:vm.ownBlock=some gO:=by rw [o.em];rfl
 refine ⟨fun e=>?_,fun e=>?_,fun e=>?_,fun e=>?_,fun e=>?_,fun e=>?_,fun e=>?_,fun e=>?_,fun e=>?_,fun e=>?_⟩
 ·exact ownType' hr hc (by decide) e1 (e▸e4)
 ·exact ownType' hr hk (by decide) e1 (e▸e3)
 ·exact ownType' hr hm (by decide) e1 (e▸e5)
 ·exact h.k.two who _ gr o.hx e1 (e▸e2)
 ·exact ownType' hk hc (by decide) e3 (e▸e4)
 ·exact ownType' hk hm (by decide) e3 (e▸e5)
 ·exact ownType' hc hm (by decide) e4 (e▸e5)
 ·exact ownType' hv hk (by decide) e2 (e▸e3)
 ·exact ownType' hv hc (by decide) e2 (e▸e4)
 ·exact ownType' hv hm (by decide) e2 (e▸e5)
def bitNx128 (b:Bool):Int:=if b=true then 1 else 0
theorem l4Bit_anyx128 (b:Bool) (w:World):Calls Tryz.prog 42 #[.bool b] w fun e w'=>e=.returned (.int .i64 (bitNx128 b))∧w'=w:=by
 cases b
 all_goals
  go_enter Tryz.func42,Tryz.ntmps42
  go_wp2
  go_ret
  exact ⟨rfl,rfl⟩
theorem stepAt1 (d:MD) (who:Nat) (late:Int) (k:KD) (n:Nat) (s:I5) (h:s.o=1):stepAt d who late k n s=(goM d who (setR k s.r s.n) n (k.pc+1),0):=by
 unfold stepAt
 rw [if_pos h]
theorem stepAt2 (d:MD) (who:Nat) (late:Int) (k:KD) (n:Nat) (s:I5) (h:s.o=2):stepAt d who late k n s=(goM d who (setR k s.r (wI (regA k s.a+regA k s.b))) n (k.pc+1),0):=by
 unfold stepAt
 rw [if_neg (by rw [h];decide)]
 rw [if_pos h]
theorem stepAt3 (d:MD) (who:Nat) (late:Int) (k:KD) (n:Nat) (s:I5) (h:s.o=3):stepAt d who late k n s=(goM d who (setR k s.r (wI (regA k s.a - regA k s.b))) n (k.pc+1),0):=by
 unfold stepAt
 rw [if_neg (by rw [h];decide)]
 rw [if_neg (by rw [h];decide)]
 rw [if_pos h]
theorem stepAt4 (d:MD) (who:Nat) (late:Int) (k:KD) (n:Nat) (s:I5) (h:s.o=4):stepAt d who late k n s=(goM d who (setR k s.r (if regA k s.a < regA k s.b then 1 else 0)) n (k.pc+1),0):=by
 unfold stepAt
 rw [if_neg (by rw [h];decide)]
 rw [if_neg (by rw [h];decide)]
 rw [if_neg (by rw [h];decide)]
 rw [if_pos h]
theorem stepAt9 (d:MD) (who:Nat) (late:Int) (k:KD) (n:Nat) (s:I5) (h:s.o=9):stepAt d who late k n s=(if d.tr.length=4000 then (d,3) else (goM { d with tr:=d.tr++[⟨who,regA k s.a⟩] } who k n (k.pc+1),0)):=by
 unfold stepAt
 rw [if_neg (by rw [h];decide)]
 rw [if_neg (by rw [h];decide)]
 rw [if_neg (by rw [h];decide)]
 rw [if_neg (by rw [h];decide)]
 rw [if_pos h]
theorem stepAt10 (d:MD) (who:Nat) (late:Int) (k:KD) (n:Nat) (s:I5) (h:s.o=10):stepAt d who late k n s=(goM d who k n s.n,0):=by
 unfold stepAt
 rw [if_neg (by rw [h];decide)]
 rw [if_neg (by rw [h];decide)]
 rw [if_neg (by rw [h];decide)]
 rw [if_neg (by rw [h];decide)]
 rw [if_neg (by rw [h];decide)]
 rw [if_pos h]
theorem stepAt11 (d:MD) (who:Nat) (late:Int) (k:KD) (n:Nat) (s:I5) (h:s.o=11):stepAt d who late k n s=(goM d who k n (if regA k s.a=0 then s.n else k.pc+1),0):=by
 unfold stepAt
 rw [if_neg (by rw [h];decide)]
 rw [if_neg (by rw [h];decide)]
 rw [if_neg (by rw [h];decide)]
 rw [if_neg (by rw [h];decide)]
 rw [if_neg (by rw [h];decide)]
 rw [if_neg (by rw [h];decide)]
 rw [if_pos h]
theorem stepAt12 (d:MD) (who:Nat) (late:Int) (k:KD) (n:Nat) (s:I5) (h:s.o=12):stepAt d who late k n s=(putK d who { k with st:=1 },0):=by
 unfold stepAt
 rw [if_neg (by rw [h];decide)]
 rw [if_neg (by rw [h];decide)]
 rw [if_neg (by rw [h];decide)]
 rw [if_neg (by rw [h];decide)]
 rw [if_neg (by rw [h];decide)]
 rw [if_neg (by rw [h];decide)]
 rw [if_neg (by rw [h];decide)]
 rw [if_pos h]
theorem stepAt13 (d:MD) (who:Nat) (late:Int) (k:KD) (n:Nat) (s:I5) (h:s.o=13):stepAt d who late k n s=(putK d who { k with st:=2 },0):=by
 unfold stepAt
 rw [if_neg (by rw [h];decide)]
 rw [if_neg (by rw [h];decide)]
 rw [if_neg (by rw [h];decide)]
 rw [if_neg (by rw [h];decide)]
 rw [if_neg (by rw [h];decide)]
 rw [if_neg (by rw [h];decide)]
 rw [if_neg (by rw [h];decide)]
 rw [if_neg (by rw [h];decide)]
 rw [if_pos h]
theorem stepAtM (d:MD) (who:Nat) (late:Int) (k:KD) (n:Nat) (s:I5) (h:5≤s.o∧s.o≤8):stepAt d who late k n s=(if 0≤cellM k s∧cellM k s≤23 then (if s.o≠5∧(d.mem.getD (cellM k s).toNat []).length=4000 then (d,3) else (goM (memS d late k s (cellM k s).toNat).1 who (memS d late k s (cellM k s).toNat).2 n (k.pc+1),0)) else (putK d who { k with st:=2 },0)):=by
 unfold stepAt
 rw [if_neg (by omega)]
 rw [if_neg (by omega)]
 rw [if_neg (by omega)]
 rw [if_neg (by omega)]
 rw [if_neg (by omega)]
 rw [if_neg (by omega)]
 rw [if_neg (by omega)]
 rw [if_neg (by omega)]
 rw [if_neg (by omega)]
theorem wp_note {o : Oper} {a : Act} {w : World} {K : Act → World → Prop} {Q : Exit → Act → World → Prop} (s x : Operand) (ho : o.op = .call { callee := .builtin .append, args := #[s, x], argTypes := #[33, 33] })
  (base:Nat) (v:Value) (n:Nat) (xs:List Value) (hs:a.eval s=v) (hown:w.ownsRow base 96 2 v n xs) (g0:Nat) (u0 u1:Value) (hu0:u0.oneCell'=true) (hu1:u1.oneCell'=true) (hx:a.eval x=.slice (some ⟨g0,0,none⟩) 1 1) (hc0:w.cell? ⟨g0,0,none⟩=some u0) (hc1:w.cell? ⟨g0,1,none⟩=some u1) (hn:n≤1073741824) (hbase:base≤w.heap.size)
  (h:∀ g cap w',w'.ownsRow base 96 2 (.slice (some ⟨g,0,none⟩) (n+1) cap) (n+1) (xs++[u0,u1])→w.grownBy w' v.ownBlock→(v.ownBlock=some g∨w.heap.size≤g)→g < w'.heap.size→K (a.put o.dst (.slice (some ⟨g,0,none⟩) (n+1) cap)) w'):Oper.wp Tryz.prog o a w K Q:=by
 obtain ⟨i0,hi,hz0,hz1,hz2⟩:=infoD
 refine wp_append_lies w s x 33 ho base 96 i0 _ 2 16 Tryz.underlying33 hi hz0 hz1 hz2 rfl (by decide) v n xs hs hown ⟨g0,0,none⟩ 1 1 [u0,u1] hx rfl (fun j u' hj=>?_) (fun u' hu'=>by simp at hu';rcases hu' with rfl | rfl<;>assumption) (by decide) (by unfold maxLen;omega) (by omega) hbase _ rfl ?_
 ·match j,hj with
  | 0,hj=>simp at hj;subst hj;simpa [Addr.add] using hc0
  | 1,hj=>simp at hj;subst hj;simpa [Addr.add] using hc1
  | j+2,hj=>simp at hj
 ·intro g cap w' q1 q2 q3 q4
  exact h g cap w' q1 q2 (by rcases q3 with q3 | q3<;>first | exact .inl q3 | exact .inr (by omega)) q4
/- a note more: the rest of the machine stays -/
theorem MQ0.note {w w':World} {B g cap:Nat} {vc vk vm vt:Value} {LC:List CV} {LK:List KV} {S:List RS} {d:MD} (nt:ND) (h:MQ0 w B vc vk vm vt LC LK S d) (ho:w'.ownsRow B 96 2 (.slice (some ⟨g,0,none⟩) (d.tr.length+1) cap) (d.tr.length+1) (flatN d.tr++[.int .i64 nt.who,.int .i64 nt.v])) (hb:∀ b,b < w.heap.size→vt.ownBlock≠some b→w'.heap[b]? =w.heap[b]?) (hs:w.heap.size≤w'.heap.size):MQ0 w' B vc vk vm (.slice (some ⟨g,0,none⟩) (d.tr.length+1) cap) LC LK S { d with tr:=d.tr++[nt] }:=by
 have ne:∀ {e:TypeId} {size n:Nat} {u:Value} {xs:List Value},w.ownsRow B e size u n xs→e≠96→∀ q,u.ownBlock=some q→w'.heap[q]? =w.heap[q]? :=fun hu h1 q hq=>hb q (World.ownsRow.lt hu _ hq).2 (ownType' hu h.t h1 hq)
 refine ⟨⟨ownKeep' h.c.row (ne h.c.row (by decide)),fun i x hx=>ownKeep' (h.c.inn i x hx) (ne (h.c.inn i x hx) (by decide)),h.c.sep⟩,h.ec,⟨ownKeep' h.k.row (ne h.k.row (by decide)),fun i x hx=>⟨ownKeep' (h.k.inn i x hx).1 (ne (h.k.inn i x hx).1 (by decide)),ownKeep' (h.k.inn i x hx).2 (ne (h.k.inn i x hx).2 (by decide))⟩,h.k.two,h.k.sep⟩,h.ek,?_,?_,h.sk⟩
 ·refine ⟨h.m.n,ownKeep' h.m.row (ne h.m.row (by decide)),fun i' r l hr hl=>?_,h.m.d⟩
  have q:=h.m.r i' r l hr hl
  refine q.kept (ne q.own (by decide)) (fun a ha=>?_) hs
  obtain ⟨cs,f,c1⟩:=q.vt a ha
  refine hb a.block (q.blk ha).2 (fun e=>?_)
  obtain ⟨cs',f',c2⟩:=own_ty h.t e
  rw [c2] at c1
  injection c1 with c1
  injection c1 with _ c1
  exact absurd c1 (by decide)
 ·show OwnD w' B _ (d.tr++[nt])
  unfold OwnD
  rw [flatN_app,List.length_append]
  exact ho
theorem MQ.note {Hq:Nat→Prop} {w w':World} {B g cap:Nat} {vc vk vm vt:Value} {LC:List CV} {LK:List KV} {S:List RS} {d:MD} (nt:ND) (h:MQ w B Hq vc vk vm vt LC LK S d) (ho:w'.ownsRow B 96 2 (.slice (some ⟨g,0,none⟩) (d.tr.length+1) cap) (d.tr.length+1) (flatN d.tr++[.int .i64 nt.who,.int .i64 nt.v])) (hb:∀ b,b < w.heap.size→vt.ownBlock≠some b→w'.heap[b]? =w.heap[b]?) (hs:w.heap.size≤w'.heap.size) (hg:vt.ownBlock=some g∨w.heap.size≤g):MQ w' B Hq vc vk vm (.slice (some ⟨g,0,none⟩) (d.tr.length+1) cap) LC LK S { d with tr:=d.tr++[nt] }:=⟨h.toMQ0.note nt ho hb hs,⟨h.hh.c,h.hh.ci,h.hh.k,h.hh.ki,h.hh.m,h.hh.mi,fun q hq=>by injection hq with hq;subst hq;exact hg.elim (fun e=>h.hh.t _ e) (fun e=>h.hn _ e)⟩,fun q hq=>h.hn q (Nat.le_trans hs hq)⟩
theorem app_note {ops : Array Oper} {rest : List Oper} {o : Oper} {a : Act} {Q : Exit → Act → World → Prop} (hgd : o.guard = none) (s x : Operand) (ho : o.op = .call { callee := .builtin .append, args := #[s, x], argTypes := #[33, 33] })
  (w:World) (base:Nat) (v:Value) (n:Nat) (xs:List Value) (hs:a.eval s=v) (hown:w.ownsRow base 96 2 v n xs) (g0:Nat) (u0 u1:Value) (hu0:u0.oneCell'=true) (hu1:u1.oneCell'=true) (hx:a.eval x=.slice (some ⟨g0,0,none⟩) 1 1) (hc0:w.cell? ⟨g0,0,none⟩=some u0) (hc1:w.cell? ⟨g0,1,none⟩=some u1) (hn:n≤1073741824) (hbase:base≤w.heap.size)
  (h:∀ g cap w',w'.ownsRow base 96 2 (.slice (some ⟨g,0,none⟩) (n+1) cap) (n+1) (xs++[u0,u1])→w.grownBy w' v.ownBlock→(v.ownBlock=some g∨w.heap.size≤g)→g < w'.heap.size→wpList Tryz.prog ops Q rest (a.put o.dst (.slice (some ⟨g,0,none⟩) (n+1) cap)) w'):wpList Tryz.prog ops Q (o::rest) a w:=
 wpList_plain hgd fun _ hK=>wp_note s x ho base v n xs hs hown g0 u0 u1 hu0 hu1 hx hc0 hc1 hn hbase fun g cap w' h1 h2 h3 h4=>hK _ _ (h g cap w' h1 h2 h3 h4)
/- a store into a box of a machine's type -/
theorem MQ0.offB {w:World} {B b j:Nat} {vc vk vm vt u:Value} {LC:List CV} {LK:List KV} {S:List RS} {d:MD} (h:MQ0 w B vc vk vm vt LC LK S d) (ht:BxT w b):MQ0 (w.setCell ⟨b,j,none⟩ u) B vc vk vm vt LC LK S d:=by
 have hb:∀ k,k≠b→(w.setCell ⟨b,j,none⟩ u).heap[k]? =w.heap[k]? :=fun k hk=>Below.heap_setCell _ _ _ k hk
 exact ⟨h.c.off ht hb,h.ec,h.k.off ht hb,h.ek,h.m.off ht hb (by simp),h.t.off ht hb,h.sk⟩
theorem MQ.offB {Hq:Nat→Prop} {w:World} {B b j:Nat} {vc vk vm vt u:Value} {LC:List CV} {LK:List KV} {S:List RS} {d:MD} (h:MQ w B Hq vc vk vm vt LC LK S d) (ht:BxT w b):MQ (w.setCell ⟨b,j,none⟩ u) B Hq vc vk vm vt LC LK S d:=⟨h.toMQ0.offB ht,h.hh,by simpa using h.hn⟩
theorem BxT.same {w w':World} {b:Nat} (h:BxT w b) (e:w'.heap[b]? =w.heap[b]?):BxT w' b:=by
 obtain ⟨cs,f,c⟩:=h
 exact ⟨cs,f,e.trans c⟩
theorem BxT.lt {w:World} {b:Nat} (h:BxT w b):b < w.heap.size:=by
 obtain ⟨cs,f,c⟩:=h
 exact (Array.getElem?_eq_some_iff.1 c).1
theorem BxT.alloc {w:World} {b:Nat} (h:BxT w b) (o:Obj):BxT (w.alloc o) b:=h.same (Below.heap_alloc _ _ _ h.lt)
theorem BxT.new (w:World) (cs:Array Value):BxT (w.alloc (.cells cs 35)) w.heap.size:=⟨_,_,heap_alloc_new _ _⟩
theorem boxT {w W V : World} {m0 m1 m2 m3 x0 x1 k0 k1 k2 k3 s0 s1 s2 s3 s4 : Value} {T1 T3 T4 : TypeId}
  (hW:(((w.alloc (.cells #[m0,m1,m2,m3] 35)).alloc (.cells #[x0,x1] T1)).alloc (.cells #[.slice none 0 0,.slice none 0 0,.slice none 0 0,.slice none 0 0] 35)).alloc (.cells #[k0,k1,k2,k3] T3)=W) (hV:(W.alloc (.cells #[s0,s1,s2,s3,s4] T4)).drew=V):
  BxT V w.heap.size∧BxT V (w.heap.size+1+1):=by
 subst hW
 subst hV
 have e:((w.alloc (.cells #[m0,m1,m2,m3] 35)).alloc (.cells #[x0,x1] T1)).heap.size=w.heap.size+1+1:=by simp
 refine ⟨?_,?_⟩
 ·exact BxT.same (BxT.alloc (BxT.alloc (BxT.alloc (BxT.alloc (BxT.new w _) _) _) _) _) rfl
 ·rw [← e]
  exact BxT.same (BxT.alloc (BxT.alloc (BxT.new _ _) _) _) rfl
end
section
set_option linter.unusedSimpArgs false
set_option linter.unusedVariables false
set_option maxRecDepth 100000
open Go.RowKit
def edgeB (full:List Oper) (i' i:Nat):Bool:=(full[i']?.map fun x=>x.after.any fun e=>Region.binds .any e&&e.on==i).getD false
def lexE (full:List Oper):Bool:=(List.range full.length).all fun i=>(full[i]?.map fun x=>x.after.all fun e=>!Region.binds .any e||decide (e.on < i)).getD true
theorem edge_iff {full:List Oper} {i' i:Nat}:edgeB full i' i=true↔∃ x,full[i']? =some x∧∃ e∈x.after,Region.binds .any e=true∧e.on=i:=by
 unfold edgeB
 cases h:full[i']? with
 | none=>simp
 | some x=>
  simp only [Option.map_some,Option.getD_some,Array.any_eq_true',Bool.and_eq_true,beq_iff_eq]
  constructor
  ·rintro ⟨e,h1,h2,h3⟩;exact ⟨x,rfl,e,h1,h2,h3⟩
  ·rintro ⟨y,hy,e,h1,h2,h3⟩;injection hy with hy;subst hy;exact ⟨e,h1,h2,h3⟩
theorem mem_rdy {full:List Oper} {listed:Array Bool} {i:Nat}:i∈Region.ready .any full.toArray listed↔i < full.length∧listed.getD i true=false∧∀ i2,edgeB full i i2=true→listed.getD i2 false=true:=by
 unfold Region.ready
 rw [List.mem_filter,List.mem_range,Bool.and_eq_true,Bool.not_eq_true',List.size_toArray,List.getElem?_toArray]
 refine and_congr_right fun hi=>and_congr_right fun _=>?_
 rw [List.getElem?_eq_getElem hi]
 simp only [Option.map_some,Option.getD_some,Array.all_eq_true',Bool.or_eq_true,Bool.not_eq_true']
 constructor
 ·intro h i2 h2
  rw [edge_iff] at h2
  obtain ⟨x,hx,e,he,hb,rfl⟩:=h2
  rw [List.getElem?_eq_getElem hi] at hx
  injection hx with hx
  subst hx
  rcases h e he with h | h
  ·rw [hb] at h;cases h
  ·exact h
 ·intro h e he
  cases hb:Region.binds .any e with
  | false=>exact .inl rfl
  | true=>exact .inr (h e.on (edge_iff.2 ⟨_,List.getElem?_eq_getElem hi,e,he,hb,rfl⟩))
theorem lex_lt {full:List Oper} (h:lexE full=true) {i i2:Nat} (he:edgeB full i i2=true):i2 < i∧i < full.length:=by
 rw [edge_iff] at he
 obtain ⟨x,hx,e,hm,hb,rfl⟩:=he
 have hi:=(List.getElem?_eq_some_iff.1 hx).1
 unfold lexE at h
 rw [List.all_eq_true] at h
 have q:=h i (List.mem_range.2 hi)
 rw [hx] at q
 simp only [Option.map_some,Option.getD_some,Array.all_eq_true',Bool.or_eq_true,Bool.not_eq_true'] at q
 rcases q e hm with q | q
 ·rw [hb] at q;cases q
 ·exact ⟨by simpa using q,hi⟩
theorem getD_in {listed:Array Bool} {i:Nat} (h:i < listed.size) (b c:Bool):listed.getD i b=listed.getD i c:=by simp [Array.getD,h]
theorem take_at {full:List Oper} {k i:Nat} (h:i < k):(full.take k)[i]? =full[i]? :=by rw [List.getElem?_take];simp [h]
end
end Go.Proofs.YtkhjhibigldcgaaGreat
