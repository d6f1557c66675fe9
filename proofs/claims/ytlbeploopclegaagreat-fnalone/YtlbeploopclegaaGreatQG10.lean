/- The model of a step of a machine that is right, and what being right tells of the core that goes on. No condition. Rows of code and of cores that a call has made: owned whole, so that more may be put behind them. No condition. Append of steps onto an empty row, and of a row of steps onto rows of them. Conditions: fewer than 2^30 of them. Append of a core onto a row of them. Conditions: fewer than 2^30 of them. Rows of code copied by the program and by the specification. Conditions: they are counted. Machines that run: all their rows owned whole; append of notes. Conditions: fewer than 2^30 of them. A step keeps a machine right: views and memories. No condition. -/
import Derived.Test.YtlbeploopclegaaGreatQG00
import Derived.Test.YtlbeploopclegaaGreatQG05
import Derived.Test.YtlbeploopclegaaGreatQG01
import Derived.Test.YtlbeploopclegaaGreatQG06
import Derived.Test.YtlbeploopclegaaGreatQG02
import Derived.Test.YtlbeploopclegaaGreatQG07
import Derived.Test.YtlbeploopclegaaGreatQKOkB
import Derived.Test.YtlbeploopclegaaGreatQG08
import Derived.Test.YtlbeploopclegaaGreatQMemStore
import Derived.Test.YtlbeploopclegaaGreatQG04
import Derived.Test.YtlbeploopclegaaGreatQG09
namespace Go.Proofs.YtlbeploopclegaaGreat
section
set_option linter.unusedSimpArgs false
set_option linter.unusedVariables false
set_option maxRecDepth 100000
open Go.RowKit
def wI (x:Int):Int:=IntKind.i64.wrap x
def regA (k:KD) (i:Int):Int:=k.regs.getD i.toNat 0
def setR (k:KD) (r v:Int):KD:={ k with regs:=k.regs.set r.toNat v }
def putK (d:MD) (who:Nat) (k:KD):MD:={ d with cores:=d.cores.set who k }
/- the cell that a step names -/
def cellM (k:KD) (s:I5):Int:=if s.o≠8∧0≤s.a then wI (s.n+regA k s.a) else s.n
def ldJ (m:List (List WD)) (l:List Int) (c:Nat) (late:Int):Nat:=(mx (l.getD c 0) (((m.getD c []).length:Int) - 1 - mx late 0)).toNat
def ldX (m:List (List WD)) (l:List Int) (c:Nat) (late:Int):WD:=(m.getD c []).getD (ldJ m l c late) ⟨0,[]⟩
def ldW (m:List (List WD)) (l:List Int) (c:Nat) (late:Int) (hold:Bool):List Int:=if hold=true then joinL (l.set c (ldJ m l c late)) (ldX m l c late).vw else l.set c (ldJ m l c late)
def stM (m:List (List WD)) (l:List Int) (c:Nat) (z:Int) (b:Bool):List (List WD):=m.set c (m.getD c []++[⟨z,toldL l c (m.getD c []).length b⟩])
def stW (m:List (List WD)) (l:List Int) (c:Nat):List Int:=l.set c ((m.getD c []).length:Int)
/- where a core goes on; beyond its code it faults -/
def goM (d:MD) (who:Nat) (k:KD) (n:Nat) (p:Int):MD:=if p < (n:Int) then putK d who { k with pc:=p } else putK d who { k with st:=2 }
def memS (d:MD) (late:Int) (k:KD) (s:I5) (c:Nat):MD×KD:=
 if s.o=5 then (d,{ k with regs:=k.regs.set s.r.toNat (ldX d.mem k.vw c late).v,vw:=ldW d.mem k.vw c late false })
 else if s.o=8 then ({ d with mem:=stM d.mem (ldW d.mem k.vw c 0 true) c (regA k s.b) true },{ k with regs:=k.regs.set s.r.toNat (ldX d.mem k.vw c 0).v,vw:=stW d.mem (ldW d.mem k.vw c 0 true) c })
 else ({ d with mem:=stM d.mem k.vw c (regA k s.b) (decide (s.o=7)) },{ k with vw:=stW d.mem k.vw c })
def stepAt (d:MD) (who:Nat) (late:Int) (k:KD) (n:Nat) (s:I5):MD×Int:=
 if s.o=1 then (goM d who (setR k s.r s.n) n (k.pc+1),0)
 else if s.o=2 then (goM d who (setR k s.r (wI (regA k s.a+regA k s.b))) n (k.pc+1),0)
 else if s.o=3 then (goM d who (setR k s.r (wI (regA k s.a - regA k s.b))) n (k.pc+1),0)
 else if s.o=4 then (goM d who (setR k s.r (if regA k s.a < regA k s.b then 1 else 0)) n (k.pc+1),0)
 else if s.o=9 then (if d.tr.length=4000 then (d,3) else (goM { d with tr:=d.tr++[⟨who,regA k s.a⟩] } who k n (k.pc+1),0))
 else if s.o=10 then (goM d who k n s.n,0)
 else if s.o=11 then (goM d who k n (if regA k s.a=0 then s.n else k.pc+1),0)
 else if s.o=12 then (putK d who { k with st:=1 },0)
 else if s.o=13 then (putK d who { k with st:=2 },0)
 else if 0≤cellM k s∧cellM k s≤23 then
  (if s.o≠5∧(d.mem.getD (cellM k s).toNat []).length=4000 then (d,3)
   else (goM (memS d late k s (cellM k s).toNat).1 who (memS d late k s (cellM k s).toNat).2 n (k.pc+1),0))
 else (putK d who { k with st:=2 },0)
/- a step by a pick: 2: nobody such, 3: it does not run -/
def stepM (d:MD) (who late:Int):MD×Int:=
 if 0≤who∧who < (d.cores.length:Int) then
  (match d.cores[who.toNat]?,d.codes[who.toNat]? with
   | some k,some code=>if k.st=0 then stepAt d who.toNat late k code.length (code.getD k.pc.toNat z5) else (d,3)
   | _,_=>(d,3))
 else (d,2)
/- what a right machine tells of a core -/
structure At8 (d:MD) (who:Nat) (k:KD) (code:List I5) (s:I5):Prop where
 hk:d.cores[who]? =some k
 hc:d.codes[who]? =some code
 hs:code[k.pc.toNat]? =some s
 hz:code.getD k.pc.toNat z5=s
 pc0:0≤k.pc
 pcl:k.pc < (code.length:Int)
 n1:1≤code.length
 n8:code.length≤800
 regs:k.regs.length=8
 vw:viewB d.mem k.vw=true
 st0:0≤k.st
 st2:k.st≤2
 ok:stX s code.length=true
 mem:memB d.mem=true
 tr:d.tr.length≤4000
theorem mach_len {d:MD} (h:machB d=true):d.cores.length=d.codes.length:=by
 unfold machB coresB at h
 simp only [Bool.and_eq_true,decide_eq_true_eq] at h
 exact h.2.1.1
theorem mach_at {d:MD} (h:machB d=true) {who:Nat} (hw:who < d.cores.length):∃ k code s,At8 d who k code s:=by
 have hl:=mach_len h
 unfold machB at h
 rw [Bool.and_eq_true,Bool.and_eq_true,Bool.and_eq_true] at h
 obtain ⟨hc,hk,ht,hm⟩:=h
 obtain ⟨k,ek⟩:∃ k,d.cores[who]? =some k:=⟨_,List.getElem?_eq_getElem hw⟩
 obtain ⟨code,ec⟩:∃ c,d.codes[who]? =some c:=⟨_,List.getElem?_eq_getElem (by omega)⟩
 have hz:(d.cores.zip d.codes)[who]? =some (k,code):=by rw [List.getElem?_zip_eq_some];exact ⟨ek,ec⟩
 unfold coresB at hk
 rw [Bool.and_eq_true,List.all_eq_true] at hk
 have q:=hk.2 _ (List.mem_of_getElem? hz)
 unfold coreB at q
 simp only [Bool.and_eq_true,decide_eq_true_eq] at q
 obtain ⟨q1,q2,q3,q4⟩:=q
 have cb:codeB code=true:=by
  unfold codesB at hc
  rw [Bool.and_eq_true,List.all_eq_true] at hc
  exact hc.2 _ (List.mem_of_getElem? ec)
 unfold codeB at cb
 simp only [Bool.and_eq_true,decide_eq_true_eq] at cb
 obtain ⟨c1,c2,-⟩:=cb
 unfold Plain.oneB at q3
 unfold Plain.inB at q2
 rw [decide_eq_true_eq] at q2 q3
 have hp:k.pc.toNat < code.length:=by omega
 obtain ⟨s,es⟩:∃ s,code[k.pc.toNat]? =some s:=⟨_,List.getElem?_eq_getElem hp⟩
 have ez:code.getD k.pc.toNat z5=s:=by rw [List.getD_eq_getElem?_getD,es];rfl
 have hs:=c1 _ hp
 rw [ez] at hs
 unfold trB at ht
 rw [Bool.and_eq_true,decide_eq_true_eq] at ht
 exact ⟨k,code,s,ek,ec,es,ez,q3.1,q3.2,c2.1,c2.2,q1,q4,q2.1,q2.2,hs,hm,ht.1⟩
theorem stepM_at {d:MD} {who:Nat} {k:KD} {code:List I5} {s:I5} (h:At8 d who k code s) (late:Int) (hr:k.st=0):stepM d who late=stepAt d who late k code.length s:=by
 have hw:who < d.cores.length:=by
  have:=h.hk
  rw [List.getElem?_eq_some_iff] at this
  exact this.1
 unfold stepM
 rw [if_pos (by omega),Int.toNat_natCast,h.hk,h.hc]
 show (if k.st=0 then _ else _)=_
 rw [if_pos hr,h.hz]
theorem stepM_over {d:MD} {who:Nat} {k:KD} {code:List I5} {s:I5} (h:At8 d who k code s) (late:Int) (hr:¬ k.st=0):stepM d who late=(d,3):=by
 have hw:who < d.cores.length:=by
  have:=h.hk
  rw [List.getElem?_eq_some_iff] at this
  exact this.1
 unfold stepM
 rw [if_pos (by omega),Int.toNat_natCast,h.hk,h.hc]
 show (if k.st=0 then _ else _)=_
 rw [if_neg hr]
theorem stepM_none {d:MD} {who:Int} (late:Int) (h:¬ (0≤who∧who < (d.cores.length:Int))):stepM d who late=(d,2):=by
 unfold stepM
 rw [if_neg h]
end
section
set_option linter.unusedSimpArgs false
set_option linter.unusedVariables false
set_option maxRecDepth 100000
section
open Go.RowKit
structure KV where
 d:KD
 r:Value
 v:Value
structure CV where
 l:List I5
 v:Value
def flatK:List KV→List Value
 | []=>[]
 | x::t=>[.int .i64 x.d.pc,x.r,x.v,.int .i64 x.d.st]++flatK t
theorem flatK_app:∀ (a b:List KV),flatK (a++b)=flatK a++flatK b
 | [],b=>rfl
 | x::r,b=>by simp [flatK,flatK_app r b]
theorem flatK_at:∀ (L:List KV) (i:Nat) (x:KV),L[i]? =some x→(flatK L)[i * 4]? =some (.int .i64 x.d.pc)∧(flatK L)[i * 4+1]? =some x.r∧(flatK L)[i * 4+2]? =some x.v∧(flatK L)[i * 4+3]? =some (.int .i64 x.d.st)
 | [],i,x,h=>by simp at h
 | y::r,0,x,h=>by
  simp at h
  subst h
  exact ⟨rfl,rfl,rfl,rfl⟩
 | y::r,i+1,x,h=>by
  have h':r[i]? =some x:=by simpa using h
  have e:=flatK_at r i x h'
  have e0:(i+1) * 4=i * 4+4:=by omega
  rw [e0]
  exact e
structure OwnK (w:World) (base:Nat) (v:Value) (L:List KV):Prop where
 row:w.ownsRow base 53 4 v L.length (flatK L)
 inn:∀ (i:Nat) (x:KV),L[i]? =some x→OwnN w base x.r x.d.regs∧OwnN w base x.v x.d.vw
 two:∀ (i:Nat) (x:KV) (k:Nat),L[i]? =some x→x.r.ownBlock=some k→x.v.ownBlock≠some k
 sep:∀ (i j:Nat) (x y:KV) (k:Nat),L[i]? =some x→L[j]? =some y→i≠j→(x.r.ownBlock=some k∨x.v.ownBlock=some k)→¬ (y.r.ownBlock=some k∨y.v.ownBlock=some k)
def OwnT5 (w:World) (base:Nat) (v:Value) (l:List I5):Prop:=w.ownsRow base 141 5 v l.length ((fl5 l).map (Value.int .i64))
structure OwnC (w:World) (base:Nat) (v:Value) (L:List CV):Prop where
 row:w.ownsRow base 102 1 v L.length (L.map CV.v)
 inn:∀ (i:Nat) (x:CV),L[i]? =some x→OwnT5 w base x.v x.l
 sep:∀ (i j:Nat) (x y:CV) (k:Nat),L[i]? =some x→L[j]? =some y→i≠j→x.v.ownBlock=some k→y.v.ownBlock≠some k
theorem OwnK.keep {w w':World} {base:Nat} {v:Value} {L:List KV} (h:OwnK w base v L) (hb:∀ k,base≤k→k < w.heap.size→w'.heap[k]? =w.heap[k]?):OwnK w' base v L:=
 ⟨ownKeep' h.row (fun k hk=>hb k (World.ownsRow.lt h.row _ hk).1 (World.ownsRow.lt h.row _ hk).2),fun i x hx=>⟨ownKeep' (h.inn i x hx).1 (fun k hk=>hb k (World.ownsRow.lt (h.inn i x hx).1 _ hk).1 (World.ownsRow.lt (h.inn i x hx).1 _ hk).2),ownKeep' (h.inn i x hx).2 (fun k hk=>hb k (World.ownsRow.lt (h.inn i x hx).2 _ hk).1 (World.ownsRow.lt (h.inn i x hx).2 _ hk).2)⟩,h.two,h.sep⟩
theorem OwnK.below {w w':World} {base:Nat} {v:Value} {L:List KV} (h:OwnK w base v L) (hb:Below w.heap.size w w'):OwnK w' base v L:=h.keep fun k _ hk=>hb.block k hk
theorem OwnK.nil (w:World) (base:Nat):OwnK w base (.slice none 0 0) []:=⟨World.ownsRow_nil _ _ _ _,fun i x hx=>by simp at hx,fun i x k hx=>by simp at hx,fun i j x y k hx=>by simp at hx⟩
theorem OwnC.keep {w w':World} {base:Nat} {v:Value} {L:List CV} (h:OwnC w base v L) (hb:∀ k,base≤k→k < w.heap.size→w'.heap[k]? =w.heap[k]?):OwnC w' base v L:=
 ⟨ownKeep' h.row (fun k hk=>hb k (World.ownsRow.lt h.row _ hk).1 (World.ownsRow.lt h.row _ hk).2),fun i x hx=>ownKeep' (h.inn i x hx) (fun k hk=>hb k (World.ownsRow.lt (h.inn i x hx) _ hk).1 (World.ownsRow.lt (h.inn i x hx) _ hk).2),h.sep⟩
theorem OwnC.below {w w':World} {base:Nat} {v:Value} {L:List CV} (h:OwnC w base v L) (hb:Below w.heap.size w w'):OwnC w' base v L:=h.keep fun k _ hk=>hb.block k hk
theorem OwnC.nil (w:World) (base:Nat):OwnC w base (.slice none 0 0) []:=⟨World.ownsRow_nil _ _ _ _,fun i x hx=>by simp at hx,fun i j x y k hx=>by simp at hx⟩
theorem VO.nodup {w:World} {lo hi:Nat} {x:VS} {l:List Int} (h:VO w lo hi x l):(vAs x).Nodup:=by
 rcases h.c with e | ⟨g,o,hs,-⟩
 ·have:=h.n
  rw [e] at this
  simp at this
  simp [vAs,this]
 ·exact vAs_nodup hs
theorem push_get {α:Type} {L:List α} {y z:α} {i:Nat} (h:(L++[y])[i]? =some z):L[i]? =some z∨(i=L.length∧z=y):=by
 rcases getElem?_push h with h | ⟨h,e⟩
 ·exact .inl h
 ·exact .inr ⟨h,e⟩
/- one more behind a row -/
theorem OwnC.push {w w' : World} {base g cap : Nat} {v : Value} {L : List CV} {y : CV} (h : OwnC w base v L) (hy : OwnT5 w base y.v y.l)
  (hs:∀ (i:Nat) (z:CV) (k:Nat),L[i]? =some z→y.v.ownBlock=some k→z.v.ownBlock≠some k)
  (q1:w'.ownsRow base 102 1 (.slice (some ⟨g,0,none⟩) (L.length+1) cap) (L.length+1) (L.map CV.v++[y.v])) (hk:∀ k,k < w.heap.size→v.ownBlock≠some k→w'.heap[k]? =w.heap[k]?):
  OwnC w' base (.slice (some ⟨g,0,none⟩) (L.length+1) cap) (L++[y]):=by
 have kp:∀ (x:CV),OwnT5 w base x.v x.l→OwnT5 w' base x.v x.l:=fun x hx=>ownKeep' hx (fun k hk'=>hk k (World.ownsRow.lt hx _ hk').2 (ownType' hx h.row (by decide) hk'))
 refine ⟨by rw [List.map_append,List.length_append];exact q1,fun i x hx=>?_,fun i j x z k hx hz hne=>?_⟩
 ·rcases push_get hx with hx | ⟨-,rfl⟩
  ·exact kp _ (h.inn i x hx)
  ·exact kp _ hy
 ·rcases push_get hx with hx1 | ⟨e1,ex⟩<;>rcases push_get hz with hz1 | ⟨e2,ez⟩
  ·exact h.sep i j x z k hx1 hz1 hne
  ·rw [ez]
   intro a b
   exact hs i x k hx1 b a
  ·rw [ex]
   exact hs j z k hz1
  ·omega
theorem OwnK.push {w w' : World} {base g cap : Nat} {v : Value} {L : List KV} {y : KV} (h : OwnK w base v L) (hy : OwnN w base y.r y.d.regs ∧ OwnN w base y.v y.d.vw) (ht : ∀ k, y.r.ownBlock = some k → y.v.ownBlock ≠ some k)
  (hs:∀ (i:Nat) (z:KV) (k:Nat),L[i]? =some z→(y.r.ownBlock=some k∨y.v.ownBlock=some k)→¬ (z.r.ownBlock=some k∨z.v.ownBlock=some k))
  (q1:w'.ownsRow base 53 4 (.slice (some ⟨g,0,none⟩) (L.length+1) cap) (L.length+1) (flatK L++[.int .i64 y.d.pc,y.r,y.v,.int .i64 y.d.st])) (hk:∀ k,k < w.heap.size→v.ownBlock≠some k→w'.heap[k]? =w.heap[k]?):
  OwnK w' base (.slice (some ⟨g,0,none⟩) (L.length+1) cap) (L++[y]):=by
 have kp:∀ (u:Value) (l:List Int),OwnN w base u l→OwnN w' base u l:=fun u l hx=>ownKeep' hx (fun k hk'=>hk k (World.ownsRow.lt hx _ hk').2 (ownType' hx h.row (by decide) hk'))
 refine ⟨by rw [flatK_app,List.length_append];exact q1,fun i x hx=>?_,fun i x k hx=>?_,fun i j x z k hx hz hne=>?_⟩
 ·rcases push_get hx with hx | ⟨-,rfl⟩
  ·exact ⟨kp _ _ (h.inn i x hx).1,kp _ _ (h.inn i x hx).2⟩
  ·exact ⟨kp _ _ hy.1,kp _ _ hy.2⟩
 ·rcases push_get hx with hx | ⟨-,rfl⟩
  ·exact h.two i x k hx
  ·exact ht k
 ·rcases push_get hx with hx1 | ⟨e1,ex⟩<;>rcases push_get hz with hz1 | ⟨e2,ez⟩
  ·exact h.sep i j x z k hx1 hz1 hne
  ·rw [ez]
   intro a b
   exact hs i x k hx1 b a
  ·rw [ex]
   exact hs j z k hz1
  ·omega
/- rows that are owned, as rows of records -/
theorem vAs_blk {s:Option Addr} {n c e:Nat} {a:Addr} (ha:a∈vAs ((⟨s,n,c⟩:VS).wide e)) (hs:Somewhere s):(Value.slice s n c).ownBlock=some a.block:=by
 obtain ⟨i,-,rfl⟩:=mem_vAs.1 ha
 obtain ⟨g,o,rfl⟩:=hs
 rfl
theorem VO.own {w:World} {lo hi:Nat} {s:Option Addr} {n c e:Nat} {l:List Int} (h:VO w lo hi ((⟨s,n,c⟩:VS).wide e) l) {a:Addr} (ha:a∈vAs ((⟨s,n,c⟩:VS).wide e)):(Value.slice s n c).ownBlock=some a.block:=by
 rcases h.c with e | ⟨g,o,hs,-⟩
 ·have:=h.n
  rw [e] at this
  obtain ⟨i,hi',-⟩:=mem_vAs.1 ha
  rw [this] at hi'
  simp at hi'
 ·exact vAs_blk ha ⟨g,o,hs⟩
theorem OwnC.go {w:World} {base:Nat} {v:Value} {L:List CV} (h:OwnC w base v L):∃ s c R,v=.slice s L.length c∧GO w base w.heap.size s TC R (L.map fun x=>codeV x.l):=by
 rcases Nat.eq_zero_or_pos L.length with h0 | hpos
 ·obtain ⟨s,c,e⟩:=ownSl h.row
  rw [List.length_eq_zero_iff.1 h0]
  rw [h0] at e
  exact ⟨s,c,[],e,GO.nil _ _ _ _ _⟩
 obtain ⟨g,cap,e,-⟩:=World.ownsRow.form h.row hpos
 have hlt:=World.ownsRow.lt h.row g (by rw [e];rfl)
 have hrow:=h.row
 rw [e] at hrow
 have step:∀ k,k≤L.length→∃ R,GO w base w.heap.size (some ⟨g,0,none⟩) TC R ((L.take k).map fun x=>codeV x.l)∧∀ a∈gAs (some ⟨g,0,none⟩) TC.length R 0,∃ (i:Nat) (x:CV),i < k∧L[i]? =some x∧x.v.ownBlock=some a.block:=by
  intro k
  induction k with
  | zero=>intro _;exact ⟨[],GO.nil _ _ _ _ _,fun a ha=>by simp [gAs] at ha⟩
  | succ k ih=>
   intro hk
   obtain ⟨R,hR,hA⟩:=ih (by omega)
   obtain ⟨x,hx⟩:∃ x,L[k]? =some x:=⟨_,List.getElem?_eq_getElem (by omega)⟩
   obtain ⟨s,c,ev,vo⟩:=own_vo (h.inn k x hx) (fl5_len x.l)
   have tl:((L.take k).map fun x=>codeV x.l).length=k:=by simp;omega
   have ow:∀ a∈vAs ((⟨s,x.l.length,c⟩:VS).wide 5),x.v.ownBlock=some a.block:=fun a ha=>by rw [ev];exact vo.own ha
   refine ⟨R++[[.r ⟨s,x.l.length,c⟩ 5]],?_,fun a ha=>?_⟩
   ·have et:(L.take (k+1)).map (fun x=>codeV x.l)=(L.take k).map (fun x=>codeV x.l)++[codeV x.l]:=by rw [List.take_add_one,hx];simp
    rw [et]
    refine GO.push _ _ hR ⟨_,_,rfl⟩ rfl rfl (fun _ _ _ _ _ _ _ _ _ _ hf=>hf) (fun j f u hf hu=>?_) (fun x' e' hx' a ha g' o' hg'=>?_) ?_ (fun a ha ha'=>?_)
    ·match j,hf,hu with
     | 0,hf,hu=>
      simp at hf
      simp [codeV] at hu
      subst hf hu
      rw [tl]
      refine ⟨?_,⟨hlt.1,hlt.2⟩,vo⟩
      have q:=World.ownsRow.cellAt hrow k (by omega)
      rw [List.getElem?_map,hx] at q
      simp only [Option.map_some] at q
      rw [ev] at q
      simpa [adr,TC] using q
    ·simp at hx'
     obtain ⟨rfl,rfl⟩:=hx'
     injection hg' with hg'
     injection hg' with hg'
     intro eb
     refine ownType' (h.inn k x hx) hrow (by decide) (ow a ha) ?_
     rw [eb,← hg']
     rfl
    ·simp only [recAs,fAs,List.append_nil]
     exact vo.nodup
    ·simp only [recAs,fAs,List.append_nil] at ha'
     obtain ⟨i,z,hi,hz,hb⟩:=hA a ha
     exact h.sep i k z x _ hz hx (by omega) hb (ow a ha')
   ·rw [gAs_append] at ha
    rcases List.mem_append.1 ha with ha | ha
    ·obtain ⟨i,z,hi,hz,hb⟩:=hA a ha
     exact ⟨i,z,by omega,hz,hb⟩
    ·simp only [gAs,recAs,fAs,List.append_nil] at ha
     exact ⟨k,x,by omega,hx,ow a ha⟩
 obtain ⟨R,hR,-⟩:=step L.length (Nat.le_refl _)
 rw [List.take_length] at hR
 exact ⟨some ⟨g,0,none⟩,cap,R,e,hR⟩
theorem OwnK.go {w:World} {base:Nat} {v:Value} {L:List KV} (h:OwnK w base v L):∃ s c R,v=.slice s L.length c∧GO w base w.heap.size s TK R (L.map fun x=>coreV x.d)∧∀ a∈gAs s TK.length R 0,v.ownBlock=some a.block∨∃ (i:Nat) (x:KV),L[i]? =some x∧(x.r.ownBlock=some a.block∨x.v.ownBlock=some a.block):=by
 rcases Nat.eq_zero_or_pos L.length with h0 | hpos
 ·obtain ⟨s,c,e⟩:=ownSl h.row
  rw [List.length_eq_zero_iff.1 h0]
  rw [h0] at e
  exact ⟨s,c,[],e,GO.nil _ _ _ _ _,fun a ha=>by simp [gAs] at ha⟩
 obtain ⟨g,cap,e,-⟩:=World.ownsRow.form h.row hpos
 have hlt:=World.ownsRow.lt h.row g (by rw [e];rfl)
 have hrow:=h.row
 rw [e] at hrow
 have step:∀ k,k≤L.length→∃ R,GO w base w.heap.size (some ⟨g,0,none⟩) TK R ((L.take k).map fun x=>coreV x.d)∧∀ a∈gAs (some ⟨g,0,none⟩) TK.length R 0,(∃ i j,i < k∧j < 4∧a=⟨g,i * 4+j,none⟩)∨∃ (i:Nat) (x:KV),i < k∧L[i]? =some x∧(x.r.ownBlock=some a.block∨x.v.ownBlock=some a.block):=by
  intro k
  induction k with
  | zero=>intro _;exact ⟨[],GO.nil _ _ _ _ _,fun a ha=>by simp [gAs] at ha⟩
  | succ k ih=>
   intro hk
   obtain ⟨R,hR,hA⟩:=ih (by omega)
   obtain ⟨x,hx⟩:∃ x,L[k]? =some x:=⟨_,List.getElem?_eq_getElem (by omega)⟩
   obtain ⟨i1,i2⟩:=h.inn k x hx
   obtain ⟨s,c,ev,vo⟩:=own_vo (size:=1) i1 (by simp)
   obtain ⟨s',c',ev',vo'⟩:=own_vo (size:=1) i2 (by simp)
   rw [wide_one] at vo vo'
   have tl:((L.take k).map fun x=>coreV x.d).length=k:=by simp;omega
   have ow:∀ a∈vAs (⟨s,x.d.regs.length,c⟩:VS),x.r.ownBlock=some a.block:=fun a ha=>by rw [ev];exact VO.own (e:=1) (by rw [wide_one];exact vo) (by rw [wide_one];exact ha)
   have ow':∀ a∈vAs (⟨s',x.d.vw.length,c'⟩:VS),x.v.ownBlock=some a.block:=fun a ha=>by rw [ev'];exact VO.own (e:=1) (by rw [wide_one];exact vo') (by rw [wide_one];exact ha)
   have far:∀ {u:Value} {l:List Int} {a:Addr},OwnN w base u l→u.ownBlock=some a.block→a.block≠g:=fun hu ha eb=>ownType' hu hrow (by decide) ha (by rw [eb];rfl)
   obtain ⟨fa,fb,fc,fd⟩:=flatK_at L k x hx
   have q:∀ j u,j < 4→(flatK L)[k * 4+j]? =some u→w.cell? ⟨g,k * 4+j,none⟩=some u:=fun j u hj hu=>by rw [World.ownsRow.cellAt hrow (k * 4+j) (by omega)];exact hu
   have ra:recAs (some ⟨g,0,none⟩) [.i,.r ⟨s,x.d.regs.length,c⟩ 1,.r ⟨s',x.d.vw.length,c'⟩ 1,.i] (k * TK.length)=⟨g,k * 4,none⟩::(vAs (⟨s,x.d.regs.length,c⟩:VS)++(vAs (⟨s',x.d.vw.length,c'⟩:VS)++[⟨g,k * 4+3,none⟩])):=by
    simp [recAs,fAs,wide_one,adr,TK]
   have et:(L.take (k+1)).map (fun x=>coreV x.d)=(L.take k).map (fun x=>coreV x.d)++[coreV x.d]:=by rw [List.take_add_one,hx];simp
   refine ⟨R++[[.i,.r ⟨s,x.d.regs.length,c⟩ 1,.r ⟨s',x.d.vw.length,c'⟩ 1,.i]],?_,fun a ha=>?_⟩
   ·rw [et]
    refine GO.push _ _ hR ⟨_,_,rfl⟩ rfl rfl (fun _ _ _ _ _ _ _ _ _ _ hf=>hf) (fun j f u hf hu=>?_) (fun x' e' hx' a ha g' o' hg'=>?_) ?_ (fun a ha ha'=>?_)
    ·rw [tl]
     match j,hf,hu with
     | 0,hf,hu=>
      simp at hf
      simp [coreV] at hu
      subst hf hu
      exact ⟨by simpa [adr,TK] using q 0 _ (by omega) fa,World.ownsRow.frozenAt hrow _,hlt.1,hlt.2⟩
     | 1,hf,hu=>
      simp at hf
      simp [coreV] at hu
      subst hf hu
      refine ⟨by have:=q 1 _ (by omega) fb;rw [ev] at this;simpa [adr,TK] using this,⟨hlt.1,hlt.2⟩,by rw [wide_one];exact vo⟩
     | 2,hf,hu=>
      simp at hf
      simp [coreV] at hu
      subst hf hu
      refine ⟨by have:=q 2 _ (by omega) fc;rw [ev'] at this;simpa [adr,TK] using this,⟨hlt.1,hlt.2⟩,by rw [wide_one];exact vo'⟩
     | 3,hf,hu=>
      simp at hf
      simp [coreV] at hu
      subst hf hu
      exact ⟨by simpa [adr,TK] using q 3 _ (by omega) fd,World.ownsRow.frozenAt hrow _,hlt.1,hlt.2⟩
    ·injection hg' with hg'
     injection hg' with hg'
     simp at hx'
     rw [← hg']
     rcases hx' with ⟨rfl,rfl⟩ | ⟨rfl,rfl⟩
     ·rw [wide_one] at ha
      exact far i1 (ow a ha)
     ·rw [wide_one] at ha
      exact far i2 (ow' a ha)
    ·rw [tl,ra]
     refine List.nodup_cons.2 ⟨fun hm=>?_,List.nodup_append.2 ⟨vo.nodup,List.nodup_append.2 ⟨vo'.nodup,by simp,fun a ha b hb eq=>?_⟩,fun a ha b hb eq=>?_⟩⟩
     ·rcases List.mem_append.1 hm with hm | hm
      ·exact far i1 (ow _ hm) rfl
      ·rcases List.mem_append.1 hm with hm | hm
       ·exact far i2 (ow' _ hm) rfl
       ·simp at hm
     ·simp at hb
      subst hb eq
      exact far i2 (ow' _ ha) rfl
     ·subst eq
      rcases List.mem_append.1 hb with hb | hb
      ·exact h.two k x _ hx (ow _ ha) (ow' _ hb)
      ·simp at hb
       subst hb
       exact far i1 (ow _ ha) rfl
    ·rw [tl,ra] at ha'
     have new:a.block=g∧(a=⟨g,k * 4,none⟩∨a=⟨g,k * 4+3,none⟩)∨(x.r.ownBlock=some a.block∨x.v.ownBlock=some a.block):=by
      rcases List.mem_cons.1 ha' with rfl | ha'
      ·exact .inl ⟨rfl,.inl rfl⟩
      ·rcases List.mem_append.1 ha' with ha' | ha'
       ·exact .inr (.inl (ow a ha'))
       ·rcases List.mem_append.1 ha' with ha' | ha'
        ·exact .inr (.inr (ow' a ha'))
        ·simp at ha'
         exact .inl ⟨by rw [ha'],.inr ha'⟩
     rcases hA a ha with ⟨i,j,hi,hj,e1⟩ | ⟨i,z,hi,hz,hb⟩
     ·rcases new with ⟨-,e2 | e2⟩ | hb
      ·rw [e1] at e2;simp at e2<;>omega
      ·rw [e1] at e2;simp at e2<;>omega
      ·rcases hb with hb | hb
       ·exact far i1 hb (by rw [e1])
       ·exact far i2 hb (by rw [e1])
     ·rcases new with ⟨e2,-⟩ | hb'
      ·obtain ⟨j1,j2⟩:=h.inn i z hz
       rcases hb with hb | hb
       ·exact far j1 hb e2
       ·exact far j2 hb e2
      ·exact h.sep i k z x _ hz hx (by omega) hb hb'
   ·rw [gAs_append] at ha
    rcases List.mem_append.1 ha with ha | ha
    ·rcases hA a ha with ⟨i,j,hi,hj,e1⟩ | ⟨i,z,hi,hz,hb⟩
     ·exact .inl ⟨i,j,by omega,hj,e1⟩
     ·exact .inr ⟨i,z,by omega,hz,hb⟩
    ·have hl:R.length=k:=by have:=hR.n;rw [tl] at this;exact this
     rw [hl] at ha
     simp only [gAs,List.append_nil,Nat.zero_add] at ha
     rw [ra] at ha
     rcases List.mem_cons.1 ha with e1 | ha
     ·exact .inl ⟨k,0,by omega,by omega,by rw [e1,Nat.add_zero]⟩
     ·rcases List.mem_append.1 ha with ha | ha
      ·exact .inr ⟨k,x,by omega,hx,.inl (ow a ha)⟩
      ·rcases List.mem_append.1 ha with ha | ha
       ·exact .inr ⟨k,x,by omega,hx,.inr (ow' a ha)⟩
       ·simp at ha
        exact .inl ⟨k,3,by omega,by omega,ha⟩
 obtain ⟨R,hR,hA⟩:=step L.length (Nat.le_refl _)
 rw [List.take_length] at hR
 refine ⟨some ⟨g,0,none⟩,cap,R,e,hR,fun a ha=>?_⟩
 rcases hA a ha with ⟨i,j,-,-,e1⟩ | ⟨i,z,-,hz,hb⟩
 ·left
  rw [e,e1]
  rfl
 ·exact .inr ⟨i,z,hz,hb⟩
end
section
open Go.RowKit
theorem steps_cell {w:World} {g off:Nat} {l:List I5} (hc:∀ i,i < l.length→At5 w g (off+i * 5) (l.getD i z5)) (i:Nat) (hi:i < l.length * 5):w.cell? ⟨g,off+i,none⟩=some (.int .i64 ((fl5 l).getD i 0)):=by
 have hk:i / 5 < l.length:=by omega
 have hx:l[i / 5]? =some (l.getD (i / 5) z5):=by rw [List.getD_eq_getElem?_getD,List.getElem?_eq_getElem hk];rfl
 obtain ⟨c0,c1,c2,c3,c4⟩:=hc (i / 5) hk
 obtain ⟨e0,e1,e2,e3,e4⟩:=fl5_at l (i / 5) _ hx
 rw [List.getD_eq_getElem?_getD]
 rcases (show i % 5=0∨i % 5=1∨i % 5=2∨i % 5=3∨i % 5=4 by omega) with h | h | h | h | h
 ·have e:i=i / 5 * 5:=by omega
  rw [e];rw [e0];exact c0
 ·have e:i=i / 5 * 5+1:=by omega
  rw [e,← Nat.add_assoc];rw [e1];exact c1
 ·have e:i=i / 5 * 5+2:=by omega
  rw [e,← Nat.add_assoc];rw [e2];exact c2
 ·have e:i=i / 5 * 5+3:=by omega
  rw [e,← Nat.add_assoc];rw [e3];exact c3
 ·have e:i=i / 5 * 5+4:=by omega
  rw [e,← Nat.add_assoc];rw [e4];exact c4
theorem infoSt:∃ i,Tryz.prog.info? 141=some i∧i.zero=some (.agg #[.int .i64 0,.int .i64 0,.int .i64 0,.int .i64 0,.int .i64 0])∧i.size=5∧i.bytes=40:=⟨_,rfl,rfl,rfl,rfl⟩
theorem infoCd:∃ i,Tryz.prog.info? 102=some i∧i.zero=some (.slice none 0 0)∧i.size=1∧i.bytes=24:=⟨_,rfl,rfl,rfl,rfl⟩
theorem infoKo:∃ i,Tryz.prog.info? 53=some i∧i.zero=some (.agg #[.int .i64 0,.slice none 0 0,.slice none 0 0,.int .i64 0])∧i.size=4∧i.bytes=64:=⟨_,rfl,rfl,rfl,rfl⟩
theorem run_append_zeroS (w : World) (base : Nat) (v : Value) (l : List I5) (hown : OwnT5 w base v l) (s : Option Addr) (c : Nat) :
  (Builtin.append_ #[102,102] 102 #[v,.slice s 0 c]).run Tryz.prog w=.ok v w:=by
 obtain ⟨i0,hi,hz0,hz1,hz2⟩:=infoSt
 rcases hown.2 with ⟨rfl,-⟩ | ⟨g,cap,cur,rfl,_,_,hnc,_⟩
 ·cases s<;>simp [Builtin.append_,run_underlying Tryz.underlying102,sizeOf,typeInfo,hi,Builtin.lenOf,Builtin.firstCells,loadCells,loadCellsFrom,storeCells]
 ·cases s<;>simp [Builtin.append_,run_underlying Tryz.underlying102,sizeOf,typeInfo,hi,Builtin.lenOf,Builtin.firstCells,hnc,storeCells,loadCells,loadCellsFrom,storeCells]
theorem wp_copyS {o : Oper} {a : Act} {w : World} {K : Act → World → Prop} {Q : Exit → Act → World → Prop} (s x : Operand) (hty : o.type = 102) (ho : o.op = .call { callee := .builtin .append, args := #[s, x], argTypes := #[102, 102] })
  (base:Nat) (sv:Option Addr) (cv:Nat) (hs:a.eval s=.slice sv 0 cv) (hown:OwnT5 w base (.slice sv 0 cv) []) (sx:Option Addr) (c:Nat) (l:List I5) {lo hi:Nat} (hx:a.eval x=.slice sx l.length c) (hr:InsR w lo hi sx l) (hn:l.length≤1073741824) (hbase:base≤w.heap.size)
  (h:∀ s' c' w',OwnT5 w' base (.slice s' l.length c') l→Copied w w' sv cv base l.length s' c'→K (a.put o.dst (.slice s' l.length c')) w'):Oper.wp Tryz.prog o a w K Q:=by
 rcases Nat.eq_zero_or_pos l.length with h0 | hl
 ·have e:=List.length_eq_zero_iff.1 h0
  subst e
  have hrun:=run_append_zeroS w base _ _ hown sx c
  unfold Oper.wp
  simp at hx
  simp [execOp,ho,resolve,invoke,builtin,hs,hx,hty,hrun,Result.andThen]
  exact h sv cv w hown ⟨fun _ _ _=>rfl,Below.refl _ _,fun k hk=>.inr hk⟩
 ·rcases hr with rfl | ⟨g,off,rfl,h1,h2,hc⟩
  ·simp at hl
  ·obtain ⟨i0,hi0,hz0,hz1,hz2⟩:=infoSt
   refine wp_append_lies w s x 102 ho base 141 i0 _ 5 40 Tryz.underlying102 hi0 hz0 hz1 hz2 rfl (by decide) _ 0 _ hs hown ⟨g,off,none⟩ l.length c ((fl5 l).map (Value.int .i64)) hx (by rw [List.length_map,fl5_len]) (fun j u hj=>?_) (fun u hu=>by obtain ⟨z,-,rfl⟩:=List.mem_map.1 hu;rfl) hl (by unfold maxLen;omega) (by omega) hbase _ rfl ?_
   ·rw [List.getElem?_map] at hj
    obtain ⟨z,hz,rfl⟩:=Option.map_eq_some_iff.1 hj
    have hj':=(List.getElem?_eq_some_iff.1 hz).1
    rw [fl5_len] at hj'
    have q:=steps_cell hc j hj'
    rw [List.getD_eq_getElem?_getD,hz] at q
    have ea:Addr.add ⟨g,off,none⟩ j=⟨g,off+j,none⟩:=by
     by_cases h:j=0
     ·subst h;rfl
     ·simp [Addr.add,h]
    rw [ea]
    exact q
   intro g' cap w' q1 q2 q3 q4
   have hb:Below base w w':=Below.grown (Below.refl _ _) q2 hbase (fun j hj=>(World.ownsRow.lt hown _ hj).1)
   rw [Nat.zero_add]
   rw [Nat.zero_add] at q1
   refine h _ _ w' (by show w'.ownsRow base 141 5 _ l.length ((fl5 l).map (Value.int .i64));exact q1) ⟨fun k hk hne=>q2.block k hk (fun e=>hne e.symm),hb,fun k hk=>?_⟩
   injection hk with hk
   rcases q3 with q3 | q3
   ·exact .inr (by rw [q3];exact congrArg some hk)
   ·exact .inl (by have:g'=k:=hk;omega)
theorem app_copyS {ops : Array Oper} {rest : List Oper} {o : Oper} {a : Act} {Q : Exit → Act → World → Prop} (hgd : o.guard = none) (s x : Operand) (hty : o.type = 102) (ho : o.op = .call { callee := .builtin .append, args := #[s, x], argTypes := #[102, 102] }) (w : World)
  (base:Nat) (sv:Option Addr) (cv:Nat) (hs:a.eval s=.slice sv 0 cv) (hown:OwnT5 w base (.slice sv 0 cv) []) (sx:Option Addr) (c:Nat) (l:List I5) {lo hi:Nat} (hx:a.eval x=.slice sx l.length c) (hr:InsR w lo hi sx l) (hn:l.length≤1073741824) (hbase:base≤w.heap.size)
  (h:∀ s' c' w',OwnT5 w' base (.slice s' l.length c') l→Copied w w' sv cv base l.length s' c'→wpList Tryz.prog ops Q rest (a.put o.dst (.slice s' l.length c')) w'):wpList Tryz.prog ops Q (o::rest) a w:=
 wpList_plain hgd fun _ hK=>wp_copyS s x hty ho base sv cv hs hown sx c l hx hr hn hbase fun s' c' w' h1 h2=>hK _ _ (h s' c' w' h1 h2)
/- one more row of steps -/
structure PushedC (w w':World) (base:Nat) (v:Value) (L:List CV) (y:CV) (g cap:Nat):Prop where
 own:OwnC w' base (.slice (some ⟨g,0,none⟩) (L.length+1) cap) (L++[y])
 low:Below base w w'
theorem app_rowC {ops : Array Oper} {rest : List Oper} {o : Oper} {a : Act} {Q : Exit → Act → World → Prop} (hgd : o.guard = none) (s x : Operand) (ho : o.op = .call { callee := .builtin .append, args := #[s, x], argTypes := #[31, 31] })
  (w:World) (base:Nat) (v:Value) (L:List CV) (y:CV) (hs:a.eval s=v) (hown:OwnC w base v L) (hy:OwnT5 w base y.v y.l) (h1:y.v.oneCell'=true) (hx:a.eval x=.slice (some ⟨w.heap.size,0,none⟩) 1 1) (hn:L.length≤1073741824) (hbase:base≤w.heap.size)
  (hsep:∀ (i:Nat) (z:CV) (k:Nat),L[i]? =some z→y.v.ownBlock=some k→z.v.ownBlock≠some k)
  (h:∀ g cap w',PushedC w w' base v L y g cap→wpList Tryz.prog ops Q rest (a.put o.dst (.slice (some ⟨g,0,none⟩) (L.length+1) cap)) w'):
  wpList Tryz.prog ops Q (o::rest) a (w.alloc (.cells #[y.v] 102)):=by
 obtain ⟨i0,hi,hz0,hz1,hz2⟩:=infoCd
 have h1':(w.alloc (.cells #[y.v] 102)).ownsRow base 102 1 v L.length (L.map CV.v):=ownKeep' hown.row (fun k hk=>Below.heap_alloc _ _ _ (World.ownsRow.lt hown.row _ hk).2)
 refine wpList_append_lies _ hgd s x 31 ho base 102 i0 _ 1 24 Tryz.underlying31 hi hz0 hz1 hz2 rfl (by decide) v L.length _ hs h1' ⟨w.heap.size,0,none⟩ 1 1 [y.v] hx rfl (fun j u hj=>?_) (fun u hu=>by simp at hu;subst hu;exact h1) (by decide) (by unfold maxLen;omega) (by omega) (by simp;omega) _ rfl ?_
 ·match j,hj with
  | 0,hj=>simpa [Addr.add,go_sem] using hj
  | j+1,hj=>simp at hj
 intro g cap w' q1 q2 q3 q4
 have hb:Below base w w':=Below.grown (((Below.refl _ _).alloc hbase _)) q2 (by simp;omega) (fun j hj=>(World.ownsRow.lt h1' _ hj).1)
 have hf:∀ k,k < w.heap.size→v.ownBlock≠some k→w'.heap[k]? =w.heap[k]? :=fun k hk hne=>(q2.block k (by simp;omega) (fun e=>hne e.symm)).trans (Below.heap_alloc _ _ _ hk)
 exact h g cap w' ⟨OwnC.push hown hy hsep q1 hf,hb⟩
end
section
open Go.RowKit
structure PushedK (w w':World) (base:Nat) (v:Value) (L:List KV) (y:KV) (g cap:Nat):Prop where
 own:OwnK w' base (.slice (some ⟨g,0,none⟩) (L.length+1) cap) (L++[y])
 low:Below base w w'
 far:∀ k,k < w.heap.size→v.ownBlock≠some k→w'.heap[k]? =w.heap[k]?
theorem wp_recK {o : Oper} {a : Act} {K : Act → World → Prop} {Q : Exit → Act → World → Prop} (s x : Operand) (ho : o.op = .call { callee := .builtin .append, args := #[s, x], argTypes := #[32, 32] })
  (w:World) (base:Nat) (v:Value) (L:List KV) (y:KV) (hs:a.eval s=v) (hown:OwnK w base v L) (hy:OwnN w base y.r y.d.regs∧OwnN w base y.v y.d.vw) (ht:∀ k,y.r.ownBlock=some k→y.v.ownBlock≠some k) (h1:y.r.oneCell'=true) (h2:y.v.oneCell'=true) (g0:Nat) (hg:g0=w.heap.size) (hx:a.eval x=.slice (some ⟨g0,0,none⟩) 1 1) (hn:L.length≤1073741824) (hbase:base≤w.heap.size)
  (hsep:∀ (i:Nat) (z:KV) (k:Nat),L[i]? =some z→(y.r.ownBlock=some k∨y.v.ownBlock=some k)→¬ (z.r.ownBlock=some k∨z.v.ownBlock=some k))
  (h:∀ g cap w',PushedK w w' base v L y g cap→K (a.put o.dst (.slice (some ⟨g,0,none⟩) (L.length+1) cap)) w'):
  Oper.wp Tryz.prog o a (w.alloc (.cells #[.int .i64 y.d.pc,y.r,y.v,.int .i64 y.d.st] 53)) K Q:=by
 subst hg
 obtain ⟨i0,hi,hz0,hz1,hz2⟩:=infoKo
 have h1':(w.alloc (.cells #[.int .i64 y.d.pc,y.r,y.v,.int .i64 y.d.st] 53)).ownsRow base 53 4 v L.length (flatK L):=ownKeep' hown.row (fun k hk=>Below.heap_alloc _ _ _ (World.ownsRow.lt hown.row _ hk).2)
 refine wp_append_lies _ s x 32 ho base 53 i0 _ 4 64 Tryz.underlying32 hi hz0 hz1 hz2 rfl (by decide) v L.length _ hs h1' ⟨w.heap.size,0,none⟩ 1 1 [.int .i64 y.d.pc,y.r,y.v,.int .i64 y.d.st] hx rfl (fun j u hj=>?_) (fun u hu=>by simp at hu;rcases hu with rfl | rfl | rfl | rfl;rfl;exact h1;exact h2;rfl) (by decide) (by unfold maxLen;omega) (by omega) (by simp;omega) _ rfl ?_
 ·match j,hj with
  | 0,hj=>simpa [Addr.add,go_sem] using hj
  | 1,hj=>simpa [Addr.add,go_sem] using hj
  | 2,hj=>simpa [Addr.add,go_sem] using hj
  | 3,hj=>simpa [Addr.add,go_sem] using hj
  | j+4,hj=>simp at hj
 intro g cap w' q1 q2 q3 q4
 have hb:Below base w w':=Below.grown (((Below.refl _ _).alloc hbase _)) q2 (by simp;omega) (fun j hj=>(World.ownsRow.lt h1' _ hj).1)
 have hf:∀ k,k < w.heap.size→v.ownBlock≠some k→w'.heap[k]? =w.heap[k]? :=fun k hk hne=>(q2.block k (by simp;omega) (fun e=>hne e.symm)).trans (Below.heap_alloc _ _ _ hk)
 exact h g cap w' ⟨OwnK.push hown hy ht hsep q1 hf,hb,hf⟩
theorem step_recK {ops : Array Oper} {o : Oper} {a : Act} {K : Act → World → Prop} {Q : Exit → Act → World → Prop} {E : Prop} (hgd : o.guard = none) (s x : Operand) (ho : o.op = .call { callee := .builtin .append, args := #[s, x], argTypes := #[32, 32] })
  (w:World) (base:Nat) (v:Value) (L:List KV) (y:KV) (hs:a.eval s=v) (hown:OwnK w base v L) (hy:OwnN w base y.r y.d.regs∧OwnN w base y.v y.d.vw) (ht:∀ k,y.r.ownBlock=some k→y.v.ownBlock≠some k) (h1:y.r.oneCell'=true) (h2:y.v.oneCell'=true) (g0:Nat) (hg:g0=w.heap.size) (hx:a.eval x=.slice (some ⟨g0,0,none⟩) 1 1) (hn:L.length≤1073741824) (hbase:base≤w.heap.size)
  (hsep:∀ (i:Nat) (z:KV) (k:Nat),L[i]? =some z→(y.r.ownBlock=some k∨y.v.ownBlock=some k)→¬ (z.r.ownBlock=some k∨z.v.ownBlock=some k))
  (h:∀ g cap w',PushedK w w' base v L y g cap→K (a.put o.dst (.slice (some ⟨g,0,none⟩) (L.length+1) cap)) w'):
  if Region.wanted o (yielded ops a.tmps)=true then Oper.wp Tryz.prog o a (w.alloc (.cells #[.int .i64 y.d.pc,y.r,y.v,.int .i64 y.d.st] 53)) K Q else E:=by
 have hw:Region.wanted o (yielded ops a.tmps)=true:=by simp [Region.wanted,hgd]
 rw [if_pos hw]
 exact wp_recK s x ho w base v L y hs hown hy ht h1 h2 g0 hg hx hn hbase hsep h
end
section
open Go.RowKit
set_option maxHeartbeats 1000000 in
theorem sameCodes_any (s : Option Addr) (c lo hi : Nat) (l : List (List I5)) (w : World) (h : CsR w lo hi s l) (hB : hi ≤ w.heap.size) (hl : l.length + szC l ≤ 1048576) :
  Calls Tryz.prog 94 #[.slice s l.length c] w fun e w'=>∃ v L,e=.returned v∧L.map CV.l=l∧OwnC w' w.heap.size v L∧Below w.heap.size w w':=by
 have H:Hid (CsR w lo hi s l):=h
 have HV:Hid (∀ (i:Nat) (x:List I5),l[i]? =some x→x.length≤1048576):=fun i x hx=>by have:=szC_at l i x hx;omega
 clear h
 go_enter Tryz.func94,Tryz.ntmps94
 go_wp2
 go_loopw [3,8] (fun v i wr=>∃ (k:Nat) (L:List CV),k≤l.length∧i=.int .i64 k∧L.length=k∧L.map CV.l=l.take k∧OwnC wr w.heap.size v L∧Below w.heap.size w wr) (fun _ i _=>l.length - (intOf i).toNat)
 case atStart=>exact ⟨0,[],Nat.zero_le _,rfl,rfl,rfl,OwnC.nil _ _,Below.refl _ _⟩
 case round=>
  obtain ⟨k,L,hk,rfl,hL,hM,ho,hb⟩:=hrel
  obtain ⟨sv,cv,ev⟩:=ownSl ho.row
  rw [hL] at ev
  subst ev
  have HO:Hid (OwnC wr w.heap.size (.slice sv k cv) L):=ho
  have HB:Hid (Below w.heap.size w wr):=hb
  have HL:Hid (L.length=k):=hL
  have HM:Hid (L.map CV.l=l.take k):=hM
  have hz:=hb.size
  clear ho hb hL hM
  by_cases hlt:k < l.length
  ·obtain ⟨x,hx⟩:∃ x,l[k]? =some x:=⟨_,List.getElem?_eq_getElem hlt⟩
   obtain ⟨g,o,s1,c1,e1,q1,q2,q3,q5⟩:=(H.out.keep (Keep.of_below HB.out hB)).at hx
   subst e1
   have hv:=HV.out k x hx
   have HI:Hid (InsR wr lo hi s1 x):=q5
   have HX:Hid (l[k]? =some x):=hx
   clear q5 hx
   have b0:(0:Int)≤(k:Int):=by omega
   have b1:(k:Int) < (l.length:Int):=by omega
   have zg:g < wr.heap.size:=by omega
   go_wp2_with (first | (at_builtin;refine app_copyS rfl _ _ rfl rfl wr wr.heap.size none 0 rfl (World.ownsRow_nil _ _ _ _) s1 c1 x (by rfl) (HI.out) (by omega) (Nat.le_refl _) ?_;intro s5 c5 w5 ho5 hc5;have O5:=(show Hid (OwnT5 w5 wr.heap.size (.slice s5 x.length c5) x) from ho5);have K5:=(show Hid (Below wr.heap.size wr w5) from hc5.low);have Z5:=(show Hid (∀ k,(Value.slice s5 x.length c5).ownBlock=some k→wr.heap.size≤k) from fun k hk=>(World.ownsRow.lt ho5 _ hk).1);clear ho5 hc5) | (at_builtin;refine app_rowC rfl _ _ rfl w5 w.heap.size (.slice sv k cv) L ⟨x,.slice s5 x.length c5⟩ rfl (HO.out.below K5.out) (ownLow' O5.out (by omega)) rfl (by rfl) (by have:=HL.out;omega) (by have:=K5.out.size;omega) (fun i z kk hz1 hk1 hk2=>by have h1:=Z5.out kk hk1;have h2:=(World.ownsRow.lt (HO.out.inn i z hz1) _ hk2).2;omega) ?_;intro g6 c6 w6 hp6;have P6:=(show Hid (OwnC w6 w.heap.size (.slice (some ⟨g6,0,none⟩) (L.length+1) c6) (L++[⟨x,.slice s5 x.length c5⟩])) from hp6.own);have K6:=(show Hid (Below w.heap.size w w6) from (HB.out.trans (K5.out.mono hz)).trans hp6.low);clear hp6))
   go_roundw
   case rel=>
    refine ⟨k+1,L++[⟨x,.slice s5 x.length c5⟩],by omega,by go_num,by simp [HL.out],?_,P6.out,K6.out⟩
    rw [List.map_append,HM.out,List.take_add_one,HX.out]
    rfl
   case measure=>simp [intOf];omega
  ·go_wp2
   go_ret
   have e:k=l.length:=by omega
   have hm:=HM.out
   rw [List.take_of_length_le (by omega)] at hm
   exact ⟨_,L,rfl,hm,HO.out,HB.out⟩
set_option maxHeartbeats 1000000 in
theorem l8Codes_any (s : Option Addr) (c lo hi : Nat) (l : List (List I5)) (w : World) (h : CsR w lo hi s l) (hB : hi ≤ w.heap.size) (hl : l.length + szC l ≤ 1048576) :
  Calls Tryz.prog 59 #[.slice s l.length c] w fun e w'=>∃ v L,e=.returned v∧L.map CV.l=l∧OwnC w' w.heap.size v L∧Below w.heap.size w w':=by
 have H:Hid (CsR w lo hi s l):=h
 have HV:Hid (∀ (i:Nat) (x:List I5),l[i]? =some x→x.length≤1048576):=fun i x hx=>by have:=szC_at l i x hx;omega
 clear h
 go_enter Tryz.func59,Tryz.ntmps59
 go_wp2
 go_loopw [3,4] (fun v i wr=>∃ (k:Nat) (L:List CV),k≤l.length∧i=.int .i64 k∧L.length=k∧L.map CV.l=l.take k∧OwnC wr w.heap.size v L∧Below w.heap.size w wr) (fun _ i _=>l.length - (intOf i).toNat)
 case atStart=>exact ⟨0,[],Nat.zero_le _,rfl,rfl,rfl,⟨World.ownsRow_lit w #[] 0 (Nat.le_refl _) (by unfold maxLen;omega) rfl,fun i x hx=>by simp at hx,fun i j x y k hx=>by simp at hx⟩,(Below.refl _ _).alloc (Nat.le_refl _) _⟩
 case round=>
  obtain ⟨k,L,hk,rfl,hL,hM,ho,hb⟩:=hrel
  obtain ⟨sv,cv,ev⟩:=ownSl ho.row
  rw [hL] at ev
  subst ev
  have HO:Hid (OwnC wr w.heap.size (.slice sv k cv) L):=ho
  have HB:Hid (Below w.heap.size w wr):=hb
  have HL:Hid (L.length=k):=hL
  have HM:Hid (L.map CV.l=l.take k):=hM
  have hz:=hb.size
  clear ho hb hL hM
  by_cases hlt:k < l.length
  ·obtain ⟨x,hx⟩:∃ x,l[k]? =some x:=⟨_,List.getElem?_eq_getElem hlt⟩
   obtain ⟨g,o,s1,c1,e1,q1,q2,q3,q5⟩:=(H.out.keep (Keep.of_below HB.out hB)).at hx
   subst e1
   have hv:=HV.out k x hx
   have HI:Hid (InsR wr lo hi s1 x):=q5
   have HX:Hid (l[k]? =some x):=hx
   clear q5 hx
   have b0:(0:Int)≤(k:Int):=by omega
   have b1:(k:Int) < (l.length:Int):=by omega
   have zg:g < wr.heap.size:=by omega
   go_wp2_with (first | (at_builtin;refine app_copyS rfl _ _ rfl rfl (wr.alloc (.cells #[] 141)) wr.heap.size (some ⟨wr.heap.size,0,none⟩) 0 rfl (World.ownsRow_lit wr #[] 0 (Nat.le_refl _) (by unfold maxLen;omega) rfl) s1 c1 x (by rfl) (HI.out.keep (Keep.of_below ((Below.refl wr.heap.size wr).alloc (Nat.le_refl _) _) (by omega))) (by omega) (by simp) ?_;intro s5 c5 w5 ho5 hc5;have O5:=(show Hid (OwnT5 w5 wr.heap.size (.slice s5 x.length c5) x) from ho5);have K5:=(show Hid (Below wr.heap.size wr w5) from ((Below.refl wr.heap.size wr).alloc (Nat.le_refl _) _).trans hc5.low);have Z5:=(show Hid (∀ k,(Value.slice s5 x.length c5).ownBlock=some k→wr.heap.size≤k) from fun k hk=>(World.ownsRow.lt ho5 _ hk).1);clear ho5 hc5) | (at_builtin;refine app_rowC rfl _ _ rfl w5 w.heap.size (.slice sv k cv) L ⟨x,.slice s5 x.length c5⟩ rfl (HO.out.below K5.out) (ownLow' O5.out (by omega)) rfl (by rfl) (by have:=HL.out;omega) (by have:=K5.out.size;omega) (fun i z kk hz1 hk1 hk2=>by have h1:=Z5.out kk hk1;have h2:=(World.ownsRow.lt (HO.out.inn i z hz1) _ hk2).2;omega) ?_;intro g6 c6 w6 hp6;have P6:=(show Hid (OwnC w6 w.heap.size (.slice (some ⟨g6,0,none⟩) (L.length+1) c6) (L++[⟨x,.slice s5 x.length c5⟩])) from hp6.own);have K6:=(show Hid (Below w.heap.size w w6) from (HB.out.trans (K5.out.mono hz)).trans hp6.low);clear hp6))
   go_roundw
   case rel=>
    refine ⟨k+1,L++[⟨x,.slice s5 x.length c5⟩],by omega,by go_num,by simp [HL.out],?_,P6.out,K6.out⟩
    rw [List.map_append,HM.out,List.take_add_one,HX.out]
    rfl
   case measure=>simp [intOf];omega
  ·go_wp2
   go_ret
   have e:k=l.length:=by omega
   have hm:=HM.out
   rw [List.take_of_length_le (by omega)] at hm
   exact ⟨_,L,rfl,hm,HO.out,HB.out⟩
end
end
section
set_option linter.unusedSimpArgs false
set_option linter.unusedVariables false
set_option maxRecDepth 100000
open Go.RowKit
theorem infoD:∃ i,Tryz.prog.info? 105=some i∧i.zero=some (.agg #[.int .i64 0,.int .i64 0])∧i.size=2∧i.bytes=16:=⟨_,rfl,rfl,rfl,rfl⟩
theorem run_append_zeroD (w : World) (base : Nat) (v : Value) (l : List ND) (hown : OwnD w base v l) (s : Option Addr) (c : Nat) :
  (Builtin.append_ #[36,36] 36 #[v,.slice s 0 c]).run Tryz.prog w=.ok v w:=by
 obtain ⟨i0,hi,hz0,hz1,hz2⟩:=infoD
 rcases hown.2 with ⟨rfl,-⟩ | ⟨g,cap,cur,rfl,_,_,hnc,_⟩
 ·cases s<;>simp [Builtin.append_,run_underlying Tryz.underlying36,sizeOf,typeInfo,hi,Builtin.lenOf,Builtin.firstCells,loadCells,loadCellsFrom,storeCells]
 ·cases s<;>simp [Builtin.append_,run_underlying Tryz.underlying36,sizeOf,typeInfo,hi,Builtin.lenOf,Builtin.firstCells,hnc,storeCells,loadCells,loadCellsFrom,storeCells]
theorem news_notes {w:World} {g o:Nat} {l:List ND} (hc:∀ (i:Nat) (n:ND),l[i]? =some n→NtR w g (o+i * 2) n):∀ j u,(flatN l)[j]? =some u→w.cell? (Addr.add ⟨g,o,none⟩ j)=some u:=by
 intro j u hu
 have hj:j < l.length * 2:=by have:=(List.getElem?_eq_some_iff.1 hu).1;rw [flatN_len] at this;exact this
 have ea:(Addr.add ⟨g,o,none⟩ j)=⟨g,o+j,none⟩:=by
  by_cases h:j=0
  ·subst h;rfl
  ·simp [Addr.add,h]
 have hi:j / 2 < l.length:=by omega
 have h1:=hc (j / 2) _ (List.getElem?_eq_getElem hi)
 obtain ⟨e0,e1⟩:=flatN_at l (j / 2) _ (List.getElem?_eq_getElem hi)
 rw [ea]
 rcases (show j=j / 2 * 2∨j=j / 2 * 2+1 by omega) with e | e
 ·rw [e,e0] at hu
  rw [e,← hu]
  exact h1.1
 ·rw [e,e1] at hu
  rw [e,← hu]
  exact h1.2
theorem flatN_one:∀ (l:List ND),∀ u∈flatN l,u.oneCell'=true
 | [],u,h=>by simp [flatN] at h
 | x::r,u,h=>by
  simp only [flatN,List.mem_append,List.mem_cons,List.not_mem_nil,or_false] at h
  rcases h with (rfl | rfl) | h
  ·rfl
  ·rfl
  ·exact flatN_one r u h
theorem wp_copyD {o : Oper} {a : Act} {w : World} {K : Act → World → Prop} {Q : Exit → Act → World → Prop} (s x : Operand) (hty : o.type = 36) (ho : o.op = .call { callee := .builtin .append, args := #[s, x], argTypes := #[36, 36] })
  (base:Nat) (sv:Option Addr) (cv:Nat) (hs:a.eval s=.slice sv 0 cv) (hown:OwnD w base (.slice sv 0 cv) []) (sx:Option Addr) (c:Nat) (l:List ND) {lo hi:Nat} (hx:a.eval x=.slice sx l.length c) (hr:NtsR w lo hi sx l) (hn:l.length≤1073741824) (hbase:base≤w.heap.size)
  (h:∀ s' c' w',OwnD w' base (.slice s' l.length c') l→Copied w w' sv cv base l.length s' c'→K (a.put o.dst (.slice s' l.length c')) w'):Oper.wp Tryz.prog o a w K Q:=by
 rcases Nat.eq_zero_or_pos l.length with h0 | hl
 ·have e:=List.length_eq_zero_iff.1 h0
  subst e
  have hrun:=run_append_zeroD w base _ _ hown sx c
  unfold Oper.wp
  simp at hx
  simp [execOp,ho,resolve,invoke,builtin,hs,hx,hty,hrun,Result.andThen]
  exact h sv cv w hown ⟨fun _ _ _=>rfl,Below.refl _ _,fun k hk=>.inr hk⟩
 ·rcases hr with rfl | ⟨g,off,rfl,h1,h2,hc⟩
  ·simp at hl
  ·obtain ⟨i0,hi0,hz0,hz1,hz2⟩:=infoD
   refine wp_append_lies w s x 36 ho base 105 i0 _ 2 16 Tryz.underlying36 hi0 hz0 hz1 hz2 rfl (by decide) _ 0 _ hs hown ⟨g,off,none⟩ l.length c (flatN l) hx (flatN_len l) (news_notes hc) (flatN_one l) hl (by unfold maxLen;omega) (by omega) hbase _ rfl ?_
   intro g' cap w' q1 q2 q3 q4
   have hb:Below base w w':=Below.grown (Below.refl _ _) q2 hbase (fun j hj=>(World.ownsRow.lt hown _ hj).1)
   rw [Nat.zero_add]
   rw [Nat.zero_add] at q1
   refine h _ _ w' q1 ⟨fun k hk hne=>q2.block k hk (fun e=>hne e.symm),hb,fun k hk=>?_⟩
   injection hk with hk
   rcases q3 with q3 | q3
   ·exact .inr (by rw [q3];exact congrArg some hk)
   ·exact .inl (by have:g'=k:=hk;omega)
theorem step_copyD {ops : Array Oper} {o : Oper} {a : Act} {K : Act → World → Prop} {Q : Exit → Act → World → Prop} {E : Prop} (hgd : o.guard = none) (s x : Operand) (hty : o.type = 36) (ho : o.op = .call { callee := .builtin .append, args := #[s, x], argTypes := #[36, 36] }) (w : World)
  (base:Nat) (sv:Option Addr) (cv:Nat) (hs:a.eval s=.slice sv 0 cv) (hown:OwnD w base (.slice sv 0 cv) []) (sx:Option Addr) (c:Nat) (l:List ND) {lo hi:Nat} (hx:a.eval x=.slice sx l.length c) (hr:NtsR w lo hi sx l) (hn:l.length≤1073741824) (hbase:base≤w.heap.size)
  (h:∀ s' c' w',OwnD w' base (.slice s' l.length c') l→Copied w w' sv cv base l.length s' c'→K (a.put o.dst (.slice s' l.length c')) w'):if Region.wanted o (yielded ops a.tmps)=true then Oper.wp Tryz.prog o a w K Q else E:=by
 have hw:Region.wanted o (yielded ops a.tmps)=true:=by simp [Region.wanted,hgd]
 rw [if_pos hw]
 exact wp_copyD s x hty ho base sv cv hs hown sx c l hx hr hn hbase h
theorem step_call {ops : Array Oper} {o : Oper} {a : Act} {w : World} {K : Act → World → Prop} {Q : Exit → Act → World → Prop} {F : Prop} (f : FuncId) (args : Array Value) (hgd : o.guard = none) (xs : Array Operand) (ats : Array TypeId) (ho : o.op = .call { callee := .value (.func f), args := xs, argTypes := ats }) (hx : xs.map a.eval = args)
  (hent:∀ (args:Array Value) (w:World),(callFunc f args).run Tryz.prog w=.ok (.enter f args) w) (h:Calls Tryz.prog f args w fun e w'=>∃ v,e=.returned v∧K (a.put o.dst v) w'):
  if Region.wanted o (yielded ops a.tmps)=true then Oper.wp Tryz.prog o a w K Q else F:=by
 have hw:Region.wanted o (yielded ops a.tmps)=true:=by simp [Region.wanted,hgd]
 rw [if_pos hw]
 obtain ⟨dst,op,ty,pos,after,guard⟩:=o
 simp only at ho
 subst ho
 unfold Oper.wp
 rw [execOp_call_go]
 have e:(#[]++xs.map a.eval++#[])=args:=by rw [hx];simp
 rw [e,hent,Oper.upon_enter]
 refine h.mono ?_
 rintro e w' ⟨v,rfl,hk⟩
 exact hk
theorem OwnC.low {w:World} {b b':Nat} {v:Value} {L:List CV} (h:OwnC w b v L) (hb:b'≤b):OwnC w b' v L:=⟨ownLow' h.row hb,fun i x hx=>ownLow' (h.inn i x hx) hb,h.sep⟩
theorem OwnK.low {w:World} {b b':Nat} {v:Value} {L:List KV} (h:OwnK w b v L) (hb:b'≤b):OwnK w b' v L:=⟨ownLow' h.row hb,fun i x hx=>⟨ownLow' (h.inn i x hx).1 hb,ownLow' (h.inn i x hx).2 hb⟩,h.two,h.sep⟩
/- a machine that runs: all its rows owned whole -/
structure MQ0 (w:World) (B:Nat) (vc vk vm vt:Value) (LC:List CV) (LK:List KV) (S:List RS) (d:MD):Prop where
 c:OwnC w B vc LC
 ec:LC.map CV.l=d.codes
 k:OwnK w B vk LK
 ek:LK.map KV.d=d.cores
 m:OW w B vm S d.mem
 t:OwnD w B vt d.tr
 sk:∀ (i:Nat) (x:KV) (q:Nat),LK[i]? =some x→(x.r.ownBlock=some q∨x.v.ownBlock=some q)→∀ a∈mAs S,a.block≠q
theorem MQ0.low {w:World} {B B':Nat} {vc vk vm vt:Value} {LC:List CV} {LK:List KV} {S:List RS} {d:MD} (h:MQ0 w B vc vk vm vt LC LK S d) (hb:B'≤B):MQ0 w B' vc vk vm vt LC LK S d:=⟨h.c.low hb,h.ec,h.k.low hb,h.ek,h.m.low hb,ownLow' h.t hb,h.sk⟩
theorem MQ0.keep {w w':World} {B:Nat} {vc vk vm vt:Value} {LC:List CV} {LK:List KV} {S:List RS} {d:MD} (h:MQ0 w B vc vk vm vt LC LK S d) (hb:∀ k,B≤k→k < w.heap.size→w'.heap[k]? =w.heap[k]?) (hs:w.heap.size≤w'.heap.size):MQ0 w' B vc vk vm vt LC LK S d:=
 ⟨h.c.keep hb,h.ec,h.k.keep hb,h.ek,h.m.kept hb hs,ownKeep' h.t (fun k hk=>hb k (World.ownsRow.lt h.t _ hk).1 (World.ownsRow.lt h.t _ hk).2),h.sk⟩
/- all blocks that a machine has are P -/
structure HitQ (P:Nat→Prop) (vc vk vm vt:Value) (LC:List CV) (LK:List KV) (S:List RS):Prop where
 c:∀ q,vc.ownBlock=some q→P q
 ci:∀ (i:Nat) (x:CV) (q:Nat),LC[i]? =some x→x.v.ownBlock=some q→P q
 k:∀ q,vk.ownBlock=some q→P q
 ki:∀ (i:Nat) (x:KV) (q:Nat),LK[i]? =some x→(x.r.ownBlock=some q∨x.v.ownBlock=some q)→P q
 m:∀ q,vm.ownBlock=some q→P q
 mi:∀ a∈mAs S,P a.block
 t:∀ q,vt.ownBlock=some q→P q
structure MQ (w:World) (B:Nat) (Hq:Nat→Prop) (vc vk vm vt:Value) (LC:List CV) (LK:List KV) (S:List RS) (d:MD):Prop extends MQ0 w B vc vk vm vt LC LK S d where
 hh:HitQ Hq vc vk vm vt LC LK S
 hn:∀ q,w.heap.size≤q→Hq q
theorem MQ.lt {w:World} {B b:Nat} {Hq:Nat→Prop} {vc vk vm vt:Value} {LC:List CV} {LK:List KV} {S:List RS} {d:MD} (h:MQ w B Hq vc vk vm vt LC LK S d) (hb:¬ Hq b):b < w.heap.size:=Classical.byContradiction fun e=>hb (h.hn b (by omega))
theorem MQ.keep {w w':World} {B:Nat} {Hq:Nat→Prop} {vc vk vm vt:Value} {LC:List CV} {LK:List KV} {S:List RS} {d:MD} (h:MQ w B Hq vc vk vm vt LC LK S d) (hb:∀ k,B≤k→k < w.heap.size→w'.heap[k]? =w.heap[k]?) (hs:w.heap.size≤w'.heap.size):MQ w' B Hq vc vk vm vt LC LK S d:=
 ⟨h.toMQ0.keep hb hs,h.hh,fun q hq=>h.hn q (Nat.le_trans hs hq)⟩
theorem X4.zero (w:World) (v0 v1 v2 v3:Value):X4 (w.alloc (.cells #[v0,v1,v2,v3] 38)) w.heap.size v0 v1 v2 v3∧∃ cs f,(w.alloc (.cells #[v0,v1,v2,v3] 38)).heap[w.heap.size]? =some (.cells cs 38 f):=by
 obtain ⟨W,hW,x,-,-⟩:=X4.new w v0 v1 v2 v3 38
 rw [hW]
 refine ⟨x,?_⟩
 rw [← hW]
 exact ⟨_,_,heap_alloc_new _ _⟩
/- a box of a machine's type is no block of its rows -/
def BxT (w:World) (b:Nat):Prop:=∃ cs f,w.heap[b]? =some (.cells cs 38 f)
theorem own_bx {w:World} {base size n b:Nat} {e:TypeId} {v:Value} {xs:List Value} (h:w.ownsRow base e size v n xs) (he:e≠38) (hb:BxT w b):v.ownBlock≠some b:=by
 obtain ⟨cs,f,c⟩:=hb
 intro hk
 rcases h.2 with ⟨rfl,-⟩ | ⟨g,cap,cur,rfl,-,c',-⟩
 ·cases hk
 ·simp only [Value.ownBlock,Option.some.injEq] at hk
  subst hk
  rw [c] at c'
  injection c' with c'
  injection c' with _ c'
  exact he c'.symm
theorem heap_set {w:World} {g k:Nat} {v:Value} {cur:Array Value} {e:TypeId} {fr:Nat×Nat} (h:w.heap[g]? =some (.cells cur e fr)):(w.setCell ⟨g,k,none⟩ v).heap[g]? =some (.cells (cur.setIfInBounds k v) e fr):=by
 simp only [World.setCell,Array.getElem?_modify,h]
 simp
theorem BxT.set {w:World} {b g o:Nat} {v:Value} (h:BxT w b):BxT (w.setCell ⟨g,o,none⟩ v) b:=by
 obtain ⟨cs,f,c⟩:=h
 by_cases e:b=g
 ·subst e
  exact ⟨_,f,heap_set c⟩
 ·exact ⟨cs,f,(Below.heap_setCell _ _ _ b e).trans c⟩
theorem OwnC.off {w w':World} {base b:Nat} {v:Value} {L:List CV} (h:OwnC w base v L) (ht:BxT w b) (hb:∀ k,k≠b→w'.heap[k]? =w.heap[k]?):OwnC w' base v L:=
 ⟨ownKeep' h.row (fun k hk=>hb k (fun e=>own_bx h.row (by decide) ht (by rw [hk,e]))),fun i x hx=>ownKeep' (h.inn i x hx) (fun k hk=>hb k (fun e=>own_bx (h.inn i x hx) (by decide) ht (by rw [hk,e]))),h.sep⟩
theorem OwnK.off {w w':World} {base b:Nat} {v:Value} {L:List KV} (h:OwnK w base v L) (ht:BxT w b) (hb:∀ k,k≠b→w'.heap[k]? =w.heap[k]?):OwnK w' base v L:=
 ⟨ownKeep' h.row (fun k hk=>hb k (fun e=>own_bx h.row (by decide) ht (by rw [hk,e]))),fun i x hx=>⟨ownKeep' (h.inn i x hx).1 (fun k hk=>hb k (fun e=>own_bx (h.inn i x hx).1 (by decide) ht (by rw [hk,e]))),ownKeep' (h.inn i x hx).2 (fun k hk=>hb k (fun e=>own_bx (h.inn i x hx).2 (by decide) ht (by rw [hk,e])))⟩,h.two,h.sep⟩
theorem OwnD.off {w w':World} {base b:Nat} {v:Value} {l:List ND} (h:OwnD w base v l) (ht:BxT w b) (hb:∀ k,k≠b→w'.heap[k]? =w.heap[k]?):OwnD w' base v l:=ownKeep' h (fun k hk=>hb k (fun e=>own_bx h (by decide) ht (by rw [hk,e])))
theorem OW.off {w w':World} {B b:Nat} {v:Value} {S:List RS} {m:List (List WD)} (h:OW w B v S m) (ht:BxT w b) (hb:∀ k,k≠b→w'.heap[k]? =w.heap[k]?) (hs:w.heap.size≤w'.heap.size):OW w' B v S m:=by
 refine ⟨h.n,ownKeep' h.row (fun k hk=>hb k (fun e=>own_bx h.row (by decide) ht (by rw [hk,e]))),fun i r l hr hl=>?_,h.d⟩
 have q:=h.r i r l hr hl
 refine q.kept (fun k hk=>hb k (fun e=>?_)) (fun a ha=>hb _ (fun e=>?_)) hs
 ·obtain ⟨cs,c⟩:=q.blkT hk
  obtain ⟨cs',f,c'⟩:=ht
  rw [e,c'] at c
  injection c with c
  injection c with _ c
  exact absurd c (by decide)
 ·obtain ⟨cs,f,c⟩:=q.vt a ha
  obtain ⟨cs',f',c'⟩:=ht
  rw [e,c'] at c
  injection c with c
  injection c with _ c
  exact absurd c (by decide)
end
section
set_option linter.unusedSimpArgs false
set_option linter.unusedVariables false
set_option maxRecDepth 100000
open Go.RowKit
theorem viewB_iff {m:List (List WD)} {l:List Int}:viewB m l=true↔l.length=m.length∧∀ i,i < l.length→0≤l.getD i 0∧l.getD i 0 < ((m.getD i []).length:Int):=by unfold viewB;rw [decide_eq_true_eq]
theorem viewB_grow {m m':List (List WD)} {l:List Int} (h:viewB m l=true) (hn:m'.length=m.length) (hg:∀ i,(m.getD i []).length≤(m'.getD i []).length):viewB m' l=true:=by
 rw [viewB_iff] at h ⊢
 refine ⟨by omega,fun i hi=>?_⟩
 have:=h.2 i hi
 have:=hg i
 omega
theorem getD_setI {l:List Int} {k i:Nat} {v:Int} (hk:k < l.length):(l.set k v).getD i 0=if i=k then v else l.getD i 0:=by
 rw [List.getD_eq_getElem?_getD,List.getElem?_set]
 by_cases e:k=i
 ·subst e
  simp [hk]
 ·rw [if_neg e,if_neg (fun q=>e q.symm),List.getD_eq_getElem?_getD]
theorem getD_setM {m:List (List WD)} {k i:Nat} {v:List WD} (hk:k < m.length):(m.set k v).getD i []=if i=k then v else m.getD i []:=by
 rw [List.getD_eq_getElem?_getD,List.getElem?_set]
 by_cases e:k=i
 ·subst e
  simp [hk]
 ·rw [if_neg e,if_neg (fun q=>e q.symm),List.getD_eq_getElem?_getD]
theorem memB_at {m:List (List WD)} (h:memB m=true) {i:Nat} (hi:i < 24):m.length=24∧∃ r,m[i]? =some r∧m.getD i []=r∧1≤r.length∧r.length≤4000∧∀ x∈r,viewB m x.vw=true:=by
 unfold memB at h
 rw [Bool.and_eq_true,decide_eq_true_eq,List.all_eq_true] at h
 obtain ⟨r,hr⟩:∃ r,m[i]? =some r:=⟨_,List.getElem?_eq_getElem (by omega)⟩
 have q:=h.2 r (List.mem_of_getElem? hr)
 unfold rowB at q
 rw [Bool.and_eq_true,decide_eq_true_eq,List.all_eq_true] at q
 exact ⟨h.1,r,hr,by rw [List.getD_eq_getElem?_getD,hr];rfl,q.1.1,q.1.2,q.2⟩
theorem memB_of {m:List (List WD)} (h24:m.length=24) (h:∀ i,i < 24→1≤(m.getD i []).length∧(m.getD i []).length≤4000∧∀ x∈m.getD i [],viewB m x.vw=true):memB m=true:=by
 unfold memB
 rw [Bool.and_eq_true,decide_eq_true_eq,List.all_eq_true]
 refine ⟨h24,fun r hr=>?_⟩
 obtain ⟨i,hi,e⟩:=List.mem_iff_getElem.1 hr
 have q:=h i (by omega)
 rw [show m.getD i []=r by rw [List.getD_eq_getElem?_getD,List.getElem?_eq_getElem hi,e];rfl] at q
 unfold rowB
 rw [Bool.and_eq_true,decide_eq_true_eq,List.all_eq_true]
 exact ⟨⟨q.1,q.2.1⟩,q.2.2⟩
theorem ldJ_lt {m:List (List WD)} {l:List Int} {c:Nat} (late:Int) (hm:memB m=true) (hv:viewB m l=true) (hc:c < 24):ldJ m l c late < (m.getD c []).length∧mx (l.getD c 0) (((m.getD c []).length:Int) - 1 - mx late 0)=(ldJ m l c late:Int):=by
 obtain ⟨h24,r,-,er,n1,-,-⟩:=memB_at hm hc
 rw [viewB_iff] at hv
 have q:=hv.2 c (by omega)
 unfold ldJ
 rw [er] at q ⊢
 unfold mx
 split<;>split<;>omega
theorem ldX_at {m:List (List WD)} {l:List Int} {c:Nat} (late:Int) (hm:memB m=true) (hv:viewB m l=true) (hc:c < 24):∃ r,m[c]? =some r∧r[ldJ m l c late]? =some (ldX m l c late)∧viewB m (ldX m l c late).vw=true:=by
 obtain ⟨h24,r,hr,er,n1,-,hx⟩:=memB_at hm hc
 have hj:=(ldJ_lt late hm hv hc).1
 rw [er] at hj
 have e:r[ldJ m l c late]? =some (ldX m l c late):=by
  unfold ldX
  rw [er,List.getD_eq_getElem?_getD,List.getElem?_eq_getElem hj]
  rfl
 exact ⟨r,hr,e,hx _ (List.mem_of_getElem? e)⟩
theorem ldW_ok {m:List (List WD)} {l:List Int} {c:Nat} (late:Int) (hold:Bool) (hm:memB m=true) (hv:viewB m l=true) (hc:c < 24):viewB m (ldW m l c late hold)=true:=by
 obtain ⟨h24,-⟩:=memB_at hm hc
 have hj:=(ldJ_lt late hm hv hc).1
 obtain ⟨r,hr,e,hx⟩:=ldX_at late hm hv hc
 have hs:viewB m (l.set c (ldJ m l c late))=true:=by
  rw [viewB_iff] at hv ⊢
  refine ⟨by rw [List.length_set];exact hv.1,fun i hi=>?_⟩
  rw [List.length_set] at hi
  rw [getD_setI (by omega)]
  split
  ·rename_i q;subst q;omega
  ·exact hv.2 i hi
 unfold ldW
 split
 ·rw [viewB_iff] at hs hx ⊢
  have hl:(joinL (l.set c (ldJ m l c late)) (ldX m l c late).vw).length=m.length:=by unfold joinL;rw [List.length_zipWith];omega
  refine ⟨hl,fun i hi=>?_⟩
  have a:=hs.2 i (by omega)
  have b:=hx.2 i (by omega)
  have ej:(joinL (l.set c (ldJ m l c late)) (ldX m l c late).vw).getD i 0=mx ((l.set c (ldJ m l c late)).getD i 0) ((ldX m l c late).vw.getD i 0):=by
   have h1:i < (l.set c (ldJ m l c late)).length:=by omega
   have h2:i < (ldX m l c late).vw.length:=by omega
   unfold joinL
   simp only [List.getD_eq_getElem?_getD,List.getElem?_zipWith,List.getElem?_eq_getElem h1,List.getElem?_eq_getElem h2,Option.getD_some]
  rw [ej]
  generalize (l.set c (ldJ m l c late)).getD i 0=p at a
  generalize (ldX m l c late).vw.getD i 0=q at b
  unfold mx
  split<;>omega
 ·exact hs
theorem stM_ok {m:List (List WD)} {l:List Int} {c:Nat} (z:Int) (b:Bool) (hm:memB m=true) (hv:viewB m l=true) (hc:c < 24) (hf:¬ (m.getD c []).length=4000):memB (stM m l c z b)=true∧viewB (stM m l c z b) (stW m l c)=true∧∀ v,viewB m v=true→viewB (stM m l c z b) v=true:=by
 obtain ⟨h24,r,hr,er,n1,n4,hx⟩:=memB_at hm hc
 have hcm:c < m.length:=by omega
 have hn:(stM m l c z b).length=m.length:=by unfold stM;rw [List.length_set]
 have hg:∀ i,((stM m l c z b).getD i [])=if i=c then r++[⟨z,toldL l c r.length b⟩] else m.getD i []:=fun i=>by unfold stM;rw [getD_setM hcm,er]
 have grow:∀ v,viewB m v=true→viewB (stM m l c z b) v=true:=fun v h=>viewB_grow h hn (fun i=>by
  rw [hg]
  split
  ·rename_i q;subst q;rw [er];simp
  ·exact Nat.le_refl _)
 have pos:∀ i,i < 24→0 < ((stM m l c z b).getD i []).length:=fun i hi=>by
  rw [hg]
  split
  ·simp
  ·obtain ⟨-,r',-,e',n',-⟩:=memB_at hm hi;rw [e'];omega
 have hvw:=hv
 rw [viewB_iff] at hvw
 have hst:viewB (stM m l c z b) (l.set c (r.length:Int))=true:=by
  have hgv:=grow l hv
  rw [viewB_iff] at hgv ⊢
  refine ⟨by rw [List.length_set];exact hgv.1,fun i hi=>?_⟩
  rw [List.length_set] at hi
  rw [getD_setI (by omega)]
  split
  ·rename_i q
   subst q
   rw [hg,if_pos rfl]
   simp
   omega
  ·exact hgv.2 i hi
 have htold:viewB (stM m l c z b) (toldL l c r.length b)=true:=by
  unfold toldL
  split
  ·exact hst
  ·rw [viewB_iff]
   refine ⟨by rw [List.length_set,List.length_replicate,hn,h24],fun i hi=>?_⟩
   rw [List.length_set,List.length_replicate] at hi
   rw [getD_setI (by rw [List.length_replicate];exact hc)]
   split
   ·rename_i q
    subst q
    rw [hg,if_pos rfl]
    simp
    omega
   ·have:=pos i hi
    rw [show (List.replicate 24 (0:Int)).getD i 0=0 by rw [List.getD_eq_getElem?_getD,List.getElem?_replicate];split<;>rfl]
    omega
 refine ⟨memB_of (by omega) (fun i hi=>?_),by unfold stW;rw [er];exact hst,grow⟩
 rw [hg]
 split
 ·rename_i q
  subst q
  rw [er] at hf
  refine ⟨by simp,by simp;omega,fun x hx'=>?_⟩
  rw [List.mem_append,List.mem_singleton] at hx'
  rcases hx' with h | h
  ·exact grow _ (hx x h)
  ·subst h;exact htold
 ·obtain ⟨-,r',-,e',n',n'',hx'⟩:=memB_at hm hi
  rw [e']
  exact ⟨n',n'',fun x h=>grow _ (hx' x h)⟩
/- a machine, one of its cores turned -/
theorem coresB_iff {m:List (List WD)} {cs:List KD} {l:List (List I5)}:coresB m cs l=true↔cs.length=l.length∧∀ (i:Nat) (k:KD) (c:List I5),cs[i]? =some k→l[i]? =some c→coreB m k c.length=true:=by
 unfold coresB
 rw [Bool.and_eq_true,decide_eq_true_eq,List.all_eq_true]
 constructor
 ·rintro ⟨h,q⟩
  refine ⟨h,fun i k c hk hc=>q (k,c) (List.mem_of_getElem? (i:=i) ?_)⟩
  rw [List.getElem?_zip_eq_some]
  exact ⟨hk,hc⟩
 ·rintro ⟨h,q⟩
  refine ⟨h,fun x hx=>?_⟩
  obtain ⟨i,hi,e⟩:=List.mem_iff_getElem.1 hx
  have e':(cs.zip l)[i]? =some x:=by rw [List.getElem?_eq_getElem hi,e]
  rw [List.getElem?_zip_eq_some] at e'
  exact q i x.1 x.2 e'.1 e'.2
theorem coreB_iff {m:List (List WD)} {k:KD} {n:Nat}:coreB m k n=true↔k.regs.length=8∧(0≤k.st∧k.st≤2)∧(0≤k.pc∧k.pc < (n:Int))∧viewB m k.vw=true:=by
 unfold coreB Plain.inB Plain.oneB
 rw [Bool.and_eq_true,Bool.and_eq_true,Bool.and_eq_true,decide_eq_true_eq,decide_eq_true_eq,decide_eq_true_eq]
theorem machB_iff {d:MD}:machB d=true↔codesB d.codes=true∧coresB d.mem d.cores d.codes=true∧trB d.tr d.cores.length=true∧memB d.mem=true:=by
 unfold machB
 rw [Bool.and_eq_true,Bool.and_eq_true,Bool.and_eq_true]
theorem keep_core {d:MD} {who:Nat} {k k':KD} {code:List I5} {s:I5} (h:machB d=true) (ha:At8 d who k code s) (m':List (List WD)) (tr':List ND) (hm:memB m'=true) (hg:∀ v,viewB d.mem v=true→viewB m' v=true) (ht:trB tr' d.cores.length=true) (hk:coreB m' k' code.length=true):machB (putK { d with mem:=m',tr:=tr' } who k')=true:=by
 rw [machB_iff] at h ⊢
 obtain ⟨h1,h2,-,-⟩:=h
 rw [coresB_iff] at h2
 refine ⟨h1,?_,by show trB tr' (d.cores.set who k').length=true;rw [List.length_set];exact ht,hm⟩
 show coresB m' (d.cores.set who k') d.codes=true
 rw [coresB_iff]
 refine ⟨by rw [List.length_set];exact h2.1,fun i x c hx hc=>?_⟩
 rw [List.getElem?_set] at hx
 by_cases e:who=i
 ·subst e
  rw [if_pos rfl] at hx
  split at hx
  ·injection hx with hx
   subst hx
   rw [ha.hc] at hc
   injection hc with hc
   subst hc
   exact hk
  ·cases hx
 ·rw [if_neg e] at hx
  have q:=h2.2 i x c hx hc
  rw [coreB_iff] at q ⊢
  exact ⟨q.1,q.2.1,q.2.2.1,hg _ q.2.2.2⟩
theorem keep_go {d:MD} {who:Nat} {k k':KD} {code:List I5} {s:I5} (h:machB d=true) (ha:At8 d who k code s) (m':List (List WD)) (tr':List ND) (p:Int) (hm:memB m'=true) (hg:∀ v,viewB d.mem v=true→viewB m' v=true) (ht:trB tr' d.cores.length=true) (hr:k'.regs.length=8) (hs:k'.st=k.st) (hpc:k'.pc=k.pc) (hv:viewB m' k'.vw=true) (hp:0≤p):machB (goM { d with mem:=m',tr:=tr' } who k' code.length p)=true:=by
 have q0:=ha.pc0
 have q1:=ha.pcl
 have q2:=ha.st0
 have q3:=ha.st2
 unfold goM
 split
 ·rename_i hlt
  refine keep_core h ha m' tr' hm hg ht ?_
  rw [coreB_iff]
  exact ⟨hr,by show 0≤k'.st∧k'.st≤2;omega,⟨hp,hlt⟩,hv⟩
 ·refine keep_core h ha m' tr' hm hg ht ?_
  rw [coreB_iff]
  exact ⟨hr,⟨by show (0:Int)≤2;omega,by show (2:Int)≤2;omega⟩,by show 0≤k'.pc∧k'.pc < _;omega,hv⟩
set_option maxHeartbeats 2000000 in
theorem stepAt_ok {d:MD} {who:Nat} {k:KD} {code:List I5} {s:I5} (late:Int) (h:machB d=true) (ha:At8 d who k code s):machB (stepAt d who late k code.length s).1=true:=by
 have hm:=ha.mem
 have ht:trB d.tr d.cores.length=true:=(machB_iff.1 h).2.2.1
 have q0:=ha.pc0
 have id:∀ v,viewB d.mem v=true→viewB d.mem v=true:=fun _ q=>q
 have hst:∀ st',0≤st'→st'≤2→machB (putK d who { k with st:=st' })=true:=fun st' a b=>keep_core h ha d.mem d.tr hm id ht (by rw [coreB_iff];exact ⟨ha.regs,⟨a,b⟩,⟨ha.pc0,ha.pcl⟩,ha.vw⟩)
 have hreg:∀ (r v:Int),machB (goM d who (setR k r v) code.length (k.pc+1))=true:=fun r v=>keep_go h ha d.mem d.tr (k.pc+1) hm id ht (by unfold setR;rw [List.length_set];exact ha.regs) rfl rfl ha.vw (by omega)
 have hw:who < d.cores.length:=by
  have:=ha.hk
  rw [List.getElem?_eq_some_iff] at this
  exact this.1
 have hok:=ha.ok
 unfold stX Plain.stepB at hok
 rw [decide_eq_true_eq] at hok
 unfold stepAt
 by_cases e1:s.o=1
 ·rw [if_pos e1];exact hreg _ _
 rw [if_neg e1]
 by_cases e2:s.o=2
 ·rw [if_pos e2];exact hreg _ _
 rw [if_neg e2]
 by_cases e3:s.o=3
 ·rw [if_pos e3];exact hreg _ _
 rw [if_neg e3]
 by_cases e4:s.o=4
 ·rw [if_pos e4];exact hreg _ _
 rw [if_neg e4]
 by_cases e9:s.o=9
 ·rw [if_pos e9]
  by_cases hf:d.tr.length=4000
  ·rw [if_pos hf];exact h
  ·rw [if_neg hf]
   have htr:=ha.tr
   refine keep_go h ha d.mem (d.tr++[⟨who,regA k s.a⟩]) (k.pc+1) hm id ?_ ha.regs rfl rfl ha.vw (by omega)
   unfold trB at ht ⊢
   rw [Bool.and_eq_true,decide_eq_true_eq] at ht ⊢
   refine ⟨by rw [List.length_append];simp;omega,?_⟩
   rw [List.all_append,ht.2]
   simp [Plain.oneB]
   omega
 rw [if_neg e9]
 by_cases e10:s.o=10
 ·rw [if_pos e10]
  exact keep_go h ha d.mem d.tr s.n hm id ht ha.regs rfl rfl ha.vw (by omega)
 rw [if_neg e10]
 by_cases e11:s.o=11
 ·rw [if_pos e11]
  exact keep_go h ha d.mem d.tr _ hm id ht ha.regs rfl rfl ha.vw (by split<;>omega)
 rw [if_neg e11]
 by_cases e12:s.o=12
 ·rw [if_pos e12];exact hst 1 (by omega) (by omega)
 rw [if_neg e12]
 by_cases e13:s.o=13
 ·rw [if_pos e13];exact hst 2 (by omega) (by omega)
 rw [if_neg e13]
 by_cases hc:0≤cellM k s∧cellM k s≤23
 ·rw [if_pos hc]
  generalize hcc:(cellM k s).toNat=c
  have hc24:c < 24:=by omega
  split
  ·exact h
  ·rename_i hfull
   unfold memS
   by_cases e5:s.o=5
   ·rw [if_pos e5]
    exact keep_go h ha d.mem d.tr (k.pc+1) hm id ht (by show (k.regs.set _ _).length=8;rw [List.length_set];exact ha.regs) rfl rfl (ldW_ok late false hm ha.vw hc24) (by omega)
   ·rw [if_neg e5]
    have hf:¬ (d.mem.getD c []).length=4000:=fun q=>hfull ⟨e5,q⟩
    by_cases e8:s.o=8
    ·rw [if_pos e8]
     obtain ⟨a1,a2,a3⟩:=stM_ok (regA k s.b) true hm (ldW_ok 0 true hm ha.vw hc24) hc24 hf
     exact keep_go h ha _ d.tr (k.pc+1) a1 a3 ht (by show (k.regs.set _ _).length=8;rw [List.length_set];exact ha.regs) rfl rfl a2 (by omega)
    ·rw [if_neg e8]
     obtain ⟨a1,a2,a3⟩:=stM_ok (regA k s.b) (decide (s.o=7)) hm ha.vw hc24 hf
     exact keep_go h ha _ d.tr (k.pc+1) a1 a3 ht ha.regs rfl rfl a2 (by omega)
 ·rw [if_neg hc];exact hst 2 (by omega) (by omega)
theorem stepM_ok {d:MD} (who late:Int) (h:machB d=true):machB (stepM d who late).1=true:=by
 by_cases hw:0≤who∧who < (d.cores.length:Int)
 ·obtain ⟨n,rfl⟩:∃ n:Nat,who=(n:Int):=⟨who.toNat,by omega⟩
  obtain ⟨k,code,s,ha⟩:=mach_at h (who:=n) (by omega)
  by_cases hr:k.st=0
  ·rw [stepM_at ha late hr];exact stepAt_ok late h ha
  ·rw [stepM_over ha late hr];exact h
 ·rw [stepM_none late hw];exact h
end
end Go.Proofs.YtlbeploopclegaaGreat
