/- Steps of a site: what loads and stores a cell of its channel. Conditions: the channel lies in memory. What a site locks, lets go, asks. Conditions: the channel lies in memory. A row behind what lets a lock go; what faults. Conditions: the channel lies in memory, and the row is of at most a hundred steps. Where parts begin that stand one behind the other. Conditions: at most a hundred of them. Parts put together: their jumps go where the parts begin. Conditions: at most a hundred parts, of at most nine hundred steps. Parts put together behind the lock. Conditions: the channel lies in memory; at most ninety parts. Rows that lie somewhere, and a row of them. Conditions: at most a thousand steps. What both that take are made of. Conditions: the channel lies in memory. What both that send are made of. Conditions: the channel lies in memory. Base of the program and of the specification: where a channel begins. Conditions: lists of at most 2^20 + 100. What the emitters of channels answer. Conditions: the channel lies in memory. What the emitters of places of no channel answer. Conditions: a jump names a start. The table of emitters, and which one an op has. No condition. Which emitter an op has; EmitSize of the program and of the specification. No condition. Chapter 1: placeOk of each kind of place, for every argument, in every world. No condition. The plain side of chapter 1, kind by kind: a place is right just if what is not named is 0, the channels are so many, and what is named is right. No condition. InsOk of the program, whatever kind of place it makes: under contracts of placeOf, of the place's method and of placeOk it answers as they say; it makes memory, and turns none. InsOk of the program, at every Ins, every count of places and of channels, in every world: it returns what the plain law says; it makes memory, and turns none. No condition. Emit of the program. Conditions: lists of at most 2^20 + 100. Emit of the program at every argument. Conditions: rows of at most two million numbers. -/
import Derived.Test.YtkhjhibigldcgaaLG00
import Derived.Deep.QuietTactic
import Derived.BigQuiet
import Derived.Test.YtkhjhibigldcgaaChecked
import Derived.WalkKit
import Derived.KernelRfl
import Derived.Laws.EntriesVeiled
import Derived.Deep.WholeRow
import Derived.WalkSpells
import Derived.WalkLawsBesides
import Derived.Deep.RegionHeld3
import Derived.Deep.DeepCutAuto
namespace Go.Proofs.Ytkhjhibigldcgaa
section
set_option linter.unusedSimpArgs false
set_option linter.unusedVariables false
set_option maxRecDepth 100000
open Go.RowKit
theorem cell_is (b : Nat) (base part : Int) (w : World) (h : w.cell? ⟨b, 0, none⟩ = some (.int .i64 base)) (h0 : 0 ≤ base) (h1 : base ≤ 24) (p0 : 0 ≤ part) (p1 : part ≤ 8) :
  Calls Try.prog 42 #[.int .i64 part,.pointer (some ⟨b,0,none⟩)] w fun e w'=>e=.returned (.int .i64 (base+part))∧w'=w:=by
 go_enter Try.func42,Try.ntmps42
 go_wp2
 go_ret
 exact ⟨rfl,rfl⟩
theorem cellsFrom_is (base : Int) (w : World) :
  Calls Try.prog 25 #[.int .i64 base] w fun e w'=>e=.returned (.func (.func 42) #[] #[.pointer (some ⟨w.heap.size,0,none⟩)])∧w'=w.alloc (.cells #[.int .i64 base] 3):=by
 go_enter Try.func25,Try.ntmps25
 go_wp2
 go_ret
 exact ⟨rfl,rfl⟩
theorem hid_of {p:Prop} (h:p):Hid p:=h
end
section
set_option linter.unusedSimpArgs false
set_option linter.unusedVariables false
set_option maxRecDepth 100000
open Go.RowKit
def lockR (b:Int):List I5:=[⟨1,7,0,0,1⟩,⟨8,6,0,7,b⟩,⟨11,0,6,0,1⟩,⟨10,0,0,0,0⟩]
def letR (b:Int):List I5:=[⟨1,7,0,0,0⟩,⟨7,0,-1,7,b⟩]
def askR (b p:Int):List I5:=[⟨5,4,-1,0,b+3⟩,⟨11,0,4,0,p⟩]
def faultR (b:Int):List I5:=letR b++[⟨13,0,0,0,0⟩]
def triedR (r h:Int):List I5:=[⟨1,r,0,0,h⟩,⟨10,0,0,0,-1⟩]
def cameR (r x v h:Int):List I5:=[⟨1,r,0,0,v⟩,⟨1,x,0,0,h⟩,⟨10,0,0,0,-1⟩]
end
section
set_option linter.unusedSimpArgs false
set_option linter.unusedVariables false
set_option maxRecDepth 100000
open Go.RowKit
theorem calls_new {f : Nat} {args : Array Value} {w : World} {C : Array Value} {post : Ending → World → Prop} (L : List I5) (base n : Nat) (hC : C.toList = (fl5 L).map (Value.int .i64)) (hn : L.length = n) (hn' : n ≤ 1000) (hb : base ≤ w.heap.size)
  (h:∀ W,OwnT5 W base (.slice (some ⟨w.heap.size,0,none⟩) n n) L→Below w.heap.size w W→W.heap.size=w.heap.size+1→Calls Try.prog f args W post):Calls Try.prog f args (w.alloc (.cells C 98)) post:=by
 subst hn
 exact h _ (own5_new L C hC hb hn') ((Below.refl _ _).alloc (Nat.le_refl _) _) (by simp)
end
section
set_option linter.unusedSimpArgs false
set_option linter.unusedVariables false
set_option maxRecDepth 100000
open Go.RowKit
def isJ (o:Int):Bool:=decide (o=10∨o=11)
def firstV (f:Int):List (List I5)→Int
 | []=>f
 | l::r=>firstV (ad f l.length) r
def toN (t:Int) (n:Nat):Nat:=if t=-1 then n else t.toNat
end
section
set_option linter.unusedSimpArgs false
set_option linter.unusedVariables false
set_option maxRecDepth 100000
open Go.RowKit
theorem ad_ad (f a b:Int):ad (ad f a) b=ad f (a+b):=by unfold ad wrap64;omega
theorem app5n {ops : Array Oper} {rest : List Oper} {o : Oper} {a : Act} {Q : Exit → Act → World → Prop} (hgd : o.guard = none) (s x : Operand) (ho : o.op = .call { callee := .builtin .append, args := #[s, x], argTypes := #[99, 99] })
  (w:World) (C:Array Value) (base:Nat) (v:Value) (L1:List I5) (hs:a.eval s=v) (hown:OwnT5 w base v L1) (n2:Nat) (L2:List I5) (hx:a.eval x=.slice (some ⟨w.heap.size,0,none⟩) n2 n2) (hC:C.toList=(fl5 L2).map (Value.int .i64)) (hl2:L2.length=n2)
  (hl:0 < n2) (hn:L1.length+n2≤1000) (N:Nat) (hN:L1.length+n2=N) (hbase:base≤w.heap.size)
  (h:∀ g c w',OwnT5 w' base (.slice (some ⟨g,0,none⟩) N c) (L1++L2)→Below base w w'→wpList Try.prog ops Q rest (a.put o.dst (.slice (some ⟨g,0,none⟩) N c)) w'):wpList Try.prog ops Q (o::rest) a (w.alloc (.cells C 98)):=by
 have kk:Below w.heap.size w (w.alloc (.cells C 98)):=(Below.refl _ _).alloc (Nat.le_refl _) _
 have hn5:=own5_new (w:=w) (base:=w.heap.size) L2 C hC (Nat.le_refl _) (by omega)
 rw [hl2] at hn5
 refine app5 hgd s x ho (w.alloc (.cells C 98)) base v L1 hs (hown.keep kk) w.heap.size w.heap.size n2 n2 L2 hx hn5 hl2 hl hn N hN (by simp;omega) ?_
 intro g c w' h1 h2
 exact h g c w' h1 ((kk.mono hbase).trans h2)
theorem step5n {ops : Array Oper} {o : Oper} {a : Act} {K : Act → World → Prop} {Q : Exit → Act → World → Prop} {E : Prop} (hgd : o.guard = none) (s x : Operand) (ho : o.op = .call { callee := .builtin .append, args := #[s, x], argTypes := #[99, 99] })
  (w:World) (C:Array Value) (base:Nat) (v:Value) (L1:List I5) (hs:a.eval s=v) (hown:OwnT5 w base v L1) (n2:Nat) (L2:List I5) (hx:a.eval x=.slice (some ⟨w.heap.size,0,none⟩) n2 n2) (hC:C.toList=(fl5 L2).map (Value.int .i64)) (hl2:L2.length=n2)
  (hl:0 < n2) (hn:L1.length+n2≤1000) (N:Nat) (hN:L1.length+n2=N) (hbase:base≤w.heap.size)
  (h:∀ g c w',OwnT5 w' base (.slice (some ⟨g,0,none⟩) N c) (L1++L2)→Below base w w'→K (a.put o.dst (.slice (some ⟨g,0,none⟩) N c)) w'):if Region.wanted o (yielded ops a.tmps)=true then Oper.wp Try.prog o a (w.alloc (.cells C 98)) K Q else E:=by
 have kk:Below w.heap.size w (w.alloc (.cells C 98)):=(Below.refl _ _).alloc (Nat.le_refl _) _
 have hn5:=own5_new (w:=w) (base:=w.heap.size) L2 C hC (Nat.le_refl _) (by omega)
 rw [hl2] at hn5
 refine step5 hgd s x ho (w.alloc (.cells C 98)) base v L1 hs (hown.keep kk) w.heap.size w.heap.size n2 n2 L2 hx hn5 hl2 hl hn N hN (by simp;omega) ?_
 intro g c w' h1 h2
 exact h g c w' h1 ((kk.mono hbase).trans h2)
def fixJ (f:Int) (Ls:List (List I5)) (s:I5):I5:=if isJ s.o=true then ⟨s.o,s.r,s.a,s.b,firstV f (Ls.take (toN s.n Ls.length))⟩ else s
def togL (f:Int) (Ls:List (List I5)):List (List I5)→List I5
 | []=>[]
 | l::r=>l.map (fixJ f Ls)++togL f Ls r
theorem togL_app (f:Int) (Ls:List (List I5)) (b:List (List I5)):∀ a,togL f Ls (a++b)=togL f Ls a++togL f Ls b
 | []=>rfl
 | x::r=>by simp [togL,togL_app f Ls b r]
def lens (Ls:List (List I5)):Nat:=(Ls.map List.length).sum
theorem togL_len (f:Int) (Ls:List (List I5)):∀ a:List (List I5),(togL f Ls a).length=lens a
 | []=>rfl
 | x::r=>by
  have:=togL_len f Ls r
  simp only [togL,List.length_append,List.length_map,this]
  simp [lens]
end
section
set_option linter.unusedSimpArgs false
set_option linter.unusedVariables false
set_option maxRecDepth 100000
open Go.RowKit
theorem infoCd:∃ i,Try.prog.info? 99=some i∧i.zero=some (.slice none 0 0)∧i.size=1∧i.bytes=24:=⟨_,rfl,rfl,rfl,rfl⟩
end
section
set_option linter.unusedSimpArgs false
set_option linter.unusedVariables false
set_option maxRecDepth 100000
open Go.RowKit
theorem name5 {P : World → Prop} {w : World} {C : Array Value} (L : List I5) (base n : Nat) (hC : C.toList = (fl5 L).map (Value.int .i64)) (hn : L.length = n) (hn' : n ≤ 1000) (hb : base ≤ w.heap.size)
  (h:∀ W,OwnT5 W base (.slice (some ⟨w.heap.size,0,none⟩) n n) L→Below w.heap.size w W→w.heap.size < W.heap.size→P W):P (w.alloc (.cells C 98)):=by
 subst hn
 exact h _ (own5_new L C hC hb hn') ((Below.refl _ _).alloc (Nat.le_refl _) _) (by simp)
end
section
set_option linter.unusedSimpArgs false
set_option linter.unusedVariables false
set_option maxRecDepth 100000
open Go.RowKit
def takenR (b r rm:Int):List I5:=[⟨5,5,-1,0,b+2⟩,⟨11,0,5,0,4⟩,⟨5,4,-1,0,b+1⟩,⟨5,r,4,0,b+4⟩,⟨1,7,0,0,1⟩,⟨2,4,4,7,0⟩,⟨3,5,5,7,0⟩,⟨1,7,0,0,rm⟩,⟨4,6,4,7,0⟩,⟨11,0,6,0,2⟩,⟨10,0,0,0,3⟩]
def roundT:List I5:=[⟨1,4,0,0,0⟩]
def keepR (b:Int):List I5:=[⟨6,0,-1,4,b+1⟩,⟨6,0,-1,5,b+2⟩]
def keepT (b x:Int):List I5:=keepR b++(letR b++[⟨1,x,0,0,1⟩,⟨10,0,0,0,-1⟩])
def noneR (b:Int):List I5:=[⟨5,4,-1,0,b+3⟩]
def noneT (b r x o:Int):List I5:=(noneR b++(letR b++[⟨11,0,4,0,5⟩]))++cameR r x 0 o
end
section
set_option linter.unusedSimpArgs false
set_option linter.unusedVariables false
set_option maxRecDepth 100000
open Go.RowKit
def openR (b rm:Int):List I5:=[⟨5,5,-1,0,b+2⟩,⟨1,7,0,0,rm⟩,⟨4,6,5,7,0⟩,⟨11,0,6,0,6⟩,⟨5,4,-1,0,b+1⟩,⟨2,4,4,5,0⟩,⟨4,6,4,7,0⟩,⟨11,0,6,0,4⟩,⟨10,0,0,0,5⟩]
def roundR:List I5:=[⟨3,4,4,7,0⟩]
def putR (b a:Int):List I5:=[⟨6,0,4,a,b+4⟩,⟨1,7,0,0,1⟩,⟨2,5,5,7,0⟩,⟨6,0,-1,5,b+2⟩]
end
section
set_option linter.unusedSimpArgs false
set_option linter.unusedVariables false
set_option maxRecDepth 100000
open Go.RowKit
def capsR (l:List Int):Bool:=l.all (fun c=>decide (1≤c∧c≤4))
def sumC:List Int→Int
 | []=>0
 | c::r=>c+4+sumC r
def baseV (l:List Int) (n:Int):Int:=if capsR l=true∧sumC l≤24∧0≤n∧n < l.length then sumC (l.take n.toNat) else -1
theorem sumC_take:∀ (l:List Int) (k:Nat),k < l.length→sumC (l.take (k+1))=sumC (l.take k)+(l.getD k 0+4)
 | [],k,h=>by simp at h
 | c::r,0,h=>by simp [sumC]
 | c::r,k+1,h=>by
  have:=sumC_take r k (by simpa using h)
  simp only [List.take_succ_cons,sumC,this,List.getD_cons_succ]
  omega
theorem capsR_cons (c:Int) (r:List Int):capsR (c::r)=true↔(1≤c∧c≤4)∧capsR r=true:=by simp [capsR]
theorem sumC_len:∀ (l:List Int),capsR l=true→5 * (l.length:Int)≤sumC l
 | [],_=>by simp [sumC]
 | c::r,h=>by
  rw [capsR_cons] at h
  have:=sumC_len r h.2
  simp [sumC]
  omega
theorem sumC_up:∀ (l:List Int),capsR l=true→sumC l≤8 * (l.length:Int)
 | [],_=>by simp [sumC]
 | c::r,h=>by
  rw [capsR_cons] at h
  have:=sumC_up r h.2
  simp [sumC]
  omega
theorem sumC_le:∀ (l:List Int) (k:Nat),capsR l=true→sumC (l.take k)≤sumC l
 | [],k,_=>by simp
 | c::r,0,h=>by have:=sumC_len _ h;simp [sumC] at this ⊢;omega
 | c::r,k+1,h=>by
  rw [capsR_cons] at h
  have:=sumC_le r k h.2
  simp [sumC]
  omega
theorem capsR_take {l:List Int} (k:Nat) (h:capsR l=true):capsR (l.take k)=true:=by
 unfold capsR at h ⊢
 rw [List.all_eq_true] at h ⊢
 exact fun x hx=>h x (List.mem_of_mem_take hx)
theorem capsR_step {l:List Int} {k:Nat} (hk:k < l.length) (h:capsR (l.take k)=true) (hx:1≤l.getD k 0∧l.getD k 0≤4):capsR (l.take (k+1))=true:=by
 unfold capsR at h ⊢
 have e:l[k]? =some (l.getD k 0):=by rw [List.getD_eq_getElem?_getD,List.getElem?_eq_getElem hk];rfl
 rw [all_take e,h]
 simpa using hx
theorem capsR_no {l:List Int} {k:Nat} (hk:k < l.length) (hx:¬ (1≤l.getD k 0∧l.getD k 0≤4)):capsR l=false:=by
 have e:l[k]? =some (l.getD k 0):=by rw [List.getD_eq_getElem?_getD,List.getElem?_eq_getElem hk];rfl
 exact all_no e (by simpa using hx)
theorem capsR_at {l:List Int} (h:capsR l=true) {k:Nat} (hk:k < l.length):1≤l.getD k 0∧l.getD k 0≤4:=by
 by_cases hx:1≤l.getD k 0∧l.getD k 0≤4
 ·exact hx
 ·rw [capsR_no hk hx] at h;cases h
theorem sumC_next {l:List Int} (h:capsR l=true) {k:Nat} (hk:k < l.length):sumC (l.take k)+(l.getD k 0+4)≤sumC l:=by
 rw [← sumC_take l k hk]
 exact sumC_le l (k+1) h
theorem capOkD_any (c:Int) (w:World):Calls Try.prog 18 #[.int .i64 c] w fun e w'=>e=.returned (.bool (decide (1≤c∧c≤4)))∧w'=w:=by
 by_cases h1:1≤c
 ·by_cases h2:c≤4
  ·rw [decide_eq_true ⟨h1,h2⟩]
   go_enter Try.func18,Try.ntmps18
   go_wp2
   go_ret
   exact ⟨by simp,rfl⟩
  ·rw [decide_eq_false (fun e=>h2 e.2)]
   go_enter Try.func18,Try.ntmps18
   go_wp2
   go_ret
   exact ⟨by simp,rfl⟩
 ·rw [decide_eq_false (fun e=>h1 e.1)]
  go_enter Try.func18,Try.ntmps18
  go_wp2
  go_ret
  exact ⟨by simp,rfl⟩
theorem capOkD_is (c:Int) (b:Bool) (w:World) (h:decide (1≤c∧c≤4)=b):Calls Try.prog 18 #[.int .i64 c] w fun e w'=>e=.returned (.bool b)∧w'=w:=by
 rw [← h]
 exact capOkD_any c w
theorem taken_any (c:Int) (w:World) (h1:1≤c) (h4:c≤4):Calls Try.prog 19 #[.int .i64 c] w fun e w'=>e=.returned (.int .i64 (c+4))∧w'=w:=by
 go_enter Try.func19,Try.ntmps19
 go_wp2
 go_ret
 exact ⟨by go_num,rfl⟩
def baseK (l:List Int) (n:Int) (k:Nat):Int:=if 0≤n∧n < (k:Int) then sumC (l.take n.toNat) else -1
set_option maxHeartbeats 4000000 in
theorem implBase_any (s : Option Addr) (c lo hi : Nat) (l : List Int) (n : Int) (w : World) (h : IntsR w lo hi s l) (hB : hi ≤ w.heap.size) (hl : l.length ≤ 2000000) :
  Calls Try.prog 6 #[.slice s l.length c,.int .i64 n] w fun e w'=>e=.returned (.int .i64 (baseV l n))∧Below w.heap.size w w':=by
 have H:Hid (IntsR w lo hi s l):=h
 clear h
 go_enter Try.func6,Try.ntmps6
 go_wp2
 go_loopw [5,6,11] (fun b x i wr=>∃ k:Nat,k≤l.length∧i=.int .i64 k∧x=.int .i64 (sumC (l.take k))∧b=.int .i64 (baseK l n k)∧capsR (l.take k)=true∧sumC (l.take k)≤24∧Below w.heap.size w wr) (fun _ _ i _=>l.length - (intOf i).toNat)
 case atStart=>exact ⟨0,Nat.zero_le _,rfl,by simp [sumC],by simp [baseK];omega,by simp [capsR],by simp [sumC],Below.refl _ _⟩
 case round=>
  obtain ⟨k,hk,rfl,rfl,rfl,hc,h24,hb⟩:=hrel
  have HB:Hid (Below w.heap.size w wr):=hb
  have HC:Hid (capsR (l.take k)=true):=hc
  have h00:0≤sumC (l.take k):=by have:=sumC_len _ hc;omega
  clear hb hc
  by_cases hlt:k < l.length
  ·obtain ⟨g,o,rfl,a1,a2,a3⟩:=H.out.pos (by omega)
   have f1:=(HB.out.cell (p:=⟨g,o+k,none⟩) (by show g < _;omega)).trans (a3 k hlt)
   clear a3
   generalize hx:l.getD k 0=x at f1
   have HX:Hid (l.getD k 0=x):=hx
   clear hx
   have b0:(0:Int)≤(k:Int):=by omega
   have b1:(k:Int) < (l.length:Int):=by omega
   have HS:Hid (sumC (l.take (k+1))=sumC (l.take k)+(x+4)):=by show _=_;rw [sumC_take l k hlt,HX.out]
   generalize hy:sumC (l.take k)=y at h24 h00 HS
   by_cases hr:1≤x∧x≤4
   ·have x1:=hr.1
    have x4:=hr.2
    have HC1:Hid (capsR (l.take (k+1))=true):=capsR_step hlt HC.out (by rw [HX.out];exact hr)
    have hd:decide (1≤x∧x≤4)=true:=decide_eq_true hr
    clear hr
    by_cases hm:y+(x+4)≤24
    ·have hm':¬ y+(x+4) > 24:=by omega
     by_cases hn:(k:Int)=n
     ·subst hn
      have hkk:((k:Int)==(k:Int))=true:=by simp
      go_wp2_with (first | (go_at_call 18;refine (capOkD_is x true _ hd).mono ?_;rintro e w9 ⟨rfl,hw9⟩;subst w9) | (go_at_call 19;refine (taken_any x _ x1 x4).mono ?_;rintro e w9 ⟨rfl,hw9⟩;subst w9))
      refine ⟨⟨k+1,by omega,by go_num,by rw [HS.out],by unfold baseK;rw [if_pos (by omega),Int.toNat_natCast,hy],HC1.out,by rw [HS.out];exact hm,HB.out⟩,by simp [intOf];omega⟩
     ·have hkk:((k:Int)==n)=false:=by simpa using hn
      go_wp2_with (first | (go_at_call 18;refine (capOkD_is x true _ hd).mono ?_;rintro e w9 ⟨rfl,hw9⟩;subst w9) | (go_at_call 19;refine (taken_any x _ x1 x4).mono ?_;rintro e w9 ⟨rfl,hw9⟩;subst w9))
      refine ⟨⟨k+1,by omega,by go_num,by rw [HS.out],?_,HC1.out,by rw [HS.out];exact hm,HB.out⟩,by simp [intOf];omega⟩
      unfold baseK
      by_cases hq:0≤n∧n < (k:Int)
      ·rw [if_pos hq,if_pos (by omega)]
      ·rw [if_neg hq,if_neg (by omega)]
    ·have hm':y+(x+4) > 24:=by omega
     go_wp2_with (first | (go_at_call 18;refine (capOkD_is x true _ hd).mono ?_;rintro e w9 ⟨rfl,hw9⟩;subst w9) | (go_at_call 19;refine (taken_any x _ x1 x4).mono ?_;rintro e w9 ⟨rfl,hw9⟩;subst w9))
     go_ret
     refine ⟨?_,HB.out⟩
     have e:baseV l n=-1:=by
      unfold baseV
      rw [if_neg]
      rintro ⟨q1,q2,-⟩
      have:=sumC_le l (k+1) q1
      rw [HS.out] at this
      omega
     rw [e]
     rfl
   ·have hd:decide (1≤x∧x≤4)=false:=decide_eq_false hr
    have HN:Hid (capsR l=false):=capsR_no hlt (by rw [HX.out];exact hr)
    clear hr
    go_wp2_with (go_at_call 18;refine (capOkD_is x false _ hd).mono ?_;rintro e w9 ⟨rfl,hw9⟩;subst w9)
    go_ret
    refine ⟨?_,HB.out⟩
    have e:baseV l n=-1:=by
     unfold baseV
     rw [if_neg (by rw [HN.out];simp)]
    rw [e]
    rfl
  ·have e:baseK l n k=baseV l n:=by
    have ek:k=l.length:=by omega
    subst ek
    have h1:=HC.out
    rw [List.take_length] at h1 h24
    unfold baseK baseV
    by_cases hq:0≤n∧n < (l.length:Int)
    ·rw [if_pos hq,if_pos ⟨h1,h24,hq⟩]
    ·rw [if_neg hq,if_neg (fun e=>hq e.2.2)]
   rw [e]
   clear e
   go_wp2
   go_ret
   exact ⟨rfl,HB.out⟩
theorem l9Base_any (s : Option Addr) (c lo hi : Nat) (l : List Int) (n : Nat) (w : World) (h : IntsR w lo hi s l) (hB : hi ≤ w.heap.size) (hl : l.length ≤ 24) (hn : n ≤ l.length) (hc : capsR l = true) :
  Calls Try.prog 22 #[.slice s l.length c,.int .i64 n] w fun e w'=>e=.returned (.int .i64 (sumC (l.take n)))∧Below w.heap.size w w':=by
 have H:Hid (IntsR w lo hi s l):=h
 have HC:Hid (capsR l=true):=hc
 clear h hc
 go_enter Try.func22,Try.ntmps22
 go_wp2
 go_loopw [5,6] (fun x i wr=>∃ k:Nat,k≤n∧i=.int .i64 k∧x=.int .i64 (sumC (l.take k))∧Below w.heap.size w wr) (fun _ i _=>n - (intOf i).toNat)
 case atStart=>exact ⟨0,Nat.zero_le _,rfl,by simp [sumC],Below.refl _ _⟩
 case round=>
  obtain ⟨k,hk,rfl,rfl,hb⟩:=hrel
  have HB:Hid (Below w.heap.size w wr):=hb
  clear hb
  by_cases hlt:k < n
  ·obtain ⟨g,o,rfl,a1,a2,a3⟩:=H.out.pos (by omega)
   have f1:=(HB.out.cell (p:=⟨g,o+k,none⟩) (by show g < _;omega)).trans (a3 k (by omega))
   clear a3
   have HX:=capsR_at HC.out (k:=k) (by omega)
   have y0:=sumC_len _ (capsR_take k HC.out)
   have y1:=sumC_up _ (capsR_take k HC.out)
   have HS:Hid (sumC (l.take (k+1))=sumC (l.take k)+(l.getD k 0+4)):=sumC_take l k (by omega)
   rw [List.length_take] at y0 y1
   generalize l.getD k 0=x at f1 HX HS
   generalize sumC (l.take k)=y at y0 y1 HS
   have x1:=HX.1
   have x4:=HX.2
   have y2:y≤400:=by omega
   have y3:0≤y:=by omega
   clear HX y0 y1
   have b0:(0:Int)≤(k:Int):=by omega
   have b1:(k:Int) < (l.length:Int):=by omega
   have b2:(k:Int) < (n:Int):=by omega
   go_wp2
   refine ⟨⟨k+1,by omega,by go_num,by rw [HS.out];go_num,HB.out⟩,by simp [intOf];omega⟩
  ·have e:k=n:=by omega
   subst e
   go_wp2
   go_ret
   exact ⟨rfl,HB.out⟩
def rightC (l:List Int):Bool:=capsR l&&decide (sumC l≤24)
set_option maxHeartbeats 4000000 in
theorem l9Right_any (s : Option Addr) (c lo hi : Nat) (l : List Int) (w : World) (h : IntsR w lo hi s l) (hB : hi ≤ w.heap.size) (hl : l.length ≤ 2000000) :
  Calls Try.prog 20 #[.slice s l.length c] w fun e w'=>e=.returned (.bool (rightC l))∧Below w.heap.size w w':=by
 have H:Hid (IntsR w lo hi s l):=h
 clear h
 go_enter Try.func20,Try.ntmps20
 go_wp2
 go_loopw [3] (fun i wr=>∃ k:Nat,k≤l.length∧i=.int .i64 k∧capsR (l.take k)=true∧Below w.heap.size w wr) (fun i _=>l.length - (intOf i).toNat)
 case atStart=>exact ⟨0,Nat.zero_le _,rfl,by simp [capsR],Below.refl _ _⟩
 case round=>
  obtain ⟨k,hk,rfl,hc,hb⟩:=hrel
  have HB:Hid (Below w.heap.size w wr):=hb
  have HC:Hid (capsR (l.take k)=true):=hc
  clear hb hc
  by_cases hlt:k < l.length
  ·obtain ⟨g,o,rfl,a1,a2,a3⟩:=H.out.pos (by omega)
   have f1:=(HB.out.cell (p:=⟨g,o+k,none⟩) (by show g < _;omega)).trans (a3 k hlt)
   clear a3
   generalize hx:l.getD k 0=x at f1
   have HX:Hid (l.getD k 0=x):=hx
   clear hx
   have b0:(0:Int)≤(k:Int):=by omega
   have b1:(k:Int) < (l.length:Int):=by omega
   by_cases hr:1≤x∧x≤4
   ·have HC1:Hid (capsR (l.take (k+1))=true):=capsR_step hlt HC.out (by rw [HX.out];exact hr)
    have hd:decide (1≤x∧x≤4)=true:=decide_eq_true hr
    clear hr
    go_wp2_with (go_at_call 21;refine (l1InD_is x 1 4 true _ hd).mono ?_;rintro e w9 ⟨rfl,hw9⟩;subst w9)
    exact ⟨⟨k+1,by omega,by go_num,HC1.out,HB.out⟩,by simp [intOf];omega⟩
   ·have hd:decide (1≤x∧x≤4)=false:=decide_eq_false hr
    have HN:Hid (capsR l=false):=capsR_no hlt (by rw [HX.out];exact hr)
    clear hr
    go_wp2_with (go_at_call 21;refine (l1InD_is x 1 4 false _ hd).mono ?_;rintro e w9 ⟨rfl,hw9⟩;subst w9)
    go_ret
    refine ⟨?_,HB.out⟩
    have e:rightC l=false:=by unfold rightC;rw [HN.out];rfl
    rw [e]
    rfl
  ·have HC1:Hid (capsR l=true):=by have:=HC.out;rw [List.take_of_length_le (by omega)] at this;exact this
   by_cases h24:l.length≤24
   ·have h24':(l.length:Int)≤24:=by omega
    have HW:Hid (IntsR wr lo hi s l):=H.out.keep (Keep.of_below HB.out hB)
    have zz:=HB.out.size
    have e0:l.take l.length=l:=List.take_length
    have lb:=l9Base_any s c lo hi l l.length wr HW.out (by omega) h24 (Nat.le_refl _) HC1.out
    rw [e0] at lb
    clear e0
    by_cases hs:sumC l≤24
    ·have HR:Hid (rightC l=true):=by show _=_;unfold rightC;rw [HC1.out];simpa using hs
     generalize sumC l=z at lb hs
     go_wp2_with (go_at_call 22;refine lb.mono ?_;rintro e w9 ⟨rfl,hb9⟩)
     go_ret
     exact ⟨by rw [HR.out];simp [Array.getD];try omega,HB.out.trans (hb9.mono zz)⟩
    ·have HR:Hid (rightC l=false):=by show _=_;unfold rightC;rw [HC1.out];simpa using hs
     generalize sumC l=z at lb hs
     go_wp2_with (go_at_call 22;refine lb.mono ?_;rintro e w9 ⟨rfl,hb9⟩)
     go_ret
     exact ⟨by rw [HR.out];simp [Array.getD];try omega,HB.out.trans (hb9.mono zz)⟩
   ·have h24':¬ (l.length:Int)≤24:=by omega
    have HR:Hid (rightC l=false):=by
     show _=_
     unfold rightC
     have:=sumC_len _ HC1.out
     rw [HC1.out]
     simp
     omega
    clear h24
    go_wp2
    go_ret
    exact ⟨by rw [HR.out];rfl,HB.out⟩
theorem baseV_no {l:List Int} {n:Int} (h:¬ (rightC l=true∧0≤n∧n≤(l.length:Int) - 1)):baseV l n=-1:=by
 unfold baseV
 rw [if_neg]
 rintro ⟨a,b,c,d⟩
 exact h ⟨by unfold rightC;rw [a];simpa using b,c,by omega⟩
theorem baseV_yes {l:List Int} {n:Int} (h:rightC l=true) (h0:0≤n) (h1:n≤(l.length:Int) - 1):baseV l n=sumC (l.take n.toNat):=by
 unfold rightC at h
 rw [Bool.and_eq_true,decide_eq_true_eq] at h
 unfold baseV
 rw [if_pos ⟨h.1,h.2,h0,by omega⟩]
set_option maxHeartbeats 4000000 in
theorem specBase_any (s : Option Addr) (c lo hi : Nat) (l : List Int) (n : Int) (w : World) (h : IntsR w lo hi s l) (hB : hi ≤ w.heap.size) (hl : l.length ≤ 2000000) :
  Calls Try.prog 7 #[.slice s l.length c,.int .i64 n] w fun e w'=>e=.returned (.int .i64 (baseV l n))∧Below w.heap.size w w':=by
 have H:Hid (IntsR w lo hi s l):=h
 clear h
 have r9:=l9Right_any s c lo hi l w H.out hB hl
 by_cases hr:rightC l=true
 ·rw [hr] at r9
  by_cases hn:0≤n∧n≤(l.length:Int) - 1
  ·have hd:decide (0≤n∧n≤(l.length:Int) - 1)=true:=decide_eq_true hn
   have HE:Hid (baseV l n=sumC (l.take n.toNat)):=baseV_yes hr hn.1 hn.2
   have hrr:=hr
   unfold rightC at hrr
   rw [Bool.and_eq_true,decide_eq_true_eq] at hrr
   have hlen:=sumC_len _ hrr.1
   have HC:Hid (capsR l=true):=hrr.1
   have h24:l.length≤24:=by omega
   have n0:=hn.1
   have n1:=hn.2
   have HT:Hid (IntsR w lo hi s l):=H.out
   obtain ⟨m,rfl⟩:∃ m:Nat,n=(m:Int):=⟨n.toNat,by omega⟩
   rw [Int.toNat_natCast] at HE
   clear hn hr hrr hlen
   go_enter Try.func7,Try.ntmps7
   go_wp2_with (first | (go_at_call 20;refine r9.mono ?_;rintro e w8 ⟨rfl,hb8⟩;have z8:=hb8.size) | (go_at_call 21;refine (l1InD_is _ _ _ true _ hd).mono ?_;rintro e w9 ⟨rfl,hw9⟩;subst w9) | (go_at_call 22;refine (l9Base_any s c lo hi l m w8 (H.out.keep (Keep.of_below hb8 hB)) (by omega) h24 (by omega) HC.out).mono ?_;rintro e w9 ⟨rfl,hb9⟩))
   go_ret
   exact ⟨by rw [HE.out];rfl,hb8.trans (hb9.mono z8)⟩
  ·have hd:decide (0≤n∧n≤(l.length:Int) - 1)=false:=decide_eq_false hn
   have HE:Hid (baseV l n=-1):=baseV_no (fun e=>hn e.2)
   clear hn hr
   go_enter Try.func7,Try.ntmps7
   go_wp2_with (first | (go_at_call 20;refine r9.mono ?_;rintro e w8 ⟨rfl,hb8⟩;have z8:=hb8.size) | (go_at_call 21;refine (l1InD_is _ _ _ false _ hd).mono ?_;rintro e w9 ⟨rfl,hw9⟩;subst w9))
   go_ret
   exact ⟨by rw [HE.out];rfl,hb8⟩
 ·have HE:Hid (baseV l n=-1):=baseV_no (fun e=>hr e.1)
  have hr':rightC l=false:=by simpa using hr
  rw [hr'] at r9
  clear hr hr'
  go_enter Try.func7,Try.ntmps7
  go_wp2_with (go_at_call 20;refine r9.mono ?_;rintro e w8 ⟨rfl,hb8⟩;have z8:=hb8.size)
  go_ret
  exact ⟨by rw [HE.out];rfl,hb8⟩
end
section
set_option linter.unusedSimpArgs false
set_option linter.unusedVariables false
set_option maxRecDepth 100000
open Go.RowKit
end
section
set_option linter.unusedSimpArgs false
set_option linter.unusedVariables false
set_option maxRecDepth 100000
open Go.RowKit
end
section
set_option linter.unusedSimpArgs false
set_option linter.unusedVariables false
set_option maxRecDepth 100000
open Go.RowKit
end
section
set_option linter.unusedSimpArgs false
set_option linter.unusedVariables false
set_option maxRecDepth 100000
open Go.RowKit
def sizeV (op:Int):Int:=if op=5 then 29 else if op=7 then 31 else if op=6 then 30 else if op=8 then 32 else if op=9 then 13 else if 1≤op∧op≤13 then 1 else 0
def bitN (b:Bool):Int:=if b then 1 else 0
theorem l4Bit_any (b:Bool) (w:World):Calls Try.prog 58 #[.bool b] w fun e w'=>e=.returned (.int .i64 (bitN b))∧w'=w:=by
 cases b
 all_goals
  go_enter Try.func58,Try.ntmps58
  go_wp2
  go_ret
  exact ⟨rfl,rfl⟩
theorem specSize_any (o r a b n:Int) (w:World):Calls Try.prog 61 #[.agg #[.int .i64 o,.int .i64 r,.int .i64 a,.int .i64 b,.int .i64 n]] w fun e w'=>e=.returned (.int .i64 (sizeV o))∧w'=w.alloc (.cells #[.int .i64 o,.int .i64 r,.int .i64 a,.int .i64 b,.int .i64 n] 105):=by
 by_cases h5:o=5
 ·subst h5
  go_enter Try.func61,Try.ntmps61
  go_wp2
  go_ret
  exact ⟨rfl,rfl⟩
 have e5:(o==5)=false:=by simpa using h5
 by_cases h7:o=7
 ·subst h7
  go_enter Try.func61,Try.ntmps61
  go_wp2
  go_ret
  exact ⟨rfl,rfl⟩
 have e7:(o==7)=false:=by simpa using h7
 by_cases h6:o=6
 ·subst h6
  go_enter Try.func61,Try.ntmps61
  go_wp2
  go_ret
  exact ⟨rfl,rfl⟩
 have e6:(o==6)=false:=by simpa using h6
 by_cases h8:o=8
 ·subst h8
  go_enter Try.func61,Try.ntmps61
  go_wp2
  go_ret
  exact ⟨rfl,rfl⟩
 have e8:(o==8)=false:=by simpa using h8
 by_cases h9:o=9
 ·subst h9
  go_enter Try.func61,Try.ntmps61
  go_wp2
  go_ret
  exact ⟨rfl,rfl⟩
 have e9:(o==9)=false:=by simpa using h9
 have es:sizeV o=bitN (decide (1≤o∧o≤13)):=by
  unfold sizeV bitN
  rw [if_neg h5,if_neg h7,if_neg h6,if_neg h8,if_neg h9]
  by_cases h:1≤o∧o≤13
  ·rw [if_pos h,decide_eq_true h];rfl
  ·rw [if_neg h,decide_eq_false h];rfl
 rw [es]
 clear es h5 h6 h7 h8 h9
 obtain ⟨bb,hbb⟩:∃ b,decide (1≤o∧o≤13)=b:=⟨_,rfl⟩
 rw [hbb]
 have C:=fun w=>l1InD_is o 1 13 bb w hbb
 clear hbb
 go_enter Try.func61,Try.ntmps61
 go_wp2_with (first | (go_at_call 21;refine (C _).mono ?_;rintro e w1 ⟨rfl,hw⟩;subst w1) | (go_at_call 58;refine (l4Bit_any _ _).mono ?_;rintro e w1 ⟨rfl,hw⟩;subst w1))
 go_ret
 exact ⟨rfl,rfl⟩
end
section
set_option linter.unusedSimpArgs false
set_option linter.unusedVariables false
set_option maxRecDepth 100000
open Go.RowKit
end
section
set_option linter.unusedSimpArgs false
set_option linter.unusedVariables false
set_option maxRecDepth 100000
namespace Plain
end Plain
end
section
set_option linter.unusedSimpArgs false
set_option linter.unusedVariables false
set_option maxRecDepth 100000
open Go.RowKit
end
section
set_option linter.unusedSimpArgs false
set_option linter.unusedVariables false
set_option maxRecDepth 100000
open Go.RowKit
end
section
set_option linter.unusedSimpArgs false
set_option linter.unusedVariables false
set_option maxRecDepth 100000
open Go.RowKit
/- a place in a box -/
structure XB (w:World) (G:Nat) (o r a x n:Int):Prop where
 c0:w.cell? ⟨G,0,none⟩=some (.int .i64 o)
 c1:w.cell? ⟨G,1,none⟩=some (.int .i64 r)
 c2:w.cell? ⟨G,2,none⟩=some (.int .i64 a)
 c3:w.cell? ⟨G,3,none⟩=some (.int .i64 x)
 c4:w.cell? ⟨G,4,none⟩=some (.int .i64 n)
 lt:G < w.heap.size
theorem XB.keep {w w':World} {G:Nat} {o r a x n:Int} (h:XB w G o r a x n) (hb:Below w.heap.size w w'):XB w' G o r a x n:=
 ⟨(hb.cell (p:=⟨G,0,none⟩) h.lt).trans h.c0,(hb.cell (p:=⟨G,1,none⟩) h.lt).trans h.c1,(hb.cell (p:=⟨G,2,none⟩) h.lt).trans h.c2,(hb.cell (p:=⟨G,3,none⟩) h.lt).trans h.c3,(hb.cell (p:=⟨G,4,none⟩) h.lt).trans h.c4,by have:=hb.size;have:=h.lt;omega⟩
theorem XB.new (w:World) (o r a x n:Int) (T:TypeId):∃ W,w.alloc (.cells #[.int .i64 o,.int .i64 r,.int .i64 a,.int .i64 x,.int .i64 n] T)=W∧XB W w.heap.size o r a x n∧Below w.heap.size w W∧w.heap.size < W.heap.size:=
 ⟨_,rfl,⟨by simp [go_sem],by simp [go_sem],by simp [go_sem],by simp [go_sem],by simp [go_sem],by simp⟩,(Below.refl _ _).alloc (Nat.le_refl _) _,by simp⟩
theorem Below.via {B:Nat} {w cur w2:World} (h2:Below cur.heap.size cur w2) (hB:B≤w.heap.size) (h1:Below B w cur):Below B w w2:=h1.trans (h2.mono (Nat.le_trans hB h1.size))
end
section
set_option linter.unusedSimpArgs false
set_option linter.unusedVariables false
set_option maxRecDepth 100000
open Go.RowKit
def chanM (o r a x rm b fr:Int):List I5:=
 if o=5 then togL fr [lockR b,askR b 3,faultR b,openR b rm,roundR,putR b a++(letR b++[⟨10,0,0,0,-1⟩]),letR b++[⟨10,0,0,0,0⟩]] [lockR b,askR b 3,faultR b,openR b rm,roundR,putR b a++(letR b++[⟨10,0,0,0,-1⟩]),letR b++[⟨10,0,0,0,0⟩]]
 else if o=6 then togL fr [lockR b,takenR b r rm,roundT,keepT b x,noneT b r x 0,[⟨10,0,0,0,0⟩]] [lockR b,takenR b r rm,roundT,keepT b x,noneT b r x 0,[⟨10,0,0,0,0⟩]]
 else if o=7 then togL fr [lockR b,askR b 3,faultR b,openR b rm,roundR,putR b a++(letR b++triedR r 1),letR b++triedR r 0] [lockR b,askR b 3,faultR b,openR b rm,roundR,putR b a++(letR b++triedR r 1),letR b++triedR r 0]
 else if o=8 then togL fr [lockR b,takenR b r rm,roundT,keepT b x,noneT b r x 2,cameR r x 0 0] [lockR b,takenR b r rm,roundT,keepT b x,noneT b r x 2,cameR r x 0 0]
 else togL fr [lockR b,askR b 3,faultR b,[⟨1,7,0,0,1⟩,⟨6,0,-1,7,b+3⟩]++letR b] [lockR b,askR b 3,faultR b,[⟨1,7,0,0,1⟩,⟨6,0,-1,7,b+3⟩]++letR b]
def emitM (caps starts:List Int) (o r a x n fr:Int):List I5:=
 if Plain.insB o r a x n starts.length caps.length=true then
  if o=1 then [⟨1,r,0,0,n⟩] else if o=2 then [⟨2,r,a,x,0⟩] else if o=3 then [⟨3,r,a,x,0⟩] else if o=4 then [⟨4,r,a,x,0⟩]
  else if o=10 then [⟨9,0,a,0,0⟩] else if o=11 then [⟨10,0,0,0,starts.getD n.toNat 0⟩] else if o=12 then [⟨11,0,a,0,starts.getD n.toNat 0⟩] else if o=13 then [⟨12,0,0,0,0⟩]
  else if baseV caps n=-1 then [] else chanM o r a x (caps.getD n.toNat 0) (baseV caps n) fr
 else []
theorem baseV_up {caps:List Int} {n:Int} (h:baseV caps n≠ -1):0≤baseV caps n∧baseV caps n≤20∧0≤n∧n < caps.length:=by
 unfold baseV at h ⊢
 by_cases hc:capsR caps=true∧sumC caps≤24∧0≤n∧n < caps.length
 ·rw [if_pos hc]
  obtain ⟨h1,h2,h3,h4⟩:=hc
  have q:=sumC_next h1 (k:=n.toNat) (by omega)
  have q2:=capsR_at h1 (k:=n.toNat) (by omega)
  have q3:=sumC_len _ (capsR_take n.toNat h1)
  refine ⟨by omega,by omega,h3,h4⟩
 ·rw [if_neg hc] at h
  exact absurd rfl h
theorem insB_ops {o r a x n pl ch:Int} (h:Plain.insB o r a x n pl ch=true):o=1∨o=2∨o=3∨o=4∨o=5∨o=6∨o=7∨o=8∨o=9∨o=10∨o=11∨o=12∨o=13:=by
 unfold Plain.insB at h
 have:=of_decide_eq_true h
 omega
theorem insB_jump {o r a x n pl ch:Int} (h:Plain.insB o r a x n pl ch=true) (ho:o=11∨o=12):0≤n∧n < pl:=by
 unfold Plain.insB at h
 have:=of_decide_eq_true h
 omega
end
end Go.Proofs.Ytkhjhibigldcgaa
