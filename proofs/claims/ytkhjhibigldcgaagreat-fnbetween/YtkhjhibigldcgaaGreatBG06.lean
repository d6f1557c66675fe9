/- Where parts begin that stand one behind the other. Conditions: at most a hundred of them. Parts put together: their jumps go where the parts begin. Conditions: at most a hundred parts, of at most nine hundred steps. Parts put together behind the lock. Conditions: the channel lies in memory; at most ninety parts. Rows that lie somewhere, and a row of them. Conditions: at most a thousand steps. What both that take are made of. Conditions: the channel lies in memory. What both that send are made of. Conditions: the channel lies in memory. Base of the program and of the specification: where a channel begins. Conditions: lists of at most 2^20 + 100. What the emitters of channels answer. Conditions: the channel lies in memory. -/
import Derived.Test.YtkhjhibigldcgaaGreatBG00
import Derived.Test.YtkhjhibigldcgaaGreatBG01
import Derived.Test.YtkhjhibigldcgaaGreatBG05
import Derived.Test.YtkhjhibigldcgaaGreatBG04
import Derived.Deep.QuietTactic
import Derived.BigQuiet
namespace Go.Proofs.YtkhjhibigldcgaaGreat
section
set_option linter.unusedSimpArgs false
set_option linter.unusedVariables false
set_option maxRecDepth 100000
open Go.RowKit
def isJ (o:Int):Bool:=decide (o=10∨o=11)
def firstV (f:Int):List (List I5)→Int
 | []=>f
 | l::r=>firstV (ad f l.length) r
def toN (t:Int) (n:Nat):Nat:=if t=-1 then n else t.toNat
end
section
set_option linter.unusedSimpArgs false
set_option linter.unusedVariables false
set_option maxRecDepth 100000
open Go.RowKit
theorem ad_ad (f a b:Int):ad (ad f a) b=ad f (a+b):=by unfold ad wrap64;omega
theorem app5n {ops : Array Oper} {rest : List Oper} {o : Oper} {a : Act} {Q : Exit → Act → World → Prop} (hgd : o.guard = none) (s x : Operand) (ho : o.op = .call { callee := .builtin .append, args := #[s, x], argTypes := #[66, 66] })
  (w:World) (C:Array Value) (base:Nat) (v:Value) (L1:List I5) (hs:a.eval s=v) (hown:OwnT5 w base v L1) (n2:Nat) (L2:List I5) (hx:a.eval x=.slice (some ⟨w.heap.size,0,none⟩) n2 n2) (hC:C.toList=(fl5 L2).map (Value.int .i64)) (hl2:L2.length=n2)
  (hl:0 < n2) (hn:L1.length+n2≤1000) (N:Nat) (hN:L1.length+n2=N) (hbase:base≤w.heap.size)
  (h:∀ g c w',OwnT5 w' base (.slice (some ⟨g,0,none⟩) N c) (L1++L2)→Below base w w'→wpList Tryz.prog ops Q rest (a.put o.dst (.slice (some ⟨g,0,none⟩) N c)) w'):wpList Tryz.prog ops Q (o::rest) a (w.alloc (.cells C 65)):=by
 have kk:Below w.heap.size w (w.alloc (.cells C 65)):=(Below.refl _ _).alloc (Nat.le_refl _) _
 have hn5:=own5_new (w:=w) (base:=w.heap.size) L2 C hC (Nat.le_refl _) (by omega)
 rw [hl2] at hn5
 refine app5 hgd s x ho (w.alloc (.cells C 65)) base v L1 hs (hown.keep kk) w.heap.size w.heap.size n2 n2 L2 hx hn5 hl2 hl hn N hN (by simp;omega) ?_
 intro g c w' h1 h2
 exact h g c w' h1 ((kk.mono hbase).trans h2)
theorem step5n {ops : Array Oper} {o : Oper} {a : Act} {K : Act → World → Prop} {Q : Exit → Act → World → Prop} {E : Prop} (hgd : o.guard = none) (s x : Operand) (ho : o.op = .call { callee := .builtin .append, args := #[s, x], argTypes := #[66, 66] })
  (w:World) (C:Array Value) (base:Nat) (v:Value) (L1:List I5) (hs:a.eval s=v) (hown:OwnT5 w base v L1) (n2:Nat) (L2:List I5) (hx:a.eval x=.slice (some ⟨w.heap.size,0,none⟩) n2 n2) (hC:C.toList=(fl5 L2).map (Value.int .i64)) (hl2:L2.length=n2)
  (hl:0 < n2) (hn:L1.length+n2≤1000) (N:Nat) (hN:L1.length+n2=N) (hbase:base≤w.heap.size)
  (h:∀ g c w',OwnT5 w' base (.slice (some ⟨g,0,none⟩) N c) (L1++L2)→Below base w w'→K (a.put o.dst (.slice (some ⟨g,0,none⟩) N c)) w'):if Region.wanted o (yielded ops a.tmps)=true then Oper.wp Tryz.prog o a (w.alloc (.cells C 65)) K Q else E:=by
 have kk:Below w.heap.size w (w.alloc (.cells C 65)):=(Below.refl _ _).alloc (Nat.le_refl _) _
 have hn5:=own5_new (w:=w) (base:=w.heap.size) L2 C hC (Nat.le_refl _) (by omega)
 rw [hl2] at hn5
 refine step5 hgd s x ho (w.alloc (.cells C 65)) base v L1 hs (hown.keep kk) w.heap.size w.heap.size n2 n2 L2 hx hn5 hl2 hl hn N hN (by simp;omega) ?_
 intro g c w' h1 h2
 exact h g c w' h1 ((kk.mono hbase).trans h2)
def fixJ (f:Int) (Ls:List (List I5)) (s:I5):I5:=if isJ s.o=true then ⟨s.o,s.r,s.a,s.b,firstV f (Ls.take (toN s.n Ls.length))⟩ else s
def togL (f:Int) (Ls:List (List I5)):List (List I5)→List I5
 | []=>[]
 | l::r=>l.map (fixJ f Ls)++togL f Ls r
theorem togL_app (f:Int) (Ls:List (List I5)) (b:List (List I5)):∀ a,togL f Ls (a++b)=togL f Ls a++togL f Ls b
 | []=>rfl
 | x::r=>by simp [togL,togL_app f Ls b r]
def lens (Ls:List (List I5)):Nat:=(Ls.map List.length).sum
theorem togL_len (f:Int) (Ls:List (List I5)):∀ a:List (List I5),(togL f Ls a).length=lens a
 | []=>rfl
 | x::r=>by
  have:=togL_len f Ls r
  simp only [togL,List.length_append,List.length_map,this]
  simp [lens]
end
section
set_option linter.unusedSimpArgs false
set_option linter.unusedVariables false
set_option maxRecDepth 100000
open Go.RowKit
theorem infoCd:∃ i,Tryz.prog.info? 66=some i∧i.zero=some (.slice none 0 0)∧i.size=1∧i.bytes=24:=⟨_,rfl,rfl,rfl,rfl⟩
end
section
set_option linter.unusedSimpArgs false
set_option linter.unusedVariables false
set_option maxRecDepth 100000
open Go.RowKit
theorem name5 {P : World → Prop} {w : World} {C : Array Value} (L : List I5) (base n : Nat) (hC : C.toList = (fl5 L).map (Value.int .i64)) (hn : L.length = n) (hn' : n ≤ 1000) (hb : base ≤ w.heap.size)
  (h:∀ W,OwnT5 W base (.slice (some ⟨w.heap.size,0,none⟩) n n) L→Below w.heap.size w W→w.heap.size < W.heap.size→P W):P (w.alloc (.cells C 65)):=by
 subst hn
 exact h _ (own5_new L C hC hb hn') ((Below.refl _ _).alloc (Nat.le_refl _) _) (by simp)
end
section
set_option linter.unusedSimpArgs false
set_option linter.unusedVariables false
set_option maxRecDepth 100000
open Go.RowKit
def takenR (b r rm:Int):List I5:=[⟨5,5,-1,0,b+2⟩,⟨11,0,5,0,4⟩,⟨5,4,-1,0,b+1⟩,⟨5,r,4,0,b+4⟩,⟨1,7,0,0,1⟩,⟨2,4,4,7,0⟩,⟨3,5,5,7,0⟩,⟨1,7,0,0,rm⟩,⟨4,6,4,7,0⟩,⟨11,0,6,0,2⟩,⟨10,0,0,0,3⟩]
def roundT:List I5:=[⟨1,4,0,0,0⟩]
def keepR (b:Int):List I5:=[⟨6,0,-1,4,b+1⟩,⟨6,0,-1,5,b+2⟩]
def keepT (b x:Int):List I5:=keepR b++(letR b++[⟨1,x,0,0,1⟩,⟨10,0,0,0,-1⟩])
def noneR (b:Int):List I5:=[⟨5,4,-1,0,b+3⟩]
def noneT (b r x o:Int):List I5:=(noneR b++(letR b++[⟨11,0,4,0,5⟩]))++cameR r x 0 o
end
section
set_option linter.unusedSimpArgs false
set_option linter.unusedVariables false
set_option maxRecDepth 100000
open Go.RowKit
def openR (b rm:Int):List I5:=[⟨5,5,-1,0,b+2⟩,⟨1,7,0,0,rm⟩,⟨4,6,5,7,0⟩,⟨11,0,6,0,6⟩,⟨5,4,-1,0,b+1⟩,⟨2,4,4,5,0⟩,⟨4,6,4,7,0⟩,⟨11,0,6,0,4⟩,⟨10,0,0,0,5⟩]
def roundR:List I5:=[⟨3,4,4,7,0⟩]
def putR (b a:Int):List I5:=[⟨6,0,4,a,b+4⟩,⟨1,7,0,0,1⟩,⟨2,5,5,7,0⟩,⟨6,0,-1,5,b+2⟩]
end
section
set_option linter.unusedSimpArgs false
set_option linter.unusedVariables false
set_option maxRecDepth 100000
open Go.RowKit
def capsR (l:List Int):Bool:=l.all (fun c=>decide (1≤c∧c≤4))
def sumC:List Int→Int
 | []=>0
 | c::r=>c+4+sumC r
def baseV (l:List Int) (n:Int):Int:=if capsR l=true∧sumC l≤24∧0≤n∧n < l.length then sumC (l.take n.toNat) else -1
theorem sumC_take:∀ (l:List Int) (k:Nat),k < l.length→sumC (l.take (k+1))=sumC (l.take k)+(l.getD k 0+4)
 | [],k,h=>by simp at h
 | c::r,0,h=>by simp [sumC]
 | c::r,k+1,h=>by
  have:=sumC_take r k (by simpa using h)
  simp only [List.take_succ_cons,sumC,this,List.getD_cons_succ]
  omega
theorem capsR_cons (c:Int) (r:List Int):capsR (c::r)=true↔(1≤c∧c≤4)∧capsR r=true:=by simp [capsR]
theorem sumC_len:∀ (l:List Int),capsR l=true→5 * (l.length:Int)≤sumC l
 | [],_=>by simp [sumC]
 | c::r,h=>by
  rw [capsR_cons] at h
  have:=sumC_len r h.2
  simp [sumC]
  omega
theorem sumC_up:∀ (l:List Int),capsR l=true→sumC l≤8 * (l.length:Int)
 | [],_=>by simp [sumC]
 | c::r,h=>by
  rw [capsR_cons] at h
  have:=sumC_up r h.2
  simp [sumC]
  omega
theorem sumC_le:∀ (l:List Int) (k:Nat),capsR l=true→sumC (l.take k)≤sumC l
 | [],k,_=>by simp
 | c::r,0,h=>by have:=sumC_len _ h;simp [sumC] at this ⊢;omega
 | c::r,k+1,h=>by
  rw [capsR_cons] at h
  have:=sumC_le r k h.2
  simp [sumC]
  omega
theorem capsR_take {l:List Int} (k:Nat) (h:capsR l=true):capsR (l.take k)=true:=by
 unfold capsR at h ⊢
 rw [List.all_eq_true] at h ⊢
 exact fun x hx=>h x (List.mem_of_mem_take hx)
theorem capsR_step {l:List Int} {k:Nat} (hk:k < l.length) (h:capsR (l.take k)=true) (hx:1≤l.getD k 0∧l.getD k 0≤4):capsR (l.take (k+1))=true:=by
 unfold capsR at h ⊢
 have e:l[k]? =some (l.getD k 0):=by rw [List.getD_eq_getElem?_getD,List.getElem?_eq_getElem hk];rfl
 rw [all_take e,h]
 simpa using hx
theorem capsR_no {l:List Int} {k:Nat} (hk:k < l.length) (hx:¬ (1≤l.getD k 0∧l.getD k 0≤4)):capsR l=false:=by
 have e:l[k]? =some (l.getD k 0):=by rw [List.getD_eq_getElem?_getD,List.getElem?_eq_getElem hk];rfl
 exact all_no e (by simpa using hx)
theorem capsR_at {l:List Int} (h:capsR l=true) {k:Nat} (hk:k < l.length):1≤l.getD k 0∧l.getD k 0≤4:=by
 by_cases hx:1≤l.getD k 0∧l.getD k 0≤4
 ·exact hx
 ·rw [capsR_no hk hx] at h;cases h
theorem sumC_next {l:List Int} (h:capsR l=true) {k:Nat} (hk:k < l.length):sumC (l.take k)+(l.getD k 0+4)≤sumC l:=by
 rw [← sumC_take l k hk]
 exact sumC_le l (k+1) h
theorem capOkD_any (c:Int) (w:World):Calls Tryz.prog 50 #[.int .i64 c] w fun e w'=>e=.returned (.bool (decide (1≤c∧c≤4)))∧w'=w:=by
 by_cases h1:1≤c
 ·by_cases h2:c≤4
  ·rw [decide_eq_true ⟨h1,h2⟩]
   go_enter Tryz.func50,Tryz.ntmps50
   go_wp2
   go_ret
   exact ⟨by simp,rfl⟩
  ·rw [decide_eq_false (fun e=>h2 e.2)]
   go_enter Tryz.func50,Tryz.ntmps50
   go_wp2
   go_ret
   exact ⟨by simp,rfl⟩
 ·rw [decide_eq_false (fun e=>h1 e.1)]
  go_enter Tryz.func50,Tryz.ntmps50
  go_wp2
  go_ret
  exact ⟨by simp,rfl⟩
theorem l9Base_any (s : Option Addr) (c lo hi : Nat) (l : List Int) (n : Nat) (w : World) (h : IntsR w lo hi s l) (hB : hi ≤ w.heap.size) (hl : l.length ≤ 24) (hn : n ≤ l.length) (hc : capsR l = true) :
  Calls Tryz.prog 75 #[.slice s l.length c,.int .i64 n] w fun e w'=>e=.returned (.int .i64 (sumC (l.take n)))∧Below w.heap.size w w':=by
 have H:Hid (IntsR w lo hi s l):=h
 have HC:Hid (capsR l=true):=hc
 clear h hc
 go_enter Tryz.func75,Tryz.ntmps75
 go_wp2
 go_loopw [5,6] (fun x i wr=>∃ k:Nat,k≤n∧i=.int .i64 k∧x=.int .i64 (sumC (l.take k))∧Below w.heap.size w wr) (fun _ i _=>n - (intOf i).toNat)
 case atStart=>exact ⟨0,Nat.zero_le _,rfl,by simp [sumC],Below.refl _ _⟩
 case round=>
  obtain ⟨k,hk,rfl,rfl,hb⟩:=hrel
  have HB:Hid (Below w.heap.size w wr):=hb
  clear hb
  by_cases hlt:k < n
  ·obtain ⟨g,o,rfl,a1,a2,a3⟩:=H.out.pos (by omega)
   have f1:=(HB.out.cell (p:=⟨g,o+k,none⟩) (by show g < _;omega)).trans (a3 k (by omega))
   clear a3
   have HX:=capsR_at HC.out (k:=k) (by omega)
   have y0:=sumC_len _ (capsR_take k HC.out)
   have y1:=sumC_up _ (capsR_take k HC.out)
   have HS:Hid (sumC (l.take (k+1))=sumC (l.take k)+(l.getD k 0+4)):=sumC_take l k (by omega)
   rw [List.length_take] at y0 y1
   generalize l.getD k 0=x at f1 HX HS
   generalize sumC (l.take k)=y at y0 y1 HS
   have x1:=HX.1
   have x4:=HX.2
   have y2:y≤400:=by omega
   have y3:0≤y:=by omega
   clear HX y0 y1
   have b0:(0:Int)≤(k:Int):=by omega
   have b1:(k:Int) < (l.length:Int):=by omega
   have b2:(k:Int) < (n:Int):=by omega
   go_wp2
   refine ⟨⟨k+1,by omega,by go_num,by rw [HS.out];go_num,HB.out⟩,by simp [intOf];omega⟩
  ·have e:k=n:=by omega
   subst e
   go_wp2
   go_ret
   exact ⟨rfl,HB.out⟩
def rightC (l:List Int):Bool:=capsR l&&decide (sumC l≤24)
set_option maxHeartbeats 4000000 in
theorem l9Right_any (s : Option Addr) (c lo hi : Nat) (l : List Int) (w : World) (h : IntsR w lo hi s l) (hB : hi ≤ w.heap.size) (hl : l.length ≤ 2000000) :
  Calls Tryz.prog 54 #[.slice s l.length c] w fun e w'=>e=.returned (.bool (rightC l))∧Below w.heap.size w w':=by
 have H:Hid (IntsR w lo hi s l):=h
 clear h
 go_enter Tryz.func54,Tryz.ntmps54
 go_wp2
 go_loopw [3] (fun i wr=>∃ k:Nat,k≤l.length∧i=.int .i64 k∧capsR (l.take k)=true∧Below w.heap.size w wr) (fun i _=>l.length - (intOf i).toNat)
 case atStart=>exact ⟨0,Nat.zero_le _,rfl,by simp [capsR],Below.refl _ _⟩
 case round=>
  obtain ⟨k,hk,rfl,hc,hb⟩:=hrel
  have HB:Hid (Below w.heap.size w wr):=hb
  have HC:Hid (capsR (l.take k)=true):=hc
  clear hb hc
  by_cases hlt:k < l.length
  ·obtain ⟨g,o,rfl,a1,a2,a3⟩:=H.out.pos (by omega)
   have f1:=(HB.out.cell (p:=⟨g,o+k,none⟩) (by show g < _;omega)).trans (a3 k hlt)
   clear a3
   generalize hx:l.getD k 0=x at f1
   have HX:Hid (l.getD k 0=x):=hx
   clear hx
   have b0:(0:Int)≤(k:Int):=by omega
   have b1:(k:Int) < (l.length:Int):=by omega
   by_cases hr:1≤x∧x≤4
   ·have HC1:Hid (capsR (l.take (k+1))=true):=capsR_step hlt HC.out (by rw [HX.out];exact hr)
    have hd:decide (1≤x∧x≤4)=true:=decide_eq_true hr
    clear hr
    go_wp2_with (go_at_call 13;refine (l1InD_is x 1 4 true _ hd).mono ?_;rintro e w9 ⟨rfl,hw9⟩;subst w9)
    exact ⟨⟨k+1,by omega,by go_num,HC1.out,HB.out⟩,by simp [intOf];omega⟩
   ·have hd:decide (1≤x∧x≤4)=false:=decide_eq_false hr
    have HN:Hid (capsR l=false):=capsR_no hlt (by rw [HX.out];exact hr)
    clear hr
    go_wp2_with (go_at_call 13;refine (l1InD_is x 1 4 false _ hd).mono ?_;rintro e w9 ⟨rfl,hw9⟩;subst w9)
    go_ret
    refine ⟨?_,HB.out⟩
    have e:rightC l=false:=by unfold rightC;rw [HN.out];rfl
    rw [e]
    rfl
  ·have HC1:Hid (capsR l=true):=by have:=HC.out;rw [List.take_of_length_le (by omega)] at this;exact this
   by_cases h24:l.length≤24
   ·have h24':(l.length:Int)≤24:=by omega
    have HW:Hid (IntsR wr lo hi s l):=H.out.keep (Keep.of_below HB.out hB)
    have zz:=HB.out.size
    have e0:l.take l.length=l:=List.take_length
    have lb:=l9Base_any s c lo hi l l.length wr HW.out (by omega) h24 (Nat.le_refl _) HC1.out
    rw [e0] at lb
    clear e0
    by_cases hs:sumC l≤24
    ·have HR:Hid (rightC l=true):=by show _=_;unfold rightC;rw [HC1.out];simpa using hs
     generalize sumC l=z at lb hs
     go_wp2_with (go_at_call 75;refine lb.mono ?_;rintro e w9 ⟨rfl,hb9⟩)
     go_ret
     exact ⟨by rw [HR.out];simp [Array.getD];try omega,HB.out.trans (hb9.mono zz)⟩
    ·have HR:Hid (rightC l=false):=by show _=_;unfold rightC;rw [HC1.out];simpa using hs
     generalize sumC l=z at lb hs
     go_wp2_with (go_at_call 75;refine lb.mono ?_;rintro e w9 ⟨rfl,hb9⟩)
     go_ret
     exact ⟨by rw [HR.out];simp [Array.getD];try omega,HB.out.trans (hb9.mono zz)⟩
   ·have h24':¬ (l.length:Int)≤24:=by omega
    have HR:Hid (rightC l=false):=by
     show _=_
     unfold rightC
     have:=sumC_len _ HC1.out
     rw [HC1.out]
     simp
     omega
    clear h24
    go_wp2
    go_ret
    exact ⟨by rw [HR.out];rfl,HB.out⟩
theorem baseV_no {l:List Int} {n:Int} (h:¬ (rightC l=true∧0≤n∧n≤(l.length:Int) - 1)):baseV l n=-1:=by
 unfold baseV
 rw [if_neg]
 rintro ⟨a,b,c,d⟩
 exact h ⟨by unfold rightC;rw [a];simpa using b,c,by omega⟩
theorem baseV_yes {l:List Int} {n:Int} (h:rightC l=true) (h0:0≤n) (h1:n≤(l.length:Int) - 1):baseV l n=sumC (l.take n.toNat):=by
 unfold rightC at h
 rw [Bool.and_eq_true,decide_eq_true_eq] at h
 unfold baseV
 rw [if_pos ⟨h.1,h.2,h0,by omega⟩]
set_option maxHeartbeats 4000000 in
theorem specBase_any (s : Option Addr) (c lo hi : Nat) (l : List Int) (n : Int) (w : World) (h : IntsR w lo hi s l) (hB : hi ≤ w.heap.size) (hl : l.length ≤ 2000000) :
  Calls Tryz.prog 80 #[.slice s l.length c,.int .i64 n] w fun e w'=>e=.returned (.int .i64 (baseV l n))∧Below w.heap.size w w':=by
 have H:Hid (IntsR w lo hi s l):=h
 clear h
 have r9:=l9Right_any s c lo hi l w H.out hB hl
 by_cases hr:rightC l=true
 ·rw [hr] at r9
  by_cases hn:0≤n∧n≤(l.length:Int) - 1
  ·have hd:decide (0≤n∧n≤(l.length:Int) - 1)=true:=decide_eq_true hn
   have HE:Hid (baseV l n=sumC (l.take n.toNat)):=baseV_yes hr hn.1 hn.2
   have hrr:=hr
   unfold rightC at hrr
   rw [Bool.and_eq_true,decide_eq_true_eq] at hrr
   have hlen:=sumC_len _ hrr.1
   have HC:Hid (capsR l=true):=hrr.1
   have h24:l.length≤24:=by omega
   have n0:=hn.1
   have n1:=hn.2
   have HT:Hid (IntsR w lo hi s l):=H.out
   obtain ⟨m,rfl⟩:∃ m:Nat,n=(m:Int):=⟨n.toNat,by omega⟩
   rw [Int.toNat_natCast] at HE
   clear hn hr hrr hlen
   go_enter Tryz.func80,Tryz.ntmps80
   go_wp2_with (first | (go_at_call 54;refine r9.mono ?_;rintro e w8 ⟨rfl,hb8⟩;have z8:=hb8.size) | (go_at_call 13;refine (l1InD_is _ _ _ true _ hd).mono ?_;rintro e w9 ⟨rfl,hw9⟩;subst w9) | (go_at_call 75;refine (l9Base_any s c lo hi l m w8 (H.out.keep (Keep.of_below hb8 hB)) (by omega) h24 (by omega) HC.out).mono ?_;rintro e w9 ⟨rfl,hb9⟩))
   go_ret
   exact ⟨by rw [HE.out];rfl,hb8.trans (hb9.mono z8)⟩
  ·have hd:decide (0≤n∧n≤(l.length:Int) - 1)=false:=decide_eq_false hn
   have HE:Hid (baseV l n=-1):=baseV_no (fun e=>hn e.2)
   clear hn hr
   go_enter Tryz.func80,Tryz.ntmps80
   go_wp2_with (first | (go_at_call 54;refine r9.mono ?_;rintro e w8 ⟨rfl,hb8⟩;have z8:=hb8.size) | (go_at_call 13;refine (l1InD_is _ _ _ false _ hd).mono ?_;rintro e w9 ⟨rfl,hw9⟩;subst w9))
   go_ret
   exact ⟨by rw [HE.out];rfl,hb8⟩
 ·have HE:Hid (baseV l n=-1):=baseV_no (fun e=>hr e.1)
  have hr':rightC l=false:=by simpa using hr
  rw [hr'] at r9
  clear hr hr'
  go_enter Tryz.func80,Tryz.ntmps80
  go_wp2_with (go_at_call 54;refine r9.mono ?_;rintro e w8 ⟨rfl,hb8⟩;have z8:=hb8.size)
  go_ret
  exact ⟨by rw [HE.out];rfl,hb8⟩
end
section
set_option linter.unusedSimpArgs false
set_option linter.unusedVariables false
set_option maxRecDepth 100000
open Go.RowKit
end
end Go.Proofs.YtkhjhibigldcgaaGreat
