/- A turn's doings on channels, whole. Conditions: the channel is ChanOk, of at most four numbers. A turn prints. Condition: there are less than a thousand million notes. A turn settled: the thread has what became of it. No condition. -/
import Derived.Test.YtknffngbdakblaaGreatJG08
import Derived.Test.YtknffngbdakblaaGreatJG13
import Derived.Test.YtknffngbdakblaaGreatJStepIm2
import Derived.Test.YtknffngbdakblaaGreatJG12
import Derived.Test.YtknffngbdakblaaGreatJG06
import Derived.Test.YtknffngbdakblaaGreatJG10
import Derived.Test.YtknffngbdakblaaGreatJG00
import Derived.Test.YtknffngbdakblaaGreatJChTake
import Derived.Test.YtknffngbdakblaaGreatJG03
import Derived.Laws.CopyOwn
import Derived.Deep.RegionHeld3
import Derived.Deep.DeepCutAuto
namespace Go.Proofs.YtknffngbdakblaaGreat
section
set_option linter.unusedSimpArgs false
set_option linter.unusedVariables false
set_option maxRecDepth 100000
open Go.RowKit
theorem takeV_none {c:CD} (hok:okC c.cap c.list.length=true) (h:takeK c.cap c.list c.cl≠0):takeV c.cap c.list=0:=by
 unfold takeK at h
 rw [if_pos hok] at h
 by_cases e:c.list=[]
 ·unfold takeV
  rw [if_pos hok,e]
  rfl
 ·rw [if_neg e] at h
  exact absurd rfl h
set_option maxHeartbeats 2000000 in
theorem do5 (o r a bb n : Int) (b S base n3 c3 : Nat) (s3 : Option Addr) (v1 v2 : Value) (L1 L2 : List (Rec × Value)) (d : SD) (who : Nat) (pc : Int) (rg : List Int) (w : World) (h : Rd w b S base v1 v2 (.slice s3 n3 c3) L1 L2 d who pc (pc + 1) 0 rg) (hr : 0 ≤ r ∧ r ≤ 3) (ha : 0 ≤ a ∧ a ≤ 3) (hb : 0 ≤ bb ∧ bb ≤ 3) (nn : Nat) (hn : n = nn) (c : CD) (hc : d.chs[nn]? = some c) (hcl : c.list.length ≤ 4) (hcn : d.chs.length ≤ 3) (hok : okC c.cap c.list.length = true) :
  Calls Tryz.prog 69 #[.pointer (some ⟨b,0,none⟩),.agg #[.int .i64 5,.int .i64 r,.int .i64 a,.int .i64 bb,.int .i64 n]] w fun e w'=>DoP w b S base v1 v2 (.slice s3 n3 c3) L1 L2 d who pc (doM ⟨pc,rg,0⟩ ⟨5,r,a,bb,n⟩ d.chs d.tr who) e w':=by
 subst hn
 obtain ⟨g2,c2,y9,e9,-⟩:=h.o.chanAt hc
 subst e9
 have ec:d.chs.getD nn zc=c:=chs_at hc
 refine (send_any 5 r a bb nn b S base g2 c2 who pc (pc+1) 0 rg v1 _ L1 L2 d c w h.t ha h.s h.o h.hb hc hcl hcn).mono ?_
 rintro e w' ⟨rfl,k⟩
 obtain ⟨L2',q⟩:=h.chan k
 refine ⟨?_,s3,n3,c3,L2',?_⟩
 ·simp only [doM,Int.toNat_natCast,ec]
  simp [chanH]
 ·simp only [doM,Int.toNat_natCast,ec]
  simpa [chanR,chanC] using q
set_option maxHeartbeats 2000000 in
theorem do9 (o r a bb n : Int) (b S base n3 c3 : Nat) (s3 : Option Addr) (v1 v2 : Value) (L1 L2 : List (Rec × Value)) (d : SD) (who : Nat) (pc : Int) (rg : List Int) (w : World) (h : Rd w b S base v1 v2 (.slice s3 n3 c3) L1 L2 d who pc (pc + 1) 0 rg) (hr : 0 ≤ r ∧ r ≤ 3) (ha : 0 ≤ a ∧ a ≤ 3) (hb : 0 ≤ bb ∧ bb ≤ 3) (nn : Nat) (hn : n = nn) (c : CD) (hc : d.chs[nn]? = some c) (hcl : c.list.length ≤ 4) (hcn : d.chs.length ≤ 3) (hok : okC c.cap c.list.length = true) :
  Calls Tryz.prog 73 #[.pointer (some ⟨b,0,none⟩),.agg #[.int .i64 9,.int .i64 r,.int .i64 a,.int .i64 bb,.int .i64 n]] w fun e w'=>DoP w b S base v1 v2 (.slice s3 n3 c3) L1 L2 d who pc (doM ⟨pc,rg,0⟩ ⟨9,r,a,bb,n⟩ d.chs d.tr who) e w':=by
 subst hn
 obtain ⟨g2,c2,y9,e9,-⟩:=h.o.chanAt hc
 subst e9
 have ec:d.chs.getD nn zc=c:=chs_at hc
 refine (shut_any 9 r a bb nn b S base g2 c2 who pc (pc+1) 0 rg v1 _ L1 L2 d c w h.t ha h.s h.o h.hb hc hcl hcn).mono ?_
 rintro e w' ⟨rfl,k⟩
 obtain ⟨L2',q⟩:=h.chan k
 refine ⟨?_,s3,n3,c3,L2',?_⟩
 ·simp only [doM,Int.toNat_natCast,ec]
  simp [chanH]
 ·simp only [doM,Int.toNat_natCast,ec]
  simpa [chanR,chanC] using q
set_option maxHeartbeats 2000000 in
theorem do6 (o r a bb n : Int) (b S base n3 c3 : Nat) (s3 : Option Addr) (v1 v2 : Value) (L1 L2 : List (Rec × Value)) (d : SD) (who : Nat) (pc : Int) (rg : List Int) (w : World) (h : Rd w b S base v1 v2 (.slice s3 n3 c3) L1 L2 d who pc (pc + 1) 0 rg) (hr : 0 ≤ r ∧ r ≤ 3) (ha : 0 ≤ a ∧ a ≤ 3) (hb : 0 ≤ bb ∧ bb ≤ 3) (nn : Nat) (hn : n = nn) (c : CD) (hc : d.chs[nn]? = some c) (hcl : c.list.length ≤ 4) (hcn : d.chs.length ≤ 3) (hok : okC c.cap c.list.length = true) (hrb : r ≠ bb) :
  Calls Tryz.prog 70 #[.pointer (some ⟨b,0,none⟩),.agg #[.int .i64 6,.int .i64 r,.int .i64 a,.int .i64 bb,.int .i64 n]] w fun e w'=>DoP w b S base v1 v2 (.slice s3 n3 c3) L1 L2 d who pc (doM ⟨pc,rg,0⟩ ⟨6,r,a,bb,n⟩ d.chs d.tr who) e w':=by
 subst hn
 obtain ⟨g2,c2,y9,e9,-⟩:=h.o.chanAt hc
 subst e9
 have ec:d.chs.getD nn zc=c:=chs_at hc
 obtain ⟨W,hW,hx,kW,zW⟩:=Xb.new w (.int .i64 6) (.int .i64 r) (.int .i64 a) (.int .i64 bb) (.int .i64 nn) 85
 have HWW:=hidW hW
 have HX:=hidW hx
 have KW:=hidW kW
 have QW:=h.put (W2:=w) (fun q _=>rfl) rfl h.bt (Below.refl _ _) h.t kW
 have HQW:=hidW QW
 have TV:=hidW (fun q=>takeV_none (c:=c) hok q)
 have TK3:=hidW (takeK_three (cl:=c.cl) hok)
 have zv2:∀ q,(Value.slice (some ⟨g2,0,none⟩) d.chs.length c2).ownBlock=some q→q < w.heap.size:=fun q hq=>(h.o.hit (.inr (.inl (.inl hq)))).2
 have ZV2:=hidW zv2
 have HEC:=hidW ec
 have x4:=hx.c4
 have xz:=hx.z
 have bn0:(0:Int)≤(nn:Int):=by omega
 clear hW hx kW QW ec zv2
 go_enter Tryz.func70,Tryz.ntmps70
 go_wp2_with fail
 rw [HWW.out]
 refine (takeFrom_any nn b S base g2 c2 who pc (pc+1) 0 rg v1 _ L1 L2 d c W HQW.out.r.t HQW.out.r.s HQW.out.r.o HQW.out.r.hb hc hcl hcn).mono ?_
 rintro e w1 ⟨rfl,k⟩
 obtain ⟨L2',q1⟩:=HQW.out.r.chan k
 have HQ1:=hidW q1
 have X1:=HX.out
 have eX:w1.heap[w.heap.size]? =W.heap[w.heap.size]? :=k.2.1 _ xz (fun e=>by have:=ZV2.out _ e;omega)
 have cX:∀ j,w1.cell? ⟨w.heap.size,j,none⟩=W.cell? ⟨w.heap.size,j,none⟩:=fun j=>World.cell?_of_block eX
 have y0:=(cX 0).trans X1.c0
 have y1:=(cX 1).trans X1.c1
 have y2:=(cX 2).trans X1.c2
 have y3:=(cX 3).trans X1.c3
 have y4:=(cX 4).trans X1.c4
 have z1:=k.2.2.size
 clear k q1 X1 eX cX x4
 rcases TK3.out with hk | hk | hk
 ·have hkk:takeK c.cap c.list c.cl=0:=hk
  have HKK:=hidW hkk
  rw [hkk]
  generalize htv:takeV c.cap c.list=tv at *
  have HTV:=hidW htv
  clear hk hkk htv TV
  go_wp2_with fail
  refine (came_any tv 1 6 r a bb nn b S who pc (pc+1) 0 rg w1 HQ1.out.r.t hr ha hb hrb).mono ?_
  rintro e w2 ⟨rfl,k2⟩
  have q2:=HQ1.out.r.put (W2:=(w1.setCell ⟨b,5+r.toNat,none⟩ (.int .i64 tv)).setCell ⟨b,5+bb.toNat,none⟩ (.int .i64 1)) (fun q hq=>(Below.heap_setCell _ _ _ q hq).trans (Below.heap_setCell _ _ _ q hq)) (by simp) HQ1.out.r.bt.set.set (((Below.refl _ _).setCell (p:=⟨b,_,none⟩) h.hbb _).setCell (p:=⟨b,_,none⟩) h.hbb _) ((HQ1.out.r.t.reg _ (by omega) _).reg _ (by omega) _) k2
  have Q2:=hidW ((HQW.out.then HQ1.out).then q2)
  clear k2 q2 y0 y1 y2 y3 y4
  go_wp2
  go_ret
  refine ⟨?_,s3,n3,c3,L2',?_⟩
  ·simp only [doM,Int.toNat_natCast,HEC.out]
   simp [chanH,HKK.out,HTV.out]
  ·simp only [doM,Int.toNat_natCast,HEC.out]
   simpa [chanR,chanC,bitN,HKK.out,HTV.out] using Q2.out
 ·have HKK:=hidW hk
  rw [hk]
  clear hk
  have Q2:=hidW (HQW.out.then HQ1.out)
  clear y0 y1 y2 y3 y4
  go_wp2
  go_ret
  refine ⟨?_,s3,n3,c3,L2',?_⟩
  ·simp only [doM,Int.toNat_natCast,HEC.out]
   simp [chanH,HKK.out]
  ·simp only [doM,Int.toNat_natCast,HEC.out]
   simpa [chanR,chanC,HKK.out] using Q2.out
 ·have HTV:=hidW (TV.out (by rw [hk];decide))
  have HKK:=hidW hk
  rw [hk]
  clear hk TV
  go_wp2_with fail
  refine (came_any 0 0 6 r a bb nn b S who pc (pc+1) 0 rg w1 HQ1.out.r.t hr ha hb hrb).mono ?_
  rintro e w2 ⟨rfl,k2⟩
  have q2:=HQ1.out.r.put (W2:=(w1.setCell ⟨b,5+r.toNat,none⟩ (.int .i64 0)).setCell ⟨b,5+bb.toNat,none⟩ (.int .i64 0)) (fun q hq=>(Below.heap_setCell _ _ _ q hq).trans (Below.heap_setCell _ _ _ q hq)) (by simp) HQ1.out.r.bt.set.set (((Below.refl _ _).setCell (p:=⟨b,_,none⟩) h.hbb _).setCell (p:=⟨b,_,none⟩) h.hbb _) ((HQ1.out.r.t.reg _ (by omega) _).reg _ (by omega) _) k2
  have Q2:=hidW ((HQW.out.then HQ1.out).then q2)
  clear k2 q2 y0 y1 y2 y3 y4
  go_wp2
  go_ret
  refine ⟨?_,s3,n3,c3,L2',?_⟩
  ·simp only [doM,Int.toNat_natCast,HEC.out]
   simp [chanH,HKK.out,HTV.out]
  ·simp only [doM,Int.toNat_natCast,HEC.out]
   simpa [chanR,chanC,bitN,HKK.out,HTV.out] using Q2.out
set_option maxHeartbeats 2000000 in
theorem do8 (o r a bb n : Int) (b S base n3 c3 : Nat) (s3 : Option Addr) (v1 v2 : Value) (L1 L2 : List (Rec × Value)) (d : SD) (who : Nat) (pc : Int) (rg : List Int) (w : World) (h : Rd w b S base v1 v2 (.slice s3 n3 c3) L1 L2 d who pc (pc + 1) 0 rg) (hr : 0 ≤ r ∧ r ≤ 3) (ha : 0 ≤ a ∧ a ≤ 3) (hb : 0 ≤ bb ∧ bb ≤ 3) (nn : Nat) (hn : n = nn) (c : CD) (hc : d.chs[nn]? = some c) (hcl : c.list.length ≤ 4) (hcn : d.chs.length ≤ 3) (hok : okC c.cap c.list.length = true) (hrb : r ≠ bb) :
  Calls Tryz.prog 72 #[.pointer (some ⟨b,0,none⟩),.agg #[.int .i64 8,.int .i64 r,.int .i64 a,.int .i64 bb,.int .i64 n]] w fun e w'=>DoP w b S base v1 v2 (.slice s3 n3 c3) L1 L2 d who pc (doM ⟨pc,rg,0⟩ ⟨8,r,a,bb,n⟩ d.chs d.tr who) e w':=by
 subst hn
 obtain ⟨g2,c2,y9,e9,-⟩:=h.o.chanAt hc
 subst e9
 have ec:d.chs.getD nn zc=c:=chs_at hc
 obtain ⟨W,hW,hx,kW,zW⟩:=Xb.new w (.int .i64 8) (.int .i64 r) (.int .i64 a) (.int .i64 bb) (.int .i64 nn) 85
 have HWW:=hidW hW
 have HX:=hidW hx
 have KW:=hidW kW
 have QW:=h.put (W2:=w) (fun q _=>rfl) rfl h.bt (Below.refl _ _) h.t kW
 have HQW:=hidW QW
 have TV:=hidW (fun q=>takeV_none (c:=c) hok q)
 have TK3:=hidW (takeK_three (cl:=c.cl) hok)
 have zv2:∀ q,(Value.slice (some ⟨g2,0,none⟩) d.chs.length c2).ownBlock=some q→q < w.heap.size:=fun q hq=>(h.o.hit (.inr (.inl (.inl hq)))).2
 have ZV2:=hidW zv2
 have HEC:=hidW ec
 have x4:=hx.c4
 have xz:=hx.z
 have bn0:(0:Int)≤(nn:Int):=by omega
 clear hW hx kW QW ec zv2
 go_enter Tryz.func72,Tryz.ntmps72
 go_wp2_with fail
 rw [HWW.out]
 refine (takeFrom_any nn b S base g2 c2 who pc (pc+1) 0 rg v1 _ L1 L2 d c W HQW.out.r.t HQW.out.r.s HQW.out.r.o HQW.out.r.hb hc hcl hcn).mono ?_
 rintro e w1 ⟨rfl,k⟩
 obtain ⟨L2',q1⟩:=HQW.out.r.chan k
 have HQ1:=hidW q1
 have X1:=HX.out
 have eX:w1.heap[w.heap.size]? =W.heap[w.heap.size]? :=k.2.1 _ xz (fun e=>by have:=ZV2.out _ e;omega)
 have cX:∀ j,w1.cell? ⟨w.heap.size,j,none⟩=W.cell? ⟨w.heap.size,j,none⟩:=fun j=>World.cell?_of_block eX
 have y0:=(cX 0).trans X1.c0
 have y1:=(cX 1).trans X1.c1
 have y2:=(cX 2).trans X1.c2
 have y3:=(cX 3).trans X1.c3
 have y4:=(cX 4).trans X1.c4
 have z1:=k.2.2.size
 clear k q1 X1 eX cX x4
 rcases TK3.out with hk | hk | hk
 ·have hkk:takeK c.cap c.list c.cl=0:=hk
  have HKK:=hidW hkk
  rw [hkk]
  generalize htv:takeV c.cap c.list=tv at *
  have HTV:=hidW htv
  clear hk hkk htv TV
  go_wp2_with fail
  refine (came_any tv 1 8 r a bb nn b S who pc (pc+1) 0 rg w1 HQ1.out.r.t hr ha hb hrb).mono ?_
  rintro e w2 ⟨rfl,k2⟩
  have q2:=HQ1.out.r.put (W2:=(w1.setCell ⟨b,5+r.toNat,none⟩ (.int .i64 tv)).setCell ⟨b,5+bb.toNat,none⟩ (.int .i64 1)) (fun q hq=>(Below.heap_setCell _ _ _ q hq).trans (Below.heap_setCell _ _ _ q hq)) (by simp) HQ1.out.r.bt.set.set (((Below.refl _ _).setCell (p:=⟨b,_,none⟩) h.hbb _).setCell (p:=⟨b,_,none⟩) h.hbb _) ((HQ1.out.r.t.reg _ (by omega) _).reg _ (by omega) _) k2
  have Q2:=hidW ((HQW.out.then HQ1.out).then q2)
  clear k2 q2 y0 y1 y2 y3 y4
  go_wp2
  go_ret
  refine ⟨?_,s3,n3,c3,L2',?_⟩
  ·simp only [doM,Int.toNat_natCast,HEC.out]
   simp [chanH,HKK.out,HTV.out]
  ·simp only [doM,Int.toNat_natCast,HEC.out]
   simpa [chanR,chanC,bitN,HKK.out,HTV.out] using Q2.out
 ·have HTV:=hidW (TV.out (by rw [hk];decide))
  have HKK:=hidW hk
  rw [hk]
  clear hk TV
  go_wp2_with fail
  refine (came_any 0 0 8 r a bb nn b S who pc (pc+1) 0 rg w1 HQ1.out.r.t hr ha hb hrb).mono ?_
  rintro e w2 ⟨rfl,k2⟩
  have q2:=HQ1.out.r.put (W2:=(w1.setCell ⟨b,5+r.toNat,none⟩ (.int .i64 0)).setCell ⟨b,5+bb.toNat,none⟩ (.int .i64 0)) (fun q hq=>(Below.heap_setCell _ _ _ q hq).trans (Below.heap_setCell _ _ _ q hq)) (by simp) HQ1.out.r.bt.set.set (((Below.refl _ _).setCell (p:=⟨b,_,none⟩) h.hbb _).setCell (p:=⟨b,_,none⟩) h.hbb _) ((HQ1.out.r.t.reg _ (by omega) _).reg _ (by omega) _) k2
  have Q2:=hidW ((HQW.out.then HQ1.out).then q2)
  clear k2 q2 y0 y1 y2 y3 y4
  go_wp2
  go_ret
  refine ⟨?_,s3,n3,c3,L2',?_⟩
  ·simp only [doM,Int.toNat_natCast,HEC.out]
   simp [chanH,HKK.out,HTV.out]
  ·simp only [doM,Int.toNat_natCast,HEC.out]
   simpa [chanR,chanC,bitN,HKK.out,HTV.out] using Q2.out
 ·have HTV:=hidW (TV.out (by rw [hk];decide))
  have HKK:=hidW hk
  rw [hk]
  clear hk TV
  go_wp2_with fail
  refine (came_any 0 2 8 r a bb nn b S who pc (pc+1) 0 rg w1 HQ1.out.r.t hr ha hb hrb).mono ?_
  rintro e w2 ⟨rfl,k2⟩
  have q2:=HQ1.out.r.put (W2:=(w1.setCell ⟨b,5+r.toNat,none⟩ (.int .i64 0)).setCell ⟨b,5+bb.toNat,none⟩ (.int .i64 2)) (fun q hq=>(Below.heap_setCell _ _ _ q hq).trans (Below.heap_setCell _ _ _ q hq)) (by simp) HQ1.out.r.bt.set.set (((Below.refl _ _).setCell (p:=⟨b,_,none⟩) h.hbb _).setCell (p:=⟨b,_,none⟩) h.hbb _) ((HQ1.out.r.t.reg _ (by omega) _).reg _ (by omega) _) k2
  have Q2:=hidW ((HQW.out.then HQ1.out).then q2)
  clear k2 q2 y0 y1 y2 y3 y4
  go_wp2
  go_ret
  refine ⟨?_,s3,n3,c3,L2',?_⟩
  ·simp only [doM,Int.toNat_natCast,HEC.out]
   simp [chanH,HKK.out,HTV.out]
  ·simp only [doM,Int.toNat_natCast,HEC.out]
   simpa [chanR,chanC,bitN,HKK.out,HTV.out] using Q2.out
set_option maxHeartbeats 2000000 in
theorem do7 (o r a bb n : Int) (b S base n3 c3 : Nat) (s3 : Option Addr) (v1 v2 : Value) (L1 L2 : List (Rec × Value)) (d : SD) (who : Nat) (pc : Int) (rg : List Int) (w : World) (h : Rd w b S base v1 v2 (.slice s3 n3 c3) L1 L2 d who pc (pc + 1) 0 rg) (hr : 0 ≤ r ∧ r ≤ 3) (ha : 0 ≤ a ∧ a ≤ 3) (hb : 0 ≤ bb ∧ bb ≤ 3) (nn : Nat) (hn : n = nn) (c : CD) (hc : d.chs[nn]? = some c) (hcl : c.list.length ≤ 4) (hcn : d.chs.length ≤ 3) (hok : okC c.cap c.list.length = true) :
  Calls Tryz.prog 71 #[.pointer (some ⟨b,0,none⟩),.agg #[.int .i64 7,.int .i64 r,.int .i64 a,.int .i64 bb,.int .i64 n]] w fun e w'=>DoP w b S base v1 v2 (.slice s3 n3 c3) L1 L2 d who pc (doM ⟨pc,rg,0⟩ ⟨7,r,a,bb,n⟩ d.chs d.tr who) e w':=by
 subst hn
 obtain ⟨r',hr'⟩:∃ r':Nat,r=r':=⟨r.toNat,by omega⟩
 subst hr'
 have br0:(0:Int)≤(r':Int):=by omega
 have br1:(r':Int) < 4:=by omega
 obtain ⟨g2,c2,y9,e9,-⟩:=h.o.chanAt hc
 subst e9
 have ec:d.chs.getD nn zc=c:=chs_at hc
 obtain ⟨W,hW,hx,kW,zW⟩:=Xb.new w (.int .i64 7) (.int .i64 r') (.int .i64 a) (.int .i64 bb) (.int .i64 nn) 85
 have HWW:=hidW hW
 have HX:=hidW hx
 have KW:=hidW kW
 have QW:=h.put (W2:=w) (fun q _=>rfl) rfl h.bt (Below.refl _ _) h.t kW
 have HQW:=hidW QW
 have TV:=hidW (fun q=>takeV_none (c:=c) hok q)
 have TK3:=hidW (takeK_three (cl:=c.cl) hok)
 have zv2:∀ q,(Value.slice (some ⟨g2,0,none⟩) d.chs.length c2).ownBlock=some q→q < w.heap.size:=fun q hq=>(h.o.hit (.inr (.inl (.inl hq)))).2
 have ZV2:=hidW zv2
 have HEC:=hidW ec
 have x4:=hx.c4
 have xz:=hx.z
 have bn0:(0:Int)≤(nn:Int):=by omega
 clear hW hx kW QW ec zv2
 go_enter Tryz.func71,Tryz.ntmps71
 have x0:=HX.out.c0
 have x1:=HX.out.c1
 have x2:=HX.out.c2
 have x3:=HX.out.c3
 go_wp2_with fail
 rw [HWW.out]
 refine (send_any 7 r' a bb nn b S base g2 c2 who pc (pc+1) 0 rg v1 _ L1 L2 d c W HQW.out.r.t ha HQW.out.r.s HQW.out.r.o HQW.out.r.hb hc hcl hcn).mono ?_
 rintro e w1 ⟨rfl,k⟩
 clear x0 x1 x2 x3
 obtain ⟨L2',q1⟩:=HQW.out.r.chan k
 have HQ1:=hidW q1
 have X1:=HX.out
 have eX:w1.heap[w.heap.size]? =W.heap[w.heap.size]? :=k.2.1 _ xz (fun e=>by have:=ZV2.out _ e;omega)
 have cX:∀ j,w1.cell? ⟨w.heap.size,j,none⟩=W.cell? ⟨w.heap.size,j,none⟩:=fun j=>World.cell?_of_block eX
 have y0:=(cX 0).trans X1.c0
 have y1:=(cX 1).trans X1.c1
 have y2:=(cX 2).trans X1.c2
 have y3:=(cX 3).trans X1.c3
 have y4:=(cX 4).trans X1.c4
 have z1:=k.2.2.size
 clear k q1 X1 eX cX x4
 clear TK3 TV
 rcases sendK_three c.cap c.list c.cl with hk | hk | hk
 ·have HKK:=hidW hk
  rw [hk]
  clear hk
  obtain ⟨c0,c1,c2',c3',c4,cr,cf,cz,-⟩:=HQ1.out.r.t
  have zx1:w.heap.size < w1.heap.size:=by omega
  have hne:=ext_ne w1
  have u1:=Ext.fit y1 zx1
  go_wp2_with fail
  refine regionSuf w1 6 (by decide) (by kernel_rfl) (by kernel_rfl) (by kernel_rfl) (by kernel_rfl) ?_
  dsimp only [List.take,List.drop]
  repeat (go_big_quiet_step (fail))
  refine wpQuiet_nil ?_
  clear hne u1
  rintro w3 ⟨X3,rfl⟩
  obtain ⟨V2,hX3⟩:∃ V2,X3.w=V2:=⟨_,rfl⟩
  have hb3:=X3.b
  rw [hX3] at hb3 ⊢
  have T2:=HQ1.out.r.t.below hb3 cz
  have lr2:V2.cell? ⟨b,5+r',none⟩=some (.int .i64 (rg.getD r' 0)):=T2.r r' (by omega)
  have ff2:=T2.f
  have zf2:=T2.z
  have q2:=HQ1.out.r.put (W2:=w1.setCell ⟨b,5+r',none⟩ (.int .i64 1)) (fun q hq=>Below.heap_setCell _ _ _ q hq) (by simp) HQ1.out.r.bt.set ((Below.refl _ _).setCell (p:=⟨b,_,none⟩) h.hbb _) (HQ1.out.r.t.reg _ (by omega) _) (belowP hb3)
  have Q2:=hidW ((HQW.out.then HQ1.out).then q2)
  clear hb3 hX3 X3 T2 q2 y0 y1 y2 y3 y4 c0 c1 c2' c3' c4 cr cf cz
  go_wp2
  go_ret
  refine ⟨?_,s3,n3,c3,L2',?_⟩
  ·simp only [doM,Int.toNat_natCast,HEC.out]
   simp [chanH,HKK.out]
  ·simp only [doM,Int.toNat_natCast,HEC.out]
   simpa [chanR,chanC,bitN,regN,HKK.out] using Q2.out
 ·have HKK:=hidW hk
  rw [hk]
  clear hk
  obtain ⟨c0,c1,c2',c3',c4,cr,cf,cz,-⟩:=HQ1.out.r.t
  have zx1:w.heap.size < w1.heap.size:=by omega
  have hne:=ext_ne w1
  have u1:=Ext.fit y1 zx1
  go_wp2_with fail
  refine regionSuf w1 6 (by decide) (by kernel_rfl) (by kernel_rfl) (by kernel_rfl) (by kernel_rfl) ?_
  dsimp only [List.take,List.drop]
  repeat (go_big_quiet_step (fail))
  refine wpQuiet_nil ?_
  clear hne u1
  rintro w3 ⟨X3,rfl⟩
  obtain ⟨V2,hX3⟩:∃ V2,X3.w=V2:=⟨_,rfl⟩
  have hb3:=X3.b
  rw [hX3] at hb3 ⊢
  have T2:=HQ1.out.r.t.below hb3 cz
  have lr2:V2.cell? ⟨b,5+r',none⟩=some (.int .i64 (rg.getD r' 0)):=T2.r r' (by omega)
  have ff2:=T2.f
  have zf2:=T2.z
  have q2:=HQ1.out.r.put (W2:=w1.setCell ⟨b,5+r',none⟩ (.int .i64 0)) (fun q hq=>Below.heap_setCell _ _ _ q hq) (by simp) HQ1.out.r.bt.set ((Below.refl _ _).setCell (p:=⟨b,_,none⟩) h.hbb _) (HQ1.out.r.t.reg _ (by omega) _) (belowP hb3)
  have Q2:=hidW ((HQW.out.then HQ1.out).then q2)
  clear hb3 hX3 X3 T2 q2 y0 y1 y2 y3 y4 c0 c1 c2' c3' c4 cr cf cz
  go_wp2
  go_ret
  refine ⟨?_,s3,n3,c3,L2',?_⟩
  ·simp only [doM,Int.toNat_natCast,HEC.out]
   simp [chanH,HKK.out]
  ·simp only [doM,Int.toNat_natCast,HEC.out]
   simpa [chanR,chanC,bitN,regN,HKK.out] using Q2.out
 ·have HKK:=hidW hk
  rw [hk]
  clear hk
  have Q2:=hidW (HQW.out.then HQ1.out)
  clear y0 y1 y2 y3 y4
  go_wp2
  go_ret
  refine ⟨?_,s3,n3,c3,L2',?_⟩
  ·simp only [doM,Int.toNat_natCast,HEC.out]
   simp [chanH,HKK.out]
  ·simp only [doM,Int.toNat_natCast,HEC.out]
   simpa [chanR,chanC,regN,HKK.out] using Q2.out
end
section
set_option linter.unusedSimpArgs false
set_option linter.unusedVariables false
set_option maxRecDepth 100000
open Go.RowKit
set_option maxHeartbeats 4000000 in
theorem do10 (o r a bb n : Int) (b S base n3 c3 : Nat) (s3 : Option Addr) (v1 v2 : Value) (L1 L2 : List (Rec × Value)) (d : SD) (who : Nat) (pc : Int) (rg : List Int) (w : World) (h : Rd w b S base v1 v2 (.slice s3 n3 c3) L1 L2 d who pc (pc + 1) 0 rg) (hr : 0 ≤ r ∧ r ≤ 3) (ha : 0 ≤ a ∧ a ≤ 3) (hb : 0 ≤ bb ∧ bb ≤ 3) (htr : d.tr.length ≤ 4000) :
  Calls Tryz.prog 74 #[.pointer (some ⟨b,0,none⟩),.agg #[.int .i64 10,.int .i64 r,.int .i64 a,.int .i64 bb,.int .i64 n]] w fun e w'=>DoP w b S base v1 v2 (.slice s3 n3 c3) L1 L2 d who pc (doM ⟨pc,rg,0⟩ ⟨10,r,a,bb,n⟩ d.chs d.tr who) e w':=by
 obtain ⟨s9,c9,e9⟩:=ownSl h.o.n
 injection e9 with h1 h2 h3
 subst h2
 clear h1 h3
 obtain ⟨a',ha'⟩:∃ a':Nat,a=a':=⟨a.toNat,by omega⟩
 subst ha'
 have ba0:(0:Int)≤(a':Int):=by omega
 have ba1:(a':Int) < 4:=by omega
 obtain ⟨W,hW,hx,kW,zW⟩:=Xb.new w (.int .i64 10) (.int .i64 r) (.int .i64 a') (.int .i64 bb) (.int .i64 n) 85
 have HWW:=hidW hW
 have HX:=hidW hx
 have KW:=hidW kW
 have QW:=h.put (W2:=w) (fun q _=>rfl) rfl h.bt (Below.refl _ _) h.t kW
 have HQW:=hidW QW
 have HH:=hidW h
 have HTN:=hidW h.o.n
 obtain ⟨va,hva⟩:∃ v,rg.getD a' 0=v:=⟨_,rfl⟩
 have HVA:=hidW hva
 have TB:Hid (∀ q,(Value.slice s3 d.tr.length c3).ownBlock=some q→q < w.heap.size):=fun q hq=>(World.ownsRow.lt HTN.out _ hq).2
 have TN:∀ q,w.heap.size≤q→(Value.slice s3 d.tr.length c3).ownBlock≠some q:=fun q hq e=>by have:=TB.out q e;omega
 have Tb:(Value.slice s3 d.tr.length c3).ownBlock≠some b:=own_bxU HTN.out (by decide) h.bt
 have TS:(Value.slice s3 d.tr.length c3).ownBlock≠some S:=own_bxS HTN.out (by decide) h.bs
 have hz:=h.t.z
 have hzS:=h.s.z
 have hbs:=h.hb
 have hS0:=h.hS
 have hbb0:=h.hbb
 have nbS:=h.ne
 obtain ⟨c0,c1,c2',c3',c4,cr,cf,cz,-⟩:=QW.r.t
 obtain ⟨q0,q1,q2,qf,qz⟩:=QW.r.s
 have la:W.cell? ⟨b,5+a',none⟩=some (.int .i64 va):=by rw [← hva];exact cr a' (by omega)
 have x2:=hx.c2
 have xz:=hx.z
 clear hW hx kW QW hva h
 have hne:=extN_ne W (Value.slice s3 d.tr.length c3).ownBlock
 have u1:=ExtN.fit x2 xz (TN _ (Nat.le_refl _))
 have u2:=ExtN.fit q2 qz TS
 have u3:=ExtN.fit c0 cz Tb
 have u4:=ExtN.fit c1 cz Tb
 have ua:=ExtN.fit la cz Tb
 go_enter Tryz.func74,Tryz.ntmps74
 go_upto_region 1 with fail
 rw [HWW.out]
 refine regionMix W (CN W (Value.slice s3 d.tr.length c3).ownBlock) 23 25 (by kernel_rfl) (by kernel_rfl) (fun _ _ d _ _ h=>by cases d<;>exact h) (CN.drew _ _) ?_
 unfold CN
 dsimp only [List.take,List.drop]
 repeat (go_big_quiet_step (fail))
 refine wpQuiet_nil ?_
 clear hne u1 u2 u3 u4 ua c0 c1 c2' c3' c4 cr cf cz q0 q1 q2 qf qz la x2
 have OT:=hidW (show OwnD (W.drew.alloc (.cells #[.int .i64 who,.int .i64 va] 67)) base (.slice s3 d.tr.length c3) d.tr from ownKeep' HTN.out (fun q hq=>by have:=TB.out q hq;exact (Below.heap_alloc W.drew _ _ (by show q < W.heap.size;omega)).trans (KW.out.block q this)))
 have QY:=hidW (HH.out.o.keep (w':=W.drew.alloc (.cells #[.int .i64 who,.int .i64 va] 67)) (fun b _ hb1=>(Below.heap_alloc W.drew _ _ (by show b < W.heap.size;omega)).trans (KW.out.block b hb1)))
 unfold wpListC
 go_wp2
 refine And.intro (fun _ hc=>CN.below hc ((Below.refl _ _).alloc (Nat.le_refl _) _)) ?_
 unfold wpListC
 refine app_note rfl _ _ rfl (W.drew.alloc (.cells #[.int .i64 who,.int .i64 va] 67)) base (.slice s3 d.tr.length c3) d.tr.length (flatN d.tr) rfl OT.out W.heap.size (.int .i64 who) (.int .i64 va) rfl rfl rfl (by simp [go_sem]) (by simp [go_sem]) (by omega) (by simp;show base≤W.heap.size+1;omega) ?_
 intro g6 c6 w6 ho6 hg6 hn6 hl6
 refine And.intro (fun _ hc=>CN.grown hc hg6) ?_
 refine listC_late _ _ _ _ (by decide) ?_
 have e6:∀ q,q < w.heap.size→(Value.slice s3 d.tr.length c3).ownBlock≠some q→w6.heap[q]? =w.heap[q]? :=fun q h1 h2=>(hg6.block q (by simp;show q < W.heap.size+1;omega) (fun e=>h2 e.symm)).trans ((Below.heap_alloc W.drew _ _ (by show q < W.heap.size;omega)).trans (KW.out.block q h1))
 have zs6:W.heap.size < w6.heap.size:=by have:=hg6.size;simp at this;have h9:W.drew.heap.size=W.heap.size:=rfl;omega
 have Q6:=hidW (QY.out.note (⟨who,va⟩:ND) (v4:=.slice (some ⟨g6,0,none⟩) (d.tr.length+1) c6) (by
  show w6.ownsRow base 67 2 _ (d.tr++[(⟨who,va⟩:ND)]).length (flatN (d.tr++[(⟨who,va⟩:ND)]))
  rw [flatN_app,List.length_append]
  exact ho6) (fun b h1 h2=>hg6.block b h1 (fun e=>h2 e.symm)))
 have K6:=hidW ((KW.out.mono hbs).trans (Below.grown (((Below.drew (Below.refl _ _)).alloc (by show base≤W.heap.size;omega) _)) hg6 (by simp;show base≤W.heap.size+1;omega) (fun q hq=>(World.ownsRow.lt HTN.out _ hq).1)))
 have HN6:Hid ((Value.slice s3 d.tr.length c3).ownBlock=some g6∨w.heap.size≤g6):=hn6.imp id (fun h9=>by simp at h9;have h8:W.drew.heap.size=W.heap.size:=rfl;omega)
 have E6:=hidW e6
 have T6:=hidW (HH.out.t.same (e6 b hz Tb) (by omega))
 have S6:=hidW (HH.out.s.keep (e6 S hzS TS) (by omega))
 have BS6:=hidW (HH.out.bs.same (e6 S hzS TS))
 have BT6:=hidW (HH.out.bt.same (e6 b hz Tb))
 clear ho6 hg6 hn6 hl6 OT QY HTN TB TN Tb TS e6
 obtain ⟨c0,c1,c2',c3',c4,cr,cf,cz,-⟩:=T6.out
 obtain ⟨q0,q1,q2,qf,qz⟩:=S6.out
 go_wp2
 go_ret
 refine ⟨by simp [doM],some ⟨g6,0,none⟩,d.tr.length+1,c6,L2,?_⟩
 have hq:DoQ w b S base v1 v2 (.slice s3 d.tr.length c3) L1 L2 d who pc (pc+1) 0 rg d.chs (d.tr++[(⟨who,va⟩:ND)]) (some ⟨g6,0,none⟩) (d.tr.length+1) c6 L2 (w6.setCell ⟨S,2,none⟩ (.slice (some ⟨g6,0,none⟩) (d.tr.length+1) c6)):=by
  refine ⟨⟨T6.out.same (Below.heap_setCell _ _ _ b nbS) (by simp),S6.out.set2 _,BS6.out.set,BT6.out.set,Q6.out.offB BS6.out,nbS,by simp;omega,hS0,hbb0⟩,fun q hq=>?_,fun q h1 h2 h3 h4=>(Below.heap_setCell _ _ _ q h4).trans (E6.out q h1 (fun e=>h3 (.inr (.inr e)))),Below.setCell K6.out hS0 _⟩
  rcases hq with hq | hq | hq
  ·exact .inl (.inl hq)
  ·exact .inl (.inr (.inl hq))
  ·have e:g6=q:=Option.some.inj hq
   subst e
   exact HN6.out.imp (fun a=>.inr (.inr a)) id
 have ev:regN rg (a':Int)=va:=by simp only [regN,Int.toNat_natCast,HVA.out]
 simp only [doM]
 simpa [ev] using hq
end
section
set_option linter.unusedSimpArgs false
set_option linter.unusedVariables false
set_option maxRecDepth 100000
open Go.RowKit
theorem app_cpy4 {ops : Array Oper} {rest : List Oper} {o : Oper} {a : Act} {Q : Exit → Act → World → Prop} (hgd : o.guard = none) (d s : Operand) (ho : o.op = .call { callee := .builtin .copy, args := #[d, s], argTypes := #[24, 24] })
  (w:World) (R:Nat) (cur:List Value) (hg:w.heap[R]? =some (.cells cur.toArray 3 (0,0))) (dc sc:Nat) (g off:Nat) (hd:a.eval d=.slice (some ⟨R,0,none⟩) 4 dc) (hs:a.eval s=.slice (some ⟨g,off,none⟩) 4 sc) (l:List Int) (hl:l.length=4)
  (hc:∀ i,i < l.length→w.cell? ⟨g,off+i,none⟩=some (.int .i64 (l.getD i 0))) (hfit:4≤cur.length)
  (h:∀ w',w'.heap[R]? =some (.cells (splice cur 0 (l.map (Value.int .i64))).toArray 3 (0,0))→(∀ q,q≠R→w'.heap[q]? =w.heap[q]?)→w'.heap.size=w.heap.size→w'.os=w.os→w'.tape=w.tape→w'.output=w.output→wpList Tryz.prog ops Q rest (a.put o.dst (.int .i64 4)) w'):wpList Tryz.prog ops Q (o::rest) a w:=by
 refine wpList_copy_own hgd d s 24 24 ho 3 Tryz.underlying24 rfl R 0 4 dc ⟨g,off,none⟩ 4 sc hd hs cur.toArray 3 hg (l.map (Value.int .i64)) (by simp [hl]) (news_row hc) (by simpa [hl] using hfit) (fun v hv=>by obtain ⟨z,-,rfl⟩:=List.mem_map.1 hv;rfl) ?_
 rw [List.length_map,hl]
 refine h _ ?_ (fun q hq=>setRow_other w R q _ hq) (by simp [World.setRow]) rfl rfl rfl
 have:=setRow_heap w R _ (cur.take 0++(l.map (Value.int .i64)++cur.drop (0+4))).toArray 3 _ hg
 simpa [splice,hl] using this
/- four registers written one by one, and at once -/
def put4 (w:World) (g:Nat) (a b c d:Int):World:=(((w.setCell ⟨g,0,none⟩ (.int .i64 a)).setCell ⟨g,1,none⟩ (.int .i64 b)).setCell ⟨g,2,none⟩ (.int .i64 c)).setCell ⟨g,3,none⟩ (.int .i64 d)
theorem put4_off {w:World} {g q:Nat} {a b c d:Int} (h:q≠g):(put4 w g a b c d).heap[q]? =w.heap[q]? :=by
 unfold put4
 rw [Below.heap_setCell _ _ _ q h,Below.heap_setCell _ _ _ q h,Below.heap_setCell _ _ _ q h,Below.heap_setCell _ _ _ q h]
theorem put4_at {w:World} {g:Nat} {x0 x1 x2 x3:Value} {rest:List Value} {T:TypeId} {f:Nat×Nat} {a b c d:Int} (h:w.heap[g]? =some (.cells (x0::x1::x2::x3::rest).toArray T f)):(put4 w g a b c d).heap[g]? =some (.cells (splice (x0::x1::x2::x3::rest) 0 [Value.int .i64 a,.int .i64 b,.int .i64 c,.int .i64 d]).toArray T f):=by
 unfold put4
 rw [heap_setS (heap_setS (heap_setS (heap_setS h)))]
 simp [splice]
theorem OwnS.put4 {w : World} {base g c : Nat} {v1 v2 v3 : Value} {L1 L2 : List (Rec × Value)} {d : SD} (h : OwnS w base v1 v2 v3 L1 L2 d) {k : Nat} {t : TD} {x : Rec × Value} (hx : L1[k]? = some x) (ht : d.ths[k]? = some t) (hx2 : x.2 = .slice (some ⟨g, 0, none⟩) 4 c) (h4 : t.regs.length = 4) (a b c' e : Int) :
  ∃ L1',OwnS (put4 w g a b c' e) base v1 v2 v3 L1' L2 ⟨d.ths.set k ⟨t.pc,[a,b,c',e],t.st⟩,d.chs,d.tr⟩∧(∀ q,HitQ v1 L1' q→HitQ v1 L1 q)∧∃ x',L1'[k]? =some x'∧x'.2=.slice (some ⟨g,0,none⟩) 4 c:=by
 have hkl:k < d.ths.length:=(List.getElem?_eq_some_iff.1 ht).1
 obtain ⟨pc,rg,st⟩:=t
 simp only at h4
 obtain ⟨r0,r1,r2,r3,rfl⟩:∃ a b c d,rg=[a,b,c,d]:=by
  match rg,h4 with
  | [a,b,c,d],_=>exact ⟨a,b,c,d,rfl⟩
 obtain ⟨M1,e1,o1,q1⟩:=h.setR hx ht hx2 rfl 0 a
 have t1:(d.ths.set k ⟨pc,[a,r1,r2,r3],st⟩)[k]? =some ⟨pc,[a,r1,r2,r3],st⟩:=List.getElem?_set_self hkl
 obtain ⟨M2,e2,o2,q2⟩:=OwnS.setR (d:=⟨d.ths.set k ⟨pc,[a,r1,r2,r3],st⟩,d.chs,d.tr⟩) o1 e1 t1 hx2 rfl 1 b
 simp only [List.set_set] at o2
 have t2:(d.ths.set k ⟨pc,[a,b,r2,r3],st⟩)[k]? =some ⟨pc,[a,b,r2,r3],st⟩:=List.getElem?_set_self hkl
 obtain ⟨M3,e3,o3,q3⟩:=OwnS.setR (d:=⟨d.ths.set k ⟨pc,[a,b,r2,r3],st⟩,d.chs,d.tr⟩) o2 e2 t2 hx2 rfl 2 c'
 simp only [List.set_set] at o3
 have t3:(d.ths.set k ⟨pc,[a,b,c',r3],st⟩)[k]? =some ⟨pc,[a,b,c',r3],st⟩:=List.getElem?_set_self hkl
 obtain ⟨M4,e4,o4,q4⟩:=OwnS.setR (d:=⟨d.ths.set k ⟨pc,[a,b,c',r3],st⟩,d.chs,d.tr⟩) o3 e3 t3 hx2 rfl 3 e
 simp only [List.set_set] at o4
 exact ⟨M4,o4,fun q hq=>q1 q (q2 q (q3 q (q4 q hq))),_,e4,hx2⟩
/- the registers are the thread's -/
structure Mid (w w2:World) (b S base g1 c1 n3 c3 k:Nat) (s3:Option Addr) (v2:Value) (L1 L2 L1':List (Rec×Value)) (d:SD) (who pc nx st:Int) (rg:List Int) (t:TD):Prop where
 o:OwnS w2 base (.slice (some ⟨g1,0,none⟩) d.ths.length c1) v2 (.slice s3 n3 c3) L1' L2 ⟨d.ths.set k ⟨t.pc,rg,t.st⟩,d.chs,d.tr⟩
 t:Tn w2 b S who pc nx st rg
 s:BoF S w2 (.slice (some ⟨g1,0,none⟩) d.ths.length c1) v2 (.slice s3 n3 c3)
 bs:BxS w2 S
 h:∀ q,HitQ (.slice (some ⟨g1,0,none⟩) d.ths.length c1) L1' q→HitQ (.slice (some ⟨g1,0,none⟩) d.ths.length c1) L1 q
 f:∀ q,q < w.heap.size→¬ HitS (.slice (some ⟨g1,0,none⟩) d.ths.length c1) v2 (.slice s3 n3 c3) L1 L2 q→w2.heap[q]? =w.heap[q]?
 b:Below base w w2
structure SetQ (w w2:World) (S base g1 c1 n3 c3 k:Nat) (s3:Option Addr) (v2:Value) (L1 L2 L1':List (Rec×Value)) (d:SD) (T:TD):Prop where
 o:OwnS w2 base (.slice (some ⟨g1,0,none⟩) d.ths.length c1) v2 (.slice s3 n3 c3) L1' L2 ⟨d.ths.set k T,d.chs,d.tr⟩
 s:BoF S w2 (.slice (some ⟨g1,0,none⟩) d.ths.length c1) v2 (.slice s3 n3 c3)
 bs:BxS w2 S
 h:∀ q,HitQ (.slice (some ⟨g1,0,none⟩) d.ths.length c1) L1' q→HitQ (.slice (some ⟨g1,0,none⟩) d.ths.length c1) L1 q
 f:∀ q,q < w.heap.size→¬ HitS (.slice (some ⟨g1,0,none⟩) d.ths.length c1) v2 (.slice s3 n3 c3) L1 L2 q→w2.heap[q]? =w.heap[q]?
 b:Below base w w2
theorem ths_same {t:TD} {ths:List TD} {k:Nat} (h:ths[k]? =some t):ths.set k t=ths:=by
 apply List.ext_getElem?
 intro j
 by_cases e:j=k
 ·subst e
  rw [List.getElem?_set_self (List.getElem?_eq_some_iff.1 h).1,h]
 ·rw [List.getElem?_set_ne (Ne.symm e)]
theorem mid_eq {w w2:World} {b S base g1 c1 n3 c3 k:Nat} {s3:Option Addr} {v2:Value} {L1 L2:List (Rec×Value)} {d:SD} {who pc nx st:Int} {rg:List Int} {t:TD} (h:Rd w b S base (.slice (some ⟨g1,0,none⟩) d.ths.length c1) v2 (.slice s3 n3 c3) L1 L2 d who pc nx st rg) (ht:d.ths[k]? =some t) (e:rg=t.regs) (kk:Below w.heap.size w w2):Mid w w2 b S base g1 c1 n3 c3 k s3 v2 L1 L2 L1 d who pc nx st rg t:=by
 have q:=h.put (W2:=w) (fun q _=>rfl) rfl h.bt (Below.refl _ _) h.t kk
 refine ⟨?_,q.r.t,q.r.s,q.r.bs,fun _ hq=>hq,fun q h1 _=>kk.block q h1,kk.mono h.hb⟩
 have e2:d.ths.set k ⟨t.pc,rg,t.st⟩=d.ths:=by rw [e];exact ths_same ht
 rw [e2]
 exact q.r.o
theorem mid_ne {w w1 w2:World} {b S base g1 c1 n3 c3 k gr cr:Nat} {s3:Option Addr} {v2:Value} {L1 L2:List (Rec×Value)} {d:SD} {who pc nx st:Int} {t:TD} {y:Rec×Value} {a0 a1 a2 a3:Int} {x0 x1 x2 x3:Value} {rest:List Value} {T:TypeId} (h:Rd w b S base (.slice (some ⟨g1,0,none⟩) d.ths.length c1) v2 (.slice s3 n3 c3) L1 L2 d who pc nx st [a0,a1,a2,a3]) (ht:d.ths[k]? =some t) (h4:t.regs.length=4) (hy:L1[k]? =some y) (hy2:y.2=.slice (some ⟨gr,0,none⟩) 4 cr) (kk:Below w.heap.size w w1) (hgr:base≤gr) (hg:w1.heap[gr]? =some (.cells (x0::x1::x2::x3::rest).toArray T (0,0))) (hw:w2.heap[gr]? =some (.cells (splice (x0::x1::x2::x3::rest) 0 ([a0,a1,a2,a3].map (Value.int .i64))).toArray T (0,0))) (hf:∀ q,q≠gr→w2.heap[q]? =w1.heap[q]?) (hs:w2.heap.size=w1.heap.size) (hos:w2.os=w1.os) (htp:w2.tape=w1.tape) (hou:w2.output=w1.output):∃ L1',Mid w w2 b S base g1 c1 n3 c3 k s3 v2 L1 L2 L1' d who pc nx st [a0,a1,a2,a3] t:=by
 have q:=h.put (W2:=w) (fun q _=>rfl) rfl h.bt (Below.refl _ _) h.t kk
 obtain ⟨L1',o,hh,-⟩:=q.r.o.put4 hy ht hy2 h4 a0 a1 a2 a3
 have hit:HitS (.slice (some ⟨g1,0,none⟩) d.ths.length c1) v2 (.slice s3 n3 c3) L1 L2 gr:=.inl (.inr ⟨k,y,hy,by rw [hy2];rfl⟩)
 have nb:b≠gr:=fun e=>h.o.hitU h.bt (by rw [e];exact hit)
 have nS:S≠gr:=fun e=>h.o.hitB h.bs (by rw [e];exact hit)
 have e2:∀ q,w2.heap[q]? =(put4 w1 gr a0 a1 a2 a3).heap[q]? :=fun q=>by
  by_cases e:q=gr
  ·subst e
   rw [hw,put4_at hg]
   rfl
  ·rw [hf q e,put4_off e]
 refine ⟨L1',o.keepB (fun q _=>e2 q),q.r.t.same (hf b nb) (by omega),q.r.s.keep (hf S nS) (by omega),q.r.bs.same (hf S nS),hh,fun q h1 h2=>(hf q (fun e=>h2 (by rw [e];exact hit))).trans (kk.block q h1),?_⟩
 exact (kk.mono h.hb).trans ⟨hos,htp,hou,by omega,fun q hq=>hf q (by omega)⟩
theorem mid_fault {w w2:World} {b S base g1 c1 n3 c3 k:Nat} {s3:Option Addr} {v2:Value} {L1 L2 L1':List (Rec×Value)} {d:SD} {who pc nx st:Int} {rg:List Int} {t:TD} (h:Mid w w2 b S base g1 c1 n3 c3 k s3 v2 L1 L2 L1' d who pc nx st rg t) (hk:k < d.ths.length) (hg:base≤g1):∃ M,SetQ w (w2.setCell ⟨g1,k * 3+2,none⟩ (.int .i64 2)) S base g1 c1 n3 c3 k s3 v2 L1 L2 M d ⟨t.pc,rg,2⟩:=by
 have q9:OwnS w2 base (.slice (some ⟨g1,0,none⟩) (⟨d.ths.set k ⟨t.pc,rg,t.st⟩,d.chs,d.tr⟩:SD).ths.length c1) v2 (.slice s3 n3 c3) L1' L2 ⟨d.ths.set k ⟨t.pc,rg,t.st⟩,d.chs,d.tr⟩:=by simp only [List.length_set];exact h.o
 have T9:(d.ths.set k ⟨t.pc,rg,t.st⟩)[k]? =some ⟨t.pc,rg,t.st⟩:=List.getElem?_set_self hk
 obtain ⟨M,o,hh⟩:=(q9.setT T9 2).2
 simp only [List.length_set,List.set_set] at o hh
 have nS:S≠g1:=fun e=>h.o.hitB h.bs (by rw [e];exact .inl (.inl rfl))
 exact ⟨M,o,h.s.keep (Below.heap_setCell _ _ _ S nS) (by simp),h.bs.set,fun q hq=>h.h q (hh q hq),fun q h1 h2=>(Below.heap_setCell _ _ _ q (fun e=>h2 (.inl (.inl (by rw [e];rfl))))).trans (h.f q h1 h2),Below.setCell h.b hg _⟩
theorem mid_done {w w2:World} {b S base g1 c1 n3 c3 k:Nat} {s3:Option Addr} {v2:Value} {L1 L2 L1':List (Rec×Value)} {d:SD} {who pc nx st:Int} {rg:List Int} {t:TD} (h:Mid w w2 b S base g1 c1 n3 c3 k s3 v2 L1 L2 L1' d who pc nx st rg t) (hk:k < d.ths.length) (hg:base≤g1):∃ M,SetQ w ((w2.setCell ⟨g1,k * 3,none⟩ (.int .i64 nx)).setCell ⟨g1,k * 3+2,none⟩ (.int .i64 st)) S base g1 c1 n3 c3 k s3 v2 L1 L2 M d ⟨nx,rg,st⟩:=by
 have q9:OwnS w2 base (.slice (some ⟨g1,0,none⟩) (⟨d.ths.set k ⟨t.pc,rg,t.st⟩,d.chs,d.tr⟩:SD).ths.length c1) v2 (.slice s3 n3 c3) L1' L2 ⟨d.ths.set k ⟨t.pc,rg,t.st⟩,d.chs,d.tr⟩:=by simp only [List.length_set];exact h.o
 have T9:(d.ths.set k ⟨t.pc,rg,t.st⟩)[k]? =some ⟨t.pc,rg,t.st⟩:=List.getElem?_set_self hk
 obtain ⟨M,o,hh⟩:=(q9.setT T9 nx).1
 simp only [List.length_set,List.set_set] at o hh
 have q8:OwnS (w2.setCell ⟨g1,k * 3,none⟩ (.int .i64 nx)) base (.slice (some ⟨g1,0,none⟩) (⟨d.ths.set k ⟨nx,rg,t.st⟩,d.chs,d.tr⟩:SD).ths.length c1) v2 (.slice s3 n3 c3) M L2 ⟨d.ths.set k ⟨nx,rg,t.st⟩,d.chs,d.tr⟩:=by simp only [List.length_set];exact o
 have T8:(d.ths.set k ⟨nx,rg,t.st⟩)[k]? =some ⟨nx,rg,t.st⟩:=List.getElem?_set_self hk
 obtain ⟨M2,o2,hh2⟩:=(q8.setT T8 st).2
 simp only [List.length_set,List.set_set] at o2 hh2
 have nS:S≠g1:=fun e=>h.o.hitB h.bs (by rw [e];exact .inl (.inl rfl))
 exact ⟨M2,o2,(h.s.keep (Below.heap_setCell _ _ _ S nS) (by simp)).keep (Below.heap_setCell _ _ _ S nS) (by simp),h.bs.set.set,fun q hq=>h.h q (hh q (hh2 q hq)),fun q h1 h2=>(Below.heap_setCell _ _ _ q (fun e=>h2 (.inl (.inl (by rw [e];rfl))))).trans ((Below.heap_setCell _ _ _ q (fun e=>h2 (.inl (.inl (by rw [e];rfl))))).trans (h.f q h1 h2)),Below.setCell (Below.setCell h.b hg _) hg _⟩
theorem own_cur {w:World} {base g c:Nat} {l:List Int} (h:OwnN w base (.slice (some ⟨g,0,none⟩) 4 c) l) (h4:l.length=4):∃ x0 x1 x2 x3 rest,w.heap[g]? =some (.cells (x0::x1::x2::x3::rest).toArray 3 (0,0)):=by
 rcases h.2 with ⟨q,-⟩ | ⟨g',cap,cur,q,-,hc,h1,h2,h3,h5⟩
 ·cases q
 ·injection q with q1 q2 q3
  injection q1 with q1
  injection q1 with q1
  subst q1
  have hl:4≤cur.toList.length:=by simp at h1 h2 h3 ⊢;omega
  match hcu:cur.toList,hl with
  | x0::x1::x2::x3::rest,_=>
   refine ⟨x0,x1,x2,x3,rest,?_⟩
   rw [hc,← hcu]
end
end Go.Proofs.YtknffngbdakblaaGreat
