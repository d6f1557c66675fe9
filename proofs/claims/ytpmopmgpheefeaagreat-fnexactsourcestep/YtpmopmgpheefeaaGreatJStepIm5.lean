/- A turn's doings on channels, whole. Conditions: the channel is ChanOk, of at most four numbers. -/
import Derived.Test.YtpmopmgpheefeaaGreatJG10
namespace Go.Proofs.YtpmopmgpheefeaaGreat
set_option linter.unusedSimpArgs false
set_option linter.unusedVariables false
set_option maxRecDepth 100000
open Go.RowKit
theorem takeV_none {c : CD} (hok : okC c.cap c.list.length = true) (h : takeK c.cap c.list c.cl ≠ 0) : takeV c.cap c.list = 0 := by
 unfold takeK at h
 rw [if_pos hok] at h
 by_cases e : c.list = []
 ·unfold takeV
  rw [if_pos hok, e]
  rfl
 ·rw [if_neg e] at h
  exact absurd rfl h
set_option maxHeartbeats 2000000 in
theorem do5 (o r a bb n : Int) (b S base n3 c3 : Nat) (s3 : Option Addr) (v1 v2 : Value) (L1 L2 : List (Rec × Value)) (d : SD) (who : Nat) (pc : Int) (rg : List Int) (w : World) (h : Rd w b S base v1 v2 (.slice s3 n3 c3) L1 L2 d who pc (pc + 1) 0 rg) (hr : 0 ≤ r ∧ r ≤ 3) (ha : 0 ≤ a ∧ a ≤ 3) (hb : 0 ≤ bb ∧ bb ≤ 3) (nn : Nat) (hn : n = nn) (c : CD) (hc : d.chs[nn]? = some c) (hcl : c.list.length ≤ 4) (hcn : d.chs.length ≤ 3) (hok : okC c.cap c.list.length = true) :
  Calls Tryz.prog 86 #[.pointer (some ⟨b, 0, none⟩), .agg #[.int .i64 5, .int .i64 r, .int .i64 a, .int .i64 bb, .int .i64 n]] w fun e w' => DoP w b S base v1 v2 (.slice s3 n3 c3) L1 L2 d who pc (doM ⟨pc, rg, 0⟩ ⟨5, r, a, bb, n⟩ d.chs d.tr who) e w' := by
 subst hn
 obtain ⟨g2, c2, y9, e9, -⟩ := h.o.chanAt hc
 subst e9
 have ec : d.chs.getD nn zc = c := chs_at hc
 refine (send_any 5 r a bb nn b S base g2 c2 who pc (pc + 1) 0 rg v1 _ L1 L2 d c w h.t ha h.s h.o h.hb hc hcl hcn).mono ?_
 rintro e w' ⟨rfl, k⟩
 obtain ⟨L2', q⟩ := h.chan k
 refine ⟨?_, s3, n3, c3, L2', ?_⟩
 ·simp only [doM, Int.toNat_natCast, ec]
  simp [chanH]
 ·simp only [doM, Int.toNat_natCast, ec]
  simpa [chanR, chanC] using q
set_option maxHeartbeats 2000000 in
theorem do9 (o r a bb n : Int) (b S base n3 c3 : Nat) (s3 : Option Addr) (v1 v2 : Value) (L1 L2 : List (Rec × Value)) (d : SD) (who : Nat) (pc : Int) (rg : List Int) (w : World) (h : Rd w b S base v1 v2 (.slice s3 n3 c3) L1 L2 d who pc (pc + 1) 0 rg) (hr : 0 ≤ r ∧ r ≤ 3) (ha : 0 ≤ a ∧ a ≤ 3) (hb : 0 ≤ bb ∧ bb ≤ 3) (nn : Nat) (hn : n = nn) (c : CD) (hc : d.chs[nn]? = some c) (hcl : c.list.length ≤ 4) (hcn : d.chs.length ≤ 3) (hok : okC c.cap c.list.length = true) :
  Calls Tryz.prog 90 #[.pointer (some ⟨b, 0, none⟩), .agg #[.int .i64 9, .int .i64 r, .int .i64 a, .int .i64 bb, .int .i64 n]] w fun e w' => DoP w b S base v1 v2 (.slice s3 n3 c3) L1 L2 d who pc (doM ⟨pc, rg, 0⟩ ⟨9, r, a, bb, n⟩ d.chs d.tr who) e w' := by
 subst hn
 obtain ⟨g2, c2, y9, e9, -⟩ := h.o.chanAt hc
 subst e9
 have ec : d.chs.getD nn zc = c := chs_at hc
 refine (shut_any 9 r a bb nn b S base g2 c2 who pc (pc + 1) 0 rg v1 _ L1 L2 d c w h.t ha h.s h.o h.hb hc hcl hcn).mono ?_
 rintro e w' ⟨rfl, k⟩
 obtain ⟨L2', q⟩ := h.chan k
 refine ⟨?_, s3, n3, c3, L2', ?_⟩
 ·simp only [doM, Int.toNat_natCast, ec]
  simp [chanH]
 ·simp only [doM, Int.toNat_natCast, ec]
  simpa [chanR, chanC] using q
set_option maxHeartbeats 2000000 in
theorem do6 (o r a bb n : Int) (b S base n3 c3 : Nat) (s3 : Option Addr) (v1 v2 : Value) (L1 L2 : List (Rec × Value)) (d : SD) (who : Nat) (pc : Int) (rg : List Int) (w : World) (h : Rd w b S base v1 v2 (.slice s3 n3 c3) L1 L2 d who pc (pc + 1) 0 rg) (hr : 0 ≤ r ∧ r ≤ 3) (ha : 0 ≤ a ∧ a ≤ 3) (hb : 0 ≤ bb ∧ bb ≤ 3) (nn : Nat) (hn : n = nn) (c : CD) (hc : d.chs[nn]? = some c) (hcl : c.list.length ≤ 4) (hcn : d.chs.length ≤ 3) (hok : okC c.cap c.list.length = true) (hrb : r ≠ bb) :
  Calls Tryz.prog 87 #[.pointer (some ⟨b, 0, none⟩), .agg #[.int .i64 6, .int .i64 r, .int .i64 a, .int .i64 bb, .int .i64 n]] w fun e w' => DoP w b S base v1 v2 (.slice s3 n3 c3) L1 L2 d who pc (doM ⟨pc, rg, 0⟩ ⟨6, r, a, bb, n⟩ d.chs d.tr who) e w' := by
 subst hn
 obtain ⟨g2, c2, y9, e9, -⟩ := h.o.chanAt hc
 subst e9
 have ec : d.chs.getD nn zc = c := chs_at hc
 obtain ⟨W, hW, hx, kW, zW⟩ := Xb.new w (.int .i64 6) (.int .i64 r) (.int .i64 a) (.int .i64 bb) (.int .i64 nn) 91
 have HWW := hidW hW
 have HX := hidW hx
 have KW := hidW kW
 have QW := h.put (W2 := w) (fun q _ => rfl) rfl h.bt (Below.refl _ _) h.t kW
 have HQW := hidW QW
 have TV := hidW (fun q => takeV_none (c := c) hok q)
 have TK3 := hidW (takeK_three (cl := c.cl) hok)
 have zv2 : ∀ q, (Value.slice (some ⟨g2, 0, none⟩) d.chs.length c2).ownBlock = some q → q < w.heap.size := fun q hq => (h.o.hit (.inr (.inl (.inl hq)))).2
 have ZV2 := hidW zv2
 have HEC := hidW ec
 have x4 := hx.c4
 have xz := hx.z
 have bn0 : (0 : Int) ≤ (nn : Int) := by omega
 clear hW hx kW QW ec zv2
 go_enter Tryz.func87, Tryz.ntmps87
 go_wp2_with fail
 rw [HWW.out]
 refine (takeFrom_any nn b S base g2 c2 who pc (pc + 1) 0 rg v1 _ L1 L2 d c W HQW.out.r.t HQW.out.r.s HQW.out.r.o HQW.out.r.hb hc hcl hcn).mono ?_
 rintro e w1 ⟨rfl, k⟩
 obtain ⟨L2', q1⟩ := HQW.out.r.chan k
 have HQ1 := hidW q1
 have X1 := HX.out
 have eX : w1.heap[w.heap.size]? = W.heap[w.heap.size]? := k.2.1 _ xz (fun e => by have := ZV2.out _ e; omega)
 have cX : ∀ j, w1.cell? ⟨w.heap.size, j, none⟩ = W.cell? ⟨w.heap.size, j, none⟩ := fun j => World.cell?_of_block eX
 have y0 := (cX 0).trans X1.c0
 have y1 := (cX 1).trans X1.c1
 have y2 := (cX 2).trans X1.c2
 have y3 := (cX 3).trans X1.c3
 have y4 := (cX 4).trans X1.c4
 have z1 := k.2.2.size
 clear k q1 X1 eX cX x4
 rcases TK3.out with hk | hk | hk
 ·have hkk : takeK c.cap c.list c.cl = 0 := hk
  have HKK := hidW hkk
  rw [hkk]
  generalize htv : takeV c.cap c.list = tv at *
  have HTV := hidW htv
  clear hk hkk htv TV
  go_wp2_with fail
  refine (came_any tv 1 6 r a bb nn b S who pc (pc + 1) 0 rg w1 HQ1.out.r.t hr ha hb hrb).mono ?_
  rintro e w2 ⟨rfl, k2⟩
  have q2 := HQ1.out.r.put (W2 := (w1.setCell ⟨b, 5 + r.toNat, none⟩ (.int .i64 tv)).setCell ⟨b, 5 + bb.toNat, none⟩ (.int .i64 1)) (fun q hq => (Below.heap_setCell _ _ _ q hq).trans (Below.heap_setCell _ _ _ q hq)) (by simp) HQ1.out.r.bt.set.set (((Below.refl _ _).setCell (p := ⟨b, _, none⟩) h.hbb _).setCell (p := ⟨b, _, none⟩) h.hbb _) ((HQ1.out.r.t.reg _ (by omega) _).reg _ (by omega) _) k2
  have Q2 := hidW ((HQW.out.then HQ1.out).then q2)
  clear k2 q2 y0 y1 y2 y3 y4
  go_wp2
  go_ret
  refine ⟨?_, s3, n3, c3, L2', ?_⟩
  ·simp only [doM, Int.toNat_natCast, HEC.out]
   simp [chanH, HKK.out, HTV.out]
  ·simp only [doM, Int.toNat_natCast, HEC.out]
   simpa [chanR, chanC, bitN, HKK.out, HTV.out] using Q2.out
 ·have HKK := hidW hk
  rw [hk]
  clear hk
  have Q2 := hidW (HQW.out.then HQ1.out)
  clear y0 y1 y2 y3 y4
  go_wp2
  go_ret
  refine ⟨?_, s3, n3, c3, L2', ?_⟩
  ·simp only [doM, Int.toNat_natCast, HEC.out]
   simp [chanH, HKK.out]
  ·simp only [doM, Int.toNat_natCast, HEC.out]
   simpa [chanR, chanC, HKK.out] using Q2.out
 ·have HTV := hidW (TV.out (by rw [hk]; decide))
  have HKK := hidW hk
  rw [hk]
  clear hk TV
  go_wp2_with fail
  refine (came_any 0 0 6 r a bb nn b S who pc (pc + 1) 0 rg w1 HQ1.out.r.t hr ha hb hrb).mono ?_
  rintro e w2 ⟨rfl, k2⟩
  have q2 := HQ1.out.r.put (W2 := (w1.setCell ⟨b, 5 + r.toNat, none⟩ (.int .i64 0)).setCell ⟨b, 5 + bb.toNat, none⟩ (.int .i64 0)) (fun q hq => (Below.heap_setCell _ _ _ q hq).trans (Below.heap_setCell _ _ _ q hq)) (by simp) HQ1.out.r.bt.set.set (((Below.refl _ _).setCell (p := ⟨b, _, none⟩) h.hbb _).setCell (p := ⟨b, _, none⟩) h.hbb _) ((HQ1.out.r.t.reg _ (by omega) _).reg _ (by omega) _) k2
  have Q2 := hidW ((HQW.out.then HQ1.out).then q2)
  clear k2 q2 y0 y1 y2 y3 y4
  go_wp2
  go_ret
  refine ⟨?_, s3, n3, c3, L2', ?_⟩
  ·simp only [doM, Int.toNat_natCast, HEC.out]
   simp [chanH, HKK.out, HTV.out]
  ·simp only [doM, Int.toNat_natCast, HEC.out]
   simpa [chanR, chanC, bitN, HKK.out, HTV.out] using Q2.out
set_option maxHeartbeats 2000000 in
theorem do8 (o r a bb n : Int) (b S base n3 c3 : Nat) (s3 : Option Addr) (v1 v2 : Value) (L1 L2 : List (Rec × Value)) (d : SD) (who : Nat) (pc : Int) (rg : List Int) (w : World) (h : Rd w b S base v1 v2 (.slice s3 n3 c3) L1 L2 d who pc (pc + 1) 0 rg) (hr : 0 ≤ r ∧ r ≤ 3) (ha : 0 ≤ a ∧ a ≤ 3) (hb : 0 ≤ bb ∧ bb ≤ 3) (nn : Nat) (hn : n = nn) (c : CD) (hc : d.chs[nn]? = some c) (hcl : c.list.length ≤ 4) (hcn : d.chs.length ≤ 3) (hok : okC c.cap c.list.length = true) (hrb : r ≠ bb) :
  Calls Tryz.prog 89 #[.pointer (some ⟨b, 0, none⟩), .agg #[.int .i64 8, .int .i64 r, .int .i64 a, .int .i64 bb, .int .i64 n]] w fun e w' => DoP w b S base v1 v2 (.slice s3 n3 c3) L1 L2 d who pc (doM ⟨pc, rg, 0⟩ ⟨8, r, a, bb, n⟩ d.chs d.tr who) e w' := by
 subst hn
 obtain ⟨g2, c2, y9, e9, -⟩ := h.o.chanAt hc
 subst e9
 have ec : d.chs.getD nn zc = c := chs_at hc
 obtain ⟨W, hW, hx, kW, zW⟩ := Xb.new w (.int .i64 8) (.int .i64 r) (.int .i64 a) (.int .i64 bb) (.int .i64 nn) 91
 have HWW := hidW hW
 have HX := hidW hx
 have KW := hidW kW
 have QW := h.put (W2 := w) (fun q _ => rfl) rfl h.bt (Below.refl _ _) h.t kW
 have HQW := hidW QW
 have TV := hidW (fun q => takeV_none (c := c) hok q)
 have TK3 := hidW (takeK_three (cl := c.cl) hok)
 have zv2 : ∀ q, (Value.slice (some ⟨g2, 0, none⟩) d.chs.length c2).ownBlock = some q → q < w.heap.size := fun q hq => (h.o.hit (.inr (.inl (.inl hq)))).2
 have ZV2 := hidW zv2
 have HEC := hidW ec
 have x4 := hx.c4
 have xz := hx.z
 have bn0 : (0 : Int) ≤ (nn : Int) := by omega
 clear hW hx kW QW ec zv2
 go_enter Tryz.func89, Tryz.ntmps89
 go_wp2_with fail
 rw [HWW.out]
 refine (takeFrom_any nn b S base g2 c2 who pc (pc + 1) 0 rg v1 _ L1 L2 d c W HQW.out.r.t HQW.out.r.s HQW.out.r.o HQW.out.r.hb hc hcl hcn).mono ?_
 rintro e w1 ⟨rfl, k⟩
 obtain ⟨L2', q1⟩ := HQW.out.r.chan k
 have HQ1 := hidW q1
 have X1 := HX.out
 have eX : w1.heap[w.heap.size]? = W.heap[w.heap.size]? := k.2.1 _ xz (fun e => by have := ZV2.out _ e; omega)
 have cX : ∀ j, w1.cell? ⟨w.heap.size, j, none⟩ = W.cell? ⟨w.heap.size, j, none⟩ := fun j => World.cell?_of_block eX
 have y0 := (cX 0).trans X1.c0
 have y1 := (cX 1).trans X1.c1
 have y2 := (cX 2).trans X1.c2
 have y3 := (cX 3).trans X1.c3
 have y4 := (cX 4).trans X1.c4
 have z1 := k.2.2.size
 clear k q1 X1 eX cX x4
 rcases TK3.out with hk | hk | hk
 ·have hkk : takeK c.cap c.list c.cl = 0 := hk
  have HKK := hidW hkk
  rw [hkk]
  generalize htv : takeV c.cap c.list = tv at *
  have HTV := hidW htv
  clear hk hkk htv TV
  go_wp2_with fail
  refine (came_any tv 1 8 r a bb nn b S who pc (pc + 1) 0 rg w1 HQ1.out.r.t hr ha hb hrb).mono ?_
  rintro e w2 ⟨rfl, k2⟩
  have q2 := HQ1.out.r.put (W2 := (w1.setCell ⟨b, 5 + r.toNat, none⟩ (.int .i64 tv)).setCell ⟨b, 5 + bb.toNat, none⟩ (.int .i64 1)) (fun q hq => (Below.heap_setCell _ _ _ q hq).trans (Below.heap_setCell _ _ _ q hq)) (by simp) HQ1.out.r.bt.set.set (((Below.refl _ _).setCell (p := ⟨b, _, none⟩) h.hbb _).setCell (p := ⟨b, _, none⟩) h.hbb _) ((HQ1.out.r.t.reg _ (by omega) _).reg _ (by omega) _) k2
  have Q2 := hidW ((HQW.out.then HQ1.out).then q2)
  clear k2 q2 y0 y1 y2 y3 y4
  go_wp2
  go_ret
  refine ⟨?_, s3, n3, c3, L2', ?_⟩
  ·simp only [doM, Int.toNat_natCast, HEC.out]
   simp [chanH, HKK.out, HTV.out]
  ·simp only [doM, Int.toNat_natCast, HEC.out]
   simpa [chanR, chanC, bitN, HKK.out, HTV.out] using Q2.out
 ·have HTV := hidW (TV.out (by rw [hk]; decide))
  have HKK := hidW hk
  rw [hk]
  clear hk TV
  go_wp2_with fail
  refine (came_any 0 0 8 r a bb nn b S who pc (pc + 1) 0 rg w1 HQ1.out.r.t hr ha hb hrb).mono ?_
  rintro e w2 ⟨rfl, k2⟩
  have q2 := HQ1.out.r.put (W2 := (w1.setCell ⟨b, 5 + r.toNat, none⟩ (.int .i64 0)).setCell ⟨b, 5 + bb.toNat, none⟩ (.int .i64 0)) (fun q hq => (Below.heap_setCell _ _ _ q hq).trans (Below.heap_setCell _ _ _ q hq)) (by simp) HQ1.out.r.bt.set.set (((Below.refl _ _).setCell (p := ⟨b, _, none⟩) h.hbb _).setCell (p := ⟨b, _, none⟩) h.hbb _) ((HQ1.out.r.t.reg _ (by omega) _).reg _ (by omega) _) k2
  have Q2 := hidW ((HQW.out.then HQ1.out).then q2)
  clear k2 q2 y0 y1 y2 y3 y4
  go_wp2
  go_ret
  refine ⟨?_, s3, n3, c3, L2', ?_⟩
  ·simp only [doM, Int.toNat_natCast, HEC.out]
   simp [chanH, HKK.out, HTV.out]
  ·simp only [doM, Int.toNat_natCast, HEC.out]
   simpa [chanR, chanC, bitN, HKK.out, HTV.out] using Q2.out
 ·have HTV := hidW (TV.out (by rw [hk]; decide))
  have HKK := hidW hk
  rw [hk]
  clear hk TV
  go_wp2_with fail
  refine (came_any 0 2 8 r a bb nn b S who pc (pc + 1) 0 rg w1 HQ1.out.r.t hr ha hb hrb).mono ?_
  rintro e w2 ⟨rfl, k2⟩
  have q2 := HQ1.out.r.put (W2 := (w1.setCell ⟨b, 5 + r.toNat, none⟩ (.int .i64 0)).setCell ⟨b, 5 + bb.toNat, none⟩ (.int .i64 2)) (fun q hq => (Below.heap_setCell _ _ _ q hq).trans (Below.heap_setCell _ _ _ q hq)) (by simp) HQ1.out.r.bt.set.set (((Below.refl _ _).setCell (p := ⟨b, _, none⟩) h.hbb _).setCell (p := ⟨b, _, none⟩) h.hbb _) ((HQ1.out.r.t.reg _ (by omega) _).reg _ (by omega) _) k2
  have Q2 := hidW ((HQW.out.then HQ1.out).then q2)
  clear k2 q2 y0 y1 y2 y3 y4
  go_wp2
  go_ret
  refine ⟨?_, s3, n3, c3, L2', ?_⟩
  ·simp only [doM, Int.toNat_natCast, HEC.out]
   simp [chanH, HKK.out, HTV.out]
  ·simp only [doM, Int.toNat_natCast, HEC.out]
   simpa [chanR, chanC, bitN, HKK.out, HTV.out] using Q2.out
set_option maxHeartbeats 2000000 in
theorem do7 (o r a bb n : Int) (b S base n3 c3 : Nat) (s3 : Option Addr) (v1 v2 : Value) (L1 L2 : List (Rec × Value)) (d : SD) (who : Nat) (pc : Int) (rg : List Int) (w : World) (h : Rd w b S base v1 v2 (.slice s3 n3 c3) L1 L2 d who pc (pc + 1) 0 rg) (hr : 0 ≤ r ∧ r ≤ 3) (ha : 0 ≤ a ∧ a ≤ 3) (hb : 0 ≤ bb ∧ bb ≤ 3) (nn : Nat) (hn : n = nn) (c : CD) (hc : d.chs[nn]? = some c) (hcl : c.list.length ≤ 4) (hcn : d.chs.length ≤ 3) (hok : okC c.cap c.list.length = true) :
  Calls Tryz.prog 88 #[.pointer (some ⟨b, 0, none⟩), .agg #[.int .i64 7, .int .i64 r, .int .i64 a, .int .i64 bb, .int .i64 n]] w fun e w' => DoP w b S base v1 v2 (.slice s3 n3 c3) L1 L2 d who pc (doM ⟨pc, rg, 0⟩ ⟨7, r, a, bb, n⟩ d.chs d.tr who) e w' := by
 subst hn
 obtain ⟨r', hr'⟩ : ∃ r' : Nat, r = r' := ⟨r.toNat, by omega⟩
 subst hr'
 have br0 : (0 : Int) ≤ (r' : Int) := by omega
 have br1 : (r' : Int) < 4 := by omega
 obtain ⟨g2, c2, y9, e9, -⟩ := h.o.chanAt hc
 subst e9
 have ec : d.chs.getD nn zc = c := chs_at hc
 obtain ⟨W, hW, hx, kW, zW⟩ := Xb.new w (.int .i64 7) (.int .i64 r') (.int .i64 a) (.int .i64 bb) (.int .i64 nn) 91
 have HWW := hidW hW
 have HX := hidW hx
 have KW := hidW kW
 have QW := h.put (W2 := w) (fun q _ => rfl) rfl h.bt (Below.refl _ _) h.t kW
 have HQW := hidW QW
 have TV := hidW (fun q => takeV_none (c := c) hok q)
 have TK3 := hidW (takeK_three (cl := c.cl) hok)
 have zv2 : ∀ q, (Value.slice (some ⟨g2, 0, none⟩) d.chs.length c2).ownBlock = some q → q < w.heap.size := fun q hq => (h.o.hit (.inr (.inl (.inl hq)))).2
 have ZV2 := hidW zv2
 have HEC := hidW ec
 have x4 := hx.c4
 have xz := hx.z
 have bn0 : (0 : Int) ≤ (nn : Int) := by omega
 clear hW hx kW QW ec zv2
 go_enter Tryz.func88, Tryz.ntmps88
 have x0 := HX.out.c0
 have x1 := HX.out.c1
 have x2 := HX.out.c2
 have x3 := HX.out.c3
 go_wp2_with fail
 rw [HWW.out]
 refine (send_any 7 r' a bb nn b S base g2 c2 who pc (pc + 1) 0 rg v1 _ L1 L2 d c W HQW.out.r.t ha HQW.out.r.s HQW.out.r.o HQW.out.r.hb hc hcl hcn).mono ?_
 rintro e w1 ⟨rfl, k⟩
 clear x0 x1 x2 x3
 obtain ⟨L2', q1⟩ := HQW.out.r.chan k
 have HQ1 := hidW q1
 have X1 := HX.out
 have eX : w1.heap[w.heap.size]? = W.heap[w.heap.size]? := k.2.1 _ xz (fun e => by have := ZV2.out _ e; omega)
 have cX : ∀ j, w1.cell? ⟨w.heap.size, j, none⟩ = W.cell? ⟨w.heap.size, j, none⟩ := fun j => World.cell?_of_block eX
 have y0 := (cX 0).trans X1.c0
 have y1 := (cX 1).trans X1.c1
 have y2 := (cX 2).trans X1.c2
 have y3 := (cX 3).trans X1.c3
 have y4 := (cX 4).trans X1.c4
 have z1 := k.2.2.size
 clear k q1 X1 eX cX x4
 clear TK3 TV
 rcases sendK_three c.cap c.list c.cl with hk | hk | hk
 ·have HKK := hidW hk
  rw [hk]
  clear hk
  obtain ⟨c0, c1, c2', c3', c4, cr, cf, cz, -⟩ := HQ1.out.r.t
  have zx1 : w.heap.size < w1.heap.size := by omega
  have hne := ext_ne w1
  have u1 := Ext.fit y1 zx1
  go_wp2_with fail
  refine regionSuf w1 6 (by decide) (by kernel_rfl) (by kernel_rfl) (by kernel_rfl) (by kernel_rfl) ?_
  dsimp only [List.take, List.drop]
  repeat (go_big_quiet_step (fail))
  refine wpQuiet_nil ?_
  clear hne u1
  rintro w3 ⟨X3, rfl⟩
  obtain ⟨V2, hX3⟩ : ∃ V2, X3.w = V2 := ⟨_, rfl⟩
  have hb3 := X3.b
  rw [hX3] at hb3 ⊢
  have T2 := HQ1.out.r.t.below hb3 cz
  have lr2 : V2.cell? ⟨b, 5 + r', none⟩ = some (.int .i64 (rg.getD r' 0)) := T2.r r' (by omega)
  have ff2 := T2.f
  have zf2 := T2.z
  have q2 := HQ1.out.r.put (W2 := w1.setCell ⟨b, 5 + r', none⟩ (.int .i64 1)) (fun q hq => Below.heap_setCell _ _ _ q hq) (by simp) HQ1.out.r.bt.set ((Below.refl _ _).setCell (p := ⟨b, _, none⟩) h.hbb _) (HQ1.out.r.t.reg _ (by omega) _) (belowP hb3)
  have Q2 := hidW ((HQW.out.then HQ1.out).then q2)
  clear hb3 hX3 X3 T2 q2 y0 y1 y2 y3 y4 c0 c1 c2' c3' c4 cr cf cz
  go_wp2
  go_ret
  refine ⟨?_, s3, n3, c3, L2', ?_⟩
  ·simp only [doM, Int.toNat_natCast, HEC.out]
   simp [chanH, HKK.out]
  ·simp only [doM, Int.toNat_natCast, HEC.out]
   simpa [chanR, chanC, bitN, regN, HKK.out] using Q2.out
 ·have HKK := hidW hk
  rw [hk]
  clear hk
  obtain ⟨c0, c1, c2', c3', c4, cr, cf, cz, -⟩ := HQ1.out.r.t
  have zx1 : w.heap.size < w1.heap.size := by omega
  have hne := ext_ne w1
  have u1 := Ext.fit y1 zx1
  go_wp2_with fail
  refine regionSuf w1 6 (by decide) (by kernel_rfl) (by kernel_rfl) (by kernel_rfl) (by kernel_rfl) ?_
  dsimp only [List.take, List.drop]
  repeat (go_big_quiet_step (fail))
  refine wpQuiet_nil ?_
  clear hne u1
  rintro w3 ⟨X3, rfl⟩
  obtain ⟨V2, hX3⟩ : ∃ V2, X3.w = V2 := ⟨_, rfl⟩
  have hb3 := X3.b
  rw [hX3] at hb3 ⊢
  have T2 := HQ1.out.r.t.below hb3 cz
  have lr2 : V2.cell? ⟨b, 5 + r', none⟩ = some (.int .i64 (rg.getD r' 0)) := T2.r r' (by omega)
  have ff2 := T2.f
  have zf2 := T2.z
  have q2 := HQ1.out.r.put (W2 := w1.setCell ⟨b, 5 + r', none⟩ (.int .i64 0)) (fun q hq => Below.heap_setCell _ _ _ q hq) (by simp) HQ1.out.r.bt.set ((Below.refl _ _).setCell (p := ⟨b, _, none⟩) h.hbb _) (HQ1.out.r.t.reg _ (by omega) _) (belowP hb3)
  have Q2 := hidW ((HQW.out.then HQ1.out).then q2)
  clear hb3 hX3 X3 T2 q2 y0 y1 y2 y3 y4 c0 c1 c2' c3' c4 cr cf cz
  go_wp2
  go_ret
  refine ⟨?_, s3, n3, c3, L2', ?_⟩
  ·simp only [doM, Int.toNat_natCast, HEC.out]
   simp [chanH, HKK.out]
  ·simp only [doM, Int.toNat_natCast, HEC.out]
   simpa [chanR, chanC, bitN, regN, HKK.out] using Q2.out
 ·have HKK := hidW hk
  rw [hk]
  clear hk
  have Q2 := hidW (HQW.out.then HQ1.out)
  clear y0 y1 y2 y3 y4
  go_wp2
  go_ret
  refine ⟨?_, s3, n3, c3, L2', ?_⟩
  ·simp only [doM, Int.toNat_natCast, HEC.out]
   simp [chanH, HKK.out]
  ·simp only [doM, Int.toNat_natCast, HEC.out]
   simpa [chanR, chanC, regN, HKK.out] using Q2.out
end Go.Proofs.YtpmopmgpheefeaaGreat
