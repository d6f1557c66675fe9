/- DrawMachineNew: rows of code are drawn into new memory. Conditions: the bytes lie in memory as the reading says. What l8Draw goes by: a machine in its box ahead of the spoiling, and behind it. No condition. l8Draw's machine with a first code cut off, or a note more. No condition. -/
import Derived.Test.YtepfpbcjklaenaaMG00
import Derived.Test.YtepfpbcjklaenaaMG01
import Derived.Test.YtepfpbcjklaenaaMG18
import Derived.Test.YtepfpbcjklaenaaMG07
import Derived.Test.YtepfpbcjklaenaaMG11
import Derived.Test.YtepfpbcjklaenaaMG03
import Derived.Test.YtepfpbcjklaenaaMG19
import Derived.Test.YtepfpbcjklaenaaMDraw7
import Derived.Test.YtepfpbcjklaenaaMG08
import Derived.Test.YtepfpbcjklaenaaMG26
import Derived.Test.YtepfpbcjklaenaaMKOkB
import Derived.Test.YtepfpbcjklaenaaMG10
namespace Go.Proofs.Ytepfpbcjklaenaa
section
set_option linter.unusedSimpArgs false
set_option linter.unusedVariables false
set_option maxRecDepth 100000
open Go.RowKit
structure CdN (w wr : World) (p : Nat) (s : Option Addr) (n c : Nat) (v : Value) (L : List CV) : Prop where
 o : OwnC wr w.heap.size v L
 le : ∀ x ∈ L, x.l.length ≤ 15
 cb : CB wr p s n c
 bt : But p w wr
theorem CdN.but {w wr w' : World} {p n c : Nat} {s : Option Addr} {v : Value} {L : List CV} (h : CdN w wr p s n c v L) (hp : p < w.heap.size) (hc : CB w' p s n c) (hb : But p wr w') : CdN w w' p s n c v L :=
 ⟨h.o.keep (fun k h1 h2 => hb.block k h2 (by omega)), h.le, hc, h.bt.trans hb⟩
theorem CdN.add {w wr w' : World} {p n c g cap : Nat} {s : Option Addr} {v : Value} {L : List CV} {y : CV} (h : CdN w wr p s n c v L) (hp : p < w.heap.size) (hy : y.l.length ≤ 15) (hq : PushedC wr w' w.heap.size v L y g cap) : CdN w w' p s n c (.slice (some ⟨g, 0, none⟩) (L.length + 1) cap) (L ++ [y]) := by
 refine ⟨hq.own, fun x hx => ?_, h.cb.lowB hq.low hp, but_low h.bt hq.low⟩
 rcases List.mem_append.1 hx with e | e
 ·exact h.le x e
 ·simp at e; subst e; exact hy
def set5w (w : World) (g : Nat) (y : I5) : World := ((((w.setCell ⟨g, 0, none⟩ (.int .i64 y.o)).setCell ⟨g, 1, none⟩ (.int .i64 y.r)).setCell ⟨g, 2, none⟩ (.int .i64 y.a)).setCell ⟨g, 3, none⟩ (.int .i64 y.b)).setCell ⟨g, 4, none⟩ (.int .i64 y.n)
theorem OwnT5.set0 {w : World} {base g c : Nat} {x : I5} {r : List I5} (h : OwnT5 w base (.slice (some ⟨g, 0, none⟩) (r.length + 1) c) (x :: r)) (y : I5) : OwnT5 (set5w w g y) base (.slice (some ⟨g, 0, none⟩) (r.length + 1) c) (y :: r) := by
 have h' : w.ownsRow base 25 5 (.slice (some ⟨g, 0, none⟩) (r.length + 1) c) (r.length + 1) ((fl5 (x :: r)).map (Value.int .i64)) := h
 have r0 := (World.ownsRow.stored h' 0 (.int .i64 y.o)).1
 have r1 := (World.ownsRow.stored r0 1 (.int .i64 y.r)).1
 have r2 := (World.ownsRow.stored r1 2 (.int .i64 y.a)).1
 have r3 := (World.ownsRow.stored r2 3 (.int .i64 y.b)).1
 have r4 := (World.ownsRow.stored r3 4 (.int .i64 y.n)).1
 show (set5w w g y).ownsRow base 25 5 _ (r.length + 1) ((fl5 (y :: r)).map (Value.int .i64))
 simpa [fl5, set5w] using r4
theorem OwnT5.at0 {w : World} {base g c : Nat} {x : I5} {r : List I5} (h : OwnT5 w base (.slice (some ⟨g, 0, none⟩) (r.length + 1) c) (x :: r)) : w.cell? ⟨g, 0, none⟩ = some (.int .i64 x.o) ∧ w.cell? ⟨g, 1, none⟩ = some (.int .i64 x.r) ∧ w.cell? ⟨g, 2, none⟩ = some (.int .i64 x.a) ∧ w.cell? ⟨g, 3, none⟩ = some (.int .i64 x.b) ∧ w.cell? ⟨g, 4, none⟩ = some (.int .i64 x.n) ∧ ∀ j, w.frozen? ⟨g, j, none⟩ = false := by
 have h' : w.ownsRow base 25 5 (.slice (some ⟨g, 0, none⟩) (r.length + 1) c) (r.length + 1) ((fl5 (x :: r)).map (Value.int .i64)) := h
 have c' : ∀ j, j < 5 → w.cell? ⟨g, j, none⟩ = ((fl5 (x :: r)).map (Value.int .i64))[j]? := fun j hj => World.ownsRow.cellAt h' j (by omega)
 refine ⟨(c' 0 (by omega)).trans rfl, (c' 1 (by omega)).trans rfl, (c' 2 (by omega)).trans rfl, (c' 3 (by omega)).trans rfl, (c' 4 (by omega)).trans rfl, fun j => World.ownsRow.frozenAt h' j⟩
theorem below_set5 {w : World} {g B : Nat} (y : I5) (hg : B ≤ g) : Below B w (set5w w g y) :=
 (((((Below.refl _ _).setCell (p := ⟨g, _, none⟩) hg _).setCell (p := ⟨g, _, none⟩) hg _).setCell (p := ⟨g, _, none⟩) hg _).setCell (p := ⟨g, _, none⟩) hg _).setCell (p := ⟨g, _, none⟩) hg _
theorem set5_blk {w : World} {g k : Nat} (y : I5) (hk : k ≠ g) : (set5w w g y).heap[k]? = w.heap[k]? :=
 (Below.heap_setCell _ ⟨g, _, none⟩ _ k hk).trans ((Below.heap_setCell _ ⟨g, _, none⟩ _ k hk).trans ((Below.heap_setCell _ ⟨g, _, none⟩ _ k hk).trans ((Below.heap_setCell _ ⟨g, _, none⟩ _ k hk).trans (Below.heap_setCell _ ⟨g, _, none⟩ _ k hk))))
set_option maxRecDepth 100000 in
set_option maxHeartbeats 4000000 in
theorem drawNew_any (s : Option Addr) (n c : Nat) (w : World) (hb : Bytes w w.heap.size s n) (hn : n ≤ maxLen) :
  Calls Try.prog 21 #[.slice s n c] w fun e w' => ∃ (su : Option Addr) (cu : Nat) (L : List (List I5)), e = .returned (.slice su L.length cu) ∧ CsR w' w.heap.size w'.heap.size su L ∧ L.length ≤ 5 ∧ szC L ≤ 75 ∧ Below w.heap.size w w' := by
 go_enter Try.func21, Try.ntmps21
 go_wp2_with fail
 refine (new_cb s n c w hb hn).mono ?_
 rintro e w1 ⟨rfl, hc1, hb1, hz1⟩
 have K1 := hidM1 hb1
 have C1 := hidM1 hc1
 have hp1 : w.heap.size < w1.heap.size := by omega
 clear hb1 hc1 hb hz1
 have P0 : Hid (CdN w1 (w1.alloc (.cells #[] 26)) w.heap.size s n c (.slice (some ⟨w1.heap.size, 0, none⟩) 0 0) []) := by
  refine ⟨⟨?_, fun i x hx => by simp at hx, fun i j x y k hx => by simp at hx⟩, fun x hx => by simp at hx, C1.out.alloc _, (But.refl _ _).alloc _⟩
  have h0 := World.ownsRow_lit (base := w1.heap.size) (e := 26) (size := 1) w1 #[] 0 (Nat.le_refl _) (by unfold maxLen; omega) rfl
  exact h0
 go_wp2_with fail
 refine (below_cb w.heap.size s n c 4 _ P0.out.cb (by omega) (by omega)).mono ?_
 rintro e w2 ⟨t, rfl, t0, t1, hc2, hb2⟩
 have P2 := hidM1 (P0.out.but hp1 hc2 hb2)
 clear hc2 hb2 P0 C1
 go_wp2_with fail
 refine (once_cb w.heap.size s n c 9 w2 P2.out.cb (by omega) (by omega)).mono ?_
 rintro e w3 ⟨x, rfl, hc3, hb3⟩
 have P3 := hidM1 (P2.out.but hp1 hc3 hb3)
 have hz3 := P3.out.bt.size
 clear hc3 hb3 P2
 cases x
 case' false =>
  have N5 : Hid (0 ≤ 1 + t ∧ 1 + t ≤ 5) := by show _ ∧ _; omega
  clear t0 t1
  go_upto_region 6 with fail
  generalize 1 + t = nn at N5 ⊢
  have P4 := P3
  clear P3 hz3
  generalize w3 = w4 at P4 ⊢
 case' true =>
  clear t0 t1
  go_wp2_with fail
  refine (pick_cb w.heap.size s n c w3.heap.size 2 [0, 5] _ (P3.out.cb.alloc _) rfl (by simp) (by simp) (by simp) (by omega) (fun i hi => by match i, hi with | 0, _ => simp [go_sem] | 1, _ => simp [go_sem])).mono ?_
  rintro e w4 ⟨nn, rfl, hm, hc4, hb4⟩
  have N5 : Hid (0 ≤ nn ∧ nn ≤ 5) := by simp at hm; show _ ∧ _; omega
  have P4 := hidM1 (P3.out.but hp1 hc4 (((But.refl _ _).alloc _).trans hb4))
  clear hm hc4 hb4 P3 hz3
  go_upto_region 6 with fail
 all_goals
  go_wp2_with fail
  go_loopw [4, 6] (fun v i wr => ∃ (j : Nat) (L : List CV), (j : Int) ≤ nn ∧ i = .int .i64 j ∧ L.length = j ∧ CdN w1 wr w.heap.size s n c v L) (fun _ i _ => 5 - (intOf i).toNat)
  case atStart => exact ⟨0, [], N5.out.1, rfl, rfl, P4.out⟩
  case round =>
   obtain ⟨j, L, hj, rfl, hl, hd⟩ := hrel
   have D := hidM1 hd
   have HL := hidM1 hl
   obtain ⟨sa, ca, ea⟩ := ownSl hd.o.row
   subst ea
   clear hd hl P4
   have hzr := D.out.bt.size
   have hj5 : (j : Int) ≤ 5 := by have := N5.out; omega
   by_cases hlt : (j : Int) < nn
   ·go_wp2_with fail
    refine (drawCode_ok w.heap.size s n c wr D.out.cb).mono ?_
    rintro e w5 ⟨v5, l5, rfl, ho5, hok5, hl5, hc5, hb5⟩
    obtain ⟨x0, r0, rfl⟩ : ∃ x0 r0, l5 = x0 :: r0 := by
     cases l5 with
     | nil => have := code_pos hok5; simp at this
     | cons a b => exact ⟨a, b, rfl⟩
    obtain ⟨g, cap, rfl, -⟩ := World.ownsRow.form ho5 (by simp)
    have hg := World.ownsRow.lt ho5 g rfl
    have D5 := hidM1 (D.out.but hp1 hc5 hb5)
    have O5 : Hid (OwnT5 w5 wr.heap.size (.slice (some ⟨g, 0, none⟩) (r0.length + 1) cap) (x0 :: r0)) := ho5
    have L5 := hidM1 hl5
    have BT5 := hidM1 hb5
    have DR := D
    clear ho5 hok5 hl5 hc5 hb5 D
    go_wp2_with fail
    refine (once_cb w.heap.size s n c 9 w5 D5.out.cb (by omega) (by omega)).mono ?_
    rintro e w6 ⟨x6, rfl, hc6, hb6⟩
    have D6 := hidM1 (D5.out.but hp1 hc6 hb6)
    have O6 := hidM1 (O5.out.but hb6 (by omega))
    have hz6 := hb6.size
    have hz5 := BT5.out.size
    have BT6 := hidM1 (BT5.out.trans hb6)
    clear hc6 hb6 D5 O5 BT5
    have b0 : (0 : Int) < ((r0.length + 1 : Nat) : Int) := by omega
    cases x6
    case' false =>
     go_upto_region 12 with fail
     have D8 := D6
     have O8 := O6
     have hz8 : w5.heap.size ≤ w6.heap.size := hz6
     clear D6 O6 hz6 BT6
     generalize w6 = w8 at D8 O8 hz8 ⊢
     generalize x0 = y8 at L5 O8
    case' true =>
     obtain ⟨c0, c1, c2, c3, c4, -⟩ := O6.out.at0
     go_wp2_with fail
     refine (spoil_cb w.heap.size s n c x0.o x0.r x0.a x0.b x0.n w6 D6.out.cb).mono ?_
     rintro e w7 ⟨y0, y1, y2, y3, y4, rfl, hc7, hb7⟩
     have D7 := hidM1 (D6.out.but hp1 hc7 hb7)
     have O7 := hidM1 (O6.out.but hb7 (by omega))
     have hz7 := hb7.size
     have BT7 := hidM1 (BT6.out.trans hb7)
     clear BT6
     clear hc7 hb7 D6 O6 c0 c1 c2 c3 c4
     obtain ⟨c0, c1, c2, c3, c4, fz⟩ := O7.out.at0
     have hg7 : g < w7.heap.size := by omega
     go_upto_region 12 with fail
     obtain ⟨w8, hw8⟩ : ∃ w8, set5w w7 g ⟨y0, y1, y2, y3, y4⟩ = w8 := ⟨_, rfl⟩
     have kb : Below wr.heap.size w7 w8 := hw8 ▸ below_set5 _ (by omega)
     have O8 : Hid (OwnT5 w8 wr.heap.size (.slice (some ⟨g, 0, none⟩) (r0.length + 1) cap) (⟨y0, y1, y2, y3, y4⟩ :: r0)) := hw8 ▸ O7.out.set0 _
     have D8 : Hid (CdN w1 w8 w.heap.size s n c (.slice sa L.length ca) L) := ⟨DR.out.o.keep (fun k h1 h2 => by rw [← hw8]; exact (set5_blk _ (by omega)).trans (BT7.out.block k h2 (by omega))), D7.out.le, D7.out.cb.lowB kb (by omega), but_low D7.out.bt (kb.mono (by omega))⟩
     have hz8 : w5.heap.size ≤ w8.heap.size := by have := kb.size; omega
     change Code.wp _ _ _ _ (set5w w7 g ⟨y0, y1, y2, y3, y4⟩)
     rw [hw8]
     clear hw8 kb D7 O7 BT7 c0 c1 c2 c3 c4 fz hg7 hz6 hz7
     generalize (⟨y0, y1, y2, y3, y4⟩ : I5) = y8 at O8
    all_goals
     have T8 : Hid (OwnT5 w8 w1.heap.size (.slice (some ⟨g, 0, none⟩) (r0.length + 1) cap) (y8 :: r0)) := ownLow' O8.out (by omega)
     have SP : Hid (∀ (i : Nat) (z : CV) (k : Nat), L[i]? = some z → (Value.slice (some ⟨g, 0, none⟩) (r0.length + 1) cap).ownBlock = some k → z.v.ownBlock ≠ some k) := fun i z k hz h1 h2 => by
      have q2 := (World.ownsRow.lt (DR.out.o.inn i z hz) _ h2).2
      have e : some g = some k := h1
      injection e with e
      omega
     have hz1 := D8.out.bt.size
     clear O8
     go_wp2_with (at_builtin; refine app_rowC rfl _ _ rfl w8 w1.heap.size (.slice sa L.length ca) L ⟨y8 :: r0, .slice (some ⟨g, 0, none⟩) (r0.length + 1) cap⟩ rfl D8.out.o T8.out rfl rfl (by have := HL.out; omega) (by omega) SP.out ?_; intro g5 cap5 w9 hp9; have D9 := hidM1 (D8.out.add hp1 (by have := L5.out; simpa using this) hp9); clear hp9)
     go_roundw
     case rel => exact ⟨j + 1, L ++ [⟨y8 :: r0, .slice (some ⟨g, 0, none⟩) (r0.length + 1) cap⟩], by omega, by go_num, by rw [List.length_append, HL.out]; rfl, D9.out⟩
     case measure => simp [intOf]; have := N5.out; omega
   ·obtain ⟨su, cu, R, ev, gv⟩ := D.out.o.go
    injection ev with ev1 _ ev3
    subst ev1 ev3
    have cs : Hid (CsR wr w1.heap.size wr.heap.size sa (L.map CV.l)) := GO.csR (R := R) (by rw [List.map_map]; exact gv)
    have sz := szC_le (m := 15) (L.map CV.l) (fun x hx => by
     obtain ⟨y, hy, rfl⟩ := List.mem_map.1 hx
     exact D.out.le y hy)
    rw [List.length_map] at sz
    have SZ := hidM1 sz
    clear gv sz
    go_wp2
    go_ret
    have h1 := HL.out
    have h2 := N5.out
    have h3 := SZ.out
    exact ⟨sa, ca, L.map CV.l, by rw [List.length_map]; rfl, cs.out.mono (by omega) (Nat.le_refl _), by rw [List.length_map]; omega, by omega, K1.out.trans (D.out.bt.below (Nat.le_refl _) (by omega))⟩
end
section
set_option linter.unusedSimpArgs false
set_option linter.unusedVariables false
set_option maxRecDepth 100000
open Go.RowKit
structure LM (w V : World) (p : Nat) (s : Option Addr) (n c bx : Nat) (vc vk vm vt : Value) (LC : List CV) (LK : List KV) (S : List RS) (d : MD) : Prop where
 x : X4 V bx vc vk vm vt
 ty : BxT V bx
 mq : MQ0 V (w.heap.size + 1) vc vk vm vt LC LK S d
 ok : machB d = true
 sz : MaSz d ≤ 20000
 cb : CB V p s n c
 bt : But p w V
 r : X4 V w.heap.size (.slice none 0 0) (.slice none 0 0) (.slice none 0 0) (.slice none 0 0)
 pw : p < w.heap.size
 wb : w.heap.size < bx
structure EM (w V : World) (p : Nat) (s : Option Addr) (n c bx : Nat) (q : MP) (d : MD) : Prop where
 x : X4 V bx (.slice q.s1 d.codes.length q.c1) (.slice q.s2 d.cores.length q.c2) (.slice q.s3 d.mem.length q.c3) (.slice q.s4 d.tr.length q.c4)
 ma : MaR V (w.heap.size + 1) V.heap.size q.s1 q.s2 q.s3 q.s4 d
 sz : MaSz d ≤ 21000
 k : d.cores.length ≤ 4
 cb : CB V p s n c
 bt : But p w V
 r : X4 V w.heap.size (.slice none 0 0) (.slice none 0 0) (.slice none 0 0) (.slice none 0 0)
 pw : p < w.heap.size
 wb : w.heap.size < bx
theorem LM.step {w V V' : World} {p n c bx : Nat} {s : Option Addr} {vc vk vm vt : Value} {LC : List CV} {LK : List KV} {S : List RS} {d : MD} (h : LM w V p s n c bx vc vk vm vt LC LK S d) (hc : CB V' p s n c) (hb : But p V V') : LM w V' p s n c bx vc vk vm vt LC LK S d := by
 have h1 := h.pw
 have h2 := h.wb
 obtain ⟨cs, f, e⟩ := h.ty
 exact ⟨h.x.but hb (by omega), ⟨cs, f, (hb.block bx h.x.x.z (by omega)).trans e⟩, h.mq.keep (fun k k1 k2 => hb.block k k2 (by omega)) hb.size, h.ok, h.sz, hc, h.bt.trans hb, h.r.but hb (by omega), h1, h2⟩
/- whatever the machine has become: its rows are owned whole -/
theorem em_of {w V : World} {p n c bx : Nat} {s : Option Addr} {vc vk vm vt : Value} {LC : List CV} {LK : List KV} {S : List RS} {d : MD} (x : X4 V bx vc vk vm vt) (mq : MQ0 V (w.heap.size + 1) vc vk vm vt LC LK S d) (sz : MaSz d ≤ 21000) (k : d.cores.length ≤ 4) (cb : CB V p s n c) (bt : But p w V) (r : X4 V w.heap.size (.slice none 0 0) (.slice none 0 0) (.slice none 0 0) (.slice none 0 0)) (pw : p < w.heap.size) (wb : w.heap.size < bx) : ∃ q, EM w V p s n c bx q d := by
 obtain ⟨q, e1, e2, e3, e4, mo, -⟩ := mq.mo
 subst e1 e2 e3 e4
 exact ⟨q, x, mo.ma, sz, k, cb, bt, r, pw, wb⟩
theorem mach_k4 {d : MD} (h : machB d = true) : d.cores.length ≤ 4 := by
 have h1 := mach_len h
 unfold machB at h
 simp only [Bool.and_eq_true] at h
 have h2 := h.1
 unfold codesB at h2
 simp only [Bool.and_eq_true] at h2
 have h3 := of_decide_eq_true h2.1
 omega
theorem mach_k1 {d : MD} (h : machB d = true) : 0 < d.cores.length := by
 have h1 := mach_len h
 unfold machB at h
 simp only [Bool.and_eq_true] at h
 have h2 := h.1
 unfold codesB at h2
 simp only [Bool.and_eq_true] at h2
 have h3 := of_decide_eq_true h2.1
 omega
theorem LM.asIs {w V : World} {p n c bx : Nat} {s : Option Addr} {vc vk vm vt : Value} {LC : List CV} {LK : List KV} {S : List RS} {d : MD} (h : LM w V p s n c bx vc vk vm vt LC LK S d) : ∃ q, EM w V p s n c bx q d :=
 em_of h.x h.mq (by have := h.sz; omega) (mach_k4 h.ok) h.cb h.bt h.r h.pw h.wb
theorem szK_set : ∀ (l : List KD) (i : Nat) (x y : KD), l[i]? = some x → y.regs.length = x.regs.length → y.vw.length = x.vw.length → szK (l.set i y) = szK l
 | [], i, x, y, h, _, _ => by simp at h
 | z :: r, 0, x, y, h, h1, h2 => by simp at h; subst h; simp [szK, h1, h2]
 | z :: r, i + 1, x, y, h, h1, h2 => by
  have q := szK_set r i x y (by simpa using h) h1 h2
  simp [szK, q]
theorem putK_sz {d : MD} {i : Nat} {x y : KD} (h : d.cores[i]? = some x) (h1 : y.regs.length = x.regs.length) (h2 : y.vw.length = x.vw.length) : MaSz (putK d i y) = MaSz d ∧ (putK d i y).cores.length = d.cores.length := by
 have e := szK_set d.cores i x y h h1 h2
 refine ⟨?_, by show (d.cores.set i y).length = _; rw [List.length_set]⟩
 unfold MaSz
 show d.codes.length + szC d.codes + ((d.cores.set i y).length + szK (d.cores.set i y)) + (d.mem.length + szR d.mem) + d.tr.length = _
 rw [e, List.length_set]
/- core 0 -/
theorem LM.core {w V : World} {p n c bx : Nat} {s : Option Addr} {vc vk vm vt : Value} {LC : List CV} {LK : List KV} {S : List RS} {d : MD} (h : LM w V p s n c bx vc vk vm vt LC LK S d) : ∃ k code st p' gc cc gk ck gs cs gr cr gv cv gO cO sr ct, d.cores[0]? = some k ∧ Op8 V (w.heap.size + 1) vc vk vm vt LK d 0 p' k code st gc cc gk ck gs cs gr cr gv cv gO cO sr ct ∧ k.regs.length = 8 ∧ LK.length = d.cores.length ∧ gk ≠ bx ∧ gr ≠ bx ∧ gv ≠ bx ∧ gc ≠ bx := by
 obtain ⟨k, code, st, ha⟩ := mach_at h.ok (mach_k1 h.ok)
 obtain ⟨p', gc, cc, gk, ck, gs, cs, gr, cr, gv, cv, gO, cO, sr, ct, o⟩ := h.mq.open ha
 have hk := own_bx h.mq.k.row (by decide) h.ty
 have hc := own_bx h.mq.c.row (by decide) h.ty
 have hr := own_bx (h.mq.k.inn 0 _ o.hx).1 (by decide) h.ty
 have hv := own_bx (h.mq.k.inn 0 _ o.hx).2 (by decide) h.ty
 refine ⟨k, code, st, p', gc, cc, gk, ck, gs, cs, gr, cr, gv, cv, gO, cO, sr, ct, ha.hk, o, ha.regs, by have := h.mq.ek; rw [← this, List.length_map], fun e => ?_, fun e => ?_, fun e => ?_, fun e => ?_⟩
 ·exact hk (by rw [o.ek, e]; rfl)
 ·exact hr (by rw [e]; rfl)
 ·exact hv (by rw [e]; rfl)
 ·exact hc (by rw [o.ec, e]; rfl)
/- a store of a number into a row of the machine -/
theorem LM.row {w V : World} {p n c bx g j : Nat} {s : Option Addr} {vc vk vm vt u : Value} {LC LC' : List CV} {LK LK' : List KV} {S S' : List RS} {d d' : MD} (h : LM w V p s n c bx vc vk vm vt LC LK S d) (hg : w.heap.size + 1 ≤ g) (hb : g ≠ bx) (mq : MQ0 (V.setCell ⟨g, j, none⟩ u) (w.heap.size + 1) vc vk vm vt LC' LK' S' d') (hs : MaSz d' = MaSz d ∧ d'.cores.length = d.cores.length) : ∃ q, EM w (V.setCell ⟨g, j, none⟩ u) p s n c bx q d' := by
 have h1 := h.pw
 have h2 := h.wb
 have h3 := h.sz
 have h4 := mach_k4 h.ok
 exact em_of (h.x.off (Ne.symm hb)) mq (by omega) (by omega) (h.cb.set (a := ⟨g, j, none⟩) (by show p < g; omega)) (but_at h.bt (by omega)) (h.r.off (by omega)) h1 h2
theorem LM.pc {w V : World} {p n c bx : Nat} {s : Option Addr} {vc vk vm vt : Value} {LC : List CV} {LK : List KV} {S : List RS} {d : MD} {k : KD} {code : List I5} {st : I5} {p' gc cc gk ck gs cs gr cr gv cv gO cO ct : Nat} {sr : Option Addr} (h : LM w V p s n c bx vc vk vm vt LC LK S d) (hk : d.cores[0]? = some k) (o : Op8 V (w.heap.size + 1) vc vk vm vt LK d 0 p' k code st gc cc gk ck gs cs gr cr gv cv gO cO sr ct) (hb : gk ≠ bx) (z : Int) : ∃ q d', d'.cores.length = d.cores.length ∧ EM w (V.setCell ⟨gk, 0, none⟩ (.int .i64 z)) p s n c bx q d' := by
 have e := o.ek
 have mq := h.mq
 rw [e] at mq
 have q := (mq.setK o.hx z).1
 have hs := putK_sz (y := { k with pc := z }) hk rfl rfl
 rw [← e] at q
 obtain ⟨q', hq⟩ := h.row (j := 0) o.bk hb (by simpa using q) hs
 exact ⟨q', _, hs.2, hq⟩
theorem LM.reg {w V : World} {p n c bx : Nat} {s : Option Addr} {vc vk vm vt : Value} {LC : List CV} {LK : List KV} {S : List RS} {d : MD} {k : KD} {code : List I5} {st : I5} {p' gc cc gk ck gs cs gr cr gv cv gO cO ct : Nat} {sr : Option Addr} (h : LM w V p s n c bx vc vk vm vt LC LK S d) (hk : d.cores[0]? = some k) (h8 : k.regs.length = 8) (o : Op8 V (w.heap.size + 1) vc vk vm vt LK d 0 p' k code st gc cc gk ck gs cs gr cr gv cv gO cO sr ct) (hb : gr ≠ bx) (j : Nat) (z : Int) : ∃ q d', d'.cores.length = d.cores.length ∧ EM w (V.setCell ⟨gr, j, none⟩ (.int .i64 z)) p s n c bx q d' := by
 have q := h.mq.setR (j := j) o.hx (by show _ = _; rw [h8]) z
 have hs := putK_sz (y := { k with regs := k.regs.set j z }) hk (by simp) rfl
 obtain ⟨q', hq⟩ := h.row (j := j) o.br hb q hs
 exact ⟨q', _, hs.2, hq⟩
/- a number put into a view -/
theorem MQ0.setW {w : World} {B g c j : Nat} {vc vk vm vt : Value} {LC : List CV} {LK : List KV} {S : List RS} {d : MD} (h : MQ0 w B vc vk vm vt LC LK S d) {i : Nat} {x : KV} (hx : LK[i]? = some x) (hr : x.v = .slice (some ⟨g, 0, none⟩) x.d.vw.length c) (z : Int) :
  MQ0 (w.setCell ⟨g, j, none⟩ (.int .i64 z)) B vc vk vm vt LC (LK.set i ⟨{ x.d with vw := x.d.vw.set j z }, x.r, x.v⟩) S (putK d i { x.d with vw := x.d.vw.set j z }) := by
 have hxo := (h.k.inn i x hx).2
 have hrow : w.ownsRow B 3 1 (.slice (some ⟨g, 0, none⟩) x.d.vw.length c) x.d.vw.length (x.d.vw.map (Value.int .i64)) := by have q := hxo; unfold OwnN at q; rw [hr] at q; exact q
 have hxb : x.v.ownBlock = some g := by rw [hr]; rfl
 have ne : ∀ {e : TypeId} {size n : Nat} {u : Value} {xs : List Value}, w.ownsRow B e size u n xs → e ≠ 3 → ∀ k, u.ownBlock = some k → (w.setCell ⟨g, j, none⟩ (.int .i64 z)).heap[k]? = w.heap[k]? := fun hu he k hk' => Below.heap_setCell _ _ _ k (fun e => ownType' hu hrow he hk' (by rw [e]; rfl))
 have nn : ∀ {u : Value} {l : List Int}, OwnN w B u l → u.ownBlock ≠ some g → OwnN (w.setCell ⟨g, j, none⟩ (.int .i64 z)) B u l := fun hu hn => ownKeep' hu (fun k hk => Below.heap_setCell _ _ _ k (fun e => hn (hk.trans (congrArg some e))))
 refine ⟨⟨ownKeep' h.c.row (ne h.c.row (by decide)), fun i' x' hx' => ownKeep' (h.c.inn i' x' hx') (ne (h.c.inn i' x' hx') (by decide)), h.c.sep⟩, h.ec, ?_, ?_, ?_, ownKeep' h.t (ne h.t (by decide)), sk_turn h.sk hx rfl rfl⟩
 ·refine h.k.turn hx rfl rfl ?_ ⟨nn (h.k.inn i x hx).1 (fun e => h.k.two i x g hx e hxb), ?_⟩ (fun j' z' hj hz' => ?_)
  ·have r := ownKeep' h.k.row (ne h.k.row (by decide))
   have e := flatK_same LK i x ⟨{ x.d with vw := x.d.vw.set j z }, x.r, x.v⟩ hx rfl rfl rfl rfl
   rw [e]
   exact r
  ·show (w.setCell ⟨g, j, none⟩ (.int .i64 z)).ownsRow B 3 1 x.v (x.d.vw.set j z).length ((x.d.vw.set j z).map (Value.int .i64))
   rw [hr, List.length_set, List.map_set]
   exact (World.ownsRow.stored hrow j (.int .i64 z)).1
  ·have q := h.k.sep i j' x z' g hx hz' (Ne.symm hj) (.inr hxb)
   exact ⟨nn (h.k.inn j' z' hz').1 (fun e => q (.inl e)), nn (h.k.inn j' z' hz').2 (fun e => q (.inr e))⟩
 ·show (LK.set i _).map KV.d = d.cores.set i _
  rw [List.map_set, h.ek]
 ·refine ⟨h.m.n, ownKeep' h.m.row (ne h.m.row (by decide)), fun i' r l hr' hl => ?_, h.m.d⟩
  have q := h.m.r i' r l hr' hl
  refine q.kept (ne q.own (by decide)) (fun a ha => Below.heap_setCell _ _ _ _ (fun e => ?_)) (by simp)
  refine h.sk i x g hx (.inr hxb) a (mem_mAs.2 ⟨r, List.mem_of_getElem? hr', mem_rAs.2 (.inr (mem_vsA.1 ha))⟩) e
theorem LM.vw {w V : World} {p n c bx : Nat} {s : Option Addr} {vc vk vm vt : Value} {LC : List CV} {LK : List KV} {S : List RS} {d : MD} {k : KD} {code : List I5} {st : I5} {p' gc cc gk ck gs cs gr cr gv cv gO cO ct : Nat} {sr : Option Addr} (h : LM w V p s n c bx vc vk vm vt LC LK S d) (hk : d.cores[0]? = some k) (h24 : k.vw.length = 24) (o : Op8 V (w.heap.size + 1) vc vk vm vt LK d 0 p' k code st gc cc gk ck gs cs gr cr gv cv gO cO sr ct) (hb : gv ≠ bx) (j : Nat) (z : Int) : ∃ q d', d'.cores.length = d.cores.length ∧ EM w (V.setCell ⟨gv, j, none⟩ (.int .i64 z)) p s n c bx q d' := by
 have q := h.mq.setW (j := j) o.hx (by show _ = _; rw [h24]) z
 have hs := putK_sz (y := { k with vw := k.vw.set j z }) hk rfl (by simp)
 obtain ⟨q', hq⟩ := h.row (j := j) o.bv hb q hs
 exact ⟨q', _, hs.2, hq⟩
end
section
set_option linter.unusedSimpArgs false
set_option linter.unusedVariables false
set_option maxRecDepth 100000
open Go.RowKit
theorem mach_c1 {d : MD} (h : machB d = true) : ∃ (x0 : I5) (r0 : List I5) (rest : List (List I5)), d.codes = (x0 :: r0) :: rest := by
 obtain ⟨k, code, st, ha⟩ := mach_at h (mach_k1 h)
 have h1 := ha.hc
 have h2 := ha.n1
 cases hd : d.codes with
 | nil => rw [hd] at h1; simp at h1
 | cons a r =>
  rw [hd] at h1
  simp at h1
  subst h1
  cases a with
  | nil => simp at h2
  | cons x0 r0 => exact ⟨x0, r0, r, rfl⟩
structure Cd8 (w V : World) (p : Nat) (s : Option Addr) (n c bx : Nat) (vc : Value) (vk vm vt : Value) (d : MD) (g cc gs cs : Nat) (x0 : I5) (r0 : List I5) (rest : List (List I5)) : Prop where
 e : d.codes = (x0 :: r0) :: rest
 ec : vc = .slice (some ⟨g, 0, none⟩) (rest.length + 1) cc
 c0 : V.cell? ⟨g, 0, none⟩ = some (.slice (some ⟨gs, 0, none⟩) (r0.length + 1) cs)
 cs : r0.length + 1 ≤ cs
 fz : ∀ j, V.frozen? ⟨g, j, none⟩ = false
 z : g < V.heap.size
 lo : w.heap.size + 1 ≤ g
 ne : g ≠ bx
 fin : ∀ (a : Option Addr) (c' : Nat), (r0 = [] ∨ a = some ⟨gs, 5, none⟩) → ∃ q d', EM w (V.setCell ⟨g, 0, none⟩ (.slice a r0.length c')) p s n c bx q d'
set_option maxHeartbeats 1000000 in
theorem LM.cod {w V : World} {p n c bx : Nat} {s : Option Addr} {vc vk vm vt : Value} {LC : List CV} {LK : List KV} {S : List RS} {d : MD} (h : LM w V p s n c bx vc vk vm vt LC LK S d) : ∃ g cc gs cs x0 r0 rest, Cd8 w V p s n c bx vc vk vm vt d g cc gs cs x0 r0 rest := by
 have hpw := h.pw
 have hwb := h.wb
 obtain ⟨x0, r0, rest, ed⟩ := mach_c1 h.ok
 have ec := h.mq.ec
 rw [ed] at ec
 have hl := congrArg List.length ec
 rw [List.length_map, List.length_cons] at hl
 have hrow := h.mq.c.row
 rw [hl] at hrow
 obtain ⟨g, cc, hvc, -⟩ := World.ownsRow.form hrow (by omega)
 have hgz := World.ownsRow.lt hrow g (by rw [hvc]; rfl)
 have atC : ∀ i l, ((x0 :: r0) :: rest)[i]? = some l → ∃ v, V.cell? ⟨g, i, none⟩ = some v ∧ OwnT5 V (w.heap.size + 1) v l := fun i l hi => by
  rw [← ec, List.getElem?_map] at hi
  cases hy : LC[i]? with
  | none => rw [hy] at hi; simp at hi
  | some y =>
   rw [hy] at hi
   simp at hi
   subst hi
   have hiL := (List.getElem?_eq_some_iff.1 hy).1
   refine ⟨y.v, ?_, h.mq.c.inn i y hy⟩
   have q := hrow
   rw [hvc] at q
   rw [World.ownsRow.cellAt q i (by omega), List.getElem?_map, hy]
   rfl
 obtain ⟨v0, hc0, ho0⟩ := atC 0 _ rfl
 have ho0' := ho0
 unfold OwnT5 at ho0'
 obtain ⟨gs, cs, hv0, -⟩ := World.ownsRow.form ho0' (by simp)
 subst hv0
 have hcs : r0.length + 1 ≤ cs := by
  rcases ho0'.2 with ⟨q, -⟩ | ⟨g', cap, cur, q, -, -, hcap, -⟩
  ·injection q with q; cases q
  ·injection q with _ _ q
   subst q
   exact hcap
 have hne : g ≠ bx := fun e => own_bx hrow (by decide) h.ty (by rw [hvc, e]; rfl)
 refine ⟨g, cc, gs, cs, x0, r0, rest, ed, hvc, hc0, hcs, fun j => ?_, hgz.2, hgz.1, hne, fun a c' ha => ?_⟩
 ·have q := hrow
  rw [hvc] at q
  exact World.ownsRow.frozenAt q j
 ·obtain ⟨V', hV'⟩ : ∃ V', V.setCell ⟨g, 0, none⟩ (.slice a r0.length c') = V' := ⟨_, rfl⟩
  have kb : ∀ k, k ≠ g → V'.heap[k]? = V.heap[k]? := fun k hk => by rw [← hV']; exact Below.heap_setCell _ ⟨g, 0, none⟩ _ k hk
  have sz : V'.heap.size = V.heap.size := by rw [← hV']; simp
  have ne : ∀ {e : TypeId} {size n : Nat} {u : Value} {xs : List Value}, V.ownsRow (w.heap.size + 1) e size u n xs → e ≠ 26 → ∀ k, u.ownBlock = some k → V'.heap[k]? = V.heap[k]? := fun hu he k hk => kb k (fun e => ownType' hu hrow he hk (by rw [hvc, e]; rfl))
  have mq' : MQ0 V' (w.heap.size + 1) (.slice none 0 0) vk vm vt [] LK S { d with codes := [] } := by
   refine ⟨OwnC.nil _ _, rfl, ⟨ownKeep' h.mq.k.row (ne h.mq.k.row (by decide)), fun i x hx => ⟨ownKeep' (h.mq.k.inn i x hx).1 (ne (h.mq.k.inn i x hx).1 (by decide)), ownKeep' (h.mq.k.inn i x hx).2 (ne (h.mq.k.inn i x hx).2 (by decide))⟩, h.mq.k.two, h.mq.k.sep⟩, h.mq.ek, ⟨h.mq.m.n, ownKeep' h.mq.m.row (ne h.mq.m.row (by decide)), fun i' r l hr' hl => ?_, h.mq.m.d⟩, ownKeep' h.mq.t (ne h.mq.t (by decide)), h.mq.sk⟩
   have q := h.mq.m.r i' r l hr' hl
   refine q.kept (ne q.own (by decide)) (fun a ha => kb _ (fun e => ?_)) (by omega)
   exact absurd (TyB.ne (q.vt a ha) (own_ty hrow (by rw [hvc, e]; rfl))) (by decide)
  obtain ⟨q, e1, e2, e3, e4, mo, -⟩ := mq'.mo
  have cs1 : CsR V' (w.heap.size + 1) V'.heap.size (some ⟨g, 0, none⟩) (r0 :: rest) := by
   refine .inr ⟨g, 0, rfl, hgz.1, by omega, fun i x hx => ?_⟩
   cases i with
   | zero =>
    simp at hx
    subst hx
    refine ⟨a, c', by rw [← hV']; exact World.cell?_setCell_same _ _ _ hc0, ha.elim .inl (fun ha => .inr ⟨gs, 5, ha, (World.ownsRow.lt ho0 gs rfl).1, by rw [sz]; exact (World.ownsRow.lt ho0 gs rfl).2, fun i hi => ?_⟩)⟩
    have hgs : gs ≠ g := fun e => ownType' ho0' hrow (by decide) rfl (by rw [hvc, e]; rfl)
    have e := fl5_at (x0 :: r0) (i + 1) (r0.getD i z5) (by rw [List.getElem?_cons_succ, List.getD_eq_getElem?_getD, List.getElem?_eq_getElem hi]; rfl)
    have q5 : ∀ j, j < 5 → V'.cell? ⟨gs, (i + 1) * 5 + j, none⟩ = ((fl5 (x0 :: r0)).map (Value.int .i64))[(i + 1) * 5 + j]? := fun j hj => by
     rw [World.cell?_of_block (w := V) (kb gs hgs)]
     exact World.ownsRow.cellAt ho0' _ (by simp; omega)
    have sh : 5 + i * 5 = (i + 1) * 5 := by omega
    rw [sh]
    obtain ⟨e0, e1, e2, e3, e4⟩ := e
    refine ⟨?_, ?_, ?_, ?_, ?_⟩
    ·have q := q5 0 (by omega)
     rw [Nat.add_zero, List.getElem?_map, e0] at q
     exact q
    ·rw [q5 1 (by omega), List.getElem?_map, e1]; rfl
    ·rw [q5 2 (by omega), List.getElem?_map, e2]; rfl
    ·rw [q5 3 (by omega), List.getElem?_map, e3]; rfl
    ·rw [q5 4 (by omega), List.getElem?_map, e4]; rfl
   | succ i =>
    obtain ⟨v, hc, ho⟩ := atC (i + 1) x (by simpa using hx)
    obtain ⟨su, cu, rfl⟩ := ownSl ho
    have ho' : OwnT5 V' (w.heap.size + 1) (.slice su x.length cu) x := ownKeep' ho (ne ho (by decide))
    obtain ⟨s2, c2, ev, vo⟩ := own_vo (n := x.length) (size := 5) (l := fl5 x) ho' (fl5_len x)
    injection ev with ev1 _ ev3
    subst ev1 ev3
    refine ⟨su, cu, ?_, vo.insR⟩
    rw [← hV']
    exact (World.cell?_setCell_other _ ⟨g, 0, none⟩ ⟨g, 0 + (i + 1), none⟩ _ (by simp)).trans (by rw [Nat.zero_add]; exact hc)
  have hszd := h.sz
  refine ⟨{ q with s1 := some ⟨g, 0, none⟩, c1 := cc }, { d with codes := r0 :: rest }, ?_⟩
  rw [hV']
  have hx : X4 V' bx vc vk vm vt := by rw [← hV']; exact h.x.off (Ne.symm hne)
  refine ⟨?_, ⟨cs1, ?_, ?_, ?_⟩, ?_, (mach_k4 h.ok : d.cores.length ≤ 4), by rw [← hV']; exact h.cb.set (a := ⟨g, 0, none⟩) (by show p < g; omega), by rw [← hV']; exact but_at h.bt (by omega), by rw [← hV']; exact h.r.off (by omega), hpw, hwb⟩
  ·have e1' : vc = .slice (some ⟨g, 0, none⟩) (r0 :: rest).length cc := hvc
   rw [e1', e2, e3, e4] at hx
   exact hx
  ·exact mo.ma.2.1
  ·exact mo.ma.2.2.1
  ·exact mo.ma.2.2.2
  ·show MaSz { d with codes := r0 :: rest } ≤ 21000
   unfold MaSz at hszd ⊢
   rw [ed] at hszd
   simp only [szC, List.length_cons] at hszd ⊢
   omega
theorem Cd8.up {w V V' : World} {p n c bx g cc gs cs : Nat} {s : Option Addr} {vc vk vm vt : Value} {LC : List CV} {LK : List KV} {S : List RS} {d : MD} {x0 : I5} {r0 : List I5} {rest : List (List I5)} (h : Cd8 w V p s n c bx vc vk vm vt d g cc gs cs x0 r0 rest) (l : LM w V' p s n c bx vc vk vm vt LC LK S d) (hb : But p V V') : Cd8 w V' p s n c bx vc vk vm vt d g cc gs cs x0 r0 rest := by
 obtain ⟨g', cc', gs', cs', x0', r0', rest', h'⟩ := l.cod
 have ed := h.e.symm.trans h'.e
 injection ed with ed1 ed2
 injection ed1 with ed0 ed1
 subst ed0 ed1 ed2
 have ec := h.ec.symm.trans h'.ec
 injection ec with ec _ ec2
 injection ec with ec
 injection ec with ec
 subst ec ec2
 have hpw := l.pw
 have hlo := h.lo
 have c0 := (hb.cell (p := ⟨g, 0, none⟩) h.z (by show g ≠ p; omega)).trans h.c0
 rw [h'.c0] at c0
 injection c0 with c0
 injection c0 with c0 _ c1
 injection c0 with c0
 injection c0 with c0
 subst c0 c1
 exact h'
/- a note more -/
theorem LM.trc {w V V' : World} {p n c bx g cap : Nat} {s : Option Addr} {vc vk vm vt : Value} {LC : List CV} {LK : List KV} {S : List RS} {d : MD} (h : LM w V p s n c bx vc vk vm vt LC LK S d) (nt : ND) (ho : V'.ownsRow (w.heap.size + 1) 78 2 (.slice (some ⟨g, 0, none⟩) (d.tr.length + 1) cap) (d.tr.length + 1) (flatN d.tr ++ [.int .i64 nt.who, .int .i64 nt.v])) (hb : ∀ b, b < V.heap.size → vt.ownBlock ≠ some b → V'.heap[b]? = V.heap[b]?) (hs : V.heap.size ≤ V'.heap.size) (hcb : CB V' p s n c) (hbt : But p w V') : ∃ q d', EM w (V'.setCell ⟨bx, 3, none⟩ (.slice (some ⟨g, 0, none⟩) (d.tr.length + 1) cap)) p s n c bx q d' := by
 have hpw := h.pw
 have hwb := h.wb
 have hsz := h.sz
 have hk4 := mach_k4 h.ok
 have hbz := h.x.x.z
 have hbx : vt.ownBlock ≠ some bx := own_bx h.mq.t (by decide) h.ty
 have ty' : BxT V' bx := h.ty.same (hb bx hbz hbx)
 have mq' := (h.mq.note nt ho hb hs).offB (j := 3) (u := .slice (some ⟨g, 0, none⟩) (d.tr.length + 1) cap) ty'
 have x' := (h.x.blk (hb bx hbz hbx) hs).set3 (u := .slice (some ⟨g, 0, none⟩) (d.tr.length + 1) cap)
 have e : ∀ q, vt.ownBlock = some q → w.heap.size + 1 ≤ q := fun q hq => (World.ownsRow.lt h.mq.t q hq).1
 have r := em_of x' mq' ?_ hk4 (hcb.set (a := ⟨bx, 3, none⟩) (by show p < bx; omega)) (but_at hbt (by omega)) ((h.r.blk (hb _ (by omega) (fun e' => by have := e _ e'; omega)) hs).off (by omega)) hpw hwb
 ·obtain ⟨q, hq⟩ := r
  exact ⟨q, _, hq⟩
 show d.codes.length + szC d.codes + (d.cores.length + szK d.cores) + (d.mem.length + szR d.mem) + (d.tr ++ [nt]).length ≤ 21000
 unfold MaSz at hsz
 rw [List.length_append, List.length_singleton]
 omega
end
end Go.Proofs.Ytepfpbcjklaenaa
