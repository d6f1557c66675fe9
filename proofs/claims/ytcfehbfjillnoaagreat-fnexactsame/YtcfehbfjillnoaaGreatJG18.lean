/- Rows of sources that are made and written: what stores make of them, and how the laws copy a list of integers. Conditions: each list of at most 1048576. How the laws copy threads, channels, notes and sources into new memory. Conditions: each list of at most 1048576. How the laws copy notes and sources into new memory. Conditions: each list of at most 1048576. How great sources are counted. No condition but the lists' own bounds. -/
import Derived.Test.YtcfehbfjillnoaaGreatJG00
import Derived.Test.YtcfehbfjillnoaaGreatJG04
import Derived.Test.YtcfehbfjillnoaaGreatJG06
import Derived.Test.YtcfehbfjillnoaaGreatJG05
namespace Go.Proofs.YtcfehbfjillnoaaGreat
section
set_option linter.unusedSimpArgs false
set_option linter.unusedVariables false
set_option maxRecDepth 100000
open Go.RowKit
/- a store of three cells -/
def set3 (w : World) (g o : Nat) (a b c : Value) : World := ((w.setCell ⟨g, o, none⟩ a).setCell ⟨g, o + 1, none⟩ b).setCell ⟨g, o + 2, none⟩ c
theorem set3_below {B g o : Nat} {w w' : World} {a b c : Value} (h : Below B w w') (hg : B ≤ g) : Below B w (set3 w' g o a b c) := ((h.setCell (p := ⟨g, o, none⟩) hg _).setCell (p := ⟨g, o + 1, none⟩) hg _).setCell (p := ⟨g, o + 2, none⟩) hg _
theorem set3_size {g o : Nat} {w : World} {a b c : Value} : (set3 w g o a b c).heap.size = w.heap.size := by simp [set3]
theorem set3_block {g o k : Nat} {w : World} {a b c : Value} (h : k ≠ g) : (set3 w g o a b c).heap[k]? = w.heap[k]? := by
 unfold set3
 rw [Below.heap_setCell _ _ _ k h, Below.heap_setCell _ _ _ k h, Below.heap_setCell _ _ _ k h]
theorem flatR_put (A B : List (Rec × Value)) (x y : Rec × Value) : (((flatR (A ++ x :: B)).set (A.length * 3) y.1.a).set (A.length * 3 + 1) y.2).set (A.length * 3 + 2) y.1.z = flatR (A ++ y :: B) := by
 have hl : A.length * 3 = (flatR A).length := (flatR_len A).symm
 rw [flatR_app, flatR_app, hl]
 have e0 := setApp (flatR (x :: B)) 0 y.1.a (flatR A)
 rw [Nat.add_zero] at e0
 rw [e0, setApp, setApp]
 rfl
theorem put_at {α : Type} (A B : List α) (x y : α) (i : Nat) (h : i ≠ A.length) : (A ++ y :: B)[i]? = (A ++ x :: B)[i]? := by
 rcases Nat.lt_or_ge i A.length with g | g
 ·rw [List.getElem?_append_left g, List.getElem?_append_left g]
 ·rw [List.getElem?_append_right g, List.getElem?_append_right g]
  obtain ⟨m, hm⟩ : ∃ m, i - A.length = m + 1 := ⟨i - A.length - 1, by omega⟩
  rw [hm]
  rfl
theorem put_mid {α : Type} (A B : List α) (y : α) : (A ++ y :: B)[A.length]? = some y := by rw [List.getElem?_append_right (Nat.le_refl _)]; simp
theorem OwnQ.put {w : World} {base G cap n : Nat} {e : TypeId} {A B : List (Rec × Value)} {x : Rec × Value} (y : Rec × Value) (he : 3 ≠ e) (hn : (A ++ x :: B).length = n) (h : OwnQ w base e (.slice (some ⟨G, 0, none⟩) n cap) (A ++ x :: B)) (ho : OwnN w base y.2 y.1.l)
  (hs : ∀ (i : Nat) (z : Rec × Value) (k : Nat), i ≠ A.length → (A ++ x :: B)[i]? = some z → y.2.ownBlock = some k → z.2.ownBlock ≠ some k) : OwnQ (set3 w G (A.length * 3) y.1.a y.2 y.1.z) base e (.slice (some ⟨G, 0, none⟩) n cap) (A ++ y :: B) := by
 have hn' : (A ++ y :: B).length = n := by rw [← hn]; simp
 have hr := h.row
 rw [hn] at hr
 have p3 := (World.ownsRow.stored (World.ownsRow.stored (World.ownsRow.stored hr (A.length * 3) y.1.a).1 (A.length * 3 + 1) y.2).1 (A.length * 3 + 2) y.1.z).1
 rw [flatR_put] at p3
 have hblk : ∀ {v : Value} {l : List Int}, OwnN w base v l → ∀ k, v.ownBlock = some k → (set3 w G (A.length * 3) y.1.a y.2 y.1.z).heap[k]? = w.heap[k]? := fun hv k hk => set3_block (fun e' => ownType' hv hr he hk (by rw [e']; rfl))
 refine ⟨by rw [hn']; exact p3, fun i z hz => ?_, fun i j z z' k hz hz' hne => ?_⟩
 ·by_cases ei : i = A.length
  ·subst ei
   rw [put_mid] at hz
   injection hz with hz
   subst hz
   exact ownKeep' ho (hblk ho)
  ·rw [put_at A B x y i ei] at hz
   exact ownKeep' (h.inn i z hz) (hblk (h.inn i z hz))
 ·by_cases ei : i = A.length <;> by_cases ej : j = A.length
  ·omega
  ·subst ei
   rw [put_mid] at hz
   injection hz with hz
   subst hz
   rw [put_at A B x _ j ej] at hz'
   exact hs j z' k ej hz'
  ·subst ej
   rw [put_mid] at hz'
   injection hz' with hz'
   subst hz'
   rw [put_at A B x _ i ei] at hz
   intro a b
   exact hs i z k ei hz b a
  ·rw [put_at A B x y i ei] at hz
   rw [put_at A B x y j ej] at hz'
   exact h.sep i j z z' k hz hz' hne
def zqT : Rec × Value := (⟨.int .i64 0, [], .int .i64 0⟩, .slice none 0 0)
def zqC : Rec × Value := (⟨.int .i64 0, [], .bool false⟩, .slice none 0 0)
theorem flatR_rep (x : Rec × Value) : ∀ n, flatR (List.replicate n x) = (madeCells #[x.1.a, x.2, x.1.z] (n * 3)).toList := by
 intro n
 apply List.ext_getElem?
 intro j
 by_cases hj : j < n * 3
 ·have h1 : (List.replicate n x)[j / 3]? = some x := by rw [List.getElem?_replicate, if_pos (by omega)]
  obtain ⟨e0, e1, e2⟩ := flatR_at _ _ _ h1
  have hm : (madeCells #[x.1.a, x.2, x.1.z] (n * 3)).toList[j]? = #[x.1.a, x.2, x.1.z][j % 3]? := by
   have h3 : j % 3 < 3 := Nat.mod_lt _ (by omega)
   simp [madeCells, hj, h3]
  rw [hm]
  rcases (show j % 3 = 0 ∨ j % 3 = 1 ∨ j % 3 = 2 by omega) with h | h | h
  ·rw [show j = j / 3 * 3 by omega, e0, show j / 3 * 3 % 3 = 0 by omega]; rfl
  ·rw [show j = j / 3 * 3 + 1 by omega, e1, show (j / 3 * 3 + 1) % 3 = 1 by omega]; rfl
  ·rw [show j = j / 3 * 3 + 2 by omega, e2, show (j / 3 * 3 + 2) % 3 = 2 by omega]; rfl
 ·rw [List.getElem?_eq_none (by rw [flatR_len]; simp; omega), List.getElem?_eq_none (by rw [Array.length_toList, size_madeCells]; omega)]
theorem OwnQ.made (w : World) (e : TypeId) (x : Rec × Value) (hx : x.2 = .slice none 0 0) (hl : x.1.l = []) (n : Nat) (hn : n ≤ 1048576) : OwnQ (w.alloc (.cells (madeCells #[x.1.a, x.2, x.1.z] (n * 3)) e)) w.heap.size e (.slice (some ⟨w.heap.size, 0, none⟩) n n) (List.replicate n x) := by
 have h0 := World.ownsRow_lit (base := w.heap.size) (e := e) (size := 3) w (madeCells #[x.1.a, x.2, x.1.z] (n * 3)) n (Nat.le_refl _) (by unfold maxLen; omega) (size_madeCells _ _)
 rw [← flatR_rep] at h0
 refine ⟨by rw [List.length_replicate]; exact h0, fun i y hy => ?_, fun i j y z k hy hz => ?_⟩
 ·rw [List.getElem?_replicate] at hy
  split at hy
  ·injection hy with hy
   subst hy
   rw [hx, hl]
   exact World.ownsRow_nil _ _ _ _
  ·cases hy
 ·rw [List.getElem?_replicate] at hy
  split at hy
  ·injection hy with hy
   subst hy
   intro _ hk
   rw [hx] at hk
   cases hk
  ·cases hy
/- rows of two calls, one behind the other, have blocks apart -/
theorem sepQ {w w1 : World} {base base' : Nat} {e e' : TypeId} {v v' : Value} {L L' : List (Rec × Value)} (h : OwnQ w base e v L) (h' : OwnQ w1 base' e' v' L') (hb : w.heap.size ≤ base') : ∀ (i j : Nat) (x y : Rec × Value) (k : Nat), L[i]? = some x → L'[j]? = some y → x.2.ownBlock = some k → y.2.ownBlock ≠ some k := by
 intro i j x y k hx hy hk hk'
 have h1 := (World.ownsRow.lt (h.inn i x hx) _ hk).2
 have h2 := (World.ownsRow.lt (h'.inn j y hy) _ hk').1
 omega
end
section
set_option linter.unusedSimpArgs false
set_option linter.unusedVariables false
set_option maxRecDepth 100000
open Go.RowKit
set_option maxHeartbeats 1000000 in
theorem toThread_own (pc : Int) (st : Int) (s : Option Addr) (c lo hi : Nat) (l : List Int) (w : World) (h : IntsR w lo hi s l) (hB : hi ≤ w.heap.size) (hl : l.length ≤ 1048576) :
  Calls Tryz.prog 73 #[.agg #[.int .i64 pc, .slice s l.length c, .int .i64 st]] w fun e w' => ∃ g, e = .returned (.agg #[.int .i64 pc, .slice (some ⟨g, 0, none⟩) l.length l.length, .int .i64 st]) ∧ OwnN w' w.heap.size (.slice (some ⟨g, 0, none⟩) l.length l.length) l ∧ Below w.heap.size w w' ∧ w.heap.size < w'.heap.size ∧ w.heap.size ≤ g := by
 have HR : Hid (IntsR w lo hi s l) := h
 clear h
 go_enter Tryz.func73, Tryz.ntmps73
 go_wp2_with fail
 refine (toIntS_own s c lo hi l _ (HR.out.keep (Keep.of_below ((((Below.refl w.heap.size w).alloc (Nat.le_refl _) _).alloc (by simp) _).alloc (by simp; omega) _) hB)) (by simp; omega) hl).mono ?_
 rintro e w1 ⟨rfl, ho1, hb1, hz1⟩
 have z3 : w.heap.size + 3 < w1.heap.size := by simp at hz1; omega
 have z0 : w.heap.size < w1.heap.size := by omega
 have z1 : w.heap.size + 1 < w1.heap.size := by omega
 have z2 : w.heap.size + 1 + 1 < w1.heap.size := by omega
 have a2 : w1.cell? ⟨w.heap.size, 2, none⟩ = some (.int .i64 st) := by rw [hb1.cell (by simp; omega)]; simp [go_sem]
 have d0 : w1.cell? ⟨w.heap.size + 1, 0, none⟩ = some (.int .i64 0) := by rw [hb1.cell (by simp)]; simp [go_sem]
 have d1 : w1.cell? ⟨w.heap.size + 1, 1, none⟩ = some (.slice none 0 0) := by rw [hb1.cell (by simp)]; simp [go_sem]
 have d2 : w1.cell? ⟨w.heap.size + 1, 2, none⟩ = some (.int .i64 0) := by rw [hb1.cell (by simp)]; simp [go_sem]
 have e0 : w1.cell? ⟨w.heap.size + 1 + 1, 0, none⟩ = some (.int .i64 pc) := by rw [hb1.cell (by simp)]; simp [go_sem]
 have e1 : w1.cell? ⟨w.heap.size + 1 + 1, 1, none⟩ = some (.slice none 0 0) := by rw [hb1.cell (by simp)]; simp [go_sem]
 have e2 : w1.cell? ⟨w.heap.size + 1 + 1, 2, none⟩ = some (.int .i64 0) := by rw [hb1.cell (by simp)]; simp [go_sem]
 have y0 : ∀ j, w1.frozen? ⟨w.heap.size + 1, j, none⟩ = false := fun j => by rw [hb1.frozen (by simp)]; simp [go_sem]
 have y1 : ∀ j, w1.frozen? ⟨w.heap.size + 1 + 1, j, none⟩ = false := fun j => by rw [hb1.frozen (by simp)]; simp [go_sem]
 have k1 : Below w.heap.size w w1 := ((((Below.refl _ w).alloc (Nat.le_refl _) _).alloc (by simp) _).alloc (by simp; omega) _).trans (hb1.mono (by simp; omega))
 obtain ⟨G, hG, hGb⟩ : ∃ G, G = w.heap.size + 1 + 1 + 1 ∧ w.heap.size + 3 ≤ G := ⟨_, rfl, Nat.le_refl _⟩
 have HI : Hid (OwnN w1 w.heap.size (.slice (some ⟨G, 0, none⟩) l.length l.length) l) := by
  have h := ho1
  simp at h
  rw [hG]
  exact ownLow' h (by omega)
 have e3 : (((w.alloc (.cells #[.int .i64 pc, .slice s l.length c, .int .i64 st] 104)).alloc (.cells #[.int .i64 0, .slice none 0 0, .int .i64 0] 116)).alloc (.cells #[.int .i64 pc, .slice none 0 0, .int .i64 0] 116)).heap.size = G := by simp [hG]
 first | rw [e3] | (simp only [World.size_alloc]; rw [← hG]) | skip
 clear hb1 ho1 hz1 hG e3
 go_wp2
 have fin : ∀ k, w.heap.size + 3 ≤ k → (((((w1.setCell ⟨w.heap.size + 1 + 1, 1, none⟩ (.slice (some ⟨G, 0, none⟩) l.length l.length)).setCell ⟨w.heap.size + 1 + 1, 2, none⟩ (.int .i64 st)).setCell ⟨w.heap.size + 1, 0, none⟩ (.int .i64 pc)).setCell ⟨w.heap.size + 1, 1, none⟩ (.slice (some ⟨G, 0, none⟩) l.length l.length)).setCell ⟨w.heap.size + 1, 2, none⟩ (.int .i64 st)).heap[k]? = w1.heap[k]? := fun k hk => by
  rw [Below.heap_setCell _ _ _ k (by simp; omega), Below.heap_setCell _ _ _ k (by simp; omega), Below.heap_setCell _ _ _ k (by simp; omega), Below.heap_setCell _ _ _ k (by simp; omega), Below.heap_setCell _ _ _ k (by simp; omega)]
 refine bodyPost_ret (v := .agg #[.int .i64 pc, .slice (some ⟨G, 0, none⟩) l.length l.length, .int .i64 st]) (by simp [results, Tryz.results73, go_sem, d0, d1, d2]) rfl ⟨G, rfl, ?_, ?_, by simp; omega, by omega⟩
 ·exact ownKeep' HI.out (fun k hk => fin k (by have hk2 : some G = some k := hk; injection hk2 with hk2; omega))
 ·exact (((((k1.setCell (p := ⟨w.heap.size + 1 + 1, 1, none⟩) (by simp; omega) _).setCell (p := ⟨w.heap.size + 1 + 1, 2, none⟩) (by simp; omega) _).setCell (p := ⟨w.heap.size + 1, 0, none⟩) (by simp) _).setCell (p := ⟨w.heap.size + 1, 1, none⟩) (by simp) _).setCell (p := ⟨w.heap.size + 1, 2, none⟩) (by simp) _)
theorem mkT (n : Nat) (hn : n ≤ 1048576) (w : World) : (Instr.makeSlice 55 (.int .i64 (n : Int)) (.int .i64 (n : Int))).run Tryz.prog w = .ok (.slice (some ⟨w.heap.size, 0, none⟩) n n) (w.alloc (.cells (madeCells #[.int .i64 0, .slice none 0 0, .int .i64 0] (n * 3)) 116)) := by
 have h := run_make (P := Tryz.prog) w 55 116 _ (.agg #[.int .i64 0, .slice none 0 0, .int .i64 0]) Tryz.underlying55 rfl rfl .i64 .i64 n n (by omega) (Int.le_refl _) (by show (40 : Int) * _ ≤ _; omega) (by omega)
 have e : (Value.agg #[.int .i64 0, .slice none 0 0, .int .i64 0]).cells = #[.int .i64 0, .slice none 0 0, .int .i64 0] := rfl
 have e' : ∀ t, Tryz.prog.info? 116 = some t → t.size = 3 := by intro t h; cases h; rfl
 rw [e, e' _ rfl] at h
 simpa using h
set_option maxHeartbeats 1000000 in
theorem toThreadS_own (s : Option Addr) (c lo hi : Nat) (l : List TD) (w : World) (h : RecsR w lo hi s (l.map TD.rec3)) (hB : hi ≤ w.heap.size) (hl : l.length ≤ 1048576) (hls : ∀ (i : Nat) (t : TD), l[i]? = some t → t.regs.length ≤ 1048576) :
  Calls Tryz.prog 35 #[.slice s l.length c] w fun e w' => ∃ L, e = .returned (.slice (some ⟨w.heap.size, 0, none⟩) l.length l.length) ∧ L.map Prod.fst = l.map TD.rec3 ∧ OwnQ w' w.heap.size 116 (.slice (some ⟨w.heap.size, 0, none⟩) l.length l.length) L ∧ Below w.heap.size w w' ∧ w.heap.size < w'.heap.size := by
 have hmk := mkT l.length hl
 have HC : Hid (RecsR w lo hi s (l.map TD.rec3)) := h
 have HLS : Hid (∀ (i : Nat) (t : TD), l[i]? = some t → t.regs.length ≤ 1048576) := hls
 clear h hls
 go_enter Tryz.func35, Tryz.ntmps35
 go_wp2
 clear hmk
 go_loopw [4] (fun i wr => ∃ k : Nat, k ≤ l.length ∧ i = .int .i64 k ∧ Below w.heap.size w wr ∧ w.heap.size < wr.heap.size ∧ ∃ L, L.length = k ∧ L.map Prod.fst = (l.take k).map TD.rec3 ∧ OwnQ wr w.heap.size 116 (.slice (some ⟨w.heap.size, 0, none⟩) l.length l.length) (L ++ List.replicate (l.length - k) zqT)) (fun i _ => l.length - (intOf i).toNat)
 case atStart =>
  exact ⟨0, Nat.zero_le _, rfl, (Below.refl _ _).alloc (Nat.le_refl _) _, by simp, [], rfl, rfl, OwnQ.made w 116 zqT rfl rfl l.length hl⟩
 case round =>
  obtain ⟨k, hk, rfl, hb, hsz, L, hL, hm, ho⟩ := hrel
  have HB : Hid (Below w.heap.size w wr) := hb
  have HM : Hid (L.map Prod.fst = (l.take k).map TD.rec3) := hm
  have HLn : Hid (L.length = k) := hL
  have HO : Hid (OwnQ wr w.heap.size 116 (.slice (some ⟨w.heap.size, 0, none⟩) l.length l.length) (L ++ List.replicate (l.length - k) zqT)) := ho
  clear hb ho hm hL
  by_cases hlt : k < l.length
  ·obtain ⟨t, ht⟩ : ∃ t, l[k]? = some t := ⟨_, List.getElem?_eq_getElem hlt⟩
   obtain ⟨g, off, hs, hg, hc⟩ : ∃ g off, s = some ⟨g, off, none⟩ ∧ g < w.heap.size ∧ RecR wr lo hi g (off + k * 3) t.rec3 := by
    rcases HC.out with h | ⟨g, off, a, b, d, e⟩
    ·have : l = [] := by simpa using h
     rw [this] at hlt; simp at hlt
    ·exact ⟨g, off, a, by omega, (e k t.rec3 (by rw [List.getElem?_map, ht]; rfl)).keep (Keep.of_below HB.out hB) (fun j => HB.out.cell (p := ⟨g, j, none⟩) (by show g < _; omega))⟩
   subst hs
   have hlen := HLS.out k t ht
   have HT : Hid (l[k]? = some t) := ht
   obtain ⟨s1, c1, f0, f1, f2, hin⟩ := hc
   obtain ⟨pc, rg, st⟩ := t
   simp only [TD.rec3] at f0 f1 f2 hin hlen
   have HIN : Hid (IntsR wr lo hi s1 rg) := hin
   clear ht hin
   have b0 : (0 : Int) ≤ (k : Int) := by omega
   have b1 : (k : Int) < (l.length : Int) := by omega
   have hs0 := HB.out.size
   go_wp2_with fail
   refine (toThread_own pc st s1 c1 lo hi rg wr HIN.out (by omega) hlen).mono ?_
   rintro e w1 ⟨G, rfl, ho1, hb1, hz1, hG⟩
   have HB1 : Hid (Below wr.heap.size wr w1) := hb1
   have HO1 : Hid (OwnN w1 wr.heap.size (.slice (some ⟨G, 0, none⟩) rg.length rg.length) rg) := ho1
   have HG : Hid (wr.heap.size ≤ G) := hG
   have HQ : Hid (OwnQ w1 w.heap.size 116 (.slice (some ⟨w.heap.size, 0, none⟩) l.length l.length) (L ++ List.replicate (l.length - k) zqT)) := HO.out.below hb1
   clear hb1 ho1 hG f0 f1 f2
   have hlr : (L ++ List.replicate (l.length - k) zqT).length = l.length := by simp [HLn.out]; omega
   have hrow := HQ.out.row
   rw [hlr] at hrow
   have cc : ∀ j, j < 3 → ∃ u, w1.cell? ⟨w.heap.size, k * 3 + j, none⟩ = some u := fun j hj => by
    rw [World.ownsRow.cellAt hrow (k * 3 + j) (by omega)]
    exact ⟨_, List.getElem?_eq_getElem (by rw [flatR_len, hlr]; omega)⟩
   have hfz : ∀ j, w1.frozen? ⟨w.heap.size, j, none⟩ = false := fun j => World.ownsRow.frozenAt hrow j
   obtain ⟨u0, g0⟩ := cc 0 (by omega)
   obtain ⟨u1, g1⟩ := cc 1 (by omega)
   obtain ⟨u2, g2⟩ := cc 2 (by omega)
   rw [Nat.add_zero] at g0
   clear cc hrow hlr
   go_wp2
   go_roundw
   case rel =>
    have hs1 := HB1.out.size
    show ∃ k' : Nat, _ ∧ _ ∧ Below w.heap.size w (set3 w1 w.heap.size (k * 3) (.int .i64 pc) (.slice (some ⟨G, 0, none⟩) rg.length rg.length) (.int .i64 st)) ∧ _ < (set3 w1 w.heap.size (k * 3) (.int .i64 pc) (.slice (some ⟨G, 0, none⟩) rg.length rg.length) (.int .i64 st)).heap.size ∧ ∃ L', _ ∧ _ ∧ OwnQ (set3 w1 w.heap.size (k * 3) (.int .i64 pc) (.slice (some ⟨G, 0, none⟩) rg.length rg.length) (.int .i64 st)) _ _ _ _
    refine ⟨k + 1, by omega, by go_num, set3_below (HB.out.trans (HB1.out.mono (by omega))) (Nat.le_refl _), by rw [set3_size]; omega, L ++ [(⟨.int .i64 pc, rg, .int .i64 st⟩, .slice (some ⟨G, 0, none⟩) rg.length rg.length)], by simp [HLn.out], ?_, ?_⟩
    ·rw [List.take_add_one, HT.out, List.map_append, List.map_append, HM.out]
     rfl
    ·have e3 : l.length - k = (l.length - (k + 1)) + 1 := by omega
     have hq := HQ.out
     rw [e3, List.replicate_succ] at hq
     have hp := OwnQ.put (A := L) (B := List.replicate (l.length - (k + 1)) zqT) (x := zqT) (⟨.int .i64 pc, rg, .int .i64 st⟩, .slice (some ⟨G, 0, none⟩) rg.length rg.length) (by decide) (by simp [HLn.out]; omega) hq (ownLow' HO1.out (by omega)) (fun i z kk hi hz hk hk' => by
      injection hk with hk
      subst hk
      have h1 := HO.out.inn i z (by rw [e3, List.replicate_succ]; exact hz)
      have h2 := (World.ownsRow.lt h1 _ hk').2
      have h3 := HG.out
      simp at h2
      omega)
     rw [HLn.out] at hp
     rw [List.append_assoc]
     exact hp
   case measure => simp [intOf]; omega
  ·go_wp2
   go_ret
   have : k = l.length := by omega
   subst this
   have h1 := HO.out
   have h2 := HM.out
   simp only [Nat.sub_self, List.replicate_zero, List.append_nil] at h1
   rw [List.take_length] at h2
   exact ⟨L, rfl, h2, h1, HB.out, hsz⟩
set_option maxHeartbeats 1000000 in
theorem toChan_own (pc : Int) (st : Bool) (s : Option Addr) (c lo hi : Nat) (l : List Int) (w : World) (h : IntsR w lo hi s l) (hB : hi ≤ w.heap.size) (hl : l.length ≤ 1048576) :
  Calls Tryz.prog 74 #[.agg #[.int .i64 pc, .slice s l.length c, .bool st]] w fun e w' => ∃ g, e = .returned (.agg #[.int .i64 pc, .slice (some ⟨g, 0, none⟩) l.length l.length, .bool st]) ∧ OwnN w' w.heap.size (.slice (some ⟨g, 0, none⟩) l.length l.length) l ∧ Below w.heap.size w w' ∧ w.heap.size < w'.heap.size ∧ w.heap.size ≤ g := by
 have HR : Hid (IntsR w lo hi s l) := h
 clear h
 go_enter Tryz.func74, Tryz.ntmps74
 go_wp2_with fail
 refine (toIntS_own s c lo hi l _ (HR.out.keep (Keep.of_below ((((Below.refl w.heap.size w).alloc (Nat.le_refl _) _).alloc (by simp) _).alloc (by simp; omega) _) hB)) (by simp; omega) hl).mono ?_
 rintro e w1 ⟨rfl, ho1, hb1, hz1⟩
 have z3 : w.heap.size + 3 < w1.heap.size := by simp at hz1; omega
 have z0 : w.heap.size < w1.heap.size := by omega
 have z1 : w.heap.size + 1 < w1.heap.size := by omega
 have z2 : w.heap.size + 1 + 1 < w1.heap.size := by omega
 have a2 : w1.cell? ⟨w.heap.size, 2, none⟩ = some (.bool st) := by rw [hb1.cell (by simp; omega)]; simp [go_sem]
 have d0 : w1.cell? ⟨w.heap.size + 1, 0, none⟩ = some (.int .i64 0) := by rw [hb1.cell (by simp)]; simp [go_sem]
 have d1 : w1.cell? ⟨w.heap.size + 1, 1, none⟩ = some (.slice none 0 0) := by rw [hb1.cell (by simp)]; simp [go_sem]
 have d2 : w1.cell? ⟨w.heap.size + 1, 2, none⟩ = some (.bool false) := by rw [hb1.cell (by simp)]; simp [go_sem]
 have e0 : w1.cell? ⟨w.heap.size + 1 + 1, 0, none⟩ = some (.int .i64 pc) := by rw [hb1.cell (by simp)]; simp [go_sem]
 have e1 : w1.cell? ⟨w.heap.size + 1 + 1, 1, none⟩ = some (.slice none 0 0) := by rw [hb1.cell (by simp)]; simp [go_sem]
 have e2 : w1.cell? ⟨w.heap.size + 1 + 1, 2, none⟩ = some (.bool false) := by rw [hb1.cell (by simp)]; simp [go_sem]
 have y0 : ∀ j, w1.frozen? ⟨w.heap.size + 1, j, none⟩ = false := fun j => by rw [hb1.frozen (by simp)]; simp [go_sem]
 have y1 : ∀ j, w1.frozen? ⟨w.heap.size + 1 + 1, j, none⟩ = false := fun j => by rw [hb1.frozen (by simp)]; simp [go_sem]
 have k1 : Below w.heap.size w w1 := ((((Below.refl _ w).alloc (Nat.le_refl _) _).alloc (by simp) _).alloc (by simp; omega) _).trans (hb1.mono (by simp; omega))
 obtain ⟨G, hG, hGb⟩ : ∃ G, G = w.heap.size + 1 + 1 + 1 ∧ w.heap.size + 3 ≤ G := ⟨_, rfl, Nat.le_refl _⟩
 have HI : Hid (OwnN w1 w.heap.size (.slice (some ⟨G, 0, none⟩) l.length l.length) l) := by
  have h := ho1
  simp at h
  rw [hG]
  exact ownLow' h (by omega)
 have e3 : (((w.alloc (.cells #[.int .i64 pc, .slice s l.length c, .bool st] 107)).alloc (.cells #[.int .i64 0, .slice none 0 0, .bool false] 118)).alloc (.cells #[.int .i64 pc, .slice none 0 0, .bool false] 118)).heap.size = G := by simp [hG]
 first | rw [e3] | (simp only [World.size_alloc]; rw [← hG]) | skip
 clear hb1 ho1 hz1 hG e3
 go_wp2
 have fin : ∀ k, w.heap.size + 3 ≤ k → (((((w1.setCell ⟨w.heap.size + 1 + 1, 1, none⟩ (.slice (some ⟨G, 0, none⟩) l.length l.length)).setCell ⟨w.heap.size + 1 + 1, 2, none⟩ (.bool st)).setCell ⟨w.heap.size + 1, 0, none⟩ (.int .i64 pc)).setCell ⟨w.heap.size + 1, 1, none⟩ (.slice (some ⟨G, 0, none⟩) l.length l.length)).setCell ⟨w.heap.size + 1, 2, none⟩ (.bool st)).heap[k]? = w1.heap[k]? := fun k hk => by
  rw [Below.heap_setCell _ _ _ k (by simp; omega), Below.heap_setCell _ _ _ k (by simp; omega), Below.heap_setCell _ _ _ k (by simp; omega), Below.heap_setCell _ _ _ k (by simp; omega), Below.heap_setCell _ _ _ k (by simp; omega)]
 refine bodyPost_ret (v := .agg #[.int .i64 pc, .slice (some ⟨G, 0, none⟩) l.length l.length, .bool st]) (by simp [results, Tryz.results74, go_sem, d0, d1, d2]) rfl ⟨G, rfl, ?_, ?_, by simp; omega, by omega⟩
 ·exact ownKeep' HI.out (fun k hk => fin k (by have hk2 : some G = some k := hk; injection hk2 with hk2; omega))
 ·exact (((((k1.setCell (p := ⟨w.heap.size + 1 + 1, 1, none⟩) (by simp; omega) _).setCell (p := ⟨w.heap.size + 1 + 1, 2, none⟩) (by simp; omega) _).setCell (p := ⟨w.heap.size + 1, 0, none⟩) (by simp) _).setCell (p := ⟨w.heap.size + 1, 1, none⟩) (by simp) _).setCell (p := ⟨w.heap.size + 1, 2, none⟩) (by simp) _)
theorem mkC (n : Nat) (hn : n ≤ 1048576) (w : World) : (Instr.makeSlice 56 (.int .i64 (n : Int)) (.int .i64 (n : Int))).run Tryz.prog w = .ok (.slice (some ⟨w.heap.size, 0, none⟩) n n) (w.alloc (.cells (madeCells #[.int .i64 0, .slice none 0 0, .bool false] (n * 3)) 118)) := by
 have h := run_make (P := Tryz.prog) w 56 118 _ (.agg #[.int .i64 0, .slice none 0 0, .bool false]) Tryz.underlying56 rfl rfl .i64 .i64 n n (by omega) (Int.le_refl _) (by show (40 : Int) * _ ≤ _; omega) (by omega)
 have e : (Value.agg #[.int .i64 0, .slice none 0 0, .bool false]).cells = #[.int .i64 0, .slice none 0 0, .bool false] := rfl
 have e' : ∀ t, Tryz.prog.info? 118 = some t → t.size = 3 := by intro t h; cases h; rfl
 rw [e, e' _ rfl] at h
 simpa using h
set_option maxHeartbeats 1000000 in
theorem toChanS_own (s : Option Addr) (c lo hi : Nat) (l : List CD) (w : World) (h : RecsR w lo hi s (l.map CD.rec3)) (hB : hi ≤ w.heap.size) (hl : l.length ≤ 1048576) (hls : ∀ (i : Nat) (t : CD), l[i]? = some t → t.list.length ≤ 1048576) :
  Calls Tryz.prog 36 #[.slice s l.length c] w fun e w' => ∃ L, e = .returned (.slice (some ⟨w.heap.size, 0, none⟩) l.length l.length) ∧ L.map Prod.fst = l.map CD.rec3 ∧ OwnQ w' w.heap.size 118 (.slice (some ⟨w.heap.size, 0, none⟩) l.length l.length) L ∧ Below w.heap.size w w' ∧ w.heap.size < w'.heap.size := by
 have hmk := mkC l.length hl
 have HC : Hid (RecsR w lo hi s (l.map CD.rec3)) := h
 have HLS : Hid (∀ (i : Nat) (t : CD), l[i]? = some t → t.list.length ≤ 1048576) := hls
 clear h hls
 go_enter Tryz.func36, Tryz.ntmps36
 go_wp2
 clear hmk
 go_loopw [4] (fun i wr => ∃ k : Nat, k ≤ l.length ∧ i = .int .i64 k ∧ Below w.heap.size w wr ∧ w.heap.size < wr.heap.size ∧ ∃ L, L.length = k ∧ L.map Prod.fst = (l.take k).map CD.rec3 ∧ OwnQ wr w.heap.size 118 (.slice (some ⟨w.heap.size, 0, none⟩) l.length l.length) (L ++ List.replicate (l.length - k) zqC)) (fun i _ => l.length - (intOf i).toNat)
 case atStart =>
  exact ⟨0, Nat.zero_le _, rfl, (Below.refl _ _).alloc (Nat.le_refl _) _, by simp, [], rfl, rfl, OwnQ.made w 118 zqC rfl rfl l.length hl⟩
 case round =>
  obtain ⟨k, hk, rfl, hb, hsz, L, hL, hm, ho⟩ := hrel
  have HB : Hid (Below w.heap.size w wr) := hb
  have HM : Hid (L.map Prod.fst = (l.take k).map CD.rec3) := hm
  have HLn : Hid (L.length = k) := hL
  have HO : Hid (OwnQ wr w.heap.size 118 (.slice (some ⟨w.heap.size, 0, none⟩) l.length l.length) (L ++ List.replicate (l.length - k) zqC)) := ho
  clear hb ho hm hL
  by_cases hlt : k < l.length
  ·obtain ⟨t, ht⟩ : ∃ t, l[k]? = some t := ⟨_, List.getElem?_eq_getElem hlt⟩
   obtain ⟨g, off, hs, hg, hc⟩ : ∃ g off, s = some ⟨g, off, none⟩ ∧ g < w.heap.size ∧ RecR wr lo hi g (off + k * 3) t.rec3 := by
    rcases HC.out with h | ⟨g, off, a, b, d, e⟩
    ·have : l = [] := by simpa using h
     rw [this] at hlt; simp at hlt
    ·exact ⟨g, off, a, by omega, (e k t.rec3 (by rw [List.getElem?_map, ht]; rfl)).keep (Keep.of_below HB.out hB) (fun j => HB.out.cell (p := ⟨g, j, none⟩) (by show g < _; omega))⟩
   subst hs
   have hlen := HLS.out k t ht
   have HT : Hid (l[k]? = some t) := ht
   obtain ⟨s1, c1, f0, f1, f2, hin⟩ := hc
   obtain ⟨pc, rg, st⟩ := t
   simp only [CD.rec3] at f0 f1 f2 hin hlen
   have HIN : Hid (IntsR wr lo hi s1 rg) := hin
   clear ht hin
   have b0 : (0 : Int) ≤ (k : Int) := by omega
   have b1 : (k : Int) < (l.length : Int) := by omega
   have hs0 := HB.out.size
   go_wp2_with fail
   refine (toChan_own pc st s1 c1 lo hi rg wr HIN.out (by omega) hlen).mono ?_
   rintro e w1 ⟨G, rfl, ho1, hb1, hz1, hG⟩
   have HB1 : Hid (Below wr.heap.size wr w1) := hb1
   have HO1 : Hid (OwnN w1 wr.heap.size (.slice (some ⟨G, 0, none⟩) rg.length rg.length) rg) := ho1
   have HG : Hid (wr.heap.size ≤ G) := hG
   have HQ : Hid (OwnQ w1 w.heap.size 118 (.slice (some ⟨w.heap.size, 0, none⟩) l.length l.length) (L ++ List.replicate (l.length - k) zqC)) := HO.out.below hb1
   clear hb1 ho1 hG f0 f1 f2
   have hlr : (L ++ List.replicate (l.length - k) zqC).length = l.length := by simp [HLn.out]; omega
   have hrow := HQ.out.row
   rw [hlr] at hrow
   have cc : ∀ j, j < 3 → ∃ u, w1.cell? ⟨w.heap.size, k * 3 + j, none⟩ = some u := fun j hj => by
    rw [World.ownsRow.cellAt hrow (k * 3 + j) (by omega)]
    exact ⟨_, List.getElem?_eq_getElem (by rw [flatR_len, hlr]; omega)⟩
   have hfz : ∀ j, w1.frozen? ⟨w.heap.size, j, none⟩ = false := fun j => World.ownsRow.frozenAt hrow j
   obtain ⟨u0, g0⟩ := cc 0 (by omega)
   obtain ⟨u1, g1⟩ := cc 1 (by omega)
   obtain ⟨u2, g2⟩ := cc 2 (by omega)
   rw [Nat.add_zero] at g0
   clear cc hrow hlr
   go_wp2
   go_roundw
   case rel =>
    have hs1 := HB1.out.size
    show ∃ k' : Nat, _ ∧ _ ∧ Below w.heap.size w (set3 w1 w.heap.size (k * 3) (.int .i64 pc) (.slice (some ⟨G, 0, none⟩) rg.length rg.length) (.bool st)) ∧ _ < (set3 w1 w.heap.size (k * 3) (.int .i64 pc) (.slice (some ⟨G, 0, none⟩) rg.length rg.length) (.bool st)).heap.size ∧ ∃ L', _ ∧ _ ∧ OwnQ (set3 w1 w.heap.size (k * 3) (.int .i64 pc) (.slice (some ⟨G, 0, none⟩) rg.length rg.length) (.bool st)) _ _ _ _
    refine ⟨k + 1, by omega, by go_num, set3_below (HB.out.trans (HB1.out.mono (by omega))) (Nat.le_refl _), by rw [set3_size]; omega, L ++ [(⟨.int .i64 pc, rg, .bool st⟩, .slice (some ⟨G, 0, none⟩) rg.length rg.length)], by simp [HLn.out], ?_, ?_⟩
    ·rw [List.take_add_one, HT.out, List.map_append, List.map_append, HM.out]
     rfl
    ·have e3 : l.length - k = (l.length - (k + 1)) + 1 := by omega
     have hq := HQ.out
     rw [e3, List.replicate_succ] at hq
     have hp := OwnQ.put (A := L) (B := List.replicate (l.length - (k + 1)) zqC) (x := zqC) (⟨.int .i64 pc, rg, .bool st⟩, .slice (some ⟨G, 0, none⟩) rg.length rg.length) (by decide) (by simp [HLn.out]; omega) hq (ownLow' HO1.out (by omega)) (fun i z kk hi hz hk hk' => by
      injection hk with hk
      subst hk
      have h1 := HO.out.inn i z (by rw [e3, List.replicate_succ]; exact hz)
      have h2 := (World.ownsRow.lt h1 _ hk').2
      have h3 := HG.out
      simp at h2
      omega)
     rw [HLn.out] at hp
     rw [List.append_assoc]
     exact hp
   case measure => simp [intOf]; omega
  ·go_wp2
   go_ret
   have : k = l.length := by omega
   subst this
   have h1 := HO.out
   have h2 := HM.out
   simp only [Nat.sub_self, List.replicate_zero, List.append_nil] at h1
   rw [List.take_length] at h2
   exact ⟨L, rfl, h2, h1, HB.out, hsz⟩
end
section
set_option linter.unusedSimpArgs false
set_option linter.unusedVariables false
set_option maxRecDepth 100000
open Go.RowKit
set_option maxHeartbeats 2000000 in
theorem toSource_own (s1 s2 s3 : Option Addr) (c1 c2 c3 lo hi : Nat) (d : SD) (w : World) (h : SrcR w lo hi s1 s2 s3 d) (hB : hi ≤ w.heap.size) (hf : SFits d) :
  Calls Tryz.prog 10 #[.agg #[.slice s1 d.ths.length c1, .slice s2 d.chs.length c2, .slice s3 d.tr.length c3]] w fun e w' => ∃ v1 v2 v3 L1 L2, e = .returned (.agg #[v1, v2, v3]) ∧ OwnS w' w.heap.size v1 v2 v3 L1 L2 d ∧ Below w.heap.size w w' ∧ w.heap.size < w'.heap.size := by
 obtain ⟨h1, h2, h3⟩ := h
 obtain ⟨⟨q1, q1'⟩, ⟨q2, q2'⟩, q3⟩ := hf
 have H1 : Hid (RecsR w lo hi s1 (d.ths.map TD.rec3)) := h1
 have H2 : Hid (RecsR w lo hi s2 (d.chs.map CD.rec3)) := h2
 have H3 : Hid (NtsR w lo hi s3 d.tr) := h3
 have Q1 : Hid (∀ (i : Nat) (t : TD), d.ths[i]? = some t → t.regs.length ≤ 1048576) := q1'
 have Q2 : Hid (∀ (i : Nat) (t : CD), d.chs[i]? = some t → t.list.length ≤ 1048576) := q2'
 clear h1 h2 h3 q1' q2'
 go_enter Tryz.func10, Tryz.ntmps10
 go_wp2_with fail
 have k3 : Below w.heap.size w (((w.alloc (.cells #[.slice s1 d.ths.length c1, .slice s2 d.chs.length c2, .slice s3 d.tr.length c3] 37)).alloc (.cells #[.slice none 0 0, .slice none 0 0, .slice none 0 0] 58)).alloc (.cells #[.slice none 0 0, .slice none 0 0, .slice none 0 0] 58)) := (((Below.refl _ _).alloc (Nat.le_refl _) _).alloc (by simp) _).alloc (by simp; omega) _
 refine (toThreadS_own s1 c1 lo hi d.ths _ (H1.out.keep (Keep.of_below k3 hB)) (by simp; omega) q1 Q1.out).mono ?_
 rintro e w1 ⟨L1, rfl, m1, o1, hb1, hz1⟩
 have a1 : w1.cell? ⟨w.heap.size, 1, none⟩ = some (.slice s2 d.chs.length c2) := by rw [hb1.cell (by simp; omega)]; simp [go_sem]
 have a2 : w1.cell? ⟨w.heap.size, 2, none⟩ = some (.slice s3 d.tr.length c3) := by rw [hb1.cell (by simp; omega)]; simp [go_sem]
 have d0 : ∀ j, j < 3 → w1.cell? ⟨w.heap.size + 1, j, none⟩ = some (.slice none 0 0) := fun j hj => by rw [hb1.cell (by simp)]; rcases (show j = 0 ∨ j = 1 ∨ j = 2 by omega) with rfl | rfl | rfl <;> simp [go_sem]
 have e0 : ∀ j, j < 3 → w1.cell? ⟨w.heap.size + 1 + 1, j, none⟩ = some (.slice none 0 0) := fun j hj => by rw [hb1.cell (by simp)]; rcases (show j = 0 ∨ j = 1 ∨ j = 2 by omega) with rfl | rfl | rfl <;> simp [go_sem]
 have y0 : ∀ j, w1.frozen? ⟨w.heap.size + 1, j, none⟩ = false := fun j => by rw [hb1.frozen (by simp)]; simp [go_sem]
 have y1 : ∀ j, w1.frozen? ⟨w.heap.size + 1 + 1, j, none⟩ = false := fun j => by rw [hb1.frozen (by simp)]; simp [go_sem]
 have hz1' : w.heap.size + 3 < w1.heap.size := by simp at hz1; omega
 have k1 : Below w.heap.size w w1 := k3.trans (hb1.mono (by simp; omega))
 obtain ⟨A1, hv1⟩ : ∃ v, v = (some ⟨w.heap.size + 1 + 1 + 1, 0, none⟩ : Option Addr) := ⟨_, rfl⟩
 have HO1 : Hid (OwnQ w1 (w.heap.size + 3) 116 (.slice A1 d.ths.length d.ths.length) L1) := by have h := o1; simp at h; rw [hv1]; exact h
 have M1 : Hid (L1.map Prod.fst = d.ths.map TD.rec3) := m1
 simp only [World.size_alloc]
 rw [← hv1]
 clear hb1 hz1 o1 m1 k3 hv1
 have i0 := e0 0 (by omega)
 have i1 := e0 1 (by omega)
 have i2 := e0 2 (by omega)
 go_wp2_with fail
 have kset : Below w.heap.size w (w1.setCell ⟨w.heap.size + 1 + 1, 0, none⟩ (.slice A1 d.ths.length d.ths.length)) := k1.setCell (p := ⟨w.heap.size + 1 + 1, 0, none⟩) (by simp; omega) _
 refine (toChanS_own s2 c2 lo hi d.chs _ (H2.out.keep (Keep.of_below kset hB)) (by simp; omega) q2 Q2.out).mono ?_
 rintro e w2 ⟨L2, rfl, m2, o2, hb2, hz2⟩
 have hz2' : w1.heap.size < w2.heap.size := by simpa using hz2
 have a2' : w2.cell? ⟨w.heap.size, 2, none⟩ = some (.slice s3 d.tr.length c3) := (hb2.cell (by simp; omega)).trans ((setC_blk (by omega)).trans a2)
 have d0' : ∀ j, j < 3 → w2.cell? ⟨w.heap.size + 1, j, none⟩ = some (.slice none 0 0) := fun j hj => (hb2.cell (by simp; omega)).trans ((setC_blk (by omega)).trans (d0 j hj))
 have f0 : w2.cell? ⟨w.heap.size + 1 + 1, 0, none⟩ = some (.slice A1 d.ths.length d.ths.length) := (hb2.cell (by simp; omega)).trans (setC_at (by rw [i0]; rfl))
 have f1 : w2.cell? ⟨w.heap.size + 1 + 1, 1, none⟩ = some (.slice none 0 0) := (hb2.cell (by simp; omega)).trans ((setC_off (by omega)).trans i1)
 have f2 : w2.cell? ⟨w.heap.size + 1 + 1, 2, none⟩ = some (.slice none 0 0) := (hb2.cell (by simp; omega)).trans ((setC_off (by omega)).trans i2)
 have y0' : ∀ j, w2.frozen? ⟨w.heap.size + 1, j, none⟩ = false := fun j => by rw [hb2.frozen (by simp; omega), World.frozen?_setCell]; exact y0 j
 have y1' : ∀ j, w2.frozen? ⟨w.heap.size + 1 + 1, j, none⟩ = false := fun j => by rw [hb2.frozen (by simp; omega), World.frozen?_setCell]; exact y1 j
 have k2 : Below w.heap.size w w2 := kset.trans (hb2.mono (by simp; omega))
 have HO1' : Hid (OwnQ w2 (w.heap.size + 3) 116 (.slice A1 d.ths.length d.ths.length) L1) := HO1.out.keep (fun k hk hk' => (hb2.block k (by simp; omega)).trans (Below.heap_setCell _ _ _ k (by simp; omega)))
 have SP : Hid (∀ (i j : Nat) (x y : Rec × Value) (k : Nat), L1[i]? = some x → L2[j]? = some y → x.2.ownBlock = some k → y.2.ownBlock ≠ some k) := sepQ HO1.out o2 (by simp)
 obtain ⟨A2, hv2⟩ : ∃ v, v = (some ⟨w1.heap.size, 0, none⟩ : Option Addr) := ⟨_, rfl⟩
 have HO2 : Hid (OwnQ w2 w1.heap.size 118 (.slice A2 d.chs.length d.chs.length) L2) := by have h := o2; simp at h; rw [hv2]; exact h
 have M2 : Hid (L2.map Prod.fst = d.chs.map CD.rec3) := m2
 simp only [World.size_setCell]
 rw [← hv2]
 clear a1 a2 d0 e0 i0 i1 i2 y0 y1 hb2 hz2 o2 m2 kset hv2 HO1
 go_wp2_with fail
 have kset : Below w.heap.size w (w2.setCell ⟨w.heap.size + 1 + 1, 1, none⟩ (.slice A2 d.chs.length d.chs.length)) := k2.setCell (p := ⟨w.heap.size + 1 + 1, 1, none⟩) (by simp; omega) _
 refine (toNoteS_own s3 c3 lo hi d.tr _ (H3.out.keep (Keep.of_below kset hB)) (by simp; omega) q3).mono ?_
 rintro e w3 ⟨rfl, o3, hb3, hz3⟩
 have hz3' : w2.heap.size < w3.heap.size := by simpa using hz3
 have d0 : w3.cell? ⟨w.heap.size + 1, 0, none⟩ = some (.slice none 0 0) := (hb3.cell (by simp; omega)).trans ((setC_blk (by omega)).trans (d0' 0 (by omega)))
 have d1 : w3.cell? ⟨w.heap.size + 1, 1, none⟩ = some (.slice none 0 0) := (hb3.cell (by simp; omega)).trans ((setC_blk (by omega)).trans (d0' 1 (by omega)))
 have d2 : w3.cell? ⟨w.heap.size + 1, 2, none⟩ = some (.slice none 0 0) := (hb3.cell (by simp; omega)).trans ((setC_blk (by omega)).trans (d0' 2 (by omega)))
 have g0 : w3.cell? ⟨w.heap.size + 1 + 1, 0, none⟩ = some (.slice A1 d.ths.length d.ths.length) := (hb3.cell (by simp; omega)).trans ((setC_off (by omega)).trans f0)
 have g1 : w3.cell? ⟨w.heap.size + 1 + 1, 1, none⟩ = some (.slice A2 d.chs.length d.chs.length) := (hb3.cell (by simp; omega)).trans (setC_at (by rw [f1]; rfl))
 have g2 : w3.cell? ⟨w.heap.size + 1 + 1, 2, none⟩ = some (.slice none 0 0) := (hb3.cell (by simp; omega)).trans ((setC_off (by omega)).trans f2)
 have y0 : ∀ j, w3.frozen? ⟨w.heap.size + 1, j, none⟩ = false := fun j => by rw [hb3.frozen (by simp; omega), World.frozen?_setCell]; exact y0' j
 have y1 : ∀ j, w3.frozen? ⟨w.heap.size + 1 + 1, j, none⟩ = false := fun j => by rw [hb3.frozen (by simp; omega), World.frozen?_setCell]; exact y1' j
 have k3 : Below w.heap.size w w3 := kset.trans (hb3.mono (by simp; omega))
 have P1 : Hid (OwnQ w3 (w.heap.size + 3) 116 (.slice A1 d.ths.length d.ths.length) L1) := HO1'.out.keep (fun k hk hk' => (hb3.block k (by simp; omega)).trans (Below.heap_setCell _ _ _ k (by simp; omega)))
 have P2 : Hid (OwnQ w3 w1.heap.size 118 (.slice A2 d.chs.length d.chs.length) L2) := HO2.out.keep (fun k hk hk' => (hb3.block k (by simp; omega)).trans (Below.heap_setCell _ _ _ k (by simp; omega)))
 obtain ⟨A3, hv3⟩ : ∃ v, v = (some ⟨w2.heap.size, 0, none⟩ : Option Addr) := ⟨_, rfl⟩
 have P3 : Hid (OwnD w3 w2.heap.size (.slice A3 d.tr.length d.tr.length) d.tr) := by have h := o3; simp at h; rw [hv3]; exact h
 simp only [World.size_setCell]
 rw [← hv3]
 clear a2' d0' f0 f1 f2 y0' y1' hb3 hz3 o3 kset hv3 HO1' HO2
 go_wp2
 have fin : ∀ k, w.heap.size + 3 ≤ k → ((((w3.setCell ⟨w.heap.size + 1 + 1, 2, none⟩ (.slice A3 d.tr.length d.tr.length)).setCell ⟨w.heap.size + 1, 0, none⟩ (.slice A1 d.ths.length d.ths.length)).setCell ⟨w.heap.size + 1, 1, none⟩ (.slice A2 d.chs.length d.chs.length)).setCell ⟨w.heap.size + 1, 2, none⟩ (.slice A3 d.tr.length d.tr.length)).heap[k]? = w3.heap[k]? := fun k hk => by
  rw [Below.heap_setCell _ _ _ k (by simp; omega), Below.heap_setCell _ _ _ k (by simp; omega), Below.heap_setCell _ _ _ k (by simp; omega), Below.heap_setCell _ _ _ k (by simp; omega)]
 refine bodyPost_ret (v := .agg #[(.slice A1 d.ths.length d.ths.length), (.slice A2 d.chs.length d.chs.length), (.slice A3 d.tr.length d.tr.length)]) (by simp [results, Tryz.results10, go_sem, d0, d1, d2]) rfl ⟨(.slice A1 d.ths.length d.ths.length), (.slice A2 d.chs.length d.chs.length), (.slice A3 d.tr.length d.tr.length), L1, L2, rfl, ⟨M1.out, M2.out, ?_, ?_, ?_, SP.out⟩, ?_, ?_⟩
 ·exact (P1.out.keep (fun k hk hk' => fin k (by omega))).low (by omega)
 ·exact (P2.out.keep (fun k hk hk' => fin k (by omega))).low (by omega)
 ·exact ownLow' (ownKeep' P3.out (fun k hk => fin k (by have := (World.ownsRow.lt P3.out _ hk).1; omega))) (by omega)
 ·exact (((k3.setCell (p := ⟨w.heap.size + 1 + 1, 2, none⟩) (by simp; omega) _).setCell (p := ⟨w.heap.size + 1, 0, none⟩) (by simp) _).setCell (p := ⟨w.heap.size + 1, 1, none⟩) (by simp) _).setCell (p := ⟨w.heap.size + 1, 2, none⟩) (by simp) _
 ·simp; omega
end
section
set_option linter.unusedSimpArgs false
set_option linter.unusedVariables false
set_option maxRecDepth 100000
open Go.RowKit
set_option maxHeartbeats 400000 in
theorem szThread_all (pc : Int) (st : Int) (s : Option Addr) (n c : Nat) (q : Int) (w : World) (hn : n ≤ maxLen) (hq : 0 ≤ q) (hq' : q ≤ 1048576) :
  Calls Tryz.prog 54 #[.agg #[.int .i64 pc, .slice s n c, .int .i64 st], .int .i64 q] w fun e w' => e = .returned (.int .i64 (if q < n then -1 else q - (n : Int))) ∧ Below w.heap.size w w' := by
 by_cases h : q < n
 ·rw [if_pos h]
  go_enter Tryz.func54, Tryz.ntmps54
  go_wp2_with (go_at_call 15; refine (szIntS_any _ _ _ _ _ hn hq hq').mono ?_; rintro e w' ⟨rfl, hw⟩; have hw' := hw.symm; clear hw; subst hw'; rw [if_pos h])
  go_ret
  exact ⟨rfl, (Below.refl _ _).alloc (Nat.le_refl _) _⟩
 ·rw [if_neg h]
  have hnn : ¬ q - (n : Int) < 0 := by omega
  go_enter Tryz.func54, Tryz.ntmps54
  go_wp2_with (go_at_call 15; refine (szIntS_any _ _ _ _ _ hn hq hq').mono ?_; rintro e w' ⟨rfl, hw⟩; have hw' := hw.symm; clear hw; subst hw'; rw [if_neg h])
  go_ret
  exact ⟨rfl, (Below.refl _ _).alloc (Nat.le_refl _) _⟩
set_option maxHeartbeats 1000000 in
theorem szThreadS_any (s : Option Addr) (c lo hi : Nat) (l : List TD) (q : Int) (w : World) (h : RecsR w lo hi s (l.map TD.rec3)) (hB : hi ≤ w.heap.size) (hn : l.length ≤ maxLen) (hls : ∀ (i : Nat) (t : TD), l[i]? = some t → t.regs.length ≤ maxLen) (hq : 0 ≤ q) (hq' : q ≤ 1048576) :
  Calls Tryz.prog 21 #[.slice s l.length c, .int .i64 q] w fun e w' => (∃ v : Int, e = .returned (.int .i64 v) ∧ (v < 0 ∨ (0 ≤ v ∧ v ≤ 1048576 ∧ l.length ≤ 1048576 ∧ ∀ (i : Nat) (t : TD), l[i]? = some t → t.regs.length ≤ 1048576))) ∧ Below w.heap.size w w' := by
 unfold maxLen at hn
 have HLS : Hid (∀ (i : Nat) (t : TD), l[i]? = some t → t.regs.length ≤ maxLen) := hls
 have HC : Hid (RecsR w lo hi s (l.map TD.rec3)) := h
 clear hls h
 by_cases hb : q < (l.length : Int)
 ·have h1 : q - (l.length : Int) < 0 := by omega
  go_enter Tryz.func21, Tryz.ntmps21
  go_wp2
  go_ret
  exact ⟨⟨-1, rfl, .inl (by omega)⟩, Below.refl _ _⟩
 ·have h1 : ¬ q - (l.length : Int) < 0 := by omega
  go_enter Tryz.func21, Tryz.ntmps21
  go_wp2
  go_loopw [1, 5] (fun a i wr => ∃ (k : Nat) (v : Int), k ≤ l.length ∧ i = .int .i64 k ∧ a = .int .i64 v ∧ 0 ≤ v ∧ v ≤ 1048576 ∧ Below w.heap.size w wr ∧ (∀ (i : Nat) (t : TD), i < k → l[i]? = some t → t.regs.length ≤ 1048576)) (fun _ i _ => l.length - (intOf i).toNat)
  case atStart => exact ⟨0, _, Nat.zero_le _, rfl, rfl, by omega, by omega, Below.refl _ _, fun i t hi => absurd hi (Nat.not_lt_zero _)⟩
  case round =>
   obtain ⟨k, v, hk, rfl, rfl, hv, hv', hbl, hd⟩ := hrel
   have HD : Hid (∀ (i : Nat) (t : TD), i < k → l[i]? = some t → t.regs.length ≤ 1048576) := hd
   have HB : Hid (Below w.heap.size w wr) := hbl
   clear hd hbl
   by_cases hlt : k < l.length
   ·obtain ⟨t, ht⟩ : ∃ t, l[k]? = some t := ⟨_, List.getElem?_eq_getElem hlt⟩
    obtain ⟨g, off, hs, hg, hc⟩ : ∃ g off, s = some ⟨g, off, none⟩ ∧ g < w.heap.size ∧ RecR wr lo hi g (off + k * 3) t.rec3 := by
     rcases HC.out with h | ⟨g, off, a, b, d, e⟩
     ·have : l = [] := by simpa using h
      rw [this] at hlt; simp at hlt
     ·exact ⟨g, off, a, by omega, (e k t.rec3 (by rw [List.getElem?_map, ht]; rfl)).keep (Keep.of_below HB.out hB) (fun j => HB.out.cell (p := ⟨g, j, none⟩) (by show g < _; omega))⟩
    subst hs
    have hm := HLS.out k t ht
    have HT : Hid (l[k]? = some t) := ht
    obtain ⟨s1, c1, f0, f1, f2, -⟩ := hc
    obtain ⟨pc, rg, st⟩ := t
    simp only [TD.rec3] at f0 f1 f2 hm
    have HX : Hid (∃ n, rg.length = n) := ⟨_, rfl⟩
    generalize hx : rg.length = n at f1 hm
    have HXn : Hid (rg.length = n) := hx
    clear hx ht HX
    have b0 : (0 : Int) ≤ (k : Int) := by omega
    have b1 : (k : Int) < (l.length : Int) := by omega
    by_cases hvn : v < (n : Int)
    ·go_wp2_with (go_at_call 54; refine (szThread_all _ _ _ _ _ _ _ hm hv hv').mono ?_; rintro e w' ⟨rfl, hw⟩; rw [if_pos hvn])
     go_ret
     exact ⟨⟨-1, rfl, .inl (by omega)⟩, HB.out.trans (hw.mono HB.out.size)⟩
    ·have hnn : ¬ v - (n : Int) < 0 := by omega
     go_wp2_with (go_at_call 54; refine (szThread_all _ _ _ _ _ _ _ hm hv hv').mono ?_; rintro e w' ⟨rfl, hw⟩; have HW : Hid (Below wr.heap.size wr w') := hw; clear hw; rw [if_neg hvn])
     go_roundw
     case rel =>
      refine ⟨k + 1, _, by omega, by go_num, rfl, by omega, by omega, HB.out.trans (HW.out.mono HB.out.size), ?_⟩
      intro i t hi ht
      by_cases e : i = k
      ·subst e
       rw [HT.out] at ht
       injection ht with ht
       subst ht
       have := HXn.out
       simp only
       omega
      ·exact HD.out i t (by omega) ht
     case measure => simp [intOf]; omega
   ·go_wp2
    go_ret
    have : k = l.length := by omega
    subst this
    exact ⟨⟨v, rfl, .inr ⟨hv, hv', by omega, fun i t ht => HD.out i t (List.getElem?_eq_some_iff.1 ht).1 ht⟩⟩, HB.out⟩
set_option maxHeartbeats 400000 in
theorem szChan_all (pc : Int) (st : Bool) (s : Option Addr) (n c : Nat) (q : Int) (w : World) (hn : n ≤ maxLen) (hq : 0 ≤ q) (hq' : q ≤ 1048576) :
  Calls Tryz.prog 55 #[.agg #[.int .i64 pc, .slice s n c, .bool st], .int .i64 q] w fun e w' => e = .returned (.int .i64 (if q < n then -1 else q - (n : Int))) ∧ Below w.heap.size w w' := by
 by_cases h : q < n
 ·rw [if_pos h]
  go_enter Tryz.func55, Tryz.ntmps55
  go_wp2_with (go_at_call 15; refine (szIntS_any _ _ _ _ _ hn hq hq').mono ?_; rintro e w' ⟨rfl, hw⟩; have hw' := hw.symm; clear hw; subst hw'; rw [if_pos h])
  go_ret
  exact ⟨rfl, (Below.refl _ _).alloc (Nat.le_refl _) _⟩
 ·rw [if_neg h]
  have hnn : ¬ q - (n : Int) < 0 := by omega
  go_enter Tryz.func55, Tryz.ntmps55
  go_wp2_with (go_at_call 15; refine (szIntS_any _ _ _ _ _ hn hq hq').mono ?_; rintro e w' ⟨rfl, hw⟩; have hw' := hw.symm; clear hw; subst hw'; rw [if_neg h])
  go_ret
  exact ⟨rfl, (Below.refl _ _).alloc (Nat.le_refl _) _⟩
set_option maxHeartbeats 1000000 in
theorem szChanS_any (s : Option Addr) (c lo hi : Nat) (l : List CD) (q : Int) (w : World) (h : RecsR w lo hi s (l.map CD.rec3)) (hB : hi ≤ w.heap.size) (hn : l.length ≤ maxLen) (hls : ∀ (i : Nat) (t : CD), l[i]? = some t → t.list.length ≤ maxLen) (hq : 0 ≤ q) (hq' : q ≤ 1048576) :
  Calls Tryz.prog 22 #[.slice s l.length c, .int .i64 q] w fun e w' => (∃ v : Int, e = .returned (.int .i64 v) ∧ (v < 0 ∨ (0 ≤ v ∧ v ≤ 1048576 ∧ l.length ≤ 1048576 ∧ ∀ (i : Nat) (t : CD), l[i]? = some t → t.list.length ≤ 1048576))) ∧ Below w.heap.size w w' := by
 unfold maxLen at hn
 have HLS : Hid (∀ (i : Nat) (t : CD), l[i]? = some t → t.list.length ≤ maxLen) := hls
 have HC : Hid (RecsR w lo hi s (l.map CD.rec3)) := h
 clear hls h
 by_cases hb : q < (l.length : Int)
 ·have h1 : q - (l.length : Int) < 0 := by omega
  go_enter Tryz.func22, Tryz.ntmps22
  go_wp2
  go_ret
  exact ⟨⟨-1, rfl, .inl (by omega)⟩, Below.refl _ _⟩
 ·have h1 : ¬ q - (l.length : Int) < 0 := by omega
  go_enter Tryz.func22, Tryz.ntmps22
  go_wp2
  go_loopw [1, 5] (fun a i wr => ∃ (k : Nat) (v : Int), k ≤ l.length ∧ i = .int .i64 k ∧ a = .int .i64 v ∧ 0 ≤ v ∧ v ≤ 1048576 ∧ Below w.heap.size w wr ∧ (∀ (i : Nat) (t : CD), i < k → l[i]? = some t → t.list.length ≤ 1048576)) (fun _ i _ => l.length - (intOf i).toNat)
  case atStart => exact ⟨0, _, Nat.zero_le _, rfl, rfl, by omega, by omega, Below.refl _ _, fun i t hi => absurd hi (Nat.not_lt_zero _)⟩
  case round =>
   obtain ⟨k, v, hk, rfl, rfl, hv, hv', hbl, hd⟩ := hrel
   have HD : Hid (∀ (i : Nat) (t : CD), i < k → l[i]? = some t → t.list.length ≤ 1048576) := hd
   have HB : Hid (Below w.heap.size w wr) := hbl
   clear hd hbl
   by_cases hlt : k < l.length
   ·obtain ⟨t, ht⟩ : ∃ t, l[k]? = some t := ⟨_, List.getElem?_eq_getElem hlt⟩
    obtain ⟨g, off, hs, hg, hc⟩ : ∃ g off, s = some ⟨g, off, none⟩ ∧ g < w.heap.size ∧ RecR wr lo hi g (off + k * 3) t.rec3 := by
     rcases HC.out with h | ⟨g, off, a, b, d, e⟩
     ·have : l = [] := by simpa using h
      rw [this] at hlt; simp at hlt
     ·exact ⟨g, off, a, by omega, (e k t.rec3 (by rw [List.getElem?_map, ht]; rfl)).keep (Keep.of_below HB.out hB) (fun j => HB.out.cell (p := ⟨g, j, none⟩) (by show g < _; omega))⟩
    subst hs
    have hm := HLS.out k t ht
    have HT : Hid (l[k]? = some t) := ht
    obtain ⟨s1, c1, f0, f1, f2, -⟩ := hc
    obtain ⟨pc, rg, st⟩ := t
    simp only [CD.rec3] at f0 f1 f2 hm
    have HX : Hid (∃ n, rg.length = n) := ⟨_, rfl⟩
    generalize hx : rg.length = n at f1 hm
    have HXn : Hid (rg.length = n) := hx
    clear hx ht HX
    have b0 : (0 : Int) ≤ (k : Int) := by omega
    have b1 : (k : Int) < (l.length : Int) := by omega
    by_cases hvn : v < (n : Int)
    ·go_wp2_with (go_at_call 55; refine (szChan_all _ _ _ _ _ _ _ hm hv hv').mono ?_; rintro e w' ⟨rfl, hw⟩; rw [if_pos hvn])
     go_ret
     exact ⟨⟨-1, rfl, .inl (by omega)⟩, HB.out.trans (hw.mono HB.out.size)⟩
    ·have hnn : ¬ v - (n : Int) < 0 := by omega
     go_wp2_with (go_at_call 55; refine (szChan_all _ _ _ _ _ _ _ hm hv hv').mono ?_; rintro e w' ⟨rfl, hw⟩; have HW : Hid (Below wr.heap.size wr w') := hw; clear hw; rw [if_neg hvn])
     go_roundw
     case rel =>
      refine ⟨k + 1, _, by omega, by go_num, rfl, by omega, by omega, HB.out.trans (HW.out.mono HB.out.size), ?_⟩
      intro i t hi ht
      by_cases e : i = k
      ·subst e
       rw [HT.out] at ht
       injection ht with ht
       subst ht
       have := HXn.out
       simp only
       omega
      ·exact HD.out i t (by omega) ht
     case measure => simp [intOf]; omega
   ·go_wp2
    go_ret
    have : k = l.length := by omega
    subst this
    exact ⟨⟨v, rfl, .inr ⟨hv, hv', by omega, fun i t ht => HD.out i t (List.getElem?_eq_some_iff.1 ht).1 ht⟩⟩, HB.out⟩
def SLens (d : SD) : Prop := (d.ths.length ≤ maxLen ∧ ∀ (i : Nat) (t : TD), d.ths[i]? = some t → t.regs.length ≤ maxLen) ∧ (d.chs.length ≤ maxLen ∧ ∀ (i : Nat) (t : CD), d.chs[i]? = some t → t.list.length ≤ maxLen) ∧ d.tr.length ≤ maxLen
theorem tri {w W : World} {v0 v1 v2 : Value} {T : TypeId} (hb : Below (w.alloc (.cells #[v0, v1, v2] T)).heap.size (w.alloc (.cells #[v0, v1, v2] T)) W) : W.cell? ⟨w.heap.size, 0, none⟩ = some v0 ∧ W.cell? ⟨w.heap.size, 1, none⟩ = some v1 ∧ W.cell? ⟨w.heap.size, 2, none⟩ = some v2 ∧ w.heap.size < W.heap.size := by
 refine ⟨?_, ?_, ?_, ?_⟩
 iterate 3 (· rw [hb.cell (by simp)]; simp [go_sem])
 ·have := hb.size; simp at this; omega
theorem tri.carry {w1 w2 : World} {B K : Nat} {v0 v1 v2 : Value} (hb : Below K w1 w2) (hz : B < K) (c : w1.cell? ⟨B, 0, none⟩ = some v0 ∧ w1.cell? ⟨B, 1, none⟩ = some v1 ∧ w1.cell? ⟨B, 2, none⟩ = some v2) : w2.cell? ⟨B, 0, none⟩ = some v0 ∧ w2.cell? ⟨B, 1, none⟩ = some v1 ∧ w2.cell? ⟨B, 2, none⟩ = some v2 :=
 ⟨(hb.cell hz).trans c.1, (hb.cell hz).trans c.2.1, (hb.cell hz).trans c.2.2⟩
set_option maxHeartbeats 2000000 in
theorem szSource_any (s1 s2 s3 : Option Addr) (c1 c2 c3 lo hi : Nat) (d : SD) (q : Int) (w : World) (h : SrcR w lo hi s1 s2 s3 d) (hB : hi ≤ w.heap.size) (hn : SLens d) (hq : 0 ≤ q) (hq' : q ≤ 1048576) :
  Calls Tryz.prog 6 #[.agg #[.slice s1 d.ths.length c1, .slice s2 d.chs.length c2, .slice s3 d.tr.length c3], .int .i64 q] w fun e w' => (∃ v : Int, e = .returned (.int .i64 v) ∧ (v < 0 ∨ (0 ≤ v ∧ SFits d))) ∧ Below w.heap.size w w' := by
 obtain ⟨h1, h2, h3⟩ := h
 obtain ⟨⟨n1, n1'⟩, ⟨n2, n2'⟩, n3⟩ := hn
 have H1 : Hid (RecsR w lo hi s1 (d.ths.map TD.rec3)) := h1
 have H2 : Hid (RecsR w lo hi s2 (d.chs.map CD.rec3)) := h2
 have Q1 : Hid (∀ (i : Nat) (t : TD), d.ths[i]? = some t → t.regs.length ≤ maxLen) := n1'
 have Q2 : Hid (∀ (i : Nat) (t : CD), d.chs[i]? = some t → t.list.length ≤ maxLen) := n2'
 clear h1 h2 h3 n1' n2'
 have ka : Hid (Below w.heap.size w (w.alloc (.cells #[.slice s1 d.ths.length c1, .slice s2 d.chs.length c2, .slice s3 d.tr.length c3] 37))) := (Below.refl _ _).alloc (Nat.le_refl _) _
 go_enter Tryz.func6, Tryz.ntmps6
 go_wp2_with fail
 refine (szThreadS_any s1 c1 lo hi d.ths q _ (H1.out.keep (Keep.of_below ka.out hB)) (by simp; omega) n1 Q1.out hq hq').mono ?_
 rintro e w1 ⟨⟨v, rfl, hv⟩, hb1⟩
 obtain ⟨a0, a1, a2, z1⟩ := tri hb1
 have K1 : Hid (Below w.heap.size w w1) := ka.out.trans (hb1.mono (by simp))
 clear hb1 ka
 rcases hv with hv | ⟨hv, hv2, f1, f1'⟩
 ·go_wp2
  go_ret
  exact ⟨⟨-1, rfl, .inl (by omega)⟩, K1.out⟩
 ·have hv' : ¬ v < 0 := by omega
  have F1 : Hid (∀ (i : Nat) (t : TD), d.ths[i]? = some t → t.regs.length ≤ 1048576) := f1'
  clear f1'
  go_wp2_with fail
  refine (szChanS_any s2 c2 lo hi d.chs v _ (H2.out.keep (Keep.of_below K1.out hB)) (by omega) n2 Q2.out hv hv2).mono ?_
  rintro e w2 ⟨⟨u, rfl, hu⟩, hb2⟩
  obtain ⟨b0, b1, b2⟩ := tri.carry hb2 z1 ⟨a0, a1, a2⟩
  have K2 : Hid (Below w.heap.size w w2) := K1.out.trans (hb2.mono (by omega))
  have z2 := hb2.size
  clear hb2 a0 a1 a2
  rcases hu with hu | ⟨hu, hu2, f2, f2'⟩
  ·go_wp2
   go_ret
   exact ⟨⟨-1, rfl, .inl (by omega)⟩, K2.out⟩
  ·have hu' : ¬ u < 0 := by omega
   have F2 : Hid (∀ (i : Nat) (t : CD), d.chs[i]? = some t → t.list.length ≤ 1048576) := f2'
   clear f2'
   have z3 : w.heap.size < w2.heap.size := by omega
   by_cases hb : u < (d.tr.length : Int)
   ·go_wp2_with (go_at_call 20; refine (szNoteS_all _ _ _ _ _ n3 hu hu2).mono ?_; rintro e w' ⟨rfl, hw⟩; have hw' := hw.symm; clear hw; subst hw'; rw [if_pos hb])
    go_ret
    exact ⟨⟨-1, rfl, .inl (by omega)⟩, K2.out⟩
   ·have hnn : ¬ u - (d.tr.length : Int) < 0 := by omega
    go_wp2_with (go_at_call 20; refine (szNoteS_all _ _ _ _ _ n3 hu hu2).mono ?_; rintro e w' ⟨rfl, hw⟩; have hw' := hw.symm; clear hw; subst hw'; rw [if_neg (show ¬ u < (d.tr.length : Int) by omega)])
    go_ret
    exact ⟨⟨_, rfl, .inr ⟨by omega, ⟨f1, F1.out⟩, ⟨f2, F2.out⟩, by omega⟩⟩, K2.out⟩
end
end Go.Proofs.YtcfehbfjillnoaaGreat
