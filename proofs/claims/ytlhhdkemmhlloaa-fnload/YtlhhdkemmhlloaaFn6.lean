/- Calls of chapter 6's functions on a memory and a view that lie anywhere, with their answers apart. Conditions: they are counted. -/
import Derived.Test.YtlhhdkemmhlloaaFnBytes
import Derived.Test.YtlhhdkemmhlloaaMemStoS
import Derived.Test.YtlhhdkemmhlloaaMemStoI
import Derived.Test.YtlhhdkemmhlloaaMemSwS
import Derived.Test.YtlhhdkemmhlloaaMemLoad
import Derived.Test.YtlhhdkemmhlloaaMemNew
import Derived.Test.YtlhhdkemmhlloaaViewsK
import Derived.Test.YtlhhdkemmhlloaaViewsP
namespace Go.Proofs.Ytlhhdkemmhlloaa
set_option linter.unusedSimpArgs false
set_option linter.unusedVariables false
set_option maxRecDepth 100000
open Go.ChangeShapes Go.WideShapes Go.ChangeAt Go.RowKit

def Rw (w : World) (s : Option Addr) (l : List Int) : Prop := IntsR w 0 w.heap.size s l
theorem Rw.below {w w' : World} {s : Option Addr} {l : List Int} (h : Rw w s l) (hb : Below w.heap.size w w') : Rw w' s l := (h.keep (Keep.of_below hb (Nat.le_refl _))).mono (Nat.le_refl _) hb.size
theorem OwnN.rw {w : World} {base : Nat} {s : Option Addr} {c : Nat} {l : List Int} (h : OwnN w base (.slice s l.length c) l) : Rw w s l := by
  obtain ⟨s', c', e, hi⟩ := ownN_ints h
  injection e with e1
  subst e1
  exact hi.mono (Nat.zero_le _) (Nat.le_refl _)
theorem OwnN.rw' {w : World} {base : Nat} {v : Value} {l : List Int} (h : OwnN w base v l) : ∃ s c, v = .slice s l.length c ∧ Rw w s l := by
  obtain ⟨s, c, rfl⟩ := ownSl h
  exact ⟨s, c, rfl, h.rw⟩
def Mw (w : World) (s : Option Addr) (m : List (List WD)) : Prop := MemR w 0 w.heap.size s m
theorem Mw.below {w w' : World} {s : Option Addr} {m : List (List WD)} (h : Mw w s m) (hb : Below w.heap.size w w') : Mw w' s m := (h.keep (Keep.of_below hb (Nat.le_refl _))).mono (Nat.le_refl _) hb.size
theorem OW.memw {w : World} {B : Nat} {v : Value} {S : List RS} {m : List (List WD)} (h : OW w B v S m) : ∃ s c, v = .slice s m.length c ∧ MemR w B w.heap.size s m := by
  obtain ⟨s, c, rfl, hm⟩ := h.om.mo
  exact ⟨s, c, rfl, hm.mem⟩
theorem mw_of {w : World} {lo hi : Nat} {s : Option Addr} {m : List (List WD)} (h : MemR w lo hi s m) (hh : hi ≤ w.heap.size) : Mw w s m := h.mono (Nat.zero_le _) hh
/- a box of one cell that may be written -/
structure B1 (w : World) (G : Nat) (v : Value) : Prop where
  c0 : w.cell? ⟨G, 0, none⟩ = some v
  fz : w.frozen? ⟨G, 0, none⟩ = false
  lt : G < w.heap.size
theorem B1.new {w : World} {v : Value} {T : TypeId} : B1 (w.alloc (.cells #[v] T)) w.heap.size v := ⟨by simp [go_sem], by simp [go_sem], by simp⟩
theorem B1.below {w w' : World} {G : Nat} {v : Value} (h : B1 w G v) (hb : Below w.heap.size w w') : B1 w' G v := ⟨(hb.cell (p := ⟨G, 0, none⟩) h.lt).trans h.c0, (hb.frozen (p := ⟨G, 0, none⟩) h.lt).trans h.fz, Nat.lt_of_lt_of_le h.lt hb.size⟩
theorem B1.set {w : World} {G : Nat} {v v' : Value} (h : B1 w G v) : B1 (w.setCell ⟨G, 0, none⟩ v') G v' := ⟨by simp [go_sem, h.c0], by rw [World.frozen?_setCell]; exact h.fz, by simpa using h.lt⟩
theorem Rw.box {w : World} {G n c n' c' : Nat} {s0 s0' s : Option Addr} {l : List Int} (h : Rw w s l) (hb : B1 w G (.slice s0 n c)) : Rw (w.setCell ⟨G, 0, none⟩ (.slice s0' n' c')) s l := by
  rcases h with h | ⟨g, o, hs, h1, h2, hc⟩
  · exact .inl h
  · refine .inr ⟨g, o, hs, h1, by simpa using h2, fun i hi => ?_⟩
    rw [World.cell?_setCell_other]
    · exact hc i hi
    · intro e
      have h3 := hc i hi
      rw [← e, hb.c0] at h3
      cases h3
theorem below_box {B G : Nat} {w w' : World} {v : Value} (h : Below B w w') (hG : B ≤ G) : Below B w (w'.setCell ⟨G, 0, none⟩ v) := h.setCell (p := ⟨G, 0, none⟩) hG _
theorem gStoreI (s s' : Option Addr) (c c' : Nat) (m M : List (List WD)) (l L : List Int) (cell z : Int) (b : Bool) (w : World) (h : Mw w s m) (h' : Rw w s' l) (hl : l.length ≤ 1048577) (hm : MFits m) (hM : stoM m l cell z b = M) (hL : stoW m l cell = L) :
    Calls Try.prog 10 #[.agg #[.slice s m.length c], .slice s' l.length c', .int .i64 cell, .int .i64 z, .bool b] w fun e w' => ∃ s1 c1 s2 c2, e = .returned (.tuple #[.agg #[.slice s1 M.length c1], .slice s2 L.length c2]) ∧ MemR w' w.heap.size w'.heap.size s1 M ∧ Rw w' s2 L ∧ Below w.heap.size w w' := by
  refine (implStore_any s s' c c' 0 w.heap.size 0 w.heap.size m l cell z b w h h' (Nat.le_refl _) (Nat.le_refl _) hl hm).mono ?_
  rintro e w' ⟨vM, S, v, rfl, ho, hv, -, hb⟩
  rw [hM] at ho
  rw [hL] at hv
  obtain ⟨s1, c1, rfl, hm1⟩ := ho.memw
  obtain ⟨s2, c2, rfl, hr⟩ := hv.rw'
  exact ⟨s1, c1, s2, c2, rfl, hm1, hr, hb⟩
theorem gStoreS (s s' : Option Addr) (c c' : Nat) (m M : List (List WD)) (l L : List Int) (cell z : Int) (b : Bool) (w : World) (h : Mw w s m) (h' : Rw w s' l) (hl : l.length ≤ 1048577) (hm : MFits m) (hM : stoM m l cell z b = M) (hL : stoW m l cell = L) :
    Calls Try.prog 21 #[.agg #[.slice s m.length c], .slice s' l.length c', .int .i64 cell, .int .i64 z, .bool b] w fun e w' => ∃ s1 c1 s2 c2, e = .returned (.tuple #[.agg #[.slice s1 M.length c1], .slice s2 L.length c2]) ∧ MemR w' w.heap.size w'.heap.size s1 M ∧ Rw w' s2 L ∧ Below w.heap.size w w' := by
  refine (specStore_any s s' c c' 0 w.heap.size 0 w.heap.size m l cell z b w h h' (Nat.le_refl _) (Nat.le_refl _) hl hm).mono ?_
  rintro e w' ⟨sM, cM, n, v, rfl, rfl, ho, hv, hb⟩
  rw [hM] at ho ⊢
  rw [hL] at hv
  obtain ⟨s2, c2, rfl, hr⟩ := hv.rw'
  exact ⟨sM, cM, s2, c2, rfl, ho, hr, hb⟩
theorem gSwapI (s s' : Option Addr) (c c' : Nat) (m M : List (List WD)) (l L : List Int) (cell z q : Int) (w : World) (h : Mw w s m) (h' : Rw w s' l) (hl : l.length ≤ 1048577) (hm : MFits m) (hM : swM m l cell z = M) (hL : swW m l cell = L) (hq : swV m l cell = q) :
    Calls Try.prog 23 #[.agg #[.slice s m.length c], .slice s' l.length c', .int .i64 cell, .int .i64 z] w fun e w' => ∃ s1 c1 s2 c2, e = .returned (.tuple #[.agg #[.slice s1 M.length c1], .slice s2 L.length c2, .int .i64 q]) ∧ MemR w' w.heap.size w'.heap.size s1 M ∧ Rw w' s2 L ∧ Below w.heap.size w w' := by
  refine (implSwap_any s s' c c' 0 w.heap.size 0 w.heap.size m l cell z w h h' (Nat.le_refl _) (Nat.le_refl _) hl hm).mono ?_
  rintro e w' ⟨vM, S, v, rfl, ho, hv, -, hb⟩
  rw [hM] at ho
  rw [hL] at hv
  rw [hq]
  obtain ⟨s1, c1, rfl, hm1⟩ := ho.memw
  obtain ⟨s2, c2, rfl, hr⟩ := hv.rw'
  exact ⟨s1, c1, s2, c2, rfl, hm1, hr, hb⟩
theorem gSwapS (s s' : Option Addr) (c c' : Nat) (m M : List (List WD)) (l L : List Int) (cell z q : Int) (w : World) (h : Mw w s m) (h' : Rw w s' l) (hl : l.length ≤ 1048577) (hm : MFits m) (hM : swM m l cell z = M) (hL : swW m l cell = L) (hq : swV m l cell = q) :
    Calls Try.prog 24 #[.agg #[.slice s m.length c], .slice s' l.length c', .int .i64 cell, .int .i64 z] w fun e w' => ∃ s1 c1 s2 c2, e = .returned (.tuple #[.agg #[.slice s1 M.length c1], .slice s2 L.length c2, .int .i64 q]) ∧ MemR w' w.heap.size w'.heap.size s1 M ∧ Rw w' s2 L ∧ Below w.heap.size w w' := by
  refine (specSwap_any s s' c c' 0 w.heap.size 0 w.heap.size m l cell z w h h' (Nat.le_refl _) (Nat.le_refl _) hl hm).mono ?_
  rintro e w' ⟨sM, cM, n, v, rfl, rfl, ho, hv, hb⟩
  rw [hM] at ho ⊢
  rw [hL] at hv
  rw [hq]
  obtain ⟨s2, c2, rfl, hr⟩ := hv.rw'
  exact ⟨sM, cM, s2, c2, rfl, ho, hr, hb⟩
theorem gLoad {F : FuncId} (hF : ∀ (s s' : Option Addr) (c c' lo hi lo' hi' : Nat) (m : List (List WD)) (l : List Int) (cell late : Int) (hold : Bool) (w : World), MemR w lo hi s m → IntsR w lo' hi' s' l → hi ≤ w.heap.size → hi' ≤ w.heap.size → l.length ≤ 1048577 → m.length + szR m ≤ 1048676 → late ≤ 9223372036854775807 → Calls Try.prog F #[.agg #[.slice s m.length c], .slice s' l.length c', .int .i64 cell, .int .i64 late, .bool hold] w fun e w' => ∃ v, e = .returned (.tuple #[.int .i64 (loadV m l cell late), v]) ∧ OwnN w' w.heap.size v (loadW m l cell late hold) ∧ Below w.heap.size w w')
    (s s' : Option Addr) (c c' : Nat) (m : List (List WD)) (l L : List Int) (cell late q : Int) (hold : Bool) (w : World) (h : Mw w s m) (h' : Rw w s' l) (hl : l.length ≤ 1048577) (hm : MFits m) (hlate : late ≤ 9223372036854775807) (hL : loadW m l cell late hold = L) (hq : loadV m l cell late = q) :
    Calls Try.prog F #[.agg #[.slice s m.length c], .slice s' l.length c', .int .i64 cell, .int .i64 late, .bool hold] w fun e w' => ∃ s2 c2, e = .returned (.tuple #[.int .i64 q, .slice s2 L.length c2]) ∧ Rw w' s2 L ∧ Below w.heap.size w w' := by
  refine (hF s s' c c' 0 w.heap.size 0 w.heap.size m l cell late hold w h h' (Nat.le_refl _) (Nat.le_refl _) hl (by unfold MFits at hm; omega) hlate).mono ?_
  rintro e w' ⟨v, rfl, hv, hb⟩
  rw [hL] at hv
  rw [hq]
  obtain ⟨s2, c2, rfl, hr⟩ := hv.rw'
  exact ⟨s2, c2, rfl, hr, hb⟩
theorem gLoadI (s s' : Option Addr) (c c' : Nat) (m : List (List WD)) (l L : List Int) (cell late q : Int) (hold : Bool) (w : World) (h : Mw w s m) (h' : Rw w s' l) (hl : l.length ≤ 1048577) (hm : MFits m) (hlate : late ≤ 9223372036854775807) (hL : loadW m l cell late hold = L) (hq : loadV m l cell late = q) :
    Calls Try.prog 11 #[.agg #[.slice s m.length c], .slice s' l.length c', .int .i64 cell, .int .i64 late, .bool hold] w fun e w' => ∃ s2 c2, e = .returned (.tuple #[.int .i64 q, .slice s2 L.length c2]) ∧ Rw w' s2 L ∧ Below w.heap.size w w' :=
  gLoad implLoad_any s s' c c' m l L cell late q hold w h h' hl hm hlate hL hq
theorem gLoadS (s s' : Option Addr) (c c' : Nat) (m : List (List WD)) (l L : List Int) (cell late q : Int) (hold : Bool) (w : World) (h : Mw w s m) (h' : Rw w s' l) (hl : l.length ≤ 1048577) (hm : MFits m) (hlate : late ≤ 9223372036854775807) (hL : loadW m l cell late hold = L) (hq : loadV m l cell late = q) :
    Calls Try.prog 12 #[.agg #[.slice s m.length c], .slice s' l.length c', .int .i64 cell, .int .i64 late, .bool hold] w fun e w' => ∃ s2 c2, e = .returned (.tuple #[.int .i64 q, .slice s2 L.length c2]) ∧ Rw w' s2 L ∧ Below w.heap.size w w' :=
  gLoad specLoad_any s s' c c' m l L cell late q hold w h h' hl hm hlate hL hq
theorem gMemI (s : Option Addr) (c : Nat) (m : List (List WD)) (b : Bool) (w : World) (h : Mw w s m) (hm : MFits m) (hb : memB m = b) :
    Calls Try.prog 16 #[.agg #[.slice s m.length c]] w fun e w' => e = .returned (.bool b) ∧ Below w.heap.size w w' := by
  subst hb
  exact implMemoryOk_any s c 0 w.heap.size m w h (Nat.le_refl _) (by unfold MFits at hm; omega)
theorem gMemS (s : Option Addr) (c : Nat) (m : List (List WD)) (b : Bool) (w : World) (h : Mw w s m) (hm : MFits m) (hb : memB m = b) :
    Calls Try.prog 17 #[.agg #[.slice s m.length c]] w fun e w' => e = .returned (.bool b) ∧ Below w.heap.size w w' := by
  subst hb
  exact specMemoryOk_any s c 0 w.heap.size m w h (Nat.le_refl _) (by unfold MFits at hm; omega)
theorem gViewI (s s' : Option Addr) (c c' : Nat) (m : List (List WD)) (l : List Int) (b : Bool) (w : World) (h : Mw w s m) (h' : Rw w s' l) (hl : l.length ≤ 1048577) (hb : viewB m l = b) :
    Calls Try.prog 18 #[.agg #[.slice s m.length c], .slice s' l.length c'] w fun e w' => e = .returned (.bool b) ∧ Below w.heap.size w w' := by
  subst hb
  exact implViewOk_any s s' c c' 0 w.heap.size 0 w.heap.size m l w h h' (Nat.le_refl _) (Nat.le_refl _) (by omega)
theorem gViewS (s s' : Option Addr) (c c' : Nat) (m : List (List WD)) (l : List Int) (b : Bool) (w : World) (h : Mw w s m) (h' : Rw w s' l) (hl : l.length ≤ 1048577) (hm : MFits m) (hb : viewB m l = b) :
    Calls Try.prog 19 #[.agg #[.slice s m.length c], .slice s' l.length c'] w fun e w' => e = .returned (.bool b) ∧ Below w.heap.size w w' := by
  subst hb
  exact specViewOk_any s s' c c' 0 w.heap.size 0 w.heap.size m l w h h' (Nat.le_refl _) (Nat.le_refl _) (by omega) (fun i r hr => by have := hm.r hr; omega)
theorem gKnows (s s' : Option Addr) (c c' : Nat) (l l' : List Int) (b : Bool) (w : World) (h : Rw w s l) (h' : Rw w s' l') (hl : l.length ≤ 1048577) (hb : knowsB l l' = b) :
    Calls Try.prog 13 #[.slice s l.length c, .slice s' l'.length c'] w fun e w' => e = .returned (.bool b) ∧ Below w.heap.size w w' := by
  refine (implKnows_any s s' c c' 0 w.heap.size 0 w.heap.size l l' w h h' hl (Nat.le_refl _) (Nat.le_refl _)).mono ?_
  rintro e w' ⟨rfl, rfl⟩
  exact ⟨by rw [hb], Below.refl _ _⟩
theorem gNewI (w : World) : Calls Try.prog 8 #[] w fun e w' => ∃ s c, e = .returned (.agg #[.slice s (newM 24).length c]) ∧ MemR w' w.heap.size w'.heap.size s (newM 24) ∧ Below w.heap.size w w' := by
  refine (implNew_any w).mono ?_
  rintro e w' ⟨s, c, S, rfl, hm, hb⟩
  exact ⟨s, c, by rw [newM_len], hm.mem, hb⟩
theorem gNewS (w : World) : Calls Try.prog 53 #[] w fun e w' => ∃ s c, e = .returned (.agg #[.slice s (newM 24).length c]) ∧ MemR w' w.heap.size w'.heap.size s (newM 24) ∧ Below w.heap.size w w' := by
  refine (specNew_any w).mono ?_
  rintro e w' ⟨s, c, S, rfl, hm, hb⟩
  exact ⟨s, c, by rw [newM_len], hm.mem, hb⟩

end Go.Proofs.Ytlhhdkemmhlloaa
