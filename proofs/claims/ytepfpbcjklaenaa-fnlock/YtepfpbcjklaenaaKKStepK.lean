/- A step keeps a machine right: views and memories. No condition. -/
import Derived.Test.YtepfpbcjklaenaaKG00
import Derived.Test.YtepfpbcjklaenaaKG04
import Derived.Test.YtepfpbcjklaenaaKG02
import Derived.Test.YtepfpbcjklaenaaKG01
import Derived.Test.YtepfpbcjklaenaaKMemStore
import Derived.Test.YtepfpbcjklaenaaKMemOk
import Derived.Test.YtepfpbcjklaenaaKKOkB
import Derived.Test.YtepfpbcjklaenaaKG05
import Derived.Test.YtepfpbcjklaenaaKG06
namespace Go.Proofs.Ytepfpbcjklaenaa
set_option linter.unusedSimpArgs false
set_option linter.unusedVariables false
set_option maxRecDepth 100000
open Go.RowKit
theorem viewB_iff {m : List (List WD)} {l : List Int} : viewB m l = true ↔ l.length = m.length ∧ ∀ i, i < l.length → 0 ≤ l.getD i 0 ∧ l.getD i 0 < ((m.getD i []).length : Int) := by unfold viewB; rw [decide_eq_true_eq]
theorem viewB_grow {m m' : List (List WD)} {l : List Int} (h : viewB m l = true) (hn : m'.length = m.length) (hg : ∀ i, (m.getD i []).length ≤ (m'.getD i []).length) : viewB m' l = true := by
 rw [viewB_iff] at h ⊢
 refine ⟨by omega, fun i hi => ?_⟩
 have := h.2 i hi
 have := hg i
 omega
theorem getD_setI {l : List Int} {k i : Nat} {v : Int} (hk : k < l.length) : (l.set k v).getD i 0 = if i = k then v else l.getD i 0 := by
 rw [List.getD_eq_getElem?_getD, List.getElem?_set]
 by_cases e : k = i
 ·subst e
  simp [hk]
 ·rw [if_neg e, if_neg (fun q => e q.symm), List.getD_eq_getElem?_getD]
theorem getD_setM {m : List (List WD)} {k i : Nat} {v : List WD} (hk : k < m.length) : (m.set k v).getD i [] = if i = k then v else m.getD i [] := by
 rw [List.getD_eq_getElem?_getD, List.getElem?_set]
 by_cases e : k = i
 ·subst e
  simp [hk]
 ·rw [if_neg e, if_neg (fun q => e q.symm), List.getD_eq_getElem?_getD]
theorem memB_at {m : List (List WD)} (h : memB m = true) {i : Nat} (hi : i < 24) : m.length = 24 ∧ ∃ r, m[i]? = some r ∧ m.getD i [] = r ∧ 1 ≤ r.length ∧ r.length ≤ 4000 ∧ ∀ x ∈ r, viewB m x.vw = true := by
 unfold memB at h
 rw [Bool.and_eq_true, decide_eq_true_eq, List.all_eq_true] at h
 obtain ⟨r, hr⟩ : ∃ r, m[i]? = some r := ⟨_, List.getElem?_eq_getElem (by omega)⟩
 have q := h.2 r (List.mem_of_getElem? hr)
 unfold rowB at q
 rw [Bool.and_eq_true, decide_eq_true_eq, List.all_eq_true] at q
 exact ⟨h.1, r, hr, by rw [List.getD_eq_getElem?_getD, hr]; rfl, q.1.1, q.1.2, q.2⟩
theorem memB_of {m : List (List WD)} (h24 : m.length = 24) (h : ∀ i, i < 24 → 1 ≤ (m.getD i []).length ∧ (m.getD i []).length ≤ 4000 ∧ ∀ x ∈ m.getD i [], viewB m x.vw = true) : memB m = true := by
 unfold memB
 rw [Bool.and_eq_true, decide_eq_true_eq, List.all_eq_true]
 refine ⟨h24, fun r hr => ?_⟩
 obtain ⟨i, hi, e⟩ := List.mem_iff_getElem.1 hr
 have q := h i (by omega)
 rw [show m.getD i [] = r by rw [List.getD_eq_getElem?_getD, List.getElem?_eq_getElem hi, e]; rfl] at q
 unfold rowB
 rw [Bool.and_eq_true, decide_eq_true_eq, List.all_eq_true]
 exact ⟨⟨q.1, q.2.1⟩, q.2.2⟩
theorem ldJ_lt {m : List (List WD)} {l : List Int} {c : Nat} (late : Int) (hm : memB m = true) (hv : viewB m l = true) (hc : c < 24) : ldJ m l c late < (m.getD c []).length ∧ mx (l.getD c 0) (((m.getD c []).length : Int) - 1 - mx late 0) = (ldJ m l c late : Int) := by
 obtain ⟨h24, r, -, er, n1, -, -⟩ := memB_at hm hc
 rw [viewB_iff] at hv
 have q := hv.2 c (by omega)
 unfold ldJ
 rw [er] at q ⊢
 unfold mx
 split <;> split <;> omega
theorem ldX_at {m : List (List WD)} {l : List Int} {c : Nat} (late : Int) (hm : memB m = true) (hv : viewB m l = true) (hc : c < 24) : ∃ r, m[c]? = some r ∧ r[ldJ m l c late]? = some (ldX m l c late) ∧ viewB m (ldX m l c late).vw = true := by
 obtain ⟨h24, r, hr, er, n1, -, hx⟩ := memB_at hm hc
 have hj := (ldJ_lt late hm hv hc).1
 rw [er] at hj
 have e : r[ldJ m l c late]? = some (ldX m l c late) := by
  unfold ldX
  rw [er, List.getD_eq_getElem?_getD, List.getElem?_eq_getElem hj]
  rfl
 exact ⟨r, hr, e, hx _ (List.mem_of_getElem? e)⟩
theorem ldW_ok {m : List (List WD)} {l : List Int} {c : Nat} (late : Int) (hold : Bool) (hm : memB m = true) (hv : viewB m l = true) (hc : c < 24) : viewB m (ldW m l c late hold) = true := by
 obtain ⟨h24, -⟩ := memB_at hm hc
 have hj := (ldJ_lt late hm hv hc).1
 obtain ⟨r, hr, e, hx⟩ := ldX_at late hm hv hc
 have hs : viewB m (l.set c (ldJ m l c late)) = true := by
  rw [viewB_iff] at hv ⊢
  refine ⟨by rw [List.length_set]; exact hv.1, fun i hi => ?_⟩
  rw [List.length_set] at hi
  rw [getD_setI (by omega)]
  split
  ·rename_i q; subst q; omega
  ·exact hv.2 i hi
 unfold ldW
 split
 ·rw [viewB_iff] at hs hx ⊢
  have hl : (joinL (l.set c (ldJ m l c late)) (ldX m l c late).vw).length = m.length := by unfold joinL; rw [List.length_zipWith]; omega
  refine ⟨hl, fun i hi => ?_⟩
  have a := hs.2 i (by omega)
  have b := hx.2 i (by omega)
  have ej : (joinL (l.set c (ldJ m l c late)) (ldX m l c late).vw).getD i 0 = mx ((l.set c (ldJ m l c late)).getD i 0) ((ldX m l c late).vw.getD i 0) := by
   have h1 : i < (l.set c (ldJ m l c late)).length := by omega
   have h2 : i < (ldX m l c late).vw.length := by omega
   unfold joinL
   simp only [List.getD_eq_getElem?_getD, List.getElem?_zipWith, List.getElem?_eq_getElem h1, List.getElem?_eq_getElem h2, Option.getD_some]
  rw [ej]
  generalize (l.set c (ldJ m l c late)).getD i 0 = p at a
  generalize (ldX m l c late).vw.getD i 0 = q at b
  unfold mx
  split <;> omega
 ·exact hs
theorem stM_ok {m : List (List WD)} {l : List Int} {c : Nat} (z : Int) (b : Bool) (hm : memB m = true) (hv : viewB m l = true) (hc : c < 24) (hf : ¬ (m.getD c []).length = 4000) : memB (stM m l c z b) = true ∧ viewB (stM m l c z b) (stW m l c) = true ∧ ∀ v, viewB m v = true → viewB (stM m l c z b) v = true := by
 obtain ⟨h24, r, hr, er, n1, n4, hx⟩ := memB_at hm hc
 have hcm : c < m.length := by omega
 have hn : (stM m l c z b).length = m.length := by unfold stM; rw [List.length_set]
 have hg : ∀ i, ((stM m l c z b).getD i []) = if i = c then r ++ [⟨z, toldL l c r.length b⟩] else m.getD i [] := fun i => by unfold stM; rw [getD_setM hcm, er]
 have grow : ∀ v, viewB m v = true → viewB (stM m l c z b) v = true := fun v h => viewB_grow h hn (fun i => by
  rw [hg]
  split
  ·rename_i q; subst q; rw [er]; simp
  ·exact Nat.le_refl _)
 have pos : ∀ i, i < 24 → 0 < ((stM m l c z b).getD i []).length := fun i hi => by
  rw [hg]
  split
  ·simp
  ·obtain ⟨-, r', -, e', n', -⟩ := memB_at hm hi; rw [e']; omega
 have hvw := hv
 rw [viewB_iff] at hvw
 have hst : viewB (stM m l c z b) (l.set c (r.length : Int)) = true := by
  have hgv := grow l hv
  rw [viewB_iff] at hgv ⊢
  refine ⟨by rw [List.length_set]; exact hgv.1, fun i hi => ?_⟩
  rw [List.length_set] at hi
  rw [getD_setI (by omega)]
  split
  ·rename_i q
   subst q
   rw [hg, if_pos rfl]
   simp
   omega
  ·exact hgv.2 i hi
 have htold : viewB (stM m l c z b) (toldL l c r.length b) = true := by
  unfold toldL
  split
  ·exact hst
  ·rw [viewB_iff]
   refine ⟨by rw [List.length_set, List.length_replicate, hn, h24], fun i hi => ?_⟩
   rw [List.length_set, List.length_replicate] at hi
   rw [getD_setI (by rw [List.length_replicate]; exact hc)]
   split
   ·rename_i q
    subst q
    rw [hg, if_pos rfl]
    simp
    omega
   ·have := pos i hi
    rw [show (List.replicate 24 (0 : Int)).getD i 0 = 0 by rw [List.getD_eq_getElem?_getD, List.getElem?_replicate]; split <;> rfl]
    omega
 refine ⟨memB_of (by omega) (fun i hi => ?_), by unfold stW; rw [er]; exact hst, grow⟩
 rw [hg]
 split
 ·rename_i q
  subst q
  rw [er] at hf
  refine ⟨by simp, by simp; omega, fun x hx' => ?_⟩
  rw [List.mem_append, List.mem_singleton] at hx'
  rcases hx' with h | h
  ·exact grow _ (hx x h)
  ·subst h; exact htold
 ·obtain ⟨-, r', -, e', n', n'', hx'⟩ := memB_at hm hi
  rw [e']
  exact ⟨n', n'', fun x h => grow _ (hx' x h)⟩
/- a machine, one of its cores turned -/
theorem coresB_iff {m : List (List WD)} {cs : List KD} {l : List (List I5)} : coresB m cs l = true ↔ cs.length = l.length ∧ ∀ (i : Nat) (k : KD) (c : List I5), cs[i]? = some k → l[i]? = some c → coreB m k c.length = true := by
 unfold coresB
 rw [Bool.and_eq_true, decide_eq_true_eq, List.all_eq_true]
 constructor
 ·rintro ⟨h, q⟩
  refine ⟨h, fun i k c hk hc => q (k, c) (List.mem_of_getElem? (i := i) ?_)⟩
  rw [List.getElem?_zip_eq_some]
  exact ⟨hk, hc⟩
 ·rintro ⟨h, q⟩
  refine ⟨h, fun x hx => ?_⟩
  obtain ⟨i, hi, e⟩ := List.mem_iff_getElem.1 hx
  have e' : (cs.zip l)[i]? = some x := by rw [List.getElem?_eq_getElem hi, e]
  rw [List.getElem?_zip_eq_some] at e'
  exact q i x.1 x.2 e'.1 e'.2
theorem coreB_iff {m : List (List WD)} {k : KD} {n : Nat} : coreB m k n = true ↔ k.regs.length = 8 ∧ (0 ≤ k.st ∧ k.st ≤ 2) ∧ (0 ≤ k.pc ∧ k.pc < (n : Int)) ∧ viewB m k.vw = true := by
 unfold coreB Plain.inB Plain.oneB
 rw [Bool.and_eq_true, Bool.and_eq_true, Bool.and_eq_true, decide_eq_true_eq, decide_eq_true_eq, decide_eq_true_eq]
theorem machB_iff {d : MD} : machB d = true ↔ codesB d.codes = true ∧ coresB d.mem d.cores d.codes = true ∧ trB d.tr d.cores.length = true ∧ memB d.mem = true := by
 unfold machB
 rw [Bool.and_eq_true, Bool.and_eq_true, Bool.and_eq_true]
theorem keep_core {d : MD} {who : Nat} {k k' : KD} {code : List I5} {s : I5} (h : machB d = true) (ha : At8 d who k code s) (m' : List (List WD)) (tr' : List ND) (hm : memB m' = true) (hg : ∀ v, viewB d.mem v = true → viewB m' v = true) (ht : trB tr' d.cores.length = true) (hk : coreB m' k' code.length = true) : machB (putK { d with mem := m', tr := tr' } who k') = true := by
 rw [machB_iff] at h ⊢
 obtain ⟨h1, h2, -, -⟩ := h
 rw [coresB_iff] at h2
 refine ⟨h1, ?_, by show trB tr' (d.cores.set who k').length = true; rw [List.length_set]; exact ht, hm⟩
 show coresB m' (d.cores.set who k') d.codes = true
 rw [coresB_iff]
 refine ⟨by rw [List.length_set]; exact h2.1, fun i x c hx hc => ?_⟩
 rw [List.getElem?_set] at hx
 by_cases e : who = i
 ·subst e
  rw [if_pos rfl] at hx
  split at hx
  ·injection hx with hx
   subst hx
   rw [ha.hc] at hc
   injection hc with hc
   subst hc
   exact hk
  ·cases hx
 ·rw [if_neg e] at hx
  have q := h2.2 i x c hx hc
  rw [coreB_iff] at q ⊢
  exact ⟨q.1, q.2.1, q.2.2.1, hg _ q.2.2.2⟩
theorem keep_go {d : MD} {who : Nat} {k k' : KD} {code : List I5} {s : I5} (h : machB d = true) (ha : At8 d who k code s) (m' : List (List WD)) (tr' : List ND) (p : Int) (hm : memB m' = true) (hg : ∀ v, viewB d.mem v = true → viewB m' v = true) (ht : trB tr' d.cores.length = true) (hr : k'.regs.length = 8) (hs : k'.st = k.st) (hpc : k'.pc = k.pc) (hv : viewB m' k'.vw = true) (hp : 0 ≤ p) : machB (goM { d with mem := m', tr := tr' } who k' code.length p) = true := by
 have q0 := ha.pc0
 have q1 := ha.pcl
 have q2 := ha.st0
 have q3 := ha.st2
 unfold goM
 split
 ·rename_i hlt
  refine keep_core h ha m' tr' hm hg ht ?_
  rw [coreB_iff]
  exact ⟨hr, by show 0 ≤ k'.st ∧ k'.st ≤ 2; omega, ⟨hp, hlt⟩, hv⟩
 ·refine keep_core h ha m' tr' hm hg ht ?_
  rw [coreB_iff]
  exact ⟨hr, ⟨by show (0 : Int) ≤ 2; omega, by show (2 : Int) ≤ 2; omega⟩, by show 0 ≤ k'.pc ∧ k'.pc < _; omega, hv⟩
set_option maxHeartbeats 2000000 in
theorem stepAt_ok {d : MD} {who : Nat} {k : KD} {code : List I5} {s : I5} (late : Int) (h : machB d = true) (ha : At8 d who k code s) : machB (stepAt d who late k code.length s).1 = true := by
 have hm := ha.mem
 have ht : trB d.tr d.cores.length = true := (machB_iff.1 h).2.2.1
 have q0 := ha.pc0
 have id : ∀ v, viewB d.mem v = true → viewB d.mem v = true := fun _ q => q
 have hst : ∀ st', 0 ≤ st' → st' ≤ 2 → machB (putK d who { k with st := st' }) = true := fun st' a b => keep_core h ha d.mem d.tr hm id ht (by rw [coreB_iff]; exact ⟨ha.regs, ⟨a, b⟩, ⟨ha.pc0, ha.pcl⟩, ha.vw⟩)
 have hreg : ∀ (r v : Int), machB (goM d who (setR k r v) code.length (k.pc + 1)) = true := fun r v => keep_go h ha d.mem d.tr (k.pc + 1) hm id ht (by unfold setR; rw [List.length_set]; exact ha.regs) rfl rfl ha.vw (by omega)
 have hw : who < d.cores.length := by
  have := ha.hk
  rw [List.getElem?_eq_some_iff] at this
  exact this.1
 have hok := ha.ok
 unfold stX Plain.stepB at hok
 rw [decide_eq_true_eq] at hok
 unfold stepAt
 by_cases e1 : s.o = 1
 ·rw [if_pos e1]; exact hreg _ _
 rw [if_neg e1]
 by_cases e2 : s.o = 2
 ·rw [if_pos e2]; exact hreg _ _
 rw [if_neg e2]
 by_cases e3 : s.o = 3
 ·rw [if_pos e3]; exact hreg _ _
 rw [if_neg e3]
 by_cases e4 : s.o = 4
 ·rw [if_pos e4]; exact hreg _ _
 rw [if_neg e4]
 by_cases e9 : s.o = 9
 ·rw [if_pos e9]
  by_cases hf : d.tr.length = 4000
  ·rw [if_pos hf]; exact h
  ·rw [if_neg hf]
   have htr := ha.tr
   refine keep_go h ha d.mem (d.tr ++ [⟨who, regA k s.a⟩]) (k.pc + 1) hm id ?_ ha.regs rfl rfl ha.vw (by omega)
   unfold trB at ht ⊢
   rw [Bool.and_eq_true, decide_eq_true_eq] at ht ⊢
   refine ⟨by rw [List.length_append]; simp; omega, ?_⟩
   rw [List.all_append, ht.2]
   simp [Plain.oneB]
   omega
 rw [if_neg e9]
 by_cases e10 : s.o = 10
 ·rw [if_pos e10]
  exact keep_go h ha d.mem d.tr s.n hm id ht ha.regs rfl rfl ha.vw (by omega)
 rw [if_neg e10]
 by_cases e11 : s.o = 11
 ·rw [if_pos e11]
  exact keep_go h ha d.mem d.tr _ hm id ht ha.regs rfl rfl ha.vw (by split <;> omega)
 rw [if_neg e11]
 by_cases e12 : s.o = 12
 ·rw [if_pos e12]; exact hst 1 (by omega) (by omega)
 rw [if_neg e12]
 by_cases e13 : s.o = 13
 ·rw [if_pos e13]; exact hst 2 (by omega) (by omega)
 rw [if_neg e13]
 by_cases hc : 0 ≤ cellM k s ∧ cellM k s ≤ 23
 ·rw [if_pos hc]
  generalize hcc : (cellM k s).toNat = c
  have hc24 : c < 24 := by omega
  split
  ·exact h
  ·rename_i hfull
   unfold memS
   by_cases e5 : s.o = 5
   ·rw [if_pos e5]
    exact keep_go h ha d.mem d.tr (k.pc + 1) hm id ht (by show (k.regs.set _ _).length = 8; rw [List.length_set]; exact ha.regs) rfl rfl (ldW_ok late false hm ha.vw hc24) (by omega)
   ·rw [if_neg e5]
    have hf : ¬ (d.mem.getD c []).length = 4000 := fun q => hfull ⟨e5, q⟩
    by_cases e8 : s.o = 8
    ·rw [if_pos e8]
     obtain ⟨a1, a2, a3⟩ := stM_ok (regA k s.b) true hm (ldW_ok 0 true hm ha.vw hc24) hc24 hf
     exact keep_go h ha _ d.tr (k.pc + 1) a1 a3 ht (by show (k.regs.set _ _).length = 8; rw [List.length_set]; exact ha.regs) rfl rfl a2 (by omega)
    ·rw [if_neg e8]
     obtain ⟨a1, a2, a3⟩ := stM_ok (regA k s.b) (decide (s.o = 7)) hm ha.vw hc24 hf
     exact keep_go h ha _ d.tr (k.pc + 1) a1 a3 ht ha.regs rfl rfl a2 (by omega)
 ·rw [if_neg hc]; exact hst 2 (by omega) (by omega)
theorem stepM_ok {d : MD} (who late : Int) (h : machB d = true) : machB (stepM d who late).1 = true := by
 by_cases hw : 0 ≤ who ∧ who < (d.cores.length : Int)
 ·obtain ⟨n, rfl⟩ : ∃ n : Nat, who = (n : Int) := ⟨who.toNat, by omega⟩
  obtain ⟨k, code, s, ha⟩ := mach_at h (who := n) (by omega)
  by_cases hr : k.st = 0
  ·rw [stepM_at ha late hr]; exact stepAt_ok late h ha
  ·rw [stepM_over ha late hr]; exact h
 ·rw [stepM_none late hw]; exact h
end Go.Proofs.Ytepfpbcjklaenaa
