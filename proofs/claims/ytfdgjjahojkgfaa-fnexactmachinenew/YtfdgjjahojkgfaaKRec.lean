/- New cores put behind a row of them, and new machines. Conditions: fewer than 2^30 of them. Rows of code copied by the program and by the specification. Conditions: they are counted. -/
import Derived.Test.YtfdgjjahojkgfaaKApp
import Derived.Test.YtfdgjjahojkgfaaKMach
import Derived.Test.YtfdgjjahojkgfaaKOkB
import Derived.Test.YtfdgjjahojkgfaaMemNew
namespace Go.Proofs.Ytfdgjjahojkgfaa
set_option linter.unusedSimpArgs false
set_option linter.unusedVariables false
set_option maxRecDepth 100000
section
open Go.RowKit

structure PushedK (w w' : World) (base : Nat) (v : Value) (L : List KV) (y : KV) (g cap : Nat) : Prop where
  own : OwnK w' base (.slice (some ⟨g, 0, none⟩) (L.length + 1) cap) (L ++ [y])
  low : Below base w w'
  far : ∀ k, k < w.heap.size → v.ownBlock ≠ some k → w'.heap[k]? = w.heap[k]?
theorem wp_recK {o : Oper} {a : Act} {K : Act → World → Prop} {Q : Exit → Act → World → Prop} (s x : Operand) (ho : o.op = .call { callee := .builtin .append, args := #[s, x], argTypes := #[33, 33] })
    (w : World) (base : Nat) (v : Value) (L : List KV) (y : KV) (hs : a.eval s = v) (hown : OwnK w base v L) (hy : OwnN w base y.r y.d.regs ∧ OwnN w base y.v y.d.vw) (ht : ∀ k, y.r.ownBlock = some k → y.v.ownBlock ≠ some k) (h1 : y.r.oneCell' = true) (h2 : y.v.oneCell' = true) (g0 : Nat) (hg : g0 = w.heap.size) (hx : a.eval x = .slice (some ⟨g0, 0, none⟩) 1 1) (hn : L.length ≤ 1073741824) (hbase : base ≤ w.heap.size)
    (hsep : ∀ (i : Nat) (z : KV) (k : Nat), L[i]? = some z → (y.r.ownBlock = some k ∨ y.v.ownBlock = some k) → ¬ (z.r.ownBlock = some k ∨ z.v.ownBlock = some k))
    (h : ∀ g cap w', PushedK w w' base v L y g cap → K (a.put o.dst (.slice (some ⟨g, 0, none⟩) (L.length + 1) cap)) w') :
    Oper.wp Try.prog o a (w.alloc (.cells #[.int .i64 y.d.pc, y.r, y.v, .int .i64 y.d.st] 58)) K Q := by
  subst hg
  obtain ⟨i0, hi, hz0, hz1, hz2⟩ := infoKo
  have h1' : (w.alloc (.cells #[.int .i64 y.d.pc, y.r, y.v, .int .i64 y.d.st] 58)).ownsRow base 58 4 v L.length (flatK L) := ownKeep' hown.row (fun k hk => Below.heap_alloc _ _ _ (World.ownsRow.lt hown.row _ hk).2)
  refine wp_append_lies _ s x 33 ho base 58 i0 _ 4 64 Try.underlying33 hi hz0 hz1 hz2 rfl (by decide) v L.length _ hs h1' ⟨w.heap.size, 0, none⟩ 1 1 [.int .i64 y.d.pc, y.r, y.v, .int .i64 y.d.st] hx rfl (fun j u hj => ?_) (fun u hu => by simp at hu; rcases hu with rfl | rfl | rfl | rfl; rfl; exact h1; exact h2; rfl) (by decide) (by unfold maxLen; omega) (by omega) (by simp; omega) _ rfl ?_
  · match j, hj with
    | 0, hj => simpa [Addr.add, go_sem] using hj
    | 1, hj => simpa [Addr.add, go_sem] using hj
    | 2, hj => simpa [Addr.add, go_sem] using hj
    | 3, hj => simpa [Addr.add, go_sem] using hj
    | j + 4, hj => simp at hj
  intro g cap w' q1 q2 q3 q4
  have hb : Below base w w' := Below.grown (((Below.refl _ _).alloc hbase _)) q2 (by simp; omega) (fun j hj => (World.ownsRow.lt h1' _ hj).1)
  have hf : ∀ k, k < w.heap.size → v.ownBlock ≠ some k → w'.heap[k]? = w.heap[k]? := fun k hk hne => (q2.block k (by simp; omega) (fun e => hne e.symm)).trans (Below.heap_alloc _ _ _ hk)
  exact h g cap w' ⟨OwnK.push hown hy ht hsep q1 hf, hb, hf⟩
theorem step_recK {ops : Array Oper} {o : Oper} {a : Act} {K : Act → World → Prop} {Q : Exit → Act → World → Prop} {E : Prop} (hgd : o.guard = none) (s x : Operand) (ho : o.op = .call { callee := .builtin .append, args := #[s, x], argTypes := #[33, 33] })
    (w : World) (base : Nat) (v : Value) (L : List KV) (y : KV) (hs : a.eval s = v) (hown : OwnK w base v L) (hy : OwnN w base y.r y.d.regs ∧ OwnN w base y.v y.d.vw) (ht : ∀ k, y.r.ownBlock = some k → y.v.ownBlock ≠ some k) (h1 : y.r.oneCell' = true) (h2 : y.v.oneCell' = true) (g0 : Nat) (hg : g0 = w.heap.size) (hx : a.eval x = .slice (some ⟨g0, 0, none⟩) 1 1) (hn : L.length ≤ 1073741824) (hbase : base ≤ w.heap.size)
    (hsep : ∀ (i : Nat) (z : KV) (k : Nat), L[i]? = some z → (y.r.ownBlock = some k ∨ y.v.ownBlock = some k) → ¬ (z.r.ownBlock = some k ∨ z.v.ownBlock = some k))
    (h : ∀ g cap w', PushedK w w' base v L y g cap → K (a.put o.dst (.slice (some ⟨g, 0, none⟩) (L.length + 1) cap)) w') :
    if Region.wanted o (yielded ops a.tmps) = true then Oper.wp Try.prog o a (w.alloc (.cells #[.int .i64 y.d.pc, y.r, y.v, .int .i64 y.d.st] 58)) K Q else E := by
  have hw : Region.wanted o (yielded ops a.tmps) = true := by simp [Region.wanted, hgd]
  rw [if_pos hw]
  exact wp_recK s x ho w base v L y hs hown hy ht h1 h2 g0 hg hx hn hbase hsep h
theorem app_recK {ops : Array Oper} {rest : List Oper} {o : Oper} {a : Act} {Q : Exit → Act → World → Prop} (hgd : o.guard = none) (s x : Operand) (ho : o.op = .call { callee := .builtin .append, args := #[s, x], argTypes := #[33, 33] })
    (w : World) (base : Nat) (v : Value) (L : List KV) (y : KV) (hs : a.eval s = v) (hown : OwnK w base v L) (hy : OwnN w base y.r y.d.regs ∧ OwnN w base y.v y.d.vw) (ht : ∀ k, y.r.ownBlock = some k → y.v.ownBlock ≠ some k) (h1 : y.r.oneCell' = true) (h2 : y.v.oneCell' = true) (g0 : Nat) (hg : g0 = w.heap.size) (hx : a.eval x = .slice (some ⟨g0, 0, none⟩) 1 1) (hn : L.length ≤ 1073741824) (hbase : base ≤ w.heap.size)
    (hsep : ∀ (i : Nat) (z : KV) (k : Nat), L[i]? = some z → (y.r.ownBlock = some k ∨ y.v.ownBlock = some k) → ¬ (z.r.ownBlock = some k ∨ z.v.ownBlock = some k))
    (h : ∀ g cap w', PushedK w w' base v L y g cap → wpList Try.prog ops Q rest (a.put o.dst (.slice (some ⟨g, 0, none⟩) (L.length + 1) cap)) w') :
    wpList Try.prog ops Q (o :: rest) a (w.alloc (.cells #[.int .i64 y.d.pc, y.r, y.v, .int .i64 y.d.st] 58)) :=
  wpList_plain hgd fun _ hK => wp_recK s x ho w base v L y hs hown hy ht h1 h2 g0 hg hx hn hbase hsep fun g cap w' hp => hK _ _ (h g cap w' hp)
/- new cores -/
def zKD : KD := ⟨0, List.replicate 8 0, List.replicate 24 0, 0⟩
theorem made0 {w : World} {base n : Nat} (hb : base ≤ w.heap.size) (hn : n ≤ 1048576) : OwnN (w.alloc (.cells (madeCells #[.int .i64 0] n) 3)) base (.slice (some ⟨w.heap.size, 0, none⟩) n n) (List.replicate n 0) := by
  have h0 := World.ownsRow_lit (base := base) (e := 3) (size := 1) w (madeCells #[.int .i64 0] n) n hb (by unfold maxLen; omega) (by rw [size_madeCells, Nat.mul_one])
  rw [toList_madeCells_one] at h0
  show World.ownsRow _ _ _ _ _ _ _
  rw [List.length_replicate, List.map_replicate]
  exact h0
def WA (w : World) : World := (w.alloc (.cells (madeCells #[.int .i64 0] 8) 3)).alloc (.cells (madeCells #[.int .i64 0] 24) 3)
def WB (w : World) : World := (w.alloc (.cells (madeCells #[.int .i64 0] 24) 3)).alloc (.cells (madeCells #[.int .i64 0] 8) 3)
def yA (w : World) : KV := ⟨zKD, .slice (some ⟨w.heap.size, 0, none⟩) 8 8, .slice (some ⟨w.heap.size + 1, 0, none⟩) 24 24⟩
def yB (w : World) : KV := ⟨zKD, .slice (some ⟨w.heap.size + 1, 0, none⟩) 8 8, .slice (some ⟨w.heap.size, 0, none⟩) 24 24⟩
theorem WA_below (w : World) : Below w.heap.size w (WA w) := ((Below.refl _ _).alloc (Nat.le_refl _) _).alloc (by simp) _
theorem WB_below (w : World) : Below w.heap.size w (WB w) := ((Below.refl _ _).alloc (Nat.le_refl _) _).alloc (by simp) _
theorem WA_size (w : World) : (WA w).heap.size = w.heap.size + 2 := by simp [WA]
theorem WB_size (w : World) : (WB w).heap.size = w.heap.size + 2 := by simp [WB]
theorem WA_own {w : World} {base : Nat} (hb : base ≤ w.heap.size) : OwnN (WA w) base (yA w).r (yA w).d.regs ∧ OwnN (WA w) base (yA w).v (yA w).d.vw := by
  refine ⟨ownKeep' (made0 (n := 8) hb (by omega)) (fun k hk => Below.heap_alloc _ _ _ ?_), ?_⟩
  · have hk2 : some w.heap.size = some k := hk
    injection hk2 with hk2
    simp
    omega
  · have h := made0 (w := w.alloc (.cells (madeCells #[.int .i64 0] 8) 3)) (base := base) (n := 24) (by simp; omega) (by omega)
    rw [World.size_alloc] at h
    exact h
theorem WB_own {w : World} {base : Nat} (hb : base ≤ w.heap.size) : OwnN (WB w) base (yB w).r (yB w).d.regs ∧ OwnN (WB w) base (yB w).v (yB w).d.vw := by
  refine ⟨?_, ownKeep' (made0 (n := 24) hb (by omega)) (fun k hk => Below.heap_alloc _ _ _ ?_)⟩
  · have h := made0 (w := w.alloc (.cells (madeCells #[.int .i64 0] 24) 3)) (base := base) (n := 8) (by simp; omega) (by omega)
    rw [World.size_alloc] at h
    exact h
  · have hk2 : some w.heap.size = some k := hk
    injection hk2 with hk2
    simp
    omega
theorem new_sep {w : World} {base : Nat} {v : Value} {L : List KV} (h : OwnK w base v L) {y : KV} (hy : y = yA w ∨ y = yB w) : ∀ (i : Nat) (z : KV) (k : Nat), L[i]? = some z → (y.r.ownBlock = some k ∨ y.v.ownBlock = some k) → ¬ (z.r.ownBlock = some k ∨ z.v.ownBlock = some k) := fun i z k hz hk hk' => by
  have h1 : w.heap.size ≤ k := by
    rcases hy with rfl | rfl <;> rcases hk with hk | hk
    · have e : some w.heap.size = some k := hk
      injection e with e; omega
    · have e : some (w.heap.size + 1) = some k := hk
      injection e with e; omega
    · have e : some (w.heap.size + 1) = some k := hk
      injection e with e; omega
    · have e : some w.heap.size = some k := hk
      injection e with e; omega
  rcases hk' with hk' | hk'
  · have := (World.ownsRow.lt (h.inn i z hz).1 _ hk').2
    omega
  · have := (World.ownsRow.lt (h.inn i z hz).2 _ hk').2
    omega
theorem new_two {w : World} {y : KV} (hy : y = yA w ∨ y = yB w) : ∀ k, y.r.ownBlock = some k → y.v.ownBlock ≠ some k := fun k hk hk' => by
  rcases hy with rfl | rfl
  · have e : some w.heap.size = some k := hk
    have e' : some (w.heap.size + 1) = some k := hk'
    injection e with e
    injection e' with e'
    omega
  · have e : some (w.heap.size + 1) = some k := hk
    have e' : some w.heap.size = some k := hk'
    injection e with e
    injection e' with e'
    omega
def newMd (l : List (List I5)) : MD := ⟨l, List.replicate l.length zKD, newM 24, []⟩
def noMd : MD := ⟨[], [], [], []⟩
def newMa (l : List (List I5)) : MD := if codesB l then newMd l else noMd
theorem view_new : viewB (newM 24) (List.replicate 24 0) = true := by decide +kernel
theorem mem_new : memB (newM 24) = true := by decide +kernel
theorem code_pos {x : List I5} (h : codeB x = true) : 1 ≤ x.length := by
  unfold codeB at h
  simp at h
  omega
theorem mach_new (l : List (List I5)) : machB (newMd l) = codesB l := by
  cases hc : codesB l with
  | false => unfold machB; simp [newMd, hc]
  | true =>
    have ha : l.all codeB = true := by unfold codesB at hc; simp at hc ⊢; exact hc.2
    have hz : coresB (newM 24) (List.replicate l.length zKD) l = true := by
      unfold coresB
      rw [decide_eq_true (by simp)]
      simp only [Bool.true_and]
      refine all_yes (fun i t ht => ?_)
      obtain ⟨h1, h2⟩ := List.getElem?_zip_eq_some.1 ht
      have e1 : t.1 = zKD := by
        rw [List.getElem?_replicate] at h1
        split at h1
        · injection h1 with h1; exact h1.symm
        · cases h1
      have hp := code_pos (List.all_eq_true.1 ha t.2 (List.mem_of_getElem? h2))
      unfold coreB
      rw [e1]
      simp only [zKD, List.length_replicate]
      rw [view_new]
      simp [Plain.inB, Plain.oneB]
      omega
    have ht : trB [] (List.replicate l.length zKD).length = true := by simp [trB]
    unfold machB
    simp only [newMd]
    rw [hc, hz, ht, mem_new]
    rfl
theorem szK_new : ∀ n, szK (List.replicate n zKD) = n * 32
  | 0 => rfl
  | n + 1 => by
    rw [List.replicate_succ]
    show zKD.regs.length + zKD.vw.length + szK (List.replicate n zKD) = (n + 1) * 32
    rw [szK_new n]
    show 8 + 24 + n * 32 = (n + 1) * 32
    omega
theorem szR_new : szR (newM 24) = 600 := by decide +kernel
theorem fits_new {l : List (List I5)} (h : l.length + szC l ≤ 1048576) (h4 : l.length ≤ 4) : MaFits (newMd l) := by
  refine ⟨h, ?_, ?_, by simp [newMd]⟩
  · simp only [newMd, szK_new, List.length_replicate]
    omega
  · simp only [newMd, szR_new, newM_len]
    omega
theorem fits_newA {l : List (List I5)} (h : l.length + szC l ≤ 1048576) : MaFits (newMa l) := by
  unfold newMa
  split
  · rename_i hc
    refine fits_new h ?_
    unfold codesB at hc
    simp at hc
    omega
  · exact ⟨by simp [noMd, szC], by simp [noMd, szK], by simp [noMd, szR], by simp [noMd]⟩
theorem MaO.of3 {w : World} {lo hi a1 b1 a2 b2 a3 b3 : Nat} {p : MP} {d : MD} (hc : GO w a1 b1 p.s1 TC p.RC (d.codes.map codeV)) (hm : MO w a2 b2 p.s3 p.S d.mem) (hk : GO w a3 b3 p.s2 TK p.RK (d.cores.map coreV)) (ht : d.tr = []) (l1 : lo ≤ a1) (l2 : b1 ≤ a2) (l3 : b2 ≤ a3) (l4 : b3 ≤ hi) (l5 : a1 ≤ b1 := by omega) (l6 : a2 ≤ b2 := by omega) (l7 : a3 ≤ b3 := by omega) : MaO w lo hi p d := by
  have hv : vAs (p.x4 d) = [] := by simp [MP.x4, VS.wide, vAs, ht]
  refine ⟨hc.mono (by omega) (by omega), hk.mono (by omega) (by omega), hm.mono (by omega) (by omega), ⟨by simp [MP.x4, VS.wide, ht, fl2], .inl (by simp [ht, fl2])⟩, ?_⟩
  unfold MP.as
  rw [hv, List.append_nil]
  refine List.nodup_append.2 ⟨hc.d, List.nodup_append.2 ⟨hk.d, hm.d, fun a ha b hb e => ?_⟩, fun a ha b hb e => ?_⟩
  · subst e
    have := (hk.blk ha).1
    have := (hm.blk hb).2
    omega
  · subst e
    have := (hc.blk ha).2
    rcases List.mem_append.1 hb with hb | hb
    · have := (hk.blk hb).1
      omega
    · have := (hm.blk hb).1
      omega
def noMP : MP := ⟨none, 0, [], none, 0, [], none, 0, [], none, 0⟩
theorem noMa (w : World) (lo hi : Nat) : MaO w lo hi noMP noMd := ⟨GO.nil _ _ _ _ _, GO.nil _ _ _ _ _, MO.nil _ _ _ _, ⟨rfl, .inl rfl⟩, by simp [MP.as, noMP, noMd, gAs, mAs, MP.x4, VS.wide, vAs]⟩
end

section
open Go.RowKit

set_option maxHeartbeats 1000000 in
theorem sameCodes_any (s : Option Addr) (c lo hi : Nat) (l : List (List I5)) (w : World) (h : CsR w lo hi s l) (hB : hi ≤ w.heap.size) (hl : l.length + szC l ≤ 1048576) :
    Calls Try.prog 39 #[.slice s l.length c] w fun e w' => ∃ v L, e = .returned v ∧ L.map CV.l = l ∧ OwnC w' w.heap.size v L ∧ Below w.heap.size w w' := by
  have H : Hid (CsR w lo hi s l) := h
  have HV : Hid (∀ (i : Nat) (x : List I5), l[i]? = some x → x.length ≤ 1048576) := fun i x hx => by have := szC_at l i x hx; omega
  clear h
  go_enter Try.func39, Try.ntmps39
  go_wp2
  go_loopw [3, 8] (fun v i wr => ∃ (k : Nat) (L : List CV), k ≤ l.length ∧ i = .int .i64 k ∧ L.length = k ∧ L.map CV.l = l.take k ∧ OwnC wr w.heap.size v L ∧ Below w.heap.size w wr) (fun _ i _ => l.length - (intOf i).toNat)
  case atStart => exact ⟨0, [], Nat.zero_le _, rfl, rfl, rfl, OwnC.nil _ _, Below.refl _ _⟩
  case round =>
    obtain ⟨k, L, hk, rfl, hL, hM, ho, hb⟩ := hrel
    obtain ⟨sv, cv, ev⟩ := ownSl ho.row
    rw [hL] at ev
    subst ev
    have HO : Hid (OwnC wr w.heap.size (.slice sv k cv) L) := ho
    have HB : Hid (Below w.heap.size w wr) := hb
    have HL : Hid (L.length = k) := hL
    have HM : Hid (L.map CV.l = l.take k) := hM
    have hz := hb.size
    clear ho hb hL hM
    by_cases hlt : k < l.length
    · obtain ⟨x, hx⟩ : ∃ x, l[k]? = some x := ⟨_, List.getElem?_eq_getElem hlt⟩
      obtain ⟨g, o, s1, c1, e1, q1, q2, q3, q5⟩ := (H.out.keep (Keep.of_below HB.out hB)).at hx
      subst e1
      have hv := HV.out k x hx
      have HI : Hid (InsR wr lo hi s1 x) := q5
      have HX : Hid (l[k]? = some x) := hx
      clear q5 hx
      have b0 : (0 : Int) ≤ (k : Int) := by omega
      have b1 : (k : Int) < (l.length : Int) := by omega
      have zg : g < wr.heap.size := by omega
      go_wp2_with (first | (at_builtin; refine app_copyS rfl _ _ rfl rfl wr wr.heap.size none 0 rfl (World.ownsRow_nil _ _ _ _) s1 c1 x (by rfl) (HI.out) (by omega) (Nat.le_refl _) ?_; intro s5 c5 w5 ho5 hc5; have O5 := (show Hid (OwnT5 w5 wr.heap.size (.slice s5 x.length c5) x) from ho5); have K5 := (show Hid (Below wr.heap.size wr w5) from hc5.low); have Z5 := (show Hid (∀ k, (Value.slice s5 x.length c5).ownBlock = some k → wr.heap.size ≤ k) from fun k hk => (World.ownsRow.lt ho5 _ hk).1); clear ho5 hc5) | (at_builtin; refine app_rowC rfl _ _ rfl w5 w.heap.size (.slice sv k cv) L ⟨x, .slice s5 x.length c5⟩ rfl (HO.out.below K5.out) (ownLow' O5.out (by omega)) rfl (by rfl) (by have := HL.out; omega) (by have := K5.out.size; omega) (fun i z kk hz1 hk1 hk2 => by have h1 := Z5.out kk hk1; have h2 := (World.ownsRow.lt (HO.out.inn i z hz1) _ hk2).2; omega) ?_; intro g6 c6 w6 hp6; have P6 := (show Hid (OwnC w6 w.heap.size (.slice (some ⟨g6, 0, none⟩) (L.length + 1) c6) (L ++ [⟨x, .slice s5 x.length c5⟩])) from hp6.own); have K6 := (show Hid (Below w.heap.size w w6) from (HB.out.trans (K5.out.mono hz)).trans hp6.low); clear hp6))
      go_roundw
      case rel =>
        refine ⟨k + 1, L ++ [⟨x, .slice s5 x.length c5⟩], by omega, by go_num, by simp [HL.out], ?_, P6.out, K6.out⟩
        rw [List.map_append, HM.out, List.take_add_one, HX.out]
        rfl
      case measure => simp [intOf]; omega
    · go_wp2
      go_ret
      have e : k = l.length := by omega
      have hm := HM.out
      rw [List.take_of_length_le (by omega)] at hm
      exact ⟨_, L, rfl, hm, HO.out, HB.out⟩

set_option maxHeartbeats 1000000 in
theorem l8Codes_any (s : Option Addr) (c lo hi : Nat) (l : List (List I5)) (w : World) (h : CsR w lo hi s l) (hB : hi ≤ w.heap.size) (hl : l.length + szC l ≤ 1048576) :
    Calls Try.prog 36 #[.slice s l.length c] w fun e w' => ∃ v L, e = .returned v ∧ L.map CV.l = l ∧ OwnC w' w.heap.size v L ∧ Below w.heap.size w w' := by
  have H : Hid (CsR w lo hi s l) := h
  have HV : Hid (∀ (i : Nat) (x : List I5), l[i]? = some x → x.length ≤ 1048576) := fun i x hx => by have := szC_at l i x hx; omega
  clear h
  go_enter Try.func36, Try.ntmps36
  go_wp2
  go_loopw [3, 4] (fun v i wr => ∃ (k : Nat) (L : List CV), k ≤ l.length ∧ i = .int .i64 k ∧ L.length = k ∧ L.map CV.l = l.take k ∧ OwnC wr w.heap.size v L ∧ Below w.heap.size w wr) (fun _ i _ => l.length - (intOf i).toNat)
  case atStart => exact ⟨0, [], Nat.zero_le _, rfl, rfl, rfl, ⟨World.ownsRow_lit w #[] 0 (Nat.le_refl _) (by unfold maxLen; omega) rfl, fun i x hx => by simp at hx, fun i j x y k hx => by simp at hx⟩, (Below.refl _ _).alloc (Nat.le_refl _) _⟩
  case round =>
    obtain ⟨k, L, hk, rfl, hL, hM, ho, hb⟩ := hrel
    obtain ⟨sv, cv, ev⟩ := ownSl ho.row
    rw [hL] at ev
    subst ev
    have HO : Hid (OwnC wr w.heap.size (.slice sv k cv) L) := ho
    have HB : Hid (Below w.heap.size w wr) := hb
    have HL : Hid (L.length = k) := hL
    have HM : Hid (L.map CV.l = l.take k) := hM
    have hz := hb.size
    clear ho hb hL hM
    by_cases hlt : k < l.length
    · obtain ⟨x, hx⟩ : ∃ x, l[k]? = some x := ⟨_, List.getElem?_eq_getElem hlt⟩
      obtain ⟨g, o, s1, c1, e1, q1, q2, q3, q5⟩ := (H.out.keep (Keep.of_below HB.out hB)).at hx
      subst e1
      have hv := HV.out k x hx
      have HI : Hid (InsR wr lo hi s1 x) := q5
      have HX : Hid (l[k]? = some x) := hx
      clear q5 hx
      have b0 : (0 : Int) ≤ (k : Int) := by omega
      have b1 : (k : Int) < (l.length : Int) := by omega
      have zg : g < wr.heap.size := by omega
      go_wp2_with (first | (at_builtin; refine app_copyS rfl _ _ rfl rfl (wr.alloc (.cells #[] 91)) wr.heap.size (some ⟨wr.heap.size, 0, none⟩) 0 rfl (World.ownsRow_lit wr #[] 0 (Nat.le_refl _) (by unfold maxLen; omega) rfl) s1 c1 x (by rfl) (HI.out.keep (Keep.of_below ((Below.refl wr.heap.size wr).alloc (Nat.le_refl _) _) (by omega))) (by omega) (by simp) ?_; intro s5 c5 w5 ho5 hc5; have O5 := (show Hid (OwnT5 w5 wr.heap.size (.slice s5 x.length c5) x) from ho5); have K5 := (show Hid (Below wr.heap.size wr w5) from ((Below.refl wr.heap.size wr).alloc (Nat.le_refl _) _).trans hc5.low); have Z5 := (show Hid (∀ k, (Value.slice s5 x.length c5).ownBlock = some k → wr.heap.size ≤ k) from fun k hk => (World.ownsRow.lt ho5 _ hk).1); clear ho5 hc5) | (at_builtin; refine app_rowC rfl _ _ rfl w5 w.heap.size (.slice sv k cv) L ⟨x, .slice s5 x.length c5⟩ rfl (HO.out.below K5.out) (ownLow' O5.out (by omega)) rfl (by rfl) (by have := HL.out; omega) (by have := K5.out.size; omega) (fun i z kk hz1 hk1 hk2 => by have h1 := Z5.out kk hk1; have h2 := (World.ownsRow.lt (HO.out.inn i z hz1) _ hk2).2; omega) ?_; intro g6 c6 w6 hp6; have P6 := (show Hid (OwnC w6 w.heap.size (.slice (some ⟨g6, 0, none⟩) (L.length + 1) c6) (L ++ [⟨x, .slice s5 x.length c5⟩])) from hp6.own); have K6 := (show Hid (Below w.heap.size w w6) from (HB.out.trans (K5.out.mono hz)).trans hp6.low); clear hp6))
      go_roundw
      case rel =>
        refine ⟨k + 1, L ++ [⟨x, .slice s5 x.length c5⟩], by omega, by go_num, by simp [HL.out], ?_, P6.out, K6.out⟩
        rw [List.map_append, HM.out, List.take_add_one, HX.out]
        rfl
      case measure => simp [intOf]; omega
    · go_wp2
      go_ret
      have e : k = l.length := by omega
      have hm := HM.out
      rw [List.take_of_length_le (by omega)] at hm
      exact ⟨_, L, rfl, hm, HO.out, HB.out⟩
end

end Go.Proofs.Ytfdgjjahojkgfaa
