/- Rows of steps that are written over with running numbers and looked at again; how long the code of a place is. Conditions: at most a thousand steps. The plain side of chapter 7: when a step of a core is right, and its word: functions of integers alone. No condition. -/
import Derived.Test.YthkpkdehicoikaaGreatE10Imp
import Derived.WalkKit
import Derived.Test.YthkpkdehicoikaaGreatJ00
namespace Go.Proofs.YthkpkdehicoikaaGreat
section
set_option linter.unusedSimpArgs false
set_option linter.unusedVariables false
set_option maxRecDepth 100000
open Go.RowKit

/- the places of a memory's integers, in the order in which they are written over -/
structure VS where
  s : Option Addr
  n : Nat
  c : Nat
def adr : Option Addr → Nat → Addr
  | some a, i => ⟨a.block, a.off + i, none⟩
  | none, _ => ⟨0, 0, none⟩
def vAs (x : VS) : List Addr := (List.range x.n).map (adr x.s)
theorem mem_vAs {x : VS} {a : Addr} : a ∈ vAs x ↔ ∃ i, i < x.n ∧ a = adr x.s i := by
  simp [vAs]
  constructor
  · rintro ⟨i, h, rfl⟩; exact ⟨i, h, rfl⟩
  · rintro ⟨i, h, rfl⟩; exact ⟨i, h, rfl⟩
theorem vAs_len (x : VS) : (vAs x).length = x.n := by simp [vAs]
theorem vAs_at {x : VS} {i : Nat} (h : i < x.n) : (vAs x)[i]? = some (adr x.s i) := by simp [vAs, h]
theorem Keep.frozen {lo hi : Nat} {w w' : World} (h : Keep lo hi w w') {p : Addr} (h1 : lo ≤ p.block) (h2 : p.block < hi) : w'.frozen? p = w.frozen? p := World.frozen?_of_block (w := w) (h p.block h1 h2)
theorem getElem?_push {α : Type} {l : List α} {y x : α} {i : Nat} (h : (l ++ [y])[i]? = some x) : l[i]? = some x ∨ (i = l.length ∧ x = y) := by
  by_cases hi : i < l.length
  · rw [List.getElem?_append_left hi] at h; exact .inl h
  · have := (List.getElem?_eq_some_iff.1 h).1
    simp at this
    have e : i = l.length := by omega
    subst e
    simp at h
    exact .inr ⟨rfl, h.symm⟩

structure Wrote (A : List Addr) (q : Int) (w w' : World) : Prop where
  os : w'.os = w.os
  tape : w'.tape = w.tape
  out : w'.output = w.output
  size : w'.heap.size = w.heap.size
  far : ∀ a, a ∉ A → w'.cell? a = w.cell? a
  fz : ∀ a, w'.frozen? a = w.frozen? a
  at' : ∀ (p : Nat) (a : Addr), A[p]? = some a → w'.cell? a = some (.int .i64 (q + p))
  blk : ∀ k, (∀ a ∈ A, a.block ≠ k) → w'.heap[k]? = w.heap[k]?
theorem Wrote.refl (q : Int) (w : World) : Wrote [] q w w := ⟨rfl, rfl, rfl, rfl, fun _ _ => rfl, fun _ => rfl, fun p a h => by simp at h, fun _ _ => rfl⟩
theorem Wrote.push {A : List Addr} {q z : Int} {w w1 : World} {a : Addr} (h : Wrote A q w w1) (ha : a ∉ A) (hc : (w1.cell? a).isSome = true) (hz : z = q + A.length) : Wrote (A ++ [a]) q w (w1.setCell a (.int .i64 z)) := by
  subst hz
  refine ⟨h.os, h.tape, h.out, by simpa using h.size, fun b hb => ?_, fun b => by rw [World.frozen?_setCell]; exact h.fz b, fun p b hb => ?_, fun k hk => ?_⟩
  · simp at hb
    rw [World.cell?_setCell_other _ _ _ _ (fun e => hb.2 e.symm)]
    exact h.far b hb.1
  · rcases getElem?_push hb with hb | ⟨rfl, rfl⟩
    · rw [World.cell?_setCell_other _ _ _ _ (fun e => ha (by rw [e]; exact List.mem_of_getElem? hb))]
      exact h.at' p b hb
    · exact World.cell?_setCell_same' _ _ _ hc
  · rw [Below.heap_setCell _ _ _ k (fun e => hk a (by simp) e.symm)]
    exact h.blk k (fun b hb => hk b (by simp [hb]))
def IntC (w : World) (lo hi : Nat) (a : Addr) : Prop := (∃ z, w.cell? a = some (.int .i64 z)) ∧ w.frozen? a = false ∧ lo ≤ a.block ∧ a.block < hi
def Somewhere (s : Option Addr) : Prop := ∃ g o, s = some ⟨g, o, none⟩
/- a call that writes integers over integers leaves every shape -/
theorem Wrote.intc {A : List Addr} {q : Int} {w w' : World} (h : Wrote A q w w') {lo hi : Nat} {a : Addr} (ha : IntC w lo hi a) : IntC w' lo hi a := by
  obtain ⟨⟨z, h1⟩, h2, h3, h4⟩ := ha
  refine ⟨?_, (h.fz a).trans h2, h3, h4⟩
  by_cases hm : a ∈ A
  · obtain ⟨p, hp, e⟩ := List.getElem_of_mem hm
    exact ⟨_, h.at' p a (by rw [List.getElem?_eq_getElem hp, e])⟩
  · exact ⟨z, (h.far a hm).trans h1⟩
def MarkedA (w : World) (A : List Addr) (q : Int) : Prop := ∀ (p : Nat) (a : Addr), A[p]? = some a → w.cell? a = some (.int .i64 (q + p))
def VS.wide (x : VS) (e : Nat) : VS := ⟨x.s, x.n * e, x.c⟩

set_option maxHeartbeats 1000000 in
theorem markSt_any (x : VS) (lo hi : Nat) (q : Int) (w : World) (hok : x.n * 5 = 0 ∨ Somewhere x.s) (hint : ∀ a ∈ vAs (x.wide 5), IntC w lo hi a) (hn : x.n * 5 ≤ 10000000) (hq : 0 ≤ q) (hq' : q ≤ 1000000000000000) :
    Calls Tryz.prog 31 #[.slice x.s x.n x.c, .int .i64 q] w fun e w' => e = .returned (.int .i64 (q + (x.n * 5 : Nat))) ∧ Wrote (vAs (x.wide 5)) q w w' := by
  obtain ⟨s, n, c⟩ := x
  have HI : Hid (∀ a ∈ vAs ⟨s, n * 5, c⟩, IntC w lo hi a) := hint
  clear hint
  simp only at hok hn
  show Calls _ _ _ _ fun e w' => e = .returned (.int .i64 (q + (n * 5 : Nat))) ∧ Wrote (vAs ⟨s, n * 5, c⟩) q w w'
  go_enter Tryz.func31, Tryz.ntmps31
  go_wp2
  go_loopw [1, 5] (fun a i wr => ∃ (k : Nat) (z : Int), k ≤ n ∧ i = .int .i64 k ∧ a = .int .i64 z ∧ 0 ≤ z ∧ z ≤ 2000000000000000 ∧ Hid (z = q + (k * 5 : Nat)) ∧ Wrote (vAs ⟨s, k * 5, c⟩) q w wr) (fun _ i _ => n - (intOf i).toNat)
  case atStart => exact ⟨0, q, Nat.zero_le _, rfl, rfl, hq, by omega, show _ = _ by simp, by simpa [vAs] using Wrote.refl q w⟩
  case round =>
    obtain ⟨k, z, hk, rfl, rfl, hz0, hz1, HZ, hw⟩ := hrel
    have HW : Hid (Wrote (vAs ⟨s, k * 5, c⟩) q w wr) := hw
    clear hw
    by_cases hlt : k < n
    · obtain ⟨g, o, rfl⟩ : Somewhere s := by rcases hok with h | h <;> first | omega | exact h
      have hm : ∀ j, j < 5 → ∃ z, wr.cell? ⟨g, o + k * 5 + j, none⟩ = some (.int .i64 z) ∧ wr.frozen? ⟨g, o + k * 5 + j, none⟩ = false := fun j hj => by
        obtain ⟨⟨z, hz⟩, hf, -, -⟩ := HW.out.intc (HI.out ⟨g, o + k * 5 + j, none⟩ (mem_vAs.2 ⟨k * 5 + j, by show _ < n * 5; omega, by simp [adr] <;> omega⟩))
        exact ⟨z, hz, hf⟩
      obtain ⟨y0, c0, f0⟩ := hm 0 (by omega)
      obtain ⟨y1, c1, f1⟩ := hm 1 (by omega)
      obtain ⟨y2, c2, f2⟩ := hm 2 (by omega)
      obtain ⟨y3, c3, f3⟩ := hm 3 (by omega)
      obtain ⟨y4, c4, f4⟩ := hm 4 (by omega)
      rw [Nat.add_zero] at c0 f0
      have b0 : (0 : Int) ≤ (k : Int) := by omega
      have b1 : (k : Int) < (n : Int) := by omega
      clear hm
      go_wp2
      go_roundw
      case rel =>
        refine ⟨k + 1, _, by omega, by go_num, rfl, by omega, by have := HZ.out; omega, by show _ = _; have := HZ.out; push_cast; omega, ?_⟩
        have e : vAs ⟨some ⟨g, o, none⟩, (k + 1) * 5, c⟩ = ((((vAs ⟨some ⟨g, o, none⟩, k * 5, c⟩ ++ [⟨g, o + k * 5, none⟩]) ++ [⟨g, o + k * 5 + 1, none⟩]) ++ [⟨g, o + k * 5 + 2, none⟩]) ++ [⟨g, o + k * 5 + 3, none⟩]) ++ [⟨g, o + k * 5 + 4, none⟩] := by
          have e1 : (k + 1) * 5 = k * 5 + 5 := by omega
          rw [e1]
          simp [vAs, List.range_add, List.range_succ, adr, Nat.add_assoc]
        rw [e]
        have nm : ∀ j, (⟨g, o + k * 5 + j, none⟩ : Addr) ∉ vAs ⟨some ⟨g, o, none⟩, k * 5, c⟩ := fun j hm => by
          obtain ⟨i, hi', ei⟩ := mem_vAs.1 hm
          simp [adr] at ei
          simp at hi'
          omega
        have hz := HZ.out
        have W0 := HW.out.push (a := ⟨g, o + k * 5, none⟩) (z := z) (fun hm => by
          have q := nm 0; first | exact q hm | (simp at hm; first | exact q hm | exact q (by simpa using hm) | omega)) (by rw [c0]; rfl) (by simp [vAs_len]; omega)
        have W1 := W0.push (a := ⟨g, o + k * 5 + 1, none⟩) (z := z + 1) (fun hm => by
          have q := nm 1; first | exact q hm | (simp at hm; first | exact q hm | exact q (by simpa using hm) | omega)) (by refine setC_some ?_; rw [c1]; rfl) (by simp [vAs_len]; omega)
        have W2 := W1.push (a := ⟨g, o + k * 5 + 2, none⟩) (z := z + 1 + 1) (fun hm => by
          have q := nm 2; first | exact q hm | (simp at hm; first | exact q hm | exact q (by simpa using hm) | omega)) (by refine setC_some ?_; refine setC_some ?_; rw [c2]; rfl) (by simp [vAs_len]; omega)
        have W3 := W2.push (a := ⟨g, o + k * 5 + 3, none⟩) (z := z + 1 + 1 + 1) (fun hm => by
          have q := nm 3; first | exact q hm | (simp at hm; first | exact q hm | exact q (by simpa using hm) | omega)) (by refine setC_some ?_; refine setC_some ?_; refine setC_some ?_; rw [c3]; rfl) (by simp [vAs_len]; omega)
        have W4 := W3.push (a := ⟨g, o + k * 5 + 4, none⟩) (z := z + 1 + 1 + 1 + 1) (fun hm => by
          have q := nm 4; first | exact q hm | (simp at hm; first | exact q hm | exact q (by simpa using hm) | omega)) (by refine setC_some ?_; refine setC_some ?_; refine setC_some ?_; refine setC_some ?_; rw [c4]; rfl) (by simp [vAs_len]; omega)
        exact W4
      case measure => simp [intOf]; omega
    · go_wp2
      go_ret
      have e : k = n := by omega
      subst e
      exact ⟨by rw [HZ.out]; rfl, HW.out⟩

set_option maxHeartbeats 1000000 in
theorem heldSt_any (x : VS) (q : Int) (w : World) (hok : x.n * 5 = 0 ∨ Somewhere x.s) (hm : MarkedA w (vAs (x.wide 5)) q) (hn : x.n * 5 ≤ 10000000) (hq : 0 ≤ q) (hq' : q ≤ 1000000000000000) :
    Calls Tryz.prog 32 #[.slice x.s x.n x.c, .int .i64 q] w fun e w' => e = .returned (.int .i64 (q + (x.n * 5 : Nat))) ∧ w' = w := by
  obtain ⟨s, n, c⟩ := x
  have HI : Hid (MarkedA w (vAs ⟨s, n * 5, c⟩) q) := hm
  clear hm
  simp only at hok hn
  show Calls _ _ _ _ fun e w' => e = .returned (.int .i64 (q + (n * 5 : Nat))) ∧ w' = w
  go_enter Tryz.func32, Tryz.ntmps32
  go_wp2
  go_loop [1, 5] (fun a i => ∃ (k : Nat) (z : Int), k ≤ n ∧ i = .int .i64 k ∧ a = .int .i64 z ∧ 0 ≤ z ∧ z ≤ 2000000000000000 ∧ Hid (z = q + (k * 5 : Nat))) (fun _ i => n - (intOf i).toNat)
  case atStart => exact ⟨0, q, Nat.zero_le _, rfl, rfl, hq, by omega, show _ = _ by simp⟩
  case round =>
    obtain ⟨k, z, hk, rfl, rfl, hz0, hz1, HZ⟩ := hrel
    by_cases hlt : k < n
    · obtain ⟨g, o, rfl⟩ : Somewhere s := by rcases hok with h | h <;> first | omega | exact h
      have hm : ∀ j, j < 5 → w.cell? ⟨g, o + k * 5 + j, none⟩ = some (.int .i64 (z + j)) := fun j hj => by
        have := HI.out (k * 5 + j) ⟨g, o + k * 5 + j, none⟩ (by rw [vAs_at (by show _ < n * 5; omega)]; simp [adr] <;> omega)
        rw [this, HZ.out]
        congr 2
        first | omega | (push_cast; omega)
      have c0 : w.cell? ⟨g, o + k * 5, none⟩ = some (.int .i64 z) := by have := hm 0 (by omega); simpa using this
      have c1 : w.cell? ⟨g, o + k * 5 + 1, none⟩ = some (.int .i64 (z + 1)) := by have := hm 1 (by omega); first | (rw [this]; done) | (rw [this]; congr 2 <;> omega)
      have c2 : w.cell? ⟨g, o + k * 5 + 2, none⟩ = some (.int .i64 (z + 1 + 1)) := by have := hm 2 (by omega); first | (rw [this]; done) | (rw [this]; congr 2 <;> omega)
      have c3 : w.cell? ⟨g, o + k * 5 + 3, none⟩ = some (.int .i64 (z + 1 + 1 + 1)) := by have := hm 3 (by omega); first | (rw [this]; done) | (rw [this]; congr 2 <;> omega)
      have c4 : w.cell? ⟨g, o + k * 5 + 4, none⟩ = some (.int .i64 (z + 1 + 1 + 1 + 1)) := by have := hm 4 (by omega); first | (rw [this]; done) | (rw [this]; congr 2 <;> omega)
      have n0 : ((z) != (z)) = false := by simp
      have n1 : ((z + 1) != (z + 1)) = false := by simp
      have n2 : ((z + 1 + 1) != (z + 1 + 1)) = false := by simp
      have n3 : ((z + 1 + 1 + 1) != (z + 1 + 1 + 1)) = false := by simp
      have n4 : ((z + 1 + 1 + 1 + 1) != (z + 1 + 1 + 1 + 1)) = false := by simp
      have b0 : (0 : Int) ≤ (k : Int) := by omega
      have b1 : (k : Int) < (n : Int) := by omega
      clear hm
      go_wp2
      go_round
      case rel => exact ⟨k + 1, _, by omega, by go_num, rfl, by omega, by have := HZ.out; omega, by show _ = _; have := HZ.out; push_cast; omega⟩
      case measure => simp [intOf]; omega
    · go_wp2
      go_ret
      have e : k = n := by omega
      subst e
      exact ⟨by rw [HZ.out]; rfl, rfl⟩


theorem eqStep_same (o r a b n : Int) (w : World) : Calls Tryz.prog 56 #[.agg #[.int .i64 o, .int .i64 r, .int .i64 a, .int .i64 b, .int .i64 n], .agg #[.int .i64 o, .int .i64 r, .int .i64 a, .int .i64 b, .int .i64 n]] w fun e w' => e = .returned (.bool true) ∧ Below w.heap.size w w' := by
  go_enter Tryz.func56, Tryz.ntmps56
  go_wp2
  go_ret
  exact ⟨rfl, ((Below.refl _ _).alloc (Nat.le_refl _) _).alloc (by simp) _⟩


set_option maxHeartbeats 1000000 in
theorem eqStepS_same (s s' : Option Addr) (c c' B : Nat) (l : List I5) (w : World) (h : InsB w B s l) (h' : InsB w B s' l) (hB : B ≤ w.heap.size) (hl : l.length ≤ 1048576) :
    Calls Tryz.prog 26 #[.slice s l.length c, .slice s' l.length c'] w fun e w' => e = .returned (.bool true) ∧ Below w.heap.size w w' := by
  rcases h with rfl | ⟨g, off, rfl, hg, hc⟩
  · go_enter Tryz.func26, Tryz.ntmps26
    go_wp2
    go_loop [5] (fun i => i = .int .i64 0) (fun _ => 0)
    case atStart => rfl
    case round =>
      subst hrel
      go_wp2
      go_ret
      exact ⟨rfl, Below.refl _ _⟩
  · rcases h' with rfl | ⟨g', off', rfl, hg', hc'⟩
    · go_enter Tryz.func26, Tryz.ntmps26
      go_wp2
      go_loop [5] (fun i => i = .int .i64 0) (fun _ => 0)
      case atStart => rfl
      case round =>
        subst hrel
        go_wp2
        go_ret
        exact ⟨rfl, Below.refl _ _⟩
    · have hne : ((l.length : Int) != (l.length : Int)) = false := by simp
      have HC : Hid (∀ i, i < l.length → At5 w g (off + i * 5) (l.getD i z5)) := hc
      have HC' : Hid (∀ i, i < l.length → At5 w g' (off' + i * 5) (l.getD i z5)) := hc'
      clear hc hc'
      go_enter Tryz.func26, Tryz.ntmps26
      go_wp2
      go_loopw [5] (fun i wr => ∃ k : Nat, k ≤ l.length ∧ i = .int .i64 k ∧ Below w.heap.size w wr) (fun i _ => l.length - (intOf i).toNat)
      case atStart => exact ⟨0, Nat.zero_le _, rfl, Below.refl _ _⟩
      case round =>
        obtain ⟨k, hk, rfl, hb⟩ := hrel
        have HB : Hid (Below w.heap.size w wr) := hb
        clear hb
        by_cases hlt : k < l.length
        · obtain ⟨f0, f1, f2, f3, f4⟩ := (HC.out k hlt).keep HB.out (by omega)
          obtain ⟨f0', f1', f2', f3', f4'⟩ := (HC'.out k hlt).keep HB.out (by omega)
          generalize l.getD k z5 = x at f0 f1 f2 f3 f4 f0' f1' f2' f3' f4'
          obtain ⟨xo, xr, xa, xb, xn⟩ := x
          have b0 : (0 : Int) ≤ (k : Int) := by omega
          have b1 : (k : Int) < (l.length : Int) := by omega
          go_wp2_with fail
          first | go_region_with (go_at_call 56; refine (eqStep_same _ _ _ _ _ _).mono ?_; rintro e w1 ⟨rfl, hb1⟩) | fail
          all_goals
            have HB1 : Hid (Below wr.heap.size wr w1) := ⟨hb1.os, hb1.tape, hb1.output, hb1.size, hb1.block⟩
            have hs1 := HB.out.size
            clear hb1
            go_wp2
            go_roundw
            case rel => exact ⟨k + 1, by omega, by go_num, HB.out.trans (HB1.out.mono hs1)⟩
            case measure => simp [intOf]; omega
        · go_wp2
          go_ret
          exact ⟨rfl, HB.out⟩


/- a row of steps, its block between two -/
structure SB5 (w : World) (lo hi : Nat) (v : Value) (l : List I5) : Prop where
  o : OwnT5 w lo v l
  h : ∀ k, v.ownBlock = some k → k < hi
theorem SB5.of {w : World} {lo : Nat} {v : Value} {l : List I5} (h : OwnT5 w lo v l) : SB5 w lo w.heap.size v l := ⟨h, fun _ hk => (World.ownsRow.lt h _ hk).2⟩
theorem SB5.keep {w w' : World} {lo hi : Nat} {v : Value} {l : List I5} (h : SB5 w lo hi v l) (hk : Keep lo hi w w') : SB5 w' lo hi v l := ⟨ownKeep' h.o (fun k e => hk k (World.ownsRow.lt h.o _ e).1 (h.h k e)), h.h⟩
theorem own5_sl {w : World} {lo : Nat} {v : Value} {l : List I5} (h : OwnT5 w lo v l) : ∃ s c, v = .slice s l.length c := by
  rcases h.2 with ⟨h1, h2⟩ | ⟨g, cap, cur, a, -⟩
  · exact ⟨none, 0, by rw [h1, h2]⟩
  · exact ⟨_, _, a⟩
theorem SB5.insB {w : World} {lo hi : Nat} {s : Option Addr} {c : Nat} {l : List I5} (h : SB5 w lo hi (.slice s l.length c) l) : InsB w w.heap.size s l := by
  rcases Nat.eq_zero_or_pos l.length with h0 | hp
  · exact .inl (List.length_eq_zero_iff.1 h0)
  · obtain ⟨g, cap, e, -, hlt⟩ := World.ownsRow.form h.o hp
    injection e with e1 e2 e3
    subst e1
    rcases h.o.insR with e | ⟨g', o', e, -, hl, hc⟩
    · rw [e] at hp; simp at hp
    · injection e with e
      injection e with e1 e2
      subst e1 e2
      exact .inr ⟨g, 0, rfl, hlt, hc⟩
theorem SB5.ints {w : World} {lo hi : Nat} {s : Option Addr} {c : Nat} {l : List I5} (h : SB5 w lo hi (.slice s l.length c) l) : (l.length * 5 = 0 ∨ Somewhere s) ∧ ∀ a ∈ vAs ((⟨s, l.length, c⟩ : VS).wide 5), IntC w lo hi a := by
  rcases Nat.eq_zero_or_pos l.length with h0 | hp
  · refine ⟨.inl (by omega), fun a ha => ?_⟩
    obtain ⟨i, hi', -⟩ := mem_vAs.1 ha
    simp [VS.wide, h0] at hi'
  · obtain ⟨g, cap, e, -, hlt⟩ := World.ownsRow.form h.o hp
    injection e with e1 e2 e3
    subst e1
    refine ⟨.inr ⟨g, 0, rfl⟩, fun a ha => ?_⟩
    obtain ⟨i, hi', rfl⟩ := mem_vAs.1 ha
    have hi2 : i < l.length * 5 := hi'
    have hf : i < (fl5 l).length := by rw [fl5_len]; exact hi2
    have hc := h.o.cellAt (List.getElem?_eq_getElem hf)
    have ea : adr (some ⟨g, 0, none⟩) i = ⟨g, i, none⟩ := by simp [adr]
    show IntC w lo hi (adr (some ⟨g, 0, none⟩) i)
    rw [ea]
    exact ⟨⟨_, hc⟩, World.ownsRow.frozenAt h.o i, (World.ownsRow.lt h.o g rfl).1, h.h g rfl⟩
/- a row of steps that was marked -/
structure MK5 (w : World) (lo hi : Nat) (s : Option Addr) (n c : Nat) (q : Int) : Prop where
  ok : n * 5 = 0 ∨ Somewhere s
  m : MarkedA w (vAs ((⟨s, n, c⟩ : VS).wide 5)) q
  b : ∀ a ∈ vAs ((⟨s, n, c⟩ : VS).wide 5), lo ≤ a.block ∧ a.block < hi
theorem MK5.keep {w w' : World} {lo hi : Nat} {s : Option Addr} {n c : Nat} {q : Int} (h : MK5 w lo hi s n c q) (hk : Keep lo hi w w') : MK5 w' lo hi s n c q :=
  ⟨h.ok, fun p a ha => (hk.cell (h.b a (List.mem_of_getElem? ha)).1 (h.b a (List.mem_of_getElem? ha)).2).trans (h.m p a ha), h.b⟩
theorem mark5_exc {lo hi : Nat} {s : Option Addr} {c : Nat} {l : List I5} {w : World} (h : SB5 w lo hi (.slice s l.length c) l) (hn : l.length ≤ 1000) :
    Calls Tryz.prog 31 #[.slice s l.length c, .int .i64 1] w fun e w' => e = .returned (.int .i64 (1 + (l.length * 5 : Nat))) ∧ MK5 w' lo hi s l.length c 1 ∧ Exc lo hi w w' := by
  obtain ⟨h1, h2⟩ := h.ints
  refine (markSt_any ⟨s, l.length, c⟩ lo hi 1 w h1 h2 (by show l.length * 5 ≤ _; omega) (by omega) (by omega)).mono ?_
  rintro e w' ⟨rfl, hw⟩
  refine ⟨rfl, ⟨h1, hw.at', fun a ha => ?_⟩, hw.os, hw.tape, hw.out, by rw [hw.size]; exact Nat.le_refl _, fun k hk hc => hw.blk k (fun a ha e => ?_)⟩
  · obtain ⟨-, -, q3, q4⟩ := h2 a ha
    exact ⟨q3, q4⟩
  · obtain ⟨-, -, q3, q4⟩ := h2 a ha
    omega
theorem held5_any {lo hi : Nat} {s : Option Addr} {n c : Nat} {w : World} (h : MK5 w lo hi s n c 1) (hn : n ≤ 1000) :
    Calls Tryz.prog 32 #[.slice s n c, .int .i64 1] w fun e w' => e = .returned (.int .i64 (1 + (n * 5 : Nat))) ∧ w' = w :=
  heldSt_any ⟨s, n, c⟩ 1 w h.ok h.m (by show n * 5 ≤ _; omega) (by omega) (by omega)
structure Bo5 (G : Nat) (W : World) (a b c d e : Value) : Prop where
  c0 : W.cell? ⟨G, 0, none⟩ = some a
  c1 : W.cell? ⟨G, 1, none⟩ = some b
  c2 : W.cell? ⟨G, 2, none⟩ = some c
  c3 : W.cell? ⟨G, 3, none⟩ = some d
  c4 : W.cell? ⟨G, 4, none⟩ = some e
theorem Bo5.new (w : World) (a b c d e : Value) (T : TypeId) : ∃ W, w.alloc (.cells #[a, b, c, d, e] T) = W ∧ Bo5 w.heap.size W a b c d e ∧ Below w.heap.size w W ∧ W.heap.size = w.heap.size + 1 :=
  ⟨_, rfl, ⟨by simp [go_sem], by simp [go_sem], by simp [go_sem], by simp [go_sem], by simp [go_sem]⟩, (Below.refl _ _).alloc (Nat.le_refl _) _, by simp⟩
theorem Bo5.keep {G : Nat} {W W' : World} {a b c d e : Value} (h : Bo5 G W a b c d e) (hk : Keep G (G + 1) W W') : Bo5 G W' a b c d e :=
  ⟨(hk.cell (p := ⟨G, 0, none⟩) (Nat.le_refl _) (Nat.lt_succ_self _)).trans h.c0, (hk.cell (p := ⟨G, 1, none⟩) (Nat.le_refl _) (Nat.lt_succ_self _)).trans h.c1, (hk.cell (p := ⟨G, 2, none⟩) (Nat.le_refl _) (Nat.lt_succ_self _)).trans h.c2, (hk.cell (p := ⟨G, 3, none⟩) (Nat.le_refl _) (Nat.lt_succ_self _)).trans h.c3, (hk.cell (p := ⟨G, 4, none⟩) (Nat.le_refl _) (Nat.lt_succ_self _)).trans h.c4⟩
theorem chanM_len (o r a x rm b fr : Int) : (chanM o r a x rm b fr).length ≤ 40 := by
  unfold chanM
  repeat' split
  all_goals
    rw [togL_len]
    simp [lens, lockR, askR, faultR, openR, roundR, putR, letR, triedR, takenR, roundT, keepT, keepR, noneT, noneR, cameR]
theorem emitM_len (caps starts : List Int) (o r a x n fr : Int) : (emitM caps starts o r a x n fr).length ≤ 40 := by
  unfold emitM
  repeat' split
  all_goals first | (exact chanM_len _ _ _ _ _ _ _) | simp
end

section
set_option linter.unusedSimpArgs false
set_option linter.unusedVariables false
set_option maxRecDepth 100000
namespace Plain

def stepB (op r a b n pl : Int) : Bool :=
  decide (0 ≤ r ∧ r ≤ 7 ∧ 0 ≤ b ∧ b ≤ 7 ∧ a ≤ 7 ∧ (0 ≤ a ∨ (a = -1 ∧ (op = 5 ∨ op = 6 ∨ op = 7))) ∧
    ((op = 1 ∧ -1000000000 ≤ n ∧ n ≤ 1000000000 ∧ a = 0 ∧ b = 0)
      ∨ ((op = 2 ∨ op = 3 ∨ op = 4) ∧ n = 0)
      ∨ (op = 5 ∧ 0 ≤ n ∧ n ≤ 23 ∧ b = 0)
      ∨ ((op = 6 ∨ op = 7) ∧ 0 ≤ n ∧ n ≤ 23 ∧ r = 0)
      ∨ (op = 8 ∧ 0 ≤ n ∧ n ≤ 23 ∧ a = 0)
      ∨ (op = 9 ∧ r = 0 ∧ b = 0 ∧ n = 0)
      ∨ (op = 10 ∧ 0 ≤ n ∧ n < pl ∧ r = 0 ∧ a = 0 ∧ b = 0)
      ∨ (op = 11 ∧ 0 ≤ n ∧ n < pl ∧ r = 0 ∧ b = 0)
      ∨ ((op = 12 ∨ op = 13) ∧ r = 0 ∧ a = 0 ∧ b = 0 ∧ n = 0)))

def memB (op : Int) : Bool := decide (op = 5 ∨ op = 6 ∨ op = 7)
def regsB (op r a b : Int) : Bool := decide ((oneB a 8 = true ∨ (a = -1 ∧ memB op = true)) ∧ oneB r 8 = true ∧ oneB b 8 = true)
def nB (op n pl : Int) : Bool := if op = 1 then numB n else if op = 5 ∨ op = 6 ∨ op = 7 ∨ op = 8 then oneB n 24 else if op = 10 ∨ op = 11 then oneB n pl else true
def endB (op : Int) : Bool := decide (op = 10 ∨ op = 12 ∨ op = 13)
def wordI (op r a b n : Int) : Int := op + 16 * r + 256 * (a + 1) + 4096 * b + 65536 * (n + 1000000000)

end Plain
end

end Go.Proofs.YthkpkdehicoikaaGreat
