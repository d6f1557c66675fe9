/- Memories written over with running numbers, place by place, and looked at again. Conditions: fewer than 2^20 + 101 integers. -/
import Derived.Test.YtpcmplckklmeoaaMemDefs
namespace Go.Proofs.Ytpcmplckklmeoaa
set_option linter.unusedSimpArgs false
set_option linter.unusedVariables false
set_option maxRecDepth 100000
open Go.RowKit

structure Wrote (A : List Addr) (q : Int) (w w' : World) : Prop where
  os : w'.os = w.os
  tape : w'.tape = w.tape
  out : w'.output = w.output
  size : w'.heap.size = w.heap.size
  far : ∀ a, a ∉ A → w'.cell? a = w.cell? a
  fz : ∀ a, w'.frozen? a = w.frozen? a
  at' : ∀ (p : Nat) (a : Addr), A[p]? = some a → w'.cell? a = some (.int .i64 (q + p))
  blk : ∀ k, (∀ a ∈ A, a.block ≠ k) → w'.heap[k]? = w.heap[k]?
theorem Wrote.refl (q : Int) (w : World) : Wrote [] q w w := ⟨rfl, rfl, rfl, rfl, fun _ _ => rfl, fun _ => rfl, fun p a h => by simp at h, fun _ _ => rfl⟩
theorem Wrote.push {A : List Addr} {q z : Int} {w w1 : World} {a : Addr} (h : Wrote A q w w1) (ha : a ∉ A) (hc : (w1.cell? a).isSome = true) (hz : z = q + A.length) : Wrote (A ++ [a]) q w (w1.setCell a (.int .i64 z)) := by
  subst hz
  refine ⟨h.os, h.tape, h.out, by simpa using h.size, fun b hb => ?_, fun b => by rw [World.frozen?_setCell]; exact h.fz b, fun p b hb => ?_, fun k hk => ?_⟩
  · simp at hb
    rw [World.cell?_setCell_other _ _ _ _ (fun e => hb.2 e.symm)]
    exact h.far b hb.1
  · rcases getElem?_push hb with hb | ⟨rfl, rfl⟩
    · rw [World.cell?_setCell_other _ _ _ _ (fun e => ha (by rw [e]; exact List.mem_of_getElem? hb))]
      exact h.at' p b hb
    · exact World.cell?_setCell_same' _ _ _ hc
  · rw [Below.heap_setCell _ _ _ k (fun e => hk a (by simp) e.symm)]
    exact h.blk k (fun b hb => hk b (by simp [hb]))
theorem Wrote.app {A B : List Addr} {q : Int} {w w1 w2 : World} (h : Wrote A q w w1) (h' : Wrote B (q + A.length) w1 w2) (hd : ∀ a ∈ A, a ∉ B) : Wrote (A ++ B) q w w2 := by
  refine ⟨h'.os.trans h.os, h'.tape.trans h.tape, h'.out.trans h.out, h'.size.trans h.size, fun b hb => ?_, fun b => (h'.fz b).trans (h.fz b), fun p b hb => ?_, fun k hk => ?_⟩
  · simp at hb
    exact (h'.far b hb.2).trans (h.far b hb.1)
  · by_cases hp : p < A.length
    · rw [List.getElem?_append_left hp] at hb
      exact (h'.far b (hd b (List.mem_of_getElem? hb))).trans (h.at' p b hb)
    · rw [List.getElem?_append_right (by omega)] at hb
      rw [h'.at' _ b hb]
      congr 2
      omega
  · exact (h'.blk k (fun a ha => hk a (by simp [ha]))).trans (h.blk k (fun a ha => hk a (by simp [ha])))

def IntC (w : World) (lo hi : Nat) (a : Addr) : Prop := (∃ z, w.cell? a = some (.int .i64 z)) ∧ w.frozen? a = false ∧ lo ≤ a.block ∧ a.block < hi
def Somewhere (s : Option Addr) : Prop := ∃ g o, s = some ⟨g, o, none⟩
structure ShR (w : World) (lo hi : Nat) (s : Option Addr) (vs : List VS) : Prop where
  rok : vs = [] ∨ Somewhere s
  vie : ∀ (k : Nat) (x : VS), vs[k]? = some x → w.cell? (adr s (k * 2 + 1)) = some (.slice x.s x.n x.c) ∧ lo ≤ (adr s (k * 2 + 1)).block ∧ (adr s (k * 2 + 1)).block < hi
  vok : ∀ (k : Nat) (x : VS), vs[k]? = some x → x.n = 0 ∨ Somewhere x.s
  int : ∀ a ∈ rAs s vs 0, IntC w lo hi a
  nod : (rAs s vs 0).Nodup
structure Sh (w : World) (lo hi : Nat) (so : Option Addr) (S : List RS) : Prop where
  top : S = [] ∨ Somewhere so
  row : ∀ (i : Nat) (r : RS), S[i]? = some r → w.cell? (adr so i) = some (.slice r.s r.vs.length r.c) ∧ lo ≤ (adr so i).block ∧ (adr so i).block < hi
  r : ∀ (i : Nat) (r : RS), S[i]? = some r → ShR w lo hi r.s r.vs
  nod : (mAs S).Nodup
theorem Sh.int {w : World} {lo hi : Nat} {so : Option Addr} {S : List RS} (h : Sh w lo hi so S) : ∀ a ∈ mAs S, IntC w lo hi a := fun a ha => by
  obtain ⟨r, hr, har⟩ := mem_mAs.1 ha
  obtain ⟨i, hi', e⟩ := List.getElem_of_mem hr
  exact (h.r i r (by rw [List.getElem?_eq_getElem hi', e])).int a har
theorem IntC.keep {w w' : World} {lo hi : Nat} {a : Addr} (h : IntC w lo hi a) (hb : Keep lo hi w w') : IntC w' lo hi a := by
  obtain ⟨⟨z, h1⟩, h2, h3, h4⟩ := h
  exact ⟨⟨z, (hb.cell h3 h4).trans h1⟩, (hb.frozen h3 h4).trans h2, h3, h4⟩
theorem ShR.keep {w w' : World} {lo hi : Nat} {s : Option Addr} {vs : List VS} (h : ShR w lo hi s vs) (hb : Keep lo hi w w') : ShR w' lo hi s vs :=
  ⟨h.rok, fun k x hx => by obtain ⟨a, b, c⟩ := h.vie k x hx; exact ⟨(hb.cell b c).trans a, b, c⟩, h.vok, fun a ha => (h.int a ha).keep hb, h.nod⟩
theorem Sh.keep {w w' : World} {lo hi : Nat} {so : Option Addr} {S : List RS} (h : Sh w lo hi so S) (hb : Keep lo hi w w') : Sh w' lo hi so S :=
  ⟨h.top, fun k x hx => by obtain ⟨a, b, c⟩ := h.row k x hx; exact ⟨(hb.cell b c).trans a, b, c⟩, fun i r hr => (h.r i r hr).keep hb, h.nod⟩
/- a call that writes integers over integers leaves every shape -/
theorem Wrote.intc {A : List Addr} {q : Int} {w w' : World} (h : Wrote A q w w') {lo hi : Nat} {a : Addr} (ha : IntC w lo hi a) : IntC w' lo hi a := by
  obtain ⟨⟨z, h1⟩, h2, h3, h4⟩ := ha
  refine ⟨?_, (h.fz a).trans h2, h3, h4⟩
  by_cases hm : a ∈ A
  · obtain ⟨p, hp, e⟩ := List.getElem_of_mem hm
    exact ⟨_, h.at' p a (by rw [List.getElem?_eq_getElem hp, e])⟩
  · exact ⟨z, (h.far a hm).trans h1⟩
theorem Wrote.slice {A : List Addr} {q : Int} {w w' : World} (h : Wrote A q w w') (hA : ∀ a ∈ A, ∃ z, w.cell? a = some (.int .i64 z)) {a : Addr} {s : Option Addr} {n c : Nat} (ha : w.cell? a = some (.slice s n c)) : w'.cell? a = some (.slice s n c) := by
  rw [h.far a (fun hm => by obtain ⟨z, hz⟩ := hA a hm; rw [ha] at hz; injection hz with hz; cases hz)]
  exact ha
theorem Wrote.shr {A : List Addr} {q : Int} {w w' : World} (h : Wrote A q w w') (hA : ∀ a ∈ A, ∃ z, w.cell? a = some (.int .i64 z)) {lo hi : Nat} {s : Option Addr} {vs : List VS} (hs : ShR w lo hi s vs) : ShR w' lo hi s vs :=
  ⟨hs.rok, fun k x hx => by obtain ⟨a, b, c⟩ := hs.vie k x hx; exact ⟨h.slice hA a, b, c⟩, hs.vok, fun a ha => h.intc (hs.int a ha), hs.nod⟩
theorem Wrote.sh {A : List Addr} {q : Int} {w w' : World} (h : Wrote A q w w') (hA : ∀ a ∈ A, ∃ z, w.cell? a = some (.int .i64 z)) {lo hi : Nat} {so : Option Addr} {S : List RS} (hs : Sh w lo hi so S) : Sh w' lo hi so S :=
  ⟨hs.top, fun k x hx => by obtain ⟨a, b, c⟩ := hs.row k x hx; exact ⟨h.slice hA a, b, c⟩, fun i r hr => h.shr hA (hs.r i r hr), hs.nod⟩

theorem rAs_append (s : Option Addr) (b : List VS) : ∀ (a : List VS) (k : Nat), rAs s (a ++ b) k = rAs s a k ++ rAs s b (k + a.length)
  | [], k => by simp [rAs]
  | y :: r, k => by
    have e : k + 1 + r.length = k + (r.length + 1) := by omega
    simp [rAs, rAs_append s b r (k + 1), e]
theorem mAs_append (b : List RS) : ∀ (a : List RS), mAs (a ++ b) = mAs a ++ mAs b
  | [] => by simp [mAs]
  | y :: r => by simp [mAs, mAs_append b r]
theorem rAs_split {s : Option Addr} {vs : List VS} {j : Nat} {x : VS} (h : vs[j]? = some x) : rAs s vs 0 = rAs s (vs.take j) 0 ++ (adr s (j * 2) :: (vAs x ++ rAs s (vs.drop (j + 1)) (j + 1))) := by
  have hj := (List.getElem?_eq_some_iff.1 h).1
  have e : vs = vs.take j ++ (x :: vs.drop (j + 1)) := by
    rw [← (List.getElem?_eq_some_iff.1 h).2, ← List.drop_eq_getElem_cons hj, List.take_append_drop]
  have tl : (vs.take j).length = j := by simp; omega
  have h1 := rAs_append s (x :: vs.drop (j + 1)) (vs.take j) 0
  rw [← e, tl, Nat.zero_add] at h1
  exact h1
theorem rAs_take {s : Option Addr} {vs : List VS} {j : Nat} {x : VS} (h : vs[j]? = some x) : rAs s (vs.take (j + 1)) 0 = rAs s (vs.take j) 0 ++ (adr s (j * 2) :: vAs x) := by
  have hj := (List.getElem?_eq_some_iff.1 h).1
  have tl : (vs.take j).length = j := by simp; omega
  rw [List.take_add_one, h, Option.toList_some, rAs_app, tl, Nat.zero_add]
theorem mAs_split {S : List RS} {j : Nat} {x : RS} (h : S[j]? = some x) : mAs S = mAs (S.take j) ++ (rAs x.s x.vs 0 ++ mAs (S.drop (j + 1))) := by
  have hj := (List.getElem?_eq_some_iff.1 h).1
  have e : S = S.take j ++ (x :: S.drop (j + 1)) := by
    rw [← (List.getElem?_eq_some_iff.1 h).2, ← List.drop_eq_getElem_cons hj, List.take_append_drop]
  have h1 := mAs_append (x :: S.drop (j + 1)) (S.take j)
  rw [← e] at h1
  exact h1
theorem mAs_take {S : List RS} {j : Nat} {x : RS} (h : S[j]? = some x) : mAs (S.take (j + 1)) = mAs (S.take j) ++ rAs x.s x.vs 0 := by
  rw [List.take_add_one, h, Option.toList_some, mAs_app]
theorem rAs_long (s : Option Addr) : ∀ (vs : List VS) (k : Nat), vs.length ≤ (rAs s vs k).length
  | [], k => by simp
  | y :: r, k => by have := rAs_long s r (k + 1); simp [rAs]; omega

set_option maxHeartbeats 1000000 in
theorem markI_any (x : VS) (lo hi : Nat) (q : Int) (w : World) (hok : x.n = 0 ∨ Somewhere x.s) (hint : ∀ a ∈ vAs x, IntC w lo hi a) (hn : x.n ≤ 1048676) (hq : 0 ≤ q) (hq' : q ≤ 1000000000000000) :
    Calls Try.prog 17 #[.slice x.s x.n x.c, .int .i64 q] w fun e w' => e = .returned (.int .i64 (q + x.n)) ∧ Wrote (vAs x) q w w' := by
  obtain ⟨s, n, c⟩ := x
  have HI : Hid (∀ a ∈ vAs ⟨s, n, c⟩, IntC w lo hi a) := hint
  clear hint
  simp only at hok hn
  go_enter Try.func17, Try.ntmps17
  go_wp2
  go_loopw [1, 5] (fun a i wr => ∃ k : Nat, k ≤ n ∧ i = .int .i64 k ∧ a = .int .i64 (q + k) ∧ Wrote (vAs ⟨s, k, c⟩) q w wr) (fun _ i _ => n - (intOf i).toNat)
  case atStart => exact ⟨0, Nat.zero_le _, rfl, by simp, by simpa [vAs] using Wrote.refl q w⟩
  case round =>
    obtain ⟨k, hk, rfl, rfl, hw⟩ := hrel
    have HW : Hid (Wrote (vAs ⟨s, k, c⟩) q w wr) := hw
    clear hw
    by_cases hlt : k < n
    · obtain ⟨g, o, rfl⟩ : Somewhere s := by rcases hok with h | h <;> first | omega | exact h
      have hm : (⟨g, o + k, none⟩ : Addr) ∈ vAs ⟨some ⟨g, o, none⟩, n, c⟩ := mem_vAs.2 ⟨k, hlt, rfl⟩
      obtain ⟨⟨z, hz⟩, hf, -, -⟩ := HW.out.intc (HI.out _ hm)
      have b0 : (0 : Int) ≤ (k : Int) := by omega
      have b1 : (k : Int) < (n : Int) := by omega
      have HZ : Hid (wr.cell? ⟨g, o + k, none⟩ = some (.int .i64 z)) := hz
      clear hm
      go_wp2
      go_roundw
      case rel =>
        refine ⟨k + 1, by omega, by go_num, by go_num, ?_⟩
        have e : vAs ⟨some ⟨g, o, none⟩, k + 1, c⟩ = vAs ⟨some ⟨g, o, none⟩, k, c⟩ ++ [⟨g, o + k, none⟩] := by simp [vAs, List.range_succ, adr]
        rw [e]
        refine HW.out.push (fun hm => ?_) (by rw [HZ.out]; rfl) (by rw [vAs_len])
        obtain ⟨i, hi', ei⟩ := mem_vAs.1 hm
        simp [adr] at ei
        simp at hi'
        omega
      case measure => simp [intOf]; omega
    · go_wp2
      go_ret
      have e : k = n := by omega
      subst e
      exact ⟨rfl, HW.out⟩

set_option maxHeartbeats 1000000 in
theorem markR_any (s : Option Addr) (vs : List VS) (c lo hi : Nat) (q : Int) (w : World) (h : ShR w lo hi s vs) (hn : (rAs s vs 0).length ≤ 1048676) (hq : 0 ≤ q) (hq' : q ≤ 100000000000000) :
    Calls Try.prog 48 #[.slice s vs.length c, .int .i64 q] w fun e w' => e = .returned (.int .i64 (q + (rAs s vs 0).length)) ∧ Wrote (rAs s vs 0) q w w' := by
  have hvl := rAs_long s vs 0
  have H : Hid (ShR w lo hi s vs) := h
  have HN : Hid ((rAs s vs 0).length ≤ 1048676) := hn
  clear h
  go_enter Try.func48, Try.ntmps48
  go_wp2
  go_loopw [1, 5] (fun a i wr => ∃ (j : Nat) (z : Int), j ≤ vs.length ∧ i = .int .i64 j ∧ a = .int .i64 z ∧ 0 ≤ z ∧ z ≤ 200000000000000 ∧ Hid (z = q + (rAs s (vs.take j) 0).length) ∧ Wrote (rAs s (vs.take j) 0) q w wr) (fun _ i _ => vs.length - (intOf i).toNat)
  case atStart => exact ⟨0, q, Nat.zero_le _, rfl, rfl, hq, by omega, show _ = _ by simp [rAs], by simpa [rAs] using Wrote.refl q w⟩
  case round =>
    obtain ⟨j, z, hj, rfl, rfl, hz0, hz1, HZ, hw⟩ := hrel
    have HW : Hid (Wrote (rAs s (vs.take j) 0) q w wr) := hw
    clear hw
    by_cases hlt : j < vs.length
    · obtain ⟨x, hx⟩ : ∃ x, vs[j]? = some x := ⟨_, List.getElem?_eq_getElem hlt⟩
      obtain ⟨g, o, rfl⟩ : Somewhere s := by rcases H.out.rok with h | h <;> first | (rw [h] at hlt; simp at hlt) | exact h
      have sp := rAs_split (s := some ⟨g, o, none⟩) hx
      have hA : ∀ a ∈ rAs (some ⟨g, o, none⟩) (vs.take j) 0, ∃ z, w.cell? a = some (.int .i64 z) := fun a ha => (H.out.int a (by rw [sp]; simp [ha])).1
      have nod := H.out.nod
      rw [sp] at nod
      have hs1 := HW.out.shr hA H.out
      have m1 : (⟨g, o + j * 2, none⟩ : Addr) ∈ rAs (some ⟨g, o, none⟩) vs 0 := by rw [sp]; simp [adr]
      obtain ⟨⟨z0, c0⟩, f0, -, -⟩ := hs1.int _ m1
      have c1 : wr.cell? ⟨g, o + j * 2 + 1, none⟩ = some (.slice x.s x.n x.c) := (hs1.vie j x hx).1
      have d1 : (⟨g, o + j * 2, none⟩ : Addr) ∉ rAs (some ⟨g, o, none⟩) (vs.take j) 0 := fun hm => (List.nodup_append.1 nod).2.2 _ hm _ (by simp [adr]) rfl
      have d2 : ∀ a ∈ rAs (some ⟨g, o, none⟩) (vs.take j) 0 ++ [⟨g, o + j * 2, none⟩], a ∉ vAs x := fun a ha hm => by
        rcases List.mem_append.1 ha with ha | ha
        · exact (List.nodup_append.1 nod).2.2 _ ha _ (by simp [hm]) rfl
        · simp at ha
          subst ha
          have := (List.nodup_cons.1 (List.nodup_append.1 nod).2.1).1
          exact this (by simp [adr] at hm ⊢; exact .inl hm)
      have W1 : Hid (Wrote (rAs (some ⟨g, o, none⟩) (vs.take j) 0 ++ [⟨g, o + j * 2, none⟩]) q w (wr.setCell ⟨g, o + j * 2, none⟩ (.int .i64 z))) := HW.out.push d1 (by rw [c0]; rfl) HZ.out
      have hA1 : ∀ a ∈ rAs (some ⟨g, o, none⟩) (vs.take j) 0 ++ [⟨g, o + j * 2, none⟩], ∃ z, w.cell? a = some (.int .i64 z) := fun a ha => by
        rcases List.mem_append.1 ha with ha | ha
        · exact hA a ha
        · simp at ha
          subst ha
          exact (H.out.int _ m1).1
      have S2 : Hid (ShR (wr.setCell ⟨g, o + j * 2, none⟩ (.int .i64 z)) lo hi (some ⟨g, o, none⟩) vs) := W1.out.shr hA1 H.out
      have XO : Hid (x.n = 0 ∨ Somewhere x.s) := H.out.vok j x hx
      have XI : Hid (∀ a ∈ vAs x, IntC (wr.setCell ⟨g, o + j * 2, none⟩ (.int .i64 z)) lo hi a) := fun a ha => S2.out.int a (by rw [sp]; simp [ha])
      have xn : x.n ≤ 1048676 := by have := HN.out; rw [sp] at this; simp [vAs_len] at this; omega
      have D2 : Hid (∀ a ∈ rAs (some ⟨g, o, none⟩) (vs.take j) 0 ++ [⟨g, o + j * 2, none⟩], a ∉ vAs x) := d2
      have TK : Hid (rAs (some ⟨g, o, none⟩) (vs.take (j + 1)) 0 = rAs (some ⟨g, o, none⟩) (vs.take j) 0 ++ ((⟨g, o + j * 2, none⟩ : Addr) :: vAs x)) := rAs_take hx
      have HB : Hid ((rAs (some ⟨g, o, none⟩) (vs.take j) 0).length + 1 + x.n ≤ 1048676) := by
        have := HN.out
        rw [sp] at this
        simp [vAs_len] at this
        show _ ≤ _
        omega
      have b0 : (0 : Int) ≤ (j : Int) := by omega
      have b1 : (j : Int) < (vs.length : Int) := by omega
      clear sp hA nod hs1 m1 d1 d2 hA1 hx
      go_wp2_with fail
      refine (markI_any x lo hi (z + 1) _ XO.out XI.out xn (by omega) (by omega)).mono ?_
      rintro e w2 ⟨rfl, hw2⟩
      have W2 : Hid (Wrote (rAs (some ⟨g, o, none⟩) (vs.take (j + 1)) 0) q w w2) := by
        have e1 : q + ((rAs (some ⟨g, o, none⟩) (vs.take j) 0 ++ [(⟨g, o + j * 2, none⟩ : Addr)]).length : Int) = z + 1 := by rw [HZ.out]; simp; omega
        have := W1.out.app (by rw [e1]; exact hw2) D2.out
        show Wrote _ _ _ _
        rw [TK.out]
        simpa using this
      have zz : 0 ≤ z + 1 + (x.n : Int) ∧ z + 1 + (x.n : Int) ≤ 200000000000000 := by have h1 := HZ.out; have h2 := HB.out; omega
      have ZZ : Hid (z + 1 + (x.n : Int) = q + (rAs (some ⟨g, o, none⟩) (vs.take (j + 1)) 0).length) := by
        show _ = _
        rw [TK.out, HZ.out]
        simp [vAs_len]
        omega
      clear hw2
      go_wp2
      go_roundw
      case rel => exact ⟨j + 1, _, by omega, by go_num, rfl, zz.1, zz.2, ZZ.out, W2.out⟩
      case measure => simp [intOf]; omega
    · go_wp2
      go_ret
      have e : j = vs.length := by omega
      subst e
      have h1 := HW.out
      have h2 := HZ.out
      rw [List.take_length] at h1 h2
      exact ⟨by rw [h2]; rfl, h1⟩

def MarkedA (w : World) (A : List Addr) (q : Int) : Prop := ∀ (p : Nat) (a : Addr), A[p]? = some a → w.cell? a = some (.int .i64 (q + p))
theorem mAs_long : ∀ (S : List RS) (j : Nat) (x : RS), S[j]? = some x → (mAs (S.take j)).length + (rAs x.s x.vs 0).length ≤ (mAs S).length := fun S j x h => by
  rw [mAs_split h]
  simp
set_option maxHeartbeats 1000000 in
theorem markRs_any (so : Option Addr) (S : List RS) (c lo hi : Nat) (q : Int) (w : World) (h : Sh w lo hi so S) (hs : S.length ≤ 1048676) (hn : (mAs S).length ≤ 1048676) (hq : 0 ≤ q) (hq' : q ≤ 10000000000000) :
    Calls Try.prog 39 #[.slice so S.length c, .int .i64 q] w fun e w' => e = .returned (.int .i64 (q + (mAs S).length)) ∧ Wrote (mAs S) q w w' := by
  have H : Hid (Sh w lo hi so S) := h
  have HN : Hid ((mAs S).length ≤ 1048676) := hn
  clear h
  go_enter Try.func39, Try.ntmps39
  go_wp2
  go_loopw [1, 5] (fun a i wr => ∃ (j : Nat) (z : Int), j ≤ S.length ∧ i = .int .i64 j ∧ a = .int .i64 z ∧ 0 ≤ z ∧ z ≤ 20000000000000 ∧ Hid (z = q + (mAs (S.take j)).length) ∧ Wrote (mAs (S.take j)) q w wr) (fun _ i _ => S.length - (intOf i).toNat)
  case atStart => exact ⟨0, q, Nat.zero_le _, rfl, rfl, hq, by omega, show _ = _ by simp [mAs], by simpa [mAs] using Wrote.refl q w⟩
  case round =>
    obtain ⟨j, z, hj, rfl, rfl, hz0, hz1, HZ, hw⟩ := hrel
    have HW : Hid (Wrote (mAs (S.take j)) q w wr) := hw
    clear hw
    by_cases hlt : j < S.length
    · obtain ⟨x, hx⟩ : ∃ x, S[j]? = some x := ⟨_, List.getElem?_eq_getElem hlt⟩
      obtain ⟨g, o, rfl⟩ : Somewhere so := by rcases H.out.top with h | h <;> first | (rw [h] at hlt; simp at hlt) | exact h
      have sp := mAs_split hx
      have hA : ∀ a ∈ mAs (S.take j), ∃ z, w.cell? a = some (.int .i64 z) := fun a ha => (H.out.int a (by rw [sp]; simp [ha])).1
      have hs1 := HW.out.sh hA H.out
      have c1 : wr.cell? ⟨g, o + j, none⟩ = some (.slice x.s x.vs.length x.c) := (hs1.row j x hx).1
      have SR : Hid (ShR wr lo hi x.s x.vs) := hs1.r j x hx
      have D2 : Hid (∀ a ∈ mAs (S.take j), a ∉ rAs x.s x.vs 0) := fun a ha hm => by
        have nod := H.out.nod
        rw [sp] at nod
        exact (List.nodup_append.1 nod).2.2 _ ha _ (by simp [hm]) rfl
      have TK : Hid (mAs (S.take (j + 1)) = mAs (S.take j) ++ rAs x.s x.vs 0) := mAs_take hx
      have HB : Hid ((mAs (S.take j)).length + (rAs x.s x.vs 0).length ≤ 1048676) := by have h1 := mAs_long S j x hx; have h2 := HN.out; show _ ≤ _; omega
      have xn : (rAs x.s x.vs 0).length ≤ 1048676 := by have := HB.out; omega
      have b0 : (0 : Int) ≤ (j : Int) := by omega
      have b1 : (j : Int) < (S.length : Int) := by omega
      clear sp hA hs1 hx
      go_wp2_with fail
      refine (markR_any x.s x.vs x.c lo hi z wr SR.out xn hz0 (by omega)).mono ?_
      rintro e w2 ⟨rfl, hw2⟩
      have W2 : Hid (Wrote (mAs (S.take (j + 1))) q w w2) := by
        show Wrote _ _ _ _
        rw [TK.out]
        exact HW.out.app (by rw [← HZ.out]; exact hw2) D2.out
      have zz : 0 ≤ z + ((rAs x.s x.vs 0).length : Int) ∧ z + ((rAs x.s x.vs 0).length : Int) ≤ 20000000000000 := by have h1 := HZ.out; have h2 := HB.out; omega
      have ZZ : Hid (z + ((rAs x.s x.vs 0).length : Int) = q + (mAs (S.take (j + 1))).length) := by
        show _ = _
        rw [TK.out, HZ.out]
        simp
        omega
      clear hw2
      go_wp2
      go_roundw
      case rel => exact ⟨j + 1, _, by omega, by go_num, rfl, zz.1, zz.2, ZZ.out, W2.out⟩
      case measure => simp [intOf]; omega
    · go_wp2
      go_ret
      have e : j = S.length := by omega
      subst e
      have h1 := HW.out
      have h2 := HZ.out
      rw [List.take_length] at h1 h2
      exact ⟨by rw [h2]; rfl, h1⟩

/- a memory that was written over -/
structure Mk (w : World) (lo hi : Nat) (so : Option Addr) (S : List RS) (q : Int) : Prop where
  sh : Sh w lo hi so S
  m : MarkedA w (mAs S) q
theorem Mk.keep {w w' : World} {lo hi : Nat} {so : Option Addr} {S : List RS} {q : Int} (h : Mk w lo hi so S q) (hb : Keep lo hi w w') : Mk w' lo hi so S q :=
  ⟨h.sh.keep hb, fun p a ha => by obtain ⟨-, -, b, c⟩ := h.sh.int a (List.mem_of_getElem? ha); exact (hb.cell b c).trans (h.m p a ha)⟩
theorem rAs_sz {w : World} {lo hi : Nat} (s : Option Addr) : ∀ (vs : List VS) (l : List WD) (k : Nat), vs.length = l.length → (∀ (i : Nat) (x : VS) (y : WD), vs[i]? = some x → l[i]? = some y → VO w lo hi x y.vw) → (rAs s vs k).length = l.length + szV l
  | [], [], k, _, _ => by simp [rAs, szV]
  | x :: r, y :: t, k, h, hv => by
    have h1 := rAs_sz s r t (k + 1) (by simpa using h) (fun i a b ha hb => hv (i + 1) a b (by simpa using ha) (by simpa using hb))
    have h2 := (hv 0 x y rfl rfl).n
    simp [rAs, szV, vAs_len, h1, h2]
    omega
  | [], y :: t, k, h, _ => by simp at h
  | x :: r, [], k, h, _ => by simp at h
theorem RO.shr {w : World} {lo hi : Nat} {r : RS} {l : List WD} (h : RO w lo hi r l) : ShR w lo hi r.s r.vs := by
  have at1 : ∀ (k : Nat) (x : VS), r.vs[k]? = some x → ∃ y, l[k]? = some y := fun k x hx => at_same h.n.symm hx
  refine ⟨?_, fun k x hx => ?_, fun k x hx => ?_, fun a ha => ?_, h.d⟩
  · rcases h.c with h0 | ⟨g, o, e, -⟩
    · have := h.n; rw [h0] at this; exact .inl (List.length_eq_zero_iff.1 (by simpa using this))
    · exact .inr ⟨g, o, e⟩
  · obtain ⟨y, hy⟩ := at1 k x hx
    rcases h.c with h0 | ⟨g, o, e, b1, b2, hc⟩
    · rw [h0] at hy; simp at hy
    · rw [e]; exact ⟨(hc k x y hx hy).2.2, b1, b2⟩
  · obtain ⟨y, hy⟩ := at1 k x hx
    have hv := h.v k x y hx hy
    rcases hv.c with h0 | ⟨g, o, e, -⟩
    · exact .inl (by rw [hv.n, h0]; rfl)
    · exact .inr ⟨g, o, e⟩
  · have hb := h.blk ha
    rcases mem_rAs.1 ha with ⟨i, hi', rfl⟩ | ⟨x, hx, hax⟩
    · obtain ⟨x, hx⟩ : ∃ x, r.vs[i]? = some x := ⟨_, List.getElem?_eq_getElem hi'⟩
      obtain ⟨y, hy⟩ := at1 i x hx
      rcases h.c with h0 | ⟨g, o, e, b1, b2, hc⟩
      · rw [h0] at hy; simp at hy
      · obtain ⟨c1, c2, -⟩ := hc i x y hx hy
        rw [Nat.zero_add, e] at hb ⊢
        exact ⟨⟨_, c1⟩, c2, hb.1, hb.2⟩
    · obtain ⟨i, hi', e⟩ := List.getElem_of_mem hx
      have hx' : r.vs[i]? = some x := by rw [List.getElem?_eq_getElem hi', e]
      obtain ⟨y, hy⟩ := at1 i x hx'
      have hv := h.v i x y hx' hy
      obtain ⟨j, hj, rfl⟩ := mem_vAs.1 hax
      rcases hv.c with h0 | ⟨g, o, e, b1, b2, hc⟩
      · have := hv.n; rw [h0] at this; simp at this; omega
      · obtain ⟨c1, c2⟩ := hc j (by rw [← hv.n]; exact hj)
        rw [e] at hb ⊢
        exact ⟨⟨_, c1⟩, c2, hb.1, hb.2⟩
theorem MO.sh {w : World} {lo hi : Nat} {so : Option Addr} {S : List RS} {m : List (List WD)} (h : MO w lo hi so S m) : Sh w lo hi so S := by
  refine ⟨?_, fun k x hx => ?_, fun i r hr => ?_, h.d⟩
  · rcases h.c with h0 | ⟨g, o, e, -⟩
    · have := h.n; rw [h0] at this; exact .inl (List.length_eq_zero_iff.1 (by simpa using this))
    · exact .inr ⟨g, o, e⟩
  · rcases h.c with h0 | ⟨g, o, e, b1, b2, hc⟩
    · have := h.n; rw [h0] at this; have e9 : S = [] := List.length_eq_zero_iff.1 (by simpa using this); rw [e9] at hx; simp at hx
    · rw [e]; exact ⟨hc k x hx, b1, b2⟩
  · obtain ⟨l, hl⟩ := at_same h.n.symm hr
    exact (h.r i r l hr hl).shr
theorem mAs_sz {w : World} {lo hi : Nat} : ∀ (S : List RS) (m : List (List WD)), S.length = m.length → (∀ (i : Nat) (r : RS) (l : List WD), S[i]? = some r → m[i]? = some l → RO w lo hi r l) → (mAs S).length = szR m
  | [], [], _, _ => by simp [mAs, szR]
  | x :: r, y :: t, h, hv => by
    have h1 := mAs_sz r t (by simpa using h) (fun i a b ha hb => hv (i + 1) a b (by simpa using ha) (by simpa using hb))
    have h2 := hv 0 x y rfl rfl
    have h3 := rAs_sz (w := w) (lo := lo) (hi := hi) x.s x.vs y 0 h2.n h2.v
    simp [mAs, szR, h1, h3]
  | [], y :: t, h, _ => by simp at h
  | x :: r, [], h, _ => by simp at h
theorem MO.sz {w : World} {lo hi : Nat} {so : Option Addr} {S : List RS} {m : List (List WD)} (h : MO w lo hi so S m) : (mAs S).length = szR m := mAs_sz S m h.n h.r

set_option maxHeartbeats 1000000 in
theorem markMemory_exc (so : Option Addr) (S : List RS) (m : List (List WD)) (c lo hi : Nat) (q : Int) (w : World) (h : MO w lo hi so S m) (hB : hi ≤ w.heap.size) (hl : m.length + szR m ≤ 1048676) (hq : 0 ≤ q) (hq' : q ≤ 10000000000000) :
    Calls Try.prog 16 #[.agg #[.slice so m.length c], .int .i64 q] w fun e w' => e = .returned (.int .i64 (q + szR m)) ∧ Mk w' lo hi so S q ∧ Exc lo hi w w' := by
  have hz := h.sz
  have hn := h.n
  have k0 : Below w.heap.size w (w.alloc (.cells #[.slice so m.length c] 37)) := (Below.refl _ _).alloc (Nat.le_refl _) _
  have H1 : Hid (Sh (w.alloc (.cells #[.slice so m.length c] 37)) lo hi so S) := h.sh.keep (Keep.of_below k0 hB)
  have HI : Hid (∀ a ∈ mAs S, lo ≤ a.block ∧ a.block < hi) := fun a ha => h.blk ha
  have cm := markRs_any so S c lo hi q (w.alloc (.cells #[.slice so m.length c] 37)) H1.out (by omega) (by omega) hq hq'
  rw [hn, hz] at cm
  have HK : Hid (Below w.heap.size w (w.alloc (.cells #[.slice so m.length c] 37))) := k0
  clear h k0 hz hn
  go_enter Try.func16, Try.ntmps16
  go_wp2_with (go_at_call 39; refine cm.mono ?_; rintro e w1 ⟨rfl, hw1⟩; have HW1 := (show Hid _ from hw1); clear hw1)
  go_ret
  refine ⟨rfl, ⟨HW1.out.sh (fun a ha => (H1.out.int a ha).1) H1.out, HW1.out.at'⟩, HW1.out.os.trans HK.out.os, HW1.out.tape.trans HK.out.tape, HW1.out.out.trans HK.out.output, ?_, fun k hk hc => ?_⟩
  · rw [HW1.out.size]; simp
  · rw [HW1.out.blk k (fun a ha e => by have := HI.out a ha; omega)]
    exact HK.out.block k hk

end Go.Proofs.Ytpcmplckklmeoaa
