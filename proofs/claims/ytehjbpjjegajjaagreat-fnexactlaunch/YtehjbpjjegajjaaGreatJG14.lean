/- Memories written over with running numbers, place by place, and looked at again. Conditions: fewer than 2^20 + 101 integers. Rows of records, each of integers and of rows of integers, as they lie in memory with the places of their integers; how marks go over them. No condition. How the laws copy a list of steps into new memory that may be written. Conditions: lists of at most 1048576 steps. Rows of steps, of cores and of notes as rows of records; boxes of four cells that may be written. No condition. How the laws copy machines into new memory that may be written. Conditions: they are counted. How the laws copy cores into new memory that may be written. Conditions: they are counted. Machines that may be written, and how the laws copy one. Conditions: it is counted. Boxes of four cells that a law keeps. No condition. -/
import Derived.Test.YtehjbpjjegajjaaGreatJG00
import Derived.Test.YtehjbpjjegajjaaGreatJG02
import Derived.Test.YtehjbpjjegajjaaGreatJG12
import Derived.Test.YtehjbpjjegajjaaGreatJG13
import Derived.Test.YtehjbpjjegajjaaGreatJG09
import Derived.Test.YtehjbpjjegajjaaGreatJG01
import Derived.Test.YtehjbpjjegajjaaGreatJG07
namespace Go.Proofs.YtehjbpjjegajjaaGreat
section
set_option linter.unusedSimpArgs false
set_option linter.unusedVariables false
set_option maxRecDepth 100000
open Go.RowKit
theorem Wrote.app {A B : List Addr} {q : Int} {w w1 w2 : World} (h : Wrote A q w w1) (h' : Wrote B (q + A.length) w1 w2) (hd : ∀ a ∈ A, a ∉ B) : Wrote (A ++ B) q w w2 := by
 refine ⟨h'.os.trans h.os, h'.tape.trans h.tape, h'.out.trans h.out, h'.size.trans h.size, fun b hb => ?_, fun b => (h'.fz b).trans (h.fz b), fun p b hb => ?_, fun k hk => ?_⟩
 ·simp at hb
  exact (h'.far b hb.2).trans (h.far b hb.1)
 ·by_cases hp : p < A.length
  ·rw [List.getElem?_append_left hp] at hb
   exact (h'.far b (hd b (List.mem_of_getElem? hb))).trans (h.at' p b hb)
  ·rw [List.getElem?_append_right (by omega)] at hb
   rw [h'.at' _ b hb]
   congr 2
   omega
 ·exact (h'.blk k (fun a ha => hk a (by simp [ha]))).trans (h.blk k (fun a ha => hk a (by simp [ha])))
structure ShR (w : World) (lo hi : Nat) (s : Option Addr) (vs : List VS) : Prop where
 rok : vs = [] ∨ Somewhere s
 vie : ∀ (k : Nat) (x : VS), vs[k]? = some x → w.cell? (adr s (k * 2 + 1)) = some (.slice x.s x.n x.c) ∧ lo ≤ (adr s (k * 2 + 1)).block ∧ (adr s (k * 2 + 1)).block < hi
 vok : ∀ (k : Nat) (x : VS), vs[k]? = some x → x.n = 0 ∨ Somewhere x.s
 int : ∀ a ∈ rAs s vs 0, IntC w lo hi a
 nod : (rAs s vs 0).Nodup
structure Sh (w : World) (lo hi : Nat) (so : Option Addr) (S : List RS) : Prop where
 top : S = [] ∨ Somewhere so
 row : ∀ (i : Nat) (r : RS), S[i]? = some r → w.cell? (adr so i) = some (.slice r.s r.vs.length r.c) ∧ lo ≤ (adr so i).block ∧ (adr so i).block < hi
 r : ∀ (i : Nat) (r : RS), S[i]? = some r → ShR w lo hi r.s r.vs
 nod : (mAs S).Nodup
theorem Sh.int {w : World} {lo hi : Nat} {so : Option Addr} {S : List RS} (h : Sh w lo hi so S) : ∀ a ∈ mAs S, IntC w lo hi a := fun a ha => by
 obtain ⟨r, hr, har⟩ := mem_mAs.1 ha
 obtain ⟨i, hi', e⟩ := List.getElem_of_mem hr
 exact (h.r i r (by rw [List.getElem?_eq_getElem hi', e])).int a har
theorem IntC.keep {w w' : World} {lo hi : Nat} {a : Addr} (h : IntC w lo hi a) (hb : Keep lo hi w w') : IntC w' lo hi a := by
 obtain ⟨⟨z, h1⟩, h2, h3, h4⟩ := h
 exact ⟨⟨z, (hb.cell h3 h4).trans h1⟩, (hb.frozen h3 h4).trans h2, h3, h4⟩
theorem ShR.keep {w w' : World} {lo hi : Nat} {s : Option Addr} {vs : List VS} (h : ShR w lo hi s vs) (hb : Keep lo hi w w') : ShR w' lo hi s vs :=
 ⟨h.rok, fun k x hx => by obtain ⟨a, b, c⟩ := h.vie k x hx; exact ⟨(hb.cell b c).trans a, b, c⟩, h.vok, fun a ha => (h.int a ha).keep hb, h.nod⟩
theorem Sh.keep {w w' : World} {lo hi : Nat} {so : Option Addr} {S : List RS} (h : Sh w lo hi so S) (hb : Keep lo hi w w') : Sh w' lo hi so S :=
 ⟨h.top, fun k x hx => by obtain ⟨a, b, c⟩ := h.row k x hx; exact ⟨(hb.cell b c).trans a, b, c⟩, fun i r hr => (h.r i r hr).keep hb, h.nod⟩
theorem Wrote.slice {A : List Addr} {q : Int} {w w' : World} (h : Wrote A q w w') (hA : ∀ a ∈ A, ∃ z, w.cell? a = some (.int .i64 z)) {a : Addr} {s : Option Addr} {n c : Nat} (ha : w.cell? a = some (.slice s n c)) : w'.cell? a = some (.slice s n c) := by
 rw [h.far a (fun hm => by obtain ⟨z, hz⟩ := hA a hm; rw [ha] at hz; injection hz with hz; cases hz)]
 exact ha
theorem Wrote.shr {A : List Addr} {q : Int} {w w' : World} (h : Wrote A q w w') (hA : ∀ a ∈ A, ∃ z, w.cell? a = some (.int .i64 z)) {lo hi : Nat} {s : Option Addr} {vs : List VS} (hs : ShR w lo hi s vs) : ShR w' lo hi s vs :=
 ⟨hs.rok, fun k x hx => by obtain ⟨a, b, c⟩ := hs.vie k x hx; exact ⟨h.slice hA a, b, c⟩, hs.vok, fun a ha => h.intc (hs.int a ha), hs.nod⟩
theorem Wrote.sh {A : List Addr} {q : Int} {w w' : World} (h : Wrote A q w w') (hA : ∀ a ∈ A, ∃ z, w.cell? a = some (.int .i64 z)) {lo hi : Nat} {so : Option Addr} {S : List RS} (hs : Sh w lo hi so S) : Sh w' lo hi so S :=
 ⟨hs.top, fun k x hx => by obtain ⟨a, b, c⟩ := hs.row k x hx; exact ⟨h.slice hA a, b, c⟩, fun i r hr => h.shr hA (hs.r i r hr), hs.nod⟩
theorem rAs_append (s : Option Addr) (b : List VS) : ∀ (a : List VS) (k : Nat), rAs s (a ++ b) k = rAs s a k ++ rAs s b (k + a.length)
 | [], k => by simp [rAs]
 | y :: r, k => by
  have e : k + 1 + r.length = k + (r.length + 1) := by omega
  simp [rAs, rAs_append s b r (k + 1), e]
theorem mAs_append (b : List RS) : ∀ (a : List RS), mAs (a ++ b) = mAs a ++ mAs b
 | [] => by simp [mAs]
 | y :: r => by simp [mAs, mAs_append b r]
theorem rAs_split {s : Option Addr} {vs : List VS} {j : Nat} {x : VS} (h : vs[j]? = some x) : rAs s vs 0 = rAs s (vs.take j) 0 ++ (adr s (j * 2) :: (vAs x ++ rAs s (vs.drop (j + 1)) (j + 1))) := by
 have hj := (List.getElem?_eq_some_iff.1 h).1
 have e : vs = vs.take j ++ (x :: vs.drop (j + 1)) := by
  rw [← (List.getElem?_eq_some_iff.1 h).2, ← List.drop_eq_getElem_cons hj, List.take_append_drop]
 have tl : (vs.take j).length = j := by simp; omega
 have h1 := rAs_append s (x :: vs.drop (j + 1)) (vs.take j) 0
 rw [← e, tl, Nat.zero_add] at h1
 exact h1
theorem rAs_take {s : Option Addr} {vs : List VS} {j : Nat} {x : VS} (h : vs[j]? = some x) : rAs s (vs.take (j + 1)) 0 = rAs s (vs.take j) 0 ++ (adr s (j * 2) :: vAs x) := by
 have hj := (List.getElem?_eq_some_iff.1 h).1
 have tl : (vs.take j).length = j := by simp; omega
 rw [List.take_add_one, h, Option.toList_some, rAs_app, tl, Nat.zero_add]
theorem mAs_split {S : List RS} {j : Nat} {x : RS} (h : S[j]? = some x) : mAs S = mAs (S.take j) ++ (rAs x.s x.vs 0 ++ mAs (S.drop (j + 1))) := by
 have hj := (List.getElem?_eq_some_iff.1 h).1
 have e : S = S.take j ++ (x :: S.drop (j + 1)) := by
  rw [← (List.getElem?_eq_some_iff.1 h).2, ← List.drop_eq_getElem_cons hj, List.take_append_drop]
 have h1 := mAs_append (x :: S.drop (j + 1)) (S.take j)
 rw [← e] at h1
 exact h1
theorem mAs_take {S : List RS} {j : Nat} {x : RS} (h : S[j]? = some x) : mAs (S.take (j + 1)) = mAs (S.take j) ++ rAs x.s x.vs 0 := by
 rw [List.take_add_one, h, Option.toList_some, mAs_app]
theorem rAs_long (s : Option Addr) : ∀ (vs : List VS) (k : Nat), vs.length ≤ (rAs s vs k).length
 | [], k => by simp
 | y :: r, k => by have := rAs_long s r (k + 1); simp [rAs]; omega
set_option maxHeartbeats 1000000 in
theorem markI_any (x : VS) (lo hi : Nat) (q : Int) (w : World) (hok : x.n = 0 ∨ Somewhere x.s) (hint : ∀ a ∈ vAs x, IntC w lo hi a) (hn : x.n ≤ 2000000) (hq : 0 ≤ q) (hq' : q ≤ 1000000000000000) :
  Calls Tryz.prog 27 #[.slice x.s x.n x.c, .int .i64 q] w fun e w' => e = .returned (.int .i64 (q + x.n)) ∧ Wrote (vAs x) q w w' := by
 obtain ⟨s, n, c⟩ := x
 have HI : Hid (∀ a ∈ vAs ⟨s, n, c⟩, IntC w lo hi a) := hint
 clear hint
 simp only at hok hn
 go_enter Tryz.func27, Tryz.ntmps27
 go_wp2
 go_loopw [1, 5] (fun a i wr => ∃ k : Nat, k ≤ n ∧ i = .int .i64 k ∧ a = .int .i64 (q + k) ∧ Wrote (vAs ⟨s, k, c⟩) q w wr) (fun _ i _ => n - (intOf i).toNat)
 case atStart => exact ⟨0, Nat.zero_le _, rfl, by simp, by simpa [vAs] using Wrote.refl q w⟩
 case round =>
  obtain ⟨k, hk, rfl, rfl, hw⟩ := hrel
  have HW : Hid (Wrote (vAs ⟨s, k, c⟩) q w wr) := hw
  clear hw
  by_cases hlt : k < n
  ·obtain ⟨g, o, rfl⟩ : Somewhere s := by rcases hok with h | h <;> first | omega | exact h
   have hm : (⟨g, o + k, none⟩ : Addr) ∈ vAs ⟨some ⟨g, o, none⟩, n, c⟩ := mem_vAs.2 ⟨k, hlt, rfl⟩
   obtain ⟨⟨z, hz⟩, hf, -, -⟩ := HW.out.intc (HI.out _ hm)
   have b0 : (0 : Int) ≤ (k : Int) := by omega
   have b1 : (k : Int) < (n : Int) := by omega
   have HZ : Hid (wr.cell? ⟨g, o + k, none⟩ = some (.int .i64 z)) := hz
   clear hm
   go_wp2
   go_roundw
   case rel =>
    refine ⟨k + 1, by omega, by go_num, by go_num, ?_⟩
    have e : vAs ⟨some ⟨g, o, none⟩, k + 1, c⟩ = vAs ⟨some ⟨g, o, none⟩, k, c⟩ ++ [⟨g, o + k, none⟩] := by simp [vAs, List.range_succ, adr]
    rw [e]
    refine HW.out.push (fun hm => ?_) (by rw [HZ.out]; rfl) (by rw [vAs_len])
    obtain ⟨i, hi', ei⟩ := mem_vAs.1 hm
    simp [adr] at ei
    simp at hi'
    omega
   case measure => simp [intOf]; omega
  ·go_wp2
   go_ret
   have e : k = n := by omega
   subst e
   exact ⟨rfl, HW.out⟩
set_option maxHeartbeats 1000000 in
theorem heldI_any (x : VS) (q : Int) (w : World) (hok : x.n = 0 ∨ Somewhere x.s) (hint : ∀ i, i < x.n → w.cell? (adr x.s i) = some (.int .i64 (q + i))) (hn : x.n ≤ 2000000) (hq : 0 ≤ q) (hq' : q ≤ 1000000000000000) :
  Calls Tryz.prog 63 #[.slice x.s x.n x.c, .int .i64 q] w fun e w' => e = .returned (.int .i64 (q + x.n)) ∧ w' = w := by
 obtain ⟨s, n, c⟩ := x
 have HI : Hid (∀ i, i < n → w.cell? (adr s i) = some (.int .i64 (q + i))) := hint
 clear hint
 simp only at hok hn
 go_enter Tryz.func63, Tryz.ntmps63
 go_wp2
 go_loop [1, 5] (fun a i => ∃ k : Nat, k ≤ n ∧ i = .int .i64 k ∧ a = .int .i64 (q + k)) (fun _ i => n - (intOf i).toNat)
 case atStart => exact ⟨0, Nat.zero_le _, rfl, by simp⟩
 case round =>
  obtain ⟨k, hk, rfl, rfl⟩ := hrel
  by_cases hlt : k < n
  ·obtain ⟨g, o, rfl⟩ : Somewhere s := by rcases hok with h | h <;> first | omega | exact h
   have c0 : w.cell? ⟨g, o + k, none⟩ = some (.int .i64 (q + k)) := HI.out k hlt
   have b0 : (0 : Int) ≤ (k : Int) := by omega
   have b1 : (k : Int) < (n : Int) := by omega
   go_wp2
   go_round
   case rel => exact ⟨k + 1, by omega, by go_num, by go_num⟩
   case measure => simp [intOf]; omega
  ·go_wp2
   go_ret
   have e : k = n := by omega
   subst e
   exact ⟨rfl, rfl⟩
set_option maxHeartbeats 1000000 in
theorem markR_any (s : Option Addr) (vs : List VS) (c lo hi : Nat) (q : Int) (w : World) (h : ShR w lo hi s vs) (hn : (rAs s vs 0).length ≤ 2000000) (hq : 0 ≤ q) (hq' : q ≤ 100000000000000) :
  Calls Tryz.prog 92 #[.slice s vs.length c, .int .i64 q] w fun e w' => e = .returned (.int .i64 (q + (rAs s vs 0).length)) ∧ Wrote (rAs s vs 0) q w w' := by
 have hvl := rAs_long s vs 0
 have H : Hid (ShR w lo hi s vs) := h
 have HN : Hid ((rAs s vs 0).length ≤ 2000000) := hn
 clear h
 go_enter Tryz.func92, Tryz.ntmps92
 go_wp2
 go_loopw [1, 5] (fun a i wr => ∃ (j : Nat) (z : Int), j ≤ vs.length ∧ i = .int .i64 j ∧ a = .int .i64 z ∧ 0 ≤ z ∧ z ≤ 200000000000000 ∧ Hid (z = q + (rAs s (vs.take j) 0).length) ∧ Wrote (rAs s (vs.take j) 0) q w wr) (fun _ i _ => vs.length - (intOf i).toNat)
 case atStart => exact ⟨0, q, Nat.zero_le _, rfl, rfl, hq, by omega, show _ = _ by simp [rAs], by simpa [rAs] using Wrote.refl q w⟩
 case round =>
  obtain ⟨j, z, hj, rfl, rfl, hz0, hz1, HZ, hw⟩ := hrel
  have HW : Hid (Wrote (rAs s (vs.take j) 0) q w wr) := hw
  clear hw
  by_cases hlt : j < vs.length
  ·obtain ⟨x, hx⟩ : ∃ x, vs[j]? = some x := ⟨_, List.getElem?_eq_getElem hlt⟩
   obtain ⟨g, o, rfl⟩ : Somewhere s := by rcases H.out.rok with h | h <;> first | (rw [h] at hlt; simp at hlt) | exact h
   have sp := rAs_split (s := some ⟨g, o, none⟩) hx
   have hA : ∀ a ∈ rAs (some ⟨g, o, none⟩) (vs.take j) 0, ∃ z, w.cell? a = some (.int .i64 z) := fun a ha => (H.out.int a (by rw [sp]; simp [ha])).1
   have nod := H.out.nod
   rw [sp] at nod
   have hs1 := HW.out.shr hA H.out
   have m1 : (⟨g, o + j * 2, none⟩ : Addr) ∈ rAs (some ⟨g, o, none⟩) vs 0 := by rw [sp]; simp [adr]
   obtain ⟨⟨z0, c0⟩, f0, -, -⟩ := hs1.int _ m1
   have c1 : wr.cell? ⟨g, o + j * 2 + 1, none⟩ = some (.slice x.s x.n x.c) := (hs1.vie j x hx).1
   have d1 : (⟨g, o + j * 2, none⟩ : Addr) ∉ rAs (some ⟨g, o, none⟩) (vs.take j) 0 := fun hm => (List.nodup_append.1 nod).2.2 _ hm _ (by simp [adr]) rfl
   have d2 : ∀ a ∈ rAs (some ⟨g, o, none⟩) (vs.take j) 0 ++ [⟨g, o + j * 2, none⟩], a ∉ vAs x := fun a ha hm => by
    rcases List.mem_append.1 ha with ha | ha
    ·exact (List.nodup_append.1 nod).2.2 _ ha _ (by simp [hm]) rfl
    ·simp at ha
     subst ha
     have := (List.nodup_cons.1 (List.nodup_append.1 nod).2.1).1
     exact this (by simp [adr] at hm ⊢; exact .inl hm)
   have W1 : Hid (Wrote (rAs (some ⟨g, o, none⟩) (vs.take j) 0 ++ [⟨g, o + j * 2, none⟩]) q w (wr.setCell ⟨g, o + j * 2, none⟩ (.int .i64 z))) := HW.out.push d1 (by rw [c0]; rfl) HZ.out
   have hA1 : ∀ a ∈ rAs (some ⟨g, o, none⟩) (vs.take j) 0 ++ [⟨g, o + j * 2, none⟩], ∃ z, w.cell? a = some (.int .i64 z) := fun a ha => by
    rcases List.mem_append.1 ha with ha | ha
    ·exact hA a ha
    ·simp at ha
     subst ha
     exact (H.out.int _ m1).1
   have S2 : Hid (ShR (wr.setCell ⟨g, o + j * 2, none⟩ (.int .i64 z)) lo hi (some ⟨g, o, none⟩) vs) := W1.out.shr hA1 H.out
   have XO : Hid (x.n = 0 ∨ Somewhere x.s) := H.out.vok j x hx
   have XI : Hid (∀ a ∈ vAs x, IntC (wr.setCell ⟨g, o + j * 2, none⟩ (.int .i64 z)) lo hi a) := fun a ha => S2.out.int a (by rw [sp]; simp [ha])
   have xn : x.n ≤ 2000000 := by have := HN.out; rw [sp] at this; simp [vAs_len] at this; omega
   have D2 : Hid (∀ a ∈ rAs (some ⟨g, o, none⟩) (vs.take j) 0 ++ [⟨g, o + j * 2, none⟩], a ∉ vAs x) := d2
   have TK : Hid (rAs (some ⟨g, o, none⟩) (vs.take (j + 1)) 0 = rAs (some ⟨g, o, none⟩) (vs.take j) 0 ++ ((⟨g, o + j * 2, none⟩ : Addr) :: vAs x)) := rAs_take hx
   have HB : Hid ((rAs (some ⟨g, o, none⟩) (vs.take j) 0).length + 1 + x.n ≤ 2000000) := by
    have := HN.out
    rw [sp] at this
    simp [vAs_len] at this
    show _ ≤ _
    omega
   have b0 : (0 : Int) ≤ (j : Int) := by omega
   have b1 : (j : Int) < (vs.length : Int) := by omega
   clear sp hA nod hs1 m1 d1 d2 hA1 hx
   go_wp2_with fail
   refine (markI_any x lo hi (z + 1) _ XO.out XI.out xn (by omega) (by omega)).mono ?_
   rintro e w2 ⟨rfl, hw2⟩
   have W2 : Hid (Wrote (rAs (some ⟨g, o, none⟩) (vs.take (j + 1)) 0) q w w2) := by
    have e1 : q + ((rAs (some ⟨g, o, none⟩) (vs.take j) 0 ++ [(⟨g, o + j * 2, none⟩ : Addr)]).length : Int) = z + 1 := by rw [HZ.out]; simp; omega
    have := W1.out.app (by rw [e1]; exact hw2) D2.out
    show Wrote _ _ _ _
    rw [TK.out]
    simpa using this
   have zz : 0 ≤ z + 1 + (x.n : Int) ∧ z + 1 + (x.n : Int) ≤ 200000000000000 := by have h1 := HZ.out; have h2 := HB.out; omega
   have ZZ : Hid (z + 1 + (x.n : Int) = q + (rAs (some ⟨g, o, none⟩) (vs.take (j + 1)) 0).length) := by
    show _ = _
    rw [TK.out, HZ.out]
    simp [vAs_len]
    omega
   clear hw2
   go_wp2
   go_roundw
   case rel => exact ⟨j + 1, _, by omega, by go_num, rfl, zz.1, zz.2, ZZ.out, W2.out⟩
   case measure => simp [intOf]; omega
  ·go_wp2
   go_ret
   have e : j = vs.length := by omega
   subst e
   have h1 := HW.out
   have h2 := HZ.out
   rw [List.take_length] at h1 h2
   exact ⟨by rw [h2]; rfl, h1⟩
set_option maxHeartbeats 1000000 in
theorem heldR_any (s : Option Addr) (vs : List VS) (c lo hi : Nat) (q : Int) (w : World) (h : ShR w lo hi s vs) (hm : MarkedA w (rAs s vs 0) q) (hn : (rAs s vs 0).length ≤ 2000000) (hq : 0 ≤ q) (hq' : q ≤ 100000000000000) :
  Calls Tryz.prog 93 #[.slice s vs.length c, .int .i64 q] w fun e w' => e = .returned (.int .i64 (q + (rAs s vs 0).length)) ∧ w' = w := by
 have hvl := rAs_long s vs 0
 have H : Hid (ShR w lo hi s vs) := h
 have HM : Hid (MarkedA w (rAs s vs 0) q) := hm
 have HN : Hid ((rAs s vs 0).length ≤ 2000000) := hn
 clear h hm
 go_enter Tryz.func93, Tryz.ntmps93
 go_wp2
 go_loop [1, 5] (fun a i => ∃ (j : Nat) (z : Int), j ≤ vs.length ∧ i = .int .i64 j ∧ a = .int .i64 z ∧ 0 ≤ z ∧ z ≤ 200000000000000 ∧ Hid (z = q + (rAs s (vs.take j) 0).length)) (fun _ i => vs.length - (intOf i).toNat)
 case atStart => exact ⟨0, q, Nat.zero_le _, rfl, rfl, hq, by omega, show _ = _ by simp [rAs]⟩
 case round =>
  obtain ⟨j, z, hj, rfl, rfl, hz0, hz1, HZ⟩ := hrel
  by_cases hlt : j < vs.length
  ·obtain ⟨x, hx⟩ : ∃ x, vs[j]? = some x := ⟨_, List.getElem?_eq_getElem hlt⟩
   obtain ⟨g, o, rfl⟩ : Somewhere s := by rcases H.out.rok with h | h <;> first | (rw [h] at hlt; simp at hlt) | exact h
   have sp := rAs_split (s := some ⟨g, o, none⟩) hx
   have c0 : w.cell? ⟨g, o + j * 2, none⟩ = some (.int .i64 z) := by
    have := HM.out (rAs (some ⟨g, o, none⟩) (vs.take j) 0).length ⟨g, o + j * 2, none⟩ (by rw [sp, List.getElem?_append_right (Nat.le_refl _)]; simp [adr])
    rw [this, HZ.out]
   have c1 : w.cell? ⟨g, o + j * 2 + 1, none⟩ = some (.slice x.s x.n x.c) := (H.out.vie j x hx).1
   have XO : Hid (x.n = 0 ∨ Somewhere x.s) := H.out.vok j x hx
   have XI : Hid (∀ i, i < x.n → w.cell? (adr x.s i) = some (.int .i64 (z + 1 + i))) := fun i hi' => by
    have := HM.out ((rAs (some ⟨g, o, none⟩) (vs.take j) 0).length + (1 + i)) (adr x.s i) (by
     rw [sp, List.getElem?_append_right (by omega)]
     have e : (rAs (some ⟨g, o, none⟩) (vs.take j) 0).length + (1 + i) - (rAs (some ⟨g, o, none⟩) (vs.take j) 0).length = i + 1 := by omega
     rw [e, List.getElem?_cons_succ, List.getElem?_append_left (by rw [vAs_len]; exact hi')]
     exact vAs_at hi')
    rw [this, HZ.out]
    congr 2
    omega
   have xn : x.n ≤ 2000000 := by have := HN.out; rw [sp] at this; simp [vAs_len] at this; omega
   have TK : Hid (rAs (some ⟨g, o, none⟩) (vs.take (j + 1)) 0 = rAs (some ⟨g, o, none⟩) (vs.take j) 0 ++ ((⟨g, o + j * 2, none⟩ : Addr) :: vAs x)) := rAs_take hx
   have HB : Hid ((rAs (some ⟨g, o, none⟩) (vs.take j) 0).length + 1 + x.n ≤ 2000000) := by
    have := HN.out
    rw [sp] at this
    simp [vAs_len] at this
    show _ ≤ _
    omega
   have b0 : (0 : Int) ≤ (j : Int) := by omega
   have b1 : (j : Int) < (vs.length : Int) := by omega
   have hzz : (z != z) = false := by simp
   clear sp hx
   go_wp2_with fail
   refine (heldI_any x (z + 1) w XO.out XI.out xn (by omega) (by omega)).mono ?_
   rintro e w9 ⟨rfl, hw9⟩
   subst w9
   have zz : 0 ≤ z + 1 + (x.n : Int) ∧ z + 1 + (x.n : Int) ≤ 200000000000000 := by have h1 := HZ.out; have h2 := HB.out; omega
   have zn : ¬ z + 1 + (x.n : Int) < 0 := by omega
   have ZZ : Hid (z + 1 + (x.n : Int) = q + (rAs (some ⟨g, o, none⟩) (vs.take (j + 1)) 0).length) := by
    show _ = _
    rw [TK.out, HZ.out]
    simp [vAs_len]
    omega
   go_wp2
   go_round
   case rel => exact ⟨j + 1, _, by omega, by go_num, rfl, zz.1, zz.2, ZZ.out⟩
   case measure => simp [intOf]; omega
  ·go_wp2
   go_ret
   have e : j = vs.length := by omega
   subst e
   have h2 := HZ.out
   rw [List.take_length] at h2
   exact ⟨by rw [h2]; rfl, rfl⟩
theorem mAs_long : ∀ (S : List RS) (j : Nat) (x : RS), S[j]? = some x → (mAs (S.take j)).length + (rAs x.s x.vs 0).length ≤ (mAs S).length := fun S j x h => by
 rw [mAs_split h]
 simp
set_option maxHeartbeats 1000000 in
theorem markRs_any (so : Option Addr) (S : List RS) (c lo hi : Nat) (q : Int) (w : World) (h : Sh w lo hi so S) (hs : S.length ≤ 2000000) (hn : (mAs S).length ≤ 2000000) (hq : 0 ≤ q) (hq' : q ≤ 10000000000000) :
  Calls Tryz.prog 61 #[.slice so S.length c, .int .i64 q] w fun e w' => e = .returned (.int .i64 (q + (mAs S).length)) ∧ Wrote (mAs S) q w w' := by
 have H : Hid (Sh w lo hi so S) := h
 have HN : Hid ((mAs S).length ≤ 2000000) := hn
 clear h
 go_enter Tryz.func61, Tryz.ntmps61
 go_wp2
 go_loopw [1, 5] (fun a i wr => ∃ (j : Nat) (z : Int), j ≤ S.length ∧ i = .int .i64 j ∧ a = .int .i64 z ∧ 0 ≤ z ∧ z ≤ 20000000000000 ∧ Hid (z = q + (mAs (S.take j)).length) ∧ Wrote (mAs (S.take j)) q w wr) (fun _ i _ => S.length - (intOf i).toNat)
 case atStart => exact ⟨0, q, Nat.zero_le _, rfl, rfl, hq, by omega, show _ = _ by simp [mAs], by simpa [mAs] using Wrote.refl q w⟩
 case round =>
  obtain ⟨j, z, hj, rfl, rfl, hz0, hz1, HZ, hw⟩ := hrel
  have HW : Hid (Wrote (mAs (S.take j)) q w wr) := hw
  clear hw
  by_cases hlt : j < S.length
  ·obtain ⟨x, hx⟩ : ∃ x, S[j]? = some x := ⟨_, List.getElem?_eq_getElem hlt⟩
   obtain ⟨g, o, rfl⟩ : Somewhere so := by rcases H.out.top with h | h <;> first | (rw [h] at hlt; simp at hlt) | exact h
   have sp := mAs_split hx
   have hA : ∀ a ∈ mAs (S.take j), ∃ z, w.cell? a = some (.int .i64 z) := fun a ha => (H.out.int a (by rw [sp]; simp [ha])).1
   have hs1 := HW.out.sh hA H.out
   have c1 : wr.cell? ⟨g, o + j, none⟩ = some (.slice x.s x.vs.length x.c) := (hs1.row j x hx).1
   have SR : Hid (ShR wr lo hi x.s x.vs) := hs1.r j x hx
   have D2 : Hid (∀ a ∈ mAs (S.take j), a ∉ rAs x.s x.vs 0) := fun a ha hm => by
    have nod := H.out.nod
    rw [sp] at nod
    exact (List.nodup_append.1 nod).2.2 _ ha _ (by simp [hm]) rfl
   have TK : Hid (mAs (S.take (j + 1)) = mAs (S.take j) ++ rAs x.s x.vs 0) := mAs_take hx
   have HB : Hid ((mAs (S.take j)).length + (rAs x.s x.vs 0).length ≤ 2000000) := by have h1 := mAs_long S j x hx; have h2 := HN.out; show _ ≤ _; omega
   have xn : (rAs x.s x.vs 0).length ≤ 2000000 := by have := HB.out; omega
   have b0 : (0 : Int) ≤ (j : Int) := by omega
   have b1 : (j : Int) < (S.length : Int) := by omega
   clear sp hA hs1 hx
   go_wp2_with fail
   refine (markR_any x.s x.vs x.c lo hi z wr SR.out xn hz0 (by omega)).mono ?_
   rintro e w2 ⟨rfl, hw2⟩
   have W2 : Hid (Wrote (mAs (S.take (j + 1))) q w w2) := by
    show Wrote _ _ _ _
    rw [TK.out]
    exact HW.out.app (by rw [← HZ.out]; exact hw2) D2.out
   have zz : 0 ≤ z + ((rAs x.s x.vs 0).length : Int) ∧ z + ((rAs x.s x.vs 0).length : Int) ≤ 20000000000000 := by have h1 := HZ.out; have h2 := HB.out; omega
   have ZZ : Hid (z + ((rAs x.s x.vs 0).length : Int) = q + (mAs (S.take (j + 1))).length) := by
    show _ = _
    rw [TK.out, HZ.out]
    simp
    omega
   clear hw2
   go_wp2
   go_roundw
   case rel => exact ⟨j + 1, _, by omega, by go_num, rfl, zz.1, zz.2, ZZ.out, W2.out⟩
   case measure => simp [intOf]; omega
  ·go_wp2
   go_ret
   have e : j = S.length := by omega
   subst e
   have h1 := HW.out
   have h2 := HZ.out
   rw [List.take_length] at h1 h2
   exact ⟨by rw [h2]; rfl, h1⟩
set_option maxHeartbeats 1000000 in
theorem heldRs_any (so : Option Addr) (S : List RS) (c lo hi : Nat) (q : Int) (w : World) (h : Sh w lo hi so S) (hm : MarkedA w (mAs S) q) (hs : S.length ≤ 2000000) (hn : (mAs S).length ≤ 2000000) (hq : 0 ≤ q) (hq' : q ≤ 10000000000000) :
  Calls Tryz.prog 64 #[.slice so S.length c, .int .i64 q] w fun e w' => e = .returned (.int .i64 (q + (mAs S).length)) ∧ w' = w := by
 have H : Hid (Sh w lo hi so S) := h
 have HM : Hid (MarkedA w (mAs S) q) := hm
 have HN : Hid ((mAs S).length ≤ 2000000) := hn
 clear h hm
 go_enter Tryz.func64, Tryz.ntmps64
 go_wp2
 go_loop [1, 5] (fun a i => ∃ (j : Nat) (z : Int), j ≤ S.length ∧ i = .int .i64 j ∧ a = .int .i64 z ∧ 0 ≤ z ∧ z ≤ 20000000000000 ∧ Hid (z = q + (mAs (S.take j)).length)) (fun _ i => S.length - (intOf i).toNat)
 case atStart => exact ⟨0, q, Nat.zero_le _, rfl, rfl, hq, by omega, show _ = _ by simp [mAs]⟩
 case round =>
  obtain ⟨j, z, hj, rfl, rfl, hz0, hz1, HZ⟩ := hrel
  by_cases hlt : j < S.length
  ·obtain ⟨x, hx⟩ : ∃ x, S[j]? = some x := ⟨_, List.getElem?_eq_getElem hlt⟩
   obtain ⟨g, o, rfl⟩ : Somewhere so := by rcases H.out.top with h | h <;> first | (rw [h] at hlt; simp at hlt) | exact h
   have sp := mAs_split hx
   have c1 : w.cell? ⟨g, o + j, none⟩ = some (.slice x.s x.vs.length x.c) := (H.out.row j x hx).1
   have SR : Hid (ShR w lo hi x.s x.vs) := H.out.r j x hx
   have MR : Hid (MarkedA w (rAs x.s x.vs 0) z) := fun p a ha => by
    have hp := (List.getElem?_eq_some_iff.1 ha).1
    have := HM.out ((mAs (S.take j)).length + p) a (by
     rw [sp, List.getElem?_append_right (by omega)]
     have e : (mAs (S.take j)).length + p - (mAs (S.take j)).length = p := by omega
     rw [e, List.getElem?_append_left hp]
     exact ha)
    rw [this, HZ.out]
    congr 2
    omega
   have TK : Hid (mAs (S.take (j + 1)) = mAs (S.take j) ++ rAs x.s x.vs 0) := mAs_take hx
   have HB : Hid ((mAs (S.take j)).length + (rAs x.s x.vs 0).length ≤ 2000000) := by have h1 := mAs_long S j x hx; have h2 := HN.out; show _ ≤ _; omega
   have xn : (rAs x.s x.vs 0).length ≤ 2000000 := by have := HB.out; omega
   have b0 : (0 : Int) ≤ (j : Int) := by omega
   have b1 : (j : Int) < (S.length : Int) := by omega
   clear sp hx
   go_wp2_with fail
   refine (heldR_any x.s x.vs x.c lo hi z w SR.out MR.out xn hz0 (by omega)).mono ?_
   rintro e w9 ⟨rfl, hw9⟩
   subst w9
   have zz : 0 ≤ z + ((rAs x.s x.vs 0).length : Int) ∧ z + ((rAs x.s x.vs 0).length : Int) ≤ 20000000000000 := by have h1 := HZ.out; have h2 := HB.out; omega
   have zn : ¬ z + ((rAs x.s x.vs 0).length : Int) < 0 := by omega
   have ZZ : Hid (z + ((rAs x.s x.vs 0).length : Int) = q + (mAs (S.take (j + 1))).length) := by
    show _ = _
    rw [TK.out, HZ.out]
    simp
    omega
   go_wp2
   go_round
   case rel => exact ⟨j + 1, _, by omega, by go_num, rfl, zz.1, zz.2, ZZ.out⟩
   case measure => simp [intOf]; omega
  ·go_wp2
   go_ret
   have e : j = S.length := by omega
   subst e
   have h2 := HZ.out
   rw [List.take_length] at h2
   exact ⟨by rw [h2]; rfl, rfl⟩
theorem rAs_sz {w : World} {lo hi : Nat} (s : Option Addr) : ∀ (vs : List VS) (l : List WD) (k : Nat), vs.length = l.length → (∀ (i : Nat) (x : VS) (y : WD), vs[i]? = some x → l[i]? = some y → VO w lo hi x y.vw) → (rAs s vs k).length = l.length + szV l
 | [], [], k, _, _ => by simp [rAs, szV]
 | x :: r, y :: t, k, h, hv => by
  have h1 := rAs_sz s r t (k + 1) (by simpa using h) (fun i a b ha hb => hv (i + 1) a b (by simpa using ha) (by simpa using hb))
  have h2 := (hv 0 x y rfl rfl).n
  simp [rAs, szV, vAs_len, h1, h2]
  omega
 | [], y :: t, k, h, _ => by simp at h
 | x :: r, [], k, h, _ => by simp at h
theorem RO.shr {w : World} {lo hi : Nat} {r : RS} {l : List WD} (h : RO w lo hi r l) : ShR w lo hi r.s r.vs := by
 have at1 : ∀ (k : Nat) (x : VS), r.vs[k]? = some x → ∃ y, l[k]? = some y := fun k x hx => at_same h.n.symm hx
 refine ⟨?_, fun k x hx => ?_, fun k x hx => ?_, fun a ha => ?_, h.d⟩
 ·rcases h.c with h0 | ⟨g, o, e, -⟩
  ·have := h.n; rw [h0] at this; exact .inl (List.length_eq_zero_iff.1 (by simpa using this))
  ·exact .inr ⟨g, o, e⟩
 ·obtain ⟨y, hy⟩ := at1 k x hx
  rcases h.c with h0 | ⟨g, o, e, b1, b2, hc⟩
  ·rw [h0] at hy; simp at hy
  ·rw [e]; exact ⟨(hc k x y hx hy).2.2, b1, b2⟩
 ·obtain ⟨y, hy⟩ := at1 k x hx
  have hv := h.v k x y hx hy
  rcases hv.c with h0 | ⟨g, o, e, -⟩
  ·exact .inl (by rw [hv.n, h0]; rfl)
  ·exact .inr ⟨g, o, e⟩
 ·have hb := h.blk ha
  rcases mem_rAs.1 ha with ⟨i, hi', rfl⟩ | ⟨x, hx, hax⟩
  ·obtain ⟨x, hx⟩ : ∃ x, r.vs[i]? = some x := ⟨_, List.getElem?_eq_getElem hi'⟩
   obtain ⟨y, hy⟩ := at1 i x hx
   rcases h.c with h0 | ⟨g, o, e, b1, b2, hc⟩
   ·rw [h0] at hy; simp at hy
   ·obtain ⟨c1, c2, -⟩ := hc i x y hx hy
    rw [Nat.zero_add, e] at hb ⊢
    exact ⟨⟨_, c1⟩, c2, hb.1, hb.2⟩
  ·obtain ⟨i, hi', e⟩ := List.getElem_of_mem hx
   have hx' : r.vs[i]? = some x := by rw [List.getElem?_eq_getElem hi', e]
   obtain ⟨y, hy⟩ := at1 i x hx'
   have hv := h.v i x y hx' hy
   obtain ⟨j, hj, rfl⟩ := mem_vAs.1 hax
   rcases hv.c with h0 | ⟨g, o, e, b1, b2, hc⟩
   ·have := hv.n; rw [h0] at this; simp at this; omega
   ·obtain ⟨c1, c2⟩ := hc j (by rw [← hv.n]; exact hj)
    rw [e] at hb ⊢
    exact ⟨⟨_, c1⟩, c2, hb.1, hb.2⟩
theorem MO.sh {w : World} {lo hi : Nat} {so : Option Addr} {S : List RS} {m : List (List WD)} (h : MO w lo hi so S m) : Sh w lo hi so S := by
 refine ⟨?_, fun k x hx => ?_, fun i r hr => ?_, h.d⟩
 ·rcases h.c with h0 | ⟨g, o, e, -⟩
  ·have := h.n; rw [h0] at this; exact .inl (List.length_eq_zero_iff.1 (by simpa using this))
  ·exact .inr ⟨g, o, e⟩
 ·rcases h.c with h0 | ⟨g, o, e, b1, b2, hc⟩
  ·have := h.n; rw [h0] at this; have e9 : S = [] := List.length_eq_zero_iff.1 (by simpa using this); rw [e9] at hx; simp at hx
  ·rw [e]; exact ⟨hc k x hx, b1, b2⟩
 ·obtain ⟨l, hl⟩ := at_same h.n.symm hr
  exact (h.r i r l hr hl).shr
theorem mAs_sz {w : World} {lo hi : Nat} : ∀ (S : List RS) (m : List (List WD)), S.length = m.length → (∀ (i : Nat) (r : RS) (l : List WD), S[i]? = some r → m[i]? = some l → RO w lo hi r l) → (mAs S).length = szR m
 | [], [], _, _ => by simp [mAs, szR]
 | x :: r, y :: t, h, hv => by
  have h1 := mAs_sz r t (by simpa using h) (fun i a b ha hb => hv (i + 1) a b (by simpa using ha) (by simpa using hb))
  have h2 := hv 0 x y rfl rfl
  have h3 := rAs_sz (w := w) (lo := lo) (hi := hi) x.s x.vs y 0 h2.n h2.v
  simp [mAs, szR, h1, h3]
 | [], y :: t, h, _ => by simp at h
 | x :: r, [], h, _ => by simp at h
theorem MO.sz {w : World} {lo hi : Nat} {so : Option Addr} {S : List RS} {m : List (List WD)} (h : MO w lo hi so S m) : (mAs S).length = szR m := mAs_sz S m h.n h.r
end
section
set_option linter.unusedSimpArgs false
set_option linter.unusedVariables false
set_option maxRecDepth 100000
open Go.RowKit
inductive FS where
 | i
 | r (x : VS) (e : Nat)
inductive FV where
 | i (z : Int)
 | r (l : List Int)
def FS.kind : FS → Option Nat
 | .i => none
 | .r _ e => some e
def fAs (a : Addr) : FS → List Addr
 | .i => [a]
 | .r x e => vAs (x.wide e)
def recAs (s : Option Addr) : List FS → Nat → List Addr
 | [], _ => []
 | f :: r, j => fAs (adr s j) f ++ recAs s r (j + 1)
def gAs (s : Option Addr) (wd : Nat) : List (List FS) → Nat → List Addr
 | [], _ => []
 | f :: r, k => recAs s f (k * wd) ++ gAs s wd r (k + 1)
def FO (w : World) (lo hi : Nat) (a : Addr) : FS → FV → Prop
 | .i, .i z => w.cell? a = some (.int .i64 z) ∧ w.frozen? a = false ∧ lo ≤ a.block ∧ a.block < hi
 | .r x e, .r l => w.cell? a = some (.slice x.s x.n x.c) ∧ (lo ≤ a.block ∧ a.block < hi) ∧ VO w lo hi (x.wide e) l
 | _, _ => False
def FSh (w : World) (lo hi : Nat) (a : Addr) : FS → Prop
 | .i => IntC w lo hi a
 | .r x e => w.cell? a = some (.slice x.s x.n x.c) ∧ (lo ≤ a.block ∧ a.block < hi) ∧ (x.n * e = 0 ∨ Somewhere x.s) ∧ ∀ b ∈ vAs (x.wide e), IntC w lo hi b
structure GO (w : World) (lo hi : Nat) (s : Option Addr) (T : List (Option Nat)) (R : List (List FS)) (L : List (List FV)) : Prop where
 n : R.length = L.length
 rok : L = [] ∨ Somewhere s
 t : ∀ (k : Nat) (rec : List FS), R[k]? = some rec → rec.map FS.kind = T
 c : ∀ (k : Nat) (rec : List FS) (vals : List FV), R[k]? = some rec → L[k]? = some vals → rec.length = vals.length ∧ ∀ (j : Nat) (f : FS) (v : FV), rec[j]? = some f → vals[j]? = some v → FO w lo hi (adr s (k * T.length + j)) f v
 o : ∀ rec ∈ R, ∀ x e, FS.r x e ∈ rec → ∀ a ∈ vAs (x.wide e), ∀ g o, s = some ⟨g, o, none⟩ → a.block ≠ g
 d : (gAs s T.length R 0).Nodup
structure GSh (w : World) (lo hi : Nat) (s : Option Addr) (T : List (Option Nat)) (R : List (List FS)) : Prop where
 rok : R = [] ∨ Somewhere s
 t : ∀ (k : Nat) (rec : List FS), R[k]? = some rec → rec.map FS.kind = T
 c : ∀ (k : Nat) (rec : List FS) (j : Nat) (f : FS), R[k]? = some rec → rec[j]? = some f → FSh w lo hi (adr s (k * T.length + j)) f
 d : (gAs s T.length R 0).Nodup
theorem mem_recAs {s : Option Addr} {a : Addr} : ∀ {rec : List FS} {j : Nat}, a ∈ recAs s rec j ↔ ∃ (i : Nat) (f : FS), rec[i]? = some f ∧ a ∈ fAs (adr s (j + i)) f
 | [], j => by simp [recAs]
 | f :: r, j => by
  simp only [recAs, List.mem_append, mem_recAs (rec := r) (j := j + 1)]
  constructor
  ·rintro (h | ⟨i, f', h, e⟩)
   ·exact ⟨0, f, rfl, h⟩
   ·exact ⟨i + 1, f', by simpa using h, by rw [show j + (i + 1) = j + 1 + i by omega]; exact e⟩
  ·rintro ⟨i, f', h, e⟩
   rcases Nat.eq_zero_or_pos i with rfl | hp
   ·simp at h
    subst h
    exact .inl e
   ·obtain ⟨m, rfl⟩ : ∃ m, i = m + 1 := ⟨i - 1, by omega⟩
    exact .inr ⟨m, f', by simpa using h, by rw [show j + 1 + m = j + (m + 1) by omega]; exact e⟩
theorem mem_gAs {s : Option Addr} {wd : Nat} {a : Addr} : ∀ {R : List (List FS)} {k : Nat}, a ∈ gAs s wd R k ↔ ∃ (i : Nat) (rec : List FS) (j : Nat) (f : FS), R[i]? = some rec ∧ rec[j]? = some f ∧ a ∈ fAs (adr s ((k + i) * wd + j)) f
 | [], k => by simp [gAs]
 | r0 :: r, k => by
  simp only [gAs, List.mem_append, mem_gAs (R := r) (k := k + 1), mem_recAs]
  constructor
  ·rintro (⟨j, f, h, e⟩ | ⟨i, rec, j, f, h, h', e⟩)
   ·exact ⟨0, r0, j, f, rfl, h, by simpa using e⟩
   ·exact ⟨i + 1, rec, j, f, by simpa using h, h', by rw [show k + (i + 1) = k + 1 + i by omega]; exact e⟩
  ·rintro ⟨i, rec, j, f, h, h', e⟩
   rcases Nat.eq_zero_or_pos i with rfl | hp
   ·simp at h
    subst h
    exact .inl ⟨j, f, h', by simpa using e⟩
   ·obtain ⟨m, rfl⟩ : ∃ m, i = m + 1 := ⟨i - 1, by omega⟩
    exact .inr ⟨m, rec, j, f, by simpa using h, h', by rw [show k + 1 + m = k + (m + 1) by omega]; exact e⟩
theorem gAs_append (s : Option Addr) (wd : Nat) (b : List (List FS)) : ∀ (a : List (List FS)) (k : Nat), gAs s wd (a ++ b) k = gAs s wd a k ++ gAs s wd b (k + a.length)
 | [], k => by simp [gAs]
 | y :: r, k => by
  have e : k + 1 + r.length = k + (r.length + 1) := by omega
  simp [gAs, gAs_append s wd b r (k + 1), e]
theorem gAs_split {s : Option Addr} {wd : Nat} {R : List (List FS)} {j : Nat} {x : List FS} (h : R[j]? = some x) : gAs s wd R 0 = gAs s wd (R.take j) 0 ++ (recAs s x (j * wd) ++ gAs s wd (R.drop (j + 1)) (j + 1)) := by
 have hj := (List.getElem?_eq_some_iff.1 h).1
 have e : R = R.take j ++ (x :: R.drop (j + 1)) := by
  rw [← (List.getElem?_eq_some_iff.1 h).2, ← List.drop_eq_getElem_cons hj, List.take_append_drop]
 have tl : (R.take j).length = j := by simp; omega
 have h1 := gAs_append s wd (x :: R.drop (j + 1)) (R.take j) 0
 rw [← e, tl, Nat.zero_add] at h1
 exact h1
theorem gAs_take {s : Option Addr} {wd : Nat} {R : List (List FS)} {j : Nat} {x : List FS} (h : R[j]? = some x) : gAs s wd (R.take (j + 1)) 0 = gAs s wd (R.take j) 0 ++ recAs s x (j * wd) := by
 have hj := (List.getElem?_eq_some_iff.1 h).1
 have tl : (R.take j).length = j := by simp; omega
 rw [List.take_add_one, h, Option.toList_some, gAs_append, tl, Nat.zero_add]
 simp [gAs]
theorem gAs_long {s : Option Addr} {wd : Nat} {R : List (List FS)} {j : Nat} {x : List FS} (h : R[j]? = some x) : (gAs s wd (R.take j) 0).length + (recAs s x (j * wd)).length ≤ (gAs s wd R 0).length := by
 rw [gAs_split h]
 simp
theorem FO.keep {w w' : World} {lo hi : Nat} {a : Addr} {f : FS} {v : FV} (h : FO w lo hi a f v) (hb : Keep lo hi w w') : FO w' lo hi a f v := by
 cases f <;> cases v <;> first | exact h | skip
 ·obtain ⟨h1, h2, h3, h4⟩ := h
  exact ⟨(hb.cell h3 h4).trans h1, (hb.frozen h3 h4).trans h2, h3, h4⟩
 ·obtain ⟨h1, ⟨h3, h4⟩, h2⟩ := h
  exact ⟨(hb.cell h3 h4).trans h1, ⟨h3, h4⟩, h2.keep hb⟩
theorem FO.mono {w : World} {lo hi lo' hi' : Nat} {a : Addr} {f : FS} {v : FV} (h : FO w lo hi a f v) (p : lo' ≤ lo) (q : hi ≤ hi') : FO w lo' hi' a f v := by
 cases f <;> cases v <;> first | exact h | skip
 ·obtain ⟨h1, h2, h3, h4⟩ := h
  exact ⟨h1, h2, by omega, by omega⟩
 ·obtain ⟨h1, ⟨h3, h4⟩, h2⟩ := h
  exact ⟨h1, ⟨by omega, by omega⟩, h2.mono p q⟩
theorem GO.keep {w w' : World} {lo hi : Nat} {s : Option Addr} {T : List (Option Nat)} {R : List (List FS)} {L : List (List FV)} (h : GO w lo hi s T R L) (hb : Keep lo hi w w') : GO w' lo hi s T R L :=
 ⟨h.n, h.rok, h.t, fun k rec vals hr hl => ⟨(h.c k rec vals hr hl).1, fun j f v hf hv => ((h.c k rec vals hr hl).2 j f v hf hv).keep hb⟩, h.o, h.d⟩
theorem GO.mono {w : World} {lo hi lo' hi' : Nat} {s : Option Addr} {T : List (Option Nat)} {R : List (List FS)} {L : List (List FV)} (h : GO w lo hi s T R L) (p : lo' ≤ lo) (q : hi ≤ hi') : GO w lo' hi' s T R L :=
 ⟨h.n, h.rok, h.t, fun k rec vals hr hl => ⟨(h.c k rec vals hr hl).1, fun j f v hf hv => ((h.c k rec vals hr hl).2 j f v hf hv).mono p q⟩, h.o, h.d⟩
theorem GO.nil (w : World) (lo hi : Nat) (s : Option Addr) (T : List (Option Nat)) : GO w lo hi s T [] [] :=
 ⟨rfl, .inl rfl, fun k rec h => by simp at h, fun k rec vals h => by simp at h, fun rec h => by simp at h, by simp [gAs]⟩
theorem VO.intc {w : World} {lo hi : Nat} {x : VS} {l : List Int} (h : VO w lo hi x l) {a : Addr} (ha : a ∈ vAs x) : IntC w lo hi a := by
 have hb := h.blk ha
 obtain ⟨i, hi', rfl⟩ := mem_vAs.1 ha
 rcases h.c with e | ⟨g, o, hs, h1, h2, hc⟩
 ·have := h.n; rw [e] at this; simp at this; omega
 ·obtain ⟨c1, c2⟩ := hc i (by rw [← h.n]; exact hi')
  rw [hs] at hb ⊢
  exact ⟨⟨_, c1⟩, c2, hb.1, hb.2⟩
theorem FO.sh {w : World} {lo hi : Nat} {a : Addr} {f : FS} {v : FV} (h : FO w lo hi a f v) : FSh w lo hi a f := by
 cases f <;> cases v <;> first | exact False.elim h | skip
 ·obtain ⟨h1, h2, h3, h4⟩ := h
  exact ⟨⟨_, h1⟩, h2, h3, h4⟩
 ·obtain ⟨h1, h34, h2⟩ := h
  refine ⟨h1, h34, ?_, fun b hb => h2.intc hb⟩
  rcases h2.c with e | ⟨g, o, hs, -⟩
  ·have := h2.n; rw [e] at this; exact .inl this
  ·exact .inr ⟨g, o, hs⟩
theorem FSh.int {w : World} {lo hi : Nat} {a b : Addr} {f : FS} (h : FSh w lo hi a f) (hb : b ∈ fAs a f) : IntC w lo hi b := by
 cases f with
 | i => simp [fAs] at hb; subst hb; exact h
 | r x e => exact h.2.2.2 b hb
theorem GSh.int {w : World} {lo hi : Nat} {s : Option Addr} {T : List (Option Nat)} {R : List (List FS)} (h : GSh w lo hi s T R) : ∀ a ∈ gAs s T.length R 0, IntC w lo hi a := fun a ha => by
 obtain ⟨i, rec, j, f, h1, h2, h3⟩ := mem_gAs.1 ha
 rw [Nat.zero_add] at h3
 exact (h.c i rec j f h1 h2).int h3
theorem GO.sh {w : World} {lo hi : Nat} {s : Option Addr} {T : List (Option Nat)} {R : List (List FS)} {L : List (List FV)} (h : GO w lo hi s T R L) : GSh w lo hi s T R := by
 refine ⟨?_, h.t, fun k rec j f hr hf => ?_, h.d⟩
 ·rcases h.rok with e | e
  ·have := h.n; rw [e] at this; exact .inl (List.length_eq_zero_iff.1 (by simpa using this))
  ·exact .inr e
 ·obtain ⟨vals, hv⟩ := at_same h.n.symm hr
  obtain ⟨h1, h2⟩ := h.c k rec vals hr hv
  obtain ⟨v, hv'⟩ := at_same h1.symm hf
  exact (h2 j f v hf hv').sh
theorem GO.blk {w : World} {lo hi : Nat} {s : Option Addr} {T : List (Option Nat)} {R : List (List FS)} {L : List (List FV)} (h : GO w lo hi s T R L) {a : Addr} (ha : a ∈ gAs s T.length R 0) : lo ≤ a.block ∧ a.block < hi := by
 obtain ⟨-, -, h3, h4⟩ := h.sh.int a ha
 exact ⟨h3, h4⟩
theorem FSh.keep {w w' : World} {lo hi : Nat} {a : Addr} {f : FS} (h : FSh w lo hi a f) (hb : Keep lo hi w w') : FSh w' lo hi a f := by
 cases f with
 | i => exact IntC.keep h hb
 | r x e => exact ⟨(hb.cell h.2.1.1 h.2.1.2).trans h.1, h.2.1, h.2.2.1, fun b hm => (h.2.2.2 b hm).keep hb⟩
theorem GSh.keep {w w' : World} {lo hi : Nat} {s : Option Addr} {T : List (Option Nat)} {R : List (List FS)} (h : GSh w lo hi s T R) (hb : Keep lo hi w w') : GSh w' lo hi s T R :=
 ⟨h.rok, h.t, fun k rec j f hr hf => (h.c k rec j f hr hf).keep hb, h.d⟩
theorem Wrote.fsh {A : List Addr} {q : Int} {w w' : World} (h : Wrote A q w w') (hA : ∀ a ∈ A, ∃ z, w.cell? a = some (.int .i64 z)) {lo hi : Nat} {a : Addr} {f : FS} (hs : FSh w lo hi a f) : FSh w' lo hi a f := by
 cases f with
 | i => exact h.intc hs
 | r x e => exact ⟨h.slice hA hs.1, hs.2.1, hs.2.2.1, fun b hm => h.intc (hs.2.2.2 b hm)⟩
theorem Wrote.gsh {A : List Addr} {q : Int} {w w' : World} (h : Wrote A q w w') (hA : ∀ a ∈ A, ∃ z, w.cell? a = some (.int .i64 z)) {lo hi : Nat} {s : Option Addr} {T : List (Option Nat)} {R : List (List FS)} (hs : GSh w lo hi s T R) : GSh w' lo hi s T R :=
 ⟨hs.rok, hs.t, fun k rec j f hr hf => h.fsh hA (hs.c k rec j f hr hf), hs.d⟩
/- a record put behind a row -/
theorem GO.push {w w2 : World} {lo hi : Nat} {s : Option Addr} {T : List (Option Nat)} {R : List (List FS)} {L : List (List FV)} (rec : List FS) (vals : List FV) (h : GO w lo hi s T R L)
  (hs : Somewhere s) (hk : rec.map FS.kind = T) (hl : rec.length = vals.length)
  (hold : ∀ (k : Nat) (r : List FS) (v : List FV) (j : Nat) (f : FS) (y : FV), R[k]? = some r → L[k]? = some v → r[j]? = some f → v[j]? = some y → FO w lo hi (adr s (k * T.length + j)) f y → FO w2 lo hi (adr s (k * T.length + j)) f y)
  (hnew : ∀ (j : Nat) (f : FS) (v : FV), rec[j]? = some f → vals[j]? = some v → FO w2 lo hi (adr s (L.length * T.length + j)) f v)
  (ho : ∀ x e, FS.r x e ∈ rec → ∀ a ∈ vAs (x.wide e), ∀ g o, s = some ⟨g, o, none⟩ → a.block ≠ g)
  (hn : (recAs s rec (L.length * T.length)).Nodup) (hd : ∀ a ∈ gAs s T.length R 0, a ∉ recAs s rec (L.length * T.length)) : GO w2 lo hi s T (R ++ [rec]) (L ++ [vals]) := by
 have hlen := h.n
 have ga : gAs s T.length (R ++ [rec]) 0 = gAs s T.length R 0 ++ recAs s rec (L.length * T.length) := by rw [gAs_append, hlen, Nat.zero_add]; simp [gAs]
 refine ⟨by simp [hlen], .inr hs, fun k r hr => ?_, fun k r v hr hv => ?_, fun r hr => ?_, ?_⟩
 ·rcases getElem?_push hr with hr | ⟨-, rfl⟩
  ·exact h.t k r hr
  ·exact hk
 ·rcases getElem?_push hr with hr | ⟨e1, rfl⟩
  ·rcases getElem?_push hv with hv | ⟨e2, rfl⟩
   ·refine ⟨(h.c k r v hr hv).1, fun j f y hf hy => ?_⟩
    exact hold k r v j f y hr hv hf hy ((h.c k r v hr hv).2 j f y hf hy)
   ·have := (List.getElem?_eq_some_iff.1 hr).1
    omega
  ·rcases getElem?_push hv with hv | ⟨e2, rfl⟩
   ·have := (List.getElem?_eq_some_iff.1 hv).1
    omega
   ·refine ⟨hl, fun j f y hf hy => ?_⟩
    rw [e2]
    exact hnew j f y hf hy
 ·rcases List.mem_append.1 hr with hr | hr
  ·exact h.o r hr
  ·simp at hr
   subst hr
   exact ho
 ·rw [ga]
  refine List.nodup_append.2 ⟨h.d, hn, fun a ha b hb e => ?_⟩
  subst e
  exact hd a ha hb
end
section
set_option linter.unusedSimpArgs false
set_option linter.unusedVariables false
set_option maxRecDepth 100000
open Go.RowKit
def codeV (l : List I5) : List FV := [.r (fl5 l)]
def coreV (k : KD) : List FV := [.i k.pc, .r k.regs, .r k.vw, .i k.st]
def TC : List (Option Nat) := [some 5]
def TK : List (Option Nat) := [none, some 1, some 1, none]
def fl2 : List ND → List Int
 | [] => []
 | x :: r => [x.who, x.v] ++ fl2 r
theorem fl2_len : ∀ l : List ND, (fl2 l).length = l.length * 2
 | [] => rfl
 | x :: r => by simp [fl2, fl2_len r]; omega
theorem wide_one (x : VS) : x.wide 1 = x := by cases x; simp [VS.wide]
/- a row that is owned whole -/
theorem own_vo {w : World} {base n size : Nat} {e : TypeId} {v : Value} {l : List Int} (h : w.ownsRow base e size v n (l.map (Value.int .i64))) (hl : l.length = n * size) : ∃ s c, v = .slice s n c ∧ VO w base w.heap.size ((⟨s, n, c⟩ : VS).wide size) l := by
 rcases Nat.eq_zero_or_pos n with h0 | hpos
 ·subst h0
  obtain ⟨s, c, e⟩ := ownSl h
  exact ⟨s, c, e, ⟨by simp [VS.wide, hl], .inl (List.length_eq_zero_iff.1 (by simpa using hl))⟩⟩
 ·obtain ⟨g, cap, rfl, -⟩ := World.ownsRow.form h hpos
  have hlt := World.ownsRow.lt h g rfl
  refine ⟨_, _, rfl, ⟨by simp [VS.wide, hl], .inr ⟨g, 0, rfl, hlt.1, hlt.2, fun i hi => ?_⟩⟩⟩
  rw [Nat.zero_add]
  refine ⟨?_, World.ownsRow.frozenAt h i⟩
  rw [World.ownsRow.cellAt h i (by omega), List.getElem?_map, List.getD_eq_getElem?_getD, List.getElem?_eq_getElem hi]
  rfl
/- reading what is owned -/
theorem VO.insR {w : World} {lo hi : Nat} {s : Option Addr} {c : Nat} {l : List I5} (h : VO w lo hi ((⟨s, l.length, c⟩ : VS).wide 5) (fl5 l)) : InsR w lo hi s l := by
 rcases h.c with e | ⟨g, o, hs, h1, h2, hc⟩
 ·have := fl5_len l
  rw [e] at this
  exact .inl (List.length_eq_zero_iff.1 (by simp at this; omega))
 ·refine .inr ⟨g, o, hs, h1, h2, fun i hi => ?_⟩
  have hx : l[i]? = some (l.getD i z5) := by rw [List.getD_eq_getElem?_getD, List.getElem?_eq_getElem hi]; rfl
  obtain ⟨e0, e1, e2, e3, e4⟩ := fl5_at l i _ hx
  have q : ∀ j, j < 5 → w.cell? ⟨g, o + i * 5 + j, none⟩ = some (.int .i64 ((fl5 l).getD (i * 5 + j) 0)) := fun j hj => by
   have := (hc (i * 5 + j) (by rw [fl5_len]; omega)).1
   rw [← Nat.add_assoc] at this
   exact this
  have q0 := q 0 (by omega)
  have q1 := q 1 (by omega)
  have q2 := q 2 (by omega)
  have q3 := q 3 (by omega)
  have q4 := q 4 (by omega)
  rw [List.getD_eq_getElem?_getD] at q0 q1 q2 q3 q4
  rw [Nat.add_zero, Nat.add_zero, e0] at q0
  rw [e1] at q1
  rw [e2] at q2
  rw [e3] at q3
  rw [e4] at q4
  exact ⟨q0, q1, q2, q3, q4⟩
theorem kindC {rec : List FS} (h : rec.map FS.kind = TC) : ∃ x, rec = [.r x 5] := by
 match rec, h with
 | [.r x e], h =>
  simp [TC, FS.kind] at h
  exact ⟨x, by rw [h]⟩
 | [.i], h => simp [TC, FS.kind] at h
 | [], h => simp [TC] at h
 | _ :: _ :: _, h => simp [TC] at h
theorem kindK {rec : List FS} (h : rec.map FS.kind = TK) : ∃ x y, rec = [.i, .r x 1, .r y 1, .i] := by
 match rec, h with
 | [.i, .r x e, .r y e', .i], h =>
  simp [TK, FS.kind] at h
  exact ⟨x, y, by rw [h.1, h.2]⟩
 | [], h => simp [TK] at h
 | [_], h => simp [TK] at h
 | [_, _], h => simp [TK] at h
 | [_, _, _], h => simp [TK] at h
 | .r _ _ :: _ :: _ :: _ :: _, h => simp [TK, FS.kind] at h
 | .i :: .i :: _ :: _ :: _, h => simp [TK, FS.kind] at h
 | .i :: .r _ _ :: .i :: _ :: _, h => simp [TK, FS.kind] at h
 | .i :: .r _ _ :: .r _ _ :: .r _ _ :: _, h => simp [TK, FS.kind] at h
 | .i :: .r _ _ :: .r _ _ :: .i :: _ :: _, h => simp [TK, FS.kind] at h
theorem GO.csR {w : World} {lo hi : Nat} {s : Option Addr} {R : List (List FS)} {l : List (List I5)} (h : GO w lo hi s TC R (l.map codeV)) : CsR w lo hi s l := by
 rcases h.rok with e | ⟨g, o, rfl⟩
 ·exact .inl (by simpa using e)
 ·rcases Nat.eq_zero_or_pos l.length with h0 | hpos
  ·exact .inl (List.length_eq_zero_iff.1 h0)
  have at1 : ∀ i x, l[i]? = some x → CR w lo hi g (o + i) x ∧ lo ≤ g ∧ g < hi := fun i x hx => by
   have hv : (l.map codeV)[i]? = some (codeV x) := by rw [List.getElem?_map, hx]; rfl
   obtain ⟨rec, hr⟩ := at_same h.n hv
   obtain ⟨y, rfl⟩ := kindC (h.t i rec hr)
   have q := (h.c i _ _ hr hv).2 0 (.r y 5) (.r (fl5 x)) rfl rfl
   obtain ⟨q1, q2, q3⟩ := q
   have hn : y.n = x.length := by
    have := q3.n
    rw [fl5_len] at this
    simp [VS.wide] at this
    omega
   obtain ⟨ys, yn, yc⟩ := y
   simp only at hn
   subst hn
   refine ⟨⟨ys, yc, ?_, q3.insR⟩, q2⟩
   simpa [adr, TC] using q1
  have h0 := at1 0 _ (List.getElem?_eq_getElem hpos)
  exact .inr ⟨g, o, rfl, h0.2.1, h0.2.2, fun i x hx => (at1 i x hx).1⟩
theorem GO.ksR {w : World} {lo hi : Nat} {s : Option Addr} {R : List (List FS)} {l : List KD} (h : GO w lo hi s TK R (l.map coreV)) : KsR w lo hi s l := by
 rcases h.rok with e | ⟨g, o, rfl⟩
 ·exact .inl (by simpa using e)
 ·rcases Nat.eq_zero_or_pos l.length with h0 | hpos
  ·exact .inl (List.length_eq_zero_iff.1 h0)
  have at1 : ∀ i x, l[i]? = some x → KR w lo hi g (o + i * 4) x ∧ lo ≤ g ∧ g < hi := fun i x hx => by
   have hv : (l.map coreV)[i]? = some (coreV x) := by rw [List.getElem?_map, hx]; rfl
   obtain ⟨rec, hr⟩ := at_same h.n hv
   obtain ⟨y, y', rfl⟩ := kindK (h.t i rec hr)
   have q := (h.c i _ _ hr hv).2
   have q0 := q 0 .i (.i x.pc) rfl rfl
   have q1 := q 1 (.r y 1) (.r x.regs) rfl rfl
   have q2 := q 2 (.r y' 1) (.r x.vw) rfl rfl
   have q3 := q 3 .i (.i x.st) rfl rfl
   obtain ⟨a1, a2, a3⟩ := q1
   obtain ⟨b1, b2, b3⟩ := q2
   rw [wide_one] at a3 b3
   have n1 := a3.n
   have n2 := b3.n
   obtain ⟨ys, yn, yc⟩ := y
   obtain ⟨zs, zn, zc⟩ := y'
   simp only at n1 n2
   subst n1 n2
   have e : ∀ j, o + (i * 4 + j) = o + i * 4 + j := fun j => by omega
   simp only [adr, TK, List.length, e] at q0 a1 b1 q3 a2
   exact ⟨⟨ys, yc, zs, zc, q0.1, a1, b1, q3.1, a3.ints, b3.ints⟩, a2⟩
  have h0 := at1 0 _ (List.getElem?_eq_getElem hpos)
  exact .inr ⟨g, o, rfl, h0.2.1, h0.2.2, fun i x hx => (at1 i x hx).1⟩
theorem fl2_at : ∀ (l : List ND) (i : Nat) (x : ND), l[i]? = some x → (fl2 l)[i * 2]? = some x.who ∧ (fl2 l)[i * 2 + 1]? = some x.v
 | [], i, x, h => by simp at h
 | y :: r, 0, x, h => by
  simp at h
  subst h
  exact ⟨rfl, rfl⟩
 | y :: r, i + 1, x, h => by
  have h' : r[i]? = some x := by simpa using h
  have e := fl2_at r i x h'
  have e0 : (i + 1) * 2 = i * 2 + 2 := by omega
  rw [e0]
  exact e
theorem VO.ntsR {w : World} {lo hi : Nat} {s : Option Addr} {n c : Nat} {l : List ND} (h : VO w lo hi ((⟨s, n, c⟩ : VS).wide 2) (fl2 l)) : NtsR w lo hi s l := by
 rcases h.c with e | ⟨g, o, hs, h1, h2, hc⟩
 ·have := fl2_len l
  rw [e] at this
  exact .inl (List.length_eq_zero_iff.1 (by simp at this; omega))
 ·refine .inr ⟨g, o, hs, h1, h2, fun i x hx => ?_⟩
  have hi := (List.getElem?_eq_some_iff.1 hx).1
  obtain ⟨e0, e1⟩ := fl2_at l i _ hx
  have q0 := (hc (i * 2) (by rw [fl2_len]; omega)).1
  have q1 := (hc (i * 2 + 1) (by rw [fl2_len]; omega)).1
  rw [List.getD_eq_getElem?_getD] at q0 q1
  rw [e0] at q0
  rw [e1] at q1
  exact ⟨q0, q1⟩
/- a box of four cells that may be written -/
structure X4 (w : World) (b : Nat) (v0 v1 v2 v3 : Value) : Prop where
 x : B4 w b v0 v1 v2 v3
 fz : ∀ j, w.frozen? ⟨b, j, none⟩ = false
theorem X4.keep {w w' : World} {b : Nat} {v0 v1 v2 v3 : Value} (h : X4 w b v0 v1 v2 v3) {B : Nat} (hb : Below B w w') (hB : b < B) : X4 w' b v0 v1 v2 v3 :=
 ⟨h.x.keep hb hB, fun j => (hb.frozen (p := ⟨b, j, none⟩) hB).trans (h.fz j)⟩
theorem X4.set0 {w : World} {b : Nat} {v0 v1 v2 v3 u : Value} (h : X4 w b v0 v1 v2 v3) : X4 (w.setCell ⟨b, 0, none⟩ u) b u v1 v2 v3 :=
 ⟨⟨by simpa using h.x.z, setC_at (by rw [h.x.c0]; rfl), (setC_off (by omega)).trans h.x.c1, (setC_off (by omega)).trans h.x.c2, (setC_off (by omega)).trans h.x.c3⟩, fun j => by rw [World.frozen?_setCell]; exact h.fz j⟩
theorem X4.set1 {w : World} {b : Nat} {v0 v1 v2 v3 u : Value} (h : X4 w b v0 v1 v2 v3) : X4 (w.setCell ⟨b, 1, none⟩ u) b v0 u v2 v3 :=
 ⟨⟨by simpa using h.x.z, (setC_off (by omega)).trans h.x.c0, setC_at (by rw [h.x.c1]; rfl), (setC_off (by omega)).trans h.x.c2, (setC_off (by omega)).trans h.x.c3⟩, fun j => by rw [World.frozen?_setCell]; exact h.fz j⟩
theorem X4.set2 {w : World} {b : Nat} {v0 v1 v2 v3 u : Value} (h : X4 w b v0 v1 v2 v3) : X4 (w.setCell ⟨b, 2, none⟩ u) b v0 v1 u v3 :=
 ⟨⟨by simpa using h.x.z, (setC_off (by omega)).trans h.x.c0, (setC_off (by omega)).trans h.x.c1, setC_at (by rw [h.x.c2]; rfl), (setC_off (by omega)).trans h.x.c3⟩, fun j => by rw [World.frozen?_setCell]; exact h.fz j⟩
theorem X4.set3 {w : World} {b : Nat} {v0 v1 v2 v3 u : Value} (h : X4 w b v0 v1 v2 v3) : X4 (w.setCell ⟨b, 3, none⟩ u) b v0 v1 v2 u :=
 ⟨⟨by simpa using h.x.z, (setC_off (by omega)).trans h.x.c0, (setC_off (by omega)).trans h.x.c1, (setC_off (by omega)).trans h.x.c2, setC_at (by rw [h.x.c3]; rfl)⟩, fun j => by rw [World.frozen?_setCell]; exact h.fz j⟩
theorem X4.new (w : World) (v0 v1 v2 v3 : Value) (T : TypeId) : ∃ W, w.alloc (.cells #[v0, v1, v2, v3] T) = W ∧ X4 W w.heap.size v0 v1 v2 v3 ∧ Below w.heap.size w W ∧ w.heap.size < W.heap.size := by
 refine ⟨_, rfl, ⟨⟨?_, ?_, ?_, ?_, ?_⟩, ?_⟩, (Below.refl _ _).alloc (Nat.le_refl _) _, ?_⟩ <;> first | (simp [go_sem]; done) | (intro j; simp [go_sem])
structure MP where
 s1 : Option Addr
 c1 : Nat
 RC : List (List FS)
 s2 : Option Addr
 c2 : Nat
 RK : List (List FS)
 s3 : Option Addr
 c3 : Nat
 S : List RS
 s4 : Option Addr
 c4 : Nat
def MP.x4 (p : MP) (d : MD) : VS := (⟨p.s4, d.tr.length, p.c4⟩ : VS).wide 2
def MP.as (p : MP) (d : MD) : List Addr := gAs p.s1 TC.length p.RC 0 ++ (gAs p.s2 TK.length p.RK 0 ++ (mAs p.S ++ vAs (p.x4 d)))
structure MaO (w : World) (lo hi : Nat) (p : MP) (d : MD) : Prop where
 c : GO w lo hi p.s1 TC p.RC (d.codes.map codeV)
 k : GO w lo hi p.s2 TK p.RK (d.cores.map coreV)
 m : MO w lo hi p.s3 p.S d.mem
 t : VO w lo hi (p.x4 d) (fl2 d.tr)
 d : (p.as d).Nodup
theorem MaO.keep {w w' : World} {lo hi : Nat} {p : MP} {d : MD} (h : MaO w lo hi p d) (hb : Keep lo hi w w') : MaO w' lo hi p d := ⟨h.c.keep hb, h.k.keep hb, h.m.keep hb, h.t.keep hb, h.d⟩
theorem MaO.mono {w : World} {lo hi lo' hi' : Nat} {p : MP} {d : MD} (h : MaO w lo hi p d) (a : lo' ≤ lo) (b : hi ≤ hi') : MaO w lo' hi' p d := ⟨h.c.mono a b, h.k.mono a b, h.m.mono a b, h.t.mono a b, h.d⟩
theorem MaO.ma {w : World} {lo hi : Nat} {p : MP} {d : MD} (h : MaO w lo hi p d) : MaR w lo hi p.s1 p.s2 p.s3 p.s4 d := ⟨h.c.csR, h.k.ksR, h.m.mem, h.t.ntsR⟩
structure Bo4 (G : Nat) (W : World) (a b c d : Value) : Prop where
 c0 : W.cell? ⟨G, 0, none⟩ = some a
 c1 : W.cell? ⟨G, 1, none⟩ = some b
 c2 : W.cell? ⟨G, 2, none⟩ = some c
 c3 : W.cell? ⟨G, 3, none⟩ = some d
theorem Bo4.new (w : World) (a b c d : Value) (T : TypeId) : ∃ W, w.alloc (.cells #[a, b, c, d] T) = W ∧ Bo4 w.heap.size W a b c d ∧ Below w.heap.size w W ∧ W.heap.size = w.heap.size + 1 :=
 ⟨_, rfl, ⟨by simp [go_sem], by simp [go_sem], by simp [go_sem], by simp [go_sem]⟩, (Below.refl _ _).alloc (Nat.le_refl _) _, by simp⟩
theorem Bo4.keep {G : Nat} {W W' : World} {a b c d : Value} (h : Bo4 G W a b c d) (hk : Keep G (G + 1) W W') : Bo4 G W' a b c d := ⟨(hk.cell (p := ⟨G, 0, none⟩) (Nat.le_refl _) (Nat.lt_succ_self _)).trans h.c0, (hk.cell (p := ⟨G, 1, none⟩) (Nat.le_refl _) (Nat.lt_succ_self _)).trans h.c1, (hk.cell (p := ⟨G, 2, none⟩) (Nat.le_refl _) (Nat.lt_succ_self _)).trans h.c2, (hk.cell (p := ⟨G, 3, none⟩) (Nat.le_refl _) (Nat.lt_succ_self _)).trans h.c3⟩
end
end Go.Proofs.YtehjbpjjegajjaaGreat
