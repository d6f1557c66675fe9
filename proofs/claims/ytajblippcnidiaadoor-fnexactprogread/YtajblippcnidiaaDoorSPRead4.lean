/- ProgRead of the specification, at every text of at most 2^20 bytes. No other condition. -/
import Derived.Test.YtajblippcnidiaaDoorSPRead3
import Derived.Test.YtajblippcnidiaaDoorPRead6
namespace Go.Proofs.YtajblippcnidiaaDoor
set_option linter.unusedSimpArgs false
set_option linter.unusedVariables false
set_option maxRecDepth 100000
open Go.RowKit

/- the state of the loop: the answer's box, the program's box, its rows -/
structure Ls (w wr : World) (sv sv' : Option Addr) (cv cv' : Nat) (p : PD) : Prop where
  bx : Bx w.heap.size wr (.slice none 0 0) (.slice none 0 0) (.slice sv p.caps.length cv) (.slice sv' p.bods.length cv')
  on : OwnN wr (w.heap.size + 2) (.slice sv p.caps.length cv) p.caps
  ob : OwnB wr (w.heap.size + 2) (.slice sv' p.bods.length cv') p.bods
  be : Below w.heap.size w wr
theorem Ls.sz {w wr : World} {sv sv' : Option Addr} {cv cv' : Nat} {p : PD} (h : Ls w wr sv sv' cv cv' p) : w.heap.size + 2 ≤ wr.heap.size := by have := h.bx.z1; omega
theorem drop_mid {α : Type} (a : List α) (x : α) (b : List α) (h : b ≠ []) : (a ++ x :: b).dropLast = a ++ x :: b.dropLast := by
  rw [List.dropLast_append_of_ne_nil (by simp), List.dropLast_cons_of_ne_nil h]
theorem acc_len (l : List UInt8) (fr k : Nat) : (accL l fr k).length ≤ l.length := by
  unfold accL
  simp
  omega

/- what the call of l2Line leaves, whether next's box was made ahead of it or not -/
theorem newNo {wr : World} : ∀ k, wr.heap.size ≤ k → k < wr.drew.heap.size → ∃ cs fr, wr.drew.heap[k]? = some (.cells cs 25 fr) := fun k h1 h2 => absurd h2 (by show ¬ k < wr.heap.size; omega)
theorem newOne {wr : World} {C : Array Value} : ∀ k, wr.heap.size ≤ k → k < (wr.alloc (.cells C 25)).drew.heap.size → ∃ cs fr, (wr.alloc (.cells C 25)).drew.heap[k]? = some (.cells cs 25 fr) := fun k h1 h2 => by
  have e : k = wr.heap.size := by have h : k < wr.heap.size + 1 := by simpa using h2
                                  omega
  subst e
  exact ⟨_, _, push_last _ _⟩
theorem cellRule {wr W' w2 : World} (hf : FarP W' w2) (hn : ∀ k, wr.heap.size ≤ k → k < W'.heap.size → ∃ cs fr, W'.heap[k]? = some (.cells cs 25 fr)) : (∀ k j, wr.heap.size ≤ k → k < W'.heap.size → w2.cell? ⟨k, j, none⟩ = W'.cell? ⟨k, j, none⟩) ∧ (∀ k j, wr.heap.size ≤ k → k < W'.heap.size → w2.frozen? ⟨k, j, none⟩ = W'.frozen? ⟨k, j, none⟩) := by
  refine ⟨fun k j h1 h2 => ?_, fun k j h1 h2 => ?_⟩
  · obtain ⟨cs, fr, e⟩ := hn k h1 h2
    exact World.cell?_of_block (w := W') (a := ⟨k, j, none⟩) (hf k cs fr e)
  · obtain ⟨cs, fr, e⟩ := hn k h1 h2
    exact World.frozen?_of_block (w := W') (a := ⟨k, j, none⟩) (hf k cs fr e)
theorem bxRule {B : Nat} {wr W' w2 : World} {v0 v1 u0 u1 : Value} (h : Bx B wr v0 v1 u0 u1) (hk : ∀ k, k < wr.heap.size → W'.heap[k]? = wr.heap[k]?) (hf : FarP W' w2) (hs : wr.heap.size ≤ w2.heap.size) : Bx B w2 v0 v1 u0 u1 := by
  obtain ⟨cs, fr, e⟩ := h.t0
  obtain ⟨cs', fr', e'⟩ := h.t1
  exact h.keep ((hf B cs fr ((hk B h.z0).trans e)).trans (hk B h.z0)) ((hf (B + 1) cs' fr' ((hk (B + 1) h.z1).trans e')).trans (hk (B + 1) h.z1)) hs

theorem lineEnd {w w2 : World} {Q : Nat} {tv tv' : Option Addr} {du du' : Nat} {q : PD} {x y v0 v1 u0 u1 : Value} (hQ : w.heap.size + 2 ≤ Q) (hz : Q < w2.heap.size) (c0 : w2.cell? ⟨Q, 0, none⟩ = some x) (c1 : w2.cell? ⟨Q, 1, none⟩ = some y) (ht : ∃ cs fr, w2.heap[Q]? = some (.cells cs 25 fr))
    (oq : OwnN w2 (w.heap.size + 2) (.slice tv q.caps.length du) q.caps) (bq : OwnB w2 (w.heap.size + 2) (.slice tv' q.bods.length du') q.bods) (X2 : Bx w.heap.size w2 v0 v1 u0 u1) (K2 : Below w.heap.size w w2) :
    ∃ (Q' : Nat) (sv sv' : Option Addr) (cv cv' : Nat), Value.pointer (some ⟨Q, 0, none⟩) = .pointer (some ⟨Q', 0, none⟩) ∧ Value.bool true = .bool true ∧ w.heap.size + 2 ≤ Q' ∧ ((w2.setCell ⟨Q, 0, none⟩ (.slice tv q.caps.length du)).setCell ⟨Q, 1, none⟩ (.slice tv' q.bods.length du')).cell? ⟨Q', 0, none⟩ = some (.slice sv q.caps.length cv) ∧ ((w2.setCell ⟨Q, 0, none⟩ (.slice tv q.caps.length du)).setCell ⟨Q, 1, none⟩ (.slice tv' q.bods.length du')).cell? ⟨Q', 1, none⟩ = some (.slice sv' q.bods.length cv') ∧ OwnN ((w2.setCell ⟨Q, 0, none⟩ (.slice tv q.caps.length du)).setCell ⟨Q, 1, none⟩ (.slice tv' q.bods.length du')) (w.heap.size + 2) (.slice sv q.caps.length cv) q.caps ∧ OwnB ((w2.setCell ⟨Q, 0, none⟩ (.slice tv q.caps.length du)).setCell ⟨Q, 1, none⟩ (.slice tv' q.bods.length du')) (w.heap.size + 2) (.slice sv' q.bods.length cv') q.bods ∧ Bx w.heap.size ((w2.setCell ⟨Q, 0, none⟩ (.slice tv q.caps.length du)).setCell ⟨Q, 1, none⟩ (.slice tv' q.bods.length du')) v0 v1 u0 u1 ∧ Below w.heap.size w ((w2.setCell ⟨Q, 0, none⟩ (.slice tv q.caps.length du)).setCell ⟨Q, 1, none⟩ (.slice tv' q.bods.length du')) := by
  have ht2 : ∃ cs fr, (w2.setCell ⟨Q, 0, none⟩ (.slice tv q.caps.length du)).heap[Q]? = some (.cells cs 25 fr) := by obtain ⟨cs, fr, e⟩ := ht; exact ⟨_, _, set_heap e⟩
  exact ⟨Q, tv, tv', du, du', rfl, rfl, hQ, (cellOf (.inr (by decide))).trans (cellIs c0), cellIs ((cellOf (.inr (by decide))).trans c1), OwnN.into (OwnN.into oq ht) ht2, OwnB.into (OwnB.into bq ht) ht2, (X2.put (by omega) (by omega)).put (by omega) (by omega), (K2.setCell (p := ⟨Q, 0, none⟩) (by simp; omega) _).setCell (p := ⟨Q, 1, none⟩) (by simp; omega) _⟩

set_option maxHeartbeats 8000000 in
theorem specProgRead_any (l : List UInt8) (hl : l.length ≤ 1048576) (w : World) : Calls Tryd.prog 4 #[.string ⟨l.toArray⟩] w fun e w' => readPost w.heap.size (readP l) e w' ∧ Below w.heap.size w w' := by
  have HRP : Hid (readP l = specP l) := (specP_eq l).symm
  generalize hrr : readP l = rr at HRP
  clear hrr
  obtain ⟨W, hW, hX, KW⟩ := bx w (.slice none 0 0) (.slice none 0 0) (.slice none 0 0) (.slice none 0 0)
  have HW := (show Hid _ from hW)
  have L0 : Hid (Ls w W none none 0 0 ⟨[], []⟩) := ⟨hX, World.ownsRow_nil _ _ _ _, OwnB.nil _ _, KW⟩
  clear hW hX KW
  go_enter Tryd.func4, Tryd.ntmps4
  go_wp2
  rw [HW.out]
  go_loopw [5, 6] (fun f i wr => ∃ (fr k : Nat) (done : List (List UInt8)) (p : PD) (sv sv' : Option Addr) (cv cv' : Nat), fr ≤ k ∧ k ≤ l.length ∧ f = .int .i64 fr ∧ i = .int .i64 k ∧ done.length ≤ k ∧ Hid (splitA 10 [] l = done ++ splitA 10 (accL l fr k) (l.drop k)) ∧ Hid (specF ⟨[], []⟩ done = some p) ∧ Hid (Sized done.length fr p) ∧ Ls w wr sv sv' cv cv' p) (fun _ i _ => l.length - (intOf i).toNat)
  case atStart => exact ⟨0, 0, [], ⟨[], []⟩, none, none, 0, 0, Nat.le_refl _, Nat.zero_le _, rfl, rfl, Nat.zero_le _, (by show _ = _; rw [accL_self]; rfl), rfl, ⟨Nat.zero_le _, Nat.zero_le _, fun b hb => by cases hb⟩, L0.out⟩
  case round =>
    obtain ⟨fr, k, done, p, sv, sv', cv, cv', hfr, hk, rfl, rfl, hdn, HS, HF, HZ, hls⟩ := hrel
    have HL : Hid (Ls w wr sv sv' cv cv' p) := hls
    clear hls L0
    obtain ⟨x0, x1, y0, y1, f0, f1, z0, z1, -, -⟩ := HL.out.bx
    have n0 : ¬ w.heap.size + 1 = w.heap.size := by omega
    have n1 : ¬ w.heap.size = w.heap.size + 1 := by omega
    have hex : (⟨l.toArray⟩ : ByteArray).extract fr k = ⟨(accL l fr k).toArray⟩ := extract_acc l fr k
    have s1 : (0 : Int) ≤ (fr : Int) := by omega
    have s2 : (fr : Int) ≤ (k : Int) := by omega
    have s3 : (k : Int) ≤ (l.length : Int) := by omega
    by_cases hlt : k < l.length
    · obtain ⟨c, hc⟩ : ∃ c, l[k] = c := ⟨_, rfl⟩
      have HR : Hid (l.drop k = c :: l.drop (k + 1)) := by show _ = _; rw [List.drop_eq_getElem_cons hlt, hc]
      have b1 : (k : Int) < (l.length : Int) := by omega
      have hp : k < (⟨l.toArray⟩ : ByteArray).size := by simpa [ByteArray.size] using hlt
      have hgk : (⟨l.toArray⟩ : ByteArray)[k]'hp = c := hc
      clear hc
      by_cases hcm : c = 10
      · subst hcm
        have hacc := acc_len l fr k
        have hal : (accL l fr k).length = k - fr := by unfold accL; simp; omega
        have HS2 : Hid (splitA 10 [] l = (done ++ [accL l fr k]) ++ splitA 10 (accL l (k + 1) (k + 1)) (l.drop (k + 1))) := by
          show _ = _
          rw [HS.out, HR.out, splitA, if_pos rfl, accL_self]
          simp
        have hszr := HL.out.sz
        obtain ⟨a1, a2, a3⟩ := HZ.out
        have L2 : Hid (∀ W', w.heap.size + 2 ≤ W'.heap.size → OwnN W' (w.heap.size + 2) (.slice sv p.caps.length cv) p.caps → OwnB W' (w.heap.size + 2) (.slice sv' p.bods.length cv') p.bods → Calls Tryd.prog 9 #[.agg #[.slice sv p.caps.length cv, .slice sv' p.bods.length cv'], .string ⟨(accL l fr k).toArray⟩] W' fun e w' => linePost (w.heap.size + 2) (specLine p (accL l fr k)) W' e w') := fun W' h1 h2 h3 => l2Line_any (w.heap.size + 2) _ _ p (accL l fr k) W' h1 h2 h3 (by omega) (by omega) (fun b hb => by have := a3 b hb; omega) (by omega)
        clear a1 a2 a3
        generalize hacd : accL l fr k = ac at L2 HS2 hacc hal hex
        clear hacd
        cases hsl : specLine p ac with
        | none =>
          have HN : Hid (rr = none) := by
            show _ = _
            rw [HRP.out]
            unfold specP
            rw [HS2.out, List.append_assoc, List.singleton_append, drop_mid _ _ _ (by have := (splitA_len 10 (l.drop (k + 1)) (accL l (k + 1) (k + 1))).1; intro h; rw [h] at this; simp at this), specF_fail _ _ _ _ _ HF.out hsl]
          rw [hsl] at L2
          clear hsl
          go_upto_region 7 with fail
          go_cut [8] (fun s8 wx => s8 = .bool false ∧ Bx w.heap.size wx (.slice none 0 0) (.slice none 0 0) (.slice sv p.caps.length cv) (.slice sv' p.bods.length cv') ∧ Below w.heap.size w wx)
          case first =>
            go_region_with (first | (go_at_call 9; refine (L2.out _ (by first | exact hszr | (simp; omega)) (by first | exact HL.out.on | exact OwnN.alloc HL.out.on _) (by first | exact HL.out.ob | exact HL.out.ob.keep (fun k _ hk => Below.heap_alloc _ _ _ hk))).mono ?_; rintro e w2 ⟨he, hb2, hf2⟩; obtain ⟨t1, t2, t3, t4, t5, t6, rfl⟩ := he; obtain ⟨hc2, hg2⟩ := cellRule (wr := wr) hf2 (by first | exact newNo | exact newOne); have z2r := fun (b : Nat) h => Nat.lt_of_lt_of_le (n := b) h hb2.size; have s2r : wr.heap.size ≤ w2.heap.size := (by first | exact hb2.size | exact Nat.le_trans (by simp) hb2.size); have X2 := bxRule HL.out.bx (w2 := w2) (by first | exact fun _ _ => rfl | exact fun k hk => Below.heap_alloc _ _ _ hk) hf2 s2r; have K2 : Below w.heap.size w w2 := HL.out.be.trans (by first | exact (Below.drew (Below.refl _ _)).trans (hb2.mono (by omega)) | exact (Below.drew ((Below.refl _ _).alloc (by omega) _)).trans (hb2.mono (by omega)))))
            all_goals
              go_wp2_with fail
              go_meet
              first
                | exact ⟨rfl, X2.keep (Below.heap_alloc _ _ _ X2.z0) (Below.heap_alloc _ _ _ X2.z1) (by simp), K2.alloc (by omega) _⟩
                | exact ⟨rfl, (X2.put (by omega) (by omega)).put (by omega) (by omega), (K2.setCell (p := ⟨wr.heap.size, 0, none⟩) (by simp; omega) _).setCell (p := ⟨wr.heap.size, 1, none⟩) (by simp; omega) _⟩
          case rest =>
            obtain ⟨rfl, hX, hK⟩ := hcut
            have HK : Hid (Below w.heap.size w wc) := hK
            clear hK x0 x1 y0 y1 f0 f1 z0 z1
            obtain ⟨x0, x1, y0, y1, f0, f1, z0, z1, -, -⟩ := hX
            go_wp2
            refine bodyPost_ret (v := .tuple #[.agg #[.slice none 0 0, .slice none 0 0], .bool false]) (by simp [results, Tryd.results4, go_sem, x0, x1]) rfl ⟨?_, (HK.out.setCell (p := ⟨w.heap.size, 0, none⟩) (Nat.le_refl _) _).setCell (p := ⟨w.heap.size, 1, none⟩) (Nat.le_refl _) _⟩
            rw [HN.out]
            rfl
        | some q =>
          have HF2 : Hid (specF ⟨[], []⟩ (done ++ [ac]) = some q) := by show _ = _; rw [specF_snoc, HF.out]; exact hsl
          have HZ2 : Hid (Sized (done ++ [ac]).length (k + 1) q) := by
            obtain ⟨b1, b2, b3⟩ := HZ.out.line hsl
            exact ⟨by omega, by rw [List.length_append]; exact b2, fun b hb => by rw [List.length_append]; exact b3 b hb⟩
          rw [hsl] at L2
          clear hsl
          go_upto_region 7 with fail
          go_cut [7, 8] (fun s7 s8 wx => ∃ (Q : Nat) (tv tv' : Option Addr) (du du' : Nat), s7 = .pointer (some ⟨Q, 0, none⟩) ∧ s8 = .bool true ∧ w.heap.size + 2 ≤ Q ∧ wx.cell? ⟨Q, 0, none⟩ = some (.slice tv q.caps.length du) ∧ wx.cell? ⟨Q, 1, none⟩ = some (.slice tv' q.bods.length du') ∧ OwnN wx (w.heap.size + 2) (.slice tv q.caps.length du) q.caps ∧ OwnB wx (w.heap.size + 2) (.slice tv' q.bods.length du') q.bods ∧ Bx w.heap.size wx (.slice none 0 0) (.slice none 0 0) (.slice sv p.caps.length cv) (.slice sv' p.bods.length cv') ∧ Below w.heap.size w wx)
          case first =>
            go_region_with (first | (go_at_call 9; refine (L2.out _ (by first | exact hszr | (simp; omega)) (by first | exact HL.out.on | exact OwnN.alloc HL.out.on _) (by first | exact HL.out.ob | exact HL.out.ob.keep (fun k _ hk => Below.heap_alloc _ _ _ hk))).mono ?_; rintro e w2 ⟨he, hb2, hf2⟩; obtain ⟨q0, q1, rfl, oq, bq⟩ := he; obtain ⟨tv, du, rfl⟩ := oq.sl; obtain ⟨tv', du', rfl⟩ := bq.sl; obtain ⟨hc2, hg2⟩ := cellRule (wr := wr) hf2 (by first | exact newNo | exact newOne); have z2r := fun (b : Nat) h => Nat.lt_of_lt_of_le (n := b) h hb2.size; have s2r : wr.heap.size ≤ w2.heap.size := (by first | exact hb2.size | exact Nat.le_trans (by simp) hb2.size); have X2 := bxRule HL.out.bx (w2 := w2) (by first | exact fun _ _ => rfl | exact fun k hk => Below.heap_alloc _ _ _ hk) hf2 s2r; have K2 : Below w.heap.size w w2 := HL.out.be.trans (by first | exact (Below.drew (Below.refl _ _)).trans (hb2.mono (by omega)) | exact (Below.drew ((Below.refl _ _).alloc (by omega) _)).trans (hb2.mono (by omega)))))
            all_goals
              go_wp2_with fail
              go_meet
              first
                | exact ⟨w2.heap.size, tv, tv', du, du', rfl, rfl, by omega, by simp [go_sem], by simp [go_sem], OwnN.alloc oq _, bq.keep (fun k _ hk => Below.heap_alloc _ _ _ hk), X2.keep (Below.heap_alloc _ _ _ X2.z0) (Below.heap_alloc _ _ _ X2.z1) (by simp), K2.alloc (by omega) _⟩
                | exact lineEnd (x := .slice none 0 0) (y := .slice none 0 0) hszr (z2r wr.heap.size (by simp)) ((hc2 wr.heap.size 0 (Nat.le_refl _) (by simp)).trans (by simp [go_sem])) ((hc2 wr.heap.size 1 (Nat.le_refl _) (by simp)).trans (by simp [go_sem])) (by obtain ⟨cs, fr, e⟩ := newOne (wr := wr) (C := #[.slice none 0 0, .slice none 0 0]) wr.heap.size (Nat.le_refl _) (by simp); exact ⟨cs, fr, (hf2 _ cs fr e).trans e⟩) oq bq X2 K2
          case rest =>
            obtain ⟨Q, tv, tv', du, du', rfl, rfl, hQ, qc0, qc1, hoq, hbq, hX, hK⟩ := hcut
            have HO : Hid (OwnN wc (w.heap.size + 2) (.slice tv q.caps.length du) q.caps) := hoq
            have HB : Hid (OwnB wc (w.heap.size + 2) (.slice tv' q.bods.length du') q.bods) := hbq
            have HX := (show Hid _ from hX)
            have HK : Hid (Below w.heap.size w wc) := hK
            clear hoq hbq hK x0 x1 y0 y1 f0 f1 z0 z1
            obtain ⟨x0, x1, y0, y1, f0, f1, z0, z1, -, -⟩ := hX
            have nQ : ¬ w.heap.size + 1 = Q := by omega
            have nQ' : ¬ Q = w.heap.size + 1 := by omega
            go_wp2
            go_roundw
            case rel =>
              refine ⟨k + 1, k + 1, done ++ [ac], q, tv, tv', du, du', Nat.le_refl _, by omega, by go_num, by go_num, by simp; omega, HS2.out, HF2.out, HZ2.out, ?_⟩
              exact ⟨HX.out.res _ _, OwnN.into (OwnN.into HO.out HX.out.t1) (by obtain ⟨cs, fr, e⟩ := HX.out.t1; exact ⟨_, _, set_heap e⟩), OwnB.into (OwnB.into HB.out HX.out.t1) (by obtain ⟨cs, fr, e⟩ := HX.out.t1; exact ⟨_, _, set_heap e⟩), (HK.out.setCell (p := ⟨w.heap.size + 1, 0, none⟩) (by simp) _).setCell (p := ⟨w.heap.size + 1, 1, none⟩) (by simp) _⟩
            case measure => (simp [intOf] <;> omega)
      · have hne : ((c.toNat : Int) != 10) = true := by have := u8_ne (k := 10) (by omega) hcm; simpa using this
        have HS2 : Hid (splitA 10 [] l = done ++ splitA 10 (accL l fr (k + 1)) (l.drop (k + 1))) := by
          show _ = _
          have e1 : (l.drop k).take 1 = [c] := by rw [HR.out]; rfl
          rw [HS.out, accL_step hfr, e1, HR.out, splitA, if_neg hcm]
        go_wp2
        go_roundw
        case rel => exact ⟨fr, k + 1, done, p, sv, sv', cv, cv', by omega, by omega, rfl, by go_num, by omega, HS2.out, HF.out, HZ.out, HL.out⟩
        case measure => (simp [intOf] <;> omega)
    · have e : k = l.length := by omega
      subst e
      have HP : Hid (specP l = if l = [] ∨ progT p ≠ l then none else some p) := by
        show _ = _
        have e1 : splitA 10 [] l = done ++ [accL l fr l.length] := by rw [HS.out, List.drop_length]; rfl
        unfold specP
        rw [e1, List.dropLast_concat, HF.out]
      have FT : Hid (Fits p) := by
        obtain ⟨a, b, c⟩ := HZ.out
        exact ⟨by omega, by omega, fun i hi => by have := c (p.bods.getD i []) (by rw [List.getD_eq_getElem?_getD, List.getElem?_eq_getElem hi]; exact List.getElem_mem _); omega⟩
      by_cases h0 : l = []
      · subst h0
        have HN : Hid (rr = none) := by show _ = _; rw [HRP.out, HP.out, if_pos (.inl rfl)]
        go_wp2
        refine bodyPost_ret (v := .tuple #[.agg #[.slice none 0 0, .slice none 0 0], .bool false]) (by simp [results, Tryd.results4, go_sem, x0, x1]) rfl ⟨?_, (HL.out.be.setCell (p := ⟨w.heap.size, 0, none⟩) (Nat.le_refl _) _).setCell (p := ⟨w.heap.size, 1, none⟩) (Nat.le_refl _) _⟩
        rw [HN.out]
        rfl
      · have hle : (l == []) = false := by simpa using h0
        have H0 : Hid (¬ l = []) := h0
        clear h0
        go_wp2_with fail
        refine (specProgText_any sv sv' cv cv' (w.heap.size + 2) wr.heap.size p wr ⟨HL.out.on.intsR, HL.out.ob.bodsR⟩ (Nat.le_refl _) FT.out).mono ?_
        rintro e w2 ⟨rfl, hb2⟩
        have s2' := hb2.size
        have X2 := HL.out.bx.keep (hb2.block _ z0) (hb2.block _ z1) hb2.size
        have O2 : Hid (OwnN w2 (w.heap.size + 2) (.slice sv p.caps.length cv) p.caps) := HL.out.on.below hb2
        have B2 : Hid (OwnB w2 (w.heap.size + 2) (.slice sv' p.bods.length cv') p.bods) := HL.out.ob.below hb2
        have K2 : Hid (Below w.heap.size w w2) := HL.out.be.trans (hb2.mono (by omega))
        have HX2 := (show Hid _ from X2)
        clear hb2 x0 x1 y0 y1 f0 f1 z0 z1
        obtain ⟨x0, x1, y0, y1, f0, f1, z0, z1, -, -⟩ := X2
        by_cases ht : progT p = l
        · have hte : (progT p == l) = true := by simp [ht]
          have HN : Hid (rr = some p) := by show _ = _; rw [HRP.out, HP.out, if_neg (fun h => h.elim H0.out (fun h => h ht))]
          clear ht
          go_wp2
          refine bodyPost_ret (v := .tuple #[.agg #[.slice sv p.caps.length cv, .slice sv' p.bods.length cv'], .bool true]) (by simp [results, Tryd.results4, go_sem, x0, x1]) rfl ⟨?_, (K2.out.setCell (p := ⟨w.heap.size, 0, none⟩) (Nat.le_refl _) _).setCell (p := ⟨w.heap.size, 1, none⟩) (Nat.le_refl _) _⟩
          rw [HN.out]
          exact ⟨_, _, rfl, OwnN.mono (OwnN.into (OwnN.into O2.out HX2.out.t0) (by obtain ⟨cs, fr, e⟩ := HX2.out.t0; exact ⟨_, _, set_heap e⟩)) (by omega), OwnB.low (OwnB.into (OwnB.into B2.out HX2.out.t0) (by obtain ⟨cs, fr, e⟩ := HX2.out.t0; exact ⟨_, _, set_heap e⟩)) (by omega), FT.out⟩
        · have hte : (progT p == l) = false := by simp [ht]
          have HN : Hid (rr = none) := by show _ = _; rw [HRP.out, HP.out, if_pos (.inr ht)]
          clear ht
          go_wp2
          refine bodyPost_ret (v := .tuple #[.agg #[.slice none 0 0, .slice none 0 0], .bool false]) (by simp [results, Tryd.results4, go_sem, x0, x1]) rfl ⟨?_, (K2.out.setCell (p := ⟨w.heap.size, 0, none⟩) (Nat.le_refl _) _).setCell (p := ⟨w.heap.size, 1, none⟩) (Nat.le_refl _) _⟩
          rw [HN.out]
          rfl

end Go.Proofs.YtajblippcnidiaaDoor
