/- How the laws copy machines into new memory that may be written. Conditions: they are counted. -/
import Derived.Test.YtfdgjjahojkgfaaKGen2
import Derived.Test.YtfdgjjahojkgfaaMemCopy
namespace Go.Proofs.Ytfdgjjahojkgfaa
set_option linter.unusedSimpArgs false
set_option linter.unusedVariables false
set_option maxRecDepth 100000
open Go.RowKit

theorem toStepS_vo (s : Option Addr) (c lo hi : Nat) (l : List I5) (w : World) (h : InsR w lo hi s l) (hB : hi ≤ w.heap.size) (hl : l.length ≤ 1048576) :
    Calls Try.prog 38 #[.slice s l.length c] w fun e w' => e = .returned (.slice (some ⟨w.heap.size, 0, none⟩) l.length l.length) ∧ Below w.heap.size w w' ∧ w.heap.size < w'.heap.size ∧ VO w' w.heap.size w'.heap.size ((⟨some ⟨w.heap.size, 0, none⟩, l.length, l.length⟩ : VS).wide 5) (fl5 l) := by
  rcases h with rfl | ⟨g, off, rfl, hg, hg', hc⟩
  · refine (toStepS_none s c w).mono ?_
    rintro e w' ⟨rfl, hb, hsz⟩
    exact ⟨rfl, hb, hsz, ⟨rfl, .inl rfl⟩⟩
  · refine (toStepS_fz g off c l w (by omega) hl hc).mono ?_
    rintro e w' ⟨rfl, hb, hsz, hc', hz⟩
    exact ⟨rfl, hb, hsz, vo_steps (Nat.le_refl _) hsz hc' hz⟩

theorem mkSS8 (n : Nat) (hn : n ≤ 1048576) (w : World) : (Instr.makeSlice 32 (.int .i64 (n : Int)) (.int .i64 (n : Int))).run Try.prog w = .ok (.slice (some ⟨w.heap.size, 0, none⟩) n n) (w.alloc (.cells (madeCells #[.slice none 0 0] (n * 1)) 60)) := by
  have h := run_make (P := Try.prog) w 32 60 _ (.slice none 0 0) Try.underlying32 rfl rfl .i64 .i64 n n (by omega) (Int.le_refl _) (by show (24 : Int) * _ ≤ _; omega) (by omega)
  have e : (Value.slice none 0 0).cells = #[.slice none 0 0] := rfl
  have e' : ∀ t, Try.prog.info? 60 = some t → t.size = 1 := by intro t h; cases h; rfl
  rw [e, e' _ rfl] at h
  simpa using h

set_option maxHeartbeats 1000000 in
theorem toStepSS_own (s : Option Addr) (c lo hi : Nat) (m : List (List I5)) (w : World) (h : CsR w lo hi s m) (hB : hi ≤ w.heap.size) (hl : m.length + szC m ≤ 1048576) :
    Calls Try.prog 12 #[.slice s m.length c] w fun e w' => ∃ R, e = .returned (.slice (some ⟨w.heap.size, 0, none⟩) m.length m.length) ∧ GO w' w.heap.size w'.heap.size (some ⟨w.heap.size, 0, none⟩) TC R (m.map codeV) ∧ Below w.heap.size w w' ∧ w.heap.size < w'.heap.size := by
  have hmk := mkSS8 m.length (by omega)
  have HC : Hid (CsR w lo hi s m) := h
  have HLS : Hid (∀ (i : Nat) (t : List I5), m[i]? = some t → t.length ≤ 1048576) := fun i t ht => by have := szC_at m i t ht; omega
  clear h
  go_enter Try.func12, Try.ntmps12
  go_wp2
  clear hmk
  go_loopw [4] (fun i wr => ∃ k : Nat, k ≤ m.length ∧ i = .int .i64 k ∧ Below w.heap.size w wr ∧ w.heap.size < wr.heap.size ∧ (∀ j, j < m.length → (wr.cell? ⟨w.heap.size, j, none⟩).isSome = true) ∧ (∀ j, wr.frozen? ⟨w.heap.size, j, none⟩ = false) ∧ ∃ R, GO wr w.heap.size wr.heap.size (some ⟨w.heap.size, 0, none⟩) TC R ((m.take k).map codeV)) (fun i _ => m.length - (intOf i).toNat)
  case atStart =>
    exact ⟨0, Nat.zero_le _, rfl, (Below.refl _ _).alloc (Nat.le_refl _) _, by simp, fun j hj => new_cell (by rw [size_madeCells]; omega), fun j => new_frozen, [], GO.nil _ _ _ _ _⟩
  case round =>
    obtain ⟨k, hk, rfl, hb, hsz, hso, hfz, R, hro⟩ := hrel
    have HB : Hid (Below w.heap.size w wr) := hb
    have HSO : Hid (∀ j, j < m.length → (wr.cell? ⟨w.heap.size, j, none⟩).isSome = true) := hso
    have HFZ : Hid (∀ j, wr.frozen? ⟨w.heap.size, j, none⟩ = false) := hfz
    have HRO : Hid (GO wr w.heap.size wr.heap.size (some ⟨w.heap.size, 0, none⟩) TC R ((m.take k).map codeV)) := hro
    clear hb hso hfz hro
    by_cases hlt : k < m.length
    · obtain ⟨t, ht⟩ : ∃ t, m[k]? = some t := ⟨_, List.getElem?_eq_getElem hlt⟩
      obtain ⟨g, off, s1, c1, hs, hg1, hg, f0, hin⟩ := (HC.out.keep (Keep.of_below HB.out hB)).at ht
      subst hs
      have HL : Hid (t.length ≤ 1048576) := HLS.out k t ht
      have HT : Hid ((m.take (k + 1)).map codeV = (m.take k).map codeV ++ [codeV t]) := by show (m.take (k + 1)).map codeV = (m.take k).map codeV ++ [codeV t]; rw [List.take_add_one, ht]; simp
      have TL : Hid (((m.take k).map codeV).length = k) := by show ((m.take k).map codeV).length = k; simp; omega
      have HIN : Hid (InsR wr lo hi s1 t) := hin
      clear ht hin
      have b0 : (0 : Int) ≤ (k : Int) := by omega
      have b1 : (k : Int) < (m.length : Int) := by omega
      go_wp2_with fail
      refine (toStepS_vo s1 c1 lo hi t wr HIN.out (by omega) HL.out).mono ?_
      rintro e w1 ⟨rfl, hb1, hz1, ho1⟩
      have HB1 : Hid (Below wr.heap.size wr w1) := hb1
      have HO1 := (show Hid (VO w1 wr.heap.size w1.heap.size ((⟨some ⟨wr.heap.size, 0, none⟩, t.length, t.length⟩ : VS).wide 5) (fl5 t)) from ho1)
      have HSO1 : Hid (∀ j, j < m.length → (w1.cell? ⟨w.heap.size, j, none⟩).isSome = true) := fun j hj => by rw [hb1.cell (p := ⟨w.heap.size, j, none⟩) hsz]; exact HSO.out j hj
      have hfz : ∀ j, w1.frozen? ⟨w.heap.size, j, none⟩ = false := fun j => by rw [hb1.frozen (p := ⟨w.heap.size, j, none⟩) hsz]; exact HFZ.out j
      obtain ⟨u0, g0⟩ := Option.isSome_iff_exists.1 (HSO1.out k (by omega))
      have HZ1 : Hid (wr.heap.size < w1.heap.size) := hz1
      clear hb1 ho1 f0 hz1
      go_wp2
      go_roundw
      case rel =>
        have hs1 := HB1.out.size
        have tl := TL.out
        have hz := HZ1.out
        have at0 : (w1.setCell ⟨w.heap.size, k, none⟩ (.slice (some ⟨wr.heap.size, 0, none⟩) t.length t.length)).cell? ⟨w.heap.size, k, none⟩ = some (.slice (some ⟨wr.heap.size, 0, none⟩) t.length t.length) := setC_at (by rw [g0]; rfl)
        have far : ∀ b, b ≠ w.heap.size → (w1.setCell ⟨w.heap.size, k, none⟩ (.slice (some ⟨wr.heap.size, 0, none⟩) t.length t.length)).heap[b]? = w1.heap[b]? := fun b hb => Below.heap_setCell _ _ _ b hb
        have blk1 : ∀ a ∈ vAs ((⟨some ⟨wr.heap.size, 0, none⟩, t.length, t.length⟩ : VS).wide 5), a.block = wr.heap.size := fun a ha => by
          obtain ⟨i, -, rfl⟩ := mem_vAs.1 ha
          rfl
        refine ⟨k + 1, by omega, by go_num, (HB.out.trans (HB1.out.mono (by omega))).setCell (p := ⟨w.heap.size, k, none⟩) (Nat.le_refl _) _, by simp; omega, fun j hj => setC_some (HSO1.out j hj), fun j => by rw [World.frozen?_setCell]; exact hfz j, R ++ [[.r ⟨some ⟨wr.heap.size, 0, none⟩, t.length, t.length⟩ 5]], ?_⟩
        rw [HT.out]
        have e9 : (w1.setCell ⟨w.heap.size, k, none⟩ (.slice (some ⟨wr.heap.size, 0, none⟩) t.length t.length)).heap.size = w1.heap.size := by simp
        rw [e9]
        have hm1 := (HRO.out.keep (Keep.of_below HB1.out (Nat.le_refl _))).mono (Nat.le_refl _) hs1
        refine GO.push (w := w1) _ _ hm1 ⟨_, _, rfl⟩ rfl rfl (fun k' r v j f y hr hv hf hy hfo => ?_) (fun j f v hf hv => ?_) (fun x e hx a ha g o hg => ?_) ?_ (fun a ha ha' => ?_)
        · have hk' := (List.getElem?_eq_some_iff.1 hv).1
          rw [tl] at hk'
          obtain ⟨x, rfl⟩ := kindC (hm1.t k' r hr)
          match j, hf with
          | 0, hf =>
            refine hfo.far (setC_off (by simp [TC]; omega)) (by rw [World.frozen?_setCell]) (fun x' e' hx' b hb => far _ ?_)
            simp at hf
            rw [← hf] at hx'
            exact hm1.o _ (List.mem_of_getElem? hr) x' e' (by rw [← hx']; simp) b hb _ _ rfl
        · match j, hf, hv with
          | 0, hf, hv =>
            simp at hf
            simp [codeV] at hv
            subst hf hv
            rw [tl]
            refine ⟨?_, ⟨Nat.le_refl _, by show w.heap.size < _; omega⟩, ?_⟩
            · simpa [adr, TC] using at0
            · refine (HO1.out.mono (lo' := w.heap.size) (by omega) (Nat.le_refl _)).far2 (fun a ha => far _ ?_)
              rw [blk1 a ha]
              omega
        · simp at hx
          obtain ⟨rfl, rfl⟩ := hx
          rw [blk1 a ha]
          injection hg with hg
          injection hg with hg
          omega
        · simp only [recAs, fAs, List.append_nil]
          exact vAs_nodup rfl
        · simp only [recAs, fAs, List.append_nil] at ha'
          have h1 := (HRO.out.blk ha).2
          rw [blk1 a ha'] at h1
          omega
      case measure => simp [intOf]; omega
    · go_wp2
      go_ret
      have : k = m.length := by omega
      subst this
      have h1 := HRO.out
      rw [List.take_length] at h1
      exact ⟨R, rfl, h1, HB.out, hsz⟩

end Go.Proofs.Ytfdgjjahojkgfaa
