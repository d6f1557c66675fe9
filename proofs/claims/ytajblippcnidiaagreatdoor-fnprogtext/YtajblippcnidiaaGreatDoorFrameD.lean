/- How the listed tables read: the program's table of words and strconv's powers of ten hold what their initialisers lay. Condition: the row's own ('laid'). -/
import Derived.Test.YtajblippcnidiaaGreatDoorRows
import Derived.Test.YtajblippcnidiaaGreatDoorText3
import Derived.WalkKit
import Derived.ProofKit
import Derived.OpenShut
import Derived.ShutString
import Derived.ChangeOld
import Derived.ChangeVars
import Derived.LaidMore
import Derived.MakeChecks
import Derived.Lib.LaidTab
import Derived.Stop.Joined
import Derived.Stop.LaidErr
namespace Go.Proofs.YtajblippcnidiaaGreatDoor
set_option linter.unusedSimpArgs false
set_option linter.unusedVariables false
set_option maxRecDepth 100000
open Go.ChangeShapes Go.WideShapes Go.ChangeAt Go.RowKit

theorem ownD : ownKnob Tryz.prog.godebug = none := by kernel_rfl
theorem laidOutD : laidOutB Tryz.prog = true := by kernel_rfl
theorem gForms : Tryz.prog.globalNamed "loop.example/g00238/impl.forms" = some 0 := by kernel_rfl
theorem tForms : (Tryz.prog.globals[0]?).map (·.type) = some 61 := by kernel_rfl
theorem tPow : (Tryz.prog.globals[2]?).map (·.type) = some 139 := by kernel_rfl
theorem cellsForm : Tryz.prog.cellsOf 60 = 2 := by kernel_rfl
theorem cellsStr : Tryz.prog.cellsOf 9 = 1 := by kernel_rfl
theorem cellsU64 : Tryz.prog.cellsOf 132 = 1 := by kernel_rfl
theorem cellsPow : Tryz.prog.cellsOf 139 = 20 := by kernel_rfl

theorem list2 {α : Type} {cs : List α} (h : cs.length = 2) : ∃ c0 c1, cs = [c0, c1] := by
  match cs, h with
  | [c0, c1], _ => exact ⟨c0, c1, rfl⟩
theorem bytes_back (s : ByteArray) : (⟨s.data.toList.toArray⟩ : ByteArray) = s := rfl

theorem form_chunk {H : Type} {enc : TypeId × Value → H} {w : World} {base : Nat} {spare : Nat → Bool} {held : Bool} {fuel : Nat} {c : List Value} {a b : List UInt8} {p : List MemPlace}
    (h : DataW.trod enc Tryz.prog w base spare held fuel 60 c = some (.agg [.lit (.string a), .lit (.string b)], p)) : c = [.string ⟨a.toArray⟩, .string ⟨b.toArray⟩] := by
  obtain ⟨xs, n, _, hx, hl, hlen, hf⟩ := DataW.trod_struct Tryz.underlying60 h
  rw [cellsForm] at hl
  obtain ⟨c0, c1, rfl⟩ := list2 hl
  obtain ⟨y0, y1, rfl⟩ := list2 (hlen.trans rfl)
  have g0 := hf 0 _ rfl
  have g1 := hf 1 _ rfl
  simp [cellsStr] at g0 g1
  obtain ⟨s0, e0, hs0, -⟩ := DataW.trod_string Tryz.underlying9 g0
  obtain ⟨s1, e1, hs1, -⟩ := DataW.trod_string Tryz.underlying9 g1
  subst hs0 hs1
  simp at e0 e1 hx
  obtain ⟨⟨rfl, rfl⟩, -⟩ := hx
  subst e0 e1
  rw [bytes_back, bytes_back]

theorem forms_list : (Rows.laid_loop_example_g00238_impl_forms : DataW Unit) = .agg ((List.range 14).map fun i => .agg [.lit (.string (wordL i)), .lit (.string (letL i))]) := rfl

theorem forms_cells {W : World} {cs : Array Value} {fuel : Nat} {p : List MemPlace} {enc : TypeId × Value → Unit} {spare : Nat → Bool} {held : Bool}
    (h : DataW.trod enc Tryz.prog W 0 spare held fuel 61 cs.toList = some (Rows.laid_loop_example_g00238_impl_forms, p)) :
    ∀ i, i < 14 → cs[i * 2]? = some (.string ⟨(wordL i).toArray⟩) ∧ cs[i * 2 + 1]? = some (.string ⟨(letL i).toArray⟩) := by
  obtain ⟨xs, m, _, hx, hlen, hxl, hel⟩ := DataW.trod_array Tryz.underlying61 h
  rw [forms_list] at hx
  simp only [Prod.mk.injEq, DataW.agg.injEq] at hx
  intro i hi
  have he := hel i hi
  have hi' : i < xs.length := by omega
  rw [List.getElem?_eq_getElem hi', cellsForm] at he
  have hd : (xs[i]).1 = .agg [.lit (.string (wordL i)), .lit (.string (letL i))] := by
    have := congrArg (fun l => l[i]?) hx.1
    simp [hi] at this
    simpa [List.getElem?_eq_getElem hi'] using this.symm
  have hc := form_chunk (a := wordL i) (b := letL i) (p := (xs[i]).2) (by rw [he, ← hd])
  have h0 := congrArg (fun l => l[0]?) hc
  have h1 := congrArg (fun l => l[1]?) hc
  simp [List.getElem?_take, List.getElem?_drop] at h0 h1
  exact ⟨h0, h1⟩

theorem lt_of_cell {w : World} {g o : Nat} {v : Value} (h : w.cell? ⟨g, o, none⟩ = some v) : g < w.heap.size := by
  apply Classical.byContradiction
  intro hn
  have : w.heap[g]? = none := by simp; omega
  simp [World.cell?, this] at h

theorem env_of_laid {W : World} (h0 : laidMetH Tryz.prog Rows.fnProgTextRow.laid W) : Env W W.heap.size := by
  have h : laidMet Tryz.prog Rows.fnProgTextRow.laid W := by
    rw [MakeChecks.laidMetH_plain _ _ _ (by kernel_rfl)] at h0
    exact h0
  have hp := laidMet.tail (laidMet.tail h)
  have htab := Lib.tabIs_of_head (k := .u64) (zs := Lib.pow10Tab) pow_at tPow Tryz.underlying139 Tryz.underlying132 cellsU64 cellsPow hp
  obtain ⟨ps, ⟨g', t', cs, fuel, p, q, hg', ht', hvar, hd, _, _⟩, _⟩ := laidMet.tail hp
  obtain rfl := Option.some.inj (gForms.symm.trans hg')
  obtain rfl := Option.some.inj (tForms.symm.trans ht')
  have hf := forms_cells hd
  have hc : ∀ i, i < 14 → W.cell? ⟨0, i * 2, none⟩ = some (.string ⟨(wordL i).toArray⟩) ∧ W.cell? ⟨0, i * 2 + 1, none⟩ = some (.string ⟨(letL i).toArray⟩) := fun i hi =>
    ⟨(World.var?_cell gForms hvar (i * 2)).trans (hf i hi).1, (World.var?_cell gForms hvar (i * 2 + 1)).trans (hf i hi).2⟩
  have ht := htab.cell pow_at 0 (by decide)
  exact ⟨htab, hc, lt_of_cell (hc 0 (by decide)).1, lt_of_cell ht⟩

theorem door_met (os : Os) (args : Array Value) : laidMetH Tryz.prog Rows.fnProgTextRow.laid ((World.doorLaid Tryz.prog 42 os).forCall (fun _ _ => 0) ⟨#[], args, []⟩).memory :=
  laidMetH_of_parts3 (fuel := 8) (laidMet_of_run' 8 (by kernel_rfl) (by kernel_rfl)) (by kernel_rfl) (by kernel_rfl)

end Go.Proofs.YtajblippcnidiaaGreatDoor
