/- The box of words of a text of steps: how it lies, sync.Once over it, and what fills it. Condition: strconv's table as laid. -/
import Derived.Test.YtfgikjipkfggbaaGreatDoorQuietC
import Derived.Test.YtfgikjipkfggbaaGreatDoorT16Env
import Derived.Test.YtfgikjipkfggbaaGreatDoorT16Tr
import Derived.Defers
import Derived.Laws.Pointers
import Derived.Laws.LoneSync
import Derived.Laws.CopyRow
import Derived.RegionTactic
import Derived.RegionCalls
import Derived.ChangeAlike
import Derived.Laws.EntriesVeiled
namespace Go.Proofs.YtfgikjipkfggbaaGreatDoor
set_option linter.unusedSimpArgs false
set_option linter.unusedVariables false
set_option maxRecDepth 100000
open Go.RowKit

def maWords : List (List UInt8) := [[], [115, 101, 116], [97, 100, 100], [115, 117, 98], [108, 101, 115, 115], [108, 111, 97, 100], [115, 116, 111, 114, 101], [108, 101, 116], [115, 119, 97, 112], [112, 114, 105, 110, 116], [106, 117, 109, 112], [122, 101, 114, 111], [101, 110, 100], [102, 97, 117, 108, 116]]
def maLets : List (List UInt8) := [[], [82, 78], [82, 65, 66], [82, 65, 66], [82, 65, 66], [82, 67], [67, 66], [67, 66], [82, 67, 66], [65], [78], [65, 78], [], []]
def maW (o : Nat) : List UInt8 := maWords.getD o []
def maL (o : Nat) : List UInt8 := maLets.getD o []
def formA : Array Value := #[.string ⟨#[]⟩, .string ⟨#[]⟩, .string ⟨#[115, 101, 116]⟩, .string ⟨#[82, 78]⟩, .string ⟨#[97, 100, 100]⟩, .string ⟨#[82, 65, 66]⟩, .string ⟨#[115, 117, 98]⟩, .string ⟨#[82, 65, 66]⟩, .string ⟨#[108, 101, 115, 115]⟩, .string ⟨#[82, 65, 66]⟩, .string ⟨#[108, 111, 97, 100]⟩, .string ⟨#[82, 67]⟩, .string ⟨#[115, 116, 111, 114, 101]⟩, .string ⟨#[67, 66]⟩, .string ⟨#[108, 101, 116]⟩, .string ⟨#[67, 66]⟩, .string ⟨#[115, 119, 97, 112]⟩, .string ⟨#[82, 67, 66]⟩, .string ⟨#[112, 114, 105, 110, 116]⟩, .string ⟨#[65]⟩, .string ⟨#[106, 117, 109, 112]⟩, .string ⟨#[78]⟩, .string ⟨#[122, 101, 114, 111]⟩, .string ⟨#[65, 78]⟩, .string ⟨#[101, 110, 100]⟩, .string ⟨#[]⟩, .string ⟨#[102, 97, 117, 108, 116]⟩, .string ⟨#[]⟩]
def form0 : List Value := [.string ⟨#[]⟩, .string ⟨#[]⟩, .string ⟨#[]⟩, .string ⟨#[]⟩, .string ⟨#[]⟩, .string ⟨#[]⟩, .string ⟨#[]⟩, .string ⟨#[]⟩, .string ⟨#[]⟩, .string ⟨#[]⟩, .string ⟨#[]⟩, .string ⟨#[]⟩, .string ⟨#[]⟩, .string ⟨#[]⟩, .string ⟨#[]⟩, .string ⟨#[]⟩, .string ⟨#[]⟩, .string ⟨#[]⟩, .string ⟨#[]⟩, .string ⟨#[]⟩, .string ⟨#[]⟩, .string ⟨#[]⟩, .string ⟨#[]⟩, .string ⟨#[]⟩, .string ⟨#[]⟩, .string ⟨#[]⟩, .string ⟨#[]⟩, .string ⟨#[]⟩]
def regC (k : Nat) : List Value := (List.range 8).map fun i => if i < k then .string ⟨(114 :: Lib.itoa (i : Int)).toArray⟩ else .string ⟨#[]⟩
def wa (d st : Int) (f : Bool) (k : Nat) : List Value := [.int .u32 d, .int .i32 st, .int .u32 0] ++ (if f then formA.toList else form0) ++ regC k
theorem regC_len (k : Nat) : (regC k).length = 8 := by simp [regC]
theorem wa_len (d st : Int) (f : Bool) (k : Nat) : (wa d st f k).length = 39 := by
  unfold wa
  cases f <;> simp [regC_len, formA, form0]
/- the box -/
def WB (w : World) (B : Nat) (d st : Int) (f : Bool) (k : Nat) : Prop := w.heap[B]? = some (.cells (wa d st f k).toArray 68 (0, 0))
theorem heap_setW {w : World} {b j : Nat} {v : Value} {cs : Array Value} {f : Nat × Nat} {T : TypeId} (h : w.heap[b]? = some (.cells cs T f)) : (w.setCell ⟨b, j, none⟩ v).heap[b]? = some (.cells (cs.setIfInBounds j v) T f) := by
  simp only [World.setCell, Array.getElem?_modify, h]
  simp
theorem WB.lt {w : World} {B : Nat} {d st : Int} {f : Bool} {k : Nat} (h : WB w B d st f k) : B < w.heap.size := (Array.getElem?_eq_some_iff.1 h).1
theorem WB.cell {w : World} {B : Nat} {d st : Int} {f : Bool} {k : Nat} (h : WB w B d st f k) (j : Nat) : w.cell? ⟨B, j, none⟩ = (wa d st f k)[j]? := by
  simp [World.cell?, show w.heap[B]? = _ from h]
theorem WB.frz {w : World} {B : Nat} {d st : Int} {f : Bool} {k : Nat} (h : WB w B d st f k) (j : Nat) : w.frozen? ⟨B, j, none⟩ = false := by
  simp [World.frozen?, show w.heap[B]? = _ from h]
theorem WB.same {w w' : World} {B : Nat} {d st : Int} {f : Bool} {k : Nat} (h : WB w B d st f k) (e : w'.heap[B]? = w.heap[B]?) : WB w' B d st f k := e.trans h
theorem WB.below {w w' : World} {B n : Nat} {d st : Int} {f : Bool} {k : Nat} (h : WB w B d st f k) (hb : Below n w w') (hn : B < n) : WB w' B d st f k := (hb.block B hn).trans h
theorem WB.c0 {w : World} {B : Nat} {d st : Int} {f : Bool} {k : Nat} (h : WB w B d st f k) : w.cell? ⟨B, 0, none⟩ = some (.int .u32 d) := (h.cell 0).trans (by simp [wa])
theorem WB.c1 {w : World} {B : Nat} {d st : Int} {f : Bool} {k : Nat} (h : WB w B d st f k) : w.cell? ⟨B, 1, none⟩ = some (.int .i32 st) := (h.cell 1).trans (by simp [wa])
theorem WB.set0 {w : World} {B : Nat} {d st : Int} {f : Bool} {k : Nat} (h : WB w B d st f k) (d' : Int) : WB (w.setCell ⟨B, 0, none⟩ (.int .u32 d')) B d' st f k := by
  refine (heap_setW h).trans ?_
  simp [wa]
theorem WB.set1 {w : World} {B : Nat} {d st : Int} {f : Bool} {k : Nat} (h : WB w B d st f k) (s' : Int) : WB (w.setCell ⟨B, 1, none⟩ (.int .i32 s')) B d s' f k := by
  refine (heap_setW h).trans ?_
  simp [wa]
theorem WB.fm {w : World} {B : Nat} {d st : Int} {k : Nat} (h : WB w B d st true k) {o : Nat} (ho : o < 14) : w.cell? ⟨B, 3 + o * 2, none⟩ = some (.string ⟨(maW o).toArray⟩) ∧ w.cell? ⟨B, 3 + o * 2 + 1, none⟩ = some (.string ⟨(maL o).toArray⟩) := by
  have key : ∀ i : Fin 14, formA.toList[i.val * 2]? = some (.string ⟨(maW i.val).toArray⟩) ∧ formA.toList[i.val * 2 + 1]? = some (.string ⟨(maL i.val).toArray⟩) := by
    intro i
    match i with
    | ⟨0, _⟩ | ⟨1, _⟩ | ⟨2, _⟩ | ⟨3, _⟩ | ⟨4, _⟩ | ⟨5, _⟩ | ⟨6, _⟩ | ⟨7, _⟩ | ⟨8, _⟩ | ⟨9, _⟩ | ⟨10, _⟩ | ⟨11, _⟩ | ⟨12, _⟩ | ⟨13, _⟩ => exact ⟨rfl, rfl⟩
  have hl : formA.toList.length = 28 := rfl
  have e : ∀ j, j < 28 → (wa d st true k)[3 + j]? = formA.toList[j]? := by
    intro j hj
    unfold wa
    rw [if_pos rfl, List.append_assoc, List.getElem?_append_right (by simp), List.getElem?_append_left (by simp [hl]; omega)]
    simp
  have a := h.cell (3 + o * 2)
  have b := h.cell (3 + o * 2 + 1)
  rw [e _ (by omega)] at a
  rw [Nat.add_assoc, e _ (by omega)] at b
  exact ⟨a.trans (key ⟨o, ho⟩).1, (by rw [Nat.add_assoc]; exact b.trans (key ⟨o, ho⟩).2)⟩
theorem WB.rg {w : World} {B : Nat} {d st : Int} {f : Bool} (h : WB w B d st f 8) {r : Nat} (hr : r < 8) : w.cell? ⟨B, 31 + r, none⟩ = some (.string ⟨(114 :: Lib.itoa (r : Int)).toArray⟩) := by
  rw [h.cell]
  have hl : ([Value.int .u32 d, .int .i32 st, .int .u32 0] ++ (if f then formA.toList else form0)).length = 31 := by cases f <;> rfl
  unfold wa
  rw [List.getElem?_append_right (by rw [hl]; omega), hl]
  simp [regC, hr, List.getElem?_range hr]
theorem wa_fill (d st : Int) (k : Nat) : ((wa d st false k).toArray.toList.take (3 + 0) ++ formA.toList ++ (wa d st false k).toArray.toList.drop (3 + 0 + formA.toList.length)) = wa d st true k := by
  simp [wa, form0, formA]
theorem regC_set {k : Nat} (hk : k < 8) : (regC k).set k (.string ⟨(114 :: Lib.itoa (k : Int)).toArray⟩) = regC (k + 1) := by
  apply List.ext_getElem?
  intro i
  by_cases hi : i < 8
  · rw [List.getElem?_set]
    by_cases hik : k = i
    · subst hik
      simp [regC, hk, List.getElem?_range hk]
    · have h1 : i < k ↔ i < k + 1 := by omega
      simp [hik, regC, List.getElem?_range hi, h1]
  · rw [List.getElem?_eq_none (by simp [regC]; omega), List.getElem?_eq_none (by simp [regC]; omega)]
theorem WB.setR {w : World} {B : Nat} {d st : Int} {f : Bool} {k : Nat} (h : WB w B d st f k) (hk : k < 8) : WB (w.setCell ⟨B, 31 + k, none⟩ (.string ⟨(114 :: Lib.itoa (k : Int)).toArray⟩)) B d st f (k + 1) := by
  refine (heap_setW h).trans ?_
  have hl : ([Value.int .u32 d, .int .i32 st, .int .u32 0] ++ (if f then formA.toList else form0)).length = 31 := by cases f <;> rfl
  congr 2
  rw [List.setIfInBounds_toArray]
  congr 1
  unfold wa
  rw [List.set_append_right _ _ (by rw [hl]; omega), hl, show 31 + k - 31 = k by omega, regC_set hk]

theorem wp_storePart {ops : Array Oper} {rest : List Oper} {o : Oper} {a : Act} {Q : Exit → Act → World → Prop} {P : Program} (hgd : o.guard = none) (t : TypeId) (p v : Operand) (ho : o.op = .store t p v) (hd : o.dst = none) (w : World) (g off : Nat) (T : TypeId) (cur c' : Array Value)
    (hp : a.eval p = .pointer (some ⟨g, off, none⟩)) (hv : a.eval v = .agg c') (hi : (P.info? t).map (·.size) = some c'.size) (hg : w.heap[g]? = some (.cells cur T (0, 0))) (hl : off + 0 + c'.toList.length ≤ cur.size) (h1 : c'.all (·.oneCell') = true)
    (W : World) (hW : w.setRow g (cur.toList.take (off + 0) ++ c'.toList ++ cur.toList.drop (off + 0 + c'.toList.length)).toArray = W)
    (h : wpList P ops Q rest a W) : wpList P ops Q (o :: rest) a w := by
  subst hW
  refine wpList_plain hgd fun K hK => ?_
  have hst := run_storeCells_at P g off T c'.toList 0 cur w hg hl (fun v hv => (Array.all_eq_true_iff_forall_mem.1 h1) v (by simpa using hv))
  have hrun : (Instr.storeAt t (.pointer (some ⟨g, off, none⟩)) (.agg c')).run P w = .ok () (w.setRow g (cur.toList.take (off + 0) ++ c'.toList ++ cur.toList.drop (off + 0 + c'.toList.length)).toArray) := by
    simp only [Instr.storeAt, Instr.sureAddr, Sem.run_bind, Sem.run_pure, Result.andThen]
    cases hq : P.info? t with
    | none => simp [hq] at hi
    | some i =>
      have hs : c'.size = i.size := by simp [hq] at hi; omega
      simp [storeVar, sizeOf, typeInfo, hq, Value.cells, hs] at hst ⊢
      exact hst
  unfold Oper.wp
  simp only [execOp, ho, hp, hv, hrun, Result.andThen, Sem.run_bind, Sem.run_pure, Result.andThen_ok]
  have e : a.put o.dst undef = a := by rw [hd]; rfl
  have q := hK _ _ h
  rw [← e] at q
  exact q
theorem setRow_wb {w : World} {B : Nat} {d st : Int} {k : Nat} (h : WB w B d st false k) : ∃ W, w.setRow B ((wa d st false k).toArray.toList.take (3 + 0) ++ formA.toList ++ (wa d st false k).toArray.toList.drop (3 + 0 + formA.toList.length)).toArray = W ∧ WB W B d st true k ∧ Kb B w W := by
  refine ⟨_, rfl, ?_, ⟨rfl, rfl, rfl, by simp [World.setRow], fun q hq hne => ?_⟩⟩
  · rw [wa_fill]
    show (World.setRow _ _ _).heap[B]? = _
    simp only [World.setRow, Array.getElem?_modify, show w.heap[B]? = _ from h]
    simp
  · simp only [World.setRow, Array.getElem?_modify]
    rw [if_neg (fun e => hne e.symm)]
theorem formA_one : formA.all (·.oneCell') = true := by kernel_rfl
theorem Kb.set {B j : Nat} {X Y : World} (h : Kb B X Y) (v : Value) : Kb B X (Y.setCell ⟨B, j, none⟩ v) :=
  ⟨h.os, h.tape, h.output, by simpa using h.size, fun q a b => (Below.heap_setCell Y ⟨B, j, none⟩ v q b).trans (h.same q a b)⟩
theorem Kb.drew {B : Nat} {X Y : World} (h : Kb B X Y) : Kb B X Y.drew := ⟨h.os, h.tape, h.output, h.size, h.same⟩

theorem raceOff (w : World) : (callFunc 88 #[]).run Tryz.prog w = .ok (.value (.tuple #[])) w := run_call_mark0 Tryz.func88 (by kernel_rfl) (by kernel_rfl) (by kernel_rfl) .disable (by kernel_rfl) w
theorem raceOn (w : World) : (callFunc 90 #[]).run Tryz.prog w = .ok (.value (.tuple #[])) w := run_call_mark0 Tryz.func90 (by kernel_rfl) (by kernel_rfl) (by kernel_rfl) .enable (by kernel_rfl) w
theorem raceAcq (a : Addr) (w : World) : (callFunc 91 #[.pointer (some a)]).run Tryz.prog w = .ok (.value (.tuple #[])) w := run_call_marked Tryz.func91 (by kernel_rfl) (by kernel_rfl) (by kernel_rfl) .acquire (by kernel_rfl) a w
theorem raceRel (a : Addr) (w : World) : (callFunc 93 #[.pointer (some a)]).run Tryz.prog w = .ok (.value (.tuple #[])) w := run_call_marked Tryz.func93 (by kernel_rfl) (by kernel_rfl) (by kernel_rfl) .releaseMerge (by kernel_rfl) a w

theorem store_deferred (a : Addr) (x : Value) (u : FrameMode) (w : World) (hc : w.cell? a = some x) (hz : w.frozen? a = false) :
    CallsD Tryz.prog 72 #[.pointer (some a), .bool true] u w fun e u' w' => u' = u ∧ (e = .returned (.tuple #[]) ∧ w' = w.drew.setCell a (.int .u32 1)) := by
  have hc' : w.drew.cell? a = some x := by go_simp
  have hz' : w.drew.frozen? a = false := by go_simp
  have hst := run_call_store (P := Tryz.prog) Tryz.func81 (by kernel_rfl) (by kernel_rfl) (by kernel_rfl) (by kernel_rfl) (k := .u32) (y := 1) hc' hz'
  go_enter_d Tryz.func72, Tryz.ntmps72
  go_wp2
  go_region_calls
  all_goals (go_end0; exact ⟨rfl, rfl⟩)
theorem unlock_deferred (a : Addr) (u : FrameMode) (w : World) (hc : w.cell? a = some (.int .i32 1)) (hz : w.frozen? a = false) :
    CallsD Tryz.prog 71 #[.pointer (some a)] u w fun e u' w' => u' = u ∧ (e = .returned (.tuple #[]) ∧ w' = w.setCell a (.int .i32 0)) := by
  have hd := raceOff
  have he := raceOn
  have hr := raceRel
  have hadd := run_call_add (P := Tryz.prog) Tryz.func94 (by kernel_rfl) (by kernel_rfl) (by kernel_rfl) .i32 (by kernel_rfl) (y := -1) (s := 0) hc hz (by simp [go_sem]; rfl)
  have hcv := run_convert_to_unsafe (P := Tryz.prog) (src := 124) (dst := 107) Tryz.underlying124 Tryz.underlying107 (by kernel_rfl) hc
  go_enter_d Tryz.func71, Tryz.ntmps71
  go_wp2
  go_end0
  go_wp2
  go_end0
  exact ⟨rfl, rfl⟩
theorem lock_free (a : Addr) (w : World) (hc : w.cell? a = some (.int .i32 0)) (hz : w.frozen? a = false) :
    Calls Tryz.prog 70 #[.pointer (some a)] w fun e w' => e = .returned (.tuple #[]) ∧ w' = w.setCell a (.int .i32 1) := by
  have hd := raceOff
  have he := raceOn
  have ha := raceAcq
  have hcas := run_call_cas_hit (P := Tryz.prog) Tryz.func89 (by kernel_rfl) (by kernel_rfl) (by kernel_rfl) .i32 (by kernel_rfl) (y := 1) hc hz
  have hc' : (w.setCell a (.int .i32 1)).cell? a = some (.int .i32 1) := World.cell?_setCell_same w a _ hc
  have hcv := run_convert_to_unsafe (P := Tryz.prog) (src := 124) (dst := 107) Tryz.underlying124 Tryz.underlying107 (by kernel_rfl) hc'
  go_enter Tryz.func70, Tryz.ntmps70
  go_wp2
  first | go_end0 | (simp only [Exit.inBlock, Exit.then]; refine bodyPost_ret (results_none rfl _ _ _) rfl ?_) | refine bodyPost_ret (results_none rfl _ _ _) rfl ?_
  go_wp2
  go_end0
  exact ⟨rfl, rfl⟩

end Go.Proofs.YtfgikjipkfggbaaGreatDoor
