/- Which emitter an op has; EmitSize of the program and of the specification. No condition. -/
import Derived.Test.YtkhjhibigldcgaaGreatBG00
import Derived.Test.YtkhjhibigldcgaaGreatBG04
import Derived.Test.YtkhjhibigldcgaaGreatBLeaves
namespace Go.Proofs.YtkhjhibigldcgaaGreat
set_option linter.unusedSimpArgs false
set_option linter.unusedVariables false
set_option maxRecDepth 100000
open Go.RowKit
def sizeV (op:Int):Int:=if op=5 then 29 else if op=7 then 31 else if op=6 then 30 else if op=8 then 32 else if op=9 then 13 else if 1≤op∧op≤13 then 1 else 0
def emOf:Nat→Array Value
 | 0=>#[.int .i64 0,.bool false,.nilFunc]
 | 1=>#[.int .i64 1,.bool false,.func (.func 60) #[] #[]]
 | 2=>#[.int .i64 1,.bool false,.func (.func 61) #[] #[]]
 | 3=>#[.int .i64 1,.bool false,.func (.func 62) #[] #[]]
 | 4=>#[.int .i64 1,.bool false,.func (.func 63) #[] #[]]
 | 5=>#[.int .i64 29,.bool true,.func (.func 64) #[] #[]]
 | 6=>#[.int .i64 30,.bool true,.func (.func 65) #[] #[]]
 | 7=>#[.int .i64 31,.bool true,.func (.func 66) #[] #[]]
 | 8=>#[.int .i64 32,.bool true,.func (.func 67) #[] #[]]
 | 9=>#[.int .i64 13,.bool true,.func (.func 68) #[] #[]]
 | 10=>#[.int .i64 1,.bool false,.func (.func 69) #[] #[]]
 | 11=>#[.int .i64 1,.bool false,.func (.func 70) #[] #[]]
 | 12=>#[.int .i64 1,.bool false,.func (.func 71) #[] #[]]
 | 13=>#[.int .i64 1,.bool false,.func (.func 72) #[] #[]]
 | _=>#[.int .i64 0,.bool false,.nilFunc]
theorem ofWorld (w:World) (C:Array Value) (t t':TypeId):∃ W,((w.alloc (.cells #[.int .i64 0,.bool false,.nilFunc] t)).alloc (.cells C t')).alloc (.cells C t')=W∧(∀ j v,C[j]? =some v→W.cell? ⟨w.heap.size+1+1,j,none⟩=some v)∧W.cell? ⟨w.heap.size,0,none⟩=some (.int .i64 0)∧W.cell? ⟨w.heap.size,1,none⟩=some (.bool false)∧W.cell? ⟨w.heap.size,2,none⟩=some .nilFunc∧(∀ j,W.frozen? ⟨w.heap.size,j,none⟩=false)∧Below w.heap.size w W∧w.heap.size < W.heap.size:=by
 refine ⟨_,rfl,?_,?_,?_,?_,?_,?_,?_⟩
 ·intro j v h
  simpa [go_sem] using h
 ·simp [go_sem]
 ·simp [go_sem]
 ·simp [go_sem]
 ·intro j
  simp [go_sem]
 ·exact (((Below.refl _ _).alloc (Nat.le_refl _) _).alloc (by simp) _).alloc (by simp;omega) _
 ·simp;omega
theorem emitterOf_0 (w:World):Calls Tryz.prog 36 #[.int .i64 0] w fun e w'=>e=.returned (.agg #[.int .i64 0,.bool false,.nilFunc])∧Below w.heap.size w w':=by
 go_enter Tryz.func36,Tryz.ntmps36
 go_wp2_with (first | (go_at_call 48;refine (emitters_is _).mono ?_;rintro e w1 ⟨rfl,rfl⟩) | (go_at_call 12;refine (isOneOf_any _ _ _).mono ?_;rintro e w1 ⟨rfl,hw⟩;subst w1;rw [show Plain.oneB 0 14=true from by decide]) | (refine wp_storeRow (by rfl) 106 (.tmp 3) (.tmp 4) (by rfl) (by rfl) _ _ emTab (by show Value.pointer (some ⟨w.heap.size+1+1,0,none⟩)=_;simp) (by rfl) (by kernel_rfl) (by rfl) emTab_one ?_;obtain ⟨W,hW,hc,r0,r1,r2,fz,hb,hz⟩:=ofWorld w emTab 87 106;rw [hW];have c0:=hc 0 (.int .i64 0) (by kernel_rfl);have c1:=hc 1 (.bool false) (by kernel_rfl);have c2:=hc 2 (.nilFunc) (by kernel_rfl);clear hc hW;have HB:Hid (Below w.heap.size w W):=hb;clear hb))
 exact bodyPost_ret (v:=.agg #[.int .i64 0,.bool false,.nilFunc]) (by simp [results,Tryz.results36,go_sem,r0,r1,r2]) rfl ⟨rfl,((HB.out.setCell (p:=⟨w.heap.size,0,none⟩) (Nat.le_refl _) _).setCell (p:=⟨w.heap.size,1,none⟩) (Nat.le_refl _) _).setCell (p:=⟨w.heap.size,2,none⟩) (Nat.le_refl _) _⟩
theorem emitterOf_1 (w:World):Calls Tryz.prog 36 #[.int .i64 1] w fun e w'=>e=.returned (.agg #[.int .i64 1,.bool false,.func (.func 60) #[] #[]])∧Below w.heap.size w w':=by
 go_enter Tryz.func36,Tryz.ntmps36
 go_wp2_with (first | (go_at_call 48;refine (emitters_is _).mono ?_;rintro e w1 ⟨rfl,rfl⟩) | (go_at_call 12;refine (isOneOf_any _ _ _).mono ?_;rintro e w1 ⟨rfl,hw⟩;subst w1;rw [show Plain.oneB 1 14=true from by decide]) | (refine wp_storeRow (by rfl) 106 (.tmp 3) (.tmp 4) (by rfl) (by rfl) _ _ emTab (by show Value.pointer (some ⟨w.heap.size+1+1,0,none⟩)=_;simp) (by rfl) (by kernel_rfl) (by rfl) emTab_one ?_;obtain ⟨W,hW,hc,r0,r1,r2,fz,hb,hz⟩:=ofWorld w emTab 87 106;rw [hW];have c0:=hc 3 (.int .i64 1) (by kernel_rfl);have c1:=hc 4 (.bool false) (by kernel_rfl);have c2:=hc 5 (.func (.func 60) #[] #[]) (by kernel_rfl);clear hc hW;have HB:Hid (Below w.heap.size w W):=hb;clear hb))
 exact bodyPost_ret (v:=.agg #[.int .i64 1,.bool false,.func (.func 60) #[] #[]]) (by simp [results,Tryz.results36,go_sem,r0,r1,r2]) rfl ⟨rfl,((HB.out.setCell (p:=⟨w.heap.size,0,none⟩) (Nat.le_refl _) _).setCell (p:=⟨w.heap.size,1,none⟩) (Nat.le_refl _) _).setCell (p:=⟨w.heap.size,2,none⟩) (Nat.le_refl _) _⟩
theorem emitterOf_2 (w:World):Calls Tryz.prog 36 #[.int .i64 2] w fun e w'=>e=.returned (.agg #[.int .i64 1,.bool false,.func (.func 61) #[] #[]])∧Below w.heap.size w w':=by
 go_enter Tryz.func36,Tryz.ntmps36
 go_wp2_with (first | (go_at_call 48;refine (emitters_is _).mono ?_;rintro e w1 ⟨rfl,rfl⟩) | (go_at_call 12;refine (isOneOf_any _ _ _).mono ?_;rintro e w1 ⟨rfl,hw⟩;subst w1;rw [show Plain.oneB 2 14=true from by decide]) | (refine wp_storeRow (by rfl) 106 (.tmp 3) (.tmp 4) (by rfl) (by rfl) _ _ emTab (by show Value.pointer (some ⟨w.heap.size+1+1,0,none⟩)=_;simp) (by rfl) (by kernel_rfl) (by rfl) emTab_one ?_;obtain ⟨W,hW,hc,r0,r1,r2,fz,hb,hz⟩:=ofWorld w emTab 87 106;rw [hW];have c0:=hc 6 (.int .i64 1) (by kernel_rfl);have c1:=hc 7 (.bool false) (by kernel_rfl);have c2:=hc 8 (.func (.func 61) #[] #[]) (by kernel_rfl);clear hc hW;have HB:Hid (Below w.heap.size w W):=hb;clear hb))
 exact bodyPost_ret (v:=.agg #[.int .i64 1,.bool false,.func (.func 61) #[] #[]]) (by simp [results,Tryz.results36,go_sem,r0,r1,r2]) rfl ⟨rfl,((HB.out.setCell (p:=⟨w.heap.size,0,none⟩) (Nat.le_refl _) _).setCell (p:=⟨w.heap.size,1,none⟩) (Nat.le_refl _) _).setCell (p:=⟨w.heap.size,2,none⟩) (Nat.le_refl _) _⟩
theorem emitterOf_3 (w:World):Calls Tryz.prog 36 #[.int .i64 3] w fun e w'=>e=.returned (.agg #[.int .i64 1,.bool false,.func (.func 62) #[] #[]])∧Below w.heap.size w w':=by
 go_enter Tryz.func36,Tryz.ntmps36
 go_wp2_with (first | (go_at_call 48;refine (emitters_is _).mono ?_;rintro e w1 ⟨rfl,rfl⟩) | (go_at_call 12;refine (isOneOf_any _ _ _).mono ?_;rintro e w1 ⟨rfl,hw⟩;subst w1;rw [show Plain.oneB 3 14=true from by decide]) | (refine wp_storeRow (by rfl) 106 (.tmp 3) (.tmp 4) (by rfl) (by rfl) _ _ emTab (by show Value.pointer (some ⟨w.heap.size+1+1,0,none⟩)=_;simp) (by rfl) (by kernel_rfl) (by rfl) emTab_one ?_;obtain ⟨W,hW,hc,r0,r1,r2,fz,hb,hz⟩:=ofWorld w emTab 87 106;rw [hW];have c0:=hc 9 (.int .i64 1) (by kernel_rfl);have c1:=hc 10 (.bool false) (by kernel_rfl);have c2:=hc 11 (.func (.func 62) #[] #[]) (by kernel_rfl);clear hc hW;have HB:Hid (Below w.heap.size w W):=hb;clear hb))
 exact bodyPost_ret (v:=.agg #[.int .i64 1,.bool false,.func (.func 62) #[] #[]]) (by simp [results,Tryz.results36,go_sem,r0,r1,r2]) rfl ⟨rfl,((HB.out.setCell (p:=⟨w.heap.size,0,none⟩) (Nat.le_refl _) _).setCell (p:=⟨w.heap.size,1,none⟩) (Nat.le_refl _) _).setCell (p:=⟨w.heap.size,2,none⟩) (Nat.le_refl _) _⟩
theorem emitterOf_4 (w:World):Calls Tryz.prog 36 #[.int .i64 4] w fun e w'=>e=.returned (.agg #[.int .i64 1,.bool false,.func (.func 63) #[] #[]])∧Below w.heap.size w w':=by
 go_enter Tryz.func36,Tryz.ntmps36
 go_wp2_with (first | (go_at_call 48;refine (emitters_is _).mono ?_;rintro e w1 ⟨rfl,rfl⟩) | (go_at_call 12;refine (isOneOf_any _ _ _).mono ?_;rintro e w1 ⟨rfl,hw⟩;subst w1;rw [show Plain.oneB 4 14=true from by decide]) | (refine wp_storeRow (by rfl) 106 (.tmp 3) (.tmp 4) (by rfl) (by rfl) _ _ emTab (by show Value.pointer (some ⟨w.heap.size+1+1,0,none⟩)=_;simp) (by rfl) (by kernel_rfl) (by rfl) emTab_one ?_;obtain ⟨W,hW,hc,r0,r1,r2,fz,hb,hz⟩:=ofWorld w emTab 87 106;rw [hW];have c0:=hc 12 (.int .i64 1) (by kernel_rfl);have c1:=hc 13 (.bool false) (by kernel_rfl);have c2:=hc 14 (.func (.func 63) #[] #[]) (by kernel_rfl);clear hc hW;have HB:Hid (Below w.heap.size w W):=hb;clear hb))
 exact bodyPost_ret (v:=.agg #[.int .i64 1,.bool false,.func (.func 63) #[] #[]]) (by simp [results,Tryz.results36,go_sem,r0,r1,r2]) rfl ⟨rfl,((HB.out.setCell (p:=⟨w.heap.size,0,none⟩) (Nat.le_refl _) _).setCell (p:=⟨w.heap.size,1,none⟩) (Nat.le_refl _) _).setCell (p:=⟨w.heap.size,2,none⟩) (Nat.le_refl _) _⟩
theorem emitterOf_5 (w:World):Calls Tryz.prog 36 #[.int .i64 5] w fun e w'=>e=.returned (.agg #[.int .i64 29,.bool true,.func (.func 64) #[] #[]])∧Below w.heap.size w w':=by
 go_enter Tryz.func36,Tryz.ntmps36
 go_wp2_with (first | (go_at_call 48;refine (emitters_is _).mono ?_;rintro e w1 ⟨rfl,rfl⟩) | (go_at_call 12;refine (isOneOf_any _ _ _).mono ?_;rintro e w1 ⟨rfl,hw⟩;subst w1;rw [show Plain.oneB 5 14=true from by decide]) | (refine wp_storeRow (by rfl) 106 (.tmp 3) (.tmp 4) (by rfl) (by rfl) _ _ emTab (by show Value.pointer (some ⟨w.heap.size+1+1,0,none⟩)=_;simp) (by rfl) (by kernel_rfl) (by rfl) emTab_one ?_;obtain ⟨W,hW,hc,r0,r1,r2,fz,hb,hz⟩:=ofWorld w emTab 87 106;rw [hW];have c0:=hc 15 (.int .i64 29) (by kernel_rfl);have c1:=hc 16 (.bool true) (by kernel_rfl);have c2:=hc 17 (.func (.func 64) #[] #[]) (by kernel_rfl);clear hc hW;have HB:Hid (Below w.heap.size w W):=hb;clear hb))
 exact bodyPost_ret (v:=.agg #[.int .i64 29,.bool true,.func (.func 64) #[] #[]]) (by simp [results,Tryz.results36,go_sem,r0,r1,r2]) rfl ⟨rfl,((HB.out.setCell (p:=⟨w.heap.size,0,none⟩) (Nat.le_refl _) _).setCell (p:=⟨w.heap.size,1,none⟩) (Nat.le_refl _) _).setCell (p:=⟨w.heap.size,2,none⟩) (Nat.le_refl _) _⟩
theorem emitterOf_6 (w:World):Calls Tryz.prog 36 #[.int .i64 6] w fun e w'=>e=.returned (.agg #[.int .i64 30,.bool true,.func (.func 65) #[] #[]])∧Below w.heap.size w w':=by
 go_enter Tryz.func36,Tryz.ntmps36
 go_wp2_with (first | (go_at_call 48;refine (emitters_is _).mono ?_;rintro e w1 ⟨rfl,rfl⟩) | (go_at_call 12;refine (isOneOf_any _ _ _).mono ?_;rintro e w1 ⟨rfl,hw⟩;subst w1;rw [show Plain.oneB 6 14=true from by decide]) | (refine wp_storeRow (by rfl) 106 (.tmp 3) (.tmp 4) (by rfl) (by rfl) _ _ emTab (by show Value.pointer (some ⟨w.heap.size+1+1,0,none⟩)=_;simp) (by rfl) (by kernel_rfl) (by rfl) emTab_one ?_;obtain ⟨W,hW,hc,r0,r1,r2,fz,hb,hz⟩:=ofWorld w emTab 87 106;rw [hW];have c0:=hc 18 (.int .i64 30) (by kernel_rfl);have c1:=hc 19 (.bool true) (by kernel_rfl);have c2:=hc 20 (.func (.func 65) #[] #[]) (by kernel_rfl);clear hc hW;have HB:Hid (Below w.heap.size w W):=hb;clear hb))
 exact bodyPost_ret (v:=.agg #[.int .i64 30,.bool true,.func (.func 65) #[] #[]]) (by simp [results,Tryz.results36,go_sem,r0,r1,r2]) rfl ⟨rfl,((HB.out.setCell (p:=⟨w.heap.size,0,none⟩) (Nat.le_refl _) _).setCell (p:=⟨w.heap.size,1,none⟩) (Nat.le_refl _) _).setCell (p:=⟨w.heap.size,2,none⟩) (Nat.le_refl _) _⟩
theorem emitterOf_7 (w:World):Calls Tryz.prog 36 #[.int .i64 7] w fun e w'=>e=.returned (.agg #[.int .i64 31,.bool true,.func (.func 66) #[] #[]])∧Below w.heap.size w w':=by
 go_enter Tryz.func36,Tryz.ntmps36
 go_wp2_with (first | (go_at_call 48;refine (emitters_is _).mono ?_;rintro e w1 ⟨rfl,rfl⟩) | (go_at_call 12;refine (isOneOf_any _ _ _).mono ?_;rintro e w1 ⟨rfl,hw⟩;subst w1;rw [show Plain.oneB 7 14=true from by decide]) | (refine wp_storeRow (by rfl) 106 (.tmp 3) (.tmp 4) (by rfl) (by rfl) _ _ emTab (by show Value.pointer (some ⟨w.heap.size+1+1,0,none⟩)=_;simp) (by rfl) (by kernel_rfl) (by rfl) emTab_one ?_;obtain ⟨W,hW,hc,r0,r1,r2,fz,hb,hz⟩:=ofWorld w emTab 87 106;rw [hW];have c0:=hc 21 (.int .i64 31) (by kernel_rfl);have c1:=hc 22 (.bool true) (by kernel_rfl);have c2:=hc 23 (.func (.func 66) #[] #[]) (by kernel_rfl);clear hc hW;have HB:Hid (Below w.heap.size w W):=hb;clear hb))
 exact bodyPost_ret (v:=.agg #[.int .i64 31,.bool true,.func (.func 66) #[] #[]]) (by simp [results,Tryz.results36,go_sem,r0,r1,r2]) rfl ⟨rfl,((HB.out.setCell (p:=⟨w.heap.size,0,none⟩) (Nat.le_refl _) _).setCell (p:=⟨w.heap.size,1,none⟩) (Nat.le_refl _) _).setCell (p:=⟨w.heap.size,2,none⟩) (Nat.le_refl _) _⟩
theorem emitterOf_8 (w:World):Calls Tryz.prog 36 #[.int .i64 8] w fun e w'=>e=.returned (.agg #[.int .i64 32,.bool true,.func (.func 67) #[] #[]])∧Below w.heap.size w w':=by
 go_enter Tryz.func36,Tryz.ntmps36
 go_wp2_with (first | (go_at_call 48;refine (emitters_is _).mono ?_;rintro e w1 ⟨rfl,rfl⟩) | (go_at_call 12;refine (isOneOf_any _ _ _).mono ?_;rintro e w1 ⟨rfl,hw⟩;subst w1;rw [show Plain.oneB 8 14=true from by decide]) | (refine wp_storeRow (by rfl) 106 (.tmp 3) (.tmp 4) (by rfl) (by rfl) _ _ emTab (by show Value.pointer (some ⟨w.heap.size+1+1,0,none⟩)=_;simp) (by rfl) (by kernel_rfl) (by rfl) emTab_one ?_;obtain ⟨W,hW,hc,r0,r1,r2,fz,hb,hz⟩:=ofWorld w emTab 87 106;rw [hW];have c0:=hc 24 (.int .i64 32) (by kernel_rfl);have c1:=hc 25 (.bool true) (by kernel_rfl);have c2:=hc 26 (.func (.func 67) #[] #[]) (by kernel_rfl);clear hc hW;have HB:Hid (Below w.heap.size w W):=hb;clear hb))
 exact bodyPost_ret (v:=.agg #[.int .i64 32,.bool true,.func (.func 67) #[] #[]]) (by simp [results,Tryz.results36,go_sem,r0,r1,r2]) rfl ⟨rfl,((HB.out.setCell (p:=⟨w.heap.size,0,none⟩) (Nat.le_refl _) _).setCell (p:=⟨w.heap.size,1,none⟩) (Nat.le_refl _) _).setCell (p:=⟨w.heap.size,2,none⟩) (Nat.le_refl _) _⟩
theorem emitterOf_9 (w:World):Calls Tryz.prog 36 #[.int .i64 9] w fun e w'=>e=.returned (.agg #[.int .i64 13,.bool true,.func (.func 68) #[] #[]])∧Below w.heap.size w w':=by
 go_enter Tryz.func36,Tryz.ntmps36
 go_wp2_with (first | (go_at_call 48;refine (emitters_is _).mono ?_;rintro e w1 ⟨rfl,rfl⟩) | (go_at_call 12;refine (isOneOf_any _ _ _).mono ?_;rintro e w1 ⟨rfl,hw⟩;subst w1;rw [show Plain.oneB 9 14=true from by decide]) | (refine wp_storeRow (by rfl) 106 (.tmp 3) (.tmp 4) (by rfl) (by rfl) _ _ emTab (by show Value.pointer (some ⟨w.heap.size+1+1,0,none⟩)=_;simp) (by rfl) (by kernel_rfl) (by rfl) emTab_one ?_;obtain ⟨W,hW,hc,r0,r1,r2,fz,hb,hz⟩:=ofWorld w emTab 87 106;rw [hW];have c0:=hc 27 (.int .i64 13) (by kernel_rfl);have c1:=hc 28 (.bool true) (by kernel_rfl);have c2:=hc 29 (.func (.func 68) #[] #[]) (by kernel_rfl);clear hc hW;have HB:Hid (Below w.heap.size w W):=hb;clear hb))
 exact bodyPost_ret (v:=.agg #[.int .i64 13,.bool true,.func (.func 68) #[] #[]]) (by simp [results,Tryz.results36,go_sem,r0,r1,r2]) rfl ⟨rfl,((HB.out.setCell (p:=⟨w.heap.size,0,none⟩) (Nat.le_refl _) _).setCell (p:=⟨w.heap.size,1,none⟩) (Nat.le_refl _) _).setCell (p:=⟨w.heap.size,2,none⟩) (Nat.le_refl _) _⟩
theorem emitterOf_10 (w:World):Calls Tryz.prog 36 #[.int .i64 10] w fun e w'=>e=.returned (.agg #[.int .i64 1,.bool false,.func (.func 69) #[] #[]])∧Below w.heap.size w w':=by
 go_enter Tryz.func36,Tryz.ntmps36
 go_wp2_with (first | (go_at_call 48;refine (emitters_is _).mono ?_;rintro e w1 ⟨rfl,rfl⟩) | (go_at_call 12;refine (isOneOf_any _ _ _).mono ?_;rintro e w1 ⟨rfl,hw⟩;subst w1;rw [show Plain.oneB 10 14=true from by decide]) | (refine wp_storeRow (by rfl) 106 (.tmp 3) (.tmp 4) (by rfl) (by rfl) _ _ emTab (by show Value.pointer (some ⟨w.heap.size+1+1,0,none⟩)=_;simp) (by rfl) (by kernel_rfl) (by rfl) emTab_one ?_;obtain ⟨W,hW,hc,r0,r1,r2,fz,hb,hz⟩:=ofWorld w emTab 87 106;rw [hW];have c0:=hc 30 (.int .i64 1) (by kernel_rfl);have c1:=hc 31 (.bool false) (by kernel_rfl);have c2:=hc 32 (.func (.func 69) #[] #[]) (by kernel_rfl);clear hc hW;have HB:Hid (Below w.heap.size w W):=hb;clear hb))
 exact bodyPost_ret (v:=.agg #[.int .i64 1,.bool false,.func (.func 69) #[] #[]]) (by simp [results,Tryz.results36,go_sem,r0,r1,r2]) rfl ⟨rfl,((HB.out.setCell (p:=⟨w.heap.size,0,none⟩) (Nat.le_refl _) _).setCell (p:=⟨w.heap.size,1,none⟩) (Nat.le_refl _) _).setCell (p:=⟨w.heap.size,2,none⟩) (Nat.le_refl _) _⟩
theorem emitterOf_11 (w:World):Calls Tryz.prog 36 #[.int .i64 11] w fun e w'=>e=.returned (.agg #[.int .i64 1,.bool false,.func (.func 70) #[] #[]])∧Below w.heap.size w w':=by
 go_enter Tryz.func36,Tryz.ntmps36
 go_wp2_with (first | (go_at_call 48;refine (emitters_is _).mono ?_;rintro e w1 ⟨rfl,rfl⟩) | (go_at_call 12;refine (isOneOf_any _ _ _).mono ?_;rintro e w1 ⟨rfl,hw⟩;subst w1;rw [show Plain.oneB 11 14=true from by decide]) | (refine wp_storeRow (by rfl) 106 (.tmp 3) (.tmp 4) (by rfl) (by rfl) _ _ emTab (by show Value.pointer (some ⟨w.heap.size+1+1,0,none⟩)=_;simp) (by rfl) (by kernel_rfl) (by rfl) emTab_one ?_;obtain ⟨W,hW,hc,r0,r1,r2,fz,hb,hz⟩:=ofWorld w emTab 87 106;rw [hW];have c0:=hc 33 (.int .i64 1) (by kernel_rfl);have c1:=hc 34 (.bool false) (by kernel_rfl);have c2:=hc 35 (.func (.func 70) #[] #[]) (by kernel_rfl);clear hc hW;have HB:Hid (Below w.heap.size w W):=hb;clear hb))
 exact bodyPost_ret (v:=.agg #[.int .i64 1,.bool false,.func (.func 70) #[] #[]]) (by simp [results,Tryz.results36,go_sem,r0,r1,r2]) rfl ⟨rfl,((HB.out.setCell (p:=⟨w.heap.size,0,none⟩) (Nat.le_refl _) _).setCell (p:=⟨w.heap.size,1,none⟩) (Nat.le_refl _) _).setCell (p:=⟨w.heap.size,2,none⟩) (Nat.le_refl _) _⟩
theorem emitterOf_12 (w:World):Calls Tryz.prog 36 #[.int .i64 12] w fun e w'=>e=.returned (.agg #[.int .i64 1,.bool false,.func (.func 71) #[] #[]])∧Below w.heap.size w w':=by
 go_enter Tryz.func36,Tryz.ntmps36
 go_wp2_with (first | (go_at_call 48;refine (emitters_is _).mono ?_;rintro e w1 ⟨rfl,rfl⟩) | (go_at_call 12;refine (isOneOf_any _ _ _).mono ?_;rintro e w1 ⟨rfl,hw⟩;subst w1;rw [show Plain.oneB 12 14=true from by decide]) | (refine wp_storeRow (by rfl) 106 (.tmp 3) (.tmp 4) (by rfl) (by rfl) _ _ emTab (by show Value.pointer (some ⟨w.heap.size+1+1,0,none⟩)=_;simp) (by rfl) (by kernel_rfl) (by rfl) emTab_one ?_;obtain ⟨W,hW,hc,r0,r1,r2,fz,hb,hz⟩:=ofWorld w emTab 87 106;rw [hW];have c0:=hc 36 (.int .i64 1) (by kernel_rfl);have c1:=hc 37 (.bool false) (by kernel_rfl);have c2:=hc 38 (.func (.func 71) #[] #[]) (by kernel_rfl);clear hc hW;have HB:Hid (Below w.heap.size w W):=hb;clear hb))
 exact bodyPost_ret (v:=.agg #[.int .i64 1,.bool false,.func (.func 71) #[] #[]]) (by simp [results,Tryz.results36,go_sem,r0,r1,r2]) rfl ⟨rfl,((HB.out.setCell (p:=⟨w.heap.size,0,none⟩) (Nat.le_refl _) _).setCell (p:=⟨w.heap.size,1,none⟩) (Nat.le_refl _) _).setCell (p:=⟨w.heap.size,2,none⟩) (Nat.le_refl _) _⟩
theorem emitterOf_13 (w:World):Calls Tryz.prog 36 #[.int .i64 13] w fun e w'=>e=.returned (.agg #[.int .i64 1,.bool false,.func (.func 72) #[] #[]])∧Below w.heap.size w w':=by
 go_enter Tryz.func36,Tryz.ntmps36
 go_wp2_with (first | (go_at_call 48;refine (emitters_is _).mono ?_;rintro e w1 ⟨rfl,rfl⟩) | (go_at_call 12;refine (isOneOf_any _ _ _).mono ?_;rintro e w1 ⟨rfl,hw⟩;subst w1;rw [show Plain.oneB 13 14=true from by decide]) | (refine wp_storeRow (by rfl) 106 (.tmp 3) (.tmp 4) (by rfl) (by rfl) _ _ emTab (by show Value.pointer (some ⟨w.heap.size+1+1,0,none⟩)=_;simp) (by rfl) (by kernel_rfl) (by rfl) emTab_one ?_;obtain ⟨W,hW,hc,r0,r1,r2,fz,hb,hz⟩:=ofWorld w emTab 87 106;rw [hW];have c0:=hc 39 (.int .i64 1) (by kernel_rfl);have c1:=hc 40 (.bool false) (by kernel_rfl);have c2:=hc 41 (.func (.func 72) #[] #[]) (by kernel_rfl);clear hc hW;have HB:Hid (Below w.heap.size w W):=hb;clear hb))
 exact bodyPost_ret (v:=.agg #[.int .i64 1,.bool false,.func (.func 72) #[] #[]]) (by simp [results,Tryz.results36,go_sem,r0,r1,r2]) rfl ⟨rfl,((HB.out.setCell (p:=⟨w.heap.size,0,none⟩) (Nat.le_refl _) _).setCell (p:=⟨w.heap.size,1,none⟩) (Nat.le_refl _) _).setCell (p:=⟨w.heap.size,2,none⟩) (Nat.le_refl _) _⟩
theorem emitterOf_no (o:Int) (w:World) (h:¬ (0≤o∧o < 14)):Calls Tryz.prog 36 #[.int .i64 o] w fun e w'=>e=.returned (.agg #[.int .i64 0,.bool false,.nilFunc])∧Below w.heap.size w w':=by
 have hN:Plain.oneB o 14=false:=decide_eq_false h
 clear h
 go_enter Tryz.func36,Tryz.ntmps36
 go_wp2_with (first | (go_at_call 48;refine (emitters_is _).mono ?_;rintro e w1 ⟨rfl,rfl⟩) | (go_at_call 12;refine (isOneOf_any _ _ _).mono ?_;rintro e w1 ⟨rfl,hw⟩;subst w1;rw [hN]) | (refine wp_storeRow (by rfl) 106 (.tmp 3) (.tmp 4) (by rfl) (by rfl) _ _ emTab (by show Value.pointer (some ⟨w.heap.size+1+1,0,none⟩)=_;simp) (by rfl) (by kernel_rfl) (by rfl) emTab_one ?_;obtain ⟨W,hW,hc,r0,r1,r2,fz,hb,hz⟩:=ofWorld w emTab 87 106;rw [hW];clear hc hW;have HB:Hid (Below w.heap.size w W):=hb;clear hb))
 exact bodyPost_ret (v:=.agg #[.int .i64 0,.bool false,.nilFunc]) (by simp [results,Tryz.results36,go_sem,r0,r1,r2]) rfl ⟨rfl,((HB.out.setCell (p:=⟨w.heap.size,0,none⟩) (Nat.le_refl _) _).setCell (p:=⟨w.heap.size,1,none⟩) (Nat.le_refl _) _).setCell (p:=⟨w.heap.size,2,none⟩) (Nat.le_refl _) _⟩
def emVal (o:Int):Array Value:=if 0≤o∧o < 14 then emOf o.toNat else #[.int .i64 0,.bool false,.nilFunc]
theorem op_cases {o:Int} (h:0≤o∧o < 14):o=0∨o=1∨o=2∨o=3∨o=4∨o=5∨o=6∨o=7∨o=8∨o=9∨o=10∨o=11∨o=12∨o=13:=by omega
theorem emitterOf_any (o:Int) (w:World):Calls Tryz.prog 36 #[.int .i64 o] w fun e w'=>e=.returned (.agg (emVal o))∧Below w.heap.size w w':=by
 by_cases h:0≤o∧o < 14
 ·unfold emVal
  rw [if_pos h]
  rcases op_cases h with rfl | rfl | rfl | rfl | rfl | rfl | rfl | rfl | rfl | rfl | rfl | rfl | rfl | rfl
  ·exact emitterOf_0 w
  ·exact emitterOf_1 w
  ·exact emitterOf_2 w
  ·exact emitterOf_3 w
  ·exact emitterOf_4 w
  ·exact emitterOf_5 w
  ·exact emitterOf_6 w
  ·exact emitterOf_7 w
  ·exact emitterOf_8 w
  ·exact emitterOf_9 w
  ·exact emitterOf_10 w
  ·exact emitterOf_11 w
  ·exact emitterOf_12 w
  ·exact emitterOf_13 w
 ·unfold emVal
  rw [if_neg h]
  exact emitterOf_no o w h
theorem emVal_cells (o:Int):∃ b f,emVal o=#[.int .i64 (sizeV o),.bool b,f]:=by
 by_cases h:0≤o∧o < 14
 ·rcases op_cases h with rfl | rfl | rfl | rfl | rfl | rfl | rfl | rfl | rfl | rfl | rfl | rfl | rfl | rfl<;>exact ⟨_,_,rfl⟩
 ·have e:sizeV o=0:=by
   unfold sizeV
   rw [if_neg (by omega),if_neg (by omega),if_neg (by omega),if_neg (by omega),if_neg (by omega),if_neg (by omega)]
  unfold emVal
  rw [if_neg h,e]
  exact ⟨_,_,rfl⟩
theorem implSize_any (o r a b n:Int) (w:World):Calls Tryz.prog 24 #[.agg #[.int .i64 o,.int .i64 r,.int .i64 a,.int .i64 b,.int .i64 n]] w fun e w'=>e=.returned (.int .i64 (sizeV o))∧Below w.heap.size w w':=by
 obtain ⟨bb,ff,he⟩:=emVal_cells o
 have C:=emitterOf_any o (w.alloc (.cells #[.int .i64 o,.int .i64 r,.int .i64 a,.int .i64 b,.int .i64 n] 71))
 rw [he] at C
 clear he
 generalize sizeV o=z at C
 have hf:∀ W,Sem.run Tryz.prog (Instr.field 87 (.agg #[.int .i64 z,.bool bb,ff]) 0) W=.ok (.int .i64 z) W:=fun W=>rfl
 go_enter Tryz.func24,Tryz.ntmps24
 go_wp2_with (go_at_call 36;refine C.mono ?_;rintro e w1 ⟨rfl,hb⟩)
 go_ret
 exact ⟨rfl,((Below.refl _ _).alloc (Nat.le_refl _) _).trans (hb.mono (by simp))⟩
def bitN (b:Bool):Int:=if b then 1 else 0
theorem l4Bit_any (b:Bool) (w:World):Calls Tryz.prog 42 #[.bool b] w fun e w'=>e=.returned (.int .i64 (bitN b))∧w'=w:=by
 cases b
 all_goals
  go_enter Tryz.func42,Tryz.ntmps42
  go_wp2
  go_ret
  exact ⟨rfl,rfl⟩
theorem specSize_any (o r a b n:Int) (w:World):Calls Tryz.prog 35 #[.agg #[.int .i64 o,.int .i64 r,.int .i64 a,.int .i64 b,.int .i64 n]] w fun e w'=>e=.returned (.int .i64 (sizeV o))∧w'=w.alloc (.cells #[.int .i64 o,.int .i64 r,.int .i64 a,.int .i64 b,.int .i64 n] 71):=by
 by_cases h5:o=5
 ·subst h5
  go_enter Tryz.func35,Tryz.ntmps35
  go_wp2
  go_ret
  exact ⟨rfl,rfl⟩
 have e5:(o==5)=false:=by simpa using h5
 by_cases h7:o=7
 ·subst h7
  go_enter Tryz.func35,Tryz.ntmps35
  go_wp2
  go_ret
  exact ⟨rfl,rfl⟩
 have e7:(o==7)=false:=by simpa using h7
 by_cases h6:o=6
 ·subst h6
  go_enter Tryz.func35,Tryz.ntmps35
  go_wp2
  go_ret
  exact ⟨rfl,rfl⟩
 have e6:(o==6)=false:=by simpa using h6
 by_cases h8:o=8
 ·subst h8
  go_enter Tryz.func35,Tryz.ntmps35
  go_wp2
  go_ret
  exact ⟨rfl,rfl⟩
 have e8:(o==8)=false:=by simpa using h8
 by_cases h9:o=9
 ·subst h9
  go_enter Tryz.func35,Tryz.ntmps35
  go_wp2
  go_ret
  exact ⟨rfl,rfl⟩
 have e9:(o==9)=false:=by simpa using h9
 have es:sizeV o=bitN (decide (1≤o∧o≤13)):=by
  unfold sizeV bitN
  rw [if_neg h5,if_neg h7,if_neg h6,if_neg h8,if_neg h9]
  by_cases h:1≤o∧o≤13
  ·rw [if_pos h,decide_eq_true h];rfl
  ·rw [if_neg h,decide_eq_false h];rfl
 rw [es]
 clear es h5 h6 h7 h8 h9
 obtain ⟨bb,hbb⟩:∃ b,decide (1≤o∧o≤13)=b:=⟨_,rfl⟩
 rw [hbb]
 have C:=fun w=>l1InD_is o 1 13 bb w hbb
 clear hbb
 go_enter Tryz.func35,Tryz.ntmps35
 go_wp2_with (first | (go_at_call 13;refine (C _).mono ?_;rintro e w1 ⟨rfl,hw⟩;subst w1) | (go_at_call 42;refine (l4Bit_any _ _).mono ?_;rintro e w1 ⟨rfl,hw⟩;subst w1))
 go_ret
 exact ⟨rfl,rfl⟩
end Go.Proofs.YtkhjhibigldcgaaGreat
