/- A machine copied by the specification. Conditions: it is counted. -/
import Derived.Test.YtlbeploopclegaaGreatQG00
import Derived.Test.YtlbeploopclegaaGreatQG01
import Derived.Test.YtlbeploopclegaaGreatQG02
import Derived.Test.YtlbeploopclegaaGreatQG05
import Derived.Test.YtlbeploopclegaaGreatQG09
import Derived.Test.YtlbeploopclegaaGreatQG04
import Derived.Test.YtlbeploopclegaaGreatQG10
import Derived.Test.YtlbeploopclegaaGreatQG11
import Derived.Test.YtlbeploopclegaaGreatQG23
import Derived.Deep.RegionHeld3
import Derived.Deep.DeepCutAuto
namespace Go.Proofs.YtlbeploopclegaaGreat
set_option linter.unusedSimpArgs false
set_option linter.unusedVariables false
set_option maxRecDepth 100000
open Go.RowKit
theorem entl8CopyK (args:Array Value) (w:World):(callFunc 61 args).run Tryz.prog w=.ok (.enter 61 args) w:=by kernel_rfl
theorem hid_of {p:Prop} (h:p):Hid p:=h
def BoxAt (X:World):Option Nat→Prop
 | none=>True
 | some p=>X4 X p (.slice none 0 0) (.slice none 0 0) (.slice none 0 0) (.slice none 0 0)∧BxT X p
def EmpAt (X:World):Option Nat→Prop
 | none=>True
 | some p=>X.heap[p]? =some (.cells #[] 105 (0,0))∧p < X.heap.size
theorem boxSome {X:World} {p:Nat} (h:BoxAt X (some p)):X4 X p (.slice none 0 0) (.slice none 0 0) (.slice none 0 0) (.slice none 0 0)∧BxT X p:=h
theorem BoxAt.keep {X Y:World} {p:Option Nat} (h:BoxAt X p) (hb:Below X.heap.size X Y):BoxAt Y p:=by
 cases p with
 | none=>trivial
 | some p=>exact bx_keep h hb h.1.x.z
theorem EmpAt.keep {X Y:World} {p:Option Nat} (h:EmpAt X p) (hb:Below X.heap.size X Y):EmpAt Y p:=by
 cases p with
 | none=>trivial
 | some p=>exact ⟨(hb.block p h.2).trans h.1,Nat.lt_of_lt_of_le h.2 hb.size⟩
theorem boxNo (X:World):BoxAt X none:=trivial
theorem empNo (X:World):EmpAt X none:=trivial
theorem boxN0 (X:World):BoxAt (X.alloc (.cells #[.slice none 0 0,.slice none 0 0,.slice none 0 0,.slice none 0 0] 38)) (some X.heap.size):=X4.zero X _ _ _ _
theorem boxN1 (X:World) (o:Obj):BoxAt ((X.alloc (.cells #[.slice none 0 0,.slice none 0 0,.slice none 0 0,.slice none 0 0] 38)).alloc o) (some X.heap.size):=(boxN0 X).keep ((Below.refl _ _).alloc (Nat.le_refl _) o)
theorem boxN2 (X:World) (o:Obj):BoxAt ((X.alloc o).alloc (.cells #[.slice none 0 0,.slice none 0 0,.slice none 0 0,.slice none 0 0] 38)) (some (X.heap.size+1)):=by have:=boxN0 (X.alloc o);rw [World.size_alloc] at this;exact this
theorem empN0 (X:World):EmpAt (X.alloc (.cells #[] 105)) (some X.heap.size):=⟨heap_alloc_new _ _,by simp⟩
theorem empN1 (X:World) (o:Obj):EmpAt ((X.alloc (.cells #[] 105)).alloc o) (some X.heap.size):=(empN0 X).keep ((Below.refl _ _).alloc (Nat.le_refl _) o)
theorem empN2 (X:World) (o:Obj):EmpAt ((X.alloc o).alloc (.cells #[] 105)) (some (X.heap.size+1)):=by have:=empN0 (X.alloc o);rw [World.size_alloc] at this;exact this
theorem boxD {X:World} {p:Option Nat} (h:BoxAt X p):BoxAt X.drew p:=h.keep ((Below.refl _ _).drew)
theorem empD {X:World} {p:Option Nat} (h:EmpAt X p):EmpAt X.drew p:=h.keep ((Below.refl _ _).drew)
theorem emp_own {X:World} {q B:Nat} (h:EmpAt X (some q)) (hB:B≤q):OwnD X B (.slice (some ⟨q,0,none⟩) 0 0) []:=emptyD h.1 hB
theorem noteNe {Y:World} {q base size n k:Nat} {e:TypeId} {u:Value} {xs:List Value} (hE:EmpAt Y (some q)) (hu:Y.ownsRow base e size u n xs) (he:e≠105) (hk:u.ownBlock=some k):(Value.slice (some ⟨q,0,none⟩) 0 0).ownBlock≠some k:=by
 intro e1
 simp only [Value.ownBlock,Option.some.injEq] at e1
 subst e1
 obtain ⟨cs,f,c⟩:=own_ty hu hk
 rw [hE.1] at c
 injection c with c
 injection c with _ c
 exact he c.symm
theorem aftC {Y wA:World} {q B n c:Nat} {s:Option Addr} {v:Value} {L:List CV} (h:OwnC Y B v L) (hE:EmpAt Y (some q)) (hc:Copied Y wA (some ⟨q,0,none⟩) 0 B n s c):OwnC wA B v L:=
 ⟨ownKeep' h.row (fun k hk=>hc.far k (World.ownsRow.lt h.row _ hk).2 (noteNe hE h.row (by decide) hk)),fun i x hx=>ownKeep' (h.inn i x hx) (fun k hk=>hc.far k (World.ownsRow.lt (h.inn i x hx) _ hk).2 (noteNe hE (h.inn i x hx) (by decide) hk)),h.sep⟩
theorem aftM {Y wA:World} {q B n c:Nat} {s:Option Addr} {v:Value} {S:List RS} {m:List (List WD)} (h:OW Y B v S m) (hE:EmpAt Y (some q)) (hc:Copied Y wA (some ⟨q,0,none⟩) 0 B n s c):OW wA B v S m:=by
 refine ⟨h.n,ownKeep' h.row (fun k hk=>hc.far k (World.ownsRow.lt h.row _ hk).2 (noteNe hE h.row (by decide) hk)),fun i r l hr hl=>?_,h.d⟩
 have z:=h.r i r l hr hl
 refine z.kept (fun k hk=>hc.far k (World.ownsRow.lt z.own _ hk).2 (noteNe hE z.own (by decide) hk)) (fun a ha=>hc.far _ (z.blk ha).2 (fun e1=>?_)) hc.low.size
 simp only [Value.ownBlock,Option.some.injEq] at e1
 obtain ⟨cs,f,c'⟩:=z.vt a ha
 rw [← e1,hE.1] at c'
 injection c' with c'
 injection c' with _ c'
 exact absurd c' (by decide)
theorem aftB {Y wA:World} {q B n c:Nat} {s:Option Addr} {p:Option Nat} (h:BoxAt Y p) (hE:EmpAt Y (some q)) (hc:Copied Y wA (some ⟨q,0,none⟩) 0 B n s c):BoxAt wA p:=by
 cases p with
 | none=>trivial
 | some p=>
  have e:wA.heap[p]? =Y.heap[p]? :=hc.far p h.1.x.z (fun e1=>by
   simp only [Value.ownBlock,Option.some.injEq] at e1
   subst e1
   obtain ⟨cs,f,c'⟩:=h.2
   rw [hE.1] at c'
   injection c' with c'
   injection c' with _ c'
   exact absurd c' (by decide))
  obtain ⟨cs,f,c'⟩:=h.2
  exact ⟨h.1.blk e hc.low.size,cs,f,e.trans c'⟩
set_option maxHeartbeats 4000000 in
theorem l8Copy_any (s1 s2 s3 s4 : Option Addr) (c1 c2 c3 c4 lo hi : Nat) (d : MD) (w : World) (h : MaR w lo hi s1 s2 s3 s4 d) (hB : hi ≤ w.heap.size) (hf : MaSz d ≤ 1048576) :
  Calls Tryz.prog 24 #[.agg #[.slice s1 d.codes.length c1,.slice s2 d.cores.length c2,.slice s3 d.mem.length c3,.slice s4 d.tr.length c4]] w fun e w'=>∃ vc vk vm vt LC LK S,e=.returned (.agg #[vc,vk,vm,vt])∧MQ0 w' w.heap.size vc vk vm vt LC LK S d∧Below w.heap.size w w'∧w.heap.size < w'.heap.size:=by
 have H:Hid (MaR w lo hi s1 s2 s3 s4 d):=h
 have F1:d.codes.length+szC d.codes≤1048576:=by unfold MaSz at hf;omega
 have F2:d.cores.length+szK d.cores≤1048576:=by unfold MaSz at hf;omega
 have F3:MFits d.mem:=by unfold MaSz at hf;unfold MFits;omega
 have F4:d.tr.length≤1048576:=by unfold MaSz at hf;omega
 have HVK:Hid (∀ (i:Nat) (x:KD),d.cores[i]? =some x→x.regs.length+x.vw.length≤1048576):=fun i x hx=>by have:=szK_at d.cores i x hx;omega
 clear h hf
 go_enter Tryz.func24,Tryz.ntmps24
 go_upto_region 1 with fail
 obtain ⟨W,hW⟩:∃ W,(w.alloc (.cells #[.slice s1 d.codes.length c1,.slice s2 d.cores.length c2,.slice s3 d.mem.length c3,.slice s4 d.tr.length c4] 38)).alloc (.cells #[.slice none 0 0,.slice none 0 0,.slice none 0 0,.slice none 0 0] 38)=W:=⟨_,rfl⟩
 obtain ⟨kw,xa,xb,zw⟩:=two4x hW
 rw [hW]
 have XA:Hid (X4 W w.heap.size (.slice s1 d.codes.length c1) (.slice s2 d.cores.length c2) (.slice s3 d.mem.length c3) (.slice s4 d.tr.length c4)):=xa
 have XB:Hid (X4 W (w.heap.size+1) (.slice none 0 0) (.slice none 0 0) (.slice none 0 0) (.slice none 0 0)):=xb
 have KW:Hid (Below w.heap.size w W):=kw
 have zW:w.heap.size+2≤W.heap.size:=by omega
 have RR:Hid (∀ X,Below W.heap.size W X→MaR X lo hi s1 s2 s3 s4 d):=fun X hX=>(H.out.keep (Keep.of_below KW.out hB)).keep (Keep.of_below hX (by omega))
 have RB:Hid (∀ X,Below W.heap.size W X→X4 X w.heap.size (.slice s1 d.codes.length c1) (.slice s2 d.cores.length c2) (.slice s3 d.mem.length c3) (.slice s4 d.tr.length c4)):=fun X hX=>XA.out.keep hX (by omega)
 obtain ⟨p0,p1,p2,p3,p4⟩:=xa.x
 clear hW kw xa xb zw
 have kD:Below W.heap.size W W.drew:=Below.drew (Below.refl _ _)
 have hdr:∀ X:World,X.drew.heap.size=X.heap.size:=fun _=>rfl
 have nW:¬ W.heap.size=w.heap.size:=by omega
 have nW':¬ w.heap.size=W.heap.size:=by omega
 have CC:Hid (∀ X pB pE,Below W.heap.size W X→BoxAt X pB→EmpAt X pE→Calls Tryz.prog 59 #[.slice s1 d.codes.length c1] X fun e w'=>∃ sC cC LC,e=.returned (.slice sC d.codes.length cC)∧Below W.heap.size W w'∧Hid (LC.map CV.l=d.codes)∧Hid (OwnC w' W.heap.size (.slice sC d.codes.length cC) LC)∧Hid (BoxAt w' pB)∧Hid (EmpAt w' pE)∧w'.cell? ⟨w.heap.size,0,none⟩=some (.slice s1 d.codes.length c1)∧w'.cell? ⟨w.heap.size,2,none⟩=some (.slice s3 d.mem.length c3)∧w'.cell? ⟨w.heap.size,3,none⟩=some (.slice s4 d.tr.length c4)):=fun X pB pE hX hb he=>(l8Codes_any s1 c1 lo hi d.codes X (RR.out X hX).1 (by have:=hX.size;omega) F1).mono fun e w' ⟨vc,LC,he',hm,ho,hb'⟩=>by
  obtain ⟨sC,cC,evC⟩:=ownSl ho.row
  rw [show LC.length=d.codes.length from (by have:=congrArg List.length hm;simpa using this)] at evC
  subst evC
  have k:Below W.heap.size W w':=hX.trans (hb'.mono hX.size)
  have x:=(RB.out _ k).x
  exact ⟨sC,cC,LC,he',k,hm,ho.low hX.size,hb.keep hb',he.keep hb',x.c0,x.c2,x.c3⟩
 have CM:Hid (∀ X v LC pB pE,Below W.heap.size W X→OwnC X W.heap.size v LC→BoxAt X pB→EmpAt X pE→Calls Tryz.prog 60 #[.agg #[.slice s3 d.mem.length c3]] X fun e w'=>∃ sM cM S,e=.returned (.agg #[.slice sM d.mem.length cM])∧Below W.heap.size W w'∧Hid (OwnC w' W.heap.size v LC)∧Hid (OW w' W.heap.size (.slice sM d.mem.length cM) S d.mem)∧Hid (BoxAt w' pB)∧Hid (EmpAt w' pE)∧w'.cell? ⟨w.heap.size,0,none⟩=some (.slice s1 d.codes.length c1)∧w'.cell? ⟨w.heap.size,2,none⟩=some (.slice s3 d.mem.length c3)∧w'.cell? ⟨w.heap.size,3,none⟩=some (.slice s4 d.tr.length c4)):=fun X v LC pB pE hX hc hb he=>(l6Copy_any s3 c3 lo hi d.mem X (RR.out X hX).2.2.1 (by have:=hX.size;omega) F3).mono fun e w' ⟨vm,S,he',ho,hb'⟩=>by
  obtain ⟨sM,cM,evM,-⟩:=ho.om.mo
  subst evM
  have k:Below W.heap.size W w':=hX.trans (hb'.mono hX.size)
  have x:=(RB.out _ k).x
  exact ⟨sM,cM,S,he',k,hc.below hb',ho.low hX.size,hb.keep hb',he.keep hb',x.c0,x.c2,x.c3⟩
 go_cut [3] (fun s3 wx=>CutM W d s3 wx)
 case first=>
  go_region_held3 (fun w'=>w'.cell? ⟨w.heap.size,0,none⟩=some (.slice s1 d.codes.length c1)∧w'.cell? ⟨w.heap.size,2,none⟩=some (.slice s3 d.mem.length c3)∧w'.cell? ⟨w.heap.size,3,none⟩=some (.slice s4 d.tr.length c4)) (first | exact ⟨(RB.out _ (by repeat' (first | with_reducible exact kD | with_reducible exact kC | with_reducible exact kM | with_reducible exact kA | with_reducible exact Below.refl _ _ | with_reducible refine Below.drew ?_ | with_reducible refine Below.alloc ?_ (by first | omega | exact Nat.le_refl _ | (simp [hdr];done) | (simp [hdr];omega)) _ | with_reducible refine Below.setCell ?_ (by first | omega | exact Nat.le_refl _ | (simp [hdr];done) | (simp [hdr];omega)) _))).x.c0,(RB.out _ (by repeat' (first | with_reducible exact kD | with_reducible exact kC | with_reducible exact kM | with_reducible exact kA | with_reducible exact Below.refl _ _ | with_reducible refine Below.drew ?_ | with_reducible refine Below.alloc ?_ (by first | omega | exact Nat.le_refl _ | (simp [hdr];done) | (simp [hdr];omega)) _ | with_reducible refine Below.setCell ?_ (by first | omega | exact Nat.le_refl _ | (simp [hdr];done) | (simp [hdr];omega)) _))).x.c2,(RB.out _ (by repeat' (first | with_reducible exact kD | with_reducible exact kC | with_reducible exact kM | with_reducible exact kA | with_reducible exact Below.refl _ _ | with_reducible refine Below.drew ?_ | with_reducible refine Below.alloc ?_ (by first | omega | exact Nat.le_refl _ | (simp [hdr];done) | (simp [hdr];omega)) _ | with_reducible refine Below.setCell ?_ (by first | omega | exact Nat.le_refl _ | (simp [hdr];done) | (simp [hdr];omega)) _))).x.c3⟩ | go_keep) (first | (go_at_call 59;with_reducible refine (CC.out _ _ _ (by repeat' (first | with_reducible exact kD | with_reducible exact kC | with_reducible exact kM | with_reducible exact kA | with_reducible exact Below.refl _ _ | with_reducible refine Below.drew ?_ | with_reducible refine Below.alloc ?_ (by first | omega | exact Nat.le_refl _ | (simp [hdr];done) | (simp [hdr];omega)) _ | with_reducible refine Below.setCell ?_ (by first | omega | exact Nat.le_refl _ | (simp [hdr];done) | (simp [hdr];omega)) _)) (by first | with_reducible exact boxD (boxN2 _ _) | with_reducible exact boxD (boxN1 _ _) | with_reducible exact boxD (boxN0 _) | with_reducible exact boxNo _) (by first | with_reducible exact empD (empN2 _ _) | with_reducible exact empD (empN1 _ _) | with_reducible exact empD (empN0 _) | with_reducible exact empNo _)).mono ?_;rintro e wC ⟨sC,cC,LC,rfl,kC,EC,OC,HBC,HEC,xC0,xC2,xC3⟩;have zC:=kC.size) | (go_at_call 60;with_reducible refine (CM.out _ _ LC _ _ (by repeat' (first | with_reducible exact kD | with_reducible exact kC | with_reducible exact kM | with_reducible exact kA | with_reducible exact Below.refl _ _ | with_reducible refine Below.drew ?_ | with_reducible refine Below.alloc ?_ (by first | omega | exact Nat.le_refl _ | (simp [hdr];done) | (simp [hdr];omega)) _ | with_reducible refine Below.setCell ?_ (by first | omega | exact Nat.le_refl _ | (simp [hdr];done) | (simp [hdr];omega)) _)) (OC.out.below (show Below wC.heap.size wC _ from (by repeat' (first | with_reducible exact Below.refl _ _ | with_reducible refine Below.drew ?_ | with_reducible refine Below.alloc ?_ (by first | omega | exact Nat.le_refl _ | (simp [hdr];done) | (simp [hdr];omega)) _)))) (by first | with_reducible exact boxN2 _ _ | with_reducible exact boxN1 _ _ | with_reducible exact boxN0 _ | exact HBC.out.keep (show Below wC.heap.size wC _ from (by repeat' (first | with_reducible exact Below.refl _ _ | with_reducible refine Below.drew ?_ | with_reducible refine Below.alloc ?_ (by first | omega | exact Nat.le_refl _ | (simp [hdr];done) | (simp [hdr];omega)) _)))) (by first | with_reducible exact empN2 _ _ | with_reducible exact empN1 _ _ | with_reducible exact empN0 _ | exact HEC.out.keep (show Below wC.heap.size wC _ from (by repeat' (first | with_reducible exact Below.refl _ _ | with_reducible refine Below.drew ?_ | with_reducible refine Below.alloc ?_ (by first | omega | exact Nat.le_refl _ | (simp [hdr];done) | (simp [hdr];omega)) _))))).mono ?_;rintro e wM ⟨sM,cM,S,rfl,kM,OC2,OM,HBM,HEM,xM0,xM2,xM3⟩;have zM:=kM.size) | (refine step_copyD rfl _ _ rfl rfl _ W.heap.size _ _ rfl (emp_own (by first | with_reducible exact empN2 _ _ | with_reducible exact empN1 _ _ | with_reducible exact empN0 _ | exact HEM.out.keep (show Below wM.heap.size wM _ from (by repeat' (first | with_reducible exact Below.refl _ _ | with_reducible refine Below.drew ?_ | with_reducible refine Below.alloc ?_ (by first | omega | exact Nat.le_refl _ | (simp [hdr];done) | (simp [hdr];omega)) _)))) (by omega)) s4 c4 d.tr (by rfl) (RR.out _ (by repeat' (first | with_reducible exact kD | with_reducible exact kC | with_reducible exact kM | with_reducible exact kA | with_reducible exact Below.refl _ _ | with_reducible refine Below.drew ?_ | with_reducible refine Below.alloc ?_ (by first | omega | exact Nat.le_refl _ | (simp [hdr];done) | (simp [hdr];omega)) _ | with_reducible refine Below.setCell ?_ (by first | omega | exact Nat.le_refl _ | (simp [hdr];done) | (simp [hdr];omega)) _))).2.2.2 (by omega) ((show Below W.heap.size W _ from (by repeat' (first | with_reducible exact kD | with_reducible exact kC | with_reducible exact kM | with_reducible exact kA | with_reducible exact Below.refl _ _ | with_reducible refine Below.drew ?_ | with_reducible refine Below.alloc ?_ (by first | omega | exact Nat.le_refl _ | (simp [hdr];done) | (simp [hdr];omega)) _ | with_reducible refine Below.setCell ?_ (by first | omega | exact Nat.le_refl _ | (simp [hdr];done) | (simp [hdr];omega)) _))).size) ?_;intro sA cA wA hoA hcA;have kA:Below W.heap.size W wA:=(show Below W.heap.size W _ from (by repeat' (first | with_reducible exact kD | with_reducible exact kC | with_reducible exact kM | with_reducible exact kA | with_reducible exact Below.refl _ _ | with_reducible refine Below.drew ?_ | with_reducible refine Below.alloc ?_ (by first | omega | exact Nat.le_refl _ | (simp [hdr];done) | (simp [hdr];omega)) _ | with_reducible refine Below.setCell ?_ (by first | omega | exact Nat.le_refl _ | (simp [hdr];done) | (simp [hdr];omega)) _))).trans hcA.low;have zA:=kA.size;have PC:=hid_of (aftC (OC2.out.below (show Below wM.heap.size wM _ from (by repeat' (first | with_reducible exact Below.refl _ _ | with_reducible refine Below.drew ?_ | with_reducible refine Below.alloc ?_ (by first | omega | exact Nat.le_refl _ | (simp [hdr];done) | (simp [hdr];omega)) _)))) (by first | with_reducible exact empN2 _ _ | with_reducible exact empN1 _ _ | with_reducible exact empN0 _ | exact HEM.out.keep (show Below wM.heap.size wM _ from (by repeat' (first | with_reducible exact Below.refl _ _ | with_reducible refine Below.drew ?_ | with_reducible refine Below.alloc ?_ (by first | omega | exact Nat.le_refl _ | (simp [hdr];done) | (simp [hdr];omega)) _)))) hcA);have PM:=hid_of (aftM (OM.out.below (show Below wM.heap.size wM _ from (by repeat' (first | with_reducible exact Below.refl _ _ | with_reducible refine Below.drew ?_ | with_reducible refine Below.alloc ?_ (by first | omega | exact Nat.le_refl _ | (simp [hdr];done) | (simp [hdr];omega)) _)))) (by first | with_reducible exact empN2 _ _ | with_reducible exact empN1 _ _ | with_reducible exact empN0 _ | exact HEM.out.keep (show Below wM.heap.size wM _ from (by repeat' (first | with_reducible exact Below.refl _ _ | with_reducible refine Below.drew ?_ | with_reducible refine Below.alloc ?_ (by first | omega | exact Nat.le_refl _ | (simp [hdr];done) | (simp [hdr];omega)) _)))) hcA);have HBA:=hid_of (aftB (by first | with_reducible exact boxN2 _ _ | with_reducible exact boxN1 _ _ | with_reducible exact boxN0 _ | exact HBM.out.keep (show Below wM.heap.size wM _ from (by repeat' (first | with_reducible exact Below.refl _ _ | with_reducible refine Below.drew ?_ | with_reducible refine Below.alloc ?_ (by first | omega | exact Nat.le_refl _ | (simp [hdr];done) | (simp [hdr];omega)) _)))) (by first | with_reducible exact empN2 _ _ | with_reducible exact empN1 _ _ | with_reducible exact empN0 _ | exact HEM.out.keep (show Below wM.heap.size wM _ from (by repeat' (first | with_reducible exact Below.refl _ _ | with_reducible refine Below.drew ?_ | with_reducible refine Below.alloc ?_ (by first | omega | exact Nat.le_refl _ | (simp [hdr];done) | (simp [hdr];omega)) _)))) hcA);have OT:=hid_of hoA;have xA:=RB.out _ kA;obtain ⟨⟨xA9,xA0,xA1,xA2,xA3⟩,xAf⟩:=xA;clear hoA hcA;(try obtain ⟨⟨⟨b9,b0,b1,b2,b3⟩,bf⟩,-⟩:=boxSome HBA.out)))
  all_goals
   go_wp2_with fail
   go_meet
   first
    | with_reducible exact cut_new kA EC.out PC.out PM.out OT.out
    | with_reducible exact cut_set (boxSome HBA.out) (by omega) kA EC.out PC.out PM.out OT.out
 case rest=>
  obtain ⟨bo,sC,cC,LC,sM,cM,S,sA,cA,rfl,hbo,hx,hT,hE,hC,hM,hD,hK⟩:=hcut
  have B1:=(RB.out _ hK).x
  obtain ⟨m0,m1,m2,m3,m4⟩:=B1
  have HK:Hid (Below W.heap.size W wc):=hK
  have HX0:Hid (X4 wc bo (.slice sC d.codes.length cC) (.slice none 0 0) (.slice sM d.mem.length cM) (.slice sA d.tr.length cA)):=hx
  have HT0:Hid (BxT wc bo):=hT
  have HQ0:Hid (MQ0 wc W.heap.size (.slice sC d.codes.length cC) (.slice none 0 0) (.slice sM d.mem.length cM) (.slice sA d.tr.length cA) LC [] S ⟨d.codes,[],d.mem,d.tr⟩):=⟨hC,hE,OwnK.nil _ _,rfl,hM,hD,fun i x q hx=>by simp at hx⟩
  clear hx hT hE hC hM hD hK p1 p2 p3 p4 kD
  go_wp2
  go_loopw [4] (fun i wr=>∃ (k:Nat) (v:Value) (L:List KV),k≤d.cores.length∧i=.int .i64 k∧L.length=k∧MQ0 wr W.heap.size (.slice sC d.codes.length cC) v (.slice sM d.mem.length cM) (.slice sA d.tr.length cA) LC L S ⟨d.codes,d.cores.take k,d.mem,d.tr⟩∧X4 wr bo (.slice sC d.codes.length cC) v (.slice sM d.mem.length cM) (.slice sA d.tr.length cA)∧BxT wr bo∧Below W.heap.size W wr) (fun i _=>d.cores.length - (intOf i).toNat)
  case atStart=>exact ⟨0,_,[],Nat.zero_le _,rfl,rfl,HQ0.out,HX0.out,HT0.out,HK.out⟩
  case round=>
   obtain ⟨k,v,L,hk,rfl,hL,hq,hx,ht,hb⟩:=hrel
   obtain ⟨sv,cv,ev⟩:=ownSl hq.k.row
   rw [hL] at ev
   subst ev
   have HQ:Hid (MQ0 wr W.heap.size (.slice sC d.codes.length cC) (.slice sv k cv) (.slice sM d.mem.length cM) (.slice sA d.tr.length cA) LC L S ⟨d.codes,d.cores.take k,d.mem,d.tr⟩):=hq
   have HX:Hid (X4 wr bo (.slice sC d.codes.length cC) (.slice sv k cv) (.slice sM d.mem.length cM) (.slice sA d.tr.length cA)):=hx
   have HT:Hid (BxT wr bo):=ht
   have HB:Hid (Below W.heap.size W wr):=hb
   have HL:Hid (L.length=k):=hL
   obtain ⟨y0,y1,y2,y3,y4⟩:=hx.x
   have yf:=hx.fz
   have zr:=hb.size
   have B1:=(RB.out _ hb).x
   clear m0 m1 m2 m3 m4
   obtain ⟨m0,m1,m2,m3,m4⟩:=B1
   clear hq hx ht hL
   by_cases hlt:k < d.cores.length
   ·obtain ⟨x,hx⟩:∃ x,d.cores[k]? =some x:=⟨_,List.getElem?_eq_getElem hlt⟩
    obtain ⟨g,o,t1,e1,t2,e2,es,q1,q2,f0,f1,f2,f3,q5,q6⟩:=(RR.out _ hb).2.1.at hx
    subst es
    have hv:=HVK.out k x hx
    have HXk:Hid (d.cores[k]? =some x):=hx
    have Q5:Hid (IntsR wr lo hi t1 x.regs):=q5
    have Q6:Hid (IntsR wr lo hi t2 x.vw):=q6
    clear q5 q6 hx hb
    have b0:(0:Int)≤(k:Int):=by omega
    have b1:(k:Int) < (d.cores.length:Int):=by omega
    have zg:g < wr.heap.size:=by omega
    go_wp2_with fail
    have ku:Below wr.heap.size wr wr:=Below.refl _ _
    have uX:=HX.out.keep ku y0
    have UX:Hid (X4 wr bo (.slice sC d.codes.length cC) (.slice sv k cv) (.slice sM d.mem.length cM) (.slice sA d.tr.length cA)):=uX
    have y1u:=uX.x.c1
    have yfu:=uX.fz 1
    have zbu:bo < wr.heap.size:=uX.x.z
    have UT:Hid (BxT wr bo):=by obtain ⟨cs,f,c⟩:=HT.out;exact ⟨cs,f,(ku.block bo y0).trans c⟩
    have UQ:Hid (MQ0 wr W.heap.size (.slice sC d.codes.length cC) (.slice sv k cv) (.slice sM d.mem.length cM) (.slice sA d.tr.length cA) LC L S ⟨d.codes,d.cores.take k,d.mem,d.tr⟩):=HQ.out.keep (fun b _ hb=>ku.block b hb) ku.size
    have UB:Hid (Below W.heap.size W wr):=HB.out.trans (ku.mono zr)
    have R5:Hid (IntsR wr lo hi t1 x.regs):=Q5.out.keep (Keep.of_below ku (by omega))
    have R6:Hid (IntsR wr lo hi t2 x.vw):=Q6.out.keep (Keep.of_below ku (by omega))
    have zU:W.heap.size≤wr.heap.size:=UB.out.size
    have hiU:hi≤wr.heap.size:=by omega
    have HLn:L.length≤1073741824:=by have:=HL.out;omega
    clear ku uX
    go_region_law (first | (refine step_call 61 #[.agg #[.int .i64 x.pc,.slice t1 x.regs.length e1,.slice t2 x.vw.length e2,.int .i64 x.st]] (by rfl) _ _ (by rfl) (by simp [go_sem]) entl8CopyK ?_;refine (l8Core_any x t1 t2 e1 e2 lo hi wr.drew R5.out R6.out hiU (by omega) (by omega)).mono ?_;rintro e wK ⟨a1,b1',a2,b2,rfl,ho1,ho2,hsp,hbK,hzK⟩;refine ⟨_,rfl,?_⟩;have kK:=(show Below wr.heap.size wr wK from ⟨hbK.os,hbK.tape,hbK.output,hbK.size,hbK.block⟩);have O1:=(show Hid (OwnN wK wr.heap.size (.slice a1 x.regs.length b1') x.regs) from ho1);have O2:=(show Hid (OwnN wK wr.heap.size (.slice a2 x.vw.length b2) x.vw) from ho2);have SP:=(show Hid (∀ q,(Value.slice a1 x.regs.length b1').ownBlock=some q→(Value.slice a2 x.vw.length b2).ownBlock≠some q) from hsp);have KX:=(show Hid (X4 wK bo (.slice sC d.codes.length cC) (.slice sv k cv) (.slice sM d.mem.length cM) (.slice sA d.tr.length cA)) from UX.out.keep kK zbu);have kq1:=KX.out.x.c1;have kq2:=KX.out.fz 1;have kqz:=KX.out.x.z;have KQ:=(show Hid (MQ0 wK W.heap.size (.slice sC d.codes.length cC) (.slice sv k cv) (.slice sM d.mem.length cM) (.slice sA d.tr.length cA) LC L S ⟨d.codes,d.cores.take k,d.mem,d.tr⟩) from UQ.out.keep (fun b _ hb=>kK.block b hb) kK.size);have KB:=(show Hid (Below W.heap.size W wK) from UB.out.trans (kK.mono zU));have zK:wr.heap.size≤wK.heap.size:=kK.size;have KT:=(show Hid (BxT wK bo) from (by obtain ⟨cs,f,c⟩:=UT.out;exact ⟨cs,f,(kK.block bo zbu).trans c⟩));clear ho1 ho2 hsp hbK hzK kK) | (refine step_recK rfl _ _ rfl wK W.heap.size (.slice sv k cv) L ⟨x,.slice a1 x.regs.length b1',.slice a2 x.vw.length b2⟩ rfl KQ.out.k ⟨ownLow' O1.out zU,ownLow' O2.out zU⟩ SP.out rfl rfl wK.heap.size rfl rfl HLn (by omega) (fun i z q hz h1 h2=>by have hu:wr.heap.size≤q:=(by rcases h1 with h1 | h1;exact (World.ownsRow.lt O1.out _ h1).1;exact (World.ownsRow.lt O2.out _ h1).1);have hl:q < wr.heap.size:=(by rcases h2 with h2 | h2;exact (World.ownsRow.lt (UQ.out.k.inn i z hz).1 _ h2).2;exact (World.ownsRow.lt (UQ.out.k.inn i z hz).2 _ h2).2);omega) ?_;intro g6 c6 w6 hp6;have P6:=(show Hid (PushedK wK w6 W.heap.size (.slice sv k cv) L ⟨x,.slice a1 x.regs.length b1',.slice a2 x.vw.length b2⟩ g6 c6) from hp6);have kbo:w6.heap[bo]? =wK.heap[bo]? :=hp6.far bo kqz (own_bx KQ.out.k.row (by decide) KT.out);have X6:=(show Hid (X4 w6 bo (.slice sC d.codes.length cC) (.slice sv k cv) (.slice sM d.mem.length cM) (.slice sA d.tr.length cA)) from KX.out.blk kbo hp6.low.size);have T6:=(show Hid (BxT w6 bo) from (by obtain ⟨cs,f,c⟩:=KT.out;exact ⟨cs,f,kbo.trans c⟩));have s1:=X6.out.x.c1;have s2:=X6.out.fz 1;have s0:=X6.out.x.z;have z6:wK.heap.size≤w6.heap.size:=hp6.low.size;clear hp6 kbo))
    all_goals
     have Q6':Hid (MQ0 w6 W.heap.size (.slice sC d.codes.length cC) (.slice (some ⟨g6,0,none⟩) (L.length+1) c6) (.slice sM d.mem.length cM) (.slice sA d.tr.length cA) LC (L++[⟨x,.slice a1 x.regs.length b1',.slice a2 x.vw.length b2⟩]) S ⟨d.codes,d.cores.take (k+1),d.mem,d.tr⟩):=by
      refine MQ0.grow KQ.out.c KQ.out.ec KQ.out.m KQ.out.t KQ.out.k KQ.out.sk (fun q hq a ha e=>?_) ?_ P6.out z6
      ·have h1:wr.heap.size≤q:=by
        rcases hq with hq | hq
        ·exact (World.ownsRow.lt O1.out _ hq).1
        ·exact (World.ownsRow.lt O2.out _ hq).1
       have h2:=UQ.out.m.memblk ha
       omega
      ·show (L++[_]).map KV.d=d.cores.take (k+1)
       rw [List.map_append,List.take_add_one,HXk.out]
       have:=KQ.out.ek
       rw [this]
       rfl
     have B6:Hid (Below W.heap.size W w6):=KB.out.trans P6.out.low
     clear y1u yfu kq1 kq2 y1 y2 y3 y4 yf m1 m2 m3 m4 f0 f1 f2 f3
     go_wp2
     go_roundw
     case rel=>
      have far:∀ b,b≠bo→(w6.setCell ⟨bo,1,none⟩ (.slice (some ⟨g6,0,none⟩) (L.length+1) c6)).heap[b]? =w6.heap[b]? :=fun b hb=>Below.heap_setCell _ _ _ b hb
      exact ⟨k+1,_,_,by omega,by go_num,by simp [HL.out],Q6'.out.off T6.out far (by simp),X6.out.set1,T6.out.set,B6.out.setCell (p:=⟨bo,1,none⟩) hbo _⟩
     case measure=>simp [intOf];omega
   ·have xb:=XB.out.keep HB.out (show w.heap.size+1 < W.heap.size by omega)
    have RX:Hid (X4 wr (w.heap.size+1) (.slice none 0 0) (.slice none 0 0) (.slice none 0 0) (.slice none 0 0)):=xb
    obtain ⟨r0,r1,r2,r3,r4⟩:=xb.x
    have rf:=xb.fz
    have FQ:Hid (MQ0 wr W.heap.size (.slice sC d.codes.length cC) (.slice sv k cv) (.slice sM d.mem.length cM) (.slice sA d.tr.length cA) LC L S d):=by
     have q:=HQ.out
     rw [List.take_of_length_le (by omega)] at q
     exact q
    clear xb
    go_wp2
    obtain ⟨Z,hZ,xz,kz,sz,fz⟩:∃ Z,(((wr.setCell ⟨w.heap.size+1,0,none⟩ (.slice sC d.codes.length cC)).setCell ⟨w.heap.size+1,1,none⟩ (.slice sv k cv)).setCell ⟨w.heap.size+1,2,none⟩ (.slice sM d.mem.length cM)).setCell ⟨w.heap.size+1,3,none⟩ (.slice sA d.tr.length cA)=Z∧X4 Z (w.heap.size+1) (.slice sC d.codes.length cC) (.slice sv k cv) (.slice sM d.mem.length cM) (.slice sA d.tr.length cA)∧Below w.heap.size w Z∧Z.heap.size=wr.heap.size∧∀ b,b≠w.heap.size+1→Z.heap[b]? =wr.heap[b]? :=by
     refine ⟨_,rfl,RX.out.set0.set1.set2.set3,?_,by simp,fun b hb=>?_⟩
     ·refine Below.setCell (Below.setCell (Below.setCell (Below.setCell (KW.out.trans (HB.out.mono (by omega))) ?_ _) ?_ _) ?_ _) ?_ _<;>simp
     ·rw [Below.heap_setCell _ _ _ b hb,Below.heap_setCell _ _ _ b hb,Below.heap_setCell _ _ _ b hb,Below.heap_setCell _ _ _ b hb]
    have fin:MQ0 Z w.heap.size (.slice sC d.codes.length cC) (.slice sv k cv) (.slice sM d.mem.length cM) (.slice sA d.tr.length cA) LC L S d:=(FQ.out.keep (fun b h1 _=>fz b (by omega)) (by omega)).low (by omega)
    refine bodyPost_ret (v:=.agg #[.slice sC d.codes.length cC,.slice sv k cv,.slice sM d.mem.length cM,.slice sA d.tr.length cA]) ?_ rfl ?_
    ·rw [hZ]
     simp [results,Tryz.results24,go_sem,xz.x.c0,xz.x.c1,xz.x.c2,xz.x.c3]
    ·rw [hZ]
     exact ⟨_,_,_,_,LC,L,S,rfl,fin,kz,by omega⟩
end Go.Proofs.YtlbeploopclegaaGreat
