/- Memories copied by the program: sameWrites, sameMemory. Conditions: they are counted. Memories copied by the program: sameMemory. Conditions: they are counted. -/
import Derived.Test.YtlbeploopclegaaGreatPG00
import Derived.Test.YtlbeploopclegaaGreatPG01
import Derived.Test.YtlbeploopclegaaGreatPG08
import Derived.Test.YtlbeploopclegaaGreatPG02
import Derived.Test.YtlbeploopclegaaGreatPG07
namespace Go.Proofs.YtlbeploopclegaaGreat
section
set_option linter.unusedSimpArgs false
set_option linter.unusedVariables false
set_option maxRecDepth 100000
open Go.RowKit
def vcat:List WD→List Value
 | []=>[]
 | y::t=>y.vw.map (Value.int .i64)++vcat t
theorem vcat_len:∀ l:List WD,(vcat l).length=szV l
 | []=>rfl
 | y::t=>by simp [vcat,szV,vcat_len t]
theorem vcat_app (y:WD):∀ l:List WD,vcat (l++[y])=vcat l++y.vw.map (Value.int .i64)
 | []=>by simp [vcat]
 | x::t=>by simp [vcat,vcat_app y t]
theorem vcat_at:∀ (l:List WD) (i:Nat) (y:WD) (j:Nat),l[i]? =some y→j < y.vw.length→(vcat l)[szV (l.take i)+j]? =some (.int .i64 (y.vw.getD j 0))
 | [],i,y,j,h,_=>by simp at h
 | x::t,0,y,j,h,hj=>by
  simp at h
  subst h
  simp [vcat,szV,List.getElem?_append_left,hj,List.getD_eq_getElem?_getD]
 | x::t,i+1,y,j,h,hj=>by
  have ih:=vcat_at t i y j (by simpa using h) hj
  simp only [vcat,List.take_succ_cons,szV]
  rw [List.getElem?_append_right (by simp;omega)]
  have e:x.vw.length+szV (t.take i)+j - (x.vw.map (Value.int .i64)).length=szV (t.take i)+j:=by simp;omega
  rw [e]
  exact ih
theorem szV_le_take (l:List WD) (k:Nat):szV (l.take k)≤szV l:=by
 induction l generalizing k with
 | nil=>simp [szV]
 | cons x t ih=>
  cases k with
  | zero=>simp [szV]
  | succ k=>have:=ih k;simp [szV];omega
theorem vsA_range (R:Nat):∀ (vs:List VS) (l:List WD) (o:Nat),vs.length=l.length→(∀ (i:Nat) (x:VS) (y:WD),vs[i]? =some x→l[i]? =some y→x.n=y.vw.length∧(0 < x.n→x.s=some ⟨R,o+szV (l.take i),none⟩))→vsA vs=(List.range' o (szV l)).map (fun j=>(⟨R,j,none⟩:Addr))
 | [],[],o,_,_=>by simp [vsA,szV]
 | x::r,y::t,o,h,hv=>by
  have h0:=hv 0 x y rfl rfl
  have ih:=vsA_range R r t (o+y.vw.length) (by simpa using h) (fun i a b ha hb=>by
   have:=hv (i+1) a b (by simpa using ha) (by simpa using hb)
   simp only [List.take_succ_cons,szV] at this
   refine ⟨this.1,fun hp=>?_⟩
   rw [this.2 hp]
   congr 2
   omega)
  have e1:vAs x=(List.range' o y.vw.length).map (fun j=>(⟨R,j,none⟩:Addr)):=by
   rcases Nat.eq_zero_or_pos x.n with hz | hp
   ·have:y.vw.length=0:=by omega
    simp [vAs,hz,this]
   ·have hs:=h0.2 hp
    simp only [List.take_zero,szV,Nat.add_zero] at hs
    rw [← h0.1]
    apply List.ext_getElem? fun i=>?_
    by_cases hi:i < x.n
    ·rw [vAs_at hi,List.getElem?_map,List.getElem?_range' hi,hs]
     simp [adr]
    ·rw [List.getElem?_eq_none (by rw [vAs_len];omega),List.getElem?_eq_none (by simp;omega)]
  rw [vsA,e1,ih,szV,← List.map_append]
  congr 1
  simp
 | [],_::_,_,h,_=>by simp at h
 | _::_,[],_,h,_=>by simp at h
theorem vsA_ok {w : World} {B R : Nat} {vs : List VS} {l : List WD} (hn : vs.length = l.length) (hv : ∀ (i : Nat) (x : VS) (y : WD), vs[i]? = some x → l[i]? = some y → x.n = y.vw.length ∧ (0 < x.n → x.s = some ⟨R, szV (l.take i), none⟩)) (hB : B ≤ R) (hR : w.heap[R]? = some (.cells (vcat l).toArray 3 (0, 0))) :
  (∀ (i:Nat) (x:VS) (y:WD),vs[i]? =some x→l[i]? =some y→VO w B w.heap.size x y.vw)∧(∀ a∈vsA vs,TyI w a.block)∧(vsA vs).Nodup:=by
 have hlt:R < w.heap.size:=(Array.getElem?_eq_some_iff.1 hR).1
 have e:=vsA_range R vs l 0 hn (fun i x y hx hy=>by have:=hv i x y hx hy;rw [Nat.zero_add];exact this)
 refine ⟨fun i x y hx hy=>?_,fun a ha=>?_,?_⟩
 ·obtain ⟨h1,h2⟩:=hv i x y hx hy
  refine ⟨h1,?_⟩
  rcases Nat.eq_zero_or_pos x.n with hz | hp
  ·exact .inl (List.length_eq_zero_iff.1 (by omega))
  ·refine .inr ⟨R,szV (l.take i),h2 hp,hB,hlt,fun j hj=>⟨?_,?_⟩⟩
   ·have h3:=vcat_at l i y j hy hj
    simp [World.cell?,hR,h3]
   ·simp [World.frozen?,hR]
 ·rw [e] at ha
  obtain ⟨j,-,rfl⟩:=List.mem_map.1 ha
  exact ⟨_,_,hR⟩
 ·rw [e]
  exact List.Pairwise.map _ (fun a b hab e=>by injection e with _ e;exact hab e) List.nodup_range'
theorem set2App {α:Type} (z0 z1 u v:α) (D:List α):∀ (a:List α) (n:Nat),a.length=n→((a++z0::z1::D).set n u).set (n+1) v=a++u::v::D
 | [],n,h=>by subst h;rfl
 | x::r,n,h=>by
  subst h
  have ih:=set2App z0 z1 u v D r r.length rfl
  show x::(((r++z0::z1::D).set r.length u).set (r.length+1) v)=x::(r++u::v::D)
  rw [ih]
theorem app_copyV {ops : Array Oper} {rest : List Oper} {o : Oper} {a : Act} {Q : Exit → Act → World → Prop} (hgd : o.guard = none) (d s : Operand) (sT : TypeId) (ho : o.op = .call { callee := .builtin .copy, args := #[d, s], argTypes := #[177, sT] })
  (w:World) (R off:Nat) (cur:List Value) (hg:w.heap[R]? =some (.cells cur.toArray 3 (0,0))) (dp sp:Option Addr) (n dc sc:Nat) (hd:a.eval d=.slice dp n dc) (hs:a.eval s=.slice sp n sc) (l:List Int) (hl:l.length=n)
  (hp:0 < n→dp=some ⟨R,off,none⟩) {lo hi:Nat} (hr:IntsR w lo hi sp l) (hfit:off+n≤cur.length)
  (h:∀ w',w'.heap[R]? =some (.cells (splice cur off (l.map (Value.int .i64))).toArray 3 (0,0))→Exc R (R+1) w w'→w'.heap.size=w.heap.size→wpList Tryz.prog ops Q rest (a.put o.dst (.int .i64 n)) w'):wpList Tryz.prog ops Q (o::rest) a w:=by
 by_cases h0:n=0
 ·subst h0
  obtain rfl:l=[]:=List.length_eq_zero_iff.1 hl
  refine wpList_copy_nothing hgd d s 177 sT ho 3 Tryz.underlying177 rfl dp sp 0 dc 0 sc hd hs rfl ?_
  exact h w (by simpa [splice] using hg) ⟨rfl,rfl,rfl,Nat.le_refl _,fun _ _ _=>rfl⟩ rfl
 ·obtain rfl:=hp (by omega)
  obtain ⟨g,off',rfl,h1,h2,hc⟩:=hr.pos (by omega)
  refine wpList_copy_own hgd d s 177 sT ho 3 Tryz.underlying177 rfl R off n dc ⟨g,off',none⟩ n sc hd hs cur.toArray 3 hg (l.map (Value.int .i64)) (by simp [hl]) (cells_row hc) (by simpa [hl] using hfit) (fun v hv=>by obtain ⟨z,-,rfl⟩:=List.mem_map.1 hv;rfl) ?_
  rw [List.length_map,hl]
  refine h _ ?_ ⟨rfl,rfl,rfl,by simp [World.setRow],fun k _ hk=>setRow_other w R k _ (by omega)⟩ (by simp [World.setRow])
  have:=setRow_heap w R _ (cur.take off++(l.map (Value.int .i64)++cur.drop (off+n))).toArray 3 _ hg
  simpa [splice,hl] using this
theorem mkView' (n:Nat) (hn:n≤1048577) (w:World):(Instr.makeSlice 177 (.int .i64 (n:Int)) (.int .i64 (n:Int))).run Tryz.prog w=.ok (.slice (some ⟨w.heap.size,0,none⟩) n n) (w.alloc (.cells (madeCells #[.int .i64 0] n) 3)):=by
 have:=mkView n hn w
 rw [Nat.mul_one] at this
 exact this
def zeros (n:Nat):List Value:=(madeCells #[.int .i64 0,.slice none 0 0] (n * 2)).toList
set_option maxHeartbeats 4000000 in
theorem sameWrites_any (s : Option Addr) (c lo hi : Nat) (l : List WD) (w : World) (h : WsR w lo hi s l) (hB : hi ≤ w.heap.size) (hl : l.length + szV l ≤ 1048576) :
  Calls Tryz.prog 119 #[.slice s l.length c] w fun e w'=>∃ r:RS,e=.returned r.val∧ORow w' w.heap.size r l∧Below w.heap.size w w':=by
 have H:Hid (WsR w lo hi s l):=h
 have hl1:l.length≤1048576:=by omega
 have hl2:szV l≤1048576:=by omega
 clear h
 go_enter Tryz.func119,Tryz.ntmps119
 go_wp2
 go_loopw [3,13] (fun a i wr=>∃ k:Nat,k≤l.length∧i=.int .i64 k∧a=.int .i64 ((szV (l.take k):Nat):Int)∧Below w.heap.size w wr) (fun _ i _=>l.length - (intOf i).toNat)
 case atStart=>exact ⟨0,Nat.zero_le _,rfl,by simp [szV],Below.refl _ _⟩
 case round=>
  obtain ⟨k,hk,rfl,rfl,hb⟩:=hrel
  have HB:Hid (Below w.heap.size w wr):=hb
  have hz:=hb.size
  clear hb
  by_cases hlt:k < l.length
  ·obtain ⟨x,hx⟩:∃ x,l[k]? =some x:=⟨_,List.getElem?_eq_getElem hlt⟩
   obtain ⟨g,o,s1,c1,e1,q1,q2,q3,q4,-⟩:=(H.out.keep (Keep.of_below HB.out hB)).at hx
   subst e1
   have HT:Hid (szV (l.take (k+1))=szV (l.take k)+x.vw.length):=szV_take l k x hx
   have h1:=szV_le_take l k
   have h2:=szV_at l k x hx
   have b0:(0:Int)≤(k:Int):=by omega
   have b1:(k:Int) < (l.length:Int):=by omega
   have zg:g < wr.heap.size:=by omega
   generalize szV (l.take k)=o1 at HT h1
   generalize x.vw.length=n1 at HT h2 q4
   clear hx
   go_wp2
   go_roundw
   case rel=>exact ⟨k+1,by omega,by go_num,by rw [HT.out];go_num,HB.out.alloc (by omega) _⟩
   case measure=>simp [intOf];omega
  ·have:k=l.length:=by omega
   subst this
   rw [List.take_length]
   have hm1:=mkView' (szV l) (by omega)
   have hm2:=mkW l.length hl1
   go_wp2
   clear hm1 hm2
   have hz:=HB.out.size
   rename World=>w1
   have HRw:Hid (WsR w1 lo hi s l):=H.out.keep (Keep.of_below HB.out hB)
   go_loopw [6,30] (fun a i wr=>∃ (k:Nat) (s':Option Addr) (vs:List VS) (cur:List Value),k≤l.length∧i=.int .i64 k∧a=.slice s' (szV l - szV (l.take k)) (szV l - szV (l.take k))∧(szV (l.take k) < szV l→s'=some ⟨w1.heap.size,szV (l.take k),none⟩)∧vs.length=k∧Below w1.heap.size w1 wr∧w1.heap.size+1 < wr.heap.size∧cur.length=szV l∧cur.take (szV (l.take k))=vcat (l.take k)∧wr.heap[w1.heap.size]? =some (.cells cur.toArray 3 (0,0))∧wr.ownsRow w.heap.size 99 2 (.slice (some ⟨w1.heap.size+1,0,none⟩) l.length l.length) l.length (flatV vs (l.take k)++(zeros l.length).drop (k * 2))∧(∀ (i:Nat) (x:VS) (y:WD),vs[i]? =some x→l[i]? =some y→x.n=y.vw.length∧(0 < x.n→x.s=some ⟨w1.heap.size,szV (l.take i),none⟩))) (fun _ i _=>l.length - (intOf i).toNat)
   case atStart=>
    refine ⟨0,some ⟨w1.heap.size,0,none⟩,[],List.replicate (szV l) (.int .i64 0),Nat.zero_le _,rfl,by simp [szV],fun _=>by simp [szV],rfl,((Below.refl _ _).alloc (Nat.le_refl _) _).alloc (by simp) _,by simp,by simp,by simp [szV,vcat],?_,?_,fun i x y h=>by simp at h⟩
    ·rw [Below.heap_alloc _ _ _ (by simp),heap_alloc_new,← toList_madeCells_one]
    ·have h0:=World.ownsRow_lit (base:=w.heap.size) (e:=99) (size:=2) (w1.alloc (.cells (madeCells #[.int .i64 0] (szV l)) 3)) (madeCells #[.int .i64 0,.slice none 0 0] (l.length * 2)) l.length (by simp;omega) (by unfold maxLen;omega) (size_madeCells _ _)
     simpa [flatV,zeros] using h0
   case round=>
    obtain ⟨k,s',vs,cur,hk,rfl,rfl,hs',hvs,hb1,hz1,hcl,hct,hg,how,hv⟩:=hrel
    have HB1:Hid (Below w1.heap.size w1 wr):=hb1
    have HVS:Hid (vs.length=k):=hvs
    have HCL:Hid (cur.length=szV l):=hcl
    have HCT:Hid (cur.take (szV (l.take k))=vcat (l.take k)):=hct
    have HG:Hid (wr.heap[w1.heap.size]? =some (.cells cur.toArray 3 (0,0))):=hg
    have HOW:=(show Hid (wr.ownsRow w.heap.size 99 2 (.slice (some ⟨w1.heap.size+1,0,none⟩) l.length l.length) l.length (flatV vs (l.take k)++(zeros l.length).drop (k * 2))) from how)
    have HV:Hid (∀ (i:Nat) (x:VS) (y:WD),vs[i]? =some x→l[i]? =some y→x.n=y.vw.length∧(0 < x.n→x.s=some ⟨w1.heap.size,szV (l.take i),none⟩)):=hv
    have HS':Hid (szV (l.take k) < szV l→s'=some ⟨w1.heap.size,szV (l.take k),none⟩):=hs'
    clear hb1 hvs hcl hct hg how hv hs'
    by_cases hlt:k < l.length
    ·obtain ⟨x,hx⟩:∃ x,l[k]? =some x:=⟨_,List.getElem?_eq_getElem hlt⟩
     obtain ⟨g,o,s1,c1,e1,q1,q2,q3,q4,q5⟩:=(HRw.out.keep (Keep.of_below HB1.out (by omega))).at hx
     subst e1
     have HI:Hid (IntsR wr lo hi s1 x.vw):=q5
     have ht:=szV_take l k x hx
     have HT:Hid (szV (l.take (k+1))=szV (l.take k)+x.vw.length):=ht
     have h1:=szV_le_take l (k+1)
     rw [ht] at h1
     have HX:Hid (l[k]? =some x):=hx
     have b0:(0:Int)≤(k:Int):=by omega
     have b1:(k:Int) < (l.length:Int):=by omega
     have zg:g < wr.heap.size:=by omega
     have cc:∀ j,j < 2→∃ u,wr.cell? ⟨w1.heap.size+1,k * 2+j,none⟩=some u:=fun j hj=>by
      rw [World.ownsRow.cellAt HOW.out (k * 2+j) (by omega)]
      exact ⟨_,List.getElem?_eq_getElem (by have:=HOW.out.1;omega)⟩
     have ff:∀ j,wr.frozen? ⟨w1.heap.size+1,j,none⟩=false:=fun j=>World.ownsRow.frozenAt HOW.out j
     obtain ⟨u0,a0⟩:=cc 0 (by omega)
     obtain ⟨u1,a1⟩:=cc 1 (by omega)
     rw [Nat.add_zero] at a0
     have cu:=cut_any s' (szV l - szV (l.take k)) (szV l - szV (l.take k)) x.vw.length (wr.alloc (.cells #[.int .i64 x.v,.slice s1 x.vw.length c1] 99)) (by omega)
     have HG1:Hid ((wr.alloc (.cells #[.int .i64 x.v,.slice s1 x.vw.length c1] 99)).heap[w1.heap.size]? =some (.cells cur.toArray 3 (0,0))):=by show _=_;rw [Below.heap_alloc _ _ _ (by omega)];exact HG.out
     have HI1:Hid (IntsR (wr.alloc (.cells #[.int .i64 x.v,.slice s1 x.vw.length c1] 99)) lo hi s1 x.vw):=HI.out.keep (Keep.of_below ((Below.refl wr.heap.size wr).alloc (Nat.le_refl _) _) (by omega))
     have hp:0 < x.vw.length→s'=some ⟨w1.heap.size,szV (l.take k),none⟩:=fun hp=>HS'.out (by omega)
     have HP:Hid (0 < x.vw.length→s'=some ⟨w1.heap.size,szV (l.take k),none⟩):=hp
     have zz1:w1.heap.size < wr.heap.size:=by omega
     have nz:¬ wr.heap.size=w1.heap.size:=by omega
     clear hx q5 ht cc hp
     go_wp2_with (first | (go_at_call 136;refine cu.mono ?_;rintro e w9 ⟨rfl,hw9⟩;subst w9) | (refine app_copyV rfl _ _ 51 rfl _ w1.heap.size (szV (l.take k)) cur HG1.out s' s1 x.vw.length x.vw.length c1 rfl rfl x.vw rfl HP.out HI1.out (by have:=HCL.out;omega) ?_;intro w2 hg2 hx2 hz2;have t0:w2.cell? ⟨wr.heap.size,0,none⟩=some (.int .i64 x.v):=(World.cell?_of_block (w:=wr.alloc (.cells #[.int .i64 x.v,.slice s1 x.vw.length c1] 99)) (hx2.blk wr.heap.size (by simp) (by omega))).trans (by simp [go_sem]);have t1:w2.cell? ⟨wr.heap.size,1,none⟩=some (.slice s1 x.vw.length c1):=(World.cell?_of_block (w:=wr.alloc (.cells #[.int .i64 x.v,.slice s1 x.vw.length c1] 99)) (hx2.blk wr.heap.size (by simp) (by omega))).trans (by simp [go_sem]);have kk:∀ b,b < wr.heap.size→b≠w1.heap.size→w2.heap[b]? =wr.heap[b]? :=(fun b h1 h2=>(hx2.blk b (by simp;omega) (by omega)).trans (Below.heap_alloc _ _ _ h1));have t2:=(World.cell?_of_block (w:=wr) (a:=⟨w1.heap.size+1,k * 2,none⟩) (kk (w1.heap.size+1) hz1 (by omega))).trans a0;have t3:=(World.cell?_of_block (w:=wr) (a:=⟨w1.heap.size+1,k * 2+1,none⟩) (kk (w1.heap.size+1) hz1 (by omega))).trans a1;have t4:∀ j,w2.frozen? ⟨w1.heap.size+1,j,none⟩=false:=(fun j=>(World.frozen?_of_block (w:=wr) (a:=⟨w1.heap.size+1,j,none⟩) (kk (w1.heap.size+1) hz1 (by omega))).trans (ff j));have HG2:=(show Hid _ from hg2);have HX2:=(show Hid _ from hx2);have HK2:=(show Hid _ from kk);have HZ2:Hid (w2.heap.size=wr.heap.size+1):=(by show _=_;rw [hz2];simp);clear hg2 hx2 hz2 kk))
     have TL:(l.take k).length=k:=by simp;omega
     have ET:l.take (k+1)=l.take k++[x]:=by rw [List.take_add_one,HX.out];rfl
     have LS:(splice cur (szV (l.take k)) (x.vw.map (Value.int .i64))).length=szV l:=by rw [length_splice _ _ _ (by rw [List.length_map,HCL.out];omega)];exact HCL.out
     refine ⟨⟨k+1,_,vs++[⟨s',x.vw.length,x.vw.length⟩],splice cur (szV (l.take k)) (x.vw.map (Value.int .i64)),by omega,by go_num,by rw [HT.out,Nat.sub_sub],fun hlt2=>?_,by simp [HVS.out],?_,?_,LS,?_,?_,?_,fun i x1 y1 e1 e2=>?_⟩,by simp [intOf];omega⟩
     ·rw [HT.out] at hlt2 ⊢
      rw [if_neg (by omega),HS'.out (by omega)]
      simp only [Option.map_some]
      congr 1
      by_cases h9:x.vw.length=0
      ·rw [h9];rfl
      ·simp [Addr.add,h9]
     ·exact (((HB1.out.alloc (by omega) _).trans (HX2.out.below (Nat.le_refl _) (by simp;omega))).setCell (p:=⟨w1.heap.size+1,k * 2,none⟩) (by show w1.heap.size≤w1.heap.size+1;omega) _).setCell (p:=⟨w1.heap.size+1,k * 2+1,none⟩) (by show w1.heap.size≤w1.heap.size+1;omega) _
     ·simp [HZ2.out];omega
     ·rw [HT.out,ET,vcat_app,← HCT.out]
      unfold splice
      rw [← List.append_assoc]
      exact List.take_left' (by simp [HCL.out];omega)
     ·rw [Below.heap_setCell _ _ _ _ (by show w1.heap.size≠w1.heap.size+1;omega),Below.heap_setCell _ _ _ _ (by show w1.heap.size≠w1.heap.size+1;omega)]
      exact HG2.out
     ·have o2:w2.ownsRow w.heap.size 99 2 (.slice (some ⟨w1.heap.size+1,0,none⟩) l.length l.length) l.length (flatV vs (l.take k)++(zeros l.length).drop (k * 2)):=ownKeep' HOW.out (fun b hb=>by have hb2:some (w1.heap.size+1)=some b:=hb;injection hb2 with hb2;subst hb2;exact HK2.out _ hz1 (by omega))
      have p1:=(World.ownsRow.stored o2 (k * 2) (.int .i64 x.v)).1
      have p2:=(World.ownsRow.stored p1 (k * 2+1) (.slice s' x.vw.length x.vw.length)).1
      have fl:(flatV vs (l.take k)).length=k * 2:=by rw [flatV_len _ _ (by rw [HVS.out,TL]),HVS.out]
      have zl:(zeros l.length).length=l.length * 2:=by unfold zeros;rw [Array.length_toList,size_madeCells]
      have e1:(zeros l.length).drop (k * 2)=(zeros l.length)[k * 2]'(by omega)::(zeros l.length)[k * 2+1]'(by omega)::(zeros l.length).drop ((k+1) * 2):=by
       rw [List.drop_eq_getElem_cons (by omega),List.drop_eq_getElem_cons (by omega)]
       congr 2
       rw [show k * 2+1+1=(k+1) * 2 by omega]
      have e2:((flatV vs (l.take k)++(zeros l.length).drop (k * 2)).set (k * 2) (.int .i64 x.v)).set (k * 2+1) (.slice s' x.vw.length x.vw.length)=flatV (vs++[⟨s',x.vw.length,x.vw.length⟩]) (l.take (k+1))++(zeros l.length).drop ((k+1) * 2):=by
       rw [e1,ET,flatV_app _ _ _ _ (by rw [HVS.out,TL])]
       rw [set2App _ _ _ _ _ _ _ fl]
       simp
      rw [← e2]
      exact p2
     ·rcases getElem?_push e1 with e1 | ⟨i1,rfl⟩
      ·exact HV.out i x1 y1 e1 e2
      ·have e3:i=k:=by rw [i1,HVS.out]
       subst e3
       rw [HX.out] at e2
       injection e2 with e2
       subst e2
       exact ⟨rfl,HP.out⟩
    ·have e9:k=l.length:=by omega
     subst e9
     go_wp2
     go_ret
     have hct:=HCT.out
     have how:=HOW.out
     have hv:=HV.out
     rw [List.take_length] at hct how
     have ec:cur=vcat l:=by rw [← hct,List.take_of_length_le (by rw [HCL.out];exact Nat.le_refl _)]
     have hg:=HG.out
     rw [ec] at hg
     obtain ⟨k1,k2,k3⟩:=vsA_ok (w:=wr) (B:=w.heap.size) (R:=w1.heap.size) HVS.out hv (by omega) hg
     have ez:(zeros l.length).drop (l.length * 2)=[]:=List.drop_eq_nil_of_le (by unfold zeros;rw [Array.length_toList,size_madeCells];exact Nat.le_refl _)
     rw [ez,List.append_nil] at how
     refine ⟨⟨some ⟨w1.heap.size+1,0,none⟩,l.length,vs⟩,?_,⟨HVS.out,?_,k1,k2,k3⟩,HB.out.trans (HB1.out.mono (by omega))⟩
     ·show _=Ending.returned (.slice (some ⟨w1.heap.size+1,0,none⟩) vs.length l.length)
      rw [HVS.out]
      rfl
     ·show wr.ownsRow w.heap.size 99 2 (.slice (some ⟨w1.heap.size+1,0,none⟩) vs.length l.length) vs.length (flatV vs l)
      rw [HVS.out]
      exact how
end
section
set_option linter.unusedSimpArgs false
set_option linter.unusedVariables false
set_option maxRecDepth 100000
open Go.RowKit
theorem OW.low {w:World} {B B':Nat} {v:Value} {S:List RS} {m:List (List WD)} (h:OW w B v S m) (hb:B'≤B):OW w B' v S m:=
 ⟨h.n,ownLow' h.row hb,fun i r l hr hl=>(h.r i r l hr hl).low hb,h.d⟩
set_option maxHeartbeats 2000000 in
theorem sameMemory_any (s : Option Addr) (c lo hi : Nat) (m : List (List WD)) (w : World) (h : MemR w lo hi s m) (hB : hi ≤ w.heap.size) (hl : MFits m) :
  Calls Tryz.prog 95 #[.agg #[.slice s m.length c]] w fun e w'=>∃ v S,e=.returned (.agg #[v])∧OW w' w.heap.size v S m∧Below w.heap.size w w':=by
 have hl1:=hl.n
 have hmk:=mkWW m.length hl1
 have HC:Hid (MemR w lo hi s m):=h
 clear h
 go_enter Tryz.func95,Tryz.ntmps95
 go_wp2
 clear hmk
 have HL:Hid (MFits m):=hl
 go_loopw [14] (fun i wr=>∃ (k:Nat) (S:List RS),k≤m.length∧i=.int .i64 k∧S.length=k∧Below w.heap.size w wr∧w.heap.size+1+1+1 < wr.heap.size∧wr.cell? ⟨w.heap.size+1+1+1,0,none⟩=some (.slice (some ⟨w.heap.size+1+1,0,none⟩) m.length m.length)∧(wr.cell? ⟨w.heap.size+1,0,none⟩).isSome=true∧(∀ j,wr.frozen? ⟨w.heap.size+1,j,none⟩=false)∧wr.ownsRow (w.heap.size+2) 97 1 (.slice (some ⟨w.heap.size+1+1,0,none⟩) m.length m.length) m.length (S.map RS.val++List.replicate (m.length - k) (.slice none 0 0))∧(∀ (i:Nat) (r:RS) (l:List WD),S[i]? =some r→m[i]? =some l→ORow wr (w.heap.size+4) r l)∧(mAs S).Nodup) (fun i _=>m.length - (intOf i).toNat)
 case atStart=>
  refine ⟨0,[],Nat.zero_le _,rfl,rfl,((((Below.refl _ _).alloc (Nat.le_refl _) _).alloc (by simp) _).alloc (by simp;omega) _).alloc (by simp;omega) _,by simp,by simp [go_sem],by simp [go_sem],fun j=>by simp [go_sem],?_,fun i r l h=>by simp at h,by simp [mAs]⟩
  have h0:=World.ownsRow_lit (base:=w.heap.size+2) (e:=97) (size:=1) ((w.alloc (.cells #[.slice s m.length c] 35)).alloc (.cells #[.slice none 0 0] 35)) (madeCells #[.slice none 0 0] m.length) m.length (by simp) (by unfold maxLen;omega) (by rw [size_madeCells];omega)
  rw [toList_madeCells_one] at h0
  have h1:=World.ownsRow.alloc h0 (.cells #[.slice (some ⟨w.heap.size+1+1,0,none⟩) m.length m.length] 35)
  simpa using h1
 case round=>
  obtain ⟨k,S,hk,rfl,hS,hb,hz,c3,c1,f1,hrow,hr,hd⟩:=hrel
  have HB:Hid (Below w.heap.size w wr):=hb
  have HS:Hid (S.length=k):=hS
  have HROW:=(show Hid (wr.ownsRow (w.heap.size+2) 97 1 (.slice (some ⟨w.heap.size+1+1,0,none⟩) m.length m.length) m.length (S.map RS.val++List.replicate (m.length - k) (.slice none 0 0))) from hrow)
  have HR:Hid (∀ (i:Nat) (r:RS) (l:List WD),S[i]? =some r→m[i]? =some l→ORow wr (w.heap.size+4) r l):=hr
  have HD:Hid ((mAs S).Nodup):=hd
  have HF1:Hid (∀ j,wr.frozen? ⟨w.heap.size+1,j,none⟩=false):=f1
  have HC1:Hid ((wr.cell? ⟨w.heap.size+1,0,none⟩).isSome=true):=c1
  have z1:w.heap.size+1 < wr.heap.size:=by omega
  have z2:w.heap.size+1+1 < wr.heap.size:=by omega
  clear hb hS hrow hr hd f1 c1
  by_cases hlt:k < m.length
  ·obtain ⟨x,hx⟩:∃ x,m[k]? =some x:=⟨_,List.getElem?_eq_getElem hlt⟩
   obtain ⟨g,o,s1,cx,e1,q1,q2,q3,q5⟩:=(HC.out.keep (Keep.of_below HB.out hB)).row hx
   subst e1
   have HI:Hid (WsR wr lo hi s1 x):=q5
   have HXL:Hid (x.length+szV x≤1048576):=HL.out.r hx
   have HX:Hid (m[k]? =some x):=hx
   obtain ⟨u0,a0⟩:∃ u,wr.cell? ⟨w.heap.size+1+1,k,none⟩=some u:=by
    rw [World.ownsRow.cellAt HROW.out k (by omega)]
    exact ⟨_,List.getElem?_eq_getElem (by have:=HROW.out.1;omega)⟩
   have ff:∀ j,wr.frozen? ⟨w.heap.size+1+1,j,none⟩=false:=fun j=>World.ownsRow.frozenAt HROW.out j
   have b0:(0:Int)≤(k:Int):=by omega
   have b1:(k:Int) < (m.length:Int):=by omega
   have zg:g < wr.heap.size:=by omega
   clear hx q5
   go_wp2_with fail
   go_region_held3 (fun w'=>w'.cell? ⟨w.heap.size+1+1+1,0,none⟩=some (.slice (some ⟨w.heap.size+1+1,0,none⟩) m.length m.length)) (go_keep) ((go_at_call 119;refine (sameWrites_any s1 cx lo hi x wr.drew HI.out (by show hi≤wr.heap.size;omega) HXL.out).mono ?_;rintro e w2 ⟨r2,he2,ho2,hb2⟩;have he3:e=.returned (.slice r2.s r2.vs.length r2.c):=he2;subst he3;clear he2;have hb2':Below wr.heap.size wr w2:=⟨hb2.os,hb2.tape,hb2.output,hb2.size,hb2.block⟩;have t1:=(hb2'.cell (p:=⟨w.heap.size+1+1+1,0,none⟩) hz).trans c3;have t2:=(hb2'.cell (p:=⟨w.heap.size+1+1,k,none⟩) z2).trans a0;have t3:∀ j,w2.frozen? ⟨w.heap.size+1+1,j,none⟩=false:=(fun j=>(hb2'.frozen (p:=⟨w.heap.size+1+1,j,none⟩) z2).trans (ff j))))
   have HO2:Hid (ORow w2 wr.heap.size r2 x):=ho2
   have HB2:Hid (Below wr.heap.size wr w2):=hb2'
   clear ho2 hb2 hb2' t1
   go_wp2
   go_roundw
   case rel=>
    have hz2:=HB2.out.size
    have kp:∀ b,w.heap.size+4≤b→(w2.setCell ⟨w.heap.size+1+1,k,none⟩ (.slice r2.s r2.vs.length r2.c)).heap[b]? =w2.heap[b]? :=fun b hb=>Below.heap_setCell _ _ _ b (by show b≠w.heap.size+1+1;omega)
    refine ⟨k+1,S++[r2],by omega,by go_num,by simp [HS.out],(HB.out.trans (HB2.out.mono (by omega))).setCell (p:=⟨w.heap.size+1+1,k,none⟩) (by show w.heap.size≤w.heap.size+1+1;omega) _,by simp;omega,?_,?_,fun j=>?_,?_,fun i r l e1 e2=>?_,?_⟩
    ·rw [setC_blk (by omega)];exact (HB2.out.cell (p:=⟨w.heap.size+1+1+1,0,none⟩) hz).trans c3
    ·rw [setC_blk (by omega),HB2.out.cell (p:=⟨w.heap.size+1,0,none⟩) z1];exact HC1.out
    ·rw [World.frozen?_setCell,HB2.out.frozen (p:=⟨w.heap.size+1,j,none⟩) z1];exact HF1.out j
    ·have o2:w2.ownsRow (w.heap.size+2) 97 1 (.slice (some ⟨w.heap.size+1+1,0,none⟩) m.length m.length) m.length (S.map RS.val++List.replicate (m.length - k) (.slice none 0 0)):=ownKeep' HROW.out (fun b hb=>by have hb2:some (w.heap.size+1+1)=some b:=hb;injection hb2 with hb2;subst hb2;exact HB2.out.block _ z2)
     have p1:=(World.ownsRow.stored o2 k (.slice r2.s r2.vs.length r2.c)).1
     have e3:m.length - k=(m.length - (k+1))+1:=by omega
     have e4:(S.map RS.val++List.replicate (m.length - k) (Value.slice none 0 0)).set k (Value.slice r2.s r2.vs.length r2.c)=(S++[r2]).map RS.val++List.replicate (m.length - (k+1)) (Value.slice none 0 0):=by
      have f1:=setApp (List.replicate (m.length - k) (Value.slice none 0 0)) 0 (.slice r2.s r2.vs.length r2.c) (S.map RS.val)
      rw [List.length_map,HS.out,Nat.add_zero] at f1
      rw [f1,e3,List.replicate_succ,List.set_cons_zero]
      simp [RS.val]
     rw [e4] at p1
     exact p1
    ·rcases getElem?_push e1 with e1 | ⟨i1,rfl⟩
     ·have q:=HR.out i r l e1 e2
      have q2:=q.below HB2.out
      exact q2.kept (fun b e=>kp b (World.ownsRow.lt q2.own _ e).1) (fun a ha=>kp _ (q2.blk ha).1) (by simp)
     ·have e3:i=k:=by rw [i1,HS.out]
      subst e3
      rw [HX.out] at e2
      injection e2 with e2
      subst e2
      have q2:=HO2.out.low (B':=w.heap.size+4) (by omega)
      exact q2.kept (fun b e=>kp b (World.ownsRow.lt q2.own _ e).1) (fun a ha=>kp _ (q2.blk ha).1) (by simp)
    ·rw [mAs_app]
     refine List.nodup_append.2 ⟨HD.out,HO2.out.ro.d,fun a ha b hb e=>?_⟩
     subst e
     have h2:=(HO2.out.ro.blk hb).1
     obtain ⟨r,hr,har⟩:=mem_mAs.1 ha
     obtain ⟨i,hi',er⟩:=List.getElem_of_mem hr
     have hl':i < m.length:=by have:=HS.out;omega
     have h3:=((HR.out i r m[i] (by rw [List.getElem?_eq_getElem hi',er]) (List.getElem?_eq_getElem hl')).ro.blk har).2
     omega
   case measure=>simp [intOf];omega
  ·have e9:k=m.length:=by omega
   subst e9
   obtain ⟨u1,c1'⟩:=Option.isSome_iff_exists.1 HC1.out
   have f1:=HF1.out
   go_wp2
   have hrow:=HROW.out
   rw [Nat.sub_self,List.replicate_zero,List.append_nil] at hrow
   refine bodyPost_ret (v:=.agg #[.slice (some ⟨w.heap.size+1+1,0,none⟩) m.length m.length]) (by simp [results,Tryz.results95,go_sem,c1']) rfl ⟨_,S,rfl,?_,?_⟩
   ·have ow:OW wr (w.heap.size+2) (.slice (some ⟨w.heap.size+1+1,0,none⟩) m.length m.length) S m:=⟨HS.out,by rw [HS.out];exact hrow,fun i r l hr hl=>(HR.out i r l hr hl).low (by omega),HD.out⟩
    exact (ow.kept (fun b h1 _=>Below.heap_setCell _ _ _ b (by show b≠w.heap.size+1;omega)) (by simp)).low (by omega)
   ·exact HB.out.setCell (p:=⟨w.heap.size+1,0,none⟩) (by show w.heap.size≤w.heap.size+1;omega) _
end
end Go.Proofs.YtlbeploopclegaaGreat
