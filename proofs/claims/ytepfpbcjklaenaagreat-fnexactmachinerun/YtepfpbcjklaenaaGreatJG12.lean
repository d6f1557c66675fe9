/- Memories copied by the program: sameWrites, sameMemory. Conditions: they are counted. Memories copied by the program: sameMemory. Conditions: they are counted. Memories copied by the specification: l6Copy. Conditions: they are counted. A write put behind a row of a memory that is owned whole. No condition but those of the lemmas. -/
import Derived.Test.YtepfpbcjklaenaaGreatJG00
import Derived.Test.YtepfpbcjklaenaaGreatJG02
import Derived.Test.YtepfpbcjklaenaaGreatJG01
import Derived.Test.YtepfpbcjklaenaaGreatJG10
import Derived.Test.YtepfpbcjklaenaaGreatJG11
import Derived.Test.YtepfpbcjklaenaaGreatJG08
namespace Go.Proofs.YtepfpbcjklaenaaGreat
section
set_option linter.unusedSimpArgs false
set_option linter.unusedVariables false
set_option maxRecDepth 100000
open Go.RowKit
def vcat:List WD→List Value
 | []=>[]
 | y::t=>y.vw.map (Value.int .i64)++vcat t
theorem vcat_len:∀ l:List WD,(vcat l).length=szV l
 | []=>rfl
 | y::t=>by simp [vcat,szV,vcat_len t]
theorem vcat_app (y:WD):∀ l:List WD,vcat (l++[y])=vcat l++y.vw.map (Value.int .i64)
 | []=>by simp [vcat]
 | x::t=>by simp [vcat,vcat_app y t]
theorem vcat_at:∀ (l:List WD) (i:Nat) (y:WD) (j:Nat),l[i]? =some y→j < y.vw.length→(vcat l)[szV (l.take i)+j]? =some (.int .i64 (y.vw.getD j 0))
 | [],i,y,j,h,_=>by simp at h
 | x::t,0,y,j,h,hj=>by
  simp at h
  subst h
  simp [vcat,szV,List.getElem?_append_left,hj,List.getD_eq_getElem?_getD]
 | x::t,i+1,y,j,h,hj=>by
  have ih:=vcat_at t i y j (by simpa using h) hj
  simp only [vcat,List.take_succ_cons,szV]
  rw [List.getElem?_append_right (by simp;omega)]
  have e:x.vw.length+szV (t.take i)+j - (x.vw.map (Value.int .i64)).length=szV (t.take i)+j:=by simp;omega
  rw [e]
  exact ih
theorem szV_le_take (l:List WD) (k:Nat):szV (l.take k)≤szV l:=by
 induction l generalizing k with
 | nil=>simp [szV]
 | cons x t ih=>
  cases k with
  | zero=>simp [szV]
  | succ k=>have:=ih k;simp [szV];omega
theorem vsA_range (R:Nat):∀ (vs:List VS) (l:List WD) (o:Nat),vs.length=l.length→(∀ (i:Nat) (x:VS) (y:WD),vs[i]? =some x→l[i]? =some y→x.n=y.vw.length∧(0 < x.n→x.s=some ⟨R,o+szV (l.take i),none⟩))→vsA vs=(List.range' o (szV l)).map (fun j=>(⟨R,j,none⟩:Addr))
 | [],[],o,_,_=>by simp [vsA,szV]
 | x::r,y::t,o,h,hv=>by
  have h0:=hv 0 x y rfl rfl
  have ih:=vsA_range R r t (o+y.vw.length) (by simpa using h) (fun i a b ha hb=>by
   have:=hv (i+1) a b (by simpa using ha) (by simpa using hb)
   simp only [List.take_succ_cons,szV] at this
   refine ⟨this.1,fun hp=>?_⟩
   rw [this.2 hp]
   congr 2
   omega)
  have e1:vAs x=(List.range' o y.vw.length).map (fun j=>(⟨R,j,none⟩:Addr)):=by
   rcases Nat.eq_zero_or_pos x.n with hz | hp
   ·have:y.vw.length=0:=by omega
    simp [vAs,hz,this]
   ·have hs:=h0.2 hp
    simp only [List.take_zero,szV,Nat.add_zero] at hs
    rw [← h0.1]
    apply List.ext_getElem? fun i=>?_
    by_cases hi:i < x.n
    ·rw [vAs_at hi,List.getElem?_map,List.getElem?_range' hi,hs]
     simp [adr]
    ·rw [List.getElem?_eq_none (by rw [vAs_len];omega),List.getElem?_eq_none (by simp;omega)]
  rw [vsA,e1,ih,szV,← List.map_append]
  congr 1
  simp
 | [],_::_,_,h,_=>by simp at h
 | _::_,[],_,h,_=>by simp at h
theorem vsA_ok {w : World} {B R : Nat} {vs : List VS} {l : List WD} (hn : vs.length = l.length) (hv : ∀ (i : Nat) (x : VS) (y : WD), vs[i]? = some x → l[i]? = some y → x.n = y.vw.length ∧ (0 < x.n → x.s = some ⟨R, szV (l.take i), none⟩)) (hB : B ≤ R) (hR : w.heap[R]? = some (.cells (vcat l).toArray 3 (0, 0))) :
  (∀ (i:Nat) (x:VS) (y:WD),vs[i]? =some x→l[i]? =some y→VO w B w.heap.size x y.vw)∧(∀ a∈vsA vs,TyI w a.block)∧(vsA vs).Nodup:=by
 have hlt:R < w.heap.size:=(Array.getElem?_eq_some_iff.1 hR).1
 have e:=vsA_range R vs l 0 hn (fun i x y hx hy=>by have:=hv i x y hx hy;rw [Nat.zero_add];exact this)
 refine ⟨fun i x y hx hy=>?_,fun a ha=>?_,?_⟩
 ·obtain ⟨h1,h2⟩:=hv i x y hx hy
  refine ⟨h1,?_⟩
  rcases Nat.eq_zero_or_pos x.n with hz | hp
  ·exact .inl (List.length_eq_zero_iff.1 (by omega))
  ·refine .inr ⟨R,szV (l.take i),h2 hp,hB,hlt,fun j hj=>⟨?_,?_⟩⟩
   ·have h3:=vcat_at l i y j hy hj
    simp [World.cell?,hR,h3]
   ·simp [World.frozen?,hR]
 ·rw [e] at ha
  obtain ⟨j,-,rfl⟩:=List.mem_map.1 ha
  exact ⟨_,_,hR⟩
 ·rw [e]
  exact List.Pairwise.map _ (fun a b hab e=>by injection e with _ e;exact hab e) List.nodup_range'
theorem set2App {α:Type} (z0 z1 u v:α) (D:List α):∀ (a:List α) (n:Nat),a.length=n→((a++z0::z1::D).set n u).set (n+1) v=a++u::v::D
 | [],n,h=>by subst h;rfl
 | x::r,n,h=>by
  subst h
  have ih:=set2App z0 z1 u v D r r.length rfl
  show x::(((r++z0::z1::D).set r.length u).set (r.length+1) v)=x::(r++u::v::D)
  rw [ih]
theorem app_copyV {ops : Array Oper} {rest : List Oper} {o : Oper} {a : Act} {Q : Exit → Act → World → Prop} (hgd : o.guard = none) (d s : Operand) (sT : TypeId) (ho : o.op = .call { callee := .builtin .copy, args := #[d, s], argTypes := #[113, sT] })
  (w:World) (R off:Nat) (cur:List Value) (hg:w.heap[R]? =some (.cells cur.toArray 3 (0,0))) (dp sp:Option Addr) (n dc sc:Nat) (hd:a.eval d=.slice dp n dc) (hs:a.eval s=.slice sp n sc) (l:List Int) (hl:l.length=n)
  (hp:0 < n→dp=some ⟨R,off,none⟩) {lo hi:Nat} (hr:IntsR w lo hi sp l) (hfit:off+n≤cur.length)
  (h:∀ w',w'.heap[R]? =some (.cells (splice cur off (l.map (Value.int .i64))).toArray 3 (0,0))→Exc R (R+1) w w'→w'.heap.size=w.heap.size→wpList Tryz.prog ops Q rest (a.put o.dst (.int .i64 n)) w'):wpList Tryz.prog ops Q (o::rest) a w:=by
 by_cases h0:n=0
 ·subst h0
  obtain rfl:l=[]:=List.length_eq_zero_iff.1 hl
  refine wpList_copy_nothing hgd d s 113 sT ho 3 Tryz.underlying113 rfl dp sp 0 dc 0 sc hd hs rfl ?_
  exact h w (by simpa [splice] using hg) ⟨rfl,rfl,rfl,Nat.le_refl _,fun _ _ _=>rfl⟩ rfl
 ·obtain rfl:=hp (by omega)
  obtain ⟨g,off',rfl,h1,h2,hc⟩:=hr.pos (by omega)
  refine wpList_copy_own hgd d s 113 sT ho 3 Tryz.underlying113 rfl R off n dc ⟨g,off',none⟩ n sc hd hs cur.toArray 3 hg (l.map (Value.int .i64)) (by simp [hl]) (cells_row hc) (by simpa [hl] using hfit) (fun v hv=>by obtain ⟨z,-,rfl⟩:=List.mem_map.1 hv;rfl) ?_
  rw [List.length_map,hl]
  refine h _ ?_ ⟨rfl,rfl,rfl,by simp [World.setRow],fun k _ hk=>setRow_other w R k _ (by omega)⟩ (by simp [World.setRow])
  have:=setRow_heap w R _ (cur.take off++(l.map (Value.int .i64)++cur.drop (off+n))).toArray 3 _ hg
  simpa [splice,hl] using this
theorem mkView' (n:Nat) (hn:n≤1048577) (w:World):(Instr.makeSlice 113 (.int .i64 (n:Int)) (.int .i64 (n:Int))).run Tryz.prog w=.ok (.slice (some ⟨w.heap.size,0,none⟩) n n) (w.alloc (.cells (madeCells #[.int .i64 0] n) 3)):=by
 have:=mkView n hn w
 rw [Nat.mul_one] at this
 exact this
def zeros (n:Nat):List Value:=(madeCells #[.int .i64 0,.slice none 0 0] (n * 2)).toList
set_option maxHeartbeats 4000000 in
theorem sameWrites_any (s : Option Addr) (c lo hi : Nat) (l : List WD) (w : World) (h : WsR w lo hi s l) (hB : hi ≤ w.heap.size) (hl : l.length + szV l ≤ 1048576) :
  Calls Tryz.prog 87 #[.slice s l.length c] w fun e w'=>∃ r:RS,e=.returned r.val∧ORow w' w.heap.size r l∧Below w.heap.size w w':=by
 have H:Hid (WsR w lo hi s l):=h
 have hl1:l.length≤1048576:=by omega
 have hl2:szV l≤1048576:=by omega
 clear h
 go_enter Tryz.func87,Tryz.ntmps87
 go_wp2
 go_loopw [3,13] (fun a i wr=>∃ k:Nat,k≤l.length∧i=.int .i64 k∧a=.int .i64 ((szV (l.take k):Nat):Int)∧Below w.heap.size w wr) (fun _ i _=>l.length - (intOf i).toNat)
 case atStart=>exact ⟨0,Nat.zero_le _,rfl,by simp [szV],Below.refl _ _⟩
 case round=>
  obtain ⟨k,hk,rfl,rfl,hb⟩:=hrel
  have HB:Hid (Below w.heap.size w wr):=hb
  have hz:=hb.size
  clear hb
  by_cases hlt:k < l.length
  ·obtain ⟨x,hx⟩:∃ x,l[k]? =some x:=⟨_,List.getElem?_eq_getElem hlt⟩
   obtain ⟨g,o,s1,c1,e1,q1,q2,q3,q4,-⟩:=(H.out.keep (Keep.of_below HB.out hB)).at hx
   subst e1
   have HT:Hid (szV (l.take (k+1))=szV (l.take k)+x.vw.length):=szV_take l k x hx
   have h1:=szV_le_take l k
   have h2:=szV_at l k x hx
   have b0:(0:Int)≤(k:Int):=by omega
   have b1:(k:Int) < (l.length:Int):=by omega
   have zg:g < wr.heap.size:=by omega
   generalize szV (l.take k)=o1 at HT h1
   generalize x.vw.length=n1 at HT h2 q4
   clear hx
   go_wp2
   go_roundw
   case rel=>exact ⟨k+1,by omega,by go_num,by rw [HT.out];go_num,HB.out.alloc (by omega) _⟩
   case measure=>simp [intOf];omega
  ·have:k=l.length:=by omega
   subst this
   rw [List.take_length]
   have hm1:=mkView' (szV l) (by omega)
   have hm2:=mkW l.length hl1
   go_wp2
   clear hm1 hm2
   have hz:=HB.out.size
   rename World=>w1
   have HRw:Hid (WsR w1 lo hi s l):=H.out.keep (Keep.of_below HB.out hB)
   go_loopw [6,30] (fun a i wr=>∃ (k:Nat) (s':Option Addr) (vs:List VS) (cur:List Value),k≤l.length∧i=.int .i64 k∧a=.slice s' (szV l - szV (l.take k)) (szV l - szV (l.take k))∧(szV (l.take k) < szV l→s'=some ⟨w1.heap.size,szV (l.take k),none⟩)∧vs.length=k∧Below w1.heap.size w1 wr∧w1.heap.size+1 < wr.heap.size∧cur.length=szV l∧cur.take (szV (l.take k))=vcat (l.take k)∧wr.heap[w1.heap.size]? =some (.cells cur.toArray 3 (0,0))∧wr.ownsRow w.heap.size 127 2 (.slice (some ⟨w1.heap.size+1,0,none⟩) l.length l.length) l.length (flatV vs (l.take k)++(zeros l.length).drop (k * 2))∧(∀ (i:Nat) (x:VS) (y:WD),vs[i]? =some x→l[i]? =some y→x.n=y.vw.length∧(0 < x.n→x.s=some ⟨w1.heap.size,szV (l.take i),none⟩))) (fun _ i _=>l.length - (intOf i).toNat)
   case atStart=>
    refine ⟨0,some ⟨w1.heap.size,0,none⟩,[],List.replicate (szV l) (.int .i64 0),Nat.zero_le _,rfl,by simp [szV],fun _=>by simp [szV],rfl,((Below.refl _ _).alloc (Nat.le_refl _) _).alloc (by simp) _,by simp,by simp,by simp [szV,vcat],?_,?_,fun i x y h=>by simp at h⟩
    ·rw [Below.heap_alloc _ _ _ (by simp),heap_alloc_new,← toList_madeCells_one]
    ·have h0:=World.ownsRow_lit (base:=w.heap.size) (e:=127) (size:=2) (w1.alloc (.cells (madeCells #[.int .i64 0] (szV l)) 3)) (madeCells #[.int .i64 0,.slice none 0 0] (l.length * 2)) l.length (by simp;omega) (by unfold maxLen;omega) (size_madeCells _ _)
     simpa [flatV,zeros] using h0
   case round=>
    obtain ⟨k,s',vs,cur,hk,rfl,rfl,hs',hvs,hb1,hz1,hcl,hct,hg,how,hv⟩:=hrel
    have HB1:Hid (Below w1.heap.size w1 wr):=hb1
    have HVS:Hid (vs.length=k):=hvs
    have HCL:Hid (cur.length=szV l):=hcl
    have HCT:Hid (cur.take (szV (l.take k))=vcat (l.take k)):=hct
    have HG:Hid (wr.heap[w1.heap.size]? =some (.cells cur.toArray 3 (0,0))):=hg
    have HOW:=(show Hid (wr.ownsRow w.heap.size 127 2 (.slice (some ⟨w1.heap.size+1,0,none⟩) l.length l.length) l.length (flatV vs (l.take k)++(zeros l.length).drop (k * 2))) from how)
    have HV:Hid (∀ (i:Nat) (x:VS) (y:WD),vs[i]? =some x→l[i]? =some y→x.n=y.vw.length∧(0 < x.n→x.s=some ⟨w1.heap.size,szV (l.take i),none⟩)):=hv
    have HS':Hid (szV (l.take k) < szV l→s'=some ⟨w1.heap.size,szV (l.take k),none⟩):=hs'
    clear hb1 hvs hcl hct hg how hv hs'
    by_cases hlt:k < l.length
    ·obtain ⟨x,hx⟩:∃ x,l[k]? =some x:=⟨_,List.getElem?_eq_getElem hlt⟩
     obtain ⟨g,o,s1,c1,e1,q1,q2,q3,q4,q5⟩:=(HRw.out.keep (Keep.of_below HB1.out (by omega))).at hx
     subst e1
     have HI:Hid (IntsR wr lo hi s1 x.vw):=q5
     have ht:=szV_take l k x hx
     have HT:Hid (szV (l.take (k+1))=szV (l.take k)+x.vw.length):=ht
     have h1:=szV_le_take l (k+1)
     rw [ht] at h1
     have HX:Hid (l[k]? =some x):=hx
     have b0:(0:Int)≤(k:Int):=by omega
     have b1:(k:Int) < (l.length:Int):=by omega
     have zg:g < wr.heap.size:=by omega
     have cc:∀ j,j < 2→∃ u,wr.cell? ⟨w1.heap.size+1,k * 2+j,none⟩=some u:=fun j hj=>by
      rw [World.ownsRow.cellAt HOW.out (k * 2+j) (by omega)]
      exact ⟨_,List.getElem?_eq_getElem (by have:=HOW.out.1;omega)⟩
     have ff:∀ j,wr.frozen? ⟨w1.heap.size+1,j,none⟩=false:=fun j=>World.ownsRow.frozenAt HOW.out j
     obtain ⟨u0,a0⟩:=cc 0 (by omega)
     obtain ⟨u1,a1⟩:=cc 1 (by omega)
     rw [Nat.add_zero] at a0
     have cu:=cut_any s' (szV l - szV (l.take k)) (szV l - szV (l.take k)) x.vw.length (wr.alloc (.cells #[.int .i64 x.v,.slice s1 x.vw.length c1] 127)) (by omega)
     have HG1:Hid ((wr.alloc (.cells #[.int .i64 x.v,.slice s1 x.vw.length c1] 127)).heap[w1.heap.size]? =some (.cells cur.toArray 3 (0,0))):=by show _=_;rw [Below.heap_alloc _ _ _ (by omega)];exact HG.out
     have HI1:Hid (IntsR (wr.alloc (.cells #[.int .i64 x.v,.slice s1 x.vw.length c1] 127)) lo hi s1 x.vw):=HI.out.keep (Keep.of_below ((Below.refl wr.heap.size wr).alloc (Nat.le_refl _) _) (by omega))
     have hp:0 < x.vw.length→s'=some ⟨w1.heap.size,szV (l.take k),none⟩:=fun hp=>HS'.out (by omega)
     have HP:Hid (0 < x.vw.length→s'=some ⟨w1.heap.size,szV (l.take k),none⟩):=hp
     have zz1:w1.heap.size < wr.heap.size:=by omega
     have nz:¬ wr.heap.size=w1.heap.size:=by omega
     clear hx q5 ht cc hp
     go_wp2_with (first | (go_at_call 103;refine cu.mono ?_;rintro e w9 ⟨rfl,hw9⟩;subst w9) | (refine app_copyV rfl _ _ 41 rfl _ w1.heap.size (szV (l.take k)) cur HG1.out s' s1 x.vw.length x.vw.length c1 rfl rfl x.vw rfl HP.out HI1.out (by have:=HCL.out;omega) ?_;intro w2 hg2 hx2 hz2;have t0:w2.cell? ⟨wr.heap.size,0,none⟩=some (.int .i64 x.v):=(World.cell?_of_block (w:=wr.alloc (.cells #[.int .i64 x.v,.slice s1 x.vw.length c1] 127)) (hx2.blk wr.heap.size (by simp) (by omega))).trans (by simp [go_sem]);have t1:w2.cell? ⟨wr.heap.size,1,none⟩=some (.slice s1 x.vw.length c1):=(World.cell?_of_block (w:=wr.alloc (.cells #[.int .i64 x.v,.slice s1 x.vw.length c1] 127)) (hx2.blk wr.heap.size (by simp) (by omega))).trans (by simp [go_sem]);have kk:∀ b,b < wr.heap.size→b≠w1.heap.size→w2.heap[b]? =wr.heap[b]? :=(fun b h1 h2=>(hx2.blk b (by simp;omega) (by omega)).trans (Below.heap_alloc _ _ _ h1));have t2:=(World.cell?_of_block (w:=wr) (a:=⟨w1.heap.size+1,k * 2,none⟩) (kk (w1.heap.size+1) hz1 (by omega))).trans a0;have t3:=(World.cell?_of_block (w:=wr) (a:=⟨w1.heap.size+1,k * 2+1,none⟩) (kk (w1.heap.size+1) hz1 (by omega))).trans a1;have t4:∀ j,w2.frozen? ⟨w1.heap.size+1,j,none⟩=false:=(fun j=>(World.frozen?_of_block (w:=wr) (a:=⟨w1.heap.size+1,j,none⟩) (kk (w1.heap.size+1) hz1 (by omega))).trans (ff j));have HG2:=(show Hid _ from hg2);have HX2:=(show Hid _ from hx2);have HK2:=(show Hid _ from kk);have HZ2:Hid (w2.heap.size=wr.heap.size+1):=(by show _=_;rw [hz2];simp);clear hg2 hx2 hz2 kk))
     have TL:(l.take k).length=k:=by simp;omega
     have ET:l.take (k+1)=l.take k++[x]:=by rw [List.take_add_one,HX.out];rfl
     have LS:(splice cur (szV (l.take k)) (x.vw.map (Value.int .i64))).length=szV l:=by rw [length_splice _ _ _ (by rw [List.length_map,HCL.out];omega)];exact HCL.out
     refine ⟨⟨k+1,_,vs++[⟨s',x.vw.length,x.vw.length⟩],splice cur (szV (l.take k)) (x.vw.map (Value.int .i64)),by omega,by go_num,by rw [HT.out,Nat.sub_sub],fun hlt2=>?_,by simp [HVS.out],?_,?_,LS,?_,?_,?_,fun i x1 y1 e1 e2=>?_⟩,by simp [intOf];omega⟩
     ·rw [HT.out] at hlt2 ⊢
      rw [if_neg (by omega),HS'.out (by omega)]
      simp only [Option.map_some]
      congr 1
      by_cases h9:x.vw.length=0
      ·rw [h9];rfl
      ·simp [Addr.add,h9]
     ·exact (((HB1.out.alloc (by omega) _).trans (HX2.out.below (Nat.le_refl _) (by simp;omega))).setCell (p:=⟨w1.heap.size+1,k * 2,none⟩) (by show w1.heap.size≤w1.heap.size+1;omega) _).setCell (p:=⟨w1.heap.size+1,k * 2+1,none⟩) (by show w1.heap.size≤w1.heap.size+1;omega) _
     ·simp [HZ2.out];omega
     ·rw [HT.out,ET,vcat_app,← HCT.out]
      unfold splice
      rw [← List.append_assoc]
      exact List.take_left' (by simp [HCL.out];omega)
     ·rw [Below.heap_setCell _ _ _ _ (by show w1.heap.size≠w1.heap.size+1;omega),Below.heap_setCell _ _ _ _ (by show w1.heap.size≠w1.heap.size+1;omega)]
      exact HG2.out
     ·have o2:w2.ownsRow w.heap.size 127 2 (.slice (some ⟨w1.heap.size+1,0,none⟩) l.length l.length) l.length (flatV vs (l.take k)++(zeros l.length).drop (k * 2)):=ownKeep' HOW.out (fun b hb=>by have hb2:some (w1.heap.size+1)=some b:=hb;injection hb2 with hb2;subst hb2;exact HK2.out _ hz1 (by omega))
      have p1:=(World.ownsRow.stored o2 (k * 2) (.int .i64 x.v)).1
      have p2:=(World.ownsRow.stored p1 (k * 2+1) (.slice s' x.vw.length x.vw.length)).1
      have fl:(flatV vs (l.take k)).length=k * 2:=by rw [flatV_len _ _ (by rw [HVS.out,TL]),HVS.out]
      have zl:(zeros l.length).length=l.length * 2:=by unfold zeros;rw [Array.length_toList,size_madeCells]
      have e1:(zeros l.length).drop (k * 2)=(zeros l.length)[k * 2]'(by omega)::(zeros l.length)[k * 2+1]'(by omega)::(zeros l.length).drop ((k+1) * 2):=by
       rw [List.drop_eq_getElem_cons (by omega),List.drop_eq_getElem_cons (by omega)]
       congr 2
       rw [show k * 2+1+1=(k+1) * 2 by omega]
      have e2:((flatV vs (l.take k)++(zeros l.length).drop (k * 2)).set (k * 2) (.int .i64 x.v)).set (k * 2+1) (.slice s' x.vw.length x.vw.length)=flatV (vs++[⟨s',x.vw.length,x.vw.length⟩]) (l.take (k+1))++(zeros l.length).drop ((k+1) * 2):=by
       rw [e1,ET,flatV_app _ _ _ _ (by rw [HVS.out,TL])]
       rw [set2App _ _ _ _ _ _ _ fl]
       simp
      rw [← e2]
      exact p2
     ·rcases getElem?_push e1 with e1 | ⟨i1,rfl⟩
      ·exact HV.out i x1 y1 e1 e2
      ·have e3:i=k:=by rw [i1,HVS.out]
       subst e3
       rw [HX.out] at e2
       injection e2 with e2
       subst e2
       exact ⟨rfl,HP.out⟩
    ·have e9:k=l.length:=by omega
     subst e9
     go_wp2
     go_ret
     have hct:=HCT.out
     have how:=HOW.out
     have hv:=HV.out
     rw [List.take_length] at hct how
     have ec:cur=vcat l:=by rw [← hct,List.take_of_length_le (by rw [HCL.out];exact Nat.le_refl _)]
     have hg:=HG.out
     rw [ec] at hg
     obtain ⟨k1,k2,k3⟩:=vsA_ok (w:=wr) (B:=w.heap.size) (R:=w1.heap.size) HVS.out hv (by omega) hg
     have ez:(zeros l.length).drop (l.length * 2)=[]:=List.drop_eq_nil_of_le (by unfold zeros;rw [Array.length_toList,size_madeCells];exact Nat.le_refl _)
     rw [ez,List.append_nil] at how
     refine ⟨⟨some ⟨w1.heap.size+1,0,none⟩,l.length,vs⟩,?_,⟨HVS.out,?_,k1,k2,k3⟩,HB.out.trans (HB1.out.mono (by omega))⟩
     ·show _=Ending.returned (.slice (some ⟨w1.heap.size+1,0,none⟩) vs.length l.length)
      rw [HVS.out]
      rfl
     ·show wr.ownsRow w.heap.size 127 2 (.slice (some ⟨w1.heap.size+1,0,none⟩) vs.length l.length) vs.length (flatV vs l)
      rw [HVS.out]
      exact how
end
section
set_option linter.unusedSimpArgs false
set_option linter.unusedVariables false
set_option maxRecDepth 100000
open Go.RowKit
theorem OW.low {w:World} {B B':Nat} {v:Value} {S:List RS} {m:List (List WD)} (h:OW w B v S m) (hb:B'≤B):OW w B' v S m:=
 ⟨h.n,ownLow' h.row hb,fun i r l hr hl=>(h.r i r l hr hl).low hb,h.d⟩
set_option maxHeartbeats 2000000 in
theorem sameMemory_any (s : Option Addr) (c lo hi : Nat) (m : List (List WD)) (w : World) (h : MemR w lo hi s m) (hB : hi ≤ w.heap.size) (hl : MFits m) :
  Calls Tryz.prog 63 #[.agg #[.slice s m.length c]] w fun e w'=>∃ v S,e=.returned (.agg #[v])∧OW w' w.heap.size v S m∧Below w.heap.size w w':=by
 have hl1:=hl.n
 have hmk:=mkWW m.length hl1
 have HC:Hid (MemR w lo hi s m):=h
 clear h
 go_enter Tryz.func63,Tryz.ntmps63
 go_wp2
 clear hmk
 have HL:Hid (MFits m):=hl
 go_loopw [14] (fun i wr=>∃ (k:Nat) (S:List RS),k≤m.length∧i=.int .i64 k∧S.length=k∧Below w.heap.size w wr∧w.heap.size+1+1+1 < wr.heap.size∧wr.cell? ⟨w.heap.size+1+1+1,0,none⟩=some (.slice (some ⟨w.heap.size+1+1,0,none⟩) m.length m.length)∧(wr.cell? ⟨w.heap.size+1,0,none⟩).isSome=true∧(∀ j,wr.frozen? ⟨w.heap.size+1,j,none⟩=false)∧wr.ownsRow (w.heap.size+2) 125 1 (.slice (some ⟨w.heap.size+1+1,0,none⟩) m.length m.length) m.length (S.map RS.val++List.replicate (m.length - k) (.slice none 0 0))∧(∀ (i:Nat) (r:RS) (l:List WD),S[i]? =some r→m[i]? =some l→ORow wr (w.heap.size+4) r l)∧(mAs S).Nodup) (fun i _=>m.length - (intOf i).toNat)
 case atStart=>
  refine ⟨0,[],Nat.zero_le _,rfl,rfl,((((Below.refl _ _).alloc (Nat.le_refl _) _).alloc (by simp) _).alloc (by simp;omega) _).alloc (by simp;omega) _,by simp,by simp [go_sem],by simp [go_sem],fun j=>by simp [go_sem],?_,fun i r l h=>by simp at h,by simp [mAs]⟩
  have h0:=World.ownsRow_lit (base:=w.heap.size+2) (e:=125) (size:=1) ((w.alloc (.cells #[.slice s m.length c] 37)).alloc (.cells #[.slice none 0 0] 37)) (madeCells #[.slice none 0 0] m.length) m.length (by simp) (by unfold maxLen;omega) (by rw [size_madeCells];omega)
  rw [toList_madeCells_one] at h0
  have h1:=World.ownsRow.alloc h0 (.cells #[.slice (some ⟨w.heap.size+1+1,0,none⟩) m.length m.length] 37)
  simpa using h1
 case round=>
  obtain ⟨k,S,hk,rfl,hS,hb,hz,c3,c1,f1,hrow,hr,hd⟩:=hrel
  have HB:Hid (Below w.heap.size w wr):=hb
  have HS:Hid (S.length=k):=hS
  have HROW:=(show Hid (wr.ownsRow (w.heap.size+2) 125 1 (.slice (some ⟨w.heap.size+1+1,0,none⟩) m.length m.length) m.length (S.map RS.val++List.replicate (m.length - k) (.slice none 0 0))) from hrow)
  have HR:Hid (∀ (i:Nat) (r:RS) (l:List WD),S[i]? =some r→m[i]? =some l→ORow wr (w.heap.size+4) r l):=hr
  have HD:Hid ((mAs S).Nodup):=hd
  have HF1:Hid (∀ j,wr.frozen? ⟨w.heap.size+1,j,none⟩=false):=f1
  have HC1:Hid ((wr.cell? ⟨w.heap.size+1,0,none⟩).isSome=true):=c1
  have z1:w.heap.size+1 < wr.heap.size:=by omega
  have z2:w.heap.size+1+1 < wr.heap.size:=by omega
  clear hb hS hrow hr hd f1 c1
  by_cases hlt:k < m.length
  ·obtain ⟨x,hx⟩:∃ x,m[k]? =some x:=⟨_,List.getElem?_eq_getElem hlt⟩
   obtain ⟨g,o,s1,cx,e1,q1,q2,q3,q5⟩:=(HC.out.keep (Keep.of_below HB.out hB)).row hx
   subst e1
   have HI:Hid (WsR wr lo hi s1 x):=q5
   have HXL:Hid (x.length+szV x≤1048576):=HL.out.r hx
   have HX:Hid (m[k]? =some x):=hx
   obtain ⟨u0,a0⟩:∃ u,wr.cell? ⟨w.heap.size+1+1,k,none⟩=some u:=by
    rw [World.ownsRow.cellAt HROW.out k (by omega)]
    exact ⟨_,List.getElem?_eq_getElem (by have:=HROW.out.1;omega)⟩
   have ff:∀ j,wr.frozen? ⟨w.heap.size+1+1,j,none⟩=false:=fun j=>World.ownsRow.frozenAt HROW.out j
   have b0:(0:Int)≤(k:Int):=by omega
   have b1:(k:Int) < (m.length:Int):=by omega
   have zg:g < wr.heap.size:=by omega
   clear hx q5
   go_wp2_with fail
   go_region_held3 (fun w'=>w'.cell? ⟨w.heap.size+1+1+1,0,none⟩=some (.slice (some ⟨w.heap.size+1+1,0,none⟩) m.length m.length)) (go_keep) ((go_at_call 87;refine (sameWrites_any s1 cx lo hi x wr.drew HI.out (by show hi≤wr.heap.size;omega) HXL.out).mono ?_;rintro e w2 ⟨r2,he2,ho2,hb2⟩;have he3:e=.returned (.slice r2.s r2.vs.length r2.c):=he2;subst he3;clear he2;have hb2':Below wr.heap.size wr w2:=⟨hb2.os,hb2.tape,hb2.output,hb2.size,hb2.block⟩;have t1:=(hb2'.cell (p:=⟨w.heap.size+1+1+1,0,none⟩) hz).trans c3;have t2:=(hb2'.cell (p:=⟨w.heap.size+1+1,k,none⟩) z2).trans a0;have t3:∀ j,w2.frozen? ⟨w.heap.size+1+1,j,none⟩=false:=(fun j=>(hb2'.frozen (p:=⟨w.heap.size+1+1,j,none⟩) z2).trans (ff j))))
   have HO2:Hid (ORow w2 wr.heap.size r2 x):=ho2
   have HB2:Hid (Below wr.heap.size wr w2):=hb2'
   clear ho2 hb2 hb2' t1
   go_wp2
   go_roundw
   case rel=>
    have hz2:=HB2.out.size
    have kp:∀ b,w.heap.size+4≤b→(w2.setCell ⟨w.heap.size+1+1,k,none⟩ (.slice r2.s r2.vs.length r2.c)).heap[b]? =w2.heap[b]? :=fun b hb=>Below.heap_setCell _ _ _ b (by show b≠w.heap.size+1+1;omega)
    refine ⟨k+1,S++[r2],by omega,by go_num,by simp [HS.out],(HB.out.trans (HB2.out.mono (by omega))).setCell (p:=⟨w.heap.size+1+1,k,none⟩) (by show w.heap.size≤w.heap.size+1+1;omega) _,by simp;omega,?_,?_,fun j=>?_,?_,fun i r l e1 e2=>?_,?_⟩
    ·rw [setC_blk (by omega)];exact (HB2.out.cell (p:=⟨w.heap.size+1+1+1,0,none⟩) hz).trans c3
    ·rw [setC_blk (by omega),HB2.out.cell (p:=⟨w.heap.size+1,0,none⟩) z1];exact HC1.out
    ·rw [World.frozen?_setCell,HB2.out.frozen (p:=⟨w.heap.size+1,j,none⟩) z1];exact HF1.out j
    ·have o2:w2.ownsRow (w.heap.size+2) 125 1 (.slice (some ⟨w.heap.size+1+1,0,none⟩) m.length m.length) m.length (S.map RS.val++List.replicate (m.length - k) (.slice none 0 0)):=ownKeep' HROW.out (fun b hb=>by have hb2:some (w.heap.size+1+1)=some b:=hb;injection hb2 with hb2;subst hb2;exact HB2.out.block _ z2)
     have p1:=(World.ownsRow.stored o2 k (.slice r2.s r2.vs.length r2.c)).1
     have e3:m.length - k=(m.length - (k+1))+1:=by omega
     have e4:(S.map RS.val++List.replicate (m.length - k) (Value.slice none 0 0)).set k (Value.slice r2.s r2.vs.length r2.c)=(S++[r2]).map RS.val++List.replicate (m.length - (k+1)) (Value.slice none 0 0):=by
      have f1:=setApp (List.replicate (m.length - k) (Value.slice none 0 0)) 0 (.slice r2.s r2.vs.length r2.c) (S.map RS.val)
      rw [List.length_map,HS.out,Nat.add_zero] at f1
      rw [f1,e3,List.replicate_succ,List.set_cons_zero]
      simp [RS.val]
     rw [e4] at p1
     exact p1
    ·rcases getElem?_push e1 with e1 | ⟨i1,rfl⟩
     ·have q:=HR.out i r l e1 e2
      have q2:=q.below HB2.out
      exact q2.kept (fun b e=>kp b (World.ownsRow.lt q2.own _ e).1) (fun a ha=>kp _ (q2.blk ha).1) (by simp)
     ·have e3:i=k:=by rw [i1,HS.out]
      subst e3
      rw [HX.out] at e2
      injection e2 with e2
      subst e2
      have q2:=HO2.out.low (B':=w.heap.size+4) (by omega)
      exact q2.kept (fun b e=>kp b (World.ownsRow.lt q2.own _ e).1) (fun a ha=>kp _ (q2.blk ha).1) (by simp)
    ·rw [mAs_app]
     refine List.nodup_append.2 ⟨HD.out,HO2.out.ro.d,fun a ha b hb e=>?_⟩
     subst e
     have h2:=(HO2.out.ro.blk hb).1
     obtain ⟨r,hr,har⟩:=mem_mAs.1 ha
     obtain ⟨i,hi',er⟩:=List.getElem_of_mem hr
     have hl':i < m.length:=by have:=HS.out;omega
     have h3:=((HR.out i r m[i] (by rw [List.getElem?_eq_getElem hi',er]) (List.getElem?_eq_getElem hl')).ro.blk har).2
     omega
   case measure=>simp [intOf];omega
  ·have e9:k=m.length:=by omega
   subst e9
   obtain ⟨u1,c1'⟩:=Option.isSome_iff_exists.1 HC1.out
   have f1:=HF1.out
   go_wp2
   have hrow:=HROW.out
   rw [Nat.sub_self,List.replicate_zero,List.append_nil] at hrow
   refine bodyPost_ret (v:=.agg #[.slice (some ⟨w.heap.size+1+1,0,none⟩) m.length m.length]) (by simp [results,Tryz.results63,go_sem,c1']) rfl ⟨_,S,rfl,?_,?_⟩
   ·have ow:OW wr (w.heap.size+2) (.slice (some ⟨w.heap.size+1+1,0,none⟩) m.length m.length) S m:=⟨HS.out,by rw [HS.out];exact hrow,fun i r l hr hl=>(HR.out i r l hr hl).low (by omega),HD.out⟩
    exact (ow.kept (fun b h1 _=>Below.heap_setCell _ _ _ b (by show b≠w.heap.size+1;omega)) (by simp)).low (by omega)
   ·exact HB.out.setCell (p:=⟨w.heap.size+1,0,none⟩) (by show w.heap.size≤w.heap.size+1;omega) _
end
section
set_option linter.unusedSimpArgs false
set_option linter.unusedVariables false
set_option maxRecDepth 100000
open Go.RowKit
theorem OW.push {w w1 w2 : World} {B g cap : Nat} {v : Value} {S : List RS} {m : List (List WD)} (r : RS) (l : List WD) (h : OW w B v S m) (hb : Below w.heap.size w w1) (hr : ORow w1 w.heap.size r l) (hB : B ≤ w.heap.size)
  (h2:w2.ownsRow B 125 1 (.slice (some ⟨g,0,none⟩) (S.length+1) cap) (S.length+1) (S.map RS.val++[r.val])) (hg:w1.grownBy w2 v.ownBlock):OW w2 B (.slice (some ⟨g,0,none⟩) (S++[r]).length cap) (S++[r]) (m++[l]):=by
 have hn1:=h.n
 have h1:=h.below hb
 have kp:∀ (r':RS) (l':List WD),ORow w1 B r' l'→ORow w2 B r' l':=fun r' l' q=>by
  refine q.kept (fun k e=>hg.block _ (World.ownsRow.lt q.own _ e).2 (fun e'=>?_)) (fun a ha=>hg.block _ (q.blk ha).2 (fun e'=>?_)) hg.size
  ·obtain ⟨cs,c1⟩:=q.blkT e
   obtain ⟨cs',c2⟩:=rows_blkT h1.row e'.symm
   rw [c1] at c2
   injection c2 with c2
   injection c2 with _ c2
   exact absurd c2 (by decide)
  ·obtain ⟨cs,f,c1⟩:=q.vt a ha
   obtain ⟨cs',c2⟩:=rows_blkT h1.row e'.symm
   rw [c1] at c2
   injection c2 with c2
   injection c2 with _ c2
   exact absurd c2 (by decide)
 refine ⟨by simp [hn1],by simpa using h2,fun i r1 l1 e1 e2=>?_,?_⟩
 ·rcases getElem?_push e1 with e1 | ⟨i1,rfl⟩
  ·rcases getElem?_push e2 with e2 | ⟨i2,rfl⟩
   ·exact kp r1 l1 (h1.r i r1 l1 e1 e2)
   ·have:=(List.getElem?_eq_some_iff.1 e1).1;omega
  ·rcases getElem?_push e2 with e2 | ⟨i2,rfl⟩
   ·have:=(List.getElem?_eq_some_iff.1 e2).1;omega
   ·exact kp r1 l1 (hr.low hB)
 ·rw [mAs_app]
  refine List.nodup_append.2 ⟨h.d,hr.ro.d,fun a ha b hb' e=>?_⟩
  subst e
  have q1:=(h.om.blk ha).2
  have q2:=(hr.ro.blk hb').1
  omega
theorem ownV {w:World} {b c n:Nat} {s:Option Addr} {l:List Int} (h:OwnN w b (.slice s n c) l) (hn:n=l.length):VO w b w.heap.size ⟨s,n,c⟩ l∧(∀ a∈vAs ⟨s,n,c⟩,TyI w a.block)∧(vAs ⟨s,n,c⟩).Nodup∧∀ a∈vAs ⟨s,n,c⟩,b≤a.block:=by
 subst hn
 rcases Nat.eq_zero_or_pos l.length with h0 | hpos
 ·have e:vAs ⟨s,l.length,c⟩=[]:=by simp [vAs,h0]
  rw [e]
  exact ⟨⟨rfl,.inl (List.length_eq_zero_iff.1 h0)⟩,fun a ha=>by simp at ha,by simp,fun a ha=>by simp at ha⟩
 ·obtain ⟨g,cap,e,-⟩:=World.ownsRow.form h hpos
  injection e with e1 e2 e3
  subst e1
  have hlt:=World.ownsRow.lt h g rfl
  have ty:TyI w g:=by
   rcases h.2 with ⟨e,-⟩ | ⟨g',cap',cur,e,-,c',-⟩
   ·cases e
   ·injection e with e;injection e with e;injection e with e
    subst e
    exact ⟨_,_,c'⟩
  refine ⟨⟨rfl,.inr ⟨g,0,rfl,hlt.1,hlt.2,fun i hi'=>⟨?_,World.ownsRow.frozenAt h _⟩⟩⟩,fun a ha=>?_,vAs_nodup (g:=g) (o:=0) rfl,fun a ha=>?_⟩
  ·rw [Nat.zero_add];exact h.cell hi'
  ·obtain ⟨i,-,rfl⟩:=mem_vAs.1 ha;exact ty
  ·obtain ⟨i,-,rfl⟩:=mem_vAs.1 ha;exact hlt.1
theorem infoWr:∃ i,Tryz.prog.info? 127=some i∧i.zero=some (.agg #[.int .i64 0,.slice none 0 0])∧i.size=2∧i.bytes=32:=⟨_,rfl,rfl,rfl,rfl⟩
theorem wp_rec {o : Oper} {a : Act} {w : World} {K : Act → World → Prop} {Q : Exit → Act → World → Prop} (s x : Operand) (ho : o.op = .call { callee := .builtin .append, args := #[s, x], argTypes := #[125, 125] })
  (base:Nat) (v:Value) (n:Nat) (xs:List Value) (hs:a.eval s=v) (hown:w.ownsRow base 127 2 v n xs) (g0:Nat) (u0 u1:Value) (hu0:u0.oneCell'=true) (hu1:u1.oneCell'=true) (hx:a.eval x=.slice (some ⟨g0,0,none⟩) 1 1) (hc0:w.cell? ⟨g0,0,none⟩=some u0) (hc1:w.cell? ⟨g0,1,none⟩=some u1) (hn:n≤1073741824) (hbase:base≤w.heap.size)
  (h:∀ g cap w',w'.ownsRow base 127 2 (.slice (some ⟨g,0,none⟩) (n+1) cap) (n+1) (xs++[u0,u1])→w.grownBy w' v.ownBlock→(v.ownBlock=some g∨w.heap.size≤g)→g < w'.heap.size→K (a.put o.dst (.slice (some ⟨g,0,none⟩) (n+1) cap)) w'):Oper.wp Tryz.prog o a w K Q:=by
 obtain ⟨i0,hi,hz0,hz1,hz2⟩:=infoWr
 refine wp_append_lies w s x 125 ho base 127 i0 _ 2 32 Tryz.underlying125 hi hz0 hz1 hz2 rfl (by decide) v n xs hs hown ⟨g0,0,none⟩ 1 1 [u0,u1] hx rfl (fun j u' hj=>?_) (fun u' hu'=>by simp at hu';rcases hu' with rfl | rfl<;>assumption) (by decide) (by unfold maxLen;omega) (by omega) hbase _ rfl ?_
 ·match j,hj with
  | 0,hj=>simp at hj;subst hj;simpa [Addr.add] using hc0
  | 1,hj=>simp at hj;subst hj;simpa [Addr.add] using hc1
  | j+2,hj=>simp at hj
 ·intro g cap w' q1 q2 q3 q4
  exact h g cap w' q1 q2 (by rcases q3 with q3 | q3<;>first | exact .inl q3 | exact .inr (by omega)) q4
theorem step_rec {ops : Array Oper} {o : Oper} {a : Act} {K : Act → World → Prop} {Q : Exit → Act → World → Prop} {E : Prop} (hgd : o.guard = none) (s x : Operand) (ho : o.op = .call { callee := .builtin .append, args := #[s, x], argTypes := #[125, 125] })
  (w:World) (base:Nat) (v:Value) (n:Nat) (xs:List Value) (hs:a.eval s=v) (hown:w.ownsRow base 127 2 v n xs) (g0:Nat) (u0 u1:Value) (hu0:u0.oneCell'=true) (hu1:u1.oneCell'=true) (hx:a.eval x=.slice (some ⟨g0,0,none⟩) 1 1) (hc0:w.cell? ⟨g0,0,none⟩=some u0) (hc1:w.cell? ⟨g0,1,none⟩=some u1) (hn:n≤1073741824) (hbase:base≤w.heap.size)
  (h:∀ g cap w',w'.ownsRow base 127 2 (.slice (some ⟨g,0,none⟩) (n+1) cap) (n+1) (xs++[u0,u1])→w.grownBy w' v.ownBlock→(v.ownBlock=some g∨w.heap.size≤g)→g < w'.heap.size→K (a.put o.dst (.slice (some ⟨g,0,none⟩) (n+1) cap)) w'):if Region.wanted o (yielded ops a.tmps)=true then Oper.wp Tryz.prog o a w K Q else E:=by
 have hw:Region.wanted o (yielded ops a.tmps)=true:=by simp [Region.wanted,hgd]
 rw [if_pos hw]
 exact wp_rec s x ho base v n xs hs hown g0 u0 u1 hu0 hu1 hx hc0 hc1 hn hbase h
set_option maxHeartbeats 4000000 in
theorem l6Copy_any (s : Option Addr) (c lo hi : Nat) (m : List (List WD)) (w : World) (h : MemR w lo hi s m) (hB : hi ≤ w.heap.size) (hl : MFits m) :
  Calls Tryz.prog 51 #[.agg #[.slice s m.length c]] w fun e w'=>∃ v S,e=.returned (.agg #[v])∧OW w' w.heap.size v S m∧Below w.heap.size w w':=by
 have hl1:=hl.n
 have HC:Hid (MemR w lo hi s m):=h
 have HL:Hid (MFits m):=hl
 clear h hl
 go_enter Tryz.func51,Tryz.ntmps51
 go_wp2
 go_loopw [4] (fun i wr=>∃ (k:Nat) (v:Value) (S:List RS),k≤m.length∧i=.int .i64 k∧S.length=k∧OW wr (w.heap.size+3) v S (m.take k)∧wr.cell? ⟨w.heap.size,0,none⟩=some (.slice s m.length c)∧wr.cell? ⟨w.heap.size+1+1,0,none⟩=some v∧(wr.cell? ⟨w.heap.size+1,0,none⟩).isSome=true∧(∀ j,wr.frozen? ⟨w.heap.size+1+1,j,none⟩=false)∧(∀ j,wr.frozen? ⟨w.heap.size+1,j,none⟩=false)∧w.heap.size+1+1 < wr.heap.size∧Below w.heap.size w wr) (fun i _=>m.length - (intOf i).toNat)
 case atStart=>exact ⟨0,.slice none 0 0,[],Nat.zero_le _,rfl,rfl,OW.nil _ _,by simp [go_sem],by simp [go_sem],by simp [go_sem],fun j=>by simp [go_sem],fun j=>by simp [go_sem],by simp,(((Below.refl _ _).alloc (Nat.le_refl _) _).alloc (by simp) _).alloc (by simp;omega) _⟩
 case round=>
  obtain ⟨k,v,S,hk,rfl,hS,ho,c0,c2,c1,f2,f1,hz,hb⟩:=hrel
  obtain ⟨sv,cv,hv,-⟩:=ho.om.mo
  have tl:(m.take k).length=k:=by simp;omega
  rw [tl] at hv
  subst hv
  have HO:Hid (OW wr (w.heap.size+3) (.slice sv k cv) S (m.take k)):=ho
  have HB:Hid (Below w.heap.size w wr):=hb
  have HS:Hid (S.length=k):=hS
  have HC1:Hid ((wr.cell? ⟨w.heap.size+1,0,none⟩).isSome=true):=c1
  have HF1:Hid (∀ j,wr.frozen? ⟨w.heap.size+1,j,none⟩=false):=f1
  have z0:w.heap.size < wr.heap.size:=by omega
  have z1:w.heap.size+1 < wr.heap.size:=by omega
  have z3:w.heap.size+3≤wr.heap.size:=by omega
  clear ho hb hS c1 f1 tl
  by_cases hlt:k < m.length
  ·obtain ⟨x,hx⟩:∃ x,m[k]? =some x:=⟨_,List.getElem?_eq_getElem hlt⟩
   obtain ⟨g,o,s1,cx,e1,q1,q2,q3,q5⟩:=(HC.out.keep (Keep.of_below HB.out hB)).row hx
   subst e1
   have HI:Hid (WsR wr lo hi s1 x):=q5
   have hxl:=HL.out.r hx
   have HXV:Hid (∀ (i:Nat) (y:WD),x[i]? =some y→y.vw.length≤1048576):=fun i y hy=>by have:=szV_at x i y hy;omega
   have hxn:x.length≤1048576:=by omega
   have HT:Hid (m.take (k+1)=m.take k++[x]):=by show _=_;rw [List.take_add_one,hx];rfl
   have b0:(0:Int)≤(k:Int):=by omega
   have b1:(k:Int) < (m.length:Int):=by omega
   have zg:g < wr.heap.size:=by omega
   clear hx q5 hxl
   go_wp2
   rename World=>wo
   go_loopw [5,6] (fun u i wr=>∃ (j:Nat) (r:RS),j≤x.length∧i=.int .i64 j∧u=.slice r.s j r.c∧r.vs.length=j∧ORow wr wo.heap.size r (x.take j)∧Below wo.heap.size wo wr) (fun _ i _=>x.length - (intOf i).toNat)
   case atStart=>
    refine ⟨0,⟨some ⟨wo.heap.size,0,none⟩,0,[]⟩,Nat.zero_le _,rfl,rfl,rfl,⟨rfl,?_,fun i x y h=>by simp at h,fun a ha=>by simp [vsA] at ha,by simp [vsA]⟩,(Below.refl _ _).alloc (Nat.le_refl _) _⟩
    exact World.ownsRow_lit wo #[] 0 (Nat.le_refl _) (by unfold maxLen;omega) rfl
   case round=>
    obtain ⟨j,r,hj,rfl,rfl,hrl,hro,hbo⟩:=hrel
    have HRO:Hid (ORow wr wo.heap.size r (x.take j)):=hro
    have HBO:Hid (Below wo.heap.size wo wr):=hbo
    have HRL:Hid (r.vs.length=j):=hrl
    have d0:=(hbo.cell (p:=⟨w.heap.size,0,none⟩) z0).trans c0
    have d1:=(hbo.cell (p:=⟨g,o+k,none⟩) zg).trans q3
    have d2:=(hbo.cell (p:=⟨w.heap.size+1+1,0,none⟩) hz).trans c2
    have d3:∀ j,wr.frozen? ⟨w.heap.size+1+1,j,none⟩=false:=fun j=>(hbo.frozen (p:=⟨w.heap.size+1+1,j,none⟩) hz).trans (f2 j)
    have y0:=hbo.size
    have y1:w.heap.size < wr.heap.size:=by omega
    have y2:g < wr.heap.size:=by omega
    have y3:w.heap.size+1+1 < wr.heap.size:=by omega
    clear hro hbo hrl
    by_cases hjt:j < x.length
    ·obtain ⟨y,hy⟩:∃ y,x[j]? =some y:=⟨_,List.getElem?_eq_getElem hjt⟩
     obtain ⟨g',o',s2,cy,e2,r1,r2,r3,r4,r5⟩:=(HI.out.keep (Keep.of_below HBO.out (by omega))).at hy
     subst e2
     have HY:Hid (IntsR (wr.drew.alloc (.cells #[] 3)) lo hi s2 y.vw):=IntsR.keep (w:=wr) r5 (Keep.of_below (B:=wr.heap.size) ((Below.drew (Below.refl _ _)).alloc (Nat.le_refl _) _) (by omega))
     have hyl:=HXV.out j y hy
     have HTy:Hid (x.take (j+1)=x.take j++[y]):=by show _=_;rw [List.take_add_one,hy];rfl
     have b2:(0:Int)≤(j:Int):=by omega
     have b3:(j:Int) < (x.length:Int):=by omega
     have y4:g' < wr.heap.size:=by omega
     have n1:¬ wr.heap.size=w.heap.size:=by omega
     have n2:¬ wr.heap.size=g:=by omega
     have n3:¬ wr.heap.size=g':=by omega
     clear hy r5
     go_wp2_with fail
     go_region_held3 (fun w'=>w'.cell? ⟨w.heap.size,0,none⟩=some (.slice (some ⟨g,o,none⟩) m.length c)∧w'.cell? ⟨g,o+k,none⟩=some (.slice (some ⟨g',o',none⟩) x.length cx)∧w'.cell? ⟨g',o'+j * 2,none⟩=some (.int .i64 y.v)∧w'.cell? ⟨g',o'+j * 2+1,none⟩=some (.slice s2 y.vw.length cy)) (go_keep) (first | (refine step_copyI rfl _ _ rfl rfl _ wr.heap.size (some ⟨wr.heap.size,0,none⟩) 0 rfl (ownN_empty (w:=wr.drew) (Nat.le_refl _)) s2 cy y.vw rfl HY.out (by omega) (by simp) ?_;intro s5 c5 w5 ho5 hc5;have hb5:Below wr.heap.size wr w5:=((Below.drew (Below.refl _ _)).alloc (Nat.le_refl _) _).trans hc5.low;have t0:=(hb5.cell (p:=⟨w.heap.size,0,none⟩) y1).trans d0;have t1:=(hb5.cell (p:=⟨g,o+k,none⟩) y2).trans d1;have t2:=(hb5.cell (p:=⟨g',o'+j * 2,none⟩) y4).trans r3;have t3:=(hb5.cell (p:=⟨g',o'+j * 2+1,none⟩) y4).trans r4;have z5:=hb5.size;have n4:w.heap.size < w5.heap.size:=(by omega);have n5:g < w5.heap.size:=(by omega);have n6:g' < w5.heap.size:=(by omega);have HRO5:Hid (ORow (w5.alloc (.cells #[.int .i64 y.v,.slice s5 y.vw.length c5] 127)) wo.heap.size r (x.take j)):=(HRO.out.below hb5).below ((Below.refl _ _).alloc (Nat.le_refl _) _);have HOW5:Hid ((w5.alloc (.cells #[.int .i64 y.v,.slice s5 y.vw.length c5] 127)).ownsRow wo.heap.size 127 2 (.slice r.s j r.c) j (flatV r.vs (x.take j))):=(by have:=HRO5.out.own;unfold RS.val at this;rw [HRL.out] at this;exact this)) | (refine step_rec rfl _ _ rfl (w5.alloc (.cells #[.int .i64 y.v,.slice s5 y.vw.length c5] 127)) wo.heap.size (.slice r.s j r.c) j (flatV r.vs (x.take j)) rfl HOW5.out w5.heap.size (.int .i64 y.v) (.slice s5 y.vw.length c5) rfl rfl rfl (by simp [go_sem]) (by simp [go_sem]) (by omega) (by simp;omega) ?_;intro g6 c6 w6 ho6 hg6 hn6 hl6;have hb6:Below wo.heap.size w5 w6:=Below.grown ((Below.refl _ _).alloc (by omega) _) hg6 (by simp;omega) (fun b hb=>(World.ownsRow.lt HOW5.out b hb).1);have p0:=(hb6.cell (p:=⟨w.heap.size,0,none⟩) z0).trans t0;have p1:=(hb6.cell (p:=⟨g,o+k,none⟩) zg).trans t1;have p2:=(hb6.cell (p:=⟨g',o'+j * 2,none⟩) (show g' < wo.heap.size by omega)).trans t2;have p3:=(hb6.cell (p:=⟨g',o'+j * 2+1,none⟩) (show g' < wo.heap.size by omega)).trans t3))
     obtain ⟨v1,v2,v3,v4⟩:=ownV ho5 rfl
     have al:Below w5.heap.size w5 (w5.alloc (.cells #[.int .i64 y.v,.slice s5 y.vw.length c5] 127)):=(Below.refl _ _).alloc (Nat.le_refl _) _
     have ts:∀ b,b < w5.heap.size→(w5.alloc (.cells #[.int .i64 y.v,.slice s5 y.vw.length c5] 127)).heap[b]? =w5.heap[b]? :=fun b hb=>al.block b hb
     have hP:ORow w6 wo.heap.size ⟨some ⟨g6,0,none⟩,c6,r.vs++[⟨s5,y.vw.length,c5⟩]⟩ (x.take j++[y]):=by
      refine HRO5.out.push ⟨s5,y.vw.length,c5⟩ y ((v1.keep (Keep.of_below al (Nat.le_refl _))).mono (by omega) (by simp)) (fun a ha=>?_) v3 (fun a ha ha'=>?_) ?_ ?_
      ·obtain ⟨cs,f,e⟩:=v2 a ha
       exact ⟨cs,f,(ts _ (v1.blk ha).2).trans e⟩
      ·have h1:=v4 a ha'
       have h2:=(HRO.out.blk ha).2
       omega
      ·rw [HRL.out];exact ho6
      ·have e9:(Value.slice r.s j r.c).ownBlock=r.val.ownBlock:=by unfold RS.val;cases r.s<;>rfl
       rw [← e9];exact hg6
     have HP:Hid (ORow w6 wo.heap.size ⟨some ⟨g6,0,none⟩,c6,r.vs++[⟨s5,y.vw.length,c5⟩]⟩ (x.take (j+1))):=by show ORow _ _ _ _;rw [HTy.out];exact hP
     have HB6:Hid (Below wo.heap.size wo w6):=HBO.out.trans ((hb5.mono (by omega)).trans hb6)
     clear v1 v2 v3 v4 al ts hP p0 p1 p2 p3 t0 t1 t2 t3 hb5 hb6 ho5 hc5 ho6 hg6 hn6 hl6
     go_wp2
     go_roundw
     case rel=>exact ⟨j+1,_,by omega,by go_num,rfl,by simp [HRL.out],HP.out,HB6.out⟩
     case measure=>simp [intOf];omega
    ·have e9:j=x.length:=by omega
     subst e9
     have hro:=HRO.out
     rw [List.take_length] at hro
     have HR9:Hid (ORow wr wo.heap.size r x):=hro
     clear hro HRO
     have HOX:Hid (OW (wr.alloc (.cells #[.slice r.s x.length r.c] 125)) (w.heap.size+3) (.slice sv k cv) S (m.take k)):=(HO.out.below HBO.out).below ((Below.refl _ _).alloc (Nat.le_refl _) _)
     have HRX:Hid (ORow (wr.alloc (.cells #[.slice r.s x.length r.c] 125)) wo.heap.size r x):=HR9.out.below ((Below.refl _ _).alloc (Nat.le_refl _) _)
     go_wp2_with (at_builtin;refine app_rowW rfl _ _ rfl (wr.alloc (.cells #[.slice r.s x.length r.c] 125)) (w.heap.size+3) (.slice sv k cv) S.length (S.map RS.val) rfl HOX.out.row wr.heap.size (.slice r.s x.length r.c) rfl rfl (by simp [go_sem]) (by have:=HS.out;omega) (by simp;omega) ?_;intro g7 c7 w7 ho7 hg7 hn7 hl7;have hb7:Below (w.heap.size+3) wr w7:=((Below.refl _ _).alloc (by omega) _).trans (Below.grown (Below.refl _ _) hg7 (by simp;omega) (fun b hb=>(World.ownsRow.lt HOX.out.row b hb).1));have t1:=(hb7.cell (p:=⟨w.heap.size+1+1,0,none⟩) (show w.heap.size+1+1 < w.heap.size+3 by omega)).trans d2;have t2:=(hb7.frozen (p:=⟨w.heap.size+1+1,0,none⟩) (show w.heap.size+1+1 < w.heap.size+3 by omega)).trans (d3 0);have HO7:=(show Hid _ from ho7);have HG7:=(show Hid _ from hg7);have HB7:=(show Hid _ from hb7);clear ho7 hg7 hn7 hb7)
     all_goals
      have HP:=HO.out.push (w1:=wr.alloc (.cells #[.slice r.s x.length r.c] 125)) (w2:=w7) (g:=g7) (cap:=c7) r x (HBO.out.trans ((show Below wr.heap.size wr _ from (Below.refl _ _).alloc (Nat.le_refl _) _).mono (by omega))) HRX.out (by omega) (by have:=HO7.out;unfold RS.val;rw [HRL.out];exact this) HG7.out
      have HP1:Hid (OW w7 (w.heap.size+3) (.slice (some ⟨g7,0,none⟩) (S.length+1) c7) (S++[r]) (m.take (k+1))):=by
       show OW _ _ _ _ _
       rw [HT.out]
       have e:(S++[r]).length=S.length+1:=by simp
       rw [← e]
       exact HP
      have hz7:=HB7.out.size
      clear HP
      go_wp2
      go_roundw
      case rel=>
       refine ⟨k+1,.slice (some ⟨g7,0,none⟩) (S.length+1) c7,_,by omega,by go_num,by simp [HS.out],HP1.out.kept (fun b hb _=>Below.heap_setCell _ _ _ b (by show b≠w.heap.size+1+1;omega)) (by simp),?_,setC_at (by rw [t1];rfl),?_,fun j=>?_,fun j=>?_,by simp;omega,?_⟩
       ·rw [setC_blk (by omega),HB7.out.cell (p:=⟨w.heap.size,0,none⟩) (show w.heap.size < w.heap.size+3 by omega)];exact d0
       ·rw [setC_blk (by omega),HB7.out.cell (p:=⟨w.heap.size+1,0,none⟩) (show w.heap.size+1 < w.heap.size+3 by omega),HBO.out.cell (p:=⟨w.heap.size+1,0,none⟩) z1];exact HC1.out
       ·rw [World.frozen?_setCell,HB7.out.frozen (p:=⟨w.heap.size+1+1,j,none⟩) (show w.heap.size+1+1 < w.heap.size+3 by omega)];exact d3 j
       ·rw [World.frozen?_setCell,HB7.out.frozen (p:=⟨w.heap.size+1,j,none⟩) (show w.heap.size+1 < w.heap.size+3 by omega),HBO.out.frozen (p:=⟨w.heap.size+1,j,none⟩) z1];exact HF1.out j
       ·exact ((HB.out.trans (HBO.out.mono (by omega))).trans (HB7.out.mono (by omega))).setCell (p:=⟨w.heap.size+1+1,0,none⟩) (by show w.heap.size≤w.heap.size+1+1;omega) _
      case measure=>simp [intOf];omega
  ·have e9:k=m.length:=by omega
   subst e9
   obtain ⟨u1,c1'⟩:=Option.isSome_iff_exists.1 HC1.out
   have f1:=HF1.out
   go_wp2
   have ho:=HO.out
   rw [List.take_length] at ho
   refine bodyPost_ret (v:=.agg #[.slice sv m.length cv]) (by simp [results,Tryz.results51,go_sem,c1']) rfl ⟨_,S,rfl,?_,?_⟩
   ·exact (ho.kept (fun b h1 _=>Below.heap_setCell _ _ _ b (by show b≠w.heap.size+1;omega)) (by simp)).low (by omega)
   ·exact HB.out.setCell (p:=⟨w.heap.size+1,0,none⟩) (by show w.heap.size≤w.heap.size+1;omega) _
end
section
set_option linter.unusedSimpArgs false
set_option linter.unusedVariables false
set_option maxRecDepth 100000
open Go.RowKit
theorem mAs_join (b:List RS):∀ (a:List RS),mAs (a++b)=mAs a++mAs b
 | []=>by simp [mAs]
 | y::r=>by simp [mAs,mAs_join b r]
theorem mAs_cut {S:List RS} {j:Nat} {x:RS} (h:S[j]? =some x):mAs S=mAs (S.take j)++(rAs x.s x.vs 0++mAs (S.drop (j+1))):=by
 have hj:=(List.getElem?_eq_some_iff.1 h).1
 have e:S=S.take j++(x::S.drop (j+1)):=by
  rw [← (List.getElem?_eq_some_iff.1 h).2,← List.drop_eq_getElem_cons hj,List.take_append_drop]
 have h1:=mAs_join (x::S.drop (j+1)) (S.take j)
 rw [← e] at h1
 exact h1
theorem mAs_disj {S:List RS} (hd:(mAs S).Nodup) {i k:Nat} {r r':RS} (hi:S[i]? =some r) (hk:S[k]? =some r') (hlt:i < k):∀ a∈rAs r.s r.vs 0,a∉rAs r'.s r'.vs 0:=fun a ha ha'=>by
 have sp:=mAs_cut hk
 rw [sp] at hd
 have hm:a∈mAs (S.take k):=mem_mAs.2 ⟨r,List.mem_of_getElem? (i:=i) (by rw [List.getElem?_take,if_pos hlt];exact hi),ha⟩
 exact (List.nodup_append.1 hd).2.2 a hm a (List.mem_append_left _ ha') rfl
theorem OW.sepR {w : World} {B : Nat} {v : Value} {S : List RS} {m : List (List WD)} (h : OW w B v S m) (hne : ∀ (i : Nat) (r : RS), S[i]? = some r → 0 < r.vs.length) {i k : Nat} {r r' : RS} {l l' : List WD} (hi : S[i]? = some r) (hl : m[i]? = some l) (hk : S[k]? = some r') (hl' : m[k]? = some l') (hik : i ≠ k) {b : Nat} (hb : r'.val.ownBlock = some b) :
  (∀ k',r.val.ownBlock=some k'→k'≠b)∧∀ a∈vsA r.vs,a.block≠b:=by
 have q:=h.r i r l hi hl
 have q':=h.r k r' l' hk hl'
 refine ⟨fun k' e1 e=>?_,fun a ha=>q'.sepV hb (q.vt a ha)⟩
 subst e
 obtain ⟨g1,cap1,f1,-⟩:=World.ownsRow.form q.own (hne i r hi)
 obtain ⟨g2,cap2,f2,-⟩:=World.ownsRow.form q'.own (hne k r' hk)
 have s1:r.s=some ⟨g1,0,none⟩:=by unfold RS.val at f1;injection f1 with f1
 have s2:r'.s=some ⟨g2,0,none⟩:=by unfold RS.val at f2;injection f2 with f2
 have b1:g1=k':=by unfold RS.val at e1;rw [s1] at e1;injection e1
 have b2:g2=k':=by unfold RS.val at hb;rw [s2] at hb;injection hb
 have m1:(⟨k',0,none⟩:Addr)∈rAs r.s r.vs 0:=mem_rAs.2 (.inl ⟨0,hne i r hi,by rw [s1,b1];rfl⟩)
 have m2:(⟨k',0,none⟩:Addr)∈rAs r'.s r'.vs 0:=mem_rAs.2 (.inl ⟨0,hne k r' hk,by rw [s2,b2];rfl⟩)
 rcases Nat.lt_or_gt_of_ne hik with h1 | h1
 ·exact mAs_disj h.d hi hk h1 _ m1 m2
 ·exact mAs_disj h.d hk hi h1 _ m2 m1
theorem OW.setRow {w w1 w2 : World} {B gO cO g cap k : Nat} {S : List RS} {m : List (List WD)} {r : RS} {l : List WD} (x : VS) (y : WD) (h : OW w B (.slice (some ⟨gO, 0, none⟩) m.length cO) S m) (hb : Below w.heap.size w w1) (hB : B ≤ w.heap.size) (hne : ∀ (i : Nat) (r : RS), S[i]? = some r → 0 < r.vs.length)
  (hk:S[k]? =some r) (hl:m[k]? =some l) (hx:VO w1 w.heap.size w1.heap.size x y.vw) (hxt:∀ a∈vAs x,TyI w1 a.block) (hxd:(vAs x).Nodup)
  (h2:w2.ownsRow B 127 2 (.slice (some ⟨g,0,none⟩) (r.vs.length+1) cap) (r.vs.length+1) (flatV r.vs l++[.int .i64 y.v,.slice x.s x.n x.c])) (hg:w1.grownBy w2 r.val.ownBlock) (hn:r.val.ownBlock=some g∨w1.heap.size≤g):
  OW (w2.setCell ⟨gO,k,none⟩ (.slice (some ⟨g,0,none⟩) (r.vs.length+1) cap)) B (.slice (some ⟨gO,0,none⟩) m.length cO) (S.set k ⟨some ⟨g,0,none⟩,cap,r.vs++[x]⟩) (m.set k (l++[y])):=by
 have h1:=h.below hb
 have hkS:=(List.getElem?_eq_some_iff.1 hk).1
 have hkm:k < m.length:=by have:=h.n;omega
 have hn1:=h.n
 have q:=h1.r k r l hk hl
 have old:∀ a∈mAs S,a.block < w.heap.size:=fun a ha=>(h.om.blk ha).2
 have P:ORow w2 B ⟨some ⟨g,0,none⟩,cap,r.vs++[x]⟩ (l++[y]):=by
  refine q.push x y (hx.mono hB (Nat.le_refl _)) hxt hxd (fun a ha ha'=>?_) h2 hg
  have e1:=(hx.blk ha').1
  have e2:=old a (mem_mAs.2 ⟨r,List.mem_of_getElem? hk,by obtain ⟨x',hx',hax⟩:=mem_vsA.1 ha;exact mem_rAs.2 (.inr ⟨x',hx',hax⟩)⟩)
  omega
 obtain ⟨cO',ocs⟩:=rows_blkT h1.row (k:=gO) rfl
 have rb:∀ b,r.val.ownBlock=some b→b≠gO:=fun b e e'=>by
  subst e'
  obtain ⟨cs,c1⟩:=q.blkT e
  rw [c1] at ocs
  injection ocs with ocs
  injection ocs with _ ocs
  exact absurd ocs (by decide)
 have gOl:gO < w1.heap.size:=(World.ownsRow.lt h1.row gO rfl).2
 have ocs2:w2.heap[gO]? =w1.heap[gO]? :=hg.block _ gOl (fun e=>rb gO e.symm rfl)
 have kS:∀ b,b≠gO→(w2.setCell ⟨gO,k,none⟩ (.slice (some ⟨g,0,none⟩) (r.vs.length+1) cap)).heap[b]? =w2.heap[b]? :=fun b hb=>Below.heap_setCell _ _ _ b hb
 have fin:∀ (r':RS) (l':List WD),ORow w2 B r' l'→ORow (w2.setCell ⟨gO,k,none⟩ (.slice (some ⟨g,0,none⟩) (r.vs.length+1) cap)) B r' l':=fun r' l' p=>by
  refine p.kept (fun b e=>kS b (fun e'=>?_)) (fun a ha=>kS _ (fun e'=>?_)) (by simp)
  ·subst e'
   obtain ⟨cs,c1⟩:=p.blkT e
   rw [ocs2,ocs] at c1
   injection c1 with c1
   injection c1 with _ c1
   exact absurd c1 (by decide)
  ·obtain ⟨cs,f,c1⟩:=p.vt a ha
   rw [e',ocs2,ocs] at c1
   injection c1 with c1
   injection c1 with _ c1
   exact absurd c1 (by decide)
 have oth:∀ (i:Nat) (r1:RS) (l1:List WD),i≠k→S[i]? =some r1→m[i]? =some l1→ORow w2 B r1 l1:=fun i r1 l1 hik e1 e2=>by
  have p:=h1.r i r1 l1 e1 e2
  refine p.kept (fun b e=>hg.block _ (World.ownsRow.lt p.own _ e).2 (fun e'=>?_)) (fun a ha=>hg.block _ (p.blk ha).2 (fun e'=>?_)) hg.size
  ·exact (h1.sepR hne e1 e2 hk hl hik e'.symm).1 b e rfl
  ·exact (h1.sepR hne e1 e2 hk hl hik e'.symm).2 a ha rfl
 refine ⟨by simp [hn1],?_,fun i r1 l1 e1 e2=>?_,?_⟩
 ·have o2:w2.ownsRow B 125 1 (.slice (some ⟨gO,0,none⟩) m.length cO) m.length (S.map RS.val):=by
   have:=ownKeep' (w':=w2) h1.row (fun b e=>by have e9:some gO=some b:=e;injection e9 with e9;subst e9;exact ocs2)
   rw [hn1] at this
   exact this
  have p1:=(World.ownsRow.stored o2 k (.slice (some ⟨g,0,none⟩) (r.vs.length+1) cap)).1
  have e3:(S.map RS.val).set k (.slice (some ⟨g,0,none⟩) (r.vs.length+1) cap)=(S.set k ⟨some ⟨g,0,none⟩,cap,r.vs++[x]⟩).map RS.val:=by
   rw [List.map_set]
   simp [RS.val]
  rw [e3] at p1
  rw [List.length_set,hn1]
  exact p1
 ·by_cases hik:i=k
  ·subst hik
   rw [List.getElem?_set_self hkS] at e1
   rw [List.getElem?_set_self hkm] at e2
   injection e1 with e1
   injection e2 with e2
   subst e1 e2
   exact fin _ _ P
  ·rw [List.getElem?_set_ne (fun e=>hik e.symm)] at e1 e2
   exact fin _ _ (oth i r1 l1 hik e1 e2)
 ·have sp:=mAs_cut hk
  have d0:=h.d
  rw [sp] at d0
  obtain ⟨dA,dr,dAr⟩:=List.nodup_append.1 d0
  obtain ⟨drr,dB,drB⟩:=List.nodup_append.1 dr
  rw [List.set_eq_take_append_cons_drop,if_pos hkS,mAs_join]
  show (mAs (S.take k)++(rAs (some ⟨g,0,none⟩) (r.vs++[x]) 0++mAs (S.drop (k+1)))).Nodup
  -- an address of the new row is in no other row
  have key:∀ a∈rAs (some ⟨g,0,none⟩) (r.vs++[x]) 0,∀ (i:Nat) (r1:RS),i≠k→S[i]? =some r1→a∉rAs r1.s r1.vs 0:=fun a ha i r1 hik e1 ha1=>by
   have hil:i < m.length:=by have:=(List.getElem?_eq_some_iff.1 e1).1;omega
   have e2:m[i]? =some m[i]:=List.getElem?_eq_getElem hil
   have ao:=old a (mem_mAs.2 ⟨r1,List.mem_of_getElem? e1,ha1⟩)
   rcases mem_rAs.1 ha with ⟨j,hj,e⟩ | ⟨x',hx',hax⟩
   ·rcases hn with hn | hn
    ·have sr:=h1.sepR hne e1 e2 hk hl hik hn
     rcases mem_rAs.1 ha1 with ⟨j1,hj1,e3⟩ | ⟨x1,hx1,hax1⟩
     ·obtain ⟨g1,cap1,f1,-⟩:=World.ownsRow.form (h1.r i r1 _ e1 e2).own (hne i r1 e1)
      have s1:r1.s=some ⟨g1,0,none⟩:=by unfold RS.val at f1;injection f1 with f1
      have:=sr.1 g1 (by unfold RS.val;rw [s1];rfl)
      rw [s1] at e3
      rw [e3] at e
      injection e with e _ _
      exact this e
     ·exact sr.2 a (mem_vsA.2 ⟨x1,hx1,hax1⟩) (by rw [e];rfl)
    ·have:a.block=g:=by rw [e];rfl
     have:=hb.size
     omega
   ·rcases List.mem_append.1 hx' with hx' | hx'
    ·have m1:a∈rAs r.s r.vs 0:=mem_rAs.2 (.inr ⟨x',hx',hax⟩)
     rcases Nat.lt_or_gt_of_ne hik with h9 | h9
     ·exact mAs_disj h.d e1 hk h9 a ha1 m1
     ·exact mAs_disj h.d hk e1 h9 a m1 ha1
    ·simp at hx'
     subst hx'
     have:=(hx.blk hax).1
     omega
  refine List.nodup_append.2 ⟨dA,List.nodup_append.2 ⟨P.ro.d,dB,fun a ha b hb' e=>?_⟩,fun a ha b hb' e=>?_⟩
  ·subst e
   obtain ⟨r1,hr1,har⟩:=mem_mAs.1 hb'
   obtain ⟨i,hi',er⟩:=List.getElem_of_mem hr1
   rw [List.getElem_drop] at er
   exact key a ha (k+1+i) r1 (by omega) (by rw [List.getElem?_eq_getElem (by simp at hi';omega),er]) har
  ·subst e
   rcases List.mem_append.1 hb' with hb' | hb'
   ·obtain ⟨r1,hr1,har⟩:=mem_mAs.1 ha
    obtain ⟨i,hi',er⟩:=List.getElem_of_mem hr1
    rw [List.getElem_take] at er
    exact key a hb' i r1 (by simp at hi';omega) (by rw [List.getElem?_eq_getElem (by simp at hi';omega),er]) har
   ·exact dAr a ha a (List.mem_append_right _ hb') rfl
end
end Go.Proofs.YtepfpbcjklaenaaGreat
