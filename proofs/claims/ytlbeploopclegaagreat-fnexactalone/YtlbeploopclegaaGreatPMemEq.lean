/- How the laws hold two memories against each other. Conditions: they are counted. -/
import Derived.Test.YtlbeploopclegaaGreatPG00
import Derived.Test.YtlbeploopclegaaGreatPG01
import Derived.Deep.RegionWith
namespace Go.Proofs.YtlbeploopclegaaGreat
set_option linter.unusedSimpArgs false
set_option linter.unusedVariables false
set_option maxRecDepth 100000
open Go.RowKit
set_option maxHeartbeats 1000000 in
theorem eqWrite_alike (v : Int) (s s' : Option Addr) (l : List Int) (c c' lo hi lo' hi' : Nat) (w : World) (h : IntsR w lo hi s l) (h' : IntsR w lo' hi' s' l) (hB : hi ≤ w.heap.size) (hB' : hi' ≤ w.heap.size) (hl : l.length ≤ 1000000000) :
  Calls Tryz.prog 127 #[.agg #[.int .i64 v,.slice s l.length c],.agg #[.int .i64 v,.slice s' l.length c']] w fun e w'=>e=.returned (.bool true)∧Below w.heap.size w w':=by
 have HR:Hid (IntsR w lo hi s l):=h
 have HR':Hid (IntsR w lo' hi' s' l):=h'
 clear h h'
 have hd:(v !=v)=false:=by simp
 go_enter Tryz.func127,Tryz.ntmps127
 go_wp2_with fail
 refine (eqIntS_any s s' l l c c' _ ((HR.out.keep (Keep.of_below (((Below.refl w.heap.size w).alloc (Nat.le_refl _) _).alloc (by simp) _) hB)).ints (by simp;omega)) ((HR'.out.keep (Keep.of_below (((Below.refl w.heap.size w).alloc (Nat.le_refl _) _).alloc (by simp) _) hB')).ints (by simp;omega)) (by omega)).mono ?_
 rintro e w1 ⟨rfl,m1,rfl⟩
 rw [decide_eq_true (rfl:l=l)]
 go_wp2
 go_ret
 exact ⟨rfl,(((Below.refl w.heap.size w).alloc (Nat.le_refl _) _).alloc (by simp) _).trans ⟨rfl,rfl,rfl,Nat.le_refl _,fun _ _=>rfl⟩⟩
set_option maxHeartbeats 2000000 in
theorem eqWriteS_alike (s s' : Option Addr) (c c' lo hi lo' hi' : Nat) (l : List WD) (w : World) (h : WsR w lo hi s l) (h' : WsR w lo' hi' s' l) (hB : hi ≤ w.heap.size) (hB' : hi' ≤ w.heap.size) (hl : l.length + szV l ≤ 2000000) :
  Calls Tryz.prog 103 #[.slice s l.length c,.slice s' l.length c'] w fun e w'=>e=.returned (.bool true)∧Below w.heap.size w w':=by
 have H1:Hid (WsR w lo hi s l):=h
 have H2:Hid (WsR w lo' hi' s' l):=h'
 have Q3:Hid (∀ (i:Nat) (t:WD),l[i]? =some t→t.vw.length≤2000000):=fun i t ht=>by have:=szV_at l i t ht;omega
 have hl1:l.length≤2000000:=by omega
 clear h h' hl
 have hne:((l.length:Int) !=(l.length:Int))=false:=by simp
 go_enter Tryz.func103,Tryz.ntmps103
 go_wp2
 go_loopw [5] (fun i wr=>∃ k:Nat,k≤l.length∧i=.int .i64 k∧Below w.heap.size w wr) (fun i _=>l.length - (intOf i).toNat)
 case atStart=>exact ⟨0,Nat.zero_le _,rfl,Below.refl _ _⟩
 case round=>
  obtain ⟨k,hk,rfl,hb⟩:=hrel
  have HB:Hid (Below w.heap.size w wr):=hb
  have hsz:=hb.size
  clear hb
  by_cases hlt:k < l.length
  ·obtain ⟨t,ht⟩:∃ t,l[k]? =some t:=⟨_,List.getElem?_eq_getElem hlt⟩
   obtain ⟨g,off,s1,c1,hs,g1,g2,f0,f1,hin⟩:=(H1.out.keep (Keep.of_below HB.out hB)).at ht
   obtain ⟨g',off',s2,c2,hs',g1',g2',f0',f1',hin'⟩:=(H2.out.keep (Keep.of_below HB.out hB')).at ht
   subst hs
   subst hs'
   have hlen:=Q3.out k t ht
   obtain ⟨v,rg⟩:=t
   simp only at f0 f1 f0' f1' hin hin' hlen
   have HI1:Hid (IntsR wr lo hi s1 rg):=hin
   have HI2:Hid (IntsR wr lo' hi' s2 rg):=hin'
   clear hin hin' ht
   have b0:(0:Int)≤(k:Int):=by omega
   have b1:(k:Int) < (l.length:Int):=by omega
   go_wp2_with fail
   first | go_region_with (go_at_call 127;refine (eqWrite_alike v s1 s2 rg c1 c2 lo hi lo' hi' _ ?_ ?_ ?_ ?_ (by omega)).mono ?_;(exact HI1.out);(exact HI2.out);(first | omega | (simp;omega));(first | omega | (simp;omega));rintro e w1 ⟨rfl,hb1⟩) | fail
   all_goals
    have HB1:Hid (Below wr.heap.size wr w1):=⟨hb1.os,hb1.tape,hb1.output,hb1.size,hb1.block⟩
    clear hb1
    go_wp2
    go_roundw
    case rel=>exact ⟨k+1,by omega,by go_num,HB.out.trans (HB1.out.mono hsz)⟩
    case measure=>simp [intOf];omega
  ·go_wp2
   go_ret
   exact ⟨rfl,HB.out⟩
set_option maxHeartbeats 2000000 in
theorem eqWriteSS_alike (s s' : Option Addr) (c c' lo hi lo' hi' : Nat) (m : List (List WD)) (w : World) (h : MemR w lo hi s m) (h' : MemR w lo' hi' s' m) (hB : hi ≤ w.heap.size) (hB' : hi' ≤ w.heap.size) (hl : m.length + szR m ≤ 2000000) :
  Calls Tryz.prog 72 #[.slice s m.length c,.slice s' m.length c'] w fun e w'=>e=.returned (.bool true)∧Below w.heap.size w w':=by
 have H1:Hid (MemR w lo hi s m):=h
 have H2:Hid (MemR w lo' hi' s' m):=h'
 have Q3:Hid (∀ (i:Nat) (t:List WD),m[i]? =some t→t.length+szV t≤2000000):=fun i t ht=>by have:=szR_at m i t ht;omega
 have hl1:m.length≤2000000:=by omega
 clear h h' hl
 have hne:((m.length:Int) !=(m.length:Int))=false:=by simp
 go_enter Tryz.func72,Tryz.ntmps72
 go_wp2
 go_loopw [5] (fun i wr=>∃ k:Nat,k≤m.length∧i=.int .i64 k∧Below w.heap.size w wr) (fun i _=>m.length - (intOf i).toNat)
 case atStart=>exact ⟨0,Nat.zero_le _,rfl,Below.refl _ _⟩
 case round=>
  obtain ⟨k,hk,rfl,hb⟩:=hrel
  have HB:Hid (Below w.heap.size w wr):=hb
  have hsz:=hb.size
  clear hb
  by_cases hlt:k < m.length
  ·obtain ⟨t,ht⟩:∃ t,m[k]? =some t:=⟨_,List.getElem?_eq_getElem hlt⟩
   obtain ⟨g,off,s1,c1,hs,g1,g2,f0,hin⟩:=(H1.out.keep (Keep.of_below HB.out hB)).row ht
   obtain ⟨g',off',s2,c2,hs',g1',g2',f0',hin'⟩:=(H2.out.keep (Keep.of_below HB.out hB')).row ht
   subst hs
   subst hs'
   have hlen:=Q3.out k t ht
   have HI1:Hid (WsR wr lo hi s1 t):=hin
   have HI2:Hid (WsR wr lo' hi' s2 t):=hin'
   have HL:Hid (t.length+szV t≤2000000):=hlen
   clear hin hin' ht hlen
   have b0:(0:Int)≤(k:Int):=by omega
   have b1:(k:Int) < (m.length:Int):=by omega
   go_wp2_with fail
   first | go_region_with (go_at_call 103;refine (eqWriteS_alike s1 s2 c1 c2 lo hi lo' hi' t _ ?_ ?_ ?_ ?_ HL.out).mono ?_;(exact HI1.out);(exact HI2.out);(first | omega | (simp;omega));(first | omega | (simp;omega));rintro e w1 ⟨rfl,hb1⟩) | fail
   all_goals
    have HB1:Hid (Below wr.heap.size wr w1):=⟨hb1.os,hb1.tape,hb1.output,hb1.size,hb1.block⟩
    clear hb1
    go_wp2
    go_roundw
    case rel=>exact ⟨k+1,by omega,by go_num,HB.out.trans (HB1.out.mono hsz)⟩
    case measure=>simp [intOf];omega
  ·go_wp2
   go_ret
   exact ⟨rfl,HB.out⟩
set_option maxHeartbeats 1000000 in
theorem eqMemory_alike (s s' : Option Addr) (c c' lo hi lo' hi' : Nat) (m : List (List WD)) (w : World) (h : MemR w lo hi s m) (h' : MemR w lo' hi' s' m) (hB : hi ≤ w.heap.size) (hB' : hi' ≤ w.heap.size) (hl : m.length + szR m ≤ 2000000) :
  Calls Tryz.prog 35 #[.agg #[.slice s m.length c],.agg #[.slice s' m.length c']] w fun e w'=>e=.returned (.bool true)∧Below w.heap.size w w':=by
 have H1:Hid (MemR w lo hi s m):=h
 have H2:Hid (MemR w lo' hi' s' m):=h'
 have HL:Hid (m.length+szR m≤2000000):=hl
 clear h h' hl
 go_enter Tryz.func35,Tryz.ntmps35
 go_wp2_with fail
 have k1:Below w.heap.size w ((w.alloc (.cells #[.slice s m.length c] 35)).alloc (.cells #[.slice s' m.length c'] 35)):=((Below.refl w.heap.size w).alloc (Nat.le_refl _) _).alloc (by simp) _
 refine (eqWriteSS_alike s s' c c' lo hi lo' hi' m _ (H1.out.keep (Keep.of_below k1 hB)) (H2.out.keep (Keep.of_below k1 hB')) (by simp;omega) (by simp;omega) HL.out).mono ?_
 rintro e w1 ⟨rfl,hb1⟩
 go_wp2
 go_ret
 exact ⟨rfl,k1.trans (hb1.mono (by simp;omega))⟩
end Go.Proofs.YtlbeploopclegaaGreat
