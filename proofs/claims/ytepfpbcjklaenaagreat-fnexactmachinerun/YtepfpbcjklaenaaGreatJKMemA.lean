/- A step of memory of the specification, whichever. Condition: late is a number of 64 bits. -/
import Derived.Test.YtepfpbcjklaenaaGreatJG00
import Derived.Test.YtepfpbcjklaenaaGreatJG01
import Derived.Test.YtepfpbcjklaenaaGreatJG02
import Derived.Test.YtepfpbcjklaenaaGreatJG13
import Derived.Test.YtepfpbcjklaenaaGreatJG17
import Derived.Test.YtepfpbcjklaenaaGreatJG04
import Derived.Test.YtepfpbcjklaenaaGreatJKMem5a
import Derived.Test.YtepfpbcjklaenaaGreatJKMem5b
import Derived.Test.YtepfpbcjklaenaaGreatJKMem6a
import Derived.Test.YtepfpbcjklaenaaGreatJKMem6b
import Derived.Test.YtepfpbcjklaenaaGreatJKMem8
namespace Go.Proofs.YtepfpbcjklaenaaGreat
set_option linter.unusedSimpArgs false
set_option linter.unusedVariables false
set_option maxRecDepth 100000
open Go.RowKit
theorem l8Memory_any {Hq : Nat → Prop} (B : Nat) (vc vk vm vt : Value) (LC : List CV) (LK : List KV) (S : List RS) (d : MD) (who : Nat) (k : KD) (code : List I5) (s : I5) (late : Int) (w : World) (h : MQ w B Hq vc vk vm vt LC LK S d) (ha : At8 d who k code s) (hb : B ≤ w.heap.size) (hlate : late ≤ 9223372036854775807) (ho : 5 ≤ s.o ∧ s.o ≤ 8) :
  Calls Tryz.prog 57 #[.agg #[vc,vk,vm,vt],.agg #[.int .i64 who,.int .i64 late],.agg #[.int .i64 s.o,.int .i64 s.r,.int .i64 s.a,.int .i64 s.b,.int .i64 s.n]] w fun e w'=>MemP w B Hq vc vk vm vt LC LK S d who late k s e w':=by
 rcases (show s.o=5∨(s.o=6∨s.o=7)∨s.o=8 by omega) with e | e | e
 ·by_cases hav:0≤s.a
  ·exact mem5a B vc vk vm vt LC LK S d who k code s late w h ha hb hlate e hav
  ·exact mem5b B vc vk vm vt LC LK S d who k code s late w h ha hb hlate e hav
 ·by_cases hav:0≤s.a
  ·exact mem67a B vc vk vm vt LC LK S d who k code s late w h ha hb hlate e hav
  ·exact mem67b B vc vk vm vt LC LK S d who k code s late w h ha hb hlate e hav
 ·exact mem8 B vc vk vm vt LC LK S d who k code s late w h ha hb hlate e
end Go.Proofs.YtepfpbcjklaenaaGreat
