/- The plain side of chapter 1, kind by kind: a place is right just if what is not named is 0, the channels are so many, and what is named is right. No condition. -/
import Derived.Test.YtknffngbdakblaaGreatJG00
namespace Go.Proofs.YtknffngbdakblaaGreat
set_option linter.unusedSimpArgs false
set_option linter.unusedVariables false
set_option maxRecDepth 100000
namespace Plain
theorem insB_1 (r a b n pl ch:Int):insB 1 r a b n pl ch=(decide (a=0∧b=0)&&(chansB ch&&(regB r&&numB n))):=by
 rw [Bool.eq_iff_iff]
 simp [insB,chansB,regB,numB,oneB,areB,takesB]
 try omega
theorem insB_2 (r a b n pl ch:Int):insB 2 r a b n pl ch=(decide (n=0)&&(chansB ch&&(areB r a b))):=by
 rw [Bool.eq_iff_iff]
 simp [insB,chansB,regB,numB,oneB,areB,takesB]
 try omega
theorem insB_3 (r a b n pl ch:Int):insB 3 r a b n pl ch=(decide (n=0)&&(chansB ch&&(areB r a b))):=by
 rw [Bool.eq_iff_iff]
 simp [insB,chansB,regB,numB,oneB,areB,takesB]
 try omega
theorem insB_4 (r a b n pl ch:Int):insB 4 r a b n pl ch=(decide (n=0)&&(chansB ch&&(areB r a b))):=by
 rw [Bool.eq_iff_iff]
 simp [insB,chansB,regB,numB,oneB,areB,takesB]
 try omega
theorem insB_5 (r a b n pl ch:Int):insB 5 r a b n pl ch=(decide (r=0∧b=0)&&(chansB ch&&(regB a&&oneB n ch))):=by
 rw [Bool.eq_iff_iff]
 simp [insB,chansB,regB,numB,oneB,areB,takesB]
 try omega
theorem insB_6 (r a b n pl ch:Int):insB 6 r a b n pl ch=(decide (a=0)&&(chansB ch&&(takesB r b&&oneB n ch))):=by
 rw [Bool.eq_iff_iff]
 simp [insB,chansB,regB,numB,oneB,areB,takesB]
 try omega
theorem insB_7 (r a b n pl ch:Int):insB 7 r a b n pl ch=(decide (b=0)&&(chansB ch&&(regB r&&regB a&&oneB n ch))):=by
 rw [Bool.eq_iff_iff]
 simp [insB,chansB,regB,numB,oneB,areB,takesB]
 try omega
theorem insB_8 (r a b n pl ch:Int):insB 8 r a b n pl ch=(decide (a=0)&&(chansB ch&&(takesB r b&&oneB n ch))):=by
 rw [Bool.eq_iff_iff]
 simp [insB,chansB,regB,numB,oneB,areB,takesB]
 try omega
theorem insB_9 (r a b n pl ch:Int):insB 9 r a b n pl ch=(decide (r=0∧a=0∧b=0)&&(chansB ch&&(oneB n ch))):=by
 rw [Bool.eq_iff_iff]
 simp [insB,chansB,regB,numB,oneB,areB,takesB]
 try omega
theorem insB_10 (r a b n pl ch:Int):insB 10 r a b n pl ch=(decide (r=0∧b=0∧n=0)&&(chansB ch&&(regB a))):=by
 rw [Bool.eq_iff_iff]
 simp [insB,chansB,regB,numB,oneB,areB,takesB]
 try omega
theorem insB_11 (r a b n pl ch:Int):insB 11 r a b n pl ch=(decide (r=0∧a=0∧b=0)&&(chansB ch&&(oneB n pl))):=by
 rw [Bool.eq_iff_iff]
 simp [insB,chansB,regB,numB,oneB,areB,takesB]
 try omega
theorem insB_12 (r a b n pl ch:Int):insB 12 r a b n pl ch=(decide (r=0∧b=0)&&(chansB ch&&(regB a&&oneB n pl))):=by
 rw [Bool.eq_iff_iff]
 simp [insB,chansB,regB,numB,oneB,areB,takesB]
 try omega
theorem insB_13 (r a b n pl ch:Int):insB 13 r a b n pl ch=(decide (r=0∧a=0∧b=0∧n=0)&&(chansB ch&&(true))):=by
 rw [Bool.eq_iff_iff]
 simp [insB,chansB,regB,numB,oneB,areB,takesB]
 try omega
theorem insB_0 (op r a b n pl ch:Int) (h1:(op==1)=false) (h2:(op==2)=false) (h3:(op==3)=false) (h4:(op==4)=false) (h5:(op==5)=false) (h6:(op==6)=false) (h7:(op==7)=false) (h8:(op==8)=false) (h9:(op==9)=false) (h10:(op==10)=false) (h11:(op==11)=false) (h12:(op==12)=false) (h13:(op==13)=false):insB op r a b n pl ch=false:=by
 simp at h1 h2 h3 h4 h5 h6 h7 h8 h9 h10 h11 h12 h13
 simp [insB]
 omega
end Plain
end Go.Proofs.YtknffngbdakblaaGreat
