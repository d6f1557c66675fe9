/- The code that the program puts together is the code that the specification lists. No condition. -/
import Derived.Test.YthkpkdehicoikaaGreatE10Imp
import Derived.Test.YthkpkdehicoikaaGreatE10SpE
namespace Go.Proofs.YthkpkdehicoikaaGreat
set_option linter.unusedSimpArgs false
set_option linter.unusedVariables false
set_option maxRecDepth 100000
open Go.RowKit

theorem ad_w (f k : Int) : wrap64 (ad f k) = ad f k := by unfold ad wrap64; omega
theorem eq5 (r a b rm fr : Int) : togL fr [lockR b, askR b 3, faultR b, openR b rm, roundR, putR b a ++ (letR b ++ [⟨10, 0, 0, 0, -1⟩]), letR b ++ [⟨10, 0, 0, 0, 0⟩]] [lockR b, askR b 3, faultR b, openR b rm, roundR, putR b a ++ (letR b ++ [⟨10, 0, 0, 0, -1⟩]), letR b ++ [⟨10, 0, 0, 0, 0⟩]] = sendS5 r a b rm fr := by
  simp [togL, fixJ, isJ, toN, firstV, lockR, askR, faultR, openR, roundR, putR, letR, triedR, takenR, roundT, keepT, keepR, noneT, noneR, cameR, lockS, shutS, ad_ad, ad_w, sendS5]
theorem eq6 (r x b rm fr : Int) : togL fr [lockR b, takenR b r rm, roundT, keepT b x, noneT b r x 0, [⟨10, 0, 0, 0, 0⟩]] [lockR b, takenR b r rm, roundT, keepT b x, noneT b r x 0, [⟨10, 0, 0, 0, 0⟩]] = takeS6 r x b rm fr := by
  simp [togL, fixJ, isJ, toN, firstV, lockR, askR, faultR, openR, roundR, putR, letR, triedR, takenR, roundT, keepT, keepR, noneT, noneR, cameR, lockS, shutS, ad_ad, ad_w, takeS6]
theorem eq7 (r a b rm fr : Int) : togL fr [lockR b, askR b 3, faultR b, openR b rm, roundR, putR b a ++ (letR b ++ triedR r 1), letR b ++ triedR r 0] [lockR b, askR b 3, faultR b, openR b rm, roundR, putR b a ++ (letR b ++ triedR r 1), letR b ++ triedR r 0] = sendS7 r a b rm fr := by
  simp [togL, fixJ, isJ, toN, firstV, lockR, askR, faultR, openR, roundR, putR, letR, triedR, takenR, roundT, keepT, keepR, noneT, noneR, cameR, lockS, shutS, ad_ad, ad_w, sendS7]
theorem eq8 (r x b rm fr : Int) : togL fr [lockR b, takenR b r rm, roundT, keepT b x, noneT b r x 2, cameR r x 0 0] [lockR b, takenR b r rm, roundT, keepT b x, noneT b r x 2, cameR r x 0 0] = takeS8 r x b rm fr := by
  simp [togL, fixJ, isJ, toN, firstV, lockR, askR, faultR, openR, roundR, putR, letR, triedR, takenR, roundT, keepT, keepR, noneT, noneR, cameR, lockS, shutS, ad_ad, ad_w, takeS8]
theorem eq9 (b fr : Int) : togL fr [lockR b, askR b 3, faultR b, [⟨1, 7, 0, 0, 1⟩, ⟨6, 0, -1, 7, b + 3⟩] ++ letR b] [lockR b, askR b 3, faultR b, [⟨1, 7, 0, 0, 1⟩, ⟨6, 0, -1, 7, b + 3⟩] ++ letR b] = closeS b fr := by
  simp [togL, fixJ, isJ, toN, firstV, lockR, askR, faultR, openR, roundR, putR, letR, triedR, takenR, roundT, keepT, keepR, noneT, noneR, cameR, lockS, shutS, ad_ad, ad_w, closeS]

end Go.Proofs.YthkpkdehicoikaaGreat
