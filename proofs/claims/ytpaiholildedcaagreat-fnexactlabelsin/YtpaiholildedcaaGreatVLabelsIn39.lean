/- Texts. -/
import Derived.Test.YtpaiholildedcaaGreatVLabelsIn38
set_option linter.unusedSimpArgs false
set_option linter.unusedVariables false
set_option maxRecDepth 100000
set_option maxHeartbeats 32000000
namespace Go.Proofs.YtpaiholildedcaaGreat
open Go.RowKit
theorem FnExactLabelsIn_walk (z x y wd ht now s:Int)(a:Option Addr)(n cap:Nat)(K:Nat→Kp)(ra:Option Addr)(rn rc:Nat)(E:Nat→Req)(bad:Int)(w:World)(h:(zDn w a n K∧zA5 n K)∧zAn w ra rn E∧rn≤rc∧rc≤maxLen) :
  Calls Tryz.prog 5 #[vwV z x y wd ht now s (.slice a n cap) (.slice ra rn rc) bad] w fun e w'=>e=.returned (.bool true)∧Bw w w' :=
 zBz (viewC z x y wd ht now s n K rn E bad) (lbvA z x y wd ht now s n K rn E bad).length (zp (lbvA z x y wd ht now s n K rn E bad)) z x y wd ht now s a n cap K ra rn rc E bad w h (zR0 z x y wd ht now s n K rn E bad)
  (fun hS hn W b rb A hO=>by
   have:=zCl z x y wd ht now s b n n A (some ⟨rb,0,none⟩) rn rn E bad W hO.1.ko (hO.1.small hS) (.inr ⟨rb,0,rfl,hO.2.1,hO.2.2⟩) hn
   rw [hO.1.viewC,hO.1.lbvA] at this
   exact this)
  (fun hS hn W b rb A hO=>by
   have:=zCs z x y wd ht now s b n n A (some ⟨rb,0,none⟩) rn rn E bad W hO.1.ko (hO.1.small hS) hO.1.caps (Nat.le_refl _) (.inr ⟨rb,0,rfl,hO.2.1,hO.2.2⟩) hn (Nat.le_refl _)
   rw [hO.1.viewC,hO.1.lbvA] at this
   exact this)
end Go.Proofs.YtpaiholildedcaaGreat
