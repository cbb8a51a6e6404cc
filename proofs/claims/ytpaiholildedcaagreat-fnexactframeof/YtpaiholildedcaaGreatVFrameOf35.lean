/- Texts. -/
import Derived.Test.YtpaiholildedcaaGreatVFrameOf34
set_option linter.unusedSimpArgs false
set_option linter.unusedVariables false
set_option maxRecDepth 100000
set_option maxHeartbeats 32000000
namespace Go.Proofs.YtpaiholildedcaaGreat
open Go.RowKit
theorem frI_own {w:World}{B b n:Nat}{K A:Nat→Kp}(h:zX w B b n K A)(z x y:Int):frI n A z x y=frI n K z x y:=by
 rcases zJ2 n K z.toNat (x / 8) (y / 8) with h1 | ⟨i,hi,h1⟩
 ·unfold frI
  rw [h.nearK,h1];rfl
 ·unfold frI
  rw [h.nearK,h1]
  have hr:=h.ref hi
  have hI:(A i).I=(K i).I:=by
   obtain ⟨_,_,_,_,_,_,e,_⟩:=(h.2.2 i hi).2
   exact e
  simp only [Int.toNat_natCast]
  rw [hr.1,hr.2.1,hr.2.2,hI]
theorem zX.frmA {w:World}{B b n:Nat}{K A:Nat→Kp}(h:zX w B b n K A)(z x y wd ht now s:Int)(rn:Nat)(E:Nat→Req)(bad:Int):Go.Proofs.YtpaiholildedcaaGreat.frmA z x y wd ht now s n A rn E bad=Go.Proofs.YtpaiholildedcaaGreat.frmA z x y wd ht now s n K rn E bad:=by
 have e:frI n A z=frI n K z:=by funext u v;exact frI_own h z u v
 unfold Go.Proofs.YtpaiholildedcaaGreat.frmA
 rw [h.viewC,e]
theorem zPp (z x y wd ht now s:Int)(n:Nat)(A:Nat→Kp)(rn:Nat)(E:Nat→Req)(bad:Int):(frmA z x y wd ht now s n A rn E bad).length≤1048576:=by
 unfold frmA
 split
 ·rename_i h
  have hc:=xT (zBl h).1
  rw [zCy]
  have h1:wd.toNat≤8:=by omega
  have h2:ht.toNat≤8:=by omega
  have:=Nat.mul_le_mul h2 h1
  omega
 ·simp
theorem FnExactFrameOf_walk (z x y wd ht now s:Int)(a:Option Addr)(n cap:Nat)(K:Nat→Kp)(ra:Option Addr)(rn rc:Nat)(E:Nat→Req)(bad:Int)(w:World)(h:(zCf w a n K∧zAd n K)∧uQ w ra rn E∧rn≤rc∧rc≤maxLen) :
  Calls Tryz.prog 4 #[vwV z x y wd ht now s (.slice a n cap) (.slice ra rn rc) bad] w fun e w'=>e=.returned (.bool true)∧Bw w w' :=
 zBi (viewC z x y wd ht now s n K rn E bad) (frmA z x y wd ht now s n K rn E bad).length (nz (frmA z x y wd ht now s n K rn E bad)) z x y wd ht now s a n cap K ra rn rc E bad w h (zPp z x y wd ht now s n K rn E bad)
  (fun hS hn W b rb A hO=>by
   have:=zB8 z x y wd ht now s b n n A (some ⟨rb,0,none⟩) rn rn E bad W hO.1.ko (hO.1.small hS) (.inr ⟨rb,0,rfl,hO.2.1,hO.2.2⟩) hn
   rw [hO.1.viewC,hO.1.frmA] at this
   exact this)
  (fun hS hn W b rb A hO=>by
   have:=zCd z x y wd ht now s b n n A (some ⟨rb,0,none⟩) rn rn E bad W hO.1.ko (hO.1.small hS) hO.1.caps (Nat.le_refl _) (.inr ⟨rb,0,rfl,hO.2.1,hO.2.2⟩) hn (Nat.le_refl _)
   rw [hO.1.viewC,hO.1.frmA] at this
   exact this)
end Go.Proofs.YtpaiholildedcaaGreat
