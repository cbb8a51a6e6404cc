/- Texts. -/
import Derived.Test.YtpaiholildedcaaGreatVNewViewer3
import Derived.Test.YtpaiholildedcaaGreatVNewViewer2
import Derived.Shelf.Pu.Clone
set_option linter.unusedSimpArgs false
set_option linter.unusedVariables false
set_option maxRecDepth 100000
set_option maxHeartbeats 32000000
namespace Go.Proofs.YtpaiholildedcaaGreat
open Go.RowKit
def uQ (z:Int):Int:=if z=0 then 0 else if z=1 then 1 else if z=2 then 3 else 7
def zFo (z x y:Int):Bool:=xX z && (inB x 0 (uQ z) && inB y 0 (uQ z))
def zB5 (z x y:Int):Int:=if zFo z x y=true then 0 else 3
theorem zA9 (z x y:Int):(zB5 z x y=0∧zFo z x y=true)∨(zB5 z x y=3∧zFo z x y=false):=by
 unfold zB5
 cases h:zFo z x y <;> simp
theorem uF (z x y:Int)(w:World):Calls Tryz.prog 132 #[.agg #[.int .i64 z,.int .i64 x,.int .i64 y]] w fun e w'=>e=.returned (.int .i64 (zB5 z x y))∧Bw w w':=by
 cases h:xX z
 ·have hk:Hid (zB5 z x y=3):=by show _=_;simp [zB5,zFo,h]
  go_enter Tryz.func132,Tryz.ntmps132
  go_wp2_with (first | (go_at_call 176;refine (xD _ _).mono ?_;rintro e w' ⟨rfl,rfl⟩) | (go_at_call 62;refine (zR _ _ _ _).mono ?_;rintro e w' ⟨rfl,rfl⟩))
  go_ret
  exact ⟨zH hk.out.symm,Qb⟩
 ·have hk:Hid (zB5 z x y=if (inB x 0 (uQ z) && inB y 0 (uQ z))=true then 0 else 3):=by show _=_;simp [zB5,zFo,h]
  rcases xW h with rfl | rfl | rfl | rfl
  ·simp only [show uQ 0=0 from rfl] at hk
   cases hx:inB x 0 0 <;> cases hy:inB y 0 0
   all_goals
    rw [hx,hy] at hk
    go_enter Tryz.func132,Tryz.ntmps132
    go_wp2_with (first | (go_at_call 176;refine (xD _ _).mono ?_;rintro e w' ⟨rfl,rfl⟩) | (go_at_call 62;refine (zR _ _ _ _).mono ?_;rintro e w' ⟨rfl,rfl⟩))
    all_goals (go_ret;exact ⟨zH (by rw [hk.out];rfl),Qb⟩)
  ·simp only [show uQ 1=1 from rfl] at hk
   cases hx:inB x 0 1 <;> cases hy:inB y 0 1
   all_goals
    rw [hx,hy] at hk
    go_enter Tryz.func132,Tryz.ntmps132
    go_wp2_with (first | (go_at_call 176;refine (xD _ _).mono ?_;rintro e w' ⟨rfl,rfl⟩) | (go_at_call 62;refine (zR _ _ _ _).mono ?_;rintro e w' ⟨rfl,rfl⟩))
    all_goals (go_ret;exact ⟨zH (by rw [hk.out];rfl),Qb⟩)
  ·simp only [show uQ 2=3 from rfl] at hk
   cases hx:inB x 0 3 <;> cases hy:inB y 0 3
   all_goals
    rw [hx,hy] at hk
    go_enter Tryz.func132,Tryz.ntmps132
    go_wp2_with (first | (go_at_call 176;refine (xD _ _).mono ?_;rintro e w' ⟨rfl,rfl⟩) | (go_at_call 62;refine (zR _ _ _ _).mono ?_;rintro e w' ⟨rfl,rfl⟩))
    all_goals (go_ret;exact ⟨zH (by rw [hk.out];rfl),Qb⟩)
  ·simp only [show uQ 3=7 from rfl] at hk
   cases hx:inB x 0 7 <;> cases hy:inB y 0 7
   all_goals
    rw [hx,hy] at hk
    go_enter Tryz.func132,Tryz.ntmps132
    go_wp2_with (first | (go_at_call 176;refine (xD _ _).mono ?_;rintro e w' ⟨rfl,rfl⟩) | (go_at_call 62;refine (zR _ _ _ _).mono ?_;rintro e w' ⟨rfl,rfl⟩))
    all_goals (go_ret;exact ⟨zH (by rw [hk.out];rfl),Qb⟩)
theorem zCq (z x y:Int)(w:World):Calls Tryz.prog 113 #[.agg #[.int .i64 z,.int .i64 x,.int .i64 y]] w fun e w'=>e=.returned (.int .i64 (zB5 z x y))∧Bw w w':=by
 cases h:xX z
 ·have hk:Hid (zB5 z x y=3):=by show _=_;simp [zB5,zFo,h]
  go_enter Tryz.func113,Tryz.ntmps113
  go_wp2_with (first | (go_at_call 64;refine (xC _ _).mono ?_;rintro e w' ⟨rfl,rfl⟩) | (go_at_call 32;refine (yL _ _ _ _).mono ?_;rintro e w' ⟨rfl,rfl⟩))
  go_ret
  exact ⟨zH hk.out.symm,Qb⟩
 ·have hk:Hid (zB5 z x y=if (inB x 0 (uQ z) && inB y 0 (uQ z))=true then 0 else 3):=by show _=_;simp [zB5,zFo,h]
  rcases xW h with rfl | rfl | rfl | rfl
  ·simp only [show uQ 0=0 from rfl] at hk
   cases hx:inB x 0 0 <;> cases hy:inB y 0 0
   all_goals
    rw [hx,hy] at hk
    go_enter Tryz.func113,Tryz.ntmps113
    go_wp2_with (first | (go_at_call 64;refine (xC _ _).mono ?_;rintro e w' ⟨rfl,rfl⟩) | (go_at_call 32;refine (yL _ _ _ _).mono ?_;rintro e w' ⟨rfl,rfl⟩))
    all_goals (go_ret;exact ⟨zH (by rw [hk.out];rfl),Qb⟩)
  ·simp only [show uQ 1=1 from rfl] at hk
   cases hx:inB x 0 1 <;> cases hy:inB y 0 1
   all_goals
    rw [hx,hy] at hk
    go_enter Tryz.func113,Tryz.ntmps113
    go_wp2_with (first | (go_at_call 64;refine (xC _ _).mono ?_;rintro e w' ⟨rfl,rfl⟩) | (go_at_call 32;refine (yL _ _ _ _).mono ?_;rintro e w' ⟨rfl,rfl⟩))
    all_goals (go_ret;exact ⟨zH (by rw [hk.out];rfl),Qb⟩)
  ·simp only [show uQ 2=3 from rfl] at hk
   cases hx:inB x 0 3 <;> cases hy:inB y 0 3
   all_goals
    rw [hx,hy] at hk
    go_enter Tryz.func113,Tryz.ntmps113
    go_wp2_with (first | (go_at_call 64;refine (xC _ _).mono ?_;rintro e w' ⟨rfl,rfl⟩) | (go_at_call 32;refine (yL _ _ _ _).mono ?_;rintro e w' ⟨rfl,rfl⟩))
    all_goals (go_ret;exact ⟨zH (by rw [hk.out];rfl),Qb⟩)
  ·simp only [show uQ 3=7 from rfl] at hk
   cases hx:inB x 0 7 <;> cases hy:inB y 0 7
   all_goals
    rw [hx,hy] at hk
    go_enter Tryz.func113,Tryz.ntmps113
    go_wp2_with (first | (go_at_call 64;refine (xC _ _).mono ?_;rintro e w' ⟨rfl,rfl⟩) | (go_at_call 32;refine (yL _ _ _ _).mono ?_;rintro e w' ⟨rfl,rfl⟩))
    all_goals (go_ret;exact ⟨zH (by rw [hk.out];rfl),Qb⟩)
abbrev xK (z x y:Int):Value:=.agg #[.int .i64 z,.int .i64 x,.int .i64 y]
abbrev rrV (c z x y:Int):Value:=.agg #[.int .i64 c,.int .i64 z,.int .i64 x,.int .i64 y]
def atV (z x y:Int):Value:=if zAt z x y=true then rrV 0 z (x / 8) (y / 8) else rrV 3 0 0 0
theorem zH2 (z x y:Int)(w:World)(h:zAt z x y=true):Calls Tryz.prog 93 #[.int .i64 z,.int .i64 x,.int .i64 y] w fun e w'=>e=.returned (xK z (x / 8) (y / 8))∧Bw w w':=by
 obtain ⟨⟨x0,x1⟩,y0,y1⟩:=zEq h
 have hp:=(vQ (zAs h)).2
 clear h
 generalize zC6 z=u at *
 have dx:x.tdiv 8=x / 8:=Int.tdiv_eq_ediv_of_nonneg x0
 have dy:y.tdiv 8=y / 8:=Int.tdiv_eq_ediv_of_nonneg y0
 go_enter Tryz.func93,Tryz.ntmps93
 go_wp2
 exact bodyPost_ret (v:=xK z (x / 8) (y / 8)) (by simp [results,Tryz.results93,go_sem]) rfl ⟨rfl,Qb⟩
theorem there4r (V:World)(a b c d:Value)(t:TypeId):zC (V.alloc (.cells #[a,b,c,d] t)) V.heap.size 4:=fun o ho=>by
 have:o=0∨o=1∨o=2∨o=3:=by omega
 rcases this with rfl | rfl | rfl | rfl <;> exact ⟨⟨_,by simp [go_sem];rfl⟩,by simp [go_sem]⟩
theorem uV (V:World)(a b c:Value)(t:TypeId):zC (V.alloc (.cells #[a,b,c] t)) V.heap.size 3:=fun o ho=>by
 have:o=0∨o=1∨o=2:=by omega
 rcases this with rfl | rfl | rfl <;> exact ⟨⟨_,by simp [go_sem];rfl⟩,by simp [go_sem]⟩
theorem zDl (z x y:Int)(w:World):Calls Tryz.prog 174 #[.int .i64 z,.int .i64 x,.int .i64 y] w fun e w'=>e=.returned (atV z x y)∧Bw w w':=by
 go_enter Tryz.func174,Tryz.ntmps174
 go_wp2_with fail
 generalize hW:(w.alloc _:World)=W
 have HB0:Hid (Bw w W):=by show Below _ _ _;subst hW;exact Qb
 have HT:Hid (zC W w.heap.size 4):=by
  show zC _ _ _
  subst hW
  exact there4r w (.int .i64 0) (.int .i64 0) (.int .i64 0) (.int .i64 0) 230
 have hsz:w.heap.size<W.heap.size:=by subst hW;simp
 clear hW
 refine (vR _ _ _ _).mono ?_
 rintro e w1 ⟨rfl,hb1⟩
 have hT':=HT.out.below hb1
 have HT1:Hid (zC w1 w.heap.size 4):=hT'
 have t0:=hT'.cell 0 (by omega)
 have t1:=hT'.cell 1 (by omega)
 have t2:=hT'.cell 2 (by omega)
 have t3:=hT'.cell 3 (by omega)
 have f0:=(hT' 0 (by omega)).2
 have f1:=(hT' 1 (by omega)).2
 have f2:=(hT' 2 (by omega)).2
 have f3:=(hT' 3 (by omega)).2
 have HB1:Hid (Bw w w1):=zB HB0.out hb1
 have hsz1:w.heap.size<w1.heap.size:=Nat.lt_of_lt_of_le hsz hb1.size
 clear hb1 HT HB0 hT' hsz
 cases h:zAt z x y
 ·have hq:Hid (atV z x y=rrV 3 0 0 0):=by show _=_;simp [atV,h]
  go_wp2_with fail
  obtain ⟨q0,q1,q2,q3⟩:=zGy (a:=.int .i64 3) (b:=.int .i64 0) (c:=.int .i64 0) (d:=.int .i64 0) HT1.out
  refine bodyPost_ret (v:=rrV 3 0 0 0) (by simp [results,Tryz.results174,go_sem,q0,q1,q2,q3]) rfl ⟨by rw [hq.out],?_⟩
  have HB:=HB1.out
  exact Qb
 ·have hq:Hid (atV z x y=rrV 0 z (x / 8) (y / 8)):=by show _=_;simp [atV,h]
  obtain ⟨⟨x0,x1⟩,y0,y1⟩:=zEq h
  have hp:=(vQ (zAs h)).2
  clear h
  generalize zC6 z=u at *
  have dx:x.tdiv 8=x / 8:=Int.tdiv_eq_ediv_of_nonneg x0
  have dy:y.tdiv 8=y / 8:=Int.tdiv_eq_ediv_of_nonneg y0
  go_wp2_with fail
  obtain ⟨q0,q1,q2,q3⟩:=zGy (a:=.int .i64 0) (b:=.int .i64 z) (c:=.int .i64 (x / 8)) (d:=.int .i64 (y / 8)) HT1.out
  refine bodyPost_ret (v:=rrV 0 z (x / 8) (y / 8)) (by simp [results,Tryz.results174,go_sem,q0,q1,q2,q3]) rfl ⟨by rw [hq.out],?_⟩
  have HB:=HB1.out
  exact Qb
theorem zJl (z x y:Int)(w:World):Calls Tryz.prog 144 #[xK z x y] w fun e w'=>e=.returned (xK z x y)∧Bw w w':=by
 go_enter Tryz.func144,Tryz.ntmps144
 go_wp2
 exact bodyPost_ret (v:=xK z x y) (by simp [results,Tryz.results144,go_sem]) rfl ⟨rfl,Qb⟩
theorem zCw (z x y:Int)(w:World):Calls Tryz.prog 85 #[xK z x y,xK z x y] w fun e w'=>e=.returned (.bool true)∧Bw w w':=by
 go_enter Tryz.func85,Tryz.ntmps85
 go_wp2
 go_ret
 exact ⟨rfl,Qb⟩
def letB (c:Int):Bool:=decide (97≤c) && decide (c≤122)
def sizeB (ki:Int)(n:Int):Bool:=if ki=1 then decide (n=1) else if ki=2 then inB n 2 12 else inB n 3 12

def byteI (s:ByteArray)(i:Nat):Int:=if h:i<s.size then ((s[i]'h).toNat:Int) else 0
def allLet (s:ByteArray):Bool:=decide (∀ i,i<s.size→letB (byteI s i)=true)
def labB (s:ByteArray):Bool:=decide (s.size≤6) && allLet s
def zC5 (w:World)(p o:Nat)(id la ki wi:Int)(pts:Value)(lab:ByteArray)(pr:Int):Prop :=
 w.cell? ⟨p,o,none⟩=some (.int .i64 id)∧w.cell? ⟨p,o+1,none⟩=some (.int .i64 la)∧w.cell? ⟨p,o+2,none⟩=some (.int .i64 ki)∧w.cell? ⟨p,o+3,none⟩=some (.int .i64 wi) ∧
 w.cell? ⟨p,o+4,none⟩=some pts∧w.cell? ⟨p,o+5,none⟩=some (.string lab)∧w.cell? ⟨p,o+6,none⟩=some (.int .i64 pr)
theorem zC5.below {w w':World}{p o B:Nat}{id la ki wi pr:Int}{pts:Value}{lab:ByteArray}(h:zC5 w p o id la ki wi pts lab pr)(hb:Below B w w')(hp:p<B):zC5 w' p o id la ki wi pts lab pr:=by
 obtain ⟨h0,h1,h2,h3,h4,h5,h6⟩:=h
 refine ⟨(hb.cell (p:=⟨p,o,none⟩) hp).trans h0,(hb.cell (p:=⟨p,o+1,none⟩) hp).trans h1,(hb.cell (p:=⟨p,o+2,none⟩) hp).trans h2,(hb.cell (p:=⟨p,o+3,none⟩) hp).trans h3,(hb.cell (p:=⟨p,o+4,none⟩) hp).trans h4,(hb.cell (p:=⟨p,o+5,none⟩) hp).trans h5,(hb.cell (p:=⟨p,o+6,none⟩) hp).trans h6⟩
def ptsIn (n:Nat)(X Y:Nat→Int):Bool:=decide (∀ i,i<n→inW (X i) (Y i)=true)
def rngB (id la ki wi pr:Int):Bool:=inB id 1 999 && (inB la 0 9 && (inB ki 1 3 && (inB wi 0 3 && inB pr 0 9)))
def featC (id la ki wi:Int)(n:Nat)(X Y:Nat→Int)(lab:ByteArray)(pr:Int):Int :=
 if rngB id la ki wi pr=true then (if sizeB ki n=true then (if ptsIn n X Y=true then (if labB lab=true then 0 else 5) else 3) else 2) else 3

theorem yW.store {W:World}{b off n:Nat}{X Y:Nat→Int}(h:yW W b off n X Y){r o:Nat}{v:Value}(hne:r≠b):yW (W.setCell ⟨r,o,none⟩ v) b off n X Y:=fun i hi=>by
 obtain ⟨h1,h2⟩:=h i hi
 refine ⟨?_,?_⟩
 ·rw [World.cell?_setCell_other]
  ·exact h1
  ·simp [hne]
 ·rw [World.cell?_setCell_other]
  ·exact h2
  ·simp [hne]
theorem zC.store {W:World}{b n:Nat}(h:zC W b n){r o:Nat}{v:Value}(hne:r≠b):zC (W.setCell ⟨r,o,none⟩ v) b n:=fun i hi=>by
 obtain ⟨u,hu⟩:=(h i hi).1
 refine ⟨⟨u,?_⟩,by rw [World.frozen?_setCell];exact (h i hi).2⟩
 rw [World.cell?_setCell_other]
 ·exact hu
 ·simp [hne]
structure xG where
 id:Int
 la:Int
 ki:Int
 wi:Int
 a:Option Addr
 n:Nat
 cap:Nat
 X:Nat→Int
 Y:Nat→Int
 lab:ByteArray
 pr:Int
def zJh (w:World)(b off n:Nat)(F:Nat→xG):Prop :=
 ∀ i,i<n→zC5 w b (off+i * 7) (F i).id (F i).la (F i).ki (F i).wi (.slice (F i).a (F i).n (F i).cap) (F i).lab (F i).pr∧zA4 w (F i).a (F i).n (F i).X (F i).Y
theorem zJh.below {w w':World}{b off n:Nat}{F:Nat→xG}(h:zJh w b off n F)(hb:Below w.heap.size w w')(hl:b<w.heap.size):zJh w' b off n F:=fun i hi =>
 ⟨(h i hi).1.below hb hl,(h i hi).2.below hb⟩
def zIb (w:World)(a:Option Addr)(n:Nat)(F:Nat→xG):Prop:=n=0∨∃ b off,a=some ⟨b,off,none⟩∧b<w.heap.size∧zJh w b off n F
theorem zIb.below {w w':World}{a:Option Addr}{n:Nat}{F:Nat→xG}(h:zIb w a n F)(hb:Below w.heap.size w w'):zIb w' a n F:=by
 rcases h with h | ⟨b,off,e,hl,hp⟩
 ·exact .inl h
 ·exact .inr ⟨b,off,e,Nat.lt_of_lt_of_le hl hb.size,hp.below hb hl⟩
def xG.same (f g:xG):Prop:=f.id=g.id∧f.la=g.la∧f.ki=g.ki∧f.wi=g.wi∧f.n=g.n∧f.X=g.X∧f.Y=g.Y∧f.lab=g.lab∧f.pr=g.pr
theorem zKh:(Tryz.prog.info? 209).map (fun i=>(i.zero,i.size,i.bytes))=some (some (.agg #[.int .i64 0,.int .i64 0,.int .i64 0,.int .i64 0,.slice none 0 0,.string ⟨#[]⟩,.int .i64 0]),7,80):=by kernel_rfl
def vX (n:Nat)(F:Nat→xG):Prop:=n≤1048576∧∀ i,i<n→(F i).n≤1048576∧(F i).lab.size≤1048576
noncomputable def codeAt (G:Nat→xG)(i:Nat):Int:=by
 classical exact if featC (G i).id (G i).la (G i).ki (G i).wi (G i).n (G i).X (G i).Y (G i).lab (G i).pr≠0 then featC (G i).id (G i).la (G i).ki (G i).wi (G i).n (G i).X (G i).Y (G i).lab (G i).pr else if ∃ j,j<i∧(G j).id=(G i).id then 6 else 0
noncomputable def zMf (n:Nat)(G:Nat→xG):Int:=if 12<n then 2 else uB (codeAt G) 0 n
def xZ (l:List (Int × Int)):List Value:=l.flatMap fun p=>[.int .i64 p.1,.int .i64 p.2]
def px (l:List (Int × Int))(i:Nat):Int:=(l.getD i (0,0)).1
def py (l:List (Int × Int))(i:Nat):Int:=(l.getD i (0,0)).2
theorem zAf (p:Int × Int)(l:List (Int × Int)):xZ (p :: l)=.int .i64 p.1 :: .int .i64 p.2 :: xZ l:=by simp [xZ]
theorem vN:∀ l:List (Int × Int),(xZ l).length=l.length * 2
 | []=>rfl
 | p :: l=>by rw [zAf];simp [vN l];omega
theorem zC1:∀ (l:List (Int × Int)) (i:Nat),i<l.length→(xZ l)[i * 2]?=some (.int .i64 (px l i))∧(xZ l)[i * 2+1]?=some (.int .i64 (py l i))
 | [],i,h=>absurd h (by simp)
 | p :: l,0,h=>by rw [zAf];simp [px,py]
 | p :: l,i+1,h=>by
  obtain ⟨h1,h2⟩:=zC1 l i (by simpa using h)
  rw [zAf]
  have e1:(i+1) * 2=i * 2+1+1:=by omega
  rw [e1]
  simp only [List.getElem?_cons_succ]
  exact ⟨h1,h2⟩
def Own (w:World)(base:Nat)(v:Value)(n:Nat)(X Y:Nat→Int):Prop :=
 ∃ a cap,v=.slice a n cap∧n≤cap∧(n=0∨∃ b,a=some ⟨b,0,none⟩∧base≤b∧b<w.heap.size∧yW w b 0 n X Y∧zC w b (n * 2))
def Row (base:Nat)(w:World)(v:Value)(l:List (Int × Int)):Prop:=w.ownsRow base 215 2 v l.length (xZ l)
theorem Row.own {base:Nat}{w:World}{v:Value}{l:List (Int × Int)}(h:Row base w v l):Own w base v l.length (px l) (py l):=by
 obtain ⟨h1,h2 | ⟨g,cp,cur,hv,hg,hh,hkc,hcm,hcs,htk⟩⟩:=h
 ·obtain ⟨rfl,h0⟩:=h2
  rw [h0]
  exact ⟨none,0,rfl,Nat.le_refl _,.inl rfl⟩
 ·have hgl:g<w.heap.size:=by
   rcases Nat.lt_or_ge g w.heap.size with h' | h'
   ·exact h'
   ·rw [Array.getElem?_eq_none h'] at hh;cases hh
  have hrow:w.ownsRow base 215 2 (.slice (some ⟨g,0,none⟩) l.length cp) l.length (xZ l):=⟨h1,.inr ⟨g,cp,cur,rfl,hg,hh,hkc,hcm,hcs,htk⟩⟩
  refine ⟨some ⟨g,0,none⟩,cp,hv,hkc,.inr ⟨g,rfl,hg,hgl,fun i hi=>?_,fun o ho=>⟨?_,hrow.frozenAt o⟩⟩⟩
  ·obtain ⟨e1,e2⟩:=zC1 l i hi
   simp only [Nat.zero_add]
   exact ⟨(hrow.cellAt _ (by omega)).trans e1,(hrow.cellAt _ (by omega)).trans e2⟩
  ·rw [hrow.cellAt o ho]
   have hlt:o<(xZ l).length:=by rw [vN];exact ho
   exact ⟨(xZ l)[o],List.getElem?_eq_getElem hlt⟩
theorem Row.below {base:Nat}{w w':World}{v:Value}{l:List (Int × Int)}(h:Row base w v l)(hb:Below w.heap.size w w'):Row base w' v l:=by
 obtain ⟨h1,h2 | ⟨g,cp,cur,hv,hg,hh,hr⟩⟩:=h
 ·exact ⟨h1,.inl h2⟩
 ·refine ⟨h1,.inr ⟨g,cp,cur,hv,hg,?_,hr⟩⟩
  have hgl:g<w.heap.size:=by
   rcases Nat.lt_or_ge g w.heap.size with h' | h'
   ·exact h'
   ·rw [Array.getElem?_eq_none h'] at hh;cases hh
  rw [hb.block g hgl]
  exact hh
theorem uO (w:World)(r:Option Nat):w.grownBy w r:=⟨rfl,rfl,rfl,Nat.le_refl _,fun _ _ _=>rfl⟩
theorem zAe {a b c:World}{r:Option Nat}(h:a.grownBy b r)(k:b.grownBy c r):a.grownBy c r :=
 ⟨k.os.trans h.os,k.tape.trans h.tape,k.output.trans h.output,Nat.le_trans h.size k.size,fun j hj hs=>(k.block j (Nat.lt_of_lt_of_le hj h.size) hs).trans (h.block j hj hs)⟩
theorem uJ {a b:World}{s:Nat}(h:a.grownBy b (some s))(o:Nat)(v:Value):a.grownBy (b.setCell ⟨s,o,none⟩ v) (some s) :=
 zAe h ⟨rfl,rfl,rfl,by simp [World.setCell],fun j _ hs=>Below.heap_setCell _ _ _ _ (fun e=>hs (by simp [e]))⟩
theorem xE {B s:Nat}{a b:World}(h:a.grownBy b (some s))(hB:B≤s)(hl:B≤a.heap.size):Below B a b :=
 ⟨h.os,h.tape,h.output,h.size,fun k hk=>h.block k (by omega) (fun e=>by injection e with e;omega)⟩
theorem zKo (a a':Option Addr)(n cap cap':Nat)(X Y:Nat→Int)(w:World)(hp:zA4 w a n X Y)(hq:zA4 w a' n X Y)(hmax:n≤1048576) :
  Calls Tryz.prog 289 #[.slice a n cap,.slice a' n cap'] w fun e w'=>e=.returned (.bool true)∧Bw w w':=by
 have HP:Hid (zA4 w a n X Y):=hp
 have HQ:Hid (zA4 w a' n X Y):=hq
 clear hp hq
 go_enter Tryz.func289,Tryz.ntmps289
 go_wp2
 go_loopw [5] (fun i wr=>∃ k:Nat,k≤n∧i=.int .i64 k∧Bw w wr) (fun i _=>n - (intOf i).toNat)
 case atStart=>exact ⟨0,by omega,rfl,Below.refl _ _⟩
 case round =>
  obtain ⟨k,hk,rfl,hB⟩:=hrel
  by_cases hlt:k<n
  ·rcases HP.out with h0 | ⟨b,off,rfl,hb,hpt⟩
   ·omega
   rcases HQ.out with h0 | ⟨d,off',rfl,hd,hqt⟩
   ·omega
   have c0:∀ W',Bw wr W'→W'.cell? ⟨b,off+k * 2,none⟩=some (.int .i64 (X k)):=fun W' h =>
    ((hpt.below hB hb).below h (Nat.lt_of_lt_of_le hb hB.size) k hlt).1
   have c1:∀ W',Bw wr W'→W'.cell? ⟨b,off+k * 2+1,none⟩=some (.int .i64 (Y k)):=fun W' h =>
    ((hpt.below hB hb).below h (Nat.lt_of_lt_of_le hb hB.size) k hlt).2
   have e0:∀ W',Bw wr W'→W'.cell? ⟨d,off'+k * 2,none⟩=some (.int .i64 (X k)):=fun W' h =>
    ((hqt.below hB hd).below h (Nat.lt_of_lt_of_le hd hB.size) k hlt).1
   have e1:∀ W',Bw wr W'→W'.cell? ⟨d,off'+k * 2+1,none⟩=some (.int .i64 (Y k)):=fun W' h =>
    ((hqt.below hB hd).below h (Nat.lt_of_lt_of_le hd hB.size) k hlt).2
   have HB:Hid (Bw w wr):=hB
   clear hB hpt hqt
   have hi:(k:Int)<(n:Int):=by omega
   have hi0:(0:Int)≤(k:Int):=by omega
   go_wp2
   go_region_held3 (fun W'=>Bw wr W') ((repeat (first|exact Qr _ _|assumption|refine Qd ?_|refine Qa ?_ _|refine Qt ?_|refine Qs ?_ _|refine Qo ?_ ?_ _ _)))
    (first
     | (go_at_call 299;refine (zHg _ _ _).mono ?_;rintro e w' ⟨rfl,hb⟩))
   go_wp2
   go_roundw
   case rel=>exact ⟨k+1,by omega,by go_num,zB HB.out (by assumption)⟩
   case measure=>simp [intOf];omega
  ·go_wp2
   go_ret
   exact ⟨rfl,hB⟩
def mkX (k i:Nat):Int:=((k+2 * i:Nat):Int)
def mkY (k i:Nat):Int:=((k+2 * i+1:Nat):Int)
theorem zDh (b n cap k0:Nat)(w:World)(hT:zC w b (n * 2))(hb:b<w.heap.size)(hmax:n≤1048576)(hk0:k0≤6000000000000000000) :
  Calls Tryz.prog 193 #[.slice (some ⟨b,0,none⟩) n cap,.int .i64 (k0:Int)] w fun e w'=>e=.returned (.int .i64 ((k0+2 * n:Nat):Int))∧w.grownBy w' (some b)∧zC w' b (n * 2)∧yW w' b 0 n (mkX k0) (mkY k0):=by
 have HT0:Hid (zC w b (n * 2)):=hT
 clear hT
 go_enter Tryz.func193,Tryz.ntmps193
 go_wp2_with fail
 go_loopw [1,5] (fun kk i wr=>∃ j K:Nat,j≤n∧Hid (K=k0+2 * j)∧kk=.int .i64 (K:Int)∧i=.int .i64 (j:Int)∧w.grownBy wr (some b)∧zC wr b (n * 2)∧yW wr b 0 j (mkX k0) (mkY k0)) (fun _ i _=>n - (intOf i).toNat)
 case atStart=>exact ⟨0,k0,by omega,rfl,rfl,rfl,uO _ _,HT0.out,fun i hi=>by omega⟩
 case round =>
  obtain ⟨j,K,hj,HK,rfl,rfl,hG,hT,hP⟩:=hrel
  by_cases hlt:j<n
  ·have hKb:K≤6000000000002097152:=by have:=HK.out;omega
   have t0:=hT.cell (j * 2) (by omega)
   have t1:=hT.cell (j * 2+1) (by omega)
   have f0:=(hT (j * 2) (by omega)).2
   have f1:=(hT (j * 2+1) (by omega)).2
   have HT:Hid (zC wr b (n * 2)):=hT
   have HG:Hid (w.grownBy wr (some b)):=hG
   have HP:Hid (yW wr b 0 j (mkX k0) (mkY k0)):=hP
   clear hT hG hP
   have hi:(j:Int)<(n:Int):=by omega
   go_wp2
   go_roundw
   case rel =>
    have hx:mkX k0 j=(K:Int):=by have:=HK.out;simp [mkX];omega
    have hy:mkY k0 j=(K:Int)+1:=by have:=HK.out;simp [mkY];omega
    have hfs:=zKm (X:=mkX k0) (Y:=mkY k0) HT.out hlt HP.out
    rw [hx,hy] at hfs
    exact ⟨j+1,K+2,by omega,by have:=HK.out;show _=_;omega,by go_num,by go_num,uJ (uJ HG.out _ _) _ _,(HT.out.set _ _).set _ _,hfs⟩
   case measure=>simp [intOf];omega
  ·go_wp2
   go_ret
   have hjn:j=n:=by omega
   subst hjn
   exact ⟨zH (by have:=HK.out;omega),hG,hT,hP⟩
theorem zDm (b n cap k0:Nat)(w:World)(hp:yW w b 0 n (mkX k0) (mkY k0))(hb:b<w.heap.size)(hmax:n≤1048576)(hk0:k0≤6000000000000000000) :
  Calls Tryz.prog 218 #[.slice (some ⟨b,0,none⟩) n cap,.int .i64 (k0:Int)] w fun e w'=>e=.returned (.int .i64 ((k0+2 * n:Nat):Int))∧Bw w w':=by
 have HP:Hid (yW w b 0 n (mkX k0) (mkY k0)):=hp
 clear hp
 go_enter Tryz.func218,Tryz.ntmps218
 go_wp2_with fail
 go_loopw [1,5] (fun kk i wr=>∃ j K:Nat,j≤n∧Hid (K=k0+2 * j)∧kk=.int .i64 (K:Int)∧i=.int .i64 (j:Int)∧Bw w wr) (fun _ i _=>n - (intOf i).toNat)
 case atStart=>exact ⟨0,k0,by omega,rfl,rfl,rfl,Below.refl _ _⟩
 case round =>
  obtain ⟨j,K,hj,HK,rfl,rfl,hB⟩:=hrel
  by_cases hlt:j<n
  ·have hKb:K≤6000000000002097152:=by have:=HK.out;omega
   have hx:mkX k0 j=(K:Int):=by have:=HK.out;simp [mkX];omega
   have hy:mkY k0 j=(K:Int)+1:=by have:=HK.out;simp [mkY];omega
   obtain ⟨t0,t1⟩:=(HP.out.below hB hb) j hlt
   rw [hx] at t0
   rw [hy] at t1
   simp only [Nat.zero_add] at t0 t1
   have HB:Hid (Bw w wr):=hB
   clear hB hx hy
   have hi:(j:Int)<(n:Int):=by omega
   go_wp2
   go_roundw
   case rel=>exact ⟨j+1,K+2,by omega,by have:=HK.out;show _=_;omega,by go_num,by go_num,HB.out⟩
   case measure=>simp [intOf];omega
  ·go_wp2
   go_ret
   have hjn:j=n:=by omega
   subst hjn
   exact ⟨zH (by have:=HK.out;omega),hB⟩
def yT (X Y:Nat→Int)(l:List Nat):List (Int × Int):=l.map fun i=>(X i,Y i)
theorem vT {w:World}{base size n:Nat}{e:TypeId}{v:Value}{xs:List Value}(h:w.ownsRow base e size v n xs):∀ g,v.ownBlock=some g→∃ cur,w.heap[g]?=some (.cells cur e (0,0)):=fun g hg=>by
 obtain ⟨_,h2 | ⟨g',cp,cur,rfl,_,hh,_⟩⟩:=h
 ·rw [h2.1] at hg;cases hg
 ·simp [Value.ownBlock] at hg
  subst hg
  exact ⟨cur,hh⟩
theorem zC.belowB' {W W':World}{r n B:Nat}(h:zC W r n)(hb:Below B W W')(hr:r<B):zC W' r n:=fun o ho=>by
 obtain ⟨u,hu⟩:=(h o ho).1
 exact ⟨⟨u,(hb.cell (p:=⟨r,o,none⟩) hr).trans hu⟩,(hb.frozen (p:=⟨r,o,none⟩) hr).trans (h o ho).2⟩
theorem zBb {w:World}{k:Nat}{o:Obj}(h:w.heap[k]?=some o):k<w.heap.size:=by
 rcases Nat.lt_or_ge k w.heap.size with h' | h'
 ·exact h'
 ·rw [Array.getElem?_eq_none h'] at h;cases h
theorem yH {w w':World}{p:Addr}{v:Value}(hb:Below w.heap.size w w')(h:w.cell? p=some v):w'.cell? p=some v:=(hb.cell (World.block_lt_of_cell? _ _ h)).trans h
theorem yF {w w':World}{b o s:Nat}{v:Value}(hg:w.grownBy w' (some s))(h:w.cell? ⟨b,o,none⟩=some v)(hs:b≠s):w'.cell? ⟨b,o,none⟩=some v:=hg.cell h (fun e=>hs (by injection e))
theorem zDr (id la ki wi:Int)(a a':Option Addr)(n cap cap':Nat)(X Y:Nat→Int)(lab:ByteArray)(pr:Int)(w:World)(hp:zA4 w a n X Y)(hq:zA4 w a' n X Y)(hmax:n≤1048576) :
  Calls Tryz.prog 261 #[.agg #[.int .i64 id,.int .i64 la,.int .i64 ki,.int .i64 wi,.slice a n cap,.string lab,.int .i64 pr],.agg #[.int .i64 id,.int .i64 la,.int .i64 ki,.int .i64 wi,.slice a' n cap',.string lab,.int .i64 pr]] w fun e w'=>e=.returned (.bool true)∧Bw w w':=by
 have HP:Hid (zA4 w a n X Y):=hp
 have HQ:Hid (zA4 w a' n X Y):=hq
 clear hp hq
 go_enter Tryz.func261,Tryz.ntmps261
 go_wp2_with fail
 generalize hW:((w.alloc _).alloc _:World)=W
 have hB0:Bw w W:=by subst hW;exact Qb
 have hsz:W.heap.size=w.heap.size+1+1:=by subst hW;simp
 have c5:W.cell? ⟨w.heap.size,5,none⟩=some (.string lab):=by subst hW;simp [go_sem]
 have c6:W.cell? ⟨w.heap.size,6,none⟩=some (.int .i64 pr):=by subst hW;simp [go_sem]
 have o5:W.cell? ⟨w.heap.size+1,5,none⟩=some (.string lab):=by subst hW;simp [go_sem]
 have o6:W.cell? ⟨w.heap.size+1,6,none⟩=some (.int .i64 pr):=by subst hW;simp [go_sem]
 clear hW
 refine (zKo a a' n cap cap' X Y W (HP.out.below hB0) (HQ.out.below hB0) hmax).mono ?_
 rintro e w1 ⟨rfl,hb1⟩
 have d5:=(hb1.cell (p:=⟨w.heap.size,5,none⟩) (show w.heap.size<_ by omega)).trans c5
 have d6:=(hb1.cell (p:=⟨w.heap.size,6,none⟩) (show w.heap.size<_ by omega)).trans c6
 have e5:=(hb1.cell (p:=⟨w.heap.size+1,5,none⟩) (show w.heap.size+1<_ by omega)).trans o5
 have e6:=(hb1.cell (p:=⟨w.heap.size+1,6,none⟩) (show w.heap.size+1<_ by omega)).trans o6
 have HB1:Hid (Bw w w1):=zB hB0 hb1
 clear c5 c6 o5 o6 hb1 hB0 hsz
 go_wp2
 go_ret
 exact ⟨rfl,HB1.out⟩
theorem zC.grown {w w':World}{p n s:Nat}(h:zC w p n)(hg:w.grownBy w' (some s))(hs:p≠s):zC w' p n:=fun o hn=>by
 obtain ⟨v,hv⟩:=(h o hn).1
 refine ⟨⟨v,yF hg hv hs⟩,?_⟩
 have he:=hg.block p (World.block_lt_of_cell? _ _ hv) (fun e=>hs (by injection e))
 have hz:=(h o hn).2
 unfold World.frozen? at hz ⊢
 simp only [he]
 exact hz
theorem zE2:(Tryz.prog.info? 2).map (fun i=>(i.zero,i.size,i.bytes))=some (some (.int .i64 0),1,8):=by kernel_rfl
def nz (l:List Int)(i:Nat):Int:=l.getD i 0

abbrev pxV (a b:Int):Value:=.complex .f64 (flo a) (flo b)
theorem flo_1:flo 1=4607182418800017408:=by decide +kernel
theorem c_add {a b c d:Int}(h:(-(2 ^ 52)<a∧a<2 ^ 52)∧(-(2 ^ 52)<b∧b<2 ^ 52))(g:(-(2 ^ 52)<c∧c<2 ^ 52)∧(-(2 ^ 52)<d∧d<2 ^ 52)):cSumBits .add .f64 (flo a) (flo b) (flo c) (flo d)=some (flo (a+c),flo (b+d)):=by
 simp [cSumBits,zKl h.1.1 h.1.2 g.1.1 g.1.2,zKl h.2.1 h.2.2 g.2.1 g.2.2]
theorem c_sub {a b c d:Int}(h:(-(2 ^ 52)<a∧a<2 ^ 52)∧(-(2 ^ 52)<b∧b<2 ^ 52))(g:(-(2 ^ 52)<c∧c<2 ^ 52)∧(-(2 ^ 52)<d∧d<2 ^ 52)):cSumBits .sub .f64 (flo a) (flo b) (flo c) (flo d)=some (flo (a - c),flo (b - d)):=by
 simp [cSumBits,zKj h.1.1 h.1.2 g.1.1 g.1.2,zKj h.2.1 h.2.2 g.2.1 g.2.2]
theorem zIi (t:TypeId){a b c d:Int}(w:World)(h:(-(2 ^ 52)<a∧a<2 ^ 52)∧(-(2 ^ 52)<b∧b<2 ^ 52))(g:(-(2 ^ 52)<c∧c<2 ^ 52)∧(-(2 ^ 52)<d∧d<2 ^ 52)):(binOp .add t (pxV a b) (pxV c d)).run Tryz.prog w=.ok (pxV (a+c) (b+d)) w :=
 run_complex_sum w .add (.inl rfl) t .f64 _ _ _ _ _ _ (c_add h g)
theorem zIh (t:TypeId){a b c d:Int}(w:World)(h:(-(2 ^ 52)<a∧a<2 ^ 52)∧(-(2 ^ 52)<b∧b<2 ^ 52))(g:(-(2 ^ 52)<c∧c<2 ^ 52)∧(-(2 ^ 52)<d∧d<2 ^ 52)):(binOp .sub t (pxV a b) (pxV c d)).run Tryz.prog w=.ok (pxV (a - c) (b - d)) w :=
 run_complex_sum w .sub (.inr rfl) t .f64 _ _ _ _ _ _ (c_sub h g)
theorem zCj (x y:Int)(w:World):Calls Tryz.prog 175 #[.int .i64 x,.int .i64 y] w fun e w'=>e=.returned (pxV x y)∧w=w':=by
 go_enter Tryz.func175,Tryz.ntmps175
 go_wp2
 go_ret
 exact ⟨rfl,rfl⟩
theorem zJ0 (a b:Int)(w:World)(h0:-200≤a)(h1:a<800):Calls Tryz.prog 119 #[pxV a b] w fun e w'=>e=.returned (.int .i64 a)∧w=w':=by
 have hc:∀ w,(convert 225 2 (.float .f64 (flo a))).run Tryz.prog w=.ok (.int .i64 a) w:=fun w=>run_convert_float_int w 225 2 .f64 .i64 _ a (by kernel_rfl) (by kernel_rfl) (zKk h0 h1)
 go_enter Tryz.func119,Tryz.ntmps119
 go_wp2
 go_ret
 exact ⟨rfl,rfl⟩
theorem zJz (a b:Int)(w:World)(h0:-200≤b)(h1:b<800):Calls Tryz.prog 120 #[pxV a b] w fun e w'=>e=.returned (.int .i64 b)∧w=w':=by
 have hc:∀ w,(convert 225 2 (.float .f64 (flo b))).run Tryz.prog w=.ok (.int .i64 b) w:=fun w=>run_convert_float_int w 225 2 .f64 .i64 _ b (by kernel_rfl) (by kernel_rfl) (zKk h0 h1)
 go_enter Tryz.func120,Tryz.ntmps120
 go_wp2
 go_ret
 exact ⟨rfl,rfl⟩
abbrev zBg (z x y wd ht:Int):Value:=.agg #[.int .i64 z,.int .i64 x,.int .i64 y,.int .i64 wd,.int .i64 ht]
def zB0 (z x y wd ht:Int):Bool:=(xX z && (inB wd 1 8 && inB ht 1 8)) && (inB x 0 (zC6 z - wd) && inB y 0 (zC6 z - ht))
def xN (z x y wd ht:Int):Int:=if zB0 z x y wd ht=true then 0 else 3
theorem zA2 {z x y wd ht:Int}(h:zB0 z x y wd ht=true):xX z=true:=by simp [zB0] at h;exact h.1.1
theorem zAh {z x y wd ht:Int}(h:zB0 z x y wd ht=true):((1≤wd∧wd≤8)∧(1≤ht∧ht≤8))∧((0≤x∧x≤zC6 z - wd)∧(0≤y∧y≤zC6 z - ht)):=by
 simp [zB0,inB] at h
 omega
theorem zEc (z x y wd ht:Int):(xN z x y wd ht=0∧zB0 z x y wd ht=true)∨(xN z x y wd ht=3∧zB0 z x y wd ht=false):=by
 unfold xN
 cases h:zB0 z x y wd ht <;> simp
theorem zD4 (n:Int)(w:World):Calls Tryz.prog 116 #[.int .i64 n] w fun e w'=>e=.returned (.bool (inB n 1 8))∧w=w':=by
 go_enter Tryz.func116,Tryz.ntmps116
 go_wp2_with (go_at_call 62;refine (zR _ _ _ _).mono ?_;rintro e w' ⟨rfl,rfl⟩)
 go_ret
 exact ⟨rfl,rfl⟩
theorem zBl (z x y wd ht:Int)(w:World):Calls Tryz.prog 131 #[zBg z x y wd ht] w fun e w'=>e=.returned (pxV x y)∧Bw w w':=by
 go_enter Tryz.func131,Tryz.ntmps131
 go_wp2_with (go_at_call 175;refine (zCj _ _ _).mono ?_;rintro e w' ⟨rfl,rfl⟩)
 go_ret
 exact ⟨rfl,Qb⟩
theorem zHh (z x y wd ht:Int)(w:World):Calls Tryz.prog 167 #[zBg z x y wd ht] w fun e w'=>e=.returned (pxV wd ht)∧Bw w w':=by
 go_enter Tryz.func167,Tryz.ntmps167
 go_wp2_with (go_at_call 175;refine (zCj _ _ _).mono ?_;rintro e w' ⟨rfl,rfl⟩)
 go_ret
 exact ⟨rfl,Qb⟩
theorem zC2 (z x y wd ht:Int)(w:World)(hx:0≤x∧x≤64)(hy:0≤y∧y≤64)(hw:1≤wd∧wd≤8)(hh:1≤ht∧ht≤8):Calls Tryz.prog 118 #[zBg z x y wd ht] w fun e w'=>e=.returned (pxV (x+wd - 1) (y+ht - 1))∧Bw w w':=by
 have s1:=fun t w=>zIi t (a:=x) (b:=y) (c:=wd) (d:=ht) w (by omega) (by omega)
 have s2:∀ t w,(binOp .sub t (pxV (x+wd) (y+ht)) (.complex .f64 4607182418800017408 4607182418800017408)).run Tryz.prog w=.ok (pxV (x+wd - 1) (y+ht - 1)) w:=fun t w=>by
  rw [← flo_1]
  exact zIh t (a:=x+wd) (b:=y+ht) (c:=1) (d:=1) w (by omega) (by omega)
 clear hx hy hw hh
 go_enter Tryz.func118,Tryz.ntmps118
 go_wp2_with fail
 generalize hW:(w.alloc _:World)=W
 have HB0:Hid (Bw w W):=by show Below _ _ _;subst hW;exact Qb
 have c00:∀ W',Bw W W'→W'.cell? ⟨w.heap.size,0,none⟩=some (.int .i64 z):=Qc hW
 have c01:∀ W',Bw W W'→W'.cell? ⟨w.heap.size,1,none⟩=some (.int .i64 x):=Qc hW
 have c02:∀ W',Bw W W'→W'.cell? ⟨w.heap.size,2,none⟩=some (.int .i64 y):=Qc hW
 have c03:∀ W',Bw W W'→W'.cell? ⟨w.heap.size,3,none⟩=some (.int .i64 wd):=Qc hW
 have c04:∀ W',Bw W W'→W'.cell? ⟨w.heap.size,4,none⟩=some (.int .i64 ht):=Qc hW
 clear hW
 have hr:Bw W W:=Below.refl _ _
 go_region_held3 (fun W'=>Bw W W') ((repeat (first|exact Qr _ _|assumption|refine Qd ?_|refine Qa ?_ _|refine Qt ?_|refine Qs ?_ _|refine Qo ?_ ?_ _ _)))
  (first
   | (go_at_call 131;refine (zBl _ _ _ _ _ _).mono ?_;rintro e w1 ⟨rfl,hb⟩)
   | (go_at_call 167;refine (zHh _ _ _ _ _ _).mono ?_;rintro e w1 ⟨rfl,hb⟩)
   | fail)
 go_wp2
 go_ret
 exact ⟨rfl,zB HB0.out (by assumption)⟩
theorem vF (z x y wd ht:Int)(w:World):Calls Tryz.prog 72 #[zBg z x y wd ht] w fun e w'=>e=.returned (.int .i64 (xN z x y wd ht))∧Bw w w':=by
 cases hv:(inB wd 1 8 && inB ht 1 8 && zAt z x y)
 ·have hk:Hid (xN z x y wd ht=3):=by
   show _=_
   unfold xN
   rw [if_neg]
   intro hc
   have h1:=zA2 hc
   have h2:=zAh hc
   have h3:=vQ h1
   have:(inB wd 1 8 && inB ht 1 8 && zAt z x y)=true:=by
    simp [zAt,inB,h1]
    omega
   rw [this] at hv
   cases hv
  cases h1:inB wd 1 8 <;> cases h2:inB ht 1 8 <;> cases h3:zAt z x y
  all_goals first | (rw [h1,h2,h3] at hv;cases hv;done) | skip
  all_goals
   clear hv
   go_enter Tryz.func72,Tryz.ntmps72
   go_wp2_with (first
    | (go_at_call 116;refine (zD4 _ _).mono ?_;rintro e w' ⟨rfl,rfl⟩)
    | (go_at_call 117;refine (vR _ _ _ _).mono ?_;rintro e w' ⟨rfl,hb⟩))
   all_goals (go_ret;exact ⟨zH hk.out.symm,Qb⟩)
 ·simp only [Bool.and_eq_true] at hv
  obtain ⟨⟨h1,h2⟩,h3⟩:=hv
  have hz:=zAs h3
  have hp:=zEq h3
  have hn:=vQ hz
  have hw:1≤wd∧wd≤8:=by simpa [inB] using h1
  have hh:1≤ht∧ht≤8:=by simpa [inB] using h2
  have hk:Hid (xN z x y wd ht=if zAt z (x+wd - 1) (y+ht - 1)=true then 0 else 3):=by
   show _=_
   unfold xN
   have:zB0 z x y wd ht=zAt z (x+wd - 1) (y+ht - 1):=by
    rw [Bool.eq_iff_iff]
    simp [zB0,zAt,inB,hz]
    omega
   rw [this]
  have sL:=fun w=>zC2 z x y wd ht w (by omega) (by omega) hw hh
  have sX:=fun w=>zJ0 (x+wd - 1) (y+ht - 1) w (by omega) (by omega)
  have sY:=fun w=>zJz (x+wd - 1) (y+ht - 1) w (by omega) (by omega)
  have sP:=fun w=>vR z (x+wd - 1) (y+ht - 1) w
  clear hp hn hw hh hz
  generalize x+wd - 1=lx at *
  generalize y+ht - 1=ly at *
  go_enter Tryz.func72,Tryz.ntmps72
  go_wp2_with fail
  generalize hW:(w.alloc _:World)=W
  have HB0:Hid (Bw w W):=by show Below _ _ _;subst hW;exact Qb
  have c00:∀ W',Bw W W'→W'.cell? ⟨w.heap.size,0,none⟩=some (.int .i64 z):=Qc hW
  have c01:∀ W',Bw W W'→W'.cell? ⟨w.heap.size,1,none⟩=some (.int .i64 x):=Qc hW
  have c02:∀ W',Bw W W'→W'.cell? ⟨w.heap.size,2,none⟩=some (.int .i64 y):=Qc hW
  have c03:∀ W',Bw W W'→W'.cell? ⟨w.heap.size,3,none⟩=some (.int .i64 wd):=Qc hW
  have c04:∀ W',Bw W W'→W'.cell? ⟨w.heap.size,4,none⟩=some (.int .i64 ht):=Qc hW
  clear hW
  have hr:Bw W W:=Below.refl _ _
  go_wp2_with (first
   | (go_at_call 116;refine (zD4 _ _).mono ?_;rintro e w' ⟨rfl,rfl⟩)
   | fail)
  refine (vR z x y _).mono ?_
  rintro e w1 ⟨rfl,hb1⟩
  go_wp2_with fail
  refine (sL _).mono ?_
  rintro e w2 ⟨rfl,hb2⟩
  have hB2:Bw W w2:=zB hb1 hb2
  clear hb1 hb2
  go_wp2_with fail
  cases hq:zAt z lx ly
  all_goals
   rw [hq] at sP hk
   go_region_held3 (fun W'=>Bw W W') ((repeat (first|exact Qr _ _|assumption|refine Qd ?_|refine Qa ?_ _|refine Qt ?_|refine Qs ?_ _|refine Qo ?_ ?_ _ _)))
    (first
     | (go_at_call 119;refine (sX _).mono ?_;rintro e w3 ⟨rfl,rfl⟩)
     | (go_at_call 120;refine (sY _).mono ?_;rintro e w3 ⟨rfl,rfl⟩)
     | (go_at_call 117;refine (sP _).mono ?_;rintro e w3 ⟨rfl,hb⟩)
     | fail)
   go_wp2
   go_ret
   exact ⟨zH (by rw [hk.out];rfl),zB HB0.out (by assumption)⟩
theorem there7 (V:World)(v0 v1 v2 v3 v4 v5 v6:Value)(t:TypeId):zC (V.alloc (.cells #[v0,v1,v2,v3,v4,v5,v6] t)) V.heap.size 7:=fun o ho=>by
 refine ⟨⟨#[v0,v1,v2,v3,v4,v5,v6][o]'(by simpa using ho),?_⟩,World.frozen?_alloc_at _ _ _ _ rfl⟩
 rw [World.cell?_alloc_at _ _ _ _ rfl]
 exact Array.getElem?_eq_getElem _
def zGl (w:World)(O:Nat)(id la ki wi:Int)(v:Value)(lab:ByteArray)(pr:Int):Prop:=w.heap[O]?=some (Obj.cells #[.int .i64 id,.int .i64 la,.int .i64 ki,.int .i64 wi,v,.string lab,.int .i64 pr] 209 (0,0))
theorem zGl.cells {w:World}{O:Nat}{id la ki wi pr:Int}{v:Value}{lab:ByteArray}(h:zGl w O id la ki wi v lab pr) :
  (w.cell? ⟨O,0,none⟩=some (.int .i64 id)∧w.cell? ⟨O,1,none⟩=some (.int .i64 la)∧w.cell? ⟨O,2,none⟩=some (.int .i64 ki)∧w.cell? ⟨O,3,none⟩=some (.int .i64 wi)∧w.cell? ⟨O,4,none⟩=some v∧w.cell? ⟨O,5,none⟩=some (.string lab)∧w.cell? ⟨O,6,none⟩=some (.int .i64 pr))∧w.frozen? ⟨O,4,none⟩=false:=by
 unfold zGl at h
 refine ⟨⟨?_,?_,?_,?_,?_,?_,?_⟩,?_⟩ <;> simp [World.cell?,World.frozen?,h]
theorem zGl.lt {w:World}{O:Nat}{id la ki wi pr:Int}{v:Value}{lab:ByteArray}(h:zGl w O id la ki wi v lab pr):O<w.heap.size:=zBb h
theorem zC.out {w:World}{O r n:Nat}{x:Value}(h:zC w r n)(hne:O≠r):zC (w.setCell ⟨O,4,none⟩ x) r n:=fun o ho=>by
 obtain ⟨u,hu⟩:=(h o ho).1
 exact ⟨⟨u,by rw [zA (fun e=>hne (by injection e))];exact hu⟩,by rw [World.frozen?_setCell];exact (h o ho).2⟩
theorem below7 {B r:Nat}{w W:World}{v0 v1 v2 v3 v4 v5 v6:Value}(h:Below B w W)(hr:B≤r):Below B w ((((((((W.setCell ⟨r,0,none⟩ v0).setCell ⟨r,1,none⟩ v1).setCell ⟨r,2,none⟩ v2).setCell ⟨r,3,none⟩ v3).setCell ⟨r,4,none⟩ v4).setCell ⟨r,5,none⟩ v5).setCell ⟨r,6,none⟩ v6)) :=
 (((((((h.setCell (p:=⟨r,0,none⟩) hr v0).setCell (p:=⟨r,1,none⟩) hr v1).setCell (p:=⟨r,2,none⟩) hr v2).setCell (p:=⟨r,3,none⟩) hr v3).setCell (p:=⟨r,4,none⟩) hr v4).setCell (p:=⟨r,5,none⟩) hr v5).setCell (p:=⟨r,6,none⟩) hr v6)


def reachI (wi z:Int):Int:=(wi+1) * unitI z


theorem zDz {w:World}{b off n:Nat}{X Y:Nat→Int}(h:yW w b off n X Y):∀ j u,(xZ (yT X Y (List.range n)))[j]?=some u→w.cell? ⟨b,off+j,none⟩=some u:=fun j u hu=>by
 have hlen:(yT X Y (List.range n)).length=n:=by simp [yT]
 have hj:j<n * 2:=by
  have:=(List.getElem?_eq_some_iff.1 hu).1
  rw [vN,hlen] at this
  exact this
 have hi:j / 2<n:=by omega
 obtain ⟨e1,e2⟩:=zC1 (yT X Y (List.range n)) (j / 2) (by rw [hlen];exact hi)
 obtain ⟨c1,c2⟩:=h (j / 2) hi
 have ex:px (yT X Y (List.range n)) (j / 2)=X (j / 2):=by simp [px,yT,List.getD_eq_getElem?_getD,hi]
 have ey:py (yT X Y (List.range n)) (j / 2)=Y (j / 2):=by simp [py,yT,List.getD_eq_getElem?_getD,hi]
 rw [ex] at e1
 rw [ey] at e2
 rcases Nat.mod_two_eq_zero_or_one j with hm | hm
 ·have e:j / 2 * 2=j:=by omega
  rw [e] at e1 c1
  rw [e1] at hu
  rw [c1]
  exact hu
 ·have e:j / 2 * 2+1=j:=by omega
  rw [Nat.add_assoc,e] at c2
  rw [e] at e2
  rw [e2] at hu
  rw [c2]
  exact hu
theorem zDa (s:ByteArray)(w:World)(hlim:s.size≤1048576) :
  Calls Tryz.prog 283 #[.string s] w fun e w'=>e=.returned (.string s)∧Bw w w':=by
 by_cases h0:s.size=0
 ·have hs:s=⟨#[]⟩:=by
   apply ByteArray.ext
   exact Array.eq_empty_of_size_eq_zero h0
  subst hs
  go_enter Tryz.func283,Tryz.ntmps283
  go_wp2
  go_ret
  exact ⟨rfl,Below.refl _ _⟩
 ·obtain ⟨i0,hi,hz0,hz1,hz2⟩:=info_parts info_u8
  have hinfo:(Tryz.prog.info? 5).map (·.size)=some 1:=by rw [hi];simp [hz1]
  have hco:Tryz.prog.cellsOf 5=1:=by simp [Program.cellsOf,hi,hz1]
  obtain ⟨M,hM⟩:∃ M,M=madeCells (Value.int .u8 0).cells (((s.size:Nat):Int).toNat * i0.size):=⟨_,rfl⟩
  have hMs:M.size=s.size:=by rw [hM,size_madeCells,hz1];simp
  have hmk:∀ W:World,(Instr.makeSlice 280 (.int .i64 (s.size:Int)) (.int .i64 (s.size:Int))).run Tryz.prog W=.ok (.slice (some ⟨W.heap.size,0,none⟩) s.size s.size) (W.alloc (.cells M 5)):=fun W=>by
   have h:=run_make (P:=Tryz.prog) W 280 5 i0 (.int .u8 0) Tryz.underlying280 hi hz0 .i64 .i64 (s.size:Int) (s.size:Int) (by omega) (by omega) (by rw [hz2];omega) (by omega)
   rw [← hM] at h
   simpa using h
  clear hM
  have hcp:=Lib.run_copy_row_string (P:=Tryz.prog) (w.alloc (.cells M 5)) 280 9 3 5 w.heap.size 0 s.size s.size s M 5 Tryz.underlying280 hinfo (heap_alloc_new w _) (Nat.le_refl _) (by omega)
  obtain ⟨Y,hY⟩:∃ Y,Y=(M.toList.take 0 ++ Lib.byteCells s.data.toList ++ M.toList.drop (0+s.size)).toArray:=⟨_,rfl⟩
  rw [← hY] at hcp
  have hYl:Y.toList=Lib.byteCells s.data.toList:=by
   rw [hY,List.toList_toArray,List.take_zero,List.nil_append,List.drop_of_length_le (by rw [Array.length_toList];omega),List.append_nil]
  have hYs:Y.size=s.size:=by rw [← Array.length_toList,hYl,Lib.byteCells_length,← Lib.size_eq]
  have hgY:((w.alloc (.cells M 5)).setRow w.heap.size Y).heap[w.heap.size]?=some (.cells Y 5 (0,0)):=setRow_heap _ _ M _ 5 (0,0) (heap_alloc_new w _)
  have hne:s.data.toList≠[]:=fun e=>h0 (by rw [Lib.size_eq,e];rfl)
  have hUS:=Lib.run_unsafeString_row (P:=Tryz.prog) ((w.alloc (.cells M 5)).setRow w.heap.size Y) 354 3 9 5 Tryz.underlying354 hco w.heap.size Y.size (by unfold World.shape?;rw [hgY]) s.data.toList hne (by rw [← Lib.size_eq];omega) (by rw [← Lib.size_eq];omega)
   (fun j x hx=>Lib.cells_of_row hgY Y.size j _ (by rw [List.take_of_length_le (by rw [Array.length_toList];exact Nat.le_refl _),hYl];simp [Lib.byteCells,hx]))
  rw [← Lib.size_eq] at hUS
  clear hY
  go_enter Tryz.func283,Tryz.ntmps283
  go_wp2
  go_ret
  have hb1:Bw w (w.alloc (.cells M 5)):=(Below.refl _ w).alloc (Nat.le_refl _) _
  have hb2:Below w.heap.size (w.alloc (.cells M 5)) ((w.alloc (.cells M 5)).setRow w.heap.size Y):=⟨rfl,rfl,rfl,by simp,fun k hk=>setRow_other _ _ _ _ (by omega)⟩
  exact ⟨rfl,Lib.below_freeze (hb1.trans hb2) (p:=⟨w.heap.size,0,none⟩) (Nat.le_refl _) _⟩
theorem zBq (s:ByteArray)(w:World)(hlim:s.size≤1048576) :
  Calls Tryz.prog 251 #[.string s] w fun e w'=>e=.returned (.string s)∧Bw w w':=by
 go_enter Tryz.func251,Tryz.ntmps251
 go_wp2_with (go_at_call 283;refine (zDa _ _ hlim).mono ?_;rintro e w1 ⟨rfl,hb1⟩)
 go_ret
 exact ⟨rfl,Qb⟩

end Go.Proofs.YtpaiholildedcaaGreat
