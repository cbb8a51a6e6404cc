/- Texts. -/
import Derived.Test.YtpaiholildedcaaGreatVLabelsIn23
import Derived.Test.YtpaiholildedcaaGreatVLabelsIn24
set_option linter.unusedSimpArgs false
set_option linter.unusedVariables false
set_option maxRecDepth 100000
set_option maxHeartbeats 32000000
namespace Go.Proofs.YtpaiholildedcaaGreat
open Go.RowKit
noncomputable def tC (k:Kp):Int:=if rtC k.z k.x k.y k.fn k.F=0 then (if vW k.m (rtL k.z k.x k.y k.fn k.F).length k.I (nz (rtL k.z k.x k.y k.fn k.F))=true then 0 else 8) else rtC k.z k.x k.y k.fn k.F
noncomputable def kC (K:Nat→Kp)(i:Nat):Int:=if tC (K i)=0 then (if 0≤atK i K (K i).z (K i).x (K i).y then 6 else 0) else tC (K i)
noncomputable def cacheC (s:Int)(n:Nat)(K:Nat→Kp):Int:=if inB s 1 10=true then (if s<(n:Int) then 2 else yR (kC K) 0 n) else 3
theorem zO0 {k:Kp}(h:rtC k.z k.x k.y k.fn k.F≠0):tC k=rtC k.z k.x k.y k.fn k.F:=by unfold tC;rw [if_neg h]
theorem zGt {k:Kp}(h:rtC k.z k.x k.y k.fn k.F=0)(h2:vW k.m (rtL k.z k.x k.y k.fn k.F).length k.I (nz (rtL k.z k.x k.y k.fn k.F))=false):tC k=8:=by unfold tC;rw [if_pos h,h2];rfl
theorem tC_ok {k:Kp}(h:rtC k.z k.x k.y k.fn k.F=0)(h2:vW k.m (rtL k.z k.x k.y k.fn k.F).length k.I (nz (rtL k.z k.x k.y k.fn k.F))=true):tC k=0:=by unfold tC;rw [if_pos h,h2];rfl
theorem zTg {K:Nat→Kp}{i:Nat}(h:tC (K i)≠0):kC K i=tC (K i):=by unfold kC;rw [if_neg h]
theorem kC_ok {K:Nat→Kp}{i:Nat}(h:tC (K i)=0)(h2:atK i K (K i).z (K i).x (K i).y=-1):kC K i=0:=by unfold kC;rw [if_pos h,h2];rfl
theorem zSf {K:Nat→Kp}{i:Nat}(h:tC (K i)=0)(h2:0≤atK i K (K i).z (K i).x (K i).y):kC K i=6:=by unfold kC;rw [if_pos h,if_pos h2]
theorem zSh (e:Kp):isK e e.z e.x e.y=true:=by simp [isK]
theorem zS1 {n k:Nat}{K:Nat→Kp}(hk:k<n):(atK k K (K k).z (K k).x (K k).y=-1∧atK n K (K k).z (K k).x (K k).y=(k:Int))∨(0≤atK k K (K k).z (K k).x (K k).y∧∃ i:Nat,i<k∧atK n K (K k).z (K k).x (K k).y=(i:Int)):=by
 unfold atK
 rcases uT (fun i=>isK (K i) (K k).z (K k).x (K k).y) k with ⟨h1,h2⟩ | ⟨i,hi,hg,hf,hn⟩
 ·exact .inl ⟨h1,yP hk (zSh _) h2⟩
 ·exact .inr ⟨by rw [hf];omega,i,hi,yP (by omega) hg hn⟩
def zB0 (w:World)(b n:Nat)(A:Nat→Kp):Prop:=b<w.heap.size∧∀ i,i<n→zQ4 w b (i * 5) (A i)∧(∃ fb,(A i).fa=some ⟨fb,0,none⟩∧fb<w.heap.size∧vY w fb 0 (A i).fn (A i).F)∧zCi w (A i).ia (A i).m (A i).I
theorem zB0.below {w w':World}{b n:Nat}{A:Nat→Kp}(h:zB0 w b n A)(hb:Below w.heap.size w w'):zB0 w' b n A :=
 ⟨Nat.lt_of_lt_of_le h.1 hb.size,fun i hi=>by
  obtain ⟨h1,⟨fb,e1,e2,e3⟩,h3⟩:=h.2 i hi
  exact ⟨h1.below hb h.1,⟨fb,e1,Nat.lt_of_lt_of_le e2 hb.size,e3.below hb e2⟩,h3.below hb⟩⟩
theorem zB0.is {w:World}{b n:Nat}{A:Nat→Kp}(h:zB0 w b n A):zDn w (some ⟨b,0,none⟩) n A :=
 .inr ⟨b,0,rfl,h.1,fun i hi=>by
  obtain ⟨h1,⟨fb,e1,e2,e3⟩,h3⟩:=h.2 i hi
  exact ⟨by rw [Nat.zero_add];exact h1,.inr ⟨fb,0,e1,e2,e3⟩,h3⟩⟩
theorem yB.ko {w:World}{B b n:Nat}{K A:Nat→Kp}(h:yB w B b n K A):zB0 w b n A :=
 ⟨h.2.1,fun i hi=>by
  obtain ⟨h1,h2⟩:=h.2.2 i hi
  have h3:=h2.is.2
  obtain ⟨_,⟨fb,e1,e2,e3,ho⟩,_⟩:=h2
  exact ⟨h1,⟨fb,e1,ho.2.1,by rw [e2];exact ho.2.2.1⟩,h3⟩⟩
def zPa (z : Int) (s : Shp) : List Value := [.int .i64 s.id, .func (.func (byF s.ki)) #[] #[], .slice (some ⟨s.g, 0, none⟩) s.n s.cg, .int .i64 (yD s.wi z)]
def vR (z : Int) (S : Nat → Shp) : Nat → List Value
 | 0 => []
 | k + 1 => vR z S k ++ zPa z (S k)
theorem zA9 (z : Int) (S : Nat → Shp) : ∀ k, (vR z S k).length = k * 4
 | 0 => rfl
 | k + 1 => by rw [vR, List.length_append, zA9 z S k]; simp [zPa]; omega
theorem zEw (z : Int) (S : Nat → Shp) : ∀ (k i j : Nat), i < k → j < 4 → (vR z S k)[i * 4 + j]? = (zPa z (S i))[j]?
 | k + 1, i, j, hi, hj => by
  rw [vR]
  by_cases e : i = k
  ·subst e
   rw [List.getElem?_append_right (by rw [zA9]; omega), zA9]
   congr 1
   omega
  ·rw [List.getElem?_append_left (by rw [zA9]; omega)]
   exact zEw z S k i j (by omega) hj
theorem zC6 {z : Int} {S S' : Nat → Shp} : ∀ {k : Nat}, (∀ i, i < k → S i = S' i) → vR z S k = vR z S' k
 | 0, _ => rfl
 | k + 1, h => by rw [vR, vR, zC6 (fun i hi => h i (by omega)), h k (by omega)]
def zQ1 (base : Nat) (w : World) (v : Value) (k : Nat) (z : Int) (S : Nat → Shp) : Prop := w.ownsRow base 263 4 v k (vR z S k)
def zIg (s : Shp) (f : zS) : Prop := s.id = f.id ∧ s.ki = f.ki ∧ s.wi = f.wi ∧ s.n = f.n ∧ s.X = f.X ∧ s.Y = f.Y
theorem zQ1.src {base k : Nat} {w : World} {v : Value} {z : Int} {S : Nat → Shp} (h : zQ1 base w v k z S) (hk : k = 0 → v = .slice none 0 0) (hP : ∀ i, i < k → zJ9 w w.heap.size (S i)) : zS2 w.heap.size w v k z S := by
 by_cases h0 : k = 0
 ·exact .inl ⟨hk h0, h0⟩
 ·obtain ⟨h1, h2 | ⟨g, cp, cur, hv, hg, hh, hkc, hcm, hcs, htk⟩⟩ := id h
  ·exact absurd h2.2 h0
  ·have hgl : g < w.heap.size := yC hh
   subst hv
   have hrow : w.ownsRow base 263 4 (.slice (some ⟨g, 0, none⟩) k cp) k (vR z S k) := h
   refine .inr ⟨g, cp, rfl, hgl, fun i hi => ⟨?_, hP i hi⟩⟩
   have c : ∀ j, j < 4 → w.cell? ⟨g, i * 4 + j, none⟩ = (zPa z (S i))[j]? := fun j hj => (hrow.cellAt _ (by omega)).trans (zEw z S k i j hi hj)
   exact ⟨c 0 (by omega), c 1 (by omega), c 2 (by omega), c 3 (by omega)⟩
theorem zQ1.not_pts {base k n g : Nat} {w : World} {v : Value} {z : Int} {S : Nat → Shp} {X Y : Nat → Int} (h : zQ1 base w v k z S) (hk : k = 0 → v = .slice none 0 0) (hp : zK w g 0 n X Y) (hn : 0 < n) : some g ≠ v.ownBlock := by
 intro e
 by_cases h0 : k = 0
 ·rw [hk h0] at e; cases e
 ·obtain ⟨h1, h2 | ⟨g', cp, cur, hv, hg, hh, hkc, hcm, hcs, htk⟩⟩ := id h
  ·exact absurd h2.2 h0
  ·subst hv
   simp [Value.ownBlock] at e
   subst e
   have hrow : w.ownsRow base 263 4 (.slice (some ⟨g, 0, none⟩) k cp) k (vR z S k) := h
   have c1 := (hrow.cellAt 1 (by omega)).trans (zEw z S k 0 1 (by omega) (by omega))
   have c2 := (hp 0 hn).2
   simp only [Nat.zero_mul, Nat.zero_add, Nat.mul_zero] at c2
   rw [c1] at c2
   simp [zPa] at c2
theorem zJr {z cx cy : Int} {S : Nat → Shp} {G : Nat → zS} {n : Nat} (h : ∀ i, i < n → zIg (S i) (G i)) : ∀ {k : Nat}, k ≤ n → xK (zQq z cx cy S) (fun i => (S i).id) k = xK (fun i => zOa z cx cy (G i)) (fun i => (G i).id) k
 | 0, _ => rfl
 | k + 1, hk => by
  obtain ⟨e1, e2, e3, e4, e5, e6⟩ := h k (by omega)
  have ec : zQq z cx cy S k = zOa z cx cy (G k) := by unfold zQq zOa; rw [e2, e3, e4, e5, e6]
  rw [xK, xK, ec, e1, zJr h (by omega)]
theorem zKu (B4 B5 : Nat) (a : Option Addr) (n cap : Nat) (z x y : Int) (S : Nat → Shp) (G : Nat → zS) (w : World) (h4 : w.cell? ⟨B4, 0, none⟩ = some (.int .i64 z)) (h5 : w.cell? ⟨B5, 0, none⟩ = some (.slice a n cap)) (hS : zS2 w.heap.size w (.slice a n cap) n z S) (hP : ∀ i, i < n → zJ9 w w.heap.size (S i)) (hn : n ≤ 12) (hsh : ∀ i, i < n → zIg (S i) (G i)) (hpx : uW z x y = true) :
  Calls Tryz.prog 210 #[.int .i64 x, .int .i64 y, .pointer (some ⟨B5, 0, none⟩), .pointer (some ⟨B4, 0, none⟩)] w fun e w' => e = .returned (.int .i64 (yE G n z x y)) ∧ Bw w w' := by
 have hl4 := World.block_lt_of_cell? _ _ h4
 have hl5 := World.block_lt_of_cell? _ _ h5
 have HF : Hid (∀ W, Bw w W → Calls Tryz.prog 211 #[.slice a n cap, .agg #[.int .i64 (zZ z x), .int .i64 (zZ z y)]] W fun e w' => e = .returned (.int .i64 (yE G n z x y)) ∧ Bw W w') := fun W hW => by
  have hS' : zS2 W.heap.size W (.slice a n cap) n z S := by
   rcases hS.below hW with h | ⟨p, c, e, h1, h2⟩
   ·exact .inl h
   ·exact .inr ⟨p, c, e, Nat.lt_of_lt_of_le h1 hW.size, fun i hi => ⟨(h2 i hi).1, Nat.lt_of_lt_of_le (h2 i hi).2.1 hW.size, (h2 i hi).2.2⟩⟩
  have hP' : ∀ i, i < n → zJ9 W W.heap.size (S i) := fun i hi => ⟨Nat.lt_of_lt_of_le (hP i hi).1 hW.size, ((hP i hi).below hW).2⟩
  have := zLi a n cap z (zZ z x) (zZ z y) S W hS' hP' (by omega)
  rw [zJr hsh (Nat.le_refl n)] at this
  exact this
 have sC := fun w => zCw z x y w
 rw [show zOc z x y = .agg #[.int .i64 0, .int .i64 (zZ z x), .int .i64 (zZ z y)] by simp [zOc, hpx]] at sC
 have c4 : ∀ W', Bw w W' → W'.cell? ⟨B4, 0, none⟩ = some (.int .i64 z) := fun W' h => (h.cell (p := ⟨B4, 0, none⟩) hl4).trans h4
 have c5 : ∀ W', Bw w W' → W'.cell? ⟨B5, 0, none⟩ = some (.slice a n cap) := fun W' h => (h.cell (p := ⟨B5, 0, none⟩) hl5).trans h5
 clear hS hP hsh hpx h4 h5
 generalize zZ z x = cx at *
 generalize zZ z y = cy at *
 generalize yE G n z x y = pf at *
 have f1 : ∀ w, (Instr.field 268 (.agg #[.int .i64 0, .int .i64 cx, .int .i64 cy]) 1).run Tryz.prog w = .ok (.agg #[.int .i64 cx, .int .i64 cy]) w := fun _ => by kernel_rfl
 have hr : Bw w w := Below.refl _ _
 go_enter Tryz.func210, Tryz.ntmps210
 go_wp2_with fail
 go_region_held3 (fun W' => Bw w W') ((repeat (first|exact Qr _ _|assumption|refine Qd ?_|refine Qa ?_ _|refine Qt ?_|refine Qs ?_ _|refine Qo ?_ ?_ _ _)))
  (first
   | (go_at_call 212; refine (sC _).mono ?_; rintro e w1 ⟨rfl, hb⟩)
   | (go_at_call 211; refine (HF.out _ (by assumption)).mono ?_; rintro e w1 ⟨rfl, hb⟩)
   | fail)
 go_wp2
 go_ret
 exact ⟨rfl, by assumption⟩
theorem zQn (args : Array Value) (w : World) : (callFunc 210 args).run Tryz.prog w = .ok (.enter 210 args) w := by
 have h1 : (Tryz.f210).name ≠ "runtime.NumGoroutine" := by
  have : ((Tryz.f210).name == "runtime.NumGoroutine") = false := by kernel_rfl
  simpa using this
 have hb : ∃ c, (Tryz.f210).body = some c := ⟨_, rfl⟩
 obtain ⟨c, hb⟩ := hb
 simp [callFunc, Tryz.func210, h1, hb]
abbrev zS4:Array Value:=#[.int .i64 0,.nilFunc,.slice none 0 0,.int .i64 0]
theorem info_sh:(Tryz.prog.info? 263).map (fun i=>(i.zero,i.size,i.bytes))=some (some (.agg zS4),4,48):=by kernel_rfl
def RtSt (V:World)(B5:Nat)(z:Int)(G:Nat→zS)(k:Nat)(S:Nat→Shp)(v:Value)(wr:World):Prop :=
 zQ1 V.heap.size wr v k z S∧(k=0→v=.slice none 0 0)∧(∀ i,i<k→zJ9 wr wr.heap.size (S i)∧zIg (S i) (G i))∧wr.cell? ⟨B5,0,none⟩=some v∧zD wr B5 1∧Below B5 V wr∧V.heap.size≤wr.heap.size
theorem RtSt.put {V:World}{B5:Nat}{z:Int}{G:Nat→zS}{k:Nat}{S:Nat→Shp}{v:Value}{ua:Option Addr}{un uc:Nat}{w:World}(hO:zQ1 V.heap.size w v k z S)(hk:k=0→v=.slice none 0 0)(hP:∀ i,i<k→zJ9 w w.heap.size (S i)∧zIg (S i) (G i))(h5:w.cell? ⟨B5,0,none⟩=some (.slice ua un uc))(hT:zD w B5 1)(hB:Below B5 V w)(hl:B5<V.heap.size)(hs:V.heap.size≤w.heap.size):RtSt V B5 z G k S v (w.setCell ⟨B5,0,none⟩ v):=by
 have hne:∀ g:Nat,V.heap.size≤g→g≠B5:=fun g hg=>by omega
 refine ⟨?_,hk,fun i hi=>?_,zG h5,?_,hB.setCell (Nat.le_refl _) _,by simpa using hs⟩
 ·exact zCm hO fun g hg=>Below.heap_setCell _ _ _ _ (by have:=(World.ownsRow.lt hO g hg).1;simp;omega)
 ·obtain ⟨⟨p1,p2,p3,p4,p5⟩,p6⟩:=hP i hi
  refine ⟨⟨by simpa using p1,p2,p3,p4,?_⟩,p6⟩
  by_cases e:(S i).g=B5
  ·exfalso
   have c0:=(p5 0 p2).1
   simp only [Nat.zero_mul,Nat.zero_add,Nat.mul_zero] at c0
   rw [e,h5] at c0
   cases c0
  ·intro j hj
   exact ⟨(zB (fun h=>e (by injection h with h;exact h.symm))).trans (p5 j hj).1,(zB (fun h=>e (by injection h with h;exact h.symm))).trans (p5 j hj).2⟩
 ·intro o ho
  obtain rfl:o=0:=by omega
  exact ⟨⟨_,zG h5⟩,by rw [World.frozen?_setCell];exact (hT 0 (by omega)).2⟩
theorem zBr (z x y:Int)(b n cap:Nat)(G:Nat→zS)(w:World)(hg:vY w b 0 n G)(hbl:b<w.heap.size)(hs:yU n G)(hcap:n≤cap) :
  Calls Tryz.prog 168 #[.agg #[.int .i64 z,.int .i64 x,.int .i64 y,.slice (some ⟨b,0,none⟩) n cap]] w fun e w'=>∃ v,e=.returned (.agg #[.int .i64 (rtC z x y n G),v])∧OwnN w' w.heap.size v (rtL z x y n G).length (nz (rtL z x y n G))∧Bw w w':=by
 have hmf:∀ (fn:Fn) (first cap:Array Value) (w:World),(Instr.makeFunc fn first cap).run Tryz.prog w=.ok (.func fn first cap) w:=fun _ _ _ _=>rfl
 obtain ⟨si,hsi,hs0,hs1,hs2⟩:=info_parts info_sh
 have HG:Hid (vY w b 0 n G):=hg
 have HS:Hid (yU n G):=hs
 clear hg hs
 obtain ⟨rc,hrc⟩:∃ rc,zE4 z x y=rc:=⟨_,rfl⟩
 obtain ⟨fc,hfc⟩:∃ fc,zV n G=fc:=⟨_,rfl⟩
 have HFF:Hid (∀ W',Bw w W'→Calls Tryz.prog 206 #[.slice (some ⟨b,0,none⟩) n cap] W' fun e w'=>e=.returned (.int .i64 fc)∧Below W'.heap.size W' w'):=fun W' hW=>hfc ▸ zCz b n cap G W' (HG.out.below hW hbl) (Nat.lt_of_lt_of_le hbl hW.size) HS.out hcap
 have HRF:Hid (∀ W',Calls Tryz.prog 132 #[.agg #[.int .i64 z,.int .i64 x,.int .i64 y]] W' fun e w'=>e=.returned (.int .i64 rc)∧Below W'.heap.size W' w'):=fun W'=>hrc ▸ zAu z x y W'
 have HRC:Hid (zE4 z x y=rc):=hrc
 have HFC:Hid (zV n G=fc):=hfc
 clear hrc hfc
 go_enter Tryz.func168,Tryz.ntmps168
 go_wp2_with fail
 generalize hW:((w.alloc _).alloc _:World)=W
 have HB0:Hid (Bw w W):=by show Below _ _ _;subst hW;exact Qb
 have HT:Hid (zD W (w.heap.size+1) 2):=by
  show zD _ _ _
  subst hW
  have:=there2t (w.alloc (.cells #[.int .i64 z,.int .i64 x,.int .i64 y,.slice (some ⟨b,0,none⟩) n cap] 139)) (.int .i64 0) (.slice none 0 0) 48
  simpa using this
 have HA:Hid (zJ5 W w.heap.size z x y (.slice (some ⟨b,0,none⟩) n cap)):=by
  show zJ5 _ _ _ _ _ _
  subst hW
  refine ⟨?_,?_,?_,?_⟩ <;> simp [go_sem]
 have HSZ:Hid (w.heap.size+1<W.heap.size):=by show _<_;subst hW;simp
 have hlW:w.heap.size<W.heap.size:=by subst hW;simp <;> omega
 clear hW
 have c0:∀ W',Bw W W'→W'.cell? ⟨w.heap.size,0,none⟩=some (.int .i64 z):=fun W' h=>(HA.out.below h hlW).1
 have c1:∀ W',Bw W W'→W'.cell? ⟨w.heap.size,1,none⟩=some (.int .i64 x):=fun W' h=>(HA.out.below h hlW).2.1
 have c2:∀ W',Bw W W'→W'.cell? ⟨w.heap.size,2,none⟩=some (.int .i64 y):=fun W' h=>(HA.out.below h hlW).2.2.1
 have c3:∀ W',Bw W W'→W'.cell? ⟨w.heap.size,3,none⟩=some (.slice (some ⟨b,0,none⟩) n cap):=fun W' h=>(HA.out.below h hlW).2.2.2
 refine wp_region_noPanic ?_
 refine wp_region_held_drew (S:=fun W'=>Bw W W') (by kernel_rfl) (by exact Qb) (fun hHeld=>?_)
 have hX0:Bw W W.drew:=hHeld
 refine zC (i:=0) (d:=some 8) rfl rfl (hS:=hX0) ?_
 try simp only [Act.put,Qx,Qy,Qz]
 refine zC (i:=1) (d:=some 9) rfl rfl (hS:=hX0) ?_
 try simp only [Act.put,Qx,Qy,Qz]
 refine zC (i:=3) (d:=some 11) rfl rfl (hS:=hX0) ?_
 try simp only [Act.put,Qx,Qy,Qz]
 refine zC (i:=4) (d:=some 12) rfl rfl (hS:=hX0) ?_
 try simp only [Act.put,Qx,Qy,Qz]
 refine zN 2 fun K hK=>?_
 rw [if_pos (by rfl)]
 go_simp
 refine Calls.mono (HRF.out _) ?_
 rintro e w1 ⟨rfl,hb1⟩
 have hX1:Bw W w1:=zA hX0 hb1
 go_wp2_with fail
 refine hK.out _ _ hX1 (fun hHeld=>?_)
 clear hK K hb1
 try simp only [Act.put,Qx,Qy,Qz]
 refine zN 5 fun K hK=>?_
 rw [if_pos (by rfl)]
 go_simp
 refine Calls.mono (HFF.out _ (zA HB0.out hX1)) ?_
 rintro e w2 ⟨rfl,hb2⟩
 have hX2:Bw W w2:=zA hX1 hb2
 go_wp2_with fail
 refine hK.out _ _ hX2 (fun hHeld=>?_)
 clear hK K hb2
 try simp only [Act.put,Qx,Qy,Qz]
 refine zN 6 fun K hK=>?_
 rw [if_pos (by rfl)]
 go_simp
 generalize hwA:(World.alloc _ _:World)=wA
 have hbA:Bw w2 wA:=by subst hwA;exact Qb
 have g0:wA.cell? ⟨w2.heap.size,0,none⟩=some (.int .i64 rc):=by subst hwA;simp [go_sem]
 have g1:wA.cell? ⟨w2.heap.size,1,none⟩=some (.int .i64 fc):=by subst hwA;simp [go_sem]
 have hXA:Bw W wA:=zA hX2 hbA
 clear hwA hbA
 refine hK.out _ _ hXA (fun hHeld=>?_)
 clear hK K
 try simp only [Act.put,Qx,Qy,Qz]
 refine zN 7 fun K hK=>?_
 rw [if_pos (by rfl)]
 go_simp
 refine (zGh _ _ rc fc _ g0 g1).mono ?_
 rintro e w3 ⟨rfl,rfl⟩
 go_wp2_with fail
 refine hK.out _ _ hXA (fun hHeld=>?_)
 clear hK K g0 g1
 try simp only [Act.put,Qx,Qy,Qz]
 refine zC (i:=8) (d:=some 3) rfl rfl (hS:=hXA) ?_
 try simp only [Act.put,Qx,Qy,Qz]
 refine wpAnyH_done (by kernel_rfl) ?_ _
 refine NoPanic.normal ?_
 have HBA:Hid (Bw w w3):=zA HB0.out hXA
 have hTA:=HT.out.below hXA
 have HTA:Hid (zD w3 (w.heap.size+1) 2):=hTA
 have d0:=c0 w3 hXA
 have d1:=c1 w3 hXA
 have d2:=c2 w3 hXA
 have d3:=c3 w3 hXA
 have hlA:w.heap.size<w3.heap.size:=Nat.lt_of_lt_of_le hlW hXA.size
 have hlA1:w.heap.size+1<w3.heap.size:=Nat.lt_of_lt_of_le HSZ.out hXA.size
 have HAA:Hid (zJ5 w3 w.heap.size z x y (.slice (some ⟨b,0,none⟩) n cap)):=HA.out.below hXA hlW
 by_cases hor:or2 rc fc=0
 ·have hr0:rc=0∧fc=0:=by
   unfold or2 at hor
   by_cases h:rc=0
   ·rw [if_pos h] at hor;exact ⟨h,hor⟩
   ·rw [if_neg h] at hor;exact absurd hor h
  obtain ⟨hn12,hok⟩:=zEp (HFC.out.trans hr0.2)
  have HOK:Hid (∀ i,i<n→OkF (G i)):=hok
  have hrf:zAv z x y=true:=by
   rcases uM z x y with ⟨_,h⟩ | ⟨h,_⟩
   ·exact h
   ·rw [HRC.out,hr0.1] at h;omega
  have HRB:Hid (zAv z x y=true):=hrf
  have hos:zKw n G=zFc n G:=zRs (zCd (HFC.out.trans hr0.2)).2.1
  have HK:Hid (rtC z x y n G=if zFc n G=true then 0 else 1):=by
   show _=_
   unfold rtC
   rw [if_pos (HRC.out.trans hr0.1),if_pos (HFC.out.trans hr0.2)]
  have HAO:Hid (Calls Tryz.prog 207 #[.slice (some ⟨b,0,none⟩) n cap] w3 fun e w'=>e=.returned (.bool (zFc n G))∧Bw w3 w'):=hos ▸ zFr b n cap G w3 (HG.out.below HBA.out hbl) (Nat.lt_of_lt_of_le hbl HBA.out.size) HS.out.1
  rw [hor]
  clear hor hr0 hok hrf hos hTA c0 c1 c2 c3 hX0 hX1 hX2
  go_wp2_with fail
  refine Calls.mono HAO.out ?_
  rintro e wO ⟨rfl,hbO⟩
  have hTO:=HTA.out.below hbO
  have HTO:Hid (zD wO (w.heap.size+1) 2):=hTO
  have HBO:Hid (Bw w wO):=zA HBA.out hbO
  obtain ⟨o0,o1,o2,o3⟩:=HAA.out.below hbO hlA
  have HAO2:Hid (zJ5 wO w.heap.size z x y (.slice (some ⟨b,0,none⟩) n cap)):=⟨o0,o1,o2,o3⟩
  have hlO:w.heap.size<wO.heap.size:=Nat.lt_of_lt_of_le hlA hbO.size
  have hlO1:w.heap.size+1<wO.heap.size:=Nat.lt_of_lt_of_le hlA1 hbO.size
  clear hbO HAO d0 d1 d2 d3
  cases ho:zFc n G
  ·have HQ:Hid (rtC z x y n G=1):=by show _=_;rw [HK.out,ho];rfl
   have HL:Hid (rtL z x y n G=[]):=if_neg (by rw [HQ.out];omega)
   have t0:=hTO.cell 0 (by omega)
   have t1:=hTO.cell 1 (by omega)
   have f0:=(hTO 0 (by omega)).2
   have f1:=(hTO 1 (by omega)).2
   clear hTO
   go_wp2_with fail
   obtain ⟨q0,q1⟩:=set2t (a:=.int .i64 1) (b:=.slice none 0 0) HTO.out
   refine bodyPost_ret (v:=.agg #[.int .i64 1,.slice none 0 0]) (by simp [results,Tryz.results168,go_sem,q0,q1]) rfl ⟨_,by rw [HQ.out],?_,?_⟩
   ·rw [HL.out];exact zIs _ _
   ·exact (HBO.out.setCell (Nat.le_succ _) _).setCell (Nat.le_succ _) _
  ·have HQ:Hid (rtC z x y n G=0):=by show _=_;rw [HK.out,ho];rfl
   have HL:Hid (rtL z x y n G=zDw (yE G n z) (x * 8) (y * 8) 64):=if_pos HQ.out
   clear HK ho hTO
   go_wp2_with fail
   generalize hV:((wO.alloc _).alloc _:World)=V
   obtain ⟨B4,hB4⟩:∃ B4,B4=wO.heap.size:=⟨_,rfl⟩
   obtain ⟨B5,hB5⟩:∃ B5,B5=wO.heap.size+1:=⟨_,rfl⟩
   have hbV:Bw wO V:=by subst hV;exact Qb
   have v4:V.cell? ⟨B4,0,none⟩=some (.int .i64 z):=by subst hV;rw [hB4];simp [go_sem]
   have v5:V.cell? ⟨B5,0,none⟩=some (.slice none 0 0):=by subst hV;rw [hB5];simp [go_sem]
   have HT5:Hid (zD V B5 1):=fun o ho=>by
    obtain rfl:o=0:=by omega
    exact ⟨⟨_,v5⟩,by subst hV;rw [hB5];simp [go_sem]⟩
   have hszV:V.heap.size=wO.heap.size+2:=by subst hV;simp
   clear hV
   rw [← hB5,← hB4]
   have hl5:B5<V.heap.size:=by omega
   have HSV:Hid (V.heap.size=B5+1∧B4<B5∧wO.heap.size=B4):=by show _∧_∧_;omega
   have h45:B4<B5:=by omega
   have hO5:wO.heap.size≤B5:=by omega
   have HAV:Hid (zJ5 V w.heap.size z x y (.slice (some ⟨b,0,none⟩) n cap)):=HAO2.out.below hbV hlO
   have HTV:Hid (zD V (w.heap.size+1) 2):=HTO.out.below hbV
   have HBV:Hid (Bw w V):=zA HBO.out hbV
   have hb5:w.heap.size+1<B5:=by omega
   obtain ⟨p0,p1,p2,p3⟩:=HAV.out
   clear hB4 hB5 hszV hbV o0 o1 o2 o3
   go_loopw [31] (fun i wr=>∃ (k:Nat) (S:Nat→Shp) (v:Value),k≤n∧i=.int .i64 (k:Int)∧RtSt V B5 z G k S v wr) (fun i _=>n - (intOf i).toNat)
   case atStart=>exact ⟨0,fun _=>⟨0,0,0,0,0,0,fun _=>0,fun _=>0⟩,.slice none 0 0,by omega,rfl,World.ownsRow_nil _ _ _ _,fun _=>rfl,fun i hi=>absurd hi (Nat.not_lt_zero _),v5,HT5.out,Below.refl _ _,Nat.le_refl _⟩
   case round =>
   obtain ⟨k,S,v,hk,rfl,hO,hK0,hPS,h5,hT5,hB,hVr⟩:=hrel
   by_cases hlt:k<n
   ·have hOKk:=HOK.out k hlt
    have hGr:=HG.out.below (HBV.out.trans (hB.mono (by omega))) hbl
    obtain ⟨q,o,ea,hql,hpt⟩:=HG.out.pts hlt hOKk.n0
    have hf:=(hGr k hlt).1
    rw [ea,Nat.zero_add] at hf
    obtain ⟨f0,f1,f2,f3,f4,f5,f6⟩:=hf
    have r4:=(hB.cell (p:=⟨B4,0,none⟩) h45).trans v4
    have hi1:(k:Int)<(n:Int):=by omega
    have hi0:(0:Int)≤(k:Int):=by omega
    obtain ⟨va,vn,vc,hvs⟩:∃ va vn vc,v=.slice va vn vc:=by
     obtain ⟨_,h2 | ⟨g,cp,cur,hv,_⟩⟩:=id hO
     ·exact ⟨_,_,_,h2.1⟩
     ·exact ⟨_,_,_,hv⟩
    subst hvs
    have HO0:Hid (zQ1 V.heap.size wr (.slice va vn vc) k z S):=hO
    have HK0:Hid (k=0→(Value.slice va vn vc)=.slice none 0 0):=hK0
    have HPS0:Hid (∀ i,i<k→zJ9 wr wr.heap.size (S i)∧zIg (S i) (G i)):=hPS
    have HT50:Hid (zD wr B5 1):=hT5
    have HBr:Hid (Below B5 V wr):=hB
    have HPT:Hid (zK w q o (G k).n (G k).X (G k).Y):=hpt
    have hlb:=World.block_lt_of_cell? _ _ f0
    clear hO hK0 hPS hT5 hB hpt hGr
    go_wp2_with fail
    generalize hwF:(wr.alloc _:World)=wF
    have hbF:Bw wr wF:=by subst hwF;exact Qb
    have hFo:wF.heap[wr.heap.size]?=some (.cells #[.int .i64 (G k).id,.int .i64 (G k).la,.int .i64 (G k).ki,.int .i64 (G k).wi,.slice (some ⟨q,o,none⟩) (G k).n (G k).cap,.string (G k).lab,.int .i64 (G k).pr] 209 (0,0)):=by subst hwF;exact World.alloc_heap_new wr _
    clear hwF
    have hVF:V.heap.size≤wF.heap.size:=Nat.le_trans hVr hbF.size
    have HFo:=(show Hid (wF.heap[wr.heap.size]?=some (.cells #[.int .i64 (G k).id,.int .i64 (G k).la,.int .i64 (G k).ki,.int .i64 (G k).wi,.slice (some ⟨q,o,none⟩) (G k).n (G k).cap,.string (G k).lab,.int .i64 (G k).pr] 209 (0,0))) from hFo)
    have hlF:wr.heap.size<wF.heap.size:=yC hFo
    have HOF:Hid (zQ1 V.heap.size wF (.slice va vn vc) k z S):=zCm HO0.out fun g hg=>hbF.block g (World.ownsRow.lt HO0.out g hg).2
    have HPF:Hid (∀ i,i<k→zJ9 wF wF.heap.size (S i)∧zIg (S i) (G i)):=fun i hi=>⟨⟨Nat.lt_of_lt_of_le (HPS0.out i hi).1.1 hbF.size,((HPS0.out i hi).1.below hbF).2⟩,(HPS0.out i hi).2⟩
    have HTF:Hid (zD wF B5 1):=HT50.out.below hbF
    have HBF:Hid (Below B5 V wF):=HBr.out.trans (hbF.mono (by omega))
    have c5':∀ W',KS V.heap.size wr.heap.size wF W'→W'.cell? ⟨B5,0,none⟩=some (.slice va vn vc):=fun W' h=>(h.1.cell (p:=⟨B5,0,none⟩) hl5).trans ((hbF.cell (p:=⟨B5,0,none⟩) (by simp;omega)).trans h5)
    have q4':∀ W',KS V.heap.size wr.heap.size wF W'→W'.cell? ⟨B4,0,none⟩=some (.int .i64 z):=fun W' h=>(h.1.cell (p:=⟨B4,0,none⟩) (by simp;omega)).trans ((hbF.cell (p:=⟨B4,0,none⟩) (by simp;omega)).trans r4)
    have e0:∀ W',KS V.heap.size wr.heap.size wF W'→W'.cell? ⟨wr.heap.size,0,none⟩=some (.int .i64 (G k).id):=fun W' h=>by simp [World.cell?,h.2,HFo.out]
    have e1:∀ W',KS V.heap.size wr.heap.size wF W'→W'.cell? ⟨wr.heap.size,1,none⟩=some (.int .i64 (G k).la):=fun W' h=>by simp [World.cell?,h.2,HFo.out]
    have e2:∀ W',KS V.heap.size wr.heap.size wF W'→W'.cell? ⟨wr.heap.size,2,none⟩=some (.int .i64 (G k).ki):=fun W' h=>by simp [World.cell?,h.2,HFo.out]
    have e3:∀ W',KS V.heap.size wr.heap.size wF W'→W'.cell? ⟨wr.heap.size,3,none⟩=some (.int .i64 (G k).wi):=fun W' h=>by simp [World.cell?,h.2,HFo.out]
    have e4:∀ W',KS V.heap.size wr.heap.size wF W'→W'.cell? ⟨wr.heap.size,4,none⟩=some (.slice (some ⟨q,o,none⟩) (G k).n (G k).cap):=fun W' h=>by simp [World.cell?,h.2,HFo.out]
    have e5:∀ W',KS V.heap.size wr.heap.size wF W'→W'.cell? ⟨wr.heap.size,5,none⟩=some (.string (G k).lab):=fun W' h=>by simp [World.cell?,h.2,HFo.out]
    have e6:∀ W',KS V.heap.size wr.heap.size wF W'→W'.cell? ⟨wr.heap.size,6,none⟩=some (.int .i64 (G k).pr):=fun W' h=>by simp [World.cell?,h.2,HFo.out]
    have HBwF:Hid (Bw w wF):=HBV.out.trans (HBF.out.mono (by omega))
    have hzz:yH z=true:=by
     have:=HRB.out
     simp [zAv] at this
     exact this.1
    have HSh:Hid (∀ W',KS V.heap.size wr.heap.size wF W'→Calls Tryz.prog 208 #[.agg #[.int .i64 (G k).id,.int .i64 (G k).la,.int .i64 (G k).ki,.int .i64 (G k).wi,.slice (some ⟨q,o,none⟩) (G k).n (G k).cap,.string (G k).lab,.int .i64 (G k).pr],.int .i64 z] W' fun e w'=>∃ g cg,e=.returned (zO6 (G k).id (G k).ki (G k).wi z g (G k).n cg)∧g<w'.heap.size∧(G k).n≤cg∧zK w' g 0 (G k).n (px (xH (G k).X (G k).Y (G k).n)) (py (xH (G k).X (G k).Y (G k).n))∧Below W'.heap.size W' w'):=fun W' h=>by
     have hBW:Bw w W':=HBwF.out.trans (h.1.mono (by have:=HBV.out.size;omega))
     exact zKs (G k).id (G k).la (G k).ki (G k).wi z q (G k).n (G k).cap (G k).X (G k).Y (G k).lab (G k).pr W' (HPT.out.below hBW hql) (Nat.lt_of_lt_of_le hql hBW.size) hOKk.n0 (by have:=hOKk.n12;omega) hOKk.inw hOKk.wid hzz
    clear f0 f1 f2 f3 f4 f5 f6 r4 hFo h5
    refine wp_region_noPanic ?_
    refine zKa (S:=fun W'=>KS V.heap.size wr.heap.size wF W') (z:=6) (by kernel_rfl) ?_
    have hSd:KS V.heap.size wr.heap.size wF wF.drew:=⟨by (repeat (first|exact Qr _ _|assumption|refine Qd ?_|refine Qa ?_ _|refine Qt ?_|refine Qs ?_ _|refine Qo ?_ ?_ _ _)),rfl⟩
    refine takeL (i:=0) rfl hSd ?_
    try simp only [Act.put,Qx,Qy,Qz]
    refine takeL (i:=1) rfl hSd ?_
    try simp only [Act.put,Qx,Qy,Qz]
    refine takeL (i:=2) rfl hSd ?_
    try simp only [Act.put,Qx,Qy,Qz]
    refine zA6 (i:=3) (by kernel_rfl) rfl (fun K hK=>?_)
    go_simp
    refine Calls.mono (HSh.out _ hSd) ?_
    rintro e wB ⟨g,cg,rfl,hgl,hcg,hPg,hbB⟩
    have hdr:wF.drew.heap.size=wF.heap.size:=rfl
    have hSB:KS V.heap.size wr.heap.size wF wB:=⟨hSd.1.trans (hbB.mono (by rw [hdr];exact hVF)),(hbB.block wr.heap.size (by rw [hdr];exact hlF)).trans rfl⟩
    have hFB:Bw wF wB:=zA (show Bw wF wF.drew by (repeat (first|exact Qr _ _|assumption|refine Qd ?_|refine Qa ?_ _|refine Qt ?_|refine Qs ?_ _|refine Qo ?_ ?_ _ _))) hbB
    have HOB:Hid (zQ1 V.heap.size wB (.slice va vn vc) k z S):=zCm HOF.out fun g hg=>hFB.block g (World.ownsRow.lt HOF.out g hg).2
    have hsB:V.heap.size≤wB.heap.size:=Nat.le_trans hVF hFB.size
    go_wp2_with fail
    refine hK.out _ _ (fun _=>hSB) ?_
    clear hK K hbB hdr
    try simp only [Act.put,Qx,Qy,Qz]
    refine zA6 (i:=4) (by kernel_rfl) rfl (fun K hK=>?_)
    go_simp
    generalize hwA:(World.alloc _ _:World)=wA
    have hbA:Bw wB wA:=by subst hwA;exact Qb
    have a0:wA.cell? ⟨wB.heap.size,0,none⟩=some (.int .i64 (G k).id):=by subst hwA;simp [go_sem]
    have a1:wA.cell? ⟨wB.heap.size,1,none⟩=some (.func (.func (byF (G k).ki)) #[] #[]):=by subst hwA;simp [go_sem]
    have a2:wA.cell? ⟨wB.heap.size,2,none⟩=some (.slice (some ⟨g,0,none⟩) (G k).n cg):=by subst hwA;simp [go_sem]
    have a3:wA.cell? ⟨wB.heap.size,3,none⟩=some (.int .i64 (yD (G k).wi z)):=by subst hwA;simp [go_sem]
    have hszA:wA.heap.size=wB.heap.size+1:=by subst hwA;simp
    have HOA:Hid (wA.ownsRow V.heap.size 263 4 (.slice va vn vc) k (vR z S k)):=by subst hwA;exact World.ownsRow.alloc HOB.out _
    have hSA:KS V.heap.size wr.heap.size wF wA:=⟨hSB.1.trans (hbA.mono hsB),(hbA.block wr.heap.size (Nat.lt_of_lt_of_le hlF hFB.size)).trans hSB.2⟩
    have hFA:Bw wF wA:=zA hFB hbA
    clear hwA
    refine hK.out _ _ (fun _=>hSA) ?_
    clear hK K
    try simp only [Act.put,Qx,Qy,Qz]
    refine zA6 (i:=5) (by kernel_rfl) rfl (fun K hK=>?_)
    refine yS rfl (.tmp 35) (.tmp 39) 259 rfl V.heap.size 263 si (.agg zS4) 4 48 Tryz.underlying259 hsi hs0 hs1 hs2 rfl (by decide) (.slice va vn vc) k (vR z S k) rfl HOA.out ⟨wB.heap.size,0,none⟩ 1 1 [.int .i64 (G k).id,.func (.func (byF (G k).ki)) #[] #[],.slice (some ⟨g,0,none⟩) (G k).n cg,.int .i64 (yD (G k).wi z)] rfl rfl ?c1 ?c2 ?c3 ?c4 ?c5 ?_
    case c1 =>
     intro q u hq
     match q,hq with
     | 0,hq=>exact (Option.some.inj hq) ▸ a0
     | 1,hq=>exact (Option.some.inj hq) ▸ a1
     | 2,hq=>exact (Option.some.inj hq) ▸ a2
     | 3,hq=>exact (Option.some.inj hq) ▸ a3
     | q+4,hq=>cases hq
    case c2=>intro u hu;simp at hu;rcases hu with rfl | rfl | rfl | rfl <;> rfl
    case c3=>unfold maxLen;omega
    case c4=>omega
    case c5=>first | omega | (simp;omega)
    intro v' w3' hown' hgrow hnil
    clear hnil
    have hBg:Below V.heap.size wA w3':=(Below.refl _ _).grown hgrow (by omega) (fun b hb=>(World.ownsRow.lt HOA.out b hb).1)
    have hAo:wA.heap[wr.heap.size]?=some (.cells #[.int .i64 (G k).id,.int .i64 (G k).la,.int .i64 (G k).ki,.int .i64 (G k).wi,.slice (some ⟨q,o,none⟩) (G k).n (G k).cap,.string (G k).lab,.int .i64 (G k).pr] 209 (0,0)):=hSA.2.trans HFo.out
    have hB3:KS V.heap.size wr.heap.size wF w3':=⟨hSA.1.trans hBg,(hgrow.block wr.heap.size (yC hAo) (fun e=>by obtain ⟨cc,hcc⟩:=zBs HOA.out wr.heap.size e.symm;rw [hAo] at hcc;injection hcc with hcc;injection hcc with _ hcc;exact absurd hcc (by decide))).trans hSA.2⟩
    obtain ⟨S',hS'⟩:∃ S':Nat→Shp,S'=fun i=>if i=k then ⟨(G k).id,(G k).ki,(G k).wi,g,(G k).n,cg,(G k).X,(G k).Y⟩ else S i:=⟨_,rfl⟩
    have HO4:Hid (zQ1 V.heap.size w3' v' (k+1) z S'):=by
     show World.ownsRow _ _ _ _ _ _ _
     rw [vR,zC6 (S':=S) (fun i hi=>by rw [hS'];simp only;rw [if_neg (by omega)])]
     have e:S' k=⟨(G k).id,(G k).ki,(G k).wi,g,(G k).n,cg,(G k).X,(G k).Y⟩:=by rw [hS'];exact if_pos rfl
     rw [e]
     exact hown'
    have HPS:Hid (∀ i,i<k+1→zJ9 w3' w3'.heap.size (S' i)∧zIg (S' i) (G i)):=fun i hi=>by
     have keepP:∀ s:Shp,zJ9 wA wA.heap.size s→zJ9 w3' w3'.heap.size s:=fun s ⟨p1,p2,p3,p4,p5⟩=>by
      have hne:some s.g≠(Value.slice va vn vc).ownBlock:=zQ1.not_pts HOA.out HK0.out p5 p2
      refine ⟨Nat.lt_of_lt_of_le p1 hgrow.size,p2,p3,p4,fun j hj=>⟨?_,?_⟩⟩
      ·exact hgrow.cell (p5 j hj).1 (fun e=>hne e)
      ·exact hgrow.cell (p5 j hj).2 (fun e=>hne e)
     rw [hS']
     by_cases e:i=k
     ·subst e
      simp only [↓reduceIte]
      refine ⟨keepP _ ⟨Nat.lt_of_lt_of_le hgl hbA.size,hOKk.n0,Nat.le_trans hOKk.n12 (by decide),hcg,hPg.below hbA hgl⟩,rfl,rfl,rfl,rfl,rfl,rfl⟩
     ·simp only [if_neg e]
      obtain ⟨⟨p1,p2,p3,p4,p5⟩,p6⟩:=HPF.out i (by omega)
      exact ⟨keepP _ ⟨Nat.lt_of_lt_of_le p1 hFA.size,p2,p3,p4,p5.below hFA p1⟩,p6⟩
    have n5:=c5' _ hB3
    have HT5:Hid (zD w3' B5 1):=fun o ho=>by
     obtain ⟨⟨x,hx⟩,hf⟩:=HTF.out o ho
     exact ⟨⟨x,(hB3.1.cell (p:=⟨B5,o,none⟩) hl5).trans hx⟩,(hB3.1.frozen (p:=⟨B5,o,none⟩) hl5).trans hf⟩
    have u5':=(HT5.out 0 (by omega)).2
    obtain ⟨ga,gc,rfl⟩:=zB8 hown'
    have hlo:∀ b,(Value.slice ga (k+1) gc).ownBlock=some b→V.heap.size≤b:=fun b hb=>(World.ownsRow.lt HO4.out b hb).1
    show K (Act.put _ (some 40) _) w3'
    refine hK.out _ _ (fun _=>hB3) ?_
    clear hK K hown' hgrow hBg hS'
    try simp only [Act.put,Qx,Qy,Qz]
    refine zA6 (i:=6) (by kernel_rfl) rfl (fun K hK=>?_)
    go_simp
    refine hK.out _ _ (fun h=>absurd rfl h) ?_
    clear hK K
    try simp only [Act.put,Qx,Qy,Qz]
    refine zKc (by kernel_rfl) ?_ _
    refine NoPanic.normal ?_
    have HB3:Hid (Below B5 V w3'):=HBF.out.trans (hB3.1.mono (Nat.le_of_lt hl5))
    have hVs:V.heap.size≤w3'.heap.size:=Nat.le_trans hVF hB3.1.size
    clear hB3 hSA hSB hSd hbA a0 a1 a2 a3 hszA HOA hFA hFB HOB HSh c5' q4' e0 e1 e2 e3 e4 e5 e6 hAo
    go_wp2_with fail
    go_roundw
    case rel =>
     have hne:∀ j:Nat,V.heap.size≤j→j≠B5:=fun j hj=>by omega
     refine ⟨k+1,S',.slice ga (k+1) gc,by omega,by go_num,RtSt.put HO4.out (fun h=>by omega) HPS.out n5 HT5.out HB3.out hl5 hVs⟩
    case measure=>simp [intOf];omega
   ·obtain rfl:k=n:=by omega
    have HPS:Hid (∀ i,i<k→zJ9 wr wr.heap.size (S i)∧zIg (S i) (G i)):=hPS
    have hSrc:=hO.src hK0 (fun i hi=>(hPS i hi).1)
    obtain ⟨va,vn,vc,hvs⟩:∃ va vn vc,v=.slice va vn vc:=by
     rcases hSrc with h | ⟨p,c,e,_⟩
     ·exact ⟨_,_,_,h.1⟩
     ·exact ⟨_,_,_,e⟩
    subst hvs
    have hvn:vn=k:=by
     rcases hSrc with ⟨h1,h2⟩ | ⟨p,c,e,_⟩
     ·injection h1 with _ h1;omega
     ·injection e with _ e
    subst hvn
    have HSR:Hid (zS2 wr.heap.size wr (.slice va vn vc) vn z S):=hSrc
    have r4:=(hB.cell (p:=⟨B4,0,none⟩) h45).trans v4
    have hBVw:=hB.mono (show w.heap.size+1+1≤B5 by omega)
    have HBr:Hid (Bw w wr):=HBV.out.trans (hB.mono (by omega))
    obtain ⟨g0,g1,g2,g3⟩:=HAV.out.below hBVw (by omega)
    have HTr:Hid (zD wr (w.heap.size+1) 2):=fun o ho=>by
     obtain ⟨⟨x,hx⟩,hf⟩:=HTV.out o ho
     exact ⟨⟨x,(hBVw.cell (p:=⟨w.heap.size+1,o,none⟩) (by simp)).trans hx⟩,(hBVw.frozen (p:=⟨w.heap.size+1,o,none⟩) (by simp)).trans hf⟩
    have hsr:w.heap.size+1<wr.heap.size:=by omega
    have HRS:Hid (Calls Tryz.prog 209 #[uL z x y,.func (.func 210) #[] #[.pointer (some ⟨B5,0,none⟩),.pointer (some ⟨B4,0,none⟩)]] wr fun e w'=>∃ v,e=.returned v∧zAq wr.heap.size w' v (zB4 (yE G vn z) (x * 8) (y * 8) 8 8)∧Bw wr w') :=
     zNd 210 _ z x y (yE G vn z) wr HRB.out zQn (fun W' c r hW hc hr=>by
      have hl4:B4<wr.heap.size:=by omega
      have hl5r:B5<wr.heap.size:=by omega
      exact zKu B4 B5 va vn vc z _ _ S G W' ((hW.cell (p:=⟨B4,0,none⟩) hl4).trans r4) ((hW.cell (p:=⟨B5,0,none⟩) hl5r).trans h5)
       (by
        rcases HSR.out.below hW with h | ⟨p,c,e,h1,h2⟩
        ·exact .inl h
        ·exact .inr ⟨p,c,e,Nat.lt_of_lt_of_le h1 hW.size,fun i hi=>⟨(h2 i hi).1,Nat.lt_of_lt_of_le (h2 i hi).2.1 hW.size,(h2 i hi).2.2⟩⟩)
       (fun i hi=>⟨Nat.lt_of_lt_of_le (HPS.out i hi).1.1 hW.size,((HPS.out i hi).1.below hW).2⟩) hn12 (fun i hi=>(HPS.out i hi).2) (zF4 HRB.out c r hc hr))
    rw [rasK_64] at HRS
    clear hO hK0 hPS hT5 hSrc hBVw hB r4 h5 v4 v5
    go_wp2_with fail
    refine Calls.mono HRS.out ?_
    rintro e w9 ⟨v9,rfl,hR9,hb9⟩
    have HR9:Hid (zAq wr.heap.size w9 v9 (zDw (yE G vn z) (x * 8) (y * 8) 64)):=hR9
    have hT9:=HTr.out.below hb9
    have HT9:Hid (zD w9 (w.heap.size+1) 2):=hT9
    have HB9:Hid (Bw w w9):=zA HBr.out hb9
    have t0:=hT9.cell 0 (by omega)
    have t1:=hT9.cell 1 (by omega)
    have f0:=(hT9 0 (by omega)).2
    have f1:=(hT9 1 (by omega)).2
    obtain ⟨xa,xn,xc,hxs⟩:∃ xa xn xc,v9=.slice xa xn xc:=by
     obtain ⟨a',c',e',_,_⟩:=hR9.own
     exact ⟨_,_,_,e'⟩
    subst hxs
    clear hR9 hb9 hT9
    go_wp2_with fail
    obtain ⟨q0,q1⟩:=set2t (a:=.int .i64 0) (b:=.slice xa xn xc) HT9.out
    refine bodyPost_ret (v:=.agg #[.int .i64 0,.slice xa xn xc]) (by simp [results,Tryz.results168,go_sem,q0,q1]) rfl ⟨_,by rw [HQ.out],?_,?_⟩
    ·rw [HL.out]
     exact (((HR9.out.other hsr).other hsr).wide (by omega)).own
    ·exact (HB9.out.setCell (Nat.le_succ _) _).setCell (Nat.le_succ _) _
 ·have HQ:Hid (rtC z x y n G=or2 rc fc):=by
   show _=_
   unfold rtC or2
   rw [HRC.out,HFC.out]
   by_cases h:rc=0
   ·rw [if_pos h,if_pos h]
    by_cases h2:fc=0
    ·exfalso;apply hor;unfold or2;rw [if_pos h];exact h2
    ·rw [if_neg h2]
   ·rw [if_neg h,if_neg h]
  have HL:Hid (rtL z x y n G=[]):=if_neg (by rw [HQ.out];exact hor)
  have hcb:(or2 rc fc == 0)=false:=by simpa using hor
  have t0:=hTA.cell 0 (by omega)
  have t1:=hTA.cell 1 (by omega)
  have f0:=(hTA 0 (by omega)).2
  have f1:=(hTA 1 (by omega)).2
  generalize or2 rc fc=oc at *
  clear hor hTA c0 c1 c2 c3
  go_wp2_with fail
  obtain ⟨q0,q1⟩:=set2t (a:=.int .i64 oc) (b:=.slice none 0 0) HTA.out
  refine bodyPost_ret (v:=.agg #[.int .i64 oc,.slice none 0 0]) (by simp [results,Tryz.results168,go_sem,q0,q1]) rfl ⟨_,by rw [HQ.out],?_,?_⟩
  ·rw [HL.out];exact zIs _ _
  ·exact (HBA.out.setCell (Nat.le_succ _) _).setCell (Nat.le_succ _) _
theorem zRc {z x y wd ht:Int}(h:zBy z x y wd ht=true){i:Nat}(hi:i<yV z x y wd ht):zAv ((xQ z x y wd).z i) ((xQ z x y wd).x i) ((xQ z x y wd).y i)=true:=by
 have hz:=vT h
 obtain ⟨⟨h1,h2⟩,h3,h4⟩:=zAd h
 obtain ⟨a1,a2,a3⟩:=zAr (x:=x) h1
 obtain ⟨b1,b2,b3⟩:=zAr (x:=y) h2
 have e:yV z x y wd ht=zDe y ht * zDe x wd:=by unfold yV;rw [if_pos h]
 rw [e] at hi
 have m1:i % zDe x wd<zDe x wd:=Nat.mod_lt _ (by omega)
 have m2:i / zDe x wd<zDe y ht:=Nat.div_lt_of_lt_mul (by rw [Nat.mul_comm];exact hi)
 show zAv z (x / 8+(i % zDe x wd:Nat)) (y / 8+(i / zDe x wd:Nat))=true
 generalize i % zDe x wd=u at *
 generalize i / zDe x wd=v at *
 generalize zDe x wd=NX at *
 generalize zDe y ht=NY at *
 have hzz:z=0∨z=1∨z=2∨z=3:=by
  simp [yH,inB] at hz
  omega
 rcases hzz with rfl | rfl | rfl | rfl <;> simp [zAp] at h3 h4 <;> simp [zAv,yH,inB,uF] <;> omega

end Go.Proofs.YtpaiholildedcaaGreat
