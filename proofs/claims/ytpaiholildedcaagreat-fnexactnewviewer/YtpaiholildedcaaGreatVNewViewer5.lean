/- Texts. -/
import Derived.Test.YtpaiholildedcaaGreatVNewViewer4
set_option linter.unusedSimpArgs false
set_option linter.unusedVariables false
set_option maxRecDepth 100000
set_option maxHeartbeats 32000000
namespace Go.Proofs.YtpaiholildedcaaGreat
open Go.RowKit
structure Rfs where
 z:Nat→Int
 x:Nat→Int
 y:Nat→Int
def zFf (w:World)(b off n:Nat)(R:Rfs):Prop:=∀ i,i<n→w.cell? ⟨b,off+i * 3,none⟩=some (.int .i64 (R.z i))∧w.cell? ⟨b,off+i * 3+1,none⟩=some (.int .i64 (R.x i))∧w.cell? ⟨b,off+i * 3+2,none⟩=some (.int .i64 (R.y i))
theorem zFf.below {w w':World}{b off n B:Nat}{R:Rfs}(h:zFf w b off n R)(hb:Below B w w')(hB:b<B):zFf w' b off n R:=fun i hi =>
 ⟨(hb.cell (p:=⟨b,off+i * 3,none⟩) hB).trans (h i hi).1,(hb.cell (p:=⟨b,off+i * 3+1,none⟩) hB).trans (h i hi).2.1,(hb.cell (p:=⟨b,off+i * 3+2,none⟩) hB).trans (h i hi).2.2⟩
def zC4 (w:World)(a:Option Addr)(n:Nat)(R:Rfs):Prop:=n=0∨∃ b off,a=some ⟨b,off,none⟩∧b<w.heap.size∧zFf w b off n R
theorem zC4.below {w w':World}{a:Option Addr}{n:Nat}{R:Rfs}(h:zC4 w a n R)(hb:Below w.heap.size w w'):zC4 w' a n R:=by
 rcases h with h | ⟨b,off,e,hl,hz⟩
 ·exact .inl h
 ·exact .inr ⟨b,off,e,Nat.lt_of_lt_of_le hl hb.size,hz.below hb hl⟩
theorem zC.setR {W:World}{r n:Nat}(h:zC W r n)(o:Nat)(v:Value):zC (W.setCell ⟨r,o,none⟩ v) r n:=fun o' ho=>by
 obtain ⟨u,hu⟩:=(h o' ho).1
 refine ⟨?_,?_⟩
 ·by_cases e:o=o'
  ·subst e
   exact ⟨v,World.cell?_setCell_same _ _ _ (by rw [hu])⟩
  ·exact ⟨u,by rw [World.cell?_setCell_other];exact hu;simp [e]⟩
 ·rw [World.frozen?_setCell];exact (h o' ho).2
theorem fillR {W:World}{B n k:Nat}{R:Rfs}(hT:zC W B (n * 3))(hk:k<n)(hp:zFf W B 0 k R) :
  zFf (((W.setCell ⟨B,k * 3,none⟩ (.int .i64 (R.z k))).setCell ⟨B,k * 3+1,none⟩ (.int .i64 (R.x k))).setCell ⟨B,k * 3+2,none⟩ (.int .i64 (R.y k))) B 0 (k+1) R:=fun i hi=>by
 have ne:∀ i j:Nat,i≠j→(⟨B,i,none⟩:Addr)≠⟨B,j,none⟩:=fun i j hij h=>hij (by injection h)
 simp only [Nat.zero_add]
 by_cases e:i=k
 ·subst e
  obtain ⟨u0,h0⟩:=(hT (i * 3) (by omega)).1
  obtain ⟨u1,h1⟩:=(hT (i * 3+1) (by omega)).1
  obtain ⟨u2,h2⟩:=(hT (i * 3+2) (by omega)).1
  refine ⟨?_,?_,?_⟩
  ·rw [zA (ne _ _ (by omega)),zA (ne _ _ (by omega))];exact zD h0
  ·rw [zA (ne _ _ (by omega))];exact zD (by rw [zA (ne _ _ (by omega))];exact h1)
  ·exact zD (by rw [zA (ne _ _ (by omega)),zA (ne _ _ (by omega))];exact h2)
 ·obtain ⟨h0,h1,h2⟩:=hp i (by omega)
  simp only [Nat.zero_add] at h0 h1 h2
  refine ⟨?_,?_,?_⟩
  all_goals (rw [zA (ne _ _ (by omega)),zA (ne _ _ (by omega)),zA (ne _ _ (by omega))];assumption)
theorem yZ {w w':World}{b:Nat}(h:w.grownBy w' (some b))(o:Nat)(v:Value):w.grownBy (w'.setCell ⟨b,o,none⟩ v) (some b):=by
 have hb:Below b w' (w'.setCell ⟨b,o,none⟩ v):=(Below.refl b w').setCell (Nat.le_refl _) v
 exact ⟨hb.os.trans h.os,hb.tape.trans h.tape,hb.output.trans h.output,Nat.le_trans h.size hb.size,fun k hk hne=>(Below.heap_setCell w' ⟨b,o,none⟩ v k (fun e=>hne (by simp at e;rw [e]))).trans (h.block k hk hne)⟩
theorem zCt (w:World)(row:Option Nat):w.grownBy w row:=⟨rfl,rfl,rfl,Nat.le_refl _,fun _ _ _=>rfl⟩
theorem zI4 (a c:Option Addr)(n capa capc:Nat)(R:Rfs)(w:World)(hp:zC4 w a n R)(hq:zC4 w c n R)(hmax:n≤1048576) :
  Calls Tryz.prog 37 #[.slice a n capa,.slice c n capc] w fun e w'=>e=.returned (.bool true)∧Bw w w':=by
 have HP:Hid (zC4 w a n R):=hp
 have HQ:Hid (zC4 w c n R):=hq
 clear hp hq
 go_enter Tryz.func37,Tryz.ntmps37
 go_wp2
 go_loopw [5] (fun i wr=>∃ k:Nat,k≤n∧i=.int .i64 k∧Bw w wr) (fun i _=>n - (intOf i).toNat)
 case atStart=>exact ⟨0,by omega,rfl,Below.refl _ _⟩
 case round =>
  obtain ⟨k,hk,rfl,hB⟩:=hrel
  by_cases hlt:k<n
  ·rcases HP.out with h0 | ⟨b,off,rfl,hb,hpt⟩
   ·omega
   rcases HQ.out with h0 | ⟨d,off',rfl,hd,hqt⟩
   ·omega
   have P1:=fun W' (h:Below wr.heap.size wr W')=>((hpt.below hB hb).below h (Nat.lt_of_lt_of_le hb hB.size)) k hlt
   have Q1:=fun W' (h:Below wr.heap.size wr W')=>((hqt.below hB hd).below h (Nat.lt_of_lt_of_le hd hB.size)) k hlt
   have c0:∀ W',Bw wr W'→W'.cell? ⟨b,off+k * 3,none⟩=some (.int .i64 (R.z k)):=fun W' h=>(P1 W' h).1
   have c1:∀ W',Bw wr W'→W'.cell? ⟨b,off+k * 3+1,none⟩=some (.int .i64 (R.x k)):=fun W' h=>(P1 W' h).2.1
   have c2:∀ W',Bw wr W'→W'.cell? ⟨b,off+k * 3+2,none⟩=some (.int .i64 (R.y k)):=fun W' h=>(P1 W' h).2.2
   have e0:∀ W',Bw wr W'→W'.cell? ⟨d,off'+k * 3,none⟩=some (.int .i64 (R.z k)):=fun W' h=>(Q1 W' h).1
   have e1:∀ W',Bw wr W'→W'.cell? ⟨d,off'+k * 3+1,none⟩=some (.int .i64 (R.x k)):=fun W' h=>(Q1 W' h).2.1
   have e2:∀ W',Bw wr W'→W'.cell? ⟨d,off'+k * 3+2,none⟩=some (.int .i64 (R.y k)):=fun W' h=>(Q1 W' h).2.2
   have HB:Hid (Bw w wr):=hB
   clear hB hpt hqt P1 Q1
   have hi:(k:Int)<(n:Int):=by omega
   have hi0:(0:Int)≤(k:Int):=by omega
   go_wp2
   go_region_held3 (fun W'=>Bw wr W') ((repeat (first|exact Qr _ _|assumption|refine Qd ?_|refine Qa ?_ _|refine Qt ?_|refine Qs ?_ _|refine Qo ?_ ?_ _ _)))
    (first
     | (go_at_call 85;refine (zCw _ _ _ _).mono ?_;rintro e w' ⟨rfl,hb⟩))
   go_wp2
   go_roundw
   case rel=>exact ⟨k+1,by omega,by go_num,zB HB.out (by assumption)⟩
   case measure=>simp [intOf];omega
  ·go_wp2
   go_ret
   exact ⟨rfl,hB⟩
def mkR (k0:Nat):Rfs:=⟨fun i=>((k0+3 * i:Nat):Int),fun i=>((k0+3 * i+1:Nat):Int),fun i=>((k0+3 * i+2:Nat):Int)⟩
theorem zFs (b n cap k0:Nat)(w:World)(hT:zC w b (n * 3))(hb:b<w.heap.size)(hmax:n≤1048576)(hk0:k0≤1125899906842624) :
  Calls Tryz.prog 38 #[.slice (some ⟨b,0,none⟩) n cap,.int .i64 (k0:Int)] w fun e w'=>e=.returned (.int .i64 ((k0+3 * n:Nat):Int))∧w.grownBy w' (some b)∧zC w' b (n * 3)∧zFf w' b 0 n (mkR k0):=by
 have HT0:Hid (zC w b (n * 3)):=hT
 clear hT
 go_enter Tryz.func38,Tryz.ntmps38
 go_wp2_with fail
 go_loopw [1,5] (fun kk i wr=>∃ j K:Nat,j≤n∧Hid (K=k0+3 * j)∧kk=.int .i64 (K:Int)∧i=.int .i64 (j:Int)∧w.grownBy wr (some b)∧zC wr b (n * 3)∧zFf wr b 0 j (mkR k0)) (fun _ i _=>n - (intOf i).toNat)
 case atStart=>exact ⟨0,k0,by omega,rfl,rfl,rfl,zCt _ _,HT0.out,fun i hi=>by omega⟩
 case round =>
  obtain ⟨j,K,hj,HK,rfl,rfl,hG,hT,hP⟩:=hrel
  by_cases hlt:j<n
  ·have hKb:K≤1125899909988352:=by have:=HK.out;omega
   have t0:=hT.cell (j * 3) (by omega)
   have t1:=hT.cell (j * 3+1) (by omega)
   have t2:=hT.cell (j * 3+2) (by omega)
   have f0:=(hT (j * 3) (by omega)).2
   have f1:=(hT (j * 3+1) (by omega)).2
   have f2:=(hT (j * 3+2) (by omega)).2
   have HT:Hid (zC wr b (n * 3)):=hT
   have HG:Hid (w.grownBy wr (some b)):=hG
   have HP:Hid (zFf wr b 0 j (mkR k0)):=hP
   clear hT hG hP
   have hi:(j:Int)<(n:Int):=by omega
   go_wp2
   go_roundw
   case rel =>
    have hz:(mkR k0).z j=(K:Int):=by have:=HK.out;simp [mkR];omega
    have hx:(mkR k0).x j=(K:Int)+1:=by have:=HK.out;simp [mkR];omega
    have hy:(mkR k0).y j=(K:Int)+1+1:=by have:=HK.out;simp [mkR];omega
    have hfs:=fillR (R:=mkR k0) HT.out hlt HP.out
    rw [hz,hx,hy] at hfs
    exact ⟨j+1,K+3,by omega,by have:=HK.out;show _=_;omega,by go_num,by go_num,yZ (yZ (yZ HG.out _ _) _ _) _ _,((HT.out.setR _ _).setR _ _).setR _ _,hfs⟩
   case measure=>simp [intOf];omega
  ·go_wp2
   go_ret
   have hjn:j=n:=by omega
   subst hjn
   exact ⟨zH (by have:=HK.out;omega),hG,hT,hP⟩
theorem zAv (a:Option Addr)(cap:Nat)(k:Int)(w:World):Calls Tryz.prog 38 #[.slice a 0 cap,.int .i64 k] w fun e w'=>e=.returned (.int .i64 k)∧w=w':=by
 go_enter Tryz.func38,Tryz.ntmps38
 go_wp2_with fail
 go_loopw [1,5] (fun kk i wr=>kk=.int .i64 k∧i=.int .i64 0∧w=wr) (fun _ _ _=>0)
 case atStart=>exact ⟨rfl,rfl,rfl⟩
 case round =>
  obtain ⟨rfl,rfl,rfl⟩:=hrel
  go_wp2
  go_ret
  exact ⟨rfl,rfl⟩
theorem zF4 (a:Option Addr)(n cap k0:Nat)(w:World)(hp:zC4 w a n (mkR k0))(hmax:n≤1048576)(hk0:k0≤1125899906842624) :
  Calls Tryz.prog 39 #[.slice a n cap,.int .i64 (k0:Int)] w fun e w'=>e=.returned (.int .i64 ((k0+3 * n:Nat):Int))∧Bw w w':=by
 have HP:Hid (zC4 w a n (mkR k0)):=hp
 clear hp
 go_enter Tryz.func39,Tryz.ntmps39
 go_wp2_with fail
 go_loopw [1,5] (fun kk i wr=>∃ j K:Nat,j≤n∧Hid (K=k0+3 * j)∧kk=.int .i64 (K:Int)∧i=.int .i64 (j:Int)∧Bw w wr) (fun _ i _=>n - (intOf i).toNat)
 case atStart=>exact ⟨0,k0,by omega,rfl,rfl,rfl,Below.refl _ _⟩
 case round =>
  obtain ⟨j,K,hj,HK,rfl,rfl,hB⟩:=hrel
  by_cases hlt:j<n
  ·rcases HP.out with h0 | ⟨b,off,rfl,hbl,hpt⟩
   ·omega
   have hKb:K≤1125899909988352:=by have:=HK.out;omega
   have hz:(mkR k0).z j=(K:Int):=by have:=HK.out;simp [mkR];omega
   have hx:(mkR k0).x j=(K:Int)+1:=by have:=HK.out;simp [mkR];omega
   have hy:(mkR k0).y j=(K:Int)+1+1:=by have:=HK.out;simp [mkR];omega
   obtain ⟨t0,t1,t2⟩:=(hpt.below hB hbl) j hlt
   rw [hz] at t0
   rw [hx] at t1
   rw [hy] at t2
   have HB:Hid (Bw w wr):=hB
   clear hB hpt hz hx hy
   have hi:(j:Int)<(n:Int):=by omega
   have hi0:(0:Int)≤(j:Int):=by omega
   go_wp2
   go_roundw
   case rel=>exact ⟨j+1,K+3,by omega,by have:=HK.out;show _=_;omega,by go_num,by go_num,HB.out⟩
   case measure=>simp [intOf];omega
  ·go_wp2
   go_ret
   have hjn:j=n:=by omega
   subst hjn
   exact ⟨zH (by have:=HK.out;omega),hB⟩
def zGk (w:World)(base:Nat)(v:Value)(n:Nat)(R:Rfs):Prop :=
 ∃ a cap,v=.slice a n cap∧n≤cap∧(n=0∨∃ b,a=some ⟨b,0,none⟩∧base≤b∧b<w.heap.size∧zFf w b 0 n R∧zC w b (n * 3))
theorem zGk.pts {w:World}{base:Nat}{v:Value}{n:Nat}{R:Rfs}(h:zGk w base v n R):∃ a cap,v=.slice a n cap∧n≤cap∧zC4 w a n R:=by
 obtain ⟨a,cap,hv,hc,h0 | ⟨b,ha,hb,hl,hp,ht⟩⟩:=h
 ·exact ⟨a,cap,hv,hc,.inl h0⟩
 ·exact ⟨a,cap,hv,hc,.inr ⟨b,0,ha,hl,hp⟩⟩
def zMh (T:Nat)(w:World)(a:Option Addr)(n:Nat)(R:Rfs):Prop:=n=0∨∃ b off,a=some ⟨b,off,none⟩∧b<T∧zFf w b off n R
theorem zMh.is {T:Nat}{w:World}{a:Option Addr}{n:Nat}{R:Rfs}(h:zMh T w a n R)(hT:T≤w.heap.size):zC4 w a n R:=by
 rcases h with h | ⟨b,off,e,hl,hp⟩
 ·exact .inl h
 ·exact .inr ⟨b,off,e,by omega,hp⟩
theorem vW {w w':World}{p:Addr}{v:Value}(hb:Below w.heap.size w w')(h:w.cell? p=some v):w'.cell? p=some v:=(hb.cell (World.block_lt_of_cell? _ _ h)).trans h
theorem yN {B:Nat}{row:Option Nat}{a b:World}(h:a.grownBy b row)(hs:∀ s,row=some s→B≤s)(hl:B≤a.heap.size):Below B a b :=
 ⟨h.os,h.tape,h.output,h.size,fun k hk=>h.block k (by omega) (fun e=>by have:=hs k e.symm;omega)⟩
structure Req where
 z:Int
 x:Int
 y:Int
 du:Int
 tr:Int
abbrev zFe (e:Req):Value:=.agg #[.int .i64 e.z,.int .i64 e.x,.int .i64 e.y,.int .i64 e.du,.int .i64 e.tr]
def zGj (w:World)(p o:Nat)(e:Req):Prop:=w.cell? ⟨p,o,none⟩=some (.int .i64 e.z)∧w.cell? ⟨p,o+1,none⟩=some (.int .i64 e.x)∧w.cell? ⟨p,o+2,none⟩=some (.int .i64 e.y)∧w.cell? ⟨p,o+3,none⟩=some (.int .i64 e.du)∧w.cell? ⟨p,o+4,none⟩=some (.int .i64 e.tr)
theorem zGj.below {w w':World}{p o B:Nat}{e:Req}(h:zGj w p o e)(hb:Below B w w')(hp:p<B):zGj w' p o e:=by
 obtain ⟨h0,h1,h2,h3,h4⟩:=h
 exact ⟨(hb.cell (p:=⟨p,o,none⟩) hp).trans h0,(hb.cell (p:=⟨p,o+1,none⟩) hp).trans h1,(hb.cell (p:=⟨p,o+2,none⟩) hp).trans h2,(hb.cell (p:=⟨p,o+3,none⟩) hp).trans h3,(hb.cell (p:=⟨p,o+4,none⟩) hp).trans h4⟩
def vG (w:World)(p off n:Nat)(E:Nat→Req):Prop:=∀ i,i<n→zGj w p (off+i * 5) (E i)
theorem vG.below {w w':World}{p off n B:Nat}{E:Nat→Req}(h:vG w p off n E)(hb:Below B w w')(hp:p<B):vG w' p off n E:=fun i hi=>(h i hi).below hb hp
def xV (w:World)(a:Option Addr)(n:Nat)(E:Nat→Req):Prop:=n=0∨∃ b off,a=some ⟨b,off,none⟩∧b<w.heap.size∧vG w b off n E
theorem xV.below {w w':World}{a:Option Addr}{n:Nat}{E:Nat→Req}(h:xV w a n E)(hb:Below w.heap.size w w'):xV w' a n E:=by
 rcases h with h | ⟨b,off,e,hl,hp⟩
 ·exact .inl h
 ·exact .inr ⟨b,off,e,Nat.lt_of_lt_of_le hl hb.size,hp.below hb hl⟩
theorem zC.outW {w:World}{O r n o:Nat}{x:Value}(h:zC w r n)(hne:O≠r):zC (w.setCell ⟨O,o,none⟩ x) r n:=fun i hi=>by
 obtain ⟨u,hu⟩:=(h i hi).1
 refine ⟨⟨u,?_⟩,?_⟩
 ·rw [zA (fun e=>hne (by injection e))];exact hu
 ·rw [World.frozen?_setCell];exact (h i hi).2
def uX (W:World)(B o:Nat)(e:Req):World:=(((((W.setCell ⟨B,o,none⟩ (.int .i64 e.z)).setCell ⟨B,o+1,none⟩ (.int .i64 e.x)).setCell ⟨B,o+2,none⟩ (.int .i64 e.y)).setCell ⟨B,o+3,none⟩ (.int .i64 e.du)).setCell ⟨B,o+4,none⟩ (.int .i64 e.tr))
theorem xY {W:World}{B o:Nat}{e:Req}{p:Addr}(h:p.block≠B∨p.off<o∨o+4<p.off):(uX W B o e).cell? p=W.cell? p:=by
 have ne:∀ k:Nat,k≤4→(⟨B,o+k,none⟩:Addr)≠p:=fun k hk e=>by subst e;simp at h;omega
 have ne0:(⟨B,o,none⟩:Addr)≠p:=ne 0 (by omega)
 unfold uX
 rw [zA (ne 4 (by omega)),zA (ne 3 (by omega)),zA (ne 2 (by omega)),zA (ne 1 (by omega)),zA ne0]
theorem zCo {W:World}{B o m:Nat}{e:Req}(h:zC W B m):zC (uX W B o e) B m:=by
 unfold uX
 exact (((((h.set _ _).set _ _).set _ _).set _ _).set _ _)
theorem zD1 (W:World)(B o:Nat)(e:Req):(uX W B o e).heap.size=W.heap.size:=by unfold uX;simp
theorem zCp {V W:World}{n B o:Nat}{e:Req}(h:Below n V W)(hB:n≤B):Below n V (uX W B o e):=by
 unfold uX
 exact (((((h.setCell hB _).setCell hB _).setCell hB _).setCell hB _).setCell hB _)
theorem zH0 {W:World}{B o m:Nat}{e:Req}(h:zC W B m)(ho:o+4<m):zGj (uX W B o e) B o e:=by
 have ne:∀ i j:Nat,i≠j→(⟨B,i,none⟩:Addr)≠⟨B,j,none⟩:=fun i j hij h=>hij (by injection h)
 obtain ⟨u0,g0⟩:=(h (o) (by omega)).1
 obtain ⟨u1,g1⟩:=((h.set (o) (.int .i64 e.z)) (o+1) (by omega)).1
 obtain ⟨u2,g2⟩:=(((h.set (o) (.int .i64 e.z)).set (o+1) (.int .i64 e.x)) (o+2) (by omega)).1
 obtain ⟨u3,g3⟩:=((((h.set (o) (.int .i64 e.z)).set (o+1) (.int .i64 e.x)).set (o+2) (.int .i64 e.y)) (o+3) (by omega)).1
 obtain ⟨u4,g4⟩:=(((((h.set (o) (.int .i64 e.z)).set (o+1) (.int .i64 e.x)).set (o+2) (.int .i64 e.y)).set (o+3) (.int .i64 e.du)) (o+4) (by omega)).1
 unfold uX
 refine ⟨?_,?_,?_,?_,?_⟩
 ·rw [zA (ne (o+4) (o) (by omega)),zA (ne (o+3) (o) (by omega)),zA (ne (o+2) (o) (by omega)),zA (ne (o+1) (o) (by omega))];exact zD g0
 ·rw [zA (ne (o+4) (o+1) (by omega)),zA (ne (o+3) (o+1) (by omega)),zA (ne (o+2) (o+1) (by omega))];exact zD g1
 ·rw [zA (ne (o+4) (o+2) (by omega)),zA (ne (o+3) (o+2) (by omega))];exact zD g2
 ·rw [zA (ne (o+4) (o+3) (by omega))];exact zD g3
 ·exact zD g4
theorem vG.lay {W:World}{B n k:Nat}{E:Nat→Req}(h:vG W B 0 k E)(hT:zC W B (n * 5))(hk:k<n):vG (uX W B (k * 5) (E k)) B 0 (k+1) E:=fun i hi=>by
 by_cases e:i=k
 ·subst e
  rw [Nat.zero_add]
  exact zH0 hT (by omega)
 ·have h':=h i (by omega)
  unfold zGj at h' ⊢
  rw [xY (.inr (.inl (by simp;omega))),xY (.inr (.inl (by simp;omega))),xY (.inr (.inl (by simp;omega))),xY (.inr (.inl (by simp;omega))),xY (.inr (.inl (by simp;omega)))]
  exact h'
abbrev zJi:Array Value:=#[.int .i64 0,.int .i64 0,.int .i64 0,.int .i64 0,.int .i64 0]
theorem info_iw:(Tryz.prog.info? 134).map (fun i=>(i.zero,i.size,i.bytes))=some (some (.agg zJi),5,40):=by kernel_rfl
theorem zJ6 (n:Nat)(h:n≤1048576)(w:World) :
  (Instr.makeSlice 29 (.int .i64 (n:Int)) (.int .i64 (n:Int))).run Tryz.prog w=.ok (.slice (some ⟨w.heap.size,0,none⟩) n n) (w.alloc (.cells (madeCells zJi (n * 5)) 134)):=by
 obtain ⟨i,hi,hz,hs,hb⟩:=info_parts info_iw
 have hr:=run_make (P:=Tryz.prog) w 29 134 i _ Tryz.underlying29 hi hz .i64 .i64 (n:Int) (n:Int) (by omega) (Int.le_refl _) (by rw [hb];omega) (by omega)
 simp only [Int.toNat_natCast,hs] at hr
 exact hr
theorem zGt (n:Nat)(w:World)(t:TypeId):zC (w.alloc (.cells (madeCells zJi n) t)) w.heap.size n:=fun o ho=>by
 have hz:=size_madeCells zJi n
 refine ⟨⟨(madeCells zJi n)[o]'(by rw [hz];exact ho),?_⟩,World.frozen?_alloc_at _ _ _ _ rfl⟩
 rw [World.cell?_alloc_at _ _ _ _ rfl]
 exact Array.getElem?_eq_getElem _
theorem zEj (e:Req)(w:World):Calls Tryz.prog 96 #[zFe e] w fun r w'=>r=.returned (zFe e)∧Bw w w':=by
 go_enter Tryz.func96,Tryz.ntmps96
 go_wp2_with fail
 generalize hW:(((w.alloc _).alloc _).alloc _:World)=W
 have hB0:Bw w W:=by subst hW;exact Qb
 have hT1:zC W (w.heap.size+1) 5:=fun o ho=>by
  subst hW
  have hc:o=0∨o=1∨o=2∨o=3∨o=4:=by omega
  rcases hc with rfl | rfl | rfl | rfl | rfl <;> exact ⟨⟨_,by simp [go_sem];rfl⟩,by simp [go_sem]⟩
 have hT2:zC W (w.heap.size+1+1) 5:=fun o ho=>by
  subst hW
  have hc:o=0∨o=1∨o=2∨o=3∨o=4:=by omega
  rcases hc with rfl | rfl | rfl | rfl | rfl <;> exact ⟨⟨_,by simp [go_sem];rfl⟩,by simp [go_sem]⟩
 have c3:W.cell? ⟨w.heap.size,3,none⟩=some (.int .i64 e.du):=by subst hW;simp [go_sem]
 have c4:W.cell? ⟨w.heap.size,4,none⟩=some (.int .i64 e.tr):=by subst hW;simp [go_sem]
 have hsz:w.heap.size+1+1<W.heap.size:=by subst hW;simp
 clear hW
 refine (zJl _ _ _ _).mono ?_
 rintro r w1 ⟨rfl,hb1⟩
 have hT1':=hT1.below hb1
 have hT2':=hT2.below hb1
 have c3':w1.cell? ⟨w.heap.size,3,none⟩=some (.int .i64 e.du):=(hb1.cell (p:=⟨w.heap.size,3,none⟩) (by show w.heap.size<_;omega)).trans c3
 have c4':w1.cell? ⟨w.heap.size,4,none⟩=some (.int .i64 e.tr):=(hb1.cell (p:=⟨w.heap.size,4,none⟩) (by show w.heap.size<_;omega)).trans c4
 have HB1:Hid (Bw w w1):=zB hB0 hb1
 have s0:=hT1'.cell 0 (by omega)
 have s1:=hT1'.cell 1 (by omega)
 have s2:=hT1'.cell 2 (by omega)
 have s3:=hT1'.cell 3 (by omega)
 have s4:=hT1'.cell 4 (by omega)
 have y0:=(hT1' 0 (by omega)).2
 have y1:=(hT1' 1 (by omega)).2
 have y2:=(hT1' 2 (by omega)).2
 have y3:=(hT1' 3 (by omega)).2
 have y4:=(hT1' 4 (by omega)).2
 have t0:=hT2'.cell 0 (by omega)
 have t1:=hT2'.cell 1 (by omega)
 have t2:=hT2'.cell 2 (by omega)
 have t3:=hT2'.cell 3 (by omega)
 have t4:=hT2'.cell 4 (by omega)
 have z0:=(hT2' 0 (by omega)).2
 have z1:=(hT2' 1 (by omega)).2
 have z2:=(hT2' 2 (by omega)).2
 have z3:=(hT2' 3 (by omega)).2
 have z4:=(hT2' 4 (by omega)).2
 have HT1:Hid (zC w1 (w.heap.size+1) 5):=hT1'
 clear hT1 hT2 c3 c4 hb1 hB0 hT1' hT2'
 have hsz':=hsz
 clear hsz
 go_wp2_with fail
 have key:∀ (T:Array Value) (Wf:World),T[2]?.getD undef=.pointer (some ⟨w.heap.size+1,0,none⟩)→zGj Wf (w.heap.size+1) 0 e→(results Tryz.f96 T).run Tryz.prog Wf=.ok (zFe e) Wf:=fun T Wf hT ⟨h0,h1,h2,h3,h4⟩=>by
  simp only [Nat.zero_add] at h0 h1 h2 h3 h4
  simp [results,Tryz.results96,go_sem,hT,h0,h1,h2,h3,h4]
 have hL:∀ V:World,zC V (w.heap.size+1) 5→zGj (uX V (w.heap.size+1) 0 e) (w.heap.size+1) 0 e:=fun V hV=>zH0 hV (by omega)
 refine bodyPost_ret (key _ _ rfl (hL _ ?_)) rfl ⟨rfl,?_⟩
 ·exact (((((HT1.out.outW (by omega)).outW (by omega)).outW (by omega)).outW (by omega)).outW (by omega))
 ·exact ((((((((((HB1.out.setCell (by simp;omega) _).setCell (by simp;omega) _).setCell (by simp;omega) _).setCell (by simp;omega) _).setCell (by simp;omega) _).setCell (by simp) _).setCell (by simp) _).setCell (by simp) _).setCell (by simp) _).setCell (by simp) _)
theorem zK3 (a:Option Addr)(n cap:Nat)(E:Nat→Req)(w:World)(hp:xV w a n E)(hmax:n≤1048576) :
  Calls Tryz.prog 46 #[.slice a n cap] w fun e w'=>∃ b,e=.returned (.slice (some ⟨b,0,none⟩) n n)∧w.heap.size≤b∧b<w'.heap.size∧vG w' b 0 n E∧zC w' b (n * 5)∧Bw w w':=by
 have hmk:=zJ6 n hmax
 have HP:Hid (xV w a n E):=hp
 clear hp
 go_enter Tryz.func46,Tryz.ntmps46
 go_wp2
 generalize hW:(w.alloc _:World)=W
 have HB0:Hid (Bw w W):=by show Below _ _ _;subst hW;exact Qb
 have HT0:Hid (zC W w.heap.size (n * 5)):=by show zC _ _ _;subst hW;exact zGt _ _ _
 have HL0:Hid (w.heap.size<W.heap.size):=by show _<_;subst hW;simp
 clear hW hmk
 go_loopw [4] (fun i wr=>∃ (k:Nat),k≤n∧i=.int .i64 k∧Bw w wr∧zC wr w.heap.size (n * 5)∧vG wr w.heap.size 0 k E∧w.heap.size<wr.heap.size) (fun i _=>n - (intOf i).toNat)
 case atStart=>exact ⟨0,by omega,rfl,HB0.out,HT0.out,fun i hi=>by omega,HL0.out⟩
 case round =>
  obtain ⟨k,hk,rfl,hB,hT,hO,hlw⟩:=hrel
  by_cases hlt:k<n
  ·rcases HP.out with h0 | ⟨b,off,rfl,hbl,hpt⟩
   ·omega
   ·obtain ⟨f0,f1,f2,f3,f4⟩:=(hpt.below hB hbl) k hlt
    have HB:Hid (Bw w wr):=hB
    have HT:Hid (zC wr w.heap.size (n * 5)):=hT
    have HO:Hid (vG wr w.heap.size 0 k E):=hO
    clear hB hT hO hpt
    have hi:(k:Int)<(n:Int):=by omega
    have hi0:(0:Int)≤(k:Int):=by omega
    go_wp2_with fail
    refine (zEj (E k) _).mono ?_
    rintro e w' ⟨rfl,hb⟩
    have hT':=HT.out.below hb
    have t0:=hT'.cell (k * 5+0) (by omega)
    have t1:=hT'.cell (k * 5+1) (by omega)
    have t2:=hT'.cell (k * 5+2) (by omega)
    have t3:=hT'.cell (k * 5+3) (by omega)
    have t4:=hT'.cell (k * 5+4) (by omega)
    have y0:=(hT' (k * 5+0) (by omega)).2
    have y1:=(hT' (k * 5+1) (by omega)).2
    have y2:=(hT' (k * 5+2) (by omega)).2
    have y3:=(hT' (k * 5+3) (by omega)).2
    have y4:=(hT' (k * 5+4) (by omega)).2
    simp only [Nat.add_zero] at t0 y0
    have HT':Hid (zC w' w.heap.size (n * 5)):=hT'
    have HBn:Hid (Bw wr w'):=hb
    clear hT' hb f0 f1 f2 f3 f4
    go_wp2
    go_roundw
    case rel =>
     refine ⟨k+1,by omega,by go_num,?_,?_,?_,?_⟩
     ·exact zCp (e:=E k) (B:=w.heap.size) (o:=k * 5) (HB.out.trans (HBn.out.mono HB.out.size)) (Nat.le_refl _)
     ·exact zCo (e:=E k) (B:=w.heap.size) (o:=k * 5) HT'.out
     ·exact vG.lay (HO.out.below HBn.out hlw) HT'.out hlt
     ·have:=HBn.out.size
      show _<(uX w' w.heap.size (k * 5) (E k)).heap.size
      rw [zD1];omega
    case measure=>simp [intOf];omega
  ·go_wp2
   go_ret
   have hkn:k=n:=by omega
   subst hkn
   exact ⟨_,rfl,Nat.le_refl _,hlw,hO,hT,hB⟩
theorem zE6 (e:Req)(w:World):Calls Tryz.prog 100 #[zFe e,zFe e] w fun r w'=>r=.returned (.bool true)∧Bw w w':=by
 go_enter Tryz.func100,Tryz.ntmps100
 go_wp2_with fail
 generalize hW:((w.alloc _).alloc _:World)=W
 have hB0:Bw w W:=by subst hW;exact Qb
 have c3:∀ W',Bw W W'→W'.cell? ⟨w.heap.size,3,none⟩=some (.int .i64 e.du):=fun W' h=>by rw [h.cell (by subst hW;simp;omega)];subst hW;simp [go_sem]
 have c4:∀ W',Bw W W'→W'.cell? ⟨w.heap.size,4,none⟩=some (.int .i64 e.tr):=fun W' h=>by rw [h.cell (by subst hW;simp;omega)];subst hW;simp [go_sem]
 have d3:∀ W',Bw W W'→W'.cell? ⟨w.heap.size+1,3,none⟩=some (.int .i64 e.du):=fun W' h=>by rw [h.cell (by subst hW;simp)];subst hW;simp [go_sem]
 have d4:∀ W',Bw W W'→W'.cell? ⟨w.heap.size+1,4,none⟩=some (.int .i64 e.tr):=fun W' h=>by rw [h.cell (by subst hW;simp)];subst hW;simp [go_sem]
 clear hW
 refine (zCw _ _ _ _).mono ?_
 rintro r w1 ⟨rfl,hb1⟩
 have k3:=c3 w1 hb1
 have k4:=c4 w1 hb1
 have l3:=d3 w1 hb1
 have l4:=d4 w1 hb1
 have HB1:Hid (Bw w w1):=zB hB0 hb1
 clear c3 c4 d3 d4 hb1 hB0
 go_wp2
 go_ret
 exact ⟨rfl,HB1.out⟩
theorem zDq (a a':Option Addr)(n cap cap':Nat)(E:Nat→Req)(w:World)(hp:xV w a n E)(hq:xV w a' n E)(hmax:n≤1048576) :
  Calls Tryz.prog 51 #[.slice a n cap,.slice a' n cap'] w fun e w'=>e=.returned (.bool true)∧Bw w w':=by
 have HP:Hid (xV w a n E):=hp
 have HQ:Hid (xV w a' n E):=hq
 clear hp hq
 go_enter Tryz.func51,Tryz.ntmps51
 go_wp2
 go_loopw [5] (fun i wr=>∃ k:Nat,k≤n∧i=.int .i64 k∧Bw w wr) (fun i _=>n - (intOf i).toNat)
 case atStart=>exact ⟨0,by omega,rfl,Below.refl _ _⟩
 case round =>
  obtain ⟨k,hk,rfl,hB⟩:=hrel
  by_cases hlt:k<n
  ·rcases HP.out with h0 | ⟨b,off,rfl,hb,hpt⟩
   ·omega
   rcases HQ.out with h0 | ⟨d,off',rfl,hd,hqt⟩
   ·omega
   have hpr:=hpt.below hB hb
   have hqr:=hqt.below hB hd
   have hbr:b<wr.heap.size:=Nat.lt_of_lt_of_le hb hB.size
   have hdr:d<wr.heap.size:=Nat.lt_of_lt_of_le hd hB.size
   have c0:∀ W',Bw wr W'→W'.cell? ⟨b,off+k * 5,none⟩=some (.int .i64 (E k).z):=fun W' h=>(hpr.below h hbr k hlt).1
   have c1:∀ W',Bw wr W'→W'.cell? ⟨b,off+k * 5+1,none⟩=some (.int .i64 (E k).x):=fun W' h=>(hpr.below h hbr k hlt).2.1
   have c2:∀ W',Bw wr W'→W'.cell? ⟨b,off+k * 5+2,none⟩=some (.int .i64 (E k).y):=fun W' h=>(hpr.below h hbr k hlt).2.2.1
   have c3:∀ W',Bw wr W'→W'.cell? ⟨b,off+k * 5+3,none⟩=some (.int .i64 (E k).du):=fun W' h=>(hpr.below h hbr k hlt).2.2.2.1
   have c4:∀ W',Bw wr W'→W'.cell? ⟨b,off+k * 5+4,none⟩=some (.int .i64 (E k).tr):=fun W' h=>(hpr.below h hbr k hlt).2.2.2.2
   have d0:∀ W',Bw wr W'→W'.cell? ⟨d,off'+k * 5,none⟩=some (.int .i64 (E k).z):=fun W' h=>(hqr.below h hdr k hlt).1
   have d1:∀ W',Bw wr W'→W'.cell? ⟨d,off'+k * 5+1,none⟩=some (.int .i64 (E k).x):=fun W' h=>(hqr.below h hdr k hlt).2.1
   have d2:∀ W',Bw wr W'→W'.cell? ⟨d,off'+k * 5+2,none⟩=some (.int .i64 (E k).y):=fun W' h=>(hqr.below h hdr k hlt).2.2.1
   have d3:∀ W',Bw wr W'→W'.cell? ⟨d,off'+k * 5+3,none⟩=some (.int .i64 (E k).du):=fun W' h=>(hqr.below h hdr k hlt).2.2.2.1
   have d4:∀ W',Bw wr W'→W'.cell? ⟨d,off'+k * 5+4,none⟩=some (.int .i64 (E k).tr):=fun W' h=>(hqr.below h hdr k hlt).2.2.2.2
   have HB:Hid (Bw w wr):=hB
   have HLT:Hid (k<n):=hlt
   clear hB hpt hqt hpr hqr
   have hi:(k:Int)<(n:Int):=by omega
   have hi0:(0:Int)≤(k:Int):=by omega
   go_wp2
   go_region_held3 (fun W'=>Bw wr W') ((repeat (first|exact Qr _ _|assumption|refine Qd ?_|refine Qa ?_ _|refine Qt ?_|refine Qs ?_ _|refine Qo ?_ ?_ _ _)))
    (first
     | (go_at_call 100;refine (zE6 (E k) _).mono ?_;rintro e w' ⟨rfl,hb⟩)
     | fail)
   go_wp2
   go_roundw
   case rel=>exact ⟨k+1,by have:=HLT.out;omega,by go_num,zB HB.out (by assumption)⟩
   case measure=>have:=HLT.out;simp [intOf];omega
  ·go_wp2
   go_ret
   exact ⟨rfl,hB⟩
theorem zFk (z x y wd ht:Int)(w:World):Calls Tryz.prog 8 #[zBg z x y wd ht] w fun e w'=>e=.returned (zBg z x y wd ht)∧Bw w w':=by
 go_enter Tryz.func8,Tryz.ntmps8
 go_wp2
 exact bodyPost_ret (v:=zBg z x y wd ht) (by simp [results,Tryz.results8,go_sem]) rfl ⟨rfl,Qb⟩
theorem zGa (z x y wd ht:Int)(w:World):Calls Tryz.prog 49 #[zBg z x y wd ht,zBg z x y wd ht] w fun e w'=>e=.returned (.bool true)∧Bw w w':=by
 go_enter Tryz.func49,Tryz.ntmps49
 go_wp2
 go_ret
 exact ⟨rfl,Qb⟩
theorem zE1:(Tryz.prog.info? 111).map (fun i=>(i.zero,i.size,i.bytes))=some (some (.agg #[.int .i64 0,.int .i64 0,.int .i64 0]),3,24):=by kernel_rfl
def zT (R:Rfs)(n:Nat):List Value:=(List.range n).flatMap fun i=>[.int .i64 (R.z i),.int .i64 (R.x i),.int .i64 (R.y i)]
theorem uP (R:Rfs)(n:Nat):zT R (n+1)=zT R n ++ [.int .i64 (R.z n),.int .i64 (R.x n),.int .i64 (R.y n)]:=by simp [zT,List.range_succ]
theorem xU (R:Rfs):∀ n,(zT R n).length=n * 3
 | 0=>rfl
 | n+1=>by rw [uP,List.length_append,xU R n];simp;omega
theorem zGe (R:Rfs):∀ (n i:Nat),i<n→(zT R n)[i * 3]?=some (.int .i64 (R.z i))∧(zT R n)[i * 3+1]?=some (.int .i64 (R.x i))∧(zT R n)[i * 3+2]?=some (.int .i64 (R.y i))
 | 0,i,h=>absurd h (by omega)
 | n+1,i,h=>by
  rw [uP]
  by_cases e:i=n
  ·subst e
   have hl:=xU R i
   rw [List.getElem?_append_right (by omega),List.getElem?_append_right (by omega),List.getElem?_append_right (by omega),hl]
   have e1:i * 3+1 - i * 3=1:=by omega
   have e2:i * 3+2 - i * 3=2:=by omega
   rw [Nat.sub_self,e1,e2]
   exact ⟨rfl,rfl,rfl⟩
  ·have hl:=xU R n
   rw [List.getElem?_append_left (by omega),List.getElem?_append_left (by omega),List.getElem?_append_left (by omega)]
   exact zGe R n i (by omega)
def zBn (base:Nat)(w:World)(v:Value)(n:Nat)(R:Rfs):Prop:=w.ownsRow base 111 3 v n (zT R n)
theorem zBn.no (base:Nat)(w:World)(R:Rfs):zBn base w (.slice none 0 0) 0 R:=World.ownsRow_nil _ _ _ _
theorem zBn.own {base:Nat}{w:World}{v:Value}{n:Nat}{R:Rfs}(h:zBn base w v n R):zGk w base v n R:=by
 obtain ⟨h1,h2 | ⟨g,cp,cur,hv,hg,hh,hkc,hcm,hcs,htk⟩⟩:=h
 ·obtain ⟨rfl,h0⟩:=h2
  rw [h0]
  exact ⟨none,0,rfl,Nat.le_refl _,.inl rfl⟩
 ·have hgl:g<w.heap.size:=by
   rcases Nat.lt_or_ge g w.heap.size with h' | h'
   ·exact h'
   ·rw [Array.getElem?_eq_none h'] at hh;cases hh
  have hrow:w.ownsRow base 111 3 (.slice (some ⟨g,0,none⟩) n cp) n (zT R n):=⟨h1,.inr ⟨g,cp,cur,rfl,hg,hh,hkc,hcm,hcs,htk⟩⟩
  refine ⟨some ⟨g,0,none⟩,cp,hv,hkc,.inr ⟨g,rfl,hg,hgl,fun i hi=>?_,fun o ho=>⟨?_,hrow.frozenAt o⟩⟩⟩
  ·obtain ⟨e1,e2,e3⟩:=zGe R n i hi
   simp only [Nat.zero_add]
   exact ⟨(hrow.cellAt _ (by omega)).trans e1,(hrow.cellAt _ (by omega)).trans e2,(hrow.cellAt _ (by omega)).trans e3⟩
  ·rw [hrow.cellAt o ho]
   have hlt:o<(zT R n).length:=by rw [xU];exact ho
   exact ⟨(zT R n)[o],List.getElem?_eq_getElem hlt⟩
theorem zJn (V:World)(a b:Value)(t:TypeId):zC (V.alloc (.cells #[a,b] t)) V.heap.size 2:=fun o ho=>by
 have:o=0∨o=1:=by omega
 rcases this with rfl | rfl <;> exact ⟨⟨_,by simp [go_sem];rfl⟩,by simp [go_sem]⟩
theorem zGk.set {w:World}{base B r o:Nat}{v u:Value}{n:Nat}{R:Rfs}(h:zGk w base v n R)(hr:r<base)(hB:B≤base):zGk (w.setCell ⟨r,o,none⟩ u) B v n R:=by
 obtain ⟨a,cap,hv,hc,h0 | ⟨b,ha,hbb,hl,hp,ht⟩⟩:=h
 ·exact ⟨a,cap,hv,hc,.inl h0⟩
 ·have hne:∀ i:Nat,(⟨r,o,none⟩:Addr)≠⟨b,i,none⟩:=fun i e=>by injection e with e;omega
  refine ⟨a,cap,hv,hc,.inr ⟨b,ha,by omega,by simpa [World.setCell] using hl,fun i hi=>?_,fun o' ho'=>?_⟩⟩
  ·obtain ⟨h0,h1,h2⟩:=hp i hi
   exact ⟨by rw [zA (hne _)];exact h0,by rw [zA (hne _)];exact h1,by rw [zA (hne _)];exact h2⟩
  ·obtain ⟨⟨x,hx⟩,hf⟩:=ht o' ho'
   exact ⟨⟨x,by rw [zA (hne _)];exact hx⟩,by rw [World.frozen?_setCell];exact hf⟩

def zAj (w:World)(b:Nat)(z x y wd ht:Int):Prop:=w.cell? ⟨b,0,none⟩=some (.int .i64 z)∧w.cell? ⟨b,1,none⟩=some (.int .i64 x)∧w.cell? ⟨b,2,none⟩=some (.int .i64 y)∧w.cell? ⟨b,3,none⟩=some (.int .i64 wd)∧w.cell? ⟨b,4,none⟩=some (.int .i64 ht)
theorem l1In_q (v lo hi:Int)(w:World):Calls Tryz.prog 32 #[.int .i64 v,.int .i64 lo,.int .i64 hi] w fun e w'=>e=.returned (.bool (inB v lo hi))∧∃ n,w'=w.drewN n :=
 (yL v lo hi w).mono fun e w' ⟨h1,h2⟩=>⟨h1,0,h2⟩
theorem zG3 (b:Nat)(z x y wd ht:Int)(w:World)(h:zAj w b z x y wd ht):Calls Tryz.prog 30 #[.pointer (some ⟨b,0,none⟩)] w fun e w'=>e=.returned (.int .i64 (xN z x y wd ht))∧Bw w w':=by
 obtain ⟨e0,e1,e2,e3,e4⟩:=h
 have hk:Hid (xN z x y wd ht=if zB0 z x y wd ht=true then 0 else 3):=rfl
 have hb:Hid (zB0 z x y wd ht=((xX z && (inB wd 1 8 && inB ht 1 8)) && (inB x 0 (zC6 z - wd) && inB y 0 (zC6 z - ht)))):=rfl
 cases h1:xX z <;> cases h2:inB wd 1 8 <;> cases h3:inB ht 1 8
 case true.true.true =>
  rw [h1,h2,h3] at hb
  have sN:=fun w=>zG4 z w h1
  have hn:=vQ h1
  have hw:1≤wd∧wd≤8:=by simpa [inB] using h2
  have hh:1≤ht∧ht≤8:=by simpa [inB] using h3
  generalize zC6 z=u at *
  cases h4:inB x 0 (u - wd) <;> cases h5:inB y 0 (u - ht)
  all_goals
   rw [h4,h5] at hb
   rw [hb.out] at hk
   go_enter Tryz.func30,Tryz.ntmps30
   go_wp2_with (first
    | (go_at_call 64;refine (xC _ _).mono ?_;rintro e w1 ⟨rfl,rfl⟩)
    | (go_at_call 65;refine (sN _).mono ?_;rintro e w1 ⟨rfl,rfl⟩)
    | (go_at_call 32;refine (yL _ _ _ _).mono ?_;rintro e w1 ⟨rfl,rfl⟩))
   go_quiet (first | (go_at_call 32;exact Calls.quiet_of (l1In_q _ _ _ _)))
   go_wp2
   go_ret
   exact ⟨zH (by rw [hk.out];rfl),below_drewN (Below.refl _ _) _⟩
 all_goals
  rw [h1,h2,h3] at hb
  rw [hb.out] at hk
  go_enter Tryz.func30,Tryz.ntmps30
  go_wp2_with (first
   | (go_at_call 64;refine (xC _ _).mono ?_;rintro e w1 ⟨rfl,rfl⟩)
   | (go_at_call 32;refine (yL _ _ _ _).mono ?_;rintro e w1 ⟨rfl,rfl⟩))
  go_ret
  exact ⟨zH (by rw [hk.out];rfl),Qb⟩
theorem Row.setB {base r o:Nat}{w:World}{v x:Value}{l:List (Int × Int)}(h:Row base w v l)(hr:r<base):Row base (w.setCell ⟨r,o,none⟩ x) v l:=by
 obtain ⟨h1,h2 | ⟨g,cp,cur,hv,hg,hh,hrest⟩⟩:=h
 ·exact ⟨h1,.inl h2⟩
 ·refine ⟨h1,.inr ⟨g,cp,cur,hv,hg,?_,hrest⟩⟩
  rw [Below.heap_setCell _ _ _ _ (by simp;omega)]
  exact hh
theorem Row.wideB {base B:Nat}{w:World}{v:Value}{l:List (Int × Int)}(h:Row base w v l)(hB:B≤base):Row B w v l:=by
 obtain ⟨h1,h2 | ⟨g,cp,cur,hv,hg,hrest⟩⟩:=h
 ·exact ⟨h1,.inl h2⟩
 ·exact ⟨h1,.inr ⟨g,cp,cur,hv,by omega,hrest⟩⟩
set_option maxRecDepth 8000 in
theorem zCf {off:Nat}(b n cap:Nat)(X Y:Nat→Int)(w:World)(hp:yW w b off n X Y)(hbl:b<w.heap.size)(hn:n≤1048576) :
  Calls Tryz.prog 250 #[.slice (some ⟨b,off,none⟩) n cap] w fun e w'=>∃ a c,e=.returned (.slice a n c)∧Row w.heap.size w' (.slice a n c) (yT X Y (List.range n))∧Bw w w':=by
 obtain ⟨i0,hi,hz0,hz1,hz2⟩:=info_parts (show (Tryz.prog.info? 215).map (fun i=>(i.zero,i.size,i.bytes))=some (some (.agg #[.int .i64 0,.int .i64 0]),2,16) by kernel_rfl)
 have HP:Hid (yW w b off n X Y):=hp
 have HLEN:Hid ((yT X Y (List.range n)).length=n):=by show _=_;simp [yT]
 clear hp
 have hnl:∀ w,Sem.run Tryz.prog (binOp BinOp.eql 207 (.slice (some ⟨b,off,none⟩) n cap) (.slice none 0 0)) w=.ok (.bool false) w:=fun _=>by kernel_rfl
 go_enter Tryz.func250,Tryz.ntmps250
 go_wp2_with (first
  | (at_builtin;go_must (refine wpList_append_own _ rfl _ _ 207 rfl w.heap.size 215 i0 (.agg #[.int .i64 0,.int .i64 0]) 2 16 Tryz.underlying207 hi hz0 hz1 hz2 rfl (by decide) (.slice (some ⟨w.heap.size,0,none⟩) 0 0) 0 [] rfl (World.ownsRow_lit (base:=w.heap.size) w #[] 0 (Nat.le_refl _) (Nat.zero_le _) rfl) ⟨b,off,none⟩ n cap (xZ (yT X Y (List.range n))) rfl ?c0 ?c1 ?c2 ?c3 ?c4 ?c5 ?_)))
 case c0=>rw [vN,HLEN.out]
 case c1 =>
  intro q u hq
  have h1:=zDz (HP.out.below (by exact Qb:Below w.heap.size w (w.alloc (.cells #[] 215))) hbl) q u hq
  by_cases hq0:q=0
  ·subst hq0;simpa [Addr.add] using h1
  ·simpa [Addr.add,hq0] using h1
 case c2 =>
  intro u hu
  unfold xZ at hu
  rw [List.mem_flatMap] at hu
  obtain ⟨p,_,hp⟩:=hu
  simp at hp
  rcases hp with rfl | rfl <;> rfl
 case c3=>unfold maxLen;omega
 case c4=>omega
 case c5=>first | omega | (simp;done) | (simp;omega)
 intro v' w2 hown' hgrow hnil
 clear hnil
 obtain ⟨a,c,hv⟩:∃ a c,v'=.slice a n c:=by
  obtain ⟨_,h2 | ⟨g,cp,cur,hv,_⟩⟩:=hown'
  ·exact ⟨none,0,by have e:=h2.2;have e2:n=0:=(by omega);subst e2;exact h2.1⟩
  ·exact ⟨_,cp,by rw [hv]⟩
 have HB2:Hid (Bw w w2):=((Below.refl _ _).alloc (Nat.le_refl _) _).trans ((Below.refl _ _).grown hgrow (by simp) (fun k hk=>by simp [Value.ownBlock] at hk;omega))
 subst hv
 have HOWN:Hid (Row w.heap.size w2 (.slice a n c) (yT X Y (List.range n))):=by
  show Row _ _ _ _
  unfold Row
  rw [HLEN.out]
  simpa using hown'
 clear hown' hgrow
 go_wp2
 go_ret
 exact ⟨a,c,rfl,HOWN.out,HB2.out⟩
theorem zCy {off:Nat}(id la ki wi:Int)(b n cap:Nat)(X Y:Nat→Int)(lab:ByteArray)(pr:Int)(w:World)(hp:yW w b off n X Y)(hbl:b<w.heap.size)(hn:n≤1048576)(hl:lab.size≤1048576) :
  Calls Tryz.prog 217 #[.agg #[.int .i64 id,.int .i64 la,.int .i64 ki,.int .i64 wi,.slice (some ⟨b,off,none⟩) n cap,.string lab,.int .i64 pr]] w fun e w'=>∃ a c,e=.returned (.agg #[.int .i64 id,.int .i64 la,.int .i64 ki,.int .i64 wi,.slice a n c,.string lab,.int .i64 pr])∧Row w.heap.size w' (.slice a n c) (yT X Y (List.range n))∧Bw w w':=by
 have HP:Hid (yW w b off n X Y):=hp
 clear hp
 go_enter Tryz.func217,Tryz.ntmps217
 go_wp2_with fail
 generalize hW:((w.alloc _).alloc _:World)=W
 have hB0:Bw w W:=by subst hW;exact Qb
 have q0:W.cell? ⟨w.heap.size,0,none⟩=some (.int .i64 id):=by subst hW;simp [go_sem]
 have q1:W.cell? ⟨w.heap.size,1,none⟩=some (.int .i64 la):=by subst hW;simp [go_sem]
 have q2:W.cell? ⟨w.heap.size,2,none⟩=some (.int .i64 ki):=by subst hW;simp [go_sem]
 have q3:W.cell? ⟨w.heap.size,3,none⟩=some (.int .i64 wi):=by subst hW;simp [go_sem]
 have q4:W.cell? ⟨w.heap.size,4,none⟩=some (.slice (some ⟨b,off,none⟩) n cap):=by subst hW;simp [go_sem]
 have q5:W.cell? ⟨w.heap.size,5,none⟩=some (.string lab):=by subst hW;simp [go_sem]
 have q6:W.cell? ⟨w.heap.size,6,none⟩=some (.int .i64 pr):=by subst hW;simp [go_sem]
 have fz:∀ o,W.frozen? ⟨w.heap.size,o,none⟩=false:=fun o=>by subst hW;simp [go_sem]
 have hT:zC W (w.heap.size+1) 7:=fun o ho=>by
  subst hW
  have hc:o=0∨o=1∨o=2∨o=3∨o=4∨o=5∨o=6:=by omega
  rcases hc with rfl | rfl | rfl | rfl | rfl | rfl | rfl <;> exact ⟨⟨_,by simp [go_sem];rfl⟩,by simp [go_sem]⟩
 have hsz:w.heap.size+1<W.heap.size:=by subst hW;simp
 clear hW
 refine (zCf b n cap X Y W (HP.out.below hB0 hbl) (Nat.lt_of_lt_of_le hbl hB0.size) hn).mono ?_
 rintro e w1 ⟨a1,c1,rfl,hR1,hb1⟩
 have HR1:Hid (Row W.heap.size w1 (.slice a1 n c1) (yT X Y (List.range n))):=hR1
 clear hR1
 have hB1:Bw w w1:=zB hB0 hb1
 have p0:=yH hb1 q0
 have p1:=yH hb1 q1
 have p2:=yH hb1 q2
 have p3:=yH hb1 q3
 have p4:=yH hb1 q4
 have p5:=yH hb1 q5
 have p6:=yH hb1 q6
 have f1:w1.frozen? ⟨w.heap.size,4,none⟩=false:=(hb1.frozen (p:=⟨w.heap.size,4,none⟩) (by show w.heap.size<_;omega)).trans (fz 4)
 have f2:w1.frozen? ⟨w.heap.size,5,none⟩=false:=(hb1.frozen (p:=⟨w.heap.size,5,none⟩) (by show w.heap.size<_;omega)).trans (fz 5)
 have hT1:=hT.below hb1
 have hsz1:=hb1.size
 clear q0 q1 q2 q3 q4 q5 q6 fz hT hb1 hB0
 have HT1:Hid (zC w1 (w.heap.size+1) 7):=hT1
 clear hT1
 go_wp2_with fail
 generalize hW2:(w1.setCell _ _:World)=W2
 have g0:W2.cell? ⟨w.heap.size,0,none⟩=some (.int .i64 id):=by subst hW2;rw [zA (by simp)];exact p0
 have g1:W2.cell? ⟨w.heap.size,1,none⟩=some (.int .i64 la):=by subst hW2;rw [zA (by simp)];exact p1
 have g2:W2.cell? ⟨w.heap.size,2,none⟩=some (.int .i64 ki):=by subst hW2;rw [zA (by simp)];exact p2
 have g3:W2.cell? ⟨w.heap.size,3,none⟩=some (.int .i64 wi):=by subst hW2;rw [zA (by simp)];exact p3
 have g4:W2.cell? ⟨w.heap.size,4,none⟩=some (.slice a1 n c1):=by subst hW2;exact zD p4
 have g5:W2.cell? ⟨w.heap.size,5,none⟩=some (.string lab):=by subst hW2;rw [zA (by simp)];exact p5
 have g6:W2.cell? ⟨w.heap.size,6,none⟩=some (.int .i64 pr):=by subst hW2;rw [zA (by simp)];exact p6
 have ff:W2.frozen? ⟨w.heap.size,5,none⟩=false:=by subst hW2;rw [World.frozen?_setCell];exact f2
 have hT2:zC W2 (w.heap.size+1) 7:=fun o ho=>by
  subst hW2
  obtain ⟨u,hu⟩:=(HT1.out o ho).1
  exact ⟨⟨u,by rw [zA (by simp)];exact hu⟩,by rw [World.frozen?_setCell];exact (HT1.out o ho).2⟩
 have hB2:Bw w W2:=by subst hW2;exact hB1.setCell (Nat.le_refl _) _
 have hsz2:w1.heap.size≤W2.heap.size:=by subst hW2;simp [World.setCell]
 have HR2:Hid (Row W.heap.size W2 (.slice a1 n c1) (yT X Y (List.range n))):=by show Row _ _ _ _;subst hW2;exact HR1.out.setB (by omega)
 clear hW2 p0 p1 p2 p3 p4 p5 p6 f1 f2 hB1
 refine (zBq lab W2 hl).mono ?_
 rintro e w3 ⟨rfl,hb3⟩
 have HR3:Hid (Row W.heap.size w3 (.slice a1 n c1) (yT X Y (List.range n))):=HR2.out.below hb3
 have hB3:Bw w w3:=zB hB2 hb3
 have p0:=yH hb3 g0
 have p1:=yH hb3 g1
 have p2:=yH hb3 g2
 have p3:=yH hb3 g3
 have p4:=yH hb3 g4
 have p5:=yH hb3 g5
 have p6:=yH hb3 g6
 have f5:w3.frozen? ⟨w.heap.size,5,none⟩=false:=(hb3.frozen (p:=⟨w.heap.size,5,none⟩) (by show w.heap.size<_;omega)).trans ff
 have hT3:=hT2.below hb3
 have hsz3:=hb3.size
 have t0:=hT3.cell 0 (by omega)
 have t1:=hT3.cell 1 (by omega)
 have t2:=hT3.cell 2 (by omega)
 have t3:=hT3.cell 3 (by omega)
 have t4:=hT3.cell 4 (by omega)
 have t5:=hT3.cell 5 (by omega)
 have t6:=hT3.cell 6 (by omega)
 have z0:=(hT3 0 (by omega)).2
 have z1:=(hT3 1 (by omega)).2
 have z2:=(hT3 2 (by omega)).2
 have z3:=(hT3 3 (by omega)).2
 have z4:=(hT3 4 (by omega)).2
 have z5:=(hT3 5 (by omega)).2
 have z6:=(hT3 6 (by omega)).2
 have HT4:Hid (zC (w3.setCell ⟨w.heap.size,5,none⟩ (.string lab)) (w.heap.size+1) 7):=fun o ho=>by
  obtain ⟨u,hu⟩:=(hT3 o ho).1
  exact ⟨⟨u,by rw [zA (by simp)];exact hu⟩,by rw [World.frozen?_setCell];exact (hT3 o ho).2⟩
 have HB3:Hid (Bw w w3):=hB3
 clear g0 g1 g2 g3 g4 g5 g6 ff hT2 hT3 hB2 hB3 hb3
 go_wp2_with fail
 obtain ⟨y0,y1,y2,y3,y4,y5,y6⟩:=zJt (v0:=.int .i64 id) (v1:=.int .i64 la) (v2:=.int .i64 ki) (v3:=.int .i64 wi) (v4:=.slice a1 n c1) (v5:=.string lab) (v6:=.int .i64 pr) HT4.out
 have key:∀ (T:Array Value) (Wf:World),T[2]?.getD undef=.pointer (some ⟨w.heap.size+1,0,none⟩)→Wf.cell? ⟨w.heap.size+1,0,none⟩=some (.int .i64 id)→Wf.cell? ⟨w.heap.size+1,1,none⟩=some (.int .i64 la)→Wf.cell? ⟨w.heap.size+1,2,none⟩=some (.int .i64 ki)→Wf.cell? ⟨w.heap.size+1,3,none⟩=some (.int .i64 wi)→Wf.cell? ⟨w.heap.size+1,4,none⟩=some (.slice a1 n c1)→Wf.cell? ⟨w.heap.size+1,5,none⟩=some (.string lab)→Wf.cell? ⟨w.heap.size+1,6,none⟩=some (.int .i64 pr) →
   (results Tryz.f217 T).run Tryz.prog Wf=.ok (.agg #[.int .i64 id,.int .i64 la,.int .i64 ki,.int .i64 wi,.slice a1 n c1,.string lab,.int .i64 pr]) Wf:=fun T Wf hT h0 h1 h2 h3 h4 h5 h6=>by
  simp [results,Tryz.results217,go_sem,hT,h0,h1,h2,h3,h4,h5,h6]
 refine bodyPost_ret (key _ _ rfl y0 y1 y2 y3 y4 y5 y6) rfl ⟨a1,c1,rfl,?_,?_⟩
 ·exact ((((((((((HR3.out.setB (by omega)).setB (by omega)).setB (by omega)).setB (by omega)).setB (by omega)).setB (by omega)).setB (by omega)).setB (by omega)).wideB (by omega)))
 ·exact ((((((((HB3.out.setCell (Nat.le_refl _) _).setCell (Nat.le_succ _) _).setCell (Nat.le_succ _) _).setCell (Nat.le_succ _) _).setCell (Nat.le_succ _) _).setCell (Nat.le_succ _) _).setCell (Nat.le_succ _) _).setCell (Nat.le_succ _) _)

end Go.Proofs.YtpaiholildedcaaGreat
