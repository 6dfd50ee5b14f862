import Derived.Test.YtlndlpjadajelaaGreatQq05
import Derived.Test.YtlndlpjadajelaaGreatQq01
namespace Go.Proofs.YtlndlpjadajelaaGreat
open Go.RowKit Go.Proofs.YtlndlpjadajelaaGreat.Ds
set_option maxHeartbeats 400000 in
theorem powerNo_any (a b n:Int) (h:Rt.rightB a b=false) (w:World) :
  Calls Tryz.prog 25 #[rv a b,.int .i64 n] w fun x w'=>x=.returned (.tuple #[rv 0 0,.int .i64 2])∧Below w.heap.size w w':=by
 have H:Hid (Rt.rightB a b=false):=h
 clear h
 go_enter Tryz.func25,Tryz.ntmps25
 go_wp2_with fail
 refine (right_any a b false H.out _).mono ?_
 rintro e1 w1 ⟨rfl,hb1⟩
 have G1:=bt (bal (ba _ _) _) hb1
 obtain ⟨hc1,hf1⟩:=bcell hb1
 go_wp2_with fail
 exact bodyPost_ret (v:=.tuple #[rv 0 0,.int .i64 2]) (by simp [results,Tryz.results25,go_sem,hc1]) rfl ⟨rfl,bs (bs G1 (by simp) _) (by simp) _⟩
set_option maxHeartbeats 400000 in
theorem powerRange_any (a b n:Int) (h:Rt.rightB a b=true) (hn:n < 0∨4096 < n) (w:World) :
  Calls Tryz.prog 25 #[rv a b,.int .i64 n] w fun x w'=>x=.returned (.tuple #[rv 0 0,.int .i64 3])∧Below w.heap.size w w':=by
 have H:Hid (Rt.rightB a b=true):=h
 clear h
 have hn':n < 0∨(¬ n < 0∧4096 < n):=by omega
 clear hn
 rcases hn' with hn | ⟨hn1,hn⟩
 all_goals
  go_enter Tryz.func25,Tryz.ntmps25
  go_wp2_with fail
  refine (right_any a b true H.out _).mono ?_
  rintro e1 w1 ⟨rfl,hb1⟩
  have G1:=bt (bal (ba _ _) _) hb1
  obtain ⟨hc1,hf1⟩:=bcell hb1
  go_wp2_with fail
  exact bodyPost_ret (v:=.tuple #[rv 0 0,.int .i64 3]) (by simp [results,Tryz.results25,go_sem,hc1]) rfl ⟨rfl,bs (bs G1 (by simp) _) (by simp) _⟩
set_option maxHeartbeats 400000 in
theorem powerYes_any (x y n:Nat) (h:Rt.rightB x y=true) (hn:n≤4096) (p q e:Int) (hp:Rt.powT x y n=(p,q,e)) (w:World) :
  Calls Tryz.prog 25 #[rv x y,.int .i64 n] w fun x w'=>x=.returned (.tuple #[rv p q,.int .i64 e])∧Below w.heap.size w w':=by
 have H:Hid (Rt.rightB x y=true):=h
 have HP:Hid (Rt.powT x y n=(p,q,e)):=hp
 clear h hp
 go_enter Tryz.func25,Tryz.ntmps25
 go_wp2_with fail
 refine (right_any x y true H.out _).mono ?_
 rintro e1 w1 ⟨rfl,hb1⟩
 have G1:=bt (bal (ba _ _) _) hb1
 obtain ⟨hc1,hf1⟩:=bcell hb1
 go_wp2_with fail
 have hz1:w.heap.size < w1.heap.size:=by have:=hb1.size; simp at this; omega
 have hz1':w.heap.size + 1 < w1.heap.size:=by have:=hb1.size; simp at this; omega
 go_loopw [21] (fun c wr=>∃ i:Nat,i≤n∧c=.int .i64 (i:Int)∧x ^ i≤1073741824∧y ^ i≤1073741824∧Below w1.heap.size w1 wr∧w1.heap.size < wr.heap.size∧wr.cell? ⟨w1.heap.size,0,none⟩=some (.int .i64 ((x ^ i:Nat):Int))∧wr.cell? ⟨w1.heap.size,1,none⟩=some (.int .i64 ((y ^ i:Nat):Int))∧wr.frozen? ⟨w1.heap.size,0,none⟩=false∧wr.frozen? ⟨w1.heap.size,1,none⟩=false) (fun c _=>n - (intOf c).toNat)
 case atStart=>exact ⟨0,by omega,rfl,by simp,by simp,ba _ _,by simp,by simp [go_sem],by simp [go_sem],by simp [go_sem],by simp [go_sem]⟩
 case round =>
  obtain ⟨i,hi,rfl,hx,hy,hbr,hzr,hr0,hr1,hr2,hr3⟩:=hrel
  have F1:=bt hb1 hbr
  have k0:wr.cell? ⟨w.heap.size,0,none⟩=some (.int .i64 (x:Int)):=by rw [F1.cell (p:=⟨w.heap.size,0,none⟩) (by simp <;> omega)]; simp [go_sem]
  have k1:wr.cell? ⟨w.heap.size,1,none⟩=some (.int .i64 (y:Int)):=by rw [F1.cell (p:=⟨w.heap.size,1,none⟩) (by simp <;> omega)]; simp [go_sem]
  have HT:=Rt.times_pow x y i H.out hx hy
  generalize hX:x ^ i=X at *
  generalize hY:y ^ i=Y at *
  have HX:Hid (x ^ i=X):=hX
  have HY:Hid (y ^ i=Y):=hY
  clear hX hY
  by_cases c0:i < n
  ·by_cases c1:x ^ (i + 1)≤1073741824∧y ^ (i + 1)≤1073741824
   ·rw [if_pos c1] at HT
    have HT':Hid (Rt.timesT (X:Int) (Y:Int) x y=(((x ^ (i + 1):Nat):Int),((y ^ (i + 1):Nat):Int),0)):=HT
    clear HT
    obtain ⟨c1,c2⟩:=c1
    generalize hX:x ^ (i + 1)=X' at *
    generalize hY:y ^ (i + 1)=Y' at *
    have HX':Hid (x ^ (i + 1)=X'):=hX
    have HY':Hid (y ^ (i + 1)=Y'):=hY
    clear hX hY
    go_wp2_with fail
    refine (times_any X Y x y X' Y' 0 HT'.out _).mono ?_
    rintro e2 w2 ⟨rfl,hb2⟩
    obtain ⟨hc2,hf2⟩:=bcell hb2
    go_wp2_with fail
    have hz2:=hb2.size
    refine ⟨⟨i + 1,by omega,by go_num,by rw [HX'.out]; exact c1,by rw [HY'.out]; exact c2,?_,?_,?_,?_,?_,?_⟩,?_⟩
    ·exact ((hbr.trans (hb2.mono (by omega))).setCell (Nat.le_refl _) _).setCell (Nat.le_refl _) _
    ·simp; omega
    ·rw [HX'.out]; simp [go_sem,hc2,hzr,hr0]
    ·rw [HY'.out]; simp [go_sem,hc2,hzr,hr1]
    ·simp [go_sem,hf2,hzr,hr2]
    ·simp [go_sem,hf2,hzr,hr3]
    ·simp [intOf]; omega
   ·rw [if_neg c1] at HT
    have HT':Hid (Rt.timesT (X:Int) (Y:Int) x y=(0,0,4)):=HT
    clear HT
    have hgt:1073741824 < x ^ n∨1073741824 < y ^ n:=by
     by_cases g:1073741824 < x ^ (i + 1)
     ·exact .inl (Rt.pow_gt x (i + 1) n (by omega) g)
     ·exact .inr (Rt.pow_gt y (i + 1) n (by omega) (by omega))
    have hp:=Rt.powT_of x y n H.out hn p q e HP.out
    have hp':0=p∧0=q∧4=e:=by
     rcases hp with ⟨_,h1⟩ | ⟨h1,h2,_⟩
     ·exact h1
     ·omega
    clear hp hgt c1 HP
    obtain ⟨rfl,rfl,rfl⟩:=hp'
    have hb0:=bt G1 hbr
    go_wp2_with fail
    refine (times_any X Y x y 0 0 4 HT'.out _).mono ?_
    rintro e2 w2 ⟨rfl,hb2⟩
    obtain ⟨hc2,hf2⟩:=bcell hb2
    have k4:w2.cell? ⟨w.heap.size + 1,0,none⟩=some (.int .i64 0):=by rw [hc2 _ _ (by omega),F1.cell (p:=⟨w.heap.size + 1,0,none⟩) (by simp)]; simp [go_sem]
    have k5:w2.cell? ⟨w.heap.size + 1,1,none⟩=some (.int .i64 0):=by rw [hc2 _ _ (by omega),F1.cell (p:=⟨w.heap.size + 1,1,none⟩) (by simp)]; simp [go_sem]
    have k6:w2.frozen? ⟨w.heap.size + 1,0,none⟩=false:=by rw [hf2 _ _ (by omega),F1.frozen (p:=⟨w.heap.size + 1,0,none⟩) (by simp)]; simp [go_sem]
    have k7:w2.frozen? ⟨w.heap.size + 1,1,none⟩=false:=by rw [hf2 _ _ (by omega),F1.frozen (p:=⟨w.heap.size + 1,1,none⟩) (by simp)]; simp [go_sem]
    have hne:¬ w1.heap.size=w.heap.size + 1:=by omega
    have hne':¬ w.heap.size + 1=w1.heap.size:=by omega
    go_wp2_with fail
    exact bodyPost_ret (v:=.tuple #[rv 0 0,.int .i64 4]) (by simp [results,Tryz.results25,go_sem,k4,k5]) rfl ⟨rfl,bs (bs (bs (bs (bt hb0 hb2) (by simp; omega) _) (by simp; omega) _) (by simp) _) (by simp) _⟩
  ·have hin:i=n:=by omega
   subst hin
   clear HT
   have hp:=Rt.powT_of x y i H.out hn p q e HP.out
   rw [HX.out,HY.out] at hp
   have hp':(X:Int)=p∧(Y:Int)=q∧0=e:=by
    rcases hp with ⟨_,h1⟩ | ⟨h1,h2,h3⟩
    ·omega
    ·exact h3
   clear hp HP
   obtain ⟨rfl,rfl,rfl⟩:=hp'
   have hb0:=bt G1 hbr
   have k4:wr.cell? ⟨w.heap.size + 1,0,none⟩=some (.int .i64 0):=by rw [F1.cell (p:=⟨w.heap.size + 1,0,none⟩) (by simp)]; simp [go_sem]
   have k5:wr.cell? ⟨w.heap.size + 1,1,none⟩=some (.int .i64 0):=by rw [F1.cell (p:=⟨w.heap.size + 1,1,none⟩) (by simp)]; simp [go_sem]
   have k6:wr.frozen? ⟨w.heap.size + 1,0,none⟩=false:=by rw [F1.frozen (p:=⟨w.heap.size + 1,0,none⟩) (by simp)]; simp [go_sem]
   have k7:wr.frozen? ⟨w.heap.size + 1,1,none⟩=false:=by rw [F1.frozen (p:=⟨w.heap.size + 1,1,none⟩) (by simp)]; simp [go_sem]
   go_wp2_with fail
   exact bodyPost_ret (v:=.tuple #[rv X Y,.int .i64 0]) (by simp [results,Tryz.results25,go_sem,k4,k5]) rfl ⟨rfl,bs (bs hb0 (by simp) _) (by simp) _⟩
theorem power_any (a b n p q e:Int) (h:Rt.powT a b n=(p,q,e)) (w:World) :
  Calls Tryz.prog 25 #[rv a b,.int .i64 n] w fun x w'=>x=.returned (.tuple #[rv p q,.int .i64 e])∧Below w.heap.size w w':=by
 cases r:Rt.rightB a b with
 | false =>
  unfold Rt.powT at h
  rw [if_neg (by simp [r])] at h
  simp only [Prod.mk.injEq] at h
  obtain ⟨rfl,rfl,rfl⟩:=h
  exact powerNo_any a b n r w
 | true =>
  by_cases hn:n < 0∨4096 < n
  ·unfold Rt.powT at h
   rw [if_pos r,if_pos hn] at h
   simp only [Prod.mk.injEq] at h
   obtain ⟨rfl,rfl,rfl⟩:=h
   exact powerRange_any a b n r hn w
  ·obtain ⟨a1,a2,b1,b2⟩:=Rt.right_bd r
   obtain ⟨x,rfl⟩:=Int.eq_ofNat_of_zero_le a1
   obtain ⟨y,rfl⟩:=Int.eq_ofNat_of_zero_le (show 0≤b by omega)
   obtain ⟨m,rfl⟩:=Int.eq_ofNat_of_zero_le (show 0≤n by omega)
   exact powerYes_any x y m r (by omega) p q e h w
set_option maxHeartbeats 400000 in
theorem refPowerNo_any (a b n:Int) (h:Rt.rightB a b=false) (w:World) :
  Calls Tryz.prog 19 #[rv a b,.int .i64 n] w fun x w'=>x=.returned (.tuple #[rv 0 0,.int .i64 2])∧Below w.heap.size w w':=by
 have H:Hid (Rt.rightB a b=false):=h
 clear h
 go_enter Tryz.func19,Tryz.ntmps19
 go_wp2_with fail
 refine (refRight_any a b false H.out _).mono ?_
 rintro e1 w1 ⟨rfl,hb1⟩
 have G1:=bt (bal (ba _ _) _) hb1
 obtain ⟨hc1,hf1⟩:=bcell hb1
 go_wp2_with fail
 exact bodyPost_ret (v:=.tuple #[rv 0 0,.int .i64 2]) (by simp [results,Tryz.results19,go_sem,hc1]) rfl ⟨rfl,bs (bs G1 (by simp) _) (by simp) _⟩
set_option maxHeartbeats 400000 in
theorem refPowerRange_any (a b n:Int) (h:Rt.rightB a b=true) (hn:n < 0∨4096 < n) (w:World) :
  Calls Tryz.prog 19 #[rv a b,.int .i64 n] w fun x w'=>x=.returned (.tuple #[rv 0 0,.int .i64 3])∧Below w.heap.size w w':=by
 have H:Hid (Rt.rightB a b=true):=h
 clear h
 have hn':n < 0∨(¬ n < 0∧4096 < n):=by omega
 clear hn
 rcases hn' with hn | ⟨hn1,hn⟩
 all_goals
  go_enter Tryz.func19,Tryz.ntmps19
  go_wp2_with fail
  refine (refRight_any a b true H.out _).mono ?_
  rintro e1 w1 ⟨rfl,hb1⟩
  have G1:=bt (bal (ba _ _) _) hb1
  obtain ⟨hc1,hf1⟩:=bcell hb1
  go_wp2_with fail
  exact bodyPost_ret (v:=.tuple #[rv 0 0,.int .i64 3]) (by simp [results,Tryz.results19,go_sem,hc1]) rfl ⟨rfl,bs (bs G1 (by simp) _) (by simp) _⟩
set_option maxHeartbeats 400000 in
theorem refPowerYes_any (x y n:Nat) (h:Rt.rightB x y=true) (hn:n≤4096) (p q e:Int) (hp:Rt.powT x y n=(p,q,e)) (w:World) :
  Calls Tryz.prog 19 #[rv x y,.int .i64 n] w fun x w'=>x=.returned (.tuple #[rv p q,.int .i64 e])∧Below w.heap.size w w':=by
 have H:Hid (Rt.rightB x y=true):=h
 have HP:Hid (Rt.powT x y n=(p,q,e)):=hp
 clear h hp
 have hr0:=(Rt.right_nat x y).1 H.out
 obtain ⟨hx0,hy1,hy0,hg0⟩:=hr0
 have HG0:Hid (Nat.gcd x y=1):=hg0
 clear hg0
 go_enter Tryz.func19,Tryz.ntmps19
 go_wp2_with fail
 refine (refRight_any x y true H.out _).mono ?_
 rintro e1 w1 ⟨rfl,hb1⟩
 have G1:=bt (bal (ba _ _) _) hb1
 obtain ⟨hc1,hf1⟩:=bcell hb1
 go_wp2_with fail
 go_loopw [6,7,8] (fun u d c wr=>∃ i:Nat,i≤n∧c=.int .i64 (i:Int)∧u=.int .i64 ((x ^ i:Nat):Int)∧d=.int .i64 ((y ^ i:Nat):Int)∧x ^ i≤1073741824∧y ^ i≤1073741824∧Below w1.heap.size w1 wr) (fun _ _ c _=>n - (intOf c).toNat)
 case atStart=>exact ⟨0,by omega,rfl,by simp,by simp,by simp,by simp,Below.refl _ _⟩
 case round =>
  obtain ⟨i,hi,rfl,rfl,rfl,hx,hy,hbr⟩:=hrel
  have F1:=bt hb1 hbr
  have hb0:=bt G1 hbr
  have k0:wr.cell? ⟨w.heap.size,0,none⟩=some (.int .i64 (x:Int)):=by rw [F1.cell (p:=⟨w.heap.size,0,none⟩) (by simp <;> omega)]; simp [go_sem]
  have k1:wr.cell? ⟨w.heap.size,1,none⟩=some (.int .i64 (y:Int)):=by rw [F1.cell (p:=⟨w.heap.size,1,none⟩) (by simp <;> omega)]; simp [go_sem]
  have k4:wr.cell? ⟨w.heap.size + 1,0,none⟩=some (.int .i64 0):=by rw [F1.cell (p:=⟨w.heap.size + 1,0,none⟩) (by simp)]; simp [go_sem]
  have k5:wr.cell? ⟨w.heap.size + 1,1,none⟩=some (.int .i64 0):=by rw [F1.cell (p:=⟨w.heap.size + 1,1,none⟩) (by simp)]; simp [go_sem]
  have k6:wr.frozen? ⟨w.heap.size + 1,0,none⟩=false:=by rw [F1.frozen (p:=⟨w.heap.size + 1,0,none⟩) (by simp)]; simp [go_sem]
  have k7:wr.frozen? ⟨w.heap.size + 1,1,none⟩=false:=by rw [F1.frozen (p:=⟨w.heap.size + 1,1,none⟩) (by simp)]; simp [go_sem]
  have HX1:Hid (x ^ (i + 1)=x ^ i * x):=Nat.pow_succ x i
  have HY1:Hid (y ^ (i + 1)=y ^ i * y):=Nat.pow_succ y i
  have hup:=Rt.mul_bd (a:=((x ^ i:Nat):Int)) (b:=(x:Int)) (by omega) (by omega) (by omega) (by omega)
  have hdn:=Rt.mul_bd (a:=((y ^ i:Nat):Int)) (b:=(y:Int)) (by omega) (by omega) (by omega) (by omega)
  obtain ⟨hu1,hu2⟩:=hup
  obtain ⟨hd1,hd2⟩:=hdn
  clear F1 hc1 hf1
  by_cases c0:i < n
  ·have c0':(i:Int) < (n:Int):=by omega
   by_cases c1:x ^ (i + 1)≤1073741824∧y ^ (i + 1)≤1073741824
   ·obtain ⟨c1,c2⟩:=c1
    rw [HX1.out] at c1
    rw [HY1.out] at c2
    have c1':((x ^ i:Nat):Int) * (x:Int)≤1073741824:=by rw [← Int.natCast_mul]; omega
    have c2':((y ^ i:Nat):Int) * (y:Int)≤1073741824:=by rw [← Int.natCast_mul]; omega
    clear c1 c2
    generalize hX:x ^ i=X at *
    generalize hY:y ^ i=Y at *
    have HX:Hid (x ^ i=X):=hX
    have HY:Hid (y ^ i=Y):=hY
    clear hX hY
    go_wp2_with fail
    go_quiet (fail)
    go_wp2_with fail
    refine ⟨⟨i + 1,by omega,by go_num,?_,?_,?_,?_,below_drewN hbr nq⟩,by simp [intOf]; omega⟩
    ·rw [HX1.out,Int.natCast_mul]
    ·rw [HY1.out,Int.natCast_mul]
    ·rw [HX1.out]; rw [← Int.natCast_mul] at c1'; omega
    ·rw [HY1.out]; rw [← Int.natCast_mul] at c2'; omega
   ·have hgt:1073741824 < x ^ n∨1073741824 < y ^ n:=by
     by_cases g:1073741824 < x ^ (i + 1)
     ·exact .inl (Rt.pow_gt x (i + 1) n (by omega) g)
     ·exact .inr (Rt.pow_gt y (i + 1) n (by omega) (by omega))
    have hp:=Rt.powT_of x y n H.out hn p q e HP.out
    have hp':0=p∧0=q∧4=e:=by
     rcases hp with ⟨_,h1⟩ | ⟨h1,h2,_⟩
     ·exact h1
     ·omega
    clear hp hgt HP
    obtain ⟨rfl,rfl,rfl⟩:=hp'
    rw [HX1.out,HY1.out] at c1
    have c1':1073741824 < ((x ^ i:Nat):Int) * (x:Int)∨(((x ^ i:Nat):Int) * (x:Int)≤1073741824∧1073741824 < ((y ^ i:Nat):Int) * (y:Int)):=by
     rw [← Int.natCast_mul,← Int.natCast_mul]; omega
    clear c1
    generalize hX:x ^ i=X at *
    generalize hY:y ^ i=Y at *
    clear hX hY
    rcases c1' with c1 | ⟨c1,c2⟩
    all_goals
     go_wp2_with fail
     go_quiet (fail)
     go_wp2_with fail
     exact bodyPost_ret (v:=.tuple #[rv 0 0,.int .i64 4]) (by simp [results,Tryz.results19,go_sem,k4,k5]) rfl ⟨rfl,bs (bs (below_drewN hb0 _) (by simp) _) (by simp) _⟩
  ·have hin:i=n:=by omega
   subst hin
   have hp:=Rt.powT_of x y i H.out hn p q e HP.out
   have hp':((x ^ i:Nat):Int)=p∧((y ^ i:Nat):Int)=q∧0=e:=by
    rcases hp with ⟨_,h1⟩ | ⟨h1,h2,h3⟩
    ·omega
    ·exact h3
   clear hp HP
   have hone:x ^ i=0→y ^ i=1:=by
    intro hz
    have hx00:x=0:=Nat.pow_eq_zero.1 hz |>.1
    have:=HG0.out
    rw [hx00,Nat.gcd_zero_left] at this
    rw [this,Nat.one_pow]
   obtain ⟨he1,he2,rfl⟩:=hp'
   generalize hX:x ^ i=X at *
   generalize hY:y ^ i=Y at *
   clear hX hY
   have HE1:Hid ((X:Int)=p):=he1
   have HE2:Hid ((Y:Int)=q):=he2
   clear he1 he2
   by_cases c9:X=0
   ·have c8:=hone c9
    subst c9 c8
    go_wp2_with fail
    exact bodyPost_ret (v:=.tuple #[rv 0 1,.int .i64 0]) (by simp [results,Tryz.results19,go_sem,k4,k5]) rfl ⟨by rw [← HE1.out,← HE2.out]; rfl,bs (bs hb0 (by simp) _) (by simp) _⟩
   ·have c8:((X:Int) == 0)=false:=by simp; omega
    clear hone
    go_wp2_with fail
    exact bodyPost_ret (v:=.tuple #[rv X Y,.int .i64 0]) (by simp [results,Tryz.results19,go_sem,k4,k5]) rfl ⟨by rw [← HE1.out,← HE2.out],bs (bs hb0 (by simp) _) (by simp) _⟩
theorem refPower_any (a b n p q e:Int) (h:Rt.powT a b n=(p,q,e)) (w:World) :
  Calls Tryz.prog 19 #[rv a b,.int .i64 n] w fun x w'=>x=.returned (.tuple #[rv p q,.int .i64 e])∧Below w.heap.size w w':=by
 cases r:Rt.rightB a b with
 | false =>
  unfold Rt.powT at h
  rw [if_neg (by simp [r])] at h
  simp only [Prod.mk.injEq] at h
  obtain ⟨rfl,rfl,rfl⟩:=h
  exact refPowerNo_any a b n r w
 | true =>
  by_cases hn:n < 0∨4096 < n
  ·unfold Rt.powT at h
   rw [if_pos r,if_pos hn] at h
   simp only [Prod.mk.injEq] at h
   obtain ⟨rfl,rfl,rfl⟩:=h
   exact refPowerRange_any a b n r hn w
  ·obtain ⟨a1,a2,b1,b2⟩:=Rt.right_bd r
   obtain ⟨x,rfl⟩:=Int.eq_ofNat_of_zero_le a1
   obtain ⟨y,rfl⟩:=Int.eq_ofNat_of_zero_le (show 0≤b by omega)
   obtain ⟨m,rfl⟩:=Int.eq_ofNat_of_zero_le (show 0≤n by omega)
   exact refPowerYes_any x y m r (by omega) p q e h w
end Go.Proofs.YtlndlpjadajelaaGreat
namespace Go.Proofs.YtlndlpjadajelaaGreat
open Go.Proofs.YtlndlpjadajelaaGreat.Ds
def lossE (u d:Int):Int:=if Rt.rightB u d=true then (if u < d then 3 else 0) else 2
def gk (u d:Int) (R k:Nat):Int:=d ^ k * u ^ (R - k)
def hwt (u d:Int) (R a i:Nat):Int:=gk u d R (i - a + (a - i)) * (if i=0∨i=R then u else u - d)
def hidL (u d lo:Int) (R a:Nat):List Pt:=(List.range (R + 1)).map fun (i:Nat)=>([lo + (i:Int)],hwt u d R a i)
def plcT (lo hi n:Int):Int:=min (max n lo) hi
def hideT (u d lo hi n:Int):List Pt × Int :=
 if lossE u d≠0 then ([],lossE u d)
 else if ¬ (-1073741824≤lo∧lo≤hi∧hi≤1073741824∧hi - lo≤64) then ([],3)
 else if lo=hi then makeT [([lo],1)]
 else if 1073741824 < (u + d) * u ^ (hi - lo).toNat then ([],4)
 else makeT (hidL u d lo (hi - lo).toNat (plcT lo hi n - lo).toNat)
def lostT (u d n:Int):Int × Int × Int:=if lossE u d≠0 then (0,0,lossE u d) else Rt.powT u d n
theorem loss_ok {u d:Int} (h:lossE u d=0):Rt.rightB u d=true∧d≤u∧1≤d∧u≤1073741824:=by
 unfold lossE at h
 split at h
 ·rename_i h1
  have:=Rt.right_bd h1
  split at h
  ·omega
  ·exact ⟨h1,by omega,by omega,by omega⟩
 ·omega
theorem pow_pos' {u:Int} (h:1≤u) (n:Nat):1≤u ^ n:=by
 have:=Int.pow_pos (n:=u) (m:=n) (by omega)
 omega
theorem pow_mono {u:Int} (h:1≤u) {n m:Nat} (hnm:n≤m):u ^ n≤u ^ m:=by
 obtain ⟨k,rfl⟩:=Nat.le.dest hnm
 rw [Int.pow_add]
 have h1:=pow_pos' h n
 have h2:=pow_pos' h k
 have:=Int.mul_le_mul_of_nonneg_left h2 (show 0≤u ^ n by omega)
 omega
theorem pow_le {u d:Int} (hd:0≤d) (h:d≤u) (n:Nat):d ^ n≤u ^ n:=by
 induction n with
 | zero=>simp
 | succ n ih =>
  rw [Int.pow_succ,Int.pow_succ]
  exact Int.mul_le_mul ih h hd (Int.pow_nonneg (by omega))
theorem pow_nn {d:Int} (hd:0≤d) (n:Nat):0≤d ^ n:=Int.pow_nonneg hd
theorem gk_zero (u d:Int) (R:Nat):gk u d R 0=u ^ R:=by simp [gk]
theorem gk_step (u d:Int) {R k:Nat} (h:k < R):u * gk u d R (k + 1)=d * gk u d R k:=by
 unfold gk
 rw [show R - k=(R - (k + 1)) + 1 from by omega,Int.pow_succ,Int.pow_succ]
 simp only [Int.mul_comm,Int.mul_left_comm,Int.mul_assoc]
theorem gk_far (u d:Int) {R k:Nat} (s:Nat) (h:k + s≤R):u ^ s * gk u d R (k + s)=d ^ s * gk u d R k:=by
 induction s with
 | zero=>simp
 | succ s ih =>
  have h1:=ih (by omega)
  have h2:=gk_step u d (R:=R) (k:=k + s) (by omega)
  rw [Int.pow_succ,Int.pow_succ,← Nat.add_assoc,Int.mul_assoc,h2,← Int.mul_assoc,Int.mul_right_comm,h1,Int.mul_right_comm]
theorem gk_nn {u d:Int} (hu:0≤u) (hd:0≤d) (R k:Nat):0≤gk u d R k:=Int.mul_nonneg (pow_nn hd _) (pow_nn hu _)
theorem gk_pos {u d:Int} (hu:1≤u) (hd:1≤d) (R k:Nat):0 < gk u d R k:=Int.mul_pos (by have:=pow_pos' hd k; omega) (by have:=pow_pos' hu (R - k); omega)
theorem gk_anti {u d:Int} (hd:1≤d) (h:d≤u) {R k s:Nat} (hk:k + s≤R):gk u d R (k + s)≤gk u d R k:=by
 have h1:=gk_far u d s hk
 have h2:=pow_le (show 0≤d by omega) h s
 have h3:=gk_nn (show 0≤u by omega) (show 0≤d by omega) R k
 have h4:u ^ s * gk u d R (k + s)≤u ^ s * gk u d R k:=by rw [h1]; exact Int.mul_le_mul_of_nonneg_right h2 h3
 exact Int.le_of_mul_le_mul_left h4 (by have:=pow_pos' (show 1≤u by omega) s; omega)
theorem gk_bd {u d:Int} (hd:1≤d) (h:d≤u) {R k k' f:Nat} (hk:k≤R) (hk':k'≤R) (hf:k'≤k + f):gk u d R k * d ^ f≤u ^ f * gk u d R k':=by
 have hu:1≤u:=by omega
 by_cases c:k'≤k
 ·obtain ⟨s,rfl⟩:=Nat.le.dest c
  have h1:=gk_anti hd h (R:=R) (k:=k') (s:=s) hk
  have h2:=pow_le (show 0≤d by omega) h f
  rw [Int.mul_comm (u ^ f)]
  exact Int.mul_le_mul h1 h2 (pow_nn (by omega) _) (gk_nn (by omega) (by omega) _ _)
 ·obtain ⟨s,rfl⟩:=Nat.le.dest (show k≤k' by omega)
  have h1:=gk_far u d s hk'
  obtain ⟨t,rfl⟩:=Nat.le.dest (show s≤f by omega)
  rw [Int.pow_add,Int.pow_add,Int.mul_right_comm,h1,Int.mul_comm (gk u d R k),Int.mul_right_comm (d ^ s) (d ^ t)]
  have h2:=pow_le (show 0≤d by omega) h t
  have h3:0≤d ^ s * gk u d R k:=Int.mul_nonneg (pow_nn (by omega) _) (gk_nn (by omega) (by omega) _ _)
  exact Int.mul_le_mul_of_nonneg_left h2 h3
def sumR (f:Nat→Int):Nat→Int
 | 0=>0
 | n + 1=>sumR f n + f n
theorem tot_range (f:Nat→List Int) (g:Nat→Int) (n:Nat):tot ((List.range n).map fun i=>(f i,g i))=sumR g n:=by
 induction n with
 | zero=>rfl
 | succ n ih=>rw [List.range_succ,List.map_append,tot_append,ih]; simp [sumR,tot_cons]
theorem hwt_low {u d:Int} {R a:Nat} (ha:a≤R) {j:Nat} (hj:j≤a) (h:j < R):sumR (hwt u d R a) (j + 1)=u * gk u d R (a - j):=by
 induction j with
 | zero=>simp [sumR,hwt]; rw [Int.mul_comm]
 | succ j ih =>
  have h1:=ih (by omega) (by omega)
  rw [sumR,h1]
  have e1:hwt u d R a (j + 1)=gk u d R (a - (j + 1)) * (u - d):=by
   unfold hwt
   rw [if_neg (by omega),show j + 1 - a + (a - (j + 1))=a - (j + 1) from by omega]
  have h2:=gk_step u d (R:=R) (k:=a - (j + 1)) (by omega)
  rw [show a - (j + 1) + 1=a - j from by omega] at h2
  rw [e1,h2,Int.mul_sub,Int.mul_comm (gk u d R (a - (j + 1))) u,Int.mul_comm (gk u d R (a - (j + 1))) d]
  omega
theorem hwt_high {u d:Int} {R a:Nat} (ha:a < R) {j:Nat} (hj:a≤j) (h:j < R):sumR (hwt u d R a) (j + 1)=u * gk u d R 0 + d * gk u d R 0 - u * gk u d R (j + 1 - a):=by
 obtain ⟨s,rfl⟩:=Nat.le.dest hj
 clear hj
 induction s with
 | zero =>
  have h1:=hwt_low (u:=u) (d:=d) (R:=R) (a:=a) (by omega) (j:=a) (Nat.le_refl _) ha
  have h2:=gk_step u d (R:=R) (k:=0) (by omega)
  rw [Nat.add_zero,h1,show a + 1 - a=0 + 1 from by omega,h2,Nat.sub_self]
  omega
 | succ s ih =>
  have h1:=ih (by omega)
  rw [← Nat.add_assoc,sumR,h1]
  have e1:hwt u d R a (a + s + 1)=gk u d R (s + 1) * (u - d):=by
   unfold hwt
   rw [if_neg (by omega),show a + s + 1 - a + (a - (a + s + 1))=s + 1 from by omega]
  have h2:=gk_step u d (R:=R) (k:=s + 1) (by omega)
  rw [e1,show a + s + 1 - a=s + 1 from by omega,show a + s + 1 + 1 - a=s + 1 + 1 from by omega,h2,Int.mul_sub,Int.mul_comm (gk u d R (s + 1)) u,Int.mul_comm (gk u d R (s + 1)) d]
  omega
theorem hwt_all {u d:Int} {R a:Nat} (ha:a≤R) (hR:1≤R):sumR (hwt u d R a) (R + 1)=(u + d) * u ^ R:=by
 rw [sumR,← gk_zero u d R]
 obtain ⟨r,rfl⟩:∃ r,R=r + 1:=⟨R - 1,by omega⟩
 by_cases c:a=r + 1
 ·subst c
  have h1:=hwt_low (u:=u) (d:=d) (R:=r + 1) (a:=r + 1) (Nat.le_refl _) (j:=r) (by omega) (by omega)
  have h2:=gk_step u d (R:=r + 1) (k:=0) (by omega)
  rw [h1,show r + 1 - r=0 + 1 from by omega,h2]
  unfold hwt
  rw [if_pos (.inr rfl),show r + 1 - (r + 1) + (r + 1 - (r + 1))=0 from by omega,Int.add_mul,Int.mul_comm (gk u d (r + 1) 0) u]
  omega
 ·have h1:=hwt_high (u:=u) (d:=d) (R:=r + 1) (a:=a) (by omega) (j:=r) (by omega) (by omega)
  rw [h1]
  unfold hwt
  rw [if_pos (.inr rfl),show r + 1 - a + (a - (r + 1))=r + 1 - a from by omega,Int.add_mul,Int.mul_comm (gk u d (r + 1) (r + 1 - a)) u]
  omega
theorem hid_tot {u d lo:Int} {R a:Nat} (ha:a≤R) (hR:1≤R):tot (hidL u d lo R a)=(u + d) * u ^ R:=by
 unfold hidL
 rw [tot_range (fun i=>[lo + (i:Int)]) (hwt u d R a) (R + 1),hwt_all ha hR]
theorem hwt_nn {u d:Int} (hd:1≤d) (h:d≤u) (R a i:Nat):0≤hwt u d R a i:=by
 unfold hwt
 refine Int.mul_nonneg (gk_nn (by omega) (by omega) _ _) ?_
 split <;> omega
theorem sumR_mem {f:Nat→Int} (h:∀ i,0≤f i):∀ {n i:Nat},i < n→f i≤sumR f n
 | 0,_,hi=>absurd hi (by omega)
 | n + 1,i,hi=>by
  rw [sumR]
  have h0:∀ m,0≤sumR f m:=by intro m; induction m with
   | zero=>simp [sumR]
   | succ m ih=>rw [sumR]; have:=h m; omega
  by_cases c:i=n
  ·subst c; have:=h0 i; omega
  ·have:=sumR_mem h (n:=n) (i:=i) (by omega); have:=h n; omega
theorem hwt_le {u d:Int} (hd:1≤d) (h:d≤u) {R a i:Nat} (ha:a≤R) (hR:1≤R) (hi:i≤R):hwt u d R a i≤(u + d) * u ^ R:=by
 rw [← hwt_all ha hR]
 exact sumR_mem (hwt_nn hd h R a) (by omega)
end Go.Proofs.YtlndlpjadajelaaGreat
namespace Go.Proofs.YtlndlpjadajelaaGreat
open Go.RowKit Go.Proofs.YtlndlpjadajelaaGreat.Ds
theorem ret_n {a b:Int} (h:a=b):Ending.returned (.int .i64 a)=.returned (.int .i64 b):=by rw [h]
theorem into_any (n lo hi:Int) (w:World) :
  Calls Tryz.prog 74 #[.int .i64 n,.int .i64 lo,.int .i64 hi] w fun e w'=>e=.returned (.int .i64 (plcT lo hi n))∧w' = w:=by
 go_enter Tryz.func74,Tryz.ntmps74
 go_wp2
 all_goals
  go_ret
  refine ⟨ret_n ?_,rfl⟩
  unfold plcT
  first | omega | (split at * <;> omega)
theorem npow_any (x:Int) (n:Nat) (hn:n≤4096) (hx:1≤x) (h:x ^ n≤1073741824) (w:World) :
  Calls Tryz.prog 147 #[.int .i64 x,.int .i64 (n:Int)] w fun e w'=>e=.returned (.int .i64 (x ^ n))∧w' = w:=by
 have H:Hid (x ^ n≤1073741824):=h
 clear h
 go_enter Tryz.func147,Tryz.ntmps147
 go_wp2
 go_loop [5,7] (fun a c=>∃ i:Nat,i≤n∧a=.int .i64 (x ^ i)∧c=.int .i64 (i:Int)) (fun _ c=>n - (intOf c).toNat)
 case atStart=>exact ⟨0,Nat.zero_le _,by simp,rfl⟩
 case round =>
  obtain ⟨i,hi,rfl,rfl⟩:=hrel
  obtain ⟨P,hP⟩:∃ P,x ^ i=P:=⟨_,rfl⟩
  by_cases c:i < n
  ·have b1:=Int.le_trans (pow_mono hx (show i + 1≤n from c)) H.out
   have b0:=pow_pos' hx (i + 1)
   have HE:Hid (x ^ (i + 1)=P * x):=by show x ^ (i + 1)=P * x; rw [Int.pow_succ,hP]
   rw [HE.out] at b1 b0
   rw [hP]
   clear hP H
   go_wp2
   go_round
   case rel=>exact ⟨i + 1,c,by rw [HE.out],by go_num⟩
   case measure=>simp [intOf]; omega
  ·have:i=n:=by omega
   subst this
   go_wp2
   go_ret
   exact ⟨rfl,rfl⟩
theorem much_any (u d:Int) (n:Nat) (hn:n≤4096) (hd:1≤d) (hu2:u≤1073741824) (hdu:d≤u) (r:Bool) (hn1:1≤n) (hr:decide (1073741824 < (u + d) * u ^ n)=r) (w:World) :
  Calls Tryz.prog 82 #[rv u d,.int .i64 (n:Int)] w fun e w'=>e=.returned (.bool r)∧Below w.heap.size w w':=by
 have hu:1≤u:=by omega
 have HR:Hid (decide (1073741824 < (u + d) * u ^ n)=r):=hr
 clear hr
 have HB:=ba w (.cells #[.int .i64 u,.int .i64 d] 23)
 go_enter Tryz.func82,Tryz.ntmps82
 go_wp2
 go_loop [5,12] (fun a c=>∃ i:Nat,i≤n∧a=.int .i64 ((u + d) * u ^ i)∧c=.int .i64 (i:Int)∧(i=0∨(u + d) * u ^ i≤1073741824)) (fun _ c=>n - (intOf c).toNat)
 case atStart=>exact ⟨0,Nat.zero_le _,by simp,rfl,.inl rfl⟩
 case round =>
  obtain ⟨i,hi,rfl,rfl,hle⟩:=hrel
  obtain ⟨P,hP⟩:∃ P,(u + d) * u ^ i=P:=⟨_,rfl⟩
  have hP0:0≤P:=by rw [← hP]; exact Int.mul_nonneg (by omega) (pow_nn (by omega) _)
  have hP1:P≤2147483648:=by
   rcases hle with rfl | h
   ·rw [← hP]; simp; omega
   ·omega
  by_cases c:i < n
  ·have HE:Hid ((u + d) * u ^ (i + 1)=P * u):=by show _=_; rw [Int.pow_succ,← Int.mul_assoc,hP]
   have b0:0≤P * u:=Int.mul_nonneg hP0 (by omega)
   have b1:P * u≤2147483648 * 1073741824:=Int.mul_le_mul hP1 hu2 (by omega) (by omega)
   rw [hP]
   clear hle hP
   by_cases c2:1073741824 < P * u
   ·have hr:r=true:=by
     rw [← HR.out,decide_eq_true_iff]
     obtain ⟨k,hk⟩:=Nat.le.dest (show i + 1≤n from c)
     rw [← hk,Int.pow_add,← Int.mul_assoc,HE.out]
     have h1:=pow_pos' hu k
     have h2:=Int.mul_le_mul_of_nonneg_left h1 b0
     omega
    subst hr
    clear HE HR
    go_wp2
    go_ret
    exact ⟨rfl,HB⟩
   ·have c3:P * u≤1073741824:=by omega
    go_wp2
    go_round
    case rel=>exact ⟨i + 1,c,by rw [HE.out],by go_num,.inr (by rw [HE.out]; exact c3)⟩
    case measure=>simp [intOf]; omega
  ·have:i=n:=by omega
   subst this
   have hr:r=false:=by
    rw [← HR.out,decide_eq_false_iff_not]
    rcases hle with rfl | h <;> omega
   subst hr
   clear HR hle hP hP0 hP1
   go_wp2
   go_ret
   exact ⟨rfl,HB⟩
theorem noLoss_any (u d er:Int) (h:lossE u d=er) (w:World) :
  Calls Tryz.prog 76 #[rv u d] w fun e w'=>e=.returned (.int .i64 er)∧Below w.heap.size w w':=by
 obtain ⟨b,hb⟩:∃ b,Rt.rightB u d=b:=⟨_,rfl⟩
 rw [lossE,hb] at h
 have HB:=ba w (.cells #[.int .i64 u,.int .i64 d] 23)
 have kc:=right_any u d b hb (w.alloc (.cells #[.int .i64 u,.int .i64 d] 23))
 clear hb
 cases b with
 | false =>
  simp at h; subst h
  go_enter Tryz.func76,Tryz.ntmps76
  go_wp2_with fail
  refine kc.mono ?_
  rintro e w1 ⟨rfl,hb1⟩
  have G1:=bt HB hb1
  go_wp2
  go_ret
  exact ⟨rfl,G1⟩
 | true =>
  simp at h
  by_cases c:u < d
  ·rw [if_pos c] at h
   subst h
   go_enter Tryz.func76,Tryz.ntmps76
   go_wp2_with fail
   refine kc.mono ?_
   rintro e w1 ⟨rfl,hb1⟩
   have G1:=bt HB hb1
   obtain ⟨hc1,hf1⟩:=bcell hb1
   go_wp2
   go_ret
   exact ⟨rfl,G1⟩
  ·rw [if_neg c] at h
   subst h
   go_enter Tryz.func76,Tryz.ntmps76
   go_wp2_with fail
   refine kc.mono ?_
   rintro e w1 ⟨rfl,hb1⟩
   have G1:=bt HB hb1
   obtain ⟨hc1,hf1⟩:=bcell hb1
   go_wp2
   go_ret
   exact ⟨rfl,G1⟩
theorem lost_any (u d n p q er:Int) (h:lostT u d n=(p,q,er)) (w:World) :
  Calls Tryz.prog 29 #[rv u d,.int .i64 n] w fun e w'=>e=.returned (.tuple #[rv p q,.int .i64 er])∧Below w.heap.size w w':=by
 obtain ⟨e0,he0⟩:∃ e0,lossE u d=e0:=⟨_,rfl⟩
 rw [lostT,he0] at h
 have kc:=noLoss_any u d e0 he0
 by_cases c:e0=0
 ·subst c
  simp at h
  have kp:=power_any u d n p q er h
  clear h he0
  go_enter Tryz.func29,Tryz.ntmps29
  go_wp2_with fail
  refine (kc _).mono ?_
  rintro e w1 ⟨rfl,hb1⟩
  have G1:=bt (bal (ba _ _) _) hb1
  obtain ⟨hc1,hf1⟩:=bcell hb1
  go_wp2_with fail
  refine (kp _).mono ?_
  rintro e w2 ⟨rfl,hb2⟩
  have G2:=bt G1 hb2
  obtain ⟨hc2,hf2⟩:=bcell hb2
  have hz1:w.heap.size + 1 < w1.heap.size:=by have:=hb1.size; simp at this; omega
  go_wp2_with fail
  exact bodyPost_ret (v:=.tuple #[rv p q,.int .i64 er]) (by simp [results,Tryz.results29,go_sem,hc1,hc2,hz1]) rfl ⟨rfl,bs (bs G2 (by simp) _) (by simp) _⟩
 ·simp only [ne_eq,c,not_false_eq_true,if_true,Prod.mk.injEq] at h
  obtain ⟨rfl,rfl,rfl⟩:=h
  have c1:(e0 == 0)=false:=by simpa using c
  have c2:(e0 != 0)=true:=by simpa using c
  go_enter Tryz.func29,Tryz.ntmps29
  go_wp2_with fail
  refine (kc _).mono ?_
  rintro e w1 ⟨rfl,hb1⟩
  have G1:=bt (bal (ba _ _) _) hb1
  obtain ⟨hc1,hf1⟩:=bcell hb1
  go_wp2_with fail
  exact bodyPost_ret (v:=.tuple #[rv 0 0,.int .i64 e0]) (by simp [results,Tryz.results29,go_sem,hc1]) rfl ⟨rfl,bs (bs G1 (by simp) _) (by simp) _⟩
end Go.Proofs.YtlndlpjadajelaaGreat
