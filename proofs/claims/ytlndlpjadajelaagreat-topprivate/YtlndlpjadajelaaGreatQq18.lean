import Derived.Test.YtlndlpjadajelaaGreatQq01
import Derived.Test.YtlndlpjadajelaaGreatQq15
import Derived.Test.YtlndlpjadajelaaGreatQq14
import Derived.Test.YtlndlpjadajelaaGreatQq16
import Derived.Test.YtlndlpjadajelaaGreatQq05
namespace Go.Proofs.YtlndlpjadajelaaGreat.K.P
open Go.RowKit
abbrev rv (n m:Int):Value:=.agg #[.int .i64 n,.int .i64 m]
theorem bcell {W w1:World} (hb:Below W.heap.size W w1):(∀ b o,b < W.heap.size→w1.cell? ⟨b,o,none⟩=W.cell? ⟨b,o,none⟩)∧(∀ b o,b < W.heap.size→w1.frozen? ⟨b,o,none⟩=W.frozen? ⟨b,o,none⟩) :=
 ⟨fun b o h=>hb.cell (p:=⟨b,o,none⟩) h,fun b o h=>hb.frozen (p:=⟨b,o,none⟩) h⟩
theorem bt {w w1 w2:World} (h:Below w.heap.size w w1) (k:Below w1.heap.size w1 w2):Below w.heap.size w w2:=h.trans (k.mono h.size)
theorem ba (w:World) (o:Obj):Below w.heap.size w (w.alloc o):=(Below.refl _ _).alloc (Nat.le_refl _) o
theorem bs {w w1:World} (h:Below w.heap.size w w1) {p:Addr} (hp:w.heap.size≤p.block) (u:Value):Below w.heap.size w (w1.setCell p u):=h.setCell hp u
theorem bal {w w1:World} (h:Below w.heap.size w w1) (o:Obj):Below w.heap.size w (w1.alloc o):=h.alloc h.size o
set_option maxHeartbeats 400000 in
theorem right_any (u d:Int) (b:Bool) (hb:Rt.rightB u d=b) (w:World) :
  Calls Tryz.prog 63 #[rv u d] w fun e w'=>e=.returned (.bool b)∧Below w.heap.size w w':=by
 have HB:Hid (Rt.rightB u d=b):=hb
 clear hb
 by_cases c:0≤u∧u≤1073741824∧1≤d∧d≤1073741824
 ·obtain ⟨c1,c2,c3,c4⟩:=c
  obtain ⟨x,rfl⟩:=Int.eq_ofNat_of_zero_le c1
  obtain ⟨y,rfl⟩:=Int.eq_ofNat_of_zero_le (show 0≤d by omega)
  have hbb:b=(((Nat.gcd x y:Nat):Int) == 1):=by
   rw [← HB.out]; unfold Rt.rightB; rw [Bool.eq_iff_iff]; simp [Rt.mx]; omega
  subst hbb
  clear HB
  go_enter Tryz.func63,Tryz.ntmps63
  go_wp2_with (go_at_call 90; refine (divisor_any _ _ (by omega) (by omega) _).mono ?_; rintro e w' ⟨rfl,hbl⟩)
  go_ret
  exact ⟨rfl,bt (ba _ _) hbl⟩
 ·have hbb:b=false:=by
   rw [← HB.out]; unfold Rt.rightB Rt.mx; exact decide_eq_false (fun h=>c ⟨h.1,h.2.1,h.2.2.1,h.2.2.2.1⟩)
  subst hbb
  clear HB
  by_cases c1:u < 0
  ·clear c
   go_enter Tryz.func63,Tryz.ntmps63
   go_wp2
   go_ret
   exact ⟨rfl,ba _ _⟩
  by_cases c2:1073741824 < u
  ·clear c
   go_enter Tryz.func63,Tryz.ntmps63
   go_wp2
   go_ret
   exact ⟨rfl,ba _ _⟩
  by_cases c3:d < 1
  ·clear c
   go_enter Tryz.func63,Tryz.ntmps63
   go_wp2
   go_ret
   exact ⟨rfl,ba _ _⟩
  ·have c4:1073741824 < d:=by omega
   clear c
   go_enter Tryz.func63,Tryz.ntmps63
   go_wp2
   go_ret
   exact ⟨rfl,ba _ _⟩
set_option maxHeartbeats 400000 in
theorem make_any (u d n m e:Int) (hu:u≤9223372036854775807) (hd:d≤9223372036854775807) (h:Rt.mkT u d=(n,m,e)) (w:World) :
  Calls Tryz.prog 41 #[.int .i64 u,.int .i64 d] w fun x w'=>x=.returned (.tuple #[rv n m,.int .i64 e])∧Below w.heap.size w w':=by
 have H:Hid (Rt.mkT u d=(n,m,e)):=h
 clear h
 by_cases c1:u < 0
 ·have hr:(0,0,3)=(n,m,e):=by rw [← H.out]; unfold Rt.mkT; rw [if_pos (.inl c1)]
  simp only [Prod.mk.injEq] at hr
  obtain ⟨rfl,rfl,rfl⟩:=hr
  go_enter Tryz.func41,Tryz.ntmps41
  go_wp2
  exact bodyPost_ret (v:=.tuple #[rv 0 0,.int .i64 3]) (by simp [results,Tryz.results41,go_sem]) rfl ⟨rfl,ba _ _⟩
 by_cases c2:d < 1
 ·have hr:(0,0,3)=(n,m,e):=by rw [← H.out]; unfold Rt.mkT; rw [if_pos (.inr c2)]
  simp only [Prod.mk.injEq] at hr
  obtain ⟨rfl,rfl,rfl⟩:=hr
  go_enter Tryz.func41,Tryz.ntmps41
  go_wp2
  exact bodyPost_ret (v:=.tuple #[rv 0 0,.int .i64 3]) (by simp [results,Tryz.results41,go_sem]) rfl ⟨rfl,ba _ _⟩
 have hm:=Rt.mkT_of u d n m e (by omega) (by omega) H.out
 clear H
 obtain ⟨x,rfl⟩:=Int.eq_ofNat_of_zero_le (show 0≤u by omega)
 obtain ⟨y,rfl⟩:=Int.eq_ofNat_of_zero_le (show 0≤d by omega)
 rw [show Int.gcd (x:Int) (y:Int)=Nat.gcd x y from rfl] at hm
 have hg1:1≤Nat.gcd x y:=Nat.gcd_pos_of_pos_right _ (by omega)
 have hg2:Nat.gcd x y≤y:=Nat.gcd_le_right _ (by omega)
 have q1:0≤(x:Int) / (Nat.gcd x y:Nat):=Int.ediv_nonneg (by omega) (by omega)
 have q2:0≤(y:Int) / (Nat.gcd x y:Nat):=Int.ediv_nonneg (by omega) (by omega)
 have q3:(x:Int) / (Nat.gcd x y:Nat)≤9223372036854775807:=Int.le_trans (Int.ediv_le_self _ (by omega)) hu
 have q4:(y:Int) / (Nat.gcd x y:Nat)≤9223372036854775807:=Int.le_trans (Int.ediv_le_self _ (by omega)) hd
 rcases hm with ⟨hc,rfl,rfl,rfl⟩ | ⟨hc1,hc2,rfl,rfl,rfl⟩
 ·have hc':1073741824 < (x:Int) / (Nat.gcd x y:Nat)∨((x:Int) / (Nat.gcd x y:Nat)≤1073741824∧1073741824 < (y:Int) / (Nat.gcd x y:Nat)):=by omega
  clear hc
  rcases hc' with hc1 | ⟨hc1,hc2⟩
  all_goals
   go_enter Tryz.func41,Tryz.ntmps41
   go_wp2_with (go_at_call 90; refine (divisor_any _ _ (by omega) (by omega) _).mono ?_; rintro e w' ⟨rfl,hbl⟩)
   obtain ⟨hcell,hfroz⟩:=bcell hbl
   generalize Nat.gcd x y=g at *
   have hz:w.heap.size < w'.heap.size:=by have:=hbl.size; simp at this; omega
   go_region
   go_wp2
   exact bodyPost_ret (v:=.tuple #[rv 0 0,.int .i64 4]) (by simp [results,Tryz.results41,go_sem,hcell,hz]) rfl ⟨rfl,(bal (bs (bs (bt (ba _ _) hbl) (Nat.le_refl _) _) (Nat.le_refl _) _) _).drew⟩
 ·go_enter Tryz.func41,Tryz.ntmps41
  go_wp2_with (go_at_call 90; refine (divisor_any _ _ (by omega) (by omega) _).mono ?_; rintro e w' ⟨rfl,hbl⟩)
  obtain ⟨hcell,hfroz⟩:=bcell hbl
  have hz:w.heap.size < w'.heap.size:=by have:=hbl.size; simp at this; omega
  go_region
  go_wp2
  exact bodyPost_ret (v:=.tuple #[rv (x / (Nat.gcd x y:Nat)) (y / (Nat.gcd x y:Nat)),.int .i64 0]) (by simp [results,Tryz.results41,go_sem,hcell,hz]) rfl ⟨rfl,(bal (bs (bs (bt (ba _ _) hbl) (Nat.le_refl _) _) (Nat.le_refl _) _) _).drew⟩
theorem timesLit (a b c d:Int) (p q:Nat) (w:World) (a1:0≤a) (a2:a≤1073741824) (b1:1≤b) (b2:b≤1073741824) (c1:0≤c) (c2:c≤1073741824) (d1:1≤d) (d2:d≤1073741824)
  (k1:w.cell? ⟨p,0,none⟩=some (.int .i64 a)) (k2:w.cell? ⟨p,1,none⟩=some (.int .i64 b)) (k3:w.cell? ⟨q,0,none⟩=some (.int .i64 c)) (k4:w.cell? ⟨q,1,none⟩=some (.int .i64 d)) :
  Calls Tryz.prog 118 #[.pointer (some ⟨p,0,none⟩),.pointer (some ⟨q,0,none⟩)] w fun x w'=>x=.returned (.tuple #[.int .i64 (a * c),.int .i64 (b * d)])∧Below w.heap.size w w':=by
 obtain ⟨p1,p2⟩:=Rt.mul_bd a1 a2 c1 c2
 obtain ⟨p3,p4⟩:=Rt.mul_bd (a:=b) (b:=d) (by omega) b2 (by omega) d2
 obtain ⟨p5,p6⟩:=Rt.mul_bd (a:=a) (b:=d) (by omega) a2 (by omega) d2
 obtain ⟨p7,p8⟩:=Rt.mul_bd (a:=c) (b:=b) (by omega) c2 (by omega) b2
 obtain ⟨p9,p10⟩:=Rt.mul_bd (a:=b) (b:=c) (by omega) b2 (by omega) c2
 go_enter Tryz.func118,Tryz.ntmps118
 go_wp2
 go_quiet (fail)
 go_wp2
 go_ret2
 exact ⟨rfl,below_drewN (Below.refl _ _) _⟩
set_option maxHeartbeats 400000 in
theorem timesReckon (a b c d n m e:Int) (r1:Rt.rightB a b=true) (r2:Rt.rightB c d=true) (hm:Rt.mkT (a * c) (b * d)=(n,m,e)) (p q:Nat) (w:World) (hp:p < w.heap.size) (hq:q < w.heap.size)
  (k1:w.cell? ⟨p,0,none⟩=some (.int .i64 a)) (k2:w.cell? ⟨p,1,none⟩=some (.int .i64 b)) (k3:w.cell? ⟨q,0,none⟩=some (.int .i64 c)) (k4:w.cell? ⟨q,1,none⟩=some (.int .i64 d)) :
  Calls Tryz.prog 117 #[rv a b,rv c d,.func (.func 118) #[] #[.pointer (some ⟨p,0,none⟩),.pointer (some ⟨q,0,none⟩)]] w fun x w'=>x=.returned (.tuple #[rv n m,.int .i64 e])∧Below w.heap.size w w':=by
 have HM:Hid (Rt.mkT (a * c) (b * d)=(n,m,e)):=hm
 have R1:Hid (Rt.rightB a b=true):=r1
 have R2:Hid (Rt.rightB c d=true):=r2
 obtain ⟨a1,a2,b1,b2⟩:=Rt.right_bd r1
 obtain ⟨c1,c2,d1,d2⟩:=Rt.right_bd r2
 clear r1 r2 hm
 obtain ⟨p1,p2⟩:=Rt.mul_bd a1 a2 c1 c2
 obtain ⟨p3,p4⟩:=Rt.mul_bd (a:=b) (b:=d) (by omega) b2 (by omega) d2
 obtain ⟨p5,p6⟩:=Rt.mul_bd (a:=a) (b:=d) (by omega) a2 (by omega) d2
 obtain ⟨p7,p8⟩:=Rt.mul_bd (a:=c) (b:=b) (by omega) c2 (by omega) b2
 obtain ⟨p9,p10⟩:=Rt.mul_bd (a:=b) (b:=c) (by omega) b2 (by omega) c2
 go_enter Tryz.func117,Tryz.ntmps117
 go_wp2_with fail
 refine (right_any a b true R1.out _).mono ?_
 rintro e1 w1 ⟨rfl,hb1⟩
 obtain ⟨hc1,hf1⟩:=bcell hb1
 go_wp2_with fail
 refine (right_any c d true R2.out _).mono ?_
 rintro e2 w2 ⟨rfl,hb2⟩
 have F2:=bt hb1 hb2
 clear hc1 hf1 hb1 hb2
 have G2:=bt (bal (bal (ba _ _) _) _) F2
 go_wp2_with fail
 refine (timesLit a b c d p q _ a1 a2 b1 b2 c1 c2 d1 d2 ((G2.cell (p:=⟨p,0,none⟩) hp).trans k1) ((G2.cell (p:=⟨p,1,none⟩) hp).trans k2) ((G2.cell (p:=⟨q,0,none⟩) hq).trans k3) ((G2.cell (p:=⟨q,1,none⟩) hq).trans k4)).mono ?_
 rintro e3 w3 ⟨rfl,hb3⟩
 go_wp2_with fail
 refine (make_any (a * c) (b * d) n m e (by omega) (by omega) HM.out _).mono ?_
 rintro e4 w4 ⟨rfl,hb4⟩
 have F4:=bt (bt F2 hb3) hb4
 have G4:=bt (bal (bal (ba _ _) _) _) F4
 clear F2 hb3 hb4 G2
 obtain ⟨hc4,hf4⟩:=bcell F4
 go_wp2_with fail
 exact bodyPost_ret (v:=.tuple #[rv n m,.int .i64 e]) (by simp [results,Tryz.results117,go_sem,hc4]) rfl ⟨rfl,bs (bs G4 (by simp; omega) _) (by simp; omega) _⟩
set_option maxHeartbeats 400000 in
theorem reckonNo (a b c d:Int) (f:Value) (h:Rt.rightB a b=false∨(Rt.rightB a b=true∧Rt.rightB c d=false)) (w:World) :
  Calls Tryz.prog 117 #[rv a b,rv c d,f] w fun x w'=>x=.returned (.tuple #[rv 0 0,.int .i64 2])∧Below w.heap.size w w':=by
 rcases h with r1 | ⟨r1,r2⟩
 ·have R1:Hid (Rt.rightB a b=false):=r1
  clear r1
  go_enter Tryz.func117,Tryz.ntmps117
  go_wp2_with fail
  refine (right_any a b false R1.out _).mono ?_
  rintro e1 w1 ⟨rfl,hb1⟩
  have G1:=bt (bal (bal (ba _ _) _) _) hb1
  obtain ⟨hc1,hf1⟩:=bcell hb1
  go_wp2_with fail
  exact bodyPost_ret (v:=.tuple #[rv 0 0,.int .i64 2]) (by simp [results,Tryz.results117,go_sem,hc1]) rfl ⟨rfl,bs (bs G1 (by simp; omega) _) (by simp; omega) _⟩
 ·have R1:Hid (Rt.rightB a b=true):=r1
  have R2:Hid (Rt.rightB c d=false):=r2
  clear r1 r2
  go_enter Tryz.func117,Tryz.ntmps117
  go_wp2_with fail
  refine (right_any a b true R1.out _).mono ?_
  rintro e1 w1 ⟨rfl,hb1⟩
  obtain ⟨hc1,hf1⟩:=bcell hb1
  go_wp2_with fail
  refine (right_any c d false R2.out _).mono ?_
  rintro e2 w2 ⟨rfl,hb2⟩
  have F2:=bt hb1 hb2
  clear hc1 hf1 hb1 hb2
  have G2:=bt (bal (bal (ba _ _) _) _) F2
  obtain ⟨hc1,hf1⟩:=bcell F2
  go_wp2_with fail
  exact bodyPost_ret (v:=.tuple #[rv 0 0,.int .i64 2]) (by simp [results,Tryz.results117,go_sem,hc1]) rfl ⟨rfl,bs (bs G2 (by simp; omega) _) (by simp; omega) _⟩
set_option maxHeartbeats 400000 in
theorem times_any (a b c d n m e:Int) (h:Rt.timesT a b c d=(n,m,e)) (w:World) :
  Calls Tryz.prog 64 #[rv a b,rv c d] w fun x w'=>x=.returned (.tuple #[rv n m,.int .i64 e])∧Below w.heap.size w w':=by
 have H:Hid (Rt.timesT a b c d=(n,m,e)):=h
 clear h
 by_cases r:Rt.rightB a b=true∧Rt.rightB c d=true
 ·obtain ⟨r1,r2⟩:=r
  have hm:Rt.mkT (a * c) (b * d)=(n,m,e):=by rw [← H.out]; unfold Rt.timesT; rw [if_pos ⟨r1,r2⟩]
  have HM:Hid (Rt.mkT (a * c) (b * d)=(n,m,e)):=hm
  have R1:Hid (Rt.rightB a b=true):=r1
  have R2:Hid (Rt.rightB c d=true):=r2
  clear hm r1 r2 H
  go_enter Tryz.func64,Tryz.ntmps64
  go_wp2_with fail
  refine (timesReckon a b c d n m e R1.out R2.out HM.out w.heap.size (w.heap.size + 1) _ (by simp <;> omega) (by simp <;> omega) (by simp [go_sem]) (by simp [go_sem]) (by simp [go_sem]) (by simp [go_sem])).mono ?_
  rintro e1 w1 ⟨rfl,hb1⟩
  have G1:=bt (bal (bal (ba _ _) _) _) hb1
  obtain ⟨hc1,hf1⟩:=bcell hb1
  go_wp2_with fail
  exact bodyPost_ret (v:=.tuple #[rv n m,.int .i64 e]) (by simp [results,Tryz.results64,go_sem,hc1]) rfl ⟨rfl,bs (bs G1 (by simp; omega) _) (by simp; omega) _⟩
 ·have hr:(0,0,2)=(n,m,e):=by rw [← H.out]; unfold Rt.timesT; rw [if_neg r]
  simp only [Prod.mk.injEq] at hr
  obtain ⟨rfl,rfl,rfl⟩:=hr
  have r':Rt.rightB a b=false∨(Rt.rightB a b=true∧Rt.rightB c d=false):=by
   cases h1:Rt.rightB a b <;> cases h2:Rt.rightB c d <;> simp_all
  have R:Hid (Rt.rightB a b=false∨(Rt.rightB a b=true∧Rt.rightB c d=false)):=r'
  clear r r' H
  go_enter Tryz.func64,Tryz.ntmps64
  go_wp2_with fail
  refine (reckonNo a b c d _ R.out _).mono ?_
  rintro e1 w1 ⟨rfl,hb1⟩
  have G1:=bt (bal (bal (ba _ _) _) _) hb1
  obtain ⟨hc1,hf1⟩:=bcell hb1
  go_wp2_with fail
  exact bodyPost_ret (v:=.tuple #[rv 0 0,.int .i64 2]) (by simp [results,Tryz.results64,go_sem,hc1]) rfl ⟨rfl,bs (bs G1 (by simp; omega) _) (by simp; omega) _⟩
theorem nan_any (a:Int) (w:World):Calls Tryz.prog 233 #[.int .i64 a] w fun x w'=>x=.returned (.bool false)∧w' = w:=by
 go_enter Tryz.func233,Tryz.ntmps233
 go_wp2
 go_ret
 exact ⟨rfl,rfl⟩
theorem compare_any (a b k:Int) (h:(if a < b then -1 else if b < a then 1 else 0)=k) (w:World):Calls Tryz.prog 212 #[.int .i64 a,.int .i64 b] w fun x w'=>x=.returned (.int .i64 k)∧w' = w:=by
 have H:Hid ((if a < b then -1 else if b < a then 1 else 0)=k):=h
 clear h
 by_cases c1:a < b
 ·have hk:-1=k:=by rw [← H.out,if_pos c1]
  subst hk; clear H
  go_enter Tryz.func212,Tryz.ntmps212
  go_wp2_with (go_at_call 233; refine (nan_any _ _).mono ?_; rintro e w' ⟨rfl,rfl⟩)
  go_ret
  exact ⟨rfl,rfl⟩
 by_cases c2:b < a
 ·have hk:1=k:=by rw [← H.out,if_neg c1,if_pos c2]
  subst hk; clear H
  go_enter Tryz.func212,Tryz.ntmps212
  go_wp2_with (go_at_call 233; refine (nan_any _ _).mono ?_; rintro e w' ⟨rfl,rfl⟩)
  go_ret
  exact ⟨rfl,rfl⟩
 ·have hk:0=k:=by rw [← H.out,if_neg c1,if_neg c2]
  subst hk; clear H
  go_enter Tryz.func212,Tryz.ntmps212
  go_wp2_with (go_at_call 233; refine (nan_any _ _).mono ?_; rintro e w' ⟨rfl,rfl⟩)
  go_ret
  exact ⟨rfl,rfl⟩
set_option maxHeartbeats 400000 in
theorem order_any (a b c d k e:Int) (h:Rt.orderT a b c d=(k,e)) (w:World) :
  Calls Tryz.prog 222 #[rv a b,rv c d] w fun x w'=>x=.returned (.tuple #[.int .i64 k,.int .i64 e])∧Below w.heap.size w w':=by
 have H:Hid (Rt.orderT a b c d=(k,e)):=h
 clear h
 by_cases r:Rt.rightB a b=true∧Rt.rightB c d=true
 ·obtain ⟨r1,r2⟩:=r
  have hm:=H.out
  unfold Rt.orderT at hm
  rw [if_pos ⟨r1,r2⟩] at hm
  simp only [Prod.mk.injEq] at hm
  obtain ⟨hk,rfl⟩:=hm
  have HK:Hid ((if a * d < c * b then -1 else if c * b < a * d then 1 else 0)=k):=hk
  have R1:Hid (Rt.rightB a b=true):=r1
  have R2:Hid (Rt.rightB c d=true):=r2
  clear hk r1 r2 H
  obtain ⟨a1,a2,b1,b2⟩:=Rt.right_bd R1.out
  obtain ⟨c1,c2,d1,d2⟩:=Rt.right_bd R2.out
  obtain ⟨p1,p2⟩:=Rt.mul_bd a1 a2 c1 c2
  obtain ⟨p3,p4⟩:=Rt.mul_bd (a:=b) (b:=d) (by omega) b2 (by omega) d2
  obtain ⟨p5,p6⟩:=Rt.mul_bd (a:=a) (b:=d) (by omega) a2 (by omega) d2
  obtain ⟨p7,p8⟩:=Rt.mul_bd (a:=c) (b:=b) (by omega) c2 (by omega) b2
  obtain ⟨p9,p10⟩:=Rt.mul_bd (a:=b) (b:=c) (by omega) b2 (by omega) c2
  go_enter Tryz.func222,Tryz.ntmps222
  go_wp2_with fail
  refine (right_any a b true R1.out _).mono ?_
  rintro e1 w1 ⟨rfl,hb1⟩
  obtain ⟨hc1,hf1⟩:=bcell hb1
  go_wp2_with fail
  refine (right_any c d true R2.out _).mono ?_
  rintro e2 w2 ⟨rfl,hb2⟩
  have F2:=bt hb1 hb2
  clear hc1 hf1 hb1 hb2
  obtain ⟨hc2,hf2⟩:=bcell F2
  have G2:=bt (bal (ba _ _) _) F2
  go_wp2_with fail
  refine (compare_any (a * d) (c * b) k HK.out _).mono ?_
  rintro e3 w3 ⟨rfl,rfl⟩
  go_wp2_with fail
  go_ret2
  exact ⟨rfl,G2⟩
 ·have hr:=H.out
  unfold Rt.orderT at hr
  rw [if_neg r] at hr
  simp only [Prod.mk.injEq] at hr
  obtain ⟨rfl,rfl⟩:=hr
  have r':Rt.rightB a b=false∨(Rt.rightB a b=true∧Rt.rightB c d=false):=by
   cases h1:Rt.rightB a b <;> cases h2:Rt.rightB c d <;> simp_all
  clear r H
  rcases r' with r1 | ⟨r1,r2⟩
  ·have R1:Hid (Rt.rightB a b=false):=r1
   clear r1
   go_enter Tryz.func222,Tryz.ntmps222
   go_wp2_with fail
   refine (right_any a b false R1.out _).mono ?_
   rintro e1 w1 ⟨rfl,hb1⟩
   have G1:=bt (bal (ba _ _) _) hb1
   obtain ⟨hc1,hf1⟩:=bcell hb1
   go_wp2_with fail
   go_ret2
   exact ⟨rfl,G1⟩
  ·have R1:Hid (Rt.rightB a b=true):=r1
   have R2:Hid (Rt.rightB c d=false):=r2
   clear r1 r2
   go_enter Tryz.func222,Tryz.ntmps222
   go_wp2_with fail
   refine (right_any a b true R1.out _).mono ?_
   rintro e1 w1 ⟨rfl,hb1⟩
   obtain ⟨hc1,hf1⟩:=bcell hb1
   go_wp2_with fail
   refine (right_any c d false R2.out _).mono ?_
   rintro e2 w2 ⟨rfl,hb2⟩
   have F2:=bt hb1 hb2
   clear hc1 hf1 hb1 hb2
   have G1:=bt (bal (ba _ _) _) F2
   obtain ⟨hc1,hf1⟩:=bcell F2
   go_wp2_with fail
   go_ret2
   exact ⟨rfl,G1⟩
end Go.Proofs.YtlndlpjadajelaaGreat.K.P
namespace Go.Proofs.YtlndlpjadajelaaGreat
open Go.RowKit Go.Proofs.YtlndlpjadajelaaGreat.Ds
def flatF (fs:List Fl):List Value:=fs.flatMap fun f=>[f.1.1,f.2.1]
theorem flatF_one (fs:List Fl) (f:Fl):flatF (fs ++ [f])=flatF fs ++ [f.1.1,f.2.1]:=by simp [flatF]
def Fwr (w:World) (lo:Nat) (v:Value) (fs:List Fl):Prop :=
 w.ownsRow lo 102 2 v fs.length (flatF fs)∧∀ f∈fs,∃ m,Ints w w.heap.size m f.1.1 f.1.2∧PartsN w w.heap.size m f.2.1 f.2.2∧∀ g,v.ownBlock=some g→m=g
theorem Fwr.nil (w:World) (lo:Nat):Fwr w lo (.slice none 0 0) []:=⟨⟨rfl,.inl ⟨rfl,rfl⟩⟩,fun t ht=>by cases ht⟩
theorem Fwr.keep {w w':World} {lo:Nat} {v:Value} {fs:List Fl} (h:Fwr w lo v fs) (hb:Below w.heap.size w w'):Fwr w' lo v fs :=
 ⟨owns_below h.1 hb,fun t ht=>let ⟨m,h1,h2,h3⟩:=h.2 t ht; ⟨m,h1.at2 hb,h2.at2 hb,h3⟩⟩
theorem Fwr.slice {w:World} {lo:Nat} {v:Value} {fs:List Fl} (h:Fwr w lo v fs):∃ a c,v=.slice a fs.length c:=owns_slice h.1
theorem Fwr.lt {w:World} {lo:Nat} {v:Value} {fs:List Fl} (h:Fwr w lo v fs):∀ g,v.ownBlock=some g→lo≤g∧g < w.heap.size:=h.1.lt
theorem Fwr.app {W w':World} {lo:Nat} {v v':Value} {fs:List Fl} {f:Fl} {m:Nat} (h:Fwr W lo v fs) (hown:w'.ownsRow lo 102 2 v' (fs.length + 1) (flatF fs ++ [f.1.1,f.2.1])) (hg:W.grownBy w' v.ownBlock)
  (hat:v'.ownBlock=v.ownBlock∨v'.ownBlock=some W.heap.size) (hi:Ints W W.heap.size m f.1.1 f.1.2) (hp:PartsN W W.heap.size m f.2.1 f.2.2) (hm:∀ g,v.ownBlock=some g→m=g):Fwr w' lo v' (fs ++ [f]):=by
 refine ⟨by rw [flatF_one]; simpa using hown,fun t ht=>?_⟩
 have key:∀ (m:Nat) (t:Fl),Ints W W.heap.size m t.1.1 t.1.2→PartsN W W.heap.size m t.2.1 t.2.2→(∀ g,v.ownBlock=some g→m=g)→∃ m',Ints w' w'.heap.size m' t.1.1 t.1.2∧PartsN w' w'.heap.size m' t.2.1 t.2.2∧∀ g,v'.ownBlock=some g→m' = g:=by
  intro m t h1 h3 h2
  rcases hat with hat | hat
  ·exact ⟨m,h1.grow hg (Nat.le_refl _) h2 (.inl rfl),h3.grow hg h2 (.inl rfl),by rw [hat]; exact h2⟩
  ·exact ⟨W.heap.size,h1.grow hg (Nat.le_refl _) h2 (.inr (Nat.le_refl _)),h3.grow hg h2 (.inr (Nat.le_refl _)),by rw [hat]; intro g e; simpa using e⟩
 rcases List.mem_append.1 ht with ht | ht
 ·obtain ⟨m,h1,h2,h3⟩:=h.2 t ht
  exact key m t h1 h2 h3
 ·obtain rfl:t=f:=by simpa using ht
  exact key m t hi hp hm
theorem refMost_any (a b c d:Int) (ha0:0≤a) (ha:a≤1073741824) (hb0:0≤b) (hb:b≤1073741824) (hc0:0≤c) (hc:c≤1073741824) (hd0:0≤d) (hd:d≤1073741824) (r:Bool) (hr:decide (a * d≤c * b)=r) (w:World) :
  Calls Tryz.prog 15 #[rv a b,rv c d] w fun e w'=>e=.returned (.bool r)∧Below w.heap.size w w':=by
 have b1:=Rt.mul_bd ha0 ha hd0 hd
 have b2:=Rt.mul_bd hc0 hc hb0 hb
 obtain ⟨P,hP⟩:∃ P,a * d=P:=⟨_,rfl⟩
 obtain ⟨Q,hQ⟩:∃ Q,c * b=Q:=⟨_,rfl⟩
 rw [hP] at b1
 rw [hQ] at b2
 rw [hP,hQ] at hr
 by_cases h:P≤Q
 ·have hh:decide (P≤Q)=true:=decide_eq_true h
  obtain rfl:true=r:=by rw [← hr,hh]
  clear hr
  go_enter Tryz.func15,Tryz.ntmps15
  go_wp2
  go_ret
  exact ⟨rfl,bal (ba _ _) _⟩
 ·have hh:decide (P≤Q)=false:=decide_eq_false h
  obtain rfl:false=r:=by rw [← hr,hh]
  clear hr
  go_enter Tryz.func15,Tryz.ntmps15
  go_wp2
  go_ret
  exact ⟨rfl,bal (ba _ _) _⟩
end Go.Proofs.YtlndlpjadajelaaGreat
