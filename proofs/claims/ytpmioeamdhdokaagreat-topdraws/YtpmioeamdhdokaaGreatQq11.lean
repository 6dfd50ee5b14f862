import Derived.Test.YtpmioeamdhdokaaGreatQq10
namespace Go.Proofs.YtpmioeamdhdokaaGreat.K.P
open Go.RowKit
theorem timesLit (a b c d:Int) (p q:Nat) (w:World) (a1:0≤a) (a2:a≤1073741824) (b1:1≤b) (b2:b≤1073741824) (c1:0≤c) (c2:c≤1073741824) (d1:1≤d) (d2:d≤1073741824)
  (k1:w.cell? ⟨p,0,none⟩=some (.int .i64 a)) (k2:w.cell? ⟨p,1,none⟩=some (.int .i64 b)) (k3:w.cell? ⟨q,0,none⟩=some (.int .i64 c)) (k4:w.cell? ⟨q,1,none⟩=some (.int .i64 d)) :
  Calls Tryz.prog 228 #[.pointer (some ⟨p,0,none⟩),.pointer (some ⟨q,0,none⟩)] w fun x w'=>x=.returned (.tuple #[.int .i64 (a * c),.int .i64 (b * d)])∧Below w.heap.size w w':=by
 obtain ⟨p1,p2⟩:=Rt.mul_bd a1 a2 c1 c2
 obtain ⟨p3,p4⟩:=Rt.mul_bd (a:=b) (b:=d) (by omega) b2 (by omega) d2
 obtain ⟨p5,p6⟩:=Rt.mul_bd (a:=a) (b:=d) (by omega) a2 (by omega) d2
 obtain ⟨p7,p8⟩:=Rt.mul_bd (a:=c) (b:=b) (by omega) c2 (by omega) b2
 obtain ⟨p9,p10⟩:=Rt.mul_bd (a:=b) (b:=c) (by omega) b2 (by omega) c2
 go_enter Tryz.func228,Tryz.ntmps228
 go_wp2
 go_quiet (fail)
 go_wp2
 go_ret2
 exact ⟨rfl,below_drewN (Below.refl _ _) _⟩
set_option maxHeartbeats 400000 in
theorem timesReckon (a b c d n m e:Int) (r1:Rt.rightB a b=true) (r2:Rt.rightB c d=true) (hm:Rt.mkT (a * c) (b * d)=(n,m,e)) (p q:Nat) (w:World) (hp:p < w.heap.size) (hq:q < w.heap.size)
  (k1:w.cell? ⟨p,0,none⟩=some (.int .i64 a)) (k2:w.cell? ⟨p,1,none⟩=some (.int .i64 b)) (k3:w.cell? ⟨q,0,none⟩=some (.int .i64 c)) (k4:w.cell? ⟨q,1,none⟩=some (.int .i64 d)) :
  Calls Tryz.prog 227 #[rv a b,rv c d,.func (.func 228) #[] #[.pointer (some ⟨p,0,none⟩),.pointer (some ⟨q,0,none⟩)]] w fun x w'=>x=.returned (.tuple #[rv n m,.int .i64 e])∧Below w.heap.size w w':=by
 have HM:Hid (Rt.mkT (a * c) (b * d)=(n,m,e)):=hm
 have R1:Hid (Rt.rightB a b=true):=r1
 have R2:Hid (Rt.rightB c d=true):=r2
 obtain ⟨a1,a2,b1,b2⟩:=Rt.right_bd r1
 obtain ⟨c1,c2,d1,d2⟩:=Rt.right_bd r2
 clear r1 r2 hm
 obtain ⟨p1,p2⟩:=Rt.mul_bd a1 a2 c1 c2
 obtain ⟨p3,p4⟩:=Rt.mul_bd (a:=b) (b:=d) (by omega) b2 (by omega) d2
 obtain ⟨p5,p6⟩:=Rt.mul_bd (a:=a) (b:=d) (by omega) a2 (by omega) d2
 obtain ⟨p7,p8⟩:=Rt.mul_bd (a:=c) (b:=b) (by omega) c2 (by omega) b2
 obtain ⟨p9,p10⟩:=Rt.mul_bd (a:=b) (b:=c) (by omega) b2 (by omega) c2
 go_enter Tryz.func227,Tryz.ntmps227
 go_wp2_with fail
 refine (right_any a b true R1.out _).mono ?_
 rintro e1 w1 ⟨rfl,hb1⟩
 obtain ⟨hc1,hf1⟩:=bcell hb1
 go_wp2_with fail
 refine (right_any c d true R2.out _).mono ?_
 rintro e2 w2 ⟨rfl,hb2⟩
 have F2:=bt hb1 hb2
 clear hc1 hf1 hb1 hb2
 have G2:=bt (bal (bal (ba _ _) _) _) F2
 go_wp2_with fail
 refine (timesLit a b c d p q _ a1 a2 b1 b2 c1 c2 d1 d2 ((G2.cell (p:=⟨p,0,none⟩) hp).trans k1) ((G2.cell (p:=⟨p,1,none⟩) hp).trans k2) ((G2.cell (p:=⟨q,0,none⟩) hq).trans k3) ((G2.cell (p:=⟨q,1,none⟩) hq).trans k4)).mono ?_
 rintro e3 w3 ⟨rfl,hb3⟩
 go_wp2_with fail
 refine (make_any (a * c) (b * d) n m e (by omega) (by omega) HM.out _).mono ?_
 rintro e4 w4 ⟨rfl,hb4⟩
 have F4:=bt (bt F2 hb3) hb4
 have G4:=bt (bal (bal (ba _ _) _) _) F4
 clear F2 hb3 hb4 G2
 obtain ⟨hc4,hf4⟩:=bcell F4
 go_wp2_with fail
 exact bodyPost_ret (v:=.tuple #[rv n m,.int .i64 e]) (by simp [results,Tryz.results227,go_sem,hc4]) rfl ⟨rfl,bs (bs G4 (by simp; omega) _) (by simp; omega) _⟩
set_option maxHeartbeats 400000 in
theorem reckonNo (a b c d:Int) (f:Value) (h:Rt.rightB a b=false∨(Rt.rightB a b=true∧Rt.rightB c d=false)) (w:World) :
  Calls Tryz.prog 227 #[rv a b,rv c d,f] w fun x w'=>x=.returned (.tuple #[rv 0 0,.int .i64 2])∧Below w.heap.size w w':=by
 rcases h with r1 | ⟨r1,r2⟩
 ·have R1:Hid (Rt.rightB a b=false):=r1
  clear r1
  go_enter Tryz.func227,Tryz.ntmps227
  go_wp2_with fail
  refine (right_any a b false R1.out _).mono ?_
  rintro e1 w1 ⟨rfl,hb1⟩
  have G1:=bt (bal (bal (ba _ _) _) _) hb1
  obtain ⟨hc1,hf1⟩:=bcell hb1
  go_wp2_with fail
  exact bodyPost_ret (v:=.tuple #[rv 0 0,.int .i64 2]) (by simp [results,Tryz.results227,go_sem,hc1]) rfl ⟨rfl,bs (bs G1 (by simp; omega) _) (by simp; omega) _⟩
 ·have R1:Hid (Rt.rightB a b=true):=r1
  have R2:Hid (Rt.rightB c d=false):=r2
  clear r1 r2
  go_enter Tryz.func227,Tryz.ntmps227
  go_wp2_with fail
  refine (right_any a b true R1.out _).mono ?_
  rintro e1 w1 ⟨rfl,hb1⟩
  obtain ⟨hc1,hf1⟩:=bcell hb1
  go_wp2_with fail
  refine (right_any c d false R2.out _).mono ?_
  rintro e2 w2 ⟨rfl,hb2⟩
  have F2:=bt hb1 hb2
  clear hc1 hf1 hb1 hb2
  have G2:=bt (bal (bal (ba _ _) _) _) F2
  obtain ⟨hc1,hf1⟩:=bcell F2
  go_wp2_with fail
  exact bodyPost_ret (v:=.tuple #[rv 0 0,.int .i64 2]) (by simp [results,Tryz.results227,go_sem,hc1]) rfl ⟨rfl,bs (bs G2 (by simp; omega) _) (by simp; omega) _⟩
set_option maxHeartbeats 400000 in
theorem times_any (a b c d n m e:Int) (h:Rt.timesT a b c d=(n,m,e)) (w:World) :
  Calls Tryz.prog 175 #[rv a b,rv c d] w fun x w'=>x=.returned (.tuple #[rv n m,.int .i64 e])∧Below w.heap.size w w':=by
 have H:Hid (Rt.timesT a b c d=(n,m,e)):=h
 clear h
 by_cases r:Rt.rightB a b=true∧Rt.rightB c d=true
 ·obtain ⟨r1,r2⟩:=r
  have hm:Rt.mkT (a * c) (b * d)=(n,m,e):=by rw [← H.out]; unfold Rt.timesT; rw [if_pos ⟨r1,r2⟩]
  have HM:Hid (Rt.mkT (a * c) (b * d)=(n,m,e)):=hm
  have R1:Hid (Rt.rightB a b=true):=r1
  have R2:Hid (Rt.rightB c d=true):=r2
  clear hm r1 r2 H
  go_enter Tryz.func175,Tryz.ntmps175
  go_wp2_with fail
  refine (timesReckon a b c d n m e R1.out R2.out HM.out w.heap.size (w.heap.size + 1) _ (by simp <;> omega) (by simp <;> omega) (by simp [go_sem]) (by simp [go_sem]) (by simp [go_sem]) (by simp [go_sem])).mono ?_
  rintro e1 w1 ⟨rfl,hb1⟩
  have G1:=bt (bal (bal (ba _ _) _) _) hb1
  obtain ⟨hc1,hf1⟩:=bcell hb1
  go_wp2_with fail
  exact bodyPost_ret (v:=.tuple #[rv n m,.int .i64 e]) (by simp [results,Tryz.results175,go_sem,hc1]) rfl ⟨rfl,bs (bs G1 (by simp; omega) _) (by simp; omega) _⟩
 ·have hr:(0,0,2)=(n,m,e):=by rw [← H.out]; unfold Rt.timesT; rw [if_neg r]
  simp only [Prod.mk.injEq] at hr
  obtain ⟨rfl,rfl,rfl⟩:=hr
  have r':Rt.rightB a b=false∨(Rt.rightB a b=true∧Rt.rightB c d=false):=by
   cases h1:Rt.rightB a b <;> cases h2:Rt.rightB c d <;> simp_all
  have R:Hid (Rt.rightB a b=false∨(Rt.rightB a b=true∧Rt.rightB c d=false)):=r'
  clear r r' H
  go_enter Tryz.func175,Tryz.ntmps175
  go_wp2_with fail
  refine (reckonNo a b c d _ R.out _).mono ?_
  rintro e1 w1 ⟨rfl,hb1⟩
  have G1:=bt (bal (bal (ba _ _) _) _) hb1
  obtain ⟨hc1,hf1⟩:=bcell hb1
  go_wp2_with fail
  exact bodyPost_ret (v:=.tuple #[rv 0 0,.int .i64 2]) (by simp [results,Tryz.results175,go_sem,hc1]) rfl ⟨rfl,bs (bs G1 (by simp; omega) _) (by simp; omega) _⟩
theorem nan_any (a:Int) (w:World):Calls Tryz.prog 223 #[.int .i64 a] w fun x w'=>x=.returned (.bool false)∧w' = w:=by
 go_enter Tryz.func223,Tryz.ntmps223
 go_wp2
 go_ret
 exact ⟨rfl,rfl⟩
theorem compare_any (a b k:Int) (h:(if a < b then -1 else if b < a then 1 else 0)=k) (w:World):Calls Tryz.prog 153 #[.int .i64 a,.int .i64 b] w fun x w'=>x=.returned (.int .i64 k)∧w' = w:=by
 have H:Hid ((if a < b then -1 else if b < a then 1 else 0)=k):=h
 clear h
 by_cases c1:a < b
 ·have hk:-1=k:=by rw [← H.out,if_pos c1]
  subst hk; clear H
  go_enter Tryz.func153,Tryz.ntmps153
  go_wp2_with (go_at_call 223; refine (nan_any _ _).mono ?_; rintro e w' ⟨rfl,rfl⟩)
  go_ret
  exact ⟨rfl,rfl⟩
 by_cases c2:b < a
 ·have hk:1=k:=by rw [← H.out,if_neg c1,if_pos c2]
  subst hk; clear H
  go_enter Tryz.func153,Tryz.ntmps153
  go_wp2_with (go_at_call 223; refine (nan_any _ _).mono ?_; rintro e w' ⟨rfl,rfl⟩)
  go_ret
  exact ⟨rfl,rfl⟩
 ·have hk:0=k:=by rw [← H.out,if_neg c1,if_neg c2]
  subst hk; clear H
  go_enter Tryz.func153,Tryz.ntmps153
  go_wp2_with (go_at_call 223; refine (nan_any _ _).mono ?_; rintro e w' ⟨rfl,rfl⟩)
  go_ret
  exact ⟨rfl,rfl⟩
set_option maxHeartbeats 400000 in
theorem order_any (a b c d k e:Int) (h:Rt.orderT a b c d=(k,e)) (w:World) :
  Calls Tryz.prog 249 #[rv a b,rv c d] w fun x w'=>x=.returned (.tuple #[.int .i64 k,.int .i64 e])∧Below w.heap.size w w':=by
 have H:Hid (Rt.orderT a b c d=(k,e)):=h
 clear h
 by_cases r:Rt.rightB a b=true∧Rt.rightB c d=true
 ·obtain ⟨r1,r2⟩:=r
  have hm:=H.out
  unfold Rt.orderT at hm
  rw [if_pos ⟨r1,r2⟩] at hm
  simp only [Prod.mk.injEq] at hm
  obtain ⟨hk,rfl⟩:=hm
  have HK:Hid ((if a * d < c * b then -1 else if c * b < a * d then 1 else 0)=k):=hk
  have R1:Hid (Rt.rightB a b=true):=r1
  have R2:Hid (Rt.rightB c d=true):=r2
  clear hk r1 r2 H
  obtain ⟨a1,a2,b1,b2⟩:=Rt.right_bd R1.out
  obtain ⟨c1,c2,d1,d2⟩:=Rt.right_bd R2.out
  obtain ⟨p1,p2⟩:=Rt.mul_bd a1 a2 c1 c2
  obtain ⟨p3,p4⟩:=Rt.mul_bd (a:=b) (b:=d) (by omega) b2 (by omega) d2
  obtain ⟨p5,p6⟩:=Rt.mul_bd (a:=a) (b:=d) (by omega) a2 (by omega) d2
  obtain ⟨p7,p8⟩:=Rt.mul_bd (a:=c) (b:=b) (by omega) c2 (by omega) b2
  obtain ⟨p9,p10⟩:=Rt.mul_bd (a:=b) (b:=c) (by omega) b2 (by omega) c2
  go_enter Tryz.func249,Tryz.ntmps249
  go_wp2_with fail
  refine (right_any a b true R1.out _).mono ?_
  rintro e1 w1 ⟨rfl,hb1⟩
  obtain ⟨hc1,hf1⟩:=bcell hb1
  go_wp2_with fail
  refine (right_any c d true R2.out _).mono ?_
  rintro e2 w2 ⟨rfl,hb2⟩
  have F2:=bt hb1 hb2
  clear hc1 hf1 hb1 hb2
  obtain ⟨hc2,hf2⟩:=bcell F2
  have G2:=bt (bal (ba _ _) _) F2
  go_wp2_with fail
  refine (compare_any (a * d) (c * b) k HK.out _).mono ?_
  rintro e3 w3 ⟨rfl,rfl⟩
  go_wp2_with fail
  go_ret2
  exact ⟨rfl,G2⟩
 ·have hr:=H.out
  unfold Rt.orderT at hr
  rw [if_neg r] at hr
  simp only [Prod.mk.injEq] at hr
  obtain ⟨rfl,rfl⟩:=hr
  have r':Rt.rightB a b=false∨(Rt.rightB a b=true∧Rt.rightB c d=false):=by
   cases h1:Rt.rightB a b <;> cases h2:Rt.rightB c d <;> simp_all
  clear r H
  rcases r' with r1 | ⟨r1,r2⟩
  ·have R1:Hid (Rt.rightB a b=false):=r1
   clear r1
   go_enter Tryz.func249,Tryz.ntmps249
   go_wp2_with fail
   refine (right_any a b false R1.out _).mono ?_
   rintro e1 w1 ⟨rfl,hb1⟩
   have G1:=bt (bal (ba _ _) _) hb1
   obtain ⟨hc1,hf1⟩:=bcell hb1
   go_wp2_with fail
   go_ret2
   exact ⟨rfl,G1⟩
  ·have R1:Hid (Rt.rightB a b=true):=r1
   have R2:Hid (Rt.rightB c d=false):=r2
   clear r1 r2
   go_enter Tryz.func249,Tryz.ntmps249
   go_wp2_with fail
   refine (right_any a b true R1.out _).mono ?_
   rintro e1 w1 ⟨rfl,hb1⟩
   obtain ⟨hc1,hf1⟩:=bcell hb1
   go_wp2_with fail
   refine (right_any c d false R2.out _).mono ?_
   rintro e2 w2 ⟨rfl,hb2⟩
   have F2:=bt hb1 hb2
   clear hc1 hf1 hb1 hb2
   have G1:=bt (bal (ba _ _) _) F2
   obtain ⟨hc1,hf1⟩:=bcell F2
   go_wp2_with fail
   go_ret2
   exact ⟨rfl,G1⟩
end Go.Proofs.YtpmioeamdhdokaaGreat.K.P
