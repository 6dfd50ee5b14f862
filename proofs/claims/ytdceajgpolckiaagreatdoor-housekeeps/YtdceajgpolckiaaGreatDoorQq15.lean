import Derived.Test.YtdceajgpolckiaaGreatDoorQq03
open Go.Proofs.Tryz
set_option linter.unusedSimpArgs false
set_option maxHeartbeats 16000000
set_option maxRecDepth 100000
namespace Go.Proofs.YtdceajgpolckiaaGreatDoor
namespace K.P
open Go.RowKit
abbrev rv (n m:Int):Value:=.agg #[.int .i64 n,.int .i64 m]
theorem bcell {W w1:World}(hb:Below W.heap.size W w1):(∀ b o,b<W.heap.size->w1.cell? ⟨b,o,none⟩=W.cell? ⟨b,o,none⟩)/\(∀ b o,b<W.heap.size->w1.frozen? ⟨b,o,none⟩=W.frozen? ⟨b,o,none⟩) :=
 ⟨fun b o h=>hb.cell (p:=⟨b,o,none⟩) h,fun b o h=>hb.frozen (p:=⟨b,o,none⟩) h⟩
theorem bt {w w1 w2:World}(h:Below w.heap.size w w1)(k:Below w1.heap.size w1 w2):Below w.heap.size w w2:=h.trans (k.mono h.size)
theorem ba (w:World)(o:Obj):Below w.heap.size w (w.alloc o):=(aQ _ _).alloc (vQ _) o
theorem bs {w w1:World}(h:Below w.heap.size w w1){p:Addr}(hp:w.heap.size<=p.block)(u:Value):Below w.heap.size w (w1.setCell p u):=h.setCell hp u
theorem bal {w w1:World}(h:Below w.heap.size w w1)(o:Obj):Below w.heap.size w (w1.alloc o):=h.alloc h.size o
theorem vY (u d:Int)(b:Bool)(hb:Rt.fQ u d=b)(w:World) :
  Calls prog 143 #[rv u d] w fun e w'=>e=.returned (.bool b)/\Below w.heap.size w w':=by
 have HB:Hid (Rt.fQ u d=b):=hb;clear hb;by_cases c:0<=u/\u<=1073741824/\1<=d/\d<=1073741824
 ·obtain⟨c1,c2,c3,c4⟩:=c
  obtain⟨x,rfl⟩:=jG c1;obtain⟨y,rfl⟩:=jG (show 0<=d by omega)
  have hbb:b=(((Nat.gcd x y:Nat):Int) == 1):=by
   rw[<-HB.out];unfold Rt.fQ;rw[Bool.eq_iff_iff];simp[Rt.mx];omega
  subst hbb;clear HB;go_enter func143,ntmps143;go_wp2_with (go_at_call 59;refine(dK _ _ (by omega) (by omega) _).mono ?_;rintro e w' ⟨rfl,hbl⟩);go_ret;exact⟨rfl,bt (ba _ _) hbl⟩
 ·have hbb:b=false:=by
   rw[<-HB.out];unfold Rt.fQ Rt.mx;exact nV (fun h=>c ⟨h.1,h.2.1,h.2.2.1,h.2.2.2.1⟩)
  subst hbb;clear HB;by_cases c1:u<0
  ·clear c
   go_enter func143,ntmps143;go_wp2;go_ret;exact⟨rfl,ba _ _⟩
  by_cases c2:1073741824<u
  ·clear c
   go_enter func143,ntmps143;go_wp2;go_ret;exact⟨rfl,ba _ _⟩
  by_cases c3:d<1
  ·clear c
   go_enter func143,ntmps143;go_wp2;go_ret;exact⟨rfl,ba _ _⟩
  ·have c4:1073741824<d:=by omega
   clear c;go_enter func143,ntmps143;go_wp2;go_ret;exact⟨rfl,ba _ _⟩
theorem czQ (u d n m e:Int)(hu:u<=9223372036854775807)(hd:d<=9223372036854775807)(h:Rt.wV u d=(n,m,e))(w:World) :
  Calls prog 30 #[.int .i64 u,.int .i64 d] w fun x w'=>x=.returned (.tuple #[rv n m,.int .i64 e])/\Below w.heap.size w w':=by
 have H:Hid (Rt.wV u d=(n,m,e)):=h;clear h;by_cases c1:u<0
 ·have hr:(0,0,3)=(n,m,e):=by rw[<-H.out];unfold Rt.wV;rw[xQ (.inl c1)]
  simp only[cQ] at hr;obtain⟨rfl,rfl,rfl⟩:=hr;go_enter func30,ntmps30;go_wp2;exact yQ (v:=.tuple #[rv 0 0,.int .i64 3]) (by simp[results,results30,go_sem]) rfl ⟨rfl,ba _ _⟩
 by_cases c2:d<1
 ·have hr:(0,0,3)=(n,m,e):=by rw[<-H.out];unfold Rt.wV;rw[xQ (.inr c2)]
  simp only[cQ] at hr;obtain⟨rfl,rfl,rfl⟩:=hr;go_enter func30,ntmps30;go_wp2;exact yQ (v:=.tuple #[rv 0 0,.int .i64 3]) (by simp[results,results30,go_sem]) rfl ⟨rfl,ba _ _⟩
 have hm:=Rt.aS u d n m e (by omega) (by omega) H.out;clear H;obtain⟨x,rfl⟩:=jG (show 0<=u by omega);obtain⟨y,rfl⟩:=jG (show 0<=d by omega);rw[show Int.gcd (x:Int) (y:Int)=Nat.gcd x y from rfl] at hm;have hg1:1<=Nat.gcd x y:=Nat.gcd_pos_of_pos_right _ (by omega);have hg2:Nat.gcd x y<=y:=Nat.gcd_le_right _ (by omega);have q1:0<=(x:Int) / (Nat.gcd x y:Nat):=yO (by omega) (by omega);have q2:0<=(y:Int) / (Nat.gcd x y:Nat):=yO (by omega) (by omega);have q3:(x:Int) / (Nat.gcd x y:Nat)<=9223372036854775807:=zL (uO _ (by omega)) hu;have q4:(y:Int) / (Nat.gcd x y:Nat)<=9223372036854775807:=zL (uO _ (by omega)) hd;rcases hm with⟨hc,rfl,rfl,rfl⟩|⟨hc1,hc2,rfl,rfl,rfl⟩
 ·have hc':1073741824<(x:Int) / (Nat.gcd x y:Nat)\/((x:Int) / (Nat.gcd x y:Nat)<=1073741824/\1073741824<(y:Int) / (Nat.gcd x y:Nat)):=by omega
  clear hc;rcases hc' with hc1|⟨hc1,hc2⟩
  all_goals
   go_enter func30,ntmps30;go_wp2_with (go_at_call 59;refine(dK _ _ (by omega) (by omega) _).mono ?_;rintro e w' ⟨rfl,hbl⟩);obtain⟨hcell,hfroz⟩:=bcell hbl;generalize Nat.gcd x y=g at *
   have hz:w.heap.size<w'.heap.size:=by have:=hbl.size;simp at this;omega
   go_region
   go_wp2;exact yQ (v:=.tuple #[rv 0 0,.int .i64 4]) (by simp[results,results30,go_sem,hcell,hz]) rfl ⟨rfl,(bal (bs (bs (bt (ba _ _) hbl) (vQ _) _) (vQ _) _) _).drew⟩
 ·go_enter func30,ntmps30
  go_wp2_with (go_at_call 59;refine(dK _ _ (by omega) (by omega) _).mono ?_;rintro e w' ⟨rfl,hbl⟩);obtain⟨hcell,hfroz⟩:=bcell hbl;have hz:w.heap.size<w'.heap.size:=by have:=hbl.size;simp at this;omega
  go_region
  go_wp2;exact yQ (v:=.tuple #[rv (x / (Nat.gcd x y:Nat)) (y / (Nat.gcd x y:Nat)),.int .i64 0]) (by simp[results,results30,go_sem,hcell,hz]) rfl ⟨rfl,(bal (bs (bs (bt (ba _ _) hbl) (vQ _) _) (vQ _) _) _).drew⟩
theorem eT (a b c d:Int)(p q:Nat)(w:World)(a1:0<=a)(a2:a<=1073741824)(b1:1<=b)(b2:b<=1073741824)(c1:0<=c)(c2:c<=1073741824)(d1:1<=d)(d2:d<=1073741824)
  (k1:w.cell? ⟨p,0,none⟩=some (.int .i64 a)) (k2:w.cell? ⟨p,1,none⟩=some (.int .i64 b)) (k3:w.cell? ⟨q,0,none⟩=some (.int .i64 c)) (k4:w.cell? ⟨q,1,none⟩=some (.int .i64 d)) :
  Calls prog 184 #[.pointer (some ⟨p,0,none⟩),.pointer (some ⟨q,0,none⟩)] w fun x w'=>x=.returned (.tuple #[.int .i64 (a*c),.int .i64 (b*d)])/\Below w.heap.size w w':=by
 obtain⟨p1,p2⟩:=Rt.wZ a1 a2 c1 c2;obtain⟨p3,p4⟩:=Rt.wZ (a:=b) (b:=d) (by omega) b2 (by omega) d2;obtain⟨p5,p6⟩:=Rt.wZ (a:=a) (b:=d) (by omega) a2 (by omega) d2;obtain⟨p7,p8⟩:=Rt.wZ (a:=c) (b:=b) (by omega) c2 (by omega) b2;obtain⟨p9,p10⟩:=Rt.wZ (a:=b) (b:=c) (by omega) b2 (by omega) c2;go_enter func184,ntmps184;go_wp2;go_quiet (fail);go_wp2;go_ret2;exact⟨rfl,below_drewN (aQ _ _) _⟩
theorem fT (a b c d n m e:Int)(r1:Rt.fQ a b=true)(r2:Rt.fQ c d=true)(hm:Rt.wV (a*c) (b*d)=(n,m,e))(p q:Nat)(w:World)(hp:p<w.heap.size)(hq:q<w.heap.size)
  (k1:w.cell? ⟨p,0,none⟩=some (.int .i64 a)) (k2:w.cell? ⟨p,1,none⟩=some (.int .i64 b)) (k3:w.cell? ⟨q,0,none⟩=some (.int .i64 c)) (k4:w.cell? ⟨q,1,none⟩=some (.int .i64 d)) :
  Calls prog 183 #[rv a b,rv c d,.func (.func 184) #[] #[.pointer (some ⟨p,0,none⟩),.pointer (some ⟨q,0,none⟩)]] w fun x w'=>x=.returned (.tuple #[rv n m,.int .i64 e])/\Below w.heap.size w w':=by
 have HM:Hid (Rt.wV (a*c) (b*d)=(n,m,e)):=hm;have R1:Hid (Rt.fQ a b=true):=r1;have R2:Hid (Rt.fQ c d=true):=r2;obtain⟨a1,a2,b1,b2⟩:=Rt.nF r1;obtain⟨c1,c2,d1,d2⟩:=Rt.nF r2;clear r1 r2 hm;obtain⟨p1,p2⟩:=Rt.wZ a1 a2 c1 c2;obtain⟨p3,p4⟩:=Rt.wZ (a:=b) (b:=d) (by omega) b2 (by omega) d2;obtain⟨p5,p6⟩:=Rt.wZ (a:=a) (b:=d) (by omega) a2 (by omega) d2;obtain⟨p7,p8⟩:=Rt.wZ (a:=c) (b:=b) (by omega) c2 (by omega) b2;obtain⟨p9,p10⟩:=Rt.wZ (a:=b) (b:=c) (by omega) b2 (by omega) c2;go_enter func183,ntmps183;go_wp2_with fail;refine(vY a b true R1.out _).mono ?_;rintro e1 w1 ⟨rfl,hb1⟩;obtain⟨hc1,hf1⟩:=bcell hb1;go_wp2_with fail;refine(vY c d true R2.out _).mono ?_;rintro e2 w2 ⟨rfl,hb2⟩;have F2:=bt hb1 hb2;clear hc1 hf1 hb1 hb2;have G2:=bt (bal (bal (ba _ _) _) _) F2;go_wp2_with fail;refine(eT a b c d p q _ a1 a2 b1 b2 c1 c2 d1 d2 ((G2.cell (p:=⟨p,0,none⟩) hp).trans k1) ((G2.cell (p:=⟨p,1,none⟩) hp).trans k2) ((G2.cell (p:=⟨q,0,none⟩) hq).trans k3) ((G2.cell (p:=⟨q,1,none⟩) hq).trans k4)).mono ?_;rintro e3 w3 ⟨rfl,hb3⟩;go_wp2_with fail;refine(czQ (a*c) (b*d) n m e (by omega) (by omega) HM.out _).mono ?_;rintro e4 w4 ⟨rfl,hb4⟩;have F4:=bt (bt F2 hb3) hb4;have G4:=bt (bal (bal (ba _ _) _) _) F4;clear F2 hb3 hb4 G2;obtain⟨hc4,hf4⟩:=bcell F4;go_wp2_with fail;exact yQ (v:=.tuple #[rv n m,.int .i64 e]) (by simp[results,results183,go_sem,hc4]) rfl ⟨rfl,bs (bs G4 (by simp;omega) _) (by simp;omega) _⟩
theorem gT (a b c d:Int)(f:Value)(h:Rt.fQ a b=false\/(Rt.fQ a b=true/\Rt.fQ c d=false))(w:World) :
  Calls prog 183 #[rv a b,rv c d,f] w fun x w'=>x=.returned (.tuple #[rv 0 0,.int .i64 2])/\Below w.heap.size w w':=by
 rcases h with r1|⟨r1,r2⟩
 ·have R1:Hid (Rt.fQ a b=false):=r1
  clear r1;go_enter func183,ntmps183;go_wp2_with fail;refine(vY a b false R1.out _).mono ?_;rintro e1 w1 ⟨rfl,hb1⟩;have G1:=bt (bal (bal (ba _ _) _) _) hb1;obtain⟨hc1,hf1⟩:=bcell hb1;go_wp2_with fail;exact yQ (v:=.tuple #[rv 0 0,.int .i64 2]) (by simp[results,results183,go_sem,hc1]) rfl ⟨rfl,bs (bs G1 (by simp;omega) _) (by simp;omega) _⟩
 ·have R1:Hid (Rt.fQ a b=true):=r1
  have R2:Hid (Rt.fQ c d=false):=r2;clear r1 r2;go_enter func183,ntmps183;go_wp2_with fail;refine(vY a b true R1.out _).mono ?_;rintro e1 w1 ⟨rfl,hb1⟩;obtain⟨hc1,hf1⟩:=bcell hb1;go_wp2_with fail;refine(vY c d false R2.out _).mono ?_;rintro e2 w2 ⟨rfl,hb2⟩;have F2:=bt hb1 hb2;clear hc1 hf1 hb1 hb2;have G2:=bt (bal (bal (ba _ _) _) _) F2;obtain⟨hc1,hf1⟩:=bcell F2;go_wp2_with fail;exact yQ (v:=.tuple #[rv 0 0,.int .i64 2]) (by simp[results,results183,go_sem,hc1]) rfl ⟨rfl,bs (bs G2 (by simp;omega) _) (by simp;omega) _⟩
theorem oH (a b c d n m e:Int)(h:Rt.sY a b c d=(n,m,e))(w:World) :
  Calls prog 144 #[rv a b,rv c d] w fun x w'=>x=.returned (.tuple #[rv n m,.int .i64 e])/\Below w.heap.size w w':=by
 have H:Hid (Rt.sY a b c d=(n,m,e)):=h;clear h;by_cases r:Rt.fQ a b=true/\Rt.fQ c d=true
 ·obtain⟨r1,r2⟩:=r
  have hm:Rt.wV (a*c) (b*d)=(n,m,e):=by rw[<-H.out];unfold Rt.sY;rw[xQ ⟨r1,r2⟩]
  have HM:Hid (Rt.wV (a*c) (b*d)=(n,m,e)):=hm;have R1:Hid (Rt.fQ a b=true):=r1;have R2:Hid (Rt.fQ c d=true):=r2;clear hm r1 r2 H;go_enter func144,ntmps144;go_wp2_with fail;refine(fT a b c d n m e R1.out R2.out HM.out w.heap.size (w.heap.size+1) _ (by simp <;> omega) (by simp <;> omega) (by simp[go_sem]) (by simp[go_sem]) (by simp[go_sem]) (by simp[go_sem])).mono ?_;rintro e1 w1 ⟨rfl,hb1⟩;have G1:=bt (bal (bal (ba _ _) _) _) hb1;obtain⟨hc1,hf1⟩:=bcell hb1;go_wp2_with fail;exact yQ (v:=.tuple #[rv n m,.int .i64 e]) (by simp[results,results144,go_sem,hc1]) rfl ⟨rfl,bs (bs G1 (by simp;omega) _) (by simp;omega) _⟩
 ·have hr:(0,0,2)=(n,m,e):=by rw[<-H.out];unfold Rt.sY;rw[qQ r]
  simp only[cQ] at hr;obtain⟨rfl,rfl,rfl⟩:=hr
  have r':Rt.fQ a b=false\/(Rt.fQ a b=true/\Rt.fQ c d=false):=by
   cases h1:Rt.fQ a b <;> cases h2:Rt.fQ c d <;> simp_all
  have R:Hid (Rt.fQ a b=false\/(Rt.fQ a b=true/\Rt.fQ c d=false)):=r';clear r r' H;go_enter func144,ntmps144;go_wp2_with fail;refine(gT a b c d _ R.out _).mono ?_;rintro e1 w1 ⟨rfl,hb1⟩;have G1:=bt (bal (bal (ba _ _) _) _) hb1;obtain⟨hc1,hf1⟩:=bcell hb1;go_wp2_with fail;exact yQ (v:=.tuple #[rv 0 0,.int .i64 2]) (by simp[results,results144,go_sem,hc1]) rfl ⟨rfl,bs (bs G1 (by simp;omega) _) (by simp;omega) _⟩
theorem nB (a:Int)(w:World):Calls prog 179 #[.int .i64 a] w fun x w'=>x=.returned (.bool false)/\w' = w:=by
 go_enter func179,ntmps179;go_wp2;go_ret;exact⟨rfl,rfl⟩
theorem eS (a b k:Int)(h:(if a<b then -1 else if b<a then 1 else 0)=k)(w:World):Calls prog 122 #[.int .i64 a,.int .i64 b] w fun x w'=>x=.returned (.int .i64 k)/\w' = w:=by
 have H:Hid ((if a<b then -1 else if b<a then 1 else 0)=k):=h;clear h;by_cases c1:a<b
 ·have hk:-1=k:=by rw[<-H.out,xQ c1]
  subst hk;clear H;go_enter func122,ntmps122;go_wp2_with (go_at_call 179;refine(nB _ _).mono ?_;rintro e w' ⟨rfl,rfl⟩);go_ret;exact⟨rfl,rfl⟩
 by_cases c2:b<a
 ·have hk:1=k:=by rw[<-H.out,qQ c1,xQ c2]
  subst hk;clear H;go_enter func122,ntmps122;go_wp2_with (go_at_call 179;refine(nB _ _).mono ?_;rintro e w' ⟨rfl,rfl⟩);go_ret;exact⟨rfl,rfl⟩
 ·have hk:0=k:=by rw[<-H.out,qQ c1,qQ c2]
  subst hk;clear H;go_enter func122,ntmps122;go_wp2_with (go_at_call 179;refine(nB _ _).mono ?_;rintro e w' ⟨rfl,rfl⟩);go_ret;exact⟨rfl,rfl⟩
theorem kL (a b c d k e:Int)(h:Rt.bI a b c d=(k,e))(w:World) :
  Calls prog 200 #[rv a b,rv c d] w fun x w'=>x=.returned (.tuple #[.int .i64 k,.int .i64 e])/\Below w.heap.size w w':=by
 have H:Hid (Rt.bI a b c d=(k,e)):=h;clear h;by_cases r:Rt.fQ a b=true/\Rt.fQ c d=true
 ·obtain⟨r1,r2⟩:=r
  have hm:=H.out;unfold Rt.bI at hm;rw[xQ ⟨r1,r2⟩] at hm;simp only[cQ] at hm;obtain⟨hk,rfl⟩:=hm;have HK:Hid ((if a*d<c*b then -1 else if c*b<a*d then 1 else 0)=k):=hk;have R1:Hid (Rt.fQ a b=true):=r1;have R2:Hid (Rt.fQ c d=true):=r2;clear hk r1 r2 H;obtain⟨a1,a2,b1,b2⟩:=Rt.nF R1.out;obtain⟨c1,c2,d1,d2⟩:=Rt.nF R2.out;obtain⟨p1,p2⟩:=Rt.wZ a1 a2 c1 c2;obtain⟨p3,p4⟩:=Rt.wZ (a:=b) (b:=d) (by omega) b2 (by omega) d2;obtain⟨p5,p6⟩:=Rt.wZ (a:=a) (b:=d) (by omega) a2 (by omega) d2;obtain⟨p7,p8⟩:=Rt.wZ (a:=c) (b:=b) (by omega) c2 (by omega) b2;obtain⟨p9,p10⟩:=Rt.wZ (a:=b) (b:=c) (by omega) b2 (by omega) c2;go_enter func200,ntmps200;go_wp2_with fail;refine(vY a b true R1.out _).mono ?_;rintro e1 w1 ⟨rfl,hb1⟩;obtain⟨hc1,hf1⟩:=bcell hb1;go_wp2_with fail;refine(vY c d true R2.out _).mono ?_;rintro e2 w2 ⟨rfl,hb2⟩;have F2:=bt hb1 hb2;clear hc1 hf1 hb1 hb2;obtain⟨hc2,hf2⟩:=bcell F2;have G2:=bt (bal (ba _ _) _) F2;go_wp2_with fail;refine(eS (a*d) (c*b) k HK.out _).mono ?_;rintro e3 w3 ⟨rfl,rfl⟩;go_wp2_with fail;go_ret2;exact⟨rfl,G2⟩
 ·have hr:=H.out
  unfold Rt.bI at hr;rw[qQ r] at hr;simp only[cQ] at hr;obtain⟨rfl,rfl⟩:=hr
  have r':Rt.fQ a b=false\/(Rt.fQ a b=true/\Rt.fQ c d=false):=by
   cases h1:Rt.fQ a b <;> cases h2:Rt.fQ c d <;> simp_all
  clear r H;rcases r' with r1|⟨r1,r2⟩
  ·have R1:Hid (Rt.fQ a b=false):=r1
   clear r1;go_enter func200,ntmps200;go_wp2_with fail;refine(vY a b false R1.out _).mono ?_;rintro e1 w1 ⟨rfl,hb1⟩;have G1:=bt (bal (ba _ _) _) hb1;obtain⟨hc1,hf1⟩:=bcell hb1;go_wp2_with fail;go_ret2;exact⟨rfl,G1⟩
  ·have R1:Hid (Rt.fQ a b=true):=r1
   have R2:Hid (Rt.fQ c d=false):=r2;clear r1 r2;go_enter func200,ntmps200;go_wp2_with fail;refine(vY a b true R1.out _).mono ?_;rintro e1 w1 ⟨rfl,hb1⟩;obtain⟨hc1,hf1⟩:=bcell hb1;go_wp2_with fail;refine(vY c d false R2.out _).mono ?_;rintro e2 w2 ⟨rfl,hb2⟩;have F2:=bt hb1 hb2;clear hc1 hf1 hb1 hb2;have G1:=bt (bal (ba _ _) _) F2;obtain⟨hc1,hf1⟩:=bcell F2;go_wp2_with fail;go_ret2;exact⟨rfl,G1⟩
