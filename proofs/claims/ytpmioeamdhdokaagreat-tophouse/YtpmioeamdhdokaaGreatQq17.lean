import Derived.Test.YtpmioeamdhdokaaGreatQq13
open Go.Proofs.Tryz
set_option linter.unusedSimpArgs false
set_option maxHeartbeats 16000000
set_option maxRecDepth 100000
namespace Go.Proofs.YtpmioeamdhdokaaGreat
variable {W w w' w1 wr:World} {p:Addr} {B b c i n:Nat} {v:Value} {a:Option Addr} {x y:List Int} {A A' g k:Int}
namespace K.P
open Go.RowKit
abbrev rv (n m:Int):Value:=.agg #[.int .i64 n,.int .i64 m]
theorem bcell (hb:Below W.heap.size W w1):(∀ b o,b<W.heap.size->w1.cell? ⟨b,o,none⟩=W.cell? ⟨b,o,none⟩)/\(∀ b o,b<W.heap.size->w1.frozen? ⟨b,o,none⟩=W.frozen? ⟨b,o,none⟩) :=
 ⟨fun b o h=>hb.cell (p:=⟨b,o,none⟩) h,fun b o h=>hb.frozen (p:=⟨b,o,none⟩) h⟩
theorem bt {w2:World}(h:Below w.heap.size w w1)(k:Below w1.heap.size w1 w2):Below w.heap.size w w2:=h.trans (k.mono h.size)
theorem ba (w:World)(o:Obj):Below w.heap.size w (w.alloc o):=(aQ _ _).alloc (vQ _) o
theorem bs (h:Below w.heap.size w w1)(hp:w.heap.size<=p.block)(u:Value):Below w.heap.size w (w1.setCell p u):=h.setCell hp u
theorem bal (h:Below w.heap.size w w1)(o:Obj):Below w.heap.size w (w1.alloc o):=h.alloc h.size o
theorem lY (u d:Int)(b:Bool)(hb:Rt.oQ u d=b)(w:World) :
  Calls prog 174 #[rv u d] w fun e w'=>e=.returned (.bool b)/\Below w.heap.size w w':=by
 have HB:=qQ hb;clear hb;by_cases c:0<=u/\u<=1073741824/\1<=d/\d<=1073741824
 ·obtain⟨c1,c2,c3,c4⟩:=c
  obtain⟨x,rfl⟩:=cA c1;obtain⟨y,rfl⟩:=cA (show 0<=d by omega)
  have hbb:b=(((Nat.gcd x y:Nat):Int) == 1):=by
   rw[<-HB.out];unfold Rt.oQ;rw[Bool.eq_iff_iff];simp[Rt.mx];omega
  subst hbb;clear HB;go_enter func174,ntmps174;go_wp2_with (go_at_call 74;refine(yL _ _ (by omega) (by omega) _).mono ?_;rintro e w' ⟨rfl,hbl⟩);go_ret;exact⟨rfl,bt (ba _ _) hbl⟩
 ·have hbb:b=false:=by
   rw[<-HB.out];unfold Rt.oQ Rt.mx;exact oV (fun h=>c ⟨h.1,h.2.1,h.2.2.1,h.2.2.2.1⟩)
  subst hbb;clear HB;by_cases c1:u<0
  ·clear c
   go_enter func174,ntmps174;go_wp2;go_ret;exact⟨rfl,ba _ _⟩
  by_cases c2:1073741824<u
  ·clear c
   go_enter func174,ntmps174;go_wp2;go_ret;exact⟨rfl,ba _ _⟩
  by_cases c3:d<1
  ·clear c
   go_enter func174,ntmps174;go_wp2;go_ret;exact⟨rfl,ba _ _⟩
  ·have c4:1073741824<d:=by omega
   clear c;go_enter func174,ntmps174;go_wp2;go_ret;exact⟨rfl,ba _ _⟩
theorem bfJ (u d n m e:Int)(hu:u<=9223372036854775807)(hd:d<=9223372036854775807)(h:Rt.kY u d=(n,m,e))(w:World) :
  Calls prog 37 #[.int .i64 u,.int .i64 d] w fun x w'=>x=.returned (.tuple #[rv n m,.int .i64 e])/\Below w.heap.size w w':=by
 have H:=qQ h;clear h;by_cases c1:u<0
 ·have hr:(0,0,3)=(n,m,e):=by rw[<-H.out];unfold Rt.kY;rw[zQ (.inl c1)]
  simp only[dQ] at hr;obtain⟨rfl,rfl,rfl⟩:=hr;go_enter func37,ntmps37;go_wp2;exact uQ (v:=.tuple #[rv 0 0,.int .i64 3]) (by simp[results,results37,go_sem]) rfl ⟨rfl,ba _ _⟩
 by_cases c2:d<1
 ·have hr:(0,0,3)=(n,m,e):=by rw[<-H.out];unfold Rt.kY;rw[zQ (.inr c2)]
  simp only[dQ] at hr;obtain⟨rfl,rfl,rfl⟩:=hr;go_enter func37,ntmps37;go_wp2;exact uQ (v:=.tuple #[rv 0 0,.int .i64 3]) (by simp[results,results37,go_sem]) rfl ⟨rfl,ba _ _⟩
 have hm:=Rt.cT u d n m e (by omega) (by omega) H.out;clear H;obtain⟨x,rfl⟩:=cA (show 0<=u by omega);obtain⟨y,rfl⟩:=cA (show 0<=d by omega);rw[show Int.gcd (x:Int) (y:Int)=Nat.gcd x y from rfl] at hm;have hg1:1<=Nat.gcd x y:=Nat.gcd_pos_of_pos_right _ (by omega);have hg2:Nat.gcd x y<=y:=Nat.gcd_le_right _ (by omega);have q1:0<=(x:Int) / (Nat.gcd x y:Nat):=yP (by omega) (by omega);have q2:0<=(y:Int) / (Nat.gcd x y:Nat):=yP (by omega) (by omega);have q3:(x:Int) / (Nat.gcd x y:Nat)<=9223372036854775807:=aN (bN _ (by omega)) hu;have q4:(y:Int) / (Nat.gcd x y:Nat)<=9223372036854775807:=aN (bN _ (by omega)) hd;rcases hm with⟨hc,rfl,rfl,rfl⟩|⟨hc1,hc2,rfl,rfl,rfl⟩
 ·have hc':1073741824<(x:Int) / (Nat.gcd x y:Nat)\/((x:Int) / (Nat.gcd x y:Nat)<=1073741824/\1073741824<(y:Int) / (Nat.gcd x y:Nat)):=by omega
  clear hc;rcases hc' with hc1|⟨hc1,hc2⟩
  all_goals
   go_enter func37,ntmps37;go_wp2_with (go_at_call 74;refine(yL _ _ (by omega) (by omega) _).mono ?_;rintro e w' ⟨rfl,hbl⟩);obtain⟨hcell,hfroz⟩:=bcell hbl;generalize Nat.gcd x y=g at *
   have hz:w.heap.size<w'.heap.size:=by have:=hbl.size;simp at this;omega
   go_region
   go_wp2;exact uQ (v:=.tuple #[rv 0 0,.int .i64 4]) (by simp[results,results37,go_sem,hcell,hz]) rfl ⟨rfl,(bal (bs (bs (bt (ba _ _) hbl) (vQ _) _) (vQ _) _) _).drew⟩
 ·go_enter func37,ntmps37
  go_wp2_with (go_at_call 74;refine(yL _ _ (by omega) (by omega) _).mono ?_;rintro e w' ⟨rfl,hbl⟩);obtain⟨hcell,hfroz⟩:=bcell hbl;have hz:w.heap.size<w'.heap.size:=by have:=hbl.size;simp at this;omega
  go_region
  go_wp2;exact uQ (v:=.tuple #[rv (x / (Nat.gcd x y:Nat)) (y / (Nat.gcd x y:Nat)),.int .i64 0]) (by simp[results,results37,go_sem,hcell,hz]) rfl ⟨rfl,(bal (bs (bs (bt (ba _ _) hbl) (vQ _) _) (vQ _) _) _).drew⟩
theorem l6 (a b c d:Int)(p q:Nat)(w:World)(a1:0<=a)(a2:a<=1073741824)(b1:1<=b)(b2:b<=1073741824)(c1:0<=c)(c2:c<=1073741824)(d1:1<=d)(d2:d<=1073741824)
  (k1:w.cell? ⟨p,0,none⟩=some (.int .i64 a)) (k2:w.cell? ⟨p,1,none⟩=some (.int .i64 b)) (k3:w.cell? ⟨q,0,none⟩=some (.int .i64 c)) (k4:w.cell? ⟨q,1,none⟩=some (.int .i64 d)) :
  Calls prog 228 #[.pointer (some ⟨p,0,none⟩),.pointer (some ⟨q,0,none⟩)] w fun x w'=>x=.returned (.tuple #[.int .i64 (a*c),.int .i64 (b*d)])/\Below w.heap.size w w':=by
 obtain⟨p1,p2⟩:=Rt.dJ a1 a2 c1 c2;obtain⟨p3,p4⟩:=Rt.dJ (a:=b) (b:=d) (by omega) b2 (by omega) d2;obtain⟨p5,p6⟩:=Rt.dJ (a:=a) (b:=d) (by omega) a2 (by omega) d2;obtain⟨p7,p8⟩:=Rt.dJ (a:=c) (b:=b) (by omega) c2 (by omega) b2;obtain⟨p9,p10⟩:=Rt.dJ (a:=b) (b:=c) (by omega) b2 (by omega) c2;go_enter func228,ntmps228;go_wp2;go_quiet (fail);go_wp2;go_ret2;exact⟨rfl,below_drewN (aQ _ _) _⟩
theorem u7 (a b c d n m e:Int)(r1:Rt.oQ a b=true)(r2:Rt.oQ c d=true)(hm:Rt.kY (a*c) (b*d)=(n,m,e))(p q:Nat)(w:World)(hp:p<w.heap.size)(hq:q<w.heap.size)
  (k1:w.cell? ⟨p,0,none⟩=some (.int .i64 a)) (k2:w.cell? ⟨p,1,none⟩=some (.int .i64 b)) (k3:w.cell? ⟨q,0,none⟩=some (.int .i64 c)) (k4:w.cell? ⟨q,1,none⟩=some (.int .i64 d)) :
  Calls prog 227 #[rv a b,rv c d,.func (.func 228) #[] #[.pointer (some ⟨p,0,none⟩),.pointer (some ⟨q,0,none⟩)]] w fun x w'=>x=.returned (.tuple #[rv n m,.int .i64 e])/\Below w.heap.size w w':=by
 have HM:=qQ hm;have R1:=qQ r1;have R2:=qQ r2;obtain⟨a1,a2,b1,b2⟩:=Rt.yI r1;obtain⟨c1,c2,d1,d2⟩:=Rt.yI r2;clear r1 r2 hm;obtain⟨p1,p2⟩:=Rt.dJ a1 a2 c1 c2;obtain⟨p3,p4⟩:=Rt.dJ (a:=b) (b:=d) (by omega) b2 (by omega) d2;obtain⟨p5,p6⟩:=Rt.dJ (a:=a) (b:=d) (by omega) a2 (by omega) d2;obtain⟨p7,p8⟩:=Rt.dJ (a:=c) (b:=b) (by omega) c2 (by omega) b2;obtain⟨p9,p10⟩:=Rt.dJ (a:=b) (b:=c) (by omega) b2 (by omega) c2;go_enter func227,ntmps227;go_wp2_with fail;refine(lY a b true R1.out _).mono ?_;rintro e1 w1 ⟨rfl,hb1⟩;obtain⟨hc1,hf1⟩:=bcell hb1;go_wp2_with fail;refine(lY c d true R2.out _).mono ?_;rintro e2 w2 ⟨rfl,hb2⟩;have F2:=bt hb1 hb2;clear hc1 hf1 hb1 hb2;have G2:=bt (bal (bal (ba _ _) _) _) F2;go_wp2_with fail;refine(l6 a b c d p q _ a1 a2 b1 b2 c1 c2 d1 d2 ((G2.cell (p:=⟨p,0,none⟩) hp).trans k1) ((G2.cell (p:=⟨p,1,none⟩) hp).trans k2) ((G2.cell (p:=⟨q,0,none⟩) hq).trans k3) ((G2.cell (p:=⟨q,1,none⟩) hq).trans k4)).mono ?_;rintro e3 w3 ⟨rfl,hb3⟩;go_wp2_with fail;refine(bfJ (a*c) (b*d) n m e (by omega) (by omega) HM.out _).mono ?_;rintro e4 w4 ⟨rfl,hb4⟩;have F4:=bt (bt F2 hb3) hb4;have G4:=bt (bal (bal (ba _ _) _) _) F4;clear F2 hb3 hb4 G2;obtain⟨hc4,hf4⟩:=bcell F4;go_wp2_with fail;exact uQ (v:=.tuple #[rv n m,.int .i64 e]) (by simp[results,results227,go_sem,hc4]) rfl ⟨rfl,bs (bs G4 (by simp;omega) _) (by simp;omega) _⟩
theorem i7 (a b c d:Int)(f:Value)(h:Rt.oQ a b=false\/(Rt.oQ a b=true/\Rt.oQ c d=false))(w:World) :
  Calls prog 227 #[rv a b,rv c d,f] w fun x w'=>x=.returned (.tuple #[rv 0 0,.int .i64 2])/\Below w.heap.size w w':=by
 rcases h with r1|⟨r1,r2⟩
 ·have R1:Hid (Rt.oQ a b=false):=r1
  clear r1;go_enter func227,ntmps227;go_wp2_with fail;refine(lY a b false R1.out _).mono ?_;rintro e1 w1 ⟨rfl,hb1⟩;have G1:=bt (bal (bal (ba _ _) _) _) hb1;obtain⟨hc1,hf1⟩:=bcell hb1;go_wp2_with fail;exact uQ (v:=.tuple #[rv 0 0,.int .i64 2]) (by simp[results,results227,go_sem,hc1]) rfl ⟨rfl,bs (bs G1 (by simp;omega) _) (by simp;omega) _⟩
 ·have R1:Hid (Rt.oQ a b=true):=r1
  have R2:=qQ r2;clear r1 r2;go_enter func227,ntmps227;go_wp2_with fail;refine(lY a b true R1.out _).mono ?_;rintro e1 w1 ⟨rfl,hb1⟩;obtain⟨hc1,hf1⟩:=bcell hb1;go_wp2_with fail;refine(lY c d false R2.out _).mono ?_;rintro e2 w2 ⟨rfl,hb2⟩;have F2:=bt hb1 hb2;clear hc1 hf1 hb1 hb2;have G2:=bt (bal (bal (ba _ _) _) _) F2;obtain⟨hc1,hf1⟩:=bcell F2;go_wp2_with fail;exact uQ (v:=.tuple #[rv 0 0,.int .i64 2]) (by simp[results,results227,go_sem,hc1]) rfl ⟨rfl,bs (bs G2 (by simp;omega) _) (by simp;omega) _⟩
theorem fK (a b c d n m e:Int)(h:Rt.vG a b c d=(n,m,e))(w:World) :
  Calls prog 175 #[rv a b,rv c d] w fun x w'=>x=.returned (.tuple #[rv n m,.int .i64 e])/\Below w.heap.size w w':=by
 have H:=qQ h;clear h;by_cases r:Rt.oQ a b=true/\Rt.oQ c d=true
 ·obtain⟨r1,r2⟩:=r
  have hm:Rt.kY (a*c) (b*d)=(n,m,e):=by rw[<-H.out];unfold Rt.vG;rw[zQ ⟨r1,r2⟩]
  have HM:=qQ hm;have R1:=qQ r1;have R2:=qQ r2;clear hm r1 r2 H;go_enter func175,ntmps175;go_wp2_with fail;refine(u7 a b c d n m e R1.out R2.out HM.out w.heap.size (w.heap.size+1) _ (by simp <;> omega) (by simp <;> omega) (by simp[go_sem]) (by simp[go_sem]) (by simp[go_sem]) (by simp[go_sem])).mono ?_;rintro e1 w1 ⟨rfl,hb1⟩;have G1:=bt (bal (bal (ba _ _) _) _) hb1;obtain⟨hc1,hf1⟩:=bcell hb1;go_wp2_with fail;exact uQ (v:=.tuple #[rv n m,.int .i64 e]) (by simp[results,results175,go_sem,hc1]) rfl ⟨rfl,bs (bs G1 (by simp;omega) _) (by simp;omega) _⟩
 ·have hr:(0,0,2)=(n,m,e):=by rw[<-H.out];unfold Rt.vG;rw[xQ r]
  simp only[dQ] at hr;obtain⟨rfl,rfl,rfl⟩:=hr
  have r':Rt.oQ a b=false\/(Rt.oQ a b=true/\Rt.oQ c d=false):=by
   cases h1:Rt.oQ a b <;> cases h2:Rt.oQ c d <;> simp_all
  have R:=qQ r';clear r r' H;go_enter func175,ntmps175;go_wp2_with fail;refine(i7 a b c d _ R.out _).mono ?_;rintro e1 w1 ⟨rfl,hb1⟩;have G1:=bt (bal (bal (ba _ _) _) _) hb1;obtain⟨hc1,hf1⟩:=bcell hb1;go_wp2_with fail;exact uQ (v:=.tuple #[rv 0 0,.int .i64 2]) (by simp[results,results175,go_sem,hc1]) rfl ⟨rfl,bs (bs G1 (by simp;omega) _) (by simp;omega) _⟩
theorem adQ (a:Int)(w:World):Calls prog 223 #[.int .i64 a] w fun x w'=>x=.returned (.bool false)/\w' = w:=by
 go_enter func223,ntmps223;go_wp2;go_ret;exact⟨rfl,rfl⟩
theorem yW (a b k:Int)(h:(if a<b then -1 else if b<a then 1 else 0)=k)(w:World):Calls prog 153 #[.int .i64 a,.int .i64 b] w fun x w'=>x=.returned (.int .i64 k)/\w' = w:=by
 have H:=qQ h;clear h;by_cases c1:a<b
 ·have hk:-1=k:=by rw[<-H.out,zQ c1]
  subst hk;clear H;go_enter func153,ntmps153;go_wp2_with (go_at_call 223;refine(adQ _ _).mono ?_;rintro e w' ⟨rfl,rfl⟩);go_ret;exact⟨rfl,rfl⟩
 by_cases c2:b<a
 ·have hk:1=k:=by rw[<-H.out,xQ c1,zQ c2]
  subst hk;clear H;go_enter func153,ntmps153;go_wp2_with (go_at_call 223;refine(adQ _ _).mono ?_;rintro e w' ⟨rfl,rfl⟩);go_ret;exact⟨rfl,rfl⟩
 ·have hk:0=k:=by rw[<-H.out,xQ c1,xQ c2]
  subst hk;clear H;go_enter func153,ntmps153;go_wp2_with (go_at_call 223;refine(adQ _ _).mono ?_;rintro e w' ⟨rfl,rfl⟩);go_ret;exact⟨rfl,rfl⟩
theorem wN (a b c d k e:Int)(h:Rt.cM a b c d=(k,e))(w:World) :
  Calls prog 249 #[rv a b,rv c d] w fun x w'=>x=.returned (.tuple #[.int .i64 k,.int .i64 e])/\Below w.heap.size w w':=by
 have H:=qQ h;clear h;by_cases r:Rt.oQ a b=true/\Rt.oQ c d=true
 ·obtain⟨r1,r2⟩:=r
  have hm:=H.out;unfold Rt.cM at hm;rw[zQ ⟨r1,r2⟩] at hm;simp only[dQ] at hm;obtain⟨hk,rfl⟩:=hm;have HK:=qQ hk;have R1:=qQ r1;have R2:=qQ r2;clear hk r1 r2 H;obtain⟨a1,a2,b1,b2⟩:=Rt.yI R1.out;obtain⟨c1,c2,d1,d2⟩:=Rt.yI R2.out;obtain⟨p1,p2⟩:=Rt.dJ a1 a2 c1 c2;obtain⟨p3,p4⟩:=Rt.dJ (a:=b) (b:=d) (by omega) b2 (by omega) d2;obtain⟨p5,p6⟩:=Rt.dJ (a:=a) (b:=d) (by omega) a2 (by omega) d2;obtain⟨p7,p8⟩:=Rt.dJ (a:=c) (b:=b) (by omega) c2 (by omega) b2;obtain⟨p9,p10⟩:=Rt.dJ (a:=b) (b:=c) (by omega) b2 (by omega) c2;go_enter func249,ntmps249;go_wp2_with fail;refine(lY a b true R1.out _).mono ?_;rintro e1 w1 ⟨rfl,hb1⟩;obtain⟨hc1,hf1⟩:=bcell hb1;go_wp2_with fail;refine(lY c d true R2.out _).mono ?_;rintro e2 w2 ⟨rfl,hb2⟩;have F2:=bt hb1 hb2;clear hc1 hf1 hb1 hb2;obtain⟨hc2,hf2⟩:=bcell F2;have G2:=bt (bal (ba _ _) _) F2;go_wp2_with fail;refine(yW (a*d) (c*b) k HK.out _).mono ?_;rintro e3 w3 ⟨rfl,rfl⟩;go_wp2_with fail;go_ret2;exact⟨rfl,G2⟩
 ·have hr:=H.out
  unfold Rt.cM at hr;rw[xQ r] at hr;simp only[dQ] at hr;obtain⟨rfl,rfl⟩:=hr
  have r':Rt.oQ a b=false\/(Rt.oQ a b=true/\Rt.oQ c d=false):=by
   cases h1:Rt.oQ a b <;> cases h2:Rt.oQ c d <;> simp_all
  clear r H;rcases r' with r1|⟨r1,r2⟩
  ·have R1:Hid (Rt.oQ a b=false):=r1
   clear r1;go_enter func249,ntmps249;go_wp2_with fail;refine(lY a b false R1.out _).mono ?_;rintro e1 w1 ⟨rfl,hb1⟩;have G1:=bt (bal (ba _ _) _) hb1;obtain⟨hc1,hf1⟩:=bcell hb1;go_wp2_with fail;go_ret2;exact⟨rfl,G1⟩
  ·have R1:Hid (Rt.oQ a b=true):=r1
   have R2:=qQ r2;clear r1 r2;go_enter func249,ntmps249;go_wp2_with fail;refine(lY a b true R1.out _).mono ?_;rintro e1 w1 ⟨rfl,hb1⟩;obtain⟨hc1,hf1⟩:=bcell hb1;go_wp2_with fail;refine(lY c d false R2.out _).mono ?_;rintro e2 w2 ⟨rfl,hb2⟩;have F2:=bt hb1 hb2;clear hc1 hf1 hb1 hb2;have G1:=bt (bal (ba _ _) _) F2;obtain⟨hc1,hf1⟩:=bcell F2;go_wp2_with fail;go_ret2;exact⟨rfl,G1⟩
end K.P
section
open Go.RowKit Ds
theorem e5J (B:Nat)(v:Value)(ts:List Tr)(w:World)(hB:B<=w.heap.size)(hp:fQ w B v ts)(l:List Pt)(er:Int)(hr:pX (rd ts)=(l,er)) :
  Calls prog 148 #[v,.bool true] w fun e w'=>∃ v' us,e=.returned (.tuple #[v',.int .i64 er])/\rd us=l/\oX w' w.heap.size v' us/\Below w.heap.size w w':=by
 have kc:=zR B v ts w hB hp l er hr;obtain⟨a,c,rfl,_⟩:=hp;clear hr;go_enter func148,ntmps148;go_wp2_with fail;refine kc.mono ?_;rintro e w1 ⟨v1,us,rfl,h1,h2,h3⟩;obtain⟨b1,d1,rfl⟩:=h2.slice;have H2:Hid (oX w1 w.heap.size (.slice b1 us.length d1) us/\rd us=l):=⟨h2,h1⟩;clear h1 h2 kc;by_cases h0:er=0
 ·subst h0
  go_wp2;exact uQ (v:=.tuple #[.slice b1 us.length d1,.int .i64 0]) (by simp[results,results148,go_sem]) rfl ⟨_,us,rfl,H2.out.2,H2.out.1,h3⟩
 ·have h0':(er == 0)=false:=by simpa using h0
  go_wp2;exact uQ (v:=.tuple #[.slice b1 us.length d1,.int .i64 er]) (by simp[results,results148,go_sem]) rfl ⟨_,us,rfl,H2.out.2,H2.out.1,h3⟩
abbrev Vl:=Value × List Int
def oL (w:World) (B:Nat) (v:Value) (zs:List Vl):Prop :=
 ∃ a c,v=.slice a zs.length c/\zs.length<=c/\zs.length<=4294967296/\(∀ z∈zs,jQ w B B z.1 z.2) /\
  (zs≠[]->∃ b o,a=some ⟨b,o,none⟩/\b<B/\∀ i z,zs[i]? = some z->w.cell? ⟨b,o+i,none⟩=some z.1)
theorem oL.keep {zs:List Vl}(h:oL w B v zs)(hb:Below B w w'):oL w' B v zs:=by
 obtain⟨a,c,hv,hc,hl,hi,hx⟩:=h;refine⟨a,c,hv,hc,hl,fun t ht=>(hi t ht).keep hb,fun hne=>?_⟩;obtain⟨b,o,ha,hB,hcell⟩:=hx hne;exact⟨b,o,ha,hB,fun i z hz=>(hb.cell (p:=⟨b,o+i,none⟩) hB).trans (hcell i z hz)⟩
theorem oL.get {zs:List Vl}(hp:oL w B (.slice a n c) zs)(hB:B<=w.heap.size)(hbl:Below w.heap.size w wr)(h:i<zs.length) :
  ∃ b o sa sc xs,a=some ⟨b,o,none⟩/\b<w.heap.size/\zs[i]? = some (.slice sa xs.length sc,xs)/\wr.cell? ⟨b,o+i,none⟩=some (.slice sa xs.length sc)/\jQ wr B B (.slice sa xs.length sc) xs:=by
 obtain⟨a',c',hv,hc,hl,hi,hx⟩:=hp;simp only[iZ] at hv;obtain⟨rfl,rfl,rfl⟩:=hv;obtain⟨b,o,ha,hb,hcell⟩:=hx (ne_of_lt h);obtain⟨⟨s,xs⟩,hs⟩:=cX h;have hI:=hi _ (rQ hs);have hI2:=hI.at hB hbl;obtain⟨sa,sc,he,_⟩:=hI;simp only at he;subst he;exact⟨b,o,sa,sc,xs,ha,by omega,hs,(hbl.cell (p:=⟨b,o+i,none⟩) (by show b<w.heap.size;omega)).trans (hcell i _ hs),hI2⟩
def sI (x y:List Int) (i:Nat):Prop:=x.take i=y.take i
theorem sI.step {a:Int}(h:sI x y i)(hx:x[i]? = some a)(hy:y[i]? = some a):sI x y (i+1):=by
 rw[sI,gZ,gZ,hx,hy,show x.take i=y.take i from h]
theorem sI.all (h:sI x y x.length)(hl:x.length=y.length):x=y:=by
 have:=h;rw[sI,wD,hl,wD] at this;exact this
theorem e6Q (B n1 n2:Nat)(u v:Value)(x y:List Int)(w:World)(hx:jQ w B n1 u x)(hy:jQ w B n2 v y)(r:Bool)(hr:decide (x=y)=r) :
  Calls prog 150 #[u,v] w fun e w'=>e=.returned (.bool r)/\∃ q,w' = w.drewN q:=by
 obtain⟨ax,cx,rfl,hcx,hlx,hxx⟩:=hx;obtain⟨ay,cy,rfl,hcy,hly,hyy⟩:=hy;have HX:=qQ hxx;have HY:=qQ hyy;have HR:=qQ hr;clear hxx hyy hr;by_cases hl:x.length=y.length
 ·obtain⟨n,hn⟩:∃ n,y.length=n:=⟨_,rfl⟩
  have HL:Hid (x.length=n/\y.length=n):=⟨by omega,hn⟩;have hn1:n<=1073741824:=by omega
  rw[hl,hn];clear hl hn hcx hcy;go_enter func150,ntmps150;go_wp2
  go_loopw [5,13] (fun _ s wr=>∃ i:Nat,s=.int .i64 (i:Int)/\i<=n/\Hid (sI x y i)/\∃ q,wr=w.drewN q) (fun _ s _=>n - (intOf s).toNat)
  case atStart=>exact⟨0,rfl,kQ _,by simp[Hid,sI],0,rfl⟩
  case round =>
   obtain⟨i,rfl,hix,HC,q,rfl⟩:=hrel;by_cases h1:i<n
   ·have h1x:i<x.length:=by have:=HL.out.1;omega
    have h1y:i<y.length:=by have:=HL.out.2;omega
    obtain⟨bx,ox,rfl,hbx,hnx,hcx⟩:=HX.out (ne_of_lt h1x);obtain⟨zx,hzx⟩:=cX h1x;have cx1:=hcx i zx hzx;obtain⟨by',oy,rfl,hby,hny,hcy⟩:=HY.out (ne_of_lt h1y);obtain⟨zy,hzy⟩:=cX h1y;have cy1:=hcy i zy hzy;have HZ:Hid (x[i]? = some zx/\y[i]? = some zy):=⟨hzx,hzy⟩;clear hcx hcy HX HY hzx hzy h1x h1y;by_cases c1:zx=zy
    ·subst c1
     go_wp2;go_quiet (fail);go_wp2
     go_roundw
     case rel=>exact⟨i+1,by go_num,h1,HC.out.step HZ.out.1 HZ.out.2,_,rfl⟩
     case measure=>simp[intOf];omega
    ·have c1':(zx == zy)=false:=by simpa using c1
     have c1'':(zx != zy)=true:=by simpa using c1
     have hf:r=false:=by
      rw[<-HR.out];refine oV fun e=>c1 ?_;have h2:=HZ.out.1;rw[e,HZ.out.2] at h2;simp at h2;exact h2.symm
     subst hf;go_wp2;go_quiet (fail);go_wp2;go_ret;exact⟨rfl,dr1 _ _ _⟩
   ·have hf:r=true:=by
     rw[<-HR.out];have h2:=HL.out;refine xG (sI.all ?_ (by omega));have:=HC.out;rwa [show i=x.length by omega] at this
    subst hf;go_wp2;go_ret;exact⟨rfl,_,rfl⟩
 ·have hf:r=false:=by
   rw[<-HR.out];exact oV fun e=>hl (by rw[e])
  subst hf;have hl':((x.length:Int) == (y.length:Int))=false:=by simp;omega
  have hl'':((x.length:Int) != (y.length:Int))=true:=by simp;omega
  go_enter func150,ntmps150;go_wp2;go_ret;exact⟨rfl,0,rfl⟩
def lA (g:Int) (ts:List Tr) (i:Nat):List Tr:=(ts.take i).map (fun t=>(t.1,t.2.1,t.2.2*g))++ts.drop i
def iQ (g:Int) (ts:List Tr):List Tr:=ts.map fun t=>(t.1,t.2.1,t.2.2*g)
def eV (g:Int) (l:List Pt):List Pt:=l.map fun p=>(p.1,p.2*g)
theorem e6X (g:Int)(ts:List Tr)(i:Nat):(lA g ts i).length=ts.length:=by simp[lA];omega
theorem e6Z (g:Int){ts:List Tr}(h:i<ts.length):(lA g ts i)[i]? = ts[i]?:=by
 have e:((ts.take i).map (fun t:Tr=>(t.1,t.2.1,t.2.2*g))).length=i:=by simp;omega
 rw[lA,qF (by omega),e];simp
theorem e6J (g:Int){ts:List Tr}{t:Tr}(h:ts[i]? = some t):(lA g ts i).set i (t.1,t.2.1,t.2.2*g)=lA g ts (i+1):=by
 have hi:=(cQ.1 h).1;have e:((ts.take i).map (fun t:Tr=>(t.1,t.2.1,t.2.2*g))).length=i:=by simp;omega
 have e2:ts.drop i=t::ts.drop (i+1):=by rw[gJ hi,(cQ.1 h).2]
 rw[lA,lA,iP _ _ (by omega),e,e2,gZ,h];simp
theorem e7Q (g:Int){ts:List Tr}(h:ts.length<=i):lA g ts i=iQ g ts:=by
 rw[lA,pJ h,fY h,yU];rfl
theorem e7X (g:Int)(ts:List Tr):lA g ts 0=ts:=by simp[lA]
theorem lC (g:Int)(ts:List Tr):(iQ g ts).length=ts.length:=by simp[iQ]
theorem bwJ (g:Int)(ts:List Tr):rd (iQ g ts)=eV g (rd ts):=by simp[iQ,rd,eV]
theorem uS {ts:List Tr}{t:Tr}(h:t∈iQ g ts):∃ u∈ts,t.1=u.1/\t.2.1=u.2.1:=by
 obtain⟨u,hu,rfl⟩:=wX.1 h;exact⟨u,hu,rfl,rfl⟩
theorem e7Z (h:w.grownBy w' (some b))(p:Addr)(hp:p.block=b)(v:Value):w.grownBy (w'.setCell p v) (some b) :=
 ⟨h.os,h.tape,h.output,by simpa [World.setCell] using h.size,fun k hk hne=>(tL _ _ _ _ (by intro e;exact hne (by rw[e,hp]))).trans (h.block k hk hne)⟩
theorem bxQ (lo:Nat)(v:Value)(ts:List Tr)(g:Int)(w:World)(ho:oX w lo v ts)(hk:∀ t∈ts,0<=t.2.2*g/\t.2.2*g<=4611686018427387904)(us:List Tr)(hu:iQ g ts=us) :
  Calls prog 144 #[v,.int .i64 g] w fun e w'=>e=.returned v/\oX w' lo v us/\w.grownBy w' v.ownBlock:=by
 subst hu;rcases ho with⟨rfl,rfl⟩|⟨b,o,c,rfl,hc,hl,hlo,hrow,hI⟩
 ·go_enter func144,ntmps144
  go_wp2
  go_loopw [8] (fun u wr=>u=.int .i64 0/\wr=w) (fun _ _=>0)
  case atStart=>exact⟨rfl,rfl⟩
  case round =>
   obtain⟨rfl,rfl⟩:=hrel;go_wp2;go_ret;exact⟨rfl,.inl ⟨rfl,rfl⟩,aM _ _⟩
 ·have HH:Hid (Row w b o ts/\(∀ t∈ts,jQ w w.heap.size b t.1 t.2.1)/\∀ t∈ts,0<=t.2.2*g/\t.2.2*g<=4611686018427387904):=⟨hrow,hI,hk⟩
  have hbs:=hrow.lt;clear hrow hI hk;go_enter func144,ntmps144;go_wp2
  go_loopw [8] (fun u wq=>∃ j:Nat,u=.int .i64 (j:Int)/\j<=ts.length/\Hid (Row wq b o (lA g ts j))/\Hid (∀ t∈ts,jQ wq wq.heap.size b t.1 t.2.1)/\Hid (w.grownBy wq (some b))) (fun u _=>ts.length - (intOf u).toNat)
  case atStart=>exact⟨0,rfl,kQ _,by rw[e7X];exact HH.out.1,HH.out.2.1,aM _ _⟩
  case round =>
   obtain⟨j,rfl,hjt,HR2,HI2,HG⟩:=hrel;by_cases h2:j<ts.length
   ·obtain⟨⟨s,xs,k⟩,hs⟩:=cX h2
    have hs2:(lA g ts j)[j]? = some (s,xs,k):=by rw[e6Z _ h2];exact hs
    obtain⟨c1,c2⟩:=HR2.out.cells j _ hs2;have c3:=HR2.out.thaw (j*2+1) (by rw[e6X];omega);rw[<-zV] at c3;simp only at c1 c2;obtain⟨hk0,hk1⟩:=HH.out.2.2 _ (rQ hs);simp only at hk0 hk1;have HS:=qQ hs;obtain⟨P,hP⟩:∃ P,k*g=P:=⟨_,rfl⟩;rw[hP] at hk0 hk1
    have HR3:Hid (Row (wr.setCell ⟨b,o+j*2+1,none⟩ (.int .i64 P)) b o (lA g ts (j+1))):=by
     have:=HR2.out.setW hs2 P;rwa [show(lA g ts j).set j (s,xs,P)=lA g ts (j+1) by rw[<-hP];exact e6J g hs] at this
    clear hs hs2;go_wp2
    go_roundw
    case rel=>exact⟨j+1,by go_num,h2,HR3,fun t ht=>by simpa using (HI2.out t ht).set rfl _,e7Z HG.out _ rfl _⟩
    case measure=>simp[intOf];omega
   ·have hown:Own wr lo (.slice (some ⟨b,o,none⟩) ts.length c) (iQ g ts):=by
     refine⟨b,o,c,by rw[lC],by rw[lC];exact hc,by rw[lC];exact hl,hlo,?_,fun t ht=>?_⟩
     ·rw[<-e7Q g (i:=j) (by omega)];exact HR2.out
     ·obtain⟨u,hu,e1,e2⟩:=uS ht
      rw[e1,e2];exact HI2.out u hu
    have HO:=qQ hown;clear hown HR2 HI2 HH;go_wp2;go_ret;exact⟨rfl,.inr HO.out,HG.out⟩
def rU (p:Pt × Pt):Pt:=(if p.1.2=0 then p.2.1 else p.1.1,p.1.2+p.2.2)
def wH (a b:List Pt):List Pt:=if 4096<a.length then a else (jV a b).map rU
theorem e7J {a b:List Pt}(ra:cZ a)(rb:cZ b)(pa:zZ a)(pb:zZ b) :
  cZ ((jV a b).map rU)/\zZ ((jV a b).map rU)/\(∀ o,wt ((jV a b).map rU) o=wt a o+wt b o)/\tot ((jV a b).map rU)=tot a+tot b/\∀ p∈(jV a b).map rU,(∃ q∈a,q.1=p.1)\/∃ q∈b,q.1=p.1:=by
 induction a,b using jV.induct with
 | case1=>simp[jV,cZ,zZ]
 | case2 b bs ih =>
  obtain⟨h1,h2,h3,h4,h5⟩:=ih ra (aD rb) pa fun q hq=>pb q (by simp[hq]);have hb:=pb b (by simp);have e:rU (([],0),b)=b:=by simp[rU]
  rw[jV,fV,e];refine⟨iY.2 ⟨fun q hq=>?_,h1⟩,fun q hq=>?_,fun o=>?_,?_,fun q hq=>?_⟩
  ·rcases h5 q hq with⟨r,hr,he⟩|⟨r,hr,he⟩
   ·cases hr
   ·rw[<-he];exact(iY.1 rb).1 r hr
  ·rcases eX.1 hq with rfl|hq
   ·exact hb
   ·exact h2 q hq
  ·rw[cJ,h3,cJ];omega
  ·rw[kZ,h4,kZ];omega
  ·rcases eX.1 hq with rfl|hq
   ·exact .inr ⟨_,by simp,rfl⟩
   ·exact(h5 q hq).imp id fun⟨r,hr,he⟩=>⟨r,by simp[hr],he⟩
 | case3 a az ih =>
  obtain⟨h1,h2,h3,h4,h5⟩:=ih (aD ra) rb (fun q hq=>pa q (by simp[hq])) pb;have ha:=pa a (by simp);have e:rU (a,([],0))=a:=by simp[rU];rw[xQ (by omega)]
  rw[jV,fV,e];refine⟨iY.2 ⟨fun q hq=>?_,h1⟩,fun q hq=>?_,fun o=>?_,?_,fun q hq=>?_⟩
  ·rcases h5 q hq with⟨r,hr,he⟩|⟨r,hr,he⟩
   ·rw[<-he];exact(iY.1 ra).1 r hr
   ·cases hr
  ·rcases eX.1 hq with rfl|hq
   ·exact ha
   ·exact h2 q hq
  ·rw[cJ,h3,cJ];omega
  ·rw[kZ,h4,kZ];omega
  ·rcases eX.1 hq with rfl|hq
   ·exact .inl ⟨_,by simp,rfl⟩
   ·exact(h5 q hq).imp (fun⟨r,hr,he⟩=>⟨r,by simp[hr],he⟩) id
 | case4 a az b bs h ih =>
  obtain⟨h1,h2,h3,h4,h5⟩:=ih (aD ra) rb (fun q hq=>pa q (by simp[hq])) pb;have ha:=pa a (by simp);have e:rU (a,([],0))=a:=by simp[rU];rw[xQ (by omega)]
  rw[jV,zQ h,fV,e];refine⟨iY.2 ⟨fun q hq=>?_,h1⟩,fun q hq=>?_,fun o=>?_,?_,fun q hq=>?_⟩
  ·rcases h5 q hq with⟨r,hr,he⟩|⟨r,hr,he⟩
   ·rw[<-he];exact(iY.1 ra).1 r hr
   ·rw[<-he]
    rcases eX.1 hr with rfl|hr
    ·exact h
    ·exact uF h ((iY.1 rb).1 r hr)
  ·rcases eX.1 hq with rfl|hq
   ·exact ha
   ·exact h2 q hq
  ·rw[cJ,h3,cJ a az];omega
  ·rw[kZ,h4,kZ a az];omega
  ·rcases eX.1 hq with rfl|hq
   ·exact .inl ⟨_,by simp,rfl⟩
   ·exact(h5 q hq).imp (fun⟨r,hr,he⟩=>⟨r,by simp[hr],he⟩) id
 | case5 a az b bs hn h ih =>
  obtain⟨h1,h2,h3,h4,h5⟩:=ih ra (aD rb) pa (fun q hq=>pb q (by simp[hq]));have hb:=pb b (by simp);have hba:tJ b.1 a.1:=by unfold tJ;rw[vT];omega
  have e:rU (([],0),b)=b:=by simp[rU]
  rw[jV,xQ hn,zQ h,fV,e];refine⟨iY.2 ⟨fun q hq=>?_,h1⟩,fun q hq=>?_,fun o=>?_,?_,fun q hq=>?_⟩
  ·rcases h5 q hq with⟨r,hr,he⟩|⟨r,hr,he⟩
   ·rw[<-he]
    rcases eX.1 hr with rfl|hr
    ·exact hba
    ·exact uF hba ((iY.1 ra).1 r hr)
   ·rw[<-he];exact(iY.1 rb).1 r hr
  ·rcases eX.1 hq with rfl|hq
   ·exact hb
   ·exact h2 q hq
  ·rw[cJ,h3,cJ b bs];omega
  ·rw[kZ,h4,kZ b bs];omega
  ·rcases eX.1 hq with rfl|hq
   ·exact .inr ⟨_,by simp,rfl⟩
   ·exact(h5 q hq).imp id (fun⟨r,hr,he⟩=>⟨r,by simp[hr],he⟩)
 | case6 a az b bs hn h ih =>
  obtain⟨h1,h2,h3,h4,h5⟩:=ih (aD ra) (aD rb) (fun q hq=>pa q (by simp[hq])) (fun q hq=>pb q (by simp[hq]));have ha:=pa a (by simp);have hb:=pb b (by simp);have hab:a.1=b.1:=(uH _ _).1 (by omega);have e:rU (a,b)=(a.1,a.2+b.2):=by simp only[rU];rw[xQ (by omega)]
  rw[jV,xQ hn,xQ h,fV,e];refine⟨iY.2 ⟨fun q hq=>?_,h1⟩,fun q hq=>?_,fun o=>?_,?_,fun q hq=>?_⟩
  ·rcases h5 q hq with⟨r,hr,he⟩|⟨r,hr,he⟩
   ·rw[<-he];exact(iY.1 ra).1 r hr
   ·rw[<-he];simp only;rw[hab];exact(iY.1 rb).1 r hr
  ·rcases eX.1 hq with rfl|hq
   ·simp only;omega
   ·exact h2 q hq
  ·rw[cJ,h3,cJ a az,cJ b bs]
   simp only;by_cases ho:a.1=o
   ·rw[zQ ho,zQ ho,zQ (hab.symm.trans ho)];omega
   ·rw[xQ ho,xQ ho,xQ (fun k=>ho (hab.trans k))];omega
  ·rw[kZ,h4,kZ a az,kZ b bs];simp only;omega
  ·rcases eX.1 hq with rfl|hq
   ·exact .inl ⟨a,by simp,rfl⟩
   ·exact(h5 q hq).imp (fun⟨r,hr,he⟩=>⟨r,by simp[hr],he⟩) (fun⟨r,hr,he⟩=>⟨r,by simp[hr],he⟩)
theorem aiX (g:Int)(l:List Pt)(o:List Int):wt (eV g l) o=wt l o*g:=by
 induction l with
 | nil=>simp[eV]
 | cons p l ih =>
  simp only[eV,fV] at *
  rw[cJ,cJ,ih,aP];simp only;split <;> simp
theorem bxX (g:Int)(l:List Pt):tot (eV g l)=tot l*g:=by
 induction l with
 | nil=>simp[eV]
 | cons p l ih =>
  simp only[eV,fV] at *
  rw[kZ,kZ,ih,aP]
theorem bxZ {l:List Pt}(h:cZ l):cZ (eV g l):=by
 unfold cZ eV;rw[sC];exact h
theorem bxJ {l:List Pt}(hg:0<g)(h:zZ l):zZ (eV g l):=by
 intro p hp;obtain⟨q,hq,rfl⟩:=wX.1 hp;exact wK (h q hq) hg
theorem aiZ (g:Int)(l:List Pt):(eV g l).length=l.length:=by simp[eV]
def spr (N:List Int->List Pt) (A:Int) (l:List Pt):List Pt:=l.flatMap fun p=>(N p.1).map fun q=>(q.1,p.2*q.2*(A / tot (N p.1)))
theorem mC (n:List Pt)(k c:Int)(o:List Int):wt (n.map fun q=>(q.1,k*q.2*c)) o=wt n o*(k*c):=by
 induction n with
 | nil=>simp
 | cons p n ih =>
  simp only[fV];rw[cJ,cJ,ih,aP];simp only;split
  ·rw[show k*p.2*c=p.2*(k*c) by ac_rfl]
  ·simp
theorem e8Q (N:List Int->List Pt)(A:Int)(l:List Pt)(p:Pt):spr N A (l++[p])=spr N A l++(N p.1).map fun q=>(q.1,p.2*q.2*(A / tot (N p.1))):=by simp[spr]
theorem e8X (N:List Int->List Pt)(A:Int)(l:List Pt)(p:Pt)(o:List Int):wt (spr N A (l++[p])) o=wt (spr N A l) o+wt (N p.1) o*(p.2*(A / tot (N p.1))):=by
 rw[e8Q,vL,mC]
theorem aiJ (N:List Int->List Pt)(A:Int)(l:List Pt)(p:Pt):spr N A (p::l)=((N p.1).map fun q=>(q.1,p.2*q.2*(A / tot (N p.1))))++spr N A l:=by simp[spr]
theorem e8Z (N:List Int->List Pt)(A g:Int){l:List Pt}(h:∀ p∈l,tot (N p.1) ∣ A)(o:List Int):wt (spr N (A*g) l) o=wt (spr N A l) o*g:=by
 induction l with
 | nil=>simp[spr]
 | cons p l ih =>
  rw[aiJ,aiJ,vL,vL,mC,mC,ih fun q hq=>h q (by simp[hq]),aP];have e:A*g / tot (N p.1)=A / tot (N p.1)*g:=Int.mul_ediv_assoc' g (h p (by simp));rw[e]
  have:wt (N p.1) o*(p.2*(A / tot (N p.1)*g))=wt (N p.1) o*(p.2*(A / tot (N p.1)))*g:=by ac_rfl
  rw[this]
theorem byQ (N:List Int->List Pt)(A:Int){l:List Pt}(hl:Nn l)(hN:∀ p∈l,Nn (N p.1))(hA:0<=A):Nn (spr N A l):=by
 intro q hq;obtain⟨p,hp,hq⟩:=dN.1 hq;obtain⟨r,hr,rfl⟩:=wX.1 hq;exact eA (eA (hl p hp) (hN p hp r hr)) (yP hA ((hN p hp).tot_nn))
def mU (thn:List Int->List Pt × Int):Int->List Pt->Int × Int
 | A,[]=>(A,0)
 | A,p::l=>if (thn p.1).2=0 then
   (if 1073741824<A*(tot (thn p.1).1 / (Int.gcd A (tot (thn p.1).1):Int)) then (0,4) else mU thn (A*(tot (thn p.1).1 / (Int.gcd A (tot (thn p.1).1):Int))) l)
  else (0,(thn p.1).2)
def oF (thn:List Int->List Pt × Int) (l:List Pt):List Pt × Int :=
 if (mU thn 1 l).2=0 then (if 1073741824<(mU thn 1 l).1*tot l then ([],4) else bU (gath (spr (fun x=>(thn x).1) (mU thn 1 l).1 l))) else ([],(mU thn 1 l).2)
theorem e8J {a b:List Pt}(ra:cZ a)(rb:cZ b)(h:∀ p∈a,∃ q∈b,q.1=p.1):a.length<=b.length:=by
 have key:∀ (l:List Pt) (f:List Int->Int),(∀ p∈l,f p.1=1)->oU f l=l.length:=by
  intro l f
  induction l with
  | nil=>intro _;rfl
  | cons p l ih=>intro hf;rw[oU,hf p (by simp),ih fun q hq=>hf q (by simp[hq]),oJ];omega
 have h1:=ctJ (f:=fun o=>if ∃ q∈b,q.1=o then 1 else 0) (fun o=>by split <;> omega) ra rb fun o ho=>xQ fun⟨q,hq,e⟩=>ho q hq e;rw[key a _ fun p hp=>zQ (h p hp),key b _ fun p hp=>zQ ⟨p,hp,rfl⟩] at h1;omega
structure Ch (thn:List Int->List Pt × Int) (l:List Pt) (i:Nat) (A:Int) (s:List Pt):Prop where
 rest:mU thn 1 l=mU thn A (l.drop i)
 sc:1<=A/\A<=1073741824
 dvd:∀ p∈l.take i,tot (thn p.1).1 ∣ A
 nn:∀ p∈l.take i,Nn (thn p.1).1
 rise:cZ s
 pos:zZ s
 le:∀ o,wt s o<=wt (spr (fun x=>(thn x).1) A (l.take i)) o
 eq:s.length<=4096->∀ o,wt s o=wt (spr (fun x=>(thn x).1) A (l.take i)) o
 tt:tot s<=A*tot (l.take i)
theorem Ch.nil (thn:List Int->List Pt × Int)(l:List Pt):Ch thn l 0 1 [] :=
 ⟨by simp,by omega,by simp,by simp,by simp[cZ],by simp[zZ],by simp[spr],by simp[spr],by simp⟩
theorem tot_take_le {l:List Pt}(h:Nn l)(i:Nat):tot (l.take i)<=tot l:=by
 have h1:tot l=tot (l.take i)+tot (l.drop i):=by rw[<-aK,oS]
 have h2:Nn (l.drop i):=fun p hp=>h p (wC hp);have:=h2.tot_nn;omega
theorem Ch.err {thn:List Int->List Pt × Int}{l:List Pt}{s:List Pt}{p:Pt}(h:Ch thn l i A s)(hp:l[i]? = some p)(he:(thn p.1).2≠0):oF thn l=([],(thn p.1).2):=by
 have e:mU thn 1 l=(0,(thn p.1).2):=by
  rw[h.rest,gJ (cQ.1 hp).1,(cQ.1 hp).2,mU,xQ he]
 unfold oF;rw[e,xQ he]
theorem Ch.much {thn:List Int->List Pt × Int}{l:List Pt}{s:List Pt}{p:Pt}(h:Ch thn l i A s)(hp:l[i]? = some p)(he:(thn p.1).2=0)(hm:1073741824<A*(tot (thn p.1).1 / (Int.gcd A (tot (thn p.1).1):Int))):oF thn l=([],4):=by
 have e:mU thn 1 l=(0,4):=by
  rw[h.rest,gJ (cQ.1 hp).1,(cQ.1 hp).2,mU,zQ he,zQ hm]
 unfold oF;rw[e];rfl
theorem Ch.step {thn:List Int->List Pt × Int}{l:List Pt}{s:List Pt}{n:List Pt}(h:Ch thn l i A s)(hl:zZ l)(hp:l[i]? = some (x,k))(ht:thn x=(n,0))(hn:Dis n)
  (hg:tot n / (Int.gcd A (tot n):Int)=g) (hA:A*g=A') (hm:A'<=1073741824):Ch thn l (i+1) A' (wH (eV g s) (eV (k*(A' / tot n)) n)):=by
 have tn:=xO hn.pos hn.ne;have hA1:=h.sc.1;have hgd:(Int.gcd A (tot n):Int) ∣ tot n:=Int.gcd_dvd_right _ _;have hgA:(Int.gcd A (tot n):Int) ∣ A:=Int.gcd_dvd_left _ _
 have hgp:0<(Int.gcd A (tot n):Int):=by
  have:0<Int.gcd A (tot n):=Int.gcd_pos_of_ne_zero_left _ (by omega);omega
 have hg0:0<g:=by rw[<-hg];exact qE tn (by omega) hgd
 have hdn:tot n ∣ A':=by
  obtain⟨c,hc⟩:=hgA;refine⟨c,?_⟩;have e2:(Int.gcd A (tot n):Int)*g=tot n:=by rw[<-hg];exact amZ hgd
  have e3:A*g=(Int.gcd A (tot n):Int)*c*g:=congrArg (· * g) hc;rw[<-hA,e3,Int.mul_right_comm,e2]
 have hA'1:1<=A':=by rw[<-hA];exact wK (by omega) hg0
 have hq0:0<A' / tot n:=qE (by omega) (by omega) hdn;have hk:0<k:=hl (x,k) (rQ hp);have htake:l.take (i+1)=l.take i++[(x,k)]:=by rw[gZ,hp];rfl
 have hnx:(thn x).1=n:=by rw[ht]
 have hd':∀ p∈l.take i,tot (thn p.1).1 ∣ A':=fun p hp=>by rw[<-hA];exact Int.dvd_mul_of_dvd_left (h.dvd p hp)
 have hscale:∀ o,wt (spr (fun x=>(thn x).1) A' (l.take i)) o=wt (spr (fun x=>(thn x).1) A (l.take i)) o*g:=fun o=>by
  rw[<-hA];exact e8Z (fun x=>(thn x).1) A g h.dvd o
 have hw:∀ o,wt (spr (fun x=>(thn x).1) A' (l.take (i+1))) o=wt (spr (fun x=>(thn x).1) A (l.take i)) o*g+wt n o*(k*(A' / tot n)):=fun o=>by
  rw[htake,e8X,hscale];simp only[hnx]
 have hkq:0<k*(A' / tot n):=wK hk hq0;have rs:=bxZ (g:=g) h.rise;have ps:=bxJ hg0 h.pos;have rn:=bxZ (g:=k*(A' / tot n)) hn.rise;have pn:=bxJ hkq hn.pos
 have htt:tot (eV g s)<=A' * tot (l.take i):=by
  rw[bxX,<-hA];have:=xK h.tt (show 0<=g by omega);have e:A*tot (l.take i)*g=A*g*tot (l.take i):=by ac_rfl
  rw[e] at this;exact this
 have hnt:tot (eV (k*(A' / tot n)) n)=A' * k:=by
  rw[bxX];have e:tot n*(k*(A' / tot n))=tot n*(A' / tot n)*k:=by ac_rfl
  rw[e,amZ hdn]
 have htot:A' * tot (l.take (i+1))=A' * tot (l.take i)+A' * k:=by
  rw[htake,aK,kZ,apQ,Int.mul_add];simp
 have nnw:∀ o,0<=wt n o*(k*(A' / tot n)):=fun o=>eA ((Nn.of_pos hn.pos).wt_le o).1 (by omega)
 have hrest:mU thn 1 l=mU thn A' (l.drop (i+1)):=by
  rw[h.rest,gJ (cQ.1 hp).1,(cQ.1 hp).2,mU];simp only[ht,uU];rw[hg,hA,xQ (by omega)]
 have hdvd:∀ p∈l.take (i+1),tot (thn p.1).1 ∣ A':=by
  rw[htake];intro p hp;rcases gV.1 hp with hp|hp
  ·exact hd' p hp
  ·simp at hp;subst hp;simp only[hnx];exact hdn
 have hnn:∀ p∈l.take (i+1),Nn (thn p.1).1:=by
  rw[htake];intro p hp;rcases gV.1 hp with hp|hp
  ·exact h.nn p hp
  ·simp at hp;subst hp;simp only[hnx];exact Nn.of_pos hn.pos
 by_cases hc:4096<s.length
 ·have hp1:wH (eV g s) (eV (k*(A' / tot n)) n)=eV g s:=by unfold wH;rw[zQ (by rw[aiZ];exact hc)]
  rw[hp1];refine⟨hrest,⟨hA'1,hm⟩,hdvd,hnn,rs,ps,fun o=>?_,fun hle=>?_,?_⟩
  ·rw[aiX,hw]
   have h1:=xK (h.le o) (show 0<=g by omega);have h2:=nnw o;omega
  ·rw[aiZ] at hle;omega
  ·rw[htot]
   have:0<=A' * k:=eA (by omega) (by omega);omega
 ·have hp1:wH (eV g s) (eV (k*(A' / tot n)) n)=(jV (eV g s) (eV (k*(A' / tot n)) n)).map rU:=by unfold wH;rw[xQ (by rw[aiZ];exact hc)]
  rw[hp1];obtain⟨b1,b2,b3,b4,_⟩:=e7J rs rn ps pn
  have hweq:∀ o,wt ((jV (eV g s) (eV (k*(A' / tot n)) n)).map rU) o=wt (spr (fun x=>(thn x).1) A' (l.take (i+1))) o:=fun o=>by
   rw[b3,aiX,aiX,hw,h.eq (by omega)]
  refine⟨hrest,⟨hA'1,hm⟩,hdvd,hnn,b1,b2,fun o=>by rw[hweq];exact zG _,fun _ o=>hweq o,?_⟩;rw[b4,htot,hnt];omega
theorem Ch.done {thn:List Int->List Pt × Int}{l:List Pt}{s:List Pt}(h:Ch thn l i A s)(hl:Nn l)(hi:l.length<=i):oF thn l=if 1073741824<A*tot l then ([],4) else bU s:=by
 have e:mU thn 1 l=(A,0):=by rw[h.rest,fY hi,mU]
 have ht:l.take i=l:=pJ hi;have hle:=h.le;have heq:=h.eq;have hnn:=h.nn;rw[ht] at hle heq hnn;unfold oF;rw[e];simp only[uU];by_cases hm:1073741824<A*tot l
 ·rw[zQ hm,zQ hm]
 ·rw[xQ hm,xQ hm]
  have hsn:Nn (spr (fun x=>(thn x).1) A l):=byQ _ _ hl hnn (by have:=h.sc.1;omega);by_cases hc:s.length<=4096
  ·rw[tE hsn h.rise h.pos (heq hc)]
  ·have hsub:∀ p∈s,∃ q∈gath (spr (fun x=>(thn x).1) A l),q.1=p.1:=by
    intro p hp;refine vO ?_;rw[uT];have h1:=aR h.rise h.pos hp;have h2:=hle p.1;omega
   have hlen:=e8J h.rise (rP _) hsub;have hs0:s≠[]:=by intro h0;rw[h0] at hc;simp at hc
   have hg0:gath (spr (fun x=>(thn x).1) A l)≠[]:=by intro h0;rw[h0] at hlen;simp at hlen;exact hs0 hlen
   unfold bU;rw[xQ hs0,xQ hg0,zQ (.inr (by omega)),zQ (.inr (by omega))]
end
end Go.Proofs.YtpmioeamdhdokaaGreat
