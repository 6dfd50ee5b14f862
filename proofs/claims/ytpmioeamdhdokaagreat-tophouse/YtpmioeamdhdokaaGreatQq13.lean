import Derived.Test.YtpmioeamdhdokaaGreatQq11
import Derived.Test.YtpmioeamdhdokaaGreatQq12
open Go.Proofs.Tryz
set_option linter.unusedSimpArgs false
set_option maxHeartbeats 16000000
set_option maxRecDepth 100000
namespace Go.Proofs.YtpmioeamdhdokaaGreat
variable {R k m n:Nat} {a b d u:Int} {o:List Int} {f:List Int->Int}
section
open Go.RowKit Ds
theorem ctQ {U D n:Int}(_hU:0<=U)(hD:1<=D)(h:Rt.kY U D=(n,d,0)):n*D=U*d/\0<=n/\1<=d/\Rt.oQ n d=true:=by
 rw[Rt.axZ U D hD] at h;obtain⟨hok,h1,h2⟩:=Rt.csZ h;have hr:=Rt.tT _ hok;rw[h1,h2] at hr;have hd:=Rt.uR (Rat.divInt U D);rw[h2] at hd;have h3:Rat.divInt n d=Rat.divInt U D:=by rw[<-h1,<-h2];exact Rt.j0 _
 refine⟨(Rat.divInt_eq_divInt_iff (by omega) (by omega)).1 h3,?_,hd,hr⟩;rw[<-h1];exact hok.1
theorem vO {l:List Pt}(h:0<wt l o):∃ p∈l,p.1=o:=by
 by_cases hc:∃ p∈l,p.1=o
 ·exact hc
 ·have:wt l o=0:=pP fun p hp e=>hc ⟨p,hp,e⟩
  omega
theorem aR {l:List Pt}(hr:cZ l)(hp:zZ l){p:Pt}(h:p∈l):0<wt l p.1:=by
 rw[crZ hr h];exact hp p h
def grow (g:Int) (l:List Pt):List Pt:=l.map fun p=>(p.1,g*p.2)
theorem axJ (g:Int)(l:List Pt)(o:List Int):wt (grow g l) o=g*wt l o:=by
 induction l with
 | nil=>simp[grow]
 | cons p l ih =>
  simp only[grow,fV] at *
  rw[cJ,cJ,ih,Int.mul_add];simp only;split <;> simp
def oU (f:List Int->Int):List Pt->Int
 | []=>0
 | p::l=>f p.1+oU f l
theorem ctX (h:∀ o,0<=f o)(l:List Pt):0<=oU f l:=by
 induction l with
 | nil=>simp[oU]
 | cons p l ih=>have:=h p.1;simp only[oU];omega
theorem ctZ {l:List Pt}(h:∀ p∈l,f p.1=0):oU f l=0:=by
 induction l with
 | nil=>rfl
 | cons p l ih=>rw[oU,h p (by simp),ih fun q hq=>h q (by simp[hq])];rfl
theorem ctJ (hf:∀ o,0<=f o){l m:List Pt}(hl:cZ l)(hm:cZ m)(hz:∀ o,(∀ p∈m,p.1≠o)->f o=0):oU f l<=oU f m:=by
 have key:∀ l m:List Pt,cZ l->cZ m->(∀ p∈l,(∀ q∈m,q.1≠p.1)->f p.1=0)->oU f l<=oU f m:=by
  intro l m
  induction l,m using jV.induct with
  | case1=>intros;exact zG _
  | case2 b bs ih=>intro _ _ _;have:=ctX hf (b::bs);simpa [oU] using this
  | case3 a az ih=>intro _ _ h;rw[ctZ fun p hp=>h p hp (by intro q hq;cases hq)];simp[oU]
  | case4 a az b bs h ih =>
   intro h1 h2 h3
   have h4:f a.1=0:=h3 a (by simp) fun q hq=>by
    rcases eX.1 hq with rfl|hq
    ·exact(aH h).symm
    ·exact(aH (uF h ((iY.1 h2).1 q hq))).symm
   have:=ih (aD h1) h2 fun p hp hq=>h3 p (by simp[hp]) hq;rw[oU,h4];omega
  | case5 a az b bs hn h ih =>
   intro h1 h2 h3;have hba:tJ b.1 a.1:=by unfold tJ;rw[vT];omega
   have:=ih h1 (aD h2) fun p hp hq=>h3 p hp fun q hq'=>by
    rcases eX.1 hq' with rfl|hq'
    ·rcases eX.1 hp with rfl|hp
     ·exact aH hba
     ·exact aH (uF hba ((iY.1 h1).1 p hp))
    ·exact hq q hq'
   have hb:=hf b.1;rw[show oU f (b::bs)=f b.1+oU f bs from rfl];omega
  | case6 a az b bs hn h ih =>
   intro h1 h2 h3;have hab:a.1=b.1:=(uH _ _).1 (by omega)
   have:=ih (aD h1) (aD h2) fun p hp hq=>h3 p (by simp[hp]) fun q hq'=>by
    rcases eX.1 hq' with rfl|hq'
    ·rw[<-hab];exact crJ h1 hp
    ·exact hq q hq'
   rw[oU,oU,hab];omega
 exact key l m hl hm fun p _ hq=>hz p.1 hq
end
section
open Ds
def fI (u d:Int):Int:=if Rt.oQ u d=true then (if u<d then 3 else 0) else 2
def gk (u d:Int) (R k:Nat):Int:=d ^ k*u ^ (R - k)
def hwt (u d:Int) (R a i:Nat):Int:=gk u d R (i - a+(a - i))*(if i=0\/i=R then u else u - d)
def mG (u d lo:Int) (R a:Nat):List Pt:=(List.range (R+1)).map fun(i:Nat)=>([lo+(i:Int)],hwt u d R a i)
def yG (lo hi n:Int):Int:=min (max n lo) hi
def vV (u d lo hi n:Int):List Pt × Int :=
 if fI u d≠0 then ([],fI u d)
 else if ¬ (-1073741824<=lo/\lo<=hi/\hi<=1073741824/\hi - lo<=64) then ([],3)
 else if lo=hi then yY [([lo],1)]
 else if 1073741824<(u+d)*u ^ (hi - lo).toNat then ([],4)
 else yY (mG u d lo (hi - lo).toNat (yG lo hi n - lo).toNat)
def eK (u d n:Int):Int × Int × Int:=if fI u d≠0 then (0,0,fI u d) else Rt.dM u d n
theorem cuQ (h:fI u d=0):Rt.oQ u d=true/\d<=u/\1<=d/\u<=1073741824:=by
 unfold fI at h;split at h
 ·rename_i h1
  have:=Rt.yI h1;split at h
  ·omega
  ·exact⟨h1,by omega,by omega,by omega⟩
 ·omega
theorem fL (h:1<=u)(n:Nat):1<=u ^ n:=by
 have:=Int.pow_pos (n:=u) (m:=n) (by omega);omega
theorem cuX (h:1<=u)(hnm:n<=m):u ^ n<=u ^ m:=by
 obtain⟨k,rfl⟩:=Nat.le.dest hnm;rw[Int.pow_add];have h1:=fL h n;have h2:=fL h k;have:=bE h2 (show 0<=u ^ n by omega);omega
theorem cuZ (hd:0<=d)(h:d<=u)(n:Nat):d ^ n<=u ^ n:=by
 induction n with
 | zero=>simp
 | succ n ih =>
  rw[rN,rN];exact nN ih h hd (Int.pow_nonneg (by omega))
theorem l5 (hd:0<=d)(n:Nat):0<=d ^ n:=Int.pow_nonneg hd
theorem cuJ (u d:Int)(R:Nat):gk u d R 0=u ^ R:=by simp[gk]
theorem cvQ (u d:Int)(h:k<R):u*gk u d R (k+1)=d*gk u d R k:=by
 unfold gk;rw[show R - k=(R - (k+1))+1 from by omega,rN,rN];simp only[Int.mul_comm,Int.mul_left_comm,uM]
theorem cvX (u d:Int)(s:Nat)(h:k+s<=R):u ^ s*gk u d R (k+s)=d ^ s*gk u d R k:=by
 induction s with
 | zero=>simp
 | succ s ih =>
  have h1:=ih (by omega);have h2:=cvQ u d (R:=R) (k:=k+s) (by omega);rw[rN,rN,<-zV,uM,h2,<-uM,Int.mul_right_comm,h1,Int.mul_right_comm]
theorem cvZ (hu:0<=u)(hd:0<=d)(R k:Nat):0<=gk u d R k:=eA (l5 hd _) (l5 hu _)
theorem cvJ (hd:1<=d)(h:d<=u){s:Nat}(hk:k+s<=R):gk u d R (k+s)<=gk u d R k:=by
 have h1:=cvX u d s hk;have h2:=cuZ (show 0<=d by omega) h s;have h3:=cvZ (show 0<=u by omega) (show 0<=d by omega) R k;have h4:u ^ s*gk u d R (k+s)<=u ^ s*gk u d R k:=by rw[h1];exact xK h2 h3
 exact Int.le_of_mul_le_mul_left h4 (by have:=fL (show 1<=u by omega) s;omega)
end
section
open Go.RowKit Ds
theorem cwQ (l:List Pt):cut 1 l=l:=by
 unfold cut
 conv=>rhs;rw[<-List.map_id l]
 exact yE fun p _=>by simp
theorem Dis.own {l:List Pt}(h:Dis l):pX l=(l,0):=by
 have hg:gath l=l:=tE (fun p hp=>yF (h.pos p hp)) h.rise h.pos fun _=>rfl
 have hm:yY l=(l,0):=by
  unfold yY bU;rw[zQ h.ok,hg,xQ h.ne,h.one];simp only[Int.natCast_one,cwQ];rw[xQ (by have:=h.le;have:=h.few;omega)]
 unfold pX;rw[hm];simp
theorem ayQ (g:Int)(l:List Pt):tot (grow g l)=g*tot l:=by
 induction l with
 | nil=>simp[grow]
 | cons p l ih =>
  simp only[grow,fV] at *
  rw[kZ,kZ,ih,Int.mul_add]
theorem i6 {k l':List Pt}(h:yY k=(l',0)):Dis l'/\∃ g:Int,0<g/\(∀ o,wt k o=g*wt l' o)/\tot k=g*tot l':=by
 unfold yY at h;split at h
 ·rename_i hok
  have hp:=sP (nT hok).1;obtain⟨a,b,c,d,e,f⟩:=rW hp (rP k) h;have hne:gath k≠[]:=by intro h0;rw[h0] at h;simp[bU] at h
  have hl:l' = cut (dv (gath k)) (gath k):=by
   unfold bU at h;rw[xQ hne] at h;split at h
   ·simp at h
   ·simp at h;exact h.symm
  have hg:grow (dv (gath k)) l' = gath k:=by rw[hl];exact pW fun p hp=>bT hp
  have hd:=aT hp hne;have hw:∀ o,wt k o=(dv (gath k):Int)*wt l' o:=fun o=>by rw[<-axJ,hg,uT]
  refine⟨⟨a,b,c,d,?_,e,f⟩,dv (gath k),by omega,hw,by rw[<-ayQ,hg,qW]⟩;rw[jM];intro p hpm;have h1:0<wt k p.1:=by rw[hw];exact wK (by omega) (aR a b hpm)
  obtain⟨q,hq,he⟩:=vO h1;have h2:=jM.1 hok q hq;have h3:=zZ.le_tot (Nn.of_pos b) hpm;have h4:=b p hpm;unfold wJ at *
  rw[jK] at *
  exact⟨by simp;omega,he▸h2.2⟩
 ·simp at h
theorem lY (u d:Int)(b:Bool)(hb:Rt.oQ u d=b)(w:World) :
  Calls prog 174 #[rv u d] w fun e w'=>e=.returned (.bool b)/\Below w.heap.size w w':=by
 have HB:=qQ hb;clear hb;by_cases c:0<=u/\u<=1073741824/\1<=d/\d<=1073741824
 ·obtain⟨c1,c2,c3,c4⟩:=c
  obtain⟨x,rfl⟩:=cA c1;obtain⟨y,rfl⟩:=cA (show 0<=d by omega)
  have hbb:b=(((Nat.gcd x y:Nat):Int) == 1):=by
   rw[<-HB.out];unfold Rt.oQ;rw[Bool.eq_iff_iff];simp[Rt.mx];omega
  subst hbb;clear HB;go_enter func174,ntmps174;go_wp2_with (go_at_call 74;refine(yL _ _ (by omega) (by omega) _).mono ?_;rintro e w' ⟨rfl,hbl⟩);go_ret;exact⟨rfl,bt (ba _ _) hbl⟩
 ·have hbb:b=false:=by
   rw[<-HB.out];unfold Rt.oQ Rt.mx;exact oV (fun h=>c ⟨h.1,h.2.1,h.2.2.1,h.2.2.2.1⟩)
  subst hbb;clear HB;by_cases c1:u<0
  ·clear c
   go_enter func174,ntmps174;go_wp2;go_ret;exact⟨rfl,ba _ _⟩
  by_cases c2:1073741824<u
  ·clear c
   go_enter func174,ntmps174;go_wp2;go_ret;exact⟨rfl,ba _ _⟩
  by_cases c3:d<1
  ·clear c
   go_enter func174,ntmps174;go_wp2;go_ret;exact⟨rfl,ba _ _⟩
  ·have c4:1073741824<d:=by omega
   clear c;go_enter func174,ntmps174;go_wp2;go_ret;exact⟨rfl,ba _ _⟩
theorem l6 (a b c d:Int)(p q:Nat)(w:World)(a1:0<=a)(a2:a<=1073741824)(b1:1<=b)(b2:b<=1073741824)(c1:0<=c)(c2:c<=1073741824)(d1:1<=d)(d2:d<=1073741824)
  (k1:w.cell? ⟨p,0,none⟩=some (.int .i64 a)) (k2:w.cell? ⟨p,1,none⟩=some (.int .i64 b)) (k3:w.cell? ⟨q,0,none⟩=some (.int .i64 c)) (k4:w.cell? ⟨q,1,none⟩=some (.int .i64 d)) :
  Calls prog 228 #[.pointer (some ⟨p,0,none⟩),.pointer (some ⟨q,0,none⟩)] w fun x w'=>x=.returned (.tuple #[.int .i64 (a*c),.int .i64 (b*d)])/\Below w.heap.size w w':=by
 obtain⟨p1,p2⟩:=Rt.dJ a1 a2 c1 c2;obtain⟨p3,p4⟩:=Rt.dJ (a:=b) (b:=d) (by omega) b2 (by omega) d2;obtain⟨p5,p6⟩:=Rt.dJ (a:=a) (b:=d) (by omega) a2 (by omega) d2;obtain⟨p7,p8⟩:=Rt.dJ (a:=c) (b:=b) (by omega) c2 (by omega) b2;obtain⟨p9,p10⟩:=Rt.dJ (a:=b) (b:=c) (by omega) b2 (by omega) c2;go_enter func228,ntmps228;go_wp2;go_quiet (fail);go_wp2;go_ret2;exact⟨rfl,below_drewN (aQ _ _) _⟩
theorem u7 (a b c d n m e:Int)(r1:Rt.oQ a b=true)(r2:Rt.oQ c d=true)(hm:Rt.kY (a*c) (b*d)=(n,m,e))(p q:Nat)(w:World)(hp:p<w.heap.size)(hq:q<w.heap.size)
  (k1:w.cell? ⟨p,0,none⟩=some (.int .i64 a)) (k2:w.cell? ⟨p,1,none⟩=some (.int .i64 b)) (k3:w.cell? ⟨q,0,none⟩=some (.int .i64 c)) (k4:w.cell? ⟨q,1,none⟩=some (.int .i64 d)) :
  Calls prog 227 #[rv a b,rv c d,.func (.func 228) #[] #[.pointer (some ⟨p,0,none⟩),.pointer (some ⟨q,0,none⟩)]] w fun x w'=>x=.returned (.tuple #[rv n m,.int .i64 e])/\Below w.heap.size w w':=by
 have HM:=qQ hm;have R1:=qQ r1;have R2:=qQ r2;obtain⟨a1,a2,b1,b2⟩:=Rt.yI r1;obtain⟨c1,c2,d1,d2⟩:=Rt.yI r2;clear r1 r2 hm;obtain⟨p1,p2⟩:=Rt.dJ a1 a2 c1 c2;obtain⟨p3,p4⟩:=Rt.dJ (a:=b) (b:=d) (by omega) b2 (by omega) d2;obtain⟨p5,p6⟩:=Rt.dJ (a:=a) (b:=d) (by omega) a2 (by omega) d2;obtain⟨p7,p8⟩:=Rt.dJ (a:=c) (b:=b) (by omega) c2 (by omega) b2;obtain⟨p9,p10⟩:=Rt.dJ (a:=b) (b:=c) (by omega) b2 (by omega) c2;go_enter func227,ntmps227;go_wp2_with fail;refine(lY a b true R1.out _).mono ?_;rintro e1 w1 ⟨rfl,hb1⟩;obtain⟨hc1,hf1⟩:=bcell hb1;go_wp2_with fail;refine(lY c d true R2.out _).mono ?_;rintro e2 w2 ⟨rfl,hb2⟩;have F2:=bt hb1 hb2;clear hc1 hf1 hb1 hb2;have G2:=bt (bal (bal (ba _ _) _) _) F2;go_wp2_with fail;refine(l6 a b c d p q _ a1 a2 b1 b2 c1 c2 d1 d2 ((G2.cell (p:=⟨p,0,none⟩) hp).trans k1) ((G2.cell (p:=⟨p,1,none⟩) hp).trans k2) ((G2.cell (p:=⟨q,0,none⟩) hq).trans k3) ((G2.cell (p:=⟨q,1,none⟩) hq).trans k4)).mono ?_;rintro e3 w3 ⟨rfl,hb3⟩;go_wp2_with fail;refine(nW (a*c) (b*d) n m e (by omega) (by omega) HM.out _).mono ?_;rintro e4 w4 ⟨rfl,hb4⟩;have F4:=bt (bt F2 hb3) hb4;have G4:=bt (bal (bal (ba _ _) _) _) F4;clear F2 hb3 hb4 G2;obtain⟨hc4,hf4⟩:=bcell F4;go_wp2_with fail;exact uQ (v:=.tuple #[rv n m,.int .i64 e]) (by simp[results,results227,go_sem,hc4]) rfl ⟨rfl,bs (bs G4 (by simp;omega) _) (by simp;omega) _⟩
theorem i7 (a b c d:Int)(f:Value)(h:Rt.oQ a b=false\/(Rt.oQ a b=true/\Rt.oQ c d=false))(w:World) :
  Calls prog 227 #[rv a b,rv c d,f] w fun x w'=>x=.returned (.tuple #[rv 0 0,.int .i64 2])/\Below w.heap.size w w':=by
 rcases h with r1|⟨r1,r2⟩
 ·have R1:Hid (Rt.oQ a b=false):=r1
  clear r1;go_enter func227,ntmps227;go_wp2_with fail;refine(lY a b false R1.out _).mono ?_;rintro e1 w1 ⟨rfl,hb1⟩;have G1:=bt (bal (bal (ba _ _) _) _) hb1;obtain⟨hc1,hf1⟩:=bcell hb1;go_wp2_with fail;exact uQ (v:=.tuple #[rv 0 0,.int .i64 2]) (by simp[results,results227,go_sem,hc1]) rfl ⟨rfl,bs (bs G1 (by simp;omega) _) (by simp;omega) _⟩
 ·have R1:Hid (Rt.oQ a b=true):=r1
  have R2:=qQ r2;clear r1 r2;go_enter func227,ntmps227;go_wp2_with fail;refine(lY a b true R1.out _).mono ?_;rintro e1 w1 ⟨rfl,hb1⟩;obtain⟨hc1,hf1⟩:=bcell hb1;go_wp2_with fail;refine(lY c d false R2.out _).mono ?_;rintro e2 w2 ⟨rfl,hb2⟩;have F2:=bt hb1 hb2;clear hc1 hf1 hb1 hb2;have G2:=bt (bal (bal (ba _ _) _) _) F2;obtain⟨hc1,hf1⟩:=bcell F2;go_wp2_with fail;exact uQ (v:=.tuple #[rv 0 0,.int .i64 2]) (by simp[results,results227,go_sem,hc1]) rfl ⟨rfl,bs (bs G2 (by simp;omega) _) (by simp;omega) _⟩
theorem fK (a b c d n m e:Int)(h:Rt.vG a b c d=(n,m,e))(w:World) :
  Calls prog 175 #[rv a b,rv c d] w fun x w'=>x=.returned (.tuple #[rv n m,.int .i64 e])/\Below w.heap.size w w':=by
 have H:=qQ h;clear h;by_cases r:Rt.oQ a b=true/\Rt.oQ c d=true
 ·obtain⟨r1,r2⟩:=r
  have hm:Rt.kY (a*c) (b*d)=(n,m,e):=by rw[<-H.out];unfold Rt.vG;rw[zQ ⟨r1,r2⟩]
  have HM:=qQ hm;have R1:=qQ r1;have R2:=qQ r2;clear hm r1 r2 H;go_enter func175,ntmps175;go_wp2_with fail;refine(u7 a b c d n m e R1.out R2.out HM.out w.heap.size (w.heap.size+1) _ (by simp <;> omega) (by simp <;> omega) (by simp[go_sem]) (by simp[go_sem]) (by simp[go_sem]) (by simp[go_sem])).mono ?_;rintro e1 w1 ⟨rfl,hb1⟩;have G1:=bt (bal (bal (ba _ _) _) _) hb1;obtain⟨hc1,hf1⟩:=bcell hb1;go_wp2_with fail;exact uQ (v:=.tuple #[rv n m,.int .i64 e]) (by simp[results,results175,go_sem,hc1]) rfl ⟨rfl,bs (bs G1 (by simp;omega) _) (by simp;omega) _⟩
 ·have hr:(0,0,2)=(n,m,e):=by rw[<-H.out];unfold Rt.vG;rw[xQ r]
  simp only[dQ] at hr;obtain⟨rfl,rfl,rfl⟩:=hr
  have r':Rt.oQ a b=false\/(Rt.oQ a b=true/\Rt.oQ c d=false):=by
   cases h1:Rt.oQ a b <;> cases h2:Rt.oQ c d <;> simp_all
  have R:=qQ r';clear r r' H;go_enter func175,ntmps175;go_wp2_with fail;refine(i7 a b c d _ R.out _).mono ?_;rintro e1 w1 ⟨rfl,hb1⟩;have G1:=bt (bal (bal (ba _ _) _) _) hb1;obtain⟨hc1,hf1⟩:=bcell hb1;go_wp2_with fail;exact uQ (v:=.tuple #[rv 0 0,.int .i64 2]) (by simp[results,results175,go_sem,hc1]) rfl ⟨rfl,bs (bs G1 (by simp;omega) _) (by simp;omega) _⟩
theorem cwX (a b n:Int)(h:Rt.oQ a b=false)(w:World) :
  Calls prog 101 #[rv a b,.int .i64 n] w fun x w'=>x=.returned (.tuple #[rv 0 0,.int .i64 2])/\Below w.heap.size w w':=by
 have H:=qQ h;clear h;go_enter func101,ntmps101;go_wp2_with fail;refine(lY a b false H.out _).mono ?_;rintro e1 w1 ⟨rfl,hb1⟩;have G1:=bt (bal (ba _ _) _) hb1;obtain⟨hc1,hf1⟩:=bcell hb1;go_wp2_with fail;exact uQ (v:=.tuple #[rv 0 0,.int .i64 2]) (by simp[results,results101,go_sem,hc1]) rfl ⟨rfl,bs (bs G1 (by simp) _) (by simp) _⟩
theorem cwZ (a b n:Int)(h:Rt.oQ a b=true)(hn:n<0\/4096<n)(w:World) :
  Calls prog 101 #[rv a b,.int .i64 n] w fun x w'=>x=.returned (.tuple #[rv 0 0,.int .i64 3])/\Below w.heap.size w w':=by
 have H:=qQ h;clear h;have hn':n<0\/(¬ n<0/\4096<n):=by omega
 clear hn;rcases hn' with hn|⟨hn1,hn⟩
 all_goals
  go_enter func101,ntmps101;go_wp2_with fail;refine(lY a b true H.out _).mono ?_;rintro e1 w1 ⟨rfl,hb1⟩;have G1:=bt (bal (ba _ _) _) hb1;obtain⟨hc1,hf1⟩:=bcell hb1;go_wp2_with fail;exact uQ (v:=.tuple #[rv 0 0,.int .i64 3]) (by simp[results,results101,go_sem,hc1]) rfl ⟨rfl,bs (bs G1 (by simp) _) (by simp) _⟩
theorem cwJ (x y n:Nat)(h:Rt.oQ x y=true)(hn:n<=4096)(p q e:Int)(hp:Rt.dM x y n=(p,q,e))(w:World) :
  Calls prog 101 #[rv x y,.int .i64 n] w fun x w'=>x=.returned (.tuple #[rv p q,.int .i64 e])/\Below w.heap.size w w':=by
 have H:=qQ h;have HP:=qQ hp;clear h hp;go_enter func101,ntmps101;go_wp2_with fail;refine(lY x y true H.out _).mono ?_;rintro e1 w1 ⟨rfl,hb1⟩;have G1:=bt (bal (ba _ _) _) hb1;obtain⟨hc1,hf1⟩:=bcell hb1;go_wp2_with fail;have hz1:w.heap.size<w1.heap.size:=by have:=hb1.size;simp at this;omega
 have hz1':w.heap.size+1<w1.heap.size:=by have:=hb1.size;simp at this;omega
 go_loopw [21] (fun c wr=>∃ i:Nat,i<=n/\c=.int .i64 (i:Int)/\x ^ i<=1073741824/\y ^ i<=1073741824/\Below w1.heap.size w1 wr/\w1.heap.size<wr.heap.size/\wr.cell? ⟨w1.heap.size,0,none⟩=some (.int .i64 ((x ^ i:Nat):Int))/\wr.cell? ⟨w1.heap.size,1,none⟩=some (.int .i64 ((y ^ i:Nat):Int))/\wr.frozen? ⟨w1.heap.size,0,none⟩=false/\wr.frozen? ⟨w1.heap.size,1,none⟩=false) (fun c _=>n - (intOf c).toNat)
 case atStart=>exact⟨0,by omega,rfl,by simp,by simp,ba _ _,by simp,by simp[go_sem],by simp[go_sem],by simp[go_sem],by simp[go_sem]⟩
 case round =>
  obtain⟨i,hi,rfl,hx,hy,hbr,hzr,hr0,hr1,hr2,hr3⟩:=hrel;have F1:=bt hb1 hbr;have k0:wr.cell? ⟨w.heap.size,0,none⟩=some (.int .i64 (x:Int)):=by rw[F1.cell (p:=⟨w.heap.size,0,none⟩) (by simp <;> omega)];simp[go_sem]
  have k1:wr.cell? ⟨w.heap.size,1,none⟩=some (.int .i64 (y:Int)):=by rw[F1.cell (p:=⟨w.heap.size,1,none⟩) (by simp <;> omega)];simp[go_sem]
  have HT:=Rt.cbZ x y i H.out hx hy;generalize hX:x ^ i=X at *
  generalize hY:y ^ i=Y at *
  have HX:=qQ hX;have HY:=qQ hY;clear hX hY;by_cases c0:i<n
  ·by_cases c1:x ^ (i+1)<=1073741824/\y ^ (i+1)<=1073741824
   ·rw[zQ c1] at HT
    have HT':=qQ HT;clear HT;obtain⟨c1,c2⟩:=c1;generalize hX:x ^ (i+1)=X' at *
    generalize hY:y ^ (i+1)=Y' at *
    have HX':=qQ hX;have HY':=qQ hY;clear hX hY;go_wp2_with fail;refine(fK X Y x y X' Y' 0 HT'.out _).mono ?_;rintro e2 w2 ⟨rfl,hb2⟩;obtain⟨hc2,hf2⟩:=bcell hb2;go_wp2_with fail;have hz2:=hb2.size;refine⟨⟨i+1,by omega,by go_num,by rw[HX'.out];exact c1,by rw[HY'.out];exact c2,?_,?_,?_,?_,?_,?_⟩,?_⟩
    ·exact((hbr.trans (hb2.mono (by omega))).setCell (vQ _) _).setCell (vQ _) _
    ·simp;omega
    ·rw[HX'.out];simp[go_sem,hc2,hzr,hr0]
    ·rw[HY'.out];simp[go_sem,hc2,hzr,hr1]
    ·simp[go_sem,hf2,hzr,hr2]
    ·simp[go_sem,hf2,hzr,hr3]
    ·simp[intOf];omega
   ·rw[xQ c1] at HT
    have HT':=qQ HT;clear HT
    have hgt:1073741824<x ^ n\/1073741824<y ^ n:=by
     by_cases g:1073741824<x ^ (i+1)
     ·exact .inl (Rt.aqQ x (i+1) n (by omega) g)
     ·exact .inr (Rt.aqQ y (i+1) n (by omega) (by omega))
    have hp:=Rt.aqX x y n H.out hn p q e HP.out
    have hp':0=p/\0=q/\4=e:=by
     rcases hp with⟨_,h1⟩|⟨h1,h2,_⟩
     ·exact h1
     ·omega
    clear hp hgt c1 HP;obtain⟨rfl,rfl,rfl⟩:=hp';have hb0:=bt G1 hbr;go_wp2_with fail;refine(fK X Y x y 0 0 4 HT'.out _).mono ?_;rintro e2 w2 ⟨rfl,hb2⟩;obtain⟨hc2,hf2⟩:=bcell hb2;have k4:w2.cell? ⟨w.heap.size+1,0,none⟩=some (.int .i64 0):=by rw[hc2 _ _ (by omega),F1.cell (p:=⟨w.heap.size+1,0,none⟩) (by simp)];simp[go_sem]
    have k5:w2.cell? ⟨w.heap.size+1,1,none⟩=some (.int .i64 0):=by rw[hc2 _ _ (by omega),F1.cell (p:=⟨w.heap.size+1,1,none⟩) (by simp)];simp[go_sem]
    have k6:w2.frozen? ⟨w.heap.size+1,0,none⟩=false:=by rw[hf2 _ _ (by omega),F1.frozen (p:=⟨w.heap.size+1,0,none⟩) (by simp)];simp[go_sem]
    have k7:w2.frozen? ⟨w.heap.size+1,1,none⟩=false:=by rw[hf2 _ _ (by omega),F1.frozen (p:=⟨w.heap.size+1,1,none⟩) (by simp)];simp[go_sem]
    have hne:¬ w1.heap.size=w.heap.size+1:=by omega
    have hne':¬ w.heap.size+1=w1.heap.size:=by omega
    go_wp2_with fail;exact uQ (v:=.tuple #[rv 0 0,.int .i64 4]) (by simp[results,results101,go_sem,k4,k5]) rfl ⟨rfl,bs (bs (bs (bs (bt hb0 hb2) (by simp;omega) _) (by simp;omega) _) (by simp) _) (by simp) _⟩
  ·have hin:i=n:=by omega
   subst hin;clear HT;have hp:=Rt.aqX x y i H.out hn p q e HP.out;rw[HX.out,HY.out] at hp
   have hp':(X:Int)=p/\(Y:Int)=q/\0=e:=by
    rcases hp with⟨_,h1⟩|⟨h1,h2,h3⟩
    ·omega
    ·exact h3
   clear hp HP;obtain⟨rfl,rfl,rfl⟩:=hp';have hb0:=bt G1 hbr;have k4:wr.cell? ⟨w.heap.size+1,0,none⟩=some (.int .i64 0):=by rw[F1.cell (p:=⟨w.heap.size+1,0,none⟩) (by simp)];simp[go_sem]
   have k5:wr.cell? ⟨w.heap.size+1,1,none⟩=some (.int .i64 0):=by rw[F1.cell (p:=⟨w.heap.size+1,1,none⟩) (by simp)];simp[go_sem]
   have k6:wr.frozen? ⟨w.heap.size+1,0,none⟩=false:=by rw[F1.frozen (p:=⟨w.heap.size+1,0,none⟩) (by simp)];simp[go_sem]
   have k7:wr.frozen? ⟨w.heap.size+1,1,none⟩=false:=by rw[F1.frozen (p:=⟨w.heap.size+1,1,none⟩) (by simp)];simp[go_sem]
   go_wp2_with fail;exact uQ (v:=.tuple #[rv X Y,.int .i64 0]) (by simp[results,results101,go_sem,k4,k5]) rfl ⟨rfl,bs (bs hb0 (by simp) _) (by simp) _⟩
theorem cxQ (a b n p q e:Int)(h:Rt.dM a b n=(p,q,e))(w:World) :
  Calls prog 101 #[rv a b,.int .i64 n] w fun x w'=>x=.returned (.tuple #[rv p q,.int .i64 e])/\Below w.heap.size w w':=by
 cases r:Rt.oQ a b with
 | false =>
  unfold Rt.dM at h;rw[xQ (by simp[r])] at h;simp only[dQ] at h;obtain⟨rfl,rfl,rfl⟩:=h;exact cwX a b n r w
 | true =>
  by_cases hn:n<0\/4096<n
  ·unfold Rt.dM at h
   rw[zQ r,zQ hn] at h;simp only[dQ] at h;obtain⟨rfl,rfl,rfl⟩:=h;exact cwZ a b n r hn w
  ·obtain⟨a1,a2,b1,b2⟩:=Rt.yI r
   obtain⟨x,rfl⟩:=cA a1;obtain⟨y,rfl⟩:=cA (show 0<=b by omega);obtain⟨m,rfl⟩:=cA (show 0<=n by omega);exact cwJ x y m r (by omega) p q e h w
theorem cxX (h:a=b):Ending.returned (.int .i64 a)=.returned (.int .i64 b):=by rw[h]
theorem bR (n lo hi:Int)(w:World) :
  Calls prog 95 #[.int .i64 n,.int .i64 lo,.int .i64 hi] w fun e w'=>e=.returned (.int .i64 (yG lo hi n))/\w' = w:=by
 go_enter func95,ntmps95;go_wp2
 all_goals
  go_ret;refine⟨cxX ?_,rfl⟩;unfold yG
  first|omega|(split at * <;> omega)
theorem cxZ (x:Int)(n:Nat)(hn:n<=4096)(hx:1<=x)(h:x ^ n<=1073741824)(w:World) :
  Calls prog 226 #[.int .i64 x,.int .i64 (n:Int)] w fun e w'=>e=.returned (.int .i64 (x ^ n))/\w' = w:=by
 have H:=qQ h;clear h;go_enter func226,ntmps226;go_wp2
 go_loop [5,7] (fun a c=>∃ i:Nat,i<=n/\a=.int .i64 (x ^ i)/\c=.int .i64 (i:Int)) (fun _ c=>n - (intOf c).toNat)
 case atStart=>exact⟨0,kQ _,by simp,rfl⟩
 case round =>
  obtain⟨i,hi,rfl,rfl⟩:=hrel;obtain⟨P,hP⟩:∃ P,x ^ i=P:=⟨_,rfl⟩;by_cases c:i<n
  ·have b1:=aN (cuX hx (show i+1<=n from c)) H.out
   have b0:=fL hx (i+1);have HE:Hid (x ^ (i+1)=P*x):=by show x ^ (i+1)=P*x;rw[rN,hP]
   rw[HE.out] at b1 b0;rw[hP];clear hP H;go_wp2
   go_round
   case rel=>exact⟨i+1,c,by rw[HE.out],by go_num⟩
   case measure=>simp[intOf];omega
  ·have:i=n:=by omega
   subst this;go_wp2;go_ret;exact⟨rfl,rfl⟩
theorem cxJ (u d:Int)(n:Nat)(hn:n<=4096)(hd:1<=d)(hu2:u<=1073741824)(hdu:d<=u)(r:Bool)(hn1:1<=n)(hr:decide (1073741824<(u+d)*u ^ n)=r)(w:World) :
  Calls prog 170 #[rv u d,.int .i64 (n:Int)] w fun e w'=>e=.returned (.bool r)/\Below w.heap.size w w':=by
 have hu:1<=u:=by omega
 have HR:=qQ hr;clear hr;have HB:=ba w (.cells #[.int .i64 u,.int .i64 d] 37);go_enter func170,ntmps170;go_wp2
 go_loop [5,12] (fun a c=>∃ i:Nat,i<=n/\a=.int .i64 ((u+d)*u ^ i)/\c=.int .i64 (i:Int)/\(i=0\/(u+d)*u ^ i<=1073741824)) (fun _ c=>n - (intOf c).toNat)
 case atStart=>exact⟨0,kQ _,by simp,rfl,.inl rfl⟩
 case round =>
  obtain⟨i,hi,rfl,rfl,hle⟩:=hrel;obtain⟨P,hP⟩:∃ P,(u+d)*u ^ i=P:=⟨_,rfl⟩;have hP0:0<=P:=by rw[<-hP];exact eA (by omega) (l5 (by omega) _)
  have hP1:P<=2147483648:=by
   rcases hle with rfl|h
   ·rw[<-hP];simp;omega
   ·omega
  by_cases c:i<n
  ·have HE:Hid ((u+d)*u ^ (i+1)=P*u):=by show _=_;rw[rN,<-uM,hP]
   have b0:0<=P*u:=eA hP0 (by omega);have b1:P*u<=2147483648*1073741824:=nN hP1 hu2 (by omega) (by omega);rw[hP];clear hle hP;by_cases c2:1073741824<P*u
   ·have hr:r=true:=by
     rw[<-HR.out,decide_eq_true_iff];obtain⟨k,hk⟩:=Nat.le.dest (show i+1<=n from c);rw[<-hk,Int.pow_add,<-uM,HE.out];have h1:=fL hu k;have h2:=bE h1 b0;omega
    subst hr;clear HE HR;go_wp2;go_ret;exact⟨rfl,HB⟩
   ·have c3:P*u<=1073741824:=by omega
    go_wp2
    go_round
    case rel=>exact⟨i+1,c,by rw[HE.out],by go_num,.inr (by rw[HE.out];exact c3)⟩
    case measure=>simp[intOf];omega
  ·have:i=n:=by omega
   subst this
   have hr:r=false:=by
    rw[<-HR.out,decide_eq_false_iff_not];rcases hle with rfl|h <;> omega
   subst hr;clear HR hle hP hP0 hP1;go_wp2;go_ret;exact⟨rfl,HB⟩
theorem ayX (u d er:Int)(h:fI u d=er)(w:World) :
  Calls prog 100 #[rv u d] w fun e w'=>e=.returned (.int .i64 er)/\Below w.heap.size w w':=by
 obtain⟨b,hb⟩:∃ b,Rt.oQ u d=b:=⟨_,rfl⟩;rw[fI,hb] at h;have HB:=ba w (.cells #[.int .i64 u,.int .i64 d] 37);have kc:=lY u d b hb (w.alloc (.cells #[.int .i64 u,.int .i64 d] 37));clear hb;cases b with
 | false =>
  simp at h;subst h;go_enter func100,ntmps100;go_wp2_with fail;refine kc.mono ?_;rintro e w1 ⟨rfl,hb1⟩;have G1:=bt HB hb1;go_wp2;go_ret;exact⟨rfl,G1⟩
 | true =>
  simp at h;by_cases c:u<d
  ·rw[zQ c] at h
   subst h;go_enter func100,ntmps100;go_wp2_with fail;refine kc.mono ?_;rintro e w1 ⟨rfl,hb1⟩;have G1:=bt HB hb1;obtain⟨hc1,hf1⟩:=bcell hb1;go_wp2;go_ret;exact⟨rfl,G1⟩
  ·rw[xQ c] at h
   subst h;go_enter func100,ntmps100;go_wp2_with fail;refine kc.mono ?_;rintro e w1 ⟨rfl,hb1⟩;have G1:=bt HB hb1;obtain⟨hc1,hf1⟩:=bcell hb1;go_wp2;go_ret;exact⟨rfl,G1⟩
theorem cyQ (u d n p q er:Int)(h:eK u d n=(p,q,er))(w:World) :
  Calls prog 49 #[rv u d,.int .i64 n] w fun e w'=>e=.returned (.tuple #[rv p q,.int .i64 er])/\Below w.heap.size w w':=by
 obtain⟨e0,he0⟩:∃ e0,fI u d=e0:=⟨_,rfl⟩;rw[eK,he0] at h;have kc:=ayX u d e0 he0;by_cases c:e0=0
 ·subst c
  simp at h;have kp:=cxQ u d n p q er h;clear h he0;go_enter func49,ntmps49;go_wp2_with fail;refine(kc _).mono ?_;rintro e w1 ⟨rfl,hb1⟩;have G1:=bt (bal (ba _ _) _) hb1;obtain⟨hc1,hf1⟩:=bcell hb1;go_wp2_with fail;refine(kp _).mono ?_;rintro e w2 ⟨rfl,hb2⟩;have G2:=bt G1 hb2;obtain⟨hc2,hf2⟩:=bcell hb2;have hz1:w.heap.size+1<w1.heap.size:=by have:=hb1.size;simp at this;omega
  go_wp2_with fail;exact uQ (v:=.tuple #[rv p q,.int .i64 er]) (by simp[results,results49,go_sem,hc1,hc2,hz1]) rfl ⟨rfl,bs (bs G2 (by simp) _) (by simp) _⟩
 ·simp only[ne_eq,c,not_false_eq_true,uU,dQ] at h
  obtain⟨rfl,rfl,rfl⟩:=h;have c1:(e0 == 0)=false:=by simpa using c
  have c2:(e0 != 0)=true:=by simpa using c
  go_enter func49,ntmps49;go_wp2_with fail;refine(kc _).mono ?_;rintro e w1 ⟨rfl,hb1⟩;have G1:=bt (bal (ba _ _) _) hb1;obtain⟨hc1,hf1⟩:=bcell hb1;go_wp2_with fail;exact uQ (v:=.tuple #[rv 0 0,.int .i64 e0]) (by simp[results,results49,go_sem,hc1]) rfl ⟨rfl,bs (bs G1 (by simp) _) (by simp) _⟩
end
end Go.Proofs.YtpmioeamdhdokaaGreat
