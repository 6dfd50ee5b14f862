import Derived.Test.YtdceajgpolckiaaGreatDoorQq09
import Derived.Test.YtdceajgpolckiaaGreatDoorQq10
open Go.Proofs.Tryz
set_option linter.unusedSimpArgs false
set_option maxHeartbeats 16000000
set_option maxRecDepth 100000
namespace Go.Proofs.YtdceajgpolckiaaGreatDoor
section
open Go.RowKit Ds
theorem wW {l:List Pt}{o:List Int}(h:0<wt l o):∃ p∈l,p.1=o:=by
 by_cases hc:∃ p∈l,p.1=o
 ·exact hc
 ·have:wt l o=0:=sO fun p hp e=>hc ⟨p,hp,e⟩
  omega
theorem j0 {l:List Pt}(hr:rY l)(hp:lJ l){p:Pt}(h:p∈l):0<wt l p.1:=by
 rw[brQ hr h];exact hp p h
def grow (g:Int) (l:List Pt):List Pt:=l.map fun p=>(p.1,g*p.2)
theorem bsX (g:Int)(l:List Pt)(o:List Int):wt (grow g l) o=g*wt l o:=by
 induction l with
 | nil=>simp[grow]
 | cons p l ih =>
  simp only[grow,qI] at *
  rw[mU,mU,ih,Int.mul_add];simp only;split <;> simp
end
section
open Ds
def lD (u d:Int):Int:=if Rt.fQ u d=true then (if u<d then 3 else 0) else 2
def gk (u d:Int) (R k:Nat):Int:=d ^ k*u ^ (R - k)
def hwt (u d:Int) (R a i:Nat):Int:=gk u d R (i - a+(a - i))*(if i=0\/i=R then u else u - d)
def lG (u d lo:Int) (R a:Nat):List Pt:=(List.range (R+1)).map fun(i:Nat)=>([lo+(i:Int)],hwt u d R a i)
def oU (lo hi n:Int):Int:=min (max n lo) hi
def nZ (u d lo hi n:Int):List Pt × Int :=
 if lD u d≠0 then ([],lD u d)
 else if ¬ (-1073741824<=lo/\lo<=hi/\hi<=1073741824/\hi - lo<=64) then ([],3)
 else if lo=hi then gV [([lo],1)]
 else if 1073741824<(u+d)*u ^ (hi - lo).toNat then ([],4)
 else gV (lG u d lo (hi - lo).toNat (oU lo hi n - lo).toNat)
def mD (u d n:Int):Int × Int × Int:=if lD u d≠0 then (0,0,lD u d) else Rt.iH u d n
theorem i1 {u d:Int}(h:lD u d=0):Rt.fQ u d=true/\d<=u/\1<=d/\u<=1073741824:=by
 unfold lD at h;split at h
 ·rename_i h1
  have:=Rt.nF h1;split at h
  ·omega
  ·exact⟨h1,by omega,by omega,by omega⟩
 ·omega
theorem gI {u:Int}(h:1<=u)(n:Nat):1<=u ^ n:=by
 have:=Int.pow_pos (n:=u) (m:=n) (by omega);omega
theorem bsZ {u:Int}(h:1<=u){n m:Nat}(hnm:n<=m):u ^ n<=u ^ m:=by
 obtain⟨k,rfl⟩:=Nat.le.dest hnm;rw[Int.pow_add];have h1:=gI h n;have h2:=gI h k;have:=Int.mul_le_mul_of_nonneg_left h2 (show 0<=u ^ n by omega);omega
theorem bsJ {u d:Int}(hd:0<=d)(h:d<=u)(n:Nat):d ^ n<=u ^ n:=by
 induction n with
 | zero=>simp
 | succ n ih =>
  rw[dL,dL];exact bL ih h hd (Int.pow_nonneg (by omega))
theorem cT {d:Int}(hd:0<=d)(n:Nat):0<=d ^ n:=Int.pow_nonneg hd
theorem btQ (u d:Int)(R:Nat):gk u d R 0=u ^ R:=by simp[gk]
theorem btX (u d:Int){R k:Nat}(h:k<R):u*gk u d R (k+1)=d*gk u d R k:=by
 unfold gk;rw[show R - k=(R - (k+1))+1 from by omega,dL,dL];simp only[Int.mul_comm,Int.mul_left_comm,aK]
theorem btZ (u d:Int){R k:Nat}(s:Nat)(h:k+s<=R):u ^ s*gk u d R (k+s)=d ^ s*gk u d R k:=by
 induction s with
 | zero=>simp
 | succ s ih =>
  have h1:=ih (by omega);have h2:=btX u d (R:=R) (k:=k+s) (by omega);rw[dL,dL,<-aG,aK,h2,<-aK,Int.mul_right_comm,h1,Int.mul_right_comm]
theorem btJ {u d:Int}(hu:0<=u)(hd:0<=d)(R k:Nat):0<=gk u d R k:=xI (cT hd _) (cT hu _)
theorem buQ {u d:Int}(hd:1<=d)(h:d<=u){R k s:Nat}(hk:k+s<=R):gk u d R (k+s)<=gk u d R k:=by
 have h1:=btZ u d s hk;have h2:=bsJ (show 0<=d by omega) h s;have h3:=btJ (show 0<=u by omega) (show 0<=d by omega) R k;have h4:u ^ s*gk u d R (k+s)<=u ^ s*gk u d R k:=by rw[h1];exact iR h2 h3
 exact Int.le_of_mul_le_mul_left h4 (by have:=gI (show 1<=u by omega) s;omega)
end
section
open Go.RowKit Ds
theorem buX (l:List Pt):cut 1 l=l:=by
 unfold cut
 conv=>rhs;rw[<-List.map_id l]
 exact lR fun p _=>by simp
theorem Dis.own {l:List Pt}(h:Dis l):bU l=(l,0):=by
 have hg:gath l=l:=cE (fun p hp=>zN (h.pos p hp)) h.rise h.pos fun _=>rfl
 have hm:gV l=(l,0):=by
  unfold gV jA;rw[xQ h.ok,hg,qQ h.ne,h.one];simp only[Int.natCast_one,buX];rw[qQ (by have:=h.le;have:=h.few;omega)]
 unfold bU;rw[hm];simp
theorem buZ (g:Int)(l:List Pt):tot (grow g l)=g*tot l:=by
 induction l with
 | nil=>simp[grow]
 | cons p l ih =>
  simp only[grow,qI] at *
  rw[pV,pV,ih,Int.mul_add]
theorem dT {k l':List Pt}(h:gV k=(l',0)):Dis l'/\∃ g:Int,0<g/\(∀ o,wt k o=g*wt l' o)/\tot k=g*tot l':=by
 unfold gV at h;split at h
 ·rename_i hok
  have hp:=tO (xP hok).1;obtain⟨a,b,c,d,e,f⟩:=jW hp (qS k) h;have hne:gath k≠[]:=by intro h0;rw[h0] at h;simp[jA] at h
  have hl:l' = cut (dv (gath k)) (gath k):=by
   unfold jA at h;rw[qQ hne] at h;split at h
   ·simp at h
   ·simp at h;exact h.symm
  have hg:grow (dv (gath k)) l' = gath k:=by rw[hl];exact zW fun p hp=>vS hp
  have hd:=xS hp hne;have hw:∀ o,wt k o=(dv (gath k):Int)*wt l' o:=fun o=>by rw[<-bsX,hg,bE]
  refine⟨⟨a,b,c,d,?_,e,f⟩,dv (gath k),by omega,hw,by rw[<-buZ,hg,jS]⟩;rw[fO];intro p hpm;have h1:0<wt k p.1:=by rw[hw];exact Int.mul_pos (by omega) (j0 a b hpm)
  obtain⟨q,hq,he⟩:=wW h1;have h2:=fO.1 hok q hq;have h3:=lJ.le_tot (Nn.of_pos b) hpm;have h4:=b p hpm;unfold tV at *
  rw[wM] at *
  exact⟨by simp;omega,he▸h2.2⟩
 ·simp at h
theorem vY (u d:Int)(b:Bool)(hb:Rt.fQ u d=b)(w:World) :
  Calls prog 143 #[rv u d] w fun e w'=>e=.returned (.bool b)/\Below w.heap.size w w':=by
 have HB:Hid (Rt.fQ u d=b):=hb;clear hb;by_cases c:0<=u/\u<=1073741824/\1<=d/\d<=1073741824
 ·obtain⟨c1,c2,c3,c4⟩:=c
  obtain⟨x,rfl⟩:=jG c1;obtain⟨y,rfl⟩:=jG (show 0<=d by omega)
  have hbb:b=(((Nat.gcd x y:Nat):Int) == 1):=by
   rw[<-HB.out];unfold Rt.fQ;rw[Bool.eq_iff_iff];simp[Rt.mx];omega
  subst hbb;clear HB;go_enter func143,ntmps143;go_wp2_with (go_at_call 59;refine(dK _ _ (by omega) (by omega) _).mono ?_;rintro e w' ⟨rfl,hbl⟩);go_ret;exact⟨rfl,bt (ba _ _) hbl⟩
 ·have hbb:b=false:=by
   rw[<-HB.out];unfold Rt.fQ Rt.mx;exact nV (fun h=>c ⟨h.1,h.2.1,h.2.2.1,h.2.2.2.1⟩)
  subst hbb;clear HB;by_cases c1:u<0
  ·clear c
   go_enter func143,ntmps143;go_wp2;go_ret;exact⟨rfl,ba _ _⟩
  by_cases c2:1073741824<u
  ·clear c
   go_enter func143,ntmps143;go_wp2;go_ret;exact⟨rfl,ba _ _⟩
  by_cases c3:d<1
  ·clear c
   go_enter func143,ntmps143;go_wp2;go_ret;exact⟨rfl,ba _ _⟩
  ·have c4:1073741824<d:=by omega
   clear c;go_enter func143,ntmps143;go_wp2;go_ret;exact⟨rfl,ba _ _⟩
theorem eT (a b c d:Int)(p q:Nat)(w:World)(a1:0<=a)(a2:a<=1073741824)(b1:1<=b)(b2:b<=1073741824)(c1:0<=c)(c2:c<=1073741824)(d1:1<=d)(d2:d<=1073741824)
  (k1:w.cell? ⟨p,0,none⟩=some (.int .i64 a)) (k2:w.cell? ⟨p,1,none⟩=some (.int .i64 b)) (k3:w.cell? ⟨q,0,none⟩=some (.int .i64 c)) (k4:w.cell? ⟨q,1,none⟩=some (.int .i64 d)) :
  Calls prog 184 #[.pointer (some ⟨p,0,none⟩),.pointer (some ⟨q,0,none⟩)] w fun x w'=>x=.returned (.tuple #[.int .i64 (a*c),.int .i64 (b*d)])/\Below w.heap.size w w':=by
 obtain⟨p1,p2⟩:=Rt.wZ a1 a2 c1 c2;obtain⟨p3,p4⟩:=Rt.wZ (a:=b) (b:=d) (by omega) b2 (by omega) d2;obtain⟨p5,p6⟩:=Rt.wZ (a:=a) (b:=d) (by omega) a2 (by omega) d2;obtain⟨p7,p8⟩:=Rt.wZ (a:=c) (b:=b) (by omega) c2 (by omega) b2;obtain⟨p9,p10⟩:=Rt.wZ (a:=b) (b:=c) (by omega) b2 (by omega) c2;go_enter func184,ntmps184;go_wp2;go_quiet (fail);go_wp2;go_ret2;exact⟨rfl,below_drewN (aQ _ _) _⟩
theorem fT (a b c d n m e:Int)(r1:Rt.fQ a b=true)(r2:Rt.fQ c d=true)(hm:Rt.wV (a*c) (b*d)=(n,m,e))(p q:Nat)(w:World)(hp:p<w.heap.size)(hq:q<w.heap.size)
  (k1:w.cell? ⟨p,0,none⟩=some (.int .i64 a)) (k2:w.cell? ⟨p,1,none⟩=some (.int .i64 b)) (k3:w.cell? ⟨q,0,none⟩=some (.int .i64 c)) (k4:w.cell? ⟨q,1,none⟩=some (.int .i64 d)) :
  Calls prog 183 #[rv a b,rv c d,.func (.func 184) #[] #[.pointer (some ⟨p,0,none⟩),.pointer (some ⟨q,0,none⟩)]] w fun x w'=>x=.returned (.tuple #[rv n m,.int .i64 e])/\Below w.heap.size w w':=by
 have HM:Hid (Rt.wV (a*c) (b*d)=(n,m,e)):=hm;have R1:Hid (Rt.fQ a b=true):=r1;have R2:Hid (Rt.fQ c d=true):=r2;obtain⟨a1,a2,b1,b2⟩:=Rt.nF r1;obtain⟨c1,c2,d1,d2⟩:=Rt.nF r2;clear r1 r2 hm;obtain⟨p1,p2⟩:=Rt.wZ a1 a2 c1 c2;obtain⟨p3,p4⟩:=Rt.wZ (a:=b) (b:=d) (by omega) b2 (by omega) d2;obtain⟨p5,p6⟩:=Rt.wZ (a:=a) (b:=d) (by omega) a2 (by omega) d2;obtain⟨p7,p8⟩:=Rt.wZ (a:=c) (b:=b) (by omega) c2 (by omega) b2;obtain⟨p9,p10⟩:=Rt.wZ (a:=b) (b:=c) (by omega) b2 (by omega) c2;go_enter func183,ntmps183;go_wp2_with fail;refine(vY a b true R1.out _).mono ?_;rintro e1 w1 ⟨rfl,hb1⟩;obtain⟨hc1,hf1⟩:=bcell hb1;go_wp2_with fail;refine(vY c d true R2.out _).mono ?_;rintro e2 w2 ⟨rfl,hb2⟩;have F2:=bt hb1 hb2;clear hc1 hf1 hb1 hb2;have G2:=bt (bal (bal (ba _ _) _) _) F2;go_wp2_with fail;refine(eT a b c d p q _ a1 a2 b1 b2 c1 c2 d1 d2 ((G2.cell (p:=⟨p,0,none⟩) hp).trans k1) ((G2.cell (p:=⟨p,1,none⟩) hp).trans k2) ((G2.cell (p:=⟨q,0,none⟩) hq).trans k3) ((G2.cell (p:=⟨q,1,none⟩) hq).trans k4)).mono ?_;rintro e3 w3 ⟨rfl,hb3⟩;go_wp2_with fail;refine(bjZ (a*c) (b*d) n m e (by omega) (by omega) HM.out _).mono ?_;rintro e4 w4 ⟨rfl,hb4⟩;have F4:=bt (bt F2 hb3) hb4;have G4:=bt (bal (bal (ba _ _) _) _) F4;clear F2 hb3 hb4 G2;obtain⟨hc4,hf4⟩:=bcell F4;go_wp2_with fail;exact yQ (v:=.tuple #[rv n m,.int .i64 e]) (by simp[results,results183,go_sem,hc4]) rfl ⟨rfl,bs (bs G4 (by simp;omega) _) (by simp;omega) _⟩
theorem gT (a b c d:Int)(f:Value)(h:Rt.fQ a b=false\/(Rt.fQ a b=true/\Rt.fQ c d=false))(w:World) :
  Calls prog 183 #[rv a b,rv c d,f] w fun x w'=>x=.returned (.tuple #[rv 0 0,.int .i64 2])/\Below w.heap.size w w':=by
 rcases h with r1|⟨r1,r2⟩
 ·have R1:Hid (Rt.fQ a b=false):=r1
  clear r1;go_enter func183,ntmps183;go_wp2_with fail;refine(vY a b false R1.out _).mono ?_;rintro e1 w1 ⟨rfl,hb1⟩;have G1:=bt (bal (bal (ba _ _) _) _) hb1;obtain⟨hc1,hf1⟩:=bcell hb1;go_wp2_with fail;exact yQ (v:=.tuple #[rv 0 0,.int .i64 2]) (by simp[results,results183,go_sem,hc1]) rfl ⟨rfl,bs (bs G1 (by simp;omega) _) (by simp;omega) _⟩
 ·have R1:Hid (Rt.fQ a b=true):=r1
  have R2:Hid (Rt.fQ c d=false):=r2;clear r1 r2;go_enter func183,ntmps183;go_wp2_with fail;refine(vY a b true R1.out _).mono ?_;rintro e1 w1 ⟨rfl,hb1⟩;obtain⟨hc1,hf1⟩:=bcell hb1;go_wp2_with fail;refine(vY c d false R2.out _).mono ?_;rintro e2 w2 ⟨rfl,hb2⟩;have F2:=bt hb1 hb2;clear hc1 hf1 hb1 hb2;have G2:=bt (bal (bal (ba _ _) _) _) F2;obtain⟨hc1,hf1⟩:=bcell F2;go_wp2_with fail;exact yQ (v:=.tuple #[rv 0 0,.int .i64 2]) (by simp[results,results183,go_sem,hc1]) rfl ⟨rfl,bs (bs G2 (by simp;omega) _) (by simp;omega) _⟩
theorem oH (a b c d n m e:Int)(h:Rt.sY a b c d=(n,m,e))(w:World) :
  Calls prog 144 #[rv a b,rv c d] w fun x w'=>x=.returned (.tuple #[rv n m,.int .i64 e])/\Below w.heap.size w w':=by
 have H:Hid (Rt.sY a b c d=(n,m,e)):=h;clear h;by_cases r:Rt.fQ a b=true/\Rt.fQ c d=true
 ·obtain⟨r1,r2⟩:=r
  have hm:Rt.wV (a*c) (b*d)=(n,m,e):=by rw[<-H.out];unfold Rt.sY;rw[xQ ⟨r1,r2⟩]
  have HM:Hid (Rt.wV (a*c) (b*d)=(n,m,e)):=hm;have R1:Hid (Rt.fQ a b=true):=r1;have R2:Hid (Rt.fQ c d=true):=r2;clear hm r1 r2 H;go_enter func144,ntmps144;go_wp2_with fail;refine(fT a b c d n m e R1.out R2.out HM.out w.heap.size (w.heap.size+1) _ (by simp <;> omega) (by simp <;> omega) (by simp[go_sem]) (by simp[go_sem]) (by simp[go_sem]) (by simp[go_sem])).mono ?_;rintro e1 w1 ⟨rfl,hb1⟩;have G1:=bt (bal (bal (ba _ _) _) _) hb1;obtain⟨hc1,hf1⟩:=bcell hb1;go_wp2_with fail;exact yQ (v:=.tuple #[rv n m,.int .i64 e]) (by simp[results,results144,go_sem,hc1]) rfl ⟨rfl,bs (bs G1 (by simp;omega) _) (by simp;omega) _⟩
 ·have hr:(0,0,2)=(n,m,e):=by rw[<-H.out];unfold Rt.sY;rw[qQ r]
  simp only[cQ] at hr;obtain⟨rfl,rfl,rfl⟩:=hr
  have r':Rt.fQ a b=false\/(Rt.fQ a b=true/\Rt.fQ c d=false):=by
   cases h1:Rt.fQ a b <;> cases h2:Rt.fQ c d <;> simp_all
  have R:Hid (Rt.fQ a b=false\/(Rt.fQ a b=true/\Rt.fQ c d=false)):=r';clear r r' H;go_enter func144,ntmps144;go_wp2_with fail;refine(gT a b c d _ R.out _).mono ?_;rintro e1 w1 ⟨rfl,hb1⟩;have G1:=bt (bal (bal (ba _ _) _) _) hb1;obtain⟨hc1,hf1⟩:=bcell hb1;go_wp2_with fail;exact yQ (v:=.tuple #[rv 0 0,.int .i64 2]) (by simp[results,results144,go_sem,hc1]) rfl ⟨rfl,bs (bs G1 (by simp;omega) _) (by simp;omega) _⟩
theorem buJ (a b n:Int)(h:Rt.fQ a b=false)(w:World) :
  Calls prog 86 #[rv a b,.int .i64 n] w fun x w'=>x=.returned (.tuple #[rv 0 0,.int .i64 2])/\Below w.heap.size w w':=by
 have H:Hid (Rt.fQ a b=false):=h;clear h;go_enter func86,ntmps86;go_wp2_with fail;refine(vY a b false H.out _).mono ?_;rintro e1 w1 ⟨rfl,hb1⟩;have G1:=bt (bal (ba _ _) _) hb1;obtain⟨hc1,hf1⟩:=bcell hb1;go_wp2_with fail;exact yQ (v:=.tuple #[rv 0 0,.int .i64 2]) (by simp[results,results86,go_sem,hc1]) rfl ⟨rfl,bs (bs G1 (by simp) _) (by simp) _⟩
theorem bvQ (a b n:Int)(h:Rt.fQ a b=true)(hn:n<0\/4096<n)(w:World) :
  Calls prog 86 #[rv a b,.int .i64 n] w fun x w'=>x=.returned (.tuple #[rv 0 0,.int .i64 3])/\Below w.heap.size w w':=by
 have H:Hid (Rt.fQ a b=true):=h;clear h;have hn':n<0\/(¬ n<0/\4096<n):=by omega
 clear hn;rcases hn' with hn|⟨hn1,hn⟩
 all_goals
  go_enter func86,ntmps86;go_wp2_with fail;refine(vY a b true H.out _).mono ?_;rintro e1 w1 ⟨rfl,hb1⟩;have G1:=bt (bal (ba _ _) _) hb1;obtain⟨hc1,hf1⟩:=bcell hb1;go_wp2_with fail;exact yQ (v:=.tuple #[rv 0 0,.int .i64 3]) (by simp[results,results86,go_sem,hc1]) rfl ⟨rfl,bs (bs G1 (by simp) _) (by simp) _⟩
theorem bvX (x y n:Nat)(h:Rt.fQ x y=true)(hn:n<=4096)(p q e:Int)(hp:Rt.iH x y n=(p,q,e))(w:World) :
  Calls prog 86 #[rv x y,.int .i64 n] w fun x w'=>x=.returned (.tuple #[rv p q,.int .i64 e])/\Below w.heap.size w w':=by
 have H:Hid (Rt.fQ x y=true):=h;have HP:Hid (Rt.iH x y n=(p,q,e)):=hp;clear h hp;go_enter func86,ntmps86;go_wp2_with fail;refine(vY x y true H.out _).mono ?_;rintro e1 w1 ⟨rfl,hb1⟩;have G1:=bt (bal (ba _ _) _) hb1;obtain⟨hc1,hf1⟩:=bcell hb1;go_wp2_with fail;have hz1:w.heap.size<w1.heap.size:=by have:=hb1.size;simp at this;omega
 have hz1':w.heap.size+1<w1.heap.size:=by have:=hb1.size;simp at this;omega
 go_loopw [21] (fun c wr=>∃ i:Nat,i<=n/\c=.int .i64 (i:Int)/\x ^ i<=1073741824/\y ^ i<=1073741824/\Below w1.heap.size w1 wr/\w1.heap.size<wr.heap.size/\wr.cell? ⟨w1.heap.size,0,none⟩=some (.int .i64 ((x ^ i:Nat):Int))/\wr.cell? ⟨w1.heap.size,1,none⟩=some (.int .i64 ((y ^ i:Nat):Int))/\wr.frozen? ⟨w1.heap.size,0,none⟩=false/\wr.frozen? ⟨w1.heap.size,1,none⟩=false) (fun c _=>n - (intOf c).toNat)
 case atStart=>exact⟨0,by omega,rfl,by simp,by simp,ba _ _,by simp,by simp[go_sem],by simp[go_sem],by simp[go_sem],by simp[go_sem]⟩
 case round =>
  obtain⟨i,hi,rfl,hx,hy,hbr,hzr,hr0,hr1,hr2,hr3⟩:=hrel;have F1:=bt hb1 hbr;have k0:wr.cell? ⟨w.heap.size,0,none⟩=some (.int .i64 (x:Int)):=by rw[F1.cell (p:=⟨w.heap.size,0,none⟩) (by simp <;> omega)];simp[go_sem]
  have k1:wr.cell? ⟨w.heap.size,1,none⟩=some (.int .i64 (y:Int)):=by rw[F1.cell (p:=⟨w.heap.size,1,none⟩) (by simp <;> omega)];simp[go_sem]
  have HT:=Rt.bbX x y i H.out hx hy;generalize hX:x ^ i=X at *
  generalize hY:y ^ i=Y at *
  have HX:Hid (x ^ i=X):=hX;have HY:Hid (y ^ i=Y):=hY;clear hX hY;by_cases c0:i<n
  ·by_cases c1:x ^ (i+1)<=1073741824/\y ^ (i+1)<=1073741824
   ·rw[xQ c1] at HT
    have HT':Hid (Rt.sY (X:Int) (Y:Int) x y=(((x ^ (i+1):Nat):Int),((y ^ (i+1):Nat):Int),0)):=HT;clear HT;obtain⟨c1,c2⟩:=c1;generalize hX:x ^ (i+1)=X' at *
    generalize hY:y ^ (i+1)=Y' at *
    have HX':Hid (x ^ (i+1)=X'):=hX;have HY':Hid (y ^ (i+1)=Y'):=hY;clear hX hY;go_wp2_with fail;refine(oH X Y x y X' Y' 0 HT'.out _).mono ?_;rintro e2 w2 ⟨rfl,hb2⟩;obtain⟨hc2,hf2⟩:=bcell hb2;go_wp2_with fail;have hz2:=hb2.size;refine⟨⟨i+1,by omega,by go_num,by rw[HX'.out];exact c1,by rw[HY'.out];exact c2,?_,?_,?_,?_,?_,?_⟩,?_⟩
    ·exact((hbr.trans (hb2.mono (by omega))).setCell (vQ _) _).setCell (vQ _) _
    ·simp;omega
    ·rw[HX'.out];simp[go_sem,hc2,hzr,hr0]
    ·rw[HY'.out];simp[go_sem,hc2,hzr,hr1]
    ·simp[go_sem,hf2,hzr,hr2]
    ·simp[go_sem,hf2,hzr,hr3]
    ·simp[intOf];omega
   ·rw[qQ c1] at HT
    have HT':Hid (Rt.sY (X:Int) (Y:Int) x y=(0,0,4)):=HT;clear HT
    have hgt:1073741824<x ^ n\/1073741824<y ^ n:=by
     by_cases g:1073741824<x ^ (i+1)
     ·exact .inl (Rt.gE x (i+1) n (by omega) g)
     ·exact .inr (Rt.gE y (i+1) n (by omega) (by omega))
    have hp:=Rt.iE x y n H.out hn p q e HP.out
    have hp':0=p/\0=q/\4=e:=by
     rcases hp with⟨_,h1⟩|⟨h1,h2,_⟩
     ·exact h1
     ·omega
    clear hp hgt c1 HP;obtain⟨rfl,rfl,rfl⟩:=hp';have hb0:=bt G1 hbr;go_wp2_with fail;refine(oH X Y x y 0 0 4 HT'.out _).mono ?_;rintro e2 w2 ⟨rfl,hb2⟩;obtain⟨hc2,hf2⟩:=bcell hb2;have k4:w2.cell? ⟨w.heap.size+1,0,none⟩=some (.int .i64 0):=by rw[hc2 _ _ (by omega),F1.cell (p:=⟨w.heap.size+1,0,none⟩) (by simp)];simp[go_sem]
    have k5:w2.cell? ⟨w.heap.size+1,1,none⟩=some (.int .i64 0):=by rw[hc2 _ _ (by omega),F1.cell (p:=⟨w.heap.size+1,1,none⟩) (by simp)];simp[go_sem]
    have k6:w2.frozen? ⟨w.heap.size+1,0,none⟩=false:=by rw[hf2 _ _ (by omega),F1.frozen (p:=⟨w.heap.size+1,0,none⟩) (by simp)];simp[go_sem]
    have k7:w2.frozen? ⟨w.heap.size+1,1,none⟩=false:=by rw[hf2 _ _ (by omega),F1.frozen (p:=⟨w.heap.size+1,1,none⟩) (by simp)];simp[go_sem]
    have hne:¬ w1.heap.size=w.heap.size+1:=by omega
    have hne':¬ w.heap.size+1=w1.heap.size:=by omega
    go_wp2_with fail;exact yQ (v:=.tuple #[rv 0 0,.int .i64 4]) (by simp[results,results86,go_sem,k4,k5]) rfl ⟨rfl,bs (bs (bs (bs (bt hb0 hb2) (by simp;omega) _) (by simp;omega) _) (by simp) _) (by simp) _⟩
  ·have hin:i=n:=by omega
   subst hin;clear HT;have hp:=Rt.iE x y i H.out hn p q e HP.out;rw[HX.out,HY.out] at hp
   have hp':(X:Int)=p/\(Y:Int)=q/\0=e:=by
    rcases hp with⟨_,h1⟩|⟨h1,h2,h3⟩
    ·omega
    ·exact h3
   clear hp HP;obtain⟨rfl,rfl,rfl⟩:=hp';have hb0:=bt G1 hbr;have k4:wr.cell? ⟨w.heap.size+1,0,none⟩=some (.int .i64 0):=by rw[F1.cell (p:=⟨w.heap.size+1,0,none⟩) (by simp)];simp[go_sem]
   have k5:wr.cell? ⟨w.heap.size+1,1,none⟩=some (.int .i64 0):=by rw[F1.cell (p:=⟨w.heap.size+1,1,none⟩) (by simp)];simp[go_sem]
   have k6:wr.frozen? ⟨w.heap.size+1,0,none⟩=false:=by rw[F1.frozen (p:=⟨w.heap.size+1,0,none⟩) (by simp)];simp[go_sem]
   have k7:wr.frozen? ⟨w.heap.size+1,1,none⟩=false:=by rw[F1.frozen (p:=⟨w.heap.size+1,1,none⟩) (by simp)];simp[go_sem]
   go_wp2_with fail;exact yQ (v:=.tuple #[rv X Y,.int .i64 0]) (by simp[results,results86,go_sem,k4,k5]) rfl ⟨rfl,bs (bs hb0 (by simp) _) (by simp) _⟩
theorem bvZ (a b n p q e:Int)(h:Rt.iH a b n=(p,q,e))(w:World) :
  Calls prog 86 #[rv a b,.int .i64 n] w fun x w'=>x=.returned (.tuple #[rv p q,.int .i64 e])/\Below w.heap.size w w':=by
 cases r:Rt.fQ a b with
 | false =>
  unfold Rt.iH at h;rw[qQ (by simp[r])] at h;simp only[cQ] at h;obtain⟨rfl,rfl,rfl⟩:=h;exact buJ a b n r w
 | true =>
  by_cases hn:n<0\/4096<n
  ·unfold Rt.iH at h
   rw[xQ r,xQ hn] at h;simp only[cQ] at h;obtain⟨rfl,rfl,rfl⟩:=h;exact bvQ a b n r hn w
  ·obtain⟨a1,a2,b1,b2⟩:=Rt.nF r
   obtain⟨x,rfl⟩:=jG a1;obtain⟨y,rfl⟩:=jG (show 0<=b by omega);obtain⟨m,rfl⟩:=jG (show 0<=n by omega);exact bvX x y m r (by omega) p q e h w
theorem bvJ {a b:Int}(h:a=b):Ending.returned (.int .i64 a)=.returned (.int .i64 b):=by rw[h]
theorem fN (n lo hi:Int)(w:World) :
  Calls prog 80 #[.int .i64 n,.int .i64 lo,.int .i64 hi] w fun e w'=>e=.returned (.int .i64 (oU lo hi n))/\w' = w:=by
 go_enter func80,ntmps80;go_wp2
 all_goals
  go_ret;refine⟨bvJ ?_,rfl⟩;unfold oU
  first|omega|(split at * <;> omega)
theorem bwQ (x:Int)(n:Nat)(hn:n<=4096)(hx:1<=x)(h:x ^ n<=1073741824)(w:World) :
  Calls prog 182 #[.int .i64 x,.int .i64 (n:Int)] w fun e w'=>e=.returned (.int .i64 (x ^ n))/\w' = w:=by
 have H:Hid (x ^ n<=1073741824):=h;clear h;go_enter func182,ntmps182;go_wp2
 go_loop [5,7] (fun a c=>∃ i:Nat,i<=n/\a=.int .i64 (x ^ i)/\c=.int .i64 (i:Int)) (fun _ c=>n - (intOf c).toNat)
 case atStart=>exact⟨0,nQ _,by simp,rfl⟩
 case round =>
  obtain⟨i,hi,rfl,rfl⟩:=hrel;obtain⟨P,hP⟩:∃ P,x ^ i=P:=⟨_,rfl⟩;by_cases c:i<n
  ·have b1:=zL (bsZ hx (show i+1<=n from c)) H.out
   have b0:=gI hx (i+1);have HE:Hid (x ^ (i+1)=P*x):=by show x ^ (i+1)=P*x;rw[dL,hP]
   rw[HE.out] at b1 b0;rw[hP];clear hP H;go_wp2
   go_round
   case rel=>exact⟨i+1,c,by rw[HE.out],by go_num⟩
   case measure=>simp[intOf];omega
  ·have:i=n:=by omega
   subst this;go_wp2;go_ret;exact⟨rfl,rfl⟩
theorem bwX (u d:Int)(n:Nat)(hn:n<=4096)(hd:1<=d)(hu2:u<=1073741824)(hdu:d<=u)(r:Bool)(hn1:1<=n)(hr:decide (1073741824<(u+d)*u ^ n)=r)(w:World) :
  Calls prog 139 #[rv u d,.int .i64 (n:Int)] w fun e w'=>e=.returned (.bool r)/\Below w.heap.size w w':=by
 have hu:1<=u:=by omega
 have HR:Hid (decide (1073741824<(u+d)*u ^ n)=r):=hr;clear hr;have HB:=ba w (.cells #[.int .i64 u,.int .i64 d] 32);go_enter func139,ntmps139;go_wp2
 go_loop [5,12] (fun a c=>∃ i:Nat,i<=n/\a=.int .i64 ((u+d)*u ^ i)/\c=.int .i64 (i:Int)/\(i=0\/(u+d)*u ^ i<=1073741824)) (fun _ c=>n - (intOf c).toNat)
 case atStart=>exact⟨0,nQ _,by simp,rfl,.inl rfl⟩
 case round =>
  obtain⟨i,hi,rfl,rfl,hle⟩:=hrel;obtain⟨P,hP⟩:∃ P,(u+d)*u ^ i=P:=⟨_,rfl⟩;have hP0:0<=P:=by rw[<-hP];exact xI (by omega) (cT (by omega) _)
  have hP1:P<=2147483648:=by
   rcases hle with rfl|h
   ·rw[<-hP];simp;omega
   ·omega
  by_cases c:i<n
  ·have HE:Hid ((u+d)*u ^ (i+1)=P*u):=by show _=_;rw[dL,<-aK,hP]
   have b0:0<=P*u:=xI hP0 (by omega);have b1:P*u<=2147483648*1073741824:=bL hP1 hu2 (by omega) (by omega);rw[hP];clear hle hP;by_cases c2:1073741824<P*u
   ·have hr:r=true:=by
     rw[<-HR.out,decide_eq_true_iff];obtain⟨k,hk⟩:=Nat.le.dest (show i+1<=n from c);rw[<-hk,Int.pow_add,<-aK,HE.out];have h1:=gI hu k;have h2:=Int.mul_le_mul_of_nonneg_left h1 b0;omega
    subst hr;clear HE HR;go_wp2;go_ret;exact⟨rfl,HB⟩
   ·have c3:P*u<=1073741824:=by omega
    go_wp2
    go_round
    case rel=>exact⟨i+1,c,by rw[HE.out],by go_num,.inr (by rw[HE.out];exact c3)⟩
    case measure=>simp[intOf];omega
  ·have:i=n:=by omega
   subst this
   have hr:r=false:=by
    rw[<-HR.out,decide_eq_false_iff_not];rcases hle with rfl|h <;> omega
   subst hr;clear HR hle hP hP0 hP1;go_wp2;go_ret;exact⟨rfl,HB⟩
theorem i6 (u d er:Int)(h:lD u d=er)(w:World) :
  Calls prog 85 #[rv u d] w fun e w'=>e=.returned (.int .i64 er)/\Below w.heap.size w w':=by
 obtain⟨b,hb⟩:∃ b,Rt.fQ u d=b:=⟨_,rfl⟩;rw[lD,hb] at h;have HB:=ba w (.cells #[.int .i64 u,.int .i64 d] 32);have kc:=vY u d b hb (w.alloc (.cells #[.int .i64 u,.int .i64 d] 32));clear hb;cases b with
 | false =>
  simp at h;subst h;go_enter func85,ntmps85;go_wp2_with fail;refine kc.mono ?_;rintro e w1 ⟨rfl,hb1⟩;have G1:=bt HB hb1;go_wp2;go_ret;exact⟨rfl,G1⟩
 | true =>
  simp at h;by_cases c:u<d
  ·rw[xQ c] at h
   subst h;go_enter func85,ntmps85;go_wp2_with fail;refine kc.mono ?_;rintro e w1 ⟨rfl,hb1⟩;have G1:=bt HB hb1;obtain⟨hc1,hf1⟩:=bcell hb1;go_wp2;go_ret;exact⟨rfl,G1⟩
  ·rw[qQ c] at h
   subst h;go_enter func85,ntmps85;go_wp2_with fail;refine kc.mono ?_;rintro e w1 ⟨rfl,hb1⟩;have G1:=bt HB hb1;obtain⟨hc1,hf1⟩:=bcell hb1;go_wp2;go_ret;exact⟨rfl,G1⟩
theorem bwZ (u d n p q er:Int)(h:mD u d n=(p,q,er))(w:World) :
  Calls prog 42 #[rv u d,.int .i64 n] w fun e w'=>e=.returned (.tuple #[rv p q,.int .i64 er])/\Below w.heap.size w w':=by
 obtain⟨e0,he0⟩:∃ e0,lD u d=e0:=⟨_,rfl⟩;rw[mD,he0] at h;have kc:=i6 u d e0 he0;by_cases c:e0=0
 ·subst c
  simp at h;have kp:=bvZ u d n p q er h;clear h he0;go_enter func42,ntmps42;go_wp2_with fail;refine(kc _).mono ?_;rintro e w1 ⟨rfl,hb1⟩;have G1:=bt (bal (ba _ _) _) hb1;obtain⟨hc1,hf1⟩:=bcell hb1;go_wp2_with fail;refine(kp _).mono ?_;rintro e w2 ⟨rfl,hb2⟩;have G2:=bt G1 hb2;obtain⟨hc2,hf2⟩:=bcell hb2;have hz1:w.heap.size+1<w1.heap.size:=by have:=hb1.size;simp at this;omega
  go_wp2_with fail;exact yQ (v:=.tuple #[rv p q,.int .i64 er]) (by simp[results,results42,go_sem,hc1,hc2,hz1]) rfl ⟨rfl,bs (bs G2 (by simp) _) (by simp) _⟩
 ·simp only[ne_eq,c,not_false_eq_true,zD,cQ] at h
  obtain⟨rfl,rfl,rfl⟩:=h;have c1:(e0 == 0)=false:=by simpa using c
  have c2:(e0 != 0)=true:=by simpa using c
  go_enter func42,ntmps42;go_wp2_with fail;refine(kc _).mono ?_;rintro e w1 ⟨rfl,hb1⟩;have G1:=bt (bal (ba _ _) _) hb1;obtain⟨hc1,hf1⟩:=bcell hb1;go_wp2_with fail;exact yQ (v:=.tuple #[rv 0 0,.int .i64 e0]) (by simp[results,results42,go_sem,hc1]) rfl ⟨rfl,bs (bs G1 (by simp) _) (by simp) _⟩
def tY (x m:Int):Int:=x ^ m.toNat
theorem bwJ (x m:Int)(h0:0<=m)(hn:m<=4096)(hx:1<=x)(h:tY x m<=1073741824)(w:World) :
  Calls prog 182 #[.int .i64 x,.int .i64 m] w fun e w'=>e=.returned (.int .i64 (tY x m))/\w' = w:=by
 obtain⟨n,rfl⟩:=jG h0;exact bwQ x n (by omega) hx h w
theorem iT {u d lo:Int}{R a i:Nat}(h:i<=R):(lG u d lo R a).take (i+1)=(lG u d lo R a).take i++[([lo+(i:Int)],hwt u d R a i)]:=by
 rw[kZ];congr 1;have h1:i<R+1:=by omega
 simp[lG,h1]
theorem bxQ {u d lo:Int}{R a i:Nat}(h:R+1<=i):(lG u d lo R a).take i=lG u d lo R a:=fV (by simp[lG];omega)
theorem l6 (W:World)(z:Int)(nb:Nat)(hn:nb≠W.heap.size):zQ (W.alloc (.cells #[.int .i64 z] 3)) (W.heap.size+1) nb (.slice (some ⟨W.heap.size,0,none⟩) 1 1) [z]:=by
 refine⟨_,1,rfl,vQ _,by simp,fun _=>⟨W.heap.size,0,rfl,by omega,fun e=>hn e.symm,fun i x hi=>?_⟩⟩
 match i,hi with
 | 0,hi=>simp at hi;subst hi;simp[go_sem]
theorem bxX {v:Value}{n:Nat}(h:∀ g,v.ownBlock=some g->g<n)(hn:0<n):∃ k,k<n/\∀ g,v.ownBlock=some g->k=g:=by
 cases e:v.ownBlock with
 | none=>exact⟨0,hn,fun g e=>by cases e⟩
 | some g=>exact⟨g,h g e,fun g' e=>by simpa using e⟩
theorem bxZ (u d lo:Int)(R a:Nat)(hR1:1<=R)(hR:R<=64)(ha:a<=R)(hd:1<=d)(hdu:d<=u)(hu:u<=1073741824)(hm:(u+d)*u ^ R<=1073741824)(hlo:-1073741824<=lo)(hhi:lo+(R:Int)<=1073741824)(l:List Pt)(er:Int)(hr:gV (lG u d lo R a)=(l,er))(w:World) :
  Calls prog 140 #[rv u d,.int .i64 lo,.int .i64 (lo+(R:Int)),.int .i64 (lo+(a:Int))] w fun e w'=>∃ v' us,e=.returned (.tuple #[v',.int .i64 er])/\rd us=l/\cJ w' w.heap.size v' us/\Below w.heap.size w w'/\nX w.heap.size us:=by
 have HM:Hid ((u+d)*u ^ R<=1073741824):=hm;have HR:Hid (gV (lG u d lo R a)=(l,er)):=hr;obtain⟨i0,hi0,hz0,hz1,hz2⟩:=oY cN;clear hm hr;obtain⟨w0,hw0⟩:∃ w0,w.alloc (.cells #[.int .i64 u,.int .i64 d] 32)=w0:=⟨_,rfl⟩;have hb0:Below w.heap.size w w0:=hw0▸ba w _;have hs0:w.heap.size<w0.heap.size:=by rw[<-hw0];simp
 have p1:w0.cell? ⟨w.heap.size,0,none⟩=some (.int .i64 u):=by rw[<-hw0];simp[go_sem]
 have p2:w0.cell? ⟨w.heap.size,1,none⟩=some (.int .i64 d):=by rw[<-hw0];simp[go_sem]
 go_enter func140,ntmps140;go_wp2_with fail;clear hw0
 go_loopw [10,11] (fun pv zv wr=>∃ (i:Nat) (ds:List Tr),zv=.int .i64 (lo+(i:Int))/\i<=R+1/\Hid (rd ds=(lG u d lo R a).take i/\ds.length=i)/\Hid (iQ wr w0.heap.size pv ds)/\Below w0.heap.size w0 wr) (fun _ zv _=>((lo+(R:Int)+1) - intOf zv).toNat)
 case atStart=>exact⟨0,[],by simp,nQ _,⟨by simp[rd],rfl⟩,iQ.nil _ _,aQ _ _⟩
 case round =>
  obtain⟨i,ds,rfl,hit,HD,HW,hbl⟩:=hrel;have hbs:=hbl.size;have hpl:=HW.out.lt;obtain⟨pa,pc,rfl⟩:=HW.out.slice;have HDL:Hid (ds.length<=65):=by have:=HD.out.2;show ds.length<=65;omega
  by_cases h1:i<=R
  ·obtain⟨M,hM⟩:∃ M,max (lo+(i:Int) - (lo+(a:Int))) (lo+(a:Int) - (lo+(i:Int)))=M:=⟨_,rfl⟩
   have hM0:0<=M:=by omega
   have hMR:M<=(R:Int):=by omega
   have HG:Hid (gk u d R (i - a+(a - i))=tY d M*tY u (lo+(R:Int) - lo - M)):=by
    show _=_
    unfold gk tY;rw[show M.toNat=i - a+(a - i) by omega,show(lo+(R:Int) - lo - M).toNat=R - (i - a+(a - i)) by omega]
   have hP1:1<=tY d M:=gI hd _;have hS1:1<=tY u (lo+(R:Int) - lo - M):=gI (by omega) _
   have hPS1:tY d M*tY u (lo+(R:Int) - lo - M)<=1073741824:=by
    have b1:=buQ hd hdu (R:=R) (k:=0) (s:=i - a+(a - i)) (by omega);rw[jZ,HG.out,btQ] at b1;have b2:=gI (show 1<=u by omega) R;have b3:=iR (show 1<=u+d by omega) (show 0<=u ^ R by omega);have:=HM.out;omega
   have hPS0:0<=tY d M*tY u (lo+(R:Int) - lo - M):=xI (by omega) (by omega)
   have hPb:tY d M<=1073741824:=by
    have:=Int.mul_le_mul_of_nonneg_left hS1 (show 0<=tY d M by omega);omega
   have hSb:tY u (lo+(R:Int) - lo - M)<=1073741824:=by
    have:=iR hP1 (show 0<=tY u (lo+(R:Int) - lo - M) by omega);omega
   have c1:wr.cell? ⟨w.heap.size,0,none⟩=some (.int .i64 u):=(hbl.cell (p:=⟨w.heap.size,0,none⟩) (by show w.heap.size<_;omega)).trans p1;have c2:wr.cell? ⟨w.heap.size,1,none⟩=some (.int .i64 d):=(hbl.cell (p:=⟨w.heap.size,1,none⟩) (by show w.heap.size<_;omega)).trans p2;clear HM HR;have wE:IntKind.i64.wrap (lo+(R:Int) - lo)=lo+(R:Int) - lo:=by rw[bJ];omega
   have wF:IntKind.i64.wrap (lo+(R:Int) - lo - M)=lo+(R:Int) - lo - M:=by rw[bJ];omega
   have wP:IntKind.i64.wrap (tY d M*tY u (lo+(R:Int) - lo - M))=tY d M*tY u (lo+(R:Int) - lo - M):=by rw[bJ];omega
   go_wp2_with fail;clear hM
   go_region_held3 (fun w'=>w'.cell? ⟨w.heap.size,0,none⟩=some (.int .i64 u)/\w'.cell? ⟨w.heap.size,1,none⟩=some (.int .i64 d))
    ((go_split_ands;refine⟨?_,?_⟩ <;> first|assumption|(simp[go_sem, *];done)))
    ((go_at_call 182;refine(bwJ _ _ ?_ ?_ ?_ ?_ _).mono ?_;(omega);(omega);(omega);(assumption);rintro x1 w1 ⟨rfl,rfl⟩))
   obtain⟨X,hX⟩:∃ X,tY d M*tY u (lo+(R:Int) - lo - M)=X:=⟨_,rfl⟩;obtain⟨W,hW⟩:∃ W,wr.drew=W:=⟨_,rfl⟩;have HBr:Hid (Below wr.heap.size wr W):=hW▸(aQ _ _).drew;have hWs:wr.heap.size<=W.heap.size:=HBr.out.size;rw[hX] at HG hPS1 hPS0 ⊢;rw[hW];have HBd:Hid (Below w0.heap.size w0 W):=bt hbl HBr.out;have HWd:Hid (iQ W w0.heap.size (.slice pa ds.length pc) ds):=HW.out.keep HBr.out;have d1:W.cell? ⟨w.heap.size,0,none⟩=some (.int .i64 u):=(HBr.out.cell (p:=⟨w.heap.size,0,none⟩) (by show w.heap.size<_;omega)).trans c1;have d2:W.cell? ⟨w.heap.size,1,none⟩=some (.int .i64 d):=(HBr.out.cell (p:=⟨w.heap.size,1,none⟩) (by show w.heap.size<_;omega)).trans c2;obtain⟨mo,hmo,hmg⟩:=bxX (n:=W.heap.size) (fun g e=>by have:=(hpl g e).2;omega) (by omega);have HMG:Hid (∀ g,(Value.slice pa ds.length pc).ownBlock=some g->mo=g):=hmg
   have HI:Hid (zQ (W.alloc (.cells #[.int .i64 (lo+(i:Int))] 3)) (W.alloc (.cells #[.int .i64 (lo+(i:Int))] 3)).heap.size mo (.slice (some ⟨W.heap.size,0,none⟩) 1 1) [lo+(i:Int)]):=by
    have:=l6 W (lo+(i:Int)) mo (by omega);rw[Hid,show(W.alloc (.cells #[.int .i64 (lo+(i:Int))] 3)).heap.size=W.heap.size+1 by simp];exact this
   have b1:0<=X*u:=xI hPS0 (by omega);have b2:X*u<=1073741824*1073741824:=bL hPS1 hu (by omega) (by omega);have b3:0<=X*(u - d):=xI hPS0 (by omega);have b4:X*(u - d)<=1073741824*1073741824:=bL hPS1 (by omega) (by omega) (by omega);clear hX hW HW wE wF wP hP1 hS1 hPb hSb hpl hmg c1 c2 hM0 hMR;by_cases e1:i=0
   ·have y1:(lo+(i:Int) == lo)=true:=by simp;omega
    have E1:Hid (i=0):=e1;clear e1;have HO:Hid (iQ ((W.alloc (.cells #[.int .i64 (lo+(i:Int))] 3)).alloc (.cells #[.slice (some ⟨W.heap.size,0,none⟩) 1 1,.int .i64 (X*u)] 77)) w0.heap.size (.slice pa ds.length pc) ds):=HWd.out.keep (bal (ba _ _) _);go_wp2_with (at_builtin;refine wC _ rfl _ _ 60 rfl w0.heap.size 77 i0 (.agg #[.slice none 0 0,.int .i64 0]) 2 32 underlying60 hi0 hz0 hz1 hz2 rfl (by decide) _ _ _ rfl HO.out.1 ⟨W.heap.size+1,0,none⟩ 1 1 [.slice (some ⟨W.heap.size,0,none⟩) 1 1,.int .i64 (X*u)] rfl ?q1 ?q2 ?q3 ?q4 ?q5 ?q6 ?_)
    case q1=>rfl
    case q2 =>
     intro j u hj
     match j,hj with
     | 0,hj=>simp at hj;subst hj;simp[go_sem,Addr.add]
     | 1,hj=>simp at hj;subst hj;simp[go_sem,Addr.add]
    case q3=>intro u hu;simp at hu;rcases hu with rfl|rfl <;> rfl
    case q4=>have:=HDL.out;simp[maxLen];omega
    case q5=>have:=HDL.out;omega
    case q6=>simp;omega
    intro v3 w3 hown3 hgrow hnil hat;have HW3:Hid (iQ w3 w0.heap.size v3 (ds++[(.slice (some ⟨W.heap.size,0,none⟩) 1 1,[lo+(i:Int)],X*u)])):=HO.out.app hown3 hgrow (by simpa using hat) (HI.out.at2 (ba _ _)) HMG.out;have hb3:Below w0.heap.size w0 w3:=(bal (bal HBd.out _) _).grown hgrow (by simp;omega) (zP HO.out.1);obtain⟨a3,c3,rfl⟩:=HW3.out.slice
    have HD3:Hid (rd (ds++[((.slice (some ⟨W.heap.size,0,none⟩) 1 1,[lo+(i:Int)],X*u):Tr)])=(lG u d lo R a).take (i+1)/\(ds++[((.slice (some ⟨W.heap.size,0,none⟩) 1 1,[lo+(i:Int)],X*u):Tr)]).length=i+1):=by
     refine⟨?_,by simp[HD.out.2]⟩;rw[iT h1,<-HD.out.1];simp only[rd,uG,qI,List.map_nil];rw[hwt,HG.out,xQ (.inl E1.out)]
    clear hown3 hgrow hnil hat HO;go_wp2
    go_roundw
    case rel=>exact⟨i+1,_,by go_num,by omega,HD3,HW3,hb3⟩
    case measure=>simp[intOf];omega
   ·by_cases e2:i=R
    ·have y1:(lo+(i:Int) == lo)=false:=by simp;omega
     have y2:(lo+(i:Int) == lo+(R:Int))=true:=by simp;omega
     have E2:Hid (i=R):=e2;clear e2;have HO:Hid (iQ ((W.alloc (.cells #[.int .i64 (lo+(i:Int))] 3)).alloc (.cells #[.slice (some ⟨W.heap.size,0,none⟩) 1 1,.int .i64 (X*u)] 77)) w0.heap.size (.slice pa ds.length pc) ds):=HWd.out.keep (bal (ba _ _) _);go_wp2_with (at_builtin;refine wC _ rfl _ _ 60 rfl w0.heap.size 77 i0 (.agg #[.slice none 0 0,.int .i64 0]) 2 32 underlying60 hi0 hz0 hz1 hz2 rfl (by decide) _ _ _ rfl HO.out.1 ⟨W.heap.size+1,0,none⟩ 1 1 [.slice (some ⟨W.heap.size,0,none⟩) 1 1,.int .i64 (X*u)] rfl ?q1 ?q2 ?q3 ?q4 ?q5 ?q6 ?_)
     case q1=>rfl
     case q2 =>
      intro j u hj
      match j,hj with
      | 0,hj=>simp at hj;subst hj;simp[go_sem,Addr.add]
      | 1,hj=>simp at hj;subst hj;simp[go_sem,Addr.add]
     case q3=>intro u hu;simp at hu;rcases hu with rfl|rfl <;> rfl
     case q4=>have:=HDL.out;simp[maxLen];omega
     case q5=>have:=HDL.out;omega
     case q6=>simp;omega
     intro v3 w3 hown3 hgrow hnil hat;have HW3:Hid (iQ w3 w0.heap.size v3 (ds++[(.slice (some ⟨W.heap.size,0,none⟩) 1 1,[lo+(i:Int)],X*u)])):=HO.out.app hown3 hgrow (by simpa using hat) (HI.out.at2 (ba _ _)) HMG.out;have hb3:Below w0.heap.size w0 w3:=(bal (bal HBd.out _) _).grown hgrow (by simp;omega) (zP HO.out.1);obtain⟨a3,c3,rfl⟩:=HW3.out.slice
     have HD3:Hid (rd (ds++[((.slice (some ⟨W.heap.size,0,none⟩) 1 1,[lo+(i:Int)],X*u):Tr)])=(lG u d lo R a).take (i+1)/\(ds++[((.slice (some ⟨W.heap.size,0,none⟩) 1 1,[lo+(i:Int)],X*u):Tr)]).length=i+1):=by
      refine⟨?_,by simp[HD.out.2]⟩;rw[iT h1,<-HD.out.1];simp only[rd,uG,qI,List.map_nil];rw[hwt,HG.out,xQ (.inr E2.out)]
     clear hown3 hgrow hnil hat HO;go_wp2
     go_roundw
     case rel=>exact⟨i+1,_,by go_num,by omega,HD3,HW3,hb3⟩
     case measure=>simp[intOf];omega
    ·have y1:(lo+(i:Int) == lo)=false:=by simp;omega
     have y2:(lo+(i:Int) == lo+(R:Int))=false:=by simp;omega
     have HO:Hid (iQ ((W.alloc (.cells #[.int .i64 (lo+(i:Int))] 3)).alloc (.cells #[.slice (some ⟨W.heap.size,0,none⟩) 1 1,.int .i64 (X*(u - d))] 77)) w0.heap.size (.slice pa ds.length pc) ds):=HWd.out.keep (bal (ba _ _) _);go_wp2_with (at_builtin;refine wC _ rfl _ _ 60 rfl w0.heap.size 77 i0 (.agg #[.slice none 0 0,.int .i64 0]) 2 32 underlying60 hi0 hz0 hz1 hz2 rfl (by decide) _ _ _ rfl HO.out.1 ⟨W.heap.size+1,0,none⟩ 1 1 [.slice (some ⟨W.heap.size,0,none⟩) 1 1,.int .i64 (X*(u - d))] rfl ?q1 ?q2 ?q3 ?q4 ?q5 ?q6 ?_)
     case q1=>rfl
     case q2 =>
      intro j u hj
      match j,hj with
      | 0,hj=>simp at hj;subst hj;simp[go_sem,Addr.add]
      | 1,hj=>simp at hj;subst hj;simp[go_sem,Addr.add]
     case q3=>intro u hu;simp at hu;rcases hu with rfl|rfl <;> rfl
     case q4=>have:=HDL.out;simp[maxLen];omega
     case q5=>have:=HDL.out;omega
     case q6=>simp;omega
     intro v3 w3 hown3 hgrow hnil hat;have HW3:Hid (iQ w3 w0.heap.size v3 (ds++[(.slice (some ⟨W.heap.size,0,none⟩) 1 1,[lo+(i:Int)],X*(u - d))])):=HO.out.app hown3 hgrow (by simpa using hat) (HI.out.at2 (ba _ _)) HMG.out;have hb3:Below w0.heap.size w0 w3:=(bal (bal HBd.out _) _).grown hgrow (by simp;omega) (zP HO.out.1);obtain⟨a3,c3,rfl⟩:=HW3.out.slice
     have HD3:Hid (rd (ds++[((.slice (some ⟨W.heap.size,0,none⟩) 1 1,[lo+(i:Int)],X*(u - d)):Tr)])=(lG u d lo R a).take (i+1)/\(ds++[((.slice (some ⟨W.heap.size,0,none⟩) 1 1,[lo+(i:Int)],X*(u - d)):Tr)]).length=i+1):=by
      refine⟨?_,by simp[HD.out.2]⟩;rw[iT h1,<-HD.out.1];simp only[rd,uG,qI,List.map_nil];rw[hwt,HG.out,qQ (by omega)]
     clear hown3 hgrow hnil hat HO;go_wp2
     go_roundw
     case rel=>exact⟨i+1,_,by go_num,by omega,HD3,HW3,hb3⟩
     case measure=>simp[intOf];omega
  ·have HF:Hid (rd ds=lG u d lo R a):=by rw[Hid,HD.out.1,bxQ (by omega)]
   have HP2:Hid (xX wr wr.heap.size (.slice pa ds.length pc) ds):=HW.out.parts (by have:=HDL.out;omega);have kc:=vT wr.heap.size (.slice pa ds.length pc) ds wr (vQ _) HP2.out l er (by rw[HF.out];exact HR.out);clear HW HD hpl HF HM HR;go_wp2_with fail;refine kc.mono ?_;rintro e w5 ⟨v5,xs,rfl,k1,k2,k3,k4⟩;obtain⟨b5,d5,rfl⟩:=k2.slice;clear kc;have K4:Hid (nX w.heap.size xs):=k4.mono (by omega);have K2:Hid (cJ w5 w.heap.size (.slice b5 xs.length d5) xs):=k2.mono (by omega);have K3:Hid (Below w.heap.size w w5):=hb0.trans ((bt hbl k3).mono hb0.size);have K1:Hid (rd xs=l):=k1;clear k1 k2 k3 k4;go_wp2;exact yQ (v:=.tuple #[.slice b5 xs.length d5,.int .i64 er]) (by simp[results,results140,go_sem]) rfl ⟨_,xs,rfl,K1.out,K2.out,K3.out,K4.out⟩
