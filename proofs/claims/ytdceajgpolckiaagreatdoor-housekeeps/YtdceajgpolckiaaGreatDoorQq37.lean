import Derived.Test.YtdceajgpolckiaaGreatDoorQq36
import Derived.Laws.AppendOwnNone
open Go.Proofs.Tryz
set_option linter.unusedSimpArgs false
set_option maxHeartbeats 16000000
set_option maxRecDepth 100000
namespace Go.Proofs.YtdceajgpolckiaaGreatDoor
section
open Go.RowKit Ds
open K (Cl)
open K.P (HSt Keeps oQ eX rJ kX HouK DskM xG xZ dQ Ev Sn dA zZ TwoB)
theorem jO {X:World}{E:Nat}{a0 a1 a2 a3:Value}(hX:Bx X E [a0,a1,a2,a3])(u0 u1 u2 u3:Value):Bx ((((X.setCell ⟨E,0,none⟩ u0).setCell ⟨E,1,none⟩ u1).setCell ⟨E,2,none⟩ u2).setCell ⟨E,3,none⟩ u3) E [u0,u1,u2,u3]/\Keeps X ((((X.setCell ⟨E,0,none⟩ u0).setCell ⟨E,1,none⟩ u1).setCell ⟨E,2,none⟩ u2).setCell ⟨E,3,none⟩ u3) (fun k=>k=E):=by
 refine⟨(((hX.set (i:=0) (by simp) u0).set (i:=1) (by simp) u1).set (i:=2) (by simp) u2).set (i:=3) (by simp) u3,?_⟩;have k0:Keeps X (X.setCell ⟨E,0,none⟩ u0) (fun k=>k=E):=eX (rJ _ (fun k=>k=E)) (p:=⟨E,0,none⟩) (.inl rfl) _;have k1:=eX k0 (p:=⟨E,1,none⟩) (.inl rfl) u1;have k2:=eX k1 (p:=⟨E,2,none⟩) (.inl rfl) u2;exact eX k2 (p:=⟨E,3,none⟩) (.inl rfl) u3
theorem aH {X:World}{E:Nat}{a0 a1 a2 a3:Value}(hX:Bx X E [a0,a1,a2,a3]):(X.cell? ⟨E,0,none⟩=some a0/\X.cell? ⟨E,1,none⟩=some a1/\X.cell? ⟨E,2,none⟩=some a2/\X.cell? ⟨E,3,none⟩=some a3)/\X.frozen? ⟨E,0,none⟩=false/\X.frozen? ⟨E,1,none⟩=false/\X.frozen? ⟨E,2,none⟩=false/\X.frozen? ⟨E,3,none⟩=false :=
 ⟨⟨(hX 0 _ rfl).c,(hX 1 _ rfl).c,(hX 2 _ rfl).c,(hX 3 _ rfl).c⟩,(hX 0 _ rfl).f,(hX 1 _ rfl).f,(hX 2 _ rfl).f,(hX 3 _ rfl).f⟩
theorem aC {w w':World}{g:Nat}{xs:List Int}{N:Nat->Prop}(h:K.RowI w g xs)(hk:Keeps w w' N)(hn:¬ N g):K.RowI w' g xs :=
 have e:=hk.block g h.lt hn
 ⟨fun i x hi=>(mZ (w:=w) (a:=⟨g,i,none⟩) e).trans (h.cells i x hi),fun i hi=>(zV (w:=w) (a:=⟨g,i,none⟩) e).trans (h.thaw i hi),qX h.lt hk.size⟩
theorem dwQ (M:Nat->Prop)(bh bd bw B nb:Nat)(a:Option Addr)(c:Nat)(l:List K.Ds.jQ)(ts:List (List Int))(disk:List Int)(left:Int)(done:List K.P.En)(pn:ByteArray)(v0 v1 v2 v3 v4 v5:Value)(xa:Option Addr)(xc:Nat)(bits:List Int)(q:K.Ds.Qu)(u d lo hi:Int)(w:World)
  (hh:kX w M bh bd l ts done) (hd:DskM w bd bw a c disk left) (hM:¬ M bd/\¬ M bw) (hMw:∀ k,M k->B<=k/\k<w.heap.size) (hbB:B<=bd/\B<=bw) (hbw:bw<w.heap.size) (hl:-9223372036854775808<=left/\left<=9223372036854775807) (hs:pn.size<=9223372036854775807) (hB:B<=w.heap.size) (hq:K.Qm w B q v0 v1 v2 v3 v4 v5) (hbi:qY w B nb (.slice xa bits.length xc) bits) (hnil:xa=none->xc=0) (hlo:aX lo) (hhi:aX hi)
  (nm0:ByteArray) (sz0:Int) (hl0:l[0]? = some (nm0,sz0)) (z ez:Int) (hz:K.cA (K.prt l q nm0)=(z,ez)) (ls:List (List Pt)) (lu ld e1:Int) (hA:fU u d lo hi l ts q=(ls,lu,ld,e1)) (s':HSt) (er:Int) (t2:Option (List Int × Nat))
  (hst:dQ 0 ⟨disk,left,true,false,done⟩ (.ask (gD e1 bits) (zZ pn z ez lu ld) (oJ ls bits 0 []))=(s',⟨er,t2,[]⟩)) :
  Calls prog 27 #[.pointer (some ⟨bh,0,none⟩),dA pn v0 v1 v2 v3 v4 v5 u d lo hi (.slice xa bits.length xc)] w (rI M bh bd bw a c l ts s' er (oJ ls bits 0 []) lu ld w):=by
 have HH:Hid (kX w M bh bd l ts done):=hh;have HD:Hid (DskM w bd bw a c disk left):=hd;have HM:Hid (¬ M bd/\¬ M bw):=hM;have HMW:Hid (∀ k,M k->B<=k/\k<w.heap.size):=hMw;have HbB:Hid (B<=bd/\B<=bw):=hbB;have HLI:Hid (-9223372036854775808<=left/\left<=9223372036854775807):=hl;have HQ:Hid (K.Qm w B q v0 v1 v2 v3 v4 v5):=hq;have HBI:Hid (qY w B nb (.slice xa bits.length xc) bits):=hbi;have HNL:Hid (xa=none->xc=0):=hnil;have HL0:Hid (l[0]? = some (nm0,sz0)):=hl0;have HZ:Hid (K.cA (K.prt l q nm0)=(z,ez)):=hz;have HA:Hid (fU u d lo hi l ts q=(ls,lu,ld,e1)):=hA;have HST:Hid (dQ 0 ⟨disk,left,true,false,done⟩ (.ask (gD e1 bits) (zZ pn z ez lu ld) (oJ ls bits 0 []))=(s',⟨er,t2,[]⟩)):=hst;have hbd:bd<w.heap.size:=hd.c0.lt;obtain⟨cv,rv,bk,bm,n,v,D,h,BB,N,k⟩:=hh;obtain⟨kk,kc,kl,kh,ka,kn,kd,kb,km,kp,rfl,rfl,rfl,rfl,rfl,rfl⟩:=hq.shape;obtain⟨W,hW⟩:∃ W,(w.alloc (.cells #[.string pn,.int .i64 kk,.string kc,.int .i64 kl,.int .i64 kh,.slice ka kn kd,.slice kb km kp,.int .i64 u,.int .i64 d,.int .i64 lo,.int .i64 hi,.slice xa bits.length xc] 39)).alloc (.cells #[.slice none 0 0,.int .i64 0,.int .i64 0,.int .i64 0] 49)=W:=⟨_,rfl⟩;have hbW:Below w.heap.size w W:=hW▸bal (ba _ _) _;have hWs:w.heap.size+2<=W.heap.size:=by rw[<-hW];simp
 have hbh:bh<w.heap.size:=k.hc.c0.lt
 have hK:AkC W w.heap.size bh pn (.int .i64 kk) (.string kc) (.int .i64 kl) (.int .i64 kh) (.slice ka kn kd) (.slice kb km kp) (.slice xa bits.length xc) u d lo hi cv rv :=
  ⟨hW▸(Bx.new w [.string pn,.int .i64 kk,.string kc,.int .i64 kl,.int .i64 kh,.slice ka kn kd,.slice kb km kp,.int .i64 u,.int .i64 d,.int .i64 lo,.int .i64 hi,.slice xa bits.length xc] 39 rfl).at (ba _ _),k.hc.c0.at hbW,k.hc.c1.at hbW⟩
 have hRB:Bx W (w.heap.size+1) [.slice none 0 0,.int .i64 0,.int .i64 0,.int .i64 0]:=hW▸Bx.new _ [.slice none 0 0,.int .i64 0,.int .i64 0,.int .i64 0] 49 (by simp);have HRB:Hid (Bx W (w.heap.size+1) [.slice none 0 0,.int .i64 0,.int .i64 0,.int .i64 0]):=hRB;have m5:=(k.hc.c5.at hbW).c
 obtain⟨⟨cx,cy,rfl⟩,⟨rx,ry,rz,rfl⟩⟩:(∃ a c,cv=.slice a l.length c)/\(∃ a n c,rv=.slice a n c):=by
  obtain⟨rs',_,h⟩:=k.tb;obtain⟨⟨a,c,h1,_⟩,⟨a2,c2,h2,_⟩⟩:=h w ⟨k.hB.2,fun _ _ _=>rfl⟩;exact⟨⟨a,c,h1⟩,⟨a2,_,c2,h2⟩⟩
 have kA:∀ X,Below W.heap.size W X->AkC X w.heap.size bh pn (.int .i64 kk) (.string kc) (.int .i64 kl) (.int .i64 kh) (.slice ka kn kd) (.slice kb km kp) (.slice xa bits.length xc) u d lo hi (.slice cx l.length cy) (.slice rx ry rz)->Calls prog 19 #[.agg #[.int .i64 u,.int .i64 d],.int .i64 lo,.int .i64 hi,.agg #[.slice cx l.length cy,.slice rx ry rz],.agg #[.int .i64 kk,.string kc,.int .i64 kl,.int .i64 kh,.slice ka kn kd,.slice kb km kp]] X fun e w'=>∃ pa pc zs,e=.returned (.tuple #[.slice pa (zs:List Dz).length pc,.agg #[.int .i64 lu,.int .i64 ld],.int .i64 e1])/\(rds zs=ls/\mJ w' X.heap.size (.slice pa zs.length pc) zs/\zs.length<=4096/\Below W.heap.size W w')/\Below X.heap.size X w'/\AkC w' w.heap.size bh pn (.int .i64 kk) (.string kc) (.int .i64 kl) (.int .i64 kh) (.slice ka kn kd) (.slice kb km kp) (.slice xa bits.length xc) u d lo hi (.slice cx l.length cy) (.slice rx ry rz):=fun X hX hC=>by
  have bX:Below w.heap.size w X:=bt hbW hX;obtain⟨rs,hrs,h1,h2⟩:=K.P.awQ (k.tb.kp (K:=fun _=>False) (oQ bX) k.hB.2 (fun _ _ _ h=>h)) (uQ k.hB.2 bX.size);have h3:K.Qm X X.heap.size q (.int .i64 kk) (.string kc) (.int .i64 kl) (.int .i64 kh) (.slice ka kn kd) (.slice kb km kp):=K.P.iM (uQ hB bX.size) q (HQ.out.at hB bX);refine(cnZ X.heap.size u d lo hi _ _ _ _ _ _ _ _ l rs q X (vQ _) h1 h2 h3 hlo hhi ls lu ld e1 (by rw[hrs];exact HA.out)).mono ?_;rintro e w' ⟨v,zs,he,h4,h5,h6,h7⟩;obtain⟨pa,pc,rfl,_⟩:=id h5;exact⟨pa,pc,zs,he,⟨h4,h5,h6,bt hX h7⟩,h7,hC.at h7⟩
 have I1:Hid (AkC W.drew w.heap.size bh pn (.int .i64 kk) (.string kc) (.int .i64 kl) (.int .i64 kh) (.slice ka kn kd) (.slice kb km kp) (.slice xa bits.length xc) u d lo hi (.slice cx l.length cy) (.slice rx ry rz)):=hK.at (aQ _ _).drew;have I2:Hid (∀ o,AkC (W.alloc o).drew w.heap.size bh pn (.int .i64 kk) (.string kc) (.int .i64 kl) (.int .i64 kh) (.slice ka kn kd) (.slice kb km kp) (.slice xa bits.length xc) u d lo hi (.slice cx l.length cy) (.slice rx ry rz)):=fun o=>(hK.at (ba _ _)).at (aQ _ _).drew;have J1:Hid (Below W.heap.size W W.drew):=(aQ _ _).drew;have J2:Hid (∀ o,Below W.heap.size W (W.alloc o).drew):=fun o=>(ba _ _).drew;have HNE:Hid (W.heap.size≠w.heap.size/\W.heap.size≠bh):=⟨by omega,by omega⟩;have HNW:Hid (∀ X:World,Below W.heap.size W X->X.heap.size≠w.heap.size/\X.heap.size≠bh):=fun X hX=>by have:=hX.size;exact⟨by omega,by omega⟩
 have HBW:Hid (Below w.heap.size w W):=hbW;have HWS:Hid (w.heap.size+2<=W.heap.size):=hWs;obtain⟨e0,e1',e2,e3,e4,e5,e6,e7,e8,e9,e10,e11⟩:=hK.cells;have HKW:Hid (AkC W w.heap.size bh pn (.int .i64 kk) (.string kc) (.int .i64 kl) (.int .i64 kh) (.slice ka kn kd) (.slice kb km kp) (.slice xa bits.length xc) u d lo hi (.slice cx l.length cy) (.slice rx ry rz)):=hK;clear hd hM hMw hl hq hbi hnil hl0 hz hA hst k hK hbW hWs hRB;go_enter func27,ntmps27;go_wp2;clear hW
 go_cut [6,7,8] (fun pv lv ev wx=>∃ pa pc zs g,pv=.slice pa (zs:List Dz).length pc/\lv=.pointer (some ⟨g,0,none⟩)/\ev=.int .i64 e1/\w.heap.size+2<=g/\Hid (rds zs=ls/\mJ wx (w.heap.size+2) (.slice pa zs.length pc) zs/\zs.length<=4096)/\Hid (Below W.heap.size W wx)/\Hid (TwoB wx g (.int .i64 lu) (.int .i64 ld)))
 case first =>
  go_region_held3 (fun w'=>w'.cell? ⟨w.heap.size,1,none⟩=some (.int .i64 kk)/\w'.cell? ⟨w.heap.size,2,none⟩=some (.string kc)/\w'.cell? ⟨w.heap.size,3,none⟩=some (.int .i64 kl)/\w'.cell? ⟨w.heap.size,4,none⟩=some (.int .i64 kh)/\w'.cell? ⟨w.heap.size,5,none⟩=some (.slice ka kn kd)/\w'.cell? ⟨w.heap.size,6,none⟩=some (.slice kb km kp)/\w'.cell? ⟨w.heap.size,7,none⟩=some (.int .i64 u)/\w'.cell? ⟨w.heap.size,8,none⟩=some (.int .i64 d)/\w'.cell? ⟨w.heap.size,9,none⟩=some (.int .i64 lo)/\w'.cell? ⟨w.heap.size,10,none⟩=some (.int .i64 hi)/\w'.cell? ⟨bh,0,none⟩=some (.slice cx l.length cy)/\w'.cell? ⟨bh,1,none⟩=some (.slice rx ry rz))
   ((refine AkC.cells (pn:=pn) (bv:=.slice xa bits.length xc) ?_;first|with_reducible exact I1.out|with_reducible exact I2.out _|with_reducible exact hC3|with_reducible exact hC3.at (ba _ _)|with_reducible exact hC3.oth2 HNE.out.1 HNE.out.2 _ _|with_reducible exact(hC3.at (ba _ _)).oth2 hN3.1 hN3.2 _ _))
   (first
    | (go_at_call 19;refine(kA _ (J2.out _) ?_).mono ?_;(with_reducible exact I2.out _);rintro x3 w3 ⟨pa,pc,zs,rfl,hZ3,hb3,hC3⟩;have hT3:=dtZ hb3;obtain⟨s0,s1,s2,s3,s4,s5,s6,s7,s8,s9,s10,s11⟩:=hC3.cells;obtain⟨t0,t1,tf0,tf1,htl⟩:=id hT3;have hN3:=HNW.out _ hZ3.2.2.2)
    | (go_at_call 19;refine(kA _ J1.out ?_).mono ?_;(with_reducible exact I1.out);rintro x3 w3 ⟨pa,pc,zs,rfl,hZ3,hb3,hC3⟩;obtain⟨s0,s1,s2,s3,s4,s5,s6,s7,s8,s9,s10,s11⟩:=hC3.cells;have hN3:=HNW.out _ hZ3.2.2.2))
  ·have hs3:=hb3.size
   have z3:W.heap.size<=w3.heap.size:=hs3;have hws:=HWS.out;go_wp2;go_meet;refine⟨pa,pc,zs,w3.heap.size,rfl,rfl,rfl,by omega,⟨hZ3.1,(hZ3.2.1.mono hws).keep (ba _ _),hZ3.2.2.1⟩,bal hZ3.2.2.2 _,TwoB.new _ _ _ 32 _ rfl⟩
  ·have hs3:=hb3.size
   have z3:W.heap.size+1<=w3.heap.size:=by simpa using hs3
   have hws:=HWS.out;go_wp2;go_meet;refine⟨pa,pc,zs,W.heap.size,rfl,rfl,rfl,by omega,⟨hZ3.1,((hZ3.2.1.set (by simp)).set (by simp)).mono (by simp;omega),hZ3.2.2.1⟩,bs (bs hZ3.2.2.2 (vQ _) _) (vQ _) _,hT3.put _ _⟩
 case rest =>
  obtain⟨pa,pc,zs,g,rfl,rfl,rfl,hg,HZS,HBX,HLT⟩:=hcut;have hs1:=HBX.out.size;have hBwx:Below w.heap.size w wc:=bt HBW.out HBX.out;have HBC:Hid (Below w.heap.size w wc):=hBwx;have hRBc:=HRB.out.at HBX.out;have HRBc:Hid (Bx wc (w.heap.size+1) [.slice none 0 0,.int .i64 0,.int .i64 0,.int .i64 0]):=hRBc;clear kA I1 I2 J1 J2 HNE HNW e0 e1' e2 e3 e4 e5 e6 e7 e8 e9 e10 e11 m5 hBwx hRBc HRB
  have PRE:Hid (∀ p X,gD e1 bits=p->p≠0->Below w.heap.size w X->rI M bh bd bw a c l ts s' er (oJ ls bits 0 []) lu ld w (.returned (.tuple #[fD,.int .i64 p])) X):=fun p X hp hp0 hX=>by
   have h1:=HST.out;simp only[dQ] at h1;rw[qQ (by simp),qQ (by simp),xQ (by rw[hp];exact hp0),hp] at h1;simp only[cQ,Sn.mk.injEq] at h1;obtain⟨rfl,rfl,_⟩:=h1;exact⟨oQ hX,HD.out.at hX,M,fun k hk=>.inl hk,fun _=>HH.out.kp (K:=fun _=>False) (oQ hX) (fun _ _ h=>h),(fun h=>by cases h),.inl ⟨hp0,rfl⟩⟩
  by_cases h0:e1=0
  ·subst h0
   obtain⟨hone,_⟩:=dtQ HA.out HQ.out;have htel:=(adJ HA.out).1;have hzl:zs.length=ls.length:=by rw[<-HZS.out.1,nN]
   have hdss:=HZS.out.2.1.dss (by omega);obtain⟨b,o,na,nc,us0,rfl,hb,hgt,d1,hP⟩:=hdss.get (vQ _) (aQ _ _) (i:=0) (by omega);have hr0:(rds zs)[0]? = some (rd us0):=by rw[rds,xA,hgt];rfl
   have hown:=(htel (rd us0) (by rw[<-HZS.out.1];exact uX hr0)).1;obtain⟨l2,hr2⟩:=dvZ hown bits;obtain⟨e2,he2⟩:∃ e2,nA bits 0=e2:=⟨_,rfl⟩;rw[he2] at hr2;have hKc:=HKW.out.at HBX.out;have d11:=(hKc.b 11 _ rfl).c;have dlt:=(hKc.b 11 _ rfl).lt;have hbc:b<wc.heap.size:=hb;have bdr:Below w.heap.size w wc.drew:=HBC.out.drew;have kR:=bqZ wc.drew.heap.size B (.slice na us0.length nc) (.slice xa bits.length xc) us0 bits 0 wc.drew (vQ _) (hP.keep (aQ _ _).drew) ((HBI.out.at hB bdr).mono (uQ hB bdr.size) (.inr (vQ _))) (by omega) l2 e2 hr2;have HTEL:Hid (mP ls):=htel;have HKC:Hid (AkC wc w.heap.size bh pn (.int .i64 kk) (.string kc) (.int .i64 kl) (.int .i64 kh) (.slice ka kn kd) (.slice kb km kp) (.slice xa bits.length xc) u d lo hi (.slice cx l.length cy) (.slice rx ry rz)):=hKc;have HE2:Hid (nA bits 0=e2):=he2;have HZL:Hid (zs.length=ls.length/\1<=ls.length):=⟨hzl,hone⟩;have d1':wc.cell? ⟨b,o,none⟩=some (.slice na us0.length nc):=by simpa using d1
   have z1:(0:Int)<(zs.length:Int):=by omega
   have z2:0<zs.length:=by omega
   clear hone htel hzl hdss hgt hr0 hown hr2 he2 hKc bdr hP d1 HKW;go_wp2_with fail
   go_region_held3 (fun w'=>w'.cell? ⟨b,o,none⟩=some (.slice na us0.length nc)/\w'.cell? ⟨w.heap.size,11,none⟩=some (.slice xa bits.length xc)) (first|assumption|(simp[go_sem, *];done))
    ((go_at_call 49;refine kR.mono ?_;rintro x w6 ⟨rv6,ds6,rfl,_,⟨ra6,rc6,hrv6,_⟩,hb6,_⟩;subst hrv6;have q1:=(hb6.cell (p:=⟨b,o,none⟩) hbc).trans d1';have q2:=(hb6.cell (p:=⟨w.heap.size,11,none⟩) dlt).trans d11))
   clear kR d1' d11 q1 q2;have B6:Below wc.heap.size wc w6:=bt (aQ _ _).drew hb6;have HB6:Hid (Below w.heap.size w w6):=bt HBC.out B6;have HR6:Hid (Bx w6 (w.heap.size+1) [.slice none 0 0,.int .i64 0,.int .i64 0,.int .i64 0]):=HRBc.out.at B6;have HK6:Hid (AkC w6 w.heap.size bh pn (.int .i64 kk) (.string kc) (.int .i64 kl) (.int .i64 kh) (.slice ka kn kd) (.slice kb km kp) (.slice xa bits.length xc) u d lo hi (.slice cx l.length cy) (.slice rx ry rz)):=HKC.out.at B6;have HL6:Hid (TwoB w6 g (.int .i64 lu) (.int .i64 ld)):=HLT.out.below B6;have HS6:Hid (mJ w6 (w.heap.size+2) (.slice (some ⟨b,o,none⟩) zs.length pc) zs):=HZS.out.2.1.keep B6;have hw6:w.heap.size<=w6.heap.size:=HB6.out.size;clear B6 hb6 HRBc HKC HLT;by_cases h2:e2=0
   ·subst h2
    obtain⟨hbad,hlen⟩:=dvJ HE2.out;have kP:=K.P.dsQ M bh bd w6.heap.size l ts done pn _ _ _ _ _ _ (.slice xa bits.length xc) q u d lo hi lu ld w6 (HH.out.kp (K:=fun _=>False) (oQ HB6.out) (fun _ _ h=>h)) (vQ _) (K.P.iM (uQ hB hw6) q (HQ.out.at hB HB6.out)) ⟨_,_,_,rfl⟩ nm0 sz0 HL0.out z ez HZ.out;obtain⟨g0,g1,_,_,_⟩:=HL6.out;have c0:=(HK6.out.b 0 _ rfl).c;have c1:=(HK6.out.b 1 _ rfl).c;have c2:=(HK6.out.b 2 _ rfl).c;have c3:=(HK6.out.b 3 _ rfl).c;have c4:=(HK6.out.b 4 _ rfl).c;have c5:=(HK6.out.b 5 _ rfl).c;have c6:=(HK6.out.b 6 _ rfl).c;have c7:=(HK6.out.b 7 _ rfl).c;have c8:=(HK6.out.b 8 _ rfl).c;have c9:=(HK6.out.b 9 _ rfl).c;have c10:=(HK6.out.b 10 _ rfl).c;have c11:=(HK6.out.b 11 _ rfl).c;have HBD:Hid (dY bits=false/\bits.length<=65536):=⟨hbad,hlen⟩;clear hbad hlen;go_wp2_with fail;refine kP.mono ?_;rintro x w7 ⟨rfl,hb7⟩;have HB7:Hid (Below w.heap.size w w7):=bt HB6.out hb7;have hw7:w6.heap.size<=w7.heap.size:=hb7.size;obtain⟨e,hee⟩:∃ e,zZ pn z ez lu ld=e:=⟨_,rfl⟩;obtain⟨s1,er1,hdo⟩:∃ s1 er1,xZ ⟨disk,left,true,false,done⟩ e=(s1,er1):=⟨_,_,rfl⟩;have kD:=K.P.atJ M bh bd bw a c l ts disk left done e w7 (HH.out.kp (K:=fun _=>False) (oQ HB7.out) (fun _ _ h=>h)) (HD.out.at HB7.out) HM.out (by omega) HLI.out (by rw[<-hee,duJ];exact hs) (by rw[<-hee];exact dvQ (K.P.drJ HZ.out)) (by rw[<-hee];exact duZ _ _ _ _ _) s1 er1 hdo;have hss0:=HST.out;simp only[dQ] at hss0;rw[qQ (by simp),qQ (by simp),qQ (by unfold gD;rw[qQ (by simp)];simpa using HE2.out),hee,hdo] at hss0;have HSS:Hid _:=hss0;clear hss0;have HDO:Hid (xZ ⟨disk,left,true,false,done⟩ e=(s1,er1)):=hdo;simp only[hee];have HK7:Hid (AkC w7 w.heap.size bh pn (.int .i64 kk) (.string kc) (.int .i64 kl) (.int .i64 kh) (.slice ka kn kd) (.slice kb km kp) (.slice xa bits.length xc) u d lo hi (.slice cx l.length cy) (.slice rx ry rz)):=HK6.out.at hb7;have HR7:Hid (Bx w7 (w.heap.size+1) [.slice none 0 0,.int .i64 0,.int .i64 0,.int .i64 0]):=HR6.out.at hb7;have HL7:Hid (TwoB w7 g (.int .i64 lu) (.int .i64 ld)):=HL6.out.below hb7;have HS7:Hid (mJ w7 (w.heap.size+2) (.slice (some ⟨b,o,none⟩) zs.length pc) zs):=HS6.out.keep hb7;clear kP hb7 HK6 HR6 HL6 HS6 c0 c1 c2 c3 c4 c5 c6 c7 c8 c9 c10 c11 g0 g1 hdo;go_wp2_with fail;refine kD.mono ?_;rintro x w8 ⟨rfl,hK8,hD8,hH8,hX8⟩;have hw8:w7.heap.size<=w8.heap.size:=hK8.size
    have nE:∀ k,w.heap.size<=k->¬ (M k\/k=bd\/k=bw):=fun k hk=>by
     rintro(m|m|m)
     ·have:=(HMW.out k m).2;omega
     ·omega
     ·omega
    have HK8:Hid (Keeps w w8 (fun k=>M k\/k=bd\/k=bw)):=(oQ HB7.out).trans hK8;have HKK:Hid (Keeps w7 w8 (fun k=>M k\/k=bd\/k=bw)):=hK8;have HR8:Hid (Bx w8 (w.heap.size+1) [.slice none 0 0,.int .i64 0,.int .i64 0,.int .i64 0]):=HR7.out.kp hK8 (nE _ (by omega));have HBX8:Hid (Bx w8 w.heap.size [.string pn,.int .i64 kk,.string kc,.int .i64 kl,.int .i64 kh,.slice ka kn kd,.slice kb km kp,.int .i64 u,.int .i64 d,.int .i64 lo,.int .i64 hi,.slice xa bits.length xc]):=HK7.out.b.kp hK8 (nE _ (vQ _));have HL8:Hid (TwoB w8 g (.int .i64 lu) (.int .i64 ld)):=K.P.atZ HL7.out (hK8.block g HL7.out.lt (nE g (by omega))) hK8.size;have HD8:Hid (DskM w8 bd bw a c s1.disk s1.left):=hD8;have HH8:Hid (s1.brk=false->kX w8 (fun k=>M k\/w7.heap.size<=k/\k<w8.heap.size) bh bd l ts s1.done):=hH8;have HX8:Hid (s1.brk=true->Cl w8 bh 5 (.bool true)):=hX8;have HNE:Hid (∀ k,w.heap.size<=k->¬ (M k\/k=bd\/k=bw)):=nE
    have FIN:Hid (∀ X e' er',Keeps w8 X (fun k=>k=w.heap.size+1)->s' = s1->er=er'->((er'≠0/\e' = .returned (.tuple #[fD,.int .i64 er']))\/(er' = 0/\∃ vs us gg,oJ ls bits 0 []=some (vs,us)/\vs≠[]/\vs.length<=4096/\us<=65536/\e' = .returned (.tuple #[.agg #[.slice (some ⟨gg,0,none⟩) (vs:List Int).length vs.length,.int .i64 (us:Int),.int .i64 lu,.int .i64 ld],.int .i64 0])/\w8.heap.size<=gg/\K.RowI X gg vs))->rI M bh bd bw a c l ts s' er (oJ ls bits 0 []) lu ld w e' X):=fun X e' er' hX h1 h2 h3=>by
     subst h1 h2;have hwx:=hX.size
     have kw:Keeps w X (fun k=>M k\/k=bd\/k=bw):=by
      have k1:Keeps w X (fun k=>(M k\/k=bd\/k=bw)\/w.heap.size<=k):=(HK8.out.imp (fun k _ h=>.inl h)).trans (hX.imp (fun k _ h=>.inr (by omega)));exact k1.imp (fun k hk h=>h.elim id (fun c=>by omega))
     have hE1:∀ k,M k\/w7.heap.size<=k/\k<w8.heap.size->¬ k=w.heap.size+1:=fun k hk c=>by
      have h7:=(HR7.out 0 _ rfl).lt;rcases hk with m|m
      ·have:=(HMW.out k m).2;omega
      ·omega
     refine⟨kw,HD8.out.kp hX (by omega) (by omega),(fun k=>M k\/w7.heap.size<=k/\k<w8.heap.size),fun k hk=>hk.imp id (fun h=>⟨by omega,by omega⟩),fun hb=>(HH8.out hb).kp hX hE1,fun hb=>K.P.kY (HX8.out hb) hX (by omega),?_⟩;rcases h3 with h3|⟨h3,vs,us,gg,q1,q2,q3,q4,q5,q6,q7⟩
     ·exact .inl h3
     ·refine .inr ⟨h3,vs,us,gg,q1,q2,q3,q4,q5,by omega,fun hk=>?_,q7⟩
      rcases hk with m|m
      ·have:=(HMW.out gg m).2;omega
      ·omega
    clear kD hK8 hD8 hH8 hX8 nE HK7 HR7 HL7;by_cases h3:er1=0
    ·subst h3
     have HBR:Hid (s1.brk=false):=dvX HDO.out
     have hbel:Below B w w8:=⟨HK8.out.os,HK8.out.tape,HK8.out.output,HK8.out.size,fun k hk=>HK8.out.block k (by omega) (by
      have h9:=HbB.out;rintro(m|m|m)
      ·have:=(HMW.out k m).1;omega
      ·omega
      ·omega)⟩
     have hds:gK w8 w8.heap.size (.slice (some ⟨b,o,none⟩) zs.length pc) zs:=duX HS7.out (by omega) HKK.out (fun k hk=>by
      by_cases c:w.heap.size<=k
      ·exact absurd hk (HNE.out k c)
      ·omega)
     have kW:=cpX w8.heap.size nb (.slice (some ⟨b,o,none⟩) zs.length pc) (.slice xa bits.length xc) zs bits w8 (vQ _) hds HZS.out.2.2 (by rw[HZS.out.1];exact HTEL.out) (((HBI.out.keep hbel).mono (by omega) (.inl rfl)).2 HBD.out.2) (fun n c h=>by cases h;exact HNL.out rfl) HBD.out.1 HBD.out.2;rw[HZS.out.1] at kW;have c11:=(HBX8.out 11 _ rfl).c;clear hbel hds;go_wp2_with fail;refine kW.mono ?_;clear kW c11;rintro x w9 ⟨hb9,(⟨hn9,rfl⟩|⟨vs,us,hd9,hv9,hu9,rfl,hr9⟩)⟩
     ·have hR9:=HR8.out.at hb9
      obtain⟨⟨r0,r1,r2,r3⟩,f0,f1,f2,f3⟩:=aH hR9;have hZ:=jO hR9 (.slice none 0 0) (.int .i64 0) (.int .i64 0) (.int .i64 0);obtain⟨⟨x0,x1,x2,x3⟩,_⟩:=aH hZ.1;have hss:=HSS.out;rw[qQ (by simp),hn9] at hss;simp only[cQ,Sn.mk.injEq] at hss;have HEN:Hid (rI M bh bd bw a c l ts s' er (oJ ls bits 0 []) lu ld w (.returned (.tuple #[fD,.int .i64 6])) _):=FIN.out _ _ 6 ((oQ hb9).trans hZ.2) hss.1.symm hss.2.1.symm (.inl ⟨by decide,rfl⟩);clear hZ hss hR9 hb9 hn9;go_wp2;refine yQ (v:=.tuple #[fD,.int .i64 6]) ?_ rfl HEN.out;simp[results,results27,go_sem,x0,x1,x2,x3]
     ·have hR9:=HR8.out.at hb9
      obtain⟨⟨r0,r1,r2,r3⟩,f0,f1,f2,f3⟩:=aH hR9;have hZ:=jO hR9 (.slice (some ⟨w8.heap.size,0,none⟩) vs.length vs.length) (.int .i64 (us:Int)) (.int .i64 lu) (.int .i64 ld);obtain⟨⟨x0,x1,x2,x3⟩,_⟩:=aH hZ.1;obtain⟨g0,g1,_,_,_⟩:=HL8.out.below hb9;have hss:=HSS.out;rw[qQ (by simp),hd9] at hss;simp only[cQ,Sn.mk.injEq] at hss;have h8:=(HR8.out 0 _ rfl).lt;have hzl:=HZL.out;have hz4:=HZS.out.2.2;have hrr:=aC hr9 hZ.2 (by omega);have HEN:Hid (rI M bh bd bw a c l ts s' er (oJ ls bits 0 []) lu ld w (.returned (.tuple #[.agg #[.slice (some ⟨w8.heap.size,0,none⟩) vs.length vs.length,.int .i64 (us:Int),.int .i64 lu,.int .i64 ld],.int .i64 0])) _):=FIN.out _ _ 0 ((oQ hb9).trans hZ.2) hss.1.symm hss.2.1.symm (.inr ⟨rfl,vs,us,w8.heap.size,hd9,(fun c=>by rw[c] at hv9;simp at hv9;omega),by omega,by have:=HBD.out.2;omega,rfl,vQ _,hrr⟩);clear hZ hss hR9 hb9 hd9 hr9 hrr hv9 hzl hz4;go_wp2;refine yQ (v:=.tuple #[.agg #[.slice (some ⟨w8.heap.size,0,none⟩) vs.length vs.length,.int .i64 (us:Int),.int .i64 lu,.int .i64 ld],.int .i64 0]) ?_ rfl HEN.out;simp[results,results27,go_sem,x0,x1,x2,x3]
    ·have h31:(er1 == 0)=false:=by simpa using h3
     have h32:(er1 != 0)=true:=by simpa using h3
     obtain⟨⟨r0,r1,r2,r3⟩,f0,f1,f2,f3⟩:=aH HR8.out;have hZ:=jO HR8.out (.slice none 0 0) (.int .i64 0) (.int .i64 0) (.int .i64 0);obtain⟨⟨x0,x1,x2,x3⟩,_⟩:=aH hZ.1;have hss:=HSS.out;rw[xQ h3] at hss;simp only[cQ,Sn.mk.injEq] at hss;have HEN:Hid (rI M bh bd bw a c l ts s' er (oJ ls bits 0 []) lu ld w (.returned (.tuple #[fD,.int .i64 er1])) _):=FIN.out _ _ er1 hZ.2 hss.1.symm hss.2.1.symm (.inl ⟨h3,rfl⟩);clear hZ hss;go_wp2;refine yQ (v:=.tuple #[fD,.int .i64 er1]) ?_ rfl HEN.out;simp[results,results27,go_sem,x0,x1,x2,x3]
   ·have h21:(e2 == 0)=false:=by simpa using h2
    have h22:(e2 != 0)=true:=by simpa using h2
    obtain⟨⟨r0,r1,r2,r3⟩,f0,f1,f2,f3⟩:=aH HR6.out;obtain⟨⟨x0,x1,x2,x3⟩,_⟩:=aH (jO HR6.out (.slice none 0 0) (.int .i64 0) (.int .i64 0) (.int .i64 0)).1;have HEN:Hid (∀ X,Below w.heap.size w X->rI M bh bd bw a c l ts s' er (oJ ls bits 0 []) lu ld w (.returned (.tuple #[fD,.int .i64 e2])) X):=fun X hX=>PRE.out e2 X (by unfold gD;rw[qQ (by simp)];exact HE2.out) h2 hX;go_wp2;refine yQ (v:=.tuple #[fD,.int .i64 e2]) ?_ rfl (HEN.out _ ?_)
    ·simp[results,results27,go_sem,x0,x1,x2,x3]
    ·exact bs (bs (bs (bs HB6.out (by simp) _) (by simp) _) (by simp) _) (by simp) _
  ·have h01:(e1 == 0)=false:=by simpa using h0
   have h02:(e1 != 0)=true:=by simpa using h0
   obtain⟨⟨r0,r1,r2,r3⟩,f0,f1,f2,f3⟩:=aH HRBc.out;obtain⟨⟨x0,x1,x2,x3⟩,_⟩:=aH (jO HRBc.out (.slice none 0 0) (.int .i64 0) (.int .i64 0) (.int .i64 0)).1;have HEN:Hid (∀ X,Below w.heap.size w X->rI M bh bd bw a c l ts s' er (oJ ls bits 0 []) lu ld w (.returned (.tuple #[fD,.int .i64 e1])) X):=fun X hX=>PRE.out e1 X (by unfold gD;rw[xQ h0]) h0 hX;go_wp2;refine yQ (v:=.tuple #[fD,.int .i64 e1]) ?_ rfl (HEN.out _ ?_)
   ·simp[results,results27,go_sem,x0,x1,x2,x3]
   ·exact bs (bs (bs (bs HBC.out (by simp) _) (by simp) _) (by simp) _) (by simp) _
open K (Cl)
open K.P (HSt Keeps oQ eX rJ kX HouK DskM xG xZ dQ Ev Sn dA zZ TwoB sJ kV dD yZ qG gZ eF enc)
structure Stp where
 act:Int
 n:Int
 nm:ByteArray
 bu:Int
 bd:Int
 pn:ByteArray
 q:K.Ds.Qu
 u:Int
 d:Int
 lo:Int
 hi:Int
 bits:List Int
 word:Int
abbrev tU:=List Int × Nat × Int × Int
def dR (l:List K.Ds.jQ):ByteArray:=match l with
 | []=>⟨#[]⟩
 | x::_=>x.1
def sI (l:List K.Ds.jQ) (ts:List (List Int)) (x:Stp):Ev tU :=
 .ask (gD (fU x.u x.d x.lo x.hi l ts x.q).2.2.2 x.bits) (zZ x.pn (K.cA (K.prt l x.q (dR l))).1 (K.cA (K.prt l x.q (dR l))).2 (fU x.u x.d x.lo x.hi l ts x.q).2.1 (fU x.u x.d x.lo x.hi l ts x.q).2.2.1)
  ((oJ (fU x.u x.d x.lo x.hi l ts x.q).1 x.bits 0 []).map fun t=>(t.1,t.2,(fU x.u x.d x.lo x.hi l ts x.q).2.1,(fU x.u x.d x.lo x.hi l ts x.q).2.2.1))
def aJ (l:List K.Ds.jQ) (ts:List (List Int)) (x:Stp):Ev tU :=
 if x.act=1 then .opn else if x.act=4 then .pow x.n else if x.act=2 then .pur (1,x.nm,0,x.bu,x.bd) else if x.act=3 then sI l ts x else if x.act=5 then .loo else .oth
def lX (l:List K.Ds.jQ) (ts:List (List Int)) (s:HSt) (x:Stp):HSt × Sn tU :=
 if x.act=6/\0<=x.n/\x.n<s.disk.length then ({ s with disk:=s.disk.set x.n.toNat x.word },⟨0,none,[]⟩) else dQ (K.Ds.fZ l ts) s (aJ l ts x)
def tJ (l:List K.Ds.jQ) (ts:List (List Int)):HSt->List Stp->HSt × List (Sn tU)
 | s,[]=>(s,[])
 | s,x::xs=>((tJ l ts (lX l ts s x).1 xs).1,(lX l ts s x).2::(tJ l ts (lX l ts s x).1 xs).2)
theorem awX (l:List K.Ds.jQ)(ts:List (List Int)):∀ (xs:List Stp) (s:HSt) (x:Stp),tJ l ts s (xs++[x])=((lX l ts (tJ l ts s xs).1 x).1,(tJ l ts s xs).2++[(lX l ts (tJ l ts s xs).1 x).2])
 | [],s,x=>rfl
 | y::ys,s,x=>by simp only[fH,tJ,awX l ts ys]
theorem bC (l:List K.Ds.jQ)(ts:List (List Int)):∀ (xs:List Stp) (s:HSt),(tJ l ts s xs).2.length=xs.length
 | [],_=>rfl
 | y::ys,s=>by simp only[tJ,iF,bC l ts ys]
theorem dwX {α β:Type}(f:α->β)(wr:Int)(s:HSt)(p:Int)(e:K.P.En)(tl:Option α):dQ wr s (.ask p e (tl.map f))=((dQ wr s (.ask p e tl)).1,⟨(dQ wr s (.ask p e tl)).2.err,(dQ wr s (.ask p e tl)).2.told.map f,(dQ wr s (.ask p e tl)).2.ents⟩):=by
 cases tl <;> simp only[dQ,Option.map_none,Option.map_some] <;> (repeat' split) <;> rfl
def tI (w:World) (B b o:Nat) (x:Stp):Prop :=
 ∃ v0 v1 v2 v3 v4 v5 xa xc nb,(∀ i v,([.int .i64 x.act,.int .i64 x.n,.string x.nm,.int .i64 x.bu,.int .i64 x.bd,.string x.pn,v0,v1,v2,v3,v4,v5,.int .i64 x.u,.int .i64 x.d,.int .i64 x.lo,.int .i64 x.hi,.slice xa x.bits.length xc,.int .i64 x.word]:List Value)[i]? = some v->w.cell? ⟨b,o+i,none⟩=some v) /\
  K.Qm w B x.q v0 v1 v2 v3 v4 v5/\qY w B nb (.slice xa x.bits.length xc) x.bits/\(xa=none->xc=0)/\aX x.lo/\aX x.hi/\aX x.n/\aX x.word/\x.nm.size<=9223372036854775807/\x.pn.size<=9223372036854775807
theorem tI.keep {w w':World}{B b o:Nat}{x:Stp}(h:tI w B b o x)(hb:Below B w w')(hB:b<B):tI w' B b o x:=by
 obtain⟨v0,v1,v2,v3,v4,v5,xa,xc,nb,h1,h2,h3,h4⟩:=h;exact⟨v0,v1,v2,v3,v4,v5,xa,xc,nb,fun i v hi=>(hb.cell (p:=⟨b,o+i,none⟩) hB).trans (h1 i v hi),h2.keep hb,h3.keep hb,h4⟩
def cC (w:World) (B:Nat) (v:Value) (xs:List Stp):Prop :=
 ∃ a c,v=.slice a xs.length c/\xs.length<=c/\xs.length<=9223372036854775807/\(xs≠[]->∃ b o,a=some ⟨b,o,none⟩/\b<B/\∀ i x,xs[i]? = some x->tI w B b (o+i*18) x)
def tX (w:World) (G:Nat->Prop) (x:Sn tU) (cs:List Value):Prop :=
 ∃ tv ev us lu ld,cs=[.int .i64 x.err,tv,.int .i64 us,.int .i64 lu,.int .i64 ld,ev] /\
  ((x.told=none/\tv=.slice none 0 0/\us=0/\lu=0/\ld=0) \/
   (∃ (vs:List Int) (n g:Nat),x.told=some (vs,n,lu,ld)/\vs≠[]/\vs.length<=4096/\n<=65536/\tv=.slice (some ⟨g,0,none⟩) vs.length vs.length/\us=(n:Int)/\G g/\K.RowI w g vs)) /\
  w.ownsRow 0 53 5 ev x.ents.length (enc x.ents)/\∀ g,ev.ownBlock=some g->G g
theorem tX.kp {w w':World}{G G' N:Nat->Prop}{x:Sn tU}{cs:List Value}(h:tX w G x cs)(hk:Keeps w w' N)(hN:∀ k,G k->¬ N k)(hG:∀ k,G k->G' k):tX w' G' x cs:=by
 obtain⟨tv,ev,us,lu,ld,h1,h2,h3,h4⟩:=h;refine⟨tv,ev,us,lu,ld,h1,?_,dD h3 hk (fun g hg=>hN g (h4 g hg)),fun g hg=>hG g (h4 g hg)⟩;rcases h2 with h2|⟨vs,n,g,q1,q2,q3,q4,q5,q6,q7,q8⟩
 ·exact .inl h2
 ·exact .inr ⟨vs,n,g,q1,q2,q3,q4,q5,q6,hG g q7,aC q8 hk (hN g q7)⟩
structure HuI (W0 wr:World) (N0 bd bw:Nat) (a:Option Addr) (c:Nat) (l:List K.Ds.jQ) (ts:List (List Int)) (hv ov:Value) (s:HSt) (xs:List (Sn tU)) (M G:Nat->Prop):Prop where
 be:Below N0 W0 wr
 ds:DskM wr bd bw a c s.disk s.left
 bs:N0<=bd/\N0<=bw/\bw<wr.heap.size/\N0<=W0.heap.size
 w64:sJ s.disk
 i64:aX s.left
 mm:∀ k,M k->N0<=k/\k<wr.heap.size/\k≠bd/\k≠bw/\¬ G k
 gg:∀ k,G k->N0<=k/\k<wr.heap.size/\k≠bd/\k≠bw
 dn:s.up=false->hv=.pointer none
 up:s.up=true->K.Ds.fZ l ts=0/\∃ bh,hv=.pointer (some ⟨bh,0,none⟩)/\M bh/\(s.brk=false->kX wr M bh bd l ts s.done)/\(s.brk=true->Cl wr bh 5 (.bool true))
 out:∃ css:List (List Value),css.length=xs.length/\wr.ownsRow N0 51 6 ov xs.length css.flatten/\(∀ g,ov.ownBlock=some g->g≠bd/\g≠bw/\¬ G g/\¬ M g)/\∀ (i:Nat) x cs,xs[i]? = some x->css[i]? = some cs->tX wr G x cs
theorem HuI.step {W0 wr w':World}{N0 bd bw:Nat}{a:Option Addr}{c:Nat}{l:List K.Ds.jQ}{ts:List (List Int)}{hv hv' ov:Value}{s s':HSt}{xs:List (Sn tU)}{M G:Nat->Prop}(h:HuI W0 wr N0 bd bw a c l ts hv ov s xs M G)
  (hk:Keeps wr w' (fun k=>M k\/k=bd\/k=bw)) (hd:DskM w' bd bw a c s'.disk s'.left) (h64:sJ s'.disk) (hi:aX s'.left) (M' G':Nat->Prop) (hM:∀ k,M' k->M k\/wr.heap.size<=k/\k<w'.heap.size) (hG:∀ k,G' k->G k\/wr.heap.size<=k/\k<w'.heap.size/\¬ M' k) (hGG:∀ k,G k->G' k)
  (dn:s'.up=false->hv' = .pointer none) (up:s'.up=true->K.Ds.fZ l ts=0/\∃ bh,hv' = .pointer (some ⟨bh,0,none⟩)/\M' bh/\(s'.brk=false->kX w' M' bh bd l ts s'.done)/\(s'.brk=true->Cl w' bh 5 (.bool true))) :
  HuI W0 w' N0 bd bw a c l ts hv' ov s' xs M' G':=by
 have hsz:=hk.size;have hbd:=h.ds.c0.lt;obtain⟨b1,b2,b3,b4⟩:=h.bs;have hw0:=h.be.size;refine⟨⟨hk.os.trans h.be.os,hk.tape.trans h.be.tape,hk.output.trans h.be.output,by omega,fun k kk=>(hk.block k (by omega) ?_).trans (h.be.block k kk)⟩,hd,⟨b1,b2,by omega,b4⟩,h64,hi,fun k m=>?_,fun k m=>?_,dn,up,?_⟩
 ·rintro(m|m|m)
  ·have:=(h.mm k m).1;omega
  ·omega
  ·omega
 ·rcases hM k m with m1|m1
  ·obtain⟨q1,q2,q3,q4,q5⟩:=h.mm k m1
   refine⟨q1,by omega,q3,q4,fun g=>?_⟩;rcases hG k g with g1|g1
   ·exact q5 g1
   ·exact g1.2.2 m
  ·refine⟨by omega,m1.2,by omega,by omega,fun g=>?_⟩
   rcases hG k g with g1|g1
   ·have:=(h.gg k g1).2.1;omega
   ·exact g1.2.2 m
 ·rcases hG k m with g1|g1
  ·obtain⟨q1,q2,q3,q4⟩:=h.gg k g1
   exact⟨q1,by omega,q3,q4⟩
  ·exact⟨by omega,g1.2.1,by omega,by omega⟩
 ·obtain⟨css,o1,o2,o3,o4⟩:=h.out
  refine⟨css,o1,dD o2 hk (fun g hg=>?_),fun g hg=>?_,fun i x cs hx hc=>(o4 i x cs hx hc).kp hk (fun k g=>?_) hGG⟩
  ·obtain⟨q1,q2,q3,q4⟩:=o3 g hg
   rintro(m|m|m)
   ·exact q4 m
   ·exact q1 m
   ·exact q2 m
  ·obtain⟨q1,q2,q3,q4⟩:=o3 g hg
   have hlt:=(yZ o2 hg).2;refine⟨q1,q2,fun g1=>?_,fun m=>?_⟩
   ·rcases hG g g1 with g2|g2
    ·exact q3 g2
    ·omega
   ·rcases hM g m with g2|g2
    ·exact q4 g2
    ·omega
  ·obtain⟨q1,q2,q3,q4⟩:=h.gg k g
   rintro(m|m|m)
   ·exact(h.mm k m).2.2.2.2 g
   ·exact q3 m
   ·exact q4 m
theorem HuI.at {W0 wr w':World}{N0 bd bw:Nat}{a:Option Addr}{c:Nat}{l:List K.Ds.jQ}{ts:List (List Int)}{hv ov:Value}{s:HSt}{xs:List (Sn tU)}{M G:Nat->Prop}(h:HuI W0 wr N0 bd bw a c l ts hv ov s xs M G)(hb:Below wr.heap.size wr w'):HuI W0 w' N0 bd bw a c l ts hv ov s xs M G :=
 h.step (oQ hb) (h.ds.at hb) h.w64 h.i64 M G (fun _ m=>.inl m) (fun _ m=>.inl m) (fun _ m=>m) h.dn (fun u=>by
  obtain⟨e,bh,q1,q2,q3,q4⟩:=h.up u;exact⟨e,bh,q1,q2,fun x=>(q3 x).kp (K:=fun _=>False) (oQ hb) (fun _ _ h=>h),fun x=>(q4 x).at hb⟩)
theorem HuI.snoc {W0 wr w':World}{N0 bd bw:Nat}{a:Option Addr}{c:Nat}{l:List K.Ds.jQ}{ts:List (List Int)}{hv ov ov':Value}{s:HSt}{xs:List (Sn tU)}{M G:Nat->Prop}(h:HuI W0 wr N0 bd bw a c l ts hv ov s xs M G){x:Sn tU}{cs:List Value}(hx:tX wr G x cs){g cap:Nat}(hov:ov' = .slice (some ⟨g,0,none⟩) (xs.length+1) cap)
  (css:List (List Value)) (o1:css.length=xs.length) (o2:wr.ownsRow N0 51 6 ov xs.length css.flatten) (o3:∀ g,ov.ownBlock=some g->g≠bd/\g≠bw/\¬ G g/\¬ M g) (o4:∀ (i:Nat) x cs,xs[i]? = some x->css[i]? = some cs->tX wr G x cs)
  (hg:wr.grownBy w' ov.ownBlock) (ho:w'.ownsRow N0 51 6 ov' (xs.length+1) (css.flatten++cs)) (hw:ov.ownBlock=some g\/wr.heap.size<=g) :
  HuI W0 w' N0 bd bw a c l ts hv ov' s (xs++[x]) M G:=by
 have hk:Keeps wr w' (fun k=>ov.ownBlock=some k):=⟨hg.os,hg.tape,hg.output,hg.size,fun k hk hn=>hg.block k hk (fun e=>hn e.symm)⟩;have hsz:=hk.size;have hM:∀ k,M k->¬ ov.ownBlock=some k:=fun k m e=>(o3 k e).2.2.2 m;have hGn:∀ k,G k->¬ ov.ownBlock=some k:=fun k m e=>(o3 k e).2.2.1 m;obtain⟨b1,b2,b3,b4⟩:=h.bs;have hw0:=h.be.size;refine⟨⟨hk.os.trans h.be.os,hk.tape.trans h.be.tape,hk.output.trans h.be.output,by omega,fun k kk=>(hk.block k (by omega) (fun e=>?_)).trans (h.be.block k kk)⟩,h.ds.kp hk (fun e=>(o3 _ e).1 rfl) (fun e=>(o3 _ e).2.1 rfl),⟨b1,b2,by omega,b4⟩,h.w64,h.i64,fun k m=>?_,fun k m=>?_,h.dn,fun u=>?_,css++[cs],by simp[o1],?_,?_,?_⟩
 ·have:=(yZ o2 e).1;omega
 ·obtain⟨q1,q2,q3⟩:=h.mm k m
  exact⟨q1,by omega,q3⟩
 ·obtain⟨q1,q2,q3⟩:=h.gg k m
  exact⟨q1,by omega,q3⟩
 ·obtain⟨e,bh,q1,q2,q3,q4⟩:=h.up u
  exact⟨e,bh,q1,q2,fun z=>(q3 z).kp hk hM,fun z=>K.P.kY (q4 z) hk (hM _ q2)⟩
 ·have:=ho
  rw[zJ,bY,List.flatten_append];simpa using this
 ·intro k hk2
  rw[hov] at hk2;simp only[Value.ownBlock,vX] at hk2;subst hk2;rcases hw with hw|hw
  ·exact o3 g hw
  ·have hbd:=h.ds.c0.lt
   exact⟨by omega,by omega,fun m=>by have:=(h.gg g m).2.1;omega,fun m=>by have:=(h.mm g m).2.1;omega⟩
 ·intro i y ds hy hd2
  by_cases hi:i<xs.length
  ·rw[aO hi] at hy
   rw[aO (by omega)] at hd2;exact(o4 i y ds hy hd2).kp hk hGn (fun _ m=>m)
  ·have e:i=xs.length:=by
    have:=(lQ.1 hy).1;rw[zJ,bY] at this;omega
   subst e;rw[dH (vQ _)] at hy;rw[dH (by omega)] at hd2;rw[o1] at hd2;simp only[uK,oR,vX] at hy hd2;subst hy hd2;exact hx.kp hk hGn (fun _ m=>m)
open K (Cl)
open K.P (HSt Keeps oQ eX rJ kX HouK DskM xG xZ dQ Ev Sn dA zZ TwoB sJ kV dD yZ qG gZ eF enc gM)
theorem xO:(prog.info? 2).map (fun i=>(i.zero,i.size,i.bytes))=some (some (.int .i64 0),1,8):=by kernel_rfl
theorem dwZ:(prog.info? 51).map (fun i=>(i.zero,i.size,i.bytes))=some (some (.agg #[.int .i64 0,.slice none 0 0,.int .i64 0,.int .i64 0,.int .i64 0,.slice none 0 0]),6,80):=by kernel_rfl
def awZ (l:List K.Ds.jQ) (ts:List (List Int)) (words:List Int) (xs:List Stp) (w:World):Ending->World->Prop:=fun e w' =>
 ∃ W0 bd bw a c hv ov s os M G,e=.returned (.tuple #[ov,.slice a words.length c,.bool true])/\tJ l ts ⟨words,-1,false,false,[]⟩ xs=(s,os)/\Below w.heap.size w w'/\HuI W0 w' (w.heap.size+1) bd bw a c l ts hv ov s os M G
theorem dwJ {W:World}{v:Value}{words:List Int}{base:Nat}(h:W.ownsRow base 2 1 v words.length (words.map (.int .i64)))(hne:v≠.slice none 0 0):∃ a c bw,v=.slice a words.length c/\a=some ⟨bw,0,none⟩/\base<=bw/\bw<W.heap.size/\DskM (W.alloc (.cells #[v,.int .i64 (-1),.bool false] 87)) W.heap.size bw a c words (-1):=by
 rcases h.2 with⟨h1,_⟩|⟨g,cap,cur,rfl,hb,hc,hn,hm,hs,hx⟩
 ·exact absurd h1 hne
 ·have hlt:=(jU.1 hc).1
  refine⟨_,cap,g,rfl,rfl,hb,hlt,?_⟩;have hbx:=Bx.new W [.slice (some ⟨g,0,none⟩) words.length cap,.int .i64 (-1),.bool false] 87 rfl;refine⟨hbx 0 _ rfl,hbx 1 _ rfl,hbx 2 _ rfl,fun _=>rfl,fun i x hi=>?_,hn,by omega⟩
  have hcl:Cl W g i (.int .i64 x):=by
   refine⟨?_,?_,hlt⟩
   ·have h2:(words.map (Value.int .i64))[i]? = some (.int .i64 x):=by rw[xA,hi];rfl
    have h3:=h.cells (g:=g) rfl i _ h2;have e:(⟨g,0,none⟩:Addr).add i=⟨g,i,none⟩:=by unfold Addr.add;split <;> simp_all
    rwa [e] at h3
   ·simp[World.frozen?,hc]
  exact hcl.at (ba _ _)
theorem dxQ {P:Program}{w:World}{ops:Array Oper}{rest:List Oper}{o:Oper}{a:Act}{Q:Exit->Act->World->Prop}(hgd:o.guard=none)(s x:Operand)(t:TypeId)
  (ho:o.op=.call { callee:=.builtin .append,args:=#[s,x],argTypes:=#[t,t] })
  (base:Nat) (e:TypeId) (i:TypeInfo) (z:Value) (size bytes:Nat) (ht:P.underlying t=some (.slice e)) (hi:P.info? e=some i) (hz:i.zero=some z)
  (hsize:i.size=size) (hby:i.bytes=bytes) (hzs:z.cells.size=size) (hsz:0<size)
  (v:Value) (n:Nat) (xs:List Value) (hs:a.eval s=v) (hown:w.ownsRow base e size v n xs)
  (wa:Option Addr) (m c:Nat) (news:List Value) (hx:a.eval x=.slice wa m c) (h0:wa=none->m=0/\c=0) (hl:news.length=m*size) (hnews:∀ ad,wa=some ad->∀ j u,news[j]? = some u->w.cell? (ad.add j)=some u) (h1:∀ u∈news,u.oneCell' = true)
  (h63:n+m<=maxLen) (hbytes:(n+m)*bytes<=140737488355328) (hbase:base<=w.heap.size) (hne:v≠.slice none 0 0)
  (h:∀ v' w',w'.ownsRow base e size v' (n+m) (xs++news)->w.grownBy w' v.ownBlock->v'≠.slice none 0 0->wpList P ops Q rest (a.put o.dst v') w'):wpList P ops Q (o::rest) a w:=by
 cases wa with
 | none =>
  obtain⟨rfl,rfl⟩:=h0 rfl;obtain rfl:news=[]:=xK.1 (by omega);exact wpList_append_own_none hgd s x t ho base e i size ht hi v n xs hs hown hx (h v w (by simpa using hown) ⟨rfl,rfl,rfl,vQ _,fun _ _ _=>rfl⟩ hne)
 | some ad=>exact vK w hgd s x t ho base e i z size bytes ht hi hz hsize hby hzs hsz v n xs hs hown ad m c news hx hl (hnews ad rfl) h1 h63 hbytes hbase fun v' w' h2 h3 h4=>h v' w' h2 h3 (fun c=>hne (h4.1 c).1)
theorem dxX (s:HSt)(e:K.P.En):(xZ s e).1.disk.length=s.disk.length:=by
 unfold xZ
 repeat' split
 all_goals first|rfl|exact K.P.asJ (d1:=_) (l1:=_) (ok:=_) rfl
theorem dxZ {α:Type}(wr:Int)(s:HSt)(e:Ev α):(dQ wr s e).1.disk.length=s.disk.length:=by
 cases e <;> simp only[dQ] <;> (repeat' split) <;> first|rfl|exact dxX _ _
theorem dxJ (l:List K.Ds.jQ)(ts:List (List Int))(s:HSt)(x:Stp):(lX l ts s x).1.disk.length=s.disk.length:=by
 unfold lX;split
 ·simp
 ·exact dxZ _ _ _
theorem awJ (l:List K.Ds.jQ)(ts:List (List Int)):∀ (xs:List Stp) (s:HSt),(tJ l ts s xs).1.disk.length=s.disk.length
 | [],_=>rfl
 | x::xs,s=>by simp only[tJ];rw[awJ l ts xs,dxJ]
theorem zG (w:World)(G:Nat->Prop)(er:Int):tX w G ⟨er,none,[]⟩ [.int .i64 er,.slice none 0 0,.int .i64 0,.int .i64 0,.int .i64 0,.slice none 0 0] :=
 ⟨_,_,_,_,_,rfl,.inl ⟨rfl,rfl,rfl,rfl,rfl⟩,⟨rfl,.inl ⟨rfl,rfl⟩⟩,fun g hg=>by cases hg⟩
