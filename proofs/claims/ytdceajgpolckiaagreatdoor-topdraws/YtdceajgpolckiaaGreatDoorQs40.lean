import Derived.Test.YtdceajgpolckiaaGreatDoorQs39
import Derived.ChangeSame
open Go.Proofs.Tryz
set_option linter.unusedSimpArgs false
set_option maxHeartbeats 16000000
set_option maxRecDepth 100000
namespace Go.Proofs.YtdceajgpolckiaaGreatDoor
section
open Go.RowKit Ds
theorem ayJ {L:Nat}(h:L<=6):1<=2 ^ L/\2 ^ L<=64:=by
 refine⟨Nat.pow_pos (by decide),?_⟩;have:=Nat.pow_le_pow_right (n:=2) (by decide) h;simpa using this
theorem azQ {a b:World}{r:Option Nat}(h:a.grownBy b r)(n:Nat):a.grownBy (b.drewN n) r:=by
 induction n with
 | zero=>exact h
 | succ n ih=>exact xY ih ⟨rfl,rfl,rfl,jQ _,fun _ _ _=>rfl⟩
theorem azX {w:World}{g n:Nat}{xs:List Int}(h:K.RowI w g xs):K.RowI (w.drewN n) g xs:=h.keep (N:=w.heap.size) ⟨rfl,rfl,rfl,jQ _,fun _ _=>rfl⟩ h.lt
def nG (w:World) (h:Nat) (ts qs bs:List Value):Prop:=Bx w h ts/\Bx w (h+1) qs/\Bx w (h+2) bs
theorem nG.at {w w':World}{h:Nat}{ts qs bs:List Value}(x:nG w h ts qs bs)(hb:Below w.heap.size w w'):nG w' h ts qs bs:=⟨x.1.at hb,x.2.1.at hb,x.2.2.at hb⟩
theorem nG.new (w:World)(ts qs bs:List Value):nG (((w.alloc (.cells ts.toArray 25)).alloc (.cells qs.toArray 66)).alloc (.cells bs.toArray 32)) w.heap.size ts qs bs :=
 ⟨((Bx.new w ts 25 rfl).at (ba _ _)).at (ba _ _),(Bx.new _ qs 66 (by simp)).at (ba _ _),Bx.new _ bs 32 (by simp)⟩
theorem d0Z (B:Nat)(cv tv v0 v1 v2 v3 v4 v5:Value)(na:Option Addr)(nn nd:Nat)(l:List K.Ds.vQ)(rs:List K.Rw)(q:K.Ds.Qu)(u d lo hi bu bd L:Int)(w:World)(hB:B<=w.heap.size)(hp:K.dQ w B cv l)(hr:K.iQ w B tv rs)(hq:K.Qm w B q v0 v1 v2 v3 v4 v5)(hlo:tQ lo)(hhi:tQ hi)(hL:tQ L) :
  Calls prog 5 #[.agg #[cv,tv],.agg #[v0,v1,v2,v3,v4,v5,.int .i64 u,.int .i64 d,.int .i64 lo,.int .i64 hi,.slice na nn nd],.agg #[.int .i64 bu,.int .i64 bd],.int .i64 L] w fun e w'=>e=.returned (.bool true)/\Below w.heap.size w w':=by
 have HP:Hid (K.dQ w B cv l):=hp;have HRW:Hid (K.iQ w B tv rs):=hr;have HQ:Hid (K.Qm w B q v0 v1 v2 v3 v4 v5):=hq;have HI64:Hid (tQ lo/\tQ hi):=⟨hlo,hhi⟩;obtain⟨hL1,hL2⟩:=hL;obtain⟨la,lc,rfl,_⟩:=hp.slice;obtain⟨ra,rc,rfl,_⟩:=hr.slice;obtain⟨k0,k1,k2,k3,a4,n4,c4,a5,n5,c5,rfl,rfl,rfl,rfl,rfl,rfl⟩:=hq.shape;obtain⟨⟨ls,p',q',er⟩,hA⟩:∃ x,cV u d lo hi l (K.rr rs) q=x:=⟨_,rfl⟩;have HA:Hid (cV u d lo hi l (K.rr rs) q=(ls,p',q',er)):=hA;obtain⟨X,hX⟩:∃ X,((w.alloc (.cells #[.slice la l.length lc,.slice ra rs.length rc] 25)).alloc (.cells #[.int .i64 k0,.string k1,.int .i64 k2,.int .i64 k3,.slice a4 n4 c4,.slice a5 n5 c5,.int .i64 u,.int .i64 d,.int .i64 lo,.int .i64 hi,.slice na nn nd] 66)).alloc (.cells #[.int .i64 bu,.int .i64 bd] 32)=X:=⟨_,rfl⟩;have hb0:Below w.heap.size w X:=hX▸bal (bal (ba _ _) _) _;have HBX:Hid (nG X w.heap.size [.slice la l.length lc,.slice ra rs.length rc] [.int .i64 k0,.string k1,.int .i64 k2,.int .i64 k3,.slice a4 n4 c4,.slice a5 n5 c5,.int .i64 u,.int .i64 d,.int .i64 lo,.int .i64 hi,.slice na nn nd] [.int .i64 bu,.int .i64 bd]):=hX▸nG.new w [.slice la l.length lc,.slice ra rs.length rc] [.int .i64 k0,.string k1,.int .i64 k2,.int .i64 k3,.slice a4 n4 c4,.slice a5 n5 c5,.int .i64 u,.int .i64 d,.int .i64 lo,.int .i64 hi,.slice na nn nd] [.int .i64 bu,.int .i64 bd];have ka:=dyX X;clear hp hr hq hlo hhi hA;go_enter func5,ntmps5;go_wp2_with fail;refine ka.mono ?_;rintro e1 w1 ⟨rfl,hb1⟩;have hbw1:Below w.heap.size w w1:=bt hb0 hb1;have HB1:Hid (nG w1 w.heap.size [.slice la l.length lc,.slice ra rs.length rc] [.int .i64 k0,.string k1,.int .i64 k2,.int .i64 k3,.slice a4 n4 c4,.slice a5 n5 c5,.int .i64 u,.int .i64 d,.int .i64 lo,.int .i64 hi,.slice na nn nd] [.int .i64 bu,.int .i64 bd]):=HBX.out.at hb1;have kA:=aaX B u d lo hi _ _ _ _ _ _ _ _ l rs q w1 (aQ hB hbw1.size) (HP.out.at hB hbw1) (HRW.out.at hB hbw1) (K.Qm.at HQ.out hB hbw1) HI64.out.1 HI64.out.2 ls p' q' er HA.out;have t0:=(HB1.out.1 0 _ rfl).c;have t1:=(HB1.out.1 1 _ rfl).c;have g0:=(HB1.out.2.1 0 _ rfl).c;have g1:=(HB1.out.2.1 1 _ rfl).c;have g2:=(HB1.out.2.1 2 _ rfl).c;have g3:=(HB1.out.2.1 3 _ rfl).c;have g4:=(HB1.out.2.1 4 _ rfl).c;have g5:=(HB1.out.2.1 5 _ rfl).c;have g6:=(HB1.out.2.1 6 _ rfl).c;have g7:=(HB1.out.2.1 7 _ rfl).c;have g8:=(HB1.out.2.1 8 _ rfl).c;have g9:=(HB1.out.2.1 9 _ rfl).c;have hsz1:Hid (w.heap.size<w1.heap.size):=(HB1.out.1 0 _ rfl).lt;clear ka hX HBX hb0 hb1;go_wp2_with fail;refine kA.mono ?_;rintro x3 w3 ⟨lv,zs,rfl,hzs,hds,hzl,hb3⟩;have hbw3:Below w.heap.size w w3:=bt hbw1 hb3;have HB3:Hid (nG w3 w.heap.size [.slice la l.length lc,.slice ra rs.length rc] [.int .i64 k0,.string k1,.int .i64 k2,.int .i64 k3,.slice a4 n4 c4,.slice a5 n5 c5,.int .i64 u,.int .i64 d,.int .i64 lo,.int .i64 hi,.slice na nn nd] [.int .i64 bu,.int .i64 bd]):=HB1.out.at hb3;have HDS:Hid (zJ w3 w1.heap.size lv zs):=hds;have HZS:Hid (rds zs=ls):=hzs;obtain⟨lA,lC,rfl,_⟩:=hds;clear kA hzs hzl t0 t1 g0 g1 g2 g3 g4 g5 g6 g7 g8 g9 HB1 hb3 hbw1;obtain⟨W4,hW4⟩:∃ W4,w3.alloc (.cells #[.int .i64 p',.int .i64 q'] 32)=W4:=⟨_,rfl⟩;have hb4:Below w3.heap.size w3 W4:=hW4▸ba _ _;have hbw4:Below w.heap.size w W4:=bt hbw3 hb4;have HB4:Hid (nG W4 w.heap.size [.slice la l.length lc,.slice ra rs.length rc] [.int .i64 k0,.string k1,.int .i64 k2,.int .i64 k3,.slice a4 n4 c4,.slice a5 n5 c5,.int .i64 u,.int .i64 d,.int .i64 lo,.int .i64 hi,.slice na nn nd] [.int .i64 bu,.int .i64 bd]):=HB3.out.at hb4;by_cases he:¬ er=0
 ·have he1:(er == 0)=false:=by simpa using he
  have he2:(er != 0)=true:=by simpa using he
  go_wp2;go_ret;exact⟨rfl,hbw4⟩
 obtain rfl:er=0:=by omega
 clear he;by_cases h3:L<0
 ·go_wp2
  go_ret;exact⟨rfl,hbw4⟩
 by_cases h4:6<L
 ·go_wp2
  go_ret;exact⟨rfl,hbw4⟩
 obtain⟨L,rfl⟩:=aU (show 0<=L by omega);have hL6:L<=6:=by omega
 obtain⟨hon,hwr⟩:=atJ HA.out HQ.out;have HWR:Hid (K.Ds.oZ l (K.rr rs)=0):=hwr;have hzl:Hid (1<=zs.length):=by rw[Hid,<-aaQ,HZS.out];exact hon
 clear hon hwr;by_cases hz:1<zs.length
 ·have z1:¬ ((zs.length:Int)=1):=by omega
  have z2:(1:Int)<(zs.length:Int):=by omega
  have z3:((zs.length:Int) == 1)=false:=by simpa using z1
  go_wp2;go_ret
  first
  | exact⟨rfl,hbw4⟩
  | exact⟨by simp;omega,hbw4⟩
 obtain⟨⟨zv,ts⟩,rfl⟩:∃ z,zs=[z]:=List.length_eq_one_iff.1 (by have:=hzl.out;omega);clear hz hzl;simp only[nD,List.length_nil,oX];have htel:=(pT HA.out).1;rw[<-HZS.out] at htel;have HOW:Hid (qY (rd ts)=(rd ts,0)):=(htel (rd ts) (by simp[rds])).1;have HSG:Hid (∀ p∈rd ts,∃ z,p.1=[z]):=(htel (rd ts) (by simp[rds])).2;have HAN:Hid (cV u d lo hi l (K.rr rs) q=([rd ts],p',q',0)):=by rw[Hid,HA.out,<-HZS.out];rfl
 have HD:Hid (Dis (rd ts)):=(aO HOW.out).2;have hfw:ts.length<=4096:=by have:=HD.out.few;rwa [oY] at this
 have hmk:=K.jL ts.length (by omega)
 obtain⟨lb,lf,rfl,hlb,HLC,HPT⟩:∃ lb lf,lA=some ⟨lb,lf,none⟩/\lb<w3.heap.size/\Hid (w3.cell? ⟨lb,lf,none⟩=some zv)/\Hid (pQ w3 w3.heap.size zv ts):=by
  obtain⟨a',c',hv,_,_,hi,hx⟩:=HDS.out.dss (by have:=hsz1.out;omega);simp only[eJ] at hv;obtain⟨rfl,-,rfl⟩:=hv;obtain⟨b,f,rfl,h2,h3⟩:=hx (by simp);exact⟨b,f,rfl,h2,h3 0 (zv,ts) rfl,hi (zv,ts) (by simp)⟩
 obtain⟨za,zc,rfl,hzc,hzn,_⟩:=id HPT.out;have HL4:Hid (W4.cell? ⟨lb,lf,none⟩=some (.slice za ts.length zc)):=(hb4.cell (p:=⟨lb,lf,none⟩) hlb).trans HLC.out;have HP4:Hid (pQ W4 w3.heap.size (.slice za ts.length zc) ts):=HPT.out.at (jQ _) hb4;have h34:w3.heap.size<=W4.heap.size:=hb4.size;have hlb4:lb<W4.heap.size:=by omega
 have l0:=HL4.out;clear htel HZS HA HDS HOW HLC HPT hb4 hbw3 HB3 hsz1;obtain⟨A,hA0⟩:∃ A,2 ^ L=A:=⟨_,rfl⟩;have HAA:Hid (2 ^ L=A):=hA0;clear hA0;have hAb:1<=A/\A<=64:=by rw[<-HAA.out];exact ayJ hL6
 go_wp2
 go_loop [12,13] (fun av iv=>∃ i a:Nat,av=.int .i64 (a:Int)/\iv=.int .i64 (i:Int)/\i<=L/\a<=64/\Hid (a=2 ^ i)) (fun _ iv=>L - (intOf iv).toNat)
 case atStart=>exact⟨0,1,rfl,rfl,mQ _,by omega,rfl⟩
 case round =>
  obtain⟨i,A',rfl,rfl,hiL,ha,HI⟩:=hrel;by_cases h5:i<L
  ·have ha2:2*A'<=64:=by
    have:=(ayJ (L:=i+1) (by omega)).2;rw[eR,<-HI.out] at this;omega
   go_wp2
   go_round
   case rel=>exact⟨i+1,2*A',by go_num,by go_num,h5,ha2,by rw[Hid,HI.out,eR];omega⟩
   case measure=>simp[intOf];omega
  ·obtain rfl:A' = A:=by rw[HI.out,<-HAA.out,show i=L by omega]
   clear HI ha;go_wp2;clear hW4 l0
   go_loopw [15] (fun kv wr=>∃ (k:Nat) (xs:List Int),kv=.int .i64 (k:Int)/\k<=A'/\Hid (oA (rd ts) L k xs)/\Hid (K.RowI wr W4.heap.size xs)/\Below W4.heap.size W4 wr) (fun kv _=>A' - (intOf kv).toNat)
   case atStart=>exact⟨0,List.replicate ts.length 0,rfl,mQ _,by have:=oA.start (rd ts) L;rwa [oY] at this,K.RowI.made _ _,ba _ _⟩
   case round =>
    obtain⟨k,xs,rfl,hk,HC,HR,hbl⟩:=hrel;have hrl:=HR.out.lt;have hbw:Below w.heap.size w wr:=bt hbw4 hbl;by_cases h6:k<A'
    ·have HBr:Hid (nG wr w.heap.size [.slice la l.length lc,.slice ra rs.length rc] [.int .i64 k0,.string k1,.int .i64 k2,.int .i64 k3,.slice a4 n4 c4,.slice a5 n5 c5,.int .i64 u,.int .i64 d,.int .i64 lo,.int .i64 hi,.slice na nn nd] [.int .i64 bu,.int .i64 bd]):=HB4.out.at hbl
     go_upto_region 17 with fail;refine wp_region_noPanic (d0X (fun _ _ _ _ _ h=>h) _ _ _ _ _ _ _ _ _ _ _ _ _ _ _ _ _ _ _ _ _ _ _ _ _ _ _ _ _ _ _ _ _ _ _ _ _ _ _ _ _ _ _ _ _ _ _ _ _ _ _ _ _ _ _ _ _ _ _ _ _ _ _ _ _ _ _ _ _ _ _ _ _ _ _ _ _ _ _ _ _ _ _ _ _ _ _ _ _ _ _ _ _ _ _ _ _ _ _ _ _ _ _ _ _ _ _ _ _ _ _ _ _ _ _ _ _ _ _ _ _ _ _ _ _ _ _ _ _ _ _ _ _ _ _ _ _ _ _ _ _ _ _ _ _ _ _ _ _ _ _ _ _ _ _ _ _ _ _ _ _ _ _ _ _ _ _ _ _ _ _ _ _ _ _ _ _ _ _ _ _ _ _ wr (w.heap.size+1) k L k0 k1 k2 k3 a4 n4 c4 a5 n5 c5 u d lo hi (by omega) (by omega) (fun W hW=>?_) ?_)
     ·exact⟨((HBr.out.2.1.at hW) 0 _ rfl).c,((HBr.out.2.1.at hW) 1 _ rfl).c,((HBr.out.2.1.at hW) 2 _ rfl).c,((HBr.out.2.1.at hW) 3 _ rfl).c,((HBr.out.2.1.at hW) 4 _ rfl).c,((HBr.out.2.1.at hW) 5 _ rfl).c,((HBr.out.2.1.at hW) 6 _ rfl).c,((HBr.out.2.1.at hW) 7 _ rfl).c,((HBr.out.2.1.at hW) 8 _ rfl).c,((HBr.out.2.1.at hW) 9 _ rfl).c⟩
     intro u75 u76 u77 u78 u79 u80 u81 u82 u83 u84 u85 u86 b1 xa xc wf hbf hO1 hge hxc hI;refine NoPanic.normal ?_;have HBf:Hid (nG wf w.heap.size [.slice la l.length lc,.slice ra rs.length rc] [.int .i64 k0,.string k1,.int .i64 k2,.int .i64 k3,.slice a4 n4 c4,.slice a5 n5 c5,.int .i64 u,.int .i64 d,.int .i64 lo,.int .i64 hi,.slice na nn nd] [.int .i64 bu,.int .i64 bd]):=HBr.out.at hbf;have HO1:Hid (Bx wf b1 [.string mG,.int .i64 k0,.string k1,.int .i64 k2,.int .i64 k3,.slice a4 n4 c4,.slice a5 n5 c5,.int .i64 u,.int .i64 d,.int .i64 lo,.int .i64 hi,.slice xa (dg k L).length xc]):=hO1.bx;have HIX:Hid (xQ wf wf.heap.size 0 (.slice xa (dg k L).length xc) (dg k L)):=hI 0 (by omega);have HXC:Hid (xa=none->xc=0):=hxc;have hbWf:Below W4.heap.size W4 wf:=bt hbl hbf;clear hO1 hI hxc hge HBr;go_upto_region 18 with fail;refine aY ?_;refine duX rfl 41 0 _ rfl _ rfl _ rfl _ bl1 ?_;refine cR rfl 32 _ rfl (w.heap.size+2) 0 rfl [.int .i64 bu,.int .i64 bd] _ (awZ HBf.out.2.2) underlying32 rfl dzJ ?_;refine duZ rfl 41 0 2 3 _ _ _ rfl _ rfl _ _ _ rfl rfl rfl _ (blP bu bd) ?_;refine cR rfl 39 _ rfl b1 0 rfl [.string mG,.int .i64 k0,.string k1,.int .i64 k2,.int .i64 k3,.slice a4 n4 c4,.slice a5 n5 c5,.int .i64 u,.int .i64 d,.int .i64 lo,.int .i64 hi,.slice xa (dg k L).length xc] _ (awZ HO1.out) underlying39 rfl zN ?_;refine dzZ rfl 41 0 4 _ _ rfl _ rfl _ _ rfl rfl _ (blA q k0 k1 k2 k3 a4 n4 c4 a5 n5 c5 u d lo hi (dg k L) xa xc) ?_;refine duJ rfl 26 41 _ _ _ rfl wf.heap.size rfl _ rfl underlying26 _ _ _ rfl rfl rfl _ (duQ _ _ _) ?_;obtain⟨W5,hW5⟩:∃ W5,wf.alloc (.cells (sfl [vA 1 0 0 ⟨#[]⟩,vA 2 bu bd mG,thr q k0 k1 k2 k3 a4 n4 c4 a5 n5 c5 u d lo hi (dg k L) xa xc]).toArray 41)=W5:=⟨_,rfl⟩;have hb5:Below wf.heap.size wf W5:=hW5▸ba _ _;have hbW5:Below W4.heap.size W4 W5:=bt hbWf hb5;have hbw5:Below w.heap.size w W5:=bt hbw4 hbW5;have HG5:Hid (xV W5 wf.heap.size 41 (sfl [vA 1 0 0 ⟨#[]⟩,vA 2 bu bd mG,thr q k0 k1 k2 k3 a4 n4 c4 a5 n5 c5 u d lo hi (dg k L) xa xc])):=hW5▸xV.new _ _ _;have HB5:Hid (nG W5 w.heap.size [.slice la l.length lc,.slice ra rs.length rc] [.int .i64 k0,.string k1,.int .i64 k2,.int .i64 k3,.slice a4 n4 c4,.slice a5 n5 c5,.int .i64 u,.int .i64 d,.int .i64 lo,.int .i64 hi,.slice na nn nd] [.int .i64 bu,.int .i64 bd]):=HBf.out.at hb5;have HR5:Hid (K.RowI W5 W4.heap.size xs):=HR.out.keep (bt hbf hb5) hrl;have kH:=d0Q W5 B wf.heap.size _ _ l rs q k0 k1 k2 k3 a4 n4 c4 a5 n5 c5 u d lo hi bu bd p' q' (dg k L) xa xc (rd ts) (aQ hB hbw5.size) (HP.out.at hB hbw5) (HRW.out.at hB hbw5) (K.Qm.at HQ.out hB hbw5) HI64.out.1 HI64.out.2 (HIX.out.at2 hb5) HXC.out HG5.out HWR.out HAN.out (dyZ k L (by omega)) HSG.out;have KH:Hid _:=kH;have hz5:Hid (W4.heap.size<W5.heap.size):=zX hrl (bt hbf hb5).size;rw[hW5];clear hW5 kH hb5 HG5 HIX HXC HO1 HBf hbWf hbf;go_upto_region 19 with fail;refine wp_region_noPanic (dyQ (fun _ _ _ _ _ h=>h) _ _ _ _ _ _ _ _ _ _ _ _ _ _ _ _ _ _ _ _ _ _ _ _ _ _ _ _ _ _ _ _ _ _ _ _ _ _ _ _ _ _ _ _ _ _ _ _ _ _ _ _ _ _ _ _ _ _ _ _ _ _ _ _ _ _ _ _ _ _ _ _ _ _ _ _ _ _ _ _ _ _ _ _ _ _ _ _ _ _ _ _ _ _ _ _ _ _ _ _ _ _ _ _ _ _ _ _ _ _ _ _ _ _ _ _ _ _ _ _ _ _ _ _ _ _ _ _ _ _ _ _ _ _ _ _ _ _ _ _ _ _ _ _ _ _ _ _ _ _ _ _ _ _ _ _ _ _ _ _ _ _ _ _ _ _ _ _ _ _ _ _ _ _ _ _ _ _ _ _ _ _ _ _ _ W5 w.heap.size _ _ (fun ov W=>kL (rd ts) (dg k L) W5.heap.size ov W) (fun W hW=>⟨((HB5.out.1.at hW) 0 _ rfl).c,((HB5.out.1.at hW) 1 _ rfl).c⟩) KH.out ?_);intro u93 u94 u95 u96 u97 u98 u99 u100 ov sl w6 hb6 hR;refine NoPanic.normal ?_;obtain⟨g,c,e2,e3,t2,x2,ta,tn,tc,ya,yn,yc,us2,lu2,ld2,us3,lu3,ld3,rfl,hg1,hg2,r2,r3,hcase⟩:=hR;have hbw6:Below W4.heap.size W4 w6:=bt hbW5 hb6;have hz6:Hid (W5.heap.size<=w6.heap.size):=hb6.size;have hbww6:Below w.heap.size w w6:=bt hbw4 hbw6;have HR6:Hid (K.RowI w6 W4.heap.size xs):=HR5.out.keep hb6 HR5.out.lt;have q0:w6.cell? ⟨g,6,none⟩=some (.int .i64 e2):=r2 0 _ rfl;have q1:w6.cell? ⟨g,12,none⟩=some (.int .i64 e3):=r3 0 _ rfl;have q2:w6.cell? ⟨g,13,none⟩=some (.slice ta tn tc):=r3 1 _ rfl;have q3:w6.cell? ⟨g,14,none⟩=some (.int .i64 us3):=r3 2 _ rfl;have q4:w6.cell? ⟨g,15,none⟩=some (.int .i64 lu3):=r3 3 _ rfl;have q5:w6.cell? ⟨g,16,none⟩=some (.int .i64 ld3):=r3 4 _ rfl;have q6:w6.cell? ⟨g,17,none⟩=some (.slice ya yn yc):=r3 5 _ rfl;obtain⟨W7,hW7⟩:∃ W7,w6.alloc (.cells #[.int .i64 e3,.slice ta tn tc,.int .i64 us3,.int .i64 lu3,.int .i64 ld3,.slice ya yn yc] 51)=W7:=⟨_,rfl⟩;have hb7:Below w6.heap.size w6 W7:=hW7▸ba _ _;have hbW7:Below W4.heap.size W4 W7:=bt hbw6 hb7;have hbw7:Below w.heap.size w W7:=bt hbw4 hbW7;have HY:Hid (Bx W7 w6.heap.size [.int .i64 e3,.slice ta tn tc,.int .i64 us3,.int .i64 lu3,.int .i64 ld3,.slice ya yn yc]):=hW7▸Bx.new w6 [.int .i64 e3,.slice ta tn tc,.int .i64 us3,.int .i64 lu3,.int .i64 ld3,.slice ya yn yc] 51 rfl;have HR7:Hid (K.RowI W7 W4.heap.size xs):=HR6.out.keep hb7 HR6.out.lt;have s0:W7.cell? ⟨g,6,none⟩=some (.int .i64 e2):=(hb7.cell (p:=⟨g,6,none⟩) hg2).trans q0;have s1:=(HY.out 0 _ rfl).c;have s2:=(HY.out 1 _ rfl).c;have HCA:Hid _:=hcase;clear hcase r2 r3 KH HB5 hb6 hbW5 hbw5 HR5 HR6 hbw6;by_cases h2:¬ e2=0
     ·have h2':(e2 == 0)=false:=by simpa using h2
      have h2'':(e2 != 0)=true:=by simpa using h2
      go_wp2;go_ret;exact⟨rfl,hbw7⟩
     obtain rfl:e2=0:=by omega
     clear h2;rcases HCA.out with h|h|h|⟨h,hno⟩|⟨h,z,gz,hso,rfl,rfl,rfl,hz1,hz2,hrz⟩
     ·exact absurd rfl h
     ·subst h
      clear HCA;go_wp2;go_ret;exact⟨rfl,hbw7⟩
     ·subst h
      clear HCA;go_wp2;go_ret;exact⟨rfl,hbw7⟩
     ·subst h
      have HC2:Hid (oA (rd ts) L (k+1) xs):=HC.out.none hno;clear HCA hno;go_wp2
      go_roundw
      case rel=>exact⟨k+1,xs,by go_num,h6,HC2,HR7,hbW7⟩
      case measure=>simp[intOf];omega
     ·subst h
      have HOut:Hid (wY (rd ts) (dg k L)=some [z]):=hso;have HRZ:Hid (K.RowI W7 gz [z]):=hrz.keep hb7 hz2;have HGZ:Hid (W5.heap.size<=gz/\gz<W7.heap.size):=⟨hz1,zX hz2 hb7.size⟩;have h57:Hid (W4.heap.size<W5.heap.size/\W5.heap.size<=w6.heap.size/\w6.heap.size<W7.heap.size):=⟨hz5.out,hz6.out,(HY.out 0 _ rfl).lt⟩;have m0:W7.cell? ⟨lb,lf,none⟩=some (.slice za ts.length zc):=(hbW7.cell (p:=⟨lb,lf,none⟩) hlb4).trans HL4.out;have HS2:Hid (W7.cell? ⟨w6.heap.size,1,none⟩=some (.slice (some ⟨gz,0,none⟩) 1 1)):=s2;clear HCA hso hrz hz1 hz2;obtain⟨wo,hwo⟩:∃ wo:World,wo=wr:=⟨_,rfl⟩;subst hwo;go_wp2;clear hW7 q0 q1 q2 q3 q4 q5 q6 s0 s1 s2
      go_loopw [143] (fun iv wq=>∃ (i:Nat) (ys:List Int),iv=.int .i64 (i:Int)/\i<=ts.length/\Hid (fU (rd ts) [z] xs ys i)/\Hid (K.RowI wq W4.heap.size ys)/\Hid (W7.grownBy wq (some W4.heap.size))) (fun iv _=>ts.length - (intOf iv).toNat)
      case atStart=>exact⟨0,xs,rfl,mQ _,fU.start _ _ _,HR7,cX _ _⟩
      case round =>
       obtain⟨i2,ys,rfl,hi2,HBm,HRq,HGq⟩:=hrel;have hzq:=HGq.out.size;have HBq:Hid (Below W4.heap.size W4 wr):=hbW7.trans (cG HGq.out (jQ _) hbW7.size);by_cases h7:i2<ts.length
       ·obtain⟨bb,bo,sa2,sc2,xs2,kk,rfl,hbb,hs,c1',c2',hIx⟩:=HP4.out.get h34 HBq.out h7
        have HS:Hid ((rd ts)[i2]? = some (xs2,kk)):=sJ hs;obtain⟨H1,H2,H3⟩:=h57.out;have g1:wr.cell? ⟨w6.heap.size,1,none⟩=some (.slice (some ⟨gz,0,none⟩) 1 1):=HGq.out.cell HS2.out (by simp;omega);obtain⟨qq,hqq,hqk⟩:=HBm.out.le HC.out (j:=i2) (by rw[oY];exact h7);have HQQ:Hid (ys[i2]? = some (qq:Int)):=hqq;have r1:=HRq.out.cells i2 qq hqq;have r2:=HRq.out.thaw i2 ((gQ.1 hqq).1);have hcl:=HRq.out.lt;have hbl1:w6.heap.size<wr.heap.size:=by omega
        have HIo:Hid (xQ wr wr.heap.size W4.heap.size (.slice (some ⟨gz,0,none⟩) 1 1) [z]):=((axX HRZ.out (by simp) W4.heap.size (by have:=HGZ.out.1;omega)).gb HGq.out).mono hzq (.inl rfl);have HIx:Hid (xQ wr wr.heap.size wr.heap.size (.slice sa2 xs2.length sc2) xs2):=hIx.mono (by have:=HBq.out.size;omega) (.inr (by have:=HBq.out.size;omega));generalize hO:Obj.cells #[Value.slice sa2 xs2.length sc2,Value.int IntKind.i64 kk] 77=O;have f1:(wr.alloc O).cell? ⟨w6.heap.size,1,none⟩=some (.slice (some ⟨gz,0,none⟩) 1 1):=((ba wr O).cell (p:=⟨w6.heap.size,1,none⟩) hbl1).trans g1;have f2:(wr.alloc O).cell? ⟨wr.heap.size,0,none⟩=some (.slice sa2 xs2.length sc2):=by rw[<-hO];exact nc _ _ 0 _ rfl rfl
        have f3:(wr.alloc O).cell? ⟨W4.heap.size,i2,none⟩=some (.int .i64 (qq:Int)):=((ba wr O).cell (p:=⟨W4.heap.size,i2,none⟩) hcl).trans r1;have f4:(wr.alloc O).frozen? ⟨W4.heap.size,i2,none⟩=false:=((ba wr O).frozen (p:=⟨W4.heap.size,i2,none⟩) hcl).trans r2;have HIo2:Hid (xQ (wr.alloc O) (wr.heap.size+1) W4.heap.size (.slice (some ⟨gz,0,none⟩) 1 1) [z]):=(HIo.out.keep (ba _ _)).mono (by omega) (.inl rfl);have HIx2:Hid (xQ (wr.alloc O) (wr.heap.size+1) wr.heap.size (.slice sa2 xs2.length sc2) xs2):=(HIx.out.keep (ba _ _)).mono (by omega) (.inl rfl);have HGO:Hid (W7.grownBy (wr.alloc O) (some W4.heap.size)):=eU HGq.out _;have HRO:Hid (K.RowI (wr.alloc O) W4.heap.size ys):=HRq.out.keep (ba _ _) hcl;subst hO;obtain⟨r1',HCm⟩:∃ r1,Hid (jZ xs2 [z]=r1):=⟨_,rfl⟩;obtain⟨WO,hWO⟩:∃ WO,wr.alloc (.cells #[.slice sa2 xs2.length sc2,.int .i64 kk] 77)=WO:=⟨_,rfl⟩;rw[hWO] at f1 f2 f3 f4 HIo2 HIx2 HGO HRO;have kC:=a6X (wr.heap.size+1) wr.heap.size W4.heap.size _ _ xs2 [z] WO HIx2.out HIo2.out r1' HCm.out;clear hqq hs hIx HIo HIx g1 H1 H2 H3 r1 r2;go_wp2_with fail;refine kC.mono ?_;rintro x8 w8 ⟨rfl,qn,rfl⟩;clear kC hWO;have f3':(WO.drewN qn).cell? ⟨W4.heap.size,i2,none⟩=some (.int .i64 (qq:Int)):=by simpa using f3
        have f4':(WO.drewN qn).frozen? ⟨W4.heap.size,i2,none⟩=false:=by simpa using f4
        by_cases he:r1' = 0
        ·have HEq:Hid (xs2=[z]):=(gK _ _).1 (HCm.out.trans he)
         subst he;have HB2:Hid (fU (rd ts) [z] xs (ys.set i2 ((qq:Int)+1)) (i2+1)):=HBm.out.yes HS.out HEq.out HQQ.out;go_wp2
         go_roundw
         case rel =>
          refine⟨i2+1,ys.set i2 ((qq:Int)+1),by go_num,h7,HB2,?_,?_⟩
          ·exact(azX HRO.out).set i2 ((qq:Int)+1)
          ·exact sH (azQ HGO.out _) i2 _
         case measure=>simp[intOf];omega
        ·have he':(r1' == 0)=false:=by simpa using he
         have HNe:Hid (xs2≠[z]):=fun h=>he (by rw[<-HCm.out,h];exact sN _);have HB2:Hid (fU (rd ts) [z] xs ys (i2+1)):=HBm.out.no HS.out HNe.out;go_wp2
         go_roundw
         case rel=>exact⟨i2+1,ys,by go_num,h7,HB2,azX HRO.out,azQ HGO.out _⟩
         case measure=>simp[intOf];omega
       ·have HC2:Hid (oA (rd ts) L (k+1) ys):=HBm.out.done (by rw[oY];omega) HC.out HOut.out
        have HBq2:=HBq.out;go_wp2
        go_roundw
        case rel=>exact⟨k+1,ys,by go_num,h6,HC2,HRq,HBq2⟩
        case measure=>simp[intOf];omega
    ·obtain rfl:k=A':=by omega
     have hT:=HD.out.tpos;have hT2:=HD.out.le
     have HX:Hid (∀ (i:Nat) (p:Pt),(rd ts)[i]? = some p->xs[i]? = some ((k:Int)*p.2 / tot (rd ts))):=fun i p hp=>by
      rw[HC.out.2 i p hp];have:=bmZ HD.out L (vX hp);rw[HAA.out] at this;rw[this];have e:(2:Int) ^ L=(k:Int):=by rw[<-HAA.out];simp
      rw[e]
     obtain⟨T,hTT⟩:∃ T,tot (rd ts)=T:=⟨_,rfl⟩;have HT:Hid (tot (rd ts)=T):=hTT;rw[hTT] at hT hT2 HX;clear hTT HC;have m0:wr.cell? ⟨lb,lf,none⟩=some (.slice za ts.length zc):=(hbl.cell (p:=⟨lb,lf,none⟩) hlb4).trans HL4.out;obtain⟨wo,hwo⟩:∃ wo:World,wo=wr:=⟨_,rfl⟩;subst hwo;go_wp2;clear m0
     go_loopw [166] (fun iv wq=>∃ (i:Nat),iv=.int .i64 (i:Int)/\i<=ts.length/\Below wo.heap.size wo wq) (fun iv _=>ts.length - (intOf iv).toNat)
     case atStart=>exact⟨0,rfl,mQ _,uQ _ _⟩
     case round =>
      obtain⟨i2,rfl,hi2,hbq⟩:=hrel;have HBq:Hid (Below W4.heap.size W4 wr):=bt hbl hbq;have HBw:Hid (Below w.heap.size w wr):=bt hbw4 HBq.out;by_cases h7:i2<ts.length
      ·have m1:wr.cell? ⟨lb,lf,none⟩=some (.slice za ts.length zc):=(HBq.out.cell (p:=⟨lb,lf,none⟩) hlb4).trans HL4.out
       obtain⟨bb,bo,sa2,sc2,xs2,kk,rfl,hbb,hs,c1',c2',hIx⟩:=HP4.out.get h34 HBq.out h7;have r0:xs[i2]? = some ((k:Int)*kk / T):=HX.out i2 _ (sJ hs);have hkk:=HD.out.pos (xs2,kk) (vX (sJ hs));have hk2:=qJ.le_tot (Nn.of_pos HD.out.pos) (vX (sJ hs));simp only at hkk hk2;rw[HT.out] at hk2;have HRq:Hid (K.RowI wr W4.heap.size xs):=HR.out.keep hbq hrl;obtain⟨P,hP⟩:∃ P,(k:Int)*kk=P:=⟨_,rfl⟩
       have hPb:0<=P/\P<=549755813888:=by
        rw[<-hP];exact⟨dH (by omega) (by omega),aH (fI (show(k:Int)<=512 by omega) (show kk<=1073741824 by omega) (by omega) (by omega)) (by omega)⟩
       rw[hP] at r0;obtain⟨Q,hQ⟩:∃ Q,P / T=Q:=⟨_,rfl⟩
       have hQb:0<=Q/\Q<=549755813888:=by
        rw[<-hQ];exact⟨mL hPb.1 (by omega),aH (nL _ hPb.1) hPb.2⟩
       rw[hQ] at r0;have r1:=HRq.out.cells i2 Q r0;have hcl:=HRq.out.lt;have hsq:=hbq.size;have hTn:¬ T=0:=by omega
       have wP:IntKind.i64.wrap P=P:=by rw[sY];omega
       have wQ:IntKind.i64.wrap Q=Q:=by rw[sY];omega
       have eQ:P.tdiv T=Q:=by rw[Int.tdiv_eq_ediv_of_nonneg hPb.1];exact hQ
       have hml:∀ u:World,(binOp .mul 3 (.int .i64 (k:Int)) (.int .i64 kk)).run prog u=.ok (.int .i64 P) u:=fun u=>by simp[go_sem,hP,wP]
       have hdv:∀ u:World,(binOp .quo 3 (.int .i64 P) (.int .i64 T)).run prog u=.ok (.int .i64 Q) u:=fun u=>by simp[go_sem,Op.intDiv,hTn,eQ,wQ]
       generalize hO:Obj.cells #[Value.slice sa2 xs2.length sc2,Value.int IntKind.i64 kk] 77=O;have f1:(wr.alloc O).cell? ⟨wr.heap.size,1,none⟩=some (.int .i64 kk):=by rw[<-hO];exact nc _ _ 1 _ rfl rfl
       have f2:(wr.alloc O).cell? ⟨W4.heap.size,i2,none⟩=some (.int .i64 Q):=((ba wr O).cell (p:=⟨W4.heap.size,i2,none⟩) hcl).trans r1;have f3:(wr.alloc O).cell? ⟨lb,lf,none⟩=some (.slice (some ⟨bb,bo,none⟩) ts.length zc):=((ba wr O).cell (p:=⟨lb,lf,none⟩) (by simp only;omega)).trans m1;have HPO:Hid (pQ (wr.alloc O) w3.heap.size (.slice (some ⟨bb,bo,none⟩) ts.length zc) ts):=HP4.out.at h34 (bal HBq.out _);have hbO:Hid (Below wo.heap.size wo (wr.alloc O)):=bal hbq _;have hzO:(wr.alloc O).heap.size=wr.heap.size+1:=by simp
       have hx0:(i2:Int)<(ts.length:Int):=by omega
       have hwr:IntKind.i64.wrap ((IntKind.i64.wrap ((k:Int)*kk)).tdiv T)=Q:=by rw[hP,wP,eQ,wQ]
       have hqq1:(Q != Q)=false:=by simp
       have hqq2:(Q == Q)=true:=by simp
       subst hO;have HN:Hid (Nn (rd ts)/\tot (rd ts)<=4611686018427387904):=⟨Nn.of_pos HD.out.pos,by rw[HT.out];omega⟩;clear hs hIx r0 hP hQ m1;go_wp2_with fail;obtain⟨W,hW⟩:∃ W,wr.alloc (.cells #[.slice sa2 xs2.length sc2,.int .i64 kk] 77)=W:=⟨_,rfl⟩;rw[hW] at f1 f2 f3 HPO hbO hzO ⊢;clear hW;have lw1:wr.heap.size<W.heap.size:=by omega
       have lw2:W4.heap.size<W.heap.size:=by omega
       have lw3:lb<W.heap.size:=by omega
       have lwB:w3.heap.size<=W.heap.size:=by omega
       go_region_held3 (fun w'=>w'.cell? ⟨wr.heap.size,1,none⟩=some (.int .i64 kk)/\w'.cell? ⟨W4.heap.size,i2,none⟩=some (.int .i64 Q)/\w'.cell? ⟨lb,lf,none⟩=some (.slice (some ⟨bb,bo,none⟩) ts.length zc))
        ((go_split_ands;refine⟨?_,?_,?_⟩ <;> first|assumption|(simp[go_sem, *];done)))
        ((go_at_call 22;refine(a7Q w3.heap.size _ ts _ ?_ ?_ HN.out.1 HN.out.2 T HT.out).mono ?_;(show w3.heap.size<=W.heap.size;exact lwB);(exact HPO.out.at lwB (uQ _ _).drew);rintro x5 w5 ⟨rfl,hb5⟩;obtain⟨hc5,hf5⟩:=bcell hb5;have q1:w5.cell? ⟨wr.heap.size,1,none⟩=some (.int .i64 kk):=(hc5 _ _ lw1).trans f1;have q2:w5.cell? ⟨W4.heap.size,i2,none⟩=some (.int .i64 Q):=(hc5 _ _ lw2).trans f2;have q3:w5.cell? ⟨lb,lf,none⟩=some (.slice (some ⟨bb,bo,none⟩) ts.length zc):=(hc5 _ _ lw3).trans f3;clear hc5 hf5))
       have hb6:Below wo.heap.size wo w5:=bt hbO.out ((uQ _ W).drew.trans hb5);go_wp2
       go_roundw
       case rel=>exact⟨i2+1,by go_num,h7,hb6⟩
       case measure=>simp[intOf];omega
      ·have HBq2:=HBw.out
       go_wp2;go_ret;exact⟨rfl,HBq2⟩
end
namespace K
open Go.ChangeShapes Go.WideShapes Go.ChangeAt Go.RowKit K.Ds Go.Deep
theorem d4J:prog.cellsOf 64=1:=by kernel_rfl
theorem d5Q:prog.cellsOf 32=2:=by kernel_rfl
theorem d5X:prog.cellsOf 66=11:=by kernel_rfl
theorem d5Z:∃ f0 f1:Field,prog.underlying 32=some (.struct #[f0,f1])/\f0.offset=0/\f1.offset=1/\f0.type=3/\f1.type=3:=by
 refine⟨_,_,underlying32,?_,?_,?_,?_⟩ <;> rfl
theorem d5J:∃ f0 f1 f2 f3 f4:Field,prog.underlying 66=some (.struct #[f0,f1,f2,f3,f4])/\(f0.offset=0/\f1.offset=6/\f2.offset=8/\f3.offset=9/\f4.offset=10)/\f0.type=36/\f1.type=32/\f2.type=3/\f3.type=3/\f4.type=64:=by
 refine⟨_,_,_,_,_,underlying66,⟨?_,?_,?_,?_,?_⟩,?_,?_,?_,?_,?_⟩ <;> rfl
theorem d6Q {H:Type}{enc:TypeId × Value->H}{P:Program}{w:World}{base:Nat}{spare:Nat->Bool}{held:Bool}{e:TypeId}{f0 f1:Field}{n:Nat}{cs:List Value}{x:DataW H × List MemPlace}(he:P.underlying e=some (.struct #[f0,f1]))(o0:f0.offset=0)(c0:P.cellsOf f0.type=1)(o1:f1.offset=1)(c1:P.cellsOf f1.type=1)
  (hlen:cs.length=2) (h:DataW.trod enc P w base spare held n e cs=some x):∃ v0 v1 y0 y1 k,cs=[v0,v1]/\n=k+1/\DataW.trod enc P w base spare held k f0.type [v0]=some y0/\DataW.trod enc P w base spare held k f1.type [v1]=some y1:=by
 obtain⟨xs,k,hk,hxy,_,hxl,hf⟩:=DataW.trod_struct he h
 match xs,hxl,cs,hlen with
 | [y0,y1],_,[v0,v1],_ =>
  have g0:=hf 0 f0 rfl;have g1:=hf 1 f1 rfl;simp[o0,o1,c0,c1] at g0 g1;exact⟨v0,v1,y0,y1,k,rfl,hk,g0,g1⟩
theorem d6X {H:Type}{enc:TypeId × Value->H}{W:World}(n:Nat)(cs:List Value)(x:DataW H × List MemPlace)(hlen:cs.length=11)(h:DataW.trod enc prog W 0 (fun _=>true) true n 66 cs=some x) :
  ∃ (v0 v1 v2 v3 v4 v5:Value) (q:Qu) (u d lo hi:Int) (na:Option Addr) (nn nc:Nat),cs=[v0,v1,v2,v3,v4,v5,.int .i64 u,.int .i64 d,.int .i64 lo,.int .i64 hi,.slice na nn nc]/\Qm W W.heap.size q v0 v1 v2 v3 v4 v5/\tQ lo/\tQ hi:=by
 obtain⟨f0,f1,f2,f3,f4,hu,⟨o0,o1,o2,o3,o4⟩,t0,t1,t2,t3,t4⟩:=d5J;obtain⟨g0',g1',hgu,p0,p1,s0,s1⟩:=d5Z;obtain⟨xs,k,hk,hxy,_,hxl,hf⟩:=DataW.trod_struct hu h
 match xs,hxl,cs,hlen with
 | [y0,y1,y2,y3,y4],_,[v0,v1,v2,v3,v4,v5,v6,v7,v8,v9,v10],_ =>
  have g0:=hf 0 f0 rfl;have g1:=hf 1 f1 rfl;have g2:=hf 2 f2 rfl;have g3:=hf 3 f3 rfl;have g4:=hf 4 f4 rfl;rw[t0] at g0;rw[t1] at g1;rw[t2] at g2;rw[t3] at g3;rw[t4] at g4;simp[o0,o1,o2,o3,o4,azZ,d5Q,eF,d4J] at g0 g1 g2 g3 g4;obtain⟨q,w0,w1,w2,w3,w4,w5,he,hq⟩:=d4Z k _ _ rfl g0;simp only[List.cons.injEq,qM] at he;obtain⟨rfl,rfl,rfl,rfl,rfl,rfl⟩:=he;obtain⟨z0,z1,r0,r1,k2,he,_,q0,q1⟩:=d6Q hgu p0 (by rw[s0];exact eF) p1 (by rw[s1];exact eF) rfl g1;simp only[List.cons.injEq,qM] at he;obtain⟨rfl,rfl⟩:=he;rw[s0] at q0;rw[s1] at q1;obtain⟨u,d6,_,_⟩:=pD underlying3 q0;obtain⟨d,d7,_,_⟩:=pD underlying3 q1;obtain⟨lo,d8,_,b8⟩:=pD underlying3 g2;obtain⟨hi,d9,_,b9⟩:=pD underlying3 g3;simp at d6 d7 d8 d9;subst d6 d7 d8 d9
  obtain⟨na,nn,nc,rfl⟩:∃ na nn nc,v10=.slice na nn nc:=by
   rcases open_slice underlying64 (show _=some (y4.1,y4.2) from g4) with⟨hcs,_⟩|⟨a,len,cap,m,n',D0,P0,hcs,_⟩
   ·simp at hcs
    exact⟨_,_,_,hcs⟩
   ·simp at hcs
    exact⟨_,_,_,hcs⟩
  exact⟨v0,v1,v2,v3,v4,v5,q,u,d,lo,hi,na,nn,nc,rfl,hq,bounds_i64 b8,bounds_i64 b9⟩
