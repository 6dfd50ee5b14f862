import Derived.Test.YtdceajgpolckiaaGreatDoorQr38
open Go.Proofs.Tryz
set_option linter.unusedSimpArgs false
set_option maxHeartbeats 16000000
set_option maxRecDepth 100000
namespace Go.Proofs.YtdceajgpolckiaaGreatDoor
variable {d1 disk l:List Int} {i k n:Nat} {l1 x:Int} {ws:List (Nat × Int)} {ok:Bool}
namespace K.P
open Go.RowKit K.Ds
def vP (l:List Int) (i:Nat):List Int:=l.take i++List.replicate (9 - i) 0
theorem emQ (hl:l.length=9)(hi:i<9)(hx:l[i]? = some x):(vP l i).set i x=vP l (i+1):=by
 unfold vP;have h1:(l.take i).length=i:=by rw[lA];omega
 rw[sP _ _ (by omega),h1,dM,fZ,hx,show 9 - i=(9 - (i+1))+1 by omega,List.replicate_succ];simp
theorem bqZ (hi:i<9):(rcd disk n)[i]? = disk[9*n+i]?:=by
 unfold rcd;rw[vF hi,yK]
theorem afZ (h:9*n+9<=disk.length):(rcd disk n).length=9:=by
 unfold rcd;rw[lA,iN];omega
theorem emX (bh bd bw:Nat)(cv rv:Value)(bk n:Nat)(brk:Bool)(a:Option Addr)(c:Nat)(disk:List Int)(left:Int)(w:World)(h:HouC w bh bd cv rv bk n brk)(hd:DskM w bd bw a c disk left)(hn:n<=4096)(hr:9*n+9<=disk.length)(x0 x1 x2 x3 x4 x5 x6 x7 x8:Int)(hx:rcd disk n=[x0,x1,x2,x3,x4,x5,x6,x7,x8]) :
  Calls prog 94 #[.pointer (some ⟨bh,0,none⟩)] w fun e w'=>e=.returned (.agg #[.int .i64 x0,.int .i64 x1,.int .i64 x2,.int .i64 x3,.int .i64 x4,.int .i64 x5,.int .i64 x6,.int .i64 x7,.int .i64 x8])/\Below w.heap.size w w':=by
 have HH:=qQ h;have HD:=qQ hd;have HX:=qQ hx;have hm : ∀ w : World, (method 475 85 (.pointer (some ⟨bd, 0, none⟩)) "Get").run prog w = .ok (298, .pointer (some ⟨bd, 0, none⟩)) w := fun _ => by kernel_rfl
 obtain⟨m,hmm⟩:∃ m,9*n=m:=⟨_,rfl⟩;have HM:=qQ hmm;have HRL:=qQ hr;have hm9:m<=40000:=by omega
 clear h hd hx hmm hr;go_enter func94,ntmps94;go_wp2
 go_loopw [5] (fun t wr=>∃ (i:Nat),t=.int .i64 (i:Int)/\i<=9/\Hid (iX wr (w.heap.size+1) (vP (rcd disk n) i))/\Hid (Below w.heap.size w wr)/\Hid (iX wr w.heap.size [0,0,0,0,0,0,0,0,0])) (fun t _=>9 - (intOf t).toNat)
 case atStart =>
  exact⟨0,rfl,kQ _,iX.new _ _ _ _ _ _ _ _ _ 187 (by simp),bal (ba _ _) _,(iX.new _ _ _ _ _ _ _ _ _ 187 rfl).at (ba _ _)⟩
 case round =>
  obtain⟨i,rfl,hi,HN,HW,HZ⟩:=hrel;by_cases h1:i<9
  ·obtain⟨x,hxi⟩:∃ x,(rcd disk n)[i]? = some x:=⟨_,zJ (by rw[afZ HRL.out];exact h1)⟩
   obtain⟨j,hj⟩:∃ j,m+i=j:=⟨_,rfl⟩;have hdx:disk[j]? = some x:=by rw[<-hj,<-HM.out,<-bqZ h1];exact hxi
   have hw1:IntKind.i64.wrap ((m:Int)+(i:Int))=(j:Int):=by rw[sU];omega
   have HHr:HouC wr bh bd cv rv bk n brk:=HH.out.at HW.out;have HDr:DskM wr bd bw a c disk left:=HD.out.at HW.out;have m3:=HHr.c3.c;have ks:∀ W,HouC W bh bd cv rv bk n brk->_:=fun W hW=>bqQ bh bd cv rv bk n m brk W hW hn HM.out;have kg:∀ W,DskM W bd bw a c disk left->_:=fun W hW=>d8Q bd bw a c disk left j x W hW hdx;have I1:Hid (HouC wr.drew bh bd cv rv bk n brk):=HHr.at (aQ _ _).drew;have I2:Hid (DskM wr.drew bd bw a c disk left):=HDr.at (aQ _ _).drew;obtain⟨y,hy⟩:∃ y,(vP (rcd disk n) i)[i]? = some y:=⟨_,zJ (by rw[HN.out.1];exact h1)⟩;have m1:=(HN.out.2 i y hy).c;have m2:=(HN.out.2 i y hy).f;have hi9:(i:Int)<9:=by omega
   have FN:Hid (iX (wr.setCell ⟨w.heap.size+1,i,none⟩ (.int .i64 x)).drew (w.heap.size+1) (vP (rcd disk n) (i+1))):=by
    rw[<-emQ (afZ HRL.out) h1 hxi];exact(HN.out.set h1 _).drew
   have FW:Hid (Below w.heap.size w (wr.setCell ⟨w.heap.size+1,i,none⟩ (.int .i64 x)).drew):=(bs HW.out (by simp) _).drew;have FZ:Hid (iX (wr.setCell ⟨w.heap.size+1,i,none⟩ (.int .i64 x)).drew w.heap.size [0,0,0,0,0,0,0,0,0]):=(HZ.out.oth (by omega) _).drew;clear hxi hj hdx HHr HDr hy;go_wp2_with fail
   go_region_law (first
    | (go_simp;go_at_call 150;refine(ks _ I1.out).mono ?_;rintro e w' ⟨rfl,rfl⟩;go_wp2_with fail)
    | (go_simp;go_at_call 298;refine(kg _ I2.out).mono ?_;rintro e w' ⟨rfl,rfl⟩;go_wp2_with fail))
   all_goals
    go_wp2
    go_roundw
    ·exact⟨i+1,by go_num,h1,FN,FW,FZ⟩
    ·simp[intOf];omega
  ·obtain rfl:i=9:=by omega
   have HN2:iX wr (w.heap.size+1) [x0,x1,x2,x3,x4,x5,x6,x7,x8]:=by
    have h:=HN.out;rw[HX.out] at h;exact h
   obtain⟨a0,a1,a2,a3,a4,a5,a6,a7,a8⟩:=HN2.cells;obtain⟨z0,z1,z2,z3,z4,z5,z6,z7,z8⟩:=HZ.out.nine;have HZ9:=(((((((((HZ.out.set (i:=0) (by decide) x0).set (i:=1) (by decide) x1).set (i:=2) (by decide) x2).set (i:=3) (by decide) x3).set (i:=4) (by decide) x4).set (i:=5) (by decide) x5).set (i:=6) (by decide) x6).set (i:=7) (by decide) x7).set (i:=8) (by decide) x8);have FZ:Hid (iX _ w.heap.size [x0,x1,x2,x3,x4,x5,x6,x7,x8]):=HZ9;obtain⟨c0,f0,l0⟩:=z0;obtain⟨c1,f1,_⟩:=z1;obtain⟨c2,f2,_⟩:=z2;obtain⟨c3,f3,_⟩:=z3;obtain⟨c4,f4,_⟩:=z4;obtain⟨c5,f5,_⟩:=z5;obtain⟨c6,f6,_⟩:=z6;obtain⟨c7,f7,_⟩:=z7;obtain⟨c8,f8,_⟩:=z8;clear HZ9 HN HN2;go_wp2;obtain⟨r0,r1,r2,r3,r4,r5,r6,r7,r8⟩:=FZ.out.cells;refine uQ (v:=.agg #[.int .i64 x0,.int .i64 x1,.int .i64 x2,.int .i64 x3,.int .i64 x4,.int .i64 x5,.int .i64 x6,.int .i64 x7,.int .i64 x8]) ?_ rfl ⟨rfl,?_⟩
   ·simp[results,results94,go_sem,r0,r1,r2,r3,r4,r5,r6,r7,r8]
   ·exact bs (bs (bs (bs (bs (bs (bs (bs (bs HW.out (by simp) _) (by simp) _) (by simp) _) (by simp) _) (by simp) _) (by simp) _) (by simp) _) (by simp) _) (by simp) _
theorem bqJ {left:Int}(h:qZ disk left ws=(d1,l1,true))(p:Nat × Int):qZ disk left (ws++[p])=qZ d1 l1 [p]:=by
 induction ws generalizing disk left with
 | nil=>simp only[qZ,fQ] at h;obtain⟨rfl,rfl,_⟩:=h;rfl
 | cons q ws ih =>
  obtain⟨a,x⟩:=q;simp only[qZ] at h;by_cases c:left=0
  ·rw[zQ c] at h;simp at h
  ·rw[xQ c] at h
   rw[qG,qZ,xQ c];exact ih h
theorem brQ {left:Int}(h:qZ disk left ws=(d1,l1,false))(r:List (Nat × Int)):qZ disk left (ws++r)=(d1,l1,false):=by
 induction ws generalizing disk left with
 | nil=>simp[qZ] at h
 | cons q ws ih =>
  obtain⟨a,x⟩:=q;simp only[qZ] at h;by_cases c:left=0
  ·rw[zQ c] at h;rw[qG,qZ,zQ c];exact h
  ·rw[xQ c] at h
   rw[qG,qZ,xQ c];exact ih h
theorem emZ {left:Int}(h:qZ disk left ws=(d1,l1,ok))(hl:-9223372036854775808<=left/\left<=9223372036854775807):-9223372036854775808<=l1/\l1<=9223372036854775807:=by
 induction ws generalizing disk left with
 | nil=>simp only[qZ,fQ] at h;omega
 | cons q ws ih =>
  obtain⟨a,x⟩:=q;simp only[qZ] at h;by_cases c:left=0
  ·rw[zQ c] at h;simp only[fQ] at h;omega
  ·rw[xQ c] at h
   exact ih h (by split <;> omega)
theorem brX {left:Int}(h:qZ disk left ws=(d1,l1,ok)):d1.length=disk.length:=by
 obtain⟨m,_,h2,_,_⟩:=acJ h;rw[h2,rI]
def afJ (bd bw:Nat) (a:Option Addr) (c:Nat) (d':List Int) (l':Int) (ok:Bool) (w:World):Ending->World->Prop:=fun e w' =>
 e=.returned (.bool ok)/\DskM w' bd bw a c d' l'/\Keeps w w' (fun k=>k=bd\/k=bw)
theorem agQ (bd bw Bd Ba m:Nat)(a:Option Addr)(c:Nat)(disk:List Int)(left:Int)(i:Nat)(x:Int)(w:World)(hd:DskM w bd bw a c disk left)(hB:Cl w Bd 0 (.iface 85 (.pointer (some ⟨bd,0,none⟩))))(hA:Cl w Ba 0 (.int .i64 (m:Int)))(hm4:m<=40000)(hi:i<9)(hr:m+9<=disk.length)(hl:-9223372036854775808<=left/\left<=9223372036854775807)(d':List Int)(l':Int)(ok:Bool)(hp:qZ disk left [(m+i,x)]=(d',l',ok)) :
  Calls prog 188 #[.int .i64 i,.int .i64 x,.pointer (some ⟨Bd,0,none⟩),.pointer (some ⟨Ba,0,none⟩)] w (afJ bd bw a c d' l' ok w):=by
 have hm : ∀ w : World, (method 475 85 (.pointer (some ⟨bd, 0, none⟩)) "Put").run prog w = .ok (299, .pointer (some ⟨bd, 0, none⟩)) w := fun _ => by kernel_rfl
 obtain⟨j,hj⟩:∃ j,m+i=j:=⟨_,rfl⟩;rw[hj] at hp;have hw1:IntKind.i64.wrap ((m:Int)+(i:Int))=(j:Int):=by rw[sU];omega
 have hw2:(m:Int)+(i:Int)=(j:Int):=by omega
 have kp:=d8Z bd bw a c disk left j x w hd (by omega) hl d' l' ok hp;have m3:=hB.c;have m0:=hA.c;clear hd hB hA hj hp;go_enter func188,ntmps188;go_wp2_with fail;refine kp.mono ?_;rintro e w' ⟨rfl,hD2,hK2,_⟩;clear kp;go_wp2;go_ret;exact⟨rfl,hD2,hK2⟩
def zL (n:Nat) (l:List Int) (k:Nat):List (Nat × Int):=(9*n,0)::(List.range k).map fun j=>(9*n+(j+1),l.getD (j+1) 0)
theorem emJ (n:Nat)(l:List Int)(k:Nat):zL n l (k+1)=zL n l k++[(9*n+(k+1),l.getD (k+1) 0)]:=by
 unfold zL;rw[List.range_succ,yY,qG];rfl
theorem enQ (n:Nat)(e:En):wrs n e=zL n (qJ e) 8++[(9*n+0,1)]:=rfl
theorem brZ (n:Nat)(e:En)(hk:k<=8):∃ r,wrs n e=zL n (qJ e) k++r:=by
 refine⟨((List.range (8 - k)).map fun j=>(9*n+(k+j+1),(qJ e).getD (k+j+1) 0))++[(9*n,1)],?_⟩;unfold wrs zL;rw[qG,<-cM];congr 2;have h:List.range 8=List.range k++(List.range (8 - k)).map (k + ·):=by rw[<-List.range_add,show k+(8 - k)=8 by omega]
 rw[h,yY,List.map_map];congr 1
theorem enX (bd bw R n m:Nat)(a:Option Addr)(c:Nat)(disk:List Int)(left:Int)(e:En)(w:World)(hd:DskM w bd bw a c disk left)(hmn:9*n=m)(hRn:R≠bd/\R≠bw)(hbw:bw<w.heap.size)(hn:n<=4096)(hr:9*n+9<=disk.length)(hl:-9223372036854775808<=left/\left<=9223372036854775807)(x0 x1 x2 x3 x4 x5 x6 x7 x8:Int)(hR:iX w R [x0,x1,x2,x3,x4,x5,x6,x7,x8])(hx:qJ e=[x0,x1,x2,x3,x4,x5,x6,x7,x8])(d':List Int)(l':Int)(ok:Bool)(hp:qZ disk left (wrs n e)=(d',l',ok)) :
  Calls prog 152 #[.iface 85 (.pointer (some ⟨bd,0,none⟩)),.int .i64 (m:Int),.slice (some ⟨R,0,none⟩) 9 9] w (afJ bd bw a c d' l' ok w):=by
 have hmf:=hmf;have HX:=qQ hx;have HP:=qQ hp;have HM:=qQ hmn;have hm4:m<=40000:=by omega
 have HRN:Hid (¬ (R=bd\/R=bw)):=fun h=>h.elim hRn.1 hRn.2;have HRL:=qQ hr;have HLI:=qQ hl;have hbd:bd<w.heap.size:=hd.c0.lt;obtain⟨W,hW⟩:∃ W,(w.alloc (.cells #[.iface 85 (.pointer (some ⟨bd,0,none⟩))] 129)).alloc (.cells #[.int .i64 (m:Int)] 3)=W:=⟨_,rfl⟩;have HWb:Hid (Below w.heap.size w W):=hW▸bal (ba _ _) _;have HC:Hid (Cl W w.heap.size 0 (.iface 85 (.pointer (some ⟨bd,0,none⟩)))):=hW▸(Cl.new _ 129 0 _ rfl rfl).at (ba _ _);have HA:Hid (Cl W (w.heap.size+1) 0 (.int .i64 (m:Int))):=hW▸Cl.new _ 3 0 _ (by simp) rfl;have HN:=qQ (hR.at HWb.out);have HDW:=qQ (hd.at HWb.out);have nK:Hid (¬ (w.heap.size=bd\/w.heap.size=bw)/\¬ (w.heap.size+1=bd\/w.heap.size+1=bw)):=by constructor <;> omega
 obtain⟨d0,l0,ok0,hp0⟩:∃ d0 l0 ok0,qZ disk left [(m+0,0)]=(d0,l0,ok0):=⟨_,_,_,rfl⟩;have k0:=agQ bd bw w.heap.size (w.heap.size+1) m a c disk left 0 0 W HDW.out HC.out HA.out hm4 (by decide) (by omega) hl d0 l0 ok0 hp0;have HP0:Hid (qZ disk left (zL n (qJ e) 0)=(d0,l0,ok0)):=by rw[<-hmn] at hp0;exact hp0
 clear hd hmn hRn hr hl hx hp hp0 hR;go_enter func152,ntmps152;go_wp2_with fail;clear hW;refine k0.mono ?_;rintro x w1 ⟨rfl,hD1,hK1⟩;have K1:Keeps w w1 (fun k=>k=bd\/k=bw):=(xX HWb.out).trans hK1;cases ok0 with
 | false =>
  obtain⟨r,hr⟩:=brZ n e (k:=0) (by decide);have h:=brQ HP0.out r;rw[<-hr,HP.out] at h;simp only[fQ] at h;obtain⟨rfl,rfl,rfl⟩:=h;clear k0;go_wp2;go_ret;exact⟨rfl,hD1,K1⟩
 | true =>
  have HC1:=qQ (pU HC.out hK1 nK.out.1);have HA1:=qQ (pU HA.out hK1 nK.out.2);have HN1:Hid (iX w1 R [x0,x1,x2,x3,x4,x5,x6,x7,x8]):=⟨rfl,fun k x hx=>pU (HN.out.2 k x hx) hK1 HRN.out⟩;have HD1:=qQ hD1;have HK1:=qQ K1;clear k0 hD1 hK1 K1;go_wp2
  go_loopw [8] (fun t wr=>∃ (k:Nat) (d1:List Int) (l1:Int),t=.int .i64 ((k:Int)+1)/\k<=8/\Hid (qZ disk left (zL n (qJ e) k)=(d1,l1,true))/\Hid (DskM wr bd bw a c d1 l1)/\Hid (Keeps w wr (fun k=>k=bd\/k=bw))/\Hid (Cl wr w.heap.size 0 (.iface 85 (.pointer (some ⟨bd,0,none⟩))))/\Hid (Cl wr (w.heap.size+1) 0 (.int .i64 (m:Int)))/\Hid (iX wr R [x0,x1,x2,x3,x4,x5,x6,x7,x8])) (fun t _=>9 - (intOf t).toNat)
  case atStart=>exact⟨0,d0,l0,by simp,by decide,HP0,HD1,HK1,HC1,HA1,HN1⟩
  case round =>
   obtain⟨k,d1,l1,rfl,hk,HPk,HDk,HKk,HCk,HAk,HNk⟩:=hrel;have hlI:=emZ HPk.out HLI.out;have hdl:d1.length=disk.length:=brX HPk.out;have HRk:Hid (m+9<=d1.length):=by rw[Hid,hdl,<-HM.out];exact HRL.out
   clear hdl;by_cases h1:k<8
   ·obtain⟨y,hy⟩:∃ y,[x0,x1,x2,x3,x4,x5,x6,x7,x8][k+1]? = some y:=⟨_,zJ (by simp;omega)⟩
    have m1:=(HNk.out.2 (k+1) y hy).c;have hgd:(qJ e).getD (k+1) 0=y:=by rw[HX.out,List.getD,hy];rfl
    obtain⟨d2,l2,ok2,hp2⟩:∃ d2 l2 ok2,qZ d1 l1 [(m+(k+1),y)]=(d2,l2,ok2):=⟨_,_,_,rfl⟩;have hstep:qZ disk left (zL n (qJ e) (k+1))=(d2,l2,ok2):=by rw[emJ,bqJ HPk.out,hgd,HM.out,hp2]
    have HST:=qQ hstep;have kc:=agQ bd bw w.heap.size (w.heap.size+1) m a c d1 l1 (k+1) y wr HDk.out HCk.out HAk.out hm4 (by omega) HRk.out hlI d2 l2 ok2 hp2;obtain⟨j,hj⟩:∃ j,k+1=j:=⟨_,rfl⟩;have hjI:(k:Int)+1=(j:Int):=by omega
    have hj9:(j:Int)<9:=by omega
    rw[hj] at kc m1;have HJ:=qQ hj;clear hy hgd hp2 hstep hj;go_wp2_with fail;refine kc.mono ?_;rintro x w2 ⟨rfl,hD2,hK2⟩;have K2:Keeps w w2 (fun k=>k=bd\/k=bw):=HKk.out.trans hK2;cases ok2 with
    | false =>
     obtain⟨r,hr⟩:=brZ n e (k:=k+1) (by omega);have h:=brQ HST.out r;rw[<-hr,HP.out] at h;simp only[fQ] at h;obtain⟨rfl,rfl,rfl⟩:=h;clear kc;go_wp2;go_ret;exact⟨rfl,hD2,K2⟩
    | true =>
     have HC2:=qQ (pU HCk.out hK2 nK.out.1);have HA2:=qQ (pU HAk.out hK2 nK.out.2);have HN2:Hid (iX w2 R [x0,x1,x2,x3,x4,x5,x6,x7,x8]):=⟨rfl,fun k x hx=>pU (HNk.out.2 k x hx) hK2 HRN.out⟩;have HD2:=qQ hD2;have HK2:=qQ K2;clear kc hD2 hK2 K2;go_wp2
     go_roundw
     ·exact⟨k+1,d2,l2,by have:=HJ.out;go_num,by omega,HST,HD2,HK2,HC2,HA2,HN2⟩
     ·have:=HJ.out;simp[intOf];omega
   ·obtain rfl:k=8:=by omega
    have kc:=agQ bd bw w.heap.size (w.heap.size+1) m a c d1 l1 0 1 wr HDk.out HCk.out HAk.out hm4 (by decide) HRk.out hlI d' l' ok (by rw[<-HP.out,enQ,bqJ HPk.out,HM.out]);go_wp2_with fail;refine kc.mono ?_;rintro x w2 ⟨rfl,hD2,hK2⟩;have K2:Keeps w w2 (fun k=>k=bd\/k=bw):=HKk.out.trans hK2;clear kc;go_wp2;go_ret;exact⟨rfl,hD2,K2⟩
theorem enZ (bh bd bw:Nat)(cv rv:Value)(bk n:Nat)(brk:Bool)(a:Option Addr)(c:Nat)(disk:List Int)(left:Int)(e:En)(w:World)(h:HouC w bh bd cv rv bk n brk)(hd:DskM w bd bw a c disk left)(_hne:bh≠bd/\bh≠bw)(hbw:bw<w.heap.size)(hn:n<=4096)(hr:9*n+9<=disk.length)(hl:-9223372036854775808<=left/\left<=9223372036854775807)(x0 x1 x2 x3 x4 x5 x6 x7 x8:Int)(hx:qJ e=[x0,x1,x2,x3,x4,x5,x6,x7,x8])(d':List Int)(l':Int)(ok:Bool)(hp:qZ disk left (wrs n e)=(d',l',ok)) :
  Calls prog 96 #[.pointer (some ⟨bh,0,none⟩),.agg #[.int .i64 x0,.int .i64 x1,.int .i64 x2,.int .i64 x3,.int .i64 x4,.int .i64 x5,.int .i64 x6,.int .i64 x7,.int .i64 x8]] w (afJ bd bw a c d' l' ok w):=by
 have hbd:bd<w.heap.size:=hd.c0.lt;obtain⟨m,hmm⟩:∃ m,9*n=m:=⟨_,rfl⟩;have hm4:m<=40000:=by omega
 obtain⟨W,hW⟩:∃ W,w.alloc (.cells #[.int .i64 x0,.int .i64 x1,.int .i64 x2,.int .i64 x3,.int .i64 x4,.int .i64 x5,.int .i64 x6,.int .i64 x7,.int .i64 x8] 187)=W:=⟨_,rfl⟩;have HWb:Hid (Below w.heap.size w W):=hW▸ba _ _;have HN:Hid (iX W w.heap.size [x0,x1,x2,x3,x4,x5,x6,x7,x8]):=hW▸iX.new _ _ _ _ _ _ _ _ _ 187 rfl;have HWs:=qQ HWb.out.size;have HHW:=h.at HWb.out;have m3:=HHW.c3.c;have I1:Hid (HouC W.drew bh bd cv rv bk n brk):=HHW.at (aQ _ _).drew;have I2:Hid (Keeps w W.drew (fun k=>k=bd\/k=bw)):=xX (HWb.out.trans ((aQ _ _).drew));have ks:∀ U,HouC U bh bd cv rv bk n brk->_:=fun U hU=>bqQ bh bd cv rv bk n m brk U hU hn hmm;have kp:=enX bd bw w.heap.size n m a c disk left e W.drew ((hd.at HWb.out).at (aQ _ _).drew) hmm (by omega) (by have:=HWs.out;simp;omega) hn hr hl x0 x1 x2 x3 x4 x5 x6 x7 x8 HN.out.drew hx d' l' ok hp;clear h hd hr hl hx hp hmm HHW;go_enter func96,ntmps96;go_wp2_with fail
 try rw[hW]
 clear hW
 go_region_law (first
  | (go_simp;go_at_call 150;refine(ks _ I1.out).mono ?_;rintro e w' ⟨rfl,rfl⟩;go_wp2_with fail)
  | (go_simp;go_at_call 152;refine kp.mono ?_;rintro e w' ⟨rfl,hD2,hK2⟩;go_wp2_with fail))
 all_goals
  go_wp2;go_ret;exact⟨rfl,hD2,I2.out.trans hK2⟩
