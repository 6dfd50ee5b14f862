import Derived.Test.YtpmioeamdhdokaaGreatQq35
import Derived.Laws.Shifts
import Derived.Deep.RegionLaw
import Derived.Laws.CopyOwn
open Go.Proofs.Tryz
set_option linter.unusedSimpArgs false
set_option maxHeartbeats 16000000
set_option maxRecDepth 100000
namespace Go.Proofs.YtpmioeamdhdokaaGreat
variable {R b base bp cap g i k n np:Nat} {w w':World} {l:List Int} {N:Nat->Prop} {v y:Value} {x:ByteArray} {r:Option Nat} {xs:List Value}
namespace K.P
open K.Ds
theorem biX (x:Int):(BitVec.ofInt 64 x).toNat=oG x:=by
 rw[BitVec.toNat_ofInt];rfl
theorem biZ (h:n<18446744073709551616):IntKind.i64.wrap (n:Int)=fA n:=by
 rw[aU];unfold fA;split <;> omega
theorem d6J (a b k n:Nat)(hn:n=2 ^ (k+8)*a)(hb:b<256)(hlt:n<18446744073709551616)(hk:k<=56) :
  bits .or .i64 (fA n) (IntKind.i64.wrap ((b:Int)*2 ^ k))=fA (n+b*2 ^ k):=by
 have h56:2 ^ k<=2 ^ 56:=Nat.pow_le_pow_right (by decide) hk
 have hm:b*2 ^ k<18446744073709551616:=by
  have:=Nat.mul_le_mul (show b<=255 by omega) h56;omega
 have e1:((b:Int)*2 ^ k)=((b*2 ^ k:Nat):Int):=by simp
 have hlow:b*2 ^ k<2 ^ (k+8):=by
  rw[Nat.pow_add,Nat.mul_comm];exact Nat.mul_lt_mul_of_pos_left hb (Nat.two_pow_pos k)
 have hor:n ||| (b*2 ^ k)=n+b*2 ^ k:=by
  rw[hn,Nat.two_pow_add_eq_or_of_lt hlow]
 have hs:n+b*2 ^ k<18446744073709551616:=by
  rw[<-hor];exact Nat.or_lt_two_pow (n:=64) hlt hm
 rw[e1,biZ hm];unfold bits;simp only
 show IntKind.i64.wrap (((BitVec.ofInt 64 (fA n)) ||| (BitVec.ofInt 64 (fA (b*2 ^ k)))).toNat:Int)=_
 rw[BitVec.toNat_or,biX,biX,acQ hlt,acQ hm,hor,biZ hs]
theorem aeQ (s:List Nat)(i j:Nat):(s.take i).getD j 0=if j<i then s.getD j 0 else 0:=by
 simp only[List.getD,qL];split <;> rfl
theorem biJ (s:List Nat)(q r:Nat):octs (s.take (8*q+r)) q=(List.range 8).map fun t=>if t<r then s.getD (8*q+t) 0 else 0:=by
 unfold octs;refine yE fun t _=>?_;rw[aeQ];by_cases c:t<r
 ·rw[zQ c,zQ (by omega)]
 ·rw[xQ c,xQ (by omega)]
theorem r8:List.range 8=[0,1,2,3,4,5,6,7]:=rfl
theorem d7Q (f:Nat->Nat)(r:Nat)(hr:r<8):kV ((List.range 8).map fun t=>if t<r then f t else 0)=2 ^ (8*(7 - r)+8)*kV ((List.range r).map f) /\
  kV ((List.range 8).map fun t=>if t<r+1 then f t else 0)=kV ((List.range 8).map fun t=>if t<r then f t else 0)+f r*2 ^ (8*(7 - r)):=by
 rw[r8]
 match r,hr with
 | 0,_ | 1,_ | 2,_ | 3,_ | 4,_ | 5,_ | 6,_ | 7,_=>constructor <;> simp[kV,List.range_succ] <;> omega
theorem d7X (s:List Nat)(q r:Nat)(hr:r<8):(∃ a,kV (octs (s.take (8*q+r)) q)=2 ^ (8*(7 - r)+8)*a)/\kV (octs (s.take (8*q+r+1)) q)=kV (octs (s.take (8*q+r)) q)+s.getD (8*q+r) 0*2 ^ (8*(7 - r)):=by
 have h:=d7Q (fun t=>s.getD (8*q+t) 0) r hr;rw[show 8*q+r+1=8*q+(r+1) from rfl,biJ,biJ];exact⟨⟨_,h.1⟩,h.2⟩
theorem d7Z (s:List Nat)(q i:Nat)(h:i / 8≠q):octs (s.take (i+1)) q=octs (s.take i) q:=by
 unfold octs;refine yE fun t ht=>?_;have ht8:t<8:=by simpa using ht
 rw[aeQ,aeQ];by_cases c:8*q+t<i
 ·rw[zQ c,zQ (by omega)]
 ·rw[xQ c,xQ (by omega)]
theorem sR (s:List Nat)(q:Nat)(hq:q<4):(tV s)[q]? = some (fA (kV (octs s q))):=by
 simp[tV,hq]
theorem d7J (s:List Nat)(hs:∀ b∈s,b<256)(q:Nat):kV (octs s q)<18446744073709551616:=by
 have h8:(octs s q).length=8:=by simp[octs]
 have hb:=rB (tB hs q);rw[h8] at hb;simpa using hb
theorem d8Q (s:List Nat)(hs:∀ b∈s,b<256)(i:Nat)(hi:i<32):tV (s.take (i+1))=(tV (s.take i)).set (i / 8) (bits .or .i64 ((tV (s.take i)).getD (i / 8) 0) (IntKind.i64.wrap ((s.getD i 0:Nat)*2 ^ (8*(7 - i % 8))))):=by
 have e:i=8*(i / 8)+i % 8:=by omega
 obtain⟨⟨a,h1⟩,h2⟩:=d7X s (i / 8) (i % 8) (by omega);rw[<-e] at h1 h2
 have hb:s.getD i 0<256:=by
  rw[List.getD];cases c:s[i]? with
  | none=>simp
  | some x=>simpa using hs x (rQ c)
 have hq:i / 8<4:=by omega
 have hl:=d7J (s.take i) (fun b hb=>hs b (jH hb)) (i / 8);have hg:(tV (s.take i)).getD (i / 8) 0=fA (kV (octs (s.take i) (i / 8))):=by rw[List.getD,sR _ _ hq];rfl
 rw[hg];have ho:=d6J a (s.getD i 0) (8*(7 - i % 8)) _ h1 hb hl (by omega);rw[ho,<-h2];apply cP;intro j;by_cases c:j<4
 ·by_cases c2:i / 8=j
  ·subst c2
   rw[sR _ _ c,fG (by rw[nR];exact c)]
  ·rw[xF c2,sR _ _ c,sR _ _ c,d7Z s j i c2]
 ·rw[rS (by rw[nR];omega),rS (by rw[fN,nR];omega)]
theorem d8X:tV []=[0,0,0,0]:=by decide
theorem d8Z (x:Int)(r:Nat)(hr:r<8):IntKind.u8.wrap (x / 2 ^ (8*(7 - r)))=((kU 8 (oG x)).getD r 0:Nat):=by
 have hu:IntKind.u8.wrap (x / 2 ^ (8*(7 - r)))=(x / 2 ^ (8*(7 - r))) % 256:=by simp[IntKind.wrap,IntKind.bits,IntKind.signed]
 rw[hu];unfold oG;have e:kU 8 (x % 18446744073709551616).toNat=[(x % 18446744073709551616).toNat / 256 / 256 / 256 / 256 / 256 / 256 / 256 % 256,(x % 18446744073709551616).toNat / 256 / 256 / 256 / 256 / 256 / 256 % 256,(x % 18446744073709551616).toNat / 256 / 256 / 256 / 256 / 256 % 256,(x % 18446744073709551616).toNat / 256 / 256 / 256 / 256 % 256,(x % 18446744073709551616).toNat / 256 / 256 / 256 % 256,(x % 18446744073709551616).toNat / 256 / 256 % 256,(x % 18446744073709551616).toNat / 256 % 256,(x % 18446744073709551616).toNat % 256]:=rfl;rw[e]
 match r,hr with
 | 0,_ | 1,_ | 2,_ | 3,_ | 4,_ | 5,_ | 6,_ | 7,_=>simp;omega
end K.P
namespace K.P
open Go.RowKit K.Ds
theorem bjQ (i k:Nat)(hi:i<32)(hk:k=8*(7 - i % 8))(w:World):Calls prog 184 #[.int .i64 i] w fun e w'=>e=.returned (.int .i64 (k:Int))/\w' = w:=by
 have e:8*(7 - (i:Int) % 8)=(k:Int):=by omega
 clear hk;have H:=qQ e;clear e;go_enter func184,ntmps184;go_wp2;go_ret;exact⟨congrArg (fun z=>Ending.returned (Value.int .i64 z)) H.out,rfl⟩
def iX (w:World) (b:Nat) (l:List Int):Prop:=l.length=9/\∀ k x,l[k]? = some x->Cl w b k (.int .i64 x)
theorem iX.at (h:iX w b l)(hb:Below w.heap.size w w'):iX w' b l:=⟨h.1,fun k x hx=>(h.2 k x hx).at hb⟩
theorem iX.set (h:iX w b l)(hi:i<9)(x:Int):iX (w.setCell ⟨b,i,none⟩ (.int .i64 x)) b (l.set i x):=by
 refine⟨by rw[fN];exact h.1,fun k y hy=>?_⟩;by_cases c:i=k
 ·subst c
  rw[fG (by rw[h.1];exact hi)] at hy;cases hy;obtain⟨z,hz⟩:∃ z,l[i]? = some z:=⟨_,iJ (by rw[h.1];exact hi)⟩;exact(h.2 i z hz).set _
 ·rw[xF c] at hy
  exact(h.2 k y hy).oth (.inr c) _
theorem iX.oth {b':Nat}(h:iX w b l)(hne:b'≠b)(u:Value):iX (w.setCell ⟨b',k,none⟩ u) b l:=⟨h.1,fun j x hx=>(h.2 j x hx).oth (.inl hne) _⟩
theorem iX.nine {x0 x1 x2 x3 x4 x5 x6 x7 x8:Int}(h:iX w b [x0,x1,x2,x3,x4,x5,x6,x7,x8]):Cl w b 0 (.int .i64 x0)/\Cl w b 1 (.int .i64 x1)/\Cl w b 2 (.int .i64 x2)/\Cl w b 3 (.int .i64 x3)/\Cl w b 4 (.int .i64 x4)/\Cl w b 5 (.int .i64 x5)/\Cl w b 6 (.int .i64 x6)/\Cl w b 7 (.int .i64 x7)/\Cl w b 8 (.int .i64 x8) :=
 ⟨h.2 0 _ rfl,h.2 1 _ rfl,h.2 2 _ rfl,h.2 3 _ rfl,h.2 4 _ rfl,h.2 5 _ rfl,h.2 6 _ rfl,h.2 7 _ rfl,h.2 8 _ rfl⟩
theorem iX.new {N:Nat}(x0 x1 x2 x3 x4 x5 x6 x7 x8:Int)(t:TypeId)(hN:N=w.heap.size):iX (w.alloc (.cells #[.int .i64 x0,.int .i64 x1,.int .i64 x2,.int .i64 x3,.int .i64 x4,.int .i64 x5,.int .i64 x6,.int .i64 x7,.int .i64 x8] t)) N [x0,x1,x2,x3,x4,x5,x6,x7,x8]:=by
 refine⟨rfl,fun k x hx=>?_⟩
 match k,hx with
 | 0,hx | 1,hx | 2,hx | 3,hx | 4,hx | 5,hx | 6,hx | 7,hx | 8,hx=>cases hx;exact Cl.new _ t _ _ hN rfl
theorem Cl.drew' (h:Cl w b k v):Cl w.drew b k v:=⟨h.c,h.f,h.lt⟩
theorem iX.drew (h:iX w b l):iX w.drew b l:=⟨h.1,fun k x hx=>Cl.drew' (h.2 k x hx)⟩
theorem aC (h:l.length=9):∃ x0 x1 x2 x3 x4 x5 x6 x7 x8,l=[x0,x1,x2,x3,x4,x5,x6,x7,x8]:=by
 match l,h with
 | [x0,x1,x2,x3,x4,x5,x6,x7,x8],_=>exact⟨_,_,_,_,_,_,_,_,_,rfl⟩
def rvl (l:List Int):Value:=.agg (l.map (Value.int .i64)).toArray
theorem bjX (e:En)(hs:e.2.1.size<=32)(w:World) :
  Calls prog 112 #[ev e] w fun x w'=>x=.returned (rvl (fJ e))/\Below w.heap.size w w':=by
 obtain⟨d,nm,p,u,v⟩:=e;simp only at hs;obtain⟨s,hsd⟩:∃ s,pG nm=s:=⟨_,rfl⟩;have HS:=qQ hsd;have hsl:s.length=nm.size:=by rw[<-hsd];simp[pG]
 have HB:Hid (∀ b∈s,b<256):=by rw[<-hsd];exact wB nm
 have HG:Hid (∀ i (h:i<nm.size),(nm.get i h).toNat=s.getD i 0):=by
  intro i h;have h2:i<nm.data.toList.length:=by simpa using h
  rw[<-hsd,List.getD,pG,dA,iJ h2];rfl
 clear hsd;go_enter func112,ntmps112;go_wp2
 go_loopw [19] (fun t wr=>∃ (i:Nat),t=.int .i64 (i:Int)/\i<=nm.size/\Hid (iX wr (w.heap.size+1+1) ([1,d,p,u,v]++tV (s.take i)))/\Hid (Below w.heap.size w wr)/\Hid (Cl wr w.heap.size 1 (.string nm))/\Hid (iX wr (w.heap.size+1) [0,0,0,0,0,0,0,0,0])) (fun t _=>nm.size - (intOf t).toNat)
 case atStart =>
  refine⟨0,rfl,kQ _,?_,?_,?_,?_⟩
  ·rw[List.take_zero,d8X];exact iX.new _ _ _ _ _ _ _ _ _ 206 (by simp)
  ·exact bal (bal (ba _ _) _) _
  ·exact((Cl.new _ 59 1 _ rfl rfl).at (ba _ _)).at (ba _ _)
  ·exact(iX.new _ _ _ _ _ _ _ _ _ 206 (by simp)).at (ba _ _)
 case round =>
  obtain⟨i,rfl,hi,HN,HW,HC,HZ⟩:=hrel;by_cases h1:i<nm.size
  ·obtain⟨q,hq⟩:∃ q,i / 8=q:=⟨_,rfl⟩
   obtain⟨k,hk⟩:∃ k,k=8*(7 - i % 8):=⟨_,rfl⟩;have kf:=fun W=>bjQ i k (by omega) hk W;have hq4:q<4:=by omega
   have hqi:(i:Int) / 8=(q:Int):=by omega
   obtain⟨j,hj⟩:∃ j,5+q=j:=⟨_,rfl⟩;have hw1:IntKind.i64.wrap (q:Int)=(q:Int):=by rw[aU];omega
   have hw2:IntKind.i64.wrap (5+(q:Int))=(j:Int):=by rw[aU];omega
   have hj9:(j:Int)<9:=by omega
   obtain⟨x,hx⟩:∃ x,(tV (s.take i))[q]? = some x:=⟨_,sR _ _ hq4⟩;obtain⟨b,hb⟩:∃ b,(nm[i]'h1).toNat=b:=⟨_,rfl⟩;have HBB:=qQ ((HG.out i h1).symm.trans hb);have hb2:b<256:=by rw[<-hb];exact UInt8.toNat_lt _
   have hw3:IntKind.i64.wrap (b:Int)=(b:Int):=by rw[aU];omega
   have hk56:k<=56:=by omega
   have hc:Cl wr (w.heap.size+1+1) j (.int .i64 x):=HN.out.2 j x (by rw[<-hj,qF (by simp)];simpa using hx);have m1:=hc.c;have m2:=hc.f;have m3:=HC.out.c;have HX:=qQ hx;have HK:Hid (k=8*(7 - i % 8)/\i / 8=q/\5+q=j):=⟨hk,hq,hj⟩;obtain⟨y,hy⟩:∃ y,bits .or .i64 x (IntKind.i64.wrap ((b:Int)*2 ^ k))=y:=⟨_,rfl⟩
   have hst:[1,d,p,u,v]++tV (s.take (i+1))=([1,d,p,u,v]++tV (s.take i)).set j y:=by
    have h3:=d8Q s HB.out i (by omega);rw[HBB.out,hq,<-hk,show(tV (s.take i)).getD q 0=x by rw[List.getD,hx];rfl] at h3;rw[h3,hy,<-hj,iP _ _ (by simp)];simp
   have FN:Hid (iX (wr.setCell ⟨w.heap.size+1+1,j,none⟩ (.int .i64 y)).drew (w.heap.size+1+1) ([1,d,p,u,v]++tV (s.take (i+1)))):=by
    rw[hst];exact(HN.out.set (by omega) _).drew
   have FW:Hid (Below w.heap.size w (wr.setCell ⟨w.heap.size+1+1,j,none⟩ (.int .i64 y)).drew):=(bs HW.out (by simp;omega) _).drew;have FC:Hid (Cl (wr.setCell ⟨w.heap.size+1+1,j,none⟩ (.int .i64 y)).drew w.heap.size 1 (.string nm)):=Cl.drew' (HC.out.oth (.inl (by omega)) _);have FZ:Hid (iX (wr.setCell ⟨w.heap.size+1+1,j,none⟩ (.int .i64 y)).drew (w.heap.size+1) [0,0,0,0,0,0,0,0,0]):=(HZ.out.oth (by omega) _).drew;clear hx hq hk hj hst hc HX;go_wp2_with fail
   go_region_law (go_simp;go_at_call 184;refine(kf _).mono ?_;rintro e w' ⟨rfl,rfl⟩;go_wp2_with fail)
   all_goals
    go_wp2
    go_roundw
    ·exact⟨i+1,by go_num,h1,FN,FW,FC,FZ⟩
    ·simp[intOf];omega
  ·obtain rfl:i=nm.size:=by omega
   have hr:fJ (d,nm,p,u,v)=[1,d,p,u,v]++tV (s.take nm.size):=by
    rw[pJ (by omega),<-HS.out];rfl
   obtain⟨x0,x1,x2,x3,hx⟩:∃ x0 x1 x2 x3,tV (s.take nm.size)=[x0,x1,x2,x3]:=by
    have h4:=nR (s.take nm.size)
    match tV (s.take nm.size),h4 with
    | [x0,x1,x2,x3],_=>exact⟨_,_,_,_,rfl⟩
   rw[hx] at hr;have HR:=qQ hr;have HN2:=HN.out;rw[hx] at HN2;obtain⟨a0,a1,a2,a3,a4,a5,a6,a7,a8⟩:=iX.nine HN2;obtain⟨z0,z1,z2,z3,z4,z5,z6,z7,z8⟩:=iX.nine HZ.out;replace a0:=a0.c;replace a1:=a1.c;replace a2:=a2.c;replace a3:=a3.c;replace a4:=a4.c;replace a5:=a5.c;replace a6:=a6.c;replace a7:=a7.c;replace a8:=a8.c;obtain⟨c0,f0,l0⟩:=z0;obtain⟨c1,f1,_⟩:=z1;obtain⟨c2,f2,_⟩:=z2;obtain⟨c3,f3,_⟩:=z3;obtain⟨c4,f4,_⟩:=z4;obtain⟨c5,f5,_⟩:=z5;obtain⟨c6,f6,_⟩:=z6;obtain⟨c7,f7,_⟩:=z7;obtain⟨c8,f8,_⟩:=z8;clear hr hx HN HN2;have HZ9:=(((((((((HZ.out.set (i:=0) (by decide) 1).set (i:=1) (by decide) d).set (i:=2) (by decide) p).set (i:=3) (by decide) u).set (i:=4) (by decide) v).set (i:=5) (by decide) x0).set (i:=6) (by decide) x1).set (i:=7) (by decide) x2).set (i:=8) (by decide) x3);have FZ:Hid (iX _ (w.heap.size+1) [1,d,p,u,v,x0,x1,x2,x3]):=HZ9;clear HZ9;go_wp2;obtain⟨r0,r1,r2,r3,r4,r5,r6,r7,r8⟩:=FZ.out.nine;replace r0:=r0.c;replace r1:=r1.c;replace r2:=r2.c;replace r3:=r3.c;replace r4:=r4.c;replace r5:=r5.c;replace r6:=r6.c;replace r7:=r7.c;replace r8:=r8.c;refine uQ (v:=rvl (fJ (d,nm,p,u,v))) ?_ rfl ⟨rfl,?_⟩
   ·rw[HR.out]
    simp[results,results112,go_sem,r0,r1,r2,r3,r4,r5,r6,r7,r8,rvl]
   ·exact bs (bs (bs (bs (bs (bs (bs (bs (bs HW.out (by simp) _) (by simp) _) (by simp) _) (by simp) _) (by simp) _) (by simp) _) (by simp) _) (by simp) _) (by simp) _
theorem d8J (w:World)(a b c d e:Value)(t:TypeId)(N:Nat)(hN:N=w.heap.size):∀ j u,[a,b,c,d,e][j]? = some u->(w.alloc (.cells #[a,b,c,d,e] t)).cell? ((⟨N,0,none⟩:Addr).add j)=some u:=by
 subst hN;exact fun j u hu=>World.news_of_block (w:=w.alloc (.cells #[a,b,c,d,e] t)) (B:=w.heap.size) (cs:=#[a,b,c,d,e]) (t:=t) (fr:=(0,0)) (rC w _) j u (by simpa using hu)
theorem bjZ {y:ByteArray}(h:x≠y):kN x≠kN y:=by
 intro e;simp only[Lit.string.injEq] at e;apply h;apply ByteArray.ext;exact Array.toList_inj.1 e
theorem TwoB.gb {x:Value}(h:TwoB w R x y)(hg:w.grownBy w' r)(hne:some R≠r):TwoB w' R x y:=by
 have hk:w'.heap[R]? = w.heap[R]?:=hg.block R h.lt hne;exact⟨(oZ (w:=w) (a:=⟨R,0,none⟩) hk).trans h.c0,(oZ (w:=w) (a:=⟨R,1,none⟩) hk).trans h.c1,(sJ (w:=w) (a:=⟨R,0,none⟩) hk).trans h.f0,(sJ (w:=w) (a:=⟨R,1,none⟩) hk).trans h.f1,uX h.lt hg.size⟩
theorem TwoB.set1 {x:Value}(h:TwoB w R x y)(u:Value):TwoB (w.setCell ⟨R,1,none⟩ u) R x u :=
 ⟨(gQ (by simp)).trans h.c0,wZ h.c1,qZ.trans h.f0,qZ.trans h.f1,by simpa using h.lt⟩
theorem bjJ {done:List En}{e:En}(h:x≠e.2.1):sX (done++[e]) x=sX done x:=by
 rw[sM,xQ (fun c=>h c.2.symm)];cases sX done x <;> rfl
theorem d9Q {X w5 w6:World}{bk bm:Nat}{D:DataW Value}{done:List En}{e:En}{b:Rq}{Dp:DataW Value}
  (hX:BookM X N bk bm n v D done) (hN:∀ k,w5.heap.size<=k->N k) (hd:fX done e=0) (hn:nrm e=e)
  (hbud:sX (done++[e]) e.2.1=some b) (hP:Pts X bp np Dp (fun p=>p∈prs (done++[e]) e.2.1) (fun p=>(pQ (done++[e]) e.2.1 p).1)) (hnp:np<=done.length+1) (hszp:Maps.size Dp=(vJ (done++[e]) e.2.1).length) (hNp:N bp) (hpk:bp≠bk) (hpm:bp≠bm)
  (own5:w5.ownsMap prog 9 hR bm (n+1) (D.put (kN e.2.1) (.held (pv b (lX (done++[e]) e.2.1).1 bp)))) (g5:X.grownBy w5 (some bm))
  (row6:w6.ownsRow 0 59 5 (.slice (some ⟨g,0,none⟩) (done.length+1) cap) (done.length+1) (enc done++rK e)) (g6:w5.grownBy w6 v.ownBlock) (hg6:v.ownBlock=some g\/w5.heap.size<=g) :
  BookM (w6.setCell ⟨bk,1,none⟩ (.slice (some ⟨g,0,none⟩) (done.length+1) cap)) N bk bm (n+1) (.slice (some ⟨g,0,none⟩) (done.length+1) cap) (D.put (kN e.2.1) (.held (pv b (lX (done++[e]) e.2.1).1 bp))) (done++[e]):=by
 obtain⟨hl1,hl2,hl3,hl4⟩:=hX.lob;have hbk5:bk<w5.heap.size:=uX hX.two.lt g5.size;have hbm5:bm<w5.heap.size:=own5.lt
 have hgk:N g/\g≠bk/\g≠bm:=by
  rcases hg6 with h|h
  ·exact hl4 g h
  ·exact⟨hN g h,by omega,by omega⟩
 have g7:w6.grownBy (w6.setCell ⟨bk,1,none⟩ (.slice (some ⟨g,0,none⟩) (done.length+1) cap)) (some bk):=nQ (vX _ _) _ _;have ob:∀ k,v.ownBlock=some k->k≠bk/\k≠bm:=fun k hk=>(hl4 k hk).2
 have keepP:∀ {bq nq:Nat} {Dq:DataW Value} {P:Int->Prop} {f:Int->Rq},Pts X bq nq Dq P f->bq≠bk->bq≠bm->Pts (w6.setCell ⟨bk,1,none⟩ (.slice (some ⟨g,0,none⟩) (done.length+1) cap)) bq nq Dq P f:=fun {bq} {_} {_} {_} {_} h h1 h2=>by
  refine((h.gb g5 (by simpa using h2)).gb g6 (fun e'=>?_)).gb g7 (by simpa using h1);rcases hX.row.2 with⟨rfl,_⟩|⟨g',c',cur,rfl,_,hc,_⟩
  ·cases e'
  ·simp only[Value.ownBlock,xX] at e'
   subst e';obtain⟨es,clock,hb,_⟩:=h.own;rw[hc] at hb;cases hb
 obtain⟨k1,k2,k3⟩:=bcJ hd;refine⟨dtX hX.inv hd hn,?_,?_,?_,?_,fun x=>?_,fun x b' hx=>?_,?_,hl1,hl2,hl3,fun g' hg'=>?_⟩
 ·exact((hX.two.gb g5 (by simpa using hl3)).gb g6 (fun e'=>(ob bk e'.symm).1 rfl)).set1 _
 ·exact(own5.kept g6 (fun e'=>(ob bm e'.symm).2 rfl)).kept g7 (by simpa using fun h=>hl3 h.symm)
 ·have:=row6.kept g7 (.inr (by simpa [Value.ownBlock] using hgk.2.1))
  rw[bhX];simpa using this
 ·simp;have:=hX.cnt;omega
 ·by_cases hxe:x=e.2.1
  ·subst hxe
   rw[Maps.has_put_same hX.own.isMap (k:=kN e.2.1) True.intro];simp[hbud]
  ·rw[Maps.has_put_other (bjZ hxe),hX.is x,bjJ hxe]
 ·by_cases hxe:x=e.2.1
  ·subst hxe
   rw[hbud] at hx;simp only[xX] at hx;subst hx;exact⟨bp,np,Dp,Maps.atKey_put_same (k:=kN e.2.1) hX.own.isMap True.intro _ _,keepP hP hpk hpm,by simpa using hnp,hszp,hNp,hpk,hpm⟩
  ·rw[bjJ hxe] at hx
   obtain⟨bq,nq,Dq,j1,j2,j3,j4,j5,j6,j7⟩:=(hX.el x b' hx).ex;have hne:∀ q,¬ (e.2.1=x/\q):=fun q c=>hxe c.1.symm;have e1:lX (done++[e]) x=lX done x:=pO (hne _);have e2:prs (done++[e]) x=prs done x:=mR (hne _);have e3:pQ (done++[e]) x=pQ done x:=funext fun y=>tM (hne _);exact⟨bq,nq,Dq,by rw[Maps.atKey_put_other (bjZ hxe),e1];exact j1,by simp only[e2,e3];exact keepP j2 j6 j7,by simp;omega,by unfold vJ;rw[e2];exact j4,j5,j6,j7⟩
 ·rw[Maps.size_put (hX.own.tidy vC),hX.sz,abQ]
  rcases k3 with⟨c1,c2,_⟩|⟨c1,b0,c2,_⟩
  ·rw[zQ c1,(hX.has_no c2).1];simp
  ·rw[xQ c1,(hX.is e.2.1).2 ⟨b0,c2⟩];simp
 ·simp only[Value.ownBlock,xX] at hg'
  subst hg';exact hgk
theorem d9X (N:Nat->Prop)(bk bm n:Nat)(v:Value)(D:DataW Value)(done:List En)(e:En)(w:World)(hB:BookM w N bk bm n v D done)(hs:e.2.1.size<=4294967296)(hN:∀ k,w.heap.size<=k->N k)(hbad:mJ e=0)(hl:done.length<4096)(hpI:-9223372036854775808<=e.2.2.1/\e.2.2.1<=9223372036854775807)(her:fX done (nrm e)=0) :
  Calls prog 75 #[.pointer (some ⟨bk,0,none⟩),ev e] w (DoP w N bk bm done e):=by
 have kw:=fun W=>dL e (by omega) W 0 hbad;have ka:=fun W (hW:BookM W N bk bm n v D done) (hNW:∀ k,W.heap.size<=k->N k)=>bhZ N bk bm n v D done e W hW hs hNW hbad hl hpI 0 her;have kr:=fun W=>d1X e (by omega) W;have HB:=qQ hB;have hbk:=hB.two.lt;obtain⟨va,vc,rfl⟩:=hB.slice;have hq:decide ((4096:Int)<=(done.length:Int))=false:=oV (by omega);obtain⟨e',he'⟩:∃ e',nrm e=e':=⟨_,rfl⟩;have HE:=qQ he';have HD:Hid (fX done e' = 0):=by rw[<-he'];exact her
 simp only[he'] at ka kr;have hnm:e'.2.1=e.2.1:=by rw[<-he'];exact aaX e
 obtain⟨d,nm,p,u,v'⟩:=e;obtain⟨d',nm',p',u',v''⟩:=e';simp only at hnm hs;subst hnm;obtain⟨i0,hi0,hz0,hz1,hz2⟩:=rJ rR;have V0:Hid (FivB (w.alloc (.cells #[.int .i64 d,.string nm',.int .i64 p,.int .i64 u,.int .i64 v'] 59)) w.heap.size (.int .i64 d) (.string nm') (.int .i64 p) (.int .i64 u) (.int .i64 v')):=FivB.new _ _ _ _ _ _ 59 _ rfl;clear hbad her hB he';go_enter func75,ntmps75;go_wp2_with fail;refine(kw _).mono ?_;rintro e1 w1 ⟨rfl,hb1⟩;have B1:=bt (ba _ _) hb1;have BK1:=HB.out.keep B1;obtain⟨t0,t1,tf0,tf1,htl⟩:=BK1.two;obtain⟨c0,c1,c2,c3,c4,f0,f1,f2,f3,f4,hl0⟩:=V0.out.below hb1;go_wp2_with fail;refine(ka _ BK1 (fun k hk=>hN k (bQ B1.size hk))).mono ?_;rintro e2 w2 ⟨hb2,⟨hz,_⟩|⟨_,b,bp,np,Dp,rfl,hbud,hPt,hnp,hszp,hNp,hpk,hpm⟩⟩
 ·exact absurd rfl hz
 obtain⟨al,hal⟩:∃ al,(lX (done++[(d',nm',p',u',v'')]) nm').1=al:=⟨_,rfl⟩;have HAL:=qQ hal;simp only[hal];have HPT:Hid (Pts w2 bp np Dp (fun p=>p∈prs (done++[(d',nm',p',u',v'')]) nm') (fun y=>(pQ (done++[(d',nm',p',u',v'')]) nm' y).1)/\np<=done.length+1/\Maps.size Dp=(vJ (done++[(d',nm',p',u',v'')]) nm').length/\N bp/\bp≠bk/\bp≠bm/\sX (done++[(d',nm',p',u',v'')]) nm' = some b):=⟨hPt,hnp,hszp,hNp,hpk,hpm,hbud⟩;have hbp2:bp<w2.heap.size:=hPt.own.lt;clear hPt hnp hszp hNp hpk hpm hbud hal;obtain⟨c0,c1,c2,c3,c4,f0,f1,f2,f3,f4,hl0⟩:=(V0.out.below hb1).below hb2;go_wp2_with fail;refine(kr _).mono ?_;rintro e3 w3 ⟨rfl,hb3⟩;have hs1:w.heap.size<w1.heap.size:=by have:=hb1.size;simp at this;omega
 have hs2:=hb2.size;have hs3:w2.heap.size<w3.heap.size:=by have:=hb3.size;simp at this;omega
 obtain⟨c0,c1,c2,c3,c4,f0,f1,f2,f3,f4,hl0⟩:=(((V0.out.below hb1).below hb2).below (ba _ (.cells #[.int .i64 b.1,.int .i64 b.2,.int .i64 al.1,.int .i64 al.2,.map (some bp)] 236))).below hb3;obtain⟨X,hX⟩:∃ X,((((w3.setCell ⟨w.heap.size,0,none⟩ (.int .i64 d')).setCell ⟨w.heap.size,1,none⟩ (.string nm')).setCell ⟨w.heap.size,2,none⟩ (.int .i64 p')).setCell ⟨w.heap.size,3,none⟩ (.int .i64 u')).setCell ⟨w.heap.size,4,none⟩ (.int .i64 v'')=X:=⟨_,rfl⟩;have gX:w3.grownBy X (some w.heap.size):=by rw[<-hX];exact nQ (nQ (nQ (nQ (nQ (vX _ _) _ _) _ _) _ _) _ _) _ _
 have B3:Below w.heap.size w X:=by
  rw[<-hX];exact jY (bt (bal (bt B1 hb2) _) hb3) (vQ _) _ _ _ _ _
 have VX0:Hid (FivB X w.heap.size (.int .i64 d') (.string nm') (.int .i64 p') (.int .i64 u') (.int .i64 v'')):=by
  rw[<-hX];constructor <;> simp[mS,nS,wZ,c0,c1,c2,c3,c4,f0,f1,f2,f3,f4,hl0,go_sem]
 have VXp:Hid (FivB X w2.heap.size (.int .i64 b.1) (.int .i64 b.2) (.int .i64 al.1) (.int .i64 al.2) (.map (some bp))):=((FivB.new w2 _ _ _ _ _ 236 _ rfl).below hb3).gb gX (by simp;omega);have BKX:=qQ (HB.out.keep B3)
 have PX:Hid (Pts X bp np Dp (fun p=>p∈prs (done++[(d',nm',p',u',v'')]) nm') (fun y=>(pQ (done++[(d',nm',p',u',v'')]) nm' y).1)):=(HPT.out.1.keep (bt (ba _ _) hb3)).gb gX (fun e'=>by
  simp only[xX] at e';obtain⟨es,clock,hb,_⟩:=HPT.out.1.own;have h1:=f0;have h2:=((V0.out.below hb1).below hb2).c0;rw[<-e'] at h2;simp[World.cell?,hb] at h2)
 have hln:=HB.out.cnt;obtain⟨w5,hup,own5,gU⟩:=(BKX.out.own.drew).update vC underlying201 (by unfold maxLen;omega) (val:=pv b al bp) (d:=.held (pv b al bp)) (ps:=[]) (Go.WideMaps.keyOf_string_mk underlying9 (s:=nm') (by unfold maxLen;omega)) rfl;have g5:X.grownBy w5 (some bm):=bY (eJ (vX X (some bm))) gU;obtain⟨x0,x1,x2,x3,x4,y0,y1,y2,y3,y4,hlx⟩:=VX0.out;obtain⟨q0,q1,q2,q3,q4,r0,r1,r2,r3,r4,hlq⟩:=VXp.out;obtain⟨t0,t1,tf0,tf1,htl⟩:=BKX.out.two;go_wp2_with fail
 go_region
 obtain⟨hl1,hl2,hl3,hl4⟩:=BKX.out.lob;have T5:=qQ (BKX.out.two.gb g5 (by simpa using hl3));have V5:=qQ (VX0.out.gb g5 (by have:=HB.out.own.lt;simp;omega))
 have HRW:Hid (w5.ownsRow 0 59 5 (.slice va done.length vc) done.length (enc done)):=BKX.out.row.kept g5 (by
  cases hv:(Value.slice va done.length vc).ownBlock with
  | none=>exact .inl rfl
  | some g=>right;intro e';exact(hl4 g hv).2.2 (by simpa using e'))
 have HO:Hid (∀ g,(Value.slice va done.length vc).ownBlock=some g->g≠bk/\g≠w.heap.size):=fun g hg=>⟨(hl4 g hg).2.1,fun c=>by
  have h1:=HB.out.row;rcases h1.2 with⟨h2,_⟩|⟨g',c',cur,h2,_,hc,_⟩
  ·rw[h2] at hg;cases hg
  ·rw[h2] at hg
   simp only[Value.ownBlock,xX] at hg;have:=(zJ.1 hc).1;omega⟩
 obtain⟨k0,k1,kf0,kf1,hk5⟩:=T5.out;obtain⟨m0,m1,m2,m3,m4,mf0,mf1,mf2,mf3,mf4,hm5⟩:=V5.out;go_wp2_with fail
 go_region_law (refine step_append_lies _ rfl _ _ 40 rfl 0 59 i0 (.agg #[.int .i64 0,.string ⟨#[]⟩,.int .i64 0,.int .i64 0,.int .i64 0]) 5 48 underlying40 hi0 hz0 hz1 hz2 rfl (by decide) (.slice va done.length vc) done.length (enc done) rfl ?_ ⟨w5.heap.size,0,none⟩ 1 1 [.int .i64 d',.string nm',.int .i64 p',.int .i64 u',.int .i64 v''] rfl rfl ?_ ?_ (by decide) ?_ ?_ ?_ (w5.heap.size+1) ?_ ?_;(exact HRW.out.kept (sA (eJ (vX w5 none)) _) (by simp[Classical.em]));(exact d8J w5.drew _ _ _ _ _ 59 _ rfl);(intro z hz;simp at hz;rcases hz with rfl|rfl|rfl|rfl|rfl <;> rfl);(unfold maxLen;omega);(omega);(simp);(simp);intro g cap w6 hown hgrow hat hlt;have z0:w6.cell? ⟨bk,1,none⟩=some (.slice va done.length vc):=(hgrow.cell_far ⟨bk,1,none⟩ (by simp;omega) (fun e'=>(HO.out bk e'.symm).1 rfl)).trans (((ba w5.drew _).cell (p:=⟨bk,1,none⟩) hk5).trans k1);have z1:w6.frozen? ⟨bk,1,none⟩=false:=(hgrow.frozen_far ⟨bk,1,none⟩ (by simp;omega) (fun e'=>(HO.out bk e'.symm).1 rfl)).trans (((ba w5.drew _).frozen (p:=⟨bk,1,none⟩) hk5).trans kf1);have z2:w6.cell? ⟨w.heap.size,0,none⟩=some (.int .i64 d'):=(hgrow.cell_far ⟨w.heap.size,0,none⟩ (by simp;omega) (fun e'=>(HO.out w.heap.size e'.symm).2 rfl)).trans (((ba w5.drew _).cell (p:=⟨w.heap.size,0,none⟩) hm5).trans m0);have z3:w6.cell? ⟨w.heap.size,1,none⟩=some (.string nm'):=(hgrow.cell_far ⟨w.heap.size,1,none⟩ (by simp;omega) (fun e'=>(HO.out w.heap.size e'.symm).2 rfl)).trans (((ba w5.drew _).cell (p:=⟨w.heap.size,1,none⟩) hm5).trans m1);have z4:w6.cell? ⟨w.heap.size,2,none⟩=some (.int .i64 p'):=(hgrow.cell_far ⟨w.heap.size,2,none⟩ (by simp;omega) (fun e'=>(HO.out w.heap.size e'.symm).2 rfl)).trans (((ba w5.drew _).cell (p:=⟨w.heap.size,2,none⟩) hm5).trans m2);have z5:w6.cell? ⟨w.heap.size,3,none⟩=some (.int .i64 u'):=(hgrow.cell_far ⟨w.heap.size,3,none⟩ (by simp;omega) (fun e'=>(HO.out w.heap.size e'.symm).2 rfl)).trans (((ba w5.drew _).cell (p:=⟨w.heap.size,3,none⟩) hm5).trans m3);have z6:w6.cell? ⟨w.heap.size,4,none⟩=some (.int .i64 v''):=(hgrow.cell_far ⟨w.heap.size,4,none⟩ (by simp;omega) (fun e'=>(HO.out w.heap.size e'.symm).2 rfl)).trans (((ba w5.drew _).cell (p:=⟨w.heap.size,4,none⟩) hm5).trans m4))
 all_goals go_wp2_with fail
 all_goals
  go_ret;have hgb:w5.grownBy w6 (Value.slice va done.length vc).ownBlock:=bY (eJ (sA (vX _ _) _)) hgrow;have hN5:∀ k,w5.heap.size<=k->N k:=fun k hk=>hN k (by have:=B3.size;have:=g5.size;omega);have hal2:=HAL.out;have hst:sY done (d,nm',p,u,v')=done++[(d',nm',p',u',v'')]:=by unfold sY;rw[HE.out,zQ HD.out]
  have hnn:nrm (d',nm',p',u',v'')=(d',nm',p',u',v''):=by rw[<-HE.out,aaZ]
  refine⟨by rw[HE.out,HD.out];rfl,?_,n+1,.slice (some ⟨g,0,none⟩) (done.length+1) cap,D.put (kN nm') (.held (pv b (lX (done++[(d',nm',p',u',v'')]) nm').1 bp)),?_⟩
  ·exact xN (xN (xN (qX B3) g5 (fun k hk=>by simp only[xX] at hk;exact .inl (hk▸hl2))) hgb (fun k hk=>.inl (hl4 k hk).1)) (nQ (vX _ (some bk)) _ _) (fun k hk=>by simp only[xX] at hk;exact .inl (hk▸hl1))
  ·rw[hst]
   rw[<-hal2] at own5;have:=d9Q (e:=(d',nm',p',u',v'')) BKX.out hN5 HD.out hnn HPT.out.2.2.2.2.2.2 PX.out HPT.out.2.1 HPT.out.2.2.1 HPT.out.2.2.2.1 HPT.out.2.2.2.2.1 HPT.out.2.2.2.2.2.1 own5 g5 hown hgb (hat.imp id (fun h=>by omega));exact this
theorem aeX (N:Nat->Prop)(bk bm n:Nat)(v:Value)(D:DataW Value)(done:List En)(e:En)(w:World)(hB:BookM w N bk bm n v D done)(hs:e.2.1.size<=9223372036854775807)(hN:∀ k,w.heap.size<=k->N k)(hpI:-9223372036854775808<=e.2.2.1/\e.2.2.1<=9223372036854775807) :
  Calls prog 75 #[.pointer (some ⟨bk,0,none⟩),ev e] w (DoP w N bk bm done e):=by
 by_cases hb:mJ e≠0\/4096<=done.length
 ·refine(d5X N bk bm n v D done e w hB hs hb).mono ?_
  rintro x w' ⟨h1,h2⟩
  have hst:sY done e=done:=by
   unfold sY;rw[xQ];intro h0;obtain⟨h3,h4⟩:=pB h0;rw[adJ] at h3;omega
  exact⟨h1,qX h2,n,v,D,by rw[hst];exact hB.keep h2⟩
 ·have hbad:mJ e=0:=by omega
  have hs:e.2.1.size<=4294967296:=by
   have h1:=(oH hbad).2.2.1;unfold yV at h1;simp only[jK,qY] at h1;have h2:=h1.1.2;rw[eP] at h2
   show e.2.1.data.size<=_
   omega
  have hl:done.length<4096:=by omega
  by_cases h0:fX done (nrm e)=0
  ·exact d9X N bk bm n v D done e w hB hs hN hbad hl hpI h0
  ·refine(d5Z N bk bm n v D done e w hB hs hN hbad hl hpI _ rfl h0).mono ?_
   rintro x w' ⟨h1,h2⟩;exact⟨h1,qX h2,n,v,D,by unfold sY;rw[xQ h0];exact hB.keep h2⟩
theorem vR (N:Nat->Prop)(w:World)(hN:∀ k,w.heap.size<=k->N k):Calls prog 52 #[] w fun x w'=>x=.returned (.pointer (some ⟨w.heap.size+1,0,none⟩))/\Below w.heap.size w w'/\w'.heap.size=w.heap.size+1+1/\BookM w' N (w.heap.size+1) w.heap.size 0 (.slice none 0 0) (.map []) []:=by
 have hmm:=@run_makeMap prog;go_enter func52,ntmps52;go_wp2;go_ret;refine⟨rfl,bal (ba _ _) _,by simp,⟨dsZ,?_,?_,?_,vQ _,fun x=>?_,fun x b hx=>?_,?_,hN _ (by omega),hN _ (by omega),by omega,fun g hg=>by cases hg⟩⟩
 ·exact TwoB.new _ _ _ _ _ (by simp)
 ·exact(World.ownsMap_made w prog 9 hR).alloc _
 ·exact⟨rfl,.inl ⟨rfl,rfl⟩⟩
 ·simp[Maps.has,sX]
 ·simp[sX] at hx
 ·simp[Maps.size,eY]
theorem d9Z (w:World)(ty:TypeId)(g n:Nat)(a:Addr)(sCap:Nat)(cur:Array Value)(cs:List Value)(hg:w.heap[g]? = some (.cells cur 59 (0,0)))(hn:cs.length=n*5)
  (hsrc:∀ j v,cs[j]? = some v->w.cell? (a.add j)=some v) (hfit:cs.length<=cur.size) (h1:∀ v∈cs,v.oneCell' = true) :
  (Builtin.copy_ #[40,40] ty #[.slice (some ⟨g,0,none⟩) n n,.slice (some a) n sCap]).run prog w=.ok (goInt n) (w.setRow g (cs++cur.toList.drop cs.length).toArray):=by
 have hl:=run_loadCells_list (P:=prog) w a cs hsrc;have hst:=run_storeCells_at prog g 0 59 cs 0 cur w hg (by simpa using hfit) h1;obtain⟨i0,hi,_,hz1,_⟩:=rJ rR;have hm:Nat.min n n=n:=Nat.min_self n;simp only[xZ,oA,List.take_zero,gP] at hst;simp[Builtin.copy_,aE underlying40,Builtin.lenOf,Builtin.firstCells,sizeOf,typeInfo,hi,hz1,<-hn,hl,hst]
theorem d9J (w:World)(ty:TypeId)(g n:Nat)(ad:Option Addr)(sCap:Nat)(cur:Array Value)(hg:w.heap[g]? = some (.cells cur 59 (0,0)))(cs:List Value)(hn:cs.length=n*5)(hsrc:(ad=none/\n=0/\sCap=0)\/∃ b,ad=some b/\∀ j v,cs[j]? = some v->w.cell? (b.add j)=some v)(hfit:cs.length=cur.size)(h1:∀ v∈cs,v.oneCell' = true) :
  (Builtin.copy_ #[40,40] ty #[.slice (some ⟨g,0,none⟩) n n,.slice ad n sCap]).run prog w=.ok (goInt n) (w.setRow g cs.toArray):=by
 rcases hsrc with⟨rfl,rfl,rfl⟩|⟨b,rfl,hsrc⟩
 ·have hrun:=run_copy_nil (P:=prog) w 40 40 ty 59 ⟨g,0,none⟩ 0 0 underlying40 (by obtain⟨i0,hi,_⟩:=rJ rR;rw[hi];rfl)
  have hcs:cs=[]:=anZ (by omega);subst hcs;have hcur:cur = #[]:=Array.eq_empty_of_size_eq_zero (by simpa using hfit.symm);subst hcur;rw[show([]:List Value).toArray = #[] from rfl,setRow_self w g #[] 59 (0,0) hg];exact hrun
 ·have hrun:=d9Z w ty g n b sCap cur cs hg hn hsrc (by omega) h1
  rw[wI (by rw[eP];omega),yU] at hrun;exact hrun
theorem bkQ (l:List En):∀ v∈enc l,v.oneCell' = true:=by
 intro v hv;simp only[enc,dN] at hv;obtain⟨e,_,he⟩:=hv;simp[rK] at he;rcases he with rfl|rfl|rfl|rfl|rfl <;> rfl
theorem eaQ (h:w.ownsRow base 59 5 v n xs):∃ ad c,v=.slice ad n c/\((ad=none/\n=0/\c=0)\/∃ b,ad=some b/\∀ j u,xs[j]? = some u->w.cell? (b.add j)=some u):=by
 rcases h.2 with⟨rfl,rfl⟩|⟨g,cap,cur,rfl,_,hc,_,_,_,hx⟩
 ·exact⟨none,0,rfl,.inl ⟨rfl,rfl,rfl⟩⟩
 ·refine⟨_,_,rfl,.inr ⟨_,rfl,fun j u hj=>?_⟩⟩
  refine World.news_of_block hc j u ?_;rw[<-hx] at hj;rw[qL] at hj;split at hj
  ·exact hj
  ·cases hj
theorem eaX (N:Nat->Prop)(bk bm n:Nat)(v:Value)(D:DataW Value)(done:List En)(w:World)(hB:BookM w N bk bm n v D done) :
  Calls prog 58 #[.pointer (some ⟨bk,0,none⟩)] w fun x w'=>∃ r,x=.returned r/\w'.ownsRow w.heap.size 59 5 r done.length (enc done)/\Below w.heap.size w w':=by
 obtain⟨t0,t1,tf0,tf1,htl⟩:=hB.two;have hrow:=hB.row;have hlen:=hB.inv.len;clear hB;obtain⟨ad,c,rfl,hsrc⟩:=eaQ hrow;obtain⟨i0,hi,hz0,hz1,hz2⟩:=rJ rR
 have hmk:∀ u:World,(Instr.makeSlice 40 (.int .i64 (done.length:Int)) (.int .i64 (done.length:Int))).run prog u =
   .ok (.slice (some ⟨u.heap.size,0,none⟩) done.length done.length) (u.alloc (.cells (madeCells #[.int .i64 0,.string ⟨#[]⟩,.int .i64 0,.int .i64 0,.int .i64 0] (done.length*5)) 59)):=fun u=>by
  have h:=run_make (P:=prog) u 40 59 i0 (.agg #[.int .i64 0,.string ⟨#[]⟩,.int .i64 0,.int .i64 0,.int .i64 0]) underlying40 hi hz0 .i64 .i64 (done.length:Int) (done.length:Int) (by omega) (zG _) (by rw[hz2];omega) (by omega);rw[vK] at h;simpa [hz1,Value.cells] using h
 have HS:Hid ((ad=none/\done.length=0/\c=0)\/∃ b,ad=some b/\∀ j u,(enc done)[j]? = some u->(w.alloc (.cells (madeCells #[.int .i64 0,.string ⟨#[]⟩,.int .i64 0,.int .i64 0,.int .i64 0] (done.length*5)) 59)).cell? (b.add j)=some u):=by
  rcases hsrc with h|⟨b,h1,h2⟩
  ·exact .inl h
  ·exact .inr ⟨b,h1,fun j u hj=>(uN w _ none).cell (h2 j u hj) (by simp)⟩
 have hcp:=d9J (w.alloc (.cells (madeCells #[.int .i64 0,.string ⟨#[]⟩,.int .i64 0,.int .i64 0,.int .i64 0] (done.length*5)) 59)) 3 w.heap.size done.length ad c _ (rC w _) (enc done) (qN done) HS.out (by simp[qN,size_madeCells]) (bkQ done);obtain⟨W,hW⟩:∃ W,(w.alloc (.cells (madeCells #[.int .i64 0,.string ⟨#[]⟩,.int .i64 0,.int .i64 0,.int .i64 0] (done.length*5)) 59)).setRow w.heap.size (enc done).toArray=W:=⟨_,rfl⟩;have HWB:Hid (Below w.heap.size w W):=by rw[<-hW];exact below_setRow (ba _ _) (vQ _) _
 have HWR:Hid (W.heap[w.heap.size]? = some (.cells (enc done).toArray 59 (0,0))):=by
  show _=_
  rw[<-hW];exact setRow_heap _ _ _ _ 59 (0,0) (rC w _)
 rw[hW] at hcp;clear hsrc hrow hW;go_enter func58,ntmps58;go_wp2;go_ret;refine⟨_,rfl,⟨by rw[qN],.inr ⟨w.heap.size,done.length,_,rfl,vQ _,HWR.out,vQ _,by unfold maxLen;omega,by simp[qN],?_⟩⟩,HWB.out⟩;rw[List.toList_toArray,pJ (by rw[qN];exact vQ _)]
theorem eaZ (N:Nat->Prop)(bk bm n:Nat)(v:Value)(D:DataW Value)(done:List En)(nm:ByteArray)(w:World)(hB:BookM w N bk bm n v D done)(hs:nm.size<=4294967296)(hbud:sX done nm=none) :
  Calls prog 77 #[.pointer (some ⟨bk,0,none⟩),.string nm] w fun x w'=>x=.returned (.tuple #[rv 0 0,rv 0 0,.int .i64 7])/\Below w.heap.size w w':=by
 obtain⟨hhas,hat⟩:=hB.has_no hbud;obtain⟨w0,hw0⟩:∃ w0,(w.alloc (.cells #[.int .i64 0,.int .i64 0] 37)).alloc (.cells #[.int .i64 0,.int .i64 0] 37)=w0:=⟨_,rfl⟩;have B0:Below w.heap.size w w0:=by rw[<-hw0];exact bal (ba _ _) _
 have hz0:w0.heap.size=w.heap.size+1+1:=by rw[<-hw0];simp
 have V0:TwoB w0 w.heap.size (.int .i64 0) (.int .i64 0):=by rw[<-hw0];exact(TwoB.new _ _ _ 37 _ rfl).below (ba _ _)
 have V1:TwoB w0 (w.heap.size+1) (.int .i64 0) (.int .i64 0):=by rw[<-hw0];exact TwoB.new _ _ _ 37 _ (by simp)
 have hlk:=hB.lookAt hs hat hhas (tX B0);obtain⟨t0,t1,tf0,tf1,htl⟩:=(hB.keep B0).two;obtain⟨c0,c1,f0,f1,hl0⟩:=V0;obtain⟨d0,d1,g0,g1,hl1⟩:=V1;have hbk:bk<w.heap.size:=hB.two.lt;have hbk2:bk<w.heap.size+1+1:=by omega
 clear hB hat hhas hbud;go_enter func77,ntmps77;go_wp2;exact uQ (v:=.tuple #[rv 0 0,rv 0 0,.int .i64 7]) (by simp[results,results77,go_sem,c0,c1,d0,d1,hz0]) rfl ⟨rfl,bal (bs (bs (bs (bs B0 (by simp) _) (by simp) _) (by simp) _) (by simp) _) _⟩
theorem eaJ (N:Nat->Prop)(bk bm n:Nat)(v:Value)(D:DataW Value)(done:List En)(nm:ByteArray)(w:World)(hB:BookM w N bk bm n v D done)(hs:nm.size<=4294967296)(b:Rq)(hbud:sX done nm=some b)(sp:Rq)(hsp:(lJ done nm).1=sp) :
  Calls prog 77 #[.pointer (some ⟨bk,0,none⟩),.string nm] w fun x w'=>x=.returned (.tuple #[rvq sp,rvq b,.int .i64 0])/\Below w.heap.size w w':=by
 obtain⟨bp,np,Dp,hat,hPp,hnp,_⟩:=(hB.el nm b hbud).ex;have hhas:Maps.has D (kN nm)=true:=(hB.is nm).2 ⟨b,hbud⟩;have hinv:=hB.inv;have hln:=hinv.len;obtain⟨al,hal⟩:∃ al,(lX done nm).1=al:=⟨_,rfl⟩;rw[hal] at hat
 have hmu:iQ al (qU (pQ done nm) mZ (prs done nm)).1=(sp,0):=by
  have h1:=hinv.spent nm;rw[hal] at h1;rw[<-h1,<-hsp];exact zI rfl (hinv.ok nm)
 have ks:=fun W (hW:Pts W bp np Dp (fun p=>p∈prs done nm) (fun p=>(pQ done nm p).1))=>bgJ b al bp np Dp _ _ W hW (by omega) _ (hinv.top nm).2 sp 0 hmu;obtain⟨w0,hw0⟩:∃ w0,(w.alloc (.cells #[.int .i64 0,.int .i64 0] 37)).alloc (.cells #[.int .i64 0,.int .i64 0] 37)=w0:=⟨_,rfl⟩;have B0:Below w.heap.size w w0:=by rw[<-hw0];exact bal (ba _ _) _
 have hz0:w0.heap.size=w.heap.size+1+1:=by rw[<-hw0];simp
 have V0:Hid (TwoB w0 w.heap.size (.int .i64 0) (.int .i64 0)):=by rw[<-hw0];exact(TwoB.new _ _ _ 37 _ rfl).below (ba _ _)
 have V1:Hid (TwoB w0 (w.heap.size+1) (.int .i64 0) (.int .i64 0)):=by rw[<-hw0];exact TwoB.new _ _ _ 37 _ (by simp)
 have hlk:=hB.lookAt hs hat hhas (tX B0);have P1:Hid (Pts (w0.alloc (.cells #[.int .i64 b.1,.int .i64 b.2,.int .i64 al.1,.int .i64 al.2,.map (some bp)] 236)) bp np Dp (fun p=>p∈prs done nm) (fun p=>(pQ done nm p).1)):=hPp.keep (bal B0 _);obtain⟨t0,t1,tf0,tf1,htl⟩:=(hB.keep B0).two;have hbk:bk<w.heap.size:=hB.two.lt;have hbk2:bk<w.heap.size+1+1:=by omega
 clear hB hat hhas hbud hPp hinv hal hsp hmu;go_enter func77,ntmps77;go_wp2_with fail;refine(ks _ P1.out).mono ?_;rintro e1 w1 ⟨rfl,hb1⟩;have V3:FivB w1 (w.heap.size+1+1) (.int .i64 b.1) (.int .i64 b.2) (.int .i64 al.1) (.int .i64 al.2) (.map (some bp)):=(FivB.new w0 _ _ _ _ _ 236 _ hz0.symm).below hb1;obtain⟨c0,c1,f0,f1,hl0⟩:=(V0.out.below (ba _ _)).below hb1;obtain⟨d0,d1,g0,g1,hl1⟩:=(V1.out.below (ba _ _)).below hb1;obtain⟨x0,x1,x2,x3,x4,_,_,_,_,_,hx⟩:=V3;have B1:Below w.heap.size w w1:=bt (bal B0 _) hb1;obtain⟨y0,y1,_,_,_⟩:=((((V0.out.below (ba _ _)).below hb1).put (.int .i64 sp.1) (.int .i64 sp.2)).put (.int .i64 sp.1) (.int .i64 sp.2));go_wp2_with fail
 go_region
 all_goals go_wp2_with fail
 all_goals exact uQ (v:=.tuple #[rvq sp,rvq b,.int .i64 0]) (by simp[results,results77,go_sem,y0,y1,d0,d1]) rfl ⟨rfl,Below.drew (bs (bs (bs (bs (bs (bs B1 (by simp) _) (by simp) _) (by simp) _) (by simp) _) (by simp) _) (by simp) _)⟩
end K.P
end Go.Proofs.YtpmioeamdhdokaaGreat
