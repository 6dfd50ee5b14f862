import Derived.Test.YtdceajgpolckiaaGreatDoorQq30
import Derived.Laws.Bits
import Derived.Laws.Shifts
import Derived.Deep.RegionLaw
import Derived.BigRegion
import Derived.Laws.CopyOwn
import Derived.Deep.OwnRows
import Derived.RangeFuncNested
import Derived.RangeFuncBound
import Derived.RangeFuncCalls
import Derived.RangeFuncLeaves
import Derived.Shelf.Abstract
import Derived.Shelf.RegionOpen
import Derived.OwnWalkIn
import Derived.TacticsInMore
import Derived.LoopNIn
import Derived.LoopIn
open Go.Proofs.Tryz
set_option linter.unusedSimpArgs false
set_option maxHeartbeats 16000000
set_option maxRecDepth 100000
namespace Go.Proofs.YtdceajgpolckiaaGreatDoor
namespace K.P
open K.Ds
theorem amX (x:Int):(BitVec.ofInt 64 x).toNat=nG x:=by
 rw[BitVec.toNat_ofInt];rfl
theorem amZ {n:Nat}(h:n<18446744073709551616):IntKind.i64.wrap (n:Int)=sU n:=by
 rw[bJ];unfold sU;split <;> omega
theorem c7Z (a b k n:Nat)(hn:n=2 ^ (k+8)*a)(hb:b<256)(hlt:n<18446744073709551616)(hk:k<=56) :
  bits .or .i64 (sU n) (IntKind.i64.wrap ((b:Int)*2 ^ k))=sU (n+b*2 ^ k):=by
 have h56:2 ^ k<=2 ^ 56:=Nat.pow_le_pow_right (by decide) hk
 have hm:b*2 ^ k<18446744073709551616:=by
  have:=Nat.mul_le_mul (show b<=255 by omega) h56;omega
 have e1:((b:Int)*2 ^ k)=((b*2 ^ k:Nat):Int):=by simp
 have hlow:b*2 ^ k<2 ^ (k+8):=by
  rw[Nat.pow_add,Nat.mul_comm];exact Nat.mul_lt_mul_of_pos_left hb (Nat.two_pow_pos k)
 have hor:n ||| (b*2 ^ k)=n+b*2 ^ k:=by
  rw[hn,Nat.two_pow_add_eq_or_of_lt hlow]
 have hs:n+b*2 ^ k<18446744073709551616:=by
  rw[<-hor];exact Nat.or_lt_two_pow (n:=64) hlt hm
 rw[e1,amZ hm];unfold bits;simp only
 show IntKind.i64.wrap (((BitVec.ofInt 64 (sU n)) ||| (BitVec.ofInt 64 (sU (b*2 ^ k)))).toNat:Int)=_
 rw[BitVec.toNat_or,amX,amX,gB hlt,gB hm,hor,amZ hs]
theorem wB (s:List Nat)(i j:Nat):(s.take i).getD j 0=if j<i then s.getD j 0 else 0:=by
 simp only[List.getD,eH];split <;> rfl
theorem amJ (s:List Nat)(q r:Nat):octs (s.take (8*q+r)) q=(List.range 8).map fun t=>if t<r then s.getD (8*q+t) 0 else 0:=by
 unfold octs;refine lR fun t _=>?_;rw[wB];by_cases c:t<r
 ·rw[xQ c,xQ (by omega)]
 ·rw[qQ c,qQ (by omega)]
theorem r8:List.range 8=[0,1,2,3,4,5,6,7]:=rfl
theorem c7J (f:Nat->Nat)(r:Nat)(hr:r<8):uV ((List.range 8).map fun t=>if t<r then f t else 0)=2 ^ (8*(7 - r)+8)*uV ((List.range r).map f) /\
  uV ((List.range 8).map fun t=>if t<r+1 then f t else 0)=uV ((List.range 8).map fun t=>if t<r then f t else 0)+f r*2 ^ (8*(7 - r)):=by
 rw[r8]
 match r,hr with
 | 0,_ | 1,_ | 2,_ | 3,_ | 4,_ | 5,_ | 6,_ | 7,_=>constructor <;> simp[uV,List.range_succ] <;> omega
theorem c8Q (s:List Nat)(q r:Nat)(hr:r<8):(∃ a,uV (octs (s.take (8*q+r)) q)=2 ^ (8*(7 - r)+8)*a)/\uV (octs (s.take (8*q+r+1)) q)=uV (octs (s.take (8*q+r)) q)+s.getD (8*q+r) 0*2 ^ (8*(7 - r)):=by
 have h:=c7J (fun t=>s.getD (8*q+t) 0) r hr;rw[show 8*q+r+1=8*q+(r+1) from rfl,amJ,amJ];exact⟨⟨_,h.1⟩,h.2⟩
theorem c8X (s:List Nat)(q i:Nat)(h:i / 8≠q):octs (s.take (i+1)) q=octs (s.take i) q:=by
 unfold octs;refine lR fun t ht=>?_;have ht8:t<8:=by simpa using ht
 rw[wB,wB];by_cases c:8*q+t<i
 ·rw[xQ c,xQ (by omega)]
 ·rw[qQ c,qQ (by omega)]
theorem dM (s:List Nat)(q:Nat)(hq:q<4):(eJ s)[q]? = some (sU (uV (octs s q))):=by
 simp[eJ,hq]
theorem c8Z (s:List Nat)(hs:∀ b∈s,b<256)(q:Nat):uV (octs s q)<18446744073709551616:=by
 have h8:(octs s q).length=8:=by simp[octs]
 have hb:=tP (xR hs q);rw[h8] at hb;simpa using hb
theorem c8J (s:List Nat)(hs:∀ b∈s,b<256)(i:Nat)(hi:i<32):eJ (s.take (i+1))=(eJ (s.take i)).set (i / 8) (bits .or .i64 ((eJ (s.take i)).getD (i / 8) 0) (IntKind.i64.wrap ((s.getD i 0:Nat)*2 ^ (8*(7 - i % 8))))):=by
 have e:i=8*(i / 8)+i % 8:=by omega
 obtain⟨⟨a,h1⟩,h2⟩:=c8Q s (i / 8) (i % 8) (by omega);rw[<-e] at h1 h2
 have hb:s.getD i 0<256:=by
  rw[List.getD];cases c:s[i]? with
  | none=>simp
  | some x=>simpa using hs x (uX c)
 have hq:i / 8<4:=by omega
 have hl:=c8Z (s.take i) (fun b hb=>hs b (lF hb)) (i / 8);have hg:(eJ (s.take i)).getD (i / 8) 0=sU (uV (octs (s.take i) (i / 8))):=by rw[List.getD,dM _ _ hq];rfl
 rw[hg];have ho:=c7Z a (s.getD i 0) (8*(7 - i % 8)) _ h1 hb hl (by omega);rw[ho,<-h2];apply zK;intro j;by_cases c:j<4
 ·by_cases c2:i / 8=j
  ·subst c2
   rw[dM _ _ c,lA (by rw[zH];exact c)]
  ·rw[yG c2,dM _ _ c,dM _ _ c,c8X s j i c2]
 ·rw[uL (by rw[zH];omega),uL (by rw[yL,zH];omega)]
theorem c9Q:eJ []=[0,0,0,0]:=by decide
theorem c9X (x:Int)(r:Nat)(hr:r<8):IntKind.u8.wrap (x / 2 ^ (8*(7 - r)))=((yU 8 (nG x)).getD r 0:Nat):=by
 have hu:IntKind.u8.wrap (x / 2 ^ (8*(7 - r)))=(x / 2 ^ (8*(7 - r))) % 256:=by simp[IntKind.wrap,IntKind.bits,IntKind.signed]
 rw[hu];unfold nG;have e:yU 8 (x % 18446744073709551616).toNat=[(x % 18446744073709551616).toNat / 256 / 256 / 256 / 256 / 256 / 256 / 256 % 256,(x % 18446744073709551616).toNat / 256 / 256 / 256 / 256 / 256 / 256 % 256,(x % 18446744073709551616).toNat / 256 / 256 / 256 / 256 / 256 % 256,(x % 18446744073709551616).toNat / 256 / 256 / 256 / 256 % 256,(x % 18446744073709551616).toNat / 256 / 256 / 256 % 256,(x % 18446744073709551616).toNat / 256 / 256 % 256,(x % 18446744073709551616).toNat / 256 % 256,(x % 18446744073709551616).toNat % 256]:=rfl;rw[e]
 match r,hr with
 | 0,_ | 1,_ | 2,_ | 3,_ | 4,_ | 5,_ | 6,_ | 7,_=>simp;omega
end K.P
namespace K.P
open Go.RowKit K.Ds
theorem anQ (i k:Nat)(hi:i<32)(hk:k=8*(7 - i % 8))(w:World):Calls prog 189 #[.int .i64 i] w fun e w'=>e=.returned (.int .i64 (k:Int))/\w' = w:=by
 have e:8*(7 - (i:Int) % 8)=(k:Int):=by omega
 clear hk;have H:Hid (8*(7 - (i:Int) % 8)=(k:Int)):=e;clear e;go_enter func189,ntmps189;go_wp2;go_ret;exact⟨congrArg (fun z=>Ending.returned (Value.int .i64 z)) H.out,rfl⟩
def wQ (w:World) (b:Nat) (l:List Int):Prop:=l.length=9/\∀ k x,l[k]? = some x->Cl w b k (.int .i64 x)
theorem wQ.at {w w':World}{b:Nat}{l:List Int}(h:wQ w b l)(hb:Below w.heap.size w w'):wQ w' b l:=⟨h.1,fun k x hx=>(h.2 k x hx).at hb⟩
theorem wQ.set {w:World}{b:Nat}{l:List Int}(h:wQ w b l){i:Nat}(hi:i<9)(x:Int):wQ (w.setCell ⟨b,i,none⟩ (.int .i64 x)) b (l.set i x):=by
 refine⟨by rw[yL];exact h.1,fun k y hy=>?_⟩;by_cases c:i=k
 ·subst c
  rw[lA (by rw[h.1];exact hi)] at hy;cases hy;obtain⟨z,hz⟩:∃ z,l[i]? = some z:=⟨_,dZ (by rw[h.1];exact hi)⟩;exact(h.2 i z hz).set _
 ·rw[yG c] at hy
  exact(h.2 k y hy).oth (.inr c) _
theorem wQ.oth {w:World}{b b' k:Nat}{l:List Int}(h:wQ w b l)(hne:b'≠b)(u:Value):wQ (w.setCell ⟨b',k,none⟩ u) b l:=⟨h.1,fun j x hx=>(h.2 j x hx).oth (.inl hne) _⟩
theorem wQ.nine {w:World}{b:Nat}{x0 x1 x2 x3 x4 x5 x6 x7 x8:Int}(h:wQ w b [x0,x1,x2,x3,x4,x5,x6,x7,x8]):Cl w b 0 (.int .i64 x0)/\Cl w b 1 (.int .i64 x1)/\Cl w b 2 (.int .i64 x2)/\Cl w b 3 (.int .i64 x3)/\Cl w b 4 (.int .i64 x4)/\Cl w b 5 (.int .i64 x5)/\Cl w b 6 (.int .i64 x6)/\Cl w b 7 (.int .i64 x7)/\Cl w b 8 (.int .i64 x8) :=
 ⟨h.2 0 _ rfl,h.2 1 _ rfl,h.2 2 _ rfl,h.2 3 _ rfl,h.2 4 _ rfl,h.2 5 _ rfl,h.2 6 _ rfl,h.2 7 _ rfl,h.2 8 _ rfl⟩
theorem wQ.new {w:World}{N:Nat}(x0 x1 x2 x3 x4 x5 x6 x7 x8:Int)(t:TypeId)(hN:N=w.heap.size):wQ (w.alloc (.cells #[.int .i64 x0,.int .i64 x1,.int .i64 x2,.int .i64 x3,.int .i64 x4,.int .i64 x5,.int .i64 x6,.int .i64 x7,.int .i64 x8] t)) N [x0,x1,x2,x3,x4,x5,x6,x7,x8]:=by
 refine⟨rfl,fun k x hx=>?_⟩
 match k,hx with
 | 0,hx | 1,hx | 2,hx | 3,hx | 4,hx | 5,hx | 6,hx | 7,hx | 8,hx=>cases hx;exact Cl.new _ t _ _ hN rfl
theorem Cl.drew' {w:World}{b k:Nat}{v:Value}(h:Cl w b k v):Cl w.drew b k v:=⟨h.c,h.f,h.lt⟩
theorem wQ.drew {w:World}{b:Nat}{l:List Int}(h:wQ w b l):wQ w.drew b l:=⟨h.1,fun k x hx=>Cl.drew' (h.2 k x hx)⟩
theorem qO {l:List Int}(h:l.length=9):∃ x0 x1 x2 x3 x4 x5 x6 x7 x8,l=[x0,x1,x2,x3,x4,x5,x6,x7,x8]:=by
 match l,h with
 | [x0,x1,x2,x3,x4,x5,x6,x7,x8],_=>exact⟨_,_,_,_,_,_,_,_,_,rfl⟩
def rvl (l:List Int):Value:=.agg (l.map (Value.int .i64)).toArray
abbrev zr:Value:=.int .i64 0
def NB (w:World) (b:Nat) (l:List Int):Prop:=∀ k x,l[k]? = some x->Cl w b k (.int .i64 x)
theorem NB.set {w:World}{b:Nat}{l:List Int}(h:NB w b l){i:Nat}(hi:i<l.length)(x:Int):NB (w.setCell ⟨b,i,none⟩ (.int .i64 x)) b (l.set i x):=by
 intro k y hy;by_cases c:i=k
 ·subst c
  rw[lA hi] at hy;cases hy;obtain⟨z,hz⟩:∃ z,l[i]? = some z:=⟨_,dZ hi⟩;exact(h i z hz).set _
 ·rw[yG c] at hy
  exact(h k y hy).oth (.inr c) _
theorem NB.drew {w:World}{b:Nat}{l:List Int}(h:NB w b l):NB w.drew b l:=fun k x hx=>Cl.drew' (h k x hx)
theorem xO:(prog.info? 2).map (fun i=>(i.zero,i.size,i.bytes))=some (some (.int .i64 0),1,8):=by kernel_rfl
theorem c9Z (n:Nat):madeCells #[.int .i64 0] n=((List.replicate n (0:Int)).map (Value.int .i64)).toArray:=by
 apply Array.ext';rw[jE];simp
theorem c9J (nm:ByteArray)(hs:nm.size<=32)(n:Nat)(hn:n=(nm.size+7) / 8)(w:World) :
  Calls prog 153 #[.string nm] w fun e w'=>e=.returned (.slice (some ⟨w.heap.size,0,none⟩) n n)/\Below w.heap.size w w'/\NB w' w.heap.size ((eJ (dU nm)).take n):=by
 obtain⟨s,hsd⟩:∃ s,dU nm=s:=⟨_,rfl⟩;have hsl:s.length=nm.size:=by rw[<-hsd];simp[dU]
 have HB:Hid (∀ b∈s,b<256):=by rw[<-hsd];exact zR nm
 have HG:Hid (∀ i (h:i<nm.size),(nm.get i h).toNat=s.getD i 0):=by
  intro i h;have h2:i<nm.data.toList.length:=by simpa using h
  rw[<-hsd,List.getD,dU,xA,dZ h2];rfl
 rw[hsd];clear hsd;have hmk:∀ u:World,(Instr.makeSlice 43 (.int .i64 (n:Int)) (.int .i64 (n:Int))).run prog u=.ok (.slice (some ⟨u.heap.size,0,none⟩) n n) (u.alloc (.cells (madeCells #[.int .i64 0] n) 2)):=run_make_row' (P:=prog) 43 2 (.int .i64 0) 8 underlying43 xO rfl .i64 .i64 n (by omega) (by omega);have hdv:((nm.size:Int)+8 - 1) / 8=(n:Int):=by omega
 have hdw:((nm.size:Int)+7) / 8=(n:Int):=by omega
 have hn4:n<=4:=by omega
 have HNE:Hid (n=(nm.size+7) / 8):=hn;clear hn;go_enter func153,ntmps153;go_wp2;clear hdv hdw hmk
 go_loopw [13] (fun t wr=>∃ (i:Nat),t=.int .i64 (i:Int)/\i<=nm.size/\Hid (NB wr w.heap.size ((eJ (s.take i)).take n))/\Hid (Below w.heap.size w wr)) (fun t _=>nm.size - (intOf t).toNat)
 case atStart =>
  refine⟨0,rfl,nQ _,?_,ba _ _⟩;intro k x hx;rw[List.take_zero,c9Q] at hx;have hk:k<n:=by have:=(lQ.1 hx).1;rw[lU] at this;omega
  obtain rfl:x=0:=by
   rw[jI hk] at hx
   match k,hx with
   | 0,hx | 1,hx | 2,hx | 3,hx=>cases hx;rfl
  refine Cl.new _ 2 k _ rfl ?_;rw[c9Z];simp[hk]
 case round =>
  obtain⟨i,rfl,hi,HN,HW⟩:=hrel;by_cases h1:i<nm.size
  ·obtain⟨q,hq⟩:∃ q,i / 8=q:=⟨_,rfl⟩
   obtain⟨k,hk⟩:∃ k,k=8*(7 - i % 8):=⟨_,rfl⟩;have kf:=fun W=>anQ i k (by omega) hk W;have hq4:q<4:=by omega
   have hqn:q<n:=by have:=HNE.out;omega
   have hqi:(i:Int) / 8=(q:Int):=by omega
   have hw1:IntKind.i64.wrap (q:Int)=(q:Int):=by rw[bJ];omega
   obtain⟨x,hx⟩:∃ x,(eJ (s.take i))[q]? = some x:=⟨_,dM _ _ hq4⟩;obtain⟨b,hb⟩:∃ b,(nm[i]'h1).toNat=b:=⟨_,rfl⟩;have HBB:Hid (s.getD i 0=b):=(HG.out i h1).symm.trans hb;have hb2:b<256:=by rw[<-hb];exact UInt8.toNat_lt _
   have hw3:IntKind.i64.wrap (b:Int)=(b:Int):=by rw[bJ];omega
   have hk56:k<=56:=by omega
   have hc:Cl wr w.heap.size q (.int .i64 x):=HN.out q x (by rw[jI hqn];exact hx);have m1:=hc.c;have m2:=hc.f;obtain⟨y,hy⟩:∃ y,bits .or .i64 x (IntKind.i64.wrap ((b:Int)*2 ^ k))=y:=⟨_,rfl⟩
   have hst:(eJ (s.take (i+1))).take n=((eJ (s.take i)).take n).set q y:=by
    have h3:=c8J s HB.out i (by omega);rw[HBB.out,hq,<-hk,show(eJ (s.take i)).getD q 0=x by rw[List.getD,hx];rfl] at h3;rw[h3,hy,List.take_set]
   have hln:q<((eJ (s.take i)).take n).length:=by rw[lU,zH];omega
   have FN:Hid (NB (wr.setCell ⟨w.heap.size,q,none⟩ (.int .i64 y)).drew w.heap.size ((eJ (s.take (i+1))).take n)):=by
    rw[hst];exact(HN.out.set hln _).drew
   have FW:Hid (Below w.heap.size w (wr.setCell ⟨w.heap.size,q,none⟩ (.int .i64 y)).drew):=(bs HW.out (by simp) _).drew;clear hx hq hk hst hc hln;go_wp2_with fail
   go_region_law (go_simp;go_at_call 189;refine(kf _).mono ?_;rintro e w' ⟨rfl,rfl⟩;go_wp2_with fail)
   all_goals
    go_wp2
    go_roundw
    ·exact⟨i+1,by go_num,h1,FN,FW⟩
    ·simp[intOf];omega
  ·obtain rfl:i=nm.size:=by omega
   have HN2:Hid (NB wr w.heap.size ((eJ s).take n)):=by
    have h:=HN.out;rwa [fV (l:=s) (by omega)] at h
   go_wp2;go_ret;exact⟨rfl,HW.out,HN2.out⟩
theorem daQ (s:List Nat)(q:Nat)(hq:q<4)(h:s.length<=8*q):(eJ s)[q]? = some 0:=by
 rw[dM _ _ hq]
 have e:octs s q=List.replicate 8 0:=by
  apply zK;intro i;unfold octs;rw[xA];by_cases c:i<8
  ·rw[List.getElem?_range c,tM,xQ c]
   simp[List.getD,uL (show s.length<=8*q+i by omega)]
  ·rw[uL (by simp;omega),uL (by simp;omega)]
   rfl
 rw[e];decide
theorem daX (nm:ByteArray)(n:Nat)(hn:n=(nm.size+7) / 8)(h4:n<=4):eJ (dU nm)=(eJ (dU nm)).take n++List.replicate (4 - n) 0:=by
 apply zK;intro q;by_cases c:q<n
 ·rw[aO (by rw[lU,zH];omega),jI c]
 ·rw[dH (by rw[lU,zH];omega),lU,zH,tM]
  by_cases d:q<4
  ·rw[xQ (by omega)]
   exact daQ _ _ d (by simp[dU];omega)
  ·rw[qQ (by omega)]
   exact uL (by rw[zH];omega)
theorem anX (e:En)(hs:e.2.1.size<=32)(w:World) :
  Calls prog 97 #[ev e] w fun x w'=>x=.returned (rvl (vZ e))/\Below w.heap.size w w':=by
 obtain⟨d,nm,p,u,v⟩:=e;simp only at hs;obtain⟨n,hn⟩:∃ n,n=(nm.size+7) / 8:=⟨_,rfl⟩;have hn4:n<=4:=by omega
 have kw:=fun W=>c9J nm hs n hn W;obtain⟨cs,hcs⟩:∃ cs,(eJ (dU nm)).take n=cs:=⟨_,rfl⟩;have hcl:cs.length=n:=by rw[<-hcs,lU,zH];omega
 have HCL:Hid (cs.length=n):=hcl
 have HRW:Hid (vZ (d,nm,p,u,v)=[1,d,p,u,v]++(cs++List.replicate (4 - n) 0)):=by
  rw[<-hcs,<-daX nm n hn hn4];rfl
 have HSP:Hid (splice [.int .i64 1,.int .i64 d,.int .i64 p,.int .i64 u,.int .i64 v,zr,zr,zr,zr] 5 (cs.map (Value.int .i64))=(vZ (d,nm,p,u,v)).map (Value.int .i64)):=by
  rw[Hid,HRW.out,splice,nY,HCL.out]
  match n,hn4 with
  | 0,_ | 1,_ | 2,_ | 3,_ | 4,_=>simp[List.replicate]
 simp only[hcs] at kw;clear hn hcs hcl;go_enter func97,ntmps97;go_wp2_with fail;obtain⟨X,hX⟩:∃ X,((w.alloc (.cells #[.int .i64 d,.string nm,.int .i64 p,.int .i64 u,.int .i64 v] 53)).alloc (.cells #[zr,zr,zr,zr,zr,zr,zr,zr,zr] 187)).alloc (.cells #[.int .i64 1,.int .i64 d,.int .i64 p,.int .i64 u,.int .i64 v,zr,zr,zr,zr] 187)=X:=⟨_,rfl⟩;have HXB:Hid (Below w.heap.size w X):=hX▸bal (bal (ba _ _) _) _;have HXC:Hid (Cl X w.heap.size 1 (.string nm)):=hX▸((Cl.new _ 53 1 _ rfl rfl).at (ba _ _)).at (ba _ _);have HXZ:Hid (wQ X (w.heap.size+1) [0,0,0,0,0,0,0,0,0]):=hX▸(wQ.new _ _ _ _ _ _ _ _ _ 187 (by simp)).at (ba _ _)
 have HXG:Hid (X.heap[w.heap.size+1+1]? = some (.cells ([.int .i64 1,.int .i64 d,.int .i64 p,.int .i64 u,.int .i64 v,zr,zr,zr,zr]:List Value).toArray 187 (0,0))):=by
  have h:=fR ((w.alloc (.cells #[.int .i64 d,.string nm,.int .i64 p,.int .i64 u,.int .i64 v] 53)).alloc (.cells #[zr,zr,zr,zr,zr,zr,zr,zr,zr] 187)) (.cells #[.int .i64 1,.int .i64 d,.int .i64 p,.int .i64 u,.int .i64 v,zr,zr,zr,zr] 187);rw[hX] at h;rw[Hid];simpa using h
 have HXS:Hid (X.heap.size=w.heap.size+1+1+1):=by rw[Hid,<-hX];simp
 have m1:=HXC.out.c;rw[hX];clear hX;have hn9:(n:Int)<=9:=by omega
 have hsz2:(prog.info? 2).map (·.size)=some 1:=by kernel_rfl
 go_region_law (first
  | (refine step_copy_splice rfl (.tmp 15) (.tmp 18) 43 43 rfl 2 underlying43 hsz2 (some ⟨w.heap.size+1+1,5,none⟩) (some ⟨X.heap.size,0,none⟩) 4 4 n n rfl rfl (w.heap.size+1+1) 5 _ 187 HG5.out (cs.map (Value.int .i64)) (by rw[nY,HCL.out];exact(Nat.min_eq_left hn4).symm) (fun _=>⟨rfl,_,rfl,HS5.out⟩) (by rw[nY,HCL.out];simp;omega) (by intro z hz;obtain⟨_,_,rfl⟩:=tZ.1 hz;rfl) (w.heap.size+1+1) X HB5.out (vQ _) ?_;intro w6 hg6 hb6;go_wp2_with fail)
  | (go_simp;go_at_call 153;refine(kw _).mono ?_;rintro e w5 ⟨rfl,hb5,hN5⟩;have HB5:Hid (Below (w.heap.size+1+1) X w5):=((aQ _ X).drew.trans (hb5.mono (by have:=HXS.out;simp;omega)));have HG5:Hid (w5.heap[w.heap.size+1+1]? = some (.cells ([.int .i64 1,.int .i64 d,.int .i64 p,.int .i64 u,.int .i64 v,zr,zr,zr,zr]:List Value).toArray 187 (0,0))):=(hb5.block _ (by have:=HXS.out;simp;omega)).trans HXG.out;have HS5:Hid (∀ j v,(cs.map (Value.int .i64))[j]? = some v->w5.cell? ((⟨X.heap.size,0,none⟩:Addr).add j)=some v):=(fun j v hj=>by
    rw[xA,gO] at hj;obtain⟨x,hx,rfl⟩:=hj;rw[iA,jZ];exact(hN5 j x hx).c);go_wp2_with fail))
 have hl9:(vZ (d,nm,p,u,v)).length=9:=by rw[HRW.out];simp[HCL.out];omega
 obtain⟨x0,x1,x2,x3,x4,x5,x6,x7,x8,hx⟩:=qO hl9;have HR:Hid (vZ (d,nm,p,u,v)=[x0,x1,x2,x3,x4,x5,x6,x7,x8]):=hx
 have HG6:Hid (w6.heap[w.heap.size+1+1]? = some (.cells ([.int .i64 x0,.int .i64 x1,.int .i64 x2,.int .i64 x3,.int .i64 x4,.int .i64 x5,.int .i64 x6,.int .i64 x7,.int .i64 x8]:List Value).toArray 187 (0,0))):=by
  have h:=hg6.out;rw[HSP.out,hx] at h;exact h
 have ac:∀ (k:Nat) (x:Value),([.int .i64 x0,.int .i64 x1,.int .i64 x2,.int .i64 x3,.int .i64 x4,.int .i64 x5,.int .i64 x6,.int .i64 x7,.int .i64 x8]:List Value)[k]? = some x->w6.cell? ⟨w.heap.size+1+1,k,none⟩=some x:=by
  intro k x hk;rw[cell_of_row w6 _ k _ 187 (0,0) HG6.out];simpa using hk
 have a0:=ac 0 _ rfl;have a1:=ac 1 _ rfl;have a2:=ac 2 _ rfl;have a3:=ac 3 _ rfl;have a4:=ac 4 _ rfl;have a5:=ac 5 _ rfl;have a6:=ac 6 _ rfl;have a7:=ac 7 _ rfl;have a8:=ac 8 _ rfl;have HZ:Hid (wQ w6 (w.heap.size+1) [0,0,0,0,0,0,0,0,0]):=⟨rfl,fun k x hk=>⟨(hb6.cell (p:=⟨w.heap.size+1,k,none⟩) (Nat.lt_succ_self _)).trans (HXZ.out.2 k x hk).c,(hb6.frozen (p:=⟨w.heap.size+1,k,none⟩) (Nat.lt_succ_self _)).trans (HXZ.out.2 k x hk).f,qX (HXZ.out.2 k x hk).lt hb6.size⟩⟩;have HW:Hid (Below w.heap.size w w6):=HXB.out.trans (hb6.mono (by omega));obtain⟨z0,z1,z2,z3,z4,z5,z6,z7,z8⟩:=wQ.nine HZ.out;obtain⟨c0,f0,l0⟩:=z0;obtain⟨c1,f1,_⟩:=z1;obtain⟨c2,f2,_⟩:=z2;obtain⟨c3,f3,_⟩:=z3;obtain⟨c4,f4,_⟩:=z4;obtain⟨c5,f5,_⟩:=z5;obtain⟨c6,f6,_⟩:=z6;obtain⟨c7,f7,_⟩:=z7;obtain⟨c8,f8,_⟩:=z8;have HZ9:=(((((((((HZ.out.set (i:=0) (by decide) x0).set (i:=1) (by decide) x1).set (i:=2) (by decide) x2).set (i:=3) (by decide) x3).set (i:=4) (by decide) x4).set (i:=5) (by decide) x5).set (i:=6) (by decide) x6).set (i:=7) (by decide) x7).set (i:=8) (by decide) x8);have FZ:Hid (wQ _ (w.heap.size+1) [x0,x1,x2,x3,x4,x5,x6,x7,x8]):=HZ9;clear HZ9 hg6 HG6 ac hx hl9 hb5 hN5 HB5 HG5 HS5 m1 kw;go_wp2;obtain⟨r0,r1,r2,r3,r4,r5,r6,r7,r8⟩:=FZ.out.nine;replace r0:=r0.c;replace r1:=r1.c;replace r2:=r2.c;replace r3:=r3.c;replace r4:=r4.c;replace r5:=r5.c;replace r6:=r6.c;replace r7:=r7.c;replace r8:=r8.c;refine yQ (v:=rvl (vZ (d,nm,p,u,v))) ?_ rfl ⟨rfl,?_⟩
 ·rw[HR.out]
  simp[results,results97,go_sem,r0,r1,r2,r3,r4,r5,r6,r7,r8,rvl]
 ·exact bs (bs (bs (bs (bs (bs (bs (bs (bs HW.out (by simp) _) (by simp) _) (by simp) _) (by simp) _) (by simp) _) (by simp) _) (by simp) _) (by simp) _) (by simp) _
theorem daZ (w:World)(a b c d e:Value)(t:TypeId)(N:Nat)(hN:N=w.heap.size):∀ j u,[a,b,c,d,e][j]? = some u->(w.alloc (.cells #[a,b,c,d,e] t)).cell? ((⟨N,0,none⟩:Addr).add j)=some u:=by
 subst hN;exact fun j u hu=>World.news_of_block (w:=w.alloc (.cells #[a,b,c,d,e] t)) (B:=w.heap.size) (cs:=#[a,b,c,d,e]) (t:=t) (fr:=(0,0)) (fR w _) j u (by simpa using hu)
theorem anZ {x y:ByteArray}(h:x≠y):kN x≠kN y:=by
 intro e;simp only[Lit.string.injEq] at e;apply h;apply ByteArray.ext;exact Array.toList_inj.1 e
theorem TwoB.gb {w w':World}{R:Nat}{x y:Value}{r:Option Nat}(h:TwoB w R x y)(hg:w.grownBy w' r)(hne:some R≠r):TwoB w' R x y:=by
 have hk:w'.heap[R]? = w.heap[R]?:=hg.block R h.lt hne;exact⟨(mZ (w:=w) (a:=⟨R,0,none⟩) hk).trans h.c0,(mZ (w:=w) (a:=⟨R,1,none⟩) hk).trans h.c1,(zV (w:=w) (a:=⟨R,0,none⟩) hk).trans h.f0,(zV (w:=w) (a:=⟨R,1,none⟩) hk).trans h.f1,qX h.lt hg.size⟩
theorem TwoB.set1 {w:World}{R:Nat}{x y:Value}(h:TwoB w R x y)(u:Value):TwoB (w.setCell ⟨R,1,none⟩ u) R x u :=
 ⟨(rQ (by simp)).trans h.c0,jY h.c1,iZ.trans h.f0,iZ.trans h.f1,by simpa using h.lt⟩
theorem anJ {done:List En}{e:En}{x:ByteArray}(h:x≠e.2.1):fX (done++[e]) x=fX done x:=by
 rw[pK,qQ (fun c=>h c.2.symm)];cases fX done x <;> rfl
theorem daJ {X w5 w6:World}{N:Nat->Prop}{bk bm n:Nat}{v:Value}{D:DataW Value}{done:List En}{e:En}{b:Rq}{bp np:Nat}{Dp:DataW Value}{g cap:Nat}
  (hX:BookM X N bk bm n v D done) (hN:∀ k,w5.heap.size<=k->N k) (hd:cZ done e=0) (hn:nrm e=e)
  (hbud:fX (done++[e]) e.2.1=some b) (hP:Pts X bp np Dp (fun p=>p∈prs (done++[e]) e.2.1) (fun p=>(mQ (done++[e]) e.2.1 p).1)) (hnp:np<=done.length+1) (hszp:Maps.size Dp=(pZ (done++[e]) e.2.1).length) (hNp:N bp) (hpk:bp≠bk) (hpm:bp≠bm)
  (own5:w5.ownsMap prog 9 hR bm (n+1) (D.put (kN e.2.1) (.held (pv b (zX (done++[e]) e.2.1).1 bp)))) (g5:X.grownBy w5 (some bm))
  (row6:w6.ownsRow 0 53 5 (.slice (some ⟨g,0,none⟩) (done.length+1) cap) (done.length+1) (enc done++tD e)) (g6:w5.grownBy w6 v.ownBlock) (hg6:v.ownBlock=some g\/w5.heap.size<=g) :
  BookM (w6.setCell ⟨bk,1,none⟩ (.slice (some ⟨g,0,none⟩) (done.length+1) cap)) N bk bm (n+1) (.slice (some ⟨g,0,none⟩) (done.length+1) cap) (D.put (kN e.2.1) (.held (pv b (zX (done++[e]) e.2.1).1 bp))) (done++[e]):=by
 obtain⟨hl1,hl2,hl3,hl4⟩:=hX.lob;have hbk5:bk<w5.heap.size:=qX hX.two.lt g5.size;have hbm5:bm<w5.heap.size:=own5.lt
 have hgk:N g/\g≠bk/\g≠bm:=by
  rcases hg6 with h|h
  ·exact hl4 g h
  ·exact⟨hN g h,by omega,by omega⟩
 have g7:w6.grownBy (w6.setCell ⟨bk,1,none⟩ (.slice (some ⟨g,0,none⟩) (done.length+1) cap)) (some bk):=sQ (dX _ _) _ _;have ob:∀ k,v.ownBlock=some k->k≠bk/\k≠bm:=fun k hk=>(hl4 k hk).2
 have keepP:∀ {bq nq:Nat} {Dq:DataW Value} {P:Int->Prop} {f:Int->Rq},Pts X bq nq Dq P f->bq≠bk->bq≠bm->Pts (w6.setCell ⟨bk,1,none⟩ (.slice (some ⟨g,0,none⟩) (done.length+1) cap)) bq nq Dq P f:=fun {bq} {_} {_} {_} {_} h h1 h2=>by
  refine((h.gb g5 (by simpa using h2)).gb g6 (fun e'=>?_)).gb g7 (by simpa using h1);rcases hX.row.2 with⟨rfl,_⟩|⟨g',c',cur,rfl,_,hc,_⟩
  ·cases e'
  ·simp only[Value.ownBlock,vX] at e'
   subst e';obtain⟨es,clock,hb,_⟩:=h.own;rw[hc] at hb;cases hb
 obtain⟨k1,k2,k3⟩:=agJ hd;refine⟨ctQ hX.inv hd hn,?_,?_,?_,?_,fun x=>?_,fun x b' hx=>?_,?_,hl1,hl2,hl3,fun g' hg'=>?_⟩
 ·exact((hX.two.gb g5 (by simpa using hl3)).gb g6 (fun e'=>(ob bk e'.symm).1 rfl)).set1 _
 ·exact(own5.kept g6 (fun e'=>(ob bm e'.symm).2 rfl)).kept g7 (by simpa using fun h=>hl3 h.symm)
 ·have:=row6.kept g7 (.inr (by simpa [Value.ownBlock] using hgk.2.1))
  rw[c3Q];simpa using this
 ·simp;have:=hX.cnt;omega
 ·by_cases hxe:x=e.2.1
  ·subst hxe
   rw[Maps.has_put_same hX.own.isMap (k:=kN e.2.1) True.intro];simp[hbud]
  ·rw[Maps.has_put_other (anZ hxe),hX.is x,anJ hxe]
 ·by_cases hxe:x=e.2.1
  ·subst hxe
   rw[hbud] at hx;simp only[vX] at hx;subst hx;exact⟨bp,np,Dp,Maps.atKey_put_same (k:=kN e.2.1) hX.own.isMap True.intro _ _,keepP hP hpk hpm,by simpa using hnp,hszp,hNp,hpk,hpm⟩
  ·rw[anJ hxe] at hx
   obtain⟨bq,nq,Dq,j1,j2,j3,j4,j5,j6,j7⟩:=(hX.el x b' hx).ex;have hne:∀ q,¬ (e.2.1=x/\q):=fun q c=>hxe c.1.symm;have e1:zX (done++[e]) x=zX done x:=bM (hne _);have e2:prs (done++[e]) x=prs done x:=oN (hne _);have e3:mQ (done++[e]) x=mQ done x:=funext fun y=>rK (hne _);exact⟨bq,nq,Dq,by rw[Maps.atKey_put_other (anZ hxe),e1];exact j1,by simp only[e2,e3];exact keepP j2 j6 j7,by simp;omega,by unfold pZ;rw[e2];exact j4,j5,j6,j7⟩
 ·rw[Maps.size_put (hX.own.tidy oB),hX.sz,cB]
  rcases k3 with⟨c1,c2,_⟩|⟨c1,b0,c2,_⟩
  ·rw[xQ c1,(hX.has_no c2).1];simp
  ·rw[qQ c1,(hX.is e.2.1).2 ⟨b0,c2⟩];simp
 ·simp only[Value.ownBlock,vX] at hg'
  subst hg';exact hgk
theorem dbQ (N:Nat->Prop)(bk bm n:Nat)(v:Value)(D:DataW Value)(done:List En)(e:En)(w:World)(hB:BookM w N bk bm n v D done)(hs:e.2.1.size<=4294967296)(hN:∀ k,w.heap.size<=k->N k)(hbad:sZ e=0)(hl:done.length<4096)(hpI:-9223372036854775808<=e.2.2.1/\e.2.2.1<=9223372036854775807)(her:cZ done (nrm e)=0) :
  Calls prog 60 #[.pointer (some ⟨bk,0,none⟩),ev e] w (DoP w N bk bm done e):=by
 have kw:=fun W=>fI e (by omega) W 0 hbad;have ka:=fun W (hW:BookM W N bk bm n v D done) (hNW:∀ k,W.heap.size<=k->N k)=>alJ N bk bm n v D done e W hW hs hNW hbad hl hpI 0 her;have kr:=fun W=>c1J e (by omega) W;have HB:Hid (BookM w N bk bm n v D done):=hB;have hbk:=hB.two.lt;obtain⟨va,vc,rfl⟩:=hB.slice;have hq:decide ((4096:Int)<=(done.length:Int))=false:=nV (by omega);obtain⟨e',he'⟩:∃ e',nrm e=e':=⟨_,rfl⟩;have HE:Hid (nrm e=e'):=he';have HD:Hid (cZ done e' = 0):=by rw[<-he'];exact her
 simp only[he'] at ka kr;have hnm:e'.2.1=e.2.1:=by rw[<-he'];exact uB e
 obtain⟨d,nm,p,u,v'⟩:=e;obtain⟨d',nm',p',u',v''⟩:=e';simp only at hnm hs;subst hnm;obtain⟨i0,hi0,hz0,hz1,hz2⟩:=oY wN;have V0:Hid (FivB (w.alloc (.cells #[.int .i64 d,.string nm',.int .i64 p,.int .i64 u,.int .i64 v'] 53)) w.heap.size (.int .i64 d) (.string nm') (.int .i64 p) (.int .i64 u) (.int .i64 v')):=FivB.new _ _ _ _ _ _ 53 _ rfl;clear hbad her hB he';go_enter func60,ntmps60;go_wp2_with fail;refine(kw _).mono ?_;rintro e1 w1 ⟨rfl,hb1⟩;have B1:=bt (ba _ _) hb1;have BK1:=HB.out.keep B1;obtain⟨t0,t1,tf0,tf1,htl⟩:=BK1.two;obtain⟨c0,c1,c2,c3,c4,f0,f1,f2,f3,f4,hl0⟩:=V0.out.below hb1;go_wp2_with fail;refine(ka _ BK1 (fun k hk=>hN k (uQ B1.size hk))).mono ?_;rintro e2 w2 ⟨hb2,⟨hz,_⟩|⟨_,b,bp,np,Dp,rfl,hbud,hPt,hnp,hszp,hNp,hpk,hpm⟩⟩
 ·exact absurd rfl hz
 obtain⟨al,hal⟩:∃ al,(zX (done++[(d',nm',p',u',v'')]) nm').1=al:=⟨_,rfl⟩;have HAL:Hid ((zX (done++[(d',nm',p',u',v'')]) nm').1=al):=hal;simp only[hal];have HPT:Hid (Pts w2 bp np Dp (fun p=>p∈prs (done++[(d',nm',p',u',v'')]) nm') (fun y=>(mQ (done++[(d',nm',p',u',v'')]) nm' y).1)/\np<=done.length+1/\Maps.size Dp=(pZ (done++[(d',nm',p',u',v'')]) nm').length/\N bp/\bp≠bk/\bp≠bm/\fX (done++[(d',nm',p',u',v'')]) nm' = some b):=⟨hPt,hnp,hszp,hNp,hpk,hpm,hbud⟩;have hbp2:bp<w2.heap.size:=hPt.own.lt;clear hPt hnp hszp hNp hpk hpm hbud hal;obtain⟨c0,c1,c2,c3,c4,f0,f1,f2,f3,f4,hl0⟩:=(V0.out.below hb1).below hb2;go_wp2_with fail;refine(kr _).mono ?_;rintro e3 w3 ⟨rfl,hb3⟩;have hs1:w.heap.size<w1.heap.size:=by have:=hb1.size;simp at this;omega
 have hs2:=hb2.size;have hs3:w2.heap.size<w3.heap.size:=by have:=hb3.size;simp at this;omega
 obtain⟨c0,c1,c2,c3,c4,f0,f1,f2,f3,f4,hl0⟩:=(((V0.out.below hb1).below hb2).below (ba _ (.cells #[.int .i64 b.1,.int .i64 b.2,.int .i64 al.1,.int .i64 al.2,.map (some bp)] 207))).below hb3;obtain⟨X,hX⟩:∃ X,((((w3.setCell ⟨w.heap.size,0,none⟩ (.int .i64 d')).setCell ⟨w.heap.size,1,none⟩ (.string nm')).setCell ⟨w.heap.size,2,none⟩ (.int .i64 p')).setCell ⟨w.heap.size,3,none⟩ (.int .i64 u')).setCell ⟨w.heap.size,4,none⟩ (.int .i64 v'')=X:=⟨_,rfl⟩;have gX:w3.grownBy X (some w.heap.size):=by rw[<-hX];exact sQ (sQ (sQ (sQ (sQ (dX _ _) _ _) _ _) _ _) _ _) _ _
 have B3:Below w.heap.size w X:=by
  rw[<-hX];exact sV (bt (bal (bt B1 hb2) _) hb3) (vQ _) _ _ _ _ _
 have VX0:Hid (FivB X w.heap.size (.int .i64 d') (.string nm') (.int .i64 p') (.int .i64 u') (.int .i64 v'')):=by
  rw[<-hX];constructor <;> simp[nM,oM,jY,c0,c1,c2,c3,c4,f0,f1,f2,f3,f4,hl0,go_sem]
 have VXp:Hid (FivB X w2.heap.size (.int .i64 b.1) (.int .i64 b.2) (.int .i64 al.1) (.int .i64 al.2) (.map (some bp))):=((FivB.new w2 _ _ _ _ _ 207 _ rfl).below hb3).gb gX (by simp;omega);have BKX:Hid (BookM X N bk bm n (.slice va done.length vc) D done):=HB.out.keep B3
 have PX:Hid (Pts X bp np Dp (fun p=>p∈prs (done++[(d',nm',p',u',v'')]) nm') (fun y=>(mQ (done++[(d',nm',p',u',v'')]) nm' y).1)):=(HPT.out.1.keep (bt (ba _ _) hb3)).gb gX (fun e'=>by
  simp only[vX] at e';obtain⟨es,clock,hb,_⟩:=HPT.out.1.own;have h1:=f0;have h2:=((V0.out.below hb1).below hb2).c0;rw[<-e'] at h2;simp[World.cell?,hb] at h2)
 have hln:=HB.out.cnt;obtain⟨w5,hup,own5,gU⟩:=(BKX.out.own.drew).update oB underlying182 (by unfold maxLen;omega) (val:=pv b al bp) (d:=.held (pv b al bp)) (ps:=[]) (Go.WideMaps.keyOf_string_mk underlying9 (s:=nm') (by unfold maxLen;omega)) rfl;have g5:X.grownBy w5 (some bm):=cU (fJ (dX X (some bm))) gU;obtain⟨x0,x1,x2,x3,x4,y0,y1,y2,y3,y4,hlx⟩:=VX0.out;obtain⟨q0,q1,q2,q3,q4,r0,r1,r2,r3,r4,hlq⟩:=VXp.out;obtain⟨t0,t1,tf0,tf1,htl⟩:=BKX.out.two;go_wp2_with fail
 go_region
 obtain⟨hl1,hl2,hl3,hl4⟩:=BKX.out.lob;have T5:Hid (TwoB w5 bk (.map (some bm)) (.slice va done.length vc)):=BKX.out.two.gb g5 (by simpa using hl3);have V5:Hid (FivB w5 w.heap.size (.int .i64 d') (.string nm') (.int .i64 p') (.int .i64 u') (.int .i64 v'')):=VX0.out.gb g5 (by have:=HB.out.own.lt;simp;omega)
 have HRW:Hid (w5.ownsRow 0 53 5 (.slice va done.length vc) done.length (enc done)):=BKX.out.row.kept g5 (by
  cases hv:(Value.slice va done.length vc).ownBlock with
  | none=>exact .inl rfl
  | some g=>right;intro e';exact(hl4 g hv).2.2 (by simpa using e'))
 have HO:Hid (∀ g,(Value.slice va done.length vc).ownBlock=some g->g≠bk/\g≠w.heap.size):=fun g hg=>⟨(hl4 g hg).2.1,fun c=>by
  have h1:=HB.out.row;rcases h1.2 with⟨h2,_⟩|⟨g',c',cur,h2,_,hc,_⟩
  ·rw[h2] at hg;cases hg
  ·rw[h2] at hg
   simp only[Value.ownBlock,vX] at hg;have:=(jU.1 hc).1;omega⟩
 obtain⟨k0,k1,kf0,kf1,hk5⟩:=T5.out;obtain⟨m0,m1,m2,m3,m4,mf0,mf1,mf2,mf3,mf4,hm5⟩:=V5.out;go_wp2_with fail
 go_region_law (refine step_append_lies _ rfl _ _ 47 rfl 0 53 i0 (.agg #[.int .i64 0,.string ⟨#[]⟩,.int .i64 0,.int .i64 0,.int .i64 0]) 5 48 underlying47 hi0 hz0 hz1 hz2 rfl (by decide) (.slice va done.length vc) done.length (enc done) rfl ?_ ⟨w5.heap.size,0,none⟩ 1 1 [.int .i64 d',.string nm',.int .i64 p',.int .i64 u',.int .i64 v''] rfl rfl ?_ ?_ (by decide) ?_ ?_ ?_ (w5.heap.size+1) ?_ ?_;(exact HRW.out.kept (oA (fJ (dX w5 none)) _) (by simp[Classical.em]));(exact daZ w5.drew _ _ _ _ _ 53 _ rfl);(intro z hz;simp at hz;rcases hz with rfl|rfl|rfl|rfl|rfl <;> rfl);(unfold maxLen;omega);(omega);(simp);(simp);intro g cap w6 hown hgrow hat hlt;have z0:w6.cell? ⟨bk,1,none⟩=some (.slice va done.length vc):=(hgrow.cell_far ⟨bk,1,none⟩ (by simp;omega) (fun e'=>(HO.out bk e'.symm).1 rfl)).trans (((ba w5.drew _).cell (p:=⟨bk,1,none⟩) hk5).trans k1);have z1:w6.frozen? ⟨bk,1,none⟩=false:=(hgrow.frozen_far ⟨bk,1,none⟩ (by simp;omega) (fun e'=>(HO.out bk e'.symm).1 rfl)).trans (((ba w5.drew _).frozen (p:=⟨bk,1,none⟩) hk5).trans kf1);have z2:w6.cell? ⟨w.heap.size,0,none⟩=some (.int .i64 d'):=(hgrow.cell_far ⟨w.heap.size,0,none⟩ (by simp;omega) (fun e'=>(HO.out w.heap.size e'.symm).2 rfl)).trans (((ba w5.drew _).cell (p:=⟨w.heap.size,0,none⟩) hm5).trans m0);have z3:w6.cell? ⟨w.heap.size,1,none⟩=some (.string nm'):=(hgrow.cell_far ⟨w.heap.size,1,none⟩ (by simp;omega) (fun e'=>(HO.out w.heap.size e'.symm).2 rfl)).trans (((ba w5.drew _).cell (p:=⟨w.heap.size,1,none⟩) hm5).trans m1);have z4:w6.cell? ⟨w.heap.size,2,none⟩=some (.int .i64 p'):=(hgrow.cell_far ⟨w.heap.size,2,none⟩ (by simp;omega) (fun e'=>(HO.out w.heap.size e'.symm).2 rfl)).trans (((ba w5.drew _).cell (p:=⟨w.heap.size,2,none⟩) hm5).trans m2);have z5:w6.cell? ⟨w.heap.size,3,none⟩=some (.int .i64 u'):=(hgrow.cell_far ⟨w.heap.size,3,none⟩ (by simp;omega) (fun e'=>(HO.out w.heap.size e'.symm).2 rfl)).trans (((ba w5.drew _).cell (p:=⟨w.heap.size,3,none⟩) hm5).trans m3);have z6:w6.cell? ⟨w.heap.size,4,none⟩=some (.int .i64 v''):=(hgrow.cell_far ⟨w.heap.size,4,none⟩ (by simp;omega) (fun e'=>(HO.out w.heap.size e'.symm).2 rfl)).trans (((ba w5.drew _).cell (p:=⟨w.heap.size,4,none⟩) hm5).trans m4))
 all_goals go_wp2_with fail
 all_goals
  go_ret;have hgb:w5.grownBy w6 (Value.slice va done.length vc).ownBlock:=cU (fJ (oA (dX _ _) _)) hgrow;have hN5:∀ k,w5.heap.size<=k->N k:=fun k hk=>hN k (by have:=B3.size;have:=g5.size;omega);have hal2:=HAL.out;have hst:iU done (d,nm',p,u,v')=done++[(d',nm',p',u',v'')]:=by unfold iU;rw[HE.out,xQ HD.out]
  have hnn:nrm (d',nm',p',u',v'')=(d',nm',p',u',v''):=by rw[<-HE.out,aB]
  refine⟨by rw[HE.out,HD.out];rfl,?_,n+1,.slice (some ⟨g,0,none⟩) (done.length+1) cap,D.put (kN nm') (.held (pv b (zX (done++[(d',nm',p',u',v'')]) nm').1 bp)),?_⟩
  ·exact tB (tB (tB (oQ B3) g5 (fun k hk=>by simp only[vX] at hk;exact .inl (hk▸hl2))) hgb (fun k hk=>.inl (hl4 k hk).1)) (sQ (dX _ (some bk)) _ _) (fun k hk=>by simp only[vX] at hk;exact .inl (hk▸hl1))
  ·rw[hst]
   rw[<-hal2] at own5;have:=daJ (e:=(d',nm',p',u',v'')) BKX.out hN5 HD.out hnn HPT.out.2.2.2.2.2.2 PX.out HPT.out.2.1 HPT.out.2.2.1 HPT.out.2.2.2.1 HPT.out.2.2.2.2.1 HPT.out.2.2.2.2.2.1 own5 g5 hown hgb (hat.imp id (fun h=>by omega));exact this
theorem aoQ (N:Nat->Prop)(bk bm n:Nat)(v:Value)(D:DataW Value)(done:List En)(e:En)(w:World)(hB:BookM w N bk bm n v D done)(hs:e.2.1.size<=9223372036854775807)(hN:∀ k,w.heap.size<=k->N k)(hpI:-9223372036854775808<=e.2.2.1/\e.2.2.1<=9223372036854775807) :
  Calls prog 60 #[.pointer (some ⟨bk,0,none⟩),ev e] w (DoP w N bk bm done e):=by
 by_cases hb:sZ e≠0\/4096<=done.length
 ·refine(c6Q N bk bm n v D done e w hB hs hb).mono ?_
  rintro x w' ⟨h1,h2⟩
  have hst:iU done e=done:=by
   unfold iU;rw[qQ];intro h0;obtain⟨h3,h4⟩:=pN h0;rw[sB] at h3;omega
  exact⟨h1,oQ h2,n,v,D,by rw[hst];exact hB.keep h2⟩
 ·have hbad:sZ e=0:=by omega
  have hs:e.2.1.size<=4294967296:=by
   have h1:=(xH hbad).2.2.1;unfold eZ at h1;simp only[wM,oV] at h1;have h2:=h1.1.2;rw[qN] at h2
   show e.2.1.data.size<=_
   omega
  have hl:done.length<4096:=by omega
  by_cases h0:cZ done (nrm e)=0
  ·exact dbQ N bk bm n v D done e w hB hs hN hbad hl hpI h0
  ·refine(c6X N bk bm n v D done e w hB hs hN hbad hl hpI _ rfl h0).mono ?_
   rintro x w' ⟨h1,h2⟩;exact⟨h1,oQ h2,n,v,D,by unfold iU;rw[qQ h0];exact hB.keep h2⟩
theorem jP (N:Nat->Prop)(w:World)(hN:∀ k,w.heap.size<=k->N k):Calls prog 46 #[] w fun x w'=>x=.returned (.pointer (some ⟨w.heap.size+1,0,none⟩))/\Below w.heap.size w w'/\w'.heap.size=w.heap.size+1+1/\BookM w' N (w.heap.size+1) w.heap.size 0 (.slice none 0 0) (.map []) []:=by
 have hmm:=@run_makeMap prog;go_enter func46,ntmps46;go_wp2;go_ret;refine⟨rfl,bal (ba _ _) _,by simp,⟨csQ,?_,?_,?_,vQ _,fun x=>?_,fun x b hx=>?_,?_,hN _ (by omega),hN _ (by omega),by omega,fun g hg=>by cases hg⟩⟩
 ·exact TwoB.new _ _ _ _ _ (by simp)
 ·exact(World.ownsMap_made w prog 9 hR).alloc _
 ·exact⟨rfl,.inl ⟨rfl,rfl⟩⟩
 ·simp[Maps.has,fX]
 ·simp[fX] at hx
 ·simp[Maps.size,aA]
theorem dbX (w:World)(ty:TypeId)(g n:Nat)(a:Addr)(sCap:Nat)(cur:Array Value)(cs:List Value)(hg:w.heap[g]? = some (.cells cur 53 (0,0)))(hn:cs.length=n*5)
  (hsrc:∀ j v,cs[j]? = some v->w.cell? (a.add j)=some v) (hfit:cs.length<=cur.size) (h1:∀ v∈cs,v.oneCell' = true) :
  (Builtin.copy_ #[47,47] ty #[.slice (some ⟨g,0,none⟩) n n,.slice (some a) n sCap]).run prog w=.ok (goInt n) (w.setRow g (cs++cur.toList.drop cs.length).toArray):=by
 have hl:=run_loadCells_list (P:=prog) w a cs hsrc;have hst:=run_storeCells_at prog g 0 53 cs 0 cur w hg (by simpa using hfit) h1;obtain⟨i0,hi,_,hz1,_⟩:=oY wN;have hm:Nat.min n n=n:=Nat.min_self n;simp only[jZ,xN,List.take_zero,List.nil_append] at hst;simp[Builtin.copy_,run_underlying underlying47,Builtin.lenOf,Builtin.firstCells,sizeOf,typeInfo,hi,hz1,<-hn,hl,hst]
theorem dbZ (w:World)(ty:TypeId)(g n:Nat)(ad:Option Addr)(sCap:Nat)(cur:Array Value)(hg:w.heap[g]? = some (.cells cur 53 (0,0)))(cs:List Value)(hn:cs.length=n*5)(hsrc:(ad=none/\n=0/\sCap=0)\/∃ b,ad=some b/\∀ j v,cs[j]? = some v->w.cell? (b.add j)=some v)(hfit:cs.length=cur.size)(h1:∀ v∈cs,v.oneCell' = true) :
  (Builtin.copy_ #[47,47] ty #[.slice (some ⟨g,0,none⟩) n n,.slice ad n sCap]).run prog w=.ok (goInt n) (w.setRow g cs.toArray):=by
 rcases hsrc with⟨rfl,rfl,rfl⟩|⟨b,rfl,hsrc⟩
 ·have hrun:=run_copy_nil (P:=prog) w 47 47 ty 53 ⟨g,0,none⟩ 0 0 underlying47 (by obtain⟨i0,hi,_⟩:=oY wN;rw[hi];rfl)
  have hcs:cs=[]:=List.eq_nil_of_length_eq_zero (by omega);subst hcs;have hcur:cur = #[]:=Array.eq_empty_of_size_eq_zero (by simpa using hfit.symm);subst hcur;rw[show([]:List Value).toArray = #[] from rfl,setRow_self w g #[] 53 (0,0) hg];exact hrun
 ·have hrun:=dbX w ty g n b sCap cur cs hg hn hsrc (by omega) h1
  rw[bH (by rw[qN];omega),xD] at hrun;exact hrun
theorem dbJ (l:List En):∀ v∈enc l,v.oneCell' = true:=by
 intro v hv;simp only[enc,pM] at hv;obtain⟨e,_,he⟩:=hv;simp[tD] at he;rcases he with rfl|rfl|rfl|rfl|rfl <;> rfl
theorem dcQ {w:World}{v:Value}{n:Nat}{xs:List Value}{base:Nat}(h:w.ownsRow base 53 5 v n xs):∃ ad c,v=.slice ad n c/\((ad=none/\n=0/\c=0)\/∃ b,ad=some b/\∀ j u,xs[j]? = some u->w.cell? (b.add j)=some u):=by
 rcases h.2 with⟨rfl,rfl⟩|⟨g,cap,cur,rfl,_,hc,_,_,_,hx⟩
 ·exact⟨none,0,rfl,.inl ⟨rfl,rfl,rfl⟩⟩
 ·refine⟨_,_,rfl,.inr ⟨_,rfl,fun j u hj=>?_⟩⟩
  refine World.news_of_block hc j u ?_;rw[<-hx] at hj;rw[eH] at hj;split at hj
  ·exact hj
  ·cases hj
theorem dcX (N:Nat->Prop)(bk bm n:Nat)(v:Value)(D:DataW Value)(done:List En)(w:World)(hB:BookM w N bk bm n v D done) :
  Calls prog 52 #[.pointer (some ⟨bk,0,none⟩)] w fun x w'=>∃ r,x=.returned r/\w'.ownsRow w.heap.size 53 5 r done.length (enc done)/\Below w.heap.size w w':=by
 obtain⟨t0,t1,tf0,tf1,htl⟩:=hB.two;have hrow:=hB.row;have hlen:=hB.inv.len;clear hB;obtain⟨ad,c,rfl,hsrc⟩:=dcQ hrow;obtain⟨i0,hi,hz0,hz1,hz2⟩:=oY wN
 have hmk:∀ u:World,(Instr.makeSlice 47 (.int .i64 (done.length:Int)) (.int .i64 (done.length:Int))).run prog u =
   .ok (.slice (some ⟨u.heap.size,0,none⟩) done.length done.length) (u.alloc (.cells (madeCells #[.int .i64 0,.string ⟨#[]⟩,.int .i64 0,.int .i64 0,.int .i64 0] (done.length*5)) 53)):=fun u=>by
  have h:=run_make (P:=prog) u 47 53 i0 (.agg #[.int .i64 0,.string ⟨#[]⟩,.int .i64 0,.int .i64 0,.int .i64 0]) underlying47 hi hz0 .i64 .i64 (done.length:Int) (done.length:Int) (by omega) (zI _) (by rw[hz2];omega) (by omega);rw[aL] at h;simpa [hz1,Value.cells] using h
 have HS:Hid ((ad=none/\done.length=0/\c=0)\/∃ b,ad=some b/\∀ j u,(enc done)[j]? = some u->(w.alloc (.cells (madeCells #[.int .i64 0,.string ⟨#[]⟩,.int .i64 0,.int .i64 0,.int .i64 0] (done.length*5)) 53)).cell? (b.add j)=some u):=by
  rcases hsrc with h|⟨b,h1,h2⟩
  ·exact .inl h
  ·exact .inr ⟨b,h1,fun j u hj=>(World.grownBy_alloc w _ none).cell (h2 j u hj) (by simp)⟩
 have hcp:=dbZ (w.alloc (.cells (madeCells #[.int .i64 0,.string ⟨#[]⟩,.int .i64 0,.int .i64 0,.int .i64 0] (done.length*5)) 53)) 3 w.heap.size done.length ad c _ (fR w _) (enc done) (tN done) HS.out (by simp[tN,size_madeCells]) (dbJ done);obtain⟨W,hW⟩:∃ W,(w.alloc (.cells (madeCells #[.int .i64 0,.string ⟨#[]⟩,.int .i64 0,.int .i64 0,.int .i64 0] (done.length*5)) 53)).setRow w.heap.size (enc done).toArray=W:=⟨_,rfl⟩;have HWB:Hid (Below w.heap.size w W):=by rw[<-hW];exact below_setRow (ba _ _) (vQ _) _
 have HWR:Hid (W.heap[w.heap.size]? = some (.cells (enc done).toArray 53 (0,0))):=by
  show _=_
  rw[<-hW];exact setRow_heap _ _ _ _ 53 (0,0) (fR w _)
 rw[hW] at hcp;clear hsrc hrow hW;go_enter func52,ntmps52;go_wp2;go_ret;refine⟨_,rfl,⟨by rw[tN],.inr ⟨w.heap.size,done.length,_,rfl,vQ _,HWR.out,vQ _,by unfold maxLen;omega,by simp[tN],?_⟩⟩,HWB.out⟩;rw[List.toList_toArray,fV (by rw[tN];exact vQ _)]
open Go.Maps Go.Sort
end K.P
namespace K.P
open Go.RowKit Go.Shelf K.Ds
attribute [local go_sem] Oper.semAt_some
