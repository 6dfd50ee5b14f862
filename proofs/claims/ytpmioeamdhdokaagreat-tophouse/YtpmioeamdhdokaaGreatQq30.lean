import Derived.Test.YtpmioeamdhdokaaGreatQq29
import Derived.Deep.SlicePairs
import Derived.Deep.Slices
import Derived.ProofKit
import Derived.Lib.SmallJoins
import Derived.Carry
open Go.Proofs.Tryz
set_option linter.unusedSimpArgs false
set_option maxHeartbeats 16000000
set_option maxRecDepth 100000
namespace Go.Proofs.YtpmioeamdhdokaaGreat
variable {W w:World} {B base n:Nat} {k:Int} {c:ByteArray} {e:TypeId} {a:Addr} {V v:Value} {P:Program} {spare:Nat->Bool} {held:Bool}
namespace K
open Go.RowKit K.Ds
def prt (l:List yQ) (q:Qu) (s:ByteArray):Except Int Int :=
 match typ l q with
 | .error e=>.error e
 | .ok _=>match fnd l s with
  | none=>.error 7
  | some i=>match onl s q with
   | none=>.error 6
   | some v=>if 0<=v/\v<hU l i then .ok v else .error 6
theorem agQ {l:List yQ}{q:Qu}{b:uZ}(h:typ l q=.ok b):mY l=0/\bnd l 1 q=.ok b:=by
 unfold typ at h;split at h
 ·exact⟨by assumption,h⟩
 ·cases h
def bsX:Except Int Int->Ending
 | .error e=>.panicked (chn e)
 | .ok v=>.returned (.int .i64 v)
theorem esX (l:List yQ)(q:Qu)(s:ByteArray)(w:World)(B L N S:Nat)(lv v0 v1 v2 v3 v4 v5:Value)(r:Except Int Int)(hB:B<=w.heap.size)(hp:tQ w B lv l)(hq:Qm w B q v0 v1 v2 v3 v4 v5)(hr:prt l q s=r)(hL:Cl w L 0 lv)(hN:Bx w N v0 v1 v2 v3 v4 v5)(hS:Cl w S 0 (.string s)) :
  Calls prog 69 #[.pointer (some ⟨L,0,none⟩),.pointer (some ⟨N,0,none⟩),.pointer (some ⟨S,0,none⟩)] w fun e w'=>e=bsX r/\Below w.heap.size w w':=by
 have HP:Hid (tQ w B lv l):=hp;have HQ:Hid (Qm w B q v0 v1 v2 v3 v4 v5):=hq;have HR:Hid (prt l q s=r):=hr;obtain⟨la,lc,rfl,hlc,hll⟩:=hp.slice;obtain⟨kk,kc,kl,kh,ka,kn',kd,kb,km,kp,rfl,rfl,rfl,rfl,rfl,rfl⟩:=hq.shape;have HL:Hid (Cl w L 0 (.slice la l.length lc)):=hL;have HN:Hid (Bx w N (.int .i64 kk) (.string kc) (.int .i64 kl) (.int .i64 kh) (.slice ka kn' kd) (.slice kb km kp)):=hN;have HS:Hid (Cl w S 0 (.string s)):=hS;obtain⟨r1,hr1⟩:∃ r1,typ l q=r1:=⟨_,rfl⟩;have k1:=a7X l q w B _ _ _ _ _ _ _ r1 hB hp hq hr1;have HT:Hid (typ l q=r1):=hr1;have m0:=hN.a0.c;have m1:=hN.a1.c;have m2:=hN.a2.c;have m3:=hN.a3.c;have m4:=hN.a4.c;have m5:=hN.a5.c;have m6:=hL.c;have m7:=hS.c;clear hp hq hr hL hN hS hr1;go_enter func69,ntmps69;go_wp2_with fail;refine k1.mono ?_;rintro e w1 ⟨he,hb1⟩;clear k1 m0 m1 m2 m3 m4 m5 m6 m7;cases r1 with
 | error er =>
  obtain rfl:Except.error er=r:=by rw[<-HR.out,prt,HT.out]
  obtain rfl:e=.panicked (chn er):=he;go_wp2;exact⟨rfl,rfl,hb1⟩
 | ok bb =>
  obtain⟨b1,b2,b3⟩:=bb;obtain rfl:e=.returned (.agg #[.int .i64 b1,.int .i64 b2,.int .i64 b3]):=he;obtain⟨hce,hbd⟩:=agQ HT.out;have HWQ:Hid (Wq q):=erJ q _ _ hbd;clear hce hbd;have hs1:=hb1.size
  have HR1:Hid ((match fnd l s with
   | none=>.error 7
   | some i=>match onl s q with
    | none=>.error 6
    | some v=>if 0<=v/\v<hU l i then .ok v else .error 6)=r):=by have:=HR.out;rw[prt,HT.out] at this;exact this
  clear HR HT;have m6:=(HL.out.at hb1).c;have m7:=(HS.out.at hb1).c;cases hf:fnd l s with
  | none =>
   have k2:=jB B _ l s w1 (by omega) (HP.out.at hB hb1) hf;rw[hf] at HR1;obtain rfl:Except.error 7=r:=HR1.out;clear hf;go_wp2_with fail;refine k2.mono ?_;rintro e w2 ⟨rfl,hb2⟩;have hbw:=bt hb1 hb2;go_wp2;exact⟨rfl,rfl,hbw⟩
  | some i =>
   have k2:=cO B _ l s w1 (by omega) (HP.out.at hB hb1) i hf;rw[hf] at HR1;have hil:=iK hf;clear hf;go_wp2_with fail;refine k2.mono ?_;rintro e w2 ⟨rfl,hb2⟩;clear k2 m6 m7;have hbw:=bt hb1 hb2;have hs2:=hbw.size;obtain⟨ro,hro⟩:∃ ro,onl s q=ro:=⟨_,rfl⟩;have k3:=esQ s q w2 B _ _ _ _ _ _ ro (by omega) (HQ.out.at hB hbw) HWQ.out hro
   have HR2:Hid ((match onl s q with
    | none=>.error 6
    | some v=>if 0<=v/\v<hU l i then .ok v else .error 6)=r):=HR1.out
   rw[hro] at HR2;clear HR1 hro;have hN2:=HN.out.at hbw;have m0:=hN2.a0.c;have m1:=hN2.a1.c;have m2:=hN2.a2.c;have m3:=hN2.a3.c;have m4:=hN2.a4.c;have m5:=hN2.a5.c;have m7:=(HS.out.at hbw).c;clear hN2;go_wp2_with fail;refine k3.mono ?_;rintro e w3 ⟨he,hb3⟩;clear k3 m0 m1 m2 m3 m4 m5 m7;have hbw3:=bt hbw hb3;cases ro with
   | none =>
    obtain rfl:Except.error 6=r:=HR2.out;obtain rfl:e=.panicked (chn 6):=he;go_wp2;exact⟨rfl,rfl,hbw3⟩
   | some v =>
    obtain rfl:e=.returned (.int .i64 v):=he;have HR3:Hid ((if 0<=v/\v<hU l i then (.ok v:Except Int Int) else .error 6)=r):=HR2.out;clear HR2;have m6:=(HL.out.at hbw3).c;obtain⟨b,o,nm,sz,rfl,hb,hgt,c1,c2,hn⟩:=HP.out.get hB hbw3 hil;have hsz:hU l i=sz:=by simp[hU,hgt]
    rw[hsz] at HR3;clear hgt hsz;by_cases h1:0<=v
    ·by_cases h2:v<sz
     ·obtain rfl:Except.ok v=r:=by rw[<-HR3.out,zQ ⟨h1,h2⟩]
      go_wp2_with fail;refine(eF 6 _).mono ?_;rintro e w4 ⟨rfl,rfl⟩;go_wp2;go_ret;exact⟨rfl,hbw3⟩
     ·obtain rfl:Except.error 6=r:=by rw[<-HR3.out,xQ (fun h=>h2 h.2)]
      have h3:decide (v<sz)=false:=oV h2;go_wp2_with fail;refine(oY 6 _).mono ?_;rintro e w4 ⟨rfl,rfl⟩;go_wp2;exact⟨rfl,rfl,hbw3⟩
    ·obtain rfl:Except.error 6=r:=by rw[<-HR3.out,xQ (fun h=>h1 h.1)]
     go_wp2_with fail;refine(oY 6 _).mono ?_;rintro e w4 ⟨rfl,rfl⟩;go_wp2;exact⟨rfl,rfl,hbw3⟩
def yJ:Except Int Int->Int × Int
 | .error e=>(0,e)
 | .ok v=>(v,0)
theorem bsZ (l:List yQ)(q:Qu)(s:ByteArray)(w:World)(B:Nat)(lv v0 v1 v2 v3 v4 v5:Value)(z er:Int)(hB:B<=w.heap.size)(hp:tQ w B lv l)(hq:Qm w B q v0 v1 v2 v3 v4 v5)(hr:yJ (prt l q s)=(z,er)) :
  Calls prog 36 #[lv,.agg #[v0,v1,v2,v3,v4,v5],.string s] w fun e w'=>e=.returned (.tuple #[.int .i64 z,.int .i64 er])/\Below w.heap.size w w':=by
 have hb0:Below w.heap.size w (((w.alloc (.cells #[lv] 22)).alloc (.cells #[v0,v1,v2,v3,v4,v5] 52)).alloc (.cells #[.string s] 9)):=bal (bal (ba _ _) _) _;have hL:Cl (((w.alloc (.cells #[lv] 22)).alloc (.cells #[v0,v1,v2,v3,v4,v5] 52)).alloc (.cells #[.string s] 9)) w.heap.size 0 lv:=((Cl.new _ 22 _ _ rfl rfl).at (ba _ _)).at (ba _ _);have hN:Bx (((w.alloc (.cells #[lv] 22)).alloc (.cells #[v0,v1,v2,v3,v4,v5] 52)).alloc (.cells #[.string s] 9)) (w.heap.size+1) v0 v1 v2 v3 v4 v5:=(Bx.new _ _ (by simp) _ _ _ _ _ _).at (ba _ _);have hS:Cl (((w.alloc (.cells #[lv] 22)).alloc (.cells #[v0,v1,v2,v3,v4,v5] 52)).alloc (.cells #[.string s] 9)) (w.heap.size+1+1) 0 (.string s):=Cl.new _ 9 _ _ (by simp) rfl
 have kc:Calls prog 68 #[.func (.func 69) #[] #[.pointer (some ⟨w.heap.size,0,none⟩),.pointer (some ⟨w.heap.size+1,0,none⟩),.pointer (some ⟨w.heap.size+1+1,0,none⟩)]] (((w.alloc (.cells #[lv] 22)).alloc (.cells #[v0,v1,v2,v3,v4,v5] 52)).alloc (.cells #[.string s] 9)) fun e w'=>e=.returned (.tuple #[.int .i64 z,.int .i64 er])/\Below (((w.alloc (.cells #[lv] 22)).alloc (.cells #[v0,v1,v2,v3,v4,v5] 52)).alloc (.cells #[.string s] 9)).heap.size (((w.alloc (.cells #[lv] 22)).alloc (.cells #[v0,v1,v2,v3,v4,v5] 52)).alloc (.cells #[.string s] 9)) w':=by
  generalize hW:(((w.alloc (.cells #[lv] 22)).alloc (.cells #[v0,v1,v2,v3,v4,v5] 52)).alloc (.cells #[.string s] 9))=W at *
  have inner:∀ r,prt l q s=r->∀ W',Below W.heap.size W W'->W.heap.size+1<=W'.heap.size->Calls prog 69 #[.pointer (some ⟨w.heap.size,0,none⟩),.pointer (some ⟨w.heap.size+1,0,none⟩),.pointer (some ⟨w.heap.size+1+1,0,none⟩)] W' fun e w'=>e=bsX r/\Below W'.heap.size W' w':=by
   intro r hr W' hW' hs;have hsz:=hb0.size;exact esX l q s W' B _ _ _ lv v0 v1 v2 v3 v4 v5 r (by omega) ((hp.at hB hb0).at (by omega) hW') ((hq.at hB hb0).at (by omega) hW') hr (hL.at hW') (hN.at hW') (hS.at hW')
  cases ht:prt l q s with
  | error e1 =>
   rw[ht] at hr;simp only[yJ,dQ] at hr;obtain⟨rfl,rfl⟩:=hr;exact erX _ e1 W (inner _ ht)
  | ok v =>
   rw[ht] at hr;simp only[yJ,dQ] at hr;obtain⟨rfl,rfl⟩:=hr;refine(erQ _ (fun V _=>V=.int .i64 v) W fun W' h1 h2=>(inner _ ht W' h1 h2).mono fun e w' ⟨he,hb⟩=>⟨_,he,rfl,hb⟩).mono ?_;rintro e w' ⟨V,w1,rfl,rfl,hb,rfl⟩;exact⟨rfl,bs hb (vQ _) _⟩
 obtain⟨la,lc,rfl,_⟩:=hp.slice;obtain⟨kk,kc',kl,kh,ka,kn',kd,kb,km,kp,rfl,rfl,rfl,rfl,rfl,rfl⟩:=hq.shape;have hmf:=hmf;clear hp hq hr hL hN hS;go_enter func36,ntmps36;go_wp2_with fail;refine kc.mono ?_;rintro e w1 ⟨rfl,hb1⟩;clear kc;have hbw:Below w.heap.size w w1:=bt hb0 hb1;go_wp2;exact uQ (v:=.tuple #[.int .i64 z,.int .i64 er]) (by simp[results,results36,go_sem]) rfl ⟨rfl,hbw⟩
theorem etQ {l:List yQ}(hs:fD l)(q:Qu):∀ (lv:Nat) (b:uZ) (v0 v1 v2 v3 v4 v5:Value),Qm w B q v0 v1 v2 v3 v4 v5->bnd l lv q=.ok b->1<=b.1:=by
 induction q with
 | none=>intro lv b v0 v1 v2 v3 v4 v5 h;exact h.elim
 | node k c lo hi wh n x y ihx ihy =>
  rintro lv b _ _ _ _ v4 _ ⟨rfl,rfl,rfl,rfl,hc,hw,a,cap,rfl,hn,hm,hk⟩ hb;obtain⟨hkn,⟨x1,x2,x3⟩,⟨y1,y2,y3⟩,hbx,hby,hrec,hlim⟩:=y9 hb;have gx:1<=n->bnd l (lv+1) x=.ok (x1,x2,x3):=fun h=>by rwa [sV,zQ h] at hbx
  have hkc:¬ rX k<0:=by omega
  have fx:1<=n->n<=2->1<=x1:=fun h1 h2=>by
   obtain⟨b',o,_,_,⟨u0,u1,u2,u3,u4,u5,_,hqx⟩,_⟩:=hk h1 h2;exact ihx _ _ _ _ _ _ _ _ hqx (gx h1)
  rcases yB hkc with rfl|rfl|rfl|rfl|rfl|rfl|rfl|rfl|rfl|rfl
  ·simp[rec] at hrec
   obtain⟨_,rfl⟩:=mK hrec;exact zG _
  ·simp[rec] at hrec
   split at hrec
   ·split at hrec
    ·obtain⟨_,rfl⟩:=mK hrec;exact zG _
    ·cases hrec
   ·cases hrec
  ·simp[rec] at hrec
   split at hrec
   ·rename_i i hf
    obtain⟨_,rfl⟩:=mK hrec;exact(xB hs hf).1
   ·cases hrec
  ·have:=fx (by simp[rX] at hkn;omega) (by simp[rX] at hkn;omega)
   simp[rec] at hrec;split at hrec
   ·cases hrec;exact this
   ·cases hrec
  ·have:=fx (by simp[rX] at hkn;omega) (by simp[rX] at hkn;omega)
   simp[rec] at hrec;split at hrec
   ·cases hrec;exact this
   ·cases hrec
  ·have:=fx (by simp[rX] at hkn;omega) (by simp[rX] at hkn;omega)
   simp[rec] at hrec;split at hrec
   ·cases hrec;exact this
   ·cases hrec
  ·have h1:=fx (by simp[rX] at hkn;omega) (by simp[rX] at hkn;omega)
   have h2:0<=y1:=by
    have:bnd l (lv+1) y=.ok (y1,y2,y3):=by rwa [sV,zQ (by simp[rX] at hkn;omega)] at hby
    exact(bO hs y _ _ this).1
   simp[rec] at hrec;subst hrec
   show 1<=x1+y1
   omega
  ·simp[rec] at hrec
   subst hrec;exact zG _
  ·simp[rec] at hrec
   split at hrec
   ·cases hrec;exact zG _
   ·cases hrec
  ·have:=fx (by simp[rX] at hkn;omega) (by simp[rX] at hkn;omega)
   simp[rec] at hrec;split at hrec
   ·cases hrec;exact this
   ·cases hrec
theorem etX {l:List yQ}{lo hi:Int}{wh:List aZ}{x y:uZ}{e:Int}(h:rec l k c lo hi wh x y=.error e):e≠0:=by
 unfold rec wA at h
 repeat' split at h
 all_goals first
  | cases h;done
  | (simp only[Except.error.injEq] at h;omega)
theorem etZ {l:List yQ}(q:Qu):∀ (lv:Nat) (e:Int),bnd l lv q=.error e->e≠0:=by
 induction q with
 | none=>intro lv e h;simp only[bnd] at h;cases h
 | node k c lo hi wh n x y ihx ihy =>
  intro lv e h;simp only[bnd] at h;split at h
  ·cases h;decide
  ·split at h
   ·cases h;decide
   ·split at h
    ·split at h
     ·rename_i er hbx
      cases h;unfold sV at hbx;split at hbx
      ·exact ihx _ _ hbx
      ·cases hbx
     ·rename_i bx hbx
      split at h
      ·rename_i er hby
       cases h;unfold sV at hby;split at hby
       ·exact ihy _ _ hby
       ·cases hby
      ·rename_i b' hby
       split at h
       ·rename_i er hr
        cases h;exact etX hr
       ·unfold lim at h
        split at h
        ·cases h
        ·cases h;decide
    ·cases h;decide
end K
namespace K
open Go.ChangeShapes Go.WideShapes Go.ChangeAt Go.RowKit K.Ds Go.Deep
theorem sL (h:w.cell? a=some v):a.block<w.heap.size:=by
 unfold World.cell? at h;split at h
 ·rename_i hb;exact(zJ.1 hb).1
 ·cases h
theorem sF:prog.cellsOf 3=1:=by kernel_rfl
theorem alZ:prog.cellsOf 9=1:=by kernel_rfl
theorem alJ:prog.cellsOf 35=1:=by kernel_rfl
theorem ftX:prog.cellsOf 105=2:=by kernel_rfl
theorem ftZ:prog.cellsOf 25=2:=by kernel_rfl
theorem yD:maxLen=9223372036854775807:=by decide
theorem amQ {H:Type}{enc:TypeId × Value->H}{D:DataW H}{P:List MemPlace}(h:DataW.trod enc prog W 0 (fun _=>true) true n 35 [V]=some (D,P)) :
  ∃ xs,jQ W W.heap.size W.heap.size V xs:=by
 rcases open_ints underlying35 underlying3 sF h with⟨hcs,_⟩|⟨a,len,cap,zs,hcs,_,hl,hmx,hz,hx,hcell,hwz⟩
 ·simp at hcs
  subst hcs;exact⟨[],none,0,rfl,vQ _,by simp,fun h=>absurd rfl h⟩
 ·simp at hcs
  subst hcs;simp only[uU] at hz;have hlen:(zs.take len).length=len:=by simp;omega
  rw[yD] at hmx;refine⟨zs.take len,some a,cap,by rw[hlen],by omega,by omega,fun hne=>?_⟩
  have hpos:0<len:=by
   rcases xM len with h0|h0
   ·subst h0;simp at hne
   ·exact h0
  obtain⟨b,o,spot⟩:=a;have h0:=hcell 0 (by omega);have hs:spot=none:=by simpa [Addr.add] using gN h0
  subst hs;have hlt:b<W.heap.size:=sL (a:=(⟨b,o,none⟩:Addr).add 0) h0;refine⟨b,o,rfl,hlt,by omega,fun i x hi=>?_⟩;have hi2:i<len:=by rw[<-hlen];exact(cQ.1 hi).1
  have h1:=hcell i (by omega);rw[nU] at h1;rw[h1];rw[xI hi2] at hi;simp[List.getD,hi]
theorem ftJ {H:Type}{enc:TypeId × Value->H}{D:DataW H}{P:List MemPlace}(h:DataW.trod enc prog W 0 (fun _=>true) true n 23 [V]=some (D,P)) :
  ∃ ts:List Rw,zX W W.heap.size V ts:=by
 rcases open_slice1 underlying23 alJ h with⟨hcs,_⟩|⟨a,len,cap,m,n',V0,D0,P0,hcs,_,hl,hmx,hm,hx,hall⟩
 ·simp at hcs
  subst hcs;exact⟨[],a4Z _ _⟩
 ·simp at hcs
  subst hcs;simp only[uU] at hm;subst hm;rw[yD] at hmx;have each:∀ i,i<len->∃ q:List Int,jQ W W.heap.size W.heap.size (V0 i) q:=fun i hi=>amQ (hall i (by omega)).2;obtain⟨q,hq⟩:=choose_lt each
  have hget:∀ i t,((List.range len).map fun i=>((V0 i,q i):Rw))[i]? = some t->i<len/\t=(V0 i,q i):=by
   intro i t hi;have hlt:=(cQ.1 hi).1;simp at hlt;simp[hlt] at hi;exact⟨hlt,hi.symm⟩
  refine⟨(List.range len).map fun i=>(V0 i,q i),some a,m,by simp,by simp;omega,by simp;omega,fun t ht=>?_,fun hne=>?_⟩
  ·obtain⟨i,hi,rfl⟩:=wX.1 ht
   exact hq i (zH.1 hi)
  ·have hpos:0<len:=by
    rcases xM len with h0|h0
    ·subst h0;simp at hne
    ·exact h0
   obtain⟨b,o,spot⟩:=a;have h0:=(hall 0 (by omega)).1;have hs:spot=none:=by simpa [Addr.add] using gN h0
   subst hs;have hlt:b<W.heap.size:=sL (a:=(⟨b,o,none⟩:Addr).add 0) h0;refine⟨b,o,rfl,hlt,fun i t hi=>?_⟩;obtain⟨hi2,rfl⟩:=hget i t hi;obtain⟨h1,_⟩:=hall i (by omega);rw[nU] at h1;exact h1
theorem fuQ:∃ f0 f1:Field,prog.underlying 105=some (.struct #[f0,f1])/\f0.offset=0/\f1.offset=1/\f0.type=9/\f1.type=3:=by
 refine⟨_,_,underlying105,?_,?_,?_,?_⟩ <;> rfl
theorem fuX {H:Type}{enc:TypeId × Value->H}{D:DataW H}{P:List MemPlace}(h:DataW.trod enc prog W 0 (fun _=>true) true n 22 [V]=some (D,P)) :
  ∃ l:List yQ,tQ W W.heap.size V l:=by
 obtain⟨f0,f1,hu,o0,o1,t0,t1⟩:=fuQ;rcases open_slice_pairs underlying22 hu ftX o0 o1 (by rw[t0];exact alZ) (by rw[t1];exact sF) h with⟨hcs,_⟩|⟨a,len,cap,m,n',V0,V1,D0,D1,P0,P1,hcs,_,hl,hmx,hm,hx,hall⟩
 ·simp at hcs
  subst hcs;exact⟨[],dhJ _ _⟩
 ·simp at hcs
  subst hcs;simp only[uU] at hm;subst hm;rw[yD] at hmx
  have each:∀ i,i<len->∃ q:yQ,(V0 i=.string q.1/\V1 i=.int .i64 q.2)/\q.1.size<=9223372036854775807:=by
   intro i hi;obtain⟨_,_,h3,h4⟩:=hall i (by omega);rw[t0] at h3;rw[t1] at h4;obtain⟨s,e0,_,hw⟩:=DataW.trod_string underlying9 h3;obtain⟨k,e1,_,_⟩:=tF underlying3 h4;simp at e0 e1;exact⟨(s,k),⟨e0,e1⟩,by rw[<-yD];exact hw⟩
  obtain⟨q,hq⟩:=choose_lt each
  have hget:∀ i t,((List.range len).map fun i=>q i)[i]? = some t->i<len/\t=q i:=by
   intro i t hi;have hlt:=(cQ.1 hi).1;simp at hlt;simp[hlt] at hi;exact⟨hlt,hi.symm⟩
  refine⟨(List.range len).map fun i=>q i,some a,m,by simp,by simp;omega,by simp;omega,fun t ht=>?_,fun hne=>?_⟩
  ·obtain⟨i,hi,rfl⟩:=wX.1 ht
   exact(hq i (zH.1 hi)).2
  ·have hpos:0<len:=by
    rcases xM len with h0|h0
    ·subst h0;simp at hne
    ·exact h0
   obtain⟨b,o,spot⟩:=a;have h0:=(hall 0 (by omega)).1;have hs:spot=none:=by simpa [Addr.add] using gN h0
   subst hs;have hlt:b<W.heap.size:=sL (a:=(⟨b,o,none⟩:Addr).add (0*2)) h0;refine⟨b,o,rfl,hlt,fun i t hi=>?_⟩;obtain⟨hi2,rfl⟩:=hget i t hi;obtain⟨h1,h2,_⟩:=hall i (by omega);rw[nU] at h1 h2;exact⟨by rw[h1,(hq i hi2).1.1],by rw[zV,h2,(hq i hi2).1.2]⟩
section
theorem fuZ {H:Type}{enc:TypeId × Value->H}{f0 f1 f2:Field}{cs:List Value}{x:DataW H × List MemPlace}(he:P.underlying e=some (.struct #[f0,f1,f2]))(o0:f0.offset=0)(c0:P.cellsOf f0.type=1)(o1:f1.offset=1)(c1:P.cellsOf f1.type=1)(o2:f2.offset=2)(c2:P.cellsOf f2.type=1)
  (hlen:cs.length=3) (h:DataW.trod enc P w base spare held n e cs=some x):∃ v0 v1 v2 y0 y1 y2 k,cs=[v0,v1,v2]/\n=k+1/\DataW.trod enc P w base spare held k f0.type [v0]=some y0/\DataW.trod enc P w base spare held k f1.type [v1]=some y1/\DataW.trod enc P w base spare held k f2.type [v2]=some y2:=by
 obtain⟨xs,k,hk,hxy,_,hxl,hf⟩:=DataW.trod_struct he h
 match xs,hxl,cs,hlen with
 | [y0,y1,y2],_,[v0,v1,v2],_ =>
  have g0:=hf 0 f0 rfl;have g1:=hf 1 f1 rfl;have g2:=hf 2 f2 rfl;simp[o0,o1,o2,c0,c1,c2] at g0 g1 g2;exact⟨v0,v1,v2,y0,y1,y2,k,rfl,hk,g0,g1,g2⟩
theorem fuJ {H:Type}{enc:TypeId × Value->H}{f0 f1 f2 f3 f4 f5:Field}{cs:List Value}{x:DataW H × List MemPlace}(he:P.underlying e=some (.struct #[f0,f1,f2,f3,f4,f5]))(o0:f0.offset=0)(c0:P.cellsOf f0.type=1)(o1:f1.offset=1)(c1:P.cellsOf f1.type=1)(o2:f2.offset=2)(c2:P.cellsOf f2.type=1)(o3:f3.offset=3)(c3:P.cellsOf f3.type=1)(o4:f4.offset=4)(c4:P.cellsOf f4.type=1)(o5:f5.offset=5)(c5:P.cellsOf f5.type=1)
  (hlen:cs.length=6) (h:DataW.trod enc P w base spare held n e cs=some x):∃ v0 v1 v2 v3 v4 v5 y0 y1 y2 y3 y4 y5 k,cs=[v0,v1,v2,v3,v4,v5]/\n=k+1/\DataW.trod enc P w base spare held k f0.type [v0]=some y0/\DataW.trod enc P w base spare held k f1.type [v1]=some y1/\DataW.trod enc P w base spare held k f2.type [v2]=some y2/\DataW.trod enc P w base spare held k f3.type [v3]=some y3/\DataW.trod enc P w base spare held k f4.type [v4]=some y4/\DataW.trod enc P w base spare held k f5.type [v5]=some y5:=by
 obtain⟨xs,k,hk,hxy,_,hxl,hf⟩:=DataW.trod_struct he h
 match xs,hxl,cs,hlen with
 | [y0,y1,y2,y3,y4,y5],_,[v0,v1,v2,v3,v4,v5],_ =>
  have g0:=hf 0 f0 rfl;have g1:=hf 1 f1 rfl;have g2:=hf 2 f2 rfl;have g3:=hf 3 f3 rfl;have g4:=hf 4 f4 rfl;have g5:=hf 5 f5 rfl;simp[o0,o1,o2,o3,o4,o5,c0,c1,c2,c3,c4,c5] at g0 g1 g2 g3 g4 g5;exact⟨v0,v1,v2,v3,v4,v5,y0,y1,y2,y3,y4,y5,k,rfl,hk,g0,g1,g2,g3,g4,g5⟩
end
theorem fvQ:prog.cellsOf 287=3:=by kernel_rfl
theorem b6J:prog.cellsOf 52=6:=by kernel_rfl
theorem fvX:prog.cellsOf 49=1:=by kernel_rfl
theorem fvZ:prog.cellsOf 50=1:=by kernel_rfl
theorem fvJ:∃ f0 f1 f2:Field,prog.underlying 287=some (.struct #[f0,f1,f2])/\f0.offset=0/\f1.offset=1/\f2.offset=2/\f0.type=9/\f1.type=3/\f2.type=3:=by
 refine⟨_,_,_,underlying287,?_,?_,?_,?_,?_,?_⟩ <;> rfl
theorem fwQ:∃ f0 f1 f2 f3 f4 f5:Field,prog.underlying 52=some (.struct #[f0,f1,f2,f3,f4,f5])/\(f0.offset=0/\f1.offset=1/\f2.offset=2/\f3.offset=3/\f4.offset=4/\f5.offset=5)/\f0.type=3/\f1.type=9/\f2.type=3/\f3.type=3/\f4.type=49/\f5.type=50:=by
 refine⟨_,_,_,_,_,_,underlying52,⟨?_,?_,?_,?_,?_,?_⟩,?_,?_,?_,?_,?_,?_⟩ <;> rfl
theorem fwX {H:Type}{enc:TypeId × Value->H}{D:DataW H}{P:List MemPlace}(h:DataW.trod enc prog W 0 (fun _=>true) true n 49 [V]=some (D,P)) :
  ∃ l:List aZ,qJ W W.heap.size V l:=by
 obtain⟨f0,f1,f2,hu,o0,o1,o2,t0,t1,t2⟩:=fvJ;rcases open_slice underlying49 h with⟨hcs,_⟩|⟨a,len,cap,m,n',D0,P0,hcs,_,hl,hmx,hm,hx,hall⟩
 ·simp at hcs
  subst hcs;exact⟨[],none,0,rfl,vQ _,by simp,by simp,fun h=>absurd rfl h⟩
 ·simp at hcs
  subst hcs;simp only[uU] at hm;subst hm;rw[yD] at hmx
  have each:∀ i,i<len->∃ q:aZ,q.1.size<=9223372036854775807/\W.cell? (a.add (i*3))=some (.string q.1)/\W.cell? (a.add (i*3+1))=some (.int .i64 q.2.1)/\W.cell? (a.add (i*3+2))=some (.int .i64 q.2.2):=by
   intro i hi;obtain⟨cs',h1,h2⟩:=hall i (by omega);rw[fvQ] at h1;obtain⟨_,hlen,hcell⟩:=World.cells?_some h1;obtain⟨v0,v1,v2,y0,y1,y2,k,rfl,_,g0,g1,g2⟩:=fuZ hu o0 (by rw[t0];exact alZ) o1 (by rw[t1];exact sF) o2 (by rw[t2];exact sF) hlen h2;rw[t0] at g0;rw[t1] at g1;rw[t2] at g2;have e0:=hcell 0 (by omega);have e1:=hcell 1 (by omega);have e2:=hcell 2 (by omega);rw[add_add] at e0 e1 e2;obtain⟨s,d0,_,hw⟩:=DataW.trod_string underlying9 g0;obtain⟨k1,d1,_,_⟩:=tF underlying3 g1;obtain⟨k2,d2,_,_⟩:=tF underlying3 g2;simp at d0 d1 d2;subst d0 d1 d2;exact⟨(s,k1,k2),by rw[<-yD];exact hw,by simpa using e0,by simpa using e1,by simpa using e2⟩
  obtain⟨q,hq⟩:=choose_lt each
  have hget:∀ i t,((List.range len).map fun i=>q i)[i]? = some t->i<len/\t=q i:=by
   intro i t hi;have hlt:=(cQ.1 hi).1;simp at hlt;simp[hlt] at hi;exact⟨hlt,hi.symm⟩
  refine⟨(List.range len).map fun i=>q i,some a,m,by simp,by simp;omega,by simp;omega,fun t ht=>?_,fun hne=>?_⟩
  ·obtain⟨i,hi,rfl⟩:=wX.1 ht
   exact(hq i (zH.1 hi)).1
  ·have hpos:0<len:=by
    rcases xM len with h0|h0
    ·subst h0;simp at hne
    ·exact h0
   obtain⟨b,o,spot⟩:=a;have h0:=(hq 0 (by omega)).2.1;have hs:spot=none:=by simpa [Addr.add] using gN h0
   subst hs;have hlt:b<W.heap.size:=sL (a:=(⟨b,o,none⟩:Addr).add (0*3)) h0;refine⟨b,o,rfl,hlt,fun i t hi=>?_⟩;obtain⟨hi2,rfl⟩:=hget i t hi;obtain⟨_,h1,h2,h3⟩:=hq i hi2;rw[nU] at h1 h2 h3;exact⟨h1,by rw[zV];exact h2,by rw[zV];exact h3⟩
theorem fwZ {H:Type}{enc:TypeId × Value->H}:∀ (n:Nat) (cs:List Value) (x:DataW H × List MemPlace),cs.length=6->DataW.trod enc prog W 0 (fun _=>true) true n 52 cs=some x ->
  ∃ q v0 v1 v2 v3 v4 v5,cs=[v0,v1,v2,v3,v4,v5]/\Qm W W.heap.size q v0 v1 v2 v3 v4 v5:=by
 intro n
 induction n using Nat.strongRecOn with
 | ind n ih =>
  intro cs x hlen h;obtain⟨f0,f1,f2,f3,f4,f5,hu,⟨o0,o1,o2,o3,o4,o5⟩,t0,t1,t2,t3,t4,t5⟩:=fwQ;obtain⟨v0,v1,v2,v3,v4,v5,y0,y1,y2,y3,y4,y5,k,rfl,hk,g0,g1,g2,g3,g4,g5⟩:=fuJ hu o0 (by rw[t0];exact sF) o1 (by rw[t1];exact alZ) o2 (by rw[t2];exact sF) o3 (by rw[t3];exact sF) o4 (by rw[t4];exact fvX) o5 (by rw[t5];exact fvZ) hlen h;rw[t0] at g0;rw[t1] at g1;rw[t2] at g2;rw[t3] at g3;rw[t4] at g4;rw[t5] at g5;obtain⟨k0,d0,_,_⟩:=tF underlying3 g0;obtain⟨s1,d1,_,hw1⟩:=DataW.trod_string underlying9 g1;obtain⟨k2,d2,_,_⟩:=tF underlying3 g2;obtain⟨k3,d3,_,_⟩:=tF underlying3 g3;simp at d0 d1 d2 d3;obtain⟨wh,hwh⟩:=fwX (D:=y4.1) (P:=y4.2) g4;rcases DataW.trod_slice underlying50 g5 with⟨hcs,_⟩|⟨a,len,cap,elems,rest,m,hm,hcs,_,_,hl,hmx,hel,hall,_⟩
  ·simp at hcs
   exact⟨.node k0 s1 k2 k3 wh 0 .none .none,v0,v1,v2,v3,v4,v5,rfl,d0,d1,d2,d3,by rw[<-yD];exact hw1,hwh,none,0,hcs,vQ _,by decide,fun h=>absurd h (by decide)⟩
  ·simp at hcs
   rw[yD] at hmx
   have each:∀ i,i<len->∃ q u0 u1 u2 u3 u4 u5,(∀ j u,[u0,u1,u2,u3,u4,u5][j]? = some u->W.cell? (a.add (i*6+j))=some u)/\Qm W W.heap.size q u0 u1 u2 u3 u4 u5:=by
    intro i hi;have h1:=hall i hi;rw[b6J,iJ (by omega)] at h1;obtain⟨cs',h2,h3⟩:=Option.bind_eq_some_iff.1 h1;obtain⟨_,hl6,hcell⟩:=World.cells?_some h2;obtain⟨q,u0,u1,u2,u3,u4,u5,rfl,hqm⟩:=ih m (by omega) cs' _ hl6 h3;refine⟨q,u0,u1,u2,u3,u4,u5,fun j u hj=>?_,hqm⟩;have hj6:j<6:=by have:=(cQ.1 hj).1;simpa using this
    have:=hcell j hj6;rw[add_add,hj] at this;exact this
   rcases xM len with h0|h0
   ·subst h0
    exact⟨.node k0 s1 k2 k3 wh 0 .none .none,v0,v1,v2,v3,v4,v5,rfl,d0,d1,d2,d3,by rw[<-yD];exact hw1,hwh,some a,cap,hcs,by omega,by decide,fun h=>absurd h (by decide)⟩
   ·obtain⟨qx,u0,u1,u2,u3,u4,u5,hc,hqx⟩:=each 0 h0
    obtain⟨b,o,spot⟩:=a;have e0:=hc 0 u0 rfl;have hs:spot=none:=by simpa [Addr.add] using gN e0
    subst hs;have hlt:b<W.heap.size:=sL (a:=(⟨b,o,none⟩:Addr).add (0*6+0)) e0
    have at6:∀ (i:Nat) (u0 u1 u2 u3 u4 u5:Value),(∀ j u,[u0,u1,u2,u3,u4,u5][j]? = some u->W.cell? ((⟨b,o,none⟩:Addr).add (i*6+j))=some u)->zY W b (o+i*6) u0 u1 u2 u3 u4 u5:=by
     intro i u0 u1 u2 u3 u4 u5 hc;have w0:=hc 0 u0 rfl;have w1:=hc 1 u1 rfl;have w2:=hc 2 u2 rfl;have w3:=hc 3 u3 rfl;have w4:=hc 4 u4 rfl;have w5:=hc 5 u5 rfl;rw[nU] at w0 w1 w2 w3 w4 w5;exact⟨by simpa using w0,by rw[zV];exact w1,by rw[zV];exact w2,by rw[zV];exact w3,by rw[zV];exact w4,by rw[zV];exact w5⟩
    have a0:=at6 0 _ _ _ _ _ _ hc;simp only[jI,oA] at a0;by_cases h1:len=1
    ·subst h1
     exact⟨.node k0 s1 k2 k3 wh 1 qx .none,v0,v1,v2,v3,v4,v5,rfl,d0,d1,d2,d3,by rw[<-yD];exact hw1,hwh,some ⟨b,o,none⟩,cap,hcs,hl,by decide,fun _ _=>⟨b,o,rfl,hlt,⟨u0,u1,u2,u3,u4,u5,a0,hqx⟩,fun h=>absurd h (by decide)⟩⟩
    ·obtain⟨qy,z0,z1,z2,z3,z4,z5,hcy,hqy⟩:=each 1 (by omega)
     have a1:=at6 1 _ _ _ _ _ _ hcy;exact⟨.node k0 s1 k2 k3 wh len qx qy,v0,v1,v2,v3,v4,v5,rfl,d0,d1,d2,d3,by rw[<-yD];exact hw1,hwh,some ⟨b,o,none⟩,cap,hcs,hl,by omega,fun _ _=>⟨b,o,rfl,hlt,⟨u0,u1,u2,u3,u4,u5,a0,hqx⟩,fun _=>⟨z0,z1,z2,z3,z4,z5,a1,hqy⟩⟩⟩
theorem fzX {H:Type}{enc:TypeId × Value->H}{D:DataW H}{P:List MemPlace}(h:DataW.trod enc prog W 0 (fun _=>true) true n 35 [V]=some (D,P)):∀ m c,V=.slice none m c->c=0:=by
 intro m c hV;rcases open_ints underlying35 underlying3 sF h with⟨hcs,_⟩|⟨a,len,cap,zs,hcs,_,hl,hmx,hz,hx,hcell,hwz⟩
 ·simp at hcs
  subst hcs;simp only[iZ] at hV;exact hV.2.2.symm
 ·simp at hcs
  subst hcs;simp at hV
theorem fzZ {H:Type}{enc:TypeId × Value->H}{D:DataW H}{P:List MemPlace}(h:DataW.trod enc prog W 0 (fun _=>true) true n 23 [V]=some (D,P)) :
  ∃ ts:List Rw,zX W W.heap.size V ts/\∀ t∈ts,∀ n c,t.1=.slice none n c->c=0:=by
 rcases open_slice1 underlying23 alJ h with⟨hcs,_⟩|⟨a,len,cap,m,n',V0,D0,P0,hcs,_,hl,hmx,hm,hx,hall⟩
 ·simp at hcs
  subst hcs;exact⟨[],a4Z _ _,fun t ht=>by cases ht⟩
 ·simp at hcs
  subst hcs;simp only[uU] at hm;subst hm;rw[yD] at hmx;have each:∀ i,i<len->∃ q:List Int,jQ W W.heap.size W.heap.size (V0 i) q:=fun i hi=>amQ (hall i (by omega)).2;obtain⟨q,hq⟩:=choose_lt each
  have hget:∀ i t,((List.range len).map fun i=>((V0 i,q i):Rw))[i]? = some t->i<len/\t=(V0 i,q i):=by
   intro i t hi;have hlt:=(cQ.1 hi).1;simp at hlt;simp[hlt] at hi;exact⟨hlt,hi.symm⟩
  refine⟨(List.range len).map fun i=>(V0 i,q i),⟨some a,m,by simp,by simp;omega,by simp;omega,fun t ht=>?_,fun hne=>?_⟩,fun t ht k c hk=>?_⟩
  ·obtain⟨i,hi,rfl⟩:=wX.1 ht
   exact hq i (zH.1 hi)
  ·have hpos:0<len:=by
    rcases xM len with h0|h0
    ·subst h0;simp at hne
    ·exact h0
   obtain⟨b,o,spot⟩:=a;have h0:=(hall 0 (by omega)).1;have hs:spot=none:=by simpa [Addr.add] using gN h0
   subst hs;have hlt:b<W.heap.size:=sL (a:=(⟨b,o,none⟩:Addr).add 0) h0;refine⟨b,o,rfl,hlt,fun i t hi=>?_⟩;obtain⟨hi2,rfl⟩:=hget i t hi;obtain⟨h1,_⟩:=hall i (by omega);rw[nU] at h1;exact h1
  ·obtain⟨i,hi,rfl⟩:=wX.1 ht
   have hlt:=zH.1 hi;exact fzX (hall i (by omega)).2 k c hk
end K
end Go.Proofs.YtpmioeamdhdokaaGreat
