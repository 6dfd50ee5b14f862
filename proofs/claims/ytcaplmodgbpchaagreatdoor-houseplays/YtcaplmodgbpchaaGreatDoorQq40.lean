import Derived.Test.YtcaplmodgbpchaaGreatDoorQq39
import Derived.Test.YtcaplmodgbpchaaGreatDoorQq18
open Go.Proofs.Tryz
open Go.Value(int)
open Go.IntKind(i64)
set_option linter.unusedSimpArgs false
set_option maxHeartbeats 16000000
set_option maxRecDepth 100000
namespace Go.Proofs.YtcaplmodgbpchaaGreatDoor
variable {e er z:Int} {W w wr:World} {cv nv tv v:Value} {qs:List Value} {P:Program} {Q:Exit->Act->World->Prop} {a0:Act} {D:List Nat} {T:List (Nat × Nat × Value)} {X:(Nat->Bool)->(Nat->Value)->World->Prop} {c d i:Nat} {o:Oper} {bits:List Int} {a:Option Addr}
section
open Go.RowKit Ds
theorem e3Q (u d lo hi:Int)(xa:Option Addr)(xc:Nat)(a:List Int)(g:World)(i:Hid (yQ g g.heap.size g.heap.size (.slice xa a.length xc) a))(_h1:zX lo)(_h2:zX hi)(_h3:∀ n∈a,zX n)(k:a.length<=4096)(j:List (List Pt))(e2:Int)(h:Hid (sV u d lo hi a=(j,e2))) :
  Calls prog 67 #[rv u d,int i64 lo,int i64 hi,.slice xa a.length xc] g (aiQ g j e2):=ewQ _ _ u d lo hi _ a g (vQ _) i.out (by omega) j e2 h.out
theorem e3X (B:Nat)(u d lo hi:Int)(cv tv v0 v1 v2 v3 v4 v5:Value)(l:List K.Ds.aQ)(ts:List K.Rw)(q:K.Ds.Qu)(w:World)(hB:B<=w.heap.size)(hp:K.kQ w B cv l)(hr:K.nQ w B tv ts)(hq:K.Qm w B q v0 v1 v2 v3 v4 v5)(b5:zX lo)(az:zX hi)
  (ls:List (List Pt)) (p' q' er:Int) (o:eA u d lo hi l (K.rr ts) q=(ls,p',q',er)) :
  Calls prog 35 #[rv u d,int i64 lo,int i64 hi,.agg #[cv,tv],.agg #[v0,v1,v2,v3,v4,v5]] w (bsJ w ls p' q' er):=by
 have HP:=qQ hp;have bv:=qQ hr;have HQ:=qQ hq;have HI:Hid (zX lo/\zX hi):=⟨b5,az⟩;obtain⟨⟨xs,e1⟩,hx⟩:∃ y,K.uY (K.lV l (K.rr ts) q)=y:=⟨_,rfl⟩;have T:=btQ hq hx;obtain⟨⟨hl,e2⟩,hh⟩:∃ y,sV u d lo hi xs=y:=⟨_,rfl⟩;obtain⟨⟨⟨b1,b2,b3⟩,e3⟩,ht⟩:∃ y,K.jU (K.typ l q)=y:=⟨_,rfl⟩;obtain⟨⟨p,q1,e4⟩,Q⟩:∃ y,dF u d b2=y:=⟨_,rfl⟩;unfold eA at o;rw[hx,hh,ht] at o;simp only at o;rw[Q] at o;simp only at o;obtain⟨la,lc,rfl,_⟩:=hp.slice;obtain⟨ra,rc,rfl,_⟩:=hr.slice;obtain⟨kk,kc,kl,kh,ka,kn,kd,kb,km,kp,rfl,rfl,rfl,rfl,rfl,rfl⟩:=hq.shape;have O:xQ w ((((w.alloc (.cells #[int i64 u,int i64 d] 37)).alloc (.cells #[.slice la l.length lc,.slice ra ts.length rc] 25)).alloc (.cells #[int i64 kk,.string kc,int i64 kl,int i64 kh,.slice ka kn kd,.slice kb km kp] 53)).alloc (.cells #[int i64 0,int i64 0] 37)):=bal (bal (bal (ba _ _) _) _) _;have h:Hid (Nb ((((w.alloc (.cells #[int i64 u,int i64 d] 37)).alloc (.cells #[.slice la l.length lc,.slice ra ts.length rc] 25)).alloc (.cells #[int i64 kk,.string kc,int i64 kl,int i64 kh,.slice ka kn kd,.slice kb km kp] 53)).alloc (.cells #[int i64 0,int i64 0] 37)) w.heap.size u d (.slice la l.length lc) (.slice ra ts.length rc) (int i64 kk) (.string kc) (int i64 kl) (int i64 kh) (.slice ka kn kd) (.slice kb km kp)):=Nb.new _ _ _ _ _ _ _ _ _ _ _;have au:Hid (K.uY (K.lV l (K.rr ts) q)=(xs,e1)/\xs.length<=4096/\(∀ n∈xs,zX n)):=⟨hx,T.1,T.2⟩;have ao:=qQ hh;have bw:=qQ ht;have br:=qQ Q;have HA:=qQ o;have cb:xs.length<=4096:=T.1;clear hx hh ht Q o hp hr hq T b5 az;obtain⟨w0,b6⟩:∃ w0,((((w.alloc (.cells #[int i64 u,int i64 d] 37)).alloc (.cells #[.slice la l.length lc,.slice ra ts.length rc] 25)).alloc (.cells #[int i64 kk,.string kc,int i64 kl,int i64 kh,.slice ka kn kd,.slice kb km kp] 53)).alloc (.cells #[int i64 0,int i64 0] 37))=w0:=⟨_,rfl⟩;rw[b6] at O h;have kr:=K.e2J l ts q w0 B _ _ _ _ _ _ _ _ xs e1 (bQ hB O.size) (HP.out.at hB O) (bv.out.at hB O) (HQ.out.at hB O) au.out.1;have I:=h.out.r0.c;have J:=h.out.r1.c;have L:=h.out.t0.c;have M:=h.out.t1.c;have z:=h.out.a0.c;have A:=h.out.a1.c;have C:=h.out.a2.c;have D:=h.out.a3.c;have E:=h.out.a4.c;have F:=h.out.a5.c;have k:=h.out.z0.c;have m:=h.out.z1.c;have G:=h.out.z0.f;have H:=h.out.z1.f;go_enter func35,ntmps35;go_wp2_with fail;clear b6 I J L M z A C D E F k m G H;refine kr.mono ?_;rintro e w1 ⟨xa,xc,rfl,ax,Y⟩;have P:=bt O Y;have j:=qQ (h.out.at Y);have V:w.heap.size+1+1+1<w1.heap.size:=j.out.z0.lt;have bx:=qQ (aeQ ax (by omega));clear kr ax Y h O;by_cases h1:e1=0
 ·subst h1
  have o:=HA.out;rw[zQ (by simp)] at o;have I:=j.out.r0.c;have J:=j.out.r1.c;have L:=j.out.t0.c;have M:=j.out.t1.c;have z:=j.out.a0.c;have A:=j.out.a1.c;have C:=j.out.a2.c;have D:=j.out.a3.c;have E:=j.out.a4.c;have F:=j.out.a5.c;have k:=j.out.z0.c;have m:=j.out.z1.c;have G:=j.out.z0.f;have H:=j.out.z1.f;have b8:=e3Q u d lo hi xa xc xs w1 bx HI.out.1 HI.out.2 au.out.2.2 cb hl e2 ao;go_wp2_with fail;refine b8.mono ?_;rintro e w2 ⟨v2,zs,rfl,k1,k2,k3⟩;have X:Hid (fJ w2 w1.heap.size v2 zs/\rds zs=hl):=⟨(id k2),k1⟩;obtain⟨a2,c2,ca,_⟩:=(id k2);subst ca;have N:=bt P k3;have a:=qQ (j.out.at k3)
  have cc:zs.length<=4096:=by
   have e1:=congrArg List.length X.out.2;rw[bsZ] at e1;have:=btX ao.out;omega
  clear b8 k1 k2 k3 I J L M z A C D E F k m G H j;by_cases h2:e2=0
  ·subst h2
   rw[zQ (by simp)] at o;have I:=a.out.r0.c;have J:=a.out.r1.c;have L:=a.out.t0.c;have M:=a.out.t1.c;have z:=a.out.a0.c;have A:=a.out.a1.c;have C:=a.out.a2.c;have D:=a.out.a3.c;have E:=a.out.a4.c;have F:=a.out.a5.c;have k:=a.out.z0.c;have m:=a.out.z1.c;have G:=a.out.z0.f;have H:=a.out.z1.f;have kt:=K.akZ l q w2 B _ _ _ _ _ _ _ b1 b2 b3 e3 (bQ hB N.size) (HP.out.at hB N) (HQ.out.at hB N) bw.out;go_wp2_with fail;refine kt.mono ?_;rintro e w3 ⟨rfl,R⟩;have ay:=bt N R;have i:Hid (Nb (w3.alloc (.cells #[int i64 b1,int i64 b2,int i64 b3] 131)) w.heap.size u d (.slice la l.length lc) (.slice ra ts.length rc) (int i64 kk) (.string kc) (int i64 kl) (int i64 kh) (.slice ka kn kd) (.slice kb km kp)):=(a.out.at R).at (ba _ _);have an:Hid (fJ (w3.alloc (.cells #[int i64 b1,int i64 b2,int i64 b3] 131)) w1.heap.size (.slice a2 zs.length c2) zs):=X.out.1.keep (bal R _);have Z:=bal ay (.cells #[int i64 b1,int i64 b2,int i64 b3] 131);clear kt R I J L M z A C D E F k m G H a;have I:=i.out.r0.c;have J:=i.out.r1.c;have L:=i.out.t0.c;have M:=i.out.t1.c;have z:=i.out.a0.c;have A:=i.out.a1.c;have C:=i.out.a2.c;have D:=i.out.a3.c;have E:=i.out.a4.c;have F:=i.out.a5.c;have k:=i.out.z0.c;have m:=i.out.z1.c;have G:=i.out.z0.f;have H:=i.out.z1.f;go_wp2_with fail;refine(etJ u d b2 p q1 e4 br.out _).mono ?_;rintro e w4 ⟨rfl,S⟩;have U:=bt Z S;have aq:=qQ (i.out.at S);have bp:=qQ (an.out.keep S);clear S I J L M z A C D E F k m G H i an;by_cases h4:e4=0
   ·subst h4
    rw[zQ (by simp)] at o;simp only[cQ] at o;obtain⟨rfl,rfl,rfl,rfl⟩:=o;have g:Hid (Nb (w4.alloc (.cells #[int i64 p,int i64 q1] 37)) w.heap.size u d (.slice la l.length lc) (.slice ra ts.length rc) (int i64 kk) (.string kc) (int i64 kl) (int i64 kh) (.slice ka kn kd) (.slice kb km kp)):=aq.out.at (ba _ _);have bn:Hid (Fc w4.heap.size p q1 (w4.alloc (.cells #[int i64 p,int i64 q1] 37))):=boJ _ _ _;obtain⟨j1,j2,j3,j4⟩:=bn.out;obtain⟨W,hW⟩:∃ W,w4.alloc (.cells #[int i64 p,int i64 q1] 37)=W:=⟨_,rfl⟩;have bz:xQ w W:=hW▸bal U _;have bq:Hid (fJ W w1.heap.size (.slice a2 zs.length c2) zs):=hW▸bp.out.keep (ba _ _);rw[hW] at g j1 j2 j3 j4;have I:=g.out.r0.c;have J:=g.out.r1.c;have L:=g.out.t0.c;have M:=g.out.t1.c;have z:=g.out.a0.c;have A:=g.out.a1.c;have C:=g.out.a2.c;have D:=g.out.a3.c;have E:=g.out.a4.c;have F:=g.out.a5.c;have k:=g.out.z0.c;have m:=g.out.z1.c;have G:=g.out.z0.f;have H:=g.out.z1.f;go_wp2_with fail;clear hW
    go_region_law (fail)
    go_wp2;exact bodyPost_ret (v:=.tuple #[.slice a2 zs.length c2,rv p q1,int i64 0]) (by simp[results,results35,go_sem,k,m]) rfl ⟨_,zs,rfl,X.out.2,(((bq.out.set V).set V).mono P.size).keep (Below.refl _ _).drew,cc,(bs (bs bz (by dsimp only;omega) _) (by dsimp only;omega) _).drew⟩
   ·have h5:(e4 == 0)=false:=by simpa using h4
    have h6:(e4 != 0)=true:=by simpa using h4
    rw[if_pos h4] at o;simp only[Prod.mk.injEq] at o;obtain⟨rfl,rfl,rfl,rfl⟩:=o;have g:Hid (Nb (w4.alloc (.cells #[int i64 p,int i64 q1] 37)) w.heap.size u d (.slice la l.length lc) (.slice ra ts.length rc) (int i64 kk) (.string kc) (int i64 kl) (int i64 kh) (.slice ka kn kd) (.slice kb km kp)):=aq.out.at (ba _ _);have I:=g.out.r0.c;have J:=g.out.r1.c;have L:=g.out.t0.c;have M:=g.out.t1.c;have z:=g.out.a0.c;have A:=g.out.a1.c;have C:=g.out.a2.c;have D:=g.out.a3.c;have E:=g.out.a4.c;have F:=g.out.a5.c;have k:=g.out.z0.c;have m:=g.out.z1.c;have G:=g.out.z0.f;have H:=g.out.z1.f;go_wp2_with fail;exact bodyPost_ret (v:=.tuple #[.slice none 0 0,rv 0 0,int i64 e4]) (by simp[results,results35,go_sem,k,m]) rfl ⟨_,[],rfl,rfl,fJ.nil _ _,by simp,bs (bs (bal U _) (by dsimp only;omega) _) (by dsimp only;omega) _⟩
  ·have h5:(e2 == 0)=false:=by simpa using h2
   have h6:(e2 != 0)=true:=by simpa using h2
   rw[if_pos h2] at o;simp only[Prod.mk.injEq] at o;obtain⟨rfl,rfl,rfl,rfl⟩:=o;have I:=a.out.r0.c;have J:=a.out.r1.c;have L:=a.out.t0.c;have M:=a.out.t1.c;have z:=a.out.a0.c;have A:=a.out.a1.c;have C:=a.out.a2.c;have D:=a.out.a3.c;have E:=a.out.a4.c;have F:=a.out.a5.c;have k:=a.out.z0.c;have m:=a.out.z1.c;have G:=a.out.z0.f;have H:=a.out.z1.f;go_wp2_with fail;exact bodyPost_ret (v:=.tuple #[.slice none 0 0,rv 0 0,int i64 e2]) (by simp[results,results35,go_sem,k,m]) rfl ⟨_,[],rfl,rfl,fJ.nil _ _,by simp,bs (bs N (by dsimp only;omega) _) (by dsimp only;omega) _⟩
 ·have o:=HA.out
  have h5:(e1 == 0)=false:=by simpa using h1
  have h6:(e1 != 0)=true:=by simpa using h1
  rw[if_pos h1] at o;simp only[Prod.mk.injEq] at o;obtain⟨rfl,rfl,rfl,rfl⟩:=o;have I:=j.out.r0.c;have J:=j.out.r1.c;have L:=j.out.t0.c;have M:=j.out.t1.c;have z:=j.out.a0.c;have A:=j.out.a1.c;have C:=j.out.a2.c;have D:=j.out.a3.c;have E:=j.out.a4.c;have F:=j.out.a5.c;have k:=j.out.z0.c;have m:=j.out.z1.c;have G:=j.out.z0.f;have H:=j.out.z1.f;go_wp2_with fail;exact bodyPost_ret (v:=.tuple #[.slice none 0 0,rv 0 0,int i64 e1]) (by simp[results,results35,go_sem,k,m]) rfl ⟨_,[],rfl,rfl,fJ.nil _ _,by simp,bs (bs P (by dsimp only;omega) _) (by dsimp only;omega) _⟩
end
namespace K.Ds
def nn:Option Int->Int
 | some v=>if v<0 then -1 else v
 | none=>-1
def lvs (s:ByteArray):Qu->Int
 | .none=>-1
 | .node _ _ _ _ wh n x y=>if n=0 then nn (fst wh s) else if n=2/\lvs s y≠lvs s x then -1 else lvs s x
theorem e3Z (s:ByteArray)(q:Qu):lvs s q=nn (onl s q):=by
 induction q with
 | none=>rfl
 | node k c lo hi wh n x y ihx ihy =>
  simp only[lvs,onl];split
  ·rfl
  ·rw[ihx,ihy]
   cases hx:onl s x with
   | none=>exact ite_self (-1:Int)
   | some v =>
    simp only;by_cases g:n=2
    ·rw[jQ g]
     cases hy:onl s y with
     | none =>
      simp only;by_cases i:v<0
      ·simp[nn,i]
      ·simp[nn,i,g];omega
     | some u =>
      simp only;by_cases a:u=v
      ·rw[jQ a];subst a;simp
      ·rw[zQ a]
       by_cases i:v<0
       ·simp[nn,i]
       ·by_cases j:u<0
        ·simp[nn,i,j,g];omega
        ·simp[nn,i,j,g,a]
    ·rw[zQ g,zQ (fun h=>g h.1)]
end K.Ds
namespace K
open Go.RowKit K.Ds
theorem e3J (B:Nat)(v:Value)(j:List cX)(s:ByteArray)(w:World)(hB:B<=w.heap.size)(k:qZ w B v j)(r:Int)(F:nn (fst j s)=r) :
  Calls prog 126 #[v,.string s] w (iQ w (int i64 r)):=by
 have H:Hid (qZ w B v j):=k;have I:Hid (nn (fst j s)=r):=F;obtain⟨a,c,rfl,hc,M⟩:=k.slice;clear F;go_enter func126,ntmps126;go_wp2
 go_loopw [9] (fun s' wr=>∃ (i:Nat),s' = int i64 (i:Int)/\i<=j.length/\Hid (nn (fst (j.drop i) s)=r)/\xQ w wr) (fun s' _=>j.length - (intOf s').toNat)
 case atStart=>exact⟨0,rfl,dQ _,by simpa [Hid] using I.out,uQ _ _⟩
 case round =>
  obtain⟨i,rfl,hi,A,g⟩:=hrel;by_cases D:i<j.length
  ·obtain⟨b,o,nm,d,z,rfl,L,y,c1,c2,c3,N⟩:=H.out.get hB g D
   have m:Hid (fst (j.drop i) s=if nm=s/\d=1 then some z else fst (j.drop (i+1)) s):=bvX y;clear y;have k:=wG nm s;by_cases p:nm=s
   ·have C:(nm.toList == s.toList)=true:=by rw[k];simp[p]
    by_cases g2:d=1
    ·have E:Hid ((if z<0 then -1 else z)=r):=by have:=A.out;rw[m.out,jQ ⟨p,g2⟩] at this;exact this
     subst g2;clear k p;by_cases G:z<0
     ·obtain rfl:-1=r:=by rw[<-E.out,jQ G]
      go_wp2;go_ret;exact⟨rfl,bal g _⟩
     ·obtain rfl:z=r:=by rw[<-E.out,zQ G]
      go_wp2;go_ret;exact⟨rfl,bal g _⟩
    ·have J:(d == 1)=false:=by simpa using g2
     have l:Hid (nn (fst (j.drop (i+1)) s)=r):=by have:=A.out;rwa [m.out,zQ (fun h=>g2 h.2)] at this
     clear k p;go_wp2
     go_roundw
     case rel=>exact⟨i+1,by go_num,D,l,bal g _⟩
     case measure=>simp[intOf];omega
   ·have C:(nm.toList == s.toList)=false:=by rw[k];simp[p]
    have l:Hid (nn (fst (j.drop (i+1)) s)=r):=by have:=A.out;rwa [m.out,zQ (fun h=>p h.1)] at this
    clear k p;go_wp2
    go_roundw
    case rel=>exact⟨i+1,by go_num,D,l,bal g _⟩
    case measure=>simp[intOf];omega
  ·obtain rfl:-1=r:=by have:=A.out;rw[nG (by omega)] at this;exact this
   go_wp2;go_ret;exact⟨rfl,g⟩
theorem e4Q (s:ByteArray)(q:Qu):∀ (w:World) (B:Nat) (v0 v1 v2 v3 N v5:Value) (r:Int),B<=w.heap.size->Qm w B q v0 v1 v2 v3 N v5->Wq q->lvs s q=r ->
  Calls prog 74 #[.agg #[v0,v1,v2,v3,N,v5],.string s] w (iQ w (int i64 r)):=by
 induction q with
 | none=>intro w B v0 v1 v2 v3 N v5 r _ h;exact h.elim
 | node k c lo hi wh n x y ihx ihy =>
  rintro w B _ _ _ _ N _ r hB ⟨rfl,rfl,rfl,rfl,hc,Y,a,cap,rfl,hn,hm,hk⟩ ⟨V,X,wx,wy⟩ hr;have HW:=qQ Y;have Q:=qQ hr
  have HK:Hid (1<=n->n<=2->∃ b o,a=some ⟨b,o,none⟩/\b<B/\(∃ u0 u1 u2 u3 u4 u5,rJ w b o u0 u1 u2 u3 u4 u5/\Qm w B x u0 u1 u2 u3 u4 u5) /\
    (2<=n->∃ u0 u1 u2 u3 u4 u5,rJ w b (o+6) u0 u1 u2 u3 u4 u5/\Qm w B y u0 u1 u2 u3 u4 u5)):=hk
  have S:=qQ wx;have T:=qQ wy;obtain⟨wa,wc,rfl,_⟩:=Y.slice;clear hk hr Y wx wy V;have g:=ba w (.cells #[int i64 k,.string c,int i64 lo,int i64 hi,.slice wa wh.length wc,.slice a n cap] 53);go_enter func74,ntmps74;by_cases h0:n=0
  ·subst h0
   have k1:=e3J B (.slice wa wh.length wc) wh s _ (bQ hB g.size) (HW.out.at hB g) r (by have:=Q.out;rwa [lvs,jQ rfl] at this);go_wp2_with fail;refine k1.mono ?_;rintro e M ⟨rfl,m⟩;clear k1;have z:xQ w M:=bt g m;go_wp2;go_ret;exact⟨rfl,z⟩
  have ao:((n:Int) == 0)=false:=by rw[yU];omega
  obtain⟨b,o,rfl,H,⟨u0,u1,u2,u3,u4,u5,J,j⟩,I⟩:=HK.out (by omega) X;have F:=qQ I;obtain⟨kk,kc,kl,kh,ka,b8,kd,kb,km,kp,rfl,rfl,rfl,rfl,rfl,rfl⟩:=j.shape;obtain⟨c0,c1,c2,c3,c4,c5⟩:=J.keep g (lQ H hB);obtain⟨v,l⟩:∃ v,lvs s x=v:=⟨_,rfl⟩;have L:=ihx _ B _ _ _ _ _ _ v (bQ hB g.size) (j.at hB g) (S.out (by omega)) l;have E:Hid ((if n=2/\lvs s y≠v then -1 else v)=r):=by have:=Q.out;rw[lvs,zQ h0,l] at this;exact this
  clear l j J I HK Q;go_wp2_with fail;refine L.mono ?_;rintro e M ⟨rfl,m⟩;clear L c0 c1 c2 c3 c4 c5;have z:xQ w M:=bt g m;have bx:=(Bx.new w w.heap.size rfl (int i64 k) (.string c) (int i64 lo) (int i64 hi) (.slice wa wh.length wc) (.slice (some ⟨b,o,none⟩) n cap)).at m;have t5:=bx.a5.c;clear bx g m;rcases (show n=1\/n=2 by omega) with rfl|rfl
  ·obtain rfl:v=r:=by have:=E.out;rwa [zQ (by omega)] at this
   by_cases D:cap=1
   ·subst D
    go_wp2
    go_loopw [26] (fun s' wr=>s' = int i64 0/\wr=M) (fun _ _=>0)
    case atStart=>exact⟨rfl,rfl⟩
    case round =>
     obtain⟨rfl,rfl⟩:=hrel;go_wp2;go_ret;exact⟨rfl,z⟩
   ·go_wp2
    go_loopw [26] (fun s' wr=>s' = int i64 0/\wr=M) (fun _ _=>0)
    case atStart=>exact⟨rfl,rfl⟩
    case round =>
     obtain⟨rfl,rfl⟩:=hrel;go_wp2;go_ret;exact⟨rfl,z⟩
  ·obtain⟨u0,u1,u2,u3,u4,u5,J,j⟩:=F.out (by omega)
   obtain⟨jk,jc,jl,jh,ja,Z,jd,jb,jm,jp,rfl,rfl,rfl,rfl,rfl,rfl⟩:=j.shape;have HU:=qQ J;have P:=qQ j;clear J j F;have D:¬ cap=1:=by omega
   have R:Hid ((if lvs s y≠v then -1 else v)=r):=by
    show _=_
    rw[<-E.out];by_cases h:lvs s y=v
    ·rw[zQ (fun k=>k h),zQ (fun k=>k.2 h)]
    ·rw[jQ h,jQ ⟨rfl,h⟩]
   clear E;go_wp2
   go_loopw [26] (fun s' wr=>∃ i:Nat,s' = int i64 (i:Int)/\i<=1/\Hid (i=1->r=v)/\xQ w wr) (fun s' _=>1 - (intOf s').toNat)
   case atStart=>exact⟨0,rfl,by decide,fun h=>absurd h (by decide),z⟩
   case round =>
    obtain⟨i,rfl,am,HI,p⟩:=hrel;rcases (show i=0\/i=1 by omega) with rfl|rfl
    ·obtain⟨c0,c1,c2,c3,c4,c5⟩:=HU.out.keep p (lQ H hB)
     obtain⟨u,l⟩:∃ u,lvs s y=u:=⟨_,rfl⟩;have af:=p.size;have L:=ihy (wr.alloc (.cells #[int i64 jk,.string jc,int i64 jl,int i64 jh,.slice ja Z jd,.slice jb jm jp] 53)) B _ _ _ _ _ _ u (by simp;omega) ((P.out.at hB p).at (by omega) (ba _ _)) (T.out (by decide)) l;have G:Hid ((if u≠v then -1 else v)=r):=by have:=R.out;rwa [l] at this
     clear l t5;go_wp2_with fail;refine L.mono ?_;rintro e w2 ⟨rfl,U⟩;clear L c0 c1 c2 c3 c4 c5;have C:xQ w w2:=bt (bal p _) U;by_cases A:u=v
     ·have O:Hid (r=v):=by show _=_;rw[<-G.out,zQ (fun h=>h A)]
      subst A;go_wp2
      go_roundw
      case rel=>exact⟨1,rfl,by decide,fun _=>O.out,C⟩
      case measure=>simp[intOf]
     ·obtain rfl:-1=r:=by rw[<-G.out,jQ A]
      have an:(u != v)=true:=by simpa using A
      go_wp2;go_ret;exact⟨rfl,C⟩
    ·obtain rfl:r=v:=HI.out rfl
     go_wp2;go_ret;exact⟨rfl,p⟩
theorem vC (h:iU (.error er)=(z,e)):0=z/\er=e:=by
 simp only[iU,cQ] at h;exact h
theorem e4X (l:List aQ)(q:Qu)(s:ByteArray)(w:World)(B:Nat)(lv v0 v1 v2 v3 v4 v5:Value)(z er:Int)(hB:B<=w.heap.size)(hp:kQ w B lv l)(hq:Qm w B q v0 v1 v2 v3 v4 v5)(hr:iU (prt l q s)=(z,er)) :
  Calls prog 37 #[lv,.agg #[v0,v1,v2,v3,v4,v5],.string s] w fun e w'=>e=.returned (.tuple #[int i64 z,int i64 er])/\xQ w w':=by
 have HP:Hid (kQ w B lv l):=hp;have HQ:Hid (Qm w B q v0 v1 v2 v3 v4 v5):=hq;have HR:Hid (iU (prt l q s)=(z,er)):=hr;obtain⟨b1,b2,G,S,H⟩:∃ b1 b2 G S,jU (typ l q)=((b1,b2,G),S):=⟨_,_,_,_,rfl⟩;obtain⟨la,lc,rfl,b8,bb⟩:=hp.slice;obtain⟨O,L,P,N,I,h,M,J,Q,kp,rfl,rfl,rfl,rfl,rfl,rfl⟩:=hq.shape;have p:=ba w (.cells #[int i64 O,.string L,int i64 P,int i64 N,.slice I h M,.slice J Q kp] 53);have X:Hid (Bx (w.alloc (.cells #[int i64 O,.string L,int i64 P,int i64 N,.slice I h M,.slice J Q kp] 53)) w.heap.size (int i64 O) (.string L) (int i64 P) (int i64 N) (.slice I h M) (.slice J Q kp)):=Bx.new _ _ rfl _ _ _ _ _ _;have k1:=akZ l q _ B _ _ _ _ _ _ _ b1 b2 G S (bQ hB p.size) (hp.at hB p) (hq.at hB p) H;have V:Hid (jU (typ l q)=((b1,b2,G),S)):=H;clear hp hq hr H;go_enter func37,ntmps37;go_wp2_with fail;refine k1.mono ?_;rintro e w1 ⟨rfl,a6⟩;clear k1;have g:Below (w.alloc (.cells #[int i64 O,.string L,int i64 P,int i64 N,.slice I h M,.slice J Q kp] 53)).heap.size (w.alloc (.cells #[int i64 O,.string L,int i64 P,int i64 N,.slice I h M,.slice J Q kp] 53)) (w1.alloc (.cells #[int i64 b1,int i64 b2,int i64 G] 131)):=bal a6 _;have D:xQ w (w1.alloc (.cells #[int i64 b1,int i64 b2,int i64 G] 131)):=bt p g;have T:Hid (Bx (w1.alloc (.cells #[int i64 b1,int i64 b2,int i64 G] 131)) w.heap.size (int i64 O) (.string L) (int i64 P) (int i64 N) (.slice I h M) (.slice J Q kp)):=X.out.at g;clear p a6 g X;have aj:=D.size;rcases b1X V.out (fun e he=>b1Z he) with⟨rfl,R⟩|⟨ak,R⟩
 ·have E:Hid (iU (match fnd l s with
   | none=>.error 7
   | some i=>match onl s q with
    | none=>.error 6
    | some v=>if 0<=v/\v<pV l i then .ok v else .error 6)=(z,er)):=by have:=HR.out;rw[prt,R] at this;exact this
  have ag:Hid (Wq q):=bvZ q _ _ (gB R).2;clear R HR V;obtain⟨Y,y⟩:∃ Y,eF l s=Y:=⟨_,rfl⟩;have k2:=iL B _ l s _ (bQ hB aj) (HP.out.at hB D) Y y;go_wp2_with fail;refine k2.mono ?_;rintro e w2 ⟨rfl,g⟩;clear k2;have j:=bt D g;have a:Hid (Bx w2 w.heap.size (int i64 O) (.string L) (int i64 P) (int i64 N) (.slice I h M) (.slice J Q kp)):=T.out.at g;clear g T;have bf:=j.size;cases hf:fnd l s with
  | none =>
   obtain rfl:-1=Y:=by rw[<-y,lM hf]
   have A:=E.out;rw[hf] at A;obtain⟨rfl,rfl⟩:=vC A;clear A hf y;go_wp2;exact eQ (v:=.tuple #[int i64 0,int i64 7]) (by simp[results,results37,go_sem]) rfl ⟨rfl,j⟩
  | some i =>
   obtain rfl:(i:Int)=Y:=by rw[<-y,zI hf]
   have U:Hid (iU (match onl s q with
    | none=>.error 6
    | some v=>if 0<=v/\v<pV l i then .ok v else .error 6)=(z,er)):=by have:=E.out;rw[hf] at this;exact this
   have ai:=iD hf;clear E hf y;obtain⟨v,A⟩:∃ v,lvs s q=v:=⟨_,rfl⟩;have k3:=e4Q s q w2 B _ _ _ _ _ _ v (by omega) (HQ.out.at hB j) ag.out A;have HV:Hid (nn (onl s q)=v):=by rw[<-e3Z];exact A
   clear A;have m0:=a.out.a0.c;have m1:=a.out.a1.c;have m2:=a.out.a2.c;have m3:=a.out.a3.c;have m4:=a.out.a4.c;have m5:=a.out.a5.c;go_wp2_with fail;refine k3.mono ?_;rintro e w3 ⟨rfl,ah⟩;clear k3 m0 m1 m2 m3 m4 m5;have k:=bt j ah;obtain⟨b,o,nm,sz,rfl,hb,a7,c1,c2,hn⟩:=HP.out.get hB k ai;have a8:pV l i=sz:=by simp[pV,a7]
   have F:Hid (if 0<=v/\v<sz then z=v/\er=0 else z=0/\er=6):=by
    have m:=U.out;have C:=HV.out;rw[a8] at m
    show if _ then _ else _
    cases ho:onl s q with
    | none =>
     rw[ho] at m C;simp only[nn] at C;obtain⟨Z,h4⟩:=vC m;rw[zQ (by omega)];exact⟨Z.symm,h4.symm⟩
    | some u =>
     rw[ho] at m C;simp only[nn] at C;simp only at m;by_cases hu:0<=u/\u<sz
     ·rw[jQ hu] at m
      simp only[iU,cQ] at m;rw[zQ (by omega)] at C;subst C;rw[jQ hu];exact⟨m.1.symm,m.2.symm⟩
     ·rw[zQ hu] at m
      obtain⟨Z,h4⟩:=vC m;split at C
      ·rw[zQ (by omega)];exact⟨Z.symm,h4.symm⟩
      ·subst C;rw[zQ hu];exact⟨Z.symm,h4.symm⟩
   clear a7 a8 U HV;by_cases m:v<0
   ·obtain⟨rfl,rfl⟩:z=0/\er=6:=by have:=F.out;rwa [zQ (by omega)] at this
    go_wp2;exact eQ (v:=.tuple #[int i64 0,int i64 6]) (by simp[results,results37,go_sem]) rfl ⟨rfl,k⟩
   ·by_cases C:sz<=v
    ·obtain⟨rfl,rfl⟩:z=0/\er=6:=by have:=F.out;rwa [zQ (by omega)] at this
     go_wp2;exact eQ (v:=.tuple #[int i64 0,int i64 6]) (by simp[results,results37,go_sem]) rfl ⟨rfl,k⟩
    ·obtain⟨rfl,rfl⟩:z=v/\er=0:=by have:=F.out;rwa [jQ (by omega)] at this
     have Z:decide (sz<=z)=false:=lZ C;go_wp2;exact eQ (v:=.tuple #[int i64 z,int i64 0]) (by simp[results,results37,go_sem]) rfl ⟨rfl,k⟩
 ·have A:=HR.out
  rw[prt,R] at A;obtain⟨rfl,rfl⟩:=vC A;clear A R;have bc:(S != 0)=true:=by simpa using ak
  go_wp2;exact eQ (v:=.tuple #[int i64 0,int i64 S]) (by simp[results,results37,go_sem]) rfl ⟨rfl,D⟩
end K
section
open Go.RowKit Ds
open K (Cl)
open K.P (HSt Keeps xX lX vZ jZ gZ Ev Sn oA tZ TwoB FivB Stt stv mD eR wl fH aK bK yX cK jO tX iY dR sZ cZ qV ev)
attribute [local go_sem] bL
structure AkM (w W:World) (s:HSt) (dv nv cv tv:Value) (qs:List Value):Prop where
 b:xQ w W
 st:FivB W w.heap.size dv (int i64 s.left) (.bool s.up) (.bool s.brk) nv
 tb:TwoB W (w.heap.size+1) cv tv
 qu:Bx W (w.heap.size+1+1) qs
 rs:FivB W (w.heap.size+1+1+1) (.slice none 0 0) (int i64 0) (.bool false) (.bool false) (.slice none 0 0)
 rt:Bx W (w.heap.size+1+1+1+1) [.slice none 0 0,int i64 0,int i64 0,int i64 0]
theorem AkM.at {W':World}{s:HSt}{dv:Value}(h:AkM w W s dv nv cv tv qs)(a:xQ W W'):AkM w W' s dv nv cv tv qs:=⟨bt h.b a,h.st.below a,h.tb.below a,h.qu.at a,h.rs.below a,h.rt.at a⟩
theorem AkM.lt {s:HSt}{dv:Value}(h:AkM w W s dv nv cv tv qs):w.heap.size+1+1+1+1<W.heap.size:=(h.rt 0 _ rfl).lt
theorem AkM.fin {s:HSt}{dv:Value}(h:AkM w W s dv nv cv tv qs)(a0 a1 a2 a3 a4 t0 t1 t2 t3:Value) :
  FivB (((((((((W.setCell ⟨w.heap.size+1+1+1,0,none⟩ a0).setCell ⟨w.heap.size+1+1+1,1,none⟩ a1).setCell ⟨w.heap.size+1+1+1,2,none⟩ a2).setCell ⟨w.heap.size+1+1+1,3,none⟩ a3).setCell ⟨w.heap.size+1+1+1,4,none⟩ a4).setCell ⟨w.heap.size+1+1+1+1,0,none⟩ t0).setCell ⟨w.heap.size+1+1+1+1,1,none⟩ t1).setCell ⟨w.heap.size+1+1+1+1,2,none⟩ t2).setCell ⟨w.heap.size+1+1+1+1,3,none⟩ t3) (w.heap.size+1+1+1) a0 a1 a2 a3 a4 /\
  Bx (((((((((W.setCell ⟨w.heap.size+1+1+1,0,none⟩ a0).setCell ⟨w.heap.size+1+1+1,1,none⟩ a1).setCell ⟨w.heap.size+1+1+1,2,none⟩ a2).setCell ⟨w.heap.size+1+1+1,3,none⟩ a3).setCell ⟨w.heap.size+1+1+1,4,none⟩ a4).setCell ⟨w.heap.size+1+1+1+1,0,none⟩ t0).setCell ⟨w.heap.size+1+1+1+1,1,none⟩ t1).setCell ⟨w.heap.size+1+1+1+1,2,none⟩ t2).setCell ⟨w.heap.size+1+1+1+1,3,none⟩ t3) (w.heap.size+1+1+1+1) [t0,t1,t2,t3] /\
  Keeps W (((((((((W.setCell ⟨w.heap.size+1+1+1,0,none⟩ a0).setCell ⟨w.heap.size+1+1+1,1,none⟩ a1).setCell ⟨w.heap.size+1+1+1,2,none⟩ a2).setCell ⟨w.heap.size+1+1+1,3,none⟩ a3).setCell ⟨w.heap.size+1+1+1,4,none⟩ a4).setCell ⟨w.heap.size+1+1+1+1,0,none⟩ t0).setCell ⟨w.heap.size+1+1+1+1,1,none⟩ t1).setCell ⟨w.heap.size+1+1+1+1,2,none⟩ t2).setCell ⟨w.heap.size+1+1+1+1,3,none⟩ t3) (fun k=>k=w.heap.size+1+1+1\/k=w.heap.size+1+1+1+1) /\
  xQ w (((((((((W.setCell ⟨w.heap.size+1+1+1,0,none⟩ a0).setCell ⟨w.heap.size+1+1+1,1,none⟩ a1).setCell ⟨w.heap.size+1+1+1,2,none⟩ a2).setCell ⟨w.heap.size+1+1+1,3,none⟩ a3).setCell ⟨w.heap.size+1+1+1,4,none⟩ a4).setCell ⟨w.heap.size+1+1+1+1,0,none⟩ t0).setCell ⟨w.heap.size+1+1+1+1,1,none⟩ t1).setCell ⟨w.heap.size+1+1+1+1,2,none⟩ t2).setCell ⟨w.heap.size+1+1+1+1,3,none⟩ t3):=by
 refine⟨((((fH h.rs a0 a1 a2 a3 a4).ot (by omega) _).ot (by omega) _).ot (by omega) _).ot (by omega) _,?_,?_,?_⟩
 ·exact((((((((h.rt.oth (by omega) _).oth (by omega) _).oth (by omega) _).oth (by omega) _).oth (by omega) _).set (i:=0) (by simp) t0).set (i:=1) (by simp) t1).set (i:=2) (by simp) t2).set (i:=3) (by simp) t3
 ·exact lX (lX (lX (lX (bK (vZ W _) (.inl rfl) a0 a1 a2 a3 a4) (p:=⟨_,0,none⟩) (.inl (.inr rfl)) _) (p:=⟨_,1,none⟩) (.inl (.inr rfl)) _) (p:=⟨_,2,none⟩) (.inl (.inr rfl)) _) (p:=⟨_,3,none⟩) (.inl (.inr rfl)) _
 ·exact bs (bs (bs (bs (aK h.b (by omega) a0 a1 a2 a3 a4) (by dsimp only;omega) _) (by dsimp only;omega) _) (by dsimp only;omega) _) (by dsimp only;omega) _
theorem b2Z {α:Type}{s s':HSt}{pre:Int}{e:K.P.En}{tl t2:Option α}(i:s.up=true)(g:s.brk=false)(h:gZ 0 s (.ask pre e tl)=(s',⟨er,t2,[]⟩))(a:pre≠0):s' = s/\er=pre:=by
 simp only[gZ] at h;rw[zQ (by simp[i]),zQ (by simp[g]),jQ a] at h;simp only[cQ,Sn.mk.injEq] at h;exact⟨h.1.symm,h.2.1.symm⟩
theorem e5J {α:Type}{s s':HSt}{e:K.P.En}{tl t2:Option α}(g:s.up=true)(a:s.brk=false)(h:gZ 0 s (.ask 0 e tl)=(s',⟨er,t2,[]⟩)):s' = (jZ s e).1/\(((jZ s e).2≠0/\er=(jZ s e).2)\/(jZ s e).2=0/\((tl=none/\er=6)\/∃ t,tl=some t/\er=0)):=by
 simp only[gZ] at h;rw[zQ (by simp[g]),zQ (by simp[a]),zQ (by simp)] at h;by_cases c:(jZ s e).2=0
 ·rw[zQ (by simpa using c)] at h
  cases tl with
  | none=>simp only[cQ,Sn.mk.injEq] at h;exact⟨h.1.symm,.inr ⟨c,.inl ⟨rfl,h.2.1.symm⟩⟩⟩
  | some t=>simp only[cQ,Sn.mk.injEq] at h;exact⟨h.1.symm,.inr ⟨c,.inr ⟨t,rfl,h.2.1.symm⟩⟩⟩
 ·rw[jQ c] at h
  simp only[cQ,Sn.mk.injEq] at h;exact⟨h.1.symm,.inl ⟨c,h.2.1.symm⟩⟩
def b2J (dv nv:Value) (s':HSt) (er:Int) (tl:Option (List Int × Nat)) (lu ld:Int) (w:World) (e:Ending) (w':World):Prop :=
 ∃ dv' nv' vv us p q,e=.returned (.tuple #[stv s' dv' nv',.agg #[vv,int i64 us,int i64 p,int i64 q],int i64 er])/\Stt w' s' dv' nv'/\xQ w w'/\(∀ N:Nat->Prop,(∀ m,N m->m<w.heap.size)->yX N dv->yX N nv->yX N dv'/\yX N nv') /\
  ((er≠0/\vv=.slice none 0 0/\us=0/\p=0/\q=0)\/(er=0/\∃ vs n,tl=some (vs,n)/\us=((n:Nat):Int)/\p=lu/\q=ld/\w'.ownsRow w.heap.size 3 1 vv (vs:List Int).length (wl vs)))
theorem AkM.sto {s s1:HSt}{dv dv' nv':Value}(h:AkM w W s dv nv cv tv qs) :
  AkM w (((((W.setCell ⟨w.heap.size,0,none⟩ dv').setCell ⟨w.heap.size,1,none⟩ (int i64 s1.left)).setCell ⟨w.heap.size,2,none⟩ (.bool s1.up)).setCell ⟨w.heap.size,3,none⟩ (.bool s1.brk)).setCell ⟨w.heap.size,4,none⟩ nv') s1 dv' nv' cv tv qs:=by
 have two:∀ {X:World} {a b:Value} (k:Nat) (x:Value),TwoB X (w.heap.size+1) a b->TwoB (X.setCell ⟨w.heap.size,k,none⟩ x) (w.heap.size+1) a b:=fun k x h=>h.gb (fL _ _ k x) (by simp);refine⟨aK h.b (vQ _) _ _ _ _ _,fH h.st _ _ _ _ _,two _ _ (two _ _ (two _ _ (two _ _ (two _ _ h.tb)))),?_,?_,?_⟩
 ·exact((((h.qu.oth (by omega) _).oth (by omega) _).oth (by omega) _).oth (by omega) _).oth (by omega) _
 ·exact((((h.rs.ot (by omega) _).ot (by omega) _).ot (by omega) _).ot (by omega) _).ot (by omega) _
 ·exact((((h.rt.oth (by omega) _).oth (by omega) _).oth (by omega) _).oth (by omega) _).oth (by omega) _
theorem e6Q (l:o.guard=none)(k:o.dst=some d)(a:d∈D)(m:T.filter (fun t=>t.1 == i)=[(i,d,v)])(hc:(T.all fun t=>(t.1 == i) == (t.2.1 == d))=true)
  (g:∀ L u w,(∀ j∈deps o,L j=true)->X L u w->X (fun j=>decide (i=j) || L j) (upd u d v) w) (h:∀ L u w,L i=false->(∀ j∈deps o,L j=true)->vV T L u->X L u w->(execOp (ov a0 D u).eval o).run P w=.ok (.value v) w):aL P Q a0 D (fun L u w=>vV T L u/\X L u w) i o :=
 ⟨l,fun L u w h1 h2 ⟨hT,hx⟩=>by
  unfold Oper.wp;rw[h L u w h1 h2 hT hx,Oper.upon_value,k];exact lT (R:=fun u w=>vV T _ u/\X _ u w) a ⟨hT.put hc (fun t ht e=>by have:t∈T.filter (fun t=>t.1 == i):=bI.2 ⟨ht,by simp[e]⟩;rw[m] at this;simp at this;rw[this]),g L u w h2 hx⟩⟩
theorem e6X {l:List Pt}(h:fU l=(l,0))(a:kY bits=false)(i:bits.length<=65536):bH l bits 1=(iG (cV l) 1 bits,0):=by
 have g:xU bits 1=0:=by unfold xU;rw[zQ (by omega),zQ (by simp[a])]
 unfold bH cF;rw[h,g];simp
theorem e6Z:(prog.info? 3).map (fun i=>(i.zero,i.size,i.bytes))=some (some (int i64 0),1,8):=by kernel_rfl
theorem e6J {B nb us:Nat}(i:yQ wr B nb (.slice a bits.length c) bits)(D:a=none->c=0)(m:us<=bits.length):yQ wr B nb (.slice (if c=us then a else a.map (fun p=>p.add us)) (bits.length - us) (c - us)) (bits.drop us):=by
 cases a with
 | none =>
  have k:=D rfl;obtain⟨z,A,g,l,_⟩:=id i;simp only[yZ] at g;obtain rfl:us=0:=by omega
  rw[jQ k,nL];exact i
 | some p =>
  obtain⟨z,A,g,l,C,o⟩:=id i;cases g;by_cases y:bits=[]
  ·subst y
   rw[List.drop_nil];exact⟨_,_,by rw[List.length_nil,Nat.zero_sub],by simp,by simp,fun h=>absurd rfl h⟩
  ·obtain⟨b',E,j,_⟩:=o y
   cases j;have v:=i.drop2 us m;rw[pF] at v;rw[Option.map_some,bJ];exact v
theorem AkM.no {s:HSt}{dv dv0 nv0:Value}(h:AkM w W s dv nv cv tv qs)(o:Stt W s dv nv)(l:∀ N:Nat->Prop,(∀ m,N m->m<w.heap.size)->yX N dv0->yX N nv0->yX N dv/\yX N nv)(a:yX (fun k=>k=w.heap.size+1+1+1\/k=w.heap.size+1+1+1+1) dv/\yX (fun k=>k=w.heap.size+1+1+1\/k=w.heap.size+1+1+1+1) nv)(y:Option (List Int × Nat))(v p er:Int)(j:er≠0) :
  b2J dv0 nv0 s er y v p w (.returned (.tuple #[stv s dv nv,aD,int i64 er])) (((((((((W.setCell ⟨w.heap.size+1+1+1,0,none⟩ dv).setCell ⟨w.heap.size+1+1+1,1,none⟩ (int i64 s.left)).setCell ⟨w.heap.size+1+1+1,2,none⟩ (.bool s.up)).setCell ⟨w.heap.size+1+1+1,3,none⟩ (.bool s.brk)).setCell ⟨w.heap.size+1+1+1,4,none⟩ nv).setCell ⟨w.heap.size+1+1+1+1,0,none⟩ (.slice none 0 0)).setCell ⟨w.heap.size+1+1+1+1,1,none⟩ (int i64 0)).setCell ⟨w.heap.size+1+1+1+1,2,none⟩ (int i64 0)).setCell ⟨w.heap.size+1+1+1+1,3,none⟩ (int i64 0)):=by
 obtain⟨_,_,i,g⟩:=h.fin dv (int i64 s.left) (.bool s.up) (.bool s.brk) nv (.slice none 0 0) (int i64 0) (int i64 0) (int i64 0);exact⟨dv,nv,_,_,_,_,rfl,o.kp i a.1 a.2,g,l,.inl ⟨j,rfl,rfl,rfl,rfl⟩⟩
