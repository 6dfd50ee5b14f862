import Derived.Test.YtcaplmodgbpchaaGreatDoorQq23
import Derived.Deep.SlicePairs
import Derived.Deep.Slices
import Derived.ProofKit
import Derived.OpenShut
import Derived.Lib.SmallJoins
import Derived.Carry
open Go.Proofs.Tryz
open Go.Value(int)
open Go.IntKind(i64)
set_option linter.unusedSimpArgs false
set_option maxHeartbeats 16000000
set_option maxRecDepth 100000
namespace Go.Proofs.YtcaplmodgbpchaaGreatDoor
variable {W w:World} {B i n:Nat} {c s:ByteArray} {e k:Int} {a:Addr} {V v:Value}
namespace K
open Go.RowKit K.Ds
theorem Qm.ne {q:Qu}{v0 v1 v2 v3 v4 v5:Value}(h:Qm w B q v0 v1 v2 v3 v4 v5):q≠.none:=by rintro rfl;exact h
theorem brJ (a:Nat)(lo hi:Int):stp 1 a lo hi=stp 1 0 0 0:=funext fun r=>by simp[stp]
theorem bsQ (a:Nat)(lo hi:Int):stp 3 a lo hi=stp 3 a 0 0:=funext fun r=>by simp[stp]
theorem eaX {l:List aQ}(hs:cG l){ts:List Rw}(F:ts.length<=4096)(Y:∀ r∈rr ts,zV l r)(q:Qu):∀ (E:Nat) (w:World) (B:Nat) (cv rv v0 v1 v2 v3 G v5:Value) (b:dX),B<=w.heap.size->kQ w B cv l->nQ w B rv ts->Qm w B q v0 v1 v2 v3 G v5->bnd l E q=.ok b ->
  Calls prog 91 #[.agg #[cv,rv],.agg #[v0,v1,v2,v3,G,v5]] w (eZ w (ans l (rr ts) q)):=by
 have a7:(rr ts).length<=4096:=by rw[sA];exact F
 induction q with
 | none=>intro E w B cv rv v0 v1 v2 v3 G v5 b _ _ _ h;exact h.elim
 | node k c lo hi wh n x y ihx ihy =>
  rintro E w B cv rv _ _ _ _ G _ b hB A C ⟨rfl,rfl,rfl,rfl,hc,N,a,cap,rfl,hn,hm,V⟩ hb;obtain⟨D,⟨x1,x2,x3⟩,⟨y1,y2,y3⟩,ag,ah,g,al⟩:=uB hb;have Q:1<=n->bnd l (E+1) x=.ok (x1,x2,x3):=fun h=>by rwa [wJ,jQ h] at ag
  have gy:2<=n->bnd l (E+1) y=.ok (y1,y2,y3):=fun h=>by rwa [wJ,jQ h] at ah
  have T:1<=n->x≠.none->((ans l (rr ts) x).length:Int)=x1/\xZ 1099511627776 (ans l (rr ts) x)/\mX (x1,x2,x3):=fun h hx=>by
   have R:=eO hs a7 x _ _ (Q h) hx;have U:=yL hs x _ _ (Q h);exact⟨R.1,R.2.mono U.2.2.2.2.2,U⟩
  have fy:2<=n->y≠.none->((ans l (rr ts) y).length:Int)=y1/\xZ 1099511627776 (ans l (rr ts) y)/\mX (y1,y2,y3):=fun h hy=>by
   have R:=eO hs a7 y _ _ (gy h) hy;have U:=yL hs y _ _ (gy h);exact⟨R.1,R.2.mono U.2.2.2.2.2,U⟩
  have X:∃ a' n' cc,Value.slice a n cap=.slice a' n' cc:=⟨_,_,_,rfl⟩;have ai:¬ tQ k<0:=by omega
  rcases cO ai with rfl|rfl|rfl|rfl|rfl|rfl|rfl|rfl|rfl|rfl
  ·simp[rec] at g
   obtain⟨L,_⟩:=iF g;rw[vK _ _ _ _ _ _ _ _ _ (by simp),brJ];exact d7J c lo hi cv rv G _ w B l ts wh hB A C N F Y X L
  ·simp[rec] at g
   split at g
   ·rename_i hf
    split at g
    ·rename_i hwr
     obtain⟨L,_⟩:=iF g;obtain⟨O,H⟩:=Option.isSome_iff_exists.1 hf;rw[vK _ _ _ _ _ _ _ _ _ (by simp),H];exact d8Q c lo hi cv rv G _ w B l ts wh hB A C N F Y X L O H hwr
    ·cases g
   ·cases g
  ·simp[rec] at g
   split at g
   ·rename_i O H
    obtain⟨L,_⟩:=iF g;have ao:=eP hs H;rw[vK _ _ _ _ _ _ _ _ _ (by simp),H,bsQ];exact d8X c lo hi cv rv G _ w B l ts wh hB A C N F Y X L O H (pV l O).toNat (by omega) (by omega)
   ·cases g
  ·have p:n=2:=by simp[tQ] at D;omega
   subst p;obtain⟨b',o,rfl,m,⟨u0,u1,u2,u3,u4,u5,I,j⟩,M⟩:=V (by decide) (by decide);obtain⟨z0,z1,z2,z3,z4,z5,S,v⟩:=M (by decide);obtain⟨Z,J,_⟩:=T (by decide) j.ne;obtain⟨ly,P,_⟩:=fy (by decide) v.ne;simp[rec] at g;split at g
   ·rename_i he
    rw[aaJ];exact d8Z c lo hi cv rv G b' o cap w B l ts wh hB A C N m x u0 u1 u2 u3 u4 u5 I j _ (fun W hW=>ihx (E+1) W B cv rv _ _ _ _ _ _ _ (bQ hB hW.size) (A.at hB hW) (C.at hB hW) (j.at hB hW) (Q (by decide))) y z0 z1 z2 z3 z4 z5 S v _ (fun W hW=>ihy (E+1) W B cv rv _ _ _ _ _ _ _ (bQ hB hW.size) (A.at hB hW) (C.at hB hW) (v.at hB hW) (gy (by decide))) J P (by omega)
   ·cases g
  ·have p:n=2:=by simp[tQ] at D;omega
   subst p;obtain⟨b',o,rfl,m,⟨u0,u1,u2,u3,u4,u5,I,j⟩,M⟩:=V (by decide) (by decide);obtain⟨z0,z1,z2,z3,z4,z5,S,v⟩:=M (by decide);obtain⟨Z,J,_⟩:=T (by decide) j.ne;obtain⟨ly,P,_⟩:=fy (by decide) v.ne;simp[rec] at g;split at g
   ·rename_i he
    rw[abQ];exact d8J c lo hi cv rv G b' o cap w B l ts wh hB A C N m x u0 u1 u2 u3 u4 u5 I j _ (fun W hW=>ihx (E+1) W B cv rv _ _ _ _ _ _ _ (bQ hB hW.size) (A.at hB hW) (C.at hB hW) (j.at hB hW) (Q (by decide))) y z0 z1 z2 z3 z4 z5 S v _ (fun W hW=>ihy (E+1) W B cv rv _ _ _ _ _ _ _ (bQ hB hW.size) (A.at hB hW) (C.at hB hW) (v.at hB hW) (gy (by decide))) J P (by omega)
   ·cases g
  ·have p:n=1:=by simp[tQ] at D;omega
   subst p;obtain⟨b',o,rfl,m,⟨u0,u1,u2,u3,u4,u5,I,j⟩,_⟩:=V (by decide) (by decide);obtain⟨Z,J,_⟩:=T (by decide) j.ne;simp[rec] at g;split at g
   ·rename_i hwr
    simp only[wZ,dJ] at hwr;rw[abX];exact d9Q c lo hi cv rv G b' o cap w B l ts wh hB A C N m x u0 u1 u2 u3 u4 u5 I j _ (fun W hW=>ihx (E+1) W B cv rv _ _ _ _ _ _ _ (bQ hB hW.size) (A.at hB hW) (C.at hB hW) (j.at hB hW) (Q (by decide))) J ⟨hwr.1,hwr.2.2⟩
   ·cases g
  ·have p:n=2:=by simp[tQ] at D;omega
   subst p;obtain⟨b',o,rfl,m,⟨u0,u1,u2,u3,u4,u5,I,j⟩,M⟩:=V (by decide) (by decide);obtain⟨z0,z1,z2,z3,z4,z5,S,v⟩:=M (by decide);obtain⟨Z,J,ox⟩:=T (by decide) j.ne;obtain⟨ly,P,oy⟩:=fy (by decide) v.ne;have R:=ox.2.1;have U:=oy.2.1;simp only at R U;rw[abZ];exact d9X c lo hi cv rv G b' o cap w B l ts wh hB A C N m x u0 u1 u2 u3 u4 u5 I j _ (fun W hW=>ihx (E+1) W B cv rv _ _ _ _ _ _ _ (bQ hB hW.size) (A.at hB hW) (C.at hB hW) (j.at hB hW) (Q (by decide))) y z0 z1 z2 z3 z4 z5 S v _ (fun W hW=>ihy (E+1) W B cv rv _ _ _ _ _ _ _ (bQ hB hW.size) (A.at hB hW) (C.at hB hW) (v.at hB hW) (gy (by decide))) (by omega)
  ·have p:n=1:=by simp[tQ] at D;omega
   subst p;obtain⟨b',o,rfl,m,⟨u0,u1,u2,u3,u4,u5,I,j⟩,_⟩:=V (by decide) (by decide);obtain⟨Z,J,ox⟩:=T (by decide) j.ne;have R:=ox.2.1;simp only at R;rw[abJ];exact d9Z c lo hi cv rv G b' o cap w B l ts wh hB A C N m x u0 u1 u2 u3 u4 u5 I j _ (fun W hW=>ihx (E+1) W B cv rv _ _ _ _ _ _ _ (bQ hB hW.size) (A.at hB hW) (C.at hB hW) (j.at hB hW) (Q (by decide))) J (by omega)
  ·have p:n=1:=by simp[tQ] at D;omega
   subst p;obtain⟨b',o,rfl,m,⟨u0,u1,u2,u3,u4,u5,I,j⟩,_⟩:=V (by decide) (by decide);obtain⟨Z,J,_⟩:=T (by decide) j.ne;simp[rec] at g;split at g
   ·rename_i hlo
    obtain⟨z,S⟩:=fX (l:=ans l (rr ts) x) (i:=lo.toNat) (by omega);rw[acQ,List.getD,S];exact d9J c lo hi cv rv G b' o cap w B l ts wh hB A C N m x u0 u1 u2 u3 u4 u5 I j _ (fun W hW=>ihx (E+1) W B cv rv _ _ _ _ _ _ _ (bQ hB hW.size) (A.at hB hW) (C.at hB hW) (j.at hB hW) (Q (by decide))) lo.toNat z (by omega) S
   ·cases g
  ·have p:n=1:=by simp[tQ] at D;omega
   subst p;obtain⟨b',o,rfl,m,⟨u0,u1,u2,u3,u4,u5,I,j⟩,_⟩:=V (by decide) (by decide);obtain⟨Z,J,_⟩:=T (by decide) j.ne;simp[rec] at g;split at g
   ·rename_i hwr
    simp only[wZ,dJ] at hwr;rw[acX];exact eaQ c lo hi cv rv G b' o cap w B l ts wh hB A C N m x u0 u1 u2 u3 u4 u5 I j _ (fun W hW=>ihx (E+1) W B cv rv _ _ _ _ _ _ _ (bQ hB hW.size) (A.at hB hW) (C.at hB hW) (j.at hB hW) (Q (by decide))) J hwr.2.1
   ·cases g
def lV (l:List aQ) (rs:List (List Int)) (q:Qu):Except Int (List Int) :=
 if fV l rs=0 then (match bnd l 1 q with | .ok _=>.ok (ans l rs q) | .error e=>.error e) else .error (fV l rs)
def bsX (w:World):Except Int (List Int)->Ending->World->Prop
 | .ok xs,e,w'=>eZ w xs e w'
 | .error c,e,w'=>e=.panicked (chn c)/\xQ w w'
theorem eaZ (l:List aQ)(ts:List Rw)(q:Qu)(w:World)(B T N:Nat)(cv rv v0 v1 v2 v3 v4 v5:Value)(r:Except Int (List Int))(hB:B<=w.heap.size)(L:kQ w B cv l)(m:nQ w B rv ts)(V:Qm w B q v0 v1 v2 v3 v4 v5)(hr:lV l (rr ts) q=r)(v:Cl w T 0 cv)(h:Cl w T 1 rv)(hN:Bx w N v0 v1 v2 v3 v4 v5) :
  Calls prog 88 #[.pointer (some ⟨T,0,none⟩),.pointer (some ⟨N,0,none⟩)] w (bsX w r):=by
 have HP:=qQ L;have Q:=qQ m;have HQ:=qQ V;have J:=qQ hr;obtain⟨la,lc,rfl,_⟩:=L.slice;obtain⟨ra,rc,rfl,_⟩:=m.slice;obtain⟨kk,kc,kl,kh,ka,ay,kd,kb,km,kp,rfl,rfl,rfl,rfl,rfl,rfl⟩:=V.shape;have R:Hid (Cl w T 0 (.slice la l.length lc)/\Cl w T 1 (.slice ra ts.length rc)):=⟨v,h⟩;have HN:=qQ hN;obtain⟨D,y⟩:∃ D,fV l (rr ts)=D:=⟨_,rfl⟩;have k1:=rK B _ _ l ts w hB L m D y;have k:=qQ y;have M:=v.c;have O:=h.c;clear L m V hr v h hN y;go_enter func88,ntmps88;go_wp2_with fail;refine k1.mono ?_;rintro e Z ⟨rfl,j⟩;clear k1 M O;have aw:=j.size;by_cases E:D=0
 ·subst E
  obtain⟨G,H,I⟩:=xM k.out;have A:cG l:=(nI G).2.2.1;obtain⟨P,z⟩:∃ P,bnd l 1 q=P:=⟨_,rfl⟩;have k2:=brQ l A q 1 Z B (.slice la l.length lc) _ _ _ _ _ _ P (by decide) (by omega) (HP.out.at hB j) (HQ.out.at hB j) z;have p:=qQ z;have o:Hid (cG l/\ts.length<=4096/\∀ r∈rr ts,zV l r):=⟨A,by rw[<-sA];exact H,I⟩;clear z A G H I;have h:=R.out.1.at j;have a:=HN.out.at j;have M:=a.a0.c;have O:=a.a1.c;have m2:=a.a2.c;have m3:=a.a3.c;have m4:=a.a4.c;have m5:=a.a5.c;have m6:=h.c;clear h a;go_wp2_with fail;refine(a1X Z).mono ?_;rintro e w2 ⟨rfl,X⟩;subst X;go_wp2_with fail;refine k2.mono ?_;rintro e w3 ⟨E,S⟩;clear k2 M O m2 m3 m4 m5 m6;have i:=bt j S;have ax:=i.size;cases P with
  | error er =>
   obtain rfl:Except.error er=r:=by rw[<-J.out,lV,jQ k.out,p.out]
   obtain rfl:e=.panicked (chn er):=E;go_wp2;exact⟨rfl,rfl,i⟩
  | ok bb =>
   obtain⟨xs,C⟩:∃ xs,ans l (rr ts) q=xs:=⟨_,rfl⟩;obtain rfl:Except.ok xs=r:=by rw[<-J.out,lV,jQ k.out,p.out,C]
   obtain⟨b1,b2,b3⟩:=bb;obtain rfl:e=.returned (.agg #[int i64 b1,int i64 b2,int i64 b3]):=E;have Y:=eaX o.out.1 o.out.2.1 o.out.2.2 q 1 w3 B _ _ _ _ _ _ _ _ _ (by omega) (HP.out.at hB i) (Q.out.at hB i) (HQ.out.at hB i) p.out;have h:=R.out.1.at i;have F:=R.out.2.at i;have a:=HN.out.at i;have M:=a.a0.c;have O:=a.a1.c;have m2:=a.a2.c;have m3:=a.a3.c;have m4:=a.a4.c;have m5:=a.a5.c;have m6:=h.c;have m7:=F.c;clear h F a;rw[C] at Y;clear C J;go_wp2_with fail;refine Y.mono ?_;rintro e w4 ⟨g,c4,rfl,hA,U⟩;clear Y;go_wp2;go_ret;exact eZ.up ⟨g,c4,rfl,hA,U⟩ i
 ·obtain rfl:Except.error D=r:=by rw[<-J.out,lV,k.out,zQ E]
  go_wp2_with fail;refine(a1Z D E Z).mono ?_;rintro e w2 ⟨rfl,rfl⟩;go_wp2;exact⟨rfl,rfl,j⟩
def uY:Except Int (List Int)->List Int × Int
 | .error e=>([],e)
 | .ok xs=>(xs,0)
def adJ (w:World) (xs:List Int) (er:Int) (e:Ending) (w':World):Prop :=
 ∃ a c,e=.returned (.tuple #[.slice a xs.length c,int i64 er])/\yQ w' w'.heap.size w'.heap.size (.slice a xs.length c) xs/\xQ w w'
theorem eaJ (l:List aQ)(ts:List Rw)(q:Qu)(w:World)(B:Nat)(cv rv v0 v1 v2 v3 o p:Value)(G:List Int)(er:Int)(hB:B<=w.heap.size)(J:kQ w B cv l)(z:nQ w B rv ts)(L:Qm w B q v0 v1 v2 v3 o p)(y:uY (lV l (rr ts) q)=(G,er)) :
  Calls prog 50 #[.agg #[cv,rv],.agg #[v0,v1,v2,v3,o,p]] w (adJ w G er):=by
 have j:Below w.heap.size w ((w.alloc (.cells #[cv,rv] 25)).alloc (.cells #[v0,v1,v2,v3,o,p] 53)):=bal (ba _ _) _;have C:Cl ((w.alloc (.cells #[cv,rv] 25)).alloc (.cells #[v0,v1,v2,v3,o,p] 53)) w.heap.size 0 cv:=(Cl.new _ 25 _ _ rfl rfl).at (ba _ _);have D:Cl ((w.alloc (.cells #[cv,rv] 25)).alloc (.cells #[v0,v1,v2,v3,o,p] 53)) w.heap.size 1 rv:=(Cl.new _ 25 _ _ rfl rfl).at (ba _ _);have M:Bx ((w.alloc (.cells #[cv,rv] 25)).alloc (.cells #[v0,v1,v2,v3,o,p] 53)) (w.heap.size+1) v0 v1 v2 v3 o p:=Bx.new _ _ (by simp) _ _ _ _ _ _
 have N:Calls prog 87 #[.func (.func 88) #[] #[.pointer (some ⟨w.heap.size,0,none⟩),.pointer (some ⟨w.heap.size+1,0,none⟩)]] ((w.alloc (.cells #[cv,rv] 25)).alloc (.cells #[v0,v1,v2,v3,o,p] 53)) (adJ ((w.alloc (.cells #[cv,rv] 25)).alloc (.cells #[v0,v1,v2,v3,o,p] 53)) G er):=by
  generalize hW:((w.alloc (.cells #[cv,rv] 25)).alloc (.cells #[v0,v1,v2,v3,o,p] 53))=W at *
  have m:∀ r,lV l (rr ts) q=r->∀ W',Below W.heap.size W W'->W.heap.size+1<=W'.heap.size->Calls prog 88 #[.pointer (some ⟨w.heap.size,0,none⟩),.pointer (some ⟨w.heap.size+1,0,none⟩)] W' (bsX W' r):=by
   intro r y W' i U;have Q:=j.size;exact eaZ l ts q W' B _ _ cv rv v0 v1 v2 v3 o p r (by omega) ((J.at hB j).at (by omega) i) ((z.at hB j).at (by omega) i) ((L.at hB j).at (by omega) i) y (C.at i) (D.at i) (M.at i)
  cases ht:lV l (rr ts) q with
  | error e1 =>
   rw[ht] at y;simp only[uY,cQ] at y;obtain⟨rfl,rfl⟩:=y;refine(cyJ _ e1 W (m _ ht)).mono ?_;rintro e w' ⟨rfl,E⟩;exact⟨none,0,rfl,⟨none,0,rfl,vQ _,by simp,fun h=>absurd rfl h⟩,E⟩
  | ok ys =>
   rw[ht] at y;simp only[uY,cQ] at y;obtain⟨rfl,rfl⟩:=y;refine(cyZ _ (fun V w'=>∃ g c,V=.slice (some ⟨g,0,none⟩) ys.length c/\gQ w' (W.heap.size+1) g c ys) W fun W' h1 h2=>(m _ ht W' h1 h2).mono fun e w' h=>?_).mono ?_
   ·obtain⟨g,c,rfl,F,E⟩:=h
    exact⟨_,rfl,⟨g,c,rfl,F.mono h2⟩,E⟩
   ·rintro e w' ⟨V,O,rfl,⟨g,c,rfl,F⟩,E,rfl⟩
    have T:=F.lt;have A:=F.oth (b:=W.heap.size) (k:=0) (by omega) (int i64 0);refine⟨some ⟨g,0,none⟩,c,rfl,A.ints _ (Nat.ne_of_lt A.lt.2),bs E (vQ _) _⟩
 obtain⟨la,lc,rfl,_⟩:=J.slice;obtain⟨ra,rc,rfl,_⟩:=z.slice;obtain⟨kk,R,kl,kh,X,S,Z,Y,km,kp,rfl,rfl,rfl,rfl,rfl,rfl⟩:=L.shape;have hmf:=hmf;clear J L z y C D M;go_enter func50,ntmps50;go_wp2_with fail;refine N.mono ?_;rintro e O ⟨a,c,rfl,P,H⟩;clear N;have I:Below w.heap.size w O:=bt j H;go_wp2;exact eQ (v:=.tuple #[.slice a G.length c,int i64 er]) (by simp[results,results50,go_sem]) rfl ⟨a,c,rfl,P,I⟩
theorem ehJ (p:Nat)(x:Value)(e:Int)(w:World)(hc:Cl w p 0 x) :
  CallsD prog 160 #[.pointer (some ⟨p,0,none⟩)] (.panicking (chn e)) w fun r u' w' =>
   r=.returned (.tuple #[])/\u' = .panicking [{ v:=.iface 222 (.agg #[int i64 e]),recovered:=true }]/\w' = (w.alloc (.cells #[int i64 e] 222)).setCell ⟨p,0,none⟩ (int i64 e):=by
 refine jS func160 rfl fun c₀ cs hu=>?_;apply wpS_seq;apply wpS_region;simp[wpOpsS,go_sem,recoverD,hu,chn,ntmps160,Exit.thenS];refine wpS_of_wp ?_;change Code.wp prog _ _ { tmps:=#[.pointer (some ⟨p,0,none⟩),undef,undef,undef,.iface 222 (.agg #[int i64 e]),undef,undef,undef,undef,undef,undef,undef],defers:=[] } w;have ha:=uW;have h:=aW;have a:=(hc.at (ba w (.cells #[int i64 e] 222))).f;have g:=(hc.at (ba w (.cells #[int i64 e] 222))).c;go_wp2;exact⟨rfl,_,rfl,_,dN rfl _ _ _,rfl,rfl,rfl⟩
theorem eiQ (p:Addr)(w:World) :
  CallsD prog 160 #[.pointer (some p)] .returning w fun r u' w'=>r=.returned (.tuple #[])/\u' = .returning/\w' = w:=by
 refine jS func160 rfl fun c₀ cs hu=>?_;apply wpS_seq;apply wpS_region;simp[wpOpsS,go_sem,recoverD,hu,ntmps160,Exit.thenS];refine wpS_of_wp ?_;change Code.wp prog _ _ { tmps:=#[.pointer (some p),undef,undef,undef,.nilIface,undef,undef,undef,undef,undef,undef,undef],defers:=[] } w;go_wp2;exact⟨rfl,.returning,by rw[<-hu],_,dN rfl _ _ _,rfl,rfl,rfl⟩
theorem eiX (a:Array Value)(Q:Value->World->Prop)(w:World)(k:∀ W,xQ w W->w.heap.size+1<=W.heap.size->Calls prog 107 a W fun x w'=>∃ V,x=.returned V/\Q V w'/\xQ W w') :
  Calls prog 106 #[.func (.func 107) #[] a] w fun e w'=>∃ V h,e=.returned (.tuple #[V,int i64 0])/\Q V h/\xQ w h/\w' = h.setCell ⟨w.heap.size,0,none⟩ (int i64 0):=by
 have hmf:=hmf;go_enter_defers func106,ntmps106;have j:=k (w.alloc (.cells #[int i64 0] 34)) (ba _ _) (by simp);go_wp2_with fail;refine j.mono ?_;rintro e h ⟨V,rfl,l,g⟩;have a0:=(Cl.new (w:=w) #[int i64 0] 34 0 _ rfl rfl).at g;have i:xQ w h:=bt (ba _ _) g;have t0:=a0.c;have o:=a0.f;clear g j k;go_wp2;refine vS (f:=160) (args:=#[.pointer (some ⟨w.heap.size,0,none⟩)]) (by simp) (by simp[go_sem]) ?_;refine(eiQ _ _).mono ?_;rintro e p m ⟨rfl,rfl,rfl⟩;simp[Leaves,settle,results,results106,go_sem,t0];exact⟨_,l,i,rfl⟩
theorem eiZ (a:Array Value)(er:Int)(w:World)(k:∀ W,xQ w W->w.heap.size+1<=W.heap.size->Calls prog 107 a W fun x w'=>x=.panicked (chn er)/\xQ W w') :
  Calls prog 106 #[.func (.func 107) #[] a] w fun e w'=>e=.returned (.tuple #[int i64 0,int i64 er])/\xQ w w':=by
 have hmf:=hmf;go_enter_defers func106,ntmps106;have j:=k (w.alloc (.cells #[int i64 0] 34)) (ba _ _) (by simp);go_wp2_with fail;refine j.mono ?_;rintro e l ⟨rfl,g⟩;have a0:=(Cl.new (w:=w) #[int i64 0] 34 0 _ rfl rfl).at g;have h:xQ w l:=bt (ba _ _) g;clear g j k;go_wp2;refine vS (f:=160) (args:=#[.pointer (some ⟨w.heap.size,0,none⟩)]) (by simp) (by simp[go_sem]) ?_;refine(ehJ _ _ _ _ a0).mono ?_;rintro e o m ⟨rfl,rfl,rfl⟩;have i:xQ w ((l.alloc (.cells #[int i64 er] 222)).setCell ⟨w.heap.size,0,none⟩ (int i64 er)):=bs (bal h _) (vQ _) _;have r0:=(a0.at (ba _ (.cells #[int i64 er] 222))).c;simp[Leaves,settle,results,results106,go_sem,r0];exact i
end K
namespace K.Ds
def fst:List cX->ByteArray->Option Int
 | [],_=>none
 | t::r,s=>if t.1=s/\t.2.1=1 then some t.2.2 else fst r s
theorem bvX {wh:List cX}{t:cX}(h:wh[i]? = some t):fst (wh.drop i) s=if t.1=s/\t.2.1=1 then some t.2.2 else fst (wh.drop (i+1)) s:=by
 rw[eV (fQ.1 h).1,(fQ.1 h).2];rfl
def onl (s:ByteArray):Qu->Option Int
 | .none=>none
 | .node _ _ _ _ wh n x y=>if n=0 then fst wh s else match onl s x with
  | none=>none
  | some v=>if n=2 then (match onl s y with | none=>none | some u=>if u=v then some v else none) else some v
def Wq:Qu->Prop
 | .none=>True
 | .node k _ _ _ _ n x y=>(n:Int)=tQ k/\n<=2/\(1<=n->Wq x)/\(2<=n->Wq y)
theorem bvZ {l:List aQ}(q:Qu):∀ (i:Nat) (b:dX),bnd l i q=.ok b->Wq q:=by
 induction q with
 | none=>intro i b h;trivial
 | node k c lo hi wh n x y ihx ihy =>
  intro i b h;simp only[bnd] at h;split at h
  ·cases h
  ·split at h
   ·cases h
   ·split at h
    ·rename_i hk
     have a:n<=2:=by have:=hk;unfold tQ at this;repeat' split at this;all_goals omega
     split at h
     ·cases h
     ·rename_i bx hbx
      split at h
      ·cases h
      ·rename_i b' hby
       refine⟨hk,a,fun g=>?_,fun g=>?_⟩
       ·rw[wJ,jQ g] at hbx;exact ihx _ _ hbx
       ·rw[wJ,jQ g] at hby;exact ihy _ _ hby
    ·cases h
end K.Ds
namespace K
open Go.RowKit K.Ds
def bvJ:Option Int->Ending
 | some v=>.returned (int i64 v)
 | none=>.panicked (chn 6)
theorem eiJ (B:Nat)(v:Value)(g:List cX)(s:ByteArray)(w:World)(hB:B<=w.heap.size)(k:qZ w B v g)(r:Option Int)(E:fst g s=r) :
  Calls prog 162 #[v,.string s] w fun e w'=>e=bvJ r/\xQ w w':=by
 have F:Hid (qZ w B v g):=k;have G:Hid (fst g s=r):=E;obtain⟨a,c,rfl,hc,J⟩:=k.slice;clear E;go_enter func162,ntmps162;go_wp2
 go_loopw [9] (fun s' wr=>∃ (i:Nat),s' = int i64 (i:Int)/\i<=g.length/\Hid (fst (g.drop i) s=r)/\xQ w wr) (fun s' _=>g.length - (intOf s').toNat)
 case atStart=>exact⟨0,rfl,dQ _,by simpa [Hid] using G.out,uQ _ _⟩
 case round =>
  obtain⟨i,rfl,hi,A,j⟩:=hrel;by_cases D:i<g.length
  ·obtain⟨b,o,nm,d,z,rfl,I,y,c1,c2,c3,L⟩:=F.out.get hB j D
   have m:Hid (fst (g.drop i) s=if nm=s/\d=1 then some z else fst (g.drop (i+1)) s):=bvX y;clear y;have k:=wG nm s;by_cases p:nm=s
   ·have C:(nm.toList == s.toList)=true:=by rw[k];simp[p]
    by_cases g2:d=1
    ·obtain rfl:some z=r:=by rw[<-A.out,m.out,jQ ⟨p,g2⟩]
     subst g2;clear k p;go_wp2;go_ret;exact⟨rfl,bal j _⟩
    ·have H:(d == 1)=false:=by simpa using g2
     have l:Hid (fst (g.drop (i+1)) s=r):=by have:=A.out;rwa [m.out,zQ (fun h=>g2 h.2)] at this
     clear k p;go_wp2
     go_roundw
     case rel=>exact⟨i+1,by go_num,D,l,bal j _⟩
     case measure=>simp[intOf];omega
   ·have C:(nm.toList == s.toList)=false:=by rw[k];simp[p]
    have l:Hid (fst (g.drop (i+1)) s=r):=by have:=A.out;rwa [m.out,zQ (fun h=>p h.1)] at this
    clear k p;go_wp2
    go_roundw
    case rel=>exact⟨i+1,by go_num,D,l,bal j _⟩
    case measure=>simp[intOf];omega
  ·obtain rfl:none=r:=by have:=A.out;rw[nG (by omega)] at this;exact this
   go_wp2;exact⟨rfl,rfl,j⟩
theorem ejQ (s:ByteArray)(q:Qu):∀ (w:World) (B:Nat) (v0 v1 v2 v3 P v5:Value) (r:Option Int),B<=w.heap.size->Qm w B q v0 v1 v2 v3 P v5->Wq q->onl s q=r ->
  Calls prog 109 #[.agg #[v0,v1,v2,v3,P,v5],.string s] w fun e w'=>e=bvJ r/\xQ w w':=by
 induction q with
 | none=>intro w B v0 v1 v2 v3 P v5 r _ h;exact h.elim
 | node k c lo hi wh n x y ihx ihy =>
  rintro w B _ _ _ _ P _ r hB ⟨rfl,rfl,rfl,rfl,hc,hw,a,cap,rfl,hn,hm,hk⟩ ⟨Z,a6,wx,wy⟩ hr;have HW:Hid (qZ w B P wh):=hw;have R:Hid (onl s (.node k c lo hi wh n x y)=r):=hr
  have HK:Hid (1<=n->n<=2->∃ b o,a=some ⟨b,o,none⟩/\b<B/\(∃ u0 u1 u2 u3 u4 u5,rJ w b o u0 u1 u2 u3 u4 u5/\Qm w B x u0 u1 u2 u3 u4 u5) /\
    (2<=n->∃ u0 u1 u2 u3 u4 u5,rJ w b (o+6) u0 u1 u2 u3 u4 u5/\Qm w B y u0 u1 u2 u3 u4 u5)):=hk
  have U:Hid (1<=n->Wq x):=wx;have V:Hid (2<=n->Wq y):=wy;obtain⟨wa,wc,rfl,_⟩:=hw.slice;clear hk hr hw wx wy Z;have g:=ba w (.cells #[int i64 k,.string c,int i64 lo,int i64 hi,.slice wa wh.length wc,.slice a n cap] 53);go_enter func109,ntmps109;by_cases X:n=0
  ·subst X
   have k1:=eiJ B (.slice wa wh.length wc) wh s _ (bQ hB g.size) (HW.out.at hB g) r (by have:=R.out;rwa [onl,jQ rfl] at this);go_wp2_with fail;refine k1.mono ?_;rintro e Q ⟨F,z⟩;clear k1;have l:xQ w Q:=bt g z;cases r with
   | none =>
    obtain rfl:e=.panicked (chn 6):=F;go_wp2;exact⟨rfl,rfl,l⟩
   | some v =>
    obtain rfl:e=.returned (int i64 v):=F;go_wp2;go_ret;exact⟨rfl,l⟩
  have b8:((n:Int) == 0)=false:=by rw[yU];omega
  obtain⟨b,o,rfl,L,⟨u0,u1,u2,u3,u4,u5,N,m⟩,M⟩:=HK.out (by omega) a6;have J:Hid (2<=n->∃ u0 u1 u2 u3 u4 u5,rJ w b (o+6) u0 u1 u2 u3 u4 u5/\Qm w B y u0 u1 u2 u3 u4 u5):=M;obtain⟨kk,kc,kl,kh,ka,bb,kd,kb,km,kp,rfl,rfl,rfl,rfl,rfl,rfl⟩:=m.shape;obtain⟨c0,c1,c2,c3,c4,c5⟩:=N.keep g (lQ L hB);obtain⟨r1,p⟩:∃ r1,onl s x=r1:=⟨_,rfl⟩;have O:=ihx _ B _ _ _ _ _ _ r1 (bQ hB g.size) (m.at hB g) (U.out (by omega)) p;have j:Hid (onl s x=r1):=p;clear p m N M HK;go_wp2_with fail;refine O.mono ?_;rintro e Q ⟨F,z⟩;clear O c0 c1 c2 c3 c4 c5;have l:xQ w Q:=bt g z;have bx:=(Bx.new w w.heap.size rfl (int i64 k) (.string c) (int i64 lo) (int i64 hi) (.slice wa wh.length wc) (.slice (some ⟨b,o,none⟩) n cap)).at z;have t5:=bx.a5.c;clear bx g z;cases r1 with
  | none =>
   obtain rfl:none=r:=by rw[<-R.out,onl,zQ X,j.out]
   obtain rfl:e=.panicked (chn 6):=F;go_wp2;exact⟨rfl,rfl,l⟩
  | some v =>
   obtain rfl:e=.returned (int i64 v):=F;have G:Hid ((if n=2 then (match onl s y with|none=>none|some u=>if u=v then some v else none) else some v)=r):=by have:=R.out;rw[onl,zQ X,j.out] at this;exact this
   clear R j;rcases (show n=1\/n=2 by omega) with rfl|rfl
   ·obtain rfl:some v=r:=G.out
    by_cases E:cap=1
    ·subst E
     go_wp2
     go_loopw [26] (fun s' wr=>s' = int i64 0/\wr=Q) (fun _ _=>0)
     case atStart=>exact⟨rfl,rfl⟩
     case round =>
      obtain⟨rfl,rfl⟩:=hrel;go_wp2;go_ret;exact⟨rfl,l⟩
    ·
     go_wp2
     go_loopw [26] (fun s' wr=>s' = int i64 0/\wr=Q) (fun _ _=>0)
     case atStart=>exact⟨rfl,rfl⟩
     case round =>
      obtain⟨rfl,rfl⟩:=hrel;go_wp2;go_ret;exact⟨rfl,l⟩
   ·obtain⟨u0,u1,u2,u3,u4,u5,N,m⟩:=J.out (by omega)
    obtain⟨jk,jc,jl,jh,ja,I,jd,jb,jm,jp,rfl,rfl,rfl,rfl,rfl,rfl⟩:=m.shape;have HU:Hid (rJ w b (o+6) (int i64 jk) (.string jc) (int i64 jl) (int i64 jh) (.slice ja I jd) (.slice jb jm jp)):=N;have T:Hid (Qm w B y (int i64 jk) (.string jc) (int i64 jl) (int i64 jh) (.slice ja I jd) (.slice jb jm jp)):=m;clear N m J;have E:¬ cap=1:=by omega
    have H:Hid ((match onl s y with|none=>none|some u=>if u=v then some v else none)=r):=G.out;clear G;go_wp2
    go_loopw [26] (fun s' wr=>∃ i:Nat,s' = int i64 (i:Int)/\i<=1/\Hid (i=1->r=some v)/\xQ w wr) (fun s' _=>1 - (intOf s').toNat)
    case atStart=>exact⟨0,rfl,by decide,fun h=>absurd h (by decide),l⟩
    case round =>
     obtain⟨i,rfl,b5,HI,A⟩:=hrel;rcases (show i=0\/i=1 by omega) with rfl|rfl
     ·obtain⟨c0,c1,c2,c3,c4,c5⟩:=HU.out.keep A (lQ L hB)
      obtain⟨r1,p⟩:∃ r1,onl s y=r1:=⟨_,rfl⟩;have aq:=A.size;have O:=ihy (wr.alloc (.cells #[int i64 jk,.string jc,int i64 jl,int i64 jh,.slice ja I jd,.slice jb jm jp] 53)) B _ _ _ _ _ _ r1 (by simp;omega) ((T.out.at hB A).at (by omega) (ba _ _)) (V.out (by decide)) p;have j:Hid (onl s y=r1):=p;clear p t5;go_wp2_with fail;refine O.mono ?_;rintro e w2 ⟨F,Y⟩;clear O c0 c1 c2 c3 c4 c5;have C:xQ w w2:=bt (bal A _) Y;cases r1 with
      | none =>
       obtain rfl:none=r:=by rw[<-H.out,j.out]
       obtain rfl:e=.panicked (chn 6):=F;go_wp2;exact⟨rfl,rfl,C⟩
      | some u =>
       obtain rfl:e=.returned (int i64 u):=F;by_cases D:u=v
       ·have S:Hid (r=some v):=by show _=_;rw[<-H.out,j.out];simp[D]
        subst D;go_wp2_with fail;refine(bF 6 _).mono ?_;rintro e w3 ⟨rfl,rfl⟩;go_wp2
        go_roundw
        case rel=>exact⟨1,rfl,by decide,fun _=>S.out,C⟩
        case measure=>simp[intOf]
       ·obtain rfl:none=r:=by rw[<-H.out,j.out];simp[D]
        have b6:(u == v)=false:=by simpa using D
        go_wp2_with fail;refine(qU 6 _).mono ?_;rintro e w3 ⟨rfl,rfl⟩;go_wp2;exact⟨rfl,rfl,C⟩
     ·obtain rfl:r=some v:=HI.out rfl
      go_wp2;go_ret;exact⟨rfl,A⟩
end K
namespace K
open Go.RowKit K.Ds
def prt (l:List aQ) (q:Qu) (s:ByteArray):Except Int Int :=
 match typ l q with
 | .error e=>.error e
 | .ok _=>match fnd l s with
  | none=>.error 7
  | some i=>match onl s q with
   | none=>.error 6
   | some v=>if 0<=v/\v<pV l i then .ok v else .error 6
theorem gB {l:List aQ}{q:Qu}{b:dX}(h:typ l q=.ok b):oY l=0/\bnd l 1 q=.ok b:=by
 unfold typ at h;split at h
 ·exact⟨by assumption,h⟩
 ·cases h
def bwQ:Except Int Int->Ending
 | .error e=>.panicked (chn e)
 | .ok v=>.returned (int i64 v)
theorem ejX (l:List aQ)(q:Qu)(s:ByteArray)(w:World)(B L N S:Nat)(lv v0 v1 v2 v3 v4 v5:Value)(r:Except Int Int)(hB:B<=w.heap.size)(hp:kQ w B lv l)(hq:Qm w B q v0 v1 v2 v3 v4 v5)(hr:prt l q s=r)(hL:Cl w L 0 lv)(hN:Bx w N v0 v1 v2 v3 v4 v5)(hS:Cl w S 0 (.string s)) :
  Calls prog 107 #[.pointer (some ⟨L,0,none⟩),.pointer (some ⟨N,0,none⟩),.pointer (some ⟨S,0,none⟩)] w fun e w'=>e=bwQ r/\Below w.heap.size w w':=by
 have HP:Hid (kQ w B lv l):=hp;have HQ:Hid (Qm w B q v0 v1 v2 v3 v4 v5):=hq;have HR:Hid (prt l q s=r):=hr;obtain⟨la,lc,rfl,hlc,hll⟩:=hp.slice;obtain⟨kk,kc,kl,kh,ka,kn',kd,kb,km,kp,rfl,rfl,rfl,rfl,rfl,rfl⟩:=hq.shape;have HL:Hid (Cl w L 0 (.slice la l.length lc)):=hL;have HN:Hid (Bx w N (.int .i64 kk) (.string kc) (.int .i64 kl) (.int .i64 kh) (.slice ka kn' kd) (.slice kb km kp)):=hN;have HS:Hid (Cl w S 0 (.string s)):=hS;obtain⟨r1,hr1⟩:∃ r1,typ l q=r1:=⟨_,rfl⟩;have k1:=brX l q w B _ _ _ _ _ _ _ r1 hB hp hq hr1;have HT:Hid (typ l q=r1):=hr1;have m0:=hN.a0.c;have m1:=hN.a1.c;have m2:=hN.a2.c;have m3:=hN.a3.c;have m4:=hN.a4.c;have m5:=hN.a5.c;have m6:=hL.c;have m7:=hS.c;clear hp hq hr hL hN hS hr1;go_enter func107,ntmps107;go_wp2_with fail;refine k1.mono ?_;rintro e w1 ⟨he,hb1⟩;clear k1 m0 m1 m2 m3 m4 m5 m6 m7;cases r1 with
 | error er =>
  obtain rfl:Except.error er=r:=by rw[<-HR.out,prt,HT.out]
  obtain rfl:e=.panicked (chn er):=he;go_wp2;exact⟨rfl,rfl,hb1⟩
 | ok bb =>
  obtain⟨b1,b2,b3⟩:=bb;obtain rfl:e=.returned (.agg #[.int .i64 b1,.int .i64 b2,.int .i64 b3]):=he;obtain⟨hce,hbd⟩:=gB HT.out;have HWQ:Hid (Wq q):=bvZ q _ _ hbd;clear hce hbd;have hs1:=hb1.size
  have HR1:Hid ((match fnd l s with
   | none=>.error 7
   | some i=>match onl s q with
    | none=>.error 6
    | some v=>if 0<=v/\v<pV l i then .ok v else .error 6)=r):=by have:=HR.out;rw[prt,HT.out] at this;exact this
  clear HR HT;have m6:=(HL.out.at hb1).c;have m7:=(HS.out.at hb1).c;cases hf:fnd l s with
  | none =>
   have k2:=yB B _ l s w1 (by omega) (HP.out.at hB hb1) hf;rw[hf] at HR1;obtain rfl:Except.error 7=r:=HR1.out;clear hf;go_wp2_with fail;refine k2.mono ?_;rintro e w2 ⟨rfl,hb2⟩;have hbw:=bt hb1 hb2;go_wp2;exact⟨rfl,rfl,hbw⟩
  | some i =>
   have k2:=uO B _ l s w1 (by omega) (HP.out.at hB hb1) i hf;rw[hf] at HR1;have hil:=iD hf;clear hf;go_wp2_with fail;refine k2.mono ?_;rintro e w2 ⟨rfl,hb2⟩;clear k2 m6 m7;have hbw:=bt hb1 hb2;have hs2:=hbw.size;obtain⟨ro,hro⟩:∃ ro,onl s q=ro:=⟨_,rfl⟩;have k3:=ejQ s q w2 B _ _ _ _ _ _ ro (by omega) (HQ.out.at hB hbw) HWQ.out hro
   have HR2:Hid ((match onl s q with
    | none=>.error 6
    | some v=>if 0<=v/\v<pV l i then .ok v else .error 6)=r):=HR1.out
   rw[hro] at HR2;clear HR1 hro;have hN2:=HN.out.at hbw;have m0:=hN2.a0.c;have m1:=hN2.a1.c;have m2:=hN2.a2.c;have m3:=hN2.a3.c;have m4:=hN2.a4.c;have m5:=hN2.a5.c;have m7:=(HS.out.at hbw).c;clear hN2;go_wp2_with fail;refine k3.mono ?_;rintro e w3 ⟨he,hb3⟩;clear k3 m0 m1 m2 m3 m4 m5 m7;have hbw3:=bt hbw hb3;cases ro with
   | none =>
    obtain rfl:Except.error 6=r:=HR2.out;obtain rfl:e=.panicked (chn 6):=he;go_wp2;exact⟨rfl,rfl,hbw3⟩
   | some v =>
    obtain rfl:e=.returned (.int .i64 v):=he;have HR3:Hid ((if 0<=v/\v<pV l i then (.ok v:Except Int Int) else .error 6)=r):=HR2.out;clear HR2;have m6:=(HL.out.at hbw3).c;obtain⟨b,o,nm,sz,rfl,hb,hgt,c1,c2,hn⟩:=HP.out.get hB hbw3 hil;have hsz:pV l i=sz:=by simp[pV,hgt]
    rw[hsz] at HR3;clear hgt hsz;by_cases h1:0<=v
    ·by_cases h2:v<sz
     ·obtain rfl:Except.ok v=r:=by rw[<-HR3.out,jQ ⟨h1,h2⟩]
      go_wp2_with fail;refine(bF 6 _).mono ?_;rintro e w4 ⟨rfl,rfl⟩;go_wp2;go_ret;exact⟨rfl,hbw3⟩
     ·obtain rfl:Except.error 6=r:=by rw[<-HR3.out,zQ (fun h=>h2 h.2)]
      have h3:decide (v<sz)=false:=lZ h2;go_wp2_with fail;refine(qU 6 _).mono ?_;rintro e w4 ⟨rfl,rfl⟩;go_wp2;exact⟨rfl,rfl,hbw3⟩
    ·obtain rfl:Except.error 6=r:=by rw[<-HR3.out,zQ (fun h=>h1 h.1)]
     go_wp2_with fail;refine(qU 6 _).mono ?_;rintro e w4 ⟨rfl,rfl⟩;go_wp2;exact⟨rfl,rfl,hbw3⟩
def iU:Except Int Int->Int × Int
 | .error e=>(0,e)
 | .ok v=>(v,0)
theorem ejZ (l:List aQ)(q:Qu)(s:ByteArray)(w:World)(B:Nat)(a v0 v1 v2 v3 g h:Value)(z er:Int)(hB:B<=w.heap.size)(A:kQ w B a l)(C:Qm w B q v0 v1 v2 v3 g h)(m:iU (prt l q s)=(z,er)) :
  Calls prog 56 #[a,.agg #[v0,v1,v2,v3,g,h],.string s] w fun e w'=>e=.returned (.tuple #[int i64 z,int i64 er])/\Below w.heap.size w w':=by
 have k:Below w.heap.size w (((w.alloc (.cells #[a] 22)).alloc (.cells #[v0,v1,v2,v3,g,h] 53)).alloc (.cells #[.string s] 9)):=bal (bal (ba _ _) _) _;have D:Cl (((w.alloc (.cells #[a] 22)).alloc (.cells #[v0,v1,v2,v3,g,h] 53)).alloc (.cells #[.string s] 9)) w.heap.size 0 a:=((Cl.new _ 22 _ _ rfl rfl).at (ba _ _)).at (ba _ _);have E:Bx (((w.alloc (.cells #[a] 22)).alloc (.cells #[v0,v1,v2,v3,g,h] 53)).alloc (.cells #[.string s] 9)) (w.heap.size+1) v0 v1 v2 v3 g h:=(Bx.new _ _ (by simp) _ _ _ _ _ _).at (ba _ _);have F:Cl (((w.alloc (.cells #[a] 22)).alloc (.cells #[v0,v1,v2,v3,g,h] 53)).alloc (.cells #[.string s] 9)) (w.heap.size+1+1) 0 (.string s):=Cl.new _ 9 _ _ (by simp) rfl
 have G:Calls prog 106 #[.func (.func 107) #[] #[.pointer (some ⟨w.heap.size,0,none⟩),.pointer (some ⟨w.heap.size+1,0,none⟩),.pointer (some ⟨w.heap.size+1+1,0,none⟩)]] (((w.alloc (.cells #[a] 22)).alloc (.cells #[v0,v1,v2,v3,g,h] 53)).alloc (.cells #[.string s] 9)) fun e w'=>e=.returned (.tuple #[int i64 z,int i64 er])/\Below (((w.alloc (.cells #[a] 22)).alloc (.cells #[v0,v1,v2,v3,g,h] 53)).alloc (.cells #[.string s] 9)).heap.size (((w.alloc (.cells #[a] 22)).alloc (.cells #[v0,v1,v2,v3,g,h] 53)).alloc (.cells #[.string s] 9)) w':=by
  generalize hW:(((w.alloc (.cells #[a] 22)).alloc (.cells #[v0,v1,v2,v3,g,h] 53)).alloc (.cells #[.string s] 9))=W at *
  have j:∀ r,prt l q s=r->∀ W',Below W.heap.size W W'->W.heap.size+1<=W'.heap.size->Calls prog 107 #[.pointer (some ⟨w.heap.size,0,none⟩),.pointer (some ⟨w.heap.size+1,0,none⟩),.pointer (some ⟨w.heap.size+1+1,0,none⟩)] W' fun e w'=>e=bwQ r/\Below W'.heap.size W' w':=by
   intro r m W' i M;have I:=k.size;exact ejX l q s W' B _ _ _ a v0 v1 v2 v3 g h r (by omega) ((A.at hB k).at (by omega) i) ((C.at hB k).at (by omega) i) m (D.at i) (E.at i) (F.at i)
  cases ht:prt l q s with
  | error e1 =>
   rw[ht] at m;simp only[iU,cQ] at m;obtain⟨rfl,rfl⟩:=m;exact eiZ _ e1 W (j _ ht)
  | ok v =>
   rw[ht] at m;simp only[iU,cQ] at m;obtain⟨rfl,rfl⟩:=m;refine(eiX _ (fun V _=>V=int i64 v) W fun W' h1 h2=>(j _ ht W' h1 h2).mono fun e w' ⟨he,o⟩=>⟨_,he,rfl,o⟩).mono ?_;rintro e w' ⟨V,H,rfl,rfl,o,rfl⟩;exact⟨rfl,bs o (vQ _) _⟩
 obtain⟨U,X,rfl,_⟩:=A.slice;obtain⟨R,J,S,Q,N,L,P,O,T,kp,rfl,rfl,rfl,rfl,rfl,rfl⟩:=C.shape;have hmf:=hmf;clear A C m D E F;go_enter func56,ntmps56;go_wp2_with fail;refine G.mono ?_;rintro e H ⟨rfl,p⟩;clear G;have y:Below w.heap.size w H:=bt k p;go_wp2;exact eQ (v:=.tuple #[int i64 z,int i64 er]) (by simp[results,results56,go_sem]) rfl ⟨rfl,y⟩
theorem afX {l:List aQ}(H:cG l)(q:Qu):∀ (p:Nat) (b:dX) (v0 v1 v2 v3 E I:Value),Qm w B q v0 v1 v2 v3 E I->bnd l p q=.ok b->1<=b.1:=by
 induction q with
 | none=>intro p b v0 v1 v2 v3 E I h;exact h.elim
 | node k c lo hi wh n x y ihx ihy =>
  rintro p b _ _ _ _ E _ ⟨rfl,rfl,rfl,rfl,hc,P,a,cap,rfl,O,N,M⟩ L;obtain⟨j,⟨x1,x2,x3⟩,⟨y1,y2,y3⟩,z,A,g,G⟩:=uB L;have J:1<=n->bnd l (p+1) x=.ok (x1,x2,x3):=fun h=>by rwa [wJ,jQ h] at z
  have C:¬ tQ k<0:=by omega
  have m:1<=n->n<=2->1<=x1:=fun v F=>by
   obtain⟨b',o,_,_,⟨u0,u1,u2,u3,u4,u5,_,D⟩,_⟩:=M v F;exact ihx _ _ _ _ _ _ _ _ D (J v)
  rcases cO C with rfl|rfl|rfl|rfl|rfl|rfl|rfl|rfl|rfl|rfl
  ·simp[rec] at g
   obtain⟨_,rfl⟩:=iF g;exact iK _
  ·simp[rec] at g
   split at g
   ·split at g
    ·obtain⟨_,rfl⟩:=iF g;exact iK _
    ·cases g
   ·cases g
  ·simp[rec] at g
   split at g
   ·rename_i i hf
    obtain⟨_,rfl⟩:=iF g;exact(eP H hf).1
   ·cases g
  ·have:=m (by simp[tQ] at j;omega) (by simp[tQ] at j;omega)
   simp[rec] at g;split at g
   ·cases g;exact this
   ·cases g
  ·have:=m (by simp[tQ] at j;omega) (by simp[tQ] at j;omega)
   simp[rec] at g;split at g
   ·cases g;exact this
   ·cases g
  ·have:=m (by simp[tQ] at j;omega) (by simp[tQ] at j;omega)
   simp[rec] at g;split at g
   ·cases g;exact this
   ·cases g
  ·have v:=m (by simp[tQ] at j;omega) (by simp[tQ] at j;omega)
   have F:0<=y1:=by
    have:bnd l (p+1) y=.ok (y1,y2,y3):=by rwa [wJ,jQ (by simp[tQ] at j;omega)] at A
    exact(yL H y _ _ this).1
   simp[rec] at g;subst g
   show 1<=x1+y1
   omega
  ·simp[rec] at g
   subst g;exact iK _
  ·simp[rec] at g
   split at g
   ·cases g;exact iK _
   ·cases g
  ·have:=m (by simp[tQ] at j;omega) (by simp[tQ] at j;omega)
   simp[rec] at g;split at g
   ·cases g;exact this
   ·cases g
theorem ekQ {l:List aQ}{lo hi:Int}{wh:List cX}{x y:dX}(h:rec l k c lo hi wh x y=.error e):e≠0:=by
 unfold rec eU at h
 repeat' split at h
 all_goals first
  | cases h;done
  | (simp only[Except.error.injEq] at h;omega)
theorem iB {l:List aQ}(q:Qu):∀ (a:Nat) (e:Int),bnd l a q=.error e->e≠0:=by
 induction q with
 | none=>intro a e h;simp only[bnd] at h;cases h
 | node k c lo hi wh n x y ihx ihy =>
  intro a e h;simp only[bnd] at h;split at h
  ·cases h;decide
  ·split at h
   ·cases h;decide
   ·split at h
    ·split at h
     ·rename_i er hbx
      cases h;unfold wJ at hbx;split at hbx
      ·exact ihx _ _ hbx
      ·cases hbx
     ·rename_i bx hbx
      split at h
      ·rename_i er hby
       cases h;unfold wJ at hby;split at hby
       ·exact ihy _ _ hby
       ·cases hby
      ·rename_i b' hby
       split at h
       ·rename_i er hr
        cases h;exact ekQ hr
       ·unfold lim at h
        split at h
        ·cases h
        ·cases h;decide
    ·cases h;decide
end K
namespace K
open Go.ChangeShapes Go.WideShapes Go.ChangeAt Go.RowKit K.Ds Go.Deep
theorem rM (h:w.cell? a=some v):a.block<w.heap.size:=by
 unfold World.cell? at h;split at h
 ·rename_i hb;exact(mY.1 hb).1
 ·cases h
theorem lH:prog.cellsOf 3=1:=by kernel_rfl
theorem nR:prog.cellsOf 9=1:=by kernel_rfl
theorem fhZ:prog.cellsOf 35=1:=by kernel_rfl
theorem fhJ:prog.cellsOf 108=2:=by kernel_rfl
theorem fiQ:prog.cellsOf 25=2:=by kernel_rfl
theorem rD:maxLen=9223372036854775807:=by decide
theorem b6Z {H:Type}{enc:TypeId × Value->H}{D:DataW H}{P:List MemPlace}(h:DataW.trod enc prog W 0 (fun _=>true) true n 35 [V]=some (D,P)) :
  ∃ xs,yQ W W.heap.size W.heap.size V xs:=by
 rcases open_ints underlying35 underlying3 lH h with⟨j,_⟩|⟨a,len,cap,zs,j,_,F,y,E,G,g,C⟩
 ·simp at j
  subst j;exact⟨[],none,0,rfl,vQ _,by simp,fun h=>absurd rfl h⟩
 ·simp at j
  subst j;simp only[uA] at E;have k:(zs.take len).length=len:=by simp;omega
  rw[rD] at y;refine⟨zs.take len,some a,cap,by rw[k],by omega,by omega,fun hne=>?_⟩
  have A:0<len:=by
   rcases mO len with l|l
   ·subst l;simp at hne
   ·exact l
  obtain⟨b,o,m⟩:=a;have l:=g 0 (by omega);have B:m=none:=by simpa [Addr.add] using nO l
  subst B;have v:b<W.heap.size:=rM (a:=(⟨b,o,none⟩:Addr).add 0) l;refine⟨b,o,rfl,v,by omega,fun i x hi=>?_⟩;have p:i<len:=by rw[<-k];exact(fQ.1 hi).1
  have z:=g i (by omega);rw[bJ] at z;rw[z];rw[oG p] at hi;simp[List.getD,hi]
theorem fiX {H:Type}{enc:TypeId × Value->H}{D:DataW H}{P:List MemPlace}(h:DataW.trod enc prog W 0 (fun _=>true) true n 23 [V]=some (D,P)) :
  ∃ ts:List Rw,nQ W W.heap.size V ts:=by
 rcases open_slice1 underlying23 fhZ h with⟨j,_⟩|⟨a,len,cap,m,O,z,J,L,j,_,M,A,C,N,g⟩
 ·simp at j
  subst j;exact⟨[],cdX _ _⟩
 ·simp at j
  subst j;simp only[uA] at C;subst C;rw[rD] at A;have p:∀ i,i<len->∃ q:List Int,yQ W W.heap.size W.heap.size (z i) q:=fun i hi=>b6Z (g i (by omega)).2;obtain⟨q,G⟩:=choose_lt p
  have v:∀ i t,((List.range len).map fun i=>((z i,q i):Rw))[i]? = some t->i<len/\t=(z i,q i):=by
   intro i t hi;have k:=(fQ.1 hi).1;simp at k;simp[k] at hi;exact⟨k,hi.symm⟩
  refine⟨(List.range len).map fun i=>(z i,q i),some a,m,by simp,by simp;omega,by simp;omega,fun t ht=>?_,fun hne=>?_⟩
  ·obtain⟨i,hi,rfl⟩:=iJ.1 ht
   exact G i (lK.1 hi)
  ·have E:0<len:=by
    rcases mO len with l|l
    ·subst l;simp at hne
    ·exact l
   obtain⟨b,o,y⟩:=a;have l:=(g 0 (by omega)).1;have I:y=none:=by simpa [Addr.add] using nO l
   subst I;have k:b<W.heap.size:=rM (a:=(⟨b,o,none⟩:Addr).add 0) l;refine⟨b,o,rfl,k,fun i t hi=>?_⟩;obtain⟨F,rfl⟩:=v i t hi;obtain⟨B,_⟩:=g i (by omega);rw[bJ] at B;exact B
theorem fiZ:∃ f0 f1:Field,prog.underlying 108=some (.struct #[f0,f1])/\f0.offset=0/\f1.offset=1/\f0.type=9/\f1.type=3:=by
 refine⟨_,_,underlying108,?_,?_,?_,?_⟩ <;> rfl
theorem fiJ {H:Type}{enc:TypeId × Value->H}{D:DataW H}{P:List MemPlace}(h:DataW.trod enc prog W 0 (fun _=>true) true n 22 [V]=some (D,P)) :
  ∃ l:List aQ,kQ W W.heap.size V l:=by
 obtain⟨f0,f1,J,M,N,t0,t1⟩:=fiZ;rcases open_slice_pairs underlying22 J fhJ M N (by rw[t0];exact nR) (by rw[t1];exact lH) h with⟨hcs,_⟩|⟨a,len,cap,m,n',V0,V1,D0,D1,P0,P1,hcs,_,hl,hmx,hm,hx,hall⟩
 ·simp at hcs
  subst hcs;exact⟨[],deQ _ _⟩
 ·simp at hcs
  subst hcs;simp only[uA] at hm;subst hm;rw[rD] at hmx
  have p:∀ i,i<len->∃ q:aQ,(V0 i=.string q.1/\V1 i=int i64 q.2)/\q.1.size<=9223372036854775807:=by
   intro i hi;obtain⟨_,_,E,F⟩:=hall i (by omega);rw[t0] at E;rw[t1] at F;obtain⟨s,e0,_,L⟩:=DataW.trod_string underlying9 E;obtain⟨k,e1,_,_⟩:=rF underlying3 F;simp at e0 e1;exact⟨(s,k),⟨e0,e1⟩,by rw[<-rD];exact L⟩
  obtain⟨q,A⟩:=choose_lt p
  have v:∀ i t,((List.range len).map fun i=>q i)[i]? = some t->i<len/\t=q i:=by
   intro i t hi;have g:=(fQ.1 hi).1;simp at g;simp[g] at hi;exact⟨g,hi.symm⟩
  refine⟨(List.range len).map fun i=>q i,some a,m,by simp,by simp;omega,by simp;omega,fun t ht=>?_,fun hne=>?_⟩
  ·obtain⟨i,hi,rfl⟩:=iJ.1 ht
   exact(A i (lK.1 hi)).2
  ·have G:0<len:=by
    rcases mO len with j|j
    ·subst j;simp at hne
    ·exact j
   obtain⟨b,o,z⟩:=a;have j:=(hall 0 (by omega)).1;have I:z=none:=by simpa [Addr.add] using nO j
   subst I;have g:b<W.heap.size:=rM (a:=(⟨b,o,none⟩:Addr).add (0*2)) j;refine⟨b,o,rfl,g,fun i t hi=>?_⟩;obtain⟨y,rfl⟩:=v i t hi;obtain⟨B,C,_⟩:=hall i (by omega);rw[bJ] at B C;exact⟨by rw[B,(A i y).1.1],by rw[cU,C,(A i y).1.2]⟩
