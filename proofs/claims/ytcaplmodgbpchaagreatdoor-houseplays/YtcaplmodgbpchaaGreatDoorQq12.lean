import Derived.Test.YtcaplmodgbpchaaGreatDoorQq11
import Derived.Laws.Bits
import Derived.Deep.RegionWith
open Go.Proofs.Tryz
open Go.Value(int)
open Go.IntKind(i64)
set_option linter.unusedSimpArgs false
set_option maxHeartbeats 16000000
set_option maxRecDepth 100000
namespace Go.Proofs.YtcaplmodgbpchaaGreatDoor
variable {W w w' wr:World} {B E b base i lo' m n size:Nat} {s s' v v':Value} {e:TypeId} {xs:List Int} {row:Option Nat} {k:Int}
section
open Go.RowKit Ds
def doJ (E:Nat) (v:Value) (l:List Pt) (T nd u pl b:Int) (w:World) (e:Ending) (w':World):Prop :=
 w.grownBy w' (some E) /\
  ((e=.returned (.tuple #[qI,.bool false])/\(uZ T pl l)[(2*nd+b).toNat]? = none/\Rob w' E v T (2*nd+b - (uZ T pl l).length) (u+1) (2*pl % T)) \/
   (∃ a c o,e=.returned (.tuple #[.agg #[.slice a (o:List Int).length c,int i64 (u+1)],.bool true])/\(∀ m,m<w.heap.size->yQ w' w'.heap.size m (.slice a o.length c) o)/\(uZ T pl l)[(2*nd+b).toNat]? = some o/\Rob w' E v T 0 0 1))
theorem dpQ (N E:Nat)(a:Option Addr)(c:Nat)(ts:List Tr)(T nd u pl β b:Int)(w:World)(hR:Rob w E (.slice a ts.length c) T nd u pl)(hP:Rop w N E a c ts)(hN:N<=w.heap.size)(h2:2<=ts.length)(hT:1<=T/\T<=1073741824)(hp:0<=pl/\pl<T)(hk:∀ t∈ts,0<=t.2.2/\t.2.2<=1073741824)(hu:0<=u/\u<=4611686018427387904)(dm:0<=nd/\nd<=4096)(hb:0<=b/\b<=1)(hβ:bits .and .i64 β 1=b) :
  Calls prog 112 #[.pointer (some ⟨E,0,none⟩),int i64 β] w (doJ E (.slice a ts.length c) (rd ts) T nd u pl b w):=by
 have HR:=qQ hR;have HP:=qQ hP;have HK:=qQ hk;have di:=hP.few;obtain⟨c0,c1,c2,c3,c4,fz,lt⟩:=hR;have f2:=fz 2;have f3:=fz 3;clear hP hk fz;go_enter func112,ntmps112;go_wp2;generalize hX:((w.setCell ⟨E,3,none⟩ (int i64 (u+1))).setCell ⟨E,2,none⟩ (int i64 (2*nd+b))).alloc (.cells #[.slice none 0 0,int i64 0] 110)=X;have al:Hid (Rob X E (.slice a ts.length c) T (2*nd+b) (u+1) pl):=hX▸((HR.out.s3 (u+1)).s2 (2*nd+b)).alloc _;have bn:Hid (w.grownBy X (some E)):=hX▸fG (iM (iM (wX w (some E)) 3 _) 2 _) _;have c6:Hid (Rv X w.heap.size (.slice none 0 0) 0):=hX▸Rv.new _ _ _ _ _ (by simp);clear hX c0 c1 c2 c3 c4 f2 f3 HR hβ;obtain⟨m,C⟩:=nY (show 0<=2*nd+b by omega);have dl:m<=8193:=by omega
 rw[C] at al ⊢;have HM:=qQ C;clear C
 go_loopw [43] (fun iv wr=>∃ (i:Nat),iv=int i64 (i:Int)/\i<=ts.length/\Hid ((uZ T pl (rd (ts.take i))).length<=m)/\Hid (Rob wr E (.slice a ts.length c) T ((m:Int) - (uZ T pl (rd (ts.take i))).length) (u+1) pl)/\Hid (w.grownBy wr (some E))/\Hid (Rv wr w.heap.size (.slice none 0 0) 0)) (fun iv _=>ts.length - (intOf iv).toNat)
 case atStart=>exact⟨0,rfl,dQ _,by simp[Hid,rd,uZ],by simpa [rd,uZ] using al,bn,c6⟩
 case round =>
  obtain⟨i,rfl,dj,HL,HR,HG,HV⟩:=hrel;obtain⟨q,hq⟩:∃ q,(uZ T pl (rd (ts.take i))).length=q:=⟨_,rfl⟩;have HQ:=qQ hq;rw[hq] at HL HR;clear hq;have az:q<=m:=HL.out;have hz:w.heap.size+1<=wr.heap.size:=HV.out.lt;by_cases h1:i<ts.length
  ·have bv:Hid (Rop wr N E a c ts):=HP.out.gb HG.out
   obtain⟨bb,bo,sa,sc,j,k,rfl,dh,dg,hs,d1,d2,hI⟩:=bv.out.get h1;have HS:=qQ hs;have ac:=HK.out _ (qX hs);simp only at ac;have HI:=qQ hI;clear hs hI;generalize hO:Obj.cells #[Value.slice sa j.length sc,Value.int IntKind.i64 k] 186=O;have P:=qQ (HR.out.alloc O);have aq:=qQ (HV.out.alloc O);have bz:Hid (Rv (wr.alloc O) wr.heap.size (.slice sa j.length sc) k):=hO▸Rv.new _ _ _ _ _ rfl;cases hlf:decide (T<=2*rm T pl k) with
   | false =>
    have kc:=bkX E (.slice (some ⟨bb,bo,none⟩) ts.length c) (.slice sa j.length sc) T ((m:Int) - q) (u+1) pl k (wr.alloc O) P.out ⟨_,_,_,rfl⟩ hT hp ac false hlf;subst hO
    have z:Hid ((uZ T pl (rd (ts.take (i+1)))).length=q):=by
     rw[Hid,sP HS.out,zQ (by simpa using hlf),bG];exact HQ.out
    clear hlf;go_wp2_with fail;refine kc.mono ?_;rintro e g ⟨rfl,l⟩;have I:Hid (w.grownBy g (some E)):=sU HG.out (zH (bt (ba _ _) l));have B:=qQ (P.out.at l);have D:=qQ (aq.out.below l);clear kc;go_wp2
    go_roundw
    case rel=>exact⟨i+1,by go_num,h1,by rw[z.out];exact az,by rw[z.out];exact B,I,D⟩
    case measure=>simp[intOf];omega
   | true =>
    have kc:=bkX E (.slice (some ⟨bb,bo,none⟩) ts.length c) (.slice sa j.length sc) T ((m:Int) - q) (u+1) pl k (wr.alloc O) P.out ⟨_,_,_,rfl⟩ hT hp ac true hlf;subst hO
    have z:Hid ((uZ T pl (rd (ts.take (i+1)))).length=q+1):=by
     rw[Hid,sP HS.out,jQ (by simpa using hlf),sY,HQ.out];rfl
    have HE:Hid ((uZ T pl (rd ts))[q]? = some j):=by
     have:=bjJ HS.out (by simpa using hlf:T<=2*rm T pl k);rw[HQ.out] at this;exact this
    clear hlf;go_wp2_with fail;refine kc.mono ?_;rintro e g ⟨rfl,l⟩;have I:Hid (w.grownBy g (some E)):=sU HG.out (zH (bt (ba _ _) l));have B:=qQ (P.out.at l);have D:=qQ (aq.out.below l);have a7:=qQ (bz.out.below l);have dp:wr.heap.size+1<=g.heap.size:=by simpa using l.size
    have U:Hid (yQ g N E (.slice sa j.length sc) j):=HI.out.at (by omega) (bt (ba _ _) l);clear kc;obtain⟨e0,e1,e2,e3,e4,J,e5⟩:=id B.out;by_cases h3:m=q
    ·subst h3
     have h4:(m:Int) - m=0:=by omega
     rw[h4] at e2;obtain⟨r0,r1,r2,r3,r4⟩:=id D.out;obtain⟨g0,g1,g2,g3,g4⟩:=id a7.out;go_wp2;have ax:∀ o,(g.alloc o).cell? ⟨E,3,none⟩=some (int i64 (u+1)):=fun o=>(B.out.alloc o).c3;have c8:∀ o,(g.alloc o).cell? ⟨wr.heap.size,0,none⟩=some (.slice sa j.length sc):=fun o=>(a7.out.alloc o).c0;have l2:E<g.heap.size:=e5
     go_region_with (go_at_call 43;refine(pP N E _ j _ ?_ ?_).mono ?_;(first|(show N<=g.heap.size;omega)|(simp;omega));(first|exact U.out.at (by omega) (uQ _ _).drew|exact U.out.at (by omega) (ba _ _).drew|exact U.out.at (by omega) ((uQ _ _).drew.alloc (vQ _) _));rintro x3 y ⟨v3,rfl,Q,F⟩;obtain⟨av,cv,ce,_⟩:=Q 0 (by first|(show 0<g.heap.size;omega)|(simp));subst ce;obtain⟨R,aa⟩:=bcell F;have l3:E<y.heap.size:=(lQ (by first|exact l2|(simp;omega)) F.size);have k1:y.cell? ⟨E,3,none⟩=some (int i64 (u+1)):=(R E 3 (by first|exact l2|(simp;omega))).trans (by first|exact e3|exact ax _);have k2:∀ o,(y.alloc o).cell? ⟨E,3,none⟩=some (int i64 (u+1)):=(fun o=>((ba y o).cell (p:=⟨E,3,none⟩) l3).trans k1);(first|(have k3:y.cell? ⟨g.heap.size,0,none⟩=some (.slice none 0 0):=(R g.heap.size 0 (by simp)).trans (nc _ _ 0 _ rfl rfl);have k4:y.cell? ⟨g.heap.size,1,none⟩=some (int i64 0):=(R g.heap.size 1 (by simp)).trans (nc _ _ 1 _ rfl rfl);have k5:y.frozen? ⟨g.heap.size,0,none⟩=false:=(aa g.heap.size 0 (by simp)).trans (nf _ _ 0 rfl);have k6:y.frozen? ⟨g.heap.size,1,none⟩=false:=(aa g.heap.size 1 (by simp)).trans (nf _ _ 1 rfl))|skip);clear R aa)
     all_goals first
      | (have ae:=k3
         clear ae;generalize hY:(y.setCell ⟨g.heap.size,0,none⟩ (.slice av j.length cv)).setCell ⟨g.heap.size,1,none⟩ (int i64 (u+1))=Y;have A:xQ g y:=(ba g (.cells #[.slice none 0 0,int i64 0] 110)).drew.trans (F.mono (show g.heap.size<=(g.alloc (.cells #[.slice none 0 0,int i64 0] 110)).heap.size by simp));have ay:g.heap.size<y.heap.size:=by have h:(g.alloc (.cells #[.slice none 0 0,int i64 0] 110)).heap.size<=y.heap.size:=F.size;simp at h;omega
         have L:xQ g Y:=hY▸((A.setCell (p:=⟨g.heap.size,0,none⟩) (vQ _) _).setCell (p:=⟨g.heap.size,1,none⟩) (vQ _) _);have H:Hid (Rv Y g.heap.size (.slice av j.length cv) (u+1)):=hY▸(show Rv y g.heap.size (.slice none 0 0) 0 from ⟨k3,k4,k5,k6,ay⟩).put _ _
         have V:Hid (∀ m,m<g.heap.size+1->yQ Y Y.heap.size m (.slice av j.length cv) j):=by
          have h1:=yQ.setm (yQ.setm (fun m (C:m<g.heap.size+1)=>Q m (show m<(g.alloc (.cells #[.slice none 0 0,int i64 0] 110)).heap.size by simpa using C)) g.heap.size 0 (by omega) (.slice av j.length cv)) g.heap.size 1 (by omega) (int i64 (u+1));intro m C;have h2:=h1 m C;rw[<-hY];simpa using h2
         clear hY k3 k4 k5 k6;generalize hR8:g.heap.size=R8 at H ⊢;have cb:g.heap.size<=R8:=by omega)
      | (generalize hY:y.alloc (.cells #[.slice av j.length cv,int i64 (u+1)] 110)=Y
         have A:xQ g y:=(uQ g.heap.size g).drew.trans F;have L:xQ g Y:=hY▸bal A _;have H:Hid (Rv Y y.heap.size (.slice av j.length cv) (u+1)):=hY▸Rv.new _ _ _ _ _ rfl;have V:Hid (∀ m,m<g.heap.size->yQ Y Y.heap.size m (.slice av j.length cv) j):=fun m C=>hY▸(Q m C).at2 (ba _ _);have ay:g.heap.size<=y.heap.size:=A.size;clear hY;generalize hR8:y.heap.size=R8 at H ⊢;have cb:g.heap.size<=R8:=by omega)
     all_goals
      have an:=qQ (B.out.at L);have au:=qQ (D.out.below L);have aj:=qQ (sU I.out (zH L));have ah:Hid (∀ m,m<w.heap.size+1->yQ Y Y.heap.size m (.slice av j.length cv) j):=fun m C=>V.out m (by omega);clear F Q k1 k2 V B D I a7 e0 e1 e2 e3 e4 J r0 r1 r2 r3 g0 g1 g2 g3 ax c8 A L
     all_goals
      have cg:¬ w.heap.size=E:=by omega
      have ch:¬ E=w.heap.size:=by omega
      have kb:=bkQ Y;go_wp2_with fail;refine kb.mono ?_;rintro e w4 ⟨rfl,G⟩;have ak:=qQ (an.out.at G);have ao:=qQ (au.out.below G);have bi:=qQ (H.out.below G);have bm:=qQ (sU aj.out (zH G));have bj:Hid (∀ m,m<w.heap.size+1->yQ w4 w4.heap.size m (.slice av j.length cv) j):=fun m C=>(ah.out m C).at2 G;clear kb G an au H aj ah;obtain⟨e0,e1,e2,e3,e4,J,_⟩:=id ak.out;obtain⟨r0,r1,r2,r3,_⟩:=id ao.out;obtain⟨g0,g1,g2,g3,_⟩:=id bi.out;have y2:=J 2;have y3:=J 3;have y4:=J 4;clear J;go_wp2;generalize hZ:((((w4.setCell ⟨E,2,none⟩ (int i64 0)).setCell ⟨E,3,none⟩ (int i64 0)).setCell ⟨E,4,none⟩ (int i64 1)).setCell ⟨w.heap.size,0,none⟩ (.slice av j.length cv)).setCell ⟨w.heap.size,1,none⟩ (int i64 (u+1))=Z;have bw:Rob Z E (.slice (some ⟨bb,bo,none⟩) ts.length c) T 0 0 1:=hZ▸(((((ak.out.s2 0).s3 0).s4 1).other w.heap.size 0 (by omega) _).other w.heap.size 1 (by omega) _);have a8:Rv Z w.heap.size (.slice av j.length cv) (u+1):=hZ▸((((ao.out.other E 2 (by omega) _).other E 3 (by omega) _).other E 4 (by omega) _).put _ _);have bp:w.grownBy Z (some E):=hZ▸eL (eL (iM (iM (iM bm.out 2 _) 3 _) 4 _) (p:=⟨w.heap.size,0,none⟩) (vQ _) _) (p:=⟨w.heap.size,1,none⟩) (vQ _) _
      have bk:∀ m,m<w.heap.size+1->yQ Z Z.heap.size m (.slice av j.length cv) j:=by
       have h1:=yQ.setm (yQ.setm (yQ.setm (yQ.setm (yQ.setm bj.out E 2 (by omega) (int i64 0)) E 3 (by omega) (int i64 0)) E 4 (by omega) (int i64 1)) w.heap.size 0 (by omega) (.slice av j.length cv)) w.heap.size 1 (by omega) (int i64 (u+1));intro m C;have h2:=h1 m C;rw[<-hZ];simpa using h2
      clear hZ;obtain⟨z0,z1,_,_,_⟩:=a8;exact eQ (v:=.tuple #[.agg #[.slice av j.length cv,int i64 (u+1)],.bool true]) (by simp[results,results112,go_sem,z0,z1]) rfl ⟨bp,.inr ⟨av,cv,j,rfl,fun m C=>bk m (by omega),by rw[HM.out,tF];exact HE.out,bw⟩⟩
    ·have h4:¬ (m:Int) - q=0:=by omega
     have de:((m:Int) - q == 0)=false:=by simpa using h4
     have f2:=J 2;clear J;go_wp2
     go_roundw
     case rel=>exact⟨i+1,by go_num,h1,by rw[z.out];show q+1<=m;omega,by rw[z.out];exact(B.out.s2 ((m:Int) - q - 1)).nd (by omega),iM I.out 2 _,D.out.other E 2 (by omega) _⟩
     case measure=>simp[intOf];omega
  ·have z:Hid ((uZ T pl (rd ts)).length=q):=by have:=HQ.out;rwa [gJ (by omega)] at this
   have HN:Hid ((uZ T pl (rd ts))[(2*nd+b).toNat]? = none):=by
    rw[Hid,HM.out,tF];exact pL (by rw[z.out];exact az)
   obtain⟨e0,e1,e2,e3,e4,J,_⟩:=id HR.out;obtain⟨r0,r1,r2,r3,_⟩:=id HV.out;have y4:=J 4;have df:¬ T=0:=by omega
   have cg:¬ w.heap.size=E:=by omega
   have ch:¬ E=w.heap.size:=by omega
   obtain⟨M,hM⟩:∃ M,2*pl % T=M:=⟨_,rfl⟩;have br:=qQ hM;clear J;go_wp2
   go_region
   generalize hX:(wr.setCell ⟨E,4,none⟩ (int i64 M)).drew=X2;have am:Hid (Rob X2 E (.slice a ts.length c) T ((m:Int) - q) (u+1) M):=hX▸(HR.out.s4 M).drew;have S:Hid (Rv X2 w.heap.size (.slice none 0 0) 0):=hX▸(HV.out.other E 4 (by omega) _).drew;have ai:Hid (w.grownBy X2 (some E)):=hX▸kV (iM HG.out 4 _);clear hX hM e0 e1 e2 e3 e4 r0 r1 r2 r3 y4;obtain⟨r0,r1,r2,r3,_⟩:=id S.out;have a8:=S.out.put (.slice none 0 0) 0;go_wp2;obtain⟨z0,z1,_,_,_⟩:=a8
   exact eQ (v:=.tuple #[qI,.bool false]) (by simp[results,results112,go_sem,z0,z1]) rfl
    ⟨eL (eL ai.out (p:=⟨w.heap.size,0,none⟩) (vQ _) _) (p:=⟨w.heap.size,1,none⟩) (vQ _) _,.inl ⟨rfl,HN.out,by
     rw[br.out,z.out,HM.out];exact(am.out.other w.heap.size 0 (by omega) _).other w.heap.size 1 (by omega) _⟩⟩
theorem uX.elem {ts:List Tr}(h:uX w B v ts)(hB:B<=w.heap.size)(g:xQ w wr){t:Tr}(i:t∈ts):yQ wr B B t.1 t.2.1:=by
 obtain⟨_,_,_,_,_,a,_⟩:=h;exact(a t i).at hB g
def slen:Value->Nat
 | .slice _ n _=>n
 | _=>0
theorem dG {xs:List Value}(h:w.ownsRow base e size v n xs)(l:xQ w w'):w'.ownsRow base e size v n xs:=by
 obtain⟨j,i⟩:=h;refine⟨j,?_⟩;rcases i with i|⟨g,cap,cur,o,m,a,k⟩
 ·exact .inl i
 ·exact .inr ⟨g,cap,cur,o,m,by rw[l.block g (mY.1 a).1];exact a,k⟩
theorem xJ {xs:List Value}(h:w.ownsRow base e size v n xs):∀ k,v.ownBlock=some k->base<=k:=by
 intro k a;obtain⟨_,⟨rfl,_⟩|⟨g,cap,cur,rfl,i,_⟩⟩:=h
 ·simp[Value.ownBlock] at a
 ·simp[Value.ownBlock] at a;omega
theorem pI {xs:List Value}(h:w.ownsRow base e size v n xs):∃ a c,v=.slice a n c:=by
 obtain⟨_,⟨rfl,rfl⟩|⟨g,cap,cur,rfl,_⟩⟩:=h
 ·exact⟨_,_,rfl⟩
 ·exact⟨_,_,rfl⟩
theorem y9 (ds:List Tr)(v:Value)(xs:List Int)(k:Int):flat ds++[v,int i64 k]=flat (ds++[(v,xs,k)]):=by simp[flat]
def nQ (w:World) (lo:Nat) (v:Value) (ds:List Tr):Prop :=
 w.ownsRow lo 186 2 v ds.length (flat ds)/\∀ t∈ds,∃ m,yQ w w.heap.size m t.1 t.2.1/\∀ g,v.ownBlock=some g->m=g
theorem nQ.nil (w:World)(lo:Nat):nQ w lo (.slice none 0 0) []:=⟨⟨rfl,.inl ⟨rfl,rfl⟩⟩,fun t ht=>by cases ht⟩
theorem nQ.keep {lo:Nat}{ds:List Tr}(h:nQ w lo v ds)(a:xQ w w'):nQ w' lo v ds :=
 ⟨dG h.1 a,fun t ht=>let ⟨m,h1,h2⟩:=h.2 t ht;⟨m,h1.at2 a,h2⟩⟩
theorem nQ.slice {lo:Nat}{ds:List Tr}(h:nQ w lo v ds):∃ a c,v=.slice a ds.length c:=pI h.1
theorem nQ.lt {lo:Nat}{ds:List Tr}(h:nQ w lo v ds):∀ g,v.ownBlock=some g->lo<=g/\g<w.heap.size:=h.1.lt
theorem yQ.grow {m':Nat}(h:yQ W B m s xs)(l:W.grownBy w' row)(hB:B<=W.heap.size)(k:∀ g,row=some g->m=g)(v:m' = m\/B<=m'):yQ w' w'.heap.size m' s xs:=by
 obtain⟨a,c,z,hc,p,A⟩:=h;refine⟨a,c,z,hc,p,fun hne=>?_⟩;obtain⟨b,o,ha,C,y,j⟩:=A hne;have:=l.size;refine⟨b,o,ha,by omega,by rcases v with h|h <;> omega,fun i x hi=>?_⟩;refine l.cell (j i x hi) fun e=>y ?_;exact(k b e.symm).symm
theorem nQ.app {lo:Nat}{ds:List Tr}(h:nQ W lo v ds)(j:w'.ownsRow lo 186 2 v' (ds.length+1) (flat ds++[s,int i64 k]))(y:W.grownBy w' v.ownBlock)
  (a:v'.ownBlock=v.ownBlock\/v'.ownBlock=some W.heap.size) (hi:yQ W W.heap.size m s xs) (z:∀ g,v.ownBlock=some g->m=g):nQ w' lo v' (ds++[(s,xs,k)]):=by
 refine⟨by rw[<-y9];simpa using j,fun t l=>?_⟩
 have o:∀ (m:Nat) (s:Value) (xs:List Int),yQ W W.heap.size m s xs->(∀ g,v.ownBlock=some g->m=g)->∃ m',yQ w' w'.heap.size m' s xs/\∀ g,v'.ownBlock=some g->m' = g:=by
  intro m s xs p i;rcases a with a|a
  ·exact⟨m,p.grow y (vQ _) i (.inl rfl),by rw[a];exact i⟩
  ·exact⟨W.heap.size,p.grow y (vQ _) i (.inr (vQ _)),by rw[a];intro g e;simpa using e⟩
 rcases aV.1 l with l|l
 ·obtain⟨m,p,i⟩:=h.2 t l
  exact o m t.1 t.2.1 p i
 ·obtain rfl:t=(s,xs,k):=by simpa using l
  exact o m s xs hi z
theorem nQ.parts {lo:Nat}{ds:List Tr}(h:nQ w lo v ds)(o:ds.length<=1073741824):uX w w.heap.size v ds:=by
 have hi:∀ t∈ds,yQ w w.heap.size w.heap.size t.1 t.2.1:=fun t ht=>let ⟨m,h1,_⟩:=h.2 t ht;h1.mono (vQ _) (.inr (vQ _));by_cases j:v=.slice none 0 0
 ·subst j
  have k:ds=[]:=by
   obtain⟨_,⟨_,k⟩|⟨g,cap,cur,j,_⟩⟩:=h.1
   ·exact oL.1 k
   ·cases j
  subst k;exact yH w _
 ·obtain⟨g,cap,rfl,i,l,a⟩:=tT rfl h.1 j
  exact⟨_,cap,rfl,i,o,hi,fun _=>⟨g,0,rfl,a.lt,a.cells⟩⟩
theorem bkZ (B:Nat)(v:Value)(ts:List Tr)(w:World)(hB:B<=w.heap.size)(P:uX w B v ts) :
  Calls prog 101 #[v] w fun e w'=>∃ v',e=.returned v'/\xQ w w' /\
   ((ts=[]/\v' = .slice none 0 0)\/∃ g cap,v' = .slice (some ⟨g,0,none⟩) ts.length cap/\ts.length<=cap/\w.heap.size<=g/\Row w' g 0 ts):=by
 obtain⟨a,c,rfl,hc,T,G,i⟩:=P;have R:∀ (w:World) (a:Option Addr) (n c n' c':Nat),(binOp .eql 93 (.slice a n c) (.slice none n' c')).run prog w=.ok (.bool a.isNone) w:=fun w a n c n' c'=>tO w _ _ a n c n' c' underlying93;cases a with
 | none =>
  obtain rfl:ts=[]:=by
   cases ts with
   | nil=>rfl
   | cons x l=>obtain⟨b,o,h,_⟩:=i (by simp);cases h
  clear i G;go_enter func101,ntmps101;go_wp2;go_ret;exact⟨_,rfl,uQ _ _,by simp⟩
 | some ad =>
  have A:Hid (∀ j u,(flat ts)[j]? = some u->∀ o,(w.alloc o).cell? (ad.add j)=some u):=by
   intro j u E o;have H:j<ts.length*2:=by rw[<-cL];exact(fQ.1 E).1
   obtain⟨b,U,D,S,m⟩:=i (by rintro rfl;simp at H);simp only[aZ] at D;subst D;rw[bJ,pH _ _ _ (by simp;omega)];exact o7 m j u E
  have M:Hid (∀ u∈flat ts,u.oneCell' = true):=by
   intro u F;obtain⟨t,O,F⟩:=gC.1 F;obtain⟨V,X,D,_⟩:=G t O;simp only[kJ,cI,dI] at F;rcases F with rfl|rfl
   ·rw[D];rfl
   ·rfl
  obtain⟨Q,hi,I,J,L⟩:=pZ gM;clear i G;have y:Hid (ts.length*32<=140737488355328/\ts.length<=maxLen):=⟨by omega,by simp[maxLen];omega⟩;go_enter func101,ntmps101;go_wp2_with (at_builtin;refine qF _ rfl _ _ 93 rfl w.heap.size 186 Q (.agg #[.slice none 0 0,int i64 0]) 2 32 underlying93 hi I J L rfl (by decide) _ _ _ rfl (wO w #[] 0 (vQ _) (dQ _) (by simp)) ad ts.length c (flat ts) rfl ?qc1 ?qc2 ?qc3 ?qc4 ?qc5 ?qc6 ?_)
  case qc1=>exact cL ts
  case qc2=>intro j u E;exact A.out j u E _
  case qc3=>exact M.out
  case qc4=>rw[vX];exact y.out.2
  case qc5=>rw[vX];exact y.out.1
  case qc6=>simp
  intro v' Y C p z;go_wp2;go_ret;refine⟨v',rfl,?_,.inr ?_⟩
  ·exact((uQ _ w).alloc (vQ _) _).grown p (by simp) (by intro k N;simp[Value.ownBlock] at N;omega)
  ·exact tT (vX _) (by simpa using C) z
theorem rK (B:Nat)(v:Value)(ts:List Tr)(w:World)(hB:B<=w.heap.size)(j:uX w B v ts)(er:Int)(k:(fU (rd ts)).2=er) :
  Calls prog 100 #[v] w (iQ w (int i64 er)):=by
 have l:=dmZ B v ts w hB j (fU (rd ts)).1 er (by rw[<-k]);obtain⟨a,c,rfl,hc,m,_⟩:=j;clear k;go_enter func100,ntmps100;go_wp2_with fail;refine l.mono ?_;rintro e p ⟨v1,o,rfl,h,i,g⟩;obtain⟨a1,c1,rfl⟩:=i.slice;clear i h l;go_wp2;go_ret;exact⟨rfl,g⟩
def uH (l:List Pt):Option (List Int):=match l with
 | [p]=>some p.1
 | _=>none
theorem dpX {l:List Pt}{p:Pt}(h:l[0]? = some p)(a:l.length=1):uH l=some p.1:=by
 match l,a,h with
 | [q],_,h=>simp at h;subst h;rfl
theorem dpZ {l:List Pt}(a:l.length≠1):uH l=none:=by
 match l,a with
 | [],_=>rfl
 | _::_::_,_=>rfl
theorem dpJ (N E:Nat)(a:Option Addr)(c:Nat)(ts:List Tr)(T nd u pl:Int)(w:World)(h:Rob w E (.slice a ts.length c) T nd u pl)(P:Rop w N E a c ts)(hN:N<=w.heap.size) :
  Calls prog 111 #[.pointer (some ⟨E,0,none⟩)] w (bjZ (uH (rd ts)) w):=by
 have H:=qQ h;have X:=qQ P;obtain⟨c0,_,_,_,_,_,lt⟩:=h;clear P;by_cases y:ts.length=1
 ·obtain⟨J,bo,S,U,g,k,rfl,aa,a9,Q,d1,d2,O⟩:=X.out.get (i:=0) (by omega)
  have B:=qQ (dpX (yV Q) (by rw[yY,y]));have V:=qQ O;simp only[zS,fI] at d1;rw[y] at c0;have Y:Hid (Rv (w.alloc (.cells #[.slice none 0 0,int i64 0] 110)) w.heap.size (.slice none 0 0) 0):=Rv.new _ _ _ _ _ rfl;have A:xQ w (w.alloc (.cells #[.slice none 0 0,int i64 0] 110)):=ba _ _;have R:=pP N E (.slice S g.length U) g (w.alloc (.cells #[.slice none 0 0,int i64 0] 110)) (by simp;omega) (V.out.at hN A);have d3:∀ o,(w.alloc o).cell? ⟨J,bo,none⟩=some (.slice S g.length U):=fun o=>((ba w o).cell (p:=⟨J,bo,none⟩) (show J<w.heap.size by omega)).trans d1;clear Q O y;go_enter func111,ntmps111;go_wp2_with fail;refine R.mono ?_;rintro e D ⟨v1,rfl,j,l⟩;obtain⟨av,cv,rfl,_⟩:=j w.heap.size (by simp);have z:=qQ (Y.out.below l);have G:Hid (∀ m,m<w.heap.size+1->yQ D D.heap.size m (.slice av g.length cv) g):=fun m C=>j m (by simpa using C);have M:xQ w D:=bt A l;clear R j l;obtain⟨r0,r1,r2,r3,r4⟩:=id z.out;go_wp2;generalize hZ:(D.setCell ⟨w.heap.size,0,none⟩ (.slice av g.length cv)).setCell ⟨w.heap.size,1,none⟩ (int i64 0)=Z;have L:xQ w Z:=hZ▸bs (bs M (p:=⟨w.heap.size,0,none⟩) (vQ _) _) (p:=⟨w.heap.size,1,none⟩) (vQ _) _;have I:Rv Z w.heap.size (.slice av g.length cv) 0:=hZ▸z.out.put _ _
  have F:∀ m,m<w.heap.size+1->yQ Z Z.heap.size m (.slice av g.length cv) g:=by
   have y:=yQ.setm (yQ.setm G.out w.heap.size 0 (by omega) (.slice av g.length cv)) w.heap.size 1 (by omega) (int i64 0);intro m C;have h2:=y m C;rw[<-hZ];simpa using h2
  clear hZ;obtain⟨z0,z1,_,_,_⟩:=I;refine eQ (v:=.tuple #[.agg #[.slice av g.length cv,int i64 0],.bool true]) (by simp[results,results111,go_sem,z0,z1]) rfl ⟨L,fun hh=>?_,fun o ho=>?_⟩
  ·rw[B.out] at hh;cases hh
  ·rw[B.out] at ho
   simp only[aZ] at ho;subst ho;exact⟨av,cv,rfl,fun m C=>F m (by omega)⟩
 ·have B:Hid (uH (rd ts)=none):=dpZ (by rw[yY];exact y)
  have a6:((ts.length:Int) == 1)=false:=by simp;omega
  go_enter func111,ntmps111;go_wp2;refine eQ (v:=.tuple #[qI,.bool false]) (by simp[results,results111,go_sem]) rfl ⟨ba _ _,fun _=>rfl,fun o ho=>?_⟩;rw[B.out] at ho;cases ho
def dqQ (l:List Pt) (er:Int) (w:World) (e:Ending) (w':World):Prop :=
 xQ w w'/\((er≠0/\e=.returned (.tuple #[.pointer none,int i64 er])) \/
  (er=0/\∃ E a c us,e=.returned (.tuple #[.pointer (some ⟨E,0,none⟩),int i64 0])/\rd us=l/\Rob w' E (.slice a us.length c) (tot l) 0 0 1/\Rop w' w'.heap.size E a c us/\w.heap.size<=E))
theorem dqX {us:List Tr}(h:us[i]? = some (s,xs,k)):rd (us.set i (s',xs,k))=rd us:=by
 rw[d8];refine lO fun j=>?_;by_cases e:i=j
 ·subst e
  have:=yV h;rw[wD (by have:=(fQ.1 this).1;exact this),this]
 ·rw[sF e]
theorem Row.setL {us:List Tr}(h:Row w b 0 us)(g:us[i]? = some (s,xs,k))(s':Value) :
  Row (w.setCell ⟨b,i*2,none⟩ s') b 0 (us.set i (s',xs,k)):=by
 have hi:=(fQ.1 g).1;refine⟨fun j u hu=>?_,fun j a=>by rw[eJ];exact h.thaw j (by simpa using a),by simpa using h.lt⟩;simp only[vX];by_cases a:i=j
 ·subst a
  rw[wD hi] at hu;obtain rfl:(s',xs,k)=u:=by simpa using hu
  have c:=h.cells i _ g;simp only[vX] at c;exact⟨uU c.1,by rw[jX (by simp)];exact c.2⟩
 ·rw[sF a] at hu
  have c:=h.cells j u hu;simp only[vX] at c;exact⟨by rw[jX (by simp <;> omega)];exact c.1,by rw[jX (by simp <;> omega)];exact c.2⟩
theorem yQ.set2 (h:yQ w B b v xs)(A:yQ w B m v xs)(k:Nat)(u:Value):yQ (w.setCell ⟨b,k,none⟩ u) B m v xs:=by
 obtain⟨a,c,p,hc,z,E⟩:=A;refine⟨a,c,p,hc,z,fun hne=>?_⟩;obtain⟨b1,F,ha,y,C,g⟩:=E hne;refine⟨b1,F,ha,y,C,fun i x hi=>?_⟩;rw[jX]
 ·exact g i x hi
 ·obtain⟨a2,c2,j,_,_,o⟩:=h
  obtain⟨b2,G,l,_,D,_⟩:=o hne;rw[p,ha,l] at j;simp only[yZ,aZ,dD] at j;intro e;simp only[dD] at e;omega
theorem fT (B:Nat)(v:Value)(ts:List Tr)(w:World)(hB:B<=w.heap.size)(hp:uX w B v ts)(l0:List Pt)(er:Int)(hr:fU (rd ts)=(l0,er)) :
  Calls prog 54 #[v] w (dqQ (rd ts) er w):=by
 have kw:=rK B v ts w hB hp er (by rw[hr]);have HP:Hid (uX w B v ts):=hp;have HR:Hid (fU (rd ts)=(l0,er)):=hr;obtain⟨a,c,rfl,hc,hl,_⟩:=hp;clear hr;go_enter func54,ntmps54;go_wp2_with fail;refine kw.mono ?_;rintro e w1 ⟨rfl,L⟩;clear kw;by_cases h0:er=0
 ·subst h0
  obtain⟨_,D⟩:=qB HR.out;have HD:Hid (Dis (rd ts)):=D;have c7:Hid (ts≠[]):=fun h=>D.ne (by rw[h];rfl);have bv:ts.length<=4096:=by have:=D.few;rwa [yY] at this
  have cb:=L.size;have kc:=bkZ B _ ts w1 (by omega) (HP.out.at hB L);clear D;go_wp2_with fail;refine kc.mono ?_;rintro e w2 ⟨v2,rfl,a8,h2⟩
  obtain⟨g,cap,rfl,au,bw,P⟩:∃ g cap,v2=.slice (some ⟨g,0,none⟩) ts.length cap/\ts.length<=cap/\w1.heap.size<=g/\Row w2 g 0 ts:=by
   rcases h2 with⟨h,_⟩|h
   ·exact absurd h c7.out
   ·exact h
  have am:Hid (Row w2 g 0 ts):=P;have bx:=P.lt;have kb:=bkQ w2;clear kc h2 P;go_wp2_with fail;refine kb.mono ?_;rintro e w3 ⟨rfl,S⟩;have cc:=a8.size;have cd:=S.size;clear kb;go_wp2;generalize hX:w3.alloc (.cells #[.slice (some ⟨g,0,none⟩) ts.length cap,int i64 0,int i64 0,int i64 0,int i64 1] 191)=X;have a9:xQ w X:=hX▸bal (bt (bt L a8) S) _;have aj:Hid (Rob X w3.heap.size (.slice (some ⟨g,0,none⟩) ts.length cap) 0 0 0 1):=hX▸⟨nc _ _ 0 _ rfl rfl,nc _ _ 1 _ rfl rfl,nc _ _ 2 _ rfl rfl,nc _ _ 3 _ rfl rfl,nc _ _ 4 _ rfl rfl,fun j=>nf _ _ j rfl,by simp⟩;have bp:Hid (Row X g 0 ts):=hX▸(am.out.keep S).keep (ba _ _);have bz:g<w3.heap.size:=by omega
  have ae:w.heap.size<=w3.heap.size:=by omega
  have cg:w.heap.size<=g:=by omega
  clear hX;generalize hE:w3.heap.size=E at bz ae aj ⊢;clear L a8 S am cb cc cd hE bw bx
  go_loopw [20] (fun iv wr=>∃ (i:Nat) (I:List Tr),iv=int i64 (i:Int)/\i<=ts.length/\I.length=ts.length/\Hid (rd I=rd ts)/\Hid (Row wr g 0 I)/\Hid (∀ t∈I,∀ m,m=E\/m=g->yQ wr wr.heap.size m t.1 t.2.1)/\Hid (Rob wr E (.slice (some ⟨g,0,none⟩) ts.length cap) (tot ((rd ts).take i)) 0 0 1)/\xQ w wr) (fun iv _=>ts.length - (intOf iv).toNat)
  case atStart =>
   refine⟨0,ts,rfl,dQ _,rfl,rfl,bp,fun t V m hm=>?_,by simpa [tot] using aj,a9⟩;obtain⟨_,_,_,_,_,hI,_⟩:=HP.out.at hB a9;exact(hI t V).mono (bQ hB a9.size) (.inr (by omega))
  case round =>
   obtain⟨i,I,rfl,d7,az,HU,HW,HI,F,N⟩:=hrel;have da:=F.out.lt;have G:Hid (I.length=ts.length):=az;clear az;by_cases h1:i<ts.length
   ·obtain⟨b,o,sa,sc,xs,k,rfl,hb,hs,c1,c2,ao⟩:=HP.out.get hB N h1
    have HS:Hid (ts[i]? = some (.slice sa xs.length sc,xs,k)):=hs;obtain⟨⟨s0,y,z⟩,U⟩:=fX (l:=I) (i:=i) (by have:=G.out;omega)
    have ch:y=xs/\z=k:=by
     have e1:=yV U;rw[HU.out,yV hs] at e1;simp only[aZ,cQ] at e1;exact⟨e1.1.symm,e1.2.symm⟩
    obtain⟨rfl,rfl⟩:=ch;have ak:Hid (I[i]? = some (s0,y,z)):=U;have r1:=(HW.out.cells i _ U).1;have r2:=HW.out.thaw (i*2) (by have:=G.out;omega);simp only[vX] at r1 r2;have bj:Hid (yQ wr B B (.slice sa y.length sc) y):=ao;clear hs U ao;go_wp2_with fail;generalize hO:Obj.cells #[Value.slice sa y.length sc,Value.int IntKind.i64 z] 186=O;have Q:Hid (Rv (wr.alloc O) wr.heap.size (.slice sa y.length sc) z):=hO▸Rv.new _ _ _ _ _ rfl;have a6:Hid (Rob (wr.alloc O) E (.slice (some ⟨g,0,none⟩) ts.length cap) (tot ((rd ts).take i)) 0 0 1):=F.out.alloc O;have ax:=HW.out.lt;have t1:(wr.alloc O).cell? ⟨g,i*2,none⟩=some s0:=((ba wr O).cell (p:=⟨g,i*2,none⟩) ax).trans r1;have t2:(wr.alloc O).frozen? ⟨g,i*2,none⟩=false:=((ba wr O).frozen (p:=⟨g,i*2,none⟩) ax).trans r2;have g7:(wr.alloc O).heap.size=wr.heap.size+1:=by simp
    obtain⟨W,hW⟩:∃ W,wr.alloc O=W:=⟨_,rfl⟩;have HB:Hid (xQ wr W):=hW▸ba wr O;rw[hW] at Q a6 t1 t2 g7 ⊢;clear hO hW r1 r2 c1 c2;have s1:=Q.out.c0;have s2:=a6.out.c0;have dc:¬ g=E:=by omega
    have b5:¬ E=g:=by omega
    have dd:¬ g=wr.heap.size:=by omega
    have af:g<W.heap.size:=by omega
    have ci:wr.heap.size<W.heap.size:=by omega
    have cj:E<W.heap.size:=by omega
    have y1:(i:Int)<(ts.length:Int):=by omega
    go_region_held3 (fun w'=>w'.cell? ⟨wr.heap.size,0,none⟩=some (.slice sa y.length sc)/\w'.cell? ⟨E,0,none⟩=some (.slice (some ⟨g,0,none⟩) ts.length cap))
     ((go_split_ands;refine⟨?_,?_⟩ <;> first|assumption|(simp[go_sem, *];done)))
     ((go_at_call 43;refine(pP B B _ y _ ?_ ?_).mono ?_;(have:=HB.out.size;have:=N.size;show B<=W.heap.size;omega);(exact bj.out.at (by have:=N.size;omega) HB.out.drew);rintro x1 A ⟨v',rfl,R,M⟩;obtain⟨av,cv,cf,_⟩:=R 0 (by show 0<W.heap.size;omega);subst cf;obtain⟨T,aw⟩:=bcell M;have db:W.heap.size<=A.heap.size:=M.size;have q1:A.cell? ⟨g,i*2,none⟩=some s0:=(T _ _ af).trans t1;have q2:A.frozen? ⟨g,i*2,none⟩=false:=(aw _ _ af).trans t2;have q3:A.cell? ⟨wr.heap.size,0,none⟩=some (.slice sa y.length sc):=(T _ _ ci).trans s1;have q4:A.cell? ⟨E,0,none⟩=some (.slice (some ⟨g,0,none⟩) ts.length cap):=(T _ _ cj).trans s2;clear T aw))
    have H:xQ wr A:=bt HB.out.drew M;have al:Hid (Rv (A.setCell ⟨g,i*2,none⟩ (.slice av y.length cv)) wr.heap.size (.slice sa y.length sc) z):=(Q.out.below ((uQ _ W).drew.trans M)).other g (i*2) (by omega) _;have J:Hid (Rob (A.setCell ⟨g,i*2,none⟩ (.slice av y.length cv)) E (.slice (some ⟨g,0,none⟩) ts.length cap) (tot ((rd ts).take i)) 0 0 1):=(F.out.at H).other g (i*2) (by omega) _;have an:Hid (Row (A.setCell ⟨g,i*2,none⟩ (.slice av y.length cv)) g 0 (I.set i (.slice av y.length cv,y,z))):=(HW.out.keep H).setL ak.out _;have bn:Hid (rd (I.set i (.slice av y.length cv,y,z))=rd ts):=by rw[Hid,dqX ak.out];exact HU.out
    have Z:Hid (∀ t∈I.set i (.slice av y.length cv,y,z),∀ m,m=E\/m=g->yQ (A.setCell ⟨g,i*2,none⟩ (.slice av y.length cv)) (A.setCell ⟨g,i*2,none⟩ (.slice av y.length cv)).heap.size m t.1 t.2.1):=by
     intro t V m hm
     have b3:∀ (s:Value) (x:List Int),yQ A A.heap.size g s x->yQ A A.heap.size m s x->yQ (A.setCell ⟨g,i*2,none⟩ (.slice av y.length cv)) (A.setCell ⟨g,i*2,none⟩ (.slice av y.length cv)).heap.size m s x:=by
      intro s x hg c6;have h1:=yQ.set2 hg c6 (i*2) (.slice av y.length cv);simpa using h1
     rcases mI V with h|rfl
     ·exact b3 _ _ ((HI.out t h g (.inr rfl)).at2 H) ((HI.out t h m hm).at2 H)
     ·exact b3 _ _ (R g af) (R m (by show m<W.heap.size;omega))
    have aq:xQ w (A.setCell ⟨g,i*2,none⟩ (.slice av y.length cv)):=bs (bt N H) (p:=⟨g,i*2,none⟩) cg _;have HT:Hid (tot ((rd ts).take (i+1))=tot ((rd ts).take i)+z):=sT (yV HS.out);have ay:=(Nn.of_pos HD.out.pos).tot_take_le i;have aa:=(Nn.of_pos HD.out.pos).tot_take_le (i+1);have ce:=HD.out.le;rw[HT.out] at aa;obtain⟨C,ac⟩:∃ C,tot ((rd ts).take i)=C:=⟨_,rfl⟩;have bm:Hid (tot ((rd ts).take i)=C):=ac;rw[ac] at J ay aa;have d5:0<=C/\C<=1073741824/\0<=C+z/\C+z<=1073741824:=by omega
    generalize hYY:A.setCell ⟨g,i*2,none⟩ (.slice av y.length cv)=Y at al J an Z aq ⊢;clear hYY ac ay aa ce M R H q1 q2 q3 q4 s1 s2 t1 t2 Q a6 F HW HI HU HB;have s1:=al.out.c1;have s2:=J.out.c1;have s3:=J.out.fz 1;go_wp2
    go_region
    go_wp2
    go_roundw
    case rel =>
     refine⟨i+1,I.set i (.slice av y.length cv,y,z),by go_num,h1,by simpa using G.out,bn,?_,?_,?_,(bs aq (p:=⟨E,1,none⟩) ae _).drew⟩
     ·have:=an.out
      exact⟨fun j u hu=>by
       have c:=this.cells j u hu;exact⟨by rw[show((Y.setCell ⟨E,1,none⟩ (int i64 (C+z))).drew).cell? ⟨g,0+j*2,none⟩=(Y.setCell ⟨E,1,none⟩ (int i64 (C+z))).cell? ⟨g,0+j*2,none⟩ from rfl,jX (fun e=>b5 (congrArg Addr.block e))];exact c.1,by rw[show((Y.setCell ⟨E,1,none⟩ (int i64 (C+z))).drew).cell? ⟨g,0+j*2+1,none⟩=(Y.setCell ⟨E,1,none⟩ (int i64 (C+z))).cell? ⟨g,0+j*2+1,none⟩ from rfl,jX (fun e=>b5 (congrArg Addr.block e))];exact c.2⟩,
       fun j hj=>by
        have c:=this.thaw j hj;exact(eJ (w:=Y) (a:=⟨E,1,none⟩) (b:=⟨g,0+j,none⟩) (v:=int i64 (C+z))).trans c,by have:=this.lt;simpa using this⟩
     ·intro t V m hm
      have h1:=yQ.set2 (Z.out t V E (.inl rfl)) (Z.out t V m hm) 1 (int i64 (C+z));have h2:yQ (Y.setCell ⟨E,1,none⟩ (int i64 (C+z))).drew Y.heap.size m t.1 t.2.1:=h1.keep (uQ _ _).drew;simpa using h2
     ·rw[HT.out,bm.out]
      exact(J.out.s1 (C+z)).drew
    case measure=>simp[intOf];omega
   ·have HT:Hid (tot ((rd ts).take i)=tot (rd ts)):=by rw[Hid,vD (by omega)]
    rw[HT.out] at F;go_wp2;refine eQ (v:=.tuple #[.pointer (some ⟨E,0,none⟩),int i64 0]) (by simp[results,results54,go_sem]) rfl ⟨N,.inr ⟨rfl,E,some ⟨g,0,none⟩,cap,I,rfl,HU.out,by rw[G.out];exact F.out,⟨by rw[G.out];exact au,by rw[G.out];exact bv,fun _=>⟨g,0,rfl,HW.out.lt,by omega,HW.out.cells⟩,fun t V=>HI.out t V E (.inl rfl)⟩,ae⟩⟩
 ·have d3:(er == 0)=false:=by simpa using h0
  go_wp2;exact eQ (v:=.tuple #[.pointer none,int i64 er]) (by simp[results,results54,go_sem]) rfl ⟨L,.inl ⟨h0,rfl⟩⟩
theorem dqZ {ts:List Tr}(A:n=ts.length)(h:w.ownsRow base 110 2 v n (flat ts))(o:v≠.slice none 0 0) :
  ∃ g cap,v=.slice (some ⟨g,0,none⟩) ts.length cap/\ts.length<=cap/\base<=g/\Row w g 0 ts:=by
 subst A;obtain⟨_,⟨p,_⟩|⟨g,cap,cur,p,z,a,hc,_,B,C⟩⟩:=h
 ·exact absurd p o
 ·have k:∀ j u,(flat ts)[j]? = some u->w.cell? ⟨g,0+j,none⟩=some u:=by
   intro j u l;have m:j<ts.length*2:=by rw[<-cL];exact(fQ.1 l).1
   have:cur[j]? = some u:=by
    rw[<-C,oG m] at l;simpa using l
   simp[World.cell?,a,this]
  refine⟨g,cap,p,hc,z,⟨fun i t ht=>?_,fun j _=>xP a,(mY.1 a).1⟩⟩;have y:=l7 ts i;exact⟨k _ _ (by rw[y.1,ht];rfl),by rw[cU];exact k _ _ (by rw[y.2,ht];rfl)⟩
def qY (w:World) (lo:Nat) (v:Value) (ds:List Tr):Prop :=
 w.ownsRow lo 110 2 v ds.length (flat ds)/\∀ t∈ds,∃ m,yQ w w.heap.size m t.1 t.2.1/\∀ g,v.ownBlock=some g->m=g
theorem qY.nil (w:World)(lo:Nat):qY w lo (.slice none 0 0) []:=⟨⟨rfl,.inl ⟨rfl,rfl⟩⟩,fun t ht=>by cases ht⟩
theorem qY.keep {lo:Nat}{ds:List Tr}(h:qY w lo v ds)(a:xQ w w'):qY w' lo v ds :=
 ⟨dG h.1 a,fun t ht=>let ⟨m,h1,h2⟩:=h.2 t ht;⟨m,h1.at2 a,h2⟩⟩
theorem qY.slice {lo:Nat}{ds:List Tr}(h:qY w lo v ds):∃ a c,v=.slice a ds.length c:=pI h.1
theorem qY.lt {lo:Nat}{ds:List Tr}(h:qY w lo v ds):∀ g,v.ownBlock=some g->lo<=g/\g<w.heap.size:=h.1.lt
theorem qY.app {lo:Nat}{ds:List Tr}(h:qY W lo v ds)(j:w'.ownsRow lo 110 2 v' (ds.length+1) (flat ds++[s,int i64 k]))(y:W.grownBy w' v.ownBlock)
  (a:v'.ownBlock=v.ownBlock\/v'.ownBlock=some W.heap.size) (hi:yQ W W.heap.size m s xs) (z:∀ g,v.ownBlock=some g->m=g):qY w' lo v' (ds++[(s,xs,k)]):=by
 refine⟨by rw[<-y9];simpa using j,fun t l=>?_⟩
 have o:∀ (m:Nat) (s:Value) (xs:List Int),yQ W W.heap.size m s xs->(∀ g,v.ownBlock=some g->m=g)->∃ m',yQ w' w'.heap.size m' s xs/\∀ g,v'.ownBlock=some g->m' = g:=by
  intro m s xs p i;rcases a with a|a
  ·exact⟨m,p.grow y (vQ _) i (.inl rfl),by rw[a];exact i⟩
  ·exact⟨W.heap.size,p.grow y (vQ _) i (.inr (vQ _)),by rw[a];intro g e;simpa using e⟩
 rcases aV.1 l with l|l
 ·obtain⟨m,p,i⟩:=h.2 t l
  exact o m t.1 t.2.1 p i
 ·obtain rfl:t=(s,xs,k):=by simpa using l
  exact o m s xs hi z
theorem qY.parts {lo:Nat}{ds:List Tr}(h:qY w lo v ds)(o:ds.length<=1073741824):uX w w.heap.size v ds:=by
 have hi:∀ t∈ds,yQ w w.heap.size w.heap.size t.1 t.2.1:=fun t ht=>let ⟨m,h1,_⟩:=h.2 t ht;h1.mono (vQ _) (.inr (vQ _));by_cases j:v=.slice none 0 0
 ·subst j
  have k:ds=[]:=by
   obtain⟨_,⟨_,k⟩|⟨g,cap,cur,j,_⟩⟩:=h.1
   ·exact oL.1 k
   ·cases j
  subst k;exact yH w _
 ·obtain⟨g,cap,rfl,i,l,a⟩:=dqZ rfl h.1 j
  exact⟨_,cap,rfl,i,o,hi,fun _=>⟨g,0,rfl,a.lt,a.cells⟩⟩
theorem bkJ:(prog.info? 110).map (fun i=>(i.zero,i.size,i.bytes))=some (some (.agg #[.slice none 0 0,int i64 0]),2,32):=by kernel_rfl
theorem qY.gb {lo:Nat}{ds:List Tr}(h:qY w lo v ds)(k:w.grownBy w' (some E))(C:E<lo)(y:dZ lo ds):qY w' lo v ds:=by
 refine⟨h.1.kept k ?_,fun t ht=>?_⟩
 ·cases e:v.ownBlock with
  | none=>exact .inl rfl
  | some g=>exact .inr (by have:=(h.lt g e).1;simp;omega)
 ·obtain⟨m,⟨a,c,l,hc,z,B⟩,p⟩:=h.2 t ht
  refine⟨m,⟨a,c,l,hc,z,fun hne=>?_⟩,p⟩;obtain⟨b,o,ha,D,A,j⟩:=B hne;have:=y t ht hne b o none t.2.1.length c (by rw[l,ha]);have:=k.size;exact⟨b,o,ha,by omega,A,fun i x hi=>k.cell (j i x hi) (by simp;omega)⟩
theorem dZ.snoc {lo:Nat}{ds:List Tr}{t:Tr}(h:dZ lo ds)(g:t.2.1≠[]->∀ b o sp n c,t.1=.slice (some ⟨b,o,sp⟩) n c->lo<=b):dZ lo (ds++[t]):=by
 intro u i;rcases aV.1 i with a|a
 ·exact h u a
 ·obtain rfl:u=t:=by simpa using a
  exact g
theorem dqJ (h:∀ g,v.ownBlock=some g->g<n)(a:0<n):∃ m,m<n/\∀ g,v.ownBlock=some g->m=g:=by
 cases e:v.ownBlock with
 | none=>exact⟨0,a,fun g e=>by cases e⟩
 | some g=>exact⟨g,h g e,fun g' e=>by simpa using e⟩
def cF (nx:Nx) (bits:List Int) (times:Int):List Pt × Int:=if xU bits times=0 then (iG nx times.toNat bits,0) else ([],xU bits times)
def yD (lo:Nat) (v:Value) (ds:List Tr):Prop:=(∀ g,v.ownBlock=some g->lo<=g)/\dZ lo ds
theorem yD.nil (lo:Nat):yD lo (.slice none 0 0) []:=⟨fun g h=>by simp[Value.ownBlock] at h,dZ.nil lo⟩
theorem yD.mono {lo:Nat}{ds:List Tr}(h:yD lo v ds)(a:lo'<=lo):yD lo' v ds:=⟨fun g e=>bQ a (h.1 g e),h.2.mono a⟩
def drQ (E:Nat) (l:List Pt) (er:Int) (w:World) (e:Ending) (w':World):Prop :=
 ∃ v' ds,e=.returned (.tuple #[v',int i64 er])/\rd ds=l/\uX w' w'.heap.size v' ds/\w.grownBy w' (some E)/\yD w.heap.size v' ds
def eZ (l:List Pt) (er:Int) (w:World) (e:Ending) (w':World):Prop :=
 ∃ v' ds,e=.returned (.tuple #[v',int i64 er])/\rd ds=l/\uX w' w'.heap.size v' ds/\xQ w w'/\yD w.heap.size v' ds
def mA (b:Int):Bool:=decide (b=0\/b=1)
theorem tP (l:List Int):kY l = !l.all mA:=by
 rw[kY,List.not_all_eq_any_not];congr 1;funext b;simp[mA]
theorem blQ (n:Int)(w:World):Calls prog 104 #[int i64 n] w fun e w'=>e=.returned (.bool (!mA n))/\w' = w:=by
 unfold mA;by_cases a:n=0
 ·subst a
  rw[sJ (by omega)];go_enter func104,ntmps104;go_wp2;go_ret;exact⟨rfl,rfl⟩
 ·have h:(n == 0)=false:=by simpa using a
  by_cases g:n=1
  ·subst g
   rw[sJ (by omega)];go_enter func104,ntmps104;go_wp2;go_ret;exact⟨rfl,rfl⟩
  ·have i:(n == 1)=false:=by simpa using g
   rw[lZ (by omega)];go_enter func104,ntmps104;go_wp2;go_ret;exact⟨by show Ending.returned (.bool (n != 0 && n != 1))=_;simp[a,g],rfl⟩
theorem drX (B nb:Nat)(v:Value)(x:List Int)(w:World)(H:yQ w B nb v x) :
  Calls prog 159 #[v,.func (.func 104) #[] #[]] w fun e w'=>∃ r:Int,e=.returned (int i64 r)/\(decide (0<=r) = !x.all mA)/\w' = w:=by
 obtain⟨a,c,rfl,hc,J,k⟩:=H;have p:=qQ k;clear k;go_enter func159,ntmps159;go_wp2
 go_loop [8] (fun s=>∃ i:Nat,s=int i64 (i:Int)/\i<=x.length/\(x.take i).all mA=true) (fun s=>x.length - (intOf s).toNat)
 case atStart=>exact⟨0,rfl,dQ _,by simp⟩
 case round =>
  obtain⟨i,rfl,G,j⟩:=hrel;have C:=qQ j;clear j;by_cases y:i<x.length
  ·obtain⟨b,o,rfl,I,L,g⟩:=p.out (ne_of_lt y)
   obtain⟨z,A⟩:=fX y;have F:=g i z A;have D:=qQ A;clear g p A;cases hk:mA z with
   | true =>
    have h:=qQ hk;clear hk;have l:=blQ z w;rw[h.out] at l;go_wp2_with (go_at_call 104;refine l.mono ?_;rintro e w' ⟨rfl,rfl⟩)
    go_round
    case rel=>exact⟨i+1,by go_num,y,by rw[nN D.out,C.out,h.out];rfl⟩
    case measure=>simp[intOf];omega
   | false =>
    have h:=qQ hk;clear hk;have l:=blQ z w;rw[h.out] at l;go_wp2_with (go_at_call 104;refine l.mono ?_;rintro e w' ⟨rfl,rfl⟩);go_ret;exact⟨_,rfl,by rw[xL D.out h.out];simp,rfl⟩
  ·have hi:i=x.length:=by omega
   have E:x.all mA=true:=by have:=C.out;rw[hi,bU] at this;exact this
   have m:=qQ E;clear E p;go_wp2;go_ret;exact⟨_,rfl,by rw[m.out];simp,rfl⟩
theorem blX (B nb:Nat)(v:Value)(x:List Int)(w:World)(h:yQ w B nb v x)(r:Bool)(g:x.all mA=r) :
  Calls prog 103 #[v,.func (.func 104) #[] #[]] w fun e w'=>e=.returned (.bool (!r))/\w' = w:=by
 subst g;have i:=qQ h;obtain⟨a,c,rfl,_⟩:=h;go_enter func103,ntmps103;go_wp2_with (go_at_call 159;refine(drX B nb _ x _ i.out).mono ?_;rintro e w' ⟨r,rfl,g,rfl⟩);go_ret;exact⟨qH (by rw[<-g]),rfl⟩
theorem drZ (B N E:Nat){S:Type}(St:World->S->Prop)(P:S->Nx)(us:S->Int)(J:S)(a9:Option (List Int))(D:Drw N E 112 111 St P us J a9)(v:Value)(bits:List Int)(w:World)(hB:B<=N)(hN:N<=w.heap.size)(hs:St w J)(hv:yQ w B E v bits)(Q:kY bits=false)(bh:bits.length<=65536) :
  Calls prog 105 #[.iface 136 (.pointer (some ⟨E,0,none⟩)),v] w (doX B E St (xK P J a9) J bits w):=by
 have bv : ∀ w : World, (method 440 136 (.pointer (some ⟨E, 0, none⟩)) "Sure").run prog w = .ok (111, .pointer (some ⟨E, 0, none⟩)) w := fun _ => by kernel_rfl
 have bw : ∀ w : World, (method 440 136 (.pointer (some ⟨E, 0, none⟩)) "Feed").run prog w = .ok (112, .pointer (some ⟨E, 0, none⟩)) w := fun _ => by kernel_rfl
 have HV:=qQ hv;have Y:=qQ D;have HS:=qQ hs;have af:=qQ Q;have lt:=D.lt;obtain⟨a,c,rfl,hc,hl,_⟩:=hv;have ak:xQ w (w.alloc (.cells #[.slice none 0 0,int i64 0] 110)):=ba _ _;have kc:=D.sure (w.alloc (.cells #[.slice none 0 0,int i64 0] 110)) J (D.keep hs (ak.mono hN) hN) (by simp;omega);have ag:Hid (Rv (w.alloc (.cells #[.slice none 0 0,int i64 0] 110)) w.heap.size (.slice none 0 0) 0):=Rv.new _ _ _ _ _ rfl;clear D hs Q ak;go_enter func105,ntmps105;go_wp2_with fail;refine kc.mono ?_;rintro e V ⟨y,a7,a8⟩;clear kc;have b5:w.heap.size+1<=V.heap.size:=by simpa using y.size
 have l:=qQ (ag.out.below y);have O:Hid (w.grownBy V (some E)):=zH (bt (ba _ _) y);cases hsur:a9 with
 | some o =>
  obtain⟨L,M,rfl,hI⟩:=a8 o hsur;have z:Hid (∀ m,m<w.heap.size+1->yQ V V.heap.size m (.slice L o.length M) o):=fun m R=>hI m (by simpa using R);clear a7 a8 hI;subst hsur;obtain⟨r0,r1,r2,r3,r4⟩:=l.out;go_wp2;generalize hX:((V.setCell ⟨w.heap.size,0,none⟩ (.slice L o.length M)).setCell ⟨w.heap.size,1,none⟩ (int i64 0)).alloc (.cells #[.slice L o.length M,int i64 0] 110)=X;have g:xQ w X:=hX▸bal (bs (bs (bt (ba _ _) y) (p:=⟨w.heap.size,0,none⟩) (vQ _) _) (p:=⟨w.heap.size,1,none⟩) (vQ _) _) _;have A:Rv X w.heap.size (.slice L o.length M) 0:=hX▸((l.out.put _ _).alloc _)
  have a6:Hid (∀ m,m<w.heap.size+1->yQ X X.heap.size m (.slice L o.length M) o):=by
   have I:=yQ.setm (yQ.setm z.out w.heap.size 0 (by omega) (.slice L o.length M)) w.heap.size 1 (by omega) (int i64 0);intro m R;have G:=I m R;rw[show V.heap.size=((V.setCell ⟨w.heap.size,0,none⟩ (.slice L o.length M)).setCell ⟨w.heap.size,1,none⟩ (int i64 0)).heap.size by simp] at G;rw[<-hX];exact(G.keep (ba _ _)).mono (by simp) (.inl rfl)
  have F:=qQ (HV.out.at (by omega) g);have C:=qQ (Y.out.keep HS.out (g.mono hN) hN);clear hX;obtain⟨x0,x1,_,_,_⟩:=A;refine eQ (v:=.tuple #[.agg #[.slice L o.length M,int i64 0],.slice a bits.length c,.bool true]) (by simp[results,results105,go_sem,x0,x1]) rfl ⟨zH g,.inr ⟨L,M,o,0,a,c,0,rfl,rfl,fun m R=>a6.out m (by omega),F.out,C.out⟩⟩
 | none =>
  have he:=a7 hsur;subst he;subst hsur;clear a7 a8;obtain⟨r0,r1,r2,r3,r4⟩:=l.out;go_wp2;generalize hX:V.alloc (.cells #[.slice none 0 0,int i64 0] 110)=X;have g:xQ w X:=hX▸bal (bt (ba _ _) y) _;have A:Hid (Rv X w.heap.size (.slice none 0 0) 0):=hX▸l.out.alloc _;have C:=qQ (Y.out.keep HS.out (g.mono hN) hN);clear hX y r0 r1 r2 r3 r4 l ag O b5
  go_loopw [23] (fun iv wr=>∃ (i:Nat) (s:S),iv=int i64 (i:Int)/\i<=bits.length/\Hid (St wr s/\us s=i/\P J bits=P s (bits.drop i))/\Hid (w.grownBy wr (some E))/\Hid (Rv wr w.heap.size (.slice none 0 0) 0)) (fun iv _=>bits.length - (intOf iv).toNat)
  case atStart=>exact⟨0,J,rfl,dQ _,⟨C.out,Y.out.u0,by simp⟩,zH g,A⟩
  case round =>
   obtain⟨i,s,rfl,br,z,O,l⟩:=hrel;have hz:w.heap.size+1<=wr.heap.size:=l.out.lt;by_cases I:i<bits.length
   ·obtain⟨b,hb⟩:=fX I
    have HB:=qQ hb;have ah:=qQ (HV.out.gb O.out);obtain⟨_,_,am,_,_,hx⟩:=ah.out;simp only[yZ] at am;obtain⟨rfl,_,rfl⟩:=am;obtain⟨bb,bo,rfl,bn,bp,H⟩:=hx (ne_of_lt I);have c1:=H i b hb;have al:=j9 af.out hb;have kc:=Y.out.feed rfl wr s b z.out.1 (by omega) al (by rw[z.out.2.1];omega);clear hb hx H;go_wp2_with fail;refine kc.mono ?_;rintro e w2 ⟨j,⟨rfl,s',G,h3,h4⟩|⟨T,U,o,rfl,G,h3,h4⟩⟩
    ·have k:Hid (St w2 s'/\us s' = (i+1:Nat)/\P J bits=P s' (bits.drop (i+1))):=⟨G,by rw[h3,z.out.2.1];omega,by
      rw[z.out.2.2,eV I,<-h4];have:=(fQ.1 HB.out).2;rw[this]⟩
     have h:=qQ (l.out.gb j (by omega));have Z:=qQ (sU O.out j);clear kc G h3 h4 j z O l;obtain⟨r0,r1,r2,r3,r4⟩:=h.out;go_wp2
     go_roundw
     case rel=>exact⟨i+1,s',by go_num,I,⟨Y.out.keep k.out.1 ((ba _ _).mono (by omega)) (by omega),k.out.2⟩,fG Z.out _,h.out.alloc _⟩
     case measure=>simp[intOf];omega
    ·have k:Hid (P J bits=some (o,(i:Int)+1,bits.drop (i+1))):=by
      have:=(fQ.1 HB.out).2;rw[Hid,z.out.2.2,eV I,this,h4,z.out.2.1]
     have ax:=qQ h3;have hu:us s=(i:Int):=z.out.2.1;rw[hu];have h:=qQ (l.out.gb j (by omega));have Z:=qQ (sU O.out j);have HO:=qQ G;have ay:=qQ (ah.out.gb j);clear kc G h3 h4 j z O l hu;obtain⟨r0,r1,r2,r3,r4⟩:=h.out;go_wp2
     go_region
     generalize hX:(((w2.setCell ⟨w.heap.size,0,none⟩ (.slice T o.length U)).setCell ⟨w.heap.size,1,none⟩ (int i64 ((i:Int)+1))).alloc (.cells #[.slice T o.length U,int i64 ((i:Int)+1)] 110)).drew=X;have az:w.grownBy X (some E):=hX▸kV (fG (eL (eL Z.out (p:=⟨w.heap.size,0,none⟩) (vQ _) _) (p:=⟨w.heap.size,1,none⟩) (vQ _) _) _);have g:Below w.heap.size w2 X:=hX▸(((((uQ w.heap.size w2).setCell (p:=⟨w.heap.size,0,none⟩) (vQ _) _).setCell (p:=⟨w.heap.size,1,none⟩) (vQ _) _).alloc (by simp;omega) _).drew);have A:Rv X w.heap.size (.slice T o.length U) ((i:Int)+1):=hX▸((h.out.put _ _).alloc _).drew
     have a6:Hid (∀ m,m<w.heap.size+1->yQ X X.heap.size m (.slice T o.length U) o):=by
      have I:=yQ.setm (yQ.setm (fun m R=>HO.out m (by omega)) w.heap.size 0 (show w.heap.size<w.heap.size+1 by omega) (.slice T o.length U)) w.heap.size 1 (by omega) (int i64 ((i:Int)+1));intro m R;have G:=I m R;rw[show w2.heap.size=((w2.setCell ⟨w.heap.size,0,none⟩ (.slice T o.length U)).setCell ⟨w.heap.size,1,none⟩ (int i64 ((i:Int)+1))).heap.size by simp] at G;rw[<-hX];exact(G.keep (ba _ _).drew).mono (by simp) (.inl rfl)
     have F:=qQ ((ay.out.drop2 (i+1) I).keep (g.mono (by omega)));have C:=qQ (Y.out.keep ax.out (g.mono (by omega)) (by omega));rw[pF] at F;clear hX;obtain⟨x0,x1,_,_,_⟩:=A;generalize hsl:(if c=i+1 then some (⟨bb,bo,none⟩:Addr) else some ⟨bb,bo+(i+1),none⟩)=sl at F ⊢;clear hsl;go_wp2
     exact eQ (v:=.tuple #[.agg #[.slice T o.length U,int i64 ((i:Int)+1)],.slice sl (bits.length - (i+1)) (c - (i+1)),.bool true]) (by simp[results,results105,go_sem,x0,x1]) rfl
      ⟨az,.inr ⟨T,U,o,_,_,_,i+1,k.out,by rw[pF],fun m R=>a6.out m (by omega),by rw[pF];exact F.out,C.out⟩⟩
   ·have k:Hid (P J bits=none):=by rw[Hid,z.out.2.2,gA (by omega),Y.out.nil]
    have h:=l.out.put (.slice none 0 0) 0;obtain⟨r0,r1,r2,r3,r4⟩:=l.out;obtain⟨x0,x1,_,_,_⟩:=h;go_wp2
    exact eQ (v:=.tuple #[qI,.slice none 0 0,.bool false]) (by simp[results,results105,go_sem,x0,x1]) rfl
     ⟨eL (eL O.out (p:=⟨w.heap.size,0,none⟩) (vQ _) _) (p:=⟨w.heap.size,1,none⟩) (vQ _) _,.inl ⟨k.out,rfl⟩⟩
