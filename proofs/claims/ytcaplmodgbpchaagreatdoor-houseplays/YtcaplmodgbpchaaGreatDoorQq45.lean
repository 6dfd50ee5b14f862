import Derived.Test.YtcaplmodgbpchaaGreatDoorQq44
import Derived.Test.YtcaplmodgbpchaaGreatDoorQq25
import Derived.ChangeSame
open Go.Proofs.Tryz
open Go.Value(int)
open Go.IntKind(i64)
set_option linter.unusedSimpArgs false
set_option maxHeartbeats 16000000
set_option maxRecDepth 100000
namespace Go.Proofs.YtcaplmodgbpchaaGreatDoor
variable {W W' w w':World} {r:Option Nat} {B g i j:Nat} {o:Obj} {V v v0 v1 x y:Value} {t:TypeId} {ps:List Int} {n:ByteArray} {css:List (List Value)} {G N:Nat->Prop} {ds:List Value}
namespace K.P
open Go.RowKit Go.Shelf K.Ds
attribute [local go_sem] bL
theorem hkp (h:W.heap[g]? = some o)(a:W.grownBy W' r)(i:some g≠r):W'.heap[g]? = some o:=(a.block g (mY.1 h).1 i).trans h
theorem ffZ (h:w.heap[g]? = some (.cells #[x,y] t (0,0))):TwoB w g x y:=by
 have a:=(mY.1 h).1;constructor <;> first|exact a|simp[World.cell?,World.frozen?,h]
theorem prot (h:(Value.pointer (some ⟨W.heap.size,0,none⟩))=.pointer (some ⟨g,0,none⟩)):W.heap.size<=g/\g<(W.alloc o).heap.size:=by cases h;exact⟨vQ _,by simp⟩
theorem ffJ {f:Int->Rq × Int}{m:Rq}(i:pQ m)(j:∀ p,(f p).2=0->pQ (f p).1)(h:(oZ f m ps).2=0):pQ (oZ f m ps).1:=by
 induction ps generalizing m with
 | nil=>exact i
 | cons q ps ih =>
  simp only[oZ] at h ⊢;by_cases a:(f q).2=0
  ·simp only[a,↓reduceIte] at h ⊢
   refine ih ?_ h;by_cases g:sX m (f q).1
   ·rw[jQ g];exact j q a
   ·rw[zQ g];exact i
  ·simp only[a,↓reduceIte] at h
theorem fgQ {l:List En}(a:∀ e∈l,pQ e.2.2.2)(h:(cJ l n).2=0):pQ (cJ l n).1:=by
 have g:(kX l n).2=0->pQ (kX l n).1:=fun h0=>by
  rcases alZ sK (alJ a n 2 0) with⟨_,k⟩|k
  ·exact k
  ·unfold kX at h0;rw[k] at h0;simp at h0
 have i:∀ p,(mQ l n p).2=0->pQ (mQ l n p).1:=fun p h0=>by
  rcases alZ sK (alJ a n 3 p) with⟨_,k⟩|k
  ·exact k
  ·unfold mQ at h0;rw[k] at h0;simp at h0
 unfold cJ at h ⊢;by_cases c1:(kX l n).2=0
 ·rw[jQ c1] at h ⊢
  by_cases c2:(oZ (mQ l n) pX (prs l n)).2=0
  ·rw[jQ c2] at h ⊢
   rcases rI (g c1) (ffJ sK i c2) with⟨_,k,_⟩|k
   ·exact k
   ·rw[k] at h;simp at h
  ·rw[zQ c2] at h;exact absurd h c2
 ·rw[zQ c1] at h;exact absurd h c1
theorem fgX {l:List En}(h:Inv l){b:Rq}(a:iX l n=some b):pQ b:=by
 unfold iX at a;obtain⟨x,g,rfl⟩:=wR.1 a;exact(fD (h.bad x (List.mem_of_find?_eq_some g)).1).2.2.2
theorem fgZ (B:Nat)(dv:Value)(l:List En)(e:En)(w:World)(hB:B<=w.heap.size)(hx:uJ w B dv l)(hinv:Inv l)(V:mZ e=0)(ck:l.length<4096)(cq:-9223372036854775808<=e.2.2.1/\e.2.2.1<=9223372036854775807) :
  Calls prog 33 #[dv,ev e] w (iQ w (int i64 (zZ l e))):=by
 obtain⟨er,M⟩:∃ er,zZ l e=er:=⟨_,rfl⟩;rw[M];have HX:=qQ hx;have aa:=qQ hinv;obtain⟨a,c,rfl,hc,hl⟩:=hx.slice;obtain⟨d,nm,p,u,v⟩:=e;obtain⟨ch,ci,J,E⟩:=fD V;simp only at ch ci J E cq;have dh:=qQ V
 have an:nm.size<=9223372036854775807:=by
  have F:=J;unfold mJ at F;simp only[eI,dJ] at F;have G:=F.1.2;rw[rL] at G
  show nm.data.size<=_
  omega
 rw[tN V ck] at M;simp only at M;obtain⟨Z,a7⟩:∃ Z,iX l nm=Z:=⟨_,rfl⟩;rw[a7] at M;have D:=M;have kn:=fun W=>dS nm an W true J;have kr:=fun W=>refRight_any u v true E.1 W;have bi:=fun W (hW:B<=W.heap.size) (h:uJ W B (.slice a l.length c) l)=>e9Z B _ l nm W hW h Z a7;obtain⟨X,i⟩:∃ X,w.alloc (.cells #[int i64 d,.string nm,int i64 p,int i64 u,int i64 v] 72)=X:=⟨_,rfl⟩;have V0:=FivB.new w (int i64 d) (.string nm) (int i64 p) (int i64 u) (int i64 v) 72 _ rfl;have cg:xQ w X:=by rw[<-i];exact ba _ _
 have dx:X.heap.size=w.heap.size+1:=by rw[<-i];simp
 rw[i] at V0;have ca:=qQ V0;obtain⟨x0,x1,x2,x3,x4,_,_,_,_,_,dq⟩:=V0;have d5:¬ d<1:=by omega
 have d4:¬ d > 3:=by omega
 have dw:¬ u<v:=by have:=E.2;simp only at this;omega
 have ax:=qQ E;have c6:=qQ an;have bv:=qQ a7;clear V M hx hinv E J an a7;go_enter func33,ntmps33;go_wp2_with fail;refine(kn _).mono ?_;rintro e1 w1 ⟨rfl,rfl⟩;go_wp2_with fail;refine(kr _).mono ?_;rintro e2 w2 ⟨rfl,bf⟩;have Y:=qQ (ca.out.below bf);obtain⟨y0,y1,y2,y3,y4,_,_,_,_,_,dr⟩:=Y.out;have B2:xQ w w2:=bt cg bf;go_wp2_with fail;refine(bi _ (bQ hB B2.size) (HX.out.at hB B2)).mono ?_;rintro e3 w3 ⟨rfl,a6⟩;obtain⟨X3,C⟩:∃ X3,w3.alloc (.cells #[int i64 (Z.getD (0,0)).1,int i64 (Z.getD (0,0)).2] 37)=X3:=⟨_,rfl⟩;have af:xQ w3 X3:=by rw[<-C];exact ba _ _
 have d7:X3.heap.size=w3.heap.size+1:=by rw[<-C];simp
 have aj:=qQ ((Y.out.below a6).below af);have P:Hid (TwoB X3 w3.heap.size (int i64 (Z.getD (0,0)).1) (int i64 (Z.getD (0,0)).2)):=by rw[<-C];exact TwoB.new _ _ _ 37 _ rfl
 have B3:xQ w X3:=bt (bt B2 a6) af;obtain⟨z0,z1,z2,z3,z4,_,_,_,_,_,dt⟩:=aj.out;clear kn kr bi x0 x1 x2 x3 x4 y0 y1 y2 y3 y4;by_cases j:d=1
 ·subst j
  cases Z with
  | some b =>
   simp only[Option.getD_some] at P C ⊢;obtain rfl:7=er:=by simpa using D
   go_wp2;go_ret;exact⟨rfl,B3⟩
  | none =>
   simp only[Option.getD_none] at P C ⊢;subst C;obtain⟨q0,q1,q2,q3,q4,_,_,_,_,_,cm⟩:=Y.out.below a6;clear z0 z1 z2 z3 z4;have cu:=fbJ B _ l (w3.alloc (.cells #[int i64 0,int i64 0] 37)) (bQ hB B3.size) (HX.out.at hB B3) (by omega);go_wp2_with fail;refine cu.mono ?_;rintro e4 w4 ⟨r,rfl,R,bg⟩;obtain⟨ra,rc,rfl⟩:=iY R;have bh:(aY l).length=(bY l).length:=e9Q l;by_cases H:64<=(bY l).length
   ·obtain rfl:5=er:=by simpa [H] using D
    have cj:((aY l).length:Int) ≥ 64:=by omega
    clear R bh;go_wp2;go_ret;exact⟨rfl,bt B3 bg⟩
   ·obtain rfl:0=er:=by simpa [H] using D
    have cj:¬ ((aY l).length:Int) ≥ 64:=by omega
    clear R bh;go_wp2;go_ret;exact⟨rfl,bt B3 bg⟩
 ·have dj:(d == 1)=false:=by simpa using j
  cases Z with
  | none =>
   simp only[Option.getD_none] at P C ⊢;subst C;obtain⟨q0,q1,q2,q3,q4,_,_,_,_,_,cm⟩:=Y.out.below a6;clear z0 z1 z2 z3 z4;obtain rfl:7=er:=by simpa [j] using D
   go_wp2;go_ret;exact⟨rfl,B3⟩
  | some b =>
   simp only[j,↓reduceIte] at D;simp only[Option.getD_some] at P C ⊢;obtain⟨⟨U,T⟩,S⟩:∃ y,cJ (l++[(d,nm,p,u,v)]) nm=y:=⟨_,rfl⟩
   have Q:∀ e∈l++[(d,nm,p,u,v)],pQ e.2.2.2:=by
    intro e he;rcases aV.1 he with h|h
    ·exact(fD (aa.out.bad e h).1).2.2.2
    ·simp at h;subst h;exact ax.out
   have az:=qQ Q;have ay:Hid (T=0->pQ U):=fun h0=>by have h:=fgQ Q (n:=nm) (by rw[S];exact h0);rw[S] at h;exact h
   have aw:=qQ (fgX aa.out bv.out);rw[S] at D;simp only at D;have a9:Hid _:=D;have bz:=qQ S
   have au:Hid (∀ x∈l++[(d,nm,p,u,v)],x.2.1.size<=9223372036854775807):=by
    obtain⟨_,_,_,_,_,hn,_⟩:=HX.out;intro x ct;rcases aV.1 ct with h|h
    ·exact hn x h
    ·simp at h;subst h;exact c6.out
   have N:=qQ B3;have I:l.length<=4096:=by omega
   clear S D Q;go_upto_if 57 with fail;clear C
   go_cut [] (fun wx=>Hid (xQ X3 wx)/\Hid ((if T≠0 then T else if sX U b then 0 else 10)=er))
   case first =>
    by_cases A:d=3
    ·have du:(d == 3)=true:=by simpa using A
     have m:=a9.out;simp only[A,true_and] at m;by_cases hp:p<0\/1073741824<p
     ·obtain rfl:3=er:=by simpa [hp] using m
      clear m A;rcases hp with hp|hp
      ·go_wp2
       go_ret;exact⟨rfl,N.out⟩
      ·have cn:¬ p<0:=by omega
       have co:p > 1073741824:=hp;go_wp2;go_ret;exact⟨rfl,N.out⟩
     ·have cn:¬ p<0:=by omega
      have co:¬ p > 1073741824:=by omega
      rw[zQ hp] at m;have bw:Hid _:=m;have aq:=qQ A;clear m A hp;go_upto_region 21 with fail
      refine zO [66,67,68,69,70,71,72,73,74,7] (fun L o W=>vV [(1,67,.slice a l.length c),(3,69,.agg #[int i64 d,.string nm,int i64 p,int i64 u,int i64 v]),(6,72,.pointer (some ⟨w.heap.size,1,none⟩)),(7,73,.string nm)] L o /\
       (AA X3 (fun _=>False) 72 5 l.length (enc l) (yG (d,nm,p,u,v)) (L 0) (L 2) (L 4) (L 5) (L 8) (o 66) (o 68) (o 70) (o 71) W/\(L 8=true->∃ pa pc,o 74=.slice pa (bZ (l++[(d,nm,p,u,v)]) nm).length pc)/\(L 9=true->L 8=true/\o 7=o 74))) [0,1,2,3,4,5,6,7,8,9] (by kernel_rfl) ⟨?_,?_,?_,?_,?_,?_,?_,?_,?_,?_,trivial⟩ (by kernel_rfl) ?_ ?_
      all_goals first
       | (refine mT rfl rfl (by decide) rfl rfl (fun _ _ _ h=>h) (fun L o W h0 j z i=>?_);obtain⟨c0,c1,c2,c3,c4,_,_,_,_,_,_⟩:=aj.out.below i.1.bel;clear i;first | (go_simp;done) | (have q:=z.get 2 rfl (j 6 (by decide));go_simp;done))
       | skip
      ·refine bV rfl rfl rfl (fun L o W h0 j z i K hK=>?_)
       exact gG (v:=.slice (some ⟨W.heap.size,0,none⟩) 0 0) (w':=W.alloc (.cells #[] 72)) (by go_simp) (hK _ _ ⟨i.1.row0,i.2⟩)
      ·refine bV rfl rfl rfl (fun L o W h0 j z i K hK=>?_)
       exact i.1.app2e (.tmp 66) (.tmp 67) rfl (vY (by decide) (by simp)) ((vY (by decide) (by simp)).trans (z.get 0 rfl (j 1 (by decide)))) (j 0 (by decide)) h0 I (mW (HX.out.at hB (bt N.out i.1.bel))) (fun v w' k _ _=>hK v w' ⟨k,i.2⟩)
      ·refine bV rfl rfl rfl (fun L o W h0 j z i K hK=>?_)
       have q:=z.get 1 rfl (j 3 (by decide));exact gG (v:=.slice (some ⟨W.heap.size,0,none⟩) 1 1) (w':=W.alloc (.cells #[int i64 d,.string nm,int i64 p,int i64 u,int i64 v] 72)) (by go_simp) (hK _ _ ⟨i.1.row4 h0,i.2⟩)
      ·refine bV rfl rfl rfl (fun L o W h0 j z i K hK=>?_)
       exact i.1.app5e (.tmp 68) (.tmp 70) rfl (vY (by decide) (by simp)) (vY (by decide) (by simp)) (j 2 (by decide)) (j 4 (by decide)) h0 I (fun v w' k _ _=>hK v w' ⟨k,i.2⟩)
      ·refine bV rfl rfl rfl (fun L o W h0 j z i K hK=>?_)
       have q:=z.get 3 rfl (j 7 (by decide));have ro:=(i.1.f5 (j 5 (by decide))).2.2 h0;rw[<-wN] at ro;refine nT (by go_simp) (feZ W.heap.size (o 71) (l++[(d,nm,p,u,v)]) nm W (vQ _) (wI (dn:=l++[(d,nm,p,u,v)]) (by rw[sY];exact ro) (by simp;omega) au.out) (by simp;omega)) (fun e w' ⟨r,e1,hr,V⟩=>⟨r,e1,hK r w' ⟨(i.1.at V).done,fun _=>iY hr,fun h=>Bool.noConfusion ((i.2.2 h).1.symm.trans h0)⟩⟩)
      ·refine bV rfl rfl rfl (fun L o W h0 j z i K hK=>?_)
       exact gG (v:=o 74) (w':=W) (by go_simp) (hK _ _ ⟨i.1,i.2.1,fun _=>⟨j 8 (by decide),rfl⟩⟩)
      ·intro L o W hL ⟨z,hA,h8,h9⟩
       obtain⟨pa,pc,b6⟩:=h8 (hL 8 (by decide));have e7:=(h9 (hL 9 (by decide))).2.trans b6;simp only[ov,List.foldl_cons,List.foldl_nil,List.setIfInBounds_toArray,List.set_cons_zero,List.set_cons_succ];rw[e7];have O:=qQ hA.bel;clear z hA h8 h9 b6 e7 hL;have m:=bw.out;by_cases H:64<(bZ (l++[(d,nm,p,u,v)]) nm).length
       ·obtain rfl:5=er:=by simpa [<-aq.out,H] using m
        have ce:((bZ (l++[(d,nm,p,u,v)]) nm).length:Int) > 64:=by omega
        clear m H;go_wp2;go_ret;exact⟨rfl,bt N.out O.out⟩
       ·rw[<-aq.out,zQ H] at m
        have ai:Hid _:=m;have ce:¬ ((bZ (l++[(d,nm,p,u,v)]) nm).length:Int) > 64:=by omega
        clear m H;go_wp2;go_meet;exact⟨O.out,ai.out⟩
      ·intro o
       exact⟨fun t _ h=>Bool.noConfusion h,AA.zero _ _ _ _,fun h=>Bool.noConfusion h,fun h=>Bool.noConfusion h⟩
    ·have di:(d == 3)=false:=by simpa using A
     have m:=a9.out;simp only[A,false_and,↓reduceIte] at m;have ai:Hid _:=m;clear m A;go_wp2;go_meet;exact⟨uQ _ _,ai.out⟩
   case rest =>
    obtain⟨ah,bx⟩:=hcut;have cb:=qQ (aj.out.below ah.out);have c8:=qQ (P.out.below ah.out);have O:=qQ (bt N.out ah.out);go_upto_region 24 with fail
    refine zO [79,80,81,82,83,84,85,86,87,78,88,89,8,9] (fun L o W=>vV [(1,80,.slice a l.length c),(3,82,.agg #[int i64 d,.string nm,int i64 p,int i64 u,int i64 v]),(6,85,.pointer (some ⟨w.heap.size,1,none⟩)),(7,86,.string nm),(9,78,.tuple #[rvq U,int i64 T]),(10,88,rvq U),(11,89,int i64 T),(14,9,int i64 T)] L o /\
     (AA wc (fun g=>L 12=true/\o 8=.pointer (some ⟨g,0,none⟩)) 72 5 l.length (enc l) (yG (d,nm,p,u,v)) (L 0) (L 2) (L 4) (L 5) (L 8) (o 79) (o 81) (o 83) (o 84) W/\(L 8=true->o 87=.tuple #[rvq U,int i64 T])/\(L 13=true->L 12=true)/\(L 12=true->∃ g,wc.heap.size<=g/\o 8=.pointer (some ⟨g,0,none⟩)/\(L 13=false->W.heap[g]? = some (.cells #[int i64 0,int i64 0] 37 (0,0)))/\(L 13=true->W.heap[g]? = some (.cells #[int i64 U.1,int i64 U.2] 37 (0,0)))))) [0,1,2,3,4,5,6,7,8,9,10,11,12,13,14] (by kernel_rfl) ⟨?_,?_,?_,?_,?_,?_,?_,?_,?_,?_,?_,?_,?_,?_,?_,trivial⟩ (by kernel_rfl) ?_ ?_
    all_goals first
     | (refine mT rfl rfl (by decide) rfl rfl (fun _ _ _ h=>h) (fun L o W h0 j z i=>?_);obtain⟨c0,c1,c2,c3,c4,_,_,_,_,_,_⟩:=cb.out.below i.1.bel;first | (clear i;go_simp;done) | (have q:=z.get 2 rfl (j 6 (by decide));clear i;go_simp;done) | (have q:=i.2.1 (j 8 (by decide));clear i;go_simp;done) | (have q:=z.get 4 rfl (j 9 (by decide));clear i;go_simp;done) | (have q:=z.get 6 rfl (j 11 (by decide));clear i;go_simp;done))
     | skip
    ·refine bV rfl rfl rfl (fun L o W h0 j z i K hK=>?_)
     exact gG (v:=.slice (some ⟨W.heap.size,0,none⟩) 0 0) (w':=W.alloc (.cells #[] 72)) (by go_simp) (hK _ _ ⟨i.1.row0,i.2.1,i.2.2.1,fun h=>let ⟨g,F,G,h3,h4⟩:=i.2.2.2 h;⟨g,F,G,fun k=>hkp (h3 k) (cZ (ba _ _)) (by simp),fun k=>hkp (h4 k) (cZ (ba _ _)) (by simp)⟩⟩)
    ·refine bV rfl rfl rfl (fun L o W h0 j z i K hK=>?_)
     exact i.1.app2e (.tmp 79) (.tmp 80) rfl (vY (by decide) (by simp)) ((vY (by decide) (by simp)).trans (z.get 0 rfl (j 1 (by decide)))) (j 0 (by decide)) h0 I (mW (HX.out.at hB (bt O.out i.1.bel))) (fun v w' k hg hn=>hK v w' ⟨k,i.2.1,i.2.2.1,fun h=>let ⟨g,F,G,h3,h4⟩:=i.2.2.2 h;⟨g,F,G,fun k=>hkp (h3 k) hg (fun c=>hn g ⟨h,G⟩ c.symm),fun k=>hkp (h4 k) hg (fun c=>hn g ⟨h,G⟩ c.symm)⟩⟩)
    ·refine bV rfl rfl rfl (fun L o W h0 j z i K hK=>?_)
     have q:=z.get 1 rfl (j 3 (by decide));exact gG (v:=.slice (some ⟨W.heap.size,0,none⟩) 1 1) (w':=W.alloc (.cells #[int i64 d,.string nm,int i64 p,int i64 u,int i64 v] 72)) (by go_simp) (hK _ _ ⟨i.1.row4 h0,i.2.1,i.2.2.1,fun h=>let ⟨g,F,G,h3,h4⟩:=i.2.2.2 h;⟨g,F,G,fun k=>hkp (h3 k) (cZ (ba _ _)) (by simp),fun k=>hkp (h4 k) (cZ (ba _ _)) (by simp)⟩⟩)
    ·refine bV rfl rfl rfl (fun L o W h0 j z i K hK=>?_)
     exact i.1.app5e (.tmp 81) (.tmp 83) rfl (vY (by decide) (by simp)) (vY (by decide) (by simp)) (j 2 (by decide)) (j 4 (by decide)) h0 I (fun v w' k hg hn=>hK v w' ⟨k,i.2.1,i.2.2.1,fun h=>let ⟨g,F,G,h3,h4⟩:=i.2.2.2 h;⟨g,F,G,fun k=>hkp (h3 k) hg (fun c=>hn g ⟨h,G⟩ c.symm),fun k=>hkp (h4 k) hg (fun c=>hn g ⟨h,G⟩ c.symm)⟩⟩)
    ·refine bV rfl rfl rfl (fun L o W h0 j z i K hK=>?_)
     have q:=z.get 3 rfl (j 7 (by decide));have ro:=(i.1.f5 (j 5 (by decide))).2.2 h0;rw[<-wN] at ro;refine nT (by go_simp) (fdJ W.heap.size (o 84) (l++[(d,nm,p,u,v)]) nm W (vQ _) (wI (dn:=l++[(d,nm,p,u,v)]) (by rw[sY];exact ro) (by simp;omega) au.out) az.out U T bz.out) (fun e w' ⟨e1,V⟩=>⟨_,e1,hK _ w' ⟨(i.1.at V).done,fun _=>rfl,i.2.2.1,fun h=>let ⟨g,F,G,h3,h4⟩:=i.2.2.2 h;⟨g,F,G,fun k=>hkp (h3 k) (cZ V) (by simp),fun k=>hkp (h4 k) (cZ V) (by simp)⟩⟩⟩)
    ·refine bV rfl rfl rfl (fun L o W h0 j z i K hK=>?_)
     exact gG (v:=.pointer (some ⟨W.heap.size,0,none⟩)) (w':=W.alloc (.cells #[int i64 0,int i64 0] 37)) (by go_simp) (hK _ _ ⟨i.1.more (ba _ _) (fun g h=>.inr (prot h.2)),i.2.1,fun _=>rfl,fun _=>⟨W.heap.size,i.1.bel.size,rfl,fun _=>lL W _,fun h=>Bool.noConfusion ((i.2.2.1 h).symm.trans h0)⟩⟩)
    ·refine a7X 37 8 88 2 rfl rfl rfl (by simp) (by simp) (by kernel_rfl) (by kernel_rfl) (fun L o W h0 j z i=>?_)
     exact(i.2.2.2 (j 12 (by decide))).elim fun g hg=>⟨g,_,_,_,hg.2.1,z.get 5 rfl (j 10 (by decide)),hg.2.2.1 h0,rfl,rfl,by simp[Value.oneCell'],⟨below_setRow i.1.bel hg.1 _,fun k hk=>by rw[setRow_size];exact i.1.pr k hk,fun _ c=>Bool.noConfusion ((j 2 (by decide)).symm.trans c),fun _ c=>Bool.noConfusion ((j 5 (by decide)).symm.trans c),fun _ c=>Bool.noConfusion ((j 5 (by decide)).symm.trans c),fun _=>⟨j 2 (by decide),j 4 (by decide),fun c=>Bool.noConfusion ((j 8 (by decide)).symm.trans c)⟩⟩,i.2.1,fun _=>j 12 (by decide),fun _=>⟨g,hg.1,hg.2.1,fun h=>Bool.noConfusion h,fun _=>setRow_heap W g _ _ _ _ (hg.2.2.1 h0)⟩⟩
    ·intro L o W hL ⟨z,hA,_,_,b8⟩
     obtain⟨g,F,e8,_,bc⟩:=b8 (hL 12 (by decide));have c7:=qQ (ffZ (bc (hL 13 (by decide))));have e9:=z.get 7 rfl (hL 14 (by decide));simp only[ov,List.foldl_cons,List.foldl_nil,List.setIfInBounds_toArray,List.set_cons_zero,List.set_cons_succ];rw[e8,e9];have BF:xQ w W:=bt O.out hA.bel;have c9:=qQ (c8.out.below hA.bel);clear z hA b8 bc e8 e9 hL F;obtain⟨m0,m1,_,_,dm⟩:=c7.out;obtain⟨n0,n1,_,_,dp⟩:=c9.out;have m:=bx.out;by_cases a8:T=0
     ·subst a8
      have qb:=(ay.out rfl).bd;have bb:=aw.out.bd;have km:=fun r hr W=>t6 U.1 U.2 b.1 b.2 qb.1 qb.2.1 (by omega) qb.2.2.2 bb.1 bb.2.1 (by omega) bb.2.2.2 r hr W;obtain⟨r,hr⟩:∃ r,decide (sX U b)=r:=⟨_,rfl⟩;have b3:Hid (er=if r=true then 0 else 10):=by rw[Hid,<-m,<-hr];simp
      have km:=fun W=>km r hr W;clear m hr qb bb;go_wp2_with fail;refine(km _).mono ?_;rintro e9 w9 ⟨rfl,cf⟩;have B9:xQ w w9:=bt BF cf;clear km;cases r with
      | true =>
       obtain rfl:er=0:=b3.out;go_wp2;go_ret;exact⟨rfl,B9⟩
      | false =>
       obtain rfl:er=10:=b3.out;go_wp2;go_ret;exact⟨rfl,B9⟩
     ·obtain rfl:T=er:=by simpa [a8] using m
      have d6:(T != 0)=true:=by simpa using a8
      clear m a8;go_wp2;go_ret;exact⟨rfl,BF⟩
    ·intro o
     exact⟨fun t _ h=>Bool.noConfusion h,⟨(uQ _ _).drew,fun _ h=>Bool.noConfusion h.1,fun h=>Bool.noConfusion h,fun h=>Bool.noConfusion h,fun h=>Bool.noConfusion h,fun h=>Bool.noConfusion h⟩,fun h=>Bool.noConfusion h,fun h=>Bool.noConfusion h,fun h=>Bool.noConfusion h⟩
theorem b6X (B:Nat)(dv:Value)(l:List En)(e:En)(w:World)(hB:B<=w.heap.size)(g:uJ w B dv l)(hinv:Inv l)(i:e.2.1.size<=9223372036854775807)(a:-9223372036854775808<=e.2.2.1/\e.2.2.1<=9223372036854775807) :
  Calls prog 33 #[dv,ev e] w (iQ w (int i64 (zZ l e))):=by
 by_cases h:mZ e≠0\/4096<=l.length
 ·exact ffX B dv l e w g i h
 ·exact fgZ B dv l e w hB g hinv (by omega) (by omega) a
end K.P
section
open Go.RowKit Ds
open K (Cl)
open K.P (HSt Keeps xX lX vZ mD b6X Sn oA tZ TwoB FivB Stt oU rV qA tX sZ cZ enc iY a3Q axJ DskM wI)
theorem oM.keep {xs:List Stp}(h:oM w B v xs)(m:Below B w w'):oM w' B v xs:=by
 obtain⟨a,c,g,j,k,l⟩:=h;refine⟨a,c,g,j,k,fun hne=>?_⟩;obtain⟨b,o,e,hB,p⟩:=l hne;exact⟨b,o,e,hB,fun i x hi=>(p i x hi).keep m hB⟩
theorem fgJ:mD:=fun B dv l e w h1 h2 h3 h4 h5=>b6X B dv l e w h1 h2 h3 h4 h5
theorem cC (h:∀ cs∈css,cs.length=6){cs:List Value}(hi:css[i]? = some cs)(g:cs[j]? = some v):css.flatten[i*6+j]? = some v:=by
 induction css generalizing i with
 | nil=>simp at hi
 | cons c css ih =>
  have hc:=h c (by simp);cases i with
  | zero =>
   simp only[List.getElem?_cons_zero,aZ] at hi;subst hi;have a:=(fQ.1 g).1;rw[List.flatten_cons,zS,vX,gO a];exact g
  | succ i =>
   rw[List.getElem?_cons_succ] at hi;rw[List.flatten_cons,mH (by omega),show(i+1)*6+j - c.length=i*6+j by omega];exact ih (fun x hx=>h x (by simp[hx])) hi
theorem fhQ {x:Sn rY}{cs:List Value}(h:mF w G x cs)(k:nF w N x ds):∃ (a:List Int) (a1 a2:Option Addr) (c1 c2:Nat) (E D C:Int) (j l:Option Addr) (m o:Nat),
  cs=[int i64 x.err,.slice a1 a.length c1,int i64 E,int i64 D,int i64 C,.slice j x.ents.length m]/\ds=[int i64 x.err,.slice a2 a.length c2,int i64 E,int i64 D,int i64 C,.slice l x.ents.length o] /\
  yQ w w.heap.size w.heap.size (.slice a1 a.length c1) a/\yQ w w.heap.size w.heap.size (.slice a2 a.length c2) a/\K.P.uJ w w.heap.size (.slice j x.ents.length m) x.ents/\K.P.uJ w w.heap.size (.slice l x.ents.length o) x.ents:=by
 obtain⟨V,ev,E,D,C,rfl,H,I,_⟩:=h;obtain⟨X,U,Q,O,M,rfl,_,B,F⟩:=k;obtain⟨l,o,rfl,_,v,y,_⟩:=id B;have p:=wI I v y;obtain⟨j,m,rfl,_⟩:=id p;have nil:yQ w w.heap.size w.heap.size (.slice none 0 0) []:=⟨none,0,rfl,by simp,by simp,fun h=>absurd rfl h⟩;rcases H with⟨e1,rfl,rfl,rfl,rfl⟩|⟨a,n,g,e1,_,S,_,rfl,rfl,_,A⟩
 ·rcases F with⟨_,rfl,rfl,rfl,rfl⟩|⟨a,n,e2,_⟩
  ·exact⟨[],none,none,0,0,0,0,0,j,l,m,o,rfl,rfl,nil,nil,p,B⟩
  ·rw[e1] at e2;cases e2
 ·rcases F with⟨e2,_⟩|⟨R,T,e2,rfl,J⟩
  ·rw[e1] at e2;cases e2
  ·rw[e1] at e2
   simp only[aZ,cQ] at e2;obtain⟨rfl,rfl,rfl,rfl⟩:=e2;obtain⟨a2,c2,rfl,hc,_,L⟩:=J.1;exact⟨a,_,a2,_,c2,_,_,_,j,l,m,o,rfl,rfl,⟨_,_,rfl,vQ _,by omega,fun hne=>⟨g,0,rfl,A.lt,by have:=A.lt;omega,fun i z hi=>by rw[vX];exact A.cells i z hi⟩⟩,⟨a2,c2,rfl,hc,by omega,L⟩,p,B⟩
theorem fhX (B:Nat)(cv rv sv wv:Value)(l:List K.Ds.aQ)(rs:List K.Rw)(words:List Int)(xs:List Stp)(w:World)(hB:B<=w.heap.size)(hp:K.kQ w B cv l)(hq:K.nQ w B rv rs)
  (Q:oU w wv words) (ae:rV words) (b5:words.length<=17592186044416) (hs:oM w B sv xs) (b6:xs.length<=1000000000000) :
  Calls prog 3 #[.agg #[cv,rv],wv,sv] w (iQ w (.bool true)):=by
 have HP:=qQ hp;have HQ:=qQ hq;have HS:=qQ hs;have cd:=qQ Q;have bx:=qQ ae;obtain⟨ca,cc,rfl,_⟩:=hp.slice;obtain⟨ra,rc,rfl,_⟩:=hq.slice;obtain⟨sa,sc,rfl,fg,fh,_⟩:=hs;obtain⟨wa,wc,rfl,fi,db⟩:=Q.1.slice;obtain⟨U,af⟩:∃ U,w.alloc (.cells #[.slice ca l.length cc,.slice ra rs.length rc] 25)=U:=⟨_,rfl⟩;have R:Hid (xQ w U):=af▸ba _ _;have H:Hid (TwoB U w.heap.size (.slice ca l.length cc) (.slice ra rs.length rc)):=af▸TwoB.new _ _ _ 25 _ rfl;have Z:Below B w U:=R.out.mono hB;have cf:B<=U.heap.size:=bQ hB R.out.size;have az:oU U (.slice wa words.length wc) words:=Q.at R.out
 have kH:=e8Q B (.slice ca l.length cc) (.slice ra rs.length rc) (.slice sa xs.length sc) l rs wa wc words xs U cf (hp.keep Z) (hq.keep Z) (fun e=>by subst e;have h1:=Q.2 _ _ rfl;omega) (fun ad e j u D=>by
  subst e;have ch:j<words.length:=(fQ.1 D).1;obtain⟨b,o,x,e1,hb,_,hg,hc⟩:=az.1.get (vQ _) (uQ _ _) ch;cases e1;rw[hg] at D;cases D;refine⟨hb,?_⟩;rw[bJ];exact hc) ae b5 (HS.out.keep Z) b6
 obtain⟨t0,t1,_,_,_⟩:=H.out;clear hp hq Q ae Z az;go_enter func3,ntmps3;go_wp2_with fail;clear af;refine kH.mono ?_;rintro e1 w1 ⟨ek,bd,bw,a,c,hv,ov,s,os,M,G,rfl,a9,Y,hI⟩;have HI:=qQ hI;have F:=qQ a9;have g:xQ w w1:=bt R.out Y;have kP:=e8J fgJ B (.slice ca l.length cc) (.slice ra rs.length rc) (.slice sa xs.length sc) l rs (.slice wa words.length wc) words xs w1 (bQ hB g.size) (HP.out.keep (g.mono hB)) (HQ.out.keep (g.mono hB)) (cd.out.at g) bx.out b5 (HS.out.keep (g.mono hB)) b6;have t2:=(Y.cell (p:=⟨w.heap.size,0,none⟩) H.out.lt).trans H.out.c0;have t3:=(Y.cell (p:=⟨w.heap.size,1,none⟩) H.out.lt).trans H.out.c1;have an:=qQ g;obtain⟨I,o1,o2,o3,o4⟩:=hI.out;obtain⟨oa,oc,rfl⟩:=iY o2;have HO:Hid (I.length=os.length/\w1.ownsRow (U.heap.size+1) 42 6 (.slice oa os.length oc) os.length I.flatten/\∀ (i:Nat) x cs,os[i]? = some x->I[i]? = some cs->mF w1 G x cs):=⟨o1,o2,o4⟩;clear hI a9 Y g kH t0 t1 o1 o2 o3 o4;go_wp2_with fail;refine kP.mono ?_;rintro e2 w2 ⟨em,N0,bS,fs,dv,nv,S,cr,rfl,O,ag,hJ⟩;have HJ:=qQ hJ
 obtain⟨rfl,rfl⟩:s=S/\os=cr:=by
  have h:=F.out;rw[O] at h;simp only[cQ] at h;exact⟨h.1.symm,h.2.symm⟩
 have b3:s.disk.length=words.length:=by
  have h:=agQ l (K.rr rs) xs ⟨words,-1,false,false,[]⟩;rw[F.out] at h;exact h
 have ff:os.length<=1000000000000:=by
  have h:=lB l (K.rr rs) xs ⟨words,-1,false,false,[]⟩;rw[F.out] at h;have h:os.length=xs.length:=h;omega
 have hD:=HI.out.ds.at ag;obtain⟨da,dc,rfl,_⟩:=HJ.out.sm.dk.1.slice;obtain⟨z,p1,p2,p3⟩:=HJ.out.out;obtain⟨b8,bb,rfl⟩:=iY p2
 have kW:=a3Q w2.heap.size (.slice a words.length c) (.slice da s.disk.length dc) s.disk w2 (vQ _) ⟨a,c,by rw[b3],hD.cp,by omega,fun ai=>by
  obtain⟨x0,ck⟩:∃ x0,s.disk[0]? = some x0:=⟨_,nZ (aoQ.2 ai)⟩;have ci:=(hD.ar 0 x0 ck).lt;exact⟨bw,0,hD.ad ai,ci,by omega,fun i x hi=>by rw[vX];exact(hD.ar i x hi).c⟩⟩ HJ.out.sm.dk.1
 have E:Hid (z.length=os.length/\w2.ownsRow N0 42 6 (.slice b8 os.length bb) os.length z.flatten/\∀ (i:Nat) x cs,os[i]? = some x->z[i]? = some cs->nF w2 (fun k=>k=bS\/(Value.slice b8 os.length bb).ownBlock=some k\/False) x cs):=⟨p1,p2,p3⟩;have bz:=qQ ag;clear kP t2 t3 O ag hJ hD p1 p2 p3 b3;go_wp2_with fail;refine kW.mono ?_;rintro e3 w3 ⟨rfl,ah⟩;have aq:=qQ (bt bz.out ah);have ao:=qQ ah;have c6:=qQ (bt an.out aq.out);clear kW ah;go_wp2
 go_loopw [45] (fun iv wr=>∃ (i:Nat),iv=int i64 (i:Int)/\i<=os.length/\Hid (xQ w3 wr)) (fun iv _=>os.length - (intOf iv).toNat)
 case atStart=>exact⟨0,rfl,dQ _,uQ _ _⟩
 case round =>
  obtain⟨i,rfl,hi,HR⟩:=hrel;by_cases h1:i<os.length
  ·obtain⟨x,hx⟩:∃ x,os[i]? = some x:=⟨_,nZ h1⟩
   obtain⟨cs,a6⟩:∃ cs,I[i]? = some cs:=⟨_,nZ (by have:=HO.out.1;omega)⟩;obtain⟨ds,a7⟩:∃ ds,z[i]? = some ds:=⟨_,nZ (by have:=E.out.1;omega)⟩;have L:xQ w1 wr:=bt aq.out HR.out;have N:xQ w2 wr:=bt ao.out HR.out;have sM:mF wr G x cs:=(HO.out.2.2 i x cs hx a6).kp (xX L) (fun _ _ h=>h) (fun _ h=>h);have sQ:nF wr (fun _=>False) x ds:=(E.out.2.2 i x ds hx a7).kp (M:=fun _=>False) (xX N) (fun _ h=>h.elim) (fun _ h=>h.elim);have rA:=sZ HO.out.2.1 (cZ L) (by simp);have rB:=sZ E.out.2.1 (cZ N) (by simp)
   have l6:∀ c∈I,c.length=6:=fun c hc=>by
    obtain⟨j,D⟩:=List.getElem?_of_mem hc;obtain⟨y,hy⟩:∃ y,os[j]? = some y:=⟨_,nZ (by have:=(fQ.1 D).1;have:=HO.out.1;omega)⟩;obtain⟨_,_,_,_,_,e,_⟩:=HO.out.2.2 j y c hy D;rw[e];rfl
   have m6:∀ c∈z,c.length=6:=fun c hc=>by
    obtain⟨j,D⟩:=List.getElem?_of_mem hc;obtain⟨y,hy⟩:∃ y,os[j]? = some y:=⟨_,nZ (by have:=(fQ.1 D).1;have:=E.out.1;omega)⟩;obtain⟨_,_,_,_,_,e,_⟩:=E.out.2.2 j y c hy D;rw[e];rfl
   obtain⟨vs,a1,a2,c1,c2,us,lu,ld,ea,eb,ec,ed,rfl,rfl,i1,i2,n1,n2⟩:=fhQ sM sQ;obtain⟨m,rfl,_,A,A0⟩:=K.P.tI rA (cC l6 a6 (j:=0) rfl)
   have cA:∀ {j v},([int i64 x.err,.slice a1 vs.length c1,int i64 us,int i64 lu,int i64 ld,.slice ea x.ents.length ec]:List Value)[j]? = some v->wr.cell? ⟨m,i*6+j,none⟩=some v:=fun D=>by
    obtain⟨g',e,_,_,hc⟩:=K.P.tI rA (cC l6 a6 D);cases e;exact hc
   obtain⟨gb,rfl,_,C,B0⟩:=K.P.tI rB (cC m6 a7 (j:=0) rfl)
   have cB:∀ {j v},([int i64 x.err,.slice a2 vs.length c2,int i64 us,int i64 lu,int i64 ld,.slice eb x.ents.length ed]:List Value)[j]? = some v->wr.cell? ⟨gb,i*6+j,none⟩=some v:=fun D=>by
    obtain⟨g',e,_,_,hc⟩:=K.P.tI rB (cC m6 a7 D);cases e;exact hc
   have T:Hid (∀ X,xQ wr X->X.cell? ⟨m,i*6,none⟩=some (int i64 x.err)/\X.cell? ⟨m,i*6+1,none⟩=some (.slice a1 vs.length c1)/\X.cell? ⟨m,i*6+1+1,none⟩=some (int i64 us)/\X.cell? ⟨m,i*6+1+2,none⟩=some (int i64 lu)/\X.cell? ⟨m,i*6+1+3,none⟩=some (int i64 ld)/\X.cell? ⟨m,i*6+5,none⟩=some (.slice ea x.ents.length ec) /\
     X.cell? ⟨gb,i*6,none⟩=some (int i64 x.err)/\X.cell? ⟨gb,i*6+1,none⟩=some (.slice a2 vs.length c2)/\X.cell? ⟨gb,i*6+1+1,none⟩=some (int i64 us)/\X.cell? ⟨gb,i*6+1+2,none⟩=some (int i64 lu)/\X.cell? ⟨gb,i*6+1+3,none⟩=some (int i64 ld)/\X.cell? ⟨gb,i*6+5,none⟩=some (.slice eb x.ents.length ed)):=fun X hX =>
    ⟨(hX.cell (p:=⟨m,i*6,none⟩) A).trans (cA (j:=0) rfl),(hX.cell (p:=⟨m,i*6+1,none⟩) A).trans (cA (j:=1) rfl),(hX.cell (p:=⟨m,i*6+2,none⟩) A).trans (cA (j:=2) rfl),(hX.cell (p:=⟨m,i*6+3,none⟩) A).trans (cA (j:=3) rfl),(hX.cell (p:=⟨m,i*6+4,none⟩) A).trans (cA (j:=4) rfl),(hX.cell (p:=⟨m,i*6+5,none⟩) A).trans (cA (j:=5) rfl),
     (hX.cell (p:=⟨gb,i*6,none⟩) C).trans (cB (j:=0) rfl),(hX.cell (p:=⟨gb,i*6+1,none⟩) C).trans (cB (j:=1) rfl),(hX.cell (p:=⟨gb,i*6+2,none⟩) C).trans (cB (j:=2) rfl),(hX.cell (p:=⟨gb,i*6+3,none⟩) C).trans (cB (j:=3) rfl),(hX.cell (p:=⟨gb,i*6+4,none⟩) C).trans (cB (j:=4) rfl),(hX.cell (p:=⟨gb,i*6+5,none⟩) C).trans (cB (j:=5) rfl)⟩
   have kT:∀ X,xQ wr X->_:=fun X hX=>eqZ X.heap.size X.heap.size X.heap.size a1 a2 c1 c2 vs us lu ld X (vQ _) ((i1.keep hX).mono hX.size (by rcases Nat.lt_or_ge wr.heap.size X.heap.size with c|c;exact .inr hX.size;exact .inl (by have:=hX.size;omega))) ((i2.keep hX).mono hX.size (by rcases Nat.lt_or_ge wr.heap.size X.heap.size with c|c;exact .inr hX.size;exact .inl (by have:=hX.size;omega)));have kE:∀ X,xQ wr X->_:=fun X hX=>axJ X.heap.size (.slice ea x.ents.length ec) (.slice eb x.ents.length ed) x.ents x.ents X (vQ _) ((n1.keep hX).mono hX.size) ((n2.keep hX).mono hX.size) true (by simp);have fe:(i:Int)<(os.length:Int):=by omega
   obtain⟨z0,z1,z2,z3,z4,z5,y0,y1,y2,y3,y4,y5⟩:=T.out wr (uQ _ _);clear hx a6 a7 L N sM sQ rA rB l6 m6 i1 i2 n1 n2 A0 B0 cA cB;have ai:(x.err != x.err)=false:=by simp
   have cb:Hid _:=kT;have c9:Hid _:=kE;clear kT kE;go_upto_region 8 with fail
   go_region_held3 (fun w'=>w'.cell? ⟨m,i*6,none⟩=some (int i64 x.err)/\w'.cell? ⟨m,i*6+1,none⟩=some (.slice a1 vs.length c1)/\w'.cell? ⟨m,i*6+1+1,none⟩=some (int i64 us)/\w'.cell? ⟨m,i*6+1+2,none⟩=some (int i64 lu)/\w'.cell? ⟨m,i*6+1+3,none⟩=some (int i64 ld)/\w'.cell? ⟨m,i*6+5,none⟩=some (.slice ea x.ents.length ec)/\w'.cell? ⟨gb,i*6,none⟩=some (int i64 x.err)/\w'.cell? ⟨gb,i*6+1,none⟩=some (.slice a2 vs.length c2)/\w'.cell? ⟨gb,i*6+1+1,none⟩=some (int i64 us)/\w'.cell? ⟨gb,i*6+1+2,none⟩=some (int i64 lu)/\w'.cell? ⟨gb,i*6+1+3,none⟩=some (int i64 ld)/\w'.cell? ⟨gb,i*6+5,none⟩=some (.slice eb x.ents.length ed))
    ((refine T.out _ ?_;first|with_reducible exact(uQ _ _).drew|with_reducible exact J|with_reducible exact V))
    (first
     | (go_at_call 7;refine(cb.out _ (uQ _ _).drew).mono ?_;rintro x7 w7 ⟨rfl,ax⟩;have J:xQ wr w7:=((uQ _ _).drew.trans ax);obtain⟨d0,d1,d2,d3,d4,d5,g0,g1,g2,g3,g4,g5⟩:=T.out w7 J)
     | (go_at_call 8;refine(c9.out _ J).mono ?_;rintro x8 w8 ⟨rfl,ay⟩;have V:xQ wr w8:=bt J ay;obtain⟨e0,e1,e2,e3,e4,e5,j0,j1,j2,j3,j4,j5⟩:=T.out w8 V))
   have c7:=qQ (bt HR.out V);clear J V ax ay d0 d1 d2 d3 d4 d5 g0 g1 g2 g3 g4 g5 e0 e1 e2 e3 e4 e5 j0 j1 j2 j3 j4 j5;go_wp2
   go_roundw
   case rel=>exact⟨i+1,by go_num,h1,c7.out⟩
   case measure=>simp[intOf];omega
  ·obtain rfl:i=os.length:=by omega
   go_wp2;go_ret;exact⟨rfl,bt c6.out HR.out⟩
structure Stv where
 x:Stp
 v0:Int
 v1:ByteArray
 v2:Int
 v3:Int
 a4:Option Addr
 n4:Nat
 c4:Nat
 a5:Option Addr
 n5:Nat
 c5:Nat
 xa:Option Addr
 xc:Nat
def Stv.cs (s:Stv):List Value:=[int i64 s.x.act,int i64 s.x.n,.string s.x.nm,int i64 s.x.bu,int i64 s.x.bd,.string s.x.pn,int i64 s.v0,.string s.v1,int i64 s.v2,int i64 s.v3,.slice s.a4 s.n4 s.c4,.slice s.a5 s.n5 s.c5,int i64 s.x.u,int i64 s.x.d,int i64 s.x.lo,int i64 s.x.hi,.slice s.xa s.x.bits.length s.xc,int i64 s.x.word]
theorem Stv.len (s:Stv):s.cs.length=18:=rfl
def dC (w:World) (B:Nat) (s:Stv):Prop :=
 ∃ nb,K.Qm w B s.x.q (int i64 s.v0) (.string s.v1) (int i64 s.v2) (int i64 s.v3) (.slice s.a4 s.n4 s.c4) (.slice s.a5 s.n5 s.c5)/\pU w B nb (.slice s.xa s.x.bits.length s.xc) s.x.bits/\(s.xa=none->s.xc=0)/\zX s.x.lo/\zX s.x.hi/\zX s.x.n/\zX s.x.word/\s.x.nm.size<=9223372036854775807/\s.x.pn.size<=9223372036854775807
theorem flZ {b o:Nat}{s:Stv}(h:w.rangeAt b o s.cs)(j:dC w B s):aR w B b o s.x:=by
 obtain⟨nb,a,g,i⟩:=j;exact⟨_,_,_,_,_,_,s.xa,s.xc,nb,h,a,g,i⟩
def Svs (w:World) (B:Nat) (v:Value) (ss:List Stv):Prop :=
 ∃ a c,v=.slice a ss.length c/\ss.length<=c/\(∀ s∈ss,dC w B s)/\(ss≠[]->∃ b o,a=some ⟨b,o,none⟩/\b<B/\∀ (i:Nat) s,ss[i]? = some s->w.rangeAt b (o+i*18) s.cs)
theorem flJ {ss:List Stv}(h:Svs w B v ss)(p:ss.length<=9223372036854775807):oM w B v (ss.map Stv.x):=by
 obtain⟨a,c,rfl,j,k,l⟩:=h;refine⟨a,c,by rw[pA],by rw[pA];exact j,by rw[pA];exact p,fun hn=>?_⟩;obtain⟨b,o,rfl,hB,m⟩:=l (fun e=>hn (by rw[e];rfl));refine⟨b,o,rfl,hB,fun i x hx=>?_⟩;rw[mV] at hx;obtain⟨s,g,rfl⟩:=wR.1 hx;exact flZ (m i s g) (k s (qX g))
instance:Inhabited Stv:=⟨⟨⟨0,0,⟨#[]⟩,0,0,⟨#[]⟩,.none,0,0,0,0,[],0⟩,0,⟨#[]⟩,0,0,none,0,0,none,0,0,none,0⟩⟩
end
namespace K
open Go.ChangeShapes Go.WideShapes Go.ChangeAt Go.RowKit K.Ds Go.Deep
theorem b7Q:prog.cellsOf 37=2:=by kernel_rfl
theorem fmQ:prog.cellsOf 55=12:=by kernel_rfl
theorem fmX:prog.cellsOf 57=18:=by kernel_rfl
theorem fmZ:prog.cellsOf 35=1:=by kernel_rfl
theorem b7X:prog.cellsOf 2=1:=by kernel_rfl
theorem fmJ:prog.cellsOf 53=6:=by kernel_rfl
theorem fnQ:∃ f0 f1:Field,prog.underlying 37=some (.struct #[f0,f1])/\f0.offset=0/\f1.offset=1/\f0.type=3/\f1.type=3:=by
 refine⟨_,_,underlying37,?_,?_,?_,?_⟩ <;> rfl
theorem fnX:∃ f0 f1 f2 f3 f4 f5:Field,prog.underlying 55=some (.struct #[f0,f1,f2,f3,f4,f5])/\(f0.offset=0/\f1.offset=1/\f2.offset=7/\f3.offset=9/\f4.offset=10/\f5.offset=11)/\f0.type=9/\f1.type=53/\f2.type=37/\f3.type=3/\f4.type=3/\f5.type=35:=by
 refine⟨_,_,_,_,_,_,underlying55,⟨?_,?_,?_,?_,?_,?_⟩,?_,?_,?_,?_,?_,?_⟩ <;> rfl
theorem fnZ:∃ f0 f1 f2 f3 f4 f5:Field,prog.underlying 57=some (.struct #[f0,f1,f2,f3,f4,f5])/\(f0.offset=0/\f1.offset=1/\f2.offset=2/\f3.offset=3/\f4.offset=5/\f5.offset=17)/\f0.type=3/\f1.type=3/\f2.type=9/\f3.type=37/\f4.type=55/\f5.type=2:=by
 refine⟨_,_,_,_,_,_,underlying57,⟨?_,?_,?_,?_,?_,?_⟩,?_,?_,?_,?_,?_,?_⟩ <;> rfl
theorem b7Z {H:Type}{enc:TypeId × Value->H}{n:Nat}{x:DataW H × List MemPlace}(h:DataW.trod enc prog W 0 (fun _=>true) true n 37 [v0,v1]=some x):∃ u d,v0=int i64 u/\v1=int i64 d:=by
 obtain⟨f0,f1,l,m,o,t0,t1⟩:=fnQ;obtain⟨y0,y1,k,_,_,a,g⟩:=trod_struct2 l h;rw[t0] at a;rw[t1] at g;simp[m,o,lH] at a g;obtain⟨u,i,_,_⟩:=rF underlying3 a;obtain⟨d,j,_,_⟩:=rF underlying3 g;simp at i j;exact⟨u,d,i,j⟩
theorem fnJ {H:Type}{enc:TypeId × Value->H}(n:Nat)(cs:List Value)(x:DataW H × List MemPlace)(m:cs.length=18)(h:DataW.trod enc prog W 0 (fun _=>true) true n 57 cs=some x) :
  ∃ s:Stv,cs=s.cs/\dC W W.heap.size s:=by
 obtain⟨f0,f1,f2,f3,f4,f5,Y,⟨o0,o1,o2,o3,o4,o5⟩,t0,t1,t2,t3,t4,t5⟩:=fnZ;obtain⟨e0,e1,e2,T,U,V,Z,⟨p0,p1,p2,p3,p4,p5⟩,s0,s1,s2,s3,s4,s5⟩:=fnX;obtain⟨xs,k,hk,a7,_,E,j⟩:=DataW.trod_struct Y h
 match xs,E,cs,m with
 | [y0,y1,y2,y3,y4,y5],_,[v0,v1,v2,v3,v4,v5,v6,v7,v8,v9,v10,v11,v12,v13,v14,v15,v16,v17],_ =>
  have p:=j 0 f0 rfl;have v:=j 1 f1 rfl;have g2:=j 2 f2 rfl;have y:=j 3 f3 rfl;have z:=j 4 f4 rfl;have A:=j 5 f5 rfl;rw[t0] at p;rw[t1] at v;rw[t2] at g2;rw[t3] at y;rw[t4] at z;rw[t5] at A;simp[o0,o1,o2,o3,o4,o5,lH,nR,b7Q,fmQ,b7X] at p v g2 y z A;obtain⟨zs,k2,X,a8,_,F,l⟩:=DataW.trod_struct Z z
  match zs,F with
  | [z0,z1,z2,z3,z4,z5],_ =>
   have G:=l 0 e0 rfl;have I:=l 1 e1 rfl;have J:=l 2 e2 rfl;have L:=l 3 T rfl;have M:=l 4 U rfl;have o:=l 5 V rfl;rw[s0] at G;rw[s1] at I;rw[s2] at J;rw[s3] at L;rw[s4] at M;rw[s5] at o;simp[p0,p1,p2,p3,p4,p5,lH,nR,b7Q,fmJ,fmZ] at G I J L M o;obtain⟨act,d0,_,_⟩:=rF underlying3 p;obtain⟨nn,d1,_,b1⟩:=rF underlying3 v;obtain⟨nm,d2,_,b2⟩:=DataW.trod_string underlying9 g2;obtain⟨bu,bd,rfl,rfl⟩:=b7Z y;obtain⟨word,N,_,S⟩:=rF underlying2 A;obtain⟨pn,c0,_,R⟩:=DataW.trod_string underlying9 G;obtain⟨q,bh,w1,w2,w3,w4,w5,O,Q⟩:=flX k2 _ _ rfl I;obtain⟨u,d,rfl,rfl⟩:=b7Z J;obtain⟨lo,c3,_,r3⟩:=rF underlying3 L;obtain⟨hi,c4,_,r4⟩:=rF underlying3 M;simp at d0 d1 d2 N c0 c3 c4;subst d0 d1 d2 N c0 c3 c4;simp only[List.cons.injEq,sO] at O;obtain⟨rfl,rfl,rfl,rfl,rfl,rfl⟩:=O;obtain⟨kk,kc,kl,kh,ka,kn,kd,kb,km,kp,rfl,rfl,rfl,rfl,rfl,rfl⟩:=Q.shape;obtain⟨bits,g⟩:=b6Z (D:=z5.1) (P:=z5.2) o
   have C:v16=.slice none 0 0\/(∃ a n c,v16=.slice (some a) n c):=by
    rcases open_ints underlying35 underlying3 lH o with⟨i,_⟩|⟨a,len,cap,zs,i,_⟩
    ·simp at i
     exact .inl i
    ·simp at i
     exact .inr ⟨a,len,cap,i⟩
   obtain⟨xa,xc,rfl,a6,_,_⟩:=id g
   have B:xa=none->xc=0:=by
    rcases C with h|⟨a,n,c,h⟩
    ·simp only[yZ] at h
     exact fun _=>h.2.2
    ·simp only[yZ] at h
     exact fun e=>by rw[e] at h;cases h.1
   rw[rD] at b2 R;exact⟨⟨⟨act,nn,nm,bu,bd,pn,q,u,d,lo,hi,bits,word⟩,kk,kc,kl,kh,ka,kn,kd,kb,km,kp,xa,xc⟩,rfl,_,Q,⟨⟨_,_,rfl⟩,fun h=>aeQ g (by omega)⟩,B,bounds_i64 r3,bounds_i64 r4,bounds_i64 b1,bounds_i64 S,b2,R⟩
theorem foQ {H:Type}{enc:TypeId × Value->H}{n:Nat}{D:DataW H}{P:List MemPlace}(h:DataW.trod enc prog W 0 (fun _=>true) true n 27 [V]=some (D,P)) :
  ∃ ss:List Stv,Svs W W.heap.size V ss/\(ss.length=0\/∃ e s,D=.slice e s/\e.length=ss.length):=by
 rcases open_slice underlying27 h with⟨g,_⟩|⟨a,len,cap,m,X,S,T,g,_,U,Q,L,N,y⟩
 ·simp at g
  subst g;exact⟨[],⟨none,0,rfl,vQ _,by simp,fun h=>absurd rfl h⟩,.inl rfl⟩
 ·simp at g
  subst g;simp only[uA] at L;subst L;simp only[cQ] at N
  have v:∀ i,i<len->∃ s:Stv,(∀ j u,s.cs[j]? = some u->W.cell? (a.add (i*18+j))=some u)/\dC W W.heap.size s:=by
   intro i hi;obtain⟨C,J,O⟩:=y i (by omega);rw[fmX] at J;obtain⟨_,A,l⟩:=World.cells?_some J;obtain⟨t,rfl,I⟩:=fnJ _ C _ A O;refine⟨t,fun j u hj=>?_,I⟩;have F:j<18:=by have:=(fQ.1 hj).1;rwa [Stv.len] at this
   have:=l j F;rw[add_add,hj] at this;exact this
  obtain⟨q,G⟩:=choose_lt v
  have z:∀ (i:Nat) t,((List.range len).map fun i=>q i)[i]? = some t->i<len/\t=q i:=by
   intro i t hi;have k:=(fQ.1 hi).1;simp at k;simp[k] at hi;exact⟨k,hi.symm⟩
  refine⟨(List.range len).map fun i=>q i,⟨some a,m,by simp,by simp;omega,fun t I=>?_,fun hne=>?_⟩,.inr ⟨_,_,N.1,by simp⟩⟩
  ·obtain⟨i,hi,rfl⟩:=iJ.1 I
   exact(G i (lK.1 hi)).2
  ·have M:0<len:=by
    rcases mO len with p|p
    ·subst p;simp at hne
    ·exact p
   obtain⟨b,o,B⟩:=a;have p:=(G 0 (by omega)).1 0 _ rfl;have R:B=none:=by simpa [Addr.add] using nO p
   subst R;have k:b<W.heap.size:=rM (a:=(⟨b,o,none⟩:Addr).add (0*18+0)) p;refine⟨b,o,rfl,k,fun i t hi j u hj=>?_⟩;obtain⟨E,rfl⟩:=z i t hi;have hc:=(G i E).1 j u hj;rw[bJ] at hc;rw[cU];exact hc
theorem foX {H:Type}{enc:TypeId × Value->H}{n:Nat}{D:DataW H}{Pl:List MemPlace}(h:DataW.trod enc prog W 0 (fun _=>true) true n 26 [V]=some (D,Pl)) :
  ∃ xs,P.oU W V xs/\P.rV xs/\(xs.length=0\/∃ e s,D=.slice e s/\e.length=xs.length):=by
 rcases open_ints underlying26 underlying2 b7X h with⟨j,_⟩|⟨a,len,cap,zs,j,_,I,A,G,p,g,B⟩
 ·simp at j
  subst j;exact⟨[],⟨⟨none,0,rfl,vQ _,by simp,fun h=>absurd rfl h⟩,fun m c e=>by cases e;rfl⟩,(fun x p=>by cases p),.inl rfl⟩
 ·simp at j
  subst j;simp only[uA] at G;have k:(zs.take len).length=len:=by simp;omega
  rw[rD] at A;refine⟨zs.take len,⟨⟨some a,cap,by rw[k],by omega,by omega,fun hne=>?_⟩,fun m c e=>by cases e⟩,fun x p=>bounds_i64 (B x (pG p)),?_⟩
  ·have E:0<len:=by
    rcases mO len with l|l
    ·subst l;simp at hne
    ·exact l
   obtain⟨b,o,v⟩:=a;have l:=g 0 (by omega);have F:v=none:=by simpa [Addr.add] using nO l
   subst F;have z:b<W.heap.size:=rM (a:=(⟨b,o,none⟩:Addr).add 0) l;refine⟨b,o,rfl,z,by omega,fun i x hi=>?_⟩;have y:i<len:=by rw[<-k];exact(fQ.1 hi).1
   have C:=g i (by omega);rw[bJ] at C;rw[C];rw[oG y] at hi;simp[List.getD,hi]
  ·simp only[cQ] at p
   exact .inr ⟨_,_,p.1,by simp[lits]⟩
