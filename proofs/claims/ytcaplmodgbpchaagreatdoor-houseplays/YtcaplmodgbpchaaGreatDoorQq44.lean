import Derived.Test.YtcaplmodgbpchaaGreatDoorQq43
import Derived.Sort.Walk0
open Go.Proofs.Tryz
open Go.Value(int)
open Go.IntKind(i64)
set_option linter.unusedSimpArgs false
set_option maxHeartbeats 16000000
set_option maxRecDepth 100000
namespace Go.Proofs.YtcaplmodgbpchaaGreatDoor
variable {w w':World} {base base' c g i j k n s sz:Nat} {t:TypeId} {v:Value} {xs:List Value} {nm:ByteArray} {d p u x:Int} {a:Option Addr} {os:List Int}
namespace K.P
open Go.RowKit Go.Shelf K.Ds
attribute [local go_sem] bL
theorem rowb (h:w.ownsRow base t sz v n xs)(k:base'<=base):w.ownsRow base' t sz v n xs:=by
 refine⟨h.1,?_⟩;rcases h.2 with a|⟨g,cap,cur,j,i,hc⟩
 ·exact .inl a
 ·exact .inr ⟨g,cap,cur,j,by omega,hc⟩
theorem faJ (a b c:List UInt8)(g:decide (a<=b)=true)(h:decide (b<=c)=true):decide (a<=c)=true:=by
 simp only[dJ] at *
 exact List.le_trans g h
theorem fbQ (a b:List UInt8):(decide (a<=b) || decide (b<=a))=true:=by
 simp only[Bool.or_eq_true,dJ];exact List.le_total a b
theorem fbX (l:List En):(aY l).Pairwise (fun x y=>decide (x<=y)=true):=List.pairwise_mergeSort faJ fbQ _
theorem b4X {l:List En}{v:Int}(N:l[i]? = some (1,nm,p,u,v))(F:∀ y∈(aY (l.take i)).take k,y<nm.data.toList)(J:∀ y,(aY (l.take i))[k]? = some y->¬ y<nm.data.toList) :
  aY (l.take (i+1))=(aY (l.take i)).take k++[nm.data.toList]++(aY (l.take i)).drop k:=by
 have E:=fbX (l.take i)
 have C:(bY (l.take (i+1))).map (fun x=>x.data.toList)=(bY (l.take i)).map (fun x=>x.data.toList)++[nm.data.toList]:=by
  rw[rX,N];have:=yP (l.take i) (1,nm,p,u,v);simp only[Option.toList_some];rw[this];simp
 obtain⟨os,D⟩:∃ os,aY (l.take i)=os:=⟨_,rfl⟩;have H:os.Perm ((bY (l.take i)).map (fun x=>x.data.toList)):=by rw[<-D];exact List.mergeSort_perm _ _
 rw[D] at E F J ⊢
 have h:(os.take k++[nm.data.toList]++os.drop k).Perm ((bY (l.take (i+1))).map (fun x=>x.data.toList)):=by
  rw[C];refine List.Perm.trans ?_ (List.Perm.append_right _ H)
  have:os++[nm.data.toList]=os.take k++(os.drop k++[nm.data.toList]):=by rw[<-qS,xN]
  rw[this,qS];exact List.Perm.append_left _ List.perm_append_comm
 have m:(os.take k++[nm.data.toList]++os.drop k).Pairwise (fun x y=>decide (x<=y)=true):=by
  have B:∀ y∈os.drop k,nm.data.toList<=y:=by
   intro y o;obtain⟨j,A⟩:=List.mem_iff_getElem?.1 o;rw[kK] at A;have g:k<os.length:=by have:=(fQ.1 A).1;omega
   obtain⟨z,I⟩:=fX g;have L:nm.data.toList<=z:=List.not_lt.1 (J z I);by_cases G:j=0
   ·subst G;rw[fI,I] at A;cases A;exact L
   ·have M:=List.pairwise_iff_getElem.1 E k (k+j) g (fQ.1 A).1 (by omega)
    rw[(fQ.1 I).2,(fQ.1 A).2] at M;exact List.le_trans L (tD M)
  rw[yN,yN];refine⟨⟨E.sublist (List.take_sublist _ _),by simp,fun x a y o=>?_⟩,E.sublist (List.drop_sublist _ _),fun x a y o=>?_⟩
  ·simp only[uN] at o
   subst o;exact sJ (List.le_of_lt (F x a))
  ·rw[aV] at a
   rcases a with a|a
   ·exact sJ (List.le_trans (List.le_of_lt (F x a)) (B y o))
   ·simp only[uN] at a
    subst a;exact sJ (B y o)
 have e1:=Go.mergeSort_of_perm h;have e2:=List.mergeSort_of_pairwise (le:=fun x y=>decide (x<=y)) m;unfold aY;exact e1.symm.trans e2
theorem fbZ {l:List En}{v:Int}(g:l[i]? = some (d,nm,p,u,v))(a:d≠1):aY (l.take (i+1))=aY (l.take i):=by
 unfold aY;rw[rX,g];have:=yP (l.take i) (d,nm,p,u,v);simp only[Option.toList_some];rw[this,zQ a];simp
theorem fbJ (B:Nat)(v:Value)(l:List En)(w:World)(hB:B<=w.heap.size)(hx:uJ w B v l)(ch:l.length<=4096) :
  Calls prog 62 #[v] w fun x w'=>∃ r,x=.returned r/\w'.ownsRow w.heap.size 9 1 r (aY l).length ((aY l).map encStr)/\xQ w w':=by
 have HX:=qQ hx;obtain⟨a,c,rfl,hc,hl⟩:=hx.slice;obtain⟨i9,ca,ci,cj,ck⟩:=pZ uC;go_enter func62,ntmps62;go_wp2
 go_loopw [3,9] (fun ov s wr=>∃ (i:Nat) (I:Option Addr) (J:Nat) (os:List (List UInt8)),s=int i64 (i:Int)/\ov=.slice I os.length J/\i<=l.length/\Hid (aY (l.take i)=os)/\os.length<=i/\Hid (wr.ownsRow w.heap.size 9 1 (.slice I os.length J) os.length (os.map encStr))/\xQ w wr) (fun _ s _=>l.length - (intOf s).toNat)
 case atStart=>exact⟨0,none,0,[],rfl,rfl,dQ _,by simp[Hid,aY,bY],vQ _,⟨rfl,.inl ⟨rfl,rfl⟩⟩,uQ _ _⟩
 case round =>
  obtain⟨i,I,J,os,rfl,rfl,hi,R,ce,HW,P⟩:=hrel;have cf:w.heap.size<=wr.heap.size:=P.size;by_cases h1:i<l.length
  ·obtain⟨b,o,d,nm,p,u,v,rfl,hb,X,e0,e1,e2,e3,e4,cb⟩:=HX.out.get hB P h1
   by_cases m:d=1
   ·subst m
    obtain⟨W,hW⟩:∃ W,wr.alloc (.cells #[int i64 1,.string nm,int i64 p,int i64 u,int i64 v] 72)=W:=⟨_,rfl⟩;have BW:xQ wr W:=by rw[<-hW];exact ba _ _
    have cm:W.heap.size=wr.heap.size+1:=by rw[<-hW];simp
    have VX:=FivB.new wr (int i64 1) (.string nm) (int i64 p) (int i64 u) (int i64 v) 72 _ rfl;rw[hW] at VX;have bw:=qQ VX;obtain⟨x0,x1,x2,x3,x4,_,_,_,_,_,Y⟩:=VX;have a8:=qQ (sZ HW.out (cZ BW) (by simp));have bb:xQ w W:=bt P BW;obtain⟨ws,bk⟩:∃ ws:World,ws=wr:=⟨_,rfl⟩;subst bk;go_upto_block 2 with fail
    go_cut [6] (fun s wx=>∃ k:Nat,s=int i64 (k:Int)/\k<=os.length/\Hid (aY (l.take (i+1))=os.take k++[nm.data.toList]++os.drop k)/\xQ W wx)
    case first =>
     go_wp2_with fail
     go_loopw [6] (fun s wr=>∃ (k:Nat),s=int i64 (k:Int)/\k<=os.length/\Hid (∀ y∈os.take k,y<nm.data.toList)/\xQ W wr) (fun s _=>os.length - (intOf s).toNat)
     case atStart=>exact⟨0,rfl,dQ _,by simp[Hid],uQ _ _⟩
     case round =>
      obtain⟨k,rfl,hk,HK,A⟩:=hrel;by_cases bg:k<os.length
      ·obtain⟨y,Z⟩:=fX bg
       obtain⟨g,rfl,_,c9,c7⟩:=tI (sZ a8.out (cZ A) (by simp)) (j:=k) (u:=encStr y) (by simp[Z]);have z1:(k:Int)<(os.length:Int):=by omega
       have co:wr.cell? ⟨ws.heap.size,1,none⟩=some (.string nm):=(A.cell (p:=⟨ws.heap.size,1,none⟩) Y).trans x1;by_cases E:y<nm.data.toList
       ·have hb:Op.bytesLess y nm.toList=true:=by rw[bytesLess_eq,Lib.toList_data];exact sJ E
        have aq:Hid (∀ z∈os.take (k+1),z<nm.data.toList):=by
         intro z O;rw[rX,Z] at O;rcases aV.1 O with O|O
         ·exact HK.out z O
         ·simp at O;subst O;exact E
        clear E Z;go_wp2;go_quiet (fail);go_wp2
        go_roundw
        case rel=>exact⟨k+1,by go_num,by omega,aq,Go.below_drewN A _⟩
        case measure=>simp[intOf];omega
       ·have hb:Op.bytesLess y nm.toList=false:=by rw[bytesLess_eq,Lib.toList_data];exact lZ E
        have D:Hid (aY (l.take (i+1))=os.take k++[nm.data.toList]++os.drop k):=by
         have h:=b4X X (k:=k) (by rw[R.out];exact HK.out) (by rw[R.out];intro z O;rw[Z] at O;cases O;exact E);rw[R.out] at h;exact h
        clear E Z;go_wp2;go_quiet (fail);go_wp2;go_meet;exact⟨k,rfl,hk,D,Go.below_drewN A _⟩
      ·obtain rfl:k=os.length:=by omega
       have D:Hid (aY (l.take (i+1))=os.take os.length++[nm.data.toList]++os.drop os.length):=by
        have h:=b4X X (k:=os.length) (by rw[R.out];exact HK.out) (by rw[R.out];intro z O;have:=(fQ.1 O).1;omega);rw[R.out] at h;exact h
       have z1:¬ (os.length:Int)<(os.length:Int):=by omega
       go_wp2;go_quiet (fail);go_wp2;go_meet;exact⟨os.length,rfl,vQ _,D,Go.below_drewN A _⟩
    case rest =>
     obtain⟨k,rfl,hk,D,A⟩:=hcut;have Q:wc.ownsRow w.heap.size 9 1 (.slice I os.length J) os.length (os.map encStr):=sZ a8.out (cZ A) (by simp);have cd:os.length<=J:=a7J Q;have cg:=faQ I os.length J k (by omega);obtain⟨ub,M⟩:∃ ub,(if J=k then I else I.map (·.add k))=ub:=⟨_,rfl⟩;have af:=faX I os.length J k hk;rw[M] at af;obtain⟨m2,ae⟩:∃ m2,os.length - k=m2:=⟨_,rfl⟩;obtain⟨c2,ac⟩:∃ c2,J - k=c2:=⟨_,rfl⟩;rw[ae,ac] at af
     have a7:Hid (∀ W',xQ wc W'->0<os.length->∃ g,I=some ⟨g,0,none⟩/\∀ j u,(os.map encStr)[j]? = some u->W'.cell? ⟨g,j,none⟩=some u):=fun W' X h=>by
      have hr:=sZ Q (cZ X) (by simp);obtain⟨y,Z⟩:=fX h;obtain⟨g,rfl,_⟩:=tI hr (j:=0) (u:=encStr y) (by simp[Z]);refine⟨g,rfl,fun j u hj=>?_⟩;obtain⟨g',e,_,_,hc⟩:=tI hr hj;cases e;exact hc
     have ay:=qQ M;have bi:((os.take k).map encStr).length=k*1:=by simp;omega
     have bj:((os.drop k).map encStr).length=m2*1:=by simp;omega
     have bh:k+1+m2=os.length+1:=by omega
     have S:Hid (∀ l:List (List UInt8),∀ u∈l.map encStr,u.oneCell' = true):=fun l u hu=>by obtain⟨y,_,rfl⟩:=iJ.1 hu;rfl
     have an:Hid (∀ W',xQ wc W'->W'.cell? ⟨ws.heap.size,1,none⟩=some (.string nm)):=fun W' hb=>(hb.cell (p:=⟨ws.heap.size,1,none⟩) (lQ Y A.size)).trans ((A.cell (p:=⟨ws.heap.size,1,none⟩) Y).trans x1);have T:xQ w wc:=bt bb A;have cc:os.length<4097:=by omega
     clear M ac ae Q x0 x1 x2 x3 x4;go_upto_region 9 with fail
     refine faZ [31,32,33,34,35,36,37,38,39,40,41,42,43,3] (fun L C W'=>vV [(1,32,.slice I os.length J),(2,33,int i64 (k:Int)),(3,34,.slice I k J),(5,36,.pointer (some ⟨ws.heap.size,1,none⟩)),(6,37,.string nm),(9,40,.slice I os.length J),(10,41,int i64 (k:Int)),(11,42,.slice ub m2 c2)] L C /\
      (AA wc (fun _=>False) 9 1 k ((os.take k).map encStr) [.string nm] (L 0) (L 4) (L 7) (L 8) (L 12) (C 31) (C 35) (C 38) (C 39) W'/\(L 13=false->C 3=.slice I os.length J)/\(L 12=true->L 8=true/\W'.ownsRow wc.heap.size 9 1 (C 43) (os.length+1) ((os.take k++[nm.data.toList]++os.drop k).map encStr))/\(L 13=true->L 12=true/\L 1=true/\L 9=true/\C 3=C 43))) [0,1,2,3,4,5,6,7,8,9,10,11,12,13] (by kernel_rfl) ⟨?_,?_,?_,?_,?_,?_,?_,?_,?_,?_,?_,?_,?_,?_,trivial⟩ (by kernel_rfl) ?_ ?_
     all_goals first
      | (refine mT rfl rfl (by decide) rfl rfl (fun L u W ⟨h1,h2,h3,h4⟩=>⟨h1,h2,h3,fun e=>let ⟨q1,q2,q3,q4⟩:=h4 e;⟨q1,by simp[q2],by simp[q3],q4⟩⟩) (fun L C W h0 m G hX=>?_);have z:=an.out W hX.1.bel;first | (clear hX;go_simp;done) | (have q:=G.get 0 rfl (m 1 (by decide));have q':=G.get 1 rfl (m 2 (by decide));clear hX;go_simp;done) | (have q:=G.get 3 rfl (m 5 (by decide));clear hX;go_simp;done) | (have q:=G.get 5 rfl (m 9 (by decide));have q':=G.get 6 rfl (m 10 (by decide));clear hX;go_simp;done) | (have q:=hX.2.1 (by cases h:L 13 with | false=>rfl | true=>first | exact Bool.noConfusion (h0.symm.trans (hX.2.2.2 h).2.1) | exact Bool.noConfusion (h0.symm.trans (hX.2.2.2 h).2.2.1));clear hX;go_simp;done))
      | skip
     ·refine bV rfl rfl rfl (fun L C W h0 m G hX K hK=>?_)
      exact gG (v:=.slice (some ⟨W.heap.size,0,none⟩) 0 0) (w':=W.alloc (.cells #[] 9)) (by go_simp) (hK _ _ ⟨hX.1.row0,hX.2.1,fun e=>⟨(hX.2.2.1 e).1,(hX.2.2.1 e).2.alloc _⟩,hX.2.2.2⟩)
     ·refine bV rfl rfl rfl (fun L C W h0 m G hX K hK=>?_)
      exact hX.1.app2 alX (.tmp 31) (.tmp 34) rfl (vY (by decide) (by simp)) ((vY (by decide) (by simp)).trans (G.get 2 rfl (m 3 (by decide)))) (m 0 (by decide)) h0 (by omega) bi (S.out _) (fun hk0=>by
       obtain⟨g,rfl,hc⟩:=a7.out W hX.1.bel (by omega);refine⟨_,rfl,fun j u hj=>?_⟩;rw[bJ,vX];have E:j<k:=by have:=(fQ.1 hj).1;omega
       rw[List.map_take,oG E] at hj;exact hc j u hj) (fun v w' k _ _=>hK v w' ⟨k,hX.2.1,fun e=>Bool.noConfusion (h0.symm.trans (hX.1.f5 (hX.2.2.1 e).1).1),hX.2.2.2⟩)
     ·refine bV rfl rfl rfl (fun L C W h0 m G hX K hK=>?_)
      have q:=G.get 4 rfl (m 6 (by decide));exact gG (v:=.slice (some ⟨W.heap.size,0,none⟩) 1 1) (w':=W.alloc (.cells #[.string nm] 9)) (by go_simp) (hK _ _ ⟨hX.1.row4 h0,hX.2.1,fun e=>Bool.noConfusion (h0.symm.trans (hX.1.f5 (hX.2.2.1 e).1).2.1),hX.2.2.2⟩)
     ·refine bV rfl rfl rfl (fun L C W h0 m G hX K hK=>?_)
      exact hX.1.app5 alX (.tmp 35) (.tmp 38) rfl (vY (by decide) (by simp)) (vY (by decide) (by simp)) (m 4 (by decide)) (m 7 (by decide)) h0 (by omega) rfl (fun u hu=>by simp at hu;subst hu;rfl) (fun v w' k _ _=>hK v w' ⟨k,hX.2.1,fun e=>Bool.noConfusion (h0.symm.trans (hX.2.2.1 e).1),hX.2.2.2⟩)
     ·refine bV rfl rfl rfl (fun L C W h0 m G hX K hK=>?_)
      have h8:=m 8 (by decide);have h5:=hX.1.f5 h8;have ro:=h5.2.2 h0;refine o6 alX (.tmp 39) (.tmp 42) rfl (vY (by decide) (by simp)) ro ub m2 c2 ((os.drop k).map encStr) ((vY (by decide) (by simp)).trans (G.get 7 rfl (m 11 (by decide)))) bj (fun hk0=>?_) (S.out _) (by omega) hX.1.bel.size (fun v w' hr X _=>hK v w' ⟨⟨i6 hX.1.bel ro X,fun _ h=>h.elim,fun _ c=>Bool.noConfusion (h5.1.symm.trans c),fun _ c=>Bool.noConfusion (h8.symm.trans c),fun _ c=>Bool.noConfusion (h8.symm.trans c),fun _=>⟨h5.1,h5.2.1,fun c=>Bool.noConfusion c⟩⟩,hX.2.1,fun _=>⟨h8,?_⟩,fun e=>Bool.noConfusion (h0.symm.trans (hX.2.2.2 e).1)⟩)
      ·obtain⟨g,rfl,hc⟩:=a7.out W hX.1.bel (by omega)
       have M:=ay.out;rw[zQ (by omega),Option.map_some] at M;refine⟨_,M.symm,fun j u hj=>?_⟩;rw[bJ,bJ,vX];rw[List.map_drop,kK] at hj;exact hc _ u hj
      ·have er:(os.take k++[nm.data.toList]++os.drop k).map encStr=(os.take k).map encStr++[.string nm]++(os.drop k).map encStr:=by simp[e9J]
       rw[er,<-bh];exact hr
     ·refine bV rfl rfl rfl (fun L C W h0 m G hX K hK=>?_)
      exact gG (v:=C 43) (w':=W) (by go_simp) (hK _ _ ⟨hX.1,fun e=>Bool.noConfusion e,hX.2.2.1,fun _=>⟨m 12 (by decide),m 1 (by decide),m 9 (by decide),rfl⟩⟩)
     ·intro L C Wf hL ⟨G,hA,_,a9,aa⟩
      have F:=(a9 (hL 12 (by decide))).2;have e3:=(aa (hL 13 (by decide))).2.2.2;obtain⟨na,nc,V⟩:=iY F;rw[V] at F e3;simp only[ov,List.foldl_cons,List.foldl_nil,List.setIfInBounds_toArray,List.set_cons_zero,List.set_cons_succ];rw[e3,V];obtain⟨N,H⟩:∃ N,os.take k++[nm.data.toList]++os.drop k=N:=⟨_,rfl⟩;have U:N.length=os.length+1:=by rw[<-H];simp;omega
      have aw:Hid (aY (l.take (i+1))=N):=by rw[Hid,D.out,H]
      have am:xQ w Wf:=bt T hA.bel;rw[H,<-U] at F;have ax:=qQ (rowb F T.size);have HQ:Hid (Value.slice na (os.length+1) nc=.slice na N.length nc):=by rw[Hid,U]
      clear F hA a9 aa e3 V H G hL;go_wp2
      go_roundw
      case rel=>exact⟨i+1,na,nc,N,by go_num,HQ.out,by omega,aw,by omega,ax,am⟩
      case measure=>simp[intOf];omega
     ·exact⟨fun t _ h=>Bool.noConfusion h,AA.zero _ _ _ _,fun _=>rfl,fun h=>Bool.noConfusion h,fun h=>Bool.noConfusion h⟩
   ·have au:Hid (aY (l.take (i+1))=os):=by have h:=fbZ X m;rw[R.out] at h;exact h
    have c8:(d != 1)=true:=by simpa using m
    clear m;go_wp2
    go_roundw
    case rel=>exact⟨i+1,I,J,os,by go_num,rfl,by omega,au,by omega,sZ HW.out (cZ (ba _ _)) (by simp),bt P (ba _ _)⟩
    case measure=>simp[intOf];omega
  ·have bc:i=l.length:=by omega
   subst bc;have HZ:Hid (aY l=os):=by have h:=R.out;rw[bU] at h;exact h
   go_wp2;go_ret;exact⟨_,rfl,by rw[HZ.out];exact HW.out,P⟩
end K.P
namespace K.P
open Go.RowKit K.Ds
theorem b4Z (w:World):Calls prog 115 #[] w fun e w'=>e=.returned (rv 1 1)/\xQ w w':=by
 go_enter func115,ntmps115;go_wp2;exact eQ (v:=rv 1 1) (by simp[results,results115,go_sem]) rfl ⟨rfl,ba _ _⟩
theorem fcQ {l:List En}{e:En}(h:l[i]? = some e)(n:ByteArray)(d p:Int):lss (l.take (i+1)) n d p=lss (l.take i) n d p++(if qD n d p e=true then [e.2.2.2] else []):=by
 rw[rX,h];exact jP _ _ _ _ _
theorem fcX {r:Rq}{xs ys:List Rq}(h:(oV r xs).2≠0):oV r (xs++ys)=oV r xs:=by
 induction xs generalizing r with
 | nil=>exact absurd rfl h
 | cons x xs ih =>
  simp only[oV,xF] at h ⊢;by_cases c:(oQ r x).2=0
  ·simp only[c,↓reduceIte] at h ⊢;exact ih h
  ·simp[c]
theorem fcZ (l:List En)(i:Nat)(n:ByteArray)(d p:Int):∃ ys,lss l n d p=lss (l.take i) n d p++ys:=by
 refine⟨lss (l.drop i) n d p,?_⟩;unfold lss;rw[<-iA,<-zN,xN]
theorem b4J (B:Nat)(v:Value)(l:List En)(k:ByteArray)(d0 C:Int)(w:World)(hB:B<=w.heap.size)(hx:uJ w B v l)(r:Rq)(er:Int)(hr:oV pX (lss l k d0 C)=(r,er)) :
  Calls prog 114 #[v,.string k,int i64 d0,int i64 C] w (iQ w (.tuple #[rvq r,int i64 er])):=by
 have HX:=qQ hx;have HR:=qQ hr;obtain⟨a,c,rfl,hc,hl⟩:=hx.slice;clear hr;have V0:Hid (TwoB (w.alloc (.cells #[int i64 0,int i64 0] 37)) w.heap.size (int i64 0) (int i64 0)):=TwoB.new _ _ _ 37 _ rfl;go_enter func114,ntmps114;go_wp2_with fail;refine(b4Z _).mono ?_;rintro e1 P ⟨rfl,H⟩;have G1:=bt (ba _ _) H;have j:w.heap.size<P.heap.size:=by have:=H.size;simp at this;omega
 have W0:=qQ (V0.out.below H);go_wp2_with fail
 go_loopw [17] (fun s wr=>∃ (i:Nat) (q:Rq),s=int i64 (i:Int)/\i<=l.length/\Hid (oV pX (lss (l.take i) k d0 C)=(q,0))/\xQ P wr/\Hid (TwoB wr P.heap.size (int i64 q.1) (int i64 q.2))) (fun s _=>l.length - (intOf s).toNat)
 case atStart=>exact⟨0,pX,rfl,dQ _,by simp[Hid,lss,oV],ba _ _,TwoB.new _ _ _ 37 _ rfl⟩
 case round =>
  obtain⟨i,q,rfl,hi,Q,g,N⟩:=hrel;have I:xQ w wr:=bt G1 g;obtain⟨t0,t1,b8,bb,b3⟩:=N.out;by_cases h1:i<l.length
  ·obtain⟨b,o,d,nm,p,u,v,rfl,hb,hg,e0,e1,e2,e3,e4,_⟩:=HX.out.get hB I h1
   have HL:=qQ (fcQ hg k d0 C)
   have A:(qD k d0 C (d,nm,p,u,v)=false/\((nm.toList == k.toList)=false\/((nm.toList == k.toList)=true/\((d == d0)=false\/((d == d0)=true/\(d0 != 3)=false/\(p == C)=false)))))\/(qD k d0 C (d,nm,p,u,v)=true/\(nm.toList == k.toList)=true/\(d == d0)=true/\((d0 != 3)=true\/((d0 != 3)=false/\(p == C)=true))):=by
    rw[wG];unfold qD;by_cases E:nm=k <;> by_cases F:d=d0 <;> by_cases T:d0=3 <;> by_cases U:p=C <;> first|(simp[E,F,T,U];done)|(simp[E,T,U];omega)
   clear hg;rcases A with⟨J,A⟩|⟨G,ay,ax,A⟩
   ·have R:Hid (oV pX (lss (l.take (i+1)) k d0 C)=(q,0)):=by
     rw[Hid,HL.out,J];simpa using Q.out
    clear J;rcases A with E|⟨E,F|⟨F,T,U⟩⟩
    all_goals
     go_wp2_with fail
     go_roundw
     case rel=>exact⟨i+1,q,by go_num,by omega,R,bt g (ba _ _),N.out.below (ba _ _)⟩
     case measure=>simp[intOf];omega
   ·obtain⟨⟨M,m⟩,Y⟩:∃ y,oQ q (u,v)=y:=⟨_,rfl⟩
    have kt:=beX q.1 q.2 u v M.1 M.2 m (by have:=eN q (u,v);rw[Y] at this;exact this)
    have HS:Hid (oV pX (lss (l.take (i+1)) k d0 C)=if m = 0 then (M,m) else ((0,0),m)):=by
     rw[Hid,HL.out,G,jQ rfl,jE,Q.out];simp[Y]
    clear G Y
    have L:TwoB wr w.heap.size (int i64 0) (int i64 0):=by
     have h:=W0.out;exact⟨(g.cell (p:=⟨w.heap.size,0,none⟩) j).trans h.c0,(g.cell (p:=⟨w.heap.size,1,none⟩) j).trans h.c1,(g.frozen (p:=⟨w.heap.size,0,none⟩) j).trans h.f0,(g.frozen (p:=⟨w.heap.size,1,none⟩) j).trans h.f1,lQ j g.size⟩
    by_cases O:m = 0
    ·subst O
     have S:Hid (oV pX (lss (l.take (i+1)) k d0 C)=(M,0)):=by rw[Hid,HS.out];simp
     rcases A with E|⟨E,F⟩
     all_goals
      go_wp2_with fail;refine(kt _).mono ?_;rintro e5 w5 ⟨rfl,z⟩;have T5:Hid (TwoB w5 P.heap.size (int i64 q.1) (int i64 q.2)):=(N.out.below (ba _ _)).below z;obtain⟨s0,s1,a7,a8,Z⟩:=T5.out;go_wp2_with fail
      go_roundw
      case rel=>exact⟨i+1,M,by go_num,by omega,S,bs (bs (bt g (bt (ba _ _) z)) (vQ _) _) (vQ _) _,T5.out.put _ _⟩
      case measure=>simp[intOf];omega
    ·have D:(r,er)=((0,0),m):=by
      obtain⟨ys,a6⟩:=fcZ l (i+1) k d0 C;have V:=HS.out;rw[zQ O] at V;rw[<-HR.out,a6,fcX (by rw[V];exact O),V]
     simp only[cQ] at D;obtain⟨rfl,rfl⟩:=D;have az:(er != 0)=true:=by simpa using O
     rcases A with E|⟨E,F⟩
     all_goals
      go_wp2_with fail;refine(kt _).mono ?_;rintro e5 w5 ⟨rfl,z⟩;obtain⟨s0,s1,a7,a8,Z⟩:=(N.out.below (ba _ _)).below z;obtain⟨y0,y1,a9,aa,b5⟩:=(L.below (ba _ _)).below z;go_wp2_with fail;exact eQ (v:=.tuple #[rv 0 0,int i64 er]) (by simp[results,results114,go_sem,y0,y1]) rfl ⟨rfl,bs (bs (bs (bs (bt I (bt (ba _ _) z)) (by simp;omega) _) (by simp;omega) _) (vQ _) _) (vQ _) _⟩
  ·have X:i=l.length:=by omega
   subst X
   have D:(r,er)=(q,0):=by
    have F:=Q.out;rw[bU] at F;rw[<-HR.out,F]
   simp only[cQ] at D;obtain⟨rfl,rfl⟩:=D;have h:=W0.out;have y0:=(g.cell (p:=⟨w.heap.size,0,none⟩) j).trans h.c0;have y1:=(g.cell (p:=⟨w.heap.size,1,none⟩) j).trans h.c1;have a9:=(g.frozen (p:=⟨w.heap.size,0,none⟩) j).trans h.f0;have aa:=(g.frozen (p:=⟨w.heap.size,1,none⟩) j).trans h.f1;clear h;go_wp2_with fail;exact eQ (v:=.tuple #[rvq r,int i64 0]) (by simp[results,results114,go_sem,y0,y1]) rfl ⟨rfl,bs (bs I (vQ _) _) (vQ _) _⟩
theorem alZ {r:Rq}{xs:List Rq}(g:pQ r)(h:∀ x∈xs,pQ x):((oV r xs).2=0/\pQ (oV r xs).1)\/oV r xs=((0,0),4):=by
 induction xs generalizing r with
 | nil=>exact .inl ⟨rfl,g⟩
 | cons x xs ih =>
  rcases rI g (h x (bN ..)) with⟨a,i,_⟩|a
  ·simp only[oV,a,↓reduceIte]
   exact ih i (fun y hy=>h y (qM _ hy))
  ·right;simp[oV,a]
theorem alJ {l:List En}(h:∀ e∈l,pQ e.2.2.2)(n:ByteArray)(d p:Int):∀ x∈lss l n d p,pQ x:=by
 intro x g;obtain⟨e,a,rfl⟩:=iJ.1 g;exact h e (bI.1 a).1
theorem fcJ (f:Int->Rq × Int)(m:Rq)(ps:List Int)(p:Int):oZ f m (ps++[p])=if (oZ f m ps).2=0 then (if (f p).2=0 then (if sX (oZ f m ps).1 (f p).1 then (f p).1 else (oZ f m ps).1,0) else ((0,0),(f p).2)) else oZ f m ps:=by
 induction ps generalizing m with
 | nil=>by_cases h:(f p).2=0 <;> by_cases a:sX m (f p).1 <;> simp[oZ,h,a]
 | cons q ps ih =>
  simp only[xF,oZ];by_cases h:(f q).2=0
  ·simp only[h,↓reduceIte];exact ih _
  ·simp[h]
theorem fdQ (f:Int->Rq × Int)(m:Rq)(ps g:List Int)(h:(oZ f m ps).2≠0):oZ f m (ps++g)=oZ f m ps:=by
 induction ps generalizing m with
 | nil=>exact absurd rfl h
 | cons q ps ih =>
  simp only[xF,oZ] at h ⊢;by_cases a:(f q).2=0
  ·simp only[a,↓reduceIte] at h ⊢;exact ih _ h
  ·simp[a]
theorem fdX {l:List En}{e:En}(h:l[i]? = some e)(n:ByteArray):prs (l.take (i+1)) n=prs (l.take i) n++(if e.2.1=n/\e.1=3 then [e.2.2.1] else []):=by
 rw[rX,h];exact vP _ _ _
theorem fdZ (l:List En)(i:Nat)(n:ByteArray):∃ ys,prs l n=prs (l.take i) n++ys:=by
 refine⟨prs (l.drop i) n,?_⟩;unfold prs;rw[<-iA,<-zN,xN]
theorem fdJ (B:Nat)(v:Value)(l:List En)(g:ByteArray)(w:World)(hB:B<=w.heap.size)(hx:uJ w B v l)(ak:∀ e∈l,pQ e.2.2.2)(r:Rq)(er:Int)(hr:cJ l g=(r,er)) :
  Calls prog 64 #[v,.string g] w (iQ w (.tuple #[rvq r,int i64 er])):=by
 have HX:=qQ hx;have HR:=qQ hr;have b5:=qQ ak;obtain⟨⟨E,ae⟩,a7⟩:∃ y,kX l g=y:=⟨_,rfl⟩;have U:=qQ a7;have kp:=fun W (hW:B<=W.heap.size) (h:uJ W B v l)=>b4J B v l g 2 0 W hW h E ae a7;have c6:=fun W (hW:B<=W.heap.size) (h:uJ W B v l) p q e (hq:mQ l g p=(q,e))=>b4J B v l g 3 p W hW h q e hq;obtain⟨a,c,rfl,hc,hl⟩:=hx.slice;have V0:Hid (TwoB (w.alloc (.cells #[int i64 0,int i64 0] 37)) w.heap.size (int i64 0) (int i64 0)):=TwoB.new _ _ _ 37 _ rfl;have bg:Hid (uJ (w.alloc (.cells #[int i64 0,int i64 0] 37)) B (.slice a l.length c) l):=HX.out.at hB (ba _ _);clear hr hx ak;go_enter func64,ntmps64;go_wp2_with fail;refine(kp _ (by simp;omega) bg.out).mono ?_;rintro e1 S ⟨rfl,a8⟩;have G1:xQ w S:=bt (ba _ _) a8;have d4:w.heap.size<S.heap.size:=by have:=a8.size;simp at this;omega
 have W0:=qQ (V0.out.below a8);by_cases a6:ae=0
 ·subst a6
  obtain⟨D,G⟩:∃ D,S.alloc (.cells #[int i64 E.1,int i64 E.2] 37)=D:=⟨_,rfl⟩;have F:xQ S D:=by rw[<-G];exact ba _ _
  have cm:D.heap.size=S.heap.size+1:=by rw[<-G];simp
  have T1:Hid (TwoB D S.heap.size (int i64 E.1) (int i64 E.2)):=by rw[<-G];exact TwoB.new _ _ _ 37 _ rfl
  clear kp a7;go_wp2_with fail;refine(b4Z _).mono ?_;rintro e2 T ⟨rfl,N⟩;have d5:=N.size;have G2:xQ w T:=bt (bt G1 F) N;have T2:=qQ (T1.out.below N);have W2:=qQ ((W0.out.below F).below N);go_wp2_with fail
  go_loopw [26] (fun s wr=>∃ (i:Nat) (m:Rq),s=int i64 (i:Int)/\i<=l.length/\Hid (oZ (mQ l g) pX (prs (l.take i) g)=(m,0))/\Hid (pQ m)/\xQ T wr/\Hid (TwoB wr T.heap.size (int i64 m.1) (int i64 m.2))) (fun s _=>l.length - (intOf s).toNat)
  case atStart=>exact⟨0,pX,rfl,dQ _,by simp[Hid,prs,oZ],sK,ba _ _,TwoB.new _ _ _ 37 _ rfl⟩
  case round =>
   obtain⟨i,m,rfl,hi,HM,Y,z,HT⟩:=hrel;have I:xQ w wr:=bt G2 z;obtain⟨t0,t1,dc,dd,d3⟩:=HT.out;by_cases h1:i<l.length
   ·obtain⟨b,o,d,nm,p,u,v,rfl,hb,hg,e0,e1,e2,e3,e4,_⟩:=HX.out.get hB I h1
    have HL:=qQ (fdX hg g);clear hg;by_cases M:nm=g/\d=3
    ·obtain⟨hn,rfl⟩:=M
     have hq:(nm.toList == g.toList)=true:=by rw[wG];simpa using hn
     have az:Hid (prs (l.take (i+1)) g=prs (l.take i) g++[p]):=by rw[Hid,HL.out,jQ ⟨hn,rfl⟩]
     obtain⟨⟨q,qe⟩,P⟩:∃ y,mQ l g p=y:=⟨_,rfl⟩;obtain⟨X,hX⟩:∃ X,wr.alloc (.cells #[int i64 3,.string nm,int i64 p,int i64 u,int i64 v] 72)=X:=⟨_,rfl⟩;have H:xQ wr X:=by rw[<-hX];exact ba _ _
     have d6:X.heap.size=wr.heap.size+1:=by rw[<-hX];simp
     have VX:=FivB.new wr (int i64 3) (.string nm) (int i64 p) (int i64 u) (int i64 v) 72 _ rfl;rw[hX] at VX;obtain⟨x0,x1,x2,x3,x4,_,_,_,_,_,cz⟩:=VX;have kq:=c6 X (by have:=I.size;omega) (HX.out.at hB (bt I H)) p q qe P;have ag:=qQ P
     have V:Hid (oZ (mQ l g) pX (prs (l.take (i+1)) g)=if qe=0 then (if sX m q then q else m,0) else ((0,0),qe)):=by
      rw[Hid,az.out,fcJ,HM.out,P];simp
     clear P hn;go_wp2_with fail;refine kq.mono ?_;rintro e5 w5 ⟨rfl,O⟩;obtain⟨Z,ai⟩:∃ Z,w5.alloc (.cells #[int i64 q.1,int i64 q.2] 37)=Z:=⟨_,rfl⟩;have k:xQ w5 Z:=by rw[<-ai];exact ba _ _
     have ah:xQ T Z:=bt z (bt H (bt O k));have T5:=qQ (((HT.out.below H).below O).below k);have Q5:Hid (TwoB Z w5.heap.size (int i64 q.1) (int i64 q.2)):=by rw[<-ai];exact TwoB.new _ _ _ 37 _ rfl
     by_cases J:qe=0
     ·subst J
      have R:pQ q:=by
       rcases alZ sK (alJ b5.out g 3 p) with⟨_,h⟩|h
       ·have Q:=ag.out;unfold mQ at Q;rw[Q] at h;exact h
       ·have Q:=ag.out;unfold mQ at Q;rw[Q] at h;simp only[cQ] at h;omega
      have qb:=R.bd;have mb:=Y.out.bd;obtain⟨s0,s1,c7,c8,am⟩:=T5.out;obtain⟨k0,k1,bx,bz,bp⟩:=Q5.out;by_cases A:sX m q
      ·have C:Hid (oZ (mQ l g) pX (prs (l.take (i+1)) g)=(q,0)):=by rw[Hid,V.out];simp[A]
       have km:=fun W=>t6 m.1 m.2 q.1 q.2 mb.1 mb.2.1 (by omega) mb.2.2.2 qb.1 qb.2.1 (by omega) qb.2.2.2 true (sJ A) W;clear A;go_wp2_with fail;refine(km _).mono ?_;rintro e6 w6 ⟨rfl,j⟩;have T6:=qQ (T5.out.below j);obtain⟨s0,s1,c7,c8,am⟩:=T6.out;obtain⟨k0,k1,bx,bz,bp⟩:=Q5.out.below j;have b6:=qQ R;have BB:xQ T ((w6.setCell ⟨T.heap.size,0,none⟩ (int i64 q.1)).setCell ⟨T.heap.size,1,none⟩ (int i64 q.2)):=bs (bs (bt ah j) (vQ _) _) (vQ _) _;clear km;go_wp2_with fail
       go_roundw
       case rel=>exact⟨i+1,q,by go_num,by omega,C,b6,BB,T6.out.put _ _⟩
       case measure=>simp[intOf];omega
      ·have C:Hid (oZ (mQ l g) pX (prs (l.take (i+1)) g)=(m,0)):=by rw[Hid,V.out];simp[A]
       have km:=fun W=>t6 m.1 m.2 q.1 q.2 mb.1 mb.2.1 (by omega) mb.2.2.2 qb.1 qb.2.1 (by omega) qb.2.2.2 false (lZ A) W;clear A;go_wp2_with fail;refine(km _).mono ?_;rintro e6 w6 ⟨rfl,j⟩;have T6:=qQ (T5.out.below j);have BB:xQ T w6:=bt ah j;clear km;go_wp2_with fail
       go_roundw
       case rel=>exact⟨i+1,m,by go_num,by omega,C,Y,BB,T6⟩
       case measure=>simp[intOf];omega
     ·have L:(r,er)=((0,0),qe):=by
       obtain⟨ys,bw⟩:=fdZ l (i+1) g;have h6:=V.out;rw[zQ J] at h6;have h7:oZ (mQ l g) pX (prs l g)=((0,0),qe):=by rw[bw,fdQ _ _ _ _ (by rw[h6];exact J),h6]
       rw[<-HR.out];unfold cJ;rw[U.out,h7];simp[J]
      simp only[cQ] at L;obtain⟨rfl,rfl⟩:=L;have br:(er != 0)=true:=by simpa using J
      have R5:TwoB Z w.heap.size (int i64 0) (int i64 0):=W2.out.below (bt z (bt H (bt O k)));obtain⟨y0,y1,au,aw,an⟩:=R5;have BZ:xQ w ((Z.setCell ⟨w.heap.size,0,none⟩ (int i64 0)).setCell ⟨w.heap.size,1,none⟩ (int i64 0)):=bs (bs (bt I (bt H (bt O k))) (vQ _) _) (vQ _) _;go_wp2_with fail;exact eQ (v:=.tuple #[rv 0 0,int i64 er]) (by simp[results,results64,go_sem,y0,y1]) rfl ⟨rfl,BZ⟩
    ·have C:Hid (oZ (mQ l g) pX (prs (l.take (i+1)) g)=(m,0)):=by rw[Hid,HL.out,zQ M,bG];exact HM.out
     have bm:(nm.toList == g.toList)=false\/((nm.toList == g.toList)=true/\(d == 3)=false):=by
      rw[wG];by_cases Q:nm=g <;> by_cases h3:d=3 <;> simp_all
     clear M;rcases bm with Q|⟨Q,h3⟩
     all_goals
      go_wp2_with fail
      go_roundw
      case rel=>exact⟨i+1,m,by go_num,by omega,C,Y,bt z (ba _ _),HT.out.below (ba _ _)⟩
      case measure=>simp[intOf];omega
   ·have bn:i=l.length:=by omega
    subst bn
    have aj:oQ E m=(r,er):=by
     have h3:=HM.out;rw[bU] at h3;rw[<-HR.out];unfold cJ;rw[U.out,h3];simp
    have kt:=fun W=>beX E.1 E.2 m.1 m.2 r.1 r.2 er (by have:=eN E m;rw[aj] at this;exact this) W;obtain⟨s0,s1,_,_,am⟩:=T2.out.below z;have bc:=qQ (W2.out.below z);clear aj;go_wp2_with fail;refine(kt _).mono ?_;rintro e6 w6 ⟨rfl,j⟩;have R6:=qQ (bc.out.below j);obtain⟨y0,y1,au,aw,an⟩:=R6.out;obtain⟨z0,z1,_,_,_⟩:=R6.out.put (int i64 r.1) (int i64 r.2);have BZ:xQ w ((w6.setCell ⟨w.heap.size,0,none⟩ (int i64 r.1)).setCell ⟨w.heap.size,1,none⟩ (int i64 r.2)):=bs (bs (bt I j) (vQ _) _) (vQ _) _;clear kt;go_wp2_with fail;exact eQ (v:=.tuple #[rvq r,int i64 er]) (by simp[results,results64,go_sem,z0,z1]) rfl ⟨rfl,BZ⟩
 ·have L:(r,er)=((0,0),ae):=by rw[<-HR.out];unfold cJ;rw[U.out];simp[a6]
  simp only[cQ] at L;obtain⟨rfl,rfl⟩:=L;have br:(er != 0)=true:=by simpa using a6
  obtain⟨D,G⟩:∃ D,S.alloc (.cells #[int i64 E.1,int i64 E.2] 37)=D:=⟨_,rfl⟩;have F:xQ S D:=by rw[<-G];exact ba _ _
  have R1:TwoB D w.heap.size (int i64 0) (int i64 0):=W0.out.below F;obtain⟨y0,y1,au,aw,an⟩:=R1;have BZ:xQ w ((D.setCell ⟨w.heap.size,0,none⟩ (int i64 0)).setCell ⟨w.heap.size,1,none⟩ (int i64 0)):=bs (bs (bt G1 F) (vQ _) _) (vQ _) _;clear kp;go_wp2_with fail;exact eQ (v:=.tuple #[rv 0 0,int i64 er]) (by simp[results,results64,go_sem,y0,y1]) rfl ⟨rfl,BZ⟩
theorem rH:(prog.info? 3).map (fun i=>(i.zero,i.size,i.bytes))=some (some (int i64 0),1,8):=by kernel_rfl
theorem b5Q (h:w.ownsRow base t s v n xs)(a:xQ w w'):w'.ownsRow base t s v n xs:=h.kept (cZ a) (by cases hv:v.ownBlock <;> simp)
theorem lR (w:World)(x:Value)(t:TypeId)(N:Nat)(a:N=w.heap.size):∀ j u,[x][j]? = some u->(w.alloc (.cells #[x] t)).cell? ((⟨N,0,none⟩:Addr).add j)=some u:=by
 subst a;exact fun j u hu=>World.news_of_block (w:=w.alloc (.cells #[x] t)) (B:=w.heap.size) (cs:=#[x]) (t:=t) (fr:=(0,0)) (lL w _) j u (by simpa using hu)
theorem b5X (h:w.ownsRow base 3 1 (.slice a os.length c) os.length (os.map (int i64)))(v:j<os.length):∃ g x,a=some ⟨g,0,none⟩/\os[j]? = some x/\g<w.heap.size/\w.cell? ⟨g,j,none⟩=some (int i64 x):=by
 obtain⟨x,o⟩:=fX v;rcases h.2 with⟨k,z⟩|⟨g,cap,cur,k,A,i,hc,_,y,l⟩
 ·omega
 ·simp only[yZ] at k
  refine⟨g,x,k.1,o,(mY.1 i).1,?_⟩;have m:(os.map (Value.int .i64))[j]? = some (int i64 x):=by simp[o]
  rw[<-l,oG (by omega)] at m;have p:cur[j]? = some (int i64 x):=by simpa using m
  simp[World.cell?,i,p]
theorem feQ (h:w.ownsRow base t sz v n xs)(a:v.ownBlock=some g):base<=g:=by
 rcases h.2 with⟨rfl,_⟩|⟨i,cap,cur,rfl,j,hc,_⟩
 ·cases a
 ·simp only[Value.ownBlock,aZ] at a
  omega
theorem feX (h:w.ownsRow base t sz v n xs):∃ a c,v=.slice a n c:=by
 rcases h.2 with⟨rfl,rfl⟩|⟨g,cap,cur,rfl,_⟩
 ·exact⟨_,_,rfl⟩
 ·exact⟨_,_,rfl⟩
theorem b5Z (h:os[j]? = some x)(b:Bool):(b || (os.take (j+1)).any (fun y=>y == p))=((b || (os.take j).any (fun y=>y == p)) || (x == p)):=by
 rw[rX,h];simp[Bool.or_assoc]
theorem feZ (B:Nat)(v:Value)(l:List En)(A:ByteArray)(w:World)(hB:B<=w.heap.size)(hx:uJ w B v l)(bn:l.length<=4096) :
  Calls prog 63 #[v,.string A] w fun x w'=>∃ r,x=.returned r/\w'.ownsRow w.heap.size 3 1 r (bZ l A).length ((bZ l A).map (int i64))/\xQ w w':=by
 have HX:=qQ hx;obtain⟨a,c,rfl,hc,hl⟩:=hx.slice;obtain⟨i0,ao,aq,au,aw⟩:=pZ rH;go_enter func63,ntmps63;go_wp2
 go_loopw [5,13] (fun ov s wr=>∃ (i:Nat) (Z:Option Addr) (oc:Nat) (os:List Int),s=int i64 (i:Int)/\ov=.slice Z os.length oc/\i<=l.length/\Hid (bZ (l.take i) A=os)/\os.length<=i/\Hid (wr.ownsRow w.heap.size 3 1 (.slice Z os.length oc) os.length (os.map (int i64)))/\xQ w wr) (fun _ s _=>l.length - (intOf s).toNat)
 case atStart=>exact⟨0,none,0,[],rfl,rfl,dQ _,by simp[Hid,bZ,prs,xD],vQ _,⟨rfl,.inl ⟨rfl,rfl⟩⟩,uQ _ _⟩
 case round =>
  obtain⟨i,Z,oc,os,rfl,rfl,hi,HO,bk,HW,R⟩:=hrel;by_cases h1:i<l.length
  ·obtain⟨b,o,d,nm,p,u,v,rfl,hb,hg,e0,e1,e2,e3,e4,_⟩:=HX.out.get hB R h1
   have HP:Hid (bZ (l.take (i+1)) A=if nm=A/\d=3/\p ∉ os then os++[p] else os):=by
    rw[Hid,rX,hg];have:=rS (l.take i) (d,nm,p,u,v) A;rw[HO.out] at this;exact this
   clear hg;obtain⟨N,U⟩:∃ b,(!decide (nm=A/\d=3))=b:=⟨_,rfl⟩
   have ak:((nm.toList == A.toList)=false/\N=true)\/((nm.toList == A.toList)=true/\(d != 3)=N):=by
    rw[wG,<-U];by_cases h2:nm=A <;> by_cases h3:d=3 <;> simp[h2,h3]
   have S:=qQ U;clear U;obtain⟨W,hW⟩:∃ W,wr.alloc (.cells #[int i64 d,.string nm,int i64 p,int i64 u,int i64 v] 72)=W:=⟨_,rfl⟩;have BW:xQ wr W:=by rw[<-hW];exact ba _ _
   have ax:W.heap.size=wr.heap.size+1:=by rw[<-hW];simp
   have q2:W.cell? ⟨wr.heap.size,2,none⟩=some (int i64 p):=by rw[<-hW];exact nc _ _ 2 _ rfl rfl
   have q0:W.cell? ⟨wr.heap.size,0,none⟩=some (int i64 d):=by rw[<-hW];exact nc _ _ 0 _ rfl rfl
   have q1:W.cell? ⟨wr.heap.size,1,none⟩=some (.string nm):=by rw[<-hW];exact nc _ _ 1 _ rfl rfl
   have D:=qQ (b5Q HW.out BW);have E:xQ w W:=bt R BW;have bm:w.heap.size<=wr.heap.size:=R.size;have Q:∀ b,(nm.toList == A.toList)=b->(nm.toList != A.toList) = !b:=fun b h=>by rw[bne,h]
   rcases ak with⟨h2,rfl⟩|⟨h2,h3⟩
   ·have ai:=Q _ h2
    clear Q;go_wp2
    go_loopw [8,28] (fun bv s wx=>∃ (j:Nat) (M:Bool),bv=.bool M/\s=int i64 (j:Int)/\j<=os.length/\Hid ((true || (os.take j).any (fun y=>y == p))=M)/\wx=W) (fun _ s _=>os.length - (intOf s).toNat)
    case atStart=>exact⟨0,true,rfl,rfl,dQ _,by simp[Hid],by first|rfl|trivial⟩
    case round =>
     obtain⟨j,M,rfl,rfl,hj,HB,J⟩:=hrel;have Y:=J.symm;subst Y;clear J;by_cases X:j<os.length
     ·obtain⟨g,x,rfl,L,am,al⟩:=b5X D.out X
      have T:=b5Z (p:=p) L true;rw[HB.out] at T;have G:=qQ T;clear T L;cases M with
      | true =>
       go_wp2
       go_roundw
       case rel=>exact⟨j+1,true,rfl,by go_num,by omega,by rw[Hid,G.out];rfl,by first|rfl|trivial⟩
       case measure=>simp[intOf];omega
      | false =>
       go_wp2
       go_roundw
       case rel=>exact⟨j+1,(x == p),by simp,by go_num,by omega,by rw[Hid,G.out];rfl,by first|rfl|trivial⟩
       case measure=>simp[intOf];omega
     ·have V:j=os.length:=by omega
      subst V;have C:=HB.out;rw[bU] at C;have F:=qQ C;clear C;cases M with
      | true =>
       have H:Hid (bZ (l.take (i+1)) A=os):=by
        rw[Hid,HP.out,zQ];rintro⟨c1,c2,c3⟩;have O:=S.out;have P:=F.out;rw[sJ ⟨c1,c2⟩] at O;simp at O
       go_wp2
       go_roundw
       case rel=>exact⟨i+1,Z,oc,os,by go_num,rfl,by omega,H,by omega,D,E⟩
       case measure=>simp[intOf];omega
      | false =>
       have P:=F.out;simp at P
   ·have ai:=Q _ h2
    clear Q;go_wp2
    go_loopw [8,28] (fun bv s wx=>∃ (j:Nat) (M:Bool),bv=.bool M/\s=int i64 (j:Int)/\j<=os.length/\Hid ((N || (os.take j).any (fun y=>y == p))=M)/\wx=W) (fun _ s _=>os.length - (intOf s).toNat)
    case atStart=>exact⟨0,N,rfl,rfl,dQ _,by simp[Hid],by first|rfl|trivial⟩
    case round =>
     obtain⟨j,M,rfl,rfl,hj,HB,J⟩:=hrel;have Y:=J.symm;subst Y;clear J;by_cases X:j<os.length
     ·obtain⟨g,x,rfl,L,am,al⟩:=b5X D.out X
      have T:=b5Z (p:=p) L N;rw[HB.out] at T;have G:=qQ T;clear T L;cases M with
      | true =>
       go_wp2
       go_roundw
       case rel=>exact⟨j+1,true,rfl,by go_num,by omega,by rw[Hid,G.out];rfl,by first|rfl|trivial⟩
       case measure=>simp[intOf];omega
      | false =>
       go_wp2
       go_roundw
       case rel=>exact⟨j+1,(x == p),by simp,by go_num,by omega,by rw[Hid,G.out];rfl,by first|rfl|trivial⟩
       case measure=>simp[intOf];omega
     ·have V:j=os.length:=by omega
      subst V;have C:=HB.out;rw[bU] at C;have F:=qQ C;clear C;cases M with
      | true =>
       have H:Hid (bZ (l.take (i+1)) A=os):=by
        rw[Hid,HP.out,zQ];rintro⟨c1,c2,c3⟩;have O:=S.out;have P:=F.out;rw[sJ ⟨c1,c2⟩] at O;rw[<-O] at P;simp at P;exact c3 P
       go_wp2
       go_roundw
       case rel=>exact⟨i+1,Z,oc,os,by go_num,rfl,by omega,H,by omega,D,E⟩
       case measure=>simp[intOf];omega
      | false =>
       have H:Hid (bZ (l.take (i+1)) A=os++[p]):=by
        have O:=S.out;have P:=F.out;simp at P;rw[Hid,HP.out,jQ];rw[P.1] at O;simp at O;exact⟨O.1,O.2,fun hp=>P.2 p hp rfl⟩
       have af:Hid ((W.alloc (.cells #[int i64 p] 3)).ownsRow w.heap.size 3 1 (.slice Z os.length oc) os.length (os.map (int i64))):=b5Q D.out (ba _ _);go_wp2_with (at_builtin;refine iO _ rfl _ _ 35 rfl w.heap.size 3 i0 (int i64 0) 1 8 underlying35 ao aq au aw rfl (by decide) (.slice Z os.length oc) os.length (os.map (int i64)) rfl af.out ⟨wr.heap.size+1,0,none⟩ 1 1 [int i64 p] rfl ?q1 ?q2 ?q3 ?q4 ?q5 ?q6 ?_)
       case q1=>rfl
       case q2=>exact lR W _ _ _ ax.symm
       case q3=>intro z hz;simp at hz;subst hz;rfl
       case q4=>unfold maxLen;omega
       case q5=>omega
       case q6=>simp;omega
       intro bq w5 I m ac aj
       have aa:xQ w w5:=by
        refine⟨m.os.trans E.os,m.tape.trans E.tape,m.output.trans E.output,by have:=m.size;simp at this;omega,fun k hk=>?_⟩;refine(m.block k (by simp;omega) (fun e=>?_)).trans ((tM _ _ _ (by omega)).trans (E.block k hk));have:=(feQ D.out e.symm);omega
       obtain⟨na,ae,rfl⟩:=feX I
       have ah:Hid (w5.ownsRow w.heap.size 3 1 (.slice na (os++[p]).length ae) (os++[p]).length ((os++[p]).map (int i64))):=by
        have h:=I;rw[Hid];simpa using h
       clear I m ac aj;go_wp2
       go_roundw
       case rel=>exact⟨i+1,na,ae,os++[p],by go_num,by simp,by omega,H,by simp;omega,ah,aa⟩
       case measure=>simp[intOf];omega
  ·have an:i=l.length:=by omega
   subst an;have HZ:Hid (bZ l A=os):=by have h:=HO.out;rw[bU] at h;exact h
   go_wp2;go_ret;exact⟨_,rfl,by rw[HZ.out];exact HW.out,R⟩
end K.P
namespace K.P
open Go.RowKit Go.Shelf K.Ds
theorem mR {l:List En}{e:En}(h:mZ e≠0):zZ l e=mZ e:=by unfold zZ;rw[jQ h]
theorem feJ {l:List En}{e:En}(h:mZ e=0)(a:4096<=l.length):zZ l e=4:=by unfold zZ;rw[zQ (by omega),jQ a]
theorem aC {v:Int}(h:d<1\/3<d):mZ (d,nm,p,u,v)=1:=by unfold mZ;rw[jQ h]
theorem b5J {v:Int}(h:¬ (d<1\/3<d))(a:¬ (mJ nm.data.toList=true/\Rt.rQ u v=true)):mZ (d,nm,p,u,v)=2:=by unfold mZ;rw[zQ h,zQ a]
theorem b6Q {v:Int}(h:¬ (d<1\/3<d))(a:mJ nm.data.toList=true/\Rt.rQ u v=true)(g:u<v):mZ (d,nm,p,u,v)=3:=by unfold mZ;rw[zQ h,jQ a,jQ g]
theorem ffQ {v:Int}(h:¬ (d<1\/3<d))(a:mJ nm.data.toList=true/\Rt.rQ u v=true)(g:¬ u<v):mZ (d,nm,p,u,v)=0:=by unfold mZ;rw[zQ h,jQ a,zQ g]
theorem ffX (B:Nat)(dv:Value)(l:List En)(e:En)(w:World)(V:uJ w B dv l)(U:e.2.1.size<=9223372036854775807)(y:mZ e≠0\/4096<=l.length) :
  Calls prog 33 #[dv,ev e] w (iQ w (int i64 (zZ l e))):=by
 obtain⟨er,g⟩:∃ er,zZ l e=er:=⟨_,rfl⟩;rw[g];obtain⟨a,c,rfl,hc,Y⟩:=V.slice;obtain⟨d,nm,p,u,v⟩:=e;have I:nm.size<=9223372036854775807:=U;have D:=fun W r (m:mJ nm.data.toList=r)=>dS nm I W r m;have J:=fun W r (m:Rt.rQ u v=r)=>refRight_any u v r m W;have E:=FivB.new w (int i64 d) (.string nm) (int i64 p) (int i64 u) (int i64 v) 72 _ rfl;obtain⟨X,P⟩:∃ X,w.alloc (.cells #[int i64 d,.string nm,int i64 p,int i64 u,int i64 v] 72)=X:=⟨_,rfl⟩;have j:xQ w X:=by rw[<-P];exact ba _ _
 rw[P] at E;have A:=qQ E;obtain⟨x0,x1,x2,x3,x4,_,_,_,_,_,T⟩:=E;by_cases N:d<1
 ·obtain rfl:1=er:=by rw[<-g,mR (by rw[aC (.inl N)];decide),aC (.inl N)]
  clear g y;go_enter func33,ntmps33;go_wp2;go_ret;exact⟨rfl,j⟩
 by_cases O:3<d
 ·obtain rfl:1=er:=by rw[<-g,mR (by rw[aC (.inr O)];decide),aC (.inr O)]
  clear g y;go_enter func33,ntmps33;go_wp2;go_ret;exact⟨rfl,j⟩
 have k:¬ (d<1\/3<d):=by omega
 by_cases o:mJ nm.data.toList=true
 ·by_cases m:Rt.rQ u v=true
  ·by_cases z:u<v
   ·obtain rfl:3=er:=by rw[<-g,mR (by rw[b6Q k ⟨o,m⟩ z];decide),b6Q k ⟨o,m⟩ z]
    clear g y;go_enter func33,ntmps33;go_wp2_with fail;refine(D _ _ o).mono ?_;rintro e1 L ⟨rfl,rfl⟩;go_wp2_with fail;refine(J _ _ m).mono ?_;rintro e2 Q ⟨rfl,i⟩;obtain⟨y0,y1,y2,y3,y4,_,_,_,_,_,F⟩:=A.out.below i;go_wp2;go_ret;exact⟨rfl,bt j i⟩
   ·have M:=ffQ (p:=p) k ⟨o,m⟩ z
    have R:4096<=l.length:=by rcases y with h|h;exact absurd M h;exact h
    obtain rfl:4=er:=by rw[<-g,feJ M R]
    have S:(l.length:Int) ≥ 4096:=by omega
    clear g y;go_enter func33,ntmps33;go_wp2_with fail;refine(D _ _ o).mono ?_;rintro e1 L ⟨rfl,rfl⟩;go_wp2_with fail;refine(J _ _ m).mono ?_;rintro e2 Q ⟨rfl,i⟩;obtain⟨y0,y1,y2,y3,y4,_,_,_,_,_,F⟩:=A.out.below i;go_wp2;go_ret;exact⟨rfl,bt j i⟩
  ·have H:Rt.rQ u v=false:=by simpa using m
   have C:=b5J (p:=p) (nm:=nm) k (fun h=>m h.2);obtain rfl:2=er:=by rw[<-g,mR (by rw[C];decide),C]
   clear g y;go_enter func33,ntmps33;go_wp2_with fail;refine(D _ _ o).mono ?_;rintro e1 L ⟨rfl,rfl⟩;go_wp2_with fail;refine(J _ _ H).mono ?_;rintro e2 Q ⟨rfl,i⟩;go_wp2;go_ret;exact⟨rfl,bt j i⟩
 ·have G:mJ nm.data.toList=false:=by simpa using o
  have C:=b5J (p:=p) (u:=u) (v:=v) k (fun h=>o h.1);obtain rfl:2=er:=by rw[<-g,mR (by rw[C];decide),C]
  clear g y;go_enter func33,ntmps33;go_wp2_with fail;refine(D _ _ G).mono ?_;rintro e1 L ⟨rfl,rfl⟩;go_wp2;go_ret;exact⟨rfl,j⟩
