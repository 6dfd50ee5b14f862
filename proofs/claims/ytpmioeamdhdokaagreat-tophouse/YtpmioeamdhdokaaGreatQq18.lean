import Derived.Test.YtpmioeamdhdokaaGreatQq17
import Derived.Test.YtpmioeamdhdokaaGreatQq14
open Go.Proofs.Tryz
set_option linter.unusedSimpArgs false
set_option maxHeartbeats 16000000
set_option maxRecDepth 100000
namespace Go.Proofs.YtpmioeamdhdokaaGreat
variable {W w:World} {B i n nb:Nat} {M j k:Int} {t:TypeId} {a b nv s sv u v:Value} {x xs y:List Int}
section
open Go.RowKit Go.Shelf Ds
attribute [local go_sem] Oper.semAt_some
def zD (p:Tr × Tr):Tr:=(if p.1.2.2=0 then p.2.1 else p.1.1,if p.1.2.2=0 then p.2.2.1 else p.1.2.1,p.1.2.2+p.2.2.2)
def tK {w:World} {B:Nat} {M:Int} (pre:List (PP w B M)):List Tr:=pre.map fun x=>zD x.1
theorem byX (pre:List (PP w B M)):(tK pre).length=pre.length:=by simp[tK]
theorem byZ (pre:List (PP w B M))(x:PP w B M):tK (pre++[x])=tK pre++[zD x.1]:=by simp[tK]
theorem e9Q (az bz:List Tr):(mrg az bz).length<=az.length+bz.length:=by
 induction az,bz using mrg.induct with
 | case1=>simp[mrg]
 | case2 b bs ih=>rw[mrg];simp at *;omega
 | case3 a az ih=>rw[mrg];simp at *;omega
 | case4 a az b bs h ih=>rw[pT h];simp at *;omega
 | case5 a az b bs h1 h2 ih=>rw[rT h2];simp at *;omega
 | case6 a az b bs h1 h2 ih=>rw[sT (by omega)];simp at *;omega
theorem e9X (h:Boxed W B t u)(k:Boxed W B t v):u=v:=by
 have:=(show W.heap[B]? = _ from h).symm.trans (show W.heap[B]? = _ from k);simpa using this
theorem byJ (W:World)(s:Value)(k:Int)(n:Nat)(hn:W.heap.size=n):∀ j u,[s,Value.int .i64 k][j]? = some u->(W.alloc (.cells #[s,.int .i64 k] 82)).cell? ((⟨n,0,none⟩:Addr).add j)=some u:=by
 subst hn;intro j u hj
 match j,hj with
 | 0,hj=>simp at hj;subst hj;simp[go_sem,Addr.add]
 | 1,hj=>simp at hj;subst hj;simp[go_sem,Addr.add]
theorem bzQ (a:Option Addr)(n c:Nat)(k:Int):∀ u∈[Value.slice a n c,Value.int .i64 k],u.oneCell' = true:=by
 intro u hu;simp at hu;rcases hu with rfl|rfl <;> rfl
theorem e9Z (a b:Value)(x y:List Int)(k:Int):zD ((a,x,0),(b,y,k))=(b,y,0+k):=by simp[zD]
theorem e9J (h:¬ j=0):zD ((a,x,j),(b,y,k))=(a,x,j+k):=by simp[zD,h]
theorem bzX (ds:List Tr)(t:Tr):flat (ds++[t])=flat ds++[t.1,.int .i64 t.2.2]:=by simp[flat]
theorem faQ (B:Nat)(u v:Value)(ts us:List Tr)(w:World)(hB:B<=w.heap.size)(hp:fQ w B u ts)(hq:fQ w B v us)(hl1:ts.length<=4096)(hl2:us.length<=4096)
  (hm1:∀ t∈ts,0<=t.2.2/\t.2.2<=(1152921504606846976:Int)) (hm2:∀ t∈us,0<=t.2.2/\t.2.2<=(1152921504606846976:Int)) (xs:List Tr) (hx:(mrg ts us).map zD=xs) :
  Calls prog 143 #[u,v] w fun e w'=>∃ v',e=.returned v'/\w'.ownsRow w.heap.size 82 2 v' xs.length (flat xs)/\(∀ t∈xs,jQ w' w.heap.size w.heap.size t.1 t.2.1)/\Below w.heap.size w w':=by
 have HP:=qQ hp;have HQ:=qQ hq;have HX:=qQ hx;have HM1:=qQ hm1;have HM2:=qQ hm2;obtain⟨a,c,rfl,_⟩:=hp;obtain⟨a',c',rfl,_⟩:=hq;obtain⟨i0,hi0,hz0,hz1,hz2⟩:=rJ fM;obtain⟨w1,hmk,hown1,hgr1⟩:=run_make_own (P:=prog) w w.heap.size 66 82 i0 (.agg #[.slice none 0 0,.int .i64 0]) 2 underlying66 hi0 hz0 hz1 .i64 .i64 (ts.length+us.length) (by rw[hz2];omega) (by unfold maxLen;omega) (vQ _)
 have hmk':(Instr.makeSlice 66 (.int .i64 0) (.int .i64 ((ts.length:Int)+(us.length:Int)))).run prog w=.ok (.slice (some ⟨w.heap.size,0,none⟩) 0 (ts.length+us.length)) w1:=by
  rw[<-sS];exact hmk
 have hd:decide (4096<(ts.length:Int))=false:=oV (by omega);have hd':¬ 4096<(ts.length:Int):=by omega
 clear hx hm1 hm2 hmk;refine(qA (n:=5)).1 ?_;refine callsIn_of_wp_marks func143 rfl trivial ?_ rfl;simp only[ntmps143,eE,oJ,qG,Nat.reduceAdd,Nat.reduceSub,fE,gE,iE,kE,gP,pA];gi_wp2_with fail;refine⟨trivial,?_⟩;refine(cqZ _ _ _ _ _ _ _ _).mono ?_;rintro e w4 ⟨rfl,hw4⟩;gi_wp2_with fail;clear hw4;obtain⟨W0,hW0⟩:∃ W0,(((w1.alloc (Obj.cells #[Value.slice (some ⟨w.heap.size,0,none⟩) 0 (ts.length+us.length)] 66)).alloc (Obj.cells #[Value.slice a ts.length c] 66)).alloc (Obj.cells #[Value.slice a' us.length c'] 66))=W0:=⟨_,rfl⟩;have hs1:=hgr1.size;have hsz:W0.heap.size=w1.heap.size+3:=by rw[<-hW0];simp
 have gB:Boxed W0 w1.heap.size 66 (.slice (some ⟨w.heap.size,0,none⟩) 0 (ts.length+us.length)):=by rw[<-hW0];exact((tN w1 66 _).alloc _).alloc _
 have gR:W0.ownsRow w.heap.size 82 2 (.slice (some ⟨w.heap.size,0,none⟩) 0 (ts.length+us.length)) 0 []:=by rw[<-hW0];exact((hown1.alloc _).alloc _).alloc _
 have g4:W0.cell? ⟨w1.heap.size+1,0,none⟩=some (.slice a ts.length c):=by rw[<-hW0];simp[go_sem]
 have g5:W0.cell? ⟨w1.heap.size+1+1,0,none⟩=some (.slice a' us.length c'):=by rw[<-hW0];simp[go_sem]
 have hb0:Below w.heap.size w W0:=by
  rw[<-hW0];have h1:Below w.heap.size w w1:=(aQ _ _).grown hgr1 (vQ _) (by intro k e;cases e);exact bal (bal (bal h1 _) _) _
 have hX1:fQ W0 w.heap.size (.slice a ts.length c) ts:=(HP.out.at hB hb0).mono hB;have hX2:fQ W0 w.heap.size (.slice a' us.length c') us:=(HQ.out.at hB hb0).mono hB;rw[hW0];clear hW0 hown1
 refine wpIn_rangeFunc_ownH rfl (by decide) (gf:=250) (lb:=#[.pointer (some ⟨w1.heap.size+1,0,none⟩),.pointer (some ⟨w1.heap.size+1+1,0,none⟩)]) rfl trivial (enters_of func250 (by kernel_rfl) rfl)
  (cqJ 4 (by decide) (w1.heap.size+1) (w1.heap.size+1+1) w.heap.size 1152921504606846976 (by decide) (.slice a ts.length c) (.slice a' us.length c') ts us W0 (by omega) (by omega) (by omega) g4 g5 hX1 hX2 HM1.out HM2.out) belowK_t (belowK_b (by omega)) (aQ _ _) (fun _=>rfl)
  (fun pre W=>(∃ v,Boxed W w1.heap.size 66 v/\W.ownsRow w.heap.size 82 2 v pre.length (flat (tK pre))/\True)/\Below w.heap.size W0 W)
  (fun _ _ _=>False)
  (OwnFrom.and (Own.from (holdsRow_own w.heap.size w1.heap.size 66 82 2 (fun pre=>pre.length) (fun pre=>flat (tK pre)) (fun _ _=>True)) _) (ownFrom_below (by omega) (by omega)))
  (fun _ _ _ _ _ hs _ _=>hs)
  ⟨⟨_,gB,gR,trivial⟩,aQ _ _⟩
  (fun x act W=>∃ Bx v0,W0.heap.size<=Bx/\mM W Bx x/\Boxed W w1.heap.size 66 v0/\v0.ownBlock≠some Bx/\act={ tmps:=#[.slice a ts.length c,.slice a' us.length c',undef,undef,.slice none 0 0,.pointer (some ⟨w1.heap.size,0,none⟩),.pointer (some ⟨Bx,0,none⟩),.pointer (some ⟨Bx+1,0,none⟩),.slice a ts.length c,.int .i64 (ts.length:Int),.bool false,undef,.slice a ts.length c,.int .i64 (ts.length:Int),.slice a' us.length c',.int .i64 (us.length:Int),.int .i64 ((ts.length:Int)+(us.length:Int)),.slice (some ⟨w.heap.size,0,none⟩) 0 (ts.length+us.length),.slice a ts.length c,.slice a' us.length c',.func (.func 250) #[] #[.pointer (some ⟨w1.heap.size+1,0,none⟩),.pointer (some ⟨w1.heap.size+1+1,0,none⟩)],.agg #[x.1.1.1,.int .i64 x.1.1.2.2],.agg #[x.1.2.1,.int .i64 x.1.2.2.2],undef,undef,undef,undef,undef,undef,undef,undef,undef,undef,undef,undef,undef,undef,undef,undef,undef,undef],defers:=[] })
  (fun x act _ X Y row hs hg hr=>by obtain⟨Bx,v0,h1,h2,h4,h5,h3⟩:=hs;exact⟨Bx,v0,h1,h2.own hg (fun r e=>(hr r e).2),h4.kept hg (fun e=>by obtain⟨_,o,ho,hc⟩:=hr _ e.symm;rw[show X.heap[w1.heap.size]? = _ from h4] at ho;cases ho;cases hc),h5,h3⟩)
  ?assign ?body ?done ?stop
 case assign =>
  rintro l pre x W K ⟨⟨v,hv,hrow,_⟩,hB1⟩ hK;have hs:=hB1.size;have hlt:∀ g,v.ownBlock=some g->g<W.heap.size:=fun g e=>(hrow.lt g e).2;obtain⟨⟨⟨xv,xo,xk⟩,⟨yv,yo,yk⟩⟩,hx⟩:=x;obtain⟨sa,sc,e1,_⟩:=hx.1;obtain⟨sa',sc',e2,_⟩:=hx.2.1;simp only at e1 e2;subst e1 e2;simp only[eL];gi_wp2;exact hK _ _ (((KeepsOthers.alloc _ _).trans (KeepsOthers.alloc _ _)).from _) (((aQ _ W).alloc (by omega) _).alloc (by simp;omega) _) ⟨⟨v,(hv.alloc _).alloc _,(hrow.alloc _).alloc _,trivial⟩,(hB1.alloc (by omega) _).alloc (by simp;omega) _⟩ ⟨W.heap.size,v,hs,crX W ⟨((.slice sa xo.length sc,xo,xk),(.slice sa' yo.length sc',yo,yk)),hx⟩,(hv.alloc _).alloc _,(fun e=>Nat.lt_irrefl _ (hlt _ e)),rfl⟩
 case body =>
  rintro l pre x act W hl ⟨r,hr⟩ ⟨⟨v,hv,hrow,_⟩,hB1⟩ ⟨Bx,v0,hBx,bX,hv0,hne0,rfl⟩ hlt;obtain rfl:=e9X hv hv0;obtain⟨k1,k2,k3,k4⟩:=bX.cells;have k5:W.frozen? ⟨Bx,0,none⟩=false:=by simp[World.frozen?,bX.1]
  have hs:=hB1.size;have hbxl:Bx<W.heap.size:=(zJ.1 bX.1).1;have hc:=hv.cell;have hneb:¬ w1.heap.size=Bx:=by omega
  obtain⟨⟨⟨xv,xo,xk⟩,⟨yv,yo,yk⟩⟩,hx⟩:=x;obtain⟨sa,sc,e1,_⟩:=hx.1;obtain⟨sa',sc',e2,_⟩:=hx.2.1;have hxx:=hx.2.2;simp only at e1 e2 k1 k2 k3 k4 hxx;obtain⟨⟨hx1,hx2⟩,⟨hy1,hy2⟩⟩:=hxx;subst e1 e2;obtain⟨va,vc,rfl⟩:=bF hrow;clear bX hv0;by_cases hz:xk=0
  ·subst hz
   obtain⟨W1,hW1⟩:∃ W1,W.setCell ⟨Bx,0,none⟩ (.slice sa' yo.length sc')=W1:=⟨_,rfl⟩;have r1:W1.cell? ⟨Bx,0,none⟩=some (.slice sa' yo.length sc'):=by rw[<-hW1];exact wZ k1
   have r2:W1.cell? ⟨Bx,1,none⟩=some (.int .i64 0):=by rw[<-hW1];exact(gQ (by simp)).trans k2
   have r3:W1.cell? ⟨Bx+1,1,none⟩=some (.int .i64 yk):=by rw[<-hW1];exact(gQ (by simp)).trans k4
   have hvS:Boxed W1 w1.heap.size 66 (.slice va pre.length vc):=by rw[<-hW1];exact hv.kept (mE W Bx _) (by simp;omega)
   have hrowS:W1.ownsRow w.heap.size 82 2 (.slice va pre.length vc) pre.length (flat (tK pre)):=by rw[<-hW1];exact hrow.kept (mE W Bx _) (.inr hne0)
   have hkS:KeepsOthers W W1:=hW1▸KeepsOthers.setCell _ _ _;have hbS:Below w.heap.size W W1:=by rw[<-hW1];exact(aQ _ W).setCell (p:=⟨Bx,0,none⟩) (by show w.heap.size<=Bx;omega) _
   have hsS:W1.heap.size=W.heap.size:=by rw[<-hW1];simp
   have hcS:=hvS.cell;clear hv hrow hc;gi_wp2_with (gi_at_builtin;refine wpListIn_append_own _ rfl _ _ 66 rfl w.heap.size 82 i0 (.agg #[.slice none 0 0,.int .i64 0]) 2 32 underlying66 hi0 hz0 hz1 hz2 rfl (by decide) _ _ _ rfl (hrowS.alloc _) ⟨W.heap.size,0,none⟩ 1 1 [.slice sa' yo.length sc',.int .i64 yk] rfl rfl (byJ W1 _ _ _ hsS) (bzQ _ _ _ _) (by unfold maxLen;omega) (by omega) (by simp;omega) ?_;intro v' w5 hown' hgrow _;obtain⟨g',cap',rfl⟩:=ownsRow_succ hown';obtain⟨hv1,hv2,hr2,hk2,hb2⟩:=hvS.appended (by decide) hrowS (by omega) (by omega) hown' hgrow;have hc1:=hv1.cell;have hf1:=hv1.frozen);refine⟨(hkS.trans hk2).from _,hbS.trans hb2,⟨⟨_,hv2,?_⟩,(hB1.trans hbS).trans hb2⟩⟩;rw[byZ,bzX,e9Z];simpa using hr2
  ·have hz':(xk == 0)=false:=by simpa using hz
   have hk0:0<=xk+yk/\xk+yk<=4611686018427387904:=by omega
   gi_wp2_with (gi_at_builtin;refine wpListIn_append_own _ rfl _ _ 66 rfl w.heap.size 82 i0 (.agg #[.slice none 0 0,.int .i64 0]) 2 32 underlying66 hi0 hz0 hz1 hz2 rfl (by decide) _ _ _ rfl (hrow.alloc _) ⟨W.heap.size,0,none⟩ 1 1 [.slice sa xo.length sc,.int .i64 (xk+yk)] rfl rfl (byJ W _ _ _ rfl) (bzQ _ _ _ _) (by unfold maxLen;omega) (by omega) (by simp;omega) ?_;intro v' w5 hown' hgrow _;obtain⟨g',cap',rfl⟩:=ownsRow_succ hown';obtain⟨hv1,hv2,hr2,hk2,hb2⟩:=hv.appended (by decide) hrow (by omega) (by omega) hown' hgrow;have hc1:=hv1.cell;have hf1:=hv1.frozen);refine⟨hk2.from _,hb2,⟨⟨_,hv2,?_⟩,hB1.trans hb2⟩⟩;rw[byZ,bzX,e9J hz];simpa using hr2
 case done =>
  rintro D ys W hD hS ⟨⟨v,hv,hrow,_⟩,hB1⟩ hK;have hc:=hv.cell;have hpx:tK ys=xs:=by rw[<-HX.out,<-hS,List.map_map];rfl
  have hlx:ys.length=xs.length:=by rw[<-hpx,byX]
  have hI:∀ t∈xs,jQ W0 w.heap.size w.heap.size t.1 t.2.1:=by
   rw[<-hpx];intro t ht;obtain⟨x,_,rfl⟩:=wX.1 ht;unfold zD;split
   ·exact x.2.2.1
   ·exact x.2.1
  obtain⟨va,vc,rfl⟩:=bF hrow;have HI:=qQ hI;have HRW:Hid (W.ownsRow w.heap.size 82 2 (.slice va ys.length vc) xs.length (flat xs)):=by rw[Hid,<-hpx,byX];exact hrow
  have HK:=qQ hK;clear hI hpx hlx hrow hS;gi_wp2;refine⟨by simp,.inl ⟨_,_,rfl,run_takeDeferred HK.out,?_⟩⟩;have hbD:=belowK_b (w:=w) (vQ _) W D _ (.deferred none) (by omega) HK.out rfl rfl;exact⟨_,results_tmp rfl _ _ _,_,rfl,ownsRow_putObj HRW.out _ HK.out rfl,fun t ht=>(HI.out t ht).keep (hB1.trans hbD),(hb0.trans hB1).trans hbD⟩
 case stop =>
  rintro D c pre W _ _ h _;exact h.elim
end
section
open Go.RowKit Ds
def aS (n:Nat) (ts:List Tr):Prop:=∀ t∈ts,t.2.1≠[]->∀ b o sp k c,t.1=.slice (some ⟨b,o,sp⟩) k c->b<n
theorem aS.of {ts us:List Tr}(h:aS n ts)(hu:∀ t∈us,∃ u∈ts,t.1=u.1/\t.2.1=u.2.1):aS n us:=by
 intro t ht hne b o sp k c e;obtain⟨u,hu1,e1,e2⟩:=hu t ht;exact h u hu1 (e2▸hne) b o sp k c (e1▸e)
theorem faX (h:jQ w B nb s xs):xs≠[]->∀ b o sp n c,s=.slice (some ⟨b,o,sp⟩) n c->b<B:=by
 intro hne b o sp n c e;obtain⟨a,c',hv,_,_,hx⟩:=h;obtain⟨b',o',ha,hb,_,_⟩:=hx hne;rw[hv,ha] at e;simp only[iZ,xX,jG] at e;omega
theorem oX.olds {lo:Nat}{ts:List Tr}(h:oX w lo v ts):aS w.heap.size ts:=by
 rcases h with⟨_,rfl⟩|⟨b,o,c,_,_,_,_,_,hi⟩
 ·intro t ht;cases ht
 ·exact fun t ht=>faX (hi t ht)
structure Bth (lo n:Nat) (sv nv:Value) (W:World) (ss ns:List Tr):Prop where
 so:oX W lo sv ss
 no:oX W n nv ns
 fr:sQ n ns
 sl:∀ g,sv.ownBlock=some g->g<n
 si:aS n ss
 le:lo<=n
theorem Bth.drew {lo:Nat}{ss ns:List Tr}(h:Bth lo n sv nv W ss ns):Bth lo n sv nv W.drew ss ns :=
 ⟨h.so.keep (aQ _ _).drew,h.no.keep (aQ _ _).drew,h.fr,h.sl,h.si,h.le⟩
theorem Bth.timesS {lo:Nat}{ss ns:List Tr}(h:Bth lo n sv nv W ss ns)(g:Int)(hk:∀ t∈ss,0<=t.2.2*g/\t.2.2*g<=4611686018427387904)(us:List Tr)(hu:iQ g ss=us) :
  Calls prog 144 #[sv,.int .i64 g] W fun e W'=>e=.returned sv/\Bth lo n sv nv W' us ns/\W.grownBy W' sv.ownBlock:=by
 refine(bxQ lo sv ss g W h.so hk us hu).mono ?_;rintro e W' ⟨he,ho,hg⟩;refine⟨he,⟨ho,h.no.beside hg (fun b e e'=>?_) (fun t ht hne b o sp k c e e'=>?_),h.fr,h.sl,h.si.of (fun t ht=>uS (g:=g) (hu▸ht)),h.le⟩,hg⟩
 ·have h1:=(h.no.block b e).1
  have h2:=h.sl b e'.symm;omega
 ·have h1:=h.fr t ht hne b o sp k c e
  have h2:=h.sl b e'.symm;omega
theorem Bth.timesN {lo:Nat}{ss ns:List Tr}(h:Bth lo n sv nv W ss ns)(g:Int)(hk:∀ t∈ns,0<=t.2.2*g/\t.2.2*g<=4611686018427387904)(us:List Tr)(hu:iQ g ns=us) :
  Calls prog 144 #[nv,.int .i64 g] W fun e W'=>e=.returned nv/\Bth lo n sv nv W' ss us/\W.grownBy W' nv.ownBlock:=by
 refine(bxQ n nv ns g W h.no hk us hu).mono ?_;rintro e W' ⟨he,ho,hg⟩;refine⟨he,⟨h.so.beside hg (fun b e e'=>?_) (fun t ht hne b o sp k c e e'=>?_),ho,h.fr.of (fun t ht=>uS (g:=g) (hu▸ht)),h.sl,h.si,h.le⟩,hg⟩
 ·have h1:=(h.no.block b e'.symm).1
  have h2:=h.sl b e;omega
 ·have h1:=h.si t ht hne b o sp k c e
  have h2:=(h.no.block b e'.symm).1;omega
theorem faZ (l:List (Tr × Tr)):rd (l.map zD)=(l.map bare).map rU:=by
 induction l with
 | nil=>rfl
 | cons p l ih =>
  simp only[rd,fV] at *
  rw[ih];congr 1
theorem faJ {az bz:List Tr}{p:Tr × Tr}(h:p∈mrg az bz):(p.1∈az\/p.1=no)/\(p.2∈bz\/p.2=no):=by
 induction az,bz using mrg.induct with
 | case1=>simp[mrg] at h
 | case2 b bs ih =>
  rw[mrg] at h;rcases eX.1 h with rfl|h
  ·exact⟨.inr rfl,.inl (by simp)⟩
  ·exact⟨(ih h).1,(ih h).2.imp (fun h=>by simp[h]) id⟩
 | case3 a az ih =>
  rw[mrg] at h;rcases eX.1 h with rfl|h
  ·exact⟨.inl (by simp),.inr rfl⟩
  ·exact⟨(ih h).1.imp (fun h=>by simp[h]) id,(ih h).2⟩
 | case4 a az b bs h1 ih =>
  rw[pT h1] at h;rcases eX.1 h with rfl|h
  ·exact⟨.inl (by simp),.inr rfl⟩
  ·exact⟨(ih h).1.imp (fun h=>by simp[h]) id,(ih h).2⟩
 | case5 a az b bs h1 h2 ih =>
  rw[rT h2] at h;rcases eX.1 h with rfl|h
  ·exact⟨.inr rfl,.inl (by simp)⟩
  ·exact⟨(ih h).1,(ih h).2.imp (fun h=>by simp[h]) id⟩
 | case6 a az b bs h1 h2 ih =>
  rw[sT (by omega)] at h;rcases eX.1 h with rfl|h
  ·exact⟨.inl (by simp),.inl (by simp)⟩
  ·exact⟨(ih h).1.imp (fun h=>by simp[h]) id,(ih h).2.imp (fun h=>by simp[h]) id⟩
theorem fbQ {lo:Nat}{az bz:List Tr}(ha:sQ lo az)(hb:sQ lo bz):sQ lo ((mrg az bz).map zD):=by
 intro t ht hne;obtain⟨p,hp,rfl⟩:=wX.1 ht;obtain⟨h1,h2⟩:=faJ hp;unfold zD at hne ⊢;by_cases hz:p.1.2.2=0
 ·simp only[hz,uU] at hne ⊢
  rcases h2 with h2|h2
  ·exact hb _ h2 hne
  ·rw[h2] at hne;exact absurd rfl hne
 ·simp only[hz,qK] at hne ⊢
  rcases h1 with h1|h1
  ·exact ha _ h1 hne
  ·rw[h1] at hne;exact absurd rfl hne
theorem fbX (u v:Value)(ts us:List Tr)(w:World)(B:Nat)(hp:fQ w B u ts)(hq:fQ w B v us)(hl:4096<ts.length) :
  Calls prog 143 #[u,v] w fun e w'=>e=.returned u/\w' = w:=by
 obtain⟨a,c,rfl,_⟩:=hp;obtain⟨a',c',rfl,_⟩:=hq;have hd':4096<(ts.length:Int):=by omega
 go_enter func143,ntmps143;go_wp2;go_ret;exact⟨rfl,rfl⟩
theorem fbZ (lo:Nat)(u v:Value)(ts us:List Tr)(w:World)(hlo:lo<=w.heap.size)(ho:oX w lo u ts)(hq:fQ w w.heap.size v us)(hl2:us.length<=4096)
  (hm1:∀ t∈ts,0<=t.2.2/\t.2.2<=(1152921504606846976:Int)) (hm2:∀ t∈us,0<=t.2.2/\t.2.2<=(1152921504606846976:Int)) (l:List Pt) (hl:wH (rd ts) (rd us)=l) :
  Calls prog 143 #[u,v] w fun e w'=>∃ v' xs,e=.returned v'/\rd xs=l/\oX w' lo v' xs/\Below w.heap.size w w'/\(sQ lo ts->sQ lo us->sQ lo xs):=by
 by_cases hc:4096<ts.length
 ·refine(fbX u v ts us w w.heap.size ho.parts hq hc).mono ?_
  rintro e w' ⟨rfl,rfl⟩;refine⟨u,ts,rfl,?_,ho,aQ _ _,fun h _=>h⟩;rw[<-hl,wH,zQ (by rw[rV];exact hc)]
 ·refine(faQ w.heap.size u v ts us w (vQ _) ho.parts hq (by omega) hl2 hm1 hm2 _ rfl).mono ?_
  rintro e w' ⟨v',rfl,hown,hI,hb⟩;refine⟨v',(mrg ts us).map zD,rfl,?_,?_,hb,fbQ⟩
  ·rw[<-hl,wH,xQ (by rw[rV];exact hc),faZ,crQ]
  ·have hlen:((mrg ts us).map zD).length<=1073741824:=by
    have:=e9Q ts us;simp only[wU];omega
   generalize (mrg ts us).map zD=xs at *
   by_cases hv:v' = .slice none 0 0
   ·subst hv
    have h0:xs=[]:=by
     obtain⟨_,⟨_,h0⟩|⟨g,cap,cur,hv,_⟩⟩:=hown
     ·exact xH.1 h0
     ·cases hv
    subst h0;exact .inl ⟨rfl,rfl⟩
   ·obtain⟨g,cap,rfl,hcap,hgb,hrow⟩:=fT rfl hown hv
    exact .inr ⟨g,0,cap,rfl,hcap,hlen,by omega,hrow,fun t ht=>(hI t ht).mono hb.size (.inr hgb)⟩
theorem fbJ {a b:List Pt}(h:b≠[]):wH a b≠[]:=by
 unfold wH;split
 ·rename_i h1;intro h0;rw[h0] at h1;simp at h1
 ·cases b with
  | nil=>exact absurd rfl h
  | cons q b =>
   cases a with
   | nil=>rw[jV];simp
   | cons p a =>
    rw[jV];split
    ·simp
    ·split <;> simp
end
section
open Go.RowKit Ds
theorem Ch.bound {thn:List Int->List Pt × Int}{l:List Pt}{A g A':Int}{s:List Pt}(h:Ch thn l i A s)(hl:Dis l)(hg:0<=g)(hA:A*g=A')(hm:A'<=1073741824):∀ p∈s,0<=p.2*g/\p.2*g<=1152921504606846976:=by
 intro p hp;have h1:=h.pos p hp;have h2:=zZ.le_tot (Nn.of_pos h.pos) hp;have h3:=h.tt;have h4:=tot_take_le (Nn.of_pos hl.pos) i;have h5:0<=tot (l.take i):=Nn.tot_nn fun p hp=>yF (hl.pos p (jH hp));have h6:p.2*g<=A*tot (l.take i)*g:=xK (by omega) hg;have e:A*tot (l.take i)*g=A' * tot (l.take i):=by rw[<-hA];ac_rfl
 have h7:A' * tot (l.take i)<=1073741824*tot (l.take i):=xK hm h5;have h8:=hl.le;exact⟨eA (by omega) hg,by omega⟩
theorem fcQ {n:List Pt}(hn:Dis n){Q R T P:Int}(hT:tot n=T)(hk:0<k)(hk1:k<=1073741824)(hQ0:0<=Q)(hQ:T*Q<=P)(hP0:0<=P)(hP:P<=1073741824)(hR:k*Q=R):∀ p∈n,0<=p.2*R/\p.2*R<=1152921504606846976:=by
 intro p hp;have h1:=hn.pos p hp;have h2:=zZ.le_tot (Nn.of_pos hn.pos) hp;have hR0:0<=R:=by rw[<-hR];exact eA (by omega) hQ0
 have h3:p.2*R<=T*R:=xK (by omega) hR0;have e:T*R=k*(T*Q):=by rw[<-hR];ac_rfl
 have h4:k*(T*Q)<=k*P:=bE hQ (by omega);have h5:k*P<=1073741824*P:=xK hk1 hP0;exact⟨eA (by omega) hR0,by omega⟩
theorem bzZ {l:List Pt}(h:Dis l){p:Pt}(hp:p∈l):okO p.1=true:=by
 have:=jM.1 h.ok p hp;unfold wJ at this;rw[jK] at this;exact this.2
def Thn (fn:Nat) (cap:Value) (w:World) (thn:List Int->List Pt × Int):Prop :=
 ∀ (W:World) (u:Value) (xs:List Int),Below w.heap.size w W->jQ W W.heap.size W.heap.size u xs->okO xs=true ->
  Calls prog fn #[u,cap] W fun e W'=>∃ v' us,e=.returned (.tuple #[v',.int .i64 (thn xs).2])/\rd us=(thn xs).1/\oX W' W.heap.size v' us/\Below W.heap.size W W'/\sQ W.heap.size us
theorem b0Q (fn:Nat)(cap:Value)(thn:List Int->List Pt × Int)(B:Nat)(v:Value)(ts:List Tr)(w:World)(hB:B<=w.heap.size)(hp:fQ w B v ts)(hd:Dis (rd ts))(hen:∀ args W,(callFunc fn args).run prog W=.ok (.enter fn args) W)(ht:Thn fn cap w thn)(hn:∀ p∈rd ts,(thn p.1).2=0->Dis (thn p.1).1)(l:List Pt)(er:Int)(hr:oF thn (rd ts)=(l,er)) :
  Calls prog 80 #[v,.func (.func fn) #[] #[cap]] w fun e w'=>∃ v' us,e=.returned (.tuple #[v',.int .i64 er])/\rd us=l/\oX w' w.heap.size v' us/\Below w.heap.size w w'/\sQ w.heap.size us:=by
 have HP:=qQ hp;have HH:Hid (Dis (rd ts)/\Thn fn cap w thn/\(∀ p∈rd ts,(thn p.1).2=0->Dis (thn p.1).1)/\oF thn (rd ts)=(l,er)):=⟨hd,ht,hn,hr⟩;obtain⟨a,c,rfl,hc,hl,_⟩:=hp;clear hd ht hn hr;go_enter func80,ntmps80;go_wp2
 go_loopw [6,7,16] (fun sv av iv wr=>∃ (i A:Nat) (ss:List Tr),iv=.int .i64 (i:Int)/\av=.int .i64 (A:Int)/\i<=ts.length/\1<=A/\A<=1073741824/\Hid (Ch thn (rd ts) i (A:Int) (rd ss)/\oX wr w.heap.size sv ss/\(0<i->ss≠[])/\sQ w.heap.size ss)/\Below w.heap.size w wr) (fun _ _ iv _=>ts.length - (intOf iv).toNat)
 case atStart=>exact⟨0,1,[],rfl,rfl,kQ _,by omega,by omega,⟨Ch.nil thn (rd ts),.inl ⟨rfl,rfl⟩,by omega,sQ.nil _⟩,aQ _ _⟩
 case round =>
  obtain⟨i,A,ss,rfl,rfl,hit,hA1,hA2,HC,hbl⟩:=hrel;have hbs:=hbl.size;obtain⟨sva,svc,rfl⟩:=HC.out.2.1.slice;by_cases h1:i<ts.length
  ·obtain⟨b,o,sa,sc,xs,k,rfl,hb,hs,c1,c2,hIx⟩:=HP.out.get hB hbl h1
   have HS:=qQ (pV hs);have hk0:0<k:=HH.out.1.pos _ (rQ HS.out)
   have hk1:k<=1073741824:=by
    have h1:=zZ.le_tot (Nn.of_pos HH.out.1.pos) (rQ HS.out);have h3:=HH.out.1.le;simp only at h1;omega
   obtain⟨⟨n,e1⟩,HT⟩:∃ x,Hid (thn xs=x):=⟨_,rfl⟩;have kt:=HH.out.2.1 (wr.alloc (.cells #[.slice sa xs.length sc,.int .i64 k] 82)) (.slice sa xs.length sc) xs (bal hbl _) (((hIx.at (by omega) (ba _ _))).mono (by simp;omega) (.inr (by simp;omega))) (bzZ HH.out.1 (rQ HS.out));rw[HT.out] at kt;clear hs hIx;go_wp2_with fail;refine kt.mono ?_;rintro e w2 ⟨v2,ns,rfl,hrd2,ho2,hb2,hf2⟩;obtain⟨na,nc,rfl⟩:=ho2.slice;have cw:(wr.alloc (.cells #[.slice sa xs.length sc,.int .i64 k] 82)).cell? ⟨wr.heap.size,1,none⟩=some (.int .i64 k):=by simp[go_sem]
   have cw2:w2.cell? ⟨wr.heap.size,1,none⟩=some (.int .i64 k):=(hb2.cell (p:=⟨wr.heap.size,1,none⟩) (by simp)).trans cw;have HB2:Hid (Below wr.heap.size wr w2/\oX w2 (wr.heap.size+1) (.slice na ns.length nc) ns/\sQ (wr.heap.size+1) ns/\rd ns=n):=⟨bt (ba _ _) hb2,by simpa using ho2,by simpa using hf2,hrd2⟩;have hs2:wr.heap.size<w2.heap.size:=by have:=hb2.size;simp at this;omega
   clear kt cw hb2 ho2 hf2 hrd2;by_cases h0:e1=0
   ·subst h0
    have hdn:Dis n:=by have:=HH.out.2.2.1 _ (rQ HS.out);rw[HT.out] at this;exact this rfl
    have tn:=xO hdn.pos hdn.ne;obtain⟨T,hT⟩:=cA (yF tn);have hT0:0<T:=by omega
    have hT1:T<=1073741824:=by have:=hdn.le;omega
    have HDN:Hid (Dis n/\tot n=(T:Int)):=⟨hdn,hT⟩;have kt:=eM w2.heap.size (.slice na ns.length nc) ns w2 (vQ _) HB2.out.2.1.parts (by rw[HB2.out.2.2.2];exact Nn.of_pos hdn.pos) (by rw[HB2.out.2.2.2];have:=hdn.le;omega) (T:Int) (by rw[HB2.out.2.2.2];exact hT);have kd:=fun W=>yL A T (by omega) (by omega) W;obtain⟨G,hG⟩:∃ G,Nat.gcd A T=G:=⟨_,rfl⟩;obtain⟨g,hg⟩:∃ g,T / G=g:=⟨_,rfl⟩;have hG0:0<G:=by rw[<-hG];exact Nat.gcd_pos_of_pos_left _ (by omega)
    have hGz:((G:Int) == 0)=false:=by simp;omega
    have hq:(T:Int) / (G:Int)=(g:Int):=by rw[<-hg];exact(Int.natCast_ediv T G).symm
    have hg1:g<=T:=by rw[<-hg];exact Nat.div_le_self _ _
    obtain⟨P,hP⟩:∃ P,A*g=P:=⟨_,rfl⟩;have hP':(A:Int)*(g:Int)=(P:Int):=by rw[<-hP];exact(cE A g).symm
    have hP1:P<=1152921504606846976:=by rw[<-hP];exact Nat.mul_le_mul hA2 (bQ hg1 hT1)
    have HQ:Hid (tot n / (Int.gcd (A:Int) (tot n):Int)=(g:Int)):=by rw[Hid,hT];show(T:Int) / ((Nat.gcd A T:Nat):Int)=g;rw[hG];exact hq
    rw[hG] at kd;clear hdn hT tn hG hg hP;go_wp2_with fail;refine kt.mono ?_;rintro e w3 ⟨rfl,hb3⟩;clear kt;go_wp2_with fail;refine(kd _).mono ?_;rintro e w4 ⟨rfl,hb4⟩;clear kd;have hb24:Below w2.heap.size w2 w4:=bt hb3 hb4;have cw4:w4.cell? ⟨wr.heap.size,1,none⟩=some (.int .i64 k):=(hb24.cell (p:=⟨wr.heap.size,1,none⟩) hs2).trans cw2;have b4:Below w.heap.size w w4:=bt hbl (bt HB2.out.1 hb24);have hs4:wr.heap.size<w4.heap.size:=by have:=hb24.size;omega
    have H4:Hid (Bth w.heap.size (wr.heap.size+1) (.slice sva ss.length svc) (.slice na ns.length nc) w4 ss ns) :=
     ⟨HC.out.2.1.keep (bt HB2.out.1 hb24),HB2.out.2.1.keep hb24,HB2.out.2.2.1,fun g e=>Nat.lt_succ_of_lt (HC.out.2.1.block g e).2,fun t ht hne b o sp n c e=>Nat.lt_succ_of_lt (HC.out.2.1.olds t ht hne b o sp n c e),by omega⟩
    clear hb3 hb4 hb24 cw2;by_cases hm:1073741824<P
    ·have hch:=HC.out.1.much HS.out (by simp only[HT.out]) (by simp only[HT.out];rw[HQ.out,hP'];omega)
     rw[HH.out.2.2.2] at hch;simp only[dQ] at hch;obtain⟨rfl,rfl⟩:=hch;have hm':(1073741824:Int)<(P:Int):=by omega
     go_wp2;exact uQ (v:=.tuple #[.slice none 0 0,.int .i64 4]) (by simp[results,results80,go_sem]) rfl ⟨_,[],rfl,rfl,.inl ⟨rfl,rfl⟩,b4,sQ.nil _⟩
    ·have hm':¬ (1073741824:Int)<(P:Int):=by omega
     obtain⟨Q,hQ⟩:∃ Q,P / T=Q:=⟨_,rfl⟩;have hQ':(P:Int) / (T:Int)=(Q:Int):=by rw[<-hQ];exact(Int.natCast_ediv P T).symm
     have hQ1:Q<=P:=by rw[<-hQ];exact Nat.div_le_self _ _
     have hTQ:(T:Int)*(Q:Int)<=(P:Int):=by
      have:=Nat.mul_div_le P T;rw[hQ] at this;exact_mod_cast this
     obtain⟨R,hR⟩:∃ R,k*(Q:Int)=R:=⟨_,rfl⟩
     have hR1:0<=R/\R<=1152921504606846976:=by
      rw[<-hR];exact Rt.dJ (by omega) hk1 (by omega) (by omega)
     have HST:=HC.out.1.step (A':=(P:Int)) HH.out.1.pos HS.out HT.out HDN.out.1 HQ.out hP' (by omega);rw[HDN.out.2,hQ',hR] at HST;have hbs1:=HC.out.1.bound HH.out.1 (by omega) hP' (by omega);have hbn1:=fcQ HDN.out.1 HDN.out.2 hk0 hk1 (by omega) hTQ (by omega) (by omega) hR;obtain⟨us1,HU1⟩:∃ us,Hid (iQ (g:Int) ss=us):=⟨_,rfl⟩;obtain⟨us2,HU2⟩:∃ us,Hid (iQ R ns=us):=⟨_,rfl⟩;have HBS:Hid (∀ t∈ss,0<=t.2.2*(g:Int)/\t.2.2*(g:Int)<=1152921504606846976):=fun t ht=>hbs1 t.2 (anX (f:=fun t:Tr=>t.2) ht);have HBN:Hid (∀ t∈ns,0<=t.2.2*R/\t.2.2*R<=1152921504606846976):=fun t ht=>hbn1 t.2 (by rw[<-HB2.out.2.2.2];exact anX (f:=fun t:Tr=>t.2) ht)
     have HM1:Hid (∀ t∈us1,0<=t.2.2/\t.2.2<=(1152921504606846976:Int)):=by
      rw[Hid,<-HU1.out];intro t ht;obtain⟨u,hu,rfl⟩:=wX.1 ht;exact HBS.out u hu
     have HM2:Hid (∀ t∈us2,0<=t.2.2/\t.2.2<=(1152921504606846976:Int)):=by
      rw[Hid,<-HU2.out];intro t ht;obtain⟨u,hu,rfl⟩:=wX.1 ht;exact HBN.out u hu
     have HBS2:Hid (∀ t∈ss,0<=t.2.2*(g:Int)/\t.2.2*(g:Int)<=4611686018427387904):=fun t ht=>⟨(HBS.out t ht).1,by have:=(HBS.out t ht).2;omega⟩;have HBN2:Hid (∀ t∈ns,0<=t.2.2*R/\t.2.2*R<=4611686018427387904):=fun t ht=>⟨(HBN.out t ht).1,by have:=(HBN.out t ht).2;omega⟩;have HL2:Hid (us2.length<=4096):=by rw[Hid,<-HU2.out,lC,<-rV,HB2.out.2.2.2];exact HDN.out.1.few
     obtain⟨s',HSS⟩:∃ s',Hid (wH (rd us1) (rd us2)=s'):=⟨_,rfl⟩
     have HCH:Hid (Ch thn (rd ts) (i+1) (P:Int) s'/\s'≠[]):=by
      have h1:rd us1=eV (g:Int) (rd ss):=by rw[<-HU1.out,bwJ]
      have h2:rd us2=eV R n:=by rw[<-HU2.out,bwJ,HB2.out.2.2.2]
      refine⟨?_,?_⟩
      ·rw[<-HSS.out,h1,h2];exact HST
      ·rw[<-HSS.out,h2]
       refine fbJ ?_;have:=HDN.out.1.ne;intro h0;simp[eV] at h0;exact this h0
     have hP0:1<=P:=by have:=HST.sc.1;omega
     have hTz:((T:Int) == 0)=false:=by simp;omega
     have hTn:¬ (T:Int)=0:=by omega
     have hTn1:¬ T=0:=by omega
     have eQ:(P:Int).tdiv (T:Int)=(Q:Int):=by rw[Int.tdiv_eq_ediv_of_nonneg (by omega)];exact hQ'
     have wQ:IntKind.i64.wrap (Q:Int)=(Q:Int):=by rw[aU];omega
     have hdv:∀ u:World,(binOp .quo 3 (.int .i64 (P:Int)) (.int .i64 (T:Int))).run prog u=.ok (.int .i64 (Q:Int)) u:=fun u=>by simp[go_sem,Op.intDiv,hTn1,eQ,wQ]
     have wR:IntKind.i64.wrap R=R:=by rw[aU];omega
     have hml:∀ u:World,(binOp .mul 3 (.int .i64 k) (.int .i64 (Q:Int))).run prog u=.ok (.int .i64 R) u:=fun u=>by simp[go_sem,hR,wR]
     have HSL:=qQ HC.out.2.1.block;have HNL:Hid (∀ g,(Value.slice na ns.length nc).ownBlock=some g->wr.heap.size+1<=g):=fun g e=>(HB2.out.2.1.block g e).1;clear HST hbs1 hbn1 hQ hTQ;go_wp2_with fail
     go_region_held3 (fun w'=>w'.cell? ⟨wr.heap.size,1,none⟩=some (.int .i64 k))
      (first|assumption|(simp[go_sem, *];done))
      (first
       | (go_at_call 144;refine(h5.timesN R HBN2.out us2 HU2.out).mono ?_;rintro x6 w6 ⟨rfl,h6,g6⟩;have k6:w6.cell? ⟨wr.heap.size,1,none⟩=some (.int .i64 k):=g6.cell k5 (fun e=>absurd (HNL.out wr.heap.size e.symm) (Nat.not_succ_le_self _));have b6:Below w.heap.size w w6:=b5.grown g6 b5.size (fun g e=>(bQ hbs (bQ (Nat.le_succ _) (HNL.out g e)))))
       | (go_at_call 144;refine(H4.out.drew.timesS (g:Int) HBS2.out us1 HU1.out).mono ?_;rintro x5 w5 ⟨rfl,h5,g5⟩;have k5:w5.cell? ⟨wr.heap.size,1,none⟩=some (.int .i64 k):=g5.cell cw4 (fun e=>absurd (HSL.out wr.heap.size e.symm).2 (Nat.lt_irrefl _));have b5:Below w.heap.size w w5:=b4.drew.grown g5 b4.size (fun g e=>(HSL.out g e).1))
       | (go_at_call 143;refine(fbZ w.heap.size (.slice sva ss.length svc) (.slice na ns.length nc) us1 us2 _ b6.size h6.so h6.no.parts HL2.out HM1.out HM2.out s' HSS.out).mono ?_;rintro x7 w7 ⟨v7,xs7,rfl,hrd7,ho7,hb7,hf7⟩;obtain⟨a7,c7,hv7⟩:=ho7.slice;subst hv7;have l7:wr.heap.size<w6.heap.size:=(World.block_lt_of_cell? w6 ⟨wr.heap.size,1,none⟩ k6);have k7:w7.cell? ⟨wr.heap.size,1,none⟩=some (.int .i64 k):=(hb7.cell (p:=⟨wr.heap.size,1,none⟩) l7).trans k6))
     have HF:Hid (Ch thn (rd ts) (i+1) (P:Int) (rd xs7)/\oX w7 w.heap.size (.slice a7 xs7.length c7) xs7/\(0<i+1->xs7≠[])/\sQ w.heap.size xs7):=by
      refine⟨by rw[hrd7];exact HCH.out.1,ho7,fun _ h0=>HCH.out.2 ?_,hf7 (HC.out.2.2.2.of fun t ht=>uS (g:=(g:Int)) (HU1.out▸ht)) ((HB2.out.2.2.1.mono (by omega)).of fun t ht=>uS (g:=R) (HU2.out▸ht))⟩;rw[<-hrd7,h0];rfl
     have b7:Below w.heap.size w w7:=bt b6 hb7;clear h5 g5 k5 h6 g6 k6 hrd7 ho7 hb7 k7 l7 H4 cw4 hf7;go_wp2
     go_roundw
     case rel=>exact⟨i+1,P,xs7,by go_num,rfl,h1,hP0,by omega,HF,b7⟩
     case measure=>simp[intOf];omega
   ·have hch:=HC.out.1.err HS.out (by simp only[HT.out];exact h0)
    rw[HH.out.2.2.2] at hch;simp only[HT.out,dQ] at hch;obtain⟨rfl,rfl⟩:=hch;have h0':(er == 0)=false:=by simpa using h0
    have b2:Below w.heap.size w w2:=bt hbl HB2.out.1;go_wp2;exact uQ (v:=.tuple #[.slice none 0 0,.int .i64 er]) (by simp[results,results80,go_sem]) rfl ⟨_,[],rfl,rfl,.inl ⟨rfl,rfl⟩,b2,sQ.nil _⟩
  ·have hne:ts≠[]:=by intro h0;have:=HH.out.1.ne;rw[h0] at this;exact this rfl
   have hpos:0<ts.length:=dE.2 hne;have hdone:=HC.out.1.done (Nn.of_pos HH.out.1.pos) (by rw[rV];omega);rw[HH.out.2.2.2] at hdone;have tn:=xO HH.out.1.pos HH.out.1.ne;obtain⟨T,hT⟩:=cA (yF tn);have hT1:T<=1073741824:=by have:=HH.out.1.le;omega
   have kt:=eM B (.slice a ts.length c) ts wr (by omega) (HP.out.at hB hbl) (Nn.of_pos HH.out.1.pos) (by have:=HH.out.1.le;omega) (T:Int) hT;obtain⟨Z,hZ⟩:∃ Z,A*T=Z:=⟨_,rfl⟩;have hZ':(A:Int)*(T:Int)=(Z:Int):=by rw[<-hZ];exact(cE A T).symm
   have hZ1:Z<=1152921504606846976:=by rw[<-hZ];exact Nat.mul_le_mul hA2 hT1
   rw[hT,hZ'] at hdone;have hss:ss≠[]:=HC.out.2.2.1 (by omega);have HFS:=qQ HC.out.2.2.2
   have hts:tot (rd ss)<=4611686018427387904:=by
    have h1:=HC.out.1.tt;rw[pJ (by rw[rV];omega),hT,hZ'] at h1;omega
   have HO:Hid (Own wr w.heap.size (.slice sva ss.length svc) ss/\zZ (rd ss)/\tot (rd ss)<=4611686018427387904):=by
    refine⟨?_,HC.out.1.pos,hts⟩;rcases HC.out.2.1 with⟨_,h0⟩|h
    ·exact absurd h0 hss
    ·exact h
   have HDN:=qQ hdone;clear hdone hts hss HC hZ hT tn hne;go_wp2_with fail;refine kt.mono ?_;rintro e w2 ⟨rfl,hb2⟩;clear kt;have b2:Below w.heap.size w w2:=bt hbl hb2;by_cases hm:(1073741824:Int)<(Z:Int)
   ·have hd:=HDN.out
    rw[zQ hm] at hd;simp only[dQ] at hd;obtain⟨rfl,rfl⟩:=hd;go_wp2;exact uQ (v:=.tuple #[.slice none 0 0,.int .i64 4]) (by simp[results,results80,go_sem]) rfl ⟨_,[],rfl,rfl,.inl ⟨rfl,rfl⟩,b2,sQ.nil _⟩
   ·have hd:=HDN.out
    rw[xQ hm] at hd;have kl:=asX w.heap.size (.slice sva ss.length svc) ss w2 (HO.out.1.keep hb2) HO.out.2.1 HO.out.2.2 l er hd.symm;clear hd;go_wp2_with fail;refine kl.mono ?_;rintro e w3 ⟨v3,us,rfl,hrd3,ho3,hb3,hsub⟩;obtain⟨a3,c3,rfl⟩:=ho3.slice;have HR3:Hid (rd us=l/\oX w3 w.heap.size (.slice a3 us.length c3) us/\sQ w.heap.size us):=⟨hrd3,ho3,HFS.out.of hsub⟩;have b3:Below w.heap.size w w3:=b2.trans hb3;clear kl hrd3 ho3 hb3 hsub;go_wp2;exact uQ (v:=.tuple #[.slice a3 us.length c3,.int .i64 er]) (by simp[results,results80,go_sem]) rfl ⟨_,us,rfl,HR3.out.1,HR3.out.2.1,b3,HR3.out.2.2⟩
end
end Go.Proofs.YtpmioeamdhdokaaGreat
