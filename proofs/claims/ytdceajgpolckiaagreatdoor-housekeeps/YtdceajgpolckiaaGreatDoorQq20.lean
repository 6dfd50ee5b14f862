import Derived.Test.YtdceajgpolckiaaGreatDoorQq19
import Derived.Laws.StructEq
open Go.Proofs.Tryz
set_option linter.unusedSimpArgs false
set_option maxHeartbeats 16000000
set_option maxRecDepth 100000
namespace Go.Proofs.YtdceajgpolckiaaGreatDoor
namespace K
open Go.RowKit K.Ds
theorem dP {k:Int}(h:¬ cX k<0):k=1\/k=2\/k=3\/k=4\/k=5\/k=6\/k=7\/k=8\/k=9\/k=10:=by
 unfold cX at h;split at h
 ·omega
 ·split at h
  ·omega
  ·split at h
   ·omega
   ·omega
theorem ccZ (k:Int)(hk:¬ cX k<0)(lv:Value)(c:ByteArray)(lo hi:Int)(wv kv:Value)(x y:rX)(hx:oZ x)(hy:oZ y)(w:World)(B:Nat)(l:List jQ)(wh:List oX)(hB:B<=w.heap.size)(hp:eQ w B lv l)(hq:qZ w B wv wh)
  (r:Except Int rX) (hr:rec l k c lo hi wh x y=r):bF w lv k c lo hi wv kv x.1 x.2.1 x.2.2 y.1 y.2.1 y.2.2 r:=by
 obtain⟨x1,x2,x3⟩:=x;obtain⟨y1,y2,y3⟩:=y;rcases dP hk with rfl|rfl|rfl|rfl|rfl|rfl|rfl|rfl|rfl|rfl
 ·exact cbZ lv c lo hi wv kv x1 x2 x3 y1 y2 y3 hx hy w B l wh hB hp hq r (by rw[<-hr];simp[rec])
 ·exact cbJ lv c lo hi wv kv x1 x2 x3 y1 y2 y3 hx hy w B l wh hB hp hq r hr
 ·exact ccQ lv c lo hi wv kv x1 x2 x3 y1 y2 y3 hx hy w B l wh hB hp hq r hr
 ·subst hr;have:=caZ lv c lo hi wv kv x1 x2 x3 y1 y2 y3 hx hy w;simpa [rec] using this
 ·subst hr;have:=caJ lv c lo hi wv kv x1 x2 x3 y1 y2 y3 hx hy w;simpa [rec] using this
 ·subst hr;have:=cbX lv c lo hi wv kv x1 x2 x3 y1 y2 y3 hx hy w;simpa [rec] using this
 ·subst hr;have:=caQ lv c lo hi wv kv x1 x2 x3 y1 y2 y3 hx hy w;simpa [rec] using this
 ·subst hr;have:=caX lv c lo hi wv kv x1 x2 x3 y1 y2 y3 hx hy w;simpa [rec] using this
 ·subst hr;have:=cbQ lv c lo hi wv kv x1 x2 x3 y1 y2 y3 hx hy w;simpa [rec] using this
 ·subst hr;have:=ccX lv c lo hi wv kv x1 x2 x3 y1 y2 y3 hx hy w;simpa [rec] using this
def rU (ps:List (Nat × Int × Int)) (r:List Int):Bool:=ps.all fun e=>wL e.2.1 e.2.2 (r.getD e.1 0)
def kJ (lo hi v:Int):Int:=if v<lo then lo else if hi<v then hi else v
def pH (out:List Int) (p:Nat × Int):List Int:=out.set p.1 (out.getD p.1 0+p.2)
def gst (ps:List (Nat × Int × Int)) (f:List Int->Nat × Int) (out r:List Int):List Int:=if rU ps r then pH out (f r) else out
def gat (n:Nat) (ps:List (Nat × Int × Int)) (f:List Int->Nat × Int) (rs:List (List Int)):List Int:=rs.foldl (gst ps f) (List.replicate n 0)
def stp (k:Int) (at':Nat) (lo hi:Int) (r:List Int):Nat × Int:=if k=1 then (0,1) else if k=2 then (0,kJ lo hi (r.getD at' 0)) else ((r.getD at' 0).toNat,1)
def mG:List Int->Int
 | []=>0
 | a::l=>a+mG l
def mN (l:List jQ) (k:Int) (at':Nat):Nat:=if k=3 then (qU l at').toNat else 1
def ans (l:List jQ) (rs:List (List Int)):Qu->List Int
 | .none=>[]
 | .node k c lo hi wh _ x y =>
  if k=1\/k=2\/k=3 then gat (mN l k ((fnd l c).getD 0)) (wh.map (trp l)) (stp k ((fnd l c).getD 0) lo hi) rs
  else if k=4 then List.zipWith (· + ·) (ans l rs x) (ans l rs y)
  else if k=5 then List.zipWith (· - ·) (ans l rs x) (ans l rs y)
  else if k=6 then (ans l rs x).map (lo * ·)
  else if k=7 then ans l rs x++ans l rs y
  else if k=8 then [mG (ans l rs x)]
  else if k=9 then [(ans l rs x).getD lo.toNat 0]
  else (ans l rs x).map (kJ lo hi)
section
variable (l:List jQ) (rs:List (List Int)) (c:ByteArray) (lo hi:Int) (wh:List oX) (n:Nat) (x y:Qu)
theorem jM {k:Int}(h:k=1\/k=2\/k=3):ans l rs (.node k c lo hi wh n x y)=gat (mN l k ((fnd l c).getD 0)) (wh.map (trp l)) (stp k ((fnd l c).getD 0) lo hi) rs:=by
 simp only[ans];rw[xQ h]
theorem m9:ans l rs (.node 4 c lo hi wh n x y)=List.zipWith (· + ·) (ans l rs x) (ans l rs y):=by simp[ans]
theorem o9:ans l rs (.node 5 c lo hi wh n x y)=List.zipWith (· - ·) (ans l rs x) (ans l rs y):=by simp[ans]
theorem aaQ:ans l rs (.node 6 c lo hi wh n x y)=(ans l rs x).map (lo * ·):=by simp[ans]
theorem aaX:ans l rs (.node 7 c lo hi wh n x y)=ans l rs x++ans l rs y:=by simp[ans]
theorem aaZ:ans l rs (.node 8 c lo hi wh n x y)=[mG (ans l rs x)]:=by simp[ans]
theorem aaJ:ans l rs (.node 9 c lo hi wh n x y)=[(ans l rs x).getD lo.toNat 0]:=by simp[ans]
theorem abQ:ans l rs (.node 10 c lo hi wh n x y)=(ans l rs x).map (kJ lo hi):=by simp[ans]
end
theorem ccJ (ps:List (Nat × Int × Int))(f:List Int->Nat × Int)(out r:List Int):(gst ps f out r).length=out.length:=by
 unfold gst pH;split <;> simp
theorem cdQ (ps:List (Nat × Int × Int))(f:List Int->Nat × Int)(rs:List (List Int))(out:List Int):(rs.foldl (gst ps f) out).length=out.length:=by
 induction rs generalizing out with
 | nil=>rfl
 | cons r rs ih=>rw[List.foldl_cons,ih,ccJ]
theorem sD (n:Nat)(ps:List (Nat × Int × Int))(f:List Int->Nat × Int)(rs:List (List Int)):(gat n ps f rs).length=n:=by
 rw[gat,cdQ];simp
def mX (M:Int) (xs:List Int):Prop:=∀ z∈xs,-M<=z/\z<=M
theorem mX.mono {M N:Int}{xs:List Int}(h:mX M xs)(hN:M<=N):mX N xs:=fun z hz=>by have:=h z hz;omega
theorem mX.getD {M:Int}{xs:List Int}(h:mX M xs)(hM:0<=M)(i:Nat):-M<=xs.getD i 0/\xs.getD i 0<=M:=by
 rw[List.getD];cases hi:xs[i]? with
 | none=>simp;omega
 | some x=>exact h x (uX hi)
theorem cdX {ps:List (Nat × Int × Int)}{f:List Int->Nat × Int}{out r:List Int}{M N:Int}(h:mX N out)(hN:0<=N)(hM:0<=M)(hf:-M<=(f r).2/\(f r).2<=M):mX (N+M) (gst ps f out r):=by
 unfold gst;split
 ·intro z hz
  unfold pH at hz;rcases aI hz with hz|rfl
  ·have:=h z hz;omega
  ·have:=h.getD hN (f r).1;omega
 ·exact h.mono (by omega)
theorem cdZ {ps:List (Nat × Int × Int)}{f:List Int->Nat × Int}{M:Int}(hM:0<=M)(rs:List (List Int))(hf:∀ r∈rs,-M<=(f r).2/\(f r).2<=M):∀ (N:Int) (out:List Int),0<=N->mX N out->mX (N+rs.length*M) (rs.foldl (gst ps f) out):=by
 induction rs with
 | nil=>intro N out _ h;simpa using h
 | cons r rs ih =>
  intro N out hN h;rw[List.foldl_cons];have:=ih (fun r' h'=>hf r' (vN _ h')) (N+M) (gst ps f out r) (by omega) (cdX h hN hM (hf r (yN ..)));refine this.mono ?_;rw[iF,mR,Int.add_mul];omega
theorem vM {n:Nat}{ps:List (Nat × Int × Int)}{f:List Int->Nat × Int}{M:Int}(hM:0<=M){rs:List (List Int)}(hf:∀ r∈rs,-M<=(f r).2/\(f r).2<=M)(hl:rs.length<=4096):mX (4096*M) (gat n ps f rs):=by
 have h0:mX 0 (List.replicate n (0:Int)):=fun z hz=>by have:=(List.mem_replicate.1 hz).2;omega
 refine(cdZ hM rs hf 0 _ (zI _) h0).mono ?_;have:=iR (show((rs.length:Int))<=4096 by omega) hM;omega
theorem eP {lo hi v:Int}(h:yY lo hi=true):-spn lo hi<=kJ lo hi v/\kJ lo hi v<=spn lo hi:=by
 simp only[yY,oV] at h;unfold kJ spn
 repeat' split
 all_goals omega
theorem cdJ {M:Int}{xs:List Int}(h:mX M xs):-(xs.length*M)<=mG xs/\mG xs<=xs.length*M:=by
 induction xs with
 | nil=>simp[mG]
 | cons a xs ih =>
  have h1:=ih fun z hz=>h z (vN _ hz);have h2:=h a (yN ..);simp only[mG,iF];rw[mR,Int.add_mul];omega
theorem abX {a b M N:Int}(h1:-M<=a/\a<=M)(h2:-N<=b/\b<=N):-(M*N)<=a*b/\a*b<=M*N:=by
 have hM:0<=M:=by omega
 have hN:0<=N:=by omega
 have ha:(a.natAbs:Int)<=M:=by omega
 have hb:(b.natAbs:Int)<=N:=by omega
 have h3:((a*b).natAbs:Int)<=M*N:=by
  rw[Int.natAbs_mul,Int.natCast_mul];exact bL ha hb (by omega) hM
 omega
theorem abZ {M N:Int}(f:Int->Int->Int)(hf:∀ a b,-M<=a/\a<=M->-N<=b/\b<=N->-(M+N)<=f a b/\f a b<=M+N){xs ys:List Int}(hx:mX M xs)(hy:mX N ys):mX (M+N) (List.zipWith f xs ys):=by
 induction xs generalizing ys with
 | nil=>intro z hz;simp at hz
 | cons a xs ih =>
  cases ys with
  | nil=>intro z hz;simp at hz
  | cons b ys =>
   intro z hz;rw[List.zipWith_cons_cons] at hz;rcases yX.1 hz with rfl|hz
   ·exact hf a b (hx a (yN ..)) (hy b (yN ..))
   ·exact ih (fun z hz=>hx z (vN _ hz)) (fun z hz=>hy z (vN _ hz)) z hz
theorem tT {l:List jQ}{lv:Nat}{k:Int}{c:ByteArray}{lo hi:Int}{wh:List oX}{n:Nat}{x y:Qu}{b:rX}(h:bnd l lv (.node k c lo hi wh n x y)=.ok b) :
  (n:Int)=cX k/\∃ bx b',nJ (1<=n) (bnd l (lv+1) x)=.ok bx/\nJ (2<=n) (bnd l (lv+1) y)=.ok b'/\rec l k c lo hi wh bx b' = .ok b/\lK b=true:=by
 simp only[bnd] at h;split at h
 ·cases h
 ·split at h
  ·cases h
  ·split at h
   ·rename_i hk
    split at h
    ·cases h
    ·rename_i bx hbx
     split at h
     ·cases h
     ·rename_i b' hby
      split at h
      ·cases h
      ·rename_i b0 hr
       obtain⟨rfl,hl⟩:=o8 h;exact⟨hk,bx,b',hbx,hby,hr,hl⟩
   ·cases h
theorem rH {e:Int}{b b':rX}(h:vU e b=.ok b'):e=0/\b=b':=by
 unfold vU at h;split at h
 ·cases h;exact⟨by assumption,rfl⟩
 ·cases h
theorem fP {l:List jQ}(hs:pA l){rs:List (List Int)}(hl:rs.length<=4096)(q:Qu):∀ (lv:Nat) (b:rX),bnd l lv q=.ok b->q≠.none->((ans l rs q).length:Int)=b.1/\mX b.2.2 (ans l rs q):=by
 induction q with
 | none=>intro lv b _ h;exact absurd rfl h
 | node k c lo hi wh n x y ihx ihy =>
  intro lv b h _;obtain⟨hk,⟨x1,x2,x3⟩,⟨y1,y2,y3⟩,hbx,hby,hr,hlim⟩:=tT h
  have kx:1<=n->x≠.none->((ans l rs x).length:Int)=x1/\mX x3 (ans l rs x):=fun hn hx=>by
   rw[nJ,xQ hn] at hbx;exact ihx _ _ hbx hx
  have ky:2<=n->y≠.none->((ans l rs y).length:Int)=y1/\mX y3 (ans l rs y):=fun hn hy=>by
   rw[nJ,xQ hn] at hby;exact ihy _ _ hby hy
  have zx:1<=n->x=.none->(x1,x2,x3)=((0,0,0):rX):=fun hn hx=>by
   rw[nJ,xQ hn,hx] at hbx;simp only[bnd] at hbx;cases hbx;rfl
  have zy:2<=n->y=.none->(y1,y2,y3)=((0,0,0):rX):=fun hn hy=>by
   rw[nJ,xQ hn,hy] at hby;simp only[bnd] at hby;cases hby;rfl
  have bx:1<=n->((ans l rs x).length:Int)=x1/\mX x3 (ans l rs x):=fun hn=>by
   by_cases hx:x=.none
   ·have:=zx hn hx;simp only[cQ] at this;obtain⟨rfl,rfl,rfl⟩:=this;rw[hx];exact⟨by simp[ans],fun z hz=>by simp[ans] at hz⟩
   ·exact kx hn hx
  have b_y:2<=n->((ans l rs y).length:Int)=y1/\mX y3 (ans l rs y):=fun hn=>by
   by_cases hy:y=.none
   ·have:=zy hn hy;simp only[cQ] at this;obtain⟨rfl,rfl,rfl⟩:=this;rw[hy];exact⟨by simp[ans],fun z hz=>by simp[ans] at hz⟩
   ·exact ky hn hy
  clear kx ky zx zy hbx hby ihx ihy;have hkc:¬ cX k<0:=by omega
  rcases dP hkc with rfl|rfl|rfl|rfl|rfl|rfl|rfl|rfl|rfl|rfl
  ·simp[rec] at hr
   obtain⟨_,rfl⟩:=rH hr;rw[jM _ _ _ _ _ _ _ _ _ (by simp)];exact⟨by rw[sD];simp[mN],vM (M:=1) (by decide) (fun r _=>by simp[stp]) hl⟩
  ·simp[rec] at hr
   split at hr
   ·split at hr
    ·rename_i hw
     obtain⟨_,rfl⟩:=rH hr;rw[jM _ _ _ _ _ _ _ _ _ (by simp)];exact⟨by rw[sD];simp[mN],vM (nI hw).1 (fun r _=>by simpa [stp] using eP hw) hl⟩
    ·cases hr
   ·cases hr
  ·simp[rec] at hr
   split at hr
   ·rename_i i hf
    obtain⟨_,rfl⟩:=rH hr;rw[jM _ _ _ _ _ _ _ _ _ (by simp)];have:=aP hs hf;exact⟨by rw[sD,hf];simp[mN];omega,vM (M:=1) (by decide) (fun r _=>by simp[stp]) hl⟩
   ·cases hr
  ·simp[rec] at hr
   have hn:n=2:=by simp[cX] at hk;omega
   obtain⟨e1,e2⟩:=bx (by omega);obtain⟨e3,e4⟩:=b_y (by omega);split at hr
   ·cases hr
    rw[m9];exact⟨by simp;omega,abZ _ (fun a b h1 h2=>by omega) e2 e4⟩
   ·cases hr
  ·simp[rec] at hr
   have hn:n=2:=by simp[cX] at hk;omega
   obtain⟨e1,e2⟩:=bx (by omega);obtain⟨e3,e4⟩:=b_y (by omega);split at hr
   ·cases hr
    rw[o9];exact⟨by simp;omega,abZ _ (fun a b h1 h2=>by omega) e2 e4⟩
   ·cases hr
  ·simp[rec] at hr
   have hn:n=1:=by simp[cX] at hk;omega
   obtain⟨e1,e2⟩:=bx (by omega);split at hr
   ·rename_i hw
    cases hr;rw[aaQ];refine⟨by simpa using e1,fun z hz=>?_⟩;obtain⟨a,ha,rfl⟩:=tZ.1 hz;refine abX ?_ (e2 a ha);simp only[yY,oV] at hw;unfold spn;split <;> omega
   ·cases hr
  ·simp[rec] at hr
   have hn:n=2:=by simp[cX] at hk;omega
   obtain⟨e1,e2⟩:=bx (by omega);obtain⟨e3,e4⟩:=b_y (by omega);cases hr;rw[aaX];refine⟨by simp;omega,fun z hz=>?_⟩
   show -(mx x3 y3)<=z/\z<=mx x3 y3
   unfold mx;rcases zY.1 hz with hz|hz
   ·have:=e2 z hz;split <;> omega
   ·have:=e4 z hz;split <;> omega
  ·simp[rec] at hr
   have hn:n=1:=by simp[cX] at hk;omega
   obtain⟨e1,e2⟩:=bx (by omega);cases hr;rw[aaZ];refine⟨by simp,fun z hz=>?_⟩;obtain rfl:=uI.1 hz;have:=cdJ e2;rw[e1] at this;exact this
  ·simp[rec] at hr
   have hn:n=1:=by simp[cX] at hk;omega
   obtain⟨e1,e2⟩:=bx (by omega);split at hr
   ·rename_i hlo
    cases hr;rw[aaJ];refine⟨by simp,fun z hz=>?_⟩;obtain rfl:=uI.1 hz;have hlt:lo.toNat<(ans l rs x).length:=by omega
    rw[List.getD,dZ hlt];exact e2 _ (List.getElem_mem hlt)
   ·cases hr
  ·simp[rec] at hr
   have hn:n=1:=by simp[cX] at hk;omega
   obtain⟨e1,e2⟩:=bx (by omega);split at hr
   ·rename_i hw
    cases hr;rw[abQ];refine⟨by simpa using e1,fun z hz=>?_⟩;obtain⟨a,ha,rfl⟩:=tZ.1 hz;exact eP hw
   ·cases hr
def gQ (w:World) (lo g c:Nat) (xs:List Int):Prop:=w.ownsRow lo 3 1 (.slice (some ⟨g,0,none⟩) xs.length c) xs.length (xs.map (.int .i64))
theorem gQ.inv {w:World}{lo g c:Nat}{xs:List Int}(h:gQ w lo g c xs):∃ cur:Array Value,lo<=g/\w.heap[g]? = some (.cells cur 3 (0,0))/\xs.length<=c/\c<=maxLen/\cur.size=c/\cur.toList.take xs.length=xs.map (.int .i64):=by
 obtain⟨_,h|⟨g',c',cur,e,h1,h2,h3,h4,h5,h6⟩⟩:=h
 ·simp at h
 ·simp only[xV,vX,mF,and_true,true_and] at e
  obtain⟨rfl,rfl⟩:=e;exact⟨cur,h1,h2,h3,h4,by simpa using h5,by simpa using h6⟩
theorem gQ.mk {w:World}{lo g c:Nat}{xs:List Int}{cur:Array Value}(h1:lo<=g)(h2:w.heap[g]? = some (.cells cur 3 (0,0)))(h3:xs.length<=c)(h4:c<=maxLen)(h5:cur.size=c)(h6:cur.toList.take xs.length=xs.map (.int .i64)):gQ w lo g c xs :=
 ⟨by simp,.inr ⟨g,c,cur,rfl,h1,h2,h3,h4,by simpa using h5,by simpa using h6⟩⟩
theorem gQ.lt {w:World}{lo g c:Nat}{xs:List Int}(h:gQ w lo g c xs):lo<=g/\g<w.heap.size:=by
 obtain⟨cur,h1,h2,_⟩:=h.inv;exact⟨h1,(jU.1 h2).1⟩
theorem gQ.at {w w':World}{lo g c:Nat}{xs:List Int}(h:gQ w lo g c xs)(hb:Below w.heap.size w w'):gQ w' lo g c xs:=fK h hb
theorem gQ.cell {w:World}{lo g c:Nat}{xs:List Int}(h:gQ w lo g c xs){i:Nat}{x:Int}(hi:xs[i]? = some x):w.cell? ⟨g,i,none⟩=some (.int .i64 x):=by
 have:=World.ownsRow.cells h (g:=g) rfl i (.int .i64 x) (by simp[hi]);rwa [iA,jZ] at this
theorem gQ.fz {w:World}{lo g c:Nat}{xs:List Int}(h:gQ w lo g c xs)(i:Nat):w.frozen? ⟨g,i,none⟩=false:=by
 obtain⟨cur,_,h2,_⟩:=h.inv;exact dN h2
theorem gQ.set {w:World}{lo g c:Nat}{xs:List Int}(h:gQ w lo g c xs)(i:Nat)(z:Int):gQ (w.setCell ⟨g,i,none⟩ (.int .i64 z)) lo g c (xs.set i z):=by
 obtain⟨cur,h1,h2,h3,h4,h5,h6⟩:=h.inv;obtain⟨hlt,hk⟩:=jU.1 h2;refine gQ.mk (cur:=cur.setIfInBounds i (.int .i64 z)) h1 ?_ (by simpa using h3) h4 (by simpa using h5) ?_
 ·show(w.heap.modify g _)[g]? = _
  rw[Array.getElem?_eq_getElem (by rw[Array.size_modify];exact hlt),Array.getElem_modify_self,hk];rfl
 ·rw[Array.toList_setIfInBounds,yL,List.take_set,h6,List.map_set]
theorem gQ.oth {w:World}{lo g c:Nat}{xs:List Int}(h:gQ w lo g c xs){b k:Nat}(hne:b≠g)(u:Value):gQ (w.setCell ⟨b,k,none⟩ u) lo g c xs:=by
 obtain⟨cur,h1,h2,h3⟩:=h.inv;exact gQ.mk h1 ((xL _ _ _ g (fun e=>hne (by simpa using e.symm))).trans h2) h3.1 h3.2.1 h3.2.2.1 h3.2.2.2
theorem gQ.mono {w:World}{lo lo' g c:Nat}{xs:List Int}(h:gQ w lo g c xs)(hl:lo'<=lo):gQ w lo' g c xs:=by
 obtain⟨cur,h1,h2,h3⟩:=h.inv;exact gQ.mk (by omega) h2 h3.1 h3.2.1 h3.2.2.1 h3.2.2.2
theorem mK:maxLen=9223372036854775807:=by decide
theorem gQ.ints {w:World}{lo g c:Nat}{xs:List Int}(h:gQ w lo g c xs)(m:Nat)(hm:g≠m):zQ w w.heap.size m (.slice (some ⟨g,0,none⟩) xs.length c) xs:=by
 obtain⟨cur,h1,h2,h3,h4,h5,h6⟩:=h.inv;rw[mK] at h4;exact⟨_,_,rfl,h3,by omega,fun _=>⟨g,0,rfl,h.lt.2,hm,fun i x hi=>by rw[jZ];exact h.cell hi⟩⟩
theorem gQ.made (w:World)(lo n:Nat)(hlo:lo<=w.heap.size)(hn:n<=1073741824):gQ (w.alloc (.cells (madeCells #[.int .i64 0] n) 3)) lo w.heap.size n (List.replicate n 0):=by
 have hsz:(madeCells #[Value.int .i64 0] n).size=n:=by simp[madeCells]
 refine gQ.mk hlo (World.alloc_heap_new w _) (by simp) (by rw[mK];omega) hsz ?_;rw[List.length_replicate,fV (by rw[qN,hsz];omega)];apply zK;intro i;by_cases hi:i<n
 ·simp[madeCells,hi,Nat.mod_one]
 ·simp[madeCells,hi]
theorem gQ.lit (w:World)(lo:Nat)(z:Int)(hlo:lo<=w.heap.size):gQ (w.alloc (.cells #[.int .i64 z] 3)) lo w.heap.size 1 [z] :=
 gQ.mk hlo (World.alloc_heap_new w _) (by simp) (by rw[mK];omega) rfl rfl
theorem zQ.got {w:World}{B nb n c:Nat}{a:Option Addr}{xs:List Int}(h:zQ w B nb (.slice a n c) xs){i:Nat}(hi:i<xs.length):∃ b o x,a=some ⟨b,o,none⟩/\n=xs.length/\b<B/\b≠nb/\xs[i]? = some x/\xs.getD i 0=x/\w.cell? ⟨b,o+i,none⟩=some (.int .i64 x):=by
 obtain⟨a',c',e,_,_,hx⟩:=h;simp only[xV] at e;obtain⟨rfl,rfl,rfl⟩:=e;obtain⟨b,o,rfl,hb,hn,hcell⟩:=hx (ne_of_lt hi);obtain⟨x,hx⟩:=wX hi;exact⟨b,o,x,rfl,rfl,hb,hn,hx,by simp[List.getD,hx],hcell i x hx⟩
theorem ceQ (h i p:Nat)(at':Nat)(d z:Int)(hd:wY d=true)(B nb:Nat)(rv:Value)(row:List Int)(w:World)(hh:Boxed w h 251 (uA d p))(hi:Boxed w i 3 (.int .i64 (at':Int)))(hp:Boxed w p 3 (.int .i64 z))(hr:zQ w B nb rv row)(hat:at' < row.length) :
  Calls prog 205 #[rv,.pointer (some ⟨h,0,none⟩),.pointer (some ⟨i,0,none⟩)] w fun e w'=>e=.returned (.bool (wL d z (row.getD at' 0)))/\w' = w.drew:=by
 obtain⟨a,c,rfl,hc,hl,hx⟩:=hr;obtain⟨b,o,x,rfl,_,hb,hn,hg,hgd,hcell⟩:=zQ.got ⟨a,c,rfl,hc,hl,hx⟩ hat;have q1:=hh.cell;have q2:=hi.cell;have q3:=hp.cell;have q3':w.drew.cell? ⟨p,0,none⟩=some (.int .i64 z):=q3;rw[hgd];clear hh hi hp hx hg hgd;simp only[wY,oV] at hd;by_cases h1:d=1
 ·subst h1
  have kt:=qM 1 z x p w.drew (by decide) q3';simp only[uA] at q1;go_enter func205,ntmps205;go_wp2
  go_region_held3 (fun w'=>w'.cell? ⟨h,0,none⟩=some (.func (.func 232) #[] #[.pointer (some ⟨p,0,none⟩)])/\w'.cell? ⟨i,0,none⟩=some (.int .i64 (at':Int))/\w'.cell? ⟨b,o+at',none⟩=some (.int .i64 x)) (first|assumption|(simp[go_sem, *];done)) ((refine kt.mono ?_;rintro x3 w3 ⟨rfl,hw3⟩;subst hw3))
  go_wp2;go_ret;exact⟨rfl,rfl⟩
 by_cases h2:d=2
 ·subst h2
  have kt:=qM 2 z x p w.drew (by decide) q3';simp only[uA] at q1;go_enter func205,ntmps205;go_wp2
  go_region_held3 (fun w'=>w'.cell? ⟨h,0,none⟩=some (.func (.func 233) #[] #[.pointer (some ⟨p,0,none⟩)])/\w'.cell? ⟨i,0,none⟩=some (.int .i64 (at':Int))/\w'.cell? ⟨b,o+at',none⟩=some (.int .i64 x)) (first|assumption|(simp[go_sem, *];done)) ((refine kt.mono ?_;rintro x3 w3 ⟨rfl,hw3⟩;subst hw3))
  go_wp2;go_ret;exact⟨rfl,rfl⟩
 by_cases h3:d=3
 ·subst h3
  have kt:=qM 3 z x p w.drew (by decide) q3';simp only[uA] at q1;go_enter func205,ntmps205;go_wp2
  go_region_held3 (fun w'=>w'.cell? ⟨h,0,none⟩=some (.func (.func 234) #[] #[.pointer (some ⟨p,0,none⟩)])/\w'.cell? ⟨i,0,none⟩=some (.int .i64 (at':Int))/\w'.cell? ⟨b,o+at',none⟩=some (.int .i64 x)) (first|assumption|(simp[go_sem, *];done)) ((refine kt.mono ?_;rintro x3 w3 ⟨rfl,hw3⟩;subst hw3))
  go_wp2;go_ret;exact⟨rfl,rfl⟩
 by_cases h4:d=4
 ·subst h4
  have kt:=qM 4 z x p w.drew (by decide) q3';simp only[uA] at q1;go_enter func205,ntmps205;go_wp2
  go_region_held3 (fun w'=>w'.cell? ⟨h,0,none⟩=some (.func (.func 235) #[] #[.pointer (some ⟨p,0,none⟩)])/\w'.cell? ⟨i,0,none⟩=some (.int .i64 (at':Int))/\w'.cell? ⟨b,o+at',none⟩=some (.int .i64 x)) (first|assumption|(simp[go_sem, *];done)) ((refine kt.mono ?_;rintro x3 w3 ⟨rfl,hw3⟩;subst hw3))
  go_wp2;go_ret;exact⟨rfl,rfl⟩
 by_cases h5:d=5
 ·subst h5
  have kt:=qM 5 z x p w.drew (by decide) q3';simp only[uA] at q1;go_enter func205,ntmps205;go_wp2
  go_region_held3 (fun w'=>w'.cell? ⟨h,0,none⟩=some (.func (.func 236) #[] #[.pointer (some ⟨p,0,none⟩)])/\w'.cell? ⟨i,0,none⟩=some (.int .i64 (at':Int))/\w'.cell? ⟨b,o+at',none⟩=some (.int .i64 x)) (first|assumption|(simp[go_sem, *];done)) ((refine kt.mono ?_;rintro x3 w3 ⟨rfl,hw3⟩;subst hw3))
  go_wp2;go_ret;exact⟨rfl,rfl⟩
 obtain rfl:d=6:=by omega
 have kt:=qM 6 z x p w.drew (by decide) q3';simp only[uA] at q1;go_enter func205,ntmps205;go_wp2
 go_region_held3 (fun w'=>w'.cell? ⟨h,0,none⟩=some (.func (.func 237) #[] #[.pointer (some ⟨p,0,none⟩)])/\w'.cell? ⟨i,0,none⟩=some (.int .i64 (at':Int))/\w'.cell? ⟨b,o+at',none⟩=some (.int .i64 x)) (first|assumption|(simp[go_sem, *];done)) ((refine kt.mono ?_;rintro x3 w3 ⟨rfl,hw3⟩;subst hw3))
 go_wp2;go_ret;exact⟨rfl,rfl⟩
structure Pss (w:World) (A lo:Nat) (ps:List (Nat × Int × Int)) (sv:Value) (es:List (Value × Nat × Int × Int)):Prop where
 box:Boxed w A 295 sv
 tcs:sF w lo sv es
 eq:es.map (·.2)=ps
theorem Pss.at {w w':World}{A lo:Nat}{ps:List (Nat × Int × Int)}{sv:Value}{es:List (Value × Nat × Int × Int)}(h:Pss w A lo ps sv es)(hb:Below w.heap.size w w'):Pss w' A lo ps sv es:=⟨Boxed.at h.box hb,h.tcs.at hb,h.eq⟩
theorem ceX {es:List (Value × Nat × Int × Int)}{i:Nat}{e:Value × Nat × Int × Int}{r:List Int}(h:es[i]? = some e):rU ((es.drop i).map (·.2)) r=(wL e.2.2.1 e.2.2.2 (r.getD e.2.1 0) && rU ((es.drop (i+1)).map (·.2)) r):=by
 rw[zU (lQ.1 h).1,(lQ.1 h).2];simp[rU]
theorem wT (A lo:Nat)(ps:List (Nat × Int × Int))(sv:Value)(es:List (Value × Nat × Int × Int))(w:World)(hP:Pss w A lo ps sv es)(hes:es.length<=64)(B nb:Nat)(rv:Value)(row:List Int)(hB:B<=w.heap.size)(hr:zQ w B nb rv row)(hat:∀ e∈ps,wY e.2.1=true/\e.1<row.length)(r:Bool)(hrr:rU ps row=r) :
  Calls prog 206 #[rv,.pointer (some ⟨A,0,none⟩)] w fun e w'=>e=.returned (.bool r)/\Below w.heap.size w w':=by
 have HP:Hid (Pss w A lo ps sv es):=hP;have HRV:Hid (zQ w B nb rv row):=hr;have HAT:Hid (∀ e∈ps,wY e.2.1=true/\e.1<row.length):=hat;have HRR:Hid (rU ((es.drop 0).map (·.2)) row=r):=by rw[rM,hP.eq];exact hrr
 have q0:=hP.box.cell;obtain⟨sa,sc,rfl⟩:=mL hP.tcs.1;obtain⟨ra,rc,rfl,_⟩:=hr;clear hP hat hrr;go_enter func206,ntmps206;go_wp2
 go_loopw [8] (fun s' wr=>∃ (i:Nat),s' = .int .i64 (i:Int)/\i<=es.length/\Hid (rU ((es.drop i).map (·.2)) row=r)/\Below w.heap.size w wr) (fun s' _=>es.length - (intOf s').toNat)
 case atStart=>exact⟨0,rfl,nQ _,HRR,aQ _ _⟩
 case round =>
  obtain⟨i,rfl,hi,HI,hbl⟩:=hrel;clear q0;by_cases h1:i<es.length
  ·obtain⟨e,he⟩:=wX h1
   have hTc:=HP.out.tcs.at hbl
   obtain⟨g,c',rfl,hg1,hg2⟩:∃ g c',sa=some ⟨g,0,none⟩/\c' = sc/\True:=by
    obtain⟨_,h2|⟨g,cap,cur,e1,_⟩⟩:=hTc.1
    ·have:=h2.2;omega
    ·simp only[xV] at e1;exact⟨g,sc,e1.1,rfl,trivial⟩
   have hc0:wr.cell? ⟨g,i,none⟩=some e.1:=by
    have:=World.ownsRow.cells hTc.1 (g:=g) rfl i e.1 (by simp[he]);rwa [iA,jZ] at this
   obtain⟨h,ii,p,hV,b1,b2,b3⟩:=hTc.2 e (uX he);have hmem:e.2∈ps:=by rw[<-HP.out.eq];exact List.mem_map_of_mem (uX he)
   obtain⟨hd,ha⟩:=HAT.out _ hmem;have HST:Hid (rU ((es.drop i).map (·.2)) row=(wL e.2.2.1 e.2.2.2 (row.getD e.2.1 0) && rU ((es.drop (i+1)).map (·.2)) row)):=ceX he;have k1:=ceQ h ii p e.2.1 e.2.2.1 e.2.2.2 hd B nb _ row wr b1 b2 b3 (HRV.out.at hB hbl) ha;obtain⟨tb,htb⟩:∃ tb,wL e.2.2.1 e.2.2.2 (row.getD e.2.1 0)=tb:=⟨_,rfl⟩;rw[htb] at k1;rw[hV] at hc0;have HB2:Hid ((tb && rU ((es.drop (i+1)).map (·.2)) row)=r):=by rw[<-htb,<-HST.out];exact HI.out
   clear hTc b1 b2 b3 hd ha hmem htb hV HI;cases tb with
   | false =>
    obtain rfl:false=r:=by rw[<-HB2.out];rfl
    go_wp2_with fail;refine k1.mono ?_;rintro e w1 ⟨rfl,hw1⟩;subst hw1;go_wp2;go_ret;exact⟨rfl,hbl.drew⟩
   | true =>
    have HI2:Hid (rU ((es.drop (i+1)).map (·.2)) row=r):=by have:=HB2.out;simpa [Hid] using this
    go_wp2_with fail;refine k1.mono ?_;rintro e w1 ⟨rfl,hw1⟩;subst hw1;go_wp2
    go_roundw
    case rel=>exact⟨i+1,by go_num,h1,HI2,hbl.drew⟩
    case measure=>simp[intOf];omega
  ·obtain rfl:true=r:=by have:=HI.out;rw[bH (by omega)] at this;exact this
   go_wp2;go_ret;exact⟨rfl,hbl⟩
