import Derived.Test.YtdceajgpolckiaaGreatDoorQr24
import Derived.Laws.StructEq
open Go.Proofs.Tryz
set_option linter.unusedSimpArgs false
set_option maxHeartbeats 16000000
set_option maxRecDepth 100000
namespace Go.Proofs.YtdceajgpolckiaaGreatDoor
variable {M N k x:Int} {out r xs ys:List Int} {ps:List (Nat × Int × Int)} {f:List Int->Nat × Int} {A b c g i lv n:Nat} {rs:List (List Int)} {a:Option Addr} {e:Value × Nat × Int × Int} {w w':World} {cur:Array Value} {sv:Value} {es:List (Value × Nat × Int × Int)}
namespace K
open Go.RowKit K.Ds
def xD (ps:List (Nat × Int × Int)) (r:List Int):Bool:=ps.all fun e=>lO e.2.1 e.2.2 (r.getD e.1 0)
def fV (lo hi v:Int):Int:=if v<lo then lo else if hi<v then hi else v
def sK (out:List Int) (p:Nat × Int):List Int:=out.set p.1 (out.getD p.1 0+p.2)
def gst (ps:List (Nat × Int × Int)) (f:List Int->Nat × Int) (out r:List Int):List Int:=if xD ps r then sK out (f r) else out
def gat (n:Nat) (ps:List (Nat × Int × Int)) (f:List Int->Nat × Int) (rs:List (List Int)):List Int:=rs.foldl (gst ps f) (List.replicate n 0)
def stp (k:Int) (at':Nat) (lo hi:Int) (r:List Int):Nat × Int:=if k=1 then (0,1) else if k=2 then (0,fV lo hi (r.getD at' 0)) else ((r.getD at' 0).toNat,1)
def pD:List Int->Int
 | []=>0
 | a::l=>a+pD l
def rR (l:List yQ) (k:Int) (at':Nat):Nat:=if k=3 then (dU l at').toNat else 1
def ans (l:List yQ) (rs:List (List Int)):Qu->List Int
 | .none=>[]
 | .node k c lo hi wh _ x y =>
  if k=1\/k=2\/k=3 then gat (rR l k ((fnd l c).getD 0)) (wh.map (trp l)) (stp k ((fnd l c).getD 0) lo hi) rs
  else if k=4 then List.zipWith (· + ·) (ans l rs x) (ans l rs y)
  else if k=5 then List.zipWith (· - ·) (ans l rs x) (ans l rs y)
  else if k=6 then (ans l rs x).map (lo * ·)
  else if k=7 then ans l rs x++ans l rs y
  else if k=8 then [pD (ans l rs x)]
  else if k=9 then [(ans l rs x).getD lo.toNat 0]
  else (ans l rs x).map (fV lo hi)
section
variable (l:List yQ) (rs:List (List Int)) (c:ByteArray) (lo hi:Int) (wh:List aZ) (n:Nat) (x y:Qu)
theorem pO (h:k=1\/k=2\/k=3):ans l rs (.node k c lo hi wh n x y)=gat (rR l k ((fnd l c).getD 0)) (wh.map (trp l)) (stp k ((fnd l c).getD 0) lo hi) rs:=by
 simp only[ans];rw[zQ h]
theorem a5J:ans l rs (.node 4 c lo hi wh n x y)=List.zipWith (· + ·) (ans l rs x) (ans l rs y):=by simp[ans]
theorem a6Q:ans l rs (.node 5 c lo hi wh n x y)=List.zipWith (· - ·) (ans l rs x) (ans l rs y):=by simp[ans]
theorem a6X:ans l rs (.node 6 c lo hi wh n x y)=(ans l rs x).map (lo * ·):=by simp[ans]
theorem a6Z:ans l rs (.node 7 c lo hi wh n x y)=ans l rs x++ans l rs y:=by simp[ans]
theorem a6J:ans l rs (.node 8 c lo hi wh n x y)=[pD (ans l rs x)]:=by simp[ans]
theorem a7Q:ans l rs (.node 9 c lo hi wh n x y)=[(ans l rs x).getD lo.toNat 0]:=by simp[ans]
theorem a7X:ans l rs (.node 10 c lo hi wh n x y)=(ans l rs x).map (fV lo hi):=by simp[ans]
end
theorem dfJ (ps:List (Nat × Int × Int))(f:List Int->Nat × Int)(out r:List Int):(gst ps f out r).length=out.length:=by
 unfold gst sK;split <;> simp
theorem dgQ (ps:List (Nat × Int × Int))(f:List Int->Nat × Int)(rs:List (List Int))(out:List Int):(rs.foldl (gst ps f) out).length=out.length:=by
 induction rs generalizing out with
 | nil=>rfl
 | cons r rs ih=>rw[List.foldl_cons,ih,dfJ]
theorem nF (n:Nat)(ps:List (Nat × Int × Int))(f:List Int->Nat × Int)(rs:List (List Int)):(gat n ps f rs).length=n:=by
 rw[gat,dgQ];simp
def lZ (M:Int) (xs:List Int):Prop:=∀ z∈xs,-M<=z/\z<=M
theorem lZ.mono (h:lZ M xs)(hN:M<=N):lZ N xs:=fun z hz=>by have:=h z hz;omega
theorem lZ.getD (h:lZ M xs)(hM:0<=M)(i:Nat):-M<=xs.getD i 0/\xs.getD i 0<=M:=by
 rw[List.getD];cases hi:xs[i]? with
 | none=>simp;omega
 | some x=>exact h x (qX hi)
theorem dgX (h:lZ N out)(hN:0<=N)(hM:0<=M)(hf:-M<=(f r).2/\(f r).2<=M):lZ (N+M) (gst ps f out r):=by
 unfold gst;split
 ·intro z hz
  unfold sK at hz;rcases cK hz with hz|rfl
  ·have:=h z hz;omega
  ·have:=h.getD hN (f r).1;omega
 ·exact h.mono (by omega)
theorem dgZ (hM:0<=M)(rs:List (List Int))(hf:∀ r∈rs,-M<=(f r).2/\(f r).2<=M):∀ (N:Int) (out:List Int),0<=N->lZ N out->lZ (N+rs.length*M) (rs.foldl (gst ps f) out):=by
 induction rs with
 | nil=>intro N out _ h;simpa using h
 | cons r rs ih =>
  intro N out hN h;rw[List.foldl_cons];have:=ih (fun r' h'=>hf r' (tP _ h')) (N+M) (gst ps f out r) (by omega) (dgX h hN hM (hf r (qR ..)));refine this.mono ?_;rw[pJ,zT,gP];omega
theorem rO (hM:0<=M)(hf:∀ r∈rs,-M<=(f r).2/\(f r).2<=M)(hl:rs.length<=4096):lZ (4096*M) (gat n ps f rs):=by
 have h0:lZ 0 (List.replicate n (0:Int)):=fun z hz=>by have:=(List.mem_replicate.1 hz).2;omega
 refine(dgZ hM rs hf 0 _ (aG _) h0).mono ?_;have:=vK (show((rs.length:Int))<=4096 by omega) hM;omega
theorem eB {lo hi v:Int}(h:nY lo hi=true):-spn lo hi<=fV lo hi v/\fV lo hi v<=spn lo hi:=by
 simp only[nY,qY] at h;unfold fV spn
 repeat' split
 all_goals omega
theorem dgJ (h:lZ M xs):-(xs.length*M)<=pD xs/\pD xs<=xs.length*M:=by
 induction xs with
 | nil=>simp[pD]
 | cons a xs ih =>
  have h1:=ih fun z hz=>h z (tP _ hz);have h2:=h a (qR ..);simp only[pD,pJ];rw[zT,gP];omega
theorem a7Z {a b:Int}(h1:-M<=a/\a<=M)(h2:-N<=b/\b<=N):-(M*N)<=a*b/\a*b<=M*N:=by
 have hM:0<=M:=by omega
 have hN:0<=N:=by omega
 have ha:(a.natAbs:Int)<=M:=by omega
 have hb:(b.natAbs:Int)<=N:=by omega
 have h3:((a*b).natAbs:Int)<=M*N:=by
  rw[Int.natAbs_mul,cE];exact qO ha hb (by omega) hM
 omega
theorem a7J (f:Int->Int->Int)(hf:∀ a b,-M<=a/\a<=M->-N<=b/\b<=N->-(M+N)<=f a b/\f a b<=M+N)(hx:lZ M xs)(hy:lZ N ys):lZ (M+N) (List.zipWith f xs ys):=by
 induction xs generalizing ys with
 | nil=>intro z hz;simp at hz
 | cons a xs ih =>
  cases ys with
  | nil=>intro z hz;simp at hz
  | cons b ys =>
   intro z hz;rw[List.zipWith_cons_cons] at hz;rcases fX.1 hz with rfl|hz
   ·exact hf a b (hx a (qR ..)) (hy b (qR ..))
   ·exact ih (fun z hz=>hx z (tP _ hz)) (fun z hz=>hy z (tP _ hz)) z hz
theorem k9 {l:List yQ}{c:ByteArray}{lo hi:Int}{wh:List aZ}{x y:Qu}{b:uZ}(h:bnd l lv (.node k c lo hi wh n x y)=.ok b) :
  (n:Int)=rX k/\∃ bx b',wV (1<=n) (bnd l (lv+1) x)=.ok bx/\wV (2<=n) (bnd l (lv+1) y)=.ok b'/\rec l k c lo hi wh bx b' = .ok b/\qN b=true:=by
 simp only[bnd] at h;split at h
 ·cases h
 ·split at h
  ·cases h
  ·split at h
   ·rename_i hk
    split at h
    ·cases h
    ·rename_i bx hbx
     split at h
     ·cases h
     ·rename_i b' hby
      split at h
      ·cases h
      ·rename_i b0 hr
       obtain⟨rfl,hl⟩:=a3J h;exact⟨hk,bx,b',hbx,hby,hr,hl⟩
   ·cases h
theorem tK {e:Int}{b b':uZ}(h:jG e b=.ok b'):e=0/\b=b':=by
 unfold jG at h;split at h
 ·cases h;exact⟨by assumption,rfl⟩
 ·cases h
theorem fB {l:List yQ}(hs:nD l)(hl:rs.length<=4096)(q:Qu):∀ (lv:Nat) (b:uZ),bnd l lv q=.ok b->q≠.none->((ans l rs q).length:Int)=b.1/\lZ b.2.2 (ans l rs q):=by
 induction q with
 | none=>intro lv b _ h;exact absurd rfl h
 | node k c lo hi wh n x y ihx ihy =>
  intro lv b h _;obtain⟨hk,⟨x1,x2,x3⟩,⟨y1,y2,y3⟩,hbx,hby,hr,hlim⟩:=k9 h
  have kx:1<=n->x≠.none->((ans l rs x).length:Int)=x1/\lZ x3 (ans l rs x):=fun hn hx=>by
   rw[wV,zQ hn] at hbx;exact ihx _ _ hbx hx
  have ky:2<=n->y≠.none->((ans l rs y).length:Int)=y1/\lZ y3 (ans l rs y):=fun hn hy=>by
   rw[wV,zQ hn] at hby;exact ihy _ _ hby hy
  have zx:1<=n->x=.none->(x1,x2,x3)=((0,0,0):uZ):=fun hn hx=>by
   rw[wV,zQ hn,hx] at hbx;simp only[bnd] at hbx;cases hbx;rfl
  have zy:2<=n->y=.none->(y1,y2,y3)=((0,0,0):uZ):=fun hn hy=>by
   rw[wV,zQ hn,hy] at hby;simp only[bnd] at hby;cases hby;rfl
  have bx:1<=n->((ans l rs x).length:Int)=x1/\lZ x3 (ans l rs x):=fun hn=>by
   by_cases hx:x=.none
   ·have:=zx hn hx;simp only[fQ] at this;obtain⟨rfl,rfl,rfl⟩:=this;rw[hx];exact⟨by simp[ans],fun z hz=>by simp[ans] at hz⟩
   ·exact kx hn hx
  have b_y:2<=n->((ans l rs y).length:Int)=y1/\lZ y3 (ans l rs y):=fun hn=>by
   by_cases hy:y=.none
   ·have:=zy hn hy;simp only[fQ] at this;obtain⟨rfl,rfl,rfl⟩:=this;rw[hy];exact⟨by simp[ans],fun z hz=>by simp[ans] at hz⟩
   ·exact ky hn hy
  clear kx ky zx zy hbx hby ihx ihy;have hkc:¬ rX k<0:=by omega
  rcases dB hkc with rfl|rfl|rfl|rfl|rfl|rfl|rfl|rfl|rfl|rfl
  ·simp[rec] at hr
   obtain⟨_,rfl⟩:=tK hr;rw[pO _ _ _ _ _ _ _ _ _ (by simp)];exact⟨by rw[nF];simp[rR],rO (M:=1) (by decide) (fun r _=>by simp[stp]) hl⟩
  ·simp[rec] at hr
   split at hr
   ·split at hr
    ·rename_i hw
     obtain⟨_,rfl⟩:=tK hr;rw[pO _ _ _ _ _ _ _ _ _ (by simp)];exact⟨by rw[nF];simp[rR],rO (sL hw).1 (fun r _=>by simpa [stp] using eB hw) hl⟩
    ·cases hr
   ·cases hr
  ·simp[rec] at hr
   split at hr
   ·rename_i i hf
    obtain⟨_,rfl⟩:=tK hr;rw[pO _ _ _ _ _ _ _ _ _ (by simp)];have:=uB hs hf;exact⟨by rw[nF,hf];simp[rR];omega,rO (M:=1) (by decide) (fun r _=>by simp[stp]) hl⟩
   ·cases hr
  ·simp[rec] at hr
   have hn:n=2:=by simp[rX] at hk;omega
   obtain⟨e1,e2⟩:=bx (by omega);obtain⟨e3,e4⟩:=b_y (by omega);split at hr
   ·cases hr
    rw[a5J];exact⟨by simp;omega,a7J _ (fun a b h1 h2=>by omega) e2 e4⟩
   ·cases hr
  ·simp[rec] at hr
   have hn:n=2:=by simp[rX] at hk;omega
   obtain⟨e1,e2⟩:=bx (by omega);obtain⟨e3,e4⟩:=b_y (by omega);split at hr
   ·cases hr
    rw[a6Q];exact⟨by simp;omega,a7J _ (fun a b h1 h2=>by omega) e2 e4⟩
   ·cases hr
  ·simp[rec] at hr
   have hn:n=1:=by simp[rX] at hk;omega
   obtain⟨e1,e2⟩:=bx (by omega);split at hr
   ·rename_i hw
    cases hr;rw[a6X];refine⟨by simpa using e1,fun z hz=>?_⟩;obtain⟨a,ha,rfl⟩:=tX.1 hz;refine a7Z ?_ (e2 a ha);simp only[nY,qY] at hw;unfold spn;split <;> omega
   ·cases hr
  ·simp[rec] at hr
   have hn:n=2:=by simp[rX] at hk;omega
   obtain⟨e1,e2⟩:=bx (by omega);obtain⟨e3,e4⟩:=b_y (by omega);cases hr;rw[a6Z];refine⟨by simp;omega,fun z hz=>?_⟩
   show -(mx x3 y3)<=z/\z<=mx x3 y3
   unfold mx;rcases kV.1 hz with hz|hz
   ·have:=e2 z hz;split <;> omega
   ·have:=e4 z hz;split <;> omega
  ·simp[rec] at hr
   have hn:n=1:=by simp[rX] at hk;omega
   obtain⟨e1,e2⟩:=bx (by omega);cases hr;rw[a6J];refine⟨by simp,fun z hz=>?_⟩;obtain rfl:=pP.1 hz;have:=dgJ e2;rw[e1] at this;exact this
  ·simp[rec] at hr
   have hn:n=1:=by simp[rX] at hk;omega
   obtain⟨e1,e2⟩:=bx (by omega);split at hr
   ·rename_i hlo
    cases hr;rw[a7Q];refine⟨by simp,fun z hz=>?_⟩;obtain rfl:=pP.1 hz;have hlt:lo.toNat<(ans l rs x).length:=by omega
    rw[List.getD,zJ hlt];exact e2 _ (List.getElem_mem hlt)
   ·cases hr
  ·simp[rec] at hr
   have hn:n=1:=by simp[rX] at hk;omega
   obtain⟨e1,e2⟩:=bx (by omega);split at hr
   ·rename_i hw
    cases hr;rw[a7X];refine⟨by simpa using e1,fun z hz=>?_⟩;obtain⟨a,ha,rfl⟩:=tX.1 hz;exact eB hw
   ·cases hr
def mQ (w:World) (lo g c:Nat) (xs:List Int):Prop:=w.ownsRow lo 3 1 (.slice (some ⟨g,0,none⟩) xs.length c) xs.length (xs.map (.int .i64))
theorem mQ.inv {lo:Nat}(h:mQ w lo g c xs):∃ cur:Array Value,lo<=g/\w.heap[g]? = some (.cells cur 3 (0,0))/\xs.length<=c/\c<=maxLen/\cur.size=c/\cur.toList.take xs.length=xs.map (.int .i64):=by
 obtain⟨_,h|⟨g',c',cur,e,h1,h2,h3,h4,h5,h6⟩⟩:=h
 ·simp at h
 ·simp only[gZ,zX,bG,zO,true_and] at e
  obtain⟨rfl,rfl⟩:=e;exact⟨cur,h1,h2,h3,h4,by simpa using h5,by simpa using h6⟩
theorem mQ.mk {lo:Nat}(h1:lo<=g)(h2:w.heap[g]? = some (.cells cur 3 (0,0)))(h3:xs.length<=c)(h4:c<=maxLen)(h5:cur.size=c)(h6:cur.toList.take xs.length=xs.map (.int .i64)):mQ w lo g c xs :=
 ⟨by simp,.inr ⟨g,c,cur,rfl,h1,h2,h3,h4,by simpa using h5,by simpa using h6⟩⟩
theorem mQ.lt {lo:Nat}(h:mQ w lo g c xs):lo<=g/\g<w.heap.size:=by
 obtain⟨cur,h1,h2,_⟩:=h.inv;exact⟨h1,(yJ.1 h2).1⟩
theorem mQ.at {lo:Nat}(h:mQ w lo g c xs)(hb:Below w.heap.size w w'):mQ w' lo g c xs:=mL h hb
theorem mQ.cell {lo:Nat}(h:mQ w lo g c xs)(hi:xs[i]? = some x):w.cell? ⟨g,i,none⟩=some (.int .i64 x):=by
 have:=World.ownsRow.cells h (g:=g) rfl i (.int .i64 x) (by simp[hi]);rwa [iU,xZ] at this
theorem mQ.fz {lo:Nat}(h:mQ w lo g c xs)(i:Nat):w.frozen? ⟨g,i,none⟩=false:=by
 obtain⟨cur,_,h2,_⟩:=h.inv;exact aR h2
theorem mQ.set {lo:Nat}(h:mQ w lo g c xs)(i:Nat)(z:Int):mQ (w.setCell ⟨g,i,none⟩ (.int .i64 z)) lo g c (xs.set i z):=by
 obtain⟨cur,h1,h2,h3,h4,h5,h6⟩:=h.inv;obtain⟨hlt,hk⟩:=yJ.1 h2;refine mQ.mk (cur:=cur.setIfInBounds i (.int .i64 z)) h1 ?_ (by simpa using h3) h4 (by simpa using h5) ?_
 ·show(w.heap.modify g _)[g]? = _
  rw[Array.getElem?_eq_getElem (by rw[Array.size_modify];exact hlt),Array.getElem_modify_self,hk];rfl
 ·rw[Array.toList_setIfInBounds,oN,List.take_set,h6,List.map_set]
theorem mQ.oth {lo:Nat}(h:mQ w lo g c xs){k:Nat}(hne:b≠g)(u:Value):mQ (w.setCell ⟨b,k,none⟩ u) lo g c xs:=by
 obtain⟨cur,h1,h2,h3⟩:=h.inv;exact mQ.mk h1 ((jM _ _ _ g (fun e=>hne (by simpa using e.symm))).trans h2) h3.1 h3.2.1 h3.2.2.1 h3.2.2.2
theorem mQ.mono {lo lo':Nat}(h:mQ w lo g c xs)(hl:lo'<=lo):mQ w lo' g c xs:=by
 obtain⟨cur,h1,h2,h3⟩:=h.inv;exact mQ.mk (by omega) h2 h3.1 h3.2.1 h3.2.2.1 h3.2.2.2
theorem xN:maxLen=9223372036854775807:=by decide
theorem mQ.ints {lo:Nat}(h:mQ w lo g c xs)(m:Nat)(hm:g≠m):jQ w w.heap.size m (.slice (some ⟨g,0,none⟩) xs.length c) xs:=by
 obtain⟨cur,h1,h2,h3,h4,h5,h6⟩:=h.inv;rw[xN] at h4;exact⟨_,_,rfl,h3,by omega,fun _=>⟨g,0,rfl,h.lt.2,hm,fun i x hi=>by rw[xZ];exact h.cell hi⟩⟩
theorem mQ.made (w:World)(lo n:Nat)(hlo:lo<=w.heap.size)(hn:n<=1073741824):mQ (w.alloc (.cells (madeCells #[.int .i64 0] n) 3)) lo w.heap.size n (List.replicate n 0):=by
 have hsz:(madeCells #[Value.int .i64 0] n).size=n:=by simp[madeCells]
 refine mQ.mk hlo (uM w _) (by simp) (by rw[xN];omega) hsz ?_;rw[List.length_replicate,rJ (by rw[oP,hsz];omega)];apply yM;intro i;by_cases hi:i<n
 ·simp[madeCells,hi,Nat.mod_one]
 ·simp[madeCells,hi]
theorem mQ.lit (w:World)(lo:Nat)(z:Int)(hlo:lo<=w.heap.size):mQ (w.alloc (.cells #[.int .i64 z] 3)) lo w.heap.size 1 [z] :=
 mQ.mk hlo (uM w _) (by simp) (by rw[xN];omega) rfl rfl
theorem jQ.got {B nb:Nat}(h:jQ w B nb (.slice a n c) xs)(hi:i<xs.length):∃ b o x,a=some ⟨b,o,none⟩/\n=xs.length/\b<B/\b≠nb/\xs[i]? = some x/\xs.getD i 0=x/\w.cell? ⟨b,o+i,none⟩=some (.int .i64 x):=by
 obtain⟨a',c',e,_,_,hx⟩:=h;simp only[gZ] at e;obtain⟨rfl,rfl,rfl⟩:=e;obtain⟨b,o,rfl,hb,hn,hcell⟩:=hx (ne_of_lt hi);obtain⟨x,hx⟩:=cX hi;exact⟨b,o,x,rfl,rfl,hb,hn,hx,by simp[List.getD,hx],hcell i x hx⟩
theorem dhQ (h i p:Nat)(at':Nat)(d z:Int)(hd:lU d=true)(B nb:Nat)(rv:Value)(row:List Int)(w:World)(hh:Boxed w h 251 (eG d p))(hi:Boxed w i 3 (.int .i64 (at':Int)))(hp:Boxed w p 3 (.int .i64 z))(hr:jQ w B nb rv row)(hat:at' < row.length) :
  Calls prog 205 #[rv,.pointer (some ⟨h,0,none⟩),.pointer (some ⟨i,0,none⟩)] w fun e w'=>e=.returned (.bool (lO d z (row.getD at' 0)))/\w' = w.drew:=by
 obtain⟨a,c,rfl,hc,hl,hx⟩:=hr;obtain⟨b,o,x,rfl,_,hb,hn,hg,hgd,hcell⟩:=jQ.got ⟨a,c,rfl,hc,hl,hx⟩ hat;have q1:=hh.cell;have q2:=hi.cell;have q3:=hp.cell;have q3':w.drew.cell? ⟨p,0,none⟩=some (.int .i64 z):=q3;rw[hgd];clear hh hi hp hx hg hgd;simp only[lU,qY] at hd;by_cases h1:d=1
 ·subst h1
  have kt:=mO 1 z x p w.drew (by decide) q3';simp only[eG] at q1;go_enter func205,ntmps205;go_wp2
  go_region_held3 (fun w'=>w'.cell? ⟨h,0,none⟩=some (.func (.func 232) #[] #[.pointer (some ⟨p,0,none⟩)])/\w'.cell? ⟨i,0,none⟩=some (.int .i64 (at':Int))/\w'.cell? ⟨b,o+at',none⟩=some (.int .i64 x)) (first|assumption|(simp[go_sem, *];done)) ((refine kt.mono ?_;rintro x3 w3 ⟨rfl,hw3⟩;subst hw3))
  go_wp2;go_ret;exact⟨rfl,rfl⟩
 by_cases h2:d=2
 ·subst h2
  have kt:=mO 2 z x p w.drew (by decide) q3';simp only[eG] at q1;go_enter func205,ntmps205;go_wp2
  go_region_held3 (fun w'=>w'.cell? ⟨h,0,none⟩=some (.func (.func 233) #[] #[.pointer (some ⟨p,0,none⟩)])/\w'.cell? ⟨i,0,none⟩=some (.int .i64 (at':Int))/\w'.cell? ⟨b,o+at',none⟩=some (.int .i64 x)) (first|assumption|(simp[go_sem, *];done)) ((refine kt.mono ?_;rintro x3 w3 ⟨rfl,hw3⟩;subst hw3))
  go_wp2;go_ret;exact⟨rfl,rfl⟩
 by_cases h3:d=3
 ·subst h3
  have kt:=mO 3 z x p w.drew (by decide) q3';simp only[eG] at q1;go_enter func205,ntmps205;go_wp2
  go_region_held3 (fun w'=>w'.cell? ⟨h,0,none⟩=some (.func (.func 234) #[] #[.pointer (some ⟨p,0,none⟩)])/\w'.cell? ⟨i,0,none⟩=some (.int .i64 (at':Int))/\w'.cell? ⟨b,o+at',none⟩=some (.int .i64 x)) (first|assumption|(simp[go_sem, *];done)) ((refine kt.mono ?_;rintro x3 w3 ⟨rfl,hw3⟩;subst hw3))
  go_wp2;go_ret;exact⟨rfl,rfl⟩
 by_cases h4:d=4
 ·subst h4
  have kt:=mO 4 z x p w.drew (by decide) q3';simp only[eG] at q1;go_enter func205,ntmps205;go_wp2
  go_region_held3 (fun w'=>w'.cell? ⟨h,0,none⟩=some (.func (.func 235) #[] #[.pointer (some ⟨p,0,none⟩)])/\w'.cell? ⟨i,0,none⟩=some (.int .i64 (at':Int))/\w'.cell? ⟨b,o+at',none⟩=some (.int .i64 x)) (first|assumption|(simp[go_sem, *];done)) ((refine kt.mono ?_;rintro x3 w3 ⟨rfl,hw3⟩;subst hw3))
  go_wp2;go_ret;exact⟨rfl,rfl⟩
 by_cases h5:d=5
 ·subst h5
  have kt:=mO 5 z x p w.drew (by decide) q3';simp only[eG] at q1;go_enter func205,ntmps205;go_wp2
  go_region_held3 (fun w'=>w'.cell? ⟨h,0,none⟩=some (.func (.func 236) #[] #[.pointer (some ⟨p,0,none⟩)])/\w'.cell? ⟨i,0,none⟩=some (.int .i64 (at':Int))/\w'.cell? ⟨b,o+at',none⟩=some (.int .i64 x)) (first|assumption|(simp[go_sem, *];done)) ((refine kt.mono ?_;rintro x3 w3 ⟨rfl,hw3⟩;subst hw3))
  go_wp2;go_ret;exact⟨rfl,rfl⟩
 obtain rfl:d=6:=by omega
 have kt:=mO 6 z x p w.drew (by decide) q3';simp only[eG] at q1;go_enter func205,ntmps205;go_wp2
 go_region_held3 (fun w'=>w'.cell? ⟨h,0,none⟩=some (.func (.func 237) #[] #[.pointer (some ⟨p,0,none⟩)])/\w'.cell? ⟨i,0,none⟩=some (.int .i64 (at':Int))/\w'.cell? ⟨b,o+at',none⟩=some (.int .i64 x)) (first|assumption|(simp[go_sem, *];done)) ((refine kt.mono ?_;rintro x3 w3 ⟨rfl,hw3⟩;subst hw3))
 go_wp2;go_ret;exact⟨rfl,rfl⟩
structure Pss (w:World) (A lo:Nat) (ps:List (Nat × Int × Int)) (sv:Value) (es:List (Value × Nat × Int × Int)):Prop where
 box:Boxed w A 295 sv
 tcs:rK w lo sv es
 eq:es.map (·.2)=ps
theorem Pss.at {lo:Nat}(h:Pss w A lo ps sv es)(hb:Below w.heap.size w w'):Pss w' A lo ps sv es:=⟨Boxed.at h.box hb,h.tcs.at hb,h.eq⟩
theorem dhX (h:es[i]? = some e):xD ((es.drop i).map (·.2)) r=(lO e.2.2.1 e.2.2.2 (r.getD e.2.1 0) && xD ((es.drop (i+1)).map (·.2)) r):=by
 rw[lJ (cQ.1 h).1,(cQ.1 h).2];simp[xD]
theorem l9 (A lo:Nat)(ps:List (Nat × Int × Int))(sv:Value)(es:List (Value × Nat × Int × Int))(w:World)(hP:Pss w A lo ps sv es)(hes:es.length<=64)(B nb:Nat)(rv:Value)(row:List Int)(hB:B<=w.heap.size)(hr:jQ w B nb rv row)(hat:∀ e∈ps,lU e.2.1=true/\e.1<row.length)(r:Bool)(hrr:xD ps row=r) :
  Calls prog 206 #[rv,.pointer (some ⟨A,0,none⟩)] w fun e w'=>e=.returned (.bool r)/\Below w.heap.size w w':=by
 have HP:=qQ hP;have HRV:=qQ hr;have HAT:=qQ hat;have HRR:Hid (xD ((es.drop 0).map (·.2)) row=r):=by rw[iP,hP.eq];exact hrr
 have q0:=hP.box.cell;obtain⟨sa,sc,rfl⟩:=eF hP.tcs.1;obtain⟨ra,rc,rfl,_⟩:=hr;clear hP hat hrr;go_enter func206,ntmps206;go_wp2
 go_loopw [8] (fun s' wr=>∃ (i:Nat),s' = .int .i64 (i:Int)/\i<=es.length/\Hid (xD ((es.drop i).map (·.2)) row=r)/\Below w.heap.size w wr) (fun s' _=>es.length - (intOf s').toNat)
 case atStart=>exact⟨0,rfl,kQ _,HRR,aQ _ _⟩
 case round =>
  obtain⟨i,rfl,hi,HI,hbl⟩:=hrel;clear q0;by_cases h1:i<es.length
  ·obtain⟨e,he⟩:=cX h1
   have hTc:=HP.out.tcs.at hbl
   obtain⟨g,c',rfl,hg1,hg2⟩:∃ g c',sa=some ⟨g,0,none⟩/\c' = sc/\True:=by
    obtain⟨_,h2|⟨g,cap,cur,e1,_⟩⟩:=hTc.1
    ·have:=h2.2;omega
    ·simp only[gZ] at e1;exact⟨g,sc,e1.1,rfl,trivial⟩
   have hc0:wr.cell? ⟨g,i,none⟩=some e.1:=by
    have:=World.ownsRow.cells hTc.1 (g:=g) rfl i e.1 (by simp[he]);rwa [iU,xZ] at this
   obtain⟨h,ii,p,hV,b1,b2,b3⟩:=hTc.2 e (qX he);have hmem:e.2∈ps:=by rw[<-HP.out.eq];exact aoX (qX he)
   obtain⟨hd,ha⟩:=HAT.out _ hmem;have HST:Hid (xD ((es.drop i).map (·.2)) row=(lO e.2.2.1 e.2.2.2 (row.getD e.2.1 0) && xD ((es.drop (i+1)).map (·.2)) row)):=dhX he;have k1:=dhQ h ii p e.2.1 e.2.2.1 e.2.2.2 hd B nb _ row wr b1 b2 b3 (HRV.out.at hB hbl) ha;obtain⟨tb,htb⟩:∃ tb,lO e.2.2.1 e.2.2.2 (row.getD e.2.1 0)=tb:=⟨_,rfl⟩;rw[htb] at k1;rw[hV] at hc0;have HB2:Hid ((tb && xD ((es.drop (i+1)).map (·.2)) row)=r):=by rw[<-htb,<-HST.out];exact HI.out
   clear hTc b1 b2 b3 hd ha hmem htb hV HI;cases tb with
   | false =>
    obtain rfl:false=r:=by rw[<-HB2.out];rfl
    go_wp2_with fail;refine k1.mono ?_;rintro e w1 ⟨rfl,hw1⟩;subst hw1;go_wp2;go_ret;exact⟨rfl,hbl.drew⟩
   | true =>
    have HI2:Hid (xD ((es.drop (i+1)).map (·.2)) row=r):=by have:=HB2.out;simpa [Hid] using this
    go_wp2_with fail;refine k1.mono ?_;rintro e w1 ⟨rfl,hw1⟩;subst hw1;go_wp2
    go_roundw
    case rel=>exact⟨i+1,by go_num,h1,HI2,hbl.drew⟩
    case measure=>simp[intOf];omega
  ·obtain rfl:true=r:=by have:=HI.out;rw[zK (by omega)] at this;exact this
   go_wp2;go_ret;exact⟨rfl,hbl⟩
