import Derived.Test.YtcaplmodgbpchaaGreatDoorQq31
open Go.Proofs.Tryz
open Go.Value(int)
open Go.IntKind(i64)
set_option linter.unusedSimpArgs false
set_option maxHeartbeats 16000000
set_option maxRecDepth 100000
namespace Go.Proofs.YtcaplmodgbpchaaGreatDoor
variable {W w w':World} {b base bh bk g n:Nat} {cv s v x y z:Value} {brk:Bool} {N:Nat->Prop} {o:Obj} {t:TypeId} {xs:List Int}
namespace K.P
open Go.RowKit K.Ds
def vH (M:Nat->Prop) (bh bd bw:Nat) (a:Option Addr) (c:Nat) (l:List aQ) (ts:List (List Int)) (s':HSt) (er:Int) (w:World):Ending->World->Prop:=fun x w' =>
 x=.returned (int i64 er)/\Keeps w w' (fun k=>M k\/k=bd\/k=bw)/\DskM w' bd bw a c s'.disk s'.left /\
  (s'.brk=false->qJ w' (fun k=>M k\/w.heap.size<=k/\k<w'.heap.size) bh bd l ts s'.done)/\(s'.brk=true->Cl w' bh 5 (.bool true))
theorem dfQ {done:List En}{e:En}(h:zZ done (nrm e)=0):e.2.1.size<=32:=by
 have a:=(fD (sS h).1).2.2.1;rw[vE] at a;unfold mJ at a;simp only[eI,dJ] at a;have g:=a.1.2;rw[rL] at g;exact g
theorem bbJ (M:Nat->Prop)(bh bd m:Nat)(a:Option Addr)(c:Nat)(l:List aQ)(ts:List (List Int))(disk:List Int)(left:Int)(done:List En)(e:En)(w:World)(hh:qJ w M bh bd l ts done)(hd:DskM w bd m a c disk left)(hM:¬ M bd/\¬ M m)(cr:m<w.heap.size)(hl:-9223372036854775808<=left/\left<=9223372036854775807)(hs:e.2.1.size<=9223372036854775807)(bz:-9223372036854775808<=e.2.2.1/\e.2.2.1<=9223372036854775807)(bf:nrm e=e)(s':HSt)(er:Int)(hr:jZ ⟨disk,left,true,false,done⟩ e=(s',er)) :
  Calls prog 22 #[.pointer (some ⟨bh,0,none⟩),ev e] w (vH M bh bd m a c l ts s' er w):=by
 obtain⟨cv,rv,z,bm,n,v,D,h,B,N,q⟩:=hh;have Z:done.length<=4096:=q.bo.inv.len;have co:bd<w.heap.size:=hd.c0.lt;have g:=qQ q;have HD:=qQ hd;have O:=qQ hM;have bn:=qQ hl;have ac:=qQ bf;obtain⟨W,hW⟩:∃ W,w.alloc (.cells #[int i64 e.1,.string e.2.1,int i64 e.2.2.1,int i64 e.2.2.2.1,int i64 e.2.2.2.2] 72)=W:=⟨_,rfl⟩;have ae:Hid (xQ w W):=hW▸ba _ _;have HV:Hid (FivB W w.heap.size (int i64 e.1) (.string e.2.1) (int i64 e.2.2.1) (int i64 e.2.2.2.1) (int i64 e.2.2.2.2)):=hW▸FivB.new _ _ _ _ _ _ 72 _ rfl;obtain⟨rm,al⟩:∃ rm,decide (9*done.length+9<=disk.length)=rm:=⟨_,rfl⟩;have kr:=baQ bh bd m cv rv z done.length false a c disk left W (q.hc.at ae.out) (hd.at ae.out) Z rm al;have b3:=qQ al;have HR:=qQ hr;clear q hd hM hl bf al hr;go_enter func22,ntmps22;go_wp2_with fail;clear hW;refine kr.mono ?_;rintro x i ⟨rfl,aj⟩;have B1:xQ w i:=bt ae.out aj;cases rm with
 | false =>
  have A:=HR.out;have h3:disk.length<9*done.length+9:=by have:=tL b3.out;omega
  unfold jZ at A;rw[jQ h3] at A;simp only[cQ] at A;obtain⟨rfl,rfl⟩:=A;clear kr;go_wp2;go_ret;refine⟨rfl,xX B1,HD.out.at B1,fun _=>?_,(fun h=>by cases h)⟩;have h5:qJ w M bh bd l ts done:=⟨_,_,_,_,_,_,_,_,_,_,g.out⟩;exact(h5.kp (K:=fun _=>False) (xX B1) (fun _ _ h=>h)).mono (fun k h=>.inl h)
 | true =>
  have H:9*done.length+9<=disk.length:=tD b3.out;have C:=qQ H;have V1:FivB i w.heap.size (int i64 e.1) (.string e.2.1) (int i64 e.2.2.1) (int i64 e.2.2.2.1) (int i64 e.2.2.2.2):=HV.out.below aj;obtain⟨c0,c1,c2,c3,c4,_,_,_,_,_,am⟩:=id V1;have Q:HouC i bh bd cv rv z done.length false:=g.out.hc.at B1;have m2:=Q.c2.c;have a9:=qQ B1;have aq:BookM i.drew (fun k=>N k\/i.heap.size<=k) z bm n v D done:=((g.out.bo.kp (K:=fun _=>False) (xX B1) (fun _ _ h=>h)).keep (uQ _ _).drew).mono (fun k _ h=>.inl h)
  have kd:Calls prog 47 #[.pointer (some ⟨z,0,none⟩),ev e] i.drew fun x w'=>x=.returned (int i64 (zZ done (nrm e)))/\Keeps i w' (fun k=>N k\/i.heap.size<=k)/\(∃ n v D,BookM w' (fun k=>N k\/i.heap.size<=k) z bm n v D (xG done e))/\HouC w' bh bd cv rv z done.length false/\FivB w' w.heap.size (int i64 e.1) (.string e.2.1) (int i64 e.2.2.1) (int i64 e.2.2.2.1) (int i64 e.2.2.2.2):=by
   refine(a3J (fun k=>N k\/i.heap.size<=k) z bm n v D done e i.drew aq hs (fun k o=>.inr o) bz).mono ?_;rintro x L ⟨h1,A,h3⟩;have K:Keeps i L (fun k=>N k\/i.heap.size<=k):=(xX (uQ _ _).drew).trans A;refine⟨h1,K,h3,Q.kp K ?_,?_⟩
   ·rintro(c|c)
    ·exact(g.out.nn _ c).2.2 rfl
    ·have:=Q.c0.lt;omega
   ·obtain⟨c0,c1,c2,c3,c4,f0,f1,f2,f3,f4,am⟩:=V1
    have e:=K.block w.heap.size am (by
     rintro(c|c)
     ·have:=(g.out.nn _ c).2.1;omega
     ·omega)
    exact⟨(vJ (w:=i) (a:=⟨w.heap.size,0,none⟩) e).trans c0,(vJ (w:=i) (a:=⟨w.heap.size,1,none⟩) e).trans c1,(vJ (w:=i) (a:=⟨w.heap.size,2,none⟩) e).trans c2,(vJ (w:=i) (a:=⟨w.heap.size,3,none⟩) e).trans c3,(vJ (w:=i) (a:=⟨w.heap.size,4,none⟩) e).trans c4,(nV (w:=i) (a:=⟨w.heap.size,0,none⟩) e).trans f0,(nV (w:=i) (a:=⟨w.heap.size,1,none⟩) e).trans f1,(nV (w:=i) (a:=⟨w.heap.size,2,none⟩) e).trans f2,(nV (w:=i) (a:=⟨w.heap.size,3,none⟩) e).trans f3,(nV (w:=i) (a:=⟨w.heap.size,4,none⟩) e).trans f4,lQ am K.size⟩
  clear kr H V1 Q aq B1 aj;go_wp2_with fail
  go_region_held3 (fun w'=>w'.cell? ⟨bh,2,none⟩=some (.pointer (some ⟨z,0,none⟩))/\w'.cell? ⟨w.heap.size,0,none⟩=some (int i64 e.1)/\w'.cell? ⟨w.heap.size,1,none⟩=some (.string e.2.1)/\w'.cell? ⟨w.heap.size,2,none⟩=some (int i64 e.2.2.1)/\w'.cell? ⟨w.heap.size,3,none⟩=some (int i64 e.2.2.2.1)/\w'.cell? ⟨w.heap.size,4,none⟩=some (int i64 e.2.2.2.2))
   (first|assumption|(simp[go_sem, *];done))
   ((go_at_call 47;refine kd.mono ?_;rintro x L ⟨rfl,ai,T,E,F⟩;have z2:=E.c2.c;have y0:=F.c0;have y1:=F.c1;have y2:=F.c2;have y3:=F.c3;have y4:=F.c4))
  clear kd m2 c0 c1 c2 c3 c4;have aa:=qQ ai;obtain⟨n2,v2,D2,T⟩:=T;have P:=qQ T;have cg:i.heap.size<=L.heap.size:=ai.size
  have KW:Hid (∀ w',Keeps L w' (fun k=>k=bd\/k=m\/k=bh)->Keeps w w' (fun k=>M k\/k=bd\/k=m)):=fun w' o=>by
   have k1:Keeps w L (fun k=>(M k\/k=bd\/k=m)\/w.heap.size<=k):=(xX a9.out).trans (aa.out.imp (fun k _ h=>h.elim (fun c=>.inl (.inl (g.out.mm _ (.inr (.inl c))))) (fun c=>.inr (by omega))))
   have k2:Keeps w w' (fun k=>(M k\/k=bd\/k=m)\/w.heap.size<=k):=k1.trans (o.imp (fun k _ h=>by
    rcases h with c|c|rfl
    ·exact .inl (.inr (.inl c))
    ·exact .inl (.inr (.inr c))
    ·exact .inl (.inl (g.out.mm _ (.inl rfl)))))
   exact k2.imp (fun k o h=>h.elim id (fun c=>by omega))
  have b5:Hid (lD L h B cv rv l ts):=(g.out.tb.kp (K:=fun _=>False) (xX a9.out) g.out.hB.2 (fun _ _ _ h=>h)).kp aa.out (by have:=g.out.hB.2;omega) (fun k h1 A c=>by
   rcases c with c|c
   ·have:=(g.out.nn _ c).1;omega
   ·have:=g.out.hB.2;omega)
  have ay:Hid (DskM L bd m a c disk left):=(HD.out.at a9.out).kp aa.out (by
   rintro(c|c)
   ·exact O.out.1 (g.out.mm _ (.inr (.inl c)))
   ·omega) (by
   rintro(c|c)
   ·exact O.out.2 (g.out.mm _ (.inr (.inl c)))
   ·omega)
  have cq:bh<w.heap.size:=g.out.hc.c0.lt;have bb:Hid (∀ k,N k->M k):=fun k c=>g.out.mm _ (.inr (.inl c))
  have aw:Hid (∀ w' dn,L.heap.size<=w'.heap.size->HouC w' bh bd cv rv z (dn:List En).length false->BookM w' (fun k=>N k\/i.heap.size<=k) z bm n2 v2 D2 dn->lD w' h B cv rv l ts->qJ w' (fun k=>M k\/w.heap.size<=k/\k<w'.heap.size) bh bd l ts dn):=fun w' dn hsz hc hb ht=>by
   refine⟨cv,rv,z,bm,n2,v2,D2,h,B,(fun k=>(N k\/i.heap.size<=k)/\k<w'.heap.size),hc,hb.mono (fun k o c=>⟨c,o⟩),ht,fun k o=>?_,⟨g.out.hB.1,by have:=g.out.hB.2;omega⟩,g.out.ap,fun k o=>?_⟩
   ·refine⟨?_,o.2,?_⟩
    ·rcases o.1 with c|c
     ·exact(g.out.nn _ c).1
     ·have:=g.out.hB.2;omega
    ·rcases o.1 with c|c
     ·exact(g.out.nn _ c).2.2
     ·omega
   ·rcases o with c|c|c
    ·exact .inl (g.out.mm _ (.inl c))
    ·rcases c.1 with d|d
     ·exact .inl (g.out.mm _ (.inr (.inl d)))
     ·exact .inr ⟨by omega,c.2⟩
    ·exact .inl (g.out.mm _ (.inr (.inr c)))
  clear ai T;obtain⟨y,ak⟩:∃ y,zZ done (nrm e)=y:=⟨_,rfl⟩;have S:=qQ ak;simp only[ak];clear ak
  have bc:jZ ⟨disk,left,true,false,done⟩ e=if y≠0 then (⟨disk,left,true,false,done⟩,y) else if (nX disk left (wrs done.length e)).2.2=true then (⟨(nX disk left (wrs done.length e)).1,(nX disk left (wrs done.length e)).2.1,true,false,done++[e]⟩,0) else (⟨(nX disk left (wrs done.length e)).1,(nX disk left (wrs done.length e)).2.1,true,true,done⟩,11):=by
   have bv:zZ done e=y:=by rw[<-S.out,ac.out]
   unfold jZ;rw[zQ (by have:=C.out;simp only;omega)];simp only[ac.out,bv]
  have j:Hid _:=bc.symm.trans HR.out;clear bc;by_cases h0:y=0
  ·subst h0
   rw[zQ (by simp)] at j;have I:xG done e=done++[e]:=by unfold xG;rw[jQ S.out,ac.out]
   rw[I] at P;have Y:=dfQ S.out;obtain⟨x0,x1,x2,x3,x4,x5,x6,x7,x8,hx⟩:=dM (pN e);have J:=a2J e Y L;rw[hx,a9X] at J;obtain⟨d1,l1,ok,hp⟩:∃ d1 l1 ok,nX disk left (wrs done.length e)=(d1,l1,ok):=⟨_,_,_,rfl⟩
   have kw:∀ W,HouC W bh bd cv rv z done.length false->DskM W bd m a c disk left->m<W.heap.size->_:=fun W h1 A h3=>ddJ bh bd m cv rv z done.length false a c disk left e W h1 A (by
    have:=g.out.mm _ (.inl rfl);exact⟨fun c=>O.out.1 (c▸this),fun c=>O.out.2 (c▸this)⟩) h3 Z C.out bn.out x0 x1 x2 x3 x4 x5 x6 x7 x8 hx d1 l1 ok hp
   rw[hp] at j;simp only at j;have R:=qQ E;clear hx hp Y I E z2;go_wp2_with fail;refine J.mono ?_;rintro x w3 ⟨rfl,G⟩;have cw:=G.size;have an:=kw w3 (R.out.at G) (ay.out.at G) (by omega);clear J;go_wp2_with fail;refine an.mono ?_;rintro x w4 ⟨rfl,ah,U⟩;have af:Keeps L w4 (fun k=>k=bd\/k=m\/k=bh):=(xX G).trans (U.imp (fun k _ h=>h.elim .inl (fun c=>.inr (.inl c))))
   have ao:¬ (bh=bd\/bh=m):=by
    have:=g.out.mm _ (.inl rfl);rintro(c|c)
    ·exact O.out.1 (c▸this)
    ·exact O.out.2 (c▸this)
   have C4:HouC w4 bh bd cv rv z done.length false:=(R.out.at G).kp U ao;have ax:=qQ C4;have V:=qQ af;have az:=qQ ah;have a6:bh≠bd:=fun c=>ao (.inl c);have a7:bh≠m:=fun c=>ao (.inr c);cases ok with
   | false =>
    rw[zQ (by simp)] at j;have X:=j.out;simp only[cQ] at X;obtain⟨rfl,rfl⟩:=X;obtain⟨q5,f5,_⟩:=C4.c5;clear kw an C4 ah U af;go_wp2;go_ret;refine⟨rfl,KW.out _ (lX V.out (.inl (.inr (.inr rfl))) _),az.out.kp (N:=fun k=>k=bh) (lX (vZ _ (fun k=>k=bh)) (p:=⟨bh,5,none⟩) (.inl rfl) _) a6.symm a7.symm,(fun h=>by cases h),fun _=>ax.out.c5.set _⟩
   | true =>
    rw[jQ rfl] at j;have X:=j.out;simp only[cQ] at X;obtain⟨rfl,rfl⟩:=X;obtain⟨q4,f4,_⟩:=C4.c4;have cx:IntKind.i64.wrap ((done.length:Int)+1)=((done++[e]).length:Int):=by rw[lJ];simp;omega
    clear kw an C4 ah U af;go_wp2;have KX:Keeps L (w4.setCell ⟨bh,4,none⟩ (int i64 ((done.length:Int)+1))) (fun k=>k=bd\/k=m\/k=bh):=lX V.out (.inl (.inr (.inr rfl))) _;go_ret;refine⟨rfl,KW.out _ KX,az.out.kp (N:=fun k=>k=bh) (lX (vZ _ (fun k=>k=bh)) (p:=⟨bh,4,none⟩) (.inl rfl) _) a6.symm a7.symm,fun _=>aw.out _ (done++[e]) KX.size ?_ (P.out.kp KX ?_) (b5.out.kp KX (by have:=g.out.hB.2;omega) ?_),(fun h=>by cases h)⟩
    ·rw[show((done++[e]).length:Int)=(done.length:Int)+1 by simp]
     exact ax.out.s4 _
    ·rintro k o (rfl|rfl|rfl)
     ·rcases o with d|d
      ·exact O.out.1 (bb.out _ d)
      ·omega
     ·rcases o with d|d
      ·exact O.out.2 (bb.out _ d)
      ·omega
     ·rcases o with d|d
      ·exact(g.out.nn _ d).2.2 rfl
      ·omega
    ·rintro k h1 A (rfl|rfl|rfl)
     ·exact O.out.1 (g.out.mm _ (.inr (.inr ⟨h1,A⟩)))
     ·exact O.out.2 (g.out.mm _ (.inr (.inr ⟨h1,A⟩)))
     ·have:=g.out.ap;omega
  ·rw[jQ h0] at j
   have X:=j.out;simp only[cQ] at X;obtain⟨rfl,rfl⟩:=X;have I:xG done e=done:=by unfold xG;rw[zQ (by rw[S.out];exact h0)]
   rw[I] at P;have cm:(y != 0)=true:=by simpa using h0
   have R:=qQ E;clear I E z2;go_wp2;go_ret;exact⟨rfl,KW.out _ (vZ _ _),ay.out,fun _=>aw.out _ done (vQ _) R.out P.out b5.out,(fun h=>by cases h)⟩
def rV (l:List Int):Prop:=∀ x∈l,-9223372036854775808<=x/\x<=9223372036854775807
def fM (bh:Nat) (w:World):Nat:=match w.cell? ⟨bh,4,none⟩ with
 | some (.int _ z)=>z.toNat
 | _=>0
theorem bcQ {bd:Nat}{rv:Value}(h:HouC w bh bd cv rv bk n brk):fM bh w=n:=by
 unfold fM;rw[h.c4.c];simp
theorem bcX (x0 x1 x2 x3 x4 x5 x6 x7 x8:Int):tY [x0,x1,x2,x3,x4,x5,x6,x7,x8]=(x1,jY (dY [x5,x6,x7,x8]),x2,x3,x4):=rfl
theorem dfX {a0 a1 a2 a3 a4:Value}(h:FivB w b a0 a1 a2 a3 a4)(g:Keeps w w' N)(i:¬ N b):FivB w' b a0 a1 a2 a3 a4 :=
 have e:=g.block b h.lt i
 ⟨(vJ (w:=w) (a:=⟨b,0,none⟩) e).trans h.c0,(vJ (w:=w) (a:=⟨b,1,none⟩) e).trans h.c1,(vJ (w:=w) (a:=⟨b,2,none⟩) e).trans h.c2,(vJ (w:=w) (a:=⟨b,3,none⟩) e).trans h.c3,(vJ (w:=w) (a:=⟨b,4,none⟩) e).trans h.c4,(nV (w:=w) (a:=⟨b,0,none⟩) e).trans h.f0,(nV (w:=w) (a:=⟨b,1,none⟩) e).trans h.f1,(nV (w:=w) (a:=⟨b,2,none⟩) e).trans h.f2,(nV (w:=w) (a:=⟨b,3,none⟩) e).trans h.f3,(nV (w:=w) (a:=⟨b,4,none⟩) e).trans h.f4,lQ h.lt g.size⟩
theorem dfZ (lo:Nat)(bh bd bw:Nat)(a:Option Addr)(c:Nat)(l:List aQ)(ts:List (List Int))(disk:List Int)(left:Int)(w:World)(hh:qJ w (fun k=>lo<=k) bh bd l ts [])(hd:DskM w bd bw a c disk left)(hM:bd<lo/\bw<lo)(c9:lo<=w.heap.size)(aq:rV disk) :
  Calls prog 21 #[.pointer (some ⟨bh,0,none⟩)] w fun x w'=>x=.returned (.tuple #[])/\Below lo w w'/\qJ w' (fun k=>lo<=k) bh bd l ts (wY disk):=by
 have bv:Hid (qJ w (fun k=>lo<=k) bh bd l ts []):=hh;have br:Hid (DskM w bd bw a c disk left):=hd;have bp:Hid (rV disk):=aq;clear hh hd aq;go_enter func21,ntmps21;go_wp2
 go_loopw [] (fun wr=>∃ (dn:List En),Hid (Rds disk dn.length dn)/\Hid (qJ wr (fun k=>lo<=k) bh bd l ts dn)/\Hid (Below lo w wr)) (fun wr=>4097 - fM bh wr)
 case atStart=>exact⟨[],.nil,bv,uQ _ _⟩
 case round =>
  obtain⟨dn,an,X,S⟩:=hrel;obtain⟨cv,rv,j,Z,n,v,D,h,B,N,q⟩:=X.out;have g:Hid (HouK wr (fun k=>lo<=k) bh bd l ts dn cv rv j Z n v D h B N):=q;have T:dn.length<=4096:=q.bo.inv.len;have ak:Hid (DskM wr bd bw a c disk left):=br.out.kp (N:=fun k=>lo<=k) ⟨S.out.os,S.out.tape,S.out.output,S.out.size,fun k _ hn=>S.out.block k (by omega)⟩ (by omega) (by omega);have az:lo<=wr.heap.size:=bQ c9 S.out.size;obtain⟨rm,aa⟩:∃ rm,decide (9*dn.length+9<=disk.length)=rm:=⟨_,rfl⟩;have kr:=baQ bh bd bw cv rv j dn.length false a c disk left wr q.hc ak.out T rm aa;have am:Hid (decide (9*dn.length+9<=disk.length)=rm):=aa
  have F:Hid (∀ w',Below lo wr w'->qJ w' (fun k=>lo<=k) bh bd l ts dn->¬ wU disk dn dn.length->Below lo w w'/\qJ w' (fun k=>lo<=k) bh bd l ts (wY disk)):=fun w' hb hh hc=>by
   refine⟨S.out.trans hb,?_⟩;rw[xW ⟨an.out,hc⟩];exact hh
  clear q aa;go_wp2_with fail;refine kr.mono ?_;rintro x w1 ⟨rfl,y⟩;have cn:=y.size;cases rm with
  | false =>
   have G:¬ wU disk dn dn.length:=fun hc=>by have:=tL am.out;exact this hc.1
   clear kr;go_wp2;go_end0;exact⟨rfl,F.out _ (y.mono az) (X.out.kp (K:=fun _=>False) (xX y) (fun _ _ h=>h)) G⟩
  | true =>
   have i:9*dn.length+9<=disk.length:=tD am.out;obtain⟨x0,x1,x2,x3,x4,x5,x6,x7,x8,hx⟩:=dM (nP i);have kd:=dcZ bh bd bw cv rv j dn.length false a c disk left w1 (g.out.hc.at y) (ak.out.at y) T i x0 x1 x2 x3 x4 x5 x6 x7 x8 hx;obtain⟨e,he⟩:∃ e,(x1,jY (dY [x5,x6,x7,x8]),x2,x3,x4)=e:=⟨_,rfl⟩;obtain⟨r,hr⟩:∃ r,decide ([x0,x1,x2,x3,x4,x5,x6,x7,x8]=oJ e)=r:=⟨_,rfl⟩;have ke:=fun W=>dcQ x0 x1 x2 x3 x4 x5 x6 x7 x8 W e he r hr;have ay:tY (rcd disk dn.length)=e:=by rw[hx,bcX];exact he
   have o:Hid (tY (rcd disk dn.length)=e/\decide (rcd disk dn.length=oJ e)=r):=⟨ay,by rw[hx];exact hr⟩;have Y:Hid (9*dn.length+9<=disk.length):=i;have cc:e.2.1.size<=32:=by rw[<-he];simp only;rw[fP];exact nW _ _ _ _
   have ca:-9223372036854775808<=e.2.2.1/\e.2.2.1<=9223372036854775807:=by
    have C:(rcd disk dn.length)[2]? = some x2:=by rw[hx];rfl
    rw[baX (by decide)] at C;rw[<-he];exact bp.out x2 (qX C)
   clear hx he hr ay i kr;go_wp2_with fail;refine kd.mono ?_;rintro x w2 ⟨rfl,a7⟩;have co:=a7.size;have bc:=ke w2;clear kd;go_wp2_with fail;refine bc.mono ?_;rintro x I ⟨rfl,a8⟩;have cq:=a8.size;have BR:xQ wr I:=bt (bt y a7) a8;have ai:Hid (xQ wr I):=BR;clear ke bc y a7 a8 BR;cases r with
   | false =>
    have G:¬ wU disk dn dn.length:=fun hc=>by
     have h1:=tL o.out.2;have C:=hc.2.2.1;rw[o.out.1] at C;exact h1 C.symm
    go_wp2_with fail;go_quiet (fail);go_wp2;refine eQ (dN rfl _ _ _) rfl ?_;have BX:=below_drewN (bal ai.out (.cells #[int i64 e.1,.string e.2.1,int i64 e.2.2.1,int i64 e.2.2.2.1,int i64 e.2.2.2.2] 72)) nq;exact⟨rfl,F.out _ (BX.mono az) (X.out.kp (K:=fun _=>False) (xX BX) (fun _ _ h=>h)) G⟩
   | true =>
    have U:rcd disk dn.length=oJ e:=tD o.out.2;have R:Hid (rcd disk dn.length=oJ e):=U;obtain⟨W,hW⟩:∃ W,I.alloc (.cells #[int i64 e.1,.string e.2.1,int i64 e.2.2.1,int i64 e.2.2.2.1,int i64 e.2.2.2.2] 72)=W:=⟨_,rfl⟩;have P:xQ wr W:=hW▸bal ai.out _;have V1:FivB W I.heap.size (int i64 e.1) (.string e.2.1) (int i64 e.2.2.1) (int i64 e.2.2.2.1) (int i64 e.2.2.2.2):=hW▸FivB.new _ _ _ _ _ _ 72 _ rfl;have C1:HouC W bh bd cv rv j dn.length false:=g.out.hc.at P;obtain⟨c0,c1,c2,c3,c4,_,_,_,_,_,ct⟩:=id V1;have m2:=C1.c2.c;have ag:BookM W.drew (fun k=>N k\/W.heap.size<=k) j Z n v D dn:=((g.out.bo.kp (K:=fun _=>False) (xX P) (fun _ _ h=>h)).keep (uQ _ _).drew).mono (fun k _ h=>.inl h);obtain⟨er,a9⟩:∃ er,zZ dn (nrm e)=er:=⟨_,rfl⟩
    have kd:Calls prog 47 #[.pointer (some ⟨j,0,none⟩),ev e] W.drew fun x w'=>x=.returned (int i64 er)/\Keeps W w' (fun k=>N k\/W.heap.size<=k)/\(∃ n v D,BookM w' (fun k=>N k\/W.heap.size<=k) j Z n v D (xG dn e))/\HouC w' bh bd cv rv j dn.length false/\FivB w' I.heap.size (int i64 e.1) (.string e.2.1) (int i64 e.2.2.1) (int i64 e.2.2.2.1) (int i64 e.2.2.2.2):=by
     refine(a3J (fun k=>N k\/W.heap.size<=k) j Z n v D dn e W.drew ag (by omega) (fun k E=>.inr E) ca).mono ?_;rintro x m ⟨h1,C,h3⟩;rw[a9] at h1;have K:Keeps W m (fun k=>N k\/W.heap.size<=k):=(xX (uQ _ _).drew).trans C;refine⟨h1,K,h3,C1.kp K ?_,dfX V1 K ?_⟩
     ·rintro(d|d)
      ·exact(g.out.nn _ d).2.2 rfl
      ·have:=C1.c0.lt;omega
     ·rintro(d|d)
      ·have:=(g.out.nn _ d).2.1;omega
      ·omega
    have al:Hid (xQ wr W):=P;have L:Hid (zZ dn (nrm e)=er):=a9;clear V1 C1 ag P a9 U;go_wp2_with fail;clear hW
    go_region_held3 (fun w'=>w'.cell? ⟨bh,2,none⟩=some (.pointer (some ⟨j,0,none⟩))/\w'.cell? ⟨I.heap.size,0,none⟩=some (int i64 e.1)/\w'.cell? ⟨I.heap.size,1,none⟩=some (.string e.2.1)/\w'.cell? ⟨I.heap.size,2,none⟩=some (int i64 e.2.2.1)/\w'.cell? ⟨I.heap.size,3,none⟩=some (int i64 e.2.2.2.1)/\w'.cell? ⟨I.heap.size,4,none⟩=some (int i64 e.2.2.2.2))
     (first|assumption|(simp[go_sem, *];done))
     ((go_at_call 47;refine kd.mono ?_;rintro x m ⟨rfl,O,M,a6,A⟩;have z2:=a6.c2.c;have y0:=A.c0;have y1:=A.c1;have y2:=A.c2;have y3:=A.c3;have y4:=A.c4))
    clear kd m2 c0 c1 c2 c3 c4 z2 y0 y1 y2 y3 y4;obtain⟨n4,v4,D4,M⟩:=M;have cr:=O.size;have J:Hid (BookM m (fun k=>N k\/W.heap.size<=k) j Z n4 v4 D4 (xG dn e)):=M;have V:Hid (HouC m bh bd cv rv j dn.length false):=a6;have z:Keeps wr m (fun k=>lo<=k):=(xX al.out).trans (O.imp (fun k _ d=>d.elim (fun d=>g.out.mm _ (.inr (.inl d))) (fun d=>by omega)));have af:Below lo wr m:=⟨z.os,z.tape,z.output,z.size,fun k E=>z.block k (by omega) (by omega)⟩;have Q:Hid (Below lo wr m):=af
    have ao:Hid (lD m h B cv rv l ts):=(g.out.tb.kp (K:=fun _=>False) (xX al.out) g.out.hB.2 (fun _ _ _ h=>h)).kp O (by have:=g.out.hB.2;omega) (fun k h1 C d=>by
     rcases d with d|d
     ·have:=(g.out.nn _ d).1;omega
     ·have:=g.out.hB.2;omega)
    have cm:bh<wr.heap.size:=g.out.hc.c0.lt;have au:lo<=bh:=g.out.mm _ (.inl rfl)
    have ah:Hid (∀ w' d',m.heap.size<=w'.heap.size->HouC w' bh bd cv rv j (d':List En).length false->BookM w' (fun k=>N k\/W.heap.size<=k) j Z n4 v4 D4 d'->lD w' h B cv rv l ts->qJ w' (fun k=>lo<=k) bh bd l ts d'):=fun w' d' cc hc hb ht=>by
     refine⟨cv,rv,j,Z,n4,v4,D4,h,B,(fun k=>(N k\/W.heap.size<=k)/\k<w'.heap.size),hc,hb.mono (fun k E c=>⟨c,E⟩),ht,fun k E=>?_,⟨g.out.hB.1,by have:=g.out.hB.2;omega⟩,g.out.ap,fun k E=>?_⟩
     ·refine⟨?_,E.2,?_⟩
      ·rcases E.1 with d|d
       ·exact(g.out.nn _ d).1
       ·have:=g.out.hB.2;omega
      ·rcases E.1 with d|d
       ·exact(g.out.nn _ d).2.2
       ·omega
     ·rcases E with d|d|d
      ·exact g.out.mm _ (.inl d)
      ·rcases d.1 with d|d
       ·exact g.out.mm _ (.inr (.inl d))
       ·omega
      ·exact g.out.mm _ (.inr (.inr d))
    clear O a6 M A z af;by_cases h0:er=0
    ·subst h0
     have H:xG dn e=dn++[nrm e]:=by unfold xG;rw[jQ L.out]
     rw[H] at J
     have aw:wU disk dn dn.length:=by
      refine⟨Y.out,?_,?_,?_⟩
      ·rw[R.out];rfl
      ·rw[o.out.1,R.out]
      ·rw[o.out.1];exact L.out
     have b6:Rds disk (dn.length+1) (dn++[nrm e]):=by
      have:=Rds.more an.out aw;rw[o.out.1] at this;exact this
     have c6:Hid (Rds disk (dn++[nrm e]).length (dn++[nrm e])):=by rw[Hid,sY];exact b6
     obtain⟨q4,f4,_⟩:=V.out.c4;have cu:IntKind.i64.wrap ((dn.length:Int)+1)=(dn.length:Int)+1:=by rw[lJ];omega
     have KX:Keeps m (m.setCell ⟨bh,4,none⟩ (int i64 ((dn.length:Int)+1))) (fun k=>k=bh):=lX (vZ _ (fun k=>k=bh)) (p:=⟨bh,4,none⟩) (.inl rfl) _
     have aj:Hid (HouC (m.setCell ⟨bh,4,none⟩ (int i64 ((dn.length:Int)+1))) bh bd cv rv j (dn++[nrm e]).length false):=by
      rw[Hid,show((dn++[nrm e]).length:Int)=(dn.length:Int)+1 by simp];exact V.out.s4 _
     have bx:Hid (qJ (m.setCell ⟨bh,4,none⟩ (int i64 ((dn.length:Int)+1))) (fun k=>lo<=k) bh bd l ts (dn++[nrm e])):=by
      refine ah.out _ _ KX.size aj.out (J.out.kp KX ?_) (ao.out.kp KX (by have:=g.out.hB.2;omega) ?_)
      ·rintro k E rfl
       rcases E with d|d
       ·exact(g.out.nn _ d).2.2 rfl
       ·omega
      ·rintro k h1 C rfl
       have:=g.out.ap;omega
     have bq:Hid (Below lo w (m.setCell ⟨bh,4,none⟩ (int i64 ((dn.length:Int)+1)))):=(S.out.trans Q.out).setCell (p:=⟨bh,4,none⟩) au _
     have b5:fM bh (m.setCell ⟨bh,4,none⟩ (int i64 ((dn.length:Int)+1)))=dn.length+1:=by
      rw[bcQ aj.out];simp
     have b3:fM bh wr=dn.length:=bcQ g.out.hc;have bz:Hid (4097 - fM bh (m.setCell ⟨bh,4,none⟩ (int i64 ((dn.length:Int)+1)))<4097 - fM bh wr):=by rw[Hid,b5,b3];omega
     clear H aw b6 KX b5 b3;go_wp2
     go_roundw
     ·exact⟨dn++[nrm e],c6,bx,bq⟩
     ·exact bz.out
    ·have H:xG dn e=dn:=by unfold xG;rw[zQ (by rw[L.out];exact h0)]
     rw[H] at J
     have G:¬ wU disk dn dn.length:=fun hc=>by
      have C:=hc.2.2.2;rw[o.out.1,L.out] at C;exact h0 C
     have cj:(er != 0)=true:=by simpa using h0
     clear H;go_wp2;refine eQ (dN rfl _ _ _) rfl ?_;exact⟨rfl,F.out _ Q.out (ah.out _ dn (vQ _) V.out J.out ao.out) G⟩
attribute [local go_sem] bL
theorem wW (h:w.heap[g]? = some o):g<w.heap.size:=(mY.1 h).1
theorem dfJ:(prog.info? 72).map (·.size)=some 5:=by kernel_rfl
theorem dgQ (d p u v:Int)(nm:ByteArray):(#[int i64 d,.string nm,int i64 p,int i64 u,int i64 v]:Array Value).all (·.oneCell')=true:=by
 refine all_oneCell_toArray (cs:=[_,_,_,_,_]) (fun v hv=>?_);simp only[kJ,cI,dI] at hv;rcases hv with rfl|rfl|rfl|rfl|rfl <;> rfl
theorem dgX {a b c d e:Value}(h:w.heap[g]? = some (.cells #[a,b,c,d,e] t (0,0))):FivB w g a b c d e:=by
 refine⟨?_,?_,?_,?_,?_,?_,?_,?_,?_,?_,wW h⟩ <;> simp[World.cell?,World.frozen?,h]
theorem l5 (h:w.ownsRow base 2 1 v n (wl xs))(p:xs.length=n)(y:n<=9223372036854775807):yQ w w.heap.size w.heap.size v xs:=by
 obtain⟨a,c,rfl,j,k,l⟩:=tH h;subst p;refine⟨a,c,rfl,j,y,fun hne=>?_⟩;cases a with
 | none=>exact absurd (anZ (k rfl).1) hne
 | some ad =>
  obtain⟨g,rfl,_,m,o⟩:=l ad rfl;exact⟨g,0,rfl,m,by omega,fun i x hi=>by rw[vX];exact o i _ (by rw[wl,mV,hi];rfl)⟩
theorem bcZ:(prog.info? 72).map (fun i=>(i.zero,i.size,i.bytes))=some (some (.agg #[int i64 0,.string ⟨#[]⟩,int i64 0,int i64 0,int i64 0]),5,48):=by kernel_rfl
theorem bcJ {t:Value}(h:FivB W b x y z s t):∀ j u,[x,y,z,s,t][j]? = some u->W.cell? ((⟨b,0,none⟩:Addr).add j)=some u:=by
 intro j u a;rw[bJ,vX]
 match j,a with
 | 0,a=>cases a;exact h.c0
 | 1,a=>cases a;exact h.c1
 | 2,a=>cases a;exact h.c2
 | 3,a=>cases a;exact h.c3
 | 4,a=>cases a;exact h.c4
theorem FivB.s2 {t:Value}(h:FivB w b x y z s t)(p:Int):FivB (w.setCell ⟨b,2,none⟩ (int i64 p)) b x y (int i64 p) s t:=by
 have hc:∀ {k:Nat} {v:Value},w.cell? ⟨b,k,none⟩=some v->w.frozen? ⟨b,k,none⟩=false->Cl w b k v:=fun h1 h2=>⟨h1,h2,h.lt⟩;have a0:=(hc h.c0 h.f0).oth (b':=b) (k':=2) (.inr (by decide)) (int i64 p);have a1:=(hc h.c1 h.f1).oth (b':=b) (k':=2) (.inr (by decide)) (int i64 p);have a2:=(hc h.c2 h.f2).set (int i64 p);have a3:=(hc h.c3 h.f3).oth (b':=b) (k':=2) (.inr (by decide)) (int i64 p);have a4:=(hc h.c4 h.f4).oth (b':=b) (k':=2) (.inr (by decide)) (int i64 p);exact⟨a0.c,a1.c,a2.c,a3.c,a4.c,a0.f,a1.f,a2.f,a3.f,a4.f,a0.lt⟩
def mD:Prop:=∀ (B:Nat) (dv:Value) (l:List En) (e:En) (w:World),B<=w.heap.size->uJ w B dv l->Inv l->e.2.1.size<=9223372036854775807->(-9223372036854775808<=e.2.2.1/\e.2.2.1<=9223372036854775807) ->
 Calls prog 33 #[dv,ev e] w (iQ w (int i64 (zZ l e)))
theorem bdQ (bh:mD)(B:Nat)(v:Value)(disk:List Int)(w:World)(hB:B<=w.heap.size)(T:yQ w B B v disk)(bb:rV disk)(dx:disk.length<=17592186044416) :
  Calls prog 14 #[v] w fun e w'=>∃ r,e=.returned r/\w'.ownsRow w.heap.size 72 5 r (wY disk).length (enc (wY disk))/\Inv (wY disk)/\xQ w w':=by
 obtain⟨iE,bi,bp,bq,br⟩:=pZ bcZ;have HX:=qQ T;have bz:=qQ bb;have az:Hid mD:=bh;obtain⟨a,c,rfl,hc,dw⟩:=T.slice;clear T bb bh;go_enter func14,ntmps14;go_wp2
 go_loopw [4,3] (fun t dv wr=>∃ (k:Nat) (dn:List En),t=int i64 ((9*k:Nat):Int)/\9*k<=disk.length/\Hid (dn.length=k/\Rds disk dn.length dn/\Inv dn)/\Hid (wr.ownsRow w.heap.size 72 5 dv k (enc dn))/\Hid (xQ w wr)) (fun t _ _=>disk.length - (intOf t).toNat)
 case atStart=>exact⟨0,[],rfl,by omega,⟨rfl,.nil,uE⟩,⟨rfl,.inl ⟨rfl,rfl⟩⟩,uQ _ _⟩
 case round =>
  obtain⟨k,dn,rfl,hk,l,HR,U⟩:=hrel;by_cases h1:9*k+9<=disk.length
  ·obtain⟨n,hn⟩:∃ n,9*k=n:=⟨_,rfl⟩
   rw[hn] at hk h1 ⊢;have HN:=qQ hn;clear hn;obtain⟨b,o,x,rfl,hb,_,S,e0⟩:=HX.out.get hB U.out (i:=n) (by omega);have dq:¬ c=n:=by omega
   have dz:(n:Int)+9<=(disk.length:Int):=by omega
   have e4:(n:Int)+9<=(c:Int):=by omega
   have al:9*k+9<=disk.length:=by have:=HN.out;omega
   obtain⟨x0,x1,x2,x3,x4,x5,x6,x7,x8,N⟩:=dM (nP al)
   have m:∀ j x,(rcd disk k)[j]? = some x->∀ W,xQ wr W->W.cell? ⟨b,o+n+j,none⟩=some (int i64 x):=by
    intro j x hj W H;have ca:j<9:=by have:=(fQ.1 hj).1;rw[nP al] at this;exact this
    obtain⟨b',o',x',e1,_,_,e2,e3⟩:=HX.out.get hB (bt U.out H) (i:=n+j) (by omega);cases e1
    have:disk[n+j]? = some x:=by
     rw[rcd,oG ca,kK,HN.out] at hj;exact hj
    rw[this] at e2;cases e2;rw[cU];exact e3
   rw[N] at m;have HC:Hid (∀ W,xQ wr W->W.cell? ⟨b,o+n,none⟩=some (int i64 x0)/\W.cell? ⟨b,o+n+1,none⟩=some (int i64 x1)/\W.cell? ⟨b,o+n+2,none⟩=some (int i64 x2)/\W.cell? ⟨b,o+n+3,none⟩=some (int i64 x3)/\W.cell? ⟨b,o+n+4,none⟩=some (int i64 x4)):=fun W H=>⟨m 0 _ rfl W H,m 1 _ rfl W H,m 2 _ rfl W H,m 3 _ rfl W H,m 4 _ rfl W H⟩;have bg:b<wr.heap.size:=lQ hb (bQ hB U.out.size);have c7:Hid (∀ W,xQ wr W->yQ W W.heap.size W.heap.size (.slice (some ⟨b,o+n,none⟩) 9 (c - n)) [x0,x1,x2,x3,x4,x5,x6,x7,x8]):=fun W H=>⟨_,_,rfl,by simp;omega,by simp,fun _=>⟨b,o+n,rfl,lQ bg H.size,by have:=H.size;omega,fun j x hj=>m j x hj W H⟩⟩;have c6:Hid (∀ W,xQ wr W->yQ W W.heap.size W.heap.size (.slice (some ⟨b,o+n+5,none⟩) 4 (c - n - 5)) [x5,x6,x7,x8]):=fun W H=>⟨_,_,rfl,by simp;omega,by simp,fun _=>⟨b,o+n+5,rfl,lQ bg H.size,by have:=H.size;omega,fun j x hj=>by rw[cU,Nat.add_comm 5 j];exact m (j+5) x (by simpa using hj) W H⟩⟩;obtain⟨nm,ak⟩:∃ nm,jY (dY [x5,x6,x7,x8])=nm:=⟨_,rfl⟩;have kn:=fun W H=>c8Z W.heap.size _ [x5,x6,x7,x8] W (vQ _) (c6.out W H) rfl;rw[ak] at kn;have dr:((c - n:Nat):Int)=(c:Int) - (n:Int):=by omega
   go_upto_region 6 with fail;rw[Nat.add_sub_cancel_left];have dp:¬ c - n=5:=by omega
   clear m
   refine zO [19,20,21,22,23,24,25,26,27,28,29,30,31,32,33,34,35,6] (fun L u W=>vV [(0,19,.slice (some ⟨b,o+n,none⟩) 9 (c - n)),(1,20,.pointer (some ⟨b,o+n+1,none⟩)),(2,21,int i64 x1),(3,22,.slice (some ⟨b,o+n,none⟩) 9 (c - n)),(4,23,.pointer (some ⟨b,o+n+2,none⟩)),(5,24,int i64 x2),(6,25,.slice (some ⟨b,o+n,none⟩) 9 (c - n)),(7,26,.pointer (some ⟨b,o+n+3,none⟩)),(8,27,int i64 x3),(9,28,.slice (some ⟨b,o+n,none⟩) 9 (c - n)),(10,29,.pointer (some ⟨b,o+n+4,none⟩)),(11,30,int i64 x4),(12,31,.agg #[int i64 x3,int i64 x4]),(13,32,.slice (some ⟨b,o+n,none⟩) 9 (c - n)),(14,33,.slice (some ⟨b,o+n+5,none⟩) 4 (c - n - 5)),(16,35,.agg #[int i64 x1,.string nm,int i64 x2,int i64 x3,int i64 x4])] L u /\
    (xQ wr W/\(L 15=true->u 34=.string nm)/\(L 17=true->L 18=false->∃ g,u 6=.pointer (some ⟨g,0,none⟩)/\wr.heap.size<=g/\W.heap[g]? = some (.cells #[int i64 0,.string ⟨#[]⟩,int i64 0,int i64 0,int i64 0] 72 (0,0))) /\
     (L 18=true->L 17=true/\∃ g,u 6=.pointer (some ⟨g,0,none⟩)/\wr.heap.size<=g/\W.heap[g]? = some (.cells #[int i64 x1,.string nm,int i64 x2,int i64 x3,int i64 x4] 72 (0,0))))) [0,1,2,3,4,5,6,7,8,9,10,11,12,13,14,15,16,17,18] (by kernel_rfl) ⟨?_,?_,?_,?_,?_,?_,?_,?_,?_,?_,?_,?_,?_,?_,?_,?_,?_,?_,?_,trivial⟩ (by kernel_rfl) ?_ ?_
   all_goals first
    | (refine a7Q rfl rfl (by decide) rfl rfl (fun _ _ _ h=>h) (fun L u W hd D hX=>?_);obtain⟨c0,c1,c2,c3,c4⟩:=HC.out W hX.1;first | (go_simp;done) | (have q:=D.get 0 rfl (hd 0 (by decide));go_simp;done) | (have q:=D.get 1 rfl (hd 1 (by decide));go_simp;done) | (have q:=D.get 3 rfl (hd 3 (by decide));go_simp;done) | (have q:=D.get 4 rfl (hd 4 (by decide));go_simp;done) | (have q:=D.get 6 rfl (hd 6 (by decide));go_simp;done) | (have q:=D.get 7 rfl (hd 7 (by decide));go_simp;done) | (have q:=D.get 9 rfl (hd 9 (by decide));go_simp;done) | (have q:=D.get 10 rfl (hd 10 (by decide));go_simp;done) | (have q:=D.get 8 rfl (hd 8 (by decide));have q2:=D.get 11 rfl (hd 11 (by decide));go_simp;done) | (have q:=D.get 13 rfl (hd 13 (by decide));go_simp;done) | (have q:=D.get 2 rfl (hd 2 (by decide));have q2:=D.get 5 rfl (hd 5 (by decide));have q3:=D.get 12 rfl (hd 12 (by decide));have q4:=hX.2.1 (hd 15 (by decide));go_simp;done))
    | skip
   ·refine bV rfl rfl rfl (fun L u W h0 hd D hX K hK=>?_)
    obtain⟨hS,b6,b8,R⟩:=hX;have q:=D.get 14 rfl (hd 14 (by decide));refine nT (by go_simp) (kn W hS) (fun e w' ⟨e1,hb'⟩=>⟨_,e1,hK _ w' ⟨bt hS hb',fun _=>rfl,fun a' b'=>?_,fun a'=>?_⟩⟩)
    ·obtain⟨g,e6,S,hF⟩:=b8 a' b'
     exact⟨g,e6,S,(hb'.block g (wW hF)).trans hF⟩
    ·obtain⟨e7,g,e6,S,hF⟩:=R a'
     exact⟨e7,g,e6,S,(hb'.block g (wW hF)).trans hF⟩
   ·refine bV rfl rfl rfl (fun L u W h0 hd D hX K hK=>?_)
    obtain⟨hS,b6,b8,R⟩:=hX;refine gG (v:=.pointer (some ⟨W.heap.size,0,none⟩)) (w':=W.alloc (.cells #[int i64 0,.string ⟨#[]⟩,int i64 0,int i64 0,int i64 0] 72)) (by go_simp) (hK _ _ ⟨bal hS _,b6,fun _ _=>⟨W.heap.size,rfl,hS.size,lL _ _⟩,fun a'=>?_⟩);exact absurd (R a').1 (by rw[h0];decide)
   ·refine a7X 72 6 35 5 rfl rfl rfl (by simp) (by simp) (by kernel_rfl) dfJ (fun L u W h0 hd D hX=>?_)
    exact(hX.2.2.1 (hd 17 (by decide)) h0).elim fun g S=>⟨g,_,_,_,S.1,D.get 15 rfl (hd 16 (by decide)),S.2.2,rfl,rfl,dgQ _ _ _ _ _,below_setRow hX.1 S.2.1 _,hX.2.1,fun _ h=>Bool.noConfusion h,fun _=>⟨hd 17 (by decide),g,S.1,S.2.1,setRow_heap _ _ _ _ _ _ S.2.2⟩⟩
   ·intro L u W hL ⟨D,hS,_,_,R⟩
    obtain⟨_,g,e6,S,hF⟩:=R (hL 18 (by decide));simp only[ov,List.foldl_cons,List.foldl_nil,List.setIfInBounds_toArray,List.set_cons_zero,List.set_cons_succ];rw[e6];have HF:=qQ (dgX hF);have ay:=qQ hS;have c9:=qQ (bt U.out hS);have c8:=qQ (sZ HR.out (cZ hS) (by simp));obtain⟨l0,l1,l2,l3,l4⟩:=HC.out W hS;have m0:=HF.out.c0;have m1:=HF.out.c1;have m2:=HF.out.c2;have m3:=HF.out.c3;have m4:=HF.out.c4;have Q:Hid (tY (rcd disk k)=(x1,nm,x2,x3,x4)):=by rw[Hid,N,bcX,ak]
    have P:Hid (¬ wU disk dn dn.length->wY disk=dn):=fun hc=>xW ⟨l.out.2.1,hc⟩;clear D hL R hF e6 hS kn;have bk:nm.size<=32:=by rw[<-ak,fP];exact nW x5 x6 x7 x8
    have dy:¬ (nm.size:Int) > 32:=by omega
    have bn:-9223372036854775808<=x2/\x2<=9223372036854775807:=bz.out x2 (amZ (pG (show x2∈rcd disk k by rw[N];simp)));by_cases h0:x0=1
    ·have cd:(x0 != 1)=false:=by simpa using h0
     have H0:=qQ h0;clear h0;have kr:=a8Q (x1,nm,x2,x3,x4) W;go_wp2_with fail;refine kr.mono ?_;rintro e5 w5 ⟨v5,rfl,bm,ai⟩;have bc:=l5 bm (pN _) (by decide);obtain⟨r,hr⟩:∃ r,decide (oJ (x1,nm,x2,x3,x4)=[x0,x1,x2,x3,x4,x5,x6,x7,x8])=r:=⟨_,rfl⟩;have ks:=c3X w5.heap.size v5 _ _ _ w5 (vQ _) bc (c7.out w5 (bt ay.out ai)) (by rw[pN];rfl) r hr;have b5:=qQ hr;clear hr bc bm kr;go_wp2_with fail;refine ks.mono ?_;rintro e6 w6 ⟨rfl,bf⟩;have ac:=qQ (bt ay.out (bt ai bf));have Y:=qQ (HF.out.below (bt ai bf));cases r with
     | false =>
      have F:¬ wU disk dn dn.length:=fun hc=>by
       have h:=hc.2.2.1;rw[l.out.1,Q.out,N] at h;exact tL b5.out h
      have HE:=qQ (P.out F);have F1:=qQ (sZ HR.out (cZ ac.out) (by simp));clear ks m0 m1 m2 m3 m4 l0 l1 l2 l3 l4;go_wp2;go_ret;rw[HE.out];exact⟨_,rfl,by rw[l.out.1];exact F1.out,l.out.2.2,bt U.out ac.out⟩
     | true =>
      have ax:Hid (zZ dn (nrm (tY (rcd disk dn.length)))=0->wU disk dn dn.length):=fun hd=>by
       refine⟨by rw[l.out.1];exact al,?_,?_,hd⟩
       ·rw[l.out.1,N,H0.out];rfl
       ·rw[l.out.1,Q.out,N];exact tD b5.out
      have k0:=Y.out.c0;clear ks m0 m1 m2 m3 m4 l0 l1 l2 l3 l4;by_cases h3:x1=3
      ·have ce:(x1 != 3)=false:=by simpa using h3
       have Z:Hid (nrm (x1,nm,x2,x3,x4)=(x1,nm,x2,x3,x4)):=by simp[Hid,nrm,h3]
       clear h3;have E:=ac;have G:=Y.out;have y:=qQ G;have p:Hid (∀ X,xQ w6 X->X.ownsRow w.heap.size 72 5 u3 k (enc dn)):=fun X hX=>sZ HR.out (cZ (E.out.trans (hX.mono E.out.size))) (by simp);have kd:=az.out w6.heap.size u3 dn (x1,nm,x2,x3,x4) w6 (vQ _) (wI (by rw[l.out.1];exact p.out _ (uQ _ _)) (bQ l.out.2.2.len (by decide)) (fun x T=>bQ (lP l.out.2.2 x T) (by decide))) l.out.2.2 (bQ bk (by decide)) bn;obtain⟨er,M⟩:∃ er,zZ dn (x1,nm,x2,x3,x4)=er:=⟨_,rfl⟩;rw[M] at kd;have V:Hid (zZ dn (nrm (tY (rcd disk dn.length)))=er):=by rw[Hid,l.out.1,Q.out,Z.out,M]
       have n0:=y.out.c0;have n1:=y.out.c1;have n2:=y.out.c2;have n3:=y.out.c3;have n4:=y.out.c4;clear M G;go_wp2_with fail;refine kd.mono ?_;rintro e8 O ⟨rfl,A⟩;have J:=qQ (E.out.trans (A.mono E.out.size));have z:FivB O g (int i64 x1) (.string nm) (int i64 x2) (int i64 x3) (int i64 x4):=y.out.below A;have p0:=z.c0;have p1:=z.c1;have p2:=z.c2;have p3:=z.c3;have p4:=z.c4;clear n0 n1 n2 n3 n4 kd z;by_cases h9:er=0
       ·subst h9
        have a6:=qQ (ax.out V.out);have a7:Hid ((O.alloc (.cells #[int i64 x1,.string nm,int i64 x2,int i64 x3,int i64 x4] 72)).ownsRow w.heap.size 72 5 u3 k (enc dn)):=(p.out O A).alloc _;have cb:k<=4096:=by have:=l.out.2.2.len;have:=l.out.1;omega
        go_wp2_with (at_builtin;refine qF _ rfl _ _ 40 rfl w.heap.size 72 iE (.agg #[int i64 0,.string ⟨#[]⟩,int i64 0,int i64 0,int i64 0]) 5 48 underlying40 bi bp bq br rfl (by decide) _ _ _ rfl a7.out ⟨O.heap.size,0,none⟩ 1 1 [int i64 x1,.string nm,int i64 x2,int i64 x3,int i64 x4] rfl rfl ?q1 ?q2 ?q3 ?q4 ?q5 ?_)
        case q1=>exact bcJ (FivB.new O _ _ _ _ _ 72 _ rfl)
        case q2=>intro x T;simp at T;rcases T with rfl|rfl|rfl|rfl|rfl <;> rfl
        case q3=>simp[maxLen];omega
        case q4=>omega
        case q5=>have:=J.out.size;have:=U.out.size;simp;omega
        intro v' w' I C _;have F1:Hid (w'.ownsRow w.heap.size 72 5 v' (k+1) (enc (dn++[nrm (tY (rcd disk dn.length))]))):=by rw[Hid,wN,l.out.1,Q.out,Z.out];exact I
        have F2:Hid (xQ w w'):=gT (bt U.out J.out) (vQ _) (p.out O A) C
        have F3:Hid ((dn++[nrm (tY (rcd disk dn.length))]).length=k+1/\Rds disk (dn++[nrm (tY (rcd disk dn.length))]).length (dn++[nrm (tY (rcd disk dn.length))])/\Inv (dn++[nrm (tY (rcd disk dn.length))])):=by
         have hl:(dn++[nrm (tY (rcd disk dn.length))]).length=dn.length+1:=by simp
         refine⟨by rw[hl,l.out.1],by rw[hl];exact .more l.out.2.1 a6.out,tS l.out.2.2 a6.out.2.2.2 (oS _)⟩
        clear I C p0 p1 p2 p3 p4 a7;go_wp2
        go_roundw
        case rel=>exact⟨k+1,_,by have:=HN.out;go_num,by have:=HN.out;omega,F3,F1,F2⟩
        case measure=>simp[intOf];omega
       ·have F:¬ wU disk dn dn.length:=fun hc=>h9 (V.out.symm.trans hc.2.2.2)
        have HE:=qQ (P.out F);have cf:(er != 0)=true:=by simpa using h9
        have F1:=qQ (p.out O A);go_wp2;go_ret;rw[HE.out];exact⟨_,rfl,by rw[l.out.1];exact F1.out,l.out.2.2,bt U.out J.out⟩
      ·have ce:(x1 != 3)=true:=by simpa using h3
       have Z:Hid (nrm (x1,nm,x2,x3,x4)=(x1,nm,0,x3,x4)):=by simp[Hid,nrm,h3]
       clear h3;have k2:=Y.out.c2;have k3:=Y.out.f2;obtain⟨w7,am⟩:∃ w7,w6.setCell ⟨g,2,none⟩ (int i64 0)=w7:=⟨_,rfl⟩;have E:Hid (xQ wr w7):=am▸bs ac.out S _;have G:FivB w7 g (int i64 x1) (.string nm) (int i64 0) (int i64 x3) (int i64 x4):=am▸Y.out.s2 0;go_upto_region 10 with fail;clear am k2 k3;have y:=qQ G;have p:Hid (∀ X,xQ w7 X->X.ownsRow w.heap.size 72 5 u3 k (enc dn)):=fun X hX=>sZ HR.out (cZ (E.out.trans (hX.mono E.out.size))) (by simp);have kd:=az.out w7.heap.size u3 dn (x1,nm,0,x3,x4) w7 (vQ _) (wI (by rw[l.out.1];exact p.out _ (uQ _ _)) (bQ l.out.2.2.len (by decide)) (fun x T=>bQ (lP l.out.2.2 x T) (by decide))) l.out.2.2 (bQ bk (by decide)) ⟨by simp,by simp⟩;obtain⟨er,M⟩:∃ er,zZ dn (x1,nm,0,x3,x4)=er:=⟨_,rfl⟩;rw[M] at kd;have V:Hid (zZ dn (nrm (tY (rcd disk dn.length)))=er):=by rw[Hid,l.out.1,Q.out,Z.out,M]
       have n0:=y.out.c0;have n1:=y.out.c1;have n2:=y.out.c2;have n3:=y.out.c3;have n4:=y.out.c4;clear M G;go_wp2_with fail;refine kd.mono ?_;rintro e8 O ⟨rfl,A⟩;have J:=qQ (E.out.trans (A.mono E.out.size));have z:FivB O g (int i64 x1) (.string nm) (int i64 0) (int i64 x3) (int i64 x4):=y.out.below A;have p0:=z.c0;have p1:=z.c1;have p2:=z.c2;have p3:=z.c3;have p4:=z.c4;clear n0 n1 n2 n3 n4 kd z;by_cases h9:er=0
       ·subst h9
        have a6:=qQ (ax.out V.out);have a7:Hid ((O.alloc (.cells #[int i64 x1,.string nm,int i64 0,int i64 x3,int i64 x4] 72)).ownsRow w.heap.size 72 5 u3 k (enc dn)):=(p.out O A).alloc _;have cb:k<=4096:=by have:=l.out.2.2.len;have:=l.out.1;omega
        go_wp2_with (at_builtin;refine qF _ rfl _ _ 40 rfl w.heap.size 72 iE (.agg #[int i64 0,.string ⟨#[]⟩,int i64 0,int i64 0,int i64 0]) 5 48 underlying40 bi bp bq br rfl (by decide) _ _ _ rfl a7.out ⟨O.heap.size,0,none⟩ 1 1 [int i64 x1,.string nm,int i64 0,int i64 x3,int i64 x4] rfl rfl ?q1 ?q2 ?q3 ?q4 ?q5 ?_)
        case q1=>exact bcJ (FivB.new O _ _ _ _ _ 72 _ rfl)
        case q2=>intro x T;simp at T;rcases T with rfl|rfl|rfl|rfl|rfl <;> rfl
        case q3=>simp[maxLen];omega
        case q4=>omega
        case q5=>have:=J.out.size;have:=U.out.size;simp;omega
        intro v' w' I C _;have F1:Hid (w'.ownsRow w.heap.size 72 5 v' (k+1) (enc (dn++[nrm (tY (rcd disk dn.length))]))):=by rw[Hid,wN,l.out.1,Q.out,Z.out];exact I
        have F2:Hid (xQ w w'):=gT (bt U.out J.out) (vQ _) (p.out O A) C
        have F3:Hid ((dn++[nrm (tY (rcd disk dn.length))]).length=k+1/\Rds disk (dn++[nrm (tY (rcd disk dn.length))]).length (dn++[nrm (tY (rcd disk dn.length))])/\Inv (dn++[nrm (tY (rcd disk dn.length))])):=by
         have hl:(dn++[nrm (tY (rcd disk dn.length))]).length=dn.length+1:=by simp
         refine⟨by rw[hl,l.out.1],by rw[hl];exact .more l.out.2.1 a6.out,tS l.out.2.2 a6.out.2.2.2 (oS _)⟩
        clear I C p0 p1 p2 p3 p4 a7;go_wp2
        go_roundw
        case rel=>exact⟨k+1,_,by have:=HN.out;go_num,by have:=HN.out;omega,F3,F1,F2⟩
        case measure=>simp[intOf];omega
       ·have F:¬ wU disk dn dn.length:=fun hc=>h9 (V.out.symm.trans hc.2.2.2)
        have HE:=qQ (P.out F);have cf:(er != 0)=true:=by simpa using h9
        have F1:=qQ (p.out O A);go_wp2;go_ret;rw[HE.out];exact⟨_,rfl,by rw[l.out.1];exact F1.out,l.out.2.2,bt U.out J.out⟩
    ·have cd:(x0 != 1)=true:=by simpa using h0
     have F:¬ wU disk dn dn.length:=fun hc=>by
      have h:=hc.2.1;rw[l.out.1,N] at h;exact h0 h
     have HE:=qQ (P.out F);go_wp2;go_ret;rw[HE.out];exact⟨_,rfl,by rw[l.out.1];exact c8.out,l.out.2.2,c9.out⟩
   ·intro u
    exact⟨fun t _ h=>Bool.noConfusion h,(uQ _ _).drew,fun h=>Bool.noConfusion h,fun h=>Bool.noConfusion h,fun h=>Bool.noConfusion h⟩
  ·have F:¬ wU disk dn dn.length:=fun hc=>by have:=hc.1;have:=l.out.1;omega
   have HE:=qQ (xW ⟨l.out.2.1,F⟩);have dt:¬ ((9*k:Nat):Int)+9<=(disk.length:Int):=by omega
   go_wp2;go_ret;rw[HE.out];exact⟨_,rfl,by rw[l.out.1];exact HR.out,l.out.2.2,U.out⟩
