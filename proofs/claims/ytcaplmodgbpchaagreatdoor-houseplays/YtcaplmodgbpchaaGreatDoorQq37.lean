import Derived.Test.YtcaplmodgbpchaaGreatDoorQq36
open Go.Proofs.Tryz
open Go.Value(int)
open Go.IntKind(i64)
set_option linter.unusedSimpArgs false
set_option maxHeartbeats 16000000
set_option maxRecDepth 100000
namespace Go.Proofs.YtcaplmodgbpchaaGreatDoor
variable {row:Option Nat} {N O base i n:Nat} {W W' a b w:World} {cv kv v wv:Value} {k z:Int} {c:ByteArray} {R xs:List Int}
namespace K
open Go.RowKit K.Ds
theorem b0J (lo hi v:Int)(w:World):Calls prog 167 #[int i64 v,int i64 lo,int i64 hi] w fun e w'=>e=.returned (int i64 (aJ lo hi v))/\w' = w:=by
 go_enter func167,ntmps167;by_cases c1:v<lo
 ·rw[aJ,jQ c1]
  go_wp2;go_ret;exact⟨rfl,rfl⟩
 ·by_cases c2:hi<v
  ·rw[aJ,zQ c1,jQ c2]
   go_wp2;go_ret;exact⟨rfl,rfl⟩
  ·rw[aJ,zQ c1,zQ c2]
   go_wp2;go_ret;exact⟨rfl,rfl⟩
theorem ewZ {l:List aQ}{wh:List cX}{row:List Int}{t:cX}(h:wh[i]? = some t):lY ((wh.drop i).map (trp l)) row=(dV t.2.1 t.2.2 (row.getD ((fnd l t.1).getD 0) 0) && lY ((wh.drop (i+1)).map (trp l)) row):=by
 rw[eV (fQ.1 h).1,(fQ.1 h).2];rfl
theorem ajX (B nb:Nat)(X v rv:Value)(l:List aQ)(p:List cX)(row:List Int)(w:World)(hB:B<=w.heap.size)(R:kQ w B X l)(S:qZ w B v p)(T:yQ w B nb rv row)(C:pJ l p=0)(M:zV l row)(r:Bool)(N:lY (p.map (trp l)) row=r) :
  Calls prog 166 #[X,v,rv] w (iQ w (.bool r)):=by
 have Y:=qQ R;have Z:=qQ S;have HR:=qQ T;have O:=qQ N
 have HT:Hid (∀ t∈p,(fnd l t.1).isSome=true/\fY t.2.1=true):=by
  unfold pJ at C;split at C
  ·cases C
  ·exact a0J C
 have P:=qQ M.len;obtain⟨a,c,rfl,hc,hl⟩:=S.slice;obtain⟨a',c',rfl,aa,ah⟩:=R.slice;obtain⟨a2,c2,rfl,ac,ai⟩:=T.slice;clear R S T C M N;go_enter func166,ntmps166;go_wp2
 go_loopw [12] (fun s wr=>∃ (i:Nat),s=int i64 (i:Int)/\i<=p.length/\Hid (lY ((p.drop i).map (trp l)) row=r)/\xQ w wr) (fun s _=>p.length - (intOf s).toNat)
 case atStart=>exact⟨0,rfl,dQ _,by simpa [Hid] using O.out,uQ _ _⟩
 case round =>
  obtain⟨i,rfl,hi,U,A⟩:=hrel;have aj:=A.size;by_cases F:i<p.length
  ·obtain⟨b,o,nm,d,z,rfl,hb,G,e1,e2,e3,hn⟩:=Z.out.get hB A F
   have D:=ewZ (l:=l) (row:=row) G;obtain⟨I,H⟩:=HT.out _ (qX G);obtain⟨j,L⟩:=Option.isSome_iff_exists.1 I;simp only at L H D;rw[L,Option.getD_some,U.out] at D;have h:=qQ D;have Q:j<row.length:=by have:=P.out;have:=iD L;omega
   have V:=iL B _ l nm (wr.alloc (.cells #[.string nm,int i64 d,int i64 z] 241)) (by simp;omega) ((Y.out.at hB A).at (by omega) (ba _ _)) (j:Int) (zI L);clear G D I L;simp only[fY,dJ] at H;go_wp2_with fail;refine V.mono ?_;rintro e w3 ⟨rfl,E⟩;clear V;have g:xQ w w3:=bt (bal A _) E;obtain⟨b2,o2,x,rfl,_,_,_,_,J,ae⟩:=(HR.out.at hB g).got Q;rw[J] at h;have t1:=((Cl.new (w:=wr) #[.string nm,int i64 d,int i64 z] 241 1 _ rfl rfl).at E).c;have t2:=((Cl.new (w:=wr) #[.string nm,int i64 d,int i64 z] 241 2 _ rfl rfl).at E).c;have af:(0:Int)<=(j:Int):=by omega
   have ag:(j:Int)<(row.length:Int):=by omega
   clear J E e1 e2 e3;rcases (show d=1\/d=2\/d=3\/d=4\/d=5\/d=6 by omega) with rfl|rfl|rfl|rfl|rfl|rfl
   ·by_cases m:x=z
    ·have k:Hid (lY ((p.drop (i+1)).map (trp l)) row=r):=by
      have:=h.out;rw[show dV 1 z x=true by simp[dV];omega,Bool.true_and] at this;exact this.symm
     have y:(x == z)=true:=by first|omega|(simp;omega)
     have g1:(x != z)=false:=by first|omega|(simp;omega)
     clear m h;go_wp2
     go_roundw
     case rel=>exact⟨i+1,by go_num,F,k,g⟩
     case measure=>simp[intOf];omega
    ·obtain rfl:false=r:=by
      have:=h.out;rw[show dV 1 z x=false by simp[dV];omega,Bool.false_and] at this;exact this.symm
     have y:(x == z)=false:=by first|omega|(simp;omega)
     have g1:(x != z)=true:=by first|omega|(simp;omega)
     clear m h;go_wp2;go_ret;exact⟨rfl,g⟩
   ·by_cases m:x<z
    ·have k:Hid (lY ((p.drop (i+1)).map (trp l)) row=r):=by
      have:=h.out;rw[show dV 2 z x=true by simp[dV];omega,Bool.true_and] at this;exact this.symm
     have y:¬ z<=x:=by first|omega|(simp;omega)
     clear m h;go_wp2
     go_roundw
     case rel=>exact⟨i+1,by go_num,F,k,g⟩
     case measure=>simp[intOf];omega
    ·obtain rfl:false=r:=by
      have:=h.out;rw[show dV 2 z x=false by simp[dV];omega,Bool.false_and] at this;exact this.symm
     have y:z<=x:=by first|omega|(simp;omega)
     clear m h;go_wp2;go_ret;exact⟨rfl,g⟩
   ·by_cases m:x<=z
    ·have k:Hid (lY ((p.drop (i+1)).map (trp l)) row=r):=by
      have:=h.out;rw[show dV 3 z x=true by simp[dV];omega,Bool.true_and] at this;exact this.symm
     have y:¬ z<x:=by first|omega|(simp;omega)
     clear m h;go_wp2
     go_roundw
     case rel=>exact⟨i+1,by go_num,F,k,g⟩
     case measure=>simp[intOf];omega
    ·obtain rfl:false=r:=by
      have:=h.out;rw[show dV 3 z x=false by simp[dV];omega,Bool.false_and] at this;exact this.symm
     have y:z<x:=by first|omega|(simp;omega)
     clear m h;go_wp2;go_ret;exact⟨rfl,g⟩
   ·by_cases m:z<x
    ·have k:Hid (lY ((p.drop (i+1)).map (trp l)) row=r):=by
      have:=h.out;rw[show dV 4 z x=true by simp[dV];omega,Bool.true_and] at this;exact this.symm
     have y:¬ x<=z:=by first|omega|(simp;omega)
     clear m h;go_wp2
     go_roundw
     case rel=>exact⟨i+1,by go_num,F,k,g⟩
     case measure=>simp[intOf];omega
    ·obtain rfl:false=r:=by
      have:=h.out;rw[show dV 4 z x=false by simp[dV];omega,Bool.false_and] at this;exact this.symm
     have y:x<=z:=by first|omega|(simp;omega)
     clear m h;go_wp2;go_ret;exact⟨rfl,g⟩
   ·by_cases m:z<=x
    ·have k:Hid (lY ((p.drop (i+1)).map (trp l)) row=r):=by
      have:=h.out;rw[show dV 5 z x=true by simp[dV];omega,Bool.true_and] at this;exact this.symm
     have y:¬ x<z:=by first|omega|(simp;omega)
     clear m h;go_wp2
     go_roundw
     case rel=>exact⟨i+1,by go_num,F,k,g⟩
     case measure=>simp[intOf];omega
    ·obtain rfl:false=r:=by
      have:=h.out;rw[show dV 5 z x=false by simp[dV];omega,Bool.false_and] at this;exact this.symm
     have y:x<z:=by first|omega|(simp;omega)
     clear m h;go_wp2;go_ret;exact⟨rfl,g⟩
   ·by_cases m:¬ x=z
    ·have k:Hid (lY ((p.drop (i+1)).map (trp l)) row=r):=by
      have:=h.out;rw[show dV 6 z x=true by simp[dV];omega,Bool.true_and] at this;exact this.symm
     have y:(x == z)=false:=by first|omega|(simp;omega)
     clear m h;go_wp2
     go_roundw
     case rel=>exact⟨i+1,by go_num,F,k,g⟩
     case measure=>simp[intOf];omega
    ·obtain rfl:false=r:=by
      have:=h.out;rw[show dV 6 z x=false by simp[dV];omega,Bool.false_and] at this;exact this.symm
     have y:(x == z)=true:=by first|omega|(simp;omega)
     clear m h;go_wp2;go_ret;exact⟨rfl,g⟩
  ·obtain rfl:true=r:=by have:=U.out;rw[nG (by omega)] at this;exact this
   go_wp2;go_ret;exact⟨rfl,A⟩
def kU (w:World) (xs:List Int) (e:Ending) (w':World):Prop:=∃ a c,e=.returned (.slice a xs.length c)/\yQ w' w'.heap.size w'.heap.size (.slice a xs.length c) xs/\xQ w w'
structure Rb (W:World) (N:Nat) (cv rv:Value) (k:Int) (c:ByteArray) (lo hi:Int) (wv kv:Value):Prop where
 t0:Cl W N 0 cv
 t1:Cl W N 1 rv
 a0:Cl W (N+1) 0 (int i64 k)
 a1:Cl W (N+1) 1 (.string c)
 a2:Cl W (N+1) 2 (int i64 lo)
 a3:Cl W (N+1) 3 (int i64 hi)
 a4:Cl W (N+1) 4 wv
 a5:Cl W (N+1) 5 kv
theorem Rb.at {rv:Value}{lo hi:Int}(h:Rb W N cv rv k c lo hi wv kv)(a:xQ W W'):Rb W' N cv rv k c lo hi wv kv :=
 ⟨h.t0.at a,h.t1.at a,h.a0.at a,h.a1.at a,h.a2.at a,h.a3.at a,h.a4.at a,h.a5.at a⟩
theorem Rb.new (w:World)(cv rv:Value)(k:Int)(c:ByteArray)(lo hi:Int)(wv kv:Value):Rb ((w.alloc (.cells #[cv,rv] 25)).alloc (.cells #[int i64 k,.string c,int i64 lo,int i64 hi,wv,kv] 53)) w.heap.size cv rv k c lo hi wv kv:=by
 constructor
 all_goals first
  | exact(Cl.new _ 25 _ _ rfl rfl).at (ba _ _)
  | exact Cl.new _ 53 _ _ (by simp) rfl
theorem eK (w:World)(a g:Obj):xQ w ((w.alloc a).alloc g):=bal (ba _ _) _
theorem ewJ (c:ByteArray)(lo hi:Int)(cv rv wv kv:Value)(w:World)(B:Nat)(l:List aQ)(ts:List Rw)(j:List cX)(hB:B<=w.heap.size)(Z:kQ w B cv l)(hr:nQ w B rv ts)(hw:qZ w B wv j)(ax:ts.length<=4096)(T:∀ r∈rr ts,zV l r)(ak:∃ a n cc,kv=.slice a n cc)(U:pJ l j=0) :
  Calls prog 117 #[.agg #[cv,rv],.agg #[int i64 1,.string c,int i64 lo,int i64 hi,wv,kv]] w (kU w (gat 1 (j.map (trp l)) (stp 1 0 0 0) (rr ts))):=by
 have ab:=Rb.new w cv rv 1 c lo hi wv kv;have y:=eK w (.cells #[cv,rv] 25) (.cells #[int i64 1,.string c,int i64 lo,int i64 hi,wv,kv] 53);obtain⟨Y,O⟩:∃ Y,((w.alloc (.cells #[cv,rv] 25)).alloc (.cells #[int i64 1,.string c,int i64 lo,int i64 hi,wv,kv] 53))=Y:=⟨_,rfl⟩;rw[O] at ab y;have b6:=qQ O;have a8:=qQ ab;have HP:=qQ Z;have HQ:=qQ hr;have HW:=qQ hw;have ac:=qQ U;have M:=qQ T;obtain⟨fi,R⟩:∃ fi,eF l c=fi:=⟨_,rfl⟩;have k1:=uI 1 Y 0 rfl;have V:=iL B cv l c Y (bQ hB y.size) (Z.at hB y) fi R;obtain⟨ca,b8,rfl,_⟩:=Z.slice;obtain⟨ra,rc,rfl,_⟩:=hr.slice;obtain⟨wa,wc,rfl,_⟩:=hw.slice;obtain⟨ka,kn,bi,rfl⟩:=ak;have I:=ab.a0.c;have X:=ab.t0.c;have m2:=ab.a1.c;have hm:∀ u:World,(Instr.makeSlice 35 (int i64 1) (int i64 1)).run prog u=.ok (.slice (some ⟨u.heap.size,0,none⟩) 1 1) (u.alloc (.cells (madeCells #[int i64 0] 1) 3)):=fun u=>zM 1 (by decide) u;clear Z hr hw T U ab R;go_enter func117,ntmps117;go_wp2_with fail;refine k1.mono ?_;rintro e w0 ⟨rfl,ao⟩;subst ao;clear k1;go_wp2_with fail;refine V.mono ?_;rintro e A ⟨rfl,P⟩;clear V I X m2;have C:=bt y P;have v:=qQ (a8.out.at P);have am:=qQ C.size
 have J:Hid (gQ (A.alloc (.cells (madeCells #[int i64 0] 1) 3)) w.heap.size A.heap.size 1 (gat 1 (j.map (trp l)) (stp 1 0 0 0) ((rr ts).take 0))):=by
  have:=gQ.made A w.heap.size 1 am.out (by omega);simpa [Hid,gat] using this
 obtain⟨g,hg⟩:∃ g,A.heap.size=g:=⟨_,rfl⟩;have aj:Hid (A.heap.size<=g):=by show _<=_;omega
 rw[hg] at J;have I:=v.out.a0.c;have X:=(v.out.at (ba A (.cells (madeCells #[int i64 0] 1) 3))).t1.c;go_wp2;clear hg
 go_loopw [41] (fun s' wr=>∃ (i:Nat),s' = int i64 (i:Int)/\i<=ts.length/\Hid (gQ wr w.heap.size g 1 (gat 1 (j.map (trp l)) (stp 1 0 0 0) ((rr ts).take i)))/\xQ A wr) (fun s' _=>ts.length - (intOf s').toNat)
 case atStart=>exact⟨0,rfl,dQ _,J,ba _ _⟩
 case round =>
  obtain⟨i,rfl,bf,HA,G⟩:=hrel;clear hm I X;have h:xQ w wr:=bt C G;by_cases h1:i<ts.length
  ·have bh:=h.size
   obtain⟨b,o,sa,sc,row,rfl,bb,S,ah,E⟩:=HQ.out.get hB h h1;have HG:=qQ (oI S);have aa:Hid (zV l row):=M.out _ (qX HG.out);obtain⟨pb,H⟩:∃ pb,lY (j.map (trp l)) row=pb:=⟨_,rfl⟩;have V:=ajX B B _ _ _ l j row wr (by omega) (HP.out.at hB h) (HW.out.at hB h) E ac.out aa.out pb H;have N:=qQ H;have F:=v.out.at G;have I:=F.t0.c;have X:=F.a4.c;clear S E H F;go_wp2_with fail;refine V.mono ?_;rintro e w5 ⟨rfl,Q⟩;clear V I X;have p:=qQ (HA.out.at Q);have m:xQ A w5:=bt G Q;have L:=v.out.at m;have I:=L.a0.c;clear L;cases pb with
   | false =>
    have k:Hid (gQ w5 w.heap.size g 1 (gat 1 (j.map (trp l)) (stp 1 0 0 0) ((rr ts).take (i+1)))):=by rw[kF HG.out,gst,N.out];exact p.out
    go_wp2
    go_roundw
    case rel=>exact⟨i+1,by go_num,h1,k,m⟩
    case measure=>simp[intOf];omega
   | true =>
    have D:xZ (4096*1) (gat 1 (j.map (trp l)) (stp 1 0 0 0) ((rr ts).take i)):=yK (by decide) (fun r _=>by simp[stp]) (by simp[rr];omega);obtain⟨x,z⟩:=fX (l:=gat 1 (j.map (trp l)) (stp 1 0 0 0) ((rr ts).take i)) (i:=0) (by rw[dA];decide);have aq:-4611686018427387904<=x/\x<=4611686018427387904:=by have:=D.get z;omega
    have k:Hid (gQ (w5.setCell ⟨g,0,none⟩ (int i64 (x+1))) w.heap.size g 1 (gat 1 (j.map (trp l)) (stp 1 0 0 0) ((rr ts).take (i+1)))):=by
     have he:gat 1 (j.map (trp l)) (stp 1 0 0 0) ((rr ts).take (i+1))=(gat 1 (j.map (trp l)) (stp 1 0 0 0) ((rr ts).take i)).set 0 (x+1):=by
      rw[kF HG.out,gst,N.out]
      show mG _ _=_
      unfold mG;rw[show stp 1 0 0 0 row=(0,1) by simp[stp]];have ai:(gat 1 (j.map (trp l)) (stp 1 0 0 0) ((rr ts).take i)).getD 0 0=x:=by rw[List.getD,z];rfl
      dsimp only;rw[ai]
     rw[he];exact p.out.set 0 _
    have ag:xQ A (w5.setCell ⟨g,0,none⟩ (int i64 (x+1))):=m.setCell (by simpa using aj.out) _;have q0:=p.out.cell z;have q1:=p.out.fz 0;obtain⟨x1,x2⟩:=aq;clear z D;go_wp2
    go_roundw
    case rel=>exact⟨i+1,by go_num,h1,k,ag⟩
    case measure=>simp[intOf];omega
  ·have k:Hid (gQ wr w.heap.size g 1 (gat 1 (j.map (trp l)) (stp 1 0 0 0) (rr ts))):=by have:=HA.out;rwa [gJ (by rw[sA];omega)] at this
   go_wp2;go_ret;refine⟨some ⟨g,0,none⟩,1,by rw[dA];rfl,?_,h⟩;exact k.out.ints _ (Nat.ne_of_lt k.out.lt.2)
theorem exQ (c:ByteArray)(lo hi:Int)(cv rv wv kv:Value)(w:World)(B:Nat)(l:List aQ)(ts:List Rw)(k:List cX)(hB:B<=w.heap.size)(hp:kQ w B cv l)(hr:nQ w B rv ts)(hw:qZ w B wv k)(bc:ts.length<=4096)(a7:∀ r∈rr ts,zV l r)(au:∃ a n cc,kv=.slice a n cc)(a8:pJ l k=0)(h:Nat)(hf:fnd l c=some h)(H:wZ lo hi=true) :
  Calls prog 117 #[.agg #[cv,rv],.agg #[int i64 2,.string c,int i64 lo,int i64 hi,wv,kv]] w (kU w (gat 1 (k.map (trp l)) (stp 2 h lo hi) (rr ts))):=by
 have ab:=Rb.new w cv rv 2 c lo hi wv kv;have F:=eK w (.cells #[cv,rv] 25) (.cells #[int i64 2,.string c,int i64 lo,int i64 hi,wv,kv] 53);obtain⟨W0,Y⟩:∃ W0,((w.alloc (.cells #[cv,rv] 25)).alloc (.cells #[int i64 2,.string c,int i64 lo,int i64 hi,wv,kv] 53))=W0:=⟨_,rfl⟩;rw[Y] at ab F;have bn:=qQ Y;have ai:=qQ ab;have HP:=qQ hp;have HQ:=qQ hr;have HW:=qQ hw;have al:=qQ a8;have V:=qQ a7;have bq:=iD hf;have bf:=aF H;have k1:=uI 2 W0 0 rfl;have k2:=iL B cv l c W0 (bQ hB F.size) (hp.at hB F) (h:Int) (zI hf);obtain⟨ca,bp,rfl,_⟩:=hp.slice;obtain⟨ra,rc,rfl,_⟩:=hr.slice;obtain⟨wa,wc,rfl,_⟩:=hw.slice;obtain⟨ka,kn,cb,rfl⟩:=au;have T:=ab.a0.c;have m1:=ab.t0.c;have m2:=ab.a1.c;have hm:∀ u:World,(Instr.makeSlice 35 (int i64 1) (int i64 1)).run prog u=.ok (.slice (some ⟨u.heap.size,0,none⟩) 1 1) (u.alloc (.cells (madeCells #[int i64 0] 1) 3)):=fun u=>zM 1 (by decide) u;clear hp hr hw a7 a8 ab hf;go_enter func117,ntmps117;go_wp2_with fail;refine k1.mono ?_;rintro e w0 ⟨rfl,az⟩;subst az;clear k1;go_wp2_with fail;refine k2.mono ?_;rintro e J ⟨rfl,Z⟩;clear k2 T m1 m2;have L:=bt F Z;have C:=qQ (ai.out.at Z);have ax:=qQ L.size
 have U:Hid (gQ (J.alloc (.cells (madeCells #[int i64 0] 1) 3)) w.heap.size J.heap.size 1 (gat 1 (k.map (trp l)) (stp 2 h lo hi) ((rr ts).take 0))):=by
  have:=gQ.made J w.heap.size 1 ax.out (by omega);simpa [Hid,gat] using this
 obtain⟨g,hg⟩:∃ g,J.heap.size=g:=⟨_,rfl⟩;have aq:Hid (J.heap.size<=g):=by show _<=_;omega
 rw[hg] at U;have T:=C.out.a0.c;have m1:=(C.out.at (ba J (.cells (madeCells #[int i64 0] 1) 3))).t1.c;go_wp2;clear hg
 go_loopw [41] (fun s' wr=>∃ (i:Nat),s' = int i64 (i:Int)/\i<=ts.length/\Hid (gQ wr w.heap.size g 1 (gat 1 (k.map (trp l)) (stp 2 h lo hi) ((rr ts).take i)))/\xQ J wr) (fun s' _=>ts.length - (intOf s').toNat)
 case atStart=>exact⟨0,rfl,dQ _,U,ba _ _⟩
 case round =>
  obtain⟨i,rfl,R,HA,Q⟩:=hrel;clear hm T m1;have j:xQ w wr:=bt L Q;by_cases h1:i<ts.length
  ·have c8:=j.size
   obtain⟨b,o,sa,sc,row,rfl,br,a6,an,D⟩:=HQ.out.get hB j h1;have HG:=qQ (oI a6);have ak:=qQ D;have O:Hid (zV l row):=V.out _ (qX HG.out);obtain⟨pb,S⟩:∃ pb,lY (k.map (trp l)) row=pb:=⟨_,rfl⟩;have k2:=ajX B B _ _ _ l k row wr (by omega) (HP.out.at hB j) (HW.out.at hB j) D al.out O.out pb S;have X:=qQ S;have N:=C.out.at Q;have T:=N.t0.c;have m1:=N.a4.c;clear a6 D S N;go_wp2_with fail;refine k2.mono ?_;rintro e w5 ⟨rfl,P⟩;clear k2 T m1;have E:=qQ (HA.out.at P);have m:xQ J w5:=bt Q P;have A:=C.out.at m;have T:=A.a0.c;clear A;cases pb with
   | false =>
    have p:Hid (gQ w5 w.heap.size g 1 (gat 1 (k.map (trp l)) (stp 2 h lo hi) ((rr ts).take (i+1)))):=by rw[kF HG.out,gst,X.out];exact E.out
    go_wp2
    go_roundw
    case rel=>exact⟨i+1,by go_num,h1,p,m⟩
    case measure=>simp[intOf];omega
   | true =>
    have M:xZ (4096*1048576) (gat 1 (k.map (trp l)) (stp 2 h lo hi) ((rr ts).take i)):=yK (by decide) (fun r _=>by have h1:=dO (v:=r.getD h 0) H;have h2:=aF H;rw[show(stp 2 h lo hi r).2=aJ lo hi (r.getD h 0) by simp[stp]];omega) (by simp[rr];omega);obtain⟨x,I⟩:=fX (l:=gat 1 (k.map (trp l)) (stp 2 h lo hi) ((rr ts).take i)) (i:=0) (by rw[dA];decide);have b5:-4611686018427387904<=x/\x<=4611686018427387904:=by have:=M.get I;omega
    obtain⟨b2,o2,y,rfl,_,_,_,_,G,bv⟩:=(ak.out.at (by omega) P).got (i:=h) (by have:=O.out.len;omega);have c7:h < row.length:=by have:=O.out.len;omega
    have R:=dO (v:=y) H;have kt:=b0J lo hi y w5.drew;obtain⟨z,hz⟩:∃ z,aJ lo hi y=z:=⟨_,rfl⟩
    have p:Hid (gQ (w5.setCell ⟨g,0,none⟩ (int i64 (x+z))).drew w.heap.size g 1 (gat 1 (k.map (trp l)) (stp 2 h lo hi) ((rr ts).take (i+1)))):=by
     have he:gat 1 (k.map (trp l)) (stp 2 h lo hi) ((rr ts).take (i+1))=(gat 1 (k.map (trp l)) (stp 2 h lo hi) ((rr ts).take i)).set 0 (x+z):=by
      rw[kF HG.out,gst,X.out]
      show mG _ _=_
      unfold mG;rw[show stp 2 h lo hi row=(0,z) by simp only[stp];rw[G,hz];simp];have G:(gat 1 (k.map (trp l)) (stp 2 h lo hi) ((rr ts).take i)).getD 0 0=x:=by rw[List.getD,I];rfl
      dsimp only;rw[G]
     rw[he];exact(E.out.set 0 _).at (uQ _ _).drew
    have am:xQ J (w5.setCell ⟨g,0,none⟩ (int i64 (x+z))).drew:=(m.setCell (by simpa using aq.out) _).drew;rw[hz] at kt R;have q0:=E.out.cell I;have q1:=E.out.fz 0;obtain⟨x1,x2⟩:=b5;obtain⟨y1,y2⟩:=R;have c9:IntKind.i64.wrap (x+z)=x+z:=by rw[lJ];have:=lA (a:=x+z) (by omega);unfold wrap64 at this;omega
    have bx:(0:Int)<=(h:Int):=by omega
    have bz:(h:Int)<(row.length:Int):=by omega
    have A:=C.out.at m;have m2:=A.a2.c;have m3:=A.a3.c;clear I M G hz A;go_wp2
    go_region_law (first|(go_simp;go_at_call 167;refine kt.mono ?_;rintro x3 w3 ⟨rfl,b3⟩;subst b3;go_wp2_with fail))
    all_goals
     go_wp2
     go_roundw
     case rel=>exact⟨i+1,by go_num,h1,p,am⟩
     case measure=>simp[intOf];omega
  ·have p:Hid (gQ wr w.heap.size g 1 (gat 1 (k.map (trp l)) (stp 2 h lo hi) (rr ts))):=by have:=HA.out;rwa [gJ (by rw[sA];omega)] at this
   go_wp2;go_ret;refine⟨some ⟨g,0,none⟩,1,by rw[dA];rfl,?_,j⟩;exact p.out.ints _ (Nat.ne_of_lt p.out.lt.2)
theorem exX (c:ByteArray)(lo hi:Int)(cv rv wv kv:Value)(w:World)(B:Nat)(l:List aQ)(ts:List Rw)(p:List cX)(hB:B<=w.heap.size)(hp:kQ w B cv l)(hr:nQ w B rv ts)(hw:qZ w B wv p)(bj:ts.length<=4096)(a9:∀ r∈rr ts,zV l r)(b3:∃ a n cc,kv=.slice a n cc)(aa:pJ l p=0)(h:Nat)(hf:fnd l c=some h)(n:Nat)(hn:n<=4096)(a8:pV l h = (n:Int)) :
  Calls prog 117 #[.agg #[cv,rv],.agg #[int i64 3,.string c,int i64 lo,int i64 hi,wv,kv]] w (kU w (gat n (p.map (trp l)) (stp 3 h 0 0) (rr ts))):=by
 have ab:=Rb.new w cv rv 3 c lo hi wv kv;have G:=eK w (.cells #[cv,rv] 25) (.cells #[int i64 3,.string c,int i64 lo,int i64 hi,wv,kv] 53);obtain⟨W0,Y⟩:∃ W0,((w.alloc (.cells #[cv,rv] 25)).alloc (.cells #[int i64 3,.string c,int i64 lo,int i64 hi,wv,kv] 53))=W0:=⟨_,rfl⟩;rw[Y] at ab G;have bp:=qQ Y;have aj:=qQ ab;have HP:=qQ hp;have HQ:=qQ hr;have HW:=qQ hw;have an:=qQ aa;have V:=qQ a9;have aw:=iD hf;have U:=qQ a8;have k1:=uI 3 W0 0 rfl;have k2:=iL B cv l c W0 (bQ hB G.size) (hp.at hB G) (h:Int) (zI hf);obtain⟨ca,bq,rfl,_⟩:=hp.slice;obtain⟨ra,rc,rfl,_⟩:=hr.slice;obtain⟨wa,wc,rfl,_⟩:=hw.slice;obtain⟨ka,kn,ci,rfl⟩:=b3;have R:=ab.a0.c;have m1:=ab.t0.c;have m2:=ab.a1.c;have hm:∀ u:World,(Instr.makeSlice 35 (int i64 (n:Int)) (int i64 (n:Int))).run prog u=.ok (.slice (some ⟨u.heap.size,0,none⟩) n n) (u.alloc (.cells (madeCells #[int i64 0] n) 3)):=fun u=>zM n (by omega) u;clear hp hr hw a9 aa ab hf a8;go_enter func117,ntmps117;go_wp2_with fail;refine k1.mono ?_;rintro e w0 ⟨rfl,bb⟩;subst bb;clear k1;go_wp2_with fail;refine k2.mono ?_;rintro e I ⟨rfl,Z⟩;clear k2 R m1 m2;have A:=bt G Z;have v:=qQ (aj.out.at Z);obtain⟨bC,oC,nm,sz,rfl,bv,O,ao,aq,cb⟩:=HP.out.get hB A aw;obtain rfl:sz=(n:Int):=by have:=U.out;simpa [pV,O] using this
 have ak:=qQ O;clear O U;have c6:(0:Int)<=(h:Int):=by omega
 have c7:(h:Int)<(l.length:Int):=by omega
 have b6:=qQ A.size
 have S:Hid (gQ (I.alloc (.cells (madeCells #[int i64 0] n) 3)) w.heap.size I.heap.size n (gat n (p.map (trp l)) (stp 3 h 0 0) ((rr ts).take 0))):=by
  have:=gQ.made I w.heap.size n b6.out (by omega);simpa [Hid,gat] using this
 obtain⟨g,hg⟩:∃ g,I.heap.size=g:=⟨_,rfl⟩;have az:Hid (I.heap.size<=g):=by show _<=_;omega
 rw[hg] at S;have R:=v.out.a0.c;have m2:=v.out.t0.c;have m1:=(v.out.at (ba I (.cells (madeCells #[int i64 0] n) 3))).t1.c;go_wp2;clear hg
 go_loopw [41] (fun s' wr=>∃ (i:Nat),s' = int i64 (i:Int)/\i<=ts.length/\Hid (gQ wr w.heap.size g n (gat n (p.map (trp l)) (stp 3 h 0 0) ((rr ts).take i)))/\xQ I wr) (fun s' _=>ts.length - (intOf s').toNat)
 case atStart=>exact⟨0,rfl,dQ _,S,ba _ _⟩
 case round =>
  obtain⟨i,rfl,bz,HA,N⟩:=hrel;clear hm R m1 m2 ao aq;have k:xQ w wr:=bt A N;by_cases h1:i<ts.length
  ·have ce:=k.size
   obtain⟨b,o,sa,sc,row,rfl,br,a7,ax,D⟩:=HQ.out.get hB k h1;have HG:=qQ (oI a7);have am:=qQ D;have F:Hid (zV l row):=V.out _ (qX HG.out);obtain⟨pb,P⟩:∃ pb,lY (p.map (trp l)) row=pb:=⟨_,rfl⟩;have k2:=ajX B B _ _ _ l p row wr (by omega) (HP.out.at hB k) (HW.out.at hB k) D an.out F.out pb P;have X:=qQ P;have L:=v.out.at N;have R:=L.t0.c;have m1:=L.a4.c;clear a7 D P L;go_wp2_with fail;refine k2.mono ?_;rintro e w5 ⟨rfl,M⟩;clear k2 R m1;have E:=qQ (HA.out.at M);have z:xQ I w5:=bt N M;have T:=v.out.at z;have R:=T.a0.c;clear T;cases pb with
   | false =>
    have m:Hid (gQ w5 w.heap.size g n (gat n (p.map (trp l)) (stp 3 h 0 0) ((rr ts).take (i+1)))):=by rw[kF HG.out,gst,X.out];exact E.out
    go_wp2
    go_roundw
    case rel=>exact⟨i+1,by go_num,h1,m,z⟩
    case measure=>simp[intOf];omega
   | true =>
    have J:xZ (4096*1) (gat n (p.map (trp l)) (stp 3 h 0 0) ((rr ts).take i)):=yK (by decide) (fun r _=>by simp[stp]) (by simp[rr];omega);have Q:=bqJ F.out ak.out;obtain⟨b2,o2,y,rfl,_,_,_,_,C,bw⟩:=(am.out.at (by omega) M).got (i:=h) (by have:=F.out.len;omega);have cd:h < row.length:=by have:=F.out.len;omega
    rw[C] at Q;simp only at Q;obtain⟨j,rfl⟩:∃ j:Nat,y=(j:Int):=⟨y.toNat,by omega⟩;have c8:j<n:=by omega
    obtain⟨x,H⟩:=fX (l:=gat n (p.map (trp l)) (stp 3 h 0 0) ((rr ts).take i)) (i:=j) (by rw[dA];omega);have bc:-4611686018427387904<=x/\x<=4611686018427387904:=by have:=J.get H;omega
    have m:Hid (gQ (w5.setCell ⟨g,j,none⟩ (int i64 (x+1))) w.heap.size g n (gat n (p.map (trp l)) (stp 3 h 0 0) ((rr ts).take (i+1)))):=by
     have he:gat n (p.map (trp l)) (stp 3 h 0 0) ((rr ts).take (i+1))=(gat n (p.map (trp l)) (stp 3 h 0 0) ((rr ts).take i)).set j (x+1):=by
      rw[kF HG.out,gst,X.out]
      show mG _ _=_
      unfold mG;rw[show stp 3 h 0 0 row=(j,1) by simp only[stp];rw[C];simp];have C:(gat n (p.map (trp l)) (stp 3 h 0 0) ((rr ts).take i)).getD j 0=x:=by rw[List.getD,H];rfl
      dsimp only;rw[C]
     rw[he];exact E.out.set _ _
    have a6:xQ I (w5.setCell ⟨g,j,none⟩ (int i64 (x+1))):=z.setCell (by simpa using az.out) _;have q0:=E.out.cell H;have q1:=E.out.fz j;obtain⟨x1,x2⟩:=bc;have cf:(h:Int)<(row.length:Int):=by omega
    have cg:(0:Int)<=(j:Int):=by omega
    have ch:(j:Int)<(n:Int):=by omega
    clear H J C Q;go_wp2
    go_region_law (fail)
    all_goals
     go_wp2
     go_roundw
     case rel=>exact⟨i+1,by go_num,h1,by first|exact m|exact m.out.at (uQ _ _).drew,by first|exact a6|exact a6.drew⟩
     case measure=>simp[intOf];omega
  ·have m:Hid (gQ wr w.heap.size g n (gat n (p.map (trp l)) (stp 3 h 0 0) (rr ts))):=by have:=HA.out;rwa [gJ (by rw[sA];omega)] at this
   go_wp2;go_ret;refine⟨some ⟨g,0,none⟩,n,by rw[dA];rfl,?_,k⟩;exact m.out.ints _ (Nat.ne_of_lt m.out.lt.2)
theorem iR {lo:Nat}(h:a.grownBy b row)(i:∀ g,row=some g->lo<=g)(j:O<=lo)(l:O<=a.heap.size):Below O a b :=
 ⟨h.os,h.tape,h.output,h.size,fun k hk=>h.block k (by omega) (fun e=>by have:=i k e.symm;omega)⟩
theorem tB (i:n=xs.length)(g:xs.length<=9223372036854775807)(h:w.ownsRow base 3 1 v n (xs.map (int i64)))(a:0<base):yQ w w.heap.size w.heap.size v xs :=
 (zP i g h a).mono (vQ _) (.inr (vQ _))
theorem ajZ (h:R[i]? = some z):(R.take (i+1)).map (Value.int .i64)=(R.take i).map (Value.int .i64)++[int i64 z]:=by
 rw[rX,h,iA];rfl
theorem lR (w:World)(z:Int)(t:TypeId):∀ j u,[Value.int .i64 z][j]? = some u->(w.alloc (.cells #[int i64 z] t)).cell? ((⟨w.heap.size,0,none⟩:Addr).add j)=some u:=cell_one_new _ _ _
theorem qC (d:Int)(F:Int->Int->Int)(Q:d=4/\F=(fun p q=>p+q)\/d=5/\F=(fun p q=>p - q))(c:ByteArray)(lo hi:Int)(cv rv wv:Value)(b o cap:Nat)(w:World)(B:Nat)(l:List aQ)(ts:List Rw)(wh:List cX)(hB:B<=w.heap.size)(hp:kQ w B cv l)(hr:nQ w B rv ts)(hw:qZ w B wv wh)(J:b<B)(x:Qu)(u0 u1 u2 u3 u4 u5:Value)(hu:rJ w b o u0 u1 u2 u3 u4 u5)(ae:Qm w B x u0 u1 u2 u3 u4 u5)(xs:List Int)(kx:∀ W,xQ w W->Calls prog 117 #[.agg #[cv,rv],.agg #[u0,u1,u2,u3,u4,u5]] W (kU W xs))(y:Qu)(z0 z1 z2 z3 z4 z5:Value)(N:rJ w b (o+6) z0 z1 z2 z3 z4 z5)(af:Qm w B y z0 z1 z2 z3 z4 z5)(P:List Int)(ky:∀ W,xQ w W->Calls prog 117 #[.agg #[cv,rv],.agg #[z0,z1,z2,z3,z4,z5]] W (kU W P))(cx:xZ 1099511627776 xs)(cy:xZ 1099511627776 P)(hl:xs.length=P.length)(f7:xs.length<=4096) :
  Calls prog 117 #[.agg #[cv,rv],.agg #[int i64 d,.string c,int i64 lo,int i64 hi,wv,.slice (some ⟨b,o,none⟩) 2 cap]] w (kU w (List.zipWith F xs P)):=by
 have ab:=Rb.new w cv rv d c lo hi wv (.slice (some ⟨b,o,none⟩) 2 cap);have A:=eK w (.cells #[cv,rv] 25) (.cells #[int i64 d,.string c,int i64 lo,int i64 hi,wv,.slice (some ⟨b,o,none⟩) 2 cap] 53);obtain⟨Y,I⟩:∃ Y,((w.alloc (.cells #[cv,rv] 25)).alloc (.cells #[int i64 d,.string c,int i64 lo,int i64 hi,wv,.slice (some ⟨b,o,none⟩) 2 cap] 53))=Y:=⟨_,rfl⟩;rw[I] at ab A;have et:=qQ I;have cg:=qQ ab;have k1:=uI d Y 2 (by rcases Q with⟨rfl,_⟩|⟨rfl,_⟩ <;> rfl);have k2:=kx Y.drew A.drew;have m:b<Y.heap.size:=lQ J (bQ hB A.size);obtain⟨bi,bj,bk,bm,bn,br⟩:=hu.keep A (lQ J hB);have HZ:=qQ (N.keep A (lQ J hB));obtain⟨ca,a6,rfl,_⟩:=hp.slice;obtain⟨ra,rc,rfl,_⟩:=hr.slice;obtain⟨wa,wc,rfl,_⟩:=hw.slice;obtain⟨dm,di,dp,dl,dg,dr,dj,dh,dq,dt,rfl,rfl,rfl,rfl,rfl,rfl⟩:=ae.shape;obtain⟨e8,e5,e9,e7,e3,eb,e6,e4,ea,ec,rfl,rfl,rfl,rfl,rfl,rfl⟩:=af.shape;have bf:=ab.t0.c;have bg:=ab.t1.c;have bh:=ab.a5.c;have m0:=ab.a0.c;have lN:=ab.t0.lt;have O:=ab.a5.lt;have aa:(0:Int)<=0:=by decide
 have ac:(0:Int)<(2:Int):=by decide
 clear hp hr hw hu ae kx ab N af;obtain⟨R,hR⟩:∃ R,List.zipWith F xs P=R:=⟨_,rfl⟩;rw[hR];have cm:=qQ hR;have D:Hid (R.length=xs.length):=by show _=_;rw[<-hR];first|(simp;done)|(simp;omega)
 clear hR;have V:=qQ hl;clear hl;go_enter func117,ntmps117;rcases Q with⟨rfl,Q⟩|⟨rfl,Q⟩
 all_goals
  have HF:Hid _:=Q;clear Q;go_wp2_with fail;refine k1.mono ?_;rintro e w0 ⟨rfl,d7⟩;subst d7;clear k1 I;go_wp2
  go_region_held3 (fun w'=>w'.cell? ⟨w.heap.size,0,none⟩=some (.slice ca l.length a6)/\w'.cell? ⟨w.heap.size,1,none⟩=some (.slice ra ts.length rc)/\w'.cell? ⟨w.heap.size+1,5,none⟩=some (.slice (some ⟨b,o,none⟩) 2 cap)/\w'.cell? ⟨b,o,none⟩=some (int i64 dm)/\w'.cell? ⟨b,o+1,none⟩=some (.string di)/\w'.cell? ⟨b,o+2,none⟩=some (int i64 dp)/\w'.cell? ⟨b,o+3,none⟩=some (int i64 dl)/\w'.cell? ⟨b,o+4,none⟩=some (.slice dg dr dj)/\w'.cell? ⟨b,o+5,none⟩=some (.slice dh dq dt)) (first|assumption|(simp[go_sem, *];done)) ((go_at_call 117;refine k2.mono ?_;rintro x3 w1 hA;obtain⟨fg,fh,rfl,bc,h⟩:=hA;have ai:=(h.cell (p:=⟨w.heap.size,0,none⟩) lN).trans bf;have aj:=(h.cell (p:=⟨w.heap.size,1,none⟩) lN).trans bg;have ak:=(h.cell (p:=⟨w.heap.size+1,5,none⟩) O).trans bh;have al:=(h.cell (p:=⟨b,o,none⟩) m).trans bi;have am:=(h.cell (p:=⟨b,o+1,none⟩) m).trans bj;have an:=(h.cell (p:=⟨b,o+2,none⟩) m).trans bk;have ao:=(h.cell (p:=⟨b,o+3,none⟩) m).trans bm;have aq:=(h.cell (p:=⟨b,o+4,none⟩) m).trans bn;have au:=(h.cell (p:=⟨b,o+5,none⟩) m).trans br))
  have E:xQ w w1:=bt A.drew h;have v:=qQ ((cg.out.at (uQ _ _).drew).at h);have cn:=qQ bc;have m1:=v.out.a0.c;clear k2 m0 bf bg bh bi bj bk bm bn br ai aj ak al am an ao aq au bc;obtain⟨c6,c7,c8,c9,cb,cc⟩:=(HZ.out.keep (uQ _ _).drew m).keep h m;have bw:=v.out.t0.c;have bx:=v.out.t1.c;have bz:=v.out.a5.c;have k3:=ky w1.drew E.drew;have lN:=v.out.t0.lt;have O:=v.out.a5.lt;have m:b<w1.heap.size:=lQ m h.size;have aa:(0:Int)<=1:=by decide
  have ac:(1:Int)<(2:Int):=by decide
  clear ky h;go_wp2
  go_region_held3 (fun w'=>w'.cell? ⟨w.heap.size,0,none⟩=some (.slice ca l.length a6)/\w'.cell? ⟨w.heap.size,1,none⟩=some (.slice ra ts.length rc)/\w'.cell? ⟨w.heap.size+1,5,none⟩=some (.slice (some ⟨b,o,none⟩) 2 cap)/\w'.cell? ⟨b,o+6,none⟩=some (int i64 e8)/\w'.cell? ⟨b,o+6+1,none⟩=some (.string e5)/\w'.cell? ⟨b,o+6+2,none⟩=some (int i64 e9)/\w'.cell? ⟨b,o+6+3,none⟩=some (int i64 e7)/\w'.cell? ⟨b,o+6+4,none⟩=some (.slice e3 eb e6)/\w'.cell? ⟨b,o+6+5,none⟩=some (.slice e4 ea ec)) (first|assumption|(simp[go_sem, *];done)) ((go_at_call 117;refine k3.mono ?_;rintro x3 H hA;obtain⟨fi,fj,rfl,bv,j⟩:=hA;have aw:=(j.cell (p:=⟨w.heap.size,0,none⟩) lN).trans bw;have ax:=(j.cell (p:=⟨w.heap.size,1,none⟩) lN).trans bx;have ay:=(j.cell (p:=⟨w.heap.size+1,5,none⟩) O).trans bz;have az:=(j.cell (p:=⟨b,o+6,none⟩) m).trans c6;have b3:=(j.cell (p:=⟨b,o+6+1,none⟩) m).trans c7;have b5:=(j.cell (p:=⟨b,o+6+2,none⟩) m).trans c8;have b6:=(j.cell (p:=⟨b,o+6+3,none⟩) m).trans c9;have b8:=(j.cell (p:=⟨b,o+6+4,none⟩) m).trans cb;have bb:=(j.cell (p:=⟨b,o+6+5,none⟩) m).trans cc))
  have a7:xQ w H:=bt E.drew j;have U:=qQ ((v.out.at (uQ _ _).drew).at j);have co:=qQ (((cn.out.at2 (uQ _ _).drew).at2 j).mono (vQ _) (.inr (vQ _)));have cq:=qQ bv;have l0:0<H.heap.size:=Nat.lt_of_le_of_lt (dQ _) U.out.t0.lt;clear k3 m1 bw bx bz c6 c7 c8 c9 cb cc aw ax ay az b3 b5 b6 b8 bb bv;obtain⟨i0,d4,db,dc,dd⟩:=pZ rH;go_wp2
  go_loopw [11,131] (fun ov s' wr=>∃ (i:Nat) (S:Option Addr) (T:Nat),ov=.slice S i T/\s' = int i64 (i:Int)/\i<=xs.length/\Hid (wr.ownsRow H.heap.size 3 1 (.slice S i T) i ((R.take i).map (int i64)))/\xQ H wr) (fun _ s' _=>xs.length - (intOf s').toNat)
  case atStart=>exact⟨0,none,0,rfl,rfl,dQ _,⟨rfl,.inl ⟨rfl,rfl⟩⟩,uQ _ _⟩
  case round =>
   obtain⟨i,S,T,rfl,rfl,ew,X,C⟩:=hrel;have d6:=C.size;by_cases h1:i<xs.length
   ·obtain⟨b1,o1,p,rfl,_,cu,_,L,_,cz⟩:=(co.out.keep C).got h1
    obtain⟨b2,o2,q,rfl,_,cw,_,M,_,d3⟩:=(cq.out.keep C).got (i:=i) (by have:=V.out;omega);have bp:=cx.get L;have bq:=cy.get M;obtain⟨z,N⟩:∃ z,F p q=z:=⟨_,rfl⟩;have ci:Hid (R[i]? = some z):=by rw[<-cm.out,<-N];show(List.zipWith _ xs P)[i]? = _;rw[List.getElem?_zipWith,L,M]
    first
     | have da:IntKind.i64.wrap (p+q)=z:=by rw[<-N,HF.out,lJ];have:=lA (a:=p+q) (by omega);unfold wrap64 at this;omega
     | have da:IntKind.i64.wrap (p - q)=z:=by rw[<-N,HF.out,lJ];have:=lA (a:=p - q) (by omega);unfold wrap64 at this;omega
    have ey:(0:Int)<=(i:Int):=by omega
    have ez:(i:Int)<(xs.length:Int):=by omega
    have f6:(i:Int)<(P.length:Int):=by have:=V.out;omega
    have m3:=(U.out.at C).a0.c;have de:b1<wr.heap.size:=by omega
    have df:b2<wr.heap.size:=by omega
    have a8:wr.drew.cell? ⟨b1,o1+i,none⟩=some (int i64 p):=cz;have a9:wr.drew.cell? ⟨b2,o2+i,none⟩=some (int i64 q):=d3;clear L M N;go_wp2_with fail
    go_region_held3 (fun w'=>w'.cell? ⟨b1,o1+i,none⟩=some (int i64 p)/\w'.cell? ⟨b2,o2+i,none⟩=some (int i64 q)) (first|assumption|(simp[go_sem, *];done)) ((refine cN _ rfl _ _ 35 rfl H.heap.size 3 i0 (int i64 0) 1 8 underlying35 d4 db dc dd rfl (by decide) (.slice S i T) i ((R.take i).map (int i64)) rfl ?_ ⟨wr.heap.size,0,none⟩ 1 1 [int i64 z] rfl rfl ?_ ?_ (by decide) ?_ ?_ ?_ (wr.heap.size+1) ?_ ?_;(exact dG X.out (bal (uQ _ _).drew _));(exact lR _ _ _);(intro u hu;simp at hu;subst hu;rfl);(unfold maxLen;omega);(omega);(simp;omega);(simp);intro g Z w4 G k ct d5;have fa:w4.cell? ⟨b1,o1+i,none⟩=some (int i64 p):=k.cell (((ba _ _).cell (p:=⟨b1,o1+i,none⟩) de).trans a8) (fun e=>absurd (xJ X.out _ e.symm) (Nat.not_le_of_lt cu));have fb:w4.cell? ⟨b2,o2+i,none⟩=some (int i64 q):=k.cell (((ba _ _).cell (p:=⟨b2,o2+i,none⟩) df).trans a9) (fun e=>absurd (xJ X.out _ e.symm) (Nat.not_le_of_lt cw))))
    have ck:Hid (w4.ownsRow H.heap.size 3 1 (.slice (some ⟨g,0,none⟩) (i+1) Z) (i+1) ((R.take (i+1)).map (int i64))):=by
     show World.ownsRow _ _ _ _ _ _ _
     rw[ajZ ci.out];exact G
    have ch:xQ H w4:=C.trans (((bal (uQ _ _).drew _).mono d6).trans (iR k (xJ X.out) (vQ _) (by simp;omega)));clear G k ct d5;go_wp2
    go_roundw
    case rel=>exact⟨i+1,_,_,rfl,by go_num,h1,ck,ch⟩
    case measure=>simp[intOf];omega
   ·obtain rfl:i=xs.length:=by omega
    have cj:Hid (wr.ownsRow H.heap.size 3 1 (.slice S R.length T) R.length (R.map (int i64))):=by
     have:=X.out;rw[gJ (by have:=D.out;omega)] at this
     show World.ownsRow _ _ _ _ _ _ _
     rw[D.out];exact this
    go_wp2;go_ret;exact⟨S,T,by rw[D.out];rfl,tB rfl (by have:=D.out;omega) cj.out l0,bt a7 C⟩
theorem exZ:type_of% (qC 4 _ (.inl ⟨rfl,rfl⟩)):=qC 4 _ (.inl ⟨rfl,rfl⟩)
theorem exJ:type_of% (qC 5 _ (.inr ⟨rfl,rfl⟩)):=qC 5 _ (.inr ⟨rfl,rfl⟩)
