import Derived.Test.YtcaplmodgbpchaaGreatDoorQq13
import Derived.Maps.Own
import Derived.Maps.OwnOps
import Derived.Maps.OwnSet
import Derived.Maps.Views
open Go.Proofs.Tryz
open Go.Value(int)
open Go.IntKind(i64)
set_option linter.unusedSimpArgs false
set_option maxHeartbeats 16000000
set_option maxRecDepth 100000
namespace Go.Proofs.YtcaplmodgbpchaaGreatDoor
variable {W w w' wr:World} {d e er l p u:Int} {B b c g h h' i lo' m m0 n nb:Nat} {s v x:Value} {row:Option Nat} {ns xs:List Int} {a:Option Addr}
section
open Go.RowKit Ds
theorem dwX (B nb:Nat)(v:Value)(xs:List Int)(w:World)(hB:B<=w.heap.size)(hp:yQ w B nb v xs)(l:List Pt)(er:Int)(hr:iV [(xs,1)]=(l,er)) :
  Calls prog 153 #[v] w fun e w'=>∃ v' us,e=.returned (.tuple #[v',.int .i64 er])/\rd us=l/\uV w' w.heap.size v' us/\Below w.heap.size w w'/\dZ w.heap.size us:=by
 have kc:=n8 (w.heap.size+1) _ _ _ (by simp) (bhX w B nb v xs 1 hB hp) l er hr;obtain⟨a,c,rfl,hc,hl,_⟩:=hp;clear hr;go_enter func153,ntmps153;go_wp2_with fail;refine kc.mono ?_;rintro e w1 ⟨v1,us,rfl,hrd,ho,hb1,hfr⟩;have HO:Hid (uV w1 w.heap.size v1 us):=ho.mono (by simp);have HF:Hid (dZ w.heap.size us):=hfr.mono (by simp);have HD:Hid (rd us=l):=hrd;obtain⟨a1,c1,rfl⟩:=ho.slice;clear ho hrd kc hfr;go_wp2;exact eQ (v:=.tuple #[.slice a1 us.length c1,.int .i64 er]) (by simp[results,results153,go_sem]) rfl ⟨_,us,rfl,HD.out,HO.out,bt (ba _ _) hb1,HF.out⟩
def cH (w:World) (l:List Pt) (er:Int) (e:Ending) (w':World):Prop :=
 ∃ v' us,e=.returned (.tuple #[v',int i64 er])/\rd us=l/\uV w' w.heap.size v' us/\xQ w w'/\dZ w.heap.size us
theorem cH.err (a:xQ w w'):cH w [] er (.returned (.tuple #[.slice none 0 0,int i64 er])) w' :=
 ⟨_,[],rfl,rfl,.inl ⟨rfl,rfl⟩,a,dZ.nil _⟩
theorem dwZ (u d lo hi n:Int)(l:List Pt)(er:Int)(h:jJ u d lo hi n=(l,er))(w:World) :
  Calls prog 93 #[rv u d,int i64 lo,int i64 hi,int i64 n] w (cH w l er):=by
 obtain⟨e0,i⟩:∃ e0,kG u d=e0:=⟨_,rfl⟩;have B:=boX u d e0 i;rw[jJ,i] at h;by_cases c:e0=0
 ·subst c
  obtain⟨y,O,N,P⟩:=bnX i;rw[zQ (by simp)] at h;by_cases G:-1073741824<=lo/\lo<=hi/\hi<=1073741824/\hi - lo<=64
  ·obtain⟨b1,b2,b3,b4⟩:=G
   rw[zQ (by simp;omega)] at h;by_cases ce:lo=hi
   ·subst ce
    rw[jQ rfl] at h;have ks:=fun W:World=>dwX (W.heap.size+1) (W.heap.size+1) _ [lo] (W.alloc (.cells #[int i64 lo] 3)) (by simp) (vB W lo (W.heap.size+1) (by omega)) l er h;clear i y h;go_enter func93,ntmps93;go_wp2_with fail;refine(B _).mono ?_;rintro e z ⟨rfl,a⟩;have k:=bt (ba _ _) a;obtain⟨g,j⟩:=bcell a;go_wp2_with fail;refine(ks _).mono ?_;rintro e J ⟨v2,F,rfl,Q,E,I,S⟩;obtain⟨a2,c2,rfl⟩:=E.slice;have p:w.heap.size<=z.heap.size+1:=by have:=k.size;omega
    have V:Hid (cH w l er (.returned (.tuple #[.slice a2 F.length c2,int i64 er])) J):=⟨_,F,rfl,Q,E.mono (by simpa using p),bt k (bt (ba _ _) I),S.mono (by simpa using p)⟩;clear Q E I S ks;go_wp2;exact eQ (v:=.tuple #[.slice a2 F.length c2,int i64 er]) (by simp[results,results93,go_sem]) rfl V.out
   ·rw[zQ ce] at h
    obtain⟨R,hR⟩:∃ R:Nat,hi - lo=(R:Int):=⟨(hi - lo).toNat,by omega⟩;obtain rfl:hi=lo+(R:Int):=by omega
    obtain⟨A,T⟩:∃ A:Nat,zU lo (lo+(R:Int)) n=lo+(A:Int):=⟨(zU lo (lo+(R:Int)) n - lo).toNat,by unfold zU;omega⟩
    have X:A<=R:=by
     have:zU lo (lo+(R:Int)) n<=lo+(R:Int):=by unfold zU;omega
     omega
    rw[T,show(lo+(R:Int) - lo).toNat=R by omega,show(lo+(A:Int) - lo).toNat=A by omega] at h;have M:1<=R:=by omega
    have HA:=qQ T
    have ki:∀ W,Calls prog 92 #[int i64 n,int i64 lo,int i64 (lo+(R:Int))] W fun e w'=>e=.returned (int i64 (lo+(A:Int)))/\w' = W:=fun W=>by
     have:=xR n lo (lo+(R:Int)) W;rw[HA.out] at this;exact this
    have km:∀ (m:Int) (W:World) (b:Bool),m=(R:Int)->decide (1073741824<(u+d)*u ^ R)=b->Calls prog 154 #[rv u d,int i64 m] W fun e w'=>e=.returned (.bool b)/\xQ W w':=fun m W b hm hb=>by subst hm;exact dvX u d R (by omega) N P O b M hb W
    have ah:(lo == lo+(R:Int))=false:=by simp;omega
    by_cases H:1073741824<(u+d)*u ^ R
    ·rw[jQ H] at h
     simp only[cQ] at h;obtain⟨rfl,rfl⟩:=h;have U:=qQ (sJ H);clear H i y T hR;go_enter func93,ntmps93;go_wp2_with fail;refine(B _).mono ?_;rintro e z ⟨rfl,a⟩;have k:=bt (ba _ _) a;obtain⟨g,j⟩:=bcell a;go_wp2_with fail;refine(km _ _ true (by omega) U.out).mono ?_;rintro e J ⟨rfl,o⟩;have L:=bt k o;go_wp2;exact eQ (v:=.tuple #[.slice none 0 0,int i64 4]) (by simp[results,results93,go_sem]) rfl (cH.err L)
    ·rw[zQ H] at h
     have U:=qQ (lZ H);have kh:=dwQ u d lo R A M (by omega) X N O P (by omega) b1 b3 l er h;clear H i y T hR h;go_enter func93,ntmps93;go_wp2_with fail;refine(B _).mono ?_;rintro e z ⟨rfl,a⟩;have k:=bt (ba _ _) a;obtain⟨g,j⟩:=bcell a;go_wp2_with fail;refine(km _ _ false (by omega) U.out).mono ?_;rintro e J ⟨rfl,o⟩;have L:=bt k o;obtain⟨C,Y⟩:=bcell o;have p:w.heap.size<z.heap.size:=by have:=a.size;simp at this;omega
     have d1:J.cell? ⟨w.heap.size,0,none⟩=some (int i64 u):=by rw[C _ _ p,g _ _ (by simp)];simp[go_sem]
     have d2:J.cell? ⟨w.heap.size,1,none⟩=some (int i64 d):=by rw[C _ _ p,g _ _ (by simp)];simp[go_sem]
     have lw:w.heap.size<J.heap.size:=by have:=o.size;omega
     clear g j C Y;go_wp2_with fail
     go_region_held3 (fun w'=>w'.cell? ⟨w.heap.size,0,none⟩=some (int i64 u)/\w'.cell? ⟨w.heap.size,1,none⟩=some (int i64 d))
      ((go_split_ands;refine⟨?_,?_⟩ <;> first|assumption|(simp[go_sem, *];done)))
      (first
       | (go_at_call 92;refine(ki _).mono ?_;rintro x3 w3 ⟨rfl,rfl⟩)
       | (go_at_call 155;refine(kh _).mono ?_;rintro x4 w4 ⟨v4,F,rfl,Q,E,I,S⟩;obtain⟨a2,c2,a6⟩:=E.slice;subst a6;obtain⟨D,Z⟩:=bcell I;have q1:w4.cell? ⟨w.heap.size,0,none⟩=some (int i64 u):=(D _ _ lw).trans d1;have q2:w4.cell? ⟨w.heap.size,1,none⟩=some (int i64 d):=(D _ _ lw).trans d2;clear D Z))
     have V:Hid (cH w l er (.returned (.tuple #[.slice a2 F.length c2,int i64 er])) w4):=⟨_,F,rfl,Q,E.mono L.size,bt L (bt (uQ _ _).drew I),S.mono L.size⟩;clear Q E I S kh;go_wp2;exact eQ (v:=.tuple #[.slice a2 F.length c2,int i64 er]) (by simp[results,results93,go_sem]) rfl V.out
  ·rw[jQ G] at h
   simp only[cQ] at h;obtain⟨rfl,rfl⟩:=h;clear i y;by_cases b1:lo < -1073741824
   ·clear G
    go_enter func93,ntmps93;go_wp2_with fail;refine(B _).mono ?_;rintro e z ⟨rfl,a⟩;have k:=bt (ba _ _) a;obtain⟨g,j⟩:=bcell a;go_wp2;exact eQ (v:=.tuple #[.slice none 0 0,int i64 3]) (by simp[results,results93,go_sem]) rfl (cH.err k)
   ·by_cases b2:hi<lo
    ·clear G
     go_enter func93,ntmps93;go_wp2_with fail;refine(B _).mono ?_;rintro e z ⟨rfl,a⟩;have k:=bt (ba _ _) a;obtain⟨g,j⟩:=bcell a;go_wp2;exact eQ (v:=.tuple #[.slice none 0 0,int i64 3]) (by simp[results,results93,go_sem]) rfl (cH.err k)
    ·by_cases b3:1073741824<hi
     ·clear G
      go_enter func93,ntmps93;go_wp2_with fail;refine(B _).mono ?_;rintro e z ⟨rfl,a⟩;have k:=bt (ba _ _) a;obtain⟨g,j⟩:=bcell a;go_wp2;exact eQ (v:=.tuple #[.slice none 0 0,int i64 3]) (by simp[results,results93,go_sem]) rfl (cH.err k)
     ·have b4:64<hi - lo:=by omega
      clear G;go_enter func93,ntmps93;go_wp2_with fail;refine(B _).mono ?_;rintro e z ⟨rfl,a⟩;have k:=bt (ba _ _) a;obtain⟨g,j⟩:=bcell a;go_wp2;exact eQ (v:=.tuple #[.slice none 0 0,int i64 3]) (by simp[results,results93,go_sem]) rfl (cH.err k)
 ·rw[jQ c] at h
  simp only[cQ] at h;obtain⟨rfl,rfl⟩:=h;have c2:(e0 != 0)=true:=by simpa using c
  clear i;go_enter func93,ntmps93;go_wp2_with fail;refine(B _).mono ?_;rintro e z ⟨rfl,a⟩;have k:=bt (ba _ _) a;obtain⟨g,j⟩:=bcell a;go_wp2;exact eQ (v:=.tuple #[.slice none 0 0,int i64 e0]) (by simp[results,results93,go_sem]) rfl (cH.err k)
def Fc (b:Nat) (n m:Int) (W:World):Prop :=
 W.cell? ⟨b,0,none⟩=some (int i64 n)/\W.cell? ⟨b,1,none⟩=some (int i64 m)/\W.frozen? ⟨b,0,none⟩=false/\W.frozen? ⟨b,1,none⟩=false
theorem boJ (w:World)(n m:Int):Fc w.heap.size n m (w.alloc (.cells #[int i64 n,int i64 m] 37)):=by
 refine⟨?_,?_,?_,?_⟩ <;> simp[go_sem]
theorem Row.setS {us:List Tr}(h:Row w b 0 us){t:Tr}(g:us[i]? = some t)(s:Value) :
  Row (w.setCell ⟨b,i*2,none⟩ s) b 0 (us.set i (s,t.2.1,t.2.2)):=by
 have hi:=(fQ.1 g).1;refine⟨fun j u hu=>?_,fun j a=>by rw[eJ];exact h.thaw j (by simpa using a),by simpa using h.lt⟩;by_cases a:i=j
 ·subst a
  rw[wD hi] at hu;obtain rfl:(s,t.2.1,t.2.2)=u:=by simpa using hu
  have c:=h.cells i t g;rw[vX] at c ⊢;exact⟨uU c.1,by rw[jX (by simp)];exact c.2⟩
 ·rw[sF a] at hu
  have c:=h.cells j u hu;exact⟨by rw[jX (by simp <;> omega)];exact c.1,by rw[jX (by simp <;> omega)];exact c.2⟩
theorem dwJ {us:List Tr}{t:Tr}(g:us[i]? = some t)(s:Value):rd (us.set i (s,t.2.1,t.2.2))=rd us:=by
 rw[d8];have:=yV g;apply lO;intro j;rw[List.getElem?_set];by_cases a:i=j
 ·subst a
  rw[jQ rfl,this];split
  ·rfl
  ·rename_i hh;exact absurd (fQ.1 this).1 hh
 ·rw[zQ a]
theorem dxQ {lo:Nat}{us:List Tr}(h:dZ lo (us.take i))(hi:i<us.length){t:Tr}(g:t.2.1≠[]->∀ b o sp n c,t.1=.slice (some ⟨b,o,sp⟩) n c->lo<=b):dZ lo ((us.set i t).take (i+1)):=by
 rw[yO _ hi];intro x j;rcases aV.1 j with a|a
 ·exact h x a
 ·obtain rfl:x=t:=by simpa using a
  exact g
theorem bpQ (B:Nat)(v:Value)(ts:List Tr)(w:World)(hB:B<=w.heap.size)(hp:uX w B v ts) :
  Calls prog 94 #[v] w fun e w'=>∃ v' us,e=.returned v'/\uV w' w.heap.size v' us/\rd us=rd ts/\Below w.heap.size w w'/\dZ w.heap.size us:=by
 have HP:Hid (uX w B v ts):=hp;have kc:=bkZ B v ts w hB hp;obtain⟨a,c,rfl,hc,hl,_⟩:=hp;go_enter func94,ntmps94;go_wp2_with fail;refine kc.mono ?_;rintro e w1 ⟨v1,rfl,hb1,hv1⟩;rcases hv1 with⟨hts,rfl⟩|⟨g,cap,rfl,hcap,hgb,hrow⟩
 ·subst hts
  clear kc;go_wp2
  go_loopw [10] (fun s wr=>s=.int .i64 0/\wr=w1) (fun _ _=>0)
  case atStart=>exact⟨rfl,rfl⟩
  case round =>
   obtain⟨rfl,rfl⟩:=hrel;go_wp2;go_ret;exact⟨_,[],rfl,.inl ⟨rfl,rfl⟩,rfl,hb1,dZ.nil _⟩
 ·have HR:Hid (Row w1 g 0 ts):=hrow
  clear hrow kc;go_wp2
  go_loopw [10] (fun s wr=>∃ (i:Nat) (us:List Tr),s=.int .i64 (i:Int)/\i<=ts.length/\Hid (us.length=ts.length/\rd us=rd ts)/\Hid (Row wr g 0 us)/\Hid (∀ t∈us,yQ wr wr.heap.size g t.1 t.2.1)/\Hid (dZ w.heap.size (us.take i))/\Below w.heap.size w wr) (fun s _=>ts.length - (intOf s).toNat)
  case atStart =>
   refine⟨0,ts,rfl,dQ _,⟨rfl,rfl⟩,HR,fun t ht=>?_,by simp[Hid,dZ.nil],hb1⟩;exact((HP.out.elem hB (uQ _ _) ht).at hB hb1).mono (bQ hB hb1.size) (.inr (by omega))
  case round =>
   obtain⟨i,us,rfl,hit,HU,HRw,HI,HF,hbl⟩:=hrel;have hgw:=HRw.out.lt;by_cases h1:i<ts.length
   ·obtain⟨b,o,sa,sc,xs,k,rfl,hb,hs,c1,c2,hIx⟩:=HP.out.get hB hbl h1
    have HIx:Hid (yQ wr B B (.slice sa xs.length sc) xs):=hIx;obtain⟨⟨s0,x0,k0⟩,ht0⟩:=fX (l:=us) (i:=i) (by rw[HU.out.1];exact h1)
    have hxk:x0=xs/\k0=k:=by
     have e1:=yV ht0;have e2:=yV hs;rw[HU.out.2,e2] at e1;simp at e1;exact⟨e1.1.symm,e1.2.symm⟩
    obtain⟨rfl,rfl⟩:=hxk;have HT0:Hid (us[i]? = some (s0,x0,k0)):=ht0;obtain⟨r4,r5⟩:=HRw.out.cells i _ ht0;have r2:=HRw.out.thaw (i*2) (by rw[HU.out.1];omega);simp only[vX] at r2 r4 r5;have kn:=fun W (h:Below wr.heap.size wr W)=>pP B B (.slice sa x0.length sc) x0 W (bQ hB (bQ hbl.size h.size)) (HIx.out.at (bQ hB hbl.size) h);clear hs hIx ht0;have q1:(wr.alloc (.cells #[.slice sa x0.length sc,.int .i64 k0] 186)).cell? ⟨g,i*2,none⟩=some s0:=by rw[pH _ _ _ hgw];exact r4
    have q2:(wr.alloc (.cells #[.slice sa x0.length sc,.int .i64 k0] 186)).frozen? ⟨g,i*2,none⟩=false:=by rw[(ba wr _).frozen hgw];exact r2
    go_wp2_with fail;refine(kn _ (ba _ _)).mono ?_;rintro e w2 ⟨v2,rfl,hI2,hb2⟩;have hz2:0<(wr.alloc (.cells #[.slice sa x0.length sc,.int .i64 k0] 186)).heap.size:=by simp
    obtain⟨av,cv,hv2,_⟩:=hI2 0 hz2;subst hv2;have hgl2:g<(wr.alloc (.cells #[.slice sa x0.length sc,.int .i64 k0] 186)).heap.size:=by simp;omega
    have k1:w2.cell? ⟨g,i*2,none⟩=some s0:=((bcell hb2).1 _ _ hgl2).trans q1;have k2:w2.frozen? ⟨g,i*2,none⟩=false:=((bcell hb2).2 _ _ hgl2).trans q2;have HB2:Hid (Below wr.heap.size wr w2):=bt (ba _ _) hb2;have HR2:Hid (Row (w2.setCell ⟨g,i*2,none⟩ (.slice av x0.length cv)) g 0 (us.set i (.slice av x0.length cv,x0,k0))):=(HRw.out.keep HB2.out).setS HT0.out (.slice av x0.length cv)
    have HI3:Hid (∀ t∈us.set i (.slice av x0.length cv,x0,k0),yQ (w2.setCell ⟨g,i*2,none⟩ (.slice av x0.length cv)) (w2.setCell ⟨g,i*2,none⟩ (.slice av x0.length cv)).heap.size g t.1 t.2.1):=by
     intro t ht
     have h3:yQ w2 w2.heap.size g t.1 t.2.1:=by
      rcases mI ht with h|rfl
      ·exact(HI.out t h).at2 HB2.out
      ·exact hI2 g hgl2
     have h4:=h3.set (p:=⟨g,i*2,none⟩) rfl (.slice av x0.length cv);simpa using h4
    have HF2:Hid (dZ w.heap.size ((us.set i (.slice av x0.length cv,x0,k0)).take (i+1))):=dxQ HF.out (by rw[HU.out.1];exact h1) (i7 (w:=w2) (B:=w2.heap.size) fun m hm=>hI2 m (by simp;omega));have HU2:Hid ((us.set i (.slice av x0.length cv,x0,k0)).length=ts.length/\rd (us.set i (.slice av x0.length cv,x0,k0))=rd ts):=⟨by simp[HU.out.1],(dwJ HT0.out _).trans HU.out.2⟩;have HB3:Hid (Below w.heap.size w (w2.setCell ⟨g,i*2,none⟩ (.slice av x0.length cv))):=bs (bt hbl HB2.out) hgb _;clear hI2 hb2 q1 q2 kn HT0;go_wp2
    go_roundw
    case rel=>exact⟨i+1,_,by go_num,h1,HU2,HR2,HI3,HF2,HB3.out⟩
    case measure=>simp[intOf];omega
   ·have hii:ts.length<=i:=by omega
    have HZ:Hid (uV wr w.heap.size (.slice (some ⟨g,0,none⟩) ts.length cap) us/\rd us=rd ts/\dZ w.heap.size us):=by
     refine⟨.inr ⟨g,0,cap,by rw[HU.out.1],by rw[HU.out.1];exact hcap,by rw[HU.out.1];exact hl,hgb,HRw.out,HI.out⟩,HU.out.2,?_⟩;have:=HF.out;rwa [gJ (by rw[HU.out.1];exact hii)] at this
    go_wp2;go_ret;exact⟨_,us,rfl,HZ.out.1,HZ.out.2.1,hbl,HZ.out.2.2⟩
open Go.Maps (Keyed int_keyed keyOf_int_mk)
theorem uV.block {lo:Nat}{ts:List Tr}(h:uV w lo v ts):∀ g,v.ownBlock=some g->lo<=g/\g<w.heap.size:=by
 intro g e;rcases h with⟨rfl,_⟩|⟨b,o,c,rfl,_,_,a,i,_⟩
 ·cases e
 ·simp only[Value.ownBlock,aZ] at e
  subst e;exact⟨a,i.lt⟩
theorem uV.beside {lo:Nat}{ts:List Tr}(h:uV w lo v ts)(m:w.grownBy w' row)(G:∀ g,v.ownBlock=some g->some g≠row)(H:∀ t∈ts,t.2.1≠[]->∀ b o sp n c,t.1=.slice (some ⟨b,o,sp⟩) n c->some b≠row):uV w' lo v ts:=by
 rcases h with h|⟨b,o,c,rfl,hc,L,B,l,hi⟩
 ·exact .inl h
 ·have z:w'.heap[b]? = w.heap[b]?:=m.block b l.lt (G b rfl)
  refine .inr ⟨b,o,c,rfl,hc,L,B,⟨fun i t ht=>?_,fun j hj=>?_,lQ l.lt m.size⟩,fun t ht=>?_⟩
  ·exact⟨(vJ (w:=w) (a:=⟨b,o+i*2,none⟩) z).trans (l.cells i t ht).1,(vJ (w:=w) (a:=⟨b,o+i*2+1,none⟩) z).trans (l.cells i t ht).2⟩
  ·exact(nV (w:=w) (a:=⟨b,o+j,none⟩) z).trans (l.thaw j hj)
  ·have I:=H t ht
   obtain⟨a,D,E,y,A,C⟩:=hi t ht;refine⟨a,D,E,y,A,fun hne=>?_⟩;obtain⟨b',F,ha,p,M,k⟩:=C hne;have J:=I hne b' F none t.2.1.length D (by rw[E,ha]);exact⟨b',F,ha,lQ p m.size,M,fun i x C=>m.cell (k i x C) J⟩
def Dd (w:World) (lo:Nat) (v:Value) (us:List Tr):Prop:=uV w lo v us/\dZ lo us
theorem Dd.keep {lo:Nat}{us:List Tr}(h:Dd w lo v us)(a:xQ w w'):Dd w' lo v us:=⟨h.1.keep a,h.2⟩
theorem Dd.mono {lo:Nat}{us:List Tr}(h:Dd w lo v us)(a:lo'<=lo):Dd w lo' v us:=⟨h.1.mono a,h.2.mono a⟩
theorem Dd.beside {lo:Nat}{us:List Tr}(h:Dd w lo v us)(a:w.grownBy w' (some g))(i:g<lo):Dd w' lo v us :=
 ⟨h.1.beside a (fun g' e=>by have:=(h.1.block g' e).1;simp;omega) (fun t ht hne b o sp n c e=>by have:=h.2 t ht hne b o sp n c e;simp;omega),h.2⟩
theorem Dd.nil (w:World)(lo:Nat):Dd w lo (.slice none 0 0) []:=⟨.inl ⟨rfl,rfl⟩,dZ.nil _⟩
theorem cZ (h:xQ w w'):w.grownBy w' none:=⟨h.os,h.tape,h.output,h.size,fun k hk _=>h.block k hk⟩
theorem fL (w:World)(g k:Nat)(u:Value):w.grownBy (w.setCell ⟨g,k,none⟩ u) (some g):=⟨rfl,rfl,rfl,by simp[World.setCell],fun i _ hr=>fO _ _ _ _ (by intro e;exact hr (by rw[e]))⟩
def hR:Value->Option (DataW Value × List MemPlace):=fun v=>some (.held v,[])
theorem zL:Keyed prog 3:=int_keyed underlying3
theorem dxX (w:World):(zeroValue 93).run prog w=.ok (.slice none 0 0) w:=by kernel_rfl
structure Mpi (w:World) (b n lo:Nat) (D:DataW Value) (u d l h:Int):Prop where
 own:w.ownsMap prog 3 hR b n D
 el:∀ z:Int,∃ v,D.atKey (.int .i64 z) (.held (.slice none 0 0))=.held v/\(v=.slice none 0 0\/∃ us,Dd w lo v us/\us≠[]/\jJ u d l h z=(rd us,0))
theorem Mpi.keep {lo:Nat}{D:DataW Value}{h:Int}(m:Mpi w b n lo D u d l h)(g:xQ w w'):Mpi w' b n lo D u d l h :=
 ⟨m.own.kept (cZ g) (by simp),fun z=>let ⟨v,h1,h2⟩:=m.el z;⟨v,h1,h2.imp id fun⟨us,a,b,c⟩=>⟨us,a.keep g,b,c⟩⟩⟩
theorem Mpi.beside {lo:Nat}{D:DataW Value}{h:Int}(m:Mpi w b n lo D u d l h)(j:w.grownBy w' (some g))(i:b≠g)(k:g<lo):Mpi w' b n lo D u d l h :=
 ⟨m.own.kept j (by simpa using i),fun z=>let ⟨v,h1,h2⟩:=m.el z;⟨v,h1,h2.imp id fun⟨us,a,b,c⟩=>⟨us,a.beside j k,b,c⟩⟩⟩
theorem Mpi.made (w:World)(lo:Nat)(u d l h:Int):Mpi (w.alloc (.map #[] 0)) w.heap.size 0 lo (.map []) u d l h :=
 ⟨World.ownsMap_made _ _ _ _,fun _=>⟨.slice none 0 0,rfl,.inl rfl⟩⟩
theorem Mpi.put {lo:Nat}{D:DataW Value}{h:Int}(m:Mpi w b n lo D u d l h)(j:w.grownBy w' (some b))(o:b<lo){us:List Tr}(g:w'.ownsMap prog 3 hR b (n+1) (D.put (.int .i64 p) (.held v)))(C:Dd w lo v us)(i:us≠[])(E:jJ u d l h p=(rd us,0)) :
  Mpi w' b (n+1) lo (D.put (.int .i64 p) (.held v)) u d l h:=by
 refine⟨g,fun z=>?_⟩;by_cases y:z=p
 ·subst y
  exact⟨v,Maps.atKey_put_same (k:=.int .i64 z) m.own.isMap True.intro _ _,.inr ⟨us,C.beside j o,i,E⟩⟩
 ·obtain⟨F,A,B⟩:=m.el z
  exact⟨F,by rw[Maps.atKey_put_other (by simpa using y)];exact A,B.imp id fun⟨us,a,b,c⟩=>⟨us,a.beside j o,b,c⟩⟩
theorem Mpi.look {lo:Nat}{D:DataW Value}{h:Int}(m:Mpi w b n lo D u d l h)(i:(Lit.int .i64 p).wf=true)(j:D.atKey (.int .i64 p) (.held (.slice none 0 0))=.held v) :
  (Instr.lookup 176 (.map (some b)) (.int .i64 p) false).run prog w=.ok v w:=by
 obtain⟨k,ps,g,a⟩:=m.own.lookup zL underlying176 (dxX w) (zd:=.held (.slice none 0 0)) (zp:=[]) rfl (keyOf_int_mk underlying3 i);rw[j] at a;simp[hR] at a;rw[g,a.1]
abbrev Dz:=Value × List Tr
structure RowD (w:World) (g lo:Nat) (zs:List Dz):Prop where
 lt:g<w.heap.size
 cell:∀ j z,zs[j]? = some z->w.cell? ⟨g,j,none⟩=some z.1
 thaw:∀ j,j<zs.length->w.frozen? ⟨g,j,none⟩=false
 el:∀ z∈zs,Dd w lo z.1 z.2
def rds (zs:List Dz):List (List Pt):=zs.map fun z=>rd z.2
theorem RowD.keep {lo:Nat}{zs:List Dz}(h:RowD w g lo zs)(a:xQ w w'):RowD w' g lo zs :=
 ⟨lQ h.lt a.size,fun j z hj=>(a.cell (p:=⟨g,j,none⟩) h.lt).trans (h.cell j z hj),fun j hj=>(a.frozen (p:=⟨g,j,none⟩) h.lt).trans (h.thaw j hj),fun z hz=>(h.el z hz).keep a⟩
theorem RowD.beside {lo r:Nat}{zs:List Dz}(h:RowD w g lo zs)(i:w.grownBy w' (some r))(k:g≠r)(m:r<lo):RowD w' g lo zs:=by
 have l:w'.heap[g]? = w.heap[g]?:=i.block g h.lt (by simpa using k);exact⟨lQ h.lt i.size,fun j z hj=>(vJ (w:=w) (a:=⟨g,j,none⟩) l).trans (h.cell j z hj),fun j hj=>(nV (w:=w) (a:=⟨g,j,none⟩) l).trans (h.thaw j hj),fun z hz=>(h.el z hz).beside i m⟩
theorem RowD.set {lo:Nat}{zs:List Dz}(h:RowD w g lo zs)(hi:i<zs.length)(l:g<lo){us:List Tr}(o:Dd w lo v us):RowD (w.setCell ⟨g,i,none⟩ v) g lo (zs.set i (v,us)):=by
 refine⟨by simpa using h.lt,fun j z hj=>?_,fun j hj=>by rw[eJ];exact h.thaw j (by simpa using hj),fun z hz=>?_⟩
 ·by_cases a:i=j
  ·subst a
   rw[wD hi] at hj;obtain rfl:(v,us)=z:=by simpa using hj
   obtain⟨z0,k⟩:=fX hi;exact uU (h.cell i z0 k)
  ·rw[sF a] at hj
   rw[jX (by simp)];exact h.cell j z hj
 ·rcases mI hz with m|rfl
  ·exact(h.el z m).beside (fL w g i v) l
  ·exact o.beside (fL w g i v) l
theorem dxZ (w:World)(n lo:Nat):RowD (w.alloc (.cells (madeCells #[.slice none 0 0] n) 93)) w.heap.size lo (List.replicate n (.slice none 0 0,[])):=by
 refine⟨by simp,fun j z hj=>?_,fun j _=>nC _ _ _ _ rfl,fun z hz=>?_⟩
 ·have hi:j<n:=by have:=(fQ.1 hj).1;simpa using this
  obtain rfl:z=(.slice none 0 0,[]):=by
   have:=(fQ.1 hj).2;simp at this;exact this.symm
  rw[pO _ _ _ _ rfl];simp[madeCells,hi,Nat.mod_one]
 ·rw[List.eq_of_mem_replicate hz];exact Dd.nil _ _
def sV (u d lo hi:Int):List Int->List (List Pt) × Int
 | []=>([],0)
 | n::ns=>if (jJ u d lo hi n).2≠0 then ([],(jJ u d lo hi n).2) else if (sV u d lo hi ns).2≠0 then ([],(sV u d lo hi ns).2) else ((jJ u d lo hi n).1::(sV u d lo hi ns).1,0)
theorem bpX {lo hi:Int}(h:∀ n∈ns,(jJ u d lo hi n).2=0):sV u d lo hi ns=(ns.map fun n=>(jJ u d lo hi n).1,0):=by
 induction ns with
 | nil=>rfl
 | cons n ns ih =>
  have a:=ih fun x hx=>h x (qM _ hx);have g:=h n (bN ..);simp[sV,a,g]
theorem bpZ {lo hi:Int}{n:Int}(h:∀ x∈ns.take i,(jJ u d lo hi x).2=0)(g:ns[i]? = some n)(j:(jJ u d lo hi n).2=e)(a:e≠0):sV u d lo hi ns=([],e):=by
 induction ns generalizing i with
 | nil=>simp at g
 | cons m ns ih =>
  cases i with
  | zero =>
   simp at g;subst g;rw[sV,jQ (by rw[j];exact a),j]
  | succ i =>
   have l:=h m (by simp);have k:=ih (i:=i) (fun x hx=>h x (by simp[hx])) (by simpa using g);rw[sV,zQ (by simp[l]),k];simp[a]
theorem l9 (u d lo hi n:Int):jJ u d lo hi (zU lo hi n)=jJ u d lo hi n:=by
 unfold jJ;split
 ·rfl
 ·split
  ·rfl
  ·rename_i h
   have:zU lo hi (zU lo hi n)=zU lo hi n:=by unfold zU;omega
   rw[this]
theorem dxJ {lo hi n:Int}{l:List Pt}(h:jJ u d lo hi n=(l,0)):l≠[]:=by
 have mk:∀ {L:List Pt},iV L=(l,0)->l≠[]:=by
  intro L a;unfold iV at a;split at a
  ·unfold mU at a
   split at a
   ·simp at a
   ·split at a
    ·simp at a
    ·rename_i h1 _
     simp at a;rw[<-a];simp[cut,h1]
  ·simp at a
 unfold jJ at h;split at h
 ·rename_i h1;simp at h;exact absurd h.2 h1
 ·split at h
  ·simp at h
  ·split at h
   ·exact mk h
   ·split at h
    ·simp at h
    ·exact mk h
def m9 (w:World) (h:Nat) (v:Value) (zs:List Dz):Prop :=
 (v=.slice none 0 0/\zs=[])\/∃ g cap lo,v=.slice (some ⟨g,0,none⟩) zs.length cap/\zs.length<=cap/\zs.length<=1048576/\RowD w g lo zs/\h<=g/\h<=lo
def o9 (w:World) (l:List (List Pt)) (er:Int) (e:Ending) (w':World):Prop :=
 ∃ v zs,e=.returned (.tuple #[v,int i64 er])/\rds zs=l/\m9 w' w.heap.size v zs/\xQ w w'
open Go.Maps (Keyed int_keyed keyOf_int_mk)
theorem bpJ:(prog.info? 93).map (fun i=>(i.zero,i.size,i.bytes))=some (some (.slice none 0 0),1,24):=by kernel_rfl
def zX (z:Int):Prop:=-9223372036854775808<=z/\z<=9223372036854775807
theorem yQ.get' (m:yQ w B nb (.slice a n c) xs)(hB:B<=w.heap.size)(k:xQ w wr)(h:i<xs.length) :
  ∃ b o x,a=some ⟨b,o,none⟩/\b<w.heap.size/\xs[i]? = some x/\wr.cell? ⟨b,o+i,none⟩=some (int i64 x):=by
 obtain⟨y,z,l,hc,C,v⟩:=m;simp only[yZ] at l;obtain⟨rfl,rfl,rfl⟩:=l;obtain⟨b,o,ha,A,D,g⟩:=v (ne_of_lt h);obtain⟨x,j⟩:=fX h;exact⟨b,o,x,ha,by omega,j,(k.cell (p:=⟨b,o+i,none⟩) (by show b<w.heap.size;omega)).trans (g i x j)⟩
theorem dyQ (B nb:Nat)(u d lo hi:Int)(v:Value)(ns:List Int)(w:World)(hB:B<=w.heap.size)(hx:yQ w B nb v ns)(bw:zX lo)(bq:zX hi)(bx:∀ n∈ns,zX n)(bv:ns.length<=1048576)(l:List (List Pt))(er:Int)(hr:sV u d lo hi ns=(l,er)) :
  Calls prog 51 #[rv u d,.int .i64 lo,.int .i64 hi,v] w (o9 w l er):=by
 have HX:Hid (yQ w B nb v ns):=hx;have HR:Hid (sV u d lo hi ns=(l,er)):=hr;have bj:Hid ((∀ n∈ns,zX n)/\zX lo/\zX hi):=⟨bx,bw,bq⟩;obtain⟨va,vc,rfl,_⟩:=hx;obtain⟨i0,ca,O,cf,cg⟩:=pZ bpJ
 have cv:∀ u:World,(Instr.makeSlice 86 (.int .i64 (ns.length:Int)) (.int .i64 (ns.length:Int))).run prog u =
   .ok (.slice (some ⟨u.heap.size,0,none⟩) ns.length ns.length) (u.alloc (.cells (madeCells #[.slice none 0 0] ns.length) 93)):=fun u=>by
  have h:=run_make (P:=prog) u 86 93 i0 (.slice none 0 0) underlying86 ca O .i64 .i64 (ns.length:Int) (ns.length:Int) (by omega) (iK _) (by rw[cg];omega) (by omega);rw[tF] at h;simpa [cf,Value.cells] using h
 have cw:=@run_makeMap prog;have d4:∀ (w:World) (a:Option Addr) (n c n' c':Nat),(binOp .eql 93 (.slice a n c) (.slice none n' c')).run prog w=.ok (.bool a.isNone) w:=fun w a n c n' c'=>tO w _ _ a n c n' c' underlying93;clear hr bx bw bq;go_enter func51,ntmps51;go_wp2
 go_loopw [23] (fun s wr=>∃ (i:Nat) (zs:List Dz) (D:DataW Value) (m:Nat),s=.int .i64 (i:Int)/\i<=ns.length/\Hid (zs.length=ns.length/\rds (zs.take i)=(ns.take i).map (fun n=>(jJ u d lo hi n).1)/\∀ x∈ns.take i,(jJ u d lo hi x).2=0)/\Hid (RowD wr (w.heap.size+1+1) (w.heap.size+1+1+1) zs)/\Hid (Mpi wr (w.heap.size+1) m (w.heap.size+1+1+1) D u d lo hi)/\m<=i/\xQ w wr/\w.heap.size+1+1+1<=wr.heap.size/\wr.cell? ⟨w.heap.size,0,none⟩=some (.int .i64 u)/\wr.cell? ⟨w.heap.size,1,none⟩=some (.int .i64 d)) (fun s _=>ns.length - (intOf s).toNat)
 case atStart =>
  refine⟨0,List.replicate ns.length (.slice none 0 0,[]),.map [],0,rfl,dQ _,⟨by simp,by simp[rds],by simp⟩,?_,?_,vQ _,bal (bal (ba _ _) _) _,by simp,by simp[go_sem],by simp[go_sem]⟩
  ·have:=dxZ ((w.alloc (.cells #[.int .i64 u,.int .i64 d] 37)).alloc (.map #[] 0)) ns.length (w.heap.size+1+1+1)
   simpa [Hid] using this
  ·have:=(Mpi.made (w.alloc (.cells #[.int .i64 u,.int .i64 d] 37)) (w.heap.size+1+1+1) u d lo hi).keep (ba _ (.cells (madeCells #[.slice none 0 0] ns.length) 93))
   simpa [Hid] using this
 case round =>
  obtain⟨i,zs,D,m,rfl,ct,F,Q,L,cu,ac,cd,c1,c2⟩:=hrel;by_cases V:i<ns.length
  ·obtain⟨b,o,x,rfl,hb,bg,cr⟩:=HX.out.get' hB ac V
   have U:Hid (ns[i]? = some x):=bg;obtain⟨p,af⟩:∃ p,zU lo hi x=p:=⟨_,rfl⟩;have ao:Hid (zU lo hi x=p):=af
   have hp:(Lit.int .i64 p).wf=true:=by
    have h2:=bj.out.1 x (qX bg);have h3:=bj.out.2;unfold zX at h2 h3;refine WalkArith.wf_i64 ?_;rw[<-af];unfold zU;omega
   have ki:=xR x lo hi wr;rw[af] at ki;obtain⟨vv,bf,cb⟩:=L.out.el p;have M:=L.out.look hp bf;have T:Hid (D.atKey (.int .i64 p) (.held (.slice none 0 0))=.held vv):=bf;clear bg af bf;rcases cb with rfl|⟨H,b3,b8,br⟩
   ·obtain⟨⟨l1,e1⟩,hh⟩:∃ y,jJ u d lo hi p=y:=⟨_,rfl⟩
    have kh:=dwZ u d lo hi p l1 e1 hh;have HH:Hid (jJ u d lo hi p=(l1,e1)):=hh;clear hh;go_wp2_with fail;refine ki.mono ?_;rintro e w1 ⟨rfl,rfl⟩;go_wp2_with fail;refine(kh _).mono ?_;rintro e w2 ⟨v2,H,rfl,k1,k2,C,k4⟩;obtain⟨a2,I,ce⟩:=k2.slice;subst ce;have ah:=bt ac C;by_cases ae:e1=0
    ·subst ae
     have cx:=C.size;have aa:Hid (Mpi w2 (w.heap.size+1) m (w.heap.size+1+1+1) D u d lo hi):=L.out.keep C;have bm:Hid (RowD w2 (w.heap.size+1+1) (w.heap.size+1+1+1) zs):=Q.out.keep C;have ak:Hid (Dd w2 (w.heap.size+1+1+1) (.slice a2 H.length I) H):=(show Dd w2 w1.heap.size (.slice a2 H.length I) H from ⟨k2,k4⟩).mono cd;have R:Hid (jJ u d lo hi p=(rd H,0)):=by rw[Hid,k1];exact HH.out
     have b8:Hid (H≠[]):=by intro h;have:=dxJ R.out;rw[h] at this;exact this rfl
     have f1:w2.cell? ⟨w.heap.size,0,none⟩=some (.int .i64 u):=((bcell C).1 _ _ (by omega)).trans c1;have f2:w2.cell? ⟨w.heap.size,1,none⟩=some (.int .i64 d):=((bcell C).1 _ _ (by omega)).trans c2;clear k1 k2 C k4 kh M ki;go_wp2_with (at_mapUpdate;refine wpList_mapUpdate_own _ rfl _ _ _ 176 rfl 3 93 zL underlying176 hR (w.heap.size+1) m D rfl aa.out.own (by unfold maxLen;omega) _ _ (.int .i64 p) rfl rfl (keyOf_int_mk underlying3 hp) (.held (.slice a2 H.length I)) [] rfl ?_);intro w4 Y A;have S:Hid (Mpi w4 (w.heap.size+1) (m+1) (w.heap.size+1+1+1) (D.put (.int .i64 p) (.held (.slice a2 H.length I))) u d lo hi):=aa.out.put A (by omega) Y ak.out b8.out R.out;have G:Hid (RowD w4 (w.heap.size+1+1) (w.heap.size+1+1+1) zs):=bm.out.beside A (by omega) (by omega);have am:Hid (Dd w4 (w.heap.size+1+1+1) (.slice a2 H.length I) H):=ak.out.beside A (by omega);have au:Hid ((D.put (.int .i64 p) (.held (.slice a2 H.length I))).atKey (.int .i64 p) (.held (.slice none 0 0))=.held (.slice a2 H.length I)):=Maps.atKey_put_same (k:=.int .i64 p) aa.out.own.isMap True.intro _ _;have az:xQ w w4:=ah.grown A (by omega) (fun j hj=>by cases hj;omega);have d1:w4.cell? ⟨w.heap.size,0,none⟩=some (.int .i64 u):=A.cell f1 (by simp);have d2:w4.cell? ⟨w.heap.size,1,none⟩=some (.int .i64 d):=A.cell f2 (by simp);clear Y A aa bm ak f1 f2 Q L;have N:=S.out.look hp au.out;have a7:=bpQ w4.heap.size _ H w4 (vQ _) am.out.1.parts;obtain⟨z0,O⟩:=fX (l:=zs) (i:=i) (by rw[F.out.1];exact V);have r1:=G.out.cell i z0 O;have r2:=G.out.thaw i (by rw[F.out.1];exact V);have Z:=G.out.lt;obtain⟨z1,J⟩:∃ z1,z0.1=z1:=⟨_,rfl⟩;rw[J] at r1;clear O J;go_wp2_with fail;refine a7.mono ?_;rintro e E ⟨v3,z,rfl,k1,k2,C,k4⟩;obtain⟨a3,c3,bc⟩:=k1.slice;subst bc;have cc:=C.size;have q1:E.cell? ⟨w.heap.size+1+1,i,none⟩=some z1:=((bcell C).1 _ _ Z).trans r1;have q2:E.frozen? ⟨w.heap.size+1+1,i,none⟩=false:=((bcell C).2 _ _ Z).trans r2;have b6:w.heap.size+1+1+1<=w4.heap.size:=by omega
     have al:Hid (Dd E (w.heap.size+1+1+1) (.slice a3 z.length c3) z):=(show Dd E w4.heap.size (.slice a3 z.length c3) z from ⟨k1,k4⟩).mono b6;have aq:Hid (RowD (E.setCell ⟨w.heap.size+1+1,i,none⟩ (.slice a3 z.length c3)) (w.heap.size+1+1) (w.heap.size+1+1+1) (zs.set i (.slice a3 z.length c3,z))):=(G.out.keep C).set (by rw[F.out.1];exact V) (by omega) al.out;have an:Hid (Mpi (E.setCell ⟨w.heap.size+1+1,i,none⟩ (.slice a3 z.length c3)) (w.heap.size+1) (m+1) (w.heap.size+1+1+1) (D.put (.int .i64 p) (.held (.slice a2 H.length I))) u d lo hi):=(S.out.keep C).beside (fL E (w.heap.size+1+1) i _) (by omega) (by omega);have aj:Hid (xQ w (E.setCell ⟨w.heap.size+1+1,i,none⟩ (.slice a3 z.length c3))):=bs (bt az C) (by dsimp only;omega) _
     have aw:Hid ((zs.set i (.slice a3 z.length c3,z)).length=ns.length/\rds ((zs.set i (.slice a3 z.length c3,z)).take (i+1))=(ns.take (i+1)).map (fun n=>(jJ u d lo hi n).1)/\∀ x∈ns.take (i+1),(jJ u d lo hi x).2=0):=by
      have hx:=R.out;rw[<-ao.out,l9] at hx;refine⟨by simp[F.out.1],?_,?_⟩
      ·rw[yO _ (by rw[F.out.1];exact V),rX,U.out]
       have h5:=F.out.2.1;simp only[rds,iA] at h5 ⊢;rw[h5];simp[hx,k2]
      ·intro y hy
       rw[rX,U.out] at hy;rcases aV.1 hy with h6|h6
       ·exact F.out.2.2 y h6
       ·obtain rfl:y=x:=by simpa using h6
        rw[hx]
     have bb:w.heap.size+1+1+1<=(E.setCell ⟨w.heap.size+1+1,i,none⟩ (.slice a3 z.length c3)).heap.size:=by simp;omega
     have e1:(E.setCell ⟨w.heap.size+1+1,i,none⟩ (.slice a3 z.length c3)).cell? ⟨w.heap.size,0,none⟩=some (.int .i64 u):=by rw[jX (by simp),(bcell C).1 _ _ (by omega)];exact d1
     have e2:(E.setCell ⟨w.heap.size+1+1,i,none⟩ (.slice a3 z.length c3)).cell? ⟨w.heap.size,1,none⟩=some (.int .i64 d):=by rw[jX (by simp),(bcell C).1 _ _ (by omega)];exact d2
     clear k1 C k4 a7 N d1 d2;go_wp2
     go_roundw
     case rel=>exact⟨i+1,_,_,_,by go_num,V,aw,aq,an,by omega,aj.out,bb,e1,e2⟩
     case measure=>simp[intOf];omega
    ·have cj:(e1 == 0)=false:=by simpa using ae
     have ck:(e1 != 0)=true:=by simpa using ae
     have hh:=HH.out;rw[<-ao.out,l9] at hh;have hE:=bpZ F.out.2.2 U.out (e:=e1) (by rw[hh]) ae;rw[hE] at HR;have X:=HR.out;simp only[cQ] at X;obtain⟨rfl,rfl⟩:=X;clear k1 k2 k4 kh M ki hE hh HH T;go_wp2;exact eQ (v:=.tuple #[.slice none 0 0,.int .i64 e1]) (by simp[results,results51,go_sem]) rfl ⟨_,[],rfl,rfl,.inl ⟨rfl,rfl⟩,ah⟩
   ·have S:Hid (Mpi wr (w.heap.size+1) m (w.heap.size+1+1+1) D u d lo hi):=L
    have G:Hid (RowD wr (w.heap.size+1+1) (w.heap.size+1+1+1) zs):=Q;have am:Hid (Dd wr (w.heap.size+1+1+1) vv H):=b3;have R:Hid (jJ u d lo hi p=(rd H,0)):=br;have au:Hid (D.atKey (.int .i64 p) (.held (.slice none 0 0))=.held vv):=T;have az:=ac;have d1:=c1;have d2:=c2
    obtain⟨gs,go,d5,rfl⟩:∃ g o c,vv=.slice (some ⟨g,o,none⟩) H.length c:=by
     rcases b3.1 with⟨_,h⟩|⟨b,o,c,h,_⟩
     ·exact absurd h b8
     ·exact⟨b,o,c,h⟩
    clear b3 br L Q T;go_wp2_with fail;refine ki.mono ?_;rintro e w1 ⟨rfl,rfl⟩;have N:=S.out.look hp au.out;have a7:=bpQ w1.heap.size _ H w1 (vQ _) am.out.1.parts;obtain⟨z0,O⟩:=fX (l:=zs) (i:=i) (by rw[F.out.1];exact V);have r1:=G.out.cell i z0 O;have r2:=G.out.thaw i (by rw[F.out.1];exact V);have Z:=G.out.lt;obtain⟨z1,J⟩:∃ z1,z0.1=z1:=⟨_,rfl⟩;rw[J] at r1;clear O J;go_wp2_with fail;refine a7.mono ?_;rintro e E ⟨v3,z,rfl,k1,k2,C,k4⟩;obtain⟨a3,c3,bc⟩:=k1.slice;subst bc;have cc:=C.size;have q1:E.cell? ⟨w.heap.size+1+1,i,none⟩=some z1:=((bcell C).1 _ _ Z).trans r1;have q2:E.frozen? ⟨w.heap.size+1+1,i,none⟩=false:=((bcell C).2 _ _ Z).trans r2;have b6:w.heap.size+1+1+1<=w1.heap.size:=by omega
    have al:Hid (Dd E (w.heap.size+1+1+1) (.slice a3 z.length c3) z):=(show Dd E w1.heap.size (.slice a3 z.length c3) z from ⟨k1,k4⟩).mono b6;have aq:Hid (RowD (E.setCell ⟨w.heap.size+1+1,i,none⟩ (.slice a3 z.length c3)) (w.heap.size+1+1) (w.heap.size+1+1+1) (zs.set i (.slice a3 z.length c3,z))):=(G.out.keep C).set (by rw[F.out.1];exact V) (by omega) al.out;have an:Hid (Mpi (E.setCell ⟨w.heap.size+1+1,i,none⟩ (.slice a3 z.length c3)) (w.heap.size+1) m (w.heap.size+1+1+1) D u d lo hi):=(S.out.keep C).beside (fL E (w.heap.size+1+1) i _) (by omega) (by omega);have aj:Hid (xQ w (E.setCell ⟨w.heap.size+1+1,i,none⟩ (.slice a3 z.length c3))):=bs (bt az C) (by dsimp only;omega) _
    have aw:Hid ((zs.set i (.slice a3 z.length c3,z)).length=ns.length/\rds ((zs.set i (.slice a3 z.length c3,z)).take (i+1))=(ns.take (i+1)).map (fun n=>(jJ u d lo hi n).1)/\∀ x∈ns.take (i+1),(jJ u d lo hi x).2=0):=by
     have hx:=R.out;rw[<-ao.out,l9] at hx;refine⟨by simp[F.out.1],?_,?_⟩
     ·rw[yO _ (by rw[F.out.1];exact V),rX,U.out]
      have h5:=F.out.2.1;simp only[rds,iA] at h5 ⊢;rw[h5];simp[hx,k2]
     ·intro y hy
      rw[rX,U.out] at hy;rcases aV.1 hy with h6|h6
      ·exact F.out.2.2 y h6
      ·obtain rfl:y=x:=by simpa using h6
       rw[hx]
    have bb:w.heap.size+1+1+1<=(E.setCell ⟨w.heap.size+1+1,i,none⟩ (.slice a3 z.length c3)).heap.size:=by simp;omega
    have e1:(E.setCell ⟨w.heap.size+1+1,i,none⟩ (.slice a3 z.length c3)).cell? ⟨w.heap.size,0,none⟩=some (.int .i64 u):=by rw[jX (by simp),(bcell C).1 _ _ (by omega)];exact d1
    have e2:(E.setCell ⟨w.heap.size+1+1,i,none⟩ (.slice a3 z.length c3)).cell? ⟨w.heap.size,1,none⟩=some (.int .i64 d):=by rw[jX (by simp),(bcell C).1 _ _ (by omega)];exact d2
    clear k1 C k4 a7 N d1 d2 M ki;go_wp2
    go_roundw
    case rel=>exact⟨i+1,_,_,_,by go_num,V,aw,aq,an,by omega,aj.out,bb,e1,e2⟩
    case measure=>simp[intOf];omega
  ·have bp:∀ n∈ns,(jJ u d lo hi n).2=0:=by have:=F.out.2.2;rwa [gJ (by omega)] at this
   have hE:=bpX bp;rw[hE] at HR;have X:=HR.out;simp only[cQ] at X;obtain⟨rfl,rfl⟩:=X
   have c9:Hid (o9 w (ns.map fun n=>(jJ u d lo hi n).1) 0 (.returned (.tuple #[.slice (some ⟨w.heap.size+1+1,0,none⟩) ns.length ns.length,.int .i64 0])) wr):=by
    refine⟨_,zs,rfl,?_,.inr ⟨_,ns.length,_,by rw[F.out.1],by rw[F.out.1];exact vQ _,by rw[F.out.1];exact bv,Q.out,by omega,by omega⟩,ac⟩;have h5:=F.out.2.1;rwa [gJ (by rw[F.out.1];omega),gJ (by omega)] at h5
   clear Q L HR hE;go_wp2;exact eQ (v:=.tuple #[.slice (some ⟨w.heap.size+1+1,0,none⟩) ns.length ns.length,.int .i64 0]) (by simp[results,results51,go_sem]) rfl c9.out
theorem yQ.away (h:yQ w B nb s xs)(l:xs≠[]->∀ b o sp n c,s=.slice (some ⟨b,o,sp⟩) n c->b≠m):yQ w B m s xs:=by
 obtain⟨a,c,i,hc,k,p⟩:=h;refine⟨a,c,i,hc,k,fun hne=>?_⟩;obtain⟨b,o,ha,j,_,g⟩:=p hne;exact⟨b,o,ha,j,l hne b o none xs.length c (by rw[i,ha]),g⟩
def pY (w:World) (B nb:Nat) (v:Value) (ts:List Tr):Prop :=
 ∃ a c,v=.slice a ts.length c/\ts.length<=c/\ts.length<=1073741824/\(∀ t∈ts,yQ w B nb t.1 t.2.1) /\
  (ts≠[]->∃ b o,a=some ⟨b,o,none⟩/\b<B/\b≠nb/\gD w b o ts)
theorem pY.parts {ts:List Tr}(h:pY w w.heap.size nb v ts):uX w w.heap.size v ts:=by
 obtain⟨a,c,k,hc,j,hi,l⟩:=h;refine⟨a,c,k,hc,j,fun t ht=>(hi t ht).mono (vQ _) (.inr (vQ _)),fun hne=>?_⟩;obtain⟨b,o,ha,i,_,g⟩:=l hne;exact⟨b,o,ha,i,g⟩
theorem pY.at2 {ts:List Tr}(h:pY w w.heap.size nb v ts)(i:xQ w w'):pY w' w'.heap.size nb v ts:=by
 obtain⟨a,c,l,hc,j,hi,m⟩:=h;refine⟨a,c,l,hc,j,fun t ht=>(hi t ht).at2 i,fun hne=>?_⟩;obtain⟨b,o,ha,hB,k,g⟩:=m hne;exact⟨b,o,ha,lQ hB i.size,k,g.keep i hB⟩
theorem aaQ {lo:Nat}{ts:List Tr}(h:uV w lo v ts)(g:dZ lo ts)(k:m<lo):pY w w.heap.size m v ts:=by
 rcases h with⟨rfl,rfl⟩|⟨b,o,c,rfl,hc,i,j,a,hi⟩
 ·exact⟨none,0,rfl,vQ _,by simp,by simp,fun h=>absurd rfl h⟩
 ·refine⟨_,c,rfl,hc,i,fun t ht=>(hi t ht).away fun hne b o sp n c e=>?_,fun _=>⟨b,o,rfl,a.lt,by omega,a.cells⟩⟩
  have:=g t ht hne b o sp n c e;omega
abbrev Dl:=Value × List Tr
def kM (w:World) (B:Nat) (v:Value) (ns:List Dl):Prop :=
 ∃ a c,v=.slice a ns.length c/\ns.length<=c/\ns.length<=1073741824/\(∀ n∈ns,uX w B n.1 n.2) /\
  (ns≠[]->∃ b o,a=some ⟨b,o,none⟩/\b<B/\∀ i n,ns[i]? = some n->w.cell? ⟨b,o+i,none⟩=some n.1)
theorem kM.get {ns:List Dl}(D:kM w B (.slice a n c) ns)(hB:B<=w.heap.size)(k:xQ w wr)(h:i<ns.length) :
  ∃ b o m nc j,a=some ⟨b,o,none⟩/\b<w.heap.size/\ns[i]? = some (.slice m j.length nc,j)/\wr.cell? ⟨b,o+i,none⟩=some (.slice m j.length nc)/\uX wr B (.slice m j.length nc) j:=by
 obtain⟨F,G,C,hc,I,hi,E⟩:=D;simp only[yZ] at C;obtain⟨rfl,rfl,rfl⟩:=C;obtain⟨b,o,ha,H,g⟩:=E (ne_of_lt h);obtain⟨⟨s,j⟩,y⟩:=fX h;have z:=hi _ (qX y);have v:=z.at hB k;obtain⟨m,nc,A,_⟩:=z;simp only at A;subst A;have l:b<w.heap.size:=by omega
 exact⟨b,o,m,nc,j,ha,l,y,(k.cell (p:=⟨b,o+i,none⟩) l).trans (g i _ y),v⟩
theorem yQ.grow2 (h:yQ W W.heap.size m s xs)(C:yQ W W.heap.size m0 s xs)(A:W.grownBy w' row)(l:∀ g,row=some g->m0=g):yQ w' w'.heap.size m s xs:=by
 obtain⟨a,c,B,hc,D,F⟩:=h;obtain⟨a0,c0,k,_,_,z⟩:=C;refine⟨a,c,B,hc,D,fun hne=>?_⟩;obtain⟨b,o,ha,G,E,j⟩:=F hne;obtain⟨b0,H,p,_,y,_⟩:=z hne;rw[B,ha,p] at k;simp only[yZ,aZ,dD] at k;have v:=k.1.1;have:=A.size;exact⟨b,o,ha,by omega,E,fun i x hi=>A.cell (j i x hi) fun e=>y (by rw[<-v];exact(l b e.symm).symm)⟩
theorem pY.grow2 {ts:List Tr}(h:pY W W.heap.size m v ts)(F:pY W W.heap.size m0 v ts)(y:W.grownBy w' row)(l:∀ g,row=some g->m0=g):pY w' w'.heap.size m v ts:=by
 obtain⟨a,c,E,hc,G,hi,I⟩:=h;obtain⟨a0,c0,p,_,_,B,D⟩:=F;refine⟨a,c,E,hc,G,fun t ht=>(hi t ht).grow2 (B t ht) y l,fun hne=>?_⟩;obtain⟨b,o,ha,J,H,j⟩:=I hne;obtain⟨b0,L,z,_,C,_⟩:=D hne;rw[E,ha,z] at p;simp only[yZ,aZ,dD] at p;have A:=p.1.1;have k:some b≠row:=fun e=>C (by rw[<-A];exact(l b e.symm).symm);have:=y.size;exact⟨b,o,ha,by omega,H,fun i t ht=>⟨y.cell (j i t ht).1 k,y.cell (j i t ht).2 k⟩⟩
def fJ (w:World) (h:Nat) (v:Value) (zs:List Dz):Prop :=
 ∃ a c,v=.slice a zs.length c/\zs.length<=c/\zs.length<=1073741824/\(∀ z∈zs,∀ m,m<h->pY w w.heap.size m z.1 z.2) /\
  (zs≠[]->∃ b o,a=some ⟨b,o,none⟩/\h<=b/\b<w.heap.size/\∀ i z,zs[i]? = some z->w.cell? ⟨b,o+i,none⟩=some z.1)
theorem fJ.nil (w:World)(h:Nat):fJ w h (.slice none 0 0) []:=⟨none,0,rfl,vQ _,by simp,by simp,fun h=>absurd rfl h⟩
theorem fJ.keep {zs:List Dz}(d:fJ w h v zs)(j:xQ w w'):fJ w' h v zs:=by
 obtain⟨a,c,A,hc,y,hi,B⟩:=d;refine⟨a,c,A,hc,y,fun z hz m hm=>(hi z hz m hm).at2 j,fun hne=>?_⟩;obtain⟨b,o,ha,l,k,g⟩:=B hne;exact⟨b,o,ha,l,lQ k j.size,fun i z hz=>(j.cell (p:=⟨b,o+i,none⟩) k).trans (g i z hz)⟩
theorem fJ.mono {zs:List Dz}(d:fJ w h v zs)(k:h'<=h):fJ w h' v zs:=by
 obtain⟨a,c,i,hc,g,hi,j⟩:=d;exact⟨a,c,i,hc,g,fun z hz m hm=>hi z hz m (by omega),fun hne=>let ⟨b,o,ha,h1,h2⟩:=j hne;⟨b,o,ha,by omega,h2⟩⟩
theorem fJ.dss {zs:List Dz}(d:fJ w h v zs)(g:0<h):kM w w.heap.size v zs:=by
 obtain⟨a,c,j,hc,i,hi,k⟩:=d;exact⟨a,c,j,hc,i,fun z hz=>(hi z hz 0 g).parts,fun hne=>let ⟨b,o,ha,_,h2,h3⟩:=k hne;⟨b,o,ha,h2,h3⟩⟩
theorem fJ.set {k:Nat}{zs:List Dz}(d:fJ w h v zs)(y:g<h):fJ (w.setCell ⟨g,k,none⟩ x) h v zs:=by
 obtain⟨a,c,B,hc,A,hi,C⟩:=d;refine⟨a,c,B,hc,A,fun z hz m hm=>(hi z hz m hm).grow2 (hi z hz g y) (fL w g k x) (fun g' e=>by simpa using e),fun hne=>?_⟩;obtain⟨b,o,ha,l,p,j⟩:=C hne;exact⟨b,o,ha,l,by simpa using p,fun i z hz=>(fL w g k x).cell (j i z hz) (by simp;omega)⟩
theorem m9.dssA {zs:List Dz}(d:m9 w h v zs):fJ w h v zs:=by
 rcases d with⟨rfl,rfl⟩|⟨g,cap,lo,rfl,j,o,a,k,l⟩
 ·exact fJ.nil w h
 ·exact⟨_,cap,rfl,j,by omega,fun z hz m hm=>aaQ (a.el z hz).1 (a.el z hz).2 (by omega),fun _=>⟨g,0,rfl,k,a.lt,fun i z hz=>by rw[vX];exact a.cell i z hz⟩⟩
def ebZ (l:List Pt) (bits:List Int) (w:World) (e:Ending) (w':World):Prop :=
 xQ w w'/\((cV l bits=none/\e=.returned (.tuple #[qI,.bool false])) \/
  (∃ a c o k r,cV l bits=some (o,k,r)/\e=.returned (.tuple #[.agg #[.slice a (o:List Int).length c,int i64 k],.bool true])/\∀ m,m<w.heap.size->yQ w' w'.heap.size m (.slice a o.length c) o))
theorem ebJ (B nb:Nat)(v u:Value)(ts:List Tr)(bits:List Int)(w:World)(hB:B<=w.heap.size)(hp:uX w B v ts)(hv:yQ w B nb u bits)(R:kY bits=false)(bp:bits.length<=65536)(ho:fU (rd ts)=(rd ts,0)) :
  Calls prog 57 #[v,u] w (ebZ (rd ts) bits w):=by
 have HV:=qQ hv;have af:=qQ R;have Q:=(qB ho).2;have aj:xQ w (w.alloc (.cells #[.slice none 0 0,int i64 0] 110)):=ba _ _;have kn:=fT B v ts (w.alloc (.cells #[.slice none 0 0,int i64 0] 110)) (by simp;omega) (hp.at hB aj) (rd ts) 0 ho;have ai:Hid (Rv (w.alloc (.cells #[.slice none 0 0,int i64 0] 110)) w.heap.size (.slice none 0 0) 0):=Rv.new _ _ _ _ _ rfl;have ah:=qQ Q;obtain⟨pa,pc,rfl,_⟩:=hp;obtain⟨a,c,rfl,hc,hl,_⟩:=hv;clear R aj ho Q;go_enter func57,ntmps57;go_wp2_with fail;refine kn.mono ?_;rintro e I ⟨Z,⟨h0,_⟩|⟨_,E,ra,rc,y,rfl,j,g,P,L⟩⟩
 ·exact absurd rfl h0
 have hE:w.heap.size+1<=E:=by simpa using L
 rw[<-j] at g;have Y:Dis (rd y):=by rw[j];exact ah.out
 have D:=bmQ I.heap.size E ra rc y Y g.lt;have HD:=qQ D;have hS:aH I.heap.size E ra rc y I (0,0,1):=aH.start Y g P;have HS:=qQ hS;have HN:Hid (xK (xI (rd y)) (0,0,1) (uH (rd y))=cV (rd ts)):=by rw[Hid,blJ,j]
 have J:=qQ (ai.out.below Z);have ay:Hid (xQ w I):=bt (ba _ _) Z;have bm:=g.lt;have kc:=D.sure I (0,0,1) hS (vQ _);clear kn j g P L Y D hS ai Z;go_wp2_with fail;refine kc.mono ?_;rintro e w2 ⟨F,a7,a8⟩;have am:=F.size;have l:=qQ (J.out.below F);have ae:=qQ (bt ay.out F);cases hsur:uH (rd y) with
 | some o =>
  obtain⟨M,N,rfl,hI⟩:=a8 o hsur;have z:Hid (∀ m,m<w.heap.size+1->yQ w2 w2.heap.size m (.slice M o.length N) o):=fun m hm=>hI m (by omega);have b3:Hid (cV (rd ts) bits=some (o,0,bits)):=by rw[Hid,<-HN.out];simp only[xK,hsur]
  clear a7 a8 hI kc hsur;obtain⟨r0,r1,r2,r3,r4⟩:=l.out;go_wp2;generalize hX:((w2.setCell ⟨w.heap.size,0,none⟩ (.slice M o.length N)).setCell ⟨w.heap.size,1,none⟩ (int i64 0)).alloc (.cells #[.slice M o.length N,int i64 0] 110)=X;have G:xQ w X:=hX▸bal (bs (bs ae.out (p:=⟨w.heap.size,0,none⟩) (vQ _) _) (p:=⟨w.heap.size,1,none⟩) (vQ _) _) _;have C:Rv X w.heap.size (.slice M o.length N) 0:=hX▸((l.out.put _ _).alloc _)
  have V:Hid (∀ m,m<w.heap.size+1->yQ X X.heap.size m (.slice M o.length N) o):=by
   have j:=yQ.setm (yQ.setm z.out w.heap.size 0 (by omega) (.slice M o.length N)) w.heap.size 1 (by omega) (int i64 0);intro m hm;have g:=j m hm;rw[show w2.heap.size=((w2.setCell ⟨w.heap.size,0,none⟩ (.slice M o.length N)).setCell ⟨w.heap.size,1,none⟩ (int i64 0)).heap.size by simp] at g;rw[<-hX];exact(g.keep (ba _ _)).mono (by simp) (.inl rfl)
  clear hX;obtain⟨x0,x1,_,_,_⟩:=C;exact eQ (v:=.tuple #[.agg #[.slice M o.length N,int i64 0],.bool true]) (by simp[results,results57,go_sem,x0,x1]) rfl ⟨G,.inr ⟨M,N,o,0,bits,b3.out,rfl,fun m hm=>V.out m (by omega)⟩⟩
 | none =>
  have he:=a7 hsur;subst he;have az:Hid (xI (rd y) (0,0,1) bits=cV (rd ts) bits):=by rw[Hid,<-HN.out];simp only[xK,hsur]
  have b6:=qQ hsur;have b5:=qQ (HD.out.keep HS.out F (vQ _));clear a7 a8 kc hsur;obtain⟨r0,r1,r2,r3,r4⟩:=l.out;go_wp2;generalize hX:w2.alloc (.cells #[.slice none 0 0,int i64 0] 110)=X;have G:xQ w X:=hX▸bal ae.out _;have C:Hid (Rv X w.heap.size (.slice none 0 0) 0):=hX▸l.out.alloc _;have b8:Hid (aH I.heap.size E ra rc y X (0,0,1)):=hX▸HD.out.keep b5.out ((ba _ _).mono am) am;have bi:I.heap.size<=X.heap.size:=by rw[<-hX];simp;omega
  clear hX F r0 r1 r2 r3 r4
  go_loopw [28] (fun iv wr=>∃ (i:Nat) (s:Int × Int × Int),iv=int i64 (i:Int)/\i<=bits.length/\Hid (aH I.heap.size E ra rc y wr s/\s.2.1=i/\cV (rd ts) bits=xI (rd y) s (bits.drop i))/\Hid (xQ w wr/\I.heap.size<=wr.heap.size)/\Hid (Rv wr w.heap.size (.slice none 0 0) 0)) (fun iv _=>bits.length - (intOf iv).toNat)
  case atStart=>exact⟨0,(0,0,1),rfl,dQ _,⟨b8.out,rfl,by rw[<-az.out];simp⟩,⟨G,bi⟩,C⟩
  case round =>
   obtain⟨i,s,rfl,cd,z,O,J⟩:=hrel;have hz:w.heap.size+1<=wr.heap.size:=J.out.lt;by_cases j:i<bits.length
   ·obtain⟨b,hb⟩:=fX j
    have HB:=qQ hb;have bc:=qQ (HV.out.at hB O.out.1);obtain⟨_,_,al,_,_,hx⟩:=bc.out;simp only[yZ] at al;obtain⟨rfl,-,rfl⟩:=al;obtain⟨bb,bo,rfl,c9,ca,H⟩:=hx (ne_of_lt j);have c1:=H i b hb;have ak:=j9 af.out hb;have kc:=HD.out.feed b6.out wr s b z.out.1 O.out.2 ak (by simp only[z.out.2.1];omega);clear hb hx H;go_wp2_with fail;refine kc.mono ?_;rintro e w4 ⟨h,⟨rfl,s',g,P,L⟩|⟨S,T,o,rfl,g,P,L⟩⟩
    ·have k:Hid (aH I.heap.size E ra rc y w4 s'/\s'.2.1=(i+1:Nat)/\cV (rd ts) bits=xI (rd y) s' (bits.drop (i+1))):=⟨g,by simp only at P;rw[P,z.out.2.1];omega,by
      rw[z.out.2.2,eV j,<-L];have:=(fQ.1 HB.out).2;rw[this]⟩
     have A:=qQ (J.out.gb h (by omega));have U:=qQ (O.out.1.trans (yF h (by omega) (by omega)));have bh:wr.heap.size<=w4.heap.size:=h.size;have cc:=O.out.2;clear kc g P L h z O J;obtain⟨r0,r1,r2,r3,r4⟩:=A.out;go_wp2
     go_roundw
     case rel=>exact⟨i+1,s',by go_num,j,⟨HD.out.keep k.out.1 ((ba _ _).mono (by omega)) (by omega),k.out.2⟩,⟨bal U.out _,by simp;omega⟩,A.out.alloc _⟩
     case measure=>simp[intOf];omega
    ·have hu:s.2.1=(i:Int):=z.out.2.1
     simp only[hu] at L ⊢
     have k:Hid (cV (rd ts) bits=some (o,(i:Int)+1,bits.drop (i+1))):=by
      have:=(fQ.1 HB.out).2;rw[Hid,z.out.2.2,eV j,this,L]
     have A:=qQ (J.out.gb h (by omega));have U:=qQ (O.out.1.trans (yF h (by omega) (by omega)));have bh:wr.heap.size<=w4.heap.size:=h.size;have HO:=qQ g;clear kc g P L h z O J hu;obtain⟨r0,r1,r2,r3,r4⟩:=A.out;go_wp2;generalize hX:((w4.setCell ⟨w.heap.size,0,none⟩ (.slice S o.length T)).setCell ⟨w.heap.size,1,none⟩ (int i64 ((i:Int)+1))).alloc (.cells #[.slice S o.length T,int i64 ((i:Int)+1)] 110)=X;have G:xQ w X:=hX▸bal (bs (bs U.out (p:=⟨w.heap.size,0,none⟩) (vQ _) _) (p:=⟨w.heap.size,1,none⟩) (vQ _) _) _;have C:Rv X w.heap.size (.slice S o.length T) ((i:Int)+1):=hX▸((A.out.put _ _).alloc _)
     have V:Hid (∀ m,m<w.heap.size+1->yQ X X.heap.size m (.slice S o.length T) o):=by
      have j:=yQ.setm (yQ.setm (fun m hm=>HO.out m (by omega)) w.heap.size 0 (show w.heap.size<w.heap.size+1 by omega) (.slice S o.length T)) w.heap.size 1 (by omega) (int i64 ((i:Int)+1));intro m hm;have g:=j m hm;rw[show w4.heap.size=((w4.setCell ⟨w.heap.size,0,none⟩ (.slice S o.length T)).setCell ⟨w.heap.size,1,none⟩ (int i64 ((i:Int)+1))).heap.size by simp] at g;rw[<-hX];exact(g.keep (ba _ _)).mono (by simp) (.inl rfl)
     clear hX;obtain⟨x0,x1,_,_,_⟩:=C
     exact eQ (v:=.tuple #[.agg #[.slice S o.length T,int i64 ((i:Int)+1)],.bool true]) (by simp[results,results57,go_sem,x0,x1]) rfl
      ⟨G,.inr ⟨S,T,o,_,_,k.out,rfl,fun m hm=>V.out m (by omega)⟩⟩
   ·have k:Hid (cV (rd ts) bits=none):=by rw[Hid,z.out.2.2,gA (by omega),HD.out.nil]
    have l:=J.out.put (.slice none 0 0) 0;obtain⟨r0,r1,r2,r3,r4⟩:=J.out;obtain⟨x0,x1,_,_,_⟩:=l;go_wp2
    exact eQ (v:=.tuple #[qI,.bool false]) (by simp[results,results57,go_sem,x0,x1]) rfl
     ⟨bs (bs O.out.1 (p:=⟨w.heap.size,0,none⟩) (vQ _) _) (p:=⟨w.heap.size,1,none⟩) (vQ _) _,.inl ⟨k.out,rfl⟩⟩
