import Derived.Test.YtdceajgpolckiaaGreatDoorQq11
import Derived.Maps.Own
import Derived.Maps.OwnOps
import Derived.Maps.OwnSet
import Derived.Maps.Views
open Go.Proofs.Tryz
set_option linter.unusedSimpArgs false
set_option maxHeartbeats 16000000
set_option maxRecDepth 100000
namespace Go.Proofs.YtdceajgpolckiaaGreatDoor
section
open Go.RowKit Ds
theorem bxJ (B nb:Nat)(v:Value)(xs:List Int)(w:World)(hB:B<=w.heap.size)(hp:zQ w B nb v xs)(l:List Pt)(er:Int)(hr:gV [(xs,1)]=(l,er)) :
  Calls prog 138 #[v] w fun e w'=>∃ v' us,e=.returned (.tuple #[v',.int .i64 er])/\rd us=l/\cJ w' w.heap.size v' us/\Below w.heap.size w w'/\nX w.heap.size us:=by
 have kc:=vT (w.heap.size+1) _ _ _ (by simp) (bjX w B nb v xs 1 hB hp) l er hr;obtain⟨a,c,rfl,hc,hl,_⟩:=hp;clear hr;go_enter func138,ntmps138;go_wp2_with fail;refine kc.mono ?_;rintro e w1 ⟨v1,us,rfl,hrd,ho,hb1,hfr⟩;have HO:Hid (cJ w1 w.heap.size v1 us):=ho.mono (by simp);have HF:Hid (nX w.heap.size us):=hfr.mono (by simp);have HD:Hid (rd us=l):=hrd;obtain⟨a1,c1,rfl⟩:=ho.slice;clear ho hrd kc hfr;go_wp2;exact yQ (v:=.tuple #[.slice a1 us.length c1,.int .i64 er]) (by simp[results,results138,go_sem]) rfl ⟨_,us,rfl,HD.out,HO.out,bt (ba _ _) hb1,HF.out⟩
def uF (w:World) (l:List Pt) (er:Int) (e:Ending) (w':World):Prop :=
 ∃ v' us,e=.returned (.tuple #[v',.int .i64 er])/\rd us=l/\cJ w' w.heap.size v' us/\Below w.heap.size w w'/\nX w.heap.size us
theorem uF.err {w w':World}{er:Int}(hb:Below w.heap.size w w'):uF w [] er (.returned (.tuple #[.slice none 0 0,.int .i64 er])) w' :=
 ⟨_,[],rfl,rfl,.inl ⟨rfl,rfl⟩,hb,nX.nil _⟩
theorem byQ (u d lo hi n:Int)(l:List Pt)(er:Int)(hr:nZ u d lo hi n=(l,er))(w:World) :
  Calls prog 81 #[rv u d,.int .i64 lo,.int .i64 hi,.int .i64 n] w (uF w l er):=by
 obtain⟨e0,he0⟩:∃ e0,lD u d=e0:=⟨_,rfl⟩;have kc:=i6 u d e0 he0;rw[nZ,he0] at hr;by_cases c:e0=0
 ·subst c
  obtain⟨hrt,hdu,hd1,hu1⟩:=i1 he0;rw[qQ (by simp)] at hr;by_cases cb:-1073741824<=lo/\lo<=hi/\hi<=1073741824/\hi - lo<=64
  ·obtain⟨b1,b2,b3,b4⟩:=cb
   rw[qQ (by simp;omega)] at hr;by_cases ce:lo=hi
   ·subst ce
    rw[xQ rfl] at hr;have ks:=fun W:World=>bxJ (W.heap.size+1) (W.heap.size+1) _ [lo] (W.alloc (.cells #[.int .i64 lo] 3)) (by simp) (l6 W lo (W.heap.size+1) (by omega)) l er hr;clear he0 hrt hr;go_enter func81,ntmps81;go_wp2_with fail;refine(kc _).mono ?_;rintro e w1 ⟨rfl,hb1⟩;have G1:=bt (ba _ _) hb1;obtain⟨hc1,hf1⟩:=bcell hb1;go_wp2_with fail;refine(ks _).mono ?_;rintro e w2 ⟨v2,us,rfl,k1,k2,k3,k4⟩;obtain⟨a2,c2,rfl⟩:=k2.slice;have hz1:w.heap.size<=w1.heap.size+1:=by have:=G1.size;omega
    have HZ:Hid (uF w l er (.returned (.tuple #[.slice a2 us.length c2,.int .i64 er])) w2):=⟨_,us,rfl,k1,k2.mono (by simpa using hz1),bt G1 (bt (ba _ _) k3),k4.mono (by simpa using hz1)⟩;clear k1 k2 k3 k4 ks;go_wp2;exact yQ (v:=.tuple #[.slice a2 us.length c2,.int .i64 er]) (by simp[results,results81,go_sem]) rfl HZ.out
   ·rw[qQ ce] at hr
    obtain⟨R,hR⟩:∃ R:Nat,hi - lo=(R:Int):=⟨(hi - lo).toNat,by omega⟩;obtain rfl:hi=lo+(R:Int):=by omega
    obtain⟨A,hA⟩:∃ A:Nat,oU lo (lo+(R:Int)) n=lo+(A:Int):=⟨(oU lo (lo+(R:Int)) n - lo).toNat,by unfold oU;omega⟩
    have hA2:A<=R:=by
     have:oU lo (lo+(R:Int)) n<=lo+(R:Int):=by unfold oU;omega
     omega
    rw[hA,show(lo+(R:Int) - lo).toNat=R by omega,show(lo+(A:Int) - lo).toNat=A by omega] at hr;have hR1:1<=R:=by omega
    have HA:Hid (oU lo (lo+(R:Int)) n=lo+(A:Int)):=hA
    have ki:∀ W,Calls prog 80 #[.int .i64 n,.int .i64 lo,.int .i64 (lo+(R:Int))] W fun e w'=>e=.returned (.int .i64 (lo+(A:Int)))/\w' = W:=fun W=>by
     have:=fN n lo (lo+(R:Int)) W;rw[HA.out] at this;exact this
    have wE:lo+(R:Int) - lo=(R:Int):=by omega
    have km:∀ (m:Int) (W:World) (b:Bool),m=(R:Int)->decide (1073741824<(u+d)*u ^ R)=b->Calls prog 139 #[rv u d,.int .i64 m] W fun e w'=>e=.returned (.bool b)/\Below W.heap.size W w':=fun m W b hm hb=>by subst hm;exact bwX u d R (by omega) hd1 hu1 hdu b hR1 hb W
    have ce':(lo == lo+(R:Int))=false:=by simp;omega
    by_cases cm:1073741824<(u+d)*u ^ R
    ·rw[xQ cm] at hr
     simp only[cQ] at hr;obtain⟨rfl,rfl⟩:=hr;have CM:Hid (decide (1073741824<(u+d)*u ^ R)=true):=vG cm;clear cm he0 hrt hA hR wE;go_enter func81,ntmps81;go_wp2_with fail;refine(kc _).mono ?_;rintro e w1 ⟨rfl,hb1⟩;have G1:=bt (ba _ _) hb1;obtain⟨hc1,hf1⟩:=bcell hb1;go_wp2_with fail;refine(km _ _ true (by omega) CM.out).mono ?_;rintro e w2 ⟨rfl,hb2⟩;have G2:=bt G1 hb2;go_wp2;exact yQ (v:=.tuple #[.slice none 0 0,.int .i64 4]) (by simp[results,results81,go_sem]) rfl (uF.err G2)
    ·rw[qQ cm] at hr
     have CM:Hid (decide (1073741824<(u+d)*u ^ R)=false):=nV cm;have kh:=bxZ u d lo R A hR1 (by omega) hA2 hd1 hdu hu1 (by omega) b1 b3 l er hr;clear cm he0 hrt hA hR hr wE;go_enter func81,ntmps81;go_wp2_with fail;refine(kc _).mono ?_;rintro e w1 ⟨rfl,hb1⟩;have G1:=bt (ba _ _) hb1;obtain⟨hc1,hf1⟩:=bcell hb1;go_wp2_with fail;refine(km _ _ false (by omega) CM.out).mono ?_;rintro e w2 ⟨rfl,hb2⟩;have G2:=bt G1 hb2;obtain⟨hc2,hf2⟩:=bcell hb2;have hz1:w.heap.size<w1.heap.size:=by have:=hb1.size;simp at this;omega
     have d1:w2.cell? ⟨w.heap.size,0,none⟩=some (.int .i64 u):=by rw[hc2 _ _ hz1,hc1 _ _ (by simp)];simp[go_sem]
     have d2:w2.cell? ⟨w.heap.size,1,none⟩=some (.int .i64 d):=by rw[hc2 _ _ hz1,hc1 _ _ (by simp)];simp[go_sem]
     have lw:w.heap.size<w2.heap.size:=by have:=hb2.size;omega
     clear hc1 hf1 hc2 hf2;go_wp2_with fail
     go_region_held3 (fun w'=>w'.cell? ⟨w.heap.size,0,none⟩=some (.int .i64 u)/\w'.cell? ⟨w.heap.size,1,none⟩=some (.int .i64 d))
      ((go_split_ands;refine⟨?_,?_⟩ <;> first|assumption|(simp[go_sem, *];done)))
      (first
       | (go_at_call 80;refine(ki _).mono ?_;rintro x3 w3 ⟨rfl,rfl⟩)
       | (go_at_call 140;refine(kh _).mono ?_;rintro x4 w4 ⟨v4,us,rfl,k1,k2,k3,k4⟩;obtain⟨a2,c2,hv4⟩:=k2.slice;subst hv4;obtain⟨hc4,hf4⟩:=bcell k3;have q1:w4.cell? ⟨w.heap.size,0,none⟩=some (.int .i64 u):=(hc4 _ _ lw).trans d1;have q2:w4.cell? ⟨w.heap.size,1,none⟩=some (.int .i64 d):=(hc4 _ _ lw).trans d2;clear hc4 hf4))
     have HZ:Hid (uF w l er (.returned (.tuple #[.slice a2 us.length c2,.int .i64 er])) w4):=⟨_,us,rfl,k1,k2.mono G2.size,bt G2 (bt (aQ _ _).drew k3),k4.mono G2.size⟩;clear k1 k2 k3 k4 kh;go_wp2;exact yQ (v:=.tuple #[.slice a2 us.length c2,.int .i64 er]) (by simp[results,results81,go_sem]) rfl HZ.out
  ·rw[xQ cb] at hr
   simp only[cQ] at hr;obtain⟨rfl,rfl⟩:=hr;clear he0 hrt;by_cases b1:lo < -1073741824
   ·clear cb
    go_enter func81,ntmps81;go_wp2_with fail;refine(kc _).mono ?_;rintro e w1 ⟨rfl,hb1⟩;have G1:=bt (ba _ _) hb1;obtain⟨hc1,hf1⟩:=bcell hb1;go_wp2;exact yQ (v:=.tuple #[.slice none 0 0,.int .i64 3]) (by simp[results,results81,go_sem]) rfl (uF.err G1)
   ·by_cases b2:hi<lo
    ·clear cb
     go_enter func81,ntmps81;go_wp2_with fail;refine(kc _).mono ?_;rintro e w1 ⟨rfl,hb1⟩;have G1:=bt (ba _ _) hb1;obtain⟨hc1,hf1⟩:=bcell hb1;go_wp2;exact yQ (v:=.tuple #[.slice none 0 0,.int .i64 3]) (by simp[results,results81,go_sem]) rfl (uF.err G1)
    ·by_cases b3:1073741824<hi
     ·clear cb
      go_enter func81,ntmps81;go_wp2_with fail;refine(kc _).mono ?_;rintro e w1 ⟨rfl,hb1⟩;have G1:=bt (ba _ _) hb1;obtain⟨hc1,hf1⟩:=bcell hb1;go_wp2;exact yQ (v:=.tuple #[.slice none 0 0,.int .i64 3]) (by simp[results,results81,go_sem]) rfl (uF.err G1)
     ·have b4:64<hi - lo:=by omega
      clear cb;go_enter func81,ntmps81;go_wp2_with fail;refine(kc _).mono ?_;rintro e w1 ⟨rfl,hb1⟩;have G1:=bt (ba _ _) hb1;obtain⟨hc1,hf1⟩:=bcell hb1;go_wp2;exact yQ (v:=.tuple #[.slice none 0 0,.int .i64 3]) (by simp[results,results81,go_sem]) rfl (uF.err G1)
 ·rw[xQ c] at hr
  simp only[cQ] at hr;obtain⟨rfl,rfl⟩:=hr;have c1:(e0 == 0)=false:=by simpa using c
  have c2:(e0 != 0)=true:=by simpa using c
  clear he0;go_enter func81,ntmps81;go_wp2_with fail;refine(kc _).mono ?_;rintro e w1 ⟨rfl,hb1⟩;have G1:=bt (ba _ _) hb1;obtain⟨hc1,hf1⟩:=bcell hb1;go_wp2;exact yQ (v:=.tuple #[.slice none 0 0,.int .i64 e0]) (by simp[results,results81,go_sem]) rfl (uF.err G1)
def Fc (b:Nat) (n m:Int) (W:World):Prop :=
 W.cell? ⟨b,0,none⟩=some (.int .i64 n)/\W.cell? ⟨b,1,none⟩=some (.int .i64 m)/\W.frozen? ⟨b,0,none⟩=false/\W.frozen? ⟨b,1,none⟩=false
theorem byX (w:World)(n m:Int):Fc w.heap.size n m (w.alloc (.cells #[.int .i64 n,.int .i64 m] 32)):=by
 refine⟨?_,?_,?_,?_⟩ <;> simp[go_sem]
theorem Row.setS {w:World}{b:Nat}{us:List Tr}(h:Row w b 0 us){i:Nat}{t:Tr}(ht:us[i]? = some t)(s:Value) :
  Row (w.setCell ⟨b,i*2,none⟩ s) b 0 (us.set i (s,t.2.1,t.2.2)):=by
 have hi:=(lQ.1 ht).1;refine⟨fun j u hu=>?_,fun j hj=>by rw[iZ];exact h.thaw j (by simpa using hj),by simpa using h.lt⟩;by_cases hj:i=j
 ·subst hj
  rw[lA hi] at hu;obtain rfl:(s,t.2.1,t.2.2)=u:=by simpa using hu
  have c:=h.cells i t ht;rw[jZ] at c ⊢;exact⟨jY c.1,by rw[rQ (by simp)];exact c.2⟩
 ·rw[yG hj] at hu
  have c:=h.cells j u hu;exact⟨by rw[rQ (by simp <;> omega)];exact c.1,by rw[rQ (by simp <;> omega)];exact c.2⟩
theorem byZ {us:List Tr}{i:Nat}{t:Tr}(ht:us[i]? = some t)(s:Value):rd (us.set i (s,t.2.1,t.2.2))=rd us:=by
 rw[qT];have:=aU ht;apply zK;intro j;rw[List.getElem?_set];by_cases hj:i=j
 ·subst hj
  rw[xQ rfl,this];split
  ·rfl
  ·rename_i hh;exact absurd (lQ.1 this).1 hh
 ·rw[qQ hj]
theorem byJ {lo i:Nat}{us:List Tr}(h:nX lo (us.take i))(hi:i<us.length){t:Tr}(ht:t.2.1≠[]->∀ b o sp n c,t.1=.slice (some ⟨b,o,sp⟩) n c->lo<=b):nX lo ((us.set i t).take (i+1)):=by
 rw[lL _ hi];intro x hx;rcases zY.1 hx with h1|h1
 ·exact h x h1
 ·obtain rfl:x=t:=by simpa using h1
  exact ht
theorem o6 (B:Nat)(v:Value)(ts:List Tr)(w:World)(hB:B<=w.heap.size)(hp:xX w B v ts) :
  Calls prog 82 #[v] w fun e w'=>∃ v' us,e=.returned v'/\cJ w' w.heap.size v' us/\rd us=rd ts/\Below w.heap.size w w'/\nX w.heap.size us:=by
 have HP:Hid (xX w B v ts):=hp;have kc:=gW B v ts w hB hp;obtain⟨a,c,rfl,hc,hl,_⟩:=hp;go_enter func82,ntmps82;go_wp2_with fail;refine kc.mono ?_;rintro e w1 ⟨v1,rfl,hb1,hv1⟩;rcases hv1 with⟨hts,rfl⟩|⟨g,cap,rfl,hcap,hgb,hrow⟩
 ·subst hts
  clear kc;go_wp2
  go_loopw [10] (fun s wr=>s=.int .i64 0/\wr=w1) (fun _ _=>0)
  case atStart=>exact⟨rfl,rfl⟩
  case round =>
   obtain⟨rfl,rfl⟩:=hrel;go_wp2;go_ret;exact⟨_,[],rfl,.inl ⟨rfl,rfl⟩,rfl,hb1,nX.nil _⟩
 ·have HR:Hid (Row w1 g 0 ts):=hrow
  have hgl:=hrow.lt;clear hrow kc;go_wp2
  go_loopw [10] (fun s wr=>∃ (i:Nat) (us:List Tr),s=.int .i64 (i:Int)/\i<=ts.length/\Hid (us.length=ts.length/\rd us=rd ts)/\Hid (Row wr g 0 us)/\Hid (∀ t∈us,zQ wr wr.heap.size g t.1 t.2.1)/\Hid (nX w.heap.size (us.take i))/\Below w.heap.size w wr) (fun s _=>ts.length - (intOf s).toNat)
  case atStart =>
   refine⟨0,ts,rfl,nQ _,⟨rfl,rfl⟩,HR,fun t ht=>?_,by simp[Hid,nX.nil],hb1⟩;exact((HP.out.elem hB (aQ _ _) ht).at hB hb1).mono (uQ hB hb1.size) (.inr (by omega))
  case round =>
   obtain⟨i,us,rfl,hit,HU,HRw,HI,HF,hbl⟩:=hrel;have hsz:=hbl.size;have hgw:=HRw.out.lt;by_cases h1:i<ts.length
   ·obtain⟨b,o,sa,sc,xs,k,rfl,hb,hs,c1,c2,hIx⟩:=HP.out.get hB hbl h1
    have HIx:Hid (zQ wr B B (.slice sa xs.length sc) xs):=hIx;obtain⟨⟨s0,x0,k0⟩,ht0⟩:=wX (l:=us) (i:=i) (by rw[HU.out.1];exact h1)
    have hxk:x0=xs/\k0=k:=by
     have e1:=aU ht0;have e2:=aU hs;rw[HU.out.2,e2] at e1;simp at e1;exact⟨e1.1.symm,e1.2.symm⟩
    obtain⟨rfl,rfl⟩:=hxk;have HT0:Hid (us[i]? = some (s0,x0,k0)):=ht0;obtain⟨r4,r5⟩:=HRw.out.cells i _ ht0;have r2:=HRw.out.thaw (i*2) (by rw[HU.out.1];omega);simp only[jZ] at r2 r4 r5;have kn:=fun W (h:Below wr.heap.size wr W)=>eN B B (.slice sa x0.length sc) x0 W (uQ hB (uQ hbl.size h.size)) (HIx.out.at (uQ hB hbl.size) h);clear hs hIx ht0;have q1:(wr.alloc (.cells #[.slice sa x0.length sc,.int .i64 k0] 77)).cell? ⟨g,i*2,none⟩=some s0:=by rw[gH _ _ _ hgw];exact r4
    have q2:(wr.alloc (.cells #[.slice sa x0.length sc,.int .i64 k0] 77)).frozen? ⟨g,i*2,none⟩=false:=by rw[(ba wr _).frozen hgw];exact r2
    go_wp2_with fail;refine(kn _ (ba _ _)).mono ?_;rintro e w2 ⟨v2,rfl,hI2,hb2⟩;have hs2:wr.heap.size<w2.heap.size:=by have:=hb2.size;simp at this;omega
    have hz2:0<(wr.alloc (.cells #[.slice sa x0.length sc,.int .i64 k0] 77)).heap.size:=by simp
    obtain⟨av,cv,hv2,_⟩:=hI2 0 hz2;subst hv2;have hgl2:g<(wr.alloc (.cells #[.slice sa x0.length sc,.int .i64 k0] 77)).heap.size:=by simp;omega
    have k1:w2.cell? ⟨g,i*2,none⟩=some s0:=((bcell hb2).1 _ _ hgl2).trans q1;have k2:w2.frozen? ⟨g,i*2,none⟩=false:=((bcell hb2).2 _ _ hgl2).trans q2;have HB2:Hid (Below wr.heap.size wr w2):=bt (ba _ _) hb2;have HR2:Hid (Row (w2.setCell ⟨g,i*2,none⟩ (.slice av x0.length cv)) g 0 (us.set i (.slice av x0.length cv,x0,k0))):=(HRw.out.keep HB2.out).setS HT0.out (.slice av x0.length cv)
    have HI3:Hid (∀ t∈us.set i (.slice av x0.length cv,x0,k0),zQ (w2.setCell ⟨g,i*2,none⟩ (.slice av x0.length cv)) (w2.setCell ⟨g,i*2,none⟩ (.slice av x0.length cv)).heap.size g t.1 t.2.1):=by
     intro t ht
     have h3:zQ w2 w2.heap.size g t.1 t.2.1:=by
      rcases aI ht with h|rfl
      ·exact(HI.out t h).at2 HB2.out
      ·exact hI2 g hgl2
     have h4:=h3.set (p:=⟨g,i*2,none⟩) rfl (.slice av x0.length cv);simpa using h4
    have HF2:Hid (nX w.heap.size ((us.set i (.slice av x0.length cv,x0,k0)).take (i+1))):=byJ HF.out (by rw[HU.out.1];exact h1) (oS (w:=w2) (B:=w2.heap.size) fun m hm=>hI2 m (by simp;omega));have HU2:Hid ((us.set i (.slice av x0.length cv,x0,k0)).length=ts.length/\rd (us.set i (.slice av x0.length cv,x0,k0))=rd ts):=⟨by simp[HU.out.1],(byZ HT0.out _).trans HU.out.2⟩;have HB3:Hid (Below w.heap.size w (w2.setCell ⟨g,i*2,none⟩ (.slice av x0.length cv))):=bs (bt hbl HB2.out) hgb _;clear hI2 hb2 q1 q2 kn HT0;go_wp2
    go_roundw
    case rel=>exact⟨i+1,_,by go_num,h1,HU2,HR2,HI3,HF2,HB3.out⟩
    case measure=>simp[intOf];omega
   ·have hii:ts.length<=i:=by omega
    have HZ:Hid (cJ wr w.heap.size (.slice (some ⟨g,0,none⟩) ts.length cap) us/\rd us=rd ts/\nX w.heap.size us):=by
     refine⟨.inr ⟨g,0,cap,by rw[HU.out.1],by rw[HU.out.1];exact hcap,by rw[HU.out.1];exact hl,hgb,HRw.out,HI.out⟩,HU.out.2,?_⟩;have:=HF.out;rwa [fV (by rw[HU.out.1];exact hii)] at this
    go_wp2;go_ret;exact⟨_,us,rfl,HZ.out.1,HZ.out.2.1,hbl,HZ.out.2.2⟩
open Go.Maps (Keyed int_keyed keyOf_int_mk)
theorem cJ.block {w:World}{lo:Nat}{v:Value}{ts:List Tr}(h:cJ w lo v ts):∀ g,v.ownBlock=some g->lo<=g/\g<w.heap.size:=by
 intro g e;rcases h with⟨rfl,_⟩|⟨b,o,c,rfl,_,_,hlo,hr,_⟩
 ·cases e
 ·simp only[Value.ownBlock,vX] at e
  subst e;exact⟨hlo,hr.lt⟩
theorem cJ.beside {w w':World}{lo:Nat}{v:Value}{ts:List Tr}{row:Option Nat}(h:cJ w lo v ts)(hg:w.grownBy w' row)(h1:∀ g,v.ownBlock=some g->some g≠row)(h2:∀ t∈ts,t.2.1≠[]->∀ b o sp n c,t.1=.slice (some ⟨b,o,sp⟩) n c->some b≠row):cJ w' lo v ts:=by
 rcases h with h|⟨b,o,c,rfl,hc,hl,hlo,hr,hi⟩
 ·exact .inl h
 ·have hk:w'.heap[b]? = w.heap[b]?:=hg.block b hr.lt (h1 b rfl)
  refine .inr ⟨b,o,c,rfl,hc,hl,hlo,⟨fun i t ht=>?_,fun j hj=>?_,qX hr.lt hg.size⟩,fun t ht=>?_⟩
  ·exact⟨(mZ (w:=w) (a:=⟨b,o+i*2,none⟩) hk).trans (hr.cells i t ht).1,(mZ (w:=w) (a:=⟨b,o+i*2+1,none⟩) hk).trans (hr.cells i t ht).2⟩
  ·exact(zV (w:=w) (a:=⟨b,o+j,none⟩) hk).trans (hr.thaw j hj)
  ·have h3:=h2 t ht
   obtain⟨a,c',hv,hc',hl',hx⟩:=hi t ht;refine⟨a,c',hv,hc',hl',fun hne=>?_⟩;obtain⟨b',o',ha,hb',hn,hcell⟩:=hx hne;have h4:=h3 hne b' o' none t.2.1.length c' (by rw[hv,ha]);exact⟨b',o',ha,qX hb' hg.size,hn,fun i x hx=>hg.cell (hcell i x hx) h4⟩
def Dd (w:World) (lo:Nat) (v:Value) (us:List Tr):Prop:=cJ w lo v us/\nX lo us
theorem Dd.keep {w w':World}{lo:Nat}{v:Value}{us:List Tr}(h:Dd w lo v us)(hb:Below w.heap.size w w'):Dd w' lo v us:=⟨h.1.keep hb,h.2⟩
theorem Dd.mono {w:World}{lo lo':Nat}{v:Value}{us:List Tr}(h:Dd w lo v us)(hl:lo'<=lo):Dd w lo' v us:=⟨h.1.mono hl,h.2.mono hl⟩
theorem Dd.beside {w w':World}{lo g:Nat}{v:Value}{us:List Tr}(h:Dd w lo v us)(hg:w.grownBy w' (some g))(hl:g<lo):Dd w' lo v us :=
 ⟨h.1.beside hg (fun g' e=>by have:=(h.1.block g' e).1;simp;omega) (fun t ht hne b o sp n c e=>by have:=h.2 t ht hne b o sp n c e;simp;omega),h.2⟩
theorem Dd.nil (w:World)(lo:Nat):Dd w lo (.slice none 0 0) []:=⟨.inl ⟨rfl,rfl⟩,nX.nil _⟩
theorem nD {w w':World}(h:Below w.heap.size w w'):w.grownBy w' none:=⟨h.os,h.tape,h.output,h.size,fun k hk _=>h.block k hk⟩
theorem oL (w:World)(g k:Nat)(u:Value):w.grownBy (w.setCell ⟨g,k,none⟩ u) (some g):=⟨rfl,rfl,rfl,by simp[World.setCell],fun i _ hr=>xL _ _ _ _ (by intro e;exact hr (by rw[e]))⟩
def hR:Value->Option (DataW Value × List MemPlace):=fun v=>some (.held v,[])
theorem iI:Keyed prog 3:=int_keyed underlying3
theorem bzQ (w:World):(zeroValue 61).run prog w=.ok (.slice none 0 0) w:=by kernel_rfl
structure Mpi (w:World) (b n lo:Nat) (D:DataW Value) (u d l h:Int):Prop where
 own:w.ownsMap prog 3 hR b n D
 el:∀ z:Int,∃ v,D.atKey (.int .i64 z) (.held (.slice none 0 0))=.held v/\(v=.slice none 0 0\/∃ us,Dd w lo v us/\us≠[]/\nZ u d l h z=(rd us,0))
theorem Mpi.keep {w w':World}{b n lo:Nat}{D:DataW Value}{u d l h:Int}(m:Mpi w b n lo D u d l h)(hb:Below w.heap.size w w'):Mpi w' b n lo D u d l h :=
 ⟨m.own.kept (nD hb) (by simp),fun z=>let ⟨v,h1,h2⟩:=m.el z;⟨v,h1,h2.imp id fun⟨us,a,b,c⟩=>⟨us,a.keep hb,b,c⟩⟩⟩
theorem Mpi.beside {w w':World}{b n lo g:Nat}{D:DataW Value}{u d l h:Int}(m:Mpi w b n lo D u d l h)(hg:w.grownBy w' (some g))(hne:b≠g)(hl:g<lo):Mpi w' b n lo D u d l h :=
 ⟨m.own.kept hg (by simpa using hne),fun z=>let ⟨v,h1,h2⟩:=m.el z;⟨v,h1,h2.imp id fun⟨us,a,b,c⟩=>⟨us,a.beside hg hl,b,c⟩⟩⟩
theorem Mpi.made (w:World)(lo:Nat)(u d l h:Int):Mpi (w.alloc (.map #[] 0)) w.heap.size 0 lo (.map []) u d l h :=
 ⟨World.ownsMap_made _ _ _ _,fun _=>⟨.slice none 0 0,rfl,.inl rfl⟩⟩
theorem Mpi.put {w w':World}{b n lo:Nat}{D:DataW Value}{u d l h:Int}(m:Mpi w b n lo D u d l h)(hg:w.grownBy w' (some b))(hl:b<lo){p:Int}{v:Value}{us:List Tr}(hown:w'.ownsMap prog 3 hR b (n+1) (D.put (.int .i64 p) (.held v)))(hd:Dd w lo v us)(hne:us≠[])(hh:nZ u d l h p=(rd us,0)) :
  Mpi w' b (n+1) lo (D.put (.int .i64 p) (.held v)) u d l h:=by
 refine⟨hown,fun z=>?_⟩;by_cases hz:z=p
 ·subst hz
  exact⟨v,Maps.atKey_put_same (k:=.int .i64 z) m.own.isMap True.intro _ _,.inr ⟨us,hd.beside hg hl,hne,hh⟩⟩
 ·obtain⟨v',h1,h2⟩:=m.el z
  exact⟨v',by rw[Maps.atKey_put_other (by simpa using hz)];exact h1,h2.imp id fun⟨us,a,b,c⟩=>⟨us,a.beside hg hl,b,c⟩⟩
theorem Mpi.look {w:World}{b n lo:Nat}{D:DataW Value}{u d l h:Int}(m:Mpi w b n lo D u d l h){p:Int}(hp:(Lit.int .i64 p).wf=true){v:Value}(hv:D.atKey (.int .i64 p) (.held (.slice none 0 0))=.held v) :
  (Instr.lookup 171 (.map (some b)) (.int .i64 p) false).run prog w=.ok v w:=by
 obtain⟨v',ps,hrun,hat⟩:=m.own.lookup iI underlying171 (bzQ w) (zd:=.held (.slice none 0 0)) (zp:=[]) rfl (keyOf_int_mk underlying3 hp);rw[hv] at hat;simp[hR] at hat;rw[hrun,hat.1]
abbrev Dz:=Value × List Tr
structure RowD (w:World) (g lo:Nat) (zs:List Dz):Prop where
 lt:g<w.heap.size
 cell:∀ j z,zs[j]? = some z->w.cell? ⟨g,j,none⟩=some z.1
 thaw:∀ j,j<zs.length->w.frozen? ⟨g,j,none⟩=false
 el:∀ z∈zs,Dd w lo z.1 z.2
def rds (zs:List Dz):List (List Pt):=zs.map fun z=>rd z.2
theorem RowD.keep {w w':World}{g lo:Nat}{zs:List Dz}(h:RowD w g lo zs)(hb:Below w.heap.size w w'):RowD w' g lo zs :=
 ⟨qX h.lt hb.size,fun j z hj=>(hb.cell (p:=⟨g,j,none⟩) h.lt).trans (h.cell j z hj),fun j hj=>(hb.frozen (p:=⟨g,j,none⟩) h.lt).trans (h.thaw j hj),fun z hz=>(h.el z hz).keep hb⟩
theorem RowD.beside {w w':World}{g lo r:Nat}{zs:List Dz}(h:RowD w g lo zs)(hg:w.grownBy w' (some r))(hne:g≠r)(hl:r<lo):RowD w' g lo zs:=by
 have hk:w'.heap[g]? = w.heap[g]?:=hg.block g h.lt (by simpa using hne);exact⟨qX h.lt hg.size,fun j z hj=>(mZ (w:=w) (a:=⟨g,j,none⟩) hk).trans (h.cell j z hj),fun j hj=>(zV (w:=w) (a:=⟨g,j,none⟩) hk).trans (h.thaw j hj),fun z hz=>(h.el z hz).beside hg hl⟩
theorem RowD.set {w:World}{g lo i:Nat}{zs:List Dz}(h:RowD w g lo zs)(hi:i<zs.length)(hl:g<lo){v:Value}{us:List Tr}(hd:Dd w lo v us):RowD (w.setCell ⟨g,i,none⟩ v) g lo (zs.set i (v,us)):=by
 refine⟨by simpa using h.lt,fun j z hj=>?_,fun j hj=>by rw[iZ];exact h.thaw j (by simpa using hj),fun z hz=>?_⟩
 ·by_cases hij:i=j
  ·subst hij
   rw[lA hi] at hj;obtain rfl:(v,us)=z:=by simpa using hj
   obtain⟨z0,hz0⟩:=wX hi;exact jY (h.cell i z0 hz0)
  ·rw[yG hij] at hj
   rw[rQ (by simp)];exact h.cell j z hj
 ·rcases aI hz with h1|rfl
  ·exact(h.el z h1).beside (oL w g i v) hl
  ·exact hd.beside (oL w g i v) hl
theorem bzX (w:World)(n lo:Nat):RowD (w.alloc (.cells (madeCells #[.slice none 0 0] n) 61)) w.heap.size lo (List.replicate n (.slice none 0 0,[])):=by
 refine⟨by simp,fun j z hj=>?_,fun j _=>pR _ _ _ _ rfl,fun z hz=>?_⟩
 ·have hi:j<n:=by have:=(lQ.1 hj).1;simpa using this
  obtain rfl:z=(.slice none 0 0,[]):=by
   have:=(lQ.1 hj).2;simp at this;exact this.symm
  rw[yK _ _ _ _ rfl];simp[madeCells,hi,Nat.mod_one]
 ·rw[nR hz];exact Dd.nil _ _
def gJ (u d lo hi:Int):List Int->List (List Pt) × Int
 | []=>([],0)
 | n::ns=>if (nZ u d lo hi n).2≠0 then ([],(nZ u d lo hi n).2) else if (gJ u d lo hi ns).2≠0 then ([],(gJ u d lo hi ns).2) else ((nZ u d lo hi n).1::(gJ u d lo hi ns).1,0)
theorem bzZ {u d lo hi:Int}{ns:List Int}(h:∀ n∈ns,(nZ u d lo hi n).2=0):gJ u d lo hi ns=(ns.map fun n=>(nZ u d lo hi n).1,0):=by
 induction ns with
 | nil=>rfl
 | cons n ns ih =>
  have h1:=ih fun x hx=>h x (vN _ hx);have h2:=h n (yN ..);simp[gJ,h1,h2]
theorem bzJ {u d lo hi:Int}{ns:List Int}{i:Nat}{n e:Int}(h:∀ x∈ns.take i,(nZ u d lo hi x).2=0)(hn:ns[i]? = some n)(he:(nZ u d lo hi n).2=e)(he0:e≠0):gJ u d lo hi ns=([],e):=by
 induction ns generalizing i with
 | nil=>simp at hn
 | cons m ns ih =>
  cases i with
  | zero =>
   simp at hn;subst hn;rw[gJ,xQ (by rw[he];exact he0),he]
  | succ i =>
   have h2:=h m (by simp);have h1:=ih (i:=i) (fun x hx=>h x (by simp[hx])) (by simpa using hn);rw[gJ,qQ (by simp[h2]),h1];simp[he0]
theorem kT (u d lo hi n:Int):nZ u d lo hi (oU lo hi n)=nZ u d lo hi n:=by
 unfold nZ;split
 ·rfl
 ·split
  ·rfl
  ·rename_i h
   have:oU lo hi (oU lo hi n)=oU lo hi n:=by unfold oU;omega
   rw[this]
theorem b0Q {u d lo hi n:Int}{l:List Pt}(h:nZ u d lo hi n=(l,0)):l≠[]:=by
 have mk:∀ {L:List Pt},gV L=(l,0)->l≠[]:=by
  intro L hL;unfold gV at hL;split at hL
  ·unfold jA at hL
   split at hL
   ·simp at hL
   ·split at hL
    ·simp at hL
    ·rename_i h1 _
     simp at hL;rw[<-hL];simp[cut,h1]
  ·simp at hL
 unfold nZ at h;split at h
 ·rename_i h1;simp at h;exact absurd h.2 h1
 ·split at h
  ·simp at h
  ·split at h
   ·exact mk h
   ·split at h
    ·simp at h
    ·exact mk h
def lT (w:World) (h:Nat) (v:Value) (zs:List Dz):Prop :=
 (v=.slice none 0 0/\zs=[])\/∃ g cap lo,v=.slice (some ⟨g,0,none⟩) zs.length cap/\zs.length<=cap/\zs.length<=1048576/\RowD w g lo zs/\h<=g/\h<=lo
def mT (w:World) (l:List (List Pt)) (er:Int) (e:Ending) (w':World):Prop :=
 ∃ v zs,e=.returned (.tuple #[v,.int .i64 er])/\rds zs=l/\lT w' w.heap.size v zs/\Below w.heap.size w w'
open Go.Maps (Keyed int_keyed keyOf_int_mk)
theorem b0X:(prog.info? 61).map (fun i=>(i.zero,i.size,i.bytes))=some (some (.slice none 0 0),1,24):=by kernel_rfl
def aX (z:Int):Prop:=-9223372036854775808<=z/\z<=9223372036854775807
theorem zQ.get' {w wr:World}{B nb:Nat}{a:Option Addr}{n c:Nat}{xs:List Int}(hp:zQ w B nb (.slice a n c) xs)(hB:B<=w.heap.size)(hbl:Below w.heap.size w wr){i:Nat}(h:i<xs.length) :
  ∃ b o x,a=some ⟨b,o,none⟩/\b<w.heap.size/\xs[i]? = some x/\wr.cell? ⟨b,o+i,none⟩=some (.int .i64 x):=by
 obtain⟨a',c',hv,hc,hl,hx⟩:=hp;simp only[xV] at hv;obtain⟨rfl,rfl,rfl⟩:=hv;obtain⟨b,o,ha,hb,hn,hcell⟩:=hx (ne_of_lt h);obtain⟨x,hxx⟩:=wX h;exact⟨b,o,x,ha,by omega,hxx,(hbl.cell (p:=⟨b,o+i,none⟩) (by show b<w.heap.size;omega)).trans (hcell i x hxx)⟩
theorem b0Z (B nb:Nat)(u d lo hi:Int)(v:Value)(ns:List Int)(w:World)(hB:B<=w.heap.size)(hx:zQ w B nb v ns)(hlo:aX lo)(hhi:aX hi)(hns:∀ n∈ns,aX n)(hlen:ns.length<=1048576)(l:List (List Pt))(er:Int)(hr:gJ u d lo hi ns=(l,er)) :
  Calls prog 40 #[rv u d,.int .i64 lo,.int .i64 hi,v] w (mT w l er):=by
 have HX:Hid (zQ w B nb v ns):=hx;have HR:Hid (gJ u d lo hi ns=(l,er)):=hr;have HNS:Hid ((∀ n∈ns,aX n)/\aX lo/\aX hi):=⟨hns,hlo,hhi⟩;obtain⟨va,vc,rfl,_⟩:=hx;obtain⟨i0,hi0,hz0,hz1,hz2⟩:=oY b0X
 have hmk:∀ u:World,(Instr.makeSlice 72 (.int .i64 (ns.length:Int)) (.int .i64 (ns.length:Int))).run prog u =
   .ok (.slice (some ⟨u.heap.size,0,none⟩) ns.length ns.length) (u.alloc (.cells (madeCells #[.slice none 0 0] ns.length) 61)):=fun u=>by
  have h:=run_make (P:=prog) u 72 61 i0 (.slice none 0 0) underlying72 hi0 hz0 .i64 .i64 (ns.length:Int) (ns.length:Int) (by omega) (zI _) (by rw[hz2];omega) (by omega);rw[aL] at h;simpa [hz1,Value.cells] using h
 have hmm:=@run_makeMap prog;have q26:∀ (w:World) (a:Option Addr) (n c n' c':Nat),(binOp .eql 61 (.slice a n c) (.slice none n' c')).run prog w=.ok (.bool a.isNone) w:=fun w a n c n' c'=>uN w _ _ a n c n' c' underlying61;clear hr hns hlo hhi;go_enter func40,ntmps40;go_wp2
 go_loopw [23] (fun s wr=>∃ (i:Nat) (zs:List Dz) (D:DataW Value) (m:Nat),s=.int .i64 (i:Int)/\i<=ns.length/\Hid (zs.length=ns.length/\rds (zs.take i)=(ns.take i).map (fun n=>(nZ u d lo hi n).1)/\∀ x∈ns.take i,(nZ u d lo hi x).2=0)/\Hid (RowD wr (w.heap.size+1+1) (w.heap.size+1+1+1) zs)/\Hid (Mpi wr (w.heap.size+1) m (w.heap.size+1+1+1) D u d lo hi)/\m<=i/\Below w.heap.size w wr/\w.heap.size+1+1+1<=wr.heap.size/\wr.cell? ⟨w.heap.size,0,none⟩=some (.int .i64 u)/\wr.cell? ⟨w.heap.size,1,none⟩=some (.int .i64 d)) (fun s _=>ns.length - (intOf s).toNat)
 case atStart =>
  refine⟨0,List.replicate ns.length (.slice none 0 0,[]),.map [],0,rfl,nQ _,⟨by simp,by simp[rds],by simp⟩,?_,?_,vQ _,bal (bal (ba _ _) _) _,by simp,by simp[go_sem],by simp[go_sem]⟩
  ·have:=bzX ((w.alloc (.cells #[.int .i64 u,.int .i64 d] 32)).alloc (.map #[] 0)) ns.length (w.heap.size+1+1+1)
   simpa [Hid] using this
  ·have:=(Mpi.made (w.alloc (.cells #[.int .i64 u,.int .i64 d] 32)) (w.heap.size+1+1+1) u d lo hi).keep (ba _ (.cells (madeCells #[.slice none 0 0] ns.length) 61))
   simpa [Hid] using this
 case round =>
  obtain⟨i,zs,D,m,rfl,hit,HZ,HRw,HMp,hmi,hbl,hsz,c1,c2⟩:=hrel;by_cases h1:i<ns.length
  ·obtain⟨b,o,x,rfl,hb,hxi,hcx⟩:=HX.out.get' hB hbl h1
   have HX1:Hid (ns[i]? = some x):=hxi;obtain⟨p,hp0⟩:∃ p,oU lo hi x=p:=⟨_,rfl⟩;have HPX:Hid (oU lo hi x=p):=hp0
   have hp:(Lit.int .i64 p).wf=true:=by
    have h2:=HNS.out.1 x (uX hxi);have h3:=HNS.out.2;unfold aX at h2 h3;refine WalkArith.wf_i64 ?_;rw[<-hp0];unfold oU;omega
   have ki:=fN x lo hi wr;rw[hp0] at ki;obtain⟨vv,hvv,hor⟩:=HMp.out.el p;have hrun1:=HMp.out.look hp hvv;have HVV0:Hid (D.atKey (.int .i64 p) (.held (.slice none 0 0))=.held vv):=hvv;clear hxi hp0 hvv;rcases hor with rfl|⟨us,hdd,hne,hhp⟩
   ·obtain⟨⟨l1,e1⟩,hh⟩:∃ y,nZ u d lo hi p=y:=⟨_,rfl⟩
    have kh:=byQ u d lo hi p l1 e1 hh;have HH:Hid (nZ u d lo hi p=(l1,e1)):=hh;clear hh;go_wp2_with fail;refine ki.mono ?_;rintro e w1 ⟨rfl,rfl⟩;go_wp2_with fail;refine(kh _).mono ?_;rintro e w2 ⟨v2,us,rfl,k1,k2,k3,k4⟩;obtain⟨a2,c2',hv2⟩:=k2.slice;subst hv2;have hbw2:=bt hbl k3;by_cases he1:e1=0
    ·subst he1
     have hs2:=k3.size;have HM2:Hid (Mpi w2 (w.heap.size+1) m (w.heap.size+1+1+1) D u d lo hi):=HMp.out.keep k3;have HR2:Hid (RowD w2 (w.heap.size+1+1) (w.heap.size+1+1+1) zs):=HRw.out.keep k3;have HD2:Hid (Dd w2 (w.heap.size+1+1+1) (.slice a2 us.length c2') us):=(show Dd w2 w1.heap.size (.slice a2 us.length c2') us from ⟨k2,k4⟩).mono hsz;have HHV:Hid (nZ u d lo hi p=(rd us,0)):=by rw[Hid,k1];exact HH.out
     have hne:Hid (us≠[]):=by intro h;have:=b0Q HHV.out;rw[h] at this;exact this rfl
     have f1:w2.cell? ⟨w.heap.size,0,none⟩=some (.int .i64 u):=((bcell k3).1 _ _ (by omega)).trans c1;have f2:w2.cell? ⟨w.heap.size,1,none⟩=some (.int .i64 d):=((bcell k3).1 _ _ (by omega)).trans c2;clear k1 k2 k3 k4 kh hrun1 ki;go_wp2_with (at_mapUpdate;refine wpList_mapUpdate_own _ rfl _ _ _ 171 rfl 3 61 iI underlying171 hR (w.heap.size+1) m D rfl HM2.out.own (by unfold maxLen;omega) _ _ (.int .i64 p) rfl rfl (keyOf_int_mk underlying3 hp) (.held (.slice a2 us.length c2')) [] rfl ?_);intro w4 hown4 hgrow4;have hs4':=hgrow4.size;have HMW:Hid (Mpi w4 (w.heap.size+1) (m+1) (w.heap.size+1+1+1) (D.put (.int .i64 p) (.held (.slice a2 us.length c2'))) u d lo hi):=HM2.out.put hgrow4 (by omega) hown4 HD2.out hne.out HHV.out;have HRW:Hid (RowD w4 (w.heap.size+1+1) (w.heap.size+1+1+1) zs):=HR2.out.beside hgrow4 (by omega) (by omega);have HDV:Hid (Dd w4 (w.heap.size+1+1+1) (.slice a2 us.length c2') us):=HD2.out.beside hgrow4 (by omega);have HVV:Hid ((D.put (.int .i64 p) (.held (.slice a2 us.length c2'))).atKey (.int .i64 p) (.held (.slice none 0 0))=.held (.slice a2 us.length c2')):=Maps.atKey_put_same (k:=.int .i64 p) HM2.out.own.isMap True.intro _ _;have hbW:Below w.heap.size w w4:=hbw2.grown hgrow4 (by omega) (fun j hj=>by cases hj;omega);have d1:w4.cell? ⟨w.heap.size,0,none⟩=some (.int .i64 u):=hgrow4.cell f1 (by simp);have d2:w4.cell? ⟨w.heap.size,1,none⟩=some (.int .i64 d):=hgrow4.cell f2 (by simp);clear hown4 hgrow4 HM2 HR2 HD2 f1 f2 HRw HMp;have hrun2:=HMW.out.look hp HVV.out;have kcp:=o6 w4.heap.size _ us w4 (vQ _) HDV.out.1.parts;obtain⟨z0,hz0⟩:=wX (l:=zs) (i:=i) (by rw[HZ.out.1];exact h1);have r1:=HRW.out.cell i z0 hz0;have r2:=HRW.out.thaw i (by rw[HZ.out.1];exact h1);have hsW:=HRW.out.lt;obtain⟨z1,hz1'⟩:∃ z1,z0.1=z1:=⟨_,rfl⟩;rw[hz1'] at r1;clear hz0 hz1';go_wp2_with fail;refine kcp.mono ?_;rintro e w3 ⟨v3,us3,rfl,k1,k2,k3,k4⟩;obtain⟨a3,c3,hv3⟩:=k1.slice;subst hv3;have hs3:=k3.size;have q1:w3.cell? ⟨w.heap.size+1+1,i,none⟩=some z1:=((bcell k3).1 _ _ hsW).trans r1;have q2:w3.frozen? ⟨w.heap.size+1+1,i,none⟩=false:=((bcell k3).2 _ _ hsW).trans r2;have hlW:w.heap.size+1+1+1<=w4.heap.size:=by omega
     have HD3:Hid (Dd w3 (w.heap.size+1+1+1) (.slice a3 us3.length c3) us3):=(show Dd w3 w4.heap.size (.slice a3 us3.length c3) us3 from ⟨k1,k4⟩).mono hlW;have HR3:Hid (RowD (w3.setCell ⟨w.heap.size+1+1,i,none⟩ (.slice a3 us3.length c3)) (w.heap.size+1+1) (w.heap.size+1+1+1) (zs.set i (.slice a3 us3.length c3,us3))):=(HRW.out.keep k3).set (by rw[HZ.out.1];exact h1) (by omega) HD3.out;have HM3:Hid (Mpi (w3.setCell ⟨w.heap.size+1+1,i,none⟩ (.slice a3 us3.length c3)) (w.heap.size+1) (m+1) (w.heap.size+1+1+1) (D.put (.int .i64 p) (.held (.slice a2 us.length c2'))) u d lo hi):=(HMW.out.keep k3).beside (oL w3 (w.heap.size+1+1) i _) (by omega) (by omega);have HB3:Hid (Below w.heap.size w (w3.setCell ⟨w.heap.size+1+1,i,none⟩ (.slice a3 us3.length c3))):=bs (bt hbW k3) (by dsimp only;omega) _
     have HZ3:Hid ((zs.set i (.slice a3 us3.length c3,us3)).length=ns.length/\rds ((zs.set i (.slice a3 us3.length c3,us3)).take (i+1))=(ns.take (i+1)).map (fun n=>(nZ u d lo hi n).1)/\∀ x∈ns.take (i+1),(nZ u d lo hi x).2=0):=by
      have hx:=HHV.out;rw[<-HPX.out,kT] at hx;refine⟨by simp[HZ.out.1],?_,?_⟩
      ·rw[lL _ (by rw[HZ.out.1];exact h1),kZ,HX1.out]
       have h5:=HZ.out.2.1;simp only[rds,uG] at h5 ⊢;rw[h5];simp[hx,k2]
      ·intro y hy
       rw[kZ,HX1.out] at hy;rcases zY.1 hy with h6|h6
       ·exact HZ.out.2.2 y h6
       ·obtain rfl:y=x:=by simpa using h6
        rw[hx]
     have hs4:w.heap.size+1+1+1<=(w3.setCell ⟨w.heap.size+1+1,i,none⟩ (.slice a3 us3.length c3)).heap.size:=by simp;omega
     have e1:(w3.setCell ⟨w.heap.size+1+1,i,none⟩ (.slice a3 us3.length c3)).cell? ⟨w.heap.size,0,none⟩=some (.int .i64 u):=by rw[rQ (by simp),(bcell k3).1 _ _ (by omega)];exact d1
     have e2:(w3.setCell ⟨w.heap.size+1+1,i,none⟩ (.slice a3 us3.length c3)).cell? ⟨w.heap.size,1,none⟩=some (.int .i64 d):=by rw[rQ (by simp),(bcell k3).1 _ _ (by omega)];exact d2
     clear k1 k3 k4 kcp hrun2 d1 d2;go_wp2
     go_roundw
     case rel=>exact⟨i+1,_,_,_,by go_num,h1,HZ3,HR3,HM3,by omega,HB3.out,hs4,e1,e2⟩
     case measure=>simp[intOf];omega
    ·have hne1:(e1 == 0)=false:=by simpa using he1
     have hne2:(e1 != 0)=true:=by simpa using he1
     have hh:=HH.out;rw[<-HPX.out,kT] at hh;have hE:=bzJ HZ.out.2.2 HX1.out (e:=e1) (by rw[hh]) he1;rw[hE] at HR;have hR':=HR.out;simp only[cQ] at hR';obtain⟨rfl,rfl⟩:=hR';clear k1 k2 k4 kh hrun1 ki hE hh HH HVV0;go_wp2;exact yQ (v:=.tuple #[.slice none 0 0,.int .i64 e1]) (by simp[results,results40,go_sem]) rfl ⟨_,[],rfl,rfl,.inl ⟨rfl,rfl⟩,hbw2⟩
   ·have HMW:Hid (Mpi wr (w.heap.size+1) m (w.heap.size+1+1+1) D u d lo hi):=HMp
    have HRW:Hid (RowD wr (w.heap.size+1+1) (w.heap.size+1+1+1) zs):=HRw;have HDV:Hid (Dd wr (w.heap.size+1+1+1) vv us):=hdd;have HHV:Hid (nZ u d lo hi p=(rd us,0)):=hhp;have HVV:Hid (D.atKey (.int .i64 p) (.held (.slice none 0 0))=.held vv):=HVV0;have hbW:=hbl;have d1:=c1;have d2:=c2
    obtain⟨gs,go,vc',rfl⟩:∃ g o c,vv=.slice (some ⟨g,o,none⟩) us.length c:=by
     rcases hdd.1 with⟨_,h⟩|⟨b,o,c,h,_⟩
     ·exact absurd h hne
     ·exact⟨b,o,c,h⟩
    clear hdd hhp HMp HRw HVV0;go_wp2_with fail;refine ki.mono ?_;rintro e w1 ⟨rfl,rfl⟩;have hrun2:=HMW.out.look hp HVV.out;have kcp:=o6 w1.heap.size _ us w1 (vQ _) HDV.out.1.parts;obtain⟨z0,hz0⟩:=wX (l:=zs) (i:=i) (by rw[HZ.out.1];exact h1);have r1:=HRW.out.cell i z0 hz0;have r2:=HRW.out.thaw i (by rw[HZ.out.1];exact h1);have hsW:=HRW.out.lt;obtain⟨z1,hz1'⟩:∃ z1,z0.1=z1:=⟨_,rfl⟩;rw[hz1'] at r1;clear hz0 hz1';go_wp2_with fail;refine kcp.mono ?_;rintro e w3 ⟨v3,us3,rfl,k1,k2,k3,k4⟩;obtain⟨a3,c3,hv3⟩:=k1.slice;subst hv3;have hs3:=k3.size;have q1:w3.cell? ⟨w.heap.size+1+1,i,none⟩=some z1:=((bcell k3).1 _ _ hsW).trans r1;have q2:w3.frozen? ⟨w.heap.size+1+1,i,none⟩=false:=((bcell k3).2 _ _ hsW).trans r2;have hlW:w.heap.size+1+1+1<=w1.heap.size:=by omega
    have HD3:Hid (Dd w3 (w.heap.size+1+1+1) (.slice a3 us3.length c3) us3):=(show Dd w3 w1.heap.size (.slice a3 us3.length c3) us3 from ⟨k1,k4⟩).mono hlW;have HR3:Hid (RowD (w3.setCell ⟨w.heap.size+1+1,i,none⟩ (.slice a3 us3.length c3)) (w.heap.size+1+1) (w.heap.size+1+1+1) (zs.set i (.slice a3 us3.length c3,us3))):=(HRW.out.keep k3).set (by rw[HZ.out.1];exact h1) (by omega) HD3.out;have HM3:Hid (Mpi (w3.setCell ⟨w.heap.size+1+1,i,none⟩ (.slice a3 us3.length c3)) (w.heap.size+1) m (w.heap.size+1+1+1) D u d lo hi):=(HMW.out.keep k3).beside (oL w3 (w.heap.size+1+1) i _) (by omega) (by omega);have HB3:Hid (Below w.heap.size w (w3.setCell ⟨w.heap.size+1+1,i,none⟩ (.slice a3 us3.length c3))):=bs (bt hbW k3) (by dsimp only;omega) _
    have HZ3:Hid ((zs.set i (.slice a3 us3.length c3,us3)).length=ns.length/\rds ((zs.set i (.slice a3 us3.length c3,us3)).take (i+1))=(ns.take (i+1)).map (fun n=>(nZ u d lo hi n).1)/\∀ x∈ns.take (i+1),(nZ u d lo hi x).2=0):=by
     have hx:=HHV.out;rw[<-HPX.out,kT] at hx;refine⟨by simp[HZ.out.1],?_,?_⟩
     ·rw[lL _ (by rw[HZ.out.1];exact h1),kZ,HX1.out]
      have h5:=HZ.out.2.1;simp only[rds,uG] at h5 ⊢;rw[h5];simp[hx,k2]
     ·intro y hy
      rw[kZ,HX1.out] at hy;rcases zY.1 hy with h6|h6
      ·exact HZ.out.2.2 y h6
      ·obtain rfl:y=x:=by simpa using h6
       rw[hx]
    have hs4:w.heap.size+1+1+1<=(w3.setCell ⟨w.heap.size+1+1,i,none⟩ (.slice a3 us3.length c3)).heap.size:=by simp;omega
    have e1:(w3.setCell ⟨w.heap.size+1+1,i,none⟩ (.slice a3 us3.length c3)).cell? ⟨w.heap.size,0,none⟩=some (.int .i64 u):=by rw[rQ (by simp),(bcell k3).1 _ _ (by omega)];exact d1
    have e2:(w3.setCell ⟨w.heap.size+1+1,i,none⟩ (.slice a3 us3.length c3)).cell? ⟨w.heap.size,1,none⟩=some (.int .i64 d):=by rw[rQ (by simp),(bcell k3).1 _ _ (by omega)];exact d2
    clear k1 k3 k4 kcp hrun2 d1 d2 hrun1 ki;go_wp2
    go_roundw
    case rel=>exact⟨i+1,_,_,_,by go_num,h1,HZ3,HR3,HM3,by omega,HB3.out,hs4,e1,e2⟩
    case measure=>simp[intOf];omega
  ·have hall:∀ n∈ns,(nZ u d lo hi n).2=0:=by have:=HZ.out.2.2;rwa [fV (by omega)] at this
   have hE:=bzZ hall;rw[hE] at HR;have hR':=HR.out;simp only[cQ] at hR';obtain⟨rfl,rfl⟩:=hR'
   have HZZ:Hid (mT w (ns.map fun n=>(nZ u d lo hi n).1) 0 (.returned (.tuple #[.slice (some ⟨w.heap.size+1+1,0,none⟩) ns.length ns.length,.int .i64 0])) wr):=by
    refine⟨_,zs,rfl,?_,.inr ⟨_,ns.length,_,by rw[HZ.out.1],by rw[HZ.out.1];exact vQ _,by rw[HZ.out.1];exact hlen,HRw.out,by omega,by omega⟩,hbl⟩;have h5:=HZ.out.2.1;rwa [fV (by rw[HZ.out.1];omega),fV (by omega)] at h5
   clear HRw HMp HR hE;go_wp2;exact yQ (v:=.tuple #[.slice (some ⟨w.heap.size+1+1,0,none⟩) ns.length ns.length,.int .i64 0]) (by simp[results,results40,go_sem]) rfl HZZ.out
