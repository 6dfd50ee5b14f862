import Derived.Test.YtdceajgpolckiaaGreatDoorQq20
import Derived.Deep.RegionLaw
open Go.Proofs.Tryz
set_option linter.unusedSimpArgs false
set_option maxHeartbeats 16000000
set_option maxRecDepth 100000
namespace Go.Proofs.YtdceajgpolckiaaGreatDoor
namespace K
open Go.RowKit K.Ds
theorem fN (N:Nat)(lo hi v:Int)(w:World)(h2:w.cell? ⟨N,2,none⟩=some (.int .i64 lo))(h3:w.cell? ⟨N,3,none⟩=some (.int .i64 hi))(hle:lo<=hi) :
  Calls prog 126 #[.int .i64 v,.pointer (some ⟨N,0,none⟩)] w fun e w'=>e=.returned (.int .i64 (kJ lo hi v))/\w' = w:=by
 go_enter func126,ntmps126;by_cases c1:v<lo
 ·rw[kJ,xQ c1]
  have c3:¬ hi<lo:=by omega
  go_wp2
  all_goals first
   | (go_ret;exact⟨rfl,rfl⟩)
   | (exfalso;omega)
   | (go_ret;exact⟨by congr 1;congr 1;omega,rfl⟩)
 ·by_cases c2:hi<v
  ·rw[kJ,qQ c1,xQ c2]
   go_wp2
   all_goals first
    | (go_ret;exact⟨rfl,rfl⟩)
    | (exfalso;omega)
    | (go_ret;exact⟨by congr 1;congr 1;omega,rfl⟩)
  ·rw[kJ,qQ c1,qQ c2]
   go_wp2
   all_goals first
    | (go_ret;exact⟨rfl,rfl⟩)
    | (exfalso;omega)
    | (go_ret;exact⟨by congr 1;congr 1;omega,rfl⟩)
theorem ceZ (g c lo:Nat)(xs:List Int)(x:Int)(rv:Value)(w:World)(hx:gQ w lo g c xs)(h0:xs[0]? = some x)(hb:-4611686018427387904<=x/\x<=4611686018427387904) :
  Calls prog 129 #[.slice (some ⟨g,0,none⟩) xs.length c,rv] w fun e w'=>e=.returned (.tuple #[])/\w' = w.setCell ⟨g,0,none⟩ (.int .i64 (x+1)):=by
 have hl:0<xs.length:=(lQ.1 h0).1;have q0:=hx.cell h0;have q1:=hx.fz 0;obtain⟨b1,b2⟩:=hb;clear hx;go_enter func129,ntmps129;go_wp2;go_end0;exact⟨rfl,rfl⟩
theorem ceJ (g c lo0:Nat)(xs:List Int)(x:Int)(B nb:Nat)(rv:Value)(row:List Int)(F I N at':Nat)(lo hi:Int)(w:World)(hx:gQ w lo0 g c xs)(h0:xs[0]? = some x)(hb:-4611686018427387904<=x/\x<=4611686018427387904)
  (hr:zQ w B nb rv row) (hat:at' < row.length) (hF:w.cell? ⟨F,0,none⟩=some (.func (.func 126) #[] #[.pointer (some ⟨N,0,none⟩)])) (hI:w.cell? ⟨I,0,none⟩=some (.int .i64 (at':Int))) (h2:w.cell? ⟨N,2,none⟩=some (.int .i64 lo)) (h3:w.cell? ⟨N,3,none⟩=some (.int .i64 hi)) (hw:yY lo hi=true) :
  Calls prog 130 #[.slice (some ⟨g,0,none⟩) xs.length c,rv,.pointer (some ⟨F,0,none⟩),.pointer (some ⟨I,0,none⟩)] w fun e w'=>e=.returned (.tuple #[])/\w' = (w.setCell ⟨g,0,none⟩ (.int .i64 (x+kJ lo hi (row.getD at' 0)))).drew:=by
 have hl:0<xs.length:=(lQ.1 h0).1;obtain⟨a,cc,rfl,hc,hlr,hxx⟩:=hr;obtain⟨b,o,y,rfl,_,hbB,hn,hg,hgd,hcell⟩:=zQ.got ⟨a,cc,rfl,hc,hlr,hxx⟩ hat;rw[hgd];have q0:=hx.cell h0;have q1:=hx.fz 0;have hin:=eP (v:=y) hw;have hsp:=nI hw;have hle:lo<=hi:=by simp only[yY,oV] at hw;omega
 have kt:=fN N lo hi y w.drew h2 h3 hle;obtain⟨z,hz⟩:∃ z,kJ lo hi y=z:=⟨_,rfl⟩;rw[hz] at kt hin ⊢;obtain⟨b1,b2⟩:=hb;have hw1:IntKind.i64.wrap (x+z)=x+z:=by rw[bJ];have:=kK (a:=x+z) (by omega);unfold wrap64 at this;omega
 clear hx hw hz hsp hgd hg hxx;go_enter func130,ntmps130;go_wp2
 go_region_law (first|(go_simp;go_at_call 126;refine kt.mono ?_;rintro x3 w3 ⟨rfl,hw3⟩;subst hw3;go_wp2_with fail))
 all_goals (go_end0;exact⟨rfl,rfl⟩)
theorem cfQ (g c lo0:Nat)(xs:List Int)(x:Int)(B nb:Nat)(rv:Value)(row:List Int)(I at':Nat)(w:World)(hx:gQ w lo0 g c xs)(hr:zQ w B nb rv row)(hat:at' < row.length)(hI:w.cell? ⟨I,0,none⟩=some (.int .i64 (at':Int)))
  (hv:0<=row.getD at' 0) (h0:xs[(row.getD at' 0).toNat]? = some x) (hb:-4611686018427387904<=x/\x<=4611686018427387904) :
  Calls prog 131 #[.slice (some ⟨g,0,none⟩) xs.length c,rv,.pointer (some ⟨I,0,none⟩)] w fun e w'=>e=.returned (.tuple #[])/\w' = w.setCell ⟨g,(row.getD at' 0).toNat,none⟩ (.int .i64 (x+1)):=by
 obtain⟨a,cc,rfl,hc,hlr,hxx⟩:=hr;obtain⟨b,o,y,rfl,_,hbB,hn,hg,hgd,hcell⟩:=zQ.got ⟨a,cc,rfl,hc,hlr,hxx⟩ hat;rw[hgd] at hv h0 ⊢;obtain⟨j,rfl⟩:∃ j:Nat,y=(j:Int):=⟨y.toNat,by omega⟩;rw[aL] at h0 ⊢;have hl:j<xs.length:=(lQ.1 h0).1;have q0:=hx.cell h0;have q1:=hx.fz j;obtain⟨b1,b2⟩:=hb;clear hx hgd hg hxx;go_enter func131,ntmps131;go_wp2;go_end0;exact⟨rfl,rfl⟩
theorem cfX {l:List jQ}{r:List Int}(h:dJ l r){i:Nat}{c:jQ}(hc:l[i]? = some c):0<=r.getD i 0/\r.getD i 0<c.2:=by
 induction l generalizing r i with
 | nil=>simp at hc
 | cons d l ih =>
  cases r with
  | nil=>exact h.elim
  | cons v r =>
   cases i with
   | zero=>simp at hc;subst hc;simpa [List.getD] using ⟨h.1,h.2.1⟩
   | succ i=>have:=ih h.2.2 (by simpa using hc);simpa [List.getD] using this
theorem yM {n:Nat}{ps:List (Nat × Int × Int)}{f:List Int->Nat × Int}{rs:List (List Int)}{i:Nat}{r:List Int}(h:rs[i]? = some r):gat n ps f (rs.take (i+1))=gst ps f (gat n ps f (rs.take i)) r:=by
 unfold gat;rw[kZ,h,List.foldl_append];rfl
theorem mX.get {M:Int}{xs:List Int}(h:mX M xs){i:Nat}{x:Int}(hi:xs[i]? = some x):-M<=x/\x<=M:=h x (uX hi)
theorem qB {l:List jQ}{wh:List oX}{row:List Int}(h:iJ l wh=0)(hr:dJ l row):∀ e∈wh.map (trp l),wY e.2.1=true/\e.1<row.length:=by
 intro e he;obtain⟨t,ht,rfl⟩:=tZ.1 he;unfold iJ at h;split at h
 ·cases h
 ·obtain⟨h1,h2⟩:=b4Z h t ht
  refine⟨h2,?_⟩;obtain⟨i,hi⟩:=Option.isSome_iff_exists.1 h1;rw[hr.len];simpa [trp,hi] using mI hi
theorem xB {l:List jQ}{wh:List oX}(h:iJ l wh=0):wh.length<=64:=by
 unfold iJ at h;split at h
 ·cases h
 ·omega
def pX (w:World) (xs:List Int) (e:Ending) (w':World):Prop:=∃ g c,e=.returned (.slice (some ⟨g,0,none⟩) xs.length c)/\gQ w' w.heap.size g c xs/\Below w.heap.size w w'
theorem cfZ (B:Nat)(cv rv wv:Value)(l:List jQ)(ts:List Rw)(wh:List oX)(w:World)(hB:B<=w.heap.size)(hp:eQ w B cv l)(hq:iQ w B rv ts)(hw:qZ w B wv wh)(hwe:iJ l wh=0)(hlen:ts.length<=4096)(hok:∀ r∈rr ts,dJ l r) :
  Calls prog 128 #[.agg #[cv,rv],wv,.int .i64 1,.func (.func 129) #[] #[]] w (pX w (gat 1 (wh.map (trp l)) (stp 1 0 0 0) (rr ts))):=by
 have HP:Hid (eQ w B cv l):=hp;have HQ:Hid (iQ w B rv ts):=hq;have HWE:Hid (iJ l wh=0):=hwe;have HOKS:Hid (∀ r∈rr ts,dJ l r):=hok;have hb0:=ba w (.cells #[cv,rv] 25);have k1:=zM B cv wv l wh (w.alloc (.cells #[cv,rv] 25)) (uQ hB hb0.size) (hp.at hB hb0) (hw.at hB hb0) 0 hwe;have tb:Hid (Cl (w.alloc (.cells #[cv,rv] 25)) w.heap.size 0 cv/\Cl (w.alloc (.cells #[cv,rv] 25)) w.heap.size 1 rv):=⟨Cl.new _ 25 _ _ rfl rfl,Cl.new _ 25 _ _ rfl rfl⟩;obtain⟨ca,ccp,rfl,_⟩:=hp.slice;obtain⟨ra,rc,rfl,hrc,hrl2⟩:=hq.slice;obtain⟨wa,wc,rfl,_⟩:=hw.slice;have hm:∀ u:World,(Instr.makeSlice 37 (.int .i64 1) (.int .i64 1)).run prog u=.ok (.slice (some ⟨u.heap.size,0,none⟩) 1 1) (u.alloc (.cells (madeCells #[.int .i64 0] 1) 3)):=fun u=>cP 1 (by decide) u;clear hp hq hw hwe hok;go_enter func128,ntmps128;go_wp2_with fail;refine k1.mono ?_;rintro e w1 ⟨hb1,h⟩;clear k1;rcases h with⟨_,A,sv,es,hA,rfl,hbx,htc,hes⟩|⟨h0,_⟩
 ·have hbw1:Below w.heap.size w w1:=bt hb0 hb1
  have hPS:Hid (Pss w1 A (w.alloc (.cells #[.slice ca l.length ccp,.slice ra ts.length rc] 25)).heap.size (wh.map (trp l)) sv es):=⟨hbx,htc,hes⟩;have hel:es.length<=64:=by have:=congrArg List.length hes;simp at this;rw[this];exact xB HWE.out
  have tb1:Hid (Cl w1 w.heap.size 0 (.slice ca l.length ccp)/\Cl w1 w.heap.size 1 (.slice ra ts.length rc)):=⟨tb.out.1.at hb1,tb.out.2.at hb1⟩;clear hbx htc hes hb0 hb1 tb hA;have hs1:Hid (w.heap.size<=w1.heap.size):=hbw1.size
  have HA0:Hid (gQ (w1.alloc (.cells (madeCells #[.int .i64 0] 1) 3)) w.heap.size w1.heap.size 1 (gat 1 (wh.map (trp l)) (stp 1 0 0 0) ((rr ts).take 0))):=by
   have:=gQ.made w1 w.heap.size 1 hs1.out (by omega);simpa [Hid,gat] using this
  have tt:=(tb1.out.2.at (ba w1 (.cells (madeCells #[.int .i64 0] 1) 3))).c;obtain⟨g,hg⟩:∃ g,w1.heap.size=g:=⟨_,rfl⟩;have hgw:Hid (w1.heap.size<=g):=by show _<=_;omega
  have hgl:Hid (w.heap.size<=g):=by have:=hs1.out;show _<=_;omega
  have hm2:=hm w1;rw[hg] at HA0;go_wp2;clear hg
  go_loopw [22] (fun s' wr=>∃ (i:Nat),s' = .int .i64 (i:Int)/\i<=ts.length/\Hid (gQ wr w.heap.size g 1 (gat 1 (wh.map (trp l)) (stp 1 0 0 0) ((rr ts).take i)))/\Below w1.heap.size w1 wr) (fun s' _=>ts.length - (intOf s').toNat)
  case atStart=>exact⟨0,rfl,nQ _,HA0,ba _ _⟩
  case round =>
   obtain⟨i,rfl,hin,HA,hbr⟩:=hrel;clear tt hm2;by_cases h1:i<ts.length
   ·have hbwr:Below w.heap.size w wr:=bt hbw1 hbr
    have hsr:=hbwr.size;obtain⟨b,o,sa,sc,row,rfl,hbB,hgt,hcell,hrow⟩:=HQ.out.get hB hbwr h1;have HG:Hid ((rr ts)[i]? = some row):=xM hgt;have HOK:Hid (dJ l row):=HOKS.out _ (uX HG.out);have HRL:Hid (row.length=l.length):=HOK.out.len;have HRW:Hid (zQ wr B B (.slice sa row.length sc) row):=hrow;obtain⟨pb,hpb⟩:∃ pb,rU (wh.map (trp l)) row=pb:=⟨_,rfl⟩;have k2:=wT A _ _ sv es wr (hPS.out.at hbr) hel B B (.slice sa row.length sc) row (by omega) hrow (qB HWE.out HOK.out) pb hpb;have HPB:Hid (rU (wh.map (trp l)) row=pb):=hpb;clear hgt hrow hpb;go_wp2_with fail;refine k2.mono ?_;rintro e w5 ⟨rfl,hb5⟩;clear k2;have HA5:Hid (gQ w5 w.heap.size g 1 (gat 1 (wh.map (trp l)) (stp 1 0 0 0) ((rr ts).take i))):=HA.out.at hb5;have hbr5:Below w1.heap.size w1 w5:=bt hbr hb5;have hbw5:Below w.heap.size w w5:=bt hbwr hb5;cases pb with
    | false =>
     have HA6:Hid (gQ w5 w.heap.size g 1 (gat 1 (wh.map (trp l)) (stp 1 0 0 0) ((rr ts).take (i+1)))):=by rw[yM HG.out,gst,HPB.out];exact HA5.out
     go_wp2
     go_roundw
     case rel=>exact⟨i+1,by go_num,h1,HA6,hbr5⟩
     case measure=>simp[intOf];omega
    | true =>
     have hgbd:mX (4096*1) (gat 1 (wh.map (trp l)) (stp 1 0 0 0) ((rr ts).take i)):=vM (by decide) (fun r _=>by simp[stp]) (by simp[rr];omega);obtain⟨x,hx0⟩:=wX (l:=gat 1 (wh.map (trp l)) (stp 1 0 0 0) ((rr ts).take i)) (i:=0) (by rw[sD];decide);have hxb:-4611686018427387904<=x/\x<=4611686018427387904:=by have:=hgbd.get hx0;omega
     have hgl':=hgl.out;have k3:=ceZ g 1 w.heap.size _ x (.slice sa row.length sc) w5 HA5.out hx0 hxb;rw[sD] at k3
     have HA6:Hid (gQ (w5.setCell ⟨g,0,none⟩ (.int .i64 (x+1))) w.heap.size g 1 (gat 1 (wh.map (trp l)) (stp 1 0 0 0) ((rr ts).take (i+1)))):=by
      have he:gat 1 (wh.map (trp l)) (stp 1 0 0 0) ((rr ts).take (i+1))=(gat 1 (wh.map (trp l)) (stp 1 0 0 0) ((rr ts).take i)).set 0 (x+1):=by
       rw[yM HG.out,gst,HPB.out]
       show pH _ _=_
       unfold pH;rw[show stp 1 0 0 0 row=(0,1) by simp[stp]];have hgd:(gat 1 (wh.map (trp l)) (stp 1 0 0 0) ((rr ts).take i)).getD 0 0=x:=by rw[List.getD,hx0];rfl
       dsimp only;rw[hgd]
      rw[he];exact HA5.out.set 0 _
     have hb6:Below w1.heap.size w1 (w5.setCell ⟨g,0,none⟩ (.int .i64 (x+1))):=hbr5.setCell (by simpa using hgw.out) _;clear hx0 hxb hgbd;go_wp2_with fail;refine k3.mono ?_;rintro e w6 ⟨rfl,hw6⟩;rw[<-hw6] at HA6 hb6;clear k3 hw6;go_wp2
     go_roundw
     case rel=>exact⟨i+1,by go_num,h1,HA6,hb6⟩
     case measure=>simp[intOf];omega
   ·have HA6:Hid (gQ wr w.heap.size g 1 (gat 1 (wh.map (trp l)) (stp 1 0 0 0) (rr ts))):=by have:=HA.out;rwa [fV (by rw[aF];omega)] at this
    have hbwr:Below w.heap.size w wr:=bt hbw1 hbr;go_wp2;go_ret;exact⟨g,1,by rw[sD];rfl,HA6.out,hbwr⟩
 ·exact absurd rfl h0
theorem cfJ (B:Nat)(cv rv wv:Value)(l:List jQ)(ts:List Rw)(wh:List oX)(w:World)(hB:B<=w.heap.size)(hp:eQ w B cv l)(hq:iQ w B rv ts)(hw:qZ w B wv wh)(hwe:iJ l wh=0)(hlen:ts.length<=4096)(hok:∀ r∈rr ts,dJ l r)(F I N at':Nat)(lo hi:Int)(hF:Cl w F 0 (.func (.func 126) #[] #[.pointer (some ⟨N,0,none⟩)]))(hI:Cl w I 0 (.int .i64 (at':Int)))(h2:Cl w N 2 (.int .i64 lo))(h3:Cl w N 3 (.int .i64 hi))(hwr:yY lo hi=true)(hat:at' < l.length) :
  Calls prog 128 #[.agg #[cv,rv],wv,.int .i64 1,.func (.func 130) #[] #[.pointer (some ⟨F,0,none⟩),.pointer (some ⟨I,0,none⟩)]] w (pX w (gat 1 (wh.map (trp l)) (stp 2 at' lo hi) (rr ts))):=by
 have HP:Hid (eQ w B cv l):=hp;have HQ:Hid (iQ w B rv ts):=hq;have HWE:Hid (iJ l wh=0):=hwe;have HOKS:Hid (∀ r∈rr ts,dJ l r):=hok;have HC:Hid (Cl w F 0 (.func (.func 126) #[] #[.pointer (some ⟨N,0,none⟩)])/\Cl w I 0 (.int .i64 (at':Int))/\Cl w N 2 (.int .i64 lo)/\Cl w N 3 (.int .i64 hi)):=⟨hF,hI,h2,h3⟩;clear hF hI h2 h3;have hb0:=ba w (.cells #[cv,rv] 25);have k1:=zM B cv wv l wh (w.alloc (.cells #[cv,rv] 25)) (uQ hB hb0.size) (hp.at hB hb0) (hw.at hB hb0) 0 hwe;have tb:Hid (Cl (w.alloc (.cells #[cv,rv] 25)) w.heap.size 0 cv/\Cl (w.alloc (.cells #[cv,rv] 25)) w.heap.size 1 rv):=⟨Cl.new _ 25 _ _ rfl rfl,Cl.new _ 25 _ _ rfl rfl⟩;obtain⟨ca,ccp,rfl,_⟩:=hp.slice;obtain⟨ra,rc,rfl,hrc,hrl2⟩:=hq.slice;obtain⟨wa,wc,rfl,_⟩:=hw.slice;have hm:∀ u:World,(Instr.makeSlice 37 (.int .i64 1) (.int .i64 1)).run prog u=.ok (.slice (some ⟨u.heap.size,0,none⟩) 1 1) (u.alloc (.cells (madeCells #[.int .i64 0] 1) 3)):=fun u=>cP 1 (by decide) u;clear hp hq hw hwe hok;go_enter func128,ntmps128;go_wp2_with fail;refine k1.mono ?_;rintro e w1 ⟨hb1,h⟩;clear k1;rcases h with⟨_,A,sv,es,hA,rfl,hbx,htc,hes⟩|⟨h0,_⟩
 ·have hbw1:Below w.heap.size w w1:=bt hb0 hb1
  have hPS:Hid (Pss w1 A (w.alloc (.cells #[.slice ca l.length ccp,.slice ra ts.length rc] 25)).heap.size (wh.map (trp l)) sv es):=⟨hbx,htc,hes⟩;have hel:es.length<=64:=by have:=congrArg List.length hes;simp at this;rw[this];exact xB HWE.out
  have tb1:Hid (Cl w1 w.heap.size 0 (.slice ca l.length ccp)/\Cl w1 w.heap.size 1 (.slice ra ts.length rc)):=⟨tb.out.1.at hb1,tb.out.2.at hb1⟩;clear hbx htc hes hb0 hb1 tb hA;have hs1:Hid (w.heap.size<=w1.heap.size):=hbw1.size
  have HA0:Hid (gQ (w1.alloc (.cells (madeCells #[.int .i64 0] 1) 3)) w.heap.size w1.heap.size 1 (gat 1 (wh.map (trp l)) (stp 2 at' lo hi) ((rr ts).take 0))):=by
   have:=gQ.made w1 w.heap.size 1 hs1.out (by omega);simpa [Hid,gat] using this
  have tt:=(tb1.out.2.at (ba w1 (.cells (madeCells #[.int .i64 0] 1) 3))).c;obtain⟨g,hg⟩:∃ g,w1.heap.size=g:=⟨_,rfl⟩;have hgw:Hid (w1.heap.size<=g):=by show _<=_;omega
  have hgl:Hid (w.heap.size<=g):=by have:=hs1.out;show _<=_;omega
  have hm2:=hm w1;rw[hg] at HA0;go_wp2;clear hg
  go_loopw [22] (fun s' wr=>∃ (i:Nat),s' = .int .i64 (i:Int)/\i<=ts.length/\Hid (gQ wr w.heap.size g 1 (gat 1 (wh.map (trp l)) (stp 2 at' lo hi) ((rr ts).take i)))/\Below w1.heap.size w1 wr) (fun s' _=>ts.length - (intOf s').toNat)
  case atStart=>exact⟨0,rfl,nQ _,HA0,ba _ _⟩
  case round =>
   obtain⟨i,rfl,hin,HA,hbr⟩:=hrel;clear tt hm2;by_cases h1:i<ts.length
   ·have hbwr:Below w.heap.size w wr:=bt hbw1 hbr
    have hsr:=hbwr.size;obtain⟨b,o,sa,sc,row,rfl,hbB,hgt,hcell,hrow⟩:=HQ.out.get hB hbwr h1;have HG:Hid ((rr ts)[i]? = some row):=xM hgt;have HOK:Hid (dJ l row):=HOKS.out _ (uX HG.out);have HRL:Hid (row.length=l.length):=HOK.out.len;have HRW:Hid (zQ wr B B (.slice sa row.length sc) row):=hrow;obtain⟨pb,hpb⟩:∃ pb,rU (wh.map (trp l)) row=pb:=⟨_,rfl⟩;have k2:=wT A _ _ sv es wr (hPS.out.at hbr) hel B B (.slice sa row.length sc) row (by omega) hrow (qB HWE.out HOK.out) pb hpb;have HPB:Hid (rU (wh.map (trp l)) row=pb):=hpb;clear hgt hrow hpb;go_wp2_with fail;refine k2.mono ?_;rintro e w5 ⟨rfl,hb5⟩;clear k2;have HA5:Hid (gQ w5 w.heap.size g 1 (gat 1 (wh.map (trp l)) (stp 2 at' lo hi) ((rr ts).take i))):=HA.out.at hb5;have hbr5:Below w1.heap.size w1 w5:=bt hbr hb5;have hbw5:Below w.heap.size w w5:=bt hbwr hb5;cases pb with
    | false =>
     have HA6:Hid (gQ w5 w.heap.size g 1 (gat 1 (wh.map (trp l)) (stp 2 at' lo hi) ((rr ts).take (i+1)))):=by rw[yM HG.out,gst,HPB.out];exact HA5.out
     go_wp2
     go_roundw
     case rel=>exact⟨i+1,by go_num,h1,HA6,hbr5⟩
     case measure=>simp[intOf];omega
    | true =>
     have hgbd:mX (4096*1048576) (gat 1 (wh.map (trp l)) (stp 2 at' lo hi) ((rr ts).take i)):=vM (by decide) (fun r _=>by have h1:=eP (v:=r.getD at' 0) hwr;have h2:=nI hwr;rw[show(stp 2 at' lo hi r).2=kJ lo hi (r.getD at' 0) by simp[stp]];omega) (by simp[rr];omega);obtain⟨x,hx0⟩:=wX (l:=gat 1 (wh.map (trp l)) (stp 2 at' lo hi) ((rr ts).take i)) (i:=0) (by rw[sD];decide);have hxb:-4611686018427387904<=x/\x<=4611686018427387904:=by have:=hgbd.get hx0;omega
     have hgl':=hgl.out;have k3:=ceJ g 1 w.heap.size _ x B B (.slice sa row.length sc) row F I N at' lo hi w5 HA5.out hx0 hxb (HRW.out.at (by omega) hb5) (by rw[HRL.out];exact hat) (HC.out.1.at hbw5).c (HC.out.2.1.at hbw5).c (HC.out.2.2.1.at hbw5).c (HC.out.2.2.2.at hbw5).c hwr;rw[sD] at k3
     have HA6:Hid (gQ ((w5.setCell ⟨g,0,none⟩ (.int .i64 (x+kJ lo hi (row.getD at' 0)))).drew) w.heap.size g 1 (gat 1 (wh.map (trp l)) (stp 2 at' lo hi) ((rr ts).take (i+1)))):=by
      have he:gat 1 (wh.map (trp l)) (stp 2 at' lo hi) ((rr ts).take (i+1))=(gat 1 (wh.map (trp l)) (stp 2 at' lo hi) ((rr ts).take i)).set 0 (x+kJ lo hi (row.getD at' 0)):=by
       rw[yM HG.out,gst,HPB.out]
       show pH _ _=_
       unfold pH;rw[show stp 2 at' lo hi row=(0,kJ lo hi (row.getD at' 0)) by simp[stp]];have hgd:(gat 1 (wh.map (trp l)) (stp 2 at' lo hi) ((rr ts).take i)).getD 0 0=x:=by rw[List.getD,hx0];rfl
       dsimp only;rw[hgd]
      rw[he];exact(HA5.out.set 0 _).at (aQ _ _).drew
     have hb6:Below w1.heap.size w1 ((w5.setCell ⟨g,0,none⟩ (.int .i64 (x+kJ lo hi (row.getD at' 0)))).drew):=(hbr5.setCell (by simpa using hgw.out) _).drew;clear hx0 hxb hgbd;go_wp2_with fail;refine k3.mono ?_;rintro e w6 ⟨rfl,hw6⟩;rw[<-hw6] at HA6 hb6;clear k3 hw6;go_wp2
     go_roundw
     case rel=>exact⟨i+1,by go_num,h1,HA6,hb6⟩
     case measure=>simp[intOf];omega
   ·have HA6:Hid (gQ wr w.heap.size g 1 (gat 1 (wh.map (trp l)) (stp 2 at' lo hi) (rr ts))):=by have:=HA.out;rwa [fV (by rw[aF];omega)] at this
    have hbwr:Below w.heap.size w wr:=bt hbw1 hbr;go_wp2;go_ret;exact⟨g,1,by rw[sD];rfl,HA6.out,hbwr⟩
 ·exact absurd rfl h0
theorem cgQ (B:Nat)(cv rv wv:Value)(l:List jQ)(ts:List Rw)(wh:List oX)(n:Nat)(hn:n<=4096)(w:World)(hB:B<=w.heap.size)(hp:eQ w B cv l)(hq:iQ w B rv ts)(hw:qZ w B wv wh)(hwe:iJ l wh=0)(hlen:ts.length<=4096)(hok:∀ r∈rr ts,dJ l r)(I at':Nat)(cc:jQ)(hI:Cl w I 0 (.int .i64 (at':Int)))(hcc:l[at']? = some cc)(hnc:(n:Int)=cc.2) :
  Calls prog 128 #[.agg #[cv,rv],wv,.int .i64 (n:Int),.func (.func 131) #[] #[.pointer (some ⟨I,0,none⟩)]] w (pX w (gat n (wh.map (trp l)) (stp 3 at' 0 0) (rr ts))):=by
 have HP:Hid (eQ w B cv l):=hp;have HQ:Hid (iQ w B rv ts):=hq;have HWE:Hid (iJ l wh=0):=hwe;have HOKS:Hid (∀ r∈rr ts,dJ l r):=hok;have HC:Hid (Cl w I 0 (.int .i64 (at':Int))):=hI;have HCC:Hid (l[at']? = some cc):=hcc;have HNC:Hid ((n:Int)=cc.2):=hnc;clear hnc;have hal:at' < l.length:=(lQ.1 hcc).1;clear hI hcc;have hb0:=ba w (.cells #[cv,rv] 25);have k1:=zM B cv wv l wh (w.alloc (.cells #[cv,rv] 25)) (uQ hB hb0.size) (hp.at hB hb0) (hw.at hB hb0) 0 hwe;have tb:Hid (Cl (w.alloc (.cells #[cv,rv] 25)) w.heap.size 0 cv/\Cl (w.alloc (.cells #[cv,rv] 25)) w.heap.size 1 rv):=⟨Cl.new _ 25 _ _ rfl rfl,Cl.new _ 25 _ _ rfl rfl⟩;obtain⟨ca,ccp,rfl,_⟩:=hp.slice;obtain⟨ra,rc,rfl,hrc,hrl2⟩:=hq.slice;obtain⟨wa,wc,rfl,_⟩:=hw.slice;have hm:=cP n (by omega);clear hp hq hw hwe hok;go_enter func128,ntmps128;go_wp2_with fail;refine k1.mono ?_;rintro e w1 ⟨hb1,h⟩;clear k1;rcases h with⟨_,A,sv,es,hA,rfl,hbx,htc,hes⟩|⟨h0,_⟩
 ·have hbw1:Below w.heap.size w w1:=bt hb0 hb1
  have hPS:Hid (Pss w1 A (w.alloc (.cells #[.slice ca l.length ccp,.slice ra ts.length rc] 25)).heap.size (wh.map (trp l)) sv es):=⟨hbx,htc,hes⟩;have hel:es.length<=64:=by have:=congrArg List.length hes;simp at this;rw[this];exact xB HWE.out
  have tb1:Hid (Cl w1 w.heap.size 0 (.slice ca l.length ccp)/\Cl w1 w.heap.size 1 (.slice ra ts.length rc)):=⟨tb.out.1.at hb1,tb.out.2.at hb1⟩;clear hbx htc hes hb0 hb1 tb hA;have hs1:Hid (w.heap.size<=w1.heap.size):=hbw1.size
  have HA0:Hid (gQ (w1.alloc (.cells (madeCells #[.int .i64 0] n) 3)) w.heap.size w1.heap.size n (gat n (wh.map (trp l)) (stp 3 at' 0 0) ((rr ts).take 0))):=by
   have:=gQ.made w1 w.heap.size n hs1.out (by omega);simpa [Hid,gat] using this
  have tt:=(tb1.out.2.at (ba w1 (.cells (madeCells #[.int .i64 0] n) 3))).c;obtain⟨g,hg⟩:∃ g,w1.heap.size=g:=⟨_,rfl⟩;have hgw:Hid (w1.heap.size<=g):=by show _<=_;omega
  have hgl:Hid (w.heap.size<=g):=by have:=hs1.out;show _<=_;omega
  have hm2:=hm w1;rw[hg] at HA0;go_wp2;clear hg
  go_loopw [22] (fun s' wr=>∃ (i:Nat),s' = .int .i64 (i:Int)/\i<=ts.length/\Hid (gQ wr w.heap.size g n (gat n (wh.map (trp l)) (stp 3 at' 0 0) ((rr ts).take i)))/\Below w1.heap.size w1 wr) (fun s' _=>ts.length - (intOf s').toNat)
  case atStart=>exact⟨0,rfl,nQ _,HA0,ba _ _⟩
  case round =>
   obtain⟨i,rfl,hin,HA,hbr⟩:=hrel;clear tt hm2;by_cases h1:i<ts.length
   ·have hbwr:Below w.heap.size w wr:=bt hbw1 hbr
    have hsr:=hbwr.size;obtain⟨b,o,sa,sc,row,rfl,hbB,hgt,hcell,hrow⟩:=HQ.out.get hB hbwr h1;have HG:Hid ((rr ts)[i]? = some row):=xM hgt;have HOK:Hid (dJ l row):=HOKS.out _ (uX HG.out);have HRL:Hid (row.length=l.length):=HOK.out.len;have HRW:Hid (zQ wr B B (.slice sa row.length sc) row):=hrow;obtain⟨pb,hpb⟩:∃ pb,rU (wh.map (trp l)) row=pb:=⟨_,rfl⟩;have k2:=wT A _ _ sv es wr (hPS.out.at hbr) hel B B (.slice sa row.length sc) row (by omega) hrow (qB HWE.out HOK.out) pb hpb;have HPB:Hid (rU (wh.map (trp l)) row=pb):=hpb;clear hgt hrow hpb;go_wp2_with fail;refine k2.mono ?_;rintro e w5 ⟨rfl,hb5⟩;clear k2;have HA5:Hid (gQ w5 w.heap.size g n (gat n (wh.map (trp l)) (stp 3 at' 0 0) ((rr ts).take i))):=HA.out.at hb5;have hbr5:Below w1.heap.size w1 w5:=bt hbr hb5;have hbw5:Below w.heap.size w w5:=bt hbwr hb5;cases pb with
    | false =>
     have HA6:Hid (gQ w5 w.heap.size g n (gat n (wh.map (trp l)) (stp 3 at' 0 0) ((rr ts).take (i+1)))):=by rw[yM HG.out,gst,HPB.out];exact HA5.out
     go_wp2
     go_roundw
     case rel=>exact⟨i+1,by go_num,h1,HA6,hbr5⟩
     case measure=>simp[intOf];omega
    | true =>
     have hgbd:mX (4096*1) (gat n (wh.map (trp l)) (stp 3 at' 0 0) ((rr ts).take i)):=vM (by decide) (fun r _=>by simp[stp]) (by simp[rr];omega);have hvv:=cfX HOK.out HCC.out;have hv0:0<=row.getD at' 0:=hvv.1;have hnc:=HNC.out;obtain⟨x,hx0⟩:=wX (l:=gat n (wh.map (trp l)) (stp 3 at' 0 0) ((rr ts).take i)) (i:=(row.getD at' 0).toNat) (by rw[sD];omega);have hxb:-4611686018427387904<=x/\x<=4611686018427387904:=by have:=hgbd.get hx0;omega
     have hgl':=hgl.out;have k3:=cfQ g n w.heap.size _ x B B (.slice sa row.length sc) row I at' w5 HA5.out (HRW.out.at (by omega) hb5) (by rw[HRL.out];exact hal) (HC.out.at hbw5).c hv0 hx0 hxb;rw[sD] at k3
     have HA6:Hid (gQ (w5.setCell ⟨g,(row.getD at' 0).toNat,none⟩ (.int .i64 (x+1))) w.heap.size g n (gat n (wh.map (trp l)) (stp 3 at' 0 0) ((rr ts).take (i+1)))):=by
      have he:gat n (wh.map (trp l)) (stp 3 at' 0 0) ((rr ts).take (i+1))=(gat n (wh.map (trp l)) (stp 3 at' 0 0) ((rr ts).take i)).set (row.getD at' 0).toNat (x+1):=by
       rw[yM HG.out,gst,HPB.out]
       show pH _ _=_
       unfold pH;rw[show stp 3 at' 0 0 row=((row.getD at' 0).toNat,1) by simp[stp]];have hgd:(gat n (wh.map (trp l)) (stp 3 at' 0 0) ((rr ts).take i)).getD (row.getD at' 0).toNat 0=x:=by rw[List.getD,hx0];rfl
       dsimp only;rw[hgd]
      rw[he];exact HA5.out.set _ _
     have hb6:Below w1.heap.size w1 (w5.setCell ⟨g,(row.getD at' 0).toNat,none⟩ (.int .i64 (x+1))):=hbr5.setCell (by simpa using hgw.out) _;clear hx0 hxb hgbd;clear hvv hnc;go_wp2_with fail;refine k3.mono ?_;rintro e w6 ⟨rfl,hw6⟩;rw[<-hw6] at HA6 hb6;clear k3 hw6;go_wp2
     go_roundw
     case rel=>exact⟨i+1,by go_num,h1,HA6,hb6⟩
     case measure=>simp[intOf];omega
   ·have HA6:Hid (gQ wr w.heap.size g n (gat n (wh.map (trp l)) (stp 3 at' 0 0) (rr ts))):=by have:=HA.out;rwa [fV (by rw[aF];omega)] at this
    have hbwr:Below w.heap.size w wr:=bt hbw1 hbr;go_wp2;go_ret;exact⟨g,n,by rw[sD];rfl,HA6.out,hbwr⟩
 ·exact absurd rfl h0
