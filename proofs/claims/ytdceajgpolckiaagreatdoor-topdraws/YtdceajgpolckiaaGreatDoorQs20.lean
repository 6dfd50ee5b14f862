import Derived.Test.YtdceajgpolckiaaGreatDoorQs19
import Derived.Laws.StructEq
import Derived.Deep.RegionLaw
open Go.Proofs.Tryz
set_option linter.unusedSimpArgs false
set_option maxHeartbeats 16000000
set_option maxRecDepth 100000
namespace Go.Proofs.YtdceajgpolckiaaGreatDoor
namespace K
open Go.RowKit K.Ds
def fQ (w:World) (lo g c:Nat) (xs:List Int):Prop:=w.ownsRow lo 3 1 (.slice (some ⟨g,0,none⟩) xs.length c) xs.length (xs.map (.int .i64))
theorem fQ.inv {w:World}{lo g c:Nat}{xs:List Int}(h:fQ w lo g c xs):∃ cur:Array Value,lo<=g/\w.heap[g]? = some (.cells cur 3 (0,0))/\xs.length<=c/\c<=maxLen/\cur.size=c/\cur.toList.take xs.length=xs.map (.int .i64):=by
 obtain⟨_,h|⟨g',c',cur,e,h1,h2,h3,h4,h5,h6⟩⟩:=h
 ·simp at h
 ·simp only[eJ,sX,sD,qM,true_and] at e
  obtain⟨rfl,rfl⟩:=e;exact⟨cur,h1,h2,h3,h4,by simpa using h5,by simpa using h6⟩
theorem fQ.mk {w:World}{lo g c:Nat}{xs:List Int}{cur:Array Value}(h1:lo<=g)(h2:w.heap[g]? = some (.cells cur 3 (0,0)))(h3:xs.length<=c)(h4:c<=maxLen)(h5:cur.size=c)(h6:cur.toList.take xs.length=xs.map (.int .i64)):fQ w lo g c xs :=
 ⟨by simp,.inr ⟨g,c,cur,rfl,h1,h2,h3,h4,by simpa using h5,by simpa using h6⟩⟩
theorem fQ.lt {w:World}{lo g c:Nat}{xs:List Int}(h:fQ w lo g c xs):lo<=g/\g<w.heap.size:=by
 obtain⟨cur,h1,h2,_⟩:=h.inv;exact⟨h1,(mY.1 h2).1⟩
theorem fQ.at {w w':World}{lo g c:Nat}{xs:List Int}(h:fQ w lo g c xs)(hb:Below w.heap.size w w'):fQ w' lo g c xs:=pI h hb
theorem fQ.cell {w:World}{lo g c:Nat}{xs:List Int}(h:fQ w lo g c xs){i:Nat}{x:Int}(hi:xs[i]? = some x):w.cell? ⟨g,i,none⟩=some (.int .i64 x):=by
 have:=World.ownsRow.cells h (g:=g) rfl i (.int .i64 x) (by simp[hi]);rwa [aA,oX] at this
theorem fQ.fz {w:World}{lo g c:Nat}{xs:List Int}(h:fQ w lo g c xs)(i:Nat):w.frozen? ⟨g,i,none⟩=false:=by
 obtain⟨cur,_,h2,_⟩:=h.inv;exact uM h2
theorem fQ.set {w:World}{lo g c:Nat}{xs:List Int}(h:fQ w lo g c xs)(i:Nat)(z:Int):fQ (w.setCell ⟨g,i,none⟩ (.int .i64 z)) lo g c (xs.set i z):=by
 obtain⟨cur,h1,h2,h3,h4,h5,h6⟩:=h.inv;obtain⟨hlt,hk⟩:=mY.1 h2;refine fQ.mk (cur:=cur.setIfInBounds i (.int .i64 z)) h1 ?_ (by simpa using h3) h4 (by simpa using h5) ?_
 ·show(w.heap.modify g _)[g]? = _
  rw[Array.getElem?_eq_getElem (by rw[Array.size_modify];exact hlt),Array.getElem_modify_self,hk];rfl
 ·rw[Array.toList_setIfInBounds,cK,List.take_set,h6,List.map_set]
theorem fQ.oth {w:World}{lo g c:Nat}{xs:List Int}(h:fQ w lo g c xs){b k:Nat}(hne:b≠g)(u:Value):fQ (w.setCell ⟨b,k,none⟩ u) lo g c xs:=by
 obtain⟨cur,h1,h2,h3⟩:=h.inv;exact fQ.mk h1 ((lL _ _ _ g (fun e=>hne (by simpa using e.symm))).trans h2) h3.1 h3.2.1 h3.2.2.1 h3.2.2.2
theorem fQ.mono {w:World}{lo lo' g c:Nat}{xs:List Int}(h:fQ w lo g c xs)(hl:lo'<=lo):fQ w lo' g c xs:=by
 obtain⟨cur,h1,h2,h3⟩:=h.inv;exact fQ.mk (by omega) h2 h3.1 h3.2.1 h3.2.2.1 h3.2.2.2
theorem wI:maxLen=9223372036854775807:=by decide
theorem fQ.ints {w:World}{lo g c:Nat}{xs:List Int}(h:fQ w lo g c xs)(m:Nat)(hm:g≠m):xQ w w.heap.size m (.slice (some ⟨g,0,none⟩) xs.length c) xs:=by
 obtain⟨cur,h1,h2,h3,h4,h5,h6⟩:=h.inv;rw[wI] at h4;exact⟨_,_,rfl,h3,by omega,fun _=>⟨g,0,rfl,h.lt.2,hm,fun i x hi=>by rw[oX];exact h.cell hi⟩⟩
theorem fQ.made (w:World)(lo n:Nat)(hlo:lo<=w.heap.size)(hn:n<=1073741824):fQ (w.alloc (.cells (madeCells #[.int .i64 0] n) 3)) lo w.heap.size n (List.replicate n 0):=by
 have hsz:(madeCells #[Value.int .i64 0] n).size=n:=by simp[madeCells]
 refine fQ.mk hlo (World.alloc_heap_new w _) (by simp) (by rw[wI];omega) hsz ?_;rw[List.length_replicate,eV (by rw[tL,hsz];omega)];apply bI;intro i;by_cases hi:i<n
 ·simp[madeCells,hi,Nat.mod_one]
 ·simp[madeCells,hi]
theorem fQ.lit (w:World)(lo:Nat)(z:Int)(hlo:lo<=w.heap.size):fQ (w.alloc (.cells #[.int .i64 z] 3)) lo w.heap.size 1 [z] :=
 fQ.mk hlo (World.alloc_heap_new w _) (by simp) (by rw[wI];omega) rfl rfl
theorem xQ.got {w:World}{B nb n c:Nat}{a:Option Addr}{xs:List Int}(h:xQ w B nb (.slice a n c) xs){i:Nat}(hi:i<xs.length):∃ b o x,a=some ⟨b,o,none⟩/\n=xs.length/\b<B/\b≠nb/\xs[i]? = some x/\xs.getD i 0=x/\w.cell? ⟨b,o+i,none⟩=some (.int .i64 x):=by
 obtain⟨a',c',e,_,_,hx⟩:=h;simp only[eJ] at e;obtain⟨rfl,rfl,rfl⟩:=e;obtain⟨b,o,rfl,hb,hn,hcell⟩:=hx (ne_of_lt hi);obtain⟨x,hx⟩:=lX hi;exact⟨b,o,x,rfl,rfl,hb,hn,hx,by simp[List.getD,hx],hcell i x hx⟩
theorem caX (h i p:Nat)(at':Nat)(d z:Int)(hd:pV d=true)(B nb:Nat)(rv:Value)(row:List Int)(w:World)(hh:Boxed w h 251 (kU d p))(hi:Boxed w i 3 (.int .i64 (at':Int)))(hp:Boxed w p 3 (.int .i64 z))(hr:xQ w B nb rv row)(hat:at' < row.length) :
  Calls prog 205 #[rv,.pointer (some ⟨h,0,none⟩),.pointer (some ⟨i,0,none⟩)] w fun e w'=>e=.returned (.bool (xL d z (row.getD at' 0)))/\w' = w.drew:=by
 obtain⟨a,c,rfl,hc,hl,hx⟩:=hr;obtain⟨b,o,x,rfl,_,hb,hn,hg,hgd,hcell⟩:=xQ.got ⟨a,c,rfl,hc,hl,hx⟩ hat;have q1:=hh.cell;have q2:=hi.cell;have q3:=hp.cell;have q3':w.drew.cell? ⟨p,0,none⟩=some (.int .i64 z):=q3;rw[hgd];clear hh hi hp hx hg hgd;simp only[pV,oJ] at hd;by_cases h1:d=1
 ·subst h1
  have kt:=zL 1 z x p w.drew (by decide) q3';simp only[kU] at q1;go_enter func205,ntmps205;go_wp2
  go_region_held3 (fun w'=>w'.cell? ⟨h,0,none⟩=some (.func (.func 232) #[] #[.pointer (some ⟨p,0,none⟩)])/\w'.cell? ⟨i,0,none⟩=some (.int .i64 (at':Int))/\w'.cell? ⟨b,o+at',none⟩=some (.int .i64 x)) (first|assumption|(simp[go_sem, *];done)) ((refine kt.mono ?_;rintro x3 w3 ⟨rfl,hw3⟩;subst hw3))
  go_wp2;go_ret;exact⟨rfl,rfl⟩
 by_cases h2:d=2
 ·subst h2
  have kt:=zL 2 z x p w.drew (by decide) q3';simp only[kU] at q1;go_enter func205,ntmps205;go_wp2
  go_region_held3 (fun w'=>w'.cell? ⟨h,0,none⟩=some (.func (.func 233) #[] #[.pointer (some ⟨p,0,none⟩)])/\w'.cell? ⟨i,0,none⟩=some (.int .i64 (at':Int))/\w'.cell? ⟨b,o+at',none⟩=some (.int .i64 x)) (first|assumption|(simp[go_sem, *];done)) ((refine kt.mono ?_;rintro x3 w3 ⟨rfl,hw3⟩;subst hw3))
  go_wp2;go_ret;exact⟨rfl,rfl⟩
 by_cases h3:d=3
 ·subst h3
  have kt:=zL 3 z x p w.drew (by decide) q3';simp only[kU] at q1;go_enter func205,ntmps205;go_wp2
  go_region_held3 (fun w'=>w'.cell? ⟨h,0,none⟩=some (.func (.func 234) #[] #[.pointer (some ⟨p,0,none⟩)])/\w'.cell? ⟨i,0,none⟩=some (.int .i64 (at':Int))/\w'.cell? ⟨b,o+at',none⟩=some (.int .i64 x)) (first|assumption|(simp[go_sem, *];done)) ((refine kt.mono ?_;rintro x3 w3 ⟨rfl,hw3⟩;subst hw3))
  go_wp2;go_ret;exact⟨rfl,rfl⟩
 by_cases h4:d=4
 ·subst h4
  have kt:=zL 4 z x p w.drew (by decide) q3';simp only[kU] at q1;go_enter func205,ntmps205;go_wp2
  go_region_held3 (fun w'=>w'.cell? ⟨h,0,none⟩=some (.func (.func 235) #[] #[.pointer (some ⟨p,0,none⟩)])/\w'.cell? ⟨i,0,none⟩=some (.int .i64 (at':Int))/\w'.cell? ⟨b,o+at',none⟩=some (.int .i64 x)) (first|assumption|(simp[go_sem, *];done)) ((refine kt.mono ?_;rintro x3 w3 ⟨rfl,hw3⟩;subst hw3))
  go_wp2;go_ret;exact⟨rfl,rfl⟩
 by_cases h5:d=5
 ·subst h5
  have kt:=zL 5 z x p w.drew (by decide) q3';simp only[kU] at q1;go_enter func205,ntmps205;go_wp2
  go_region_held3 (fun w'=>w'.cell? ⟨h,0,none⟩=some (.func (.func 236) #[] #[.pointer (some ⟨p,0,none⟩)])/\w'.cell? ⟨i,0,none⟩=some (.int .i64 (at':Int))/\w'.cell? ⟨b,o+at',none⟩=some (.int .i64 x)) (first|assumption|(simp[go_sem, *];done)) ((refine kt.mono ?_;rintro x3 w3 ⟨rfl,hw3⟩;subst hw3))
  go_wp2;go_ret;exact⟨rfl,rfl⟩
 obtain rfl:d=6:=by omega
 have kt:=zL 6 z x p w.drew (by decide) q3';simp only[kU] at q1;go_enter func205,ntmps205;go_wp2
 go_region_held3 (fun w'=>w'.cell? ⟨h,0,none⟩=some (.func (.func 237) #[] #[.pointer (some ⟨p,0,none⟩)])/\w'.cell? ⟨i,0,none⟩=some (.int .i64 (at':Int))/\w'.cell? ⟨b,o+at',none⟩=some (.int .i64 x)) (first|assumption|(simp[go_sem, *];done)) ((refine kt.mono ?_;rintro x3 w3 ⟨rfl,hw3⟩;subst hw3))
 go_wp2;go_ret;exact⟨rfl,rfl⟩
structure Pss (w:World) (A lo:Nat) (ps:List (Nat × Int × Int)) (sv:Value) (es:List (Value × Nat × Int × Int)):Prop where
 box:Boxed w A 295 sv
 tcs:zF w lo sv es
 eq:es.map (·.2)=ps
theorem Pss.at {w w':World}{A lo:Nat}{ps:List (Nat × Int × Int)}{sv:Value}{es:List (Value × Nat × Int × Int)}(h:Pss w A lo ps sv es)(hb:Below w.heap.size w w'):Pss w' A lo ps sv es:=⟨Boxed.at h.box hb,h.tcs.at hb,h.eq⟩
theorem caZ {es:List (Value × Nat × Int × Int)}{i:Nat}{e:Value × Nat × Int × Int}{r:List Int}(h:es[i]? = some e):xU ((es.drop i).map (·.2)) r=(xL e.2.2.1 e.2.2.2 (r.getD e.2.1 0) && xU ((es.drop (i+1)).map (·.2)) r):=by
 rw[zV (gQ.1 h).1,(gQ.1 h).2];simp[xU]
theorem lT (A lo:Nat)(ps:List (Nat × Int × Int))(sv:Value)(es:List (Value × Nat × Int × Int))(w:World)(hP:Pss w A lo ps sv es)(hes:es.length<=64)(B nb:Nat)(rv:Value)(row:List Int)(hB:B<=w.heap.size)(hr:xQ w B nb rv row)(hat:∀ e∈ps,pV e.2.1=true/\e.1<row.length)(r:Bool)(hrr:xU ps row=r) :
  Calls prog 206 #[rv,.pointer (some ⟨A,0,none⟩)] w fun e w'=>e=.returned (.bool r)/\Below w.heap.size w w':=by
 have HP:Hid (Pss w A lo ps sv es):=hP;have HRV:Hid (xQ w B nb rv row):=hr;have HAT:Hid (∀ e∈ps,pV e.2.1=true/\e.1<row.length):=hat;have HRR:Hid (xU ((es.drop 0).map (·.2)) row=r):=by rw[aK,hP.eq];exact hrr
 have q0:=hP.box.cell;obtain⟨sa,sc,rfl⟩:=oK hP.tcs.1;obtain⟨ra,rc,rfl,_⟩:=hr;clear hP hat hrr;go_enter func206,ntmps206;go_wp2
 go_loopw [8] (fun s' wr=>∃ (i:Nat),s' = .int .i64 (i:Int)/\i<=es.length/\Hid (xU ((es.drop i).map (·.2)) row=r)/\Below w.heap.size w wr) (fun s' _=>es.length - (intOf s').toNat)
 case atStart=>exact⟨0,rfl,mQ _,HRR,uQ _ _⟩
 case round =>
  obtain⟨i,rfl,hi,HI,hbl⟩:=hrel;clear q0;by_cases h1:i<es.length
  ·obtain⟨e,he⟩:=lX h1
   have hTc:=HP.out.tcs.at hbl
   obtain⟨g,c',rfl,hg1,hg2⟩:∃ g c',sa=some ⟨g,0,none⟩/\c' = sc/\True:=by
    obtain⟨_,h2|⟨g,cap,cur,e1,_⟩⟩:=hTc.1
    ·have:=h2.2;omega
    ·simp only[eJ] at e1;exact⟨g,sc,e1.1,rfl,trivial⟩
   have hc0:wr.cell? ⟨g,i,none⟩=some e.1:=by
    have:=World.ownsRow.cells hTc.1 (g:=g) rfl i e.1 (by simp[he]);rwa [aA,oX] at this
   obtain⟨h,ii,p,hV,b1,b2,b3⟩:=hTc.2 e (vX he);have hmem:e.2∈ps:=by rw[<-HP.out.eq];exact List.mem_map_of_mem (vX he)
   obtain⟨hd,ha⟩:=HAT.out _ hmem;have HST:Hid (xU ((es.drop i).map (·.2)) row=(xL e.2.2.1 e.2.2.2 (row.getD e.2.1 0) && xU ((es.drop (i+1)).map (·.2)) row)):=caZ he;have k1:=caX h ii p e.2.1 e.2.2.1 e.2.2.2 hd B nb _ row wr b1 b2 b3 (HRV.out.at hB hbl) ha;obtain⟨tb,htb⟩:∃ tb,xL e.2.2.1 e.2.2.2 (row.getD e.2.1 0)=tb:=⟨_,rfl⟩;rw[htb] at k1;rw[hV] at hc0;have HB2:Hid ((tb && xU ((es.drop (i+1)).map (·.2)) row)=r):=by rw[<-htb,<-HST.out];exact HI.out
   clear hTc b1 b2 b3 hd ha hmem htb hV HI;cases tb with
   | false =>
    obtain rfl:false=r:=by rw[<-HB2.out];rfl
    go_wp2_with fail;refine k1.mono ?_;rintro e w1 ⟨rfl,hw1⟩;subst hw1;go_wp2;go_ret;exact⟨rfl,hbl.drew⟩
   | true =>
    have HI2:Hid (xU ((es.drop (i+1)).map (·.2)) row=r):=by have:=HB2.out;simpa [Hid] using this
    go_wp2_with fail;refine k1.mono ?_;rintro e w1 ⟨rfl,hw1⟩;subst hw1;go_wp2
    go_roundw
    case rel=>exact⟨i+1,by go_num,h1,HI2,hbl.drew⟩
    case measure=>simp[intOf];omega
  ·obtain rfl:true=r:=by have:=HI.out;rw[gF (by omega)] at this;exact this
   go_wp2;go_ret;exact⟨rfl,hbl⟩
theorem bM (N:Nat)(lo hi v:Int)(w:World)(h2:w.cell? ⟨N,2,none⟩=some (.int .i64 lo))(h3:w.cell? ⟨N,3,none⟩=some (.int .i64 hi))(hle:lo<=hi) :
  Calls prog 126 #[.int .i64 v,.pointer (some ⟨N,0,none⟩)] w fun e w'=>e=.returned (.int .i64 (jJ lo hi v))/\w' = w:=by
 go_enter func126,ntmps126;by_cases c1:v<lo
 ·rw[jJ,zQ c1]
  have c3:¬ hi<lo:=by omega
  go_wp2
  all_goals first
   | (go_ret;exact⟨rfl,rfl⟩)
   | (exfalso;omega)
   | (go_ret;exact⟨by congr 1;congr 1;omega,rfl⟩)
 ·by_cases c2:hi<v
  ·rw[jJ,qQ c1,zQ c2]
   go_wp2
   all_goals first
    | (go_ret;exact⟨rfl,rfl⟩)
    | (exfalso;omega)
    | (go_ret;exact⟨by congr 1;congr 1;omega,rfl⟩)
  ·rw[jJ,qQ c1,qQ c2]
   go_wp2
   all_goals first
    | (go_ret;exact⟨rfl,rfl⟩)
    | (exfalso;omega)
    | (go_ret;exact⟨by congr 1;congr 1;omega,rfl⟩)
theorem caJ (g c lo:Nat)(xs:List Int)(x:Int)(rv:Value)(w:World)(hx:fQ w lo g c xs)(h0:xs[0]? = some x)(hb:-4611686018427387904<=x/\x<=4611686018427387904) :
  Calls prog 129 #[.slice (some ⟨g,0,none⟩) xs.length c,rv] w fun e w'=>e=.returned (.tuple #[])/\w' = w.setCell ⟨g,0,none⟩ (.int .i64 (x+1)):=by
 have hl:0<xs.length:=(gQ.1 h0).1;have q0:=hx.cell h0;have q1:=hx.fz 0;obtain⟨b1,b2⟩:=hb;clear hx;go_enter func129,ntmps129;go_wp2;go_end0;exact⟨rfl,rfl⟩
theorem cbQ (g c lo0:Nat)(xs:List Int)(x:Int)(B nb:Nat)(rv:Value)(row:List Int)(F I N at':Nat)(lo hi:Int)(w:World)(hx:fQ w lo0 g c xs)(h0:xs[0]? = some x)(hb:-4611686018427387904<=x/\x<=4611686018427387904)
  (hr:xQ w B nb rv row) (hat:at' < row.length) (hF:w.cell? ⟨F,0,none⟩=some (.func (.func 126) #[] #[.pointer (some ⟨N,0,none⟩)])) (hI:w.cell? ⟨I,0,none⟩=some (.int .i64 (at':Int))) (h2:w.cell? ⟨N,2,none⟩=some (.int .i64 lo)) (h3:w.cell? ⟨N,3,none⟩=some (.int .i64 hi)) (hw:aV lo hi=true) :
  Calls prog 130 #[.slice (some ⟨g,0,none⟩) xs.length c,rv,.pointer (some ⟨F,0,none⟩),.pointer (some ⟨I,0,none⟩)] w fun e w'=>e=.returned (.tuple #[])/\w' = (w.setCell ⟨g,0,none⟩ (.int .i64 (x+jJ lo hi (row.getD at' 0)))).drew:=by
 have hl:0<xs.length:=(gQ.1 h0).1;obtain⟨a,cc,rfl,hc,hlr,hxx⟩:=hr;obtain⟨b,o,y,rfl,_,hbB,hn,hg,hgd,hcell⟩:=xQ.got ⟨a,cc,rfl,hc,hlr,hxx⟩ hat;rw[hgd];have q0:=hx.cell h0;have q1:=hx.fz 0;have hin:=pO (v:=y) hw;have hsp:=jI hw;have hle:lo<=hi:=by simp only[aV,oJ] at hw;omega
 have kt:=bM N lo hi y w.drew h2 h3 hle;obtain⟨z,hz⟩:∃ z,jJ lo hi y=z:=⟨_,rfl⟩;rw[hz] at kt hin ⊢;obtain⟨b1,b2⟩:=hb;have hw1:IntKind.i64.wrap (x+z)=x+z:=by rw[sY];have:=sK (a:=x+z) (by omega);unfold wrap64 at this;omega
 clear hx hw hz hsp hgd hg hxx;go_enter func130,ntmps130;go_wp2
 go_region_law (first|(go_simp;go_at_call 126;refine kt.mono ?_;rintro x3 w3 ⟨rfl,hw3⟩;subst hw3;go_wp2_with fail))
 all_goals (go_end0;exact⟨rfl,rfl⟩)
theorem cbX (g c lo0:Nat)(xs:List Int)(x:Int)(B nb:Nat)(rv:Value)(row:List Int)(I at':Nat)(w:World)(hx:fQ w lo0 g c xs)(hr:xQ w B nb rv row)(hat:at' < row.length)(hI:w.cell? ⟨I,0,none⟩=some (.int .i64 (at':Int)))
  (hv:0<=row.getD at' 0) (h0:xs[(row.getD at' 0).toNat]? = some x) (hb:-4611686018427387904<=x/\x<=4611686018427387904) :
  Calls prog 131 #[.slice (some ⟨g,0,none⟩) xs.length c,rv,.pointer (some ⟨I,0,none⟩)] w fun e w'=>e=.returned (.tuple #[])/\w' = w.setCell ⟨g,(row.getD at' 0).toNat,none⟩ (.int .i64 (x+1)):=by
 obtain⟨a,cc,rfl,hc,hlr,hxx⟩:=hr;obtain⟨b,o,y,rfl,_,hbB,hn,hg,hgd,hcell⟩:=xQ.got ⟨a,cc,rfl,hc,hlr,hxx⟩ hat;rw[hgd] at hv h0 ⊢;obtain⟨j,rfl⟩:∃ j:Nat,y=(j:Int):=⟨y.toNat,by omega⟩;rw[dK] at h0 ⊢;have hl:j<xs.length:=(gQ.1 h0).1;have q0:=hx.cell h0;have q1:=hx.fz j;obtain⟨b1,b2⟩:=hb;clear hx hgd hg hxx;go_enter func131,ntmps131;go_wp2;go_end0;exact⟨rfl,rfl⟩
theorem cbZ {l:List vQ}{r:List Int}(h:tZ l r){i:Nat}{c:vQ}(hc:l[i]? = some c):0<=r.getD i 0/\r.getD i 0<c.2:=by
 induction l generalizing r i with
 | nil=>simp at hc
 | cons d l ih =>
  cases r with
  | nil=>exact h.elim
  | cons v r =>
   cases i with
   | zero=>simp at hc;subst hc;simpa [List.getD] using ⟨h.1,h.2.1⟩
   | succ i=>have:=ih h.2.2 (by simpa using hc);simpa [List.getD] using this
theorem aL {n:Nat}{ps:List (Nat × Int × Int)}{f:List Int->Nat × Int}{rs:List (List Int)}{i:Nat}{r:List Int}(h:rs[i]? = some r):gat n ps f (rs.take (i+1))=gst ps f (gat n ps f (rs.take i)) r:=by
 unfold gat;rw[nZ,h,List.foldl_append];rfl
theorem fX.get {M:Int}{xs:List Int}(h:fX M xs){i:Nat}{x:Int}(hi:xs[i]? = some x):-M<=x/\x<=M:=h x (vX hi)
theorem mT {l:List vQ}{wh:List tX}{row:List Int}(h:gJ l wh=0)(hr:tZ l row):∀ e∈wh.map (trp l),pV e.2.1=true/\e.1<row.length:=by
 intro e he;obtain⟨t,ht,rfl⟩:=yJ.1 he;unfold gJ at h;split at h
 ·cases h
 ·obtain⟨h1,h2⟩:=b1Z h t ht
  refine⟨h2,?_⟩;obtain⟨i,hi⟩:=Option.isSome_iff_exists.1 h1;rw[hr.len];simpa [trp,hi] using zI hi
theorem nT {l:List vQ}{wh:List tX}(h:gJ l wh=0):wh.length<=64:=by
 unfold gJ at h;split at h
 ·cases h
 ·omega
def pX (w:World) (xs:List Int) (e:Ending) (w':World):Prop:=∃ g c,e=.returned (.slice (some ⟨g,0,none⟩) xs.length c)/\fQ w' w.heap.size g c xs/\Below w.heap.size w w'
theorem cbJ (B:Nat)(cv rv wv:Value)(l:List vQ)(ts:List Rw)(wh:List tX)(w:World)(hB:B<=w.heap.size)(hp:dQ w B cv l)(hq:iQ w B rv ts)(hw:vZ w B wv wh)(hwe:gJ l wh=0)(hlen:ts.length<=4096)(hok:∀ r∈rr ts,tZ l r) :
  Calls prog 128 #[.agg #[cv,rv],wv,.int .i64 1,.func (.func 129) #[] #[]] w (pX w (gat 1 (wh.map (trp l)) (stp 1 0 0 0) (rr ts))):=by
 have HP:Hid (dQ w B cv l):=hp;have HQ:Hid (iQ w B rv ts):=hq;have HWE:Hid (gJ l wh=0):=hwe;have HOKS:Hid (∀ r∈rr ts,tZ l r):=hok;have hb0:=ba w (.cells #[cv,rv] 25);have k1:=vL B cv wv l wh (w.alloc (.cells #[cv,rv] 25)) (aQ hB hb0.size) (hp.at hB hb0) (hw.at hB hb0) 0 hwe;have tb:Hid (Cl (w.alloc (.cells #[cv,rv] 25)) w.heap.size 0 cv/\Cl (w.alloc (.cells #[cv,rv] 25)) w.heap.size 1 rv):=⟨Cl.new _ 25 _ _ rfl rfl,Cl.new _ 25 _ _ rfl rfl⟩;obtain⟨ca,ccp,rfl,_⟩:=hp.slice;obtain⟨ra,rc,rfl,hrc,hrl2⟩:=hq.slice;obtain⟨wa,wc,rfl,_⟩:=hw.slice;have hm:∀ u:World,(Instr.makeSlice 37 (.int .i64 1) (.int .i64 1)).run prog u=.ok (.slice (some ⟨u.heap.size,0,none⟩) 1 1) (u.alloc (.cells (madeCells #[.int .i64 0] 1) 3)):=fun u=>jL 1 (by decide) u;clear hp hq hw hwe hok;go_enter func128,ntmps128;go_wp2_with fail;refine k1.mono ?_;rintro e w1 ⟨hb1,h⟩;clear k1;rcases h with⟨_,A,sv,es,hA,rfl,hbx,htc,hes⟩|⟨h0,_⟩
 ·have hbw1:Below w.heap.size w w1:=bt hb0 hb1
  have hPS:Hid (Pss w1 A (w.alloc (.cells #[.slice ca l.length ccp,.slice ra ts.length rc] 25)).heap.size (wh.map (trp l)) sv es):=⟨hbx,htc,hes⟩;have hel:es.length<=64:=by have:=congrArg List.length hes;simp at this;rw[this];exact nT HWE.out
  have tb1:Hid (Cl w1 w.heap.size 0 (.slice ca l.length ccp)/\Cl w1 w.heap.size 1 (.slice ra ts.length rc)):=⟨tb.out.1.at hb1,tb.out.2.at hb1⟩;clear hbx htc hes hb0 hb1 tb hA;have hs1:Hid (w.heap.size<=w1.heap.size):=hbw1.size
  have HA0:Hid (fQ (w1.alloc (.cells (madeCells #[.int .i64 0] 1) 3)) w.heap.size w1.heap.size 1 (gat 1 (wh.map (trp l)) (stp 1 0 0 0) ((rr ts).take 0))):=by
   have:=fQ.made w1 w.heap.size 1 hs1.out (by omega);simpa [Hid,gat] using this
  have tt:=(tb1.out.2.at (ba w1 (.cells (madeCells #[.int .i64 0] 1) 3))).c;obtain⟨g,hg⟩:∃ g,w1.heap.size=g:=⟨_,rfl⟩;have hgw:Hid (w1.heap.size<=g):=by show _<=_;omega
  have hgl:Hid (w.heap.size<=g):=by have:=hs1.out;show _<=_;omega
  have hm2:=hm w1;rw[hg] at HA0;go_wp2;clear hg
  go_loopw [22] (fun s' wr=>∃ (i:Nat),s' = .int .i64 (i:Int)/\i<=ts.length/\Hid (fQ wr w.heap.size g 1 (gat 1 (wh.map (trp l)) (stp 1 0 0 0) ((rr ts).take i)))/\Below w1.heap.size w1 wr) (fun s' _=>ts.length - (intOf s').toNat)
  case atStart=>exact⟨0,rfl,mQ _,HA0,ba _ _⟩
  case round =>
   obtain⟨i,rfl,hin,HA,hbr⟩:=hrel;clear tt hm2;by_cases h1:i<ts.length
   ·have hbwr:Below w.heap.size w wr:=bt hbw1 hbr
    have hsr:=hbwr.size;obtain⟨b,o,sa,sc,row,rfl,hbB,hgt,hcell,hrow⟩:=HQ.out.get hB hbwr h1;have HG:Hid ((rr ts)[i]? = some row):=dM hgt;have HOK:Hid (tZ l row):=HOKS.out _ (vX HG.out);have HRL:Hid (row.length=l.length):=HOK.out.len;have HRW:Hid (xQ wr B B (.slice sa row.length sc) row):=hrow;obtain⟨pb,hpb⟩:∃ pb,xU (wh.map (trp l)) row=pb:=⟨_,rfl⟩;have k2:=lT A _ _ sv es wr (hPS.out.at hbr) hel B B (.slice sa row.length sc) row (by omega) hrow (mT HWE.out HOK.out) pb hpb;have HPB:Hid (xU (wh.map (trp l)) row=pb):=hpb;clear hgt hrow hpb;go_wp2_with fail;refine k2.mono ?_;rintro e w5 ⟨rfl,hb5⟩;clear k2;have HA5:Hid (fQ w5 w.heap.size g 1 (gat 1 (wh.map (trp l)) (stp 1 0 0 0) ((rr ts).take i))):=HA.out.at hb5;have hbr5:Below w1.heap.size w1 w5:=bt hbr hb5;have hbw5:Below w.heap.size w w5:=bt hbwr hb5;cases pb with
    | false =>
     have HA6:Hid (fQ w5 w.heap.size g 1 (gat 1 (wh.map (trp l)) (stp 1 0 0 0) ((rr ts).take (i+1)))):=by rw[aL HG.out,gst,HPB.out];exact HA5.out
     go_wp2
     go_roundw
     case rel=>exact⟨i+1,by go_num,h1,HA6,hbr5⟩
     case measure=>simp[intOf];omega
    | true =>
     have hgbd:fX (4096*1) (gat 1 (wh.map (trp l)) (stp 1 0 0 0) ((rr ts).take i)):=uL (by decide) (fun r _=>by simp[stp]) (by simp[rr];omega);obtain⟨x,hx0⟩:=lX (l:=gat 1 (wh.map (trp l)) (stp 1 0 0 0) ((rr ts).take i)) (i:=0) (by rw[wG];decide);have hxb:-4611686018427387904<=x/\x<=4611686018427387904:=by have:=hgbd.get hx0;omega
     have hgl':=hgl.out;have k3:=caJ g 1 w.heap.size _ x (.slice sa row.length sc) w5 HA5.out hx0 hxb;rw[wG] at k3
     have HA6:Hid (fQ (w5.setCell ⟨g,0,none⟩ (.int .i64 (x+1))) w.heap.size g 1 (gat 1 (wh.map (trp l)) (stp 1 0 0 0) ((rr ts).take (i+1)))):=by
      have he:gat 1 (wh.map (trp l)) (stp 1 0 0 0) ((rr ts).take (i+1))=(gat 1 (wh.map (trp l)) (stp 1 0 0 0) ((rr ts).take i)).set 0 (x+1):=by
       rw[aL HG.out,gst,HPB.out]
       show qH _ _=_
       unfold qH;rw[show stp 1 0 0 0 row=(0,1) by simp[stp]];have hgd:(gat 1 (wh.map (trp l)) (stp 1 0 0 0) ((rr ts).take i)).getD 0 0=x:=by rw[List.getD,hx0];rfl
       dsimp only;rw[hgd]
      rw[he];exact HA5.out.set 0 _
     have hb6:Below w1.heap.size w1 (w5.setCell ⟨g,0,none⟩ (.int .i64 (x+1))):=hbr5.setCell (by simpa using hgw.out) _;clear hx0 hxb hgbd;go_wp2_with fail;refine k3.mono ?_;rintro e w6 ⟨rfl,hw6⟩;rw[<-hw6] at HA6 hb6;clear k3 hw6;go_wp2
     go_roundw
     case rel=>exact⟨i+1,by go_num,h1,HA6,hb6⟩
     case measure=>simp[intOf];omega
   ·have HA6:Hid (fQ wr w.heap.size g 1 (gat 1 (wh.map (trp l)) (stp 1 0 0 0) (rr ts))):=by have:=HA.out;rwa [eV (by rw[tF];omega)] at this
    have hbwr:Below w.heap.size w wr:=bt hbw1 hbr;go_wp2;go_ret;exact⟨g,1,by rw[wG];rfl,HA6.out,hbwr⟩
 ·exact absurd rfl h0
theorem ccQ (B:Nat)(cv rv wv:Value)(l:List vQ)(ts:List Rw)(wh:List tX)(w:World)(hB:B<=w.heap.size)(hp:dQ w B cv l)(hq:iQ w B rv ts)(hw:vZ w B wv wh)(hwe:gJ l wh=0)(hlen:ts.length<=4096)(hok:∀ r∈rr ts,tZ l r)(F I N at':Nat)(lo hi:Int)(hF:Cl w F 0 (.func (.func 126) #[] #[.pointer (some ⟨N,0,none⟩)]))(hI:Cl w I 0 (.int .i64 (at':Int)))(h2:Cl w N 2 (.int .i64 lo))(h3:Cl w N 3 (.int .i64 hi))(hwr:aV lo hi=true)(hat:at' < l.length) :
  Calls prog 128 #[.agg #[cv,rv],wv,.int .i64 1,.func (.func 130) #[] #[.pointer (some ⟨F,0,none⟩),.pointer (some ⟨I,0,none⟩)]] w (pX w (gat 1 (wh.map (trp l)) (stp 2 at' lo hi) (rr ts))):=by
 have HP:Hid (dQ w B cv l):=hp;have HQ:Hid (iQ w B rv ts):=hq;have HWE:Hid (gJ l wh=0):=hwe;have HOKS:Hid (∀ r∈rr ts,tZ l r):=hok;have HC:Hid (Cl w F 0 (.func (.func 126) #[] #[.pointer (some ⟨N,0,none⟩)])/\Cl w I 0 (.int .i64 (at':Int))/\Cl w N 2 (.int .i64 lo)/\Cl w N 3 (.int .i64 hi)):=⟨hF,hI,h2,h3⟩;clear hF hI h2 h3;have hb0:=ba w (.cells #[cv,rv] 25);have k1:=vL B cv wv l wh (w.alloc (.cells #[cv,rv] 25)) (aQ hB hb0.size) (hp.at hB hb0) (hw.at hB hb0) 0 hwe;have tb:Hid (Cl (w.alloc (.cells #[cv,rv] 25)) w.heap.size 0 cv/\Cl (w.alloc (.cells #[cv,rv] 25)) w.heap.size 1 rv):=⟨Cl.new _ 25 _ _ rfl rfl,Cl.new _ 25 _ _ rfl rfl⟩;obtain⟨ca,ccp,rfl,_⟩:=hp.slice;obtain⟨ra,rc,rfl,hrc,hrl2⟩:=hq.slice;obtain⟨wa,wc,rfl,_⟩:=hw.slice;have hm:∀ u:World,(Instr.makeSlice 37 (.int .i64 1) (.int .i64 1)).run prog u=.ok (.slice (some ⟨u.heap.size,0,none⟩) 1 1) (u.alloc (.cells (madeCells #[.int .i64 0] 1) 3)):=fun u=>jL 1 (by decide) u;clear hp hq hw hwe hok;go_enter func128,ntmps128;go_wp2_with fail;refine k1.mono ?_;rintro e w1 ⟨hb1,h⟩;clear k1;rcases h with⟨_,A,sv,es,hA,rfl,hbx,htc,hes⟩|⟨h0,_⟩
 ·have hbw1:Below w.heap.size w w1:=bt hb0 hb1
  have hPS:Hid (Pss w1 A (w.alloc (.cells #[.slice ca l.length ccp,.slice ra ts.length rc] 25)).heap.size (wh.map (trp l)) sv es):=⟨hbx,htc,hes⟩;have hel:es.length<=64:=by have:=congrArg List.length hes;simp at this;rw[this];exact nT HWE.out
  have tb1:Hid (Cl w1 w.heap.size 0 (.slice ca l.length ccp)/\Cl w1 w.heap.size 1 (.slice ra ts.length rc)):=⟨tb.out.1.at hb1,tb.out.2.at hb1⟩;clear hbx htc hes hb0 hb1 tb hA;have hs1:Hid (w.heap.size<=w1.heap.size):=hbw1.size
  have HA0:Hid (fQ (w1.alloc (.cells (madeCells #[.int .i64 0] 1) 3)) w.heap.size w1.heap.size 1 (gat 1 (wh.map (trp l)) (stp 2 at' lo hi) ((rr ts).take 0))):=by
   have:=fQ.made w1 w.heap.size 1 hs1.out (by omega);simpa [Hid,gat] using this
  have tt:=(tb1.out.2.at (ba w1 (.cells (madeCells #[.int .i64 0] 1) 3))).c;obtain⟨g,hg⟩:∃ g,w1.heap.size=g:=⟨_,rfl⟩;have hgw:Hid (w1.heap.size<=g):=by show _<=_;omega
  have hgl:Hid (w.heap.size<=g):=by have:=hs1.out;show _<=_;omega
  have hm2:=hm w1;rw[hg] at HA0;go_wp2;clear hg
  go_loopw [22] (fun s' wr=>∃ (i:Nat),s' = .int .i64 (i:Int)/\i<=ts.length/\Hid (fQ wr w.heap.size g 1 (gat 1 (wh.map (trp l)) (stp 2 at' lo hi) ((rr ts).take i)))/\Below w1.heap.size w1 wr) (fun s' _=>ts.length - (intOf s').toNat)
  case atStart=>exact⟨0,rfl,mQ _,HA0,ba _ _⟩
  case round =>
   obtain⟨i,rfl,hin,HA,hbr⟩:=hrel;clear tt hm2;by_cases h1:i<ts.length
   ·have hbwr:Below w.heap.size w wr:=bt hbw1 hbr
    have hsr:=hbwr.size;obtain⟨b,o,sa,sc,row,rfl,hbB,hgt,hcell,hrow⟩:=HQ.out.get hB hbwr h1;have HG:Hid ((rr ts)[i]? = some row):=dM hgt;have HOK:Hid (tZ l row):=HOKS.out _ (vX HG.out);have HRL:Hid (row.length=l.length):=HOK.out.len;have HRW:Hid (xQ wr B B (.slice sa row.length sc) row):=hrow;obtain⟨pb,hpb⟩:∃ pb,xU (wh.map (trp l)) row=pb:=⟨_,rfl⟩;have k2:=lT A _ _ sv es wr (hPS.out.at hbr) hel B B (.slice sa row.length sc) row (by omega) hrow (mT HWE.out HOK.out) pb hpb;have HPB:Hid (xU (wh.map (trp l)) row=pb):=hpb;clear hgt hrow hpb;go_wp2_with fail;refine k2.mono ?_;rintro e w5 ⟨rfl,hb5⟩;clear k2;have HA5:Hid (fQ w5 w.heap.size g 1 (gat 1 (wh.map (trp l)) (stp 2 at' lo hi) ((rr ts).take i))):=HA.out.at hb5;have hbr5:Below w1.heap.size w1 w5:=bt hbr hb5;have hbw5:Below w.heap.size w w5:=bt hbwr hb5;cases pb with
    | false =>
     have HA6:Hid (fQ w5 w.heap.size g 1 (gat 1 (wh.map (trp l)) (stp 2 at' lo hi) ((rr ts).take (i+1)))):=by rw[aL HG.out,gst,HPB.out];exact HA5.out
     go_wp2
     go_roundw
     case rel=>exact⟨i+1,by go_num,h1,HA6,hbr5⟩
     case measure=>simp[intOf];omega
    | true =>
     have hgbd:fX (4096*1048576) (gat 1 (wh.map (trp l)) (stp 2 at' lo hi) ((rr ts).take i)):=uL (by decide) (fun r _=>by have h1:=pO (v:=r.getD at' 0) hwr;have h2:=jI hwr;rw[show(stp 2 at' lo hi r).2=jJ lo hi (r.getD at' 0) by simp[stp]];omega) (by simp[rr];omega);obtain⟨x,hx0⟩:=lX (l:=gat 1 (wh.map (trp l)) (stp 2 at' lo hi) ((rr ts).take i)) (i:=0) (by rw[wG];decide);have hxb:-4611686018427387904<=x/\x<=4611686018427387904:=by have:=hgbd.get hx0;omega
     have hgl':=hgl.out;have k3:=cbQ g 1 w.heap.size _ x B B (.slice sa row.length sc) row F I N at' lo hi w5 HA5.out hx0 hxb (HRW.out.at (by omega) hb5) (by rw[HRL.out];exact hat) (HC.out.1.at hbw5).c (HC.out.2.1.at hbw5).c (HC.out.2.2.1.at hbw5).c (HC.out.2.2.2.at hbw5).c hwr;rw[wG] at k3
     have HA6:Hid (fQ ((w5.setCell ⟨g,0,none⟩ (.int .i64 (x+jJ lo hi (row.getD at' 0)))).drew) w.heap.size g 1 (gat 1 (wh.map (trp l)) (stp 2 at' lo hi) ((rr ts).take (i+1)))):=by
      have he:gat 1 (wh.map (trp l)) (stp 2 at' lo hi) ((rr ts).take (i+1))=(gat 1 (wh.map (trp l)) (stp 2 at' lo hi) ((rr ts).take i)).set 0 (x+jJ lo hi (row.getD at' 0)):=by
       rw[aL HG.out,gst,HPB.out]
       show qH _ _=_
       unfold qH;rw[show stp 2 at' lo hi row=(0,jJ lo hi (row.getD at' 0)) by simp[stp]];have hgd:(gat 1 (wh.map (trp l)) (stp 2 at' lo hi) ((rr ts).take i)).getD 0 0=x:=by rw[List.getD,hx0];rfl
       dsimp only;rw[hgd]
      rw[he];exact(HA5.out.set 0 _).at (uQ _ _).drew
     have hb6:Below w1.heap.size w1 ((w5.setCell ⟨g,0,none⟩ (.int .i64 (x+jJ lo hi (row.getD at' 0)))).drew):=(hbr5.setCell (by simpa using hgw.out) _).drew;clear hx0 hxb hgbd;go_wp2_with fail;refine k3.mono ?_;rintro e w6 ⟨rfl,hw6⟩;rw[<-hw6] at HA6 hb6;clear k3 hw6;go_wp2
     go_roundw
     case rel=>exact⟨i+1,by go_num,h1,HA6,hb6⟩
     case measure=>simp[intOf];omega
   ·have HA6:Hid (fQ wr w.heap.size g 1 (gat 1 (wh.map (trp l)) (stp 2 at' lo hi) (rr ts))):=by have:=HA.out;rwa [eV (by rw[tF];omega)] at this
    have hbwr:Below w.heap.size w wr:=bt hbw1 hbr;go_wp2;go_ret;exact⟨g,1,by rw[wG];rfl,HA6.out,hbwr⟩
 ·exact absurd rfl h0
theorem ccX (B:Nat)(cv rv wv:Value)(l:List vQ)(ts:List Rw)(wh:List tX)(n:Nat)(hn:n<=4096)(w:World)(hB:B<=w.heap.size)(hp:dQ w B cv l)(hq:iQ w B rv ts)(hw:vZ w B wv wh)(hwe:gJ l wh=0)(hlen:ts.length<=4096)(hok:∀ r∈rr ts,tZ l r)(I at':Nat)(cc:vQ)(hI:Cl w I 0 (.int .i64 (at':Int)))(hcc:l[at']? = some cc)(hnc:(n:Int)=cc.2) :
  Calls prog 128 #[.agg #[cv,rv],wv,.int .i64 (n:Int),.func (.func 131) #[] #[.pointer (some ⟨I,0,none⟩)]] w (pX w (gat n (wh.map (trp l)) (stp 3 at' 0 0) (rr ts))):=by
 have HP:Hid (dQ w B cv l):=hp;have HQ:Hid (iQ w B rv ts):=hq;have HWE:Hid (gJ l wh=0):=hwe;have HOKS:Hid (∀ r∈rr ts,tZ l r):=hok;have HC:Hid (Cl w I 0 (.int .i64 (at':Int))):=hI;have HCC:Hid (l[at']? = some cc):=hcc;have HNC:Hid ((n:Int)=cc.2):=hnc;clear hnc;have hal:at' < l.length:=(gQ.1 hcc).1;clear hI hcc;have hb0:=ba w (.cells #[cv,rv] 25);have k1:=vL B cv wv l wh (w.alloc (.cells #[cv,rv] 25)) (aQ hB hb0.size) (hp.at hB hb0) (hw.at hB hb0) 0 hwe;have tb:Hid (Cl (w.alloc (.cells #[cv,rv] 25)) w.heap.size 0 cv/\Cl (w.alloc (.cells #[cv,rv] 25)) w.heap.size 1 rv):=⟨Cl.new _ 25 _ _ rfl rfl,Cl.new _ 25 _ _ rfl rfl⟩;obtain⟨ca,ccp,rfl,_⟩:=hp.slice;obtain⟨ra,rc,rfl,hrc,hrl2⟩:=hq.slice;obtain⟨wa,wc,rfl,_⟩:=hw.slice;have hm:=jL n (by omega);clear hp hq hw hwe hok;go_enter func128,ntmps128;go_wp2_with fail;refine k1.mono ?_;rintro e w1 ⟨hb1,h⟩;clear k1;rcases h with⟨_,A,sv,es,hA,rfl,hbx,htc,hes⟩|⟨h0,_⟩
 ·have hbw1:Below w.heap.size w w1:=bt hb0 hb1
  have hPS:Hid (Pss w1 A (w.alloc (.cells #[.slice ca l.length ccp,.slice ra ts.length rc] 25)).heap.size (wh.map (trp l)) sv es):=⟨hbx,htc,hes⟩;have hel:es.length<=64:=by have:=congrArg List.length hes;simp at this;rw[this];exact nT HWE.out
  have tb1:Hid (Cl w1 w.heap.size 0 (.slice ca l.length ccp)/\Cl w1 w.heap.size 1 (.slice ra ts.length rc)):=⟨tb.out.1.at hb1,tb.out.2.at hb1⟩;clear hbx htc hes hb0 hb1 tb hA;have hs1:Hid (w.heap.size<=w1.heap.size):=hbw1.size
  have HA0:Hid (fQ (w1.alloc (.cells (madeCells #[.int .i64 0] n) 3)) w.heap.size w1.heap.size n (gat n (wh.map (trp l)) (stp 3 at' 0 0) ((rr ts).take 0))):=by
   have:=fQ.made w1 w.heap.size n hs1.out (by omega);simpa [Hid,gat] using this
  have tt:=(tb1.out.2.at (ba w1 (.cells (madeCells #[.int .i64 0] n) 3))).c;obtain⟨g,hg⟩:∃ g,w1.heap.size=g:=⟨_,rfl⟩;have hgw:Hid (w1.heap.size<=g):=by show _<=_;omega
  have hgl:Hid (w.heap.size<=g):=by have:=hs1.out;show _<=_;omega
  have hm2:=hm w1;rw[hg] at HA0;go_wp2;clear hg
  go_loopw [22] (fun s' wr=>∃ (i:Nat),s' = .int .i64 (i:Int)/\i<=ts.length/\Hid (fQ wr w.heap.size g n (gat n (wh.map (trp l)) (stp 3 at' 0 0) ((rr ts).take i)))/\Below w1.heap.size w1 wr) (fun s' _=>ts.length - (intOf s').toNat)
  case atStart=>exact⟨0,rfl,mQ _,HA0,ba _ _⟩
  case round =>
   obtain⟨i,rfl,hin,HA,hbr⟩:=hrel;clear tt hm2;by_cases h1:i<ts.length
   ·have hbwr:Below w.heap.size w wr:=bt hbw1 hbr
    have hsr:=hbwr.size;obtain⟨b,o,sa,sc,row,rfl,hbB,hgt,hcell,hrow⟩:=HQ.out.get hB hbwr h1;have HG:Hid ((rr ts)[i]? = some row):=dM hgt;have HOK:Hid (tZ l row):=HOKS.out _ (vX HG.out);have HRL:Hid (row.length=l.length):=HOK.out.len;have HRW:Hid (xQ wr B B (.slice sa row.length sc) row):=hrow;obtain⟨pb,hpb⟩:∃ pb,xU (wh.map (trp l)) row=pb:=⟨_,rfl⟩;have k2:=lT A _ _ sv es wr (hPS.out.at hbr) hel B B (.slice sa row.length sc) row (by omega) hrow (mT HWE.out HOK.out) pb hpb;have HPB:Hid (xU (wh.map (trp l)) row=pb):=hpb;clear hgt hrow hpb;go_wp2_with fail;refine k2.mono ?_;rintro e w5 ⟨rfl,hb5⟩;clear k2;have HA5:Hid (fQ w5 w.heap.size g n (gat n (wh.map (trp l)) (stp 3 at' 0 0) ((rr ts).take i))):=HA.out.at hb5;have hbr5:Below w1.heap.size w1 w5:=bt hbr hb5;have hbw5:Below w.heap.size w w5:=bt hbwr hb5;cases pb with
    | false =>
     have HA6:Hid (fQ w5 w.heap.size g n (gat n (wh.map (trp l)) (stp 3 at' 0 0) ((rr ts).take (i+1)))):=by rw[aL HG.out,gst,HPB.out];exact HA5.out
     go_wp2
     go_roundw
     case rel=>exact⟨i+1,by go_num,h1,HA6,hbr5⟩
     case measure=>simp[intOf];omega
    | true =>
     have hgbd:fX (4096*1) (gat n (wh.map (trp l)) (stp 3 at' 0 0) ((rr ts).take i)):=uL (by decide) (fun r _=>by simp[stp]) (by simp[rr];omega);have hvv:=cbZ HOK.out HCC.out;have hv0:0<=row.getD at' 0:=hvv.1;have hnc:=HNC.out;obtain⟨x,hx0⟩:=lX (l:=gat n (wh.map (trp l)) (stp 3 at' 0 0) ((rr ts).take i)) (i:=(row.getD at' 0).toNat) (by rw[wG];omega);have hxb:-4611686018427387904<=x/\x<=4611686018427387904:=by have:=hgbd.get hx0;omega
     have hgl':=hgl.out;have k3:=cbX g n w.heap.size _ x B B (.slice sa row.length sc) row I at' w5 HA5.out (HRW.out.at (by omega) hb5) (by rw[HRL.out];exact hal) (HC.out.at hbw5).c hv0 hx0 hxb;rw[wG] at k3
     have HA6:Hid (fQ (w5.setCell ⟨g,(row.getD at' 0).toNat,none⟩ (.int .i64 (x+1))) w.heap.size g n (gat n (wh.map (trp l)) (stp 3 at' 0 0) ((rr ts).take (i+1)))):=by
      have he:gat n (wh.map (trp l)) (stp 3 at' 0 0) ((rr ts).take (i+1))=(gat n (wh.map (trp l)) (stp 3 at' 0 0) ((rr ts).take i)).set (row.getD at' 0).toNat (x+1):=by
       rw[aL HG.out,gst,HPB.out]
       show qH _ _=_
       unfold qH;rw[show stp 3 at' 0 0 row=((row.getD at' 0).toNat,1) by simp[stp]];have hgd:(gat n (wh.map (trp l)) (stp 3 at' 0 0) ((rr ts).take i)).getD (row.getD at' 0).toNat 0=x:=by rw[List.getD,hx0];rfl
       dsimp only;rw[hgd]
      rw[he];exact HA5.out.set _ _
     have hb6:Below w1.heap.size w1 (w5.setCell ⟨g,(row.getD at' 0).toNat,none⟩ (.int .i64 (x+1))):=hbr5.setCell (by simpa using hgw.out) _;clear hx0 hxb hgbd;clear hvv hnc;go_wp2_with fail;refine k3.mono ?_;rintro e w6 ⟨rfl,hw6⟩;rw[<-hw6] at HA6 hb6;clear k3 hw6;go_wp2
     go_roundw
     case rel=>exact⟨i+1,by go_num,h1,HA6,hb6⟩
     case measure=>simp[intOf];omega
   ·have HA6:Hid (fQ wr w.heap.size g n (gat n (wh.map (trp l)) (stp 3 at' 0 0) (rr ts))):=by have:=HA.out;rwa [eV (by rw[tF];omega)] at this
    have hbwr:Below w.heap.size w wr:=bt hbw1 hbr;go_wp2;go_ret;exact⟨g,n,by rw[wG];rfl,HA6.out,hbwr⟩
 ·exact absurd rfl h0
