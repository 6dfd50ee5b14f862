import Derived.Test.YtcaplmodgbpchaaGreatDoorQq21
import Derived.Deep.RegionLaw
open Go.Proofs.Tryz
open Go.Value(int)
open Go.IntKind(i64)
set_option linter.unusedSimpArgs false
set_option maxHeartbeats 16000000
set_option maxRecDepth 100000
namespace Go.Proofs.YtcaplmodgbpchaaGreatDoor
variable {r row xs:List Int} {A B N i k1 k2 k3 lev n:Nat} {ps:List (Nat × Int × Int)} {f:List Int->Nat × Int} {rs:List (List Int)} {M x:Int} {W W' w:World} {v v0 v1 v2 v3 v4 v5:Value}
namespace K
open Go.RowKit K.Ds
theorem xR (N:Nat)(lo hi v:Int)(w:World)(g:w.cell? ⟨N,2,none⟩=some (int i64 lo))(h:w.cell? ⟨N,3,none⟩=some (int i64 hi))(a:lo<=hi) :
  Calls prog 141 #[int i64 v,.pointer (some ⟨N,0,none⟩)] w fun e w'=>e=.returned (int i64 (aJ lo hi v))/\w' = w:=by
 go_enter func141,ntmps141;by_cases c1:v<lo
 ·rw[aJ,jQ c1]
  have c3:¬ hi<lo:=by omega
  go_wp2
  all_goals first
   | (go_ret;exact⟨rfl,rfl⟩)
   | (exfalso;omega)
   | (go_ret;exact⟨by congr 1;congr 1;omega,rfl⟩)
 ·by_cases c2:hi<v
  ·rw[aJ,zQ c1,jQ c2]
   go_wp2
   all_goals first
    | (go_ret;exact⟨rfl,rfl⟩)
    | (exfalso;omega)
    | (go_ret;exact⟨by congr 1;congr 1;omega,rfl⟩)
  ·rw[aJ,zQ c1,zQ c2]
   go_wp2
   all_goals first
    | (go_ret;exact⟨rfl,rfl⟩)
    | (exfalso;omega)
    | (go_ret;exact⟨by congr 1;congr 1;omega,rfl⟩)
theorem d4X (g c lo:Nat)(xs:List Int)(x:Int)(rv:Value)(w:World)(a:gQ w lo g c xs)(h:xs[0]? = some x)(i:-4611686018427387904<=x/\x<=4611686018427387904) :
  Calls prog 144 #[.slice (some ⟨g,0,none⟩) xs.length c,rv] w fun e w'=>e=.returned (.tuple #[])/\w' = w.setCell ⟨g,0,none⟩ (int i64 (x+1)):=by
 have j:0<xs.length:=(fQ.1 h).1;have k:=a.cell h;have l:=a.fz 0;obtain⟨b1,b2⟩:=i;clear a;go_enter func144,ntmps144;go_wp2;go_end0;exact⟨rfl,rfl⟩
theorem d4Z (g c H:Nat)(xs:List Int)(x:Int)(B nb:Nat)(rv:Value)(row:List Int)(F I N h:Nat)(lo hi:Int)(w:World)(G:gQ w H g c xs)(J:xs[0]? = some x)(R:-4611686018427387904<=x/\x<=4611686018427387904)
  (U:yQ w B nb rv row) (l:h < row.length) (X:w.cell? ⟨F,0,none⟩=some (.func (.func 141) #[] #[.pointer (some ⟨N,0,none⟩)])) (Y:w.cell? ⟨I,0,none⟩=some (int i64 (h:Int))) (P:w.cell? ⟨N,2,none⟩=some (int i64 lo)) (Q:w.cell? ⟨N,3,none⟩=some (int i64 hi)) (k:wZ lo hi=true) :
  Calls prog 145 #[.slice (some ⟨g,0,none⟩) xs.length c,rv,.pointer (some ⟨F,0,none⟩),.pointer (some ⟨I,0,none⟩)] w fun e w'=>e=.returned (.tuple #[])/\w' = (w.setCell ⟨g,0,none⟩ (int i64 (x+aJ lo hi (row.getD h 0)))).drew:=by
 have Z:0<xs.length:=(fQ.1 J).1;obtain⟨a,O,rfl,hc,C,j⟩:=U;obtain⟨b,o,y,rfl,_,S,hn,T,i,m⟩:=yQ.got ⟨a,O,rfl,hc,C,j⟩ l;rw[i];have q0:=G.cell J;have q1:=G.fz 0;have p:=dO (v:=y) k;have D:=aF k;have A:lo<=hi:=by simp only[wZ,dJ] at k;omega
 have M:=xR N lo hi y w.drew P Q A;obtain⟨z,L⟩:∃ z,aJ lo hi y=z:=⟨_,rfl⟩;rw[L] at M p ⊢;obtain⟨b1,b2⟩:=R;have V:IntKind.i64.wrap (x+z)=x+z:=by rw[lJ];have:=lA (a:=x+z) (by omega);unfold wrap64 at this;omega
 clear G k L D i T j;go_enter func145,ntmps145;go_wp2
 go_region_law (first|(go_simp;go_at_call 141;refine M.mono ?_;rintro x3 w3 ⟨rfl,E⟩;subst E;go_wp2_with fail))
 all_goals (go_end0;exact⟨rfl,rfl⟩)
theorem d4J (g c A:Nat)(xs:List Int)(x:Int)(B nb:Nat)(rv:Value)(row:List Int)(I h:Nat)(w:World)(z:gQ w A g c xs)(G:yQ w B nb rv row)(m:h < row.length)(J:w.cell? ⟨I,0,none⟩=some (int i64 (h:Int)))
  (H:0<=row.getD h 0) (l:xs[(row.getD h 0).toNat]? = some x) (D:-4611686018427387904<=x/\x<=4611686018427387904) :
  Calls prog 146 #[.slice (some ⟨g,0,none⟩) xs.length c,rv,.pointer (some ⟨I,0,none⟩)] w fun e w'=>e=.returned (.tuple #[])/\w' = w.setCell ⟨g,(row.getD h 0).toNat,none⟩ (int i64 (x+1)):=by
 obtain⟨a,C,rfl,hc,v,k⟩:=G;obtain⟨b,o,y,rfl,_,E,M,F,i,p⟩:=yQ.got ⟨a,C,rfl,hc,v,k⟩ m;rw[i] at H l ⊢;obtain⟨j,rfl⟩:∃ j:Nat,y=(j:Int):=⟨y.toNat,by omega⟩;rw[tF] at l ⊢;have L:j<xs.length:=(fQ.1 l).1;have N:=z.cell l;have O:=z.fz j;obtain⟨b1,b2⟩:=D;clear z i F k;go_enter func146,ntmps146;go_wp2;go_end0;exact⟨rfl,rfl⟩
theorem bqJ {l:List aQ}(h:zV l r){c:aQ}(hc:l[i]? = some c):0<=r.getD i 0/\r.getD i 0<c.2:=by
 induction l generalizing r i with
 | nil=>simp at hc
 | cons d l ih =>
  cases r with
  | nil=>exact h.elim
  | cons v r =>
   cases i with
   | zero=>simp at hc;subst hc;simpa [List.getD] using ⟨h.1,h.2.1⟩
   | succ i=>have:=ih h.2.2 (by simpa using hc);simpa [List.getD] using this
theorem kF (h:rs[i]? = some r):gat n ps f (rs.take (i+1))=gst ps f (gat n ps f (rs.take i)) r:=by
 unfold gat;rw[rX,h,List.foldl_append];rfl
theorem xZ.get (h:xZ M xs)(hi:xs[i]? = some x):-M<=x/\x<=M:=h x (qX hi)
theorem adQ {l:List aQ}{wh:List cX}(h:pJ l wh=0)(k:zV l row):∀ e∈wh.map (trp l),fY e.2.1=true/\e.1<row.length:=by
 intro e j;obtain⟨t,m,rfl⟩:=iJ.1 j;unfold pJ at h;split at h
 ·cases h
 ·obtain⟨a,g⟩:=a0J h t m
  refine⟨g,?_⟩;obtain⟨i,hi⟩:=Option.isSome_iff_exists.1 a;rw[k.len];simpa [trp,hi] using iD hi
theorem adX {l:List aQ}{wh:List cX}(h:pJ l wh=0):wh.length<=64:=by
 unfold pJ at h;split at h
 ·cases h
 ·omega
def eZ (w:World) (xs:List Int) (e:Ending) (w':World):Prop:=∃ g c,e=.returned (.slice (some ⟨g,0,none⟩) xs.length c)/\gQ w' w.heap.size g c xs/\xQ w w'
theorem d5Q (B:Nat)(cv rv wv:Value)(l:List aQ)(ts:List Rw)(a:List cX)(w:World)(hB:B<=w.heap.size)(hp:kQ w B cv l)(hq:nQ w B rv ts)(hw:qZ w B wv a)(J:pJ l a=0)(ax:ts.length<=4096)(U:∀ r∈rr ts,zV l r) :
  Calls prog 143 #[.agg #[cv,rv],wv,int i64 1,.func (.func 144) #[] #[]] w (eZ w (gat 1 (a.map (trp l)) (stp 1 0 0 0) (rr ts))):=by
 have HP:=qQ hp;have HQ:=qQ hq;have O:=qQ J;have M:=qQ U;have p:=ba w (.cells #[cv,rv] 25);have k1:=bO B cv wv l a (w.alloc (.cells #[cv,rv] 25)) (bQ hB p.size) (hp.at hB p) (hw.at hB p) 0 J;have tb:Hid (Cl (w.alloc (.cells #[cv,rv] 25)) w.heap.size 0 cv/\Cl (w.alloc (.cells #[cv,rv] 25)) w.heap.size 1 rv):=⟨Cl.new _ 25 _ _ rfl rfl,Cl.new _ 25 _ _ rfl rfl⟩;obtain⟨ca,P,rfl,_⟩:=hp.slice;obtain⟨ra,rc,rfl,bn,ay⟩:=hq.slice;obtain⟨wa,wc,rfl,_⟩:=hw.slice;have hm:∀ u:World,(Instr.makeSlice 35 (int i64 1) (int i64 1)).run prog u=.ok (.slice (some ⟨u.heap.size,0,none⟩) 1 1) (u.alloc (.cells (madeCells #[int i64 0] 1) 3)):=fun u=>zM 1 (by decide) u;clear hp hq hw J U;go_enter func143,ntmps143;go_wp2_with fail;refine k1.mono ?_;rintro e m ⟨y,h⟩;clear k1;rcases h with⟨_,A,sv,es,hA,rfl,S,X,H⟩|⟨h0,_⟩
 ·have v:xQ w m:=bt p y
  have af:Hid (Pss m A (w.alloc (.cells #[.slice ca l.length P,.slice ra ts.length rc] 25)).heap.size (a.map (trp l)) sv es):=⟨S,X,H⟩;have ah:es.length<=64:=by have:=congrArg List.length H;simp at this;rw[this];exact adX O.out
  have an:Hid (Cl m w.heap.size 0 (.slice ca l.length P)/\Cl m w.heap.size 1 (.slice ra ts.length rc)):=⟨tb.out.1.at y,tb.out.2.at y⟩;clear S X H p y tb hA;have V:=qQ v.size
  have L:Hid (gQ (m.alloc (.cells (madeCells #[int i64 0] 1) 3)) w.heap.size m.heap.size 1 (gat 1 (a.map (trp l)) (stp 1 0 0 0) ((rr ts).take 0))):=by
   have:=gQ.made m w.heap.size 1 V.out (by omega);simpa [Hid,gat] using this
  have tt:=(an.out.2.at (ba m (.cells (madeCells #[int i64 0] 1) 3))).c;obtain⟨g,hg⟩:∃ g,m.heap.size=g:=⟨_,rfl⟩;have aj:Hid (m.heap.size<=g):=by show _<=_;omega
  have bk:Hid (w.heap.size<=g):=by have:=V.out;show _<=_;omega
  rw[hg] at L;go_wp2;clear hg
  go_loopw [22] (fun s' wr=>∃ (i:Nat),s' = int i64 (i:Int)/\i<=ts.length/\Hid (gQ wr w.heap.size g 1 (gat 1 (a.map (trp l)) (stp 1 0 0 0) ((rr ts).take i)))/\xQ m wr) (fun s' _=>ts.length - (intOf s').toNat)
  case atStart=>exact⟨0,rfl,dQ _,L,ba _ _⟩
  case round =>
   obtain⟨i,rfl,bm,HA,z⟩:=hrel;clear tt;by_cases h1:i<ts.length
   ·have j:xQ w wr:=bt v z
    have bp:=j.size;obtain⟨b,o,sa,sc,row,rfl,bi,T,ag,F⟩:=HQ.out.get hB j h1;have HG:=qQ (oI T);have aa:Hid (zV l row):=M.out _ (qX HG.out);obtain⟨pb,I⟩:∃ pb,lY (a.map (trp l)) row=pb:=⟨_,rfl⟩;have k2:=acJ A _ _ sv es wr (af.out.at z) ah B B (.slice sa row.length sc) row (by omega) F (adQ O.out aa.out) pb I;have N:=qQ I;clear T F I;go_wp2_with fail;refine k2.mono ?_;rintro e w5 ⟨rfl,Q⟩;clear k2;have G:=qQ (HA.out.at Q);have D:xQ m w5:=bt z Q;cases pb with
    | false =>
     have k:Hid (gQ w5 w.heap.size g 1 (gat 1 (a.map (trp l)) (stp 1 0 0 0) ((rr ts).take (i+1)))):=by rw[kF HG.out,gst,N.out];exact G.out
     go_wp2
     go_roundw
     case rel=>exact⟨i+1,by go_num,h1,k,D⟩
     case measure=>simp[intOf];omega
    | true =>
     have E:xZ (4096*1) (gat 1 (a.map (trp l)) (stp 1 0 0 0) ((rr ts).take i)):=yK (by decide) (fun r _=>by simp[stp]) (by simp[rr];omega);obtain⟨x,C⟩:=fX (l:=gat 1 (a.map (trp l)) (stp 1 0 0 0) ((rr ts).take i)) (i:=0) (by rw[dA];decide);have Z:-4611686018427387904<=x/\x<=4611686018427387904:=by have:=E.get C;omega
     have k3:=d4X g 1 w.heap.size _ x (.slice sa row.length sc) w5 G.out C Z;rw[dA] at k3
     have k:Hid (gQ (w5.setCell ⟨g,0,none⟩ (int i64 (x+1))) w.heap.size g 1 (gat 1 (a.map (trp l)) (stp 1 0 0 0) ((rr ts).take (i+1)))):=by
      have he:gat 1 (a.map (trp l)) (stp 1 0 0 0) ((rr ts).take (i+1))=(gat 1 (a.map (trp l)) (stp 1 0 0 0) ((rr ts).take i)).set 0 (x+1):=by
       rw[kF HG.out,gst,N.out]
       show mG _ _=_
       unfold mG;rw[show stp 1 0 0 0 row=(0,1) by simp[stp]];have ai:(gat 1 (a.map (trp l)) (stp 1 0 0 0) ((rr ts).take i)).getD 0 0=x:=by rw[List.getD,C];rfl
       dsimp only;rw[ai]
      rw[he];exact G.out.set 0 _
     have R:xQ m (w5.setCell ⟨g,0,none⟩ (int i64 (x+1))):=D.setCell (by simpa using aj.out) _;clear C Z E;go_wp2_with fail;refine k3.mono ?_;rintro e w6 ⟨rfl,Y⟩;rw[<-Y] at k R;clear k3 Y;go_wp2
     go_roundw
     case rel=>exact⟨i+1,by go_num,h1,k,R⟩
     case measure=>simp[intOf];omega
   ·have k:Hid (gQ wr w.heap.size g 1 (gat 1 (a.map (trp l)) (stp 1 0 0 0) (rr ts))):=by have:=HA.out;rwa [gJ (by rw[sA];omega)] at this
    have j:xQ w wr:=bt v z;go_wp2;go_ret;exact⟨g,1,by rw[dA];rfl,k.out,j⟩
 ·exact absurd rfl h0
theorem d5X (B:Nat)(cv rv wv:Value)(l:List aQ)(ts:List Rw)(k:List cX)(w:World)(hB:B<=w.heap.size)(hp:kQ w B cv l)(hq:nQ w B rv ts)(hw:qZ w B wv k)(R:pJ l k=0)(bm:ts.length<=4096)(aa:∀ r∈rr ts,zV l r)(F I N a:Nat)(lo hi:Int)(hF:Cl w F 0 (.func (.func 141) #[] #[.pointer (some ⟨N,0,none⟩)]))(hI:Cl w I 0 (int i64 (a:Int)))(h2:Cl w N 2 (int i64 lo))(h3:Cl w N 3 (int i64 hi))(S:wZ lo hi=true)(aw:a < l.length) :
  Calls prog 143 #[.agg #[cv,rv],wv,int i64 1,.func (.func 145) #[] #[.pointer (some ⟨F,0,none⟩),.pointer (some ⟨I,0,none⟩)]] w (eZ w (gat 1 (k.map (trp l)) (stp 2 a lo hi) (rr ts))):=by
 have HP:=qQ hp;have HQ:=qQ hq;have Z:=qQ R;have X:=qQ aa;have HC:Hid (Cl w F 0 (.func (.func 141) #[] #[.pointer (some ⟨N,0,none⟩)])/\Cl w I 0 (int i64 (a:Int))/\Cl w N 2 (int i64 lo)/\Cl w N 3 (int i64 hi)):=⟨hF,hI,h2,h3⟩;clear hF hI h2 h3;have z:=ba w (.cells #[cv,rv] 25);have k1:=bO B cv wv l k (w.alloc (.cells #[cv,rv] 25)) (bQ hB z.size) (hp.at hB z) (hw.at hB z) 0 R;have tb:Hid (Cl (w.alloc (.cells #[cv,rv] 25)) w.heap.size 0 cv/\Cl (w.alloc (.cells #[cv,rv] 25)) w.heap.size 1 rv):=⟨Cl.new _ 25 _ _ rfl rfl,Cl.new _ 25 _ _ rfl rfl⟩;obtain⟨ca,a6,rfl,_⟩:=hp.slice;obtain⟨ra,rc,rfl,ce,bn⟩:=hq.slice;obtain⟨wa,wc,rfl,_⟩:=hw.slice;have hm:∀ u:World,(Instr.makeSlice 35 (int i64 1) (int i64 1)).run prog u=.ok (.slice (some ⟨u.heap.size,0,none⟩) 1 1) (u.alloc (.cells (madeCells #[int i64 0] 1) 3)):=fun u=>zM 1 (by decide) u;clear hp hq hw R aa;go_enter func143,ntmps143;go_wp2_with fail;refine k1.mono ?_;rintro e y ⟨E,h⟩;clear k1;rcases h with⟨_,A,sv,es,hA,rfl,a8,ae,P⟩|⟨h0,_⟩
 ·have C:xQ w y:=bt z E
  have au:Hid (Pss y A (w.alloc (.cells #[.slice ca l.length a6,.slice ra ts.length rc] 25)).heap.size (k.map (trp l)) sv es):=⟨a8,ae,P⟩;have ay:es.length<=64:=by have:=congrArg List.length P;simp at this;rw[this];exact adX Z.out
  have bb:Hid (Cl y w.heap.size 0 (.slice ca l.length a6)/\Cl y w.heap.size 1 (.slice ra ts.length rc)):=⟨tb.out.1.at E,tb.out.2.at E⟩;clear a8 ae P z E tb hA;have ac:=qQ C.size
  have U:Hid (gQ (y.alloc (.cells (madeCells #[int i64 0] 1) 3)) w.heap.size y.heap.size 1 (gat 1 (k.map (trp l)) (stp 2 a lo hi) ((rr ts).take 0))):=by
   have:=gQ.made y w.heap.size 1 ac.out (by omega);simpa [Hid,gat] using this
  have tt:=(bb.out.2.at (ba y (.cells (madeCells #[int i64 0] 1) 3))).c;obtain⟨g,hg⟩:∃ g,y.heap.size=g:=⟨_,rfl⟩;have b3:Hid (y.heap.size<=g):=by show _<=_;omega
  have cc:Hid (w.heap.size<=g):=by have:=ac.out;show _<=_;omega
  rw[hg] at U;go_wp2;clear hg
  go_loopw [22] (fun s' wr=>∃ (i:Nat),s' = int i64 (i:Int)/\i<=ts.length/\Hid (gQ wr w.heap.size g 1 (gat 1 (k.map (trp l)) (stp 2 a lo hi) ((rr ts).take i)))/\xQ y wr) (fun s' _=>ts.length - (intOf s').toNat)
  case atStart=>exact⟨0,rfl,dQ _,U,ba _ _⟩
  case round =>
   obtain⟨i,rfl,cd,HA,H⟩:=hrel;clear tt;by_cases h1:i<ts.length
   ·have j:xQ w wr:=bt C H
    have cf:=j.size;obtain⟨b,o,sa,sc,row,rfl,c9,a9,ax,D⟩:=HQ.out.get hB j h1;have HG:=qQ (oI a9);have V:Hid (zV l row):=X.out _ (qX HG.out);have am:=qQ V.out.len;have an:=qQ D;obtain⟨pb,Q⟩:∃ pb,lY (k.map (trp l)) row=pb:=⟨_,rfl⟩;have k2:=acJ A _ _ sv es wr (au.out.at H) ay B B (.slice sa row.length sc) row (by omega) D (adQ Z.out V.out) pb Q;have Y:=qQ Q;clear a9 D Q;go_wp2_with fail;refine k2.mono ?_;rintro e T ⟨rfl,G⟩;clear k2;have O:=qQ (HA.out.at G);have L:xQ y T:=bt H G;have m:xQ w T:=bt j G;cases pb with
    | false =>
     have p:Hid (gQ T w.heap.size g 1 (gat 1 (k.map (trp l)) (stp 2 a lo hi) ((rr ts).take (i+1)))):=by rw[kF HG.out,gst,Y.out];exact O.out
     go_wp2
     go_roundw
     case rel=>exact⟨i+1,by go_num,h1,p,L⟩
     case measure=>simp[intOf];omega
    | true =>
     have M:xZ (4096*1048576) (gat 1 (k.map (trp l)) (stp 2 a lo hi) ((rr ts).take i)):=yK (by decide) (fun r _=>by have h1:=dO (v:=r.getD a 0) S;have h2:=aF S;rw[show(stp 2 a lo hi r).2=aJ lo hi (r.getD a 0) by simp[stp]];omega) (by simp[rr];omega);obtain⟨x,J⟩:=fX (l:=gat 1 (k.map (trp l)) (stp 2 a lo hi) ((rr ts).take i)) (i:=0) (by rw[dA];decide);have ag:-4611686018427387904<=x/\x<=4611686018427387904:=by have:=M.get J;omega
     have k3:=d4Z g 1 w.heap.size _ x B B (.slice sa row.length sc) row F I N a lo hi T O.out J ag (an.out.at (by omega) G) (by rw[am.out];exact aw) (HC.out.1.at m).c (HC.out.2.1.at m).c (HC.out.2.2.1.at m).c (HC.out.2.2.2.at m).c S;rw[dA] at k3
     have p:Hid (gQ ((T.setCell ⟨g,0,none⟩ (int i64 (x+aJ lo hi (row.getD a 0)))).drew) w.heap.size g 1 (gat 1 (k.map (trp l)) (stp 2 a lo hi) ((rr ts).take (i+1)))):=by
      have he:gat 1 (k.map (trp l)) (stp 2 a lo hi) ((rr ts).take (i+1))=(gat 1 (k.map (trp l)) (stp 2 a lo hi) ((rr ts).take i)).set 0 (x+aJ lo hi (row.getD a 0)):=by
       rw[kF HG.out,gst,Y.out]
       show mG _ _=_
       unfold mG;rw[show stp 2 a lo hi row=(0,aJ lo hi (row.getD a 0)) by simp[stp]];have az:(gat 1 (k.map (trp l)) (stp 2 a lo hi) ((rr ts).take i)).getD 0 0=x:=by rw[List.getD,J];rfl
       dsimp only;rw[az]
      rw[he];exact(O.out.set 0 _).at (uQ _ _).drew
     have a7:xQ y ((T.setCell ⟨g,0,none⟩ (int i64 (x+aJ lo hi (row.getD a 0)))).drew):=(L.setCell (by simpa using b3.out) _).drew;clear J ag M;go_wp2_with fail;refine k3.mono ?_;rintro e w6 ⟨rfl,af⟩;rw[<-af] at p a7;clear k3 af;go_wp2
     go_roundw
     case rel=>exact⟨i+1,by go_num,h1,p,a7⟩
     case measure=>simp[intOf];omega
   ·have p:Hid (gQ wr w.heap.size g 1 (gat 1 (k.map (trp l)) (stp 2 a lo hi) (rr ts))):=by have:=HA.out;rwa [gJ (by rw[sA];omega)] at this
    have j:xQ w wr:=bt C H;go_wp2;go_ret;exact⟨g,1,by rw[dA];rfl,p.out,j⟩
 ·exact absurd rfl h0
theorem d5Z (B:Nat)(cv rv wv:Value)(l:List aQ)(ts:List Rw)(k:List cX)(n:Nat)(hn:n<=4096)(w:World)(hB:B<=w.heap.size)(hp:kQ w B cv l)(hq:nQ w B rv ts)(hw:qZ w B wv k)(Q:pJ l k=0)(bk:ts.length<=4096)(a8:∀ r∈rr ts,zV l r)(I a:Nat)(cc:aQ)(hI:Cl w I 0 (int i64 (a:Int)))(N:l[a]? = some cc)(F:(n:Int)=cc.2) :
  Calls prog 143 #[.agg #[cv,rv],wv,int i64 (n:Int),.func (.func 146) #[] #[.pointer (some ⟨I,0,none⟩)]] w (eZ w (gat n (k.map (trp l)) (stp 3 a 0 0) (rr ts))):=by
 have HP:=qQ hp;have HQ:=qQ hq;have V:=qQ Q;have T:=qQ a8;have HC:=qQ hI;have ai:=qQ N;have ak:=qQ F;clear F;have au:a < l.length:=(fQ.1 N).1;clear hI N;have v:=ba w (.cells #[cv,rv] 25);have k1:=bO B cv wv l k (w.alloc (.cells #[cv,rv] 25)) (bQ hB v.size) (hp.at hB v) (hw.at hB v) 0 Q;have tb:Hid (Cl (w.alloc (.cells #[cv,rv] 25)) w.heap.size 0 cv/\Cl (w.alloc (.cells #[cv,rv] 25)) w.heap.size 1 rv):=⟨Cl.new _ 25 _ _ rfl rfl,Cl.new _ 25 _ _ rfl rfl⟩;obtain⟨ca,X,rfl,_⟩:=hp.slice;obtain⟨ra,rc,rfl,cf,bm⟩:=hq.slice;obtain⟨wa,wc,rfl,_⟩:=hw.slice;have hm:=zM n (by omega);clear hp hq hw Q a8;go_enter func143,ntmps143;go_wp2_with fail;refine k1.mono ?_;rintro e p ⟨C,h⟩;clear k1;rcases h with⟨_,A,sv,es,hA,rfl,a6,aa,O⟩|⟨h0,_⟩
 ·have y:xQ w p:=bt v C
  have aq:Hid (Pss p A (w.alloc (.cells #[.slice ca l.length X,.slice ra ts.length rc] 25)).heap.size (k.map (trp l)) sv es):=⟨a6,aa,O⟩;have ax:es.length<=64:=by have:=congrArg List.length O;simp at this;rw[this];exact adX V.out
  have bb:Hid (Cl p w.heap.size 0 (.slice ca l.length X)/\Cl p w.heap.size 1 (.slice ra ts.length rc)):=⟨tb.out.1.at C,tb.out.2.at C⟩;clear a6 aa O v C tb hA;have a9:=qQ y.size
  have S:Hid (gQ (p.alloc (.cells (madeCells #[int i64 0] n) 3)) w.heap.size p.heap.size n (gat n (k.map (trp l)) (stp 3 a 0 0) ((rr ts).take 0))):=by
   have:=gQ.made p w.heap.size n a9.out (by omega);simpa [Hid,gat] using this
  have tt:=(bb.out.2.at (ba p (.cells (madeCells #[int i64 0] n) 3))).c;obtain⟨g,hg⟩:∃ g,p.heap.size=g:=⟨_,rfl⟩;have az:Hid (p.heap.size<=g):=by show _<=_;omega
  have cd:Hid (w.heap.size<=g):=by have:=a9.out;show _<=_;omega
  rw[hg] at S;go_wp2;clear hg
  go_loopw [22] (fun s' wr=>∃ (i:Nat),s' = int i64 (i:Int)/\i<=ts.length/\Hid (gQ wr w.heap.size g n (gat n (k.map (trp l)) (stp 3 a 0 0) ((rr ts).take i)))/\xQ p wr) (fun s' _=>ts.length - (intOf s').toNat)
  case atStart=>exact⟨0,rfl,dQ _,S,ba _ _⟩
  case round =>
   obtain⟨i,rfl,ce,HA,E⟩:=hrel;clear tt;by_cases h1:i<ts.length
   ·have j:xQ w wr:=bt y E
    have cg:=j.size;obtain⟨b,o,sa,sc,row,rfl,c9,a7,aw,z⟩:=HQ.out.get hB j h1;have HG:=qQ (oI a7);have M:Hid (zV l row):=T.out _ (qX HG.out);have al:=qQ M.out.len;have am:=qQ z;obtain⟨pb,P⟩:∃ pb,lY (k.map (trp l)) row=pb:=⟨_,rfl⟩;have k2:=acJ A _ _ sv es wr (aq.out.at E) ax B B (.slice sa row.length sc) row (by omega) z (adQ V.out M.out) pb P;have U:=qQ P;clear a7 z P;go_wp2_with fail;refine k2.mono ?_;rintro e R ⟨rfl,D⟩;clear k2;have L:=qQ (HA.out.at D);have H:xQ p R:=bt E D;have Z:xQ w R:=bt j D;cases pb with
    | false =>
     have m:Hid (gQ R w.heap.size g n (gat n (k.map (trp l)) (stp 3 a 0 0) ((rr ts).take (i+1)))):=by rw[kF HG.out,gst,U.out];exact L.out
     go_wp2
     go_roundw
     case rel=>exact⟨i+1,by go_num,h1,m,H⟩
     case measure=>simp[intOf];omega
    | true =>
     have J:xZ (4096*1) (gat n (k.map (trp l)) (stp 3 a 0 0) ((rr ts).take i)):=yK (by decide) (fun r _=>by simp[stp]) (by simp[rr];omega);have ac:=bqJ M.out ai.out;have b5:0<=row.getD a 0:=ac.1;have F:=ak.out;obtain⟨x,G⟩:=fX (l:=gat n (k.map (trp l)) (stp 3 a 0 0) ((rr ts).take i)) (i:=(row.getD a 0).toNat) (by rw[dA];omega);have af:-4611686018427387904<=x/\x<=4611686018427387904:=by have:=J.get G;omega
     have k3:=d4J g n w.heap.size _ x B B (.slice sa row.length sc) row I a R L.out (am.out.at (by omega) D) (by rw[al.out];exact au) (HC.out.at Z).c b5 G af;rw[dA] at k3
     have m:Hid (gQ (R.setCell ⟨g,(row.getD a 0).toNat,none⟩ (int i64 (x+1))) w.heap.size g n (gat n (k.map (trp l)) (stp 3 a 0 0) ((rr ts).take (i+1)))):=by
      have he:gat n (k.map (trp l)) (stp 3 a 0 0) ((rr ts).take (i+1))=(gat n (k.map (trp l)) (stp 3 a 0 0) ((rr ts).take i)).set (row.getD a 0).toNat (x+1):=by
       rw[kF HG.out,gst,U.out]
       show mG _ _=_
       unfold mG;rw[show stp 3 a 0 0 row=((row.getD a 0).toNat,1) by simp[stp]];have ay:(gat n (k.map (trp l)) (stp 3 a 0 0) ((rr ts).take i)).getD (row.getD a 0).toNat 0=x:=by rw[List.getD,G];rfl
       dsimp only;rw[ay]
      rw[he];exact L.out.set _ _
     have Y:xQ p (R.setCell ⟨g,(row.getD a 0).toNat,none⟩ (int i64 (x+1))):=H.setCell (by simpa using az.out) _;clear G af J;clear ac F;go_wp2_with fail;refine k3.mono ?_;rintro e w6 ⟨rfl,ae⟩;rw[<-ae] at m Y;clear k3 ae;go_wp2
     go_roundw
     case rel=>exact⟨i+1,by go_num,h1,m,Y⟩
     case measure=>simp[intOf];omega
   ·have m:Hid (gQ wr w.heap.size g n (gat n (k.map (trp l)) (stp 3 a 0 0) (rr ts))):=by have:=HA.out;rwa [gJ (by rw[sA];omega)] at this
    have j:xQ w wr:=bt y E;go_wp2;go_ret;exact⟨g,n,by rw[dA];rfl,m.out,j⟩
 ·exact absurd rfl h0
structure Ar (W:World) (A:Nat) (x y:dX):Prop where
 c0:Cl W A 0 (int i64 x.1)
 c1:Cl W A 1 (int i64 x.2.1)
 c2:Cl W A 2 (int i64 x.2.2)
 c3:Cl W A 3 (int i64 y.1)
 c4:Cl W A 4 (int i64 y.2.1)
 c5:Cl W A 5 (int i64 y.2.2)
theorem Ar.at {x y:dX}(h:Ar W A x y)(a:xQ W W'):Ar W' A x y:=⟨h.c0.at a,h.c1.at a,h.c2.at a,h.c3.at a,h.c4.at a,h.c5.at a⟩
structure Bq (W:World) (N:Nat) (v0 v1 v2 v3 v4 v5:Value):Prop where
 a0:Cl W N 0 v0
 a1:Cl W N 1 v1
 a2:Cl W N 2 v2
 a3:Cl W N 3 v3
 a4:Cl W N 4 v4
 a5:Cl W N 5 v5
 e0:Cl W (N+1) 0 (int i64 0)
 e1:Cl W (N+1) 1 (int i64 0)
 e2:Cl W (N+1) 2 (int i64 0)
theorem Bq.at (h:Bq W N v0 v1 v2 v3 v4 v5)(a:xQ W W'):Bq W' N v0 v1 v2 v3 v4 v5 :=
 ⟨h.a0.at a,h.a1.at a,h.a2.at a,h.a3.at a,h.a4.at a,h.a5.at a,h.e0.at a,h.e1.at a,h.e2.at a⟩
theorem Bq.new (w:World)(v0 v1 v2 v3 v4 v5:Value):Bq ((w.alloc (.cells #[v0,v1,v2,v3,v4,v5] 53)).alloc (.cells #[int i64 0,int i64 0,int i64 0] 131)) w.heap.size v0 v1 v2 v3 v4 v5:=by
 constructor
 all_goals first
  | exact(Cl.new _ 53 _ _ rfl rfl).at (ba _ _)
  | exact Cl.new _ 131 _ _ (by simp) rfl
theorem Qm.shape {q:Qu}(h:Qm w B q v0 v1 v2 v3 v4 v5):∃ k c lo hi i wn wc a n cap,v0=int i64 k/\v1=.string c/\v2=int i64 lo/\v3=int i64 hi/\v4=.slice i wn wc/\v5=.slice a n cap:=by
 cases q with
 | none=>exact h.elim
 | node k c lo hi wh n x y =>
  obtain⟨j,l,m,o,_,g,a,cap,p,_⟩:=h;obtain⟨i,wc,g,_⟩:=g.slice;exact⟨k,c,lo,hi,i,_,wc,a,n,cap,j,l,m,o,g,p⟩
def St (l:List aQ) (lev:Nat) (x y:Qu) (i:Nat) (bx b':dX):Prop :=
 (1<=i->bnd l (lev+1) x=.ok bx)/\(i=0->bx=(0,0,0))/\(2<=i->bnd l (lev+1) y=.ok b')/\(i<=1->b' = (0,0,0))
theorem St.kx {l:List aQ}{x y:Qu}{bx b':dX}(h:St l lev x y i bx b')(hi:i<=2):wJ (1<=i) (bnd l (lev+1) x)=.ok bx/\wJ (2<=i) (bnd l (lev+1) y)=.ok b':=by
 unfold wJ;by_cases a:1<=i
 ·rw[jQ a,h.1 a]
  by_cases g:2<=i
  ·rw[jQ g,h.2.2.1 g];exact⟨rfl,rfl⟩
  ·rw[zQ g,h.2.2.2 (by omega)];exact⟨rfl,rfl⟩
 ·rw[zQ a,zQ (by omega),h.2.1 (by omega),h.2.2.2 (by omega)];exact⟨rfl,rfl⟩
theorem zok:mX (0,0,0):=⟨by decide,by decide,by decide,by decide,by decide,by decide⟩
theorem St.bd {l:List aQ}(g:cG l){x y:Qu}{bx b':dX}(h:St l lev x y i bx b'):mX bx/\mX b':=by
 constructor
 ·by_cases a:1<=i
  ·exact yL g x _ _ (h.1 a)
  ·rw[h.2.1 (by omega)];exact zok
 ·by_cases a:2<=i
  ·exact yL g y _ _ (h.2.2.1 a)
  ·rw[h.2.2.2 (by omega)];exact zok
theorem Ar.new (W:World)(A:Nat)(a:A=W.heap.size):Ar (W.alloc (.cells #[int i64 0,int i64 0,int i64 0,int i64 0,int i64 0,int i64 0] 223)) A (0,0,0) (0,0,0):=by
 constructor <;> exact Cl.new _ 223 _ _ a rfl
theorem Ar.setx {x y:dX}(h:Ar W A x y)(b1 b2 a:Int):Ar (((W.setCell ⟨A,0,none⟩ (int i64 b1)).setCell ⟨A,1,none⟩ (int i64 b2)).setCell ⟨A,2,none⟩ (int i64 a)) A (b1,b2,a) y:=by
 refine⟨?_,?_,?_,?_,?_,?_⟩
 ·exact((h.c0.set _).oth (.inr (by decide)) _).oth (.inr (by decide)) _
 ·exact(Cl.set (h.c1.oth (.inr (by decide)) _) _).oth (.inr (by decide)) _
 ·exact Cl.set ((h.c2.oth (.inr (by decide)) _).oth (.inr (by decide)) _) _
 ·exact((h.c3.oth (.inr (by decide)) _).oth (.inr (by decide)) _).oth (.inr (by decide)) _
 ·exact((h.c4.oth (.inr (by decide)) _).oth (.inr (by decide)) _).oth (.inr (by decide)) _
 ·exact((h.c5.oth (.inr (by decide)) _).oth (.inr (by decide)) _).oth (.inr (by decide)) _
theorem Ar.sety {x y:dX}(h:Ar W A x y)(b1 b2 a:Int):Ar (((W.setCell ⟨A,3,none⟩ (int i64 b1)).setCell ⟨A,4,none⟩ (int i64 b2)).setCell ⟨A,5,none⟩ (int i64 a)) A x (b1,b2,a):=by
 refine⟨?_,?_,?_,?_,?_,?_⟩
 ·exact((h.c0.oth (.inr (by decide)) _).oth (.inr (by decide)) _).oth (.inr (by decide)) _
 ·exact((h.c1.oth (.inr (by decide)) _).oth (.inr (by decide)) _).oth (.inr (by decide)) _
 ·exact((h.c2.oth (.inr (by decide)) _).oth (.inr (by decide)) _).oth (.inr (by decide)) _
 ·exact((h.c3.set _).oth (.inr (by decide)) _).oth (.inr (by decide)) _
 ·exact(Cl.set (h.c4.oth (.inr (by decide)) _) _).oth (.inr (by decide)) _
 ·exact Cl.set ((h.c5.oth (.inr (by decide)) _).oth (.inr (by decide)) _) _
theorem Cl.set3 {b k:Nat}(h:Cl W b k v)(a:A≠b)(u1 u2 u3:Value):Cl (((W.setCell ⟨A,k1,none⟩ u1).setCell ⟨A,k2,none⟩ u2).setCell ⟨A,k3,none⟩ u3) b k v :=
 ((h.oth (.inl a) _).oth (.inl a) _).oth (.inl a) _
theorem Bq.set3 (h:Bq W N v0 v1 v2 v3 v4 v5)(a:A≠N)(g:A≠N+1)(u1 u2 u3:Value):Bq (((W.setCell ⟨A,k1,none⟩ u1).setCell ⟨A,k2,none⟩ u2).setCell ⟨A,k3,none⟩ u3) N v0 v1 v2 v3 v4 v5 :=
 ⟨h.a0.set3 a _ _ _,h.a1.set3 a _ _ _,h.a2.set3 a _ _ _,h.a3.set3 a _ _ _,h.a4.set3 a _ _ _,h.a5.set3 a _ _ _,h.e0.set3 g _ _ _,h.e1.set3 g _ _ _,h.e2.set3 g _ _ _⟩
theorem jA (h:xQ w W)(a:w.heap.size<=A)(u0 u1 u2:Value):xQ w (((W.setCell ⟨A,k1,none⟩ u0).setCell ⟨A,k2,none⟩ u1).setCell ⟨A,k3,none⟩ u2) :=
 bs (bs (bs h a _) a _) a _
theorem brQ (l:List aQ)(hs:cG l)(q:Qu):∀ (lev:Nat) (w:World) (B:Nat) (lv v0 v1 v2 v3 v4 v5:Value) (r:Except Int dX),lev<=100->B<=w.heap.size->kQ w B lv l->Qm w B q v0 v1 v2 v3 v4 v5->bnd l lev q=r ->
  Calls prog 90 #[lv,.agg #[v0,v1,v2,v3,v4,v5],.int .i64 (lev:Int)] w fun e w'=>e=zR r/\Below w.heap.size w w':=by
 induction q with
 | none=>intro lev w B lv v0 v1 v2 v3 v4 v5 r _ _ _ h;exact h.elim
 | node k c lo hi wh n x y ihx ihy =>
  rintro lev w B lv _ _ _ _ v4 _ r hlev hB hp ⟨rfl,rfl,rfl,rfl,hc,hw,a,cap,rfl,hn,hm,hk⟩ hr;have HP:Hid (kQ w B lv l):=hp;have HW:Hid (qZ w B v4 wh):=hw;have HR:Hid (bnd l lev (.node k c lo hi wh n x y)=r):=hr
  have HK:Hid (1<=n->n<=2->∃ b o,a=some ⟨b,o,none⟩/\b<B/\(∃ u0 u1 u2 u3 u4 u5,rJ w b o u0 u1 u2 u3 u4 u5/\Qm w B x u0 u1 u2 u3 u4 u5) /\
    (2<=n->∃ u0 u1 u2 u3 u4 u5,rJ w b (o+6) u0 u1 u2 u3 u4 u5/\Qm w B y u0 u1 u2 u3 u4 u5)):=hk
  obtain⟨wa,wc,rfl,_⟩:=hw.slice;obtain⟨la,lc,rfl,_⟩:=hp.slice;clear hk hr hp hw;go_enter func90,ntmps90;by_cases h64:64<lev
  ·obtain rfl:Except.error 4=r:=by rw[<-HR.out,bnd,jQ h64]
   have hle:¬ (lev:Int)<=64:=by omega
   go_wp2_with fail;refine(qU 4 _).mono ?_;rintro e w2 ⟨rfl,rfl⟩;go_wp2;exact⟨rfl,rfl,bal (ba _ _) _⟩
  have hle:(lev:Int)<=64:=by omega
  go_wp2_with fail;refine(bF 4 _).mono ?_;rintro e w2 ⟨rfl,hw2⟩;have bq:=Bq.new w (.int .i64 k) (.string c) (.int .i64 lo) (.int .i64 hi) (.slice wa wh.length wc) (.slice a n cap);have hb2:Below w.heap.size w w2:=by rw[hw2];exact bal (ba _ _) _
  have hs2:Hid (w2.heap.size=w.heap.size+2):=by show _=_;rw[hw2];simp
  rw[<-hw2] at bq;have HBQ:Hid (Bq w2 w.heap.size (.int .i64 k) (.string c) (.int .i64 lo) (.int .i64 hi) (.slice wa wh.length wc) (.slice a n cap)):=bq;clear hw2;have t0:=bq.a0.c;have t5:=bq.a5.c;clear bq;go_wp2;by_cases hkn:tQ k<0
  ·obtain rfl:Except.error 1=r:=by rw[<-HR.out,bnd,zQ h64,jQ hkn]
   have k1:=fun W=>dyZ k W hkn;clear HR HK HW HP HBQ ihx ihy
   go_region_dies
   all_goals (go_at_call 139;refine(k1 _).mono ?_;rintro e w3 ⟨rfl,hw3⟩;subst hw3;exact⟨rfl,rfl,hb2.drew⟩)
  obtain⟨kn,hkk⟩:∃ kn,tQ k=kn:=⟨_,rfl⟩;have k1:=fun W=>dyX k W kn (by omega) hkk;by_cases hne:(n:Int)=kn
  ·subst hne
   have hq:((n:Int) == (n:Int))=true:=by simp
   go_region_held3 (fun w'=>w'.cell? ⟨w.heap.size,0,none⟩=some (.int .i64 k)/\w'.cell? ⟨w.heap.size,5,none⟩=some (.slice a n cap)) (first|assumption|(simp[go_sem, *];done)) (first|(go_at_call 139;refine(k1 _).mono ?_;rintro x3 w3 ⟨rfl,hw3⟩;subst hw3)|(go_at_call 110;refine(bF 5 _).mono ?_;rintro x4 w4 ⟨rfl,hw4⟩;subst hw4))
   have hb3:Below w.heap.size w w2.drew:=hb2.drew;have hs3:Hid (w2.drew.heap.size=w.heap.size+2):=hs2;have HBQ3:Hid (Bq w2.drew w.heap.size (.int .i64 k) (.string c) (.int .i64 lo) (.int .i64 hi) (.slice wa wh.length wc) (.slice a n cap)):=HBQ.out.at (uQ _ _).drew;obtain⟨w3,hw3⟩:∃ w3,w2.drew=w3:=⟨_,rfl⟩;rename_i hHeld;rw[hw3] at hb3 hs3 HBQ3 hHeld ⊢;clear hw3 HBQ hs2 hb2 t0 t5;have t5:=hHeld.2;clear hHeld;have hn2:n<=2:=by have:=hkk;unfold tQ at this;repeat' split at this;all_goals omega
   have HR2:Hid ((match wJ (1<=n) (bnd l (lev+1) x) with
    | .error e=>.error e
    | .ok bx=>match wJ (2<=n) (bnd l (lev+1) y) with
     | .error e=>.error e
     | .ok b'=>match rec l k c lo hi wh bx b' with
      | .error e=>.error e
      | .ok b=>lim b)=r):=by
    have:=HR.out;rwa [bnd,zQ h64,zQ (by omega),jQ hkk.symm] at this
   clear HR;have HA0:Hid (Ar (w3.alloc (.cells #[.int .i64 0,.int .i64 0,.int .i64 0,.int .i64 0,.int .i64 0,.int .i64 0] 223)) w3.heap.size (0,0,0) (0,0,0)):=Ar.new _ _ rfl;have HB0:Hid (Bq (w3.alloc (.cells #[.int .i64 0,.int .i64 0,.int .i64 0,.int .i64 0,.int .i64 0,.int .i64 0] 223)) w.heap.size (.int .i64 k) (.string c) (.int .i64 lo) (.int .i64 hi) (.slice wa wh.length wc) (.slice a n cap)):=HBQ3.out.at (ba _ _);clear t5;have t5:=HB0.out.a5.c;have hlv1:(((lev+1:Nat)):Int)=(lev:Int)+1:=by omega
   go_wp2
   go_loopw [25] (fun s wr=>∃ (i:Nat) (bx b':dX),s=.int .i64 (i:Int)/\i<=n/\Hid (Bq wr w.heap.size (.int .i64 k) (.string c) (.int .i64 lo) (.int .i64 hi) (.slice wa wh.length wc) (.slice a n cap))/\Hid (Ar wr w3.heap.size bx b')/\Hid (St l lev x y i bx b')/\Below w.heap.size w wr) (fun s _=>n - (intOf s).toNat)
   case atStart=>exact⟨0,(0,0,0),(0,0,0),rfl,dQ _,HB0,HA0,⟨fun h=>absurd h (by decide),fun _=>rfl,fun h=>absurd h (by decide),fun _=>rfl⟩,bal hb3 _⟩
   case round =>
    obtain⟨i,bx,b',rfl,hin,HB,HA,HS,hbr⟩:=hrel;have hszr:=hbr.size;clear t5;by_cases h1:i<n
    ·rcases (show i=0\/i=1 by omega) with rfl|rfl
     ·
      obtain⟨b,o,rfl,hbB,⟨u0,u1,u2,u3,u4,u5,hu,hqm⟩,_⟩:=HK.out (by omega) hn2;obtain⟨kk,kc,kl,kh,ka,kn',kd,kb,km,kp,rfl,rfl,rfl,rfl,rfl,rfl⟩:=hqm.shape;obtain⟨c0,c1,c2,c3,c4,c5⟩:=hu.keep hbr (lQ hbB hB);obtain⟨r1,hr1⟩:∃ r1,bnd l (lev+1) x=r1:=⟨_,rfl⟩;have k2:=ihx (lev+1) (wr.alloc (.cells #[.int .i64 kk,.string kc,.int .i64 kl,.int .i64 kh,.slice ka kn' kd,.slice kb km kp] 53)) B (.slice la l.length lc) _ _ _ _ _ _ r1 (by omega) (by simp;omega) ((HP.out.at hB hbr).at (by omega) (ba _ _)) ((hqm.at hB hbr).at (by omega) (ba _ _)) hr1;rw[hlv1] at k2;have HR1:Hid (bnd l (lev+1) x=r1):=hr1;clear hr1 hqm hu;go_wp2_with fail;refine k2.mono ?_;rintro e w5 ⟨he,hb5⟩;clear k2;have hb5':Below wr.heap.size wr w5:=bt (ba _ _) hb5;have hbw5:Below w.heap.size w w5:=bt hbr hb5';have HB5:Hid (Bq w5 w.heap.size (.int .i64 k) (.string c) (.int .i64 lo) (.int .i64 hi) (.slice wa wh.length wc) (.slice (some ⟨b,o,none⟩) n cap)):=HB.out.at hb5';have HA5:Hid (Ar w5 w3.heap.size bx b'):=HA.out.at hb5';cases r1 with
      | error er =>
       obtain rfl:Except.error er=r:=by
        rw[<-HR2.out];have h1:=HR1.out;rw[wJ,jQ (by omega),h1]
       obtain rfl:e=.panicked (chn er):=he;go_wp2;exact⟨rfl,rfl,hbw5⟩
      | ok bq =>
       obtain⟨b1,b2,b3⟩:=bq;obtain rfl:e=.returned (.agg #[.int .i64 b1,.int .i64 b2,.int .i64 b3]):=he;have s0:=HA5.out.c0.c;have s1:=HA5.out.c1.c;have s2:=HA5.out.c2.c;have f0:=HA5.out.c0.f;have f1:=HA5.out.c1.f;have f2:=HA5.out.c2.f;have HS2:Hid (St l lev x y 1 (b1,b2,b3) b'):=⟨fun _=>HR1.out,fun h=>absurd h (by decide),fun h=>absurd h (by decide),fun _=>HS.out.2.2.2 (by decide)⟩;go_wp2
       go_roundw
       case rel=>exact⟨1,(b1,b2,b3),b',rfl,by omega,HB5.out.set3 (by have:=hs3.out;omega) (by have:=hs3.out;omega) _ _ _,HA5.out.setx _ _ _,HS2,jA hbw5 (by have:=hs3.out;omega) _ _ _⟩
       case measure=>simp[intOf];omega
     ·
      obtain⟨b,o,rfl,hbB,_,hk2⟩:=HK.out (by omega) hn2;obtain⟨u0,u1,u2,u3,u4,u5,hu,hqm⟩:=hk2 (by omega);obtain⟨kk,kc,kl,kh,ka,kn',kd,kb,km,kp,rfl,rfl,rfl,rfl,rfl,rfl⟩:=hqm.shape;obtain⟨c0,c1,c2,c3,c4,c5⟩:=hu.keep hbr (lQ hbB hB);obtain⟨r1,hr1⟩:∃ r1,bnd l (lev+1) y=r1:=⟨_,rfl⟩;have k2:=ihy (lev+1) (wr.alloc (.cells #[.int .i64 kk,.string kc,.int .i64 kl,.int .i64 kh,.slice ka kn' kd,.slice kb km kp] 53)) B (.slice la l.length lc) _ _ _ _ _ _ r1 (by omega) (by simp;omega) ((HP.out.at hB hbr).at (by omega) (ba _ _)) ((hqm.at hB hbr).at (by omega) (ba _ _)) hr1;rw[hlv1] at k2;have HR1:Hid (bnd l (lev+1) y=r1):=hr1;clear hr1 hqm hu;go_wp2_with fail;refine k2.mono ?_;rintro e w5 ⟨he,hb5⟩;clear k2;have hb5':Below wr.heap.size wr w5:=bt (ba _ _) hb5;have hbw5:Below w.heap.size w w5:=bt hbr hb5';have HB5:Hid (Bq w5 w.heap.size (.int .i64 k) (.string c) (.int .i64 lo) (.int .i64 hi) (.slice wa wh.length wc) (.slice (some ⟨b,o,none⟩) n cap)):=HB.out.at hb5';have HA5:Hid (Ar w5 w3.heap.size bx b'):=HA.out.at hb5';cases r1 with
      | error er =>
       obtain rfl:Except.error er=r:=by
        rw[<-HR2.out];have h1:=HR1.out;have h0:=HS.out.1 (by omega);rw[wJ,if_pos (by omega),h0];dsimp only;rw[wJ,if_pos (by omega),h1]
       obtain rfl:e=.panicked (chn er):=he;go_wp2;exact⟨rfl,rfl,hbw5⟩
      | ok bq =>
       obtain⟨b1,b2,b3⟩:=bq;obtain rfl:e=.returned (.agg #[.int .i64 b1,.int .i64 b2,.int .i64 b3]):=he;have s0:=HA5.out.c3.c;have s1:=HA5.out.c4.c;have s2:=HA5.out.c5.c;have f0:=HA5.out.c3.f;have f1:=HA5.out.c4.f;have f2:=HA5.out.c5.f;have HS2:Hid (St l lev x y 2 bx (b1,b2,b3)):=⟨fun _=>HS.out.1 (by decide),fun h=>absurd h (by decide),fun _=>HR1.out,fun h=>absurd h (by decide)⟩;go_wp2
       go_roundw
       case rel=>exact⟨2,bx,(b1,b2,b3),rfl,by omega,HB5.out.set3 (by have:=hs3.out;omega) (by have:=hs3.out;omega) _ _ _,HA5.out.sety _ _ _,HS2,jA hbw5 (by have:=hs3.out;omega) _ _ _⟩
       case measure=>simp[intOf];omega
    ·obtain rfl:i=n:=by omega
     obtain⟨bdx,bdy⟩:=HS.out.bd hs;obtain⟨kx,ky⟩:=HS.out.kx hn2;obtain⟨x1,x2,x3⟩:=bx;obtain⟨y1,y2,y3⟩:=b'
     have HR3:Hid ((match rec l k c lo hi wh (x1,x2,x3) (y1,y2,y3) with
      | .error e=>.error e
      | .ok b=>lim b)=r):=by
      have:=HR2.out;rw[kx] at this;dsimp only at this;rw[ky] at this;exact this
     clear HR2 kx ky HK;obtain⟨rr,hrr⟩:∃ rr,rec l k c lo hi wh (x1,x2,x3) (y1,y2,y3)=rr:=⟨_,rfl⟩;have kr:=d2X k (by omega) (.slice la l.length lc) c lo hi (.slice wa wh.length wc) (.slice a i cap) (x1,x2,x3) (y1,y2,y3) bdx bdy wr B l wh (by omega) (HP.out.at hB hbr) (HW.out.at hB hbr) rr hrr;rw[hrr] at HR3;clear hrr bdx bdy HS;have m0:=HB.out.a0.c;have m1:=HB.out.a1.c;have m2:=HB.out.a2.c;have m3:=HB.out.a3.c;have m4:=HB.out.a4.c;have m5:=HB.out.a5.c;have q0:=HA.out.c0.c;have q1:=HA.out.c1.c;have q2:=HA.out.c2.c;have q3:=HA.out.c3.c;have q4:=HA.out.c4.c;have q5:=HA.out.c5.c;go_wp2_with fail;refine kr.mono ?_;rintro e w6 ⟨he,hb6⟩;clear kr m0 m1 m2 m3 m4 m5 q0 q1 q2 q3 q4 q5;have hbw6:Below w.heap.size w w6:=bt hbr hb6;have HB6:Hid (Bq w6 w.heap.size (.int .i64 k) (.string c) (.int .i64 lo) (.int .i64 hi) (.slice wa wh.length wc) (.slice a i cap)):=HB.out.at hb6;clear HB HA hb6;cases rr with
     | error er =>
      obtain rfl:Except.error er=r:=HR3.out;obtain rfl:e=.panicked (chn er):=he;go_wp2;exact⟨rfl,rfl,hbw6⟩
     | ok bb =>
      obtain⟨b1,b2,b3⟩:=bb;obtain rfl:e=.returned (.agg #[.int .i64 b1,.int .i64 b2,.int .i64 b3]):=he;have HR4:Hid (lim (b1,b2,b3)=r):=HR3.out;clear HR3;by_cases hl:sH (b1,b2,b3)=true
      ·obtain rfl:Except.ok (b1,b2,b3)=r:=by rw[<-HR4.out,lim,jQ hl]
       simp only[sH,dJ] at hl;obtain⟨l1,l2,l3⟩:=hl;have HBZ:Hid (Bq (w6.alloc (.cells #[.int .i64 b1,.int .i64 b2,.int .i64 b3] 131)) w.heap.size (.int .i64 k) (.string c) (.int .i64 lo) (.int .i64 hi) (.slice wa wh.length wc) (.slice a i cap)):=HB6.out.at (ba _ _);go_wp2_with fail;refine(bF 4 _).mono ?_;rintro e w7 ⟨rfl,hw7⟩;have g0:Cl w7 w6.heap.size 0 (.int .i64 b1):=by rw[hw7];exact Cl.new _ 131 _ _ rfl rfl
       have g1:Cl w7 w6.heap.size 1 (.int .i64 b2):=by rw[hw7];exact Cl.new _ 131 _ _ rfl rfl
       have g2:Cl w7 w6.heap.size 2 (.int .i64 b3):=by rw[hw7];exact Cl.new _ 131 _ _ rfl rfl
       rw[<-hw7] at HBZ;have hbw7:Below w.heap.size w w7:=by rw[hw7];exact bal hbw6 _
       clear hw7;have g0:=g0.c;have g1:=g1.c;have g2:=g2.c;have s0:=HBZ.out.e0.c;have s1:=HBZ.out.e1.c;have s2:=HBZ.out.e2.c;have f0:=HBZ.out.e0.f;have f1:=HBZ.out.e1.f;have f2:=HBZ.out.e2.f;go_wp2;exact eQ (v:=.agg #[.int .i64 b1,.int .i64 b2,.int .i64 b3]) (by simp[results,results90,go_sem,s0,s1,s2]) rfl ⟨rfl,jA hbw7 (Nat.le_succ _) _ _ _⟩
      ·obtain rfl:Except.error 4=r:=by rw[<-HR4.out,lim,zQ hl]
       simp only[sH,dJ] at hl;by_cases l1:b1<=4096
       ·by_cases l2:b2<=1099511627776
        ·have l3:¬ b3<=1099511627776:=fun l3=>hl ⟨l1,l2,l3⟩
         have l4:decide (b3<=1099511627776)=false:=lZ l3;clear hl;go_wp2_with fail;refine(qU 4 _).mono ?_;rintro e w7 ⟨rfl,rfl⟩;go_wp2;exact⟨rfl,rfl,bal hbw6 _⟩
        ·go_wp2_with fail
         refine(qU 4 _).mono ?_;rintro e w7 ⟨rfl,rfl⟩;go_wp2;exact⟨rfl,rfl,bal hbw6 _⟩
       ·go_wp2_with fail
        refine(qU 4 _).mono ?_;rintro e w7 ⟨rfl,rfl⟩;go_wp2;exact⟨rfl,rfl,bal hbw6 _⟩
  ·obtain rfl:Except.error 5=r:=by rw[<-HR.out,bnd,zQ h64,zQ hkn,zQ (by rw[hkk];exact hne)]
   have hq:((n:Int) == kn)=false:=by simpa using hne
   clear HR HK HW HP HBQ ihx ihy
   go_region_dies
   all_goals (go_at_call 139;refine(k1 _).mono ?_;rintro e w3 ⟨rfl,hw3⟩;subst hw3;rename_i K hK;refine hK _ _ ?_;clear hK K)
   ·(refine rG (rs:=[6]) (by kernel_rfl) (by simp) ?_;refine sG rfl (fun K hK=>?_) tG;go_simp;refine hK _ _ ?_;clear hK K);(refine rG (rs:=[7]) (by kernel_rfl) (by simp) ?_;refine sG rfl (fun K hK=>?_) tG;go_simp;go_at_call 110;refine(qU 5 _).mono ?_;rintro e w4 ⟨rfl,hw4⟩;subst hw4;exact⟨rfl,rfl,hb2.drew⟩)
   ·(refine rG (rs:=[6]) (by kernel_rfl) (by simp) ?_;refine sG rfl (fun K hK=>?_) tG;go_simp;refine hK _ _ ?_;clear hK K);(refine rG (rs:=[7]) (by kernel_rfl) (by simp) ?_;refine sG rfl (fun K hK=>?_) tG;go_simp;go_at_call 110;refine(qU 5 _).mono ?_;rintro e w4 ⟨rfl,hw4⟩;subst hw4;exact⟨rfl,rfl,hb2.drew⟩)
   ·(refine rG (rs:=[2]) (by kernel_rfl) (by simp) ?_;refine sG rfl (fun K hK=>?_) tG;go_simp;refine hK _ _ ?_;clear hK K);(refine rG (rs:=[6]) (by kernel_rfl) (by simp) ?_;refine sG rfl (fun K hK=>?_) tG;go_simp;refine hK _ _ ?_;clear hK K);(refine rG (rs:=[7]) (by kernel_rfl) (by simp) ?_;refine sG rfl (fun K hK=>?_) tG;go_simp;go_at_call 110;refine(qU 5 _).mono ?_;rintro e w4 ⟨rfl,hw4⟩;subst hw4;exact⟨rfl,rfl,hb2.drew⟩)
   ·(refine rG (rs:=[6]) (by kernel_rfl) (by simp) ?_;refine sG rfl (fun K hK=>?_) tG;go_simp;refine hK _ _ ?_;clear hK K);(refine rG (rs:=[7]) (by kernel_rfl) (by simp) ?_;refine sG rfl (fun K hK=>?_) tG;go_simp;go_at_call 110;refine(qU 5 _).mono ?_;rintro e w4 ⟨rfl,hw4⟩;subst hw4;exact⟨rfl,rfl,hb2.drew⟩)
   ·(refine rG (rs:=[2]) (by kernel_rfl) (by simp) ?_;refine sG rfl (fun K hK=>?_) tG;go_simp;refine hK _ _ ?_;clear hK K);(refine rG (rs:=[6]) (by kernel_rfl) (by simp) ?_;refine sG rfl (fun K hK=>?_) tG;go_simp;refine hK _ _ ?_;clear hK K);(refine rG (rs:=[7]) (by kernel_rfl) (by simp) ?_;refine sG rfl (fun K hK=>?_) tG;go_simp;go_at_call 110;refine(qU 5 _).mono ?_;rintro e w4 ⟨rfl,hw4⟩;subst hw4;exact⟨rfl,rfl,hb2.drew⟩)
   ·(refine rG (rs:=[1]) (by kernel_rfl) (by simp) ?_;refine sG rfl (fun K hK=>?_) tG;go_simp;refine hK _ _ ?_;clear hK K);(refine rG (rs:=[2]) (by kernel_rfl) (by simp) ?_;refine sG rfl (fun K hK=>?_) tG;go_simp;refine hK _ _ ?_;clear hK K);(refine rG (rs:=[6]) (by kernel_rfl) (by simp) ?_;refine sG rfl (fun K hK=>?_) tG;go_simp;refine hK _ _ ?_;clear hK K);(refine rG (rs:=[7]) (by kernel_rfl) (by simp) ?_;refine sG rfl (fun K hK=>?_) tG;go_simp;go_at_call 110;refine(qU 5 _).mono ?_;rintro e w4 ⟨rfl,hw4⟩;subst hw4;exact⟨rfl,rfl,hb2.drew⟩)
def typ (l:List aQ) (q:Qu):Except Int dX:=if oY l=0 then bnd l 1 q else .error (oY l)
theorem brX (l:List aQ)(q:Qu)(w:World)(B:Nat)(U v0 v1 v2 v3 v4 v5:Value)(r:Except Int dX)(hB:B<=w.heap.size)(C:kQ w B U l)(E:Qm w B q v0 v1 v2 v3 v4 v5)(I:typ l q=r) :
  Calls prog 97 #[U,.agg #[v0,v1,v2,v3,v4,v5]] w fun e w'=>e=zR r/\xQ w w':=by
 have V:=qQ C;have X:=qQ E;have F:=qQ I;obtain⟨la,lc,rfl,_⟩:=C.slice;obtain⟨R,O,S,Q,M,A,P,N,T,kp,rfl,rfl,rfl,rfl,rfl,rfl⟩:=E.shape;obtain⟨y,p⟩:∃ y,oY l=y:=⟨_,rfl⟩;have H:=Bq.new w (int i64 R) (.string O) (int i64 S) (int i64 Q) (.slice M A P) (.slice N T kp);have i:xQ w ((w.alloc (.cells #[int i64 R,.string O,int i64 S,int i64 Q,.slice M A P,.slice N T kp] 53)).alloc (.cells #[int i64 0,int i64 0,int i64 0] 131)):=bal (ba _ _) _;have J:=eS B _ l _ (bQ hB i.size) (C.at hB i) y p;have k:=qQ p;clear C E I p;go_enter func97,ntmps97;go_wp2_with fail;refine J.mono ?_;rintro e D ⟨rfl,m⟩;clear J;have h:xQ w D:=bt i m;have a:=qQ (H.at m);clear H i m;by_cases z:y=0
 ·subst z
  have Y:Hid (bnd l 1 q=r):=by have:=F.out;rwa [typ,jQ k.out] at this
  have Z:=h.size;have L:=brQ l (nI k.out).2.2.1 q 1 D B (.slice la l.length lc) _ _ _ _ _ _ r (by decide) (by omega) (V.out.at hB h) (X.out.at hB h) Y.out;have m0:=a.out.a0.c;have m1:=a.out.a1.c;have m2:=a.out.a2.c;have m3:=a.out.a3.c;have m4:=a.out.a4.c;have m5:=a.out.a5.c;go_wp2_with fail;refine(a1X D).mono ?_;rintro e w2 ⟨rfl,rfl⟩;go_wp2_with fail;refine L.mono ?_;rintro e w3 ⟨z,o⟩;clear L m0 m1 m2 m3 m4 m5;have g:=qQ (a.out.at o);have j:xQ w w3:=bt h o;clear a o;cases r with
  | error er =>
   obtain rfl:e=.panicked (chn er):=z;go_wp2;exact⟨rfl,rfl,j⟩
  | ok bb =>
   obtain⟨b1,b2,G⟩:=bb;obtain rfl:e=.returned (.agg #[int i64 b1,int i64 b2,int i64 G]):=z;have s0:=g.out.e0.c;have s1:=g.out.e1.c;have s2:=g.out.e2.c;have f0:=g.out.e0.f;have f1:=g.out.e1.f;have f2:=g.out.e2.f;go_wp2;exact eQ (v:=.agg #[int i64 b1,int i64 b2,int i64 G]) (by simp[results,results97,go_sem,s0,s1,s2]) rfl ⟨rfl,jA j (Nat.le_succ _) _ _ _⟩
 ·obtain rfl:Except.error y=r:=by rw[<-F.out,typ,k.out,zQ z]
  go_wp2_with fail;refine(a1Z y z D).mono ?_;rintro e w2 ⟨rfl,rfl⟩;go_wp2;exact⟨rfl,rfl,h⟩
structure Bx (W:World) (N:Nat) (v0 v1 v2 v3 v4 v5:Value):Prop where
 a0:Cl W N 0 v0
 a1:Cl W N 1 v1
 a2:Cl W N 2 v2
 a3:Cl W N 3 v3
 a4:Cl W N 4 v4
 a5:Cl W N 5 v5
theorem Bx.at (h:Bx W N v0 v1 v2 v3 v4 v5)(a:xQ W W'):Bx W' N v0 v1 v2 v3 v4 v5:=⟨h.a0.at a,h.a1.at a,h.a2.at a,h.a3.at a,h.a4.at a,h.a5.at a⟩
theorem Bx.new (W:World)(N:Nat)(a:N=W.heap.size)(v0 v1 v2 v3 v4 v5:Value):Bx (W.alloc (.cells #[v0,v1,v2,v3,v4,v5] 53)) N v0 v1 v2 v3 v4 v5:=by
 constructor <;> exact Cl.new _ 53 _ _ a rfl
theorem d5J (l:List aQ)(q:Qu)(w:World)(B L N:Nat)(o v0 v1 v2 v3 v4 v5:Value)(r:Except Int dX)(hB:B<=w.heap.size)(k:kQ w B o l)(m:Qm w B q v0 v1 v2 v3 v4 v5)(C:typ l q=r)(y:Cl w L 0 o)(z:Bx w N v0 v1 v2 v3 v4 v5) :
  Calls prog 96 #[.pointer (some ⟨L,0,none⟩),.pointer (some ⟨N,0,none⟩)] w fun e w'=>e=zR r/\xQ w w':=by
 have g:=ba w (.cells #[int i64 0,int i64 0,int i64 0] 131);have D:=brX l q (w.alloc (.cells #[int i64 0,int i64 0,int i64 0] 131)) B o v0 v1 v2 v3 v4 v5 r (bQ hB g.size) (k.at hB g) (m.at hB g) C;obtain⟨la,lc,rfl,_⟩:=k.slice;obtain⟨X,T,Y,V,R,E,U,S,Z,kp,rfl,rfl,rfl,rfl,rfl,rfl⟩:=m.shape;have i:=y.at g;have a:=z.at g;have F:=a.a0.c;have G:=a.a1.c;have H:=a.a2.c;have I:=a.a3.c;have J:=a.a4.c;have M:=a.a5.c;have O:=i.c;clear k m C y z i a;go_enter func96,ntmps96;go_wp2_with fail;refine D.mono ?_;rintro e Q ⟨A,h⟩;clear D F G H I J M O;have a0:=(Cl.new (w:=w) #[int i64 0,int i64 0,int i64 0] 131 0 _ rfl rfl).at h;have a1:=(Cl.new (w:=w) #[int i64 0,int i64 0,int i64 0] 131 1 _ rfl rfl).at h;have a2:=(Cl.new (w:=w) #[int i64 0,int i64 0,int i64 0] 131 2 _ rfl rfl).at h;have j:xQ w Q:=bt g h;clear g h;have P:=a0.c;have s1:=a1.c;have s2:=a2.c;have f0:=a0.f;have f1:=a1.f;have f2:=a2.f;cases r with
 | error er =>
  obtain rfl:e=.panicked (chn er):=A;go_wp2;exact⟨rfl,rfl,j⟩
 | ok bb =>
  obtain⟨b1,b2,p⟩:=bb;obtain rfl:e=.returned (.agg #[int i64 b1,int i64 b2,int i64 p]):=A;go_wp2;exact eQ (v:=.agg #[int i64 b1,int i64 b2,int i64 p]) (by simp[results,results96,go_sem,P,s1,s2]) rfl ⟨rfl,jA j (vQ _) _ _ _⟩
def jU:Except Int dX->dX × Int
 | .error e=>((0,0,0),e)
 | .ok b=>(b,0)
theorem d6Q (l:List aQ)(q:Qu)(w:World)(B:Nat)(i v0 v1 v2 v3 v4 v5:Value)(b1 b2 p er:Int)(hB:B<=w.heap.size)(z:kQ w B i l)(A:Qm w B q v0 v1 v2 v3 v4 v5)(k:jU (typ l q)=((b1,b2,p),er)) :
  Calls prog 52 #[i,.agg #[v0,v1,v2,v3,v4,v5]] w (iQ w (.tuple #[.agg #[int i64 b1,int i64 b2,int i64 p],int i64 er])):=by
 have a:xQ w (((w.alloc (.cells #[i] 22)).alloc (.cells #[v0,v1,v2,v3,v4,v5] 53)).alloc (.cells #[int i64 0,int i64 0,int i64 0] 131)):=bal (bal (ba _ _) _) _;have M:Cl (((w.alloc (.cells #[i] 22)).alloc (.cells #[v0,v1,v2,v3,v4,v5] 53)).alloc (.cells #[int i64 0,int i64 0,int i64 0] 131)) w.heap.size 0 i:=((Cl.new _ 22 _ _ rfl rfl).at (ba _ _)).at (ba _ _);have O:Bx (((w.alloc (.cells #[i] 22)).alloc (.cells #[v0,v1,v2,v3,v4,v5] 53)).alloc (.cells #[int i64 0,int i64 0,int i64 0] 131)) (w.heap.size+1) v0 v1 v2 v3 v4 v5:=(Bx.new _ _ (by simp) _ _ _ _ _ _).at (ba _ _)
 have P:Calls prog 95 #[.func (.func 96) #[] #[.pointer (some ⟨w.heap.size,0,none⟩),.pointer (some ⟨w.heap.size+1,0,none⟩)]] (((w.alloc (.cells #[i] 22)).alloc (.cells #[v0,v1,v2,v3,v4,v5] 53)).alloc (.cells #[int i64 0,int i64 0,int i64 0] 131)) fun e w'=>e=.returned (.tuple #[.agg #[int i64 b1,int i64 b2,int i64 p],int i64 er])/\Below (((w.alloc (.cells #[i] 22)).alloc (.cells #[v0,v1,v2,v3,v4,v5] 53)).alloc (.cells #[int i64 0,int i64 0,int i64 0] 131)).heap.size (((w.alloc (.cells #[i] 22)).alloc (.cells #[v0,v1,v2,v3,v4,v5] 53)).alloc (.cells #[int i64 0,int i64 0,int i64 0] 131)) w':=by
  generalize hW:(((w.alloc (.cells #[i] 22)).alloc (.cells #[v0,v1,v2,v3,v4,v5] 53)).alloc (.cells #[int i64 0,int i64 0,int i64 0] 131))=W at *
  have h:∀ r,typ l q=r->∀ W',xQ W W'->W.heap.size+2<=W'.heap.size->Calls prog 96 #[.pointer (some ⟨w.heap.size,0,none⟩),.pointer (some ⟨w.heap.size+1,0,none⟩)] W' fun e w'=>e=zR r/\xQ W' w':=by
   intro r k W' j T;have Q:=a.size;exact d5J l q W' B _ _ i v0 v1 v2 v3 v4 v5 r (by omega) ((z.at hB a).at (by omega) j) ((A.at hB a).at (by omega) j) k (M.at j) (O.at j)
  cases ht:typ l q with
  | error e1 =>
   rw[ht] at k;simp only[jU,cQ] at k;obtain⟨⟨rfl,rfl,rfl⟩,rfl⟩:=k;exact cxJ _ e1 W (h _ ht)
  | ok bb =>
   obtain⟨c1,c2,c3⟩:=bb;rw[ht] at k;simp only[jU,cQ] at k;obtain⟨⟨rfl,rfl,rfl⟩,rfl⟩:=k;exact cxZ _ c1 c2 c3 W (h _ ht)
 obtain⟨J,L,rfl,_⟩:=z.slice;obtain⟨G,m,H,F,C,o,E,D,I,kp,rfl,rfl,rfl,rfl,rfl,rfl⟩:=A.shape;have hmf:=hmf;clear z A k M O;go_enter func52,ntmps52;go_wp2_with fail;refine P.mono ?_;rintro e S ⟨rfl,g⟩;clear P;have a0:=(Cl.new (w:=((w.alloc (.cells #[.slice J l.length L] 22)).alloc (.cells #[int i64 G,.string m,int i64 H,int i64 F,.slice C o E,.slice D I kp] 53))) (N:=w.heap.size+1+1) #[int i64 0,int i64 0,int i64 0] 131 0 _ (by simp) rfl).at g;have a1:=(Cl.new (w:=((w.alloc (.cells #[.slice J l.length L] 22)).alloc (.cells #[int i64 G,.string m,int i64 H,int i64 F,.slice C o E,.slice D I kp] 53))) (N:=w.heap.size+1+1) #[int i64 0,int i64 0,int i64 0] 131 1 _ (by simp) rfl).at g;have a2:=(Cl.new (w:=((w.alloc (.cells #[.slice J l.length L] 22)).alloc (.cells #[int i64 G,.string m,int i64 H,int i64 F,.slice C o E,.slice D I kp] 53))) (N:=w.heap.size+1+1) #[int i64 0,int i64 0,int i64 0] 131 2 _ (by simp) rfl).at g;have y:xQ w S:=bt a g;clear a g;have R:=a0.c;have s1:=a1.c;have s2:=a2.c;have f0:=a0.f;have f1:=a1.f;have f2:=a2.f;go_wp2;exact eQ (v:=.tuple #[.agg #[int i64 b1,int i64 b2,int i64 p],int i64 er]) (by simp[results,results52,go_sem,R,s1,s2]) rfl ⟨rfl,jA y (by omega) _ _ _⟩
