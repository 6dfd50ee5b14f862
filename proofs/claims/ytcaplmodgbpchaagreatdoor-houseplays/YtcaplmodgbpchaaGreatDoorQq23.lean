import Derived.Test.YtcaplmodgbpchaaGreatDoorQq22
open Go.Proofs.Tryz
open Go.Value(int)
open Go.IntKind(i64)
set_option linter.unusedSimpArgs false
set_option maxHeartbeats 16000000
set_option maxRecDepth 100000
namespace Go.Proofs.YtcaplmodgbpchaaGreatDoor
variable {W W' w w':World} {xs:List Int} {a:Addr} {cv kv v wv:Value} {N g i:Nat} {k x z:Int} {c:ByteArray}
namespace K
open Go.RowKit K.Ds
theorem eZ.up {e:Ending}(h:eZ W xs e w')(i:xQ w W):eZ w xs e w':=by
 obtain⟨g,c,j,ha,a⟩:=h;exact⟨g,c,j,ha.mono i.size,bt i a⟩
theorem clt (h:w.cell? a=some v):a.block<w.heap.size:=by
 unfold World.cell? at h;split at h
 ·rename_i hb;exact(mY.1 hb).1
 ·cases h
theorem brZ {e:Ending}(h:eZ w.drew xs e w'):eZ w xs e w':=eZ.up h (uQ _ _).drew
theorem nM (N h:Nat)(cv rv:Value)(b o n cap:Nat)(V:0<n)(xs:List Int)(w:World)(t0:w.cell? ⟨N,0,none⟩=some cv)(t1:w.cell? ⟨N,1,none⟩=some rv)(D:w.cell? ⟨h,5,none⟩=some (.slice (some ⟨b,o,none⟩) n cap))(B:Nat)(x:Qu)(u0 u1 u2 u3 u4 u5:Value)(G:rJ w b (o) u0 u1 u2 u3 u4 u5)(z:Qm w B x u0 u1 u2 u3 u4 u5)(l:List aQ)(ts:List Rw)(y:kQ w B cv l)(A:nQ w B rv ts)
  (J:Calls prog 91 #[.agg #[cv,rv],.agg #[u0,u1,u2,u3,u4,u5]] w.drew (eZ w.drew xs)) :
  Calls prog 142 #[int i64 0,.pointer (some ⟨N,0,none⟩),.pointer (some ⟨h,0,none⟩)] w (eZ w xs):=by
 obtain⟨R,S,rfl,_⟩:=y.slice;obtain⟨T,U,rfl,_⟩:=A.slice;obtain⟨O,k,P,M,H,m,L,I,Q,kp,rfl,rfl,rfl,rfl,rfl,rfl⟩:=z.shape;obtain⟨c0,c1,c2,c3,c4,c5⟩:=G;have C:N<w.heap.size:=clt t0;have v:h<w.heap.size:=clt D;have g:b<w.heap.size:=clt c0;clear y A z;go_enter func142,ntmps142;go_wp2
 go_region_held3 (fun w'=>w'.cell? ⟨N,0,none⟩=some (.slice R l.length S)/\w'.cell? ⟨N,1,none⟩=some (.slice T ts.length U)/\w'.cell? ⟨h,5,none⟩=some (.slice (some ⟨b,o,none⟩) n cap)/\w'.cell? ⟨b,o,none⟩=some (int i64 O)/\w'.cell? ⟨b,o+1,none⟩=some (.string k)/\w'.cell? ⟨b,o+2,none⟩=some (int i64 P)/\w'.cell? ⟨b,o+3,none⟩=some (int i64 M)/\w'.cell? ⟨b,o+4,none⟩=some (.slice H m L)/\w'.cell? ⟨b,o+5,none⟩=some (.slice I Q kp)) (first|assumption|(simp[go_sem, *];done)) ((go_at_call 91;refine J.mono ?_;rintro x3 X F;obtain⟨E,i,rfl,j,a⟩:=F;have z0:=(a.cell (p:=⟨N,0,none⟩) C).trans t0;have z1:=(a.cell (p:=⟨N,1,none⟩) C).trans t1;have Y:=(a.cell (p:=⟨h,5,none⟩) v).trans D;have y0:=(a.cell (p:=⟨b,o,none⟩) g).trans c0;have y1:=(a.cell (p:=⟨b,o+1,none⟩) g).trans c1;have y2:=(a.cell (p:=⟨b,o+2,none⟩) g).trans c2;have y3:=(a.cell (p:=⟨b,o+3,none⟩) g).trans c3;have y4:=(a.cell (p:=⟨b,o+4,none⟩) g).trans c4;have y5:=(a.cell (p:=⟨b,o+5,none⟩) g).trans c5))
 go_wp2;go_ret;exact brZ ⟨E,i,rfl,j,a⟩
theorem adZ (N h:Nat)(cv rv:Value)(b o n cap:Nat)(Y:1<n)(xs:List Int)(w:World)(t0:w.cell? ⟨N,0,none⟩=some cv)(t1:w.cell? ⟨N,1,none⟩=some rv)(D:w.cell? ⟨h,5,none⟩=some (.slice (some ⟨b,o,none⟩) n cap))(B:Nat)(x:Qu)(u0 u1 u2 u3 u4 u5:Value)(I:rJ w b (o+6) u0 u1 u2 u3 u4 u5)(z:Qm w B x u0 u1 u2 u3 u4 u5)(l:List aQ)(ts:List Rw)(y:kQ w B cv l)(A:nQ w B rv ts)
  (M:Calls prog 91 #[.agg #[cv,rv],.agg #[u0,u1,u2,u3,u4,u5]] w.drew (eZ w.drew xs)) :
  Calls prog 142 #[int i64 1,.pointer (some ⟨N,0,none⟩),.pointer (some ⟨h,0,none⟩)] w (eZ w xs):=by
 obtain⟨T,U,rfl,_⟩:=y.slice;obtain⟨V,X,rfl,_⟩:=A.slice;obtain⟨Q,k,R,P,J,m,O,L,S,kp,rfl,rfl,rfl,rfl,rfl,rfl⟩:=z.shape;obtain⟨c0,c1,c2,c3,c4,c5⟩:=I;have C:N<w.heap.size:=clt t0;have v:h<w.heap.size:=clt D;have g:b<w.heap.size:=clt c0;have G:((1:Int))<(n:Int):=by omega
 have H:(0:Int)<=1:=by decide
 clear y A z;go_enter func142,ntmps142;go_wp2
 go_region_held3 (fun w'=>w'.cell? ⟨N,0,none⟩=some (.slice T l.length U)/\w'.cell? ⟨N,1,none⟩=some (.slice V ts.length X)/\w'.cell? ⟨h,5,none⟩=some (.slice (some ⟨b,o,none⟩) n cap)/\w'.cell? ⟨b,o+6,none⟩=some (int i64 Q)/\w'.cell? ⟨b,o+6+1,none⟩=some (.string k)/\w'.cell? ⟨b,o+6+2,none⟩=some (int i64 R)/\w'.cell? ⟨b,o+6+3,none⟩=some (int i64 P)/\w'.cell? ⟨b,o+6+4,none⟩=some (.slice J m O)/\w'.cell? ⟨b,o+6+5,none⟩=some (.slice L S kp)) (first|assumption|(simp[go_sem, *];done)) ((go_at_call 91;refine M.mono ?_;rintro x3 Z F;obtain⟨E,i,rfl,j,a⟩:=F;have z0:=(a.cell (p:=⟨N,0,none⟩) C).trans t0;have z1:=(a.cell (p:=⟨N,1,none⟩) C).trans t1;have z2:=(a.cell (p:=⟨h,5,none⟩) v).trans D;have y0:=(a.cell (p:=⟨b,o+6,none⟩) g).trans c0;have y1:=(a.cell (p:=⟨b,o+6+1,none⟩) g).trans c1;have y2:=(a.cell (p:=⟨b,o+6+2,none⟩) g).trans c2;have y3:=(a.cell (p:=⟨b,o+6+3,none⟩) g).trans c3;have y4:=(a.cell (p:=⟨b,o+6+4,none⟩) g).trans c4;have y5:=(a.cell (p:=⟨b,o+6+5,none⟩) g).trans c5))
 go_wp2;go_ret;exact brZ ⟨E,i,rfl,j,a⟩
theorem d6X (x y:Int)(w:World)(a:-1152921504606846976<=x/\x<=1152921504606846976)(g:-1152921504606846976<=y/\y<=1152921504606846976) :
  Calls prog 148 #[int i64 x,int i64 y] w fun e w'=>e=.returned (int i64 (x+y))/\w' = w:=by
 obtain⟨a1,a2⟩:=a;obtain⟨b1,b2⟩:=g;go_enter func148,ntmps148;go_wp2;go_ret;exact⟨rfl,rfl⟩
theorem d6Z (x y:Int)(w:World)(a:-1152921504606846976<=x/\x<=1152921504606846976)(g:-1152921504606846976<=y/\y<=1152921504606846976) :
  Calls prog 149 #[int i64 x,int i64 y] w fun e w'=>e=.returned (int i64 (x - y))/\w' = w:=by
 obtain⟨a1,a2⟩:=a;obtain⟨b1,b2⟩:=g;go_enter func149,ntmps149;go_wp2;go_ret;exact⟨rfl,rfl⟩
theorem times_any (N:Nat)(lo x:Int)(w:World)(h:w.cell? ⟨N,2,none⟩=some (int i64 lo))(a:-1048576<=lo/\lo<=1048576)(g:-1099511627776<=x/\x<=1099511627776) :
  Calls prog 151 #[int i64 x,.pointer (some ⟨N,0,none⟩)] w fun e w'=>e=.returned (int i64 (lo*x))/\w' = w:=by
 have i:=acZ a g;have j:wrap64 (lo*x)=lo*x:=lA (by omega);go_enter func151,ntmps151;go_wp2;go_ret;exact⟨rfl,rfl⟩
theorem b7 (B nb:Nat)(v:Value)(xs:List Int)(w:World)(hB:B<=w.heap.size)(D:yQ w B nb v xs)(M:xs.length<=4096)(g:xZ 1099511627776 xs)(r:Int)(C:xA xs=r) :
  Calls prog 152 #[v] w fun e w'=>e=.returned (int i64 r)/\w' = w:=by
 have H:=qQ D;have G:=qQ C;have E:=qQ g;obtain⟨a,c,rfl,_⟩:=D;clear C g;go_enter func152,ntmps152;go_wp2
 go_loopw [3,8] (fun t s' wr=>∃ (i:Nat) (k:Int),t=int i64 k/\s' = int i64 (i:Int)/\i<=xs.length/\Hid (k+xA (xs.drop i)=r)/\Hid (-(i*1099511627776)<=k/\k<=i*1099511627776)/\wr=w) (fun _ s' _=>xs.length - (intOf s').toNat)
 case atStart=>exact⟨0,0,rfl,rfl,dQ _,by show _=_;rw[nL,Int.zero_add];exact G.out,by show _/\_;omega,rfl⟩
 case round =>
  obtain⟨i,k,rfl,rfl,hi,A,F,rfl⟩:=hrel;by_cases l:i<xs.length
  ·obtain⟨b,o,x,rfl,_,L,N,p,y,m⟩:=H.out.got l
   have z:=E.out x (qX p);obtain⟨I,J⟩:=F.out;have b1:-9223372036854775808<=k+x:=by omega
   have b2:k+x<=9223372036854775807:=by omega
   have h:Hid (k+x+xA (xs.drop (i+1))=r):=by
    show _=_
    rw[<-A.out,eV l,(fQ.1 p).2];simp only[xA];omega
   have j:Hid (-((i+1:Nat)*1099511627776)<=k+x/\k+x<=(i+1:Nat)*1099511627776):=by show _/\_;omega
   clear p y I J z;go_wp2
   go_roundw
   case rel=>exact⟨i+1,k+x,rfl,by go_num,l,h,j,trivial⟩
   case measure=>simp[intOf];omega
  ·obtain rfl:k=r:=by have:=A.out;rw[nG (by omega)] at this;simpa [xA] using this
   go_wp2;go_ret;exact⟨rfl,rfl⟩
theorem aB {zs:List Int}(g:zs.length=xs.length)(a:zs[i]? = some z):(zs.take i++xs.drop i).set i z=zs.take (i+1)++xs.drop (i+1):=by
 have hi:i<zs.length:=(fQ.1 a).1;rw[xS _ _ (by rw[lU];omega),lU,Nat.min_eq_left (by omega),iI,rX,a,show xs.drop i=xs[i]::xs.drop (i+1) from eV (by omega),List.set_cons_zero,qS];rfl
theorem bB {zs:List Int}(g:zs.length=xs.length)(a:xs[i]? = some x):(zs.take i++xs.drop i)[i]? = some x:=by
 have hi:i<xs.length:=(fQ.1 a).1;rw[mH (by rw[lU];omega),lU,Nat.min_eq_left (by omega),iI,kK,fI,a]
theorem d6J (lo g c B:Nat)(P:Value)(xs a:List Int)(w:World)(L:gQ w lo g c xs)(O:yQ w B g P a)(N:xs.length=a.length)(l:xZ 1099511627776 xs)(m:xZ 1099511627776 a) :
  Calls prog 147 #[.slice (some ⟨g,0,none⟩) xs.length c,P,.func (.func 148) #[] #[]] w fun e w'=>e=.returned (.slice (some ⟨g,0,none⟩) xs.length c)/\gQ w' lo g c (List.zipWith (· + ·) xs a)/\w.grownBy w' (some g):=by
 have S:=qQ O;have R:=qQ L;have Q:=qQ N;have E:Hid ((List.zipWith (· + ·) xs a).length=xs.length):=by show _=_;rw[List.length_zipWith];omega
 have z:=qQ l;have A:=qQ m;obtain⟨_,_,_,V,I,_⟩:=L.inv;rw[mM] at I;obtain⟨ya,yc,rfl,X,Y,_⟩:=O;clear L N l m;go_enter func147,ntmps147;go_wp2
 go_loopw [10] (fun s' wr=>∃ (i:Nat),s' = int i64 (i:Int)/\i<=xs.length/\Hid (gQ wr lo g c ((List.zipWith (· + ·) xs a).take i++xs.drop i))/\Hid (w.grownBy wr (some g))) (fun s' _=>xs.length - (intOf s').toNat)
 case atStart=>exact⟨0,rfl,dQ _,by simpa [Hid] using R.out,qP _ _⟩
 case round =>
  obtain⟨i,rfl,hi,v,C⟩:=hrel;by_cases M:i<xs.length
  ·obtain⟨x,h⟩:=fX M
   have G:i<a.length:=by have:=Q.out;omega
   obtain⟨b,o,y,rfl,_,U,H,k,_,p⟩:=S.out.got G;have cy:wr.cell? ⟨b,o+i,none⟩=some (int i64 y):=C.out.cell p (by simpa using H);have cx:wr.cell? ⟨g,i,none⟩=some (int i64 x):=v.out.cell (bB E.out h);have fx:wr.frozen? ⟨g,i,none⟩=false:=v.out.fz i;have T:=z.out x (qX h);have F:=A.out y (qX k);have kt:=d6X x y wr.drew (by omega) (by omega)
   have j:Hid (gQ ((wr.setCell ⟨g,i,none⟩ (int i64 (x+y))).drew) lo g c ((List.zipWith (· + ·) xs a).take (i+1)++xs.drop (i+1))):=by
    have Z:(List.zipWith (· + ·) xs a)[i]? = some (x+y):=by rw[List.getElem?_zipWith,h,k]
    rw[<-aB E.out Z];exact(v.out.set i _).at (uQ _ _).drew
   have D:Hid (w.grownBy ((wr.setCell ⟨g,i,none⟩ (int i64 (x+y))).drew) (some g)):=kV (aX C.out _ _);clear h k p T F;go_wp2
   go_region_law (first|(go_simp;go_at_call 148;refine kt.mono ?_;rintro x3 w3 ⟨rfl,J⟩;subst J;go_wp2_with fail))
   all_goals
    go_wp2
    go_roundw
    case rel=>exact⟨i+1,by go_num,M,j,D⟩
    case measure=>simp[intOf];omega
  ·have j:Hid (gQ wr lo g c (List.zipWith (· + ·) xs a)):=by
    have:=v.out;rwa [nG (by omega),bG,gJ (by rw[E.out];omega)] at this
   go_wp2;go_ret;exact⟨rfl,j.out,C.out⟩
theorem d7Q (lo g c B:Nat)(P:Value)(xs a:List Int)(w:World)(L:gQ w lo g c xs)(O:yQ w B g P a)(N:xs.length=a.length)(l:xZ 1099511627776 xs)(m:xZ 1099511627776 a) :
  Calls prog 147 #[.slice (some ⟨g,0,none⟩) xs.length c,P,.func (.func 149) #[] #[]] w fun e w'=>e=.returned (.slice (some ⟨g,0,none⟩) xs.length c)/\gQ w' lo g c (List.zipWith (· - ·) xs a)/\w.grownBy w' (some g):=by
 have S:=qQ O;have R:=qQ L;have Q:=qQ N;have E:Hid ((List.zipWith (· - ·) xs a).length=xs.length):=by show _=_;rw[List.length_zipWith];omega
 have z:=qQ l;have A:=qQ m;obtain⟨_,_,_,V,I,_⟩:=L.inv;rw[mM] at I;obtain⟨ya,yc,rfl,X,Y,_⟩:=O;clear L N l m;go_enter func147,ntmps147;go_wp2
 go_loopw [10] (fun s' wr=>∃ (i:Nat),s' = int i64 (i:Int)/\i<=xs.length/\Hid (gQ wr lo g c ((List.zipWith (· - ·) xs a).take i++xs.drop i))/\Hid (w.grownBy wr (some g))) (fun s' _=>xs.length - (intOf s').toNat)
 case atStart=>exact⟨0,rfl,dQ _,by simpa [Hid] using R.out,qP _ _⟩
 case round =>
  obtain⟨i,rfl,hi,v,C⟩:=hrel;by_cases M:i<xs.length
  ·obtain⟨x,h⟩:=fX M
   have G:i<a.length:=by have:=Q.out;omega
   obtain⟨b,o,y,rfl,_,U,H,k,_,p⟩:=S.out.got G;have cy:wr.cell? ⟨b,o+i,none⟩=some (int i64 y):=C.out.cell p (by simpa using H);have cx:wr.cell? ⟨g,i,none⟩=some (int i64 x):=v.out.cell (bB E.out h);have fx:wr.frozen? ⟨g,i,none⟩=false:=v.out.fz i;have T:=z.out x (qX h);have F:=A.out y (qX k);have kt:=d6Z x y wr.drew (by omega) (by omega)
   have j:Hid (gQ ((wr.setCell ⟨g,i,none⟩ (int i64 (x - y))).drew) lo g c ((List.zipWith (· - ·) xs a).take (i+1)++xs.drop (i+1))):=by
    have Z:(List.zipWith (· - ·) xs a)[i]? = some (x - y):=by rw[List.getElem?_zipWith,h,k]
    rw[<-aB E.out Z];exact(v.out.set i _).at (uQ _ _).drew
   have D:Hid (w.grownBy ((wr.setCell ⟨g,i,none⟩ (int i64 (x - y))).drew) (some g)):=kV (aX C.out _ _);clear h k p T F;go_wp2
   go_region_law (first|(go_simp;go_at_call 149;refine kt.mono ?_;rintro x3 w3 ⟨rfl,J⟩;subst J;go_wp2_with fail))
   all_goals
    go_wp2
    go_roundw
    case rel=>exact⟨i+1,by go_num,M,j,D⟩
    case measure=>simp[intOf];omega
  ·have j:Hid (gQ wr lo g c (List.zipWith (· - ·) xs a)):=by
    have:=v.out;rwa [nG (by omega),bG,gJ (by rw[E.out];omega)] at this
   go_wp2;go_ret;exact⟨rfl,j.out,C.out⟩
theorem d7X (a g c N:Nat)(xs:List Int)(w:World)(D:gQ w a g c xs)(lo:Int)(l:xZ 1099511627776 xs)(H:w.cell? ⟨N,2,none⟩=some (int i64 lo))(B:-1048576<=lo/\lo<=1048576)(L:N≠g) :
  Calls prog 150 #[.slice (some ⟨g,0,none⟩) xs.length c,.func (.func 151) #[] #[.pointer (some ⟨N,0,none⟩)]] w fun e w'=>e=.returned (.slice (some ⟨g,0,none⟩) xs.length c)/\gQ w' a g c (xs.map (lo * ·))/\w.grownBy w' (some g):=by
 have J:=qQ D;have y:Hid ((xs.map (lo * ·)).length=xs.length):=by show _=_;simp
 have p:=qQ l;obtain⟨_,_,_,O,A,_⟩:=D.inv;rw[mM] at A;have I:=qQ H;clear H;clear D l;go_enter func150,ntmps150;go_wp2
 go_loopw [8] (fun s' wr=>∃ (i:Nat),s' = int i64 (i:Int)/\i<=xs.length/\Hid (gQ wr a g c ((xs.map (lo * ·)).take i++xs.drop i))/\Hid (w.grownBy wr (some g))) (fun s' _=>xs.length - (intOf s').toNat)
 case atStart=>exact⟨0,rfl,dQ _,by simpa [Hid] using J.out,qP _ _⟩
 case round =>
  obtain⟨i,rfl,M,o,v⟩:=hrel;by_cases G:i<xs.length
  ·obtain⟨x,j⟩:=fX G
   have P:wr.cell? ⟨g,i,none⟩=some (int i64 x):=o.out.cell (bB y.out j);have Q:wr.frozen? ⟨g,i,none⟩=false:=o.out.fz i;have F:=p.out x (qX j);have E:=times_any N lo x wr (v.out.cell I.out (by simpa using L)) B F
   have h:Hid (gQ (wr.setCell ⟨g,i,none⟩ (int i64 ((lo * ·) x))) a g c ((xs.map (lo * ·)).take (i+1)++xs.drop (i+1))):=by
    have m:(xs.map (lo * ·))[i]? = some ((lo * ·) x):=by rw[mV,j];rfl
    rw[<-aB y.out m];exact o.out.set i _
   have k:Hid (w.grownBy (wr.setCell ⟨g,i,none⟩ (int i64 ((lo * ·) x))) (some g)):=aX v.out _ _;clear j F;obtain⟨z,m⟩:∃ z,(lo * ·) x=z:=⟨_,rfl⟩;rw[m] at h k;rw[show(lo*x:Int)=z from m] at E;clear m;go_wp2_with fail;refine E.mono ?_;rintro e R ⟨rfl,C⟩;subst C;clear E;go_wp2
   go_roundw
   case rel=>exact⟨i+1,by go_num,G,h,k⟩
   case measure=>simp[intOf];omega
  ·have h:Hid (gQ wr a g c (xs.map (lo * ·))):=by
    have:=o.out;rwa [nG (by omega),bG,gJ (by rw[y.out];omega)] at this
   go_wp2;go_ret;exact⟨rfl,h.out,v.out⟩
theorem d7Z (a g c N:Nat)(xs:List Int)(w:World)(C:gQ w a g c xs)(lo hi:Int)(l:xZ 1099511627776 xs)(F:w.cell? ⟨N,2,none⟩=some (int i64 lo))(G:w.cell? ⟨N,3,none⟩=some (int i64 hi))(A:lo<=hi)(H:N≠g) :
  Calls prog 150 #[.slice (some ⟨g,0,none⟩) xs.length c,.func (.func 141) #[] #[.pointer (some ⟨N,0,none⟩)]] w fun e w'=>e=.returned (.slice (some ⟨g,0,none⟩) xs.length c)/\gQ w' a g c (xs.map (aJ lo hi))/\w.grownBy w' (some g):=by
 have M:=qQ C;have v:Hid ((xs.map (aJ lo hi)).length=xs.length):=by show _=_;simp
 have L:=qQ l;obtain⟨_,_,_,P,y,_⟩:=C.inv;rw[mM] at y;have Q:xs.length<=9223372036854775807:=by omega
 have I:=qQ F;have J:=qQ G;clear F G;clear C l;go_enter func150,ntmps150;go_wp2
 go_loopw [8] (fun s' wr=>∃ (i:Nat),s' = int i64 (i:Int)/\i<=xs.length/\Hid (gQ wr a g c ((xs.map (aJ lo hi)).take i++xs.drop i))/\Hid (w.grownBy wr (some g))) (fun s' _=>xs.length - (intOf s').toNat)
 case atStart=>exact⟨0,rfl,dQ _,by simpa [Hid] using M.out,qP _ _⟩
 case round =>
  obtain⟨i,rfl,O,o,p⟩:=hrel;by_cases E:i<xs.length
  ·obtain⟨x,j⟩:=fX E
   have R:wr.cell? ⟨g,i,none⟩=some (int i64 x):=o.out.cell (bB v.out j);have S:wr.frozen? ⟨g,i,none⟩=false:=o.out.fz i;have D:=xR N lo hi x wr (p.out.cell I.out (by simpa using H)) (p.out.cell J.out (by simpa using H)) A
   have h:Hid (gQ (wr.setCell ⟨g,i,none⟩ (int i64 ((aJ lo hi) x))) a g c ((xs.map (aJ lo hi)).take (i+1)++xs.drop (i+1))):=by
    have m:(xs.map (aJ lo hi))[i]? = some ((aJ lo hi) x):=by rw[mV,j];rfl
    rw[<-aB v.out m];exact o.out.set i _
   have k:Hid (w.grownBy (wr.setCell ⟨g,i,none⟩ (int i64 ((aJ lo hi) x))) (some g)):=aX p.out _ _;clear j;obtain⟨z,m⟩:∃ z,(aJ lo hi) x=z:=⟨_,rfl⟩;rw[m] at h k;rw[show(aJ lo hi x:Int)=z from m] at D;clear m;go_wp2_with fail;refine D.mono ?_;rintro e T ⟨rfl,B⟩;subst B;clear D;go_wp2
   go_roundw
   case rel=>exact⟨i+1,by go_num,E,h,k⟩
   case measure=>simp[intOf];omega
  ·have h:Hid (gQ wr a g c (xs.map (aJ lo hi))):=by
    have:=o.out;rwa [nG (by omega),bG,gJ (by rw[v.out];omega)] at this
   go_wp2;go_ret;exact⟨rfl,h.out,p.out⟩
structure Ab (W:World) (N:Nat) (cv rv:Value) (k:Int) (c:ByteArray) (lo hi:Int) (wv kv:Value):Prop where
 t0:Cl W N 0 cv
 t1:Cl W N 1 rv
 a0:Cl W (N+1) 0 (int i64 k)
 a1:Cl W (N+1) 1 (.string c)
 a2:Cl W (N+1) 2 (int i64 lo)
 a3:Cl W (N+1) 3 (int i64 hi)
 a4:Cl W (N+1) 4 wv
 a5:Cl W (N+1) 5 kv
 f0:Cl W (N+1+1) 0 (.func (.func 141) #[] #[.pointer (some ⟨N+1,0,none⟩)])
theorem Ab.at {rv:Value}{lo hi:Int}(h:Ab W N cv rv k c lo hi wv kv)(a:xQ W W'):Ab W' N cv rv k c lo hi wv kv :=
 ⟨h.t0.at a,h.t1.at a,h.a0.at a,h.a1.at a,h.a2.at a,h.a3.at a,h.a4.at a,h.a5.at a,h.f0.at a⟩
theorem Ab.new (w:World)(cv rv:Value)(k:Int)(c:ByteArray)(lo hi:Int)(wv kv:Value):Ab (((w.alloc (.cells #[cv,rv] 25)).alloc (.cells #[int i64 k,.string c,int i64 lo,int i64 hi,wv,kv] 53)).alloc (.cells #[.func (.func 141) #[] #[.pointer (some ⟨w.heap.size+1,0,none⟩)]] 220)) w.heap.size cv rv k c lo hi wv kv:=by
 constructor
 all_goals first
  | exact((Cl.new _ 25 _ _ rfl rfl).at (ba _ _)).at (ba _ _)
  | exact(Cl.new _ 53 _ _ (by simp) rfl).at (ba _ _)
  | exact Cl.new _ 220 _ _ (by simp) rfl
theorem jI (w:World)(a g h:Obj):xQ w (((w.alloc a).alloc g).alloc h):=bal (bal (ba _ _) _) _
theorem d7J (c:ByteArray)(lo hi:Int)(cv rv wv kv:Value)(w:World)(B:Nat)(l:List aQ)(ts:List Rw)(m:List cX)(hB:B<=w.heap.size)(y:kQ w B cv l)(z:nQ w B rv ts)(A:qZ w B wv m)(i:ts.length<=4096)(j:∀ r∈rr ts,zV l r)(v:∃ a n o,kv=.slice a n o)(k:pJ l m=0) :
  Calls prog 91 #[.agg #[cv,rv],.agg #[int i64 1,.string c,int i64 lo,int i64 hi,wv,kv]] w (eZ w (gat 1 (m.map (trp l)) (stp 1 0 0 0) (rr ts))):=by
 have ab:=Ab.new w cv rv 1 c lo hi wv kv;have h:=jI w (.cells #[cv,rv] 25) (.cells #[int i64 1,.string c,int i64 lo,int i64 hi,wv,kv] 53) (.cells #[.func (.func 141) #[] #[.pointer (some ⟨w.heap.size+1,0,none⟩)]] 220);have E:=d5Q B cv rv wv l ts m (((w.alloc (.cells #[cv,rv] 25)).alloc (.cells #[int i64 1,.string c,int i64 lo,int i64 hi,wv,kv] 53)).alloc (.cells #[.func (.func 141) #[] #[.pointer (some ⟨w.heap.size+1,0,none⟩)]] 220)) (bQ hB h.size) (y.at hB h) (z.at hB h) (A.at hB h) k i j;obtain⟨I,F,rfl,C,D⟩:=y.slice;obtain⟨M,N,rfl,_⟩:=z.slice;obtain⟨P,wc,rfl,_⟩:=A.slice;obtain⟨J,L,H,rfl⟩:=v;have hmf:=hmf;clear y z A j ab k;go_enter func91,ntmps91;go_wp2_with fail;refine E.mono ?_;rintro e O ⟨g,o,rfl,G,p⟩;clear E;go_wp2;go_ret;exact eZ.up ⟨g,o,rfl,G,p⟩ h
theorem d8Q (c:ByteArray)(lo hi:Int)(cv rv wv kv:Value)(w:World)(B:Nat)(l:List aQ)(ts:List Rw)(z:List cX)(hB:B<=w.heap.size)(y:kQ w B cv l)(H:nQ w B rv ts)(I:qZ w B wv z)(p:ts.length<=4096)(v:∀ r∈rr ts,zV l r)(G:∃ a n C,kv=.slice a n C)(J:pJ l z=0)(i:Nat)(F:fnd l c=some i)(L:wZ lo hi=true) :
  Calls prog 91 #[.agg #[cv,rv],.agg #[int i64 2,.string c,int i64 lo,int i64 hi,wv,kv]] w (eZ w (gat 1 (z.map (trp l)) (stp 2 i lo hi) (rr ts))):=by
 have ab:=Ab.new w cv rv 2 c lo hi wv kv;have k:=jI w (.cells #[cv,rv] 25) (.cells #[int i64 2,.string c,int i64 lo,int i64 hi,wv,kv] 53) (.cells #[.func (.func 141) #[] #[.pointer (some ⟨w.heap.size+1,0,none⟩)]] 220);have P:=uO B cv l c (((w.alloc (.cells #[cv,rv] 25)).alloc (.cells #[int i64 2,.string c,int i64 lo,int i64 hi,wv,kv] 53)).alloc (.cells #[.func (.func 141) #[] #[.pointer (some ⟨w.heap.size+1,0,none⟩)]] 220)) (bQ hB k.size) (y.at hB k) i F;have S:=qQ y;have T:=qQ H;have U:=qQ I;have A:=qQ v;have D:=iD F;obtain⟨Z,V,rfl,N,O⟩:=y.slice;obtain⟨ra,rc,rfl,_⟩:=H.slice;obtain⟨wa,wc,rfl,_⟩:=I.slice;obtain⟨ka,kn,Y,rfl⟩:=G;have hmf:=hmf;clear y H I v F;go_enter func91,ntmps91;go_wp2_with fail;refine P.mono ?_;rintro e R ⟨rfl,o⟩;clear P;have m:=bal o (.cells #[int i64 (i:Int)] 3);have h:=ab.at m;have j:=bt k m;have M:Cl (R.alloc (.cells #[int i64 (i:Int)] 3)) R.heap.size 0 (int i64 (i:Int)):=Cl.new _ 3 _ _ rfl rfl;have Q:=d5X B _ _ _ l ts z _ (bQ hB j.size) (S.out.at hB j) (T.out.at hB j) (U.out.at hB j) J p A.out _ _ _ i lo hi h.f0 M h.a2 h.a3 L D;have m0:=h.t0.c;have m1:=h.t1.c;have m2:=h.a4.c;clear ab h M o m k;go_wp2_with fail;refine Q.mono ?_;rintro e w3 ⟨g,C,rfl,X,E⟩;clear Q;go_wp2;go_ret;exact eZ.up ⟨g,C,rfl,X,E⟩ j
theorem d8X (c:ByteArray)(lo hi:Int)(cv rv wv kv:Value)(w:World)(B:Nat)(l:List aQ)(ts:List Rw)(E:List cX)(hB:B<=w.heap.size)(N:kQ w B cv l)(U:nQ w B rv ts)(V:qZ w B wv E)(J:ts.length<=4096)(M:∀ r∈rr ts,zV l r)(T:∃ a n cc,kv=.slice a n cc)(X:pJ l E=0)(g:Nat)(S:fnd l c=some g)(n:Nat)(hn:n<=4096)(L:pV l g = (n:Int)) :
  Calls prog 91 #[.agg #[cv,rv],.agg #[int i64 3,.string c,int i64 lo,int i64 hi,wv,kv]] w (eZ w (gat n (E.map (trp l)) (stp 3 g 0 0) (rr ts))):=by
 have ab:=Ab.new w cv rv 3 c lo hi wv kv;have y:=jI w (.cells #[cv,rv] 25) (.cells #[int i64 3,.string c,int i64 lo,int i64 hi,wv,kv] 53) (.cells #[.func (.func 141) #[] #[.pointer (some ⟨w.heap.size+1,0,none⟩)]] 220);have k1:=uO B cv l c (((w.alloc (.cells #[cv,rv] 25)).alloc (.cells #[int i64 3,.string c,int i64 lo,int i64 hi,wv,kv] 53)).alloc (.cells #[.func (.func 141) #[] #[.pointer (some ⟨w.heap.size+1,0,none⟩)]] 220)) (bQ hB y.size) (N.at hB y) g S;have HP:=qQ N;have HR:=qQ U;have HW:=qQ V;have O:=qQ M;have R:=iD S;have F:=qQ L;obtain⟨ca,H,rfl,a9,aa⟩:=N.slice;obtain⟨ra,rc,rfl,_⟩:=U.slice;obtain⟨wa,wc,rfl,_⟩:=V.slice;obtain⟨ka,kn,Y,rfl⟩:=T;have hmf:=hmf;clear N U V M S L;go_enter func91,ntmps91;go_wp2_with fail;refine k1.mono ?_;rintro e z ⟨rfl,I⟩;clear k1;have A:=bal I (.cells #[int i64 (g:Int)] 3);have G:=ab.at A;have C:=bt y A;have hI:Cl (z.alloc (.cells #[int i64 (g:Int)] 3)) z.heap.size 0 (int i64 (g:Int)):=Cl.new _ 3 _ _ rfl rfl;obtain⟨b,o,nm,sz,rfl,hb,D,c1,c2,aq⟩:=HP.out.get hB C R;obtain rfl:sz=(n:Int):=by have:=F.out;simpa [pV,D] using this
 obtain⟨h,m⟩:∃ h,z.alloc (.cells #[int i64 (g:Int)] 3)=h:=⟨_,rfl⟩;have k:xQ w h.drew:=by rw[<-m];exact C.drew
 have i:Ab h.drew w.heap.size (.slice (some ⟨b,o,none⟩) l.length H) (.slice ra ts.length rc) 3 c lo hi (.slice wa E.length wc) (.slice ka kn Y):=by rw[<-m];exact G.at (uQ _ _).drew
 have v:Cl h.drew z.heap.size 0 (int i64 (g:Int)):=by rw[<-m];exact hI.at (uQ _ _).drew
 have k2:=d5Z B _ _ _ l ts E n hn h.drew (bQ hB k.size) (HP.out.at hB k) (HR.out.at hB k) (HW.out.at hB k) X J O.out z.heap.size g (nm,(n:Int)) v D rfl;rw[m] at c1 c2 C;have m0:h.cell? ⟨w.heap.size,0,none⟩=_:=i.t0.c;have m1:h.cell? ⟨w.heap.size,1,none⟩=_:=i.t1.c;have m2:h.cell? ⟨w.heap.size+1,4,none⟩=_:=i.a4.c;have m3:h.cell? ⟨z.heap.size,0,none⟩=_:=v.c;have lN:w.heap.size<h.heap.size:=i.t0.lt;have Z:w.heap.size+1<h.heap.size:=i.a4.lt;have lI:z.heap.size<h.heap.size:=v.lt;have lb:b<h.heap.size:=lQ hb (bQ hB k.size);have an:(0:Int)<=(g:Int):=by omega
 have a8:(g:Int)<(l.length:Int):=by omega
 clear ab G hI I A y i v D F;go_wp2;clear m
 go_region_held3 (fun w'=>w'.cell? ⟨w.heap.size,0,none⟩=some (.slice (some ⟨b,o,none⟩) l.length H)/\w'.cell? ⟨w.heap.size,1,none⟩=some (.slice ra ts.length rc)/\w'.cell? ⟨w.heap.size+1,4,none⟩=some (.slice wa E.length wc)/\w'.cell? ⟨z.heap.size,0,none⟩=some (int i64 (g:Int))/\w'.cell? ⟨b,o+g * 2+1,none⟩=some (int i64 (n:Int))) (first|assumption|(simp[go_sem, *];done)) ((go_at_call 143;refine k2.mono ?_;rintro x3 w3 hA;obtain⟨g3,P,rfl,Q,j⟩:=hA;have z0:=(j.cell (p:=⟨w.heap.size,0,none⟩) lN).trans m0;have z1:=(j.cell (p:=⟨w.heap.size,1,none⟩) lN).trans m1;have z2:=(j.cell (p:=⟨w.heap.size+1,4,none⟩) Z).trans m2;have z3:=(j.cell (p:=⟨z.heap.size,0,none⟩) lI).trans m3;have z4:=(j.cell (p:=⟨b,o+g * 2+1,none⟩) lb).trans c2))
 go_wp2;go_ret;exact eZ.up ⟨g3,P,rfl,Q,j⟩ k
theorem dB {w1 w2:World}{c:Nat}(h:xQ w W)(a:xQ W w1)(k:W.heap.size<=g)(i:w1.grownBy w2 (some g))(j:gQ w2 W.heap.size g c xs):eZ w xs (.returned (.slice (some ⟨g,0,none⟩) xs.length c)) w2 :=
 ⟨g,c,rfl,j.mono h.size,(bt h a).trans (yF i (bQ h.size k) (bQ h.size a.size))⟩
theorem d8Z (c:ByteArray)(lo hi:Int)(cv rv wv:Value)(b o cap:Nat)(w:World)(B:Nat)(l:List aQ)(ts:List Rw)(wh:List cX)(hB:B<=w.heap.size)(E:kQ w B cv l)(F:nQ w B rv ts)(Z:qZ w B wv wh)(A:b<B)(x:Qu)(u0 u1 u2 u3 u4 u5:Value)(Y:rJ w b o u0 u1 u2 u3 u4 u5)(C:Qm w B x u0 u1 u2 u3 u4 u5)(xs:List Int)(kx:∀ W,xQ w W->Calls prog 91 #[.agg #[cv,rv],.agg #[u0,u1,u2,u3,u4,u5]] W (eZ W xs))(y:Qu)(z0 z1 G H I J:Value)(hz:rJ w b (o+6) z0 z1 G H I J)(D:Qm w B y z0 z1 G H I J)(h:List Int)(ky:∀ W,xQ w W->Calls prog 91 #[.agg #[cv,rv],.agg #[z0,z1,G,H,I,J]] W (eZ W h))(O:xZ 1099511627776 xs)(P:xZ 1099511627776 h)(X:xs.length=h.length) :
  Calls prog 91 #[.agg #[cv,rv],.agg #[int i64 4,.string c,int i64 lo,int i64 hi,wv,.slice (some ⟨b,o,none⟩) 2 cap]] w (eZ w (List.zipWith (· + ·) xs h)):=by
 have ab:=Ab.new w cv rv 4 c lo hi wv (.slice (some ⟨b,o,none⟩) 2 cap);have a:=jI w (.cells #[cv,rv] 25) (.cells #[int i64 4,.string c,int i64 lo,int i64 hi,wv,.slice (some ⟨b,o,none⟩) 2 cap] 53) (.cells #[.func (.func 141) #[] #[.pointer (some ⟨w.heap.size+1,0,none⟩)]] 220);obtain⟨j,v⟩:∃ j,(((w.alloc (.cells #[cv,rv] 25)).alloc (.cells #[int i64 4,.string c,int i64 lo,int i64 hi,wv,.slice (some ⟨b,o,none⟩) 2 cap] 53)).alloc (.cells #[.func (.func 141) #[] #[.pointer (some ⟨w.heap.size+1,0,none⟩)]] 220))=j:=⟨_,rfl⟩;rw[v] at ab a;have ae:=qQ v;have k1:=nM w.heap.size (w.heap.size+1) cv rv b o 2 cap (by omega) xs j ab.t0.c ab.t1.c ab.a5.c B x u0 u1 u2 u3 u4 u5 (Y.keep a (lQ A hB)) (C.at hB a) l ts (E.at hB a) (F.at hB a) (kx _ a.drew)
 have T:∀ i,xQ j i->Calls prog 142 #[int i64 1,.pointer (some ⟨w.heap.size,0,none⟩),.pointer (some ⟨w.heap.size+1,0,none⟩)] i (eZ i h):=fun i g =>
  adZ w.heap.size (w.heap.size+1) cv rv b o 2 cap (by omega) h i (ab.at g).t0.c (ab.at g).t1.c (ab.at g).a5.c B y z0 z1 G H I J (hz.keep (bt a g) (lQ A hB)) (D.at hB (bt a g)) l ts (E.at hB (bt a g)) (F.at hB (bt a g)) (ky _ (bt a g).drew)
 have L:=qQ ab;obtain⟨ca,af,rfl,_⟩:=E.slice;obtain⟨ra,rc,rfl,_⟩:=F.slice;obtain⟨wa,wc,rfl,_⟩:=Z.slice;have hmf:=hmf;have m0:=L.out.a0.c;clear E F Z Y C kx ab hz D ky;go_enter func91,ntmps91;have U:=qQ X;clear X;go_wp2_with fail;refine k1.mono ?_;rintro e i ⟨V,c1,rfl,k,g⟩;clear k1;have Q:=k.lt;have k2:=T i g;clear T;go_wp2_with fail;refine k2.mono ?_;rintro e w2 ⟨g2,c2,rfl,p,z⟩;clear k2;have ag:=p.lt;have m:=k.at z;have N:=bt g z;have k3:=d6J j.heap.size V c1 w2.heap.size _ xs h w2 m (p.ints V (by omega)) U.out O P;go_wp2_with fail;refine k3.mono ?_;rintro e w3 ⟨rfl,M,R⟩;clear k3;go_wp2;go_ret;have S:(List.zipWith (· + ·) xs h).length=xs.length:=by rw[List.length_zipWith];have:=U.out;omega
 have:=dB a N Q.1 R M;rw[S] at this;exact this
theorem d8J (c:ByteArray)(lo hi:Int)(cv rv wv:Value)(b o cap:Nat)(w:World)(B:Nat)(l:List aQ)(ts:List Rw)(wh:List cX)(hB:B<=w.heap.size)(E:kQ w B cv l)(F:nQ w B rv ts)(Z:qZ w B wv wh)(A:b<B)(x:Qu)(u0 u1 u2 u3 u4 u5:Value)(Y:rJ w b o u0 u1 u2 u3 u4 u5)(C:Qm w B x u0 u1 u2 u3 u4 u5)(xs:List Int)(kx:∀ W,xQ w W->Calls prog 91 #[.agg #[cv,rv],.agg #[u0,u1,u2,u3,u4,u5]] W (eZ W xs))(y:Qu)(z0 z1 G H I J:Value)(hz:rJ w b (o+6) z0 z1 G H I J)(D:Qm w B y z0 z1 G H I J)(h:List Int)(ky:∀ W,xQ w W->Calls prog 91 #[.agg #[cv,rv],.agg #[z0,z1,G,H,I,J]] W (eZ W h))(O:xZ 1099511627776 xs)(P:xZ 1099511627776 h)(X:xs.length=h.length) :
  Calls prog 91 #[.agg #[cv,rv],.agg #[int i64 5,.string c,int i64 lo,int i64 hi,wv,.slice (some ⟨b,o,none⟩) 2 cap]] w (eZ w (List.zipWith (· - ·) xs h)):=by
 have ab:=Ab.new w cv rv 5 c lo hi wv (.slice (some ⟨b,o,none⟩) 2 cap);have a:=jI w (.cells #[cv,rv] 25) (.cells #[int i64 5,.string c,int i64 lo,int i64 hi,wv,.slice (some ⟨b,o,none⟩) 2 cap] 53) (.cells #[.func (.func 141) #[] #[.pointer (some ⟨w.heap.size+1,0,none⟩)]] 220);obtain⟨j,v⟩:∃ j,(((w.alloc (.cells #[cv,rv] 25)).alloc (.cells #[int i64 5,.string c,int i64 lo,int i64 hi,wv,.slice (some ⟨b,o,none⟩) 2 cap] 53)).alloc (.cells #[.func (.func 141) #[] #[.pointer (some ⟨w.heap.size+1,0,none⟩)]] 220))=j:=⟨_,rfl⟩;rw[v] at ab a;have ae:=qQ v;have k1:=nM w.heap.size (w.heap.size+1) cv rv b o 2 cap (by omega) xs j ab.t0.c ab.t1.c ab.a5.c B x u0 u1 u2 u3 u4 u5 (Y.keep a (lQ A hB)) (C.at hB a) l ts (E.at hB a) (F.at hB a) (kx _ a.drew)
 have T:∀ i,xQ j i->Calls prog 142 #[int i64 1,.pointer (some ⟨w.heap.size,0,none⟩),.pointer (some ⟨w.heap.size+1,0,none⟩)] i (eZ i h):=fun i g =>
  adZ w.heap.size (w.heap.size+1) cv rv b o 2 cap (by omega) h i (ab.at g).t0.c (ab.at g).t1.c (ab.at g).a5.c B y z0 z1 G H I J (hz.keep (bt a g) (lQ A hB)) (D.at hB (bt a g)) l ts (E.at hB (bt a g)) (F.at hB (bt a g)) (ky _ (bt a g).drew)
 have L:=qQ ab;obtain⟨ca,af,rfl,_⟩:=E.slice;obtain⟨ra,rc,rfl,_⟩:=F.slice;obtain⟨wa,wc,rfl,_⟩:=Z.slice;have hmf:=hmf;have m0:=L.out.a0.c;clear E F Z Y C kx ab hz D ky;go_enter func91,ntmps91;have U:=qQ X;clear X;go_wp2_with fail;refine k1.mono ?_;rintro e i ⟨V,c1,rfl,k,g⟩;clear k1;have Q:=k.lt;have k2:=T i g;clear T;go_wp2_with fail;refine k2.mono ?_;rintro e w2 ⟨g2,c2,rfl,p,z⟩;clear k2;have ag:=p.lt;have m:=k.at z;have N:=bt g z;have k3:=d7Q j.heap.size V c1 w2.heap.size _ xs h w2 m (p.ints V (by omega)) U.out O P;go_wp2_with fail;refine k3.mono ?_;rintro e w3 ⟨rfl,M,R⟩;clear k3;go_wp2;go_ret;have S:(List.zipWith (· - ·) xs h).length=xs.length:=by rw[List.length_zipWith];have:=U.out;omega
 have:=dB a N Q.1 R M;rw[S] at this;exact this
theorem d9Q (c:ByteArray)(lo hi:Int)(cv rv wv:Value)(b o cap:Nat)(w:World)(B:Nat)(l:List aQ)(ts:List Rw)(P:List cX)(hB:B<=w.heap.size)(E:kQ w B cv l)(F:nQ w B rv ts)(H:qZ w B wv P)(y:b<B)(x:Qu)(u0 u1 u2 u3 u4 u5:Value)(G:rJ w b o u0 u1 u2 u3 u4 u5)(m:Qm w B x u0 u1 u2 u3 u4 u5)(xs:List Int)(kx:∀ W,xQ w W->Calls prog 91 #[.agg #[cv,rv],.agg #[u0,u1,u2,u3,u4,u5]] W (eZ W xs))(z:xZ 1099511627776 xs)(D:-1048576<=lo/\lo<=1048576) :
  Calls prog 91 #[.agg #[cv,rv],.agg #[int i64 6,.string c,int i64 lo,int i64 hi,wv,.slice (some ⟨b,o,none⟩) 1 cap]] w (eZ w (xs.map (lo * ·))):=by
 have ab:=Ab.new w cv rv 6 c lo hi wv (.slice (some ⟨b,o,none⟩) 1 cap);have a:=jI w (.cells #[cv,rv] 25) (.cells #[int i64 6,.string c,int i64 lo,int i64 hi,wv,.slice (some ⟨b,o,none⟩) 1 cap] 53) (.cells #[.func (.func 141) #[] #[.pointer (some ⟨w.heap.size+1,0,none⟩)]] 220);obtain⟨p,j⟩:∃ p,(((w.alloc (.cells #[cv,rv] 25)).alloc (.cells #[int i64 6,.string c,int i64 lo,int i64 hi,wv,.slice (some ⟨b,o,none⟩) 1 cap] 53)).alloc (.cells #[.func (.func 141) #[] #[.pointer (some ⟨w.heap.size+1,0,none⟩)]] 220))=p:=⟨_,rfl⟩;rw[j] at ab a;have L:=qQ j;have I:=nM w.heap.size (w.heap.size+1) cv rv b o 1 cap (by omega) xs p ab.t0.c ab.t1.c ab.a5.c B x u0 u1 u2 u3 u4 u5 (G.keep a (lQ y hB)) (m.at hB a) l ts (E.at hB a) (F.at hB a) (kx _ a.drew);have g:=qQ ab;obtain⟨Q,M,rfl,_⟩:=E.slice;obtain⟨S,T,rfl,_⟩:=F.slice;obtain⟨V,wc,rfl,_⟩:=H.slice;have hmf:=hmf;have R:=g.out.a0.c;clear E F H G m kx ab;go_enter func91,ntmps91;go_wp2_with fail;refine I.mono ?_;rintro e O ⟨N,c1,rfl,i,k⟩;clear I;have A:=i.lt;have h:=g.out.at k;have J:=d7X p.heap.size N c1 (w.heap.size+1) xs O i lo z h.a2.c D (by have:=g.out.a2.lt;omega);clear h;go_wp2_with fail;refine J.mono ?_;rintro e U ⟨rfl,v,C⟩;clear J;go_wp2;go_ret;have:=dB a k A.1 C v;rw[pA] at this;exact this
theorem d9X (c:ByteArray)(lo hi:Int)(cv rv wv:Value)(b o cap:Nat)(w:World)(B:Nat)(l:List aQ)(ts:List Rw)(wh:List cX)(hB:B<=w.heap.size)(O:kQ w B cv l)(P:nQ w B rv ts)(hw:qZ w B wv wh)(H:b<B)(x:Qu)(u0 u1 u2 u3 u4 u5:Value)(Q:rJ w b o u0 u1 u2 u3 u4 u5)(L:Qm w B x u0 u1 u2 u3 u4 u5)(xs:List Int)(kx:∀ W,xQ w W->Calls prog 91 #[.agg #[cv,rv],.agg #[u0,u1,u2,u3,u4,u5]] W (eZ W xs))(y:Qu)(z0 z1 R S T U:Value)(hz:rJ w b (o+6) z0 z1 R S T U)(M:Qm w B y z0 z1 R S T U)(m:List Int)(ky:∀ W,xQ w W->Calls prog 91 #[.agg #[cv,rv],.agg #[z0,z1,R,S,T,U]] W (eZ W m))(hl:xs.length+m.length<=1048576) :
  Calls prog 91 #[.agg #[cv,rv],.agg #[int i64 7,.string c,int i64 lo,int i64 hi,wv,.slice (some ⟨b,o,none⟩) 2 cap]] w (eZ w (xs++m)):=by
 have ab:=Ab.new w cv rv 7 c lo hi wv (.slice (some ⟨b,o,none⟩) 2 cap);have a:=jI w (.cells #[cv,rv] 25) (.cells #[int i64 7,.string c,int i64 lo,int i64 hi,wv,.slice (some ⟨b,o,none⟩) 2 cap] 53) (.cells #[.func (.func 141) #[] #[.pointer (some ⟨w.heap.size+1,0,none⟩)]] 220);obtain⟨A,F⟩:∃ A,(((w.alloc (.cells #[cv,rv] 25)).alloc (.cells #[int i64 7,.string c,int i64 lo,int i64 hi,wv,.slice (some ⟨b,o,none⟩) 2 cap] 53)).alloc (.cells #[.func (.func 141) #[] #[.pointer (some ⟨w.heap.size+1,0,none⟩)]] 220))=A:=⟨_,rfl⟩;rw[F] at ab a;have am:=qQ F;have k1:=nM w.heap.size (w.heap.size+1) cv rv b o 2 cap (by omega) xs A ab.t0.c ab.t1.c ab.a5.c B x u0 u1 u2 u3 u4 u5 (Q.keep a (lQ H hB)) (L.at hB a) l ts (O.at hB a) (P.at hB a) (kx _ a.drew)
 have HK:∀ v,xQ A v->Calls prog 142 #[int i64 1,.pointer (some ⟨w.heap.size,0,none⟩),.pointer (some ⟨w.heap.size+1,0,none⟩)] v (eZ v m):=fun v g =>
  adZ w.heap.size (w.heap.size+1) cv rv b o 2 cap (by omega) m v (ab.at g).t0.c (ab.at g).t1.c (ab.at g).a5.c B y z0 z1 R S T U (hz.keep (bt a g) (lQ H hB)) (M.at hB (bt a g)) l ts (O.at hB (bt a g)) (P.at hB (bt a g)) (ky _ (bt a g).drew)
 have X:=qQ ab;obtain⟨ca,an,rfl,_⟩:=O.slice;obtain⟨ra,rc,rfl,_⟩:=P.slice;obtain⟨wa,wc,rfl,_⟩:=hw.slice;have hmf:=hmf;have m0:=X.out.a0.c;clear O P hw Q L kx ab hz M ky;go_enter func91,ntmps91;obtain⟨i0,a6,a7,a8,a9⟩:=pZ rH;have HL:=qQ hl;clear hl;go_wp2_with fail;refine k1.mono ?_;rintro e v ⟨g1,c1,rfl,p,g⟩;clear k1;have Z:=p.lt;have k2:=HK v g;clear HK;go_wp2_with fail;refine k2.mono ?_;rintro e w2 ⟨g2,c2,rfl,D,G⟩;clear k2;have j:=p.at G;have I:=bt g G;have V:=qQ D;have C:=qQ j;have N:=qQ I.size;clear p D j;go_wp2_with (at_builtin;refine qF _ rfl _ _ 35 rfl A.heap.size 3 i0 (int i64 0) 1 8 underlying35 a6 a7 a8 a9 rfl (by decide) _ _ _ rfl C.out ⟨g2,0,none⟩ m.length c2 (m.map (int i64)) rfl ?q1 ?q2 ?q3 ?q4 ?q5 ?q6 ?_)
 case q1=>simp
 case q2=>exact World.ownsRow.cells V.out rfl
 case q3=>intro u Q;obtain⟨z,_,rfl⟩:=iJ.1 Q;rfl
 case q4=>have:=HL.out;simp[maxLen];omega
 case q5=>have:=HL.out;omega
 case q6=>exact N.out
 intro v3 w3 h i k;obtain⟨g3,c3,rfl,aq,_⟩:=cdQ h k;have Y:gQ w3 A.heap.size g3 c3 (xs++m):=by simpa [gQ] using h
 have J:xQ w w3:=(bt a I).trans (yF (E:=g1) i (bQ a.size Z.1) (bQ a.size N.out));clear i k h;go_wp2;go_ret;exact⟨g3,c3,by rw[sY];rfl,Y.mono a.size,J⟩
theorem d9Z (c:ByteArray)(lo hi:Int)(cv rv wv:Value)(b o cap:Nat)(w:World)(B:Nat)(l:List aQ)(ts:List Rw)(N:List cX)(hB:B<=w.heap.size)(z:kQ w B cv l)(A:nQ w B rv ts)(E:qZ w B wv N)(v:b<B)(x:Qu)(u0 u1 u2 u3 u4 u5:Value)(D:rJ w b o u0 u1 u2 u3 u4 u5)(j:Qm w B x u0 u1 u2 u3 u4 u5)(xs:List Int)(kx:∀ W,xQ w W->Calls prog 91 #[.agg #[cv,rv],.agg #[u0,u1,u2,u3,u4,u5]] W (eZ W xs))(y:xZ 1099511627776 xs)(L:xs.length<=4096) :
  Calls prog 91 #[.agg #[cv,rv],.agg #[int i64 8,.string c,int i64 lo,int i64 hi,wv,.slice (some ⟨b,o,none⟩) 1 cap]] w (eZ w ([xA xs])):=by
 have ab:=Ab.new w cv rv 8 c lo hi wv (.slice (some ⟨b,o,none⟩) 1 cap);have a:=jI w (.cells #[cv,rv] 25) (.cells #[int i64 8,.string c,int i64 lo,int i64 hi,wv,.slice (some ⟨b,o,none⟩) 1 cap] 53) (.cells #[.func (.func 141) #[] #[.pointer (some ⟨w.heap.size+1,0,none⟩)]] 220);obtain⟨p,h⟩:∃ p,(((w.alloc (.cells #[cv,rv] 25)).alloc (.cells #[int i64 8,.string c,int i64 lo,int i64 hi,wv,.slice (some ⟨b,o,none⟩) 1 cap] 53)).alloc (.cells #[.func (.func 141) #[] #[.pointer (some ⟨w.heap.size+1,0,none⟩)]] 220))=p:=⟨_,rfl⟩;rw[h] at ab a;have H:=qQ h;have F:=nM w.heap.size (w.heap.size+1) cv rv b o 1 cap (by omega) xs p ab.t0.c ab.t1.c ab.a5.c B x u0 u1 u2 u3 u4 u5 (D.keep a (lQ v hB)) (j.at hB a) l ts (z.at hB a) (A.at hB a) (kx _ a.drew);have m:=qQ ab;obtain⟨O,I,rfl,_⟩:=z.slice;obtain⟨R,S,rfl,_⟩:=A.slice;obtain⟨T,wc,rfl,_⟩:=E.slice;have hmf:=hmf;have Q:=m.out.a0.c;clear z A E D j kx ab;go_enter func91,ntmps91;go_wp2_with fail;refine F.mono ?_;rintro e k ⟨P,c1,rfl,g,i⟩;clear F;have J:=g.lt;have G:=b7 k.heap.size k.heap.size _ xs k (vQ _) (g.ints k.heap.size (by omega)) L y _ rfl;go_wp2_with fail;refine G.mono ?_;rintro e M ⟨rfl,C⟩;subst C;clear G;go_wp2;go_ret;exact⟨M.heap.size,1,rfl,gQ.lit _ _ _ (bQ a.size i.size),bt a (bal i _)⟩
theorem d9J (c:ByteArray)(lo hi:Int)(cv rv wv:Value)(b o cap:Nat)(w:World)(B:Nat)(l:List aQ)(ts:List Rw)(T:List cX)(hB:B<=w.heap.size)(C:kQ w B cv l)(D:nQ w B rv ts)(M:qZ w B wv T)(y:b<B)(x:Qu)(u0 u1 u2 u3 u4 u5:Value)(L:rJ w b o u0 u1 u2 u3 u4 u5)(m:Qm w B x u0 u1 u2 u3 u4 u5)(xs:List Int)(kx:∀ W,xQ w W->Calls prog 91 #[.agg #[cv,rv],.agg #[u0,u1,u2,u3,u4,u5]] W (eZ W xs))(j:Nat)(z:Int)(A:lo=(j:Int))(H:xs[j]? = some z) :
  Calls prog 91 #[.agg #[cv,rv],.agg #[int i64 9,.string c,int i64 lo,int i64 hi,wv,.slice (some ⟨b,o,none⟩) 1 cap]] w (eZ w ([z])):=by
 subst A;have ab:=Ab.new w cv rv 9 c (j:Int) hi wv (.slice (some ⟨b,o,none⟩) 1 cap);have a:=jI w (.cells #[cv,rv] 25) (.cells #[int i64 9,.string c,int i64 (j:Int),int i64 hi,wv,.slice (some ⟨b,o,none⟩) 1 cap] 53) (.cells #[.func (.func 141) #[] #[.pointer (some ⟨w.heap.size+1,0,none⟩)]] 220);obtain⟨i,k⟩:∃ i,(((w.alloc (.cells #[cv,rv] 25)).alloc (.cells #[int i64 9,.string c,int i64 (j:Int),int i64 hi,wv,.slice (some ⟨b,o,none⟩) 1 cap] 53)).alloc (.cells #[.func (.func 141) #[] #[.pointer (some ⟨w.heap.size+1,0,none⟩)]] 220))=i:=⟨_,rfl⟩;rw[k] at ab a;have N:=qQ k;have g:=qQ ab;obtain⟨U,O,rfl,_⟩:=C.slice;obtain⟨Z,rc,rfl,_⟩:=D.slice;obtain⟨wa,wc,rfl,_⟩:=M.slice;have hmf:=hmf;have V:=g.out.a0.c;have E:=nM w.heap.size (w.heap.size+1) _ _ b o 1 cap (by omega) xs i.drew g.out.t0.c g.out.t1.c g.out.a5.c B x u0 u1 u2 u3 u4 u5 (L.keep a.drew (lQ y hB)) (m.at hB a.drew) l ts (C.at hB a.drew) (D.at hB a.drew) (kx _ a.drew.drew);clear C D M L m kx ab;go_enter func91,ntmps91;have a2:=g.out.a2.c;have S:=g.out.a2.lt;have R:j<xs.length:=(fQ.1 H).1;have I:(0:Int)<=(j:Int):=by omega
 have J:(j:Int)<(xs.length:Int):=by omega
 have F:Calls prog 142 #[int i64 0,.pointer (some ⟨w.heap.size,0,none⟩),.pointer (some ⟨w.heap.size+1,0,none⟩)] i.drew (eZ i.drew xs):=E;go_wp2
 go_region_law (first|(go_simp;go_at_call 142;refine F.mono ?_;rintro x3 G Q;obtain⟨P,c1,rfl,v,h⟩:=Q;have X:G.cell? ⟨P,j,none⟩=some (int i64 z):=v.cell H;have Y:G.cell? ⟨w.heap.size+1,2,none⟩=some (int i64 (j:Int)):=(h.cell (p:=⟨w.heap.size+1,2,none⟩) S).trans a2;go_wp2_with fail))
 all_goals
  go_wp2;go_ret;exact⟨G.heap.size,1,rfl,gQ.lit _ _ _ (bQ a.drew.size h.size),bt a.drew (bal h _)⟩
theorem eaQ (c:ByteArray)(lo hi:Int)(cv rv wv:Value)(b o cap:Nat)(w:World)(B:Nat)(l:List aQ)(ts:List Rw)(R:List cX)(hB:B<=w.heap.size)(E:kQ w B cv l)(F:nQ w B rv ts)(I:qZ w B wv R)(z:b<B)(x:Qu)(u0 u1 u2 u3 u4 u5:Value)(H:rJ w b o u0 u1 u2 u3 u4 u5)(m:Qm w B x u0 u1 u2 u3 u4 u5)(xs:List Int)(kx:∀ W,xQ w W->Calls prog 91 #[.agg #[cv,rv],.agg #[u0,u1,u2,u3,u4,u5]] W (eZ W xs))(A:xZ 1099511627776 xs)(D:lo<=hi) :
  Calls prog 91 #[.agg #[cv,rv],.agg #[int i64 10,.string c,int i64 lo,int i64 hi,wv,.slice (some ⟨b,o,none⟩) 1 cap]] w (eZ w (xs.map (aJ lo hi))):=by
 have ab:=Ab.new w cv rv 10 c lo hi wv (.slice (some ⟨b,o,none⟩) 1 cap);have g:=jI w (.cells #[cv,rv] 25) (.cells #[int i64 10,.string c,int i64 lo,int i64 hi,wv,.slice (some ⟨b,o,none⟩) 1 cap] 53) (.cells #[.func (.func 141) #[] #[.pointer (some ⟨w.heap.size+1,0,none⟩)]] 220);obtain⟨v,k⟩:∃ v,(((w.alloc (.cells #[cv,rv] 25)).alloc (.cells #[int i64 10,.string c,int i64 lo,int i64 hi,wv,.slice (some ⟨b,o,none⟩) 1 cap] 53)).alloc (.cells #[.func (.func 141) #[] #[.pointer (some ⟨w.heap.size+1,0,none⟩)]] 220))=v:=⟨_,rfl⟩;rw[k] at ab g;have L:=qQ k;have a:=qQ ab;obtain⟨S,M,rfl,_⟩:=E.slice;obtain⟨V,X,rfl,_⟩:=F.slice;obtain⟨Z,wc,rfl,_⟩:=I.slice;have hmf:=hmf;have T:=a.out.a0.c;have G:=nM w.heap.size (w.heap.size+1) _ _ b o 1 cap (by omega) xs v.drew a.out.t0.c a.out.t1.c a.out.a5.c B x u0 u1 u2 u3 u4 u5 (H.keep g.drew (lQ z hB)) (m.at hB g.drew) l ts (E.at hB g.drew) (F.at hB g.drew) (kx _ g.drew.drew);clear E F I H m kx ab;go_enter func91,ntmps91;have f0:=a.out.f0.c;have Q:=a.out.f0.lt;go_wp2
 go_region_law (first|(go_simp;go_at_call 142;refine G.mono ?_;rintro x3 J O;obtain⟨N,c1,rfl,h,i⟩:=O;have U:J.cell? ⟨w.heap.size+1+1,0,none⟩=some (.func (.func 141) #[] #[.pointer (some ⟨w.heap.size+1,0,none⟩)]):=(i.cell (p:=⟨w.heap.size+1+1,0,none⟩) Q).trans f0;go_wp2_with fail)|(go_simp;go_at_call 150;refine(d7Z v.drew.heap.size N c1 (w.heap.size+1) xs J h lo hi A ((a.out.at (uQ _ _).drew).at i).a2.c ((a.out.at (uQ _ _).drew).at i).a3.c D (by have:=a.out.a2.lt;have:=h.lt.1;intro e;subst e;exact Nat.lt_irrefl _ (lQ a.out.a2.lt h.lt.1))).mono ?_;rintro x4 Y P;obtain⟨rfl,y,C⟩:=P;go_wp2_with fail))
 all_goals
  go_wp2;go_ret;have j:=dB g.drew i h.lt.1 C y;rw[pA] at j;exact j
