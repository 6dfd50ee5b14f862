import Derived.Test.YtdceajgpolckiaaGreatDoorQq22
open Go.Proofs.Tryz
set_option linter.unusedSimpArgs false
set_option maxHeartbeats 16000000
set_option maxRecDepth 100000
namespace Go.Proofs.YtdceajgpolckiaaGreatDoor
namespace K
open Go.RowKit K.Ds
theorem chQ (x y:Int)(w:World)(hx:-1152921504606846976<=x/\x<=1152921504606846976)(hy:-1152921504606846976<=y/\y<=1152921504606846976) :
  Calls prog 133 #[.int .i64 x,.int .i64 y] w fun e w'=>e=.returned (.int .i64 (x+y))/\w' = w:=by
 obtain⟨a1,a2⟩:=hx;obtain⟨b1,b2⟩:=hy;go_enter func133,ntmps133;go_wp2;go_ret;exact⟨rfl,rfl⟩
theorem chX (x y:Int)(w:World)(hx:-1152921504606846976<=x/\x<=1152921504606846976)(hy:-1152921504606846976<=y/\y<=1152921504606846976) :
  Calls prog 134 #[.int .i64 x,.int .i64 y] w fun e w'=>e=.returned (.int .i64 (x - y))/\w' = w:=by
 obtain⟨a1,a2⟩:=hx;obtain⟨b1,b2⟩:=hy;go_enter func134,ntmps134;go_wp2;go_ret;exact⟨rfl,rfl⟩
theorem oH (N:Nat)(lo x:Int)(w:World)(h2:w.cell? ⟨N,2,none⟩=some (.int .i64 lo))(hl:-1048576<=lo/\lo<=1048576)(hx:-1099511627776<=x/\x<=1099511627776) :
  Calls prog 136 #[.int .i64 x,.pointer (some ⟨N,0,none⟩)] w fun e w'=>e=.returned (.int .i64 (lo*x))/\w' = w:=by
 have hm:=abX hl hx;have hw:wrap64 (lo*x)=lo*x:=kK (by omega);go_enter func136,ntmps136;go_wp2;go_ret;exact⟨rfl,rfl⟩
theorem nS (B nb:Nat)(v:Value)(xs:List Int)(w:World)(hB:B<=w.heap.size)(hx:zQ w B nb v xs)(hl:xs.length<=4096)(hbd:mX 1099511627776 xs)(r:Int)(hr:mG xs=r) :
  Calls prog 137 #[v] w fun e w'=>e=.returned (.int .i64 r)/\w' = w:=by
 have HX:Hid (zQ w B nb v xs):=hx;have HR:Hid (mG xs=r):=hr;have HB:Hid (mX 1099511627776 xs):=hbd;obtain⟨a,c,rfl,_⟩:=hx;clear hr hbd;go_enter func137,ntmps137;go_wp2
 go_loopw [3,8] (fun t s' wr=>∃ (i:Nat) (k:Int),t=.int .i64 k/\s' = .int .i64 (i:Int)/\i<=xs.length/\Hid (k+mG (xs.drop i)=r)/\Hid (-(i*1099511627776)<=k/\k<=i*1099511627776)/\wr=w) (fun _ s' _=>xs.length - (intOf s').toNat)
 case atStart=>exact⟨0,0,rfl,rfl,nQ _,by show _=_;rw[rM,Int.zero_add];exact HR.out,by show _/\_;omega,rfl⟩
 case round =>
  obtain⟨i,k,rfl,rfl,hi,HI,HK,rfl⟩:=hrel;by_cases h1:i<xs.length
  ·obtain⟨b,o,x,rfl,_,hb,hn,hg,hgd,hcell⟩:=HX.out.got h1
   have hxb:=HB.out x (uX hg);obtain⟨k1,k2⟩:=HK.out;have b1:-9223372036854775808<=k+x:=by omega
   have b2:k+x<=9223372036854775807:=by omega
   have HI2:Hid (k+x+mG (xs.drop (i+1))=r):=by
    show _=_
    rw[<-HI.out,zU h1,(lQ.1 hg).2];simp only[mG];omega
   have HK2:Hid (-((i+1:Nat)*1099511627776)<=k+x/\k+x<=(i+1:Nat)*1099511627776):=by show _/\_;omega
   clear hg hgd k1 k2 hxb;go_wp2
   go_roundw
   case rel=>exact⟨i+1,k+x,rfl,by go_num,h1,HI2,HK2,trivial⟩
   case measure=>simp[intOf];omega
  ·obtain rfl:k=r:=by have:=HI.out;rw[bH (by omega)] at this;simpa [mG] using this
   go_wp2;go_ret;exact⟨rfl,rfl⟩
theorem gP {xs zs:List Int}{i:Nat}{z:Int}(hl:zs.length=xs.length)(hz:zs[i]? = some z):(zs.take i++xs.drop i).set i z=zs.take (i+1)++xs.drop (i+1):=by
 have hi:i<zs.length:=(lQ.1 hz).1;rw[iO _ _ (by rw[lU];omega),lU,Nat.min_eq_left (by omega),uK,kZ,hz,show xs.drop i=xs[i]::xs.drop (i+1) from zU (by omega),List.set_cons_zero,List.append_assoc];rfl
theorem iP {xs zs:List Int}{i:Nat}{x:Int}(hl:zs.length=xs.length)(hx:xs[i]? = some x):(zs.take i++xs.drop i)[i]? = some x:=by
 have hi:i<xs.length:=(lQ.1 hx).1;rw[dH (by rw[lU];omega),lU,Nat.min_eq_left (by omega),uK,kF,xN,hx]
theorem chZ (lo g c B:Nat)(yv:Value)(xs ys:List Int)(w:World)(hx:gQ w lo g c xs)(hy:zQ w B g yv ys)(hl:xs.length=ys.length)(hbx:mX 1099511627776 xs)(hby:mX 1099511627776 ys) :
  Calls prog 132 #[.slice (some ⟨g,0,none⟩) xs.length c,yv,.func (.func 133) #[] #[]] w fun e w'=>e=.returned (.slice (some ⟨g,0,none⟩) xs.length c)/\gQ w' lo g c (List.zipWith (· + ·) xs ys)/\w.grownBy w' (some g):=by
 have HY:Hid (zQ w B g yv ys):=hy;have HX:Hid (gQ w lo g c xs):=hx;have HL:Hid (xs.length=ys.length):=hl;have HZ:Hid ((List.zipWith (· + ·) xs ys).length=xs.length):=by show _=_;rw[List.length_zipWith];omega
 have HBX:Hid (mX 1099511627776 xs):=hbx;have HBY:Hid (mX 1099511627776 ys):=hby;obtain⟨_,_,_,hxc,hcm,_⟩:=hx.inv;rw[mK] at hcm;obtain⟨ya,yc,rfl,hyc,hyl,_⟩:=hy;have hxl:xs.length<=9223372036854775807:=by omega
 clear hx hl hbx hby;go_enter func132,ntmps132;go_wp2
 go_loopw [10] (fun s' wr=>∃ (i:Nat),s' = .int .i64 (i:Int)/\i<=xs.length/\Hid (gQ wr lo g c ((List.zipWith (· + ·) xs ys).take i++xs.drop i))/\Hid (w.grownBy wr (some g))) (fun s' _=>xs.length - (intOf s').toNat)
 case atStart=>exact⟨0,rfl,nQ _,by simpa [Hid] using HX.out,oO _ _⟩
 case round =>
  obtain⟨i,rfl,hi,HA,HG⟩:=hrel;by_cases h1:i<xs.length
  ·obtain⟨x,hgx⟩:=wX h1
   have h1y:i<ys.length:=by have:=HL.out;omega
   obtain⟨b,o,y,rfl,_,hbB,hbn,hgy,_,hcy⟩:=HY.out.got h1y;have cy:wr.cell? ⟨b,o+i,none⟩=some (.int .i64 y):=HG.out.cell hcy (by simpa using hbn);have cx:wr.cell? ⟨g,i,none⟩=some (.int .i64 x):=HA.out.cell (iP HZ.out hgx);have fx:wr.frozen? ⟨g,i,none⟩=false:=HA.out.fz i;have bx:=HBX.out x (uX hgx);have b_y:=HBY.out y (uX hgy);have kt:=chQ x y wr.drew (by omega) (by omega)
   have HA2:Hid (gQ ((wr.setCell ⟨g,i,none⟩ (.int .i64 (x+y))).drew) lo g c ((List.zipWith (· + ·) xs ys).take (i+1)++xs.drop (i+1))):=by
    have hz:(List.zipWith (· + ·) xs ys)[i]? = some (x+y):=by rw[List.getElem?_zipWith,hgx,hgy]
    rw[<-gP HZ.out hz];exact(HA.out.set i _).at (aQ _ _).drew
   have HG2:Hid (w.grownBy ((wr.setCell ⟨g,i,none⟩ (.int .i64 (x+y))).drew) (some g)):=fJ (sQ HG.out _ _);clear hgx hgy hcy bx b_y;go_wp2
   go_region_law (first|(go_simp;go_at_call 133;refine kt.mono ?_;rintro x3 w3 ⟨rfl,hw3⟩;subst hw3;go_wp2_with fail))
   all_goals
    go_wp2
    go_roundw
    case rel=>exact⟨i+1,by go_num,h1,HA2,HG2⟩
    case measure=>simp[intOf];omega
  ·have HA2:Hid (gQ wr lo g c (List.zipWith (· + ·) xs ys)):=by
    have:=HA.out;rwa [bH (by omega),xD,fV (by rw[HZ.out];omega)] at this
   go_wp2;go_ret;exact⟨rfl,HA2.out,HG.out⟩
theorem chJ (lo g c B:Nat)(yv:Value)(xs ys:List Int)(w:World)(hx:gQ w lo g c xs)(hy:zQ w B g yv ys)(hl:xs.length=ys.length)(hbx:mX 1099511627776 xs)(hby:mX 1099511627776 ys) :
  Calls prog 132 #[.slice (some ⟨g,0,none⟩) xs.length c,yv,.func (.func 134) #[] #[]] w fun e w'=>e=.returned (.slice (some ⟨g,0,none⟩) xs.length c)/\gQ w' lo g c (List.zipWith (· - ·) xs ys)/\w.grownBy w' (some g):=by
 have HY:Hid (zQ w B g yv ys):=hy;have HX:Hid (gQ w lo g c xs):=hx;have HL:Hid (xs.length=ys.length):=hl;have HZ:Hid ((List.zipWith (· - ·) xs ys).length=xs.length):=by show _=_;rw[List.length_zipWith];omega
 have HBX:Hid (mX 1099511627776 xs):=hbx;have HBY:Hid (mX 1099511627776 ys):=hby;obtain⟨_,_,_,hxc,hcm,_⟩:=hx.inv;rw[mK] at hcm;obtain⟨ya,yc,rfl,hyc,hyl,_⟩:=hy;have hxl:xs.length<=9223372036854775807:=by omega
 clear hx hl hbx hby;go_enter func132,ntmps132;go_wp2
 go_loopw [10] (fun s' wr=>∃ (i:Nat),s' = .int .i64 (i:Int)/\i<=xs.length/\Hid (gQ wr lo g c ((List.zipWith (· - ·) xs ys).take i++xs.drop i))/\Hid (w.grownBy wr (some g))) (fun s' _=>xs.length - (intOf s').toNat)
 case atStart=>exact⟨0,rfl,nQ _,by simpa [Hid] using HX.out,oO _ _⟩
 case round =>
  obtain⟨i,rfl,hi,HA,HG⟩:=hrel;by_cases h1:i<xs.length
  ·obtain⟨x,hgx⟩:=wX h1
   have h1y:i<ys.length:=by have:=HL.out;omega
   obtain⟨b,o,y,rfl,_,hbB,hbn,hgy,_,hcy⟩:=HY.out.got h1y;have cy:wr.cell? ⟨b,o+i,none⟩=some (.int .i64 y):=HG.out.cell hcy (by simpa using hbn);have cx:wr.cell? ⟨g,i,none⟩=some (.int .i64 x):=HA.out.cell (iP HZ.out hgx);have fx:wr.frozen? ⟨g,i,none⟩=false:=HA.out.fz i;have bx:=HBX.out x (uX hgx);have b_y:=HBY.out y (uX hgy);have kt:=chX x y wr.drew (by omega) (by omega)
   have HA2:Hid (gQ ((wr.setCell ⟨g,i,none⟩ (.int .i64 (x - y))).drew) lo g c ((List.zipWith (· - ·) xs ys).take (i+1)++xs.drop (i+1))):=by
    have hz:(List.zipWith (· - ·) xs ys)[i]? = some (x - y):=by rw[List.getElem?_zipWith,hgx,hgy]
    rw[<-gP HZ.out hz];exact(HA.out.set i _).at (aQ _ _).drew
   have HG2:Hid (w.grownBy ((wr.setCell ⟨g,i,none⟩ (.int .i64 (x - y))).drew) (some g)):=fJ (sQ HG.out _ _);clear hgx hgy hcy bx b_y;go_wp2
   go_region_law (first|(go_simp;go_at_call 134;refine kt.mono ?_;rintro x3 w3 ⟨rfl,hw3⟩;subst hw3;go_wp2_with fail))
   all_goals
    go_wp2
    go_roundw
    case rel=>exact⟨i+1,by go_num,h1,HA2,HG2⟩
    case measure=>simp[intOf];omega
  ·have HA2:Hid (gQ wr lo g c (List.zipWith (· - ·) xs ys)):=by
    have:=HA.out;rwa [bH (by omega),xD,fV (by rw[HZ.out];omega)] at this
   go_wp2;go_ret;exact⟨rfl,HA2.out,HG.out⟩
theorem ciQ (lo0 g c N:Nat)(xs:List Int)(w:World)(hx:gQ w lo0 g c xs)(lo:Int)(hbx:mX 1099511627776 xs)(h2:w.cell? ⟨N,2,none⟩=some (.int .i64 lo))(hlo:-1048576<=lo/\lo<=1048576)(hN:N≠g) :
  Calls prog 135 #[.slice (some ⟨g,0,none⟩) xs.length c,.func (.func 136) #[] #[.pointer (some ⟨N,0,none⟩)]] w fun e w'=>e=.returned (.slice (some ⟨g,0,none⟩) xs.length c)/\gQ w' lo0 g c (xs.map (lo * ·))/\w.grownBy w' (some g):=by
 have HX:Hid (gQ w lo0 g c xs):=hx;have HZ:Hid ((xs.map (lo * ·)).length=xs.length):=by show _=_;simp
 have HBX:Hid (mX 1099511627776 xs):=hbx;obtain⟨_,_,_,hxc,hcm,_⟩:=hx.inv;rw[mK] at hcm;have hxl:xs.length<=9223372036854775807:=by omega
 have H2:Hid (w.cell? ⟨N,2,none⟩=some (.int .i64 lo)):=h2;clear h2;clear hx hbx;go_enter func135,ntmps135;go_wp2
 go_loopw [8] (fun s' wr=>∃ (i:Nat),s' = .int .i64 (i:Int)/\i<=xs.length/\Hid (gQ wr lo0 g c ((xs.map (lo * ·)).take i++xs.drop i))/\Hid (w.grownBy wr (some g))) (fun s' _=>xs.length - (intOf s').toNat)
 case atStart=>exact⟨0,rfl,nQ _,by simpa [Hid] using HX.out,oO _ _⟩
 case round =>
  obtain⟨i,rfl,hin,HA,HG⟩:=hrel;by_cases h1:i<xs.length
  ·obtain⟨x,hgx⟩:=wX h1
   have cx:wr.cell? ⟨g,i,none⟩=some (.int .i64 x):=HA.out.cell (iP HZ.out hgx);have fx:wr.frozen? ⟨g,i,none⟩=false:=HA.out.fz i;have bx:=HBX.out x (uX hgx);have kt:=oH N lo x wr (HG.out.cell H2.out (by simpa using hN)) hlo bx
   have HA2:Hid (gQ (wr.setCell ⟨g,i,none⟩ (.int .i64 ((lo * ·) x))) lo0 g c ((xs.map (lo * ·)).take (i+1)++xs.drop (i+1))):=by
    have hz:(xs.map (lo * ·))[i]? = some ((lo * ·) x):=by rw[xA,hgx];rfl
    rw[<-gP HZ.out hz];exact HA.out.set i _
   have HG2:Hid (w.grownBy (wr.setCell ⟨g,i,none⟩ (.int .i64 ((lo * ·) x))) (some g)):=sQ HG.out _ _;clear hgx bx;obtain⟨z,hz⟩:∃ z,(lo * ·) x=z:=⟨_,rfl⟩;rw[hz] at HA2 HG2;rw[show(lo*x:Int)=z from hz] at kt;clear hz;go_wp2_with fail;refine kt.mono ?_;rintro e w3 ⟨rfl,hw3⟩;subst hw3;clear kt;go_wp2
   go_roundw
   case rel=>exact⟨i+1,by go_num,h1,HA2,HG2⟩
   case measure=>simp[intOf];omega
  ·have HA2:Hid (gQ wr lo0 g c (xs.map (lo * ·))):=by
    have:=HA.out;rwa [bH (by omega),xD,fV (by rw[HZ.out];omega)] at this
   go_wp2;go_ret;exact⟨rfl,HA2.out,HG.out⟩
theorem ciX (lo0 g c N:Nat)(xs:List Int)(w:World)(hx:gQ w lo0 g c xs)(lo hi:Int)(hbx:mX 1099511627776 xs)(h2:w.cell? ⟨N,2,none⟩=some (.int .i64 lo))(h3:w.cell? ⟨N,3,none⟩=some (.int .i64 hi))(hle:lo<=hi)(hN:N≠g) :
  Calls prog 135 #[.slice (some ⟨g,0,none⟩) xs.length c,.func (.func 126) #[] #[.pointer (some ⟨N,0,none⟩)]] w fun e w'=>e=.returned (.slice (some ⟨g,0,none⟩) xs.length c)/\gQ w' lo0 g c (xs.map (kJ lo hi))/\w.grownBy w' (some g):=by
 have HX:Hid (gQ w lo0 g c xs):=hx;have HZ:Hid ((xs.map (kJ lo hi)).length=xs.length):=by show _=_;simp
 have HBX:Hid (mX 1099511627776 xs):=hbx;obtain⟨_,_,_,hxc,hcm,_⟩:=hx.inv;rw[mK] at hcm;have hxl:xs.length<=9223372036854775807:=by omega
 have H2:Hid (w.cell? ⟨N,2,none⟩=some (.int .i64 lo)):=h2;have H3:Hid (w.cell? ⟨N,3,none⟩=some (.int .i64 hi)):=h3;clear h2 h3;clear hx hbx;go_enter func135,ntmps135;go_wp2
 go_loopw [8] (fun s' wr=>∃ (i:Nat),s' = .int .i64 (i:Int)/\i<=xs.length/\Hid (gQ wr lo0 g c ((xs.map (kJ lo hi)).take i++xs.drop i))/\Hid (w.grownBy wr (some g))) (fun s' _=>xs.length - (intOf s').toNat)
 case atStart=>exact⟨0,rfl,nQ _,by simpa [Hid] using HX.out,oO _ _⟩
 case round =>
  obtain⟨i,rfl,hin,HA,HG⟩:=hrel;by_cases h1:i<xs.length
  ·obtain⟨x,hgx⟩:=wX h1
   have cx:wr.cell? ⟨g,i,none⟩=some (.int .i64 x):=HA.out.cell (iP HZ.out hgx);have fx:wr.frozen? ⟨g,i,none⟩=false:=HA.out.fz i;have bx:=HBX.out x (uX hgx);have kt:=fN N lo hi x wr (HG.out.cell H2.out (by simpa using hN)) (HG.out.cell H3.out (by simpa using hN)) hle
   have HA2:Hid (gQ (wr.setCell ⟨g,i,none⟩ (.int .i64 ((kJ lo hi) x))) lo0 g c ((xs.map (kJ lo hi)).take (i+1)++xs.drop (i+1))):=by
    have hz:(xs.map (kJ lo hi))[i]? = some ((kJ lo hi) x):=by rw[xA,hgx];rfl
    rw[<-gP HZ.out hz];exact HA.out.set i _
   have HG2:Hid (w.grownBy (wr.setCell ⟨g,i,none⟩ (.int .i64 ((kJ lo hi) x))) (some g)):=sQ HG.out _ _;clear hgx bx;obtain⟨z,hz⟩:∃ z,(kJ lo hi) x=z:=⟨_,rfl⟩;rw[hz] at HA2 HG2;rw[show(kJ lo hi x:Int)=z from hz] at kt;clear hz;go_wp2_with fail;refine kt.mono ?_;rintro e w3 ⟨rfl,hw3⟩;subst hw3;clear kt;go_wp2
   go_roundw
   case rel=>exact⟨i+1,by go_num,h1,HA2,HG2⟩
   case measure=>simp[intOf];omega
  ·have HA2:Hid (gQ wr lo0 g c (xs.map (kJ lo hi))):=by
    have:=HA.out;rwa [bH (by omega),xD,fV (by rw[HZ.out];omega)] at this
   go_wp2;go_ret;exact⟨rfl,HA2.out,HG.out⟩
structure Ab (W:World) (N:Nat) (cv rv:Value) (k:Int) (c:ByteArray) (lo hi:Int) (wv kv:Value):Prop where
 t0:Cl W N 0 cv
 t1:Cl W N 1 rv
 a0:Cl W (N+1) 0 (.int .i64 k)
 a1:Cl W (N+1) 1 (.string c)
 a2:Cl W (N+1) 2 (.int .i64 lo)
 a3:Cl W (N+1) 3 (.int .i64 hi)
 a4:Cl W (N+1) 4 wv
 a5:Cl W (N+1) 5 kv
 f0:Cl W (N+1+1) 0 (.func (.func 126) #[] #[.pointer (some ⟨N+1,0,none⟩)])
theorem Ab.at {W W':World}{N:Nat}{cv rv:Value}{k:Int}{c:ByteArray}{lo hi:Int}{wv kv:Value}(h:Ab W N cv rv k c lo hi wv kv)(hb:Below W.heap.size W W'):Ab W' N cv rv k c lo hi wv kv :=
 ⟨h.t0.at hb,h.t1.at hb,h.a0.at hb,h.a1.at hb,h.a2.at hb,h.a3.at hb,h.a4.at hb,h.a5.at hb,h.f0.at hb⟩
theorem Ab.new (w:World)(cv rv:Value)(k:Int)(c:ByteArray)(lo hi:Int)(wv kv:Value):Ab (((w.alloc (.cells #[cv,rv] 25)).alloc (.cells #[.int .i64 k,.string c,.int .i64 lo,.int .i64 hi,wv,kv] 36)).alloc (.cells #[.func (.func 126) #[] #[.pointer (some ⟨w.heap.size+1,0,none⟩)]] 224)) w.heap.size cv rv k c lo hi wv kv:=by
 constructor
 all_goals first
  | exact((Cl.new _ 25 _ _ rfl rfl).at (ba _ _)).at (ba _ _)
  | exact(Cl.new _ 36 _ _ (by simp) rfl).at (ba _ _)
  | exact Cl.new _ 224 _ _ (by simp) rfl
theorem tF (w:World)(o1 o2 o3:Obj):Below w.heap.size w (((w.alloc o1).alloc o2).alloc o3):=bal (bal (ba _ _) _) _
theorem ciZ (c:ByteArray)(lo hi:Int)(cv rv wv kv:Value)(w:World)(B:Nat)(l:List jQ)(ts:List Rw)(wh:List oX)(hB:B<=w.heap.size)(hp:eQ w B cv l)(hr:iQ w B rv ts)(hw:qZ w B wv wh)(hlen:ts.length<=4096)(hok:∀ r∈rr ts,dJ l r)(hkv:∃ a n cc,kv=.slice a n cc)(hwe:iJ l wh=0) :
  Calls prog 79 #[.agg #[cv,rv],.agg #[.int .i64 1,.string c,.int .i64 lo,.int .i64 hi,wv,kv]] w (pX w (gat 1 (wh.map (trp l)) (stp 1 0 0 0) (rr ts))):=by
 have ab:=Ab.new w cv rv 1 c lo hi wv kv;have hb0:=tF w (.cells #[cv,rv] 25) (.cells #[.int .i64 1,.string c,.int .i64 lo,.int .i64 hi,wv,kv] 36) (.cells #[.func (.func 126) #[] #[.pointer (some ⟨w.heap.size+1,0,none⟩)]] 224);have k1:=cfZ B cv rv wv l ts wh (((w.alloc (.cells #[cv,rv] 25)).alloc (.cells #[.int .i64 1,.string c,.int .i64 lo,.int .i64 hi,wv,kv] 36)).alloc (.cells #[.func (.func 126) #[] #[.pointer (some ⟨w.heap.size+1,0,none⟩)]] 224)) (uQ hB hb0.size) (hp.at hB hb0) (hr.at hB hb0) (hw.at hB hb0) hwe hlen hok;obtain⟨ca,ccp,rfl,hcc1,hcc2⟩:=hp.slice;obtain⟨ra,rc,rfl,_⟩:=hr.slice;obtain⟨wa,wc,rfl,_⟩:=hw.slice;obtain⟨ka,kn,kc',rfl⟩:=hkv;have hmf:=hmf;clear hp hr hw hok ab hwe;go_enter func79,ntmps79;go_wp2_with fail;refine k1.mono ?_;rintro e w1 ⟨g,cc,rfl,hA,hb1⟩;clear k1;go_wp2;go_ret;exact pX.up ⟨g,cc,rfl,hA,hb1⟩ hb0
theorem ciJ (c:ByteArray)(lo hi:Int)(cv rv wv kv:Value)(w:World)(B:Nat)(l:List jQ)(ts:List Rw)(wh:List oX)(hB:B<=w.heap.size)(hp:eQ w B cv l)(hr:iQ w B rv ts)(hw:qZ w B wv wh)(hlen:ts.length<=4096)(hok:∀ r∈rr ts,dJ l r)(hkv:∃ a n cc,kv=.slice a n cc)(hwe:iJ l wh=0)(at':Nat)(hf:fnd l c=some at')(hwr:yY lo hi=true) :
  Calls prog 79 #[.agg #[cv,rv],.agg #[.int .i64 2,.string c,.int .i64 lo,.int .i64 hi,wv,kv]] w (pX w (gat 1 (wh.map (trp l)) (stp 2 at' lo hi) (rr ts))):=by
 have ab:=Ab.new w cv rv 2 c lo hi wv kv;have hb0:=tF w (.cells #[cv,rv] 25) (.cells #[.int .i64 2,.string c,.int .i64 lo,.int .i64 hi,wv,kv] 36) (.cells #[.func (.func 126) #[] #[.pointer (some ⟨w.heap.size+1,0,none⟩)]] 224);have k1:=tL B cv l c (((w.alloc (.cells #[cv,rv] 25)).alloc (.cells #[.int .i64 2,.string c,.int .i64 lo,.int .i64 hi,wv,kv] 36)).alloc (.cells #[.func (.func 126) #[] #[.pointer (some ⟨w.heap.size+1,0,none⟩)]] 224)) (uQ hB hb0.size) (hp.at hB hb0) at' hf;have HP:Hid (eQ w B cv l):=hp;have HR:Hid (iQ w B rv ts):=hr;have HW:Hid (qZ w B wv wh):=hw;have HOK:Hid (∀ r∈rr ts,dJ l r):=hok;have hal:=mI hf;obtain⟨ca,ccp,rfl,hcc1,hcc2⟩:=hp.slice;obtain⟨ra,rc,rfl,_⟩:=hr.slice;obtain⟨wa,wc,rfl,_⟩:=hw.slice;obtain⟨ka,kn,kc',rfl⟩:=hkv;have hmf:=hmf;clear hp hr hw hok hf;go_enter func79,ntmps79;go_wp2_with fail;refine k1.mono ?_;rintro e w1 ⟨rfl,hb1⟩;clear k1;have hb2:=bal hb1 (.cells #[.int .i64 (at':Int)] 3);have ab2:=ab.at hb2;have hbw:=bt hb0 hb2;have hI:Cl (w1.alloc (.cells #[.int .i64 (at':Int)] 3)) w1.heap.size 0 (.int .i64 (at':Int)):=Cl.new _ 3 _ _ rfl rfl;have k2:=cfJ B _ _ _ l ts wh _ (uQ hB hbw.size) (HP.out.at hB hbw) (HR.out.at hB hbw) (HW.out.at hB hbw) hwe hlen HOK.out _ _ _ at' lo hi ab2.f0 hI ab2.a2 ab2.a3 hwr hal;have m0:=ab2.t0.c;have m1:=ab2.t1.c;have m2:=ab2.a4.c;clear ab ab2 hI hb1 hb2 hb0;go_wp2_with fail;refine k2.mono ?_;rintro e w3 ⟨g,cc,rfl,hA,hb3⟩;clear k2;go_wp2;go_ret;exact pX.up ⟨g,cc,rfl,hA,hb3⟩ hbw
theorem cjQ (c:ByteArray)(lo hi:Int)(cv rv wv kv:Value)(w:World)(B:Nat)(l:List jQ)(ts:List Rw)(wh:List oX)(hB:B<=w.heap.size)(hp:eQ w B cv l)(hr:iQ w B rv ts)(hw:qZ w B wv wh)(hlen:ts.length<=4096)(hok:∀ r∈rr ts,dJ l r)(hkv:∃ a n cc,kv=.slice a n cc)(hwe:iJ l wh=0)(at':Nat)(hf:fnd l c=some at')(n:Nat)(hn:n<=4096)(hnc:qU l at' = (n:Int)) :
  Calls prog 79 #[.agg #[cv,rv],.agg #[.int .i64 3,.string c,.int .i64 lo,.int .i64 hi,wv,kv]] w (pX w (gat n (wh.map (trp l)) (stp 3 at' 0 0) (rr ts))):=by
 have ab:=Ab.new w cv rv 3 c lo hi wv kv;have hb0:=tF w (.cells #[cv,rv] 25) (.cells #[.int .i64 3,.string c,.int .i64 lo,.int .i64 hi,wv,kv] 36) (.cells #[.func (.func 126) #[] #[.pointer (some ⟨w.heap.size+1,0,none⟩)]] 224);have k1:=tL B cv l c (((w.alloc (.cells #[cv,rv] 25)).alloc (.cells #[.int .i64 3,.string c,.int .i64 lo,.int .i64 hi,wv,kv] 36)).alloc (.cells #[.func (.func 126) #[] #[.pointer (some ⟨w.heap.size+1,0,none⟩)]] 224)) (uQ hB hb0.size) (hp.at hB hb0) at' hf;have HP:Hid (eQ w B cv l):=hp;have HR:Hid (iQ w B rv ts):=hr;have HW:Hid (qZ w B wv wh):=hw;have HOK:Hid (∀ r∈rr ts,dJ l r):=hok;have hal:=mI hf;have HNC:Hid (qU l at' = (n:Int)):=hnc;obtain⟨ca,ccp,rfl,hcc1,hcc2⟩:=hp.slice;obtain⟨ra,rc,rfl,_⟩:=hr.slice;obtain⟨wa,wc,rfl,_⟩:=hw.slice;obtain⟨ka,kn,kc',rfl⟩:=hkv;have hmf:=hmf;clear hp hr hw hok hf hnc;go_enter func79,ntmps79;go_wp2_with fail;refine k1.mono ?_;rintro e w1 ⟨rfl,hb1⟩;clear k1;have hb2:=bal hb1 (.cells #[.int .i64 (at':Int)] 3);have ab2:=ab.at hb2;have hbw:=bt hb0 hb2;have hI:Cl (w1.alloc (.cells #[.int .i64 (at':Int)] 3)) w1.heap.size 0 (.int .i64 (at':Int)):=Cl.new _ 3 _ _ rfl rfl;obtain⟨b,o,nm,sz,rfl,hb,hgt,c1,c2,hnm⟩:=HP.out.get hB hbw hal;obtain rfl:sz=(n:Int):=by have:=HNC.out;simpa [qU,hgt] using this
 obtain⟨W2,hW2⟩:∃ W2,w1.alloc (.cells #[.int .i64 (at':Int)] 3)=W2:=⟨_,rfl⟩;have hbd:Below w.heap.size w W2.drew:=by rw[<-hW2];exact hbw.drew
 have abd:Ab W2.drew w.heap.size (.slice (some ⟨b,o,none⟩) l.length ccp) (.slice ra ts.length rc) 3 c lo hi (.slice wa wh.length wc) (.slice ka kn kc'):=by rw[<-hW2];exact ab2.at (aQ _ _).drew
 have hId:Cl W2.drew w1.heap.size 0 (.int .i64 (at':Int)):=by rw[<-hW2];exact hI.at (aQ _ _).drew
 have k2:=cgQ B _ _ _ l ts wh n hn W2.drew (uQ hB hbd.size) (HP.out.at hB hbd) (HR.out.at hB hbd) (HW.out.at hB hbd) hwe hlen HOK.out w1.heap.size at' (nm,(n:Int)) hId hgt rfl;have HW2:Hid (w1.alloc (.cells #[.int .i64 (at':Int)] 3)=W2):=hW2;have d0:W2.drew.cell? ⟨b,o+at' * 2+1,none⟩=some (.int .i64 (n:Int)):=by rw[<-hW2];exact c2
 rw[hW2] at c1 c2 hbw;have m0:W2.cell? ⟨w.heap.size,0,none⟩=_:=abd.t0.c;have m1:W2.cell? ⟨w.heap.size,1,none⟩=_:=abd.t1.c;have m2:W2.cell? ⟨w.heap.size+1,4,none⟩=_:=abd.a4.c;have m3:W2.cell? ⟨w1.heap.size,0,none⟩=_:=hId.c;have lN:w.heap.size<W2.heap.size:=abd.t0.lt;have lN1:w.heap.size+1<W2.heap.size:=abd.a4.lt;have lI:w1.heap.size<W2.heap.size:=hId.lt;have lb:b<W2.heap.size:=qX hb (uQ hB hbd.size);have hbI:(0:Int)<=(at':Int):=by omega
 have hbI2:(at':Int)<(l.length:Int):=by omega
 clear ab ab2 hI hb1 hb2 hb0 abd hId hgt d0 HNC;go_wp2;clear HW2 hW2
 go_region_held3 (fun w'=>w'.cell? ⟨w.heap.size,0,none⟩=some (.slice (some ⟨b,o,none⟩) l.length ccp)/\w'.cell? ⟨w.heap.size,1,none⟩=some (.slice ra ts.length rc)/\w'.cell? ⟨w.heap.size+1,4,none⟩=some (.slice wa wh.length wc)/\w'.cell? ⟨w1.heap.size,0,none⟩=some (.int .i64 (at':Int))/\w'.cell? ⟨b,o+at' * 2+1,none⟩=some (.int .i64 (n:Int))) (first|assumption|(simp[go_sem, *];done)) ((go_at_call 128;refine k2.mono ?_;rintro x3 w3 hA;obtain⟨g3,c3',rfl,hA3,hb3⟩:=hA;have z0:=(hb3.cell (p:=⟨w.heap.size,0,none⟩) lN).trans m0;have z1:=(hb3.cell (p:=⟨w.heap.size,1,none⟩) lN).trans m1;have z2:=(hb3.cell (p:=⟨w.heap.size+1,4,none⟩) lN1).trans m2;have z3:=(hb3.cell (p:=⟨w1.heap.size,0,none⟩) lI).trans m3;have z4:=(hb3.cell (p:=⟨b,o+at' * 2+1,none⟩) lb).trans c2))
 go_wp2;go_ret;exact pX.up ⟨g3,c3',rfl,hA3,hb3⟩ hbd
theorem lP {w W w1 w2:World}{xs:List Int}{g c:Nat}(hW:Below w.heap.size w W)(hb1:Below W.heap.size W w1)(hg:W.heap.size<=g)(hgr:w1.grownBy w2 (some g))(hA:gQ w2 W.heap.size g c xs):pX w xs (.returned (.slice (some ⟨g,0,none⟩) xs.length c)) w2 :=
 ⟨g,c,rfl,hA.mono hW.size,(bt hW hb1).trans (iD hgr (uQ hW.size hg) (uQ hW.size hb1.size))⟩
theorem cjX (c:ByteArray)(lo hi:Int)(cv rv wv:Value)(b o cap:Nat)(w:World)(B:Nat)(l:List jQ)(ts:List Rw)(wh:List oX)(hB:B<=w.heap.size)(hp:eQ w B cv l)(hr:iQ w B rv ts)(hw:qZ w B wv wh)(hbB:b<B)(x:Qu)(u0 u1 u2 u3 u4 u5:Value)(hu:xY w b o u0 u1 u2 u3 u4 u5)(hqx:Qm w B x u0 u1 u2 u3 u4 u5)(xs:List Int)(kx:∀ W,Below w.heap.size w W->Calls prog 79 #[.agg #[cv,rv],.agg #[u0,u1,u2,u3,u4,u5]] W (pX W xs))(y:Qu)(z0 z1 z2 z3 z4 z5:Value)(hz:xY w b (o+6) z0 z1 z2 z3 z4 z5)(hqy:Qm w B y z0 z1 z2 z3 z4 z5)(ys:List Int)(ky:∀ W,Below w.heap.size w W->Calls prog 79 #[.agg #[cv,rv],.agg #[z0,z1,z2,z3,z4,z5]] W (pX W ys))(hbx:mX 1099511627776 xs)(hby:mX 1099511627776 ys)(hl:xs.length=ys.length) :
  Calls prog 79 #[.agg #[cv,rv],.agg #[.int .i64 4,.string c,.int .i64 lo,.int .i64 hi,wv,.slice (some ⟨b,o,none⟩) 2 cap]] w (pX w (List.zipWith (· + ·) xs ys)):=by
 have ab:=Ab.new w cv rv 4 c lo hi wv (.slice (some ⟨b,o,none⟩) 2 cap);have hb0:=tF w (.cells #[cv,rv] 25) (.cells #[.int .i64 4,.string c,.int .i64 lo,.int .i64 hi,wv,.slice (some ⟨b,o,none⟩) 2 cap] 36) (.cells #[.func (.func 126) #[] #[.pointer (some ⟨w.heap.size+1,0,none⟩)]] 224);obtain⟨W0,hW0⟩:∃ W0,(((w.alloc (.cells #[cv,rv] 25)).alloc (.cells #[.int .i64 4,.string c,.int .i64 lo,.int .i64 hi,wv,.slice (some ⟨b,o,none⟩) 2 cap] 36)).alloc (.cells #[.func (.func 126) #[] #[.pointer (some ⟨w.heap.size+1,0,none⟩)]] 224))=W0:=⟨_,rfl⟩;rw[hW0] at ab hb0;have HW0:Hid ((((w.alloc (.cells #[cv,rv] 25)).alloc (.cells #[.int .i64 4,.string c,.int .i64 lo,.int .i64 hi,wv,.slice (some ⟨b,o,none⟩) 2 cap] 36)).alloc (.cells #[.func (.func 126) #[] #[.pointer (some ⟨w.heap.size+1,0,none⟩)]] 224))=W0):=hW0;have k1:=sH w.heap.size (w.heap.size+1) cv rv b o 2 cap (by omega) xs W0 ab.t0.c ab.t1.c ab.a5.c B x u0 u1 u2 u3 u4 u5 (hu.keep hb0 (qX hbB hB)) (hqx.at hB hb0) l ts (hp.at hB hb0) (hr.at hB hb0) (kx _ hb0.drew)
 have HK:∀ w1,Below W0.heap.size W0 w1->Calls prog 127 #[.int .i64 1,.pointer (some ⟨w.heap.size,0,none⟩),.pointer (some ⟨w.heap.size+1,0,none⟩)] w1 (pX w1 ys):=fun w1 hb1 =>
  jB w.heap.size (w.heap.size+1) cv rv b o 2 cap (by omega) ys w1 (ab.at hb1).t0.c (ab.at hb1).t1.c (ab.at hb1).a5.c B y z0 z1 z2 z3 z4 z5 (hz.keep (bt hb0 hb1) (qX hbB hB)) (hqy.at hB (bt hb0 hb1)) l ts (hp.at hB (bt hb0 hb1)) (hr.at hB (bt hb0 hb1)) (ky _ (bt hb0 hb1).drew)
 have HAB:Hid (Ab W0 w.heap.size cv rv 4 c lo hi wv (.slice (some ⟨b,o,none⟩) 2 cap)):=ab;obtain⟨ca,ccp,rfl,_⟩:=hp.slice;obtain⟨ra,rc,rfl,_⟩:=hr.slice;obtain⟨wa,wc,rfl,_⟩:=hw.slice;have hmf:=hmf;have m0:=HAB.out.a0.c;clear hp hr hw hu hqx kx ab hz hqy ky;go_enter func79,ntmps79;have HL:Hid (xs.length=ys.length):=hl;clear hl;go_wp2_with fail;refine k1.mono ?_;rintro e w1 ⟨g1,c1,rfl,hA1,hb1⟩;clear k1;have hg1:=hA1.lt;have k2:=HK w1 hb1;clear HK;go_wp2_with fail;refine k2.mono ?_;rintro e w2 ⟨g2,c2,rfl,hA2,hb2⟩;clear k2;have hg2:=hA2.lt;have hA12:=hA1.at hb2;have hbw:=bt hb1 hb2;have k3:=chZ W0.heap.size g1 c1 w2.heap.size _ xs ys w2 hA12 (hA2.ints g1 (by omega)) HL.out hbx hby;go_wp2_with fail;refine k3.mono ?_;rintro e w3 ⟨rfl,hA3,hgr⟩;clear k3;go_wp2;go_ret;have hle:(List.zipWith (· + ·) xs ys).length=xs.length:=by rw[List.length_zipWith];have:=HL.out;omega
 have:=lP hb0 hbw hg1.1 hgr hA3;rw[hle] at this;exact this
theorem cjZ (c:ByteArray)(lo hi:Int)(cv rv wv:Value)(b o cap:Nat)(w:World)(B:Nat)(l:List jQ)(ts:List Rw)(wh:List oX)(hB:B<=w.heap.size)(hp:eQ w B cv l)(hr:iQ w B rv ts)(hw:qZ w B wv wh)(hbB:b<B)(x:Qu)(u0 u1 u2 u3 u4 u5:Value)(hu:xY w b o u0 u1 u2 u3 u4 u5)(hqx:Qm w B x u0 u1 u2 u3 u4 u5)(xs:List Int)(kx:∀ W,Below w.heap.size w W->Calls prog 79 #[.agg #[cv,rv],.agg #[u0,u1,u2,u3,u4,u5]] W (pX W xs))(y:Qu)(z0 z1 z2 z3 z4 z5:Value)(hz:xY w b (o+6) z0 z1 z2 z3 z4 z5)(hqy:Qm w B y z0 z1 z2 z3 z4 z5)(ys:List Int)(ky:∀ W,Below w.heap.size w W->Calls prog 79 #[.agg #[cv,rv],.agg #[z0,z1,z2,z3,z4,z5]] W (pX W ys))(hbx:mX 1099511627776 xs)(hby:mX 1099511627776 ys)(hl:xs.length=ys.length) :
  Calls prog 79 #[.agg #[cv,rv],.agg #[.int .i64 5,.string c,.int .i64 lo,.int .i64 hi,wv,.slice (some ⟨b,o,none⟩) 2 cap]] w (pX w (List.zipWith (· - ·) xs ys)):=by
 have ab:=Ab.new w cv rv 5 c lo hi wv (.slice (some ⟨b,o,none⟩) 2 cap);have hb0:=tF w (.cells #[cv,rv] 25) (.cells #[.int .i64 5,.string c,.int .i64 lo,.int .i64 hi,wv,.slice (some ⟨b,o,none⟩) 2 cap] 36) (.cells #[.func (.func 126) #[] #[.pointer (some ⟨w.heap.size+1,0,none⟩)]] 224);obtain⟨W0,hW0⟩:∃ W0,(((w.alloc (.cells #[cv,rv] 25)).alloc (.cells #[.int .i64 5,.string c,.int .i64 lo,.int .i64 hi,wv,.slice (some ⟨b,o,none⟩) 2 cap] 36)).alloc (.cells #[.func (.func 126) #[] #[.pointer (some ⟨w.heap.size+1,0,none⟩)]] 224))=W0:=⟨_,rfl⟩;rw[hW0] at ab hb0;have HW0:Hid ((((w.alloc (.cells #[cv,rv] 25)).alloc (.cells #[.int .i64 5,.string c,.int .i64 lo,.int .i64 hi,wv,.slice (some ⟨b,o,none⟩) 2 cap] 36)).alloc (.cells #[.func (.func 126) #[] #[.pointer (some ⟨w.heap.size+1,0,none⟩)]] 224))=W0):=hW0;have k1:=sH w.heap.size (w.heap.size+1) cv rv b o 2 cap (by omega) xs W0 ab.t0.c ab.t1.c ab.a5.c B x u0 u1 u2 u3 u4 u5 (hu.keep hb0 (qX hbB hB)) (hqx.at hB hb0) l ts (hp.at hB hb0) (hr.at hB hb0) (kx _ hb0.drew)
 have HK:∀ w1,Below W0.heap.size W0 w1->Calls prog 127 #[.int .i64 1,.pointer (some ⟨w.heap.size,0,none⟩),.pointer (some ⟨w.heap.size+1,0,none⟩)] w1 (pX w1 ys):=fun w1 hb1 =>
  jB w.heap.size (w.heap.size+1) cv rv b o 2 cap (by omega) ys w1 (ab.at hb1).t0.c (ab.at hb1).t1.c (ab.at hb1).a5.c B y z0 z1 z2 z3 z4 z5 (hz.keep (bt hb0 hb1) (qX hbB hB)) (hqy.at hB (bt hb0 hb1)) l ts (hp.at hB (bt hb0 hb1)) (hr.at hB (bt hb0 hb1)) (ky _ (bt hb0 hb1).drew)
 have HAB:Hid (Ab W0 w.heap.size cv rv 5 c lo hi wv (.slice (some ⟨b,o,none⟩) 2 cap)):=ab;obtain⟨ca,ccp,rfl,_⟩:=hp.slice;obtain⟨ra,rc,rfl,_⟩:=hr.slice;obtain⟨wa,wc,rfl,_⟩:=hw.slice;have hmf:=hmf;have m0:=HAB.out.a0.c;clear hp hr hw hu hqx kx ab hz hqy ky;go_enter func79,ntmps79;have HL:Hid (xs.length=ys.length):=hl;clear hl;go_wp2_with fail;refine k1.mono ?_;rintro e w1 ⟨g1,c1,rfl,hA1,hb1⟩;clear k1;have hg1:=hA1.lt;have k2:=HK w1 hb1;clear HK;go_wp2_with fail;refine k2.mono ?_;rintro e w2 ⟨g2,c2,rfl,hA2,hb2⟩;clear k2;have hg2:=hA2.lt;have hA12:=hA1.at hb2;have hbw:=bt hb1 hb2;have k3:=chJ W0.heap.size g1 c1 w2.heap.size _ xs ys w2 hA12 (hA2.ints g1 (by omega)) HL.out hbx hby;go_wp2_with fail;refine k3.mono ?_;rintro e w3 ⟨rfl,hA3,hgr⟩;clear k3;go_wp2;go_ret;have hle:(List.zipWith (· - ·) xs ys).length=xs.length:=by rw[List.length_zipWith];have:=HL.out;omega
 have:=lP hb0 hbw hg1.1 hgr hA3;rw[hle] at this;exact this
theorem cjJ (c:ByteArray)(lo hi:Int)(cv rv wv:Value)(b o cap:Nat)(w:World)(B:Nat)(l:List jQ)(ts:List Rw)(wh:List oX)(hB:B<=w.heap.size)(hp:eQ w B cv l)(hr:iQ w B rv ts)(hw:qZ w B wv wh)(hbB:b<B)(x:Qu)(u0 u1 u2 u3 u4 u5:Value)(hu:xY w b o u0 u1 u2 u3 u4 u5)(hqx:Qm w B x u0 u1 u2 u3 u4 u5)(xs:List Int)(kx:∀ W,Below w.heap.size w W->Calls prog 79 #[.agg #[cv,rv],.agg #[u0,u1,u2,u3,u4,u5]] W (pX W xs))(hbx:mX 1099511627776 xs)(hlo:-1048576<=lo/\lo<=1048576) :
  Calls prog 79 #[.agg #[cv,rv],.agg #[.int .i64 6,.string c,.int .i64 lo,.int .i64 hi,wv,.slice (some ⟨b,o,none⟩) 1 cap]] w (pX w (xs.map (lo * ·))):=by
 have ab:=Ab.new w cv rv 6 c lo hi wv (.slice (some ⟨b,o,none⟩) 1 cap);have hb0:=tF w (.cells #[cv,rv] 25) (.cells #[.int .i64 6,.string c,.int .i64 lo,.int .i64 hi,wv,.slice (some ⟨b,o,none⟩) 1 cap] 36) (.cells #[.func (.func 126) #[] #[.pointer (some ⟨w.heap.size+1,0,none⟩)]] 224);obtain⟨W0,hW0⟩:∃ W0,(((w.alloc (.cells #[cv,rv] 25)).alloc (.cells #[.int .i64 6,.string c,.int .i64 lo,.int .i64 hi,wv,.slice (some ⟨b,o,none⟩) 1 cap] 36)).alloc (.cells #[.func (.func 126) #[] #[.pointer (some ⟨w.heap.size+1,0,none⟩)]] 224))=W0:=⟨_,rfl⟩;rw[hW0] at ab hb0;have HW0:Hid ((((w.alloc (.cells #[cv,rv] 25)).alloc (.cells #[.int .i64 6,.string c,.int .i64 lo,.int .i64 hi,wv,.slice (some ⟨b,o,none⟩) 1 cap] 36)).alloc (.cells #[.func (.func 126) #[] #[.pointer (some ⟨w.heap.size+1,0,none⟩)]] 224))=W0):=hW0;have k1:=sH w.heap.size (w.heap.size+1) cv rv b o 1 cap (by omega) xs W0 ab.t0.c ab.t1.c ab.a5.c B x u0 u1 u2 u3 u4 u5 (hu.keep hb0 (qX hbB hB)) (hqx.at hB hb0) l ts (hp.at hB hb0) (hr.at hB hb0) (kx _ hb0.drew);have HAB:Hid (Ab W0 w.heap.size cv rv 6 c lo hi wv (.slice (some ⟨b,o,none⟩) 1 cap)):=ab;obtain⟨ca,ccp,rfl,_⟩:=hp.slice;obtain⟨ra,rc,rfl,_⟩:=hr.slice;obtain⟨wa,wc,rfl,_⟩:=hw.slice;have hmf:=hmf;have m0:=HAB.out.a0.c;clear hp hr hw hu hqx kx ab;go_enter func79,ntmps79;go_wp2_with fail;refine k1.mono ?_;rintro e w1 ⟨g1,c1,rfl,hA1,hb1⟩;clear k1;have hg1:=hA1.lt;have ab1:=HAB.out.at hb1;have k3:=ciQ W0.heap.size g1 c1 (w.heap.size+1) xs w1 hA1 lo hbx ab1.a2.c hlo (by have:=HAB.out.a2.lt;omega);clear ab1;go_wp2_with fail;refine k3.mono ?_;rintro e w3 ⟨rfl,hA3,hgr⟩;clear k3;go_wp2;go_ret;have:=lP hb0 hb1 hg1.1 hgr hA3;rw[nY] at this;exact this
theorem ckQ (c:ByteArray)(lo hi:Int)(cv rv wv:Value)(b o cap:Nat)(w:World)(B:Nat)(l:List jQ)(ts:List Rw)(wh:List oX)(hB:B<=w.heap.size)(hp:eQ w B cv l)(hr:iQ w B rv ts)(hw:qZ w B wv wh)(hbB:b<B)(x:Qu)(u0 u1 u2 u3 u4 u5:Value)(hu:xY w b o u0 u1 u2 u3 u4 u5)(hqx:Qm w B x u0 u1 u2 u3 u4 u5)(xs:List Int)(kx:∀ W,Below w.heap.size w W->Calls prog 79 #[.agg #[cv,rv],.agg #[u0,u1,u2,u3,u4,u5]] W (pX W xs))(y:Qu)(z0 z1 z2 z3 z4 z5:Value)(hz:xY w b (o+6) z0 z1 z2 z3 z4 z5)(hqy:Qm w B y z0 z1 z2 z3 z4 z5)(ys:List Int)(ky:∀ W,Below w.heap.size w W->Calls prog 79 #[.agg #[cv,rv],.agg #[z0,z1,z2,z3,z4,z5]] W (pX W ys))(hl:xs.length+ys.length<=1048576) :
  Calls prog 79 #[.agg #[cv,rv],.agg #[.int .i64 7,.string c,.int .i64 lo,.int .i64 hi,wv,.slice (some ⟨b,o,none⟩) 2 cap]] w (pX w (xs++ys)):=by
 have ab:=Ab.new w cv rv 7 c lo hi wv (.slice (some ⟨b,o,none⟩) 2 cap);have hb0:=tF w (.cells #[cv,rv] 25) (.cells #[.int .i64 7,.string c,.int .i64 lo,.int .i64 hi,wv,.slice (some ⟨b,o,none⟩) 2 cap] 36) (.cells #[.func (.func 126) #[] #[.pointer (some ⟨w.heap.size+1,0,none⟩)]] 224);obtain⟨W0,hW0⟩:∃ W0,(((w.alloc (.cells #[cv,rv] 25)).alloc (.cells #[.int .i64 7,.string c,.int .i64 lo,.int .i64 hi,wv,.slice (some ⟨b,o,none⟩) 2 cap] 36)).alloc (.cells #[.func (.func 126) #[] #[.pointer (some ⟨w.heap.size+1,0,none⟩)]] 224))=W0:=⟨_,rfl⟩;rw[hW0] at ab hb0;have HW0:Hid ((((w.alloc (.cells #[cv,rv] 25)).alloc (.cells #[.int .i64 7,.string c,.int .i64 lo,.int .i64 hi,wv,.slice (some ⟨b,o,none⟩) 2 cap] 36)).alloc (.cells #[.func (.func 126) #[] #[.pointer (some ⟨w.heap.size+1,0,none⟩)]] 224))=W0):=hW0;have k1:=sH w.heap.size (w.heap.size+1) cv rv b o 2 cap (by omega) xs W0 ab.t0.c ab.t1.c ab.a5.c B x u0 u1 u2 u3 u4 u5 (hu.keep hb0 (qX hbB hB)) (hqx.at hB hb0) l ts (hp.at hB hb0) (hr.at hB hb0) (kx _ hb0.drew)
 have HK:∀ w1,Below W0.heap.size W0 w1->Calls prog 127 #[.int .i64 1,.pointer (some ⟨w.heap.size,0,none⟩),.pointer (some ⟨w.heap.size+1,0,none⟩)] w1 (pX w1 ys):=fun w1 hb1 =>
  jB w.heap.size (w.heap.size+1) cv rv b o 2 cap (by omega) ys w1 (ab.at hb1).t0.c (ab.at hb1).t1.c (ab.at hb1).a5.c B y z0 z1 z2 z3 z4 z5 (hz.keep (bt hb0 hb1) (qX hbB hB)) (hqy.at hB (bt hb0 hb1)) l ts (hp.at hB (bt hb0 hb1)) (hr.at hB (bt hb0 hb1)) (ky _ (bt hb0 hb1).drew)
 have HAB:Hid (Ab W0 w.heap.size cv rv 7 c lo hi wv (.slice (some ⟨b,o,none⟩) 2 cap)):=ab;obtain⟨ca,ccp,rfl,_⟩:=hp.slice;obtain⟨ra,rc,rfl,_⟩:=hr.slice;obtain⟨wa,wc,rfl,_⟩:=hw.slice;have hmf:=hmf;have m0:=HAB.out.a0.c;clear hp hr hw hu hqx kx ab hz hqy ky;go_enter func79,ntmps79;obtain⟨i0,hi0,hz0,hz1,hz2⟩:=oY wO;have HL:Hid (xs.length+ys.length<=1048576):=hl;clear hl;go_wp2_with fail;refine k1.mono ?_;rintro e w1 ⟨g1,c1,rfl,hA1,hb1⟩;clear k1;have hg1:=hA1.lt;have k2:=HK w1 hb1;clear HK;go_wp2_with fail;refine k2.mono ?_;rintro e w2 ⟨g2,c2,rfl,hA2,hb2⟩;clear k2;have hg2:=hA2.lt;have hA12:=hA1.at hb2;have hbw:=bt hb1 hb2;have HA2:Hid (gQ w2 w1.heap.size g2 c2 ys):=hA2;have HA12:Hid (gQ w2 W0.heap.size g1 c1 xs):=hA12;have hs2:Hid (W0.heap.size<=w2.heap.size):=hbw.size;clear hA1 hA2 hA12;go_wp2_with (at_builtin;refine vK _ rfl _ _ 37 rfl W0.heap.size 3 i0 (.int .i64 0) 1 8 underlying37 hi0 hz0 hz1 hz2 rfl (by decide) _ _ _ rfl HA12.out ⟨g2,0,none⟩ ys.length c2 (ys.map (.int .i64)) rfl ?q1 ?q2 ?q3 ?q4 ?q5 ?q6 ?_)
 case q1=>simp
 case q2=>exact World.ownsRow.cells HA2.out rfl
 case q3=>intro u hu;obtain⟨z,_,rfl⟩:=tZ.1 hu;rfl
 case q4=>have:=HL.out;simp[maxLen];omega
 case q5=>have:=HL.out;omega
 case q6=>exact hs2.out
 intro v3 w3 hown3 hgrow hnil;obtain⟨g3,c3,rfl,hg3,_⟩:=b9Q hown3 hnil;have hA3:gQ w3 W0.heap.size g3 c3 (xs++ys):=by simpa [gQ] using hown3
 have hbw3:Below w.heap.size w w3:=(bt hb0 hbw).trans (iD (E:=g1) hgrow (uQ hb0.size hg1.1) (uQ hb0.size hs2.out));clear hgrow hnil hown3;go_wp2;go_ret;exact⟨g3,c3,by rw[zJ];rfl,hA3.mono hb0.size,hbw3⟩
theorem ckX (c:ByteArray)(lo hi:Int)(cv rv wv:Value)(b o cap:Nat)(w:World)(B:Nat)(l:List jQ)(ts:List Rw)(wh:List oX)(hB:B<=w.heap.size)(hp:eQ w B cv l)(hr:iQ w B rv ts)(hw:qZ w B wv wh)(hbB:b<B)(x:Qu)(u0 u1 u2 u3 u4 u5:Value)(hu:xY w b o u0 u1 u2 u3 u4 u5)(hqx:Qm w B x u0 u1 u2 u3 u4 u5)(xs:List Int)(kx:∀ W,Below w.heap.size w W->Calls prog 79 #[.agg #[cv,rv],.agg #[u0,u1,u2,u3,u4,u5]] W (pX W xs))(hbx:mX 1099511627776 xs)(hl:xs.length<=4096) :
  Calls prog 79 #[.agg #[cv,rv],.agg #[.int .i64 8,.string c,.int .i64 lo,.int .i64 hi,wv,.slice (some ⟨b,o,none⟩) 1 cap]] w (pX w ([mG xs])):=by
 have ab:=Ab.new w cv rv 8 c lo hi wv (.slice (some ⟨b,o,none⟩) 1 cap);have hb0:=tF w (.cells #[cv,rv] 25) (.cells #[.int .i64 8,.string c,.int .i64 lo,.int .i64 hi,wv,.slice (some ⟨b,o,none⟩) 1 cap] 36) (.cells #[.func (.func 126) #[] #[.pointer (some ⟨w.heap.size+1,0,none⟩)]] 224);obtain⟨W0,hW0⟩:∃ W0,(((w.alloc (.cells #[cv,rv] 25)).alloc (.cells #[.int .i64 8,.string c,.int .i64 lo,.int .i64 hi,wv,.slice (some ⟨b,o,none⟩) 1 cap] 36)).alloc (.cells #[.func (.func 126) #[] #[.pointer (some ⟨w.heap.size+1,0,none⟩)]] 224))=W0:=⟨_,rfl⟩;rw[hW0] at ab hb0;have HW0:Hid ((((w.alloc (.cells #[cv,rv] 25)).alloc (.cells #[.int .i64 8,.string c,.int .i64 lo,.int .i64 hi,wv,.slice (some ⟨b,o,none⟩) 1 cap] 36)).alloc (.cells #[.func (.func 126) #[] #[.pointer (some ⟨w.heap.size+1,0,none⟩)]] 224))=W0):=hW0;have k1:=sH w.heap.size (w.heap.size+1) cv rv b o 1 cap (by omega) xs W0 ab.t0.c ab.t1.c ab.a5.c B x u0 u1 u2 u3 u4 u5 (hu.keep hb0 (qX hbB hB)) (hqx.at hB hb0) l ts (hp.at hB hb0) (hr.at hB hb0) (kx _ hb0.drew);have HAB:Hid (Ab W0 w.heap.size cv rv 8 c lo hi wv (.slice (some ⟨b,o,none⟩) 1 cap)):=ab;obtain⟨ca,ccp,rfl,_⟩:=hp.slice;obtain⟨ra,rc,rfl,_⟩:=hr.slice;obtain⟨wa,wc,rfl,_⟩:=hw.slice;have hmf:=hmf;have m0:=HAB.out.a0.c;clear hp hr hw hu hqx kx ab;go_enter func79,ntmps79;go_wp2_with fail;refine k1.mono ?_;rintro e w1 ⟨g1,c1,rfl,hA1,hb1⟩;clear k1;have hg1:=hA1.lt;have k3:=nS w1.heap.size w1.heap.size _ xs w1 (vQ _) (hA1.ints w1.heap.size (by omega)) hl hbx _ rfl;go_wp2_with fail;refine k3.mono ?_;rintro e w3 ⟨rfl,hw3⟩;subst hw3;clear k3;go_wp2;go_ret;exact⟨w3.heap.size,1,rfl,gQ.lit _ _ _ (uQ hb0.size hb1.size),bt hb0 (bal hb1 _)⟩
