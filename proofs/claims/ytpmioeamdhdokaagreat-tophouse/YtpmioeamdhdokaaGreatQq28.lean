import Derived.Test.YtpmioeamdhdokaaGreatQq27
open Go.Proofs.Tryz
set_option linter.unusedSimpArgs false
set_option maxHeartbeats 16000000
set_option maxRecDepth 100000
namespace Go.Proofs.YtpmioeamdhdokaaGreat
variable {xs:List Int} {N g i:Nat} {k x z:Int} {W W':World} {cv kv wv:Value} {c:ByteArray}
namespace K
open Go.RowKit K.Ds
theorem diQ (x y:Int)(w:World)(hx:-1152921504606846976<=x/\x<=1152921504606846976)(hy:-1152921504606846976<=y/\y<=1152921504606846976) :
  Calls prog 164 #[.int .i64 x,.int .i64 y] w fun e w'=>e=.returned (.int .i64 (x+y))/\w' = w:=by
 obtain⟨a1,a2⟩:=hx;obtain⟨b1,b2⟩:=hy;go_enter func164,ntmps164;go_wp2;go_ret;exact⟨rfl,rfl⟩
theorem diX (x y:Int)(w:World)(hx:-1152921504606846976<=x/\x<=1152921504606846976)(hy:-1152921504606846976<=y/\y<=1152921504606846976) :
  Calls prog 165 #[.int .i64 x,.int .i64 y] w fun e w'=>e=.returned (.int .i64 (x - y))/\w' = w:=by
 obtain⟨a1,a2⟩:=hx;obtain⟨b1,b2⟩:=hy;go_enter func165,ntmps165;go_wp2;go_ret;exact⟨rfl,rfl⟩
theorem fK (N:Nat)(lo x:Int)(w:World)(h2:w.cell? ⟨N,2,none⟩=some (.int .i64 lo))(hl:-1048576<=lo/\lo<=1048576)(hx:-1099511627776<=x/\x<=1099511627776) :
  Calls prog 167 #[.int .i64 x,.pointer (some ⟨N,0,none⟩)] w fun e w'=>e=.returned (.int .i64 (lo*x))/\w' = w:=by
 have hm:=a6Z hl hx;have hw:wrap64 (lo*x)=lo*x:=nM (by omega);go_enter func167,ntmps167;go_wp2;go_ret;exact⟨rfl,rfl⟩
theorem eM (B nb:Nat)(v:Value)(xs:List Int)(w:World)(hB:B<=w.heap.size)(hx:jQ w B nb v xs)(hl:xs.length<=4096)(hbd:lZ 1099511627776 xs)(r:Int)(hr:iD xs=r) :
  Calls prog 168 #[v] w fun e w'=>e=.returned (.int .i64 r)/\w' = w:=by
 have HX:=qQ hx;have HR:=qQ hr;have HB:=qQ hbd;obtain⟨a,c,rfl,_⟩:=hx;clear hr hbd;go_enter func168,ntmps168;go_wp2
 go_loopw [3,8] (fun t s' wr=>∃ (i:Nat) (k:Int),t=.int .i64 k/\s' = .int .i64 (i:Int)/\i<=xs.length/\Hid (k+iD (xs.drop i)=r)/\Hid (-(i*1099511627776)<=k/\k<=i*1099511627776)/\wr=w) (fun _ s' _=>xs.length - (intOf s').toNat)
 case atStart=>exact⟨0,0,rfl,rfl,kQ _,by show _=_;rw[bP,Int.zero_add];exact HR.out,by show _/\_;omega,rfl⟩
 case round =>
  obtain⟨i,k,rfl,rfl,hi,HI,HK,rfl⟩:=hrel;by_cases h1:i<xs.length
  ·obtain⟨b,o,x,rfl,_,hb,hn,hg,hgd,hcell⟩:=HX.out.got h1
   have hxb:=HB.out x (rQ hg);obtain⟨k1,k2⟩:=HK.out;have b1:-9223372036854775808<=k+x:=by omega
   have b2:k+x<=9223372036854775807:=by omega
   have HI2:Hid (k+x+iD (xs.drop (i+1))=r):=by
    show _=_
    rw[<-HI.out,gJ h1,(cQ.1 hg).2];simp only[iD];omega
   have HK2:Hid (-((i+1:Nat)*1099511627776)<=k+x/\k+x<=(i+1:Nat)*1099511627776):=by show _/\_;omega
   clear hg hgd k1 k2 hxb;go_wp2
   go_roundw
   case rel=>exact⟨i+1,k+x,rfl,by go_num,h1,HI2,HK2,trivial⟩
   case measure=>simp[intOf];omega
  ·obtain rfl:k=r:=by have:=HI.out;rw[wI (by omega)] at this;simpa [iD] using this
   go_wp2;go_ret;exact⟨rfl,rfl⟩
theorem bB {zs:List Int}(hl:zs.length=xs.length)(hz:zs[i]? = some z):(zs.take i++xs.drop i).set i z=zs.take (i+1)++xs.drop (i+1):=by
 have hi:i<zs.length:=(cQ.1 hz).1;rw[iP _ _ (by rw[zL];omega),zL,Nat.min_eq_left (by omega),oN,gZ,hz,show xs.drop i=xs[i]::xs.drop (i+1) from gJ (by omega),List.set_cons_zero,vM];rfl
theorem dB {zs:List Int}(hl:zs.length=xs.length)(hx:xs[i]? = some x):(zs.take i++xs.drop i)[i]? = some x:=by
 have hi:i<xs.length:=(cQ.1 hx).1;rw[qF (by rw[zL];omega),zL,Nat.min_eq_left (by omega),oN,zK,oA,hx]
theorem diZ (lo g c B:Nat)(yv:Value)(xs ys:List Int)(w:World)(hx:mQ w lo g c xs)(hy:jQ w B g yv ys)(hl:xs.length=ys.length)(hbx:lZ 1099511627776 xs)(hby:lZ 1099511627776 ys) :
  Calls prog 163 #[.slice (some ⟨g,0,none⟩) xs.length c,yv,.func (.func 164) #[] #[]] w fun e w'=>e=.returned (.slice (some ⟨g,0,none⟩) xs.length c)/\mQ w' lo g c (List.zipWith (· + ·) xs ys)/\w.grownBy w' (some g):=by
 have HY:=qQ hy;have HX:=qQ hx;have HL:=qQ hl;have HZ:Hid ((List.zipWith (· + ·) xs ys).length=xs.length):=by show _=_;rw[List.length_zipWith];omega
 have HBX:=qQ hbx;have HBY:=qQ hby;obtain⟨_,_,_,hxc,hcm,_⟩:=hx.inv;rw[pM] at hcm;obtain⟨ya,yc,rfl,hyc,hyl,_⟩:=hy;have hxl:xs.length<=9223372036854775807:=by omega
 clear hx hl hbx hby;go_enter func163,ntmps163;go_wp2
 go_loopw [10] (fun s' wr=>∃ (i:Nat),s' = .int .i64 (i:Int)/\i<=xs.length/\Hid (mQ wr lo g c ((List.zipWith (· + ·) xs ys).take i++xs.drop i))/\Hid (w.grownBy wr (some g))) (fun s' _=>xs.length - (intOf s').toNat)
 case atStart=>exact⟨0,rfl,kQ _,by simpa [Hid] using HX.out,aM _ _⟩
 case round =>
  obtain⟨i,rfl,hi,HA,HG⟩:=hrel;by_cases h1:i<xs.length
  ·obtain⟨x,hgx⟩:=cX h1
   have h1y:i<ys.length:=by have:=HL.out;omega
   obtain⟨b,o,y,rfl,_,hbB,hbn,hgy,_,hcy⟩:=HY.out.got h1y;have cy:wr.cell? ⟨b,o+i,none⟩=some (.int .i64 y):=HG.out.cell hcy (by simpa using hbn);have cx:wr.cell? ⟨g,i,none⟩=some (.int .i64 x):=HA.out.cell (dB HZ.out hgx);have fx:wr.frozen? ⟨g,i,none⟩=false:=HA.out.fz i;have bx:=HBX.out x (rQ hgx);have b_y:=HBY.out y (rQ hgy);have kt:=diQ x y wr.drew (by omega) (by omega)
   have HA2:Hid (mQ ((wr.setCell ⟨g,i,none⟩ (.int .i64 (x+y))).drew) lo g c ((List.zipWith (· + ·) xs ys).take (i+1)++xs.drop (i+1))):=by
    have hz:(List.zipWith (· + ·) xs ys)[i]? = some (x+y):=by rw[List.getElem?_zipWith,hgx,hgy]
    rw[<-bB HZ.out hz];exact(HA.out.set i _).at (aQ _ _).drew
   have HG2:Hid (w.grownBy ((wr.setCell ⟨g,i,none⟩ (.int .i64 (x+y))).drew) (some g)):=eJ (nQ HG.out _ _);clear hgx hgy hcy bx b_y;go_wp2
   go_region_law (first|(go_simp;go_at_call 164;refine kt.mono ?_;rintro x3 w3 ⟨rfl,hw3⟩;subst hw3;go_wp2_with fail))
   all_goals
    go_wp2
    go_roundw
    case rel=>exact⟨i+1,by go_num,h1,HA2,HG2⟩
    case measure=>simp[intOf];omega
  ·have HA2:Hid (mQ wr lo g c (List.zipWith (· + ·) xs ys)):=by
    have:=HA.out;rwa [wI (by omega),yU,pJ (by rw[HZ.out];omega)] at this
   go_wp2;go_ret;exact⟨rfl,HA2.out,HG.out⟩
theorem diJ (lo g c B:Nat)(yv:Value)(xs ys:List Int)(w:World)(hx:mQ w lo g c xs)(hy:jQ w B g yv ys)(hl:xs.length=ys.length)(hbx:lZ 1099511627776 xs)(hby:lZ 1099511627776 ys) :
  Calls prog 163 #[.slice (some ⟨g,0,none⟩) xs.length c,yv,.func (.func 165) #[] #[]] w fun e w'=>e=.returned (.slice (some ⟨g,0,none⟩) xs.length c)/\mQ w' lo g c (List.zipWith (· - ·) xs ys)/\w.grownBy w' (some g):=by
 have HY:=qQ hy;have HX:=qQ hx;have HL:=qQ hl;have HZ:Hid ((List.zipWith (· - ·) xs ys).length=xs.length):=by show _=_;rw[List.length_zipWith];omega
 have HBX:=qQ hbx;have HBY:=qQ hby;obtain⟨_,_,_,hxc,hcm,_⟩:=hx.inv;rw[pM] at hcm;obtain⟨ya,yc,rfl,hyc,hyl,_⟩:=hy;have hxl:xs.length<=9223372036854775807:=by omega
 clear hx hl hbx hby;go_enter func163,ntmps163;go_wp2
 go_loopw [10] (fun s' wr=>∃ (i:Nat),s' = .int .i64 (i:Int)/\i<=xs.length/\Hid (mQ wr lo g c ((List.zipWith (· - ·) xs ys).take i++xs.drop i))/\Hid (w.grownBy wr (some g))) (fun s' _=>xs.length - (intOf s').toNat)
 case atStart=>exact⟨0,rfl,kQ _,by simpa [Hid] using HX.out,aM _ _⟩
 case round =>
  obtain⟨i,rfl,hi,HA,HG⟩:=hrel;by_cases h1:i<xs.length
  ·obtain⟨x,hgx⟩:=cX h1
   have h1y:i<ys.length:=by have:=HL.out;omega
   obtain⟨b,o,y,rfl,_,hbB,hbn,hgy,_,hcy⟩:=HY.out.got h1y;have cy:wr.cell? ⟨b,o+i,none⟩=some (.int .i64 y):=HG.out.cell hcy (by simpa using hbn);have cx:wr.cell? ⟨g,i,none⟩=some (.int .i64 x):=HA.out.cell (dB HZ.out hgx);have fx:wr.frozen? ⟨g,i,none⟩=false:=HA.out.fz i;have bx:=HBX.out x (rQ hgx);have b_y:=HBY.out y (rQ hgy);have kt:=diX x y wr.drew (by omega) (by omega)
   have HA2:Hid (mQ ((wr.setCell ⟨g,i,none⟩ (.int .i64 (x - y))).drew) lo g c ((List.zipWith (· - ·) xs ys).take (i+1)++xs.drop (i+1))):=by
    have hz:(List.zipWith (· - ·) xs ys)[i]? = some (x - y):=by rw[List.getElem?_zipWith,hgx,hgy]
    rw[<-bB HZ.out hz];exact(HA.out.set i _).at (aQ _ _).drew
   have HG2:Hid (w.grownBy ((wr.setCell ⟨g,i,none⟩ (.int .i64 (x - y))).drew) (some g)):=eJ (nQ HG.out _ _);clear hgx hgy hcy bx b_y;go_wp2
   go_region_law (first|(go_simp;go_at_call 165;refine kt.mono ?_;rintro x3 w3 ⟨rfl,hw3⟩;subst hw3;go_wp2_with fail))
   all_goals
    go_wp2
    go_roundw
    case rel=>exact⟨i+1,by go_num,h1,HA2,HG2⟩
    case measure=>simp[intOf];omega
  ·have HA2:Hid (mQ wr lo g c (List.zipWith (· - ·) xs ys)):=by
    have:=HA.out;rwa [wI (by omega),yU,pJ (by rw[HZ.out];omega)] at this
   go_wp2;go_ret;exact⟨rfl,HA2.out,HG.out⟩
theorem djQ (lo0 g c N:Nat)(xs:List Int)(w:World)(hx:mQ w lo0 g c xs)(lo:Int)(hbx:lZ 1099511627776 xs)(h2:w.cell? ⟨N,2,none⟩=some (.int .i64 lo))(hlo:-1048576<=lo/\lo<=1048576)(hN:N≠g) :
  Calls prog 166 #[.slice (some ⟨g,0,none⟩) xs.length c,.func (.func 167) #[] #[.pointer (some ⟨N,0,none⟩)]] w fun e w'=>e=.returned (.slice (some ⟨g,0,none⟩) xs.length c)/\mQ w' lo0 g c (xs.map (lo * ·))/\w.grownBy w' (some g):=by
 have HX:=qQ hx;have HZ:Hid ((xs.map (lo * ·)).length=xs.length):=by show _=_;simp
 have HBX:=qQ hbx;obtain⟨_,_,_,hxc,hcm,_⟩:=hx.inv;rw[pM] at hcm;have hxl:xs.length<=9223372036854775807:=by omega
 have H2:=qQ h2;clear h2;clear hx hbx;go_enter func166,ntmps166;go_wp2
 go_loopw [8] (fun s' wr=>∃ (i:Nat),s' = .int .i64 (i:Int)/\i<=xs.length/\Hid (mQ wr lo0 g c ((xs.map (lo * ·)).take i++xs.drop i))/\Hid (w.grownBy wr (some g))) (fun s' _=>xs.length - (intOf s').toNat)
 case atStart=>exact⟨0,rfl,kQ _,by simpa [Hid] using HX.out,aM _ _⟩
 case round =>
  obtain⟨i,rfl,hin,HA,HG⟩:=hrel;by_cases h1:i<xs.length
  ·obtain⟨x,hgx⟩:=cX h1
   have cx:wr.cell? ⟨g,i,none⟩=some (.int .i64 x):=HA.out.cell (dB HZ.out hgx);have fx:wr.frozen? ⟨g,i,none⟩=false:=HA.out.fz i;have bx:=HBX.out x (rQ hgx);have kt:=fK N lo x wr (HG.out.cell H2.out (by simpa using hN)) hlo bx
   have HA2:Hid (mQ (wr.setCell ⟨g,i,none⟩ (.int .i64 ((lo * ·) x))) lo0 g c ((xs.map (lo * ·)).take (i+1)++xs.drop (i+1))):=by
    have hz:(xs.map (lo * ·))[i]? = some ((lo * ·) x):=by rw[dA,hgx];rfl
    rw[<-bB HZ.out hz];exact HA.out.set i _
   have HG2:Hid (w.grownBy (wr.setCell ⟨g,i,none⟩ (.int .i64 ((lo * ·) x))) (some g)):=nQ HG.out _ _;clear hgx bx;obtain⟨z,hz⟩:∃ z,(lo * ·) x=z:=⟨_,rfl⟩;rw[hz] at HA2 HG2;rw[show(lo*x:Int)=z from hz] at kt;clear hz;go_wp2_with fail;refine kt.mono ?_;rintro e w3 ⟨rfl,hw3⟩;subst hw3;clear kt;go_wp2
   go_roundw
   case rel=>exact⟨i+1,by go_num,h1,HA2,HG2⟩
   case measure=>simp[intOf];omega
  ·have HA2:Hid (mQ wr lo0 g c (xs.map (lo * ·))):=by
    have:=HA.out;rwa [wI (by omega),yU,pJ (by rw[HZ.out];omega)] at this
   go_wp2;go_ret;exact⟨rfl,HA2.out,HG.out⟩
theorem djX (lo0 g c N:Nat)(xs:List Int)(w:World)(hx:mQ w lo0 g c xs)(lo hi:Int)(hbx:lZ 1099511627776 xs)(h2:w.cell? ⟨N,2,none⟩=some (.int .i64 lo))(h3:w.cell? ⟨N,3,none⟩=some (.int .i64 hi))(hle:lo<=hi)(hN:N≠g) :
  Calls prog 166 #[.slice (some ⟨g,0,none⟩) xs.length c,.func (.func 157) #[] #[.pointer (some ⟨N,0,none⟩)]] w fun e w'=>e=.returned (.slice (some ⟨g,0,none⟩) xs.length c)/\mQ w' lo0 g c (xs.map (bV lo hi))/\w.grownBy w' (some g):=by
 have HX:=qQ hx;have HZ:Hid ((xs.map (bV lo hi)).length=xs.length):=by show _=_;simp
 have HBX:=qQ hbx;obtain⟨_,_,_,hxc,hcm,_⟩:=hx.inv;rw[pM] at hcm;have hxl:xs.length<=9223372036854775807:=by omega
 have H2:=qQ h2;have H3:=qQ h3;clear h2 h3;clear hx hbx;go_enter func166,ntmps166;go_wp2
 go_loopw [8] (fun s' wr=>∃ (i:Nat),s' = .int .i64 (i:Int)/\i<=xs.length/\Hid (mQ wr lo0 g c ((xs.map (bV lo hi)).take i++xs.drop i))/\Hid (w.grownBy wr (some g))) (fun s' _=>xs.length - (intOf s').toNat)
 case atStart=>exact⟨0,rfl,kQ _,by simpa [Hid] using HX.out,aM _ _⟩
 case round =>
  obtain⟨i,rfl,hin,HA,HG⟩:=hrel;by_cases h1:i<xs.length
  ·obtain⟨x,hgx⟩:=cX h1
   have cx:wr.cell? ⟨g,i,none⟩=some (.int .i64 x):=HA.out.cell (dB HZ.out hgx);have fx:wr.frozen? ⟨g,i,none⟩=false:=HA.out.fz i;have bx:=HBX.out x (rQ hgx);have kt:=bR N lo hi x wr (HG.out.cell H2.out (by simpa using hN)) (HG.out.cell H3.out (by simpa using hN)) hle
   have HA2:Hid (mQ (wr.setCell ⟨g,i,none⟩ (.int .i64 ((bV lo hi) x))) lo0 g c ((xs.map (bV lo hi)).take (i+1)++xs.drop (i+1))):=by
    have hz:(xs.map (bV lo hi))[i]? = some ((bV lo hi) x):=by rw[dA,hgx];rfl
    rw[<-bB HZ.out hz];exact HA.out.set i _
   have HG2:Hid (w.grownBy (wr.setCell ⟨g,i,none⟩ (.int .i64 ((bV lo hi) x))) (some g)):=nQ HG.out _ _;clear hgx bx;obtain⟨z,hz⟩:∃ z,(bV lo hi) x=z:=⟨_,rfl⟩;rw[hz] at HA2 HG2;rw[show(bV lo hi x:Int)=z from hz] at kt;clear hz;go_wp2_with fail;refine kt.mono ?_;rintro e w3 ⟨rfl,hw3⟩;subst hw3;clear kt;go_wp2
   go_roundw
   case rel=>exact⟨i+1,by go_num,h1,HA2,HG2⟩
   case measure=>simp[intOf];omega
  ·have HA2:Hid (mQ wr lo0 g c (xs.map (bV lo hi))):=by
    have:=HA.out;rwa [wI (by omega),yU,pJ (by rw[HZ.out];omega)] at this
   go_wp2;go_ret;exact⟨rfl,HA2.out,HG.out⟩
structure Ab (W:World) (N:Nat) (cv rv:Value) (k:Int) (c:ByteArray) (lo hi:Int) (wv kv:Value):Prop where
 t0:Cl W N 0 cv
 t1:Cl W N 1 rv
 a0:Cl W (N+1) 0 (.int .i64 k)
 a1:Cl W (N+1) 1 (.string c)
 a2:Cl W (N+1) 2 (.int .i64 lo)
 a3:Cl W (N+1) 3 (.int .i64 hi)
 a4:Cl W (N+1) 4 wv
 a5:Cl W (N+1) 5 kv
 f0:Cl W (N+1+1) 0 (.func (.func 157) #[] #[.pointer (some ⟨N+1,0,none⟩)])
theorem Ab.at {rv:Value}{lo hi:Int}(h:Ab W N cv rv k c lo hi wv kv)(hb:Below W.heap.size W W'):Ab W' N cv rv k c lo hi wv kv :=
 ⟨h.t0.at hb,h.t1.at hb,h.a0.at hb,h.a1.at hb,h.a2.at hb,h.a3.at hb,h.a4.at hb,h.a5.at hb,h.f0.at hb⟩
theorem Ab.new (w:World)(cv rv:Value)(k:Int)(c:ByteArray)(lo hi:Int)(wv kv:Value):Ab (((w.alloc (.cells #[cv,rv] 25)).alloc (.cells #[.int .i64 k,.string c,.int .i64 lo,.int .i64 hi,wv,kv] 52)).alloc (.cells #[.func (.func 157) #[] #[.pointer (some ⟨w.heap.size+1,0,none⟩)]] 253)) w.heap.size cv rv k c lo hi wv kv:=by
 constructor
 all_goals first
  | exact((Cl.new _ 25 _ _ rfl rfl).at (ba _ _)).at (ba _ _)
  | exact(Cl.new _ 52 _ _ (by simp) rfl).at (ba _ _)
  | exact Cl.new _ 253 _ _ (by simp) rfl
theorem iI (w:World)(o1 o2 o3:Obj):Below w.heap.size w (((w.alloc o1).alloc o2).alloc o3):=bal (bal (ba _ _) _) _
theorem djZ (c:ByteArray)(lo hi:Int)(cv rv wv kv:Value)(w:World)(B:Nat)(l:List yQ)(ts:List Rw)(wh:List aZ)(hB:B<=w.heap.size)(hp:tQ w B cv l)(hr:zX w B rv ts)(hw:qJ w B wv wh)(hlen:ts.length<=4096)(hok:∀ r∈rr ts,dY l r)(hkv:∃ a n cc,kv=.slice a n cc)(hwe:wY l wh=0) :
  Calls prog 94 #[.agg #[cv,rv],.agg #[.int .i64 1,.string c,.int .i64 lo,.int .i64 hi,wv,kv]] w (yZ w (gat 1 (wh.map (trp l)) (stp 1 0 0 0) (rr ts))):=by
 have ab:=Ab.new w cv rv 1 c lo hi wv kv;have hb0:=iI w (.cells #[cv,rv] 25) (.cells #[.int .i64 1,.string c,.int .i64 lo,.int .i64 hi,wv,kv] 52) (.cells #[.func (.func 157) #[] #[.pointer (some ⟨w.heap.size+1,0,none⟩)]] 253);have k1:=dgZ B cv rv wv l ts wh (((w.alloc (.cells #[cv,rv] 25)).alloc (.cells #[.int .i64 1,.string c,.int .i64 lo,.int .i64 hi,wv,kv] 52)).alloc (.cells #[.func (.func 157) #[] #[.pointer (some ⟨w.heap.size+1,0,none⟩)]] 253)) (bQ hB hb0.size) (hp.at hB hb0) (hr.at hB hb0) (hw.at hB hb0) hwe hlen hok;obtain⟨ca,ccp,rfl,hcc1,hcc2⟩:=hp.slice;obtain⟨ra,rc,rfl,_⟩:=hr.slice;obtain⟨wa,wc,rfl,_⟩:=hw.slice;obtain⟨ka,kn,kc',rfl⟩:=hkv;have hmf:=hmf;clear hp hr hw hok ab hwe;go_enter func94,ntmps94;go_wp2_with fail;refine k1.mono ?_;rintro e w1 ⟨g,cc,rfl,hA,hb1⟩;clear k1;go_wp2;go_ret;exact yZ.up ⟨g,cc,rfl,hA,hb1⟩ hb0
theorem djJ (c:ByteArray)(lo hi:Int)(cv rv wv kv:Value)(w:World)(B:Nat)(l:List yQ)(ts:List Rw)(wh:List aZ)(hB:B<=w.heap.size)(hp:tQ w B cv l)(hr:zX w B rv ts)(hw:qJ w B wv wh)(hlen:ts.length<=4096)(hok:∀ r∈rr ts,dY l r)(hkv:∃ a n cc,kv=.slice a n cc)(hwe:wY l wh=0)(at':Nat)(hf:fnd l c=some at')(hwr:nY lo hi=true) :
  Calls prog 94 #[.agg #[cv,rv],.agg #[.int .i64 2,.string c,.int .i64 lo,.int .i64 hi,wv,kv]] w (yZ w (gat 1 (wh.map (trp l)) (stp 2 at' lo hi) (rr ts))):=by
 have ab:=Ab.new w cv rv 2 c lo hi wv kv;have hb0:=iI w (.cells #[cv,rv] 25) (.cells #[.int .i64 2,.string c,.int .i64 lo,.int .i64 hi,wv,kv] 52) (.cells #[.func (.func 157) #[] #[.pointer (some ⟨w.heap.size+1,0,none⟩)]] 253);have k1:=cO B cv l c (((w.alloc (.cells #[cv,rv] 25)).alloc (.cells #[.int .i64 2,.string c,.int .i64 lo,.int .i64 hi,wv,kv] 52)).alloc (.cells #[.func (.func 157) #[] #[.pointer (some ⟨w.heap.size+1,0,none⟩)]] 253)) (bQ hB hb0.size) (hp.at hB hb0) at' hf;have HP:=qQ hp;have HR:=qQ hr;have HW:=qQ hw;have HOK:=qQ hok;have hal:=iK hf;obtain⟨ca,ccp,rfl,hcc1,hcc2⟩:=hp.slice;obtain⟨ra,rc,rfl,_⟩:=hr.slice;obtain⟨wa,wc,rfl,_⟩:=hw.slice;obtain⟨ka,kn,kc',rfl⟩:=hkv;have hmf:=hmf;clear hp hr hw hok hf;go_enter func94,ntmps94;go_wp2_with fail;refine k1.mono ?_;rintro e w1 ⟨rfl,hb1⟩;clear k1;have hb2:=bal hb1 (.cells #[.int .i64 (at':Int)] 3);have ab2:=ab.at hb2;have hbw:=bt hb0 hb2;have hI:Cl (w1.alloc (.cells #[.int .i64 (at':Int)] 3)) w1.heap.size 0 (.int .i64 (at':Int)):=Cl.new _ 3 _ _ rfl rfl;have k2:=dgJ B _ _ _ l ts wh _ (bQ hB hbw.size) (HP.out.at hB hbw) (HR.out.at hB hbw) (HW.out.at hB hbw) hwe hlen HOK.out _ _ _ at' lo hi ab2.f0 hI ab2.a2 ab2.a3 hwr hal;have m0:=ab2.t0.c;have m1:=ab2.t1.c;have m2:=ab2.a4.c;clear ab ab2 hI hb1 hb2 hb0;go_wp2_with fail;refine k2.mono ?_;rintro e w3 ⟨g,cc,rfl,hA,hb3⟩;clear k2;go_wp2;go_ret;exact yZ.up ⟨g,cc,rfl,hA,hb3⟩ hbw
theorem dkQ (c:ByteArray)(lo hi:Int)(cv rv wv kv:Value)(w:World)(B:Nat)(l:List yQ)(ts:List Rw)(wh:List aZ)(hB:B<=w.heap.size)(hp:tQ w B cv l)(hr:zX w B rv ts)(hw:qJ w B wv wh)(hlen:ts.length<=4096)(hok:∀ r∈rr ts,dY l r)(hkv:∃ a n cc,kv=.slice a n cc)(hwe:wY l wh=0)(at':Nat)(hf:fnd l c=some at')(n:Nat)(hn:n<=4096)(hnc:hU l at' = (n:Int)) :
  Calls prog 94 #[.agg #[cv,rv],.agg #[.int .i64 3,.string c,.int .i64 lo,.int .i64 hi,wv,kv]] w (yZ w (gat n (wh.map (trp l)) (stp 3 at' 0 0) (rr ts))):=by
 have ab:=Ab.new w cv rv 3 c lo hi wv kv;have hb0:=iI w (.cells #[cv,rv] 25) (.cells #[.int .i64 3,.string c,.int .i64 lo,.int .i64 hi,wv,kv] 52) (.cells #[.func (.func 157) #[] #[.pointer (some ⟨w.heap.size+1,0,none⟩)]] 253);have k1:=cO B cv l c (((w.alloc (.cells #[cv,rv] 25)).alloc (.cells #[.int .i64 3,.string c,.int .i64 lo,.int .i64 hi,wv,kv] 52)).alloc (.cells #[.func (.func 157) #[] #[.pointer (some ⟨w.heap.size+1,0,none⟩)]] 253)) (bQ hB hb0.size) (hp.at hB hb0) at' hf;have HP:=qQ hp;have HR:=qQ hr;have HW:=qQ hw;have HOK:=qQ hok;have hal:=iK hf;have HNC:=qQ hnc;obtain⟨ca,ccp,rfl,hcc1,hcc2⟩:=hp.slice;obtain⟨ra,rc,rfl,_⟩:=hr.slice;obtain⟨wa,wc,rfl,_⟩:=hw.slice;obtain⟨ka,kn,kc',rfl⟩:=hkv;have hmf:=hmf;clear hp hr hw hok hf hnc;go_enter func94,ntmps94;go_wp2_with fail;refine k1.mono ?_;rintro e w1 ⟨rfl,hb1⟩;clear k1;have hb2:=bal hb1 (.cells #[.int .i64 (at':Int)] 3);have ab2:=ab.at hb2;have hbw:=bt hb0 hb2;have hI:Cl (w1.alloc (.cells #[.int .i64 (at':Int)] 3)) w1.heap.size 0 (.int .i64 (at':Int)):=Cl.new _ 3 _ _ rfl rfl;obtain⟨b,o,nm,sz,rfl,hb,hgt,c1,c2,hnm⟩:=HP.out.get hB hbw hal;obtain rfl:sz=(n:Int):=by have:=HNC.out;simpa [hU,hgt] using this
 obtain⟨W2,hW2⟩:∃ W2,w1.alloc (.cells #[.int .i64 (at':Int)] 3)=W2:=⟨_,rfl⟩;have hbd:Below w.heap.size w W2.drew:=by rw[<-hW2];exact hbw.drew
 have abd:Ab W2.drew w.heap.size (.slice (some ⟨b,o,none⟩) l.length ccp) (.slice ra ts.length rc) 3 c lo hi (.slice wa wh.length wc) (.slice ka kn kc'):=by rw[<-hW2];exact ab2.at (aQ _ _).drew
 have hId:Cl W2.drew w1.heap.size 0 (.int .i64 (at':Int)):=by rw[<-hW2];exact hI.at (aQ _ _).drew
 have k2:=dhQ B _ _ _ l ts wh n hn W2.drew (bQ hB hbd.size) (HP.out.at hB hbd) (HR.out.at hB hbd) (HW.out.at hB hbd) hwe hlen HOK.out w1.heap.size at' (nm,(n:Int)) hId hgt rfl;have HW2:=qQ hW2;have d0:W2.drew.cell? ⟨b,o+at' * 2+1,none⟩=some (.int .i64 (n:Int)):=by rw[<-hW2];exact c2
 rw[hW2] at c1 c2 hbw;have m0:W2.cell? ⟨w.heap.size,0,none⟩=_:=abd.t0.c;have m1:W2.cell? ⟨w.heap.size,1,none⟩=_:=abd.t1.c;have m2:W2.cell? ⟨w.heap.size+1,4,none⟩=_:=abd.a4.c;have m3:W2.cell? ⟨w1.heap.size,0,none⟩=_:=hId.c;have lN:w.heap.size<W2.heap.size:=abd.t0.lt;have lN1:w.heap.size+1<W2.heap.size:=abd.a4.lt;have lI:w1.heap.size<W2.heap.size:=hId.lt;have lb:b<W2.heap.size:=uX hb (bQ hB hbd.size);have hbI:(0:Int)<=(at':Int):=by omega
 have hbI2:(at':Int)<(l.length:Int):=by omega
 clear ab ab2 hI hb1 hb2 hb0 abd hId hgt d0 HNC;go_wp2;clear HW2 hW2
 go_region_held3 (fun w'=>w'.cell? ⟨w.heap.size,0,none⟩=some (.slice (some ⟨b,o,none⟩) l.length ccp)/\w'.cell? ⟨w.heap.size,1,none⟩=some (.slice ra ts.length rc)/\w'.cell? ⟨w.heap.size+1,4,none⟩=some (.slice wa wh.length wc)/\w'.cell? ⟨w1.heap.size,0,none⟩=some (.int .i64 (at':Int))/\w'.cell? ⟨b,o+at' * 2+1,none⟩=some (.int .i64 (n:Int))) (first|assumption|(simp[go_sem, *];done)) ((go_at_call 159;refine k2.mono ?_;rintro x3 w3 hA;obtain⟨g3,c3',rfl,hA3,hb3⟩:=hA;have z0:=(hb3.cell (p:=⟨w.heap.size,0,none⟩) lN).trans m0;have z1:=(hb3.cell (p:=⟨w.heap.size,1,none⟩) lN).trans m1;have z2:=(hb3.cell (p:=⟨w.heap.size+1,4,none⟩) lN1).trans m2;have z3:=(hb3.cell (p:=⟨w1.heap.size,0,none⟩) lI).trans m3;have z4:=(hb3.cell (p:=⟨b,o+at' * 2+1,none⟩) lb).trans c2))
 go_wp2;go_ret;exact yZ.up ⟨g3,c3',rfl,hA3,hb3⟩ hbd
theorem eB {w w1 w2:World}{c:Nat}(hW:Below w.heap.size w W)(hb1:Below W.heap.size W w1)(hg:W.heap.size<=g)(hgr:w1.grownBy w2 (some g))(hA:mQ w2 W.heap.size g c xs):yZ w xs (.returned (.slice (some ⟨g,0,none⟩) xs.length c)) w2 :=
 ⟨g,c,rfl,hA.mono hW.size,(bt hW hb1).trans (aF hgr (bQ hW.size hg) (bQ hW.size hb1.size))⟩
theorem dkX (c:ByteArray)(lo hi:Int)(cv rv wv:Value)(b o cap:Nat)(w:World)(B:Nat)(l:List yQ)(ts:List Rw)(wh:List aZ)(hB:B<=w.heap.size)(hp:tQ w B cv l)(hr:zX w B rv ts)(hw:qJ w B wv wh)(hbB:b<B)(x:Qu)(u0 u1 u2 u3 u4 u5:Value)(hu:zY w b o u0 u1 u2 u3 u4 u5)(hqx:Qm w B x u0 u1 u2 u3 u4 u5)(xs:List Int)(kx:∀ W,Below w.heap.size w W->Calls prog 94 #[.agg #[cv,rv],.agg #[u0,u1,u2,u3,u4,u5]] W (yZ W xs))(y:Qu)(z0 z1 z2 z3 z4 z5:Value)(hz:zY w b (o+6) z0 z1 z2 z3 z4 z5)(hqy:Qm w B y z0 z1 z2 z3 z4 z5)(ys:List Int)(ky:∀ W,Below w.heap.size w W->Calls prog 94 #[.agg #[cv,rv],.agg #[z0,z1,z2,z3,z4,z5]] W (yZ W ys))(hbx:lZ 1099511627776 xs)(hby:lZ 1099511627776 ys)(hl:xs.length=ys.length) :
  Calls prog 94 #[.agg #[cv,rv],.agg #[.int .i64 4,.string c,.int .i64 lo,.int .i64 hi,wv,.slice (some ⟨b,o,none⟩) 2 cap]] w (yZ w (List.zipWith (· + ·) xs ys)):=by
 have ab:=Ab.new w cv rv 4 c lo hi wv (.slice (some ⟨b,o,none⟩) 2 cap);have hb0:=iI w (.cells #[cv,rv] 25) (.cells #[.int .i64 4,.string c,.int .i64 lo,.int .i64 hi,wv,.slice (some ⟨b,o,none⟩) 2 cap] 52) (.cells #[.func (.func 157) #[] #[.pointer (some ⟨w.heap.size+1,0,none⟩)]] 253);obtain⟨W0,hW0⟩:∃ W0,(((w.alloc (.cells #[cv,rv] 25)).alloc (.cells #[.int .i64 4,.string c,.int .i64 lo,.int .i64 hi,wv,.slice (some ⟨b,o,none⟩) 2 cap] 52)).alloc (.cells #[.func (.func 157) #[] #[.pointer (some ⟨w.heap.size+1,0,none⟩)]] 253))=W0:=⟨_,rfl⟩;rw[hW0] at ab hb0;have HW0:=qQ hW0;have k1:=oK w.heap.size (w.heap.size+1) cv rv b o 2 cap (by omega) xs W0 ab.t0.c ab.t1.c ab.a5.c B x u0 u1 u2 u3 u4 u5 (hu.keep hb0 (uX hbB hB)) (hqx.at hB hb0) l ts (hp.at hB hb0) (hr.at hB hb0) (kx _ hb0.drew)
 have HK:∀ w1,Below W0.heap.size W0 w1->Calls prog 158 #[.int .i64 1,.pointer (some ⟨w.heap.size,0,none⟩),.pointer (some ⟨w.heap.size+1,0,none⟩)] w1 (yZ w1 ys):=fun w1 hb1 =>
  m9 w.heap.size (w.heap.size+1) cv rv b o 2 cap (by omega) ys w1 (ab.at hb1).t0.c (ab.at hb1).t1.c (ab.at hb1).a5.c B y z0 z1 z2 z3 z4 z5 (hz.keep (bt hb0 hb1) (uX hbB hB)) (hqy.at hB (bt hb0 hb1)) l ts (hp.at hB (bt hb0 hb1)) (hr.at hB (bt hb0 hb1)) (ky _ (bt hb0 hb1).drew)
 have HAB:=qQ ab;obtain⟨ca,ccp,rfl,_⟩:=hp.slice;obtain⟨ra,rc,rfl,_⟩:=hr.slice;obtain⟨wa,wc,rfl,_⟩:=hw.slice;have hmf:=hmf;have m0:=HAB.out.a0.c;clear hp hr hw hu hqx kx ab hz hqy ky;go_enter func94,ntmps94;have HL:=qQ hl;clear hl;go_wp2_with fail;refine k1.mono ?_;rintro e w1 ⟨g1,c1,rfl,hA1,hb1⟩;clear k1;have hg1:=hA1.lt;have k2:=HK w1 hb1;clear HK;go_wp2_with fail;refine k2.mono ?_;rintro e w2 ⟨g2,c2,rfl,hA2,hb2⟩;clear k2;have hg2:=hA2.lt;have hA12:=hA1.at hb2;have hbw:=bt hb1 hb2;have k3:=diZ W0.heap.size g1 c1 w2.heap.size _ xs ys w2 hA12 (hA2.ints g1 (by omega)) HL.out hbx hby;go_wp2_with fail;refine k3.mono ?_;rintro e w3 ⟨rfl,hA3,hgr⟩;clear k3;go_wp2;go_ret;have hle:(List.zipWith (· + ·) xs ys).length=xs.length:=by rw[List.length_zipWith];have:=HL.out;omega
 have:=eB hb0 hbw hg1.1 hgr hA3;rw[hle] at this;exact this
theorem dkZ (c:ByteArray)(lo hi:Int)(cv rv wv:Value)(b o cap:Nat)(w:World)(B:Nat)(l:List yQ)(ts:List Rw)(wh:List aZ)(hB:B<=w.heap.size)(hp:tQ w B cv l)(hr:zX w B rv ts)(hw:qJ w B wv wh)(hbB:b<B)(x:Qu)(u0 u1 u2 u3 u4 u5:Value)(hu:zY w b o u0 u1 u2 u3 u4 u5)(hqx:Qm w B x u0 u1 u2 u3 u4 u5)(xs:List Int)(kx:∀ W,Below w.heap.size w W->Calls prog 94 #[.agg #[cv,rv],.agg #[u0,u1,u2,u3,u4,u5]] W (yZ W xs))(y:Qu)(z0 z1 z2 z3 z4 z5:Value)(hz:zY w b (o+6) z0 z1 z2 z3 z4 z5)(hqy:Qm w B y z0 z1 z2 z3 z4 z5)(ys:List Int)(ky:∀ W,Below w.heap.size w W->Calls prog 94 #[.agg #[cv,rv],.agg #[z0,z1,z2,z3,z4,z5]] W (yZ W ys))(hbx:lZ 1099511627776 xs)(hby:lZ 1099511627776 ys)(hl:xs.length=ys.length) :
  Calls prog 94 #[.agg #[cv,rv],.agg #[.int .i64 5,.string c,.int .i64 lo,.int .i64 hi,wv,.slice (some ⟨b,o,none⟩) 2 cap]] w (yZ w (List.zipWith (· - ·) xs ys)):=by
 have ab:=Ab.new w cv rv 5 c lo hi wv (.slice (some ⟨b,o,none⟩) 2 cap);have hb0:=iI w (.cells #[cv,rv] 25) (.cells #[.int .i64 5,.string c,.int .i64 lo,.int .i64 hi,wv,.slice (some ⟨b,o,none⟩) 2 cap] 52) (.cells #[.func (.func 157) #[] #[.pointer (some ⟨w.heap.size+1,0,none⟩)]] 253);obtain⟨W0,hW0⟩:∃ W0,(((w.alloc (.cells #[cv,rv] 25)).alloc (.cells #[.int .i64 5,.string c,.int .i64 lo,.int .i64 hi,wv,.slice (some ⟨b,o,none⟩) 2 cap] 52)).alloc (.cells #[.func (.func 157) #[] #[.pointer (some ⟨w.heap.size+1,0,none⟩)]] 253))=W0:=⟨_,rfl⟩;rw[hW0] at ab hb0;have HW0:=qQ hW0;have k1:=oK w.heap.size (w.heap.size+1) cv rv b o 2 cap (by omega) xs W0 ab.t0.c ab.t1.c ab.a5.c B x u0 u1 u2 u3 u4 u5 (hu.keep hb0 (uX hbB hB)) (hqx.at hB hb0) l ts (hp.at hB hb0) (hr.at hB hb0) (kx _ hb0.drew)
 have HK:∀ w1,Below W0.heap.size W0 w1->Calls prog 158 #[.int .i64 1,.pointer (some ⟨w.heap.size,0,none⟩),.pointer (some ⟨w.heap.size+1,0,none⟩)] w1 (yZ w1 ys):=fun w1 hb1 =>
  m9 w.heap.size (w.heap.size+1) cv rv b o 2 cap (by omega) ys w1 (ab.at hb1).t0.c (ab.at hb1).t1.c (ab.at hb1).a5.c B y z0 z1 z2 z3 z4 z5 (hz.keep (bt hb0 hb1) (uX hbB hB)) (hqy.at hB (bt hb0 hb1)) l ts (hp.at hB (bt hb0 hb1)) (hr.at hB (bt hb0 hb1)) (ky _ (bt hb0 hb1).drew)
 have HAB:=qQ ab;obtain⟨ca,ccp,rfl,_⟩:=hp.slice;obtain⟨ra,rc,rfl,_⟩:=hr.slice;obtain⟨wa,wc,rfl,_⟩:=hw.slice;have hmf:=hmf;have m0:=HAB.out.a0.c;clear hp hr hw hu hqx kx ab hz hqy ky;go_enter func94,ntmps94;have HL:=qQ hl;clear hl;go_wp2_with fail;refine k1.mono ?_;rintro e w1 ⟨g1,c1,rfl,hA1,hb1⟩;clear k1;have hg1:=hA1.lt;have k2:=HK w1 hb1;clear HK;go_wp2_with fail;refine k2.mono ?_;rintro e w2 ⟨g2,c2,rfl,hA2,hb2⟩;clear k2;have hg2:=hA2.lt;have hA12:=hA1.at hb2;have hbw:=bt hb1 hb2;have k3:=diJ W0.heap.size g1 c1 w2.heap.size _ xs ys w2 hA12 (hA2.ints g1 (by omega)) HL.out hbx hby;go_wp2_with fail;refine k3.mono ?_;rintro e w3 ⟨rfl,hA3,hgr⟩;clear k3;go_wp2;go_ret;have hle:(List.zipWith (· - ·) xs ys).length=xs.length:=by rw[List.length_zipWith];have:=HL.out;omega
 have:=eB hb0 hbw hg1.1 hgr hA3;rw[hle] at this;exact this
theorem dkJ (c:ByteArray)(lo hi:Int)(cv rv wv:Value)(b o cap:Nat)(w:World)(B:Nat)(l:List yQ)(ts:List Rw)(wh:List aZ)(hB:B<=w.heap.size)(hp:tQ w B cv l)(hr:zX w B rv ts)(hw:qJ w B wv wh)(hbB:b<B)(x:Qu)(u0 u1 u2 u3 u4 u5:Value)(hu:zY w b o u0 u1 u2 u3 u4 u5)(hqx:Qm w B x u0 u1 u2 u3 u4 u5)(xs:List Int)(kx:∀ W,Below w.heap.size w W->Calls prog 94 #[.agg #[cv,rv],.agg #[u0,u1,u2,u3,u4,u5]] W (yZ W xs))(hbx:lZ 1099511627776 xs)(hlo:-1048576<=lo/\lo<=1048576) :
  Calls prog 94 #[.agg #[cv,rv],.agg #[.int .i64 6,.string c,.int .i64 lo,.int .i64 hi,wv,.slice (some ⟨b,o,none⟩) 1 cap]] w (yZ w (xs.map (lo * ·))):=by
 have ab:=Ab.new w cv rv 6 c lo hi wv (.slice (some ⟨b,o,none⟩) 1 cap);have hb0:=iI w (.cells #[cv,rv] 25) (.cells #[.int .i64 6,.string c,.int .i64 lo,.int .i64 hi,wv,.slice (some ⟨b,o,none⟩) 1 cap] 52) (.cells #[.func (.func 157) #[] #[.pointer (some ⟨w.heap.size+1,0,none⟩)]] 253);obtain⟨W0,hW0⟩:∃ W0,(((w.alloc (.cells #[cv,rv] 25)).alloc (.cells #[.int .i64 6,.string c,.int .i64 lo,.int .i64 hi,wv,.slice (some ⟨b,o,none⟩) 1 cap] 52)).alloc (.cells #[.func (.func 157) #[] #[.pointer (some ⟨w.heap.size+1,0,none⟩)]] 253))=W0:=⟨_,rfl⟩;rw[hW0] at ab hb0;have HW0:=qQ hW0;have k1:=oK w.heap.size (w.heap.size+1) cv rv b o 1 cap (by omega) xs W0 ab.t0.c ab.t1.c ab.a5.c B x u0 u1 u2 u3 u4 u5 (hu.keep hb0 (uX hbB hB)) (hqx.at hB hb0) l ts (hp.at hB hb0) (hr.at hB hb0) (kx _ hb0.drew);have HAB:=qQ ab;obtain⟨ca,ccp,rfl,_⟩:=hp.slice;obtain⟨ra,rc,rfl,_⟩:=hr.slice;obtain⟨wa,wc,rfl,_⟩:=hw.slice;have hmf:=hmf;have m0:=HAB.out.a0.c;clear hp hr hw hu hqx kx ab;go_enter func94,ntmps94;go_wp2_with fail;refine k1.mono ?_;rintro e w1 ⟨g1,c1,rfl,hA1,hb1⟩;clear k1;have hg1:=hA1.lt;have ab1:=HAB.out.at hb1;have k3:=djQ W0.heap.size g1 c1 (w.heap.size+1) xs w1 hA1 lo hbx ab1.a2.c hlo (by have:=HAB.out.a2.lt;omega);clear ab1;go_wp2_with fail;refine k3.mono ?_;rintro e w3 ⟨rfl,hA3,hgr⟩;clear k3;go_wp2;go_ret;have:=eB hb0 hb1 hg1.1 hgr hA3;rw[wU] at this;exact this
theorem dlQ (c:ByteArray)(lo hi:Int)(cv rv wv:Value)(b o cap:Nat)(w:World)(B:Nat)(l:List yQ)(ts:List Rw)(wh:List aZ)(hB:B<=w.heap.size)(hp:tQ w B cv l)(hr:zX w B rv ts)(hw:qJ w B wv wh)(hbB:b<B)(x:Qu)(u0 u1 u2 u3 u4 u5:Value)(hu:zY w b o u0 u1 u2 u3 u4 u5)(hqx:Qm w B x u0 u1 u2 u3 u4 u5)(xs:List Int)(kx:∀ W,Below w.heap.size w W->Calls prog 94 #[.agg #[cv,rv],.agg #[u0,u1,u2,u3,u4,u5]] W (yZ W xs))(y:Qu)(z0 z1 z2 z3 z4 z5:Value)(hz:zY w b (o+6) z0 z1 z2 z3 z4 z5)(hqy:Qm w B y z0 z1 z2 z3 z4 z5)(ys:List Int)(ky:∀ W,Below w.heap.size w W->Calls prog 94 #[.agg #[cv,rv],.agg #[z0,z1,z2,z3,z4,z5]] W (yZ W ys))(hl:xs.length+ys.length<=1048576) :
  Calls prog 94 #[.agg #[cv,rv],.agg #[.int .i64 7,.string c,.int .i64 lo,.int .i64 hi,wv,.slice (some ⟨b,o,none⟩) 2 cap]] w (yZ w (xs++ys)):=by
 have ab:=Ab.new w cv rv 7 c lo hi wv (.slice (some ⟨b,o,none⟩) 2 cap);have hb0:=iI w (.cells #[cv,rv] 25) (.cells #[.int .i64 7,.string c,.int .i64 lo,.int .i64 hi,wv,.slice (some ⟨b,o,none⟩) 2 cap] 52) (.cells #[.func (.func 157) #[] #[.pointer (some ⟨w.heap.size+1,0,none⟩)]] 253);obtain⟨W0,hW0⟩:∃ W0,(((w.alloc (.cells #[cv,rv] 25)).alloc (.cells #[.int .i64 7,.string c,.int .i64 lo,.int .i64 hi,wv,.slice (some ⟨b,o,none⟩) 2 cap] 52)).alloc (.cells #[.func (.func 157) #[] #[.pointer (some ⟨w.heap.size+1,0,none⟩)]] 253))=W0:=⟨_,rfl⟩;rw[hW0] at ab hb0;have HW0:=qQ hW0;have k1:=oK w.heap.size (w.heap.size+1) cv rv b o 2 cap (by omega) xs W0 ab.t0.c ab.t1.c ab.a5.c B x u0 u1 u2 u3 u4 u5 (hu.keep hb0 (uX hbB hB)) (hqx.at hB hb0) l ts (hp.at hB hb0) (hr.at hB hb0) (kx _ hb0.drew)
 have HK:∀ w1,Below W0.heap.size W0 w1->Calls prog 158 #[.int .i64 1,.pointer (some ⟨w.heap.size,0,none⟩),.pointer (some ⟨w.heap.size+1,0,none⟩)] w1 (yZ w1 ys):=fun w1 hb1 =>
  m9 w.heap.size (w.heap.size+1) cv rv b o 2 cap (by omega) ys w1 (ab.at hb1).t0.c (ab.at hb1).t1.c (ab.at hb1).a5.c B y z0 z1 z2 z3 z4 z5 (hz.keep (bt hb0 hb1) (uX hbB hB)) (hqy.at hB (bt hb0 hb1)) l ts (hp.at hB (bt hb0 hb1)) (hr.at hB (bt hb0 hb1)) (ky _ (bt hb0 hb1).drew)
 have HAB:=qQ ab;obtain⟨ca,ccp,rfl,_⟩:=hp.slice;obtain⟨ra,rc,rfl,_⟩:=hr.slice;obtain⟨wa,wc,rfl,_⟩:=hw.slice;have hmf:=hmf;have m0:=HAB.out.a0.c;clear hp hr hw hu hqx kx ab hz hqy ky;go_enter func94,ntmps94;obtain⟨i0,hi0,hz0,hz1,hz2⟩:=rJ qO;have HL:=qQ hl;clear hl;go_wp2_with fail;refine k1.mono ?_;rintro e w1 ⟨g1,c1,rfl,hA1,hb1⟩;clear k1;have hg1:=hA1.lt;have k2:=HK w1 hb1;clear HK;go_wp2_with fail;refine k2.mono ?_;rintro e w2 ⟨g2,c2,rfl,hA2,hb2⟩;clear k2;have hg2:=hA2.lt;have hA12:=hA1.at hb2;have hbw:=bt hb1 hb2;have HA2:=qQ hA2;have HA12:=qQ hA12;have hs2:=qQ hbw.size;clear hA1 hA2 hA12;go_wp2_with (at_builtin;refine xL _ rfl _ _ 35 rfl W0.heap.size 3 i0 (.int .i64 0) 1 8 underlying35 hi0 hz0 hz1 hz2 rfl (by decide) _ _ _ rfl HA12.out ⟨g2,0,none⟩ ys.length c2 (ys.map (.int .i64)) rfl ?q1 ?q2 ?q3 ?q4 ?q5 ?q6 ?_)
 case q1=>simp
 case q2=>exact World.ownsRow.cells HA2.out rfl
 case q3=>intro u hu;obtain⟨z,_,rfl⟩:=wX.1 hu;rfl
 case q4=>have:=HL.out;simp[maxLen];omega
 case q5=>have:=HL.out;omega
 case q6=>exact hs2.out
 intro v3 w3 hown3 hgrow hnil;obtain⟨g3,c3,rfl,hg3,_⟩:=daX hown3 hnil;have hA3:mQ w3 W0.heap.size g3 c3 (xs++ys):=by simpa [mQ] using hown3
 have hbw3:Below w.heap.size w w3:=(bt hb0 hbw).trans (aF (E:=g1) hgrow (bQ hb0.size hg1.1) (bQ hb0.size hs2.out));clear hgrow hnil hown3;go_wp2;go_ret;exact⟨g3,c3,by rw[bJ];rfl,hA3.mono hb0.size,hbw3⟩
theorem dlX (c:ByteArray)(lo hi:Int)(cv rv wv:Value)(b o cap:Nat)(w:World)(B:Nat)(l:List yQ)(ts:List Rw)(wh:List aZ)(hB:B<=w.heap.size)(hp:tQ w B cv l)(hr:zX w B rv ts)(hw:qJ w B wv wh)(hbB:b<B)(x:Qu)(u0 u1 u2 u3 u4 u5:Value)(hu:zY w b o u0 u1 u2 u3 u4 u5)(hqx:Qm w B x u0 u1 u2 u3 u4 u5)(xs:List Int)(kx:∀ W,Below w.heap.size w W->Calls prog 94 #[.agg #[cv,rv],.agg #[u0,u1,u2,u3,u4,u5]] W (yZ W xs))(hbx:lZ 1099511627776 xs)(hl:xs.length<=4096) :
  Calls prog 94 #[.agg #[cv,rv],.agg #[.int .i64 8,.string c,.int .i64 lo,.int .i64 hi,wv,.slice (some ⟨b,o,none⟩) 1 cap]] w (yZ w ([iD xs])):=by
 have ab:=Ab.new w cv rv 8 c lo hi wv (.slice (some ⟨b,o,none⟩) 1 cap);have hb0:=iI w (.cells #[cv,rv] 25) (.cells #[.int .i64 8,.string c,.int .i64 lo,.int .i64 hi,wv,.slice (some ⟨b,o,none⟩) 1 cap] 52) (.cells #[.func (.func 157) #[] #[.pointer (some ⟨w.heap.size+1,0,none⟩)]] 253);obtain⟨W0,hW0⟩:∃ W0,(((w.alloc (.cells #[cv,rv] 25)).alloc (.cells #[.int .i64 8,.string c,.int .i64 lo,.int .i64 hi,wv,.slice (some ⟨b,o,none⟩) 1 cap] 52)).alloc (.cells #[.func (.func 157) #[] #[.pointer (some ⟨w.heap.size+1,0,none⟩)]] 253))=W0:=⟨_,rfl⟩;rw[hW0] at ab hb0;have HW0:=qQ hW0;have k1:=oK w.heap.size (w.heap.size+1) cv rv b o 1 cap (by omega) xs W0 ab.t0.c ab.t1.c ab.a5.c B x u0 u1 u2 u3 u4 u5 (hu.keep hb0 (uX hbB hB)) (hqx.at hB hb0) l ts (hp.at hB hb0) (hr.at hB hb0) (kx _ hb0.drew);have HAB:=qQ ab;obtain⟨ca,ccp,rfl,_⟩:=hp.slice;obtain⟨ra,rc,rfl,_⟩:=hr.slice;obtain⟨wa,wc,rfl,_⟩:=hw.slice;have hmf:=hmf;have m0:=HAB.out.a0.c;clear hp hr hw hu hqx kx ab;go_enter func94,ntmps94;go_wp2_with fail;refine k1.mono ?_;rintro e w1 ⟨g1,c1,rfl,hA1,hb1⟩;clear k1;have hg1:=hA1.lt;have k3:=eM w1.heap.size w1.heap.size _ xs w1 (vQ _) (hA1.ints w1.heap.size (by omega)) hl hbx _ rfl;go_wp2_with fail;refine k3.mono ?_;rintro e w3 ⟨rfl,hw3⟩;subst hw3;clear k3;go_wp2;go_ret;exact⟨w3.heap.size,1,rfl,mQ.lit _ _ _ (bQ hb0.size hb1.size),bt hb0 (bal hb1 _)⟩
end K
end Go.Proofs.YtpmioeamdhdokaaGreat
