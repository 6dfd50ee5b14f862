import Derived.Test.YtlndlpjadajelaaGreatQq24
import Derived.Test.YtlndlpjadajelaaGreatQq25
import Derived.Deep.RegionLaw
import Derived.Deep.AppendLies
import Derived.Deep.RegionHeld3
namespace Go.Proofs.YtlndlpjadajelaaGreat.K
open Go.RowKit Go.Proofs.YtlndlpjadajelaaGreat.K.Ds
theorem plus_any (x y:Int) (w:World) (hx:-1152921504606846976≤x∧x≤1152921504606846976) (hy:-1152921504606846976≤y∧y≤1152921504606846976) :
  Calls Tryz.prog 134 #[.int .i64 x,.int .i64 y] w fun e w'=>e=.returned (.int .i64 (x + y))∧w' = w:=by
 obtain ⟨a1,a2⟩:=hx
 obtain ⟨b1,b2⟩:=hy
 go_enter Tryz.func134,Tryz.ntmps134
 go_wp2
 go_ret
 exact ⟨rfl,rfl⟩
theorem minus_any (x y:Int) (w:World) (hx:-1152921504606846976≤x∧x≤1152921504606846976) (hy:-1152921504606846976≤y∧y≤1152921504606846976) :
  Calls Tryz.prog 135 #[.int .i64 x,.int .i64 y] w fun e w'=>e=.returned (.int .i64 (x - y))∧w' = w:=by
 obtain ⟨a1,a2⟩:=hx
 obtain ⟨b1,b2⟩:=hy
 go_enter Tryz.func135,Tryz.ntmps135
 go_wp2
 go_ret
 exact ⟨rfl,rfl⟩
theorem times_any (N:Nat) (lo x:Int) (w:World) (h2:w.cell? ⟨N,2,none⟩=some (.int .i64 lo)) (hl:-1048576≤lo∧lo≤1048576) (hx:-1099511627776≤x∧x≤1099511627776) :
  Calls Tryz.prog 137 #[.int .i64 x,.pointer (some ⟨N,0,none⟩)] w fun e w'=>e=.returned (.int .i64 (lo * x))∧w' = w:=by
 have hm:=mul_abs hl hx
 have hw:wrap64 (lo * x)=lo * x:=wrap_id (by omega)
 go_enter Tryz.func137,Tryz.ntmps137
 go_wp2
 go_ret
 exact ⟨rfl,rfl⟩
set_option maxHeartbeats 1000000 in
theorem total_any (B nb:Nat) (v:Value) (xs:List Int) (w:World) (hB:B≤w.heap.size) (hx:Ints w B nb v xs) (hl:xs.length≤4096) (hbd:Bdd 1099511627776 xs) (r:Int) (hr:smL xs=r) :
  Calls Tryz.prog 138 #[v] w fun e w'=>e=.returned (.int .i64 r)∧w' = w:=by
 have HX:Hid (Ints w B nb v xs):=hx
 have HR:Hid (smL xs=r):=hr
 have HB:Hid (Bdd 1099511627776 xs):=hbd
 obtain ⟨a,c,rfl,_⟩:=hx
 clear hr hbd
 go_enter Tryz.func138,Tryz.ntmps138
 go_wp2
 go_loopw [3,8] (fun t s' wr=>∃ (i:Nat) (k:Int),t=.int .i64 k∧s' = .int .i64 (i:Int)∧i≤xs.length∧Hid (k + smL (xs.drop i)=r)∧Hid (-(i * 1099511627776)≤k∧k≤i * 1099511627776)∧wr=w) (fun _ s' _=>xs.length - (intOf s').toNat)
 case atStart=>exact ⟨0,0,rfl,rfl,Nat.zero_le _,by show _=_; rw [List.drop_zero,Int.zero_add]; exact HR.out,by show _∧_; omega,rfl⟩
 case round =>
  obtain ⟨i,k,rfl,rfl,hi,HI,HK,rfl⟩:=hrel
  by_cases h1:i < xs.length
  ·obtain ⟨b,o,x,rfl,_,hb,hn,hg,hgd,hcell⟩:=HX.out.got h1
   have hxb:=HB.out x (List.mem_of_getElem? hg)
   obtain ⟨k1,k2⟩:=HK.out
   have b1:-9223372036854775808≤k + x:=by omega
   have b2:k + x≤9223372036854775807:=by omega
   have HI2:Hid (k + x + smL (xs.drop (i + 1))=r):=by
    show _=_
    rw [← HI.out,List.drop_eq_getElem_cons h1,(List.getElem?_eq_some_iff.1 hg).2]
    simp only [smL]
    omega
   have HK2:Hid (-((i + 1:Nat) * 1099511627776)≤k + x∧k + x≤(i + 1:Nat) * 1099511627776):=by show _∧_; omega
   clear hg hgd k1 k2 hxb
   go_wp2
   go_roundw
   case rel=>exact ⟨i + 1,k + x,rfl,by go_num,h1,HI2,HK2,trivial⟩
   case measure=>simp [intOf]; omega
  ·obtain rfl:k=r:=by have:=HI.out; rw [List.drop_of_length_le (by omega)] at this; simpa [smL] using this
   go_wp2
   go_ret
   exact ⟨rfl,rfl⟩
theorem part_set {xs zs:List Int} {i:Nat} {z:Int} (hl:zs.length=xs.length) (hz:zs[i]? = some z):(zs.take i ++ xs.drop i).set i z=zs.take (i + 1) ++ xs.drop (i + 1):=by
 have hi:i < zs.length:=(List.getElem?_eq_some_iff.1 hz).1
 rw [List.set_append_right _ _ (by rw [List.length_take]; omega),List.length_take,Nat.min_eq_left (by omega),Nat.sub_self,List.take_add_one,hz,show xs.drop i=xs[i] :: xs.drop (i + 1) from List.drop_eq_getElem_cons (by omega),List.set_cons_zero,List.append_assoc]
 rfl
theorem part_get {xs zs:List Int} {i:Nat} {x:Int} (hl:zs.length=xs.length) (hx:xs[i]? = some x):(zs.take i ++ xs.drop i)[i]? = some x:=by
 have hi:i < xs.length:=(List.getElem?_eq_some_iff.1 hx).1
 rw [List.getElem?_append_right (by rw [List.length_take]; omega),List.length_take,Nat.min_eq_left (by omega),Nat.sub_self,List.getElem?_drop,Nat.add_zero,hx]
set_option maxHeartbeats 2000000 in
set_option maxRecDepth 100000 in
theorem pairP_any (lo g c B:Nat) (yv:Value) (xs ys:List Int) (w:World) (hx:Arw w lo g c xs) (hy:Ints w B g yv ys) (hl:xs.length=ys.length) (hbx:Bdd 1099511627776 xs) (hby:Bdd 1099511627776 ys) :
  Calls Tryz.prog 133 #[.slice (some ⟨g,0,none⟩) xs.length c,yv,.func (.func 134) #[] #[]] w fun e w'=>e=.returned (.slice (some ⟨g,0,none⟩) xs.length c)∧Arw w' lo g c (List.zipWith (· + ·) xs ys)∧w.grownBy w' (some g):=by
 have HY:Hid (Ints w B g yv ys):=hy
 have HX:Hid (Arw w lo g c xs):=hx
 have HL:Hid (xs.length=ys.length):=hl
 have HZ:Hid ((List.zipWith (· + ·) xs ys).length=xs.length):=by show _=_; rw [List.length_zipWith]; omega
 have HBX:Hid (Bdd 1099511627776 xs):=hbx
 have HBY:Hid (Bdd 1099511627776 ys):=hby
 obtain ⟨_,_,_,hxc,hcm,_⟩:=hx.inv
 rw [maxLen_eq'] at hcm
 obtain ⟨ya,yc,rfl,hyc,hyl,_⟩:=hy
 have hxl:xs.length≤9223372036854775807:=by omega
 clear hx hl hbx hby
 go_enter Tryz.func133,Tryz.ntmps133
 go_wp2
 go_loopw [10] (fun s' wr=>∃ (i:Nat),s' = .int .i64 (i:Int)∧i≤xs.length∧Hid (Arw wr lo g c ((List.zipWith (· + ·) xs ys).take i ++ xs.drop i))∧Hid (w.grownBy wr (some g))) (fun s' _=>xs.length - (intOf s').toNat)
 case atStart=>exact ⟨0,rfl,Nat.zero_le _,by simpa [Hid] using HX.out,World.grownBy.refl _ _⟩
 case round =>
  obtain ⟨i,rfl,hi,HA,HG⟩:=hrel
  by_cases h1:i < xs.length
  ·obtain ⟨x,hgx⟩:=get_lt h1
   have h1y:i < ys.length:=by have:=HL.out; omega
   obtain ⟨b,o,y,rfl,_,hbB,hbn,hgy,_,hcy⟩:=HY.out.got h1y
   have cy:wr.cell? ⟨b,o + i,none⟩=some (.int .i64 y):=HG.out.cell hcy (by simpa using hbn)
   have cx:wr.cell? ⟨g,i,none⟩=some (.int .i64 x):=HA.out.cell (part_get HZ.out hgx)
   have fx:wr.frozen? ⟨g,i,none⟩=false:=HA.out.fz i
   have bx:=HBX.out x (List.mem_of_getElem? hgx)
   have b_y:=HBY.out y (List.mem_of_getElem? hgy)
   have kt:=plus_any x y wr.drew (by omega) (by omega)
   have HA2:Hid (Arw ((wr.setCell ⟨g,i,none⟩ (.int .i64 (x + y))).drew) lo g c ((List.zipWith (· + ·) xs ys).take (i + 1) ++ xs.drop (i + 1))):=by
    have hz:(List.zipWith (· + ·) xs ys)[i]? = some (x + y):=by rw [List.getElem?_zipWith,hgx,hgy]
    rw [← part_set HZ.out hz]
    exact (HA.out.set i _).at (Below.refl _ _).drew
   have HG2:Hid (w.grownBy ((wr.setCell ⟨g,i,none⟩ (.int .i64 (x + y))).drew) (some g)):=gb_drew (gb_set HG.out _ _)
   clear hgx hgy hcy bx b_y
   go_wp2
   go_region_law (first | (go_simp; go_at_call 134; refine kt.mono ?_; rintro x3 w3 ⟨rfl,hw3⟩; subst hw3; go_wp2_with fail))
   all_goals
    go_wp2
    go_roundw
    case rel=>exact ⟨i + 1,by go_num,h1,HA2,HG2⟩
    case measure=>simp [intOf]; omega
  ·have HA2:Hid (Arw wr lo g c (List.zipWith (· + ·) xs ys)):=by
    have:=HA.out
    rwa [List.drop_of_length_le (by omega),List.append_nil,List.take_of_length_le (by rw [HZ.out]; omega)] at this
   go_wp2
   go_ret
   exact ⟨rfl,HA2.out,HG.out⟩
set_option maxHeartbeats 2000000 in
set_option maxRecDepth 100000 in
theorem pairM_any (lo g c B:Nat) (yv:Value) (xs ys:List Int) (w:World) (hx:Arw w lo g c xs) (hy:Ints w B g yv ys) (hl:xs.length=ys.length) (hbx:Bdd 1099511627776 xs) (hby:Bdd 1099511627776 ys) :
  Calls Tryz.prog 133 #[.slice (some ⟨g,0,none⟩) xs.length c,yv,.func (.func 135) #[] #[]] w fun e w'=>e=.returned (.slice (some ⟨g,0,none⟩) xs.length c)∧Arw w' lo g c (List.zipWith (· - ·) xs ys)∧w.grownBy w' (some g):=by
 have HY:Hid (Ints w B g yv ys):=hy
 have HX:Hid (Arw w lo g c xs):=hx
 have HL:Hid (xs.length=ys.length):=hl
 have HZ:Hid ((List.zipWith (· - ·) xs ys).length=xs.length):=by show _=_; rw [List.length_zipWith]; omega
 have HBX:Hid (Bdd 1099511627776 xs):=hbx
 have HBY:Hid (Bdd 1099511627776 ys):=hby
 obtain ⟨_,_,_,hxc,hcm,_⟩:=hx.inv
 rw [maxLen_eq'] at hcm
 obtain ⟨ya,yc,rfl,hyc,hyl,_⟩:=hy
 have hxl:xs.length≤9223372036854775807:=by omega
 clear hx hl hbx hby
 go_enter Tryz.func133,Tryz.ntmps133
 go_wp2
 go_loopw [10] (fun s' wr=>∃ (i:Nat),s' = .int .i64 (i:Int)∧i≤xs.length∧Hid (Arw wr lo g c ((List.zipWith (· - ·) xs ys).take i ++ xs.drop i))∧Hid (w.grownBy wr (some g))) (fun s' _=>xs.length - (intOf s').toNat)
 case atStart=>exact ⟨0,rfl,Nat.zero_le _,by simpa [Hid] using HX.out,World.grownBy.refl _ _⟩
 case round =>
  obtain ⟨i,rfl,hi,HA,HG⟩:=hrel
  by_cases h1:i < xs.length
  ·obtain ⟨x,hgx⟩:=get_lt h1
   have h1y:i < ys.length:=by have:=HL.out; omega
   obtain ⟨b,o,y,rfl,_,hbB,hbn,hgy,_,hcy⟩:=HY.out.got h1y
   have cy:wr.cell? ⟨b,o + i,none⟩=some (.int .i64 y):=HG.out.cell hcy (by simpa using hbn)
   have cx:wr.cell? ⟨g,i,none⟩=some (.int .i64 x):=HA.out.cell (part_get HZ.out hgx)
   have fx:wr.frozen? ⟨g,i,none⟩=false:=HA.out.fz i
   have bx:=HBX.out x (List.mem_of_getElem? hgx)
   have b_y:=HBY.out y (List.mem_of_getElem? hgy)
   have kt:=minus_any x y wr.drew (by omega) (by omega)
   have HA2:Hid (Arw ((wr.setCell ⟨g,i,none⟩ (.int .i64 (x - y))).drew) lo g c ((List.zipWith (· - ·) xs ys).take (i + 1) ++ xs.drop (i + 1))):=by
    have hz:(List.zipWith (· - ·) xs ys)[i]? = some (x - y):=by rw [List.getElem?_zipWith,hgx,hgy]
    rw [← part_set HZ.out hz]
    exact (HA.out.set i _).at (Below.refl _ _).drew
   have HG2:Hid (w.grownBy ((wr.setCell ⟨g,i,none⟩ (.int .i64 (x - y))).drew) (some g)):=gb_drew (gb_set HG.out _ _)
   clear hgx hgy hcy bx b_y
   go_wp2
   go_region_law (first | (go_simp; go_at_call 135; refine kt.mono ?_; rintro x3 w3 ⟨rfl,hw3⟩; subst hw3; go_wp2_with fail))
   all_goals
    go_wp2
    go_roundw
    case rel=>exact ⟨i + 1,by go_num,h1,HA2,HG2⟩
    case measure=>simp [intOf]; omega
  ·have HA2:Hid (Arw wr lo g c (List.zipWith (· - ·) xs ys)):=by
    have:=HA.out
    rwa [List.drop_of_length_le (by omega),List.append_nil,List.take_of_length_le (by rw [HZ.out]; omega)] at this
   go_wp2
   go_ret
   exact ⟨rfl,HA2.out,HG.out⟩
set_option maxHeartbeats 2000000 in
set_option maxRecDepth 100000 in
theorem eachT_any (lo0 g c N:Nat) (xs:List Int) (w:World) (hx:Arw w lo0 g c xs) (lo:Int) (hbx:Bdd 1099511627776 xs) (h2:w.cell? ⟨N,2,none⟩=some (.int .i64 lo)) (hlo:-1048576≤lo∧lo≤1048576) (hN:N≠g) :
  Calls Tryz.prog 136 #[.slice (some ⟨g,0,none⟩) xs.length c,.func (.func 137) #[] #[.pointer (some ⟨N,0,none⟩)]] w fun e w'=>e=.returned (.slice (some ⟨g,0,none⟩) xs.length c)∧Arw w' lo0 g c (xs.map (lo * ·))∧w.grownBy w' (some g):=by
 have HX:Hid (Arw w lo0 g c xs):=hx
 have HZ:Hid ((xs.map (lo * ·)).length=xs.length):=by show _=_; simp
 have HBX:Hid (Bdd 1099511627776 xs):=hbx
 obtain ⟨_,_,_,hxc,hcm,_⟩:=hx.inv
 rw [maxLen_eq'] at hcm
 have hxl:xs.length≤9223372036854775807:=by omega
 have H2:Hid (w.cell? ⟨N,2,none⟩=some (.int .i64 lo)):=h2
 clear h2
 clear hx hbx
 go_enter Tryz.func136,Tryz.ntmps136
 go_wp2
 go_loopw [8] (fun s' wr=>∃ (i:Nat),s' = .int .i64 (i:Int)∧i≤xs.length∧Hid (Arw wr lo0 g c ((xs.map (lo * ·)).take i ++ xs.drop i))∧Hid (w.grownBy wr (some g))) (fun s' _=>xs.length - (intOf s').toNat)
 case atStart=>exact ⟨0,rfl,Nat.zero_le _,by simpa [Hid] using HX.out,World.grownBy.refl _ _⟩
 case round =>
  obtain ⟨i,rfl,hin,HA,HG⟩:=hrel
  by_cases h1:i < xs.length
  ·obtain ⟨x,hgx⟩:=get_lt h1
   have cx:wr.cell? ⟨g,i,none⟩=some (.int .i64 x):=HA.out.cell (part_get HZ.out hgx)
   have fx:wr.frozen? ⟨g,i,none⟩=false:=HA.out.fz i
   have bx:=HBX.out x (List.mem_of_getElem? hgx)
   have kt:=times_any N lo x wr (HG.out.cell H2.out (by simpa using hN)) hlo bx
   have HA2:Hid (Arw (wr.setCell ⟨g,i,none⟩ (.int .i64 ((lo * ·) x))) lo0 g c ((xs.map (lo * ·)).take (i + 1) ++ xs.drop (i + 1))):=by
    have hz:(xs.map (lo * ·))[i]? = some ((lo * ·) x):=by rw [List.getElem?_map,hgx]; rfl
    rw [← part_set HZ.out hz]
    exact HA.out.set i _
   have HG2:Hid (w.grownBy (wr.setCell ⟨g,i,none⟩ (.int .i64 ((lo * ·) x))) (some g)):=gb_set HG.out _ _
   clear hgx bx
   obtain ⟨z,hz⟩:∃ z,(lo * ·) x=z:=⟨_,rfl⟩
   rw [hz] at HA2 HG2
   rw [show (lo * x:Int)=z from hz] at kt
   clear hz
   go_wp2_with fail
   refine kt.mono ?_
   rintro e w3 ⟨rfl,hw3⟩
   subst hw3
   clear kt
   go_wp2
   go_roundw
   case rel=>exact ⟨i + 1,by go_num,h1,HA2,HG2⟩
   case measure=>simp [intOf]; omega
  ·have HA2:Hid (Arw wr lo0 g c (xs.map (lo * ·))):=by
    have:=HA.out
    rwa [List.drop_of_length_le (by omega),List.append_nil,List.take_of_length_le (by rw [HZ.out]; omega)] at this
   go_wp2
   go_ret
   exact ⟨rfl,HA2.out,HG.out⟩
set_option maxHeartbeats 2000000 in
set_option maxRecDepth 100000 in
theorem eachC_any (lo0 g c N:Nat) (xs:List Int) (w:World) (hx:Arw w lo0 g c xs) (lo hi:Int) (hbx:Bdd 1099511627776 xs) (h2:w.cell? ⟨N,2,none⟩=some (.int .i64 lo)) (h3:w.cell? ⟨N,3,none⟩=some (.int .i64 hi)) (hle:lo≤hi) (hN:N≠g) :
  Calls Tryz.prog 136 #[.slice (some ⟨g,0,none⟩) xs.length c,.func (.func 126) #[] #[.pointer (some ⟨N,0,none⟩)]] w fun e w'=>e=.returned (.slice (some ⟨g,0,none⟩) xs.length c)∧Arw w' lo0 g c (xs.map (inT lo hi))∧w.grownBy w' (some g):=by
 have HX:Hid (Arw w lo0 g c xs):=hx
 have HZ:Hid ((xs.map (inT lo hi)).length=xs.length):=by show _=_; simp
 have HBX:Hid (Bdd 1099511627776 xs):=hbx
 obtain ⟨_,_,_,hxc,hcm,_⟩:=hx.inv
 rw [maxLen_eq'] at hcm
 have hxl:xs.length≤9223372036854775807:=by omega
 have H2:Hid (w.cell? ⟨N,2,none⟩=some (.int .i64 lo)):=h2
 have H3:Hid (w.cell? ⟨N,3,none⟩=some (.int .i64 hi)):=h3
 clear h2 h3
 clear hx hbx
 go_enter Tryz.func136,Tryz.ntmps136
 go_wp2
 go_loopw [8] (fun s' wr=>∃ (i:Nat),s' = .int .i64 (i:Int)∧i≤xs.length∧Hid (Arw wr lo0 g c ((xs.map (inT lo hi)).take i ++ xs.drop i))∧Hid (w.grownBy wr (some g))) (fun s' _=>xs.length - (intOf s').toNat)
 case atStart=>exact ⟨0,rfl,Nat.zero_le _,by simpa [Hid] using HX.out,World.grownBy.refl _ _⟩
 case round =>
  obtain ⟨i,rfl,hin,HA,HG⟩:=hrel
  by_cases h1:i < xs.length
  ·obtain ⟨x,hgx⟩:=get_lt h1
   have cx:wr.cell? ⟨g,i,none⟩=some (.int .i64 x):=HA.out.cell (part_get HZ.out hgx)
   have fx:wr.frozen? ⟨g,i,none⟩=false:=HA.out.fz i
   have bx:=HBX.out x (List.mem_of_getElem? hgx)
   have kt:=into_any N lo hi x wr (HG.out.cell H2.out (by simpa using hN)) (HG.out.cell H3.out (by simpa using hN)) hle
   have HA2:Hid (Arw (wr.setCell ⟨g,i,none⟩ (.int .i64 ((inT lo hi) x))) lo0 g c ((xs.map (inT lo hi)).take (i + 1) ++ xs.drop (i + 1))):=by
    have hz:(xs.map (inT lo hi))[i]? = some ((inT lo hi) x):=by rw [List.getElem?_map,hgx]; rfl
    rw [← part_set HZ.out hz]
    exact HA.out.set i _
   have HG2:Hid (w.grownBy (wr.setCell ⟨g,i,none⟩ (.int .i64 ((inT lo hi) x))) (some g)):=gb_set HG.out _ _
   clear hgx bx
   obtain ⟨z,hz⟩:∃ z,(inT lo hi) x=z:=⟨_,rfl⟩
   rw [hz] at HA2 HG2
   rw [show (inT lo hi x:Int)=z from hz] at kt
   clear hz
   go_wp2_with fail
   refine kt.mono ?_
   rintro e w3 ⟨rfl,hw3⟩
   subst hw3
   clear kt
   go_wp2
   go_roundw
   case rel=>exact ⟨i + 1,by go_num,h1,HA2,HG2⟩
   case measure=>simp [intOf]; omega
  ·have HA2:Hid (Arw wr lo0 g c (xs.map (inT lo hi))):=by
    have:=HA.out
    rwa [List.drop_of_length_le (by omega),List.append_nil,List.take_of_length_le (by rw [HZ.out]; omega)] at this
   go_wp2
   go_ret
   exact ⟨rfl,HA2.out,HG.out⟩
structure Ab (W:World) (N:Nat) (cv rv:Value) (k:Int) (c:ByteArray) (lo hi:Int) (wv kv:Value):Prop where
 t0:Cl W N 0 cv
 t1:Cl W N 1 rv
 a0:Cl W (N + 1) 0 (.int .i64 k)
 a1:Cl W (N + 1) 1 (.string c)
 a2:Cl W (N + 1) 2 (.int .i64 lo)
 a3:Cl W (N + 1) 3 (.int .i64 hi)
 a4:Cl W (N + 1) 4 wv
 a5:Cl W (N + 1) 5 kv
 f0:Cl W (N + 1 + 1) 0 (.func (.func 126) #[] #[.pointer (some ⟨N + 1,0,none⟩)])
theorem Ab.at {W W':World} {N:Nat} {cv rv:Value} {k:Int} {c:ByteArray} {lo hi:Int} {wv kv:Value} (h:Ab W N cv rv k c lo hi wv kv) (hb:Below W.heap.size W W'):Ab W' N cv rv k c lo hi wv kv :=
 ⟨h.t0.at hb,h.t1.at hb,h.a0.at hb,h.a1.at hb,h.a2.at hb,h.a3.at hb,h.a4.at hb,h.a5.at hb,h.f0.at hb⟩
theorem Ab.new (w:World) (cv rv:Value) (k:Int) (c:ByteArray) (lo hi:Int) (wv kv:Value):Ab (((w.alloc (.cells #[cv,rv] 27)).alloc (.cells #[.int .i64 k,.string c,.int .i64 lo,.int .i64 hi,wv,kv] 31)).alloc (.cells #[.func (.func 126) #[] #[.pointer (some ⟨w.heap.size + 1,0,none⟩)]] 162)) w.heap.size cv rv k c lo hi wv kv:=by
 constructor
 all_goals first
  | exact ((Cl.new _ 27 _ _ rfl rfl).at (ba _ _)).at (ba _ _)
  | exact (Cl.new _ 31 _ _ (by simp) rfl).at (ba _ _)
  | exact Cl.new _ 162 _ _ (by simp) rfl
theorem b3a (w:World) (o1 o2 o3:Obj):Below w.heap.size w (((w.alloc o1).alloc o2).alloc o3):=bal (bal (ba _ _) _) _
set_option maxHeartbeats 2000000 in
set_option maxRecDepth 100000 in
theorem ans1_any (c:ByteArray) (lo hi:Int) (cv rv wv kv:Value) (w:World) (B:Nat) (l:List Col) (ts:List Rw) (wh:List Tst) (hB:B≤w.heap.size) (hp:Cols w B cv l) (hr:Rws w B rv ts) (hw:Tss w B wv wh) (hlen:ts.length≤4096) (hok:∀ r∈rr ts,RowOk l r) (hkv:∃ a n cc,kv=.slice a n cc) (hwe:whE l wh=0) :
  Calls Tryz.prog 73 #[.agg #[cv,rv],.agg #[.int .i64 1,.string c,.int .i64 lo,.int .i64 hi,wv,kv]] w (AnsP w (gat 1 (wh.map (trp l)) (stp 1 0 0 0) (rr ts))):=by
 have ab:=Ab.new w cv rv 1 c lo hi wv kv
 have hb0:=b3a w (.cells #[cv,rv] 27) (.cells #[.int .i64 1,.string c,.int .i64 lo,.int .i64 hi,wv,kv] 31) (.cells #[.func (.func 126) #[] #[.pointer (some ⟨w.heap.size + 1,0,none⟩)]] 162)
 have k1:=gather1_any B cv rv wv l ts wh (((w.alloc (.cells #[cv,rv] 27)).alloc (.cells #[.int .i64 1,.string c,.int .i64 lo,.int .i64 hi,wv,kv] 31)).alloc (.cells #[.func (.func 126) #[] #[.pointer (some ⟨w.heap.size + 1,0,none⟩)]] 162)) (Nat.le_trans hB hb0.size) (hp.at hB hb0) (hr.at hB hb0) (hw.at hB hb0) hwe hlen hok
 obtain ⟨ca,ccp,rfl,hcc1,hcc2⟩:=hp.slice
 obtain ⟨ra,rc,rfl,_⟩:=hr.slice
 obtain ⟨wa,wc,rfl,_⟩:=hw.slice
 obtain ⟨ka,kn,kc',rfl⟩:=hkv
 have hmf:=hmf
 clear hp hr hw hok ab hwe
 go_enter Tryz.func73,Tryz.ntmps73
 go_wp2_with fail
 refine k1.mono ?_
 rintro e w1 ⟨g,cc,rfl,hA,hb1⟩
 clear k1
 go_wp2
 go_ret
 exact AnsP.up ⟨g,cc,rfl,hA,hb1⟩ hb0
set_option maxHeartbeats 2000000 in
set_option maxRecDepth 100000 in
theorem ans2_any (c:ByteArray) (lo hi:Int) (cv rv wv kv:Value) (w:World) (B:Nat) (l:List Col) (ts:List Rw) (wh:List Tst) (hB:B≤w.heap.size) (hp:Cols w B cv l) (hr:Rws w B rv ts) (hw:Tss w B wv wh) (hlen:ts.length≤4096) (hok:∀ r∈rr ts,RowOk l r) (hkv:∃ a n cc,kv=.slice a n cc) (hwe:whE l wh=0) (at':Nat) (hf:fnd l c=some at') (hwr:wrtB lo hi=true) :
  Calls Tryz.prog 73 #[.agg #[cv,rv],.agg #[.int .i64 2,.string c,.int .i64 lo,.int .i64 hi,wv,kv]] w (AnsP w (gat 1 (wh.map (trp l)) (stp 2 at' lo hi) (rr ts))):=by
 have ab:=Ab.new w cv rv 2 c lo hi wv kv
 have hb0:=b3a w (.cells #[cv,rv] 27) (.cells #[.int .i64 2,.string c,.int .i64 lo,.int .i64 hi,wv,kv] 31) (.cells #[.func (.func 126) #[] #[.pointer (some ⟨w.heap.size + 1,0,none⟩)]] 162)
 have k1:=find_ok B cv l c (((w.alloc (.cells #[cv,rv] 27)).alloc (.cells #[.int .i64 2,.string c,.int .i64 lo,.int .i64 hi,wv,kv] 31)).alloc (.cells #[.func (.func 126) #[] #[.pointer (some ⟨w.heap.size + 1,0,none⟩)]] 162)) (Nat.le_trans hB hb0.size) (hp.at hB hb0) at' hf
 have HP:Hid (Cols w B cv l):=hp
 have HR:Hid (Rws w B rv ts):=hr
 have HW:Hid (Tss w B wv wh):=hw
 have HOK:Hid (∀ r∈rr ts,RowOk l r):=hok
 have hal:=fnd_lt hf
 obtain ⟨ca,ccp,rfl,hcc1,hcc2⟩:=hp.slice
 obtain ⟨ra,rc,rfl,_⟩:=hr.slice
 obtain ⟨wa,wc,rfl,_⟩:=hw.slice
 obtain ⟨ka,kn,kc',rfl⟩:=hkv
 have hmf:=hmf
 clear hp hr hw hok hf
 go_enter Tryz.func73,Tryz.ntmps73
 go_wp2_with fail
 refine k1.mono ?_
 rintro e w1 ⟨rfl,hb1⟩
 clear k1
 have hb2:=bal hb1 (.cells #[.int .i64 (at':Int)] 3)
 have ab2:=ab.at hb2
 have hbw:=bt hb0 hb2
 have hI:Cl (w1.alloc (.cells #[.int .i64 (at':Int)] 3)) w1.heap.size 0 (.int .i64 (at':Int)):=Cl.new _ 3 _ _ rfl rfl
 have k2:=gather2_any B _ _ _ l ts wh _ (Nat.le_trans hB hbw.size) (HP.out.at hB hbw) (HR.out.at hB hbw) (HW.out.at hB hbw) hwe hlen HOK.out _ _ _ at' lo hi ab2.f0 hI ab2.a2 ab2.a3 hwr hal
 have m0:=ab2.t0.c
 have m1:=ab2.t1.c
 have m2:=ab2.a4.c
 clear ab ab2 hI hb1 hb2 hb0
 go_wp2_with fail
 refine k2.mono ?_
 rintro e w3 ⟨g,cc,rfl,hA,hb3⟩
 clear k2
 go_wp2
 go_ret
 exact AnsP.up ⟨g,cc,rfl,hA,hb3⟩ hbw
set_option maxHeartbeats 2000000 in
set_option maxRecDepth 100000 in
theorem ans3_any (c:ByteArray) (lo hi:Int) (cv rv wv kv:Value) (w:World) (B:Nat) (l:List Col) (ts:List Rw) (wh:List Tst) (hB:B≤w.heap.size) (hp:Cols w B cv l) (hr:Rws w B rv ts) (hw:Tss w B wv wh) (hlen:ts.length≤4096) (hok:∀ r∈rr ts,RowOk l r) (hkv:∃ a n cc,kv=.slice a n cc) (hwe:whE l wh=0) (at':Nat) (hf:fnd l c=some at') (n:Nat) (hn:n≤4096) (hnc:szC l at' = (n:Int)) :
  Calls Tryz.prog 73 #[.agg #[cv,rv],.agg #[.int .i64 3,.string c,.int .i64 lo,.int .i64 hi,wv,kv]] w (AnsP w (gat n (wh.map (trp l)) (stp 3 at' 0 0) (rr ts))):=by
 have ab:=Ab.new w cv rv 3 c lo hi wv kv
 have hb0:=b3a w (.cells #[cv,rv] 27) (.cells #[.int .i64 3,.string c,.int .i64 lo,.int .i64 hi,wv,kv] 31) (.cells #[.func (.func 126) #[] #[.pointer (some ⟨w.heap.size + 1,0,none⟩)]] 162)
 have k1:=find_ok B cv l c (((w.alloc (.cells #[cv,rv] 27)).alloc (.cells #[.int .i64 3,.string c,.int .i64 lo,.int .i64 hi,wv,kv] 31)).alloc (.cells #[.func (.func 126) #[] #[.pointer (some ⟨w.heap.size + 1,0,none⟩)]] 162)) (Nat.le_trans hB hb0.size) (hp.at hB hb0) at' hf
 have HP:Hid (Cols w B cv l):=hp
 have HR:Hid (Rws w B rv ts):=hr
 have HW:Hid (Tss w B wv wh):=hw
 have HOK:Hid (∀ r∈rr ts,RowOk l r):=hok
 have hal:=fnd_lt hf
 have HNC:Hid (szC l at' = (n:Int)):=hnc
 obtain ⟨ca,ccp,rfl,hcc1,hcc2⟩:=hp.slice
 obtain ⟨ra,rc,rfl,_⟩:=hr.slice
 obtain ⟨wa,wc,rfl,_⟩:=hw.slice
 obtain ⟨ka,kn,kc',rfl⟩:=hkv
 have hmf:=hmf
 clear hp hr hw hok hf hnc
 go_enter Tryz.func73,Tryz.ntmps73
 go_wp2_with fail
 refine k1.mono ?_
 rintro e w1 ⟨rfl,hb1⟩
 clear k1
 have hb2:=bal hb1 (.cells #[.int .i64 (at':Int)] 3)
 have ab2:=ab.at hb2
 have hbw:=bt hb0 hb2
 have hI:Cl (w1.alloc (.cells #[.int .i64 (at':Int)] 3)) w1.heap.size 0 (.int .i64 (at':Int)):=Cl.new _ 3 _ _ rfl rfl
 obtain ⟨b,o,nm,sz,rfl,hb,hgt,c1,c2,hnm⟩:=HP.out.get hB hbw hal
 obtain rfl:sz=(n:Int):=by have:=HNC.out; simpa [szC,hgt] using this
 obtain ⟨W2,hW2⟩:∃ W2,w1.alloc (.cells #[.int .i64 (at':Int)] 3)=W2:=⟨_,rfl⟩
 have hbd:Below w.heap.size w W2.drew:=by rw [← hW2]; exact hbw.drew
 have abd:Ab W2.drew w.heap.size (.slice (some ⟨b,o,none⟩) l.length ccp) (.slice ra ts.length rc) 3 c lo hi (.slice wa wh.length wc) (.slice ka kn kc'):=by rw [← hW2]; exact ab2.at (Below.refl _ _).drew
 have hId:Cl W2.drew w1.heap.size 0 (.int .i64 (at':Int)):=by rw [← hW2]; exact hI.at (Below.refl _ _).drew
 have k2:=gather3_any B _ _ _ l ts wh n hn W2.drew (Nat.le_trans hB hbd.size) (HP.out.at hB hbd) (HR.out.at hB hbd) (HW.out.at hB hbd) hwe hlen HOK.out w1.heap.size at' (nm,(n:Int)) hId hgt rfl
 have HW2:Hid (w1.alloc (.cells #[.int .i64 (at':Int)] 3)=W2):=hW2
 have d0:W2.drew.cell? ⟨b,o + at' * 2 + 1,none⟩=some (.int .i64 (n:Int)):=by rw [← hW2]; exact c2
 rw [hW2] at c1 c2 hbw
 have m0:W2.cell? ⟨w.heap.size,0,none⟩=_:=abd.t0.c
 have m1:W2.cell? ⟨w.heap.size,1,none⟩=_:=abd.t1.c
 have m2:W2.cell? ⟨w.heap.size + 1,4,none⟩=_:=abd.a4.c
 have m3:W2.cell? ⟨w1.heap.size,0,none⟩=_:=hId.c
 have lN:w.heap.size < W2.heap.size:=abd.t0.lt
 have lN1:w.heap.size + 1 < W2.heap.size:=abd.a4.lt
 have lI:w1.heap.size < W2.heap.size:=hId.lt
 have lb:b < W2.heap.size:=Nat.lt_of_lt_of_le hb (Nat.le_trans hB hbd.size)
 have hbI:(0:Int)≤(at':Int):=by omega
 have hbI2:(at':Int) < (l.length:Int):=by omega
 clear ab ab2 hI hb1 hb2 hb0 abd hId hgt d0 HNC
 go_wp2
 clear HW2 hW2
 go_region_held3 (fun w'=>w'.cell? ⟨w.heap.size,0,none⟩=some (.slice (some ⟨b,o,none⟩) l.length ccp)∧w'.cell? ⟨w.heap.size,1,none⟩=some (.slice ra ts.length rc)∧w'.cell? ⟨w.heap.size + 1,4,none⟩=some (.slice wa wh.length wc)∧w'.cell? ⟨w1.heap.size,0,none⟩=some (.int .i64 (at':Int))∧w'.cell? ⟨b,o + at' * 2 + 1,none⟩=some (.int .i64 (n:Int))) (first | assumption | (simp [go_sem, *]; done)) ((go_at_call 128; refine k2.mono ?_; rintro x3 w3 hA; obtain ⟨g3,c3',rfl,hA3,hb3⟩:=hA; have z0:=(hb3.cell (p:=⟨w.heap.size,0,none⟩) lN).trans m0; have z1:=(hb3.cell (p:=⟨w.heap.size,1,none⟩) lN).trans m1; have z2:=(hb3.cell (p:=⟨w.heap.size + 1,4,none⟩) lN1).trans m2; have z3:=(hb3.cell (p:=⟨w1.heap.size,0,none⟩) lI).trans m3; have z4:=(hb3.cell (p:=⟨b,o + at' * 2 + 1,none⟩) lb).trans c2))
 go_wp2
 go_ret
 exact AnsP.up ⟨g3,c3',rfl,hA3,hb3⟩ hbd
end Go.Proofs.YtlndlpjadajelaaGreat.K
