import Derived.Test.YtlndlpjadajelaaGreatQq26
import Derived.Deep.AppendLies
import Derived.Test.YtlndlpjadajelaaGreatQq22
import Derived.Test.YtlndlpjadajelaaGreatQq24
import Derived.Test.YtlndlpjadajelaaGreatQq23
import Derived.Deep.RegionHeld3
import Derived.Test.YtlndlpjadajelaaGreatQq25
namespace Go.Proofs.YtlndlpjadajelaaGreat.K
open Go.RowKit Go.Proofs.YtlndlpjadajelaaGreat.K.Ds
theorem grown_ans {w W w1 w2:World} {xs:List Int} {g c:Nat} (hW:Below w.heap.size w W) (hb1:Below W.heap.size W w1) (hg:W.heap.size≤g) (hgr:w1.grownBy w2 (some g)) (hA:Arw w2 W.heap.size g c xs):AnsP w xs (.returned (.slice (some ⟨g,0,none⟩) xs.length c)) w2 :=
 ⟨g,c,rfl,hA.mono hW.size,(bt hW hb1).trans (below_gb hgr (Nat.le_trans hW.size hg) (Nat.le_trans hW.size hb1.size))⟩
set_option maxHeartbeats 2000000 in
set_option maxRecDepth 100000 in
theorem ans4_any (c:ByteArray) (lo hi:Int) (cv rv wv:Value) (b o cap:Nat) (w:World) (B:Nat) (l:List Col) (ts:List Rw) (wh:List Tst) (hB:B≤w.heap.size) (hp:Cols w B cv l) (hr:Rws w B rv ts) (hw:Tss w B wv wh) (hbB:b < B) (x:Qu) (u0 u1 u2 u3 u4 u5:Value) (hu:At6 w b o u0 u1 u2 u3 u4 u5) (hqx:Qm w B x u0 u1 u2 u3 u4 u5) (xs:List Int) (kx:∀ W,Below w.heap.size w W→Calls Tryz.prog 73 #[.agg #[cv,rv],.agg #[u0,u1,u2,u3,u4,u5]] W (AnsP W xs)) (y:Qu) (z0 z1 z2 z3 z4 z5:Value) (hz:At6 w b (o + 6) z0 z1 z2 z3 z4 z5) (hqy:Qm w B y z0 z1 z2 z3 z4 z5) (ys:List Int) (ky:∀ W,Below w.heap.size w W→Calls Tryz.prog 73 #[.agg #[cv,rv],.agg #[z0,z1,z2,z3,z4,z5]] W (AnsP W ys)) (hbx:Bdd 1099511627776 xs) (hby:Bdd 1099511627776 ys) (hl:xs.length=ys.length) :
  Calls Tryz.prog 73 #[.agg #[cv,rv],.agg #[.int .i64 4,.string c,.int .i64 lo,.int .i64 hi,wv,.slice (some ⟨b,o,none⟩) 2 cap]] w (AnsP w (List.zipWith (· + ·) xs ys)):=by
 have ab:=Ab.new w cv rv 4 c lo hi wv (.slice (some ⟨b,o,none⟩) 2 cap)
 have hb0:=b3a w (.cells #[cv,rv] 27) (.cells #[.int .i64 4,.string c,.int .i64 lo,.int .i64 hi,wv,.slice (some ⟨b,o,none⟩) 2 cap] 31) (.cells #[.func (.func 126) #[] #[.pointer (some ⟨w.heap.size + 1,0,none⟩)]] 162)
 obtain ⟨W0,hW0⟩:∃ W0,(((w.alloc (.cells #[cv,rv] 27)).alloc (.cells #[.int .i64 4,.string c,.int .i64 lo,.int .i64 hi,wv,.slice (some ⟨b,o,none⟩) 2 cap] 31)).alloc (.cells #[.func (.func 126) #[] #[.pointer (some ⟨w.heap.size + 1,0,none⟩)]] 162))=W0:=⟨_,rfl⟩
 rw [hW0] at ab hb0
 have HW0:Hid ((((w.alloc (.cells #[cv,rv] 27)).alloc (.cells #[.int .i64 4,.string c,.int .i64 lo,.int .i64 hi,wv,.slice (some ⟨b,o,none⟩) 2 cap] 31)).alloc (.cells #[.func (.func 126) #[] #[.pointer (some ⟨w.heap.size + 1,0,none⟩)]] 162))=W0):=hW0
 have k1:=kid0_any w.heap.size (w.heap.size + 1) cv rv b o 2 cap (by omega) xs W0 ab.t0.c ab.t1.c ab.a5.c B x u0 u1 u2 u3 u4 u5 (hu.keep hb0 (Nat.lt_of_lt_of_le hbB hB)) (hqx.at hB hb0) l ts (hp.at hB hb0) (hr.at hB hb0) (kx _ hb0.drew)
 have HK:∀ w1,Below W0.heap.size W0 w1→Calls Tryz.prog 127 #[.int .i64 1,.pointer (some ⟨w.heap.size,0,none⟩),.pointer (some ⟨w.heap.size + 1,0,none⟩)] w1 (AnsP w1 ys):=fun w1 hb1 =>
  kid1_any w.heap.size (w.heap.size + 1) cv rv b o 2 cap (by omega) ys w1 (ab.at hb1).t0.c (ab.at hb1).t1.c (ab.at hb1).a5.c B y z0 z1 z2 z3 z4 z5 (hz.keep (bt hb0 hb1) (Nat.lt_of_lt_of_le hbB hB)) (hqy.at hB (bt hb0 hb1)) l ts (hp.at hB (bt hb0 hb1)) (hr.at hB (bt hb0 hb1)) (ky _ (bt hb0 hb1).drew)
 have HAB:Hid (Ab W0 w.heap.size cv rv 4 c lo hi wv (.slice (some ⟨b,o,none⟩) 2 cap)):=ab
 obtain ⟨ca,ccp,rfl,_⟩:=hp.slice
 obtain ⟨ra,rc,rfl,_⟩:=hr.slice
 obtain ⟨wa,wc,rfl,_⟩:=hw.slice
 have hmf:=hmf
 have m0:=HAB.out.a0.c
 clear hp hr hw hu hqx kx ab hz hqy ky
 go_enter Tryz.func73,Tryz.ntmps73
 have HL:Hid (xs.length=ys.length):=hl
 clear hl
 go_wp2_with fail
 refine k1.mono ?_
 rintro e w1 ⟨g1,c1,rfl,hA1,hb1⟩
 clear k1
 have hg1:=hA1.lt
 have k2:=HK w1 hb1
 clear HK
 go_wp2_with fail
 refine k2.mono ?_
 rintro e w2 ⟨g2,c2,rfl,hA2,hb2⟩
 clear k2
 have hg2:=hA2.lt
 have hA12:=hA1.at hb2
 have hbw:=bt hb1 hb2
 have k3:=pairP_any W0.heap.size g1 c1 w2.heap.size _ xs ys w2 hA12 (hA2.ints g1 (by omega)) HL.out hbx hby
 go_wp2_with fail
 refine k3.mono ?_
 rintro e w3 ⟨rfl,hA3,hgr⟩
 clear k3
 go_wp2
 go_ret
 have hle:(List.zipWith (· + ·) xs ys).length=xs.length:=by rw [List.length_zipWith]; have:=HL.out; omega
 have:=grown_ans hb0 hbw hg1.1 hgr hA3
 rw [hle] at this
 exact this
set_option maxHeartbeats 2000000 in
set_option maxRecDepth 100000 in
theorem ans5_any (c:ByteArray) (lo hi:Int) (cv rv wv:Value) (b o cap:Nat) (w:World) (B:Nat) (l:List Col) (ts:List Rw) (wh:List Tst) (hB:B≤w.heap.size) (hp:Cols w B cv l) (hr:Rws w B rv ts) (hw:Tss w B wv wh) (hbB:b < B) (x:Qu) (u0 u1 u2 u3 u4 u5:Value) (hu:At6 w b o u0 u1 u2 u3 u4 u5) (hqx:Qm w B x u0 u1 u2 u3 u4 u5) (xs:List Int) (kx:∀ W,Below w.heap.size w W→Calls Tryz.prog 73 #[.agg #[cv,rv],.agg #[u0,u1,u2,u3,u4,u5]] W (AnsP W xs)) (y:Qu) (z0 z1 z2 z3 z4 z5:Value) (hz:At6 w b (o + 6) z0 z1 z2 z3 z4 z5) (hqy:Qm w B y z0 z1 z2 z3 z4 z5) (ys:List Int) (ky:∀ W,Below w.heap.size w W→Calls Tryz.prog 73 #[.agg #[cv,rv],.agg #[z0,z1,z2,z3,z4,z5]] W (AnsP W ys)) (hbx:Bdd 1099511627776 xs) (hby:Bdd 1099511627776 ys) (hl:xs.length=ys.length) :
  Calls Tryz.prog 73 #[.agg #[cv,rv],.agg #[.int .i64 5,.string c,.int .i64 lo,.int .i64 hi,wv,.slice (some ⟨b,o,none⟩) 2 cap]] w (AnsP w (List.zipWith (· - ·) xs ys)):=by
 have ab:=Ab.new w cv rv 5 c lo hi wv (.slice (some ⟨b,o,none⟩) 2 cap)
 have hb0:=b3a w (.cells #[cv,rv] 27) (.cells #[.int .i64 5,.string c,.int .i64 lo,.int .i64 hi,wv,.slice (some ⟨b,o,none⟩) 2 cap] 31) (.cells #[.func (.func 126) #[] #[.pointer (some ⟨w.heap.size + 1,0,none⟩)]] 162)
 obtain ⟨W0,hW0⟩:∃ W0,(((w.alloc (.cells #[cv,rv] 27)).alloc (.cells #[.int .i64 5,.string c,.int .i64 lo,.int .i64 hi,wv,.slice (some ⟨b,o,none⟩) 2 cap] 31)).alloc (.cells #[.func (.func 126) #[] #[.pointer (some ⟨w.heap.size + 1,0,none⟩)]] 162))=W0:=⟨_,rfl⟩
 rw [hW0] at ab hb0
 have HW0:Hid ((((w.alloc (.cells #[cv,rv] 27)).alloc (.cells #[.int .i64 5,.string c,.int .i64 lo,.int .i64 hi,wv,.slice (some ⟨b,o,none⟩) 2 cap] 31)).alloc (.cells #[.func (.func 126) #[] #[.pointer (some ⟨w.heap.size + 1,0,none⟩)]] 162))=W0):=hW0
 have k1:=kid0_any w.heap.size (w.heap.size + 1) cv rv b o 2 cap (by omega) xs W0 ab.t0.c ab.t1.c ab.a5.c B x u0 u1 u2 u3 u4 u5 (hu.keep hb0 (Nat.lt_of_lt_of_le hbB hB)) (hqx.at hB hb0) l ts (hp.at hB hb0) (hr.at hB hb0) (kx _ hb0.drew)
 have HK:∀ w1,Below W0.heap.size W0 w1→Calls Tryz.prog 127 #[.int .i64 1,.pointer (some ⟨w.heap.size,0,none⟩),.pointer (some ⟨w.heap.size + 1,0,none⟩)] w1 (AnsP w1 ys):=fun w1 hb1 =>
  kid1_any w.heap.size (w.heap.size + 1) cv rv b o 2 cap (by omega) ys w1 (ab.at hb1).t0.c (ab.at hb1).t1.c (ab.at hb1).a5.c B y z0 z1 z2 z3 z4 z5 (hz.keep (bt hb0 hb1) (Nat.lt_of_lt_of_le hbB hB)) (hqy.at hB (bt hb0 hb1)) l ts (hp.at hB (bt hb0 hb1)) (hr.at hB (bt hb0 hb1)) (ky _ (bt hb0 hb1).drew)
 have HAB:Hid (Ab W0 w.heap.size cv rv 5 c lo hi wv (.slice (some ⟨b,o,none⟩) 2 cap)):=ab
 obtain ⟨ca,ccp,rfl,_⟩:=hp.slice
 obtain ⟨ra,rc,rfl,_⟩:=hr.slice
 obtain ⟨wa,wc,rfl,_⟩:=hw.slice
 have hmf:=hmf
 have m0:=HAB.out.a0.c
 clear hp hr hw hu hqx kx ab hz hqy ky
 go_enter Tryz.func73,Tryz.ntmps73
 have HL:Hid (xs.length=ys.length):=hl
 clear hl
 go_wp2_with fail
 refine k1.mono ?_
 rintro e w1 ⟨g1,c1,rfl,hA1,hb1⟩
 clear k1
 have hg1:=hA1.lt
 have k2:=HK w1 hb1
 clear HK
 go_wp2_with fail
 refine k2.mono ?_
 rintro e w2 ⟨g2,c2,rfl,hA2,hb2⟩
 clear k2
 have hg2:=hA2.lt
 have hA12:=hA1.at hb2
 have hbw:=bt hb1 hb2
 have k3:=pairM_any W0.heap.size g1 c1 w2.heap.size _ xs ys w2 hA12 (hA2.ints g1 (by omega)) HL.out hbx hby
 go_wp2_with fail
 refine k3.mono ?_
 rintro e w3 ⟨rfl,hA3,hgr⟩
 clear k3
 go_wp2
 go_ret
 have hle:(List.zipWith (· - ·) xs ys).length=xs.length:=by rw [List.length_zipWith]; have:=HL.out; omega
 have:=grown_ans hb0 hbw hg1.1 hgr hA3
 rw [hle] at this
 exact this
set_option maxHeartbeats 2000000 in
set_option maxRecDepth 100000 in
theorem ans6_any (c:ByteArray) (lo hi:Int) (cv rv wv:Value) (b o cap:Nat) (w:World) (B:Nat) (l:List Col) (ts:List Rw) (wh:List Tst) (hB:B≤w.heap.size) (hp:Cols w B cv l) (hr:Rws w B rv ts) (hw:Tss w B wv wh) (hbB:b < B) (x:Qu) (u0 u1 u2 u3 u4 u5:Value) (hu:At6 w b o u0 u1 u2 u3 u4 u5) (hqx:Qm w B x u0 u1 u2 u3 u4 u5) (xs:List Int) (kx:∀ W,Below w.heap.size w W→Calls Tryz.prog 73 #[.agg #[cv,rv],.agg #[u0,u1,u2,u3,u4,u5]] W (AnsP W xs)) (hbx:Bdd 1099511627776 xs) (hlo:-1048576≤lo∧lo≤1048576) :
  Calls Tryz.prog 73 #[.agg #[cv,rv],.agg #[.int .i64 6,.string c,.int .i64 lo,.int .i64 hi,wv,.slice (some ⟨b,o,none⟩) 1 cap]] w (AnsP w (xs.map (lo * ·))):=by
 have ab:=Ab.new w cv rv 6 c lo hi wv (.slice (some ⟨b,o,none⟩) 1 cap)
 have hb0:=b3a w (.cells #[cv,rv] 27) (.cells #[.int .i64 6,.string c,.int .i64 lo,.int .i64 hi,wv,.slice (some ⟨b,o,none⟩) 1 cap] 31) (.cells #[.func (.func 126) #[] #[.pointer (some ⟨w.heap.size + 1,0,none⟩)]] 162)
 obtain ⟨W0,hW0⟩:∃ W0,(((w.alloc (.cells #[cv,rv] 27)).alloc (.cells #[.int .i64 6,.string c,.int .i64 lo,.int .i64 hi,wv,.slice (some ⟨b,o,none⟩) 1 cap] 31)).alloc (.cells #[.func (.func 126) #[] #[.pointer (some ⟨w.heap.size + 1,0,none⟩)]] 162))=W0:=⟨_,rfl⟩
 rw [hW0] at ab hb0
 have HW0:Hid ((((w.alloc (.cells #[cv,rv] 27)).alloc (.cells #[.int .i64 6,.string c,.int .i64 lo,.int .i64 hi,wv,.slice (some ⟨b,o,none⟩) 1 cap] 31)).alloc (.cells #[.func (.func 126) #[] #[.pointer (some ⟨w.heap.size + 1,0,none⟩)]] 162))=W0):=hW0
 have k1:=kid0_any w.heap.size (w.heap.size + 1) cv rv b o 1 cap (by omega) xs W0 ab.t0.c ab.t1.c ab.a5.c B x u0 u1 u2 u3 u4 u5 (hu.keep hb0 (Nat.lt_of_lt_of_le hbB hB)) (hqx.at hB hb0) l ts (hp.at hB hb0) (hr.at hB hb0) (kx _ hb0.drew)
 have HAB:Hid (Ab W0 w.heap.size cv rv 6 c lo hi wv (.slice (some ⟨b,o,none⟩) 1 cap)):=ab
 obtain ⟨ca,ccp,rfl,_⟩:=hp.slice
 obtain ⟨ra,rc,rfl,_⟩:=hr.slice
 obtain ⟨wa,wc,rfl,_⟩:=hw.slice
 have hmf:=hmf
 have m0:=HAB.out.a0.c
 clear hp hr hw hu hqx kx ab
 go_enter Tryz.func73,Tryz.ntmps73
 go_wp2_with fail
 refine k1.mono ?_
 rintro e w1 ⟨g1,c1,rfl,hA1,hb1⟩
 clear k1
 have hg1:=hA1.lt
 have ab1:=HAB.out.at hb1
 have k3:=eachT_any W0.heap.size g1 c1 (w.heap.size + 1) xs w1 hA1 lo hbx ab1.a2.c hlo (by have:=HAB.out.a2.lt; omega)
 clear ab1
 go_wp2_with fail
 refine k3.mono ?_
 rintro e w3 ⟨rfl,hA3,hgr⟩
 clear k3
 go_wp2
 go_ret
 have:=grown_ans hb0 hb1 hg1.1 hgr hA3
 rw [List.length_map] at this
 exact this
set_option maxHeartbeats 2000000 in
set_option maxRecDepth 100000 in
theorem ans7_any (c:ByteArray) (lo hi:Int) (cv rv wv:Value) (b o cap:Nat) (w:World) (B:Nat) (l:List Col) (ts:List Rw) (wh:List Tst) (hB:B≤w.heap.size) (hp:Cols w B cv l) (hr:Rws w B rv ts) (hw:Tss w B wv wh) (hbB:b < B) (x:Qu) (u0 u1 u2 u3 u4 u5:Value) (hu:At6 w b o u0 u1 u2 u3 u4 u5) (hqx:Qm w B x u0 u1 u2 u3 u4 u5) (xs:List Int) (kx:∀ W,Below w.heap.size w W→Calls Tryz.prog 73 #[.agg #[cv,rv],.agg #[u0,u1,u2,u3,u4,u5]] W (AnsP W xs)) (y:Qu) (z0 z1 z2 z3 z4 z5:Value) (hz:At6 w b (o + 6) z0 z1 z2 z3 z4 z5) (hqy:Qm w B y z0 z1 z2 z3 z4 z5) (ys:List Int) (ky:∀ W,Below w.heap.size w W→Calls Tryz.prog 73 #[.agg #[cv,rv],.agg #[z0,z1,z2,z3,z4,z5]] W (AnsP W ys)) (hl:xs.length + ys.length≤1048576) :
  Calls Tryz.prog 73 #[.agg #[cv,rv],.agg #[.int .i64 7,.string c,.int .i64 lo,.int .i64 hi,wv,.slice (some ⟨b,o,none⟩) 2 cap]] w (AnsP w (xs ++ ys)):=by
 have ab:=Ab.new w cv rv 7 c lo hi wv (.slice (some ⟨b,o,none⟩) 2 cap)
 have hb0:=b3a w (.cells #[cv,rv] 27) (.cells #[.int .i64 7,.string c,.int .i64 lo,.int .i64 hi,wv,.slice (some ⟨b,o,none⟩) 2 cap] 31) (.cells #[.func (.func 126) #[] #[.pointer (some ⟨w.heap.size + 1,0,none⟩)]] 162)
 obtain ⟨W0,hW0⟩:∃ W0,(((w.alloc (.cells #[cv,rv] 27)).alloc (.cells #[.int .i64 7,.string c,.int .i64 lo,.int .i64 hi,wv,.slice (some ⟨b,o,none⟩) 2 cap] 31)).alloc (.cells #[.func (.func 126) #[] #[.pointer (some ⟨w.heap.size + 1,0,none⟩)]] 162))=W0:=⟨_,rfl⟩
 rw [hW0] at ab hb0
 have HW0:Hid ((((w.alloc (.cells #[cv,rv] 27)).alloc (.cells #[.int .i64 7,.string c,.int .i64 lo,.int .i64 hi,wv,.slice (some ⟨b,o,none⟩) 2 cap] 31)).alloc (.cells #[.func (.func 126) #[] #[.pointer (some ⟨w.heap.size + 1,0,none⟩)]] 162))=W0):=hW0
 have k1:=kid0_any w.heap.size (w.heap.size + 1) cv rv b o 2 cap (by omega) xs W0 ab.t0.c ab.t1.c ab.a5.c B x u0 u1 u2 u3 u4 u5 (hu.keep hb0 (Nat.lt_of_lt_of_le hbB hB)) (hqx.at hB hb0) l ts (hp.at hB hb0) (hr.at hB hb0) (kx _ hb0.drew)
 have HK:∀ w1,Below W0.heap.size W0 w1→Calls Tryz.prog 127 #[.int .i64 1,.pointer (some ⟨w.heap.size,0,none⟩),.pointer (some ⟨w.heap.size + 1,0,none⟩)] w1 (AnsP w1 ys):=fun w1 hb1 =>
  kid1_any w.heap.size (w.heap.size + 1) cv rv b o 2 cap (by omega) ys w1 (ab.at hb1).t0.c (ab.at hb1).t1.c (ab.at hb1).a5.c B y z0 z1 z2 z3 z4 z5 (hz.keep (bt hb0 hb1) (Nat.lt_of_lt_of_le hbB hB)) (hqy.at hB (bt hb0 hb1)) l ts (hp.at hB (bt hb0 hb1)) (hr.at hB (bt hb0 hb1)) (ky _ (bt hb0 hb1).drew)
 have HAB:Hid (Ab W0 w.heap.size cv rv 7 c lo hi wv (.slice (some ⟨b,o,none⟩) 2 cap)):=ab
 obtain ⟨ca,ccp,rfl,_⟩:=hp.slice
 obtain ⟨ra,rc,rfl,_⟩:=hr.slice
 obtain ⟨wa,wc,rfl,_⟩:=hw.slice
 have hmf:=hmf
 have m0:=HAB.out.a0.c
 clear hp hr hw hu hqx kx ab hz hqy ky
 go_enter Tryz.func73,Tryz.ntmps73
 obtain ⟨i0,hi0,hz0,hz1,hz2⟩:=info_parts info3
 have HL:Hid (xs.length + ys.length≤1048576):=hl
 clear hl
 go_wp2_with fail
 refine k1.mono ?_
 rintro e w1 ⟨g1,c1,rfl,hA1,hb1⟩
 clear k1
 have hg1:=hA1.lt
 have k2:=HK w1 hb1
 clear HK
 go_wp2_with fail
 refine k2.mono ?_
 rintro e w2 ⟨g2,c2,rfl,hA2,hb2⟩
 clear k2
 have hg2:=hA2.lt
 have hA12:=hA1.at hb2
 have hbw:=bt hb1 hb2
 have HA2:Hid (Arw w2 w1.heap.size g2 c2 ys):=hA2
 have HA12:Hid (Arw w2 W0.heap.size g1 c1 xs):=hA12
 have hs2:Hid (W0.heap.size≤w2.heap.size):=hbw.size
 clear hA1 hA2 hA12
 go_wp2_with (at_builtin; refine wpList_append_own _ rfl _ _ 65 rfl W0.heap.size 3 i0 (.int .i64 0) 1 8 Tryz.underlying65 hi0 hz0 hz1 hz2 rfl (by decide) _ _ _ rfl HA12.out ⟨g2,0,none⟩ ys.length c2 (ys.map (.int .i64)) rfl ?q1 ?q2 ?q3 ?q4 ?q5 ?q6 ?_)
 case q1=>simp
 case q2=>exact World.ownsRow.cells HA2.out rfl
 case q3=>intro u hu; obtain ⟨z,_,rfl⟩:=List.mem_map.1 hu; rfl
 case q4=>have:=HL.out; simp [maxLen]; omega
 case q5=>have:=HL.out; omega
 case q6=>exact hs2.out
 intro v3 w3 hown3 hgrow hnil
 obtain ⟨g3,c3,rfl,hg3,_⟩:=owns_some hown3 hnil
 have hA3:Arw w3 W0.heap.size g3 c3 (xs ++ ys):=by simpa [Arw] using hown3
 have hbw3:Below w.heap.size w w3:=(bt hb0 hbw).trans (below_gb (E:=g1) hgrow (Nat.le_trans hb0.size hg1.1) (Nat.le_trans hb0.size hs2.out))
 clear hgrow hnil hown3
 go_wp2
 go_ret
 exact ⟨g3,c3,by rw [List.length_append]; rfl,hA3.mono hb0.size,hbw3⟩
set_option maxHeartbeats 2000000 in
set_option maxRecDepth 100000 in
theorem ans8_any (c:ByteArray) (lo hi:Int) (cv rv wv:Value) (b o cap:Nat) (w:World) (B:Nat) (l:List Col) (ts:List Rw) (wh:List Tst) (hB:B≤w.heap.size) (hp:Cols w B cv l) (hr:Rws w B rv ts) (hw:Tss w B wv wh) (hbB:b < B) (x:Qu) (u0 u1 u2 u3 u4 u5:Value) (hu:At6 w b o u0 u1 u2 u3 u4 u5) (hqx:Qm w B x u0 u1 u2 u3 u4 u5) (xs:List Int) (kx:∀ W,Below w.heap.size w W→Calls Tryz.prog 73 #[.agg #[cv,rv],.agg #[u0,u1,u2,u3,u4,u5]] W (AnsP W xs)) (hbx:Bdd 1099511627776 xs) (hl:xs.length≤4096) :
  Calls Tryz.prog 73 #[.agg #[cv,rv],.agg #[.int .i64 8,.string c,.int .i64 lo,.int .i64 hi,wv,.slice (some ⟨b,o,none⟩) 1 cap]] w (AnsP w ([smL xs])):=by
 have ab:=Ab.new w cv rv 8 c lo hi wv (.slice (some ⟨b,o,none⟩) 1 cap)
 have hb0:=b3a w (.cells #[cv,rv] 27) (.cells #[.int .i64 8,.string c,.int .i64 lo,.int .i64 hi,wv,.slice (some ⟨b,o,none⟩) 1 cap] 31) (.cells #[.func (.func 126) #[] #[.pointer (some ⟨w.heap.size + 1,0,none⟩)]] 162)
 obtain ⟨W0,hW0⟩:∃ W0,(((w.alloc (.cells #[cv,rv] 27)).alloc (.cells #[.int .i64 8,.string c,.int .i64 lo,.int .i64 hi,wv,.slice (some ⟨b,o,none⟩) 1 cap] 31)).alloc (.cells #[.func (.func 126) #[] #[.pointer (some ⟨w.heap.size + 1,0,none⟩)]] 162))=W0:=⟨_,rfl⟩
 rw [hW0] at ab hb0
 have HW0:Hid ((((w.alloc (.cells #[cv,rv] 27)).alloc (.cells #[.int .i64 8,.string c,.int .i64 lo,.int .i64 hi,wv,.slice (some ⟨b,o,none⟩) 1 cap] 31)).alloc (.cells #[.func (.func 126) #[] #[.pointer (some ⟨w.heap.size + 1,0,none⟩)]] 162))=W0):=hW0
 have k1:=kid0_any w.heap.size (w.heap.size + 1) cv rv b o 1 cap (by omega) xs W0 ab.t0.c ab.t1.c ab.a5.c B x u0 u1 u2 u3 u4 u5 (hu.keep hb0 (Nat.lt_of_lt_of_le hbB hB)) (hqx.at hB hb0) l ts (hp.at hB hb0) (hr.at hB hb0) (kx _ hb0.drew)
 have HAB:Hid (Ab W0 w.heap.size cv rv 8 c lo hi wv (.slice (some ⟨b,o,none⟩) 1 cap)):=ab
 obtain ⟨ca,ccp,rfl,_⟩:=hp.slice
 obtain ⟨ra,rc,rfl,_⟩:=hr.slice
 obtain ⟨wa,wc,rfl,_⟩:=hw.slice
 have hmf:=hmf
 have m0:=HAB.out.a0.c
 clear hp hr hw hu hqx kx ab
 go_enter Tryz.func73,Tryz.ntmps73
 go_wp2_with fail
 refine k1.mono ?_
 rintro e w1 ⟨g1,c1,rfl,hA1,hb1⟩
 clear k1
 have hg1:=hA1.lt
 have k3:=total_any w1.heap.size w1.heap.size _ xs w1 (Nat.le_refl _) (hA1.ints w1.heap.size (by omega)) hl hbx _ rfl
 go_wp2_with fail
 refine k3.mono ?_
 rintro e w3 ⟨rfl,hw3⟩
 subst hw3
 clear k3
 go_wp2
 go_ret
 exact ⟨w3.heap.size,1,rfl,Arw.lit _ _ _ (Nat.le_trans hb0.size hb1.size),bt hb0 (bal hb1 _)⟩
set_option maxHeartbeats 2000000 in
set_option maxRecDepth 100000 in
theorem ans9_any (c:ByteArray) (lo hi:Int) (cv rv wv:Value) (b o cap:Nat) (w:World) (B:Nat) (l:List Col) (ts:List Rw) (wh:List Tst) (hB:B≤w.heap.size) (hp:Cols w B cv l) (hr:Rws w B rv ts) (hw:Tss w B wv wh) (hbB:b < B) (x:Qu) (u0 u1 u2 u3 u4 u5:Value) (hu:At6 w b o u0 u1 u2 u3 u4 u5) (hqx:Qm w B x u0 u1 u2 u3 u4 u5) (xs:List Int) (kx:∀ W,Below w.heap.size w W→Calls Tryz.prog 73 #[.agg #[cv,rv],.agg #[u0,u1,u2,u3,u4,u5]] W (AnsP W xs)) (j:Nat) (z:Int) (hlj:lo=(j:Int)) (hj:xs[j]? = some z) :
  Calls Tryz.prog 73 #[.agg #[cv,rv],.agg #[.int .i64 9,.string c,.int .i64 lo,.int .i64 hi,wv,.slice (some ⟨b,o,none⟩) 1 cap]] w (AnsP w ([z])):=by
 subst hlj
 have ab:=Ab.new w cv rv 9 c (j:Int) hi wv (.slice (some ⟨b,o,none⟩) 1 cap)
 have hb0:=b3a w (.cells #[cv,rv] 27) (.cells #[.int .i64 9,.string c,.int .i64 (j:Int),.int .i64 hi,wv,.slice (some ⟨b,o,none⟩) 1 cap] 31) (.cells #[.func (.func 126) #[] #[.pointer (some ⟨w.heap.size + 1,0,none⟩)]] 162)
 obtain ⟨W0,hW0⟩:∃ W0,(((w.alloc (.cells #[cv,rv] 27)).alloc (.cells #[.int .i64 9,.string c,.int .i64 (j:Int),.int .i64 hi,wv,.slice (some ⟨b,o,none⟩) 1 cap] 31)).alloc (.cells #[.func (.func 126) #[] #[.pointer (some ⟨w.heap.size + 1,0,none⟩)]] 162))=W0:=⟨_,rfl⟩
 rw [hW0] at ab hb0
 have HW0:Hid ((((w.alloc (.cells #[cv,rv] 27)).alloc (.cells #[.int .i64 9,.string c,.int .i64 (j:Int),.int .i64 hi,wv,.slice (some ⟨b,o,none⟩) 1 cap] 31)).alloc (.cells #[.func (.func 126) #[] #[.pointer (some ⟨w.heap.size + 1,0,none⟩)]] 162))=W0):=hW0
 have k1:=kid0_any w.heap.size (w.heap.size + 1) cv rv b o 1 cap (by omega) xs W0 ab.t0.c ab.t1.c ab.a5.c B x u0 u1 u2 u3 u4 u5 (hu.keep hb0 (Nat.lt_of_lt_of_le hbB hB)) (hqx.at hB hb0) l ts (hp.at hB hb0) (hr.at hB hb0) (kx _ hb0.drew)
 have HAB:Hid (Ab W0 w.heap.size cv rv 9 c (j:Int) hi wv (.slice (some ⟨b,o,none⟩) 1 cap)):=ab
 obtain ⟨ca,ccp,rfl,_⟩:=hp.slice
 obtain ⟨ra,rc,rfl,_⟩:=hr.slice
 obtain ⟨wa,wc,rfl,_⟩:=hw.slice
 have hmf:=hmf
 have m0:=HAB.out.a0.c
 have k1':=kid0_any w.heap.size (w.heap.size + 1) _ _ b o 1 cap (by omega) xs W0.drew HAB.out.t0.c HAB.out.t1.c HAB.out.a5.c B x u0 u1 u2 u3 u4 u5 (hu.keep hb0.drew (Nat.lt_of_lt_of_le hbB hB)) (hqx.at hB hb0.drew) l ts (hp.at hB hb0.drew) (hr.at hB hb0.drew) (kx _ hb0.drew.drew)
 clear hp hr hw hu hqx kx ab k1
 go_enter Tryz.func73,Tryz.ntmps73
 have a2:=HAB.out.a2.c
 have l2:=HAB.out.a2.lt
 have hjl:j < xs.length:=(List.getElem?_eq_some_iff.1 hj).1
 have hjl1:(0:Int)≤(j:Int):=by omega
 have hjl2:(j:Int) < (xs.length:Int):=by omega
 have k1d:Calls Tryz.prog 127 #[.int .i64 0,.pointer (some ⟨w.heap.size,0,none⟩),.pointer (some ⟨w.heap.size + 1,0,none⟩)] W0.drew (AnsP W0.drew xs):=k1'
 go_wp2
 go_region_law (first | (go_simp; go_at_call 127; refine k1d.mono ?_; rintro x3 w1 hA; obtain ⟨g1,c1,rfl,hA1,hb1⟩:=hA; have q0:w1.cell? ⟨g1,j,none⟩=some (.int .i64 z):=hA1.cell hj; have q1:w1.cell? ⟨w.heap.size + 1,2,none⟩=some (.int .i64 (j:Int)):=(hb1.cell (p:=⟨w.heap.size + 1,2,none⟩) l2).trans a2; go_wp2_with fail))
 all_goals
  go_wp2
  go_ret
  exact ⟨w1.heap.size,1,rfl,Arw.lit _ _ _ (Nat.le_trans hb0.drew.size hb1.size),bt hb0.drew (bal hb1 _)⟩
set_option maxHeartbeats 2000000 in
set_option maxRecDepth 100000 in
theorem ans10_any (c:ByteArray) (lo hi:Int) (cv rv wv:Value) (b o cap:Nat) (w:World) (B:Nat) (l:List Col) (ts:List Rw) (wh:List Tst) (hB:B≤w.heap.size) (hp:Cols w B cv l) (hr:Rws w B rv ts) (hw:Tss w B wv wh) (hbB:b < B) (x:Qu) (u0 u1 u2 u3 u4 u5:Value) (hu:At6 w b o u0 u1 u2 u3 u4 u5) (hqx:Qm w B x u0 u1 u2 u3 u4 u5) (xs:List Int) (kx:∀ W,Below w.heap.size w W→Calls Tryz.prog 73 #[.agg #[cv,rv],.agg #[u0,u1,u2,u3,u4,u5]] W (AnsP W xs)) (hbx:Bdd 1099511627776 xs) (hle:lo≤hi) :
  Calls Tryz.prog 73 #[.agg #[cv,rv],.agg #[.int .i64 10,.string c,.int .i64 lo,.int .i64 hi,wv,.slice (some ⟨b,o,none⟩) 1 cap]] w (AnsP w (xs.map (inT lo hi))):=by
 have ab:=Ab.new w cv rv 10 c lo hi wv (.slice (some ⟨b,o,none⟩) 1 cap)
 have hb0:=b3a w (.cells #[cv,rv] 27) (.cells #[.int .i64 10,.string c,.int .i64 lo,.int .i64 hi,wv,.slice (some ⟨b,o,none⟩) 1 cap] 31) (.cells #[.func (.func 126) #[] #[.pointer (some ⟨w.heap.size + 1,0,none⟩)]] 162)
 obtain ⟨W0,hW0⟩:∃ W0,(((w.alloc (.cells #[cv,rv] 27)).alloc (.cells #[.int .i64 10,.string c,.int .i64 lo,.int .i64 hi,wv,.slice (some ⟨b,o,none⟩) 1 cap] 31)).alloc (.cells #[.func (.func 126) #[] #[.pointer (some ⟨w.heap.size + 1,0,none⟩)]] 162))=W0:=⟨_,rfl⟩
 rw [hW0] at ab hb0
 have HW0:Hid ((((w.alloc (.cells #[cv,rv] 27)).alloc (.cells #[.int .i64 10,.string c,.int .i64 lo,.int .i64 hi,wv,.slice (some ⟨b,o,none⟩) 1 cap] 31)).alloc (.cells #[.func (.func 126) #[] #[.pointer (some ⟨w.heap.size + 1,0,none⟩)]] 162))=W0):=hW0
 have k1:=kid0_any w.heap.size (w.heap.size + 1) cv rv b o 1 cap (by omega) xs W0 ab.t0.c ab.t1.c ab.a5.c B x u0 u1 u2 u3 u4 u5 (hu.keep hb0 (Nat.lt_of_lt_of_le hbB hB)) (hqx.at hB hb0) l ts (hp.at hB hb0) (hr.at hB hb0) (kx _ hb0.drew)
 have HAB:Hid (Ab W0 w.heap.size cv rv 10 c lo hi wv (.slice (some ⟨b,o,none⟩) 1 cap)):=ab
 obtain ⟨ca,ccp,rfl,_⟩:=hp.slice
 obtain ⟨ra,rc,rfl,_⟩:=hr.slice
 obtain ⟨wa,wc,rfl,_⟩:=hw.slice
 have hmf:=hmf
 have m0:=HAB.out.a0.c
 have k1':=kid0_any w.heap.size (w.heap.size + 1) _ _ b o 1 cap (by omega) xs W0.drew HAB.out.t0.c HAB.out.t1.c HAB.out.a5.c B x u0 u1 u2 u3 u4 u5 (hu.keep hb0.drew (Nat.lt_of_lt_of_le hbB hB)) (hqx.at hB hb0.drew) l ts (hp.at hB hb0.drew) (hr.at hB hb0.drew) (kx _ hb0.drew.drew)
 clear hp hr hw hu hqx kx ab k1
 go_enter Tryz.func73,Tryz.ntmps73
 have f0:=HAB.out.f0.c
 have lf:=HAB.out.f0.lt
 go_wp2
 go_region_law (first | (go_simp; go_at_call 127; refine k1'.mono ?_; rintro x3 w1 hA; obtain ⟨g1,c1,rfl,hA1,hb1⟩:=hA; have q0:w1.cell? ⟨w.heap.size + 1 + 1,0,none⟩=some (.func (.func 126) #[] #[.pointer (some ⟨w.heap.size + 1,0,none⟩)]):=(hb1.cell (p:=⟨w.heap.size + 1 + 1,0,none⟩) lf).trans f0; go_wp2_with fail) | (go_simp; go_at_call 136; refine (eachC_any W0.drew.heap.size g1 c1 (w.heap.size + 1) xs w1 hA1 lo hi hbx ((HAB.out.at (Below.refl _ _).drew).at hb1).a2.c ((HAB.out.at (Below.refl _ _).drew).at hb1).a3.c hle (by have:=HAB.out.a2.lt; have:=hA1.lt.1; intro e; subst e; exact Nat.lt_irrefl _ (Nat.lt_of_lt_of_le HAB.out.a2.lt hA1.lt.1))).mono ?_; rintro x4 w2 hE; obtain ⟨rfl,hA2,hgr⟩:=hE; go_wp2_with fail))
 all_goals
  go_wp2
  go_ret
  have hfin:=grown_ans hb0.drew hb1 hA1.lt.1 hgr hA2
  rw [List.length_map] at hfin
  exact hfin
theorem Qm.ne {w:World} {B:Nat} {q:Qu} {v0 v1 v2 v3 v4 v5:Value} (h:Qm w B q v0 v1 v2 v3 v4 v5):q≠.none:=by rintro rfl; exact h
theorem stp1 (a:Nat) (lo hi:Int):stp 1 a lo hi=stp 1 0 0 0:=funext fun r=>by simp [stp]
theorem stp3 (a:Nat) (lo hi:Int):stp 3 a lo hi=stp 3 a 0 0:=funext fun r=>by simp [stp]
theorem answer_any {l:List Col} (hs:Szs l) {ts:List Rw} (hlen:ts.length≤4096) (hok:∀ r∈rr ts,RowOk l r) (q:Qu):∀ (lv:Nat) (w:World) (B:Nat) (cv rv v0 v1 v2 v3 v4 v5:Value) (b:Bnd),B≤w.heap.size→Cols w B cv l→Rws w B rv ts→Qm w B q v0 v1 v2 v3 v4 v5→bnd l lv q=.ok b →
  Calls Tryz.prog 73 #[.agg #[cv,rv],.agg #[v0,v1,v2,v3,v4,v5]] w (AnsP w (ans l (rr ts) q)):=by
 have hrl:(rr ts).length≤4096:=by rw [rr_len]; exact hlen
 induction q with
 | none=>intro lv w B cv rv v0 v1 v2 v3 v4 v5 b _ _ _ h; exact h.elim
 | node k c lo hi wh n x y ihx ihy =>
  rintro lv w B cv rv _ _ _ _ v4 _ b hB hp hr ⟨rfl,rfl,rfl,rfl,hc,hw,a,cap,rfl,hn,hm,hk⟩ hb
  obtain ⟨hkn,⟨x1,x2,x3⟩,⟨y1,y2,y3⟩,hbx,hby,hrec,hlim⟩:=lim_inv hb
  have gx:1≤n→bnd l (lv + 1) x=.ok (x1,x2,x3):=fun h=>by rwa [ifK,if_pos h] at hbx
  have gy:2≤n→bnd l (lv + 1) y=.ok (y1,y2,y3):=fun h=>by rwa [ifK,if_pos h] at hby
  have fx:1≤n→x≠.none→((ans l (rr ts) x).length:Int)=x1∧Bdd 1099511627776 (ans l (rr ts) x)∧BOk (x1,x2,x3):=fun h hx=>by
   have h1:=ans_ok hs hrl x _ _ (gx h) hx
   have h2:=bnd_bd hs x _ _ (gx h)
   exact ⟨h1.1,h1.2.mono h2.2.2.2.2.2,h2⟩
  have fy:2≤n→y≠.none→((ans l (rr ts) y).length:Int)=y1∧Bdd 1099511627776 (ans l (rr ts) y)∧BOk (y1,y2,y3):=fun h hy=>by
   have h1:=ans_ok hs hrl y _ _ (gy h) hy
   have h2:=bnd_bd hs y _ _ (gy h)
   exact ⟨h1.1,h1.2.mono h2.2.2.2.2.2,h2⟩
  have hkv:∃ a' n' cc,Value.slice a n cap=.slice a' n' cc:=⟨_,_,_,rfl⟩
  have hkc:¬ kidN k < 0:=by omega
  rcases kidN_cases hkc with rfl | rfl | rfl | rfl | rfl | rfl | rfl | rfl | rfl | rfl
  ·simp [rec] at hrec
   obtain ⟨hwe,_⟩:=ifW_ok hrec
   rw [ans_leaf _ _ _ _ _ _ _ _ _ (by simp),stp1]
   exact ans1_any c lo hi cv rv v4 _ w B l ts wh hB hp hr hw hlen hok hkv hwe
  ·simp [rec] at hrec
   split at hrec
   ·rename_i hf
    split at hrec
    ·rename_i hwr
     obtain ⟨hwe,_⟩:=ifW_ok hrec
     obtain ⟨at',hat⟩:=Option.isSome_iff_exists.1 hf
     rw [ans_leaf _ _ _ _ _ _ _ _ _ (by simp),hat]
     exact ans2_any c lo hi cv rv v4 _ w B l ts wh hB hp hr hw hlen hok hkv hwe at' hat hwr
    ·cases hrec
   ·cases hrec
  ·simp [rec] at hrec
   split at hrec
   ·rename_i at' hat
    obtain ⟨hwe,_⟩:=ifW_ok hrec
    have hsz:=szC_bd hs hat
    rw [ans_leaf _ _ _ _ _ _ _ _ _ (by simp),hat,stp3]
    exact ans3_any c lo hi cv rv v4 _ w B l ts wh hB hp hr hw hlen hok hkv hwe at' hat (szC l at').toNat (by omega) (by omega)
   ·cases hrec
  ·have hn2:n=2:=by simp [kidN] at hkn; omega
   subst hn2
   obtain ⟨b',o,rfl,hbB,⟨u0,u1,u2,u3,u4,u5,hu,hqx⟩,hyy⟩:=hk (by decide) (by decide)
   obtain ⟨z0,z1,z2,z3,z4,z5,hz,hqy⟩:=hyy (by decide)
   obtain ⟨lx,bx,_⟩:=fx (by decide) hqx.ne
   obtain ⟨ly,by',_⟩:=fy (by decide) hqy.ne
   simp [rec] at hrec
   split at hrec
   ·rename_i he
    rw [ans_4]
    exact ans4_any c lo hi cv rv v4 b' o cap w B l ts wh hB hp hr hw hbB x u0 u1 u2 u3 u4 u5 hu hqx _ (fun W hW=>ihx (lv + 1) W B cv rv _ _ _ _ _ _ _ (Nat.le_trans hB hW.size) (hp.at hB hW) (hr.at hB hW) (hqx.at hB hW) (gx (by decide))) y z0 z1 z2 z3 z4 z5 hz hqy _ (fun W hW=>ihy (lv + 1) W B cv rv _ _ _ _ _ _ _ (Nat.le_trans hB hW.size) (hp.at hB hW) (hr.at hB hW) (hqy.at hB hW) (gy (by decide))) bx by' (by omega)
   ·cases hrec
  ·have hn2:n=2:=by simp [kidN] at hkn; omega
   subst hn2
   obtain ⟨b',o,rfl,hbB,⟨u0,u1,u2,u3,u4,u5,hu,hqx⟩,hyy⟩:=hk (by decide) (by decide)
   obtain ⟨z0,z1,z2,z3,z4,z5,hz,hqy⟩:=hyy (by decide)
   obtain ⟨lx,bx,_⟩:=fx (by decide) hqx.ne
   obtain ⟨ly,by',_⟩:=fy (by decide) hqy.ne
   simp [rec] at hrec
   split at hrec
   ·rename_i he
    rw [ans_5]
    exact ans5_any c lo hi cv rv v4 b' o cap w B l ts wh hB hp hr hw hbB x u0 u1 u2 u3 u4 u5 hu hqx _ (fun W hW=>ihx (lv + 1) W B cv rv _ _ _ _ _ _ _ (Nat.le_trans hB hW.size) (hp.at hB hW) (hr.at hB hW) (hqx.at hB hW) (gx (by decide))) y z0 z1 z2 z3 z4 z5 hz hqy _ (fun W hW=>ihy (lv + 1) W B cv rv _ _ _ _ _ _ _ (Nat.le_trans hB hW.size) (hp.at hB hW) (hr.at hB hW) (hqy.at hB hW) (gy (by decide))) bx by' (by omega)
   ·cases hrec
  ·have hn2:n=1:=by simp [kidN] at hkn; omega
   subst hn2
   obtain ⟨b',o,rfl,hbB,⟨u0,u1,u2,u3,u4,u5,hu,hqx⟩,_⟩:=hk (by decide) (by decide)
   obtain ⟨lx,bx,_⟩:=fx (by decide) hqx.ne
   simp [rec] at hrec
   split at hrec
   ·rename_i hwr
    simp only [wrtB,decide_eq_true_eq] at hwr
    rw [ans_6]
    exact ans6_any c lo hi cv rv v4 b' o cap w B l ts wh hB hp hr hw hbB x u0 u1 u2 u3 u4 u5 hu hqx _ (fun W hW=>ihx (lv + 1) W B cv rv _ _ _ _ _ _ _ (Nat.le_trans hB hW.size) (hp.at hB hW) (hr.at hB hW) (hqx.at hB hW) (gx (by decide))) bx ⟨hwr.1,hwr.2.2⟩
   ·cases hrec
  ·have hn2:n=2:=by simp [kidN] at hkn; omega
   subst hn2
   obtain ⟨b',o,rfl,hbB,⟨u0,u1,u2,u3,u4,u5,hu,hqx⟩,hyy⟩:=hk (by decide) (by decide)
   obtain ⟨z0,z1,z2,z3,z4,z5,hz,hqy⟩:=hyy (by decide)
   obtain ⟨lx,bx,ox⟩:=fx (by decide) hqx.ne
   obtain ⟨ly,by',oy⟩:=fy (by decide) hqy.ne
   have h1:=ox.2.1
   have h2:=oy.2.1
   simp only at h1 h2
   rw [ans_7]
   exact ans7_any c lo hi cv rv v4 b' o cap w B l ts wh hB hp hr hw hbB x u0 u1 u2 u3 u4 u5 hu hqx _ (fun W hW=>ihx (lv + 1) W B cv rv _ _ _ _ _ _ _ (Nat.le_trans hB hW.size) (hp.at hB hW) (hr.at hB hW) (hqx.at hB hW) (gx (by decide))) y z0 z1 z2 z3 z4 z5 hz hqy _ (fun W hW=>ihy (lv + 1) W B cv rv _ _ _ _ _ _ _ (Nat.le_trans hB hW.size) (hp.at hB hW) (hr.at hB hW) (hqy.at hB hW) (gy (by decide))) (by omega)
  ·have hn2:n=1:=by simp [kidN] at hkn; omega
   subst hn2
   obtain ⟨b',o,rfl,hbB,⟨u0,u1,u2,u3,u4,u5,hu,hqx⟩,_⟩:=hk (by decide) (by decide)
   obtain ⟨lx,bx,ox⟩:=fx (by decide) hqx.ne
   have h1:=ox.2.1
   simp only at h1
   rw [ans_8]
   exact ans8_any c lo hi cv rv v4 b' o cap w B l ts wh hB hp hr hw hbB x u0 u1 u2 u3 u4 u5 hu hqx _ (fun W hW=>ihx (lv + 1) W B cv rv _ _ _ _ _ _ _ (Nat.le_trans hB hW.size) (hp.at hB hW) (hr.at hB hW) (hqx.at hB hW) (gx (by decide))) bx (by omega)
  ·have hn2:n=1:=by simp [kidN] at hkn; omega
   subst hn2
   obtain ⟨b',o,rfl,hbB,⟨u0,u1,u2,u3,u4,u5,hu,hqx⟩,_⟩:=hk (by decide) (by decide)
   obtain ⟨lx,bx,_⟩:=fx (by decide) hqx.ne
   simp [rec] at hrec
   split at hrec
   ·rename_i hlo
    obtain ⟨z,hz⟩:=get_lt (l:=ans l (rr ts) x) (i:=lo.toNat) (by omega)
    rw [ans_9,List.getD,hz]
    exact ans9_any c lo hi cv rv v4 b' o cap w B l ts wh hB hp hr hw hbB x u0 u1 u2 u3 u4 u5 hu hqx _ (fun W hW=>ihx (lv + 1) W B cv rv _ _ _ _ _ _ _ (Nat.le_trans hB hW.size) (hp.at hB hW) (hr.at hB hW) (hqx.at hB hW) (gx (by decide))) lo.toNat z (by omega) hz
   ·cases hrec
  ·have hn2:n=1:=by simp [kidN] at hkn; omega
   subst hn2
   obtain ⟨b',o,rfl,hbB,⟨u0,u1,u2,u3,u4,u5,hu,hqx⟩,_⟩:=hk (by decide) (by decide)
   obtain ⟨lx,bx,_⟩:=fx (by decide) hqx.ne
   simp [rec] at hrec
   split at hrec
   ·rename_i hwr
    simp only [wrtB,decide_eq_true_eq] at hwr
    rw [ans_10]
    exact ans10_any c lo hi cv rv v4 b' o cap w B l ts wh hB hp hr hw hbB x u0 u1 u2 u3 u4 u5 hu hqx _ (fun W hW=>ihx (lv + 1) W B cv rv _ _ _ _ _ _ _ (Nat.le_trans hB hW.size) (hp.at hB hW) (hr.at hB hW) (hqx.at hB hW) (gx (by decide))) bx hwr.2.1
   ·cases hrec
theorem rec_ne {l:List Col} {k:Int} {c:ByteArray} {lo hi:Int} {wh:List Tst} {x y:Bnd} {e:Int} (h:rec l k c lo hi wh x y=.error e):e≠0:=by
 unfold rec ifW at h
 repeat' split at h
 all_goals first
  | cases h; done
  | (simp only [Except.error.injEq] at h; omega)
theorem bnd_ne {l:List Col} (q:Qu):∀ (lv:Nat) (e:Int),bnd l lv q=.error e→e≠0:=by
 induction q with
 | none=>intro lv e h; simp only [bnd] at h; cases h
 | node k c lo hi wh n x y ihx ihy =>
  intro lv e h
  simp only [bnd] at h
  split at h
  ·cases h; decide
  ·split at h
   ·cases h; decide
   ·split at h
    ·split at h
     ·rename_i er hbx
      cases h
      unfold ifK at hbx
      split at hbx
      ·exact ihx _ _ hbx
      ·cases hbx
     ·rename_i bx hbx
      split at h
      ·rename_i er hby
       cases h
       unfold ifK at hby
       split at hby
       ·exact ihy _ _ hby
       ·cases hby
      ·rename_i b' hby
       split at h
       ·rename_i er hr
        cases h
        exact rec_ne hr
       ·unfold lim at h
        split at h
        ·cases h
        ·cases h; decide
    ·cases h; decide
end Go.Proofs.YtlndlpjadajelaaGreat.K
