import Derived.Test.YtdceajgpolckiaaGreatDoorQq23
open Go.Proofs.Tryz
set_option linter.unusedSimpArgs false
set_option maxHeartbeats 16000000
set_option maxRecDepth 100000
namespace Go.Proofs.YtdceajgpolckiaaGreatDoor
namespace K
open Go.RowKit K.Ds
theorem ckZ (c:ByteArray)(lo hi:Int)(cv rv wv:Value)(b o cap:Nat)(w:World)(B:Nat)(l:List jQ)(ts:List Rw)(wh:List oX)(hB:B<=w.heap.size)(hp:eQ w B cv l)(hr:iQ w B rv ts)(hw:qZ w B wv wh)(hbB:b<B)(x:Qu)(u0 u1 u2 u3 u4 u5:Value)(hu:xY w b o u0 u1 u2 u3 u4 u5)(hqx:Qm w B x u0 u1 u2 u3 u4 u5)(xs:List Int)(kx:∀ W,Below w.heap.size w W->Calls prog 79 #[.agg #[cv,rv],.agg #[u0,u1,u2,u3,u4,u5]] W (pX W xs))(j:Nat)(z:Int)(hlj:lo=(j:Int))(hj:xs[j]? = some z) :
  Calls prog 79 #[.agg #[cv,rv],.agg #[.int .i64 9,.string c,.int .i64 lo,.int .i64 hi,wv,.slice (some ⟨b,o,none⟩) 1 cap]] w (pX w ([z])):=by
 subst hlj;have ab:=Ab.new w cv rv 9 c (j:Int) hi wv (.slice (some ⟨b,o,none⟩) 1 cap);have hb0:=tF w (.cells #[cv,rv] 25) (.cells #[.int .i64 9,.string c,.int .i64 (j:Int),.int .i64 hi,wv,.slice (some ⟨b,o,none⟩) 1 cap] 36) (.cells #[.func (.func 126) #[] #[.pointer (some ⟨w.heap.size+1,0,none⟩)]] 224);obtain⟨W0,hW0⟩:∃ W0,(((w.alloc (.cells #[cv,rv] 25)).alloc (.cells #[.int .i64 9,.string c,.int .i64 (j:Int),.int .i64 hi,wv,.slice (some ⟨b,o,none⟩) 1 cap] 36)).alloc (.cells #[.func (.func 126) #[] #[.pointer (some ⟨w.heap.size+1,0,none⟩)]] 224))=W0:=⟨_,rfl⟩;rw[hW0] at ab hb0;have HW0:Hid ((((w.alloc (.cells #[cv,rv] 25)).alloc (.cells #[.int .i64 9,.string c,.int .i64 (j:Int),.int .i64 hi,wv,.slice (some ⟨b,o,none⟩) 1 cap] 36)).alloc (.cells #[.func (.func 126) #[] #[.pointer (some ⟨w.heap.size+1,0,none⟩)]] 224))=W0):=hW0;have k1:=sH w.heap.size (w.heap.size+1) cv rv b o 1 cap (by omega) xs W0 ab.t0.c ab.t1.c ab.a5.c B x u0 u1 u2 u3 u4 u5 (hu.keep hb0 (qX hbB hB)) (hqx.at hB hb0) l ts (hp.at hB hb0) (hr.at hB hb0) (kx _ hb0.drew);have HAB:Hid (Ab W0 w.heap.size cv rv 9 c (j:Int) hi wv (.slice (some ⟨b,o,none⟩) 1 cap)):=ab;obtain⟨ca,ccp,rfl,_⟩:=hp.slice;obtain⟨ra,rc,rfl,_⟩:=hr.slice;obtain⟨wa,wc,rfl,_⟩:=hw.slice;have hmf:=hmf;have m0:=HAB.out.a0.c;have k1':=sH w.heap.size (w.heap.size+1) _ _ b o 1 cap (by omega) xs W0.drew HAB.out.t0.c HAB.out.t1.c HAB.out.a5.c B x u0 u1 u2 u3 u4 u5 (hu.keep hb0.drew (qX hbB hB)) (hqx.at hB hb0.drew) l ts (hp.at hB hb0.drew) (hr.at hB hb0.drew) (kx _ hb0.drew.drew);clear hp hr hw hu hqx kx ab k1;go_enter func79,ntmps79;have a2:=HAB.out.a2.c;have l2:=HAB.out.a2.lt;have hjl:j<xs.length:=(lQ.1 hj).1;have hjl1:(0:Int)<=(j:Int):=by omega
 have hjl2:(j:Int)<(xs.length:Int):=by omega
 have k1d:Calls prog 127 #[.int .i64 0,.pointer (some ⟨w.heap.size,0,none⟩),.pointer (some ⟨w.heap.size+1,0,none⟩)] W0.drew (pX W0.drew xs):=k1';go_wp2
 go_region_law (first|(go_simp;go_at_call 127;refine k1d.mono ?_;rintro x3 w1 hA;obtain⟨g1,c1,rfl,hA1,hb1⟩:=hA;have q0:w1.cell? ⟨g1,j,none⟩=some (.int .i64 z):=hA1.cell hj;have q1:w1.cell? ⟨w.heap.size+1,2,none⟩=some (.int .i64 (j:Int)):=(hb1.cell (p:=⟨w.heap.size+1,2,none⟩) l2).trans a2;go_wp2_with fail))
 all_goals
  go_wp2;go_ret;exact⟨w1.heap.size,1,rfl,gQ.lit _ _ _ (uQ hb0.drew.size hb1.size),bt hb0.drew (bal hb1 _)⟩
theorem ckJ (c:ByteArray)(lo hi:Int)(cv rv wv:Value)(b o cap:Nat)(w:World)(B:Nat)(l:List jQ)(ts:List Rw)(wh:List oX)(hB:B<=w.heap.size)(hp:eQ w B cv l)(hr:iQ w B rv ts)(hw:qZ w B wv wh)(hbB:b<B)(x:Qu)(u0 u1 u2 u3 u4 u5:Value)(hu:xY w b o u0 u1 u2 u3 u4 u5)(hqx:Qm w B x u0 u1 u2 u3 u4 u5)(xs:List Int)(kx:∀ W,Below w.heap.size w W->Calls prog 79 #[.agg #[cv,rv],.agg #[u0,u1,u2,u3,u4,u5]] W (pX W xs))(hbx:mX 1099511627776 xs)(hle:lo<=hi) :
  Calls prog 79 #[.agg #[cv,rv],.agg #[.int .i64 10,.string c,.int .i64 lo,.int .i64 hi,wv,.slice (some ⟨b,o,none⟩) 1 cap]] w (pX w (xs.map (kJ lo hi))):=by
 have ab:=Ab.new w cv rv 10 c lo hi wv (.slice (some ⟨b,o,none⟩) 1 cap);have hb0:=tF w (.cells #[cv,rv] 25) (.cells #[.int .i64 10,.string c,.int .i64 lo,.int .i64 hi,wv,.slice (some ⟨b,o,none⟩) 1 cap] 36) (.cells #[.func (.func 126) #[] #[.pointer (some ⟨w.heap.size+1,0,none⟩)]] 224);obtain⟨W0,hW0⟩:∃ W0,(((w.alloc (.cells #[cv,rv] 25)).alloc (.cells #[.int .i64 10,.string c,.int .i64 lo,.int .i64 hi,wv,.slice (some ⟨b,o,none⟩) 1 cap] 36)).alloc (.cells #[.func (.func 126) #[] #[.pointer (some ⟨w.heap.size+1,0,none⟩)]] 224))=W0:=⟨_,rfl⟩;rw[hW0] at ab hb0;have HW0:Hid ((((w.alloc (.cells #[cv,rv] 25)).alloc (.cells #[.int .i64 10,.string c,.int .i64 lo,.int .i64 hi,wv,.slice (some ⟨b,o,none⟩) 1 cap] 36)).alloc (.cells #[.func (.func 126) #[] #[.pointer (some ⟨w.heap.size+1,0,none⟩)]] 224))=W0):=hW0;have k1:=sH w.heap.size (w.heap.size+1) cv rv b o 1 cap (by omega) xs W0 ab.t0.c ab.t1.c ab.a5.c B x u0 u1 u2 u3 u4 u5 (hu.keep hb0 (qX hbB hB)) (hqx.at hB hb0) l ts (hp.at hB hb0) (hr.at hB hb0) (kx _ hb0.drew);have HAB:Hid (Ab W0 w.heap.size cv rv 10 c lo hi wv (.slice (some ⟨b,o,none⟩) 1 cap)):=ab;obtain⟨ca,ccp,rfl,_⟩:=hp.slice;obtain⟨ra,rc,rfl,_⟩:=hr.slice;obtain⟨wa,wc,rfl,_⟩:=hw.slice;have hmf:=hmf;have m0:=HAB.out.a0.c;have k1':=sH w.heap.size (w.heap.size+1) _ _ b o 1 cap (by omega) xs W0.drew HAB.out.t0.c HAB.out.t1.c HAB.out.a5.c B x u0 u1 u2 u3 u4 u5 (hu.keep hb0.drew (qX hbB hB)) (hqx.at hB hb0.drew) l ts (hp.at hB hb0.drew) (hr.at hB hb0.drew) (kx _ hb0.drew.drew);clear hp hr hw hu hqx kx ab k1;go_enter func79,ntmps79;have f0:=HAB.out.f0.c;have lf:=HAB.out.f0.lt;go_wp2
 go_region_law (first|(go_simp;go_at_call 127;refine k1'.mono ?_;rintro x3 w1 hA;obtain⟨g1,c1,rfl,hA1,hb1⟩:=hA;have q0:w1.cell? ⟨w.heap.size+1+1,0,none⟩=some (.func (.func 126) #[] #[.pointer (some ⟨w.heap.size+1,0,none⟩)]):=(hb1.cell (p:=⟨w.heap.size+1+1,0,none⟩) lf).trans f0;go_wp2_with fail)|(go_simp;go_at_call 135;refine(ciX W0.drew.heap.size g1 c1 (w.heap.size+1) xs w1 hA1 lo hi hbx ((HAB.out.at (aQ _ _).drew).at hb1).a2.c ((HAB.out.at (aQ _ _).drew).at hb1).a3.c hle (by have:=HAB.out.a2.lt;have:=hA1.lt.1;intro e;subst e;exact Nat.lt_irrefl _ (qX HAB.out.a2.lt hA1.lt.1))).mono ?_;rintro x4 w2 hE;obtain⟨rfl,hA2,hgr⟩:=hE;go_wp2_with fail))
 all_goals
  go_wp2;go_ret;have hfin:=lP hb0.drew hb1 hA1.lt.1 hgr hA2;rw[nY] at hfin;exact hfin
theorem Qm.ne {w:World}{B:Nat}{q:Qu}{v0 v1 v2 v3 v4 v5:Value}(h:Qm w B q v0 v1 v2 v3 v4 v5):q≠.none:=by rintro rfl;exact h
theorem clQ (a:Nat)(lo hi:Int):stp 1 a lo hi=stp 1 0 0 0:=funext fun r=>by simp[stp]
theorem clX (a:Nat)(lo hi:Int):stp 3 a lo hi=stp 3 a 0 0:=funext fun r=>by simp[stp]
theorem clZ {l:List jQ}(hs:pA l){ts:List Rw}(hlen:ts.length<=4096)(hok:∀ r∈rr ts,dJ l r)(q:Qu):∀ (lv:Nat) (w:World) (B:Nat) (cv rv v0 v1 v2 v3 v4 v5:Value) (b:rX),B<=w.heap.size->eQ w B cv l->iQ w B rv ts->Qm w B q v0 v1 v2 v3 v4 v5->bnd l lv q=.ok b ->
  Calls prog 79 #[.agg #[cv,rv],.agg #[v0,v1,v2,v3,v4,v5]] w (pX w (ans l (rr ts) q)):=by
 have hrl:(rr ts).length<=4096:=by rw[aF];exact hlen
 induction q with
 | none=>intro lv w B cv rv v0 v1 v2 v3 v4 v5 b _ _ _ h;exact h.elim
 | node k c lo hi wh n x y ihx ihy =>
  rintro lv w B cv rv _ _ _ _ v4 _ b hB hp hr ⟨rfl,rfl,rfl,rfl,hc,hw,a,cap,rfl,hn,hm,hk⟩ hb;obtain⟨hkn,⟨x1,x2,x3⟩,⟨y1,y2,y3⟩,hbx,hby,hrec,hlim⟩:=tT hb;have gx:1<=n->bnd l (lv+1) x=.ok (x1,x2,x3):=fun h=>by rwa [nJ,xQ h] at hbx
  have gy:2<=n->bnd l (lv+1) y=.ok (y1,y2,y3):=fun h=>by rwa [nJ,xQ h] at hby
  have fx:1<=n->x≠.none->((ans l (rr ts) x).length:Int)=x1/\mX 1099511627776 (ans l (rr ts) x)/\oZ (x1,x2,x3):=fun h hx=>by
   have h1:=fP hs hrl x _ _ (gx h) hx;have h2:=sL hs x _ _ (gx h);exact⟨h1.1,h1.2.mono h2.2.2.2.2.2,h2⟩
  have fy:2<=n->y≠.none->((ans l (rr ts) y).length:Int)=y1/\mX 1099511627776 (ans l (rr ts) y)/\oZ (y1,y2,y3):=fun h hy=>by
   have h1:=fP hs hrl y _ _ (gy h) hy;have h2:=sL hs y _ _ (gy h);exact⟨h1.1,h1.2.mono h2.2.2.2.2.2,h2⟩
  have hkv:∃ a' n' cc,Value.slice a n cap=.slice a' n' cc:=⟨_,_,_,rfl⟩;have hkc:¬ cX k<0:=by omega
  rcases dP hkc with rfl|rfl|rfl|rfl|rfl|rfl|rfl|rfl|rfl|rfl
  ·simp[rec] at hrec
   obtain⟨hwe,_⟩:=rH hrec;rw[jM _ _ _ _ _ _ _ _ _ (by simp),clQ];exact ciZ c lo hi cv rv v4 _ w B l ts wh hB hp hr hw hlen hok hkv hwe
  ·simp[rec] at hrec
   split at hrec
   ·rename_i hf
    split at hrec
    ·rename_i hwr
     obtain⟨hwe,_⟩:=rH hrec;obtain⟨at',hat⟩:=Option.isSome_iff_exists.1 hf;rw[jM _ _ _ _ _ _ _ _ _ (by simp),hat];exact ciJ c lo hi cv rv v4 _ w B l ts wh hB hp hr hw hlen hok hkv hwe at' hat hwr
    ·cases hrec
   ·cases hrec
  ·simp[rec] at hrec
   split at hrec
   ·rename_i at' hat
    obtain⟨hwe,_⟩:=rH hrec;have hsz:=aP hs hat;rw[jM _ _ _ _ _ _ _ _ _ (by simp),hat,clX];exact cjQ c lo hi cv rv v4 _ w B l ts wh hB hp hr hw hlen hok hkv hwe at' hat (qU l at').toNat (by omega) (by omega)
   ·cases hrec
  ·have hn2:n=2:=by simp[cX] at hkn;omega
   subst hn2;obtain⟨b',o,rfl,hbB,⟨u0,u1,u2,u3,u4,u5,hu,hqx⟩,hyy⟩:=hk (by decide) (by decide);obtain⟨z0,z1,z2,z3,z4,z5,hz,hqy⟩:=hyy (by decide);obtain⟨lx,bx,_⟩:=fx (by decide) hqx.ne;obtain⟨ly,by',_⟩:=fy (by decide) hqy.ne;simp[rec] at hrec;split at hrec
   ·rename_i he
    rw[m9];exact cjX c lo hi cv rv v4 b' o cap w B l ts wh hB hp hr hw hbB x u0 u1 u2 u3 u4 u5 hu hqx _ (fun W hW=>ihx (lv+1) W B cv rv _ _ _ _ _ _ _ (uQ hB hW.size) (hp.at hB hW) (hr.at hB hW) (hqx.at hB hW) (gx (by decide))) y z0 z1 z2 z3 z4 z5 hz hqy _ (fun W hW=>ihy (lv+1) W B cv rv _ _ _ _ _ _ _ (uQ hB hW.size) (hp.at hB hW) (hr.at hB hW) (hqy.at hB hW) (gy (by decide))) bx by' (by omega)
   ·cases hrec
  ·have hn2:n=2:=by simp[cX] at hkn;omega
   subst hn2;obtain⟨b',o,rfl,hbB,⟨u0,u1,u2,u3,u4,u5,hu,hqx⟩,hyy⟩:=hk (by decide) (by decide);obtain⟨z0,z1,z2,z3,z4,z5,hz,hqy⟩:=hyy (by decide);obtain⟨lx,bx,_⟩:=fx (by decide) hqx.ne;obtain⟨ly,by',_⟩:=fy (by decide) hqy.ne;simp[rec] at hrec;split at hrec
   ·rename_i he
    rw[o9];exact cjZ c lo hi cv rv v4 b' o cap w B l ts wh hB hp hr hw hbB x u0 u1 u2 u3 u4 u5 hu hqx _ (fun W hW=>ihx (lv+1) W B cv rv _ _ _ _ _ _ _ (uQ hB hW.size) (hp.at hB hW) (hr.at hB hW) (hqx.at hB hW) (gx (by decide))) y z0 z1 z2 z3 z4 z5 hz hqy _ (fun W hW=>ihy (lv+1) W B cv rv _ _ _ _ _ _ _ (uQ hB hW.size) (hp.at hB hW) (hr.at hB hW) (hqy.at hB hW) (gy (by decide))) bx by' (by omega)
   ·cases hrec
  ·have hn2:n=1:=by simp[cX] at hkn;omega
   subst hn2;obtain⟨b',o,rfl,hbB,⟨u0,u1,u2,u3,u4,u5,hu,hqx⟩,_⟩:=hk (by decide) (by decide);obtain⟨lx,bx,_⟩:=fx (by decide) hqx.ne;simp[rec] at hrec;split at hrec
   ·rename_i hwr
    simp only[yY,oV] at hwr;rw[aaQ];exact cjJ c lo hi cv rv v4 b' o cap w B l ts wh hB hp hr hw hbB x u0 u1 u2 u3 u4 u5 hu hqx _ (fun W hW=>ihx (lv+1) W B cv rv _ _ _ _ _ _ _ (uQ hB hW.size) (hp.at hB hW) (hr.at hB hW) (hqx.at hB hW) (gx (by decide))) bx ⟨hwr.1,hwr.2.2⟩
   ·cases hrec
  ·have hn2:n=2:=by simp[cX] at hkn;omega
   subst hn2;obtain⟨b',o,rfl,hbB,⟨u0,u1,u2,u3,u4,u5,hu,hqx⟩,hyy⟩:=hk (by decide) (by decide);obtain⟨z0,z1,z2,z3,z4,z5,hz,hqy⟩:=hyy (by decide);obtain⟨lx,bx,ox⟩:=fx (by decide) hqx.ne;obtain⟨ly,by',oy⟩:=fy (by decide) hqy.ne;have h1:=ox.2.1;have h2:=oy.2.1;simp only at h1 h2;rw[aaX];exact ckQ c lo hi cv rv v4 b' o cap w B l ts wh hB hp hr hw hbB x u0 u1 u2 u3 u4 u5 hu hqx _ (fun W hW=>ihx (lv+1) W B cv rv _ _ _ _ _ _ _ (uQ hB hW.size) (hp.at hB hW) (hr.at hB hW) (hqx.at hB hW) (gx (by decide))) y z0 z1 z2 z3 z4 z5 hz hqy _ (fun W hW=>ihy (lv+1) W B cv rv _ _ _ _ _ _ _ (uQ hB hW.size) (hp.at hB hW) (hr.at hB hW) (hqy.at hB hW) (gy (by decide))) (by omega)
  ·have hn2:n=1:=by simp[cX] at hkn;omega
   subst hn2;obtain⟨b',o,rfl,hbB,⟨u0,u1,u2,u3,u4,u5,hu,hqx⟩,_⟩:=hk (by decide) (by decide);obtain⟨lx,bx,ox⟩:=fx (by decide) hqx.ne;have h1:=ox.2.1;simp only at h1;rw[aaZ];exact ckX c lo hi cv rv v4 b' o cap w B l ts wh hB hp hr hw hbB x u0 u1 u2 u3 u4 u5 hu hqx _ (fun W hW=>ihx (lv+1) W B cv rv _ _ _ _ _ _ _ (uQ hB hW.size) (hp.at hB hW) (hr.at hB hW) (hqx.at hB hW) (gx (by decide))) bx (by omega)
  ·have hn2:n=1:=by simp[cX] at hkn;omega
   subst hn2;obtain⟨b',o,rfl,hbB,⟨u0,u1,u2,u3,u4,u5,hu,hqx⟩,_⟩:=hk (by decide) (by decide);obtain⟨lx,bx,_⟩:=fx (by decide) hqx.ne;simp[rec] at hrec;split at hrec
   ·rename_i hlo
    obtain⟨z,hz⟩:=wX (l:=ans l (rr ts) x) (i:=lo.toNat) (by omega);rw[aaJ,List.getD,hz];exact ckZ c lo hi cv rv v4 b' o cap w B l ts wh hB hp hr hw hbB x u0 u1 u2 u3 u4 u5 hu hqx _ (fun W hW=>ihx (lv+1) W B cv rv _ _ _ _ _ _ _ (uQ hB hW.size) (hp.at hB hW) (hr.at hB hW) (hqx.at hB hW) (gx (by decide))) lo.toNat z (by omega) hz
   ·cases hrec
  ·have hn2:n=1:=by simp[cX] at hkn;omega
   subst hn2;obtain⟨b',o,rfl,hbB,⟨u0,u1,u2,u3,u4,u5,hu,hqx⟩,_⟩:=hk (by decide) (by decide);obtain⟨lx,bx,_⟩:=fx (by decide) hqx.ne;simp[rec] at hrec;split at hrec
   ·rename_i hwr
    simp only[yY,oV] at hwr;rw[abQ];exact ckJ c lo hi cv rv v4 b' o cap w B l ts wh hB hp hr hw hbB x u0 u1 u2 u3 u4 u5 hu hqx _ (fun W hW=>ihx (lv+1) W B cv rv _ _ _ _ _ _ _ (uQ hB hW.size) (hp.at hB hW) (hr.at hB hW) (hqx.at hB hW) (gx (by decide))) bx hwr.2.1
   ·cases hrec
def iV (l:List jQ) (rs:List (List Int)) (q:Qu):Except Int (List Int) :=
 if fZ l rs=0 then (match bnd l 1 q with | .ok _=>.ok (ans l rs q) | .error e=>.error e) else .error (fZ l rs)
def acZ (w:World):Except Int (List Int)->Ending->World->Prop
 | .ok xs,e,w'=>pX w xs e w'
 | .error c,e,w'=>e=.panicked (chn c)/\Below w.heap.size w w'
theorem clJ (l:List jQ)(ts:List Rw)(q:Qu)(w:World)(B T N:Nat)(cv rv v0 v1 v2 v3 v4 v5:Value)(r:Except Int (List Int))(hB:B<=w.heap.size)(hp:eQ w B cv l)(hrw:iQ w B rv ts)(hq:Qm w B q v0 v1 v2 v3 v4 v5)(hr:iV l (rr ts) q=r)(hT0:Cl w T 0 cv)(hT1:Cl w T 1 rv)(hN:Bx w N v0 v1 v2 v3 v4 v5) :
  Calls prog 76 #[.pointer (some ⟨T,0,none⟩),.pointer (some ⟨N,0,none⟩)] w (acZ w r):=by
 have HP:Hid (eQ w B cv l):=hp;have HRW:Hid (iQ w B rv ts):=hrw;have HQ:Hid (Qm w B q v0 v1 v2 v3 v4 v5):=hq;have HR:Hid (iV l (rr ts) q=r):=hr;obtain⟨la,lc,rfl,_⟩:=hp.slice;obtain⟨ra,rc,rfl,_⟩:=hrw.slice;obtain⟨kk,kc,kl,kh,ka,kn',kd,kb,km,kp,rfl,rfl,rfl,rfl,rfl,rfl⟩:=hq.shape;have HT:Hid (Cl w T 0 (.slice la l.length lc)/\Cl w T 1 (.slice ra ts.length rc)):=⟨hT0,hT1⟩;have HN:Hid (Bx w N (.int .i64 kk) (.string kc) (.int .i64 kl) (.int .i64 kh) (.slice ka kn' kd) (.slice kb km kp)):=hN;obtain⟨ew,hew⟩:∃ ew,fZ l (rr ts)=ew:=⟨_,rfl⟩;have k1:=fI B _ _ l ts w hB hp hrw ew hew;have HEW:Hid (fZ l (rr ts)=ew):=hew;have m0:=hT0.c;have m1:=hT1.c;clear hp hrw hq hr hT0 hT1 hN hew;go_enter func76,ntmps76;go_wp2_with fail;refine k1.mono ?_;rintro e w1 ⟨rfl,hb1⟩;clear k1 m0 m1;have hs1:=hb1.size;by_cases he:ew=0
 ·subst he
  obtain⟨hce,hle,hok⟩:=gN HEW.out;have hsz:pA l:=(iK hce).2.2.1;obtain⟨rb,hrb⟩:∃ rb,bnd l 1 q=rb:=⟨_,rfl⟩;have k2:=abJ l hsz q 1 w1 B (.slice la l.length lc) _ _ _ _ _ _ rb (by decide) (by omega) (HP.out.at hB hb1) (HQ.out.at hB hb1) hrb;have HRB:Hid (bnd l 1 q=rb):=hrb;have HHH:Hid (pA l/\ts.length<=4096/\∀ r∈rr ts,dJ l r):=⟨hsz,by rw[<-aF];exact hle,hok⟩;clear hrb hsz hce hle hok;have hT1:=HT.out.1.at hb1;have hN1:=HN.out.at hb1;have m0:=hN1.a0.c;have m1:=hN1.a1.c;have m2:=hN1.a2.c;have m3:=hN1.a3.c;have m4:=hN1.a4.c;have m5:=hN1.a5.c;have m6:=hT1.c;clear hT1 hN1;go_wp2_with fail;refine(j9 w1).mono ?_;rintro e w2 ⟨rfl,hw2⟩;subst hw2;go_wp2_with fail;refine k2.mono ?_;rintro e w3 ⟨he,hb3⟩;clear k2 m0 m1 m2 m3 m4 m5 m6;have hbw:=bt hb1 hb3;have hs3:=hbw.size;cases rb with
  | error er =>
   obtain rfl:Except.error er=r:=by rw[<-HR.out,iV,xQ HEW.out,HRB.out]
   obtain rfl:e=.panicked (chn er):=he;go_wp2;exact⟨rfl,rfl,hbw⟩
  | ok bb =>
   obtain⟨xs,hxs⟩:∃ xs,ans l (rr ts) q=xs:=⟨_,rfl⟩;obtain rfl:Except.ok xs=r:=by rw[<-HR.out,iV,xQ HEW.out,HRB.out,hxs]
   obtain⟨b1,b2,b3⟩:=bb;obtain rfl:e=.returned (.agg #[.int .i64 b1,.int .i64 b2,.int .i64 b3]):=he;have k3:=clZ HHH.out.1 HHH.out.2.1 HHH.out.2.2 q 1 w3 B _ _ _ _ _ _ _ _ _ (by omega) (HP.out.at hB hbw) (HRW.out.at hB hbw) (HQ.out.at hB hbw) HRB.out;have hT1:=HT.out.1.at hbw;have hT2:=HT.out.2.at hbw;have hN1:=HN.out.at hbw;have m0:=hN1.a0.c;have m1:=hN1.a1.c;have m2:=hN1.a2.c;have m3:=hN1.a3.c;have m4:=hN1.a4.c;have m5:=hN1.a5.c;have m6:=hT1.c;have m7:=hT2.c;clear hT1 hT2 hN1;rw[hxs] at k3;clear hxs HR;go_wp2_with fail;refine k3.mono ?_;rintro e w4 ⟨g,c4,rfl,hA,hb4⟩;clear k3;go_wp2;go_ret;exact pX.up ⟨g,c4,rfl,hA,hb4⟩ hbw
 ·obtain rfl:Except.error ew=r:=by rw[<-HR.out,iV,HEW.out,qQ he]
  go_wp2_with fail;refine(y9 ew he w1).mono ?_;rintro e w2 ⟨rfl,rfl⟩;go_wp2;exact⟨rfl,rfl,hb1⟩
def xU:Except Int (List Int)->List Int × Int
 | .error e=>([],e)
 | .ok xs=>(xs,0)
def acJ (w:World) (xs:List Int) (er:Int) (e:Ending) (w':World):Prop :=
 ∃ a c,e=.returned (.tuple #[.slice a xs.length c,.int .i64 er])/\zQ w' w'.heap.size w'.heap.size (.slice a xs.length c) xs/\Below w.heap.size w w'
theorem cmQ (l:List jQ)(ts:List Rw)(q:Qu)(w:World)(B:Nat)(cv rv v0 v1 v2 v3 v4 v5:Value)(xs:List Int)(er:Int)(hB:B<=w.heap.size)(hp:eQ w B cv l)(hrw:iQ w B rv ts)(hq:Qm w B q v0 v1 v2 v3 v4 v5)(hr:xU (iV l (rr ts) q)=(xs,er)) :
  Calls prog 39 #[.agg #[cv,rv],.agg #[v0,v1,v2,v3,v4,v5]] w (acJ w xs er):=by
 have hb0:Below w.heap.size w ((w.alloc (.cells #[cv,rv] 25)).alloc (.cells #[v0,v1,v2,v3,v4,v5] 36)):=bal (ba _ _) _;have hT0:Cl ((w.alloc (.cells #[cv,rv] 25)).alloc (.cells #[v0,v1,v2,v3,v4,v5] 36)) w.heap.size 0 cv:=(Cl.new _ 25 _ _ rfl rfl).at (ba _ _);have hT1:Cl ((w.alloc (.cells #[cv,rv] 25)).alloc (.cells #[v0,v1,v2,v3,v4,v5] 36)) w.heap.size 1 rv:=(Cl.new _ 25 _ _ rfl rfl).at (ba _ _);have hN:Bx ((w.alloc (.cells #[cv,rv] 25)).alloc (.cells #[v0,v1,v2,v3,v4,v5] 36)) (w.heap.size+1) v0 v1 v2 v3 v4 v5:=Bx.new _ _ (by simp) _ _ _ _ _ _
 have kc:Calls prog 75 #[.func (.func 76) #[] #[.pointer (some ⟨w.heap.size,0,none⟩),.pointer (some ⟨w.heap.size+1,0,none⟩)]] ((w.alloc (.cells #[cv,rv] 25)).alloc (.cells #[v0,v1,v2,v3,v4,v5] 36)) (acJ ((w.alloc (.cells #[cv,rv] 25)).alloc (.cells #[v0,v1,v2,v3,v4,v5] 36)) xs er):=by
  generalize hW:((w.alloc (.cells #[cv,rv] 25)).alloc (.cells #[v0,v1,v2,v3,v4,v5] 36))=W at *
  have inner:∀ r,iV l (rr ts) q=r->∀ W',Below W.heap.size W W'->W.heap.size+1<=W'.heap.size->Calls prog 76 #[.pointer (some ⟨w.heap.size,0,none⟩),.pointer (some ⟨w.heap.size+1,0,none⟩)] W' (acZ W' r):=by
   intro r hr W' hW' hs;have hsz:=hb0.size;exact clJ l ts q W' B _ _ cv rv v0 v1 v2 v3 v4 v5 r (by omega) ((hp.at hB hb0).at (by omega) hW') ((hrw.at hB hb0).at (by omega) hW') ((hq.at hB hb0).at (by omega) hW') hr (hT0.at hW') (hT1.at hW') (hN.at hW')
  cases ht:iV l (rr ts) q with
  | error e1 =>
   rw[ht] at hr;simp only[xU,cQ] at hr;obtain⟨rfl,rfl⟩:=hr;refine(b6J _ e1 W (inner _ ht)).mono ?_;rintro e w' ⟨rfl,hb⟩;exact⟨none,0,rfl,⟨none,0,rfl,vQ _,by simp,fun h=>absurd rfl h⟩,hb⟩
  | ok ys =>
   rw[ht] at hr;simp only[xU,cQ] at hr;obtain⟨rfl,rfl⟩:=hr;refine(b6Z _ (fun V w'=>∃ g c,V=.slice (some ⟨g,0,none⟩) ys.length c/\gQ w' (W.heap.size+1) g c ys) W fun W' h1 h2=>(inner _ ht W' h1 h2).mono fun e w' h=>?_).mono ?_
   ·obtain⟨g,c,rfl,hA,hb⟩:=h
    exact⟨_,rfl,⟨g,c,rfl,hA.mono h2⟩,hb⟩
   ·rintro e w' ⟨V,w1,rfl,⟨g,c,rfl,hA⟩,hb,rfl⟩
    have hg:=hA.lt;have hA2:=hA.oth (b:=W.heap.size) (k:=0) (by omega) (.int .i64 0);refine⟨some ⟨g,0,none⟩,c,rfl,hA2.ints _ (Nat.ne_of_lt hA2.lt.2),bs hb (vQ _) _⟩
 obtain⟨la,lc,rfl,_⟩:=hp.slice;obtain⟨ra,rc,rfl,_⟩:=hrw.slice;obtain⟨kk,kc',kl,kh,ka,kn',kd,kb,km,kp,rfl,rfl,rfl,rfl,rfl,rfl⟩:=hq.shape;have hmf:=hmf;clear hp hq hrw hr hT0 hT1 hN;go_enter func39,ntmps39;go_wp2_with fail;refine kc.mono ?_;rintro e w1 ⟨a,c,rfl,hI,hb1⟩;clear kc;have hbw:Below w.heap.size w w1:=bt hb0 hb1;go_wp2;exact yQ (v:=.tuple #[.slice a xs.length c,.int .i64 er]) (by simp[results,results39,go_sem]) rfl ⟨a,c,rfl,hI,hbw⟩
def uC (P:Nat->Prop) (v:Value):Prop:=∀ b o n c,v=.slice (some ⟨b,o,none⟩) n c->P b
def djQ (P:Nat->Prop) (v:Value) (ts:List Rw):Prop:=uC P v/\∀ t∈ts,uC P t.1
theorem dpZ (p:Nat)(x:Value)(e:Int)(w:World)(hc:Cl w p 0 x) :
  CallsD prog 101 #[.pointer (some ⟨p,0,none⟩)] (.panicking (chn e)) w fun r u' w' =>
   r=.returned (.tuple #[])/\u' = .panicking [{ v:=.iface 201 (.agg #[.int .i64 e]),recovered:=true }]/\w' = (w.alloc (.cells #[.int .i64 e] 201)).setCell ⟨p,0,none⟩ (.int .i64 e):=by
 refine mO func101 rfl fun c₀ cs hu=>?_;apply wpS_seq;apply wpS_region;simp[wpOpsS,go_sem,recoverD,hu,chn,ntmps101,Exit.thenS];refine wpS_of_wp ?_;change Code.wp prog _ _ { tmps:=#[.pointer (some ⟨p,0,none⟩),undef,undef,undef,.iface 201 (.agg #[.int .i64 e]),undef,undef,undef,undef,undef,undef,undef],defers:=[] } w;have ha:=nT;have hq:=oT;have hz2:=(hc.at (ba w (.cells #[.int .i64 e] 201))).f;have hz3:=(hc.at (ba w (.cells #[.int .i64 e] 201))).c;go_wp2;exact⟨rfl,_,rfl,_,eL rfl _ _ _,rfl,rfl,rfl⟩
theorem dpJ (p:Addr)(w:World) :
  CallsD prog 101 #[.pointer (some p)] .returning w fun r u' w'=>r=.returned (.tuple #[])/\u' = .returning/\w' = w:=by
 refine mO func101 rfl fun c₀ cs hu=>?_;apply wpS_seq;apply wpS_region;simp[wpOpsS,go_sem,recoverD,hu,ntmps101,Exit.thenS];refine wpS_of_wp ?_;change Code.wp prog _ _ { tmps:=#[.pointer (some p),undef,undef,undef,.nilIface,undef,undef,undef,undef,undef,undef,undef],defers:=[] } w;go_wp2;exact⟨rfl,.returning,by rw[<-hu],_,eL rfl _ _ _,rfl,rfl,rfl⟩
theorem dqQ (caps:Array Value)(Q:Value->World->Prop)(w:World)(kc:∀ W,Below w.heap.size w W->w.heap.size+1<=W.heap.size->Calls prog 54 caps W fun x w'=>∃ V,x=.returned V/\Q V w'/\Below W.heap.size W w') :
  Calls prog 53 #[.func (.func 54) #[] caps] w fun e w'=>∃ V w1,e=.returned (.tuple #[V,.int .i64 0])/\Q V w1/\Below w.heap.size w w1/\w' = w1.setCell ⟨w.heap.size,0,none⟩ (.int .i64 0):=by
 have hmf:=hmf;go_enter_defers func53,ntmps53;have k1:=kc (w.alloc (.cells #[.int .i64 0] 28)) (ba _ _) (by simp);go_wp2_with fail;refine k1.mono ?_;rintro e w1 ⟨V,rfl,hQ,hb1⟩;have a0:=(Cl.new (w:=w) #[.int .i64 0] 28 0 _ rfl rfl).at hb1;have hbw:Below w.heap.size w w1:=bt (ba _ _) hb1;have t0:=a0.c;have s0:=a0.f;clear hb1 k1 kc;go_wp2;refine nO (f:=101) (args:=#[.pointer (some ⟨w.heap.size,0,none⟩)]) (by simp) (by simp[go_sem]) ?_;refine(dpJ _ _).mono ?_;rintro e u' w'' ⟨rfl,rfl,rfl⟩;simp[Leaves,settle,results,results53,go_sem,t0];exact⟨_,hQ,hbw,rfl⟩
theorem dqX (caps:Array Value)(er:Int)(w:World)(kc:∀ W,Below w.heap.size w W->w.heap.size+1<=W.heap.size->Calls prog 54 caps W fun x w'=>x=.panicked (chn er)/\Below W.heap.size W w') :
  Calls prog 53 #[.func (.func 54) #[] caps] w fun e w'=>e=.returned (.tuple #[.int .i64 0,.int .i64 er])/\Below w.heap.size w w':=by
 have hmf:=hmf;go_enter_defers func53,ntmps53;have k1:=kc (w.alloc (.cells #[.int .i64 0] 28)) (ba _ _) (by simp);go_wp2_with fail;refine k1.mono ?_;rintro e w1 ⟨rfl,hb1⟩;have a0:=(Cl.new (w:=w) #[.int .i64 0] 28 0 _ rfl rfl).at hb1;have hbw:Below w.heap.size w w1:=bt (ba _ _) hb1;have t0:=a0.c;have s0:=a0.f;clear hb1 k1 kc;go_wp2;refine nO (f:=101) (args:=#[.pointer (some ⟨w.heap.size,0,none⟩)]) (by simp) (by simp[go_sem]) ?_;refine(dpZ _ _ _ _ a0).mono ?_;rintro e u' w'' ⟨rfl,rfl,rfl⟩;have hbz:Below w.heap.size w ((w1.alloc (.cells #[.int .i64 er] 201)).setCell ⟨w.heap.size,0,none⟩ (.int .i64 er)):=bs (bal hbw _) (vQ _) _;have r0:=(a0.at (ba _ (.cells #[.int .i64 er] 201))).c;simp[Leaves,settle,results,results53,go_sem,r0];exact hbz
end K
namespace K.Ds
def fst:List oX->ByteArray->Option Int
 | [],_=>none
 | t::r,s=>if t.1=s/\t.2.1=1 then some t.2.2 else fst r s
theorem dqZ {wh:List oX}{i:Nat}{t:oX}{s:ByteArray}(h:wh[i]? = some t):fst (wh.drop i) s=if t.1=s/\t.2.1=1 then some t.2.2 else fst (wh.drop (i+1)) s:=by
 rw[zU (lQ.1 h).1,(lQ.1 h).2];rfl
def onl (s:ByteArray):Qu->Option Int
 | .none=>none
 | .node _ _ _ _ wh n x y=>if n=0 then fst wh s else match onl s x with
  | none=>none
  | some v=>if n=2 then (match onl s y with | none=>none | some u=>if u=v then some v else none) else some v
def Wq:Qu->Prop
 | .none=>True
 | .node k _ _ _ _ n x y=>(n:Int)=cX k/\n<=2/\(1<=n->Wq x)/\(2<=n->Wq y)
theorem dqJ {l:List jQ}(q:Qu):∀ (lv:Nat) (b:rX),bnd l lv q=.ok b->Wq q:=by
 induction q with
 | none=>intro lv b h;trivial
 | node k c lo hi wh n x y ihx ihy =>
  intro lv b h;simp only[bnd] at h;split at h
  ·cases h
  ·split at h
   ·cases h
   ·split at h
    ·rename_i hk
     have hn2:n<=2:=by have:=hk;unfold cX at this;repeat' split at this;all_goals omega
     split at h
     ·cases h
     ·rename_i bx hbx
      split at h
      ·cases h
      ·rename_i b' hby
       refine⟨hk,hn2,fun g=>?_,fun g=>?_⟩
       ·rw[nJ,xQ g] at hbx;exact ihx _ _ hbx
       ·rw[nJ,xQ g] at hby;exact ihy _ _ hby
    ·cases h
end K.Ds
namespace K
open Go.RowKit K.Ds
def avQ:Option Int->Ending
 | some v=>.returned (.int .i64 v)
 | none=>.panicked (chn 6)
theorem drQ (B:Nat)(v:Value)(wh:List oX)(s:ByteArray)(w:World)(hB:B<=w.heap.size)(hq:qZ w B v wh)(r:Option Int)(hr:fst wh s=r) :
  Calls prog 104 #[v,.string s] w fun e w'=>e=avQ r/\Below w.heap.size w w':=by
 have HQ:Hid (qZ w B v wh):=hq;have HR:Hid (fst wh s=r):=hr;obtain⟨a,c,rfl,hc,hl⟩:=hq.slice;clear hr;go_enter func104,ntmps104;go_wp2
 go_loopw [9] (fun s' wr=>∃ (i:Nat),s' = .int .i64 (i:Int)/\i<=wh.length/\Hid (fst (wh.drop i) s=r)/\Below w.heap.size w wr) (fun s' _=>wh.length - (intOf s').toNat)
 case atStart=>exact⟨0,rfl,nQ _,by simpa [Hid] using HR.out,aQ _ _⟩
 case round =>
  obtain⟨i,rfl,hi,HI,hbl⟩:=hrel;by_cases h1:i<wh.length
  ·obtain⟨b,o,nm,d,z,rfl,hb,hgt,c1,c2,c3,hn⟩:=HQ.out.get hB hbl h1
   have HST:Hid (fst (wh.drop i) s=if nm=s/\d=1 then some z else fst (wh.drop (i+1)) s):=dqZ hgt;clear hgt;have hq:=pL nm s;by_cases g1:nm=s
   ·have g1':(nm.toList == s.toList)=true:=by rw[hq];simp[g1]
    by_cases g2:d=1
    ·obtain rfl:some z=r:=by rw[<-HI.out,HST.out,xQ ⟨g1,g2⟩]
     subst g2;clear hq g1;go_wp2;go_ret;exact⟨rfl,bal hbl _⟩
    ·have g2':(d == 1)=false:=by simpa using g2
     have HI2:Hid (fst (wh.drop (i+1)) s=r):=by have:=HI.out;rwa [HST.out,qQ (fun h=>g2 h.2)] at this
     clear hq g1;go_wp2
     go_roundw
     case rel=>exact⟨i+1,by go_num,h1,HI2,bal hbl _⟩
     case measure=>simp[intOf];omega
   ·have g1':(nm.toList == s.toList)=false:=by rw[hq];simp[g1]
    have HI2:Hid (fst (wh.drop (i+1)) s=r):=by have:=HI.out;rwa [HST.out,qQ (fun h=>g1 h.1)] at this
    clear hq g1;go_wp2
    go_roundw
    case rel=>exact⟨i+1,by go_num,h1,HI2,bal hbl _⟩
    case measure=>simp[intOf];omega
  ·obtain rfl:none=r:=by have:=HI.out;rw[bH (by omega)] at this;exact this
   go_wp2;exact⟨rfl,rfl,hbl⟩
theorem drX (s:ByteArray)(q:Qu):∀ (w:World) (B:Nat) (v0 v1 v2 v3 v4 v5:Value) (r:Option Int),B<=w.heap.size->Qm w B q v0 v1 v2 v3 v4 v5->Wq q->onl s q=r ->
  Calls prog 57 #[.agg #[v0,v1,v2,v3,v4,v5],.string s] w fun e w'=>e=avQ r/\Below w.heap.size w w':=by
 induction q with
 | none=>intro w B v0 v1 v2 v3 v4 v5 r _ h;exact h.elim
 | node k c lo hi wh n x y ihx ihy =>
  rintro w B _ _ _ _ v4 _ r hB ⟨rfl,rfl,rfl,rfl,hc,hw,a,cap,rfl,hn,hm,hk⟩ ⟨hkn,hn2,wx,wy⟩ hr;have HW:Hid (qZ w B v4 wh):=hw;have HR:Hid (onl s (.node k c lo hi wh n x y)=r):=hr
  have HK:Hid (1<=n->n<=2->∃ b o,a=some ⟨b,o,none⟩/\b<B/\(∃ u0 u1 u2 u3 u4 u5,xY w b o u0 u1 u2 u3 u4 u5/\Qm w B x u0 u1 u2 u3 u4 u5) /\
    (2<=n->∃ u0 u1 u2 u3 u4 u5,xY w b (o+6) u0 u1 u2 u3 u4 u5/\Qm w B y u0 u1 u2 u3 u4 u5)):=hk
  have HWX:Hid (1<=n->Wq x):=wx;have HWY:Hid (2<=n->Wq y):=wy;obtain⟨wa,wc,rfl,_⟩:=hw.slice;clear hk hr hw wx wy hkn;have hb0:=ba w (.cells #[.int .i64 k,.string c,.int .i64 lo,.int .i64 hi,.slice wa wh.length wc,.slice a n cap] 36);go_enter func57,ntmps57;by_cases h0:n=0
  ·subst h0
   have k1:=drQ B (.slice wa wh.length wc) wh s _ (uQ hB hb0.size) (HW.out.at hB hb0) r (by have:=HR.out;rwa [onl,xQ rfl] at this);go_wp2_with fail;refine k1.mono ?_;rintro e w1 ⟨he,hb1⟩;clear k1;have hbw:Below w.heap.size w w1:=bt hb0 hb1;cases r with
   | none =>
    obtain rfl:e=.panicked (chn 6):=he;go_wp2;exact⟨rfl,rfl,hbw⟩
   | some v =>
    obtain rfl:e=.returned (.int .i64 v):=he;go_wp2;go_ret;exact⟨rfl,hbw⟩
  have hq0:((n:Int) == 0)=false:=by rw[qA];omega
  obtain⟨b,o,rfl,hbB,⟨u0,u1,u2,u3,u4,u5,hu,hqm⟩,hk2⟩:=HK.out (by omega) hn2;have HK2:Hid (2<=n->∃ u0 u1 u2 u3 u4 u5,xY w b (o+6) u0 u1 u2 u3 u4 u5/\Qm w B y u0 u1 u2 u3 u4 u5):=hk2;obtain⟨kk,kc,kl,kh,ka,kn',kd,kb,km,kp,rfl,rfl,rfl,rfl,rfl,rfl⟩:=hqm.shape;obtain⟨c0,c1,c2,c3,c4,c5⟩:=hu.keep hb0 (qX hbB hB);obtain⟨r1,hr1⟩:∃ r1,onl s x=r1:=⟨_,rfl⟩;have k2:=ihx _ B _ _ _ _ _ _ r1 (uQ hB hb0.size) (hqm.at hB hb0) (HWX.out (by omega)) hr1;have HR1:Hid (onl s x=r1):=hr1;clear hr1 hqm hu hk2 HK;have hb1c:b<w.heap.size:=qX hbB hB;go_wp2_with fail;refine k2.mono ?_;rintro e w1 ⟨he,hb1⟩;clear k2 c0 c1 c2 c3 c4 c5;have hbw:Below w.heap.size w w1:=bt hb0 hb1;have bx:=(Bx.new w w.heap.size rfl (.int .i64 k) (.string c) (.int .i64 lo) (.int .i64 hi) (.slice wa wh.length wc) (.slice (some ⟨b,o,none⟩) n cap)).at hb1;have t5:=bx.a5.c;clear bx hb0 hb1;cases r1 with
  | none =>
   obtain rfl:none=r:=by rw[<-HR.out,onl,qQ h0,HR1.out]
   obtain rfl:e=.panicked (chn 6):=he;go_wp2;exact⟨rfl,rfl,hbw⟩
  | some v =>
   obtain rfl:e=.returned (.int .i64 v):=he;have HR2:Hid ((if n=2 then (match onl s y with|none=>none|some u=>if u=v then some v else none) else some v)=r):=by have:=HR.out;rw[onl,qQ h0,HR1.out] at this;exact this
   clear HR HR1;rcases (show n=1\/n=2 by omega) with rfl|rfl
   ·obtain rfl:some v=r:=HR2.out
    by_cases hcap:cap=1
    ·subst hcap
     go_wp2
     go_loopw [26] (fun s' wr=>s' = .int .i64 0/\wr=w1) (fun _ _=>0)
     case atStart=>exact⟨rfl,rfl⟩
     case round =>
      obtain⟨rfl,rfl⟩:=hrel;go_wp2;go_ret;exact⟨rfl,hbw⟩
    ·
     go_wp2
     go_loopw [26] (fun s' wr=>s' = .int .i64 0/\wr=w1) (fun _ _=>0)
     case atStart=>exact⟨rfl,rfl⟩
     case round =>
      obtain⟨rfl,rfl⟩:=hrel;go_wp2;go_ret;exact⟨rfl,hbw⟩
   ·obtain⟨u0,u1,u2,u3,u4,u5,hu,hqm⟩:=HK2.out (by omega)
    obtain⟨jk,jc,jl,jh,ja,jn',jd,jb,jm,jp,rfl,rfl,rfl,rfl,rfl,rfl⟩:=hqm.shape;have HU:Hid (xY w b (o+6) (.int .i64 jk) (.string jc) (.int .i64 jl) (.int .i64 jh) (.slice ja jn' jd) (.slice jb jm jp)):=hu;have HQM:Hid (Qm w B y (.int .i64 jk) (.string jc) (.int .i64 jl) (.int .i64 jh) (.slice ja jn' jd) (.slice jb jm jp)):=hqm;clear hu hqm HK2;have hcap:¬ cap=1:=by omega
    have hcap2:1<=cap:=by omega
    have HR3:Hid ((match onl s y with|none=>none|some u=>if u=v then some v else none)=r):=HR2.out;clear HR2;go_wp2
    go_loopw [26] (fun s' wr=>∃ i:Nat,s' = .int .i64 (i:Int)/\i<=1/\Hid (i=1->r=some v)/\Below w.heap.size w wr) (fun s' _=>1 - (intOf s').toNat)
    case atStart=>exact⟨0,rfl,by decide,fun h=>absurd h (by decide),hbw⟩
    case round =>
     obtain⟨i,rfl,hi1,HI,hbr⟩:=hrel;rcases (show i=0\/i=1 by omega) with rfl|rfl
     ·obtain⟨c0,c1,c2,c3,c4,c5⟩:=HU.out.keep hbr (qX hbB hB)
      obtain⟨r1,hr1⟩:∃ r1,onl s y=r1:=⟨_,rfl⟩;have hszr:=hbr.size;have k2:=ihy (wr.alloc (.cells #[.int .i64 jk,.string jc,.int .i64 jl,.int .i64 jh,.slice ja jn' jd,.slice jb jm jp] 36)) B _ _ _ _ _ _ r1 (by simp;omega) ((HQM.out.at hB hbr).at (by omega) (ba _ _)) (HWY.out (by decide)) hr1;have HR1:Hid (onl s y=r1):=hr1;clear hr1 t5;go_wp2_with fail;refine k2.mono ?_;rintro e w2 ⟨he,hb2⟩;clear k2 c0 c1 c2 c3 c4 c5;have hbw2:Below w.heap.size w w2:=bt (bal hbr _) hb2;cases r1 with
      | none =>
       obtain rfl:none=r:=by rw[<-HR3.out,HR1.out]
       obtain rfl:e=.panicked (chn 6):=he;go_wp2;exact⟨rfl,rfl,hbw2⟩
      | some u =>
       obtain rfl:e=.returned (.int .i64 u):=he;by_cases huv:u=v
       ·have HI2:Hid (r=some v):=by show _=_;rw[<-HR3.out,HR1.out];simp[huv]
        subst huv;go_wp2_with fail;refine(pD 6 _).mono ?_;rintro e w3 ⟨rfl,rfl⟩;go_wp2
        go_roundw
        case rel=>exact⟨1,rfl,by decide,fun _=>HI2.out,hbw2⟩
        case measure=>simp[intOf]
       ·obtain rfl:none=r:=by rw[<-HR3.out,HR1.out];simp[huv]
        have hq':(u == v)=false:=by simpa using huv
        go_wp2_with fail;refine(uY 6 _).mono ?_;rintro e w3 ⟨rfl,rfl⟩;go_wp2;exact⟨rfl,rfl,hbw2⟩
     ·obtain rfl:r=some v:=HI.out rfl
      go_wp2;go_ret;exact⟨rfl,hbr⟩
end K
namespace K
open Go.RowKit K.Ds
def prt (l:List jQ) (q:Qu) (s:ByteArray):Except Int Int :=
 match typ l q with
 | .error e=>.error e
 | .ok _=>match fnd l s with
  | none=>.error 7
  | some i=>match onl s q with
   | none=>.error 6
   | some v=>if 0<=v/\v<qU l i then .ok v else .error 6
theorem avX {l:List jQ}{q:Qu}{b:rX}(h:typ l q=.ok b):yV l=0/\bnd l 1 q=.ok b:=by
 unfold typ at h;split at h
 ·exact⟨by assumption,h⟩
 ·cases h
def avZ:Except Int Int->Ending
 | .error e=>.panicked (chn e)
 | .ok v=>.returned (.int .i64 v)
theorem drZ (l:List jQ)(q:Qu)(s:ByteArray)(w:World)(B L N S:Nat)(lv v0 v1 v2 v3 v4 v5:Value)(r:Except Int Int)(hB:B<=w.heap.size)(hp:eQ w B lv l)(hq:Qm w B q v0 v1 v2 v3 v4 v5)(hr:prt l q s=r)(hL:Cl w L 0 lv)(hN:Bx w N v0 v1 v2 v3 v4 v5)(hS:Cl w S 0 (.string s)) :
  Calls prog 54 #[.pointer (some ⟨L,0,none⟩),.pointer (some ⟨N,0,none⟩),.pointer (some ⟨S,0,none⟩)] w fun e w'=>e=avZ r/\Below w.heap.size w w':=by
 have HP:Hid (eQ w B lv l):=hp;have HQ:Hid (Qm w B q v0 v1 v2 v3 v4 v5):=hq;have HR:Hid (prt l q s=r):=hr;obtain⟨la,lc,rfl,hlc,hll⟩:=hp.slice;obtain⟨kk,kc,kl,kh,ka,kn',kd,kb,km,kp,rfl,rfl,rfl,rfl,rfl,rfl⟩:=hq.shape;have HL:Hid (Cl w L 0 (.slice la l.length lc)):=hL;have HN:Hid (Bx w N (.int .i64 kk) (.string kc) (.int .i64 kl) (.int .i64 kh) (.slice ka kn' kd) (.slice kb km kp)):=hN;have HS:Hid (Cl w S 0 (.string s)):=hS;obtain⟨r1,hr1⟩:∃ r1,typ l q=r1:=⟨_,rfl⟩;have k1:=acQ l q w B _ _ _ _ _ _ _ r1 hB hp hq hr1;have HT:Hid (typ l q=r1):=hr1;have m0:=hN.a0.c;have m1:=hN.a1.c;have m2:=hN.a2.c;have m3:=hN.a3.c;have m4:=hN.a4.c;have m5:=hN.a5.c;have m6:=hL.c;have m7:=hS.c;clear hp hq hr hL hN hS hr1;go_enter func54,ntmps54;go_wp2_with fail;refine k1.mono ?_;rintro e w1 ⟨he,hb1⟩;clear k1 m0 m1 m2 m3 m4 m5 m6 m7;cases r1 with
 | error er =>
  obtain rfl:Except.error er=r:=by rw[<-HR.out,prt,HT.out]
  obtain rfl:e=.panicked (chn er):=he;go_wp2;exact⟨rfl,rfl,hb1⟩
 | ok bb =>
  obtain⟨b1,b2,b3⟩:=bb;obtain rfl:e=.returned (.agg #[.int .i64 b1,.int .i64 b2,.int .i64 b3]):=he;obtain⟨hce,hbd⟩:=avX HT.out;have HWQ:Hid (Wq q):=dqJ q _ _ hbd;clear hce hbd;have hs1:=hb1.size
  have HR1:Hid ((match fnd l s with
   | none=>.error 7
   | some i=>match onl s q with
    | none=>.error 6
    | some v=>if 0<=v/\v<qU l i then .ok v else .error 6)=r):=by have:=HR.out;rw[prt,HT.out] at this;exact this
  clear HR HT;have m6:=(HL.out.at hb1).c;have m7:=(HS.out.at hb1).c;cases hf:fnd l s with
  | none =>
   have k2:=bP B _ l s w1 (by omega) (HP.out.at hB hb1) hf;rw[hf] at HR1;obtain rfl:Except.error 7=r:=HR1.out;clear hf;go_wp2_with fail;refine k2.mono ?_;rintro e w2 ⟨rfl,hb2⟩;have hbw:=bt hb1 hb2;go_wp2;exact⟨rfl,rfl,hbw⟩
  | some i =>
   have k2:=tL B _ l s w1 (by omega) (HP.out.at hB hb1) i hf;rw[hf] at HR1;have hil:=mI hf;clear hf;go_wp2_with fail;refine k2.mono ?_;rintro e w2 ⟨rfl,hb2⟩;clear k2 m6 m7;have hbw:=bt hb1 hb2;have hs2:=hbw.size;obtain⟨ro,hro⟩:∃ ro,onl s q=ro:=⟨_,rfl⟩;have k3:=drX s q w2 B _ _ _ _ _ _ ro (by omega) (HQ.out.at hB hbw) HWQ.out hro
   have HR2:Hid ((match onl s q with
    | none=>.error 6
    | some v=>if 0<=v/\v<qU l i then .ok v else .error 6)=r):=HR1.out
   rw[hro] at HR2;clear HR1 hro;have hN2:=HN.out.at hbw;have m0:=hN2.a0.c;have m1:=hN2.a1.c;have m2:=hN2.a2.c;have m3:=hN2.a3.c;have m4:=hN2.a4.c;have m5:=hN2.a5.c;have m7:=(HS.out.at hbw).c;clear hN2;go_wp2_with fail;refine k3.mono ?_;rintro e w3 ⟨he,hb3⟩;clear k3 m0 m1 m2 m3 m4 m5 m7;have hbw3:=bt hbw hb3;cases ro with
   | none =>
    obtain rfl:Except.error 6=r:=HR2.out;obtain rfl:e=.panicked (chn 6):=he;go_wp2;exact⟨rfl,rfl,hbw3⟩
   | some v =>
    obtain rfl:e=.returned (.int .i64 v):=he;have HR3:Hid ((if 0<=v/\v<qU l i then (.ok v:Except Int Int) else .error 6)=r):=HR2.out;clear HR2;have m6:=(HL.out.at hbw3).c;obtain⟨b,o,nm,sz,rfl,hb,hgt,c1,c2,hn⟩:=HP.out.get hB hbw3 hil;have hsz:qU l i=sz:=by simp[qU,hgt]
    rw[hsz] at HR3;clear hgt hsz;by_cases h1:0<=v
    ·by_cases h2:v<sz
     ·obtain rfl:Except.ok v=r:=by rw[<-HR3.out,xQ ⟨h1,h2⟩]
      go_wp2_with fail;refine(pD 6 _).mono ?_;rintro e w4 ⟨rfl,rfl⟩;go_wp2;go_ret;exact⟨rfl,hbw3⟩
     ·obtain rfl:Except.error 6=r:=by rw[<-HR3.out,qQ (fun h=>h2 h.2)]
      have h3:decide (v<sz)=false:=nV h2;go_wp2_with fail;refine(uY 6 _).mono ?_;rintro e w4 ⟨rfl,rfl⟩;go_wp2;exact⟨rfl,rfl,hbw3⟩
    ·obtain rfl:Except.error 6=r:=by rw[<-HR3.out,qQ (fun h=>h1 h.1)]
     go_wp2_with fail;refine(uY 6 _).mono ?_;rintro e w4 ⟨rfl,rfl⟩;go_wp2;exact⟨rfl,rfl,hbw3⟩
def cA:Except Int Int->Int × Int
 | .error e=>(0,e)
 | .ok v=>(v,0)
theorem avJ (l:List jQ)(q:Qu)(s:ByteArray)(w:World)(B:Nat)(lv v0 v1 v2 v3 v4 v5:Value)(z er:Int)(hB:B<=w.heap.size)(hp:eQ w B lv l)(hq:Qm w B q v0 v1 v2 v3 v4 v5)(hr:cA (prt l q s)=(z,er)) :
  Calls prog 29 #[lv,.agg #[v0,v1,v2,v3,v4,v5],.string s] w fun e w'=>e=.returned (.tuple #[.int .i64 z,.int .i64 er])/\Below w.heap.size w w':=by
 have hb0:Below w.heap.size w (((w.alloc (.cells #[lv] 22)).alloc (.cells #[v0,v1,v2,v3,v4,v5] 36)).alloc (.cells #[.string s] 9)):=bal (bal (ba _ _) _) _;have hL:Cl (((w.alloc (.cells #[lv] 22)).alloc (.cells #[v0,v1,v2,v3,v4,v5] 36)).alloc (.cells #[.string s] 9)) w.heap.size 0 lv:=((Cl.new _ 22 _ _ rfl rfl).at (ba _ _)).at (ba _ _);have hN:Bx (((w.alloc (.cells #[lv] 22)).alloc (.cells #[v0,v1,v2,v3,v4,v5] 36)).alloc (.cells #[.string s] 9)) (w.heap.size+1) v0 v1 v2 v3 v4 v5:=(Bx.new _ _ (by simp) _ _ _ _ _ _).at (ba _ _);have hS:Cl (((w.alloc (.cells #[lv] 22)).alloc (.cells #[v0,v1,v2,v3,v4,v5] 36)).alloc (.cells #[.string s] 9)) (w.heap.size+1+1) 0 (.string s):=Cl.new _ 9 _ _ (by simp) rfl
 have kc:Calls prog 53 #[.func (.func 54) #[] #[.pointer (some ⟨w.heap.size,0,none⟩),.pointer (some ⟨w.heap.size+1,0,none⟩),.pointer (some ⟨w.heap.size+1+1,0,none⟩)]] (((w.alloc (.cells #[lv] 22)).alloc (.cells #[v0,v1,v2,v3,v4,v5] 36)).alloc (.cells #[.string s] 9)) fun e w'=>e=.returned (.tuple #[.int .i64 z,.int .i64 er])/\Below (((w.alloc (.cells #[lv] 22)).alloc (.cells #[v0,v1,v2,v3,v4,v5] 36)).alloc (.cells #[.string s] 9)).heap.size (((w.alloc (.cells #[lv] 22)).alloc (.cells #[v0,v1,v2,v3,v4,v5] 36)).alloc (.cells #[.string s] 9)) w':=by
  generalize hW:(((w.alloc (.cells #[lv] 22)).alloc (.cells #[v0,v1,v2,v3,v4,v5] 36)).alloc (.cells #[.string s] 9))=W at *
  have inner:∀ r,prt l q s=r->∀ W',Below W.heap.size W W'->W.heap.size+1<=W'.heap.size->Calls prog 54 #[.pointer (some ⟨w.heap.size,0,none⟩),.pointer (some ⟨w.heap.size+1,0,none⟩),.pointer (some ⟨w.heap.size+1+1,0,none⟩)] W' fun e w'=>e=avZ r/\Below W'.heap.size W' w':=by
   intro r hr W' hW' hs;have hsz:=hb0.size;exact drZ l q s W' B _ _ _ lv v0 v1 v2 v3 v4 v5 r (by omega) ((hp.at hB hb0).at (by omega) hW') ((hq.at hB hb0).at (by omega) hW') hr (hL.at hW') (hN.at hW') (hS.at hW')
  cases ht:prt l q s with
  | error e1 =>
   rw[ht] at hr;simp only[cA,cQ] at hr;obtain⟨rfl,rfl⟩:=hr;exact dqX _ e1 W (inner _ ht)
  | ok v =>
   rw[ht] at hr;simp only[cA,cQ] at hr;obtain⟨rfl,rfl⟩:=hr;refine(dqQ _ (fun V _=>V=.int .i64 v) W fun W' h1 h2=>(inner _ ht W' h1 h2).mono fun e w' ⟨he,hb⟩=>⟨_,he,rfl,hb⟩).mono ?_;rintro e w' ⟨V,w1,rfl,rfl,hb,rfl⟩;exact⟨rfl,bs hb (vQ _) _⟩
 obtain⟨la,lc,rfl,_⟩:=hp.slice;obtain⟨kk,kc',kl,kh,ka,kn',kd,kb,km,kp,rfl,rfl,rfl,rfl,rfl,rfl⟩:=hq.shape;have hmf:=hmf;clear hp hq hr hL hN hS;go_enter func29,ntmps29;go_wp2_with fail;refine kc.mono ?_;rintro e w1 ⟨rfl,hb1⟩;clear kc;have hbw:Below w.heap.size w w1:=bt hb0 hb1;go_wp2;exact yQ (v:=.tuple #[.int .i64 z,.int .i64 er]) (by simp[results,results29,go_sem]) rfl ⟨rfl,hbw⟩
