import Derived.Test.YtdceajgpolckiaaGreatDoorQq21
open Go.Proofs.Tryz
set_option linter.unusedSimpArgs false
set_option maxHeartbeats 16000000
set_option maxRecDepth 100000
namespace Go.Proofs.YtdceajgpolckiaaGreatDoor
namespace K
open Go.RowKit K.Ds
structure Ar (W:World) (A:Nat) (x y:rX):Prop where
 c0:Cl W A 0 (.int .i64 x.1)
 c1:Cl W A 1 (.int .i64 x.2.1)
 c2:Cl W A 2 (.int .i64 x.2.2)
 c3:Cl W A 3 (.int .i64 y.1)
 c4:Cl W A 4 (.int .i64 y.2.1)
 c5:Cl W A 5 (.int .i64 y.2.2)
theorem Ar.at {W W':World}{A:Nat}{x y:rX}(h:Ar W A x y)(hb:Below W.heap.size W W'):Ar W' A x y:=⟨h.c0.at hb,h.c1.at hb,h.c2.at hb,h.c3.at hb,h.c4.at hb,h.c5.at hb⟩
structure Bq (W:World) (N:Nat) (v0 v1 v2 v3 v4 v5:Value):Prop where
 a0:Cl W N 0 v0
 a1:Cl W N 1 v1
 a2:Cl W N 2 v2
 a3:Cl W N 3 v3
 a4:Cl W N 4 v4
 a5:Cl W N 5 v5
 e0:Cl W (N+1) 0 (.int .i64 0)
 e1:Cl W (N+1) 1 (.int .i64 0)
 e2:Cl W (N+1) 2 (.int .i64 0)
theorem Bq.at {W W':World}{N:Nat}{v0 v1 v2 v3 v4 v5:Value}(h:Bq W N v0 v1 v2 v3 v4 v5)(hb:Below W.heap.size W W'):Bq W' N v0 v1 v2 v3 v4 v5 :=
 ⟨h.a0.at hb,h.a1.at hb,h.a2.at hb,h.a3.at hb,h.a4.at hb,h.a5.at hb,h.e0.at hb,h.e1.at hb,h.e2.at hb⟩
theorem Bq.new (w:World)(v0 v1 v2 v3 v4 v5:Value):Bq ((w.alloc (.cells #[v0,v1,v2,v3,v4,v5] 36)).alloc (.cells #[.int .i64 0,.int .i64 0,.int .i64 0] 123)) w.heap.size v0 v1 v2 v3 v4 v5:=by
 constructor
 all_goals first
  | exact(Cl.new _ 36 _ _ rfl rfl).at (ba _ _)
  | exact Cl.new _ 123 _ _ (by simp) rfl
theorem Qm.shape {w:World}{B:Nat}{q:Qu}{v0 v1 v2 v3 v4 v5:Value}(h:Qm w B q v0 v1 v2 v3 v4 v5):∃ k c lo hi wa wn wc a n cap,v0=.int .i64 k/\v1=.string c/\v2=.int .i64 lo/\v3=.int .i64 hi/\v4=.slice wa wn wc/\v5=.slice a n cap:=by
 cases q with
 | none=>exact h.elim
 | node k c lo hi wh n x y =>
  obtain⟨h0,h1,h2,h3,_,h4,a,cap,h5,_⟩:=h;obtain⟨wa,wc,h4,_⟩:=h4.slice;exact⟨k,c,lo,hi,wa,_,wc,a,n,cap,h0,h1,h2,h3,h4,h5⟩
def St (l:List jQ) (lev:Nat) (x y:Qu) (i:Nat) (bx b':rX):Prop :=
 (1<=i->bnd l (lev+1) x=.ok bx)/\(i=0->bx=(0,0,0))/\(2<=i->bnd l (lev+1) y=.ok b')/\(i<=1->b' = (0,0,0))
theorem St.kx {l:List jQ}{lev:Nat}{x y:Qu}{i:Nat}{bx b':rX}(h:St l lev x y i bx b')(hi:i<=2):nJ (1<=i) (bnd l (lev+1) x)=.ok bx/\nJ (2<=i) (bnd l (lev+1) y)=.ok b':=by
 unfold nJ;by_cases h1:1<=i
 ·rw[xQ h1,h.1 h1]
  by_cases h2:2<=i
  ·rw[xQ h2,h.2.2.1 h2];exact⟨rfl,rfl⟩
  ·rw[qQ h2,h.2.2.2 (by omega)];exact⟨rfl,rfl⟩
 ·rw[qQ h1,qQ (by omega),h.2.1 (by omega),h.2.2.2 (by omega)];exact⟨rfl,rfl⟩
theorem zok:oZ (0,0,0):=⟨by decide,by decide,by decide,by decide,by decide,by decide⟩
theorem St.bd {l:List jQ}(hs:pA l){lev:Nat}{x y:Qu}{i:Nat}{bx b':rX}(h:St l lev x y i bx b'):oZ bx/\oZ b':=by
 constructor
 ·by_cases h1:1<=i
  ·exact sL hs x _ _ (h.1 h1)
  ·rw[h.2.1 (by omega)];exact zok
 ·by_cases h1:2<=i
  ·exact sL hs y _ _ (h.2.2.1 h1)
  ·rw[h.2.2.2 (by omega)];exact zok
theorem Ar.new (W:World)(A:Nat)(hA:A=W.heap.size):Ar (W.alloc (.cells #[.int .i64 0,.int .i64 0,.int .i64 0,.int .i64 0,.int .i64 0,.int .i64 0] 225)) A (0,0,0) (0,0,0):=by
 constructor <;> exact Cl.new _ 225 _ _ hA rfl
theorem Ar.setx {W:World}{A:Nat}{x y:rX}(h:Ar W A x y)(b1 b2 b3:Int):Ar (((W.setCell ⟨A,0,none⟩ (.int .i64 b1)).setCell ⟨A,1,none⟩ (.int .i64 b2)).setCell ⟨A,2,none⟩ (.int .i64 b3)) A (b1,b2,b3) y:=by
 refine⟨?_,?_,?_,?_,?_,?_⟩
 ·exact((h.c0.set _).oth (.inr (by decide)) _).oth (.inr (by decide)) _
 ·exact(Cl.set (h.c1.oth (.inr (by decide)) _) _).oth (.inr (by decide)) _
 ·exact Cl.set ((h.c2.oth (.inr (by decide)) _).oth (.inr (by decide)) _) _
 ·exact((h.c3.oth (.inr (by decide)) _).oth (.inr (by decide)) _).oth (.inr (by decide)) _
 ·exact((h.c4.oth (.inr (by decide)) _).oth (.inr (by decide)) _).oth (.inr (by decide)) _
 ·exact((h.c5.oth (.inr (by decide)) _).oth (.inr (by decide)) _).oth (.inr (by decide)) _
theorem Ar.sety {W:World}{A:Nat}{x y:rX}(h:Ar W A x y)(b1 b2 b3:Int):Ar (((W.setCell ⟨A,3,none⟩ (.int .i64 b1)).setCell ⟨A,4,none⟩ (.int .i64 b2)).setCell ⟨A,5,none⟩ (.int .i64 b3)) A x (b1,b2,b3):=by
 refine⟨?_,?_,?_,?_,?_,?_⟩
 ·exact((h.c0.oth (.inr (by decide)) _).oth (.inr (by decide)) _).oth (.inr (by decide)) _
 ·exact((h.c1.oth (.inr (by decide)) _).oth (.inr (by decide)) _).oth (.inr (by decide)) _
 ·exact((h.c2.oth (.inr (by decide)) _).oth (.inr (by decide)) _).oth (.inr (by decide)) _
 ·exact((h.c3.set _).oth (.inr (by decide)) _).oth (.inr (by decide)) _
 ·exact(Cl.set (h.c4.oth (.inr (by decide)) _) _).oth (.inr (by decide)) _
 ·exact Cl.set ((h.c5.oth (.inr (by decide)) _).oth (.inr (by decide)) _) _
theorem Cl.set3 {W:World}{b k A k1 k2 k3:Nat}{v:Value}(h:Cl W b k v)(hne:A≠b)(u1 u2 u3:Value):Cl (((W.setCell ⟨A,k1,none⟩ u1).setCell ⟨A,k2,none⟩ u2).setCell ⟨A,k3,none⟩ u3) b k v :=
 ((h.oth (.inl hne) _).oth (.inl hne) _).oth (.inl hne) _
theorem Bq.set3 {W:World}{N A k1 k2 k3:Nat}{v0 v1 v2 v3 v4 v5:Value}(h:Bq W N v0 v1 v2 v3 v4 v5)(h1:A≠N)(h2:A≠N+1)(u1 u2 u3:Value):Bq (((W.setCell ⟨A,k1,none⟩ u1).setCell ⟨A,k2,none⟩ u2).setCell ⟨A,k3,none⟩ u3) N v0 v1 v2 v3 v4 v5 :=
 ⟨h.a0.set3 h1 _ _ _,h.a1.set3 h1 _ _ _,h.a2.set3 h1 _ _ _,h.a3.set3 h1 _ _ _,h.a4.set3 h1 _ _ _,h.a5.set3 h1 _ _ _,h.e0.set3 h2 _ _ _,h.e1.set3 h2 _ _ _,h.e2.set3 h2 _ _ _⟩
theorem uM {w W:World}(h:Below w.heap.size w W){A k1 k2 k3:Nat}(hA:w.heap.size<=A)(u0 u1 u2:Value):Below w.heap.size w (((W.setCell ⟨A,k1,none⟩ u0).setCell ⟨A,k2,none⟩ u1).setCell ⟨A,k3,none⟩ u2) :=
 bs (bs (bs h hA _) hA _) hA _
theorem abJ (l:List jQ)(hs:pA l)(q:Qu):∀ (lev:Nat) (w:World) (B:Nat) (lv v0 v1 v2 v3 v4 v5:Value) (r:Except Int rX),lev<=100->B<=w.heap.size->eQ w B lv l->Qm w B q v0 v1 v2 v3 v4 v5->bnd l lev q=r ->
  Calls prog 78 #[lv,.agg #[v0,v1,v2,v3,v4,v5],.int .i64 (lev:Int)] w fun e w'=>e=iN r/\Below w.heap.size w w':=by
 induction q with
 | none=>intro lev w B lv v0 v1 v2 v3 v4 v5 r _ _ _ h;exact h.elim
 | node k c lo hi wh n x y ihx ihy =>
  rintro lev w B lv _ _ _ _ v4 _ r hlev hB hp ⟨rfl,rfl,rfl,rfl,hc,hw,a,cap,rfl,hn,hm,hk⟩ hr;have HP:Hid (eQ w B lv l):=hp;have HW:Hid (qZ w B v4 wh):=hw;have HR:Hid (bnd l lev (.node k c lo hi wh n x y)=r):=hr
  have HK:Hid (1<=n->n<=2->∃ b o,a=some ⟨b,o,none⟩/\b<B/\(∃ u0 u1 u2 u3 u4 u5,xY w b o u0 u1 u2 u3 u4 u5/\Qm w B x u0 u1 u2 u3 u4 u5) /\
    (2<=n->∃ u0 u1 u2 u3 u4 u5,xY w b (o+6) u0 u1 u2 u3 u4 u5/\Qm w B y u0 u1 u2 u3 u4 u5)):=hk
  obtain⟨wa,wc,rfl,_⟩:=hw.slice;obtain⟨la,lc,rfl,_⟩:=hp.slice;clear hk hr hp hw;go_enter func78,ntmps78;by_cases h64:64<lev
  ·obtain rfl:Except.error 4=r:=by rw[<-HR.out,bnd,xQ h64]
   have hle:¬ (lev:Int)<=64:=by omega
   go_wp2_with fail;refine(uY 4 _).mono ?_;rintro e w2 ⟨rfl,rfl⟩;go_wp2;exact⟨rfl,rfl,bal (ba _ _) _⟩
  have hle:(lev:Int)<=64:=by omega
  go_wp2_with fail;refine(pD 4 _).mono ?_;rintro e w2 ⟨rfl,hw2⟩;have bq:=Bq.new w (.int .i64 k) (.string c) (.int .i64 lo) (.int .i64 hi) (.slice wa wh.length wc) (.slice a n cap);have hb2:Below w.heap.size w w2:=by rw[hw2];exact bal (ba _ _) _
  have hs2:Hid (w2.heap.size=w.heap.size+2):=by show _=_;rw[hw2];simp
  rw[<-hw2] at bq;have HBQ:Hid (Bq w2 w.heap.size (.int .i64 k) (.string c) (.int .i64 lo) (.int .i64 hi) (.slice wa wh.length wc) (.slice a n cap)):=bq;clear hw2;have t0:=bq.a0.c;have t5:=bq.a5.c;clear bq;go_wp2;by_cases hkn:cX k<0
  ·obtain rfl:Except.error 1=r:=by rw[<-HR.out,bnd,qQ h64,xQ hkn]
   have k1:=fun W=>b7X k W hkn;clear HR HK HW HP HBQ ihx ihy
   go_region_dies
   all_goals (go_at_call 124;refine(k1 _).mono ?_;rintro e w3 ⟨rfl,hw3⟩;subst hw3;exact⟨rfl,rfl,hb2.drew⟩)
  obtain⟨kn,hkk⟩:∃ kn,cX k=kn:=⟨_,rfl⟩;have k1:=fun W=>b7Q k W kn (by omega) hkk;by_cases hne:(n:Int)=kn
  ·subst hne
   have hq:((n:Int) == (n:Int))=true:=by simp
   go_region_held3 (fun w'=>w'.cell? ⟨w.heap.size,0,none⟩=some (.int .i64 k)/\w'.cell? ⟨w.heap.size,5,none⟩=some (.slice a n cap)) (first|assumption|(simp[go_sem, *];done)) (first|(go_at_call 124;refine(k1 _).mono ?_;rintro x3 w3 ⟨rfl,hw3⟩;subst hw3)|(go_at_call 58;refine(pD 5 _).mono ?_;rintro x4 w4 ⟨rfl,hw4⟩;subst hw4))
   have hb3:Below w.heap.size w w2.drew:=hb2.drew;have hs3:Hid (w2.drew.heap.size=w.heap.size+2):=hs2;have HBQ3:Hid (Bq w2.drew w.heap.size (.int .i64 k) (.string c) (.int .i64 lo) (.int .i64 hi) (.slice wa wh.length wc) (.slice a n cap)):=HBQ.out.at (aQ _ _).drew;obtain⟨w3,hw3⟩:∃ w3,w2.drew=w3:=⟨_,rfl⟩;rename_i hHeld;rw[hw3] at hb3 hs3 HBQ3 hHeld ⊢;clear hw3 HBQ hs2 hb2 t0 t5;have t5:=hHeld.2;clear hHeld;have hn2:n<=2:=by have:=hkk;unfold cX at this;repeat' split at this;all_goals omega
   have HR2:Hid ((match nJ (1<=n) (bnd l (lev+1) x) with
    | .error e=>.error e
    | .ok bx=>match nJ (2<=n) (bnd l (lev+1) y) with
     | .error e=>.error e
     | .ok b'=>match rec l k c lo hi wh bx b' with
      | .error e=>.error e
      | .ok b=>lim b)=r):=by
    have:=HR.out;rwa [bnd,qQ h64,qQ (by omega),xQ hkk.symm] at this
   clear HR;have HA0:Hid (Ar (w3.alloc (.cells #[.int .i64 0,.int .i64 0,.int .i64 0,.int .i64 0,.int .i64 0,.int .i64 0] 225)) w3.heap.size (0,0,0) (0,0,0)):=Ar.new _ _ rfl;have HB0:Hid (Bq (w3.alloc (.cells #[.int .i64 0,.int .i64 0,.int .i64 0,.int .i64 0,.int .i64 0,.int .i64 0] 225)) w.heap.size (.int .i64 k) (.string c) (.int .i64 lo) (.int .i64 hi) (.slice wa wh.length wc) (.slice a n cap)):=HBQ3.out.at (ba _ _);clear t5;have t5:=HB0.out.a5.c;have hlv1:(((lev+1:Nat)):Int)=(lev:Int)+1:=by omega
   go_wp2
   go_loopw [25] (fun s wr=>∃ (i:Nat) (bx b':rX),s=.int .i64 (i:Int)/\i<=n/\Hid (Bq wr w.heap.size (.int .i64 k) (.string c) (.int .i64 lo) (.int .i64 hi) (.slice wa wh.length wc) (.slice a n cap))/\Hid (Ar wr w3.heap.size bx b')/\Hid (St l lev x y i bx b')/\Below w.heap.size w wr) (fun s _=>n - (intOf s).toNat)
   case atStart=>exact⟨0,(0,0,0),(0,0,0),rfl,nQ _,HB0,HA0,⟨fun h=>absurd h (by decide),fun _=>rfl,fun h=>absurd h (by decide),fun _=>rfl⟩,bal hb3 _⟩
   case round =>
    obtain⟨i,bx,b',rfl,hin,HB,HA,HS,hbr⟩:=hrel;have hszr:=hbr.size;clear t5;by_cases h1:i<n
    ·rcases (show i=0\/i=1 by omega) with rfl|rfl
     ·
      obtain⟨b,o,rfl,hbB,⟨u0,u1,u2,u3,u4,u5,hu,hqm⟩,_⟩:=HK.out (by omega) hn2;obtain⟨kk,kc,kl,kh,ka,kn',kd,kb,km,kp,rfl,rfl,rfl,rfl,rfl,rfl⟩:=hqm.shape;obtain⟨c0,c1,c2,c3,c4,c5⟩:=hu.keep hbr (qX hbB hB);obtain⟨r1,hr1⟩:∃ r1,bnd l (lev+1) x=r1:=⟨_,rfl⟩;have k2:=ihx (lev+1) (wr.alloc (.cells #[.int .i64 kk,.string kc,.int .i64 kl,.int .i64 kh,.slice ka kn' kd,.slice kb km kp] 36)) B (.slice la l.length lc) _ _ _ _ _ _ r1 (by omega) (by simp;omega) ((HP.out.at hB hbr).at (by omega) (ba _ _)) ((hqm.at hB hbr).at (by omega) (ba _ _)) hr1;rw[hlv1] at k2;have HR1:Hid (bnd l (lev+1) x=r1):=hr1;clear hr1 hqm hu;go_wp2_with fail;refine k2.mono ?_;rintro e w5 ⟨he,hb5⟩;clear k2;have hb5':Below wr.heap.size wr w5:=bt (ba _ _) hb5;have hbw5:Below w.heap.size w w5:=bt hbr hb5';have HB5:Hid (Bq w5 w.heap.size (.int .i64 k) (.string c) (.int .i64 lo) (.int .i64 hi) (.slice wa wh.length wc) (.slice (some ⟨b,o,none⟩) n cap)):=HB.out.at hb5';have HA5:Hid (Ar w5 w3.heap.size bx b'):=HA.out.at hb5';cases r1 with
      | error er =>
       obtain rfl:Except.error er=r:=by
        rw[<-HR2.out];have h1:=HR1.out;rw[nJ,xQ (by omega),h1]
       obtain rfl:e=.panicked (chn er):=he;go_wp2;exact⟨rfl,rfl,hbw5⟩
      | ok bq =>
       obtain⟨b1,b2,b3⟩:=bq;obtain rfl:e=.returned (.agg #[.int .i64 b1,.int .i64 b2,.int .i64 b3]):=he;have s0:=HA5.out.c0.c;have s1:=HA5.out.c1.c;have s2:=HA5.out.c2.c;have f0:=HA5.out.c0.f;have f1:=HA5.out.c1.f;have f2:=HA5.out.c2.f;have HS2:Hid (St l lev x y 1 (b1,b2,b3) b'):=⟨fun _=>HR1.out,fun h=>absurd h (by decide),fun h=>absurd h (by decide),fun _=>HS.out.2.2.2 (by decide)⟩;go_wp2
       go_roundw
       case rel=>exact⟨1,(b1,b2,b3),b',rfl,by omega,HB5.out.set3 (by have:=hs3.out;omega) (by have:=hs3.out;omega) _ _ _,HA5.out.setx _ _ _,HS2,uM hbw5 (by have:=hs3.out;omega) _ _ _⟩
       case measure=>simp[intOf];omega
     ·
      obtain⟨b,o,rfl,hbB,_,hk2⟩:=HK.out (by omega) hn2;obtain⟨u0,u1,u2,u3,u4,u5,hu,hqm⟩:=hk2 (by omega);obtain⟨kk,kc,kl,kh,ka,kn',kd,kb,km,kp,rfl,rfl,rfl,rfl,rfl,rfl⟩:=hqm.shape;obtain⟨c0,c1,c2,c3,c4,c5⟩:=hu.keep hbr (qX hbB hB);obtain⟨r1,hr1⟩:∃ r1,bnd l (lev+1) y=r1:=⟨_,rfl⟩;have k2:=ihy (lev+1) (wr.alloc (.cells #[.int .i64 kk,.string kc,.int .i64 kl,.int .i64 kh,.slice ka kn' kd,.slice kb km kp] 36)) B (.slice la l.length lc) _ _ _ _ _ _ r1 (by omega) (by simp;omega) ((HP.out.at hB hbr).at (by omega) (ba _ _)) ((hqm.at hB hbr).at (by omega) (ba _ _)) hr1;rw[hlv1] at k2;have HR1:Hid (bnd l (lev+1) y=r1):=hr1;clear hr1 hqm hu;go_wp2_with fail;refine k2.mono ?_;rintro e w5 ⟨he,hb5⟩;clear k2;have hb5':Below wr.heap.size wr w5:=bt (ba _ _) hb5;have hbw5:Below w.heap.size w w5:=bt hbr hb5';have HB5:Hid (Bq w5 w.heap.size (.int .i64 k) (.string c) (.int .i64 lo) (.int .i64 hi) (.slice wa wh.length wc) (.slice (some ⟨b,o,none⟩) n cap)):=HB.out.at hb5';have HA5:Hid (Ar w5 w3.heap.size bx b'):=HA.out.at hb5';cases r1 with
      | error er =>
       obtain rfl:Except.error er=r:=by
        rw[<-HR2.out];have h1:=HR1.out;have h0:=HS.out.1 (by omega);rw[nJ,if_pos (by omega),h0];dsimp only;rw[nJ,if_pos (by omega),h1]
       obtain rfl:e=.panicked (chn er):=he;go_wp2;exact⟨rfl,rfl,hbw5⟩
      | ok bq =>
       obtain⟨b1,b2,b3⟩:=bq;obtain rfl:e=.returned (.agg #[.int .i64 b1,.int .i64 b2,.int .i64 b3]):=he;have s0:=HA5.out.c3.c;have s1:=HA5.out.c4.c;have s2:=HA5.out.c5.c;have f0:=HA5.out.c3.f;have f1:=HA5.out.c4.f;have f2:=HA5.out.c5.f;have HS2:Hid (St l lev x y 2 bx (b1,b2,b3)):=⟨fun _=>HS.out.1 (by decide),fun h=>absurd h (by decide),fun _=>HR1.out,fun h=>absurd h (by decide)⟩;go_wp2
       go_roundw
       case rel=>exact⟨2,bx,(b1,b2,b3),rfl,by omega,HB5.out.set3 (by have:=hs3.out;omega) (by have:=hs3.out;omega) _ _ _,HA5.out.sety _ _ _,HS2,uM hbw5 (by have:=hs3.out;omega) _ _ _⟩
       case measure=>simp[intOf];omega
    ·obtain rfl:i=n:=by omega
     obtain⟨bdx,bdy⟩:=HS.out.bd hs;obtain⟨kx,ky⟩:=HS.out.kx hn2;obtain⟨x1,x2,x3⟩:=bx;obtain⟨y1,y2,y3⟩:=b'
     have HR3:Hid ((match rec l k c lo hi wh (x1,x2,x3) (y1,y2,y3) with
      | .error e=>.error e
      | .ok b=>lim b)=r):=by
      have:=HR2.out;rw[kx] at this;dsimp only at this;rw[ky] at this;exact this
     clear HR2 kx ky HK;obtain⟨rr,hrr⟩:∃ rr,rec l k c lo hi wh (x1,x2,x3) (y1,y2,y3)=rr:=⟨_,rfl⟩;have kr:=ccZ k (by omega) (.slice la l.length lc) c lo hi (.slice wa wh.length wc) (.slice a i cap) (x1,x2,x3) (y1,y2,y3) bdx bdy wr B l wh (by omega) (HP.out.at hB hbr) (HW.out.at hB hbr) rr hrr;rw[hrr] at HR3;clear hrr bdx bdy HS;have m0:=HB.out.a0.c;have m1:=HB.out.a1.c;have m2:=HB.out.a2.c;have m3:=HB.out.a3.c;have m4:=HB.out.a4.c;have m5:=HB.out.a5.c;have q0:=HA.out.c0.c;have q1:=HA.out.c1.c;have q2:=HA.out.c2.c;have q3:=HA.out.c3.c;have q4:=HA.out.c4.c;have q5:=HA.out.c5.c;go_wp2_with fail;refine kr.mono ?_;rintro e w6 ⟨he,hb6⟩;clear kr m0 m1 m2 m3 m4 m5 q0 q1 q2 q3 q4 q5;have hbw6:Below w.heap.size w w6:=bt hbr hb6;have HB6:Hid (Bq w6 w.heap.size (.int .i64 k) (.string c) (.int .i64 lo) (.int .i64 hi) (.slice wa wh.length wc) (.slice a i cap)):=HB.out.at hb6;clear HB HA hb6;cases rr with
     | error er =>
      obtain rfl:Except.error er=r:=HR3.out;obtain rfl:e=.panicked (chn er):=he;go_wp2;exact⟨rfl,rfl,hbw6⟩
     | ok bb =>
      obtain⟨b1,b2,b3⟩:=bb;obtain rfl:e=.returned (.agg #[.int .i64 b1,.int .i64 b2,.int .i64 b3]):=he;have HR4:Hid (lim (b1,b2,b3)=r):=HR3.out;clear HR3;by_cases hl:lK (b1,b2,b3)=true
      ·obtain rfl:Except.ok (b1,b2,b3)=r:=by rw[<-HR4.out,lim,xQ hl]
       simp only[lK,oV] at hl;obtain⟨l1,l2,l3⟩:=hl;have HBZ:Hid (Bq (w6.alloc (.cells #[.int .i64 b1,.int .i64 b2,.int .i64 b3] 123)) w.heap.size (.int .i64 k) (.string c) (.int .i64 lo) (.int .i64 hi) (.slice wa wh.length wc) (.slice a i cap)):=HB6.out.at (ba _ _);go_wp2_with fail;refine(pD 4 _).mono ?_;rintro e w7 ⟨rfl,hw7⟩;have g0:Cl w7 w6.heap.size 0 (.int .i64 b1):=by rw[hw7];exact Cl.new _ 123 _ _ rfl rfl
       have g1:Cl w7 w6.heap.size 1 (.int .i64 b2):=by rw[hw7];exact Cl.new _ 123 _ _ rfl rfl
       have g2:Cl w7 w6.heap.size 2 (.int .i64 b3):=by rw[hw7];exact Cl.new _ 123 _ _ rfl rfl
       rw[<-hw7] at HBZ;have hbw7:Below w.heap.size w w7:=by rw[hw7];exact bal hbw6 _
       clear hw7;have g0:=g0.c;have g1:=g1.c;have g2:=g2.c;have s0:=HBZ.out.e0.c;have s1:=HBZ.out.e1.c;have s2:=HBZ.out.e2.c;have f0:=HBZ.out.e0.f;have f1:=HBZ.out.e1.f;have f2:=HBZ.out.e2.f;go_wp2;exact yQ (v:=.agg #[.int .i64 b1,.int .i64 b2,.int .i64 b3]) (by simp[results,results78,go_sem,s0,s1,s2]) rfl ⟨rfl,uM hbw7 (Nat.le_succ _) _ _ _⟩
      ·obtain rfl:Except.error 4=r:=by rw[<-HR4.out,lim,qQ hl]
       simp only[lK,oV] at hl;by_cases l1:b1<=4096
       ·by_cases l2:b2<=1099511627776
        ·have l3:¬ b3<=1099511627776:=fun l3=>hl ⟨l1,l2,l3⟩
         have l4:decide (b3<=1099511627776)=false:=nV l3;clear hl;go_wp2_with fail;refine(uY 4 _).mono ?_;rintro e w7 ⟨rfl,rfl⟩;go_wp2;exact⟨rfl,rfl,bal hbw6 _⟩
        ·go_wp2_with fail
         refine(uY 4 _).mono ?_;rintro e w7 ⟨rfl,rfl⟩;go_wp2;exact⟨rfl,rfl,bal hbw6 _⟩
       ·go_wp2_with fail
        refine(uY 4 _).mono ?_;rintro e w7 ⟨rfl,rfl⟩;go_wp2;exact⟨rfl,rfl,bal hbw6 _⟩
  ·obtain rfl:Except.error 5=r:=by rw[<-HR.out,bnd,qQ h64,qQ hkn,qQ (by rw[hkk];exact hne)]
   have hq:((n:Int) == kn)=false:=by simpa using hne
   clear HR HK HW HP HBQ ihx ihy
   go_region_dies
   all_goals (go_at_call 124;refine(k1 _).mono ?_;rintro e w3 ⟨rfl,hw3⟩;subst hw3;rename_i K hK;refine hK _ _ ?_;clear hK K)
   ·(refine bG (rs:=[6]) (by kernel_rfl) (by simp) ?_;refine cG rfl (fun K hK=>?_) dG;go_simp;refine hK _ _ ?_;clear hK K);(refine bG (rs:=[7]) (by kernel_rfl) (by simp) ?_;refine cG rfl (fun K hK=>?_) dG;go_simp;go_at_call 58;refine(uY 5 _).mono ?_;rintro e w4 ⟨rfl,hw4⟩;subst hw4;exact⟨rfl,rfl,hb2.drew⟩)
   ·(refine bG (rs:=[6]) (by kernel_rfl) (by simp) ?_;refine cG rfl (fun K hK=>?_) dG;go_simp;refine hK _ _ ?_;clear hK K);(refine bG (rs:=[7]) (by kernel_rfl) (by simp) ?_;refine cG rfl (fun K hK=>?_) dG;go_simp;go_at_call 58;refine(uY 5 _).mono ?_;rintro e w4 ⟨rfl,hw4⟩;subst hw4;exact⟨rfl,rfl,hb2.drew⟩)
   ·(refine bG (rs:=[2]) (by kernel_rfl) (by simp) ?_;refine cG rfl (fun K hK=>?_) dG;go_simp;refine hK _ _ ?_;clear hK K);(refine bG (rs:=[6]) (by kernel_rfl) (by simp) ?_;refine cG rfl (fun K hK=>?_) dG;go_simp;refine hK _ _ ?_;clear hK K);(refine bG (rs:=[7]) (by kernel_rfl) (by simp) ?_;refine cG rfl (fun K hK=>?_) dG;go_simp;go_at_call 58;refine(uY 5 _).mono ?_;rintro e w4 ⟨rfl,hw4⟩;subst hw4;exact⟨rfl,rfl,hb2.drew⟩)
   ·(refine bG (rs:=[6]) (by kernel_rfl) (by simp) ?_;refine cG rfl (fun K hK=>?_) dG;go_simp;refine hK _ _ ?_;clear hK K);(refine bG (rs:=[7]) (by kernel_rfl) (by simp) ?_;refine cG rfl (fun K hK=>?_) dG;go_simp;go_at_call 58;refine(uY 5 _).mono ?_;rintro e w4 ⟨rfl,hw4⟩;subst hw4;exact⟨rfl,rfl,hb2.drew⟩)
   ·(refine bG (rs:=[2]) (by kernel_rfl) (by simp) ?_;refine cG rfl (fun K hK=>?_) dG;go_simp;refine hK _ _ ?_;clear hK K);(refine bG (rs:=[6]) (by kernel_rfl) (by simp) ?_;refine cG rfl (fun K hK=>?_) dG;go_simp;refine hK _ _ ?_;clear hK K);(refine bG (rs:=[7]) (by kernel_rfl) (by simp) ?_;refine cG rfl (fun K hK=>?_) dG;go_simp;go_at_call 58;refine(uY 5 _).mono ?_;rintro e w4 ⟨rfl,hw4⟩;subst hw4;exact⟨rfl,rfl,hb2.drew⟩)
   ·(refine bG (rs:=[1]) (by kernel_rfl) (by simp) ?_;refine cG rfl (fun K hK=>?_) dG;go_simp;refine hK _ _ ?_;clear hK K);(refine bG (rs:=[2]) (by kernel_rfl) (by simp) ?_;refine cG rfl (fun K hK=>?_) dG;go_simp;refine hK _ _ ?_;clear hK K);(refine bG (rs:=[6]) (by kernel_rfl) (by simp) ?_;refine cG rfl (fun K hK=>?_) dG;go_simp;refine hK _ _ ?_;clear hK K);(refine bG (rs:=[7]) (by kernel_rfl) (by simp) ?_;refine cG rfl (fun K hK=>?_) dG;go_simp;go_at_call 58;refine(uY 5 _).mono ?_;rintro e w4 ⟨rfl,hw4⟩;subst hw4;exact⟨rfl,rfl,hb2.drew⟩)
def typ (l:List jQ) (q:Qu):Except Int rX:=if yV l=0 then bnd l 1 q else .error (yV l)
theorem acQ (l:List jQ)(q:Qu)(w:World)(B:Nat)(lv v0 v1 v2 v3 v4 v5:Value)(r:Except Int rX)(hB:B<=w.heap.size)(hp:eQ w B lv l)(hq:Qm w B q v0 v1 v2 v3 v4 v5)(hr:typ l q=r) :
  Calls prog 55 #[lv,.agg #[v0,v1,v2,v3,v4,v5]] w fun e w'=>e=iN r/\Below w.heap.size w w':=by
 have HP:Hid (eQ w B lv l):=hp;have HQ:Hid (Qm w B q v0 v1 v2 v3 v4 v5):=hq;have HR:Hid (typ l q=r):=hr;obtain⟨la,lc,rfl,_⟩:=hp.slice;obtain⟨kk,kc,kl,kh,ka,kn',kd,kb,km,kp,rfl,rfl,rfl,rfl,rfl,rfl⟩:=hq.shape;obtain⟨ec,hec⟩:∃ ec,yV l=ec:=⟨_,rfl⟩;have bq:=Bq.new w (.int .i64 kk) (.string kc) (.int .i64 kl) (.int .i64 kh) (.slice ka kn' kd) (.slice kb km kp);have hb0:Below w.heap.size w ((w.alloc (.cells #[.int .i64 kk,.string kc,.int .i64 kl,.int .i64 kh,.slice ka kn' kd,.slice kb km kp] 36)).alloc (.cells #[.int .i64 0,.int .i64 0,.int .i64 0] 123)):=bal (ba _ _) _;have k1:=uP B _ l _ (uQ hB hb0.size) (hp.at hB hb0) ec hec;have HEC:Hid (yV l=ec):=hec;clear hp hq hr hec;go_enter func55,ntmps55;go_wp2_with fail;refine k1.mono ?_;rintro e w1 ⟨rfl,hb1⟩;clear k1;have hbw:Below w.heap.size w w1:=bt hb0 hb1;have HB1:Hid (Bq w1 w.heap.size (.int .i64 kk) (.string kc) (.int .i64 kl) (.int .i64 kh) (.slice ka kn' kd) (.slice kb km kp)):=bq.at hb1;clear bq hb0 hb1;by_cases he:ec=0
 ·subst he
  have HT:Hid (bnd l 1 q=r):=by have:=HR.out;rwa [typ,xQ HEC.out] at this
  have hsz:=hbw.size;have k2:=abJ l (iK HEC.out).2.2.1 q 1 w1 B (.slice la l.length lc) _ _ _ _ _ _ r (by decide) (by omega) (HP.out.at hB hbw) (HQ.out.at hB hbw) HT.out;have m0:=HB1.out.a0.c;have m1:=HB1.out.a1.c;have m2:=HB1.out.a2.c;have m3:=HB1.out.a3.c;have m4:=HB1.out.a4.c;have m5:=HB1.out.a5.c;go_wp2_with fail;refine(j9 w1).mono ?_;rintro e w2 ⟨rfl,rfl⟩;go_wp2_with fail;refine k2.mono ?_;rintro e w3 ⟨he,hb3⟩;clear k2 m0 m1 m2 m3 m4 m5;have HB3:Hid (Bq w3 w.heap.size (.int .i64 kk) (.string kc) (.int .i64 kl) (.int .i64 kh) (.slice ka kn' kd) (.slice kb km kp)):=HB1.out.at hb3;have hbw3:Below w.heap.size w w3:=bt hbw hb3;clear HB1 hb3;cases r with
  | error er =>
   obtain rfl:e=.panicked (chn er):=he;go_wp2;exact⟨rfl,rfl,hbw3⟩
  | ok bb =>
   obtain⟨b1,b2,b3⟩:=bb;obtain rfl:e=.returned (.agg #[.int .i64 b1,.int .i64 b2,.int .i64 b3]):=he;have s0:=HB3.out.e0.c;have s1:=HB3.out.e1.c;have s2:=HB3.out.e2.c;have f0:=HB3.out.e0.f;have f1:=HB3.out.e1.f;have f2:=HB3.out.e2.f;go_wp2;exact yQ (v:=.agg #[.int .i64 b1,.int .i64 b2,.int .i64 b3]) (by simp[results,results55,go_sem,s0,s1,s2]) rfl ⟨rfl,uM hbw3 (Nat.le_succ _) _ _ _⟩
 ·obtain rfl:Except.error ec=r:=by rw[<-HR.out,typ,HEC.out,qQ he]
  go_wp2_with fail;refine(y9 ec he w1).mono ?_;rintro e w2 ⟨rfl,rfl⟩;go_wp2;exact⟨rfl,rfl,hbw⟩
structure Bx (W:World) (N:Nat) (v0 v1 v2 v3 v4 v5:Value):Prop where
 a0:Cl W N 0 v0
 a1:Cl W N 1 v1
 a2:Cl W N 2 v2
 a3:Cl W N 3 v3
 a4:Cl W N 4 v4
 a5:Cl W N 5 v5
theorem Bx.at {W W':World}{N:Nat}{v0 v1 v2 v3 v4 v5:Value}(h:Bx W N v0 v1 v2 v3 v4 v5)(hb:Below W.heap.size W W'):Bx W' N v0 v1 v2 v3 v4 v5:=⟨h.a0.at hb,h.a1.at hb,h.a2.at hb,h.a3.at hb,h.a4.at hb,h.a5.at hb⟩
theorem Bx.new (W:World)(N:Nat)(hN:N=W.heap.size)(v0 v1 v2 v3 v4 v5:Value):Bx (W.alloc (.cells #[v0,v1,v2,v3,v4,v5] 36)) N v0 v1 v2 v3 v4 v5:=by
 constructor <;> exact Cl.new _ 36 _ _ hN rfl
theorem cgX (l:List jQ)(q:Qu)(w:World)(B L N:Nat)(lv v0 v1 v2 v3 v4 v5:Value)(r:Except Int rX)(hB:B<=w.heap.size)(hp:eQ w B lv l)(hq:Qm w B q v0 v1 v2 v3 v4 v5)(hr:typ l q=r)(hL:Cl w L 0 lv)(hN:Bx w N v0 v1 v2 v3 v4 v5) :
  Calls prog 84 #[.pointer (some ⟨L,0,none⟩),.pointer (some ⟨N,0,none⟩)] w fun e w'=>e=iN r/\Below w.heap.size w w':=by
 have hb0:=ba w (.cells #[.int .i64 0,.int .i64 0,.int .i64 0] 123);have k1:=acQ l q (w.alloc (.cells #[.int .i64 0,.int .i64 0,.int .i64 0] 123)) B lv v0 v1 v2 v3 v4 v5 r (uQ hB hb0.size) (hp.at hB hb0) (hq.at hB hb0) hr;obtain⟨la,lc,rfl,_⟩:=hp.slice;obtain⟨kk,kc,kl,kh,ka,kn',kd,kb,km,kp,rfl,rfl,rfl,rfl,rfl,rfl⟩:=hq.shape;have hL2:=hL.at hb0;have hN2:=hN.at hb0;have m0:=hN2.a0.c;have m1:=hN2.a1.c;have m2:=hN2.a2.c;have m3:=hN2.a3.c;have m4:=hN2.a4.c;have m5:=hN2.a5.c;have m6:=hL2.c;clear hp hq hr hL hN hL2 hN2;go_enter func84,ntmps84;go_wp2_with fail;refine k1.mono ?_;rintro e w1 ⟨he,hb1⟩;clear k1 m0 m1 m2 m3 m4 m5 m6;have a0:=(Cl.new (w:=w) #[.int .i64 0,.int .i64 0,.int .i64 0] 123 0 _ rfl rfl).at hb1;have a1:=(Cl.new (w:=w) #[.int .i64 0,.int .i64 0,.int .i64 0] 123 1 _ rfl rfl).at hb1;have a2:=(Cl.new (w:=w) #[.int .i64 0,.int .i64 0,.int .i64 0] 123 2 _ rfl rfl).at hb1;have hbw:Below w.heap.size w w1:=bt hb0 hb1;clear hb0 hb1;have s0:=a0.c;have s1:=a1.c;have s2:=a2.c;have f0:=a0.f;have f1:=a1.f;have f2:=a2.f;cases r with
 | error er =>
  obtain rfl:e=.panicked (chn er):=he;go_wp2;exact⟨rfl,rfl,hbw⟩
 | ok bb =>
  obtain⟨b1,b2,b3⟩:=bb;obtain rfl:e=.returned (.agg #[.int .i64 b1,.int .i64 b2,.int .i64 b3]):=he;go_wp2;exact yQ (v:=.agg #[.int .i64 b1,.int .i64 b2,.int .i64 b3]) (by simp[results,results84,go_sem,s0,s1,s2]) rfl ⟨rfl,uM hbw (vQ _) _ _ _⟩
def cF:Except Int rX->rX × Int
 | .error e=>((0,0,0),e)
 | .ok b=>(b,0)
theorem cgZ (l:List jQ)(q:Qu)(w:World)(B:Nat)(lv v0 v1 v2 v3 v4 v5:Value)(b1 b2 b3 er:Int)(hB:B<=w.heap.size)(hp:eQ w B lv l)(hq:Qm w B q v0 v1 v2 v3 v4 v5)(hr:cF (typ l q)=((b1,b2,b3),er)) :
  Calls prog 41 #[lv,.agg #[v0,v1,v2,v3,v4,v5]] w fun e w'=>e=.returned (.tuple #[.agg #[.int .i64 b1,.int .i64 b2,.int .i64 b3],.int .i64 er])/\Below w.heap.size w w':=by
 have hb0:Below w.heap.size w (((w.alloc (.cells #[lv] 22)).alloc (.cells #[v0,v1,v2,v3,v4,v5] 36)).alloc (.cells #[.int .i64 0,.int .i64 0,.int .i64 0] 123)):=bal (bal (ba _ _) _) _;have hL:Cl (((w.alloc (.cells #[lv] 22)).alloc (.cells #[v0,v1,v2,v3,v4,v5] 36)).alloc (.cells #[.int .i64 0,.int .i64 0,.int .i64 0] 123)) w.heap.size 0 lv:=((Cl.new _ 22 _ _ rfl rfl).at (ba _ _)).at (ba _ _);have hN:Bx (((w.alloc (.cells #[lv] 22)).alloc (.cells #[v0,v1,v2,v3,v4,v5] 36)).alloc (.cells #[.int .i64 0,.int .i64 0,.int .i64 0] 123)) (w.heap.size+1) v0 v1 v2 v3 v4 v5:=(Bx.new _ _ (by simp) _ _ _ _ _ _).at (ba _ _)
 have kc:Calls prog 83 #[.func (.func 84) #[] #[.pointer (some ⟨w.heap.size,0,none⟩),.pointer (some ⟨w.heap.size+1,0,none⟩)]] (((w.alloc (.cells #[lv] 22)).alloc (.cells #[v0,v1,v2,v3,v4,v5] 36)).alloc (.cells #[.int .i64 0,.int .i64 0,.int .i64 0] 123)) fun e w'=>e=.returned (.tuple #[.agg #[.int .i64 b1,.int .i64 b2,.int .i64 b3],.int .i64 er])/\Below (((w.alloc (.cells #[lv] 22)).alloc (.cells #[v0,v1,v2,v3,v4,v5] 36)).alloc (.cells #[.int .i64 0,.int .i64 0,.int .i64 0] 123)).heap.size (((w.alloc (.cells #[lv] 22)).alloc (.cells #[v0,v1,v2,v3,v4,v5] 36)).alloc (.cells #[.int .i64 0,.int .i64 0,.int .i64 0] 123)) w':=by
  generalize hW:(((w.alloc (.cells #[lv] 22)).alloc (.cells #[v0,v1,v2,v3,v4,v5] 36)).alloc (.cells #[.int .i64 0,.int .i64 0,.int .i64 0] 123))=W at *
  have inner:∀ r,typ l q=r->∀ W',Below W.heap.size W W'->W.heap.size+2<=W'.heap.size->Calls prog 84 #[.pointer (some ⟨w.heap.size,0,none⟩),.pointer (some ⟨w.heap.size+1,0,none⟩)] W' fun e w'=>e=iN r/\Below W'.heap.size W' w':=by
   intro r hr W' hW' hs;have hsz:=hb0.size;exact cgX l q W' B _ _ lv v0 v1 v2 v3 v4 v5 r (by omega) ((hp.at hB hb0).at (by omega) hW') ((hq.at hB hb0).at (by omega) hW') hr (hL.at hW') (hN.at hW')
  cases ht:typ l q with
  | error e1 =>
   rw[ht] at hr;simp only[cF,cQ] at hr;obtain⟨⟨rfl,rfl,rfl⟩,rfl⟩:=hr;exact b5J _ e1 W (inner _ ht)
  | ok bb =>
   obtain⟨c1,c2,c3⟩:=bb;rw[ht] at hr;simp only[cF,cQ] at hr;obtain⟨⟨rfl,rfl,rfl⟩,rfl⟩:=hr;exact b5Z _ c1 c2 c3 W (inner _ ht)
 obtain⟨la,lc,rfl,_⟩:=hp.slice;obtain⟨kk,kc',kl,kh,ka,kn',kd,kb,km,kp,rfl,rfl,rfl,rfl,rfl,rfl⟩:=hq.shape;have hmf:=hmf;clear hp hq hr hL hN;go_enter func41,ntmps41;go_wp2_with fail;refine kc.mono ?_;rintro e w1 ⟨rfl,hb1⟩;clear kc;have a0:=(Cl.new (w:=((w.alloc (.cells #[.slice la l.length lc] 22)).alloc (.cells #[.int .i64 kk,.string kc',.int .i64 kl,.int .i64 kh,.slice ka kn' kd,.slice kb km kp] 36))) (N:=w.heap.size+1+1) #[.int .i64 0,.int .i64 0,.int .i64 0] 123 0 _ (by simp) rfl).at hb1;have a1:=(Cl.new (w:=((w.alloc (.cells #[.slice la l.length lc] 22)).alloc (.cells #[.int .i64 kk,.string kc',.int .i64 kl,.int .i64 kh,.slice ka kn' kd,.slice kb km kp] 36))) (N:=w.heap.size+1+1) #[.int .i64 0,.int .i64 0,.int .i64 0] 123 1 _ (by simp) rfl).at hb1;have a2:=(Cl.new (w:=((w.alloc (.cells #[.slice la l.length lc] 22)).alloc (.cells #[.int .i64 kk,.string kc',.int .i64 kl,.int .i64 kh,.slice ka kn' kd,.slice kb km kp] 36))) (N:=w.heap.size+1+1) #[.int .i64 0,.int .i64 0,.int .i64 0] 123 2 _ (by simp) rfl).at hb1;have hbw:Below w.heap.size w w1:=bt hb0 hb1;clear hb0 hb1;have s0:=a0.c;have s1:=a1.c;have s2:=a2.c;have f0:=a0.f;have f1:=a1.f;have f2:=a2.f;go_wp2;exact yQ (v:=.tuple #[.agg #[.int .i64 b1,.int .i64 b2,.int .i64 b3],.int .i64 er]) (by simp[results,results41,go_sem,s0,s1,s2]) rfl ⟨rfl,uM hbw (by omega) _ _ _⟩
theorem pX.up {w W:World}{xs:List Int}{e:Ending}{w':World}(h:pX W xs e w')(hb:Below w.heap.size w W):pX w xs e w':=by
 obtain⟨g,c,he,ha,hbw⟩:=h;exact⟨g,c,he,ha.mono hb.size,bt hb hbw⟩
theorem clt {w:World}{a:Addr}{v:Value}(h:w.cell? a=some v):a.block<w.heap.size:=by
 unfold World.cell? at h;split at h
 ·rename_i hb;exact(jU.1 hb).1
 ·cases h
theorem acX {w:World}{xs:List Int}{e:Ending}{w':World}(h:pX w.drew xs e w'):pX w xs e w':=pX.up h (aQ _ _).drew
theorem sH (N N1:Nat)(cv rv:Value)(b o n cap:Nat)(hn:0<n)(xs:List Int)(w:World)(t0:w.cell? ⟨N,0,none⟩=some cv)(t1:w.cell? ⟨N,1,none⟩=some rv)(t5:w.cell? ⟨N1,5,none⟩=some (.slice (some ⟨b,o,none⟩) n cap))(B:Nat)(x:Qu)(u0 u1 u2 u3 u4 u5:Value)(hu:xY w b (o) u0 u1 u2 u3 u4 u5)(hq:Qm w B x u0 u1 u2 u3 u4 u5)(l:List jQ)(ts:List Rw)(hp:eQ w B cv l)(hr:iQ w B rv ts)
  (kc:Calls prog 79 #[.agg #[cv,rv],.agg #[u0,u1,u2,u3,u4,u5]] w.drew (pX w.drew xs)) :
  Calls prog 127 #[.int .i64 0,.pointer (some ⟨N,0,none⟩),.pointer (some ⟨N1,0,none⟩)] w (pX w xs):=by
 obtain⟨la,lc,rfl,_⟩:=hp.slice;obtain⟨ra,rc,rfl,_⟩:=hr.slice;obtain⟨kk,kc',kl,kh,ka,kn',kd,kb,km,kp,rfl,rfl,rfl,rfl,rfl,rfl⟩:=hq.shape;obtain⟨c0,c1,c2,c3,c4,c5⟩:=hu;have lN:N<w.heap.size:=clt t0;have lN1:N1<w.heap.size:=clt t5;have lb:b<w.heap.size:=clt c0;have hn1:((0:Int))<(n:Int):=by omega
 have hn2:(0:Int)<=0:=by decide
 clear hp hr hq;go_enter func127,ntmps127;go_wp2
 go_region_held3 (fun w'=>w'.cell? ⟨N,0,none⟩=some (.slice la l.length lc)/\w'.cell? ⟨N,1,none⟩=some (.slice ra ts.length rc)/\w'.cell? ⟨N1,5,none⟩=some (.slice (some ⟨b,o,none⟩) n cap)/\w'.cell? ⟨b,o,none⟩=some (.int .i64 kk)/\w'.cell? ⟨b,o+1,none⟩=some (.string kc')/\w'.cell? ⟨b,o+2,none⟩=some (.int .i64 kl)/\w'.cell? ⟨b,o+3,none⟩=some (.int .i64 kh)/\w'.cell? ⟨b,o+4,none⟩=some (.slice ka kn' kd)/\w'.cell? ⟨b,o+5,none⟩=some (.slice kb km kp)) (first|assumption|(simp[go_sem, *];done)) ((go_at_call 79;refine kc.mono ?_;rintro x3 w3 hA;obtain⟨g3,c3',rfl,hA3,hb3⟩:=hA;have z0:=(hb3.cell (p:=⟨N,0,none⟩) lN).trans t0;have z1:=(hb3.cell (p:=⟨N,1,none⟩) lN).trans t1;have z2:=(hb3.cell (p:=⟨N1,5,none⟩) lN1).trans t5;have y0:=(hb3.cell (p:=⟨b,o,none⟩) lb).trans c0;have y1:=(hb3.cell (p:=⟨b,o+1,none⟩) lb).trans c1;have y2:=(hb3.cell (p:=⟨b,o+2,none⟩) lb).trans c2;have y3:=(hb3.cell (p:=⟨b,o+3,none⟩) lb).trans c3;have y4:=(hb3.cell (p:=⟨b,o+4,none⟩) lb).trans c4;have y5:=(hb3.cell (p:=⟨b,o+5,none⟩) lb).trans c5))
 go_wp2;go_ret;exact acX ⟨g3,c3',rfl,hA3,hb3⟩
theorem jB (N N1:Nat)(cv rv:Value)(b o n cap:Nat)(hn:1<n)(xs:List Int)(w:World)(t0:w.cell? ⟨N,0,none⟩=some cv)(t1:w.cell? ⟨N,1,none⟩=some rv)(t5:w.cell? ⟨N1,5,none⟩=some (.slice (some ⟨b,o,none⟩) n cap))(B:Nat)(x:Qu)(u0 u1 u2 u3 u4 u5:Value)(hu:xY w b (o+6) u0 u1 u2 u3 u4 u5)(hq:Qm w B x u0 u1 u2 u3 u4 u5)(l:List jQ)(ts:List Rw)(hp:eQ w B cv l)(hr:iQ w B rv ts)
  (kc:Calls prog 79 #[.agg #[cv,rv],.agg #[u0,u1,u2,u3,u4,u5]] w.drew (pX w.drew xs)) :
  Calls prog 127 #[.int .i64 1,.pointer (some ⟨N,0,none⟩),.pointer (some ⟨N1,0,none⟩)] w (pX w xs):=by
 obtain⟨la,lc,rfl,_⟩:=hp.slice;obtain⟨ra,rc,rfl,_⟩:=hr.slice;obtain⟨kk,kc',kl,kh,ka,kn',kd,kb,km,kp,rfl,rfl,rfl,rfl,rfl,rfl⟩:=hq.shape;obtain⟨c0,c1,c2,c3,c4,c5⟩:=hu;have lN:N<w.heap.size:=clt t0;have lN1:N1<w.heap.size:=clt t5;have lb:b<w.heap.size:=clt c0;have hn1:((1:Int))<(n:Int):=by omega
 have hn2:(0:Int)<=1:=by decide
 clear hp hr hq;go_enter func127,ntmps127;go_wp2
 go_region_held3 (fun w'=>w'.cell? ⟨N,0,none⟩=some (.slice la l.length lc)/\w'.cell? ⟨N,1,none⟩=some (.slice ra ts.length rc)/\w'.cell? ⟨N1,5,none⟩=some (.slice (some ⟨b,o,none⟩) n cap)/\w'.cell? ⟨b,o+6,none⟩=some (.int .i64 kk)/\w'.cell? ⟨b,o+6+1,none⟩=some (.string kc')/\w'.cell? ⟨b,o+6+2,none⟩=some (.int .i64 kl)/\w'.cell? ⟨b,o+6+3,none⟩=some (.int .i64 kh)/\w'.cell? ⟨b,o+6+4,none⟩=some (.slice ka kn' kd)/\w'.cell? ⟨b,o+6+5,none⟩=some (.slice kb km kp)) (first|assumption|(simp[go_sem, *];done)) ((go_at_call 79;refine kc.mono ?_;rintro x3 w3 hA;obtain⟨g3,c3',rfl,hA3,hb3⟩:=hA;have z0:=(hb3.cell (p:=⟨N,0,none⟩) lN).trans t0;have z1:=(hb3.cell (p:=⟨N,1,none⟩) lN).trans t1;have z2:=(hb3.cell (p:=⟨N1,5,none⟩) lN1).trans t5;have y0:=(hb3.cell (p:=⟨b,o+6,none⟩) lb).trans c0;have y1:=(hb3.cell (p:=⟨b,o+6+1,none⟩) lb).trans c1;have y2:=(hb3.cell (p:=⟨b,o+6+2,none⟩) lb).trans c2;have y3:=(hb3.cell (p:=⟨b,o+6+3,none⟩) lb).trans c3;have y4:=(hb3.cell (p:=⟨b,o+6+4,none⟩) lb).trans c4;have y5:=(hb3.cell (p:=⟨b,o+6+5,none⟩) lb).trans c5))
 go_wp2;go_ret;exact acX ⟨g3,c3',rfl,hA3,hb3⟩
theorem cU {a b c:World}{r:Option Nat}(h:a.grownBy b r)(k:b.grownBy c r):a.grownBy c r :=
 ⟨k.os.trans h.os,k.tape.trans h.tape,k.output.trans h.output,uQ h.size k.size,fun i hi hr=>(k.block i (qX hi h.size) hr).trans (h.block i hi hr)⟩
theorem fJ {a b:World}{r:Option Nat}(h:a.grownBy b r):a.grownBy b.drew r:=⟨h.os,h.tape,h.output,h.size,h.block⟩
theorem sQ {a b:World}{E:Nat}(h:a.grownBy b (some E))(k:Nat)(u:Value):a.grownBy (b.setCell ⟨E,k,none⟩ u) (some E) :=
 cU h ⟨rfl,rfl,rfl,by simp[World.setCell],fun i _ hr=>xL _ _ _ _ (by intro e;exact hr (by rw[e]))⟩
theorem iD {a b:World}{E B:Nat}(h:a.grownBy b (some E))(hB:B<=E)(hE:B<=a.heap.size):Below B a b:=⟨h.os,h.tape,h.output,h.size,fun k hk=>h.block k (by omega) (by simp;omega)⟩
theorem cgJ (w:World)(B:Nat):eQ w B (.slice none 0 0) []:=⟨none,0,rfl,vQ _,by simp,by simp,fun h=>absurd rfl h⟩
