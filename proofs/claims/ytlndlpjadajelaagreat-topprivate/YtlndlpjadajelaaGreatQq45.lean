import Derived.Test.YtlndlpjadajelaaGreatQq44
import Derived.Test.YtlndlpjadajelaaGreatQq18
import Derived.Test.YtlndlpjadajelaaGreatQq11
import Derived.Test.YtlndlpjadajelaaGreatQq06
import Derived.Test.YtlndlpjadajelaaGreatQq23
import Derived.Test.YtlndlpjadajelaaGreatQq29
import Derived.Test.YtlndlpjadajelaaGreatQq42
import Derived.Test.YtlndlpjadajelaaGreatQq32
import Derived.Test.YtlndlpjadajelaaGreatQq16
import Derived.ChangeSame
namespace Go.Proofs.YtlndlpjadajelaaGreat
open Go.RowKit Go.Proofs.YtlndlpjadajelaaGreat.Ds
theorem talive_any (w:World):Calls Tryz.prog 16 #[] w fun e w'=>e=.returned (.bool true)∧Below w.heap.size w w':=by
 have kc:=K.P.make_any 2 4 1 2 0 (by decide) (by decide) (by decide +kernel) w
 go_enter Tryz.func16,Tryz.ntmps16
 go_wp2_with fail
 refine kc.mono ?_
 rintro e1 w1 ⟨rfl,hb1⟩
 clear kc
 go_wp2
 go_ret
 exact ⟨rfl,bal hb1 _⟩
theorem apaE_ok' {a b:List K.Ds.Col} {ra rb:List (List Int)} (h:K.Ds.apaE a b ra rb=0):K.Ds.wroE a ra=0∧K.Ds.wroE b rb=0∧a=b:=by
 unfold K.Ds.apaE at h
 split at h
 ·split at h
  ·split at h
   ·rename_i h1 h2 h3; exact ⟨h1,h2,h3⟩
   ·cases h
  ·rename_i h1 h2; exact absurd h h2
 ·rename_i h1; exact absurd h h1
theorem part_of {l:List K.Ds.Col} {nm0:ByteArray} {sz0:Int} (hl0:l[0]? = some (nm0,sz0)) {q:K.Ds.Qu} (h:(K.prtV (K.prt l q nm0)).2=0) (hb:∃ b,K.Ds.bnd l 1 q=.ok b) (R:List (List Int)):K.ans l R q=K.ans l (R.filter (isW (K.prtV (K.prt l q nm0)).1)) q:=by
 obtain ⟨b,hb⟩:=hb
 have hf:K.Ds.fnd l nm0=some 0:=by
  cases l with
  | nil=>simp at hl0
  | cons c l=>simp at hl0; subst hl0; simp [K.Ds.fnd]
 have ho:∃ v,K.Ds.onl nm0 q=some v∧(K.prtV (K.prt l q nm0)).1=v:=by
  unfold K.prt K.typ at h ⊢
  by_cases hc:K.Ds.colE l=0
  ·rw [if_pos hc,hb] at h ⊢
   simp only [hf] at h ⊢
   cases hon:K.Ds.onl nm0 q with
   | none=>rw [hon] at h; simp [K.prtV] at h
   | some v =>
    rw [hon] at h
    refine ⟨v,rfl,?_⟩
    by_cases hv:0≤v∧v < K.Ds.szC l 0
    ·simp [hv,K.prtV]
    ·simp [hv,K.prtV] at h
  ·rw [if_neg hc] at h
   simp only [K.prtV] at h
   exact absurd h hc
 obtain ⟨v,ho,hv⟩:=ho
 rw [hv]
 exact K.ans_part hf R q (K.Ds.bnd_wq q 1 b hb) ho
theorem pow_bds {a b n p q:Int} (h:Rt.powT a b n=(p,q,0)):0≤p∧p≤1073741824∧0≤q∧q≤1073741824:=by
 unfold Rt.powT Rt.mx at h
 split at h
 ·rename_i hr
  have hbd:=Rt.right_bd hr
  split at h
  ·simp at h
  ·split at h
   ·simp at h
   ·rename_i h1 h2
    simp only [Prod.mk.injEq] at h
    obtain ⟨rfl,rfl,_⟩:=h
    have i1:=pow_nn (show 0≤a by omega) n.toNat
    have i2:=pow_nn (show 0≤b by omega) n.toNat
    omega
 ·simp at h
structure Tb3 (W:World) (N:Nat) (cu ru cv tv:Value) (u d:Int):Prop where
 s0:K.Cl W N 0 cu
 s1:K.Cl W N 1 ru
 t0:K.Cl W (N + 1) 0 cv
 t1:K.Cl W (N + 1) 1 tv
 r0:K.Cl W (N + 1 + 1) 0 (.int .i64 u)
 r1:K.Cl W (N + 1 + 1) 1 (.int .i64 d)
theorem Tb3.at {W W':World} {N:Nat} {u d:Int} {cu ru cv tv:Value} (h:Tb3 W N cu ru cv tv u d) (hb:Below W.heap.size W W'):Tb3 W' N cu ru cv tv u d :=
 ⟨h.s0.at hb,h.s1.at hb,h.t0.at hb,h.t1.at hb,h.r0.at hb,h.r1.at hb⟩
theorem Tb3.new (w:World) (u d:Int) (cu ru cv tv:Value):Tb3 (((w.alloc (.cells #[cu,ru] 27)).alloc (.cells #[cv,tv] 27)).alloc (.cells #[.int .i64 u,.int .i64 d] 23)) w.heap.size cu ru cv tv u d:=by
 constructor
 all_goals first
  | exact ((K.Cl.new _ 27 _ _ rfl rfl).at (ba _ _)).at (ba _ _)
  | exact (K.Cl.new _ 27 _ _ (by simp) rfl).at (ba _ _)
  | exact K.Cl.new _ 23 _ _ (by simp) rfl
set_option maxHeartbeats 8000000 in
set_option maxRecDepth 100000 in
theorem topPrivate_walk (B:Nat) (cu ru cv tv plv:Value) (bu bd:Int) (l:List K.Ds.Col) (ts:List K.Rw) (m:List K.Ds.Col) (us:List K.Rw) (pl:List K.Tu) (w:World) (hB:B≤w.heap.size) (hp:K.Cols w B cu l) (hr:K.Rws w B ru ts) (hp2:K.Cols w B cv m) (hr2:K.Rws w B tv us) (hpl:K.Pln w B plv pl) (hI:∀ t∈pl,I64 t.lo∧I64 t.hi) :
  Calls Tryz.prog 5 #[.agg #[cu,ru],.agg #[cv,tv],plv,rv bu bd] w fun e w'=>e=.returned (.bool true)∧Below w.heap.size w w':=by
 have HP:Hid (K.Cols w B cu l):=hp
 have HRW:Hid (K.Rws w B ru ts):=hr
 have HP2:Hid (K.Cols w B cv m):=hp2
 have HRW2:Hid (K.Rws w B tv us):=hr2
 have HPL:Hid (K.Pln w B plv pl):=hpl
 have HII:Hid (∀ t∈pl,I64 t.lo∧I64 t.hi):=hI
 have HQN:Hid (∀ t∈pld pl,t.q≠.none):=by
  intro t ht
  obtain ⟨t',ht',rfl⟩:=List.mem_map.1 ht
  obtain ⟨_,_,_,_,_,hi,_⟩:=hpl
  have h:=(hi t' ht').1
  intro e
  simp only at e
  rw [e] at h
  exact h
 obtain ⟨la,lc,rfl,_⟩:=hp.slice
 obtain ⟨ra,rc,rfl,_⟩:=hr.slice
 obtain ⟨ma,mc,rfl,_⟩:=hp2.slice
 obtain ⟨sa,sc,rfl,_⟩:=hr2.slice
 obtain ⟨pa,pc,rfl,_⟩:=hpl.slice
 obtain ⟨X,hX⟩:∃ X,((w.alloc (.cells #[.slice la l.length lc,.slice ra ts.length rc] 27)).alloc (.cells #[.slice ma m.length mc,.slice sa us.length sc] 27)).alloc (.cells #[.int .i64 bu,.int .i64 bd] 23)=X:=⟨_,rfl⟩
 have hb0:Below w.heap.size w X:=hX▸bal (bal (ba _ _) _) _
 have HM0:Hid (Tb3 X w.heap.size (.slice la l.length lc) (.slice ra ts.length rc) (.slice ma m.length mc) (.slice sa us.length sc) bu bd):=hX▸Tb3.new _ _ _ _ _ _ _
 obtain ⟨n,hn⟩:∃ n,K.Ds.apaT l m (K.rr ts) (K.rr us)=n:=⟨_,rfl⟩
 obtain ⟨ea,hea⟩:∃ ea,K.Ds.apaE l m (K.rr ts) (K.rr us)=ea:=⟨_,rfl⟩
 have HNA:Hid (K.Ds.apaT l m (K.rr ts) (K.rr us)=n∧K.Ds.apaE l m (K.rr ts) (K.rr us)=ea):=⟨hn,hea⟩
 have ka:=talive_any X
 clear hp hr hp2 hr2 hpl hI hn hea
 go_enter Tryz.func5,Tryz.ntmps5
 go_wp2_with fail
 refine ka.mono ?_
 rintro e1 w1 ⟨rfl,hb1⟩
 have hbw1:Below w.heap.size w w1:=bt hb0 hb1
 have HM1:Hid (Tb3 w1 w.heap.size (.slice la l.length lc) (.slice ra ts.length rc) (.slice ma m.length mc) (.slice sa us.length sc) bu bd):=HM0.out.at hb1
 clear ka hX HM0 hb0
 have k2:=K.apart_any B _ _ _ _ l m ts us w1 (Nat.le_trans hB hbw1.size) (HP.out.at hB hbw1) (HRW.out.at hB hbw1) (HP2.out.at hB hbw1) (HRW2.out.at hB hbw1) n ea HNA.out.1 HNA.out.2
 have x0:=HM1.out.s0.c
 have x1:=HM1.out.s1.c
 have x2:=HM1.out.t0.c
 have x3:=HM1.out.t1.c
 go_wp2_with fail
 refine k2.mono ?_
 rintro e2 w2 ⟨rfl,hb2⟩
 have hbw2:Below w.heap.size w w2:=bt hbw1 hb2
 have HM2:Hid (Tb3 w2 w.heap.size (.slice la l.length lc) (.slice ra ts.length rc) (.slice ma m.length mc) (.slice sa us.length sc) bu bd):=HM1.out.at hb2
 clear k2 x0 x1 x2 x3 HM1
 by_cases hea:ea=0
 ·subst hea
  by_cases hn3:n > 3
  ·go_wp2
   go_ret
   exact ⟨rfl,hbw2⟩
  ·obtain ⟨ew1,ew2,hlm⟩:=apaE_ok' HNA.out.2
   subst hlm
   have HN:Hid (K.Ds.apaS (K.Ds.celT l (K.rr ts)) (K.Ds.celT l (K.rr us))=n):=by have h:=HNA.out.1; rw [K.Ds.apaT,if_pos HNA.out.2] at h; exact h
   have hce:=(K.Ds.colE_ok (K.Ds.wroE_ok ew1).1).1
   obtain ⟨⟨nm0,sz0⟩,hl0⟩:∃ c,l[0]? = some c:=⟨_,List.getElem?_eq_getElem (by omega)⟩
   obtain ⟨r,hrd⟩:∃ r,K.P.doT [] (K.P.nrm (1,K.P.pN,0,bu,bd))=r:=⟨_,rfl⟩
   have HRD:Hid (K.P.doT [] (K.P.nrm (1,K.P.pN,0,bu,bd))=r):=hrd
   have HW:Hid (K.Ds.wroE l (K.rr ts)=0∧K.Ds.wroE l (K.rr us)=0∧l[0]? = some (nm0,sz0)):=⟨ew1,ew2,hl0⟩
   have k3:=K.P.topened_any bu bd r w2 hrd
   have x4:=HM2.out.r0.c
   have x5:=HM2.out.r1.c
   clear HNA ew1 ew2 hl0 hrd
   go_wp2_with fail
   refine k3.mono ?_
   rintro e3 w3 ⟨pv,rfl,hE3,hb3⟩
   have hbw3:Below w.heap.size w w3:=bt hbw2 hb3
   have HM3:Hid (Tb3 w3 w.heap.size (.slice la l.length lc) (.slice ra ts.length rc) (.slice ma l.length mc) (.slice sa us.length sc) bu bd):=HM2.out.at hb3
   have HE3:Hid (K.P.Ents w3 w3.heap.size pv [(1,K.P.pN,0,bu,bd)]):=hE3
   obtain ⟨qa,qc,rfl,_⟩:=hE3.slice
   clear k3 x4 x5 HM2 hE3
   by_cases hr0:r=0
   ·have hrt:decide (r=0)=true:=by simpa using hr0
    rw [hrt]
    obtain ⟨ra1,hra1⟩:∃ y,talkT l (K.rr ts) (fun q=>K.prtV (K.prt l q nm0)) K.P.pN (pld pl) 3 0 [(1,K.P.pN,0,bu,bd)]=y:=⟨_,rfl⟩
    obtain ⟨rb1,hrb1⟩:∃ y,talkT l (K.rr us) (fun q=>K.prtV (K.prt l q nm0)) K.P.pN (pld pl) 3 0 [(1,K.P.pN,0,bu,bd)]=y:=⟨_,rfl⟩
    have HTK:Hid (talkT l (K.rr ts) (fun q=>K.prtV (K.prt l q nm0)) K.P.pN (pld pl) 3 0 [(1,K.P.pN,0,bu,bd)]=ra1∧talkT l (K.rr us) (fun q=>K.prtV (K.prt l q nm0)) K.P.pN (pld pl) 3 0 [(1,K.P.pN,0,bu,bd)]=rb1):=⟨hra1,hrb1⟩
    have hpb:∀ x∈[((1,K.P.pN,0,bu,bd):K.P.En)],-9223372036854775808≤x.2.2.1∧x.2.2.1≤9223372036854775807:=by intro x hx; simp at hx; subst hx; exact ⟨by show (-9223372036854775808:Int)≤0; decide,by show (0:Int)≤9223372036854775807; decide⟩
    have k4:Calls Tryz.prog 18 #[.agg #[.slice la l.length lc,.slice ra ts.length rc],.slice pa pl.length pc,.int .i64 0,.slice qa 1 qc,.int .i64 3] w3 (TalkP w3 ra1):=talk_any l ts nm0 sz0 HW.out.2.2 pl HII.out 3 0 [(1,K.P.pN,0,bu,bd)] B w3.heap.size _ _ _ _ w3 (Nat.le_trans hB hbw3.size) (Nat.le_refl _) (HP.out.at hB hbw3) (HRW.out.at hB hbw3) (HPL.out.at hB hbw3) HE3.out (by simp) hpb ra1 hra1
    have K5:Hid (∀ V,Below w3.heap.size w3 V→Calls Tryz.prog 18 #[.agg #[.slice ma l.length mc,.slice sa us.length sc],.slice pa pl.length pc,.int .i64 0,.slice qa 1 qc,.int .i64 3] V (TalkP V rb1)):=fun V hV=>talk_any l us nm0 sz0 HW.out.2.2 pl HII.out 3 0 [(1,K.P.pN,0,bu,bd)] B w3.heap.size _ _ _ _ V (Nat.le_trans hB (bt hbw3 hV).size) hV.size (HP2.out.at hB (bt hbw3 hV)) (HRW2.out.at hB (bt hbw3 hV)) (HPL.out.at hB (bt hbw3 hV)) (HE3.out.at (Nat.le_refl _) hV) (by simp) hpb rb1 hrb1
    have x0:=HM3.out.s0.c
    have x1:=HM3.out.s1.c
    clear hra1 hrb1 hpb hrt HE3
    go_wp2_with fail
    refine k4.mono ?_
    rintro e4 w4 ⟨a4,n4,c4,us4,b4,rfl,hb4,hres4⟩
    have hbw4:Below w.heap.size w w4:=bt hbw3 hb4
    have HM4:Hid (Tb3 w4 w.heap.size (.slice la l.length lc) (.slice ra ts.length rc) (.slice ma l.length mc) (.slice sa us.length sc) bu bd):=HM3.out.at hb4
    have k5:=K5.out w4 hb4
    have HR4:Hid ((ra1=none∧b4=false)∨(ra1=some (rd us4)∧b4=true∧Parts w4 w4.heap.size (.slice a4 n4 c4) us4)):=hres4
    clear k4 K5 x0 x1 HM3 hres4
    have x0:=HM4.out.t0.c
    have x1:=HM4.out.t1.c
    go_wp2_with fail
    refine k5.mono ?_
    rintro e5 w5 ⟨a5,n5,c5,us5,b5,rfl,hb5,hres5⟩
    have hbw5:Below w.heap.size w w5:=bt hbw4 hb5
    have HM5:Hid (Tb3 w5 w.heap.size (.slice la l.length lc) (.slice ra ts.length rc) (.slice ma l.length mc) (.slice sa us.length sc) bu bd):=HM4.out.at hb5
    have HR5:Hid ((rb1=none∧b5=false)∨(rb1=some (rd us5)∧b5=true∧Parts w5 w5.heap.size (.slice a5 n5 c5) us5)):=hres5
    clear k5 x0 x1 HM4 hres5
    rcases HR4.out with ⟨_,rfl⟩ | ⟨hs4,rfl,hp4⟩
    ·clear HR4 HR5
     go_wp2
     go_ret
     exact ⟨rfl,hbw5⟩
    ·rcases HR5.out with ⟨_,rfl⟩ | ⟨hs5,rfl,hp5⟩
     ·clear HR4 HR5 hp4
      go_wp2
      go_ret
      exact ⟨rfl,hbw5⟩
     ·obtain ⟨⟨x,y,e⟩,hfar⟩:∃ z,farT (rd us4) (rd us5)=z:=⟨_,rfl⟩
      have k6:=far_any w5.heap.size _ _ us4 us5 w5 (Nat.le_refl _) ((hp4.at (Nat.le_refl _) hb5).mono hb5.size) hp5 x y e hfar
      have hmain:=top_main HW.out.1 HW.out.2.1 HQN.out (fun t ht h1 h2 R=>part_of HW.out.2.2 h1 h2 R) (B:=(bu,bd)) (by rw [HRD.out]; exact hr0) (by rw [HTK.out.1]; exact hs4) (by rw [HTK.out.2]; exact hs5) hfar
      obtain ⟨⟨p,q,e'⟩,hpow⟩:∃ z,Rt.powT bu bd n=z:=⟨_,rfl⟩
      have HMN:Hid ((e=0∨e=4)∧(e=0→e' = 0→x * q≤p * y)):=⟨hmain.1,fun h1 h2=>hmain.2 h1 n HN.out p q (by rw [← h2]; exact hpow)⟩
      have HFR:Hid (farT (rd us4) (rd us5)=(x,y,e)∧Rt.powT bu bd n=(p,q,e')):=⟨hfar,hpow⟩
      obtain ⟨ra',rc',hqe,_⟩:=id hp4
      simp only [Value.slice.injEq] at hqe
      obtain ⟨rfl,rfl,rfl⟩:=hqe
      obtain ⟨ra'',rc'',hqe,_⟩:=id hp5
      simp only [Value.slice.injEq] at hqe
      obtain ⟨rfl,rfl,rfl⟩:=hqe
      clear HR4 HR5 hp4 hp5 hfar hmain hs4 hs5 HTK HRD
      go_wp2_with fail
      refine k6.mono ?_
      rintro e6 w6 ⟨rfl,hb6⟩
      obtain ⟨W7,hW7⟩:∃ W7,w6.alloc (.cells #[.int .i64 x,.int .i64 y] 23)=W7:=⟨_,rfl⟩
      have hb7:Below w6.heap.size w6 W7:=hW7▸ba _ _
      have hbw7:Below w.heap.size w W7:=bt hbw5 (bt hb6 hb7)
      have HM7:Hid (Tb3 W7 w.heap.size (.slice la l.length lc) (.slice ra ts.length rc) (.slice ma l.length mc) (.slice sa us.length sc) bu bd):=HM5.out.at (bt hb6 hb7)
      have F7:Hid (K.Cl W7 w6.heap.size 0 (.int .i64 x)∧K.Cl W7 w6.heap.size 1 (.int .i64 y)):=⟨hW7▸K.Cl.new _ 23 _ _ rfl rfl,hW7▸K.Cl.new _ 23 _ _ rfl rfl⟩
      have k8:=refPower_any bu bd n p q e' hpow W7
      have x0:=HM7.out.r0.c
      have x1:=HM7.out.r1.c
      clear k6 hpow HM5
      go_wp2_with fail
      refine k8.mono ?_
      rintro e8 w8 ⟨rfl,hb8⟩
      clear k8 x0 x1 hW7
      obtain ⟨W9,hW9⟩:∃ W9,w8.alloc (.cells #[.int .i64 p,.int .i64 q] 23)=W9:=⟨_,rfl⟩
      have hb9:Below w8.heap.size w8 W9:=hW9▸ba _ _
      have hbw9:Below w.heap.size w W9:=bt hbw7 (bt hb8 hb9)
      have F9:Hid (K.Cl W9 w6.heap.size 0 (.int .i64 x)∧K.Cl W9 w6.heap.size 1 (.int .i64 y)):=⟨F7.out.1.at (bt hb8 hb9),F7.out.2.at (bt hb8 hb9)⟩
      have P9:Hid (K.Cl W9 w8.heap.size 0 (.int .i64 p)∧K.Cl W9 w8.heap.size 1 (.int .i64 q)):=⟨hW9▸K.Cl.new _ 23 _ _ rfl rfl,hW9▸K.Cl.new _ 23 _ _ rfl rfl⟩
      have he4:=HMN.out.1
      rcases he4 with rfl | rfl
      ·by_cases he':e' = 0
       ·subst he'
        have hb1:0≤x∧x≤1073741824∧0≤y∧y≤1073741824:=by
         have h:=Rt.right_bd (far_told HFR.out.1).2.2.2.2.2.1
         omega
        have hb2':=pow_bds HFR.out.2
        have k10:=refMost_any x y p q hb1.1 hb1.2.1 hb1.2.2.1 hb1.2.2.2 hb2'.1 hb2'.2.1 hb2'.2.2.1 hb2'.2.2.2 true (decide_eq_true (HMN.out.2 rfl rfl)) W9
        have f0:=F9.out.1.c
        have f1:=F9.out.2.c
        have p0:=P9.out.1.c
        have p1:=P9.out.2.c
        clear hb1 hb2' HMN HFR
        go_wp2_with fail
        refine k10.mono ?_
        rintro e10 w10 ⟨rfl,hb10⟩
        go_wp2
        go_ret
        exact ⟨rfl,bt hbw9 hb10⟩
       ·have h9:(e' != 0)=true:=by simpa using he'
        have h9':(e' == 0)=false:=by simpa using he'
        go_wp2
        go_ret
        exact ⟨rfl,hbw9⟩
      ·go_wp2
       go_ret
       exact ⟨rfl,hbw9⟩
   ·have hrt:decide (r=0)=false:=by simpa using hr0
    rw [hrt]
    go_wp2
    go_ret
    exact ⟨rfl,hbw3⟩
 ·have h9:(ea != 0)=true:=by simpa using hea
  have h9':(ea == 0)=false:=by simpa using hea
  go_wp2
  go_ret
  exact ⟨rfl,hbw2⟩
end Go.Proofs.YtlndlpjadajelaaGreat
namespace Go.Proofs.YtlndlpjadajelaaGreat.K
open Go.ChangeShapes Go.WideShapes Go.ChangeAt Go.RowKit Go.Proofs.YtlndlpjadajelaaGreat.K.Ds Go.Deep
theorem cells113:Tryz.prog.cellsOf 149=2:=by kernel_rfl
theorem cells66:Tryz.prog.cellsOf 94=1:=by kernel_rfl
theorem cells28:Tryz.prog.cellsOf 23=2:=by kernel_rfl
theorem cells68:Tryz.prog.cellsOf 96=11:=by kernel_rfl
theorem field113:∃ f0 f1:Field,Tryz.prog.underlying 149=some (.struct #[f0,f1])∧f0.offset=0∧f1.offset=1∧f0.type=65∧f1.type=3:=by
 refine ⟨_,_,Tryz.underlying149,?_,?_,?_,?_⟩ <;> rfl
theorem field28:∃ f0 f1:Field,Tryz.prog.underlying 23=some (.struct #[f0,f1])∧f0.offset=0∧f1.offset=1∧f0.type=3∧f1.type=3:=by
 refine ⟨_,_,Tryz.underlying23,?_,?_,?_,?_⟩ <;> rfl
theorem field68:∃ f0 f1 f2 f3 f4:Field,Tryz.prog.underlying 96=some (.struct #[f0,f1,f2,f3,f4])∧(f0.offset=0∧f1.offset=6∧f2.offset=8∧f3.offset=9∧f4.offset=10)∧f0.type=31∧f1.type=23∧f2.type=3∧f3.type=3∧f4.type=94:=by
 refine ⟨_,_,_,_,_,Tryz.underlying96,⟨?_,?_,?_,?_,?_⟩,?_,?_,?_,?_,?_⟩ <;> rfl
theorem openS2 {H:Type} {enc:TypeId × Value→H} {P:Program} {w:World} {base:Nat} {spare:Nat→Bool} {held:Bool} {e:TypeId} {f0 f1:Field} {n:Nat} {cs:List Value} {x:DataW H × List MemPlace} (he:P.underlying e=some (.struct #[f0,f1])) (o0:f0.offset=0) (c0:P.cellsOf f0.type=1) (o1:f1.offset=1) (c1:P.cellsOf f1.type=1)
  (hlen:cs.length=2) (h:DataW.trod enc P w base spare held n e cs=some x):∃ v0 v1 y0 y1 k,cs=[v0,v1]∧n=k + 1∧DataW.trod enc P w base spare held k f0.type [v0]=some y0∧DataW.trod enc P w base spare held k f1.type [v1]=some y1:=by
 obtain ⟨xs,k,hk,hxy,_,hxl,hf⟩:=DataW.trod_struct he h
 match xs,hxl,cs,hlen with
 | [y0,y1],_,[v0,v1],_ =>
  have g0:=hf 0 f0 rfl
  have g1:=hf 1 f1 rfl
  simp [o0,o1,c0,c1] at g0 g1
  exact ⟨v0,v1,y0,y1,k,rfl,hk,g0,g1⟩
theorem nexts_of_trod {H:Type} {enc:TypeId × Value→H} {W:World} {n:Nat} {V:Value} {D:DataW H} {P:List MemPlace} (h:DataW.trod enc Tryz.prog W 0 (fun _=>true) true n 94 [V]=some (D,P)) :
  ∃ l:List Nx,Nxs W W.heap.size V l:=by
 obtain ⟨f0,f1,hu,o0,o1,t0,t1⟩:=field113
 rcases open_slice Tryz.underlying94 h with ⟨hcs,_⟩ | ⟨a,len,cap,m,n',D0,P0,hcs,_,hl,hmx,hm,hx,hall⟩
 ·simp at hcs
  subst hcs
  exact ⟨[],none,0,rfl,Nat.le_refl _,by simp,by simp,fun h=>absurd rfl h⟩
 ·simp at hcs
  subst hcs
  simp only [if_true] at hm
  subst hm
  rw [maxLen_eq] at hmx
  have each:∀ i,i < len→∃ q:Nx,Ints W W.heap.size W.heap.size q.1 q.2.1∧W.cell? (a.add (i * 2))=some q.1∧W.cell? (a.add (i * 2 + 1))=some (.int .i64 q.2.2):=by
   intro i hi
   obtain ⟨cs',h1,h2⟩:=hall i (by omega)
   rw [cells113] at h1
   obtain ⟨_,hlen,hcell⟩:=World.cells?_some h1
   obtain ⟨v0,v1,y0,y1,k,rfl,_,g0,g1⟩:=openS2 hu o0 (by rw [t0]; exact cells26) o1 (by rw [t1]; exact cells3) hlen h2
   rw [t0] at g0
   rw [t1] at g1
   have e0:=hcell 0 (by omega)
   have e1:=hcell 1 (by omega)
   rw [add_add] at e0 e1
   obtain ⟨xs,hxs⟩:=ints_of_trod (D:=y0.1) (P:=y0.2) g0
   obtain ⟨k1,d1,_,_⟩:=DataW.trod_int Tryz.underlying3 g1
   simp at d1
   subst d1
   exact ⟨(v0,xs,k1),hxs,by simpa using e0,by simpa using e1⟩
  obtain ⟨q,hq⟩:=choose_lt each
  have hget:∀ i t,((List.range len).map fun i=>q i)[i]? = some t→i < len∧t=q i:=by
   intro i t hi
   have hlt:=(List.getElem?_eq_some_iff.1 hi).1
   simp at hlt
   simp [hlt] at hi
   exact ⟨hlt,hi.symm⟩
  refine ⟨(List.range len).map fun i=>q i,some a,m,by simp,by simp; omega,by simp; omega,fun t ht=>?_,fun hne=>?_⟩
  ·obtain ⟨i,hi,rfl⟩:=List.mem_map.1 ht
   exact (hq i (List.mem_range.1 hi)).1
  ·have hpos:0 < len:=by
    rcases Nat.eq_zero_or_pos len with h0 | h0
    ·subst h0; simp at hne
    ·exact h0
   obtain ⟨b,o,spot⟩:=a
   have h0:=(hq 0 (by omega)).2.1
   have hs:spot=none:=by simpa [Addr.add] using World.cell?_spot h0
   subst hs
   have hlt:b < W.heap.size:=cell_lt (a:=(⟨b,o,none⟩:Addr).add (0 * 2)) h0
   refine ⟨b,o,rfl,hlt,fun i t hi=>?_⟩
   obtain ⟨hi2,rfl⟩:=hget i t hi
   obtain ⟨_,h1,h2⟩:=hq i hi2
   rw [Addr.add_lit] at h1 h2
   exact ⟨h1,by rw [Nat.add_assoc]; exact h2⟩
set_option maxRecDepth 100000 in
theorem turn_of_trod {H:Type} {enc:TypeId × Value→H} {W:World} (n:Nat) (cs:List Value) (x:DataW H × List MemPlace) (hlen:cs.length=11) (h:DataW.trod enc Tryz.prog W 0 (fun _=>true) true n 96 cs=some x) :
  ∃ t:Tu,cs=[t.v0,t.v1,t.v2,t.v3,t.v4,t.v5,.int .i64 t.u,.int .i64 t.d,.int .i64 t.lo,.int .i64 t.hi,t.nv]∧Qm W W.heap.size t.q t.v0 t.v1 t.v2 t.v3 t.v4 t.v5∧Nxs W W.heap.size t.nv t.ns∧I64 t.lo∧I64 t.hi:=by
 obtain ⟨f0,f1,f2,f3,f4,hu,⟨o0,o1,o2,o3,o4⟩,t0,t1,t2,t3,t4⟩:=field68
 obtain ⟨g0',g1',hgu,p0,p1,s0,s1⟩:=field28
 obtain ⟨xs,k,hk,hxy,_,hxl,hf⟩:=DataW.trod_struct hu h
 match xs,hxl,cs,hlen with
 | [y0,y1,y2,y3,y4],_,[v0,v1,v2,v3,v4,v5,v6,v7,v8,v9,v10],_ =>
  have g0:=hf 0 f0 rfl
  have g1:=hf 1 f1 rfl
  have g2:=hf 2 f2 rfl
  have g3:=hf 3 f3 rfl
  have g4:=hf 4 f4 rfl
  rw [t0] at g0
  rw [t1] at g1
  rw [t2] at g2
  rw [t3] at g3
  rw [t4] at g4
  simp [o0,o1,o2,o3,o4,cells6',cells28,cells3,cells66] at g0 g1 g2 g3 g4
  obtain ⟨q,w0,w1,w2,w3,w4,w5,he,hq⟩:=qu_of_trod k _ _ rfl g0
  simp only [List.cons.injEq,and_true] at he
  obtain ⟨rfl,rfl,rfl,rfl,rfl,rfl⟩:=he
  obtain ⟨z0,z1,r0,r1,k2,he,_,q0,q1⟩:=openS2 hgu p0 (by rw [s0]; exact cells3) p1 (by rw [s1]; exact cells3) rfl g1
  simp only [List.cons.injEq,and_true] at he
  obtain ⟨rfl,rfl⟩:=he
  rw [s0] at q0
  rw [s1] at q1
  obtain ⟨u,d6,_,_⟩:=DataW.trod_int Tryz.underlying3 q0
  obtain ⟨d,d7,_,_⟩:=DataW.trod_int Tryz.underlying3 q1
  obtain ⟨lo,d8,_,b8⟩:=DataW.trod_int Tryz.underlying3 g2
  obtain ⟨hi,d9,_,b9⟩:=DataW.trod_int Tryz.underlying3 g3
  simp at d6 d7 d8 d9
  subst d6 d7 d8 d9
  obtain ⟨ns,hns⟩:=nexts_of_trod (D:=y4.1) (P:=y4.2) g4
  exact ⟨⟨v0,v1,v2,v3,v4,v5,q,u,d,lo,hi,v10,ns⟩,rfl,hq,hns,bounds_i64 b8,bounds_i64 b9⟩
theorem plan_of_trod {H:Type} {enc:TypeId × Value→H} {W:World} {n:Nat} {V:Value} {D:DataW H} {P:List MemPlace} (h:DataW.trod enc Tryz.prog W 0 (fun _=>true) true n 48 [V]=some (D,P)) :
  ∃ l:List Tu,Pln W W.heap.size V l∧∀ t∈l,I64 t.lo∧I64 t.hi:=by
 rcases open_slice Tryz.underlying48 h with ⟨hcs,_⟩ | ⟨a,len,cap,m,n',D0,P0,hcs,_,hl,hmx,hm,hx,hall⟩
 ·simp at hcs
  subst hcs
  exact ⟨[],⟨none,0,rfl,Nat.le_refl _,by simp,by simp,fun h=>absurd rfl h⟩,by simp⟩
 ·simp at hcs
  subst hcs
  simp only [if_true] at hm
  subst hm
  rw [maxLen_eq] at hmx
  have each:∀ i,i < len→∃ t:Tu,(∀ j u,[t.v0,t.v1,t.v2,t.v3,t.v4,t.v5,.int .i64 t.u,.int .i64 t.d,.int .i64 t.lo,.int .i64 t.hi,t.nv][j]? = some u→W.cell? (a.add (i * 11 + j))=some u)∧Qm W W.heap.size t.q t.v0 t.v1 t.v2 t.v3 t.v4 t.v5∧Nxs W W.heap.size t.nv t.ns∧I64 t.lo∧I64 t.hi:=by
   intro i hi
   obtain ⟨cs',h1,h2⟩:=hall i (by omega)
   rw [cells68] at h1
   obtain ⟨_,hlen,hcell⟩:=World.cells?_some h1
   obtain ⟨t,rfl,ht⟩:=turn_of_trod _ cs' _ hlen h2
   refine ⟨t,fun j u hj=>?_,ht⟩
   have hj6:j < 11:=by have:=(List.getElem?_eq_some_iff.1 hj).1; simpa using this
   have:=hcell j hj6
   rw [add_add,hj] at this
   exact this
  haveI:Inhabited Tu:=⟨⟨.bool false,.bool false,.bool false,.bool false,.bool false,.bool false,.none,0,0,0,0,.bool false,[]⟩⟩
  obtain ⟨q,hq⟩:=choose_lt each
  have hget:∀ i t,((List.range len).map fun i=>q i)[i]? = some t→i < len∧t=q i:=by
   intro i t hi
   have hlt:=(List.getElem?_eq_some_iff.1 hi).1
   simp at hlt
   simp [hlt] at hi
   exact ⟨hlt,hi.symm⟩
  refine ⟨(List.range len).map fun i=>q i,⟨some a,m,by simp,by simp; omega,by simp; omega,fun t ht=>?_,fun hne=>?_⟩,fun t ht=>?_⟩
  ·obtain ⟨i,hi,rfl⟩:=List.mem_map.1 ht
   exact ⟨(hq i (List.mem_range.1 hi)).2.1,(hq i (List.mem_range.1 hi)).2.2.1⟩
  ·have hpos:0 < len:=by
    rcases Nat.eq_zero_or_pos len with h0 | h0
    ·subst h0; simp at hne
    ·exact h0
   obtain ⟨b,o,spot⟩:=a
   have h0:=(hq 0 (by omega)).1 0 _ rfl
   have hs:spot=none:=by simpa [Addr.add] using World.cell?_spot h0
   subst hs
   have hlt:b < W.heap.size:=cell_lt (a:=(⟨b,o,none⟩:Addr).add (0 * 11 + 0)) h0
   refine ⟨b,o,rfl,hlt,fun i t hi=>?_⟩
   obtain ⟨hi2,rfl⟩:=hget i t hi
   have hc:=(hq i hi2).1
   have w0:=hc 0 _ rfl
   have w1:=hc 1 _ rfl
   have w2:=hc 2 _ rfl
   have w3:=hc 3 _ rfl
   have w4:=hc 4 _ rfl
   have w5:=hc 5 _ rfl
   have w6:=hc 6 _ rfl
   have w7:=hc 7 _ rfl
   have w8:=hc 8 _ rfl
   have w9:=hc 9 _ rfl
   have w10:=hc 10 _ rfl
   rw [Addr.add_lit] at w0 w1 w2 w3 w4 w5 w6 w7 w8 w9 w10
   exact ⟨⟨by simpa using w0,by rw [Nat.add_assoc]; exact w1,by rw [Nat.add_assoc]; exact w2,by rw [Nat.add_assoc]; exact w3,by rw [Nat.add_assoc]; exact w4,by rw [Nat.add_assoc]; exact w5⟩,by rw [Nat.add_assoc]; exact w6,by rw [Nat.add_assoc]; exact w7,by rw [Nat.add_assoc]; exact w8,by rw [Nat.add_assoc]; exact w9,by rw [Nat.add_assoc]; exact w10⟩
  ·obtain ⟨i,hi,rfl⟩:=List.mem_map.1 ht
   exact ⟨(hq i (List.mem_range.1 hi)).2.2.2.1,(hq i (List.mem_range.1 hi)).2.2.2.2⟩
end Go.Proofs.YtlndlpjadajelaaGreat.K
