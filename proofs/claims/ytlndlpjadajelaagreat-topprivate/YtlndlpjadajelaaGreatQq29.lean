import Derived.Test.YtlndlpjadajelaaGreatQq25
import Derived.Test.YtlndlpjadajelaaGreatQq28
import Derived.Test.YtlndlpjadajelaaGreatQq22
import Derived.Test.YtlndlpjadajelaaGreatQq27
import Derived.Deep.SlicePairs
import Derived.Deep.Slices
import Derived.ProofKit
import Derived.OpenShut
import Derived.Lib.SmallJoins
import Derived.Carry
import Derived.Test.YtlndlpjadajelaaGreatQq20
namespace Go.Proofs.YtlndlpjadajelaaGreat.K.Ds
def fst:List Tst→ByteArray→Option Int
 | [],_=>none
 | t :: r,s=>if t.1=s∧t.2.1=1 then some t.2.2 else fst r s
theorem fst_step {wh:List Tst} {i:Nat} {t:Tst} {s:ByteArray} (h:wh[i]? = some t):fst (wh.drop i) s=if t.1=s∧t.2.1=1 then some t.2.2 else fst (wh.drop (i + 1)) s:=by
 rw [List.drop_eq_getElem_cons (List.getElem?_eq_some_iff.1 h).1,(List.getElem?_eq_some_iff.1 h).2]
 rfl
def onl (s:ByteArray):Qu→Option Int
 | .none=>none
 | .node _ _ _ _ wh n x y=>if n=0 then fst wh s else match onl s x with
  | none=>none
  | some v=>if n=2 then (match onl s y with | none=>none | some u=>if u=v then some v else none) else some v
def Wq:Qu→Prop
 | .none=>True
 | .node k _ _ _ _ n x y=>(n:Int)=kidN k∧n≤2∧(1≤n→Wq x)∧(2≤n→Wq y)
theorem bnd_wq {l:List Col} (q:Qu):∀ (lv:Nat) (b:Bnd),bnd l lv q=.ok b→Wq q:=by
 induction q with
 | none=>intro lv b h; trivial
 | node k c lo hi wh n x y ihx ihy =>
  intro lv b h
  simp only [bnd] at h
  split at h
  ·cases h
  ·split at h
   ·cases h
   ·split at h
    ·rename_i hk
     have hn2:n≤2:=by have:=hk; unfold kidN at this; repeat' split at this; all_goals omega
     split at h
     ·cases h
     ·rename_i bx hbx
      split at h
      ·cases h
      ·rename_i b' hby
       refine ⟨hk,hn2,fun g=>?_,fun g=>?_⟩
       ·rw [ifK,if_pos g] at hbx; exact ihx _ _ hbx
       ·rw [ifK,if_pos g] at hby; exact ihy _ _ hby
    ·cases h
end Go.Proofs.YtlndlpjadajelaaGreat.K.Ds
namespace Go.Proofs.YtlndlpjadajelaaGreat.K
open Go.RowKit Go.Proofs.YtlndlpjadajelaaGreat.K.Ds
def endI:Option Int→Ending
 | some v=>.returned (.int .i64 v)
 | none=>.panicked (chn 6)
set_option maxHeartbeats 1000000 in
set_option maxRecDepth 100000 in
theorem first_any (B:Nat) (v:Value) (wh:List Tst) (s:ByteArray) (w:World) (hB:B≤w.heap.size) (hq:Tss w B v wh) (r:Option Int) (hr:fst wh s=r) :
  Calls Tryz.prog 200 #[v,.string s] w fun e w'=>e=endI r∧Below w.heap.size w w':=by
 have HQ:Hid (Tss w B v wh):=hq
 have HR:Hid (fst wh s=r):=hr
 obtain ⟨a,c,rfl,hc,hl⟩:=hq.slice
 clear hr
 go_enter Tryz.func200,Tryz.ntmps200
 go_wp2
 go_loopw [9] (fun s' wr=>∃ (i:Nat),s' = .int .i64 (i:Int)∧i≤wh.length∧Hid (fst (wh.drop i) s=r)∧Below w.heap.size w wr) (fun s' _=>wh.length - (intOf s').toNat)
 case atStart=>exact ⟨0,rfl,Nat.zero_le _,by simpa [Hid] using HR.out,Below.refl _ _⟩
 case round =>
  obtain ⟨i,rfl,hi,HI,hbl⟩:=hrel
  by_cases h1:i < wh.length
  ·obtain ⟨b,o,nm,d,z,rfl,hb,hgt,c1,c2,c3,hn⟩:=HQ.out.get hB hbl h1
   have HST:Hid (fst (wh.drop i) s=if nm=s∧d=1 then some z else fst (wh.drop (i + 1)) s):=fst_step hgt
   clear hgt
   have hq:=str_eq nm s
   by_cases g1:nm=s
   ·have g1':(nm.toList == s.toList)=true:=by rw [hq]; simp [g1]
    by_cases g2:d=1
    ·obtain rfl:some z=r:=by rw [← HI.out,HST.out,if_pos ⟨g1,g2⟩]
     subst g2
     clear hq g1
     go_wp2
     go_ret
     exact ⟨rfl,bal hbl _⟩
    ·have g2':(d == 1)=false:=by simpa using g2
     have HI2:Hid (fst (wh.drop (i + 1)) s=r):=by have:=HI.out; rwa [HST.out,if_neg (fun h=>g2 h.2)] at this
     clear hq g1
     go_wp2
     go_roundw
     case rel=>exact ⟨i + 1,by go_num,h1,HI2,bal hbl _⟩
     case measure=>simp [intOf]; omega
   ·have g1':(nm.toList == s.toList)=false:=by rw [hq]; simp [g1]
    have HI2:Hid (fst (wh.drop (i + 1)) s=r):=by have:=HI.out; rwa [HST.out,if_neg (fun h=>g1 h.1)] at this
    clear hq g1
    go_wp2
    go_roundw
    case rel=>exact ⟨i + 1,by go_num,h1,HI2,bal hbl _⟩
    case measure=>simp [intOf]; omega
  ·obtain rfl:none=r:=by have:=HI.out; rw [List.drop_of_length_le (by omega)] at this; exact this
   go_wp2
   exact ⟨rfl,rfl,hbl⟩
set_option maxHeartbeats 2000000 in
set_option maxRecDepth 100000 in
theorem only_any (s:ByteArray) (q:Qu):∀ (w:World) (B:Nat) (v0 v1 v2 v3 v4 v5:Value) (r:Option Int),B≤w.heap.size→Qm w B q v0 v1 v2 v3 v4 v5→Wq q→onl s q=r →
  Calls Tryz.prog 160 #[.agg #[v0,v1,v2,v3,v4,v5],.string s] w fun e w'=>e=endI r∧Below w.heap.size w w':=by
 induction q with
 | none=>intro w B v0 v1 v2 v3 v4 v5 r _ h; exact h.elim
 | node k c lo hi wh n x y ihx ihy =>
  rintro w B _ _ _ _ v4 _ r hB ⟨rfl,rfl,rfl,rfl,hc,hw,a,cap,rfl,hn,hm,hk⟩ ⟨hkn,hn2,wx,wy⟩ hr
  have HW:Hid (Tss w B v4 wh):=hw
  have HR:Hid (onl s (.node k c lo hi wh n x y)=r):=hr
  have HK:Hid (1≤n→n≤2→∃ b o,a=some ⟨b,o,none⟩∧b < B∧(∃ u0 u1 u2 u3 u4 u5,At6 w b o u0 u1 u2 u3 u4 u5∧Qm w B x u0 u1 u2 u3 u4 u5) ∧
    (2≤n→∃ u0 u1 u2 u3 u4 u5,At6 w b (o + 6) u0 u1 u2 u3 u4 u5∧Qm w B y u0 u1 u2 u3 u4 u5)):=hk
  have HWX:Hid (1≤n→Wq x):=wx
  have HWY:Hid (2≤n→Wq y):=wy
  obtain ⟨wa,wc,rfl,_⟩:=hw.slice
  clear hk hr hw wx wy hkn
  have hb0:=ba w (.cells #[.int .i64 k,.string c,.int .i64 lo,.int .i64 hi,.slice wa wh.length wc,.slice a n cap] 31)
  go_enter Tryz.func160,Tryz.ntmps160
  by_cases h0:n=0
  ·subst h0
   have k1:=first_any B (.slice wa wh.length wc) wh s _ (Nat.le_trans hB hb0.size) (HW.out.at hB hb0) r (by have:=HR.out; rwa [onl,if_pos rfl] at this)
   go_wp2_with fail
   refine k1.mono ?_
   rintro e w1 ⟨he,hb1⟩
   clear k1
   have hbw:Below w.heap.size w w1:=bt hb0 hb1
   cases r with
   | none =>
    obtain rfl:e=.panicked (chn 6):=he
    go_wp2
    exact ⟨rfl,rfl,hbw⟩
   | some v =>
    obtain rfl:e=.returned (.int .i64 v):=he
    go_wp2
    go_ret
    exact ⟨rfl,hbw⟩
  have hq0:((n:Int) == 0)=false:=by rw [beq_eq_false_iff_ne]; omega
  obtain ⟨b,o,rfl,hbB,⟨u0,u1,u2,u3,u4,u5,hu,hqm⟩,hk2⟩:=HK.out (by omega) hn2
  have HK2:Hid (2≤n→∃ u0 u1 u2 u3 u4 u5,At6 w b (o + 6) u0 u1 u2 u3 u4 u5∧Qm w B y u0 u1 u2 u3 u4 u5):=hk2
  obtain ⟨kk,kc,kl,kh,ka,kn',kd,kb,km,kp,rfl,rfl,rfl,rfl,rfl,rfl⟩:=hqm.shape
  obtain ⟨c0,c1,c2,c3,c4,c5⟩:=hu.keep hb0 (Nat.lt_of_lt_of_le hbB hB)
  obtain ⟨r1,hr1⟩:∃ r1,onl s x=r1:=⟨_,rfl⟩
  have k2:=ihx _ B _ _ _ _ _ _ r1 (Nat.le_trans hB hb0.size) (hqm.at hB hb0) (HWX.out (by omega)) hr1
  have HR1:Hid (onl s x=r1):=hr1
  clear hr1 hqm hu hk2 HK
  have hb1c:b < w.heap.size:=Nat.lt_of_lt_of_le hbB hB
  go_wp2_with fail
  refine k2.mono ?_
  rintro e w1 ⟨he,hb1⟩
  clear k2 c0 c1 c2 c3 c4 c5
  have hbw:Below w.heap.size w w1:=bt hb0 hb1
  have bx:=(Bx.new w w.heap.size rfl (.int .i64 k) (.string c) (.int .i64 lo) (.int .i64 hi) (.slice wa wh.length wc) (.slice (some ⟨b,o,none⟩) n cap)).at hb1
  have t5:=bx.a5.c
  clear bx hb0 hb1
  cases r1 with
  | none =>
   obtain rfl:none=r:=by rw [← HR.out,onl,if_neg h0,HR1.out]
   obtain rfl:e=.panicked (chn 6):=he
   go_wp2
   exact ⟨rfl,rfl,hbw⟩
  | some v =>
   obtain rfl:e=.returned (.int .i64 v):=he
   have HR2:Hid ((if n=2 then (match onl s y with | none=>none | some u=>if u=v then some v else none) else some v)=r):=by have:=HR.out; rw [onl,if_neg h0,HR1.out] at this; exact this
   clear HR HR1
   rcases (show n=1∨n=2 by omega) with rfl | rfl
   ·obtain rfl:some v=r:=HR2.out
    by_cases hcap:cap=1
    ·subst hcap
     go_wp2
     go_loopw [26] (fun s' wr=>s' = .int .i64 0∧wr=w1) (fun _ _=>0)
     case atStart=>exact ⟨rfl,rfl⟩
     case round =>
      obtain ⟨rfl,rfl⟩:=hrel
      go_wp2
      go_ret
      exact ⟨rfl,hbw⟩
    ·
     go_wp2
     go_loopw [26] (fun s' wr=>s' = .int .i64 0∧wr=w1) (fun _ _=>0)
     case atStart=>exact ⟨rfl,rfl⟩
     case round =>
      obtain ⟨rfl,rfl⟩:=hrel
      go_wp2
      go_ret
      exact ⟨rfl,hbw⟩
   ·obtain ⟨u0,u1,u2,u3,u4,u5,hu,hqm⟩:=HK2.out (by omega)
    obtain ⟨jk,jc,jl,jh,ja,jn',jd,jb,jm,jp,rfl,rfl,rfl,rfl,rfl,rfl⟩:=hqm.shape
    have HU:Hid (At6 w b (o + 6) (.int .i64 jk) (.string jc) (.int .i64 jl) (.int .i64 jh) (.slice ja jn' jd) (.slice jb jm jp)):=hu
    have HQM:Hid (Qm w B y (.int .i64 jk) (.string jc) (.int .i64 jl) (.int .i64 jh) (.slice ja jn' jd) (.slice jb jm jp)):=hqm
    clear hu hqm HK2
    have hcap:¬ cap=1:=by omega
    have hcap2:1≤cap:=by omega
    have HR3:Hid ((match onl s y with | none=>none | some u=>if u=v then some v else none)=r):=HR2.out
    clear HR2
    go_wp2
    go_loopw [26] (fun s' wr=>∃ i:Nat,s' = .int .i64 (i:Int)∧i≤1∧Hid (i=1→r=some v)∧Below w.heap.size w wr) (fun s' _=>1 - (intOf s').toNat)
    case atStart=>exact ⟨0,rfl,by decide,fun h=>absurd h (by decide),hbw⟩
    case round =>
     obtain ⟨i,rfl,hi1,HI,hbr⟩:=hrel
     rcases (show i=0∨i=1 by omega) with rfl | rfl
     ·obtain ⟨c0,c1,c2,c3,c4,c5⟩:=HU.out.keep hbr (Nat.lt_of_lt_of_le hbB hB)
      obtain ⟨r1,hr1⟩:∃ r1,onl s y=r1:=⟨_,rfl⟩
      have hszr:=hbr.size
      have k2:=ihy (wr.alloc (.cells #[.int .i64 jk,.string jc,.int .i64 jl,.int .i64 jh,.slice ja jn' jd,.slice jb jm jp] 31)) B _ _ _ _ _ _ r1 (by simp; omega) ((HQM.out.at hB hbr).at (by omega) (ba _ _)) (HWY.out (by decide)) hr1
      have HR1:Hid (onl s y=r1):=hr1
      clear hr1 t5
      go_wp2_with fail
      refine k2.mono ?_
      rintro e w2 ⟨he,hb2⟩
      clear k2 c0 c1 c2 c3 c4 c5
      have hbw2:Below w.heap.size w w2:=bt (bal hbr _) hb2
      cases r1 with
      | none =>
       obtain rfl:none=r:=by rw [← HR3.out,HR1.out]
       obtain rfl:e=.panicked (chn 6):=he
       go_wp2
       exact ⟨rfl,rfl,hbw2⟩
      | some u =>
       obtain rfl:e=.returned (.int .i64 u):=he
       by_cases huv:u=v
       ·have HI2:Hid (r=some v):=by show _=_; rw [← HR3.out,HR1.out]; simp [huv]
        subst huv
        go_wp2_with fail
        refine (must_ok 6 _).mono ?_
        rintro e w3 ⟨rfl,rfl⟩
        go_wp2
        go_roundw
        case rel=>exact ⟨1,rfl,by decide,fun _=>HI2.out,hbw2⟩
        case measure=>simp [intOf]
       ·obtain rfl:none=r:=by rw [← HR3.out,HR1.out]; simp [huv]
        have hq':(u == v)=false:=by simpa using huv
        go_wp2_with fail
        refine (must_no 6 _).mono ?_
        rintro e w3 ⟨rfl,rfl⟩
        go_wp2
        exact ⟨rfl,rfl,hbw2⟩
     ·obtain rfl:r=some v:=HI.out rfl
      go_wp2
      go_ret
      exact ⟨rfl,hbr⟩
end Go.Proofs.YtlndlpjadajelaaGreat.K
namespace Go.Proofs.YtlndlpjadajelaaGreat.K
open Go.RowKit Go.Proofs.YtlndlpjadajelaaGreat.K.Ds
def prt (l:List Col) (q:Qu) (s:ByteArray):Except Int Int :=
 match typ l q with
 | .error e=>.error e
 | .ok _=>match fnd l s with
  | none=>.error 7
  | some i=>match onl s q with
   | none=>.error 6
   | some v=>if 0≤v∧v < szC l i then .ok v else .error 6
def endN:Except Int Int→Ending
 | .error e=>.panicked (chn e)
 | .ok v=>.returned (.int .i64 v)
set_option maxHeartbeats 2000000 in
set_option maxRecDepth 100000 in
theorem part1_any (l:List Col) (q:Qu) (s:ByteArray) (w:World) (B L N S:Nat) (lv v0 v1 v2 v3 v4 v5:Value) (r:Except Int Int) (hB:B≤w.heap.size) (hp:Cols w B lv l) (hq:Qm w B q v0 v1 v2 v3 v4 v5) (hr:prt l q s=r) (hL:Cl w L 0 lv) (hN:Bx w N v0 v1 v2 v3 v4 v5) (hS:Cl w S 0 (.string s)) :
  Calls Tryz.prog 159 #[.pointer (some ⟨L,0,none⟩),.pointer (some ⟨N,0,none⟩),.pointer (some ⟨S,0,none⟩)] w fun e w'=>e=endN r∧Below w.heap.size w w':=by
 have HP:Hid (Cols w B lv l):=hp
 have HQ:Hid (Qm w B q v0 v1 v2 v3 v4 v5):=hq
 have HR:Hid (prt l q s=r):=hr
 obtain ⟨la,lc,rfl,hlc,hll⟩:=hp.slice
 obtain ⟨kk,kc,kl,kh,ka,kn',kd,kb,km,kp,rfl,rfl,rfl,rfl,rfl,rfl⟩:=hq.shape
 have HL:Hid (Cl w L 0 (.slice la l.length lc)):=hL
 have HN:Hid (Bx w N (.int .i64 kk) (.string kc) (.int .i64 kl) (.int .i64 kh) (.slice ka kn' kd) (.slice kb km kp)):=hN
 have HS:Hid (Cl w S 0 (.string s)):=hS
 obtain ⟨r1,hr1⟩:∃ r1,typ l q=r1:=⟨_,rfl⟩
 have k1:=typed_any l q w B _ _ _ _ _ _ _ r1 hB hp hq hr1
 have HT:Hid (typ l q=r1):=hr1
 have m0:=hN.a0.c
 have m1:=hN.a1.c
 have m2:=hN.a2.c
 have m3:=hN.a3.c
 have m4:=hN.a4.c
 have m5:=hN.a5.c
 have m6:=hL.c
 have m7:=hS.c
 clear hp hq hr hL hN hS hr1
 go_enter Tryz.func159,Tryz.ntmps159
 go_wp2_with fail
 refine k1.mono ?_
 rintro e w1 ⟨he,hb1⟩
 clear k1 m0 m1 m2 m3 m4 m5 m6 m7
 cases r1 with
 | error er =>
  obtain rfl:Except.error er=r:=by rw [← HR.out,prt,HT.out]
  obtain rfl:e=.panicked (chn er):=he
  go_wp2
  exact ⟨rfl,rfl,hb1⟩
 | ok bb =>
  obtain ⟨b1,b2,b3⟩:=bb
  obtain rfl:e=.returned (.agg #[.int .i64 b1,.int .i64 b2,.int .i64 b3]):=he
  obtain ⟨hce,hbd⟩:=typ_ok HT.out
  have HWQ:Hid (Wq q):=bnd_wq q _ _ hbd
  clear hce hbd
  have hs1:=hb1.size
  have HR1:Hid ((match fnd l s with
   | none=>.error 7
   | some i=>match onl s q with
    | none=>.error 6
    | some v=>if 0≤v∧v < szC l i then .ok v else .error 6)=r):=by have:=HR.out; rw [prt,HT.out] at this; exact this
  clear HR HT
  have m6:=(HL.out.at hb1).c
  have m7:=(HS.out.at hb1).c
  cases hf:fnd l s with
  | none =>
   have k2:=find_no B _ l s w1 (by omega) (HP.out.at hB hb1) hf
   rw [hf] at HR1
   obtain rfl:Except.error 7=r:=HR1.out
   clear hf
   go_wp2_with fail
   refine k2.mono ?_
   rintro e w2 ⟨rfl,hb2⟩
   have hbw:=bt hb1 hb2
   go_wp2
   exact ⟨rfl,rfl,hbw⟩
  | some i =>
   have k2:=find_ok B _ l s w1 (by omega) (HP.out.at hB hb1) i hf
   rw [hf] at HR1
   have hil:=fnd_lt hf
   clear hf
   go_wp2_with fail
   refine k2.mono ?_
   rintro e w2 ⟨rfl,hb2⟩
   clear k2 m6 m7
   have hbw:=bt hb1 hb2
   have hs2:=hbw.size
   obtain ⟨ro,hro⟩:∃ ro,onl s q=ro:=⟨_,rfl⟩
   have k3:=only_any s q w2 B _ _ _ _ _ _ ro (by omega) (HQ.out.at hB hbw) HWQ.out hro
   have HR2:Hid ((match onl s q with
    | none=>.error 6
    | some v=>if 0≤v∧v < szC l i then .ok v else .error 6)=r):=HR1.out
   rw [hro] at HR2
   clear HR1 hro
   have hN2:=HN.out.at hbw
   have m0:=hN2.a0.c
   have m1:=hN2.a1.c
   have m2:=hN2.a2.c
   have m3:=hN2.a3.c
   have m4:=hN2.a4.c
   have m5:=hN2.a5.c
   have m7:=(HS.out.at hbw).c
   clear hN2
   go_wp2_with fail
   refine k3.mono ?_
   rintro e w3 ⟨he,hb3⟩
   clear k3 m0 m1 m2 m3 m4 m5 m7
   have hbw3:=bt hbw hb3
   cases ro with
   | none =>
    obtain rfl:Except.error 6=r:=HR2.out
    obtain rfl:e=.panicked (chn 6):=he
    go_wp2
    exact ⟨rfl,rfl,hbw3⟩
   | some v =>
    obtain rfl:e=.returned (.int .i64 v):=he
    have HR3:Hid ((if 0≤v∧v < szC l i then (.ok v:Except Int Int) else .error 6)=r):=HR2.out
    clear HR2
    have m6:=(HL.out.at hbw3).c
    obtain ⟨b,o,nm,sz,rfl,hb,hgt,c1,c2,hn⟩:=HP.out.get hB hbw3 hil
    have hsz:szC l i=sz:=by simp [szC,hgt]
    rw [hsz] at HR3
    clear hgt hsz
    by_cases h1:0≤v
    ·by_cases h2:v < sz
     ·obtain rfl:Except.ok v=r:=by rw [← HR3.out,if_pos ⟨h1,h2⟩]
      go_wp2_with fail
      refine (must_ok 6 _).mono ?_
      rintro e w4 ⟨rfl,rfl⟩
      go_wp2
      go_ret
      exact ⟨rfl,hbw3⟩
     ·obtain rfl:Except.error 6=r:=by rw [← HR3.out,if_neg (fun h=>h2 h.2)]
      have h3:decide (v < sz)=false:=decide_eq_false h2
      go_wp2_with fail
      refine (must_no 6 _).mono ?_
      rintro e w4 ⟨rfl,rfl⟩
      go_wp2
      exact ⟨rfl,rfl,hbw3⟩
    ·obtain rfl:Except.error 6=r:=by rw [← HR3.out,if_neg (fun h=>h1 h.1)]
     go_wp2_with fail
     refine (must_no 6 _).mono ?_
     rintro e w4 ⟨rfl,rfl⟩
     go_wp2
     exact ⟨rfl,rfl,hbw3⟩
def prtV:Except Int Int→Int × Int
 | .error e=>(0,e)
 | .ok v=>(v,0)
set_option maxHeartbeats 1000000 in
set_option maxRecDepth 100000 in
theorem part_any (l:List Col) (q:Qu) (s:ByteArray) (w:World) (B:Nat) (lv v0 v1 v2 v3 v4 v5:Value) (z er:Int) (hB:B≤w.heap.size) (hp:Cols w B lv l) (hq:Qm w B q v0 v1 v2 v3 v4 v5) (hr:prtV (prt l q s)=(z,er)) :
  Calls Tryz.prog 97 #[lv,.agg #[v0,v1,v2,v3,v4,v5],.string s] w fun e w'=>e=.returned (.tuple #[.int .i64 z,.int .i64 er])∧Below w.heap.size w w':=by
 have hb0:Below w.heap.size w (((w.alloc (.cells #[lv] 24)).alloc (.cells #[v0,v1,v2,v3,v4,v5] 31)).alloc (.cells #[.string s] 9)):=bal (bal (ba _ _) _) _
 have hL:Cl (((w.alloc (.cells #[lv] 24)).alloc (.cells #[v0,v1,v2,v3,v4,v5] 31)).alloc (.cells #[.string s] 9)) w.heap.size 0 lv:=((Cl.new _ 24 _ _ rfl rfl).at (ba _ _)).at (ba _ _)
 have hN:Bx (((w.alloc (.cells #[lv] 24)).alloc (.cells #[v0,v1,v2,v3,v4,v5] 31)).alloc (.cells #[.string s] 9)) (w.heap.size + 1) v0 v1 v2 v3 v4 v5:=(Bx.new _ _ (by simp) _ _ _ _ _ _).at (ba _ _)
 have hS:Cl (((w.alloc (.cells #[lv] 24)).alloc (.cells #[v0,v1,v2,v3,v4,v5] 31)).alloc (.cells #[.string s] 9)) (w.heap.size + 1 + 1) 0 (.string s):=Cl.new _ 9 _ _ (by simp) rfl
 have kc:Calls Tryz.prog 158 #[.func (.func 159) #[] #[.pointer (some ⟨w.heap.size,0,none⟩),.pointer (some ⟨w.heap.size + 1,0,none⟩),.pointer (some ⟨w.heap.size + 1 + 1,0,none⟩)]] (((w.alloc (.cells #[lv] 24)).alloc (.cells #[v0,v1,v2,v3,v4,v5] 31)).alloc (.cells #[.string s] 9)) fun e w'=>e=.returned (.tuple #[.int .i64 z,.int .i64 er])∧Below (((w.alloc (.cells #[lv] 24)).alloc (.cells #[v0,v1,v2,v3,v4,v5] 31)).alloc (.cells #[.string s] 9)).heap.size (((w.alloc (.cells #[lv] 24)).alloc (.cells #[v0,v1,v2,v3,v4,v5] 31)).alloc (.cells #[.string s] 9)) w':=by
  generalize hW:(((w.alloc (.cells #[lv] 24)).alloc (.cells #[v0,v1,v2,v3,v4,v5] 31)).alloc (.cells #[.string s] 9))=W at *
  have inner:∀ r,prt l q s=r→∀ W',Below W.heap.size W W'→W.heap.size + 1≤W'.heap.size→Calls Tryz.prog 159 #[.pointer (some ⟨w.heap.size,0,none⟩),.pointer (some ⟨w.heap.size + 1,0,none⟩),.pointer (some ⟨w.heap.size + 1 + 1,0,none⟩)] W' fun e w'=>e=endN r∧Below W'.heap.size W' w':=by
   intro r hr W' hW' hs
   have hsz:=hb0.size
   exact part1_any l q s W' B _ _ _ lv v0 v1 v2 v3 v4 v5 r (by omega) ((hp.at hB hb0).at (by omega) hW') ((hq.at hB hb0).at (by omega) hW') hr (hL.at hW') (hN.at hW') (hS.at hW')
  cases ht:prt l q s with
  | error e1 =>
   rw [ht] at hr
   simp only [prtV,Prod.mk.injEq] at hr
   obtain ⟨rfl,rfl⟩:=hr
   exact caughtI_no _ e1 W (inner _ ht)
  | ok v =>
   rw [ht] at hr
   simp only [prtV,Prod.mk.injEq] at hr
   obtain ⟨rfl,rfl⟩:=hr
   refine (caughtI_ok _ (fun V _=>V=.int .i64 v) W fun W' h1 h2=>(inner _ ht W' h1 h2).mono fun e w' ⟨he,hb⟩=>⟨_,he,rfl,hb⟩).mono ?_
   rintro e w' ⟨V,w1,rfl,rfl,hb,rfl⟩
   exact ⟨rfl,bs hb (Nat.le_refl _) _⟩
 obtain ⟨la,lc,rfl,_⟩:=hp.slice
 obtain ⟨kk,kc',kl,kh,ka,kn',kd,kb,km,kp,rfl,rfl,rfl,rfl,rfl,rfl⟩:=hq.shape
 have hmf:=hmf
 clear hp hq hr hL hN hS
 go_enter Tryz.func97,Tryz.ntmps97
 go_wp2_with fail
 refine kc.mono ?_
 rintro e w1 ⟨rfl,hb1⟩
 clear kc
 have hbw:Below w.heap.size w w1:=bt hb0 hb1
 go_wp2
 exact bodyPost_ret (v:=.tuple #[.int .i64 z,.int .i64 er]) (by simp [results,Tryz.results97,go_sem]) rfl ⟨rfl,hbw⟩
theorem fst_mem {wh:List Tst} {s:ByteArray} {v:Int} (h:fst wh s=some v):∃ t∈wh,t.1=s∧t.2.1=1∧t.2.2=v:=by
 induction wh with
 | nil=>simp [fst] at h
 | cons t r ih =>
  simp only [fst] at h
  split at h
  ·rename_i hc; cases h; exact ⟨t,List.mem_cons_self ..,hc.1,hc.2,rfl⟩
  ·obtain ⟨t',h1,h2⟩:=ih h; exact ⟨t',List.mem_cons_of_mem _ h1,h2⟩
theorem fold_filter (ps:List (Nat × Int × Int)) (f:List Int→Nat × Int) (P:List Int→Bool) (hP:∀ r,pasB ps r=true→P r=true) (rs:List (List Int)):∀ out,rs.foldl (gst ps f) out=(rs.filter P).foldl (gst ps f) out:=by
 induction rs with
 | nil=>intro out; rfl
 | cons r rs ih =>
  intro out
  by_cases hr:P r=true
  ·rw [List.filter_cons_of_pos hr,List.foldl_cons,List.foldl_cons,ih]
  ·have hp:¬ pasB ps r=true:=fun h=>hr (hP r h)
   rw [List.filter_cons_of_neg hr,List.foldl_cons,ih,gst,if_neg hp]
def isV (i:Nat) (v:Int) (r:List Int):Bool:=r.getD i 0 == v
theorem leaf_isV {l:List Col} {wh:List Tst} {s:ByteArray} {v:Int} {i:Nat} (h:fst wh s=some v) (hf:fnd l s=some i) (r:List Int) (hp:pasB (wh.map (trp l)) r=true):isV i v r=true:=by
 obtain ⟨t,ht,h1,h2,h3⟩:=fst_mem h
 unfold pasB at hp
 have:=List.all_eq_true.1 hp (trp l t) (List.mem_map_of_mem ht)
 simp only [trp,h1,hf,h2,h3,tstB,Option.getD_some] at this
 simpa [isV] using this
theorem ans_part {l:List Col} {s:ByteArray} {v:Int} {i:Nat} (hf:fnd l s=some i) (rs:List (List Int)) (q:Qu):Wq q→onl s q=some v→ans l rs q=ans l (rs.filter (isV i v)) q:=by
 induction q with
 | none=>intro _ _; rfl
 | node k c lo hi wh n x y ihx ihy =>
  rintro ⟨hk,hn2,wx,wy⟩ ho
  simp only [onl] at ho
  have hkc:¬ kidN k < 0:=by omega
  have leaf:k=1∨k=2∨k=3→ans l rs (.node k c lo hi wh n x y)=ans l (rs.filter (isV i v)) (.node k c lo hi wh n x y):=fun h=>by
   have hn:n=0:=by rcases h with rfl | rfl | rfl <;> (simp [kidN] at hk; omega)
   rw [if_pos hn] at ho
   rw [ans_leaf _ _ _ _ _ _ _ _ _ h,ans_leaf _ _ _ _ _ _ _ _ _ h]
   exact fold_filter _ _ _ (fun r hr=>leaf_isV ho hf r hr) rs _
  have one:n=1→ans l rs x=ans l (rs.filter (isV i v)) x:=fun hn=>by
   rw [if_neg (by omega)] at ho
   refine ihx (wx (by omega)) ?_
   cases hx:onl s x with
   | none=>rw [hx] at ho; cases ho
   | some u=>rw [hx] at ho; simp only at ho; rw [if_neg (by omega)] at ho; exact ho
  have two:n=2→ans l rs x=ans l (rs.filter (isV i v)) x∧ans l rs y=ans l (rs.filter (isV i v)) y:=fun hn=>by
   rw [if_neg (by omega)] at ho
   cases hx:onl s x with
   | none=>rw [hx] at ho; cases ho
   | some u =>
    rw [hx] at ho
    simp only at ho
    rw [if_pos hn] at ho
    cases hy:onl s y with
    | none=>rw [hy] at ho; cases ho
    | some u' =>
     rw [hy] at ho
     simp only at ho
     split at ho
     ·rename_i huu
      cases ho
      subst huu
      exact ⟨ihx (wx (by omega)) hx,ihy (wy (by omega)) hy⟩
     ·cases ho
  rcases kidN_cases hkc with rfl | rfl | rfl | rfl | rfl | rfl | rfl | rfl | rfl | rfl
  ·exact leaf (by simp)
  ·exact leaf (by simp)
  ·exact leaf (by simp)
  ·have hn:n=2:=by simp [kidN] at hk; omega
   rw [ans_4,ans_4,(two hn).1,(two hn).2]
  ·have hn:n=2:=by simp [kidN] at hk; omega
   rw [ans_5,ans_5,(two hn).1,(two hn).2]
  ·have hn:n=1:=by simp [kidN] at hk; omega
   rw [ans_6,ans_6,one hn]
  ·have hn:n=2:=by simp [kidN] at hk; omega
   rw [ans_7,ans_7,(two hn).1,(two hn).2]
  ·have hn:n=1:=by simp [kidN] at hk; omega
   rw [ans_8,ans_8,one hn]
  ·have hn:n=1:=by simp [kidN] at hk; omega
   rw [ans_9,ans_9,one hn]
  ·have hn:n=1:=by simp [kidN] at hk; omega
   rw [ans_10,ans_10,one hn]
end Go.Proofs.YtlndlpjadajelaaGreat.K

namespace Go.Proofs.YtlndlpjadajelaaGreat.K
open Go.RowKit Go.Proofs.YtlndlpjadajelaaGreat.K.Ds
end Go.Proofs.YtlndlpjadajelaaGreat.K
namespace Go.Proofs.YtlndlpjadajelaaGreat.K
open Go.ChangeShapes Go.WideShapes Go.ChangeAt Go.RowKit Go.Proofs.YtlndlpjadajelaaGreat.K.Ds Go.Deep
theorem cell_lt {w:World} {a:Addr} {v:Value} (h:w.cell? a=some v):a.block < w.heap.size:=by
 unfold World.cell? at h
 split at h
 ·rename_i hb; exact (Array.getElem?_eq_some_iff.1 hb).1
 ·cases h
theorem cells3:Tryz.prog.cellsOf 3=1:=by kernel_rfl
theorem cells9:Tryz.prog.cellsOf 9=1:=by kernel_rfl
theorem cells26:Tryz.prog.cellsOf 65=1:=by kernel_rfl
theorem cells47:Tryz.prog.cellsOf 74=2:=by kernel_rfl
theorem cells25:Tryz.prog.cellsOf 27=2:=by kernel_rfl
theorem maxLen_eq:maxLen=9223372036854775807:=by decide
theorem ints_of_trod {H:Type} {enc:TypeId × Value→H} {W:World} {n:Nat} {V:Value} {D:DataW H} {P:List MemPlace} (h:DataW.trod enc Tryz.prog W 0 (fun _=>true) true n 65 [V]=some (D,P)) :
  ∃ xs,Ints W W.heap.size W.heap.size V xs:=by
 rcases open_ints Tryz.underlying65 Tryz.underlying3 cells3 h with ⟨hcs,_⟩ | ⟨a,len,cap,zs,hcs,_,hl,hmx,hz,hx,hcell,hwz⟩
 ·simp at hcs
  subst hcs
  exact ⟨[],none,0,rfl,Nat.le_refl _,by simp,fun h=>absurd rfl h⟩
 ·simp at hcs
  subst hcs
  simp only [if_true] at hz
  have hlen:(zs.take len).length=len:=by simp; omega
  rw [maxLen_eq] at hmx
  refine ⟨zs.take len,some a,cap,by rw [hlen],by omega,by omega,fun hne=>?_⟩
  have hpos:0 < len:=by
   rcases Nat.eq_zero_or_pos len with h0 | h0
   ·subst h0; simp at hne
   ·exact h0
  obtain ⟨b,o,spot⟩:=a
  have h0:=hcell 0 (by omega)
  have hs:spot=none:=by simpa [Addr.add] using World.cell?_spot h0
  subst hs
  have hlt:b < W.heap.size:=cell_lt (a:=(⟨b,o,none⟩:Addr).add 0) h0
  refine ⟨b,o,rfl,hlt,by omega,fun i x hi=>?_⟩
  have hi2:i < len:=by rw [← hlen]; exact (List.getElem?_eq_some_iff.1 hi).1
  have h1:=hcell i (by omega)
  rw [Addr.add_lit] at h1
  rw [h1]
  rw [List.getElem?_take_of_lt hi2] at hi
  simp [List.getD,hi]
theorem rows_of_trod {H:Type} {enc:TypeId × Value→H} {W:World} {n:Nat} {V:Value} {D:DataW H} {P:List MemPlace} (h:DataW.trod enc Tryz.prog W 0 (fun _=>true) true n 25 [V]=some (D,P)) :
  ∃ ts:List Rw,Rws W W.heap.size V ts:=by
 rcases open_slice1 Tryz.underlying25 cells26 h with ⟨hcs,_⟩ | ⟨a,len,cap,m,n',V0,D0,P0,hcs,_,hl,hmx,hm,hx,hall⟩
 ·simp at hcs
  subst hcs
  exact ⟨[],rws_nil _ _⟩
 ·simp at hcs
  subst hcs
  simp only [if_true] at hm
  subst hm
  rw [maxLen_eq] at hmx
  have each:∀ i,i < len→∃ q:List Int,Ints W W.heap.size W.heap.size (V0 i) q:=fun i hi=>ints_of_trod (hall i (by omega)).2
  obtain ⟨q,hq⟩:=choose_lt each
  have hget:∀ i t,((List.range len).map fun i=>((V0 i,q i):Rw))[i]? = some t→i < len∧t=(V0 i,q i):=by
   intro i t hi
   have hlt:=(List.getElem?_eq_some_iff.1 hi).1
   simp at hlt
   simp [hlt] at hi
   exact ⟨hlt,hi.symm⟩
  refine ⟨(List.range len).map fun i=>(V0 i,q i),some a,m,by simp,by simp; omega,by simp; omega,fun t ht=>?_,fun hne=>?_⟩
  ·obtain ⟨i,hi,rfl⟩:=List.mem_map.1 ht
   exact hq i (List.mem_range.1 hi)
  ·have hpos:0 < len:=by
    rcases Nat.eq_zero_or_pos len with h0 | h0
    ·subst h0; simp at hne
    ·exact h0
   obtain ⟨b,o,spot⟩:=a
   have h0:=(hall 0 (by omega)).1
   have hs:spot=none:=by simpa [Addr.add] using World.cell?_spot h0
   subst hs
   have hlt:b < W.heap.size:=cell_lt (a:=(⟨b,o,none⟩:Addr).add 0) h0
   refine ⟨b,o,rfl,hlt,fun i t hi=>?_⟩
   obtain ⟨hi2,rfl⟩:=hget i t hi
   obtain ⟨h1,_⟩:=hall i (by omega)
   rw [Addr.add_lit] at h1
   exact h1
theorem field47:∃ f0 f1:Field,Tryz.prog.underlying 74=some (.struct #[f0,f1])∧f0.offset=0∧f1.offset=1∧f0.type=9∧f1.type=3:=by
 refine ⟨_,_,Tryz.underlying74,?_,?_,?_,?_⟩ <;> rfl
theorem cols_of_trod {H:Type} {enc:TypeId × Value→H} {W:World} {n:Nat} {V:Value} {D:DataW H} {P:List MemPlace} (h:DataW.trod enc Tryz.prog W 0 (fun _=>true) true n 24 [V]=some (D,P)) :
  ∃ l:List Col,Cols W W.heap.size V l:=by
 obtain ⟨f0,f1,hu,o0,o1,t0,t1⟩:=field47
 rcases open_slice_pairs Tryz.underlying24 hu cells47 o0 o1 (by rw [t0]; exact cells9) (by rw [t1]; exact cells3) h with ⟨hcs,_⟩ | ⟨a,len,cap,m,n',V0,V1,D0,D1,P0,P1,hcs,_,hl,hmx,hm,hx,hall⟩
 ·simp at hcs
  subst hcs
  exact ⟨[],cols_nil _ _⟩
 ·simp at hcs
  subst hcs
  simp only [if_true] at hm
  subst hm
  rw [maxLen_eq] at hmx
  have each:∀ i,i < len→∃ q:Col,(V0 i=.string q.1∧V1 i=.int .i64 q.2)∧q.1.size≤9223372036854775807:=by
   intro i hi
   obtain ⟨_,_,h3,h4⟩:=hall i (by omega)
   rw [t0] at h3
   rw [t1] at h4
   obtain ⟨s,e0,_,hw⟩:=DataW.trod_string Tryz.underlying9 h3
   obtain ⟨k,e1,_,_⟩:=DataW.trod_int Tryz.underlying3 h4
   simp at e0 e1
   exact ⟨(s,k),⟨e0,e1⟩,by rw [← maxLen_eq]; exact hw⟩
  obtain ⟨q,hq⟩:=choose_lt each
  have hget:∀ i t,((List.range len).map fun i=>q i)[i]? = some t→i < len∧t=q i:=by
   intro i t hi
   have hlt:=(List.getElem?_eq_some_iff.1 hi).1
   simp at hlt
   simp [hlt] at hi
   exact ⟨hlt,hi.symm⟩
  refine ⟨(List.range len).map fun i=>q i,some a,m,by simp,by simp; omega,by simp; omega,fun t ht=>?_,fun hne=>?_⟩
  ·obtain ⟨i,hi,rfl⟩:=List.mem_map.1 ht
   exact (hq i (List.mem_range.1 hi)).2
  ·have hpos:0 < len:=by
    rcases Nat.eq_zero_or_pos len with h0 | h0
    ·subst h0; simp at hne
    ·exact h0
   obtain ⟨b,o,spot⟩:=a
   have h0:=(hall 0 (by omega)).1
   have hs:spot=none:=by simpa [Addr.add] using World.cell?_spot h0
   subst hs
   have hlt:b < W.heap.size:=cell_lt (a:=(⟨b,o,none⟩:Addr).add (0 * 2)) h0
   refine ⟨b,o,rfl,hlt,fun i t hi=>?_⟩
   obtain ⟨hi2,rfl⟩:=hget i t hi
   obtain ⟨h1,h2,_⟩:=hall i (by omega)
   rw [Addr.add_lit] at h1 h2
   exact ⟨by rw [h1,(hq i hi2).1.1],by rw [Nat.add_assoc,h2,(hq i hi2).1.2]⟩
section
theorem openS3 {H:Type} {enc:TypeId × Value→H} {P:Program} {w:World} {base:Nat} {spare:Nat→Bool} {held:Bool} {e:TypeId} {f0 f1 f2:Field} {n:Nat} {cs:List Value} {x:DataW H × List MemPlace} (he:P.underlying e=some (.struct #[f0,f1,f2])) (o0:f0.offset=0) (c0:P.cellsOf f0.type=1) (o1:f1.offset=1) (c1:P.cellsOf f1.type=1) (o2:f2.offset=2) (c2:P.cellsOf f2.type=1)
  (hlen:cs.length=3) (h:DataW.trod enc P w base spare held n e cs=some x):∃ v0 v1 v2 y0 y1 y2 k,cs=[v0,v1,v2]∧n=k + 1∧DataW.trod enc P w base spare held k f0.type [v0]=some y0∧DataW.trod enc P w base spare held k f1.type [v1]=some y1∧DataW.trod enc P w base spare held k f2.type [v2]=some y2:=by
 obtain ⟨xs,k,hk,hxy,_,hxl,hf⟩:=DataW.trod_struct he h
 match xs,hxl,cs,hlen with
 | [y0,y1,y2],_,[v0,v1,v2],_ =>
  have g0:=hf 0 f0 rfl
  have g1:=hf 1 f1 rfl
  have g2:=hf 2 f2 rfl
  simp [o0,o1,o2,c0,c1,c2] at g0 g1 g2
  exact ⟨v0,v1,v2,y0,y1,y2,k,rfl,hk,g0,g1,g2⟩
theorem openS6 {H:Type} {enc:TypeId × Value→H} {P:Program} {w:World} {base:Nat} {spare:Nat→Bool} {held:Bool} {e:TypeId} {f0 f1 f2 f3 f4 f5:Field} {n:Nat} {cs:List Value} {x:DataW H × List MemPlace} (he:P.underlying e=some (.struct #[f0,f1,f2,f3,f4,f5])) (o0:f0.offset=0) (c0:P.cellsOf f0.type=1) (o1:f1.offset=1) (c1:P.cellsOf f1.type=1) (o2:f2.offset=2) (c2:P.cellsOf f2.type=1) (o3:f3.offset=3) (c3:P.cellsOf f3.type=1) (o4:f4.offset=4) (c4:P.cellsOf f4.type=1) (o5:f5.offset=5) (c5:P.cellsOf f5.type=1)
  (hlen:cs.length=6) (h:DataW.trod enc P w base spare held n e cs=some x):∃ v0 v1 v2 v3 v4 v5 y0 y1 y2 y3 y4 y5 k,cs=[v0,v1,v2,v3,v4,v5]∧n=k + 1∧DataW.trod enc P w base spare held k f0.type [v0]=some y0∧DataW.trod enc P w base spare held k f1.type [v1]=some y1∧DataW.trod enc P w base spare held k f2.type [v2]=some y2∧DataW.trod enc P w base spare held k f3.type [v3]=some y3∧DataW.trod enc P w base spare held k f4.type [v4]=some y4∧DataW.trod enc P w base spare held k f5.type [v5]=some y5:=by
 obtain ⟨xs,k,hk,hxy,_,hxl,hf⟩:=DataW.trod_struct he h
 match xs,hxl,cs,hlen with
 | [y0,y1,y2,y3,y4,y5],_,[v0,v1,v2,v3,v4,v5],_ =>
  have g0:=hf 0 f0 rfl
  have g1:=hf 1 f1 rfl
  have g2:=hf 2 f2 rfl
  have g3:=hf 3 f3 rfl
  have g4:=hf 4 f4 rfl
  have g5:=hf 5 f5 rfl
  simp [o0,o1,o2,o3,o4,o5,c0,c1,c2,c3,c4,c5] at g0 g1 g2 g3 g4 g5
  exact ⟨v0,v1,v2,v3,v4,v5,y0,y1,y2,y3,y4,y5,k,rfl,hk,g0,g1,g2,g3,g4,g5⟩
end
theorem cells93:Tryz.prog.cellsOf 214=3:=by kernel_rfl
theorem cells6':Tryz.prog.cellsOf 31=6:=by kernel_rfl
theorem cells23:Tryz.prog.cellsOf 28=1:=by kernel_rfl
theorem cells24:Tryz.prog.cellsOf 29=1:=by kernel_rfl
theorem field93:∃ f0 f1 f2:Field,Tryz.prog.underlying 214=some (.struct #[f0,f1,f2])∧f0.offset=0∧f1.offset=1∧f2.offset=2∧f0.type=9∧f1.type=3∧f2.type=3:=by
 refine ⟨_,_,_,Tryz.underlying214,?_,?_,?_,?_,?_,?_⟩ <;> rfl
theorem field26:∃ f0 f1 f2 f3 f4 f5:Field,Tryz.prog.underlying 31=some (.struct #[f0,f1,f2,f3,f4,f5])∧(f0.offset=0∧f1.offset=1∧f2.offset=2∧f3.offset=3∧f4.offset=4∧f5.offset=5)∧f0.type=3∧f1.type=9∧f2.type=3∧f3.type=3∧f4.type=28∧f5.type=29:=by
 refine ⟨_,_,_,_,_,_,Tryz.underlying31,⟨?_,?_,?_,?_,?_,?_⟩,?_,?_,?_,?_,?_,?_⟩ <;> rfl
theorem tests_of_trod {H:Type} {enc:TypeId × Value→H} {W:World} {n:Nat} {V:Value} {D:DataW H} {P:List MemPlace} (h:DataW.trod enc Tryz.prog W 0 (fun _=>true) true n 28 [V]=some (D,P)) :
  ∃ l:List Tst,Tss W W.heap.size V l:=by
 obtain ⟨f0,f1,f2,hu,o0,o1,o2,t0,t1,t2⟩:=field93
 rcases open_slice Tryz.underlying28 h with ⟨hcs,_⟩ | ⟨a,len,cap,m,n',D0,P0,hcs,_,hl,hmx,hm,hx,hall⟩
 ·simp at hcs
  subst hcs
  exact ⟨[],none,0,rfl,Nat.le_refl _,by simp,by simp,fun h=>absurd rfl h⟩
 ·simp at hcs
  subst hcs
  simp only [if_true] at hm
  subst hm
  rw [maxLen_eq] at hmx
  have each:∀ i,i < len→∃ q:Tst,q.1.size≤9223372036854775807∧W.cell? (a.add (i * 3))=some (.string q.1)∧W.cell? (a.add (i * 3 + 1))=some (.int .i64 q.2.1)∧W.cell? (a.add (i * 3 + 2))=some (.int .i64 q.2.2):=by
   intro i hi
   obtain ⟨cs',h1,h2⟩:=hall i (by omega)
   rw [cells93] at h1
   obtain ⟨_,hlen,hcell⟩:=World.cells?_some h1
   obtain ⟨v0,v1,v2,y0,y1,y2,k,rfl,_,g0,g1,g2⟩:=openS3 hu o0 (by rw [t0]; exact cells9) o1 (by rw [t1]; exact cells3) o2 (by rw [t2]; exact cells3) hlen h2
   rw [t0] at g0
   rw [t1] at g1
   rw [t2] at g2
   have e0:=hcell 0 (by omega)
   have e1:=hcell 1 (by omega)
   have e2:=hcell 2 (by omega)
   rw [add_add] at e0 e1 e2
   obtain ⟨s,d0,_,hw⟩:=DataW.trod_string Tryz.underlying9 g0
   obtain ⟨k1,d1,_,_⟩:=DataW.trod_int Tryz.underlying3 g1
   obtain ⟨k2,d2,_,_⟩:=DataW.trod_int Tryz.underlying3 g2
   simp at d0 d1 d2
   subst d0 d1 d2
   exact ⟨(s,k1,k2),by rw [← maxLen_eq]; exact hw,by simpa using e0,by simpa using e1,by simpa using e2⟩
  obtain ⟨q,hq⟩:=choose_lt each
  have hget:∀ i t,((List.range len).map fun i=>q i)[i]? = some t→i < len∧t=q i:=by
   intro i t hi
   have hlt:=(List.getElem?_eq_some_iff.1 hi).1
   simp at hlt
   simp [hlt] at hi
   exact ⟨hlt,hi.symm⟩
  refine ⟨(List.range len).map fun i=>q i,some a,m,by simp,by simp; omega,by simp; omega,fun t ht=>?_,fun hne=>?_⟩
  ·obtain ⟨i,hi,rfl⟩:=List.mem_map.1 ht
   exact (hq i (List.mem_range.1 hi)).1
  ·have hpos:0 < len:=by
    rcases Nat.eq_zero_or_pos len with h0 | h0
    ·subst h0; simp at hne
    ·exact h0
   obtain ⟨b,o,spot⟩:=a
   have h0:=(hq 0 (by omega)).2.1
   have hs:spot=none:=by simpa [Addr.add] using World.cell?_spot h0
   subst hs
   have hlt:b < W.heap.size:=cell_lt (a:=(⟨b,o,none⟩:Addr).add (0 * 3)) h0
   refine ⟨b,o,rfl,hlt,fun i t hi=>?_⟩
   obtain ⟨hi2,rfl⟩:=hget i t hi
   obtain ⟨_,h1,h2,h3⟩:=hq i hi2
   rw [Addr.add_lit] at h1 h2 h3
   exact ⟨h1,by rw [Nat.add_assoc]; exact h2,by rw [Nat.add_assoc]; exact h3⟩
theorem qu_of_trod {H:Type} {enc:TypeId × Value→H} {W:World}:∀ (n:Nat) (cs:List Value) (x:DataW H × List MemPlace),cs.length=6→DataW.trod enc Tryz.prog W 0 (fun _=>true) true n 31 cs=some x →
  ∃ q v0 v1 v2 v3 v4 v5,cs=[v0,v1,v2,v3,v4,v5]∧Qm W W.heap.size q v0 v1 v2 v3 v4 v5:=by
 intro n
 induction n using Nat.strongRecOn with
 | ind n ih =>
  intro cs x hlen h
  obtain ⟨f0,f1,f2,f3,f4,f5,hu,⟨o0,o1,o2,o3,o4,o5⟩,t0,t1,t2,t3,t4,t5⟩:=field26
  obtain ⟨v0,v1,v2,v3,v4,v5,y0,y1,y2,y3,y4,y5,k,rfl,hk,g0,g1,g2,g3,g4,g5⟩:=openS6 hu o0 (by rw [t0]; exact cells3) o1 (by rw [t1]; exact cells9) o2 (by rw [t2]; exact cells3) o3 (by rw [t3]; exact cells3) o4 (by rw [t4]; exact cells23) o5 (by rw [t5]; exact cells24) hlen h
  rw [t0] at g0
  rw [t1] at g1
  rw [t2] at g2
  rw [t3] at g3
  rw [t4] at g4
  rw [t5] at g5
  obtain ⟨k0,d0,_,_⟩:=DataW.trod_int Tryz.underlying3 g0
  obtain ⟨s1,d1,_,hw1⟩:=DataW.trod_string Tryz.underlying9 g1
  obtain ⟨k2,d2,_,_⟩:=DataW.trod_int Tryz.underlying3 g2
  obtain ⟨k3,d3,_,_⟩:=DataW.trod_int Tryz.underlying3 g3
  simp at d0 d1 d2 d3
  obtain ⟨wh,hwh⟩:=tests_of_trod (D:=y4.1) (P:=y4.2) g4
  rcases DataW.trod_slice Tryz.underlying29 g5 with ⟨hcs,_⟩ | ⟨a,len,cap,elems,rest,m,hm,hcs,_,_,hl,hmx,hel,hall,_⟩
  ·simp at hcs
   exact ⟨.node k0 s1 k2 k3 wh 0 .none .none,v0,v1,v2,v3,v4,v5,rfl,d0,d1,d2,d3,by rw [← maxLen_eq]; exact hw1,hwh,none,0,hcs,Nat.le_refl _,by decide,fun h=>absurd h (by decide)⟩
  ·simp at hcs
   rw [maxLen_eq] at hmx
   have each:∀ i,i < len→∃ q u0 u1 u2 u3 u4 u5,(∀ j u,[u0,u1,u2,u3,u4,u5][j]? = some u→W.cell? (a.add (i * 6 + j))=some u)∧Qm W W.heap.size q u0 u1 u2 u3 u4 u5:=by
    intro i hi
    have h1:=hall i hi
    rw [cells6',List.getElem?_eq_getElem (by omega)] at h1
    obtain ⟨cs',h2,h3⟩:=Option.bind_eq_some_iff.1 h1
    obtain ⟨_,hl6,hcell⟩:=World.cells?_some h2
    obtain ⟨q,u0,u1,u2,u3,u4,u5,rfl,hqm⟩:=ih m (by omega) cs' _ hl6 h3
    refine ⟨q,u0,u1,u2,u3,u4,u5,fun j u hj=>?_,hqm⟩
    have hj6:j < 6:=by have:=(List.getElem?_eq_some_iff.1 hj).1; simpa using this
    have:=hcell j hj6
    rw [add_add,hj] at this
    exact this
   rcases Nat.eq_zero_or_pos len with h0 | h0
   ·subst h0
    exact ⟨.node k0 s1 k2 k3 wh 0 .none .none,v0,v1,v2,v3,v4,v5,rfl,d0,d1,d2,d3,by rw [← maxLen_eq]; exact hw1,hwh,some a,cap,hcs,by omega,by decide,fun h=>absurd h (by decide)⟩
   ·obtain ⟨qx,u0,u1,u2,u3,u4,u5,hc,hqx⟩:=each 0 h0
    obtain ⟨b,o,spot⟩:=a
    have e0:=hc 0 u0 rfl
    have hs:spot=none:=by simpa [Addr.add] using World.cell?_spot e0
    subst hs
    have hlt:b < W.heap.size:=cell_lt (a:=(⟨b,o,none⟩:Addr).add (0 * 6 + 0)) e0
    have at6:∀ (i:Nat) (u0 u1 u2 u3 u4 u5:Value),(∀ j u,[u0,u1,u2,u3,u4,u5][j]? = some u→W.cell? ((⟨b,o,none⟩:Addr).add (i * 6 + j))=some u)→At6 W b (o + i * 6) u0 u1 u2 u3 u4 u5:=by
     intro i u0 u1 u2 u3 u4 u5 hc
     have w0:=hc 0 u0 rfl
     have w1:=hc 1 u1 rfl
     have w2:=hc 2 u2 rfl
     have w3:=hc 3 u3 rfl
     have w4:=hc 4 u4 rfl
     have w5:=hc 5 u5 rfl
     rw [Addr.add_lit] at w0 w1 w2 w3 w4 w5
     exact ⟨by simpa using w0,by rw [Nat.add_assoc]; exact w1,by rw [Nat.add_assoc]; exact w2,by rw [Nat.add_assoc]; exact w3,by rw [Nat.add_assoc]; exact w4,by rw [Nat.add_assoc]; exact w5⟩
    have a0:=at6 0 _ _ _ _ _ _ hc
    simp only [Nat.zero_mul,Nat.add_zero] at a0
    by_cases h1:len=1
    ·subst h1
     exact ⟨.node k0 s1 k2 k3 wh 1 qx .none,v0,v1,v2,v3,v4,v5,rfl,d0,d1,d2,d3,by rw [← maxLen_eq]; exact hw1,hwh,some ⟨b,o,none⟩,cap,hcs,hl,by decide,fun _ _=>⟨b,o,rfl,hlt,⟨u0,u1,u2,u3,u4,u5,a0,hqx⟩,fun h=>absurd h (by decide)⟩⟩
    ·obtain ⟨qy,z0,z1,z2,z3,z4,z5,hcy,hqy⟩:=each 1 (by omega)
     have a1:=at6 1 _ _ _ _ _ _ hcy
     exact ⟨.node k0 s1 k2 k3 wh len qx qy,v0,v1,v2,v3,v4,v5,rfl,d0,d1,d2,d3,by rw [← maxLen_eq]; exact hw1,hwh,some ⟨b,o,none⟩,cap,hcs,hl,by omega,fun _ _=>⟨b,o,rfl,hlt,⟨u0,u1,u2,u3,u4,u5,a0,hqx⟩,fun _=>⟨z0,z1,z2,z3,z4,z5,a1,hqy⟩⟩⟩
end Go.Proofs.YtlndlpjadajelaaGreat.K
