import Derived.Test.YtlndlpjadajelaaGreatQq27
import Derived.Test.YtlndlpjadajelaaGreatQq21
import Derived.Test.YtlndlpjadajelaaGreatQq25
import Derived.Test.YtlndlpjadajelaaGreatQq20
import Derived.Test.YtlndlpjadajelaaGreatQq23
import Derived.Test.YtlndlpjadajelaaGreatQq22
namespace Go.Proofs.YtlndlpjadajelaaGreat.K
open Go.RowKit Go.Proofs.YtlndlpjadajelaaGreat.K.Ds
def runT (l:List Col) (rs:List (List Int)) (q:Qu):Except Int (List Int) :=
 if wroE l rs=0 then (match bnd l 1 q with | .ok _=>.ok (ans l rs q) | .error e=>.error e) else .error (wroE l rs)
def RunQ (w:World):Except Int (List Int)→Ending→World→Prop
 | .ok xs,e,w'=>AnsP w xs e w'
 | .error c,e,w'=>e=.panicked (chn c)∧Below w.heap.size w w'
set_option maxHeartbeats 2000000 in
set_option maxRecDepth 100000 in
theorem run1_any (l:List Col) (ts:List Rw) (q:Qu) (w:World) (B T N:Nat) (cv rv v0 v1 v2 v3 v4 v5:Value) (r:Except Int (List Int)) (hB:B≤w.heap.size) (hp:Cols w B cv l) (hrw:Rws w B rv ts) (hq:Qm w B q v0 v1 v2 v3 v4 v5) (hr:runT l (rr ts) q=r) (hT0:Cl w T 0 cv) (hT1:Cl w T 1 rv) (hN:Bx w N v0 v1 v2 v3 v4 v5) :
  Calls Tryz.prog 69 #[.pointer (some ⟨T,0,none⟩),.pointer (some ⟨N,0,none⟩)] w (RunQ w r):=by
 have HP:Hid (Cols w B cv l):=hp
 have HRW:Hid (Rws w B rv ts):=hrw
 have HQ:Hid (Qm w B q v0 v1 v2 v3 v4 v5):=hq
 have HR:Hid (runT l (rr ts) q=r):=hr
 obtain ⟨la,lc,rfl,_⟩:=hp.slice
 obtain ⟨ra,rc,rfl,_⟩:=hrw.slice
 obtain ⟨kk,kc,kl,kh,ka,kn',kd,kb,km,kp,rfl,rfl,rfl,rfl,rfl,rfl⟩:=hq.shape
 have HT:Hid (Cl w T 0 (.slice la l.length lc)∧Cl w T 1 (.slice ra ts.length rc)):=⟨hT0,hT1⟩
 have HN:Hid (Bx w N (.int .i64 kk) (.string kc) (.int .i64 kl) (.int .i64 kh) (.slice ka kn' kd) (.slice kb km kp)):=hN
 obtain ⟨ew,hew⟩:∃ ew,wroE l (rr ts)=ew:=⟨_,rfl⟩
 have k1:=wrong_any B _ _ l ts w hB hp hrw ew hew
 have HEW:Hid (wroE l (rr ts)=ew):=hew
 have m0:=hT0.c
 have m1:=hT1.c
 clear hp hrw hq hr hT0 hT1 hN hew
 go_enter Tryz.func69,Tryz.ntmps69
 go_wp2_with fail
 refine k1.mono ?_
 rintro e w1 ⟨rfl,hb1⟩
 clear k1 m0 m1
 have hs1:=hb1.size
 by_cases he:ew=0
 ·subst he
  obtain ⟨hce,hle,hok⟩:=wroE_ok HEW.out
  have hsz:Szs l:=(colE_ok hce).2.2.1
  obtain ⟨rb,hrb⟩:∃ rb,bnd l 1 q=rb:=⟨_,rfl⟩
  have k2:=bound_any l hsz q 1 w1 B (.slice la l.length lc) _ _ _ _ _ _ rb (by decide) (by omega) (HP.out.at hB hb1) (HQ.out.at hB hb1) hrb
  have HRB:Hid (bnd l 1 q=rb):=hrb
  have HHH:Hid (Szs l∧ts.length≤4096∧∀ r∈rr ts,RowOk l r):=⟨hsz,by rw [← rr_len]; exact hle,hok⟩
  clear hrb hsz hce hle hok
  have hT1:=HT.out.1.at hb1
  have hN1:=HN.out.at hb1
  have m0:=hN1.a0.c
  have m1:=hN1.a1.c
  have m2:=hN1.a2.c
  have m3:=hN1.a3.c
  have m4:=hN1.a4.c
  have m5:=hN1.a5.c
  have m6:=hT1.c
  clear hT1 hN1
  go_wp2_with fail
  refine (check_ok w1).mono ?_
  rintro e w2 ⟨rfl,hw2⟩
  subst hw2
  go_wp2_with fail
  refine k2.mono ?_
  rintro e w3 ⟨he,hb3⟩
  clear k2 m0 m1 m2 m3 m4 m5 m6
  have hbw:=bt hb1 hb3
  have hs3:=hbw.size
  cases rb with
  | error er =>
   obtain rfl:Except.error er=r:=by rw [← HR.out,runT,if_pos HEW.out,HRB.out]
   obtain rfl:e=.panicked (chn er):=he
   go_wp2
   exact ⟨rfl,rfl,hbw⟩
  | ok bb =>
   obtain ⟨xs,hxs⟩:∃ xs,ans l (rr ts) q=xs:=⟨_,rfl⟩
   obtain rfl:Except.ok xs=r:=by rw [← HR.out,runT,if_pos HEW.out,HRB.out,hxs]
   obtain ⟨b1,b2,b3⟩:=bb
   obtain rfl:e=.returned (.agg #[.int .i64 b1,.int .i64 b2,.int .i64 b3]):=he
   have k3:=answer_any HHH.out.1 HHH.out.2.1 HHH.out.2.2 q 1 w3 B _ _ _ _ _ _ _ _ _ (by omega) (HP.out.at hB hbw) (HRW.out.at hB hbw) (HQ.out.at hB hbw) HRB.out
   have hT1:=HT.out.1.at hbw
   have hT2:=HT.out.2.at hbw
   have hN1:=HN.out.at hbw
   have m0:=hN1.a0.c
   have m1:=hN1.a1.c
   have m2:=hN1.a2.c
   have m3:=hN1.a3.c
   have m4:=hN1.a4.c
   have m5:=hN1.a5.c
   have m6:=hT1.c
   have m7:=hT2.c
   clear hT1 hT2 hN1
   rw [hxs] at k3
   clear hxs HR
   go_wp2_with fail
   refine k3.mono ?_
   rintro e w4 ⟨g,c4,rfl,hA,hb4⟩
   clear k3
   go_wp2
   go_ret
   exact AnsP.up ⟨g,c4,rfl,hA,hb4⟩ hbw
 ·obtain rfl:Except.error ew=r:=by rw [← HR.out,runT,HEW.out,if_neg he]
  go_wp2_with fail
  refine (check_no ew he w1).mono ?_
  rintro e w2 ⟨rfl,rfl⟩
  go_wp2
  exact ⟨rfl,rfl,hb1⟩
def runV:Except Int (List Int)→List Int × Int
 | .error e=>([],e)
 | .ok xs=>(xs,0)
def RunP (w:World) (xs:List Int) (er:Int) (e:Ending) (w':World):Prop :=
 ∃ a c,e=.returned (.tuple #[.slice a xs.length c,.int .i64 er])∧Ints w' w'.heap.size w'.heap.size (.slice a xs.length c) xs∧Below w.heap.size w w'
set_option maxHeartbeats 1000000 in
set_option maxRecDepth 100000 in
theorem askRun_any (l:List Col) (ts:List Rw) (q:Qu) (w:World) (B:Nat) (cv rv v0 v1 v2 v3 v4 v5:Value) (xs:List Int) (er:Int) (hB:B≤w.heap.size) (hp:Cols w B cv l) (hrw:Rws w B rv ts) (hq:Qm w B q v0 v1 v2 v3 v4 v5) (hr:runV (runT l (rr ts) q)=(xs,er)) :
  Calls Tryz.prog 27 #[.agg #[cv,rv],.agg #[v0,v1,v2,v3,v4,v5]] w (RunP w xs er):=by
 have hb0:Below w.heap.size w ((w.alloc (.cells #[cv,rv] 27)).alloc (.cells #[v0,v1,v2,v3,v4,v5] 31)):=bal (ba _ _) _
 have hT0:Cl ((w.alloc (.cells #[cv,rv] 27)).alloc (.cells #[v0,v1,v2,v3,v4,v5] 31)) w.heap.size 0 cv:=(Cl.new _ 27 _ _ rfl rfl).at (ba _ _)
 have hT1:Cl ((w.alloc (.cells #[cv,rv] 27)).alloc (.cells #[v0,v1,v2,v3,v4,v5] 31)) w.heap.size 1 rv:=(Cl.new _ 27 _ _ rfl rfl).at (ba _ _)
 have hN:Bx ((w.alloc (.cells #[cv,rv] 27)).alloc (.cells #[v0,v1,v2,v3,v4,v5] 31)) (w.heap.size + 1) v0 v1 v2 v3 v4 v5:=Bx.new _ _ (by simp) _ _ _ _ _ _
 have kc:Calls Tryz.prog 68 #[.func (.func 69) #[] #[.pointer (some ⟨w.heap.size,0,none⟩),.pointer (some ⟨w.heap.size + 1,0,none⟩)]] ((w.alloc (.cells #[cv,rv] 27)).alloc (.cells #[v0,v1,v2,v3,v4,v5] 31)) (RunP ((w.alloc (.cells #[cv,rv] 27)).alloc (.cells #[v0,v1,v2,v3,v4,v5] 31)) xs er):=by
  generalize hW:((w.alloc (.cells #[cv,rv] 27)).alloc (.cells #[v0,v1,v2,v3,v4,v5] 31))=W at *
  have inner:∀ r,runT l (rr ts) q=r→∀ W',Below W.heap.size W W'→W.heap.size + 1≤W'.heap.size→Calls Tryz.prog 69 #[.pointer (some ⟨w.heap.size,0,none⟩),.pointer (some ⟨w.heap.size + 1,0,none⟩)] W' (RunQ W' r):=by
   intro r hr W' hW' hs
   have hsz:=hb0.size
   exact run1_any l ts q W' B _ _ cv rv v0 v1 v2 v3 v4 v5 r (by omega) ((hp.at hB hb0).at (by omega) hW') ((hrw.at hB hb0).at (by omega) hW') ((hq.at hB hb0).at (by omega) hW') hr (hT0.at hW') (hT1.at hW') (hN.at hW')
  cases ht:runT l (rr ts) q with
  | error e1 =>
   rw [ht] at hr
   simp only [runV,Prod.mk.injEq] at hr
   obtain ⟨rfl,rfl⟩:=hr
   refine (caughtL_no _ e1 W (inner _ ht)).mono ?_
   rintro e w' ⟨rfl,hb⟩
   exact ⟨none,0,rfl,⟨none,0,rfl,Nat.le_refl _,by simp,fun h=>absurd rfl h⟩,hb⟩
  | ok ys =>
   rw [ht] at hr
   simp only [runV,Prod.mk.injEq] at hr
   obtain ⟨rfl,rfl⟩:=hr
   refine (caughtL_ok _ (fun V w'=>∃ g c,V=.slice (some ⟨g,0,none⟩) ys.length c∧Arw w' (W.heap.size + 1) g c ys) W fun W' h1 h2=>(inner _ ht W' h1 h2).mono fun e w' h=>?_).mono ?_
   ·obtain ⟨g,c,rfl,hA,hb⟩:=h
    exact ⟨_,rfl,⟨g,c,rfl,hA.mono h2⟩,hb⟩
   ·rintro e w' ⟨V,w1,rfl,⟨g,c,rfl,hA⟩,hb,rfl⟩
    have hg:=hA.lt
    have hA2:=hA.oth (b:=W.heap.size) (k:=0) (by omega) (.int .i64 0)
    refine ⟨some ⟨g,0,none⟩,c,rfl,hA2.ints _ (Nat.ne_of_lt hA2.lt.2),bs hb (Nat.le_refl _) _⟩
 obtain ⟨la,lc,rfl,_⟩:=hp.slice
 obtain ⟨ra,rc,rfl,_⟩:=hrw.slice
 obtain ⟨kk,kc',kl,kh,ka,kn',kd,kb,km,kp,rfl,rfl,rfl,rfl,rfl,rfl⟩:=hq.shape
 have hmf:=hmf
 clear hp hq hrw hr hT0 hT1 hN
 go_enter Tryz.func27,Tryz.ntmps27
 go_wp2_with fail
 refine kc.mono ?_
 rintro e w1 ⟨a,c,rfl,hI,hb1⟩
 clear kc
 have hbw:Below w.heap.size w w1:=bt hb0 hb1
 go_wp2
 exact bodyPost_ret (v:=.tuple #[.slice a xs.length c,.int .i64 er]) (by simp [results,Tryz.results27,go_sem]) rfl ⟨a,c,rfl,hI,hbw⟩
end Go.Proofs.YtlndlpjadajelaaGreat.K
namespace Go.Proofs.YtlndlpjadajelaaGreat.K.Ds
end Go.Proofs.YtlndlpjadajelaaGreat.K.Ds
namespace Go.Proofs.YtlndlpjadajelaaGreat.K
open Go.RowKit Go.Proofs.YtlndlpjadajelaaGreat.K.Ds
theorem typ_ne {l:List Col} {q:Qu} {e:Int} (h:typ l q=.error e):e≠0:=by
 unfold typ at h
 split at h
 ·exact bnd_ne q _ _ h
 ·cases h; assumption
end Go.Proofs.YtlndlpjadajelaaGreat.K
namespace Go.Proofs.YtlndlpjadajelaaGreat.K
open Go.RowKit Go.Proofs.YtlndlpjadajelaaGreat.K.Ds
theorem runT_typ {l:List Col} {rs:List (List Int)} {q:Qu} (h:wroE l rs=0):runT l rs q=match typ l q with | .ok _=>.ok (ans l rs q) | .error e=>.error e:=by
 rw [runT,if_pos h,typ,if_pos (wroE_ok h).1]
 all_goals (cases bnd l 1 q <;> rfl)
theorem typ_ok {l:List Col} {q:Qu} {b:Bnd} (h:typ l q=.ok b):colE l=0∧bnd l 1 q=.ok b:=by
 unfold typ at h
 split at h
 ·exact ⟨by assumption,h⟩
 ·cases h
theorem apaS_nn (x y:List Int):0≤apaS x y:=by
 induction x generalizing y with
 | nil=>cases y <;> simp [apaS]
 | cons a x ih=>cases y with
  | nil=>simp [apaS]
  | cons b y=>simp only [apaS]; have:=ih y; omega
theorem apaS_zero {x y:List Int} (h:x.length=y.length):apaS x y=0↔x=y:=by
 induction x generalizing y with
 | nil=>cases y with
  | nil=>simp [apaS]
  | cons b y=>simp at h
 | cons a x ih=>cases y with
  | nil=>simp at h
  | cons b y =>
   simp only [apaS]
   have h1:=apaS_nn x y
   simp at h
   constructor
   ·intro h2
    have h3:apaS x y=0:=by omega
    rw [(ih h).1 h3,show a=b by omega]
   ·intro h2
    injection h2 with h3 h4
    rw [(ih h).2 h4,h3]; omega
theorem apaS_cons (a b:Int) (x y:List Int):apaS (a :: x) (b :: y)=max (a - b) (b - a) + apaS x y:=rfl
theorem apaS_nil:apaS [] []=0:=rfl
theorem addAt_cons0 (a:Int) (x:List Int) (z:Int):addAt (a :: x) (0,z)=(a + z) :: x:=by simp [addAt]
theorem addAt_consS (a:Int) (x:List Int) (p:Nat) (z:Int):addAt (a :: x) (p + 1,z)=a :: addAt x (p,z):=by simp [addAt]
theorem addAt_nil (p:Nat × Int):addAt [] p=[]:=by simp [addAt]
theorem addAt_len (x:List Int) (p:Nat × Int):(addAt x p).length=x.length:=by simp [addAt]
theorem addAt_D {x y:List Int} (h:x.length=y.length) (p:Nat) (a b:Int):apaS (addAt x (p,a)) (addAt y (p,b))≤apaS x y + max (a - b) (b - a):=by
 induction x generalizing y p with
 | nil =>
  cases y with
  | nil=>rw [addAt_nil,addAt_nil,apaS_nil]; omega
  | cons=>simp at h
 | cons u x ih =>
  cases y with
  | nil=>simp at h
  | cons v y =>
   cases p with
   | zero=>rw [addAt_cons0,addAt_cons0,apaS_cons,apaS_cons]; omega
   | succ p =>
    rw [addAt_consS,addAt_consS,apaS_cons,apaS_cons]
    have:=ih (by simpa using h) p
    omega
theorem addAt_comm (x:List Int) (p q:Nat) (a b:Int):addAt (addAt x (p,a)) (q,b)=addAt (addAt x (q,b)) (p,a):=by
 induction x generalizing p q with
 | nil=>simp [addAt_nil]
 | cons u x ih =>
  cases p with
  | zero =>
   cases q with
   | zero=>simp only [addAt_cons0]; congr 1; omega
   | succ q=>simp only [addAt_cons0,addAt_consS]
  | succ p =>
   cases q with
   | zero=>simp only [addAt_cons0,addAt_consS]
   | succ q=>simp only [addAt_consS]; rw [ih]
theorem addAt_two (x:List Int) (p:Nat) (a b:Int):addAt (addAt x (p,a)) (p,b)=addAt x (p,a + b):=by
 induction x generalizing p with
 | nil=>simp [addAt_nil]
 | cons u x ih =>
  cases p with
  | zero=>simp only [addAt_cons0]; congr 1; omega
  | succ p=>simp only [addAt_consS]; rw [ih]
theorem addAt_zero (x:List Int) (p:Nat):addAt x (p,0)=x:=by
 induction x generalizing p with
 | nil=>simp [addAt_nil]
 | cons u x ih =>
  cases p with
  | zero=>simp only [addAt_cons0]; congr 1; omega
  | succ p=>simp only [addAt_consS]; rw [ih]
def wgt (ps:List (Nat × Int × Int)) (f:List Int→Nat × Int):List (List Int)→List Int→List Int→List Int
 | r :: rows,c :: cs,out=>wgt ps f rows cs (if pasB ps r then addAt out ((f r).1,c * (f r).2) else out)
 | _,_,out=>out
theorem wgt_add (ps:List (Nat × Int × Int)) (f:List Int→Nat × Int) (rows:List (List Int)):∀ (c out:List Int) (p:Nat) (a:Int),wgt ps f rows c (addAt out (p,a))=addAt (wgt ps f rows c out) (p,a):=by
 induction rows with
 | nil=>intro c out p a; simp [wgt]
 | cons r rows ih =>
  intro c out p a
  cases c with
  | nil=>simp [wgt]
  | cons c cs =>
   simp only [wgt]
   split
   ·rw [addAt_comm,ih]
   ·exact ih _ _ _ _
theorem wgt_zero (ps:List (Nat × Int × Int)) (f:List Int→Nat × Int) (rows:List (List Int)):∀ (n:Nat) (out:List Int),wgt ps f rows (List.replicate n 0) out=out:=by
 induction rows with
 | nil=>intro n out; simp [wgt]
 | cons r rows ih =>
  intro n out
  cases n with
  | zero=>simp [wgt]
  | succ n =>
   rw [List.replicate_succ]
   simp only [wgt,Int.zero_mul,addAt_zero]
   split <;> exact ih _ _
theorem wgt_cadd (ps:List (Nat × Int × Int)) (f:List Int→Nat × Int) (rows:List (List Int)):∀ (c out:List Int) (j:Nat) (r:List Int),c.length=rows.length→rows[j]? = some r→wgt ps f rows (cadd c j) out=gst ps f (wgt ps f rows c out) r:=by
 induction rows with
 | nil=>intro c out j r _ h; simp at h
 | cons r0 rows ih =>
  intro c out j r hl hj
  cases c with
  | nil=>simp at hl
  | cons c cs =>
   cases j with
   | zero =>
    simp at hj
    subst hj
    have e:cadd (c :: cs) 0=(c + 1) :: cs:=by simp [cadd]
    rw [e]
    simp only [wgt]
    by_cases hp:pasB ps r0
    ·rw [gst,if_pos hp,if_pos hp,if_pos hp,Int.add_mul,Int.one_mul,← addAt_two,wgt_add]
    ·rw [gst,if_neg hp,if_neg hp,if_neg hp]
   | succ j =>
    have e:cadd (c :: cs) (j + 1)=c :: cadd cs j:=by simp [cadd]
    rw [e]
    simp only [wgt]
    exact ih _ _ _ _ (by simpa using hl) (by simpa using hj)
theorem wgt_D {ps:List (Nat × Int × Int)} {f:List Int→Nat × Int} {M:Int} (rows:List (List Int)) (hf:∀ r∈rows,-M≤(f r).2∧(f r).2≤M):∀ (c c' out out':List Int),c.length=rows.length→c'.length=rows.length→out.length=out'.length→apaS (wgt ps f rows c out) (wgt ps f rows c' out')≤apaS out out' + M * apaS c c':=by
 induction rows with
 | nil =>
  intro c c' out out' h1 h2 _
  obtain rfl:=List.length_eq_zero_iff.1 h1
  obtain rfl:=List.length_eq_zero_iff.1 h2
  simp [wgt,apaS_nil]
 | cons r rows ih =>
  intro c c' out out' h1 h2 h3
  cases c with
  | nil=>simp at h1
  | cons c cs =>
   cases c' with
   | nil=>simp at h2
   | cons d ds =>
    simp only [wgt]
    rw [apaS_cons,Int.mul_add]
    have hM:=hf r (List.mem_cons_self ..)
    have hr:=fun r' (h:r'∈rows)=>hf r' (List.mem_cons_of_mem _ h)
    have key:max (c * (f r).2 - d * (f r).2) (d * (f r).2 - c * (f r).2)≤M * max (c - d) (d - c):=by
     have e1:c * (f r).2 - d * (f r).2=(c - d) * (f r).2:=by rw [Int.sub_mul]
     have e2:d * (f r).2 - c * (f r).2=(d - c) * (f r).2:=by rw [Int.sub_mul]
     have h4:=mul_abs (a:=c - d) (b:=(f r).2) (M:=max (c - d) (d - c)) (N:=M) (by omega) hM
     have h5:=mul_abs (a:=d - c) (b:=(f r).2) (M:=max (c - d) (d - c)) (N:=M) (by omega) hM
     rw [e1,e2,Int.mul_comm M]
     omega
    have hMn:0≤M * max (c - d) (d - c):=Int.mul_nonneg (by omega) (by omega)
    by_cases hp:pasB ps r
    ·rw [if_pos hp,if_pos hp]
     have h6:=ih hr cs ds (addAt out ((f r).1,c * (f r).2)) (addAt out' ((f r).1,d * (f r).2)) (by simpa using h1) (by simpa using h2) (by rw [addAt_len,addAt_len]; exact h3)
     have h7:=addAt_D h3 (f r).1 (c * (f r).2) (d * (f r).2)
     omega
    ·rw [if_neg hp,if_neg hp]
     have h6:=ih hr cs ds out out' (by simpa using h1) (by simpa using h2) h3
     omega
theorem gat_wgt {l:List Col} (hs:Szs l) {n:Nat} {ps:List (Nat × Int × Int)} {f:List Int→Nat × Int} {rs:List (List Int)} (hok:∀ r∈rs,RowOk l r):gat n ps f rs=wgt ps f (allT l) (celT l rs) (List.replicate n 0):=by
 have h:∀ i,i≤rs.length→gat n ps f (rs.take i)=wgt ps f (allT l) (celT l (rs.take i)) (List.replicate n 0):=by
  intro i
  induction i with
  | zero=>intro _; rw [List.take_zero,celT_nil,wgt_zero]; rfl
  | succ i ih =>
   intro hi
   obtain ⟨r,hr⟩:=get_lt (l:=rs) (i:=i) (by omega)
   have hro:=hok r (List.mem_of_getElem? hr)
   have ht:rs.take (i + 1)=rs.take i ++ [r]:=by rw [List.take_add_one,hr]; rfl
   have hlt:=plc_lt hro
   have hg:(allT l)[plc l r]? = some r:=by rw [allT_get hlt,cel_plc hs hro]
   have h1:gat n ps f (rs.take i ++ [r])=gst ps f (gat n ps f (rs.take i)) r:=by unfold gat; rw [List.foldl_append]; rfl
   rw [ht,h1,ih (by omega),celT_snoc hs hro,wgt_cadd ps f _ _ _ _ _ (by rw [celT_len,allT_len]) hg]
 have:=h rs.length (Nat.le_refl _)
 rwa [List.take_length] at this
theorem gat_D {l:List Col} (hs:Szs l) {n:Nat} {ps:List (Nat × Int × Int)} {f:List Int→Nat × Int} {M:Int} {rs us:List (List Int)} (h1:∀ r∈rs,RowOk l r) (h2:∀ r∈us,RowOk l r) (hf:∀ r,-M≤(f r).2∧(f r).2≤M):apaS (gat n ps f rs) (gat n ps f us)≤M * apaS (celT l rs) (celT l us):=by
 rw [gat_wgt hs h1,gat_wgt hs h2]
 have:=wgt_D (ps:=ps) (allT l) (fun r _=>hf r) (celT l rs) (celT l us) (List.replicate n 0) (List.replicate n 0) (by rw [celT_len,allT_len]) (by rw [celT_len,allT_len]) rfl
 have e:apaS (List.replicate n (0:Int)) (List.replicate n 0)=0:=(apaS_zero rfl).2 rfl
 omega
theorem zip_D (f:Int→Int→Int) (hf:∀ a b a' b':Int,max (f a b - f a' b') (f a' b' - f a b)≤max (a - a') (a' - a) + max (b - b') (b' - b)):∀ (x y x' y':List Int),x.length=x'.length→y.length=y'.length→x.length=y.length→apaS (List.zipWith f x y) (List.zipWith f x' y')≤apaS x x' + apaS y y':=by
 intro x
 induction x with
 | nil =>
  intro y x' y' h1 h2 h3
  obtain rfl:=List.length_eq_zero_iff.1 h1.symm
  obtain rfl:=List.length_eq_zero_iff.1 h3.symm
  obtain rfl:=List.length_eq_zero_iff.1 h2.symm
  simp [apaS_nil]
 | cons a x ih =>
  intro y x' y' h1 h2 h3
  match y,x',y',h1,h2,h3 with
  | b :: y,a' :: x',b' :: y',h1,h2,h3 =>
   simp only [List.zipWith_cons_cons,apaS_cons]
   have:=ih y x' y' (by simpa using h1) (by simpa using h2) (by simpa using h3)
   have:=hf a b a' b'
   omega
theorem map_D (f:Int→Int) (M:Int) (hf:∀ a a':Int,max (f a - f a') (f a' - f a)≤M * max (a - a') (a' - a)):∀ (x x':List Int),x.length=x'.length→apaS (x.map f) (x'.map f)≤M * apaS x x':=by
 intro x
 induction x with
 | nil=>intro x' h; obtain rfl:=List.length_eq_zero_iff.1 h.symm; simp [apaS_nil]
 | cons a x ih =>
  intro x' h
  match x',h with
  | a' :: x',h =>
   simp only [List.map_cons,apaS_cons,Int.mul_add]
   have:=ih x' (by simpa using h)
   have:=hf a a'
   omega
theorem app_D:∀ (x x' y y':List Int),x.length=x'.length→apaS (x ++ y) (x' ++ y')=apaS x x' + apaS y y':=by
 intro x
 induction x with
 | nil=>intro x' y y' h; obtain rfl:=List.length_eq_zero_iff.1 h.symm; simp [apaS_nil]
 | cons a x ih =>
  intro x' y y' h
  match x',h with
  | a' :: x',h =>
   simp only [List.cons_append,apaS_cons]
   rw [ih x' y y' (by simpa using h)]
   omega
theorem sm_D:∀ (x x':List Int),x.length=x'.length→max (smL x - smL x') (smL x' - smL x)≤apaS x x':=by
 intro x
 induction x with
 | nil=>intro x' h; obtain rfl:=List.length_eq_zero_iff.1 h.symm; simp [apaS_nil,smL]
 | cons a x ih =>
  intro x' h
  match x',h with
  | a' :: x',h =>
   simp only [smL,apaS_cons]
   have:=ih x' (by simpa using h)
   omega
theorem pick_D:∀ (x x':List Int) (i:Nat),x.length=x'.length→max (x.getD i 0 - x'.getD i 0) (x'.getD i 0 - x.getD i 0)≤apaS x x':=by
 intro x
 induction x with
 | nil=>intro x' i h; obtain rfl:=List.length_eq_zero_iff.1 h.symm; simp [apaS_nil]
 | cons a x ih =>
  intro x' i h
  match x',h with
  | a' :: x',h =>
   have hn:=apaS_nn x x'
   cases i with
   | zero=>simp only [List.getD_cons_zero,apaS_cons]; omega
   | succ i =>
    simp only [List.getD_cons_succ,apaS_cons]
    have:=ih x' i (by simpa using h)
    omega
theorem ans_D {l:List Col} (hs:Szs l) {rs us:List (List Int)} (hl:rs.length≤4096) (hl':us.length≤4096) (h1:∀ r∈rs,RowOk l r) (h2:∀ r∈us,RowOk l r) (q:Qu):∀ (lv:Nat) (b:Bnd),bnd l lv q=.ok b→apaS (ans l rs q) (ans l us q)≤b.2.1 * apaS (celT l rs) (celT l us):=by
 have hN:=apaS_nn (celT l rs) (celT l us)
 induction q with
 | none=>intro lv b h; simp only [bnd] at h; cases h; simp [ans,apaS_nil]
 | node k c lo hi wh n x y ihx ihy =>
  intro lv b h
  obtain ⟨hk,⟨x1,x2,x3⟩,⟨y1,y2,y3⟩,hbx,hby,hr,hlim⟩:=lim_inv h
  have bx:1≤n→apaS (ans l rs x) (ans l us x)≤x2 * apaS (celT l rs) (celT l us)∧(ans l rs x).length=(ans l us x).length∧(x≠.none→((ans l rs x).length:Int)=x1):=fun hn=>by
   rw [ifK,if_pos hn] at hbx
   refine ⟨ihx _ _ hbx,?_,fun hx=>(ans_ok hs hl x _ _ hbx hx).1⟩
   by_cases hx:x=.none
   ·rw [hx]; rfl
   ·have e1:=(ans_ok hs hl x _ _ hbx hx).1
    have e2:=(ans_ok hs hl' x _ _ hbx hx).1
    omega
  have b_y:2≤n→apaS (ans l rs y) (ans l us y)≤y2 * apaS (celT l rs) (celT l us)∧(ans l rs y).length=(ans l us y).length∧(y≠.none→((ans l rs y).length:Int)=y1):=fun hn=>by
   rw [ifK,if_pos hn] at hby
   refine ⟨ihy _ _ hby,?_,fun hy=>(ans_ok hs hl y _ _ hby hy).1⟩
   by_cases hy:y=.none
   ·rw [hy]; rfl
   ·have e1:=(ans_ok hs hl y _ _ hby hy).1
    have e2:=(ans_ok hs hl' y _ _ hby hy).1
    omega
  have zx:1≤n→x=.none→x1=0:=fun hn hx=>by
   rw [ifK,if_pos hn,hx] at hbx; simp only [bnd] at hbx; cases hbx; rfl
  have zy:2≤n→y=.none→y1=0:=fun hn hy=>by
   rw [ifK,if_pos hn,hy] at hby; simp only [bnd] at hby; cases hby; rfl
  have lx:1≤n→((ans l rs x).length:Int)=x1:=fun hn=>by
   by_cases hx:x=.none
   ·rw [zx hn hx,hx]; rfl
   ·exact (bx hn).2.2 hx
  have ly:2≤n→((ans l rs y).length:Int)=y1:=fun hn=>by
   by_cases hy:y=.none
   ·rw [zy hn hy,hy]; rfl
   ·exact (b_y hn).2.2 hy
  clear hbx hby ihx ihy zx zy
  have hkc:¬ kidN k < 0:=by omega
  rcases kidN_cases hkc with rfl | rfl | rfl | rfl | rfl | rfl | rfl | rfl | rfl | rfl
  ·simp [rec] at hr
   obtain ⟨_,rfl⟩:=ifW_ok hr
   rw [ans_leaf _ _ _ _ _ _ _ _ _ (by simp),ans_leaf _ _ _ _ _ _ _ _ _ (by simp)]
   exact gat_D hs h1 h2 (fun r=>by simp [stp])
  ·simp [rec] at hr
   split at hr
   ·split at hr
    ·rename_i hw
     obtain ⟨_,rfl⟩:=ifW_ok hr
     rw [ans_leaf _ _ _ _ _ _ _ _ _ (by simp),ans_leaf _ _ _ _ _ _ _ _ _ (by simp)]
     exact gat_D hs h1 h2 (fun r=>by simpa [stp] using inT_bd hw)
    ·cases hr
   ·cases hr
  ·simp [rec] at hr
   split at hr
   ·obtain ⟨_,rfl⟩:=ifW_ok hr
    rw [ans_leaf _ _ _ _ _ _ _ _ _ (by simp),ans_leaf _ _ _ _ _ _ _ _ _ (by simp)]
    exact gat_D hs h1 h2 (fun r=>by simp [stp])
   ·cases hr
  ·simp [rec] at hr
   have hn:n=2:=by simp [kidN] at hk; omega
   obtain ⟨e1,e2,_⟩:=bx (by omega)
   obtain ⟨e3,e4,_⟩:=b_y (by omega)
   have e5:=lx (by omega)
   have e6:=ly (by omega)
   split at hr
   ·cases hr
    rw [ans_4,ans_4]
    have:=zip_D (· + ·) (fun a b a' b'=>by omega) _ _ _ _ e2 e4 (by omega)
    simp only [Int.add_mul]
    omega
   ·cases hr
  ·simp [rec] at hr
   have hn:n=2:=by simp [kidN] at hk; omega
   obtain ⟨e1,e2,_⟩:=bx (by omega)
   obtain ⟨e3,e4,_⟩:=b_y (by omega)
   have e5:=lx (by omega)
   have e6:=ly (by omega)
   split at hr
   ·cases hr
    rw [ans_5,ans_5]
    have:=zip_D (· - ·) (fun a b a' b'=>by omega) _ _ _ _ e2 e4 (by omega)
    simp only [Int.add_mul]
    omega
   ·cases hr
  ·simp [rec] at hr
   have hn:n=1:=by simp [kidN] at hk; omega
   obtain ⟨e1,e2,_⟩:=bx (by omega)
   split at hr
   ·rename_i hw
    cases hr
    rw [ans_6,ans_6]
    have hsp:=spn_bd hw
    have hlo:-spn lo lo≤lo∧lo≤spn lo lo:=by unfold spn; split <;> omega
    have:=map_D (lo * ·) (spn lo lo) (fun a a'=>by
     have h4:=mul_abs (a:=lo) (b:=a - a') (M:=spn lo lo) (N:=max (a - a') (a' - a)) hlo (by omega)
     have h5:lo * a - lo * a' = lo * (a - a'):=by rw [Int.mul_sub]
     omega) _ _ e2
    have h6:=Int.mul_le_mul_of_nonneg_left e1 hsp.1
    simp only
    rw [Int.mul_assoc]
    omega
   ·cases hr
  ·simp [rec] at hr
   have hn:n=2:=by simp [kidN] at hk; omega
   obtain ⟨e1,e2,_⟩:=bx (by omega)
   obtain ⟨e3,e4,_⟩:=b_y (by omega)
   cases hr
   rw [ans_7,ans_7,app_D _ _ _ _ e2]
   simp only [Int.add_mul]
   omega
  ·simp [rec] at hr
   have hn:n=1:=by simp [kidN] at hk; omega
   obtain ⟨e1,e2,_⟩:=bx (by omega)
   cases hr
   rw [ans_8,ans_8,apaS_cons,apaS_nil]
   have:=sm_D _ _ e2
   simp only
   omega
  ·simp [rec] at hr
   have hn:n=1:=by simp [kidN] at hk; omega
   obtain ⟨e1,e2,_⟩:=bx (by omega)
   split at hr
   ·cases hr
    rw [ans_9,ans_9,apaS_cons,apaS_nil]
    have:=pick_D _ _ lo.toNat e2
    simp only
    omega
   ·cases hr
  ·simp [rec] at hr
   have hn:n=1:=by simp [kidN] at hk; omega
   obtain ⟨e1,e2,_⟩:=bx (by omega)
   split at hr
   ·rename_i hw
    cases hr
    rw [ans_10,ans_10]
    have:=map_D (inT lo hi) 1 (fun a a'=>by
     simp only [wrtB,decide_eq_true_eq] at hw
     unfold inT
     repeat' split
     all_goals omega) _ _ e2
    simp only
    omega
   ·cases hr
theorem catchI_no (p:Nat) (x:Value) (e:Int) (w:World) (hc:Cl w p 0 x) :
  CallsD Tryz.prog 199 #[.pointer (some ⟨p,0,none⟩)] (.panicking (chn e)) w fun r u' w' =>
   r=.returned (.tuple #[])∧u' = .panicking [{ v:=.iface 158 (.agg #[.int .i64 e]),recovered:=true }]∧w' = (w.alloc (.cells #[.int .i64 e] 158)).setCell ⟨p,0,none⟩ (.int .i64 e):=by
 refine callsD_of_wpS Tryz.func199 rfl fun c₀ cs hu=>?_
 apply wpS_seq
 apply wpS_region
 simp [wpOpsS,go_sem,recoverD,hu,chn,Tryz.ntmps199,Exit.thenS]
 refine wpS_of_wp ?_
 change Code.wp Tryz.prog _ _ { tmps:=#[.pointer (some ⟨p,0,none⟩),undef,undef,undef,.iface 158 (.agg #[.int .i64 e]),undef,undef,undef,undef,undef,undef,undef],defers:=[] } w
 have ha:=assert70
 have hq:=eqnil70
 have hz2:=(hc.at (ba w (.cells #[.int .i64 e] 158))).f
 have hz3:=(hc.at (ba w (.cells #[.int .i64 e] 158))).c
 go_wp2
 exact ⟨rfl,_,rfl,_,results_none rfl _ _ _,rfl,rfl,rfl⟩
theorem catchI_ok (p:Addr) (w:World) :
  CallsD Tryz.prog 199 #[.pointer (some p)] .returning w fun r u' w'=>r=.returned (.tuple #[])∧u' = .returning∧w' = w:=by
 refine callsD_of_wpS Tryz.func199 rfl fun c₀ cs hu=>?_
 apply wpS_seq
 apply wpS_region
 simp [wpOpsS,go_sem,recoverD,hu,Tryz.ntmps199,Exit.thenS]
 refine wpS_of_wp ?_
 change Code.wp Tryz.prog _ _ { tmps:=#[.pointer (some p),undef,undef,undef,.nilIface,undef,undef,undef,undef,undef,undef,undef],defers:=[] } w
 go_wp2
 exact ⟨rfl,.returning,by rw [← hu],_,results_none rfl _ _ _,rfl,rfl,rfl⟩
theorem caughtI_ok (caps:Array Value) (Q:Value→World→Prop) (w:World) (kc:∀ W,Below w.heap.size w W→w.heap.size + 1≤W.heap.size→Calls Tryz.prog 159 caps W fun x w'=>∃ V,x=.returned V∧Q V w'∧Below W.heap.size W w') :
  Calls Tryz.prog 158 #[.func (.func 159) #[] caps] w fun e w'=>∃ V w1,e=.returned (.tuple #[V,.int .i64 0])∧Q V w1∧Below w.heap.size w w1∧w' = w1.setCell ⟨w.heap.size,0,none⟩ (.int .i64 0):=by
 have hmf:=hmf
 go_enter_defers Tryz.func158,Tryz.ntmps158
 have k1:=kc (w.alloc (.cells #[.int .i64 0] 33)) (ba _ _) (by simp)
 go_wp2_with fail
 refine k1.mono ?_
 rintro e w1 ⟨V,rfl,hQ,hb1⟩
 have a0:=(Cl.new (w:=w) #[.int .i64 0] 33 0 _ rfl rfl).at hb1
 have hbw:Below w.heap.size w w1:=bt (ba _ _) hb1
 have t0:=a0.c
 have s0:=a0.f
 clear hb1 k1 kc
 go_wp2
 refine leaves_cons (f:=199) (args:=#[.pointer (some ⟨w.heap.size,0,none⟩)]) (by simp) (by simp [go_sem]) ?_
 refine (catchI_ok _ _).mono ?_
 rintro e u' w'' ⟨rfl,rfl,rfl⟩
 simp [Leaves,settle,results,Tryz.results158,go_sem,t0]
 exact ⟨_,hQ,hbw,rfl⟩
theorem caughtI_no (caps:Array Value) (er:Int) (w:World) (kc:∀ W,Below w.heap.size w W→w.heap.size + 1≤W.heap.size→Calls Tryz.prog 159 caps W fun x w'=>x=.panicked (chn er)∧Below W.heap.size W w') :
  Calls Tryz.prog 158 #[.func (.func 159) #[] caps] w fun e w'=>e=.returned (.tuple #[.int .i64 0,.int .i64 er])∧Below w.heap.size w w':=by
 have hmf:=hmf
 go_enter_defers Tryz.func158,Tryz.ntmps158
 have k1:=kc (w.alloc (.cells #[.int .i64 0] 33)) (ba _ _) (by simp)
 go_wp2_with fail
 refine k1.mono ?_
 rintro e w1 ⟨rfl,hb1⟩
 have a0:=(Cl.new (w:=w) #[.int .i64 0] 33 0 _ rfl rfl).at hb1
 have hbw:Below w.heap.size w w1:=bt (ba _ _) hb1
 have t0:=a0.c
 have s0:=a0.f
 clear hb1 k1 kc
 go_wp2
 refine leaves_cons (f:=199) (args:=#[.pointer (some ⟨w.heap.size,0,none⟩)]) (by simp) (by simp [go_sem]) ?_
 refine (catchI_no _ _ _ _ a0).mono ?_
 rintro e u' w'' ⟨rfl,rfl,rfl⟩
 have hbz:Below w.heap.size w ((w1.alloc (.cells #[.int .i64 er] 158)).setCell ⟨w.heap.size,0,none⟩ (.int .i64 er)):=bs (bal hbw _) (Nat.le_refl _) _
 have r0:=(a0.at (ba _ (.cells #[.int .i64 er] 158))).c
 simp [Leaves,settle,results,Tryz.results158,go_sem,r0]
 exact hbz
end Go.Proofs.YtlndlpjadajelaaGreat.K
