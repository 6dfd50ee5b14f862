import Derived.Test.YtpmioeamdhdokaaGreatQq24
import Derived.RegionDies
import Derived.Laws.StructEq
open Go.Proofs.Tryz
set_option linter.unusedSimpArgs false
set_option maxHeartbeats 16000000
set_option maxRecDepth 100000
namespace Go.Proofs.YtpmioeamdhdokaaGreat
variable {W W' w w':World} {M N e k x:Int} {b c g i lv n:Nat} {kv wv:Value} {out r xs ys:List Int} {ps:List (Nat × Int × Int)} {f:List Int->Nat × Int} {rs:List (List Int)} {cur:Array Value}
namespace K
open Go.RowKit K.Ds
def eR:Except Int uZ->Ending
 | .error e=>.panicked (chn e)
 | .ok b=>.returned (.agg #[.int .i64 b.1,.int .i64 b.2.1,.int .i64 b.2.2])
structure Rk (W:World) (N:Nat) (k:Int) (c:ByteArray) (lo hi:Int) (wv kv:Value) (x1 x2 x3 y1 y2 y3:Int):Prop where
 a0:Cl W N 0 (.int .i64 k)
 a1:Cl W N 1 (.string c)
 a2:Cl W N 2 (.int .i64 lo)
 a3:Cl W N 3 (.int .i64 hi)
 a4:Cl W N 4 wv
 a5:Cl W N 5 kv
 b0:Cl W (N+1) 0 (.int .i64 x1)
 b1:Cl W (N+1) 1 (.int .i64 x2)
 b2:Cl W (N+1) 2 (.int .i64 x3)
 d0:Cl W (N+1+1) 0 (.int .i64 y1)
 d1:Cl W (N+1+1) 1 (.int .i64 y2)
 d2:Cl W (N+1+1) 2 (.int .i64 y3)
 e0:Cl W (N+1+1+1) 0 (.int .i64 0)
 e1:Cl W (N+1+1+1) 1 (.int .i64 0)
 e2:Cl W (N+1+1+1) 2 (.int .i64 0)
theorem Rk.at {N:Nat}{c:ByteArray}{lo hi:Int}{x1 x2 x3 y1 y2 y3:Int}(h:Rk W N k c lo hi wv kv x1 x2 x3 y1 y2 y3)(hb:Below W.heap.size W W'):Rk W' N k c lo hi wv kv x1 x2 x3 y1 y2 y3 :=
 ⟨h.a0.at hb,h.a1.at hb,h.a2.at hb,h.a3.at hb,h.a4.at hb,h.a5.at hb,h.b0.at hb,h.b1.at hb,h.b2.at hb,h.d0.at hb,h.d1.at hb,h.d2.at hb,h.e0.at hb,h.e1.at hb,h.e2.at hb⟩
theorem Rk.new (w:World)(k:Int)(c:ByteArray)(lo hi:Int)(wv kv:Value)(x1 x2 x3 y1 y2 y3:Int) :
  Rk ((((w.alloc (.cells #[.int .i64 k,.string c,.int .i64 lo,.int .i64 hi,wv,kv] 52)).alloc (.cells #[.int .i64 x1,.int .i64 x2,.int .i64 x3] 135)).alloc (.cells #[.int .i64 y1,.int .i64 y2,.int .i64 y3] 135)).alloc (.cells #[.int .i64 0,.int .i64 0,.int .i64 0] 135)) w.heap.size k c lo hi wv kv x1 x2 x3 y1 y2 y3:=by
 constructor
 all_goals first
  | exact(((Cl.new _ 52 _ _ rfl rfl).at (ba _ _)).at (ba _ _)).at (ba _ _)
  | exact((Cl.new _ 135 _ _ (by simp) rfl).at (ba _ _)).at (ba _ _)
  | exact(Cl.new _ 135 _ _ (by simp) rfl).at (ba _ _)
  | exact Cl.new _ 135 _ _ (by simp) rfl
abbrev nH (w:World) (lv:Value) (k:Int) (c:ByteArray) (lo hi:Int) (wv kv:Value) (x1 x2 x3 y1 y2 y3:Int) (r:Except Int uZ):Prop :=
 Calls prog 156 #[lv,.agg #[.int .i64 k,.string c,.int .i64 lo,.int .i64 hi,wv,kv],.agg #[.int .i64 x1,.int .i64 x2,.int .i64 x3],.agg #[.int .i64 y1,.int .i64 y2,.int .i64 y3]] w fun e w'=>e=eR r/\Below w.heap.size w w'
theorem b4 (w:World)(o1 o2 o3 o4:Obj):Below w.heap.size w ((((w.alloc o1).alloc o2).alloc o3).alloc o4):=bal (bal (bal (ba _ _) _) _) _
theorem j9 (h:Below w.heap.size w W)(u0 u1 u2:Value):Below w.heap.size w (((W.setCell ⟨w.heap.size+1+1+1,0,none⟩ u0).setCell ⟨w.heap.size+1+1+1,1,none⟩ u1).setCell ⟨w.heap.size+1+1+1,2,none⟩ u2) :=
 bs (bs (bs h (by dsimp only;omega) _) (by dsimp only;omega) _) (by dsimp only;omega) _
theorem dbQ (lv:Value)(c:ByteArray)(lo hi:Int)(wv kv:Value)(x1 x2 x3 y1 y2 y3:Int)(hx:jJ (x1,x2,x3))(hy:jJ (y1,y2,y3))(w:World):nH w lv 7 c lo hi wv kv x1 x2 x3 y1 y2 y3 (.ok (x1+y1,x2+y2,mx x3 y3)):=by
 obtain⟨p1,p2,p3,p4,p5,p6⟩:=hx;obtain⟨q1,q2,q3,q4,q5,q6⟩:=hy;simp only at p1 p2 p3 p4 p5 p6 q1 q2 q3 q4 q5 q6;go_enter func156,ntmps156;go_wp2
 ·exact uQ (v:=.agg #[.int .i64 (x1+y1),.int .i64 (x2+y2),.int .i64 (y3)]) (by simp[results,results156,go_sem]) rfl ⟨by rw[show mx x3 y3=y3 by unfold mx;split <;> omega];rfl,b4 _ _ _ _ _⟩
 ·exact uQ (v:=.agg #[.int .i64 (x1+y1),.int .i64 (x2+y2),.int .i64 (x3)]) (by simp[results,results156,go_sem]) rfl ⟨by rw[show mx x3 y3=x3 by unfold mx;split <;> omega];rfl,b4 _ _ _ _ _⟩
theorem dbX (lv:Value)(c:ByteArray)(lo hi:Int)(wv kv:Value)(x1 x2 x3 y1 y2 y3:Int)(hx:jJ (x1,x2,x3))(hy:jJ (y1,y2,y3))(w:World):nH w lv 8 c lo hi wv kv x1 x2 x3 y1 y2 y3 (.ok (1,x2,x1*x3)):=by
 obtain⟨p1,p2,p3,p4,p5,p6⟩:=hx;obtain⟨q1,q2,q3,q4,q5,q6⟩:=hy;simp only at p1 p2 p3 p4 p5 p6 q1 q2 q3 q4 q5 q6;have hm:=dJ p1 p2 p5 p6;have hw:wrap64 (x1*x3)=x1*x3:=nM (by omega);go_enter func156,ntmps156;go_wp2;exact uQ (v:=.agg #[.int .i64 (1),.int .i64 (x2),.int .i64 (x1*x3)]) (by simp[results,results156,go_sem]) rfl ⟨rfl,b4 _ _ _ _ _⟩
theorem dbZ (lv:Value)(c:ByteArray)(lo hi:Int)(wv kv:Value)(x1 x2 x3 y1 y2 y3:Int)(hx:jJ (x1,x2,x3))(hy:jJ (y1,y2,y3))(w:World):nH w lv 4 c lo hi wv kv x1 x2 x3 y1 y2 y3 (if x1=y1 then .ok (x1,x2+y2,x3+y3) else .error 8):=by
 obtain⟨p1,p2,p3,p4,p5,p6⟩:=hx;obtain⟨q1,q2,q3,q4,q5,q6⟩:=hy;simp only at p1 p2 p3 p4 p5 p6 q1 q2 q3 q4 q5 q6;go_enter func156,ntmps156;by_cases h:x1=y1
 ·rw[zQ h]
  subst h;go_wp2_with fail;refine(eF 8 _).mono ?_;rintro e w2 ⟨rfl,rfl⟩;go_wp2;exact uQ (v:=.agg #[.int .i64 (x1),.int .i64 (x2+y2),.int .i64 (x3+y3)]) (by simp[results,results156,go_sem]) rfl ⟨rfl,b4 _ _ _ _ _⟩
 ·rw[xQ h]
  have hq:(x1 == y1)=false:=by simpa using h
  go_wp2_with fail;refine(oY 8 _).mono ?_;rintro e w2 ⟨rfl,rfl⟩;go_wp2;exact⟨rfl,rfl,b4 _ _ _ _ _⟩
theorem dbJ (lv:Value)(c:ByteArray)(lo hi:Int)(wv kv:Value)(x1 x2 x3 y1 y2 y3:Int)(hx:jJ (x1,x2,x3))(hy:jJ (y1,y2,y3))(w:World):nH w lv 5 c lo hi wv kv x1 x2 x3 y1 y2 y3 (if x1=y1 then .ok (x1,x2+y2,x3+y3) else .error 8):=by
 obtain⟨p1,p2,p3,p4,p5,p6⟩:=hx;obtain⟨q1,q2,q3,q4,q5,q6⟩:=hy;simp only at p1 p2 p3 p4 p5 p6 q1 q2 q3 q4 q5 q6;go_enter func156,ntmps156;by_cases h:x1=y1
 ·rw[zQ h]
  subst h;go_wp2_with fail;refine(eF 8 _).mono ?_;rintro e w2 ⟨rfl,rfl⟩;go_wp2;exact uQ (v:=.agg #[.int .i64 (x1),.int .i64 (x2+y2),.int .i64 (x3+y3)]) (by simp[results,results156,go_sem]) rfl ⟨rfl,b4 _ _ _ _ _⟩
 ·rw[xQ h]
  have hq:(x1 == y1)=false:=by simpa using h
  go_wp2_with fail;refine(oY 8 _).mono ?_;rintro e w2 ⟨rfl,rfl⟩;go_wp2;exact⟨rfl,rfl,b4 _ _ _ _ _⟩
theorem dcQ (lv:Value)(c:ByteArray)(lo hi:Int)(wv kv:Value)(x1 x2 x3 y1 y2 y3:Int)(hx:jJ (x1,x2,x3))(hy:jJ (y1,y2,y3))(w:World):nH w lv 9 c lo hi wv kv x1 x2 x3 y1 y2 y3 (if 0<=lo/\lo<x1 then .ok (1,x2,x3) else .error 3):=by
 obtain⟨p1,p2,p3,p4,p5,p6⟩:=hx;obtain⟨q1,q2,q3,q4,q5,q6⟩:=hy;simp only at p1 p2 p3 p4 p5 p6 q1 q2 q3 q4 q5 q6;go_enter func156,ntmps156;by_cases h:0<=lo/\lo<x1
 ·rw[zQ h]
  obtain⟨h1,h2⟩:=h;go_wp2_with fail;refine(eF 3 _).mono ?_;rintro e w2 ⟨rfl,rfl⟩;go_wp2;exact uQ (v:=.agg #[.int .i64 (1),.int .i64 (x2),.int .i64 (x3)]) (by simp[results,results156,go_sem]) rfl ⟨rfl,b4 _ _ _ _ _⟩
 ·rw[xQ h]
  by_cases h1:0<=lo
  ·have h2:¬ lo<x1:=fun h2=>h ⟨h1,h2⟩
   go_wp2_with fail;refine(oY 3 _).mono ?_;rintro e w2 ⟨rfl,rfl⟩;go_wp2;exact⟨rfl,rfl,b4 _ _ _ _ _⟩
  ·go_wp2_with fail
   refine(oY 3 _).mono ?_;rintro e w2 ⟨rfl,rfl⟩;go_wp2;exact⟨rfl,rfl,b4 _ _ _ _ _⟩
theorem dcX (lv:Value)(c:ByteArray)(lo hi:Int)(wv kv:Value)(x1 x2 x3 y1 y2 y3:Int)(hx:jJ (x1,x2,x3))(hy:jJ (y1,y2,y3))(w:World):nH w lv 6 c lo hi wv kv x1 x2 x3 y1 y2 y3 (if nY lo lo then .ok (x1,spn lo lo*x2,spn lo lo*x3) else .error 3):=by
 obtain⟨p1,p2,p3,p4,p5,p6⟩:=hx;obtain⟨q1,q2,q3,q4,q5,q6⟩:=hy;simp only at p1 p2 p3 p4 p5 p6 q1 q2 q3 q4 q5 q6;go_enter func156,ntmps156;cases h:nY lo lo with
 | true =>
  have h0:=iL h;have m1:=dJ h0.1 h0.2 p3 p4;have m2:=dJ h0.1 h0.2 p5 p6;have k1:=fun W=>o8 lo lo W h;obtain⟨s,hs⟩:∃ s,spn lo lo=s:=⟨_,rfl⟩;rw[hs] at h0 m1 m2 k1;rw[zQ rfl,hs];have hw1:wrap64 (s*x2)=s*x2:=nM (by omega);have hw2:wrap64 (s*x3)=s*x3:=nM (by omega);clear hs h;go_wp2_with fail;refine(k1 _).mono ?_;rintro e w2 ⟨rfl,rfl⟩;clear k1;go_wp2;exact uQ (v:=.agg #[.int .i64 (x1),.int .i64 (s*x2),.int .i64 (s*x3)]) (by simp[results,results156,go_sem]) rfl ⟨rfl,b4 _ _ _ _ _⟩
 | false =>
  rw[xQ (by simp)];go_wp2_with fail;refine(x9 lo lo _ h).mono ?_;rintro e w2 ⟨rfl,rfl⟩;go_wp2;exact⟨rfl,rfl,b4 _ _ _ _ _⟩
theorem dcZ (lv:Value)(c:ByteArray)(lo hi:Int)(wv kv:Value)(x1 x2 x3 y1 y2 y3:Int)(hx:jJ (x1,x2,x3))(hy:jJ (y1,y2,y3))(w:World)(B:Nat)(l:List yQ)(wh:List aZ)(hB:B<=w.heap.size)(hp:tQ w B lv l)(hq:qJ w B wv wh)(r:Except Int uZ)(hr:wA (wY l wh) (1,1,4096)=r):nH w lv 1 c lo hi wv kv x1 x2 x3 y1 y2 y3 (r):=by
 obtain⟨p1,p2,p3,p4,p5,p6⟩:=hx;obtain⟨q1,q2,q3,q4,q5,q6⟩:=hy;simp only at p1 p2 p3 p4 p5 p6 q1 q2 q3 q4 q5 q6;obtain⟨er,her⟩:∃ er,wY l wh=er:=⟨_,rfl⟩;rw[her] at hr;have HR:=qQ hr;have rk:=Rk.new w 1 c lo hi wv kv x1 x2 x3 y1 y2 y3;have k1:=gO B lv wv l wh ((((w.alloc (.cells #[.int .i64 1,.string c,.int .i64 lo,.int .i64 hi,wv,kv] 52)).alloc (.cells #[.int .i64 x1,.int .i64 x2,.int .i64 x3] 135)).alloc (.cells #[.int .i64 y1,.int .i64 y2,.int .i64 y3] 135)).alloc (.cells #[.int .i64 0,.int .i64 0,.int .i64 0] 135)) (by simp;omega) (hp.at hB (b4 _ _ _ _ _)) (hq.at hB (b4 _ _ _ _ _)) er her;obtain⟨wa,wc,rfl,_⟩:=hq.slice;obtain⟨la,lc,rfl,hlc,hll⟩:=hp.slice;clear her hp hq hr;go_enter func156,ntmps156;go_wp2_with fail;refine k1.mono ?_;rintro e w1 ⟨hb1,h⟩;clear k1;have hbw:Below w.heap.size w w1:=bt (b4 _ _ _ _ _) hb1;have rk1:=rk.at hb1;clear hb1 rk;rcases h with⟨rfl,A,sv,es,_,rfl,_⟩|⟨he,rfl⟩
 ·obtain rfl:Except.ok (1,1,4096)=r:=by rw[<-HR.out,wA,zQ rfl]
  have t0:=rk1.e0.c;have t1:=rk1.e1.c;have t2:=rk1.e2.c;have s0:=rk1.e0.f;have s1:=rk1.e1.f;have s2:=rk1.e2.f;go_wp2;exact uQ (v:=.agg #[.int .i64 (1),.int .i64 (1),.int .i64 (4096)]) (by simp[results,results156,go_sem,t0,t1,t2]) rfl ⟨rfl,j9 hbw _ _ _⟩
 ·obtain rfl:Except.error er=r:=by rw[<-HR.out,wA,xQ he]
  go_wp2;exact⟨rfl,rfl,hbw⟩
theorem dcJ (lv:Value)(c:ByteArray)(lo hi:Int)(wv kv:Value)(x1 x2 x3 y1 y2 y3:Int)(hx:jJ (x1,x2,x3))(hy:jJ (y1,y2,y3))(w:World)(B:Nat)(l:List yQ)(wh:List aZ)(hB:B<=w.heap.size)(hp:tQ w B lv l)(hq:qJ w B wv wh)(r:Except Int uZ)(hr:rec l 2 c lo hi wh (x1,x2,x3) (y1,y2,y3)=r):nH w lv 2 c lo hi wv kv x1 x2 x3 y1 y2 y3 (r):=by
 obtain⟨p1,p2,p3,p4,p5,p6⟩:=hx;obtain⟨q1,q2,q3,q4,q5,q6⟩:=hy;simp only at p1 p2 p3 p4 p5 p6 q1 q2 q3 q4 q5 q6;have rk:=Rk.new w 2 c lo hi wv kv x1 x2 x3 y1 y2 y3;have HP:=qQ hp;have HQ:=qQ hq;have HR:=qQ hr;obtain⟨wa,wc,rfl,_⟩:=hq.slice;obtain⟨la,lc,rfl,hlc,hll⟩:=hp.slice;clear hp hq hr;go_enter func156,ntmps156;cases hf:fnd l c with
 | none =>
  obtain rfl:Except.error 7=r:=by rw[<-HR.out];simp[rec,hf]
  have k1:=jB B _ l c ((((w.alloc (.cells #[.int .i64 2,.string c,.int .i64 lo,.int .i64 hi,.slice wa wh.length wc,kv] 52)).alloc (.cells #[.int .i64 x1,.int .i64 x2,.int .i64 x3] 135)).alloc (.cells #[.int .i64 y1,.int .i64 y2,.int .i64 y3] 135)).alloc (.cells #[.int .i64 0,.int .i64 0,.int .i64 0] 135)) (by simp;omega) (HP.out.at hB (b4 _ _ _ _ _)) hf;clear hf;go_wp2_with fail;refine k1.mono ?_;rintro e w1 ⟨rfl,hb1⟩;have hbw:Below w.heap.size w w1:=bt (b4 _ _ _ _ _) hb1;go_wp2;exact⟨rfl,rfl,hbw⟩
 | some i =>
  have HF:=qQ hf;have k1:=cO B _ l c ((((w.alloc (.cells #[.int .i64 2,.string c,.int .i64 lo,.int .i64 hi,.slice wa wh.length wc,kv] 52)).alloc (.cells #[.int .i64 x1,.int .i64 x2,.int .i64 x3] 135)).alloc (.cells #[.int .i64 y1,.int .i64 y2,.int .i64 y3] 135)).alloc (.cells #[.int .i64 0,.int .i64 0,.int .i64 0] 135)) (by simp;omega) (HP.out.at hB (b4 _ _ _ _ _)) i hf;clear hf;go_wp2_with fail;refine k1.mono ?_;rintro e w1 ⟨rfl,hb1⟩;have hbw:Below w.heap.size w w1:=bt (b4 _ _ _ _ _) hb1;have rk1:=rk.at hb1;clear hb1 rk k1;have hsw:=hbw.size;have rk1a0:=rk1.a0.c;have rk1a1:=rk1.a1.c;have rk1a2:=rk1.a2.c;have rk1a3:=rk1.a3.c;have rk1a4:=rk1.a4.c;cases hw:nY lo hi with
  | false =>
   obtain rfl:Except.error 3=r:=by rw[<-HR.out];simp[rec,HF.out,hw]
   go_wp2_with fail;refine(x9 lo hi _ hw).mono ?_;rintro e w2 ⟨rfl,rfl⟩;go_wp2;exact⟨rfl,rfl,hbw⟩
  | true =>
   have h0:=iL hw;have k2:=fun W=>o8 lo hi W hw;have HR2:Hid (wA (wY l wh) (1,spn lo hi,4096*spn lo hi)=r):=by show _=_;have:=HR.out;simpa [rec,HF.out,hw] using this
   obtain⟨s,hs⟩:∃ s,spn lo hi=s:=⟨_,rfl⟩;obtain⟨er,her⟩:∃ er,wY l wh=er:=⟨_,rfl⟩;rw[hs] at h0 k2 HR2;rw[her] at HR2;have k3:=gO B _ _ l wh w1 (by omega) (HP.out.at hB hbw) (HQ.out.at hB hbw) er her;clear hs hw her HR;have HR:=qQ HR2;clear HR2;go_wp2_with fail;refine(k2 _).mono ?_;rintro e w2 ⟨rfl,rfl⟩;clear k2;go_wp2_with fail;refine k3.mono ?_;rintro e w3 ⟨hb3,h⟩;clear k3;have hbw3:Below w.heap.size w w3:=bt hbw hb3;have rk3:=rk1.at hb3;clear rk1a0 rk1a1 rk1a2 rk1a3 rk1a4;clear hb3 rk1 hbw hsw;rcases h with⟨rfl,A,sv,es,_,rfl,_⟩|⟨he,rfl⟩
   ·obtain rfl:Except.ok (1,s,4096*s)=r:=by rw[<-HR.out,wA,zQ rfl]
    have t0:=rk3.e0.c;have t1:=rk3.e1.c;have t2:=rk3.e2.c;have s0:=rk3.e0.f;have s1:=rk3.e1.f;have s2:=rk3.e2.f;go_wp2;exact uQ (v:=.agg #[.int .i64 (1),.int .i64 (s),.int .i64 (4096*s)]) (by simp[results,results156,go_sem,t0,t1,t2]) rfl ⟨rfl,j9 hbw3 _ _ _⟩
   ·obtain rfl:Except.error er=r:=by rw[<-HR.out,wA,xQ he]
    go_wp2;exact⟨rfl,rfl,hbw3⟩
theorem ddQ (lv:Value)(c:ByteArray)(lo hi:Int)(wv kv:Value)(x1 x2 x3 y1 y2 y3:Int)(hx:jJ (x1,x2,x3))(hy:jJ (y1,y2,y3))(w:World)(B:Nat)(l:List yQ)(wh:List aZ)(hB:B<=w.heap.size)(hp:tQ w B lv l)(hq:qJ w B wv wh)(r:Except Int uZ)(hr:rec l 3 c lo hi wh (x1,x2,x3) (y1,y2,y3)=r):nH w lv 3 c lo hi wv kv x1 x2 x3 y1 y2 y3 (r):=by
 obtain⟨p1,p2,p3,p4,p5,p6⟩:=hx;obtain⟨q1,q2,q3,q4,q5,q6⟩:=hy;simp only at p1 p2 p3 p4 p5 p6 q1 q2 q3 q4 q5 q6;have rk:=Rk.new w 3 c lo hi wv kv x1 x2 x3 y1 y2 y3;have HP:=qQ hp;have HQ:=qQ hq;have HR:=qQ hr;obtain⟨wa,wc,rfl,_⟩:=hq.slice;obtain⟨la,lc,rfl,hlc,hll⟩:=hp.slice;clear hp hq hr;go_enter func156,ntmps156;cases hf:fnd l c with
 | none =>
  obtain rfl:Except.error 7=r:=by rw[<-HR.out];simp[rec,hf]
  have k1:=jB B _ l c ((((w.alloc (.cells #[.int .i64 3,.string c,.int .i64 lo,.int .i64 hi,.slice wa wh.length wc,kv] 52)).alloc (.cells #[.int .i64 x1,.int .i64 x2,.int .i64 x3] 135)).alloc (.cells #[.int .i64 y1,.int .i64 y2,.int .i64 y3] 135)).alloc (.cells #[.int .i64 0,.int .i64 0,.int .i64 0] 135)) (by simp;omega) (HP.out.at hB (b4 _ _ _ _ _)) hf;clear hf;go_wp2_with fail;refine k1.mono ?_;rintro e w1 ⟨rfl,hb1⟩;have hbw:Below w.heap.size w w1:=bt (b4 _ _ _ _ _) hb1;go_wp2;exact⟨rfl,rfl,hbw⟩
 | some i =>
  have HF:=qQ hf;have k1:=cO B _ l c ((((w.alloc (.cells #[.int .i64 3,.string c,.int .i64 lo,.int .i64 hi,.slice wa wh.length wc,kv] 52)).alloc (.cells #[.int .i64 x1,.int .i64 x2,.int .i64 x3] 135)).alloc (.cells #[.int .i64 y1,.int .i64 y2,.int .i64 y3] 135)).alloc (.cells #[.int .i64 0,.int .i64 0,.int .i64 0] 135)) (by simp;omega) (HP.out.at hB (b4 _ _ _ _ _)) i hf;clear hf;go_wp2_with fail;refine k1.mono ?_;rintro e w1 ⟨rfl,hb1⟩;have hbw:Below w.heap.size w w1:=bt (b4 _ _ _ _ _) hb1;have rk1:=rk.at hb1;clear hb1 rk k1;have hsw:=hbw.size;have rk1a0:=rk1.a0.c;have rk1a1:=rk1.a1.c;have rk1a2:=rk1.a2.c;have rk1a3:=rk1.a3.c;have rk1a4:=rk1.a4.c;have HR2:Hid (wA (wY l wh) (hU l i,1,4096)=r):=by show _=_;have:=HR.out;simpa [rec,HF.out] using this
  obtain⟨er,her⟩:∃ er,wY l wh=er:=⟨_,rfl⟩;rw[her] at HR2;have k3:=gO B _ _ l wh w1 (by omega) (HP.out.at hB hbw) (HQ.out.at hB hbw) er her;clear her HR;have HR:=qQ HR2;clear HR2;go_wp2_with fail;refine k3.mono ?_;rintro e w3 ⟨hb3,h⟩;clear k3;have hbw3:Below w.heap.size w w3:=bt hbw hb3;have rk3:=rk1.at hb3;clear rk1a0 rk1a1 rk1a2 rk1a3 rk1a4;clear hb3 rk1 hbw hsw;have hil:=iK HF.out;obtain⟨b,o,nm,sz,rfl,hb,hgt,c1,c2,hn⟩:=HP.out.get hB hbw3 hil;have hsz:hU l i=sz:=by simp[hU,hgt]
  rw[hsz] at HR;clear hgt hsz;rcases h with⟨rfl,A,sv,es,_,rfl,_⟩|⟨he,rfl⟩
  ·obtain rfl:Except.ok (sz,1,4096)=r:=by rw[<-HR.out,wA,zQ rfl]
   have t0:=rk3.e0.c;have t1:=rk3.e1.c;have t2:=rk3.e2.c;have s0:=rk3.e0.f;have s1:=rk3.e1.f;have s2:=rk3.e2.f;go_wp2;exact uQ (v:=.agg #[.int .i64 (sz),.int .i64 (1),.int .i64 (4096)]) (by simp[results,results156,go_sem,t0,t1,t2]) rfl ⟨rfl,j9 hbw3 _ _ _⟩
  ·obtain rfl:Except.error er=r:=by rw[<-HR.out,wA,xQ he]
   go_wp2;exact⟨rfl,rfl,hbw3⟩
theorem ddX (lv:Value)(c:ByteArray)(lo hi:Int)(wv kv:Value)(x1 x2 x3 y1 y2 y3:Int)(hx:jJ (x1,x2,x3))(hy:jJ (y1,y2,y3))(w:World):nH w lv 10 c lo hi wv kv x1 x2 x3 y1 y2 y3 (if nY lo hi then .ok (x1,x2,spn lo hi) else .error 3):=by
 obtain⟨p1,p2,p3,p4,p5,p6⟩:=hx;obtain⟨q1,q2,q3,q4,q5,q6⟩:=hy;simp only at p1 p2 p3 p4 p5 p6 q1 q2 q3 q4 q5 q6;go_enter func156,ntmps156;cases h:nY lo hi with
 | true =>
  have k1:=fun W=>o8 lo hi W h;rw[zQ rfl];clear h;go_wp2
  go_region_held3 (fun w'=>w'.cell? ⟨w.heap.size,2,none⟩=some (.int .i64 lo)/\w'.cell? ⟨w.heap.size,3,none⟩=some (.int .i64 hi)/\w'.cell? ⟨w.heap.size+1,0,none⟩=some (.int .i64 x1)/\w'.cell? ⟨w.heap.size+1,1,none⟩=some (.int .i64 x2)) (first|assumption|(simp[go_sem, *];done)) ((go_at_call 225;refine(k1 _).mono ?_;rintro x3 w3 ⟨rfl,hw3⟩;subst hw3))
  go_wp2;exact uQ (v:=.agg #[.int .i64 x1,.int .i64 x2,.int .i64 (spn lo hi)]) (by simp[results,results156,go_sem]) rfl ⟨rfl,(b4 _ _ _ _ _).drew⟩
 | false =>
  have k1:=fun W=>x9 lo hi W h;rw[xQ (by simp)];clear h;go_wp2
  go_region_dies
  all_goals (go_at_call 225;refine(k1 _).mono ?_;rintro x3 w3 ⟨rfl,hw3⟩;subst hw3;exact⟨rfl,rfl,(b4 _ _ _ _ _).drew⟩)
theorem yB (h:¬ rX k<0):k=1\/k=2\/k=3\/k=4\/k=5\/k=6\/k=7\/k=8\/k=9\/k=10:=by
 unfold rX at h;split at h
 ·omega
 ·split at h
  ·omega
  ·split at h
   ·omega
   ·omega
theorem ddZ (k:Int)(hk:¬ rX k<0)(lv:Value)(c:ByteArray)(lo hi:Int)(wv kv:Value)(x y:uZ)(hx:jJ x)(hy:jJ y)(w:World)(B:Nat)(l:List yQ)(wh:List aZ)(hB:B<=w.heap.size)(hp:tQ w B lv l)(hq:qJ w B wv wh)
  (r:Except Int uZ) (hr:rec l k c lo hi wh x y=r):nH w lv k c lo hi wv kv x.1 x.2.1 x.2.2 y.1 y.2.1 y.2.2 r:=by
 obtain⟨x1,x2,x3⟩:=x;obtain⟨y1,y2,y3⟩:=y;rcases yB hk with rfl|rfl|rfl|rfl|rfl|rfl|rfl|rfl|rfl|rfl
 ·exact dcZ lv c lo hi wv kv x1 x2 x3 y1 y2 y3 hx hy w B l wh hB hp hq r (by rw[<-hr];simp[rec])
 ·exact dcJ lv c lo hi wv kv x1 x2 x3 y1 y2 y3 hx hy w B l wh hB hp hq r hr
 ·exact ddQ lv c lo hi wv kv x1 x2 x3 y1 y2 y3 hx hy w B l wh hB hp hq r hr
 ·subst hr;have:=dbZ lv c lo hi wv kv x1 x2 x3 y1 y2 y3 hx hy w;simpa [rec] using this
 ·subst hr;have:=dbJ lv c lo hi wv kv x1 x2 x3 y1 y2 y3 hx hy w;simpa [rec] using this
 ·subst hr;have:=dcX lv c lo hi wv kv x1 x2 x3 y1 y2 y3 hx hy w;simpa [rec] using this
 ·subst hr;have:=dbQ lv c lo hi wv kv x1 x2 x3 y1 y2 y3 hx hy w;simpa [rec] using this
 ·subst hr;have:=dbX lv c lo hi wv kv x1 x2 x3 y1 y2 y3 hx hy w;simpa [rec] using this
 ·subst hr;have:=dcQ lv c lo hi wv kv x1 x2 x3 y1 y2 y3 hx hy w;simpa [rec] using this
 ·subst hr;have:=ddX lv c lo hi wv kv x1 x2 x3 y1 y2 y3 hx hy w;simpa [rec] using this
def nG (ps:List (Nat × Int × Int)) (r:List Int):Bool:=ps.all fun e=>dO e.2.1 e.2.2 (r.getD e.1 0)
def bV (lo hi v:Int):Int:=if v<lo then lo else if hi<v then hi else v
def lK (out:List Int) (p:Nat × Int):List Int:=out.set p.1 (out.getD p.1 0+p.2)
def gst (ps:List (Nat × Int × Int)) (f:List Int->Nat × Int) (out r:List Int):List Int:=if nG ps r then lK out (f r) else out
def gat (n:Nat) (ps:List (Nat × Int × Int)) (f:List Int->Nat × Int) (rs:List (List Int)):List Int:=rs.foldl (gst ps f) (List.replicate n 0)
def stp (k:Int) (at':Nat) (lo hi:Int) (r:List Int):Nat × Int:=if k=1 then (0,1) else if k=2 then (0,bV lo hi (r.getD at' 0)) else ((r.getD at' 0).toNat,1)
def iD:List Int->Int
 | []=>0
 | a::l=>a+iD l
def fR (l:List yQ) (k:Int) (at':Nat):Nat:=if k=3 then (hU l at').toNat else 1
def ans (l:List yQ) (rs:List (List Int)):Qu->List Int
 | .none=>[]
 | .node k c lo hi wh _ x y =>
  if k=1\/k=2\/k=3 then gat (fR l k ((fnd l c).getD 0)) (wh.map (trp l)) (stp k ((fnd l c).getD 0) lo hi) rs
  else if k=4 then List.zipWith (· + ·) (ans l rs x) (ans l rs y)
  else if k=5 then List.zipWith (· - ·) (ans l rs x) (ans l rs y)
  else if k=6 then (ans l rs x).map (lo * ·)
  else if k=7 then ans l rs x++ans l rs y
  else if k=8 then [iD (ans l rs x)]
  else if k=9 then [(ans l rs x).getD lo.toNat 0]
  else (ans l rs x).map (bV lo hi)
section
variable (l:List yQ) (rs:List (List Int)) (c:ByteArray) (lo hi:Int) (wh:List aZ) (n:Nat) (x y:Qu)
theorem iO (h:k=1\/k=2\/k=3):ans l rs (.node k c lo hi wh n x y)=gat (fR l k ((fnd l c).getD 0)) (wh.map (trp l)) (stp k ((fnd l c).getD 0) lo hi) rs:=by
 simp only[ans];rw[zQ h]
theorem a4J:ans l rs (.node 4 c lo hi wh n x y)=List.zipWith (· + ·) (ans l rs x) (ans l rs y):=by simp[ans]
theorem a5Q:ans l rs (.node 5 c lo hi wh n x y)=List.zipWith (· - ·) (ans l rs x) (ans l rs y):=by simp[ans]
theorem a5X:ans l rs (.node 6 c lo hi wh n x y)=(ans l rs x).map (lo * ·):=by simp[ans]
theorem a5Z:ans l rs (.node 7 c lo hi wh n x y)=ans l rs x++ans l rs y:=by simp[ans]
theorem a5J:ans l rs (.node 8 c lo hi wh n x y)=[iD (ans l rs x)]:=by simp[ans]
theorem a6Q:ans l rs (.node 9 c lo hi wh n x y)=[(ans l rs x).getD lo.toNat 0]:=by simp[ans]
theorem a6X:ans l rs (.node 10 c lo hi wh n x y)=(ans l rs x).map (bV lo hi):=by simp[ans]
end
theorem ddJ (ps:List (Nat × Int × Int))(f:List Int->Nat × Int)(out r:List Int):(gst ps f out r).length=out.length:=by
 unfold gst lK;split <;> simp
theorem deQ (ps:List (Nat × Int × Int))(f:List Int->Nat × Int)(rs:List (List Int))(out:List Int):(rs.foldl (gst ps f) out).length=out.length:=by
 induction rs generalizing out with
 | nil=>rfl
 | cons r rs ih=>rw[List.foldl_cons,ih,ddJ]
theorem iF (n:Nat)(ps:List (Nat × Int × Int))(f:List Int->Nat × Int)(rs:List (List Int)):(gat n ps f rs).length=n:=by
 rw[gat,deQ];simp
def lZ (M:Int) (xs:List Int):Prop:=∀ z∈xs,-M<=z/\z<=M
theorem lZ.mono (h:lZ M xs)(hN:M<=N):lZ N xs:=fun z hz=>by have:=h z hz;omega
theorem lZ.getD (h:lZ M xs)(hM:0<=M)(i:Nat):-M<=xs.getD i 0/\xs.getD i 0<=M:=by
 rw[List.getD];cases hi:xs[i]? with
 | none=>simp;omega
 | some x=>exact h x (rQ hi)
theorem deX (h:lZ N out)(hN:0<=N)(hM:0<=M)(hf:-M<=(f r).2/\(f r).2<=M):lZ (N+M) (gst ps f out r):=by
 unfold gst;split
 ·intro z hz
  unfold lK at hz;rcases uK hz with hz|rfl
  ·have:=h z hz;omega
  ·have:=h.getD hN (f r).1;omega
 ·exact h.mono (by omega)
theorem deZ (hM:0<=M)(rs:List (List Int))(hf:∀ r∈rs,-M<=(f r).2/\(f r).2<=M):∀ (N:Int) (out:List Int),0<=N->lZ N out->lZ (N+rs.length*M) (rs.foldl (gst ps f) out):=by
 induction rs with
 | nil=>intro N out _ h;simpa using h
 | cons r rs ih =>
  intro N out hN h;rw[List.foldl_cons];have:=ih (fun r' h'=>hf r' (lP _ h')) (N+M) (gst ps f out r) (by omega) (deX h hN hM (hf r (mP ..)));refine this.mono ?_;rw[oJ,sS,aP];omega
theorem lO (hM:0<=M)(hf:∀ r∈rs,-M<=(f r).2/\(f r).2<=M)(hl:rs.length<=4096):lZ (4096*M) (gat n ps f rs):=by
 have h0:lZ 0 (List.replicate n (0:Int)):=fun z hz=>by have:=(List.mem_replicate.1 hz).2;omega
 refine(deZ hM rs hf 0 _ (zG _) h0).mono ?_;have:=xK (show((rs.length:Int))<=4096 by omega) hM;omega
theorem uB {lo hi v:Int}(h:nY lo hi=true):-spn lo hi<=bV lo hi v/\bV lo hi v<=spn lo hi:=by
 simp only[nY,qY] at h;unfold bV spn
 repeat' split
 all_goals omega
theorem deJ (h:lZ M xs):-(xs.length*M)<=iD xs/\iD xs<=xs.length*M:=by
 induction xs with
 | nil=>simp[iD]
 | cons a xs ih =>
  have h1:=ih fun z hz=>h z (lP _ hz);have h2:=h a (mP ..);simp only[iD,oJ];rw[sS,aP];omega
theorem a6Z {a b:Int}(h1:-M<=a/\a<=M)(h2:-N<=b/\b<=N):-(M*N)<=a*b/\a*b<=M*N:=by
 have hM:0<=M:=by omega
 have hN:0<=N:=by omega
 have ha:(a.natAbs:Int)<=M:=by omega
 have hb:(b.natAbs:Int)<=N:=by omega
 have h3:((a*b).natAbs:Int)<=M*N:=by
  rw[Int.natAbs_mul,cE];exact nN ha hb (by omega) hM
 omega
theorem a6J (f:Int->Int->Int)(hf:∀ a b,-M<=a/\a<=M->-N<=b/\b<=N->-(M+N)<=f a b/\f a b<=M+N)(hx:lZ M xs)(hy:lZ N ys):lZ (M+N) (List.zipWith f xs ys):=by
 induction xs generalizing ys with
 | nil=>intro z hz;simp at hz
 | cons a xs ih =>
  cases ys with
  | nil=>intro z hz;simp at hz
  | cons b ys =>
   intro z hz;rw[List.zipWith_cons_cons] at hz;rcases eX.1 hz with rfl|hz
   ·exact hf a b (hx a (mP ..)) (hy b (mP ..))
   ·exact ih (fun z hz=>hx z (lP _ hz)) (fun z hz=>hy z (lP _ hz)) z hz
theorem y9 {l:List yQ}{c:ByteArray}{lo hi:Int}{wh:List aZ}{x y:Qu}{b:uZ}(h:bnd l lv (.node k c lo hi wh n x y)=.ok b) :
  (n:Int)=rX k/\∃ bx b',sV (1<=n) (bnd l (lv+1) x)=.ok bx/\sV (2<=n) (bnd l (lv+1) y)=.ok b'/\rec l k c lo hi wh bx b' = .ok b/\oM b=true:=by
 simp only[bnd] at h;split at h
 ·cases h
 ·split at h
  ·cases h
  ·split at h
   ·rename_i hk
    split at h
    ·cases h
    ·rename_i bx hbx
     split at h
     ·cases h
     ·rename_i b' hby
      split at h
      ·cases h
      ·rename_i b0 hr
       obtain⟨rfl,hl⟩:=a2J h;exact⟨hk,bx,b',hbx,hby,hr,hl⟩
   ·cases h
theorem mK {b b':uZ}(h:wA e b=.ok b'):e=0/\b=b':=by
 unfold wA at h;split at h
 ·cases h;exact⟨by assumption,rfl⟩
 ·cases h
theorem aB {l:List yQ}(hs:fD l)(hl:rs.length<=4096)(q:Qu):∀ (lv:Nat) (b:uZ),bnd l lv q=.ok b->q≠.none->((ans l rs q).length:Int)=b.1/\lZ b.2.2 (ans l rs q):=by
 induction q with
 | none=>intro lv b _ h;exact absurd rfl h
 | node k c lo hi wh n x y ihx ihy =>
  intro lv b h _;obtain⟨hk,⟨x1,x2,x3⟩,⟨y1,y2,y3⟩,hbx,hby,hr,hlim⟩:=y9 h
  have kx:1<=n->x≠.none->((ans l rs x).length:Int)=x1/\lZ x3 (ans l rs x):=fun hn hx=>by
   rw[sV,zQ hn] at hbx;exact ihx _ _ hbx hx
  have ky:2<=n->y≠.none->((ans l rs y).length:Int)=y1/\lZ y3 (ans l rs y):=fun hn hy=>by
   rw[sV,zQ hn] at hby;exact ihy _ _ hby hy
  have zx:1<=n->x=.none->(x1,x2,x3)=((0,0,0):uZ):=fun hn hx=>by
   rw[sV,zQ hn,hx] at hbx;simp only[bnd] at hbx;cases hbx;rfl
  have zy:2<=n->y=.none->(y1,y2,y3)=((0,0,0):uZ):=fun hn hy=>by
   rw[sV,zQ hn,hy] at hby;simp only[bnd] at hby;cases hby;rfl
  have bx:1<=n->((ans l rs x).length:Int)=x1/\lZ x3 (ans l rs x):=fun hn=>by
   by_cases hx:x=.none
   ·have:=zx hn hx;simp only[dQ] at this;obtain⟨rfl,rfl,rfl⟩:=this;rw[hx];exact⟨by simp[ans],fun z hz=>by simp[ans] at hz⟩
   ·exact kx hn hx
  have b_y:2<=n->((ans l rs y).length:Int)=y1/\lZ y3 (ans l rs y):=fun hn=>by
   by_cases hy:y=.none
   ·have:=zy hn hy;simp only[dQ] at this;obtain⟨rfl,rfl,rfl⟩:=this;rw[hy];exact⟨by simp[ans],fun z hz=>by simp[ans] at hz⟩
   ·exact ky hn hy
  clear kx ky zx zy hbx hby ihx ihy;have hkc:¬ rX k<0:=by omega
  rcases yB hkc with rfl|rfl|rfl|rfl|rfl|rfl|rfl|rfl|rfl|rfl
  ·simp[rec] at hr
   obtain⟨_,rfl⟩:=mK hr;rw[iO _ _ _ _ _ _ _ _ _ (by simp)];exact⟨by rw[iF];simp[fR],lO (M:=1) (by decide) (fun r _=>by simp[stp]) hl⟩
  ·simp[rec] at hr
   split at hr
   ·split at hr
    ·rename_i hw
     obtain⟨_,rfl⟩:=mK hr;rw[iO _ _ _ _ _ _ _ _ _ (by simp)];exact⟨by rw[iF];simp[fR],lO (iL hw).1 (fun r _=>by simpa [stp] using uB hw) hl⟩
    ·cases hr
   ·cases hr
  ·simp[rec] at hr
   split at hr
   ·rename_i i hf
    obtain⟨_,rfl⟩:=mK hr;rw[iO _ _ _ _ _ _ _ _ _ (by simp)];have:=xB hs hf;exact⟨by rw[iF,hf];simp[fR];omega,lO (M:=1) (by decide) (fun r _=>by simp[stp]) hl⟩
   ·cases hr
  ·simp[rec] at hr
   have hn:n=2:=by simp[rX] at hk;omega
   obtain⟨e1,e2⟩:=bx (by omega);obtain⟨e3,e4⟩:=b_y (by omega);split at hr
   ·cases hr
    rw[a4J];exact⟨by simp;omega,a6J _ (fun a b h1 h2=>by omega) e2 e4⟩
   ·cases hr
  ·simp[rec] at hr
   have hn:n=2:=by simp[rX] at hk;omega
   obtain⟨e1,e2⟩:=bx (by omega);obtain⟨e3,e4⟩:=b_y (by omega);split at hr
   ·cases hr
    rw[a5Q];exact⟨by simp;omega,a6J _ (fun a b h1 h2=>by omega) e2 e4⟩
   ·cases hr
  ·simp[rec] at hr
   have hn:n=1:=by simp[rX] at hk;omega
   obtain⟨e1,e2⟩:=bx (by omega);split at hr
   ·rename_i hw
    cases hr;rw[a5X];refine⟨by simpa using e1,fun z hz=>?_⟩;obtain⟨a,ha,rfl⟩:=wX.1 hz;refine a6Z ?_ (e2 a ha);simp only[nY,qY] at hw;unfold spn;split <;> omega
   ·cases hr
  ·simp[rec] at hr
   have hn:n=2:=by simp[rX] at hk;omega
   obtain⟨e1,e2⟩:=bx (by omega);obtain⟨e3,e4⟩:=b_y (by omega);cases hr;rw[a5Z];refine⟨by simp;omega,fun z hz=>?_⟩
   show -(mx x3 y3)<=z/\z<=mx x3 y3
   unfold mx;rcases gV.1 hz with hz|hz
   ·have:=e2 z hz;split <;> omega
   ·have:=e4 z hz;split <;> omega
  ·simp[rec] at hr
   have hn:n=1:=by simp[rX] at hk;omega
   obtain⟨e1,e2⟩:=bx (by omega);cases hr;rw[a5J];refine⟨by simp,fun z hz=>?_⟩;obtain rfl:=fP.1 hz;have:=deJ e2;rw[e1] at this;exact this
  ·simp[rec] at hr
   have hn:n=1:=by simp[rX] at hk;omega
   obtain⟨e1,e2⟩:=bx (by omega);split at hr
   ·rename_i hlo
    cases hr;rw[a6Q];refine⟨by simp,fun z hz=>?_⟩;obtain rfl:=fP.1 hz;have hlt:lo.toNat<(ans l rs x).length:=by omega
    rw[List.getD,iJ hlt];exact e2 _ (List.getElem_mem hlt)
   ·cases hr
  ·simp[rec] at hr
   have hn:n=1:=by simp[rX] at hk;omega
   obtain⟨e1,e2⟩:=bx (by omega);split at hr
   ·rename_i hw
    cases hr;rw[a6X];refine⟨by simpa using e1,fun z hz=>?_⟩;obtain⟨a,ha,rfl⟩:=wX.1 hz;exact uB hw
   ·cases hr
def mQ (w:World) (lo g c:Nat) (xs:List Int):Prop:=w.ownsRow lo 3 1 (.slice (some ⟨g,0,none⟩) xs.length c) xs.length (xs.map (.int .i64))
theorem mQ.inv {lo:Nat}(h:mQ w lo g c xs):∃ cur:Array Value,lo<=g/\w.heap[g]? = some (.cells cur 3 (0,0))/\xs.length<=c/\c<=maxLen/\cur.size=c/\cur.toList.take xs.length=xs.map (.int .i64):=by
 obtain⟨_,h|⟨g',c',cur,e,h1,h2,h3,h4,h5,h6⟩⟩:=h
 ·simp at h
 ·simp only[iZ,xX,jG,sN,true_and] at e
  obtain⟨rfl,rfl⟩:=e;exact⟨cur,h1,h2,h3,h4,by simpa using h5,by simpa using h6⟩
theorem mQ.mk {lo:Nat}(h1:lo<=g)(h2:w.heap[g]? = some (.cells cur 3 (0,0)))(h3:xs.length<=c)(h4:c<=maxLen)(h5:cur.size=c)(h6:cur.toList.take xs.length=xs.map (.int .i64)):mQ w lo g c xs :=
 ⟨by simp,.inr ⟨g,c,cur,rfl,h1,h2,h3,h4,by simpa using h5,by simpa using h6⟩⟩
theorem mQ.lt {lo:Nat}(h:mQ w lo g c xs):lo<=g/\g<w.heap.size:=by
 obtain⟨cur,h1,h2,_⟩:=h.inv;exact⟨h1,(zJ.1 h2).1⟩
theorem mQ.at {lo:Nat}(h:mQ w lo g c xs)(hb:Below w.heap.size w w'):mQ w' lo g c xs:=cL h hb
theorem mQ.cell {lo:Nat}(h:mQ w lo g c xs)(hi:xs[i]? = some x):w.cell? ⟨g,i,none⟩=some (.int .i64 x):=by
 have:=World.ownsRow.cells h (g:=g) rfl i (.int .i64 x) (by simp[hi]);rwa [nU,xZ] at this
theorem mQ.fz {lo:Nat}(h:mQ w lo g c xs)(i:Nat):w.frozen? ⟨g,i,none⟩=false:=by
 obtain⟨cur,_,h2,_⟩:=h.inv;exact qR h2
theorem mQ.set {lo:Nat}(h:mQ w lo g c xs)(i:Nat)(z:Int):mQ (w.setCell ⟨g,i,none⟩ (.int .i64 z)) lo g c (xs.set i z):=by
 obtain⟨cur,h1,h2,h3,h4,h5,h6⟩:=h.inv;obtain⟨hlt,hk⟩:=zJ.1 h2;refine mQ.mk (cur:=cur.setIfInBounds i (.int .i64 z)) h1 ?_ (by simpa using h3) h4 (by simpa using h5) ?_
 ·show(w.heap.modify g _)[g]? = _
  rw[Array.getElem?_eq_getElem (by rw[Array.size_modify];exact hlt),Array.getElem_modify_self,hk];rfl
 ·rw[Array.toList_setIfInBounds,fN,List.take_set,h6,List.map_set]
theorem mQ.oth {lo:Nat}(h:mQ w lo g c xs){k:Nat}(hne:b≠g)(u:Value):mQ (w.setCell ⟨b,k,none⟩ u) lo g c xs:=by
 obtain⟨cur,h1,h2,h3⟩:=h.inv;exact mQ.mk h1 ((tL _ _ _ g (fun e=>hne (by simpa using e.symm))).trans h2) h3.1 h3.2.1 h3.2.2.1 h3.2.2.2
theorem mQ.mono {lo lo':Nat}(h:mQ w lo g c xs)(hl:lo'<=lo):mQ w lo' g c xs:=by
 obtain⟨cur,h1,h2,h3⟩:=h.inv;exact mQ.mk (by omega) h2 h3.1 h3.2.1 h3.2.2.1 h3.2.2.2
theorem pM:maxLen=9223372036854775807:=by decide
theorem mQ.ints {lo:Nat}(h:mQ w lo g c xs)(m:Nat)(hm:g≠m):jQ w w.heap.size m (.slice (some ⟨g,0,none⟩) xs.length c) xs:=by
 obtain⟨cur,h1,h2,h3,h4,h5,h6⟩:=h.inv;rw[pM] at h4;exact⟨_,_,rfl,h3,by omega,fun _=>⟨g,0,rfl,h.lt.2,hm,fun i x hi=>by rw[xZ];exact h.cell hi⟩⟩
theorem mQ.made (w:World)(lo n:Nat)(hlo:lo<=w.heap.size)(hn:n<=1073741824):mQ (w.alloc (.cells (madeCells #[.int .i64 0] n) 3)) lo w.heap.size n (List.replicate n 0):=by
 have hsz:(madeCells #[Value.int .i64 0] n).size=n:=by simp[madeCells]
 refine mQ.mk hlo (qM w _) (by simp) (by rw[pM];omega) hsz ?_;rw[List.length_replicate,pJ (by rw[eP,hsz];omega)];apply cP;intro i;by_cases hi:i<n
 ·simp[madeCells,hi,Nat.mod_one]
 ·simp[madeCells,hi]
theorem mQ.lit (w:World)(lo:Nat)(z:Int)(hlo:lo<=w.heap.size):mQ (w.alloc (.cells #[.int .i64 z] 3)) lo w.heap.size 1 [z] :=
 mQ.mk hlo (qM w _) (by simp) (by rw[pM];omega) rfl rfl
end K
end Go.Proofs.YtpmioeamdhdokaaGreat
