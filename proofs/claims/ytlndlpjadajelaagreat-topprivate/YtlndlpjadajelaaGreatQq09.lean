import Derived.Test.YtlndlpjadajelaaGreatQq08
namespace Go.Proofs.YtlndlpjadajelaaGreat
open Go.RowKit Go.Shelf Go.Proofs.YtlndlpjadajelaaGreat.Ds
attribute [local go_sem] Oper.semAt_some
abbrev PP (w:World) (B:Nat) (M:Int):={ x:Tr × Tr // Ints w B B x.1.1 x.1.2.1∧Ints w B B x.2.1 x.2.2.1∧(0≤x.1.2.2∧x.1.2.2≤M)∧(0≤x.2.2.2∧x.2.2.2≤M) }
def encPP {w:World} {B:Nat} {M:Int} (x:PP w B M):Array Value:=#[.agg #[x.1.1.1,.int .i64 x.1.1.2.2],.agg #[x.1.2.1,.int .i64 x.1.2.2.2]]
theorem grown_of_below {W W':World} (h:Below W.heap.size W W'):W.grownBy W' none:=⟨h.os,h.tape,h.output,h.size,fun k hk _=>h.block k hk⟩
theorem Parts.elem2 {w:World} {B:Nat} {v:Value} {ts:List Tr} (h:Parts w B v ts) {t:Tr} (ht:t∈ts):Ints w B B t.1 t.2.1:=by
 obtain ⟨_,_,_,_,_,hI,_⟩:=h
 exact hI t ht
theorem mrg_nb (b:Tr) (bs:List Tr):mrg [] (b :: bs)=(no,b) :: mrg [] bs:=by rw [mrg]
theorem mrg_an (a:Tr) (az:List Tr):mrg (a :: az) []=(a,no) :: mrg az []:=by rw [mrg]
theorem mrg_lt {a b:Tr} {az bs:List Tr} (h:cmpT a.2.1 b.2.1 < 0):mrg (a :: az) (b :: bs)=(a,no) :: mrg az (b :: bs):=by rw [mrg,if_pos h]
theorem mrg_gt {a b:Tr} {az bs:List Tr} (h:0 < cmpT a.2.1 b.2.1):mrg (a :: az) (b :: bs)=(no,b) :: mrg (a :: az) bs:=by rw [mrg,if_neg (by omega),if_pos h]
theorem mrg_eq {a b:Tr} {az bs:List Tr} (h:cmpT a.2.1 b.2.1=0):mrg (a :: az) (b :: bs)=(a,b) :: mrg az bs:=by rw [mrg,if_neg (by omega),if_neg (by omega)]
def sln:Value→Nat
 | .slice _ n _=>n
 | _=>0
structure Pw (w:World) (n₀:Nat) (M:Int) (A0 B0:List Tr) (J:List (PP w n₀ M)→World→Prop) (W0:World) (va vb:Value) (az bz:List Tr) (pre:List (PP w n₀ M)) (wr:World):Prop where
 pa:Parts w n₀ va az
 pb:Parts w n₀ vb bz
 rest:pre.map (·.1) ++ mrg az bz=mrg A0 B0
 len:pre.length + (az.length + bz.length)≤A0.length + B0.length
 j:J pre wr
 bel:Below n₀ w wr
 sz:n₀≤wr.heap.size
 ma:∀ t∈az,0≤t.2.2∧t.2.2≤M
 mb:∀ t∈bz,0≤t.2.2∧t.2.2≤M
set_option maxRecDepth 100000 in
set_option maxHeartbeats 2000000 in
theorem pairs1_in (n:Nat) (hn:1≤n) (l Ba Bb n₀:Nat) (M:Int) (hM0:0≤M) (va vb:Value) (A0 B0:List Tr) (w:World) (J Jx:List (PP w n₀ M)→World→Prop)
  (W:World) (hJ:AbidesFrom W.heap.size J) (hw:Below n₀ w W) (hsW:n₀≤W.heap.size)
  (hY:∀ pre x W1,J pre W1→pre.length < A0.length + B0.length→YieldAt Fence.wide (n - 1) Tryz.prog l (encPP x) W1 fun e W' =>
   (e=.returned (.bool true)∧J (pre ++ [x]) W'∧Below n₀ W1 W')∨(e=.returned (.bool false)∧Jx (pre ++ [x]) W'))
  (ha:W.cell? ⟨Ba,0,none⟩=some va) (hb:W.cell? ⟨Bb,0,none⟩=some vb) (hpa:Parts w n₀ va A0) (hpb:Parts w n₀ vb B0) (hma:∀ t∈A0,0≤t.2.2∧t.2.2≤M) (hmb:∀ t∈B0,0≤t.2.2∧t.2.2≤M) (h0:J [] W) :
  CallsIn Fence.wide n Tryz.prog 87 #[.func (.yield l) #[] #[],.pointer (some ⟨Ba,0,none⟩),.pointer (some ⟨Bb,0,none⟩)] W fun e W'=>(∃ v,e=.returned v) ∧
   ((∃ ys:List (PP w n₀ M),ys.map (·.1)=mrg A0 B0∧J ys W')∨(∃ pre:List (PP w n₀ M),pre.map (·.1) <+: mrg A0 B0∧Jx pre W')):=by
 have HA:Hid (Parts w n₀ va A0):=hpa
 have HMA:Hid (∀ t∈A0,0≤t.2.2∧t.2.2≤M):=hma
 have HMB:Hid (∀ t∈B0,0≤t.2.2∧t.2.2≤M):=hmb
 clear hma hmb
 have HB:Hid (Parts w n₀ vb B0):=hpb
 obtain ⟨aa,ca,rfl,_⟩:=hpa
 obtain ⟨ab,cb,rfl,_⟩:=hpb
 refine callsIn_of_wp Tryz.func87 rfl trivial ?_ rfl
 simp only [Tryz.ntmps87,List.size_toArray,List.length_cons,List.length_nil,Nat.reduceAdd,Nat.reduceSub,Array.replicate_succ,Array.replicate_zero,List.push_toArray,List.append_toArray,List.nil_append,List.cons_append]
 gi_wp2
 gi_region
 all_goals gi_wp2
 gi_loopw [4,5] (fun va vb wr=>∃ (az bz:List Tr) (pre:List (PP w n₀ M)),Pw w n₀ M A0 B0 J W va vb az bz pre wr) (fun va vb _=>sln va + sln vb)
 case atStart=>exact ⟨A0,B0,[],HA.out,HB.out,rfl,by simp,hJ _ _ _ none h0 (grown_of_below (Below.refl _ _).drew) (by simp),hw.drew,hsW,HMA.out,HMB.out⟩
 case round =>
  obtain ⟨az,bz,pre,hP⟩:=hrel
  have HP:Hid (Pw w n₀ M A0 B0 J W u4 u5 az bz pre wr):=hP
  obtain ⟨xa,na,rfl,_⟩:=hP.pa
  obtain ⟨xb,nb,rfl,_⟩:=hP.pb
  clear hP
  cases az with
  | nil =>
   cases bz with
   | nil =>
    have hr:=HP.out.rest
    have hj:=HP.out.j
    have HE:Hid (pre.map (·.1)=mrg A0 B0∧J pre wr):=⟨by rw [← hr]; simp [mrg],hj⟩
    clear hr hj
    gi_wp2
    go_end0
    exact ⟨⟨_,rfl⟩,.inl ⟨pre,HE.out.1,HE.out.2⟩⟩
   | cons b bz =>
    have hsz:=HP.out.sz
    obtain ⟨b',o',sa',sc',xs',k',rfl,hb',hs',c1',c2',hI'⟩:=(HP.out.pb.keep HP.out.bel).get hsz (Below.refl _ wr) (i:=0) (by simp)
    simp at hs'
    subst hs'
    simp only [Nat.zero_mul,Nat.add_zero] at c1' c2'
    have kf:=fun W h1 h2 h3=>callsIn_wide (n:=n - 1) |>.2 (first_any n₀ (.slice xa ([]:List Tr).length na) (.slice (some ⟨b',o',none⟩) (((.slice sa' xs'.length sc',xs',k') :: bz):List Tr).length nb) [] ((.slice sa' xs'.length sc',xs',k') :: bz) W h1 h2 h3 1 rfl)
    gi_wp2_with fail
    obtain ⟨W1,hW1⟩:∃ W1,(wr.alloc (Obj.cells #[Value.slice none 0 0,Value.int IntKind.i64 0] 82)).alloc (Obj.cells #[Value.slice none 0 0,Value.int IntKind.i64 0] 82)=W1:=⟨_,rfl⟩
    have HB1:Hid (Below wr.heap.size wr W1):=hW1▸bal (ba wr _) _
    have s1:W1.heap.size=wr.heap.size + 2:=by rw [← hW1]; simp
    have p1:W1.cell? ⟨wr.heap.size,0,none⟩=some (.slice none 0 0):=by rw [← hW1]; simp [go_sem]
    have p2:W1.cell? ⟨wr.heap.size,1,none⟩=some (.int .i64 0):=by rw [← hW1]; simp [go_sem]
    have p3:W1.frozen? ⟨wr.heap.size,0,none⟩=false:=by rw [← hW1]; simp [go_sem]
    have p4:W1.frozen? ⟨wr.heap.size,1,none⟩=false:=by rw [← hW1]; simp [go_sem]
    have p5:W1.cell? ⟨wr.heap.size + 1,0,none⟩=some (.slice none 0 0):=by rw [← hW1]; simp [go_sem]
    have p6:W1.cell? ⟨wr.heap.size + 1,1,none⟩=some (.int .i64 0):=by rw [← hW1]; simp [go_sem]
    have p7:W1.frozen? ⟨wr.heap.size + 1,0,none⟩=false:=by rw [← hW1]; simp [go_sem]
    have p8:W1.frozen? ⟨wr.heap.size + 1,1,none⟩=false:=by rw [← hW1]; simp [go_sem]
    rw [hW1]
    clear hW1
    refine ⟨trivial,?_⟩
    refine (kf W1 (by omega) ((HP.out.pa.keep HP.out.bel).at hsz HB1.out) ((HP.out.pb.keep HP.out.bel).at hsz HB1.out)).mono ?_
    rintro e w2 ⟨rfl,hb2⟩
    obtain ⟨hc2,hf2⟩:=bcell hb2
    have l1:wr.heap.size < W1.heap.size:=by omega
    have l2:wr.heap.size + 1 < W1.heap.size:=by omega
    have q1:=(hc2 _ 0 l1).trans p1
    have q2:=(hc2 _ 1 l1).trans p2
    have q3:=(hf2 _ 0 l1).trans p3
    have q4:=(hf2 _ 1 l1).trans p4
    have q5:=(hc2 _ 0 l2).trans p5
    have q6:=(hc2 _ 1 l2).trans p6
    have q7:=(hf2 _ 0 l2).trans p7
    have q8:=(hf2 _ 1 l2).trans p8
    have HB2:Hid (Below wr.heap.size wr w2):=bt HB1.out hb2
    have e1':=(HB2.out.cell (p:=⟨b',o',none⟩) hb').trans c1'
    have e2':=(HB2.out.cell (p:=⟨b',o' + 1,none⟩) hb').trans c2'
    have s2:=hb2.size
    clear hc2 hf2 hb2 p1 p2 p3 p4 p5 p6 p7 p8 kf c1' c2'
    have r1:=q1
    have r2:=q2
    have r5:=q5
    have r6:=q6
    have r7:=q7
    have r8:=q8
    clear q1 q2 q3 q4 q5 q6 q7 q8
    gi_wp2_with fail
    gi_region
    obtain ⟨AB,hAB⟩:∃ A',(if nb=1 then some (⟨b',o',none⟩:Addr) else some ⟨b',o' + 2,none⟩)=A':=⟨_,rfl⟩
    have HTB:Hid (1 < nb→AB=some ⟨b',o' + 2,none⟩):=fun h=>by rw [← hAB,if_neg (by omega)]
    obtain ⟨w4,hw4⟩:∃ W3,((w2.setCell ⟨wr.heap.size + 1,0,none⟩ (.slice sa' xs'.length sc')).setCell ⟨wr.heap.size + 1,1,none⟩ (.int .i64 k')).drew=W3:=⟨_,rfl⟩
    have Hw4:Hid (Below wr.heap.size wr w4):=hw4▸(bs (bs HB2.out (by simp) _) (by simp) _).drew
    have zw4:w4.heap.size=w2.heap.size:=by rw [← hw4]; simp
    have t1:w4.cell? ⟨wr.heap.size,0,none⟩=some (.slice none 0 0):=by rw [← hw4]; exact (sc_other (by simp)).trans ((sc_other (by simp)).trans r1)
    have t2:w4.cell? ⟨wr.heap.size,1,none⟩=some (.int .i64 0):=by rw [← hw4]; exact (sc_other (by simp)).trans ((sc_other (by simp)).trans r2)
    have t5:w4.cell? ⟨wr.heap.size + 1,0,none⟩=some (.slice sa' xs'.length sc'):=by rw [← hw4]; exact (sc_other (by simp)).trans (sc_same r5)
    have t6:w4.cell? ⟨wr.heap.size + 1,1,none⟩=some (.int .i64 k'):=by rw [← hw4]; exact sc_same (u:=.int .i64 0) ((sc_other (by simp)).trans r6)
    rw [hw4,hAB]
    clear hw4 hAB r1 r2 r5 r6 r7 r8
    have hJf:J pre w4:=hJ _ _ _ none HP.out.j (grown_of_below Hw4.out) (by simp)
    have hln:=HP.out.len
    simp only [List.length_cons,List.length_nil] at hln
    obtain ⟨x,hx⟩:∃ x:PP w n₀ M,x.1=(no,(.slice sa' xs'.length sc',xs',k')):=⟨⟨(no,(.slice sa' xs'.length sc',xs',k')),(ints_nil _ _ _),(HP.out.pb.elem2 (by simp)),⟨Int.le_refl _,hM0⟩,(HP.out.mb _ (by simp))⟩,rfl⟩
    obtain ⟨fn,tmps,assign,body,hy,hR⟩:=hY pre x w4 hJf (by omega)
    simp only [encPP,hx] at hy
    have HM:Hid (mrg [] ((.slice sa' xs'.length sc',xs',k') :: bz)=(no,(.slice sa' xs'.length sc',xs',k')) :: mrg [] bz):=mrg_nb _ _
    have hbf:Below n₀ w w4:=HP.out.bel.trans (Hw4.out.mono hsz)
    have hsf:n₀≤w4.heap.size:=Nat.le_trans hsz Hw4.out.size
    clear hJf
    gi_wp2
    refine hR.mono ?_
    rintro e W5 (⟨rfl,hJ5,hk5⟩ | ⟨rfl,hJx5⟩)
    ·have HN:Hid (Pw w n₀ M A0 B0 J W _ _ [] bz (pre ++ [x]) W5):=⟨HP.out.pa,HP.out.pb.tail _ HTB.out,by rw [List.map_append,List.append_assoc,← HP.out.rest,HM.out]; simp [hx],by simp only [List.length_append,List.length_cons,List.length_nil]; omega,hJ5,hbf.trans hk5,Nat.le_trans hsf hk5.size,HP.out.ma,(fun t ht=>HP.out.mb t (by simp [ht]))⟩
     gi_wp2
     go_roundw
     case rel=>exact ⟨_,_,_,HN.out⟩
     case measure=>simp [sln] <;> omega
    ·gi_wp2
     refine bodyPost_ret (results_none rfl _ _ _) rfl ?_
     exact ⟨⟨_,rfl⟩,.inr ⟨pre ++ [x],⟨mrg [] bz,by rw [← HP.out.rest,HM.out]; simp [hx]⟩,hJx5⟩⟩
  | cons a az =>
   cases bz with
   | nil =>
    have hsz:=HP.out.sz
    obtain ⟨b,o,sa,sc,xs,k,rfl,hb,hs,c1,c2,hI⟩:=(HP.out.pa.keep HP.out.bel).get hsz (Below.refl _ wr) (i:=0) (by simp)
    simp at hs
    subst hs
    simp only [Nat.zero_mul,Nat.add_zero] at c1 c2
    have kf:=fun W h1 h2 h3=>callsIn_wide (n:=n - 1) |>.2 (first_any n₀ (.slice (some ⟨b,o,none⟩) (((.slice sa xs.length sc,xs,k) :: az):List Tr).length na) (.slice xb ([]:List Tr).length nb) ((.slice sa xs.length sc,xs,k) :: az) [] W h1 h2 h3 (-1) rfl)
    gi_wp2_with fail
    obtain ⟨W1,hW1⟩:∃ W1,(wr.alloc (Obj.cells #[Value.slice none 0 0,Value.int IntKind.i64 0] 82)).alloc (Obj.cells #[Value.slice none 0 0,Value.int IntKind.i64 0] 82)=W1:=⟨_,rfl⟩
    have HB1:Hid (Below wr.heap.size wr W1):=hW1▸bal (ba wr _) _
    have s1:W1.heap.size=wr.heap.size + 2:=by rw [← hW1]; simp
    have p1:W1.cell? ⟨wr.heap.size,0,none⟩=some (.slice none 0 0):=by rw [← hW1]; simp [go_sem]
    have p2:W1.cell? ⟨wr.heap.size,1,none⟩=some (.int .i64 0):=by rw [← hW1]; simp [go_sem]
    have p3:W1.frozen? ⟨wr.heap.size,0,none⟩=false:=by rw [← hW1]; simp [go_sem]
    have p4:W1.frozen? ⟨wr.heap.size,1,none⟩=false:=by rw [← hW1]; simp [go_sem]
    have p5:W1.cell? ⟨wr.heap.size + 1,0,none⟩=some (.slice none 0 0):=by rw [← hW1]; simp [go_sem]
    have p6:W1.cell? ⟨wr.heap.size + 1,1,none⟩=some (.int .i64 0):=by rw [← hW1]; simp [go_sem]
    have p7:W1.frozen? ⟨wr.heap.size + 1,0,none⟩=false:=by rw [← hW1]; simp [go_sem]
    have p8:W1.frozen? ⟨wr.heap.size + 1,1,none⟩=false:=by rw [← hW1]; simp [go_sem]
    rw [hW1]
    clear hW1
    refine ⟨trivial,?_⟩
    refine (kf W1 (by omega) ((HP.out.pa.keep HP.out.bel).at hsz HB1.out) ((HP.out.pb.keep HP.out.bel).at hsz HB1.out)).mono ?_
    rintro e w2 ⟨rfl,hb2⟩
    obtain ⟨hc2,hf2⟩:=bcell hb2
    have l1:wr.heap.size < W1.heap.size:=by omega
    have l2:wr.heap.size + 1 < W1.heap.size:=by omega
    have q1:=(hc2 _ 0 l1).trans p1
    have q2:=(hc2 _ 1 l1).trans p2
    have q3:=(hf2 _ 0 l1).trans p3
    have q4:=(hf2 _ 1 l1).trans p4
    have q5:=(hc2 _ 0 l2).trans p5
    have q6:=(hc2 _ 1 l2).trans p6
    have q7:=(hf2 _ 0 l2).trans p7
    have q8:=(hf2 _ 1 l2).trans p8
    have HB2:Hid (Below wr.heap.size wr w2):=bt HB1.out hb2
    have e1:=(HB2.out.cell (p:=⟨b,o,none⟩) hb).trans c1
    have e2:=(HB2.out.cell (p:=⟨b,o + 1,none⟩) hb).trans c2
    have s2:=hb2.size
    clear hc2 hf2 hb2 p1 p2 p3 p4 p5 p6 p7 p8 kf c1 c2
    gi_wp2_with fail
    gi_region
    obtain ⟨AA,hAA⟩:∃ A',(if na=1 then some (⟨b,o,none⟩:Addr) else some ⟨b,o + 2,none⟩)=A':=⟨_,rfl⟩
    have HTA:Hid (1 < na→AA=some ⟨b,o + 2,none⟩):=fun h=>by rw [← hAA,if_neg (by omega)]
    obtain ⟨w3,hw3⟩:∃ W3,((w2.setCell ⟨wr.heap.size,0,none⟩ (.slice sa xs.length sc)).setCell ⟨wr.heap.size,1,none⟩ (.int .i64 k)).drew=W3:=⟨_,rfl⟩
    have Hw3:Hid (Below wr.heap.size wr w3):=hw3▸(bs (bs HB2.out (by simp) _) (by simp) _).drew
    have zw3:w3.heap.size=w2.heap.size:=by rw [← hw3]; simp
    have r1:w3.cell? ⟨wr.heap.size,0,none⟩=some (.slice sa xs.length sc):=by rw [← hw3]; exact (sc_other (by simp)).trans (sc_same q1)
    have r2:w3.cell? ⟨wr.heap.size,1,none⟩=some (.int .i64 k):=by rw [← hw3]; exact sc_same (u:=.int .i64 0) ((sc_other (by simp)).trans q2)
    have r5:w3.cell? ⟨wr.heap.size + 1,0,none⟩=some (.slice none 0 0):=by rw [← hw3]; exact (sc_other (by simp)).trans ((sc_other (by simp)).trans q5)
    have r6:w3.cell? ⟨wr.heap.size + 1,1,none⟩=some (.int .i64 0):=by rw [← hw3]; exact (sc_other (by simp)).trans ((sc_other (by simp)).trans q6)
    have r7:w3.frozen? ⟨wr.heap.size + 1,0,none⟩=false:=by rw [← hw3]; exact sc_frozen.trans (sc_frozen.trans q7)
    have r8:w3.frozen? ⟨wr.heap.size + 1,1,none⟩=false:=by rw [← hw3]; exact sc_frozen.trans (sc_frozen.trans q8)
    rw [hw3,hAA]
    clear hw3 hAA q1 q2 q3 q4 q5 q6 q7 q8 e1 e2
    have hJf:J pre w3:=hJ _ _ _ none HP.out.j (grown_of_below Hw3.out) (by simp)
    have hln:=HP.out.len
    simp only [List.length_cons,List.length_nil] at hln
    obtain ⟨x,hx⟩:∃ x:PP w n₀ M,x.1=((.slice sa xs.length sc,xs,k),no):=⟨⟨((.slice sa xs.length sc,xs,k),no),(HP.out.pa.elem2 (by simp)),(ints_nil _ _ _),(HP.out.ma _ (by simp)),⟨Int.le_refl _,hM0⟩⟩,rfl⟩
    obtain ⟨fn,tmps,assign,body,hy,hR⟩:=hY pre x w3 hJf (by omega)
    simp only [encPP,hx] at hy
    have HM:Hid (mrg ((.slice sa xs.length sc,xs,k) :: az) []=((.slice sa xs.length sc,xs,k),no) :: mrg az []):=mrg_an _ _
    have hbf:Below n₀ w w3:=HP.out.bel.trans (Hw3.out.mono hsz)
    have hsf:n₀≤w3.heap.size:=Nat.le_trans hsz Hw3.out.size
    clear hJf
    gi_wp2
    refine hR.mono ?_
    rintro e W5 (⟨rfl,hJ5,hk5⟩ | ⟨rfl,hJx5⟩)
    ·have HN:Hid (Pw w n₀ M A0 B0 J W _ _ az [] (pre ++ [x]) W5):=⟨HP.out.pa.tail _ HTA.out,HP.out.pb,by rw [List.map_append,List.append_assoc,← HP.out.rest,HM.out]; simp [hx],by simp only [List.length_append,List.length_cons,List.length_nil]; omega,hJ5,hbf.trans hk5,Nat.le_trans hsf hk5.size,(fun t ht=>HP.out.ma t (by simp [ht])),HP.out.mb⟩
     gi_wp2
     go_roundw
     case rel=>exact ⟨_,_,_,HN.out⟩
     case measure=>simp [sln] <;> omega
    ·gi_wp2
     refine bodyPost_ret (results_none rfl _ _ _) rfl ?_
     exact ⟨⟨_,rfl⟩,.inr ⟨pre ++ [x],⟨mrg az [],by rw [← HP.out.rest,HM.out]; simp [hx]⟩,hJx5⟩⟩
   | cons b0 bz =>
    obtain ⟨r,HC⟩:∃ r,Hid (cmpT a.2.1 b0.2.1=r):=⟨_,rfl⟩
    by_cases hr1:r < 0
    ·have hsz:=HP.out.sz
     obtain ⟨b,o,sa,sc,xs,k,rfl,hb,hs,c1,c2,hI⟩:=(HP.out.pa.keep HP.out.bel).get hsz (Below.refl _ wr) (i:=0) (by simp)
     simp at hs
     subst hs
     simp only [Nat.zero_mul,Nat.add_zero] at c1 c2
     obtain ⟨b',o',sa',sc',xs',k',rfl,hb',hs',c1',c2',hI'⟩:=(HP.out.pb.keep HP.out.bel).get hsz (Below.refl _ wr) (i:=0) (by simp)
     simp at hs'
     subst hs'
     simp only [Nat.zero_mul,Nat.add_zero] at c1' c2'
     simp only at HC
     have kf:=fun W h1 h2 h3=>callsIn_wide (n:=n - 1) |>.2 (first_any n₀ (.slice (some ⟨b,o,none⟩) (((.slice sa xs.length sc,xs,k) :: az):List Tr).length na) (.slice (some ⟨b',o',none⟩) (((.slice sa' xs'.length sc',xs',k') :: bz):List Tr).length nb) ((.slice sa xs.length sc,xs,k) :: az) ((.slice sa' xs'.length sc',xs',k') :: bz) W h1 h2 h3 r HC.out)
     gi_wp2_with fail
     obtain ⟨W1,hW1⟩:∃ W1,(wr.alloc (Obj.cells #[Value.slice none 0 0,Value.int IntKind.i64 0] 82)).alloc (Obj.cells #[Value.slice none 0 0,Value.int IntKind.i64 0] 82)=W1:=⟨_,rfl⟩
     have HB1:Hid (Below wr.heap.size wr W1):=hW1▸bal (ba wr _) _
     have s1:W1.heap.size=wr.heap.size + 2:=by rw [← hW1]; simp
     have p1:W1.cell? ⟨wr.heap.size,0,none⟩=some (.slice none 0 0):=by rw [← hW1]; simp [go_sem]
     have p2:W1.cell? ⟨wr.heap.size,1,none⟩=some (.int .i64 0):=by rw [← hW1]; simp [go_sem]
     have p3:W1.frozen? ⟨wr.heap.size,0,none⟩=false:=by rw [← hW1]; simp [go_sem]
     have p4:W1.frozen? ⟨wr.heap.size,1,none⟩=false:=by rw [← hW1]; simp [go_sem]
     have p5:W1.cell? ⟨wr.heap.size + 1,0,none⟩=some (.slice none 0 0):=by rw [← hW1]; simp [go_sem]
     have p6:W1.cell? ⟨wr.heap.size + 1,1,none⟩=some (.int .i64 0):=by rw [← hW1]; simp [go_sem]
     have p7:W1.frozen? ⟨wr.heap.size + 1,0,none⟩=false:=by rw [← hW1]; simp [go_sem]
     have p8:W1.frozen? ⟨wr.heap.size + 1,1,none⟩=false:=by rw [← hW1]; simp [go_sem]
     rw [hW1]
     clear hW1
     refine ⟨trivial,?_⟩
     refine (kf W1 (by omega) ((HP.out.pa.keep HP.out.bel).at hsz HB1.out) ((HP.out.pb.keep HP.out.bel).at hsz HB1.out)).mono ?_
     rintro e w2 ⟨rfl,hb2⟩
     obtain ⟨hc2,hf2⟩:=bcell hb2
     have l1:wr.heap.size < W1.heap.size:=by omega
     have l2:wr.heap.size + 1 < W1.heap.size:=by omega
     have q1:=(hc2 _ 0 l1).trans p1
     have q2:=(hc2 _ 1 l1).trans p2
     have q3:=(hf2 _ 0 l1).trans p3
     have q4:=(hf2 _ 1 l1).trans p4
     have q5:=(hc2 _ 0 l2).trans p5
     have q6:=(hc2 _ 1 l2).trans p6
     have q7:=(hf2 _ 0 l2).trans p7
     have q8:=(hf2 _ 1 l2).trans p8
     have HB2:Hid (Below wr.heap.size wr w2):=bt HB1.out hb2
     have e1:=(HB2.out.cell (p:=⟨b,o,none⟩) hb).trans c1
     have e2:=(HB2.out.cell (p:=⟨b,o + 1,none⟩) hb).trans c2
     have e1':=(HB2.out.cell (p:=⟨b',o',none⟩) hb').trans c1'
     have e2':=(HB2.out.cell (p:=⟨b',o' + 1,none⟩) hb').trans c2'
     have s2:=hb2.size
     clear hc2 hf2 hb2 p1 p2 p3 p4 p5 p6 p7 p8 kf c1 c2 c1' c2'
     gi_wp2_with fail
     gi_region
     obtain ⟨AA,hAA⟩:∃ A',(if na=1 then some (⟨b,o,none⟩:Addr) else some ⟨b,o + 2,none⟩)=A':=⟨_,rfl⟩
     have HTA:Hid (1 < na→AA=some ⟨b,o + 2,none⟩):=fun h=>by rw [← hAA,if_neg (by omega)]
     obtain ⟨w3,hw3⟩:∃ W3,((w2.setCell ⟨wr.heap.size,0,none⟩ (.slice sa xs.length sc)).setCell ⟨wr.heap.size,1,none⟩ (.int .i64 k)).drew=W3:=⟨_,rfl⟩
     have Hw3:Hid (Below wr.heap.size wr w3):=hw3▸(bs (bs HB2.out (by simp) _) (by simp) _).drew
     have zw3:w3.heap.size=w2.heap.size:=by rw [← hw3]; simp
     have r1:w3.cell? ⟨wr.heap.size,0,none⟩=some (.slice sa xs.length sc):=by rw [← hw3]; exact (sc_other (by simp)).trans (sc_same q1)
     have r2:w3.cell? ⟨wr.heap.size,1,none⟩=some (.int .i64 k):=by rw [← hw3]; exact sc_same (u:=.int .i64 0) ((sc_other (by simp)).trans q2)
     have r5:w3.cell? ⟨wr.heap.size + 1,0,none⟩=some (.slice none 0 0):=by rw [← hw3]; exact (sc_other (by simp)).trans ((sc_other (by simp)).trans q5)
     have r6:w3.cell? ⟨wr.heap.size + 1,1,none⟩=some (.int .i64 0):=by rw [← hw3]; exact (sc_other (by simp)).trans ((sc_other (by simp)).trans q6)
     have r7:w3.frozen? ⟨wr.heap.size + 1,0,none⟩=false:=by rw [← hw3]; exact sc_frozen.trans (sc_frozen.trans q7)
     have r8:w3.frozen? ⟨wr.heap.size + 1,1,none⟩=false:=by rw [← hw3]; exact sc_frozen.trans (sc_frozen.trans q8)
     have f1':=(Hw3.out.cell (p:=⟨b',o',none⟩) hb').trans ((HB2.out.cell (p:=⟨b',o',none⟩) hb').symm.trans e1')
     have f2':=(Hw3.out.cell (p:=⟨b',o' + 1,none⟩) hb').trans ((HB2.out.cell (p:=⟨b',o' + 1,none⟩) hb').symm.trans e2')
     rw [hw3,hAA]
     clear hw3 hAA q1 q2 q3 q4 q5 q6 q7 q8 e1 e2 e1' e2'
     have hJf:J pre w3:=hJ _ _ _ none HP.out.j (grown_of_below Hw3.out) (by simp)
     have hln:=HP.out.len
     simp only [List.length_cons] at hln
     obtain ⟨x,hx⟩:∃ x:PP w n₀ M,x.1=((.slice sa xs.length sc,xs,k),no):=⟨⟨((.slice sa xs.length sc,xs,k),no),(HP.out.pa.elem2 (by simp)),(ints_nil _ _ _),(HP.out.ma _ (by simp)),⟨Int.le_refl _,hM0⟩⟩,rfl⟩
     obtain ⟨fn,tmps,assign,body,hy,hR⟩:=hY pre x w3 hJf (by omega)
     simp only [encPP,hx] at hy
     have HM:Hid (mrg ((.slice sa xs.length sc,xs,k) :: az) ((.slice sa' xs'.length sc',xs',k') :: bz)=((.slice sa xs.length sc,xs,k),no) :: mrg az ((.slice sa' xs'.length sc',xs',k') :: bz)):=mrg_lt (by show cmpT xs xs' < 0; rw [HC.out]; exact hr1)
     have hbf:Below n₀ w w3:=HP.out.bel.trans (Hw3.out.mono hsz)
     have hsf:n₀≤w3.heap.size:=Nat.le_trans hsz Hw3.out.size
     clear hJf
     gi_wp2
     refine hR.mono ?_
     rintro e W5 (⟨rfl,hJ5,hk5⟩ | ⟨rfl,hJx5⟩)
     ·have HN:Hid (Pw w n₀ M A0 B0 J W _ _ az ((.slice sa' xs'.length sc',xs',k') :: bz) (pre ++ [x]) W5):=⟨HP.out.pa.tail _ HTA.out,HP.out.pb,by rw [List.map_append,List.append_assoc,← HP.out.rest,HM.out]; simp [hx],by simp only [List.length_append,List.length_cons,List.length_nil]; omega,hJ5,hbf.trans hk5,Nat.le_trans hsf hk5.size,(fun t ht=>HP.out.ma t (by simp [ht])),HP.out.mb⟩
      gi_wp2
      go_roundw
      case rel=>exact ⟨_,_,_,HN.out⟩
      case measure=>simp [sln] <;> omega
     ·gi_wp2
      refine bodyPost_ret (results_none rfl _ _ _) rfl ?_
      exact ⟨⟨_,rfl⟩,.inr ⟨pre ++ [x],⟨mrg az ((.slice sa' xs'.length sc',xs',k') :: bz),by rw [← HP.out.rest,HM.out]; simp [hx]⟩,hJx5⟩⟩
    ·by_cases hr2:0 < r
     ·have hsz:=HP.out.sz
      obtain ⟨b,o,sa,sc,xs,k,rfl,hb,hs,c1,c2,hI⟩:=(HP.out.pa.keep HP.out.bel).get hsz (Below.refl _ wr) (i:=0) (by simp)
      simp at hs
      subst hs
      simp only [Nat.zero_mul,Nat.add_zero] at c1 c2
      obtain ⟨b',o',sa',sc',xs',k',rfl,hb',hs',c1',c2',hI'⟩:=(HP.out.pb.keep HP.out.bel).get hsz (Below.refl _ wr) (i:=0) (by simp)
      simp at hs'
      subst hs'
      simp only [Nat.zero_mul,Nat.add_zero] at c1' c2'
      simp only at HC
      have kf:=fun W h1 h2 h3=>callsIn_wide (n:=n - 1) |>.2 (first_any n₀ (.slice (some ⟨b,o,none⟩) (((.slice sa xs.length sc,xs,k) :: az):List Tr).length na) (.slice (some ⟨b',o',none⟩) (((.slice sa' xs'.length sc',xs',k') :: bz):List Tr).length nb) ((.slice sa xs.length sc,xs,k) :: az) ((.slice sa' xs'.length sc',xs',k') :: bz) W h1 h2 h3 r HC.out)
      gi_wp2_with fail
      obtain ⟨W1,hW1⟩:∃ W1,(wr.alloc (Obj.cells #[Value.slice none 0 0,Value.int IntKind.i64 0] 82)).alloc (Obj.cells #[Value.slice none 0 0,Value.int IntKind.i64 0] 82)=W1:=⟨_,rfl⟩
      have HB1:Hid (Below wr.heap.size wr W1):=hW1▸bal (ba wr _) _
      have s1:W1.heap.size=wr.heap.size + 2:=by rw [← hW1]; simp
      have p1:W1.cell? ⟨wr.heap.size,0,none⟩=some (.slice none 0 0):=by rw [← hW1]; simp [go_sem]
      have p2:W1.cell? ⟨wr.heap.size,1,none⟩=some (.int .i64 0):=by rw [← hW1]; simp [go_sem]
      have p3:W1.frozen? ⟨wr.heap.size,0,none⟩=false:=by rw [← hW1]; simp [go_sem]
      have p4:W1.frozen? ⟨wr.heap.size,1,none⟩=false:=by rw [← hW1]; simp [go_sem]
      have p5:W1.cell? ⟨wr.heap.size + 1,0,none⟩=some (.slice none 0 0):=by rw [← hW1]; simp [go_sem]
      have p6:W1.cell? ⟨wr.heap.size + 1,1,none⟩=some (.int .i64 0):=by rw [← hW1]; simp [go_sem]
      have p7:W1.frozen? ⟨wr.heap.size + 1,0,none⟩=false:=by rw [← hW1]; simp [go_sem]
      have p8:W1.frozen? ⟨wr.heap.size + 1,1,none⟩=false:=by rw [← hW1]; simp [go_sem]
      rw [hW1]
      clear hW1
      refine ⟨trivial,?_⟩
      refine (kf W1 (by omega) ((HP.out.pa.keep HP.out.bel).at hsz HB1.out) ((HP.out.pb.keep HP.out.bel).at hsz HB1.out)).mono ?_
      rintro e w2 ⟨rfl,hb2⟩
      obtain ⟨hc2,hf2⟩:=bcell hb2
      have l1:wr.heap.size < W1.heap.size:=by omega
      have l2:wr.heap.size + 1 < W1.heap.size:=by omega
      have q1:=(hc2 _ 0 l1).trans p1
      have q2:=(hc2 _ 1 l1).trans p2
      have q3:=(hf2 _ 0 l1).trans p3
      have q4:=(hf2 _ 1 l1).trans p4
      have q5:=(hc2 _ 0 l2).trans p5
      have q6:=(hc2 _ 1 l2).trans p6
      have q7:=(hf2 _ 0 l2).trans p7
      have q8:=(hf2 _ 1 l2).trans p8
      have HB2:Hid (Below wr.heap.size wr w2):=bt HB1.out hb2
      have e1:=(HB2.out.cell (p:=⟨b,o,none⟩) hb).trans c1
      have e2:=(HB2.out.cell (p:=⟨b,o + 1,none⟩) hb).trans c2
      have e1':=(HB2.out.cell (p:=⟨b',o',none⟩) hb').trans c1'
      have e2':=(HB2.out.cell (p:=⟨b',o' + 1,none⟩) hb').trans c2'
      have s2:=hb2.size
      clear hc2 hf2 hb2 p1 p2 p3 p4 p5 p6 p7 p8 kf c1 c2 c1' c2'
      have r1:=q1
      have r2:=q2
      have r5:=q5
      have r6:=q6
      have r7:=q7
      have r8:=q8
      clear q1 q2 q3 q4 q5 q6 q7 q8
      gi_wp2_with fail
      gi_region
      obtain ⟨AB,hAB⟩:∃ A',(if nb=1 then some (⟨b',o',none⟩:Addr) else some ⟨b',o' + 2,none⟩)=A':=⟨_,rfl⟩
      have HTB:Hid (1 < nb→AB=some ⟨b',o' + 2,none⟩):=fun h=>by rw [← hAB,if_neg (by omega)]
      obtain ⟨w4,hw4⟩:∃ W3,((w2.setCell ⟨wr.heap.size + 1,0,none⟩ (.slice sa' xs'.length sc')).setCell ⟨wr.heap.size + 1,1,none⟩ (.int .i64 k')).drew=W3:=⟨_,rfl⟩
      have Hw4:Hid (Below wr.heap.size wr w4):=hw4▸(bs (bs HB2.out (by simp) _) (by simp) _).drew
      have zw4:w4.heap.size=w2.heap.size:=by rw [← hw4]; simp
      have t1:w4.cell? ⟨wr.heap.size,0,none⟩=some (.slice none 0 0):=by rw [← hw4]; exact (sc_other (by simp)).trans ((sc_other (by simp)).trans r1)
      have t2:w4.cell? ⟨wr.heap.size,1,none⟩=some (.int .i64 0):=by rw [← hw4]; exact (sc_other (by simp)).trans ((sc_other (by simp)).trans r2)
      have t5:w4.cell? ⟨wr.heap.size + 1,0,none⟩=some (.slice sa' xs'.length sc'):=by rw [← hw4]; exact (sc_other (by simp)).trans (sc_same r5)
      have t6:w4.cell? ⟨wr.heap.size + 1,1,none⟩=some (.int .i64 k'):=by rw [← hw4]; exact sc_same (u:=.int .i64 0) ((sc_other (by simp)).trans r6)
      rw [hw4,hAB]
      clear hw4 hAB r1 r2 r5 r6 r7 r8
      have hJf:J pre w4:=hJ _ _ _ none HP.out.j (grown_of_below Hw4.out) (by simp)
      have hln:=HP.out.len
      simp only [List.length_cons] at hln
      obtain ⟨x,hx⟩:∃ x:PP w n₀ M,x.1=(no,(.slice sa' xs'.length sc',xs',k')):=⟨⟨(no,(.slice sa' xs'.length sc',xs',k')),(ints_nil _ _ _),(HP.out.pb.elem2 (by simp)),⟨Int.le_refl _,hM0⟩,(HP.out.mb _ (by simp))⟩,rfl⟩
      obtain ⟨fn,tmps,assign,body,hy,hR⟩:=hY pre x w4 hJf (by omega)
      simp only [encPP,hx] at hy
      have HM:Hid (mrg ((.slice sa xs.length sc,xs,k) :: az) ((.slice sa' xs'.length sc',xs',k') :: bz)=(no,(.slice sa' xs'.length sc',xs',k')) :: mrg ((.slice sa xs.length sc,xs,k) :: az) bz):=mrg_gt (by show 0 < cmpT xs xs'; rw [HC.out]; exact hr2)
      have hbf:Below n₀ w w4:=HP.out.bel.trans (Hw4.out.mono hsz)
      have hsf:n₀≤w4.heap.size:=Nat.le_trans hsz Hw4.out.size
      clear hJf
      gi_wp2
      refine hR.mono ?_
      rintro e W5 (⟨rfl,hJ5,hk5⟩ | ⟨rfl,hJx5⟩)
      ·have HN:Hid (Pw w n₀ M A0 B0 J W _ _ ((.slice sa xs.length sc,xs,k) :: az) bz (pre ++ [x]) W5):=⟨HP.out.pa,HP.out.pb.tail _ HTB.out,by rw [List.map_append,List.append_assoc,← HP.out.rest,HM.out]; simp [hx],by simp only [List.length_append,List.length_cons,List.length_nil]; omega,hJ5,hbf.trans hk5,Nat.le_trans hsf hk5.size,HP.out.ma,(fun t ht=>HP.out.mb t (by simp [ht]))⟩
       gi_wp2
       go_roundw
       case rel=>exact ⟨_,_,_,HN.out⟩
       case measure=>simp [sln] <;> omega
      ·gi_wp2
       refine bodyPost_ret (results_none rfl _ _ _) rfl ?_
       exact ⟨⟨_,rfl⟩,.inr ⟨pre ++ [x],⟨mrg ((.slice sa xs.length sc,xs,k) :: az) bz,by rw [← HP.out.rest,HM.out]; simp [hx]⟩,hJx5⟩⟩
     ·have hsz:=HP.out.sz
      obtain ⟨b,o,sa,sc,xs,k,rfl,hb,hs,c1,c2,hI⟩:=(HP.out.pa.keep HP.out.bel).get hsz (Below.refl _ wr) (i:=0) (by simp)
      simp at hs
      subst hs
      simp only [Nat.zero_mul,Nat.add_zero] at c1 c2
      obtain ⟨b',o',sa',sc',xs',k',rfl,hb',hs',c1',c2',hI'⟩:=(HP.out.pb.keep HP.out.bel).get hsz (Below.refl _ wr) (i:=0) (by simp)
      simp at hs'
      subst hs'
      simp only [Nat.zero_mul,Nat.add_zero] at c1' c2'
      simp only at HC
      have hr0:r=0:=by omega
      subst hr0
      have kf:=fun W h1 h2 h3=>callsIn_wide (n:=n - 1) |>.2 (first_any n₀ (.slice (some ⟨b,o,none⟩) (((.slice sa xs.length sc,xs,k) :: az):List Tr).length na) (.slice (some ⟨b',o',none⟩) (((.slice sa' xs'.length sc',xs',k') :: bz):List Tr).length nb) ((.slice sa xs.length sc,xs,k) :: az) ((.slice sa' xs'.length sc',xs',k') :: bz) W h1 h2 h3 0 HC.out)
      gi_wp2_with fail
      obtain ⟨W1,hW1⟩:∃ W1,(wr.alloc (Obj.cells #[Value.slice none 0 0,Value.int IntKind.i64 0] 82)).alloc (Obj.cells #[Value.slice none 0 0,Value.int IntKind.i64 0] 82)=W1:=⟨_,rfl⟩
      have HB1:Hid (Below wr.heap.size wr W1):=hW1▸bal (ba wr _) _
      have s1:W1.heap.size=wr.heap.size + 2:=by rw [← hW1]; simp
      have p1:W1.cell? ⟨wr.heap.size,0,none⟩=some (.slice none 0 0):=by rw [← hW1]; simp [go_sem]
      have p2:W1.cell? ⟨wr.heap.size,1,none⟩=some (.int .i64 0):=by rw [← hW1]; simp [go_sem]
      have p3:W1.frozen? ⟨wr.heap.size,0,none⟩=false:=by rw [← hW1]; simp [go_sem]
      have p4:W1.frozen? ⟨wr.heap.size,1,none⟩=false:=by rw [← hW1]; simp [go_sem]
      have p5:W1.cell? ⟨wr.heap.size + 1,0,none⟩=some (.slice none 0 0):=by rw [← hW1]; simp [go_sem]
      have p6:W1.cell? ⟨wr.heap.size + 1,1,none⟩=some (.int .i64 0):=by rw [← hW1]; simp [go_sem]
      have p7:W1.frozen? ⟨wr.heap.size + 1,0,none⟩=false:=by rw [← hW1]; simp [go_sem]
      have p8:W1.frozen? ⟨wr.heap.size + 1,1,none⟩=false:=by rw [← hW1]; simp [go_sem]
      rw [hW1]
      clear hW1
      refine ⟨trivial,?_⟩
      refine (kf W1 (by omega) ((HP.out.pa.keep HP.out.bel).at hsz HB1.out) ((HP.out.pb.keep HP.out.bel).at hsz HB1.out)).mono ?_
      rintro e w2 ⟨rfl,hb2⟩
      obtain ⟨hc2,hf2⟩:=bcell hb2
      have l1:wr.heap.size < W1.heap.size:=by omega
      have l2:wr.heap.size + 1 < W1.heap.size:=by omega
      have q1:=(hc2 _ 0 l1).trans p1
      have q2:=(hc2 _ 1 l1).trans p2
      have q3:=(hf2 _ 0 l1).trans p3
      have q4:=(hf2 _ 1 l1).trans p4
      have q5:=(hc2 _ 0 l2).trans p5
      have q6:=(hc2 _ 1 l2).trans p6
      have q7:=(hf2 _ 0 l2).trans p7
      have q8:=(hf2 _ 1 l2).trans p8
      have HB2:Hid (Below wr.heap.size wr w2):=bt HB1.out hb2
      have e1:=(HB2.out.cell (p:=⟨b,o,none⟩) hb).trans c1
      have e2:=(HB2.out.cell (p:=⟨b,o + 1,none⟩) hb).trans c2
      have e1':=(HB2.out.cell (p:=⟨b',o',none⟩) hb').trans c1'
      have e2':=(HB2.out.cell (p:=⟨b',o' + 1,none⟩) hb').trans c2'
      have s2:=hb2.size
      clear hc2 hf2 hb2 p1 p2 p3 p4 p5 p6 p7 p8 kf c1 c2 c1' c2'
      gi_wp2_with fail
      gi_region
      obtain ⟨AA,hAA⟩:∃ A',(if na=1 then some (⟨b,o,none⟩:Addr) else some ⟨b,o + 2,none⟩)=A':=⟨_,rfl⟩
      have HTA:Hid (1 < na→AA=some ⟨b,o + 2,none⟩):=fun h=>by rw [← hAA,if_neg (by omega)]
      obtain ⟨w3,hw3⟩:∃ W3,((w2.setCell ⟨wr.heap.size,0,none⟩ (.slice sa xs.length sc)).setCell ⟨wr.heap.size,1,none⟩ (.int .i64 k)).drew=W3:=⟨_,rfl⟩
      have Hw3:Hid (Below wr.heap.size wr w3):=hw3▸(bs (bs HB2.out (by simp) _) (by simp) _).drew
      have zw3:w3.heap.size=w2.heap.size:=by rw [← hw3]; simp
      have r1:w3.cell? ⟨wr.heap.size,0,none⟩=some (.slice sa xs.length sc):=by rw [← hw3]; exact (sc_other (by simp)).trans (sc_same q1)
      have r2:w3.cell? ⟨wr.heap.size,1,none⟩=some (.int .i64 k):=by rw [← hw3]; exact sc_same (u:=.int .i64 0) ((sc_other (by simp)).trans q2)
      have r5:w3.cell? ⟨wr.heap.size + 1,0,none⟩=some (.slice none 0 0):=by rw [← hw3]; exact (sc_other (by simp)).trans ((sc_other (by simp)).trans q5)
      have r6:w3.cell? ⟨wr.heap.size + 1,1,none⟩=some (.int .i64 0):=by rw [← hw3]; exact (sc_other (by simp)).trans ((sc_other (by simp)).trans q6)
      have r7:w3.frozen? ⟨wr.heap.size + 1,0,none⟩=false:=by rw [← hw3]; exact sc_frozen.trans (sc_frozen.trans q7)
      have r8:w3.frozen? ⟨wr.heap.size + 1,1,none⟩=false:=by rw [← hw3]; exact sc_frozen.trans (sc_frozen.trans q8)
      have f1':=(Hw3.out.cell (p:=⟨b',o',none⟩) hb').trans ((HB2.out.cell (p:=⟨b',o',none⟩) hb').symm.trans e1')
      have f2':=(Hw3.out.cell (p:=⟨b',o' + 1,none⟩) hb').trans ((HB2.out.cell (p:=⟨b',o' + 1,none⟩) hb').symm.trans e2')
      rw [hw3,hAA]
      clear hw3 hAA q1 q2 q3 q4 q5 q6 q7 q8 e1 e2 e1' e2'
      gi_wp2_with fail
      gi_region
      obtain ⟨AB,hAB⟩:∃ A',(if nb=1 then some (⟨b',o',none⟩:Addr) else some ⟨b',o' + 2,none⟩)=A':=⟨_,rfl⟩
      have HTB:Hid (1 < nb→AB=some ⟨b',o' + 2,none⟩):=fun h=>by rw [← hAB,if_neg (by omega)]
      obtain ⟨w4,hw4⟩:∃ W3,((w3.setCell ⟨wr.heap.size + 1,0,none⟩ (.slice sa' xs'.length sc')).setCell ⟨wr.heap.size + 1,1,none⟩ (.int .i64 k')).drew=W3:=⟨_,rfl⟩
      have Hw4:Hid (Below wr.heap.size wr w4):=hw4▸(bs (bs Hw3.out (by simp) _) (by simp) _).drew
      have zw4:w4.heap.size=w3.heap.size:=by rw [← hw4]; simp
      have t1:w4.cell? ⟨wr.heap.size,0,none⟩=some (.slice sa xs.length sc):=by rw [← hw4]; exact (sc_other (by simp)).trans ((sc_other (by simp)).trans r1)
      have t2:w4.cell? ⟨wr.heap.size,1,none⟩=some (.int .i64 k):=by rw [← hw4]; exact (sc_other (by simp)).trans ((sc_other (by simp)).trans r2)
      have t5:w4.cell? ⟨wr.heap.size + 1,0,none⟩=some (.slice sa' xs'.length sc'):=by rw [← hw4]; exact (sc_other (by simp)).trans (sc_same r5)
      have t6:w4.cell? ⟨wr.heap.size + 1,1,none⟩=some (.int .i64 k'):=by rw [← hw4]; exact sc_same (u:=.int .i64 0) ((sc_other (by simp)).trans r6)
      rw [hw4,hAB]
      clear hw4 hAB r1 r2 r5 r6 r7 r8
      have hJf:J pre w4:=hJ _ _ _ none HP.out.j (grown_of_below Hw4.out) (by simp)
      have hln:=HP.out.len
      simp only [List.length_cons] at hln
      obtain ⟨x,hx⟩:∃ x:PP w n₀ M,x.1=((.slice sa xs.length sc,xs,k),(.slice sa' xs'.length sc',xs',k')):=⟨⟨((.slice sa xs.length sc,xs,k),(.slice sa' xs'.length sc',xs',k')),(HP.out.pa.elem2 (by simp)),(HP.out.pb.elem2 (by simp)),(HP.out.ma _ (by simp)),(HP.out.mb _ (by simp))⟩,rfl⟩
      obtain ⟨fn,tmps,assign,body,hy,hR⟩:=hY pre x w4 hJf (by omega)
      simp only [encPP,hx] at hy
      have HM:Hid (mrg ((.slice sa xs.length sc,xs,k) :: az) ((.slice sa' xs'.length sc',xs',k') :: bz)=((.slice sa xs.length sc,xs,k),(.slice sa' xs'.length sc',xs',k')) :: mrg az bz):=mrg_eq (by show cmpT xs xs' = 0; exact HC.out)
      have hbf:Below n₀ w w4:=HP.out.bel.trans (Hw4.out.mono hsz)
      have hsf:n₀≤w4.heap.size:=Nat.le_trans hsz Hw4.out.size
      clear hJf
      gi_wp2
      refine hR.mono ?_
      rintro e W5 (⟨rfl,hJ5,hk5⟩ | ⟨rfl,hJx5⟩)
      ·have HN:Hid (Pw w n₀ M A0 B0 J W _ _ az bz (pre ++ [x]) W5):=⟨HP.out.pa.tail _ HTA.out,HP.out.pb.tail _ HTB.out,by rw [List.map_append,List.append_assoc,← HP.out.rest,HM.out]; simp [hx],by simp only [List.length_append,List.length_cons,List.length_nil]; omega,hJ5,hbf.trans hk5,Nat.le_trans hsf hk5.size,(fun t ht=>HP.out.ma t (by simp [ht])),(fun t ht=>HP.out.mb t (by simp [ht]))⟩
       gi_wp2
       go_roundw
       case rel=>exact ⟨_,_,_,HN.out⟩
       case measure=>simp [sln] <;> omega
      ·gi_wp2
       refine bodyPost_ret (results_none rfl _ _ _) rfl ?_
       exact ⟨⟨_,rfl⟩,.inr ⟨pre ++ [x],⟨mrg az bz,by rw [← HP.out.rest,HM.out]; simp [hx]⟩,hJx5⟩⟩
end Go.Proofs.YtlndlpjadajelaaGreat
