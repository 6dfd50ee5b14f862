import Derived.Test.YtlndlpjadajelaaGreatQq11
import Derived.Test.YtlndlpjadajelaaGreatQq01
import Derived.Test.YtlndlpjadajelaaGreatQq06
import Derived.Test.YtlndlpjadajelaaGreatQq05
namespace Go.Proofs.YtlndlpjadajelaaGreat
open Go.RowKit Go.Proofs.YtlndlpjadajelaaGreat.Ds
def outsT (l m:List Pt):List (List Int):=l.map (·.1) ++ (m.filter fun p=>wt l p.1 == 0).map (·.1)
def pw (p:Pt × Pt):Int × Int:=(p.1.2,p.2.2)
def ow (l m:List Pt) (o:List Int):Int × Int:=(wt l o,wt m o)
theorem wt_low {p:Pt} {l:List Pt} (h:Rise (p :: l)) {o:List Int} (ho:ltL o p.1):wt (p :: l) o=0:=by
 refine wt_none fun q hq=>?_
 rcases List.mem_cons.1 hq with rfl | hq
 ·exact (ltL_ne ho).symm
 ·exact (ltL_ne (ltL_trans ho ((List.pairwise_cons.1 h).1 q hq))).symm
theorem wt_skip {p:Pt} {l:List Pt} {o:List Int} (ho:p.1≠o):wt (p :: l) o=wt l o:=by rw [wt_cons,if_neg ho]; omega
theorem wt_mem {l:List Pt} (hr:Rise l) {p:Pt} (hp:p∈l):wt l p.1=p.2:=by
 obtain ⟨i,hi,h⟩:=List.getElem_of_mem hp
 exact wt_at hr (by rw [List.getElem?_eq_getElem hi,h])
theorem tail_ne {p q:Pt} {l:List Pt} (h:Rise (p :: l)) (hq:q∈l):p.1≠q.1:=ltL_ne ((List.pairwise_cons.1 h).1 q hq)
theorem filter_congr' {α:Type} {f g:α→Bool} {l:List α} (h:∀ x∈l,f x=g x):l.filter f=l.filter g:=List.filter_congr h
theorem map_congr' {α β:Type} {f g:α→β} {l:List α} (h:∀ x∈l,f x=g x):l.map f=l.map g:=List.map_congr_left h
theorem outs_mem {l m:List Pt} {o:List Int} (h:o∈outsT l m):(∃ p∈l,p.1=o)∨∃ p∈m,p.1=o:=by
 simp only [outsT,List.mem_append,List.mem_map,List.mem_filter] at h
 rcases h with ⟨p,h1,h2⟩ | ⟨p,h1,h2⟩
 ·exact .inl ⟨p,h1,h2⟩
 ·exact .inr ⟨p,h1.1,h2⟩
theorem mrg_perm {l m:List Pt} (hl:Rise l) (hm:Rise m) (pl:Pos l):((mrgP l m).map pw).Perm ((outsT l m).map (ow l m)):=by
 induction l,m using mrgP.induct with
 | case1=>simp [mrgP,outsT]
 | case2 b bs ih =>
  have ih:=ih hl (rise_tail hm) pl
  rw [mrgP]
  have e1:outsT [] (b :: bs)=b.1 :: outsT [] bs:=by simp [outsT]
  rw [e1,List.map_cons,List.map_cons]
  have e2:ow [] (b :: bs) b.1=pw (([],0),b):=by rw [ow,wt_head hm]; rfl
  have e3:(outsT [] bs).map (ow [] (b :: bs))=(outsT [] bs).map (ow [] bs):=by
   refine map_congr' fun o ho=>?_
   rcases outs_mem ho with ⟨p,h,_⟩ | ⟨p,h,rfl⟩
   ·cases h
   ·rw [ow,ow,wt_skip (tail_ne hm h)]
  rw [e2,e3]
  exact ih.cons _
 | case3 a az ih =>
  have ih:=ih (rise_tail hl) hm (fun p hp=>pl p (by simp [hp]))
  rw [mrgP]
  have e1:outsT (a :: az) []=a.1 :: outsT az []:=by simp [outsT]
  rw [e1,List.map_cons,List.map_cons]
  have e2:ow (a :: az) [] a.1=pw (a,([],0)):=by rw [ow,wt_head hl]; rfl
  have e3:(outsT az []).map (ow (a :: az) [])=(outsT az []).map (ow az []):=by
   refine map_congr' fun o ho=>?_
   rcases outs_mem ho with ⟨p,h,rfl⟩ | ⟨p,h,_⟩
   ·rw [ow,ow,wt_skip (tail_ne hl h)]
   ·cases h
  rw [e2,e3]
  exact ih.cons _
 | case4 a az b bs h ih =>
  have ih:=ih (rise_tail hl) hm (fun p hp=>pl p (by simp [hp]))
  rw [mrgP,if_pos h]
  have hab:∀ q∈b :: bs,a.1≠q.1:=fun q hq=>by
   rcases List.mem_cons.1 hq with rfl | hq
   ·exact ltL_ne h
   ·exact ltL_ne (ltL_trans h ((List.pairwise_cons.1 hm).1 q hq))
  have e1:outsT (a :: az) (b :: bs)=a.1 :: outsT az (b :: bs):=by
   rw [outsT,outsT,List.map_cons,List.cons_append,filter_congr' (g:=fun p=>wt az p.1 == 0)]
   intro q hq
   rw [wt_skip (hab q hq)]
  rw [e1,List.map_cons,List.map_cons]
  have e2:ow (a :: az) (b :: bs) a.1=pw (a,([],0)):=by rw [ow,wt_head hl,wt_low hm h]; rfl
  have e3:(outsT az (b :: bs)).map (ow (a :: az) (b :: bs))=(outsT az (b :: bs)).map (ow az (b :: bs)):=by
   refine map_congr' fun o ho=>?_
   rcases outs_mem ho with ⟨p,h,rfl⟩ | ⟨p,h,rfl⟩
   ·rw [ow,ow,wt_skip (tail_ne hl h)]
   ·rw [ow,ow,wt_skip (hab p h)]
  rw [e2,e3]
  exact ih.cons _
 | case5 a az b bs h1 h2 ih =>
  have ih:=ih hl (rise_tail hm) pl
  rw [mrgP,if_neg h1,if_pos h2]
  have hba:ltL b.1 a.1:=by unfold ltL; rw [cmpT_swap]; omega
  have hab:∀ q∈a :: az,b.1≠q.1:=fun q hq=>by
   rcases List.mem_cons.1 hq with rfl | hq
   ·exact ltL_ne hba
   ·exact ltL_ne (ltL_trans hba ((List.pairwise_cons.1 hl).1 q hq))
  have e0:wt (a :: az) b.1=0:=wt_low hl hba
  have e1:(outsT (a :: az) (b :: bs)).Perm (b.1 :: outsT (a :: az) bs):=by
   rw [outsT,outsT,List.filter_cons,if_pos (by rw [e0]; rfl),List.map_cons]
   exact List.perm_middle
  refine List.Perm.trans ?_ (e1.map _).symm
  rw [List.map_cons,List.map_cons]
  have e2:ow (a :: az) (b :: bs) b.1=pw (([],0),b):=by rw [ow,wt_head hm,e0]; rfl
  have e3:(outsT (a :: az) bs).map (ow (a :: az) (b :: bs))=(outsT (a :: az) bs).map (ow (a :: az) bs):=by
   refine map_congr' fun o ho=>?_
   rcases outs_mem ho with ⟨p,h,rfl⟩ | ⟨p,h,rfl⟩
   ·rw [ow,ow,wt_skip (hab p h)]
   ·rw [ow,ow,wt_skip (tail_ne hm h)]
  rw [e2,e3]
  exact ih.cons _
 | case6 a az b bs h1 h2 ih =>
  have ih:=ih (rise_tail hl) (rise_tail hm) (fun p hp=>pl p (by simp [hp]))
  rw [mrgP,if_neg h1,if_neg h2]
  have hab:a.1=b.1:=(cmpT_zero _ _).1 (by omega)
  have e1:outsT (a :: az) (b :: bs)=a.1 :: outsT az bs:=by
   have hpa:=pl a (by simp)
   rw [outsT,outsT,List.filter_cons,if_neg (by rw [← hab,wt_head hl]; simp; omega),List.map_cons,List.cons_append,filter_congr' (g:=fun p=>wt az p.1 == 0)]
   intro q hq
   rw [wt_skip (by rw [hab]; exact tail_ne hm hq)]
  rw [e1,List.map_cons,List.map_cons]
  have e2:ow (a :: az) (b :: bs) a.1=pw (a,b):=by rw [ow,wt_head hl,hab,wt_head hm]; rfl
  have e3:(outsT az bs).map (ow (a :: az) (b :: bs))=(outsT az bs).map (ow az bs):=by
   refine map_congr' fun o ho=>?_
   rcases outs_mem ho with ⟨p,h,rfl⟩ | ⟨p,h,rfl⟩
   ·rw [ow,ow,wt_skip (tail_ne hl h),wt_skip (by rw [← hab]; exact tail_ne hl h)]
   ·rw [ow,ow,wt_skip (tail_ne hm h),wt_skip (by rw [hab]; exact tail_ne hm h)]
  rw [e2,e3]
  exact ih.cons _
def Frc (Ta Tb:Int) (L:List (Int × Int)) (c:Int × Int):Prop:=c=(1,1)∨∃ p∈L,c=(p.1 * Tb,p.2 * Ta)∨c=(p.2 * Ta,p.1 * Tb)
def Mx (S:Int × Int→Prop) (q:Int × Int):Prop:=S q∧∀ c,S c→c.1 * q.2≤q.1 * c.2
def Ps (q:Int × Int):Prop:=0 < q.1∧0 < q.2
theorem frc_trans {d q c:Int × Int} (hd:Ps d) (hq:Ps q) (hc:Ps c) (h1:d.1 * q.2≤q.1 * d.2) (h2:q.1 * c.2≤c.1 * q.2):d.1 * c.2≤c.1 * d.2:=by
 have a1:d.1 * q.2 * c.2≤q.1 * d.2 * c.2:=Int.mul_le_mul_of_nonneg_right h1 (Int.le_of_lt hc.2)
 have a2:q.1 * c.2 * d.2≤c.1 * q.2 * d.2:=Int.mul_le_mul_of_nonneg_right h2 (Int.le_of_lt hd.2)
 have a3:d.1 * c.2 * q.2≤c.1 * d.2 * q.2:=by
  have e1:d.1 * c.2 * q.2=d.1 * q.2 * c.2:=Int.mul_right_comm _ _ _
  have e2:q.1 * d.2 * c.2=q.1 * c.2 * d.2:=Int.mul_right_comm _ _ _
  have e3:c.1 * q.2 * d.2=c.1 * d.2 * q.2:=Int.mul_right_comm _ _ _
  omega
 exact Int.le_of_mul_le_mul_right a3 hq.2
theorem Mx.step {S T:Int × Int→Prop} {q c:Int × Int} (h:Mx S q) (hS:∀ d,S d→Ps d) (hc:Ps c) (hT:∀ d,T d↔S d∨d=c):Mx T (if q.1 * c.2 < c.1 * q.2 then c else q):=by
 split
 ·rename_i hlt
  refine ⟨(hT c).2 (.inr rfl),fun d hd=>?_⟩
  rcases (hT d).1 hd with hd | rfl
  ·exact frc_trans (hS d hd) (hS q h.1) hc (h.2 d hd) (Int.le_of_lt hlt)
  ·exact Int.le_refl _
 ·rename_i hlt
  refine ⟨(hT q).2 (.inl h.1),fun d hd=>?_⟩
  rcases (hT d).1 hd with hd | rfl
  ·exact h.2 d hd
  ·omega
theorem Mx.uniq {S:Int × Int→Prop} {q r:Int × Int} (h:Mx S q) (k:Mx S r):q.1 * r.2=r.1 * q.2:=by
 have:=h.2 r k.1
 have:=k.2 q h.1
 omega
def farStepR (Ta Tb:Int) (q:Int × Int) (p:Int × Int):Int × Int :=
 let r:=if q.1 * (p.2 * Ta) < p.1 * Tb * q.2 then (p.1 * Tb,p.2 * Ta) else q
 if r.1 * (p.1 * Tb) < p.2 * Ta * r.2 then (p.2 * Ta,p.1 * Tb) else r
def farR (Ta Tb:Int) (L:List (Int × Int)):Int × Int:=L.foldl (farStepR Ta Tb) (1,1)
def Psl (L:List (Int × Int)):Prop:=∀ p∈L,0 < p.1∧0 < p.2
theorem frc_ps {Ta Tb:Int} (ha:0 < Ta) (hb:0 < Tb) {L:List (Int × Int)} (hL:Psl L) {c:Int × Int} (h:Frc Ta Tb L c):Ps c:=by
 rcases h with rfl | ⟨p,hp,rfl | rfl⟩
 ·exact ⟨by decide,by decide⟩
 ·exact ⟨Int.mul_pos (hL p hp).1 hb,Int.mul_pos (hL p hp).2 ha⟩
 ·exact ⟨Int.mul_pos (hL p hp).2 ha,Int.mul_pos (hL p hp).1 hb⟩
theorem frc_snoc {Ta Tb:Int} {L:List (Int × Int)} {p c:Int × Int}:Frc Ta Tb (L ++ [p]) c↔(Frc Ta Tb L c∨c=(p.1 * Tb,p.2 * Ta))∨c=(p.2 * Ta,p.1 * Tb):=by
 unfold Frc
 constructor
 ·rintro (h | ⟨q,hq,h⟩)
  ·exact .inl (.inl (.inl h))
  ·rcases List.mem_append.1 hq with hq | hq
   ·exact .inl (.inl (.inr ⟨q,hq,h⟩))
   ·obtain rfl:q=p:=by simpa using hq
    rcases h with h | h
    ·exact .inl (.inr h)
    ·exact .inr h
 ·rintro ((h | h) | h)
  ·rcases h with h | ⟨q,hq,h⟩
   ·exact .inl h
   ·exact .inr ⟨q,by simp [hq],h⟩
  ·exact .inr ⟨p,by simp,.inl h⟩
  ·exact .inr ⟨p,by simp,.inr h⟩
theorem mx_one (Ta Tb:Int):Mx (Frc Ta Tb []) (1,1):=by
 refine ⟨.inl rfl,?_⟩
 rintro c (rfl | ⟨p,hp,_⟩)
 ·exact Int.le_refl _
 ·cases hp
theorem farR_mx {Ta Tb:Int} (ha:0 < Ta) (hb:0 < Tb) (L:List (Int × Int)) (hL:Psl L):Mx (Frc Ta Tb L) (farR Ta Tb L):=by
 have key:∀ (M L:List (Int × Int)) (q:Int × Int),Psl (L ++ M)→Mx (Frc Ta Tb L) q→Mx (Frc Ta Tb (L ++ M)) (M.foldl (farStepR Ta Tb) q):=by
  intro M
  induction M with
  | nil=>intro L q _ h; simpa using h
  | cons p M ih =>
   intro L q hps h
   have h0:Psl (L ++ [p] ++ M):=by simpa using hps
   have hp:=hps p (by simp)
   have c1:Ps (p.1 * Tb,p.2 * Ta):=⟨Int.mul_pos hp.1 hb,Int.mul_pos hp.2 ha⟩
   have hL:Psl L:=fun r hr=>hps r (by simp [hr])
   have m1:=h.step (T:=fun d=>Frc Ta Tb L d∨d=(p.1 * Tb,p.2 * Ta)) (fun d hd=>frc_ps ha hb hL hd) c1 (fun d=>Iff.rfl)
   have m2:=m1.step (T:=Frc Ta Tb (L ++ [p])) (c:=(p.2 * Ta,p.1 * Tb)) (fun d hd=>hd.elim (frc_ps ha hb hL) (fun e=>e▸c1)) ⟨c1.2,c1.1⟩ (fun d=>frc_snoc)
   have:=ih (L ++ [p]) _ h0 m2
   simpa [farStepR] using this
 have:=key L [] (1,1) (by simpa using hL) (mx_one Ta Tb)
 simpa [farR] using this
theorem farF_mx {Ta Tb:Int} (ha:0 < Ta) (hb:0 < Tb) (l:List (Pt × Pt)) (hL:Psl (l.map pw)):Mx (Frc Ta Tb (l.map pw)) (farF Ta Tb l):=by
 have key:∀ (M L:List (Pt × Pt)) (q:Int × Int),Psl ((L ++ M).map pw)→Mx (Frc Ta Tb (L.map pw)) q→Mx (Frc Ta Tb ((L ++ M).map pw)) (M.foldl (farStep Ta Tb) q):=by
  intro M
  induction M with
  | nil=>intro L q _ h; simpa using h
  | cons p M ih =>
   intro L q hps h
   have h0:Psl ((L ++ [p] ++ M).map pw):=by simpa using hps
   have hp:0 < p.1.2∧0 < p.2.2:=hps (pw p) (by simp)
   have c1:Ps (p.1.2 * Tb,p.2.2 * Ta):=⟨Int.mul_pos hp.1 hb,Int.mul_pos hp.2 ha⟩
   have hL:Psl (L.map pw):=fun r hr=>hps r (by rw [List.map_append]; exact List.mem_append_left _ hr)
   have hfr:∀ c,Frc Ta Tb ((L ++ [p]).map pw) c↔(Frc Ta Tb (L.map pw) c∨c=(p.1.2 * Tb,p.2.2 * Ta))∨c=(p.2.2 * Ta,p.1.2 * Tb):=by
    intro c
    rw [List.map_append,List.map_cons,List.map_nil]
    exact frc_snoc
   have m2:Mx (Frc Ta Tb ((L ++ [p]).map pw)) (farStep Ta Tb q p):=by
    unfold farStep
    split
    ·rename_i hlt
     have m1:=h.step (T:=fun d=>Frc Ta Tb (L.map pw) d∨d=(p.2.2 * Ta,p.1.2 * Tb)) (c:=(p.2.2 * Ta,p.1.2 * Tb)) (fun d hd=>frc_ps ha hb hL hd) ⟨c1.2,c1.1⟩ (fun d=>Iff.rfl)
     simp only at m1
     refine ⟨(hfr _).2 (m1.1.elim (fun x=>.inl (.inl x)) .inr),fun c hc=>?_⟩
     rcases (hfr c).1 hc with (hc | rfl) | rfl
     ·exact m1.2 c (.inl hc)
     ·have hq:=m1.2 _ (.inr rfl)
      have hqp:Ps (if q.1 * (p.1.2 * Tb) < p.2.2 * Ta * q.2 then (p.2.2 * Ta,p.1.2 * Tb) else q):=m1.1.elim (frc_ps ha hb hL) (fun e=>by rw [e]; exact ⟨c1.2,c1.1⟩)
      generalize (if q.1 * (p.1.2 * Tb) < p.2.2 * Ta * q.2 then (p.2.2 * Ta,p.1.2 * Tb) else q)=z at *
      simp only at hq ⊢
      have e1:p.1.2 * Tb * z.2≤p.2.2 * Ta * z.2:=Int.mul_le_mul_of_nonneg_right (Int.le_of_lt hlt) (Int.le_of_lt hqp.2)
      have e2:z.1 * (p.1.2 * Tb)≤z.1 * (p.2.2 * Ta):=Int.mul_le_mul_of_nonneg_left (Int.le_of_lt hlt) (Int.le_of_lt hqp.1)
      omega
     ·exact m1.2 _ (.inr rfl)
    ·rename_i hlt
     have m1:=h.step (T:=fun d=>Frc Ta Tb (L.map pw) d∨d=(p.1.2 * Tb,p.2.2 * Ta)) (c:=(p.1.2 * Tb,p.2.2 * Ta)) (fun d hd=>frc_ps ha hb hL hd) c1 (fun d=>Iff.rfl)
     simp only at m1
     refine ⟨(hfr _).2 (.inl m1.1),fun c hc=>?_⟩
     rcases (hfr c).1 hc with hc | rfl
     ·exact m1.2 c hc
     ·have hq:=m1.2 _ (.inr rfl)
      have hqp:Ps (if q.1 * (p.2.2 * Ta) < p.1.2 * Tb * q.2 then (p.1.2 * Tb,p.2.2 * Ta) else q):=m1.1.elim (frc_ps ha hb hL) (fun e=>by rw [e]; exact c1)
      generalize (if q.1 * (p.2.2 * Ta) < p.1.2 * Tb * q.2 then (p.1.2 * Tb,p.2.2 * Ta) else q)=z at *
      simp only at hq ⊢
      have e1:p.2.2 * Ta * z.2≤p.1.2 * Tb * z.2:=Int.mul_le_mul_of_nonneg_right (by omega) (Int.le_of_lt hqp.2)
      have e2:z.1 * (p.2.2 * Ta)≤z.1 * (p.1.2 * Tb):=Int.mul_le_mul_of_nonneg_left (by omega) (Int.le_of_lt hqp.1)
      omega
   have:=ih (L ++ [p]) _ h0 m2
   simpa using this
 have:=key l [] (1,1) (by simpa using hL) (mx_one Ta Tb)
 simpa [farF] using this
theorem mkT_cross {a b c d:Int} (ha:0 < a) (hb:0 < b) (hc:0 < c) (hd:0 < d) (h:a * d=c * b):Rt.mkT a b=Rt.mkT c d:=by
 unfold Rt.mkT
 rw [if_neg (by omega),if_neg (by omega),(Rat.divInt_eq_divInt_iff (by omega) (by omega)).2 h]
theorem far_outs {l m:List Pt} (hl:Dis l) (hm:Dis m) (hn:(mrgP l m).any lone=false) :
  Rt.mkT (farF (tot l) (tot m) (mrgP l m)).1 (farF (tot l) (tot m) (mrgP l m)).2=Rt.mkT (farR (tot l) (tot m) ((outsT l m).map (ow l m))).1 (farR (tot l) (tot m) ((outsT l m).map (ow l m))).2:=by
 have hTa:=tot_pos2 hl.pos hl.ne
 have hTb:=tot_pos2 hm.pos hm.ne
 have hp:=mrg_perm hl.rise hm.rise hl.pos
 have hps:Psl ((mrgP l m).map pw):=by
  intro q hq
  obtain ⟨p,h1,rfl⟩:=List.mem_map.1 hq
  have h2:=List.any_eq_false.1 hn p h1
  obtain ⟨h3,h4⟩:=mrgP_mem h1
  simp only [lone,Bool.or_eq_true,beq_iff_eq,not_or] at h2
  refine ⟨?_,?_⟩
  ·rcases h3 with h3 | h3
   ·exact hl.pos _ h3
   ·rw [h3] at h2; exact absurd rfl h2.1
  ·rcases h4 with h4 | h4
   ·exact hm.pos _ h4
   ·rw [h4] at h2; exact absurd rfl h2.2
 have hps':Psl ((outsT l m).map (ow l m)):=fun q hq=>hps q (hp.mem_iff.2 hq)
 have m1:=farF_mx hTa hTb _ hps
 have m2:=farR_mx hTa hTb _ hps'
 have m2':Mx (Frc (tot l) (tot m) ((mrgP l m).map pw)) (farR (tot l) (tot m) ((outsT l m).map (ow l m))):=by
  have e:∀ c,Frc (tot l) (tot m) ((mrgP l m).map pw) c↔Frc (tot l) (tot m) ((outsT l m).map (ow l m)) c:=fun c=>by
   unfold Frc
   constructor
   ·rintro (h | ⟨q,hq,h⟩)
    ·exact .inl h
    ·exact .inr ⟨q,hp.mem_iff.1 hq,h⟩
   ·rintro (h | ⟨q,hq,h⟩)
    ·exact .inl h
    ·exact .inr ⟨q,hp.mem_iff.2 hq,h⟩
  exact ⟨(e _).2 m2.1,fun c hc=>m2.2 c ((e c).1 hc)⟩
 have p1:=frc_ps hTa hTb hps m1.1
 have p2:=frc_ps hTa hTb hps m2'.1
 exact mkT_cross p1.1 p1.2 p2.1 p2.2 (m1.uniq m2')
def lonW (p:Int × Int):Bool:=p.1 == 0 || p.2 == 0
theorem lone_outs {l m:List Pt} (hl:Dis l) (hm:Dis m):(mrgP l m).any lone=((outsT l m).map (ow l m)).any lonW:=by
 have hp:=mrg_perm hl.rise hm.rise hl.pos
 have e1:(mrgP l m).any lone=((mrgP l m).map pw).any lonW:=by rw [List.any_map]; rfl
 rw [e1,Bool.eq_iff_iff,List.any_eq_true,List.any_eq_true]
 constructor
 ·rintro ⟨x,h1,h2⟩; exact ⟨x,hp.mem_iff.1 h1,h2⟩
 ·rintro ⟨x,h1,h2⟩; exact ⟨x,hp.mem_iff.2 h1,h2⟩
end Go.Proofs.YtlndlpjadajelaaGreat
namespace Go.Proofs.Rt
def Ok (q:Rat):Prop:=0≤q.num∧q.num≤mx∧(q.den:Int)≤mx
theorem right_rat {u d:Int} (h:rightB u d=true):∃ q:Rat,q.num=u∧(q.den:Int)=d∧Ok q:=by
 unfold rightB at h
 obtain ⟨h1,h2,h3,h4,h5⟩:=of_decide_eq_true h
 refine ⟨Rat.divInt u d,?_,?_,?_⟩
 ·rw [num_of u d h1 h3,h5]; simp
 ·rw [den_of u d h1 h3,h5]; simp
 ·unfold Ok
  rw [num_of u d h1 h3,den_of u d h1 h3,h5]
  simp
  exact ⟨h1,h2,h4⟩
theorem den1 (q:Rat):(1:Int)≤q.den:=by have:=q.den_pos; omega
theorem rat_right (q:Rat) (h:Ok q):rightB q.num q.den=true:=by
 unfold rightB
 obtain ⟨h1,h2,h3⟩:=h
 refine decide_eq_true ⟨h1,h2,den1 q,h3,?_⟩
 exact q.reduced
theorem tell_of (q:Rat) (h:Ok q):tell q=(q.num,(q.den:Int),0):=by
 unfold tell
 obtain ⟨h1,h2,h3⟩:=h
 rw [if_neg (by omega),if_neg (by omega)]
theorem tell_ok {q:Rat} {n m:Int} (h:tell q=(n,m,0)):Ok q∧q.num=n∧(q.den:Int)=m:=by
 unfold tell at h
 by_cases c:q.num < 0
 ·rw [if_pos c] at h; simp at h
 ·rw [if_neg c] at h
  by_cases c2:mx < q.num∨mx < (q.den:Int)
  ·rw [if_pos c2] at h; simp at h
  ·rw [if_neg c2] at h
   simp only [Prod.mk.injEq] at h
   exact ⟨⟨by omega,by omega,by omega⟩,h.1,h.2.1⟩
theorem mkT_tell (u d:Int) (hd:1≤d):mkT u d=tell (Rat.divInt u d):=by
 unfold mkT
 by_cases c:u < 0
 ·rw [if_pos (.inl c)]
  unfold tell
  have:¬ 0≤Rat.divInt u d:=by
   rw [Rat.divInt_nonneg_iff_of_pos_right (by omega)]; omega
  have:¬ 0≤(Rat.divInt u d).num:=fun h=>this (Rat.num_nonneg.1 h)
  rw [if_pos (by omega)]
 ·rw [if_neg (by omega)]
theorem num_div_den (q:Rat):Rat.divInt q.num q.den=q:=Rat.num_divInt_den q
theorem times_rat (x y:Rat) (hx:Ok x) (hy:Ok y):timesT x.num x.den y.num y.den=tell (x * y):=by
 unfold timesT
 rw [if_pos ⟨rat_right x hx,rat_right y hy⟩,mkT_tell _ _ (by have:=Int.mul_le_mul (den1 x) (den1 y) (by omega) (by have:=den1 x; omega); omega),← Rat.divInt_mul_divInt,num_div_den,num_div_den]
end Go.Proofs.Rt
namespace Go.Proofs.YtlndlpjadajelaaGreat
open Go.RowKit Go.Proofs.YtlndlpjadajelaaGreat.Ds
theorem mkT_told {U D n d:Int} (_hU:0≤U) (hD:1≤D) (h:Rt.mkT U D=(n,d,0)):n * D=U * d∧0≤n∧1≤d∧Rt.rightB n d=true:=by
 rw [Rt.mkT_tell U D hD] at h
 obtain ⟨hok,h1,h2⟩:=Rt.tell_ok h
 have hr:=Rt.rat_right _ hok
 rw [h1,h2] at hr
 have hd:=Rt.den1 (Rat.divInt U D)
 rw [h2] at hd
 have h3:Rat.divInt n d=Rat.divInt U D:=by rw [← h1,← h2]; exact Rt.num_div_den _
 refine ⟨(Rat.divInt_eq_divInt_iff (by omega) (by omega)).1 h3,?_,hd,hr⟩
 rw [← h1]; exact hok.1
theorem mkT_err {U D n d e:Int} (hU:0≤U) (hD:1≤D) (h:Rt.mkT U D=(n,d,e)):e=0∨(e=4∧n=0∧d=0):=by
 rcases Rt.mkT_of U D n d e hU hD h with ⟨_,h1,h2,h3⟩ | ⟨_,_,_,_,h3⟩
 ·exact .inr ⟨h3.symm,h1.symm,h2.symm⟩
 ·exact .inl h3.symm
def Sup (l m:List Pt):Prop:=∀ o,0 < wt l o↔0 < wt m o
def Bd (l m:List Pt) (U D:Int):Prop:=D≤U∧∀ o,0 < wt l o→wt l o * tot m * D≤U * (wt m o * tot l)∧wt m o * tot l * D≤U * (wt l o * tot m)
theorem wt_pos_mem {l:List Pt} {o:List Int} (h:0 < wt l o):∃ p∈l,p.1=o:=by
 by_cases hc:∃ p∈l,p.1=o
 ·exact hc
 ·have:wt l o=0:=wt_none fun p hp e=>hc ⟨p,hp,e⟩
  omega
theorem mem_wt_pos {l:List Pt} (hr:Rise l) (hp:Pos l) {p:Pt} (h:p∈l):0 < wt l p.1:=by
 rw [wt_mem hr h]; exact hp p h
theorem outs_all {l m:List Pt} (hl:Nn l) {o:List Int} (h:0 < wt l o∨0 < wt m o):o∈outsT l m:=by
 simp only [outsT,List.mem_append,List.mem_map,List.mem_filter]
 by_cases h1:0 < wt l o
 ·obtain ⟨p,hp,rfl⟩:=wt_pos_mem h1
  exact .inl ⟨p,hp,rfl⟩
 ·obtain ⟨p,hp,rfl⟩:=wt_pos_mem (h.resolve_left h1)
  have:=(hl.wt_le p.1).1
  exact .inr ⟨p,⟨hp,by simp; omega⟩,rfl⟩
theorem sup_outs {l m:List Pt} (hl:Dis l) (hm:Dis m):(mrgP l m).any lone=false↔Sup l m:=by
 have nl:=Nn.of_pos hl.pos
 have nm:=Nn.of_pos hm.pos
 rw [lone_outs hl hm,List.any_eq_false]
 constructor
 ·intro h o
  have key:0 < wt l o∨0 < wt m o→¬ wt l o=0∧¬ wt m o=0:=by
   intro h1
   have:=h _ (List.mem_map_of_mem (f:=ow l m) (outs_all nl h1))
   simp only [lonW,ow,Bool.or_eq_true,beq_iff_eq,not_or] at this
   exact this
  have b1:=(nl.wt_le o).1
  have b2:=(nm.wt_le o).1
  constructor
  ·intro h1; have:=(key (.inl h1)).2; omega
  ·intro h1; have:=(key (.inr h1)).1; omega
 ·intro h q hq
  obtain ⟨o,ho,rfl⟩:=List.mem_map.1 hq
  have h3:=h o
  simp only [lonW,ow,Bool.or_eq_true,beq_iff_eq,not_or]
  rcases outs_mem ho with ⟨p,hp,rfl⟩ | ⟨p,hp,rfl⟩
  ·have h1:=mem_wt_pos hl.rise hl.pos hp; have:=h3.1 h1; omega
  ·have h1:=mem_wt_pos hm.rise hm.pos hp; have:=h3.2 h1; omega
theorem far_is {l m:List Pt} (hl:Dis l) (hm:Dis m) (he:twoE l m=0) :
  (¬ Sup l m∧farT l m=(0,0,6))∨(Sup l m∧∃ U D,0 < U∧0 < D∧farT l m=Rt.mkT U D∧Bd l m U D∧∀ N M,0 < N→0 < M→Bd l m N M→U * M≤N * D):=by
 by_cases hn:(mrgP l m).any lone=false
 ·refine .inr ⟨(sup_outs hl hm).1 hn,?_⟩
  have hTa:=tot_pos2 hl.pos hl.ne
  have hTb:=tot_pos2 hm.pos hm.ne
  have nl:=Nn.of_pos hl.pos
  have nm:=Nn.of_pos hm.pos
  have hsup:=(sup_outs hl hm).1 hn
  have hps:Psl ((outsT l m).map (ow l m)):=by
   intro q hq
   obtain ⟨o,ho,rfl⟩:=List.mem_map.1 hq
   rcases outs_mem ho with ⟨p,hp,rfl⟩ | ⟨p,hp,rfl⟩
   ·have h1:=mem_wt_pos hl.rise hl.pos hp; exact ⟨h1,(hsup p.1).1 h1⟩
   ·have h1:=mem_wt_pos hm.rise hm.pos hp; exact ⟨(hsup p.1).2 h1,h1⟩
  have hmx:=farR_mx hTa hTb _ hps
  have hp:=frc_ps hTa hTb hps hmx.1
  have hfar:farT l m=Rt.mkT (farR (tot l) (tot m) ((outsT l m).map (ow l m))).1 (farR (tot l) (tot m) ((outsT l m).map (ow l m))).2:=by
   rw [farT,if_pos he,hn]
   simp only [Bool.false_eq_true,if_false]
   exact far_outs hl hm hn
  generalize farR (tot l) (tot m) ((outsT l m).map (ow l m))=q at *
  refine ⟨q.1,q.2,hp.1,hp.2,hfar,⟨?_,fun o ho=>?_⟩,fun N M hN hM hB=>?_⟩
  ·have:=hmx.2 (1,1) (.inl rfl)
   simp only [Int.one_mul,Int.mul_one] at this
   exact this
  ·have hmem:ow l m o∈(outsT l m).map (ow l m):=List.mem_map_of_mem (outs_all nl (.inl ho))
   exact ⟨hmx.2 _ (.inr ⟨_,hmem,.inl rfl⟩),hmx.2 _ (.inr ⟨_,hmem,.inr rfl⟩)⟩
  ·rcases hmx.1 with h1 | ⟨x,hx,h1⟩
   ·rw [h1]; have:=hB.1; simp only [Int.one_mul,Int.mul_one]; exact this
   ·obtain ⟨o,ho,rfl⟩:=List.mem_map.1 hx
    have hwo:0 < wt l o:=(hps _ hx).1
    rcases h1 with h1 | h1
    ·rw [h1]; exact (hB.2 o hwo).1
    ·rw [h1]; exact (hB.2 o hwo).2
 ·refine .inl ⟨fun h=>hn ((sup_outs hl hm).2 h),?_⟩
  have hn':(mrgP l m).any lone=true:=by simpa using hn
  rw [farT,if_pos he,if_pos hn']
theorem le_scale {x y U D n d:Int} (hD:0 < D) (hd:0≤d) (h:x * D≤U * y) (he:n * D=U * d):x * d≤n * y:=by
 have a1:x * D * d≤U * y * d:=Int.mul_le_mul_of_nonneg_right h hd
 have e1:x * D * d=x * d * D:=Int.mul_right_comm _ _ _
 have e2:U * y * d=n * y * D:=by rw [Int.mul_right_comm,← he,Int.mul_right_comm]
 rw [e1,e2] at a1
 exact Int.le_of_mul_le_mul_right a1 hD
theorem Bd.scale {l m:List Pt} {U D n d:Int} (h:Bd l m U D) (hD:0 < D) (hd:0≤d) (he:n * D=U * d):Bd l m n d:=by
 refine ⟨?_,fun o ho=>⟨le_scale hD hd (h.2 o ho).1 he,le_scale hD hd (h.2 o ho).2 he⟩⟩
 have:=le_scale (x:=1) (y:=1) hD hd (by have:=h.1; omega) he
 omega
theorem far_told {l m:List Pt} {n d:Int} (h:farT l m=(n,d,0)) :
  Dis l∧Dis m∧Sup l m∧0 < n∧0 < d∧Rt.rightB n d=true∧Bd l m n d∧∀ N M,0 < N→0 < M→Bd l m N M→n * M≤N * d:=by
 have he:twoE l m=0:=by
  by_cases he:twoE l m=0
  ·exact he
  ·rw [farT,if_neg he] at h; simp only [Prod.mk.injEq] at h; exact absurd h.2.2 he
 obtain ⟨hl,hm⟩:=twoE_ok he
 rcases far_is hl hm he with ⟨_,h1⟩ | ⟨hs,U,D,hU,hD,h1,hb,hle⟩
 ·rw [h1] at h; simp at h
 ·rw [h1] at h
  obtain ⟨e1,e2,e3,e4⟩:=mkT_told (Int.le_of_lt hU) hD h
  have hn:0 < n:=by
   by_cases hn:n=0
   ·rw [hn,Int.zero_mul] at e1
    have:=Int.mul_pos hU (show 0 < d by omega)
    omega
   ·omega
  refine ⟨hl,hm,hs,hn,by omega,e4,hb.scale hD (by omega) e1,fun N M hN hM hB=>?_⟩
  have h3:=hle N M hN hM hB
  have h4:=le_scale (x:=U) (y:=M) (U:=N) (D:=D) (n:=N) (d:=D) hD (by omega)
  have a1:U * M * d≤N * D * d:=Int.mul_le_mul_of_nonneg_right h3 (by omega)
  have e5:U * M * d=n * M * D:=by rw [Int.mul_right_comm,← e1,Int.mul_right_comm]
  have e6:N * D * d=N * d * D:=Int.mul_right_comm _ _ _
  rw [e5,e6] at a1
  exact Int.le_of_mul_le_mul_right a1 hD
def grow (g:Int) (l:List Pt):List Pt:=l.map fun p=>(p.1,g * p.2)
theorem grow_wt (g:Int) (l:List Pt) (o:List Int):wt (grow g l) o=g * wt l o:=by
 induction l with
 | nil=>simp [grow]
 | cons p l ih =>
  simp only [grow,List.map_cons] at *
  rw [wt_cons,wt_cons,ih,Int.mul_add]
  simp only
  split <;> simp
def sumL (f:List Int→Int):List Pt→Int
 | []=>0
 | p :: l=>f p.1 + sumL f l
theorem sumL_nn {f:List Int→Int} (h:∀ o,0≤f o) (l:List Pt):0≤sumL f l:=by
 induction l with
 | nil=>simp [sumL]
 | cons p l ih=>have:=h p.1; simp only [sumL]; omega
theorem sumL_zero {f:List Int→Int} {l:List Pt} (h:∀ p∈l,f p.1=0):sumL f l=0:=by
 induction l with
 | nil=>rfl
 | cons p l ih=>rw [sumL,h p (by simp),ih fun q hq=>h q (by simp [hq])]; rfl
theorem sumL_sub {f:List Int→Int} (hf:∀ o,0≤f o) {l m:List Pt} (hl:Rise l) (hm:Rise m) (hz:∀ o,(∀ p∈m,p.1≠o)→f o=0):sumL f l≤sumL f m:=by
 have key:∀ l m:List Pt,Rise l→Rise m→(∀ p∈l,(∀ q∈m,q.1≠p.1)→f p.1=0)→sumL f l≤sumL f m:=by
  intro l m
  induction l,m using mrgP.induct with
  | case1=>intros; exact Int.le_refl _
  | case2 b bs ih=>intro _ _ _; have:=sumL_nn hf (b :: bs); simpa [sumL] using this
  | case3 a az ih=>intro _ _ h; rw [sumL_zero fun p hp=>h p hp (by intro q hq; cases hq)]; simp [sumL]
  | case4 a az b bs h ih =>
   intro h1 h2 h3
   have h4:f a.1=0:=h3 a (by simp) fun q hq=>by
    rcases List.mem_cons.1 hq with rfl | hq
    ·exact (ltL_ne h).symm
    ·exact (ltL_ne (ltL_trans h ((List.pairwise_cons.1 h2).1 q hq))).symm
   have:=ih (rise_tail h1) h2 fun p hp hq=>h3 p (by simp [hp]) hq
   rw [sumL,h4]; omega
  | case5 a az b bs hn h ih =>
   intro h1 h2 h3
   have hba:ltL b.1 a.1:=by unfold ltL; rw [cmpT_swap]; omega
   have:=ih h1 (rise_tail h2) fun p hp hq=>h3 p hp fun q hq'=>by
    rcases List.mem_cons.1 hq' with rfl | hq'
    ·rcases List.mem_cons.1 hp with rfl | hp
     ·exact ltL_ne hba
     ·exact ltL_ne (ltL_trans hba ((List.pairwise_cons.1 h1).1 p hp))
    ·exact hq q hq'
   have hb:=hf b.1
   rw [show sumL f (b :: bs)=f b.1 + sumL f bs from rfl]; omega
  | case6 a az b bs hn h ih =>
   intro h1 h2 h3
   have hab:a.1=b.1:=(cmpT_zero _ _).1 (by omega)
   have:=ih (rise_tail h1) (rise_tail h2) fun p hp hq=>h3 p (by simp [hp]) fun q hq'=>by
    rcases List.mem_cons.1 hq' with rfl | hq'
    ·rw [← hab]; exact tail_ne h1 hp
    ·exact hq q hq'
   rw [sumL,sumL,hab]; omega
 exact key l m hl hm fun p _ hq=>hz p.1 hq
theorem cut_one (l:List Pt):cut 1 l=l:=by
 unfold cut
 conv=>rhs; rw [← List.map_id l]
 exact List.map_congr_left fun p _=>by simp
theorem Dis.own {l:List Pt} (h:Dis l):ownT l=(l,0):=by
 have hg:gath l=l:=gath_is (fun p hp=>Int.le_of_lt (h.pos p hp)) h.rise h.pos fun _=>rfl
 have hm:makeT l=(l,0):=by
  unfold makeT lowT
  rw [if_pos h.ok,hg,if_neg h.ne,h.one]
  simp only [Int.natCast_one,cut_one]
  rw [if_neg (by have:=h.le; have:=h.few; omega)]
 unfold ownT
 rw [hm]
 simp
theorem grow_tot (g:Int) (l:List Pt):tot (grow g l)=g * tot l:=by
 induction l with
 | nil=>simp [grow]
 | cons p l ih =>
  simp only [grow,List.map_cons] at *
  rw [tot_cons,tot_cons,ih,Int.mul_add]
theorem make_told {k l':List Pt} (h:makeT k=(l',0)):Dis l'∧∃ g:Int,0 < g∧(∀ o,wt k o=g * wt l' o)∧tot k=g * tot l':=by
 unfold makeT at h
 split at h
 ·rename_i hok
  have hp:=gath_pos (all_okP hok).1
  obtain ⟨a,b,c,d,e,f⟩:=lowT_ok hp (gath_rise k) h
  have hne:gath k≠[]:=by intro h0; rw [h0] at h; simp [lowT] at h
  have hl:l' = cut (dv (gath k)) (gath k):=by
   unfold lowT at h
   rw [if_neg hne] at h
   split at h
   ·simp at h
   ·simp at h; exact h.symm
  have hg:grow (dv (gath k)) l' = gath k:=by rw [hl]; exact cut_back fun p hp=>dv_dvd_int hp
  have hd:=dv_pos hp hne
  have hw:∀ o,wt k o=(dv (gath k):Int) * wt l' o:=fun o=>by rw [← grow_wt,hg,gath_wt]
  refine ⟨⟨a,b,c,d,?_,e,f⟩,dv (gath k),by omega,hw,by rw [← grow_tot,hg,gath_tot]⟩
  rw [List.all_eq_true]
  intro p hpm
  have h1:0 < wt k p.1:=by rw [hw]; exact Int.mul_pos (by omega) (mem_wt_pos a b hpm)
  obtain ⟨q,hq,he⟩:=wt_pos_mem h1
  have h2:=List.all_eq_true.1 hok q hq
  have h3:=Pos.le_tot (Nn.of_pos b) hpm
  have h4:=b p hpm
  unfold okP at *
  rw [Bool.and_eq_true] at *
  exact ⟨by simp; omega,he▸h2.2⟩
 ·simp at h
theorem cancel2 {g g' x y:Int} (hg:0 < g) (hg':0 < g') (h:g * g' * x≤g * g' * y):x≤y :=
 Int.le_of_mul_le_mul_left h (Int.mul_pos hg hg')
theorem pos_cancel {g x:Int} (hg:0 < g) (h:0 < g * x):0 < x:=by
 rcases Int.lt_or_le 0 x with k | k
 ·exact k
 ·have:=Int.mul_le_mul_of_nonneg_left k (Int.le_of_lt hg)
  omega
theorem sup_make {L M l m:List Pt} {g g':Int} (hg:0 < g) (hg':0 < g') (w1:∀ o,wt L o=g * wt l o) (w2:∀ o,wt M o=g' * wt m o) (h:Sup L M):Sup l m:=by
 intro o
 have h1:=h o
 rw [w1,w2] at h1
 have e1:0 < g * wt l o↔0 < wt l o:=⟨fun k=>pos_cancel hg k,fun k=>Int.mul_pos hg k⟩
 have e2:0 < g' * wt m o↔0 < wt m o:=⟨fun k=>pos_cancel hg' k,fun k=>Int.mul_pos hg' k⟩
 rw [e1,e2] at h1
 exact h1
theorem bd_make {L M l m:List Pt} {g g' U D:Int} (hg:0 < g) (hg':0 < g') (w1:∀ o,wt L o=g * wt l o) (w2:∀ o,wt M o=g' * wt m o) (t1:tot L=g * tot l) (t2:tot M=g' * tot m) (h:Bd L M U D):Bd l m U D:=by
 refine ⟨h.1,fun o ho=>?_⟩
 have h1:=h.2 o (by rw [w1]; exact Int.mul_pos hg ho)
 rw [w1,w2,t1,t2] at h1
 constructor
 ·refine cancel2 hg hg' ?_
  have:=h1.1
  calc g * g' * (wt l o * tot m * D)=g * wt l o * (g' * tot m) * D:=by simp only [Int.mul_assoc,Int.mul_left_comm]
   _≤U * (g' * wt m o * (g * tot l)):=this
   _=g * g' * (U * (wt m o * tot l)):=by simp only [Int.mul_assoc,Int.mul_left_comm]
 ·refine cancel2 hg hg' ?_
  have:=h1.2
  calc g * g' * (wt m o * tot l * D)=g' * wt m o * (g * tot l) * D:=by simp only [Int.mul_assoc,Int.mul_left_comm]
   _≤U * (g * wt l o * (g' * tot m)):=this
   _=g * g' * (U * (wt l o * tot m)):=by simp only [Int.mul_assoc,Int.mul_left_comm]
theorem far_make {L M l m:List Pt} {n d:Int} (h1:makeT L=(l,0)) (h2:makeT M=(m,0)) (hs:Sup L M) (hb:Bd L M n d) (hn:0 < n) (hr:Rt.rightB n d=true) (o:List Int) (ho:0 < wt L o) (hat:wt L o * tot M * d=n * (wt M o * tot L)):farT l m=(n,d,0):=by
 obtain ⟨d1,g,hg,w1,t1⟩:=make_told h1
 obtain ⟨d2,g',hg',w2,t2⟩:=make_told h2
 have hsl:=sup_make hg hg' w1 w2 hs
 have hbl:=bd_make hg hg' w1 w2 t1 t2 hb
 have hrb:=Rt.right_bd hr
 have hd:0 < d:=by omega
 have he:twoE l m=0:=by unfold twoE; rw [d1.own,d2.own]; simp
 rcases far_is d1 d2 he with ⟨h,_⟩ | ⟨_,U,D,hU,hD,hf,hbU,hmin⟩
 ·exact absurd hsl h
 ·have a1:=hmin n d hn hd hbl
  have hol:0 < wt l o:=by rw [w1] at ho; exact pos_cancel hg ho
  have a2:=(hbU.2 o hol).1
  have e1:wt l o * tot m * d=n * (wt m o * tot l):=by
   rw [w1,w2,t1,t2] at hat
   have hgg:0 < g * g':=Int.mul_pos hg hg'
   refine Int.eq_of_mul_eq_mul_left (show g * g'≠0 by omega) ?_
   calc g * g' * (wt l o * tot m * d)=g * wt l o * (g' * tot m) * d:=by simp only [Int.mul_assoc,Int.mul_left_comm]
    _=n * (g' * wt m o * (g * tot l)):=hat
    _=g * g' * (n * (wt m o * tot l)):=by simp only [Int.mul_assoc,Int.mul_left_comm]
  have hY:0 < wt m o * tot l:=Int.mul_pos ((hsl o).1 hol) (tot_pos2 d1.pos d1.ne)
  have a3:n * D≤U * d:=by
   refine Int.le_of_mul_le_mul_right (a:=wt m o * tot l) ?_ hY
   calc n * D * (wt m o * tot l)=n * (wt m o * tot l) * D:=Int.mul_right_comm _ _ _
    _=wt l o * tot m * d * D:=by rw [e1]
    _=wt l o * tot m * D * d:=Int.mul_right_comm _ _ _
    _≤U * (wt m o * tot l) * d:=Int.mul_le_mul_of_nonneg_right a2 (by omega)
    _=U * d * (wt m o * tot l):=Int.mul_right_comm _ _ _
  have e2:U * d=n * D:=Int.le_antisymm a1 a3
  rw [hf,mkT_cross hU hD hn hd e2]
  obtain ⟨x,rfl⟩:=Int.eq_ofNat_of_zero_le (show 0≤n by omega)
  obtain ⟨y,rfl⟩:=Int.eq_ofNat_of_zero_le (show 0≤d by omega)
  have hr':=(Rt.right_nat x y).1 hr
  rw [Rt.mkT_coprime x y hr'.2.1 hr'.2.2.2,if_pos ⟨hr'.1,hr'.2.2.1⟩]
def mulI (g:Int) (ts:List Tr) (i:Nat):List Tr:=(ts.take i).map (fun t=>(t.1,t.2.1,t.2.2 * g)) ++ ts.drop i
def mulT (g:Int) (ts:List Tr):List Tr:=ts.map fun t=>(t.1,t.2.1,t.2.2 * g)
def mulL (g:Int) (l:List Pt):List Pt:=l.map fun p=>(p.1,p.2 * g)
theorem mulI_len (g:Int) (ts:List Tr) (i:Nat):(mulI g ts i).length=ts.length:=by simp [mulI]; omega
theorem mulI_get (g:Int) {ts:List Tr} {i:Nat} (h:i < ts.length):(mulI g ts i)[i]? = ts[i]?:=by
 have e:((ts.take i).map (fun t:Tr=>(t.1,t.2.1,t.2.2 * g))).length=i:=by simp; omega
 rw [mulI,List.getElem?_append_right (by omega),e]; simp
theorem mulI_set (g:Int) {ts:List Tr} {i:Nat} {t:Tr} (h:ts[i]? = some t):(mulI g ts i).set i (t.1,t.2.1,t.2.2 * g)=mulI g ts (i + 1):=by
 have hi:=(List.getElem?_eq_some_iff.1 h).1
 have e:((ts.take i).map (fun t:Tr=>(t.1,t.2.1,t.2.2 * g))).length=i:=by simp; omega
 have e2:ts.drop i=t :: ts.drop (i + 1):=by rw [List.drop_eq_getElem_cons hi,(List.getElem?_eq_some_iff.1 h).2]
 rw [mulI,mulI,List.set_append_right _ _ (by omega),e,e2,List.take_add_one,h]
 simp
theorem mulI_all (g:Int) {ts:List Tr} {i:Nat} (h:ts.length≤i):mulI g ts i=mulT g ts:=by
 rw [mulI,List.take_of_length_le h,List.drop_eq_nil_of_le h,List.append_nil]; rfl
theorem mulI_zero (g:Int) (ts:List Tr):mulI g ts 0=ts:=by simp [mulI]
theorem mulT_len (g:Int) (ts:List Tr):(mulT g ts).length=ts.length:=by simp [mulT]
theorem mulT_rd (g:Int) (ts:List Tr):rd (mulT g ts)=mulL g (rd ts):=by simp [mulT,rd,mulL]
theorem mulT_mem {g:Int} {ts:List Tr} {t:Tr} (h:t∈mulT g ts):∃ u∈ts,t.1=u.1∧t.2.1=u.2.1:=by
 obtain ⟨u,hu,rfl⟩:=List.mem_map.1 h; exact ⟨u,hu,rfl,rfl⟩
theorem grown_set {w w':World} {b:Nat} (h:w.grownBy w' (some b)) (p:Addr) (hp:p.block=b) (v:Value):w.grownBy (w'.setCell p v) (some b) :=
 ⟨h.os,h.tape,h.output,by simpa [World.setCell] using h.size,fun k hk hne=>(Below.heap_setCell _ _ _ _ (by intro e; exact hne (by rw [e,hp]))).trans (h.block k hk hne)⟩
set_option maxHeartbeats 1000000 in
theorem dtimes_any (lo:Nat) (v:Value) (ts:List Tr) (g:Int) (w:World) (ho:OwnN w lo v ts) (hk:∀ t∈ts,0≤t.2.2 * g∧t.2.2 * g≤4611686018427387904) (us:List Tr) (hu:mulT g ts=us) :
  Calls Tryz.prog 162 #[v,.int .i64 g] w fun e w'=>e=.returned v∧OwnN w' lo v us∧w.grownBy w' v.ownBlock:=by
 subst hu
 rcases ho with ⟨rfl,rfl⟩ | ⟨b,o,c,rfl,hc,hl,hlo,hrow,hI⟩
 ·go_enter Tryz.func162,Tryz.ntmps162
  go_wp2
  go_loopw [8] (fun u wr=>u=.int .i64 0∧wr=w) (fun _ _=>0)
  case atStart=>exact ⟨rfl,rfl⟩
  case round =>
   obtain ⟨rfl,rfl⟩:=hrel
   go_wp2
   go_ret
   exact ⟨rfl,.inl ⟨rfl,rfl⟩,World.grownBy.refl _ _⟩
 ·have HH:Hid (Row w b o ts∧(∀ t∈ts,Ints w w.heap.size b t.1 t.2.1)∧∀ t∈ts,0≤t.2.2 * g∧t.2.2 * g≤4611686018427387904):=⟨hrow,hI,hk⟩
  have hbs:=hrow.lt
  clear hrow hI hk
  go_enter Tryz.func162,Tryz.ntmps162
  go_wp2
  go_loopw [8] (fun u wq=>∃ j:Nat,u=.int .i64 (j:Int)∧j≤ts.length∧Hid (Row wq b o (mulI g ts j))∧Hid (∀ t∈ts,Ints wq wq.heap.size b t.1 t.2.1)∧Hid (w.grownBy wq (some b))) (fun u _=>ts.length - (intOf u).toNat)
  case atStart=>exact ⟨0,rfl,Nat.zero_le _,by rw [mulI_zero]; exact HH.out.1,HH.out.2.1,World.grownBy.refl _ _⟩
  case round =>
   obtain ⟨j,rfl,hjt,HR2,HI2,HG⟩:=hrel
   by_cases h2:j < ts.length
   ·obtain ⟨⟨s,xs,k⟩,hs⟩:=get_lt h2
    have hs2:(mulI g ts j)[j]? = some (s,xs,k):=by rw [mulI_get _ h2]; exact hs
    obtain ⟨c1,c2⟩:=HR2.out.cells j _ hs2
    have c3:=HR2.out.thaw (j * 2 + 1) (by rw [mulI_len]; omega)
    rw [← Nat.add_assoc] at c3
    simp only at c1 c2
    obtain ⟨hk0,hk1⟩:=HH.out.2.2 _ (List.mem_of_getElem? hs)
    simp only at hk0 hk1
    have HS:Hid (ts[j]? = some (s,xs,k)):=hs
    obtain ⟨P,hP⟩:∃ P,k * g=P:=⟨_,rfl⟩
    rw [hP] at hk0 hk1
    have HR3:Hid (Row (wr.setCell ⟨b,o + j * 2 + 1,none⟩ (.int .i64 P)) b o (mulI g ts (j + 1))):=by
     have:=HR2.out.setW hs2 P
     rwa [show (mulI g ts j).set j (s,xs,P)=mulI g ts (j + 1) by rw [← hP]; exact mulI_set g hs] at this
    clear hs hs2
    go_wp2
    go_roundw
    case rel=>exact ⟨j + 1,by go_num,h2,HR3,fun t ht=>by simpa using (HI2.out t ht).set rfl _,grown_set HG.out _ rfl _⟩
    case measure=>simp [intOf]; omega
   ·have hown:Own wr lo (.slice (some ⟨b,o,none⟩) ts.length c) (mulT g ts):=by
     refine ⟨b,o,c,by rw [mulT_len],by rw [mulT_len]; exact hc,by rw [mulT_len]; exact hl,hlo,?_,fun t ht=>?_⟩
     ·rw [← mulI_all g (i:=j) (by omega)]; exact HR2.out
     ·obtain ⟨u,hu,e1,e2⟩:=mulT_mem ht
      rw [e1,e2]
      exact HI2.out u hu
    have HO:Hid (Own wr lo (.slice (some ⟨b,o,none⟩) ts.length c) (mulT g ts)):=hown
    clear hown HR2 HI2 HH
    go_wp2
    go_ret
    exact ⟨rfl,.inr HO.out,HG.out⟩
end Go.Proofs.YtlndlpjadajelaaGreat
