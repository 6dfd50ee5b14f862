import Derived.Test.YtlndlpjadajelaaGreatQq12
import Derived.Test.YtlndlpjadajelaaGreatQq10
import Derived.Test.YtlndlpjadajelaaGreatQq05
namespace Go.Proofs.YtlndlpjadajelaaGreat
open Go.RowKit Go.Proofs.YtlndlpjadajelaaGreat.Ds
def addP (p:Pt × Pt):Pt:=(if p.1.2=0 then p.2.1 else p.1.1,p.1.2 + p.2.2)
def plusT (a b:List Pt):List Pt:=if 4096 < a.length then a else (mrgP a b).map addP
theorem add_mrg {a b:List Pt} (ra:Rise a) (rb:Rise b) (pa:Pos a) (pb:Pos b) :
  Rise ((mrgP a b).map addP)∧Pos ((mrgP a b).map addP)∧(∀ o,wt ((mrgP a b).map addP) o=wt a o + wt b o)∧tot ((mrgP a b).map addP)=tot a + tot b∧∀ p∈(mrgP a b).map addP,(∃ q∈a,q.1=p.1)∨∃ q∈b,q.1=p.1:=by
 induction a,b using mrgP.induct with
 | case1=>simp [mrgP,Rise,Pos]
 | case2 b bs ih =>
  obtain ⟨h1,h2,h3,h4,h5⟩:=ih ra (rise_tail rb) pa fun q hq=>pb q (by simp [hq])
  have hb:=pb b (by simp)
  have e:addP (([],0),b)=b:=by simp [addP]
  rw [mrgP,List.map_cons,e]
  refine ⟨List.pairwise_cons.2 ⟨fun q hq=>?_,h1⟩,fun q hq=>?_,fun o=>?_,?_,fun q hq=>?_⟩
  ·rcases h5 q hq with ⟨r,hr,he⟩ | ⟨r,hr,he⟩
   ·cases hr
   ·rw [← he]; exact (List.pairwise_cons.1 rb).1 r hr
  ·rcases List.mem_cons.1 hq with rfl | hq
   ·exact hb
   ·exact h2 q hq
  ·rw [wt_cons,h3,wt_cons]; omega
  ·rw [tot_cons,h4,tot_cons]; omega
  ·rcases List.mem_cons.1 hq with rfl | hq
   ·exact .inr ⟨_,by simp,rfl⟩
   ·exact (h5 q hq).imp id fun ⟨r,hr,he⟩=>⟨r,by simp [hr],he⟩
 | case3 a az ih =>
  obtain ⟨h1,h2,h3,h4,h5⟩:=ih (rise_tail ra) rb (fun q hq=>pa q (by simp [hq])) pb
  have ha:=pa a (by simp)
  have e:addP (a,([],0))=a:=by simp [addP]; rw [if_neg (by omega)]
  rw [mrgP,List.map_cons,e]
  refine ⟨List.pairwise_cons.2 ⟨fun q hq=>?_,h1⟩,fun q hq=>?_,fun o=>?_,?_,fun q hq=>?_⟩
  ·rcases h5 q hq with ⟨r,hr,he⟩ | ⟨r,hr,he⟩
   ·rw [← he]; exact (List.pairwise_cons.1 ra).1 r hr
   ·cases hr
  ·rcases List.mem_cons.1 hq with rfl | hq
   ·exact ha
   ·exact h2 q hq
  ·rw [wt_cons,h3,wt_cons]; omega
  ·rw [tot_cons,h4,tot_cons]; omega
  ·rcases List.mem_cons.1 hq with rfl | hq
   ·exact .inl ⟨_,by simp,rfl⟩
   ·exact (h5 q hq).imp (fun ⟨r,hr,he⟩=>⟨r,by simp [hr],he⟩) id
 | case4 a az b bs h ih =>
  obtain ⟨h1,h2,h3,h4,h5⟩:=ih (rise_tail ra) rb (fun q hq=>pa q (by simp [hq])) pb
  have ha:=pa a (by simp)
  have e:addP (a,([],0))=a:=by simp [addP]; rw [if_neg (by omega)]
  rw [mrgP,if_pos h,List.map_cons,e]
  refine ⟨List.pairwise_cons.2 ⟨fun q hq=>?_,h1⟩,fun q hq=>?_,fun o=>?_,?_,fun q hq=>?_⟩
  ·rcases h5 q hq with ⟨r,hr,he⟩ | ⟨r,hr,he⟩
   ·rw [← he]; exact (List.pairwise_cons.1 ra).1 r hr
   ·rw [← he]
    rcases List.mem_cons.1 hr with rfl | hr
    ·exact h
    ·exact ltL_trans h ((List.pairwise_cons.1 rb).1 r hr)
  ·rcases List.mem_cons.1 hq with rfl | hq
   ·exact ha
   ·exact h2 q hq
  ·rw [wt_cons,h3,wt_cons a az]; omega
  ·rw [tot_cons,h4,tot_cons a az]; omega
  ·rcases List.mem_cons.1 hq with rfl | hq
   ·exact .inl ⟨_,by simp,rfl⟩
   ·exact (h5 q hq).imp (fun ⟨r,hr,he⟩=>⟨r,by simp [hr],he⟩) id
 | case5 a az b bs hn h ih =>
  obtain ⟨h1,h2,h3,h4,h5⟩:=ih ra (rise_tail rb) pa (fun q hq=>pb q (by simp [hq]))
  have hb:=pb b (by simp)
  have hba:ltL b.1 a.1:=by unfold ltL; rw [cmpT_swap]; omega
  have e:addP (([],0),b)=b:=by simp [addP]
  rw [mrgP,if_neg hn,if_pos h,List.map_cons,e]
  refine ⟨List.pairwise_cons.2 ⟨fun q hq=>?_,h1⟩,fun q hq=>?_,fun o=>?_,?_,fun q hq=>?_⟩
  ·rcases h5 q hq with ⟨r,hr,he⟩ | ⟨r,hr,he⟩
   ·rw [← he]
    rcases List.mem_cons.1 hr with rfl | hr
    ·exact hba
    ·exact ltL_trans hba ((List.pairwise_cons.1 ra).1 r hr)
   ·rw [← he]; exact (List.pairwise_cons.1 rb).1 r hr
  ·rcases List.mem_cons.1 hq with rfl | hq
   ·exact hb
   ·exact h2 q hq
  ·rw [wt_cons,h3,wt_cons b bs]; omega
  ·rw [tot_cons,h4,tot_cons b bs]; omega
  ·rcases List.mem_cons.1 hq with rfl | hq
   ·exact .inr ⟨_,by simp,rfl⟩
   ·exact (h5 q hq).imp id (fun ⟨r,hr,he⟩=>⟨r,by simp [hr],he⟩)
 | case6 a az b bs hn h ih =>
  obtain ⟨h1,h2,h3,h4,h5⟩:=ih (rise_tail ra) (rise_tail rb) (fun q hq=>pa q (by simp [hq])) (fun q hq=>pb q (by simp [hq]))
  have ha:=pa a (by simp)
  have hb:=pb b (by simp)
  have hab:a.1=b.1:=(cmpT_zero _ _).1 (by omega)
  have e:addP (a,b)=(a.1,a.2 + b.2):=by simp only [addP]; rw [if_neg (by omega)]
  rw [mrgP,if_neg hn,if_neg h,List.map_cons,e]
  refine ⟨List.pairwise_cons.2 ⟨fun q hq=>?_,h1⟩,fun q hq=>?_,fun o=>?_,?_,fun q hq=>?_⟩
  ·rcases h5 q hq with ⟨r,hr,he⟩ | ⟨r,hr,he⟩
   ·rw [← he]; exact (List.pairwise_cons.1 ra).1 r hr
   ·rw [← he]; simp only; rw [hab]; exact (List.pairwise_cons.1 rb).1 r hr
  ·rcases List.mem_cons.1 hq with rfl | hq
   ·simp only; omega
   ·exact h2 q hq
  ·rw [wt_cons,h3,wt_cons a az,wt_cons b bs]
   simp only
   by_cases ho:a.1=o
   ·rw [if_pos ho,if_pos ho,if_pos (hab.symm.trans ho)]; omega
   ·rw [if_neg ho,if_neg ho,if_neg (fun k=>ho (hab.trans k))]; omega
  ·rw [tot_cons,h4,tot_cons a az,tot_cons b bs]; simp only; omega
  ·rcases List.mem_cons.1 hq with rfl | hq
   ·exact .inl ⟨a,by simp,rfl⟩
   ·exact (h5 q hq).imp (fun ⟨r,hr,he⟩=>⟨r,by simp [hr],he⟩) (fun ⟨r,hr,he⟩=>⟨r,by simp [hr],he⟩)
theorem mulL_wt (g:Int) (l:List Pt) (o:List Int):wt (mulL g l) o=wt l o * g:=by
 induction l with
 | nil=>simp [mulL]
 | cons p l ih =>
  simp only [mulL,List.map_cons] at *
  rw [wt_cons,wt_cons,ih,Int.add_mul]
  simp only
  split <;> simp
theorem mulL_tot (g:Int) (l:List Pt):tot (mulL g l)=tot l * g:=by
 induction l with
 | nil=>simp [mulL]
 | cons p l ih =>
  simp only [mulL,List.map_cons] at *
  rw [tot_cons,tot_cons,ih,Int.add_mul]
theorem mulL_rise {g:Int} {l:List Pt} (h:Rise l):Rise (mulL g l):=by
 unfold Rise mulL
 rw [List.pairwise_map]
 exact h
theorem mulL_pos {g:Int} {l:List Pt} (hg:0 < g) (h:Pos l):Pos (mulL g l):=by
 intro p hp
 obtain ⟨q,hq,rfl⟩:=List.mem_map.1 hp
 exact Int.mul_pos (h q hq) hg
theorem mulL_len (g:Int) (l:List Pt):(mulL g l).length=l.length:=by simp [mulL]
def spr (N:List Int→List Pt) (A:Int) (l:List Pt):List Pt:=l.flatMap fun p=>(N p.1).map fun q=>(q.1,p.2 * q.2 * (A / tot (N p.1)))
theorem one_wt (n:List Pt) (k c:Int) (o:List Int):wt (n.map fun q=>(q.1,k * q.2 * c)) o=wt n o * (k * c):=by
 induction n with
 | nil=>simp
 | cons p n ih =>
  simp only [List.map_cons]
  rw [wt_cons,wt_cons,ih,Int.add_mul]
  simp only
  split
  ·rw [show k * p.2 * c=p.2 * (k * c) by ac_rfl]
  ·simp
theorem one_tot (n:List Pt) (k c:Int):tot (n.map fun q=>(q.1,k * q.2 * c))=tot n * (k * c):=by
 induction n with
 | nil=>simp
 | cons p n ih =>
  simp only [List.map_cons]
  rw [tot_cons,tot_cons,ih,Int.add_mul]
  simp only
  rw [show k * p.2 * c=p.2 * (k * c) by ac_rfl]
theorem spr_snoc (N:List Int→List Pt) (A:Int) (l:List Pt) (p:Pt):spr N A (l ++ [p])=spr N A l ++ (N p.1).map fun q=>(q.1,p.2 * q.2 * (A / tot (N p.1))):=by simp [spr]
theorem spr_wt_snoc (N:List Int→List Pt) (A:Int) (l:List Pt) (p:Pt) (o:List Int):wt (spr N A (l ++ [p])) o=wt (spr N A l) o + wt (N p.1) o * (p.2 * (A / tot (N p.1))):=by
 rw [spr_snoc,wt_append,one_wt]
theorem spr_cons (N:List Int→List Pt) (A:Int) (l:List Pt) (p:Pt):spr N A (p :: l)=((N p.1).map fun q=>(q.1,p.2 * q.2 * (A / tot (N p.1)))) ++ spr N A l:=by simp [spr]
theorem spr_scale (N:List Int→List Pt) (A g:Int) {l:List Pt} (h:∀ p∈l,tot (N p.1) ∣ A) (o:List Int):wt (spr N (A * g) l) o=wt (spr N A l) o * g:=by
 induction l with
 | nil=>simp [spr]
 | cons p l ih =>
  rw [spr_cons,spr_cons,wt_append,wt_append,one_wt,one_wt,ih fun q hq=>h q (by simp [hq]),Int.add_mul]
  have e:A * g / tot (N p.1)=A / tot (N p.1) * g:=Int.mul_ediv_assoc' g (h p (by simp))
  rw [e]
  have:wt (N p.1) o * (p.2 * (A / tot (N p.1) * g))=wt (N p.1) o * (p.2 * (A / tot (N p.1))) * g:=by ac_rfl
  rw [this]
theorem spr_tot (N:List Int→List Pt) (A:Int) {l:List Pt} (h:∀ p∈l,tot (N p.1) ∣ A):tot (spr N A l)=A * tot l:=by
 induction l with
 | nil=>simp [spr]
 | cons p l ih =>
  rw [spr_cons,tot_append,one_tot,ih fun q hq=>h q (by simp [hq]),tot_cons,Int.mul_add]
  have e:tot (N p.1) * (p.2 * (A / tot (N p.1)))=p.2 * (tot (N p.1) * (A / tot (N p.1))):=by ac_rfl
  rw [e,Int.mul_ediv_cancel' (h p (by simp)),Int.mul_comm]
theorem spr_nn (N:List Int→List Pt) (A:Int) {l:List Pt} (hl:Nn l) (hN:∀ p∈l,Nn (N p.1)) (hA:0≤A):Nn (spr N A l):=by
 intro q hq
 obtain ⟨p,hp,hq⟩:=List.mem_flatMap.1 hq
 obtain ⟨r,hr,rfl⟩:=List.mem_map.1 hq
 exact Int.mul_nonneg (Int.mul_nonneg (hl p hp) (hN p hp r hr)) (Int.ediv_nonneg hA ((hN p hp).tot_nn))
def allT (thn:List Int→List Pt × Int):Int→List Pt→Int × Int
 | A,[]=>(A,0)
 | A,p :: l=>if (thn p.1).2=0 then
   (if 1073741824 < A * (tot (thn p.1).1 / (Int.gcd A (tot (thn p.1).1):Int)) then (0,4) else allT thn (A * (tot (thn p.1).1 / (Int.gcd A (tot (thn p.1).1):Int))) l)
  else (0,(thn p.1).2)
def chT (thn:List Int→List Pt × Int) (l:List Pt):List Pt × Int :=
 if (allT thn 1 l).2=0 then (if 1073741824 < (allT thn 1 l).1 * tot l then ([],4) else lowT (gath (spr (fun x=>(thn x).1) (allT thn 1 l).1 l))) else ([],(allT thn 1 l).2)
theorem rise_len {a b:List Pt} (ra:Rise a) (rb:Rise b) (h:∀ p∈a,∃ q∈b,q.1=p.1):a.length≤b.length:=by
 have key:∀ (l:List Pt) (f:List Int→Int),(∀ p∈l,f p.1=1)→sumL f l=l.length:=by
  intro l f
  induction l with
  | nil=>intro _; rfl
  | cons p l ih=>intro hf; rw [sumL,hf p (by simp),ih fun q hq=>hf q (by simp [hq]),List.length_cons]; omega
 have h1:=sumL_sub (f:=fun o=>if ∃ q∈b,q.1=o then 1 else 0) (fun o=>by split <;> omega) ra rb fun o ho=>if_neg fun ⟨q,hq,e⟩=>ho q hq e
 rw [key a _ fun p hp=>if_pos (h p hp),key b _ fun p hp=>if_pos ⟨p,hp,rfl⟩] at h1
 omega
structure Ch (thn:List Int→List Pt × Int) (l:List Pt) (i:Nat) (A:Int) (s:List Pt):Prop where
 rest:allT thn 1 l=allT thn A (l.drop i)
 sc:1≤A∧A≤1073741824
 dvd:∀ p∈l.take i,tot (thn p.1).1 ∣ A
 nn:∀ p∈l.take i,Nn (thn p.1).1
 rise:Rise s
 pos:Pos s
 le:∀ o,wt s o≤wt (spr (fun x=>(thn x).1) A (l.take i)) o
 eq:s.length≤4096→∀ o,wt s o=wt (spr (fun x=>(thn x).1) A (l.take i)) o
 tt:tot s≤A * tot (l.take i)
theorem Ch.nil (thn:List Int→List Pt × Int) (l:List Pt):Ch thn l 0 1 [] :=
 ⟨by simp,by omega,by simp,by simp,by simp [Rise],by simp [Pos],by simp [spr],by simp [spr],by simp⟩
theorem tot_take_le {l:List Pt} (h:Nn l) (i:Nat):tot (l.take i)≤tot l:=by
 have h1:tot l=tot (l.take i) + tot (l.drop i):=by rw [← tot_append,List.take_append_drop]
 have h2:Nn (l.drop i):=fun p hp=>h p (List.mem_of_mem_drop hp)
 have:=h2.tot_nn
 omega
theorem Ch.err {thn:List Int→List Pt × Int} {l:List Pt} {i:Nat} {A:Int} {s:List Pt} {p:Pt} (h:Ch thn l i A s) (hp:l[i]? = some p) (he:(thn p.1).2≠0):chT thn l=([],(thn p.1).2):=by
 have e:allT thn 1 l=(0,(thn p.1).2):=by
  rw [h.rest,List.drop_eq_getElem_cons (List.getElem?_eq_some_iff.1 hp).1,(List.getElem?_eq_some_iff.1 hp).2,allT,if_neg he]
 unfold chT
 rw [e,if_neg he]
theorem Ch.much {thn:List Int→List Pt × Int} {l:List Pt} {i:Nat} {A:Int} {s:List Pt} {p:Pt} (h:Ch thn l i A s) (hp:l[i]? = some p) (he:(thn p.1).2=0) (hm:1073741824 < A * (tot (thn p.1).1 / (Int.gcd A (tot (thn p.1).1):Int))):chT thn l=([],4):=by
 have e:allT thn 1 l=(0,4):=by
  rw [h.rest,List.drop_eq_getElem_cons (List.getElem?_eq_some_iff.1 hp).1,(List.getElem?_eq_some_iff.1 hp).2,allT,if_pos he,if_pos hm]
 unfold chT
 rw [e]
 rfl
theorem Ch.step {thn:List Int→List Pt × Int} {l:List Pt} {i:Nat} {A:Int} {s:List Pt} {x:List Int} {k:Int} {n:List Pt} {g A':Int} (h:Ch thn l i A s) (hl:Pos l) (hp:l[i]? = some (x,k)) (ht:thn x=(n,0)) (hn:Dis n)
  (hg:tot n / (Int.gcd A (tot n):Int)=g) (hA:A * g=A') (hm:A'≤1073741824):Ch thn l (i + 1) A' (plusT (mulL g s) (mulL (k * (A' / tot n)) n)):=by
 have tn:=tot_pos2 hn.pos hn.ne
 have hA1:=h.sc.1
 have hgd:(Int.gcd A (tot n):Int) ∣ tot n:=Int.gcd_dvd_right _ _
 have hgA:(Int.gcd A (tot n):Int) ∣ A:=Int.gcd_dvd_left _ _
 have hgp:0 < (Int.gcd A (tot n):Int):=by
  have:0 < Int.gcd A (tot n):=Int.gcd_pos_of_ne_zero_left _ (by omega)
  omega
 have hg0:0 < g:=by rw [← hg]; exact Int.ediv_pos_of_pos_of_dvd tn (by omega) hgd
 have hdn:tot n ∣ A':=by
  obtain ⟨c,hc⟩:=hgA
  refine ⟨c,?_⟩
  have e2:(Int.gcd A (tot n):Int) * g=tot n:=by rw [← hg]; exact Int.mul_ediv_cancel' hgd
  have e3:A * g=(Int.gcd A (tot n):Int) * c * g:=congrArg (· * g) hc
  rw [← hA,e3,Int.mul_right_comm,e2]
 have hA'1:1≤A':=by rw [← hA]; exact Int.mul_pos (by omega) hg0
 have hq0:0 < A' / tot n:=Int.ediv_pos_of_pos_of_dvd (by omega) (by omega) hdn
 have hk:0 < k:=hl (x,k) (List.mem_of_getElem? hp)
 have htake:l.take (i + 1)=l.take i ++ [(x,k)]:=by rw [List.take_add_one,hp]; rfl
 have hnx:(thn x).1=n:=by rw [ht]
 have hd':∀ p∈l.take i,tot (thn p.1).1 ∣ A':=fun p hp=>by rw [← hA]; exact Int.dvd_mul_of_dvd_left (h.dvd p hp)
 have hscale:∀ o,wt (spr (fun x=>(thn x).1) A' (l.take i)) o=wt (spr (fun x=>(thn x).1) A (l.take i)) o * g:=fun o=>by
  rw [← hA]; exact spr_scale (fun x=>(thn x).1) A g h.dvd o
 have hw:∀ o,wt (spr (fun x=>(thn x).1) A' (l.take (i + 1))) o=wt (spr (fun x=>(thn x).1) A (l.take i)) o * g + wt n o * (k * (A' / tot n)):=fun o=>by
  rw [htake,spr_wt_snoc,hscale]
  simp only [hnx]
 have hkq:0 < k * (A' / tot n):=Int.mul_pos hk hq0
 have rs:=mulL_rise (g:=g) h.rise
 have ps:=mulL_pos hg0 h.pos
 have rn:=mulL_rise (g:=k * (A' / tot n)) hn.rise
 have pn:=mulL_pos hkq hn.pos
 have htt:tot (mulL g s)≤A' * tot (l.take i):=by
  rw [mulL_tot,← hA]
  have:=Int.mul_le_mul_of_nonneg_right h.tt (show 0≤g by omega)
  have e:A * tot (l.take i) * g=A * g * tot (l.take i):=by ac_rfl
  rw [e] at this
  exact this
 have hnt:tot (mulL (k * (A' / tot n)) n)=A' * k:=by
  rw [mulL_tot]
  have e:tot n * (k * (A' / tot n))=tot n * (A' / tot n) * k:=by ac_rfl
  rw [e,Int.mul_ediv_cancel' hdn]
 have htot:A' * tot (l.take (i + 1))=A' * tot (l.take i) + A' * k:=by
  rw [htake,tot_append,tot_cons,tot_nil,Int.mul_add]; simp
 have nnw:∀ o,0≤wt n o * (k * (A' / tot n)):=fun o=>Int.mul_nonneg ((Nn.of_pos hn.pos).wt_le o).1 (by omega)
 have hrest:allT thn 1 l=allT thn A' (l.drop (i + 1)):=by
  rw [h.rest,List.drop_eq_getElem_cons (List.getElem?_eq_some_iff.1 hp).1,(List.getElem?_eq_some_iff.1 hp).2,allT]
  simp only [ht,if_true]
  rw [hg,hA,if_neg (by omega)]
 have hdvd:∀ p∈l.take (i + 1),tot (thn p.1).1 ∣ A':=by
  rw [htake]
  intro p hp
  rcases List.mem_append.1 hp with hp | hp
  ·exact hd' p hp
  ·simp at hp; subst hp; simp only [hnx]; exact hdn
 have hnn:∀ p∈l.take (i + 1),Nn (thn p.1).1:=by
  rw [htake]
  intro p hp
  rcases List.mem_append.1 hp with hp | hp
  ·exact h.nn p hp
  ·simp at hp; subst hp; simp only [hnx]; exact Nn.of_pos hn.pos
 by_cases hc:4096 < s.length
 ·have hp1:plusT (mulL g s) (mulL (k * (A' / tot n)) n)=mulL g s:=by unfold plusT; rw [if_pos (by rw [mulL_len]; exact hc)]
  rw [hp1]
  refine ⟨hrest,⟨hA'1,hm⟩,hdvd,hnn,rs,ps,fun o=>?_,fun hle=>?_,?_⟩
  ·rw [mulL_wt,hw]
   have h1:=Int.mul_le_mul_of_nonneg_right (h.le o) (show 0≤g by omega)
   have h2:=nnw o
   omega
  ·rw [mulL_len] at hle; omega
  ·rw [htot]
   have:0≤A' * k:=Int.mul_nonneg (by omega) (by omega)
   omega
 ·have hp1:plusT (mulL g s) (mulL (k * (A' / tot n)) n)=(mrgP (mulL g s) (mulL (k * (A' / tot n)) n)).map addP:=by unfold plusT; rw [if_neg (by rw [mulL_len]; exact hc)]
  rw [hp1]
  obtain ⟨b1,b2,b3,b4,_⟩:=add_mrg rs rn ps pn
  have hweq:∀ o,wt ((mrgP (mulL g s) (mulL (k * (A' / tot n)) n)).map addP) o=wt (spr (fun x=>(thn x).1) A' (l.take (i + 1))) o:=fun o=>by
   rw [b3,mulL_wt,mulL_wt,hw,h.eq (by omega)]
  refine ⟨hrest,⟨hA'1,hm⟩,hdvd,hnn,b1,b2,fun o=>by rw [hweq]; exact Int.le_refl _,fun _ o=>hweq o,?_⟩
  rw [b4,htot,hnt]
  omega
theorem Ch.done {thn:List Int→List Pt × Int} {l:List Pt} {i:Nat} {A:Int} {s:List Pt} (h:Ch thn l i A s) (hl:Nn l) (hi:l.length≤i):chT thn l=if 1073741824 < A * tot l then ([],4) else lowT s:=by
 have e:allT thn 1 l=(A,0):=by rw [h.rest,List.drop_eq_nil_of_le hi,allT]
 have ht:l.take i=l:=List.take_of_length_le hi
 have hle:=h.le
 have heq:=h.eq
 have hnn:=h.nn
 rw [ht] at hle heq hnn
 unfold chT
 rw [e]
 simp only [if_true]
 by_cases hm:1073741824 < A * tot l
 ·rw [if_pos hm,if_pos hm]
 ·rw [if_neg hm,if_neg hm]
  have hsn:Nn (spr (fun x=>(thn x).1) A l):=spr_nn _ _ hl hnn (by have:=h.sc.1; omega)
  by_cases hc:s.length≤4096
  ·rw [gath_is hsn h.rise h.pos (heq hc)]
  ·have hsub:∀ p∈s,∃ q∈gath (spr (fun x=>(thn x).1) A l),q.1=p.1:=by
    intro p hp
    refine wt_pos_mem ?_
    rw [gath_wt]
    have h1:=mem_wt_pos h.rise h.pos hp
    have h2:=hle p.1
    omega
   have hlen:=rise_len h.rise (gath_rise _) hsub
   have hs0:s≠[]:=by intro h0; rw [h0] at hc; simp at hc
   have hg0:gath (spr (fun x=>(thn x).1) A l)≠[]:=by intro h0; rw [h0] at hlen; simp at hlen; exact hs0 hlen
   unfold lowT
   rw [if_neg hs0,if_neg hg0,if_pos (.inr (by omega)),if_pos (.inr (by omega))]
end Go.Proofs.YtlndlpjadajelaaGreat
namespace Go.Proofs.YtlndlpjadajelaaGreat
open Go.RowKit Go.Shelf Go.Proofs.YtlndlpjadajelaaGreat.Ds
attribute [local go_sem] Oper.semAt_some
def addTr (p:Tr × Tr):Tr:=(if p.1.2.2=0 then p.2.1 else p.1.1,if p.1.2.2=0 then p.2.2.1 else p.1.2.1,p.1.2.2 + p.2.2.2)
def plsL {w:World} {B:Nat} {M:Int} (pre:List (PP w B M)):List Tr:=pre.map fun x=>addTr x.1
theorem plsL_len {w:World} {B:Nat} {M:Int} (pre:List (PP w B M)):(plsL pre).length=pre.length:=by simp [plsL]
theorem plsL_snoc {w:World} {B:Nat} {M:Int} (pre:List (PP w B M)) (x:PP w B M):plsL (pre ++ [x])=plsL pre ++ [addTr x.1]:=by simp [plsL]
theorem mrg_length (az bz:List Tr):(mrg az bz).length≤az.length + bz.length:=by
 induction az,bz using mrg.induct with
 | case1=>simp [mrg]
 | case2 b bs ih=>rw [mrg]; simp at *; omega
 | case3 a az ih=>rw [mrg]; simp at *; omega
 | case4 a az b bs h ih=>rw [mrg_lt h]; simp at *; omega
 | case5 a az b bs h1 h2 ih=>rw [mrg_gt h2]; simp at *; omega
 | case6 a az b bs h1 h2 ih=>rw [mrg_eq (by omega)]; simp at *; omega
theorem boxed_uniq {W:World} {B:Nat} {t:TypeId} {u v:Value} (h:Boxed W B t u) (k:Boxed W B t v):u=v:=by
 have:=(show W.heap[B]? = _ from h).symm.trans (show W.heap[B]? = _ from k)
 simpa using this
theorem two_cells0 (W:World) (s:Value) (k:Int) (n:Nat) (hn:W.heap.size=n):∀ j u,[s,Value.int .i64 k][j]? = some u→(W.alloc (.cells #[s,.int .i64 k] 82)).cell? ((⟨n,0,none⟩:Addr).add j)=some u:=by
 subst hn
 intro j u hj
 match j,hj with
 | 0,hj=>simp at hj; subst hj; simp [go_sem,Addr.add]
 | 1,hj=>simp at hj; subst hj; simp [go_sem,Addr.add]
theorem two_one (a:Option Addr) (n c:Nat) (k:Int):∀ u∈[Value.slice a n c,Value.int .i64 k],u.oneCell' = true:=by
 intro u hu
 simp at hu
 rcases hu with rfl | rfl <;> rfl
theorem addTr_zero (a b:Value) (x y:List Int) (k:Int):addTr ((a,x,0),(b,y,k))=(b,y,0 + k):=by simp [addTr]
theorem addTr_pos {a b:Value} {x y:List Int} {j k:Int} (h:¬ j=0):addTr ((a,x,j),(b,y,k))=(a,x,j + k):=by simp [addTr,h]
theorem flat_one (ds:List Tr) (t:Tr):flat (ds ++ [t])=flat ds ++ [t.1,.int .i64 t.2.2]:=by simp [flat]
set_option maxHeartbeats 4000000 in
set_option maxRecDepth 100000 in
theorem plus_new (B:Nat) (u v:Value) (ts us:List Tr) (w:World) (hB:B≤w.heap.size) (hp:Parts w B u ts) (hq:Parts w B v us) (hl1:ts.length≤4096) (hl2:us.length≤4096)
  (hm1:∀ t∈ts,0≤t.2.2∧t.2.2≤(1152921504606846976:Int)) (hm2:∀ t∈us,0≤t.2.2∧t.2.2≤(1152921504606846976:Int)) (xs:List Tr) (hx:(mrg ts us).map addTr=xs) :
  Calls Tryz.prog 161 #[u,v] w fun e w'=>∃ v',e=.returned v'∧w'.ownsRow w.heap.size 82 2 v' xs.length (flat xs)∧(∀ t∈xs,Ints w' w.heap.size w.heap.size t.1 t.2.1)∧Below w.heap.size w w':=by
 have HP:Hid (Parts w B u ts):=hp
 have HQ:Hid (Parts w B v us):=hq
 have HX:Hid ((mrg ts us).map addTr=xs):=hx
 have HM1:Hid (∀ t∈ts,0≤t.2.2∧t.2.2≤(1152921504606846976:Int)):=hm1
 have HM2:Hid (∀ t∈us,0≤t.2.2∧t.2.2≤(1152921504606846976:Int)):=hm2
 obtain ⟨a,c,rfl,_⟩:=hp
 obtain ⟨a',c',rfl,_⟩:=hq
 obtain ⟨i0,hi0,hz0,hz1,hz2⟩:=info_parts info32
 obtain ⟨w1,hmk,hown1,hgr1⟩:=run_make_own (P:=Tryz.prog) w w.heap.size 44 82 i0 (.agg #[.slice none 0 0,.int .i64 0]) 2 Tryz.underlying44 hi0 hz0 hz1 .i64 .i64 (ts.length + us.length) (by rw [hz2]; omega) (by unfold maxLen; omega) (Nat.le_refl _)
 have hmk':(Instr.makeSlice 44 (.int .i64 0) (.int .i64 ((ts.length:Int) + (us.length:Int)))).run Tryz.prog w=.ok (.slice (some ⟨w.heap.size,0,none⟩) 0 (ts.length + us.length)) w1:=by
  rw [← Int.natCast_add]; exact hmk
 have hd:decide (4096 < (ts.length:Int))=false:=decide_eq_false (by omega)
 have hd':¬ 4096 < (ts.length:Int):=by omega
 clear hx hm1 hm2 hmk
 refine (callsIn_wide (n:=5)).1 ?_
 refine callsIn_of_wp_marks Tryz.func161 rfl trivial ?_ rfl
 simp only [Tryz.ntmps161,List.size_toArray,List.length_cons,List.length_nil,Nat.reduceAdd,Nat.reduceSub,Array.replicate_succ,Array.replicate_zero,List.push_toArray,List.append_toArray,List.nil_append,List.cons_append]
 gi_wp2_with fail
 refine ⟨trivial,?_⟩
 refine (pairs_in _ _ _ _ _ _ _ _).mono ?_
 rintro e w4 ⟨rfl,hw4⟩
 gi_wp2_with fail
 clear hw4
 obtain ⟨W0,hW0⟩:∃ W0,(((w1.alloc (Obj.cells #[Value.slice (some ⟨w.heap.size,0,none⟩) 0 (ts.length + us.length)] 44)).alloc (Obj.cells #[Value.slice a ts.length c] 44)).alloc (Obj.cells #[Value.slice a' us.length c'] 44))=W0:=⟨_,rfl⟩
 have hs1:=hgr1.size
 have hsz:W0.heap.size=w1.heap.size + 3:=by rw [← hW0]; simp
 have gB:Boxed W0 w1.heap.size 44 (.slice (some ⟨w.heap.size,0,none⟩) 0 (ts.length + us.length)):=by rw [← hW0]; exact ((Boxed.new w1 44 _).alloc _).alloc _
 have gR:W0.ownsRow w.heap.size 82 2 (.slice (some ⟨w.heap.size,0,none⟩) 0 (ts.length + us.length)) 0 []:=by rw [← hW0]; exact ((hown1.alloc _).alloc _).alloc _
 have g4:W0.cell? ⟨w1.heap.size + 1,0,none⟩=some (.slice a ts.length c):=by rw [← hW0]; simp [go_sem]
 have g5:W0.cell? ⟨w1.heap.size + 1 + 1,0,none⟩=some (.slice a' us.length c'):=by rw [← hW0]; simp [go_sem]
 have hb0:Below w.heap.size w W0:=by
  rw [← hW0]
  have h1:Below w.heap.size w w1:=(Below.refl _ _).grown hgr1 (Nat.le_refl _) (by intro k e; cases e)
  exact bal (bal (bal h1 _) _) _
 have hX1:Parts W0 w.heap.size (.slice a ts.length c) ts:=(HP.out.at hB hb0).mono hB
 have hX2:Parts W0 w.heap.size (.slice a' us.length c') us:=(HQ.out.at hB hb0).mono hB
 rw [hW0]
 clear hW0 hown1
 refine wpIn_rangeFunc_ownH rfl (by decide) (gf:=87) (lb:=#[.pointer (some ⟨w1.heap.size + 1,0,none⟩),.pointer (some ⟨w1.heap.size + 1 + 1,0,none⟩)]) rfl trivial (enters_of Tryz.func87 (by kernel_rfl) rfl)
  (pairs_stops 4 (by decide) (w1.heap.size + 1) (w1.heap.size + 1 + 1) w.heap.size 1152921504606846976 (by decide) (.slice a ts.length c) (.slice a' us.length c') ts us W0 (by omega) (by omega) (by omega) g4 g5 hX1 hX2 HM1.out HM2.out) belowK_t (belowK_b (by omega)) (Below.refl _ _) (fun _=>rfl)
  (fun pre W=>(∃ v,Boxed W w1.heap.size 44 v∧W.ownsRow w.heap.size 82 2 v pre.length (flat (plsL pre))∧True)∧Below w.heap.size W0 W)
  (fun _ _ _=>False)
  (OwnFrom.and (Own.from (holdsRow_own w.heap.size w1.heap.size 44 82 2 (fun pre=>pre.length) (fun pre=>flat (plsL pre)) (fun _ _=>True)) _) (ownFrom_below (by omega) (by omega)))
  (fun _ _ _ _ _ hs _ _=>hs)
  ⟨⟨_,gB,gR,trivial⟩,Below.refl _ _⟩
  (fun x act W=>∃ Bx v0,W0.heap.size≤Bx∧Two2 W Bx x∧Boxed W w1.heap.size 44 v0∧v0.ownBlock≠some Bx∧act={ tmps:=#[.slice a ts.length c,.slice a' us.length c',undef,undef,.slice none 0 0,.pointer (some ⟨w1.heap.size,0,none⟩),.pointer (some ⟨Bx,0,none⟩),.pointer (some ⟨Bx + 1,0,none⟩),.slice a ts.length c,.int .i64 (ts.length:Int),.bool false,undef,.slice a ts.length c,.int .i64 (ts.length:Int),.slice a' us.length c',.int .i64 (us.length:Int),.int .i64 ((ts.length:Int) + (us.length:Int)),.slice (some ⟨w.heap.size,0,none⟩) 0 (ts.length + us.length),.slice a ts.length c,.slice a' us.length c',.func (.func 87) #[] #[.pointer (some ⟨w1.heap.size + 1,0,none⟩),.pointer (some ⟨w1.heap.size + 1 + 1,0,none⟩)],.agg #[x.1.1.1,.int .i64 x.1.1.2.2],.agg #[x.1.2.1,.int .i64 x.1.2.2.2],undef,undef,undef,undef,undef,undef,undef,undef,undef,undef,undef,undef,undef,undef,undef,undef,undef,undef],defers:=[] })
  (fun x act _ X Y row hs hg hr=>by obtain ⟨Bx,v0,h1,h2,h4,h5,h3⟩:=hs; exact ⟨Bx,v0,h1,h2.own hg (fun r e=>(hr r e).2),h4.kept hg (fun e=>by obtain ⟨_,o,ho,hc⟩:=hr _ e.symm; rw [show X.heap[w1.heap.size]? = _ from h4] at ho; cases ho; cases hc),h5,h3⟩)
  ?assign ?body ?done ?stop
 case assign =>
  rintro l pre x W K ⟨⟨v,hv,hrow,_⟩,hB1⟩ hK
  have hs:=hB1.size
  have hlt:∀ g,v.ownBlock=some g→g < W.heap.size:=fun g e=>(hrow.lt g e).2
  obtain ⟨⟨⟨xv,xo,xk⟩,⟨yv,yo,yk⟩⟩,hx⟩:=x
  obtain ⟨sa,sc,e1,_⟩:=hx.1
  obtain ⟨sa',sc',e2,_⟩:=hx.2.1
  simp only at e1 e2
  subst e1 e2
  simp only [encPP]
  gi_wp2
  exact hK _ _ (((KeepsOthers.alloc _ _).trans (KeepsOthers.alloc _ _)).from _) (((Below.refl _ W).alloc (by omega) _).alloc (by simp; omega) _) ⟨⟨v,(hv.alloc _).alloc _,(hrow.alloc _).alloc _,trivial⟩,(hB1.alloc (by omega) _).alloc (by simp; omega) _⟩ ⟨W.heap.size,v,hs,two2_new W ⟨((.slice sa xo.length sc,xo,xk),(.slice sa' yo.length sc',yo,yk)),hx⟩,(hv.alloc _).alloc _,(fun e=>Nat.lt_irrefl _ (hlt _ e)),rfl⟩
 case body =>
  rintro l pre x act W hl ⟨r,hr⟩ ⟨⟨v,hv,hrow,_⟩,hB1⟩ ⟨Bx,v0,hBx,bX,hv0,hne0,rfl⟩ hlt
  obtain rfl:=boxed_uniq hv hv0
  obtain ⟨k1,k2,k3,k4⟩:=bX.cells
  have k5:W.frozen? ⟨Bx,0,none⟩=false:=by simp [World.frozen?,bX.1]
  have hs:=hB1.size
  have hbxl:Bx < W.heap.size:=(Array.getElem?_eq_some_iff.1 bX.1).1
  have hc:=hv.cell
  have hneb:¬ w1.heap.size=Bx:=by omega
  obtain ⟨⟨⟨xv,xo,xk⟩,⟨yv,yo,yk⟩⟩,hx⟩:=x
  obtain ⟨sa,sc,e1,_⟩:=hx.1
  obtain ⟨sa',sc',e2,_⟩:=hx.2.1
  have hxx:=hx.2.2
  simp only at e1 e2 k1 k2 k3 k4 hxx
  obtain ⟨⟨hx1,hx2⟩,⟨hy1,hy2⟩⟩:=hxx
  subst e1 e2
  obtain ⟨va,vc,rfl⟩:=owns_slice hrow
  clear bX hv0
  by_cases hz:xk=0
  ·subst hz
   obtain ⟨W1,hW1⟩:∃ W1,W.setCell ⟨Bx,0,none⟩ (.slice sa' yo.length sc')=W1:=⟨_,rfl⟩
   have r1:W1.cell? ⟨Bx,0,none⟩=some (.slice sa' yo.length sc'):=by rw [← hW1]; exact sc_same k1
   have r2:W1.cell? ⟨Bx,1,none⟩=some (.int .i64 0):=by rw [← hW1]; exact (sc_other (by simp)).trans k2
   have r3:W1.cell? ⟨Bx + 1,1,none⟩=some (.int .i64 yk):=by rw [← hW1]; exact (sc_other (by simp)).trans k4
   have hvS:Boxed W1 w1.heap.size 44 (.slice va pre.length vc):=by rw [← hW1]; exact hv.kept (grownBy_setCell' W Bx _) (by simp; omega)
   have hrowS:W1.ownsRow w.heap.size 82 2 (.slice va pre.length vc) pre.length (flat (plsL pre)):=by rw [← hW1]; exact hrow.kept (grownBy_setCell' W Bx _) (.inr hne0)
   have hkS:KeepsOthers W W1:=hW1▸KeepsOthers.setCell _ _ _
   have hbS:Below w.heap.size W W1:=by rw [← hW1]; exact (Below.refl _ W).setCell (p:=⟨Bx,0,none⟩) (by show w.heap.size≤Bx; omega) _
   have hsS:W1.heap.size=W.heap.size:=by rw [← hW1]; simp
   have hcS:=hvS.cell
   clear hv hrow hc
   gi_wp2_with (gi_at_builtin; refine wpListIn_append_own _ rfl _ _ 44 rfl w.heap.size 82 i0 (.agg #[.slice none 0 0,.int .i64 0]) 2 32 Tryz.underlying44 hi0 hz0 hz1 hz2 rfl (by decide) _ _ _ rfl (hrowS.alloc _) ⟨W.heap.size,0,none⟩ 1 1 [.slice sa' yo.length sc',.int .i64 yk] rfl rfl (two_cells0 W1 _ _ _ hsS) (two_one _ _ _ _) (by unfold maxLen; omega) (by omega) (by simp; omega) ?_; intro v' w5 hown' hgrow _; obtain ⟨g',cap',rfl⟩:=ownsRow_succ hown'; obtain ⟨hv1,hv2,hr2,hk2,hb2⟩:=hvS.appended (by decide) hrowS (by omega) (by omega) hown' hgrow; have hc1:=hv1.cell; have hf1:=hv1.frozen)
   refine ⟨(hkS.trans hk2).from _,hbS.trans hb2,⟨⟨_,hv2,?_⟩,(hB1.trans hbS).trans hb2⟩⟩
   rw [plsL_snoc,flat_one,addTr_zero]
   simpa using hr2
  ·have hz':(xk == 0)=false:=by simpa using hz
   have hk0:0≤xk + yk∧xk + yk≤4611686018427387904:=by omega
   gi_wp2_with (gi_at_builtin; refine wpListIn_append_own _ rfl _ _ 44 rfl w.heap.size 82 i0 (.agg #[.slice none 0 0,.int .i64 0]) 2 32 Tryz.underlying44 hi0 hz0 hz1 hz2 rfl (by decide) _ _ _ rfl (hrow.alloc _) ⟨W.heap.size,0,none⟩ 1 1 [.slice sa xo.length sc,.int .i64 (xk + yk)] rfl rfl (two_cells0 W _ _ _ rfl) (two_one _ _ _ _) (by unfold maxLen; omega) (by omega) (by simp; omega) ?_; intro v' w5 hown' hgrow _; obtain ⟨g',cap',rfl⟩:=ownsRow_succ hown'; obtain ⟨hv1,hv2,hr2,hk2,hb2⟩:=hv.appended (by decide) hrow (by omega) (by omega) hown' hgrow; have hc1:=hv1.cell; have hf1:=hv1.frozen)
   refine ⟨hk2.from _,hb2,⟨⟨_,hv2,?_⟩,hB1.trans hb2⟩⟩
   rw [plsL_snoc,flat_one,addTr_pos hz]
   simpa using hr2
 case done =>
  rintro D ys W hD hS ⟨⟨v,hv,hrow,_⟩,hB1⟩ hK
  have hc:=hv.cell
  have hpx:plsL ys=xs:=by rw [← HX.out,← hS,List.map_map]; rfl
  have hlx:ys.length=xs.length:=by rw [← hpx,plsL_len]
  have hI:∀ t∈xs,Ints W0 w.heap.size w.heap.size t.1 t.2.1:=by
   rw [← hpx]
   intro t ht
   obtain ⟨x,_,rfl⟩:=List.mem_map.1 ht
   unfold addTr
   split
   ·exact x.2.2.1
   ·exact x.2.1
  obtain ⟨va,vc,rfl⟩:=owns_slice hrow
  have HI:Hid (∀ t∈xs,Ints W0 w.heap.size w.heap.size t.1 t.2.1):=hI
  have HRW:Hid (W.ownsRow w.heap.size 82 2 (.slice va ys.length vc) xs.length (flat xs)):=by rw [Hid,← hpx,plsL_len]; exact hrow
  have HK:Hid (W.heap[D]? = some (.deferred (some []))):=hK
  clear hI hpx hlx hrow hS
  gi_wp2
  refine ⟨by simp,.inl ⟨_,_,rfl,run_takeDeferred HK.out,?_⟩⟩
  have hbD:=belowK_b (w:=w) (Nat.le_refl _) W D _ (.deferred none) (by omega) HK.out rfl rfl
  exact ⟨_,results_tmp rfl _ _ _,_,rfl,ownsRow_putObj HRW.out _ HK.out rfl,fun t ht=>(HI.out t ht).keep (hB1.trans hbD),(hb0.trans hB1).trans hbD⟩
 case stop =>
  rintro D c pre W _ _ h _
  exact h.elim
end Go.Proofs.YtlndlpjadajelaaGreat
