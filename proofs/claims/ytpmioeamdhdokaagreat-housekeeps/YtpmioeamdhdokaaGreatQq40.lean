import Derived.Test.YtpmioeamdhdokaaGreatQq39
import Derived.Test.YtpmioeamdhdokaaGreatQq29
namespace Go.Proofs.YtpmioeamdhdokaaGreat
open Go.RowKit Go.Proofs.YtpmioeamdhdokaaGreat.Ds
open Go.Proofs.YtpmioeamdhdokaaGreat.K.P (Tame)
theorem tm0:Tame 0:=⟨by decide,by decide⟩
theorem tm1:Tame 1:=⟨by decide,by decide⟩
theorem tm2:Tame 2:=⟨by decide,by decide⟩
theorem tm3:Tame 3:=⟨by decide,by decide⟩
theorem tm4:Tame 4:=⟨by decide,by decide⟩
theorem tm5:Tame 5:=⟨by decide,by decide⟩
theorem tm7:Tame 7:=⟨by decide,by decide⟩
theorem tm8:Tame 8:=⟨by decide,by decide⟩
theorem rec_tame {l:List K.Ds.Col} {k:Int} {c:ByteArray} {lo hi:Int} {wh:List K.Ds.Tst} {x y:K.Ds.Bnd} {e:Int} (hw:Tame (K.Ds.whE l wh)) (h:K.Ds.rec l k c lo hi wh x y=.error e):Tame e:=by
 unfold K.Ds.rec K.Ds.ifW at h
 repeat' split at h
 all_goals first
  | cases h; done
  | (simp only [Except.error.injEq] at h; subst h; first | exact hw | exact tm3 | exact tm7 | exact tm8)
theorem ts_tame (l:List K.Ds.Col):∀ wh:List K.Ds.Tst,Tame (K.Ds.tsE l wh)
 | []=>tm0
 | t :: wh=>by
  unfold K.Ds.tsE
  split
  ·split
   ·exact ts_tame l wh
   ·(first | exact tm0 | exact tm1 | exact tm2 | exact tm3 | exact tm4 | exact tm5 | exact tm7 | exact tm8)
  ·(first | exact tm0 | exact tm1 | exact tm2 | exact tm3 | exact tm4 | exact tm5 | exact tm7 | exact tm8)
theorem wh_tame (l:List K.Ds.Col) (wh:List K.Ds.Tst):Tame (K.Ds.whE l wh):=by
 unfold K.Ds.whE
 split
 ·(first | exact tm0 | exact tm1 | exact tm2 | exact tm3 | exact tm4 | exact tm5 | exact tm7 | exact tm8)
 ·exact ts_tame l wh
theorem bnd_tame {l:List K.Ds.Col} (q:K.Ds.Qu):∀ (lv:Nat) (e:Int),K.Ds.bnd l lv q=.error e→Tame e:=by
 induction q with
 | none=>intro lv e h; simp only [K.Ds.bnd] at h; cases h
 | node k c lo hi wh n x y ihx ihy =>
  intro lv e h
  simp only [K.Ds.bnd] at h
  split at h
  ·cases h; (first | exact tm0 | exact tm1 | exact tm2 | exact tm3 | exact tm4 | exact tm5 | exact tm7 | exact tm8)
  ·split at h
   ·cases h; (first | exact tm0 | exact tm1 | exact tm2 | exact tm3 | exact tm4 | exact tm5 | exact tm7 | exact tm8)
   ·split at h
    ·split at h
     ·rename_i er hbx
      cases h
      unfold K.Ds.ifK at hbx
      split at hbx
      ·exact ihx _ _ hbx
      ·cases hbx
     ·rename_i bx hbx
      split at h
      ·rename_i er hby
       cases h
       unfold K.Ds.ifK at hby
       split at hby
       ·exact ihy _ _ hby
       ·cases hby
      ·rename_i b' hby
       split at h
       ·rename_i er hr
        cases h
        exact rec_tame (wh_tame l wh) hr
       ·unfold K.Ds.lim at h
        split at h
        ·cases h
        ·cases h; (first | exact tm0 | exact tm1 | exact tm2 | exact tm3 | exact tm4 | exact tm5 | exact tm7 | exact tm8)
    ·cases h; (first | exact tm0 | exact tm1 | exact tm2 | exact tm3 | exact tm4 | exact tm5 | exact tm7 | exact tm8)
theorem col_tame:∀ (l pre:List K.Ds.Col),Tame (K.Ds.colL pre l)
 | [],_=>tm0
 | c :: r,pre=>by
  unfold K.Ds.colL
  split
  ·split
   ·(first | exact tm0 | exact tm1 | exact tm2 | exact tm3 | exact tm4 | exact tm5 | exact tm7 | exact tm8)
   ·split
    ·(first | exact tm0 | exact tm1 | exact tm2 | exact tm3 | exact tm4 | exact tm5 | exact tm7 | exact tm8)
    ·exact col_tame r _
  ·(first | exact tm0 | exact tm1 | exact tm2 | exact tm3 | exact tm4 | exact tm5 | exact tm7 | exact tm8)
theorem rowL_tame:∀ (l:List K.Ds.Col) (r:List Int),Tame (K.Ds.rowL l r)
 | [],r=>by cases r <;> (first | exact tm0 | exact tm1 | exact tm2 | exact tm3 | exact tm4 | exact tm5 | exact tm7 | exact tm8)
 | c :: l,[]=>tm0
 | c :: l,v :: r=>by
  unfold K.Ds.rowL
  split
  ·(first | exact tm0 | exact tm1 | exact tm2 | exact tm3 | exact tm4 | exact tm5 | exact tm7 | exact tm8)
  ·exact rowL_tame l r
theorem rows_tame (l:List K.Ds.Col):∀ rs:List (List Int),Tame (K.Ds.rowsL l rs)
 | []=>tm0
 | r :: rs=>by
  unfold K.Ds.rowsL
  split
  ·exact rows_tame l rs
  ·unfold K.Ds.rowE
   split
   ·exact rowL_tame l r
   ·exact tm8
theorem wro_tame (l:List K.Ds.Col) (rs:List (List Int)):Tame (K.Ds.wroE l rs):=by
 unfold K.Ds.wroE
 split
 ·split
  ·exact tm4
  ·exact rows_tame l rs
 ·unfold K.Ds.colE
  split
  ·exact tm5
  ·split
   ·split
    ·exact tm4
    ·exact tm0
   ·exact col_tame l []
theorem make_tame {l:List Pt} (h:0 < tot l):Tame (makeT l).2:=by
 unfold makeT
 split
 ·unfold lowT
  split
  ·rename_i c
   have:=gath_tot l
   rw [c] at this
   simp [tot] at this
   omega
  ·split <;> (first | exact tm0 | exact tm1 | exact tm2 | exact tm3 | exact tm4 | exact tm5 | exact tm7 | exact tm8)
 ·(first | exact tm0 | exact tm1 | exact tm2 | exact tm3 | exact tm4 | exact tm5 | exact tm7 | exact tm8)
theorem gk_pos {u d:Int} (hd:1≤d) (hu:d≤u) (R k:Nat):0 < gk u d R k:=by
 unfold gk
 exact Int.mul_pos (Int.pow_pos (by omega)) (Int.pow_pos (by omega))
theorem tot_pos':∀ {l:List Pt},(∀ p∈l,0≤p.2)→(∃ p∈l,0 < p.2)→0 < tot l
 | [],_,h=>by obtain ⟨p,hp,_⟩:=h; cases hp
 | q :: l,h,hp=>by
  rw [tot_cons]
  have h1:=h q (by simp)
  have h2:0≤tot l:=by
   clear hp
   induction l with
   | nil=>simp [tot]
   | cons a l ih =>
    rw [tot_cons]
    have:=ih (fun x hx=>h x (by simp at hx ⊢; rcases hx with e | e <;> simp [e]))
    have:=h a (by simp)
    omega
  obtain ⟨p,hp,hpp⟩:=hp
  rcases List.mem_cons.1 hp with rfl | hp
  ·omega
  ·have:=tot_pos' (fun x hx=>h x (by simp [hx])) ⟨p,hp,hpp⟩
   omega
theorem hide_tame (u d lo hi n:Int):Tame (hideT u d lo hi n).2:=by
 unfold hideT
 split
 ·unfold lossE
  split
  ·split <;> (first | exact tm0 | exact tm1 | exact tm2 | exact tm3 | exact tm4 | exact tm5 | exact tm7 | exact tm8)
  ·(first | exact tm0 | exact tm1 | exact tm2 | exact tm3 | exact tm4 | exact tm5 | exact tm7 | exact tm8)
 ·rename_i c
  obtain ⟨_,h1,h2,_⟩:=loss_ok (by simpa using c)
  split
  ·(first | exact tm0 | exact tm1 | exact tm2 | exact tm3 | exact tm4 | exact tm5 | exact tm7 | exact tm8)
  ·split
   ·exact make_tame (by simp [tot])
   ·split
    ·(first | exact tm0 | exact tm1 | exact tm2 | exact tm3 | exact tm4 | exact tm5 | exact tm7 | exact tm8)
    ·refine make_tame (tot_pos' (fun p hp=>?_) ⟨_,List.mem_map.2 ⟨0,List.mem_range.2 (by omega),rfl⟩,?_⟩)
     ·obtain ⟨i,_,rfl⟩:=List.mem_map.1 hp
      refine Int.mul_nonneg (Int.le_of_lt (gk_pos h2 h1 _ _)) ?_
      split <;> omega
     ·refine Int.mul_pos (gk_pos h2 h1 _ _) ?_
      simp
      omega
theorem hids_tame (u d lo hi:Int):∀ ns:List Int,Tame (hidsT u d lo hi ns).2
 | []=>tm0
 | n :: ns=>by
  unfold hidsT
  split
  ·exact hide_tame u d lo hi n
  ·split
   ·exact hids_tame u d lo hi ns
   ·(first | exact tm0 | exact tm1 | exact tm2 | exact tm3 | exact tm4 | exact tm5 | exact tm7 | exact tm8)
theorem lost_tame (u d n:Int):Tame (lostT u d n).2.2:=by
 unfold lostT
 split
 ·unfold lossE
  split
  ·split <;> (first | exact tm0 | exact tm1 | exact tm2 | exact tm3 | exact tm4 | exact tm5 | exact tm7 | exact tm8)
  ·(first | exact tm0 | exact tm1 | exact tm2 | exact tm3 | exact tm4 | exact tm5 | exact tm7 | exact tm8)
 ·unfold Rt.powT
  repeat' split
  all_goals (first | exact tm0 | exact tm1 | exact tm2 | exact tm3 | exact tm4 | exact tm5 | exact tm7 | exact tm8)
theorem run_tame (l:List K.Ds.Col) (rs:List (List Int)) (q:K.Ds.Qu):Tame (K.runV (K.runT l rs q)).2:=by
 unfold K.runT
 split
 ·split
  ·(first | exact tm0 | exact tm1 | exact tm2 | exact tm3 | exact tm4 | exact tm5 | exact tm7 | exact tm8)
  ·rename_i e h
   exact bnd_tame q 1 e h
 ·exact wro_tame l rs
theorem ans_tame (u d lo hi:Int) (l:List K.Ds.Col) (rs:List (List Int)) (q:K.Ds.Qu):Tame (ansT u d lo hi l rs q).2.2.2:=by
 unfold ansT
 split
 ·exact run_tame l rs q
 ·split
  ·exact hids_tame _ _ _ _ _
  ·split
   ·exact lost_tame _ _ _
   ·(first | exact tm0 | exact tm1 | exact tm2 | exact tm3 | exact tm4 | exact tm5 | exact tm7 | exact tm8)
theorem pre_tame {e:Int} (he:Tame e) (bits:List Int):Tame (preT e bits):=by
 unfold preT
 split
 ·exact he
 ·unfold wrB
  split
  ·(first | exact tm0 | exact tm1 | exact tm2 | exact tm3 | exact tm4 | exact tm5 | exact tm7 | exact tm8)
  ·split <;> (first | exact tm0 | exact tm1 | exact tm2 | exact tm3 | exact tm4 | exact tm5 | exact tm7 | exact tm8)
open Go.Proofs.YtpmioeamdhdokaaGreat.K (Cl)
open Go.Proofs.YtpmioeamdhdokaaGreat.K.P (HSt Keeps keeps_below keeps_set keeps_refl HouM HouK DskM HdoP doesT stepH Ev Sn quV priT TwoB W64 liesT row_keeps row_lt row_base row_gb row_same enc Rl noteH Tame rl_step nrm)
theorem stp_mono {w:World} {B B' b o:Nat} {x:Stp} (h:StpM w B b o x) (hB:B≤B'):StpM w B' b o x:=by
 obtain ⟨s,rfl,h1,h2⟩:=stp_stv h
 exact stv_stp h1 (h2.mono hB)
theorem K.rws_mono {w:World} {B B':Nat} {v:Value} {ts:List K.Rw} (h:K.Rws w B v ts) (hB:B≤B'):K.Rws w B' v ts:=by
 obtain ⟨a,c,h1,h2,h3,h4,h5⟩:=h
 refine ⟨a,c,h1,h2,h3,fun t ht=>(h4 t ht).mono hB (.inr hB),fun hn=>?_⟩
 obtain ⟨b,o,g1,g2,g3⟩:=h5 hn
 exact ⟨b,o,g1,by omega,g3⟩
def lookS:Stv:=⟨⟨5,0,⟨#[]⟩,0,0,⟨#[]⟩,.node 0 ⟨#[]⟩ 0 0 [] 0 .none .none,0,0,0,0,[],0⟩,0,⟨#[]⟩,0,0,none,0,0,none,0,0,none,0⟩
theorem look_m (w:World) (B:Nat):StvM w B lookS:=by
 refine ⟨0,⟨rfl,rfl,rfl,rfl,by decide,?_,none,0,rfl,Nat.le_refl _,by decide,fun h=>by omega⟩,⟨none,0,rfl,Nat.le_refl _,by decide,fun h=>absurd rfl h⟩,fun _=>rfl,⟨by decide,by decide⟩,⟨by decide,by decide⟩,⟨by decide,by decide⟩,⟨by decide,by decide⟩,by decide,by decide⟩
 exact ⟨none,0,rfl,Nat.le_refl _,by decide,(fun x hx=>by cases hx),fun h=>absurd rfl h⟩
def allL (ss:List Stv):List Stv:=ss.flatMap fun s=>[s,lookS]
theorem all_snoc (ss:List Stv) (s:Stv):allL (ss ++ [s])=allL ss ++ [s,lookS]:=by simp [allL]
theorem all_len (ss:List Stv):(allL ss).length=2 * ss.length:=by
 induction ss with
 | nil=>rfl
 | cons s ss ih=>unfold allL at *; rw [List.flatMap_cons,List.length_append,ih]; simp; omega
theorem all_even:∀ (ss:List Stv) (k:Nat),(allL ss)[2 * k]? = ss[k]?
 | [],k=>by simp [allL]
 | s :: ss,0=>rfl
 | s :: ss,k + 1=>by
  have:=all_even ss k
  rw [List.getElem?_cons_succ,← this]
  show (s :: lookS :: allL ss)[2 * (k + 1)]? = _
  rw [show 2 * (k + 1)=2 * k + 1 + 1 by omega,List.getElem?_cons_succ,List.getElem?_cons_succ]
theorem all_odd:∀ (ss:List Stv) (k:Nat),k < ss.length→(allL ss)[2 * k + 1]? = some lookS
 | [],k,h=>by simp at h
 | s :: ss,0,_=>rfl
 | s :: ss,k + 1,h=>by
  have:=all_odd ss k (by simpa using h)
  rw [← this]
  show (s :: lookS :: allL ss)[2 * (k + 1) + 1]? = _
  rw [show 2 * (k + 1) + 1=2 * k + 1 + 1 + 1 by omega,List.getElem?_cons_succ,List.getElem?_cons_succ]
theorem all_mem {ss:List Stv} {w:World} {B:Nat} (h:∀ s∈ss,StvM w B s):∀ s∈allL ss,StvM w B s:=by
 intro s hs
 obtain ⟨t,ht,hs⟩:=List.mem_flatMap.1 hs
 simp only [List.mem_cons,List.not_mem_nil,or_false] at hs
 rcases hs with rfl | rfl
 ·exact h _ ht
 ·exact look_m w B
theorem unp_m {w:World} {B:Nat} {s:Stv} (h:StvM w B s):StvM w B (unpS s):=by
 unfold unpS
 split
 ·exact h
 ·exact h
theorem unp_act (s:Stv):(unpS s).x.act≠6:=by
 unfold unpS
 split
 ·simp
 ·assumption
theorem runP_at (l:List K.Ds.Col) (ts:List (List Int)):∀ (xs:List Stp) (s:HSt) (i:Nat) (x:Stp),xs[i]? = some x →
  (runP l ts s xs).2[i]? = some (stepP l ts (runP l ts s (xs.take i)).1 x).2∧(runP l ts s (xs.take (i + 1))).1=(stepP l ts (runP l ts s (xs.take i)).1 x).1
 | [],s,i,x,h=>by simp at h
 | y :: ys,s,0,x,h=>by
  simp only [List.getElem?_cons_zero,Option.some.injEq] at h
  subst h
  exact ⟨rfl,rfl⟩
 | y :: ys,s,i + 1,x,h=>by
  rw [List.getElem?_cons_succ] at h
  have:=runP_at l ts ys (stepP l ts s y).1 i x h
  simpa only [runP,List.take_succ_cons,List.getElem?_cons_succ] using this
theorem step_un {l:List K.Ds.Col} {ts:List (List Int)} (hw:K.Ds.wroE l ts=0) (S:HSt) {x:Stp} (h:x.act≠6):stepP l ts S x=stepH 0 S (evT l ts x):=by
 unfold stepP
 rw [if_neg (fun c=>h c.1),hw]
theorem step_look {l:List K.Ds.Col} {ts:List (List Int)} (hw:K.Ds.wroE l ts=0) (S:HSt):stepP l ts S lookS.x=stepH 0 S (.loo:Ev Tol):=by
 rw [step_un hw S (by decide)]; rfl
theorem loo_st (S:HSt):(stepH 0 S (.loo:Ev Tol)).1=S:=by
 simp only [stepH]
 repeat' split
 all_goals rfl
theorem ev_tame {l:List K.Ds.Col} {ts:List (List Int)} {x:Stp}:∀ pre e tl,evT l ts x=.ask pre e tl→Tame pre:=by
 intro pre e tl h
 unfold evT at h
 repeat' split at h
 all_goals first
  | (cases h; done)
  | (unfold askE at h; simp only [Ev.ask.injEq] at h; rw [← h.1]; exact pre_tame (ans_tame _ _ _ _ _ _ _) _)
theorem seen_row {w:World} {G:Nat→Prop} {N0:Nat} {ov:Value} {os:List (Sn Tol)} {css:List (List Value)} (h1:css.length=os.length) (h2:w.ownsRow N0 42 6 ov os.length css.flatten)
  (h4:∀ (i:Nat) x cs,os[i]? = some x→css[i]? = some cs→SeenM w G x cs) {i:Nat} {x:Sn Tol} (hi:os[i]? = some x) :
  ∃ cs g c,ov=.slice (some ⟨g,0,none⟩) os.length c∧N0≤g∧g < w.heap.size∧w.rangeAt g (0 + i * 6) cs∧SeenM w G x cs:=by
 have hlt:=(List.getElem?_eq_some_iff.1 hi).1
 obtain ⟨cs,hcs⟩:∃ cs,css[i]? = some cs:=⟨_,List.getElem?_eq_getElem (by omega)⟩
 have h6:∀ (j:Nat) ds,css[j]? = some ds→ds.length=6:=by
  intro j ds hj
  have hjl:=(List.getElem?_eq_some_iff.1 hj).1
  obtain ⟨_,_,_,_,_,e,_⟩:=h4 j _ ds (List.getElem?_eq_getElem (by omega)) hj
  rw [e]; rfl
 have hfl:∀ (l:List (List Value)),(∀ (j:Nat) ds,l[j]? = some ds→ds.length=6)→∀ (k:Nat) ds,l[k]? = some ds→∀ (q:Nat) u,ds[q]? = some u→l.flatten[k * 6 + q]? = some u:=by
  intro l
  induction l with
  | nil=>intro _ k ds h; simp at h
  | cons a l ih =>
   intro hl k ds hk q u hq
   have ha:=hl 0 a rfl
   rw [List.flatten_cons]
   cases k with
   | zero =>
    simp only [List.getElem?_cons_zero,Option.some.injEq] at hk
    subst hk
    have:=(List.getElem?_eq_some_iff.1 hq).1
    rw [List.getElem?_append_left (by omega)]
    simpa using hq
   | succ k =>
    rw [List.getElem?_cons_succ] at hk
    rw [List.getElem?_append_right (by omega),ha,show (k + 1) * 6 + q - 6=k * 6 + q by omega]
    exact ih (fun j ds hj=>hl (j + 1) ds (by simpa using hj)) k ds hk q u hq
 rcases h2.2 with ⟨_,h0⟩ | ⟨g,cap,cur,rfl,hb,hc,_⟩
 ·omega
 ·refine ⟨cs,g,cap,rfl,hb,(Array.getElem?_eq_some_iff.1 hc).1,fun q u hq=>?_,h4 i x cs hi hcs⟩
  have h3:=h2.cells (g:=g) rfl (i * 6 + q) u (hfl css h6 i cs hcs q u hq)
  have e:(⟨g,0,none⟩:Addr).add (i * 6 + q)=⟨g,0 + i * 6 + q,none⟩:=by unfold Addr.add; split <;> simp_all
  rwa [e] at h3
open Go.Proofs.YtpmioeamdhdokaaGreat.K.P (HSt Keeps keeps_below W64 row_keeps row_lt enc)
def mkS (act bu bd:Int) (nm:ByteArray):Stv:=⟨⟨act,0,nm,bu,bd,⟨#[]⟩,.node 0 ⟨#[]⟩ 0 0 [] 0 .none .none,0,0,0,0,[],0⟩,0,⟨#[]⟩,0,0,none,0,0,none,0,0,none,0⟩
theorem mk_m (w:World) (B:Nat) (act bu bd:Int) (nm:ByteArray) (hn:nm.size≤9223372036854775807):StvM w B (mkS act bu bd nm):=by
 have z0:I64 0:=⟨by decide,by decide⟩
 refine ⟨0,⟨rfl,rfl,rfl,rfl,by decide,?_,none,0,rfl,Nat.le_refl _,by decide,fun h=>by omega⟩,⟨none,0,rfl,Nat.le_refl _,Nat.zero_le _,fun h=>absurd rfl h⟩,fun _=>rfl,z0,z0,z0,z0,hn,Nat.zero_le _⟩
 exact ⟨none,0,rfl,Nat.le_refl _,by decide,(fun x hx=>by cases hx),fun h=>absurd rfl h⟩
abbrev nmA:ByteArray:=⟨#[97]⟩
abbrev alX:List Stp:=[(mkS 1 0 0 ⟨#[]⟩).x,(mkS 2 2 1 nmA).x,(mkS 5 0 0 ⟨#[]⟩).x]
theorem al_run:(runP [(nmA,2)] [] ⟨List.replicate 9 0,-1,false,false,[]⟩ alX).2.map (fun s=>s.ents.length)=[0,0,1]:=by decide +kernel
theorem bl1:Tryz.prog.built 56 [(0,.int .i64 1)]=some (mkS 1 0 0 ⟨#[]⟩).cs.toArray:=by kernel_rfl
theorem bl2:Tryz.prog.built 56 [(0,.int .i64 2),(2,.string nmA),(3,.agg #[.int .i64 2,.int .i64 1])]=some (mkS 2 2 1 nmA).cs.toArray:=by kernel_rfl
theorem bl5:Tryz.prog.built 56 [(0,.int .i64 5)]=some (mkS 5 0 0 ⟨#[]⟩).cs.toArray:=by kernel_rfl
theorem bls3 (a b c:Stv):Tryz.prog.builtSlice 56 3 [(0,.agg a.cs.toArray),(1,.agg b.cs.toArray),(2,.agg c.cs.toArray)]=some (sfl [a,b,c]).toArray:=by kernel_rfl
theorem bls2 (a b:Stv):Tryz.prog.builtSlice 56 2 [(0,.agg a.cs.toArray),(1,.agg b.cs.toArray)]=some (sfl [a,b]).toArray:=by kernel_rfl
theorem wpList_built1 {P:Program} {ops:Array Oper} {rest:List Oper} {o:Oper} {a:Act} {w:World} {Q:Exit→Act→World→Prop} (hg:o.guard=none) (t:TypeId) (n:Nat) (x:Operand) (ho:o.op=.build t #[(n,x)]) (d:Option Tmp) (hd:o.dst=d) (v:Value) (hv:a.eval x=v) (cells:Array Value) (hf:P.built t [(n,v)]=some cells)
  (h:wpList P ops Q rest (a.put d (.agg cells)) w):wpList P ops Q (o :: rest) a w:=wpList_buildTo hg t _ ho d hd cells (by subst hv; simpa using hf) h
theorem wpList_built3 {P:Program} {ops:Array Oper} {rest:List Oper} {o:Oper} {a:Act} {w:World} {Q:Exit→Act→World→Prop} (hg:o.guard=none) (t:TypeId) (n m k:Nat) (x y z:Operand) (ho:o.op=.build t #[(n,x),(m,y),(k,z)]) (d:Option Tmp) (hd:o.dst=d) (v v' v'':Value) (hv:a.eval x=v) (hv':a.eval y=v') (hv'':a.eval z=v'') (cells:Array Value) (hf:P.built t [(n,v),(m,v'),(k,v'')]=some cells)
  (h:wpList P ops Q rest (a.put d (.agg cells)) w):wpList P ops Q (o :: rest) a w:=wpList_buildTo hg t _ ho d hd cells (by subst hv hv' hv''; simpa using hf) h
theorem wpList_build2 {P:Program} {ops:Array Oper} {rest:List Oper} {o:Oper} {a:Act} {w:World} {Q:Exit→Act→World→Prop} (hg:o.guard=none) (t e:TypeId) (x y:Operand) (ho:o.op=.buildSlice t 2 #[(0,x),(1,y)])
  (N:Nat) (hN:w.heap.size=N) (dst:Option Tmp) (hdst:o.dst=dst) (hu:P.underlying t=some (.slice e)) (v v':Value) (hv:a.eval x=v) (hv':a.eval y=v') (cells:Array Value) (hf:P.builtSlice e 2 [(0,v),(1,v')]=some cells)
  (h:wpList P ops Q rest (a.put dst (.slice (some ⟨N,0,none⟩) 2 2)) (w.alloc (.cells cells e))):wpList P ops Q (o :: rest) a w :=
 Great.wpList_buildSliceTo hg t e 2 _ ho N hN dst hdst hu cells (by subst hv hv'; simpa using hf) h
theorem wpList_build3 {P:Program} {ops:Array Oper} {rest:List Oper} {o:Oper} {a:Act} {w:World} {Q:Exit→Act→World→Prop} (hg:o.guard=none) (t e:TypeId) (x y z:Operand) (ho:o.op=.buildSlice t 3 #[(0,x),(1,y),(2,z)])
  (N:Nat) (hN:w.heap.size=N) (dst:Option Tmp) (hdst:o.dst=dst) (hu:P.underlying t=some (.slice e)) (v v' v'':Value) (hv:a.eval x=v) (hv':a.eval y=v') (hv'':a.eval z=v'') (cells:Array Value) (hf:P.builtSlice e 3 [(0,v),(1,v'),(2,v'')]=some cells)
  (h:wpList P ops Q rest (a.put dst (.slice (some ⟨N,0,none⟩) 3 3)) (w.alloc (.cells cells e))):wpList P ops Q (o :: rest) a w :=
 Great.wpList_buildSliceTo hg t e 3 _ ho N hN dst hdst hu cells (by subst hv hv' hv''; simpa using hf) h
theorem blk_svs {w:World} {g c:Nat} {ss:List Stv} (h:Owb w g 56 (sfl ss)) (hc:ss.length≤c) (hm:∀ s∈ss,StvM w w.heap.size s):Svs w w.heap.size (.slice (some ⟨g,0,none⟩) ss.length c) ss:=by
 refine ⟨_,c,rfl,hc,hm,fun _=>⟨g,0,rfl,h.lt,fun i s hs j u hj=>?_⟩⟩
 have:=(h.bx (i * 18 + j) u (sfl_at ss i s j u hs hj)).c
 rwa [show 0 + i * 18 + j=i * 18 + j by omega]
set_option maxHeartbeats 4000000 in
set_option maxRecDepth 100000 in
theorem alive_any (w:World):Calls Tryz.prog 12 #[] w fun e w'=>e=.returned (.bool true)∧Below w.heap.size w w':=by
 have hmk:∀ u:World,(Instr.makeSlice 26 (.int .i64 9) (.int .i64 9)).run Tryz.prog u=.ok (.slice (some ⟨u.heap.size,0,none⟩) 9 9) (u.alloc (.cells (madeCells #[.int .i64 0] 9) 2)):=run_make_row' (P:=Tryz.prog) 26 2 (.int .i64 0) 8 Tryz.underlying26 infow2 rfl .i64 .i64 9 (by omega) (by omega)
 obtain ⟨W2,hW2⟩:∃ W2,(w.alloc (.cells #[.string nmA,.int .i64 2] 105)).alloc (.cells (madeCells #[.int .i64 0] 9) 2)=W2:=⟨_,rfl⟩
 have hs2:W2.heap.size=w.heap.size + 1 + 1:=by rw [← hW2]; simp
 obtain ⟨W3,hW3⟩:∃ W3,W2.alloc (.cells (sfl [mkS 1 0 0 ⟨#[]⟩,mkS 2 2 1 nmA,mkS 5 0 0 ⟨#[]⟩]).toArray 56)=W3:=⟨_,rfl⟩
 have hs3:W3.heap.size=W2.heap.size + 1:=by rw [← hW3]; simp
 have hb2:Below w.heap.size w W2:=hW2▸bal (ba _ _) _
 have hb3:Below w.heap.size w W3:=bt hb2 (hW3▸ba _ _)
 have c0:Bx W2 w.heap.size [.string nmA,.int .i64 2]:=hW2▸(Bx.new w [.string nmA,.int .i64 2] 105 rfl).at (ba _ _)
 have c3:Bx W3 w.heap.size [.string nmA,.int .i64 2]:=hW3▸c0.at (ba _ _)
 have hcol:K.Cols W3 W3.heap.size (.slice (some ⟨w.heap.size,0,none⟩) 1 1) [(nmA,2)]:=by
  refine ⟨_,_,rfl,Nat.le_refl _,by decide,(fun x hx=>by simp at hx; subst hx; decide),fun _=>⟨w.heap.size,0,rfl,by omega,fun i x hx=>?_⟩⟩
  cases i with
  | zero=>simp only [List.getElem?_cons_zero,Option.some.injEq] at hx; subst hx; exact ⟨by simpa using (c3 0 _ rfl).c,by simpa using (c3 1 _ rfl).c⟩
  | succ i=>simp at hx
 have hrow:K.Rws W3 W3.heap.size (.slice none 0 0) []:=⟨none,0,rfl,Nat.le_refl _,by decide,(fun t ht=>by cases ht),fun h=>absurd rfl h⟩
 have hsv:Svs W3 W3.heap.size (.slice (some ⟨W2.heap.size,0,none⟩) 3 3) [mkS 1 0 0 ⟨#[]⟩,mkS 2 2 1 nmA,mkS 5 0 0 ⟨#[]⟩]:=blk_svs (ss:=[mkS 1 0 0 ⟨#[]⟩,mkS 2 2 1 nmA,mkS 5 0 0 ⟨#[]⟩]) (hW3▸Owb.new W2 _ 56) (by decide) (fun s hs=>by
  simp only [List.mem_cons,List.not_mem_nil,or_false] at hs
  rcases hs with rfl | rfl | rfl <;> exact mk_m _ _ _ _ _ _ (by decide))
 have hst:=svs_stps hsv (by decide)
 have kH:=house_any W3.heap.size _ _ _ [(nmA,2)] [] (some ⟨w.heap.size + 1,0,none⟩) 9 (List.replicate 9 0) alX W3 (Nat.le_refl _) hcol hrow (fun h=>by cases h) (fun ad ha j u hj=>by
  simp only [Option.some.injEq] at ha
  subst ha
  have e:(⟨w.heap.size + 1,0,none⟩:Addr).add j=⟨w.heap.size + 1,j,none⟩:=by unfold Addr.add; split <;> simp_all
  refine ⟨by simp only; omega,?_⟩
  rw [e]
  have h1:W2.cell? ⟨w.heap.size + 1,j,none⟩=some (.int .i64 u):=by
   rw [← hW2,World.cell?_alloc_at _ _ _ _ (by simp)]
   show (madeCells #[.int .i64 0] 9)[j]? = _
   have e:(madeCells #[.int .i64 0] 9)[j]? = (List.replicate 9 (Value.int .i64 0))[j]?:=by rw [← toList_madeCells_one,Array.getElem?_toList]
   rw [e]
   rw [List.getElem?_replicate] at hj ⊢
   split at hj
   ·rename_i c
    rw [if_pos c]
    simp only [Option.some.injEq] at hj
    rw [← hj]
   ·cases hj
  rw [← hW3]
  exact (Below.cell (ba _ _) (by simp only; omega)).trans h1) (fun x hx=>by have:=List.eq_of_mem_replicate hx; omega) (by decide) hst (by decide)
 have HB3:Hid (Below w.heap.size w W3):=hb3
 clear c0 c3 hcol hrow hsv hst hb2 hb3 hs2 hs3
 go_enter Tryz.func12,Tryz.ntmps12
 go_upto_region 1 with fail
 refine wp_region_lit ?_
 go_step
 go_step
 go_step
 go_step
 go_step
 go_step
 go_step
 go_step
 go_step
 go_step
 go_step
 go_step
 clear hW2
 refine wpList_built1 rfl 56 0 _ rfl _ rfl _ rfl _ bl1 ?_
 go_step
 go_step
 go_step
 refine wpList_built3 rfl 56 0 2 3 _ _ _ rfl _ rfl _ _ _ rfl rfl rfl _ bl2 ?_
 refine wpList_built1 rfl 56 0 _ rfl _ rfl _ rfl _ bl5 ?_
 refine wpList_build3 rfl 27 56 _ _ _ rfl W2.heap.size rfl _ rfl Tryz.underlying27 _ _ _ rfl rfl rfl _ (bls3 _ _ _) ?_
 rw [hW3]
 clear hW3
 go_wp2_with fail
 refine kH.mono ?_
 rintro x5 w' ⟨W0,bd,bw,a,c,hv,ov,s,os,M,G,rfl,hrun,hbel,HI⟩
 have hos:os.map (fun s=>s.ents.length)=[0,0,1]:=by have:=al_run; rw [show (runP [(nmA,2)] [] ⟨List.replicate 9 0,-1,false,false,[]⟩ alX)=(s,os) from hrun] at this; exact this
 obtain ⟨css,o1,o2,o3,o4⟩:=HI.out
 have hol:os.length=3:=by have:=congrArg List.length hos; simpa using this
 obtain ⟨y,hy⟩:∃ y,os[2]? = some y:=⟨_,List.getElem?_eq_getElem (by omega)⟩
 have hye:y.ents.length=1:=by
  have h2:(os.map (fun s=>s.ents.length))[2]? = some 1:=by rw [hos]; rfl
  rw [List.getElem?_map,hy] at h2
  simpa using h2
 obtain ⟨cs,g,cap,rfl,hg1,hg2,hrg,hsn⟩:=seen_row o1 o2 o4 hy
 obtain ⟨tv,ev,us,lu,ld,rfl,_,hev,_⟩:=hsn
 obtain ⟨ea,ec,rfl⟩:=K.P.row_slice hev
 rw [hye] at hrg
 have r5:=hrg 5 _ rfl
 rw [hol]
 have HB5:Hid (Below w.heap.size w w'):=bt HB3.out hbel
 clear hrun hos hy hye o1 o2 o3 o4 HI hev hbel kH hol
 go_wp2
 go_ret
 exact ⟨rfl,HB5.out⟩
end Go.Proofs.YtpmioeamdhdokaaGreat
namespace Go.Proofs.YtpmioeamdhdokaaGreat.K.P
open Go.RowKit Go.Proofs.YtpmioeamdhdokaaGreat.K.Ds
theorem enc_get {l:List En} {i:Nat} {x:En} (h:l[i]? = some x):(enc l)[i * 5]? = some (.int .i64 x.1)∧(enc l)[i * 5 + 1]? = some (.string x.2.1)∧(enc l)[i * 5 + 2]? = some (.int .i64 x.2.2.1)∧(enc l)[i * 5 + 3]? = some (.int .i64 x.2.2.2.1)∧(enc l)[i * 5 + 4]? = some (.int .i64 x.2.2.2.2):=by
 induction l generalizing i with
 | nil=>simp at h
 | cons y l ih =>
  cases i with
  | zero=>simp at h; subst h; simp [enc,encE]
  | succ i =>
   simp only [List.getElem?_cons_succ] at h
   have:=ih h
   have e:∀ k,(enc (y :: l))[(i + 1) * 5 + k]? = (enc l)[i * 5 + k]?:=fun k=>by
    have:enc (y :: l)=encE y ++ enc l:=by simp [enc]
    rw [this,List.getElem?_append_right (by simp [encE]; omega)]
    simp only [encE,List.length_cons,List.length_nil]
    congr 1; omega
   exact ⟨by rw [← this.1]; exact e 0,by rw [← this.2.1]; exact e 1,by rw [← this.2.2.1]; exact e 2,by rw [← this.2.2.2.1]; exact e 3,by rw [← this.2.2.2.2]; exact e 4⟩
theorem ents_of_row {w:World} {base:Nat} {v:Value} {dn:List En} (h:w.ownsRow base 59 5 v dn.length (enc dn)) (hl:dn.length≤9223372036854775807) (hn:∀ x∈dn,x.2.1.size≤9223372036854775807):Ents w w.heap.size v dn:=by
 obtain ⟨a,c,rfl⟩:=row_slice h
 refine ⟨a,c,rfl,?_,hl,hn,fun hne=>?_⟩
 ·rcases h.2 with ⟨h1,h0⟩ | ⟨g,cap,cur,h1,h2,h3,h4,_⟩
  ·omega
  ·simp only [Value.slice.injEq] at h1; omega
 ·obtain ⟨x0,l0,rfl⟩:∃ x l,dn=x :: l:=by cases dn; exact absurd rfl hne; exact ⟨_,_,rfl⟩
  obtain ⟨g,rfl,_,hcl⟩:=row_cell h (enc_get (i:=0) (x:=x0) rfl).1
  refine ⟨g,0,rfl,hcl.lt,fun i x hi=>?_⟩
  have hg:=enc_get hi
  have cell:∀ {j u},(enc (x0 :: l0))[j]? = some u→w.cell? ⟨g,j,none⟩=some u:=fun hj=>by
   obtain ⟨g',e,_,hc⟩:=row_cell h hj
   simp only [Option.some.injEq,Addr.mk.injEq] at e
   rw [e.1]; exact hc.c
  simp only [Nat.zero_add]
  exact ⟨cell hg.1,cell hg.2.1,cell hg.2.2.1,cell hg.2.2.2.1,cell hg.2.2.2.2⟩
end Go.Proofs.YtpmioeamdhdokaaGreat.K.P
