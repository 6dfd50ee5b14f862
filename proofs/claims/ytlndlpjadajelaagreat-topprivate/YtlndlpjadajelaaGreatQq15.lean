import Derived.Test.YtlndlpjadajelaaGreatQq14
import Derived.Test.YtlndlpjadajelaaGreatQq12
import Derived.Test.YtlndlpjadajelaaGreatQq05
import Derived.Test.YtlndlpjadajelaaGreatQq07
import Derived.Deep.AppendLies
import Derived.Deep.DeepCutAuto
import Derived.Deep.CutRange
namespace Go.Proofs.YtlndlpjadajelaaGreat
open Go.RowKit Go.Proofs.YtlndlpjadajelaaGreat.Ds
def sumW (f:List Int→Int):List Pt→Int
 | []=>0
 | p :: l=>p.2 * f p.1 + sumW f l
theorem spr_is (N:List Int→List Pt) (A:Int) (l:List Pt) (o:List Int):wt (spr N A l) o=sumW (fun x=>A / tot (N x) * wt (N x) o) l:=by
 induction l with
 | nil=>rfl
 | cons p l ih =>
  rw [spr_cons,wt_append,one_wt,ih,sumW]
  have:wt (N p.1) o * (p.2 * (A / tot (N p.1)))=p.2 * (A / tot (N p.1) * wt (N p.1) o):=by ac_rfl
  rw [this]
theorem allT_ok {thn:List Int→List Pt × Int} {l:List Pt} {A A':Int} (h:allT thn A l=(A',0)) (hA:1≤A) (hd:∀ p∈l,(thn p.1).2=0→Dis (thn p.1).1):A ∣ A'∧1≤A'∧∀ p∈l,(thn p.1).2=0∧tot (thn p.1).1 ∣ A':=by
 induction l generalizing A with
 | nil=>simp [allT] at h; subst h; exact ⟨Int.dvd_refl _,hA,fun p hp=>by cases hp⟩
 | cons p l ih =>
  rw [allT] at h
  split at h
  ·rename_i h0
   split at h
   ·simp at h
   ·have hn:=hd p (by simp) h0
    have tn:=tot_pos2 hn.pos hn.ne
    obtain ⟨n,hnn⟩:∃ n,(thn p.1).1=n:=⟨_,rfl⟩
    rw [hnn] at h hn tn
    have hgd:(Int.gcd A (tot n):Int) ∣ tot n:=Int.gcd_dvd_right _ _
    have hgA:(Int.gcd A (tot n):Int) ∣ A:=Int.gcd_dvd_left _ _
    have hgp:0 < (Int.gcd A (tot n):Int):=by
     have:0 < Int.gcd A (tot n):=Int.gcd_pos_of_ne_zero_left _ (by omega)
     omega
    have hg0:0 < tot n / (Int.gcd A (tot n):Int):=Int.ediv_pos_of_pos_of_dvd tn (by omega) hgd
    obtain ⟨i1,i2,i3⟩:=ih h (Int.mul_pos (by omega) hg0) fun q hq=>hd q (by simp [hq])
    have hdn:tot n ∣ A * (tot n / (Int.gcd A (tot n):Int)):=by
     obtain ⟨c,hc⟩:=hgA
     refine ⟨c,?_⟩
     have e2:(Int.gcd A (tot n):Int) * (tot n / (Int.gcd A (tot n):Int))=tot n:=Int.mul_ediv_cancel' hgd
     have e3:A * (tot n / (Int.gcd A (tot n):Int))=(Int.gcd A (tot n):Int) * c * (tot n / (Int.gcd A (tot n):Int)):=congrArg (· * (tot n / (Int.gcd A (tot n):Int))) hc
     rw [e3,Int.mul_right_comm,e2]
    refine ⟨Int.dvd_trans (Int.dvd_mul_right _ _) i1,i2,fun q hq=>?_⟩
    rcases List.mem_cons.1 hq with rfl | hq
    ·exact ⟨h0,by rw [hnn]; exact Int.dvd_trans hdn i1⟩
    ·exact i3 q hq
  ·rename_i h0
   simp only [Prod.mk.injEq] at h
   exact absurd h.2 h0
theorem low_told {k l':List Pt} (hn:Nn k) (hok:∀ o,0 < wt k o→okO o=true) (h:lowT (gath k)=(l',0)):Dis l'∧∃ g:Int,0 < g∧(∀ o,wt k o=g * wt l' o)∧tot k=g * tot l':=by
 have hp:=gath_pos hn
 obtain ⟨a,b,c,d,e,f⟩:=lowT_ok hp (gath_rise k) h
 have hne:gath k≠[]:=by intro h0; rw [h0] at h; simp [lowT] at h
 have hl:l' = cut (dv (gath k)) (gath k):=by
  unfold lowT at h
  rw [if_neg hne] at h
  split at h
  ·simp at h
  ·simp at h; exact h.symm
 have hg:grow (dv (gath k)) l' = gath k:=by rw [hl]; exact cut_back fun p hp=>dv_dvd_int hp
 have hd:=dv_pos hp hne
 have hw:∀ o,wt k o=(dv (gath k):Int) * wt l' o:=fun o=>by rw [← grow_wt,hg,gath_wt]
 refine ⟨⟨a,b,c,d,?_,e,f⟩,dv (gath k),by omega,hw,by rw [← grow_tot,hg,gath_tot]⟩
 rw [List.all_eq_true]
 intro p hpm
 have h1:0 < wt k p.1:=by rw [hw]; exact Int.mul_pos (by omega) (mem_wt_pos a b hpm)
 have h3:=Pos.le_tot (Nn.of_pos b) hpm
 have h4:=b p hpm
 unfold okP
 rw [Bool.and_eq_true]
 exact ⟨by simp; omega,hok _ h1⟩
theorem Dis.okO {l:List Pt} (h:Dis l) {p:Pt} (hp:p∈l):okO p.1=true:=by
 have:=List.all_eq_true.1 h.ok p hp
 unfold okP at this
 rw [Bool.and_eq_true] at this
 exact this.2
theorem make_ok {L:List Pt} (ho:L.all okP=true) (h0:0 < tot L) (h1:tot L≤1073741824) (hl:L.length≤4096):∃ l,makeT L=(l,0):=by
 have hne:gath L≠[]:=by
  intro h
  have:=gath_tot L
  rw [h] at this
  simp [tot] at this
  omega
 have hp:=gath_pos (all_okP ho).1
 have hd:=dv_pos hp hne
 refine ⟨cut (dv (gath L)) (gath L),?_⟩
 unfold makeT lowT
 rw [if_pos ho,if_neg hne,if_neg]
 have h2:=gath_length L
 have h3:tot (cut (dv (gath L)) (gath L))≤tot L:=by
  rw [cut_tot (fun p hp=>dv_dvd_int hp),gath_tot]
  exact Int.ediv_le_self _ (by omega)
 omega
theorem rise_one (f:Nat→Int) (g:Nat→Int) (hf:∀ i j,i < j→f i < f j) (n:Nat):Rise ((List.range n).map fun (i:Nat)=>(([f i],g i):Pt)):=by
 unfold Rise
 rw [List.pairwise_map]
 refine List.Pairwise.imp ?_ List.pairwise_lt_range
 intro i j hij
 have:=hf i j hij
 simp [ltL,cmpT,this]
theorem wt_one {f g:Nat→Int} (hf:∀ i j,i < j→f i < f j) {n i:Nat} (hi:i < n):wt ((List.range n).map fun (i:Nat)=>(([f i],g i):Pt)) [f i]=g i:=by
 have hm:(([f i],g i):Pt)∈(List.range n).map fun (i:Nat)=>(([f i],g i):Pt):=List.mem_map.2 ⟨i,List.mem_range.2 hi,rfl⟩
 exact wt_mem (rise_one f g hf n) hm
theorem wt_one_pos {f g:Nat→Int} {n:Nat} {o:List Int} (h:0 < wt ((List.range n).map fun (i:Nat)=>(([f i],g i):Pt)) o):∃ i,i < n∧o=[f i]:=by
 obtain ⟨p,hp,rfl⟩:=wt_pos_mem h
 obtain ⟨i,hi,rfl⟩:=List.mem_map.1 hp
 exact ⟨i,List.mem_range.1 hi,rfl⟩
theorem okP_one {z k:Int} (h1:-1073741824≤z) (h2:z≤1073741824) (h3:0≤k) (h4:k≤1073741824):okP ([z],k)=true:=by
 simp [okP,okO,okN,h1,h2,h3,h4]
theorem hid_okP {u d lo:Int} {R a:Nat} (hR1:1≤R) (ha:a≤R) (hd:1≤d) (hdu:d≤u) (hm:(u + d) * u ^ R≤1073741824) (hlo:-1073741824≤lo) (hhi:lo + (R:Int)≤1073741824):(hidL u d lo R a).all okP=true:=by
 rw [List.all_eq_true]
 intro p hp
 obtain ⟨i,hi,rfl⟩:=List.mem_map.1 hp
 have:=List.mem_range.1 hi
 exact okP_one (by omega) (by omega) (hwt_nn hd hdu R a i) (Int.le_trans (hwt_le hd hdu ha hR1 (by omega)) hm)
theorem hid_make {u d lo:Int} {R a:Nat} (hR1:1≤R) (hR:R≤64) (ha:a≤R) (hd:1≤d) (hdu:d≤u) (hm:(u + d) * u ^ R≤1073741824) (hlo:-1073741824≤lo) (hhi:lo + (R:Int)≤1073741824):∃ l,makeT (hidL u d lo R a)=(l,0):=by
 refine make_ok (hid_okP hR1 ha hd hdu hm hlo hhi) ?_ ?_ (by simp [hidL]; omega)
 ·rw [hid_tot ha hR1]
  exact Int.mul_pos (by omega) (by have:=pow_pos' (show 1≤u by omega) R; omega)
 ·rw [hid_tot ha hR1]; exact hm
theorem hid_wt {u d lo:Int} {R a i:Nat} (hi:i≤R):wt (hidL u d lo R a) [lo + (i:Int)]=hwt u d R a i :=
 wt_one (f:=fun i=>lo + (i:Int)) (g:=hwt u d R a) (fun i j h=>by omega) (by omega)
theorem hwt_pos {u d:Int} (hd:1≤d) (h:d < u) (R a i:Nat):0 < hwt u d R a i:=by
 unfold hwt
 refine Int.mul_pos (gk_pos (by omega) (by omega) _ _) ?_
 split <;> omega
theorem hid_far {u d lo:Int} {R a b f:Nat} {l m:List Pt} (hR1:1≤R) (ha:a≤R) (hb:b≤R) (hd:1≤d) (hdu:d < u) (hrt:Rt.rightB u d=true) (hm:(u + d) * u ^ R≤1073741824)
  (h1:makeT (hidL u d lo R a)=(l,0)) (h2:makeT (hidL u d lo R b)=(m,0)) (hf:f=a - b + (b - a)):farT l m=(u ^ f,d ^ f,0):=by
 have hu1:1≤u:=by omega
 have hT:0 < (u + d) * u ^ R:=Int.mul_pos (by omega) (by have:=pow_pos' hu1 R; omega)
 have t1:=hid_tot (u:=u) (d:=d) (lo:=lo) ha hR1
 have t2:=hid_tot (u:=u) (d:=d) (lo:=lo) hb hR1
 have hfR:u ^ f≤1073741824:=by
  have e1:=pow_mono hu1 (show f≤R by omega)
  have e2:=Int.mul_le_mul_of_nonneg_right (show 1≤u + d by omega) (show 0≤u ^ R from pow_nn (by omega) _)
  omega
 have hp:0 < u ^ f:=by have:=pow_pos' hu1 f; omega
 have hr:Rt.rightB (u ^ f) (d ^ f)=true:=by
  obtain ⟨x,rfl⟩:=Int.eq_ofNat_of_zero_le (show 0≤u by omega)
  obtain ⟨y,rfl⟩:=Int.eq_ofNat_of_zero_le (show 0≤d by omega)
  have hg:=(Rt.right_nat x y).1 hrt
  have hy:=pow_le (show (0:Int)≤(y:Int) by omega) (show (y:Int)≤(x:Int) by omega) f
  rw [← Int.natCast_pow,← Int.natCast_pow] at *
  refine (Rt.right_nat _ _).2 ⟨by omega,Nat.pow_pos hg.2.1,by omega,Nat.Coprime.pow f f hg.2.2.2⟩
 have hs:Sup (hidL u d lo R a) (hidL u d lo R b):=by
  intro o
  constructor
  ·intro h
   obtain ⟨i,hi,rfl⟩:=wt_one_pos (f:=fun i=>lo + (i:Int)) (g:=hwt u d R a) h
   show 0 < wt _ [lo + (i:Int)]
   rw [hid_wt (by omega)]; exact hwt_pos hd hdu _ _ _
  ·intro h
   obtain ⟨i,hi,rfl⟩:=wt_one_pos (f:=fun i=>lo + (i:Int)) (g:=hwt u d R b) h
   show 0 < wt _ [lo + (i:Int)]
   rw [hid_wt (by omega)]; exact hwt_pos hd hdu _ _ _
 have key:∀ (i x y:Nat),i≤R→x≤R→y≤R→(y - i + (i - y))≤(x - i + (i - x)) + f→hwt u d R x i * ((u + d) * u ^ R) * d ^ f≤u ^ f * (hwt u d R y i * ((u + d) * u ^ R)):=by
  intro i x y hi hx hy hxy
  have e1:=gk_bd hd (Int.le_of_lt hdu) (R:=R) (k:=i - x + (x - i)) (k':=i - y + (y - i)) (f:=f) (by omega) (by omega) (by omega)
  unfold hwt
  have hc:0≤(if i=0∨i=R then u else u - d):=by split <;> omega
  generalize (if i=0∨i=R then u else u - d)=c at *
  have e2:=Int.mul_le_mul_of_nonneg_right e1 (Int.mul_nonneg hc (Int.le_of_lt hT))
  calc gk u d R (i - x + (x - i)) * c * ((u + d) * u ^ R) * d ^ f=gk u d R (i - x + (x - i)) * d ^ f * (c * ((u + d) * u ^ R)):=by rw [Int.mul_right_comm,Int.mul_right_comm _ c,Int.mul_assoc]
   _≤u ^ f * gk u d R (i - y + (y - i)) * (c * ((u + d) * u ^ R)):=e2
   _=u ^ f * (gk u d R (i - y + (y - i)) * c * ((u + d) * u ^ R)):=by simp only [Int.mul_assoc]
 refine far_make h1 h2 hs ⟨pow_le (by omega) (Int.le_of_lt hdu) f,?_⟩ hp hr [lo + (a:Int)] (by rw [hid_wt ha]; exact hwt_pos hd hdu _ _ _) ?_
 ·intro o ho
  obtain ⟨i,hi,rfl⟩:=wt_one_pos (f:=fun i=>lo + (i:Int)) (g:=hwt u d R a) ho
  show wt _ [lo + (i:Int)] * _ * _≤_ * (wt _ [lo + (i:Int)] * _)∧wt _ [lo + (i:Int)] * _ * _≤_ * (wt _ [lo + (i:Int)] * _)
  rw [hid_wt (by omega),hid_wt (by omega),t1,t2]
  exact ⟨key i a b (by omega) ha hb (by omega),key i b a (by omega) hb ha (by omega)⟩
 ·rw [hid_wt ha,hid_wt ha,t1,t2]
  have e1:=gk_far u d (R:=R) (k:=0) f (by omega)
  unfold hwt
  rw [show a - a + (a - a)=0 by omega,show a - b + (b - a)=0 + f by omega]
  generalize (if a=0∨a=R then u else u - d)=c at *
  calc gk u d R 0 * c * ((u + d) * u ^ R) * d ^ f=d ^ f * gk u d R 0 * (c * ((u + d) * u ^ R)):=by rw [Int.mul_right_comm,Int.mul_right_comm _ c,Int.mul_assoc,Int.mul_comm (d ^ f)]
   _=u ^ f * gk u d R (0 + f) * (c * ((u + d) * u ^ R)):=by rw [e1]
   _=u ^ f * (gk u d R (0 + f) * c * ((u + d) * u ^ R)):=by simp only [Int.mul_assoc]
theorem hid_same {u lo:Int} (h:Rt.rightB u u=true) (hu:1≤u) {R a b:Nat}:hidL u u lo R a=hidL u u lo R b:=by
 have e:u=1:=by
  obtain ⟨x,rfl⟩:=Int.eq_ofNat_of_zero_le (show 0≤u by omega)
  have:=((Rt.right_nat x x).1 h).2.2.2
  rw [Nat.gcd_self] at this
  omega
 subst e
 unfold hidL hwt gk
 simp [Int.one_pow]
theorem hide_two {u d lo hi m n:Int} {l:List Pt} (h:hideT u d lo hi m=(l,0)) :
  ∃ l',hideT u d lo hi n=(l',0)∧lossE u d=0∧(u=d∨lo=hi→l=l') ∧
   (¬ u=d→¬ lo=hi→∃ f:Nat,(f:Int)=max (plcT lo hi m - plcT lo hi n) (plcT lo hi n - plcT lo hi m)∧Rt.powT u d f=(u ^ f,d ^ f,0)∧farT l l' = (u ^ f,d ^ f,0)):=by
 unfold hideT at *
 by_cases c0:lossE u d=0
 ·obtain ⟨hrt,hdu,hd1,hu1⟩:=loss_ok c0
  rw [if_neg (by simpa using c0)] at *
  by_cases c1:-1073741824≤lo∧lo≤hi∧hi≤1073741824∧hi - lo≤64
  ·rw [if_neg (by simp; omega)] at *
   by_cases c2:lo=hi
   ·rw [if_pos c2] at *
    exact ⟨l,h,c0,fun _=>rfl,fun _ k=>absurd c2 k⟩
   ·rw [if_neg c2] at *
    by_cases c3:1073741824 < (u + d) * u ^ (hi - lo).toNat
    ·rw [if_pos c3] at h; simp at h
    ·rw [if_neg c3] at *
     have hA:(plcT lo hi m - lo).toNat≤(hi - lo).toNat:=by unfold plcT; omega
     have hB:(plcT lo hi n - lo).toNat≤(hi - lo).toNat:=by unfold plcT; omega
     obtain ⟨l',hl'⟩:=hid_make (u:=u) (d:=d) (lo:=lo) (R:=(hi - lo).toNat) (a:=(plcT lo hi n - lo).toNat) (by omega) (by omega) hB hd1 hdu (by omega) c1.1 (by omega)
     refine ⟨l',hl',c0,?_,?_⟩
     ·intro hc
      rcases hc with rfl | hc
      ·rw [hid_same hrt hd1 (b:=(plcT lo hi n - lo).toNat),hl'] at h
       simpa using h.symm
      ·exact absurd hc c2
     ·intro hne _
      have p1:lo≤plcT lo hi m:=by unfold plcT; omega
      have p2:lo≤plcT lo hi n:=by unfold plcT; omega
      refine ⟨(plcT lo hi m - lo).toNat - (plcT lo hi n - lo).toNat + ((plcT lo hi n - lo).toNat - (plcT lo hi m - lo).toNat),by omega,?_,hid_far (by omega) hA hB hd1 (by omega) hrt (by omega) h hl' rfl⟩
      generalize hf:(plcT lo hi m - lo).toNat - (plcT lo hi n - lo).toNat + ((plcT lo hi n - lo).toNat - (plcT lo hi m - lo).toNat)=f
      have hfR:f≤(hi - lo).toNat:=by omega
      have e1:=pow_mono (show 1≤u by omega) hfR
      have e2:=Int.mul_le_mul_of_nonneg_right (show 1≤u + d by omega) (show 0≤u ^ (hi - lo).toNat from pow_nn (by omega) _)
      have e3:=pow_le (show 0≤d by omega) hdu f
      unfold Rt.powT Rt.mx
      rw [if_pos hrt,if_neg (by omega),Int.toNat_natCast,if_neg (by omega)]
  ·rw [if_pos c1] at h; simp at h
 ·rw [if_pos c0] at h
  simp at h
  exact absurd h.2 c0
theorem int_q {a b:Int}:(a:Rat)≤(b:Rat)↔a≤b:=Rat.intCast_le_intCast
theorem int_q0 {a:Int} (h:0 < a):(0:Rat) < (a:Rat):=by
 have:=Rat.intCast_lt_intCast.2 h
 simpa using this
theorem int_qn {a:Int} (h:0≤a):(0:Rat)≤(a:Rat):=by
 have:=Rat.intCast_le_intCast.2 h
 simpa using this
def chR (l:List Pt) (o:List Int):Rat:=(wt l o:Rat) / (tot l:Rat)
theorem chR_mul {l:List Pt} (h:Dis l) (o:List Int):chR l o * (tot l:Rat)=(wt l o:Rat):=by
 have:=int_q0 (tot_pos2 h.pos h.ne)
 exact Rat.div_mul_cancel (by grind)
theorem chR_nn {l:List Pt} (h:Dis l) (o:List Int):0≤chR l o:=by
 have h1:=int_q0 (tot_pos2 h.pos h.ne)
 have h2:=int_qn ((Nn.of_pos h.pos).wt_le o).1
 have h3:=chR_mul h o
 rcases Rat.le_total (a:=0) (b:=chR l o) with c | c
 ·exact c
 ·have:=Rat.mul_le_mul_of_nonneg_right c (Rat.le_of_lt h1)
  rw [h3,Rat.zero_mul] at this
  have e:(wt l o:Rat)=0:=Rat.le_antisymm this h2
  rw [e] at h3
  rcases Rat.mul_eq_zero.1 h3 with h | h
  ·rw [h]; exact Rat.le_refl
  ·grind
def smQ (f:List Int→Rat):List Pt→Rat
 | []=>0
 | p :: l=>(p.2:Rat) * f p.1 + smQ f l
theorem ch_told {thn:List Int→List Pt × Int} {l l':List Pt} (hl:Dis l) (hd:∀ p∈l,(thn p.1).2=0→Dis (thn p.1).1) (h:chT thn l=(l',0)):Dis l'∧(∀ p∈l,(thn p.1).2=0)∧∀ o,chR l' o * (tot l:Rat)=smQ (fun x=>chR (thn x).1 o) l:=by
 unfold chT at h
 split at h
 ·rename_i h1
  split at h
  ·simp at h
  ·obtain ⟨A,hA⟩:∃ A,(allT thn 1 l).1=A:=⟨_,rfl⟩
   rw [hA] at h
   obtain ⟨_,a2,a3⟩:=allT_ok (thn:=thn) (A':=A) (Prod.ext hA h1) (by omega) hd
   have hF:∀ p∈l,Dis (thn p.1).1:=fun p hp=>hd p hp (a3 p hp).1
   have hsn:Nn (spr (fun x=>(thn x).1) A l):=spr_nn _ _ (Nn.of_pos hl.pos) (fun p hp=>Nn.of_pos (hF p hp).pos) (by omega)
   have hok:∀ o,0 < wt (spr (fun x=>(thn x).1) A l) o→okO o=true:=by
    intro o ho
    obtain ⟨q,hq,rfl⟩:=wt_pos_mem ho
    obtain ⟨p,hp,hq⟩:=List.mem_flatMap.1 hq
    obtain ⟨r,hr,rfl⟩:=List.mem_map.1 hq
    show Ds.okO r.1=true
    exact (hF p hp).okO hr
   obtain ⟨d',g,hg,hw,ht⟩:=low_told hsn hok h
   refine ⟨d',fun p hp=>(a3 p hp).1,fun o=>?_⟩
   have e1:(g:Rat) * (wt l' o:Rat)=(A:Rat) * smQ (fun x=>chR (thn x).1 o) l:=by
    rw [← Rat.intCast_mul,← hw,spr_is]
    have key:∀ m:List Pt,(∀ p∈m,Dis (thn p.1).1∧tot (thn p.1).1 ∣ A)→((sumW (fun x=>A / tot (thn x).1 * wt (thn x).1 o) m:Int):Rat)=(A:Rat) * smQ (fun x=>chR (thn x).1 o) m:=by
     intro m
     induction m with
     | nil=>intro _; simp [sumW,smQ,Rat.mul_zero]
     | cons p m ih =>
      intro hm
      obtain ⟨hdp,hv⟩:=hm p (by simp)
      rw [sumW,smQ,Rat.intCast_add,ih fun q hq=>hm q (by simp [hq]),Rat.intCast_mul,Rat.intCast_mul]
      have t0:=int_q0 (tot_pos2 hdp.pos hdp.ne)
      have e2:((A / tot (thn p.1).1:Int):Rat) * (tot (thn p.1).1:Rat)=(A:Rat):=by
       rw [← Rat.intCast_mul,Int.ediv_mul_cancel hv]
      have e3:=chR_mul hdp o
      rw [← e3]
      grind
    exact key l fun p hp=>⟨hF p hp,(a3 p hp).2⟩
   have e2:(g:Rat) * (tot l':Rat)=(A:Rat) * (tot l:Rat):=by
    rw [← Rat.intCast_mul,← ht,spr_tot (fun x=>(thn x).1) A fun p hp=>(a3 p hp).2,Rat.intCast_mul]
   have t1:=int_q0 (tot_pos2 d'.pos d'.ne)
   have gq:=int_q0 hg
   have aq:(0:Rat) < (A:Rat):=int_q0 (by omega)
   have e3:=chR_mul d' o
   rw [← e3] at e1
   have e4:(A:Rat) * (chR l' o * (tot l:Rat))=(A:Rat) * smQ (fun x=>chR (thn x).1 o) l:=by
    rw [← e1]
    have:(A:Rat) * (chR l' o * (tot l:Rat))=chR l' o * ((A:Rat) * (tot l:Rat)):=by grind
    rw [this,← e2]
    grind
   have e5:(A:Rat) * (chR l' o * (tot l:Rat) - smQ (fun x=>chR (thn x).1 o) l)=0:=by grind
   rcases Rat.mul_eq_zero.1 e5 with h | h <;> grind
 ·rename_i h1
  simp only [Prod.mk.injEq] at h
  exact absurd h.2 h1
theorem q_eq (q:Rat):q=(q.num:Rat) / ((q.den:Int):Rat):=by
 rw [← Rat.divInt_eq_div]
 exact (Rat.num_divInt_den q).symm
theorem q_mul (q:Rat):q * ((q.den:Int):Rat)=(q.num:Rat):=by
 have h:(0:Rat) < ((q.den:Int):Rat):=int_q0 (by have:=q.den_pos; omega)
 rw [show q * ((q.den:Int):Rat)=(q.num:Rat) / ((q.den:Int):Rat) * ((q.den:Int):Rat) by rw [← q_eq q]]
 exact Rat.div_mul_cancel (by grind)
theorem bd_rat {l m:List Pt} (hl:Dis l) (hm:Dis m) (hs:Sup l m) {U D:Int} (h:Bd l m U D) (o:List Int):chR l o * (D:Rat)≤(U:Rat) * chR m o∧chR m o * (D:Rat)≤(U:Rat) * chR l o:=by
 have tl:=int_q0 (tot_pos2 hl.pos hl.ne)
 have tm:=int_q0 (tot_pos2 hm.pos hm.ne)
 have el:=chR_mul hl o
 have em:=chR_mul hm o
 have tt:=Rat.mul_pos tl tm
 by_cases c:0 < wt l o
 ·obtain ⟨h1,h2⟩:=h.2 o c
  have g1:=int_q.2 h1
  have g2:=int_q.2 h2
  simp only [Rat.intCast_mul] at g1 g2
  rw [← el,← em] at g1 g2
  constructor
  ·refine Rat.le_of_mul_le_mul_left (c:=(tot l:Rat) * (tot m:Rat)) ?_ tt
   grind
  ·refine Rat.le_of_mul_le_mul_left (c:=(tot l:Rat) * (tot m:Rat)) ?_ tt
   grind
 ·have z1:wt l o=0:=by have:=((Nn.of_pos hl.pos).wt_le o).1; omega
  have z2:wt m o=0:=by
   have:=((Nn.of_pos hm.pos).wt_le o).1
   have:¬ 0 < wt m o:=fun h=>c ((hs o).2 h)
   omega
  have y1:chR l o=0:=by
   rw [z1] at el
   rcases Rat.mul_eq_zero.1 el with h | h
   ·exact h
   ·grind
  have y2:chR m o=0:=by
   rw [z2] at em
   rcases Rat.mul_eq_zero.1 em with h | h
   ·exact h
   ·grind
  rw [y1,y2]
  constructor <;> grind
theorem div_le' {a b U D c:Rat} (hD:0 < D) (hc:c * D=U) (h:a * D≤U * b):a≤c * b:=by
 refine Rat.le_of_mul_le_mul_left (c:=D) ?_ hD
 rw [← hc] at h
 have e:c * D * b=D * (c * b):=by grind
 rw [e,Rat.mul_comm] at h
 exact h
theorem far_of_rat {x y:List Pt} (hx:Dis x) (hy:Dis y) {M:Rat} (hM1:1≤M) (h:∀ o,0≤chR x o∧chR y o≤M * chR x o∧chR x o≤M * chR y o) {a b e:Int} (hf:farT x y=(a,b,e)):(e=0∨e=4)∧(e=0→a * (M.den:Int)≤M.num * b):=by
 have tx:=int_q0 (tot_pos2 hx.pos hx.ne)
 have ty:=int_q0 (tot_pos2 hy.pos hy.ne)
 have pos:∀ {z:List Pt},Dis z→∀ o,(0 < wt z o↔0 < chR z o):=fun {z} hz o=>by
  have tz:=int_q0 (tot_pos2 hz.pos hz.ne)
  have ez:=chR_mul hz o
  constructor
  ·intro h0
   have h1:=int_q0 h0
   have h2:=chR_nn hz o
   rcases Rat.le_iff_lt_or_eq.1 h2 with h3 | h3
   ·exact h3
   ·rw [← h3,Rat.zero_mul] at ez
    grind
  ·intro h0
   have h1:=Rat.mul_pos h0 tz
   rw [ez] at h1
   have:=Rat.intCast_lt_intCast.1 (show ((0:Int):Rat) < (wt z o:Rat) by simpa using h1)
   exact this
 have M0:0 < M:=by grind
 have sup:Sup x y:=fun o=>by
  rw [pos hx,pos hy]
  obtain ⟨h1,h2,h3⟩:=h o
  have hyn:=chR_nn hy o
  constructor
  ·intro h0
   rcases Rat.le_iff_lt_or_eq.1 hyn with h4 | h4
   ·exact h4
   ·rw [← h4,Rat.mul_zero] at h3
    grind
  ·intro h0
   rcases Rat.le_iff_lt_or_eq.1 h1 with h4 | h4
   ·exact h4
   ·rw [← h4,Rat.mul_zero] at h2
    grind
 have two:twoE x y=0:=by unfold twoE; rw [hx.own,hy.own]; rfl
 have dm:(0:Rat) < ((M.den:Int):Rat):=int_q0 (by have:=M.den_pos; omega)
 have em:=q_mul M
 have bd:Bd x y M.num (M.den:Int):=by
  refine ⟨?_,fun o _=>?_⟩
  ·have:((M.den:Int):Rat)≤(M.num:Rat):=by
    rw [← em]
    have:=Rat.mul_le_mul_of_nonneg_right hM1 (Rat.le_of_lt dm)
    grind
   exact int_q.1 this
  ·obtain ⟨h1,h2,h3⟩:=h o
   have ex:=chR_mul hx o
   have ey:=chR_mul hy o
   have k:(0:Rat)≤(tot x:Rat) * (tot y:Rat) * ((M.den:Int):Rat):=Rat.mul_nonneg (Rat.mul_nonneg (Rat.le_of_lt tx) (Rat.le_of_lt ty)) (Rat.le_of_lt dm)
   have k2:=Rat.mul_le_mul_of_nonneg_left h2 k
   have k3:=Rat.mul_le_mul_of_nonneg_left h3 k
   constructor
   ·refine int_q.1 ?_
    simp only [Rat.intCast_mul]
    rw [← ex,← ey,← em]
    grind
   ·refine int_q.1 ?_
    simp only [Rat.intCast_mul]
    rw [← ex,← ey,← em]
    grind
 have hn:0 < M.num:=by
  have:=Rat.mul_pos M0 dm
  rw [em] at this
  exact Rat.intCast_lt_intCast.1 (show ((0:Int):Rat) < (M.num:Rat) by simpa using this)
 refine ⟨?_,fun he=>?_⟩
 ·rcases far_is hx hy two with ⟨h0,_⟩ | ⟨_,U,D,hU,hD,h1,_⟩
  ·exact absurd sup h0
  ·rw [h1] at hf
   rcases mkT_err (Int.le_of_lt hU) hD hf with h2 | ⟨h2,_⟩
   ·exact .inl h2
   ·exact .inr h2
 ·subst he
  obtain ⟨_,_,_,_,_,_,_,hmin⟩:=far_told hf
  exact hmin _ _ hn (by have:=M.den_pos; omega) bd
structure Rb (M:Rat) (x y:List Pt):Prop where
 dx:Dis x
 dy:Dis y
 one:1≤M
 le:∀ o,chR y o≤M * chR x o∧chR x o≤M * chR y o
theorem Rb.same {x:List Pt} (h:Dis x):Rb 1 x x:=⟨h,h,Rat.le_refl,fun o=>by rw [Rat.one_mul]; exact ⟨Rat.le_refl,Rat.le_refl⟩⟩
theorem Rb.up {M L:Rat} {x y:List Pt} (h:Rb M x y) (hl:M≤L):Rb L x y:=by
 refine ⟨h.dx,h.dy,Rat.le_trans h.one hl,fun o=>?_⟩
 have a:=h.le o
 have b1:=Rat.mul_le_mul_of_nonneg_right hl (chR_nn h.dx o)
 have b2:=Rat.mul_le_mul_of_nonneg_right hl (chR_nn h.dy o)
 exact ⟨Rat.le_trans a.1 b1,Rat.le_trans a.2 b2⟩
theorem chR_pos {z:List Pt} (hz:Dis z) (o:List Int):0 < wt z o↔0 < chR z o:=by
 have tz:=int_q0 (tot_pos2 hz.pos hz.ne)
 have ez:=chR_mul hz o
 constructor
 ·intro h0
  have h1:=int_q0 h0
  rcases Rat.le_iff_lt_or_eq.1 (chR_nn hz o) with h3 | h3
  ·exact h3
  ·rw [← h3,Rat.zero_mul] at ez
   grind
 ·intro h0
  have h1:=Rat.mul_pos h0 tz
  rw [ez] at h1
  exact Rat.intCast_lt_intCast.1 (show ((0:Int):Rat) < (wt z o:Rat) by simpa using h1)
theorem Rb.sup {M:Rat} {x y:List Pt} (h:Rb M x y):Sup x y:=fun o=>by
 rw [chR_pos h.dx,chR_pos h.dy]
 obtain ⟨h2,h3⟩:=h.le o
 have hxn:=chR_nn h.dx o
 have hyn:=chR_nn h.dy o
 constructor
 ·intro h0
  rcases Rat.le_iff_lt_or_eq.1 hyn with h4 | h4
  ·exact h4
  ·rw [← h4,Rat.mul_zero] at h3
   grind
 ·intro h0
  rcases Rat.le_iff_lt_or_eq.1 hxn with h4 | h4
  ·exact h4
  ·rw [← h4,Rat.mul_zero] at h2
   grind
theorem outs_eq {l m:List Pt} (hl:Dis l) (hm:Dis m) (hs:Sup l m):l.map (·.1)=m.map (·.1):=by
 have key:∀ {l m:List Pt},Dis l→Dis m→Sup l m→∀ o,wt (l.map fun p=>(p.1,(1:Int))) o≤wt (m.map fun p=>(p.1,(1:Int))) o:=by
  intro l m hl hm hs o
  have w1:∀ {k:List Pt},Dis k→wt (k.map fun p=>(p.1,(1:Int))) o=if 0 < wt k o then 1 else 0:=by
   intro k hk
   by_cases c:0 < wt k o
   ·obtain ⟨p,hp,rfl⟩:=wt_pos_mem c
    rw [if_pos c]
    have hr:Rise (k.map fun p=>(p.1,(1:Int))):=by
     unfold Rise
     rw [List.pairwise_map]
     exact hk.rise
    exact wt_mem hr (p:=(p.1,1)) (List.mem_map.2 ⟨p,hp,rfl⟩)
   ·rw [if_neg c]
    refine wt_none fun p hp=>?_
    obtain ⟨q,hq,rfl⟩:=List.mem_map.1 hp
    intro h0
    simp only at h0
    rw [← h0] at c
    exact c (mem_wt_pos hk.rise hk.pos hq)
  rw [w1 hl,w1 hm]
  have:=hs o
  split <;> split <;> simp_all
 have h1:(l.map fun p=>(p.1,(1:Int)))=m.map fun p=>(p.1,(1:Int)):=by
  have hr:∀ {k:List Pt},Dis k→Rise (k.map fun p=>(p.1,(1:Int))):=by
   intro k hk
   unfold Rise
   rw [List.pairwise_map]
   exact hk.rise
  have hp:∀ {k:List Pt},Pos (k.map fun p=>(p.1,(1:Int))):=by
   intro k q hq
   obtain ⟨_,_,rfl⟩:=List.mem_map.1 hq
   exact (by decide:(0:Int) < 1)
  exact rise_uniq (hr hl) hp (hr hm) hp fun o=>Int.le_antisymm (key hl hm hs o) (key hm hl (fun o=>(hs o).symm) o)
 have h2:=congrArg (List.map (·.1)) h1
 rw [List.map_map,List.map_map] at h2
 exact h2
def smC (c f:List Int→Rat):List (List Int)→Rat
 | []=>0
 | o :: l=>c o * f o + smC c f l
theorem smC_le {c f c' f':List Int→Rat} {M:Rat}:∀ {l:List (List Int)},(∀ o∈l,c o * f o≤M * (c' o * f' o))→smC c f l≤M * smC c' f' l
 | [],_=>by simp only [smC]; rw [Rat.mul_zero]; exact Rat.le_refl
 | o :: l,h=>by
  have h1:=h o (by simp)
  have h2:=smC_le (l:=l) fun x hx=>h x (by simp [hx])
  simp only [smC]
  grind
theorem smQ_smC {l:List Pt} (hl:Dis l) (f:List Int→Rat):smQ f l=(tot l:Rat) * smC (chR l) f (l.map (·.1)):=by
 have key:∀ l':List Pt,(∀ p∈l',(p.2:Rat)=chR l p.1 * (tot l:Rat))→smQ f l' = (tot l:Rat) * smC (chR l) f (l'.map (·.1)):=by
  intro l'
  induction l' with
  | nil=>intro _; simp only [smQ,List.map_nil,smC]; rw [Rat.mul_zero]
  | cons p l' ih =>
   intro h
   have h1:=h p (by simp)
   have h2:=ih fun q hq=>h q (by simp [hq])
   simp only [smQ,List.map_cons,smC]
   rw [h2,h1]
   grind
 refine key l fun p hp=>?_
 rw [chR_mul hl,wt_mem hl.rise hp]
theorem Rb.chain {M L:Rat} {l m x y:List Pt} {thn thn':List Int→List Pt × Int} (h:Rb M l m) (hL:1≤L) (hd:∀ p∈l,(thn p.1).2=0→Dis (thn p.1).1) (hd':∀ p∈m,(thn' p.1).2=0→Dis (thn' p.1).1)
  (ht:∀ p∈l,(thn p.1).2=0→(thn' p.1).2=0→Rb L (thn p.1).1 (thn' p.1).1) (hx:chT thn l=(x,0)) (hy:chT thn' m=(y,0)):Rb (M * L) x y:=by
 obtain ⟨dx,ex,cx⟩:=ch_told h.dx hd hx
 obtain ⟨dy,ey,cy⟩:=ch_told h.dy hd' hy
 have ho:=outs_eq h.dx h.dy h.sup
 have M1:=h.one
 have ML:1≤M * L:=by
  have:=Rat.mul_le_mul_of_nonneg_left hL (show 0≤M by grind)
  grind
 have tl:=int_q0 (tot_pos2 h.dx.pos h.dx.ne)
 have tm:=int_q0 (tot_pos2 h.dy.pos h.dy.ne)
 have canc:∀ {a b t:Rat},0 < t→a * t=t * b→a=b:=by
  intro a b t ht h
  have:t * (a - b)=0:=by grind
  rcases Rat.mul_eq_zero.1 this with h | h <;> grind
 have e1:∀ o,chR x o=smC (chR l) (fun z=>chR (thn z).1 o) (l.map (·.1)):=fun o=>canc tl (by rw [cx o]; exact smQ_smC h.dx _)
 have e2:∀ o,chR y o=smC (chR m) (fun z=>chR (thn' z).1 o) (l.map (·.1)):=fun o=>canc tm (by rw [cy o,ho]; exact smQ_smC h.dy _)
 refine ⟨dx,dy,ML,fun o=>?_⟩
 rw [e1,e2]
 have st:∀ z∈l.map (·.1),Rb L (thn z).1 (thn' z).1:=by
  intro z hz
  obtain ⟨p,hp,rfl⟩:=List.mem_map.1 hz
  have hz2:p.1∈m.map (·.1):=by rw [← ho]; exact List.mem_map.2 ⟨p,hp,rfl⟩
  obtain ⟨q,hq,hqe⟩:=List.mem_map.1 hz2
  have:=ey q hq
  rw [hqe] at this
  exact ht p hp (ex p hp) this
 have prod:∀ {a b c d:Rat},0≤a→0≤c→a≤M * b→c≤L * d→a * c≤M * L * (b * d):=by
  intro a b c d ha hc h1 h2
  have k1:=Rat.mul_le_mul_of_nonneg_right h1 hc
  have k2:=Rat.mul_le_mul_of_nonneg_left h2 (show 0≤M * b by grind)
  grind
 constructor
 ·refine smC_le fun z hz=>?_
  have s:=st z hz
  exact prod (chR_nn h.dy z) (chR_nn s.dy o) (h.le z).1 (s.le o).1
 ·refine smC_le fun z hz=>?_
  have s:=st z hz
  exact prod (chR_nn h.dx z) (chR_nn s.dx o) (h.le z).2 (s.le o).2
end Go.Proofs.YtlndlpjadajelaaGreat
