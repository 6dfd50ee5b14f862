import Derived.Test.YtlndlpjadajelaaGreatRows
import Derived.WalkKit
import Derived.WalkSpells
import Derived.Deep.QuietTactic
import Derived.BigQuiet
import Derived.WalkSmall
namespace Go.Proofs.YtlndlpjadajelaaGreat.Ds
abbrev Pt:=List Int × Int
def cmpT:List Int→List Int→Int
 | [],[]=>0
 | [],_ :: _=>-1
 | _ :: _,[]=>1
 | a :: x,b :: y=>if a < b then -1 else if b < a then 1 else cmpT x y
theorem cmpT_swap (x y:List Int):cmpT y x = - cmpT x y:=by
 induction x generalizing y with
 | nil=>cases y <;> simp [cmpT]
 | cons a x ih=>cases y with
  | nil=>simp [cmpT]
  | cons b y =>
   simp only [cmpT]
   by_cases h1:a < b
   ·simp [h1,Int.not_lt.2 (Int.le_of_lt h1)]
   ·by_cases h2:b < a
    ·simp [h1,h2]
    ·simp [h1,h2,ih y]
theorem cmpT_self (x:List Int):cmpT x x=0:=by
 have:=cmpT_swap x x; omega
theorem cmpT_zero (x y:List Int):cmpT x y=0↔x=y:=by
 constructor
 ·intro h
  induction x generalizing y with
  | nil=>cases y with | nil=>rfl | cons b y=>simp [cmpT] at h
  | cons a x ih=>cases y with
   | nil=>simp [cmpT] at h
   | cons b y =>
    simp only [cmpT] at h
    by_cases h1:a < b
    ·simp [h1] at h
    ·by_cases h2:b < a
     ·simp [h1,h2] at h
     ·simp [h1,h2] at h
      rw [ih y h,show a=b by omega]
 ·rintro rfl; exact cmpT_self x
abbrev ltL (x y:List Int):Prop:=cmpT x y < 0
theorem ltL_irrefl (x:List Int):¬ ltL x x:=by unfold ltL; rw [cmpT_self]; omega
theorem ltL_trans {x y z:List Int} (h:ltL x y) (k:ltL y z):ltL x z:=by
 unfold ltL at *
 induction x generalizing y z with
 | nil=>cases z with
  | nil=>cases y <;> simp [cmpT] at *
  | cons c z=>simp [cmpT]
 | cons a x ih=>cases y with
  | nil=>simp [cmpT] at h
  | cons b y=>cases z with
   | nil=>simp [cmpT] at k
   | cons c z =>
    simp only [cmpT] at *
    by_cases h1:a < b
    ·have:a < c:=by
      by_cases h3:b < c; · omega
      ·by_cases h4:c < b
       ·simp [h3,h4] at k
       ·omega
     simp [this]
    ·by_cases h2:b < a
     ·simp [h1,h2] at h
     ·simp [h1,h2] at h
      have:a=b:=by omega
      subst this
      by_cases h3:a < c; · simp [h3]
      ·by_cases h4:c < a
       ·simp [h3,h4] at k
       ·simp [h3,h4] at k ⊢
        exact ih h k
theorem ltL_ne {x y:List Int} (h:ltL x y):x≠y:=by rintro rfl; exact ltL_irrefl _ h
theorem ltL_tri (x y:List Int):ltL x y∨x=y∨ltL y x:=by
 unfold ltL
 rw [← cmpT_zero x y,cmpT_swap x y]
 omega
def wt:List Pt→List Int→Int
 | [],_=>0
 | p :: l,o=>(if p.1=o then p.2 else 0) + wt l o
@[simp] theorem wt_nil (o:List Int):wt [] o=0:=rfl
theorem wt_cons (p:Pt) (l:List Pt) (o:List Int):wt (p :: l) o=(if p.1=o then p.2 else 0) + wt l o:=rfl
theorem wt_append (l k:List Pt) (o:List Int):wt (l ++ k) o=wt l o + wt k o:=by
 induction l with
 | nil=>simp
 | cons p l ih=>simp only [List.cons_append,wt_cons,ih]; omega
theorem wt_perm {l k:List Pt} (h:l.Perm k) (o:List Int):wt l o=wt k o:=by
 induction h with
 | nil=>rfl
 | cons x _ ih=>simp only [wt_cons,ih]
 | swap x y l=>simp only [wt_cons]; omega
 | trans _ _ h1 h2=>exact h1.trans h2
def tot:List Pt→Int
 | []=>0
 | p :: l=>p.2 + tot l
@[simp] theorem tot_nil:tot []=0:=rfl
theorem tot_cons (p:Pt) (l:List Pt):tot (p :: l)=p.2 + tot l:=rfl
theorem tot_append (l k:List Pt):tot (l ++ k)=tot l + tot k:=by
 induction l with
 | nil=>simp
 | cons p l ih=>simp only [List.cons_append,tot_cons,ih]; omega
def Rise (l:List Pt):Prop:=l.Pairwise fun p q=>ltL p.1 q.1
def Pos (l:List Pt):Prop:=∀ p∈l,0 < p.2
theorem wt_none {l:List Pt} {o:List Int} (h:∀ p∈l,p.1≠o):wt l o=0:=by
 induction l with
 | nil=>rfl
 | cons p l ih =>
  rw [wt_cons,if_neg (h p (by simp)),ih fun q hq=>h q (by simp [hq])]; omega
theorem wt_head {p:Pt} {l:List Pt} (h:Rise (p :: l)):wt (p :: l) p.1=p.2:=by
 rw [wt_cons,if_pos rfl,wt_none fun q hq=>(ltL_ne ((List.pairwise_cons.1 h).1 q hq)).symm]; omega
theorem rise_tail {p:Pt} {l:List Pt} (h:Rise (p :: l)):Rise l:=(List.pairwise_cons.1 h).2
theorem rise_uniq {l k:List Pt} (hl:Rise l) (pl:Pos l) (hk:Rise k) (pk:Pos k) (h:∀ o,wt l o=wt k o):l=k:=by
 induction l generalizing k with
 | nil=>cases k with
  | nil=>rfl
  | cons q k=>have:=h q.1; rw [wt_head hk] at this; have:=pk q (by simp); simp at *; omega
 | cons p l ih=>cases k with
  | nil=>have:=h p.1; rw [wt_head hl] at this; have:=pl p (by simp); simp at *; omega
  | cons q k =>
   have e:p.1=q.1:=by
    rcases ltL_tri p.1 q.1 with c | c | c
    ·have:=h p.1
     rw [wt_head hl,wt_none] at this
     ·have:=pl p (by simp); omega
     ·intro r hr
      rcases List.mem_cons.1 hr with rfl | hr
      ·exact (ltL_ne c).symm
      ·exact (ltL_ne (ltL_trans c ((List.pairwise_cons.1 hk).1 r hr))).symm
    ·exact c
    ·have:=h q.1
     rw [wt_head hk,wt_none] at this
     ·have:=pk q (by simp); omega
     ·intro r hr
      rcases List.mem_cons.1 hr with rfl | hr
      ·exact (ltL_ne c).symm
      ·exact (ltL_ne (ltL_trans c ((List.pairwise_cons.1 hl).1 r hr))).symm
   have e2:p.2=q.2:=by
    have:=h p.1
    rw [wt_head hl,e,wt_head hk] at this
    exact this
   have epq:p=q:=Prod.ext e e2
   subst epq
   rw [ih (rise_tail hl) (fun r hr=>pl r (by simp [hr])) (rise_tail hk) (fun r hr=>pk r (by simp [hr])) fun o=>by
    have:=h o; simp only [wt_cons] at this; omega]
def ins (p:Pt):List Pt→List Pt
 | []=>[p]
 | q :: l=>if ltL p.1 q.1 then p :: q :: l else if p.1=q.1 then (q.1,q.2 + p.2) :: l else q :: ins p l
theorem ins_mem {p r:Pt} {l:List Pt} (h:r∈ins p l):r.1=p.1∨∃ q∈l,r.1=q.1:=by
 induction l with
 | nil=>simp [ins] at h; exact .inl (by rw [h])
 | cons q l ih =>
  simp only [ins] at h
  split at h
  ·rcases List.mem_cons.1 h with rfl | h
   ·exact .inl rfl
   ·exact .inr ⟨r,h,rfl⟩
  ·split at h
   ·rcases List.mem_cons.1 h with rfl | h
    ·exact .inr ⟨q,by simp,rfl⟩
    ·exact .inr ⟨r,by simp [h],rfl⟩
   ·rcases List.mem_cons.1 h with rfl | h
    ·exact .inr ⟨r,by simp,rfl⟩
    ·rcases ih h with h | ⟨s,hs,e⟩
     ·exact .inl h
     ·exact .inr ⟨s,by simp [hs],e⟩
theorem ins_rise {p:Pt} {l:List Pt} (h:Rise l):Rise (ins p l):=by
 induction l with
 | nil=>simp [ins,Rise]
 | cons q l ih =>
  have h':=List.pairwise_cons.1 h
  simp only [ins]
  split
  ·rename_i c
   refine List.pairwise_cons.2 ⟨fun r hr=>?_,h⟩
   rcases List.mem_cons.1 hr with rfl | hr
   ·exact c
   ·exact ltL_trans c (h'.1 r hr)
  ·split
   ·exact List.pairwise_cons.2 ⟨fun r hr=>h'.1 r hr,h'.2⟩
   ·rename_i c1 c2
    have c3:ltL q.1 p.1:=by rcases ltL_tri p.1 q.1 with c | c | c <;> first | exact absurd c c1 | exact absurd c c2 | exact c
    refine List.pairwise_cons.2 ⟨fun r hr=>?_,ih h'.2⟩
    rcases ins_mem hr with e | ⟨s,hs,e⟩
    ·rw [e]; exact c3
    ·rw [e]; exact h'.1 s hs
theorem ins_wt (p:Pt) (l:List Pt) (o:List Int):wt (ins p l) o=(if p.1=o then p.2 else 0) + wt l o:=by
 induction l with
 | nil=>simp [ins,wt_cons]
 | cons q l ih =>
  simp only [ins]
  split
  ·simp only [wt_cons]
  ·split
   ·rename_i c
    simp only [wt_cons,c]
    split <;> omega
   ·simp only [wt_cons,ih]; omega
theorem ins_pos {p:Pt} {l:List Pt} (hp:0 < p.2) (h:Pos l):Pos (ins p l):=by
 induction l with
 | nil=>intro r hr; simp [ins] at hr; rw [hr]; exact hp
 | cons q l ih =>
  simp only [ins]
  have hq:=h q (by simp)
  have hl:Pos l:=fun r hr=>h r (by simp [hr])
  split
  ·intro r hr
   rcases List.mem_cons.1 hr with rfl | hr
   ·exact hp
   ·exact h r hr
  ·split
   ·intro r hr
    rcases List.mem_cons.1 hr with rfl | hr
    ·show 0 < q.2 + p.2; omega
    ·exact hl r hr
   ·intro r hr
    rcases List.mem_cons.1 hr with rfl | hr
    ·exact hq
    ·exact ih hl r hr
def gath:List Pt→List Pt
 | []=>[]
 | p :: l=>if p.2=0 then gath l else ins p (gath l)
theorem gath_rise (l:List Pt):Rise (gath l):=by
 induction l with
 | nil=>simp [gath,Rise]
 | cons p l ih=>simp only [gath]; split <;> first | exact ih | exact ins_rise ih
theorem gath_wt (l:List Pt) (o:List Int):wt (gath l) o=wt l o:=by
 induction l with
 | nil=>rfl
 | cons p l ih =>
  simp only [gath]
  split
  ·rename_i c; rw [wt_cons,ih,c]; split <;> omega
  ·rw [ins_wt,wt_cons,ih]
theorem gath_pos {l:List Pt} (h:∀ p∈l,0≤p.2):Pos (gath l):=by
 induction l with
 | nil=>simp [gath,Pos]
 | cons p l ih =>
  have h1:=ih fun q hq=>h q (by simp [hq])
  simp only [gath]
  split
  ·exact h1
  ·have:=h p (by simp)
   exact ins_pos (by omega) h1
theorem gath_is {l k:List Pt} (h:∀ p∈l,0≤p.2) (r:Rise k) (p:Pos k) (e:∀ o,wt k o=wt l o):gath l=k :=
 rise_uniq (gath_rise l) (gath_pos h) r p fun o=>by rw [gath_wt,e]
def dv:List Pt→Nat
 | []=>0
 | p :: l=>Nat.gcd (dv l) p.2.natAbs
def dvF (g:Nat):List Pt→Nat
 | []=>g
 | p :: l=>dvF (Nat.gcd g p.2.natAbs) l
theorem dvF_eq (g:Nat) (l:List Pt):dvF g l=Nat.gcd g (dv l):=by
 induction l generalizing g with
 | nil=>simp [dvF,dv]
 | cons p l ih =>
  simp only [dvF,dv,ih]
  rw [Nat.gcd_assoc,Nat.gcd_comm (dv l)]
theorem dv_dvd {l:List Pt} {p:Pt} (h:p∈l):dv l ∣ p.2.natAbs:=by
 induction l with
 | nil=>cases h
 | cons q l ih =>
  rcases List.mem_cons.1 h with rfl | h
  ·exact Nat.gcd_dvd_right _ _
  ·exact Nat.dvd_trans (Nat.gcd_dvd_left _ _) (ih h)
theorem dv_pos {l:List Pt} (h:Pos l) (hne:l≠[]):0 < dv l:=by
 cases l with
 | nil=>exact absurd rfl hne
 | cons p l=>exact Nat.gcd_pos_of_pos_right _ (by have:=h p (by simp); omega)
def cut (g:Int) (l:List Pt):List Pt:=l.map fun p=>(p.1,p.2 / g)
@[simp] theorem cut_length (g:Int) (l:List Pt):(cut g l).length=l.length:=by simp [cut]
def lowT (l:List Pt):List Pt × Int :=
 if l=[] then ([],6) else if 1073741824 < tot (cut (dv l) l)∨4096 < l.length then ([],4) else (cut (dv l) l,0)
def okN (n:Int):Bool:=decide (-1073741824≤n∧n≤1073741824)
def okO (x:List Int):Bool:=decide (x.length≤16) && x.all okN
def okP (p:Pt):Bool:=decide (0≤p.2∧p.2≤1073741824) && okO p.1
def makeT (l:List Pt):List Pt × Int:=if l.all okP then lowT (gath l) else ([],3)
theorem tot_pos {l:List Pt} (h:Pos l):0≤tot l:=by
 induction l with
 | nil=>simp
 | cons p l ih=>have:=ih fun q hq=>h q (by simp [hq]); have:=h p (by simp); rw [tot_cons]; omega
theorem tot_le {l:List Pt} {M:Int} (h:∀ p∈l,p.2≤M):tot l≤l.length * M:=by
 induction l with
 | nil=>simp
 | cons p l ih =>
  have h1:=ih fun q hq=>h q (by simp [hq])
  have h2:=h p (by simp)
  rw [tot_cons,List.length_cons,Int.natCast_add,Int.add_mul]
  omega
theorem ins_tot (p:Pt) (l:List Pt):tot (ins p l)=p.2 + tot l:=by
 induction l with
 | nil=>simp [ins,tot_cons]
 | cons q l ih =>
  simp only [ins]
  split
  ·simp only [tot_cons]
  ·split
   ·simp only [tot_cons]; omega
   ·simp only [tot_cons,ih]; omega
theorem gath_tot (l:List Pt):tot (gath l)=tot l:=by
 induction l with
 | nil=>rfl
 | cons p l ih =>
  simp only [gath]
  split
  ·rw [tot_cons,ih]; omega
  ·rw [ins_tot,tot_cons,ih]
theorem cut_tot {l:List Pt} {g:Int} (h:∀ p∈l,g ∣ p.2):tot (cut g l)=tot l / g:=by
 induction l with
 | nil=>simp [cut]
 | cons p l ih =>
  have h1:=ih fun q hq=>h q (by simp [hq])
  simp only [cut,List.map_cons,tot_cons] at *
  rw [h1,Int.add_ediv_of_dvd_left (h p (by simp))]
theorem dv_dvd_int {l:List Pt} {p:Pt} (h:p∈l):((dv l:Nat):Int) ∣ p.2:=Int.ofNat_dvd_left.2 (dv_dvd h)
theorem ins_length (p:Pt) (l:List Pt):(ins p l).length≤l.length + 1:=by
 induction l with
 | nil=>simp [ins]
 | cons q l ih =>
  simp only [ins]
  split
  ·simp
  ·split
   ·simp
   ·simp; omega
theorem gath_length (l:List Pt):(gath l).length≤l.length:=by
 induction l with
 | nil=>simp [gath]
 | cons p l ih =>
  simp only [gath]
  split
  ·simp; omega
  ·have:=ins_length p (gath l); simp; omega
end Go.Proofs.YtlndlpjadajelaaGreat.Ds
namespace Go.Proofs.Rt
theorem gcd_half_left (a b:Nat) (ha:a % 2=0) (hb:b % 2=1):Nat.gcd (a / 2) b=Nat.gcd a b:=by
 obtain ⟨k,rfl⟩:∃ k,a=2 * k:=⟨a / 2,by omega⟩
 have h2:Nat.Coprime 2 b:=by
  unfold Nat.Coprime
  rw [Nat.gcd_rec,hb]; decide
 rw [Nat.mul_div_cancel_left _ (by decide)]
 exact (Nat.Coprime.gcd_mul_left_cancel k h2).symm
theorem gcd_half_right (a b:Nat) (ha:a % 2=1) (hb:b % 2=0):Nat.gcd a (b / 2)=Nat.gcd a b:=by
 rw [Nat.gcd_comm,gcd_half_left b a hb ha,Nat.gcd_comm]
theorem gcd_half_both (a b:Nat) (ha:a % 2=0) (hb:b % 2=0):2 * Nat.gcd (a / 2) (b / 2)=Nat.gcd a b:=by
 rw [← Nat.gcd_mul_left]
 congr 1 <;> omega
theorem gcd_less_left (a b:Nat) (h:b≤a):Nat.gcd (a - b) b=Nat.gcd a b:=by
 rw [Nat.gcd_comm,Nat.gcd_sub_self_right h,Nat.gcd_comm]
theorem gcd_less_right (a b:Nat) (h:a≤b):Nat.gcd a (b - a)=Nat.gcd a b:=Nat.gcd_sub_self_right h
def mx:Int:=1073741824
def tell (q:Rat):Int × Int × Int :=
 if q.num < 0 then (0,0,3) else if mx < q.num∨mx < (q.den:Int) then (0,0,4) else (q.num,(q.den:Int),0)
def mkT (u d:Int):Int × Int × Int:=if u < 0∨d < 1 then (0,0,3) else tell (Rat.divInt u d)
def rightB (u d:Int):Bool:=decide (0≤u∧u≤mx∧1≤d∧d≤mx∧Int.gcd u d=1)
theorem num_of (u d:Int) (hu:0≤u) (hd:1≤d):(Rat.divInt u d).num=u / (Int.gcd u d:Int):=by
 obtain ⟨m,rfl⟩:=Int.eq_ofNat_of_zero_le hu
 obtain ⟨n,rfl⟩:=Int.eq_ofNat_of_zero_le (show 0≤d by omega)
 rw [Rat.num_divInt]
 rw [Int.sign_eq_one_of_pos (by omega)]
 simp [Int.gcd_comm]
theorem den_of (u d:Int) (hu:0≤u) (hd:1≤d):((Rat.divInt u d).den:Int)=d / (Int.gcd u d:Int):=by
 obtain ⟨m,rfl⟩:=Int.eq_ofNat_of_zero_le hu
 obtain ⟨n,rfl⟩:=Int.eq_ofNat_of_zero_le (show 0≤d by omega)
 rw [Rat.den_divInt]
 rw [if_neg (by omega)]
 simp [Int.gcd_comm]
theorem mkT_of (u d n m e:Int) (hu:0≤u) (hd:1≤d) (h:mkT u d=(n,m,e)) :
  ((1073741824 < u / (Int.gcd u d:Int)∨1073741824 < d / (Int.gcd u d:Int))∧0=n∧0=m∧4=e) ∨
  (u / (Int.gcd u d:Int)≤1073741824∧d / (Int.gcd u d:Int)≤1073741824∧u / (Int.gcd u d:Int)=n∧d / (Int.gcd u d:Int)=m∧0=e):=by
 unfold mkT at h
 rw [if_neg (by omega)] at h
 unfold tell at h
 rw [num_of u d hu hd,den_of u d hu hd] at h
 have h0:0≤u / (Int.gcd u d:Int):=Int.ediv_nonneg hu (by omega)
 rw [if_neg (by omega)] at h
 unfold mx at h
 by_cases c:1073741824 < u / (Int.gcd u d:Int)∨1073741824 < d / (Int.gcd u d:Int)
 ·rw [if_pos c] at h
  simp only [Prod.mk.injEq] at h
  exact .inl ⟨c,h⟩
 ·rw [if_neg c] at h
  simp only [Prod.mk.injEq] at h
  exact .inr ⟨by omega,by omega,h⟩
def timesT (a b c d:Int):Int × Int × Int:=if rightB a b=true∧rightB c d=true then mkT (a * c) (b * d) else (0,0,2)
def orderT (a b c d:Int):Int × Int:=if rightB a b=true∧rightB c d=true then (if a * d < c * b then -1 else if c * b < a * d then 1 else 0,0) else (0,2)
theorem right_bd {u d:Int} (h:rightB u d=true):0≤u∧u≤1073741824∧1≤d∧d≤1073741824:=by
 unfold rightB mx at h
 have:=of_decide_eq_true h
 exact ⟨this.1,this.2.1,this.2.2.1,this.2.2.2.1⟩
theorem mul_bd {a b:Int} (ha:0≤a) (ha':a≤1073741824) (hb:0≤b) (hb':b≤1073741824):0≤a * b∧a * b≤1152921504606846976 :=
 ⟨Int.mul_nonneg ha hb,by have:=Int.mul_le_mul ha' hb' hb (by decide); exact this⟩
def powT (u d n:Int):Int × Int × Int :=
 if rightB u d=true then (if n < 0∨4096 < n then (0,0,3) else if mx < u ^ n.toNat∨mx < d ^ n.toNat then (0,0,4) else (u ^ n.toNat,d ^ n.toNat,0)) else (0,0,2)
theorem right_nat (x y:Nat):rightB (x:Int) (y:Int)=true↔(x≤1073741824∧1≤y∧y≤1073741824∧Nat.gcd x y=1):=by
 unfold rightB mx
 rw [decide_eq_true_iff,show Int.gcd (x:Int) (y:Int)=Nat.gcd x y from rfl]
 omega
theorem mkT_coprime (x y:Nat) (hy:1≤y) (h:Nat.gcd x y=1):mkT (x:Int) (y:Int)=if x≤1073741824∧y≤1073741824 then ((x:Int),(y:Int),0) else (0,0,4):=by
 obtain ⟨n,m,e,hm⟩:∃ n m e,mkT (x:Int) (y:Int)=(n,m,e):=⟨_,_,_,rfl⟩
 rw [hm]
 have:=mkT_of x y n m e (by omega) (by omega) hm
 rw [show Int.gcd (x:Int) (y:Int)=Nat.gcd x y from rfl,h] at this
 simp only [Int.natCast_one,Int.ediv_one] at this
 rcases this with ⟨hc,rfl,rfl,rfl⟩ | ⟨h1,h2,rfl,rfl,rfl⟩
 ·rw [if_neg (by omega)]
 ·rw [if_pos (by omega)]
theorem times_pow (x y i:Nat) (h:rightB (x:Int) (y:Int)=true) (hi:x ^ i≤1073741824) (hj:y ^ i≤1073741824) :
  timesT ((x ^ i:Nat):Int) ((y ^ i:Nat):Int) (x:Int) (y:Int)=if x ^ (i + 1)≤1073741824∧y ^ (i + 1)≤1073741824 then (((x ^ (i + 1):Nat):Int),((y ^ (i + 1):Nat):Int),0) else (0,0,4):=by
 have h':=(right_nat x y).1 h
 obtain ⟨h1,h2,h3,h4⟩:=h'
 have hr:rightB ((x ^ i:Nat):Int) ((y ^ i:Nat):Int)=true:=(right_nat _ _).2 ⟨hi,Nat.pow_pos h2,hj,Nat.Coprime.pow i i h4⟩
 unfold timesT
 rw [if_pos ⟨hr,h⟩,← Int.natCast_mul,← Int.natCast_mul,← Nat.pow_succ,← Nat.pow_succ]
 exact mkT_coprime _ _ (Nat.pow_pos h2) (Nat.Coprime.pow _ _ h4)
theorem pow_gt (x i n:Nat) (hi:i≤n) (h:1073741824 < x ^ i):1073741824 < x ^ n:=by
 have hx:0 < x:=by
  cases x with
  | zero=>cases i with
   | zero=>simp at h
   | succ k=>rw [Nat.zero_pow (by omega)] at h; omega
  | succ k=>omega
 exact Nat.lt_of_lt_of_le h (Nat.pow_le_pow_right hx hi)
theorem powT_of (x y n:Nat) (h:rightB (x:Int) (y:Int)=true) (hn:n≤4096) (a b e:Int) (hp:powT x y n=(a,b,e)) :
  ((1073741824 < x ^ n∨1073741824 < y ^ n)∧0=a∧0=b∧4=e)∨(x ^ n≤1073741824∧y ^ n≤1073741824∧((x ^ n:Nat):Int)=a∧((y ^ n:Nat):Int)=b∧0=e):=by
 unfold powT mx at hp
 rw [if_pos h,if_neg (by omega),Int.toNat_natCast,← Int.natCast_pow,← Int.natCast_pow] at hp
 generalize x ^ n=p at *
 generalize y ^ n=q at *
 by_cases c:(1073741824:Int) < p∨(1073741824:Int) < q
 ·rw [if_pos c] at hp
  simp only [Prod.mk.injEq] at hp
  exact .inl ⟨by omega,hp⟩
 ·rw [if_neg c] at hp
  simp only [Prod.mk.injEq] at hp
  exact .inr ⟨by omega,by omega,hp⟩
end Go.Proofs.Rt
namespace Go.Proofs.YtlndlpjadajelaaGreat
open Go.RowKit
theorem ret_i {k:IntKind} {a b:Int} (h:a=b):Ending.returned (.int k a)=.returned (.int k b):=by rw [h]
theorem gcd_tmod (x y:Int):Int.gcd y (x.tmod y)=Int.gcd x y:=by
 have h:(x.tmod y).natAbs=x.natAbs % y.natAbs:=Int.natAbs_tmod x y
 rw [Int.gcd,h,Int.gcd,Nat.gcd_comm x.natAbs,Nat.gcd_rec y.natAbs x.natAbs,Nat.gcd_comm]
set_option maxHeartbeats 400000 in
theorem divisor_int (a b:Int) (ha0:-9223372036854775807≤a) (ha:a≤9223372036854775807) (hb0:-9223372036854775807≤b) (hb:b≤9223372036854775807) (w:World) :
  Calls Tryz.prog 90 #[.int .i64 a,.int .i64 b] w fun e w'=>e=.returned (.int .i64 (Int.gcd a b:Nat))∧Below w.heap.size w w':=by
 go_enter Tryz.func90,Tryz.ntmps90
 go_wp2
 go_loopw [0,1] (fun s t wr=>∃ x y:Int,s=.int .i64 x∧t=.int .i64 y∧-9223372036854775807≤x∧x≤9223372036854775807∧-9223372036854775807≤y∧y≤9223372036854775807∧Int.gcd x y=Int.gcd a b∧Below w.heap.size w wr) (fun _ t _=>(intOf t).natAbs)
 case atStart=>exact ⟨a,b,rfl,rfl,ha0,ha,hb0,hb,rfl,Below.refl _ _⟩
 case round =>
  obtain ⟨x,y,rfl,rfl,hx0,hx,hy0,hy,hg,hbl⟩:=hrel
  have HG:Hid (Int.gcd x y=Int.gcd a b):=hg
  clear hg
  by_cases hz:y=0
  ·subst hz
   go_wp2
   all_goals
    go_ret
    refine ⟨ret_i ?_,hbl⟩
    rw [← HG.out,Int.gcd_zero_right]
    omega
  ·have hz':(y == 0)=false:=by simp; omega
   have hm:(x.tmod y).natAbs < y.natAbs:=by rw [Int.natAbs_tmod]; exact Nat.mod_lt _ (by omega)
   have hm1:-9223372036854775807≤x.tmod y:=by omega
   have hm2:x.tmod y≤9223372036854775807:=by omega
   have HM:Hid ((x.tmod y).natAbs < y.natAbs):=hm
   clear hm
   go_wp2
   go_quiet (fail)
   go_wp2
   go_roundw
   case rel=>exact ⟨y,x.tmod y,rfl,by go_num,hy0,hy,hm1,hm2,by rw [gcd_tmod]; exact HG.out,below_drewN hbl nq⟩
   case measure=>exact HM.out
theorem divisor_any (a b:Nat) (ha:(a:Int)≤9223372036854775807) (hb:(b:Int)≤9223372036854775807) (w:World) :
  Calls Tryz.prog 90 #[.int .i64 a,.int .i64 b] w fun e w'=>e=.returned (.int .i64 (Nat.gcd a b:Nat))∧Below w.heap.size w w' :=
 divisor_int a b (by omega) ha (by omega) hb w
set_option maxHeartbeats 400000 in
theorem refDivisor_any (a b:Nat) (ha:(a:Int)≤9223372036854775807) (hb1:1≤b) (hb:(b:Int)≤9223372036854775807) (w:World) :
  Calls Tryz.prog 56 #[.int .i64 a,.int .i64 b] w fun e w'=>e=.returned (.int .i64 (Nat.gcd a b:Nat))∧w' = w:=by
 by_cases h0:a=0
 ·subst h0
  go_enter Tryz.func56,Tryz.ntmps56
  go_wp2
  go_ret
  exact ⟨ret_i (by simp),rfl⟩
 have h0':((a:Int) == 0)=false:=by simp; omega
 have hgpos:0 < Nat.gcd a b:=Nat.gcd_pos_of_pos_right _ (by omega)
 have hgle:Nat.gcd a b≤b:=Nat.gcd_le_right _ (by omega)
 generalize hG:Nat.gcd a b=g at *
 have HG0:Hid (Nat.gcd a b=g):=hG
 clear hG
 go_enter Tryz.func56,Tryz.ntmps56
 go_wp2
 go_loop [0,1,5] (fun s t u=>∃ x y k:Nat,s=.int .i64 (x:Int)∧t=.int .i64 (y:Int)∧u=.int .i64 (k:Int)∧1≤x∧1≤y∧x≤a∧y≤b∧k + y≤b∧2 ^ k * Nat.gcd x y=g) (fun s _ _=>(intOf s).toNat)
 case atStart=>exact ⟨a,b,0,rfl,rfl,rfl,by omega,by omega,by omega,by omega,by omega,by rw [HG0.out]; simp⟩
 case round =>
  obtain ⟨x,y,k,rfl,rfl,rfl,hx1,hy1,hx,hy,hk,hg⟩:=hrel
  have HG:Hid (2 ^ k * Nat.gcd x y=g):=hg
  clear hg
  by_cases hc:x % 2=0∧y % 2=0
  ·obtain ⟨hc1,hc2⟩:=hc
   have e1:((x:Int) % 2 == 0)=true:=by simp; omega
   have e2:((y:Int) % 2 == 0)=true:=by simp; omega
   go_wp2
   go_round
   case rel=>exact ⟨x / 2,y / 2,k + 1,by go_num,by go_num,by go_num,by omega,by omega,by omega,by omega,by omega,by rw [← HG.out,Nat.pow_succ,Nat.mul_assoc,Rt.gcd_half_both x y hc1 hc2]⟩
   case measure=>simp [intOf]; omega
  ·have hh1:1≤Nat.gcd x y:=Nat.gcd_pos_of_pos_right _ (by omega)
   have hkg:k < 2 ^ 63:=by omega
   have HC:Hid (¬ (x % 2=0∧y % 2=0)):=hc
   have e0:((x:Int) % 2 == 0)=true∧((y:Int) % 2 == 0)=false∨((x:Int) % 2 == 0)=false:=by
    by_cases hxx:x % 2=0
    ·exact .inl ⟨by simp; omega,by simp; omega⟩
    ·exact .inr (by simp; omega)
   clear hc h0'
   rcases e0 with ⟨e1,e2⟩ | e1
   all_goals
    go_wp2
    clear e1
    try clear e2
    go_loop [0,1] (fun s t=>∃ x' y':Nat,s=.int .i64 (x':Int)∧t=.int .i64 (y':Int)∧1≤x'∧1≤y'∧x'≤a∧y'≤b∧¬ (x' % 2=0∧y' % 2=0)∧Nat.gcd x' y' = Nat.gcd x y) (fun s t=>(intOf s).toNat + (intOf t).toNat)
    case atStart=>exact ⟨x,y,rfl,rfl,hx1,hy1,hx,hy,HC.out,rfl⟩
    case round =>
     obtain ⟨p,q,rfl,rfl,hp1,hq1,hp,hq,hpq,hgg⟩:=hrel
     have HGG:Hid (Nat.gcd p q=Nat.gcd x y):=hgg
     clear hgg
     by_cases c0:p=q
     ·subst c0
      have hpz:2 ^ k * p=g:=by rw [← HG.out,← HGG.out,Nat.gcd_self]
      have HPZ:Hid (2 ^ k * p=g):=hpz
      clear hpz
      go_wp2
      go_loop [0,5] (fun s u=>∃ z j:Nat,s=.int .i64 (z:Int)∧u=.int .i64 (j:Int)∧j≤k∧2 ^ j * z=g) (fun _ u=>(intOf u).toNat)
      case atStart=>exact ⟨p,k,rfl,rfl,Nat.le_refl _,HPZ.out⟩
      case round =>
       obtain ⟨z,j,rfl,rfl,hj,hzj⟩:=hrel
       have HZJ:Hid (2 ^ j * z=g):=hzj
       clear hzj
       by_cases c9:j=0
       ·subst c9
        go_wp2
        go_ret
        exact ⟨ret_i (by have:=HZJ.out; simp at this; rw [this]),rfl⟩
       ·have hj0:0 < j:=by omega
        have hz2:2 * z≤g:=by
         rw [← HZJ.out]
         obtain ⟨i,rfl⟩:∃ i,j=i + 1:=⟨j - 1,by omega⟩
         rw [Nat.pow_succ,Nat.mul_assoc]
         exact Nat.le_mul_of_pos_left _ (Nat.two_pow_pos i)
        go_wp2
        go_round
        case rel=>exact ⟨2 * z,j - 1,by go_num,by go_num,by omega,by rw [← Nat.mul_assoc,← Nat.pow_succ,show (j - 1).succ=j by omega]; exact HZJ.out⟩
        case measure=>simp [intOf]; omega
     ·have c0':((p:Int) == (q:Int))=false:=by simp; omega
      have c0'':((p:Int) != (q:Int))=true:=by simp; omega
      by_cases c1:p % 2=0
      ·have d1:((p:Int) % 2 == 0)=true:=by simp; omega
       have HP:Hid (Nat.gcd (p / 2) q=Nat.gcd x y):=by rw [Hid,Rt.gcd_half_left p q c1 (by omega)]; exact HGG.out
       go_wp2
       go_round
       case rel=>exact ⟨p / 2,q,by go_num,rfl,by omega,by omega,by omega,by omega,by omega,HP.out⟩
       case measure=>simp [intOf]; omega
      ·have d1:((p:Int) % 2 == 0)=false:=by simp; omega
       by_cases c2:q % 2=0
       ·have d2:((q:Int) % 2 == 0)=true:=by simp; omega
        have HP:Hid (Nat.gcd p (q / 2)=Nat.gcd x y):=by rw [Hid,Rt.gcd_half_right p q (by omega) c2]; exact HGG.out
        go_wp2
        go_round
        case rel=>exact ⟨p,q / 2,rfl,by go_num,by omega,by omega,by omega,by omega,by omega,HP.out⟩
        case measure=>simp [intOf]; omega
       ·have d2:((q:Int) % 2 == 0)=false:=by simp; omega
        by_cases c3:q < p
        ·have HP:Hid (Nat.gcd (p - q) q=Nat.gcd x y):=by rw [Hid,Rt.gcd_less_left p q (by omega)]; exact HGG.out
         go_wp2
         go_round
         case rel=>exact ⟨p - q,q,by go_num,rfl,by omega,by omega,by omega,by omega,by omega,HP.out⟩
         case measure=>simp [intOf]; omega
        ·have HP:Hid (Nat.gcd p (q - p)=Nat.gcd x y):=by rw [Hid,Rt.gcd_less_right p q (by omega)]; exact HGG.out
         go_wp2
         go_round
         case rel=>exact ⟨p,q - p,rfl,by go_num,by omega,by omega,by omega,by omega,by omega,HP.out⟩
         case measure=>simp [intOf]; omega
end Go.Proofs.YtlndlpjadajelaaGreat
namespace Go.Proofs.YtlndlpjadajelaaGreat
open Go.RowKit Go.Proofs.YtlndlpjadajelaaGreat.Ds
abbrev Tr:=Value × List Int × Int
def Ints (w:World) (B nb:Nat) (v:Value) (xs:List Int):Prop :=
 ∃ a c,v=.slice a xs.length c∧xs.length≤c∧xs.length≤1073741824 ∧
  (xs≠[]→∃ b o,a=some ⟨b,o,none⟩∧b < B∧b≠nb∧∀ i x,xs[i]? = some x→w.cell? ⟨b,o + i,none⟩=some (.int .i64 x))
theorem Ints.keep {w w':World} {B nb:Nat} {v:Value} {xs:List Int} (h:Ints w B nb v xs) (hb:Below B w w'):Ints w' B nb v xs:=by
 obtain ⟨a,c,hv,hc,hl,hx⟩:=h
 refine ⟨a,c,hv,hc,hl,fun hne=>?_⟩
 obtain ⟨b,o,ha,hB,hn,hcell⟩:=hx hne
 exact ⟨b,o,ha,hB,hn,fun i x hi=>(hb.cell (p:=⟨b,o + i,none⟩) hB).trans (hcell i x hi)⟩
theorem Ints.mono {w:World} {B B' nb nb':Nat} {v:Value} {xs:List Int} (h:Ints w B nb v xs) (hB:B≤B') (hn:nb' = nb∨B≤nb'):Ints w B' nb' v xs:=by
 obtain ⟨a,c,hv,hc,hl,hx⟩:=h
 refine ⟨a,c,hv,hc,hl,fun hne=>?_⟩
 obtain ⟨b,o,ha,hb,hnb,hcell⟩:=hx hne
 exact ⟨b,o,ha,by omega,by rcases hn with h | h <;> omega,hcell⟩
def Cells (w:World) (b o:Nat) (ts:List Tr):Prop :=
 ∀ i t,ts[i]? = some t→w.cell? ⟨b,o + i * 2,none⟩=some t.1∧w.cell? ⟨b,o + i * 2 + 1,none⟩=some (.int .i64 t.2.2)
def Parts (w:World) (B:Nat) (v:Value) (ts:List Tr):Prop :=
 ∃ a c,v=.slice a ts.length c∧ts.length≤c∧ts.length≤1073741824∧(∀ t∈ts,Ints w B B t.1 t.2.1) ∧
  (ts≠[]→∃ b o,a=some ⟨b,o,none⟩∧b < B∧Cells w b o ts)
def rd (ts:List Tr):List Pt:=ts.map (·.2)
theorem Cells.keep {w w':World} {B b o:Nat} {ts:List Tr} (h:Cells w b o ts) (hb:Below B w w') (hB:b < B):Cells w' b o ts :=
 fun i t hi=>⟨(hb.cell (p:=⟨b,o + i * 2,none⟩) hB).trans (h i t hi).1,(hb.cell (p:=⟨b,o + i * 2 + 1,none⟩) hB).trans (h i t hi).2⟩
theorem Parts.keep {w w':World} {B:Nat} {v:Value} {ts:List Tr} (h:Parts w B v ts) (hb:Below B w w'):Parts w' B v ts:=by
 obtain ⟨a,c,hv,hc,hl,hi,hx⟩:=h
 refine ⟨a,c,hv,hc,hl,fun t ht=>(hi t ht).keep hb,fun hne=>?_⟩
 obtain ⟨b,o,ha,hB,hcell⟩:=hx hne
 exact ⟨b,o,ha,hB,hcell.keep hb hB⟩
theorem Parts.mono {w:World} {B B':Nat} {v:Value} {ts:List Tr} (h:Parts w B v ts) (hB:B≤B'):Parts w B' v ts:=by
 obtain ⟨a,c,hv,hc,hl,hi,hx⟩:=h
 refine ⟨a,c,hv,hc,hl,fun t ht=>(hi t ht).mono hB (.inr hB),fun hne=>?_⟩
 obtain ⟨b,o,ha,hb,hcell⟩:=hx hne
 exact ⟨b,o,ha,by omega,hcell⟩
theorem get_lt {α:Type} {l:List α} {i:Nat} (h:i < l.length):∃ x,l[i]? = some x:=⟨l[i],List.getElem?_eq_getElem h⟩
theorem ne_of_lt {α:Type} {l:List α} {i:Nat} (h:i < l.length):l≠[]:=by rintro rfl; simp at h
theorem ret_b {a b:Bool} (h:a=b):Ending.returned (.bool a)=.returned (.bool b):=by rw [h]
theorem dr1 (w:World) (a b:Nat):∃ q,(w.drewN a).drewN b=w.drewN q:=by simp only [World.drewN_drewN]; exact ⟨_,rfl⟩
theorem cmpT_step {x y:List Int} {i:Nat} {a b:Int} (hx:x[i]? = some a) (hy:y[i]? = some b) :
  cmpT (x.drop i) (y.drop i)=if a < b then -1 else if b < a then 1 else cmpT (x.drop (i + 1)) (y.drop (i + 1)):=by
 rw [List.drop_eq_getElem_cons (List.getElem?_eq_some_iff.1 hx).1,List.drop_eq_getElem_cons (List.getElem?_eq_some_iff.1 hy).1,(List.getElem?_eq_some_iff.1 hx).2,(List.getElem?_eq_some_iff.1 hy).2]
 rfl
end Go.Proofs.YtlndlpjadajelaaGreat
