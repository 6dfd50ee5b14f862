import Derived.Test.YtlndlpjadajelaaGreatQq31
import Derived.Test.YtlndlpjadajelaaGreatQq25
import Derived.Test.YtlndlpjadajelaaGreatQq20
import Derived.Test.YtlndlpjadajelaaGreatQq17
import Derived.Test.YtlndlpjadajelaaGreatQq19
import Derived.Maps.Own
import Derived.Maps.OwnOps
import Derived.Maps.OwnSet
import Derived.Maps.Views
import Derived.Test.YtlndlpjadajelaaGreatQq18
import Derived.Deep.RegionHeld3
namespace Go.Proofs.YtlndlpjadajelaaGreat.K
open Go.RowKit Go.Proofs.YtlndlpjadajelaaGreat.K.Ds
abbrev Nx:=Value × List Int × Int
def Nxs (w:World) (B:Nat) (v:Value) (l:List Nx):Prop :=
 ∃ a c,v=.slice a l.length c∧l.length≤c∧l.length≤9223372036854775807∧(∀ x∈l,Ints w B B x.1 x.2.1) ∧
  (l≠[]→∃ b o,a=some ⟨b,o,none⟩∧b < B∧∀ i x,l[i]? = some x→w.cell? ⟨b,o + i * 2,none⟩=some x.1∧w.cell? ⟨b,o + i * 2 + 1,none⟩=some (.int .i64 x.2.2))
def nd (l:List Nx):List (List Int × Int):=l.map (·.2)
theorem Nxs.keep {w w':World} {B:Nat} {v:Value} {l:List Nx} (h:Nxs w B v l) (hb:Below B w w'):Nxs w' B v l:=by
 obtain ⟨a,c,hv,hc,hl,hi,hx⟩:=h
 refine ⟨a,c,hv,hc,hl,fun t ht=>(hi t ht).keep hb,fun hne=>?_⟩
 obtain ⟨b,o,ha,hB,hcell⟩:=hx hne
 exact ⟨b,o,ha,hB,fun i t ht=>⟨(hb.cell (p:=⟨b,o + i * 2,none⟩) hB).trans (hcell i t ht).1,(hb.cell (p:=⟨b,o + i * 2 + 1,none⟩) hB).trans (hcell i t ht).2⟩⟩
theorem Nxs.at {w w':World} {B:Nat} {v:Value} {l:List Nx} (h:Nxs w B v l) (hB:B≤w.heap.size) (hb:Below w.heap.size w w'):Nxs w' B v l:=h.keep (hb.mono hB)
theorem Nxs.slice {w:World} {B:Nat} {v:Value} {l:List Nx} (h:Nxs w B v l):∃ a c,v=.slice a l.length c∧l.length≤c∧l.length≤9223372036854775807:=by
 obtain ⟨a,c,hv,hc,hl,_⟩:=h
 exact ⟨a,c,hv,hc,hl⟩
theorem Nxs.get {w wr:World} {B:Nat} {a:Option Addr} {n c:Nat} {l:List Nx} (h:Nxs w B (.slice a n c) l) (hB:B≤w.heap.size) (hb:Below w.heap.size w wr) {i:Nat} (hi:i < l.length) :
  ∃ b o sa sc xs k,a=some ⟨b,o,none⟩∧b < B∧l[i]? = some (.slice sa xs.length sc,xs,k)∧wr.cell? ⟨b,o + i * 2,none⟩=some (.slice sa xs.length sc)∧wr.cell? ⟨b,o + i * 2 + 1,none⟩=some (.int .i64 k)∧Ints wr B B (.slice sa xs.length sc) xs:=by
 obtain ⟨a',c',hv,_,_,hin,hx⟩:=h.at hB hb
 simp only [Value.slice.injEq] at hv
 obtain ⟨rfl,rfl,rfl⟩:=hv
 obtain ⟨b,o,rfl,hbB,hcell⟩:=hx (ne_of_lt hi)
 obtain ⟨⟨tv,xs,k⟩,ht⟩:=get_lt hi
 have hI:=hin _ (List.mem_of_getElem? ht)
 obtain ⟨sa,sc,he,_⟩:=hI
 simp only at he
 subst he
 exact ⟨b,o,sa,sc,xs,k,rfl,hbB,ht,(hcell i _ ht).1,(hcell i _ ht).2,hin _ (List.mem_of_getElem? ht)⟩
structure Tu where
 v0:Value
 v1:Value
 v2:Value
 v3:Value
 v4:Value
 v5:Value
 q:Qu
 u:Int
 d:Int
 lo:Int
 hi:Int
 nv:Value
 ns:List Nx
abbrev tuv (t:Tu):Value:=.agg #[t.v0,t.v1,t.v2,t.v3,t.v4,t.v5,.int .i64 t.u,.int .i64 t.d,.int .i64 t.lo,.int .i64 t.hi,t.nv]
def At11 (w:World) (b o:Nat) (t:Tu):Prop :=
 At6 w b o t.v0 t.v1 t.v2 t.v3 t.v4 t.v5∧w.cell? ⟨b,o + 6,none⟩=some (.int .i64 t.u)∧w.cell? ⟨b,o + 7,none⟩=some (.int .i64 t.d)∧w.cell? ⟨b,o + 8,none⟩=some (.int .i64 t.lo)∧w.cell? ⟨b,o + 9,none⟩=some (.int .i64 t.hi)∧w.cell? ⟨b,o + 10,none⟩=some t.nv
theorem At11.keep {w w':World} {B b o:Nat} {t:Tu} (h:At11 w b o t) (hb:Below B w w') (hB:b < B):At11 w' b o t :=
 ⟨h.1.keep hb hB,(hb.cell (p:=⟨b,o + 6,none⟩) hB).trans h.2.1,(hb.cell (p:=⟨b,o + 7,none⟩) hB).trans h.2.2.1,(hb.cell (p:=⟨b,o + 8,none⟩) hB).trans h.2.2.2.1,(hb.cell (p:=⟨b,o + 9,none⟩) hB).trans h.2.2.2.2.1,(hb.cell (p:=⟨b,o + 10,none⟩) hB).trans h.2.2.2.2.2⟩
def Pln (w:World) (B:Nat) (v:Value) (l:List Tu):Prop :=
 ∃ a c,v=.slice a l.length c∧l.length≤c∧l.length≤9223372036854775807∧(∀ t∈l,Qm w B t.q t.v0 t.v1 t.v2 t.v3 t.v4 t.v5∧Nxs w B t.nv t.ns) ∧
  (l≠[]→∃ b o,a=some ⟨b,o,none⟩∧b < B∧∀ i t,l[i]? = some t→At11 w b (o + i * 11) t)
theorem Pln.keep {w w':World} {B:Nat} {v:Value} {l:List Tu} (h:Pln w B v l) (hb:Below B w w'):Pln w' B v l:=by
 obtain ⟨a,c,hv,hc,hl,hi,hx⟩:=h
 refine ⟨a,c,hv,hc,hl,fun t ht=>⟨Qm.keep hb _ (hi t ht).1,(hi t ht).2.keep hb⟩,fun hne=>?_⟩
 obtain ⟨b,o,ha,hB,hcell⟩:=hx hne
 exact ⟨b,o,ha,hB,fun i t ht=>(hcell i t ht).keep hb hB⟩
theorem Pln.at {w w':World} {B:Nat} {v:Value} {l:List Tu} (h:Pln w B v l) (hB:B≤w.heap.size) (hb:Below w.heap.size w w'):Pln w' B v l:=h.keep (hb.mono hB)
theorem Pln.slice {w:World} {B:Nat} {v:Value} {l:List Tu} (h:Pln w B v l):∃ a c,v=.slice a l.length c∧l.length≤c∧l.length≤9223372036854775807:=by
 obtain ⟨a,c,hv,hc,hl,_⟩:=h
 exact ⟨a,c,hv,hc,hl⟩
theorem Pln.get {w wr:World} {B:Nat} {a:Option Addr} {n c:Nat} {l:List Tu} (h:Pln w B (.slice a n c) l) (hB:B≤w.heap.size) (hb:Below w.heap.size w wr) {i:Nat} (hi:i < l.length) :
  ∃ b o t,a=some ⟨b,o,none⟩∧b < B∧l[i]? = some t∧At11 wr b (o + i * 11) t∧Qm wr B t.q t.v0 t.v1 t.v2 t.v3 t.v4 t.v5∧Nxs wr B t.nv t.ns:=by
 obtain ⟨a',c',hv,_,_,hin,hx⟩:=h.at hB hb
 simp only [Value.slice.injEq] at hv
 obtain ⟨rfl,rfl,rfl⟩:=hv
 obtain ⟨b,o,rfl,hbB,hcell⟩:=hx (ne_of_lt hi)
 obtain ⟨t,ht⟩:=get_lt hi
 have hm:=List.mem_of_getElem? ht
 exact ⟨b,o,t,rfl,hbB,ht,hcell i t ht,(hin t hm).1,(hin t hm).2⟩
end Go.Proofs.YtlndlpjadajelaaGreat.K
namespace Go.Proofs.YtlndlpjadajelaaGreat
def nxT:List (List Int × Int)→List Int→Int
 | [],_=>-1
 | n :: ns,x=>if n.1=x then n.2 else nxT ns x
end Go.Proofs.YtlndlpjadajelaaGreat
namespace Go.Proofs.YtlndlpjadajelaaGreat
open Go.RowKit Go.Proofs.YtlndlpjadajelaaGreat.Ds
structure Tn where
 q:K.Ds.Qu
 u:Int
 d:Int
 lo:Int
 hi:Int
 ns:List (List Int × Int)
def stpT:List Pt:=[([],1)]
def entT (nm:ByteArray) (pt:Int × Int) (p q:Int):K.P.En:=if pt.2=0 then (3,nm,pt.1,p,q) else (2,nm,0,p,q)
def folT (g:List Int→Option (List Pt)):List Pt→Option (List (List Int × List Pt))
 | []=>some []
 | p :: d=>match g p.1 with
  | none=>none
  | some y=>if (bothT [(p.1,1)] y).2=0 then (match folT g d with
   | none=>none
   | some fs=>some ((p.1,(bothT [(p.1,1)] y).1) :: fs)) else none
def onT (g:List Int→Option (List Pt)) (ls:List (List Pt)):Option (List Pt) :=
 if (bfT stpT ls).2=0 then (match folT g (bfT stpT ls).1 with
  | none=>none
  | some fs=>if (bindT (bfT stpT ls).1 (thenT fs)).2=0 then some (bindT (bfT stpT ls).1 (thenT fs)).1 else none) else none
def talkT (l:List K.Ds.Col) (rs:List (List Int)) (pt:K.Ds.Qu→Int × Int) (nm:ByteArray) (plan:List Tn):Nat→Int→List K.P.En→Option (List Pt)
 | 0,_,_=>some stpT
 | k + 1,a,paid=>if a < 0 then some stpT else match plan[a.toNat]? with
  | none=>some stpT
  | some t =>
   if (ansT t.u t.d t.lo t.hi l rs t.q).2.2.2=0 then
    (if K.P.doT (K.P.bookT [] paid).2 (K.P.nrm (entT nm (pt t.q) (ansT t.u t.d t.lo t.hi l rs t.q).2.1 (ansT t.u t.d t.lo t.hi l rs t.q).2.2.1))=0 then
     onT (fun x=>talkT l rs pt nm plan k (nxT t.ns x) (paid ++ [entT nm (pt t.q) (ansT t.u t.d t.lo t.hi l rs t.q).2.1 (ansT t.u t.d t.lo t.hi l rs t.q).2.2.1])) (ansT t.u t.d t.lo t.hi l rs t.q).1
    else some stpT)
   else some stpT
theorem dis_one {o:List Int} (h:okO o=true):Dis [(o,1)]:=by
 refine ⟨List.pairwise_singleton _ _,?_,by simp [tot],by simp,?_,by simp,by simp [dv]⟩
 ·intro p hp
  rw [List.mem_singleton.1 hp]
  exact (by decide:(0:Int) < 1)
 ·simp [okP,h]
theorem stp_dis:Dis stpT:=dis_one (by decide)
theorem fol_then {g:List Int→Option (List Pt)}:∀ {d:List Pt} {fs:List (List Int × List Pt)},folT g d=some fs→∀ p∈d,∃ y,g p.1=some y∧(bothT [(p.1,1)] y).2=0∧thenT fs p.1=(bothT [(p.1,1)] y).1
 | [],_,_,p,hp=>by simp at hp
 | r :: d,fs,h,p,hp=>by
  simp only [folT] at h
  cases hg:g r.1 with
  | none=>rw [hg] at h; simp at h
  | some y =>
   rw [hg] at h
   simp only at h
   split at h
   ·rename_i c
    cases hf:folT g d with
    | none=>rw [hf] at h; simp at h
    | some fs' =>
     rw [hf] at h
     simp only [Option.some.injEq] at h
     subst h
     by_cases ce:r.1=p.1
     ·refine ⟨y,by rw [← ce]; exact hg,by rw [← ce]; exact c,?_⟩
      rw [thenT,if_pos ce,← ce]
     ·rcases List.mem_cons.1 hp with rfl | hp
      ·exact absurd rfl ce
      ·obtain ⟨z,h1,h2,h3⟩:=fol_then hf p hp
       refine ⟨z,h1,h2,?_⟩
       rw [thenT,if_neg ce,h3]
   ·simp at h
theorem on_rb {g g':List Int→Option (List Pt)} {ls ms:List (List Pt)} {a b:List Pt} {u d:Int} (hd:1≤d) (hdu:d≤u) {n:Nat} (hn:Nf u d n ls ms) {M:Rat} (hM:1≤M) (hg:∀ x y y',g x=some y→g' x=some y'→Rb M y y') (ha:onT g ls=some a) (hb:onT g' ms=some b):Rb (rp (rq u d) n * M) a b:=by
 unfold onT at ha hb
 split at ha
 ·rename_i c1
  split at hb
  ·rename_i c2
   have h0:=rb_places hd hdu hn (Rb.same stp_dis) (show bfT stpT ls=_ by rw [← c1]) (show bfT stpT ms=_ by rw [← c2])
   rw [Rat.one_mul] at h0
   generalize (bfT stpT ls).1=D at *
   generalize (bfT stpT ms).1=E at *
   cases f1:folT g D with
   | none=>rw [f1] at ha; simp at ha
   | some fs =>
    cases f2:folT g' E with
    | none=>rw [f2] at hb; simp at hb
    | some fs' =>
     rw [f1] at ha
     rw [f2] at hb
     simp only at ha hb
     split at ha
     ·rename_i k1
      split at hb
      ·rename_i k2
       simp only [Option.some.injEq] at ha hb
       subst ha hb
       unfold bindT at k1 k2 ⊢
       have o1:(ownT D).2=0:=by rw [h0.dx.own]
       have o2:(ownT E).2=0:=by rw [h0.dy.own]
       rw [if_pos o1] at k1 ⊢
       rw [if_pos o2] at k2 ⊢
       refine h0.chain hM (fun p _ he=>own_dis he) (fun p _ he=>own_dis he) (fun p hp he he'=>?_) (Prod.ext rfl k1) (Prod.ext rfl k2)
       have hp2:p.1∈E.map (·.1):=by rw [← outs_eq h0.dx h0.dy h0.sup]; exact List.mem_map.2 ⟨p,hp,rfl⟩
       obtain ⟨p',hp',hpe⟩:=List.mem_map.1 hp2
       obtain ⟨y,y1,y2,y3⟩:=fol_then f1 p hp
       obtain ⟨z,z1,z2,z3⟩:=fol_then f2 p' hp'
       rw [hpe] at z1 z2 z3
       have q1:=(ownT_ok (Prod.ext rfl he:ownT (thenT fs p.1)=((ownT (thenT fs p.1)).1,0))).1
       have q2:=(ownT_ok (Prod.ext rfl he':ownT (thenT fs' p.1)=((ownT (thenT fs' p.1)).1,0))).1
       rw [q1,q2,y3,z3]
       have:=(Rb.same (dis_one (h0.dx.okO hp))).both (hg p.1 y z y1 z1) (Prod.ext rfl y2) (Prod.ext rfl z2)
       rw [Rat.one_mul] at this
       exact this
      ·simp at hb
     ·simp at ha
  ·simp at hb
 ·simp at ha
def spV (nm:ByteArray) (V:List Int) (paid:List K.P.En):Rat:=prodR (V.map (spW nm paid))
theorem spV_le {nm:ByteArray} {paid:List K.P.En} {B:Rat} (h:∀ w,1≤spW nm paid w∧spW nm paid w≤B):∀ V:List Int,1≤spV nm V paid∧spV nm V paid≤rp B V.length
 | []=>⟨by simp only [spV,List.map_nil,prodR]; exact Rat.le_refl,by simp only [spV,List.map_nil,prodR,List.length_nil,rp]; exact Rat.le_refl⟩
 | w :: V=>by
  obtain ⟨h1,h2⟩:=spV_le h V
  obtain ⟨h3,h4⟩:=h w
  simp only [spV,List.map_cons,prodR,List.length_cons,rp] at *
  have a:=Rat.mul_le_mul_of_nonneg_left h1 (show 0≤spW nm paid w by grind)
  have b:=Rat.mul_le_mul_of_nonneg_right h4 (show 0≤prodR (V.map (spW nm paid)) by grind)
  have c:=Rat.mul_le_mul_of_nonneg_left h2 (show 0≤B by grind)
  constructor <;> grind
theorem spV_snoc (nm:ByteArray) (paid:List K.P.En) (e:K.P.En):∀ V:List Int,spV nm V (paid ++ [e])=spV nm V paid * prodR (V.map fun w=>fcW nm w e)
 | []=>by simp only [spV,List.map_nil,prodR]; rw [Rat.mul_one]
 | w :: V=>by
  have:=spV_snoc nm paid e V
  simp only [spV,List.map_cons,prodR] at *
  rw [this,spW_snoc]
  grind
theorem fc_all (nm:ByteArray) (z p q:Int):∀ V:List Int,prodR (V.map fun w=>fcW nm w (2,nm,z,p,q))=rp (rq p q) V.length
 | []=>rfl
 | w :: V=>by
  have:=fc_all nm z p q V
  simp only [List.map_cons,prodR,List.length_cons,rp]
  rw [this]
  simp only [fcW,true_or,and_self,if_true,lsR]
  grind
theorem fc_part (nm:ByteArray) (v p q:Int):∀ V:List Int,prodR (V.map fun w=>fcW nm w (3,nm,v,p,q))=rp (rq p q) (V.count v)
 | []=>rfl
 | w :: V=>by
  have:=fc_part nm v p q V
  simp only [List.map_cons,prodR]
  rw [this]
  by_cases c:v=w
  ·subst c
   rw [List.count_cons_self]
   simp [fcW,lsR,rp]
   grind
  ·rw [List.count_cons_of_ne (fun h=>c h.symm)]
   simp [fcW,c,Rat.one_mul]
theorem talk_rb {l:List K.Ds.Col} {rs us:List (List Int)} (h1:K.Ds.wroE l rs=0) (h2:K.Ds.wroE l us=0) {pt:K.Ds.Qu→Int × Int} {nm:ByteArray} {plan:List Tn} (hq:∀ t∈plan,t.q≠.none)
  (hpt:∀ t∈plan,(pt t.q).2=0→(∃ b,K.Ds.bnd l 1 t.q=.ok b)→∀ R:List (List Int),K.ans l R t.q=K.ans l (R.filter (isW (pt t.q).1)) t.q) {B:Int × Int} :
  ∀ (k:Nat) (i:Int) (paid:List K.P.En) (a b:List Pt),Acc paid→(1,nm,0,B)∈paid→talkT l rs pt nm plan k i paid=some a→talkT l us pt nm plan k i paid=some b →
   ∀ M,M * spV nm (vsT rs us (K.Ds.allT l)) paid=rp (lsR B) (vsT rs us (K.Ds.allT l)).length→Rb M a b:=by
 intro k
 have canc:∀ {a b t:Rat},0 < t→a * t=b * t→a=b:=by
  intro a b t ht h
  have:t * (a - b)=0:=by grind
  rcases Rat.mul_eq_zero.1 this with h | h <;> grind
 have big:∀ {paid:List K.P.En},Acc paid→(1,nm,0,B)∈paid→∀ M,M * spV nm (vsT rs us (K.Ds.allT l)) paid=rp (lsR B) (vsT rs us (K.Ds.allT l)).length→1≤M∧0 < spV nm (vsT rs us (K.Ds.allT l)) paid:=by
  intro paid hA hm M hM
  obtain ⟨g1,g2⟩:=spV_le (fun w=>hA.le hm rfl w) (vsT rs us (K.Ds.allT l))
  refine ⟨?_,by grind⟩
  refine Rat.le_of_mul_le_mul_left (c:=spV nm (vsT rs us (K.Ds.allT l)) paid) ?_ (by grind)
  simp only at g2
  rw [← hM] at g2
  grind
 have stop:∀ {paid:List K.P.En},Acc paid→(1,nm,0,B)∈paid→∀ M,M * spV nm (vsT rs us (K.Ds.allT l)) paid=rp (lsR B) (vsT rs us (K.Ds.allT l)).length→Rb M stpT stpT:=fun hA hm M hM=>(Rb.same stp_dis).up (big hA hm M hM).1
 induction k with
 | zero =>
  intro i paid a b hA hm ha hb M hM
  simp only [talkT,Option.some.injEq] at ha hb
  subst ha hb
  exact stop hA hm M hM
 | succ k ih =>
  intro i paid a b hA hm ha hb M hM
  rw [talkT] at ha hb
  by_cases c0:i < 0
  ·rw [if_pos c0] at ha hb
   simp only [Option.some.injEq] at ha hb
   subst ha hb
   exact stop hA hm M hM
  ·rw [if_neg c0] at ha hb
   cases hp:plan[i.toNat]? with
   | none =>
    rw [hp] at ha hb
    simp only [Option.some.injEq] at ha hb
    subst ha hb
    exact stop hA hm M hM
   | some t =>
    have htm:=List.mem_of_getElem? hp
    rw [hp] at ha hb
    simp only at ha hb
    obtain ⟨⟨ls,p,q,e⟩,hX⟩:∃ x,ansT t.u t.d t.lo t.hi l rs t.q=x:=⟨_,rfl⟩
    obtain ⟨⟨ms,p',q',e'⟩,hY⟩:∃ x,ansT t.u t.d t.lo t.hi l us t.q=x:=⟨_,rfl⟩
    rw [hX] at ha
    rw [hY] at hb
    simp only at ha hb
    by_cases c1:e=0
    ·subst c1
     obtain ⟨ms2,N,hY2,hp1,hq1,hr,hdu,hd1,hbn,nf1,nf2⟩:=ans_apart (hq t htm) h1 h2 hX
     rw [hY] at hY2
     simp only [Prod.mk.injEq] at hY2
     obtain ⟨rfl,rfl,rfl,rfl⟩:=hY2
     simp only [if_true] at ha hb
     by_cases c2:K.P.doT (K.P.bookT [] paid).2 (K.P.nrm (entT nm (pt t.q) p' q'))=0
     ·rw [if_pos c2] at ha hb
      have hA2:=hA.snoc c2
      have hm2:(1,nm,0,B)∈paid ++ [entT nm (pt t.q) p' q']:=List.mem_append_left _ hm
      obtain ⟨g1,g2⟩:=spV_le (fun w=>hA2.le hm2 rfl w) (vsT rs us (K.Ds.allT l))
      have sp:0 < spV nm (vsT rs us (K.Ds.allT l)) (paid ++ [entT nm (pt t.q) p' q']):=by grind
      obtain ⟨M',hM'⟩:∃ M',M' * spV nm (vsT rs us (K.Ds.allT l)) (paid ++ [entT nm (pt t.q) p' q'])=rp (lsR B) (vsT rs us (K.Ds.allT l)).length:=⟨_,Rat.div_mul_cancel (by grind)⟩
      obtain ⟨m1,_⟩:=big hA2 hm2 M' hM'
      have lst:rq p' q' = rp (rq t.u t.d) N:=by rw [hp1,hq1,rq_pow hd1]
      obtain ⟨n,hn,hF⟩:∃ n,Nf t.u t.d n ls ms∧prodR ((vsT rs us (K.Ds.allT l)).map fun w=>fcW nm w (entT nm (pt t.q) p' q'))=rp (rq t.u t.d) n:=by
       by_cases c3:(pt t.q).2=0
       ·refine ⟨_,nf2 (pt t.q).1 (hpt t htm c3 hbn),?_⟩
        unfold entT
        rw [if_pos c3,fc_part,lst,rp_mul]
       ·refine ⟨_,nf1,?_⟩
        unfold entT
        rw [if_neg c3,fc_all,lst,rp_mul]
      have hS:=spV_snoc nm paid (entT nm (pt t.q) p' q') (vsT rs us (K.Ds.allT l))
      rw [hF] at hS
      have s0:=(big hA hm M hM).2
      have eM:M=rp (rq t.u t.d) n * M':=by
       refine canc s0 ?_
       rw [hM,← hM',hS]
       grind
      rw [eM]
      exact on_rb hd1 hdu hn m1 (fun x y y' e1 e2=>ih _ _ y y' hA2 hm2 e1 e2 M' hM') ha hb
     ·rw [if_neg c2] at ha hb
      simp only [Option.some.injEq] at ha hb
      subst ha hb
      exact stop hA hm M hM
    ·have c2:e'≠0:=by
      intro h0
      subst h0
      obtain ⟨_,_,hX2,_⟩:=ans_apart (hq t htm) h2 h1 hY
      rw [hX] at hX2
      simp only [Prod.mk.injEq] at hX2
      exact c1 hX2.2.2.2
     rw [if_neg c1] at ha
     rw [if_neg c2] at hb
     simp only [Option.some.injEq] at ha hb
     subst ha hb
     exact stop hA hm M hM
theorem acc_open {nm:ByteArray} {B:Int × Int} (h:K.P.doT [] (K.P.nrm (1,nm,0,B))=0):Acc [(1,nm,0,B)]∧K.P.OkR B:=by
 constructor
 ·exact acc_nil.snoc (e:=(1,nm,0,B)) h
 ·have:=(K.P.bad_ok (K.P.doT_bad h).1).2.2.2
  exact this
theorem spV_open (nm:ByteArray) (B:Int × Int):∀ V:List Int,spV nm V [(1,nm,0,B)]=1
 | []=>rfl
 | w :: V=>by
  have:=spV_open nm B V
  simp only [spV,List.map_cons,prodR] at *
  rw [this]
  simp [spW,fcW,prodR,Rat.mul_one]
theorem top_main {l:List K.Ds.Col} {rs us:List (List Int)} (h1:K.Ds.wroE l rs=0) (h2:K.Ds.wroE l us=0) {pt:K.Ds.Qu→Int × Int} {nm:ByteArray} {plan:List Tn} (hq:∀ t∈plan,t.q≠.none)
  (hpt:∀ t∈plan,(pt t.q).2=0→(∃ b,K.Ds.bnd l 1 t.q=.ok b)→∀ R:List (List Int),K.ans l R t.q=K.ans l (R.filter (isW (pt t.q).1)) t.q) {B:Int × Int} (hB:K.P.doT [] (K.P.nrm (1,nm,0,B))=0)
  {k:Nat} {i:Int} {a b:List Pt} (ha:talkT l rs pt nm plan k i [(1,nm,0,B)]=some a) (hb:talkT l us pt nm plan k i [(1,nm,0,B)]=some b) {x y e:Int} (hf:farT a b=(x,y,e)) :
  (e=0∨e=4)∧(e=0→∀ n,K.Ds.apaS (K.Ds.celT l rs) (K.Ds.celT l us)=n→∀ p q,Rt.powT B.1 B.2 n=(p,q,0)→x * q≤p * y):=by
 obtain ⟨hA,hO⟩:=acc_open hB
 have hR:=talk_rb h1 h2 hq hpt k i _ a b hA (List.mem_singleton.2 rfl) ha hb (rp (lsR B) (vsT rs us (K.Ds.allT l)).length) (by rw [spV_open,Rat.mul_one])
 obtain ⟨g1,g2⟩:=far_of_rat hR.dx hR.dy hR.one (fun o=>⟨chR_nn hR.dx o,(hR.le o).1,(hR.le o).2⟩) hf
 refine ⟨g1,fun he n hn p q hp=>?_⟩
 have g3:=g2 he
 have hvl:=vs_len rs us (K.Ds.allT l)
 unfold K.Ds.celT at hn
 rw [hn] at hvl
 have hbd:=hO.bd
 unfold Rt.powT Rt.mx at hp
 rw [if_pos hO.1] at hp
 by_cases k1:n < 0∨4096 < n
 ·rw [if_pos k1] at hp; simp at hp
 ·rw [if_neg k1] at hp
  by_cases k2:1073741824 < B.1 ^ n.toNat∨1073741824 < B.2 ^ n.toNat
  ·rw [if_pos k2] at hp; simp at hp
  ·rw [if_neg k2] at hp
   simp only [Prod.mk.injEq] at hp
   obtain ⟨rfl,rfl,_⟩:=hp
   have hL:(vsT rs us (K.Ds.allT l)).length=n.toNat:=by omega
   rw [hL] at g3
   have e1:=rp_rq (u:=B.1) (d:=B.2) (by omega) n.toNat
   have e2:lsR B=rq B.1 B.2:=rfl
   rw [e2] at g3
   generalize rp (rq B.1 B.2) n.toNat=M at *
   have em:=q_mul M
   have dm:(0:Rat) < ((M.den:Int):Rat):=int_q0 (by have:=M.den_pos; omega)
   have g4:=int_q.2 g3
   simp only [Rat.intCast_mul] at g4
   rw [← em] at g4
   have g5:(x:Rat)≤M * (y:Rat):=by
    refine Rat.le_of_mul_le_mul_left (c:=((M.den:Int):Rat)) ?_ dm
    grind
   have d0:(0:Rat)≤((B.2 ^ n.toNat:Int):Rat):=int_qn (pow_nn (by omega) _)
   have g6:=Rat.mul_le_mul_of_nonneg_right g5 d0
   refine int_q.1 ?_
   rw [Rat.intCast_mul,Rat.intCast_mul,← e1]
   grind
end Go.Proofs.YtlndlpjadajelaaGreat
namespace Go.Proofs.YtlndlpjadajelaaGreat
open Go.RowKit
def NonN (ns:List K.Nx) (i:Nat) (x:List Int):Prop:=nxT (K.nd ns) x=nxT (K.nd (ns.drop i)) x
theorem NonN.step {ns:List K.Nx} {i:Nat} {x:List Int} {f:K.Nx} (h:NonN ns i x) (hf:ns[i]? = some f) (hne:¬ f.2.1=x):NonN ns (i + 1) x:=by
 unfold NonN at *
 rw [h,List.drop_eq_getElem_cons (List.getElem?_eq_some_iff.1 hf).1,(List.getElem?_eq_some_iff.1 hf).2]
 simp only [K.nd,List.map_cons,nxT]
 rw [if_neg hne]
theorem NonN.hit {ns:List K.Nx} {i:Nat} {x:List Int} {f:K.Nx} (h:NonN ns i x) (hf:ns[i]? = some f) (he:f.2.1=x):nxT (K.nd ns) x=f.2.2:=by
 unfold NonN at *
 rw [h,List.drop_eq_getElem_cons (List.getElem?_eq_some_iff.1 hf).1,(List.getElem?_eq_some_iff.1 hf).2]
 simp only [K.nd,List.map_cons,nxT]
 rw [if_pos he]
theorem NonN.end {ns:List K.Nx} {i:Nat} {x:List Int} (h:NonN ns i x) (hi:ns.length≤i):nxT (K.nd ns) x = -1:=by
 unfold NonN at *
 rw [h,List.drop_eq_nil_of_le hi]
 rfl
set_option maxHeartbeats 1000000 in
theorem next_any (B C:Nat) (t:K.Tu) (xv:Value) (x:List Int) (w:World) (hB:B≤w.heap.size) (hC:C≤w.heap.size) (hq:K.Qm w B t.q t.v0 t.v1 t.v2 t.v3 t.v4 t.v5) (hn:K.Nxs w B t.nv t.ns) (hx:K.Ints w C C xv x) (r:Int) (hr:nxT (K.nd t.ns) x=r) :
  Calls Tryz.prog 47 #[K.tuv t,xv] w fun e w'=>e=.returned (.int .i64 r)∧Below w.heap.size w w':=by
 obtain ⟨v0,v1,v2,v3,v4,v5,q,u,d,lo,hi,nv,ns⟩:=t
 simp only at hq hn hr
 have HN:Hid (K.Nxs w B nv ns):=hn
 have HX:Hid (K.Ints w C C xv x):=hx
 have HR:Hid (nxT (K.nd ns) x=r):=hr
 obtain ⟨kk,kc,kl,kh,ka,kn,kd,kb,km,kp,rfl,rfl,rfl,rfl,rfl,rfl⟩:=hq.shape
 obtain ⟨na,nc,rfl,hnc,hnl⟩:=hn.slice
 obtain ⟨xa,xc,rfl,_⟩:=hx
 clear hr hq hn
 have hbW:Below w.heap.size w (w.alloc (.cells #[.int .i64 kk,.string kc,.int .i64 kl,.int .i64 kh,.slice ka kn kd,.slice kb km kp,.int .i64 u,.int .i64 d,.int .i64 lo,.int .i64 hi,.slice na ns.length nc] 96)):=K.ba _ _
 go_enter Tryz.func47,Tryz.ntmps47
 go_wp2
 go_loopw [10] (fun s wr=>∃ i:Nat,s=.int .i64 (i:Int)∧i≤ns.length∧Hid (NonN ns i x)∧Below w.heap.size w wr) (fun s _=>ns.length - (intOf s).toNat)
 case atStart=>exact ⟨0,rfl,Nat.zero_le _,by simp [Hid,NonN],hbW⟩
 case round =>
  obtain ⟨i,rfl,hit,HT,hbl⟩:=hrel
  have hbs:=hbl.size
  by_cases h1:i < ns.length
  ·obtain ⟨b,o,sa,sc,gs,k,rfl,hb,hs,d1,d2,hI⟩:=HN.out.get hB hbl h1
   have HS:Hid (ns[i]? = some (.slice sa gs.length sc,gs,k)):=hs
   have hb1:Below wr.heap.size wr (wr.alloc (.cells #[.slice sa gs.length sc,.int .i64 k] 149)):=K.ba _ _
   obtain ⟨c,hc⟩:∃ c,Ds.cmpT gs x=c:=⟨_,rfl⟩
   have HE:Hid (Ds.cmpT gs x=c):=hc
   have kcm:=K.refCompareA_any wr.heap.size B C (.slice sa gs.length sc) (.slice xa x.length xc) gs x (wr.alloc (.cells #[.slice sa gs.length sc,.int .i64 k] 149)) ((hI.keep (hb1.mono (by omega))).mono (by omega) (.inl rfl)) ((HX.out.keep ((K.bt hbl hb1).mono hC)).mono (by omega) (.inl rfl)) c hc
   clear hs hI hc
   go_wp2_with fail
   refine kcm.mono ?_
   rintro e w2 ⟨rfl,q,rfl⟩
   clear kcm
   by_cases h2:c=0
   ·subst h2
    have HY:Hid (k=r):=by have:=HT.out.hit HS.out ((Ds.cmpT_zero _ _).1 HE.out); rw [HR.out] at this; exact this.symm
    obtain rfl:=HY.out
    go_wp2
    go_ret
    exact ⟨by first | rfl | simp,below_drewN (K.bt hbl hb1) _⟩
   ·have HT2:Hid (NonN ns (i + 1) x):=HT.out.step HS.out (fun he=>h2 (by rw [← HE.out]; exact (Ds.cmpT_zero _ _).2 he))
    have h3:(c == 0)=false:=by simpa using h2
    go_wp2
    go_roundw
    case rel=>exact ⟨i + 1,by go_num,h1,HT2,below_drewN (K.bt hbl hb1) _⟩
    case measure=>simp [intOf]; omega
  ·have HY:Hid (-1=r):=by rw [← HR.out]; exact (HT.out.end (by omega)).symm
   obtain rfl:=HY.out
   go_wp2
   go_ret
   exact ⟨by first | rfl | simp,hbl⟩
end Go.Proofs.YtlndlpjadajelaaGreat
namespace Go.Proofs.YtlndlpjadajelaaGreat.K.P
open Go.RowKit Go.Proofs.YtlndlpjadajelaaGreat.K.Ds Go.Maps Go.Sort Go.Shelf
theorem sortsI (m:Nat):AnyZI.SortsIn Tryz.prog Tryz.sortedI_ren Fence.wide m :=
 ⟨fun blk off cap ss W hH hblk hsz=>callsIn_wide.2 (AnyM.slices_Sort_int Tryz.sortI blk off cap ss W hH hblk hsz),
  fun p cap W=>callsIn_wide.2 (AnyM.slices_Sort_int_none Tryz.sortI p cap W)⟩
theorem sortsS (m:Nat):AnyZ.SortsIn Tryz.prog Tryz.sortedS_ren Fence.wide m :=
 ⟨fun blk off cap ss W hH hblk hsz=>callsIn_wide.2 (AnyM.slices_Sort_string Tryz.sortS blk off cap ss W hH hblk hsz),
  fun p cap W=>callsIn_wide.2 (AnyM.slices_Sort_string_none Tryz.sortS p cap W)⟩
theorem keysI_any (mb:Option Nat) (W:World):Calls Tryz.prog 197 #[.map mb] W fun e w'=>e=.returned (.func (.func 221) #[] #[.pointer (some ⟨W.heap.size,0,none⟩)])∧w' = W.alloc (.cells #[.map mb] 181) :=
 callsIn_wide.1 (AnyZI.keys_in Tryz.keysI Fence.wide 5 trivial rfl mb W)
theorem keysS_any (mb:Option Nat) (W:World):Calls Tryz.prog 155 #[.map mb] W fun e w'=>e=.returned (.func (.func 194) #[] #[.pointer (some ⟨W.heap.size,0,none⟩)])∧w' = W.alloc (.cells #[.map mb] 178) :=
 callsIn_wide.1 (AnyZ.keys_in Tryz.keysS Fence.wide 5 trivial rfl mb W)
theorem sortedI_any {H:Type} (g b nn:Nat) (D0:DataW H) (R:Value→Option (DataW H × List MemPlace)) (w:World) (hg:g < w.heap.size) (hc:w.cell? ⟨g,0,none⟩=some (.map (some b))) (hown:w.ownsMap Tryz.prog 3 R b nn D0) (hn:nn≤1048576) :
  Calls Tryz.prog 196 #[.func (.func 221) #[] #[.pointer (some ⟨g,0,none⟩)]] w fun e w'=>∃ (v:Value) (ss:List Int),e=.returned v∧ss.Perm (intKeys D0) ∧
   w'.ownsRow w.heap.size 3 1 v ss.length ((ss.mergeSort (fun x y=>decide (x≤y))).map encZ)∧Below w.heap.size w w':=by
 have hsz:=hown.size_le
 have hseq:SeqGives Fence.wide 2 Tryz.prog 221 #[.pointer (some ⟨g,0,none⟩)] encZ (fun ss=>ss.Perm (intKeys D0)) (Maps.size D0) w :=
  AnyZI.keys_gives (ρ:=Tryz.keysI_ren) { Tryz.keysI with } Fence.wide _ trivial rfl (by omega) g b nn D0 _ hg hc hown
 have cS:=AnyZI.sorted_in Tryz.sortedI Fence.wide 5 trivial trivial trivial trivial rfl (by omega) (sortsI _) (enters_of Tryz.func220 (by kernel_rfl) rfl) 221 #[.pointer (some ⟨g,0,none⟩)] trivial (enters_of Tryz.func221 (by kernel_rfl) rfl) _ _ (by unfold maxLen; omega) (by omega) _ hseq
 refine (callsIn_wide.1 cS).mono ?_
 rintro e w' ⟨v,ss,h1,h2,h3,_,h4⟩
 exact ⟨v,ss,h1,h2,h3,h4⟩
theorem sortedS_any {H:Type} (g b nn:Nat) (D0:DataW H) (R:Value→Option (DataW H × List MemPlace)) (w:World) (hg:g < w.heap.size) (hc:w.cell? ⟨g,0,none⟩=some (.map (some b))) (hown:w.ownsMap Tryz.prog 9 R b nn D0) (hn:nn≤1048576) :
  Calls Tryz.prog 154 #[.func (.func 194) #[] #[.pointer (some ⟨g,0,none⟩)]] w fun e w'=>∃ (v:Value) (ss:List (List UInt8)),e=.returned v∧ss.Perm (strKeys D0) ∧
   w'.ownsRow w.heap.size 9 1 v ss.length ((ss.mergeSort (fun x y=>decide (x≤y))).map encStr)∧Below w.heap.size w w':=by
 have hsz:=hown.size_le
 have hseq:SeqGives Fence.wide 2 Tryz.prog 194 #[.pointer (some ⟨g,0,none⟩)] encStr (fun ss=>ss.Perm (strKeys D0)) (Maps.size D0) w :=
  AnyZ.keys_gives (ρ:=Tryz.keysS_ren) { Tryz.keysS with } Fence.wide _ trivial rfl (by omega) g b nn D0 _ hg hc hown
 have cS:=AnyZ.sorted_in Tryz.sortedS Fence.wide 5 trivial trivial trivial trivial rfl (by omega) (sortsS _) (enters_of Tryz.func193 (by kernel_rfl) rfl) 194 #[.pointer (some ⟨g,0,none⟩)] trivial (enters_of Tryz.func194 (by kernel_rfl) rfl) _ _ (by unfold maxLen; omega) (by omega) _ hseq
 refine (callsIn_wide.1 cS).mono ?_
 rintro e w' ⟨v,ss,h1,h2,h3,_,h4⟩
 exact ⟨v,ss,h1,h2,h3,h4⟩
theorem intKeys_has {H:Type} {b nn:Nat} {D0:DataW H} {R:Value→Option (DataW H × List MemPlace)} {w:World} (hown:w.ownsMap Tryz.prog 3 R b nn D0) (x:Int):x∈intKeys D0↔has D0 (.int .i64 x)=true:=by
 obtain ⟨es,rfl,hko⟩:=hown.keysOf
 have hk:∀ p∈es,∃ x,p.1=.int .i64 x:=fun p hp=>by
  obtain ⟨v,hv⟩:=hko p hp
  obtain ⟨y,_,hy,_⟩:=Maps.keyOf_i64 Tryz.underlying3 hv
  exact ⟨y,hy⟩
 rw [has_eq,List.any_eq_true]
 show x∈es.map (fun p=>Go.intOf p.1)↔_
 rw [List.mem_map]
 constructor
 ·rintro ⟨p,hp',rfl⟩
  obtain ⟨a,ha⟩:=hk p hp'
  exact ⟨p,hp',by rw [ha]; simp [Lit.sameKey,Go.intOf]⟩
 ·rintro ⟨p,hp',hs⟩
  obtain ⟨a,ha⟩:=hk p hp'
  rw [ha] at hs
  exact ⟨p,hp',by rw [ha]; simpa [Lit.sameKey,Go.intOf] using hs⟩
theorem cloneM_any {H:Type} (R:Value→Option (DataW H × List MemPlace)) (b n:Nat) (D:DataW H) (w:World) (hown:w.ownsMap Tryz.prog 3 R b n D) :
  Calls Tryz.prog 214 #[.map (some b)] w fun e w'=>e=.returned (.map (some w.heap.size))∧w'.ownsMap Tryz.prog 3 R w.heap.size n D∧Below w.heap.size w w'∧w.heap.size < w'.heap.size:=by
 refine (AnyW.maps_Clone_owns Tryz.cloneM 3 R b n D w hown).mono ?_
 rintro e w' ⟨h1,h2,_,h3⟩
 exact ⟨h1,h2,h3,h2.lt⟩
theorem cloneS_any (s:ByteArray) (w:World) (hs:s.size≤281474976710656):Calls Tryz.prog 191 #[.string s] w fun e w'=>e=.returned (.string s)∧Below w.heap.size w w':=by
 have hc:=fun W=>AnyPu.stringslite_Clone Tryz.cloneT s W hs
 change ∀ W,Calls Tryz.prog 215 _ W _ at hc
 go_enter Tryz.func191,Tryz.ntmps191
 go_wp2_with (go_at_call 215; refine (hc _).mono ?_; rintro e w' ⟨rfl,hb⟩)
 go_ret
 exact ⟨rfl,hb⟩
end Go.Proofs.YtlndlpjadajelaaGreat.K.P
namespace Go.Proofs.YtlndlpjadajelaaGreat.K.P
open Go.RowKit Go.Proofs.YtlndlpjadajelaaGreat.K.Ds
open Go.Maps (Keyed int_keyed string_keyed keyOf_int_mk)
open Go.WideMaps (keyOf_string_mk)
theorem gb_refl (w:World) (r:Option Nat):w.grownBy w r:=World.grownBy.refl w r
theorem gb_trans {a b c:World} {r:Option Nat} (h:a.grownBy b r) (k:b.grownBy c r):a.grownBy c r :=
 ⟨k.os.trans h.os,k.tape.trans h.tape,k.output.trans h.output,Nat.le_trans h.size k.size,fun i hi hr=>(k.block i (Nat.lt_of_lt_of_le hi h.size) hr).trans (h.block i hi hr)⟩
theorem gb_alloc {a b:World} {r:Option Nat} (h:a.grownBy b r) (o:Obj):a.grownBy (b.alloc o) r:=gb_trans h (World.grownBy_alloc b o r)
theorem gb_drew {a b:World} {r:Option Nat} (h:a.grownBy b r):a.grownBy b.drew r:=⟨h.os,h.tape,h.output,h.size,h.block⟩
theorem gb_set {a b:World} {E:Nat} (h:a.grownBy b (some E)) (k:Nat) (u:Value):a.grownBy (b.setCell ⟨E,k,none⟩ u) (some E) :=
 gb_trans h ⟨rfl,rfl,rfl,by simp [World.setCell],fun i _ hr=>Below.heap_setCell _ _ _ _ (by intro e; exact hr (by rw [e]))⟩
theorem gb_below {a b:World} {r:Option Nat} (h:Below a.heap.size a b):a.grownBy b r:=⟨h.os,h.tape,h.output,h.size,fun k hk _=>h.block k hk⟩
theorem below_gb {a b:World} {E B:Nat} (h:a.grownBy b (some E)) (hB:B≤E) (hE:B≤a.heap.size):Below B a b:=⟨h.os,h.tape,h.output,h.size,fun k hk=>h.block k (by omega) (by simp; omega)⟩
theorem ints_gbk {w w':World} {B nb:Nat} {v:Value} {xs:List Int} (h:Ints w B nb v xs) (hg:w.grownBy w' (some nb)):Ints w' B nb v xs:=by
 obtain ⟨a,c,hv,hc,hl,hx⟩:=h
 refine ⟨a,c,hv,hc,hl,fun hne=>?_⟩
 obtain ⟨b,o,ha,hB,hn,hcell⟩:=hx hne
 exact ⟨b,o,ha,hB,hn,fun i x hi=>hg.cell (hcell i x hi) (by simpa using hn)⟩
theorem ints_gep {w:World} {B nb:Nat} {a:Option Addr} {n c:Nat} {xs:List Int} (h:Ints w B nb (.slice a n c) xs) {i:Nat} (hi:i < xs.length) :
  ∃ b o x,a=some ⟨b,o,none⟩∧b < B∧xs[i]? = some x∧w.cell? ⟨b,o + i,none⟩=some (.int .i64 x):=by
 obtain ⟨a',c',hv,_,_,hx⟩:=h
 simp only [Value.slice.injEq] at hv
 obtain ⟨rfl,rfl,rfl⟩:=hv
 obtain ⟨b,o,ha,hb,_,hcell⟩:=hx (ne_of_lt hi)
 obtain ⟨x,hx⟩:=get_lt hi
 exact ⟨b,o,x,ha,hb,hx,hcell i x hx⟩
theorem ints_of_owns {w:World} {base nb:Nat} {v:Value} {xs:List Int} {n:Nat} (hn:n=xs.length) (hl:xs.length≤9223372036854775807) (h:w.ownsRow base 3 1 v n (xs.map (.int .i64))) (hnb:nb < base):Ints w w.heap.size nb v xs:=by
 subst hn
 obtain ⟨_,⟨hv,h0⟩ | ⟨g,cap,cur,hv,hb,hcur,hc,_,hsz,hx⟩⟩:=h
 ·obtain rfl:xs=[]:=by cases xs <;> simp_all
  exact ⟨none,0,hv,Nat.le_refl _,hl,fun h=>absurd rfl h⟩
 ·refine ⟨_,cap,hv,hc,hl,fun _=>⟨g,0,rfl,(Array.getElem?_eq_some_iff.1 hcur).1,by omega,fun i x hi=>?_⟩⟩
  have hi2:i < xs.length:=(List.getElem?_eq_some_iff.1 hi).1
  have:cur[i]? = some (.int .i64 x):=by
   have h1:(xs.map (Value.int .i64))[i]? = some (.int .i64 x):=by simp [hi]
   rw [← hx,List.getElem?_take_of_lt (by omega)] at h1
   simpa using h1
  simp [World.cell?,hcur,this]
structure TwoB (w:World) (R:Nat) (x y:Value):Prop where
 c0:w.cell? ⟨R,0,none⟩=some x
 c1:w.cell? ⟨R,1,none⟩=some y
 f0:w.frozen? ⟨R,0,none⟩=false
 f1:w.frozen? ⟨R,1,none⟩=false
 lt:R < w.heap.size
theorem TwoB.below {w w':World} {R:Nat} {x y:Value} (h:TwoB w R x y) (b:Below w.heap.size w w'):TwoB w' R x y :=
 ⟨(b.cell (p:=⟨R,0,none⟩) h.lt).trans h.c0,(b.cell (p:=⟨R,1,none⟩) h.lt).trans h.c1,(b.frozen (p:=⟨R,0,none⟩) h.lt).trans h.f0,(b.frozen (p:=⟨R,1,none⟩) h.lt).trans h.f1,Nat.lt_of_lt_of_le h.lt b.size⟩
theorem TwoB.new (w:World) (x y:Value) (t:TypeId) (N:Nat) (hN:N=w.heap.size):TwoB (w.alloc (.cells #[x,y] t)) N x y :=
 ⟨nc _ _ 0 _ hN rfl,nc _ _ 1 _ hN rfl,nf _ _ 0 hN,nf _ _ 1 hN,by simp; omega⟩
theorem TwoB.put {w:World} {R:Nat} {x y:Value} (h:TwoB w R x y) (u v:Value):TwoB ((w.setCell ⟨R,0,none⟩ u).setCell ⟨R,1,none⟩ v) R u v:=by
 have h0:TwoB (w.setCell ⟨R,0,none⟩ u) R u y:=⟨sc_same h.c0,(sc_other (by simp)).trans h.c1,sc_frozen.trans h.f0,sc_frozen.trans h.f1,by simpa using h.lt⟩
 exact ⟨(sc_other (by simp)).trans h0.c0,sc_same h0.c1,sc_frozen.trans h0.f0,sc_frozen.trans h0.f1,by simpa using h0.lt⟩
def hR:Value→Option (DataW Value × List MemPlace):=fun v=>some (.held v,[])
theorem law3:Keyed Tryz.prog 3:=int_keyed Tryz.underlying3
theorem law9:Keyed Tryz.prog 9:=string_keyed Tryz.underlying9
theorem zero31 (w:World):(zeroValue 23).run Tryz.prog w=.ok (rv 0 0) w:=by kernel_rfl
abbrev rvq (r:Rq):Value:=rv r.1 r.2
abbrev pv (b a:Rq) (m:Nat):Value:=.agg #[.int .i64 b.1,.int .i64 b.2,.int .i64 a.1,.int .i64 a.2,.map (some m)]
theorem zero60 (w:World):(zeroValue 183).run Tryz.prog w=.ok (.agg #[.int .i64 0,.int .i64 0,.int .i64 0,.int .i64 0,.map none]) w:=by kernel_rfl
structure Pts (w:World) (b n:Nat) (D:DataW Value) (P:Int→Prop) (f:Int→Rq):Prop where
 own:w.ownsMap Tryz.prog 3 hR b n D
 is:∀ z,Maps.has D (.int .i64 z)=true↔P z
 el:∀ z,P z→D.atKey (.int .i64 z) (.held (rv 0 0))=.held (rvq (f z))
 rng:∀ z,P z→0≤z∧z≤1073741824
theorem gb_none {w w':World} (h:Below w.heap.size w w'):w.grownBy w' none:=gb_below h
theorem Pts.gb {w w':World} {b n:Nat} {D:DataW Value} {P:Int→Prop} {f:Int→Rq} {r:Option Nat} (h:Pts w b n D P f) (hg:w.grownBy w' r) (hne:some b≠r):Pts w' b n D P f :=
 ⟨h.own.kept hg hne,h.is,h.el,h.rng⟩
theorem Pts.keep {w w':World} {b n:Nat} {D:DataW Value} {P:Int→Prop} {f:Int→Rq} (h:Pts w b n D P f) (hb:Below w.heap.size w w'):Pts w' b n D P f:=h.gb (gb_none hb) (by simp)
theorem Pts.look {w:World} {b n:Nat} {D:DataW Value} {P:Int→Prop} {f:Int→Rq} (h:Pts w b n D P f) {z:Int} (hz:P z) :
  (Instr.lookup 181 (.map (some b)) (.int .i64 z) false).run Tryz.prog w=.ok (rvq (f z)) w:=by
 have hwf:(Lit.int .i64 z).wf=true:=WalkArith.wf_i64 (by have:=h.rng z hz; omega)
 obtain ⟨v',ps,hrun,hat⟩:=h.own.lookup law3 Tryz.underlying181 (zero31 w) (zd:=.held (rv 0 0)) (zp:=[]) rfl (keyOf_int_mk Tryz.underlying3 hwf)
 rw [h.el z hz] at hat
 simp [hR] at hat
 rw [hrun,hat.1]
theorem one_any (w:World):Calls Tryz.prog 195 #[] w fun e w'=>e=.returned (rv 1 1)∧Below w.heap.size w w':=by
 go_enter Tryz.func195,Tryz.ntmps195
 go_wp2
 exact bodyPost_ret (v:=rv 1 1) (by simp [results,Tryz.results195,go_sem]) rfl ⟨rfl,ba _ _⟩
theorem more_any (a b:Rq) (ha:OkR a) (hb:OkR b) (r:Bool) (hr:decide (LeR a b) = !r) (w:World):Calls Tryz.prog 198 #[rvq a,rvq b] w fun e w'=>e=.returned (.bool r)∧Below w.heap.size w w':=by
 have h:=order_any a.1 a.2 b.1 b.2
 cases r with
 | true =>
  have h1:Rt.orderT a.1 a.2 b.1 b.2=(1,0):=by
   have:¬ LeR a b:=of_decide_eq_false hr
   unfold LeR at this
   unfold Rt.orderT; rw [if_pos ⟨ha.1,hb.1⟩,if_neg (by omega),if_pos (by omega)]
  have k:=h 1 0 h1
  clear h h1 hr
  go_enter Tryz.func198,Tryz.ntmps198
  go_wp2_with fail
  refine (k _).mono ?_
  rintro e w1 ⟨rfl,hb1⟩
  go_wp2
  go_ret
  exact ⟨rfl,bt (bal (ba _ _) _) hb1⟩
 | false =>
  obtain ⟨k0,hk0,h1⟩:∃ k0:Int,k0≤0∧Rt.orderT a.1 a.2 b.1 b.2=(k0,0):=by
   have:LeR a b:=of_decide_eq_true hr
   unfold LeR at this
   unfold Rt.orderT; rw [if_pos ⟨ha.1,hb.1⟩]
   by_cases c:a.1 * b.2 < b.1 * a.2
   ·exact ⟨-1,by omega,by rw [if_pos c]⟩
   ·exact ⟨0,by omega,by rw [if_neg c,if_neg (by omega)]⟩
  have k:=h k0 0 h1
  clear h h1 hr
  go_enter Tryz.func198,Tryz.ntmps198
  go_wp2_with fail
  refine (k _).mono ?_
  rintro e w1 ⟨rfl,hb1⟩
  go_wp2
  have hd:decide (0 < k0)=false:=decide_eq_false (by omega)
  go_ret
  exact ⟨by simp [hd],bt (bal (ba _ _) _) hb1⟩
end Go.Proofs.YtlndlpjadajelaaGreat.K.P
