import Derived.Test.YtlndlpjadajelaaGreatRows
import Derived.WalkKit
import Derived.WalkSpells
import Derived.Deep.QuietTactic
import Derived.BigQuiet
import Derived.WalkSmall
import Derived.Laws.IdiomCopy
namespace Go.Proofs.YtlndlpjadajelaaGreat.K.Ds
end Go.Proofs.YtlndlpjadajelaaGreat.K.Ds
namespace Go.Proofs.YtlndlpjadajelaaGreat.K
open Go.RowKit Go.Proofs.YtlndlpjadajelaaGreat.K.Ds
def Ints (w:World) (B nb:Nat) (v:Value) (xs:List Int):Prop :=
 ∃ a c,v=.slice a xs.length c∧xs.length≤c∧xs.length≤9223372036854775807 ∧
  (xs≠[]→∃ b o,a=some ⟨b,o,none⟩∧b < B∧b≠nb∧∀ i x,xs[i]? = some x→w.cell? ⟨b,o + i,none⟩=some (.int .i64 x))
theorem Ints.keep {w w':World} {B nb:Nat} {v:Value} {xs:List Int} (h:Ints w B nb v xs) (hb:Below B w w'):Ints w' B nb v xs:=by
 obtain ⟨a,c,hv,hc,hl,hx⟩:=h
 refine ⟨a,c,hv,hc,hl,fun hne=>?_⟩
 obtain ⟨b,o,ha,hB,hn,hcell⟩:=hx hne
 exact ⟨b,o,ha,hB,hn,fun i x hi=>(hb.cell (p:=⟨b,o + i,none⟩) hB).trans (hcell i x hi)⟩
theorem Ints.mono {w:World} {B B' nb nb':Nat} {v:Value} {xs:List Int} (h:Ints w B nb v xs) (hB:B≤B') (hn:nb' = nb∨B≤nb'):Ints w B' nb' v xs:=by
 obtain ⟨a,c,hv,hc,hl,hx⟩:=h
 refine ⟨a,c,hv,hc,hl,fun hne=>?_⟩
 obtain ⟨b,o,ha,hb,hnb,hcell⟩:=hx hne
 exact ⟨b,o,ha,by omega,by rcases hn with h | h <;> omega,hcell⟩
theorem get_lt {α:Type} {l:List α} {i:Nat} (h:i < l.length):∃ x,l[i]? = some x:=⟨l[i],List.getElem?_eq_getElem h⟩
theorem ne_of_lt {α:Type} {l:List α} {i:Nat} (h:i < l.length):l≠[]:=by rintro rfl; simp at h
theorem ret_b {a b:Bool} (h:a=b):Ending.returned (.bool a)=.returned (.bool b):=by rw [h]
theorem dr2 (w:World) (a b c:Nat):∃ q,((w.drewN a).drewN b).drewN c=w.drewN q:=by simp only [World.drewN_drewN]; exact ⟨_,rfl⟩
end Go.Proofs.YtlndlpjadajelaaGreat.K
namespace Go.Proofs.YtlndlpjadajelaaGreat.K.Ds
abbrev Col:=ByteArray × Int
def letB (b:UInt8):Bool:=(decide (97≤b.toNat) && decide (b.toNat≤122)) || decide (b.toNat=95)
def lnT:List UInt8→Nat
 | []=>0
 | b :: r=>if letB b then lnT r + 1 else 0
def namB (s:List UInt8):Bool:=decide (1≤s.length) && decide (s.length≤32) && s.all letB
theorem lnT_all (l:List UInt8):lnT l=l.length↔l.all letB=true:=by
 induction l with
 | nil=>simp [lnT]
 | cons b r ih =>
  simp only [lnT]
  by_cases h:letB b
  ·simp [h]; exact (Iff.trans (by omega) ih).trans (by simp)
  ·simp [h]
def colL:List Col→List Col→Int
 | _,[]=>0
 | pre,c :: r=>if namB c.1.data.toList then (if pre.any (fun d=>decide (d.1=c.1)) then 7 else if c.2 < 1∨4096 < c.2 then 3 else colL (pre ++ [c]) r) else 2
def prd:List Col→Nat
 | []=>1
 | c :: r=>c.2.toNat * prd r
def colE (l:List Col):Int:=if l.length < 1∨6 < l.length then 5 else if colL [] l=0 then (if 4096 < prd l then 4 else 0) else colL [] l
def Szs (l:List Col):Prop:=∀ c∈l,1≤c.2∧c.2≤4096
theorem colL_szs {pre l:List Col} (h:colL pre l=0):Szs l:=by
 induction l generalizing pre with
 | nil=>intro c hc; cases hc
 | cons c r ih =>
  simp only [colL] at h
  split at h
  ·split at h
   ·cases h
   ·split at h
    ·cases h
    ·intro d hd
     rcases List.mem_cons.1 hd with rfl | hd
     ·omega
     ·exact ih h d hd
  ·cases h
theorem prd_pos {l:List Col} (h:Szs l):1≤prd l:=by
 induction l with
 | nil=>simp [prd]
 | cons c r ih =>
  have h1:=h c (by simp)
  have h2:=ih fun d hd=>h d (by simp [hd])
  simp only [prd]
  exact Nat.mul_pos (by omega) (by omega)
theorem prd_app (l m:List Col):prd (l ++ m)=prd l * prd m:=by
 induction l with
 | nil=>simp [prd]
 | cons c r ih=>simp [prd,ih,Nat.mul_assoc]
theorem colE_ok {l:List Col} (h:colE l=0):1≤l.length∧l.length≤6∧Szs l∧prd l≤4096∧colL [] l=0:=by
 unfold colE at h
 split at h
 ·cases h
 ·split at h
  ·rename_i h1 h2
   split at h
   ·cases h
   ·exact ⟨by omega,by omega,colL_szs h2,by omega,h2⟩
  ·rename_i h1 h2; exact absurd h h2
theorem prd_pre {l:List Col} (h:Szs l) (i:Nat):prd (l.take i)≤prd l:=by
 have h2:Szs (l.drop i):=fun c hc=>h c (List.mem_of_mem_drop hc)
 have:=prd_pos h2
 have e:prd l=prd (l.take i) * prd (l.drop i):=by rw [← prd_app,List.take_append_drop]
 rw [e]
 exact Nat.le_mul_of_pos_right _ (by omega)
theorem prd_next {l:List Col} {i:Nat} {c:Col} (h:l[i]? = some c):prd (l.take (i + 1))=prd (l.take i) * c.2.toNat:=by
 rw [List.take_add_one,h,prd_app]; simp [prd]
theorem colL_step {l:List Col} {i:Nat} {c:Col} (h:l[i]? = some c):colL (l.take i) (l.drop i)=if namB c.1.data.toList then (if (l.take i).any (fun d=>decide (d.1=c.1)) then 7 else if c.2 < 1∨4096 < c.2 then 3 else colL (l.take (i + 1)) (l.drop (i + 1))) else 2:=by
 have hi:=(List.getElem?_eq_some_iff.1 h).1
 rw [List.drop_eq_getElem_cons hi,(List.getElem?_eq_some_iff.1 h).2]
 simp only [colL]
 rw [List.take_add_one,h]; rfl
def rowL:List Col→List Int→Int
 | c :: l,v :: r=>if v < 0∨c.2≤v then 3 else rowL l r
 | _,_=>0
def rowE (l:List Col) (r:List Int):Int:=if l.length=r.length then rowL l r else 8
def rowsL (l:List Col):List (List Int)→Int
 | []=>0
 | r :: rs=>if rowE l r=0 then rowsL l rs else rowE l r
def wroE (l:List Col) (rs:List (List Int)):Int:=if colE l=0 then (if 4096 < rs.length then 4 else rowsL l rs) else colE l
theorem rowL_step {l:List Col} {r:List Int} {i:Nat} {c:Col} {v:Int} (hc:l[i]? = some c) (hv:r[i]? = some v):rowL (l.drop i) (r.drop i)=if v < 0∨c.2≤v then 3 else rowL (l.drop (i + 1)) (r.drop (i + 1)):=by
 rw [List.drop_eq_getElem_cons (List.getElem?_eq_some_iff.1 hc).1,(List.getElem?_eq_some_iff.1 hc).2,List.drop_eq_getElem_cons (List.getElem?_eq_some_iff.1 hv).1,(List.getElem?_eq_some_iff.1 hv).2]
 rfl
theorem rowsL_step {l:List Col} {rs:List (List Int)} {i:Nat} {r:List Int} (h:rs[i]? = some r):rowsL l (rs.drop i)=if rowE l r=0 then rowsL l (rs.drop (i + 1)) else rowE l r:=by
 rw [List.drop_eq_getElem_cons (List.getElem?_eq_some_iff.1 h).1,(List.getElem?_eq_some_iff.1 h).2]; rfl
def RowOk:List Col→List Int→Prop
 | [],[]=>True
 | c :: l,v :: r=>0≤v∧v < c.2∧RowOk l r
 | _,_=>False
theorem rowE_ok {l:List Col} {r:List Int}:rowE l r=0↔RowOk l r:=by
 induction l generalizing r with
 | nil=>cases r <;> simp [rowE,rowL,RowOk]
 | cons c l ih =>
  cases r with
  | nil=>simp [rowE,RowOk]
  | cons v r =>
   have:=ih (r:=r)
   simp only [rowE,rowL,RowOk,List.length_cons,Nat.add_right_cancel_iff] at *
   by_cases h1:v < 0∨c.2≤v
   ·simp [h1]; split <;> (simp; try omega)
   ·simp only [h1,if_false]
    rw [this]
    constructor
    ·intro h; exact ⟨by omega,by omega,h⟩
    ·intro h; exact h.2.2
theorem RowOk.len {l:List Col} {r:List Int} (h:RowOk l r):r.length=l.length:=by
 induction l generalizing r with
 | nil=>cases r <;> simp_all [RowOk]
 | cons c l ih=>cases r with
  | nil=>simp [RowOk] at h
  | cons v r=>simp [ih h.2.2]
theorem rowsL_ok {l:List Col} {rs:List (List Int)}:rowsL l rs=0↔∀ r∈rs,RowOk l r:=by
 induction rs with
 | nil=>simp [rowsL]
 | cons r rs ih =>
  simp only [rowsL]
  split
  ·rename_i h; rw [ih]; simp [rowE_ok.1 h]
  ·rename_i h
   constructor
   ·intro h2; exact absurd h2 h
   ·intro h2; exact absurd (rowE_ok.2 (h2 r (by simp))) h
theorem wroE_ok {l:List Col} {rs:List (List Int)} (h:wroE l rs=0):colE l=0∧rs.length≤4096∧∀ r∈rs,RowOk l r:=by
 unfold wroE at h
 split at h
 ·split at h
  ·cases h
  ·exact ⟨by assumption,by omega,rowsL_ok.1 h⟩
 ·rename_i h1; exact absurd h h1
def plc:List Col→List Int→Nat
 | _ :: l,v :: r=>v.toNat * prd l + plc l r
 | _,_=>0
theorem plc_lt {l:List Col} {r:List Int} (h:RowOk l r):plc l r < prd l:=by
 induction l generalizing r with
 | nil=>cases r <;> simp_all [RowOk,plc,prd]
 | cons c l ih =>
  cases r with
  | nil=>simp [RowOk] at h
  | cons v r =>
   have h1:=ih h.2.2
   simp only [plc,prd]
   have h2:v.toNat + 1≤c.2.toNat:=by have:=h.1; have:=h.2.1; omega
   have h3:(v.toNat + 1) * prd l≤c.2.toNat * prd l:=Nat.mul_le_mul_right _ h2
   rw [Nat.add_mul] at h3
   omega
def plcF (at':Nat):List Col→List Int→Nat
 | c :: l,v :: r=>plcF (at' * c.2.toNat + v.toNat) l r
 | _,_=>at'
theorem plcF_eq {l:List Col} {r:List Int} (h:RowOk l r) (a:Nat):plcF a l r=a * prd l + plc l r:=by
 induction l generalizing r a with
 | nil=>cases r <;> simp_all [RowOk,plcF,plc,prd]
 | cons c l ih =>
  cases r with
  | nil=>simp [RowOk] at h
  | cons v r =>
   simp only [plcF,plc,prd]
   rw [ih h.2.2,Nat.add_mul,Nat.mul_assoc,Nat.add_assoc]
def cel:List Col→Nat→List Int
 | [],_=>[]
 | c :: l,i=>((i / prd l % c.2.toNat:Nat):Int) :: cel l i
theorem cel_more {l:List Col} (h:Szs l) (q j:Nat):cel l (q * prd l + j)=cel l j:=by
 induction l generalizing q with
 | nil=>rfl
 | cons c l ih =>
  have h2:Szs l:=fun d hd=>h d (by simp [hd])
  have hp:=prd_pos h2
  simp only [cel,prd]
  rw [← Nat.mul_assoc,ih h2,Nat.add_comm (q * c.2.toNat * prd l) j,Nat.add_mul_div_right _ _ (by omega:0 < prd l)]
  rw [Nat.add_comm,Nat.mul_comm q,Nat.mul_add_mod]
theorem cel_plc {l:List Col} (hs:Szs l) {r:List Int} (h:RowOk l r):cel l (plc l r)=r:=by
 induction l generalizing r with
 | nil=>cases r <;> simp_all [RowOk,cel]
 | cons c l ih =>
  cases r with
  | nil=>simp [RowOk] at h
  | cons v r =>
   have h2:Szs l:=fun d hd=>hs d (by simp [hd])
   have hp:=prd_pos h2
   have hlt:=plc_lt h.2.2
   simp only [cel,plc]
   rw [cel_more h2,ih h2 h.2.2,Nat.add_comm,Nat.add_mul_div_right _ _ (by omega:0 < prd l),Nat.div_eq_of_lt hlt,Nat.zero_add,Nat.mod_eq_of_lt (by have:=h.1; have:=h.2.1; omega)]
   rw [Int.toNat_of_nonneg h.1]
theorem plc_cel {l:List Col} (hs:Szs l) (i:Nat):plc l (cel l i)=i % prd l:=by
 induction l with
 | nil=>simp [plc,prd,Nat.mod_one]
 | cons c l ih =>
  have h2:Szs l:=fun d hd=>hs d (by simp [hd])
  simp only [cel,plc,prd]
  rw [ih h2,Int.toNat_natCast]
  rw [Nat.mul_comm c.2.toNat,Nat.mod_mul,Nat.mul_comm (prd l),Nat.add_comm]
def allT (l:List Col):List (List Int):=(List.range (prd l)).map (cel l)
theorem allT_len (l:List Col):(allT l).length=prd l:=by simp [allT]
theorem allT_get {l:List Col} {i:Nat} (h:i < prd l):(allT l)[i]? = some (cel l i):=by simp [allT,h]
def cntT (rs:List (List Int)) (r:List Int):Int:=((rs.count r:Nat):Int)
def celT (l:List Col) (rs:List (List Int)):List Int:=(allT l).map (cntT rs)
theorem celT_len (l:List Col) (rs:List (List Int)):(celT l rs).length=prd l:=by simp [celT,allT_len]
def cadd (xs:List Int) (k:Nat):List Int:=xs.set k (xs.getD k 0 + 1)
theorem celT_get {l:List Col} {rs:List (List Int)} {i:Nat} (h:i < prd l):(celT l rs)[i]? = some (cntT rs (cel l i)):=by
 simp [celT,allT_get h]
theorem celT_nil (l:List Col):celT l []=List.replicate (prd l) 0:=by
 refine List.ext_getElem? fun i=>?_
 by_cases h:i < prd l
 ·rw [celT_get h]; simp [cntT,h]
 ·rw [List.getElem?_eq_none (by rw [celT_len]; omega),List.getElem?_eq_none (by simp; omega)]
theorem celT_snoc {l:List Col} (hs:Szs l) {rs:List (List Int)} {r:List Int} (h:RowOk l r):celT l (rs ++ [r])=cadd (celT l rs) (plc l r):=by
 refine List.ext_getElem? fun i=>?_
 have hlt:=plc_lt h
 by_cases hi:i < prd l
 ·rw [celT_get hi,cadd]
  by_cases e:plc l r=i
  ·subst e
   rw [List.getElem?_set_self (by rw [celT_len]; omega),List.getD,celT_get hi,cel_plc hs h]
   simp [cntT,List.count_append]
  ·rw [List.getElem?_set_ne e,celT_get hi]
   have:cel l i≠r:=by
    rintro rfl
    rw [plc_cel hs,Nat.mod_eq_of_lt hi] at e
    exact e rfl
   simp [cntT,List.count_append,List.count_nil,Ne.symm this]
 ·rw [List.getElem?_eq_none (by rw [celT_len]; omega),List.getElem?_eq_none (by simp [cadd,celT_len]; omega)]
def apaS:List Int→List Int→Int
 | x :: a,y :: b=>max (x - y) (y - x) + apaS a b
 | _,_=>0
def apaE (a b:List Col) (ra rb:List (List Int)):Int:=if wroE a ra=0 then (if wroE b rb=0 then (if a=b then 0 else 8) else wroE b rb) else wroE a ra
def apaT (a b:List Col) (ra rb:List (List Int)):Int:=if apaE a b ra rb=0 then apaS (celT a ra) (celT b rb) else 0
theorem apaS_step {x y:List Int} {i:Nat} {a b:Int} (hx:x[i]? = some a) (hy:y[i]? = some b):apaS (x.drop i) (y.drop i)=max (a - b) (b - a) + apaS (x.drop (i + 1)) (y.drop (i + 1)):=by
 rw [List.drop_eq_getElem_cons (List.getElem?_eq_some_iff.1 hx).1,List.drop_eq_getElem_cons (List.getElem?_eq_some_iff.1 hy).1,(List.getElem?_eq_some_iff.1 hx).2,(List.getElem?_eq_some_iff.1 hy).2]
 rfl
theorem cntT_bd (rs:List (List Int)) (r:List Int):0≤cntT rs r∧cntT rs r≤rs.length:=by
 refine ⟨by simp [cntT],?_⟩
 have:=List.count_le_length (a:=r) (l:=rs)
 simp only [cntT]; omega
theorem celT_bd {l:List Col} {rs:List (List Int)} {x:Int} (h:x∈celT l rs):0≤x∧x≤rs.length:=by
 obtain ⟨r,_,rfl⟩:=List.mem_map.1 h
 exact cntT_bd rs r
end Go.Proofs.YtlndlpjadajelaaGreat.K.Ds
namespace Go.Proofs.YtlndlpjadajelaaGreat.K
open Go.RowKit Go.Proofs.YtlndlpjadajelaaGreat.K.Ds
theorem ba (w:World) (o:Obj):Below w.heap.size w (w.alloc o):=(Below.refl _ _).alloc (Nat.le_refl _) o
theorem bt {w w1 w2:World} (h:Below w.heap.size w w1) (k:Below w1.heap.size w1 w2):Below w.heap.size w w2:=h.trans (k.mono h.size)
theorem bal {w w1:World} (h:Below w.heap.size w w1) (o:Obj):Below w.heap.size w (w1.alloc o):=h.alloc h.size o
theorem bs {w w1:World} (h:Below w.heap.size w w1) {p:Addr} (hp:w.heap.size≤p.block) (u:Value):Below w.heap.size w (w1.setCell p u):=h.setCell hp u
theorem Ints.at {w w':World} {B nb:Nat} {v:Value} {xs:List Int} (h:Ints w B nb v xs) (hB:B≤w.heap.size) (hb:Below w.heap.size w w'):Ints w' B nb v xs:=h.keep (hb.mono hB)
theorem sc_other {w:World} {a b:Addr} {v:Value} (h:a≠b):(w.setCell a v).cell? b=w.cell? b:=World.cell?_setCell_other _ _ _ _ h
theorem sc_same {w:World} {a:Addr} {u v:Value} (h:w.cell? a=some u):(w.setCell a v).cell? a=some v:=World.cell?_setCell_same _ _ _ h
theorem sc_frozen {w:World} {a b:Addr} {v:Value}:(w.setCell a v).frozen? b=w.frozen? b:=World.frozen?_setCell _ _ _ _
def Cols (w:World) (B:Nat) (v:Value) (l:List Col):Prop :=
 ∃ a c,v=.slice a l.length c∧l.length≤c∧l.length≤9223372036854775807∧(∀ x∈l,x.1.size≤9223372036854775807) ∧
  (l≠[]→∃ b o,a=some ⟨b,o,none⟩∧b < B∧∀ i x,l[i]? = some x→w.cell? ⟨b,o + i * 2,none⟩=some (.string x.1)∧w.cell? ⟨b,o + i * 2 + 1,none⟩=some (.int .i64 x.2))
theorem Cols.keep {w w':World} {B:Nat} {v:Value} {l:List Col} (h:Cols w B v l) (hb:Below B w w'):Cols w' B v l:=by
 obtain ⟨a,c,hv,hc,hl,hn,hx⟩:=h
 refine ⟨a,c,hv,hc,hl,hn,fun hne=>?_⟩
 obtain ⟨b,o,ha,hB,hcell⟩:=hx hne
 exact ⟨b,o,ha,hB,fun i x hi=>⟨(hb.cell (p:=⟨b,o + i * 2,none⟩) hB).trans (hcell i x hi).1,(hb.cell (p:=⟨b,o + i * 2 + 1,none⟩) hB).trans (hcell i x hi).2⟩⟩
theorem Cols.at {w w':World} {B:Nat} {v:Value} {l:List Col} (h:Cols w B v l) (hB:B≤w.heap.size) (hb:Below w.heap.size w w'):Cols w' B v l:=h.keep (hb.mono hB)
theorem Cols.slice {w:World} {B:Nat} {v:Value} {l:List Col} (h:Cols w B v l):∃ a c,v=.slice a l.length c∧l.length≤c∧l.length≤9223372036854775807:=by
 obtain ⟨a,c,hv,hc,hl,_⟩:=h
 exact ⟨a,c,hv,hc,hl⟩
theorem Cols.get {w wr:World} {B:Nat} {a:Option Addr} {n c:Nat} {l:List Col} (h:Cols w B (.slice a n c) l) (hB:B≤w.heap.size) (hb:Below w.heap.size w wr) {i:Nat} (hi:i < l.length) :
  ∃ b o nm sz,a=some ⟨b,o,none⟩∧b < B∧l[i]? = some (nm,sz)∧wr.cell? ⟨b,o + i * 2,none⟩=some (.string nm)∧wr.cell? ⟨b,o + i * 2 + 1,none⟩=some (.int .i64 sz)∧nm.size≤9223372036854775807:=by
 obtain ⟨a',c',hv,_,_,hn,hx⟩:=h.at hB hb
 simp only [Value.slice.injEq] at hv
 obtain ⟨rfl,rfl,rfl⟩:=hv
 obtain ⟨b,o,rfl,hbB,hcell⟩:=hx (ne_of_lt hi)
 obtain ⟨⟨nm,sz⟩,hx⟩:=get_lt hi
 exact ⟨b,o,nm,sz,rfl,hbB,hx,(hcell i _ hx).1,(hcell i _ hx).2,hn _ (List.mem_of_getElem? hx)⟩
theorem wrap_id {a:Int} (h:-9223372036854775808≤a∧a≤9223372036854775807):wrap64 a=a:=by
 unfold wrap64; omega
theorem str_eq (x y:ByteArray):(x.toList == y.toList)=decide (x=y):=by
 rw [Bool.eq_iff_iff,ByteArray.toList_eq,ByteArray.toList_eq]
 simp only [beq_iff_eq,decide_eq_true_eq]
 constructor
 ·intro h; exact ByteArray.ext (Array.ext' h)
 ·rintro rfl; rfl
theorem min_step (p z:Nat) (hz:1≤z):min (p * z) 4097=min (min p 4097 * z) 4097:=by
 rcases Nat.le_total p 4097 with h | h
 ·rw [Nat.min_eq_left h]
 ·have h1:4097 * 1≤4097 * z:=Nat.mul_le_mul_left _ hz
  have h2:4097 * z≤p * z:=Nat.mul_le_mul_right _ h
  rw [Nat.min_eq_right h]
  omega
set_option maxHeartbeats 400000 in
theorem size_any (B:Nat) (v:Value) (l:List Col) (w:World) (hB:B≤w.heap.size) (hp:Cols w B v l) (hs:Szs l) (n:Nat) (hr:min (prd l) 4097=n) :
  Calls Tryz.prog 84 #[v] w fun e w'=>e=.returned (.int .i64 (n:Int))∧Below w.heap.size w w':=by
 have HP:Hid (Cols w B v l):=hp
 have HS:Hid (Szs l):=hs
 have HR:Hid (min (prd l) 4097=n):=hr
 obtain ⟨a,c,rfl,hc,hl⟩:=hp.slice
 clear hr hs
 go_enter Tryz.func84,Tryz.ntmps84
 go_wp2
 go_loopw [3,8] (fun nv s wr=>∃ (i k:Nat),nv=.int .i64 (k:Int)∧s=.int .i64 (i:Int)∧i≤l.length∧k≤4097∧Hid (min (prd (l.take i)) 4097=k)∧Below w.heap.size w wr) (fun _ s _=>l.length - (intOf s).toNat)
 case atStart=>exact ⟨0,1,rfl,rfl,Nat.zero_le _,by omega,by simp [Hid,prd],Below.refl _ _⟩
 case round =>
  obtain ⟨i,k,rfl,rfl,hi,hk,HI,hbl⟩:=hrel
  by_cases h1:i < l.length
  ·obtain ⟨b,o,nm,sz,rfl,hb,hg,c1,c2,hn⟩:=HP.out.get hB hbl h1
   have hsz:=HS.out _ (List.mem_of_getElem? hg)
   simp only at hsz
   have HG:Hid (l[i]? = some (nm,sz)):=hg
   clear hg
   have hm:0≤(k:Int) * sz∧(k:Int) * sz≤4097 * 4096:=⟨Int.mul_nonneg (by omega) (by omega),Int.mul_le_mul (by omega) (by omega) (by omega) (by omega)⟩
   have hw:wrap64 ((k:Int) * sz)=(k:Int) * sz:=wrap_id (by omega)
   have HM:Hid (min (prd (l.take (i + 1))) 4097=min (k * sz.toNat) 4097):=by
    show _=_
    rw [prd_next HG.out,← HI.out]
    exact min_step _ _ (by omega)
   have HK:Hid ((if 4097 < (k:Int) * sz then (4097:Int) else (k:Int) * sz)=((min (k * sz.toNat) 4097:Nat):Int)):=by
    have e:((k * sz.toNat:Nat):Int)=(k:Int) * sz:=by rw [Int.natCast_mul,Int.toNat_of_nonneg (by omega)]
    show _=_
    split <;> omega
   clear hm
   go_wp2
   go_roundw
   case rel=>exact ⟨i + 1,min (k * sz.toNat) 4097,congrArg _ HK.out,by go_num,h1,by omega,HM,bal hbl _⟩
   case measure=>simp [intOf]; omega
  ·have HN:Hid (k=n):=by have:=HI.out; rw [List.take_of_length_le (by omega)] at this; exact this.symm.trans HR.out
   go_wp2
   go_ret
   exact ⟨by rw [← HN.out]; rfl,hbl⟩
theorem any_step {l:List Col} {i:Nat} {nm nm0:ByteArray} {sz:Int} (h:l[i]? = some (nm,sz)):(l.take (i + 1)).any (fun d=>decide (d.1=nm0))=((l.take i).any (fun d=>decide (d.1=nm0)) || decide (nm=nm0)):=by
 rw [List.take_add_one,h,List.any_append]; simp
theorem any_hit {l:List Col} {i:Nat} {nm nm0:ByteArray} {sz:Int} (h:l[i]? = some (nm,sz)) (h2:decide (nm=nm0)=true):l.any (fun d=>decide (d.1=nm0))=true :=
 List.any_eq_true.2 ⟨_,List.mem_of_getElem? h,h2⟩
theorem ahead_any (g:Nat) (n1 n2:ByteArray) (s1:Int) (w:World) (hg:g < w.heap.size) (hc:w.cell? ⟨g,0,none⟩=some (.string n2)) (r:Bool) (hr:decide (n1=n2)=r) :
  Calls Tryz.prog 177 #[.agg #[.string n1,.int .i64 s1],.pointer (some ⟨g,0,none⟩)] w fun e w'=>e=.returned (.bool r)∧Below w.heap.size w w':=by
 have hq:(n1.toList == n2.toList)=r:=(str_eq _ _).trans hr
 clear hr
 go_enter Tryz.func177,Tryz.ntmps177
 go_wp2
 go_ret
 exact ⟨rfl,ba _ _⟩
set_option maxHeartbeats 400000 in
theorem index_any (B g:Nat) (v:Value) (l:List Col) (nm0:ByteArray) (w:World) (hB:B≤w.heap.size) (hp:Cols w B v l) (hg:g < w.heap.size) (hc0:w.cell? ⟨g,0,none⟩=some (.string nm0)) (r:Bool) (hr:l.any (fun d=>decide (d.1=nm0))=r) :
  Calls Tryz.prog 180 #[v,.func (.func 177) #[] #[.pointer (some ⟨g,0,none⟩)]] w fun e w'=>∃ k:Int,e=.returned (.int .i64 k)∧decide (0≤k)=r∧Below w.heap.size w w':=by
 have HP:Hid (Cols w B v l):=hp
 have HR:Hid (l.any (fun d=>decide (d.1=nm0))=r):=hr
 have HC0:Hid (w.cell? ⟨g,0,none⟩=some (.string nm0)):=hc0
 obtain ⟨a,c,rfl,hc,hl⟩:=hp.slice
 clear hr hc0
 go_enter Tryz.func180,Tryz.ntmps180
 go_wp2
 go_loopw [8] (fun s wr=>∃ (i:Nat),s=.int .i64 (i:Int)∧i≤l.length∧Hid ((l.take i).any (fun d=>decide (d.1=nm0))=false)∧Below w.heap.size w wr) (fun s _=>l.length - (intOf s).toNat)
 case atStart=>exact ⟨0,rfl,Nat.zero_le _,by simp [Hid],Below.refl _ _⟩
 case round =>
  obtain ⟨i,rfl,hi,HI,hbl⟩:=hrel
  by_cases h1:i < l.length
  ·obtain ⟨b,o,nm,sz,rfl,hb,hgt,c1,c2,hn⟩:=HP.out.get hB hbl h1
   have HG:Hid (l[i]? = some (nm,sz)):=hgt
   clear hgt
   have hgr:g < wr.heap.size:=Nat.lt_of_lt_of_le hg hbl.size
   have HCR:Hid (wr.cell? ⟨g,0,none⟩=some (.string nm0)):=(hbl.cell (p:=⟨g,0,none⟩) hg).trans HC0.out
   cases he:decide (nm=nm0) with
   | true =>
    have HE:Hid (decide (nm=nm0)=true):=he
    clear he
    obtain rfl:true=r:=by rw [← HR.out]; exact (any_hit HG.out HE.out).symm
    go_wp2_with fail
    refine (ahead_any g nm nm0 sz _ hgr HCR.out true HE.out).mono ?_
    rintro e w1 ⟨rfl,hb1⟩
    go_wp2
    go_ret
    exact ⟨i,rfl,by simp,bt hbl hb1⟩
   | false =>
    have HE:Hid (decide (nm=nm0)=false):=he
    clear he
    go_wp2_with fail
    refine (ahead_any g nm nm0 sz _ hgr HCR.out false HE.out).mono ?_
    rintro e w1 ⟨rfl,hb1⟩
    go_wp2
    go_roundw
    case rel=>exact ⟨i + 1,by go_num,h1,by show _=_; rw [any_step HG.out,HI.out,HE.out]; rfl,bt hbl hb1⟩
    case measure=>simp [intOf]; omega
  ·obtain rfl:false=r:=by rw [← HR.out]; have:=HI.out; rw [List.take_of_length_le (by omega)] at this; exact this.symm
   go_wp2
   go_ret
   exact ⟨-1,rfl,by simp,hbl⟩
theorem contains_any (B g:Nat) (v:Value) (l:List Col) (nm0:ByteArray) (w:World) (hB:B≤w.heap.size) (hp:Cols w B v l) (hg:g < w.heap.size) (hc0:w.cell? ⟨g,0,none⟩=some (.string nm0)) (r:Bool) (hr:l.any (fun d=>decide (d.1=nm0))=r) :
  Calls Tryz.prog 176 #[v,.func (.func 177) #[] #[.pointer (some ⟨g,0,none⟩)]] w fun e w'=>e=.returned (.bool r)∧Below w.heap.size w w':=by
 have HP:Hid (Cols w B v l):=hp
 have HR:Hid (l.any (fun d=>decide (d.1=nm0))=r):=hr
 have HC0:Hid (w.cell? ⟨g,0,none⟩=some (.string nm0)):=hc0
 obtain ⟨a,c,rfl,hc,hl⟩:=hp.slice
 clear hr hc0
 go_enter Tryz.func176,Tryz.ntmps176
 go_wp2_with fail
 refine (index_any B g _ l nm0 w hB HP.out hg HC0.out r HR.out).mono ?_
 rintro e w1 ⟨k,rfl,hk,hb1⟩
 go_wp2
 go_ret
 refine ⟨ret_b ?_,hb1⟩
 first | rfl | exact hk | simp
theorem Cols.take {w:World} {B:Nat} {a:Option Addr} {n c:Nat} {l:List Col} (h:Cols w B (.slice a n c) l) (u:Nat) (hu:u≤l.length):Cols w B (.slice a u c) (l.take u):=by
 obtain ⟨a',c',hv,hc,hl,hn,hx⟩:=h
 simp only [Value.slice.injEq] at hv
 obtain ⟨rfl,rfl,rfl⟩:=hv
 have e:(l.take u).length=u:=by rw [List.length_take]; omega
 refine ⟨a,c,by rw [e],by rw [e]; omega,by rw [e]; omega,fun x hx=>hn x (List.mem_of_mem_take hx),fun hne=>?_⟩
 obtain ⟨b,o,ha,hb,hcell⟩:=hx (by rintro rfl; simp at hne)
 refine ⟨b,o,ha,hb,fun i x hi=>hcell i x ?_⟩
 rw [List.getElem?_take] at hi
 split at hi
 ·exact hi
 ·cases hi
theorem drop_str {s:ByteArray} {n:Nat} (h:n < s.size):s.data.toList.drop n=s[n] :: s.data.toList.drop (n + 1):=by
 rw [List.drop_eq_getElem_cons (by simpa using h)]; rfl
theorem ln_step {s:ByteArray} {n:Nat} (h:n < s.size):lnT (s.data.toList.drop n)=if letB s[n] then lnT (s.data.toList.drop (n + 1)) + 1 else 0:=by
 rw [drop_str h]; rfl
theorem letter_any (b:Nat) (w:World) (r:Bool) (hr:(decide (97≤b) && decide (b≤122) || decide (b=95))=r):Calls Tryz.prog 226 #[.int .u8 (b:Int)] w fun e w'=>e=.returned (.bool r)∧w' = w:=by
 have HR:Hid ((decide (97≤b) && decide (b≤122) || decide (b=95))=r):=hr
 clear hr
 go_enter Tryz.func226,Tryz.ntmps226
 by_cases h1:97≤b
 ·by_cases h2:b≤122
  ·obtain rfl:true=r:=by rw [← HR.out]; simp [h1,h2]
   go_wp2
   go_ret
   exact ⟨rfl,rfl⟩
  ·have h3:b≠95:=by omega
   obtain rfl:false=r:=by rw [← HR.out]; simp [h2,h3]
   go_wp2
   go_ret
   exact ⟨ret_b (by simp; omega),rfl⟩
 ·by_cases h3:b=95
  ·subst h3
   obtain rfl:true=r:=by rw [← HR.out]; simp
   go_wp2
   go_ret
   exact ⟨rfl,rfl⟩
  ·obtain rfl:false=r:=by rw [← HR.out]; simp [h1,h3]
   go_wp2
   go_ret
   exact ⟨ret_b (by simp; omega),rfl⟩
set_option maxHeartbeats 400000 in
theorem run_any (s:ByteArray) (hs:s.size≤9223372036854775807) (w:World) (r:Nat) (hr:lnT s.data.toList=r):Calls Tryz.prog 225 #[.string s,.func (.func 226) #[] #[]] w fun e w'=>e=.returned (.int .i64 (r:Int))∧w' = w:=by
 have HR:Hid (lnT s.data.toList=r):=hr
 clear hr
 go_enter Tryz.func225,Tryz.ntmps225
 go_wp2
 go_loopw [5] (fun nv wr=>∃ n:Nat,nv=.int .i64 (n:Int)∧n≤s.size∧Hid (n + lnT (s.data.toList.drop n)=r)∧wr=w) (fun nv _=>s.size - (intOf nv).toNat)
 case atStart=>exact ⟨0,rfl,Nat.zero_le _,by simpa [Hid] using HR.out,rfl⟩
 case round =>
  obtain ⟨n,rfl,hn,HI,rfl⟩:=hrel
  by_cases h1:n < s.size
  ·have ST:Hid (lnT (s.data.toList.drop n)=if letB s[n] then lnT (s.data.toList.drop (n + 1)) + 1 else 0):=ln_step h1
   cases hb:letB s[n] with
   | true =>
    have HB:Hid (letB s[n]=true):=hb
    clear hb
    go_wp2_with fail
    refine (letter_any s[n].toNat _ true HB.out).mono ?_
    rintro e w1 ⟨rfl,rfl⟩
    go_wp2
    go_roundw
    case rel=>exact ⟨n + 1,by go_num,h1,by have h2:=HI.out; rw [ST.out,HB.out] at h2; simp only [if_true] at h2; show _=r; omega,trivial⟩
    case measure=>simp [intOf]; omega
   | false =>
    have HB:Hid (letB s[n]=false):=hb
    clear hb
    have HN:Hid (n=r):=by have h2:=HI.out; rw [ST.out,HB.out] at h2; simpa [Hid] using h2
    go_wp2_with fail
    refine (letter_any s[n].toNat _ false HB.out).mono ?_
    rintro e w1 ⟨rfl,rfl⟩
    go_wp2
    go_ret
    exact ⟨by rw [← HN.out]; rfl,rfl⟩
  ·have HN:Hid (n=r):=by have h2:=HI.out; rw [List.drop_eq_nil_of_le (by simp; omega)] at h2; simpa [lnT,Hid] using h2
   go_wp2
   go_ret
   exact ⟨by rw [← HN.out]; rfl,rfl⟩
theorem letters_any (s:ByteArray) (hs:s.size≤9223372036854775807) (w:World) (r:Nat) (hr:lnT s.data.toList=r):Calls Tryz.prog 208 #[.string s] w fun e w'=>e=.returned (.int .i64 (r:Int))∧w' = w:=by
 have k:=run_any s hs w r hr
 clear hr
 go_enter Tryz.func208,Tryz.ntmps208
 go_wp2_with fail
 refine k.mono ?_
 rintro e w1 ⟨rfl,rfl⟩
 go_wp2
 go_ret
 exact ⟨rfl,rfl⟩
theorem named_any (s:ByteArray) (hs:s.size≤9223372036854775807) (w:World) (r:Bool) (hr:namB s.data.toList=r):Calls Tryz.prog 175 #[.string s] w fun e w'=>e=.returned (.bool r)∧w' = w:=by
 have HR:Hid (namB s.data.toList=r):=hr
 have hl:Hid (s.data.toList.length=s.size):=by simp [Hid]
 clear hr
 go_enter Tryz.func175,Tryz.ntmps175
 by_cases h1:1≤s.size
 ·by_cases h2:s.size≤32
  ·go_wp2_with fail
   refine (letters_any s hs _ _ rfl).mono ?_
   rintro e w1 ⟨rfl,rfl⟩
   go_wp2
   go_ret
   refine ⟨ret_b ?_,rfl⟩
   rw [← HR.out,namB,hl.out]
   have:=lnT_all s.data.toList
   rw [hl.out] at this
   simp only [h1,h2,decide_true,Bool.true_and]
   rw [Bool.eq_iff_iff,← this]
   simp
   omega
  ·obtain rfl:false=r:=by rw [← HR.out,namB,hl.out]; simp [h2]
   go_wp2
   go_ret
   exact ⟨rfl,rfl⟩
 ·obtain rfl:false=r:=by rw [← HR.out,namB,hl.out]; simp [h1]
  go_wp2
  go_ret
  exact ⟨rfl,rfl⟩
theorem nc {w:World} {N:Nat} (cs:Array Value) (t:TypeId) (k:Nat) (x:Value) (hN:N=w.heap.size) (hx:cs[k]? = some x):(w.alloc (.cells cs t)).cell? ⟨N,k,none⟩=some x:=by
 rw [World.cell?_alloc_at _ _ _ _ hN]; exact hx
theorem nf {w:World} {N:Nat} (cs:Array Value) (t:TypeId) (k:Nat) (hN:N=w.heap.size):(w.alloc (.cells cs t)).frozen? ⟨N,k,none⟩=false:=World.frozen?_alloc_at _ _ _ _ hN
set_option maxHeartbeats 1000000 in
theorem columns_any (B:Nat) (v:Value) (l:List Col) (w:World) (hB:B≤w.heap.size) (hp:Cols w B v l) (er:Int) (hr:colE l=er) :
  Calls Tryz.prog 116 #[v] w fun e w'=>e=.returned (.int .i64 er)∧Below w.heap.size w w':=by
 have HP:Hid (Cols w B v l):=hp
 have HR:Hid (colE l=er):=hr
 obtain ⟨a,c,rfl,hc,hl⟩:=hp.slice
 clear hr
 go_enter Tryz.func116,Tryz.ntmps116
 by_cases h0:l.length=0
 ·have hq:((l.length:Int) == 0)=true:=by simp [h0]
  obtain rfl:5=er:=by rw [← HR.out,colE,if_pos (by omega)]
  go_wp2
  go_ret
  exact ⟨rfl,Below.refl _ _⟩
 have hq:((l.length:Int) == 0)=false:=by rw [beq_eq_false_iff_ne]; omega
 have HQ0:Hid (l.length≠0):=h0
 clear h0
 by_cases h6:6 < l.length
 ·obtain rfl:5=er:=by rw [← HR.out,colE,if_pos (by omega)]
  go_wp2
  go_ret
  exact ⟨rfl,Below.refl _ _⟩
 have HE:Hid (colE l=if colL [] l=0 then (if 4096 < prd l then 4 else 0) else colL [] l):=by show _=_; rw [colE,if_neg (by have:=HQ0.out; omega)]
 go_wp2
 go_loopw [15] (fun s wr=>∃ (i:Nat),s=.int .i64 (i:Int)∧i≤l.length∧Hid (colL (l.take i) (l.drop i)=colL [] l)∧Below w.heap.size w wr) (fun s _=>l.length - (intOf s).toNat)
 case atStart=>exact ⟨0,rfl,Nat.zero_le _,by simp [Hid],Below.refl _ _⟩
 case round =>
  obtain ⟨i,rfl,hi,HI,hbl⟩:=hrel
  by_cases h1:i < l.length
  ·obtain ⟨b,o,nm,sz,rfl,hb,hgt,c1,c2,hn⟩:=HP.out.get hB hbl h1
   have ST:Hid (colL [] l=if namB nm.data.toList then (if (l.take i).any (fun d=>decide (d.1=nm)) then 7 else if sz < 1∨4096 < sz then 3 else colL (l.take (i + 1)) (l.drop (i + 1))) else 2):=HI.out.symm.trans (colL_step hgt)
   clear hgt HI
   have hsz:=hbl.size
   cases hnm:namB nm.data.toList with
   | false =>
    have HN:Hid (namB nm.data.toList=false):=hnm
    clear hnm
    obtain rfl:2=er:=by rw [← HR.out,HE.out,ST.out,HN.out]; simp
    go_wp2_with fail
    refine (named_any nm hn _ false HN.out).mono ?_
    rintro e w1 ⟨rfl,rfl⟩
    go_wp2
    go_ret
    exact ⟨rfl,bal hbl _⟩
   | true =>
    have HN:Hid (namB nm.data.toList=true):=hnm
    clear hnm
    cases han:(l.take i).any (fun d=>decide (d.1=nm)) with
    | true =>
     have HA:Hid ((l.take i).any (fun d=>decide (d.1=nm))=true):=han
     clear han
     obtain rfl:7=er:=by rw [← HR.out,HE.out,ST.out,HN.out,HA.out]; simp
     have kc:=contains_any B wr.heap.size (.slice (some ⟨b,o,none⟩) i c) (l.take i) nm (wr.alloc (.cells #[.string nm,.int .i64 sz] 74)) (by simp; omega) (((HP.out.take i hi).at hB hbl).at (by omega) (ba _ _)) (by simp) (nc _ _ 0 _ rfl rfl) true HA.out
     go_wp2_with fail
     refine (named_any nm hn _ true HN.out).mono ?_
     rintro e w1 ⟨rfl,rfl⟩
     go_wp2_with fail
     refine kc.mono ?_
     rintro e w1 ⟨rfl,hb1⟩
     have hb2:Below w.heap.size w w1:=bt (bal hbl _) hb1
     clear hb1 kc
     go_wp2
     go_ret
     exact ⟨rfl,hb2⟩
    | false =>
     have HA:Hid ((l.take i).any (fun d=>decide (d.1=nm))=false):=han
     clear han
     have kc:=contains_any B wr.heap.size (.slice (some ⟨b,o,none⟩) i c) (l.take i) nm (wr.alloc (.cells #[.string nm,.int .i64 sz] 74)) (by simp; omega) (((HP.out.take i hi).at hB hbl).at (by omega) (ba _ _)) (by simp) (nc _ _ 0 _ rfl rfl) false HA.out
     have hcell:(wr.alloc (.cells #[.string nm,.int .i64 sz] 74)).cell? ⟨wr.heap.size,1,none⟩=some (.int .i64 sz):=nc _ _ 1 _ rfl rfl
     by_cases hz:sz < 1∨4096 < sz
     ·obtain rfl:3=er:=by rw [← HR.out,HE.out,ST.out,HN.out,HA.out]; simp [hz]
      go_wp2_with fail
      refine (named_any nm hn _ true HN.out).mono ?_
      rintro e w1 ⟨rfl,rfl⟩
      go_wp2_with fail
      refine kc.mono ?_
      rintro e w1 ⟨rfl,hb1⟩
      have hb2:Below w.heap.size w w1:=bt (bal hbl _) hb1
      have hc1:w1.cell? ⟨wr.heap.size,1,none⟩=some (.int .i64 sz):=(hb1.cell (p:=⟨wr.heap.size,1,none⟩) (by simp)).trans hcell
      clear hb1 kc hcell
      by_cases hz1:sz < 1
      ·clear hz
       go_wp2
       go_ret
       exact ⟨rfl,hb2⟩
      ·have hz2:4096 < sz:=by omega
       clear hz
       go_wp2
       go_ret
       exact ⟨rfl,hb2⟩
     ·have HI2:Hid (colL (l.take (i + 1)) (l.drop (i + 1))=colL [] l):=by show _=_; rw [ST.out,HN.out,HA.out]; simp [hz]
      have hz1:¬ sz < 1:=by omega
      have hz2:¬ 4096 < sz:=by omega
      clear hz
      go_wp2_with fail
      refine (named_any nm hn _ true HN.out).mono ?_
      rintro e w1 ⟨rfl,rfl⟩
      go_wp2_with fail
      refine kc.mono ?_
      rintro e w1 ⟨rfl,hb1⟩
      have hb2:Below w.heap.size w w1:=bt (bal hbl _) hb1
      have hc1:w1.cell? ⟨wr.heap.size,1,none⟩=some (.int .i64 sz):=(hb1.cell (p:=⟨wr.heap.size,1,none⟩) (by simp)).trans hcell
      clear hb1 kc hcell
      go_wp2
      go_roundw
      case rel=>exact ⟨i + 1,by go_num,h1,HI2,hb2⟩
      case measure=>simp [intOf]; omega
  ·have HN:Hid (colL [] l=0):=by have:=HI.out; rw [List.drop_eq_nil_of_le (by omega)] at this; exact this.symm.trans rfl
   have HS:Hid (Szs l):=colL_szs HN.out
   have kc:=size_any B _ l wr (Nat.le_trans hB hbl.size) (HP.out.at hB hbl) HS.out _ rfl
   by_cases hpz:4096 < prd l
   ·obtain rfl:4=er:=by rw [← HR.out,HE.out,HN.out]; simp [hpz]
    have hm:min (prd l) 4097=4097:=by omega
    rw [hm] at kc
    go_wp2_with fail
    refine kc.mono ?_
    rintro e w1 ⟨rfl,hb1⟩
    go_wp2
    go_ret
    exact ⟨rfl,bt hbl hb1⟩
   ·obtain rfl:0=er:=by rw [← HR.out,HE.out,HN.out]; simp [hpz]
    have hm:min (prd l) 4097=prd l:=by omega
    rw [hm] at kc
    go_wp2_with fail
    refine kc.mono ?_
    rintro e w1 ⟨rfl,hb1⟩
    go_wp2
    go_ret
    exact ⟨rfl,bt hbl hb1⟩
end Go.Proofs.YtlndlpjadajelaaGreat.K
