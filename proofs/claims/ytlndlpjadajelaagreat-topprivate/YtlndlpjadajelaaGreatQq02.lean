import Derived.Test.YtlndlpjadajelaaGreatQq01
import Derived.Sort.Grow
import Derived.Laws.IdiomCopy
import Derived.Shelf.SlSortCmp.WholeK
import Derived.Shelf.SlicesE.Clone
import Derived.Shelf.SlLaysE0
import Derived.Shelf.SlGeneric
import Derived.Ground.SlsfProg
import Derived.Ground.SlgnProg
import Derived.Test.YtlndlpjadajelaaGreatProg
namespace Go.Proofs.YtlndlpjadajelaaGreat
open Go.RowKit Go.Proofs.YtlndlpjadajelaaGreat.Ds
theorem isNaN_any (x:Int) (w:World):Calls Tryz.prog 233 #[.int .i64 x] w fun e w'=>e=.returned (.bool false)∧w' = w:=by
 go_enter Tryz.func233,Tryz.ntmps233
 go_wp2
 go_ret
 exact ⟨rfl,rfl⟩
theorem cmpInt_any (a b r:Int) (hr:(if a < b then -1 else if b < a then 1 else 0)=r) (w:World) :
  Calls Tryz.prog 212 #[.int .i64 a,.int .i64 b] w fun e w'=>e=.returned (.int .i64 r)∧w' = w:=by
 subst hr
 by_cases h1:a < b
 ·simp only [h1,if_true]
  go_enter Tryz.func212,Tryz.ntmps212
  go_wp2_with (go_at_call 233; refine (isNaN_any _ _).mono ?_; rintro e w' ⟨rfl,rfl⟩)
  go_ret
  exact ⟨rfl,rfl⟩
 ·by_cases h2:b < a
  ·simp only [h1,h2,if_true,if_false]
   go_enter Tryz.func212,Tryz.ntmps212
   go_wp2_with (go_at_call 233; refine (isNaN_any _ _).mono ?_; rintro e w' ⟨rfl,rfl⟩)
   go_ret
   exact ⟨rfl,rfl⟩
  ·simp only [h1,h2,if_false]
   go_enter Tryz.func212,Tryz.ntmps212
   go_wp2_with (go_at_call 233; refine (isNaN_any _ _).mono ?_; rintro e w' ⟨rfl,rfl⟩)
   go_ret
   exact ⟨rfl,rfl⟩
set_option maxHeartbeats 400000 in
theorem compare_any (B n1 n2:Nat) (u v:Value) (x y:List Int) (w:World) (hx:Ints w B n1 u x) (hy:Ints w B n2 v y) (r:Int) (hr:cmpT x y=r) :
  Calls Tryz.prog 186 #[u,v] w fun e w'=>e=.returned (.int .i64 r)∧w' = w:=by
 obtain ⟨ax,cx,rfl,hcx,hlx,hxx⟩:=hx
 obtain ⟨ay,cy,rfl,hcy,hly,hyy⟩:=hy
 have HX:Hid (x≠[]→∃ b o,ax=some ⟨b,o,none⟩∧b < B∧b≠n1∧∀ i z,x[i]? = some z→w.cell? ⟨b,o + i,none⟩=some (.int .i64 z)):=hxx
 have HY:Hid (y≠[]→∃ b o,ay=some ⟨b,o,none⟩∧b < B∧b≠n2∧∀ i z,y[i]? = some z→w.cell? ⟨b,o + i,none⟩=some (.int .i64 z)):=hyy
 have HR:Hid (cmpT x y=r):=hr
 clear hxx hyy hr
 go_enter Tryz.func186,Tryz.ntmps186
 go_wp2
 go_loop [11] (fun s=>∃ i:Nat,s=.int .i64 (i:Int)∧i≤x.length∧i≤y.length∧cmpT (x.drop i) (y.drop i)=r) (fun s=>x.length - (intOf s).toNat)
 case atStart=>exact ⟨0,rfl,Nat.zero_le _,Nat.zero_le _,HR.out⟩
 case round =>
  obtain ⟨i,rfl,hix,hiy,hc⟩:=hrel
  have HC:Hid (cmpT (x.drop i) (y.drop i)=r):=hc
  clear hc
  by_cases h1:i < x.length
  ·obtain ⟨bx,ox,rfl,hbx,hnx,hcx⟩:=HX.out (ne_of_lt h1)
   obtain ⟨zx,hzx⟩:=get_lt h1
   have cx1:=hcx i zx hzx
   by_cases h2:i < y.length
   ·obtain ⟨by',oy,rfl,hby,hny,hcy⟩:=HY.out (ne_of_lt h2)
    obtain ⟨zy,hzy⟩:=get_lt h2
    have cy1:=hcy i zy hzy
    have st:=cmpT_step hzx hzy
    have ST:Hid (cmpT (x.drop i) (y.drop i)=if zx < zy then -1 else if zy < zx then 1 else cmpT (x.drop (i + 1)) (y.drop (i + 1))):=st
    clear st hcx hcy HX HY hzx hzy
    by_cases c1:zx=zy
    ·subst c1
     have kc:=cmpInt_any zx zx 0 (by simp) w
     go_wp2_with (go_at_call 212; refine kc.mono ?_; rintro e w' ⟨rfl,rfl⟩)
     go_round
     case rel=>exact ⟨i + 1,by go_num,h1,h2,by rw [← HC.out,ST.out]; simp⟩
     case measure=>simp [intOf]; omega
    ·by_cases c2:zx < zy
     ·have hr1:r = -1:=by rw [← HC.out,ST.out]; simp [c2]
      subst hr1
      have kc:=cmpInt_any zx zy (-1) (by simp [c2]) w
      go_wp2_with (go_at_call 212; refine kc.mono ?_; rintro e w' ⟨rfl,rfl⟩)
      go_ret
      exact ⟨rfl,rfl⟩
     ·have c3:zy < zx:=by omega
      have hr1:r=1:=by rw [← HC.out,ST.out]; simp [c2,c3]
      subst hr1
      have kc:=cmpInt_any zx zy 1 (by rw [if_neg c2,if_pos c3]) w
      go_wp2_with (go_at_call 212; refine kc.mono ?_; rintro e w' ⟨rfl,rfl⟩)
      go_ret
      exact ⟨rfl,rfl⟩
   ·have hr1:r=1:=by
     rw [← HC.out,List.drop_eq_getElem_cons h1,List.drop_eq_nil_of_le (show y.length≤i by omega)]; rfl
    subst hr1
    clear hcx HX HY
    go_wp2
    go_ret
    exact ⟨rfl,rfl⟩
  ·by_cases h2:i < y.length
   ·have hr1:r = -1:=by
     rw [← HC.out,List.drop_eq_nil_of_le (show x.length≤i by omega),List.drop_eq_getElem_cons h2]; rfl
    subst hr1
    have h3:x.length < y.length:=by omega
    clear HX HY
    go_wp2
    go_ret
    exact ⟨rfl,rfl⟩
   ·have hr1:r=0:=by
     rw [← HC.out,List.drop_eq_nil_of_le (show x.length≤i by omega),List.drop_eq_nil_of_le (show y.length≤i by omega)]; rfl
    subst hr1
    have h3:¬ x.length < y.length:=by omega
    clear HX HY
    go_wp2
    go_ret
    exact ⟨rfl,rfl⟩
theorem ba (w:World) (o:Obj):Below w.heap.size w (w.alloc o):=(Below.refl _ _).alloc (Nat.le_refl _) o
theorem bt {w w1 w2:World} (h:Below w.heap.size w w1) (k:Below w1.heap.size w1 w2):Below w.heap.size w w2:=h.trans (k.mono h.size)
theorem bal {w w1:World} (h:Below w.heap.size w w1) (o:Obj):Below w.heap.size w (w1.alloc o):=h.alloc h.size o
theorem bs {w w1:World} (h:Below w.heap.size w w1) {p:Addr} (hp:w.heap.size≤p.block) (u:Value):Below w.heap.size w (w1.setCell p u):=h.setCell hp u
theorem bcell {W w1:World} (hb:Below W.heap.size W w1):(∀ b o,b < W.heap.size→w1.cell? ⟨b,o,none⟩=W.cell? ⟨b,o,none⟩)∧(∀ b o,b < W.heap.size→w1.frozen? ⟨b,o,none⟩=W.frozen? ⟨b,o,none⟩) :=
 ⟨fun b o h=>hb.cell (p:=⟨b,o,none⟩) h,fun b o h=>hb.frozen (p:=⟨b,o,none⟩) h⟩
theorem Ints.at {w w':World} {B nb:Nat} {v:Value} {xs:List Int} (h:Ints w B nb v xs) (hB:B≤w.heap.size) (hb:Below w.heap.size w w'):Ints w' B nb v xs:=h.keep (hb.mono hB)
theorem Parts.at {w w':World} {B:Nat} {v:Value} {ts:List Tr} (h:Parts w B v ts) (hB:B≤w.heap.size) (hb:Below w.heap.size w w'):Parts w' B v ts:=h.keep (hb.mono hB)
set_option maxHeartbeats 400000 in
theorem order_any (B n1 n2:Nat) (u v:Value) (k l:Int) (x y:List Int) (w:World) (hB:B≤w.heap.size) (hx:Ints w B n1 u x) (hy:Ints w B n2 v y) (r:Int) (hr:cmpT x y=r) :
  Calls Tryz.prog 150 #[.agg #[u,.int .i64 k],.agg #[v,.int .i64 l]] w fun e w'=>e=.returned (.int .i64 r)∧∃ o1 o2,w' = (w.alloc o1).alloc o2:=by
 have HX:Hid (Ints w B n1 u x):=hx
 have HY:Hid (Ints w B n2 v y):=hy
 have HR:Hid (cmpT x y=r):=hr
 obtain ⟨au,cu,rfl,_⟩:=hx
 obtain ⟨av,cv,rfl,_⟩:=hy
 clear hr
 go_enter Tryz.func150,Tryz.ntmps150
 go_wp2_with (go_at_call 186; refine (compare_any B n1 n2 _ _ x y _ ?_ ?_ r HR.out).mono ?_; exact HX.out.at hB (bal (ba _ _) _); exact HY.out.at hB (bal (ba _ _) _); rintro e w' ⟨rfl,rfl⟩)
 go_ret
 exact ⟨rfl,_,_,rfl⟩
set_option maxHeartbeats 400000 in
theorem same_any (B n1 n2:Nat) (u v:Value) (k l:Int) (x y:List Int) (w:World) (hB:B≤w.heap.size) (hx:Ints w B n1 u x) (hy:Ints w B n2 v y) (r:Bool) (hr:decide (k=l∧x=y)=r) :
  Calls Tryz.prog 149 #[.agg #[u,.int .i64 k],.agg #[v,.int .i64 l]] w fun e w'=>e=.returned (.bool r)∧Below w.heap.size w w':=by
 subst hr
 have HX:Hid (Ints w B n1 u x):=hx
 have HY:Hid (Ints w B n2 v y):=hy
 obtain ⟨au,cu,rfl,_⟩:=hx
 obtain ⟨av,cv,rfl,_⟩:=hy
 by_cases h:k=l
 ·subst h
  by_cases h2:x=y
  ·have hc:Hid (cmpT x y=0):=(cmpT_zero x y).2 h2
   rw [decide_eq_true (show k=k∧x=y from ⟨rfl,h2⟩)]
   clear h2
   go_enter Tryz.func149,Tryz.ntmps149
   go_wp2_with (go_at_call 150; refine (order_any B n1 n2 _ _ _ _ x y _ ?_ ?_ ?_ _ hc.out).mono ?_; (simp; omega); exact HX.out.at hB (bal (ba _ _) _); exact HY.out.at hB (bal (ba _ _) _); rintro e w' ⟨rfl,o1,o2,rfl⟩)
   go_ret
   exact ⟨rfl,bal (bal (bal (ba _ _) _) _) _⟩
  ·have hc:¬ (cmpT x y=0):=fun h=>h2 ((cmpT_zero x y).1 h)
   rw [decide_eq_false (show ¬ (k=k∧x=y) from fun h=>h2 h.2)]
   obtain ⟨r,hr⟩:∃ r,Hid (cmpT x y=r):=⟨_,rfl⟩
   have hr0:(r == 0)=false:=by rw [← hr.out]; simpa using hc
   clear h2 hc
   go_enter Tryz.func149,Tryz.ntmps149
   go_wp2_with (go_at_call 150; refine (order_any B n1 n2 _ _ _ _ x y _ ?_ ?_ ?_ _ hr.out).mono ?_; (simp; omega); exact HX.out.at hB (bal (ba _ _) _); exact HY.out.at hB (bal (ba _ _) _); rintro e w' ⟨rfl,o1,o2,rfl⟩)
   go_ret
   exact ⟨rfl,bal (bal (bal (ba _ _) _) _) _⟩
 ·rw [decide_eq_false (show ¬ (k=l∧x=y) from fun h'=>h h'.1)]
  have h':(k == l)=false:=by simpa using h
  go_enter Tryz.func149,Tryz.ntmps149
  go_wp2
  go_ret
  exact ⟨rfl,bal (ba _ _) _⟩
theorem beyondN_any (n:Int) (w:World):Calls Tryz.prog 203 #[.int .i64 n] w fun e w'=>e=.returned (.bool (!okN n))∧w' = w:=by
 unfold okN
 by_cases h1:n < -1073741824
 ·rw [decide_eq_false (by omega)]
  go_enter Tryz.func203,Tryz.ntmps203
  go_wp2
  go_ret
  exact ⟨rfl,rfl⟩
 ·by_cases h2:1073741824 < n
  ·rw [decide_eq_false (by omega)]
   go_enter Tryz.func203,Tryz.ntmps203
   go_wp2
   go_ret
   exact ⟨rfl,rfl⟩
  ·rw [decide_eq_true (by omega)]
   go_enter Tryz.func203,Tryz.ntmps203
   go_wp2
   go_ret
   exact ⟨rfl,rfl⟩
theorem all_take {α:Type} {l:List α} {f:α→Bool} {i:Nat} {x:α} (h:l[i]? = some x):(l.take (i + 1)).all f=((l.take i).all f && f x):=by
 rw [List.take_add_one,h]; simp
theorem all_false {α:Type} {l:List α} {f:α→Bool} {i:Nat} {x:α} (h:l[i]? = some x) (hf:f x=false):l.all f=false:=by
 rw [List.all_eq_false]
 exact ⟨x,List.mem_of_getElem? h,by simp [hf]⟩
set_option maxHeartbeats 400000 in
theorem indexN_any (B nb:Nat) (v:Value) (x:List Int) (w:World) (hx:Ints w B nb v x) :
  Calls Tryz.prog 223 #[v,.func (.func 203) #[] #[]] w fun e w'=>∃ r:Int,e=.returned (.int .i64 r)∧(decide (0≤r) = !x.all okN)∧w' = w:=by
 obtain ⟨a,c,rfl,hc,hl,hxx⟩:=hx
 have HX:Hid (x≠[]→∃ b o,a=some ⟨b,o,none⟩∧b < B∧b≠nb∧∀ i z,x[i]? = some z→w.cell? ⟨b,o + i,none⟩=some (.int .i64 z)):=hxx
 clear hxx
 go_enter Tryz.func223,Tryz.ntmps223
 go_wp2
 go_loop [8] (fun s=>∃ i:Nat,s=.int .i64 (i:Int)∧i≤x.length∧(x.take i).all okN=true) (fun s=>x.length - (intOf s).toNat)
 case atStart=>exact ⟨0,rfl,Nat.zero_le _,by simp⟩
 case round =>
  obtain ⟨i,rfl,hix,hall⟩:=hrel
  have HA:Hid ((x.take i).all okN=true):=hall
  clear hall
  by_cases h1:i < x.length
  ·obtain ⟨b,o,rfl,hb,hn,hcell⟩:=HX.out (ne_of_lt h1)
   obtain ⟨z,hz⟩:=get_lt h1
   have cx1:=hcell i z hz
   have HZ:Hid (x[i]? = some z):=hz
   clear hcell HX hz
   cases hk:okN z with
   | true =>
    have hk':Hid (okN z=true):=hk
    clear hk
    have kc:=beyondN_any z w
    rw [hk'.out] at kc
    go_wp2_with (go_at_call 203; refine kc.mono ?_; rintro e w' ⟨rfl,rfl⟩)
    go_round
    case rel=>exact ⟨i + 1,by go_num,h1,by rw [all_take HZ.out,HA.out,hk'.out]; rfl⟩
    case measure=>simp [intOf]; omega
   | false =>
    have hk':Hid (okN z=false):=hk
    clear hk
    have kc:=beyondN_any z w
    rw [hk'.out] at kc
    go_wp2_with (go_at_call 203; refine kc.mono ?_; rintro e w' ⟨rfl,rfl⟩)
    go_ret
    exact ⟨_,rfl,by rw [all_false HZ.out hk'.out]; simp,rfl⟩
  ·have hi:i=x.length:=by omega
   have hA:x.all okN=true:=by have:=HA.out; rw [hi,List.take_length] at this; exact this
   have HA2:Hid (x.all okN=true):=hA
   clear hA HX
   go_wp2
   go_ret
   exact ⟨_,rfl,by rw [HA2.out]; simp,rfl⟩
set_option maxHeartbeats 400000 in
theorem containsN_any (B nb:Nat) (v:Value) (x:List Int) (w:World) (hx:Ints w B nb v x) (r:Bool) (hr:x.all okN=r) :
  Calls Tryz.prog 202 #[v,.func (.func 203) #[] #[]] w fun e w'=>e=.returned (.bool (!r))∧w' = w:=by
 subst hr
 have HX:Hid (Ints w B nb v x):=hx
 obtain ⟨a,c,rfl,_⟩:=hx
 go_enter Tryz.func202,Tryz.ntmps202
 go_wp2_with (go_at_call 223; refine (indexN_any B nb _ x _ HX.out).mono ?_; rintro e w' ⟨r,rfl,hr,rfl⟩)
 go_ret
 exact ⟨ret_b (by rw [← hr]),rfl⟩
set_option maxHeartbeats 400000 in
theorem beyond_any (B nb:Nat) (v:Value) (k:Int) (x:List Int) (w:World) (hB:B≤w.heap.size) (hx:Ints w B nb v x) (r:Bool) (hr:okP (x,k)=r) :
  Calls Tryz.prog 165 #[.agg #[v,.int .i64 k]] w fun e w'=>e=.returned (.bool (!r))∧Below w.heap.size w w':=by
 subst hr
 have HX:Hid (Ints w B nb v x):=hx
 obtain ⟨a,c,rfl,hc,hl,_⟩:=hx
 by_cases h1:k < 0
 ·have e:okP (x,k)=false:=by unfold okP; rw [decide_eq_false (by simp; omega)]; rfl
  rw [e]
  clear e
  go_enter Tryz.func165,Tryz.ntmps165
  go_wp2
  go_ret
  exact ⟨rfl,ba _ _⟩
 by_cases h2:1073741824 < k
 ·have e:okP (x,k)=false:=by unfold okP; rw [decide_eq_false (by simp; omega)]; rfl
  rw [e]
  clear e
  go_enter Tryz.func165,Tryz.ntmps165
  go_wp2
  go_ret
  exact ⟨rfl,ba _ _⟩
 by_cases h3:16 < x.length
 ·have e:okP (x,k)=false:=by unfold okP okO; rw [show decide (x.length≤16)=false from decide_eq_false (by omega)]; simp
  rw [e]
  clear e
  go_enter Tryz.func165,Tryz.ntmps165
  go_wp2
  go_ret
  exact ⟨rfl,ba _ _⟩
 ·have e:okP (x,k)=x.all okN:=by unfold okP okO; rw [show decide (x.length≤16)=true from decide_eq_true (by omega),decide_eq_true (by simp; omega)]; rfl
  rw [e]
  clear e
  generalize hr:x.all okN=r
  have HR:Hid (x.all okN=r):=hr
  clear hr
  go_enter Tryz.func165,Tryz.ntmps165
  go_wp2_with (go_at_call 202; refine (containsN_any B nb _ x _ ?_ r HR.out).mono ?_; exact HX.out.at hB (ba _ _); rintro e w' ⟨rfl,rfl⟩)
  go_ret
  exact ⟨rfl,ba _ _⟩
def Nn (l:List Pt):Prop:=∀ p∈l,0≤p.2
theorem tot_take {l:List Pt} {i:Nat} {p:Pt} (h:l[i]? = some p):tot (l.take (i + 1))=tot (l.take i) + p.2:=by
 rw [List.take_add_one,h,tot_append]; simp [tot_cons]
theorem Nn.tot_nn {l:List Pt} (h:Nn l):0≤tot l:=by
 induction l with
 | nil=>simp
 | cons p l ih=>have:=ih fun q hq=>h q (by simp [hq]); have:=h p (by simp); rw [tot_cons]; omega
theorem Nn.take {l:List Pt} (h:Nn l) (i:Nat):Nn (l.take i):=fun p hp=>h p (List.mem_of_mem_take hp)
theorem Nn.drop {l:List Pt} (h:Nn l) (i:Nat):Nn (l.drop i):=fun p hp=>h p (List.mem_of_mem_drop hp)
theorem Nn.tot_take_le {l:List Pt} (h:Nn l) (i:Nat):0≤tot (l.take i)∧tot (l.take i)≤tot l:=by
 have h1:=(h.take i).tot_nn
 have h2:=(h.drop i).tot_nn
 have h3:tot l=tot (l.take i) + tot (l.drop i):=by rw [← tot_append,List.take_append_drop]
 omega
theorem Nn.wt_le {l:List Pt} (h:Nn l) (o:List Int):0≤wt l o∧wt l o≤tot l:=by
 induction l with
 | nil=>simp
 | cons p l ih =>
  have:=ih fun q hq=>h q (by simp [hq])
  have:=h p (by simp)
  rw [wt_cons,tot_cons]
  split <;> omega
theorem Nn.of_pos {l:List Pt} (h:Pos l):Nn l:=fun p hp=>Int.le_of_lt (h p hp)
theorem rd_get {ts:List Tr} {i:Nat} {t:Tr} (h:ts[i]? = some t):(rd ts)[i]? = some t.2:=by
 simp [rd,h]
theorem Cells.get {w w':World} {b o:Nat} {ts:List Tr} (h:Cells w b o ts) (hb:Below w.heap.size w w') (hB:b < w.heap.size) {i:Nat} {t:Tr} (ht:ts[i]? = some t) :
  w'.cell? ⟨b,o + i * 2,none⟩=some t.1∧w'.cell? ⟨b,o + i * 2 + 1,none⟩=some (.int .i64 t.2.2):=h.keep hb hB i t ht
theorem Parts.get {w wr:World} {B:Nat} {a:Option Addr} {n c:Nat} {ts:List Tr} (hp:Parts w B (.slice a n c) ts) (hB:B≤w.heap.size) (hbl:Below w.heap.size w wr) {i:Nat} (h:i < ts.length) :
  ∃ b o sa sc xs k,a=some ⟨b,o,none⟩∧b < w.heap.size∧ts[i]? = some (.slice sa xs.length sc,xs,k)∧wr.cell? ⟨b,o + i * 2,none⟩=some (.slice sa xs.length sc)∧wr.cell? ⟨b,o + i * 2 + 1,none⟩=some (.int .i64 k)∧Ints wr B B (.slice sa xs.length sc) xs:=by
 obtain ⟨a',c',hv,hc,hl,hi,hx⟩:=hp
 simp only [Value.slice.injEq] at hv
 obtain ⟨rfl,rfl,rfl⟩:=hv
 obtain ⟨b,o,ha,hb,hcell⟩:=hx (ne_of_lt h)
 obtain ⟨⟨s,xs,k⟩,hs⟩:=get_lt h
 have hI:=hi _ (List.mem_of_getElem? hs)
 have hI2:=hI.at hB hbl
 obtain ⟨sa,sc,he,_⟩:=hI
 simp only at he
 subst he
 obtain ⟨c1,c2⟩:=hcell.get hbl (by omega) hs
 exact ⟨b,o,sa,sc,xs,k,ha,by omega,hs,c1,c2,hI2⟩
theorem rd_len (ts:List Tr):(rd ts).length=ts.length:=by simp [rd]
theorem rd_take_all {ts:List Tr} {i:Nat} (h:i=ts.length):(rd ts).take i=rd ts:=by rw [h,← rd_len,List.take_length]
set_option maxHeartbeats 400000 in
theorem total_any (B:Nat) (v:Value) (ts:List Tr) (w:World) (hB:B≤w.heap.size) (hp:Parts w B v ts) (hn:Nn (rd ts)) (ht:tot (rd ts)≤4611686018427387904) (r:Int) (hr:tot (rd ts)=r) :
  Calls Tryz.prog 38 #[v] w fun e w'=>e=.returned (.int .i64 r)∧Below w.heap.size w w':=by
 have HP:Hid (Parts w B v ts):=hp
 obtain ⟨a,c,rfl,hc,hl,_⟩:=hp
 have HT:Hid (tot (rd ts)≤4611686018427387904∧tot (rd ts)=r∧Nn (rd ts)):=⟨ht,hr,hn⟩
 clear hn ht hr
 go_enter Tryz.func38,Tryz.ntmps38
 go_wp2
 go_loopw [3,8] (fun s u wr=>∃ (i:Nat) (z:Int),s=.int .i64 z∧u=.int .i64 (i:Int)∧i≤ts.length∧tot ((rd ts).take i)=z∧Below w.heap.size w wr) (fun _ u _=>ts.length - (intOf u).toNat)
 case atStart=>exact ⟨0,0,rfl,rfl,Nat.zero_le _,by simp,Below.refl _ _⟩
 case round =>
  obtain ⟨i,z,rfl,rfl,hit,hz,hbl⟩:=hrel
  by_cases h1:i < ts.length
  ·obtain ⟨b,o,sa,sc,xs,k,rfl,hb,hs,c1,c2,_⟩:=HP.out.get hB hbl h1
   have e1:=tot_take (rd_get hs)
   have e2:=HT.out.2.2.tot_take_le (i + 1)
   have e3:=HT.out.1
   have hz2:-4611686018427387904≤z + k∧z + k≤4611686018427387904:=by simp only at e1; omega
   have HZ:Hid (tot ((rd ts).take (i + 1))=z + k):=by rw [Hid,e1,hz]
   clear e1 e2 e3 hz hs
   have hs1:=hbl.size
   go_wp2
   go_roundw
   case rel=>exact ⟨i + 1,z + k,by go_num,by go_num,h1,HZ.out,bal hbl _⟩
   case measure=>simp [intOf]; omega
  ·have hz2:z=r:=by rw [← hz,← HT.out.2.1,rd_take_all (by omega)]
   subst hz2
   clear hz HT
   go_wp2
   go_ret
   exact ⟨rfl,hbl⟩
set_option maxHeartbeats 400000 in
theorem indexP_any (B:Nat) (v:Value) (ts:List Tr) (w:World) (hB:B≤w.heap.size) (hp:Parts w B v ts) :
  Calls Tryz.prog 204 #[v,.func (.func 165) #[] #[]] w fun e w'=>∃ r:Int,e=.returned (.int .i64 r)∧(decide (0≤r) = !(rd ts).all okP)∧Below w.heap.size w w':=by
 have HP:Hid (Parts w B v ts):=hp
 obtain ⟨a,c,rfl,hc,hl,_⟩:=hp
 go_enter Tryz.func204,Tryz.ntmps204
 go_wp2
 go_loopw [8] (fun s wr=>∃ i:Nat,s=.int .i64 (i:Int)∧i≤ts.length∧((rd ts).take i).all okP=true∧Below w.heap.size w wr) (fun s _=>ts.length - (intOf s).toNat)
 case atStart=>exact ⟨0,rfl,Nat.zero_le _,by simp,Below.refl _ _⟩
 case round =>
  obtain ⟨i,rfl,hix,hall,hbl⟩:=hrel
  have HA:Hid (((rd ts).take i).all okP=true):=hall
  clear hall
  by_cases h1:i < ts.length
  ·obtain ⟨b,o,sa,sc,xs,k,rfl,hb,hs,c1,c2,hI⟩:=HP.out.get hB hbl h1
   have HZ:Hid ((rd ts)[i]? = some (xs,k)):=rd_get hs
   have hs1:=hbl.size
   clear hs
   cases hk:okP (xs,k) with
   | true =>
    have hk':Hid (okP (xs,k)=true):=hk
    have kc:=beyond_any B B _ k xs wr (by omega) hI _ hk
    clear hk hI
    go_wp2_with (go_at_call 165; refine kc.mono ?_; rintro e w1 ⟨rfl,hb1⟩)
    go_roundw
    case rel=>exact ⟨i + 1,by go_num,h1,by rw [all_take HZ.out,HA.out,hk'.out]; rfl,bt hbl hb1⟩
    case measure=>simp [intOf]; omega
   | false =>
    have hk':Hid (okP (xs,k)=false):=hk
    have kc:=beyond_any B B _ k xs wr (by omega) hI _ hk
    clear hk hI
    go_wp2_with (go_at_call 165; refine kc.mono ?_; rintro e w1 ⟨rfl,hb1⟩)
    go_ret
    exact ⟨_,rfl,by rw [all_false HZ.out hk'.out]; simp,bt hbl hb1⟩
  ·have HA2:Hid ((rd ts).all okP=true):=by have:=HA.out; rwa [rd_take_all (by omega)] at this
   go_wp2
   go_ret
   exact ⟨_,rfl,by rw [HA2.out]; simp,hbl⟩
set_option maxHeartbeats 400000 in
theorem containsP_any (B:Nat) (v:Value) (ts:List Tr) (w:World) (hB:B≤w.heap.size) (hp:Parts w B v ts) (r:Bool) (hr:(rd ts).all okP=r) :
  Calls Tryz.prog 173 #[v,.func (.func 165) #[] #[]] w fun e w'=>e=.returned (.bool (!r))∧Below w.heap.size w w':=by
 subst hr
 have HP:Hid (Parts w B v ts):=hp
 obtain ⟨a,c,rfl,_⟩:=hp
 go_enter Tryz.func173,Tryz.ntmps173
 go_wp2_with (go_at_call 204; refine (indexP_any B _ ts _ hB HP.out).mono ?_; rintro e w' ⟨r,rfl,hr,hb⟩)
 go_ret
 exact ⟨rfl,hb⟩
theorem sc_other {w:World} {a b:Addr} {v:Value} (h:a≠b):(w.setCell a v).cell? b=w.cell? b:=World.cell?_setCell_other _ _ _ _ h
theorem sc_same {w:World} {a:Addr} {u v:Value} (h:w.cell? a=some u):(w.setCell a v).cell? a=some v:=World.cell?_setCell_same _ _ _ h
theorem sc_frozen {w:World} {a b:Addr} {v:Value}:(w.setCell a v).frozen? b=w.frozen? b:=World.frozen?_setCell _ _ _ _
structure Row (w:World) (b o:Nat) (us:List Tr):Prop where
 cells:Cells w b o us
 thaw:∀ j,j < us.length * 2→w.frozen? ⟨b,o + j,none⟩=false
 lt:b < w.heap.size
theorem Row.keep {w w':World} {b o:Nat} {us:List Tr} (h:Row w b o us) (hb:Below w.heap.size w w'):Row w' b o us :=
 ⟨h.cells.keep hb h.lt,fun j hj=>(hb.frozen (p:=⟨b,o + j,none⟩) h.lt).trans (h.thaw j hj),Nat.lt_of_lt_of_le h.lt hb.size⟩
theorem Cells.len_cell {w:World} {b o:Nat} {us:List Tr} (h:Cells w b o us) {i:Nat} (hi:i < us.length):(w.cell? ⟨b,o + i * 2,none⟩).isSome=true∧(w.cell? ⟨b,o + i * 2 + 1,none⟩).isSome=true:=by
 obtain ⟨t,ht⟩:=get_lt hi
 obtain ⟨h1,h2⟩:=h i t ht
 exact ⟨by rw [h1]; rfl,by rw [h2]; rfl⟩
theorem Row.setW {w:World} {b o:Nat} {us:List Tr} (h:Row w b o us) {i:Nat} {t:Tr} (ht:us[i]? = some t) (k:Int) :
  Row (w.setCell ⟨b,o + i * 2 + 1,none⟩ (.int .i64 k)) b o (us.set i (t.1,t.2.1,k)):=by
 have hi:=(List.getElem?_eq_some_iff.1 ht).1
 refine ⟨fun j u hu=>?_,fun j hj=>by rw [sc_frozen]; exact h.thaw j (by simpa using hj),by simpa using h.lt⟩
 by_cases hj:i=j
 ·subst hj
  rw [List.getElem?_set_self hi] at hu
  obtain rfl:(t.1,t.2.1,k)=u:=by simpa using hu
  have c:=h.cells i t ht
  exact ⟨by rw [sc_other (by simp)]; exact c.1,sc_same c.2⟩
 ·rw [List.getElem?_set_ne hj] at hu
  have c:=h.cells j u hu
  exact ⟨by rw [sc_other (by simp <;> omega)]; exact c.1,by rw [sc_other (by simp <;> omega)]; exact c.2⟩
theorem Row.setP {w:World} {b o:Nat} {us:List Tr} (h:Row w b o us) {i:Nat} (hi:i < us.length) (t:Tr) :
  Row (w.setCells b (o + i * 2) [t.1,.int .i64 t.2.2]) b o (us.set i t):=by
 have hs:=h.cells.len_cell hi
 have e1:∀ a:Addr,(w.setCells b (o + i * 2) [t.1,.int .i64 t.2.2]).cell? a=((w.setCell ⟨b,o + i * 2,none⟩ t.1).setCell ⟨b,o + i * 2 + 1,none⟩ (.int .i64 t.2.2)).cell? a:=fun a=>rfl
 refine ⟨fun j u hu=>?_,fun j hj=>by rw [World.frozen?_setCells]; exact h.thaw j (by simpa using hj),?_⟩
 ·rw [e1,e1]
  by_cases hj:i=j
  ·subst hj
   rw [List.getElem?_set_self hi] at hu
   obtain rfl:t=u:=by simpa using hu
   refine ⟨?_,?_⟩
   ·rw [sc_other (by simp)]
    exact World.cell?_setCell_same' _ _ _ hs.1
   ·refine World.cell?_setCell_same' _ _ _ ?_
    rw [sc_other (by simp)]
    exact hs.2
  ·rw [List.getElem?_set_ne hj] at hu
   have c:=h.cells j u hu
   exact ⟨by rw [sc_other (by simp <;> omega),sc_other (by simp <;> omega)]; exact c.1,by rw [sc_other (by simp <;> omega),sc_other (by simp <;> omega)]; exact c.2⟩
 ·show b < (((w.setCell ⟨b,o + i * 2,none⟩ t.1).setCell ⟨b,o + i * 2 + 1,none⟩ (.int .i64 t.2.2))).heap.size
  simpa using h.lt
def Own (w:World) (lo:Nat) (v:Value) (ts:List Tr):Prop :=
 ∃ b o c,v=.slice (some ⟨b,o,none⟩) ts.length c∧ts.length≤c∧ts.length≤1073741824∧lo≤b∧Row w b o ts∧∀ t∈ts,Ints w w.heap.size b t.1 t.2.1
theorem Own.parts {w:World} {lo:Nat} {v:Value} {ts:List Tr} (h:Own w lo v ts):Parts w w.heap.size v ts:=by
 obtain ⟨b,o,c,hv,hc,hl,_,hr,hi⟩:=h
 refine ⟨_,c,hv,hc,hl,fun t ht=>?_,fun _=>⟨b,o,rfl,hr.lt,hr.cells⟩⟩
 exact (hi t ht).mono (Nat.le_refl _) (.inr (Nat.le_refl _))
theorem Own.keep {w w':World} {lo:Nat} {v:Value} {ts:List Tr} (h:Own w lo v ts) (hb:Below w.heap.size w w'):Own w' lo v ts:=by
 obtain ⟨b,o,c,hv,hc,hl,hlo,hr,hi⟩:=h
 exact ⟨b,o,c,hv,hc,hl,hlo,hr.keep hb,fun t ht=>((hi t ht).keep hb).mono hb.size (.inl rfl)⟩
theorem Own.mono {w:World} {lo lo':Nat} {v:Value} {ts:List Tr} (h:Own w lo v ts) (hl:lo'≤lo):Own w lo' v ts:=by
 obtain ⟨b,o,c,hv,hc,hl',hlo,hr,hi⟩:=h
 exact ⟨b,o,c,hv,hc,hl',by omega,hr,hi⟩
def Frs (lo:Nat) (ts:List Tr):Prop:=∀ t∈ts,t.2.1≠[]→∀ b o sp n c,t.1=.slice (some ⟨b,o,sp⟩) n c→lo≤b
theorem Frs.mono {lo lo':Nat} {ts:List Tr} (h:Frs lo ts) (hl:lo'≤lo):Frs lo' ts:=fun t ht hne b o sp n c e=>Nat.le_trans hl (h t ht hne b o sp n c e)
theorem Frs.of {lo:Nat} {ts us:List Tr} (h:Frs lo ts) (hu:∀ t∈us,∃ u∈ts,t.1=u.1∧t.2.1=u.2.1):Frs lo us:=by
 intro t ht hne b o sp n c e
 obtain ⟨u,hu1,e1,e2⟩:=hu t ht
 exact h u hu1 (e2▸hne) b o sp n c (e1▸e)
theorem Frs.nil (lo:Nat):Frs lo []:=fun t ht=>by cases ht
theorem fr_of {w:World} {B lo:Nat} {s:Value} {xs:List Int} (h:∀ m,m < lo→Ints w B m s xs):xs≠[]→∀ b o sp n c,s=.slice (some ⟨b,o,sp⟩) n c→lo≤b:=by
 intro hne b o sp n c e
 rcases Nat.lt_or_ge b lo with hb | hb
 ·obtain ⟨a,c',hv,_,_,hx⟩:=h b hb
  obtain ⟨b',o',ha,_,hn,_⟩:=hx hne
  rw [hv,ha] at e
  simp only [Value.slice.injEq,Option.some.injEq,Addr.mk.injEq] at e
  exact absurd e.1.1 hn
 ·exact hb
theorem parts_nil (w:World) (B:Nat):Parts w B (.slice none 0 0) []:=⟨none,0,rfl,Nat.le_refl _,by simp,by simp,fun h=>absurd rfl h⟩
end Go.Proofs.YtlndlpjadajelaaGreat
namespace Go.Proofs
open Go.Shelf
def Tryz.sortP_ren:Go.Shelf.Ren:=⟨fun | 6=>206 | 15=>218 | 14=>224 | 28=>244 | 29=>245 | 20=>248 | 21=>249 | 22=>250 | 23=>251 | 24=>252 | 25=>253 | 26=>254 | 27=>255 | 46=>271 | 47=>257 | 48=>258 | 49=>272 | 50=>273 | 57=>278 | n=>n,fun | 22=>43 | 24=>82 | 25=>176 | 3=>3 | 39=>177 | 0=>0 | 53=>261 | 55=>133 | 4=>4 | 46=>253 | 45=>252 | 50=>258 | 5=>5 | 9=>9 | 66=>270 | 70=>274 | 76=>283 | 77=>210 | n=>n,fun | n=>n⟩
theorem Tryz.sortP:Go.Proofs.SlLaysF0.n6 Tryz.prog Tryz.sortP_ren:={
 mixed:=by kernel_rfl
 f6:=⟨Tryz.f206.name,by decide,Tryz.func206.trans (congrArg some (by kernel_rfl))⟩
 f14:=⟨Tryz.f224.name,by decide,Tryz.func224.trans (congrArg some (by kernel_rfl))⟩
 f15:=Tryz.func218.trans (congrArg some (by kernel_rfl))
 f20:=⟨Tryz.f248.name,by decide,Tryz.func248.trans (congrArg some (by kernel_rfl))⟩
 f21:=⟨Tryz.f249.name,by decide,Tryz.func249.trans (congrArg some (by kernel_rfl))⟩
 f22:=⟨Tryz.f250.name,by decide,Tryz.func250.trans (congrArg some (by kernel_rfl))⟩
 f23:=⟨Tryz.f251.name,by decide,Tryz.func251.trans (congrArg some (by kernel_rfl))⟩
 f24:=⟨Tryz.f252.name,by decide,Tryz.func252.trans (congrArg some (by kernel_rfl))⟩
 f25:=⟨Tryz.f253.name,by decide,Tryz.func253.trans (congrArg some (by kernel_rfl))⟩
 f26:=⟨Tryz.f254.name,by decide,Tryz.func254.trans (congrArg some (by kernel_rfl))⟩
 f27:=⟨Tryz.f255.name,by decide,Tryz.func255.trans (congrArg some (by kernel_rfl))⟩
 f28:=Tryz.func244.trans (congrArg some (by kernel_rfl))
 f29:=Tryz.func245.trans (congrArg some (by kernel_rfl))
 f46:=⟨Tryz.f271.name,by decide,Tryz.func271.trans (congrArg some (by kernel_rfl))⟩
 f47:=Tryz.func257.trans (congrArg some (by kernel_rfl))
 f48:=Tryz.func258.trans (congrArg some (by kernel_rfl))
 f49:=⟨Tryz.f272.name,by decide,Tryz.func272.trans (congrArg some (by kernel_rfl))⟩
 f50:=⟨Tryz.f273.name,by decide,Tryz.func273.trans (congrArg some (by kernel_rfl))⟩
 f57:=⟨Tryz.f278.name,by decide,Tryz.func278.trans (congrArg some (by kernel_rfl))⟩
 t0:=Tryz.underlying0
 a0:=Tryz.isAgg0
 z0:=Tryz.sizeOf0
 v0:=Tryz.zeroValue0
 t3:=Tryz.underlying3
 a3:=Tryz.isAgg3
 z3:=Tryz.sizeOf3
 v3:=Tryz.zeroValue3
 t4:=Tryz.underlying4
 a4:=Tryz.isAgg4
 z4:=Tryz.sizeOf4
 v4:=Tryz.zeroValue4
 t5:=Tryz.underlying5
 a5:=Tryz.isAgg5
 z5:=Tryz.sizeOf5
 v5:=Tryz.zeroValue5
 t9:=Tryz.underlying9
 a9:=Tryz.isAgg9
 z9:=Tryz.sizeOf9
 v9:=Tryz.zeroValue9
 t22:=Tryz.underlying43
 a22:=Tryz.isAgg43
 z22:=Tryz.sizeOf43
 v22:=Tryz.zeroValue43
 t25:=Tryz.underlying176
 a25:=Tryz.isAgg176
 z25:=Tryz.sizeOf176
 v25:=Tryz.zeroValue176
 t39:=Tryz.underlying177
 a39:=Tryz.isAgg177
 z39:=Tryz.sizeOf177
 v39:=Tryz.zeroValue177
 t45:=Tryz.underlying252
 a45:=Tryz.isAgg252
 z45:=Tryz.sizeOf252
 v45:=Tryz.zeroValue252
 t46:=Tryz.underlying253
 a46:=Tryz.isAgg253
 z46:=Tryz.sizeOf253
 v46:=Tryz.zeroValue253
 t50:=Tryz.underlying258
 a50:=Tryz.isAgg258
 z50:=Tryz.sizeOf258
 v50:=Tryz.zeroValue258
 t53:=Tryz.underlying261
 a53:=Tryz.isAgg261
 z53:=Tryz.sizeOf261
 v53:=Tryz.zeroValue261
 t55:=Tryz.underlying133
 a55:=Tryz.isAgg133
 z55:=Tryz.sizeOf133
 v55:=Tryz.zeroValue133
 t66:=Tryz.underlying270
 a66:=Tryz.isAgg270
 z66:=Tryz.sizeOf270
 v66:=Tryz.zeroValue270
 t70:=Tryz.underlying274
 a70:=Tryz.isAgg274
 z70:=Tryz.sizeOf274
 v70:=Tryz.zeroValue274
 t76:=Tryz.underlying283
 a76:=Tryz.isAgg283
 z76:=Tryz.sizeOf283
 v76:=Tryz.zeroValue283
 t77:=Tryz.underlying210
 a77:=Tryz.isAgg210
 z77:=Tryz.sizeOf210
 v77:=Tryz.zeroValue210 }
def Tryz.cloneP_ren:Go.Shelf.Ren:=⟨fun | 41=>205 | n=>n,fun | 22=>43 | 23=>82 | 4=>4 | n=>n,fun | n=>n⟩
theorem Tryz.cloneP:Go.Proofs.SlLaysE0.n41 Tryz.prog Tryz.cloneP_ren:={
 mixed:=by kernel_rfl
 f41:=⟨Tryz.f205.name,by decide,Tryz.func205.trans (congrArg some (by kernel_rfl))⟩
 t4:=Tryz.underlying4
 a4:=Tryz.isAgg4
 z4:=Tryz.sizeOf4
 v4:=Tryz.zeroValue4
 t22:=Tryz.underlying43
 a22:=Tryz.isAgg43
 z22:=Tryz.sizeOf43
 v22:=Tryz.zeroValue43 }
def Tryz.cloneN_ren:Go.Shelf.Ren:=⟨fun | 41=>140 | n=>n,fun | 22=>65 | 23=>3 | 4=>4 | n=>n,fun | n=>n⟩
theorem Tryz.cloneN:Go.Proofs.SlLaysE0.n41 Tryz.prog Tryz.cloneN_ren:={
 mixed:=by kernel_rfl
 f41:=⟨Tryz.f140.name,by decide,Tryz.func140.trans (congrArg some (by kernel_rfl))⟩
 t4:=Tryz.underlying4
 a4:=Tryz.isAgg4
 z4:=Tryz.sizeOf4
 v4:=Tryz.zeroValue4
 t22:=Tryz.underlying65
 a22:=Tryz.isAgg65
 z22:=Tryz.sizeOf65
 v22:=Tryz.zeroValue65 }
end Go.Proofs
