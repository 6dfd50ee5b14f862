import Derived.Test.YtlndlpjadajelaaGreatQq04
import Derived.Test.YtlndlpjadajelaaGreatQq02
import Derived.Maps.AppendAt
import Derived.Deep.RegionWith
import Derived.Deep.RegionHeld3
namespace Go.Proofs.YtlndlpjadajelaaGreat
open Go.RowKit Go.Proofs.YtlndlpjadajelaaGreat.Ds
theorem take_next {α:Type} {l k:List α} {i:Nat} {x:α} (h:l.take i=k.take i) (hl:l[i]? = some x) (hk:k[i]? = some x):l.take (i + 1)=k.take (i + 1):=by
 rw [List.take_add_one,List.take_add_one,h,hl,hk]
set_option maxHeartbeats 1000000 in
theorem equal_any (B:Nat) (u v:Value) (ts us:List Tr) (w:World) (hB:B≤w.heap.size) (hp:Parts w B u ts) (hq:Parts w B v us) (r:Bool) (hr:decide (rd ts=rd us)=r) :
  Calls Tryz.prog 148 #[u,v,.func (.func 149) #[] #[]] w fun e w'=>e=.returned (.bool r)∧Below w.heap.size w w':=by
 have HP:Hid (Parts w B u ts):=hp
 have HQ:Hid (Parts w B v us):=hq
 have HR:Hid (decide (rd ts=rd us)=r):=hr
 obtain ⟨a,c,rfl,hc,hl,_⟩:=hp
 obtain ⟨a2,c2,rfl,hc2,hl2,_⟩:=hq
 clear hr
 by_cases hlen:ts.length=us.length
 ·have hle:(((ts.length:Int)) == (us.length:Int))=true:=by simp [hlen]
  have hle2:(((ts.length:Int)) != (us.length:Int))=false:=by simp [hlen]
  have HLN:Hid (ts.length=us.length):=hlen
  clear hlen
  go_enter Tryz.func148,Tryz.ntmps148
  go_wp2
  go_loopw [17] (fun s wr=>∃ i:Nat,s=.int .i64 (i:Int)∧i≤ts.length∧(rd ts).take i=(rd us).take i∧Below w.heap.size w wr) (fun s _=>ts.length - (intOf s).toNat)
  case atStart=>exact ⟨0,rfl,Nat.zero_le _,by simp,Below.refl _ _⟩
  case round =>
   obtain ⟨i,rfl,hit,htk,hbl⟩:=hrel
   have HT:Hid ((rd ts).take i=(rd us).take i):=htk
   clear htk
   by_cases h1:i < ts.length
   ·obtain ⟨b,o,sa,sc,xs,k,rfl,hb,hs,c1,c2',hI⟩:=HP.out.get hB hbl h1
    obtain ⟨b2,o2,sa2,sc2,xs2,k2,rfl,hb2,hs2,d1,d2,hI2⟩:=HQ.out.get hB hbl (i:=i) (by have:=HLN.out; omega)
    have HS:Hid ((rd ts)[i]? = some (xs,k)):=rd_get hs
    have HS2:Hid ((rd us)[i]? = some (xs2,k2)):=rd_get hs2
    have HI:Hid (Ints wr B B (.slice sa xs.length sc) xs):=hI
    have HI2:Hid (Ints wr B B (.slice sa2 xs2.length sc2) xs2):=hI2
    have hs1:=hbl.size
    have z1:(i:Int) < (us.length:Int):=by have:=HLN.out; omega
    have n1:b < wr.heap.size:=by omega
    have n2:b2 < wr.heap.size:=by omega
    clear hs hs2 hI hI2
    by_cases he:k=k2∧xs=xs2
    ·have hd:Hid (decide (k=k2∧xs=xs2)=true):=decide_eq_true he
     have HE:Hid ((xs2,k2)=(xs,k)):=by rw [Hid,he.1,he.2]
     clear he
     go_wp2_with (go_at_call 149; refine (same_any B B B _ _ _ _ xs xs2 _ ?_ ?_ ?_ _ hd.out).mono ?_; (simp; omega); (exact HI.out.at (by omega) (bal (ba _ _) _)); (exact HI2.out.at (by omega) (bal (ba _ _) _)); rintro e w1 ⟨rfl,hb1⟩)
     go_roundw
     case rel=>exact ⟨i + 1,by go_num,h1,take_next HT.out HS.out (by rw [HS2.out,HE.out]),bt (bal (bal hbl _) _) hb1⟩
     case measure=>simp [intOf]; omega
    ·have hd:Hid (decide (k=k2∧xs=xs2)=false):=decide_eq_false he
     have hr1:r=false:=by
      rw [← HR.out]
      refine decide_eq_false fun h=>he ?_
      have h2:=HS.out
      rw [h,HS2.out] at h2
      simp only [Option.some.injEq,Prod.mk.injEq] at h2
      exact ⟨h2.2.symm,h2.1.symm⟩
     subst hr1
     clear he
     go_wp2_with (go_at_call 149; refine (same_any B B B _ _ _ _ xs xs2 _ ?_ ?_ ?_ _ hd.out).mono ?_; (simp; omega); (exact HI.out.at (by omega) (bal (ba _ _) _)); (exact HI2.out.at (by omega) (bal (ba _ _) _)); rintro e w1 ⟨rfl,hb1⟩)
     go_ret
     exact ⟨rfl,bt (bal (bal hbl _) _) hb1⟩
   ·have hr1:r=true:=by
     rw [← HR.out]
     refine decide_eq_true ?_
     have:=HT.out
     rwa [rd_take_all (by omega),rd_take_all (by have:=HLN.out; omega)] at this
    subst hr1
    go_wp2
    go_ret
    exact ⟨rfl,hbl⟩
 ·have hle:(((ts.length:Int)) == (us.length:Int))=false:=by simp; omega
  have hle2:(((ts.length:Int)) != (us.length:Int))=true:=by simp; omega
  have hr1:r=false:=by
   rw [← HR.out]
   refine decide_eq_false fun h=>hlen ?_
   rw [← rd_len,h,rd_len]
  subst hr1
  go_enter Tryz.func148,Tryz.ntmps148
  go_wp2
  go_ret
  exact ⟨rfl,Below.refl _ _⟩
def ownT (l:List Pt):List Pt × Int:=if (makeT l).2=0 then if (makeT l).1=l then (l,0) else ([],2) else ([],(makeT l).2)
theorem lowT_err (l:List Pt):(lowT l).2=0∨(lowT l).1=[]:=by
 unfold lowT; split
 ·exact .inr rfl
 ·split
  ·exact .inr rfl
  ·exact .inl rfl
theorem makeT_err (l:List Pt):(makeT l).2=0∨(makeT l).1=[]:=by
 unfold makeT; split
 ·exact lowT_err _
 ·exact .inr rfl
set_option maxHeartbeats 1000000 in
theorem own_fr (B:Nat) (v:Value) (ts:List Tr) (w:World) (hB:B≤w.heap.size) (hp:Parts w B v ts) (l:List Pt) (er:Int) (hr:ownT (rd ts)=(l,er)) :
  Calls Tryz.prog 86 #[v] w fun e w'=>∃ v' us,e=.returned (.tuple #[v',.int .i64 er])∧rd us=l∧OwnN w' w.heap.size v' us∧Below w.heap.size w w'∧Frs w.heap.size us:=by
 have HP:Hid (Parts w B v ts):=hp
 obtain ⟨a,c,rfl,hc,hl,_⟩:=hp
 obtain ⟨⟨m,e1⟩,hm⟩:∃ m,makeT (rd ts)=m:=⟨_,rfl⟩
 have kc:=make_fr B _ ts w hB HP.out m e1 hm
 have hme:=makeT_err (rd ts)
 rw [ownT,hm] at hr
 rw [hm] at hme
 simp only at hr hme
 have HR:Hid ((if e1=0 then if m=rd ts then (rd ts,0) else ([],2) else ([],e1))=(l,er)∧(e1=0∨m=[])):=⟨hr,hme⟩
 clear hr hme hm
 go_enter Tryz.func86,Tryz.ntmps86
 go_wp2_with fail
 refine kc.mono ?_
 rintro e w1 ⟨v1,us,rfl,hrd,ho,hb1,hfr⟩
 have HFR:Hid (Frs w.heap.size us):=hfr
 clear hfr
 have HO:Hid (OwnN w1 w.heap.size v1 us):=ho
 have HD:Hid (rd us=m):=hrd
 obtain ⟨a1,c1,rfl⟩:=ho.slice
 clear ho hrd kc
 by_cases h0:e1=0
 ·subst h0
  have hP1:Parts w1 w1.heap.size (.slice a ts.length c) ts:=(HP.out.at hB hb1).mono (Nat.le_trans hB hb1.size)
  by_cases h2:m=rd ts
  ·have h3:=HR.out.1
   rw [if_pos rfl,if_pos h2] at h3
   simp only [Prod.mk.injEq] at h3
   obtain ⟨h3,rfl⟩:=h3
   have HL:Hid (rd us=l):=by rw [Hid,HD.out,h2,h3]
   have ke:=equal_any w1.heap.size _ _ ts us w1 (Nat.le_refl _) hP1 HO.out.parts true (decide_eq_true (by rw [HD.out,h2]))
   clear h2 h3 hP1
   go_wp2_with fail
   refine ke.mono ?_
   rintro e w2 ⟨rfl,hb2⟩
   clear ke
   go_wp2
   exact bodyPost_ret (v:=.tuple #[.slice a1 us.length c1,.int .i64 0]) (by simp [results,Tryz.results86,go_sem]) rfl ⟨_,us,rfl,HL.out,HO.out.keep hb2,bt hb1 hb2,HFR.out⟩
  ·have h3:=HR.out.1
   rw [if_pos rfl,if_neg h2] at h3
   simp only [Prod.mk.injEq] at h3
   obtain ⟨rfl,rfl⟩:=h3
   have ke:=equal_any w1.heap.size _ _ ts us w1 (Nat.le_refl _) hP1 HO.out.parts false (decide_eq_false (by rw [HD.out]; exact fun h=>h2 h.symm))
   clear h2 hP1
   go_wp2_with fail
   refine ke.mono ?_
   rintro e w2 ⟨rfl,hb2⟩
   clear ke
   go_wp2
   exact bodyPost_ret (v:=.tuple #[.slice none 0 0,.int .i64 2]) (by simp [results,Tryz.results86,go_sem]) rfl ⟨_,[],rfl,rfl,.inl ⟨rfl,rfl⟩,bt hb1 hb2,Frs.nil _⟩
 ·have h3:=HR.out.1
  have h4:=HR.out.2
  rw [if_neg h0] at h3
  simp only [Prod.mk.injEq] at h3
  obtain ⟨rfl,rfl⟩:=h3
  have HL:Hid (rd us=[]):=by
   rcases h4 with h | h
   ·exact absurd h h0
   ·rw [Hid,HD.out,h]
  have h0':(e1 == 0)=false:=by simpa using h0
  clear h4
  go_wp2
  exact bodyPost_ret (v:=.tuple #[.slice a1 us.length c1,.int .i64 e1]) (by simp [results,Tryz.results86,go_sem]) rfl ⟨_,us,rfl,HL.out,HO.out,hb1,HFR.out⟩
theorem own_any (B:Nat) (v:Value) (ts:List Tr) (w:World) (hB:B≤w.heap.size) (hp:Parts w B v ts) (l:List Pt) (er:Int) (hr:ownT (rd ts)=(l,er)) :
  Calls Tryz.prog 86 #[v] w fun e w'=>∃ v' us,e=.returned (.tuple #[v',.int .i64 er])∧rd us=l∧OwnN w' w.heap.size v' us∧Below w.heap.size w w' :=
 (own_fr B v ts w hB hp l er hr).mono fun _ _ ⟨v',us,h1,h2,h3,h4,_⟩=>⟨v',us,h1,h2,h3,h4⟩
theorem parts_one (w:World) (B nb:Nat) (v:Value) (xs:List Int) (k:Int) (hB:B≤w.heap.size) (h:Ints w B nb v xs) :
  Parts (w.alloc (.cells #[v,.int .i64 k] 82)) (w.heap.size + 1) (.slice (some ⟨w.heap.size,0,none⟩) 1 1) [(v,xs,k)]:=by
 refine ⟨_,1,rfl,by simp,by simp,fun t ht=>?_,fun _=>⟨w.heap.size,0,rfl,by omega,fun i t hi=>?_⟩⟩
 ·simp at ht; subst ht
  exact (h.at hB (ba _ _)).mono (by omega) (.inr (by omega))
 ·match i,hi with
  | 0,hi =>
   simp at hi; subst hi
   exact ⟨by simp [go_sem],by simp [go_sem]⟩
theorem ownFor_any (B:Nat) (v:Value) (ts:List Tr) (w:World) (hB:B≤w.heap.size) (hp:Parts w B v ts) (l:List Pt) (er:Int) (hr:ownT (rd ts)=(l,er)) :
  Calls Tryz.prog 166 #[v,.bool true] w fun e w'=>∃ v' us,e=.returned (.tuple #[v',.int .i64 er])∧rd us=l∧OwnN w' w.heap.size v' us∧Below w.heap.size w w':=by
 have kc:=own_any B v ts w hB hp l er hr
 obtain ⟨a,c,rfl,_⟩:=hp
 clear hr
 go_enter Tryz.func166,Tryz.ntmps166
 go_wp2_with fail
 refine kc.mono ?_
 rintro e w1 ⟨v1,us,rfl,h1,h2,h3⟩
 obtain ⟨b1,d1,rfl⟩:=h2.slice
 have H2:Hid (OwnN w1 w.heap.size (.slice b1 us.length d1) us∧rd us=l):=⟨h2,h1⟩
 clear h1 h2 kc
 by_cases h0:er=0
 ·subst h0
  go_wp2
  exact bodyPost_ret (v:=.tuple #[.slice b1 us.length d1,.int .i64 0]) (by simp [results,Tryz.results166,go_sem]) rfl ⟨_,us,rfl,H2.out.2,H2.out.1,h3⟩
 ·have h0':(er == 0)=false:=by simpa using h0
  go_wp2
  exact bodyPost_ret (v:=.tuple #[.slice b1 us.length d1,.int .i64 er]) (by simp [results,Tryz.results166,go_sem]) rfl ⟨_,us,rfl,H2.out.2,H2.out.1,h3⟩
abbrev Vl:=Value × List Int
def Lsts (w:World) (B:Nat) (v:Value) (zs:List Vl):Prop :=
 ∃ a c,v=.slice a zs.length c∧zs.length≤c∧zs.length≤4294967296∧(∀ z∈zs,Ints w B B z.1 z.2) ∧
  (zs≠[]→∃ b o,a=some ⟨b,o,none⟩∧b < B∧∀ i z,zs[i]? = some z→w.cell? ⟨b,o + i,none⟩=some z.1)
theorem Lsts.keep {w w':World} {B:Nat} {v:Value} {zs:List Vl} (h:Lsts w B v zs) (hb:Below B w w'):Lsts w' B v zs:=by
 obtain ⟨a,c,hv,hc,hl,hi,hx⟩:=h
 refine ⟨a,c,hv,hc,hl,fun t ht=>(hi t ht).keep hb,fun hne=>?_⟩
 obtain ⟨b,o,ha,hB,hcell⟩:=hx hne
 exact ⟨b,o,ha,hB,fun i z hz=>(hb.cell (p:=⟨b,o + i,none⟩) hB).trans (hcell i z hz)⟩
theorem Lsts.get {w wr:World} {B:Nat} {a:Option Addr} {n c:Nat} {zs:List Vl} (hp:Lsts w B (.slice a n c) zs) (hB:B≤w.heap.size) (hbl:Below w.heap.size w wr) {i:Nat} (h:i < zs.length) :
  ∃ b o sa sc xs,a=some ⟨b,o,none⟩∧b < w.heap.size∧zs[i]? = some (.slice sa xs.length sc,xs)∧wr.cell? ⟨b,o + i,none⟩=some (.slice sa xs.length sc)∧Ints wr B B (.slice sa xs.length sc) xs:=by
 obtain ⟨a',c',hv,hc,hl,hi,hx⟩:=hp
 simp only [Value.slice.injEq] at hv
 obtain ⟨rfl,rfl,rfl⟩:=hv
 obtain ⟨b,o,ha,hb,hcell⟩:=hx (ne_of_lt h)
 obtain ⟨⟨s,xs⟩,hs⟩:=get_lt h
 have hI:=hi _ (List.mem_of_getElem? hs)
 have hI2:=hI.at hB hbl
 obtain ⟨sa,sc,he,_⟩:=hI
 simp only at he
 subst he
 exact ⟨b,o,sa,sc,xs,ha,by omega,hs,(hbl.cell (p:=⟨b,o + i,none⟩) (by show b < w.heap.size; omega)).trans (hcell i _ hs),hI2⟩
def Pfx (x y:List Int) (i:Nat):Prop:=x.take i=y.take i
theorem Pfx.step {x y:List Int} {i:Nat} {a:Int} (h:Pfx x y i) (hx:x[i]? = some a) (hy:y[i]? = some a):Pfx x y (i + 1):=by
 rw [Pfx,List.take_add_one,List.take_add_one,hx,hy,show x.take i=y.take i from h]
theorem Pfx.all {x y:List Int} (h:Pfx x y x.length) (hl:x.length=y.length):x=y:=by
 have:=h
 rw [Pfx,List.take_length,hl,List.take_length] at this
 exact this
set_option maxHeartbeats 400000 in
theorem equalI_any (B n1 n2:Nat) (u v:Value) (x y:List Int) (w:World) (hx:Ints w B n1 u x) (hy:Ints w B n2 v y) (r:Bool) (hr:decide (x=y)=r) :
  Calls Tryz.prog 168 #[u,v] w fun e w'=>e=.returned (.bool r)∧∃ q,w' = w.drewN q:=by
 obtain ⟨ax,cx,rfl,hcx,hlx,hxx⟩:=hx
 obtain ⟨ay,cy,rfl,hcy,hly,hyy⟩:=hy
 have HX:Hid (x≠[]→∃ b o,ax=some ⟨b,o,none⟩∧b < B∧b≠n1∧∀ i z,x[i]? = some z→w.cell? ⟨b,o + i,none⟩=some (.int .i64 z)):=hxx
 have HY:Hid (y≠[]→∃ b o,ay=some ⟨b,o,none⟩∧b < B∧b≠n2∧∀ i z,y[i]? = some z→w.cell? ⟨b,o + i,none⟩=some (.int .i64 z)):=hyy
 have HR:Hid (decide (x=y)=r):=hr
 clear hxx hyy hr
 by_cases hl:x.length=y.length
 ·obtain ⟨n,hn⟩:∃ n,y.length=n:=⟨_,rfl⟩
  have HL:Hid (x.length=n∧y.length=n):=⟨by omega,hn⟩
  have hn1:n≤1073741824:=by omega
  rw [hl,hn]
  clear hl hn hcx hcy
  go_enter Tryz.func168,Tryz.ntmps168
  go_wp2
  go_loopw [5,13] (fun _ s wr=>∃ i:Nat,s=.int .i64 (i:Int)∧i≤n∧Hid (Pfx x y i)∧∃ q,wr=w.drewN q) (fun _ s _=>n - (intOf s).toNat)
  case atStart=>exact ⟨0,rfl,Nat.zero_le _,by simp [Hid,Pfx],0,rfl⟩
  case round =>
   obtain ⟨i,rfl,hix,HC,q,rfl⟩:=hrel
   by_cases h1:i < n
   ·have h1x:i < x.length:=by have:=HL.out.1; omega
    have h1y:i < y.length:=by have:=HL.out.2; omega
    obtain ⟨bx,ox,rfl,hbx,hnx,hcx⟩:=HX.out (ne_of_lt h1x)
    obtain ⟨zx,hzx⟩:=get_lt h1x
    have cx1:=hcx i zx hzx
    obtain ⟨by',oy,rfl,hby,hny,hcy⟩:=HY.out (ne_of_lt h1y)
    obtain ⟨zy,hzy⟩:=get_lt h1y
    have cy1:=hcy i zy hzy
    have HZ:Hid (x[i]? = some zx∧y[i]? = some zy):=⟨hzx,hzy⟩
    clear hcx hcy HX HY hzx hzy h1x h1y
    by_cases c1:zx=zy
    ·subst c1
     go_wp2
     go_quiet (fail)
     go_wp2
     go_roundw
     case rel=>exact ⟨i + 1,by go_num,h1,HC.out.step HZ.out.1 HZ.out.2,_,rfl⟩
     case measure=>simp [intOf]; omega
    ·have c1':(zx == zy)=false:=by simpa using c1
     have c1'':(zx != zy)=true:=by simpa using c1
     have hf:r=false:=by
      rw [← HR.out]
      refine decide_eq_false fun e=>c1 ?_
      have h2:=HZ.out.1
      rw [e,HZ.out.2] at h2
      simp at h2
      exact h2.symm
     subst hf
     go_wp2
     go_quiet (fail)
     go_wp2
     go_ret
     exact ⟨rfl,dr1 _ _ _⟩
   ·have hf:r=true:=by
     rw [← HR.out]
     have h2:=HL.out
     refine decide_eq_true (Pfx.all ?_ (by omega))
     have:=HC.out
     rwa [show i=x.length by omega] at this
    subst hf
    go_wp2
    go_ret
    exact ⟨rfl,_,rfl⟩
 ·have hf:r=false:=by
   rw [← HR.out]
   exact decide_eq_false fun e=>hl (by rw [e])
  subst hf
  have hl':((x.length:Int) == (y.length:Int))=false:=by simp; omega
  have hl'':((x.length:Int) != (y.length:Int))=true:=by simp; omega
  go_enter Tryz.func168,Tryz.ntmps168
  go_wp2
  go_ret
  exact ⟨rfl,0,rfl⟩
end Go.Proofs.YtlndlpjadajelaaGreat
namespace Go.Proofs.YtlndlpjadajelaaGreat
open Go.RowKit
abbrev rv (n m:Int):Value:=.agg #[.int .i64 n,.int .i64 m]
set_option maxHeartbeats 400000 in
theorem rmake_any (u d n m e:Int) (hu:u≤9223372036854775807) (hd:d≤9223372036854775807) (h:Rt.mkT u d=(n,m,e)) (w:World) :
  Calls Tryz.prog 41 #[.int .i64 u,.int .i64 d] w fun x w'=>x=.returned (.tuple #[rv n m,.int .i64 e])∧Below w.heap.size w w':=by
 have H:Hid (Rt.mkT u d=(n,m,e)):=h
 clear h
 by_cases c1:u < 0
 ·have hr:(0,0,3)=(n,m,e):=by rw [← H.out]; unfold Rt.mkT; rw [if_pos (.inl c1)]
  simp only [Prod.mk.injEq] at hr
  obtain ⟨rfl,rfl,rfl⟩:=hr
  go_enter Tryz.func41,Tryz.ntmps41
  go_wp2
  exact bodyPost_ret (v:=.tuple #[rv 0 0,.int .i64 3]) (by simp [results,Tryz.results41,go_sem]) rfl ⟨rfl,ba _ _⟩
 by_cases c2:d < 1
 ·have hr:(0,0,3)=(n,m,e):=by rw [← H.out]; unfold Rt.mkT; rw [if_pos (.inr c2)]
  simp only [Prod.mk.injEq] at hr
  obtain ⟨rfl,rfl,rfl⟩:=hr
  go_enter Tryz.func41,Tryz.ntmps41
  go_wp2
  exact bodyPost_ret (v:=.tuple #[rv 0 0,.int .i64 3]) (by simp [results,Tryz.results41,go_sem]) rfl ⟨rfl,ba _ _⟩
 have hm:=Rt.mkT_of u d n m e (by omega) (by omega) H.out
 clear H
 obtain ⟨x,rfl⟩:=Int.eq_ofNat_of_zero_le (show 0≤u by omega)
 obtain ⟨y,rfl⟩:=Int.eq_ofNat_of_zero_le (show 0≤d by omega)
 rw [show Int.gcd (x:Int) (y:Int)=Nat.gcd x y from rfl] at hm
 have hg1:1≤Nat.gcd x y:=Nat.gcd_pos_of_pos_right _ (by omega)
 have hg2:Nat.gcd x y≤y:=Nat.gcd_le_right _ (by omega)
 have q1:0≤(x:Int) / (Nat.gcd x y:Nat):=Int.ediv_nonneg (by omega) (by omega)
 have q2:0≤(y:Int) / (Nat.gcd x y:Nat):=Int.ediv_nonneg (by omega) (by omega)
 have q3:(x:Int) / (Nat.gcd x y:Nat)≤9223372036854775807:=Int.le_trans (Int.ediv_le_self _ (by omega)) hu
 have q4:(y:Int) / (Nat.gcd x y:Nat)≤9223372036854775807:=Int.le_trans (Int.ediv_le_self _ (by omega)) hd
 rcases hm with ⟨hc,rfl,rfl,rfl⟩ | ⟨hc1,hc2,rfl,rfl,rfl⟩
 ·have hc':1073741824 < (x:Int) / (Nat.gcd x y:Nat)∨((x:Int) / (Nat.gcd x y:Nat)≤1073741824∧1073741824 < (y:Int) / (Nat.gcd x y:Nat)):=by omega
  clear hc
  rcases hc' with hc1 | ⟨hc1,hc2⟩
  all_goals
   go_enter Tryz.func41,Tryz.ntmps41
   go_wp2_with (go_at_call 90; refine (divisor_any _ _ (by omega) (by omega) _).mono ?_; rintro e w' ⟨rfl,hbl⟩)
   obtain ⟨hcell,hfroz⟩:=bcell hbl
   generalize Nat.gcd x y=g at *
   have hz:w.heap.size < w'.heap.size:=by have:=hbl.size; simp at this; omega
   go_region
   go_wp2
   exact bodyPost_ret (v:=.tuple #[rv 0 0,.int .i64 4]) (by simp [results,Tryz.results41,go_sem,hcell,hz]) rfl ⟨rfl,(bal (bs (bs (bt (ba _ _) hbl) (Nat.le_refl _) _) (Nat.le_refl _) _) _).drew⟩
 ·go_enter Tryz.func41,Tryz.ntmps41
  go_wp2_with (go_at_call 90; refine (divisor_any _ _ (by omega) (by omega) _).mono ?_; rintro e w' ⟨rfl,hbl⟩)
  obtain ⟨hcell,hfroz⟩:=bcell hbl
  have hz:w.heap.size < w'.heap.size:=by have:=hbl.size; simp at this; omega
  go_region
  go_wp2
  exact bodyPost_ret (v:=.tuple #[rv (x / (Nat.gcd x y:Nat)) (y / (Nat.gcd x y:Nat)),.int .i64 0]) (by simp [results,Tryz.results41,go_sem,hcell,hz]) rfl ⟨rfl,(bal (bs (bs (bt (ba _ _) hbl) (Nat.le_refl _) _) (Nat.le_refl _) _) _).drew⟩
end Go.Proofs.YtlndlpjadajelaaGreat
namespace Go.Proofs.YtlndlpjadajelaaGreat
open Go.RowKit Go.Proofs.YtlndlpjadajelaaGreat.Ds
structure Dis (l:List Pt):Prop where
 rise:Rise l
 pos:Pos l
 le:tot l≤1073741824
 ne:l≠[]
 ok:l.all okP=true
 few:l.length≤4096
 one:dv l=1
theorem cut_rise {g:Int} {l:List Pt} (h:Rise l):Rise (cut g l):=by
 unfold Rise cut
 rw [List.pairwise_map]
 exact h
theorem dv_mul (g:Nat):∀ l:List Pt,dv (l.map fun p=>(p.1,(g:Int) * p.2))=g * dv l
 | []=>by simp [dv]
 | p :: l=>by
  simp only [List.map_cons,dv,dv_mul g l]
  rw [Int.natAbs_mul,Int.natAbs_natCast,Nat.gcd_mul_left]
theorem cut_back {l:List Pt} {g:Nat} (h:∀ p∈l,(g:Int) ∣ p.2):(cut g l).map (fun p=>(p.1,(g:Int) * p.2))=l:=by
 simp only [cut,List.map_map]
 conv=>rhs; rw [← List.map_id l]
 refine List.map_congr_left fun p hp=>?_
 simp only [Function.comp,id]
 rw [Int.mul_ediv_cancel' (h p hp)]
theorem lowT_ok {l m:List Pt} (hp:Pos l) (hr:Rise l) (h:lowT l=(m,0)):Rise m∧Pos m∧tot m≤1073741824∧m≠[]∧m.length≤4096∧dv m=1:=by
 unfold lowT at h
 split at h
 ·simp at h
 ·rename_i hne
  split at h
  ·simp at h
  ·rename_i hc
   simp only [Prod.mk.injEq,and_true] at h
   subst h
   have hd:=dv_pos hp hne
   have hdv:∀ p∈l,((dv l:Nat):Int) ∣ p.2:=fun p hp=>dv_dvd_int hp
   refine ⟨cut_rise hr,?_,by omega,?_,by rw [cut_length]; omega,?_⟩
   ·intro p hpm
    obtain ⟨q,hq,rfl⟩:=List.mem_map.1 hpm
    have h1:=hp q hq
    exact Int.ediv_pos_of_pos_of_dvd h1 (by omega) (hdv q hq)
   ·simp [cut,hne]
   ·have e:=dv_mul (dv l) (cut (dv l) l)
    rw [cut_back hdv] at e
    exact Nat.eq_of_mul_eq_mul_left hd (by rw [← e,Nat.mul_one])
theorem ownT_ok {l m:List Pt} (h:ownT l=(m,0)):m=l∧Dis l:=by
 unfold ownT at h
 split at h
 ·rename_i h0
  split at h
  ·rename_i h1
   simp only [Prod.mk.injEq,and_true] at h
   have hm:makeT l=(l,0):=Prod.ext h1 h0
   unfold makeT at hm
   split at hm
   ·rename_i hok
    obtain ⟨a,b,c,d,e,f⟩:=lowT_ok (gath_pos (all_okP hok).1) (gath_rise l) hm
    exact ⟨h.symm,a,b,c,d,hok,e,f⟩
   ·simp at hm
  ·simp at h
 ·rename_i h0
  simp only [Prod.mk.injEq] at h
  exact absurd h.2 h0
theorem wt_at {l:List Pt} (h:Rise l) {i:Nat} {p:Pt} (hp:l[i]? = some p):wt l p.1=p.2:=by
 induction l generalizing i with
 | nil=>simp at hp
 | cons q l ih =>
  cases i with
  | zero=>simp at hp; subst hp; exact wt_head h
  | succ i =>
   simp at hp
   rw [wt_cons,ih (rise_tail h) hp,if_neg (ltL_ne ((List.pairwise_cons.1 h).1 p (List.mem_of_getElem? hp)))]
   omega
theorem tot_pos2 {l:List Pt} (h:Pos l) (hne:l≠[]):0 < tot l:=by
 cases l with
 | nil=>exact absurd rfl hne
 | cons p l=>have:=h p (by simp); have:=tot_pos (l:=l) fun q hq=>h q (by simp [hq]); rw [tot_cons]; omega
theorem Parts.elem {w wr:World} {B:Nat} {v:Value} {ts:List Tr} (h:Parts w B v ts) (hB:B≤w.heap.size) (hb:Below w.heap.size w wr) {t:Tr} (ht:t∈ts):Ints wr B B t.1 t.2.1:=by
 obtain ⟨_,_,_,_,_,hI,_⟩:=h
 exact (hI t ht).at hB hb
theorem owns_below {w w':World} {base:Nat} {e:TypeId} {size:Nat} {v:Value} {n:Nat} {xs:List Value} (h:w.ownsRow base e size v n xs) (hb:Below w.heap.size w w'):w'.ownsRow base e size v n xs:=by
 obtain ⟨h1,h2⟩:=h
 refine ⟨h1,?_⟩
 rcases h2 with h2 | ⟨g,cap,cur,hv,hg,hcur,h3⟩
 ·exact .inl h2
 ·exact .inr ⟨g,cap,cur,hv,hg,by rw [hb.block g (Array.getElem?_eq_some_iff.1 hcur).1]; exact hcur,h3⟩
theorem owns_block {w:World} {base:Nat} {e:TypeId} {size:Nat} {v:Value} {n:Nat} {xs:List Value} (h:w.ownsRow base e size v n xs):∀ k,v.ownBlock=some k→base≤k:=by
 intro k hk
 obtain ⟨_,⟨rfl,_⟩ | ⟨g,cap,cur,rfl,hg,_⟩⟩:=h
 ·simp [Value.ownBlock] at hk
 ·simp [Value.ownBlock] at hk; omega
theorem owns_slice {w:World} {base:Nat} {e:TypeId} {size:Nat} {v:Value} {n:Nat} {xs:List Value} (h:w.ownsRow base e size v n xs):∃ a c,v=.slice a n c:=by
 obtain ⟨_,⟨rfl,rfl⟩ | ⟨g,cap,cur,rfl,_⟩⟩:=h
 ·exact ⟨_,_,rfl⟩
 ·exact ⟨_,_,rfl⟩
theorem flat_snoc (ds:List Tr) (v:Value) (xs:List Int) (k:Int):flat ds ++ [v,.int .i64 k]=flat (ds ++ [(v,xs,k)]):=by simp [flat]
def Rws (w:World) (lo:Nat) (v:Value) (ds:List Tr):Prop :=
 w.ownsRow lo 82 2 v ds.length (flat ds)∧∀ t∈ds,∃ m,Ints w w.heap.size m t.1 t.2.1∧∀ g,v.ownBlock=some g→m=g
theorem Rws.nil (w:World) (lo:Nat):Rws w lo (.slice none 0 0) []:=⟨⟨rfl,.inl ⟨rfl,rfl⟩⟩,fun t ht=>by cases ht⟩
theorem Rws.keep {w w':World} {lo:Nat} {v:Value} {ds:List Tr} (h:Rws w lo v ds) (hb:Below w.heap.size w w'):Rws w' lo v ds :=
 ⟨owns_below h.1 hb,fun t ht=>let ⟨m,h1,h2⟩:=h.2 t ht; ⟨m,h1.at2 hb,h2⟩⟩
theorem Rws.slice {w:World} {lo:Nat} {v:Value} {ds:List Tr} (h:Rws w lo v ds):∃ a c,v=.slice a ds.length c:=owns_slice h.1
theorem Rws.lt {w:World} {lo:Nat} {v:Value} {ds:List Tr} (h:Rws w lo v ds):∀ g,v.ownBlock=some g→lo≤g∧g < w.heap.size:=h.1.lt
theorem Ints.grow {W w':World} {B m m':Nat} {s:Value} {xs:List Int} {row:Option Nat} (h:Ints W B m s xs) (hg:W.grownBy w' row) (hB:B≤W.heap.size) (hrow:∀ g,row=some g→m=g) (hm:m' = m∨B≤m'):Ints w' w'.heap.size m' s xs:=by
 obtain ⟨a,c,hv,hc,hl,hx⟩:=h
 refine ⟨a,c,hv,hc,hl,fun hne=>?_⟩
 obtain ⟨b,o,ha,hb,hn,hcell⟩:=hx hne
 have:=hg.size
 refine ⟨b,o,ha,by omega,by rcases hm with h | h <;> omega,fun i x hi=>?_⟩
 refine hg.cell (hcell i x hi) fun e=>hn ?_
 exact (hrow b e.symm).symm
theorem Rws.app {W w':World} {lo:Nat} {v v' s:Value} {ds:List Tr} {xs:List Int} {k:Int} {m:Nat} (h:Rws W lo v ds) (hown:w'.ownsRow lo 82 2 v' (ds.length + 1) (flat ds ++ [s,.int .i64 k])) (hg:W.grownBy w' v.ownBlock)
  (hat:v'.ownBlock=v.ownBlock∨v'.ownBlock=some W.heap.size) (hi:Ints W W.heap.size m s xs) (hm:∀ g,v.ownBlock=some g→m=g):Rws w' lo v' (ds ++ [(s,xs,k)]):=by
 refine ⟨by rw [← flat_snoc]; simpa using hown,fun t ht=>?_⟩
 have key:∀ (m:Nat) (s:Value) (xs:List Int),Ints W W.heap.size m s xs→(∀ g,v.ownBlock=some g→m=g)→∃ m',Ints w' w'.heap.size m' s xs∧∀ g,v'.ownBlock=some g→m' = g:=by
  intro m s xs h1 h2
  rcases hat with hat | hat
  ·exact ⟨m,h1.grow hg (Nat.le_refl _) h2 (.inl rfl),by rw [hat]; exact h2⟩
  ·exact ⟨W.heap.size,h1.grow hg (Nat.le_refl _) h2 (.inr (Nat.le_refl _)),by rw [hat]; intro g e; simpa using e⟩
 rcases List.mem_append.1 ht with ht | ht
 ·obtain ⟨m,h1,h2⟩:=h.2 t ht
  exact key m t.1 t.2.1 h1 h2
 ·obtain rfl:t=(s,xs,k):=by simpa using ht
  exact key m s xs hi hm
theorem Rws.parts {w:World} {lo:Nat} {v:Value} {ds:List Tr} (h:Rws w lo v ds) (hl:ds.length≤1073741824):Parts w w.heap.size v ds:=by
 have hi:∀ t∈ds,Ints w w.heap.size w.heap.size t.1 t.2.1:=fun t ht=>let ⟨m,h1,_⟩:=h.2 t ht; h1.mono (Nat.le_refl _) (.inr (Nat.le_refl _))
 by_cases hv:v=.slice none 0 0
 ·subst hv
  have h0:ds=[]:=by
   obtain ⟨_,⟨_,h0⟩ | ⟨g,cap,cur,hv,_⟩⟩:=h.1
   ·exact List.length_eq_zero_iff.1 h0
   ·cases hv
  subst h0
  exact parts_nil w _
 ·obtain ⟨g,cap,rfl,hcap,hgb,hrow⟩:=row_of_owns rfl h.1 hv
  exact ⟨_,cap,rfl,hcap,hl,hi,fun _=>⟨g,0,rfl,hrow.lt,hrow.cells⟩⟩
set_option maxRecDepth 100000 in
theorem cloneD_any (B:Nat) (v:Value) (ts:List Tr) (w:World) (hB:B≤w.heap.size) (hx:Parts w B v ts) :
  Calls Tryz.prog 139 #[v] w fun e w'=>∃ v',e=.returned v'∧Below w.heap.size w w' ∧
   ((ts=[]∧v' = .slice none 0 0)∨∃ g cap,v' = .slice (some ⟨g,0,none⟩) ts.length cap∧ts.length≤cap∧w.heap.size≤g∧Row w' g 0 ts):=by
 obtain ⟨a,c,rfl,hc,hl,hI,hxx⟩:=hx
 have q23:∀ (w:World) (a:Option Addr) (n c n' c':Nat),(binOp .eql 44 (.slice a n c) (.slice none n' c')).run Tryz.prog w=.ok (.bool a.isNone) w:=fun w a n c n' c'=>Lib.run_eql_slice_nil w _ _ a n c n' c' Tryz.underlying44
 cases a with
 | none =>
  obtain rfl:ts=[]:=by
   cases ts with
   | nil=>rfl
   | cons x l=>obtain ⟨b,o,h,_⟩:=hxx (by simp); cases h
  clear hxx hI
  go_enter Tryz.func139,Tryz.ntmps139
  go_wp2
  go_ret
  exact ⟨_,rfl,Below.refl _ _,by simp⟩
 | some ad =>
  have A:Hid (∀ j u,(flat ts)[j]? = some u→∀ o,(w.alloc o).cell? (ad.add j)=some u):=by
   intro j u hj o
   have hlt:j < ts.length * 2:=by rw [← flat_len]; exact (List.getElem?_eq_some_iff.1 hj).1
   obtain ⟨b,o',he,hb,hcell⟩:=hxx (by rintro rfl; simp at hlt)
   simp only [Option.some.injEq] at he
   subst he
   rw [Addr.add_lit,World.cell?_alloc_lt _ _ _ (by simp; omega)]
   exact flat_cells hcell j u hj
  have A1:Hid (∀ u∈flat ts,u.oneCell' = true):=by
   intro u hu
   obtain ⟨t,ht,hu⟩:=List.mem_flatMap.1 hu
   obtain ⟨sa,sc,he,_⟩:=hI t ht
   simp only [List.mem_cons,List.not_mem_nil,or_false] at hu
   rcases hu with rfl | rfl
   ·rw [he]; rfl
   ·rfl
  obtain ⟨i0,hi,hz0,hz1,hz2⟩:=info_parts info32
  clear hxx hI
  have hnb:Hid (ts.length * 32≤140737488355328∧ts.length≤maxLen):=⟨by omega,by simp [maxLen]; omega⟩
  go_enter Tryz.func139,Tryz.ntmps139
  go_wp2_with (at_builtin; refine wpList_append_own _ rfl _ _ 44 rfl w.heap.size 82 i0 (.agg #[.slice none 0 0,.int .i64 0]) 2 32 Tryz.underlying44 hi hz0 hz1 hz2 rfl (by decide) _ _ _ rfl (World.ownsRow_made w #[] 0 (Nat.le_refl _) (Nat.zero_le _) (by simp)) ad ts.length c (flat ts) rfl ?qc1 ?qc2 ?qc3 ?qc4 ?qc5 ?qc6 ?_)
  case qc1=>exact flat_len ts
  case qc2=>intro j u hj; exact A.out j u hj _
  case qc3=>exact A1.out
  case qc4=>rw [Nat.zero_add]; exact hnb.out.2
  case qc5=>rw [Nat.zero_add]; exact hnb.out.1
  case qc6=>simp
  intro v' w1 hown hgrow hnil
  go_wp2
  go_ret
  refine ⟨v',rfl,?_,.inr ?_⟩
  ·exact ((Below.refl _ w).alloc (Nat.le_refl _) _).grown hgrow (by simp) (by intro k hk; simp [Value.ownBlock] at hk; omega)
  ·exact row_of_owns (Nat.zero_add _) (by simpa using hown) hnil
set_option maxHeartbeats 400000 in
theorem right_any (u d:Int) (b:Bool) (hb:Rt.rightB u d=b) (w:World) :
  Calls Tryz.prog 63 #[rv u d] w fun e w'=>e=.returned (.bool b)∧Below w.heap.size w w':=by
 have HB:Hid (Rt.rightB u d=b):=hb
 clear hb
 by_cases c:0≤u∧u≤1073741824∧1≤d∧d≤1073741824
 ·obtain ⟨c1,c2,c3,c4⟩:=c
  obtain ⟨x,rfl⟩:=Int.eq_ofNat_of_zero_le c1
  obtain ⟨y,rfl⟩:=Int.eq_ofNat_of_zero_le (show 0≤d by omega)
  have hbb:b=(((Nat.gcd x y:Nat):Int) == 1):=by
   rw [← HB.out]; unfold Rt.rightB; rw [Bool.eq_iff_iff]; simp [Rt.mx]; omega
  subst hbb
  clear HB
  go_enter Tryz.func63,Tryz.ntmps63
  go_wp2_with (go_at_call 90; refine (divisor_any _ _ (by omega) (by omega) _).mono ?_; rintro e w' ⟨rfl,hbl⟩)
  go_ret
  exact ⟨rfl,bt (ba _ _) hbl⟩
 ·have hbb:b=false:=by
   rw [← HB.out]; unfold Rt.rightB Rt.mx; exact decide_eq_false (fun h=>c ⟨h.1,h.2.1,h.2.2.1,h.2.2.2.1⟩)
  subst hbb
  clear HB
  by_cases c1:u < 0
  ·clear c
   go_enter Tryz.func63,Tryz.ntmps63
   go_wp2
   go_ret
   exact ⟨rfl,ba _ _⟩
  by_cases c2:1073741824 < u
  ·clear c
   go_enter Tryz.func63,Tryz.ntmps63
   go_wp2
   go_ret
   exact ⟨rfl,ba _ _⟩
  by_cases c3:d < 1
  ·clear c
   go_enter Tryz.func63,Tryz.ntmps63
   go_wp2
   go_ret
   exact ⟨rfl,ba _ _⟩
  ·have c4:1073741824 < d:=by omega
   clear c
   go_enter Tryz.func63,Tryz.ntmps63
   go_wp2
   go_ret
   exact ⟨rfl,ba _ _⟩
set_option maxHeartbeats 400000 in
theorem refRight_any (u d:Int) (b:Bool) (hb:Rt.rightB u d=b) (w:World) :
  Calls Tryz.prog 42 #[rv u d] w fun e w'=>e=.returned (.bool b)∧Below w.heap.size w w':=by
 have HB:Hid (Rt.rightB u d=b):=hb
 clear hb
 by_cases c:0≤u∧u≤1073741824∧1≤d∧d≤1073741824
 ·obtain ⟨c1,c2,c3,c4⟩:=c
  obtain ⟨x,rfl⟩:=Int.eq_ofNat_of_zero_le c1
  obtain ⟨y,rfl⟩:=Int.eq_ofNat_of_zero_le (show 0≤d by omega)
  have hbb:b=(((Nat.gcd x y:Nat):Int) == 1):=by
   rw [← HB.out]; unfold Rt.rightB; rw [Bool.eq_iff_iff]; simp [Rt.mx]; omega
  subst hbb
  clear HB
  go_enter Tryz.func42,Tryz.ntmps42
  go_wp2_with (go_at_call 56; refine (refDivisor_any _ _ (by omega) (by omega) (by omega) _).mono ?_; rintro e w' ⟨rfl,rfl⟩)
  go_ret
  exact ⟨rfl,ba _ _⟩
 ·have hbb:b=false:=by
   rw [← HB.out]; unfold Rt.rightB Rt.mx; exact decide_eq_false (fun h=>c ⟨h.1,h.2.1,h.2.2.1,h.2.2.2.1⟩)
  subst hbb
  clear HB
  by_cases c1:u < 0
  ·clear c
   go_enter Tryz.func42,Tryz.ntmps42
   go_wp2
   go_ret
   exact ⟨rfl,ba _ _⟩
  by_cases c3:d < 1
  ·clear c
   go_enter Tryz.func42,Tryz.ntmps42
   go_wp2
   go_ret
   exact ⟨rfl,ba _ _⟩
  by_cases c2:1073741824 < u
  ·clear c
   go_enter Tryz.func42,Tryz.ntmps42
   go_wp2
   go_ret
   exact ⟨rfl,ba _ _⟩
  ·have c4:1073741824 < d:=by omega
   clear c
   go_enter Tryz.func42,Tryz.ntmps42
   go_wp2
   go_ret
   exact ⟨rfl,ba _ _⟩
theorem timesLit (a b c d:Int) (p q:Nat) (w:World) (a1:0≤a) (a2:a≤1073741824) (b1:1≤b) (b2:b≤1073741824) (c1:0≤c) (c2:c≤1073741824) (d1:1≤d) (d2:d≤1073741824)
  (k1:w.cell? ⟨p,0,none⟩=some (.int .i64 a)) (k2:w.cell? ⟨p,1,none⟩=some (.int .i64 b)) (k3:w.cell? ⟨q,0,none⟩=some (.int .i64 c)) (k4:w.cell? ⟨q,1,none⟩=some (.int .i64 d)) :
  Calls Tryz.prog 118 #[.pointer (some ⟨p,0,none⟩),.pointer (some ⟨q,0,none⟩)] w fun x w'=>x=.returned (.tuple #[.int .i64 (a * c),.int .i64 (b * d)])∧Below w.heap.size w w':=by
 obtain ⟨p1,p2⟩:=Rt.mul_bd a1 a2 c1 c2
 obtain ⟨p3,p4⟩:=Rt.mul_bd (a:=b) (b:=d) (by omega) b2 (by omega) d2
 obtain ⟨p5,p6⟩:=Rt.mul_bd (a:=a) (b:=d) (by omega) a2 (by omega) d2
 obtain ⟨p7,p8⟩:=Rt.mul_bd (a:=c) (b:=b) (by omega) c2 (by omega) b2
 obtain ⟨p9,p10⟩:=Rt.mul_bd (a:=b) (b:=c) (by omega) b2 (by omega) c2
 go_enter Tryz.func118,Tryz.ntmps118
 go_wp2
 go_quiet (fail)
 go_wp2
 go_ret2
 exact ⟨rfl,below_drewN (Below.refl _ _) _⟩
set_option maxHeartbeats 400000 in
theorem timesReckon (a b c d n m e:Int) (r1:Rt.rightB a b=true) (r2:Rt.rightB c d=true) (hm:Rt.mkT (a * c) (b * d)=(n,m,e)) (p q:Nat) (w:World) (hp:p < w.heap.size) (hq:q < w.heap.size)
  (k1:w.cell? ⟨p,0,none⟩=some (.int .i64 a)) (k2:w.cell? ⟨p,1,none⟩=some (.int .i64 b)) (k3:w.cell? ⟨q,0,none⟩=some (.int .i64 c)) (k4:w.cell? ⟨q,1,none⟩=some (.int .i64 d)) :
  Calls Tryz.prog 117 #[rv a b,rv c d,.func (.func 118) #[] #[.pointer (some ⟨p,0,none⟩),.pointer (some ⟨q,0,none⟩)]] w fun x w'=>x=.returned (.tuple #[rv n m,.int .i64 e])∧Below w.heap.size w w':=by
 have HM:Hid (Rt.mkT (a * c) (b * d)=(n,m,e)):=hm
 have R1:Hid (Rt.rightB a b=true):=r1
 have R2:Hid (Rt.rightB c d=true):=r2
 obtain ⟨a1,a2,b1,b2⟩:=Rt.right_bd r1
 obtain ⟨c1,c2,d1,d2⟩:=Rt.right_bd r2
 clear r1 r2 hm
 obtain ⟨p1,p2⟩:=Rt.mul_bd a1 a2 c1 c2
 obtain ⟨p3,p4⟩:=Rt.mul_bd (a:=b) (b:=d) (by omega) b2 (by omega) d2
 obtain ⟨p5,p6⟩:=Rt.mul_bd (a:=a) (b:=d) (by omega) a2 (by omega) d2
 obtain ⟨p7,p8⟩:=Rt.mul_bd (a:=c) (b:=b) (by omega) c2 (by omega) b2
 obtain ⟨p9,p10⟩:=Rt.mul_bd (a:=b) (b:=c) (by omega) b2 (by omega) c2
 go_enter Tryz.func117,Tryz.ntmps117
 go_wp2_with fail
 refine (right_any a b true R1.out _).mono ?_
 rintro e1 w1 ⟨rfl,hb1⟩
 obtain ⟨hc1,hf1⟩:=bcell hb1
 go_wp2_with fail
 refine (right_any c d true R2.out _).mono ?_
 rintro e2 w2 ⟨rfl,hb2⟩
 have F2:=bt hb1 hb2
 clear hc1 hf1 hb1 hb2
 have G2:=bt (bal (bal (ba _ _) _) _) F2
 go_wp2_with fail
 refine (timesLit a b c d p q _ a1 a2 b1 b2 c1 c2 d1 d2 ((G2.cell (p:=⟨p,0,none⟩) hp).trans k1) ((G2.cell (p:=⟨p,1,none⟩) hp).trans k2) ((G2.cell (p:=⟨q,0,none⟩) hq).trans k3) ((G2.cell (p:=⟨q,1,none⟩) hq).trans k4)).mono ?_
 rintro e3 w3 ⟨rfl,hb3⟩
 go_wp2_with fail
 refine (rmake_any (a * c) (b * d) n m e (by omega) (by omega) HM.out _).mono ?_
 rintro e4 w4 ⟨rfl,hb4⟩
 have F4:=bt (bt F2 hb3) hb4
 have G4:=bt (bal (bal (ba _ _) _) _) F4
 clear F2 hb3 hb4 G2
 obtain ⟨hc4,hf4⟩:=bcell F4
 go_wp2_with fail
 exact bodyPost_ret (v:=.tuple #[rv n m,.int .i64 e]) (by simp [results,Tryz.results117,go_sem,hc4]) rfl ⟨rfl,bs (bs G4 (by simp; omega) _) (by simp; omega) _⟩
set_option maxHeartbeats 400000 in
theorem reckonNo (a b c d:Int) (f:Value) (h:Rt.rightB a b=false∨(Rt.rightB a b=true∧Rt.rightB c d=false)) (w:World) :
  Calls Tryz.prog 117 #[rv a b,rv c d,f] w fun x w'=>x=.returned (.tuple #[rv 0 0,.int .i64 2])∧Below w.heap.size w w':=by
 rcases h with r1 | ⟨r1,r2⟩
 ·have R1:Hid (Rt.rightB a b=false):=r1
  clear r1
  go_enter Tryz.func117,Tryz.ntmps117
  go_wp2_with fail
  refine (right_any a b false R1.out _).mono ?_
  rintro e1 w1 ⟨rfl,hb1⟩
  have G1:=bt (bal (bal (ba _ _) _) _) hb1
  obtain ⟨hc1,hf1⟩:=bcell hb1
  go_wp2_with fail
  exact bodyPost_ret (v:=.tuple #[rv 0 0,.int .i64 2]) (by simp [results,Tryz.results117,go_sem,hc1]) rfl ⟨rfl,bs (bs G1 (by simp; omega) _) (by simp; omega) _⟩
 ·have R1:Hid (Rt.rightB a b=true):=r1
  have R2:Hid (Rt.rightB c d=false):=r2
  clear r1 r2
  go_enter Tryz.func117,Tryz.ntmps117
  go_wp2_with fail
  refine (right_any a b true R1.out _).mono ?_
  rintro e1 w1 ⟨rfl,hb1⟩
  obtain ⟨hc1,hf1⟩:=bcell hb1
  go_wp2_with fail
  refine (right_any c d false R2.out _).mono ?_
  rintro e2 w2 ⟨rfl,hb2⟩
  have F2:=bt hb1 hb2
  clear hc1 hf1 hb1 hb2
  have G2:=bt (bal (bal (ba _ _) _) _) F2
  obtain ⟨hc1,hf1⟩:=bcell F2
  go_wp2_with fail
  exact bodyPost_ret (v:=.tuple #[rv 0 0,.int .i64 2]) (by simp [results,Tryz.results117,go_sem,hc1]) rfl ⟨rfl,bs (bs G2 (by simp; omega) _) (by simp; omega) _⟩
set_option maxHeartbeats 400000 in
theorem times_any (a b c d n m e:Int) (h:Rt.timesT a b c d=(n,m,e)) (w:World) :
  Calls Tryz.prog 64 #[rv a b,rv c d] w fun x w'=>x=.returned (.tuple #[rv n m,.int .i64 e])∧Below w.heap.size w w':=by
 have H:Hid (Rt.timesT a b c d=(n,m,e)):=h
 clear h
 by_cases r:Rt.rightB a b=true∧Rt.rightB c d=true
 ·obtain ⟨r1,r2⟩:=r
  have hm:Rt.mkT (a * c) (b * d)=(n,m,e):=by rw [← H.out]; unfold Rt.timesT; rw [if_pos ⟨r1,r2⟩]
  have HM:Hid (Rt.mkT (a * c) (b * d)=(n,m,e)):=hm
  have R1:Hid (Rt.rightB a b=true):=r1
  have R2:Hid (Rt.rightB c d=true):=r2
  clear hm r1 r2 H
  go_enter Tryz.func64,Tryz.ntmps64
  go_wp2_with fail
  refine (timesReckon a b c d n m e R1.out R2.out HM.out w.heap.size (w.heap.size + 1) _ (by simp <;> omega) (by simp <;> omega) (by simp [go_sem]) (by simp [go_sem]) (by simp [go_sem]) (by simp [go_sem])).mono ?_
  rintro e1 w1 ⟨rfl,hb1⟩
  have G1:=bt (bal (bal (ba _ _) _) _) hb1
  obtain ⟨hc1,hf1⟩:=bcell hb1
  go_wp2_with fail
  exact bodyPost_ret (v:=.tuple #[rv n m,.int .i64 e]) (by simp [results,Tryz.results64,go_sem,hc1]) rfl ⟨rfl,bs (bs G1 (by simp; omega) _) (by simp; omega) _⟩
 ·have hr:(0,0,2)=(n,m,e):=by rw [← H.out]; unfold Rt.timesT; rw [if_neg r]
  simp only [Prod.mk.injEq] at hr
  obtain ⟨rfl,rfl,rfl⟩:=hr
  have r':Rt.rightB a b=false∨(Rt.rightB a b=true∧Rt.rightB c d=false):=by
   cases h1:Rt.rightB a b <;> cases h2:Rt.rightB c d <;> simp_all
  have R:Hid (Rt.rightB a b=false∨(Rt.rightB a b=true∧Rt.rightB c d=false)):=r'
  clear r r' H
  go_enter Tryz.func64,Tryz.ntmps64
  go_wp2_with fail
  refine (reckonNo a b c d _ R.out _).mono ?_
  rintro e1 w1 ⟨rfl,hb1⟩
  have G1:=bt (bal (bal (ba _ _) _) _) hb1
  obtain ⟨hc1,hf1⟩:=bcell hb1
  go_wp2_with fail
  exact bodyPost_ret (v:=.tuple #[rv 0 0,.int .i64 2]) (by simp [results,Tryz.results64,go_sem,hc1]) rfl ⟨rfl,bs (bs G1 (by simp; omega) _) (by simp; omega) _⟩
end Go.Proofs.YtlndlpjadajelaaGreat
