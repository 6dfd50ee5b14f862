import Derived.Test.YtlndlpjadajelaaGreatQq05
import Derived.Test.YtlndlpjadajelaaGreatQq06
import Derived.Deep.RegionHeld3
namespace Go.Proofs.YtlndlpjadajelaaGreat
open Go.RowKit Go.Proofs.YtlndlpjadajelaaGreat.Ds
def powI (x m:Int):Int:=x ^ m.toNat
theorem npowJ_any (x m:Int) (h0:0≤m) (hn:m≤4096) (hx:1≤x) (h:powI x m≤1073741824) (w:World) :
  Calls Tryz.prog 147 #[.int .i64 x,.int .i64 m] w fun e w'=>e=.returned (.int .i64 (powI x m))∧w' = w:=by
 obtain ⟨n,rfl⟩:=Int.eq_ofNat_of_zero_le h0
 exact npow_any x n (by omega) hx h w
theorem hid_take {u d lo:Int} {R a i:Nat} (h:i≤R):(hidL u d lo R a).take (i + 1)=(hidL u d lo R a).take i ++ [([lo + (i:Int)],hwt u d R a i)]:=by
 rw [List.take_add_one]
 congr 1
 have h1:i < R + 1:=by omega
 simp [hidL,h1]
theorem hid_all {u d lo:Int} {R a i:Nat} (h:R + 1≤i):(hidL u d lo R a).take i=hidL u d lo R a:=List.take_of_length_le (by simp [hidL]; omega)
theorem ints_one (W:World) (z:Int) (nb:Nat) (hn:nb≠W.heap.size):Ints (W.alloc (.cells #[.int .i64 z] 3)) (W.heap.size + 1) nb (.slice (some ⟨W.heap.size,0,none⟩) 1 1) [z]:=by
 refine ⟨_,1,rfl,Nat.le_refl _,by simp,fun _=>⟨W.heap.size,0,rfl,by omega,fun e=>hn e.symm,fun i x hi=>?_⟩⟩
 match i,hi with
 | 0,hi=>simp at hi; subst hi; simp [go_sem]
theorem own_or3 {v:Value} {n:Nat} (h:∀ g,v.ownBlock=some g→g < n) (hn:0 < n):∃ k,k < n∧∀ g,v.ownBlock=some g→k=g:=by
 cases e:v.ownBlock with
 | none=>exact ⟨0,hn,fun g e=>by cases e⟩
 | some g=>exact ⟨g,h g e,fun g' e=>by simpa using e⟩
set_option maxHeartbeats 2000000 in
set_option maxRecDepth 100000 in
theorem hidden_fr (u d lo:Int) (R a:Nat) (hR1:1≤R) (hR:R≤64) (ha:a≤R) (hd:1≤d) (hdu:d≤u) (hu:u≤1073741824) (hm:(u + d) * u ^ R≤1073741824) (hlo:-1073741824≤lo) (hhi:lo + (R:Int)≤1073741824) (l:List Pt) (er:Int) (hr:makeT (hidL u d lo R a)=(l,er)) (w:World) :
  Calls Tryz.prog 83 #[rv u d,.int .i64 lo,.int .i64 (lo + (R:Int)),.int .i64 (lo + (a:Int))] w fun e w'=>∃ v' us,e=.returned (.tuple #[v',.int .i64 er])∧rd us=l∧OwnN w' w.heap.size v' us∧Below w.heap.size w w'∧Frs w.heap.size us:=by
 have HM:Hid ((u + d) * u ^ R≤1073741824):=hm
 have HR:Hid (makeT (hidL u d lo R a)=(l,er)):=hr
 obtain ⟨i0,hi0,hz0,hz1,hz2⟩:=info_parts info32
 clear hm hr
 obtain ⟨w0,hw0⟩:∃ w0,w.alloc (.cells #[.int .i64 u,.int .i64 d] 23)=w0:=⟨_,rfl⟩
 have hb0:Below w.heap.size w w0:=hw0▸ba w _
 have hs0:w.heap.size < w0.heap.size:=by rw [← hw0]; simp
 have p1:w0.cell? ⟨w.heap.size,0,none⟩=some (.int .i64 u):=by rw [← hw0]; simp [go_sem]
 have p2:w0.cell? ⟨w.heap.size,1,none⟩=some (.int .i64 d):=by rw [← hw0]; simp [go_sem]
 go_enter Tryz.func83,Tryz.ntmps83
 go_wp2_with fail
 clear hw0
 go_loopw [10,11] (fun pv zv wr=>∃ (i:Nat) (ds:List Tr),zv=.int .i64 (lo + (i:Int))∧i≤R + 1∧Hid (rd ds=(hidL u d lo R a).take i∧ds.length=i)∧Hid (Rws wr w0.heap.size pv ds)∧Below w0.heap.size w0 wr) (fun _ zv _=>((lo + (R:Int) + 1) - intOf zv).toNat)
 case atStart=>exact ⟨0,[],by simp,Nat.zero_le _,⟨by simp [rd],rfl⟩,Rws.nil _ _,Below.refl _ _⟩
 case round =>
  obtain ⟨i,ds,rfl,hit,HD,HW,hbl⟩:=hrel
  have hbs:=hbl.size
  have hpl:=HW.out.lt
  obtain ⟨pa,pc,rfl⟩:=HW.out.slice
  have HDL:Hid (ds.length≤65):=by have:=HD.out.2; show ds.length≤65; omega
  by_cases h1:i≤R
  ·obtain ⟨M,hM⟩:∃ M,max (lo + (i:Int) - (lo + (a:Int))) (lo + (a:Int) - (lo + (i:Int)))=M:=⟨_,rfl⟩
   have hM0:0≤M:=by omega
   have hMR:M≤(R:Int):=by omega
   have HG:Hid (gk u d R (i - a + (a - i))=powI d M * powI u (lo + (R:Int) - lo - M)):=by
    show _=_
    unfold gk powI
    rw [show M.toNat=i - a + (a - i) by omega,show (lo + (R:Int) - lo - M).toNat=R - (i - a + (a - i)) by omega]
   have hP1:1≤powI d M:=pow_pos' hd _
   have hS1:1≤powI u (lo + (R:Int) - lo - M):=pow_pos' (by omega) _
   have hPS1:powI d M * powI u (lo + (R:Int) - lo - M)≤1073741824:=by
    have b1:=gk_anti hd hdu (R:=R) (k:=0) (s:=i - a + (a - i)) (by omega)
    rw [Nat.zero_add,HG.out,gk_zero] at b1
    have b2:=pow_pos' (show 1≤u by omega) R
    have b3:=Int.mul_le_mul_of_nonneg_right (show 1≤u + d by omega) (show 0≤u ^ R by omega)
    have:=HM.out
    omega
   have hPS0:0≤powI d M * powI u (lo + (R:Int) - lo - M):=Int.mul_nonneg (by omega) (by omega)
   have hPb:powI d M≤1073741824:=by
    have:=Int.mul_le_mul_of_nonneg_left hS1 (show 0≤powI d M by omega); omega
   have hSb:powI u (lo + (R:Int) - lo - M)≤1073741824:=by
    have:=Int.mul_le_mul_of_nonneg_right hP1 (show 0≤powI u (lo + (R:Int) - lo - M) by omega); omega
   have c1:wr.cell? ⟨w.heap.size,0,none⟩=some (.int .i64 u):=(hbl.cell (p:=⟨w.heap.size,0,none⟩) (by show w.heap.size < _; omega)).trans p1
   have c2:wr.cell? ⟨w.heap.size,1,none⟩=some (.int .i64 d):=(hbl.cell (p:=⟨w.heap.size,1,none⟩) (by show w.heap.size < _; omega)).trans p2
   clear HM HR
   have wE:IntKind.i64.wrap (lo + (R:Int) - lo)=lo + (R:Int) - lo:=by rw [IntKind.wrap_i64]; omega
   have wF:IntKind.i64.wrap (lo + (R:Int) - lo - M)=lo + (R:Int) - lo - M:=by rw [IntKind.wrap_i64]; omega
   have wP:IntKind.i64.wrap (powI d M * powI u (lo + (R:Int) - lo - M))=powI d M * powI u (lo + (R:Int) - lo - M):=by rw [IntKind.wrap_i64]; omega
   go_wp2_with fail
   clear hM
   go_region_held3 (fun w'=>w'.cell? ⟨w.heap.size,0,none⟩=some (.int .i64 u)∧w'.cell? ⟨w.heap.size,1,none⟩=some (.int .i64 d))
    ((go_split_ands; refine ⟨?_,?_⟩ <;> first | assumption | (simp [go_sem, *]; done)))
    ((go_at_call 147; refine (npowJ_any _ _ ?_ ?_ ?_ ?_ _).mono ?_; (omega); (omega); (omega); (assumption); rintro x1 w1 ⟨rfl,rfl⟩))
   obtain ⟨X,hX⟩:∃ X,powI d M * powI u (lo + (R:Int) - lo - M)=X:=⟨_,rfl⟩
   obtain ⟨W,hW⟩:∃ W,wr.drew=W:=⟨_,rfl⟩
   have HBr:Hid (Below wr.heap.size wr W):=hW▸(Below.refl _ _).drew
   have hWs:wr.heap.size≤W.heap.size:=HBr.out.size
   rw [hX] at HG hPS1 hPS0 ⊢
   rw [hW]
   have HBd:Hid (Below w0.heap.size w0 W):=bt hbl HBr.out
   have HWd:Hid (Rws W w0.heap.size (.slice pa ds.length pc) ds):=HW.out.keep HBr.out
   have d1:W.cell? ⟨w.heap.size,0,none⟩=some (.int .i64 u):=(HBr.out.cell (p:=⟨w.heap.size,0,none⟩) (by show w.heap.size < _; omega)).trans c1
   have d2:W.cell? ⟨w.heap.size,1,none⟩=some (.int .i64 d):=(HBr.out.cell (p:=⟨w.heap.size,1,none⟩) (by show w.heap.size < _; omega)).trans c2
   obtain ⟨mo,hmo,hmg⟩:=own_or3 (n:=W.heap.size) (fun g e=>by have:=(hpl g e).2; omega) (by omega)
   have HMG:Hid (∀ g,(Value.slice pa ds.length pc).ownBlock=some g→mo=g):=hmg
   have HI:Hid (Ints (W.alloc (.cells #[.int .i64 (lo + (i:Int))] 3)) (W.alloc (.cells #[.int .i64 (lo + (i:Int))] 3)).heap.size mo (.slice (some ⟨W.heap.size,0,none⟩) 1 1) [lo + (i:Int)]):=by
    have:=ints_one W (lo + (i:Int)) mo (by omega)
    rw [Hid,show (W.alloc (.cells #[.int .i64 (lo + (i:Int))] 3)).heap.size=W.heap.size + 1 by simp]
    exact this
   have b1:0≤X * u:=Int.mul_nonneg hPS0 (by omega)
   have b2:X * u≤1073741824 * 1073741824:=Int.mul_le_mul hPS1 hu (by omega) (by omega)
   have b3:0≤X * (u - d):=Int.mul_nonneg hPS0 (by omega)
   have b4:X * (u - d)≤1073741824 * 1073741824:=Int.mul_le_mul hPS1 (by omega) (by omega) (by omega)
   clear hX hW HW wE wF wP hP1 hS1 hPb hSb hpl hmg c1 c2 hM0 hMR
   by_cases e1:i=0
   ·have y1:(lo + (i:Int) == lo)=true:=by simp; omega
    have E1:Hid (i=0):=e1
    clear e1
    have HO:Hid (Rws ((W.alloc (.cells #[.int .i64 (lo + (i:Int))] 3)).alloc (.cells #[.slice (some ⟨W.heap.size,0,none⟩) 1 1,.int .i64 (X * u)] 82)) w0.heap.size (.slice pa ds.length pc) ds):=HWd.out.keep (bal (ba _ _) _)
    go_wp2_with (at_builtin; refine wpList_append_own_at _ rfl _ _ 43 rfl w0.heap.size 82 i0 (.agg #[.slice none 0 0,.int .i64 0]) 2 32 Tryz.underlying43 hi0 hz0 hz1 hz2 rfl (by decide) _ _ _ rfl HO.out.1 ⟨W.heap.size + 1,0,none⟩ 1 1 [.slice (some ⟨W.heap.size,0,none⟩) 1 1,.int .i64 (X * u)] rfl ?q1 ?q2 ?q3 ?q4 ?q5 ?q6 ?_)
    case q1=>rfl
    case q2 =>
     intro j u hj
     match j,hj with
     | 0,hj=>simp at hj; subst hj; simp [go_sem,Addr.add]
     | 1,hj=>simp at hj; subst hj; simp [go_sem,Addr.add]
    case q3=>intro u hu; simp at hu; rcases hu with rfl | rfl <;> rfl
    case q4=>have:=HDL.out; simp [maxLen]; omega
    case q5=>have:=HDL.out; omega
    case q6=>simp; omega
    intro v3 w3 hown3 hgrow hnil hat
    have HW3:Hid (Rws w3 w0.heap.size v3 (ds ++ [(.slice (some ⟨W.heap.size,0,none⟩) 1 1,[lo + (i:Int)],X * u)])):=HO.out.app hown3 hgrow (by simpa using hat) (HI.out.at2 (ba _ _)) HMG.out
    have hb3:Below w0.heap.size w0 w3:=(bal (bal HBd.out _) _).grown hgrow (by simp; omega) (owns_block HO.out.1)
    obtain ⟨a3,c3,rfl⟩:=HW3.out.slice
    have HD3:Hid (rd (ds ++ [((.slice (some ⟨W.heap.size,0,none⟩) 1 1,[lo + (i:Int)],X * u):Tr)])=(hidL u d lo R a).take (i + 1)∧(ds ++ [((.slice (some ⟨W.heap.size,0,none⟩) 1 1,[lo + (i:Int)],X * u):Tr)]).length=i + 1):=by
     refine ⟨?_,by simp [HD.out.2]⟩
     rw [hid_take h1,← HD.out.1]
     simp only [rd,List.map_append,List.map_cons,List.map_nil]
     rw [hwt,HG.out,if_pos (.inl E1.out)]
    clear hown3 hgrow hnil hat HO
    go_wp2
    go_roundw
    case rel=>exact ⟨i + 1,_,by go_num,by omega,HD3,HW3,hb3⟩
    case measure=>simp [intOf]; omega
   ·by_cases e2:i=R
    ·have y1:(lo + (i:Int) == lo)=false:=by simp; omega
     have y2:(lo + (i:Int) == lo + (R:Int))=true:=by simp; omega
     have E2:Hid (i=R):=e2
     clear e2
     have HO:Hid (Rws ((W.alloc (.cells #[.int .i64 (lo + (i:Int))] 3)).alloc (.cells #[.slice (some ⟨W.heap.size,0,none⟩) 1 1,.int .i64 (X * u)] 82)) w0.heap.size (.slice pa ds.length pc) ds):=HWd.out.keep (bal (ba _ _) _)
     go_wp2_with (at_builtin; refine wpList_append_own_at _ rfl _ _ 43 rfl w0.heap.size 82 i0 (.agg #[.slice none 0 0,.int .i64 0]) 2 32 Tryz.underlying43 hi0 hz0 hz1 hz2 rfl (by decide) _ _ _ rfl HO.out.1 ⟨W.heap.size + 1,0,none⟩ 1 1 [.slice (some ⟨W.heap.size,0,none⟩) 1 1,.int .i64 (X * u)] rfl ?q1 ?q2 ?q3 ?q4 ?q5 ?q6 ?_)
     case q1=>rfl
     case q2 =>
      intro j u hj
      match j,hj with
      | 0,hj=>simp at hj; subst hj; simp [go_sem,Addr.add]
      | 1,hj=>simp at hj; subst hj; simp [go_sem,Addr.add]
     case q3=>intro u hu; simp at hu; rcases hu with rfl | rfl <;> rfl
     case q4=>have:=HDL.out; simp [maxLen]; omega
     case q5=>have:=HDL.out; omega
     case q6=>simp; omega
     intro v3 w3 hown3 hgrow hnil hat
     have HW3:Hid (Rws w3 w0.heap.size v3 (ds ++ [(.slice (some ⟨W.heap.size,0,none⟩) 1 1,[lo + (i:Int)],X * u)])):=HO.out.app hown3 hgrow (by simpa using hat) (HI.out.at2 (ba _ _)) HMG.out
     have hb3:Below w0.heap.size w0 w3:=(bal (bal HBd.out _) _).grown hgrow (by simp; omega) (owns_block HO.out.1)
     obtain ⟨a3,c3,rfl⟩:=HW3.out.slice
     have HD3:Hid (rd (ds ++ [((.slice (some ⟨W.heap.size,0,none⟩) 1 1,[lo + (i:Int)],X * u):Tr)])=(hidL u d lo R a).take (i + 1)∧(ds ++ [((.slice (some ⟨W.heap.size,0,none⟩) 1 1,[lo + (i:Int)],X * u):Tr)]).length=i + 1):=by
      refine ⟨?_,by simp [HD.out.2]⟩
      rw [hid_take h1,← HD.out.1]
      simp only [rd,List.map_append,List.map_cons,List.map_nil]
      rw [hwt,HG.out,if_pos (.inr E2.out)]
     clear hown3 hgrow hnil hat HO
     go_wp2
     go_roundw
     case rel=>exact ⟨i + 1,_,by go_num,by omega,HD3,HW3,hb3⟩
     case measure=>simp [intOf]; omega
    ·have y1:(lo + (i:Int) == lo)=false:=by simp; omega
     have y2:(lo + (i:Int) == lo + (R:Int))=false:=by simp; omega
     have HO:Hid (Rws ((W.alloc (.cells #[.int .i64 (lo + (i:Int))] 3)).alloc (.cells #[.slice (some ⟨W.heap.size,0,none⟩) 1 1,.int .i64 (X * (u - d))] 82)) w0.heap.size (.slice pa ds.length pc) ds):=HWd.out.keep (bal (ba _ _) _)
     go_wp2_with (at_builtin; refine wpList_append_own_at _ rfl _ _ 43 rfl w0.heap.size 82 i0 (.agg #[.slice none 0 0,.int .i64 0]) 2 32 Tryz.underlying43 hi0 hz0 hz1 hz2 rfl (by decide) _ _ _ rfl HO.out.1 ⟨W.heap.size + 1,0,none⟩ 1 1 [.slice (some ⟨W.heap.size,0,none⟩) 1 1,.int .i64 (X * (u - d))] rfl ?q1 ?q2 ?q3 ?q4 ?q5 ?q6 ?_)
     case q1=>rfl
     case q2 =>
      intro j u hj
      match j,hj with
      | 0,hj=>simp at hj; subst hj; simp [go_sem,Addr.add]
      | 1,hj=>simp at hj; subst hj; simp [go_sem,Addr.add]
     case q3=>intro u hu; simp at hu; rcases hu with rfl | rfl <;> rfl
     case q4=>have:=HDL.out; simp [maxLen]; omega
     case q5=>have:=HDL.out; omega
     case q6=>simp; omega
     intro v3 w3 hown3 hgrow hnil hat
     have HW3:Hid (Rws w3 w0.heap.size v3 (ds ++ [(.slice (some ⟨W.heap.size,0,none⟩) 1 1,[lo + (i:Int)],X * (u - d))])):=HO.out.app hown3 hgrow (by simpa using hat) (HI.out.at2 (ba _ _)) HMG.out
     have hb3:Below w0.heap.size w0 w3:=(bal (bal HBd.out _) _).grown hgrow (by simp; omega) (owns_block HO.out.1)
     obtain ⟨a3,c3,rfl⟩:=HW3.out.slice
     have HD3:Hid (rd (ds ++ [((.slice (some ⟨W.heap.size,0,none⟩) 1 1,[lo + (i:Int)],X * (u - d)):Tr)])=(hidL u d lo R a).take (i + 1)∧(ds ++ [((.slice (some ⟨W.heap.size,0,none⟩) 1 1,[lo + (i:Int)],X * (u - d)):Tr)]).length=i + 1):=by
      refine ⟨?_,by simp [HD.out.2]⟩
      rw [hid_take h1,← HD.out.1]
      simp only [rd,List.map_append,List.map_cons,List.map_nil]
      rw [hwt,HG.out,if_neg (by omega)]
     clear hown3 hgrow hnil hat HO
     go_wp2
     go_roundw
     case rel=>exact ⟨i + 1,_,by go_num,by omega,HD3,HW3,hb3⟩
     case measure=>simp [intOf]; omega
  ·have HF:Hid (rd ds=hidL u d lo R a):=by rw [Hid,HD.out.1,hid_all (by omega)]
   have HP2:Hid (Parts wr wr.heap.size (.slice pa ds.length pc) ds):=HW.out.parts (by have:=HDL.out; omega)
   have kc:=make_fr wr.heap.size (.slice pa ds.length pc) ds wr (Nat.le_refl _) HP2.out l er (by rw [HF.out]; exact HR.out)
   clear HW HD hpl HF HM HR
   go_wp2_with fail
   refine kc.mono ?_
   rintro e w5 ⟨v5,xs,rfl,k1,k2,k3,k4⟩
   obtain ⟨b5,d5,rfl⟩:=k2.slice
   clear kc
   have K4:Hid (Frs w.heap.size xs):=k4.mono (by omega)
   have K2:Hid (OwnN w5 w.heap.size (.slice b5 xs.length d5) xs):=k2.mono (by omega)
   have K3:Hid (Below w.heap.size w w5):=hb0.trans ((bt hbl k3).mono hb0.size)
   have K1:Hid (rd xs=l):=k1
   clear k1 k2 k3 k4
   go_wp2
   exact bodyPost_ret (v:=.tuple #[.slice b5 xs.length d5,.int .i64 er]) (by simp [results,Tryz.results83,go_sem]) rfl ⟨_,xs,rfl,K1.out,K2.out,K3.out,K4.out⟩
set_option maxHeartbeats 1000000 in
theorem sure_fr (B nb:Nat) (v:Value) (xs:List Int) (w:World) (hB:B≤w.heap.size) (hp:Ints w B nb v xs) (l:List Pt) (er:Int) (hr:makeT [(xs,1)]=(l,er)) :
  Calls Tryz.prog 81 #[v] w fun e w'=>∃ v' us,e=.returned (.tuple #[v',.int .i64 er])∧rd us=l∧OwnN w' w.heap.size v' us∧Below w.heap.size w w'∧Frs w.heap.size us:=by
 have kc:=make_fr (w.heap.size + 1) _ _ _ (by simp) (parts_one w B nb v xs 1 hB hp) l er hr
 obtain ⟨a,c,rfl,hc,hl,_⟩:=hp
 clear hr
 go_enter Tryz.func81,Tryz.ntmps81
 go_wp2_with fail
 refine kc.mono ?_
 rintro e w1 ⟨v1,us,rfl,hrd,ho,hb1,hfr⟩
 have HO:Hid (OwnN w1 w.heap.size v1 us):=ho.mono (by simp)
 have HF:Hid (Frs w.heap.size us):=hfr.mono (by simp)
 have HD:Hid (rd us=l):=hrd
 obtain ⟨a1,c1,rfl⟩:=ho.slice
 clear ho hrd kc hfr
 go_wp2
 exact bodyPost_ret (v:=.tuple #[.slice a1 us.length c1,.int .i64 er]) (by simp [results,Tryz.results81,go_sem]) rfl ⟨_,us,rfl,HD.out,HO.out,bt (ba _ _) hb1,HF.out⟩
def DistP (w:World) (l:List Pt) (er:Int) (e:Ending) (w':World):Prop :=
 ∃ v' us,e=.returned (.tuple #[v',.int .i64 er])∧rd us=l∧OwnN w' w.heap.size v' us∧Below w.heap.size w w'∧Frs w.heap.size us
theorem DistP.err {w w':World} {er:Int} (hb:Below w.heap.size w w'):DistP w [] er (.returned (.tuple #[.slice none 0 0,.int .i64 er])) w' :=
 ⟨_,[],rfl,rfl,.inl ⟨rfl,rfl⟩,hb,Frs.nil _⟩
set_option maxHeartbeats 2000000 in
theorem hide_fr (u d lo hi n:Int) (l:List Pt) (er:Int) (hr:hideT u d lo hi n=(l,er)) (w:World) :
  Calls Tryz.prog 34 #[rv u d,.int .i64 lo,.int .i64 hi,.int .i64 n] w (DistP w l er):=by
 obtain ⟨e0,he0⟩:∃ e0,lossE u d=e0:=⟨_,rfl⟩
 have kc:=noLoss_any u d e0 he0
 rw [hideT,he0] at hr
 by_cases c:e0=0
 ·subst c
  obtain ⟨hrt,hdu,hd1,hu1⟩:=loss_ok he0
  rw [if_neg (by simp)] at hr
  by_cases cb:-1073741824≤lo∧lo≤hi∧hi≤1073741824∧hi - lo≤64
  ·obtain ⟨b1,b2,b3,b4⟩:=cb
   rw [if_neg (by simp; omega)] at hr
   by_cases ce:lo=hi
   ·subst ce
    rw [if_pos rfl] at hr
    have ks:=fun W:World=>sure_fr (W.heap.size + 1) (W.heap.size + 1) _ [lo] (W.alloc (.cells #[.int .i64 lo] 3)) (by simp) (ints_one W lo (W.heap.size + 1) (by omega)) l er hr
    clear he0 hrt hr
    go_enter Tryz.func34,Tryz.ntmps34
    go_wp2_with fail
    refine (kc _).mono ?_
    rintro e w1 ⟨rfl,hb1⟩
    have G1:=bt (ba _ _) hb1
    obtain ⟨hc1,hf1⟩:=bcell hb1
    go_wp2_with fail
    refine (ks _).mono ?_
    rintro e w2 ⟨v2,us,rfl,k1,k2,k3,k4⟩
    obtain ⟨a2,c2,rfl⟩:=k2.slice
    have hz1:w.heap.size≤w1.heap.size + 1:=by have:=G1.size; omega
    have HZ:Hid (DistP w l er (.returned (.tuple #[.slice a2 us.length c2,.int .i64 er])) w2):=⟨_,us,rfl,k1,k2.mono (by simpa using hz1),bt G1 (bt (ba _ _) k3),k4.mono (by simpa using hz1)⟩
    clear k1 k2 k3 k4 ks
    go_wp2
    exact bodyPost_ret (v:=.tuple #[.slice a2 us.length c2,.int .i64 er]) (by simp [results,Tryz.results34,go_sem]) rfl HZ.out
   ·rw [if_neg ce] at hr
    obtain ⟨R,hR⟩:∃ R:Nat,hi - lo=(R:Int):=⟨(hi - lo).toNat,by omega⟩
    obtain rfl:hi=lo + (R:Int):=by omega
    obtain ⟨A,hA⟩:∃ A:Nat,plcT lo (lo + (R:Int)) n=lo + (A:Int):=⟨(plcT lo (lo + (R:Int)) n - lo).toNat,by unfold plcT; omega⟩
    have hA2:A≤R:=by
     have:plcT lo (lo + (R:Int)) n≤lo + (R:Int):=by unfold plcT; omega
     omega
    rw [hA,show (lo + (R:Int) - lo).toNat=R by omega,show (lo + (A:Int) - lo).toNat=A by omega] at hr
    have hR1:1≤R:=by omega
    have HA:Hid (plcT lo (lo + (R:Int)) n=lo + (A:Int)):=hA
    have ki:∀ W,Calls Tryz.prog 74 #[.int .i64 n,.int .i64 lo,.int .i64 (lo + (R:Int))] W fun e w'=>e=.returned (.int .i64 (lo + (A:Int)))∧w' = W:=fun W=>by
     have:=into_any n lo (lo + (R:Int)) W
     rw [HA.out] at this
     exact this
    have wE:lo + (R:Int) - lo=(R:Int):=by omega
    have km:∀ (m:Int) (W:World) (b:Bool),m=(R:Int)→decide (1073741824 < (u + d) * u ^ R)=b→Calls Tryz.prog 82 #[rv u d,.int .i64 m] W fun e w'=>e=.returned (.bool b)∧Below W.heap.size W w':=fun m W b hm hb=>by subst hm; exact much_any u d R (by omega) hd1 hu1 hdu b hR1 hb W
    have ce':(lo == lo + (R:Int))=false:=by simp; omega
    by_cases cm:1073741824 < (u + d) * u ^ R
    ·rw [if_pos cm] at hr
     simp only [Prod.mk.injEq] at hr
     obtain ⟨rfl,rfl⟩:=hr
     have CM:Hid (decide (1073741824 < (u + d) * u ^ R)=true):=decide_eq_true cm
     clear cm he0 hrt hA hR wE
     go_enter Tryz.func34,Tryz.ntmps34
     go_wp2_with fail
     refine (kc _).mono ?_
     rintro e w1 ⟨rfl,hb1⟩
     have G1:=bt (ba _ _) hb1
     obtain ⟨hc1,hf1⟩:=bcell hb1
     go_wp2_with fail
     refine (km _ _ true (by omega) CM.out).mono ?_
     rintro e w2 ⟨rfl,hb2⟩
     have G2:=bt G1 hb2
     go_wp2
     exact bodyPost_ret (v:=.tuple #[.slice none 0 0,.int .i64 4]) (by simp [results,Tryz.results34,go_sem]) rfl (DistP.err G2)
    ·rw [if_neg cm] at hr
     have CM:Hid (decide (1073741824 < (u + d) * u ^ R)=false):=decide_eq_false cm
     have kh:=hidden_fr u d lo R A hR1 (by omega) hA2 hd1 hdu hu1 (by omega) b1 b3 l er hr
     clear cm he0 hrt hA hR hr wE
     go_enter Tryz.func34,Tryz.ntmps34
     go_wp2_with fail
     refine (kc _).mono ?_
     rintro e w1 ⟨rfl,hb1⟩
     have G1:=bt (ba _ _) hb1
     obtain ⟨hc1,hf1⟩:=bcell hb1
     go_wp2_with fail
     refine (km _ _ false (by omega) CM.out).mono ?_
     rintro e w2 ⟨rfl,hb2⟩
     have G2:=bt G1 hb2
     obtain ⟨hc2,hf2⟩:=bcell hb2
     have hz1:w.heap.size < w1.heap.size:=by have:=hb1.size; simp at this; omega
     have d1:w2.cell? ⟨w.heap.size,0,none⟩=some (.int .i64 u):=by rw [hc2 _ _ hz1,hc1 _ _ (by simp)]; simp [go_sem]
     have d2:w2.cell? ⟨w.heap.size,1,none⟩=some (.int .i64 d):=by rw [hc2 _ _ hz1,hc1 _ _ (by simp)]; simp [go_sem]
     have lw:w.heap.size < w2.heap.size:=by have:=hb2.size; omega
     clear hc1 hf1 hc2 hf2
     go_wp2_with fail
     go_region_held3 (fun w'=>w'.cell? ⟨w.heap.size,0,none⟩=some (.int .i64 u)∧w'.cell? ⟨w.heap.size,1,none⟩=some (.int .i64 d))
      ((go_split_ands; refine ⟨?_,?_⟩ <;> first | assumption | (simp [go_sem, *]; done)))
      (first
       | (go_at_call 74; refine (ki _).mono ?_; rintro x3 w3 ⟨rfl,rfl⟩)
       | (go_at_call 83; refine (kh _).mono ?_; rintro x4 w4 ⟨v4,us,rfl,k1,k2,k3,k4⟩; obtain ⟨a2,c2,hv4⟩:=k2.slice; subst hv4; obtain ⟨hc4,hf4⟩:=bcell k3; have q1:w4.cell? ⟨w.heap.size,0,none⟩=some (.int .i64 u):=(hc4 _ _ lw).trans d1; have q2:w4.cell? ⟨w.heap.size,1,none⟩=some (.int .i64 d):=(hc4 _ _ lw).trans d2; clear hc4 hf4))
     have HZ:Hid (DistP w l er (.returned (.tuple #[.slice a2 us.length c2,.int .i64 er])) w4):=⟨_,us,rfl,k1,k2.mono G2.size,bt G2 (bt (Below.refl _ _).drew k3),k4.mono G2.size⟩
     clear k1 k2 k3 k4 kh
     go_wp2
     exact bodyPost_ret (v:=.tuple #[.slice a2 us.length c2,.int .i64 er]) (by simp [results,Tryz.results34,go_sem]) rfl HZ.out
  ·rw [if_pos cb] at hr
   simp only [Prod.mk.injEq] at hr
   obtain ⟨rfl,rfl⟩:=hr
   clear he0 hrt
   by_cases b1:lo < -1073741824
   ·clear cb
    go_enter Tryz.func34,Tryz.ntmps34
    go_wp2_with fail
    refine (kc _).mono ?_
    rintro e w1 ⟨rfl,hb1⟩
    have G1:=bt (ba _ _) hb1
    obtain ⟨hc1,hf1⟩:=bcell hb1
    go_wp2
    exact bodyPost_ret (v:=.tuple #[.slice none 0 0,.int .i64 3]) (by simp [results,Tryz.results34,go_sem]) rfl (DistP.err G1)
   ·by_cases b2:hi < lo
    ·clear cb
     go_enter Tryz.func34,Tryz.ntmps34
     go_wp2_with fail
     refine (kc _).mono ?_
     rintro e w1 ⟨rfl,hb1⟩
     have G1:=bt (ba _ _) hb1
     obtain ⟨hc1,hf1⟩:=bcell hb1
     go_wp2
     exact bodyPost_ret (v:=.tuple #[.slice none 0 0,.int .i64 3]) (by simp [results,Tryz.results34,go_sem]) rfl (DistP.err G1)
    ·by_cases b3:1073741824 < hi
     ·clear cb
      go_enter Tryz.func34,Tryz.ntmps34
      go_wp2_with fail
      refine (kc _).mono ?_
      rintro e w1 ⟨rfl,hb1⟩
      have G1:=bt (ba _ _) hb1
      obtain ⟨hc1,hf1⟩:=bcell hb1
      go_wp2
      exact bodyPost_ret (v:=.tuple #[.slice none 0 0,.int .i64 3]) (by simp [results,Tryz.results34,go_sem]) rfl (DistP.err G1)
     ·have b4:64 < hi - lo:=by omega
      clear cb
      go_enter Tryz.func34,Tryz.ntmps34
      go_wp2_with fail
      refine (kc _).mono ?_
      rintro e w1 ⟨rfl,hb1⟩
      have G1:=bt (ba _ _) hb1
      obtain ⟨hc1,hf1⟩:=bcell hb1
      go_wp2
      exact bodyPost_ret (v:=.tuple #[.slice none 0 0,.int .i64 3]) (by simp [results,Tryz.results34,go_sem]) rfl (DistP.err G1)
 ·rw [if_pos c] at hr
  simp only [Prod.mk.injEq] at hr
  obtain ⟨rfl,rfl⟩:=hr
  have c1:(e0 == 0)=false:=by simpa using c
  have c2:(e0 != 0)=true:=by simpa using c
  clear he0
  go_enter Tryz.func34,Tryz.ntmps34
  go_wp2_with fail
  refine (kc _).mono ?_
  rintro e w1 ⟨rfl,hb1⟩
  have G1:=bt (ba _ _) hb1
  obtain ⟨hc1,hf1⟩:=bcell hb1
  go_wp2
  exact bodyPost_ret (v:=.tuple #[.slice none 0 0,.int .i64 e0]) (by simp [results,Tryz.results34,go_sem]) rfl (DistP.err G1)
def Fc (b:Nat) (n m:Int) (W:World):Prop :=
 W.cell? ⟨b,0,none⟩=some (.int .i64 n)∧W.cell? ⟨b,1,none⟩=some (.int .i64 m)∧W.frozen? ⟨b,0,none⟩=false∧W.frozen? ⟨b,1,none⟩=false
theorem fc_new (w:World) (n m:Int):Fc w.heap.size n m (w.alloc (.cells #[.int .i64 n,.int .i64 m] 23)):=by
 refine ⟨?_,?_,?_,?_⟩ <;> simp [go_sem]
theorem Row.setS {w:World} {b:Nat} {us:List Tr} (h:Row w b 0 us) {i:Nat} {t:Tr} (ht:us[i]? = some t) (s:Value) :
  Row (w.setCell ⟨b,i * 2,none⟩ s) b 0 (us.set i (s,t.2.1,t.2.2)):=by
 have hi:=(List.getElem?_eq_some_iff.1 ht).1
 refine ⟨fun j u hu=>?_,fun j hj=>by rw [sc_frozen]; exact h.thaw j (by simpa using hj),by simpa using h.lt⟩
 by_cases hj:i=j
 ·subst hj
  rw [List.getElem?_set_self hi] at hu
  obtain rfl:(s,t.2.1,t.2.2)=u:=by simpa using hu
  have c:=h.cells i t ht
  rw [Nat.zero_add] at c ⊢
  exact ⟨sc_same c.1,by rw [sc_other (by simp)]; exact c.2⟩
 ·rw [List.getElem?_set_ne hj] at hu
  have c:=h.cells j u hu
  exact ⟨by rw [sc_other (by simp <;> omega)]; exact c.1,by rw [sc_other (by simp <;> omega)]; exact c.2⟩
theorem rd_setS {us:List Tr} {i:Nat} {t:Tr} (ht:us[i]? = some t) (s:Value):rd (us.set i (s,t.2.1,t.2.2))=rd us:=by
 rw [rd_set]
 have:=rd_get ht
 apply List.ext_getElem?
 intro j
 rw [List.getElem?_set]
 by_cases hj:i=j
 ·subst hj
  rw [if_pos rfl,this]
  split
  ·rfl
  ·rename_i hh; exact absurd (List.getElem?_eq_some_iff.1 this).1 hh
 ·rw [if_neg hj]
theorem frs_set {lo i:Nat} {us:List Tr} (h:Frs lo (us.take i)) (hi:i < us.length) {t:Tr} (ht:t.2.1≠[]→∀ b o sp n c,t.1=.slice (some ⟨b,o,sp⟩) n c→lo≤b):Frs lo ((us.set i t).take (i + 1)):=by
 rw [take_set_succ _ hi]
 intro x hx
 rcases List.mem_append.1 hx with h1 | h1
 ·exact h x h1
 ·obtain rfl:x=t:=by simpa using h1
  exact ht
set_option maxHeartbeats 2000000 in
set_option maxRecDepth 100000 in
theorem ncopied_fr (B:Nat) (v:Value) (ts:List Tr) (w:World) (hB:B≤w.heap.size) (hp:Parts w B v ts) :
  Calls Tryz.prog 75 #[v] w fun e w'=>∃ v' us,e=.returned v'∧OwnN w' w.heap.size v' us∧rd us=rd ts∧Below w.heap.size w w'∧Frs w.heap.size us:=by
 have HP:Hid (Parts w B v ts):=hp
 have kc:=cloneD_any B v ts w hB hp
 obtain ⟨a,c,rfl,hc,hl,_⟩:=hp
 go_enter Tryz.func75,Tryz.ntmps75
 go_wp2_with fail
 refine kc.mono ?_
 rintro e w1 ⟨v1,rfl,hb1,hv1⟩
 rcases hv1 with ⟨hts,rfl⟩ | ⟨g,cap,rfl,hcap,hgb,hrow⟩
 ·subst hts
  clear kc
  go_wp2
  go_loopw [10] (fun s wr=>s=.int .i64 0∧wr=w1) (fun _ _=>0)
  case atStart=>exact ⟨rfl,rfl⟩
  case round =>
   obtain ⟨rfl,rfl⟩:=hrel
   go_wp2
   go_ret
   exact ⟨_,[],rfl,.inl ⟨rfl,rfl⟩,rfl,hb1,Frs.nil _⟩
 ·have HR:Hid (Row w1 g 0 ts):=hrow
  have hgl:=hrow.lt
  clear hrow kc
  go_wp2
  go_loopw [10] (fun s wr=>∃ (i:Nat) (us:List Tr),s=.int .i64 (i:Int)∧i≤ts.length∧Hid (us.length=ts.length∧rd us=rd ts)∧Hid (Row wr g 0 us)∧Hid (∀ t∈us,Ints wr wr.heap.size g t.1 t.2.1)∧Hid (Frs w.heap.size (us.take i))∧Below w.heap.size w wr) (fun s _=>ts.length - (intOf s).toNat)
  case atStart =>
   refine ⟨0,ts,rfl,Nat.zero_le _,⟨rfl,rfl⟩,HR,fun t ht=>?_,by simp [Hid,Frs.nil],hb1⟩
   exact ((HP.out.elem hB (Below.refl _ _) ht).at hB hb1).mono (Nat.le_trans hB hb1.size) (.inr (by omega))
  case round =>
   obtain ⟨i,us,rfl,hit,HU,HRw,HI,HF,hbl⟩:=hrel
   have hsz:=hbl.size
   have hgw:=HRw.out.lt
   by_cases h1:i < ts.length
   ·obtain ⟨b,o,sa,sc,xs,k,rfl,hb,hs,c1,c2,hIx⟩:=HP.out.get hB hbl h1
    have HIx:Hid (Ints wr B B (.slice sa xs.length sc) xs):=hIx
    obtain ⟨⟨s0,x0,k0⟩,ht0⟩:=get_lt (l:=us) (i:=i) (by rw [HU.out.1]; exact h1)
    have hxk:x0=xs∧k0=k:=by
     have e1:=rd_get ht0
     have e2:=rd_get hs
     rw [HU.out.2,e2] at e1
     simp at e1
     exact ⟨e1.1.symm,e1.2.symm⟩
    obtain ⟨rfl,rfl⟩:=hxk
    have HT0:Hid (us[i]? = some (s0,x0,k0)):=ht0
    obtain ⟨r4,r5⟩:=HRw.out.cells i _ ht0
    have r2:=HRw.out.thaw (i * 2) (by rw [HU.out.1]; omega)
    simp only [Nat.zero_add] at r2 r4 r5
    have kn:=fun W (h:Below wr.heap.size wr W)=>cloneN_any B B (.slice sa x0.length sc) x0 W (Nat.le_trans hB (Nat.le_trans hbl.size h.size)) (HIx.out.at (Nat.le_trans hB hbl.size) h)
    clear hs hIx ht0
    have q1:(wr.alloc (.cells #[.slice sa x0.length sc,.int .i64 k0] 82)).cell? ⟨g,i * 2,none⟩=some s0:=by rw [World.cell?_alloc_lt _ _ _ hgw]; exact r4
    have q2:(wr.alloc (.cells #[.slice sa x0.length sc,.int .i64 k0] 82)).frozen? ⟨g,i * 2,none⟩=false:=by rw [(ba wr _).frozen hgw]; exact r2
    go_wp2_with fail
    refine (kn _ (ba _ _)).mono ?_
    rintro e w2 ⟨v2,rfl,hI2,hb2⟩
    have hs2:wr.heap.size < w2.heap.size:=by have:=hb2.size; simp at this; omega
    have hz2:0 < (wr.alloc (.cells #[.slice sa x0.length sc,.int .i64 k0] 82)).heap.size:=by simp
    obtain ⟨av,cv,hv2,_⟩:=hI2 0 hz2
    subst hv2
    have hgl2:g < (wr.alloc (.cells #[.slice sa x0.length sc,.int .i64 k0] 82)).heap.size:=by simp; omega
    have k1:w2.cell? ⟨g,i * 2,none⟩=some s0:=((bcell hb2).1 _ _ hgl2).trans q1
    have k2:w2.frozen? ⟨g,i * 2,none⟩=false:=((bcell hb2).2 _ _ hgl2).trans q2
    have HB2:Hid (Below wr.heap.size wr w2):=bt (ba _ _) hb2
    have HR2:Hid (Row (w2.setCell ⟨g,i * 2,none⟩ (.slice av x0.length cv)) g 0 (us.set i (.slice av x0.length cv,x0,k0))):=(HRw.out.keep HB2.out).setS HT0.out (.slice av x0.length cv)
    have HI3:Hid (∀ t∈us.set i (.slice av x0.length cv,x0,k0),Ints (w2.setCell ⟨g,i * 2,none⟩ (.slice av x0.length cv)) (w2.setCell ⟨g,i * 2,none⟩ (.slice av x0.length cv)).heap.size g t.1 t.2.1):=by
     intro t ht
     have h3:Ints w2 w2.heap.size g t.1 t.2.1:=by
      rcases List.mem_or_eq_of_mem_set ht with h | rfl
      ·exact (HI.out t h).at2 HB2.out
      ·exact hI2 g hgl2
     have h4:=h3.set (p:=⟨g,i * 2,none⟩) rfl (.slice av x0.length cv)
     simpa using h4
    have HF2:Hid (Frs w.heap.size ((us.set i (.slice av x0.length cv,x0,k0)).take (i + 1))):=frs_set HF.out (by rw [HU.out.1]; exact h1) (fr_of (w:=w2) (B:=w2.heap.size) fun m hm=>hI2 m (by simp; omega))
    have HU2:Hid ((us.set i (.slice av x0.length cv,x0,k0)).length=ts.length∧rd (us.set i (.slice av x0.length cv,x0,k0))=rd ts):=⟨by simp [HU.out.1],(rd_setS HT0.out _).trans HU.out.2⟩
    have HB3:Hid (Below w.heap.size w (w2.setCell ⟨g,i * 2,none⟩ (.slice av x0.length cv))):=bs (bt hbl HB2.out) hgb _
    clear hI2 hb2 q1 q2 kn HT0
    go_wp2
    go_roundw
    case rel=>exact ⟨i + 1,_,by go_num,h1,HU2,HR2,HI3,HF2,HB3.out⟩
    case measure=>simp [intOf]; omega
   ·have hii:ts.length≤i:=by omega
    have HZ:Hid (OwnN wr w.heap.size (.slice (some ⟨g,0,none⟩) ts.length cap) us∧rd us=rd ts∧Frs w.heap.size us):=by
     refine ⟨.inr ⟨g,0,cap,by rw [HU.out.1],by rw [HU.out.1]; exact hcap,by rw [HU.out.1]; exact hl,hgb,HRw.out,HI.out⟩,HU.out.2,?_⟩
     have:=HF.out
     rwa [List.take_of_length_le (by rw [HU.out.1]; exact hii)] at this
    go_wp2
    go_ret
    exact ⟨_,us,rfl,HZ.out.1,HZ.out.2.1,hbl,HZ.out.2.2⟩
end Go.Proofs.YtlndlpjadajelaaGreat
