import Derived.Test.YtlndlpjadajelaaGreatQq43
namespace Go.Proofs.YtlndlpjadajelaaGreat
open Go.RowKit Go.Proofs.YtlndlpjadajelaaGreat.Ds
theorem bf_step {D:List Pt} {ls:List (List Pt)} {j:Nat} {x:List Pt} (h:ls[j]? = some x):bfT D (ls.drop j)=if (bothT D x).2=0 then bfT (bothT D x).1 (ls.drop (j + 1)) else ([],(bothT D x).2):=by
 rw [List.drop_eq_getElem_cons (List.getElem?_eq_some_iff.1 h).1,(List.getElem?_eq_some_iff.1 h).2]
 rfl
theorem on_none {g:List Int→Option (List Pt)} {ls:List (List Pt)} (h:(bfT stpT ls).2≠0):onT g ls=none:=by
 unfold onT
 rw [if_neg h]
theorem on_some {g:List Int→Option (List Pt)} {ls:List (List Pt)} {D:List Pt} (h:bfT stpT ls=(D,0)):onT g ls=match folT g D with
  | none=>none
  | some fs=>if (bindT D (thenT fs)).2=0 then some (bindT D (thenT fs)).1 else none:=by
 unfold onT
 rw [h]
 simp only [if_true]
 cases folT g D <;> rfl
theorem ints_toK {w:World} {B nb:Nat} {v:Value} {xs:List Int} (h:Ints w B nb v xs):K.Ints w B nb v xs:=by
 obtain ⟨a,c,hv,hc,hl,hx⟩:=h
 exact ⟨a,c,hv,hc,by omega,hx⟩
set_option maxHeartbeats 16000000 in
set_option maxRecDepth 100000 in
theorem talk_any (l:List K.Ds.Col) (ts:List K.Rw) (nm0:ByteArray) (sz0:Int) (hl0:l[0]? = some (nm0,sz0)) (pl:List K.Tu) (hI:∀ t∈pl,I64 t.lo∧I64 t.hi):∀ (k:Nat) (a:Int) (paid:List K.P.En) (B C:Nat) (cs rs plv pv:Value) (w:World),B≤w.heap.size→C≤w.heap.size→K.Cols w B cs l→K.Rws w B rs ts→K.Pln w B plv pl→K.P.Ents w C pv paid→paid.length + k < 4096 →
  (∀ x∈paid,-9223372036854775808≤x.2.2.1∧x.2.2.1≤9223372036854775807)→∀ res,talkT l (K.rr ts) (fun q=>K.prtV (K.prt l q nm0)) K.P.pN (pld pl) k a paid=res →
  Calls Tryz.prog 18 #[.agg #[cs,rs],plv,.int .i64 a,pv,.int .i64 (k:Int)] w (TalkP w res):=by
 intro k
 induction k with
 | zero =>
  intro a paid B C cs rs plv pv w hB hC hp hr hpl hE hpn hpb res hres
  simp only [talkT] at hres
  subst hres
  obtain ⟨ca,cc,rfl,_⟩:=hp.slice
  obtain ⟨ra,rc,rfl,_⟩:=hr.slice
  obtain ⟨pa,pc,rfl,_⟩:=hpl.slice
  obtain ⟨ea,ec,rfl,_⟩:=hE.slice
  exact talk_zero _ _ _ _ _ _ _ _ _ _ _ _ _ _
 | succ k ih =>
  intro a paid B C cs rs plv pv w hB hC hp hr hpl hE hpn hpb res hres
  have HIH:Hid _:=ih
  have HP:Hid (K.Cols w B cs l):=hp
  have HRW:Hid (K.Rws w B rs ts):=hr
  have HPL:Hid (K.Pln w B plv pl):=hpl
  have HE:Hid (K.P.Ents w C pv paid):=hE
  have HPB:Hid (∀ x∈paid,-9223372036854775808≤x.2.2.1∧x.2.2.1≤9223372036854775807):=hpb
  obtain ⟨ca,cc,rfl,_⟩:=hp.slice
  obtain ⟨ra,rc,rfl,_⟩:=hr.slice
  obtain ⟨pa,pc,rfl,_,hpl63⟩:=hpl.slice
  obtain ⟨ea,ec,rfl,_⟩:=hE.slice
  have hS:Parts ((w.alloc (.cells #[.slice ca l.length cc,.slice ra ts.length rc] 27)).alloc (.cells #[.slice none 0 0,.int .i64 1] 82)) (w.heap.size + 1 + 1) (.slice (some ⟨w.heap.size + 1,0,none⟩) 1 1) [(.slice none 0 0,[],1)]:=by
   have h:=parts_one (w.alloc (.cells #[.slice ca l.length cc,.slice ra ts.length rc] 27)) 0 0 (.slice none 0 0) [] 1 (Nat.zero_le _) (ints_nil _ _ _)
   have hz:(w.alloc (.cells #[.slice ca l.length cc,.slice ra ts.length rc] 27)).heap.size=w.heap.size + 1:=by simp
   rw [hz] at h
   exact h
  obtain ⟨W,hW⟩:∃ W,(w.alloc (.cells #[.slice ca l.length cc,.slice ra ts.length rc] 27)).alloc (.cells #[.slice none 0 0,.int .i64 1] 82)=W:=⟨_,rfl⟩
  have hWs:W.heap.size=w.heap.size + 1 + 1:=by rw [← hW]; simp
  have hbW:Below w.heap.size w W:=hW▸bal (ba _ _) _
  have HS:Hid (Parts W (w.heap.size + 1 + 1) (.slice (some ⟨w.heap.size + 1,0,none⟩) 1 1) [(.slice none 0 0,[],1)]):=hW▸hS
  have T0:Hid (K.Cl W w.heap.size 0 (.slice ca l.length cc)):=hW▸(K.Cl.new _ 27 _ _ rfl rfl).at (ba _ _)
  have T1:Hid (K.Cl W w.heap.size 1 (.slice ra ts.length rc)):=hW▸(K.Cl.new _ 27 _ _ rfl rfl).at (ba _ _)
  have HST:Hid (∀ W',Below W.heap.size W W'→TalkP w (some stpT) (.returned (.tuple #[.slice (some ⟨w.heap.size + 1,0,none⟩) 1 1,.bool true])) W'):=fun W' hb=>TalkP.stop (bt hbW hb) ((HS.out.at (by omega) hb).mono (by have:=hb.size; omega))
  have hk1:(((k + 1:Nat):Int) == 0)=false:=by simp; omega
  clear hp hr hpl hE hpb hS ih
  rw [talkT] at hres
  by_cases h1:a < 0
  ·rw [if_pos h1] at hres
   subst hres
   go_enter Tryz.func18,Tryz.ntmps18
   go_wp2
   exact bodyPost_ret (v:=.tuple #[.slice (some ⟨w.heap.size + 1,0,none⟩) 1 1,.bool true]) (by simp [results,Tryz.results18,go_sem]) rfl (HST.out _ (Below.refl _ _))
  ·rw [if_neg h1] at hres
   obtain ⟨i,rfl⟩:=Int.eq_ofNat_of_zero_le (show 0≤a by omega)
   rw [Int.toNat_natCast,pld_get] at hres
   by_cases h2:i < pl.length
   ·obtain ⟨b,o,t,rfl,hb,hti,hat,hq,hn⟩:=HPL.out.get hB hbW h2
    rw [hti] at hres
    simp only [Option.map_some] at hres
    obtain ⟨hlo,hhi⟩:=hI t (List.mem_of_getElem? hti)
    obtain ⟨v0,v1,v2,v3,v4,v5,q,u,d,lo,hi,nv,ns⟩:=t
    simp only at hres hq hn hlo hhi
    obtain ⟨⟨c0,c1,c2,c3,c4,c5⟩,c6,c7,c8,c9,c10⟩:=hat
    simp only at c0 c1 c2 c3 c4 c5 c6 c7 c8 c9 c10
    have HQ:Hid (K.Qm W B q v0 v1 v2 v3 v4 v5):=hq
    have HN:Hid (K.Nxs W B nv ns):=hn
    obtain ⟨kk,kc,kl,kh,ka,kn,kd,kb,km,kp,rfl,rfl,rfl,rfl,rfl,rfl⟩:=hq.shape
    obtain ⟨na,nc,rfl,_⟩:=hn.slice
    obtain ⟨⟨ls,p,q1,e1⟩,hans⟩:∃ y,ansT u d lo hi l (K.rr ts) q=y:=⟨_,rfl⟩
    obtain ⟨⟨z,er⟩,hz⟩:∃ y,K.prtV (K.prt l q nm0)=y:=⟨_,rfl⟩
    rw [hans,hz] at hres
    simp only at hres
    obtain ⟨en,hen⟩:∃ y,entT K.P.pN (z,er) p q1=y:=⟨_,rfl⟩
    obtain ⟨r,hdo⟩:∃ y,K.P.doT (K.P.bookT [] paid).2 (K.P.nrm en)=y:=⟨_,rfl⟩
    rw [hen,hdo] at hres
    have HRES:Hid ((if e1=0 then if r=0 then onT (fun x=>talkT l (K.rr ts) (fun q=>K.prtV (K.prt l q nm0)) K.P.pN (pld pl) k (nxT (K.nd ns) x) (paid ++ [en])) ls else some stpT else some stpT)=res):=hres
    have HZ:Hid (K.prtV (K.prt l q nm0)=(z,er)∧entT K.P.pN (z,er) p q1=en∧K.P.doT (K.P.bookT [] paid).2 (K.P.nrm en)=r):=⟨hz,hen,hdo⟩
    obtain ⟨W2,hW2⟩:∃ W2,W.alloc (.cells #[.int .i64 kk,.string kc,.int .i64 kl,.int .i64 kh,.slice ka kn kd,.slice kb km kp,.int .i64 u,.int .i64 d,.int .i64 lo,.int .i64 hi,.slice na ns.length nc] 96)=W2:=⟨_,rfl⟩
    have hb2:Below W.heap.size W W2:=hW2▸ba _ _
    have hbw2:Below w.heap.size w W2:=bt hbW hb2
    have C0:Hid (∀ j x,#[Value.int .i64 kk,.string kc,.int .i64 kl,.int .i64 kh,.slice ka kn kd,.slice kb km kp,.int .i64 u,.int .i64 d,.int .i64 lo,.int .i64 hi,.slice na ns.length nc][j]? = some x→K.Cl W2 (w.heap.size + 1 + 1) j x):=fun j x hx=>hW2▸K.Cl.new _ 96 _ _ hWs.symm hx
    have kA:=nanswer_any B u d lo hi _ _ _ _ _ _ _ _ l ts q W2 (Nat.le_trans hB hbw2.size) (HP.out.at hB hbw2) (HRW.out.at hB hbw2) (HQ.out.at (Nat.le_trans hB hbW.size) hb2) hlo hhi ls p q1 e1 hans
    have t0:=(T0.out.at hb2).c
    have t1:=(T1.out.at hb2).c
    have hiI:(i:Int) < (pl.length:Int):=by omega
    have hiN:¬ (i:Int) ≥ (pl.length:Int):=by omega
    have g0:=(C0.out 0 _ rfl).c
    have g1:=(C0.out 1 _ rfl).c
    have g2:=(C0.out 2 _ rfl).c
    have g3:=(C0.out 3 _ rfl).c
    have g4:=(C0.out 4 _ rfl).c
    have g5:=(C0.out 5 _ rfl).c
    have g6:=(C0.out 6 _ rfl).c
    have g7:=(C0.out 7 _ rfl).c
    have g8:=(C0.out 8 _ rfl).c
    have g9:=(C0.out 9 _ rfl).c
    have g10:=(C0.out 10 _ rfl).c
    clear hq hn hres hz hen hdo hans hti
    go_enter Tryz.func18,Tryz.ntmps18
    go_wp2_with fail
    refine kA.mono ?_
    rintro x3 w3 ⟨lv,zs,rfl,hzs,hds,hzl,hb3⟩
    have hbw3:Below w.heap.size w w3:=bt hbw2 hb3
    have hbW3:Below W.heap.size W w3:=bt hb2 hb3
    have HZS:Hid (rds zs=ls∧Dss w3 w3.heap.size lv zs∧zs.length≤4096):=⟨hzs,hds.dss (by have:=hb2.size; omega),hzl⟩
    obtain ⟨la,lc,rfl,_⟩:=hds
    clear kA hzs hzl t0 t1 g0 g1 g2 g3 g4 g5 g6 g7 g8 g9 g10 c0 c1 c2 c3 c4 c5 c6 c7 c8 c9 c10
    obtain ⟨W4,hW4⟩:∃ W4,w3.alloc (.cells #[.int .i64 p,.int .i64 q1] 23)=W4:=⟨_,rfl⟩
    have hb4:Below w3.heap.size w3 W4:=hW4▸ba _ _
    have hbw4:Below w.heap.size w W4:=bt hbw3 hb4
    have hbW4:Below W.heap.size W W4:=bt hbW3 hb4
    have hb24:Below W2.heap.size W2 W4:=bt hb3 hb4
    have R0:Hid (K.Cl W4 w3.heap.size 0 (.int .i64 p)∧K.Cl W4 w3.heap.size 1 (.int .i64 q1)):=⟨hW4▸K.Cl.new _ 23 _ _ rfl rfl,hW4▸K.Cl.new _ 23 _ _ rfl rfl⟩
    by_cases he1:e1=0
    ·subst he1
     have HRES2:Hid ((if r=0 then onT (fun x=>talkT l (K.rr ts) (fun q=>K.prtV (K.prt l q nm0)) K.P.pN (pld pl) k (nxT (K.nd ns) x) (paid ++ [en])) ls else some stpT)=res):=HRES.out
     clear HRES
     have kP:=K.P.pays_any B C l (.slice ca l.length cc) (.slice ea paid.length ec) ra ts.length rc ⟨.int .i64 kk,.string kc,.int .i64 kl,.int .i64 kh,.slice ka kn kd,.slice kb km kp,q,u,d,lo,hi,.slice na ns.length nc,ns⟩ p q1 paid W4 (Nat.le_trans hB hbw4.size) (Nat.le_trans hC hbw4.size) (HP.out.at hB hbw4) (HQ.out.at (Nat.le_trans hB hbW.size) hbW4) (HN.out.at (Nat.le_trans hB hbW.size) hbW4) (HE.out.at hC hbw4) (by omega) HPB.out nm0 sz0 hl0 z er HZ.out.1 en HZ.out.2.1 r HZ.out.2.2
     have t0:=(T0.out.at hbW4).c
     have t1:=(T1.out.at hbW4).c
     have r0:=R0.out.1.c
     have r1:=R0.out.2.c
     have g0:=((C0.out 0 _ rfl).at hb24).c
     have g1:=((C0.out 1 _ rfl).at hb24).c
     have g2:=((C0.out 2 _ rfl).at hb24).c
     have g3:=((C0.out 3 _ rfl).at hb24).c
     have g4:=((C0.out 4 _ rfl).at hb24).c
     have g5:=((C0.out 5 _ rfl).at hb24).c
     have g6:=((C0.out 6 _ rfl).at hb24).c
     have g7:=((C0.out 7 _ rfl).at hb24).c
     have g8:=((C0.out 8 _ rfl).at hb24).c
     have g9:=((C0.out 9 _ rfl).at hb24).c
     have g10:=((C0.out 10 _ rfl).at hb24).c
     clear hW hW2
     go_wp2_with fail
     refine kP.mono ?_
     rintro x5 w5 ⟨pv5,rfl,hE5,hb5⟩
     have HE5:Hid (K.P.Ents w5 w5.heap.size pv5 (paid ++ [en])):=hE5
     obtain ⟨ea5,ec5,rfl,_⟩:=hE5.slice
     have hbw5:Below w.heap.size w w5:=bt hbw4 hb5
     have hbW5:Below W.heap.size W w5:=bt hbW4 hb5
     have hb25:Below W2.heap.size W2 w5:=bt hb24 hb5
     have hb35:Below w3.heap.size w3 w5:=bt hb4 hb5
     have HPB2:Hid (∀ x∈paid ++ [en],-9223372036854775808≤x.2.2.1∧x.2.2.1≤9223372036854775807):=by
      intro x hx
      rcases List.mem_append.1 hx with h | h
      ·exact HPB.out x h
      ·simp at h; subst h; have hzb:=K.P.prt_bd HZ.out.1; rw [← HZ.out.2.1]; unfold entT; split <;> simp only <;> omega
     clear kP t0 t1 r0 r1 g0 g1 g2 g3 g4 g5 g6 g7 g8 g9 g10 hE5 hW4
     by_cases hr0:r=0
     ·have hrd:decide (r=0)=true:=by simpa using hr0
      rw [hrd]
      have HRES3:Hid (onT (fun x=>talkT l (K.rr ts) (fun q=>K.prtV (K.prt l q nm0)) K.P.pN (pld pl) k (nxT (K.nd ns) x) (paid ++ [en])) ls=res):=by have:=HRES2.out; rw [if_pos hr0] at this; exact this
      clear HRES2 hrd
      go_wp2
      have HZ5:Hid (Dss w5 w3.heap.size (.slice la zs.length lc) zs):=HZS.out.2.1.at (Nat.le_refl _) hb35
      have H0:Hid (Parts w5 w5.heap.size (.slice (some ⟨w.heap.size + 1,0,none⟩) 1 1) [(.slice none 0 0,[],1)]):=(HS.out.at (by omega) hbW5).mono (by have:=hbW5.size; omega)
      have h35:=hb35.size
      go_loopw [16,18,79] (fun ev dv iv wr=>∃ (j:Nat) (us:List Tr),iv=.int .i64 (j:Int)∧ev=.int .i64 0∧j≤zs.length∧Hid (Parts wr wr.heap.size dv us∧bfT stpT ls=bfT (rd us) (ls.drop j))∧Below w5.heap.size w5 wr) (fun _ _ iv _=>zs.length - (intOf iv).toNat)
      case atStart=>exact ⟨0,[(.slice none 0 0,[],1)],rfl,rfl,Nat.zero_le _,⟨H0.out,rfl⟩,Below.refl _ _⟩
      case round =>
       obtain ⟨j,us,rfl,rfl,hj,HD,hbl⟩:=hrel
       have hbw:Below w.heap.size w wr:=bt hbw5 hbl
       obtain ⟨da,dc,rfl,_⟩:=id HD.out.1
       by_cases h7:j < zs.length
       ·obtain ⟨zb,zo,xa,xc,xs,rfl,hzb,hzj,d1,hxp⟩:=HZ5.out.get h35 hbl h7
        obtain ⟨⟨d2,e2⟩,hbo⟩:∃ y,bothT (rd us) (rd xs)=y:=⟨_,rfl⟩
        have hlj:ls[j]? = some (rd xs):=by rw [← HZS.out.1]; simp [rds,hzj]
        have HBF:Hid (bfT stpT ls=if e2=0 then bfT d2 (ls.drop (j + 1)) else ([],e2)):=by have:=HD.out.2; rw [bf_step hlj,hbo] at this; exact this
        have kB:=dboth_any wr.heap.size _ _ us xs wr (Nat.le_refl _) HD.out.1 (hxp.mono (Nat.le_trans h35 hbl.size)) d2 e2 hbo
        clear hzj hxp hbo hlj
        go_wp2_with fail
        refine kB.mono ?_
        rintro x6 w6 ⟨v6,us6,rfl,hr6,ho6,hb6,_⟩
        have HO6:Hid (Parts w6 w6.heap.size v6 us6∧rd us6=d2):=⟨ho6.parts,hr6⟩
        obtain ⟨a6,n6,rfl⟩:=ho6.slice
        have B6:Below w5.heap.size w5 w6:=bt hbl hb6
        clear kB hr6 ho6
        by_cases he2:e2=0
        ·subst he2
         have HD2:Hid (Parts w6 w6.heap.size (.slice a6 us6.length n6) us6∧bfT stpT ls=bfT (rd us6) (ls.drop (j + 1))):=⟨HO6.out.1,by have:=HBF.out; rw [if_pos rfl] at this; rw [HO6.out.2]; exact this⟩
         go_wp2
         go_roundw
         case rel=>exact ⟨j + 1,us6,by go_num,rfl,h7,HD2,B6⟩
         case measure=>simp [intOf]; omega
        ·have h8:(e2 == 0)=false:=by simpa using he2
         have h9:(e2 != 0)=true:=by simpa using he2
         have hrs:res=none:=by rw [← HRES3.out]; refine on_none ?_; rw [HBF.out,if_neg he2]; exact he2
         subst hrs
         have B9:=bt hbw5 B6
         go_wp2
         exact bodyPost_ret (v:=.tuple #[.slice none 0 0,.bool false]) (by simp [results,Tryz.results18,go_sem]) rfl (TalkP.none B9)
       ·have HBF:Hid (bfT stpT ls=(rd us,0)):=by
         have h8:=HD.out.2
         rw [List.drop_eq_nil_of_le (by rw [← HZS.out.1,rds_len]; omega)] at h8
         exact h8
        obtain ⟨G,hG⟩:∃ G,(fun x=>talkT l (K.rr ts) (fun q=>K.prtV (K.prt l q nm0)) K.P.pN (pld pl) k (nxT (K.nd ns) x) (paid ++ [en]))=G:=⟨_,rfl⟩
        have HG:Hid (∀ x,talkT l (K.rr ts) (fun q=>K.prtV (K.prt l q nm0)) K.P.pN (pld pl) k (nxT (K.nd ns) x) (paid ++ [en])=G x):=fun x=>by rw [← hG]
        have HRES4:Hid ((match folT G (rd us) with
          | none=>none
          | some fs=>if (bindT (rd us) (thenT fs)).2=0 then some (bindT (rd us) (thenT fs)).1 else none)=res):=by rw [← HRES3.out,hG]; exact (on_some HBF.out).symm
        clear hG
        have HUL:us.length≤1073741824:=by obtain ⟨_,_,_,_,h,_⟩:=HD.out.1; exact h
        have HDU:Hid (Parts wr wr.heap.size (.slice da us.length dc) us):=HD.out.1
        clear HRES3 HD HBF HZ5 H0
        go_wp2
        obtain ⟨V,rfl⟩:∃ V,V=wr:=⟨_,rfl⟩
        go_loopw [21,94] (fun fv iv wq=>∃ (j:Nat) (fs:List Fl),iv=.int .i64 (j:Int)∧j≤us.length∧Hid (Fwr wq V.heap.size fv fs∧FolS G (rd us) j fs)∧Below V.heap.size V wq) (fun _ iv _=>us.length - (intOf iv).toNat)
        case atStart=>exact ⟨0,[],rfl,Nat.zero_le _,⟨Fwr.nil _ _,rfl,by simp [fd]⟩,Below.refl _ _⟩
        case round =>
         obtain ⟨m,fs,rfl,hm,HF,hbq⟩:=hrel
         obtain ⟨fa,fc,rfl⟩:=HF.out.1.slice
         have hbwq:Below w.heap.size w wr:=bt hbw hbq
         have hbW9:Below W.heap.size W wr:=bt hbW5 (bt hbl hbq)
         have hb29:Below W2.heap.size W2 wr:=bt hb25 (bt hbl hbq)
         have hb59:Below w5.heap.size w5 wr:=bt hbl hbq
         by_cases h8:m < us.length
         ·obtain ⟨pb,po,sa,sc,ys,kw,rfl,hpb',hus,d1,d2,hIy⟩:=HDU.out.get (Nat.le_refl _) hbq h8
          have HGP:Hid ((rd us)[m]? = some (ys,kw)):=rd_get hus
          have HIV:Hid (Ints wr V.heap.size V.heap.size (.slice sa ys.length sc) ys):=hIy.mono (Nat.le_refl _) (.inr (Nat.le_refl _))
          obtain ⟨W7,hW7⟩:∃ W7,wr.alloc (.cells #[.slice sa ys.length sc,.int .i64 kw] 82)=W7:=⟨_,rfl⟩
          have hb7:Below wr.heap.size wr W7:=hW7▸ba _ _
          have hb27:Below W2.heap.size W2 W7:=bt hb29 hb7
          have hbw7:Below w.heap.size w W7.drew:=(bt hbwq hb7).drew
          have hbW7:Below W.heap.size W W7.drew:=(bt hbW9 hb7).drew
          have hb57:Below w5.heap.size w5 W7.drew:=(bt hb59 hb7).drew
          have HIY:Hid (Ints W7 W7.heap.size W7.heap.size (.slice sa ys.length sc) ys):=(hIy.at (by have:=hbq.size; omega) hb7).mono (by have:=(bt hbq hb7).size; omega) (.inr (by have:=(bt hbq hb7).size; omega))
          have lN:w.heap.size < W7.heap.size:=by have:=(bt hbW9 hb7).size; omega
          have lM:w.heap.size + 1 + 1 < W7.heap.size:=by have h77:=((C0.out 0 _ rfl).at hb27).lt; omega
          have lQ:wr.heap.size < W7.heap.size:=by rw [← hW7]; simp
          have hCC:∀ W',Below W7.heap.size W7 W'→W'.cell? ⟨w.heap.size,0,none⟩=some (.slice ca l.length cc)∧W'.cell? ⟨w.heap.size,1,none⟩=some (.slice ra ts.length rc)∧W'.cell? ⟨w.heap.size + 1 + 1,0,none⟩=some (.int .i64 kk)∧W'.cell? ⟨w.heap.size + 1 + 1,1,none⟩=some (.string kc)∧W'.cell? ⟨w.heap.size + 1 + 1,2,none⟩=some (.int .i64 kl)∧W'.cell? ⟨w.heap.size + 1 + 1,3,none⟩=some (.int .i64 kh)∧W'.cell? ⟨w.heap.size + 1 + 1,4,none⟩=some (.slice ka kn kd)∧W'.cell? ⟨w.heap.size + 1 + 1,5,none⟩=some (.slice kb km kp)∧W'.cell? ⟨w.heap.size + 1 + 1,6,none⟩=some (.int .i64 u)∧W'.cell? ⟨w.heap.size + 1 + 1,7,none⟩=some (.int .i64 d)∧W'.cell? ⟨w.heap.size + 1 + 1,8,none⟩=some (.int .i64 lo)∧W'.cell? ⟨w.heap.size + 1 + 1,9,none⟩=some (.int .i64 hi)∧W'.cell? ⟨w.heap.size + 1 + 1,10,none⟩=some (.slice na ns.length nc)∧W'.cell? ⟨wr.heap.size,0,none⟩=some (.slice sa ys.length sc):=fun W' hb' =>
           ⟨((T0.out.at (bt hbW9 hb7)).at hb').c,((T1.out.at (bt hbW9 hb7)).at hb').c,((C0.out 0 _ rfl).at (bt hb27 hb')).c,((C0.out 1 _ rfl).at (bt hb27 hb')).c,((C0.out 2 _ rfl).at (bt hb27 hb')).c,((C0.out 3 _ rfl).at (bt hb27 hb')).c,((C0.out 4 _ rfl).at (bt hb27 hb')).c,((C0.out 5 _ rfl).at (bt hb27 hb')).c,((C0.out 6 _ rfl).at (bt hb27 hb')).c,((C0.out 7 _ rfl).at (bt hb27 hb')).c,((C0.out 8 _ rfl).at (bt hb27 hb')).c,((C0.out 9 _ rfl).at (bt hb27 hb')).c,((C0.out 10 _ rfl).at (bt hb27 hb')).c,(hb'.cell (p:=⟨wr.heap.size,0,none⟩) lQ).trans (by rw [← hW7]; simp [go_sem])⟩
          have hNN:∀ W',Below W7.heap.size W7 W'→Calls Tryz.prog 47 #[.agg #[.int .i64 kk,.string kc,.int .i64 kl,.int .i64 kh,.slice ka kn kd,.slice kb km kp,.int .i64 u,.int .i64 d,.int .i64 lo,.int .i64 hi,.slice na ns.length nc],.slice sa ys.length sc] W' fun e W''=>e=.returned (.int .i64 (nxT (K.nd ns) ys))∧Below W'.heap.size W' W'':=fun W' hb' =>
           next_any B W7.heap.size ⟨.int .i64 kk,.string kc,.int .i64 kl,.int .i64 kh,.slice ka kn kd,.slice kb km kp,q,u,d,lo,hi,.slice na ns.length nc,ns⟩ (.slice sa ys.length sc) ys W' (Nat.le_trans hB (bt (bt hbwq hb7) hb').size) hb'.size (HQ.out.at (Nat.le_trans hB hbW.size) (bt (bt hbW9 hb7) hb')) (HN.out.at (Nat.le_trans hB hbW.size) (bt (bt hbW9 hb7) hb')) ((ints_toK HIY.out).keep hb') _ rfl
          have hTT:∀ W',Below W7.heap.size W7 W'→Calls Tryz.prog 18 #[.agg #[.slice ca l.length cc,.slice ra ts.length rc],.slice (some ⟨b,o,none⟩) pl.length pc,.int .i64 (nxT (K.nd ns) ys),.slice ea5 (paid.length + 1) ec5,.int .i64 (k:Int)] W' (TalkP W' (G ys)):=by
           intro W' hb'
           have hw':=bt (bt hbwq hb7) hb'
           have h5':=bt (bt hb59 hb7) hb'
           refine HIH.out _ (paid ++ [en]) B w5.heap.size _ _ _ _ W' (Nat.le_trans hB hw'.size) h5'.size (HP.out.at hB hw') (HRW.out.at hB hw') (HPL.out.at hB hw') ?_ (by simp; omega) ?_ _ (HG.out ys)
           ·have:=HE5.out.at (Nat.le_refl _) h5'; simpa using this
           ·exact HPB2.out
          have HCC:Hid (∀ W',Below W7.heap.size W7 W'→W'.cell? ⟨wr.heap.size,0,none⟩=some (.slice sa ys.length sc)):=fun W' hb'=>(hb'.cell (p:=⟨wr.heap.size,0,none⟩) lQ).trans (by rw [← hW7]; simp [go_sem])
          have HCC3:Hid _:=hCC
          have HNN3:Hid _:=hNN
          have HTT3:Hid _:=hTT
          have hbV7:Below V.heap.size V W7:=bt hbq hb7
          clear hCC hNN hTT
          go_wp2
          clear hW7 d1 d2
          refine region23 (fun _ _ d _ _ h=>by cases d <;> exact h) _ _ _ _ _ _ _ _ _ _ _ _ _ _ _ _ _ _ _ _ _ _ _ _ _ _ _ _ _ _ _ _ _ _ _ _ _ _ _ _ _ _ _ _ _ _ _ _ _ _ _ _ _ _ _ _ _ _ _ _ _ _ _ _ _ _ _ _ _ _ _ _ _ _ _ _ _ _ _ _ _ _ _ _ _ _ _ _ _ _ _ _ _ _ _ _ _ _ _ _ _ _ _ _ _ _ _ _ _ _ _ _ _ _ _ _ _ _ _ _ _ _ _ _ _ _ _ _ _ _ _ _ _ _ _ _ _ W7 w.heap.size (w.heap.size + 1 + 1) wr.heap.size (.slice ca l.length cc) (.slice ra ts.length rc) (.int .i64 kk) (.string kc) (.int .i64 kl) (.int .i64 kh) (.slice ka kn kd) (.slice kb km kp) (.int .i64 u) (.int .i64 d) (.int .i64 lo) (.int .i64 hi) (.slice na ns.length nc) (.slice sa ys.length sc) _ (k:Int) (nxT (K.nd ns) ys) (by omega) (by omega) (G ys) HCC3.out HNN3.out HTT3.out ?_
          intro u98 u99 u100 u101 u102 u103 u104 u105 u106 u107 u108 u109 u110 ta tn tc us9 sb9 wf hbf hres9
          have hbVf:Below V.heap.size V wf:=bt hbV7 hbf
          have hbwf:Below w.heap.size w wf:=bt hbw hbVf
          have hQf:W7.heap.size≤wf.heap.size:=hbf.size
          clear HCC3 HNN3 HTT3
          rcases hres9 with ⟨hno,rfl⟩ | ⟨hso,rfl,hP9⟩
          ·have hrs:res=none:=by rw [← HRES4.out,HF.out.2.none HGP.out hno]
           subst hrs
           go_wp2
           exact bodyPost_ret (v:=.tuple #[.slice none 0 0,.bool false]) (by simp [results,Tryz.results18,go_sem]) rfl (TalkP.none hbwf)
          ·obtain ⟨ta',tc',hte,_⟩:=id hP9
           simp only [Value.slice.injEq] at hte
           obtain ⟨rfl,rfl,rfl⟩:=hte
           have HP9:Hid (Parts wf wf.heap.size (.slice ta us9.length tc) us9):=hP9
           have HSO:Hid (G ys=some (rd us9)):=hso
           obtain ⟨⟨d2,e2⟩,hbo⟩:∃ y,bothT [(ys,1)] (rd us9)=y:=⟨_,rfl⟩
           have HBO:Hid (bothT [(ys,1)] (rd us9)=(d2,e2)):=hbo
           obtain ⟨W10,hW10⟩:∃ W10,wf.alloc (.cells #[.slice sa ys.length sc,.int .i64 1] 82)=W10:=⟨_,rfl⟩
           have hb10:Below wf.heap.size wf W10:=hW10▸ba _ _
           have hI9:Ints wf W7.heap.size W7.heap.size (.slice sa ys.length sc) ys:=HIY.out.keep hbf
           have hP1:Parts W10 (wf.heap.size + 1) (.slice (some ⟨wf.heap.size,0,none⟩) 1 1) [(.slice sa ys.length sc,ys,1)]:=hW10▸parts_one wf W7.heap.size W7.heap.size _ ys 1 hQf hI9
           have h10s:W10.heap.size=wf.heap.size + 1:=by rw [← hW10]; simp
           have kB:=dboth_any W10.heap.size _ _ [(.slice sa ys.length sc,ys,1)] us9 W10 (Nat.le_refl _) (hP1.mono (by omega)) ((HP9.out.at (Nat.le_refl _) hb10).mono (by omega)) d2 e2 hbo
           have y0:=HCC.out wf hbf
           have hb710:Below W7.heap.size W7 W10:=bt hbf hb10
           clear hP9 hso hbo hP1 hI9
           go_wp2_with fail
           refine kB.mono ?_
           rintro x11 w11 ⟨v11,us11,rfl,hr11,ho11,hb11,hf11⟩
           obtain ⟨a11,c11,rfl⟩:=ho11.slice
           have hb711:Below W7.heap.size W7 w11:=bt hb710 hb11
           have hbw11:Below w.heap.size w w11:=bt hbw (bt hbV7 hb711)
           clear kB y0 hW10
           by_cases he2:e2=0
           ·subst he2
            obtain ⟨mm,hm1,hm2,hm3⟩:=own_or2 (v:=.slice fa fs.length fc) (lo:=V.heap.size) (n:=W10.heap.size) (fun g e=>⟨(HF.out.1.lt g e).1,Nat.lt_of_lt_of_le (HF.out.1.lt g e).2 (by have:=hb7.size; omega)⟩) (by have:=hbVf.size; omega)
            have y0:=HCC.out w11 hb711
            have bw:Below wr.heap.size wr (w11.alloc (.cells #[.slice sa ys.length sc,.slice a11 us11.length c11] 102)):=bal (bt hb7 hb711) _
            have HFk:Hid (Fwr (w11.alloc (.cells #[.slice sa ys.length sc,.slice a11 us11.length c11] 102)) V.heap.size (.slice fa fs.length fc) fs):=HF.out.1.keep bw
            have HPI:Hid (Ints (w11.alloc (.cells #[.slice sa ys.length sc,.slice a11 us11.length c11] 102)) (w11.alloc (.cells #[.slice sa ys.length sc,.slice a11 us11.length c11] 102)).heap.size mm (.slice sa ys.length sc) ys):=(HIV.out.keep (bw.mono hbq.size)).mono (by have:=bw.size; have:=hbq.size; omega) (.inr hm1)
            have HPN:Hid (PartsN (w11.alloc (.cells #[.slice sa ys.length sc,.slice a11 us11.length c11] 102)) (w11.alloc (.cells #[.slice sa ys.length sc,.slice a11 us11.length c11] 102)).heap.size mm (.slice a11 us11.length c11) us11):=(own_away ho11 hf11 hm2).at2 (ba _ _)
            have HMM:Hid (∀ g,(Value.slice fa fs.length fc).ownBlock=some g→mm=g):=hm3
            have HFS:Hid (FolS G (rd us) (m + 1) (fs ++ [((.slice sa ys.length sc,ys),(.slice a11 us11.length c11,us11))])):=HF.out.2.step (f:=((.slice sa ys.length sc,ys),(.slice a11 us11.length c11,us11))) HGP.out HSO.out HBO.out rfl hr11
            have hfl:fs.length≤1073741824:=by have:=HF.out.2.1; omega
            have hw11:V.heap.size≤w11.heap.size:=by have:=(bt hbV7 hb711).size; omega
            have BB:Hid (Below V.heap.size V (w11.alloc (.cells #[.slice sa ys.length sc,.slice a11 us11.length c11] 102))):=bal (bt hbV7 hb711) _
            obtain ⟨i0,hi0,hz0,hz1,hz2⟩:=info_parts info78
            clear ho11 hf11 hr11 hm3 bw HP9 HSO HBO HF
            go_wp2_with (at_builtin; refine wpList_append_lies _ rfl _ _ 99 rfl V.heap.size 102 i0 (.agg #[.slice none 0 0,.slice none 0 0]) 2 48 Tryz.underlying99 hi0 hz0 hz1 hz2 rfl (by decide) _ _ _ rfl HFk.out.1 ⟨w11.heap.size,0,none⟩ 1 1 [.slice sa ys.length sc,.slice a11 us11.length c11] rfl ?q1 ?q2 ?q3 (by decide) ?q4 ?q5 ?q6 (w11.heap.size + 1) ?q7 ?_)
            case q1=>rfl
            case q2=>exact two_slices _ _ _ _ rfl
            case q3=>intro u hu; simp at hu; rcases hu with rfl | rfl <;> rfl
            case q4=>simp [maxLen]; omega
            case q5=>omega
            case q6=>simp; omega
            case q7=>simp
            intro g cap w12 hown hgrow hat hlt
            have HFn:Hid (Fwr w12 V.heap.size (.slice (some ⟨g,0,none⟩) (fs.length + 1) cap) (fs ++ [((.slice sa ys.length sc,ys),(.slice a11 us11.length c11,us11))])) :=
             HFk.out.app (f:=((.slice sa ys.length sc,ys),(.slice a11 us11.length c11,us11))) hown hgrow (hat.imp (fun e=>by rw [e]; rfl) (fun e=>by rw [e]; simp [Value.ownBlock])) HPI.out HPN.out HMM.out
            have B12:Below V.heap.size V w12:=BB.out.grown hgrow (by simp; omega) (owns_block HFk.out.1)
            clear hown hgrow hat hlt HFk HPI HPN HMM BB
            go_wp2
            go_roundw
            case rel=>exact ⟨m + 1,fs ++ [((.slice sa ys.length sc,ys),(.slice a11 us11.length c11,us11))],by go_num,h8,⟨HFn.out,HFS.out⟩,B12⟩
            case measure=>simp [intOf]; omega
           ·have h9:(e2 == 0)=false:=by simpa using he2
            have h9':(e2 != 0)=true:=by simpa using he2
            have hrs:res=none:=by rw [← HRES4.out,HF.out.2.bad HGP.out HSO.out (by rw [HBO.out]; exact he2)]
            subst hrs
            go_wp2
            exact bodyPost_ret (v:=.tuple #[.slice none 0 0,.bool false]) (by simp [results,Tryz.results18,go_sem]) rfl (TalkP.none hbw11)
         ·obtain rfl:m=us.length:=by omega
          have hfe:folT G (rd us)=some (fd fs):=HF.out.2.all (by rw [rd_len]; exact Nat.le_refl _)
          have HRES5:Hid ((if (bindT (rd us) (thenT (fd fs))).2=0 then some (bindT (rd us) (thenT (fd fs))).1 else none)=res):=by have:=HRES4.out; rw [hfe] at this; exact this
          obtain ⟨⟨bl,be⟩,hbi⟩:∃ y,bindT (rd us) (thenT (fd fs))=y:=⟨_,rfl⟩
          have HRES6:Hid ((if be=0 then some bl else none)=res):=by have:=HRES5.out; rw [hbi] at this; exact this
          have hfl:fs.length≤1073741824:=by have:=HF.out.2.1; have:=HUL; omega
          have kB:=pbind_any wr.heap.size _ _ us fs wr (Nat.le_refl _) ((HDU.out.at (Nat.le_refl _) hbq).mono hbq.size) (HF.out.1.fws hfl) bl be hbi
          clear hfe HRES4 HRES5 hbi HF
          go_wp2_with fail
          refine kB.mono ?_
          rintro x11 w11 ⟨v11,us11,rfl,hr11,ho11,hb11,hf11⟩
          obtain ⟨a11,c11,rfl⟩:=ho11.slice
          have HPP:Hid (Parts w11 w11.heap.size (.slice a11 us11.length c11) us11∧rd us11=bl):=⟨ho11.parts,hr11⟩
          have hbw11:Below w.heap.size w w11:=bt hbwq hb11
          clear kB ho11 hf11 hr11
          by_cases hbe:be=0
          ·subst hbe
           have HT:Hid (TalkP w res (.returned (.tuple #[.slice a11 us11.length c11,.bool true])) w11):=⟨_,_,_,us11,_,rfl,hbw11,.inr ⟨by rw [← HRES6.out,HPP.out.2]; rfl,rfl,HPP.out.1⟩⟩
           go_wp2
           exact bodyPost_ret (v:=.tuple #[.slice a11 us11.length c11,.bool true]) (by simp [results,Tryz.results18,go_sem]) rfl HT.out
          ·have h9:(be == 0)=false:=by simpa using hbe
           have HT:Hid (TalkP w res (.returned (.tuple #[.slice a11 us11.length c11,.bool false])) w11):=⟨_,_,_,us11,_,rfl,hbw11,.inl ⟨by rw [← HRES6.out,if_neg hbe],rfl⟩⟩
           go_wp2
           exact bodyPost_ret (v:=.tuple #[.slice a11 us11.length c11,.bool false]) (by simp [results,Tryz.results18,go_sem]) rfl HT.out
     ·have hrd:decide (r=0)=false:=by simpa using hr0
      rw [hrd]
      have HRES3:Hid (some stpT=res):=by have:=HRES2.out; rw [if_neg hr0] at this; exact this
      obtain rfl:=HRES3.out
      go_wp2
      exact bodyPost_ret (v:=.tuple #[.slice (some ⟨w.heap.size + 1,0,none⟩) 1 1,.bool true]) (by simp [results,Tryz.results18,go_sem]) rfl (HST.out _ hbW5)
    ·have h5:(e1 == 0)=false:=by simpa using he1
     have h6:(e1 != 0)=true:=by simpa using he1
     have HRES3:Hid (some stpT=res):=by have:=HRES.out; rw [if_neg he1] at this; exact this
     obtain rfl:=HRES3.out
     clear hW hW2
     go_wp2
     exact bodyPost_ret (v:=.tuple #[.slice (some ⟨w.heap.size + 1,0,none⟩) 1 1,.bool true]) (by simp [results,Tryz.results18,go_sem]) rfl (HST.out _ hbW4)
   ·have h3:(i:Int) ≥ (pl.length:Int):=by omega
    rw [List.getElem?_eq_none (by omega)] at hres
    simp only [Option.map_none] at hres
    subst hres
    go_enter Tryz.func18,Tryz.ntmps18
    go_wp2
    exact bodyPost_ret (v:=.tuple #[.slice (some ⟨w.heap.size + 1,0,none⟩) 1 1,.bool true]) (by simp [results,Tryz.results18,go_sem]) rfl (HST.out _ (Below.refl _ _))
end Go.Proofs.YtlndlpjadajelaaGreat
