import Derived.Test.YtpmioeamdhdokaaGreatQq30
import Derived.Test.YtpmioeamdhdokaaGreatQq29
import Derived.Test.YtpmioeamdhdokaaGreatQq14
import Derived.Test.YtpmioeamdhdokaaGreatQq20
namespace Go.Proofs.YtpmioeamdhdokaaGreat.K.P
open Go.RowKit Go.Proofs.YtpmioeamdhdokaaGreat.K.Ds
def ws0 (n:Nat) (l:List Int) (k:Nat):List (Nat × Int):=(9 * n,0) :: (List.range k).map fun j=>(9 * n + (j + 1),l.getD (j + 1) 0)
theorem ws0_succ (n:Nat) (l:List Int) (k:Nat):ws0 n l (k + 1)=ws0 n l k ++ [(9 * n + (k + 1),l.getD (k + 1) 0)]:=by
 unfold ws0
 rw [List.range_succ,List.map_append,List.cons_append]
 rfl
theorem wrs_ws0 (n:Nat) (e:En):wrs n e=ws0 n (recW e) 8 ++ [(9 * n + 0,1)]:=rfl
theorem ws0_all (n:Nat) (e:En) {k:Nat} (hk:k≤8):∃ r,wrs n e=ws0 n (recW e) k ++ r:=by
 refine ⟨((List.range (8 - k)).map fun j=>(9 * n + (k + j + 1),(recW e).getD (k + j + 1) 0)) ++ [(9 * n,1)],?_⟩
 unfold wrs ws0
 rw [List.cons_append,← List.append_assoc]
 congr 2
 have h:List.range 8=List.range k ++ (List.range (8 - k)).map (k + ·):=by rw [← List.range_add,show k + (8 - k)=8 by omega]
 rw [h,List.map_append,List.map_map]
 congr 1
set_option maxHeartbeats 2000000 in
set_option maxRecDepth 100000 in
theorem write_any (bh bd bw:Nat) (cv rv:Value) (bk n:Nat) (brk:Bool) (a:Option Addr) (c:Nat) (disk:List Int) (left:Int) (e:En) (w:World) (h:HouC w bh bd cv rv bk n brk) (hd:DskM w bd bw a c disk left) (hne:bh≠bd∧bh≠bw) (hbw:bw < w.heap.size) (hn:n≤4096) (hr:9 * n + 9≤disk.length) (hl:-9223372036854775808≤left∧left≤9223372036854775807) (x0 x1 x2 x3 x4 x5 x6 x7 x8:Int) (hx:recW e=[x0,x1,x2,x3,x4,x5,x6,x7,x8]) (d':List Int) (l':Int) (ok:Bool) (hp:putT disk left (wrs n e)=(d',l',ok)) :
  Calls Tryz.prog 111 #[.pointer (some ⟨bh,0,none⟩),.agg #[.int .i64 x0,.int .i64 x1,.int .i64 x2,.int .i64 x3,.int .i64 x4,.int .i64 x5,.int .i64 x6,.int .i64 x7,.int .i64 x8]] w (WrtP bd bw a c d' l' ok w):=by
 have hmf:=hmf
 have HX:Hid (recW e=[x0,x1,x2,x3,x4,x5,x6,x7,x8]):=hx
 have HP:Hid (putT disk left (wrs n e)=(d',l',ok)):=hp
 have HH:Hid (HouC w bh bd cv rv bk n brk):=h
 have HNE:Hid (bh≠bd∧bh≠bw):=hne
 have HRL:Hid (9 * n + 9≤disk.length):=hr
 have HLI:Hid (-9223372036854775808≤left∧left≤9223372036854775807):=hl
 have hbd:bd < w.heap.size:=hd.c0.lt
 obtain ⟨W,hW⟩:∃ W,(w.alloc (.cells #[.pointer (some ⟨bh,0,none⟩)] 89)).alloc (.cells #[.int .i64 x0,.int .i64 x1,.int .i64 x2,.int .i64 x3,.int .i64 x4,.int .i64 x5,.int .i64 x6,.int .i64 x7,.int .i64 x8] 206)=W:=⟨_,rfl⟩
 have HWb:Hid (Below w.heap.size w W):=hW▸bal (ba _ _) _
 have HC:Hid (Cl W w.heap.size 0 (.pointer (some ⟨bh,0,none⟩))):=hW▸(Cl.new _ 89 0 _ rfl rfl).at (ba _ _)
 have HN:Hid (NinB W (w.heap.size + 1) [x0,x1,x2,x3,x4,x5,x6,x7,x8]):=hW▸NinB.new _ _ _ _ _ _ _ _ _ 206 (by simp)
 have HDW:Hid (DskM W bd bw a c disk left):=hd.at HWb.out
 have nK:Hid (¬ (w.heap.size=bd∨w.heap.size=bw)∧¬ (w.heap.size + 1=bd∨w.heap.size + 1=bw)):=by constructor <;> omega
 obtain ⟨d0,l0,ok0,hp0⟩:∃ d0 l0 ok0,putT disk left [(9 * n + 0,0)]=(d0,l0,ok0):=⟨_,_,_,rfl⟩
 have k0:=put1_any bh bd bw w.heap.size cv rv bk n brk a c disk left 0 0 W (HH.out.at HWb.out) HDW.out HC.out hn (by decide) hr hl d0 l0 ok0 hp0
 have HP0:Hid (putT disk left (ws0 n (recW e) 0)=(d0,l0,ok0)):=hp0
 clear h hd hne hr hl hx hp hp0
 go_enter Tryz.func111,Tryz.ntmps111
 go_wp2_with fail
 clear hW
 refine k0.mono ?_
 rintro x w1 ⟨rfl,hD1,hK1⟩
 have K1:Keeps w w1 (fun k=>k=bd∨k=bw):=(keeps_below HWb.out).trans hK1
 cases ok0 with
 | false =>
  obtain ⟨r,hr⟩:=ws0_all n e (k:=0) (by decide)
  have h:=putT_fail HP0.out r
  rw [← hr,HP.out] at h
  simp only [Prod.mk.injEq] at h
  obtain ⟨rfl,rfl,rfl⟩:=h
  clear k0
  go_wp2
  go_ret
  exact ⟨rfl,hD1,K1⟩
 | true =>
  have HC1:Hid (Cl w1 w.heap.size 0 (.pointer (some ⟨bh,0,none⟩))):=cl_kp HC.out hK1 nK.out.1
  have HN1:Hid (NinB w1 (w.heap.size + 1) [x0,x1,x2,x3,x4,x5,x6,x7,x8]):=⟨rfl,fun k x hx=>cl_kp (HN.out.2 k x hx) hK1 nK.out.2⟩
  have HD1:Hid (DskM w1 bd bw a c d0 l0):=hD1
  have HK1:Hid (Keeps w w1 (fun k=>k=bd∨k=bw)):=K1
  clear k0 hD1 hK1 K1
  go_wp2
  go_loopw [6] (fun t wr=>∃ (k:Nat) (d1:List Int) (l1:Int),t=.int .i64 ((k:Int) + 1)∧k≤8∧Hid (putT disk left (ws0 n (recW e) k)=(d1,l1,true))∧Hid (DskM wr bd bw a c d1 l1)∧Hid (Keeps w wr (fun k=>k=bd∨k=bw))∧Hid (Cl wr w.heap.size 0 (.pointer (some ⟨bh,0,none⟩)))∧Hid (NinB wr (w.heap.size + 1) [x0,x1,x2,x3,x4,x5,x6,x7,x8])) (fun t _=>9 - (intOf t).toNat)
  case atStart=>exact ⟨0,d0,l0,by simp,by decide,HP0,HD1,HK1,HC1,HN1⟩
  case round =>
   obtain ⟨k,d1,l1,rfl,hk,HPk,HDk,HKk,HCk,HNk⟩:=hrel
   have hlI:=putT_I HPk.out HLI.out
   have hdl:d1.length=disk.length:=putT_len HPk.out
   have HRk:Hid (9 * n + 9≤d1.length):=by rw [Hid,hdl]; exact HRL.out
   have HHk:Hid (HouC wr bh bd cv rv bk n brk):=HH.out.kp HKk.out (fun h=>h.elim HNE.out.1 HNE.out.2)
   clear hdl
   by_cases h1:k < 8
   ·obtain ⟨y,hy⟩:∃ y,[x0,x1,x2,x3,x4,x5,x6,x7,x8][k + 1]? = some y:=⟨_,List.getElem?_eq_getElem (by simp; omega)⟩
    have m1:=(HNk.out.2 (k + 1) y hy).c
    have hgd:(recW e).getD (k + 1) 0=y:=by rw [HX.out,List.getD,hy]; rfl
    obtain ⟨d2,l2,ok2,hp2⟩:∃ d2 l2 ok2,putT d1 l1 [(9 * n + (k + 1),y)]=(d2,l2,ok2):=⟨_,_,_,rfl⟩
    have hstep:putT disk left (ws0 n (recW e) (k + 1))=(d2,l2,ok2):=by rw [ws0_succ,putT_snoc HPk.out,hgd,hp2]
    have HST:Hid (putT disk left (ws0 n (recW e) (k + 1))=(d2,l2,ok2)):=hstep
    have kc:=put1_any bh bd bw w.heap.size cv rv bk n brk a c d1 l1 (k + 1) y wr HHk.out HDk.out HCk.out hn (by omega) HRk.out hlI d2 l2 ok2 hp2
    obtain ⟨j,hj⟩:∃ j,k + 1=j:=⟨_,rfl⟩
    have hjI:(k:Int) + 1=(j:Int):=by omega
    have hj9:(j:Int) < 9:=by omega
    rw [hj] at kc m1
    have HJ:Hid (k + 1=j):=hj
    clear hy hgd hp2 hstep hj
    go_wp2_with fail
    refine kc.mono ?_
    rintro x w2 ⟨rfl,hD2,hK2⟩
    have K2:Keeps w w2 (fun k=>k=bd∨k=bw):=HKk.out.trans hK2
    cases ok2 with
    | false =>
     obtain ⟨r,hr⟩:=ws0_all n e (k:=k + 1) (by omega)
     have h:=putT_fail HST.out r
     rw [← hr,HP.out] at h
     simp only [Prod.mk.injEq] at h
     obtain ⟨rfl,rfl,rfl⟩:=h
     clear kc
     go_wp2
     go_ret
     exact ⟨rfl,hD2,K2⟩
    | true =>
     have HC2:Hid (Cl w2 w.heap.size 0 (.pointer (some ⟨bh,0,none⟩))):=cl_kp HCk.out hK2 nK.out.1
     have HN2:Hid (NinB w2 (w.heap.size + 1) [x0,x1,x2,x3,x4,x5,x6,x7,x8]):=⟨rfl,fun k x hx=>cl_kp (HNk.out.2 k x hx) hK2 nK.out.2⟩
     have HD2:Hid (DskM w2 bd bw a c d2 l2):=hD2
     have HK2:Hid (Keeps w w2 (fun k=>k=bd∨k=bw)):=K2
     clear kc hD2 hK2 K2
     go_wp2
     go_roundw
     ·exact ⟨k + 1,d2,l2,by have:=HJ.out; go_num,by omega,HST,HD2,HK2,HC2,HN2⟩
     ·have:=HJ.out; simp [intOf]; omega
   ·obtain rfl:k=8:=by omega
    have kc:=put1_any bh bd bw w.heap.size cv rv bk n brk a c d1 l1 0 1 wr HHk.out HDk.out HCk.out hn (by decide) HRk.out hlI d' l' ok (by rw [← HP.out,wrs_ws0,putT_snoc HPk.out])
    go_wp2_with fail
    refine kc.mono ?_
    rintro x w2 ⟨rfl,hD2,hK2⟩
    have K2:Keeps w w2 (fun k=>k=bd∨k=bw):=HKk.out.trans hK2
    clear kc
    go_wp2
    go_ret
    exact ⟨rfl,hD2,K2⟩
end Go.Proofs.YtpmioeamdhdokaaGreat.K.P
namespace Go.Proofs.YtpmioeamdhdokaaGreat.K.P
open Go.RowKit Go.Shelf Go.Proofs.YtpmioeamdhdokaaGreat.K.Ds
attribute [local go_sem] Oper.semAt_some
theorem Keeps.imp {a b:World} {N N':Nat→Prop} (h:Keeps a b N) (hN:∀ k,k < a.heap.size→N k→N' k):Keeps a b N':=⟨h.os,h.tape,h.output,h.size,fun k hk hn=>h.block k hk (fun c=>hn (hN k hk c))⟩
theorem keeps_refl (a:World) (N:Nat→Prop):Keeps a a N:=⟨rfl,rfl,rfl,Nat.le_refl _,fun _ _ _=>rfl⟩
theorem row_keeps {w w':World} {N:Nat→Prop} {base:Nat} {t:TypeId} {sz:Nat} {v:Value} {n:Nat} {xs:List Value} (h:w.ownsRow base t sz v n xs) (hk:Keeps w w' N) (hn:∀ g,v.ownBlock=some g→¬ N g):w'.ownsRow base t sz v n xs :=
 row_same h fun g hg=>hk.block g (row_lt h hg).2 (hn g hg)
theorem row_base {w:World} {base base':Nat} {t:TypeId} {sz:Nat} {v:Value} {n:Nat} {xs:List Value} (h:w.ownsRow base t sz v n xs) (hb:base'≤base):w.ownsRow base' t sz v n xs:=by
 refine ⟨h.1,?_⟩
 rcases h.2 with h0 | ⟨g,cap,cur,hv,hb2,hc⟩
 ·exact .inl h0
 ·exact .inr ⟨g,cap,cur,hv,by omega,hc⟩
end Go.Proofs.YtpmioeamdhdokaaGreat.K.P
namespace Go.Proofs.YtpmioeamdhdokaaGreat.K.P
open Go.RowKit Go.Proofs.YtpmioeamdhdokaaGreat.K.Ds
theorem map_kp {H:Type} {w w':World} {P:Program} {t:TypeId} {R:Value→Option (DataW H × List MemPlace)} {b n:Nat} {D:DataW H} (h:w.ownsMap P t R b n D) (e:w'.heap[b]? = w.heap[b]?):w'.ownsMap P t R b n D:=by
 obtain ⟨es,clock,hb,hr⟩:=h
 exact ⟨es,clock,e.trans hb,hr⟩
theorem two_kp {w w':World} {b:Nat} {x y:Value} (h:TwoB w b x y) (e:w'.heap[b]? = w.heap[b]?) (hs:w.heap.size≤w'.heap.size):TwoB w' b x y :=
 ⟨(World.cell?_of_block (w:=w) (a:=⟨b,0,none⟩) e).trans h.c0,(World.cell?_of_block (w:=w) (a:=⟨b,1,none⟩) e).trans h.c1,(World.frozen?_of_block (w:=w) (a:=⟨b,0,none⟩) e).trans h.f0,(World.frozen?_of_block (w:=w) (a:=⟨b,1,none⟩) e).trans h.f1,Nat.lt_of_lt_of_le h.lt hs⟩
theorem BookM.kp {w w':World} {N K:Nat→Prop} {bk bm n:Nat} {v:Value} {D:DataW Value} {done:List En} (h:BookM w N bk bm n v D done) (hk:Keeps w w' K) (hd:∀ k,N k→¬ K k):BookM w' N bk bm n v D done:=by
 obtain ⟨hl1,hl2,hl3,hl4⟩:=h.lob
 refine ⟨h.inv,two_kp h.two (hk.block bk h.two.lt (hd _ hl1)) hk.size,map_kp h.own (hk.block bm h.own.lt (hd _ hl2)),row_keeps h.row hk (fun g hg=>hd _ (hl4 g hg).1),h.cnt,h.is,fun x b hx=>?_,h.sz,h.lob⟩
 obtain ⟨bp,np,Dp,h1,h2,h3,h4,h5,h6,h7⟩:=(h.el x b hx).ex
 exact ⟨bp,np,Dp,h1,⟨map_kp h2.own (hk.block bp h2.own.lt (hd _ h5)),h2.is,h2.el,h2.rng⟩,h3,h4,h5,h6,h7⟩
def Agr (h B:Nat) (w w':World):Prop:=B≤w'.heap.size∧∀ k,h≤k→k < B→w'.heap[k]? = w.heap[k]?
def TabM (w:World) (h B:Nat) (cv rv:Value) (l:List Col) (ts:List (List Int)):Prop :=
 ∃ rs,rr rs=ts∧∀ w',Agr h B w w'→Cols w' B cv l∧Rws w' B rv rs
theorem TabM.kp {w w':World} {h B:Nat} {cv rv:Value} {l:List Col} {ts:List (List Int)} {K:Nat→Prop} (ht:TabM w h B cv rv l ts) (hk:Keeps w w' K) (hB:B≤w.heap.size) (hd:∀ k,h≤k→k < B→¬ K k):TabM w' h B cv rv l ts:=by
 obtain ⟨rs,h1,h2⟩:=ht
 refine ⟨rs,h1,fun w'' ha=>h2 w'' ⟨ha.1,fun k hk1 hk2=>?_⟩⟩
 rw [ha.2 k hk1 hk2,hk.block k (by omega) (hd k hk1 hk2)]
theorem tabM_of {w:World} {h B:Nat} {cv rv:Value} {l:List Col} {rs:List Rw} (hc:Cols w B cv l) (hr:Rws w B rv rs) (ac:Adr (fun b=>h≤b) cv) (ar:AdrR (fun b=>h≤b) rv rs):TabM w h B cv rv l (rr rs):=by
 refine ⟨rs,rfl,fun w' ha=>⟨?_,?_⟩⟩
 ·obtain ⟨a,c,rfl,h2,h3,h4,h5⟩:=hc
  refine ⟨a,c,rfl,h2,h3,h4,fun hne=>?_⟩
  obtain ⟨b,o,rfl,hb,hx⟩:=h5 hne
  have e:=ha.2 b (ac b o _ _ rfl) hb
  exact ⟨b,o,rfl,hb,fun i x hi=>⟨(World.cell?_of_block (w:=w) (a:=⟨b,o + i * 2,none⟩) e).trans (hx i x hi).1,(World.cell?_of_block (w:=w) (a:=⟨b,o + i * 2 + 1,none⟩) e).trans (hx i x hi).2⟩⟩
 ·obtain ⟨a,c,rfl,h2,h3,h4,h5⟩:=hr
  refine ⟨a,c,rfl,h2,h3,fun t ht=>?_,fun hne=>?_⟩
  ·obtain ⟨a2,c2,hv,k2,k3,k4⟩:=h4 t ht
   refine ⟨a2,c2,hv,k2,k3,fun hne=>?_⟩
   obtain ⟨b,o,rfl,hb,hbn,hx⟩:=k4 hne
   have e:=ha.2 b (ar.2 t ht b o _ _ hv) hb
   exact ⟨b,o,rfl,hb,hbn,fun i x hi=>(World.cell?_of_block (w:=w) (a:=⟨b,o + i,none⟩) e).trans (hx i x hi)⟩
  ·obtain ⟨b,o,rfl,hb,hx⟩:=h5 hne
   have e:=ha.2 b (ar.1 b o _ _ rfl) hb
   exact ⟨b,o,rfl,hb,fun i t hi=>(World.cell?_of_block (w:=w) (a:=⟨b,o + i,none⟩) e).trans (hx i t hi)⟩
structure HouK (w:World) (M:Nat→Prop) (bh bd:Nat) (l:List Col) (ts:List (List Int)) (done:List En) (cv rv:Value) (bk bm n:Nat) (v:Value) (D:DataW Value) (h B:Nat) (N:Nat→Prop):Prop where
 hc:HouC w bh bd cv rv bk done.length false
 bo:BookM w N bk bm n v D done
 tb:TabM w h B cv rv l ts
 nn:∀ k,N k→B≤k∧k < w.heap.size∧k≠bh
 hB:h≤B∧B≤w.heap.size
 ap:bh < h∨B≤bh
 mm:∀ k,k=bh∨N k∨(h≤k∧k < B)→M k
def HouM (w:World) (M:Nat→Prop) (bh bd:Nat) (l:List Col) (ts:List (List Int)) (done:List En):Prop :=
 ∃ cv rv bk bm n v D h B N,HouK w M bh bd l ts done cv rv bk bm n v D h B N
theorem HouM.kp {w w':World} {M K:Nat→Prop} {bh bd:Nat} {l:List Col} {ts:List (List Int)} {done:List En} (hh:HouM w M bh bd l ts done) (hk:Keeps w w' K) (hd:∀ k,M k→¬ K k):HouM w' M bh bd l ts done:=by
 obtain ⟨cv,rv,bk,bm,n,v,D,h,B,N,q⟩:=hh
 refine ⟨cv,rv,bk,bm,n,v,D,h,B,N,q.hc.kp hk (hd _ (q.mm _ (.inl rfl))),q.bo.kp hk (fun k hN=>hd _ (q.mm _ (.inr (.inl hN)))),q.tb.kp hk q.hB.2 (fun k h1 h2=>hd _ (q.mm _ (.inr (.inr ⟨h1,h2⟩)))),fun k hN=>?_,⟨q.hB.1,Nat.le_trans q.hB.2 hk.size⟩,q.ap,q.mm⟩
 have:=q.nn k hN
 exact ⟨this.1,Nat.lt_of_lt_of_le this.2.1 hk.size,this.2.2⟩
theorem HouM.mono {w:World} {M M':Nat→Prop} {bh bd:Nat} {l:List Col} {ts:List (List Int)} {done:List En} (hh:HouM w M bh bd l ts done) (hm:∀ k,M k→M' k):HouM w M' bh bd l ts done:=by
 obtain ⟨cv,rv,bk,bm,n,v,D,h,B,N,q⟩:=hh
 exact ⟨cv,rv,bk,bm,n,v,D,h,B,N,q.hc,q.bo,q.tb,q.nn,q.hB,q.ap,fun k hk=>hm k (q.mm k hk)⟩
def HdoP (M:Nat→Prop) (bh bd bw:Nat) (a:Option Addr) (c:Nat) (l:List Col) (ts:List (List Int)) (s':HSt) (er:Int) (w:World):Ending→World→Prop:=fun x w' =>
 x=.returned (.int .i64 er)∧Keeps w w' (fun k=>M k∨k=bd∨k=bw)∧DskM w' bd bw a c s'.disk s'.left ∧
  (s'.brk=false→HouM w' (fun k=>M k∨w.heap.size≤k∧k < w'.heap.size) bh bd l ts s'.done)∧(s'.brk=true→Cl w' bh 5 (.bool true))
theorem rec_fit {done:List En} {e:En} (h:doT done (nrm e)=0):e.2.1.size≤32:=by
 have h1:=(bad_ok (doT_bad h).1).2.2.1
 rw [nrm_n] at h1
 unfold namB at h1
 simp only [Bool.and_eq_true,decide_eq_true_eq] at h1
 have h2:=h1.1.2
 rw [Array.length_toList] at h2
 exact h2
set_option maxHeartbeats 4000000 in
set_option maxRecDepth 100000 in
theorem hdo_any (M:Nat→Prop) (bh bd bw:Nat) (a:Option Addr) (c:Nat) (l:List Col) (ts:List (List Int)) (disk:List Int) (left:Int) (done:List En) (e:En) (w:World) (hh:HouM w M bh bd l ts done) (hd:DskM w bd bw a c disk left) (hM:¬ M bd∧¬ M bw) (hbw:bw < w.heap.size) (hl:-9223372036854775808≤left∧left≤9223372036854775807) (hs:e.2.1.size≤9223372036854775807) (hpI:-9223372036854775808≤e.2.2.1∧e.2.2.1≤9223372036854775807) (hnr:nrm e=e) (s':HSt) (er:Int) (hr:doesT ⟨disk,left,true,false,done⟩ e=(s',er)) :
  Calls Tryz.prog 54 #[.pointer (some ⟨bh,0,none⟩),ev e] w (HdoP M bh bd bw a c l ts s' er w):=by
 obtain ⟨cv,rv,bk,bm,n,v,D,h,B,N,q⟩:=hh
 have hlen:done.length≤4096:=q.bo.inv.len
 have hbd:bd < w.heap.size:=hd.c0.lt
 have HQ:Hid (HouK w M bh bd l ts done cv rv bk bm n v D h B N):=q
 have HD:Hid (DskM w bd bw a c disk left):=hd
 have HM:Hid (¬ M bd∧¬ M bw):=hM
 have HLI:Hid (-9223372036854775808≤left∧left≤9223372036854775807):=hl
 have HNR:Hid (nrm e=e):=hnr
 obtain ⟨W,hW⟩:∃ W,w.alloc (.cells #[.int .i64 e.1,.string e.2.1,.int .i64 e.2.2.1,.int .i64 e.2.2.2.1,.int .i64 e.2.2.2.2] 59)=W:=⟨_,rfl⟩
 have HWb:Hid (Below w.heap.size w W):=hW▸ba _ _
 have HWs:Hid (W.heap.size=w.heap.size + 1):=by rw [← hW]; simp [Hid]
 have HV:Hid (FivB W w.heap.size (.int .i64 e.1) (.string e.2.1) (.int .i64 e.2.2.1) (.int .i64 e.2.2.2.1) (.int .i64 e.2.2.2.2)):=hW▸FivB.new _ _ _ _ _ _ 59 _ rfl
 obtain ⟨rm,hrm⟩:∃ rm,decide (9 * done.length + 9≤disk.length)=rm:=⟨_,rfl⟩
 have kr:=room_any bh bd bw cv rv bk done.length false a c disk left W (q.hc.at HWb.out) (hd.at HWb.out) hlen rm hrm
 have HRM:Hid (decide (9 * done.length + 9≤disk.length)=rm):=hrm
 have HR:Hid (doesT ⟨disk,left,true,false,done⟩ e=(s',er)):=hr
 clear q hd hM hl hnr hrm hr
 go_enter Tryz.func54,Tryz.ntmps54
 go_wp2_with fail
 clear hW
 refine kr.mono ?_
 rintro x w1 ⟨rfl,hb1⟩
 have B1:Below w.heap.size w w1:=bt HWb.out hb1
 cases rm with
 | false =>
  have h2:=HR.out
  have h3:disk.length < 9 * done.length + 9:=by have:=of_decide_eq_false HRM.out; omega
  unfold doesT at h2
  rw [if_pos h3] at h2
  simp only [Prod.mk.injEq] at h2
  obtain ⟨rfl,rfl⟩:=h2
  clear kr
  go_wp2
  go_ret
  refine ⟨rfl,keeps_below B1,HD.out.at B1,fun _=>?_,(fun h=>by cases h)⟩
  have h5:HouM w M bh bd l ts done:=⟨_,_,_,_,_,_,_,_,_,_,HQ.out⟩
  exact (h5.kp (K:=fun _=>False) (keeps_below B1) (fun _ _ h=>h)).mono (fun k h=>.inl h)
 | true =>
  have hroom:9 * done.length + 9≤disk.length:=of_decide_eq_true HRM.out
  have HROOM:Hid (9 * done.length + 9≤disk.length):=hroom
  have V1:FivB w1 w.heap.size (.int .i64 e.1) (.string e.2.1) (.int .i64 e.2.2.1) (.int .i64 e.2.2.2.1) (.int .i64 e.2.2.2.2):=HV.out.below hb1
  obtain ⟨c0,c1,c2,c3,c4,_,_,_,_,_,hv1⟩:=id V1
  have HV1:Hid (FivB w1 w.heap.size (.int .i64 e.1) (.string e.2.1) (.int .i64 e.2.2.1) (.int .i64 e.2.2.2.1) (.int .i64 e.2.2.2.2)):=V1
  have HC1:HouC w1 bh bd cv rv bk done.length false:=HQ.out.hc.at B1
  have m2:=HC1.c2.c
  have HB1:Hid (Below w.heap.size w w1):=B1
  have BK1:BookM w1.drew (fun k=>N k∨w1.heap.size≤k) bk bm n v D done:=((HQ.out.bo.kp (K:=fun _=>False) (keeps_below B1) (fun _ _ h=>h)).keep (Below.refl _ _).drew).mono (fun k _ h=>.inl h)
  have kd:Calls Tryz.prog 75 #[.pointer (some ⟨bk,0,none⟩),ev e] w1.drew fun x w'=>x=.returned (.int .i64 (doT done (nrm e)))∧Keeps w1 w' (fun k=>N k∨w1.heap.size≤k)∧(∃ n v D,BookM w' (fun k=>N k∨w1.heap.size≤k) bk bm n v D (stepD done e))∧HouC w' bh bd cv rv bk done.length false∧FivB w' w.heap.size (.int .i64 e.1) (.string e.2.1) (.int .i64 e.2.2.1) (.int .i64 e.2.2.2.1) (.int .i64 e.2.2.2.2):=by
   refine (do_any (fun k=>N k∨w1.heap.size≤k) bk bm n v D done e w1.drew BK1 hs (fun k hk=>.inr hk) hpI).mono ?_
   rintro x w2 ⟨h1,h2,h3⟩
   have K:Keeps w1 w2 (fun k=>N k∨w1.heap.size≤k):=(keeps_below (Below.refl _ _).drew).trans h2
   refine ⟨h1,K,h3,HC1.kp K ?_,?_⟩
   ·rintro (c | c)
    ·exact (HQ.out.nn _ c).2.2 rfl
    ·have:=HC1.c0.lt; omega
   ·obtain ⟨c0,c1,c2,c3,c4,f0,f1,f2,f3,f4,hv1⟩:=V1
    have e:=K.block w.heap.size hv1 (by
     rintro (c | c)
     ·have:=(HQ.out.nn _ c).2.1; omega
     ·omega)
    exact ⟨(World.cell?_of_block (w:=w1) (a:=⟨w.heap.size,0,none⟩) e).trans c0,(World.cell?_of_block (w:=w1) (a:=⟨w.heap.size,1,none⟩) e).trans c1,(World.cell?_of_block (w:=w1) (a:=⟨w.heap.size,2,none⟩) e).trans c2,(World.cell?_of_block (w:=w1) (a:=⟨w.heap.size,3,none⟩) e).trans c3,(World.cell?_of_block (w:=w1) (a:=⟨w.heap.size,4,none⟩) e).trans c4,(World.frozen?_of_block (w:=w1) (a:=⟨w.heap.size,0,none⟩) e).trans f0,(World.frozen?_of_block (w:=w1) (a:=⟨w.heap.size,1,none⟩) e).trans f1,(World.frozen?_of_block (w:=w1) (a:=⟨w.heap.size,2,none⟩) e).trans f2,(World.frozen?_of_block (w:=w1) (a:=⟨w.heap.size,3,none⟩) e).trans f3,(World.frozen?_of_block (w:=w1) (a:=⟨w.heap.size,4,none⟩) e).trans f4,Nat.lt_of_lt_of_le hv1 K.size⟩
  clear kr hroom V1 HC1 BK1 B1 hb1
  go_wp2_with fail
  go_region_held3 (fun w'=>w'.cell? ⟨bh,2,none⟩=some (.pointer (some ⟨bk,0,none⟩))∧w'.cell? ⟨w.heap.size,0,none⟩=some (.int .i64 e.1)∧w'.cell? ⟨w.heap.size,1,none⟩=some (.string e.2.1)∧w'.cell? ⟨w.heap.size,2,none⟩=some (.int .i64 e.2.2.1)∧w'.cell? ⟨w.heap.size,3,none⟩=some (.int .i64 e.2.2.2.1)∧w'.cell? ⟨w.heap.size,4,none⟩=some (.int .i64 e.2.2.2.2))
   (first | assumption | (simp [go_sem, *]; done))
   ((go_at_call 75; refine kd.mono ?_; rintro x w2 ⟨rfl,hK2,hB2,hC2,hV2⟩; have z2:=hC2.c2.c; have y0:=hV2.c0; have y1:=hV2.c1; have y2:=hV2.c2; have y3:=hV2.c3; have y4:=hV2.c4))
  clear kd m2 c0 c1 c2 c3 c4
  have HK2:Hid (Keeps w1 w2 (fun k=>N k∨w1.heap.size≤k)):=hK2
  obtain ⟨n2,v2,D2,hB2⟩:=hB2
  have HB2:Hid (BookM w2 (fun k=>N k∨w1.heap.size≤k) bk bm n2 v2 D2 (stepD done e)):=hB2
  have hs12:w1.heap.size≤w2.heap.size:=hK2.size
  have hs01:w.heap.size≤w1.heap.size:=HB1.out.size
  have KW:Hid (∀ w',Keeps w2 w' (fun k=>k=bd∨k=bw∨k=bh)→Keeps w w' (fun k=>M k∨k=bd∨k=bw)):=fun w' hk=>by
   have k1:Keeps w w2 (fun k=>(M k∨k=bd∨k=bw)∨w.heap.size≤k):=(keeps_below HB1.out).trans (HK2.out.imp (fun k _ h=>h.elim (fun c=>.inl (.inl (HQ.out.mm _ (.inr (.inl c))))) (fun c=>.inr (by omega))))
   have k2:Keeps w w' (fun k=>(M k∨k=bd∨k=bw)∨w.heap.size≤k):=k1.trans (hk.imp (fun k _ h=>by
    rcases h with c | c | rfl
    ·exact .inl (.inr (.inl c))
    ·exact .inl (.inr (.inr c))
    ·exact .inl (.inl (HQ.out.mm _ (.inl rfl)))))
   exact k2.imp (fun k hk h=>h.elim id (fun c=>by omega))
  have HT2:Hid (TabM w2 h B cv rv l ts):=(HQ.out.tb.kp (K:=fun _=>False) (keeps_below HB1.out) HQ.out.hB.2 (fun _ _ _ h=>h)).kp HK2.out (by have:=HQ.out.hB.2; omega) (fun k h1 h2 c=>by
   rcases c with c | c
   ·have:=(HQ.out.nn _ c).1; omega
   ·have:=HQ.out.hB.2; omega)
  have HD2:Hid (DskM w2 bd bw a c disk left):=(HD.out.at HB1.out).kp HK2.out (by
   rintro (c | c)
   ·exact HM.out.1 (HQ.out.mm _ (.inr (.inl c)))
   ·omega) (by
   rintro (c | c)
   ·exact HM.out.2 (HQ.out.mm _ (.inr (.inl c)))
   ·omega)
  have hbh:bh < w.heap.size:=HQ.out.hc.c0.lt
  have hNM:Hid (∀ k,N k→M k):=fun k c=>HQ.out.mm _ (.inr (.inl c))
  have FIN:Hid (∀ w' dn,w2.heap.size≤w'.heap.size→HouC w' bh bd cv rv bk (dn:List En).length false→BookM w' (fun k=>N k∨w1.heap.size≤k) bk bm n2 v2 D2 dn→TabM w' h B cv rv l ts→HouM w' (fun k=>M k∨w.heap.size≤k∧k < w'.heap.size) bh bd l ts dn):=fun w' dn hsz hc hb ht=>by
   refine ⟨cv,rv,bk,bm,n2,v2,D2,h,B,(fun k=>(N k∨w1.heap.size≤k)∧k < w'.heap.size),hc,hb.mono (fun k hk c=>⟨c,hk⟩),ht,fun k hk=>?_,⟨HQ.out.hB.1,by have:=HQ.out.hB.2; omega⟩,HQ.out.ap,fun k hk=>?_⟩
   ·refine ⟨?_,hk.2,?_⟩
    ·rcases hk.1 with c | c
     ·exact (HQ.out.nn _ c).1
     ·have:=HQ.out.hB.2; omega
    ·rcases hk.1 with c | c
     ·exact (HQ.out.nn _ c).2.2
     ·omega
   ·rcases hk with c | c | c
    ·exact .inl (HQ.out.mm _ (.inl c))
    ·rcases c.1 with d | d
     ·exact .inl (HQ.out.mm _ (.inr (.inl d)))
     ·exact .inr ⟨by omega,c.2⟩
    ·exact .inl (HQ.out.mm _ (.inr (.inr c)))
  clear hK2 hB2
  obtain ⟨er2,he2⟩:∃ er2,doT done (nrm e)=er2:=⟨_,rfl⟩
  have HE2:Hid (doT done (nrm e)=er2):=he2
  simp only [he2]
  clear he2
  have hdt:doesT ⟨disk,left,true,false,done⟩ e=if er2≠0 then (⟨disk,left,true,false,done⟩,er2) else if (putT disk left (wrs done.length e)).2.2=true then (⟨(putT disk left (wrs done.length e)).1,(putT disk left (wrs done.length e)).2.1,true,false,done ++ [e]⟩,0) else (⟨(putT disk left (wrs done.length e)).1,(putT disk left (wrs done.length e)).2.1,true,true,done⟩,11):=by
   have he3:doT done e=er2:=by rw [← HE2.out,HNR.out]
   unfold doesT
   rw [if_neg (by have:=HROOM.out; simp only; omega)]
   simp only [HNR.out,he3]
  have HDT:Hid _:=hdt.symm.trans HR.out
  clear hdt
  by_cases h0:er2=0
  ·subst h0
   rw [if_neg (by simp)] at HDT
   have hst:stepD done e=done ++ [e]:=by unfold stepD; rw [if_pos HE2.out,HNR.out]
   rw [hst] at HB2
   have hfit:=rec_fit HE2.out
   obtain ⟨x0,x1,x2,x3,x4,x5,x6,x7,x8,hx⟩:=nine_of (recW_len e)
   have krec:=recordOf_any e hfit w2
   rw [hx,rvl_is] at krec
   obtain ⟨d1,l1,ok,hp⟩:∃ d1 l1 ok,putT disk left (wrs done.length e)=(d1,l1,ok):=⟨_,_,_,rfl⟩
   have kw:∀ W,HouC W bh bd cv rv bk done.length false→DskM W bd bw a c disk left→bw < W.heap.size→_:=fun W h1 h2 h3=>write_any bh bd bw cv rv bk done.length false a c disk left e W h1 h2 (by
    have:=HQ.out.mm _ (.inl rfl)
    exact ⟨fun c=>HM.out.1 (c▸this),fun c=>HM.out.2 (c▸this)⟩) h3 hlen HROOM.out HLI.out x0 x1 x2 x3 x4 x5 x6 x7 x8 hx d1 l1 ok hp
   rw [hp] at HDT
   simp only at HDT
   have HC2:Hid (HouC w2 bh bd cv rv bk done.length false):=hC2
   clear hx hp hfit hst hC2 z2
   go_wp2_with fail
   refine krec.mono ?_
   rintro x w3 ⟨rfl,hb3⟩
   have hs3:=hb3.size
   have kw3:=kw w3 (HC2.out.at hb3) (HD2.out.at hb3) (by omega)
   clear krec
   go_wp2_with fail
   refine kw3.mono ?_
   rintro x w4 ⟨rfl,hD4,hK4⟩
   have hs4:=hK4.size
   have K24:Keeps w2 w4 (fun k=>k=bd∨k=bw∨k=bh):=(keeps_below hb3).trans (hK4.imp (fun k _ h=>h.elim .inl (fun c=>.inr (.inl c))))
   have nbh:¬ (bh=bd∨bh=bw):=by
    have:=HQ.out.mm _ (.inl rfl)
    rintro (c | c)
    ·exact HM.out.1 (c▸this)
    ·exact HM.out.2 (c▸this)
   have C4:HouC w4 bh bd cv rv bk done.length false:=(HC2.out.at hb3).kp hK4 nbh
   have HC4:Hid (HouC w4 bh bd cv rv bk done.length false):=C4
   have HK24:Hid (Keeps w2 w4 (fun k=>k=bd∨k=bw∨k=bh)):=K24
   have HD4:Hid (DskM w4 bd bw a c d1 l1):=hD4
   have hne1:bh≠bd:=fun c=>nbh (.inl c)
   have hne2:bh≠bw:=fun c=>nbh (.inr c)
   cases ok with
   | false =>
    rw [if_neg (by simp)] at HDT
    have h6:=HDT.out
    simp only [Prod.mk.injEq] at h6
    obtain ⟨rfl,rfl⟩:=h6
    obtain ⟨q5,f5,_⟩:=C4.c5
    clear kw kw3 C4 hD4 hK4 K24
    go_wp2
    go_ret
    refine ⟨rfl,KW.out _ (keeps_set HK24.out (.inl (.inr (.inr rfl))) _),HD4.out.kp (N:=fun k=>k=bh) (keeps_set (keeps_refl _ (fun k=>k=bh)) (p:=⟨bh,5,none⟩) (.inl rfl) _) hne1.symm hne2.symm,(fun h=>by cases h),fun _=>HC4.out.c5.set _⟩
   | true =>
    rw [if_pos rfl] at HDT
    have h6:=HDT.out
    simp only [Prod.mk.injEq] at h6
    obtain ⟨rfl,rfl⟩:=h6
    obtain ⟨q4,f4,_⟩:=C4.c4
    have hw1:IntKind.i64.wrap ((done.length:Int) + 1)=((done ++ [e]).length:Int):=by rw [IntKind.wrap_i64]; simp; omega
    clear kw kw3 C4 hD4 hK4 K24
    go_wp2
    have KX:Keeps w2 (w4.setCell ⟨bh,4,none⟩ (.int .i64 ((done.length:Int) + 1))) (fun k=>k=bd∨k=bw∨k=bh):=keeps_set HK24.out (.inl (.inr (.inr rfl))) _
    go_ret
    refine ⟨rfl,KW.out _ KX,HD4.out.kp (N:=fun k=>k=bh) (keeps_set (keeps_refl _ (fun k=>k=bh)) (p:=⟨bh,4,none⟩) (.inl rfl) _) hne1.symm hne2.symm,fun _=>FIN.out _ (done ++ [e]) KX.size ?_ (HB2.out.kp KX ?_) (HT2.out.kp KX (by have:=HQ.out.hB.2; omega) ?_),(fun h=>by cases h)⟩
    ·rw [show ((done ++ [e]).length:Int)=(done.length:Int) + 1 by simp]
     exact HC4.out.s4 _
    ·rintro k hk (rfl | rfl | rfl)
     ·rcases hk with d | d
      ·exact HM.out.1 (hNM.out _ d)
      ·omega
     ·rcases hk with d | d
      ·exact HM.out.2 (hNM.out _ d)
      ·omega
     ·rcases hk with d | d
      ·exact (HQ.out.nn _ d).2.2 rfl
      ·omega
    ·rintro k h1 h2 (rfl | rfl | rfl)
     ·exact HM.out.1 (HQ.out.mm _ (.inr (.inr ⟨h1,h2⟩)))
     ·exact HM.out.2 (HQ.out.mm _ (.inr (.inr ⟨h1,h2⟩)))
     ·have:=HQ.out.ap; omega
  ·rw [if_pos h0] at HDT
   have h6:=HDT.out
   simp only [Prod.mk.injEq] at h6
   obtain ⟨rfl,rfl⟩:=h6
   have hst:stepD done e=done:=by unfold stepD; rw [if_neg (by rw [HE2.out]; exact h0)]
   rw [hst] at HB2
   have h01:(er2 == 0)=false:=by simpa using h0
   have h02:(er2 != 0)=true:=by simpa using h0
   have HC2:Hid (HouC w2 bh bd cv rv bk done.length false):=hC2
   clear hst hC2 z2
   go_wp2
   go_ret
   exact ⟨rfl,KW.out _ (keeps_refl _ _),HD2.out,fun _=>FIN.out _ done (Nat.le_refl _) HC2.out HB2.out HT2.out,(fun h=>by cases h)⟩
end Go.Proofs.YtpmioeamdhdokaaGreat.K.P
