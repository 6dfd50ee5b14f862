import Derived.Test.YtpmioeamdhdokaaGreatQq06
import Derived.Test.YtpmioeamdhdokaaGreatQq04
import Derived.Test.YtpmioeamdhdokaaGreatQq05
import Derived.RangeFuncNested
import Derived.RangeFuncBound
import Derived.RangeFuncCalls
import Derived.RangeFuncLeaves
import Derived.Shelf.Abstract
import Derived.Shelf.RegionOpen
import Derived.WalkKit
import Derived.OwnWalkIn
import Derived.TacticsInMore
import Derived.LoopNIn
import Derived.LoopIn
import Derived.Sort.BigQuietIn
import Derived.Test.YtpmioeamdhdokaaGreatQq01
import Derived.Deep.RegionHeld3
namespace Go.Proofs.YtpmioeamdhdokaaGreat
open Go.RowKit Go.Proofs.YtpmioeamdhdokaaGreat.Ds
set_option maxHeartbeats 2000000 in
set_option maxRecDepth 100000 in
theorem draws_r (B N E:Nat) {S:Type} (St:World→S→Prop) (go:S→Nx) (us:S→Int) (s0:S) (sur:Option (List Int)) (D:Drw N E 191 190 St go us s0 sur) (v:Value) (bits:List Int) (times:Int) (w:World) (hB:B≤N) (hN:N≤w.heap.size) (hs:St w s0) (hv:Ints w B E v bits) (ht:-9223372036854775808≤times∧times≤9223372036854775807) (l:List Pt) (er:Int) (hr:drawsT (nxD go s0 sur) bits times=(l,er)) :
  Calls Tryz.prog 114 #[.iface 211 (.pointer (some ⟨E,0,none⟩)),v,.int .i64 times] w (DrawsP E l er w):=by
 have HV:Hid (Ints w B E v bits):=hv
 have HD:Hid (Drw N E 191 190 St go us s0 sur):=D
 have HS:Hid (St w s0):=hs
 have HR:Hid (drawsT (nxD go s0 sur) bits times=(l,er)):=hr
 have lt:=D.lt
 obtain ⟨a,c,rfl,hc,hl,_⟩:=hv
 clear D hs hr
 by_cases h1:65536 < bits.length
 ·have h:=HR.out
  simp only [drawsT,wrB,if_pos h1] at h
  simp at h
  obtain ⟨rfl,rfl⟩:=h
  go_enter Tryz.func114,Tryz.ntmps114
  go_wp2
  exact bodyPost_ret (v:=.tuple #[.slice none 0 0,.int .i64 5]) (by simp [results,Tryz.results114,go_sem]) rfl ⟨.slice none 0 0,([]:List Tr),rfl,rfl,parts_nil _ _,gb_refl _ _,NewAt.nil _⟩
 by_cases h2:times < 0
 ·have h:=HR.out
  simp only [drawsT,wrB,if_neg h1,if_pos (show times < 0∨4096 < times∨badB bits=true from .inl h2)] at h
  simp at h
  obtain ⟨rfl,rfl⟩:=h
  go_enter Tryz.func114,Tryz.ntmps114
  go_wp2
  exact bodyPost_ret (v:=.tuple #[.slice none 0 0,.int .i64 3]) (by simp [results,Tryz.results114,go_sem]) rfl ⟨.slice none 0 0,([]:List Tr),rfl,rfl,parts_nil _ _,gb_refl _ _,NewAt.nil _⟩
 by_cases h3:4096 < times
 ·have h:=HR.out
  simp only [drawsT,wrB,if_neg h1,if_pos (show times < 0∨4096 < times∨badB bits=true from .inr (.inl h3))] at h
  simp at h
  obtain ⟨rfl,rfl⟩:=h
  go_enter Tryz.func114,Tryz.ntmps114
  go_wp2
  exact bodyPost_ret (v:=.tuple #[.slice none 0 0,.int .i64 3]) (by simp [results,Tryz.results114,go_sem]) rfl ⟨.slice none 0 0,([]:List Tr),rfl,rfl,parts_nil _ _,gb_refl _ _,NewAt.nil _⟩
 cases hbad:badB bits with
 | true =>
  have h:=HR.out
  simp only [drawsT,wrB,if_neg h1,if_pos (show times < 0∨4096 < times∨badB bits=true from .inr (.inr hbad))] at h
  simp at h
  obtain ⟨rfl,rfl⟩:=h
  have kc:=containsB_any B E _ bits w HV.out false (by have:=bad_all bits; rw [hbad] at this; simpa using this.symm)
  clear hbad
  go_enter Tryz.func114,Tryz.ntmps114
  go_wp2_with fail
  refine kc.mono ?_
  rintro e w1 ⟨rfl,rfl⟩
  clear kc
  go_wp2
  exact bodyPost_ret (v:=.tuple #[.slice none 0 0,.int .i64 3]) (by simp [results,Tryz.results114,go_sem]) rfl ⟨.slice none 0 0,([]:List Tr),rfl,rfl,parts_nil _ _,gb_refl _ _,NewAt.nil _⟩
 | false =>
  have HBad:Hid (badB bits=false):=hbad
  have h:=HR.out
  simp only [drawsT,wrB,if_neg h1,if_neg (show ¬ (times < 0∨4096 < times∨badB bits=true) from by simp [hbad]; omega)] at h
  simp at h
  have HL:Hid (drT (nxD go s0 sur) times.toNat bits=l):=h.1
  obtain rfl:(0:Int)=er:=h.2
  obtain ⟨T,rfl⟩:=Int.eq_ofNat_of_zero_le (show 0≤times by omega)
  rw [Int.toNat_natCast] at HL
  have kc:=containsB_any B E _ bits w HV.out true (by have:=bad_all bits; rw [hbad] at this; simpa using this.symm)
  obtain ⟨i0,hi0,hz0,hz1,hz2⟩:=info_parts info38
  clear hbad h HR
  have hT:T≤4096:=by omega
  go_enter Tryz.func114,Tryz.ntmps114
  go_wp2_with fail
  refine kc.mono ?_
  rintro e w1 ⟨rfl,rfl⟩
  clear kc
  go_wp2
  go_loopw [1,8] (fun bv ov wr=>∃ (j:Nat) (ds:List Tr) (a':Option Addr) (c':Nat),bv=.slice a' (bits.drop j).length c'∧Hid (Ints wr B E bv (bits.drop j))∧ds.length≤T∧Hid (Rwd wr w1.heap.size ov ds)∧Hid (Frs w1.heap.size ds)∧Hid (St wr s0)∧Hid (w1.grownBy wr (some E))∧Hid (rd ds ++ drT (nxD go s0 sur) (T - ds.length) (bits.drop j)=l)) (fun _ ov _=>T - slen ov)
  case atStart=>exact ⟨0,[],a,c,by simp,by rw [List.drop_zero]; exact HV,Nat.zero_le _,Rwd.nil _ _,Frs.nil _,HS,gb_refl _ _,by simpa [rd,Hid] using HL.out⟩
  case round =>
   obtain ⟨j,ds,a',c',rfl,HVj,hdT,HW,HF,HSj,HG,HLj⟩:=hrel
   have hz:=HG.out.size
   have hpl:=HW.out.lt
   obtain ⟨pa,pc,rfl⟩:=HW.out.slice
   have HNA:Hid (NewAt w1.heap.size (.slice pa ds.length pc) ds):=⟨fun g e=>(hpl g e).1,HF.out⟩
   have hbl:(bits.drop j).length≤65536:=by simp; omega
   have HBj:Hid (badB (bits.drop j)=false):=bad_drop HBad.out j
   obtain ⟨bj,hbj⟩:∃ bj,bits.drop j=bj:=⟨_,rfl⟩
   rw [hbj] at hbl HBj HVj HLj ⊢
   have HJ:Hid (bits.drop j=bj):=hbj
   clear hbj
   by_cases h4:ds.length < T
   ·have kc:=next_r B N E St go us s0 sur HD.out (.slice a' bj.length c') bj wr hB (by omega) HSj.out HVj.out HBj.out hbl
    obtain ⟨mo,hmo,hmg⟩:=own_or (n:=wr.heap.size) (fun g e=>(hpl g e).2) (by omega)
    go_wp2_with fail
    refine kc.mono ?_
    rintro e w2 ⟨hg2,⟨h5,rfl⟩ | ⟨ra,rc,o,k,ra',rc',j',h5,rfl,h6,h7,h8⟩⟩
    ·have HLl:Hid (rd ds=l):=by have:=HLj.out; rw [drT_none h5,List.append_nil] at this; exact this
     have HW2:Hid (Parts w2 w2.heap.size (.slice pa ds.length pc) ds):=(HW.out.gb hg2 (by omega) HF.out).parts (by omega)
     have HG2:Hid (w1.grownBy w2 (some E)):=gb_trans HG.out hg2
     clear kc hg2 h5 HW HLj
     go_wp2
     exact bodyPost_ret (v:=.tuple #[.slice pa ds.length pc,.int .i64 0]) (by simp [results,Tryz.results114,go_sem]) rfl ⟨_,ds,rfl,HLl.out,(HW2.out.keep (ba _ _)).mono (by simp),gb_alloc HG2.out _,HNA.out⟩
    ·have HW2:Hid (Rwd w2 w1.heap.size (.slice pa ds.length pc) ds):=HW.out.gb hg2 (by omega) HF.out
     have HG2:Hid (w1.grownBy w2 (some E)):=gb_trans HG.out hg2
     have HL2:Hid (rd (ds ++ [(.slice ra o.length rc,o,k)]) ++ drT (nxD go s0 sur) (T - (ds ++ [((.slice ra o.length rc,o,k):Tr)]).length) (bj.drop j')=l):=by
      have:=HLj.out
      rw [show T - ds.length=(T - (ds.length + 1)) + 1 by omega,drT_some h5] at this
      simpa [Hid,rd] using this
     have HF2:Hid (Frs w1.heap.size (ds ++ [(.slice ra o.length rc,o,k)])):=HF.out.snoc (fr_of (w:=w2) (B:=w2.heap.size) fun m hm=>h6 m (by omega))
     have hzz:=hg2.size
     have HI2:Hid (Ints w2 w2.heap.size mo (.slice ra o.length rc) o):=h6 mo hmo
     have HV2:Hid (Ints w2 B E (.slice ra' (bj.drop j').length rc') (bj.drop j')):=h7
     have HS2:Hid (St w2 s0):=h8
     have HO2:Hid (Rwd ((w2.alloc (.cells #[.slice ra o.length rc,.int .i64 k] 162)).alloc (.cells #[.slice ra o.length rc,.int .i64 k] 162)) w1.heap.size (.slice pa ds.length pc) ds):=HW2.out.keep (bal (ba _ _) _)
     have HMG:Hid (∀ g,(Value.slice pa ds.length pc).ownBlock=some g→mo=g):=hmg
     obtain ⟨bk,hbk⟩:∃ bk,bj.drop j' = bk:=⟨_,rfl⟩
     have HJ2:Hid (bk=bits.drop (j + j')):=by rw [Hid,← hbk,← HJ.out,List.drop_drop]
     rw [hbk] at HL2 HV2 ⊢
     clear hbk kc hg2 h5 h6 h7 h8 HW HLj hmg HF HSj HVj HBj
     go_wp2_with (at_builtin; refine wpList_append_own_at _ rfl _ _ 149 rfl w1.heap.size 162 i0 (.agg #[.slice none 0 0,.int .i64 0]) 2 32 Tryz.underlying149 hi0 hz0 hz1 hz2 rfl (by decide) _ _ _ rfl HO2.out.1 ⟨w2.heap.size + 1,0,none⟩ 1 1 [.slice ra o.length rc,.int .i64 k] rfl ?q1 ?q2 ?q3 ?q4 ?q5 ?q6 ?_)
     case q1=>rfl
     case q2 =>
      intro j u hj
      match j,hj with
      | 0,hj=>simp at hj; subst hj; simp [go_sem,Addr.add]
      | 1,hj=>simp at hj; subst hj; simp [go_sem,Addr.add]
     case q3=>intro u hu; simp at hu; rcases hu with rfl | rfl <;> rfl
     case q4=>simp [maxLen]; omega
     case q5=>omega
     case q6=>simp; omega
     intro v3 w3 hown3 hgrow hnil hat
     have HW3:Hid (Rwd w3 w1.heap.size v3 (ds ++ [(.slice ra o.length rc,o,k)])):=HO2.out.app hown3 hgrow (by simpa using hat) (HI2.out.at2 (bal (ba _ _) _)) HMG.out
     have hb3:Below w1.heap.size w2 w3:=(((Below.refl w1.heap.size w2).alloc (by omega) _).alloc (by simp; omega) _).grown hgrow (by simp; omega) (owns_block HO2.out.1)
     obtain ⟨a3,c3,rfl⟩:=HW3.out.slice
     have HG3:Hid (w1.grownBy w3 (some E)):=⟨hb3.os.trans HG2.out.os,hb3.tape.trans HG2.out.tape,hb3.output.trans HG2.out.output,Nat.le_trans HG2.out.size hb3.size,fun q hq hne=>(hb3.block q hq).trans (HG2.out.block q hq hne)⟩
     have HS3:Hid (St w3 s0):=HD.out.keep HS2.out (hb3.mono hN) (by omega)
     have HV3:Hid (Ints w3 B E (.slice ra' bk.length rc') bk):=HV2.out.keep (hb3.mono (by omega))
     clear hown3 hgrow hnil hat HO2 HW2
     go_wp2
     go_roundw
     case rel=>exact ⟨j + j',ds ++ [(.slice ra o.length rc,o,k)],ra',rc',by rw [← HJ2.out],by rw [← HJ2.out]; exact HV3,by simp; omega,HW3,HF2,HS3,HG3,by rw [← HJ2.out]; exact HL2⟩
     case measure=>simp [slen]; omega
   ·have HLl:Hid (rd ds=l):=by have:=HLj.out; rw [show T - ds.length=0 by omega] at this; simpa [Hid,drT] using this
    have HW2:Hid (Parts wr wr.heap.size (.slice pa ds.length pc) ds):=HW.out.parts (by omega)
    clear HW HLj hpl
    go_wp2
    exact bodyPost_ret (v:=.tuple #[.slice pa ds.length pc,.int .i64 0]) (by simp [results,Tryz.results114,go_sem]) rfl ⟨_,ds,rfl,HLl.out,HW2.out,HG.out,HNA.out⟩
abbrev RoI:=Int × Int × Int
def RoSt (N E:Nat) (a:Option Addr) (c:Nat) (us:List Tr) (w:World) (s:RoI):Prop :=
 Rob w E (.slice a us.length c) (tot (rd us)) s.1 s.2.1 s.2.2∧Rop w N E a c us∧(2≤us.length→0≤s.2.2∧s.2.2 < tot (rd us)∧Nd (tot (rd us)) s.2.2 (rd us) s.1)
def roGo (l:List Pt) (s:RoI):Nx:=fun bits=>roT (tot l) l s.2.2 s.1 s.2.1 bits
theorem roN_is {l:List Pt}:nxD (roGo l) (0,0,1) (roSure l)=roN l:=by
 funext bits
 match l with
 | []=>rfl
 | [p]=>rfl
 | _ :: _ :: _=>rfl
theorem RoSt.start {N E:Nat} {a:Option Addr} {c:Nat} {us:List Tr} {w:World} (hD:Dis (rd us)) (h:Rob w E (.slice a us.length c) (tot (rd us)) 0 0 1) (hP:Rop w N E a c us):RoSt N E a c us w (0,0,1):=by
 refine ⟨h,hP,fun h2=>?_⟩
 have h3:=hD.less (by rw [rd_len]; exact h2)
 refine ⟨by simp,?_,Nd.start h3⟩
 cases us with
 | nil=>simp at h2
 | cons t us =>
  have h4:=h3 t.2 (by simp [rd])
  have h5:=hD.pos t.2 (by simp [rd])
  simp only
  omega
theorem ro_drw (N E:Nat) (a:Option Addr) (c:Nat) (us:List Tr) (hD:Dis (rd us)) (hE:E < N):Drw N E 191 190 (RoSt N E a c us) (roGo (rd us)) (fun s=>s.2.1) (0,0,1) (roSure (rd us)) where
 keep:=fun h hb _=>⟨h.1.keep hb hE,h.2.1.keep hb,h.2.2⟩
 lt:=hE
 nil:=fun s=>rfl
 u0:=rfl
 sure:=fun w s h hN=>roSure_any N E a c us _ s.1 s.2.1 s.2.2 w h.1 h.2.1 hN
 feed:=by
  intro hs w s b h hN hb hu
  have hl:2≤us.length:=by
   rcases Nat.lt_or_ge us.length 2 with h1 | h1
   ·match us,hs,hD,h1 with
    | [],_,hD,_=>exact absurd rfl hD.ne
    | [t],hs,_,_=>simp [roSure,rd] at hs
   ·exact h1
  obtain ⟨nd,u,pl⟩:=s
  obtain ⟨q1,q2,q3⟩:=h.2.2 hl
  simp only at q1 q2 q3 hu
  have hT:=hD.tpos
  have hT2:=hD.le
  have hnd:=q3.le (by omega)
  have hfw:=h.2.1.few
  have hk:∀ t∈us,0≤t.2.2∧t.2.2≤1073741824:=fun t ht=>by
   have:=hD.less (by rw [rd_len]; exact hl) t.2 (List.mem_map_of_mem (f:=fun t:Tr=>t.2) ht)
   omega
  rw [rd_len] at hnd
  have hbit:bits .and .i64 b 1=b:=by
   rcases (show b=0∨b=1 by omega) with rfl | rfl <;> decide
  refine (roFeed_any N E a c us (tot (rd us)) nd u pl b b w h.1 h.2.1 hN hl ⟨hT,hT2⟩ ⟨q1,q2⟩ hk ⟨hu.1,by omega⟩ ⟨hnd.1,by omega⟩ hb hbit).mono ?_
  rintro e w' ⟨hg,⟨rfl,k1,k2⟩ | ⟨a',c',o,rfl,k0,k1,k2⟩⟩
  ·have hlen:=List.getElem?_eq_none_iff.1 k1
   refine ⟨hg,.inl ⟨rfl,(2 * nd + b - (lvT (tot (rd us)) pl (rd us)).length,u + 1,2 * pl % tot (rd us)),⟨k2,h.2.1.gb hg,fun _=>?_⟩,rfl,fun l=>?_⟩⟩
   ·refine ⟨Int.emod_nonneg _ (by omega),Int.emod_lt_of_pos _ (by omega),q3.next (by omega) hb (by omega)⟩
   ·simp only [roGo,roT,k1]
  ·refine ⟨hg,.inr ⟨a',c',o,rfl,k0,RoSt.start hD k2 (h.2.1.gb hg),fun l=>?_⟩⟩
   simp only [roGo,roT,k1]
def rollsT (l:List Pt) (bits:List Int) (times:Int):List Pt × Int:=if (ownT l).2=0 then drawsT (roN l) bits times else ([],(ownT l).2)
set_option maxHeartbeats 1000000 in
theorem rolls_any (B nb:Nat) (v u:Value) (ts:List Tr) (bits:List Int) (times:Int) (w:World) (hB:B≤w.heap.size) (hp:Parts w B v ts) (hv:Ints w B nb u bits) (ht:-9223372036854775808≤times∧times≤9223372036854775807) (l:List Pt) (er:Int) (hr:rollsT (rd ts) bits times=(l,er)) :
  Calls Tryz.prog 55 #[v,u,.int .i64 times] w (AnsP l er w):=by
 obtain ⟨⟨l0,e0⟩,ho⟩:∃ x,ownT (rd ts)=x:=⟨_,rfl⟩
 have kn:=new_any B v ts w hB hp l0 e0 ho
 have HV:Hid (Ints w B nb u bits):=hv
 have HO:Hid (ownT (rd ts)=(l0,e0)):=ho
 have HR:Hid (rollsT (rd ts) bits times=(l,er)):=hr
 obtain ⟨a,c,rfl,hc,hl,_⟩:=hp
 obtain ⟨ua,uc,rfl,_⟩:=hv
 clear hr ho
 go_enter Tryz.func55,Tryz.ntmps55
 go_wp2_with fail
 refine kn.mono ?_
 rintro e w1 ⟨hb1,⟨h0,rfl⟩ | ⟨rfl,E,ra,rc,us,rfl,h1,h2,h3,h4⟩⟩
 ·have h0':(e0 == 0)=false:=by simpa using h0
  have h:=HR.out
  simp only [rollsT,HO.out,if_neg h0,Prod.mk.injEq] at h
  obtain ⟨rfl,rfl⟩:=h
  clear kn
  go_wp2
  exact bodyPost_ret (v:=.tuple #[.slice none 0 0,.int .i64 e0]) (by simp [results,Tryz.results55,go_sem]) rfl ⟨.slice none 0 0,[],rfl,rfl,parts_nil _ _,hb1,NewAt.nil _⟩
 ·obtain ⟨_,hD⟩:=ownT_ok HO.out
  have h:drawsT (nxD (roGo (rd us)) (0,0,1) (roSure (rd us))) bits times=(l,er):=by
   have h:=HR.out
   simp only [rollsT,HO.out,if_true] at h
   rw [roN_is,h1]
   exact h
  rw [← h1] at hD h2
  have hs1:=hb1.size
  have kd:=draws_r w.heap.size w1.heap.size E (RoSt w1.heap.size E ra rc us) (roGo (rd us)) (fun s=>s.2.1) (0,0,1) (roSure (rd us)) (ro_drw w1.heap.size E ra rc us hD h2.lt) (.slice ua bits.length uc) bits times w1 (by omega) (Nat.le_refl _) (RoSt.start hD h2 h3) ((HV.out.at hB hb1).mono hB (.inr (by omega))) ht l er h
  clear kn h h2 h3 hD h1
  go_wp2_with fail
  refine kd.mono ?_
  rintro e w2 ⟨v2,ds,rfl,k1,k2,k3,k4⟩
  obtain ⟨a2,c2,rfl,_⟩:=id k2
  have K:Hid (rd ds=l∧Parts w2 w2.heap.size (.slice a2 ds.length c2) ds∧Below w.heap.size w w2∧NewAt w.heap.size (.slice a2 ds.length c2) ds):=⟨k1,k2,hb1.trans (below_gb k3 h4 hs1),k4.mono hs1⟩
  clear kd k1 k2 k3 k4
  go_wp2
  exact bodyPost_ret (v:=.tuple #[.slice a2 ds.length c2,.int .i64 er]) (by simp [results,Tryz.results55,go_sem]) rfl ⟨_,ds,rfl,K.out.1,K.out.2.1,K.out.2.2.1,K.out.2.2.2⟩
theorem roT_take {T:Int} {l:List Pt} {pl nd u0:Int} {bits:List Int} {o:List Int} {u:Int} {r:List Int} (h:roT T l pl nd u0 bits=some (o,u,r)) :
  ∃ j:Nat,u=u0 + j∧j≤bits.length∧roT T l pl nd u0 (bits.take j)=some (o,u,[]):=by
 induction bits generalizing pl nd u0 with
 | nil=>cases h
 | cons b bits ih =>
  simp only [roT] at h
  cases e:(lvT T pl l)[(2 * nd + b).toNat]? with
  | some o' =>
   rw [e] at h
   simp only [Option.some.injEq,Prod.mk.injEq] at h
   obtain ⟨rfl,rfl,rfl⟩:=h
   exact ⟨1,rfl,by simp,by simp [roT,e]⟩
  | none =>
   rw [e] at h
   obtain ⟨j,h1,h2,h3⟩:=ih h
   refine ⟨j + 1,by rw [h1]; omega,by simp; omega,?_⟩
   rw [List.take_succ_cons]
   simp only [roT,e]
   exact h3
theorem roN_take {l:List Pt} {bits:List Int} {o:List Int} {u:Int} {r:List Int} (h:roN l bits=some (o,u,r)) :
  ∃ j:Nat,u=j∧j≤bits.length∧∃ r',roN l (bits.take j)=some (o,u,r'):=by
 match l,h with
 | [p],h =>
  simp only [roN,Option.some.injEq,Prod.mk.injEq] at h
  obtain ⟨rfl,rfl,rfl⟩:=h
  exact ⟨0,rfl,Nat.zero_le _,[],rfl⟩
 | [],h =>
  obtain ⟨j,h1,h2,h3⟩:=roT_take (show roT _ _ _ _ _ bits=_ from h)
  exact ⟨j,by omega,h2,[],h3⟩
 | _ :: _ :: _,h =>
  obtain ⟨j,h1,h2,h3⟩:=roT_take (show roT _ _ _ _ _ bits=_ from h)
  exact ⟨j,by omega,h2,[],h3⟩
end Go.Proofs.YtpmioeamdhdokaaGreat
namespace Go.Proofs.YtpmioeamdhdokaaGreat
open Go.RowKit Go.Shelf Go.Proofs.YtpmioeamdhdokaaGreat.Ds
attribute [local go_sem] Oper.semAt_some
attribute [local go_sem] Oper.semAt_some
attribute [local go_sem] Oper.semAt_some
end Go.Proofs.YtpmioeamdhdokaaGreat
namespace Go.Proofs.YtpmioeamdhdokaaGreat
open Go.RowKit Go.Shelf
section
variable {F:Fence} {n:Nat} {P:Program} {ops:Array Oper} {C:World→Prop}
end
end Go.Proofs.YtpmioeamdhdokaaGreat
namespace Go.Proofs.YtpmioeamdhdokaaGreat
open Go.RowKit Go.Shelf Go.Proofs.YtpmioeamdhdokaaGreat.Ds
attribute [local go_sem] Oper.semAt_some
end Go.Proofs.YtpmioeamdhdokaaGreat
namespace Go.Proofs.YtpmioeamdhdokaaGreat
open Go.RowKit Go.Proofs.YtpmioeamdhdokaaGreat.Ds
theorem wt_mem {l:List Pt} (hr:Rise l) {p:Pt} (hp:p∈l):wt l p.1=p.2:=by
 obtain ⟨i,hi,h⟩:=List.getElem_of_mem hp
 exact wt_at hr (by rw [List.getElem?_eq_getElem hi,h])
end Go.Proofs.YtpmioeamdhdokaaGreat
namespace Go.Proofs.Rt
def Ok (q:Rat):Prop:=0≤q.num∧q.num≤mx∧(q.den:Int)≤mx
theorem right_rat {u d:Int} (h:rightB u d=true):∃ q:Rat,q.num=u∧(q.den:Int)=d∧Ok q:=by
 unfold rightB at h
 obtain ⟨h1,h2,h3,h4,h5⟩:=of_decide_eq_true h
 refine ⟨Rat.divInt u d,?_,?_,?_⟩
 ·rw [num_of u d h1 h3,h5]; simp
 ·rw [den_of u d h1 h3,h5]; simp
 ·unfold Ok
  rw [num_of u d h1 h3,den_of u d h1 h3,h5]
  simp
  exact ⟨h1,h2,h4⟩
theorem den1 (q:Rat):(1:Int)≤q.den:=by have:=q.den_pos; omega
theorem rat_right (q:Rat) (h:Ok q):rightB q.num q.den=true:=by
 unfold rightB
 obtain ⟨h1,h2,h3⟩:=h
 refine decide_eq_true ⟨h1,h2,den1 q,h3,?_⟩
 exact q.reduced
theorem tell_of (q:Rat) (h:Ok q):tell q=(q.num,(q.den:Int),0):=by
 unfold tell
 obtain ⟨h1,h2,h3⟩:=h
 rw [if_neg (by omega),if_neg (by omega)]
theorem mkT_tell (u d:Int) (hd:1≤d):mkT u d=tell (Rat.divInt u d):=by
 unfold mkT
 by_cases c:u < 0
 ·rw [if_pos (.inl c)]
  unfold tell
  have:¬ 0≤Rat.divInt u d:=by
   rw [Rat.divInt_nonneg_iff_of_pos_right (by omega)]; omega
  have:¬ 0≤(Rat.divInt u d).num:=fun h=>this (Rat.num_nonneg.1 h)
  rw [if_pos (by omega)]
 ·rw [if_neg (by omega)]
theorem num_div_den (q:Rat):Rat.divInt q.num q.den=q:=Rat.num_divInt_den q
theorem times_rat (x y:Rat) (hx:Ok x) (hy:Ok y):timesT x.num x.den y.num y.den=tell (x * y):=by
 unfold timesT
 rw [if_pos ⟨rat_right x hx,rat_right y hy⟩,mkT_tell _ _ (by have:=Int.mul_le_mul (den1 x) (den1 y) (by omega) (by have:=den1 x; omega); omega),← Rat.divInt_mul_divInt,num_div_den,num_div_den]
end Go.Proofs.Rt
namespace Go.Proofs.YtpmioeamdhdokaaGreat
open Go.RowKit Go.Proofs.YtpmioeamdhdokaaGreat.Ds
theorem wt_pos_mem {l:List Pt} {o:List Int} (h:0 < wt l o):∃ p∈l,p.1=o:=by
 by_cases hc:∃ p∈l,p.1=o
 ·exact hc
 ·have:wt l o=0:=wt_none fun p hp e=>hc ⟨p,hp,e⟩
  omega
theorem mem_wt_pos {l:List Pt} (hr:Rise l) (hp:Pos l) {p:Pt} (h:p∈l):0 < wt l p.1:=by
 rw [wt_mem hr h]; exact hp p h
def grow (g:Int) (l:List Pt):List Pt:=l.map fun p=>(p.1,g * p.2)
theorem grow_wt (g:Int) (l:List Pt) (o:List Int):wt (grow g l) o=g * wt l o:=by
 induction l with
 | nil=>simp [grow]
 | cons p l ih =>
  simp only [grow,List.map_cons] at *
  rw [wt_cons,wt_cons,ih,Int.mul_add]
  simp only
  split <;> simp
end Go.Proofs.YtpmioeamdhdokaaGreat
namespace Go.Proofs.YtpmioeamdhdokaaGreat
open Go.Proofs.YtpmioeamdhdokaaGreat.Ds
def lossE (u d:Int):Int:=if Rt.rightB u d=true then (if u < d then 3 else 0) else 2
def gk (u d:Int) (R k:Nat):Int:=d ^ k * u ^ (R - k)
def hwt (u d:Int) (R a i:Nat):Int:=gk u d R (i - a + (a - i)) * (if i=0∨i=R then u else u - d)
def hidL (u d lo:Int) (R a:Nat):List Pt:=(List.range (R + 1)).map fun (i:Nat)=>([lo + (i:Int)],hwt u d R a i)
def plcT (lo hi n:Int):Int:=min (max n lo) hi
def hideT (u d lo hi n:Int):List Pt × Int :=
 if lossE u d≠0 then ([],lossE u d)
 else if ¬ (-1073741824≤lo∧lo≤hi∧hi≤1073741824∧hi - lo≤64) then ([],3)
 else if lo=hi then makeT [([lo],1)]
 else if 1073741824 < (u + d) * u ^ (hi - lo).toNat then ([],4)
 else makeT (hidL u d lo (hi - lo).toNat (plcT lo hi n - lo).toNat)
def lostT (u d n:Int):Int × Int × Int:=if lossE u d≠0 then (0,0,lossE u d) else Rt.powT u d n
theorem loss_ok {u d:Int} (h:lossE u d=0):Rt.rightB u d=true∧d≤u∧1≤d∧u≤1073741824:=by
 unfold lossE at h
 split at h
 ·rename_i h1
  have:=Rt.right_bd h1
  split at h
  ·omega
  ·exact ⟨h1,by omega,by omega,by omega⟩
 ·omega
theorem pow_pos' {u:Int} (h:1≤u) (n:Nat):1≤u ^ n:=by
 have:=Int.pow_pos (n:=u) (m:=n) (by omega)
 omega
theorem pow_mono {u:Int} (h:1≤u) {n m:Nat} (hnm:n≤m):u ^ n≤u ^ m:=by
 obtain ⟨k,rfl⟩:=Nat.le.dest hnm
 rw [Int.pow_add]
 have h1:=pow_pos' h n
 have h2:=pow_pos' h k
 have:=Int.mul_le_mul_of_nonneg_left h2 (show 0≤u ^ n by omega)
 omega
theorem pow_le {u d:Int} (hd:0≤d) (h:d≤u) (n:Nat):d ^ n≤u ^ n:=by
 induction n with
 | zero=>simp
 | succ n ih =>
  rw [Int.pow_succ,Int.pow_succ]
  exact Int.mul_le_mul ih h hd (Int.pow_nonneg (by omega))
theorem pow_nn {d:Int} (hd:0≤d) (n:Nat):0≤d ^ n:=Int.pow_nonneg hd
theorem gk_zero (u d:Int) (R:Nat):gk u d R 0=u ^ R:=by simp [gk]
theorem gk_step (u d:Int) {R k:Nat} (h:k < R):u * gk u d R (k + 1)=d * gk u d R k:=by
 unfold gk
 rw [show R - k=(R - (k + 1)) + 1 from by omega,Int.pow_succ,Int.pow_succ]
 simp only [Int.mul_comm,Int.mul_left_comm,Int.mul_assoc]
theorem gk_far (u d:Int) {R k:Nat} (s:Nat) (h:k + s≤R):u ^ s * gk u d R (k + s)=d ^ s * gk u d R k:=by
 induction s with
 | zero=>simp
 | succ s ih =>
  have h1:=ih (by omega)
  have h2:=gk_step u d (R:=R) (k:=k + s) (by omega)
  rw [Int.pow_succ,Int.pow_succ,← Nat.add_assoc,Int.mul_assoc,h2,← Int.mul_assoc,Int.mul_right_comm,h1,Int.mul_right_comm]
theorem gk_nn {u d:Int} (hu:0≤u) (hd:0≤d) (R k:Nat):0≤gk u d R k:=Int.mul_nonneg (pow_nn hd _) (pow_nn hu _)
theorem gk_anti {u d:Int} (hd:1≤d) (h:d≤u) {R k s:Nat} (hk:k + s≤R):gk u d R (k + s)≤gk u d R k:=by
 have h1:=gk_far u d s hk
 have h2:=pow_le (show 0≤d by omega) h s
 have h3:=gk_nn (show 0≤u by omega) (show 0≤d by omega) R k
 have h4:u ^ s * gk u d R (k + s)≤u ^ s * gk u d R k:=by rw [h1]; exact Int.mul_le_mul_of_nonneg_right h2 h3
 exact Int.le_of_mul_le_mul_left h4 (by have:=pow_pos' (show 1≤u by omega) s; omega)
end Go.Proofs.YtpmioeamdhdokaaGreat
namespace Go.Proofs.YtpmioeamdhdokaaGreat
open Go.RowKit Go.Proofs.YtpmioeamdhdokaaGreat.Ds
theorem cut_one (l:List Pt):cut 1 l=l:=by
 unfold cut
 conv=>rhs; rw [← List.map_id l]
 exact List.map_congr_left fun p _=>by simp
theorem Dis.own {l:List Pt} (h:Dis l):ownT l=(l,0):=by
 have hg:gath l=l:=gath_is (fun p hp=>Int.le_of_lt (h.pos p hp)) h.rise h.pos fun _=>rfl
 have hm:makeT l=(l,0):=by
  unfold makeT lowT
  rw [if_pos h.ok,hg,if_neg h.ne,h.one]
  simp only [Int.natCast_one,cut_one]
  rw [if_neg (by have:=h.le; have:=h.few; omega)]
 unfold ownT
 rw [hm]
 simp
theorem grow_tot (g:Int) (l:List Pt):tot (grow g l)=g * tot l:=by
 induction l with
 | nil=>simp [grow]
 | cons p l ih =>
  simp only [grow,List.map_cons] at *
  rw [tot_cons,tot_cons,ih,Int.mul_add]
theorem make_told {k l':List Pt} (h:makeT k=(l',0)):Dis l'∧∃ g:Int,0 < g∧(∀ o,wt k o=g * wt l' o)∧tot k=g * tot l':=by
 unfold makeT at h
 split at h
 ·rename_i hok
  have hp:=gath_pos (all_okP hok).1
  obtain ⟨a,b,c,d,e,f⟩:=lowT_ok hp (gath_rise k) h
  have hne:gath k≠[]:=by intro h0; rw [h0] at h; simp [lowT] at h
  have hl:l' = cut (dv (gath k)) (gath k):=by
   unfold lowT at h
   rw [if_neg hne] at h
   split at h
   ·simp at h
   ·simp at h; exact h.symm
  have hg:grow (dv (gath k)) l' = gath k:=by rw [hl]; exact cut_back fun p hp=>dv_dvd_int hp
  have hd:=dv_pos hp hne
  have hw:∀ o,wt k o=(dv (gath k):Int) * wt l' o:=fun o=>by rw [← grow_wt,hg,gath_wt]
  refine ⟨⟨a,b,c,d,?_,e,f⟩,dv (gath k),by omega,hw,by rw [← grow_tot,hg,gath_tot]⟩
  rw [List.all_eq_true]
  intro p hpm
  have h1:0 < wt k p.1:=by rw [hw]; exact Int.mul_pos (by omega) (mem_wt_pos a b hpm)
  obtain ⟨q,hq,he⟩:=wt_pos_mem h1
  have h2:=List.all_eq_true.1 hok q hq
  have h3:=Pos.le_tot (Nn.of_pos b) hpm
  have h4:=b p hpm
  unfold okP at *
  rw [Bool.and_eq_true] at *
  exact ⟨by simp; omega,he▸h2.2⟩
 ·simp at h
set_option maxHeartbeats 400000 in
theorem right_any (u d:Int) (b:Bool) (hb:Rt.rightB u d=b) (w:World) :
  Calls Tryz.prog 174 #[rv u d] w fun e w'=>e=.returned (.bool b)∧Below w.heap.size w w':=by
 have HB:Hid (Rt.rightB u d=b):=hb
 clear hb
 by_cases c:0≤u∧u≤1073741824∧1≤d∧d≤1073741824
 ·obtain ⟨c1,c2,c3,c4⟩:=c
  obtain ⟨x,rfl⟩:=Int.eq_ofNat_of_zero_le c1
  obtain ⟨y,rfl⟩:=Int.eq_ofNat_of_zero_le (show 0≤d by omega)
  have hbb:b=(((Nat.gcd x y:Nat):Int) == 1):=by
   rw [← HB.out]; unfold Rt.rightB; rw [Bool.eq_iff_iff]; simp [Rt.mx]; omega
  subst hbb
  clear HB
  go_enter Tryz.func174,Tryz.ntmps174
  go_wp2_with (go_at_call 74; refine (divisor_any _ _ (by omega) (by omega) _).mono ?_; rintro e w' ⟨rfl,hbl⟩)
  go_ret
  exact ⟨rfl,bt (ba _ _) hbl⟩
 ·have hbb:b=false:=by
   rw [← HB.out]; unfold Rt.rightB Rt.mx; exact decide_eq_false (fun h=>c ⟨h.1,h.2.1,h.2.2.1,h.2.2.2.1⟩)
  subst hbb
  clear HB
  by_cases c1:u < 0
  ·clear c
   go_enter Tryz.func174,Tryz.ntmps174
   go_wp2
   go_ret
   exact ⟨rfl,ba _ _⟩
  by_cases c2:1073741824 < u
  ·clear c
   go_enter Tryz.func174,Tryz.ntmps174
   go_wp2
   go_ret
   exact ⟨rfl,ba _ _⟩
  by_cases c3:d < 1
  ·clear c
   go_enter Tryz.func174,Tryz.ntmps174
   go_wp2
   go_ret
   exact ⟨rfl,ba _ _⟩
  ·have c4:1073741824 < d:=by omega
   clear c
   go_enter Tryz.func174,Tryz.ntmps174
   go_wp2
   go_ret
   exact ⟨rfl,ba _ _⟩
theorem timesLit (a b c d:Int) (p q:Nat) (w:World) (a1:0≤a) (a2:a≤1073741824) (b1:1≤b) (b2:b≤1073741824) (c1:0≤c) (c2:c≤1073741824) (d1:1≤d) (d2:d≤1073741824)
  (k1:w.cell? ⟨p,0,none⟩=some (.int .i64 a)) (k2:w.cell? ⟨p,1,none⟩=some (.int .i64 b)) (k3:w.cell? ⟨q,0,none⟩=some (.int .i64 c)) (k4:w.cell? ⟨q,1,none⟩=some (.int .i64 d)) :
  Calls Tryz.prog 228 #[.pointer (some ⟨p,0,none⟩),.pointer (some ⟨q,0,none⟩)] w fun x w'=>x=.returned (.tuple #[.int .i64 (a * c),.int .i64 (b * d)])∧Below w.heap.size w w':=by
 obtain ⟨p1,p2⟩:=Rt.mul_bd a1 a2 c1 c2
 obtain ⟨p3,p4⟩:=Rt.mul_bd (a:=b) (b:=d) (by omega) b2 (by omega) d2
 obtain ⟨p5,p6⟩:=Rt.mul_bd (a:=a) (b:=d) (by omega) a2 (by omega) d2
 obtain ⟨p7,p8⟩:=Rt.mul_bd (a:=c) (b:=b) (by omega) c2 (by omega) b2
 obtain ⟨p9,p10⟩:=Rt.mul_bd (a:=b) (b:=c) (by omega) b2 (by omega) c2
 go_enter Tryz.func228,Tryz.ntmps228
 go_wp2
 go_quiet (fail)
 go_wp2
 go_ret2
 exact ⟨rfl,below_drewN (Below.refl _ _) _⟩
set_option maxHeartbeats 400000 in
theorem timesReckon (a b c d n m e:Int) (r1:Rt.rightB a b=true) (r2:Rt.rightB c d=true) (hm:Rt.mkT (a * c) (b * d)=(n,m,e)) (p q:Nat) (w:World) (hp:p < w.heap.size) (hq:q < w.heap.size)
  (k1:w.cell? ⟨p,0,none⟩=some (.int .i64 a)) (k2:w.cell? ⟨p,1,none⟩=some (.int .i64 b)) (k3:w.cell? ⟨q,0,none⟩=some (.int .i64 c)) (k4:w.cell? ⟨q,1,none⟩=some (.int .i64 d)) :
  Calls Tryz.prog 227 #[rv a b,rv c d,.func (.func 228) #[] #[.pointer (some ⟨p,0,none⟩),.pointer (some ⟨q,0,none⟩)]] w fun x w'=>x=.returned (.tuple #[rv n m,.int .i64 e])∧Below w.heap.size w w':=by
 have HM:Hid (Rt.mkT (a * c) (b * d)=(n,m,e)):=hm
 have R1:Hid (Rt.rightB a b=true):=r1
 have R2:Hid (Rt.rightB c d=true):=r2
 obtain ⟨a1,a2,b1,b2⟩:=Rt.right_bd r1
 obtain ⟨c1,c2,d1,d2⟩:=Rt.right_bd r2
 clear r1 r2 hm
 obtain ⟨p1,p2⟩:=Rt.mul_bd a1 a2 c1 c2
 obtain ⟨p3,p4⟩:=Rt.mul_bd (a:=b) (b:=d) (by omega) b2 (by omega) d2
 obtain ⟨p5,p6⟩:=Rt.mul_bd (a:=a) (b:=d) (by omega) a2 (by omega) d2
 obtain ⟨p7,p8⟩:=Rt.mul_bd (a:=c) (b:=b) (by omega) c2 (by omega) b2
 obtain ⟨p9,p10⟩:=Rt.mul_bd (a:=b) (b:=c) (by omega) b2 (by omega) c2
 go_enter Tryz.func227,Tryz.ntmps227
 go_wp2_with fail
 refine (right_any a b true R1.out _).mono ?_
 rintro e1 w1 ⟨rfl,hb1⟩
 obtain ⟨hc1,hf1⟩:=bcell hb1
 go_wp2_with fail
 refine (right_any c d true R2.out _).mono ?_
 rintro e2 w2 ⟨rfl,hb2⟩
 have F2:=bt hb1 hb2
 clear hc1 hf1 hb1 hb2
 have G2:=bt (bal (bal (ba _ _) _) _) F2
 go_wp2_with fail
 refine (timesLit a b c d p q _ a1 a2 b1 b2 c1 c2 d1 d2 ((G2.cell (p:=⟨p,0,none⟩) hp).trans k1) ((G2.cell (p:=⟨p,1,none⟩) hp).trans k2) ((G2.cell (p:=⟨q,0,none⟩) hq).trans k3) ((G2.cell (p:=⟨q,1,none⟩) hq).trans k4)).mono ?_
 rintro e3 w3 ⟨rfl,hb3⟩
 go_wp2_with fail
 refine (rmake_any (a * c) (b * d) n m e (by omega) (by omega) HM.out _).mono ?_
 rintro e4 w4 ⟨rfl,hb4⟩
 have F4:=bt (bt F2 hb3) hb4
 have G4:=bt (bal (bal (ba _ _) _) _) F4
 clear F2 hb3 hb4 G2
 obtain ⟨hc4,hf4⟩:=bcell F4
 go_wp2_with fail
 exact bodyPost_ret (v:=.tuple #[rv n m,.int .i64 e]) (by simp [results,Tryz.results227,go_sem,hc4]) rfl ⟨rfl,bs (bs G4 (by simp; omega) _) (by simp; omega) _⟩
set_option maxHeartbeats 400000 in
theorem reckonNo (a b c d:Int) (f:Value) (h:Rt.rightB a b=false∨(Rt.rightB a b=true∧Rt.rightB c d=false)) (w:World) :
  Calls Tryz.prog 227 #[rv a b,rv c d,f] w fun x w'=>x=.returned (.tuple #[rv 0 0,.int .i64 2])∧Below w.heap.size w w':=by
 rcases h with r1 | ⟨r1,r2⟩
 ·have R1:Hid (Rt.rightB a b=false):=r1
  clear r1
  go_enter Tryz.func227,Tryz.ntmps227
  go_wp2_with fail
  refine (right_any a b false R1.out _).mono ?_
  rintro e1 w1 ⟨rfl,hb1⟩
  have G1:=bt (bal (bal (ba _ _) _) _) hb1
  obtain ⟨hc1,hf1⟩:=bcell hb1
  go_wp2_with fail
  exact bodyPost_ret (v:=.tuple #[rv 0 0,.int .i64 2]) (by simp [results,Tryz.results227,go_sem,hc1]) rfl ⟨rfl,bs (bs G1 (by simp; omega) _) (by simp; omega) _⟩
 ·have R1:Hid (Rt.rightB a b=true):=r1
  have R2:Hid (Rt.rightB c d=false):=r2
  clear r1 r2
  go_enter Tryz.func227,Tryz.ntmps227
  go_wp2_with fail
  refine (right_any a b true R1.out _).mono ?_
  rintro e1 w1 ⟨rfl,hb1⟩
  obtain ⟨hc1,hf1⟩:=bcell hb1
  go_wp2_with fail
  refine (right_any c d false R2.out _).mono ?_
  rintro e2 w2 ⟨rfl,hb2⟩
  have F2:=bt hb1 hb2
  clear hc1 hf1 hb1 hb2
  have G2:=bt (bal (bal (ba _ _) _) _) F2
  obtain ⟨hc1,hf1⟩:=bcell F2
  go_wp2_with fail
  exact bodyPost_ret (v:=.tuple #[rv 0 0,.int .i64 2]) (by simp [results,Tryz.results227,go_sem,hc1]) rfl ⟨rfl,bs (bs G2 (by simp; omega) _) (by simp; omega) _⟩
set_option maxHeartbeats 400000 in
theorem times_any (a b c d n m e:Int) (h:Rt.timesT a b c d=(n,m,e)) (w:World) :
  Calls Tryz.prog 175 #[rv a b,rv c d] w fun x w'=>x=.returned (.tuple #[rv n m,.int .i64 e])∧Below w.heap.size w w':=by
 have H:Hid (Rt.timesT a b c d=(n,m,e)):=h
 clear h
 by_cases r:Rt.rightB a b=true∧Rt.rightB c d=true
 ·obtain ⟨r1,r2⟩:=r
  have hm:Rt.mkT (a * c) (b * d)=(n,m,e):=by rw [← H.out]; unfold Rt.timesT; rw [if_pos ⟨r1,r2⟩]
  have HM:Hid (Rt.mkT (a * c) (b * d)=(n,m,e)):=hm
  have R1:Hid (Rt.rightB a b=true):=r1
  have R2:Hid (Rt.rightB c d=true):=r2
  clear hm r1 r2 H
  go_enter Tryz.func175,Tryz.ntmps175
  go_wp2_with fail
  refine (timesReckon a b c d n m e R1.out R2.out HM.out w.heap.size (w.heap.size + 1) _ (by simp <;> omega) (by simp <;> omega) (by simp [go_sem]) (by simp [go_sem]) (by simp [go_sem]) (by simp [go_sem])).mono ?_
  rintro e1 w1 ⟨rfl,hb1⟩
  have G1:=bt (bal (bal (ba _ _) _) _) hb1
  obtain ⟨hc1,hf1⟩:=bcell hb1
  go_wp2_with fail
  exact bodyPost_ret (v:=.tuple #[rv n m,.int .i64 e]) (by simp [results,Tryz.results175,go_sem,hc1]) rfl ⟨rfl,bs (bs G1 (by simp; omega) _) (by simp; omega) _⟩
 ·have hr:(0,0,2)=(n,m,e):=by rw [← H.out]; unfold Rt.timesT; rw [if_neg r]
  simp only [Prod.mk.injEq] at hr
  obtain ⟨rfl,rfl,rfl⟩:=hr
  have r':Rt.rightB a b=false∨(Rt.rightB a b=true∧Rt.rightB c d=false):=by
   cases h1:Rt.rightB a b <;> cases h2:Rt.rightB c d <;> simp_all
  have R:Hid (Rt.rightB a b=false∨(Rt.rightB a b=true∧Rt.rightB c d=false)):=r'
  clear r r' H
  go_enter Tryz.func175,Tryz.ntmps175
  go_wp2_with fail
  refine (reckonNo a b c d _ R.out _).mono ?_
  rintro e1 w1 ⟨rfl,hb1⟩
  have G1:=bt (bal (bal (ba _ _) _) _) hb1
  obtain ⟨hc1,hf1⟩:=bcell hb1
  go_wp2_with fail
  exact bodyPost_ret (v:=.tuple #[rv 0 0,.int .i64 2]) (by simp [results,Tryz.results175,go_sem,hc1]) rfl ⟨rfl,bs (bs G1 (by simp; omega) _) (by simp; omega) _⟩
end Go.Proofs.YtpmioeamdhdokaaGreat
