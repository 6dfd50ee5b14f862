import Derived.Test.YtpmioeamdhdokaaGreatQq35
import Derived.Laws.AppendOwnNone
namespace Go.Proofs.YtpmioeamdhdokaaGreat
open Go.RowKit Go.Proofs.YtpmioeamdhdokaaGreat.Ds
open Go.Proofs.YtpmioeamdhdokaaGreat.K (Cl)
open Go.Proofs.YtpmioeamdhdokaaGreat.K.P (HSt Keeps keeps_below keeps_set keeps_refl HouM HouK DskM HdoP doesT stepH Ev Sn quV priT TwoB W64 liesT row_keeps row_lt row_base row_gb row_same enc infocloneI_any)
theorem infow2:(Tryz.prog.info? 2).map (fun i=>(i.zero,i.size,i.bytes))=some (some (.int .i64 0),1,8):=by kernel_rfl
theorem infos42:(Tryz.prog.info? 42).map (fun i=>(i.zero,i.size,i.bytes))=some (some (.agg #[.int .i64 0,.slice none 0 0,.int .i64 0,.int .i64 0,.int .i64 0,.slice none 0 0]),6,80):=by kernel_rfl
def HplP (l:List K.Ds.Col) (ts:List (List Int)) (words:List Int) (xs:List Stp) (w:World):Ending→World→Prop:=fun e w' =>
 ∃ W0 bd bw a c hv ov s os M G,e=.returned (.tuple #[ov,.slice a words.length c,.bool true])∧runP l ts ⟨words,-1,false,false,[]⟩ xs=(s,os)∧Below w.heap.size w w'∧HuI W0 w' (w.heap.size + 1) bd bw a c l ts hv ov s os M G
theorem dsk_new {W:World} {v:Value} {words:List Int} {base:Nat} (h:W.ownsRow base 2 1 v words.length (words.map (.int .i64))) (hne:v≠.slice none 0 0):∃ a c bw,v=.slice a words.length c∧a=some ⟨bw,0,none⟩∧base≤bw∧bw < W.heap.size∧DskM (W.alloc (.cells #[v,.int .i64 (-1),.bool false] 88)) W.heap.size bw a c words (-1):=by
 rcases h.2 with ⟨h1,_⟩ | ⟨g,cap,cur,rfl,hb,hc,hn,hm,hs,hx⟩
 ·exact absurd h1 hne
 ·have hlt:=(Array.getElem?_eq_some_iff.1 hc).1
  refine ⟨_,cap,g,rfl,rfl,hb,hlt,?_⟩
  have hbx:=Bx.new W [.slice (some ⟨g,0,none⟩) words.length cap,.int .i64 (-1),.bool false] 88 rfl
  refine ⟨hbx 0 _ rfl,hbx 1 _ rfl,hbx 2 _ rfl,fun _=>rfl,fun i x hi=>?_,hn,by omega⟩
  have hcl:Cl W g i (.int .i64 x):=by
   refine ⟨?_,?_,hlt⟩
   ·have h2:(words.map (Value.int .i64))[i]? = some (.int .i64 x):=by rw [List.getElem?_map,hi]; rfl
    have h3:=h.cells (g:=g) rfl i _ h2
    have e:(⟨g,0,none⟩:Addr).add i=⟨g,i,none⟩:=by unfold Addr.add; split <;> simp_all
    rwa [e] at h3
   ·simp [World.frozen?,hc]
  exact hcl.at (ba _ _)
theorem wpList_append_any {P:Program} {w:World} {ops:Array Oper} {rest:List Oper} {o:Oper} {a:Act} {Q:Exit→Act→World→Prop} (hgd:o.guard=none) (s x:Operand) (t:TypeId)
  (ho:o.op=.call { callee:=.builtin .append,args:=#[s,x],argTypes:=#[t,t] })
  (base:Nat) (e:TypeId) (i:TypeInfo) (z:Value) (size bytes:Nat) (ht:P.underlying t=some (.slice e)) (hi:P.info? e=some i) (hz:i.zero=some z)
  (hsize:i.size=size) (hby:i.bytes=bytes) (hzs:z.cells.size=size) (hsz:0 < size)
  (v:Value) (n:Nat) (xs:List Value) (hs:a.eval s=v) (hown:w.ownsRow base e size v n xs)
  (wa:Option Addr) (m c:Nat) (news:List Value) (hx:a.eval x=.slice wa m c) (h0:wa=none→m=0∧c=0) (hl:news.length=m * size) (hnews:∀ ad,wa=some ad→∀ j u,news[j]? = some u→w.cell? (ad.add j)=some u) (h1:∀ u∈news,u.oneCell' = true)
  (h63:n + m≤maxLen) (hbytes:(n + m) * bytes≤140737488355328) (hbase:base≤w.heap.size) (hne:v≠.slice none 0 0)
  (h:∀ v' w',w'.ownsRow base e size v' (n + m) (xs ++ news)→w.grownBy w' v.ownBlock→v'≠.slice none 0 0→wpList P ops Q rest (a.put o.dst v') w'):wpList P ops Q (o :: rest) a w:=by
 cases wa with
 | none =>
  obtain ⟨rfl,rfl⟩:=h0 rfl
  obtain rfl:news=[]:=List.length_eq_zero_iff.1 (by omega)
  exact wpList_append_own_none hgd s x t ho base e i size ht hi v n xs hs hown hx (h v w (by simpa using hown) ⟨rfl,rfl,rfl,Nat.le_refl _,fun _ _ _=>rfl⟩ hne)
 | some ad=>exact wpList_append_own w hgd s x t ho base e i z size bytes ht hi hz hsize hby hzs hsz v n xs hs hown ad m c news hx hl (hnews ad rfl) h1 h63 hbytes hbase fun v' w' h2 h3 h4=>h v' w' h2 h3 (fun c=>hne (h4.1 c).1)
theorem does_dl (s:HSt) (e:K.P.En):(doesT s e).1.disk.length=s.disk.length:=by
 unfold doesT
 repeat' split
 all_goals first | rfl | exact K.P.putT_len (d1:=_) (l1:=_) (ok:=_) rfl
theorem step_dl {α:Type} (wr:Int) (s:HSt) (e:Ev α):(stepH wr s e).1.disk.length=s.disk.length:=by
 cases e <;> simp only [stepH] <;> (repeat' split) <;> first | rfl | exact does_dl _ _
theorem stepP_dl (l:List K.Ds.Col) (ts:List (List Int)) (s:HSt) (x:Stp):(stepP l ts s x).1.disk.length=s.disk.length:=by
 unfold stepP
 split
 ·simp
 ·exact step_dl _ _ _
theorem runP_dl (l:List K.Ds.Col) (ts:List (List Int)):∀ (xs:List Stp) (s:HSt),(runP l ts s xs).1.disk.length=s.disk.length
 | [],_=>rfl
 | x :: xs,s=>by simp only [runP]; rw [runP_dl l ts xs,stepP_dl]
theorem seen0 (w:World) (G:Nat→Prop) (er:Int):SeenM w G ⟨er,none,[]⟩ [.int .i64 er,.slice none 0 0,.int .i64 0,.int .i64 0,.int .i64 0,.slice none 0 0] :=
 ⟨_,_,_,_,_,rfl,.inl ⟨rfl,rfl,rfl,rfl,rfl⟩,⟨rfl,.inl ⟨rfl,rfl⟩⟩,fun g hg=>by cases hg⟩
open Go.Proofs.YtpmioeamdhdokaaGreat.K (Cl)
open Go.Proofs.YtpmioeamdhdokaaGreat.K.P (HSt Keeps keeps_below keeps_set keeps_refl HouM HouK DskM HdoP doesT stepH Ev Sn quV priT TwoB W64 liesT row_keeps row_lt row_base row_gb row_same enc infocloneI_any putT appD recW wrs nrm doT sgW nmW nmB octs bigE bigE_lt octs_lt nmB_lt)
theorem sg_i64 {n:Nat} (h:n < 18446744073709551616):I64 (sgW n):=by
 unfold sgW I64
 split <;> omega
theorem nm_w64 (s:ByteArray):W64 (nmW (nmB s)):=by
 intro x hx
 unfold nmW at hx
 obtain ⟨w,_,rfl⟩:=List.mem_map.1 hx
 have h:=bigE_lt (octs_lt (nmB_lt s) w)
 have h8:(octs (nmB s) w).length=8:=by simp [octs]
 rw [h8] at h
 exact sg_i64 (by simpa using h)
theorem right_bd {u d:Int} (h:Rt.rightB u d=true):I64 u∧I64 d:=by
 unfold Rt.rightB Rt.mx at h
 simp only [decide_eq_true_eq] at h
 unfold I64
 omega
theorem rec_w64 {done:List K.P.En} {e:K.P.En} (h:doT done (nrm e)=0):W64 (recW (nrm e)):=by
 obtain ⟨h1,h2,h3,h4⟩:=K.P.bad_ok (K.P.doT_bad h).1
 have hb:=right_bd h4.1
 have hp:I64 (nrm e).2.2.1:=by
  by_cases c:e.1=3
  ·have e1:nrm e=e:=by simp [nrm,c]
   rw [e1] at h ⊢
   unfold doT at h
   split at h
   ·exact absurd h (by assumption)
   ·split at h
    ·cases h
    ·split at h
     ·rw [if_neg (by omega)] at h; cases h
     ·rw [if_neg (by omega)] at h
      split at h
      ·cases h
      ·rename_i c3
       unfold I64
       omega
  ·have e1:(nrm e).2.2.1=0:=by simp [nrm,c]
   rw [e1]; exact ⟨by omega,by omega⟩
 intro x hx
 simp only [recW,List.mem_append,List.mem_cons,List.not_mem_nil,or_false] at hx
 rcases hx with (rfl | rfl | rfl | rfl | rfl) | hx
 ·omega
 ·omega
 ·exact hp
 ·exact hb.1
 ·exact hb.2
 ·exact nm_w64 _ x hx
theorem app_w64 {disk:List Int} (h:W64 disk):∀ {ws:List (Nat × Int)},(∀ p∈ws,I64 p.2)→W64 (appD disk ws):=by
 intro ws
 induction ws generalizing disk with
 | nil=>intro _; exact h
 | cons p ws ih =>
  intro hw
  refine ih (disk:=disk.set p.1 p.2) ?_ (fun q hq=>hw q (by simp [hq]))
  intro x hx
  rcases List.mem_or_eq_of_mem_set hx with hx | rfl
  ·exact h x hx
  ·exact hw p (by simp)
theorem wrs_w64 {n:Nat} {e:K.P.En} (h:W64 (recW e)):∀ p∈wrs n e,I64 p.2:=by
 intro p hp
 simp only [wrs,List.mem_cons,List.mem_append,List.mem_map,List.mem_range,List.not_mem_nil,or_false] at hp
 rcases hp with rfl | ⟨j,hj,rfl⟩ | rfl
 ·exact ⟨by simp,by simp⟩
 ·refine h _ ?_
  have hl:=K.P.recW_len e
  rw [List.getD_eq_getElem?_getD,List.getElem?_eq_getElem (by omega)]
  simp
 ·exact ⟨by simp,by simp⟩
theorem put_left {disk:List Int} {ws:List (Nat × Int)}:∀ {left:Int},I64 left→I64 (putT disk left ws).2.1:=by
 induction ws generalizing disk with
 | nil=>intro l h; exact h
 | cons p ws ih =>
  intro l h
  obtain ⟨a,x⟩:=p
  simp only [putT]
  split
  ·exact ⟨by simp,by simp⟩
  ·refine ih ?_
   unfold I64 at h ⊢
   split <;> omega
theorem does_64 {s:HSt} {e:K.P.En} (h:W64 s.disk) (hl:I64 s.left):W64 (doesT s e).1.disk∧I64 (doesT s e).1.left:=by
 unfold doesT
 split
 ·exact ⟨h,hl⟩
 ·split
  ·exact ⟨h,hl⟩
  ·rename_i c
   have hr:=rec_w64 (by simpa using c)
   obtain ⟨d',l',ok,hp⟩:∃ d' l' ok,putT s.disk s.left (wrs s.done.length (nrm e))=(d',l',ok):=⟨_,_,_,rfl⟩
   obtain ⟨m,h1,h2,_⟩:=K.P.put_cases hp
   have hd:W64 d':=by
    rw [h2]
    exact app_w64 h (fun p hp=>wrs_w64 hr p (List.mem_of_mem_take hp))
   have hle:I64 l':=by
    have:=put_left (disk:=s.disk) (ws:=wrs s.done.length (nrm e)) hl
    rw [hp] at this
    exact this
   rw [hp]
   split <;> exact ⟨hd,hle⟩
theorem does_up {s:HSt} {e:K.P.En}:(doesT s e).1.up=s.up:=by
 unfold doesT
 repeat' split
 all_goals rfl
theorem ask_64 {α:Type} {s s':HSt} {p:Int} {e:K.P.En} {tl:Option α} {y:Sn α} (hs:stepH 0 s (.ask p e tl)=(s',y)) (h:W64 s.disk) (hl:I64 s.left):W64 s'.disk∧I64 s'.left∧s'.up=s.up:=by
 obtain ⟨d1,d2⟩:=does_64 (e:=e) h hl
 have d3:=does_up (s:=s) (e:=e)
 simp only [stepH] at hs
 repeat' split at hs
 all_goals
  simp only [Prod.mk.injEq] at hs
  obtain ⟨rfl,_⟩:=hs
  first | exact ⟨h,hl,rfl⟩ | exact ⟨d1,d2,d3⟩
theorem ask_shape {α:Type} (s:HSt) (p:Int) (e:K.P.En) (tl:Option α):∃ s' er t2,stepH 0 s (.ask p e tl)=(s',⟨er,t2,[]⟩):=by
 simp only [stepH]
 repeat' split
 all_goals exact ⟨_,_,_,rfl⟩
theorem ask_told {α:Type} {s s':HSt} {p er:Int} {e:K.P.En} {tl t2:Option α} (h:stepH 0 s (.ask p e tl)=(s',⟨er,t2,[]⟩)) (hu:s.up=true):(er≠0→t2=none)∧(er=0→t2=tl):=by
 simp only [stepH,hu] at h
 rw [if_neg (by simp)] at h
 split at h
 ·simp only [Prod.mk.injEq,Sn.mk.injEq] at h
  obtain ⟨_,rfl,rfl,_⟩:=h
  exact ⟨fun _=>rfl,fun h=>by cases h⟩
 ·split at h
  ·rename_i hp
   simp only [Prod.mk.injEq,Sn.mk.injEq] at h
   obtain ⟨_,rfl,rfl,_⟩:=h
   exact ⟨fun _=>rfl,fun h=>absurd h hp⟩
  ·split at h
   ·rename_i hp
    simp only [Prod.mk.injEq,Sn.mk.injEq] at h
    obtain ⟨_,rfl,rfl,_⟩:=h
    exact ⟨fun _=>rfl,fun h=>absurd h hp⟩
   ·split at h
    ·simp only [Prod.mk.injEq,Sn.mk.injEq] at h
     obtain ⟨_,rfl,rfl,_⟩:=h
     exact ⟨fun _=>rfl,fun h=>by cases h⟩
    ·simp only [Prod.mk.injEq,Sn.mk.injEq] at h
     obtain ⟨_,rfl,rfl,_⟩:=h
     exact ⟨fun h=>absurd rfl h,fun _=>rfl⟩
theorem fst_col {l:List K.Ds.Col} {ts:List (List Int)} (h:K.Ds.wroE l ts=0):∃ nm0 sz0,l[0]? = some (nm0,sz0)∧nam0 l=nm0:=by
 have h1:=(K.Ds.colE_ok (K.Ds.wroE_ok h).1).1
 cases l with
 | nil=>simp at h1
 | cons c l=>exact ⟨c.1,c.2,rfl,rfl⟩
theorem step_ask {l:List K.Ds.Col} {ts:List (List Int)} {S s':HSt} {x:Stp} {nm0:ByteArray} {z ez lu ld e1 er:Int} {ls:List (List Pt)} {t2:Option (List Int × Nat)} (h3:x.act=3) (hw:K.Ds.wroE l ts=0) (hn:nam0 l=nm0) (hz:K.prtV (K.prt l x.q nm0)=(z,ez)) (hA:ansT x.u x.d x.lo x.hi l ts x.q=(ls,lu,ld,e1))
  (hs:stepH 0 S (.ask (preT e1 x.bits) (priT x.pn z ez lu ld) (drwT ls x.bits 0 []))=(s',⟨er,t2,[]⟩)):stepP l ts S x=(s',⟨er,t2.map fun t=>(t.1,t.2,lu,ld),[]⟩):=by
 unfold stepP evT
 rw [if_neg (fun h=>by omega),if_neg (by omega),if_neg (by omega),if_neg (by omega),if_pos h3]
 unfold askE
 rw [hn,hz,hA,hw,step_map,hs]
theorem st_eta {s:HSt} (h1:s.up=true) (h2:s.brk=false):(⟨s.disk,s.left,true,false,s.done⟩:HSt)=s:=by
 cases s; simp only at h1 h2; subst h1 h2; rfl
theorem HuI.call {W0 wr w' w3:World} {N0 bd bw:Nat} {a:Option Addr} {c:Nat} {l:List K.Ds.Col} {ts:List (List Int)} {hv hv' ov:Value} {s s':HSt} {xs:List (Sn Tol)} {M G:Nat→Prop} (h:HuI W0 wr N0 bd bw a c l ts hv ov s xs M G)
  (hk:Keeps wr w' (fun k=>M k∨k=bd∨k=bw)) (hd:DskM w' bd bw a c s'.disk s'.left) (h64:W64 s'.disk) (hi:I64 s'.left) (M' G':Nat→Prop) (hM:∀ k,M' k→M k∨wr.heap.size + 2≤k∧k < w'.heap.size) (hG:∀ k,G' k→G k∨wr.heap.size + 2≤k∧k < w'.heap.size∧¬ M' k) (hGG:∀ k,G k→G' k)
  (dn:s'.up=false→hv' = .pointer none) (up:s'.up=true→K.Ds.wroE l ts=0∧∃ bh,hv' = .pointer (some ⟨bh,0,none⟩)∧M' bh∧(s'.brk=false→HouM w' M' bh bd l ts s'.done)∧(s'.brk=true→Cl w' bh 5 (.bool true))) (hw3:Keeps w' w3 (fun k=>k=wr.heap.size + 1)) :
  HuI W0 w3 N0 bd bw a c l ts hv' ov s' xs M' G':=by
 have hbd:=h.ds.c0.lt
 have hbw:=h.bs.2.2.1
 have hs3:=hw3.size
 have hs':=hk.size
 have hne:∀ k,M' k→¬ k=wr.heap.size + 1:=fun k m e=>by
  rcases hM k m with m | m
  ·have:=(h.mm k m).2.1; omega
  ·omega
 have hk3:Keeps wr w3 (fun k=>M k∨k=bd∨k=bw) :=
  ⟨hw3.os.trans hk.os,hw3.tape.trans hk.tape,hw3.output.trans hk.output,by omega,fun k k1 k2=>(hw3.block k (by omega) (by omega)).trans (hk.block k k1 k2)⟩
 refine h.step hk3 (hd.kp hw3 (by omega) (by omega)) h64 hi M' G' (fun k m=>(hM k m).imp id (fun m=>by omega)) (fun k m=>(hG k m).imp id (fun m=>⟨by omega,by omega,m.2.2⟩)) hGG dn (fun u=>?_)
 obtain ⟨e,bh,q1,q2,q3,q4⟩:=up u
 exact ⟨e,bh,q1,q2,fun x=>(q3 x).kp hw3 hne,fun x=>K.P.cl_kp (q4 x) hw3 (hne bh q2)⟩
end Go.Proofs.YtpmioeamdhdokaaGreat
