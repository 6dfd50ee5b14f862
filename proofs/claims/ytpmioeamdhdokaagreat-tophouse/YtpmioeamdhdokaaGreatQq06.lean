import Derived.Test.YtpmioeamdhdokaaGreatQq05
import Derived.ArgAppend
open Go.Proofs.Tryz
set_option linter.unusedSimpArgs false
set_option maxHeartbeats 16000000
set_option maxRecDepth 100000
namespace Go.Proofs.YtpmioeamdhdokaaGreat
variable {B M b cap g i k lo':Nat} {w w' wr:World} {v:Value}
section
open Go.RowKit Ds
structure Good (K S:List Pt):Prop where
 rise:cZ K
 pos:zZ K
 wts:∀ o,wt K o=wt S o
 tots:tot K=tot S
 whence:∀ q∈K,∃ s∈S,s.1=q.1
theorem Good.nil:Good [] []:=⟨List.Pairwise.nil,by intro p h;simp at h,fun _=>rfl,rfl,by intro p h;simp at h⟩
theorem Good.zero {K S:List Pt}{p:Pt}(h:Good K S)(hp:p.2=0):Good K (S++[p]):=by
 refine⟨h.rise,h.pos,fun o=>?_,?_,fun q hq=>?_⟩
 ·rw[vL,h.wts,cJ,hp];simp
 ·rw[aK,h.tots,kZ,hp];simp
 ·obtain⟨s,hs,e⟩:=h.whence q hq;exact⟨s,by simp[hs],e⟩
theorem Good.add {K S:List Pt}{q p:Pt}(h:Good (K++[q]) S)(hp:0<p.2)(he:q.1=p.1):Good (K++[(q.1,q.2+p.2)]) (S++[p]):=by
 have hr:=anQ.1 h.rise;refine⟨anQ.2 ⟨hr.1,by simp,fun a ha b hb=>?_⟩,fun r hr2=>?_,fun o=>?_,?_,fun r hr2=>?_⟩
 ·simp at hb;subst hb;exact hr.2.2 a ha q (by simp)
 ·rcases gV.1 hr2 with h1|h1
  ·exact h.pos r (by simp[h1])
  ·simp at h1;subst h1;have:=h.pos q (by simp);show 0<q.2+p.2;omega
 ·have:=h.wts o
  simp only[vL,cJ,b8X,he] at *
  split <;> simp_all <;> omega
 ·have:=h.tots
  simp only[aK,kZ,apQ] at *
  omega
 ·rcases gV.1 hr2 with h1|h1
  ·obtain⟨s,hs,e⟩:=h.whence r (by simp[h1]);exact⟨s,by simp[hs],e⟩
  ·simp at h1;subst h1;exact⟨p,by simp,he.symm⟩
theorem Good.app {K S:List Pt}{p:Pt}(h:Good K S)(hp:0<p.2)(hl:∀ q∈K,tJ q.1 p.1):Good (K++[p]) (S++[p]):=by
 refine⟨anQ.2 ⟨h.rise,by simp,fun a ha b hb=>?_⟩,fun r hr2=>?_,fun o=>?_,?_,fun r hr2=>?_⟩
 ·simp at hb;subst hb;exact hl a ha
 ·rcases gV.1 hr2 with h1|h1
  ·exact h.pos r h1
  ·simp at h1;subst h1;exact hp
 ·rw[vL,vL,h.wts]
 ·rw[aK,aK,h.tots]
 ·rcases gV.1 hr2 with h1|h1
  ·obtain⟨s,hs,e⟩:=h.whence r h1;exact⟨s,by simp[hs],e⟩
  ·simp at h1;subst h1;exact⟨r,by simp,rfl⟩
theorem Good.below {K S:List Pt}{q p:Pt}(h:Good (K++[q]) S)(hs:∀ s∈S,¬ tJ p.1 s.1)(hne:q.1≠p.1):∀ r∈K++[q],tJ r.1 p.1:=by
 have hq:tJ q.1 p.1:=by
  obtain⟨s,h1,h2⟩:=h.whence q (by simp);have:=hs s h1;rw[h2] at this;rcases yT q.1 p.1 with c|c|c
  ·exact c
  ·exact absurd c hne
  ·exact absurd c this
 intro r hr;rcases gV.1 hr with h1|h1
 ·exact uF ((anQ.1 h.rise).2.2 r h1 q (by simp)) hq
 ·simp at h1;subst h1;exact hq
theorem ceZ {l k:List Pt}(h:l.Perm k):tot l=tot k:=by
 induction h with
 | nil=>rfl
 | cons x _ ih=>simp only[kZ,ih]
 | swap x y l=>simp only[kZ];omega
 | trans _ _ h1 h2=>exact h1.trans h2
theorem zZ.le_tot {l:List Pt}(h:Nn l){p:Pt}(hp:p∈l):p.2<=tot l:=by
 induction l with
 | nil=>cases hp
 | cons q l ih =>
  have h2:Nn l:=fun r hr=>h r (by simp[hr]);have h3:=h2.tot_nn;have h4:=h q (by simp);rw[kZ];rcases eX.1 hp with rfl|hp
  ·omega
  ·have:=ih h2 hp;omega
theorem ceJ (ts:List Tr)(i:Nat):rd (ts.take i)=(rd ts).take i:=by simp[rd,List.map_take]
theorem cK (a b:List Tr):rd (a++b)=rd a++rd b:=by simp[rd]
theorem gW {a b:List Tr}(h:a.Perm b):(rd a).Perm (rd b):=h.map _
theorem iW {α:Type}{l k:List α}(h:l.drop i=k.drop i):l.drop (i+1)=k.drop (i+1):=by
 rw[<-List.drop_drop (i:=1) (j:=i),<-List.drop_drop (i:=1) (j:=i),h]
theorem lW {α:Type}{l k:List α}(h:l.drop i=k.drop i):l[i]? = k[i]?:=by
 have:=congrArg (fun l=>l[0]?) h;simpa using this
theorem cfQ (p:Option Addr)(cap:Nat)(fv:Value)(w:World):Calls prog 221 #[.slice p 0 cap,fv] w fun e w'=>e=.returned (.tuple #[])/\w' = w :=
 AnyF.slices_SortFunc_none { Tryz.sortP with } p cap fv w
theorem Row.parts {vs:List Tr}(h:Row w b 0 vs)(hB:B<=w.heap.size)(hI:∀ t∈vs,jQ w B B t.1 t.2.1)(hk:k<=vs.length)(hc:k<=cap)(hl:k<=1073741824) :
  fQ w w.heap.size (.slice (some ⟨b,0,none⟩) k cap) (vs.take k):=by
 have e:(vs.take k).length=k:=by simp;omega
 refine⟨some ⟨b,0,none⟩,cap,by rw[e],by omega,by omega,fun t ht=>(hI t (jH ht)).mono hB (.inr (by omega)),fun _=>⟨b,0,rfl,h.lt,fun i t ht=>h.cells i t ?_⟩⟩;rw[qL] at ht;split at ht
 ·exact ht
 ·cases ht
theorem lT (B n1 n2:Nat)(u v:Value)(k l:Int)(x y:List Int)(w:World)(hB:B<=w.heap.size)(hx:jQ w B n1 u x)(hy:jQ w B n2 v y)(r:Int)(hr:nX x y=r) :
  Calls prog 44 #[.agg #[u,.int .i64 k],.agg #[v,.int .i64 l]] w fun e w'=>e=.returned (.int .i64 r)/\Below w.heap.size w w' :=
 (wN B n1 n2 u v k l x y w hB hx hy r hr).mono fun _ _ ⟨he,_,_,hw⟩=>⟨he,hw▸bal (ba _ _) _⟩
def arJ (us:List Tr):Prop:=us.Pairwise (fun a b=>¬ tJ b.2.1 a.2.1)
structure Gl (w:World) (B g cap:Nat) (us:List Tr) (i k:Nat) (vs:List Tr) (wr:World):Prop where
 ki:k<=i
 len:vs.length=us.length
 rest:vs.drop i=us.drop i
 good:Good (rd (vs.take k)) (rd (us.take i))
 row:Row wr g 0 vs
 ints:∀ t∈vs,jQ w B B t.1 t.2.1
 bel:Below w.heap.size w wr
theorem Gl.zero {us vs:List Tr}{t:Tr}(h:Gl w B g cap us i k vs wr)(ht:us[i]? = some t)(h0:t.2.2=0)(hb:Below wr.heap.size wr w'):Gl w B g cap us (i+1) k vs w':=by
 refine⟨by have:=h.ki;omega,h.len,iW h.rest,?_,h.row.keep hb,h.ints,bt h.bel hb⟩;rw[gZ,ht,cK];exact h.good.zero h0
theorem Gl.last {us vs:List Tr}(h:Gl w B g cap us i (k+1) vs wr)(hi:i<=us.length) :
  ∃ q,vs[k]? = some q/\vs.take (k+1)=vs.take k++[q]:=by
 have:=h.ki;have:=h.len;obtain⟨q,hq⟩:=cX (l:=vs) (i:=k) (by omega);exact⟨q,hq,by rw[gZ,hq];rfl⟩
theorem Gl.sum {us vs:List Tr}{t q:Tr}(h:Gl w B g cap us i (k+1) vs wr)(hn:Nn (rd us))(ht:us[i]? = some t)(hq:vs[k]? = some q)(hM:tot (rd us)<=4611686018427387904) :
  0<=q.2.2+t.2.2/\q.2.2+t.2.2<=4611686018427387904:=by
 have e:vs.take (k+1)=vs.take k++[q]:=by rw[gZ,hq];rfl
 have h1:q.2.2<=tot (rd (vs.take (k+1))):=zZ.le_tot (Nn.of_pos h.good.pos) (p:=q.2) (by rw[e,cK];simp[rd]);have h2:0<q.2.2:=h.good.pos q.2 (by rw[e,cK];simp[rd]);have h3:=h.good.tots;have h4:=aW (pV ht);have h5:=hn.tot_take_le (i+1);have h6:0<=t.2.2:=hn t.2 (rQ (pV ht));rw[ceJ us i] at h3;omega
theorem Gl.add {us vs:List Tr}{t q:Tr}(h:Gl w B g cap us i (k+1) vs wr)(hi:i<us.length)(ht:us[i]? = some t)(h0:0<t.2.2)(hq:vs[k]? = some q)(he:q.2.1=t.2.1)
  (hrow:Row w' g 0 (vs.set k (q.1,q.2.1,q.2.2+t.2.2))) (hb:Below w.heap.size w w'):Gl w B g cap us (i+1) (k+1) (vs.set k (q.1,q.2.1,q.2.2+t.2.2)) w':=by
 have hk:=h.ki;have hl:=h.len;refine⟨by omega,by simpa using hl,?_,?_,hrow,fun u hu=>?_,hb⟩
 ·rw[List.drop_set_of_lt (by omega)]
  exact iW h.rest
 ·rw[gM _ (by omega),gZ (i:=i),ht,cK,cK]
  have hg:=h.good;rw[show vs.take (k+1)=vs.take k++[q] by rw[gZ,hq];rfl,cK] at hg;exact hg.add (q:=q.2) (p:=t.2) h0 he
 ·rcases uK hu with h1|rfl
  ·exact h.ints u h1
  ·exact h.ints q (rQ hq)
theorem Gl.app {us vs:List Tr}{t:Tr}(h:Gl w B g cap us i k vs wr)(hi:i<us.length)(hs:us.Pairwise (fun a b=>¬ tJ b.2.1 a.2.1))(ht:us[i]? = some t)(h0:0<t.2.2)
  (hne:∀ q,0<k->vs[k - 1]? = some q->q.2.1≠t.2.1) (hrow:Row w' g 0 (vs.set k t)) (hb:Below w.heap.size w w'):Gl w B g cap us (i+1) (k+1) (vs.set k t) w':=by
 have hk:=h.ki;have hl:=h.len;have hi2:=(cQ.1 ht).2;refine⟨by omega,by simpa using hl,?_,?_,hrow,fun u hu=>?_,hb⟩
 ·rw[List.drop_set_of_lt (by omega)]
  exact iW h.rest
 ·rw[gM _ (by omega),gZ (i:=i),ht,cK,cK]
  refine h.good.app h0 ?_
  show ∀ q∈rd (vs.take k),tJ q.1 t.2.1
  have hsort:∀ s∈rd (us.take i),¬ tJ t.2.1 s.1:=by
   intro s hs2;obtain⟨u,hu,rfl⟩:=wX.1 hs2;obtain⟨j,hj,hju⟩:=List.mem_iff_getElem.1 hu;have hj2:j<i:=by simp at hj;omega
   have:=List.pairwise_iff_getElem.1 hs j i (by omega) hi hj2;rw[hi2] at this;rw[List.getElem_take] at hju;rw[hju] at this;exact this
  cases k with
  | zero=>simp[rd]
  | succ k =>
   obtain⟨q,hq⟩:=cX (l:=vs) (i:=k) (by omega);have hg:=h.good;rw[show vs.take (k+1)=vs.take k++[q] by rw[gZ,hq];rfl,cK] at hg ⊢;exact hg.below (q:=q.2) (p:=t.2) hsort (hne q (by omega) hq)
 ·rcases uK hu with h1|rfl
  ·exact h.ints u h1
  ·refine h.ints _ (rQ (i:=i) ?_)
   rw[lW h.rest];exact ht
theorem cfX (B:Nat)(v:Value)(ts:List Tr)(w:World)(hB:B<=w.heap.size)(hp:fQ w B v ts)(hn:Nn (rd ts))(hM:tot (rd ts)<=4611686018427387904)(r:List Pt)(hr:gath (rd ts)=r) :
  Calls prog 152 #[v] w fun e w'=>∃ v' us,e=.returned v'/\Own w' w.heap.size v' us/\rd us=r/\Below w.heap.size w w'/\sQ w.heap.size us:=by
 have HP:Hid (fQ w B v ts):=hp;obtain⟨i0,hi0,hz0,hz1,hz2⟩:=rJ fM;obtain⟨a,c,rfl,hc,hl,hI,_⟩:=hp;have HH:Hid (Nn (rd ts)/\tot (rd ts)<=4611686018427387904/\gath (rd ts)=r/\∀ t∈ts,jQ w B B t.1 t.2.1):=⟨hn,hM,hr,hI⟩;clear hn hM hr hI;go_enter func152,ntmps152;go_wp2_with fail;refine(cdZ B _ ts w hB HP.out).mono ?_;rintro e w1 ⟨v',rfl,hb1,⟨h0,rfl⟩|⟨g,cap,rfl,hcap,hg,hrow⟩⟩
 ·subst h0
  have hr0:r=[]:=by rw[<-HH.out.2.2.1];rfl
  have HR0:Hid (r=[]):=hr0;have kc:=fun W=>arZ 0 (.slice none 0 0) [] W (kQ _) (bK W 0);clear hr0 HP HH;go_wp2_with (go_at_call 221;refine(cfQ _ _ _ _).mono ?_;rintro e w2 ⟨rfl,rfl⟩)
  go_loopw [4,16] (fun kv s wr=>kv=.slice none 0 0/\s=.int .i64 0/\wr=w2) (fun _ _ _=>0)
  case atStart=>exact⟨rfl,rfl,rfl⟩
  case round =>
   obtain⟨rfl,rfl,rfl⟩:=hrel;go_wp2_with fail;refine(kc _).mono ?_;rintro e w3 ⟨v',us,rfl,hO,hrd,hb3,hfr⟩;obtain⟨b',o',c',rfl,hO'⟩:=hO;have HO:Hid (Own w3 w.heap.size (.slice (some ⟨b',o',none⟩) us.length c') us):=Own.mono ⟨b',o',c',rfl,hO'⟩ hb1.size;have HD:Hid (rd us=r):=by rw[Hid,hrd,HR0.out];rfl
   have HB:Hid (Below w.heap.size w w3):=bt hb1 hb3;have HFR:Hid (sQ w.heap.size us):=hfr.mono hb1.size;clear hO' hrd hb3 hb1 kc hfr;go_wp2;go_ret;exact⟨_,us,rfl,HO.out,HD.out,HB.out,HFR.out⟩
 have HI1:∀ t∈ts,jQ w1 B B t.1 t.2.1:=fun t ht=>(HH.out.2.2.2 t ht).at hB hb1;have hsort:=ceQ B g cap ts w1 (by omega) hrow HI1 hl;have HS:Hid (Calls prog 221 #[.slice (some ⟨g,0,none⟩) ts.length cap,.func (.func 44) #[] #[]] w1 fun e w'=>e=.returned (.tuple #[])/\∃ us,us.Perm ts/\arJ us/\Row w' g 0 us/\Below g w1 w'):=hsort;clear hsort HI1 hrow;go_wp2_with fail;refine HS.out.mono ?_;rintro e w2 ⟨rfl,us,hperm,hsrt,hrow,hb2⟩;have hul:us.length=ts.length:=hperm.length_eq;have hbw:Below w.heap.size w w2:=hb1.trans (hb2.mono hg)
 have HQ:Hid (us.Perm ts/\arJ us/\Nn (rd us)/\tot (rd us)<=4611686018427387904) :=
  ⟨hperm,hsrt,fun p hp=>HH.out.1 p ((gW hperm).mem_iff.1 hp),by rw[ceZ (gW hperm)];exact HH.out.2.1⟩
 have HG0:Hid (Gl w B g cap us 0 0 us w2):=⟨vQ _,rfl,rfl,by simpa [rd] using Good.nil,hrow,fun t ht=>HH.out.2.2.2 t (hperm.mem_iff.1 ht),hbw⟩;rw[<-hul] at hcap hl ⊢;clear hperm hsrt hrow hb2 HS hbw HP hb1;go_wp2
 go_loopw [4,16] (fun kv s wr=>∃ (i k:Nat) (vs:List Tr),kv=.slice (some ⟨g,0,none⟩) k cap/\s=.int .i64 (i:Int)/\i<=us.length/\Gl w B g cap us i k vs wr) (fun _ s _=>us.length - (intOf s).toNat)
 case atStart=>exact⟨0,0,us,rfl,rfl,kQ _,HG0.out⟩
 case round =>
  obtain⟨i,k,vs,rfl,rfl,hiu,hG⟩:=hrel;have hki:=hG.ki;have hvl:=hG.len;have HG:Hid (Gl w B g cap us i k vs wr):=hG;have hlt:=hG.row.lt;by_cases h1:i<us.length
  ·obtain⟨⟨s,xs,kw⟩,hs⟩:=cX h1
   have hsv:vs[i]? = some (s,xs,kw):=by rw[lW hG.rest];exact hs
   obtain⟨sa,sc,he,_⟩:=hG.ints _ (rQ hsv);simp only at he;subst he;obtain⟨c1,c2⟩:=hG.row.cells i _ hsv;simp only[xZ] at c1 c2;have HT:Hid (us[i]? = some (.slice sa xs.length sc,xs,kw)):=hs;have hw0:0<=kw:=HQ.out.2.2.1 (xs,kw) (rQ (pV hs));clear hs hsv hG;by_cases h0:kw=0
   ·subst h0
    go_wp2
    go_roundw
    case rel=>exact⟨i+1,k,vs,rfl,by go_num,h1,HG.out.zero HT.out rfl (ba _ _)⟩
    case measure=>simp[intOf];omega
   ·have h0':(kw == 0)=false:=by simp[h0]
    have hw1:0<kw:=by omega
    obtain⟨W,hW⟩:∃ W,wr.alloc (.cells #[.slice sa xs.length sc,.int .i64 kw] 82)=W:=⟨_,rfl⟩;have HW:Hid (Below wr.heap.size wr W):=hW▸ba wr _;have hWs:W.heap.size=wr.heap.size+1:=by rw[<-hW];simp
    have p1:W.cell? ⟨wr.heap.size,0,none⟩=some (.slice sa xs.length sc):=by rw[<-hW];simp[go_sem]
    have p2:W.cell? ⟨wr.heap.size,1,none⟩=some (.int .i64 kw):=by rw[<-hW];simp[go_sem]
    have HIp:Hid (jQ w B B (.slice sa xs.length sc) xs):=HG.out.ints (.slice sa xs.length sc,xs,kw) (rQ (i:=i) (by rw[lW HG.out.rest];exact HT.out));cases k with
    | zero =>
     go_wp2_with fail;clear hW;go_quiet (fail);obtain⟨W3,hW3⟩:∃ W3,W.drewN nq=W3:=⟨_,rfl⟩;have HB3:Hid (Below wr.heap.size wr W3):=hW3▸below_drewN HW.out nq;have q1:W3.cell? ⟨wr.heap.size,0,none⟩=some (.slice sa xs.length sc):=by rw[<-hW3];exact p1
     have q2:W3.cell? ⟨wr.heap.size,1,none⟩=some (.int .i64 kw):=by rw[<-hW3];exact p2
     rw[hW3];clear hW3 p1 p2;have HR3:Hid (Row W3 g 0 vs):=HG.out.row.keep HB3.out;have hg3:=HR3.out.lt;go_wp2_with (at_builtin;refine wpList_append_arg _ rfl (.tmp 47) (.tmp 49) 65 rfl 82 i0 (.agg #[.slice none 0 0,.int .i64 0]) 2 32 underlying65 hi0 hz0 hz1 hz2 rfl (by decide) g 0 0 cap (flat (vs.take 0)) rfl ?q1 ?q2 ⟨W3.heap.size,0,none⟩ 1 1 [.slice sa xs.length sc,.int .i64 kw] rfl ?q3 ?q4 ?q5 ?q6 ?q7 ?q8 ?q9 ?q10)
     case q1=>rw[aL];simp <;> omega
     case q2 =>
      intro j u hj
      have hcl:cD (W3.alloc (.cells #[.slice sa xs.length sc,.int .i64 kw] 82)) g 0 (vs.take 0):=by
       intro j' t' ht';rw[qL] at ht';split at ht'
       ·exact(HR3.out.keep (ba _ _)).cells j' t' ht'
       ·cases ht'
      exact dW hcl j u hj
     case q3=>rfl
     case q4 =>
      intro j u hj
      match j,hj with
      | 0,hj=>simp at hj;subst hj;simp[go_sem,Addr.add]
      | 1,hj=>simp at hj;subst hj;simp[go_sem,Addr.add]
     case q5=>intro u hu;simp at hu;rcases hu with rfl|rfl <;> rfl
     case q6 =>
      intro _ j hj;have hr4:=HR3.out.keep (ba W3 (.cells #[.slice sa xs.length sc,.int .i64 kw] 82));have hz:=hr4.cells.len_cell (i:=0) (by omega)
      match j,hj with
      | 0,_=>exact⟨by simpa using hz.1,by simpa using hr4.thaw (0*2) (by omega)⟩
      | 1,_=>exact⟨by simpa using hz.2,by simpa using hr4.thaw (0*2+1) (by omega)⟩
     case q7=>simp[maxLen] <;> omega
     case q8=>omega
     case q10=>intro h;exact absurd h (by omega)
     intro _;have hrow5:=(HR3.out.keep (ba W3 (.cells #[.slice sa xs.length sc,.int .i64 kw] 82))).setP (i:=0) (by omega) (.slice sa xs.length sc,xs,kw)
     have HF:Hid (Gl w B g cap us (i+1) (0+1) (vs.set 0 (.slice sa xs.length sc,xs,kw)) ((W3.alloc (.cells #[.slice sa xs.length sc,.int .i64 kw] 82)).setCells g (0+0*2) [.slice sa xs.length sc,.int .i64 kw])) :=
      HG.out.app h1 HQ.out.2.1 HT.out hw1 (fun _ h=>absurd h (by omega)) hrow5 (bs (bs (bal (bt HG.out.bel HB3.out) _) (by simp;omega) _) (by simp;omega) _)
     clear hrow5;go_wp2
     go_roundw
     case rel=>exact⟨i+1,0+1,_,by go_num,by go_num,h1,HF.out⟩
     case measure=>simp[intOf];omega
    | succ k =>
     obtain⟨⟨sl,xl,kl⟩,hq,htk⟩:=HG.out.last hiu;obtain⟨la,lc,he,_⟩:=HG.out.ints _ (rQ hq);simp only at he;subst he;have HIl:Hid (jQ w B B (.slice la xl.length lc) xl):=HG.out.ints _ (rQ hq);have rw1:=HG.out.row.keep HW.out;obtain⟨d1,d2⟩:=rw1.cells k _ hq;have d3:=rw1.thaw (k*2+1) (by omega);simp only[xZ] at d1 d2 d3;have hsum:=HG.out.sum HQ.out.2.2.1 HT.out hq HQ.out.2.2.2;simp only at hsum;have HQ2:Hid (vs[k]? = some (.slice la xl.length lc,xl,kl)):=hq;obtain⟨r1,HC⟩:∃ r1,Hid (nX xl xs=r1):=⟨_,rfl⟩;have hgW:g<W.heap.size:=by omega
     have lw2:wr.heap.size<W.heap.size:=by omega
     have z1:(0:Int)<=(k:Int):=by omega
     have z2:(k:Int)<(k:Int)+1:=by omega
     have z3:(k:Int)<=(k:Int)+1:=by omega
     clear hq htk rw1;go_wp2_with fail;clear hW
     go_region_held3 (fun w'=>Below W.heap.size W w'/\w'.cell? ⟨wr.heap.size,0,none⟩=some (.slice sa xs.length sc)/\w'.cell? ⟨wr.heap.size,1,none⟩=some (.int .i64 kw)/\w'.cell? ⟨g,k*2,none⟩=some (.slice la xl.length lc)/\w'.cell? ⟨g,k*2+1,none⟩=some (.int .i64 kl))
      ((go_split_ands;refine⟨?_,?_,?_,?_,?_⟩ <;> first|(simp[go_sem, *];done)|(exact(aQ _ _).drew)|(exact bt (aQ _ _).drew hb1)))
      ((go_at_call 44;refine(lT B B B _ _ _ _ xl xs _ ?_ ?_ ?_ r1 HC.out).mono ?_;(have:=HW.out.size;show B<=W.heap.size;have:=HG.out.bel.size;omega);(exact HIl.out.at hB (bt HG.out.bel HW.out.drew));(exact HIp.out.at hB (bt HG.out.bel HW.out.drew));rintro x1 w1 ⟨rfl,hb1⟩;obtain⟨hc1,hf1⟩:=bcell hb1;have hs1':=hb1.size;have k1:w1.cell? ⟨wr.heap.size,0,none⟩=some (.slice sa xs.length sc):=(hc1 _ _ lw2).trans p1;have k2:w1.cell? ⟨wr.heap.size,1,none⟩=some (.int .i64 kw):=(hc1 _ _ lw2).trans p2;have k3:w1.cell? ⟨g,k*2,none⟩=some (.slice la xl.length lc):=(hc1 _ _ hgW).trans d1;have k4:w1.cell? ⟨g,k*2+1,none⟩=some (.int .i64 kl):=(hc1 _ _ hgW).trans d2;have k5:w1.frozen? ⟨g,k*2+1,none⟩=false:=(hf1 _ _ hgW).trans d3;clear hc1 hf1))
     rename_i hHeld;clear hHeld p1 p2 d1 d2 d3;have HB3:Hid (Below wr.heap.size wr w1):=bt HW.out.drew hb1;have hgw:g<w1.heap.size:=by have:=HB3.out.size;omega
     clear hb1;by_cases hr0:r1=0
     ·have hxx:Hid (xl=xs):=(uH _ _).1 (HC.out.trans hr0)
      have HR1:Hid (Row w1 g 0 vs):=HG.out.row.keep HB3.out;subst hr0;go_wp2_with fail
      go_region
      have HF:Hid (Gl w B g cap us (i+1) (k+1) (vs.set k (.slice la xl.length lc,xl,kl+kw)) (w1.setCell ⟨g,k*2+1,none⟩ (.int .i64 (kl+kw))).drew):=by
       have hrow5:=HR1.out.setW HQ2.out (kl+kw);simp only[xZ] at hrow5;exact HG.out.add h1 HT.out hw1 HQ2.out hxx.out (hrow5.keep (aQ _ _).drew) (bs (bt HG.out.bel HB3.out) (by simp;omega) _).drew
      clear k1 k2 k3 k4 k5;go_wp2
      go_roundw
      case rel=>exact⟨i+1,k+1,_,by go_num,by go_num,h1,HF.out⟩
      case measure=>simp[intOf];omega
     ·have hr0':(r1 == 0)=false:=by simpa using hr0
      have HNE:Hid (∀ q:Tr,0<k+1->vs[k+1 - 1]? = some q->q.2.1≠xs):=by
       intro q _ hq;rw[show k+1 - 1=k by omega,HQ2.out] at hq;simp only[xX] at hq;subst hq;intro he;exact hr0 (by rw[<-HC.out];exact(uH _ _).2 he)
      clear hr0 k3 k4 k5;have HR3:Hid (Row w1 g 0 vs):=HG.out.row.keep HB3.out;obtain⟨t1,ht1⟩:=cX (l:=vs) (i:=k+1) (by omega);obtain⟨e1,e2⟩:=HR3.out.cells _ _ ht1;have e3:=HR3.out.thaw ((k+1)*2) (by omega);have e4:=HR3.out.thaw ((k+1)*2+1) (by omega);simp only[xZ] at e1 e2 e3 e4;obtain⟨v1,hv1⟩:∃ v1,t1.1=v1:=⟨_,rfl⟩;obtain⟨v2,hv2⟩:∃ v2,t1.2.2=v2:=⟨_,rfl⟩;rw[hv1] at e1;rw[hv2] at e2;clear ht1 hv1 hv2
      have HF:Hid (Gl w B g cap us (i+1) (k+1+1) (vs.set (k+1) (.slice sa xs.length sc,xs,kw)) (((w1.setCell ⟨g,(k+1)*2,none⟩ (.slice sa xs.length sc)).setCell ⟨g,(k+1)*2+1,none⟩ (.int .i64 kw)).alloc (.cells #[.slice sa xs.length sc,.int .i64 kw] 82))) :=
       HG.out.app h1 HQ.out.2.1 HT.out hw1 HNE.out ((HR3.out.set0 (by omega) (.slice sa xs.length sc) xs kw).keep (ba _ _)) (bal (bs (bs (bt HG.out.bel HB3.out) (by simp;omega) _) (by simp;omega) _) _)
      go_wp2
      go_roundw
      case rel=>exact⟨i+1,k+1+1,_,by go_num,by go_num,h1,HF.out⟩
      case measure=>simp[intOf];omega
  ·have hii:i=us.length:=by omega
   have hK:rd (vs.take k)=r:=by
    rw[<-HH.out.2.2.1];have hgd:=hG.good;rw[hii,wD] at hgd;exact(tE HH.out.1 hgd.rise hgd.pos fun o=>(hgd.wts o).trans (b8Z (gW HQ.out.1) o)).symm
   have HK:Hid (rd (vs.take k)=r):=hK;have hP:=hG.row.parts (cap:=cap) (k:=k) (bQ hB hG.bel.size) (fun t ht=>(hG.ints t ht).at hB hG.bel) (by omega) (by omega) (by omega);have kc:=arZ _ _ _ wr (vQ _) hP;have hbw:=hG.bel;clear hG hK hP;go_wp2_with fail;refine kc.mono ?_;rintro e w3 ⟨v',us',rfl,hO,hrd,hb3,hfr⟩;obtain⟨b',o',c',rfl,hO'⟩:=hO;have HO:Hid (Own w3 w.heap.size (.slice (some ⟨b',o',none⟩) us'.length c') us'):=Own.mono ⟨b',o',c',rfl,hO'⟩ hbw.size;have HD:Hid (rd us' = r):=by rw[Hid,hrd,HK.out]
   have HB:Hid (Below w.heap.size w w3):=bt hbw hb3;have HFR:Hid (sQ w.heap.size us'):=hfr.mono hbw.size;clear hO' hrd hb3 hbw kc hfr;go_wp2;go_ret;exact⟨_,us',rfl,HO.out,HD.out,HB.out,HFR.out⟩
def oX (w:World) (lo:Nat) (v:Value) (ts:List Tr):Prop:=(v=.slice none 0 0/\ts=[])\/Own w lo v ts
theorem oX.parts {lo:Nat}{ts:List Tr}(h:oX w lo v ts):fQ w w.heap.size v ts:=by
 rcases h with⟨rfl,rfl⟩|h
 ·exact bK _ _
 ·exact h.parts
theorem oX.keep {lo:Nat}{ts:List Tr}(h:oX w lo v ts)(hb:Below w.heap.size w w'):oX w' lo v ts:=by
 rcases h with h|h
 ·exact .inl h
 ·exact .inr (h.keep hb)
theorem oX.mono {lo:Nat}{ts:List Tr}(h:oX w lo v ts)(hl:lo'<=lo):oX w lo' v ts:=by
 rcases h with h|h
 ·exact .inl h
 ·exact .inr (h.mono hl)
theorem oX.slice {lo:Nat}{ts:List Tr}(h:oX w lo v ts):∃ a c,v=.slice a ts.length c:=by
 rcases h with⟨rfl,rfl⟩|⟨b,o,c,h,_⟩
 ·exact⟨_,_,rfl⟩
 ·exact⟨_,_,h⟩
theorem cfZ (g:Nat)(l:List Pt)(p:Pt):bD g (l++[p])=Nat.gcd (bD g l) p.2.natAbs:=by
 induction l generalizing g with
 | nil=>rfl
 | cons q l ih=>simp only[pA,bD,ih]
theorem cfJ {l:List Pt}{p:Pt}(h:l[i]? = some p):bD 0 (l.take (i+1))=Nat.gcd (bD 0 (l.take i)) p.2.natAbs:=by
 rw[gZ,h];exact cfZ _ _ _
theorem cgQ {l:List Pt}(h:∀ p∈l,p.2.natAbs<=M)(hp:zZ l):bD 0 l<=M:=by
 rw[apX,Nat.gcd_zero_left];cases l with
 | nil=>simp[dv]
 | cons p l =>
  have h1:=h p (by simp);have h2:=hp p (by simp);exact bQ (Nat.le_of_dvd (by omega) (apZ (l:=p::l) (by simp))) h1
def uY (g:Int) (ts:List Tr) (i:Nat):List Tr:=(ts.take i).map (fun t=>(t.1,t.2.1,t.2.2 / g))++ts.drop i
theorem mT (g:Int)(ts:List Tr)(i:Nat):(uY g ts i).length=ts.length:=by simp[uY];omega
theorem cgX (g:Int){ts:List Tr}(h:i<ts.length):(uY g ts i)[i]? = ts[i]?:=by
 have e:((ts.take i).map (fun t:Tr=>(t.1,t.2.1,t.2.2 / g))).length=i:=by simp;omega
 rw[uY,qF (by omega),e];simp
theorem cgZ (g:Int){ts:List Tr}{t:Tr}(h:ts[i]? = some t):(uY g ts i).set i (t.1,t.2.1,t.2.2 / g)=uY g ts (i+1):=by
 have hi:=(cQ.1 h).1;have e:((ts.take i).map (fun t:Tr=>(t.1,t.2.1,t.2.2 / g))).length=i:=by simp;omega
 have e2:ts.drop i=t::ts.drop (i+1):=by rw[gJ hi,(cQ.1 h).2]
 rw[uY,uY,iP _ _ (by omega),e,e2,gZ,h];simp
theorem cgJ (g:Int)(ts:List Tr):rd (uY g ts ts.length)=cut g (rd ts):=by simp[uY,rd,cut]
theorem chQ (g:Int)(ts:List Tr):uY g ts 0=ts:=by simp[uY]
theorem asQ {g:Int}{ts:List Tr}{t:Tr}(h:t∈uY g ts i):∃ u∈ts,t.1=u.1/\t.2.1=u.2.1:=by
 rcases gV.1 h with h|h
 ·obtain⟨u,hu,rfl⟩:=wX.1 h;exact⟨u,jH hu,rfl,rfl⟩
 ·exact⟨t,wC h,rfl,rfl⟩
theorem zZ.take {l:List Pt}(h:zZ l)(i:Nat):zZ (l.take i):=fun p hp=>h p (jH hp)
theorem asX (lo:Nat)(v:Value)(ts:List Tr)(w:World)(ho:Own w lo v ts)(hp:zZ (rd ts))(hM:tot (rd ts)<=4611686018427387904)(l:List Pt)(er:Int)(hr:bU (rd ts)=(l,er)) :
  Calls prog 145 #[v] w fun e w'=>∃ v' us,e=.returned (.tuple #[v',.int .i64 er])/\rd us=l/\oX w' lo v' us/\Below lo w w'/\∀ t∈us,∃ u∈ts,t.1=u.1/\t.2.1=u.2.1:=by
 obtain⟨b,o,c,rfl,hc,hl,hlo,hrow,hI⟩:=ho;have HH:Hid (Row w b o ts/\(∀ t∈ts,jQ w w.heap.size b t.1 t.2.1)/\zZ (rd ts)/\tot (rd ts)<=4611686018427387904/\bU (rd ts)=(l,er)):=⟨hrow,hI,hp,hM,hr⟩;have hbs:=hrow.lt;clear hrow hI hp hM hr;by_cases h0:ts=[]
 ·subst h0
  have h1:=HH.out.2.2.2.2;obtain⟨rfl,rfl⟩:l=[]/\er=6:=by simp[bU,rd] at h1;exact⟨h1.1,h1.2.symm⟩
  clear h1 HH;go_enter func145,ntmps145;go_wp2;exact uQ (v:=.tuple #[.slice none 0 0,.int .i64 6]) (by simp[results,results145,go_sem]) rfl ⟨_,[],rfl,rfl,.inl ⟨rfl,rfl⟩,aQ _ _,fun t ht=>by cases ht⟩
 have hpos:0<ts.length:=by cases ts with|nil=>exact absurd rfl h0|cons _ _=>simp
 have hz0:((ts.length:Int) == 0)=false:=by simp;exact h0
 clear h0;go_enter func145,ntmps145;go_wp2
 go_loopw [4,13] (fun s u wr=>∃ (i g:Nat),s=.int .i64 (g:Int)/\u=.int .i64 (i:Int)/\i<=ts.length/\bD 0 ((rd ts).take i)=g/\Below w.heap.size w wr) (fun _ u _=>ts.length - (intOf u).toNat)
 case atStart=>exact⟨0,0,rfl,rfl,kQ _,by simp[bD],aQ _ _⟩
 case round =>
  obtain⟨i,g,rfl,rfl,hit,hg,hbl⟩:=hrel;have HG:=qQ hg
  have hgb:g<=4611686018427387904:=by
   rw[<-hg];refine cgQ (fun p hp=>?_) (zZ.take HH.out.2.2.1 i);have h1:=zZ.le_tot (Nn.of_pos HH.out.2.2.1) (jH hp);have h2:=HH.out.2.2.1 p (jH hp);have h3:=HH.out.2.2.2.1;omega
  clear hg;by_cases h1:i<ts.length
  ·obtain⟨⟨s,xs,k⟩,hs⟩:=cX h1
   obtain⟨sa,sc,he,_⟩:=HH.out.2.1 _ (rQ hs);simp only at he;subst he;obtain⟨c1,c2⟩:=HH.out.1.cells.get hbl hbs hs;simp only at c1 c2;have HZ:=qQ (pV hs);have hk0:0<k:=HH.out.2.2.1 (xs,k) (rQ HZ.out)
   have hk1:k<=4611686018427387904:=by
    have h1:=zZ.le_tot (Nn.of_pos HH.out.2.2.1) (rQ HZ.out);have h3:=HH.out.2.2.2.1;simp only at h1;omega
   obtain⟨m,rfl⟩:=cA (yF hk0);have kc:=fun W=>yL g m (by omega) (by omega) W;have HN:Hid (bD 0 ((rd ts).take (i+1))=Nat.gcd g m):=by rw[Hid,cfJ HZ.out,HG.out];rfl
   clear hs;go_wp2_with (go_at_call 74;refine(kc _).mono ?_;rintro e w1 ⟨rfl,hb1⟩)
   go_roundw
   case rel=>exact⟨i+1,Nat.gcd g m,rfl,by go_num,h1,HN.out,bt (bal hbl _) hb1⟩
   case measure=>simp[intOf];omega
  ·have hgd:g=dv (rd ts):=by rw[<-HG.out,uL (by omega),apX,Nat.gcd_zero_left]
   have HD:=qQ hgd;have hg0:0<g:=by rw[hgd];exact aT HH.out.2.2.1 (by intro h;rw[<-rV,h] at hpos;simp at hpos)
   have HR:=qQ (HH.out.1.keep hbl);have HI:Hid (∀ t∈ts,jQ wr wr.heap.size b t.1 t.2.1):=fun t ht=>(HH.out.2.1 t ht).at2 hbl;clear hgd HG;go_wp2
   go_loopw [24] (fun u wq=>∃ j:Nat,u=.int .i64 (j:Int)/\j<=ts.length/\Row wq b o (uY g ts j)/\(∀ t∈ts,jQ wq wq.heap.size b t.1 t.2.1)/\Below lo w wq) (fun u _=>ts.length - (intOf u).toNat)
   case atStart=>exact⟨0,rfl,kQ _,by rw[chQ];exact HR.out,HI.out,hbl.mono (by omega)⟩
   case round =>
    obtain⟨j,rfl,hjt,hrow,hints,hbq⟩:=hrel;have HR2:=qQ hrow;have HI2:=qQ hints;clear hrow hints;by_cases h2:j<ts.length
    ·obtain⟨⟨s,xs,k⟩,hs⟩:=cX h2
     have hs2:(uY g ts j)[j]? = some (s,xs,k):=by rw[cgX _ h2];exact hs
     obtain⟨c1,c2⟩:=HR2.out.cells j _ hs2;have c3:=HR2.out.thaw (j*2+1) (by rw[mT];omega);rw[<-zV] at c3;simp only at c1 c2;have hk0:0<k:=HH.out.2.2.1 (xs,k) (rQ (pV hs))
     have hk1:k<=4611686018427387904:=by
      have h1:=zZ.le_tot (Nn.of_pos HH.out.2.2.1) (rQ (pV hs));have h3:=HH.out.2.2.2.1;simp only at h1;omega
     obtain⟨m,rfl⟩:=cA (yF hk0);have hdv:((m:Int) / (g:Int))<=4611686018427387904:=aN (bN _ (by omega)) hk1;have hdv0:0<=((m:Int) / (g:Int)):=yP (by omega) (by omega);have hgz:((g:Int) == 0)=false:=by simp;omega
     have HS:=qQ hs
     have HR3:Hid (Row (wr.setCell ⟨b,o+j*2+1,none⟩ (.int .i64 ((m:Int) / (g:Int)))) b o (uY g ts (j+1))):=by
      have:=HR2.out.setW hs2 ((m:Int) / (g:Int));rwa [show(uY g ts j).set j (s,xs,(m:Int) / (g:Int))=uY g ts (j+1) from cgZ g hs] at this
     clear hs hs2;go_wp2
     go_roundw
     case rel=>exact⟨j+1,by go_num,h2,HR3.out,fun t ht=>by simpa using (HI2.out t ht).set rfl _,hbq.setCell (by simp;omega) _⟩
     case measure=>simp[intOf];omega
    ·have hj:j=ts.length:=by omega
     subst hj;have hcut:rd (uY g ts ts.length)=cut (dv (rd ts)) (rd ts):=by rw[cgJ,HD.out]
     have hI3:∀ t∈uY g ts ts.length,jQ wr wr.heap.size b t.1 t.2.1:=by
      intro t ht;obtain⟨u,hu,e1,e2⟩:=asQ ht;rw[e1,e2];exact HI2.out u hu
     have hown:Own wr lo (.slice (some ⟨b,o,none⟩) ts.length c) (uY g ts ts.length):=⟨b,o,c,by rw[mT],by rw[mT];exact hc,by rw[mT];exact hl,hlo,HR2.out,hI3⟩;have HO:=qQ hown
     have hnn:Nn (rd (uY g ts ts.length)):=by
      rw[hcut];intro p hp;obtain⟨q,hq,rfl⟩:=wX.1 hp;exact yP (yF (HH.out.2.2.1 q hq)) (by omega)
     obtain⟨T,hT⟩:∃ T,tot (cut (dv (rd ts)) (rd ts))=T:=⟨_,rfl⟩
     have hTle:T<=4611686018427387904:=by
      rw[<-hT,cbQ fun p hp=>bT hp];exact aN (bN _ (Nn.of_pos HH.out.2.2.1).tot_nn) HH.out.2.2.2.1
     have kc:=eM wr.heap.size (.slice (some ⟨b,o,none⟩) ts.length c) (uY g ts ts.length) wr (vQ _) hown.parts hnn (by rw[hcut,hT];exact hTle) T (by rw[hcut,hT]);have hlow:=HH.out.2.2.2.2;have hne:rd ts≠[]:=by intro h;rw[<-rV,h] at hpos;simp at hpos
     rw[bU,xQ hne,hT,rV] at hlow;have HL:=qQ hlow;have HCU:=qQ hcut;clear hlow hcut hI3 hown hnn hne hT HR2 HI2;by_cases hm:1073741824<T
     ·have hl2:=HL.out
      rw[zQ (.inl hm)] at hl2;simp only[dQ] at hl2;obtain⟨rfl,rfl⟩:=hl2;go_wp2_with (go_at_call 45;refine kc.mono ?_;rintro e w1 ⟨rfl,hb1⟩);exact uQ (v:=.tuple #[.slice none 0 0,.int .i64 4]) (by simp[results,results145,go_sem]) rfl ⟨_,[],rfl,rfl,.inl ⟨rfl,rfl⟩,hbq.trans (hb1.mono (by have:=hbq.size;omega)),fun t ht=>by cases ht⟩
     ·by_cases hm2:4096<ts.length
      ·have hl2:=HL.out
       rw[zQ (.inr hm2)] at hl2;simp only[dQ] at hl2;obtain⟨rfl,rfl⟩:=hl2;go_wp2_with (go_at_call 45;refine kc.mono ?_;rintro e w1 ⟨rfl,hb1⟩);exact uQ (v:=.tuple #[.slice none 0 0,.int .i64 4]) (by simp[results,results145,go_sem]) rfl ⟨_,[],rfl,rfl,.inl ⟨rfl,rfl⟩,hbq.trans (hb1.mono (by have:=hbq.size;omega)),fun t ht=>by cases ht⟩
      ·have hl2:=HL.out
       rw[xQ (by intro h;rcases h with h|h <;> omega)] at hl2;simp only[dQ] at hl2;obtain⟨hl2,rfl⟩:=hl2;have HL2:=qQ hl2;clear hl2;go_wp2_with (go_at_call 45;refine kc.mono ?_;rintro e w1 ⟨rfl,hb1⟩);exact uQ (v:=.tuple #[.slice (some ⟨b,o,none⟩) ts.length c,.int .i64 0]) (by simp[results,results145,go_sem]) rfl ⟨_,uY g ts ts.length,rfl,HCU.out.trans HL2.out,.inr (HO.out.keep hb1),hbq.trans (hb1.mono (by have:=hbq.size;omega)),fun t ht=>asQ ht⟩
theorem nT {l:List Pt}(h:l.all wJ=true):Nn l/\∀ p∈l,p.2<=1073741824:=by
 have h1:∀ p∈l,0<=p.2/\p.2<=1073741824:=by
  intro p hp;have:=jM.1 h p hp;simp[wJ] at this;exact this.1
 exact⟨fun p hp=>(h1 p hp).1,fun p hp=>(h1 p hp).2⟩
theorem chX {l:List Pt}(h:l.all wJ=true)(hl:l.length<=1073741824):tot l<=4611686018427387904:=by
 have h1:=caZ (nT h).2;have h2:(l.length:Int)*1073741824<=1073741824*1073741824:=xK (by omega) (by omega);omega
theorem mW (B:Nat)(v:Value)(ts:List Tr)(w:World)(hB:B<=w.heap.size)(hp:fQ w B v ts)(l:List Pt)(er:Int)(hr:yY (rd ts)=(l,er)) :
  Calls prog 86 #[v] w fun e w'=>∃ v' us,e=.returned (.tuple #[v',.int .i64 er])/\rd us=l/\oX w' w.heap.size v' us/\Below w.heap.size w w'/\sQ w.heap.size us:=by
 have HP:=qQ hp;obtain⟨a,c,rfl,hc,hl,_⟩:=hp;cases hok:(rd ts).all wJ with
 | false =>
  rw[yY,hok] at hr;simp only[Bool.false_eq_true,qK,dQ] at hr;obtain⟨rfl,rfl⟩:=hr;have kc:=arQ B _ ts w hB HP.out _ hok;clear hok;go_enter func86,ntmps86;go_wp2_with (go_at_call 151;refine kc.mono ?_;rintro e w1 ⟨rfl,hb1⟩);exact uQ (v:=.tuple #[.slice none 0 0,.int .i64 3]) (by simp[results,results86,go_sem]) rfl ⟨_,[],rfl,rfl,.inl ⟨rfl,rfl⟩,hb1,sQ.nil _⟩
 | true =>
  rw[yY,hok] at hr;simp only[uU] at hr;have kc:=arQ B _ ts w hB HP.out _ hok;have hM:=chX hok (by rw[rV];exact hl);have HK:Hid (bU (gath (rd ts))=(l,er)/\Nn (rd ts)/\tot (rd ts)<=4611686018427387904):=⟨hr,(nT hok).1,hM⟩;clear hok hr hM;go_enter func86,ntmps86;go_wp2_with (go_at_call 151;refine kc.mono ?_;rintro e w1 ⟨rfl,hb1⟩);refine(cfX B _ ts w1 (bQ hB hb1.size) (HP.out.at hB hb1) HK.out.2.1 HK.out.2.2 _ rfl).mono ?_;rintro e w2 ⟨v2,us,rfl,ho2,hrd,hb2,hfr2⟩;have hbb:Below w.heap.size w w2:=bt hb1 hb2;have HFR2:=qQ (hfr2.mono hb1.size);have kl:=asX w.heap.size v2 us w2 (ho2.mono hb1.size) (by rw[hrd];exact sP HK.out.2.1) (by rw[hrd,qW];exact HK.out.2.2) l er (by rw[hrd];exact HK.out.1);obtain⟨b',o',c',rfl,_⟩:=ho2;clear kc hb2 hfr2;go_wp2_with fail;refine kl.mono ?_;rintro e w3 ⟨v3,us3,rfl,hrd3,ho3,hb3,hsub⟩;obtain⟨a3,c3,rfl⟩:=ho3.slice;have HO3:=qQ ho3;have HR3:=qQ hrd3;have HFR:=qQ (HFR2.out.of hsub);clear ho3 hrd3 hrd kl hsub;go_wp2;exact uQ (v:=.tuple #[.slice a3 us3.length c3,.int .i64 er]) (by simp[results,results86,go_sem]) rfl ⟨_,us3,rfl,HR3.out,HO3.out,hbb.trans hb3,HFR.out⟩
end
end Go.Proofs.YtpmioeamdhdokaaGreat
