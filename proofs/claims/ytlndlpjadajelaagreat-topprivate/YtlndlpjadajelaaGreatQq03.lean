import Derived.Test.YtlndlpjadajelaaGreatQq02
import Derived.Shelf.SlSortCmp.NoneTotal
import Derived.Shelf.RegionOpenPlain
import Derived.Deep.LoopGhost
import Derived.Lib.Walk
import Derived.Lib.SliceRun
import Derived.Deep.RegionHeld3
namespace Go.Proofs.YtlndlpjadajelaaGreat
open Go.RowKit Go.Proofs.YtlndlpjadajelaaGreat.Ds Go.Sort Go.Shelf
theorem info3:(Tryz.prog.info? 3).map (fun i=>(i.zero,i.size,i.bytes))=some (some (.int .i64 0),1,8):=by kernel_rfl
theorem info32:(Tryz.prog.info? 82).map (fun i=>(i.zero,i.size,i.bytes))=some (some (.agg #[.slice none 0 0,.int .i64 0]),2,32):=by kernel_rfl
def flat (ts:List Tr):List Value:=ts.flatMap fun t=>[t.1,.int .i64 t.2.2]
theorem flat_len (ts:List Tr):(flat ts).length=ts.length * 2:=by
 induction ts with
 | nil=>rfl
 | cons t ts ih=>simp [flat] at *; omega
theorem flat_get (ts:List Tr) (i:Nat):(flat ts)[i * 2]? = ts[i]?.map (·.1)∧(flat ts)[i * 2 + 1]? = ts[i]?.map fun t=>.int .i64 t.2.2:=by
 induction ts generalizing i with
 | nil=>simp [flat]
 | cons t ts ih =>
  cases i with
  | zero=>simp [flat]
  | succ i =>
   have h:=ih i
   have e:flat (t :: ts)=t.1 :: .int .i64 t.2.2 :: flat ts:=rfl
   rw [e,show (i + 1) * 2=i * 2 + 1 + 1 by omega,show i * 2 + 1 + 1 + 1=(i * 2 + 1) + 1 + 1 by omega]
   simpa using h
theorem flat_cells {w:World} {b o:Nat} {ts:List Tr} (h:Cells w b o ts):∀ j u,(flat ts)[j]? = some u→w.cell? ⟨b,o + j,none⟩=some u:=by
 intro j u hj
 have hlt:j < ts.length * 2:=by rw [← flat_len]; exact (List.getElem?_eq_some_iff.1 hj).1
 obtain ⟨t,ht⟩:=get_lt (l:=ts) (i:=j / 2) (by omega)
 have hg:=flat_get ts (j / 2)
 rcases Nat.mod_two_eq_zero_or_one j with hm | hm
 ·have e:j=j / 2 * 2:=by omega
  rw [e] at hj ⊢
  rw [hg.1,ht] at hj
  rw [(h _ t ht).1]; simpa using hj
 ·have e:j=j / 2 * 2 + 1:=by omega
  rw [e] at hj ⊢
  rw [hg.2,ht] at hj
  rw [← Nat.add_assoc,(h _ t ht).2]; simpa using hj
theorem frozen_zero {w:World} {g j:Nat} {cur:Array Value} {e:TypeId} (h:w.heap[g]? = some (.cells cur e (0,0))):w.frozen? ⟨g,j,none⟩=false:=by
 simp [World.frozen?,h]
theorem row_of_owns {w:World} {base:Nat} {v:Value} {ts:List Tr} {n:Nat} (hn:n=ts.length) (h:w.ownsRow base 82 2 v n (flat ts)) (hne:v≠.slice none 0 0) :
  ∃ g cap,v=.slice (some ⟨g,0,none⟩) ts.length cap∧ts.length≤cap∧base≤g∧Row w g 0 ts:=by
 subst hn
 obtain ⟨_,⟨hv,_⟩ | ⟨g,cap,cur,hv,hb,hcur,hc,_,hsz,hx⟩⟩:=h
 ·exact absurd hv hne
 ·have hget:∀ j u,(flat ts)[j]? = some u→w.cell? ⟨g,0 + j,none⟩=some u:=by
   intro j u hj
   have hj2:j < ts.length * 2:=by rw [← flat_len]; exact (List.getElem?_eq_some_iff.1 hj).1
   have:cur[j]? = some u:=by
    rw [← hx,List.getElem?_take_of_lt hj2] at hj
    simpa using hj
   simp [World.cell?,hcur,this]
  refine ⟨g,cap,hv,hc,hb,⟨fun i t ht=>?_,fun j _=>frozen_zero hcur,(Array.getElem?_eq_some_iff.1 hcur).1⟩⟩
  have hg:=flat_get ts i
  exact ⟨hget _ _ (by rw [hg.1,ht]; rfl),by rw [Nat.add_assoc]; exact hget _ _ (by rw [hg.2,ht]; rfl)⟩
theorem ints_of_owns {w:World} {base nb:Nat} {v:Value} {xs:List Int} {n:Nat} (hn:n=xs.length) (hl:xs.length≤1073741824) (h:w.ownsRow base 3 1 v n (xs.map (.int .i64))) (hnb:nb < base):Ints w w.heap.size nb v xs:=by
 subst hn
 obtain ⟨_,⟨hv,h0⟩ | ⟨g,cap,cur,hv,hb,hcur,hc,_,hsz,hx⟩⟩:=h
 ·obtain rfl:xs=[]:=by cases xs <;> simp_all
  exact ⟨none,0,hv,Nat.le_refl _,hl,fun h=>absurd rfl h⟩
 ·refine ⟨_,cap,hv,hc,hl,fun _=>⟨g,0,rfl,(Array.getElem?_eq_some_iff.1 hcur).1,by omega,fun i x hi=>?_⟩⟩
  have hi2:i < xs.length:=(List.getElem?_eq_some_iff.1 hi).1
  have:cur[i]? = some (.int .i64 x):=by
   have h1:(xs.map (Value.int .i64))[i]? = some (.int .i64 x):=by simp [hi]
   rw [← hx,List.getElem?_take_of_lt (by omega)] at h1
   simpa using h1
  simp [World.cell?,hcur,this]
set_option maxHeartbeats 1000000 in
set_option maxRecDepth 100000 in
theorem cloneN_any (B nb:Nat) (v:Value) (xs:List Int) (w:World) (hB:B≤w.heap.size) (hx:Ints w B nb v xs) :
  Calls Tryz.prog 140 #[v] w fun e w'=>∃ v',e=.returned v'∧(∀ m,m < w.heap.size→Ints w' w'.heap.size m v' xs)∧Below w.heap.size w w':=by
 obtain ⟨a,c,rfl,hc,hl,hxx⟩:=hx
 have q22:∀ (w:World) (a:Option Addr) (n c n' c':Nat),(binOp .eql 65 (.slice a n c) (.slice none n' c')).run Tryz.prog w=.ok (.bool a.isNone) w:=fun w a n c n' c'=>Lib.run_eql_slice_nil w _ _ a n c n' c' Tryz.underlying65
 cases a with
 | none =>
  obtain rfl:xs=[]:=by
   cases xs with
   | nil=>rfl
   | cons x l=>obtain ⟨b,o,h,_⟩:=hxx (by simp); cases h
  clear hxx
  go_enter Tryz.func140,Tryz.ntmps140
  go_wp2
  go_ret
  exact ⟨_,rfl,fun m _=>⟨none,0,rfl,Nat.le_refl _,by simp,fun h=>absurd rfl h⟩,Below.refl _ _⟩
 | some ad =>
  have A:Hid (∀ j u,(xs.map (Value.int .i64))[j]? = some u→∀ o,(w.alloc o).cell? (ad.add j)=some u):=by
   intro j u hj o
   have hlt:j < xs.length:=by have:=(List.getElem?_eq_some_iff.1 hj).1; simpa using this
   obtain ⟨b,o',he,hb,_,hcell⟩:=hxx (ne_of_lt hlt)
   obtain ⟨x,hx⟩:=get_lt hlt
   simp only [Option.some.injEq] at he
   subst he
   rw [Addr.add_lit,World.cell?_alloc_lt _ _ _ (by simp; omega),hcell j x hx]
   simpa [hx] using hj
  obtain ⟨i0,hi,hz0,hz1,hz2⟩:=info_parts info3
  clear hxx
  have hnb:Hid (xs.length * 8≤140737488355328∧xs.length≤maxLen):=⟨by omega,by simp [maxLen]; omega⟩
  go_enter Tryz.func140,Tryz.ntmps140
  go_wp2_with (at_builtin; refine wpList_append_own _ rfl _ _ 65 rfl w.heap.size 3 i0 (.int .i64 0) 1 8 Tryz.underlying65 hi hz0 hz1 hz2 rfl (by decide) _ _ _ rfl (World.ownsRow_made w #[] 0 (Nat.le_refl _) (Nat.zero_le _) (by simp)) ad xs.length c (xs.map (Value.int .i64)) rfl ?qc1 ?qc2 ?qc3 ?qc4 ?qc5 ?qc6 ?_)
  case qc1=>simp
  case qc2=>intro j u hj; exact A.out j u hj _
  case qc3=>intro u hu; obtain ⟨x,_,rfl⟩:=List.mem_map.1 hu; rfl
  case qc4=>rw [Nat.zero_add]; exact hnb.out.2
  case qc5=>rw [Nat.zero_add]; exact hnb.out.1
  case qc6=>simp
  intro v' w1 hown hgrow hnil
  go_wp2
  go_ret
  refine ⟨v',rfl,fun m hm=>ints_of_owns (Nat.zero_add _) hl (by simpa using hown) hm,?_⟩
  exact ((Below.refl _ w).alloc (Nat.le_refl _) _).grown hgrow (by simp) (by intro k hk; simp [Value.ownBlock] at hk; omega)
set_option maxHeartbeats 1000000 in
set_option maxRecDepth 100000 in
theorem cloneP_any (B:Nat) (v:Value) (ts:List Tr) (w:World) (hB:B≤w.heap.size) (hx:Parts w B v ts) :
  Calls Tryz.prog 205 #[v] w fun e w'=>∃ v',e=.returned v'∧Below w.heap.size w w' ∧
   ((ts=[]∧v' = .slice none 0 0)∨∃ g cap,v' = .slice (some ⟨g,0,none⟩) ts.length cap∧ts.length≤cap∧w.heap.size≤g∧Row w' g 0 ts):=by
 obtain ⟨a,c,rfl,hc,hl,hI,hxx⟩:=hx
 have q22:∀ (w:World) (a:Option Addr) (n c n' c':Nat),(binOp .eql 43 (.slice a n c) (.slice none n' c')).run Tryz.prog w=.ok (.bool a.isNone) w:=fun w a n c n' c'=>Lib.run_eql_slice_nil w _ _ a n c n' c' Tryz.underlying43
 cases a with
 | none =>
  obtain rfl:ts=[]:=by
   cases ts with
   | nil=>rfl
   | cons x l=>obtain ⟨b,o,h,_⟩:=hxx (by simp); cases h
  clear hxx hI
  go_enter Tryz.func205,Tryz.ntmps205
  go_wp2
  go_ret
  exact ⟨_,rfl,Below.refl _ _,by simp⟩
 | some ad =>
  have A:Hid (∀ j u,(flat ts)[j]? = some u→∀ o,(w.alloc o).cell? (ad.add j)=some u):=by
   intro j u hj o
   have hlt:j < ts.length * 2:=by rw [← flat_len]; exact (List.getElem?_eq_some_iff.1 hj).1
   obtain ⟨b,o',he,hb,hcell⟩:=hxx (by rintro rfl; simp at hlt)
   simp only [Option.some.injEq] at he
   subst he
   rw [Addr.add_lit,World.cell?_alloc_lt _ _ _ (by simp; omega)]
   exact flat_cells hcell j u hj
  have A1:Hid (∀ u∈flat ts,u.oneCell' = true):=by
   intro u hu
   obtain ⟨t,ht,hu⟩:=List.mem_flatMap.1 hu
   obtain ⟨sa,sc,he,_⟩:=hI t ht
   simp only [List.mem_cons,List.not_mem_nil,or_false] at hu
   rcases hu with rfl | rfl
   ·rw [he]; rfl
   ·rfl
  obtain ⟨i0,hi,hz0,hz1,hz2⟩:=info_parts info32
  clear hxx hI
  have hnb:Hid (ts.length * 32≤140737488355328∧ts.length≤maxLen):=⟨by omega,by simp [maxLen]; omega⟩
  go_enter Tryz.func205,Tryz.ntmps205
  go_wp2_with (at_builtin; refine wpList_append_own _ rfl _ _ 43 rfl w.heap.size 82 i0 (.agg #[.slice none 0 0,.int .i64 0]) 2 32 Tryz.underlying43 hi hz0 hz1 hz2 rfl (by decide) _ _ _ rfl (World.ownsRow_made w #[] 0 (Nat.le_refl _) (Nat.zero_le _) (by simp)) ad ts.length c (flat ts) rfl ?qc1 ?qc2 ?qc3 ?qc4 ?qc5 ?qc6 ?_)
  case qc1=>exact flat_len ts
  case qc2=>intro j u hj; exact A.out j u hj _
  case qc3=>exact A1.out
  case qc4=>rw [Nat.zero_add]; exact hnb.out.2
  case qc5=>rw [Nat.zero_add]; exact hnb.out.1
  case qc6=>simp
  intro v' w1 hown hgrow hnil
  go_wp2
  go_ret
  refine ⟨v',rfl,?_,.inr ?_⟩
  ·exact ((Below.refl _ w).alloc (Nat.le_refl _) _).grown hgrow (by simp) (by intro k hk; simp [Value.ownBlock] at hk; omega)
  ·exact row_of_owns (Nat.zero_add _) (by simpa using hown) hnil
abbrev RP (w:World) (B:Nat):={ t:Tr // Ints w B B t.1 t.2.1 }
theorem below_sort {α:Type} [Inhabited α] (enc:α→List Value) (w:World) (B blk off m:Nat) (d:Array α) (os:Array Obj) (h:B≤blk) (hb:blk < w.heap.size):Below B w (sortWorldK enc 2 w blk off m d os):=by
 refine ⟨rfl,rfl,rfl,?_,fun k hk=>?_⟩
 ·simp [sortWorldK,putRowK,putRow,mapBlock,grow]
 ·have hk2:k < w.heap.size:=by omega
  simp only [sortWorldK,putRowK,putRow,mapBlock,grow]
  rw [Array.getElem?_append_left (by simpa using hk2),Array.getElem?_modify,if_neg (by omega)]
  rfl
theorem swo_cmp {w:World} {B:Nat}:SWO (ltOf fun x y:RP w B=>cmpT x.1.2.1 y.1.2.1) where
 irrefl x:=by simp [ltOf,cmpT_self]
 trans x y z h1 h2:=by
  simp only [ltOf,decide_eq_true_eq] at *
  exact ltL_trans h1 h2
 ntrans x y z h1 h2:=by
  simp only [ltOf,decide_eq_false_iff_not] at *
  intro h
  rcases ltL_tri x.1.2.1 y.1.2.1 with c | c | c
  ·exact h1 c
  ·rw [← c] at h2; exact h2 h
  ·exact h2 (ltL_trans c h)
def encP {w:World} {B:Nat} (x:RP w B):List Value:=[x.1.1,.int .i64 x.1.2.2]
theorem ints_nil (w:World) (B nb:Nat):Ints w B nb (.slice none 0 0) []:=⟨none,0,rfl,Nat.le_refl _,by simp,fun h=>absurd rfl h⟩
theorem readables {w:World} {B:Nat}:∀ {ts:List Tr},(∀ t∈ts,Ints w B B t.1 t.2.1)→∃ l:List (RP w B),l.map (·.1)=ts
 | [],_=>⟨[],rfl⟩
 | t :: ts,h=>by
  obtain ⟨l,hl⟩:=readables (ts:=ts) fun u hu=>h u (by simp [hu])
  exact ⟨⟨t,h t (by simp)⟩ :: l,by simp [hl]⟩
set_option maxHeartbeats 1000000 in
theorem sortP_any (B R c:Nat) (ts:List Tr) (w:World) (hB:B≤R) (hR:Row w R 0 ts) (hI:∀ t∈ts,Ints w B B t.1 t.2.1) (hl:ts.length≤1073741824) :
  Calls Tryz.prog 206 #[.slice (some ⟨R,0,none⟩) ts.length c,.func (.func 150) #[] #[]] w fun e w'=>e=.returned (.tuple #[]) ∧
   ∃ us,us.Perm ts∧us.Pairwise (fun a b=>¬ ltL b.2.1 a.2.1)∧Row w' R 0 us∧Below R w w':=by
 obtain ⟨l,hll⟩:=readables hI
 have inst:Inhabited (RP w B):=⟨⟨(.slice none 0 0,[],0),ints_nil w B B⟩⟩
 have hlen:ts.length=l.toArray.size:=by rw [← hll]; simp
 have hget:∀ i,i < l.toArray.size→ts[i]? = some (l.toArray[i]!).1:=by
  intro i hi
  rw [← hll,List.getElem?_map,getElem!_pos l.toArray i hi]
  simp at hi
  simp [hi]
 have eg:∀ args w,(callFunc 150 args).run Tryz.prog w=.ok (.enter 150 args) w:=enters_of Tryz.func150 (by kernel_rfl) rfl
 have hH:HoldsK encP 2 w R 0 l.toArray:=by
  intro j hj
  rw [size_flatK] at hj
  have h2:j / 2 < l.toArray.size:=by omega
  have hc:=hR.cells _ _ (hget _ h2)
  refine ⟨?_,hR.thaw j (by omega)⟩
  show w.cell? ⟨R,0 + j,none⟩=some ((flatK encP 2 l.toArray)[j]!)
  rw [get_flatK _ _ _ _ hj]
  rcases Nat.mod_two_eq_zero_or_one j with hm | hm
  ·rw [hm,show 0 + j=0 + j / 2 * 2 by omega,hc.1]; rfl
  ·rw [hm,show 0 + j=0 + j / 2 * 2 + 1 by omega,hc.2]; rfl
 have hcmp:CmpLays Tryz.prog 150 #[] (encP (w:=w) (B:=B)) 2 (fun x y=>cmpT x.1.2.1 y.1.2.1) R 0 l.toArray.size w:=by
  intro m os dk hdk x y
  have hb:=below_sort (encP (w:=w) (B:=B)) w B R 0 m dk os hB hR.lt
  have hsz:B≤(sortWorldK (encP (w:=w) (B:=B)) 2 w R 0 m dk os).heap.size:=by have:=hb.size; have:=hR.lt; omega
  refine (order_any B B B x.1.1 y.1.1 x.1.2.2 y.1.2.2 x.1.2.1 y.1.2.1 _ hsz (x.2.keep hb) (y.2.keep hb) _ rfl).mono ?_
  rintro e w' ⟨rfl,o1,o2,rfl⟩
  exact ⟨rfl,0,#[o1,o2],by rw [alloc_eq_grow,alloc_eq_grow,grow_grow]; rfl⟩
 have h1:∀ x:RP w B,∀ v∈encP x,v.oneCell' = true:=by
  intro x v hv
  simp only [encP,List.mem_cons,List.not_mem_nil,or_false] at hv
  obtain ⟨sa,sc,he,_⟩:=x.2
  rcases hv with rfl | rfl
  ·rw [he]; rfl
  ·rfl
 have hcon:=AnyQ.slices_SortFunc Tryz.sortP 2 Tryz.isAgg82 Tryz.sizeOf82 (encP (w:=w) (B:=B)) (fun _=>rfl) h1 (fun x y=>cmpT x.1.2.1 y.1.2.1) swo_cmp 150 #[] R 0 c l.toArray w eg hcmp hH hR.lt (by omega)
 change Calls Tryz.prog 206 _ _ _ at hcon
 rw [hlen]
 refine hcon.mono ?_
 rintro e w' ⟨rfl,d',n,os,hp,hs,rfl⟩
 refine ⟨rfl,d'.toList.map (·.1),?_,?_,?_,below_sort _ w R R 0 n d' os (Nat.le_refl _) hR.lt⟩
 ·have h3:=hp.2.2
  rw [← hll]
  refine List.Perm.map _ ?_
  have e:l.length=d'.toList.length:=by have:=hp.1; simp at this; simp [this]
  simp at h3
  rw [e,List.take_length] at h3
  exact h3
 ·rw [List.pairwise_map,List.pairwise_iff_getElem]
  intro i j hi hj hij
  have:=hs i j (Nat.zero_le _) hij (by rw [← hp.1]; simpa using hj)
  simp only [Array.length_toList] at hi hj
  rw [getElem!_pos d' i hi,getElem!_pos d' j hj] at this
  simpa [ltOf] using this
 ·have hH2:HoldsK encP 2 (sortWorldK (encP (w:=w) (B:=B)) 2 w R 0 n d' os) R 0 d':=holdsK_sortWorldK_c _ _ _ _ _ _ _ _ _ hH hR.lt hp.1
  refine ⟨fun i t ht=>?_,fun j hj=>?_,Nat.lt_of_lt_of_le hR.lt (below_sort _ w R R 0 n d' os (Nat.le_refl _) hR.lt).size⟩
  ·have hi:i < d'.size:=by have:=(List.getElem?_eq_some_iff.1 ht).1; simpa using this
   have ht2:t=(d'[i]!).1:=by rw [getElem!_pos d' i hi]; simp [hi] at ht; exact ht.symm
   have c0:=(hH2.cell hi (show 0 < 2 by decide)).1
   have c1:=(hH2.cell hi (show 1 < 2 by decide)).1
   subst ht2
   exact ⟨c0,c1⟩
  ·have:=(hH2 j (by rw [size_flatK]; simpa using hj)).2
   exact this
end Go.Proofs.YtlndlpjadajelaaGreat
namespace Go.Proofs.YtlndlpjadajelaaGreat
open Go.RowKit Go.Proofs.YtlndlpjadajelaaGreat.Ds
abbrev no:Tr:=(.slice none 0 0,[],0)
theorem row_made (w:World) (n:Nat):Row (w.alloc (.cells (madeCells #[.slice none 0 0,.int .i64 0] (n * 2)) 82)) w.heap.size 0 (List.replicate n no):=by
 have hc:∀ j,j < n * 2→(w.alloc (.cells (madeCells #[.slice none 0 0,.int .i64 0] (n * 2)) 82)).cell? ⟨w.heap.size,j,none⟩=some (#[Value.slice none 0 0,.int .i64 0][j % 2]!):=by
  intro j hj
  rw [World.cell?_alloc_at _ _ _ _ rfl]
  simp [madeCells,hj]
 refine ⟨fun i t ht=>?_,fun j _=>World.frozen?_alloc_at _ _ _ _ rfl,by simp⟩
 have hi:i < n:=by have:=(List.getElem?_eq_some_iff.1 ht).1; simpa using this
 obtain rfl:t=no:=by
  have:=(List.getElem?_eq_some_iff.1 ht).2; simp at this; exact this.symm
 refine ⟨?_,?_⟩
 ·rw [show 0 + i * 2=i * 2 by omega,hc _ (by omega)]; simp
 ·rw [show 0 + i * 2 + 1=i * 2 + 1 by omega,hc _ (by omega)]
  rw [show (i * 2 + 1) % 2=1 by omega]; rfl
theorem setCells2 (w:World) (b o:Nat) (u v:Value):w.setCells b o [u,v]=(w.setCell ⟨b,o,none⟩ u).setCell ⟨b,o + 1,none⟩ v:=rfl
theorem take_set_succ {α:Type} {l:List α} {i:Nat} (x:α) (h:i < l.length):(l.set i x).take (i + 1)=l.take i ++ [x]:=by
 rw [List.take_add_one,List.take_set_of_le (Nat.le_refl _),List.getElem?_set_self h]; rfl
theorem Row.set0 {w:World} {b:Nat} {us:List Tr} (h:Row w b 0 us) {i:Nat} (hi:i < us.length) (s:Value) (xs:List Int) (k:Int) :
  Row ((w.setCell ⟨b,i * 2,none⟩ s).setCell ⟨b,i * 2 + 1,none⟩ (.int .i64 k)) b 0 (us.set i (s,xs,k)):=by
 have:=h.setP hi (s,xs,k)
 rw [setCells2,Nat.zero_add] at this
 exact this
theorem Ints.set {w:World} {B nb:Nat} {v:Value} {xs:List Int} (h:Ints w B nb v xs) {p:Addr} (hp:p.block=nb) (u:Value):Ints (w.setCell p u) B nb v xs:=by
 obtain ⟨a,c,hv,hc,hl,hx⟩:=h
 refine ⟨a,c,hv,hc,hl,fun hne=>?_⟩
 obtain ⟨b,o,ha,hb,hn,hcell⟩:=hx hne
 refine ⟨b,o,ha,hb,hn,fun i x hi=>?_⟩
 rw [sc_other (by intro h; rw [h] at hp; exact hn hp)]
 exact hcell i x hi
theorem rd_set (us:List Tr) (i:Nat) (t:Tr):rd (us.set i t)=(rd us).set i t.2:=by simp [rd,List.map_set]
theorem Ints.at2 {w w':World} {nb:Nat} {v:Value} {xs:List Int} (h:Ints w w.heap.size nb v xs) (hb:Below w.heap.size w w'):Ints w' w'.heap.size nb v xs :=
 (h.keep hb).mono hb.size (.inl rfl)
set_option maxHeartbeats 1000000 in
theorem copied_fr (B:Nat) (v:Value) (ts:List Tr) (w:World) (hB:B≤w.heap.size) (hp:Parts w B v ts) :
  Calls Tryz.prog 207 #[v] w fun e w'=>∃ v' us,e=.returned v'∧Own w' w.heap.size v' us∧rd us=rd ts∧Below w.heap.size w w'∧Frs w.heap.size us:=by
 have HP:Hid (Parts w B v ts):=hp
 obtain ⟨a,c,rfl,hc,hl,_⟩:=hp
 obtain ⟨i0,hi,hz0,hz1,hz2⟩:=info_parts info32
 have hmk:∀ u:World,(Instr.makeSlice 44 (.int .i64 (ts.length:Int)) (.int .i64 (ts.length:Int))).run Tryz.prog u =
   .ok (.slice (some ⟨u.heap.size,0,none⟩) ts.length ts.length) (u.alloc (.cells (madeCells #[.slice none 0 0,.int .i64 0] (ts.length * 2)) 82)):=fun u=>by
  have h:=run_make (P:=Tryz.prog) u 44 82 i0 (.agg #[.slice none 0 0,.int .i64 0]) Tryz.underlying44 hi hz0 .i64 .i64 (ts.length:Int) (ts.length:Int) (by omega) (Int.le_refl _) (by rw [hz2]; omega) (by omega)
  rw [Int.toNat_natCast] at h
  simpa [hz1,Value.cells] using h
 go_enter Tryz.func207,Tryz.ntmps207
 go_wp2
 go_loopw [11] (fun s wr=>∃ (i:Nat) (us:List Tr),s=.int .i64 (i:Int)∧i≤ts.length∧us.length=ts.length∧(rd us).take i=(rd ts).take i∧Row wr w.heap.size 0 us∧(∀ t∈us,Ints wr wr.heap.size w.heap.size t.1 t.2.1)∧Below w.heap.size w wr∧Hid (Frs w.heap.size us)) (fun s _=>ts.length - (intOf s).toNat)
 case atStart =>
  refine ⟨0,List.replicate ts.length no,rfl,Nat.zero_le _,by simp,by simp,row_made _ _,fun t ht=>?_,ba _ _,fun t ht hne=>?_⟩
  ·rw [List.eq_of_mem_replicate ht]
   exact ints_nil _ _ _
  ·rw [List.eq_of_mem_replicate ht] at hne
   exact absurd rfl hne
 case round =>
  obtain ⟨i,us,rfl,hit,hul,htk,hrow,hI,hbl,HFR⟩:=hrel
  have HT:Hid ((rd us).take i=(rd ts).take i):=htk
  clear htk
  by_cases h1:i < ts.length
  ·obtain ⟨b,o,sa,sc,xs,k,rfl,hb,hs,c1,c2,hIx⟩:=HP.out.get hB hbl h1
   have HS:Hid (ts[i]? = some (.slice sa xs.length sc,xs,k)):=hs
   obtain ⟨t0,ht0⟩:=get_lt (l:=us) (i:=i) (by omega)
   have r1:=hrow.cells i t0 ht0
   have r2:=hrow.thaw (i * 2) (by omega)
   have r3:=hrow.thaw (i * 2 + 1) (by omega)
   have HR:Hid (Row wr w.heap.size 0 us):=hrow
   have HI:Hid (∀ t∈us,Ints wr wr.heap.size w.heap.size t.1 t.2.1):=hI
   have HIx:Hid (Ints wr B B (.slice sa xs.length sc) xs):=hIx
   have hs1:=hbl.size
   have hlt:=hrow.lt
   obtain ⟨r4,r5⟩:=r1
   simp only [Nat.zero_add] at r2 r3 r4 r5
   obtain ⟨v0,hv0⟩:∃ v0,t0.1=v0:=⟨_,rfl⟩
   rw [hv0] at r4
   clear hs hrow hI hIx ht0 hv0
   have r6:∀ o,(wr.alloc o).cell? ⟨w.heap.size,i * 2,none⟩=some v0:=fun o=>by rw [World.cell?_alloc_lt _ _ _ hlt]; exact r4
   have r7:∀ o,(wr.alloc o).cell? ⟨w.heap.size,i * 2 + 1,none⟩=some (.int .i64 t0.2.2):=fun o=>by rw [World.cell?_alloc_lt _ _ _ hlt]; exact r5
   have r8:∀ o,(wr.alloc o).frozen? ⟨w.heap.size,i * 2,none⟩=false:=fun o=>by rw [(ba wr o).frozen hlt]; exact r2
   have r9:∀ o,(wr.alloc o).frozen? ⟨w.heap.size,i * 2 + 1,none⟩=false:=fun o=>by rw [(ba wr o).frozen hlt]; exact r3
   go_wp2_with fail
   generalize hO:Obj.cells #[Value.slice sa xs.length sc,Value.int IntKind.i64 k] 82=O
   have g1:(wr.alloc O).cell? ⟨wr.heap.size,0,none⟩=some (.slice sa xs.length sc):=by rw [← hO]; simp [go_sem]
   have g2:(wr.alloc O).cell? ⟨wr.heap.size,1,none⟩=some (.int .i64 k):=by rw [← hO]; simp [go_sem]
   have g3:=r6 O
   have g4:=r7 O
   have g5:=r8 O
   have g6:=r9 O
   have g7:(wr.alloc O).heap.size=wr.heap.size + 1:=by simp
   obtain ⟨W,hW⟩:∃ W,wr.alloc O=W:=⟨_,rfl⟩
   have HW:Hid (Below wr.heap.size wr W):=hW▸ba wr O
   rw [hW] at g1 g2 g3 g4 g5 g6 g7 ⊢
   clear r2 r3 r4 r5 r6 r7 r8 r9 hO hW
   have HB:Below w.heap.size w W:=bt hbl HW.out
   have ne1:¬ w.heap.size=wr.heap.size:=by omega
   have ne2:¬ wr.heap.size=w.heap.size:=by omega
   have lw1:w.heap.size < W.heap.size:=by omega
   have lw2:wr.heap.size < W.heap.size:=by omega
   go_region_held3 (fun w'=>Below w.heap.size w w'∧w'.cell? ⟨wr.heap.size,0,none⟩=some (.slice sa xs.length sc)∧w'.cell? ⟨wr.heap.size,1,none⟩=some (.int .i64 k))
    ((go_split_ands; refine ⟨?_,?_,?_⟩ <;> first | (simp [go_sem, *]; done) | (exact HB.drew) | (exact bt HB.drew hb1) | (exact bs (bs (bt HB.drew hb1) (Nat.le_refl _) _) (Nat.le_refl _) _)))
    ((go_at_call 140; refine (cloneN_any B B _ xs _ ?_ ?_).mono ?_; (have:=HW.out.size; show B≤W.heap.size; omega); (exact HIx.out.at (by omega) HW.out.drew); rintro x1 w1 ⟨v',rfl,hI1,hb1⟩; obtain ⟨av,cv,hv1,_⟩:=hI1 0 (by show 0 < W.heap.size; omega); subst hv1; obtain ⟨hc1,hf1⟩:=bcell hb1; have hs1':=hb1.size; have k1:w1.cell? ⟨w.heap.size,i * 2,none⟩=some v0:=(hc1 _ _ lw1).trans g3; have k2:w1.cell? ⟨w.heap.size,i * 2 + 1,none⟩=some (.int .i64 t0.2.2):=(hc1 _ _ lw1).trans g4; have k3:w1.frozen? ⟨w.heap.size,i * 2,none⟩=false:=(hf1 _ _ lw1).trans g5; have k4:w1.frozen? ⟨w.heap.size,i * 2 + 1,none⟩=false:=(hf1 _ _ lw1).trans g6; have k5:w1.cell? ⟨wr.heap.size,0,none⟩=some (.slice sa xs.length sc):=(hc1 _ _ lw2).trans g1; have k6:w1.cell? ⟨wr.heap.size,1,none⟩=some (.int .i64 k):=(hc1 _ _ lw2).trans g2; clear hc1 hf1))
   have HB1:Below wr.heap.size wr w1:=bt HW.out.drew hb1
   have HR1:Hid (Row w1 w.heap.size 0 us):=HR.out.keep HB1
   have HI1:Hid (∀ t∈us,Ints w1 w1.heap.size w.heap.size t.1 t.2.1):=fun t ht=>(HI.out t ht).at2 HB1
   have HV1:Hid (Ints w1 w1.heap.size w.heap.size (.slice av xs.length cv) xs):=hI1 _ lw1
   have HZ1:Hid (Below w.heap.size w w1):=bt hbl HB1
   have HFR2:Hid (Frs w.heap.size (us.set i (.slice av xs.length cv,xs,k))):=by
    intro t ht
    rcases List.mem_or_eq_of_mem_set ht with h | rfl
    ·exact HFR.out t h
    ·exact fr_of (w:=w1) (B:=w1.heap.size) fun m hm=>hI1 m (by show m < W.heap.size; omega)
   clear hI1 hb1 HB1 k1 k2 k3 k4 k5 k6 g1 g2 g3 g4 g5 g6
   go_wp2
   go_roundw
   case rel =>
    refine ⟨i + 1,us.set i (.slice av xs.length cv,xs,k),by go_num,h1,by simp [hul],?_,HR1.out.set0 (by omega) _ xs k,fun t ht=>?_,bs (bs HZ1.out (Nat.le_refl _) _) (Nat.le_refl _) _,HFR2⟩
    ·rw [rd_set,take_set_succ _ (by rw [rd_len]; omega),HT.out,List.take_add_one,rd_get HS.out]; rfl
    ·have hI2:Ints w1 w1.heap.size w.heap.size t.1 t.2.1:=by
      rcases List.mem_or_eq_of_mem_set ht with h | rfl
      ·exact HI1.out t h
      ·exact HV1.out
     have:=(hI2.set (p:=⟨w.heap.size,i * 2,none⟩) rfl (.slice av xs.length cv)).set (p:=⟨w.heap.size,i * 2 + 1,none⟩) rfl (.int .i64 k)
     simpa using this
   case measure=>simp [intOf]; omega
  ·have hii:i=ts.length:=by omega
   have hrd:rd us=rd ts:=by have:=HT.out; rwa [rd_take_all hii,rd_take_all (by omega)] at this
   have HR:Hid (Row wr w.heap.size 0 us):=hrow
   have HI:Hid (∀ t∈us,Ints wr wr.heap.size w.heap.size t.1 t.2.1):=hI
   have HD:Hid (rd us=rd ts):=hrd
   have HU:Hid (us.length=ts.length):=hul
   clear hrow hI hrd hul
   go_wp2
   go_ret
   exact ⟨.slice (some ⟨w.heap.size,0,none⟩) ts.length ts.length,us,rfl,⟨w.heap.size,0,ts.length,by rw [HU.out],by rw [HU.out]; exact Nat.le_refl _,by rw [HU.out]; exact hl,Nat.le_refl _,HR.out,HI.out⟩,HD.out,hbl,HFR.out⟩
end Go.Proofs.YtlndlpjadajelaaGreat
