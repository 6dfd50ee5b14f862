import Derived.Test.YtlndlpjadajelaaGreatQq37
import Derived.Deep.RegionLaw
namespace Go.Proofs.YtlndlpjadajelaaGreat.K.P
open Go.RowKit Go.Shelf Go.Proofs.YtlndlpjadajelaaGreat.K.Ds
abbrev nilv:Value:=.slice none 0 0
def encI (l:List Int):List Value:=l.map (.int .i64)
theorem encI_snoc (l:List Int) (x:Int):encI (l ++ [x])=encI l ++ [.int .i64 x]:=by simp [encI]
theorem info34:(Tryz.prog.info? 33).map (fun i=>(i.zero,i.size,i.bytes))=some (some (.int .i64 0),1,8):=by kernel_rfl
theorem row_same {w w':World} {base:Nat} {t:TypeId} {sz:Nat} {v:Value} {n:Nat} {xs:List Value} (h:w.ownsRow base t sz v n xs) (hk:∀ g,v.ownBlock=some g→w'.heap[g]? = w.heap[g]?):w'.ownsRow base t sz v n xs:=by
 refine ⟨h.1,?_⟩
 rcases h.2 with h0 | ⟨g,cap,cur,hv,hb,hc,h1,h2,h3,h4⟩
 ·exact .inl h0
 ·exact .inr ⟨g,cap,cur,hv,hb,(hk g (by rw [hv]; rfl)).trans hc,h1,h2,h3,h4⟩
theorem row_lt {w:World} {base:Nat} {t:TypeId} {sz:Nat} {v:Value} {n:Nat} {xs:List Value} (h:w.ownsRow base t sz v n xs) {g:Nat} (hg:v.ownBlock=some g):base≤g∧g < w.heap.size:=by
 rcases h.2 with ⟨rfl,_⟩ | ⟨g',cap,cur,rfl,hb,hc,_⟩
 ·cases hg
 ·simp only [Value.ownBlock,Option.some.injEq] at hg
  subst hg
  exact ⟨hb,(Array.getElem?_eq_some_iff.1 hc).1⟩
theorem row_slice {w:World} {base:Nat} {t:TypeId} {sz:Nat} {v:Value} {n:Nat} {xs:List Value} (h:w.ownsRow base t sz v n xs):∃ a c,v=.slice a n c:=by
 rcases h.2 with ⟨rfl,rfl⟩ | ⟨g',cap,cur,rfl,_⟩
 ·exact ⟨_,_,rfl⟩
 ·exact ⟨_,_,rfl⟩
def Nbk (s:Nat) (er:Value) (k:Nat):Prop:=s + 1≤k∧k≠s + 3∧k≠s + 4∧er.ownBlock≠some k
structure BkL (w wr:World) (l:List En) (k:Nat) (er:Value):Prop where
 bk:∃ n v D,BookM wr (Nbk w.heap.size er) (w.heap.size + 2) (w.heap.size + 1) n v D (bookT [] (l.take k)).2
 px:Boxed wr (w.heap.size + 3) 136 (.pointer (some ⟨w.heap.size + 2,0,none⟩))
 out:SixB wr (w.heap.size + 4) er nilv nilv nilv nilv (.bool false)
 res:SixB wr w.heap.size nilv nilv nilv nilv nilv (.bool false)
 row:wr.ownsRow (w.heap.size + 5) 33 1 er k (encI (bookT [] (l.take k)).1)
 low:Below w.heap.size w wr
 sz:w.heap.size + 5≤wr.heap.size
theorem BkL.next {w wr w5 w6:World} {l:List En} {k:Nat} {er:Value} {e:En} {g cap:Nat} {o o2:Obj} (h:BkL w wr l k er) (he:l[k]? = some e)
  (hK:Keeps (wr.alloc o).drew w5 (Nbk w.heap.size er)) (hB:∃ n v D,BookM w5 (Nbk w.heap.size er) (w.heap.size + 2) (w.heap.size + 1) n v D (stepD (bookT [] (l.take k)).2 e))
  (hown:w6.ownsRow (w.heap.size + 5) 33 1 (.slice (some ⟨g,0,none⟩) (k + 1) cap) (k + 1) (encI (bookT [] (l.take k)).1 ++ [.int .i64 (doT (bookT [] (l.take k)).2 (nrm e))]))
  (hgr:(w5.alloc o2).grownBy w6 er.ownBlock) (hat:er.ownBlock=some g∨g=w5.heap.size + 1) :
  BkL w (w6.setCell ⟨w.heap.size + 4,0,none⟩ (.slice (some ⟨g,0,none⟩) (k + 1) cap)) l (k + 1) (.slice (some ⟨g,0,none⟩) (k + 1) cap):=by
 have hsn:bookT [] (l.take (k + 1))=((bookT [] (l.take k)).1 ++ [doT (bookT [] (l.take k)).2 (nrm e)],stepD (bookT [] (l.take k)).2 e):=by
  rw [List.take_add_one,he]; exact book_snoc _ _ _
 have hs1:wr.heap.size + 1≤w5.heap.size:=by have h1:=hK.size; have h2:(wr.alloc o).drew.heap.size=wr.heap.size + 1:=(by simp [World.drew]); omega
 have hs0:=h.sz
 have hrl:=fun g (hg:er.ownBlock=some g)=>row_lt h.row hg
 have hgg:w.heap.size + 5≤g:=by
  rcases hat with h1 | h1
  ·exact (hrl g h1).1
  ·omega
 have hsame:∀ b,b < wr.heap.size→¬ Nbk w.heap.size er b→er.ownBlock≠some b→b≠w.heap.size + 4→(w6.setCell ⟨w.heap.size + 4,0,none⟩ (.slice (some ⟨g,0,none⟩) (k + 1) cap)).heap[b]? = wr.heap[b]?:=fun b hb hn hne hn4=>by
  rw [show (w6.setCell ⟨w.heap.size + 4,0,none⟩ (.slice (some ⟨g,0,none⟩) (k + 1) cap)).heap[b]? = w6.heap[b]? from Below.heap_setCell _ _ _ _ (by exact fun e=>hn4 e)]
  rw [hgr.block b (by simp; omega) (fun e=>hne e.symm)]
  rw [show (w5.alloc o2).heap[b]? = w5.heap[b]? from Below.heap_alloc _ _ _ (by omega)]
  rw [hK.block b (by show b < (wr.alloc o).heap.size; simp; omega) hn]
  exact Below.heap_alloc _ _ _ hb
 have h4:¬ Nbk w.heap.size er (w.heap.size + 4):=fun c=>c.2.2.1 rfl
 have h3:¬ Nbk w.heap.size er (w.heap.size + 3):=fun c=>c.2.1 rfl
 have hno:∀ b,b < w.heap.size + 5→er.ownBlock≠some b:=fun b hb c=>by have:=(hrl b c).1; omega
 have hg2:w6.grownBy (w6.setCell ⟨w.heap.size + 4,0,none⟩ (.slice (some ⟨g,0,none⟩) (k + 1) cap)) (some (w.heap.size + 4)):=gb_set (gb_refl _ _) 0 _
 have hs6:=hgr.size
 simp only [World.size_alloc] at hs6
 constructor
 ·obtain ⟨n,v,D,hb⟩:=hB
  refine ⟨n,v,D,?_⟩
  rw [hsn]
  have b1:BookM w5 (fun x=>Nbk w.heap.size er x∧x≠g) (w.heap.size + 2) (w.heap.size + 1) n v D (stepD (bookT [] (l.take k)).2 e):=hb.mono (fun x hx hn=>⟨hn,fun c=>by
   rcases hat with h1 | h1
   ·exact hn.2.2.2 (by rw [h1,c])
   ·omega⟩)
  have b2:=b1.gb (gb_trans (World.grownBy_alloc w5 o2 _) hgr) (fun x hx c=>c.1.2.2.2 hx)
  have b3:=b2.gb hg2 (fun x hx c=>by simp only [Option.some.injEq] at hx; exact c.1.2.2.1 hx.symm)
  exact b3.mono (fun x _ hn=>⟨hn.1.1,hn.1.2.1,hn.1.2.2.1,by simp [Value.ownBlock]; exact fun c=>hn.2 c.symm⟩)
 ·exact (hsame _ h.px.lt h3 (hno _ (by omega)) (by omega)).trans h.px
 ·have o6:SixB w6 (w.heap.size + 4) er nilv nilv nilv nilv (.bool false):=by
   refine h.out.same ?_
   rw [hgr.block (w.heap.size + 4) (by simp; omega) (fun e=>hno (w.heap.size + 4) (by omega) e.symm),show (w5.alloc o2).heap[w.heap.size + 4]? = w5.heap[w.heap.size + 4]? from Below.heap_alloc _ _ _ (by omega),hK.block (w.heap.size + 4) (by show _ < (wr.alloc o).heap.size; simp; omega) h4]
   exact Below.heap_alloc _ _ _ (by omega)
  exact o6.put0 _
 ·exact h.res.same (hsame _ h.res.lt (fun c=>by have:=c.1; omega) (hno _ (by omega)) (by omega))
 ·rw [hsn]
  simp only [encI_snoc]
  exact hown.kept hg2 (.inr (by simp [Value.ownBlock]; omega))
 ·refine ⟨?_,?_,?_,?_,fun b hb=>?_⟩
  ·exact hgr.os.trans (hK.os.trans h.low.os)
  ·exact hgr.tape.trans (hK.tape.trans h.low.tape)
  ·exact hgr.output.trans (hK.output.trans h.low.output)
  ·have:=h.low.size; simp [World.setCell]; omega
  ·exact (hsame b (by omega) (fun c=>by have:=c.1; omega) (hno b (by omega)) (by omega)).trans (h.low.block b hb)
 ·simp [World.setCell]; omega
theorem BkL.row5 {w wr X w5:World} {l:List En} {k:Nat} {er:Value} (h:BkL w wr l k er) (hX:Below wr.heap.size wr X) (hK:Keeps X.drew w5 (Nbk w.heap.size er)) (o:Obj):(w5.alloc o).ownsRow (w.heap.size + 5) 33 1 er k (encI (bookT [] (l.take k)).1):=by
 have h5:w5.ownsRow (w.heap.size + 5) 33 1 er k (encI (bookT [] (l.take k)).1):=row_same h.row fun g hg=>by
  have hlt:=(row_lt h.row hg).2
  exact (hK.block g (Nat.lt_of_lt_of_le hlt hX.size) (fun c=>c.2.2.2 hg)).trans (hX.block g hlt)
 refine row_same h5 fun g hg=>?_
 have:=(row_lt h5 hg).2
 exact Below.heap_alloc _ _ _ this
theorem one_cells (w:World) (a:Value) (t:TypeId) (N:Nat) (hN:N=w.heap.size):∀ j u,[a][j]? = some u→(w.alloc (.cells #[a] t)).cell? ((⟨N,0,none⟩:Addr).add j)=some u:=by
 subst hN
 exact fun j u hu=>World.news_of_block (w:=w.alloc (.cells #[a] t)) (B:=w.heap.size) (cs:=#[a]) (t:=t) (fr:=(0,0)) (heap_alloc_new w _) j u (by simpa using hu)
structure Stay (P m:Nat) (A B:World):Prop where
 os:B.os=A.os
 tape:B.tape=A.tape
 output:B.output=A.output
 size:A.heap.size≤B.heap.size
 block:∀ b,b < m→b≠P→B.heap[b]? = A.heap[b]?
theorem Stay.refl (P m:Nat) (A:World):Stay P m A A:=⟨rfl,rfl,rfl,Nat.le_refl _,fun _ _ _=>rfl⟩
theorem Stay.trans {P m:Nat} {A B C:World} (h:Stay P m A B) (k:Stay P m B C):Stay P m A C :=
 ⟨k.os.trans h.os,k.tape.trans h.tape,k.output.trans h.output,Nat.le_trans h.size k.size,fun b hb hn=>(k.block b hb hn).trans (h.block b hb hn)⟩
theorem Stay.mono {P m m':Nat} {A B:World} (h:Stay P m A B) (hm:m'≤m):Stay P m' A B:=⟨h.os,h.tape,h.output,h.size,fun b hb hn=>h.block b (by omega) hn⟩
theorem Stay.gb {P m:Nat} {A B C:World} {r:Option Nat} (h:Stay P m A B) (k:B.grownBy C r) (hm:m≤B.heap.size) (hr:∀ x,r=some x→m≤x∨x=P):Stay P m A C :=
 h.trans ⟨k.os,k.tape,k.output,k.size,fun b hb hn=>k.block b (by omega) (fun e=>by rcases hr b e.symm with h | h; omega; exact hn h)⟩
theorem Stay.below {P m:Nat} {A B C:World} (h:Stay P m A B) (k:Below B.heap.size B C) (hm:m≤B.heap.size):Stay P m A C:=h.gb (gb_none k) hm (by simp)
theorem Stay.grown {P:Nat} {A B:World} (h:Stay P A.heap.size A B):A.grownBy B (some P):=⟨h.os,h.tape,h.output,h.size,fun b hb hn=>h.block b hb (fun e=>hn (by rw [e]))⟩
theorem Stay.kpt {P m:Nat} {A B:World} {K:Nat→Prop} (h:Stay P m A B) (hK:∀ b,K b→b < m∧b≠P):Kpt K A B:=⟨h.size,fun b hb=>h.block b (hK b hb).1 (hK b hb).2⟩
def encQ (l:List Rq):List Value:=l.flatMap fun r=>[.int .i64 r.1,.int .i64 r.2]
theorem encQ_snoc (l:List Rq) (r:Rq):encQ (l ++ [r])=encQ l ++ [.int .i64 r.1,.int .i64 r.2]:=by simp [encQ]
def spQ (dn:List En) (x:List UInt8):Rq:=(spentT dn ⟨x.toArray⟩).1
def buQ (dn:List En) (x:List UInt8):Rq:=(budT dn ⟨x.toArray⟩).getD (0,0)
theorem nam_ok {dn:List En} (h:Inv dn) {x:List UInt8} (hx:x∈nLs dn):budT dn ⟨x.toArray⟩=some (buQ dn x)∧x.length≤32:=by
 obtain ⟨y,hy,rfl⟩:=(nLs_mem dn x).1 hx
 have he:(⟨y.data.toList.toArray⟩:ByteArray)=y:=by cases y; simp
 refine ⟨?_,?_⟩
 ·unfold buQ
  rw [he]
  cases hb:budT dn y with
  | some b=>rfl
  | none=>exact absurd hy ((bud_ops dn y).1 hb)
 ·unfold opsT at hy
  obtain ⟨e,he2,rfl⟩:=List.mem_map.1 hy
  have h1:=(bad_ok (h.bad e (List.mem_filter.1 he2).1).1).2.2.1
  unfold namB at h1
  simp only [Bool.and_eq_true,decide_eq_true_eq] at h1
  exact h1.1.2
structure Trio (W:World) (m:Nat) (nv sv bv:Value) (ns:List (List UInt8)) (ss bs:List Rq):Prop where
 n:W.ownsRow m 9 1 nv ns.length (ns.map encStr)
 s:W.ownsRow m 23 2 sv ss.length (encQ ss)
 b:W.ownsRow m 23 2 bv bs.length (encQ bs)
 ds:∀ g,nv.ownBlock=some g→sv.ownBlock≠some g
 db:∀ g,nv.ownBlock=some g→bv.ownBlock≠some g
 dd:∀ g,sv.ownBlock=some g→bv.ownBlock≠some g
theorem row_gb {W W':World} {m:Nat} {t:TypeId} {z:Nat} {v:Value} {n:Nat} {xs:List Value} {r:Option Nat} (h:W.ownsRow m t z v n xs) (hg:W.grownBy W' r) (hr:∀ g,v.ownBlock=some g→r≠some g):W'.ownsRow m t z v n xs :=
 row_same h fun g hg2=>hg.block g (row_lt h hg2).2 (fun e=>hr g hg2 e.symm)
theorem row_low {W W':World} {m P:Nat} {t:TypeId} {z:Nat} {v:Value} {n:Nat} {xs:List Value} (h:W.ownsRow m t z v n xs) (hg:W.grownBy W' (some P)) (hP:P < m):W'.ownsRow m t z v n xs :=
 row_gb h hg fun g hg2 e=>by have:=(row_lt h hg2).1; simp only [Option.some.injEq] at e; omega
theorem Trio.none {W W':World} {m:Nat} {nv sv bv:Value} {ns:List (List UInt8)} {ss bs:List Rq} (h:Trio W m nv sv bv ns ss bs) (hg:W.grownBy W' none):Trio W' m nv sv bv ns ss bs :=
 ⟨row_gb h.n hg (by simp),row_gb h.s hg (by simp),row_gb h.b hg (by simp),h.ds,h.db,h.dd⟩
theorem Trio.low {W W':World} {m P:Nat} {nv sv bv:Value} {ns:List (List UInt8)} {ss bs:List Rq} (h:Trio W m nv sv bv ns ss bs) (hg:W.grownBy W' (some P)) (hP:P < m):Trio W' m nv sv bv ns ss bs :=
 ⟨row_low h.n hg hP,row_low h.s hg hP,row_low h.b hg hP,h.ds,h.db,h.dd⟩
theorem Trio.nil (W:World) (m:Nat):Trio W m nilv nilv nilv [] [] [] :=
 ⟨⟨rfl,.inl ⟨rfl,rfl⟩⟩,⟨rfl,.inl ⟨rfl,rfl⟩⟩,⟨rfl,.inl ⟨rfl,rfl⟩⟩,fun g hg=>(by cases hg),fun g hg=>(by cases hg),fun g hg=>(by cases hg)⟩
theorem Trio.name {W W':World} {m:Nat} {nv nv' sv bv:Value} {ns:List (List UInt8)} {ss bs:List Rq} {x:List UInt8} (h:Trio W m nv sv bv ns ss bs) (hg:W.grownBy W' nv.ownBlock)
  (hown:W'.ownsRow m 9 1 nv' (ns.length + 1) (ns.map encStr ++ [encStr x])) (hat:nv'.ownBlock=nv.ownBlock∨nv'.ownBlock=some W.heap.size):Trio W' m nv' sv bv (ns ++ [x]) ss bs:=by
 refine ⟨by simpa using hown,row_gb h.s hg (fun g h1 e=>h.ds g e h1),row_gb h.b hg (fun g h1 e=>h.db g e h1),fun g h1 h2=>?_,fun g h1 h2=>?_,h.dd⟩
 ·rcases hat with e | e
  ·rw [e] at h1; exact h.ds g h1 h2
  ·rw [e] at h1; have:=(row_lt h.s h2).2; simp only [Option.some.injEq] at h1; omega
 ·rcases hat with e | e
  ·rw [e] at h1; exact h.db g h1 h2
  ·rw [e] at h1; have:=(row_lt h.b h2).2; simp only [Option.some.injEq] at h1; omega
theorem Trio.spent {W W':World} {m:Nat} {nv sv sv' bv:Value} {ns:List (List UInt8)} {ss bs:List Rq} {x:Rq} (h:Trio W m nv sv bv ns ss bs) (hg:W.grownBy W' sv.ownBlock)
  (hown:W'.ownsRow m 23 2 sv' (ss.length + 1) (encQ ss ++ [.int .i64 x.1,.int .i64 x.2])) (hat:sv.ownBlock=sv'.ownBlock∨sv'.ownBlock=some W.heap.size):Trio W' m nv sv' bv ns (ss ++ [x]) bs:=by
 refine ⟨row_gb h.n hg (fun g h1 e=>h.ds g h1 e),by simpa [encQ_snoc] using hown,row_gb h.b hg (fun g h1 e=>h.dd g e h1),fun g h1 h2=>?_,h.db,fun g h1 h2=>?_⟩
 ·rcases hat with e | e
  ·rw [← e] at h2; exact h.ds g h1 h2
  ·rw [e] at h2; have:=(row_lt h.n h1).2; simp only [Option.some.injEq] at h2; omega
 ·rcases hat with e | e
  ·rw [← e] at h1; exact h.dd g h1 h2
  ·rw [e] at h1; have:=(row_lt h.b h2).2; simp only [Option.some.injEq] at h1; omega
theorem Trio.bud {W W':World} {m:Nat} {nv sv bv bv':Value} {ns:List (List UInt8)} {ss bs:List Rq} {x:Rq} (h:Trio W m nv sv bv ns ss bs) (hg:W.grownBy W' bv.ownBlock)
  (hown:W'.ownsRow m 23 2 bv' (bs.length + 1) (encQ bs ++ [.int .i64 x.1,.int .i64 x.2])) (hat:bv.ownBlock=bv'.ownBlock∨bv'.ownBlock=some W.heap.size):Trio W' m nv sv bv' ns ss (bs ++ [x]):=by
 refine ⟨row_gb h.n hg (fun g h1 e=>h.db g h1 e),row_gb h.s hg (fun g h1 e=>h.dd g h1 e),by simpa [encQ_snoc] using hown,h.ds,fun g h1 h2=>?_,fun g h1 h2=>?_⟩
 ·rcases hat with e | e
  ·rw [← e] at h2; exact h.db g h1 h2
  ·rw [e] at h2; have:=(row_lt h.n h1).2; simp only [Option.some.injEq] at h2; omega
 ·rcases hat with e | e
  ·rw [← e] at h2; exact h.dd g h1 h2
  ·rw [e] at h2; have:=(row_lt h.s h1).2; simp only [Option.some.injEq] at h2; omega
structure BkR (W7:World) (P:Nat) (er en:Value) (dn:List En) (m:Nat) (pre:List (List UInt8)) (W:World):Prop where
 st:Stay P W7.heap.size W7 W
 ex:∃ nv sv bv,SixB W P er en nv sv bv (.bool true)∧Trio W m nv sv bv pre (pre.map (spQ dn)) (pre.map (buQ dn))
theorem bkR_clo {W7:World} {P:Nat} {er en:Value} {dn:List En} (hP:P < W7.heap.size):Clo W7.heap.size (BkR W7 P er en dn):=by
 rintro m pre A B row hm ⟨h1,nv,sv,bv,h2,h3⟩ hg hr
 refine ⟨h1.gb hg h1.size (fun x e=>.inl (hr x e).1),nv,sv,bv,h2.gb hg (fun e=>by have:=hr P e.symm; omega),?_⟩
 have hno:∀ v:Value,∀ z t n xs,A.ownsRow m t z v n xs→∀ g,v.ownBlock=some g→row≠some g:=fun v z t n xs hw g hv e=>by have h4:=(row_lt hw hv).1; have h5:=hr g e; omega
 exact ⟨row_gb h3.n hg (hno _ _ _ _ _ h3.n),row_gb h3.s hg (hno _ _ _ _ _ h3.s),row_gb h3.b hg (hno _ _ _ _ _ h3.b),h3.ds,h3.db,h3.dd⟩
theorem bkR_start {W7 W':World} {P:Nat} {er en:Value} {dn:List En} {m:Nat} (h:SixB W7 P er en nilv nilv nilv (.bool true)) (hg:W7.grownBy W' none):BkR W7 P er en dn m [] W' :=
 ⟨(Stay.refl P _ W7).gb hg (Nat.le_refl _) (by simp),nilv,nilv,nilv,h.gb hg (by simp),Trio.nil _ _⟩
theorem namF_of {W:World} {g base:Nat} {r:Value} {xs:List (List UInt8)} (hg:W.cell? ⟨g,0,none⟩=some r) (hgl:g < W.heap.size) (hrow:W.ownsRow base 9 1 r xs.length (xs.map encStr)) :
  ∃ b a c,r=.slice a xs.length c∧NamF W g b a c xs∧b < W.heap.size∧(b=g∨base≤b):=by
 rcases hrow.2 with ⟨rfl,h0⟩ | ⟨b,cap,cur,rfl,hb,hc,h1,h2,h3,h4⟩
 ·obtain rfl:xs=[]:=List.eq_nil_of_length_eq_zero h0
  exact ⟨g,none,0,rfl,⟨hg,fun h=>absurd rfl h,fun i x hi=>by simp at hi⟩,hgl,.inl rfl⟩
 ·refine ⟨b,_,_,rfl,⟨hg,fun _=>rfl,fun i x hi=>?_⟩,(Array.getElem?_eq_some_iff.1 hc).1,.inr hb⟩
  have hi2:i < xs.length:=(List.getElem?_eq_some_iff.1 hi).1
  have h5:(xs.map encStr)[i]? = some (encStr x):=by simp [hi]
  rw [← h4,List.getElem?_take_of_lt (by omega)] at h5
  simp [World.cell?,hc]
  simpa using h5
theorem info9:(Tryz.prog.info? 9).map (fun i=>(i.zero,i.size,i.bytes))=some (some (.string ⟨#[]⟩),1,16):=by kernel_rfl
theorem info31':(Tryz.prog.info? 23).map (fun i=>(i.zero,i.size,i.bytes))=some (some (.agg #[.int .i64 0,.int .i64 0]),2,16):=by kernel_rfl
structure Mid (Wc:World) (P m b1:Nat) (er en nv sv bv:Value) (sp bu:Rq) (W:World):Prop where
 six:SixB W P er en nv sv bv (.bool true)
 t1:TwoB W b1 (.int .i64 sp.1) (.int .i64 sp.2)
 t2:TwoB W (b1 + 1) (.int .i64 bu.1) (.int .i64 bu.2)
 st:Stay P m Wc W
theorem Mid.gb {Wc W W':World} {P m b1:Nat} {er en nv sv bv:Value} {sp bu:Rq} {r:Option Nat} (h:Mid Wc P m b1 er en nv sv bv sp bu W) (hg:W.grownBy W' r) (hP:P < m) (hm:m≤b1) (hr:∀ x,r=some x→m≤x∧x < b1):Mid Wc P m b1 er en nv sv bv sp bu W' :=
 ⟨h.six.gb hg (fun e=>by have:=hr P e.symm; omega),h.t1.gb hg (fun e=>by have:=hr _ e.symm; omega),h.t2.gb hg (fun e=>by have:=hr _ e.symm; omega),h.st.gb hg (by have:=h.t1.lt; omega) (fun x e=>.inl (hr x e).1)⟩
theorem bkR_end {W7 Wc Wf:World} {P m b1:Nat} {er en nv sv bv sv' bv':Value} {dn:List En} {pre:List (List UInt8)} {x:List UInt8} (hst:Stay P W7.heap.size W7 Wc) (h7:W7.heap.size≤m) (hP:P < m) (hm:m≤b1)
  (hM:Mid Wc P m b1 er en nv sv bv (spQ dn x) (buQ dn x) Wf) (hT:Trio Wf m nv sv' bv' (pre ++ [x]) (pre.map (spQ dn) ++ [spQ dn x]) (pre.map (buQ dn) ++ [buQ dn x])) :
  BkR W7 P er en dn m (pre ++ [x]) ((Wf.setCell ⟨P,3,none⟩ sv').setCell ⟨P,4,none⟩ bv')∧Stay P m Wc ((Wf.setCell ⟨P,3,none⟩ sv').setCell ⟨P,4,none⟩ bv'):=by
 have hg:Wf.grownBy ((Wf.setCell ⟨P,3,none⟩ sv').setCell ⟨P,4,none⟩ bv') (some P):=gb_set (gb_set (gb_refl _ _) 3 _) 4 _
 have hs:Stay P m Wc ((Wf.setCell ⟨P,3,none⟩ sv').setCell ⟨P,4,none⟩ bv'):=hM.st.gb hg (by have:=hM.t1.lt; omega) (fun y hy=>.inr (by simpa using hy.symm))
 refine ⟨⟨hst.trans (hs.mono h7),nv,sv',bv',(hM.six.put3 _).put4 _,?_⟩,hs⟩
 have:=hT.low hg hP
 rw [List.map_append,List.map_append]
 exact this
def waitsB (md:Region.Mode) (ops:Array Oper) (J:Nat→Bool) (i:Nat):Bool:=(List.range ops.size).all fun j=>J j || match ops[j]? with | some oj=>oj.after.any (fun e=>Region.binds md e && e.on == i) | none=>true
theorem waits_of {md:Region.Mode} {ops:Array Oper} {J:Nat→Bool} {i:Nat} (h:waitsB md ops J i=true):Waits md ops J i:=by
 intro j oj hj hJ
 have hlt:j < ops.size:=(Array.getElem?_eq_some_iff.1 hj).1
 have h1:=List.all_eq_true.1 h j (List.mem_range.2 hlt)
 simp only [hJ,Bool.false_or,hj] at h1
 obtain ⟨k,hk,he⟩:=Array.any_eq_true.1 h1
 simp only [Bool.and_eq_true,beq_iff_eq] at he
 exact ⟨_,Array.getElem_mem hk,he.1,he.2⟩
end Go.Proofs.YtlndlpjadajelaaGreat.K.P
