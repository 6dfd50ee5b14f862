import Derived.Test.YtlndlpjadajelaaGreatQq39
namespace Go.Proofs.YtlndlpjadajelaaGreat.K.P
open Go.RowKit Go.Shelf Go.Proofs.YtlndlpjadajelaaGreat.K.Ds
theorem q_none {dn:List En} (h:Inv dn):budT dn ⟨#[63]⟩=none:=by
 cases hb:budT dn ⟨#[63]⟩ with
 | none=>rfl
 | some b =>
  exfalso
  have hm:(⟨#[63]⟩:ByteArray)∈opsT dn:=by
   refine Classical.byContradiction fun hn=>?_
   rw [(bud_ops dn _).2 hn] at hb
   cases hb
  unfold opsT at hm
  obtain ⟨e,he2,he3⟩:=List.mem_map.1 hm
  have h1:=(bad_ok (h.bad e (List.mem_filter.1 he2).1).1).2.2.1
  rw [he3] at h1
  revert h1
  decide
theorem Keeps.imp {a b:World} {N N':Nat→Prop} (h:Keeps a b N) (hN:∀ k,k < a.heap.size→N k→N' k):Keeps a b N':=⟨h.os,h.tape,h.output,h.size,fun k hk hn=>h.block k hk (fun c=>hn (hN k hk c))⟩
theorem keeps_refl (a:World) (N:Nat→Prop):Keeps a a N:=⟨rfl,rfl,rfl,Nat.le_refl _,fun _ _ _=>rfl⟩
theorem row_keeps {w w':World} {N:Nat→Prop} {base:Nat} {t:TypeId} {sz:Nat} {v:Value} {n:Nat} {xs:List Value} (h:w.ownsRow base t sz v n xs) (hk:Keeps w w' N) (hn:∀ g,v.ownBlock=some g→¬ N g):w'.ownsRow base t sz v n xs :=
 row_same h fun g hg=>hk.block g (row_lt h hg).2 (hn g hg)
theorem row_base {w:World} {base base':Nat} {t:TypeId} {sz:Nat} {v:Value} {n:Nat} {xs:List Value} (h:w.ownsRow base t sz v n xs) (hb:base'≤base):w.ownsRow base' t sz v n xs:=by
 refine ⟨h.1,?_⟩
 rcases h.2 with h0 | ⟨g,cap,cur,hv,hb2,hc⟩
 ·exact .inl h0
 ·exact .inr ⟨g,cap,cur,hv,by omega,hc⟩
def BkdP (l:List En) (w:World):Ending→World→Prop:=fun x w'=>∃ er en nv sv bv,x=.returned (.agg #[er,en,nv,sv,bv,.bool true])∧Below w.heap.size w w' ∧
 w'.ownsRow w.heap.size 33 1 er l.length (encI (bookT [] l).1)∧w'.ownsRow w.heap.size 87 5 en (bookT [] l).2.length (enc (bookT [] l).2) ∧
 w'.ownsRow w.heap.size 9 1 nv (nLs (bookT [] l).2).length ((nLs (bookT [] l).2).map encStr) ∧
 w'.ownsRow w.heap.size 23 2 sv (nLs (bookT [] l).2).length (encQ ((nLs (bookT [] l).2).map (spQ (bookT [] l).2))) ∧
 w'.ownsRow w.heap.size 23 2 bv (nLs (bookT [] l).2).length (encQ ((nLs (bookT [] l).2).map (buQ (bookT [] l).2)))
structure ClK (V1:World) (P Bk Bn:Nat) (er en nv sv bv:Value) (W:World):Prop where
 six:SixB W P er en nv sv bv (.bool true)
 kp:Keeps V1 W (fun k=>k=P∨k=Bk∨k=Bn)
structure ClJ (V1:World) (P Bk Bn:Nat) (er en nv sv bv:Value) (i:Nat) (W:World):Prop where
 st:ClK V1 P Bk Bn er en nv sv bv W
 k:Boxed W Bk 3 (.int .i64 (i:Int))
 n:Boxed W Bn 4 (.bool false)
theorem clJ_step {V1 W:World} {P Bk Bn:Nat} {er en nv sv bv:Value} {i:Nat} (h:ClJ V1 P Bk Bn er en nv sv bv i W) (r:Bool) (d1:P≠Bn) (d2:P≠Bk) (d3:Bn≠Bk) :
  ClK V1 P Bk Bn er en nv sv bv (((W.setCell ⟨P,5,none⟩ (.bool true)).setCell ⟨Bk,0,none⟩ (.int .i64 ((i:Int) + 1))).setCell ⟨Bn,0,none⟩ (.bool (!r))) ∧
  (r=true→ClJ V1 P Bk Bn er en nv sv bv (i + 1) (((W.setCell ⟨P,5,none⟩ (.bool true)).setCell ⟨Bk,0,none⟩ (.int .i64 ((i:Int) + 1))).setCell ⟨Bn,0,none⟩ (.bool (!r)))) ∧
  Keeps W (((W.setCell ⟨P,5,none⟩ (.bool true)).setCell ⟨Bk,0,none⟩ (.int .i64 ((i:Int) + 1))).setCell ⟨Bn,0,none⟩ (.bool (!r))) (fun k=>k=P∨k=Bk∨k=Bn):=by
 have g1:W.grownBy (W.setCell ⟨P,5,none⟩ (.bool true)) (some P):=gb_set (gb_refl _ _) 5 _
 have g2:(W.setCell ⟨P,5,none⟩ (.bool true)).grownBy ((W.setCell ⟨P,5,none⟩ (.bool true)).setCell ⟨Bk,0,none⟩ (.int .i64 ((i:Int) + 1))) (some Bk):=gb_set (gb_refl _ _) 0 _
 have g3:((W.setCell ⟨P,5,none⟩ (.bool true)).setCell ⟨Bk,0,none⟩ (.int .i64 ((i:Int) + 1))).grownBy (((W.setCell ⟨P,5,none⟩ (.bool true)).setCell ⟨Bk,0,none⟩ (.int .i64 ((i:Int) + 1))).setCell ⟨Bn,0,none⟩ (.bool (!r))) (some Bn):=gb_set (gb_refl _ _) 0 _
 have s3:SixB (((W.setCell ⟨P,5,none⟩ (.bool true)).setCell ⟨Bk,0,none⟩ (.int .i64 ((i:Int) + 1))).setCell ⟨Bn,0,none⟩ (.bool (!r))) P er en nv sv bv (.bool true):=((h.st.six.put5 (.bool true)).gb g2 (by simpa using d2)).gb g3 (by simpa using d1)
 have kw:Keeps W (((W.setCell ⟨P,5,none⟩ (.bool true)).setCell ⟨Bk,0,none⟩ (.int .i64 ((i:Int) + 1))).setCell ⟨Bn,0,none⟩ (.bool (!r))) (fun k=>k=P∨k=Bk∨k=Bn) :=
  keeps_after (keeps_after (keeps_gb g1 (fun k e=>.inl (.inl (by simpa using e.symm)))) g2 (fun k e=>.inl (.inr (.inl (by simpa using e.symm))))) g3 (fun k e=>.inl (.inr (.inr (by simpa using e.symm))))
 have hk:ClK V1 P Bk Bn er en nv sv bv (((W.setCell ⟨P,5,none⟩ (.bool true)).setCell ⟨Bk,0,none⟩ (.int .i64 ((i:Int) + 1))).setCell ⟨Bn,0,none⟩ (.bool (!r))):=⟨s3,h.st.kp.trans kw⟩
 refine ⟨hk,fun hr=>?_,kw⟩
 subst hr
 refine ⟨hk,?_,?_⟩
 ·have b1:Boxed ((W.setCell ⟨P,5,none⟩ (.bool true)).setCell ⟨Bk,0,none⟩ (.int .i64 ((i:Int) + 1))) Bk 3 (.int .i64 ((i:Int) + 1)):=Boxed.set _ (h.k.kept g1 (by simpa using d2.symm))
  have:=b1.kept g3 (by simpa using d3.symm)
  simpa using this
 ·exact Boxed.set (.bool false) ((h.n.kept g1 (by simpa using d1.symm)).kept g2 (by simpa using d3))
end Go.Proofs.YtlndlpjadajelaaGreat.K.P
