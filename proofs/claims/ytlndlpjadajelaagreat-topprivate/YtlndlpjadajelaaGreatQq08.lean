import Derived.Test.YtlndlpjadajelaaGreatQq07
import Derived.Maps.Own
import Derived.Maps.OwnOps
import Derived.Maps.OwnSet
import Derived.Maps.Views
import Derived.Test.YtlndlpjadajelaaGreatQq05
import Derived.RangeFuncNested
import Derived.RangeFuncBound
import Derived.RangeFuncCalls
import Derived.RangeFuncLeaves
import Derived.Shelf.Abstract
import Derived.Shelf.RegionOpen
import Derived.WalkKit
import Derived.OwnWalkIn
import Derived.TacticsInMore
import Derived.LoopNIn
import Derived.LoopIn
namespace Go.Proofs.YtlndlpjadajelaaGreat
open Go.RowKit Go.Proofs.YtlndlpjadajelaaGreat.Ds
open Go.Maps (Keyed int_keyed keyOf_int_mk)
theorem OwnN.block {w:World} {lo:Nat} {v:Value} {ts:List Tr} (h:OwnN w lo v ts):∀ g,v.ownBlock=some g→lo≤g∧g < w.heap.size:=by
 intro g e
 rcases h with ⟨rfl,_⟩ | ⟨b,o,c,rfl,_,_,hlo,hr,_⟩
 ·cases e
 ·simp only [Value.ownBlock,Option.some.injEq] at e
  subst e
  exact ⟨hlo,hr.lt⟩
theorem OwnN.beside {w w':World} {lo:Nat} {v:Value} {ts:List Tr} {row:Option Nat} (h:OwnN w lo v ts) (hg:w.grownBy w' row) (h1:∀ g,v.ownBlock=some g→some g≠row) (h2:∀ t∈ts,t.2.1≠[]→∀ b o sp n c,t.1=.slice (some ⟨b,o,sp⟩) n c→some b≠row):OwnN w' lo v ts:=by
 rcases h with h | ⟨b,o,c,rfl,hc,hl,hlo,hr,hi⟩
 ·exact .inl h
 ·have hk:w'.heap[b]? = w.heap[b]?:=hg.block b hr.lt (h1 b rfl)
  refine .inr ⟨b,o,c,rfl,hc,hl,hlo,⟨fun i t ht=>?_,fun j hj=>?_,Nat.lt_of_lt_of_le hr.lt hg.size⟩,fun t ht=>?_⟩
  ·exact ⟨(World.cell?_of_block (w:=w) (a:=⟨b,o + i * 2,none⟩) hk).trans (hr.cells i t ht).1,(World.cell?_of_block (w:=w) (a:=⟨b,o + i * 2 + 1,none⟩) hk).trans (hr.cells i t ht).2⟩
  ·exact (World.frozen?_of_block (w:=w) (a:=⟨b,o + j,none⟩) hk).trans (hr.thaw j hj)
  ·have h3:=h2 t ht
   obtain ⟨a,c',hv,hc',hl',hx⟩:=hi t ht
   refine ⟨a,c',hv,hc',hl',fun hne=>?_⟩
   obtain ⟨b',o',ha,hb',hn,hcell⟩:=hx hne
   have h4:=h3 hne b' o' none t.2.1.length c' (by rw [hv,ha])
   exact ⟨b',o',ha,Nat.lt_of_lt_of_le hb' hg.size,hn,fun i x hx=>hg.cell (hcell i x hx) h4⟩
def Dd (w:World) (lo:Nat) (v:Value) (us:List Tr):Prop:=OwnN w lo v us∧Frs lo us
theorem Dd.keep {w w':World} {lo:Nat} {v:Value} {us:List Tr} (h:Dd w lo v us) (hb:Below w.heap.size w w'):Dd w' lo v us:=⟨h.1.keep hb,h.2⟩
theorem Dd.mono {w:World} {lo lo':Nat} {v:Value} {us:List Tr} (h:Dd w lo v us) (hl:lo'≤lo):Dd w lo' v us:=⟨h.1.mono hl,h.2.mono hl⟩
theorem Dd.beside {w w':World} {lo g:Nat} {v:Value} {us:List Tr} (h:Dd w lo v us) (hg:w.grownBy w' (some g)) (hl:g < lo):Dd w' lo v us :=
 ⟨h.1.beside hg (fun g' e=>by have:=(h.1.block g' e).1; simp; omega) (fun t ht hne b o sp n c e=>by have:=h.2 t ht hne b o sp n c e; simp; omega),h.2⟩
theorem Dd.nil (w:World) (lo:Nat):Dd w lo (.slice none 0 0) []:=⟨.inl ⟨rfl,rfl⟩,Frs.nil _⟩
theorem gb_none {w w':World} (h:Below w.heap.size w w'):w.grownBy w' none:=⟨h.os,h.tape,h.output,h.size,fun k hk _=>h.block k hk⟩
theorem gb_setc (w:World) (g k:Nat) (u:Value):w.grownBy (w.setCell ⟨g,k,none⟩ u) (some g):=⟨rfl,rfl,rfl,by simp [World.setCell],fun i _ hr=>Below.heap_setCell _ _ _ _ (by intro e; exact hr (by rw [e]))⟩
def hR:Value→Option (DataW Value × List MemPlace):=fun v=>some (.held v,[])
theorem law3:Keyed Tryz.prog 3:=int_keyed Tryz.underlying3
theorem zero26 (w:World):(zeroValue 44).run Tryz.prog w=.ok (.slice none 0 0) w:=by kernel_rfl
structure Mpi (w:World) (b n lo:Nat) (D:DataW Value) (u d l h:Int):Prop where
 own:w.ownsMap Tryz.prog 3 hR b n D
 el:∀ z:Int,∃ v,D.atKey (.int .i64 z) (.held (.slice none 0 0))=.held v∧(v=.slice none 0 0∨∃ us,Dd w lo v us∧us≠[]∧hideT u d l h z=(rd us,0))
theorem Mpi.keep {w w':World} {b n lo:Nat} {D:DataW Value} {u d l h:Int} (m:Mpi w b n lo D u d l h) (hb:Below w.heap.size w w'):Mpi w' b n lo D u d l h :=
 ⟨m.own.kept (gb_none hb) (by simp),fun z=>let ⟨v,h1,h2⟩:=m.el z; ⟨v,h1,h2.imp id fun ⟨us,a,b,c⟩=>⟨us,a.keep hb,b,c⟩⟩⟩
theorem Mpi.beside {w w':World} {b n lo g:Nat} {D:DataW Value} {u d l h:Int} (m:Mpi w b n lo D u d l h) (hg:w.grownBy w' (some g)) (hne:b≠g) (hl:g < lo):Mpi w' b n lo D u d l h :=
 ⟨m.own.kept hg (by simpa using hne),fun z=>let ⟨v,h1,h2⟩:=m.el z; ⟨v,h1,h2.imp id fun ⟨us,a,b,c⟩=>⟨us,a.beside hg hl,b,c⟩⟩⟩
theorem Mpi.made (w:World) (lo:Nat) (u d l h:Int):Mpi (w.alloc (.map #[] 0)) w.heap.size 0 lo (.map []) u d l h :=
 ⟨World.ownsMap_made _ _ _ _,fun _=>⟨.slice none 0 0,rfl,.inl rfl⟩⟩
theorem Mpi.put {w w':World} {b n lo:Nat} {D:DataW Value} {u d l h:Int} (m:Mpi w b n lo D u d l h) (hg:w.grownBy w' (some b)) (hl:b < lo) {p:Int} {v:Value} {us:List Tr} (hown:w'.ownsMap Tryz.prog 3 hR b (n + 1) (D.put (.int .i64 p) (.held v))) (hd:Dd w lo v us) (hne:us≠[]) (hh:hideT u d l h p=(rd us,0)) :
  Mpi w' b (n + 1) lo (D.put (.int .i64 p) (.held v)) u d l h:=by
 refine ⟨hown,fun z=>?_⟩
 by_cases hz:z=p
 ·subst hz
  exact ⟨v,Maps.atKey_put_same (k:=.int .i64 z) m.own.isMap True.intro _ _,.inr ⟨us,hd.beside hg hl,hne,hh⟩⟩
 ·obtain ⟨v',h1,h2⟩:=m.el z
  exact ⟨v',by rw [Maps.atKey_put_other (by simpa using hz)]; exact h1,h2.imp id fun ⟨us,a,b,c⟩=>⟨us,a.beside hg hl,b,c⟩⟩
theorem Mpi.look {w:World} {b n lo:Nat} {D:DataW Value} {u d l h:Int} (m:Mpi w b n lo D u d l h) {p:Int} (hp:(Lit.int .i64 p).wf=true) {v:Value} (hv:D.atKey (.int .i64 p) (.held (.slice none 0 0))=.held v) :
  (Instr.lookup 121 (.map (some b)) (.int .i64 p) false).run Tryz.prog w=.ok v w:=by
 obtain ⟨v',ps,hrun,hat⟩:=m.own.lookup law3 Tryz.underlying121 (zero26 w) (zd:=.held (.slice none 0 0)) (zp:=[]) rfl (keyOf_int_mk Tryz.underlying3 hp)
 rw [hv] at hat
 simp [hR] at hat
 rw [hrun,hat.1]
abbrev Dz:=Value × List Tr
structure RowD (w:World) (g lo:Nat) (zs:List Dz):Prop where
 lt:g < w.heap.size
 cell:∀ j z,zs[j]? = some z→w.cell? ⟨g,j,none⟩=some z.1
 thaw:∀ j,j < zs.length→w.frozen? ⟨g,j,none⟩=false
 el:∀ z∈zs,Dd w lo z.1 z.2
def rds (zs:List Dz):List (List Pt):=zs.map fun z=>rd z.2
theorem RowD.keep {w w':World} {g lo:Nat} {zs:List Dz} (h:RowD w g lo zs) (hb:Below w.heap.size w w'):RowD w' g lo zs :=
 ⟨Nat.lt_of_lt_of_le h.lt hb.size,fun j z hj=>(hb.cell (p:=⟨g,j,none⟩) h.lt).trans (h.cell j z hj),fun j hj=>(hb.frozen (p:=⟨g,j,none⟩) h.lt).trans (h.thaw j hj),fun z hz=>(h.el z hz).keep hb⟩
theorem RowD.beside {w w':World} {g lo r:Nat} {zs:List Dz} (h:RowD w g lo zs) (hg:w.grownBy w' (some r)) (hne:g≠r) (hl:r < lo):RowD w' g lo zs:=by
 have hk:w'.heap[g]? = w.heap[g]?:=hg.block g h.lt (by simpa using hne)
 exact ⟨Nat.lt_of_lt_of_le h.lt hg.size,fun j z hj=>(World.cell?_of_block (w:=w) (a:=⟨g,j,none⟩) hk).trans (h.cell j z hj),fun j hj=>(World.frozen?_of_block (w:=w) (a:=⟨g,j,none⟩) hk).trans (h.thaw j hj),fun z hz=>(h.el z hz).beside hg hl⟩
theorem RowD.set {w:World} {g lo i:Nat} {zs:List Dz} (h:RowD w g lo zs) (hi:i < zs.length) (hl:g < lo) {v:Value} {us:List Tr} (hd:Dd w lo v us):RowD (w.setCell ⟨g,i,none⟩ v) g lo (zs.set i (v,us)):=by
 refine ⟨by simpa using h.lt,fun j z hj=>?_,fun j hj=>by rw [sc_frozen]; exact h.thaw j (by simpa using hj),fun z hz=>?_⟩
 ·by_cases hij:i=j
  ·subst hij
   rw [List.getElem?_set_self hi] at hj
   obtain rfl:(v,us)=z:=by simpa using hj
   obtain ⟨z0,hz0⟩:=get_lt hi
   exact sc_same (h.cell i z0 hz0)
  ·rw [List.getElem?_set_ne hij] at hj
   rw [sc_other (by simp)]
   exact h.cell j z hj
 ·rcases List.mem_or_eq_of_mem_set hz with h1 | rfl
  ·exact (h.el z h1).beside (gb_setc w g i v) hl
  ·exact hd.beside (gb_setc w g i v) hl
theorem rowD_made (w:World) (n lo:Nat):RowD (w.alloc (.cells (madeCells #[.slice none 0 0] n) 44)) w.heap.size lo (List.replicate n (.slice none 0 0,[])):=by
 refine ⟨by simp,fun j z hj=>?_,fun j _=>World.frozen?_alloc_at _ _ _ _ rfl,fun z hz=>?_⟩
 ·have hi:j < n:=by have:=(List.getElem?_eq_some_iff.1 hj).1; simpa using this
  obtain rfl:z=(.slice none 0 0,[]):=by
   have:=(List.getElem?_eq_some_iff.1 hj).2; simp at this; exact this.symm
  rw [World.cell?_alloc_at _ _ _ _ rfl]
  simp [madeCells,hi,Nat.mod_one]
 ·rw [List.eq_of_mem_replicate hz]; exact Dd.nil _ _
def hidsT (u d lo hi:Int):List Int→List (List Pt) × Int
 | []=>([],0)
 | n :: ns=>if (hideT u d lo hi n).2≠0 then ([],(hideT u d lo hi n).2) else if (hidsT u d lo hi ns).2≠0 then ([],(hidsT u d lo hi ns).2) else ((hideT u d lo hi n).1 :: (hidsT u d lo hi ns).1,0)
theorem hids_ok {u d lo hi:Int} {ns:List Int} (h:∀ n∈ns,(hideT u d lo hi n).2=0):hidsT u d lo hi ns=(ns.map fun n=>(hideT u d lo hi n).1,0):=by
 induction ns with
 | nil=>rfl
 | cons n ns ih =>
  have h1:=ih fun x hx=>h x (List.mem_cons_of_mem _ hx)
  have h2:=h n (List.mem_cons_self ..)
  simp [hidsT,h1,h2]
theorem hids_err {u d lo hi:Int} {ns:List Int} {i:Nat} {n e:Int} (h:∀ x∈ns.take i,(hideT u d lo hi x).2=0) (hn:ns[i]? = some n) (he:(hideT u d lo hi n).2=e) (he0:e≠0):hidsT u d lo hi ns=([],e):=by
 induction ns generalizing i with
 | nil=>simp at hn
 | cons m ns ih =>
  cases i with
  | zero =>
   simp at hn; subst hn
   rw [hidsT,if_pos (by rw [he]; exact he0),he]
  | succ i =>
   have h2:=h m (by simp)
   have h1:=ih (i:=i) (fun x hx=>h x (by simp [hx])) (by simpa using hn)
   rw [hidsT,if_neg (by simp [h2]),h1]
   simp [he0]
theorem hide_plc (u d lo hi n:Int):hideT u d lo hi (plcT lo hi n)=hideT u d lo hi n:=by
 unfold hideT
 split
 ·rfl
 ·split
  ·rfl
  ·rename_i h
   have:plcT lo hi (plcT lo hi n)=plcT lo hi n:=by unfold plcT; omega
   rw [this]
theorem hide_ne {u d lo hi n:Int} {l:List Pt} (h:hideT u d lo hi n=(l,0)):l≠[]:=by
 have mk:∀ {L:List Pt},makeT L=(l,0)→l≠[]:=by
  intro L hL
  unfold makeT at hL
  split at hL
  ·unfold lowT at hL
   split at hL
   ·simp at hL
   ·split at hL
    ·simp at hL
    ·rename_i h1 _
     simp at hL
     rw [← hL]
     simp [cut,h1]
  ·simp at hL
 unfold hideT at h
 split at h
 ·rename_i h1; simp at h; exact absurd h.2 h1
 ·split at h
  ·simp at h
  ·split at h
   ·exact mk h
   ·split at h
    ·simp at h
    ·exact mk h
def DosN (w:World) (h:Nat) (v:Value) (zs:List Dz):Prop :=
 (v=.slice none 0 0∧zs=[])∨∃ g cap lo,v=.slice (some ⟨g,0,none⟩) zs.length cap∧zs.length≤cap∧zs.length≤1048576∧RowD w g lo zs∧h≤g∧h≤lo
def HidsP (w:World) (l:List (List Pt)) (er:Int) (e:Ending) (w':World):Prop :=
 ∃ v zs,e=.returned (.tuple #[v,.int .i64 er])∧rds zs=l∧DosN w' w.heap.size v zs∧Below w.heap.size w w'
end Go.Proofs.YtlndlpjadajelaaGreat
namespace Go.Proofs.YtlndlpjadajelaaGreat
open Go.RowKit Go.Shelf Go.Proofs.YtlndlpjadajelaaGreat.Ds
def sideT:List Tr→List Tr→Int
 | [],_=>1
 | _ :: _,[]=>-1
 | a :: _,b :: _=>cmpT a.2.1 b.2.1
set_option maxHeartbeats 1000000 in
theorem first_any (B:Nat) (u v:Value) (ts us:List Tr) (w:World) (hB:B≤w.heap.size) (hp:Parts w B u ts) (hq:Parts w B v us) (r:Int) (hr:sideT ts us=r) :
  Calls Tryz.prog 88 #[u,v] w fun e w'=>e=.returned (.int .i64 r)∧Below w.heap.size w w':=by
 have HP:Hid (Parts w B u ts):=hp
 have HQ:Hid (Parts w B v us):=hq
 obtain ⟨a,c,rfl,hc,hl,_⟩:=hp
 obtain ⟨a2,c2,rfl,hc2,hl2,_⟩:=hq
 cases ts with
 | nil =>
  simp only [sideT] at hr
  subst hr
  go_enter Tryz.func88,Tryz.ntmps88
  go_wp2
  go_ret
  exact ⟨rfl,Below.refl _ _⟩
 | cons t ts =>
  have z0:(((t :: ts).length:Int) == 0)=false:=by simp; omega
  cases us with
  | nil =>
   simp only [sideT] at hr
   subst hr
   go_enter Tryz.func88,Tryz.ntmps88
   go_wp2
   go_ret
   exact ⟨rfl,Below.refl _ _⟩
  | cons s us =>
   have z1:(((s :: us).length:Int) == 0)=false:=by simp; omega
   obtain ⟨b,o,sa,sc,xs,k,rfl,hb,hs,c1,c2',hI⟩:=HP.out.get hB (Below.refl _ w) (i:=0) (by simp)
   obtain ⟨b2,o2,sa2,sc2,xs2,k2,rfl,hb2,hs2,d1,d2,hI2⟩:=HQ.out.get hB (Below.refl _ w) (i:=0) (by simp)
   simp at hs hs2
   subst hs hs2
   have HI:Hid (Ints w B B (.slice sa xs.length sc) xs):=hI
   have HI2:Hid (Ints w B B (.slice sa2 xs2.length sc2) xs2):=hI2
   have HR:Hid (cmpT xs xs2=r):=hr
   simp only [Nat.zero_mul,Nat.add_zero] at c1 c2' d1 d2
   have y0:(0:Int) < (((.slice sa xs.length sc,xs,k) :: ts:List Tr).length:Int):=by simp <;> omega
   have y1:(0:Int) < (((.slice sa2 xs2.length sc2,xs2,k2) :: us:List Tr).length:Int):=by simp <;> omega
   obtain ⟨n1,hn1⟩:∃ n,((.slice sa xs.length sc,xs,k) :: ts:List Tr).length=n:=⟨_,rfl⟩
   obtain ⟨n2,hn2⟩:∃ n,((.slice sa2 xs2.length sc2,xs2,k2) :: us:List Tr).length=n:=⟨_,rfl⟩
   rw [hn1] at z0 y0 ⊢
   rw [hn2] at z1 y1 ⊢
   have x0:0 < n1:=by omega
   have x1:0 < n2:=by omega
   clear hI hI2 hr HP HQ hc hl hc2 hl2 hn1 hn2
   go_enter Tryz.func88,Tryz.ntmps88
   go_wp2_with fail
   go_region_held3 (fun w'=>Below w.heap.size w w'∧w'.cell? ⟨b,o,none⟩=some (.slice sa xs.length sc)∧w'.cell? ⟨b,o + 1,none⟩=some (.int .i64 k)∧w'.cell? ⟨b2,o2,none⟩=some (.slice sa2 xs2.length sc2)∧w'.cell? ⟨b2,o2 + 1,none⟩=some (.int .i64 k2))
    ((go_split_ands; refine ⟨?_,?_,?_,?_,?_⟩ <;> first | (simp [go_sem, *]; done) | (exact (Below.refl _ _).drew) | (exact bt (Below.refl _ _).drew hb1)))
    ((go_at_call 150; refine (order_b B B B _ _ _ _ xs xs2 _ ?_ ?_ ?_ r HR.out).mono ?_; (show B≤w.heap.size; omega); (exact HI.out.keep (Below.refl _ _).drew); (exact HI2.out.keep (Below.refl _ _).drew); rintro x1 w1 ⟨rfl,hb1⟩; obtain ⟨hc1,hf1⟩:=bcell hb1; have e1:w1.cell? ⟨b,o,none⟩=some (.slice sa xs.length sc):=(hc1 _ _ hb).trans c1; have e2:w1.cell? ⟨b,o + 1,none⟩=some (.int .i64 k):=(hc1 _ _ hb).trans c2'; have e3:w1.cell? ⟨b2,o2,none⟩=some (.slice sa2 xs2.length sc2):=(hc1 _ _ hb2).trans d1; have e4:w1.cell? ⟨b2,o2 + 1,none⟩=some (.int .i64 k2):=(hc1 _ _ hb2).trans d2; clear hc1 hf1))
   rename_i hHeld
   go_wp2
   go_ret
   exact ⟨rfl,hHeld.1⟩
def mrg:List Tr→List Tr→List (Tr × Tr)
 | [],[]=>[]
 | [],b :: bs=>(no,b) :: mrg [] bs
 | a :: az,[]=>(a,no) :: mrg az []
 | a :: az,b :: bs=>if cmpT a.2.1 b.2.1 < 0 then (a,no) :: mrg az (b :: bs) else if 0 < cmpT a.2.1 b.2.1 then (no,b) :: mrg (a :: az) bs else (a,b) :: mrg az bs
termination_by az bs=>az.length + bs.length
theorem Parts.tail {w:World} {B:Nat} {b o n c:Nat} {t:Tr} {ts:List Tr} (h:Parts w B (.slice (some ⟨b,o,none⟩) n c) (t :: ts)) (A:Option Addr) (hA:1 < c→A=some ⟨b,o + 2,none⟩):Parts w B (.slice A ts.length (c - 1)) ts:=by
 obtain ⟨a',c',hv,hc,hl,hi,hx⟩:=h
 simp only [Value.slice.injEq] at hv
 obtain ⟨rfl,rfl,rfl⟩:=hv
 simp only [List.length_cons] at hc hl
 refine ⟨A,c - 1,rfl,by omega,by omega,fun u hu=>hi u (by simp [hu]),fun hne=>?_⟩
 have hpos:0 < ts.length:=List.length_pos_iff.2 hne
 obtain ⟨b',o',he,hb,hcell⟩:=hx (by simp)
 simp only [Option.some.injEq,Addr.mk.injEq,and_true] at he
 obtain ⟨rfl,rfl⟩:=he
 refine ⟨b,o + 2,hA (by omega),hb,fun i u hu=>?_⟩
 have:=hcell (i + 1) u (by simpa using hu)
 rw [show o + 2 + i * 2=o + (i + 1) * 2 by omega]
 exact this
end Go.Proofs.YtlndlpjadajelaaGreat
