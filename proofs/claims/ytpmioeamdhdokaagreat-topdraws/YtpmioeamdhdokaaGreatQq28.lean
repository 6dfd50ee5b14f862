import Derived.Test.YtpmioeamdhdokaaGreatQq24
import Derived.Test.YtpmioeamdhdokaaGreatQq27
import Derived.Test.YtpmioeamdhdokaaGreatQq13
import Derived.Test.YtpmioeamdhdokaaGreatQq12
import Derived.Laws.Bits
import Derived.Test.YtpmioeamdhdokaaGreatQq23
import Derived.Laws.Shifts
import Derived.Deep.RegionLaw
import Derived.Deep.RegionHeld3
import Derived.BigRegion
namespace Go.Proofs.YtpmioeamdhdokaaGreat.K.P
open Go.RowKit Go.Proofs.YtpmioeamdhdokaaGreat.K.Ds
theorem cl_kp {w w':World} {b k:Nat} {v:Value} {N:Nat→Prop} (h:Cl w b k v) (hk:Keeps w w' N) (hn:¬ N b):Cl w' b k v :=
 have e:=hk.block b h.lt hn
 ⟨(World.cell?_of_block (w:=w) (a:=⟨b,k,none⟩) e).trans h.c,(World.frozen?_of_block (w:=w) (a:=⟨b,k,none⟩) e).trans h.f,Nat.lt_of_lt_of_le h.lt hk.size⟩
theorem keeps_set {a b:World} {N:Nat→Prop} (h:Keeps a b N) {p:Addr} (hp:N p.block∨a.heap.size≤p.block) (u:Value):Keeps a (b.setCell p u) N :=
 ⟨h.os,h.tape,h.output,by simp [World.setCell]; exact h.size,fun k hk hn=>(Below.heap_setCell _ _ _ _ (by rintro rfl; rcases hp with c | c; exact hn c; omega)).trans (h.block k hk hn)⟩
structure DskM (w:World) (bd bw:Nat) (a:Option Addr) (c:Nat) (disk:List Int) (left:Int):Prop where
 c0:Cl w bd 0 (.slice a disk.length c)
 c1:Cl w bd 1 (.int .i64 left)
 c2:Cl w bd 2 (.bool false)
 ad:disk≠[]→a=some ⟨bw,0,none⟩
 ar:∀ i x,disk[i]? = some x→Cl w bw i (.int .i64 x)
 cp:disk.length≤c
 ne:bd≠bw
theorem DskM.kp {w w':World} {bd bw:Nat} {a:Option Addr} {c:Nat} {disk:List Int} {left:Int} {N:Nat→Prop} (h:DskM w bd bw a c disk left) (hk:Keeps w w' N) (h1:¬ N bd) (h2:¬ N bw):DskM w' bd bw a c disk left :=
 ⟨cl_kp h.c0 hk h1,cl_kp h.c1 hk h1,cl_kp h.c2 hk h1,h.ad,fun i x hi=>cl_kp (h.ar i x hi) hk h2,h.cp,h.ne⟩
theorem DskM.at {w w':World} {bd bw:Nat} {a:Option Addr} {c:Nat} {disk:List Int} {left:Int} (h:DskM w bd bw a c disk left) (hb:Below w.heap.size w w'):DskM w' bd bw a c disk left :=
 h.kp (N:=fun _=>False) (keeps_below hb) (fun h=>h) (fun h=>h)
theorem DskM.left {w:World} {bd bw:Nat} {a:Option Addr} {c:Nat} {disk:List Int} {left:Int} (h:DskM w bd bw a c disk left) (l':Int):DskM (w.setCell ⟨bd,1,none⟩ (.int .i64 l')) bd bw a c disk l' :=
 ⟨h.c0.oth (.inr (by decide)) _,h.c1.set _,h.c2.oth (.inr (by decide)) _,h.ad,fun i x hi=>(h.ar i x hi).oth (.inl h.ne) _,h.cp,h.ne⟩
theorem DskM.put {w:World} {bd bw:Nat} {a:Option Addr} {c:Nat} {disk:List Int} {left:Int} (h:DskM w bd bw a c disk left) {i:Nat} (hi:i < disk.length) (x:Int):DskM (w.setCell ⟨bw,i,none⟩ (.int .i64 x)) bd bw a c (disk.set i x) left:=by
 have h0:Cl (w.setCell ⟨bw,i,none⟩ (.int .i64 x)) bd 0 (.slice a (disk.set i x).length c):=by rw [List.length_set]; exact h.c0.oth (b':=bw) (k':=i) (.inl h.ne.symm) (.int .i64 x)
 refine ⟨h0,h.c1.oth (.inl h.ne.symm) _,h.c2.oth (.inl h.ne.symm) _,fun hne=>h.ad (by rintro rfl; simp at hi),fun j y hj=>?_,by rw [List.length_set]; exact h.cp,h.ne⟩
 by_cases c:i=j
 ·subst c
  rw [List.getElem?_set_self hi] at hj
  cases hj
  obtain ⟨z,hz⟩:∃ z,disk[i]? = some z:=⟨_,List.getElem?_eq_getElem hi⟩
  exact (h.ar i z hz).set _
 ·rw [List.getElem?_set_ne c] at hj
  exact (h.ar j y hj).oth (.inr c) _
theorem dsize_any (bd bw:Nat) (a:Option Addr) (c:Nat) (disk:List Int) (left:Int) (w:World) (h:DskM w bd bw a c disk left) :
  Calls Tryz.prog 332 #[.pointer (some ⟨bd,0,none⟩)] w fun e w'=>e=.returned (.int .i64 disk.length)∧w' = w:=by
 have m0:=h.c0.c
 go_enter Tryz.func332,Tryz.ntmps332
 go_wp2
 go_ret
 exact ⟨rfl,rfl⟩
theorem dget_any (bd bw:Nat) (a:Option Addr) (c:Nat) (disk:List Int) (left:Int) (i:Nat) (x:Int) (w:World) (h:DskM w bd bw a c disk left) (hx:disk[i]? = some x) :
  Calls Tryz.prog 330 #[.pointer (some ⟨bd,0,none⟩),.int .i64 i] w fun e w'=>e=.returned (.int .i64 x)∧w' = w:=by
 have m0:=h.c0.c
 have hi:i < disk.length:=(List.getElem?_eq_some_iff.1 hx).1
 have hc:=h.cp
 have ha:=h.ad (by rintro rfl; simp at hi)
 subst ha
 have m1:=(h.ar i x hx).c
 have q1:¬ ((i:Int) < 0):=by omega
 have q2:¬ ((disk.length:Int)≤(i:Int)):=by omega
 clear h
 go_enter Tryz.func330,Tryz.ntmps330
 go_wp2
 go_ret
 exact ⟨rfl,rfl⟩
def PutP (bd bw:Nat) (a:Option Addr) (c:Nat) (d':List Int) (l':Int) (ok:Bool) (w:World):Ending→World→Prop:=fun e w' =>
 e=.returned (.bool ok)∧DskM w' bd bw a c d' l'∧Keeps w w' (fun k=>k=bd∨k=bw)∧w'.heap.size=w.heap.size
theorem dput_any (bd bw:Nat) (a:Option Addr) (c:Nat) (disk:List Int) (left:Int) (i:Nat) (x:Int) (w:World) (h:DskM w bd bw a c disk left) (hi:i < disk.length) (hl:-9223372036854775808≤left∧left≤9223372036854775807) (d':List Int) (l':Int) (ok:Bool) (hp:putT disk left [(i,x)]=(d',l',ok)) :
  Calls Tryz.prog 331 #[.pointer (some ⟨bd,0,none⟩),.int .i64 i,.int .i64 x] w (PutP bd bw a c d' l' ok w):=by
 have H:Hid (DskM w bd bw a c disk left):=h
 have m0:=h.c0.c
 have hc:=h.cp
 have ha:=h.ad (by rintro rfl; simp at hi)
 subst ha
 obtain ⟨y,hy⟩:∃ y,disk[i]? = some y:=⟨_,List.getElem?_eq_getElem hi⟩
 have m1:=(h.ar i y hy).c
 have n1:=(h.ar i y hy).f
 have m2:=h.c1.c
 have n2:=h.c1.f
 have hne:=h.ne
 have q1:¬ ((i:Int) < 0):=by omega
 have q2:¬ ((disk.length:Int)≤(i:Int)):=by omega
 clear h hy
 by_cases c0:left=0
 ·subst c0
  simp only [putT,if_true,Prod.mk.injEq] at hp
  obtain ⟨rfl,rfl,rfl⟩:=hp
  go_enter Tryz.func331,Tryz.ntmps331
  go_wp2
  go_ret
  exact ⟨rfl,H.out,keeps_below (Below.refl _ _),rfl⟩
 ·simp only [putT,if_neg c0,Prod.mk.injEq] at hp
  obtain ⟨rfl,rfl,rfl⟩:=hp
  have q3:(left == 0)=false:=by simpa using c0
  by_cases c1:0 < left
  ·rw [if_pos c1]
   have q4:IntKind.i64.wrap (left - 1)=left - 1:=by rw [IntKind.wrap_i64]; omega
   go_enter Tryz.func331,Tryz.ntmps331
   go_wp2
   go_ret
   exact ⟨rfl,(H.out.left _).put hi _,keeps_set (keeps_set (keeps_below (Below.refl _ _)) (.inl (.inl rfl)) _) (.inl (.inr rfl)) _,by simp [World.setCell]⟩
  ·rw [if_neg c1]
   go_enter Tryz.func331,Tryz.ntmps331
   go_wp2
   go_ret
   exact ⟨rfl,H.out.put hi _,keeps_set (keeps_below (Below.refl _ _)) (.inl (.inr rfl)) _,by simp [World.setCell]⟩
end Go.Proofs.YtpmioeamdhdokaaGreat.K.P
namespace Go.Proofs.YtpmioeamdhdokaaGreat.K.P
open Go.Proofs.YtpmioeamdhdokaaGreat.K.Ds
theorem us_of (x:Int):(BitVec.ofInt 64 x).toNat=usW x:=by
 rw [BitVec.toNat_ofInt]
 rfl
theorem wrap_sg {n:Nat} (h:n < 18446744073709551616):IntKind.i64.wrap (n:Int)=sgW n:=by
 rw [IntKind.wrap_i64]; unfold sgW
 split <;> omega
theorem or_word (a b k n:Nat) (hn:n=2 ^ (k + 8) * a) (hb:b < 256) (hlt:n < 18446744073709551616) (hk:k≤56) :
  bits .or .i64 (sgW n) (IntKind.i64.wrap ((b:Int) * 2 ^ k))=sgW (n + b * 2 ^ k):=by
 have h56:2 ^ k≤2 ^ 56:=Nat.pow_le_pow_right (by decide) hk
 have hm:b * 2 ^ k < 18446744073709551616:=by
  have:=Nat.mul_le_mul (show b≤255 by omega) h56
  omega
 have e1:((b:Int) * 2 ^ k)=((b * 2 ^ k:Nat):Int):=by simp
 have hlow:b * 2 ^ k < 2 ^ (k + 8):=by
  rw [Nat.pow_add,Nat.mul_comm]
  exact Nat.mul_lt_mul_of_pos_left hb (Nat.two_pow_pos k)
 have hor:n ||| (b * 2 ^ k)=n + b * 2 ^ k:=by
  rw [hn,Nat.two_pow_add_eq_or_of_lt hlow]
 have hs:n + b * 2 ^ k < 18446744073709551616:=by
  rw [← hor]
  exact Nat.or_lt_two_pow (n:=64) hlt hm
 rw [e1,wrap_sg hm]
 unfold bits
 simp only
 show IntKind.i64.wrap (((BitVec.ofInt 64 (sgW n)) ||| (BitVec.ofInt 64 (sgW (b * 2 ^ k)))).toNat:Int)=_
 rw [BitVec.toNat_or,us_of,us_of,us_sg hlt,us_sg hm,hor,wrap_sg hs]
theorem getD_take (s:List Nat) (i j:Nat):(s.take i).getD j 0=if j < i then s.getD j 0 else 0:=by
 simp only [List.getD,List.getElem?_take]
 split <;> rfl
theorem octs_take (s:List Nat) (q r:Nat):octs (s.take (8 * q + r)) q=(List.range 8).map fun t=>if t < r then s.getD (8 * q + t) 0 else 0:=by
 unfold octs
 refine List.map_congr_left fun t _=>?_
 rw [getD_take]
 by_cases c:t < r
 ·rw [if_pos c,if_pos (by omega)]
 ·rw [if_neg c,if_neg (by omega)]
theorem r8:List.range 8=[0,1,2,3,4,5,6,7]:=rfl
theorem big_take (f:Nat→Nat) (r:Nat) (hr:r < 8):bigE ((List.range 8).map fun t=>if t < r then f t else 0)=2 ^ (8 * (7 - r) + 8) * bigE ((List.range r).map f) ∧
  bigE ((List.range 8).map fun t=>if t < r + 1 then f t else 0)=bigE ((List.range 8).map fun t=>if t < r then f t else 0) + f r * 2 ^ (8 * (7 - r)):=by
 rw [r8]
 match r,hr with
 | 0,_ | 1,_ | 2,_ | 3,_ | 4,_ | 5,_ | 6,_ | 7,_=>constructor <;> simp [bigE,List.range_succ] <;> omega
theorem octs_step (s:List Nat) (q r:Nat) (hr:r < 8):(∃ a,bigE (octs (s.take (8 * q + r)) q)=2 ^ (8 * (7 - r) + 8) * a)∧bigE (octs (s.take (8 * q + r + 1)) q)=bigE (octs (s.take (8 * q + r)) q) + s.getD (8 * q + r) 0 * 2 ^ (8 * (7 - r)):=by
 have h:=big_take (fun t=>s.getD (8 * q + t) 0) r hr
 rw [show 8 * q + r + 1=8 * q + (r + 1) from rfl,octs_take,octs_take]
 exact ⟨⟨_,h.1⟩,h.2⟩
theorem octs_oth (s:List Nat) (q i:Nat) (h:i / 8≠q):octs (s.take (i + 1)) q=octs (s.take i) q:=by
 unfold octs
 refine List.map_congr_left fun t ht=>?_
 have ht8:t < 8:=by simpa using ht
 rw [getD_take,getD_take]
 by_cases c:8 * q + t < i
 ·rw [if_pos c,if_pos (by omega)]
 ·rw [if_neg c,if_neg (by omega)]
theorem nmW_get (s:List Nat) (q:Nat) (hq:q < 4):(nmW s)[q]? = some (sgW (bigE (octs s q))):=by
 simp [nmW,hq]
theorem octs_big (s:List Nat) (hs:∀ b∈s,b < 256) (q:Nat):bigE (octs s q) < 18446744073709551616:=by
 have h8:(octs s q).length=8:=by simp [octs]
 have hb:=bigE_lt (octs_lt hs q)
 rw [h8] at hb
 simpa using hb
theorem nmW_step (s:List Nat) (hs:∀ b∈s,b < 256) (i:Nat) (hi:i < 32):nmW (s.take (i + 1))=(nmW (s.take i)).set (i / 8) (bits .or .i64 ((nmW (s.take i)).getD (i / 8) 0) (IntKind.i64.wrap ((s.getD i 0:Nat) * 2 ^ (8 * (7 - i % 8))))):=by
 have e:i=8 * (i / 8) + i % 8:=by omega
 obtain ⟨⟨a,h1⟩,h2⟩:=octs_step s (i / 8) (i % 8) (by omega)
 rw [← e] at h1 h2
 have hb:s.getD i 0 < 256:=by
  rw [List.getD]
  cases c:s[i]? with
  | none=>simp
  | some x=>simpa using hs x (List.mem_of_getElem? c)
 have hq:i / 8 < 4:=by omega
 have hl:=octs_big (s.take i) (fun b hb=>hs b (List.mem_of_mem_take hb)) (i / 8)
 have hg:(nmW (s.take i)).getD (i / 8) 0=sgW (bigE (octs (s.take i) (i / 8))):=by rw [List.getD,nmW_get _ _ hq]; rfl
 rw [hg]
 have ho:=or_word a (s.getD i 0) (8 * (7 - i % 8)) _ h1 hb hl (by omega)
 rw [ho,← h2]
 apply List.ext_getElem?
 intro j
 by_cases c:j < 4
 ·by_cases c2:i / 8=j
  ·subst c2
   rw [nmW_get _ _ c,List.getElem?_set_self (by rw [nmW_len]; exact c)]
  ·rw [List.getElem?_set_ne c2,nmW_get _ _ c,nmW_get _ _ c,octs_oth s j i c2]
 ·rw [List.getElem?_eq_none (by rw [nmW_len]; omega),List.getElem?_eq_none (by rw [List.length_set,nmW_len]; omega)]
theorem nmW_nil:nmW []=[0,0,0,0]:=by decide
theorem byte_word (x:Int) (r:Nat) (hr:r < 8):IntKind.u8.wrap (x / 2 ^ (8 * (7 - r)))=((digE 8 (usW x)).getD r 0:Nat):=by
 have hu:IntKind.u8.wrap (x / 2 ^ (8 * (7 - r)))=(x / 2 ^ (8 * (7 - r))) % 256:=by simp [IntKind.wrap,IntKind.bits,IntKind.signed]
 rw [hu]
 unfold usW
 have e:digE 8 (x % 18446744073709551616).toNat=[(x % 18446744073709551616).toNat / 256 / 256 / 256 / 256 / 256 / 256 / 256 % 256,(x % 18446744073709551616).toNat / 256 / 256 / 256 / 256 / 256 / 256 % 256,(x % 18446744073709551616).toNat / 256 / 256 / 256 / 256 / 256 % 256,(x % 18446744073709551616).toNat / 256 / 256 / 256 / 256 % 256,(x % 18446744073709551616).toNat / 256 / 256 / 256 % 256,(x % 18446744073709551616).toNat / 256 / 256 % 256,(x % 18446744073709551616).toNat / 256 % 256,(x % 18446744073709551616).toNat % 256]:=rfl
 rw [e]
 match r,hr with
 | 0,_ | 1,_ | 2,_ | 3,_ | 4,_ | 5,_ | 6,_ | 7,_=>simp; omega
end Go.Proofs.YtpmioeamdhdokaaGreat.K.P
namespace Go.Proofs.YtpmioeamdhdokaaGreat.K.P
open Go.RowKit Go.Proofs.YtpmioeamdhdokaaGreat.K.Ds
theorem hfirst_any (i k:Nat) (hi:i < 32) (hk:k=8 * (7 - i % 8)) (w:World):Calls Tryz.prog 184 #[.int .i64 i] w fun e w'=>e=.returned (.int .i64 (k:Int))∧w' = w:=by
 have e:8 * (7 - (i:Int) % 8)=(k:Int):=by omega
 clear hk
 have H:Hid (8 * (7 - (i:Int) % 8)=(k:Int)):=e
 clear e
 go_enter Tryz.func184,Tryz.ntmps184
 go_wp2
 go_ret
 exact ⟨congrArg (fun z=>Ending.returned (Value.int .i64 z)) H.out,rfl⟩
def NinB (w:World) (b:Nat) (l:List Int):Prop:=l.length=9∧∀ k x,l[k]? = some x→Cl w b k (.int .i64 x)
theorem NinB.at {w w':World} {b:Nat} {l:List Int} (h:NinB w b l) (hb:Below w.heap.size w w'):NinB w' b l:=⟨h.1,fun k x hx=>(h.2 k x hx).at hb⟩
theorem NinB.set {w:World} {b:Nat} {l:List Int} (h:NinB w b l) {i:Nat} (hi:i < 9) (x:Int):NinB (w.setCell ⟨b,i,none⟩ (.int .i64 x)) b (l.set i x):=by
 refine ⟨by rw [List.length_set]; exact h.1,fun k y hy=>?_⟩
 by_cases c:i=k
 ·subst c
  rw [List.getElem?_set_self (by rw [h.1]; exact hi)] at hy
  cases hy
  obtain ⟨z,hz⟩:∃ z,l[i]? = some z:=⟨_,List.getElem?_eq_getElem (by rw [h.1]; exact hi)⟩
  exact (h.2 i z hz).set _
 ·rw [List.getElem?_set_ne c] at hy
  exact (h.2 k y hy).oth (.inr c) _
theorem NinB.oth {w:World} {b b' k:Nat} {l:List Int} (h:NinB w b l) (hne:b'≠b) (u:Value):NinB (w.setCell ⟨b',k,none⟩ u) b l:=⟨h.1,fun j x hx=>(h.2 j x hx).oth (.inl hne) _⟩
theorem NinB.nine {w:World} {b:Nat} {x0 x1 x2 x3 x4 x5 x6 x7 x8:Int} (h:NinB w b [x0,x1,x2,x3,x4,x5,x6,x7,x8]):Cl w b 0 (.int .i64 x0)∧Cl w b 1 (.int .i64 x1)∧Cl w b 2 (.int .i64 x2)∧Cl w b 3 (.int .i64 x3)∧Cl w b 4 (.int .i64 x4)∧Cl w b 5 (.int .i64 x5)∧Cl w b 6 (.int .i64 x6)∧Cl w b 7 (.int .i64 x7)∧Cl w b 8 (.int .i64 x8) :=
 ⟨h.2 0 _ rfl,h.2 1 _ rfl,h.2 2 _ rfl,h.2 3 _ rfl,h.2 4 _ rfl,h.2 5 _ rfl,h.2 6 _ rfl,h.2 7 _ rfl,h.2 8 _ rfl⟩
theorem NinB.new {w:World} {N:Nat} (x0 x1 x2 x3 x4 x5 x6 x7 x8:Int) (t:TypeId) (hN:N=w.heap.size):NinB (w.alloc (.cells #[.int .i64 x0,.int .i64 x1,.int .i64 x2,.int .i64 x3,.int .i64 x4,.int .i64 x5,.int .i64 x6,.int .i64 x7,.int .i64 x8] t)) N [x0,x1,x2,x3,x4,x5,x6,x7,x8]:=by
 refine ⟨rfl,fun k x hx=>?_⟩
 match k,hx with
 | 0,hx | 1,hx | 2,hx | 3,hx | 4,hx | 5,hx | 6,hx | 7,hx | 8,hx=>cases hx; exact Cl.new _ t _ _ hN rfl
theorem Cl.drew' {w:World} {b k:Nat} {v:Value} (h:Cl w b k v):Cl w.drew b k v:=⟨h.c,h.f,h.lt⟩
theorem NinB.drew {w:World} {b:Nat} {l:List Int} (h:NinB w b l):NinB w.drew b l:=⟨h.1,fun k x hx=>Cl.drew' (h.2 k x hx)⟩
theorem nine_of {l:List Int} (h:l.length=9):∃ x0 x1 x2 x3 x4 x5 x6 x7 x8,l=[x0,x1,x2,x3,x4,x5,x6,x7,x8]:=by
 match l,h with
 | [x0,x1,x2,x3,x4,x5,x6,x7,x8],_=>exact ⟨_,_,_,_,_,_,_,_,_,rfl⟩
def rvl (l:List Int):Value:=.agg (l.map (Value.int .i64)).toArray
set_option maxHeartbeats 2000000 in
set_option maxRecDepth 100000 in
theorem recordOf_any (e:En) (hs:e.2.1.size≤32) (w:World) :
  Calls Tryz.prog 112 #[ev e] w fun x w'=>x=.returned (rvl (recW e))∧Below w.heap.size w w':=by
 obtain ⟨d,nm,p,u,v⟩:=e
 simp only at hs
 obtain ⟨s,hsd⟩:∃ s,nmB nm=s:=⟨_,rfl⟩
 have HS:Hid (nmB nm=s):=hsd
 have hsl:s.length=nm.size:=by rw [← hsd]; simp [nmB]
 have HB:Hid (∀ b∈s,b < 256):=by rw [← hsd]; exact nmB_lt nm
 have HG:Hid (∀ i (h:i < nm.size),(nm.get i h).toNat=s.getD i 0):=by
  intro i h
  have h2:i < nm.data.toList.length:=by simpa using h
  rw [← hsd,List.getD,nmB,List.getElem?_map,List.getElem?_eq_getElem h2]
  rfl
 clear hsd
 go_enter Tryz.func112,Tryz.ntmps112
 go_wp2
 go_loopw [19] (fun t wr=>∃ (i:Nat),t=.int .i64 (i:Int)∧i≤nm.size∧Hid (NinB wr (w.heap.size + 1 + 1) ([1,d,p,u,v] ++ nmW (s.take i)))∧Hid (Below w.heap.size w wr)∧Hid (Cl wr w.heap.size 1 (.string nm))∧Hid (NinB wr (w.heap.size + 1) [0,0,0,0,0,0,0,0,0])) (fun t _=>nm.size - (intOf t).toNat)
 case atStart =>
  refine ⟨0,rfl,Nat.zero_le _,?_,?_,?_,?_⟩
  ·rw [List.take_zero,nmW_nil]; exact NinB.new _ _ _ _ _ _ _ _ _ 206 (by simp)
  ·exact bal (bal (ba _ _) _) _
  ·exact ((Cl.new _ 59 1 _ rfl rfl).at (ba _ _)).at (ba _ _)
  ·exact (NinB.new _ _ _ _ _ _ _ _ _ 206 (by simp)).at (ba _ _)
 case round =>
  obtain ⟨i,rfl,hi,HN,HW,HC,HZ⟩:=hrel
  by_cases h1:i < nm.size
  ·obtain ⟨q,hq⟩:∃ q,i / 8=q:=⟨_,rfl⟩
   obtain ⟨k,hk⟩:∃ k,k=8 * (7 - i % 8):=⟨_,rfl⟩
   have kf:=fun W=>hfirst_any i k (by omega) hk W
   have hq4:q < 4:=by omega
   have hqi:(i:Int) / 8=(q:Int):=by omega
   obtain ⟨j,hj⟩:∃ j,5 + q=j:=⟨_,rfl⟩
   have hw1:IntKind.i64.wrap (q:Int)=(q:Int):=by rw [IntKind.wrap_i64]; omega
   have hw2:IntKind.i64.wrap (5 + (q:Int))=(j:Int):=by rw [IntKind.wrap_i64]; omega
   have hj9:(j:Int) < 9:=by omega
   obtain ⟨x,hx⟩:∃ x,(nmW (s.take i))[q]? = some x:=⟨_,nmW_get _ _ hq4⟩
   obtain ⟨b,hb⟩:∃ b,(nm[i]'h1).toNat=b:=⟨_,rfl⟩
   have HBB:Hid (s.getD i 0=b):=(HG.out i h1).symm.trans hb
   have hb2:b < 256:=by rw [← hb]; exact UInt8.toNat_lt _
   have hw3:IntKind.i64.wrap (b:Int)=(b:Int):=by rw [IntKind.wrap_i64]; omega
   have hk56:k≤56:=by omega
   have hc:Cl wr (w.heap.size + 1 + 1) j (.int .i64 x):=HN.out.2 j x (by rw [← hj,List.getElem?_append_right (by simp)]; simpa using hx)
   have m1:=hc.c
   have m2:=hc.f
   have m3:=HC.out.c
   have HX:Hid ((nmW (s.take i))[q]? = some x):=hx
   have HK:Hid (k=8 * (7 - i % 8)∧i / 8=q∧5 + q=j):=⟨hk,hq,hj⟩
   obtain ⟨y,hy⟩:∃ y,bits .or .i64 x (IntKind.i64.wrap ((b:Int) * 2 ^ k))=y:=⟨_,rfl⟩
   have hst:[1,d,p,u,v] ++ nmW (s.take (i + 1))=([1,d,p,u,v] ++ nmW (s.take i)).set j y:=by
    have h3:=nmW_step s HB.out i (by omega)
    rw [HBB.out,hq,← hk,show (nmW (s.take i)).getD q 0=x by rw [List.getD,hx]; rfl] at h3
    rw [h3,hy,← hj,List.set_append_right _ _ (by simp)]
    simp
   have FN:Hid (NinB (wr.setCell ⟨w.heap.size + 1 + 1,j,none⟩ (.int .i64 y)).drew (w.heap.size + 1 + 1) ([1,d,p,u,v] ++ nmW (s.take (i + 1)))):=by
    rw [hst]; exact (HN.out.set (by omega) _).drew
   have FW:Hid (Below w.heap.size w (wr.setCell ⟨w.heap.size + 1 + 1,j,none⟩ (.int .i64 y)).drew):=(bs HW.out (by simp; omega) _).drew
   have FC:Hid (Cl (wr.setCell ⟨w.heap.size + 1 + 1,j,none⟩ (.int .i64 y)).drew w.heap.size 1 (.string nm)):=Cl.drew' (HC.out.oth (.inl (by omega)) _)
   have FZ:Hid (NinB (wr.setCell ⟨w.heap.size + 1 + 1,j,none⟩ (.int .i64 y)).drew (w.heap.size + 1) [0,0,0,0,0,0,0,0,0]):=(HZ.out.oth (by omega) _).drew
   clear hx hq hk hj hst hc HX
   go_wp2_with fail
   go_region_law (go_simp; go_at_call 184; refine (kf _).mono ?_; rintro e w' ⟨rfl,rfl⟩; go_wp2_with fail)
   all_goals
    go_wp2
    go_roundw
    ·exact ⟨i + 1,by go_num,h1,FN,FW,FC,FZ⟩
    ·simp [intOf]; omega
  ·obtain rfl:i=nm.size:=by omega
   have hr:recW (d,nm,p,u,v)=[1,d,p,u,v] ++ nmW (s.take nm.size):=by
    rw [List.take_of_length_le (by omega),← HS.out]; rfl
   obtain ⟨x0,x1,x2,x3,hx⟩:∃ x0 x1 x2 x3,nmW (s.take nm.size)=[x0,x1,x2,x3]:=by
    have h4:=nmW_len (s.take nm.size)
    match nmW (s.take nm.size),h4 with
    | [x0,x1,x2,x3],_=>exact ⟨_,_,_,_,rfl⟩
   rw [hx] at hr
   have HR:Hid (recW (d,nm,p,u,v)=[1,d,p,u,v,x0,x1,x2,x3]):=hr
   have HN2:=HN.out
   rw [hx] at HN2
   obtain ⟨a0,a1,a2,a3,a4,a5,a6,a7,a8⟩:=NinB.nine HN2
   obtain ⟨z0,z1,z2,z3,z4,z5,z6,z7,z8⟩:=NinB.nine HZ.out
   replace a0:=a0.c; replace a1:=a1.c; replace a2:=a2.c; replace a3:=a3.c; replace a4:=a4.c; replace a5:=a5.c; replace a6:=a6.c; replace a7:=a7.c; replace a8:=a8.c
   obtain ⟨c0,f0,l0⟩:=z0
   obtain ⟨c1,f1,_⟩:=z1
   obtain ⟨c2,f2,_⟩:=z2
   obtain ⟨c3,f3,_⟩:=z3
   obtain ⟨c4,f4,_⟩:=z4
   obtain ⟨c5,f5,_⟩:=z5
   obtain ⟨c6,f6,_⟩:=z6
   obtain ⟨c7,f7,_⟩:=z7
   obtain ⟨c8,f8,_⟩:=z8
   clear hr hx HN HN2
   have HZ9:=(((((((((HZ.out.set (i:=0) (by decide) 1).set (i:=1) (by decide) d).set (i:=2) (by decide) p).set (i:=3) (by decide) u).set (i:=4) (by decide) v).set (i:=5) (by decide) x0).set (i:=6) (by decide) x1).set (i:=7) (by decide) x2).set (i:=8) (by decide) x3)
   have FZ:Hid (NinB _ (w.heap.size + 1) [1,d,p,u,v,x0,x1,x2,x3]):=HZ9
   clear HZ9
   go_wp2
   obtain ⟨r0,r1,r2,r3,r4,r5,r6,r7,r8⟩:=FZ.out.nine
   replace r0:=r0.c; replace r1:=r1.c; replace r2:=r2.c; replace r3:=r3.c; replace r4:=r4.c; replace r5:=r5.c; replace r6:=r6.c; replace r7:=r7.c; replace r8:=r8.c
   refine bodyPost_ret (v:=rvl (recW (d,nm,p,u,v))) ?_ rfl ⟨rfl,?_⟩
   ·rw [HR.out]
    simp [results,Tryz.results112,go_sem,r0,r1,r2,r3,r4,r5,r6,r7,r8,rvl]
   ·exact bs (bs (bs (bs (bs (bs (bs (bs (bs HW.out (by simp) _) (by simp) _) (by simp) _) (by simp) _) (by simp) _) (by simp) _) (by simp) _) (by simp) _) (by simp) _
theorem five_cells (w:World) (a b c d e:Value) (t:TypeId) (N:Nat) (hN:N=w.heap.size):∀ j u,[a,b,c,d,e][j]? = some u→(w.alloc (.cells #[a,b,c,d,e] t)).cell? ((⟨N,0,none⟩:Addr).add j)=some u:=by
 subst hN
 exact fun j u hu=>World.news_of_block (w:=w.alloc (.cells #[a,b,c,d,e] t)) (B:=w.heap.size) (cs:=#[a,b,c,d,e]) (t:=t) (fr:=(0,0)) (heap_alloc_new w _) j u (by simpa using hu)
theorem kN_ne {x y:ByteArray} (h:x≠y):kN x≠kN y:=by
 intro e
 simp only [Lit.string.injEq] at e
 apply h
 apply ByteArray.ext
 exact Array.toList_inj.1 e
theorem TwoB.gb {w w':World} {R:Nat} {x y:Value} {r:Option Nat} (h:TwoB w R x y) (hg:w.grownBy w' r) (hne:some R≠r):TwoB w' R x y:=by
 have hk:w'.heap[R]? = w.heap[R]?:=hg.block R h.lt hne
 exact ⟨(World.cell?_of_block (w:=w) (a:=⟨R,0,none⟩) hk).trans h.c0,(World.cell?_of_block (w:=w) (a:=⟨R,1,none⟩) hk).trans h.c1,(World.frozen?_of_block (w:=w) (a:=⟨R,0,none⟩) hk).trans h.f0,(World.frozen?_of_block (w:=w) (a:=⟨R,1,none⟩) hk).trans h.f1,Nat.lt_of_lt_of_le h.lt hg.size⟩
theorem TwoB.set1 {w:World} {R:Nat} {x y:Value} (h:TwoB w R x y) (u:Value):TwoB (w.setCell ⟨R,1,none⟩ u) R x u :=
 ⟨(sc_other (by simp)).trans h.c0,sc_same h.c1,sc_frozen.trans h.f0,sc_frozen.trans h.f1,by simpa using h.lt⟩
theorem bud_other {done:List En} {e:En} {x:ByteArray} (h:x≠e.2.1):budT (done ++ [e]) x=budT done x:=by
 rw [bud_snoc,if_neg (fun c=>h c.2.symm)]; cases budT done x <;> rfl
theorem bookM_next {X w5 w6:World} {N:Nat→Prop} {bk bm n:Nat} {v:Value} {D:DataW Value} {done:List En} {e:En} {b:Rq} {bp np:Nat} {Dp:DataW Value} {g cap:Nat}
  (hX:BookM X N bk bm n v D done) (hN:∀ k,w5.heap.size≤k→N k) (hd:doT done e=0) (hn:nrm e=e)
  (hbud:budT (done ++ [e]) e.2.1=some b) (hP:Pts X bp np Dp (fun p=>p∈prs (done ++ [e]) e.2.1) (fun p=>(prtP (done ++ [e]) e.2.1 p).1)) (hnp:np≤done.length + 1) (hszp:Maps.size Dp=(parT (done ++ [e]) e.2.1).length) (hNp:N bp) (hpk:bp≠bk) (hpm:bp≠bm)
  (own5:w5.ownsMap Tryz.prog 9 hR bm (n + 1) (D.put (kN e.2.1) (.held (pv b (allP (done ++ [e]) e.2.1).1 bp)))) (g5:X.grownBy w5 (some bm))
  (row6:w6.ownsRow 0 59 5 (.slice (some ⟨g,0,none⟩) (done.length + 1) cap) (done.length + 1) (enc done ++ encE e)) (g6:w5.grownBy w6 v.ownBlock) (hg6:v.ownBlock=some g∨w5.heap.size≤g) :
  BookM (w6.setCell ⟨bk,1,none⟩ (.slice (some ⟨g,0,none⟩) (done.length + 1) cap)) N bk bm (n + 1) (.slice (some ⟨g,0,none⟩) (done.length + 1) cap) (D.put (kN e.2.1) (.held (pv b (allP (done ++ [e]) e.2.1).1 bp))) (done ++ [e]):=by
 obtain ⟨hl1,hl2,hl3,hl4⟩:=hX.lob
 have hbk5:bk < w5.heap.size:=Nat.lt_of_lt_of_le hX.two.lt g5.size
 have hbm5:bm < w5.heap.size:=own5.lt
 have hgk:N g∧g≠bk∧g≠bm:=by
  rcases hg6 with h | h
  ·exact hl4 g h
  ·exact ⟨hN g h,by omega,by omega⟩
 have g7:w6.grownBy (w6.setCell ⟨bk,1,none⟩ (.slice (some ⟨g,0,none⟩) (done.length + 1) cap)) (some bk):=gb_set (gb_refl _ _) _ _
 have ob:∀ k,v.ownBlock=some k→k≠bk∧k≠bm:=fun k hk=>(hl4 k hk).2
 have keepP:∀ {bq nq:Nat} {Dq:DataW Value} {P:Int→Prop} {f:Int→Rq},Pts X bq nq Dq P f→bq≠bk→bq≠bm→Pts (w6.setCell ⟨bk,1,none⟩ (.slice (some ⟨g,0,none⟩) (done.length + 1) cap)) bq nq Dq P f:=fun {bq} {_} {_} {_} {_} h h1 h2=>by
  refine ((h.gb g5 (by simpa using h2)).gb g6 (fun e'=>?_)).gb g7 (by simpa using h1)
  rcases hX.row.2 with ⟨rfl,_⟩ | ⟨g',c',cur,rfl,_,hc,_⟩
  ·cases e'
  ·simp only [Value.ownBlock,Option.some.injEq] at e'
   subst e'
   obtain ⟨es,clock,hb,_⟩:=h.own
   rw [hc] at hb
   cases hb
 obtain ⟨k1,k2,k3⟩:=doT_ok hd
 refine ⟨inv_snoc hX.inv hd hn,?_,?_,?_,?_,fun x=>?_,fun x b' hx=>?_,?_,hl1,hl2,hl3,fun g' hg'=>?_⟩
 ·exact ((hX.two.gb g5 (by simpa using hl3)).gb g6 (fun e'=>(ob bk e'.symm).1 rfl)).set1 _
 ·exact (own5.kept g6 (fun e'=>(ob bm e'.symm).2 rfl)).kept g7 (by simpa using fun h=>hl3 h.symm)
 ·have:=row6.kept g7 (.inr (by simpa [Value.ownBlock] using hgk.2.1))
  rw [enc_snoc]; simpa using this
 ·simp; have:=hX.cnt; omega
 ·by_cases hxe:x=e.2.1
  ·subst hxe
   rw [Maps.has_put_same hX.own.isMap (k:=kN e.2.1) True.intro]
   simp [hbud]
  ·rw [Maps.has_put_other (kN_ne hxe),hX.is x,bud_other hxe]
 ·by_cases hxe:x=e.2.1
  ·subst hxe
   rw [hbud] at hx
   simp only [Option.some.injEq] at hx
   subst hx
   exact ⟨bp,np,Dp,Maps.atKey_put_same (k:=kN e.2.1) hX.own.isMap True.intro _ _,keepP hP hpk hpm,by simpa using hnp,hszp,hNp,hpk,hpm⟩
  ·rw [bud_other hxe] at hx
   obtain ⟨bq,nq,Dq,j1,j2,j3,j4,j5,j6,j7⟩:=(hX.el x b' hx).ex
   have hne:∀ q,¬ (e.2.1=x∧q):=fun q c=>hxe c.1.symm
   have e1:allP (done ++ [e]) x=allP done x:=all_other (hne _)
   have e2:prs (done ++ [e]) x=prs done x:=prs_other (hne _)
   have e3:prtP (done ++ [e]) x=prtP done x:=funext fun y=>prt_other (hne _)
   exact ⟨bq,nq,Dq,by rw [Maps.atKey_put_other (kN_ne hxe),e1]; exact j1,by simp only [e2,e3]; exact keepP j2 j6 j7,by simp; omega,by unfold parT; rw [e2]; exact j4,j5,j6,j7⟩
 ·rw [Maps.size_put (hX.own.tidy law9),hX.sz,ops_snoc]
  rcases k3 with ⟨c1,c2,_⟩ | ⟨c1,b0,c2,_⟩
  ·rw [if_pos c1,(hX.has_no c2).1]; simp
  ·rw [if_neg c1,(hX.is e.2.1).2 ⟨b0,c2⟩]; simp
 ·simp only [Value.ownBlock,Option.some.injEq] at hg'
  subst hg'
  exact hgk
set_option maxHeartbeats 2000000 in
set_option maxRecDepth 100000 in
theorem doYes_any (N:Nat→Prop) (bk bm n:Nat) (v:Value) (D:DataW Value) (done:List En) (e:En) (w:World) (hB:BookM w N bk bm n v D done) (hs:e.2.1.size≤4294967296) (hN:∀ k,w.heap.size≤k→N k) (hbad:badT e=0) (hl:done.length < 4096) (hpI:-9223372036854775808≤e.2.2.1∧e.2.2.1≤9223372036854775807) (her:doT done (nrm e)=0) :
  Calls Tryz.prog 75 #[.pointer (some ⟨bk,0,none⟩),ev e] w (DoP w N bk bm done e):=by
 have kw:=fun W=>wrong_any e (by omega) W 0 hbad
 have ka:=fun W (hW:BookM W N bk bm n v D done) (hNW:∀ k,W.heap.size≤k→N k)=>after_any N bk bm n v D done e W hW hs hNW hbad hl hpI 0 her
 have kr:=fun W=>written_any e (by omega) W
 have HB:Hid (BookM w N bk bm n v D done):=hB
 have hbk:=hB.two.lt
 obtain ⟨va,vc,rfl⟩:=hB.slice
 have hq:decide ((4096:Int)≤(done.length:Int))=false:=decide_eq_false (by omega)
 obtain ⟨e',he'⟩:∃ e',nrm e=e':=⟨_,rfl⟩
 have HE:Hid (nrm e=e'):=he'
 have HD:Hid (doT done e' = 0):=by rw [← he']; exact her
 simp only [he'] at ka kr
 have hnm:e'.2.1=e.2.1:=by rw [← he']; exact nrm_n e
 obtain ⟨d,nm,p,u,v'⟩:=e
 obtain ⟨d',nm',p',u',v''⟩:=e'
 simp only at hnm hs
 subst hnm
 obtain ⟨i0,hi0,hz0,hz1,hz2⟩:=info_parts info33
 have V0:Hid (FivB (w.alloc (.cells #[.int .i64 d,.string nm',.int .i64 p,.int .i64 u,.int .i64 v'] 59)) w.heap.size (.int .i64 d) (.string nm') (.int .i64 p) (.int .i64 u) (.int .i64 v')):=FivB.new _ _ _ _ _ _ 59 _ rfl
 clear hbad her hB he'
 go_enter Tryz.func75,Tryz.ntmps75
 go_wp2_with fail
 refine (kw _).mono ?_
 rintro e1 w1 ⟨rfl,hb1⟩
 have B1:=bt (ba _ _) hb1
 have BK1:=HB.out.keep B1
 obtain ⟨t0,t1,tf0,tf1,htl⟩:=BK1.two
 obtain ⟨c0,c1,c2,c3,c4,f0,f1,f2,f3,f4,hl0⟩:=V0.out.below hb1
 go_wp2_with fail
 refine (ka _ BK1 (fun k hk=>hN k (Nat.le_trans B1.size hk))).mono ?_
 rintro e2 w2 ⟨hb2,⟨hz,_⟩ | ⟨_,b,bp,np,Dp,rfl,hbud,hPt,hnp,hszp,hNp,hpk,hpm⟩⟩
 ·exact absurd rfl hz
 obtain ⟨al,hal⟩:∃ al,(allP (done ++ [(d',nm',p',u',v'')]) nm').1=al:=⟨_,rfl⟩
 have HAL:Hid ((allP (done ++ [(d',nm',p',u',v'')]) nm').1=al):=hal
 simp only [hal]
 have HPT:Hid (Pts w2 bp np Dp (fun p=>p∈prs (done ++ [(d',nm',p',u',v'')]) nm') (fun y=>(prtP (done ++ [(d',nm',p',u',v'')]) nm' y).1)∧np≤done.length + 1∧Maps.size Dp=(parT (done ++ [(d',nm',p',u',v'')]) nm').length∧N bp∧bp≠bk∧bp≠bm∧budT (done ++ [(d',nm',p',u',v'')]) nm' = some b):=⟨hPt,hnp,hszp,hNp,hpk,hpm,hbud⟩
 have hbp2:bp < w2.heap.size:=hPt.own.lt
 clear hPt hnp hszp hNp hpk hpm hbud hal
 obtain ⟨c0,c1,c2,c3,c4,f0,f1,f2,f3,f4,hl0⟩:=(V0.out.below hb1).below hb2
 go_wp2_with fail
 refine (kr _).mono ?_
 rintro e3 w3 ⟨rfl,hb3⟩
 have hs1:w.heap.size < w1.heap.size:=by have:=hb1.size; simp at this; omega
 have hs2:=hb2.size
 have hs3:w2.heap.size < w3.heap.size:=by have:=hb3.size; simp at this; omega
 obtain ⟨c0,c1,c2,c3,c4,f0,f1,f2,f3,f4,hl0⟩:=(((V0.out.below hb1).below hb2).below (ba _ (.cells #[.int .i64 b.1,.int .i64 b.2,.int .i64 al.1,.int .i64 al.2,.map (some bp)] 236))).below hb3
 obtain ⟨X,hX⟩:∃ X,((((w3.setCell ⟨w.heap.size,0,none⟩ (.int .i64 d')).setCell ⟨w.heap.size,1,none⟩ (.string nm')).setCell ⟨w.heap.size,2,none⟩ (.int .i64 p')).setCell ⟨w.heap.size,3,none⟩ (.int .i64 u')).setCell ⟨w.heap.size,4,none⟩ (.int .i64 v'')=X:=⟨_,rfl⟩
 have gX:w3.grownBy X (some w.heap.size):=by rw [← hX]; exact gb_set (gb_set (gb_set (gb_set (gb_set (gb_refl _ _) _ _) _ _) _ _) _ _) _ _
 have B3:Below w.heap.size w X:=by
  rw [← hX]; exact bs5 (bt (bal (bt B1 hb2) _) hb3) (Nat.le_refl _) _ _ _ _ _
 have VX0:Hid (FivB X w.heap.size (.int .i64 d') (.string nm') (.int .i64 p') (.int .i64 u') (.int .i64 v'')):=by
  rw [← hX]; constructor <;> simp [World.cell?_setCell_other,World.frozen?_setCell,sc_same,c0,c1,c2,c3,c4,f0,f1,f2,f3,f4,hl0,go_sem]
 have VXp:Hid (FivB X w2.heap.size (.int .i64 b.1) (.int .i64 b.2) (.int .i64 al.1) (.int .i64 al.2) (.map (some bp))):=((FivB.new w2 _ _ _ _ _ 236 _ rfl).below hb3).gb gX (by simp; omega)
 have BKX:Hid (BookM X N bk bm n (.slice va done.length vc) D done):=HB.out.keep B3
 have PX:Hid (Pts X bp np Dp (fun p=>p∈prs (done ++ [(d',nm',p',u',v'')]) nm') (fun y=>(prtP (done ++ [(d',nm',p',u',v'')]) nm' y).1)):=(HPT.out.1.keep (bt (ba _ _) hb3)).gb gX (fun e'=>by
  simp only [Option.some.injEq] at e'
  obtain ⟨es,clock,hb,_⟩:=HPT.out.1.own
  have h1:=f0
  have h2:=((V0.out.below hb1).below hb2).c0
  rw [← e'] at h2
  simp [World.cell?,hb] at h2)
 have hln:=HB.out.cnt
 obtain ⟨w5,hup,own5,gU⟩:=(BKX.out.own.drew).update law9 Tryz.underlying201 (by unfold maxLen; omega) (val:=pv b al bp) (d:=.held (pv b al bp)) (ps:=[]) (Go.WideMaps.keyOf_string_mk Tryz.underlying9 (s:=nm') (by unfold maxLen; omega)) rfl
 have g5:X.grownBy w5 (some bm):=gb_trans (gb_drew (gb_refl X (some bm))) gU
 obtain ⟨x0,x1,x2,x3,x4,y0,y1,y2,y3,y4,hlx⟩:=VX0.out
 obtain ⟨q0,q1,q2,q3,q4,r0,r1,r2,r3,r4,hlq⟩:=VXp.out
 obtain ⟨t0,t1,tf0,tf1,htl⟩:=BKX.out.two
 go_wp2_with fail
 go_region
 obtain ⟨hl1,hl2,hl3,hl4⟩:=BKX.out.lob
 have T5:Hid (TwoB w5 bk (.map (some bm)) (.slice va done.length vc)):=BKX.out.two.gb g5 (by simpa using hl3)
 have V5:Hid (FivB w5 w.heap.size (.int .i64 d') (.string nm') (.int .i64 p') (.int .i64 u') (.int .i64 v'')):=VX0.out.gb g5 (by have:=HB.out.own.lt; simp; omega)
 have HRW:Hid (w5.ownsRow 0 59 5 (.slice va done.length vc) done.length (enc done)):=BKX.out.row.kept g5 (by
  cases hv:(Value.slice va done.length vc).ownBlock with
  | none=>exact .inl rfl
  | some g=>right; intro e'; exact (hl4 g hv).2.2 (by simpa using e'))
 have HO:Hid (∀ g,(Value.slice va done.length vc).ownBlock=some g→g≠bk∧g≠w.heap.size):=fun g hg=>⟨(hl4 g hg).2.1,fun c=>by
  have h1:=HB.out.row
  rcases h1.2 with ⟨h2,_⟩ | ⟨g',c',cur,h2,_,hc,_⟩
  ·rw [h2] at hg; cases hg
  ·rw [h2] at hg
   simp only [Value.ownBlock,Option.some.injEq] at hg
   have:=(Array.getElem?_eq_some_iff.1 hc).1
   omega⟩
 obtain ⟨k0,k1,kf0,kf1,hk5⟩:=T5.out
 obtain ⟨m0,m1,m2,m3,m4,mf0,mf1,mf2,mf3,mf4,hm5⟩:=V5.out
 go_wp2_with fail
 go_region_law (refine step_append_lies _ rfl _ _ 40 rfl 0 59 i0 (.agg #[.int .i64 0,.string ⟨#[]⟩,.int .i64 0,.int .i64 0,.int .i64 0]) 5 48 Tryz.underlying40 hi0 hz0 hz1 hz2 rfl (by decide) (.slice va done.length vc) done.length (enc done) rfl ?_ ⟨w5.heap.size,0,none⟩ 1 1 [.int .i64 d',.string nm',.int .i64 p',.int .i64 u',.int .i64 v''] rfl rfl ?_ ?_ (by decide) ?_ ?_ ?_ (w5.heap.size + 1) ?_ ?_; (exact HRW.out.kept (gb_alloc (gb_drew (gb_refl w5 none)) _) (by simp [Classical.em])); (exact five_cells w5.drew _ _ _ _ _ 59 _ rfl); (intro z hz; simp at hz; rcases hz with rfl | rfl | rfl | rfl | rfl <;> rfl); (unfold maxLen; omega); (omega); (simp); (simp); intro g cap w6 hown hgrow hat hlt; have z0:w6.cell? ⟨bk,1,none⟩=some (.slice va done.length vc):=(hgrow.cell_far ⟨bk,1,none⟩ (by simp; omega) (fun e'=>(HO.out bk e'.symm).1 rfl)).trans (((ba w5.drew _).cell (p:=⟨bk,1,none⟩) hk5).trans k1); have z1:w6.frozen? ⟨bk,1,none⟩=false:=(hgrow.frozen_far ⟨bk,1,none⟩ (by simp; omega) (fun e'=>(HO.out bk e'.symm).1 rfl)).trans (((ba w5.drew _).frozen (p:=⟨bk,1,none⟩) hk5).trans kf1); have z2:w6.cell? ⟨w.heap.size,0,none⟩=some (.int .i64 d'):=(hgrow.cell_far ⟨w.heap.size,0,none⟩ (by simp; omega) (fun e'=>(HO.out w.heap.size e'.symm).2 rfl)).trans (((ba w5.drew _).cell (p:=⟨w.heap.size,0,none⟩) hm5).trans m0); have z3:w6.cell? ⟨w.heap.size,1,none⟩=some (.string nm'):=(hgrow.cell_far ⟨w.heap.size,1,none⟩ (by simp; omega) (fun e'=>(HO.out w.heap.size e'.symm).2 rfl)).trans (((ba w5.drew _).cell (p:=⟨w.heap.size,1,none⟩) hm5).trans m1); have z4:w6.cell? ⟨w.heap.size,2,none⟩=some (.int .i64 p'):=(hgrow.cell_far ⟨w.heap.size,2,none⟩ (by simp; omega) (fun e'=>(HO.out w.heap.size e'.symm).2 rfl)).trans (((ba w5.drew _).cell (p:=⟨w.heap.size,2,none⟩) hm5).trans m2); have z5:w6.cell? ⟨w.heap.size,3,none⟩=some (.int .i64 u'):=(hgrow.cell_far ⟨w.heap.size,3,none⟩ (by simp; omega) (fun e'=>(HO.out w.heap.size e'.symm).2 rfl)).trans (((ba w5.drew _).cell (p:=⟨w.heap.size,3,none⟩) hm5).trans m3); have z6:w6.cell? ⟨w.heap.size,4,none⟩=some (.int .i64 v''):=(hgrow.cell_far ⟨w.heap.size,4,none⟩ (by simp; omega) (fun e'=>(HO.out w.heap.size e'.symm).2 rfl)).trans (((ba w5.drew _).cell (p:=⟨w.heap.size,4,none⟩) hm5).trans m4))
 all_goals go_wp2_with fail
 all_goals
  go_ret
  have hgb:w5.grownBy w6 (Value.slice va done.length vc).ownBlock:=gb_trans (gb_drew (gb_alloc (gb_refl _ _) _)) hgrow
  have hN5:∀ k,w5.heap.size≤k→N k:=fun k hk=>hN k (by have:=B3.size; have:=g5.size; omega)
  have hal2:=HAL.out
  have hst:stepD done (d,nm',p,u,v')=done ++ [(d',nm',p',u',v'')]:=by unfold stepD; rw [HE.out,if_pos HD.out]
  have hnn:nrm (d',nm',p',u',v'')=(d',nm',p',u',v''):=by rw [← HE.out,nrm_nrm]
  refine ⟨by rw [HE.out,HD.out]; rfl,?_,n + 1,.slice (some ⟨g,0,none⟩) (done.length + 1) cap,D.put (kN nm') (.held (pv b (allP (done ++ [(d',nm',p',u',v'')]) nm').1 bp)),?_⟩
  ·exact keeps_after (keeps_after (keeps_after (keeps_below B3) g5 (fun k hk=>by simp only [Option.some.injEq] at hk; exact .inl (hk▸hl2))) hgb (fun k hk=>.inl (hl4 k hk).1)) (gb_set (gb_refl _ (some bk)) _ _) (fun k hk=>by simp only [Option.some.injEq] at hk; exact .inl (hk▸hl1))
  ·rw [hst]
   rw [← hal2] at own5
   have:=bookM_next (e:=(d',nm',p',u',v'')) BKX.out hN5 HD.out hnn HPT.out.2.2.2.2.2.2 PX.out HPT.out.2.1 HPT.out.2.2.1 HPT.out.2.2.2.1 HPT.out.2.2.2.2.1 HPT.out.2.2.2.2.2.1 own5 g5 hown hgb (hat.imp id (fun h=>by omega))
   exact this
theorem do_any (N:Nat→Prop) (bk bm n:Nat) (v:Value) (D:DataW Value) (done:List En) (e:En) (w:World) (hB:BookM w N bk bm n v D done) (hs:e.2.1.size≤9223372036854775807) (hN:∀ k,w.heap.size≤k→N k) (hpI:-9223372036854775808≤e.2.2.1∧e.2.2.1≤9223372036854775807) :
  Calls Tryz.prog 75 #[.pointer (some ⟨bk,0,none⟩),ev e] w (DoP w N bk bm done e):=by
 by_cases hb:badT e≠0∨4096≤done.length
 ·refine (doBad_any N bk bm n v D done e w hB hs hb).mono ?_
  rintro x w' ⟨h1,h2⟩
  have hst:stepD done e=done:=by
   unfold stepD
   rw [if_neg]
   intro h0
   obtain ⟨h3,h4⟩:=doT_bad h0
   rw [bad_nrm] at h3
   omega
  exact ⟨h1,keeps_below h2,n,v,D,by rw [hst]; exact hB.keep h2⟩
 ·have hbad:badT e=0:=by omega
  have hs:e.2.1.size≤4294967296:=by
   have h1:=(bad_ok hbad).2.2.1
   unfold namB at h1
   simp only [Bool.and_eq_true,decide_eq_true_eq] at h1
   have h2:=h1.1.2
   rw [Array.length_toList] at h2
   show e.2.1.data.size≤_
   omega
  have hl:done.length < 4096:=by omega
  by_cases h0:doT done (nrm e)=0
  ·exact doYes_any N bk bm n v D done e w hB hs hN hbad hl hpI h0
  ·refine (doNo_any N bk bm n v D done e w hB hs hN hbad hl hpI _ rfl h0).mono ?_
   rintro x w' ⟨h1,h2⟩
   exact ⟨h1,keeps_below h2,n,v,D,by unfold stepD; rw [if_neg h0]; exact hB.keep h2⟩
end Go.Proofs.YtpmioeamdhdokaaGreat.K.P
