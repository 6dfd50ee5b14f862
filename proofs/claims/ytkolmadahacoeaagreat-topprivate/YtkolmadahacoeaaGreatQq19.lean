import Derived.Test.YtkolmadahacoeaaGreatQq18
import Derived.Shelf.SlIterI.Nil
import Derived.Shelf.SlIter.Nil
import Derived.Shelf.SortM.Plain
import Derived.Shelf.SortM.SortNone
import Derived.Shelf.SlMaps.Clone
import Derived.Shelf.Pu.Clone
import Derived.Shelf.SlGeneric
import Derived.Ground.GgzProg
import Derived.Ground.SlgmProg
import Derived.Ground.SlmcProg
import Derived.Ground.MpProg
import Derived.Test.YtkolmadahacoeaaGreatProg
import Derived.Test.YtkolmadahacoeaaGreatQq01
namespace Go.Proofs.YtkolmadahacoeaaGreat
open Go.RowKit Go.Shelf Go.Proofs.YtkolmadahacoeaaGreat.Ds
theorem cmp_pre (x a b : List Int) : cmpT (x ++ a) (x ++ b) = cmpT a b := by
 induction x with
 | nil => rfl
 | cons c x ih => simp only [List.cons_append, cmpT]; rw [if_neg (by omega), if_neg (by omega)]; exact ih
theorem pre_tot (x : List Int) (b : List Pt) : tot (pre x b) = tot b := by
 induction b with
 | nil => rfl
 | cons p b ih => simp only [pre, List.map_cons] at *; rw [tot_cons, tot_cons, ih]
theorem pre_dv (x : List Int) (b : List Pt) : dv (pre x b) = dv b := by
 induction b with
 | nil => rfl
 | cons p b ih => simp only [pre, List.map_cons, dv] at *; rw [ih]
theorem pre_dis {x : List Int} {b : List Pt} (h : Dis b) (ho : (pre x b).all okP = true) : Dis (pre x b) := by
 refine ⟨?_, ?_, by rw [pre_tot]; exact h.le, ?_, ho, by simp [pre]; exact h.few, by rw [pre_dv]; exact h.one⟩
 ·unfold Rise pre
  rw [List.pairwise_map]
  exact h.rise.imp fun {p q} hpq => by show cmpT (x ++ p.1) (x ++ q.1) < 0; rw [cmp_pre]; exact hpq
 ·intro p hp
  obtain ⟨q, hq, rfl⟩ := List.mem_map.1 hp
  exact h.pos q hq
 ·intro h0
  have := h.ne
  simp [pre] at h0
  exact this h0
theorem beh_dis {x : List Int} {b : List Pt} (h : Dis b) (he : (behT x b).2 = 0) : (behT x b).1 = pre x b ∧ Dis (pre x b) := by
 unfold behT at *
 split at he
 ·rename_i ho
  rw [if_pos ho]
  exact ⟨rfl, pre_dis h ho⟩
 ·simp at he
def bothT (l m : List Pt) : List Pt × Int := if twoE l m = 0 then chT (fun x => behT x m) l else ([], twoE l m)
theorem both1_any (C D bx : Nat) (u v : Value) (xs : List Int) (ts : List Tr) (w : World) (hC : C ≤ w.heap.size) (hD : D ≤ w.heap.size) (hc : w.cell? ⟨bx, 0, none⟩ = some v) (hx : Ints w C C u xs) (hp : Parts w D v ts) (hxl : xs.length ≤ 16) (hd : Dis (rd ts)) (l : List Pt) (er : Int) (hr : behT xs (rd ts) = (l, er)) :
  Calls Tryz.prog 41 #[u, .pointer (some ⟨bx, 0, none⟩)] w fun e w' => ∃ v' us, e = .returned (.tuple #[v', .int .i64 er]) ∧ rd us = l ∧ OwnN w' w.heap.size v' us ∧ Below w.heap.size w w' ∧ Frs w.heap.size us := by
 have kc := behind_any C D u v xs ts w hC hD hx hp hxl hd l er hr
 obtain ⟨a, c, rfl, _⟩ := hp
 obtain ⟨ua, uc, rfl, _⟩ := hx
 clear hr hd
 go_enter Tryz.func41, Tryz.ntmps41
 go_wp2_with fail
 refine kc.mono ?_
 rintro e w1 ⟨v1, us, rfl, h1, h2, h3, h4⟩
 obtain ⟨b1, d1, rfl⟩ := h2.slice
 clear kc
 go_wp2
 exact bodyPost_ret (v := .tuple #[.slice b1 us.length d1, .int .i64 er]) (by simp [results, Tryz.results41, go_sem]) rfl ⟨_, us, rfl, h1, h2, h3, h4⟩
theorem parts_box {w : World} {B bx : Nat} {sl v p : Value} {ts : List Tr} (h : Parts w B v ts) (hc : w.cell? ⟨bx, 0, none⟩ = some sl) (hsl : ∀ z, sl ≠ .int .i64 z) (hn : ∀ j, 0 < j → w.cell? ⟨bx, j, none⟩ = none) : Parts (w.setCell ⟨bx, 0, none⟩ p) B v ts := by
 obtain ⟨a, c, hv, hcc, hl, hi, hx⟩ := h
 refine ⟨a, c, hv, hcc, hl, fun t ht => ?_, fun hne => ?_⟩
 ·obtain ⟨a', c', hv', hc', hl', hy⟩ := hi t ht
  refine ⟨a', c', hv', hc', hl', fun hne => ?_⟩
  obtain ⟨b, o, ha, hb, hnb, hcell⟩ := hy hne
  have hbb : b ≠ bx := by
   rintro rfl
   obtain ⟨x0, hx0⟩ := get_lt (l := t.2.1) (i := 0) (List.length_pos_iff.2 hne)
   have h5 := hcell 0 x0 hx0
   rw [Nat.add_zero] at h5
   rcases Nat.eq_zero_or_pos o with e | e
   ·subst e; rw [hc] at h5; simp only [Option.some.injEq] at h5; exact hsl _ h5
   ·rw [hn o e] at h5; cases h5
  exact ⟨b, o, ha, hb, hnb, fun i x hx => (sc_other (fun e => hbb (by simp only [Addr.mk.injEq] at e; exact e.1.symm))).trans (hcell i x hx)⟩
 ·obtain ⟨b, o, ha, hb, hcell⟩ := hx hne
  have hbb : b ≠ bx := by
   rintro rfl
   obtain ⟨t0, ht0⟩ := get_lt (l := ts) (i := 0) (List.length_pos_iff.2 hne)
   have h5 := (hcell 0 t0 ht0).2
   rw [hn _ (by omega)] at h5
   cases h5
  exact ⟨b, o, ha, hb, fun i t ht => ⟨(sc_other (fun e => hbb (by simp only [Addr.mk.injEq] at e; exact e.1.symm))).trans (hcell i t ht).1, (sc_other (fun e => hbb (by simp only [Addr.mk.injEq] at e; exact e.1.symm))).trans (hcell i t ht).2⟩⟩
set_option maxHeartbeats 1000000 in
theorem dboth_any (B : Nat) (v u : Value) (ts us : List Tr) (w : World) (hB : B ≤ w.heap.size) (hp : Parts w B v ts) (hq : Parts w B u us) (l : List Pt) (er : Int) (hr : bothT (rd ts) (rd us) = (l, er)) :
  Calls Tryz.prog 17 #[v, u] w fun e w' => ∃ v' us, e = .returned (.tuple #[v', .int .i64 er]) ∧ rd us = l ∧ OwnN w' w.heap.size v' us ∧ Below w.heap.size w w' ∧ Frs w.heap.size us := by
 obtain ⟨e1, ho⟩ : ∃ x, twoE (rd ts) (rd us) = x := ⟨_, rfl⟩
 have HP : Hid (Parts w B v ts) := hp
 have HQ : Hid (Parts w B u us) := hq
 have HR : Hid (bothT (rd ts) (rd us) = (l, er) ∧ twoE (rd ts) (rd us) = e1) := ⟨hr, ho⟩
 obtain ⟨a, c, rfl, _⟩ := hp
 obtain ⟨ua, uc, rfl, _⟩ := hq
 obtain ⟨W, hW⟩ : ∃ W, w.alloc (.cells #[.slice ua us.length uc] 37) = W := ⟨_, rfl⟩
 have HW : Hid (Below w.heap.size w W) := hW ▸ ba w _
 have hWs : W.heap.size = w.heap.size + 1 := by rw [← hW]; simp
 have cW : W.cell? ⟨w.heap.size, 0, none⟩ = some (.slice ua us.length uc) := by rw [← hW]; simp [go_sem]
 have fW : W.frozen? ⟨w.heap.size, 0, none⟩ = false := by rw [← hW]; simp [go_sem]
 have HNW : Hid (∀ j, 0 < j → W.cell? ⟨w.heap.size, j, none⟩ = none) := by
  intro j hj
  rw [← hW]
  obtain ⟨m, rfl⟩ : ∃ m, j = m + 1 := ⟨j - 1, by omega⟩
  have hh := World.alloc_heap_new w (.cells #[.slice ua us.length uc] 37)
  unfold World.cell?
  simp only [hh]
  simp
 have kc := ownTwo_any B (.slice a ts.length c) (.slice ua us.length uc) ts us W (by omega) (HP.out.at hB HW.out) (HQ.out.at hB HW.out) e1 ho
 clear hr ho
 go_enter Tryz.func17, Tryz.ntmps17
 go_wp2_with fail
 clear hW
 refine kc.mono ?_
 rintro e w1 ⟨a1, n1, c1, a2, n2, c2, rfl, hb1, hok⟩
 have hs1 := hb1.size
 have b1w : Below w.heap.size w w1 := bt HW.out hb1
 have c1' : w1.cell? ⟨w.heap.size, 0, none⟩ = some (.slice ua us.length uc) := (hb1.cell (p := ⟨w.heap.size, 0, none⟩) (by show w.heap.size < W.heap.size; omega)).trans cW
 have f1' : w1.frozen? ⟨w.heap.size, 0, none⟩ = false := (hb1.frozen (p := ⟨w.heap.size, 0, none⟩) (by show w.heap.size < W.heap.size; omega)).trans fW
 clear kc cW fW
 by_cases h0 : e1 = 0
 ·subst h0
  obtain ⟨x1, x2, hd1, hd2, hp1, hp2⟩ := hok rfl
  obtain ⟨hdi1, hdi2⟩ := twoE_ok HR.out.2
  have hch := HR.out.1
  unfold bothT at hch
  rw [HR.out.2] at hch
  simp only [if_true] at hch
  have hnone : ∀ j, 0 < j → w1.cell? ⟨w.heap.size, j, none⟩ = none := fun j hj => (hb1.cell (p := ⟨w.heap.size, j, none⟩) (by show w.heap.size < W.heap.size; omega)).trans (HNW.out j hj)
  obtain ⟨W2, hW2⟩ : ∃ W2, w1.setCell ⟨w.heap.size, 0, none⟩ (.slice a2 n2 c2) = W2 := ⟨_, rfl⟩
  have hW2s : W2.heap.size = w1.heap.size := by rw [← hW2]; simp
  have c2' : W2.cell? ⟨w.heap.size, 0, none⟩ = some (.slice a2 n2 c2) := by rw [← hW2]; exact sc_same c1'
  have b2w : Below w.heap.size w W2 := by rw [← hW2]; exact bs b1w (Nat.le_refl _) _
  have q1 : Parts W2 W2.heap.size (.slice a1 n1 c1) x1 := by rw [hW2s, ← hW2]; exact parts_box hp1 c1' (fun z => by simp) hnone
  have q2 : Parts W2 W2.heap.size (.slice a2 n2 c2) x2 := by rw [hW2s, ← hW2]; exact parts_box hp2 c1' (fun z => by simp) hnone
  have kch := chain_any 41 (.pointer (some ⟨w.heap.size, 0, none⟩)) (fun x => behT x (rd us)) W2.heap.size (.slice a1 n1 c1) x1 W2 (Nat.le_refl _) q1 (by rw [hd1]; exact hdi1) (enters_of Tryz.func41 (by kernel_rfl) rfl)
   (fun W' u xs hbW hI hox => both1_any W'.heap.size W2.heap.size w.heap.size u (.slice a2 n2 c2) xs x2 W' (Nat.le_refl _) hbW.size ((hbW.cell (p := ⟨w.heap.size, 0, none⟩) (by show w.heap.size < W2.heap.size; omega)).trans c2') hI (q2.at (Nat.le_refl _) hbW) (by simp [okO] at hox; exact hox.1) (by rw [hd2]; exact hdi2) _ _ (by rw [hd2]))
   (fun p _ he => by have := beh_dis hdi2 he; rw [this.1]; exact this.2) l er (by rw [hd1]; exact hch)
  clear hok hp1 hp2 hdi1 hdi2 hch hd1 hd2 q1 q2 hnone
  go_wp2_with fail
  refine kch.mono ?_
  rintro e w2 ⟨v2, xs2, rfl, k1, k2, k3, k4⟩
  obtain ⟨a3, c3, rfl⟩ := k2.slice
  have H2 : Hid (rd xs2 = l ∧ OwnN w2 w.heap.size (.slice a3 xs2.length c3) xs2 ∧ Frs w.heap.size xs2) := ⟨k1, k2.mono (by omega), fun t ht hne b o sp n c e => Nat.le_trans (by omega) (k4 t ht hne b o sp n c e)⟩
  clear k1 k2 k4 kch
  go_wp2
  exact bodyPost_ret (v := .tuple #[.slice a3 xs2.length c3, .int .i64 er]) (by simp [results, Tryz.results17, go_sem]) rfl ⟨_, xs2, rfl, H2.out.1, H2.out.2.1, bt b2w k3, H2.out.2.2⟩
 ·have h0' : (e1 == 0) = false := by simpa using h0
  have hm := HR.out.1
  unfold bothT at hm
  rw [HR.out.2] at hm
  simp only [h0, if_false, Prod.mk.injEq] at hm
  obtain ⟨rfl, rfl⟩ := hm
  clear hok
  go_wp2
  exact bodyPost_ret (v := .tuple #[.slice none 0 0, .int .i64 e1]) (by simp [results, Tryz.results17, go_sem]) rfl ⟨_, [], rfl, rfl, .inl ⟨rfl, rfl⟩, bs b1w (Nat.le_refl _) _, Frs.nil _⟩
end Go.Proofs.YtkolmadahacoeaaGreat
namespace Go.Proofs
open Go.Shelf
def Tryz.keysI_ren : Go.Shelf.Ren := ⟨fun | 7 => 105 | 10 => 149 | n => n, fun | 23 => 127 | 26 => 3 | 3 => 28 | 28 => 176 | 0 => 0 | 27 => 175 | 33 => 196 | 4 => 4 | n => n, fun | n => n⟩
theorem Tryz.keysI : Go.Proofs.SlLaysZI.n7 Tryz.prog Tryz.keysI_ren := {
 mixed := by kernel_rfl
 f7 := ⟨Tryz.f105.name, by decide, Tryz.func105.trans (congrArg some (by kernel_rfl))⟩
 f10 := ⟨Tryz.f149.name, by decide, Tryz.func149.trans (congrArg some (by kernel_rfl))⟩
 t0 := Tryz.underlying0
 a0 := Tryz.isAgg0
 z0 := Tryz.sizeOf0
 v0 := Tryz.zeroValue0
 t4 := Tryz.underlying4
 a4 := Tryz.isAgg4
 z4 := Tryz.sizeOf4
 v4 := Tryz.zeroValue4
 t23 := Tryz.underlying127
 a23 := Tryz.isAgg127
 z23 := Tryz.sizeOf127
 v23 := Tryz.zeroValue127
 t26 := Tryz.underlying3
 a26 := Tryz.isAgg3
 z26 := Tryz.sizeOf3
 v26 := Tryz.zeroValue3
 t27 := Tryz.underlying175
 a27 := Tryz.isAgg175
 z27 := Tryz.sizeOf175
 v27 := Tryz.zeroValue175
 t28 := Tryz.underlying176
 a28 := Tryz.isAgg176
 z28 := Tryz.sizeOf176
 v28 := Tryz.zeroValue176
 t33 := Tryz.underlying196
 a33 := Tryz.isAgg196
 z33 := Tryz.sizeOf196
 v33 := Tryz.zeroValue196 }
def Tryz.sortedI_ren : Go.Shelf.Ren := ⟨fun | 6 => 104 | 8 => 147 | 9 => 148 | 11 => 174 | 13 => 146 | 12 => 175 | 23 => 172 | 24 => 173 | 14 => 187 | 15 => 188 | 16 => 189 | 17 => 190 | 18 => 191 | 19 => 192 | 20 => 193 | 21 => 194 | 22 => 195 | 25 => 211 | 26 => 182 | 27 => 183 | 28 => 212 | 29 => 213 | 30 => 180 | 31 => 217 | n => n, fun | 26 => 3 | 28 => 176 | 24 => 46 | 0 => 0 | 3 => 3 | 37 => 165 | 48 => 232 | 50 => 119 | 4 => 4 | 40 => 224 | 39 => 223 | 45 => 229 | 5 => 5 | 9 => 9 | 51 => 240 | 55 => 244 | 57 => 257 | 58 => 236 | 33 => 196 | n => n, fun | n => n⟩
theorem Tryz.sortedI : Go.Proofs.SlLaysZI.n6 Tryz.prog Tryz.sortedI_ren := {
 mixed := by kernel_rfl
 f6 := ⟨Tryz.f104.name, by decide, Tryz.func104.trans (congrArg some (by kernel_rfl))⟩
 f8 := ⟨Tryz.f147.name, by decide, Tryz.func147.trans (congrArg some (by kernel_rfl))⟩
 f11 := ⟨Tryz.f174.name, by decide, Tryz.func174.trans (congrArg some (by kernel_rfl))⟩
 t0 := Tryz.underlying0
 a0 := Tryz.isAgg0
 z0 := Tryz.sizeOf0
 v0 := Tryz.zeroValue0
 t24 := Tryz.underlying46
 a24 := Tryz.isAgg46
 z24 := Tryz.sizeOf46
 v24 := Tryz.zeroValue46
 t26 := Tryz.underlying3
 a26 := Tryz.isAgg3
 z26 := Tryz.sizeOf3
 v26 := Tryz.zeroValue3
 t28 := Tryz.underlying176
 a28 := Tryz.isAgg176
 z28 := Tryz.sizeOf176
 v28 := Tryz.zeroValue176
 i26 := by kernel_rfl }
def Tryz.sortI_ren : Go.Shelf.Ren := ⟨fun | 5 => 148 | 8 => 146 | 7 => 175 | 19 => 172 | 20 => 173 | 10 => 187 | 11 => 188 | 12 => 189 | 13 => 190 | 14 => 191 | 15 => 192 | 16 => 193 | 17 => 194 | 18 => 195 | 30 => 211 | 31 => 182 | 32 => 183 | 33 => 212 | 34 => 213 | 35 => 180 | 40 => 217 | n => n, fun | 23 => 46 | 25 => 3 | 3 => 3 | 32 => 165 | 22 => 46 | 0 => 0 | 44 => 232 | 46 => 119 | 4 => 4 | 36 => 224 | 35 => 223 | 41 => 229 | 5 => 5 | 9 => 9 | 53 => 240 | 57 => 244 | 63 => 257 | 64 => 236 | n => n, fun | n => n⟩
theorem Tryz.sortI : Go.Proofs.SlLaysM.n5 Tryz.prog Tryz.sortI_ren := {
 mixed := by kernel_rfl
 f5 := ⟨Tryz.f148.name, by decide, Tryz.func148.trans (congrArg some (by kernel_rfl))⟩
 f7 := ⟨Tryz.f175.name, by decide, Tryz.func175.trans (congrArg some (by kernel_rfl))⟩
 f8 := Tryz.func146.trans (congrArg some (by kernel_rfl))
 f10 := ⟨Tryz.f187.name, by decide, Tryz.func187.trans (congrArg some (by kernel_rfl))⟩
 f11 := ⟨Tryz.f188.name, by decide, Tryz.func188.trans (congrArg some (by kernel_rfl))⟩
 f12 := ⟨Tryz.f189.name, by decide, Tryz.func189.trans (congrArg some (by kernel_rfl))⟩
 f13 := ⟨Tryz.f190.name, by decide, Tryz.func190.trans (congrArg some (by kernel_rfl))⟩
 f14 := ⟨Tryz.f191.name, by decide, Tryz.func191.trans (congrArg some (by kernel_rfl))⟩
 f15 := ⟨Tryz.f192.name, by decide, Tryz.func192.trans (congrArg some (by kernel_rfl))⟩
 f16 := ⟨Tryz.f193.name, by decide, Tryz.func193.trans (congrArg some (by kernel_rfl))⟩
 f17 := ⟨Tryz.f194.name, by decide, Tryz.func194.trans (congrArg some (by kernel_rfl))⟩
 f18 := ⟨Tryz.f195.name, by decide, Tryz.func195.trans (congrArg some (by kernel_rfl))⟩
 f19 := Tryz.func172.trans (congrArg some (by kernel_rfl))
 f20 := Tryz.func173.trans (congrArg some (by kernel_rfl))
 f30 := ⟨Tryz.f211.name, by decide, Tryz.func211.trans (congrArg some (by kernel_rfl))⟩
 f31 := Tryz.func182.trans (congrArg some (by kernel_rfl))
 f32 := Tryz.func183.trans (congrArg some (by kernel_rfl))
 f33 := ⟨Tryz.f212.name, by decide, Tryz.func212.trans (congrArg some (by kernel_rfl))⟩
 f34 := ⟨Tryz.f213.name, by decide, Tryz.func213.trans (congrArg some (by kernel_rfl))⟩
 f35 := ⟨Tryz.f180.name, by decide, Tryz.func180.trans (congrArg some (by kernel_rfl))⟩
 f40 := ⟨Tryz.f217.name, by decide, Tryz.func217.trans (congrArg some (by kernel_rfl))⟩
 t0 := Tryz.underlying0
 a0 := Tryz.isAgg0
 z0 := Tryz.sizeOf0
 v0 := Tryz.zeroValue0
 t3 := Tryz.underlying3
 a3 := Tryz.isAgg3
 z3 := Tryz.sizeOf3
 v3 := Tryz.zeroValue3
 t4 := Tryz.underlying4
 a4 := Tryz.isAgg4
 z4 := Tryz.sizeOf4
 v4 := Tryz.zeroValue4
 t5 := Tryz.underlying5
 a5 := Tryz.isAgg5
 z5 := Tryz.sizeOf5
 v5 := Tryz.zeroValue5
 t9 := Tryz.underlying9
 a9 := Tryz.isAgg9
 z9 := Tryz.sizeOf9
 v9 := Tryz.zeroValue9
 t22 := Tryz.underlying46
 a22 := Tryz.isAgg46
 z22 := Tryz.sizeOf46
 v22 := Tryz.zeroValue46
 t23 := Tryz.underlying46
 a23 := Tryz.isAgg46
 z23 := Tryz.sizeOf46
 v23 := Tryz.zeroValue46
 t25 := Tryz.underlying3
 a25 := Tryz.isAgg3
 z25 := Tryz.sizeOf3
 v25 := Tryz.zeroValue3
 t32 := Tryz.underlying165
 a32 := Tryz.isAgg165
 z32 := Tryz.sizeOf165
 v32 := Tryz.zeroValue165
 t35 := Tryz.underlying223
 a35 := Tryz.isAgg223
 z35 := Tryz.sizeOf223
 v35 := Tryz.zeroValue223
 t36 := Tryz.underlying224
 a36 := Tryz.isAgg224
 z36 := Tryz.sizeOf224
 v36 := Tryz.zeroValue224
 t41 := Tryz.underlying229
 a41 := Tryz.isAgg229
 z41 := Tryz.sizeOf229
 v41 := Tryz.zeroValue229
 t44 := Tryz.underlying232
 a44 := Tryz.isAgg232
 z44 := Tryz.sizeOf232
 v44 := Tryz.zeroValue232
 t46 := Tryz.underlying119
 a46 := Tryz.isAgg119
 z46 := Tryz.sizeOf119
 v46 := Tryz.zeroValue119
 t53 := Tryz.underlying240
 a53 := Tryz.isAgg240
 z53 := Tryz.sizeOf240
 v53 := Tryz.zeroValue240
 t57 := Tryz.underlying244
 a57 := Tryz.isAgg244
 z57 := Tryz.sizeOf244
 v57 := Tryz.zeroValue244
 t63 := Tryz.underlying257
 a63 := Tryz.isAgg257
 z63 := Tryz.sizeOf257
 v63 := Tryz.zeroValue257
 t64 := Tryz.underlying236
 a64 := Tryz.isAgg236
 z64 := Tryz.sizeOf236
 v64 := Tryz.zeroValue236 }
def Tryz.keysS_ren : Go.Shelf.Ren := ⟨fun | 7 => 58 | 10 => 102 | n => n, fun | 23 => 124 | 26 => 9 | 3 => 129 | 28 => 134 | 0 => 0 | 27 => 96 | 33 => 100 | 4 => 4 | n => n, fun | n => n⟩
theorem Tryz.keysS : Go.Proofs.SlLaysZ.n7 Tryz.prog Tryz.keysS_ren := {
 mixed := by kernel_rfl
 f7 := ⟨Tryz.f58.name, by decide, Tryz.func58.trans (congrArg some (by kernel_rfl))⟩
 f10 := ⟨Tryz.f102.name, by decide, Tryz.func102.trans (congrArg some (by kernel_rfl))⟩
 t0 := Tryz.underlying0
 a0 := Tryz.isAgg0
 z0 := Tryz.sizeOf0
 v0 := Tryz.zeroValue0
 t4 := Tryz.underlying4
 a4 := Tryz.isAgg4
 z4 := Tryz.sizeOf4
 v4 := Tryz.zeroValue4
 t23 := Tryz.underlying124
 a23 := Tryz.isAgg124
 z23 := Tryz.sizeOf124
 v23 := Tryz.zeroValue124
 t26 := Tryz.underlying9
 a26 := Tryz.isAgg9
 z26 := Tryz.sizeOf9
 v26 := Tryz.zeroValue9
 t27 := Tryz.underlying96
 a27 := Tryz.isAgg96
 z27 := Tryz.sizeOf96
 v27 := Tryz.zeroValue96
 t28 := Tryz.underlying134
 a28 := Tryz.isAgg134
 z28 := Tryz.sizeOf134
 v28 := Tryz.zeroValue134
 t33 := Tryz.underlying100
 a33 := Tryz.isAgg100
 z33 := Tryz.sizeOf100
 v33 := Tryz.zeroValue100 }
def Tryz.sortedS_ren : Go.Shelf.Ren := ⟨fun | 6 => 57 | 8 => 100 | 9 => 101 | 11 => 144 | 13 => 146 | 12 => 145 | 23 => 172 | 24 => 173 | 14 => 163 | 15 => 164 | 16 => 165 | 17 => 166 | 18 => 167 | 19 => 168 | 20 => 169 | 21 => 170 | 22 => 171 | 25 => 181 | 26 => 182 | 27 => 183 | 28 => 184 | 29 => 185 | 30 => 186 | 31 => 210 | n => n, fun | 26 => 9 | 28 => 134 | 24 => 55 | 0 => 0 | 3 => 3 | 37 => 165 | 48 => 232 | 50 => 119 | 4 => 4 | 40 => 224 | 39 => 223 | 45 => 229 | 5 => 5 | 9 => 9 | 51 => 240 | 55 => 244 | 57 => 257 | 58 => 236 | 33 => 100 | n => n, fun | n => n⟩
theorem Tryz.sortedS : Go.Proofs.SlLaysZ.n6 Tryz.prog Tryz.sortedS_ren := {
 mixed := by kernel_rfl
 f6 := ⟨Tryz.f57.name, by decide, Tryz.func57.trans (congrArg some (by kernel_rfl))⟩
 f8 := ⟨Tryz.f100.name, by decide, Tryz.func100.trans (congrArg some (by kernel_rfl))⟩
 f11 := ⟨Tryz.f144.name, by decide, Tryz.func144.trans (congrArg some (by kernel_rfl))⟩
 t0 := Tryz.underlying0
 a0 := Tryz.isAgg0
 z0 := Tryz.sizeOf0
 v0 := Tryz.zeroValue0
 t24 := Tryz.underlying55
 a24 := Tryz.isAgg55
 z24 := Tryz.sizeOf55
 v24 := Tryz.zeroValue55
 t26 := Tryz.underlying9
 a26 := Tryz.isAgg9
 z26 := Tryz.sizeOf9
 v26 := Tryz.zeroValue9
 t28 := Tryz.underlying134
 a28 := Tryz.isAgg134
 z28 := Tryz.sizeOf134
 v28 := Tryz.zeroValue134
 i26 := by kernel_rfl }
def Tryz.sortS_ren : Go.Shelf.Ren := ⟨fun | 6 => 101 | 8 => 146 | 9 => 145 | 19 => 172 | 20 => 173 | 21 => 163 | 22 => 164 | 23 => 165 | 24 => 166 | 25 => 167 | 26 => 168 | 27 => 169 | 28 => 170 | 29 => 171 | 36 => 181 | 31 => 182 | 32 => 183 | 37 => 184 | 38 => 185 | 39 => 186 | 41 => 210 | n => n, fun | 27 => 55 | 29 => 9 | 3 => 3 | 32 => 165 | 26 => 55 | 0 => 0 | 44 => 232 | 46 => 119 | 4 => 4 | 36 => 224 | 35 => 223 | 41 => 229 | 5 => 5 | 9 => 9 | 53 => 240 | 57 => 244 | 63 => 257 | 64 => 236 | n => n, fun | n => n⟩
theorem Tryz.sortS : Go.Proofs.SlLaysM.n6 Tryz.prog Tryz.sortS_ren := {
 mixed := by kernel_rfl
 f6 := ⟨Tryz.f101.name, by decide, Tryz.func101.trans (congrArg some (by kernel_rfl))⟩
 f8 := Tryz.func146.trans (congrArg some (by kernel_rfl))
 f9 := ⟨Tryz.f145.name, by decide, Tryz.func145.trans (congrArg some (by kernel_rfl))⟩
 f19 := Tryz.func172.trans (congrArg some (by kernel_rfl))
 f20 := Tryz.func173.trans (congrArg some (by kernel_rfl))
 f21 := ⟨Tryz.f163.name, by decide, Tryz.func163.trans (congrArg some (by kernel_rfl))⟩
 f22 := ⟨Tryz.f164.name, by decide, Tryz.func164.trans (congrArg some (by kernel_rfl))⟩
 f23 := ⟨Tryz.f165.name, by decide, Tryz.func165.trans (congrArg some (by kernel_rfl))⟩
 f24 := ⟨Tryz.f166.name, by decide, Tryz.func166.trans (congrArg some (by kernel_rfl))⟩
 f25 := ⟨Tryz.f167.name, by decide, Tryz.func167.trans (congrArg some (by kernel_rfl))⟩
 f26 := ⟨Tryz.f168.name, by decide, Tryz.func168.trans (congrArg some (by kernel_rfl))⟩
 f27 := ⟨Tryz.f169.name, by decide, Tryz.func169.trans (congrArg some (by kernel_rfl))⟩
 f28 := ⟨Tryz.f170.name, by decide, Tryz.func170.trans (congrArg some (by kernel_rfl))⟩
 f29 := ⟨Tryz.f171.name, by decide, Tryz.func171.trans (congrArg some (by kernel_rfl))⟩
 f31 := Tryz.func182.trans (congrArg some (by kernel_rfl))
 f32 := Tryz.func183.trans (congrArg some (by kernel_rfl))
 f36 := ⟨Tryz.f181.name, by decide, Tryz.func181.trans (congrArg some (by kernel_rfl))⟩
 f37 := ⟨Tryz.f184.name, by decide, Tryz.func184.trans (congrArg some (by kernel_rfl))⟩
 f38 := ⟨Tryz.f185.name, by decide, Tryz.func185.trans (congrArg some (by kernel_rfl))⟩
 f39 := ⟨Tryz.f186.name, by decide, Tryz.func186.trans (congrArg some (by kernel_rfl))⟩
 f41 := ⟨Tryz.f210.name, by decide, Tryz.func210.trans (congrArg some (by kernel_rfl))⟩
 t0 := Tryz.underlying0
 a0 := Tryz.isAgg0
 z0 := Tryz.sizeOf0
 v0 := Tryz.zeroValue0
 t3 := Tryz.underlying3
 a3 := Tryz.isAgg3
 z3 := Tryz.sizeOf3
 v3 := Tryz.zeroValue3
 t4 := Tryz.underlying4
 a4 := Tryz.isAgg4
 z4 := Tryz.sizeOf4
 v4 := Tryz.zeroValue4
 t5 := Tryz.underlying5
 a5 := Tryz.isAgg5
 z5 := Tryz.sizeOf5
 v5 := Tryz.zeroValue5
 t9 := Tryz.underlying9
 a9 := Tryz.isAgg9
 z9 := Tryz.sizeOf9
 v9 := Tryz.zeroValue9
 t26 := Tryz.underlying55
 a26 := Tryz.isAgg55
 z26 := Tryz.sizeOf55
 v26 := Tryz.zeroValue55
 t27 := Tryz.underlying55
 a27 := Tryz.isAgg55
 z27 := Tryz.sizeOf55
 v27 := Tryz.zeroValue55
 t29 := Tryz.underlying9
 a29 := Tryz.isAgg9
 z29 := Tryz.sizeOf9
 v29 := Tryz.zeroValue9
 t32 := Tryz.underlying165
 a32 := Tryz.isAgg165
 z32 := Tryz.sizeOf165
 v32 := Tryz.zeroValue165
 t35 := Tryz.underlying223
 a35 := Tryz.isAgg223
 z35 := Tryz.sizeOf223
 v35 := Tryz.zeroValue223
 t36 := Tryz.underlying224
 a36 := Tryz.isAgg224
 z36 := Tryz.sizeOf224
 v36 := Tryz.zeroValue224
 t41 := Tryz.underlying229
 a41 := Tryz.isAgg229
 z41 := Tryz.sizeOf229
 v41 := Tryz.zeroValue229
 t44 := Tryz.underlying232
 a44 := Tryz.isAgg232
 z44 := Tryz.sizeOf232
 v44 := Tryz.zeroValue232
 t46 := Tryz.underlying119
 a46 := Tryz.isAgg119
 z46 := Tryz.sizeOf119
 v46 := Tryz.zeroValue119
 t53 := Tryz.underlying240
 a53 := Tryz.isAgg240
 z53 := Tryz.sizeOf240
 v53 := Tryz.zeroValue240
 t57 := Tryz.underlying244
 a57 := Tryz.isAgg244
 z57 := Tryz.sizeOf244
 v57 := Tryz.zeroValue244
 t63 := Tryz.underlying257
 a63 := Tryz.isAgg257
 z63 := Tryz.sizeOf257
 v63 := Tryz.zeroValue257
 t64 := Tryz.underlying236
 a64 := Tryz.isAgg236
 z64 := Tryz.sizeOf236
 v64 := Tryz.zeroValue236 }
def Tryz.cloneM_ren : Go.Shelf.Ren := ⟨fun | 5 => 142 | 7 => 162 | n => n, fun | 23 => 127 | 25 => 3 | 3 => 28 | 4 => 4 | 20 => 20 | n => n, fun | n => n⟩
theorem Tryz.cloneM : Go.Proofs.SlLaysW.n5 Tryz.prog Tryz.cloneM_ren := {
 mixed := by kernel_rfl
 f5 := ⟨Tryz.f142.name, by decide, Tryz.func142.trans (congrArg some (by kernel_rfl))⟩
 f7 := Tryz.func162.trans (congrArg some (by kernel_rfl))
 t4 := Tryz.underlying4
 a4 := Tryz.isAgg4
 z4 := Tryz.sizeOf4
 v4 := Tryz.zeroValue4
 t20 := Tryz.underlying20
 a20 := Tryz.isAgg20
 z20 := Tryz.sizeOf20
 v20 := Tryz.zeroValue20
 t23 := Tryz.underlying127
 a23 := Tryz.isAgg127
 z23 := Tryz.sizeOf127
 v23 := Tryz.zeroValue127 }
def Tryz.cloneT_ren : Go.Shelf.Ren := ⟨fun | 25 => 143 | n => n, fun | 9 => 9 | 3 => 3 | 4 => 4 | 37 => 220 | 0 => 0 | 47 => 221 | 5 => 5 | n => n, fun | n => n⟩
theorem Tryz.cloneT : Go.Proofs.LaysPu.n25 Tryz.prog Tryz.cloneT_ren := {
 mixed := by kernel_rfl
 f25 := Tryz.func143.trans (congrArg some (by kernel_rfl))
 t0 := Tryz.underlying0
 a0 := Tryz.isAgg0
 z0 := Tryz.sizeOf0
 v0 := Tryz.zeroValue0
 i0 := by kernel_rfl
 t3 := Tryz.underlying3
 a3 := Tryz.isAgg3
 z3 := Tryz.sizeOf3
 v3 := Tryz.zeroValue3
 i3 := by kernel_rfl
 t4 := Tryz.underlying4
 a4 := Tryz.isAgg4
 z4 := Tryz.sizeOf4
 v4 := Tryz.zeroValue4
 i4 := by kernel_rfl
 t5 := Tryz.underlying5
 a5 := Tryz.isAgg5
 z5 := Tryz.sizeOf5
 v5 := Tryz.zeroValue5
 i5 := by kernel_rfl
 t9 := Tryz.underlying9
 a9 := Tryz.isAgg9
 z9 := Tryz.sizeOf9
 v9 := Tryz.zeroValue9
 i9 := by kernel_rfl
 t37 := Tryz.underlying220
 a37 := Tryz.isAgg220
 z37 := Tryz.sizeOf220
 v37 := Tryz.zeroValue220
 i37 := by kernel_rfl
 t47 := Tryz.underlying221
 a47 := Tryz.isAgg221
 z47 := Tryz.sizeOf221
 v47 := Tryz.zeroValue221
 i47 := by kernel_rfl }
end Go.Proofs
namespace Go.Proofs.YtkolmadahacoeaaGreat.K.P
open Go.RowKit
abbrev rv (n m : Int) : Value := .agg #[.int .i64 n, .int .i64 m]
theorem bcell {W w1 : World} (hb : Below W.heap.size W w1) : (∀ b o, b < W.heap.size → w1.cell? ⟨b, o, none⟩ = W.cell? ⟨b, o, none⟩) ∧ (∀ b o, b < W.heap.size → w1.frozen? ⟨b, o, none⟩ = W.frozen? ⟨b, o, none⟩) :=
 ⟨fun b o h => hb.cell (p := ⟨b, o, none⟩) h, fun b o h => hb.frozen (p := ⟨b, o, none⟩) h⟩
theorem bt {w w1 w2 : World} (h : Below w.heap.size w w1) (k : Below w1.heap.size w1 w2) : Below w.heap.size w w2 := h.trans (k.mono h.size)
theorem ba (w : World) (o : Obj) : Below w.heap.size w (w.alloc o) := (Below.refl _ _).alloc (Nat.le_refl _) o
theorem bs {w w1 : World} (h : Below w.heap.size w w1) {p : Addr} (hp : w.heap.size ≤ p.block) (u : Value) : Below w.heap.size w (w1.setCell p u) := h.setCell hp u
theorem bal {w w1 : World} (h : Below w.heap.size w w1) (o : Obj) : Below w.heap.size w (w1.alloc o) := h.alloc h.size o
set_option maxHeartbeats 400000 in
theorem right_any (u d : Int) (b : Bool) (hb : Rt.rightB u d = b) (w : World) :
  Calls Tryz.prog 95 #[rv u d] w fun e w' => e = .returned (.bool b) ∧ Below w.heap.size w w' := by
 have HB : Hid (Rt.rightB u d = b) := hb
 clear hb
 by_cases c : 0 ≤ u ∧ u ≤ 1073741824 ∧ 1 ≤ d ∧ d ≤ 1073741824
 ·obtain ⟨c1, c2, c3, c4⟩ := c
  obtain ⟨x, rfl⟩ := Int.eq_ofNat_of_zero_le c1
  obtain ⟨y, rfl⟩ := Int.eq_ofNat_of_zero_le (show 0 ≤ d by omega)
  have hbb : b = (((Nat.gcd x y : Nat) : Int) == 1) := by
   rw [← HB.out]; unfold Rt.rightB; rw [Bool.eq_iff_iff]; simp [Rt.mx]; omega
  subst hbb
  clear HB
  go_enter Tryz.func95, Tryz.ntmps95
  go_wp2_with (go_at_call 25; refine (divisor_any _ _ (by omega) (by omega) _).mono ?_; rintro e w' ⟨rfl, hbl⟩)
  go_ret
  exact ⟨rfl, bt (ba _ _) hbl⟩
 ·have hbb : b = false := by
   rw [← HB.out]; unfold Rt.rightB Rt.mx; exact decide_eq_false (fun h => c ⟨h.1, h.2.1, h.2.2.1, h.2.2.2.1⟩)
  subst hbb
  clear HB
  by_cases c1 : u < 0
  ·clear c
   go_enter Tryz.func95, Tryz.ntmps95
   go_wp2
   go_ret
   exact ⟨rfl, ba _ _⟩
  by_cases c2 : 1073741824 < u
  ·clear c
   go_enter Tryz.func95, Tryz.ntmps95
   go_wp2
   go_ret
   exact ⟨rfl, ba _ _⟩
  by_cases c3 : d < 1
  ·clear c
   go_enter Tryz.func95, Tryz.ntmps95
   go_wp2
   go_ret
   exact ⟨rfl, ba _ _⟩
  ·have c4 : 1073741824 < d := by omega
   clear c
   go_enter Tryz.func95, Tryz.ntmps95
   go_wp2
   go_ret
   exact ⟨rfl, ba _ _⟩
set_option maxHeartbeats 400000 in
theorem make_any (u d n m e : Int) (hu : u ≤ 9223372036854775807) (hd : d ≤ 9223372036854775807) (h : Rt.mkT u d = (n, m, e)) (w : World) :
  Calls Tryz.prog 11 #[.int .i64 u, .int .i64 d] w fun x w' => x = .returned (.tuple #[rv n m, .int .i64 e]) ∧ Below w.heap.size w w' := by
 have H : Hid (Rt.mkT u d = (n, m, e)) := h
 clear h
 by_cases c1 : u < 0
 ·have hr : (0, 0, 3) = (n, m, e) := by rw [← H.out]; unfold Rt.mkT; rw [if_pos (.inl c1)]
  simp only [Prod.mk.injEq] at hr
  obtain ⟨rfl, rfl, rfl⟩ := hr
  go_enter Tryz.func11, Tryz.ntmps11
  go_wp2
  exact bodyPost_ret (v := .tuple #[rv 0 0, .int .i64 3]) (by simp [results, Tryz.results11, go_sem]) rfl ⟨rfl, ba _ _⟩
 by_cases c2 : d < 1
 ·have hr : (0, 0, 3) = (n, m, e) := by rw [← H.out]; unfold Rt.mkT; rw [if_pos (.inr c2)]
  simp only [Prod.mk.injEq] at hr
  obtain ⟨rfl, rfl, rfl⟩ := hr
  go_enter Tryz.func11, Tryz.ntmps11
  go_wp2
  exact bodyPost_ret (v := .tuple #[rv 0 0, .int .i64 3]) (by simp [results, Tryz.results11, go_sem]) rfl ⟨rfl, ba _ _⟩
 have hm := Rt.mkT_of u d n m e (by omega) (by omega) H.out
 clear H
 obtain ⟨x, rfl⟩ := Int.eq_ofNat_of_zero_le (show 0 ≤ u by omega)
 obtain ⟨y, rfl⟩ := Int.eq_ofNat_of_zero_le (show 0 ≤ d by omega)
 rw [show Int.gcd (x : Int) (y : Int) = Nat.gcd x y from rfl] at hm
 have hg1 : 1 ≤ Nat.gcd x y := Nat.gcd_pos_of_pos_right _ (by omega)
 have hg2 : Nat.gcd x y ≤ y := Nat.gcd_le_right _ (by omega)
 have q1 : 0 ≤ (x : Int) / (Nat.gcd x y : Nat) := Int.ediv_nonneg (by omega) (by omega)
 have q2 : 0 ≤ (y : Int) / (Nat.gcd x y : Nat) := Int.ediv_nonneg (by omega) (by omega)
 have q3 : (x : Int) / (Nat.gcd x y : Nat) ≤ 9223372036854775807 := Int.le_trans (Int.ediv_le_self _ (by omega)) hu
 have q4 : (y : Int) / (Nat.gcd x y : Nat) ≤ 9223372036854775807 := Int.le_trans (Int.ediv_le_self _ (by omega)) hd
 rcases hm with ⟨hc, rfl, rfl, rfl⟩ | ⟨hc1, hc2, rfl, rfl, rfl⟩
 ·have hc' : 1073741824 < (x : Int) / (Nat.gcd x y : Nat) ∨ ((x : Int) / (Nat.gcd x y : Nat) ≤ 1073741824 ∧ 1073741824 < (y : Int) / (Nat.gcd x y : Nat)) := by omega
  clear hc
  rcases hc' with hc1 | ⟨hc1, hc2⟩
  all_goals
   go_enter Tryz.func11, Tryz.ntmps11
   go_wp2_with (go_at_call 25; refine (divisor_any _ _ (by omega) (by omega) _).mono ?_; rintro e w' ⟨rfl, hbl⟩)
   obtain ⟨hcell, hfroz⟩ := bcell hbl
   generalize Nat.gcd x y = g at *
   have hz : w.heap.size < w'.heap.size := by have := hbl.size; simp at this; omega
   go_region
   go_wp2
   exact bodyPost_ret (v := .tuple #[rv 0 0, .int .i64 4]) (by simp [results, Tryz.results11, go_sem, hcell, hz]) rfl ⟨rfl, (bal (bs (bs (bt (ba _ _) hbl) (Nat.le_refl _) _) (Nat.le_refl _) _) _).drew⟩
 ·go_enter Tryz.func11, Tryz.ntmps11
  go_wp2_with (go_at_call 25; refine (divisor_any _ _ (by omega) (by omega) _).mono ?_; rintro e w' ⟨rfl, hbl⟩)
  obtain ⟨hcell, hfroz⟩ := bcell hbl
  have hz : w.heap.size < w'.heap.size := by have := hbl.size; simp at this; omega
  go_region
  go_wp2
  exact bodyPost_ret (v := .tuple #[rv (x / (Nat.gcd x y : Nat)) (y / (Nat.gcd x y : Nat)), .int .i64 0]) (by simp [results, Tryz.results11, go_sem, hcell, hz]) rfl ⟨rfl, (bal (bs (bs (bt (ba _ _) hbl) (Nat.le_refl _) _) (Nat.le_refl _) _) _).drew⟩
theorem timesLit (a b c d : Int) (p q : Nat) (w : World) (a1 : 0 ≤ a) (a2 : a ≤ 1073741824) (b1 : 1 ≤ b) (b2 : b ≤ 1073741824) (c1 : 0 ≤ c) (c2 : c ≤ 1073741824) (d1 : 1 ≤ d) (d2 : d ≤ 1073741824)
  (k1 : w.cell? ⟨p, 0, none⟩ = some (.int .i64 a)) (k2 : w.cell? ⟨p, 1, none⟩ = some (.int .i64 b)) (k3 : w.cell? ⟨q, 0, none⟩ = some (.int .i64 c)) (k4 : w.cell? ⟨q, 1, none⟩ = some (.int .i64 d)) :
  Calls Tryz.prog 152 #[.pointer (some ⟨p, 0, none⟩), .pointer (some ⟨q, 0, none⟩)] w fun x w' => x = .returned (.tuple #[.int .i64 (a * c), .int .i64 (b * d)]) ∧ Below w.heap.size w w' := by
 obtain ⟨p1, p2⟩ := Rt.mul_bd a1 a2 c1 c2
 obtain ⟨p3, p4⟩ := Rt.mul_bd (a := b) (b := d) (by omega) b2 (by omega) d2
 obtain ⟨p5, p6⟩ := Rt.mul_bd (a := a) (b := d) (by omega) a2 (by omega) d2
 obtain ⟨p7, p8⟩ := Rt.mul_bd (a := c) (b := b) (by omega) c2 (by omega) b2
 obtain ⟨p9, p10⟩ := Rt.mul_bd (a := b) (b := c) (by omega) b2 (by omega) c2
 go_enter Tryz.func152, Tryz.ntmps152
 go_wp2
 go_quiet (fail)
 go_wp2
 go_ret2
 exact ⟨rfl, below_drewN (Below.refl _ _) _⟩
set_option maxHeartbeats 400000 in
theorem timesReckon (a b c d n m e : Int) (r1 : Rt.rightB a b = true) (r2 : Rt.rightB c d = true) (hm : Rt.mkT (a * c) (b * d) = (n, m, e)) (p q : Nat) (w : World) (hp : p < w.heap.size) (hq : q < w.heap.size)
  (k1 : w.cell? ⟨p, 0, none⟩ = some (.int .i64 a)) (k2 : w.cell? ⟨p, 1, none⟩ = some (.int .i64 b)) (k3 : w.cell? ⟨q, 0, none⟩ = some (.int .i64 c)) (k4 : w.cell? ⟨q, 1, none⟩ = some (.int .i64 d)) :
  Calls Tryz.prog 151 #[rv a b, rv c d, .func (.func 152) #[] #[.pointer (some ⟨p, 0, none⟩), .pointer (some ⟨q, 0, none⟩)]] w fun x w' => x = .returned (.tuple #[rv n m, .int .i64 e]) ∧ Below w.heap.size w w' := by
 have HM : Hid (Rt.mkT (a * c) (b * d) = (n, m, e)) := hm
 have R1 : Hid (Rt.rightB a b = true) := r1
 have R2 : Hid (Rt.rightB c d = true) := r2
 obtain ⟨a1, a2, b1, b2⟩ := Rt.right_bd r1
 obtain ⟨c1, c2, d1, d2⟩ := Rt.right_bd r2
 clear r1 r2 hm
 obtain ⟨p1, p2⟩ := Rt.mul_bd a1 a2 c1 c2
 obtain ⟨p3, p4⟩ := Rt.mul_bd (a := b) (b := d) (by omega) b2 (by omega) d2
 obtain ⟨p5, p6⟩ := Rt.mul_bd (a := a) (b := d) (by omega) a2 (by omega) d2
 obtain ⟨p7, p8⟩ := Rt.mul_bd (a := c) (b := b) (by omega) c2 (by omega) b2
 obtain ⟨p9, p10⟩ := Rt.mul_bd (a := b) (b := c) (by omega) b2 (by omega) c2
 go_enter Tryz.func151, Tryz.ntmps151
 go_wp2_with fail
 refine (right_any a b true R1.out _).mono ?_
 rintro e1 w1 ⟨rfl, hb1⟩
 obtain ⟨hc1, hf1⟩ := bcell hb1
 go_wp2_with fail
 refine (right_any c d true R2.out _).mono ?_
 rintro e2 w2 ⟨rfl, hb2⟩
 have F2 := bt hb1 hb2
 clear hc1 hf1 hb1 hb2
 have G2 := bt (bal (bal (ba _ _) _) _) F2
 go_wp2_with fail
 refine (timesLit a b c d p q _ a1 a2 b1 b2 c1 c2 d1 d2 ((G2.cell (p := ⟨p, 0, none⟩) hp).trans k1) ((G2.cell (p := ⟨p, 1, none⟩) hp).trans k2) ((G2.cell (p := ⟨q, 0, none⟩) hq).trans k3) ((G2.cell (p := ⟨q, 1, none⟩) hq).trans k4)).mono ?_
 rintro e3 w3 ⟨rfl, hb3⟩
 go_wp2_with fail
 refine (make_any (a * c) (b * d) n m e (by omega) (by omega) HM.out _).mono ?_
 rintro e4 w4 ⟨rfl, hb4⟩
 have F4 := bt (bt F2 hb3) hb4
 have G4 := bt (bal (bal (ba _ _) _) _) F4
 clear F2 hb3 hb4 G2
 obtain ⟨hc4, hf4⟩ := bcell F4
 go_wp2_with fail
 exact bodyPost_ret (v := .tuple #[rv n m, .int .i64 e]) (by simp [results, Tryz.results151, go_sem, hc4]) rfl ⟨rfl, bs (bs G4 (by simp; omega) _) (by simp; omega) _⟩
set_option maxHeartbeats 400000 in
theorem reckonNo (a b c d : Int) (f : Value) (h : Rt.rightB a b = false ∨ (Rt.rightB a b = true ∧ Rt.rightB c d = false)) (w : World) :
  Calls Tryz.prog 151 #[rv a b, rv c d, f] w fun x w' => x = .returned (.tuple #[rv 0 0, .int .i64 2]) ∧ Below w.heap.size w w' := by
 rcases h with r1 | ⟨r1, r2⟩
 ·have R1 : Hid (Rt.rightB a b = false) := r1
  clear r1
  go_enter Tryz.func151, Tryz.ntmps151
  go_wp2_with fail
  refine (right_any a b false R1.out _).mono ?_
  rintro e1 w1 ⟨rfl, hb1⟩
  have G1 := bt (bal (bal (ba _ _) _) _) hb1
  obtain ⟨hc1, hf1⟩ := bcell hb1
  go_wp2_with fail
  exact bodyPost_ret (v := .tuple #[rv 0 0, .int .i64 2]) (by simp [results, Tryz.results151, go_sem, hc1]) rfl ⟨rfl, bs (bs G1 (by simp; omega) _) (by simp; omega) _⟩
 ·have R1 : Hid (Rt.rightB a b = true) := r1
  have R2 : Hid (Rt.rightB c d = false) := r2
  clear r1 r2
  go_enter Tryz.func151, Tryz.ntmps151
  go_wp2_with fail
  refine (right_any a b true R1.out _).mono ?_
  rintro e1 w1 ⟨rfl, hb1⟩
  obtain ⟨hc1, hf1⟩ := bcell hb1
  go_wp2_with fail
  refine (right_any c d false R2.out _).mono ?_
  rintro e2 w2 ⟨rfl, hb2⟩
  have F2 := bt hb1 hb2
  clear hc1 hf1 hb1 hb2
  have G2 := bt (bal (bal (ba _ _) _) _) F2
  obtain ⟨hc1, hf1⟩ := bcell F2
  go_wp2_with fail
  exact bodyPost_ret (v := .tuple #[rv 0 0, .int .i64 2]) (by simp [results, Tryz.results151, go_sem, hc1]) rfl ⟨rfl, bs (bs G2 (by simp; omega) _) (by simp; omega) _⟩
set_option maxHeartbeats 400000 in
theorem times_any (a b c d n m e : Int) (h : Rt.timesT a b c d = (n, m, e)) (w : World) :
  Calls Tryz.prog 107 #[rv a b, rv c d] w fun x w' => x = .returned (.tuple #[rv n m, .int .i64 e]) ∧ Below w.heap.size w w' := by
 have H : Hid (Rt.timesT a b c d = (n, m, e)) := h
 clear h
 by_cases r : Rt.rightB a b = true ∧ Rt.rightB c d = true
 ·obtain ⟨r1, r2⟩ := r
  have hm : Rt.mkT (a * c) (b * d) = (n, m, e) := by rw [← H.out]; unfold Rt.timesT; rw [if_pos ⟨r1, r2⟩]
  have HM : Hid (Rt.mkT (a * c) (b * d) = (n, m, e)) := hm
  have R1 : Hid (Rt.rightB a b = true) := r1
  have R2 : Hid (Rt.rightB c d = true) := r2
  clear hm r1 r2 H
  go_enter Tryz.func107, Tryz.ntmps107
  go_wp2_with fail
  refine (timesReckon a b c d n m e R1.out R2.out HM.out w.heap.size (w.heap.size + 1) _ (by simp <;> omega) (by simp <;> omega) (by simp [go_sem]) (by simp [go_sem]) (by simp [go_sem]) (by simp [go_sem])).mono ?_
  rintro e1 w1 ⟨rfl, hb1⟩
  have G1 := bt (bal (bal (ba _ _) _) _) hb1
  obtain ⟨hc1, hf1⟩ := bcell hb1
  go_wp2_with fail
  exact bodyPost_ret (v := .tuple #[rv n m, .int .i64 e]) (by simp [results, Tryz.results107, go_sem, hc1]) rfl ⟨rfl, bs (bs G1 (by simp; omega) _) (by simp; omega) _⟩
 ·have hr : (0, 0, 2) = (n, m, e) := by rw [← H.out]; unfold Rt.timesT; rw [if_neg r]
  simp only [Prod.mk.injEq] at hr
  obtain ⟨rfl, rfl, rfl⟩ := hr
  have r' : Rt.rightB a b = false ∨ (Rt.rightB a b = true ∧ Rt.rightB c d = false) := by
   cases h1 : Rt.rightB a b <;> cases h2 : Rt.rightB c d <;> simp_all
  have R : Hid (Rt.rightB a b = false ∨ (Rt.rightB a b = true ∧ Rt.rightB c d = false)) := r'
  clear r r' H
  go_enter Tryz.func107, Tryz.ntmps107
  go_wp2_with fail
  refine (reckonNo a b c d _ R.out _).mono ?_
  rintro e1 w1 ⟨rfl, hb1⟩
  have G1 := bt (bal (bal (ba _ _) _) _) hb1
  obtain ⟨hc1, hf1⟩ := bcell hb1
  go_wp2_with fail
  exact bodyPost_ret (v := .tuple #[rv 0 0, .int .i64 2]) (by simp [results, Tryz.results107, go_sem, hc1]) rfl ⟨rfl, bs (bs G1 (by simp; omega) _) (by simp; omega) _⟩
end Go.Proofs.YtkolmadahacoeaaGreat.K.P
