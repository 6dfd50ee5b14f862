import Derived.Test.YtkolmadahacoeaaGreatQq05
import Derived.Test.YtkolmadahacoeaaGreatQq13
import Derived.Shelf.Abstract
import Derived.Test.YtkolmadahacoeaaGreatQq11
import Derived.Test.YtkolmadahacoeaaGreatQq10
namespace Go.Proofs.YtkolmadahacoeaaGreat
open Go.RowKit Go.Shelf Go.Proofs.YtkolmadahacoeaaGreat.Ds
theorem fn30_0 (d : Nat) (fn : Fn) (xs ys : Array Value) (w : World) : (Op.equalIn (d + 1) 111 (.func fn xs ys) .nilFunc).run Tryz.prog w = .ok false w := by
 simp only [Op.equalIn, Sem.run_bind, run_underlying Tryz.underlying111, Result.andThen_ok]
 rfl
theorem fn30_there (fn : Fn) (xs ys : Array Value) (w : World) : (Op.equal 111 (.func fn xs ys) .nilFunc).run Tryz.prog w = .ok false w := fn30_0 9999 fn xs ys w
theorem fn30_is (fn : Fn) (xs ys : Array Value) (w : World) : (binOp .neq 111 (.func fn xs ys) .nilFunc).run Tryz.prog w = .ok (.bool true) w := by
 simp only [binOp, Sem.run_bind, fn30_there, Result.andThen_ok]
 rfl
abbrev Fl := Vl × (Value × List Tr)
def Fws (w : World) (B : Nat) (v : Value) (fs : List Fl) : Prop :=
 ∃ a c, v = .slice a fs.length c ∧ fs.length ≤ c ∧ fs.length ≤ 1073741824 ∧ (∀ f ∈ fs, Ints w B B f.1.1 f.1.2 ∧ Parts w B f.2.1 f.2.2) ∧
  (fs ≠ [] → ∃ b o, a = some ⟨b, o, none⟩ ∧ b < B ∧ ∀ i f, fs[i]? = some f → w.cell? ⟨b, o + i * 2, none⟩ = some f.1.1 ∧ w.cell? ⟨b, o + i * 2 + 1, none⟩ = some f.2.1)
def fd (fs : List Fl) : List (List Int × List Pt) := fs.map fun f => (f.1.2, rd f.2.2)
theorem Fws.keep {w w' : World} {B : Nat} {v : Value} {fs : List Fl} (h : Fws w B v fs) (hb : Below B w w') : Fws w' B v fs := by
 obtain ⟨a, c, hv, hc, hl, hi, hx⟩ := h
 refine ⟨a, c, hv, hc, hl, fun t ht => ⟨(hi t ht).1.keep hb, (hi t ht).2.keep hb⟩, fun hne => ?_⟩
 obtain ⟨b, o, ha, hB, hcell⟩ := hx hne
 exact ⟨b, o, ha, hB, fun i z hz => ⟨(hb.cell (p := ⟨b, o + i * 2, none⟩) hB).trans (hcell i z hz).1, (hb.cell (p := ⟨b, o + i * 2 + 1, none⟩) hB).trans (hcell i z hz).2⟩⟩
theorem Fws.at {w w' : World} {B : Nat} {v : Value} {fs : List Fl} (h : Fws w B v fs) (hB : B ≤ w.heap.size) (hb : Below w.heap.size w w') : Fws w' B v fs := h.keep (hb.mono hB)
theorem Fws.get {w wr : World} {B : Nat} {a : Option Addr} {n c : Nat} {fs : List Fl} (hp : Fws w B (.slice a n c) fs) (hB : B ≤ w.heap.size) (hbl : Below w.heap.size w wr) {i : Nat} (h : i < fs.length) :
  ∃ b o sa sc xs ta tc ts, a = some ⟨b, o, none⟩ ∧ b < w.heap.size ∧ fs[i]? = some ((.slice sa xs.length sc, xs), (.slice ta ts.length tc, ts)) ∧ wr.cell? ⟨b, o + i * 2, none⟩ = some (.slice sa xs.length sc) ∧ wr.cell? ⟨b, o + i * 2 + 1, none⟩ = some (.slice ta ts.length tc) ∧
   Ints wr B B (.slice sa xs.length sc) xs ∧ Parts wr B (.slice ta ts.length tc) ts := by
 obtain ⟨a', c', hv, hc, hl, hi, hx⟩ := hp
 simp only [Value.slice.injEq] at hv
 obtain ⟨rfl, rfl, rfl⟩ := hv
 obtain ⟨b, o, ha, hb, hcell⟩ := hx (ne_of_lt h)
 obtain ⟨⟨⟨s, xs⟩, ⟨t, ts⟩⟩, hs⟩ := get_lt h
 obtain ⟨hI, hJ⟩ := hi _ (List.mem_of_getElem? hs)
 have hI2 := hI.at hB hbl
 have hJ2 := hJ.at hB hbl
 obtain ⟨sa, sc, he, _⟩ := hI
 obtain ⟨ta, tc, he', _⟩ := hJ
 simp only at he he'
 subst he he'
 have hlt : b < w.heap.size := by omega
 exact ⟨b, o, sa, sc, xs, ta, tc, ts, ha, hlt, hs, (hbl.cell (p := ⟨b, o + i * 2, none⟩) hlt).trans (hcell i _ hs).1, (hbl.cell (p := ⟨b, o + i * 2 + 1, none⟩) hlt).trans (hcell i _ hs).2, hI2, hJ2⟩
def thenT : List (List Int × List Pt) → List Int → List Pt
 | [], o => [(o, 1)]
 | f :: fs, o => if f.1 = o then f.2 else thenT fs o
def NonF (fs : List Fl) (i : Nat) (o : List Int) : Prop := thenT (fd fs) o = thenT (fd (fs.drop i)) o
theorem NonF.step {fs : List Fl} {i : Nat} {o : List Int} {f : Fl} (h : NonF fs i o) (hf : fs[i]? = some f) (hne : ¬ f.1.2 = o) : NonF fs (i + 1) o := by
 unfold NonF at *
 rw [h, List.drop_eq_getElem_cons (List.getElem?_eq_some_iff.1 hf).1, (List.getElem?_eq_some_iff.1 hf).2]
 simp only [fd, List.map_cons, thenT]
 rw [if_neg hne]
theorem NonF.hit {fs : List Fl} {i : Nat} {o : List Int} {f : Fl} (h : NonF fs i o) (hf : fs[i]? = some f) (he : f.1.2 = o) : thenT (fd fs) o = rd f.2.2 := by
 unfold NonF at *
 rw [h, List.drop_eq_getElem_cons (List.getElem?_eq_some_iff.1 hf).1, (List.getElem?_eq_some_iff.1 hf).2]
 simp only [fd, List.map_cons, thenT]
 rw [if_pos he]
theorem NonF.end {fs : List Fl} {i : Nat} {o : List Int} (h : NonF fs i o) (hi : fs.length ≤ i) : thenT (fd fs) o = [(o, 1)] := by
 unfold NonF at *
 rw [h, List.drop_eq_nil_of_le hi]
 rfl
set_option maxHeartbeats 1000000 in
theorem then_any (B C : Nat) (v u : Value) (fs : List Fl) (xs : List Int) (w : World) (hB : B ≤ w.heap.size) (hC : C ≤ w.heap.size) (hp : Fws w B v fs) (hu : Ints w C C u xs) (l : List Pt) (hr : thenT (fd fs) xs = l) :
  Calls Tryz.prog 46 #[v, u] w fun e w' => ∃ r us, e = .returned r ∧ rd us = l ∧ Parts w' w'.heap.size r us ∧ Below w.heap.size w w' := by
 have HP : Hid (Fws w B v fs) := hp
 have HU : Hid (Ints w C C u xs) := hu
 have HR : Hid (thenT (fd fs) xs = l) := hr
 obtain ⟨a, c, rfl, hc, hl, _⟩ := hp
 obtain ⟨ua, uc, rfl, _⟩ := hu
 clear hr
 go_enter Tryz.func46, Tryz.ntmps46
 go_wp2
 go_loopw [9] (fun s wr => ∃ i : Nat, s = .int .i64 (i : Int) ∧ i ≤ fs.length ∧ Hid (NonF fs i xs) ∧ Below w.heap.size w wr) (fun s _ => fs.length - (intOf s).toNat)
 case atStart => exact ⟨0, rfl, Nat.zero_le _, by simp [Hid, NonF], Below.refl _ _⟩
 case round =>
  obtain ⟨i, rfl, hit, HN, hbl⟩ := hrel
  have hbs := hbl.size
  by_cases h1 : i < fs.length
  ·obtain ⟨b, o, sa, sc, gs, ta, tc, ts, rfl, hb, hs, d1, d2, hI, hJ⟩ := HP.out.get hB hbl h1
   have HS : Hid (fs[i]? = some ((.slice sa gs.length sc, gs), (.slice ta ts.length tc, ts))) := hs
   have HI : Hid (Ints wr B B (.slice sa gs.length sc) gs) := hI
   have HJ : Hid (Parts wr B (.slice ta ts.length tc) ts) := hJ
   have hb1 : Below wr.heap.size wr (wr.alloc (.cells #[.slice sa gs.length sc, .slice ta ts.length tc] 78)) := ba _ _
   obtain ⟨r, hr⟩ : ∃ r, decide (gs = xs) = r := ⟨_, rfl⟩
   have HE : Hid (decide (gs = xs) = r) := hr
   have kc := equalI_any wr.heap.size B C (.slice sa gs.length sc) (.slice ua xs.length uc) gs xs (wr.alloc (.cells #[.slice sa gs.length sc, .slice ta ts.length tc] 78)) ((HI.out.at (by omega) hb1).mono (by omega) (.inl rfl)) ((HU.out.at hC (bt hbl hb1)).mono (by omega) (.inl rfl)) r hr
   clear hs hI hJ hr
   go_wp2_with fail
   refine kc.mono ?_
   rintro e w2 ⟨rfl, q, rfl⟩
   clear kc
   cases r with
   | true =>
    have hy : rd ts = l := by rw [← HR.out]; exact (HN.out.hit HS.out (of_decide_eq_true HE.out)).symm
    have HY : Hid (rd ts = l) := hy
    clear hy
    go_wp2
    go_ret
    exact ⟨_, ts, rfl, HY.out, (HJ.out.at (by omega) (below_drewN hb1 _)).mono (by simp; omega), below_drewN (bt hbl hb1) _⟩
   | false =>
    have HN2 : Hid (NonF fs (i + 1) xs) := HN.out.step HS.out (of_decide_eq_false HE.out)
    go_wp2
    go_roundw
    case rel => exact ⟨i + 1, by go_num, h1, HN2, below_drewN (bt hbl hb1) _⟩
    case measure => simp [intOf]; omega
  ·have hy : [(xs, 1)] = l := by rw [← HR.out]; exact (HN.out.end (by omega)).symm
   have HY : Hid ([(xs, 1)] = l) := hy
   have HO : Hid (Parts (wr.alloc (.cells #[.slice ua xs.length uc, .int .i64 1] 61)) (wr.heap.size + 1) (.slice (some ⟨wr.heap.size, 0, none⟩) 1 1) [(.slice ua xs.length uc, xs, 1)]) := parts_one wr C C _ xs 1 (by omega) (HU.out.at hC hbl)
   clear hy
   go_wp2
   go_ret
   exact ⟨_, [(.slice ua xs.length uc, xs, 1)], rfl, HY.out, by simpa using HO.out, bal hbl _⟩
theorem bind1_any (B C bx : Nat) (v u : Value) (fs : List Fl) (xs : List Int) (w : World) (hB : B ≤ w.heap.size) (hC : C ≤ w.heap.size) (hc : w.cell? ⟨bx, 0, none⟩ = some v) (hp : Fws w B v fs) (hu : Ints w C C u xs) (l : List Pt) (hr : thenT (fd fs) xs = l) :
  Calls Tryz.prog 45 #[u, .pointer (some ⟨bx, 0, none⟩)] w fun e w' => ∃ r us, e = .returned (.tuple #[r, .int .i64 0]) ∧ rd us = l ∧ Parts w' w'.heap.size r us ∧ Below w.heap.size w w' := by
 have kc := then_any B C v u fs xs w hB hC hp hu l hr
 obtain ⟨a, c, rfl, _⟩ := hp
 obtain ⟨ua, uc, rfl, _⟩ := hu
 clear hr
 go_enter Tryz.func45, Tryz.ntmps45
 go_wp2_with fail
 refine kc.mono ?_
 rintro e w1 ⟨r, us, rfl, h1, h2, h3⟩
 have H2 : Hid (Parts w1 w1.heap.size r us ∧ rd us = l) := ⟨h2, h1⟩
 obtain ⟨ra, rc, rfl, _⟩ := h2
 clear h1 kc
 go_wp2
 exact bodyPost_ret (v := .tuple #[.slice ra us.length rc, .int .i64 0]) (by simp [results, Tryz.results45, go_sem]) rfl ⟨_, us, rfl, H2.out.2, H2.out.1, h3⟩
set_option maxHeartbeats 1000000 in
theorem bind2_any (B C bx by' : Nat) (v u : Value) (fs : List Fl) (xs : List Int) (w : World) (hB : B ≤ w.heap.size) (hC : C ≤ w.heap.size) (hc : w.cell? ⟨bx, 0, none⟩ = some v) (hf : w.cell? ⟨by', 0, none⟩ = some (.func (.func 45) #[] #[.pointer (some ⟨bx, 0, none⟩)])) (hp : Fws w B v fs) (hu : Ints w C C u xs) (l : List Pt) (er : Int) (hr : ownT (thenT (fd fs) xs) = (l, er)) :
  Calls Tryz.prog 85 #[u, .pointer (some ⟨by', 0, none⟩)] w fun e w' => ∃ v' us, e = .returned (.tuple #[v', .int .i64 er]) ∧ rd us = l ∧ OwnN w' w.heap.size v' us ∧ Below w.heap.size w w' ∧ Frs w.heap.size us := by
 have kc := bind1_any B C bx v u fs xs w hB hC hc hp hu _ rfl
 have HR : Hid (ownT (thenT (fd fs) xs) = (l, er)) := hr
 obtain ⟨ua, uc, rfl, _⟩ := hu
 clear hr
 go_enter Tryz.func85, Tryz.ntmps85
 go_wp2_with fail
 refine kc.mono ?_
 rintro e w1 ⟨r, us, rfl, h1, h2, h3⟩
 have ko := own_fr w1.heap.size r us w1 (Nat.le_refl _) h2 l er (by rw [h1]; exact HR.out)
 obtain ⟨ra, rc, rfl, _⟩ := h2
 have hs := h3.size
 clear h1 kc
 go_wp2_with fail
 refine ko.mono ?_
 rintro e w2 ⟨v2, xs2, rfl, k1, k2, k3, k4⟩
 obtain ⟨a2, c2, rfl⟩ := k2.slice
 have H2 : Hid (rd xs2 = l ∧ OwnN w2 w.heap.size (.slice a2 xs2.length c2) xs2 ∧ Frs w.heap.size xs2) := ⟨k1, k2.mono hs, k4.mono hs⟩
 clear k1 k2 k4 ko
 go_wp2
 exact bodyPost_ret (v := .tuple #[.slice a2 xs2.length c2, .int .i64 er]) (by simp [results, Tryz.results85, go_sem]) rfl ⟨_, xs2, rfl, H2.out.1, H2.out.2.1, bt h3 k3, H2.out.2.2⟩
theorem own_dis {l : List Pt} (h : (ownT l).2 = 0) : Dis (ownT l).1 := by
 have := ownT_ok (Prod.ext rfl h : ownT l = ((ownT l).1, 0))
 rw [this.1]
 exact this.2
def bindT (l : List Pt) (F : List Int → List Pt) : List Pt × Int := if (ownT l).2 = 0 then chT (fun x => ownT (F x)) l else ([], (ownT l).2)
set_option maxHeartbeats 1000000 in
theorem dbind_any (B bx : Nat) (v u : Value) (ts : List Tr) (fs : List Fl) (w : World) (hB : B ≤ w.heap.size) (hbx : bx < w.heap.size) (hc : w.cell? ⟨bx, 0, none⟩ = some u) (hp : Parts w B v ts) (hq : Fws w B u fs) (l : List Pt) (er : Int) (hr : bindT (rd ts) (thenT (fd fs)) = (l, er)) :
  Calls Tryz.prog 44 #[v, .func (.func 45) #[] #[.pointer (some ⟨bx, 0, none⟩)]] w fun e w' => ∃ v' us, e = .returned (.tuple #[v', .int .i64 er]) ∧ rd us = l ∧ OwnN w' w.heap.size v' us ∧ Below w.heap.size w w' ∧ Frs w.heap.size us := by
 obtain ⟨⟨l1, e1⟩, ho⟩ : ∃ x, ownT (rd ts) = x := ⟨_, rfl⟩
 obtain ⟨W, hW⟩ : ∃ W, w.alloc (.cells #[.func (.func 45) #[] #[.pointer (some ⟨bx, 0, none⟩)]] 111) = W := ⟨_, rfl⟩
 have HW : Hid (Below w.heap.size w W) := hW ▸ ba w _
 have hWs : W.heap.size = w.heap.size + 1 := by rw [← hW]; simp
 have cW : W.cell? ⟨w.heap.size, 0, none⟩ = some (.func (.func 45) #[] #[.pointer (some ⟨bx, 0, none⟩)]) := by rw [← hW]; simp [go_sem]
 have cB : W.cell? ⟨bx, 0, none⟩ = some u := (HW.out.cell (p := ⟨bx, 0, none⟩) hbx).trans hc
 have kc := ownFor_any B v ts W (by omega) (hp.at hB HW.out) l1 e1 ho
 have HQ : Hid (Fws W B u fs) := hq.at hB HW.out
 have HR : Hid (bindT (rd ts) (thenT (fd fs)) = (l, er) ∧ ownT (rd ts) = (l1, e1)) := ⟨hr, ho⟩
 obtain ⟨a, c, rfl, _⟩ := hp
 obtain ⟨ua, uc, rfl, _⟩ := hq
 have hfn := fun w => fn30_is (.func 45) #[] #[.pointer (some ⟨bx, 0, none⟩)] w
 clear hr ho
 go_enter Tryz.func44, Tryz.ntmps44
 go_wp2_with fail
 clear hW
 refine kc.mono ?_
 rintro e w1 ⟨v1, us, rfl, h1, h2, h3⟩
 obtain ⟨b1, d1, rfl⟩ := h2.slice
 have hs1 := h3.size
 have b1w : Below w.heap.size w w1 := bt HW.out h3
 by_cases h0 : e1 = 0
 ·subst h0
  obtain ⟨hle, hdis⟩ := ownT_ok HR.out.2
  have hch := HR.out.1
  unfold bindT at hch
  rw [HR.out.2] at hch
  simp only [if_true] at hch
  have hru : rd us = rd ts := h1.trans hle
  have kch := chain_any 85 (.pointer (some ⟨w.heap.size, 0, none⟩)) (fun x => ownT (thenT (fd fs) x)) w1.heap.size (.slice b1 us.length d1) us w1 (Nat.le_refl _) h2.parts (by rw [hru]; exact hdis) (enters_of Tryz.func85 (by kernel_rfl) rfl)
   (fun W' u xs hbW hI _ => bind2_any B W'.heap.size bx w.heap.size (.slice ua fs.length uc) u fs xs W' (by have := hbW.size; omega) (Nat.le_refl _) (((bt h3 hbW).cell (p := ⟨bx, 0, none⟩) (by show bx < W.heap.size; omega)).trans cB) (((bt h3 hbW).cell (p := ⟨w.heap.size, 0, none⟩) (by show w.heap.size < W.heap.size; omega)).trans cW) (HQ.out.at (by omega) (bt h3 hbW)) hI _ _ rfl)
   (fun p _ he => own_dis he) l er (by rw [hru]; exact hch)
  clear hch hdis hle h1 h2 kc hru
  go_wp2_with fail
  refine kch.mono ?_
  rintro e w2 ⟨v2, xs2, rfl, k1, k2, k3, k4⟩
  obtain ⟨a2, c2, rfl⟩ := k2.slice
  have H2 : Hid (rd xs2 = l ∧ OwnN w2 w.heap.size (.slice a2 xs2.length c2) xs2 ∧ Frs w.heap.size xs2) := ⟨k1, k2.mono (by omega), k4.mono (by omega)⟩
  clear k1 k2 kch k4
  go_wp2
  exact bodyPost_ret (v := .tuple #[.slice a2 xs2.length c2, .int .i64 er]) (by simp [results, Tryz.results44, go_sem]) rfl ⟨_, xs2, rfl, H2.out.1, H2.out.2.1, bt b1w k3, H2.out.2.2⟩
 ·have h0' : (e1 == 0) = false := by simpa using h0
  have hm := HR.out.1
  unfold bindT at hm
  rw [HR.out.2] at hm
  simp only [h0, if_false, Prod.mk.injEq] at hm
  obtain ⟨rfl, rfl⟩ := hm
  clear h1 h2 kc
  go_wp2
  exact bodyPost_ret (v := .tuple #[.slice none 0 0, .int .i64 e1]) (by simp [results, Tryz.results44, go_sem]) rfl ⟨_, [], rfl, rfl, .inl ⟨rfl, rfl⟩, b1w, Frs.nil _⟩
theorem pbind_any (B : Nat) (v u : Value) (ts : List Tr) (fs : List Fl) (w : World) (hB : B ≤ w.heap.size) (hp : Parts w B v ts) (hq : Fws w B u fs) (l : List Pt) (er : Int) (hr : bindT (rd ts) (thenT (fd fs)) = (l, er)) :
  Calls Tryz.prog 19 #[v, u] w fun e w' => ∃ v' us, e = .returned (.tuple #[v', .int .i64 er]) ∧ rd us = l ∧ OwnN w' w.heap.size v' us ∧ Below w.heap.size w w' ∧ Frs w.heap.size us := by
 have HP : Hid (Parts w B v ts) := hp
 have HQ : Hid (Fws w B u fs) := hq
 have HR : Hid (bindT (rd ts) (thenT (fd fs)) = (l, er)) := hr
 obtain ⟨a, c, rfl, _⟩ := hp
 obtain ⟨ua, uc, rfl, _⟩ := hq
 have kc := dbind_any B w.heap.size (.slice a ts.length c) (.slice ua fs.length uc) ts fs (w.alloc (.cells #[.slice ua fs.length uc] 75)) (by simp; omega) (by simp) (by simp [go_sem]) (HP.out.at hB (ba _ _)) (HQ.out.at hB (ba _ _)) l er HR.out
 clear hr
 go_enter Tryz.func19, Tryz.ntmps19
 go_wp2_with fail
 refine kc.mono ?_
 rintro e w1 ⟨v1, us, rfl, h1, h2, h3, h4⟩
 obtain ⟨b1, d1, rfl⟩ := h2.slice
 have hb : Below w.heap.size w w1 := bt (ba _ _) h3
 clear kc
 go_wp2
 exact bodyPost_ret (v := .tuple #[.slice b1 us.length d1, .int .i64 er]) (by simp [results, Tryz.results19, go_sem]) rfl ⟨_, us, rfl, h1, h2.mono (by simp), hb, h4.mono (by simp)⟩
end Go.Proofs.YtkolmadahacoeaaGreat
namespace Go.Proofs.YtkolmadahacoeaaGreat
open Go.RowKit Go.Proofs.YtkolmadahacoeaaGreat.Ds
def sumW (f : List Int → Int) : List Pt → Int
 | [] => 0
 | p :: l => p.2 * f p.1 + sumW f l
theorem spr_is (N : List Int → List Pt) (A : Int) (l : List Pt) (o : List Int) : wt (spr N A l) o = sumW (fun x => A / tot (N x) * wt (N x) o) l := by
 induction l with
 | nil => rfl
 | cons p l ih =>
  rw [spr_cons, wt_append, one_wt, ih, sumW]
  have : wt (N p.1) o * (p.2 * (A / tot (N p.1))) = p.2 * (A / tot (N p.1) * wt (N p.1) o) := by ac_rfl
  rw [this]
theorem allT_ok {thn : List Int → List Pt × Int} {l : List Pt} {A A' : Int} (h : allT thn A l = (A', 0)) (hA : 1 ≤ A) (hd : ∀ p ∈ l, (thn p.1).2 = 0 → Dis (thn p.1).1) : A ∣ A' ∧ 1 ≤ A' ∧ ∀ p ∈ l, (thn p.1).2 = 0 ∧ tot (thn p.1).1 ∣ A' := by
 induction l generalizing A with
 | nil => simp [allT] at h; subst h; exact ⟨Int.dvd_refl _, hA, fun p hp => by cases hp⟩
 | cons p l ih =>
  rw [allT] at h
  split at h
  ·rename_i h0
   split at h
   ·simp at h
   ·have hn := hd p (by simp) h0
    have tn := tot_pos2 hn.pos hn.ne
    obtain ⟨n, hnn⟩ : ∃ n, (thn p.1).1 = n := ⟨_, rfl⟩
    rw [hnn] at h hn tn
    have hgd : (Int.gcd A (tot n) : Int) ∣ tot n := Int.gcd_dvd_right _ _
    have hgA : (Int.gcd A (tot n) : Int) ∣ A := Int.gcd_dvd_left _ _
    have hgp : 0 < (Int.gcd A (tot n) : Int) := by
     have : 0 < Int.gcd A (tot n) := Int.gcd_pos_of_ne_zero_left _ (by omega)
     omega
    have hg0 : 0 < tot n / (Int.gcd A (tot n) : Int) := Int.ediv_pos_of_pos_of_dvd tn (by omega) hgd
    obtain ⟨i1, i2, i3⟩ := ih h (Int.mul_pos (by omega) hg0) fun q hq => hd q (by simp [hq])
    have hdn : tot n ∣ A * (tot n / (Int.gcd A (tot n) : Int)) := by
     obtain ⟨c, hc⟩ := hgA
     refine ⟨c, ?_⟩
     have e2 : (Int.gcd A (tot n) : Int) * (tot n / (Int.gcd A (tot n) : Int)) = tot n := Int.mul_ediv_cancel' hgd
     have e3 : A * (tot n / (Int.gcd A (tot n) : Int)) = (Int.gcd A (tot n) : Int) * c * (tot n / (Int.gcd A (tot n) : Int)) := congrArg (· * (tot n / (Int.gcd A (tot n) : Int))) hc
     rw [e3, Int.mul_right_comm, e2]
    refine ⟨Int.dvd_trans (Int.dvd_mul_right _ _) i1, i2, fun q hq => ?_⟩
    rcases List.mem_cons.1 hq with rfl | hq
    ·exact ⟨h0, by rw [hnn]; exact Int.dvd_trans hdn i1⟩
    ·exact i3 q hq
  ·rename_i h0
   simp only [Prod.mk.injEq] at h
   exact absurd h.2 h0
theorem low_told {k l' : List Pt} (hn : Nn k) (hok : ∀ o, 0 < wt k o → okO o = true) (h : lowT (gath k) = (l', 0)) : Dis l' ∧ ∃ g : Int, 0 < g ∧ (∀ o, wt k o = g * wt l' o) ∧ tot k = g * tot l' := by
 have hp := gath_pos hn
 obtain ⟨a, b, c, d, e, f⟩ := lowT_ok hp (gath_rise k) h
 have hne : gath k ≠ [] := by intro h0; rw [h0] at h; simp [lowT] at h
 have hl : l' = cut (dv (gath k)) (gath k) := by
  unfold lowT at h
  rw [if_neg hne] at h
  split at h
  ·simp at h
  ·simp at h; exact h.symm
 have hg : grow (dv (gath k)) l' = gath k := by rw [hl]; exact cut_back fun p hp => dv_dvd_int hp
 have hd := dv_pos hp hne
 have hw : ∀ o, wt k o = (dv (gath k) : Int) * wt l' o := fun o => by rw [← grow_wt, hg, gath_wt]
 refine ⟨⟨a, b, c, d, ?_, e, f⟩, dv (gath k), by omega, hw, by rw [← grow_tot, hg, gath_tot]⟩
 rw [List.all_eq_true]
 intro p hpm
 have h1 : 0 < wt k p.1 := by rw [hw]; exact Int.mul_pos (by omega) (mem_wt_pos a b hpm)
 have h3 := Pos.le_tot (Nn.of_pos b) hpm
 have h4 := b p hpm
 unfold okP
 rw [Bool.and_eq_true]
 exact ⟨by simp; omega, hok _ h1⟩
theorem Dis.okO {l : List Pt} (h : Dis l) {p : Pt} (hp : p ∈ l) : okO p.1 = true := by
 have := List.all_eq_true.1 h.ok p hp
 unfold okP at this
 rw [Bool.and_eq_true] at this
 exact this.2
theorem make_ok {L : List Pt} (ho : L.all okP = true) (h0 : 0 < tot L) (h1 : tot L ≤ 1073741824) (hl : L.length ≤ 4096) : ∃ l, makeT L = (l, 0) := by
 have hne : gath L ≠ [] := by
  intro h
  have := gath_tot L
  rw [h] at this
  simp [tot] at this
  omega
 have hp := gath_pos (all_okP ho).1
 have hd := dv_pos hp hne
 refine ⟨cut (dv (gath L)) (gath L), ?_⟩
 unfold makeT lowT
 rw [if_pos ho, if_neg hne, if_neg]
 have h2 := gath_length L
 have h3 : tot (cut (dv (gath L)) (gath L)) ≤ tot L := by
  rw [cut_tot (fun p hp => dv_dvd_int hp), gath_tot]
  exact Int.ediv_le_self _ (by omega)
 omega
theorem rise_one (f : Nat → Int) (g : Nat → Int) (hf : ∀ i j, i < j → f i < f j) (n : Nat) : Rise ((List.range n).map fun (i : Nat) => (([f i], g i) : Pt)) := by
 unfold Rise
 rw [List.pairwise_map]
 refine List.Pairwise.imp ?_ List.pairwise_lt_range
 intro i j hij
 have := hf i j hij
 simp [ltL, cmpT, this]
theorem wt_one {f g : Nat → Int} (hf : ∀ i j, i < j → f i < f j) {n i : Nat} (hi : i < n) : wt ((List.range n).map fun (i : Nat) => (([f i], g i) : Pt)) [f i] = g i := by
 have hm : (([f i], g i) : Pt) ∈ (List.range n).map fun (i : Nat) => (([f i], g i) : Pt) := List.mem_map.2 ⟨i, List.mem_range.2 hi, rfl⟩
 exact wt_mem (rise_one f g hf n) hm
theorem wt_one_pos {f g : Nat → Int} {n : Nat} {o : List Int} (h : 0 < wt ((List.range n).map fun (i : Nat) => (([f i], g i) : Pt)) o) : ∃ i, i < n ∧ o = [f i] := by
 obtain ⟨p, hp, rfl⟩ := wt_pos_mem h
 obtain ⟨i, hi, rfl⟩ := List.mem_map.1 hp
 exact ⟨i, List.mem_range.1 hi, rfl⟩
theorem okP_one {z k : Int} (h1 : -1073741824 ≤ z) (h2 : z ≤ 1073741824) (h3 : 0 ≤ k) (h4 : k ≤ 1073741824) : okP ([z], k) = true := by
 simp [okP, okO, okN, h1, h2, h3, h4]
theorem hid_okP {u d lo : Int} {R a : Nat} (hR1 : 1 ≤ R) (ha : a ≤ R) (hd : 1 ≤ d) (hdu : d ≤ u) (hm : (u + d) * u ^ R ≤ 1073741824) (hlo : -1073741824 ≤ lo) (hhi : lo + (R : Int) ≤ 1073741824) : (hidL u d lo R a).all okP = true := by
 rw [List.all_eq_true]
 intro p hp
 obtain ⟨i, hi, rfl⟩ := List.mem_map.1 hp
 have := List.mem_range.1 hi
 exact okP_one (by omega) (by omega) (hwt_nn hd hdu R a i) (Int.le_trans (hwt_le hd hdu ha hR1 (by omega)) hm)
theorem hid_make {u d lo : Int} {R a : Nat} (hR1 : 1 ≤ R) (hR : R ≤ 64) (ha : a ≤ R) (hd : 1 ≤ d) (hdu : d ≤ u) (hm : (u + d) * u ^ R ≤ 1073741824) (hlo : -1073741824 ≤ lo) (hhi : lo + (R : Int) ≤ 1073741824) : ∃ l, makeT (hidL u d lo R a) = (l, 0) := by
 refine make_ok (hid_okP hR1 ha hd hdu hm hlo hhi) ?_ ?_ (by simp [hidL]; omega)
 ·rw [hid_tot ha hR1]
  exact Int.mul_pos (by omega) (by have := pow_pos' (show 1 ≤ u by omega) R; omega)
 ·rw [hid_tot ha hR1]; exact hm
theorem hid_wt {u d lo : Int} {R a i : Nat} (hi : i ≤ R) : wt (hidL u d lo R a) [lo + (i : Int)] = hwt u d R a i :=
 wt_one (f := fun i => lo + (i : Int)) (g := hwt u d R a) (fun i j h => by omega) (by omega)
theorem hwt_pos {u d : Int} (hd : 1 ≤ d) (h : d < u) (R a i : Nat) : 0 < hwt u d R a i := by
 unfold hwt
 refine Int.mul_pos (gk_pos (by omega) (by omega) _ _) ?_
 split <;> omega
theorem hid_far {u d lo : Int} {R a b f : Nat} {l m : List Pt} (hR1 : 1 ≤ R) (ha : a ≤ R) (hb : b ≤ R) (hd : 1 ≤ d) (hdu : d < u) (hrt : Rt.rightB u d = true) (hm : (u + d) * u ^ R ≤ 1073741824)
  (h1 : makeT (hidL u d lo R a) = (l, 0)) (h2 : makeT (hidL u d lo R b) = (m, 0)) (hf : f = a - b + (b - a)) : farT l m = (u ^ f, d ^ f, 0) := by
 have hu1 : 1 ≤ u := by omega
 have hT : 0 < (u + d) * u ^ R := Int.mul_pos (by omega) (by have := pow_pos' hu1 R; omega)
 have t1 := hid_tot (u := u) (d := d) (lo := lo) ha hR1
 have t2 := hid_tot (u := u) (d := d) (lo := lo) hb hR1
 have hfR : u ^ f ≤ 1073741824 := by
  have e1 := pow_mono hu1 (show f ≤ R by omega)
  have e2 := Int.mul_le_mul_of_nonneg_right (show 1 ≤ u + d by omega) (show 0 ≤ u ^ R from pow_nn (by omega) _)
  omega
 have hp : 0 < u ^ f := by have := pow_pos' hu1 f; omega
 have hr : Rt.rightB (u ^ f) (d ^ f) = true := by
  obtain ⟨x, rfl⟩ := Int.eq_ofNat_of_zero_le (show 0 ≤ u by omega)
  obtain ⟨y, rfl⟩ := Int.eq_ofNat_of_zero_le (show 0 ≤ d by omega)
  have hg := (Rt.right_nat x y).1 hrt
  have hy := pow_le (show (0 : Int) ≤ (y : Int) by omega) (show (y : Int) ≤ (x : Int) by omega) f
  rw [← Int.natCast_pow, ← Int.natCast_pow] at *
  refine (Rt.right_nat _ _).2 ⟨by omega, Nat.pow_pos hg.2.1, by omega, Nat.Coprime.pow f f hg.2.2.2⟩
 have hs : Sup (hidL u d lo R a) (hidL u d lo R b) := by
  intro o
  constructor
  ·intro h
   obtain ⟨i, hi, rfl⟩ := wt_one_pos (f := fun i => lo + (i : Int)) (g := hwt u d R a) h
   show 0 < wt _ [lo + (i : Int)]
   rw [hid_wt (by omega)]; exact hwt_pos hd hdu _ _ _
  ·intro h
   obtain ⟨i, hi, rfl⟩ := wt_one_pos (f := fun i => lo + (i : Int)) (g := hwt u d R b) h
   show 0 < wt _ [lo + (i : Int)]
   rw [hid_wt (by omega)]; exact hwt_pos hd hdu _ _ _
 have key : ∀ (i x y : Nat), i ≤ R → x ≤ R → y ≤ R → (y - i + (i - y)) ≤ (x - i + (i - x)) + f → hwt u d R x i * ((u + d) * u ^ R) * d ^ f ≤ u ^ f * (hwt u d R y i * ((u + d) * u ^ R)) := by
  intro i x y hi hx hy hxy
  have e1 := gk_bd hd (Int.le_of_lt hdu) (R := R) (k := i - x + (x - i)) (k' := i - y + (y - i)) (f := f) (by omega) (by omega) (by omega)
  unfold hwt
  have hc : 0 ≤ (if i = 0 ∨ i = R then u else u - d) := by split <;> omega
  generalize (if i = 0 ∨ i = R then u else u - d) = c at *
  have e2 := Int.mul_le_mul_of_nonneg_right e1 (Int.mul_nonneg hc (Int.le_of_lt hT))
  calc gk u d R (i - x + (x - i)) * c * ((u + d) * u ^ R) * d ^ f = gk u d R (i - x + (x - i)) * d ^ f * (c * ((u + d) * u ^ R)) := by rw [Int.mul_right_comm, Int.mul_right_comm _ c, Int.mul_assoc]
   _ ≤ u ^ f * gk u d R (i - y + (y - i)) * (c * ((u + d) * u ^ R)) := e2
   _ = u ^ f * (gk u d R (i - y + (y - i)) * c * ((u + d) * u ^ R)) := by simp only [Int.mul_assoc]
 refine far_make h1 h2 hs ⟨pow_le (by omega) (Int.le_of_lt hdu) f, ?_⟩ hp hr [lo + (a : Int)] (by rw [hid_wt ha]; exact hwt_pos hd hdu _ _ _) ?_
 ·intro o ho
  obtain ⟨i, hi, rfl⟩ := wt_one_pos (f := fun i => lo + (i : Int)) (g := hwt u d R a) ho
  show wt _ [lo + (i : Int)] * _ * _ ≤ _ * (wt _ [lo + (i : Int)] * _) ∧ wt _ [lo + (i : Int)] * _ * _ ≤ _ * (wt _ [lo + (i : Int)] * _)
  rw [hid_wt (by omega), hid_wt (by omega), t1, t2]
  exact ⟨key i a b (by omega) ha hb (by omega), key i b a (by omega) hb ha (by omega)⟩
 ·rw [hid_wt ha, hid_wt ha, t1, t2]
  have e1 := gk_far u d (R := R) (k := 0) f (by omega)
  unfold hwt
  rw [show a - a + (a - a) = 0 by omega, show a - b + (b - a) = 0 + f by omega]
  generalize (if a = 0 ∨ a = R then u else u - d) = c at *
  calc gk u d R 0 * c * ((u + d) * u ^ R) * d ^ f = d ^ f * gk u d R 0 * (c * ((u + d) * u ^ R)) := by rw [Int.mul_right_comm, Int.mul_right_comm _ c, Int.mul_assoc, Int.mul_comm (d ^ f)]
   _ = u ^ f * gk u d R (0 + f) * (c * ((u + d) * u ^ R)) := by rw [e1]
   _ = u ^ f * (gk u d R (0 + f) * c * ((u + d) * u ^ R)) := by simp only [Int.mul_assoc]
theorem hid_same {u lo : Int} (h : Rt.rightB u u = true) (hu : 1 ≤ u) {R a b : Nat} : hidL u u lo R a = hidL u u lo R b := by
 have e : u = 1 := by
  obtain ⟨x, rfl⟩ := Int.eq_ofNat_of_zero_le (show 0 ≤ u by omega)
  have := ((Rt.right_nat x x).1 h).2.2.2
  rw [Nat.gcd_self] at this
  omega
 subst e
 unfold hidL hwt gk
 simp [Int.one_pow]
theorem hide_two {u d lo hi m n : Int} {l : List Pt} (h : hideT u d lo hi m = (l, 0)) :
  ∃ l', hideT u d lo hi n = (l', 0) ∧ lossE u d = 0 ∧ (u = d ∨ lo = hi → l = l') ∧
   (¬ u = d → ¬ lo = hi → ∃ f : Nat, (f : Int) = max (plcT lo hi m - plcT lo hi n) (plcT lo hi n - plcT lo hi m) ∧ Rt.powT u d f = (u ^ f, d ^ f, 0) ∧ farT l l' = (u ^ f, d ^ f, 0)) := by
 unfold hideT at *
 by_cases c0 : lossE u d = 0
 ·obtain ⟨hrt, hdu, hd1, hu1⟩ := loss_ok c0
  rw [if_neg (by simpa using c0)] at *
  by_cases c1 : -1073741824 ≤ lo ∧ lo ≤ hi ∧ hi ≤ 1073741824 ∧ hi - lo ≤ 64
  ·rw [if_neg (by simp; omega)] at *
   by_cases c2 : lo = hi
   ·rw [if_pos c2] at *
    exact ⟨l, h, c0, fun _ => rfl, fun _ k => absurd c2 k⟩
   ·rw [if_neg c2] at *
    by_cases c3 : 1073741824 < (u + d) * u ^ (hi - lo).toNat
    ·rw [if_pos c3] at h; simp at h
    ·rw [if_neg c3] at *
     have hA : (plcT lo hi m - lo).toNat ≤ (hi - lo).toNat := by unfold plcT; omega
     have hB : (plcT lo hi n - lo).toNat ≤ (hi - lo).toNat := by unfold plcT; omega
     obtain ⟨l', hl'⟩ := hid_make (u := u) (d := d) (lo := lo) (R := (hi - lo).toNat) (a := (plcT lo hi n - lo).toNat) (by omega) (by omega) hB hd1 hdu (by omega) c1.1 (by omega)
     refine ⟨l', hl', c0, ?_, ?_⟩
     ·intro hc
      rcases hc with rfl | hc
      ·rw [hid_same hrt hd1 (b := (plcT lo hi n - lo).toNat), hl'] at h
       simpa using h.symm
      ·exact absurd hc c2
     ·intro hne _
      have p1 : lo ≤ plcT lo hi m := by unfold plcT; omega
      have p2 : lo ≤ plcT lo hi n := by unfold plcT; omega
      refine ⟨(plcT lo hi m - lo).toNat - (plcT lo hi n - lo).toNat + ((plcT lo hi n - lo).toNat - (plcT lo hi m - lo).toNat), by omega, ?_, hid_far (by omega) hA hB hd1 (by omega) hrt (by omega) h hl' rfl⟩
      generalize hf : (plcT lo hi m - lo).toNat - (plcT lo hi n - lo).toNat + ((plcT lo hi n - lo).toNat - (plcT lo hi m - lo).toNat) = f
      have hfR : f ≤ (hi - lo).toNat := by omega
      have e1 := pow_mono (show 1 ≤ u by omega) hfR
      have e2 := Int.mul_le_mul_of_nonneg_right (show 1 ≤ u + d by omega) (show 0 ≤ u ^ (hi - lo).toNat from pow_nn (by omega) _)
      have e3 := pow_le (show 0 ≤ d by omega) hdu f
      unfold Rt.powT Rt.mx
      rw [if_pos hrt, if_neg (by omega), Int.toNat_natCast, if_neg (by omega)]
  ·rw [if_pos c1] at h; simp at h
 ·rw [if_pos c0] at h
  simp at h
  exact absurd h.2 c0
theorem int_q {a b : Int} : (a : Rat) ≤ (b : Rat) ↔ a ≤ b := Rat.intCast_le_intCast
theorem int_q0 {a : Int} (h : 0 < a) : (0 : Rat) < (a : Rat) := by
 have := Rat.intCast_lt_intCast.2 h
 simpa using this
theorem int_qn {a : Int} (h : 0 ≤ a) : (0 : Rat) ≤ (a : Rat) := by
 have := Rat.intCast_le_intCast.2 h
 simpa using this
def chR (l : List Pt) (o : List Int) : Rat := (wt l o : Rat) / (tot l : Rat)
theorem chR_mul {l : List Pt} (h : Dis l) (o : List Int) : chR l o * (tot l : Rat) = (wt l o : Rat) := by
 have := int_q0 (tot_pos2 h.pos h.ne)
 exact Rat.div_mul_cancel (by grind)
theorem chR_nn {l : List Pt} (h : Dis l) (o : List Int) : 0 ≤ chR l o := by
 have h1 := int_q0 (tot_pos2 h.pos h.ne)
 have h2 := int_qn ((Nn.of_pos h.pos).wt_le o).1
 have h3 := chR_mul h o
 rcases Rat.le_total (a := 0) (b := chR l o) with c | c
 ·exact c
 ·have := Rat.mul_le_mul_of_nonneg_right c (Rat.le_of_lt h1)
  rw [h3, Rat.zero_mul] at this
  have e : (wt l o : Rat) = 0 := Rat.le_antisymm this h2
  rw [e] at h3
  rcases Rat.mul_eq_zero.1 h3 with h | h
  ·rw [h]; exact Rat.le_refl
  ·grind
def smQ (f : List Int → Rat) : List Pt → Rat
 | [] => 0
 | p :: l => (p.2 : Rat) * f p.1 + smQ f l
theorem ch_told {thn : List Int → List Pt × Int} {l l' : List Pt} (hl : Dis l) (hd : ∀ p ∈ l, (thn p.1).2 = 0 → Dis (thn p.1).1) (h : chT thn l = (l', 0)) : Dis l' ∧ (∀ p ∈ l, (thn p.1).2 = 0) ∧ ∀ o, chR l' o * (tot l : Rat) = smQ (fun x => chR (thn x).1 o) l := by
 unfold chT at h
 split at h
 ·rename_i h1
  split at h
  ·simp at h
  ·obtain ⟨A, hA⟩ : ∃ A, (allT thn 1 l).1 = A := ⟨_, rfl⟩
   rw [hA] at h
   obtain ⟨_, a2, a3⟩ := allT_ok (thn := thn) (A' := A) (Prod.ext hA h1) (by omega) hd
   have hF : ∀ p ∈ l, Dis (thn p.1).1 := fun p hp => hd p hp (a3 p hp).1
   have hsn : Nn (spr (fun x => (thn x).1) A l) := spr_nn _ _ (Nn.of_pos hl.pos) (fun p hp => Nn.of_pos (hF p hp).pos) (by omega)
   have hok : ∀ o, 0 < wt (spr (fun x => (thn x).1) A l) o → okO o = true := by
    intro o ho
    obtain ⟨q, hq, rfl⟩ := wt_pos_mem ho
    obtain ⟨p, hp, hq⟩ := List.mem_flatMap.1 hq
    obtain ⟨r, hr, rfl⟩ := List.mem_map.1 hq
    show Ds.okO r.1 = true
    exact (hF p hp).okO hr
   obtain ⟨d', g, hg, hw, ht⟩ := low_told hsn hok h
   refine ⟨d', fun p hp => (a3 p hp).1, fun o => ?_⟩
   have e1 : (g : Rat) * (wt l' o : Rat) = (A : Rat) * smQ (fun x => chR (thn x).1 o) l := by
    rw [← Rat.intCast_mul, ← hw, spr_is]
    have key : ∀ m : List Pt, (∀ p ∈ m, Dis (thn p.1).1 ∧ tot (thn p.1).1 ∣ A) → ((sumW (fun x => A / tot (thn x).1 * wt (thn x).1 o) m : Int) : Rat) = (A : Rat) * smQ (fun x => chR (thn x).1 o) m := by
     intro m
     induction m with
     | nil => intro _; simp [sumW, smQ, Rat.mul_zero]
     | cons p m ih =>
      intro hm
      obtain ⟨hdp, hv⟩ := hm p (by simp)
      rw [sumW, smQ, Rat.intCast_add, ih fun q hq => hm q (by simp [hq]), Rat.intCast_mul, Rat.intCast_mul]
      have t0 := int_q0 (tot_pos2 hdp.pos hdp.ne)
      have e2 : ((A / tot (thn p.1).1 : Int) : Rat) * (tot (thn p.1).1 : Rat) = (A : Rat) := by
       rw [← Rat.intCast_mul, Int.ediv_mul_cancel hv]
      have e3 := chR_mul hdp o
      rw [← e3]
      grind
    exact key l fun p hp => ⟨hF p hp, (a3 p hp).2⟩
   have e2 : (g : Rat) * (tot l' : Rat) = (A : Rat) * (tot l : Rat) := by
    rw [← Rat.intCast_mul, ← ht, spr_tot (fun x => (thn x).1) A fun p hp => (a3 p hp).2, Rat.intCast_mul]
   have t1 := int_q0 (tot_pos2 d'.pos d'.ne)
   have gq := int_q0 hg
   have aq : (0 : Rat) < (A : Rat) := int_q0 (by omega)
   have e3 := chR_mul d' o
   rw [← e3] at e1
   have e4 : (A : Rat) * (chR l' o * (tot l : Rat)) = (A : Rat) * smQ (fun x => chR (thn x).1 o) l := by
    rw [← e1]
    have : (A : Rat) * (chR l' o * (tot l : Rat)) = chR l' o * ((A : Rat) * (tot l : Rat)) := by grind
    rw [this, ← e2]
    grind
   have e5 : (A : Rat) * (chR l' o * (tot l : Rat) - smQ (fun x => chR (thn x).1 o) l) = 0 := by grind
   rcases Rat.mul_eq_zero.1 e5 with h | h <;> grind
 ·rename_i h1
  simp only [Prod.mk.injEq] at h
  exact absurd h.2 h1
theorem q_eq (q : Rat) : q = (q.num : Rat) / ((q.den : Int) : Rat) := by
 rw [← Rat.divInt_eq_div]
 exact (Rat.num_divInt_den q).symm
theorem q_mul (q : Rat) : q * ((q.den : Int) : Rat) = (q.num : Rat) := by
 have h : (0 : Rat) < ((q.den : Int) : Rat) := int_q0 (by have := q.den_pos; omega)
 rw [show q * ((q.den : Int) : Rat) = (q.num : Rat) / ((q.den : Int) : Rat) * ((q.den : Int) : Rat) by rw [← q_eq q]]
 exact Rat.div_mul_cancel (by grind)
theorem bd_rat {l m : List Pt} (hl : Dis l) (hm : Dis m) (hs : Sup l m) {U D : Int} (h : Bd l m U D) (o : List Int) : chR l o * (D : Rat) ≤ (U : Rat) * chR m o ∧ chR m o * (D : Rat) ≤ (U : Rat) * chR l o := by
 have tl := int_q0 (tot_pos2 hl.pos hl.ne)
 have tm := int_q0 (tot_pos2 hm.pos hm.ne)
 have el := chR_mul hl o
 have em := chR_mul hm o
 have tt := Rat.mul_pos tl tm
 by_cases c : 0 < wt l o
 ·obtain ⟨h1, h2⟩ := h.2 o c
  have g1 := int_q.2 h1
  have g2 := int_q.2 h2
  simp only [Rat.intCast_mul] at g1 g2
  rw [← el, ← em] at g1 g2
  constructor
  ·refine Rat.le_of_mul_le_mul_left (c := (tot l : Rat) * (tot m : Rat)) ?_ tt
   grind
  ·refine Rat.le_of_mul_le_mul_left (c := (tot l : Rat) * (tot m : Rat)) ?_ tt
   grind
 ·have z1 : wt l o = 0 := by have := ((Nn.of_pos hl.pos).wt_le o).1; omega
  have z2 : wt m o = 0 := by
   have := ((Nn.of_pos hm.pos).wt_le o).1
   have : ¬ 0 < wt m o := fun h => c ((hs o).2 h)
   omega
  have y1 : chR l o = 0 := by
   rw [z1] at el
   rcases Rat.mul_eq_zero.1 el with h | h
   ·exact h
   ·grind
  have y2 : chR m o = 0 := by
   rw [z2] at em
   rcases Rat.mul_eq_zero.1 em with h | h
   ·exact h
   ·grind
  rw [y1, y2]
  constructor <;> grind
theorem div_le' {a b U D c : Rat} (hD : 0 < D) (hc : c * D = U) (h : a * D ≤ U * b) : a ≤ c * b := by
 refine Rat.le_of_mul_le_mul_left (c := D) ?_ hD
 rw [← hc] at h
 have e : c * D * b = D * (c * b) := by grind
 rw [e, Rat.mul_comm] at h
 exact h
theorem far_of_rat {x y : List Pt} (hx : Dis x) (hy : Dis y) {M : Rat} (hM1 : 1 ≤ M) (h : ∀ o, 0 ≤ chR x o ∧ chR y o ≤ M * chR x o ∧ chR x o ≤ M * chR y o) {a b e : Int} (hf : farT x y = (a, b, e)) : (e = 0 ∨ e = 4) ∧ (e = 0 → a * (M.den : Int) ≤ M.num * b) := by
 have tx := int_q0 (tot_pos2 hx.pos hx.ne)
 have ty := int_q0 (tot_pos2 hy.pos hy.ne)
 have pos : ∀ {z : List Pt}, Dis z → ∀ o, (0 < wt z o ↔ 0 < chR z o) := fun {z} hz o => by
  have tz := int_q0 (tot_pos2 hz.pos hz.ne)
  have ez := chR_mul hz o
  constructor
  ·intro h0
   have h1 := int_q0 h0
   have h2 := chR_nn hz o
   rcases Rat.le_iff_lt_or_eq.1 h2 with h3 | h3
   ·exact h3
   ·rw [← h3, Rat.zero_mul] at ez
    grind
  ·intro h0
   have h1 := Rat.mul_pos h0 tz
   rw [ez] at h1
   have := Rat.intCast_lt_intCast.1 (show ((0 : Int) : Rat) < (wt z o : Rat) by simpa using h1)
   exact this
 have M0 : 0 < M := by grind
 have sup : Sup x y := fun o => by
  rw [pos hx, pos hy]
  obtain ⟨h1, h2, h3⟩ := h o
  have hyn := chR_nn hy o
  constructor
  ·intro h0
   rcases Rat.le_iff_lt_or_eq.1 hyn with h4 | h4
   ·exact h4
   ·rw [← h4, Rat.mul_zero] at h3
    grind
  ·intro h0
   rcases Rat.le_iff_lt_or_eq.1 h1 with h4 | h4
   ·exact h4
   ·rw [← h4, Rat.mul_zero] at h2
    grind
 have two : twoE x y = 0 := by unfold twoE; rw [hx.own, hy.own]; rfl
 have dm : (0 : Rat) < ((M.den : Int) : Rat) := int_q0 (by have := M.den_pos; omega)
 have em := q_mul M
 have bd : Bd x y M.num (M.den : Int) := by
  refine ⟨?_, fun o _ => ?_⟩
  ·have : ((M.den : Int) : Rat) ≤ (M.num : Rat) := by
    rw [← em]
    have := Rat.mul_le_mul_of_nonneg_right hM1 (Rat.le_of_lt dm)
    grind
   exact int_q.1 this
  ·obtain ⟨h1, h2, h3⟩ := h o
   have ex := chR_mul hx o
   have ey := chR_mul hy o
   have k : (0 : Rat) ≤ (tot x : Rat) * (tot y : Rat) * ((M.den : Int) : Rat) := Rat.mul_nonneg (Rat.mul_nonneg (Rat.le_of_lt tx) (Rat.le_of_lt ty)) (Rat.le_of_lt dm)
   have k2 := Rat.mul_le_mul_of_nonneg_left h2 k
   have k3 := Rat.mul_le_mul_of_nonneg_left h3 k
   constructor
   ·refine int_q.1 ?_
    simp only [Rat.intCast_mul]
    rw [← ex, ← ey, ← em]
    grind
   ·refine int_q.1 ?_
    simp only [Rat.intCast_mul]
    rw [← ex, ← ey, ← em]
    grind
 have hn : 0 < M.num := by
  have := Rat.mul_pos M0 dm
  rw [em] at this
  exact Rat.intCast_lt_intCast.1 (show ((0 : Int) : Rat) < (M.num : Rat) by simpa using this)
 refine ⟨?_, fun he => ?_⟩
 ·rcases far_is hx hy two with ⟨h0, _⟩ | ⟨_, U, D, hU, hD, h1, _⟩
  ·exact absurd sup h0
  ·rw [h1] at hf
   rcases mkT_err (Int.le_of_lt hU) hD hf with h2 | ⟨h2, _⟩
   ·exact .inl h2
   ·exact .inr h2
 ·subst he
  obtain ⟨_, _, _, _, _, _, _, hmin⟩ := far_told hf
  exact hmin _ _ hn (by have := M.den_pos; omega) bd
end Go.Proofs.YtkolmadahacoeaaGreat
