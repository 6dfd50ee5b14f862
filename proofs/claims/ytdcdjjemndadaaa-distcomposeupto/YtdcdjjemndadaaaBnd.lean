import Derived.Test.YtdcdjjemndadaaaChn
import Derived.Shelf.Abstract
namespace Go.Proofs.Ytdcdjjemndadaaa
open Go.RowKit Go.Shelf Go.Proofs.Ytdcdjjemndadaaa.Ds

theorem fn30_0 (d : Nat) (fn : Fn) (xs ys : Array Value) (w : World) : (Op.equalIn (d + 1) 30 (.func fn xs ys) .nilFunc).run Try.prog w = .ok false w := by
  simp only [Op.equalIn, Sem.run_bind, run_underlying Try.underlying30, Result.andThen_ok]
  rfl
theorem fn30_there (fn : Fn) (xs ys : Array Value) (w : World) : (Op.equal 30 (.func fn xs ys) .nilFunc).run Try.prog w = .ok false w := fn30_0 9999 fn xs ys w
theorem fn30_is (fn : Fn) (xs ys : Array Value) (w : World) : (binOp .neq 30 (.func fn xs ys) .nilFunc).run Try.prog w = .ok (.bool true) w := by
  simp only [binOp, Sem.run_bind, fn30_there, Result.andThen_ok]
  rfl

/-- what comes behind something, in memory -/
abbrev Fl := Vl × (Value × List Tr)
def Fws (w : World) (B : Nat) (v : Value) (fs : List Fl) : Prop :=
  ∃ a c, v = .slice a fs.length c ∧ fs.length ≤ c ∧ fs.length ≤ 1073741824 ∧ (∀ f ∈ fs, Ints w B B f.1.1 f.1.2 ∧ Parts w B f.2.1 f.2.2) ∧
    (fs ≠ [] → ∃ b o, a = some ⟨b, o, none⟩ ∧ b < B ∧ ∀ i f, fs[i]? = some f → w.cell? ⟨b, o + i * 2, none⟩ = some f.1.1 ∧ w.cell? ⟨b, o + i * 2 + 1, none⟩ = some f.2.1)
def fd (fs : List Fl) : List (List Int × List Pt) := fs.map fun f => (f.1.2, rd f.2.2)

theorem Fws.keep {w w' : World} {B : Nat} {v : Value} {fs : List Fl} (h : Fws w B v fs) (hb : Below B w w') : Fws w' B v fs := by
  obtain ⟨a, c, hv, hc, hl, hi, hx⟩ := h
  refine ⟨a, c, hv, hc, hl, fun t ht => ⟨(hi t ht).1.keep hb, (hi t ht).2.keep hb⟩, fun hne => ?_⟩
  obtain ⟨b, o, ha, hB, hcell⟩ := hx hne
  exact ⟨b, o, ha, hB, fun i z hz => ⟨(hb.cell (p := ⟨b, o + i * 2, none⟩) hB).trans (hcell i z hz).1, (hb.cell (p := ⟨b, o + i * 2 + 1, none⟩) hB).trans (hcell i z hz).2⟩⟩
theorem Fws.at {w w' : World} {B : Nat} {v : Value} {fs : List Fl} (h : Fws w B v fs) (hB : B ≤ w.heap.size) (hb : Below w.heap.size w w') : Fws w' B v fs := h.keep (hb.mono hB)

theorem Fws.get {w wr : World} {B : Nat} {a : Option Addr} {n c : Nat} {fs : List Fl} (hp : Fws w B (.slice a n c) fs) (hB : B ≤ w.heap.size) (hbl : Below w.heap.size w wr) {i : Nat} (h : i < fs.length) :
    ∃ b o sa sc xs ta tc ts, a = some ⟨b, o, none⟩ ∧ b < w.heap.size ∧ fs[i]? = some ((.slice sa xs.length sc, xs), (.slice ta ts.length tc, ts)) ∧ wr.cell? ⟨b, o + i * 2, none⟩ = some (.slice sa xs.length sc) ∧ wr.cell? ⟨b, o + i * 2 + 1, none⟩ = some (.slice ta ts.length tc) ∧
      Ints wr B B (.slice sa xs.length sc) xs ∧ Parts wr B (.slice ta ts.length tc) ts := by
  obtain ⟨a', c', hv, hc, hl, hi, hx⟩ := hp
  simp only [Value.slice.injEq] at hv
  obtain ⟨rfl, rfl, rfl⟩ := hv
  obtain ⟨b, o, ha, hb, hcell⟩ := hx (ne_of_lt h)
  obtain ⟨⟨⟨s, xs⟩, ⟨t, ts⟩⟩, hs⟩ := get_lt h
  obtain ⟨hI, hJ⟩ := hi _ (List.mem_of_getElem? hs)
  have hI2 := hI.at hB hbl
  have hJ2 := hJ.at hB hbl
  obtain ⟨sa, sc, he, _⟩ := hI
  obtain ⟨ta, tc, he', _⟩ := hJ
  simp only at he he'
  subst he he'
  have hlt : b < w.heap.size := by omega
  exact ⟨b, o, sa, sc, xs, ta, tc, ts, ha, hlt, hs, (hbl.cell (p := ⟨b, o + i * 2, none⟩) hlt).trans (hcell i _ hs).1, (hbl.cell (p := ⟨b, o + i * 2 + 1, none⟩) hlt).trans (hcell i _ hs).2, hI2, hJ2⟩

/-- what comes behind something by a list -/
def thenT : List (List Int × List Pt) → List Int → List Pt
  | [], o => [(o, 1)]
  | f :: fs, o => if f.1 = o then f.2 else thenT fs o

def NonF (fs : List Fl) (i : Nat) (o : List Int) : Prop := thenT (fd fs) o = thenT (fd (fs.drop i)) o
theorem NonF.step {fs : List Fl} {i : Nat} {o : List Int} {f : Fl} (h : NonF fs i o) (hf : fs[i]? = some f) (hne : ¬ f.1.2 = o) : NonF fs (i + 1) o := by
  unfold NonF at *
  rw [h, List.drop_eq_getElem_cons (List.getElem?_eq_some_iff.1 hf).1, (List.getElem?_eq_some_iff.1 hf).2]
  simp only [fd, List.map_cons, thenT]
  rw [if_neg hne]
theorem NonF.hit {fs : List Fl} {i : Nat} {o : List Int} {f : Fl} (h : NonF fs i o) (hf : fs[i]? = some f) (he : f.1.2 = o) : thenT (fd fs) o = rd f.2.2 := by
  unfold NonF at *
  rw [h, List.drop_eq_getElem_cons (List.getElem?_eq_some_iff.1 hf).1, (List.getElem?_eq_some_iff.1 hf).2]
  simp only [fd, List.map_cons, thenT]
  rw [if_pos he]
theorem NonF.end {fs : List Fl} {i : Nat} {o : List Int} (h : NonF fs i o) (hi : fs.length ≤ i) : thenT (fd fs) o = [(o, 1)] := by
  unfold NonF at *
  rw [h, List.drop_eq_nil_of_le hi]
  rfl

set_option maxHeartbeats 1000000 in
theorem then_any (B C : Nat) (v u : Value) (fs : List Fl) (xs : List Int) (w : World) (hB : B ≤ w.heap.size) (hC : C ≤ w.heap.size) (hp : Fws w B v fs) (hu : Ints w C C u xs) (l : List Pt) (hr : thenT (fd fs) xs = l) :
    Calls Try.prog 32 #[v, u] w fun e w' => ∃ r us, e = .returned r ∧ rd us = l ∧ Parts w' w'.heap.size r us ∧ Below w.heap.size w w' := by
  have HP : Hid (Fws w B v fs) := hp
  have HU : Hid (Ints w C C u xs) := hu
  have HR : Hid (thenT (fd fs) xs = l) := hr
  obtain ⟨a, c, rfl, hc, hl, _⟩ := hp
  obtain ⟨ua, uc, rfl, _⟩ := hu
  clear hr
  go_enter Try.func32, Try.ntmps32
  go_wp2
  go_loopw [9] (fun s wr => ∃ i : Nat, s = .int .i64 (i : Int) ∧ i ≤ fs.length ∧ Hid (NonF fs i xs) ∧ Below w.heap.size w wr) (fun s _ => fs.length - (intOf s).toNat)
  case atStart => exact ⟨0, rfl, Nat.zero_le _, by simp [Hid, NonF], Below.refl _ _⟩
  case round =>
    obtain ⟨i, rfl, hit, HN, hbl⟩ := hrel
    have hbs := hbl.size
    by_cases h1 : i < fs.length
    · obtain ⟨b, o, sa, sc, gs, ta, tc, ts, rfl, hb, hs, d1, d2, hI, hJ⟩ := HP.out.get hB hbl h1
      have HS : Hid (fs[i]? = some ((.slice sa gs.length sc, gs), (.slice ta ts.length tc, ts))) := hs
      have HI : Hid (Ints wr B B (.slice sa gs.length sc) gs) := hI
      have HJ : Hid (Parts wr B (.slice ta ts.length tc) ts) := hJ
      have hb1 : Below wr.heap.size wr (wr.alloc (.cells #[.slice sa gs.length sc, .slice ta ts.length tc] 52)) := ba _ _
      obtain ⟨r, hr⟩ : ∃ r, decide (gs = xs) = r := ⟨_, rfl⟩
      have HE : Hid (decide (gs = xs) = r) := hr
      have kc := equalI_any wr.heap.size B C (.slice sa gs.length sc) (.slice ua xs.length uc) gs xs (wr.alloc (.cells #[.slice sa gs.length sc, .slice ta ts.length tc] 52)) ((HI.out.at (by omega) hb1).mono (by omega) (.inl rfl)) ((HU.out.at hC (bt hbl hb1)).mono (by omega) (.inl rfl)) r hr
      clear hs hI hJ hr
      go_wp2_with fail
      refine kc.mono ?_
      rintro e w2 ⟨rfl, q, rfl⟩
      clear kc
      cases r with
      | true =>
        have hy : rd ts = l := by rw [← HR.out]; exact (HN.out.hit HS.out (of_decide_eq_true HE.out)).symm
        have HY : Hid (rd ts = l) := hy
        clear hy
        go_wp2
        go_ret
        exact ⟨_, ts, rfl, HY.out, (HJ.out.at (by omega) (below_drewN hb1 _)).mono (by simp; omega), below_drewN (bt hbl hb1) _⟩
      | false =>
        have HN2 : Hid (NonF fs (i + 1) xs) := HN.out.step HS.out (of_decide_eq_false HE.out)
        go_wp2
        go_roundw
        case rel => exact ⟨i + 1, by go_num, h1, HN2, below_drewN (bt hbl hb1) _⟩
        case measure => simp [intOf]; omega
    · have hy : [(xs, 1)] = l := by rw [← HR.out]; exact (HN.out.end (by omega)).symm
      have HY : Hid ([(xs, 1)] = l) := hy
      have HO : Hid (Parts (wr.alloc (.cells #[.slice ua xs.length uc, .int .i64 1] 32)) (wr.heap.size + 1) (.slice (some ⟨wr.heap.size, 0, none⟩) 1 1) [(.slice ua xs.length uc, xs, 1)]) := parts_one wr C C _ xs 1 (by omega) (HU.out.at hC hbl)
      clear hy
      go_wp2
      go_ret
      exact ⟨_, [(.slice ua xs.length uc, xs, 1)], rfl, HY.out, by simpa using HO.out, bal hbl _⟩

/-- the function that Bind is handed -/
theorem bind1_any (B C bx : Nat) (v u : Value) (fs : List Fl) (xs : List Int) (w : World) (hB : B ≤ w.heap.size) (hC : C ≤ w.heap.size) (hc : w.cell? ⟨bx, 0, none⟩ = some v) (hp : Fws w B v fs) (hu : Ints w C C u xs) (l : List Pt) (hr : thenT (fd fs) xs = l) :
    Calls Try.prog 60 #[u, .pointer (some ⟨bx, 0, none⟩)] w fun e w' => ∃ r us, e = .returned (.tuple #[r, .int .i64 0]) ∧ rd us = l ∧ Parts w' w'.heap.size r us ∧ Below w.heap.size w w' := by
  have kc := then_any B C v u fs xs w hB hC hp hu l hr
  obtain ⟨a, c, rfl, _⟩ := hp
  obtain ⟨ua, uc, rfl, _⟩ := hu
  clear hr
  go_enter Try.func60, Try.ntmps60
  go_wp2_with fail
  refine kc.mono ?_
  rintro e w1 ⟨r, us, rfl, h1, h2, h3⟩
  have H2 : Hid (Parts w1 w1.heap.size r us ∧ rd us = l) := ⟨h2, h1⟩
  obtain ⟨ra, rc, rfl, _⟩ := h2
  clear h1 kc
  go_wp2
  exact bodyPost_ret (v := .tuple #[.slice ra us.length rc, .int .i64 0]) (by simp [results, Try.results60, go_sem]) rfl ⟨_, us, rfl, H2.out.2, H2.out.1, h3⟩

set_option maxHeartbeats 1000000 in
theorem bind2_any (B C bx by' : Nat) (v u : Value) (fs : List Fl) (xs : List Int) (w : World) (hB : B ≤ w.heap.size) (hC : C ≤ w.heap.size) (hc : w.cell? ⟨bx, 0, none⟩ = some v) (hf : w.cell? ⟨by', 0, none⟩ = some (.func (.func 60) #[] #[.pointer (some ⟨bx, 0, none⟩)])) (hp : Fws w B v fs) (hu : Ints w C C u xs) (l : List Pt) (er : Int) (hr : ownT (thenT (fd fs) xs) = (l, er)) :
    Calls Try.prog 89 #[u, .pointer (some ⟨by', 0, none⟩)] w fun e w' => ∃ v' us, e = .returned (.tuple #[v', .int .i64 er]) ∧ rd us = l ∧ OwnN w' w.heap.size v' us ∧ Below w.heap.size w w' ∧ Frs w.heap.size us := by
  have kc := bind1_any B C bx v u fs xs w hB hC hc hp hu _ rfl
  have HR : Hid (ownT (thenT (fd fs) xs) = (l, er)) := hr
  obtain ⟨ua, uc, rfl, _⟩ := hu
  clear hr
  go_enter Try.func89, Try.ntmps89
  go_wp2_with fail
  refine kc.mono ?_
  rintro e w1 ⟨r, us, rfl, h1, h2, h3⟩
  have ko := own_fr w1.heap.size r us w1 (Nat.le_refl _) h2 l er (by rw [h1]; exact HR.out)
  obtain ⟨ra, rc, rfl, _⟩ := h2
  have hs := h3.size
  clear h1 kc
  go_wp2_with fail
  refine ko.mono ?_
  rintro e w2 ⟨v2, xs2, rfl, k1, k2, k3, k4⟩
  obtain ⟨a2, c2, rfl⟩ := k2.slice
  have H2 : Hid (rd xs2 = l ∧ OwnN w2 w.heap.size (.slice a2 xs2.length c2) xs2 ∧ Frs w.heap.size xs2) := ⟨k1, k2.mono hs, k4.mono hs⟩
  clear k1 k2 k4 ko
  go_wp2
  exact bodyPost_ret (v := .tuple #[.slice a2 xs2.length c2, .int .i64 er]) (by simp [results, Try.results89, go_sem]) rfl ⟨_, xs2, rfl, H2.out.1, H2.out.2.1, bt h3 k3, H2.out.2.2⟩

theorem own_dis {l : List Pt} (h : (ownT l).2 = 0) : Dis (ownT l).1 := by
  have := ownT_ok (Prod.ext rfl h : ownT l = ((ownT l).1, 0))
  rw [this.1]
  exact this.2

/-- Bind -/
def bindT (l : List Pt) (F : List Int → List Pt) : List Pt × Int := if (ownT l).2 = 0 then chT (fun x => ownT (F x)) l else ([], (ownT l).2)

set_option maxHeartbeats 1000000 in
theorem dbind_any (B bx : Nat) (v u : Value) (ts : List Tr) (fs : List Fl) (w : World) (hB : B ≤ w.heap.size) (hbx : bx < w.heap.size) (hc : w.cell? ⟨bx, 0, none⟩ = some u) (hp : Parts w B v ts) (hq : Fws w B u fs) (l : List Pt) (er : Int) (hr : bindT (rd ts) (thenT (fd fs)) = (l, er)) :
    Calls Try.prog 59 #[v, .func (.func 60) #[] #[.pointer (some ⟨bx, 0, none⟩)]] w fun e w' => ∃ v' us, e = .returned (.tuple #[v', .int .i64 er]) ∧ rd us = l ∧ OwnN w' w.heap.size v' us ∧ Below w.heap.size w w' ∧ Frs w.heap.size us := by
  obtain ⟨⟨l1, e1⟩, ho⟩ : ∃ x, ownT (rd ts) = x := ⟨_, rfl⟩
  obtain ⟨W, hW⟩ : ∃ W, w.alloc (.cells #[.func (.func 60) #[] #[.pointer (some ⟨bx, 0, none⟩)]] 30) = W := ⟨_, rfl⟩
  have HW : Hid (Below w.heap.size w W) := hW ▸ ba w _
  have hWs : W.heap.size = w.heap.size + 1 := by rw [← hW]; simp
  have cW : W.cell? ⟨w.heap.size, 0, none⟩ = some (.func (.func 60) #[] #[.pointer (some ⟨bx, 0, none⟩)]) := by rw [← hW]; simp [go_sem]
  have cB : W.cell? ⟨bx, 0, none⟩ = some u := (HW.out.cell (p := ⟨bx, 0, none⟩) hbx).trans hc
  have kc := ownFor_any B v ts W (by omega) (hp.at hB HW.out) l1 e1 ho
  have HQ : Hid (Fws W B u fs) := hq.at hB HW.out
  have HR : Hid (bindT (rd ts) (thenT (fd fs)) = (l, er) ∧ ownT (rd ts) = (l1, e1)) := ⟨hr, ho⟩
  obtain ⟨a, c, rfl, _⟩ := hp
  obtain ⟨ua, uc, rfl, _⟩ := hq
  have hfn := fun w => fn30_is (.func 60) #[] #[.pointer (some ⟨bx, 0, none⟩)] w
  clear hr ho
  go_enter Try.func59, Try.ntmps59
  go_wp2_with fail
  clear hW
  refine kc.mono ?_
  rintro e w1 ⟨v1, us, rfl, h1, h2, h3⟩
  obtain ⟨b1, d1, rfl⟩ := h2.slice
  have hs1 := h3.size
  have b1w : Below w.heap.size w w1 := bt HW.out h3
  by_cases h0 : e1 = 0
  · subst h0
    obtain ⟨hle, hdis⟩ := ownT_ok HR.out.2
    have hch := HR.out.1
    unfold bindT at hch
    rw [HR.out.2] at hch
    simp only [if_true] at hch
    have hru : rd us = rd ts := h1.trans hle
    have kch := chain_any 89 (.pointer (some ⟨w.heap.size, 0, none⟩)) (fun x => ownT (thenT (fd fs) x)) w1.heap.size (.slice b1 us.length d1) us w1 (Nat.le_refl _) h2.parts (by rw [hru]; exact hdis) (enters_of Try.func89 (by kernel_rfl) rfl)
      (fun W' u xs hbW hI _ => bind2_any B W'.heap.size bx w.heap.size (.slice ua fs.length uc) u fs xs W' (by have := hbW.size; omega) (Nat.le_refl _) (((bt h3 hbW).cell (p := ⟨bx, 0, none⟩) (by show bx < W.heap.size; omega)).trans cB) (((bt h3 hbW).cell (p := ⟨w.heap.size, 0, none⟩) (by show w.heap.size < W.heap.size; omega)).trans cW) (HQ.out.at (by omega) (bt h3 hbW)) hI _ _ rfl)
      (fun p _ he => own_dis he) l er (by rw [hru]; exact hch)
    clear hch hdis hle h1 h2 kc hru
    go_wp2_with fail
    refine kch.mono ?_
    rintro e w2 ⟨v2, xs2, rfl, k1, k2, k3, k4⟩
    obtain ⟨a2, c2, rfl⟩ := k2.slice
    have H2 : Hid (rd xs2 = l ∧ OwnN w2 w.heap.size (.slice a2 xs2.length c2) xs2 ∧ Frs w.heap.size xs2) := ⟨k1, k2.mono (by omega), k4.mono (by omega)⟩
    clear k1 k2 kch k4
    go_wp2
    exact bodyPost_ret (v := .tuple #[.slice a2 xs2.length c2, .int .i64 er]) (by simp [results, Try.results59, go_sem]) rfl ⟨_, xs2, rfl, H2.out.1, H2.out.2.1, bt b1w k3, H2.out.2.2⟩
  · have h0' : (e1 == 0) = false := by simpa using h0
    have hm := HR.out.1
    unfold bindT at hm
    rw [HR.out.2] at hm
    simp only [h0, if_false, Prod.mk.injEq] at hm
    obtain ⟨rfl, rfl⟩ := hm
    clear h1 h2 kc
    go_wp2
    exact bodyPost_ret (v := .tuple #[.slice none 0 0, .int .i64 e1]) (by simp [results, Try.results59, go_sem]) rfl ⟨_, [], rfl, rfl, .inl ⟨rfl, rfl⟩, b1w, Frs.nil _⟩

theorem pbind_any (B : Nat) (v u : Value) (ts : List Tr) (fs : List Fl) (w : World) (hB : B ≤ w.heap.size) (hp : Parts w B v ts) (hq : Fws w B u fs) (l : List Pt) (er : Int) (hr : bindT (rd ts) (thenT (fd fs)) = (l, er)) :
    Calls Try.prog 21 #[v, u] w fun e w' => ∃ v' us, e = .returned (.tuple #[v', .int .i64 er]) ∧ rd us = l ∧ OwnN w' w.heap.size v' us ∧ Below w.heap.size w w' ∧ Frs w.heap.size us := by
  have HP : Hid (Parts w B v ts) := hp
  have HQ : Hid (Fws w B u fs) := hq
  have HR : Hid (bindT (rd ts) (thenT (fd fs)) = (l, er)) := hr
  obtain ⟨a, c, rfl, _⟩ := hp
  obtain ⟨ua, uc, rfl, _⟩ := hq
  have kc := dbind_any B w.heap.size (.slice a ts.length c) (.slice ua fs.length uc) ts fs (w.alloc (.cells #[.slice ua fs.length uc] 41)) (by simp; omega) (by simp) (by simp [go_sem]) (HP.out.at hB (ba _ _)) (HQ.out.at hB (ba _ _)) l er HR.out
  clear hr
  go_enter Try.func21, Try.ntmps21
  go_wp2_with fail
  refine kc.mono ?_
  rintro e w1 ⟨v1, us, rfl, h1, h2, h3, h4⟩
  obtain ⟨b1, d1, rfl⟩ := h2.slice
  have hb : Below w.heap.size w w1 := bt (ba _ _) h3
  clear kc
  go_wp2
  exact bodyPost_ret (v := .tuple #[.slice b1 us.length d1, .int .i64 er]) (by simp [results, Try.results21, go_sem]) rfl ⟨_, us, rfl, h1, h2.mono (by simp), hb, h4.mono (by simp)⟩
end Go.Proofs.Ytdcdjjemndadaaa
