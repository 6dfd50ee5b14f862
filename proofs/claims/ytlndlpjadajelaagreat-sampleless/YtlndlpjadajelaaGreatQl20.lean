import Derived.Test.YtlndlpjadajelaaGreatQl19
import Derived.Test.YtlndlpjadajelaaGreatQl04
import Derived.Test.YtlndlpjadajelaaGreatQl07
import Derived.Test.YtlndlpjadajelaaGreatQl01
import Derived.Maps.AppendAt
import Derived.Deep.RegionHeld3
import Derived.Deep.DeepCutAuto
namespace Go.Proofs.YtlndlpjadajelaaGreat
open Go.RowKit Go.Proofs.YtlndlpjadajelaaGreat.Ds

set_option maxHeartbeats 1000000 in
theorem sure_fr (B nb : Nat) (v : Value) (xs : List Int) (w : World) (hB : B ≤ w.heap.size) (hp : Ints w B nb v xs) (l : List Pt) (er : Int) (hr : makeT [(xs, 1)] = (l, er)) :
    Calls Tryz.prog 81 #[v] w fun e w' => ∃ v' us, e = .returned (.tuple #[v', .int .i64 er]) ∧ rd us = l ∧ OwnN w' w.heap.size v' us ∧ Below w.heap.size w w' ∧ Frs w.heap.size us := by
  have kc := make_fr (w.heap.size + 1) _ _ _ (by simp) (parts_one w B nb v xs 1 hB hp) l er hr
  obtain ⟨a, c, rfl, hc, hl, _⟩ := hp
  clear hr
  go_enter Tryz.func81, Tryz.ntmps81
  go_wp2_with fail
  refine kc.mono ?_
  rintro e w1 ⟨v1, us, rfl, hrd, ho, hb1, hfr⟩
  have HO : Hid (OwnN w1 w.heap.size v1 us) := ho.mono (by simp)
  have HF : Hid (Frs w.heap.size us) := hfr.mono (by simp)
  have HD : Hid (rd us = l) := hrd
  obtain ⟨a1, c1, rfl⟩ := ho.slice
  clear ho hrd kc hfr
  go_wp2
  exact bodyPost_ret (v := .tuple #[.slice a1 us.length c1, .int .i64 er]) (by simp [results, Tryz.results81, go_sem]) rfl ⟨_, us, rfl, HD.out, HO.out, bt (ba _ _) hb1, HF.out⟩

/-- what a distribution is that is told -/
def DistP (w : World) (l : List Pt) (er : Int) (e : Ending) (w' : World) : Prop :=
  ∃ v' us, e = .returned (.tuple #[v', .int .i64 er]) ∧ rd us = l ∧ OwnN w' w.heap.size v' us ∧ Below w.heap.size w w' ∧ Frs w.heap.size us
theorem DistP.err {w w' : World} {er : Int} (hb : Below w.heap.size w w') : DistP w [] er (.returned (.tuple #[.slice none 0 0, .int .i64 er])) w' :=
  ⟨_, [], rfl, rfl, .inl ⟨rfl, rfl⟩, hb, Frs.nil _⟩

set_option maxHeartbeats 2000000 in
/-- Hide -/
theorem hide_fr (u d lo hi n : Int) (l : List Pt) (er : Int) (hr : hideT u d lo hi n = (l, er)) (w : World) :
    Calls Tryz.prog 34 #[rv u d, .int .i64 lo, .int .i64 hi, .int .i64 n] w (DistP w l er) := by
  obtain ⟨e0, he0⟩ : ∃ e0, lossE u d = e0 := ⟨_, rfl⟩
  have kc := noLoss_any u d e0 he0
  rw [hideT, he0] at hr
  by_cases c : e0 = 0
  · subst c
    obtain ⟨hrt, hdu, hd1, hu1⟩ := loss_ok he0
    rw [if_neg (by simp)] at hr
    by_cases cb : -1073741824 ≤ lo ∧ lo ≤ hi ∧ hi ≤ 1073741824 ∧ hi - lo ≤ 64
    · obtain ⟨b1, b2, b3, b4⟩ := cb
      rw [if_neg (by simp; omega)] at hr
      by_cases ce : lo = hi
      · subst ce
        rw [if_pos rfl] at hr
        have ks := fun W : World => sure_fr (W.heap.size + 1) (W.heap.size + 1) _ [lo] (W.alloc (.cells #[.int .i64 lo] 3)) (by simp) (ints_one W lo (W.heap.size + 1) (by omega)) l er hr
        clear he0 hrt hr
        go_enter Tryz.func34, Tryz.ntmps34
        go_wp2_with fail
        refine (kc _).mono ?_
        rintro e w1 ⟨rfl, hb1⟩
        have G1 := bt (ba _ _) hb1
        obtain ⟨hc1, hf1⟩ := bcell hb1
        go_wp2_with fail
        refine (ks _).mono ?_
        rintro e w2 ⟨v2, us, rfl, k1, k2, k3, k4⟩
        obtain ⟨a2, c2, rfl⟩ := k2.slice
        have hz1 : w.heap.size ≤ w1.heap.size + 1 := by have := G1.size; omega
        have HZ : Hid (DistP w l er (.returned (.tuple #[.slice a2 us.length c2, .int .i64 er])) w2) := ⟨_, us, rfl, k1, k2.mono (by simpa using hz1), bt G1 (bt (ba _ _) k3), k4.mono (by simpa using hz1)⟩
        clear k1 k2 k3 k4 ks
        go_wp2
        exact bodyPost_ret (v := .tuple #[.slice a2 us.length c2, .int .i64 er]) (by simp [results, Tryz.results34, go_sem]) rfl HZ.out
      · rw [if_neg ce] at hr
        obtain ⟨R, hR⟩ : ∃ R : Nat, hi - lo = (R : Int) := ⟨(hi - lo).toNat, by omega⟩
        obtain rfl : hi = lo + (R : Int) := by omega
        obtain ⟨A, hA⟩ : ∃ A : Nat, plcT lo (lo + (R : Int)) n = lo + (A : Int) := ⟨(plcT lo (lo + (R : Int)) n - lo).toNat, by unfold plcT; omega⟩
        have hA2 : A ≤ R := by have : plcT lo (lo + (R : Int)) n ≤ lo + (R : Int) := by unfold plcT; omega
                               omega
        rw [hA, show (lo + (R : Int) - lo).toNat = R by omega, show (lo + (A : Int) - lo).toNat = A by omega] at hr
        have hR1 : 1 ≤ R := by omega
        have HA : Hid (plcT lo (lo + (R : Int)) n = lo + (A : Int)) := hA
        have ki : ∀ W, Calls Tryz.prog 74 #[.int .i64 n, .int .i64 lo, .int .i64 (lo + (R : Int))] W fun e w' => e = .returned (.int .i64 (lo + (A : Int))) ∧ w' = W := fun W => by
          have := into_any n lo (lo + (R : Int)) W
          rw [HA.out] at this
          exact this
        have wE : lo + (R : Int) - lo = (R : Int) := by omega
        have km : ∀ (m : Int) (W : World) (b : Bool), m = (R : Int) → decide (1073741824 < (u + d) * u ^ R) = b → Calls Tryz.prog 82 #[rv u d, .int .i64 m] W fun e w' => e = .returned (.bool b) ∧ Below W.heap.size W w' := fun m W b hm hb => by subst hm; exact much_any u d R (by omega) hd1 hu1 hdu b hR1 hb W
        have ce' : (lo == lo + (R : Int)) = false := by simp; omega
        by_cases cm : 1073741824 < (u + d) * u ^ R
        · rw [if_pos cm] at hr
          simp only [Prod.mk.injEq] at hr
          obtain ⟨rfl, rfl⟩ := hr
          have CM : Hid (decide (1073741824 < (u + d) * u ^ R) = true) := decide_eq_true cm
          clear cm he0 hrt hA hR wE
          go_enter Tryz.func34, Tryz.ntmps34
          go_wp2_with fail
          refine (kc _).mono ?_
          rintro e w1 ⟨rfl, hb1⟩
          have G1 := bt (ba _ _) hb1
          obtain ⟨hc1, hf1⟩ := bcell hb1
          go_wp2_with fail
          refine (km _ _ true (by omega) CM.out).mono ?_
          rintro e w2 ⟨rfl, hb2⟩
          have G2 := bt G1 hb2
          go_wp2
          exact bodyPost_ret (v := .tuple #[.slice none 0 0, .int .i64 4]) (by simp [results, Tryz.results34, go_sem]) rfl (DistP.err G2)
        · rw [if_neg cm] at hr
          have CM : Hid (decide (1073741824 < (u + d) * u ^ R) = false) := decide_eq_false cm
          have kh := hidden_fr u d lo R A hR1 (by omega) hA2 hd1 hdu hu1 (by omega) b1 b3 l er hr
          clear cm he0 hrt hA hR hr wE
          go_enter Tryz.func34, Tryz.ntmps34
          go_wp2_with fail
          refine (kc _).mono ?_
          rintro e w1 ⟨rfl, hb1⟩
          have G1 := bt (ba _ _) hb1
          obtain ⟨hc1, hf1⟩ := bcell hb1
          go_wp2_with fail
          refine (km _ _ false (by omega) CM.out).mono ?_
          rintro e w2 ⟨rfl, hb2⟩
          have G2 := bt G1 hb2
          obtain ⟨hc2, hf2⟩ := bcell hb2
          have hz1 : w.heap.size < w1.heap.size := by have := hb1.size; simp at this; omega
          have d1 : w2.cell? ⟨w.heap.size, 0, none⟩ = some (.int .i64 u) := by rw [hc2 _ _ hz1, hc1 _ _ (by simp)]; simp [go_sem]
          have d2 : w2.cell? ⟨w.heap.size, 1, none⟩ = some (.int .i64 d) := by rw [hc2 _ _ hz1, hc1 _ _ (by simp)]; simp [go_sem]
          have lw : w.heap.size < w2.heap.size := by have := hb2.size; omega
          clear hc1 hf1 hc2 hf2
          go_wp2_with fail
          go_region_held3 (fun w' => w'.cell? ⟨w.heap.size, 0, none⟩ = some (.int .i64 u) ∧ w'.cell? ⟨w.heap.size, 1, none⟩ = some (.int .i64 d))
            ((go_split_ands; refine ⟨?_, ?_⟩ <;> first | assumption | (simp [go_sem, *]; done)))
            (first
              | (go_at_call 74; refine (ki _).mono ?_; rintro x3 w3 ⟨rfl, rfl⟩)
              | (go_at_call 83; refine (kh _).mono ?_; rintro x4 w4 ⟨v4, us, rfl, k1, k2, k3, k4⟩; obtain ⟨a2, c2, hv4⟩ := k2.slice; subst hv4; obtain ⟨hc4, hf4⟩ := bcell k3; have q1 : w4.cell? ⟨w.heap.size, 0, none⟩ = some (.int .i64 u) := (hc4 _ _ lw).trans d1; have q2 : w4.cell? ⟨w.heap.size, 1, none⟩ = some (.int .i64 d) := (hc4 _ _ lw).trans d2; clear hc4 hf4))
          have HZ : Hid (DistP w l er (.returned (.tuple #[.slice a2 us.length c2, .int .i64 er])) w4) := ⟨_, us, rfl, k1, k2.mono G2.size, bt G2 (bt (Below.refl _ _).drew k3), k4.mono G2.size⟩
          clear k1 k2 k3 k4 kh
          go_wp2
          exact bodyPost_ret (v := .tuple #[.slice a2 us.length c2, .int .i64 er]) (by simp [results, Tryz.results34, go_sem]) rfl HZ.out
    · rw [if_pos cb] at hr
      simp only [Prod.mk.injEq] at hr
      obtain ⟨rfl, rfl⟩ := hr
      clear he0 hrt
      by_cases b1 : lo < -1073741824
      · clear cb
        go_enter Tryz.func34, Tryz.ntmps34
        go_wp2_with fail
        refine (kc _).mono ?_
        rintro e w1 ⟨rfl, hb1⟩
        have G1 := bt (ba _ _) hb1
        obtain ⟨hc1, hf1⟩ := bcell hb1
        go_wp2
        exact bodyPost_ret (v := .tuple #[.slice none 0 0, .int .i64 3]) (by simp [results, Tryz.results34, go_sem]) rfl (DistP.err G1)
      · by_cases b2 : hi < lo
        · clear cb
          go_enter Tryz.func34, Tryz.ntmps34
          go_wp2_with fail
          refine (kc _).mono ?_
          rintro e w1 ⟨rfl, hb1⟩
          have G1 := bt (ba _ _) hb1
          obtain ⟨hc1, hf1⟩ := bcell hb1
          go_wp2
          exact bodyPost_ret (v := .tuple #[.slice none 0 0, .int .i64 3]) (by simp [results, Tryz.results34, go_sem]) rfl (DistP.err G1)
        · by_cases b3 : 1073741824 < hi
          · clear cb
            go_enter Tryz.func34, Tryz.ntmps34
            go_wp2_with fail
            refine (kc _).mono ?_
            rintro e w1 ⟨rfl, hb1⟩
            have G1 := bt (ba _ _) hb1
            obtain ⟨hc1, hf1⟩ := bcell hb1
            go_wp2
            exact bodyPost_ret (v := .tuple #[.slice none 0 0, .int .i64 3]) (by simp [results, Tryz.results34, go_sem]) rfl (DistP.err G1)
          · have b4 : 64 < hi - lo := by omega
            clear cb
            go_enter Tryz.func34, Tryz.ntmps34
            go_wp2_with fail
            refine (kc _).mono ?_
            rintro e w1 ⟨rfl, hb1⟩
            have G1 := bt (ba _ _) hb1
            obtain ⟨hc1, hf1⟩ := bcell hb1
            go_wp2
            exact bodyPost_ret (v := .tuple #[.slice none 0 0, .int .i64 3]) (by simp [results, Tryz.results34, go_sem]) rfl (DistP.err G1)
  · rw [if_pos c] at hr
    simp only [Prod.mk.injEq] at hr
    obtain ⟨rfl, rfl⟩ := hr
    have c1 : (e0 == 0) = false := by simpa using c
    have c2 : (e0 != 0) = true := by simpa using c
    clear he0
    go_enter Tryz.func34, Tryz.ntmps34
    go_wp2_with fail
    refine (kc _).mono ?_
    rintro e w1 ⟨rfl, hb1⟩
    have G1 := bt (ba _ _) hb1
    obtain ⟨hc1, hf1⟩ := bcell hb1
    go_wp2
    exact bodyPost_ret (v := .tuple #[.slice none 0 0, .int .i64 e0]) (by simp [results, Tryz.results34, go_sem]) rfl (DistP.err G1)
end Go.Proofs.YtlndlpjadajelaaGreat

namespace Go.Proofs.YtlndlpjadajelaaGreat
open Go.RowKit Go.Proofs.YtlndlpjadajelaaGreat.Ds

/-! ### subsets in memory: element i is the list of i alone, and its weight -/
/-- two cells an element -/
def fl2 (s : Nat → Nat) (f : Nat → Int) : Nat → List Value
  | 0 => []
  | n + 1 => fl2 s f n ++ [.slice (some ⟨s n, 0, none⟩) 1 1, .int .i64 (f n)]
theorem fl2_len (s : Nat → Nat) (f : Nat → Int) : ∀ n, (fl2 s f n).length = n * 2
  | 0 => rfl
  | n + 1 => by rw [fl2, List.length_append, fl2_len s f n]; simp; omega
theorem fl2_get (s : Nat → Nat) (f : Nat → Int) : ∀ {n i : Nat}, i < n → (fl2 s f n)[i * 2]? = some (.slice (some ⟨s i, 0, none⟩) 1 1) ∧ (fl2 s f n)[i * 2 + 1]? = some (.int .i64 (f i))
  | n + 1, i, h => by
    have hl := fl2_len s f n
    by_cases e : i = n
    · subst e
      rw [fl2, List.getElem?_append_right (by omega), List.getElem?_append_right (by omega), hl]
      simp
    · obtain ⟨h1, h2⟩ := fl2_get s f (show i < n by omega)
      rw [fl2, List.getElem?_append_left (by omega), List.getElem?_append_left (by omega)]
      exact ⟨h1, h2⟩
theorem fl2_congr {s s' : Nat → Nat} {f f' : Nat → Int} : ∀ {n : Nat}, (∀ i, i < n → s i = s' i ∧ f i = f' i) → fl2 s f n = fl2 s' f' n
  | 0, _ => rfl
  | n + 1, h => by rw [fl2, fl2, fl2_congr fun i hi => h i (by omega), (h n (by omega)).1, (h n (by omega)).2]
theorem fl2_one (s : Nat → Nat) (f : Nat → Int) : ∀ n, ∀ u ∈ fl2 s f n, u.oneCell' = true
  | 0, u, h => by cases h
  | n + 1, u, h => by
    rw [fl2] at h
    rcases List.mem_append.1 h with h | h
    · exact fl2_one s f n u h
    · simp at h
      rcases h with rfl | rfl <;> rfl
theorem fl2_add (s s' : Nat → Nat) (f f' : Nat → Int) (n : Nat) : ∀ m, fl2 s f n ++ fl2 s' f' m = fl2 (fun i => if i < n then s i else s' (i - n)) (fun i => if i < n then f i else f' (i - n)) (n + m)
  | 0 => by
    rw [fl2, List.append_nil, Nat.add_zero]
    exact fl2_congr fun i hi => ⟨by rw [if_pos hi], by rw [if_pos hi]⟩
  | m + 1 => by
    rw [fl2, ← List.append_assoc, fl2_add s s' f f' n m, ← Nat.add_assoc, fl2]
    simp
    exact ⟨fun h => absurd h (by omega), fun h => absurd h (by omega)⟩
theorem fl2_take {cur : Array Value} {s : Nat → Nat} {f : Nat → Int} {n : Nat} (hs : n * 2 ≤ cur.size) (h : ∀ i, i < n → cur[i * 2]? = some (.slice (some ⟨s i, 0, none⟩) 1 1) ∧ cur[i * 2 + 1]? = some (.int .i64 (f i))) : cur.toList.take (n * 2) = fl2 s f n := by
  refine List.ext_getElem? fun j => ?_
  by_cases hj : j < n * 2
  · rw [List.getElem?_take_of_lt hj, Array.getElem?_toList]
    obtain ⟨i, rfl | rfl⟩ : ∃ i, j = i * 2 ∨ j = i * 2 + 1 := ⟨j / 2, by omega⟩
    · rw [(h i (by omega)).1, (fl2_get s f (show i < n by omega)).1]
    · rw [(h i (by omega)).2, (fl2_get s f (show i < n by omega)).2]
  · rw [List.getElem?_eq_none (by simp; omega), List.getElem?_eq_none (by rw [fl2_len]; omega)]

structure Pz (w : World) (g cap n : Nat) (s : Nat → Nat) (f : Nat → Int) : Prop where
  le : n ≤ cap
  mx : cap ≤ maxLen
  blk : ∃ cur : Array Value, w.heap[g]? = some (.cells cur 82 (0, 0)) ∧ cur.size = cap * 2 ∧ ∀ i, i < n → cur[i * 2]? = some (.slice (some ⟨s i, 0, none⟩) 1 1) ∧ cur[i * 2 + 1]? = some (.int .i64 (f i))
theorem Pz.lt {w : World} {g cap n : Nat} {s : Nat → Nat} {f : Nat → Int} (h : Pz w g cap n s f) : g < w.heap.size := by
  obtain ⟨cur, h1, _⟩ := h.blk
  exact (Array.getElem?_eq_some_iff.1 h1).1
theorem Pz.same {w w' : World} {g cap n : Nat} {s : Nat → Nat} {f : Nat → Int} (h : Pz w g cap n s f) (hk : w'.heap[g]? = w.heap[g]?) : Pz w' g cap n s f :=
  ⟨h.le, h.mx, by obtain ⟨cur, h1, h2⟩ := h.blk; exact ⟨cur, hk.trans h1, h2⟩⟩
theorem Pz.at {w w' : World} {g cap n : Nat} {s : Nat → Nat} {f : Nat → Int} (h : Pz w g cap n s f) (hb : Below w.heap.size w w') : Pz w' g cap n s f := h.same (hb.block g h.lt)
theorem Pz.beside {w : World} {g cap n : Nat} {s : Nat → Nat} {f : Nat → Int} (h : Pz w g cap n s f) {p : Addr} (hp : g ≠ p.block) (u : Value) : Pz (w.setCell p u) g cap n s f := h.same (heap_setCell_other w p g u hp)
theorem Pz.cell {w : World} {g cap n : Nat} {s : Nat → Nat} {f : Nat → Int} (h : Pz w g cap n s f) {i : Nat} (hi : i < n) : w.cell? ⟨g, i * 2, none⟩ = some (.slice (some ⟨s i, 0, none⟩) 1 1) ∧ w.cell? ⟨g, i * 2 + 1, none⟩ = some (.int .i64 (f i)) := by
  obtain ⟨cur, h1, _, h3⟩ := h.blk
  obtain ⟨a, b⟩ := h3 i hi
  exact ⟨by simp [World.cell?, h1, a], by simp [World.cell?, h1, b]⟩
theorem Pz.thaw {w : World} {g cap n : Nat} {s : Nat → Nat} {f : Nat → Int} (h : Pz w g cap n s f) (j : Nat) : w.frozen? ⟨g, j, none⟩ = false := by
  obtain ⟨cur, h1, _⟩ := h.blk
  exact frozen_of_row w g j cur 82 h1
/-- a place that was not filled yet -/
theorem Pz.room {w : World} {g cap n : Nat} {s : Nat → Nat} {f : Nat → Int} (h : Pz w g cap n s f) {j : Nat} (hj : j < cap * 2) : ∃ v, w.cell? ⟨g, j, none⟩ = some v := by
  obtain ⟨cur, h1, h2, _⟩ := h.blk
  refine ⟨cur[j]'(by omega), ?_⟩
  simp [World.cell?, h1, Array.getElem?_eq_getElem (show j < cur.size by omega)]
theorem Pz.congr {w : World} {g cap n : Nat} {s s' : Nat → Nat} {f f' : Nat → Int} (h : Pz w g cap n s f) (hs : ∀ i, i < n → s i = s' i ∧ f i = f' i) : Pz w g cap n s' f' :=
  ⟨h.le, h.mx, by
    obtain ⟨cur, h1, h2, h3⟩ := h.blk
    exact ⟨cur, h1, h2, fun i hi => by rw [← (hs i hi).1, ← (hs i hi).2]; exact h3 i hi⟩⟩
theorem Pz.setW {w : World} {g cap n : Nat} {s : Nat → Nat} {f : Nat → Int} (h : Pz w g cap n s f) {j : Nat} (hj : j < n) (x : Int) : Pz (w.setCell ⟨g, j * 2 + 1, none⟩ (.int .i64 x)) g cap n s (fun i => if i = j then x else f i) := by
  refine ⟨h.le, h.mx, ?_⟩
  obtain ⟨cur, h1, h2, h3⟩ := h.blk
  have hle := h.le
  refine ⟨_, heap_setCell_same w g _ cur 82 _ h1, by simpa using h2, fun i hi => ⟨?_, ?_⟩⟩
  · rw [Array.getElem?_setIfInBounds_ne (by omega)]
    exact (h3 i hi).1
  · by_cases e : i = j
    · subst e
      rw [Array.getElem?_setIfInBounds_self_of_lt (by omega), if_pos rfl]
    · rw [Array.getElem?_setIfInBounds_ne (by omega), if_neg e]
      exact (h3 i hi).2
theorem Pz.more {w : World} {g cap n : Nat} {s : Nat → Nat} {f : Nat → Int} (h : Pz w g cap n s f) (hn : n < cap) (b : Nat) (x : Int) :
    Pz ((w.setCell ⟨g, n * 2, none⟩ (.slice (some ⟨b, 0, none⟩) 1 1)).setCell ⟨g, n * 2 + 1, none⟩ (.int .i64 x)) g cap (n + 1) (fun i => if i = n then b else s i) (fun i => if i = n then x else f i) := by
  refine ⟨by omega, h.mx, ?_⟩
  obtain ⟨cur, h1, h2, h3⟩ := h.blk
  refine ⟨_, heap_setCell_same _ g _ _ 82 _ (heap_setCell_same w g _ cur 82 _ h1), by simpa using h2, fun i hi => ?_⟩
  by_cases e : i = n
  · subst e
    refine ⟨?_, ?_⟩
    · rw [Array.getElem?_setIfInBounds_ne (by omega), Array.getElem?_setIfInBounds_self_of_lt (by omega), if_pos rfl]
    · rw [Array.getElem?_setIfInBounds_self_of_lt (by simp; omega), if_pos rfl]
  · refine ⟨?_, ?_⟩
    · rw [Array.getElem?_setIfInBounds_ne (by omega), Array.getElem?_setIfInBounds_ne (by omega), if_neg e]
      exact (h3 i (by omega)).1
    · rw [Array.getElem?_setIfInBounds_ne (by omega), Array.getElem?_setIfInBounds_ne (by omega), if_neg e]
      exact (h3 i (by omega)).2
theorem Pz.owns {w : World} {lo g cap n : Nat} {s : Nat → Nat} {f : Nat → Int} (h : Pz w g cap n s f) (hg : lo ≤ g) : w.ownsRow lo 82 2 (.slice (some ⟨g, 0, none⟩) n cap) n (fl2 s f n) := by
  obtain ⟨cur, h1, h2, h3⟩ := h.blk
  have hle := h.le
  exact ⟨fl2_len s f n, .inr ⟨g, cap, cur, rfl, hg, h1, h.le, h.mx, h2, fl2_take (by omega) h3⟩⟩
theorem Pz.of {w : World} {lo n : Nat} {v : Value} {s : Nat → Nat} {f : Nat → Int} (h : w.ownsRow lo 82 2 v n (fl2 s f n)) (hv : v ≠ .slice none 0 0) : ∃ g cap, v = .slice (some ⟨g, 0, none⟩) n cap ∧ lo ≤ g ∧ Pz w g cap n s f := by
  obtain ⟨_, ⟨hn, _⟩ | ⟨g, cap, cur, rfl, hg, h1, hle, hmx, hsz, ht⟩⟩ := h
  · exact absurd hn hv
  · refine ⟨g, cap, rfl, hg, hle, hmx, cur, h1, hsz, fun i hi => ?_⟩
    obtain ⟨a, b⟩ := fl2_get s f hi
    rw [← ht, List.getElem?_take_of_lt (by omega), Array.getElem?_toList] at a
    rw [← ht, List.getElem?_take_of_lt (by omega), Array.getElem?_toList] at b
    exact ⟨a, b⟩
theorem addr_add (g j : Nat) : (⟨g, 0, none⟩ : Addr).add j = ⟨g, j, none⟩ := by
  unfold Addr.add
  split <;> simp_all
theorem Pz.cells {w : World} {g cap n : Nat} {s : Nat → Nat} {f : Nat → Int} (h : Pz w g cap n s f) : ∀ j u, (fl2 s f n)[j]? = some u → w.cell? ((⟨g, 0, none⟩ : Addr).add j) = some u := by
  intro j u hj
  have hl := (List.getElem?_eq_some_iff.1 hj).1
  rw [fl2_len] at hl
  obtain ⟨i, rfl | rfl⟩ : ∃ i, j = i * 2 ∨ j = i * 2 + 1 := ⟨j / 2, by omega⟩
  · rw [(fl2_get s f (show i < n by omega)).1] at hj
    rw [← hj, addr_add]
    exact (h.cell (show i < n by omega)).1
  · rw [(fl2_get s f (show i < n by omega)).2] at hj
    rw [← hj, addr_add]
    exact (h.cell (show i < n by omega)).2

/-- the number in each element's list: i, from z on; in a block above lo, not g -/
structure Ez (w : World) (lo g n : Nat) (s : Nat → Nat) (z : Int) : Prop where
  lt : ∀ i, i < n → lo ≤ s i ∧ s i < w.heap.size ∧ s i ≠ g
  c : ∀ i, i < n → w.cell? ⟨s i, 0, none⟩ = some (.int .i64 ((i : Int) + z))
theorem Ez.at {w w' : World} {lo g n : Nat} {s : Nat → Nat} {z : Int} (h : Ez w lo g n s z) (hb : Below w.heap.size w w') : Ez w' lo g n s z :=
  ⟨fun i hi => ⟨(h.lt i hi).1, Nat.lt_of_lt_of_le (h.lt i hi).2.1 hb.size, (h.lt i hi).2.2⟩, fun i hi => (hb.cell (p := ⟨s i, 0, none⟩) (h.lt i hi).2.1).trans (h.c i hi)⟩
theorem Ez.set {w : World} {lo g n : Nat} {s : Nat → Nat} {z : Int} (h : Ez w lo g n s z) {p : Addr} (hp : ∀ i, i < n → s i ≠ p.block) (u : Value) : Ez (w.setCell p u) lo g n s z :=
  ⟨fun i hi => by simpa using h.lt i hi, fun i hi => (sc_other (fun e => hp i hi (congrArg Addr.block e).symm)).trans (h.c i hi)⟩
theorem Ez.gb {w w' : World} {lo g n : Nat} {s : Nat → Nat} {z : Int} (h : Ez w lo g n s z) (hg : w.grownBy w' (some g)) : Ez w' lo g n s z :=
  ⟨fun i hi => ⟨(h.lt i hi).1, Nat.lt_of_lt_of_le (h.lt i hi).2.1 hg.size, (h.lt i hi).2.2⟩, fun i hi => hg.cell (h.c i hi) fun e => (h.lt i hi).2.2 (by simpa using e)⟩
theorem Ez.more {w : World} {lo g n : Nat} {s : Nat → Nat} {z : Int} (h : Ez w lo g n s z) {b : Nat} (hb : lo ≤ b ∧ b < w.heap.size ∧ b ≠ g) (hc : w.cell? ⟨b, 0, none⟩ = some (.int .i64 ((n : Int) + z))) : Ez w lo g (n + 1) (fun i => if i = n then b else s i) z := by
  refine ⟨fun i hi => ?_, fun i hi => ?_⟩
  · by_cases e : i = n
    · simp only [if_pos e]; exact hb
    · simp only [if_neg e]; exact h.lt i (by omega)
  · by_cases e : i = n
    · subst e; simpa using hc
    · simp only [if_neg e]; exact h.c i (by omega)
/-- as parts -/
theorem Pz.parts {w : World} {lo g cap n : Nat} {s : Nat → Nat} {f : Nat → Int} (h : Pz w g cap n s f) (he : Ez w lo g n s 0) (hn : n ≤ 1073741824) : ∃ ts, rd ts = (List.range n).map (fun (i : Nat) => (([(i : Int)], f i) : Pt)) ∧ Parts w w.heap.size (.slice (some ⟨g, 0, none⟩) n cap) ts := by
  refine ⟨(List.range n).map fun i => (.slice (some ⟨s i, 0, none⟩) 1 1, [(i : Int)], f i), by simp [rd], some ⟨g, 0, none⟩, cap, by simp, by simpa using h.le, by simpa using hn, fun t ht => ?_, fun _ => ⟨g, 0, rfl, h.lt, fun i t ht => ?_⟩⟩
  · obtain ⟨i, hi, rfl⟩ := List.mem_map.1 ht
    have hi := List.mem_range.1 hi
    refine ⟨some ⟨s i, 0, none⟩, 1, rfl, Nat.le_refl _, by simp, fun _ => ⟨s i, 0, rfl, (he.lt i hi).2.1, Nat.ne_of_lt (he.lt i hi).2.1, fun j x hj => ?_⟩⟩
    have := he.c i hi
    cases j with
    | zero => simp at hj; subst hj; simpa using this
    | succ j => simp at hj
  · have hi : i < n := by have := (List.getElem?_eq_some_iff.1 ht).1; simpa using this
    simp [hi] at ht
    subst ht
    obtain ⟨a, b⟩ := h.cell hi
    rw [Nat.zero_add]
    exact ⟨a, b⟩
theorem Pz.made (w : World) (n g : Nat) (hg : g = w.heap.size) (hn : n ≤ maxLen) (s : Nat → Nat) (f : Nat → Int) : Pz (w.alloc (.cells (madeCells #[.slice none 0 0, .int .i64 0] (n * 2)) 82)) g n 0 s f := by
  subst hg
  exact ⟨Nat.zero_le _, hn, _, heap_alloc_new w _, by simp [madeCells], fun i hi => absurd hi (Nat.not_lt_zero _)⟩
theorem Pz.one (w : World) (g b : Nat) (hg : g = w.heap.size) (x : Int) : Pz (w.alloc (.cells #[.slice (some ⟨b, 0, none⟩) 1 1, .int .i64 x] 82)) g 1 1 (fun _ => b) (fun _ => x) := by
  subst hg
  refine ⟨Nat.le_refl _, by decide, _, heap_alloc_new w _, by simp, fun i hi => ?_⟩
  obtain rfl : i = 0 := by omega
  exact ⟨rfl, rfl⟩
end Go.Proofs.YtlndlpjadajelaaGreat
