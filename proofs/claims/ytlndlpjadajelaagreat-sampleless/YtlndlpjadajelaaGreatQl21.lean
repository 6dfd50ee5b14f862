import Derived.Test.YtlndlpjadajelaaGreatQl20
import Derived.Deep.RegionLaw
import Derived.Test.YtlndlpjadajelaaGreatQl18
namespace Go.Proofs.YtlndlpjadajelaaGreat
open Go.RowKit Go.Proofs.YtlndlpjadajelaaGreat.Ds

theorem infoP : (Tryz.prog.info? 82).map (fun i => (i.zero, i.size, i.bytes)) = some (some (.agg #[.slice none 0 0, .int .i64 0]), 2, 32) := by kernel_rfl
theorem info_at {t : TypeId} {z : Value} {a b : Nat} (h : (Tryz.prog.info? t).map (fun i => (i.zero, i.size, i.bytes)) = some (some z, a, b)) : ∃ i, Tryz.prog.info? t = some i ∧ i.zero = some z ∧ i.size = a ∧ i.bytes = b := by
  cases hi : Tryz.prog.info? t with
  | none => rw [hi] at h; simp at h
  | some i => rw [hi] at h; simp at h; exact ⟨i, rfl, h.1, h.2.1, h.2.2⟩
theorem mkP (n : Nat) (hn : n ≤ 1073741824) (u : World) : (Instr.makeSlice 43 (.int .i64 (n : Int)) (.int .i64 (n : Int))).run Tryz.prog u = .ok (.slice (some ⟨u.heap.size, 0, none⟩) n n) (u.alloc (.cells (madeCells #[.slice none 0 0, .int .i64 0] (n * 2)) 82)) := by
  obtain ⟨i0, hi, hz0, hz1, hz2⟩ := info_at infoP
  have h := run_make (P := Tryz.prog) u 43 82 i0 (.agg #[.slice none 0 0, .int .i64 0]) Tryz.underlying43 hi hz0 .i64 .i64 (n : Int) (n : Int) (by omega) (Int.le_refl _) (by rw [hz2]; omega) (by omega)
  rw [Int.toNat_natCast] at h
  simpa [hz1, Value.cells] using h
/-- p in its box -/
def Bo (w : World) (b : Nat) (u d : Int) : Prop := b < w.heap.size ∧ w.cell? ⟨b, 0, none⟩ = some (.int .i64 u) ∧ w.cell? ⟨b, 1, none⟩ = some (.int .i64 d)
theorem Bo.at {w w' : World} {b : Nat} {u d : Int} (h : Bo w b u d) (hb : Below w.heap.size w w') : Bo w' b u d :=
  ⟨Nat.lt_of_lt_of_le h.1 hb.size, (hb.cell (p := ⟨b, 0, none⟩) h.1).trans h.2.1, (hb.cell (p := ⟨b, 1, none⟩) h.1).trans h.2.2⟩
theorem Bo.set {w : World} {b : Nat} {u d : Int} (h : Bo w b u d) {p : Addr} (hp : b ≠ p.block) (v : Value) : Bo (w.setCell p v) b u d :=
  ⟨by simpa using h.1, (sc_other (fun e => hp (congrArg Addr.block e).symm)).trans h.2.1, (sc_other (fun e => hp (congrArg Addr.block e).symm)).trans h.2.2⟩
theorem Bo.gb {w w' : World} {b g : Nat} {u d : Int} (h : Bo w b u d) (hg : w.grownBy w' (some g)) (hne : b ≠ g) : Bo w' b u d :=
  ⟨Nat.lt_of_lt_of_le h.1 hg.size, hg.cell h.2.1 (by simpa using hne), hg.cell h.2.2 (by simpa using hne)⟩

theorem fin9 {W : World} {lo q g cap n j : Nat} {s t : Nat → Nat} {F f : Nat → Int} {P1 u d : Int} (hP1 : f j = P1) (hj : j < n) (hlo : lo < q) (hgq : g < q) (hq : q < W.heap.size) (hs : ∀ x, x < n → s x < q) (h1 : Pz W g cap n s F) (h2 : Ez W (lo + 1) g n s 0) (h3 : Pz W q n j t f) (h4 : Ez W (q + 1) q j t (n : Int)) (h5 : Bo W lo u d) :
    ∃ t', Pz (((W.alloc (.cells #[.int .i64 ((j : Int) + n)] 3)).setCell ⟨q, j * 2, none⟩ (.slice (some ⟨W.heap.size, 0, none⟩) 1 1)).setCell ⟨q, j * 2 + 1, none⟩ (.int .i64 P1)).drew g cap n s F ∧
      Ez (((W.alloc (.cells #[.int .i64 ((j : Int) + n)] 3)).setCell ⟨q, j * 2, none⟩ (.slice (some ⟨W.heap.size, 0, none⟩) 1 1)).setCell ⟨q, j * 2 + 1, none⟩ (.int .i64 P1)).drew (lo + 1) g n s 0 ∧
      Pz (((W.alloc (.cells #[.int .i64 ((j : Int) + n)] 3)).setCell ⟨q, j * 2, none⟩ (.slice (some ⟨W.heap.size, 0, none⟩) 1 1)).setCell ⟨q, j * 2 + 1, none⟩ (.int .i64 P1)).drew q n (j + 1) t' f ∧
      Ez (((W.alloc (.cells #[.int .i64 ((j : Int) + n)] 3)).setCell ⟨q, j * 2, none⟩ (.slice (some ⟨W.heap.size, 0, none⟩) 1 1)).setCell ⟨q, j * 2 + 1, none⟩ (.int .i64 P1)).drew (q + 1) q (j + 1) t' (n : Int) ∧
      Bo (((W.alloc (.cells #[.int .i64 ((j : Int) + n)] 3)).setCell ⟨q, j * 2, none⟩ (.slice (some ⟨W.heap.size, 0, none⟩) 1 1)).setCell ⟨q, j * 2 + 1, none⟩ (.int .i64 P1)).drew lo u d := by
  obtain ⟨A, hA⟩ : ∃ A, W.alloc (.cells #[.int .i64 ((j : Int) + n)] 3) = A := ⟨_, rfl⟩
  have hb : Below W.heap.size W A := hA ▸ ba _ _
  have hc : A.cell? ⟨W.heap.size, 0, none⟩ = some (.int .i64 ((j : Int) + n)) := by rw [← hA]; simp [go_sem]
  have hl : W.heap.size < A.heap.size := by rw [← hA]; simp
  rw [hA]
  have k4 := (h4.at hb).more (b := W.heap.size) ⟨by omega, hl, by omega⟩ hc
  refine ⟨fun x => if x = j then W.heap.size else t x, ?_, ?_, ?_, ?_, ?_⟩
  · exact (((h1.at hb).beside (show g ≠ q by omega) _).beside (show g ≠ q by omega) _).same rfl
  · exact (((h2.at hb).set (p := ⟨q, j * 2, none⟩) (fun x hx => by have := hs x hx; show s x ≠ q; omega) _).set (p := ⟨q, j * 2 + 1, none⟩) (fun x hx => by have := hs x hx; show s x ≠ q; omega) _).at (Below.refl _ _).drew
  · exact (((h3.at hb).more hj W.heap.size P1).congr fun x _ => ⟨rfl, by by_cases e : x = j <;> simp [e, hP1]⟩).same rfl
  · exact ((k4.set (p := ⟨q, j * 2, none⟩) (fun x hx => (k4.lt x hx).2.2) _).set (p := ⟨q, j * 2 + 1, none⟩) (fun x hx => (k4.lt x hx).2.2) _).at (Below.refl _ _).drew
  · exact (((h5.at hb).set (p := ⟨q, j * 2, none⟩) (show lo ≠ q by omega) _).set (p := ⟨q, j * 2 + 1, none⟩) (show lo ≠ q by omega) _).at (Below.refl _ _).drew

theorem fin10 {W : World} {g cap n j i : Nat} {s : Nat → Nat} {u d P2 : Int} (hQ : Sb.wgt u d i j * (d - u) = P2) (hj : j < n) (h1 : Pz W g cap n s (fun x => if x < j then Sb.wgt u d i x * (d - u) else Sb.wgt u d i x)) :
    Pz (W.setCell ⟨g, j * 2 + 1, none⟩ (.int .i64 P2)).drew g cap n s (fun x => if x < j + 1 then Sb.wgt u d i x * (d - u) else Sb.wgt u d i x) := by
  refine ((h1.setW hj P2).congr fun x _ => ⟨rfl, ?_⟩).same rfl
  by_cases e : x = j
  · subst e
    rw [if_pos rfl, if_pos (by omega), hQ]
  · rw [if_neg e]
    by_cases e2 : x < j
    · rw [if_pos e2, if_pos (by omega)]
    · rw [if_neg e2, if_neg (by omega)]

theorem own_ge {lo g n c y : Nat} (h : lo + 1 ≤ g) (e : (Value.slice (some ⟨g, 0, none⟩) n c).ownBlock = some y) : lo ≤ y := by
  have e : g = y := by simpa [Value.ownBlock] using e
  omega
theorem finA {wr w' : World} {lo q g j i : Nat} {s t : Nat → Nat} {u d : Int} {v' : Value} (hj : j = 2 ^ i) (hlo : lo + 1 ≤ g) (hgq : g < q) (hq : q < wr.heap.size) (h2 : Ez wr (lo + 1) g j s 0) (h4 : Ez wr (q + 1) q j t (j : Int)) (h5 : Bo wr lo u d)
    (hown : w'.ownsRow lo 82 2 v' (j + j) (fl2 s (fun x => if x < j then Sb.wgt u d i x * (d - u) else Sb.wgt u d i x) j ++ fl2 t (fun x => Sb.wgt u d i x * u) j)) (hgr : wr.grownBy w' (some g)) (hnil : ¬ v' = .slice none 0 0) (hat : v'.ownBlock = some g ∨ v'.ownBlock = some wr.heap.size) :
    ∃ g' cap' s', v' = .slice (some ⟨g', 0, none⟩) (j + j) cap' ∧ lo + 1 ≤ g' ∧ Pz w' g' cap' (j + j) s' (fun x => Sb.wgt u d (i + 1) x) ∧ Ez w' (lo + 1) g' (j + j) s' 0 ∧ Bo w' lo u d := by
  rw [fl2_add] at hown
  obtain ⟨g', cap', rfl, _, hP⟩ := Pz.of hown hnil
  have hg' : g' = g ∨ g' = wr.heap.size := by simpa [Value.ownBlock] using hat
  have hsz := hgr.size
  have k2 := h2.gb hgr
  refine ⟨g', cap', _, rfl, by omega, hP.congr fun x hx => ⟨rfl, ?_⟩, ⟨fun x hx => ?_, fun x hx => ?_⟩, h5.gb hgr (by omega)⟩
  · by_cases e : x < j
    · simp only [if_pos e]
      rw [Sb.wgt_not u d (by omega)]
    · simp only [if_neg e]
      have := Sb.wgt_top u d (s := x - j) (k := i) (by omega)
      rw [← hj, show x - j + j = x by omega] at this
      rw [this]
  · by_cases e : x < j
    · simp only [if_pos e]
      have a := h2.lt x e
      omega
    · simp only [if_neg e]
      have a := h4.lt (x - j) (by omega)
      omega
  · by_cases e : x < j
    · simp only [if_pos e]
      exact k2.c x e
    · simp only [if_neg e]
      have a := h4.lt (x - j) (by omega)
      have c := h4.c (x - j) (by omega)
      rw [show ((x - j : Nat) : Int) + (j : Int) = (x : Int) + 0 by omega] at c
      exact hgr.cell c (fun h => absurd (show t (x - j) = g by simpa using h) (by omega))

set_option maxHeartbeats 4000000 in
set_option maxRecDepth 100000 in
theorem weighed_any (u d : Int) (k : Nat) (hk : k ≤ 10) (hu : 0 ≤ u) (hud : u ≤ d) (hd1 : 1 ≤ d) (hd : d ≤ 1073741824) (hm : d ^ k ≤ 1073741824) (w : World) :
    Calls Tryz.prog 114 #[rv u d, .int .i64 (k : Int)] w fun e w' => ∃ v ts, e = .returned v ∧ rd ts = Sb.lst u d k ∧ Parts w' w'.heap.size v ts ∧ Below w.heap.size w w' := by
  have HM : Hid (d ^ k ≤ 1073741824) := hm
  clear hm
  go_enter Tryz.func114, Tryz.ntmps114
  go_wp2
  go_loopw [5, 14] (fun v c wr => ∃ (i n g cap : Nat) (s : Nat → Nat), v = .slice (some ⟨g, 0, none⟩) n cap ∧ c = .int .i64 (i : Int) ∧ i ≤ k ∧ Hid (n = 2 ^ i) ∧ w.heap.size + 1 ≤ g ∧ n ≤ 1024 ∧ Hid (Pz wr g cap n s (fun j => Sb.wgt u d i j)) ∧ Hid (Ez wr (w.heap.size + 1) g n s 0) ∧ Hid (Bo wr w.heap.size u d) ∧ Below w.heap.size w wr) (fun _ c _ => k - (intOf c).toNat)
  case atStart =>
    refine ⟨0, 1, w.heap.size + 2, 1, fun _ => w.heap.size + 1, by simp, rfl, Nat.zero_le _, rfl, by omega, by decide, ?_, ?_, ?_, ?_⟩
    · exact Pz.one _ _ _ (by simp) 1
    · refine ⟨fun x hx => ⟨by omega, by simp, by omega⟩, fun x hx => ?_⟩
      obtain rfl : x = 0 := by omega
      simp [go_sem]
    · exact ⟨by simp; omega, by simp [go_sem], by simp [go_sem]⟩
    · exact bal (bal (ba _ _) _) _
  case round =>
    obtain ⟨i, n, g, cap, s, rfl, rfl, hik, HN, hg, hn, HP, HE, HB, hbl⟩ := hrel
    obtain ⟨wq, hwq⟩ : ∃ wq : World, wq = wr := ⟨_, rfl⟩
    subst hwq
    by_cases h1 : i < k
    · have hmk := mkP n (by omega)
      have HS : Hid (∀ x, x < n → s x < wq.heap.size) := fun x hx => (HE.out.lt x hx).2.1
      have hgl := HP.out.lt
      have hbs := HB.out.1
      go_wp2_with fail
      go_loopw [22] (fun c wr => ∃ (j : Nat) (t : Nat → Nat), c = .int .i64 (j : Int) ∧ j ≤ n ∧ Hid (Pz wr g cap n s (fun x => if x < j then Sb.wgt u d i x * (d - u) else Sb.wgt u d i x)) ∧ Hid (Ez wr (w.heap.size + 1) g n s 0) ∧ Hid (Pz wr wq.heap.size n j t (fun x => Sb.wgt u d i x * u)) ∧ Hid (Ez wr (wq.heap.size + 1) wq.heap.size j t (n : Int)) ∧ Hid (Bo wr w.heap.size u d) ∧ Below w.heap.size w wr ∧ wq.heap.size < wr.heap.size) (fun c _ => n - (intOf c).toNat)
      case atStart =>
        refine ⟨0, fun _ => 0, rfl, Nat.zero_le _, ?_, HE.out.at (ba _ _), Pz.made _ _ _ rfl (by unfold maxLen; omega) _ _, ⟨fun x hx => absurd hx (Nat.not_lt_zero _), fun x hx => absurd hx (Nat.not_lt_zero _)⟩, HB.out.at (ba _ _), bal hbl _, by simp⟩
        exact (HP.out.at (ba _ _)).congr fun x _ => ⟨rfl, by rw [if_neg (Nat.not_lt_zero _)]⟩
      case round =>
        obtain ⟨j, t, rfl, hjn, HP1, HE1, HP2, HE2, HB1, hbl1, hql⟩ := hrel
        by_cases h2 : j < n
        · obtain ⟨c0, c1⟩ := HP1.out.cell h2
          have c2 := HE1.out.c j h2
          rw [Int.add_zero] at c2
          simp only [Nat.lt_irrefl, if_false] at c1
          obtain ⟨P, hP⟩ : ∃ P, Sb.wgt u d i j = P := ⟨_, rfl⟩
          have hW := Sb.wgt_small hu hud hd1 HM.out (show i ≤ k by omega) j
          have hW1 := Sb.wgt_small hu hud hd1 HM.out (show i + 1 ≤ k by omega) j
          have hW2 := Sb.wgt_small hu hud hd1 HM.out (show i + 1 ≤ k by omega) (j + 2 ^ i)
          have hj2 : j < 2 ^ i := by have := HN.out; omega
          rw [Sb.wgt_not u d hj2] at hW1
          rw [Sb.wgt_top u d hj2] at hW2
          obtain ⟨P1, hP1⟩ : ∃ P1, P * u = P1 := ⟨_, rfl⟩
          obtain ⟨P2, hP2⟩ : ∃ P2, P * (d - u) = P2 := ⟨_, rfl⟩
          rw [hP] at c1 hW hW1 hW2
          rw [hP2] at hW1
          rw [hP1] at hW2
          have HQ : Hid (Sb.wgt u d i j = P ∧ P * u = P1 ∧ P * (d - u) = P2) := ⟨hP, hP1, hP2⟩
          have hsh : IntKind.i64.wrap (2 ^ i) = (n : Int) := by
            have e : ((2 : Int) ^ i) = (n : Int) := by rw [HN.out, Int.natCast_pow]; rfl
            rw [e]
            rw [IntKind.wrap_i64]; omega
          have hwj : IntKind.i64.wrap ((j : Int) + (n : Int)) = (j : Int) + (n : Int) := by rw [IntKind.wrap_i64]; omega
          have hwp : IntKind.i64.wrap P1 = P1 := by rw [IntKind.wrap_i64]; omega
          obtain ⟨sb, hsb⟩ : ∃ sb, s j = sb := ⟨_, rfl⟩
          have hs1 := (HE1.out.lt j h2).2
          have hs2 := HS.out j h2
          rw [hsb] at c0 c2 hs1 hs2
          obtain ⟨v0, r0⟩ := HP2.out.room (j := j * 2) (by omega)
          obtain ⟨v1, r1⟩ := HP2.out.room (j := j * 2 + 1) (by omega)
          have z0 := HP2.out.thaw (j * 2)
          have z1 := HP2.out.thaw (j * 2 + 1)
          obtain ⟨hb0, b0, b1⟩ := HB1.out
          clear hP hsb hj2
          go_upto_region 9 with fail
          obtain ⟨W, hW0⟩ : ∃ W, wr.alloc (.cells #[.slice (some ⟨sb, 0, none⟩) 1 1, .int .i64 P] 82) = W := ⟨_, rfl⟩
          have hbW : Below wr.heap.size wr W := hW0 ▸ ba _ _
          have hWs : W.heap.size = wr.heap.size + 1 := by rw [← hW0]; simp
          have e0 : W.cell? ⟨wr.heap.size, 0, none⟩ = some (.slice (some ⟨sb, 0, none⟩) 1 1) := by rw [← hW0]; simp [go_sem]
          have e1 : W.cell? ⟨wr.heap.size, 1, none⟩ = some (.int .i64 P) := by rw [← hW0]; simp [go_sem]
          have e2 : W.cell? ⟨sb, 0, none⟩ = some (.int .i64 (j : Int)) := (hbW.cell (p := ⟨sb, 0, none⟩) hs1.1).trans c2
          have e3 : W.cell? ⟨w.heap.size, 0, none⟩ = some (.int .i64 u) := (hbW.cell (p := ⟨w.heap.size, 0, none⟩) hb0).trans b0
          have e4 : W.cell? ⟨wq.heap.size, j * 2, none⟩ = some v0 := (hbW.cell (p := ⟨wq.heap.size, j * 2, none⟩) hql).trans r0
          have e5 : W.cell? ⟨wq.heap.size, j * 2 + 1, none⟩ = some v1 := (hbW.cell (p := ⟨wq.heap.size, j * 2 + 1, none⟩) hql).trans r1
          have e6 : W.frozen? ⟨wq.heap.size, j * 2, none⟩ = false := (hbW.frozen (p := ⟨wq.heap.size, j * 2, none⟩) hql).trans z0
          have e7 : W.frozen? ⟨wq.heap.size, j * 2 + 1, none⟩ = false := (hbW.frozen (p := ⟨wq.heap.size, j * 2 + 1, none⟩) hql).trans z1
          rw [hW0]
          clear hW0 c0 c1 c2 b0 b1 r0 r1 z0 z1
          have HPW1 : Hid (Pz W g cap n s (fun x => if x < j then Sb.wgt u d i x * (d - u) else Sb.wgt u d i x)) := HP1.out.at hbW
          have HEW1 : Hid (Ez W (w.heap.size + 1) g n s 0) := HE1.out.at hbW
          have HPW2 : Hid (Pz W wq.heap.size n j t (fun x => Sb.wgt u d i x * u)) := HP2.out.at hbW
          have HEW2 : Hid (Ez W (wq.heap.size + 1) wq.heap.size j t (n : Int)) := HE2.out.at hbW
          have HBW : Hid (Bo W w.heap.size u d) := HB1.out.at hbW
          have hblW : Below w.heap.size w W := bt hbl1 hbW
          have hqW : wq.heap.size < W.heap.size := by omega
          have ne1 : ¬ wr.heap.size = wq.heap.size := by omega
          have ne2 : ¬ sb = wq.heap.size := by omega
          have ne3 : ¬ w.heap.size = wq.heap.size := by omega
          have ne4 : ¬ wq.heap.size = wr.heap.size := by omega
          have ne5 : ¬ wq.heap.size = sb := by omega
          have ne6 : ¬ wq.heap.size = w.heap.size := by omega
          have lw1 : wr.heap.size < W.heap.size := by omega
          have lw2 : sb < W.heap.size := by omega
          have lw3 : w.heap.size < W.heap.size := by omega
          have f4 : ∀ o, (W.alloc o).cell? ⟨wq.heap.size, j * 2, none⟩ = some v0 := fun o => ((ba W o).cell (p := ⟨wq.heap.size, j * 2, none⟩) hqW).trans e4
          have f5 : ∀ o, (W.alloc o).cell? ⟨wq.heap.size, j * 2 + 1, none⟩ = some v1 := fun o => ((ba W o).cell (p := ⟨wq.heap.size, j * 2 + 1, none⟩) hqW).trans e5
          have f6 : ∀ o, (W.alloc o).frozen? ⟨wq.heap.size, j * 2, none⟩ = false := fun o => ((ba W o).frozen (p := ⟨wq.heap.size, j * 2, none⟩) hqW).trans e6
          have f7 : ∀ o, (W.alloc o).frozen? ⟨wq.heap.size, j * 2 + 1, none⟩ = false := fun o => ((ba W o).frozen (p := ⟨wq.heap.size, j * 2 + 1, none⟩) hqW).trans e7
          clear HP1 HE1 HP2 HE2 HB1 hbl1 hql
          go_cut [] (fun wx => ∃ t' : Nat → Nat, Hid (Pz wx g cap n s (fun x => if x < j then Sb.wgt u d i x * (d - u) else Sb.wgt u d i x)) ∧ Hid (Ez wx (w.heap.size + 1) g n s 0) ∧ Hid (Pz wx wq.heap.size n (j + 1) t' (fun x => Sb.wgt u d i x * u)) ∧ Hid (Ez wx (wq.heap.size + 1) wq.heap.size (j + 1) t' (n : Int)) ∧ Hid (Bo wx w.heap.size u d) ∧ Below w.heap.size w wx ∧ wq.heap.size < wx.heap.size)
          case first =>
            go_region_held3 (fun w' => w'.cell? ⟨wr.heap.size, 0, none⟩ = some (.slice (some ⟨sb, 0, none⟩) 1 1) ∧ w'.cell? ⟨wr.heap.size, 1, none⟩ = some (.int .i64 P) ∧ w'.cell? ⟨sb, 0, none⟩ = some (.int .i64 (j : Int)) ∧ w'.cell? ⟨w.heap.size, 0, none⟩ = some (.int .i64 u))
              ((go_split_ands; refine ⟨?_, ?_, ?_, ?_⟩ <;> first | with_reducible assumption | (simp [go_sem, *]; done)))
              (fail)
            go_wp2
            go_meet
            obtain ⟨t', q1, q2, q3, q4, q5⟩ := fin9 (W := W) (lo := w.heap.size) (q := wq.heap.size) (f := fun x => Sb.wgt u d i x * u) (P1 := P1) (by rw [HQ.out.1]; exact HQ.out.2.1) h2 hbs hgl hqW HS.out HPW1.out HEW1.out HPW2.out HEW2.out HBW.out
            rw [hWs] at q1 q2 q3 q4 q5
            exact ⟨t', q1, q2, q3, q4, q5, (bs (bs (bal hblW _) (by dsimp only; omega) _) (by dsimp only; omega) _).drew, by simp; omega⟩
          case rest =>
            obtain ⟨t', HC1, HC2, HC3, HC4, HC5, hblc, hqc⟩ := hcut
            obtain ⟨c0, c1⟩ := HC1.out.cell h2
            simp only [Nat.lt_irrefl, if_false] at c1
            rw [HQ.out.1] at c1
            have z1 := HC1.out.thaw (j * 2 + 1)
            obtain ⟨hb0, b0, b1⟩ := HC5.out
            clear e0 e1 e2 e3 e4 e5 e6 e7 f4 f5 f6 f7 HPW1 HEW1 HPW2 HEW2 HBW hblW hqW lw1 lw2 lw3 hbW hWs c0 hwj hwp hsh ne1 ne2 ne3 ne4 ne5 ne6
            have nb : ¬ w.heap.size = g := by omega
            have nb' : ¬ g = w.heap.size := by omega
            go_upto_region 10 with fail
            go_region_law (fail)
            all_goals (
              go_wp2
              go_roundw
              case rel => exact ⟨j + 1, t', by go_num, h2, fin10 (by rw [HQ.out.1]) h2 HC1.out, (HC2.out.set (p := ⟨g, j * 2 + 1, none⟩) (fun x hx => (HC2.out.lt x hx).2.2) _).at (Below.refl _ _).drew, (HC3.out.beside (show wq.heap.size ≠ g by omega) _).same rfl, (HC4.out.set (p := ⟨g, j * 2 + 1, none⟩) (fun x hx => by have := (HC4.out.lt x hx).1; show t' x ≠ g; omega) _).at (Below.refl _ _).drew, (HC5.out.set (p := ⟨g, j * 2 + 1, none⟩) (show w.heap.size ≠ g by omega) _).at (Below.refl _ _).drew, (bs hblc (by dsimp only; omega) _).drew, by simpa using hqc⟩
              case measure => simp [intOf]; omega)
        · obtain rfl : j = n := by omega
          obtain ⟨ip, hip, hz0, hz1, hz2⟩ := info_at infoP
          have HO := (HP1.out.owns (lo := w.heap.size) (by omega))
          have hcl := HP2.out.cells
          have h1c := fl2_one t (fun x => Sb.wgt u d i x * u) j
          have hfl := fl2_len t (fun x => Sb.wgt u d i x * u) j
          go_wp2_with (at_builtin; refine wpList_append_own_at _ rfl _ _ 43 rfl w.heap.size 82 ip (.agg #[.slice none 0 0, .int .i64 0]) 2 32 Tryz.underlying43 hip hz0 hz1 hz2 rfl (by decide) (.slice (some ⟨g, 0, none⟩) j cap) j _ rfl HO ⟨wq.heap.size, 0, none⟩ j j _ rfl hfl hcl h1c (by unfold maxLen; omega) (by omega) (by omega) ?_)
          intro v' w' hown hgr hnil hat
          obtain ⟨g', cap', s', rfl, hg', HP', HE', HB'⟩ := finA HN.out hg hgl hql HE1.out HE2.out HB1.out hown hgr hnil hat
          have HN' : Hid (j + j = 2 ^ (i + 1)) := by show _ = _; rw [Nat.pow_succ, ← HN.out]; omega
          have hle : j + j ≤ 1024 := by rw [HN'.out]; exact Sb.two_le (by omega)
          have hbl' : Below w.heap.size w w' := hbl1.grown hgr hbl1.size (fun y e => own_ge hg e)
          have HP2' : Hid (Pz w' g' cap' (j + j) s' (fun x => Sb.wgt u d (i + 1) x)) := HP'
          have HE2' : Hid (Ez w' (w.heap.size + 1) g' (j + j) s' 0) := HE'
          have HB2' : Hid (Bo w' w.heap.size u d) := HB'
          clear HP' HE' HB' hown hgr hat hnil HO hcl h1c hfl HP1 HE1 HP2 HE2 HB1
          go_wp2
          go_roundw
          case rel => exact ⟨i + 1, j + j, g', cap', s', rfl, by go_num, h1, HN', hg', hle, HP2', HE2', HB2', hbl'⟩
          case measure => simp [intOf]; omega
    · obtain rfl : i = k := by omega
      obtain ⟨ts, hts, hpt⟩ := HP.out.parts HE.out (by omega)
      have HZ : Hid (rd ts = Sb.lst u d i ∧ Parts wq wq.heap.size (.slice (some ⟨g, 0, none⟩) n cap) ts) := ⟨by rw [hts, HN.out]; rfl, hpt⟩
      clear hts hpt
      go_wp2
      go_ret
      exact ⟨_, ts, rfl, HZ.out.1, HZ.out.2, hbl⟩
end Go.Proofs.YtlndlpjadajelaaGreat

namespace Go.Proofs.YtlndlpjadajelaaGreat
open Go.RowKit Go.Proofs.YtlndlpjadajelaaGreat.Ds

theorem plusLit (a b c d : Int) (p q : Nat) (w : World) (a1 : 0 ≤ a) (a2 : a ≤ 1073741824) (b1 : 1 ≤ b) (b2 : b ≤ 1073741824) (c1 : 0 ≤ c) (c2 : c ≤ 1073741824) (d1 : 1 ≤ d) (d2 : d ≤ 1073741824)
    (k1 : w.cell? ⟨p, 0, none⟩ = some (.int .i64 a)) (k2 : w.cell? ⟨p, 1, none⟩ = some (.int .i64 b)) (k3 : w.cell? ⟨q, 0, none⟩ = some (.int .i64 c)) (k4 : w.cell? ⟨q, 1, none⟩ = some (.int .i64 d)) :
    Calls Tryz.prog 120 #[.pointer (some ⟨p, 0, none⟩), .pointer (some ⟨q, 0, none⟩)] w fun x w' => x = .returned (.tuple #[.int .i64 (a * d + c * b), .int .i64 (b * d)]) ∧ Below w.heap.size w w' := by
  obtain ⟨p1, p2⟩ := Rt.mul_bd a1 a2 c1 c2
  obtain ⟨p3, p4⟩ := Rt.mul_bd (a := b) (b := d) (by omega) b2 (by omega) d2
  obtain ⟨p5, p6⟩ := Rt.mul_bd (a := a) (b := d) (by omega) a2 (by omega) d2
  obtain ⟨p7, p8⟩ := Rt.mul_bd (a := c) (b := b) (by omega) c2 (by omega) b2
  obtain ⟨p9, p10⟩ := Rt.mul_bd (a := b) (b := c) (by omega) b2 (by omega) c2
  go_enter Tryz.func120, Tryz.ntmps120
  go_wp2
  go_quiet (fail)
  go_wp2
  go_ret2
  exact ⟨rfl, below_drewN (Below.refl _ _) _⟩

set_option maxHeartbeats 400000 in
theorem plusReckon (a b c d n m e : Int) (r1 : Rt.rightB a b = true) (r2 : Rt.rightB c d = true) (hm : Rt.mkT (a * d + c * b) (b * d) = (n, m, e)) (p q : Nat) (w : World) (hp : p < w.heap.size) (hq : q < w.heap.size)
    (k1 : w.cell? ⟨p, 0, none⟩ = some (.int .i64 a)) (k2 : w.cell? ⟨p, 1, none⟩ = some (.int .i64 b)) (k3 : w.cell? ⟨q, 0, none⟩ = some (.int .i64 c)) (k4 : w.cell? ⟨q, 1, none⟩ = some (.int .i64 d)) :
    Calls Tryz.prog 117 #[rv a b, rv c d, .func (.func 120) #[] #[.pointer (some ⟨p, 0, none⟩), .pointer (some ⟨q, 0, none⟩)]] w fun x w' => x = .returned (.tuple #[rv n m, .int .i64 e]) ∧ Below w.heap.size w w' := by
  have HM : Hid (Rt.mkT (a * d + c * b) (b * d) = (n, m, e)) := hm
  have R1 : Hid (Rt.rightB a b = true) := r1
  have R2 : Hid (Rt.rightB c d = true) := r2
  obtain ⟨a1, a2, b1, b2⟩ := Rt.right_bd r1
  obtain ⟨c1, c2, d1, d2⟩ := Rt.right_bd r2
  clear r1 r2 hm
  obtain ⟨p1, p2⟩ := Rt.mul_bd a1 a2 c1 c2
  obtain ⟨p3, p4⟩ := Rt.mul_bd (a := b) (b := d) (by omega) b2 (by omega) d2
  obtain ⟨p5, p6⟩ := Rt.mul_bd (a := a) (b := d) (by omega) a2 (by omega) d2
  obtain ⟨p7, p8⟩ := Rt.mul_bd (a := c) (b := b) (by omega) c2 (by omega) b2
  obtain ⟨p9, p10⟩ := Rt.mul_bd (a := b) (b := c) (by omega) b2 (by omega) c2
  go_enter Tryz.func117, Tryz.ntmps117
  go_wp2_with fail
  refine (right_any a b true R1.out _).mono ?_
  rintro e1 w1 ⟨rfl, hb1⟩
  obtain ⟨hc1, hf1⟩ := bcell hb1
  go_wp2_with fail
  refine (right_any c d true R2.out _).mono ?_
  rintro e2 w2 ⟨rfl, hb2⟩
  have F2 := bt hb1 hb2
  clear hc1 hf1 hb1 hb2
  have G2 := bt (bal (bal (ba _ _) _) _) F2
  go_wp2_with fail
  refine (plusLit a b c d p q _ a1 a2 b1 b2 c1 c2 d1 d2 ((G2.cell (p := ⟨p, 0, none⟩) hp).trans k1) ((G2.cell (p := ⟨p, 1, none⟩) hp).trans k2) ((G2.cell (p := ⟨q, 0, none⟩) hq).trans k3) ((G2.cell (p := ⟨q, 1, none⟩) hq).trans k4)).mono ?_
  rintro e3 w3 ⟨rfl, hb3⟩
  go_wp2_with fail
  refine (rmake_any (a * d + c * b) (b * d) n m e (by omega) (by omega) HM.out _).mono ?_
  rintro e4 w4 ⟨rfl, hb4⟩
  have F4 := bt (bt F2 hb3) hb4
  have G4 := bt (bal (bal (ba _ _) _) _) F4
  clear F2 hb3 hb4 G2
  obtain ⟨hc4, hf4⟩ := bcell F4
  go_wp2_with fail
  exact bodyPost_ret (v := .tuple #[rv n m, .int .i64 e]) (by simp [results, Tryz.results117, go_sem, hc4]) rfl ⟨rfl, bs (bs G4 (by simp; omega) _) (by simp; omega) _⟩

theorem minusLit (a b c d : Int) (p q : Nat) (w : World) (a1 : 0 ≤ a) (a2 : a ≤ 1073741824) (b1 : 1 ≤ b) (b2 : b ≤ 1073741824) (c1 : 0 ≤ c) (c2 : c ≤ 1073741824) (d1 : 1 ≤ d) (d2 : d ≤ 1073741824)
    (k1 : w.cell? ⟨p, 0, none⟩ = some (.int .i64 a)) (k2 : w.cell? ⟨p, 1, none⟩ = some (.int .i64 b)) (k3 : w.cell? ⟨q, 0, none⟩ = some (.int .i64 c)) (k4 : w.cell? ⟨q, 1, none⟩ = some (.int .i64 d)) :
    Calls Tryz.prog 119 #[.pointer (some ⟨p, 0, none⟩), .pointer (some ⟨q, 0, none⟩)] w fun x w' => x = .returned (.tuple #[.int .i64 (a * d - c * b), .int .i64 (b * d)]) ∧ Below w.heap.size w w' := by
  obtain ⟨p1, p2⟩ := Rt.mul_bd a1 a2 c1 c2
  obtain ⟨p3, p4⟩ := Rt.mul_bd (a := b) (b := d) (by omega) b2 (by omega) d2
  obtain ⟨p5, p6⟩ := Rt.mul_bd (a := a) (b := d) (by omega) a2 (by omega) d2
  obtain ⟨p7, p8⟩ := Rt.mul_bd (a := c) (b := b) (by omega) c2 (by omega) b2
  obtain ⟨p9, p10⟩ := Rt.mul_bd (a := b) (b := c) (by omega) b2 (by omega) c2
  go_enter Tryz.func119, Tryz.ntmps119
  go_wp2
  go_quiet (fail)
  go_wp2
  go_ret2
  exact ⟨rfl, below_drewN (Below.refl _ _) _⟩

set_option maxHeartbeats 400000 in
theorem minusReckon (a b c d n m e : Int) (r1 : Rt.rightB a b = true) (r2 : Rt.rightB c d = true) (hm : Rt.mkT (a * d - c * b) (b * d) = (n, m, e)) (p q : Nat) (w : World) (hp : p < w.heap.size) (hq : q < w.heap.size)
    (k1 : w.cell? ⟨p, 0, none⟩ = some (.int .i64 a)) (k2 : w.cell? ⟨p, 1, none⟩ = some (.int .i64 b)) (k3 : w.cell? ⟨q, 0, none⟩ = some (.int .i64 c)) (k4 : w.cell? ⟨q, 1, none⟩ = some (.int .i64 d)) :
    Calls Tryz.prog 117 #[rv a b, rv c d, .func (.func 119) #[] #[.pointer (some ⟨p, 0, none⟩), .pointer (some ⟨q, 0, none⟩)]] w fun x w' => x = .returned (.tuple #[rv n m, .int .i64 e]) ∧ Below w.heap.size w w' := by
  have HM : Hid (Rt.mkT (a * d - c * b) (b * d) = (n, m, e)) := hm
  have R1 : Hid (Rt.rightB a b = true) := r1
  have R2 : Hid (Rt.rightB c d = true) := r2
  obtain ⟨a1, a2, b1, b2⟩ := Rt.right_bd r1
  obtain ⟨c1, c2, d1, d2⟩ := Rt.right_bd r2
  clear r1 r2 hm
  obtain ⟨p1, p2⟩ := Rt.mul_bd a1 a2 c1 c2
  obtain ⟨p3, p4⟩ := Rt.mul_bd (a := b) (b := d) (by omega) b2 (by omega) d2
  obtain ⟨p5, p6⟩ := Rt.mul_bd (a := a) (b := d) (by omega) a2 (by omega) d2
  obtain ⟨p7, p8⟩ := Rt.mul_bd (a := c) (b := b) (by omega) c2 (by omega) b2
  obtain ⟨p9, p10⟩ := Rt.mul_bd (a := b) (b := c) (by omega) b2 (by omega) c2
  go_enter Tryz.func117, Tryz.ntmps117
  go_wp2_with fail
  refine (right_any a b true R1.out _).mono ?_
  rintro e1 w1 ⟨rfl, hb1⟩
  obtain ⟨hc1, hf1⟩ := bcell hb1
  go_wp2_with fail
  refine (right_any c d true R2.out _).mono ?_
  rintro e2 w2 ⟨rfl, hb2⟩
  have F2 := bt hb1 hb2
  clear hc1 hf1 hb1 hb2
  have G2 := bt (bal (bal (ba _ _) _) _) F2
  go_wp2_with fail
  refine (minusLit a b c d p q _ a1 a2 b1 b2 c1 c2 d1 d2 ((G2.cell (p := ⟨p, 0, none⟩) hp).trans k1) ((G2.cell (p := ⟨p, 1, none⟩) hp).trans k2) ((G2.cell (p := ⟨q, 0, none⟩) hq).trans k3) ((G2.cell (p := ⟨q, 1, none⟩) hq).trans k4)).mono ?_
  rintro e3 w3 ⟨rfl, hb3⟩
  go_wp2_with fail
  refine (rmake_any (a * d - c * b) (b * d) n m e (by omega) (by omega) HM.out _).mono ?_
  rintro e4 w4 ⟨rfl, hb4⟩
  have F4 := bt (bt F2 hb3) hb4
  have G4 := bt (bal (bal (ba _ _) _) _) F4
  clear F2 hb3 hb4 G2
  obtain ⟨hc4, hf4⟩ := bcell F4
  go_wp2_with fail
  exact bodyPost_ret (v := .tuple #[rv n m, .int .i64 e]) (by simp [results, Tryz.results117, go_sem, hc4]) rfl ⟨rfl, bs (bs G4 (by simp; omega) _) (by simp; omega) _⟩

set_option maxHeartbeats 400000 in
theorem plus_any (a b c d n m e : Int) (h : Rt.plusT a b c d = (n, m, e)) (w : World) :
    Calls Tryz.prog 67 #[rv a b, rv c d] w fun x w' => x = .returned (.tuple #[rv n m, .int .i64 e]) ∧ Below w.heap.size w w' := by
  have H : Hid (Rt.plusT a b c d = (n, m, e)) := h
  clear h
  by_cases r : Rt.rightB a b = true ∧ Rt.rightB c d = true
  · obtain ⟨r1, r2⟩ := r
    have hm : Rt.mkT (a * d + c * b) (b * d) = (n, m, e) := by rw [← H.out]; unfold Rt.plusT; rw [if_pos ⟨r1, r2⟩]
    have HM : Hid (Rt.mkT (a * d + c * b) (b * d) = (n, m, e)) := hm
    have R1 : Hid (Rt.rightB a b = true) := r1
    have R2 : Hid (Rt.rightB c d = true) := r2
    clear hm r1 r2 H
    go_enter Tryz.func67, Tryz.ntmps67
    go_wp2_with fail
    refine (plusReckon a b c d n m e R1.out R2.out HM.out w.heap.size (w.heap.size + 1) _ (by simp <;> omega) (by simp <;> omega) (by simp [go_sem]) (by simp [go_sem]) (by simp [go_sem]) (by simp [go_sem])).mono ?_
    rintro e1 w1 ⟨rfl, hb1⟩
    have G1 := bt (bal (bal (ba _ _) _) _) hb1
    obtain ⟨hc1, hf1⟩ := bcell hb1
    go_wp2_with fail
    exact bodyPost_ret (v := .tuple #[rv n m, .int .i64 e]) (by simp [results, Tryz.results67, go_sem, hc1]) rfl ⟨rfl, bs (bs G1 (by simp; omega) _) (by simp; omega) _⟩
  · have hr : (0, 0, 2) = (n, m, e) := by rw [← H.out]; unfold Rt.plusT; rw [if_neg r]
    simp only [Prod.mk.injEq] at hr
    obtain ⟨rfl, rfl, rfl⟩ := hr
    have r' : Rt.rightB a b = false ∨ (Rt.rightB a b = true ∧ Rt.rightB c d = false) := by
      cases h1 : Rt.rightB a b <;> cases h2 : Rt.rightB c d <;> simp_all
    have R : Hid (Rt.rightB a b = false ∨ (Rt.rightB a b = true ∧ Rt.rightB c d = false)) := r'
    clear r r' H
    go_enter Tryz.func67, Tryz.ntmps67
    go_wp2_with fail
    refine (reckonNo a b c d _ R.out _).mono ?_
    rintro e1 w1 ⟨rfl, hb1⟩
    have G1 := bt (bal (bal (ba _ _) _) _) hb1
    obtain ⟨hc1, hf1⟩ := bcell hb1
    go_wp2_with fail
    exact bodyPost_ret (v := .tuple #[rv 0 0, .int .i64 2]) (by simp [results, Tryz.results67, go_sem, hc1]) rfl ⟨rfl, bs (bs G1 (by simp; omega) _) (by simp; omega) _⟩

set_option maxHeartbeats 400000 in
theorem minus_any (a b c d n m e : Int) (h : Rt.minusT a b c d = (n, m, e)) (w : World) :
    Calls Tryz.prog 66 #[rv a b, rv c d] w fun x w' => x = .returned (.tuple #[rv n m, .int .i64 e]) ∧ Below w.heap.size w w' := by
  have H : Hid (Rt.minusT a b c d = (n, m, e)) := h
  clear h
  by_cases r : Rt.rightB a b = true ∧ Rt.rightB c d = true
  · obtain ⟨r1, r2⟩ := r
    have hm : Rt.mkT (a * d - c * b) (b * d) = (n, m, e) := by rw [← H.out]; unfold Rt.minusT; rw [if_pos ⟨r1, r2⟩]
    have HM : Hid (Rt.mkT (a * d - c * b) (b * d) = (n, m, e)) := hm
    have R1 : Hid (Rt.rightB a b = true) := r1
    have R2 : Hid (Rt.rightB c d = true) := r2
    clear hm r1 r2 H
    go_enter Tryz.func66, Tryz.ntmps66
    go_wp2_with fail
    refine (minusReckon a b c d n m e R1.out R2.out HM.out w.heap.size (w.heap.size + 1) _ (by simp <;> omega) (by simp <;> omega) (by simp [go_sem]) (by simp [go_sem]) (by simp [go_sem]) (by simp [go_sem])).mono ?_
    rintro e1 w1 ⟨rfl, hb1⟩
    have G1 := bt (bal (bal (ba _ _) _) _) hb1
    obtain ⟨hc1, hf1⟩ := bcell hb1
    go_wp2_with fail
    exact bodyPost_ret (v := .tuple #[rv n m, .int .i64 e]) (by simp [results, Tryz.results66, go_sem, hc1]) rfl ⟨rfl, bs (bs G1 (by simp; omega) _) (by simp; omega) _⟩
  · have hr : (0, 0, 2) = (n, m, e) := by rw [← H.out]; unfold Rt.minusT; rw [if_neg r]
    simp only [Prod.mk.injEq] at hr
    obtain ⟨rfl, rfl, rfl⟩ := hr
    have r' : Rt.rightB a b = false ∨ (Rt.rightB a b = true ∧ Rt.rightB c d = false) := by
      cases h1 : Rt.rightB a b <;> cases h2 : Rt.rightB c d <;> simp_all
    have R : Hid (Rt.rightB a b = false ∨ (Rt.rightB a b = true ∧ Rt.rightB c d = false)) := r'
    clear r r' H
    go_enter Tryz.func66, Tryz.ntmps66
    go_wp2_with fail
    refine (reckonNo a b c d _ R.out _).mono ?_
    rintro e1 w1 ⟨rfl, hb1⟩
    have G1 := bt (bal (bal (ba _ _) _) _) hb1
    obtain ⟨hc1, hf1⟩ := bcell hb1
    go_wp2_with fail
    exact bodyPost_ret (v := .tuple #[rv 0 0, .int .i64 2]) (by simp [results, Tryz.results66, go_sem, hc1]) rfl ⟨rfl, bs (bs G1 (by simp; omega) _) (by simp; omega) _⟩

end Go.Proofs.YtlndlpjadajelaaGreat

namespace Go.Proofs.YtlndlpjadajelaaGreat
open Go.RowKit Go.Proofs.YtlndlpjadajelaaGreat.Ds

/-- a fraction in a cell of one's own -/
def Fc (b : Nat) (n m : Int) (W : World) : Prop :=
  W.cell? ⟨b, 0, none⟩ = some (.int .i64 n) ∧ W.cell? ⟨b, 1, none⟩ = some (.int .i64 m) ∧ W.frozen? ⟨b, 0, none⟩ = false ∧ W.frozen? ⟨b, 1, none⟩ = false
theorem fc_new (w : World) (n m : Int) : Fc w.heap.size n m (w.alloc (.cells #[.int .i64 n, .int .i64 m] 23)) := by
  refine ⟨?_, ?_, ?_, ?_⟩ <;> simp [go_sem]
theorem Fc.at {b : Nat} {n m : Int} {W W' : World} (h : Fc b n m W) (hb : Below W.heap.size W W') (hl : b < W.heap.size) : Fc b n m W' := by
  obtain ⟨h1, h2, h3, h4⟩ := h
  obtain ⟨hc, hf⟩ := bcell hb
  exact ⟨(hc _ 0 hl).trans h1, (hc _ 1 hl).trans h2, (hf _ 0 hl).trans h3, (hf _ 1 hl).trans h4⟩
theorem Fc.set {b : Nat} {n m : Int} {W : World} (h : Fc b n m W) (n' m' : Int) : Fc b n' m' ((W.setCell ⟨b, 0, none⟩ (.int .i64 n')).setCell ⟨b, 1, none⟩ (.int .i64 m')) := by
  obtain ⟨h1, h2, h3, h4⟩ := h
  refine ⟨(sc_other (by simp)).trans (sc_same h1), sc_same (u := .int .i64 m) ((sc_other (by simp)).trans h2), ?_, ?_⟩
  · rw [sc_frozen, sc_frozen]; exact h3
  · rw [sc_frozen, sc_frozen]; exact h4
theorem Fc.beside {b b' : Nat} {n m : Int} {W : World} (h : Fc b n m W) (hne : b ≠ b') (o : Nat) (u : Value) : Fc b n m (W.setCell ⟨b', o, none⟩ u) := by
  obtain ⟨h1, h2, h3, h4⟩ := h
  refine ⟨(sc_other (by simp)).trans h1, (sc_other (by simp)).trans h2, ?_, ?_⟩
  · rw [sc_frozen]; exact h3
  · rw [sc_frozen]; exact h4

theorem hide_alive : hideT 2 1 0 1 0 = ([([0], 2), ([1], 1)], 0) := by decide

theorem alive_any (w : World) : Calls Tryz.prog 11 #[] w fun x w' => x = .returned (.bool true) ∧ Below w.heap.size w w' := by
  have kc := hide_fr 2 1 0 1 0 _ 0 hide_alive
  go_enter Tryz.func11, Tryz.ntmps11
  go_wp2_with fail
  refine (kc _).mono ?_
  rintro x w1 ⟨v, us, rfl, hr, ho, hb, _⟩
  clear kc
  obtain ⟨a, c, rfl⟩ := ho.slice
  have hl : us.length = 2 := by have := congrArg List.length hr; simpa [rd] using this
  have hbw : Below w.heap.size w w1 := hb
  rw [hl]
  clear hr ho hl
  go_wp2
  go_ret
  exact ⟨rfl, hbw⟩
end Go.Proofs.YtlndlpjadajelaaGreat
