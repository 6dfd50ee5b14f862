import Derived.Test.YtkpjjiomfgkobaaTbs
import Derived.BigRegion
namespace Go.Proofs.Ytkpjjiomfgkobaa
open Go.RowKit Go.Shelf Go.Proofs.Ytkpjjiomfgkobaa.Ds

theorem Ints.kpt {K : Nat → Prop} {w w' : World} {B nb : Nat} {v : Value} {xs : List Int} (h : Ints w B nb v xs) (k : Kpt K w w') (ha : Adr K v) : Ints w' B nb v xs := by
  obtain ⟨a, c, hv, hc, hl, hx⟩ := h
  refine ⟨a, c, hv, hc, hl, fun hne => ?_⟩
  obtain ⟨b, o, e, hb, hn, hcell⟩ := hx hne
  have hKb : K b := ha b o _ _ (by rw [hv, e])
  exact ⟨b, o, e, hb, hn, fun i x hi => (World.cell?_of_block (w := w) (a := ⟨b, o + i, none⟩) (k.same _ hKb)).trans (hcell i x hi)⟩
theorem Rws.kpt {K : Nat → Prop} {w w' : World} {B : Nat} {v : Value} {ts : List Rw} (h : Rws w B v ts) (k : Kpt K w w') (ha : AdrR K v ts) : Rws w' B v ts := by
  obtain ⟨a, c, hv, hc, hl, hi, hx⟩ := h
  refine ⟨a, c, hv, hc, hl, fun t ht => (hi t ht).kpt k (ha.2 t ht), fun hne => ?_⟩
  obtain ⟨b, o, e, hb, hcell⟩ := hx hne
  have hKb : K b := ha.1 b o _ _ (by rw [hv, e])
  exact ⟨b, o, e, hb, fun i t ht => (World.cell?_of_block (w := w) (a := ⟨b, o + i, none⟩) (k.same _ hKb)).trans (hcell i t ht)⟩
theorem boxed_kpt {K : Nat → Prop} {w w' : World} {B : Nat} {t : TypeId} {v : Value} (h : Boxed w B t v) (k : Kpt K w w') (hB : K B) : Boxed w' B t v := (k.same B hB).trans h

set_option maxRecDepth 100000 in
set_option maxHeartbeats 8000000 in
theorem near38_any (ob nob kB lB K0 N n0 lb lo lc : Nat) (lra : Option Addr) (lrc : Nat) (cv rv : Value) (lx : List Col) (ts us : List Rw) (w : World) (h1 : Boxed w ob 4 (.bool true)) (h2 : Boxed w nob 4 (.bool false)) (h3 : Boxed w kB 3 (.int .i64 (K0 : Int))) (h4 : Boxed w lB 39 (.slice (some ⟨lb, lo, none⟩) N lc))
    (hKN : K0 < N) (hN : N ≤ 8192) (d1 : ob ≠ nob) (d2 : ob ≠ kB) (d3 : nob ≠ kB) (d4 : lB ≠ ob ∧ lB ≠ nob ∧ lB ≠ kB) (d5 : lb ≠ ob ∧ lb ≠ nob ∧ lb ≠ kB) (hl : lb < w.heap.size)
    (hx : Cols w w.heap.size cv lx) (hr : Rws w w.heap.size rv ts) (hra : AdrR (fun b => b < w.heap.size ∧ b ≠ ob) rv ts)
    (e1 : w.cell? ⟨lb, lo + K0 * 2 + 1, none⟩ = some (.slice lra us.length lrc)) (hu : Rws w w.heap.size (.slice lra us.length lrc) us) (hua : AdrR (fun b => b < w.heap.size ∧ b ≠ ob) (.slice lra us.length lrc) us)
    (hsame : rr ts = rr us) (n1 : n0 ≤ ob) (n2 : n0 ≤ nob) (n3 : n0 ≤ kB) :
    Calls Try.prog 38 #[.agg #[cv, rv], .pointer (some ⟨ob, 0, none⟩), .pointer (some ⟨nob, 0, none⟩), .pointer (some ⟨kB, 0, none⟩), .pointer (some ⟨lB, 0, none⟩)] w fun e w' =>
      e = .returned (.bool (decide (¬ N / 2 < K0 + 1))) ∧ Boxed w' ob 4 (.bool true) ∧ Boxed w' nob 4 (.bool (decide (N / 2 < K0 + 1))) ∧ Boxed w' kB 3 (.int .i64 ((K0 + 1 : Nat) : Int)) ∧ Kpt (fun b => b < w.heap.size ∧ b ≠ ob ∧ b ≠ nob ∧ b ≠ kB) w w' ∧ Below n0 w w' := by
  have hlen : ts.length = us.length := by rw [← rr_len ts, hsame, rr_len]
  have HSM : Hid (rr ts = rr us) := hsame
  rw [← hlen] at e1 hu hua
  have HR : Hid (Rws w w.heap.size rv ts) := hr
  have HRA : Hid (AdrR (fun b => b < w.heap.size ∧ b ≠ ob) rv ts) := hra
  have HU : Hid (Rws w w.heap.size (.slice lra ts.length lrc) us) := hu
  have HUA : Hid (AdrR (fun b => b < w.heap.size ∧ b ≠ ob) (.slice lra ts.length lrc) us) := hua
  have HLN : Hid (ts.length = us.length) := hlen
  obtain ⟨a, c, rfl, hc, hl2⟩ := hr.slice
  obtain ⟨a3, c3, rfl, _, _⟩ := hx.slice
  obtain ⟨Wx, hWx⟩ : ∃ Wx, w.alloc (.cells #[.slice a3 lx.length c3, .slice a ts.length c] 25) = Wx := ⟨_, rfl⟩
  have hbx : Below w.heap.size w Wx := by rw [← hWx]; exact ba _ _
  have hzx : Wx.heap.size = w.heap.size + 1 := by rw [← hWx]; simp
  have kx : Kpt (fun b => b < w.heap.size) w Wx := Kpt.of_below hbx fun _ h => h
  have x1 := (boxed_kpt h1 kx h1.lt).cell
  have x2 := (boxed_kpt h1 kx h1.lt).frozen
  have x3 := (boxed_kpt h2 kx h2.lt).cell
  have x4 := (boxed_kpt h3 kx h3.lt).cell
  have x5 := (boxed_kpt h4 kx h4.lt).cell
  have x6 := (hbx.cell (p := ⟨lb, lo + K0 * 2 + 1, none⟩) hl).trans e1
  have hX : TwoB Wx w.heap.size (.slice a3 lx.length c3) (.slice a ts.length c) := by rw [← hWx]; exact TwoB.new _ _ _ _ _ rfl
  have x7 := hX.c1
  have HX : Hid (TwoB Wx w.heap.size (.slice a3 lx.length c3) (.slice a ts.length c)) := hX
  have z1 : (K0 : Int) < (N : Int) := by omega
  have HB1 : Hid (Boxed w ob 4 (.bool true) ∧ Boxed w nob 4 (.bool false) ∧ Boxed w kB 3 (.int .i64 (K0 : Int)) ∧ Boxed w lB 39 (.slice (some ⟨lb, lo, none⟩) N lc)) := ⟨h1, h2, h3, h4⟩
  have lob := h1.lt
  have lnb := h2.lt
  have lkb := h3.lt
  have llb := h4.lt
  clear hsame hlen hu hua hr hra hx e1 h1 h2 h3 h4 hX
  go_enter Try.func38, Try.ntmps38
  go_wp2_with fail
  clear hWx
  go_region
  have kset : ∀ (A : World), Kpt (fun b => b < Wx.heap.size ∧ b ≠ ob) Wx A → Boxed A ob 4 (.bool true) → Below n0 Wx A →
      Kpt (fun b => b < Wx.heap.size ∧ b ≠ ob) Wx (A.setCell ⟨ob, 0, none⟩ (.bool true)).drew ∧ Boxed (A.setCell ⟨ob, 0, none⟩ (.bool true)).drew ob 4 (.bool true) ∧ Below n0 Wx (A.setCell ⟨ob, 0, none⟩ (.bool true)).drew := by
    intro A h1 h2 h3
    refine ⟨h1.trans ⟨by simp, fun b hb => ?_⟩, Boxed.set _ h2, (h3.setCell (p := ⟨ob, 0, none⟩) n1 _).drew⟩
    exact Below.heap_setCell _ _ _ _ (by intro e; exact hb.2 e)
  have hbx1 : Boxed Wx ob 4 (.bool true) := boxed_kpt HB1.out.1 kx lob
  obtain ⟨V, hV⟩ : ∃ V, (Wx.setCell ⟨ob, 0, none⟩ (.bool true)).drew = V := ⟨_, rfl⟩
  have hk := kset Wx (Kpt.refl _ _) hbx1 (Below.refl _ _)
  rw [hV] at hk ⊢
  have HKV : Hid (Kpt (fun b => b < Wx.heap.size ∧ b ≠ ob) Wx V) := hk.1
  have HBV : Hid (Boxed V ob 4 (.bool true)) := hk.2.1
  have hbV : Below n0 Wx V := hk.2.2
  have HKS : Hid (∀ (A : World), Kpt (fun b => b < Wx.heap.size ∧ b ≠ ob) Wx A → Boxed A ob 4 (.bool true) → Below n0 Wx A →
      Kpt (fun b => b < Wx.heap.size ∧ b ≠ ob) Wx (A.setCell ⟨ob, 0, none⟩ (.bool true)).drew ∧ Boxed (A.setCell ⟨ob, 0, none⟩ (.bool true)).drew ob 4 (.bool true) ∧ Below n0 Wx (A.setCell ⟨ob, 0, none⟩ (.bool true)).drew) := kset
  have cl : ∀ (A : World), Kpt (fun b => b < Wx.heap.size ∧ b ≠ ob) Wx A → ∀ b k v, b < Wx.heap.size → b ≠ ob → Wx.cell? ⟨b, k, none⟩ = some v → A.cell? ⟨b, k, none⟩ = some v :=
    fun A h b k v h1 h2 h3 => (World.cell?_of_block (w := Wx) (a := ⟨b, k, none⟩) (h.same b ⟨h1, h2⟩)).trans h3
  have y7 := cl V HKV.out _ _ _ (by omega) (by omega) x7
  clear hk kset hV x1 x2
  have HRx : Hid (Rws Wx w.heap.size (.slice a ts.length c) ts) := HR.out.at (Nat.le_refl _) hbx
  have HUx : Hid (Rws Wx w.heap.size (.slice lra ts.length lrc) us) := HU.out.at (Nat.le_refl _) hbx
  go_wp2
  go_loopw [35] (fun s wr => ∃ (i : Nat), s = .int .i64 (i : Int) ∧ i ≤ ts.length ∧ Hid (Kpt (fun b => b < Wx.heap.size ∧ b ≠ ob) Wx wr) ∧ Hid (Boxed wr ob 4 (.bool true)) ∧ Below n0 Wx wr) (fun s _ => ts.length - (intOf s).toNat)
  case atStart => exact ⟨0, rfl, Nat.zero_le _, HKV, HBV, hbV⟩
  case round =>
    obtain ⟨i, rfl, hi, HK, HB, hbl⟩ := hrel
    have y7 := cl wr HK.out _ _ _ (by omega) (by omega) x7
    by_cases hi1 : i < ts.length
    · have hadr : AdrR (fun b => b < Wx.heap.size ∧ b ≠ ob) (.slice a ts.length c) ts := HRA.out.imp fun b h => ⟨by omega, h.2⟩
      have hadu : AdrR (fun b => b < Wx.heap.size ∧ b ≠ ob) (.slice lra ts.length lrc) us := HUA.out.imp fun b h => ⟨by omega, h.2⟩
      obtain ⟨b, o, sa, sc, xs, rfl, hb, hg, c1, hI⟩ := HRx.out.get (by omega) (Below.refl _ _) hi1
      obtain ⟨b2, o2, sa2, sc2, ys, rfl, hb2, hg2, c2, hI2⟩ := HUx.out.get (by omega) (Below.refl _ _) (i := i) (by have := HLN.out; omega)
      have hxy : xs = ys := by
        have h := rr_get hg
        rw [HSM.out, rr_get hg2] at h
        exact (Option.some.inj h).symm
      subst hxy
      have hb' : b ≠ ob := (hadr.1 b o _ _ rfl).2
      have hb2' : b2 ≠ ob := (hadu.1 b2 o2 _ _ rfl).2
      have HII : Hid (Ints Wx w.heap.size w.heap.size (.slice sa xs.length sc) xs) := hI
      have HII2 : Hid (Ints Wx w.heap.size w.heap.size (.slice sa2 xs.length sc2) xs) := hI2
      have HIA : Hid (Adr (fun b => b < Wx.heap.size ∧ b ≠ ob) (.slice sa xs.length sc)) := hadr.2 _ (List.mem_of_getElem? hg)
      have HIA2 : Hid (Adr (fun b => b < Wx.heap.size ∧ b ≠ ob) (.slice sa2 xs.length sc2)) := hadu.2 _ (List.mem_of_getElem? hg2)
      have v1 := cl wr HK.out _ _ _ (by omega) hb' c1
      have hxl : xs.length ≤ 9223372036854775807 := by obtain ⟨_, _, _, _, h⟩ := hI.slice; exact h
      clear hg hg2 hI hI2 hadr hadu
      go_wp2
      obtain ⟨wq, hwq⟩ : ∃ wq : World, wq = wr := ⟨_, rfl⟩
      subst hwq
      go_loopw [44] (fun s wr => ∃ (j : Nat), s = .int .i64 (j : Int) ∧ j ≤ xs.length ∧ Hid (Kpt (fun b => b < Wx.heap.size ∧ b ≠ ob) Wx wr) ∧ Hid (Boxed wr ob 4 (.bool true)) ∧ Below n0 Wx wr) (fun s _ => xs.length - (intOf s).toNat)
      case atStart => exact ⟨0, rfl, Nat.zero_le _, HK, HB, hbl⟩
      case round =>
        obtain ⟨j, rfl, hj, HK2, HB2, hbl2⟩ := hrel
        by_cases hj1 : j < xs.length
        · obtain ⟨b3, o3, x, rfl, hb3, _, hg3, f1⟩ := HII.out.get (by omega) (Below.refl _ _) hj1
          obtain ⟨b4, o4, y, rfl, hb4, _, hg4, f2⟩ := HII2.out.get (by omega) (Below.refl _ _) hj1
          have hxy : y = x := by rw [hg3] at hg4; exact (Option.some.inj hg4).symm
          subst hxy
          have hb3' : b3 ≠ ob := (HIA.out b3 o3 _ _ rfl).2
          have hb4' : b4 ≠ ob := (HIA2.out b4 o4 _ _ rfl).2
          have u1 := HB2.out.cell
          have u2 := HB2.out.frozen
          have u3 := cl wr HK2.out _ _ _ (by omega) (by omega) x4
          have u4 := cl wr HK2.out _ _ _ (by omega) d4.1 x5
          have u5 := cl wr HK2.out _ _ _ (by omega) d5.1 x6
          have u6 := cl wr HK2.out _ _ _ (by omega) hb2' c2
          have u7 := cl wr HK2.out _ _ _ (by omega) hb4' f2
          have u8 := cl wr HK2.out _ _ _ (by omega) (by omega) x7
          have u9 := cl wr HK2.out _ _ _ (by omega) hb' c1
          have u10 := cl wr HK2.out _ _ _ (by omega) hb3' f1
          have zi : (i : Int) < (ts.length : Int) := by omega
          have zj : (j : Int) < (xs.length : Int) := by omega
          have hk := HKS.out wr HK2.out HB2.out hbl2
          have HK3 : Hid (Kpt (fun b => b < Wx.heap.size ∧ b ≠ ob) Wx (wr.setCell ⟨ob, 0, none⟩ (.bool true)).drew) := hk.1
          have HB3 : Hid (Boxed (wr.setCell ⟨ob, 0, none⟩ (.bool true)).drew ob 4 (.bool true)) := hk.2.1
          have hbl3 := hk.2.2
          clear hk hg3 hg4 f1 f2 cl
          go_wp2
          go_region
          go_wp2
          go_roundw
          case rel => exact ⟨j + 1, by go_num, hj1, HK3, HB3, hbl3⟩
          case measure => simp [intOf]; omega
        · go_wp2
          go_roundw
          case rel => exact ⟨i + 1, by go_num, hi1, HK2, HB2, hbl2⟩
          case measure => simp [intOf]; omega
    · have u1 := cl wr HK.out _ _ _ (by omega) (fun e => d2 e.symm) x4
      have u2 := cl wr HK.out _ _ _ (by omega) d4.1 x5
      have u3 : wr.frozen? ⟨kB, 0, none⟩ = false := (World.frozen?_of_block (w := Wx) (a := ⟨kB, 0, none⟩) (HK.out.same kB ⟨by omega, fun e => d2 e.symm⟩)).trans (boxed_kpt HB1.out.2.2.1 kx lkb).frozen
      have u4 := cl wr HK.out _ _ _ (by omega) (fun e => d1 e.symm) x3
      have u5 : wr.frozen? ⟨nob, 0, none⟩ = false := (World.frozen?_of_block (w := Wx) (a := ⟨nob, 0, none⟩) (HK.out.same nob ⟨by omega, fun e => d1 e.symm⟩)).trans (boxed_kpt HB1.out.2.1 kx lnb).frozen
      have hqo : ∀ u : World, (binOp .quo 3 (.int .i64 (N : Int)) (.int .i64 2)).run Try.prog u = .ok (.int .i64 ((N / 2 : Nat) : Int)) u := fun u => by
        have q1 : (N : Int).tdiv 2 = ((N / 2 : Nat) : Int) := by rw [Int.tdiv_eq_ediv_of_nonneg (by omega)]; exact (Int.natCast_ediv _ _).symm
        have q2 : IntKind.i64.wrap ((N / 2 : Nat) : Int) = ((N / 2 : Nat) : Int) := by rw [IntKind.wrap_i64]; omega
        simp only [go_sem, Op.intDiv, q1, q2]
        simp
      have hk1 : Boxed wr kB 3 (.int .i64 (K0 : Int)) := boxed_kpt (boxed_kpt HB1.out.2.2.1 kx lkb) HK.out ⟨by omega, fun e => d2 e.symm⟩
      have hk2 : Boxed wr nob 4 (.bool false) := boxed_kpt (boxed_kpt HB1.out.2.1 kx lnb) HK.out ⟨by omega, fun e => d1 e.symm⟩
      have hdec : decide ((N : Int) / 2 < (K0 : Int) + 1) = decide (N / 2 < K0 + 1) := by
        rw [Bool.eq_iff_iff, decide_eq_true_iff, decide_eq_true_iff]; omega
      have hk0 : ((K0 : Int) + 1) = ((K0 + 1 : Nat) : Int) := by omega
      have hg1 : wr.grownBy (wr.setCell ⟨kB, 0, none⟩ (.int .i64 ((K0 + 1 : Nat) : Int))) (some kB) := gb_set (gb_refl _ _) 0 _
      have hg2 : (wr.setCell ⟨kB, 0, none⟩ (.int .i64 ((K0 + 1 : Nat) : Int))).grownBy ((wr.setCell ⟨kB, 0, none⟩ (.int .i64 ((K0 + 1 : Nat) : Int))).setCell ⟨nob, 0, none⟩ (.bool (decide (N / 2 < K0 + 1)))) (some nob) := gb_set (gb_refl _ _) 0 _
      have r1 : Boxed ((wr.setCell ⟨kB, 0, none⟩ (.int .i64 ((K0 + 1 : Nat) : Int))).setCell ⟨nob, 0, none⟩ (.bool (decide (N / 2 < K0 + 1)))) ob 4 (.bool true) := (HB.out.kept hg1 (by simpa using d2)).kept hg2 (by simpa using d1)
      have r2 : Boxed ((wr.setCell ⟨kB, 0, none⟩ (.int .i64 ((K0 + 1 : Nat) : Int))).setCell ⟨nob, 0, none⟩ (.bool (decide (N / 2 < K0 + 1)))) nob 4 (.bool (decide (N / 2 < K0 + 1))) := Boxed.set _ (hk2.kept hg1 (by simpa using d3))
      have r3 : Boxed ((wr.setCell ⟨kB, 0, none⟩ (.int .i64 ((K0 + 1 : Nat) : Int))).setCell ⟨nob, 0, none⟩ (.bool (decide (N / 2 < K0 + 1)))) kB 3 (.int .i64 ((K0 + 1 : Nat) : Int)) := (Boxed.set _ hk1).kept hg2 (by simpa using fun e => d3 e.symm)
      have hws := HK.out.size
      have r4 : Kpt (fun b => b < w.heap.size ∧ b ≠ ob ∧ b ≠ nob ∧ b ≠ kB) w ((wr.setCell ⟨kB, 0, none⟩ (.int .i64 ((K0 + 1 : Nat) : Int))).setCell ⟨nob, 0, none⟩ (.bool (decide (N / 2 < K0 + 1)))) := by
        refine (kx.imp fun b h => h.1).trans ((HK.out.imp fun b h => ⟨by omega, h.2.1⟩).trans ((Kpt.of_gb hg1 fun b h => ⟨by omega, by simp; exact fun e => h.2.2.2 e.symm⟩).trans (Kpt.of_gb hg2 fun b h => ⟨by simp; omega, by simp; exact fun e => h.2.2.1 e.symm⟩)))
      have r5 : Below n0 w ((wr.setCell ⟨kB, 0, none⟩ (.int .i64 ((K0 + 1 : Nat) : Int))).setCell ⟨nob, 0, none⟩ (.bool (decide (N / 2 < K0 + 1)))) := (((hbx.mono (by omega)).trans hbl).setCell (p := ⟨kB, 0, none⟩) n3 _).setCell (p := ⟨nob, 0, none⟩) n2 _
      have HRES : Hid (Boxed ((wr.setCell ⟨kB, 0, none⟩ (.int .i64 ((K0 + 1 : Nat) : Int))).setCell ⟨nob, 0, none⟩ (.bool (decide (N / 2 < K0 + 1)))) ob 4 (.bool true) ∧ Boxed ((wr.setCell ⟨kB, 0, none⟩ (.int .i64 ((K0 + 1 : Nat) : Int))).setCell ⟨nob, 0, none⟩ (.bool (decide (N / 2 < K0 + 1)))) nob 4 (.bool (decide (N / 2 < K0 + 1))) ∧ Boxed ((wr.setCell ⟨kB, 0, none⟩ (.int .i64 ((K0 + 1 : Nat) : Int))).setCell ⟨nob, 0, none⟩ (.bool (decide (N / 2 < K0 + 1)))) kB 3 (.int .i64 ((K0 + 1 : Nat) : Int)) ∧ Kpt (fun b => b < w.heap.size ∧ b ≠ ob ∧ b ≠ nob ∧ b ≠ kB) w ((wr.setCell ⟨kB, 0, none⟩ (.int .i64 ((K0 + 1 : Nat) : Int))).setCell ⟨nob, 0, none⟩ (.bool (decide (N / 2 < K0 + 1)))) ∧ Below n0 w ((wr.setCell ⟨kB, 0, none⟩ (.int .i64 ((K0 + 1 : Nat) : Int))).setCell ⟨nob, 0, none⟩ (.bool (decide (N / 2 < K0 + 1))))) := ⟨r1, r2, r3, r4, r5⟩
      have HDE : Hid (decide ((N : Int) / 2 < (K0 : Int) + 1) = decide (N / 2 < K0 + 1) ∧ ((K0 : Int) + 1) = ((K0 + 1 : Nat) : Int)) := ⟨hdec, hk0⟩
      clear r1 r2 r3 r4 r5 hg1 hg2 hdec hk0
      go_wp2
      rw [HDE.out.1, HDE.out.2]
      go_ret
      exact ⟨ret_b (by rw [decide_not]), HRES.out⟩
end Go.Proofs.Ytkpjjiomfgkobaa
