import Derived.Test.YthmkbkombjhaeaaQw25
import Derived.Test.YthmkbkombjhaeaaQw22
import Derived.Deep.RegionHeld3
namespace Go.Proofs.Ythmkbkombjhaeaa
open Go.RowKit Go.Proofs.Ythmkbkombjhaeaa.Ds

/-- ORDERS IN MEMORY -/
structure Ord (w : World) (ob gf gg gc : Nat) (u d : Int) (s : List Nat) (g : List Bool) (ch : List Int) : Prop where
  c0 : w.cell? ⟨ob, 0, none⟩ = some (.int .i64 u)
  c1 : w.cell? ⟨ob, 1, none⟩ = some (.int .i64 d)
  c2 : w.cell? ⟨ob, 2, none⟩ = some (.slice (some ⟨gf, 0, none⟩) s.length s.length)
  c3 : w.cell? ⟨ob, 3, none⟩ = some (.slice (some ⟨gg, 0, none⟩) s.length s.length)
  c4 : w.cell? ⟨ob, 4, none⟩ = some (.slice (some ⟨gc, 0, none⟩) s.length s.length)
  far : ∀ i m, s[i]? = some m → w.cell? ⟨gf, i, none⟩ = some (.int .i64 ((m : Nat) : Int))
  rb : RowB w gg g
  ri : RowI w gc ch
  lo : ob < w.heap.size
  lf : gf < w.heap.size
  n1 : ob ≠ gg
  n2 : ob ≠ gc
  n3 : gf ≠ gg
  n4 : gf ≠ gc
  n5 : gg ≠ gc
  lg : g.length = s.length
  lc : ch.length = s.length
theorem Ord.keep {w w' : World} {ob gf gg gc : Nat} {u d : Int} {s : List Nat} {g : List Bool} {ch : List Int} (h : Ord w ob gf gg gc u d s g ch) (hb : Below w.heap.size w w') : Ord w' ob gf gg gc u d s g ch := by
  have k : ∀ o, w'.cell? ⟨ob, o, none⟩ = w.cell? ⟨ob, o, none⟩ := fun o => hb.cell (p := ⟨ob, o, none⟩) h.lo
  exact ⟨(k _).trans h.c0, (k _).trans h.c1, (k _).trans h.c2, (k _).trans h.c3, (k _).trans h.c4, fun i m hi => (hb.cell (p := ⟨gf, i, none⟩) h.lf).trans (h.far i m hi), h.rb.keep hb h.rb.lt, h.ri.keep hb h.ri.lt, Nat.lt_of_lt_of_le h.lo hb.size, Nat.lt_of_lt_of_le h.lf hb.size, h.n1, h.n2, h.n3, h.n4, h.n5, h.lg, h.lc⟩
theorem Ord.setC {w : World} {ob gf gg gc : Nat} {u d : Int} {s : List Nat} {g : List Bool} {ch : List Int} (h : Ord w ob gf gg gc u d s g ch) (k : Nat) (y : Int) : Ord (w.setCell ⟨gc, k, none⟩ (.int .i64 y)) ob gf gg gc u d s g (ch.set k y) := by
  have k1 : ∀ o, (w.setCell ⟨gc, k, none⟩ (.int .i64 y)).cell? ⟨ob, o, none⟩ = w.cell? ⟨ob, o, none⟩ := fun o => sc_other (fun e => h.n2 (congrArg Addr.block e).symm)
  exact ⟨(k1 _).trans h.c0, (k1 _).trans h.c1, (k1 _).trans h.c2, (k1 _).trans h.c3, (k1 _).trans h.c4, fun i m hi => by rw [sc_other (fun e => h.n4 (congrArg Addr.block e).symm)]; exact h.far i m hi, h.rb.beside (fun e => h.n5 e.symm) _, h.ri.set k y, by simpa using h.lo, by simpa using h.lf, h.n1, h.n2, h.n3, h.n4, h.n5, h.lg, by simpa using h.lc⟩
theorem Ord.setG {w : World} {ob gf gg gc : Nat} {u d : Int} {s : List Nat} {g : List Bool} {ch : List Int} (h : Ord w ob gf gg gc u d s g ch) (k : Nat) (y : Bool) : Ord (w.setCell ⟨gg, k, none⟩ (.bool y)) ob gf gg gc u d s (g.set k y) ch := by
  have k1 : ∀ o, (w.setCell ⟨gg, k, none⟩ (.bool y)).cell? ⟨ob, o, none⟩ = w.cell? ⟨ob, o, none⟩ := fun o => sc_other (fun e => h.n1 (congrArg Addr.block e).symm)
  exact ⟨(k1 _).trans h.c0, (k1 _).trans h.c1, (k1 _).trans h.c2, (k1 _).trans h.c3, (k1 _).trans h.c4, fun i m hi => by rw [sc_other (fun e => h.n3 (congrArg Addr.block e).symm)]; exact h.far i m hi, h.rb.set k y, h.ri.beside h.n5 _, by simpa using h.lo, by simpa using h.lf, h.n1, h.n2, h.n3, h.n4, h.n5, by simpa using h.lg, h.lc⟩

/-- no more than there are ways -/
def Few (u c : Int) (s : List Nat) (g : List Bool) (ch : List Int) : Prop := ∀ i, i < s.length → 0 ≤ ch.getD i 0 ∧ ch.getD i 0 + c * wayL u s (Ps.lefL g s.length) ≤ 1073741824

set_option maxHeartbeats 2000000 in
set_option maxRecDepth 100000 in
theorem next_any (u d : Int) (hd : 1 ≤ d) (hu : d ≤ u) (hu2 : u ≤ 1073741824) (s : List Nat) (hs : s.length ≤ 8) (hm : ∀ m ∈ s, m ≤ 64) (be : Nat) (hbe : s.getD be 0 = 0) (hbn : be < s.length) (lo ob gf gg gc : Nat) (hlo : lo ≤ gg) (hlo2 : lo ≤ gc) :
    ∀ (m : Nat) (w : World) (g : List Bool) (ch : List Int) (c Wy mi : Int), mi = (m : Int) → (Ps.lefL g s.length).length = m → 1 ≤ c → Ord w ob gf gg gc u d s g ch → g.getD be false = false → Few u c s g ch → c * wayL u s (Ps.lefL g s.length) = Wy →
    Calls Try.prog 32 #[.pointer (some ⟨ob, 0, none⟩), .int .i64 mi, .int .i64 Wy] w fun e w' => e = .returned (.tuple #[]) ∧ Ord w' ob gf gg gc u d s g (adT ch (fun i => c * Ps.incI (upW u s) (upW d s) i (Ps.lefL g s.length)) s.length) ∧ Below lo w w' := by
  intro m
  induction m with
  | zero =>
    intro w g ch c Wy mi _ hlen _ ho hg
    have := List.length_eq_zero_iff.1 hlen
    have hmem : be ∈ Ps.lefL g s.length := Ps.lef_mem.2 ⟨hbn, hg⟩
    rw [this] at hmem
    cases hmem
  | succ m ih =>
    intro w g ch c Wy mi hmi hlen hc ho hg hfew hWy
    have HLen : Hid ((Ps.lefL g s.length).length = m + 1) := hlen
    have HO : Hid (Ord w ob gf gg gc u d s g ch) := ho
    have HG : Hid (g.getD be false = false) := hg
    have HFew : Hid (Few u c s g ch) := hfew
    have HM : Hid (∀ m ∈ s, m ≤ 64) := hm
    have HBe : Hid (s.getD be 0 = 0) := hbe
    have IH : Hid (∀ (w : World) (g : List Bool) (ch : List Int) (c Wy mi : Int), mi = (m : Int) → (Ps.lefL g s.length).length = m → 1 ≤ c → Ord w ob gf gg gc u d s g ch → g.getD be false = false → Few u c s g ch → c * wayL u s (Ps.lefL g s.length) = Wy →
      Calls Try.prog 32 #[.pointer (some ⟨ob, 0, none⟩), .int .i64 mi, .int .i64 Wy] w fun e w' => e = .returned (.tuple #[]) ∧ Ord w' ob gf gg gc u d s g (adT ch (fun i => c * Ps.incI (upW u s) (upW d s) i (Ps.lefL g s.length)) s.length) ∧ Below lo w w') := ih
    obtain ⟨E, hE⟩ : ∃ E, c * eachL u s (Ps.lefL g s.length) = E := ⟨_, rfl⟩
    have HE : Hid (c * eachL u s (Ps.lefL g s.length) = E) := hE
    have HWy : Hid (Wy = ((m + 1 : Nat) : Int) * E) := by
      show Wy = _
      rw [← hWy, ← hE, way_each (by omega), hlen, Int.mul_left_comm]
    have HWy2 : Hid (c * wayL u s (Ps.lefL g s.length) = Wy) := hWy
    have e1 : 1 ≤ E := by rw [← hE]; exact mul1 hc (each1 (by omega) _ _)
    have wy1 : 0 ≤ Wy := by rw [HWy.out]; exact Int.mul_nonneg (by omega) (by omega)
    have wy2 : Wy ≤ 1073741824 := by have := (hfew be hbn); rw [hWy] at this; omega
    have e2 : E ≤ Wy := by
      have := Int.mul_le_mul_of_nonneg_right (show (1 : Int) ≤ ((m + 1 : Nat) : Int) by omega) (show 0 ≤ E by omega)
      rw [HWy.out]; omega
    have hq : Wy / mi = E := by
      rw [HWy.out, hmi]; exact Int.mul_ediv_cancel_left _ (by omega)
    have hm8 : m + 1 ≤ 8 := by
      have h1 : (Ps.lefL g s.length).length ≤ (List.range s.length).length := List.length_filter_le _ _
      rw [hlen, List.length_range] at h1
      omega
    have mi1 : 1 ≤ mi := by omega
    have mi8 : mi ≤ 8 := by omega
    have HMi : Hid (mi - 1 = (m : Int)) := by show _ = _; omega
    have k2 := ho.c2
    have l1 := ho.lo
    clear hlen ho hg hfew hm hbe ih hE hWy hmi
    go_enter Try.func32, Try.ntmps32
    go_wp2
    rw [hq]
    clear hq
    go_loopw [19] (fun i wr => ∃ k : Nat, k ≤ s.length ∧ i = .int .i64 (k : Int) ∧ Hid (Ord wr ob gf gg gc u d s g (adT ch (accF u d c s g (Ps.lefL g s.length) k) s.length)) ∧ Below lo w wr) (fun i _ => s.length - (intOf i).toNat)
    case atStart => exact ⟨0, Nat.zero_le _, rfl, by show Ord _ _ _ _ _ _ _ _ _ _; rw [ad_zero HO.out.lc fun i _ => acc_zero ..]; exact HO.out, Below.refl _ _⟩
    case round =>
      obtain ⟨k, hk, rfl, HR, hbl⟩ := hrel
      by_cases h1 : k < s.length
      · obtain ⟨mk, hmk⟩ := get_lt h1
        have f1 := HR.out.far k mk hmk
        obtain ⟨q, hqk⟩ := get_lt (l := g) (i := k) (by rw [HR.out.lg]; exact h1)
        have f2 := HR.out.rb.cells k q hqk
        have f3 := HR.out.c3
        have HGk : Hid (g.getD k false = q) := by show _ = _; simp [List.getD, hqk]
        cases q with
        | true =>
          have HR2 : Hid (Ord wr ob gf gg gc u d s g (adT ch (accF u d c s g (Ps.lefL g s.length) (k + 1)) s.length)) := by
            show Ord _ _ _ _ _ _ _ _ _ _
            rw [ad_congr fun i _ => acc_gone HGk.out i]
            exact HR.out
          clear hmk hqk
          go_wp2
          go_roundw
          case rel => exact ⟨k + 1, h1, by go_num, HR2, hbl⟩
          case measure => simp [intOf]; omega
        | false =>
          have hmem : k ∈ Ps.lefL g s.length := Ps.lef_mem.2 ⟨h1, HGk.out⟩
          obtain ⟨Y, hY⟩ : ∃ Y, c * lessL u s (Ps.lefL g s.length) k = Y := ⟨_, rfl⟩
          obtain ⟨Uk, hUk⟩ : ∃ x, upW u s k = x := ⟨_, rfl⟩
          obtain ⟨Dk, hDk⟩ : ∃ x, upW d s k = x := ⟨_, rfl⟩
          have R1 : Rnd1 u d c s g s.length k E Y Uk Dk := ⟨hmem, HE.out, hY, hUk, hDk⟩
          have HR1 : Hid (Rnd1 u d c s g s.length k E Y Uk Dk) := R1
          obtain ⟨y1, d1, d2, u1, y2, yd1, yd2⟩ := R1.bds hd hu hc
          have hquo := R1.quo
          have hmk64 := HM.out mk (List.mem_of_getElem? hmk)
          have egk : s.getD k 0 = mk := by simp [List.getD, hmk]
          have kp : ∀ (x : Int) (W : World), 1 ≤ x → x ≤ 1073741824 → Calls Try.prog 25 #[.int .i64 x, .int .i64 ((mk : Nat) : Int)] W fun e w' => e = .returned (.int .i64 (lim (x ^ mk))) ∧ Below W.heap.size W w' :=
            fun x W h1 h2 => cpow_any x mk (by omega) h1 h2 _ rfl W
          have eU : lim (u ^ mk) = Uk := by rw [← hUk]; unfold upW; rw [egk]; refine lim_of ?_; rw [← egk]; show upW u s k ≤ _; omega
          have eD : lim (d ^ mk) = Dk := by rw [← hDk]; unfold upW; rw [egk]; refine lim_of ?_; rw [← egk]; show upW d s k ≤ _; omega
          obtain ⟨Ye, hYe⟩ : ∃ Ye, Y * Dk = Ye := ⟨_, rfl⟩
          have HYe : Hid (Y * Dk = Ye) := hYe
          rw [hYe] at yd1 yd2
          have un : ¬ Uk = 0 := by omega
          have hdv : ∀ W : World, (binOp .quo 3 (.int .i64 E) (.int .i64 (lim (u ^ mk)))).run Try.prog W = .ok (.int .i64 Y) W := fun W => by
            have e3 : E.tdiv Uk = Y := by rw [hquo]; exact Int.mul_tdiv_cancel_left _ un
            have w3 : IntKind.i64.wrap Y = Y := by rw [IntKind.wrap_i64]; omega
            rw [eU]
            simp [go_sem, Op.intDiv, un, e3, w3]
          have hml : ∀ W : World, (binOp .mul 3 (.int .i64 Y) (.int .i64 (lim (d ^ mk)))).run Try.prog W = .ok (.int .i64 Ye) W := fun W => by
            have w3 : IntKind.i64.wrap Ye = Ye := by rw [IntKind.wrap_i64]; omega
            rw [eD]
            simp [go_sem, hYe, w3]
          have hw1 : IntKind.i64.wrap (E.tdiv (lim (u ^ mk))) = Y := by
            rw [eU, hquo, Int.mul_tdiv_cancel_left _ un, IntKind.wrap_i64]; omega
          have hw2 : IntKind.i64.wrap (Y * lim (d ^ mk)) = Ye := by
            rw [eD, hYe, IntKind.wrap_i64]; omega
          have un2 : ¬ lim (u ^ mk) = 0 := by rw [eU]; exact un
          have f0 := HR.out.c0
          have f4 := HR.out.c1
          have f5 := HR.out.lo
          have HB0 : Hid (Below wr.heap.size wr wr) := Below.refl _ _
          clear hmk hqk hY hUk hDk R1 hquo hmem egk hYe eU eD
          go_wp2
          go_region_held3 (fun w' => Below wr.heap.size wr w' ∧ wr.heap.size ≤ w'.heap.size ∧ ob < w'.heap.size ∧ w'.cell? ⟨ob, 0, none⟩ = some (.int .i64 u) ∧ w'.cell? ⟨ob, 1, none⟩ = some (.int .i64 d))
            ((go_split_ands; refine ⟨?_, ?_, ?_, ?_, ?_⟩ <;> first | assumption | (exact HB0.out) | (exact HB0.out.drew) | (exact bt (by assumption) hb5) | (exact bt HB0.out.drew hb5) | omega | (exact (hc5 _ _ (by assumption)).trans (by assumption)) | (simp [go_sem, *]; done) | (simp; omega)))
            ((go_at_call 25; refine (kp _ _ ?_ ?_).mono ?_; (omega); (omega); rintro x5 w5 ⟨rfl, hb5⟩; obtain ⟨hc5, hf5⟩ := bcell hb5; have hs5 := hb5.size))
          rename_i hHeld
          obtain ⟨B5, s5, o5, p0, p1⟩ := hHeld
          clear hc5 hf5 hs5 hb5 hdv hml hw1 hw2 un2 kp p0 p1 f0 f4 f1 f2 f3 HB0
          have HR5 : Hid (Ord w5 ob gf gg gc u d s g (adT ch (accF u d c s g (Ps.lefL g s.length) k) s.length)) := HR.out.keep B5
          have HAcc : Hid (∀ i, 0 ≤ accF u d c s g (Ps.lefL g s.length) k i ∧ accF u d c s g (Ps.lefL g s.length) k i + E ≤ Wy) := by
            intro i
            have a1 := acc_bd hd hu hc (s := s) (g := g) (n := s.length) (k := k) hk i
            have a2 := lef_room h1 HGk.out
            have a3 := HLen.out
            rw [HE.out] at a1
            have a4 := Int.mul_le_mul_of_nonneg_right (show (((Ps.lefL g k).length : Nat) : Int) + 1 ≤ ((m + 1 : Nat) : Int) by omega) (show 0 ≤ E by omega)
            rw [Int.add_mul, ← HWy.out] at a4
            omega
          obtain ⟨X, hX⟩ : ∃ X, ch.getD k 0 + accF u d c s g (Ps.lefL g s.length) k k = X := ⟨_, rfl⟩
          have hfk := HFew.out k h1
          have hak := HAcc.out k
          rw [HWy2.out] at hfk
          have x0 : 0 ≤ X := by omega
          have x1 : X + E ≤ 1073741824 := by omega
          have HX : Hid (ch.getD k 0 + accF u d c s g (Ps.lefL g s.length) k k = X) := hX
          have q0 := HR5.out.ri.cells k X (by rw [ad_get h1, hX])
          have q1 := HR5.out.ri.thaw k (by rw [ad_len]; exact h1)
          have q2 := HR5.out.c4
          have hltc := HR5.out.ri.lt
          have hltb := HR.out.rb.lt
          have HLo : Hid (lo ≤ wr.heap.size) := by show _ ≤ _; omega
          have HBlo : Hid (Below lo w w5) := hbl.trans (B5.mono HLo.out)
          have HR6 : Hid (Ord (w5.setCell ⟨gc, k, none⟩ (.int .i64 (X + Ye))) ob gf gg gc u d s g ((adT ch (accF u d c s g (Ps.lefL g s.length) k) s.length).set k (X + Ye))) := HR5.out.setC k (X + Ye)
          clear hX hfk hak
          by_cases cE : Ye = E
          · have HR7 : Hid (Ord (w5.setCell ⟨gc, k, none⟩ (.int .i64 (X + Ye))) ob gf gg gc u d s g (adT ch (accF u d c s g (Ps.lefL g s.length) (k + 1)) s.length)) := by
              have h2 := HR1.out.sure HGk.out (by rw [HYe.out]; exact cE) y1 (ch := ch) h1
              rw [HX.out, HYe.out] at h2
              show Ord _ _ _ _ _ _ _ _ _ _
              rw [← h2]
              exact HR6.out
            have HBl2 : Hid (Below lo w (w5.setCell ⟨gc, k, none⟩ (.int .i64 (X + Ye)))) := HBlo.out.setCell hlo2 _
            have cE2 : (Ye == E) = true := by simp [cE]
            clear HR6 HYe cE
            go_wp2
            go_roundw
            case rel => exact ⟨k + 1, h1, by go_num, HR7, HBl2.out⟩
            case measure => simp [intOf]; omega
          · have cE2 : (Ye == E) = false := by simp [cE]
            have HB6 : Hid (Below lo w (w5.setCell ⟨gc, k, none⟩ (.int .i64 (X + Ye)))) := HBlo.out.setCell hlo2 _
            have HR8 : Hid (Ord ((w5.setCell ⟨gc, k, none⟩ (.int .i64 (X + Ye))).setCell ⟨gg, k, none⟩ (.bool true)) ob gf gg gc u d s (g.set k true) ((adT ch (accF u d c s g (Ps.lefL g s.length) k) s.length).set k (X + Ye))) := HR6.out.setG k true
            have v0 := HR5.out.rb.cells k false (by
              have := HGk.out
              obtain ⟨q, hq⟩ := get_lt (l := g) (i := k) (by rw [HR5.out.lg]; exact h1)
              simp [List.getD, hq] at this
              rw [hq, this])
            have v1 := HR5.out.rb.thaw k (by rw [HR5.out.lg]; exact h1)
            have v2 := HR5.out.c3
            have v4 := HR5.out.rb.lt
            have hgl := HR5.out.lg
            have n2 : ¬ ob = gc := HR5.out.n2
            have n2' : ¬ gc = ob := fun e => n2 e.symm
            have n5 : ¬ gg = gc := HR5.out.n5
            have n5' : ¬ gc = gg := fun e => n5 e.symm
            have hUD : Dk < Uk := by
              rcases Int.lt_or_eq_of_le d2 with h | h
              · exact h
              · exfalso
                apply cE
                rw [← HYe.out, h, HR1.out.quo, Int.mul_comm]
            have hkb : ¬ k = be := by
              intro e
              have h2 := HR1.out.up
              have h3 := HR1.out.dn
              rw [e] at h2 h3
              unfold upW at h2 h3
              rw [HBe.out, Int.pow_zero] at h2 h3
              omega
            have kn := IH.out ((w5.setCell ⟨gc, k, none⟩ (.int .i64 (X + Ye))).setCell ⟨gg, k, none⟩ (.bool true)) (g.set k true) ((adT ch (accF u d c s g (Ps.lefL g s.length) k) s.length).set k (X + Ye)) (c * (Uk - Dk)) (E - Ye) (mi - 1) HMi.out (by rw [HR1.out.len h1 hgl, HLen.out]; omega) (mul1 hc (by omega)) HR8.out (by have := HG.out; simp [List.getD, hkb] at this ⊢; exact this) (by
                intro i hi
                rw [HR1.out.left h1 hgl, HYe.out]
                have a1 := HFew.out i hi
                have a2 := HAcc.out i
                rw [HWy2.out] at a1
                have a3 : ((adT ch (accF u d c s g (Ps.lefL g s.length) k) s.length).set k (X + Ye)).getD i 0 = ch.getD i 0 + (accF u d c s g (Ps.lefL g s.length) k i + if k = i then Ye else 0) := by
                  rw [← HX.out, ad_set h1, ad_getD hi]
                rw [a3]
                split <;> omega) (by rw [HR1.out.left h1 hgl, HYe.out])
            have HGs : Hid ((g.set k true).set k false = g) := by
              show _ = _
              rw [List.set_set]
              refine List.ext_getElem? fun i => ?_
              by_cases e : k = i
              · subst e
                rw [List.getElem?_set_self (by omega)]
                have := HGk.out
                obtain ⟨q, hq⟩ := get_lt (l := g) (i := k) (by omega)
                simp [List.getD, hq] at this
                rw [hq, this]
              · rw [List.getElem?_set_ne e]
            have HMore : Hid (adT ((adT ch (accF u d c s g (Ps.lefL g s.length) k) s.length).set k (X + Ye)) (fun i => c * (Uk - Dk) * Ps.incI (upW u s) (upW d s) i (Ps.lefL (g.set k true) s.length)) s.length = adT ch (accF u d c s g (Ps.lefL g s.length) (k + 1)) s.length) := by
              have h2 := HR1.out.more HGk.out (ch := ch) h1 hgl
              rw [HX.out, HYe.out] at h2
              exact h2
            clear HR6 HYe hgl HR8 HAcc HX hUD hkb
            go_wp2_with fail
            refine kn.mono ?_
            rintro e w8 ⟨rfl, ho8, hb8⟩
            clear kn
            rw [HMore.out] at ho8
            have HO8 : Hid (Ord w8 ob gf gg gc u d s (g.set k true) (adT ch (accF u d c s g (Ps.lefL g s.length) (k + 1)) s.length)) := ho8
            have z1 := ho8.c3
            have z2 := ho8.rb.cells k true (by rw [List.getElem?_set_self]; have := HR5.out.lg; omega)
            have z3 := ho8.rb.thaw k (by have := ho8.lg; omega)
            have z4 := ho8.rb.lt
            have HO9 : Hid (Ord (w8.setCell ⟨gg, k, none⟩ (.bool false)) ob gf gg gc u d s g (adT ch (accF u d c s g (Ps.lefL g s.length) (k + 1)) s.length)) := by
              have := ho8.setG k false
              rw [HGs.out] at this
              exact this
            have HB9 : Hid (Below lo w (w8.setCell ⟨gg, k, none⟩ (.bool false))) := ((HB6.out.setCell hlo _).trans hb8).setCell hlo _
            clear ho8 hb8 HMore HGs q0 q1 q2 v0 v1 v2 v4
            go_wp2
            go_roundw
            case rel => exact ⟨k + 1, h1, by go_num, HO9, HB9.out⟩
            case measure => simp [intOf]; omega
      · have : k = s.length := by omega
        subst this
        have HF : Hid (Ord wr ob gf gg gc u d s g (adT ch (fun i => c * Ps.incI (upW u s) (upW d s) i (Ps.lefL g s.length)) s.length)) := by
          have hne : Ps.lefL g s.length ≠ [] := by intro e; have := HLen.out; rw [e] at this; simp at this
          show Ord _ _ _ _ _ _ _ _ _ _
          rw [← ad_congr fun i _ => acc_all hne i]
          exact HR.out
        clear HR
        go_wp2
        exact bodyPost_end (v := .tuple #[]) (by simp [results, Try.results32, go_sem]) rfl ⟨rfl, HF.out, hbl⟩
end Go.Proofs.Ythmkbkombjhaeaa
