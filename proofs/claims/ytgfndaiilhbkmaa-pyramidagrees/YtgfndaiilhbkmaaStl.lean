import Derived.Test.YtgfndaiilhbkmaaMks
import Derived.Test.YtgfndaiilhbkmaaLft
import Derived.Deep.DeepCutAuto
namespace Go.Proofs.Ytgfndaiilhbkmaa
open Go.RowKit Go.Shelf Go.Proofs.Ytgfndaiilhbkmaa.Ds
attribute [local go_sem] Oper.semAt_some

/-- nodes up to c are settled -/
def sst (w : Nat) (L : Nat → Int) (c j : Nat) : Int := if j ≤ c then stl w L j else L j
/-- so much is added to some -/
def addF (d : Int) : (Nat → Int) → List Nat → Nat → Int
  | f, [] => f
  | f, x :: r => addF d (upd f x (IntKind.i64.wrap (f x + d))) r
theorem addF_snoc (d : Int) (f : Nat → Int) (l : List Nat) (x : Nat) : addF d f (l ++ [x]) = upd (addF d f l) x (IntKind.i64.wrap (addF d f l x + d)) := by
  induction l generalizing f with
  | nil => rfl
  | cons y r ih => rw [List.cons_append, addF, ih]; rfl
theorem addF_kids (d : Int) (f : Nat → Int) (w m : Nat) : ∀ k j, addF d f (kids w m k) j = if w * m + 1 ≤ j ∧ j < w * m + 1 + k then IntKind.i64.wrap (f j + d) else f j
  | 0, j => by rw [if_neg (by omega)]; rfl
  | k + 1, j => by
    rw [kids_succ, addF_snoc, upd]
    by_cases e : j = w * m + 1 + k
    · subst e
      rw [if_pos rfl, if_pos (by omega), addF_kids d f w m k, if_neg (by omega)]
    · rw [if_neg e, addF_kids d f w m k]
      by_cases e2 : w * m + 1 ≤ j ∧ j < w * m + 1 + k
      · rw [if_pos e2, if_pos (by omega)]
      · rw [if_neg e2, if_neg (by omega)]

theorem six_keep {V X : World} {B B2 g m : Nat} {a b c d e f : Value} (h0 : V.cell? ⟨B, 0, none⟩ = some a) (h1 : V.cell? ⟨B, 1, none⟩ = some b) (h2 : V.cell? ⟨B, 2, none⟩ = some c) (h3 : V.cell? ⟨B, 3, none⟩ = some d) (h4 : V.cell? ⟨B2, 0, none⟩ = some e) (h5 : V.cell? ⟨g, m, none⟩ = some f) (l0 : B < V.heap.size) (l1 : B2 < V.heap.size) (l2 : g < V.heap.size) (hb : Below V.heap.size V X) :
    X.cell? ⟨B, 0, none⟩ = some a ∧ X.cell? ⟨B, 1, none⟩ = some b ∧ X.cell? ⟨B, 2, none⟩ = some c ∧ X.cell? ⟨B, 3, none⟩ = some d ∧ X.cell? ⟨B2, 0, none⟩ = some e ∧ X.cell? ⟨g, m, none⟩ = some f :=
  ⟨(hb.cell (p := ⟨B, 0, none⟩) l0).trans h0, (hb.cell (p := ⟨B, 1, none⟩) l0).trans h1, (hb.cell (p := ⟨B, 2, none⟩) l0).trans h2, (hb.cell (p := ⟨B, 3, none⟩) l0).trans h3, (hb.cell (p := ⟨B2, 0, none⟩) l1).trans h4, (hb.cell (p := ⟨g, m, none⟩) l2).trans h5⟩
theorem cell_own {β : Type} (B : Nat) (v : Value) : Own (fun (_ : β) W => W.cell? ⟨B, 0, none⟩ = some v) := fun _ _ _ _ hs hg hrow => cell_kept hs hg hrow
theorem ownFrom_gb {β : Type} {B g : Nat} {W : World} (hB : W.heap.size ≤ B) : OwnFrom B (fun (_ : β) V => W.grownBy V (some g)) := fun _ _ _ row hs hg hr =>
  ⟨hg.os.trans hs.os, hg.tape.trans hs.tape, hg.output.trans hs.output, Nat.le_trans hs.size hg.size, fun i hi hne => (hg.block i (Nat.lt_of_lt_of_le hi hs.size) (fun e => by have := (hr i e.symm).1; omega)).trans (hs.block i hi hne)⟩
theorem ownFrom_mks {β : Type} {B lo : Nat} {Ds : List Nat} (hB : ∀ D ∈ Ds, D < B) : OwnFrom B (fun (_ : β) V => Mks lo V Ds) := fun _ _ _ row hs hg hr =>
  hs.same fun D hD => hg.block D (hs.lt hD) (fun e => by have := (hr D e.symm).1; have := hB D hD; omega)
/-- what the rounds of settle keep -/
structure StI (W : World) (w H n q g c inn : Nat) (L : Nat → Int) (m : Nat) (Ds : List Nat) (V : World) : Prop where
  le : m ≤ inn
  arr : Arr V g n (sst w L (w * m))
  sh : ShB V W.heap.size (.int .i64 (w : Int)) (.int .i64 (H : Int)) (.int .i64 (n : Int)) (.int .i64 (q : Int))
  bx : Boxed V (W.heap.size + 1) 22 (.slice (some ⟨g, 0, none⟩) n c)
  gb : W.grownBy V (some g)
  ms : Mks W.heap.size V Ds
theorem nds_inr (w : Nat) : ∀ H, nds w H = w * inr w H + 1
  | 0 => by simp [nds, inr_zero]
  | H + 1 => by rw [inr_succ, nds]

set_option maxRecDepth 100000 in
set_option maxHeartbeats 8000000 in
theorem settle_any (w H n q g c : Nat) (L : Nat → Int) (hw : 2 ≤ w) (hw2 : w ≤ 16) (hn : nds w H = n) (hn2 : n ≤ 1024) (hq : w ^ H = q) (W : World) (hA : Arr W g n L) (hL : ∀ i, i < nds w H → (L i).natAbs ≤ 774056185954304) :
    Calls Try.prog 24 #[shV w H n q, .slice (some ⟨g, 0, none⟩) n c] W fun e W' => e = .returned (.tuple #[]) ∧ Arr W' g n (stl w L) ∧ W.grownBy W' (some g) := by
  obtain ⟨inn, hin⟩ : ∃ inn, inr w H = inn := ⟨_, rfl⟩
  have hia := inr_add w H
  have hil := inr_lt w H (by omega)
  rw [hin, hn, hq] at hia
  rw [hin, hn] at hil
  have hgW := hA.lt
  have HH : Hid (nds w H = n ∧ w ^ H = q ∧ inr w H = inn ∧ (∀ i, i < nds w H → (L i).natAbs ≤ 774056185954304)) := ⟨hn, hq, hin, hL⟩
  have HKD : Hid (∀ m, m < inn → ∀ j, j < w → w * m + 1 + j < n) := fun m hm j hj => by rw [← hn]; exact kid_lt (by omega) (by rw [hin]; exact hm) hj
  refine (callsIn_wide (n := 5)).1 ?_
  refine callsIn_of_wp_marks Try.func24 rfl trivial ?_ rfl
  simp only [Try.ntmps24, List.size_toArray, List.length_cons, List.length_nil, Nat.reduceAdd, Nat.reduceSub, Array.replicate_succ, Array.replicate_zero, List.push_toArray, List.append_toArray, List.nil_append, List.cons_append]
  refine wpIn_wide.2 ?_
  refine Code.wp_mono (StQ.imp (W0 := W) (g := g) (n := n) (F := stl w L) rfl hgW (fun W' h1 h2 => ⟨rfl, h1, h2⟩)) ?_
  obtain ⟨X, hX⟩ : ∃ X, (W.alloc (.cells #[.int .i64 (w : Int), .int .i64 (H : Int), .int .i64 (n : Int), .int .i64 (q : Int)] 35)).alloc (.cells #[.slice (some ⟨g, 0, none⟩) n c] 22) = X := ⟨_, rfl⟩
  have bX : Below W.heap.size W X := by rw [← hX]; exact bal (ba _ _) _
  have sX : ShB X W.heap.size (.int .i64 (w : Int)) (.int .i64 (H : Int)) (.int .i64 (n : Int)) (.int .i64 (q : Int)) := by rw [← hX]; exact (ShB.new _ _ _ _ _ _ rfl).at (ba _ _)
  have xX : Boxed X (W.heap.size + 1) 22 (.slice (some ⟨g, 0, none⟩) n c) := by
    have h := Boxed.new (W.alloc (.cells #[.int .i64 (w : Int), .int .i64 (H : Int), .int .i64 (n : Int), .int .i64 (q : Int)] 35)) 22 (.slice (some ⟨g, 0, none⟩) n c)
    rw [World.size_alloc, hX] at h
    exact h
  have HAX : Hid (Arr X g n L) := hA.at bX
  have HSX : Hid (ShB X W.heap.size (.int .i64 (w : Int)) (.int .i64 (H : Int)) (.int .i64 (n : Int)) (.int .i64 (q : Int))) := sX
  have HBX : Hid (Boxed X (W.heap.size + 1) 22 (.slice (some ⟨g, 0, none⟩) n c)) := xX
  have ki := inner_any w H n q inn hn2 hia X
  have t0 := sX.c0
  have t1 := sX.c1
  have t2 := sX.c2
  have t3 := sX.c3
  clear hA sX xX hn hq hin hia hL
  go_wp2_with fail
  refine ki.mono ?_
  rintro e1 w1 ⟨rfl, hb1⟩
  clear ki t0 t1 t2 t3
  go_wp2_with fail
  have hst : StI W w H n q g c inn L 0 [] w1 := ⟨Nat.zero_le _, (HAX.out.at hb1).congr fun j _ => by
      unfold sst
      rw [Nat.mul_zero]
      by_cases e : j ≤ 0
      · obtain rfl : j = 0 := by omega
        rw [if_pos e, stl_zero]
      · rw [if_neg e], HSX.out.at hb1, (hb1.block _ HBX.out.lt).trans HBX.out, gb_below (bt bX hb1), Mks.nil _ _⟩
  refine wp_loop (fun a' w' => ∃ (m : Nat) (Ds : List Nat) (u4 u5 u6 u10 u11 u12 u13 u14 u15 u16 u17 u18 u19 u20 u21 u22 u23 u24 u25 u26 u27 u28 u29 u30 u31 u32 u33 u34 u35 : Value), Hid (StI W w H n q g c inn L m Ds w') ∧ a' = { tmps := #[shV w H n q, .slice (some ⟨g, 0, none⟩) n c, .pointer (some ⟨W.heap.size, 0, none⟩), .pointer (some ⟨W.heap.size + 1, 0, none⟩), u4, u5, u6, .agg #[.int .i64 (w : Int), .int .i64 (H : Int), .int .i64 (n : Int), .int .i64 (q : Int)], .int .i64 (inn : Int), .int .i64 (m : Int), u10, u11, u12, u13, u14, u15, u16, u17, u18, u19, u20, u21, u22, u23, u24, u25, u26, u27, u28, u29, u30, u31, u32, u33, u34, u35], defers := Ds.map mrk }) (fun a' _ => inn - (intOf (a'.tmps.getD 9 undef)).toNat) ⟨0, [], _, _, _, _, _, _, _, _, _, _, _, _, _, _, _, _, _, _, _, _, _, _, _, _, _, _, _, _, _, hst, rfl⟩ ?_
  rintro a' wr ⟨m, Ds, u4, u5, u6, u10, u11, u12, u13, u14, u15, u16, u17, u18, u19, u20, u21, u22, u23, u24, u25, u26, u27, u28, u29, u30, u31, u32, u33, u34, u35, HI, rfl⟩
  clear hst hb1 HAX HSX HBX
  by_cases c1 : m < inn
  · have z1 : (m : Int) < (inn : Int) := by omega
    have hmn : m < n := by omega
    have hwm : 1 * m ≤ w * m := Nat.mul_le_mul_right _ (by omega)
    obtain ⟨x, hx⟩ : ∃ x, stl w L m = x := ⟨_, rfl⟩
    obtain ⟨s, hs⟩ : ∃ s, sumN L (w * m + 1) w = s := ⟨_, rfl⟩
    have hbd := stl_abs hw HH.out.2.2.2 m (by rw [HH.out.1]; exact hmn)
    rw [HH.out.2.2.1, hx, hs] at hbd
    have hwB : w * 774056185954304 ≤ 16 * 774056185954304 := Nat.mul_le_mul_right _ hw2
    have hsb := hbd.2 c1
    obtain ⟨d, hd⟩ : ∃ d, (x - s).tdiv (w : Int) = d := ⟨_, rfl⟩
    have hdb : d.natAbs ≤ 17179869184000000 := by rw [← hd, Int.natAbs_tdiv]; refine Nat.le_trans (Nat.div_le_self _ _) ?_; omega
    have HD : Hid ((stl w L m - sumN L (w * m + 1) w).tdiv (w : Int) = d) := by rw [Hid, hx, hs, hd]
    have xb : -3096224743817216 ≤ x ∧ x ≤ 3096224743817216 := by omega
    have sb : -12384898975268864 ≤ s ∧ s ≤ 12384898975268864 := by omega
    have db : -17179869184000000 ≤ d ∧ d ≤ 17179869184000000 := by omega
    have cA := HI.out.arr.cells m hmn
    rw [sst, if_pos (by omega), hx] at cA
    have kt : ∀ V, Below wr.heap.size wr V → Calls Try.prog 36 #[shV w H n q, .slice (some ⟨g, 0, none⟩) n c, .int .i64 (m : Int)] V fun e W' => e = .returned (.int .i64 s) ∧ Below V.heap.size V W' := fun V hV =>
      together_any w H n q g n c m (sst w L (w * m)) hw2 (by omega) (HKD.out m c1) V (HI.out.arr.at hV) s (by
        rw [← hs]
        exact sumN_congr fun j _ => by rw [sst, if_neg (by omega)]) (by omega)
    have KT : Hid (∀ V, Below wr.heap.size wr V → Calls Try.prog 36 #[shV w H n q, .slice (some ⟨g, 0, none⟩) n c, .int .i64 (m : Int)] V fun e W' => e = .returned (.int .i64 s) ∧ Below V.heap.size V W') := kt
    have s0 := HI.out.sh.c0
    have s1 := HI.out.sh.c1
    have s2 := HI.out.sh.c2
    have s3 := HI.out.sh.c3
    have sB := HI.out.bx.cell
    have lS := HI.out.sh.lt
    have lB := HI.out.bx.lt
    have lA := HI.out.arr.lt
    have wne : ¬ (w : Int) = 0 := by omega
    have wne2 : ¬ w = 0 := by omega
    have z3 : (m : Int) < (n : Int) := by omega
    have hwq : IntKind.i64.wrap ((x - s).tdiv (w : Int)) = d := by rw [hd]; exact wrap_id (by omega)
    have hws : IntKind.i64.wrap (x - s) = x - s := wrap_id (by omega)
    clear hx hs hbd hsb hdb hwB kt hd
    go_wp2_with fail
    go_cut [5, 9] from 9 to 35 (fun pv mv wx => ∃ bm, mv = .int .i64 (m : Int) ∧ pv = .pointer (some ⟨bm, 0, none⟩) ∧ wr.heap.size ≤ bm ∧ bm < wx.heap.size ∧ wx.cell? ⟨bm, 0, none⟩ = some (.int .i64 d) ∧ Below wr.heap.size wr wx)
    case first => as_aux_lemma =>
      go_region_held3 (fun w' => w'.cell? ⟨W.heap.size, 0, none⟩ = some (.int .i64 (w : Int)) ∧ w'.cell? ⟨W.heap.size, 1, none⟩ = some (.int .i64 (H : Int)) ∧ w'.cell? ⟨W.heap.size, 2, none⟩ = some (.int .i64 (n : Int)) ∧ w'.cell? ⟨W.heap.size, 3, none⟩ = some (.int .i64 (q : Int)) ∧ w'.cell? ⟨W.heap.size + 1, 0, none⟩ = some (.slice (some ⟨g, 0, none⟩) n c) ∧ w'.cell? ⟨g, m, none⟩ = some (.int .i64 x))
        (first | with_reducible assumption | (refine six_keep s0 s1 s2 s3 sB cA lS lB lA ?_; first | with_reducible exact (Below.refl _ wr).drew | with_reducible exact (bal (Below.refl _ wr) _).drew | with_reducible exact hz5 | with_reducible exact bal hz5 _ | (with_reducible refine bs hz5 ?_ _; dsimp only; omega)))
        (first
          | (go_at_call 36; refine (KT.out _ ?_).mono ?_; (first | with_reducible exact (Below.refl _ wr).drew | with_reducible exact (bal (Below.refl _ wr) _).drew); rintro e w5 ⟨rfl, hb5⟩; refine cutP (P := Below wr.heap.size wr w5) ?_ (fun hz5 => ?_); (first | with_reducible exact bt (Below.refl _ wr).drew hb5 | with_reducible exact bt (bal (Below.refl _ wr) _).drew hb5); have sz5 := hz5.size; have sq5 := hb5.size; simp at sq5; obtain ⟨hc5, hf5⟩ := bcell hb5))
      · go_wp2
        go_meet
        exact ⟨_, rfl, rfl, sz5, by simp, (Boxed.new _ _ _).cell, bal hz5 _⟩
      · go_wp2
        go_meet
        exact ⟨_, rfl, rfl, Nat.le_refl _, by simp; omega, sc_same (u := .int .i64 0) ((hc5 wr.heap.size 0 (by simp)).trans (by simp [go_sem])), bs (p := ⟨wr.heap.size, 0, none⟩) hz5 (Nat.le_refl _) _⟩
    case rest => as_aux_lemma =>
      obtain ⟨bm, rfl, rfl, hbm, hbl, hcm, hbc⟩ := hcut
      have kb := fun V => (callsIn_wide (n := 4)).1 (below_in 4 w H n q m V)
      have s0 := (HI.out.sh.at hbc).c0
      have s1 := (HI.out.sh.at hbc).c1
      have s2 := (HI.out.sh.at hbc).c2
      have s3 := (HI.out.sh.at hbc).c3
      have HCM : Hid (wc.cell? ⟨bm, 0, none⟩ = some (.int .i64 d)) := hcm
      clear hcm
      go_wp2_with fail
      refine (kb _).mono ?_
      rintro e6 w6 ⟨rfl, hw6⟩
      clear kb s0 s1 s2 s3
      go_wp2_with fail
      clear hw6
      obtain ⟨W0, hW0⟩ : ∃ W0, (wc.alloc (.cells #[.int .i64 (w : Int), .int .i64 (H : Int), .int .i64 (n : Int), .int .i64 (q : Int)] 35)).alloc (.cells #[.int .i64 (m : Int)] 3) = W0 := ⟨_, rfl⟩
      have hz0 : W0.heap.size = wc.heap.size + 2 := by rw [← hW0]; simp
      have bW : Below wc.heap.size wc W0 := by rw [← hW0]; exact bal (ba _ _) _
      have g3 : ShB W0 wc.heap.size (.int .i64 (w : Int)) (.int .i64 (H : Int)) (.int .i64 (n : Int)) (.int .i64 (q : Int)) := by rw [← hW0]; exact (ShB.new _ _ _ _ _ _ rfl).at (ba _ _)
      have g4 : Boxed W0 (wc.heap.size + 1) 3 (.int .i64 (m : Int)) := by
        have h := Boxed.new (wc.alloc (.cells #[.int .i64 (w : Int), .int .i64 (H : Int), .int .i64 (n : Int), .int .i64 (q : Int)] 35)) 3 (.int .i64 (m : Int))
        rw [World.size_alloc, hW0] at h
        exact h
      have bR : Below wr.heap.size wr W0 := bt hbc bW
      have hzc := hbc.size
      have hzr := HI.out.gb.size
      have hlS := HI.out.sh.lt
      have hlB := HI.out.bx.lt
      have i1 : Arr W0 g n (sst w L (w * m)) := HI.out.arr.at bR
      have i2 : W0.cell? ⟨bm, 0, none⟩ = some (.int .i64 d) := (bW.cell (p := ⟨bm, 0, none⟩) hbl).trans HCM.out
      have i3 : ShB W0 W.heap.size (.int .i64 (w : Int)) (.int .i64 (H : Int)) (.int .i64 (n : Int)) (.int .i64 (q : Int)) := HI.out.sh.at bR
      have i4 : Boxed W0 (W.heap.size + 1) 22 (.slice (some ⟨g, 0, none⟩) n c) := (bR.block _ HI.out.bx.lt).trans HI.out.bx
      have i5 : W.grownBy W0 (some g) := gb_trans HI.out.gb (gb_below bR)
      have i6 : Mks W.heap.size W0 Ds := HI.out.ms.at bR
      have hDs : ∀ D ∈ Ds, D < W0.heap.size := fun D hD => i6.lt hD
      rw [hW0]
      clear hW0
      refine wpIn_wide (n := 5).1 ?_
      refine wpIn_rangeFunc_ownH rfl (by decide) (gf := 41) (lb := #[.pointer (some ⟨wc.heap.size, 0, none⟩), .pointer (some ⟨wc.heap.size + 1, 0, none⟩)]) rfl trivial (enters_of Try.func41 (by kernel_rfl) rfl)
        (below_stops 4 (by decide) wc.heap.size (wc.heap.size + 1) w m _ _ _ hw2 (by omega) W0 g3 g4) KpS.t ?kb (Below.refl _ _) (fun _ => rfl)
        (fun pre V => Arr V g n (addF d (sst w L (w * m)) (pre.map (·.1))) ∧ V.cell? ⟨bm, 0, none⟩ = some (.int .i64 d) ∧ ShB V W.heap.size (.int .i64 (w : Int)) (.int .i64 (H : Int)) (.int .i64 (n : Int)) (.int .i64 (q : Int)) ∧ Boxed V (W.heap.size + 1) 22 (.slice (some ⟨g, 0, none⟩) n c) ∧ W.grownBy V (some g) ∧ Mks W.heap.size V Ds)
        (fun _ _ _ => False)
        (OwnFrom.and (Own.from (arr_own _ _ _) _) (OwnFrom.and (Own.from (cell_own _ _) _) (OwnFrom.and (Own.from (shb_own _ _ _ _ _) _) (OwnFrom.and (Own.from (boxed_own _ _ _) _) (OwnFrom.and (ownFrom_gb (by omega)) (ownFrom_mks hDs))))))
        (fun _ _ _ _ _ hs _ _ => hs)
        ⟨i1, i2, i3, i4, i5, i6⟩
        (fun x act _ => act = { tmps := #[shV w H n q, .slice (some ⟨g, 0, none⟩) n c, .pointer (some ⟨W.heap.size, 0, none⟩), .pointer (some ⟨W.heap.size + 1, 0, none⟩), .int .i64 (m : Int), .pointer (some ⟨bm, 0, none⟩), .int .i64 (x.1 : Int), .agg #[.int .i64 (w : Int), .int .i64 (H : Int), .int .i64 (n : Int), .int .i64 (q : Int)], .int .i64 (inn : Int), .int .i64 (m : Int), u10, u11, u12, u13, u14, u15, u16, u17, u18, u19, u20, u21, u22, u23, .agg #[.int .i64 (w : Int), .int .i64 (H : Int), .int .i64 (n : Int), .int .i64 (q : Int)], .int .i64 (m : Int), .func (.func 41) #[] #[.pointer (some ⟨wc.heap.size, 0, none⟩), .pointer (some ⟨wc.heap.size + 1, 0, none⟩)], .int .i64 (x.1 : Int), u28, u29, u30, u31, u32, u33, u34, u35], defers := [] })
        (fun _ _ _ _ _ _ hs _ _ => hs)
        ?assign ?body ?done ?stop
      case kb =>
        intro V l' o o' hl' h1 _ _
        have := (Array.getElem?_eq_some_iff.1 h1).1
        exact ⟨(grownBy_putObj' V l' o').block _ (by omega) (by simp; omega), (grownBy_putObj' V l' o').block _ (by omega) (by simp; omega)⟩
      case assign =>
        rintro l' pre x V K hI hK
        simp only [encK]
        gi_wp2
        exact hK _ _ ((kdr V 0).from _) ⟨rfl, rfl⟩ hI rfl
      case body =>
        rintro l' pre x act V hl' ⟨r', hr'⟩ ⟨b1, b2, b3, b4, b5, b6⟩ rfl hlt
        obtain ⟨x, hx⟩ := x
        have hxn : x < n := by obtain ⟨j, hj, rfl⟩ := hx; exact HKD.out m c1 j hj
        obtain ⟨y, hy⟩ : ∃ y, addF d (sst w L (w * m)) (pre.map (·.1)) x = y := ⟨_, rfl⟩
        have HST : Hid (addF d (sst w L (w * m)) ((pre ++ [(⟨x, hx⟩ : Kid w m)]).map (·.1)) = upd (addF d (sst w L (w * m)) (pre.map (·.1))) x (IntKind.i64.wrap (y + d))) := by
          rw [Hid, List.map_append]
          simp only [List.map_cons, List.map_nil]
          rw [addF_snoc, hy]
        have cR := b1.cells x hxn
        rw [hy] at cR
        have fR := b1.thaw x hxn
        have cT := b4.cell
        have hs5 := b5.size
        have hs3 := b3.lt
        have hs4 := b4.lt
        have zx : (x : Int) < (n : Int) := by omega
        obtain ⟨V5, hV5⟩ : ∃ V5, (V.setCell ⟨g, x, none⟩ (.int .i64 (IntKind.i64.wrap (y + d)))).drew = V5 := ⟨_, rfl⟩
        have g6 : V.grownBy V5 (some g) := by rw [← hV5]; exact gb_drew (gb_set (gb_refl _ _) x _)
        have k5 : KeepsOthers V V5 := by rw [← hV5]; exact (KeepsOthers.setCell _ _ _).trans (kdr _ 1)
        have a5 : Arr V5 g n (upd (addF d (sst w L (w * m)) (pre.map (·.1))) x (IntKind.i64.wrap (y + d))) := by rw [← hV5]; exact (b1.set x hxn _).at (Below.refl _ _).drew
        have c5 : V5.cell? ⟨bm, 0, none⟩ = some (.int .i64 d) := g6.cell b2 (by simp; omega)
        have s5 : ShB V5 W.heap.size (.int .i64 (w : Int)) (.int .i64 (H : Int)) (.int .i64 (n : Int)) (.int .i64 (q : Int)) := b3.same (g6.block _ b3.lt (by simp; omega))
        have x5 : Boxed V5 (W.heap.size + 1) 22 (.slice (some ⟨g, 0, none⟩) n c) := b4.kept g6 (by simp; omega)
        have w5 : W.grownBy V5 (some g) := gb_trans b5 g6
        have m5 : Mks W.heap.size V5 Ds := b6.gb g6 (b1.cells 0 (by omega))
        have hlV : wc.heap.size + 1 < V.heap.size := by
          have h1 := (Array.getElem?_eq_some_iff.1 hr').1
          omega
        have HV5 : Hid ((V.setCell ⟨g, x, none⟩ (.int .i64 (IntKind.i64.wrap (y + d)))).drew = V5) := hV5
        clear hV5 hy
        gi_wp2
        refine wpIn_mono (Q := fun e _ w' => e = .normal ∧ w' = (V.setCell ⟨g, x, none⟩ (.int .i64 (IntKind.i64.wrap (y + d)))).drew) ?reg ?rest
        case reg =>
          gi_region
          all_goals exact ⟨rfl, rfl⟩
        case rest =>
          rintro e a' w' ⟨rfl, rfl⟩
          rw [HV5.out]
          gi_wp2
          exact ⟨k5.from _, ⟨g6.block _ (by omega) (by simp; omega), g6.block _ (by omega) (by simp; omega)⟩, by rw [HST.out]; exact a5, c5, s5, x5, w5, m5⟩
      case done =>
        rintro D ys V hD hS ⟨b1, b2, b3, b4, b5, b6⟩ hK
        rw [hS] at b1
        have HI2 : Hid (StI W w H n q g c inn L (m + 1) (D :: Ds) V) := by
          refine ⟨c1, b1.congr fun j hj => ?_, b3, b4, b5, b6.cons (by omega) hK (fun E hE e => by have := hDs E hE; omega)⟩
          rw [addF_kids, sst, sst, Nat.mul_add, Nat.mul_one]
          by_cases e1 : j ≤ w * m
          · rw [if_neg (by omega), if_pos e1, if_pos (by omega)]
          · by_cases e2 : j < w * m + 1 + w
            · rw [if_pos (by omega), if_neg e1, if_pos (by omega)]
              obtain ⟨k, rfl⟩ : ∃ k, j = w * m + 1 + k := ⟨j - (w * m + 1), by omega⟩
              have h1 := stl_kid (w := w) (L := L) (i := m) (k := k) (by omega)
              rw [HD.out] at h1
              rw [← h1]
              have h2 := (stl_abs hw HH.out.2.2.2 (w * m + 1 + k) (by rw [HH.out.1]; exact hj)).1
              exact wrap_id (by omega)
            · rw [if_neg (by omega), if_neg e1, if_neg (by omega)]
        clear b1 b2 b3 b4 b5 b6 hS hK
        go_wp2
        have hm1 : ((m : Int) + 1) = ((m + 1 : Nat) : Int) := by simp
        rw [hm1]
        refine ⟨?_, ?_⟩
        · refine ⟨m + 1, D :: Ds, ?_⟩
          (repeat apply Exists.intro)
          exact ⟨HI2, rfl⟩
        · simp [intOf]; omega
      case stop =>
        rintro D c' pre V _ _ h _
        exact h.elim
  · obtain rfl : m = inn := by have := HI.out.le; omega
    have z1 : ¬ (m : Int) < (m : Int) := by omega
    go_wp2
    refine ⟨HI.out.arr.congr fun j hj => ?_, HI.out.gb, Ds, rfl, HI.out.ms⟩
    have := nds_inr w H
    rw [HH.out.1, HH.out.2.2.1] at this
    rw [sst, if_pos (by omega)]
end Go.Proofs.Ytgfndaiilhbkmaa
