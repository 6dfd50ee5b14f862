import Derived.Test.YthmkbkombjhaeaaQw31
import Derived.Test.YthmkbkombjhaeaaQw34
namespace Go.Proofs.Ythmkbkombjhaeaa
open Go.RowKit Go.Proofs.Ythmkbkombjhaeaa.Ds

theorem wayL_all (u : Int) (s : List Nat) : wayL u s (Ps.lefL (List.replicate s.length false) s.length) = wayN u s s.length := by
  rw [Ps.lef_all]
  unfold wayL wayN
  rw [List.length_range]
  rfl
theorem chosen_all (u d : Int) (s : List Nat) : adT (List.replicate s.length 0) (fun i => 1 * Ps.incI (upW u s) (upW d s) i (Ps.lefL (List.replicate s.length false) s.length)) s.length = (List.range s.length).map (Ps.flW u d s) := by
  unfold adT
  refine List.map_congr_left fun i hi => ?_
  rw [Ps.lef_all, ← Ps.ordL_flW]
  have : (List.replicate s.length (0 : Int)).getD i 0 = 0 := by simp [List.getD, List.mem_range.1 hi]
  rw [this, Int.zero_add]
  show 1 * Ps.incI (upW u s) (upW d s) i (List.range s.length) = _
  rw [Int.one_mul]
  rfl

theorem RowB.made' (w : World) (n b : Nat) (hb : b = w.heap.size) : RowB (w.alloc (.cells (madeCells #[.bool false] n) 4)) b (List.replicate n false) := by subst hb; exact RowB.made w n
theorem RowI.made' (w : World) (n b : Nat) (hb : b = w.heap.size) : RowI (w.alloc (.cells (madeCells #[.int .i64 0] n) 3)) b (List.replicate n 0) := by subst hb; exact RowI.made w n
theorem ord_mk {W0 W' : World} {ob g gg gc : Nat} {u d : Int} {s : List Nat} (hb : Below W0.heap.size W0 W') (hrow : RowI W0 g (asI s))
    (c0 : W'.cell? ⟨ob, 0, none⟩ = some (.int .i64 u)) (c1 : W'.cell? ⟨ob, 1, none⟩ = some (.int .i64 d)) (c2 : W'.cell? ⟨ob, 2, none⟩ = some (.slice (some ⟨g, 0, none⟩) s.length s.length))
    (c3 : W'.cell? ⟨ob, 3, none⟩ = some (.slice (some ⟨gg, 0, none⟩) s.length s.length)) (c4 : W'.cell? ⟨ob, 4, none⟩ = some (.slice (some ⟨gc, 0, none⟩) s.length s.length))
    (rb : RowB W' gg (List.replicate s.length false)) (ri : RowI W' gc (List.replicate s.length 0)) (lo : ob < W'.heap.size) (h1 : W0.heap.size ≤ gg) (h2 : W0.heap.size ≤ gc) (n1 : ob ≠ gg) (n2 : ob ≠ gc) (n5 : gg ≠ gc) :
    Ord W' ob g gg gc u d s (List.replicate s.length false) (List.replicate s.length 0) := by
  have hg := hrow.lt
  refine ⟨c0, c1, c2, c3, c4, fun i m hi => (hrow.keep hb hg).cells i _ (by simp [asI, hi]), rb, ri, lo, Nat.lt_of_lt_of_le hg hb.size, n1, n2, by omega, by omega, n5, by simp, by simp⟩
theorem ord_new0 {W0 : World} {g n : Nat} {u d : Int} {s : List Nat} (hn : s.length = n) (hrow : RowI W0 g (asI s)) :
    Ord ((((W0.alloc (.cells (madeCells #[.bool false] n) 4)).alloc (.cells (madeCells #[.int .i64 0] n) 3)).alloc (.cells #[.int .i64 u, .int .i64 d, .slice (some ⟨g, 0, none⟩) n n, .slice (some ⟨W0.heap.size, 0, none⟩) n n, .slice (some ⟨(W0.heap.size + 1), 0, none⟩) n n] 59)).drew) (W0.heap.size + 1 + 1) g W0.heap.size (W0.heap.size + 1) u d s (List.replicate s.length false) (List.replicate s.length 0) := by
  subst hn
  refine ord_mk (W0 := W0) (bal (bal (ba _ _) _) _).drew hrow ?_ ?_ ?_ ?_ ?_ ?_ ?_ ?_ (by omega) (by omega) (by omega) (by omega) (by omega)
  · simp [go_sem]
  · simp [go_sem]
  · simp [go_sem]
  · simp [go_sem]
  · simp [go_sem]
  · exact (RowB.made' W0 s.length W0.heap.size (by simp)).keep (bal (ba _ _) _).drew (by simp)
  · exact (RowI.made' (W0.alloc (.cells (madeCells #[.bool false] s.length) 4)) s.length (W0.heap.size + 1) (by simp)).keep (ba _ _).drew (by simp)
  · simp <;> omega
theorem ord_new1 {W0 : World} {g n : Nat} {u d : Int} {s : List Nat} (hn : s.length = n) (hrow : RowI W0 g (asI s)) :
    Ord ((((W0.alloc (.cells (madeCells #[.bool false] n) 4)).alloc (.cells #[.int .i64 u, .int .i64 d, .slice (some ⟨g, 0, none⟩) n n, .slice (some ⟨W0.heap.size, 0, none⟩) n n, .slice (some ⟨(W0.heap.size + 1 + 1), 0, none⟩) n n] 59)).alloc (.cells (madeCells #[.int .i64 0] n) 3)).drew) (W0.heap.size + 1) g W0.heap.size (W0.heap.size + 1 + 1) u d s (List.replicate s.length false) (List.replicate s.length 0) := by
  subst hn
  refine ord_mk (W0 := W0) (bal (bal (ba _ _) _) _).drew hrow ?_ ?_ ?_ ?_ ?_ ?_ ?_ ?_ (by omega) (by omega) (by omega) (by omega) (by omega)
  · simp [go_sem]
  · simp [go_sem]
  · simp [go_sem]
  · simp [go_sem]
  · simp [go_sem]
  · exact (RowB.made' W0 s.length W0.heap.size (by simp)).keep (bal (ba _ _) _).drew (by simp)
  · exact (RowI.made' ((W0.alloc (.cells (madeCells #[.bool false] s.length) 4)).alloc (.cells #[.int .i64 u, .int .i64 d, .slice (some ⟨g, 0, none⟩) s.length s.length, .slice (some ⟨W0.heap.size, 0, none⟩) s.length s.length, .slice (some ⟨(W0.heap.size + 1 + 1), 0, none⟩) s.length s.length] 59)) s.length (W0.heap.size + 1 + 1) (by simp)).keep (N := W0.heap.size + 1 + 1 + 1) (Below.refl _ _).drew (by omega)
  · simp <;> omega
theorem ord_new2 {W0 : World} {g n : Nat} {u d : Int} {s : List Nat} (hn : s.length = n) (hrow : RowI W0 g (asI s)) :
    Ord ((((W0.alloc (.cells (madeCells #[.int .i64 0] n) 3)).alloc (.cells (madeCells #[.bool false] n) 4)).alloc (.cells #[.int .i64 u, .int .i64 d, .slice (some ⟨g, 0, none⟩) n n, .slice (some ⟨(W0.heap.size + 1), 0, none⟩) n n, .slice (some ⟨W0.heap.size, 0, none⟩) n n] 59)).drew) (W0.heap.size + 1 + 1) g (W0.heap.size + 1) W0.heap.size u d s (List.replicate s.length false) (List.replicate s.length 0) := by
  subst hn
  refine ord_mk (W0 := W0) (bal (bal (ba _ _) _) _).drew hrow ?_ ?_ ?_ ?_ ?_ ?_ ?_ ?_ (by omega) (by omega) (by omega) (by omega) (by omega)
  · simp [go_sem]
  · simp [go_sem]
  · simp [go_sem]
  · simp [go_sem]
  · simp [go_sem]
  · exact (RowB.made' (W0.alloc (.cells (madeCells #[.int .i64 0] s.length) 3)) s.length (W0.heap.size + 1) (by simp)).keep (ba _ _).drew (by simp)
  · exact (RowI.made' W0 s.length W0.heap.size (by simp)).keep (bal (ba _ _) _).drew (by simp)
  · simp <;> omega
theorem ord_new3 {W0 : World} {g n : Nat} {u d : Int} {s : List Nat} (hn : s.length = n) (hrow : RowI W0 g (asI s)) :
    Ord ((((W0.alloc (.cells (madeCells #[.int .i64 0] n) 3)).alloc (.cells #[.int .i64 u, .int .i64 d, .slice (some ⟨g, 0, none⟩) n n, .slice (some ⟨(W0.heap.size + 1 + 1), 0, none⟩) n n, .slice (some ⟨W0.heap.size, 0, none⟩) n n] 59)).alloc (.cells (madeCells #[.bool false] n) 4)).drew) (W0.heap.size + 1) g (W0.heap.size + 1 + 1) W0.heap.size u d s (List.replicate s.length false) (List.replicate s.length 0) := by
  subst hn
  refine ord_mk (W0 := W0) (bal (bal (ba _ _) _) _).drew hrow ?_ ?_ ?_ ?_ ?_ ?_ ?_ ?_ (by omega) (by omega) (by omega) (by omega) (by omega)
  · simp [go_sem]
  · simp [go_sem]
  · simp [go_sem]
  · simp [go_sem]
  · simp [go_sem]
  · exact (RowB.made' ((W0.alloc (.cells (madeCells #[.int .i64 0] s.length) 3)).alloc (.cells #[.int .i64 u, .int .i64 d, .slice (some ⟨g, 0, none⟩) s.length s.length, .slice (some ⟨(W0.heap.size + 1 + 1), 0, none⟩) s.length s.length, .slice (some ⟨W0.heap.size, 0, none⟩) s.length s.length] 59)) s.length (W0.heap.size + 1 + 1) (by simp)).keep (N := W0.heap.size + 1 + 1 + 1) (Below.refl _ _).drew (by omega)
  · exact (RowI.made' W0 s.length W0.heap.size (by simp)).keep (bal (ba _ _) _).drew (by simp)
  · simp <;> omega
theorem ord_new4 {W0 : World} {g n : Nat} {u d : Int} {s : List Nat} (hn : s.length = n) (hrow : RowI W0 g (asI s)) :
    Ord ((((W0.alloc (.cells #[.int .i64 u, .int .i64 d, .slice (some ⟨g, 0, none⟩) n n, .slice (some ⟨(W0.heap.size + 1), 0, none⟩) n n, .slice (some ⟨(W0.heap.size + 1 + 1), 0, none⟩) n n] 59)).alloc (.cells (madeCells #[.bool false] n) 4)).alloc (.cells (madeCells #[.int .i64 0] n) 3)).drew) W0.heap.size g (W0.heap.size + 1) (W0.heap.size + 1 + 1) u d s (List.replicate s.length false) (List.replicate s.length 0) := by
  subst hn
  refine ord_mk (W0 := W0) (bal (bal (ba _ _) _) _).drew hrow ?_ ?_ ?_ ?_ ?_ ?_ ?_ ?_ (by omega) (by omega) (by omega) (by omega) (by omega)
  · simp [go_sem]
  · simp [go_sem]
  · simp [go_sem]
  · simp [go_sem]
  · simp [go_sem]
  · exact (RowB.made' (W0.alloc (.cells #[.int .i64 u, .int .i64 d, .slice (some ⟨g, 0, none⟩) s.length s.length, .slice (some ⟨(W0.heap.size + 1), 0, none⟩) s.length s.length, .slice (some ⟨(W0.heap.size + 1 + 1), 0, none⟩) s.length s.length] 59)) s.length (W0.heap.size + 1) (by simp)).keep (ba _ _).drew (by simp)
  · exact (RowI.made' ((W0.alloc (.cells #[.int .i64 u, .int .i64 d, .slice (some ⟨g, 0, none⟩) s.length s.length, .slice (some ⟨(W0.heap.size + 1), 0, none⟩) s.length s.length, .slice (some ⟨(W0.heap.size + 1 + 1), 0, none⟩) s.length s.length] 59)).alloc (.cells (madeCells #[.bool false] s.length) 4)) s.length (W0.heap.size + 1 + 1) (by simp)).keep (N := W0.heap.size + 1 + 1 + 1) (Below.refl _ _).drew (by omega)
  · simp <;> omega
theorem ord_new5 {W0 : World} {g n : Nat} {u d : Int} {s : List Nat} (hn : s.length = n) (hrow : RowI W0 g (asI s)) :
    Ord ((((W0.alloc (.cells #[.int .i64 u, .int .i64 d, .slice (some ⟨g, 0, none⟩) n n, .slice (some ⟨(W0.heap.size + 1 + 1), 0, none⟩) n n, .slice (some ⟨(W0.heap.size + 1), 0, none⟩) n n] 59)).alloc (.cells (madeCells #[.int .i64 0] n) 3)).alloc (.cells (madeCells #[.bool false] n) 4)).drew) W0.heap.size g (W0.heap.size + 1 + 1) (W0.heap.size + 1) u d s (List.replicate s.length false) (List.replicate s.length 0) := by
  subst hn
  refine ord_mk (W0 := W0) (bal (bal (ba _ _) _) _).drew hrow ?_ ?_ ?_ ?_ ?_ ?_ ?_ ?_ (by omega) (by omega) (by omega) (by omega) (by omega)
  · simp [go_sem]
  · simp [go_sem]
  · simp [go_sem]
  · simp [go_sem]
  · simp [go_sem]
  · exact (RowB.made' ((W0.alloc (.cells #[.int .i64 u, .int .i64 d, .slice (some ⟨g, 0, none⟩) s.length s.length, .slice (some ⟨(W0.heap.size + 1 + 1), 0, none⟩) s.length s.length, .slice (some ⟨(W0.heap.size + 1), 0, none⟩) s.length s.length] 59)).alloc (.cells (madeCells #[.int .i64 0] s.length) 3)) s.length (W0.heap.size + 1 + 1) (by simp)).keep (N := W0.heap.size + 1 + 1 + 1) (Below.refl _ _).drew (by omega)
  · exact (RowI.made' (W0.alloc (.cells #[.int .i64 u, .int .i64 d, .slice (some ⟨g, 0, none⟩) s.length s.length, .slice (some ⟨(W0.heap.size + 1 + 1), 0, none⟩) s.length s.length, .slice (some ⟨(W0.heap.size + 1), 0, none⟩) s.length s.length] 59)) s.length (W0.heap.size + 1) (by simp)).keep (ba _ _).drew (by simp)
  · simp <;> omega

set_option maxHeartbeats 4000000 in
set_option maxRecDepth 100000 in
theorem flip_any (B : Nat) (u d : Int) (v : Value) (l : List Int) (w : World) (h : Num w B v l) (hB : B ≤ w.heap.size) (k : List Pt) (er : Int) (hr : flipT u d l = (k, er)) :
    Calls Try.prog 10 #[rv u d, v] w fun e w' => AnsD w k er e w' := by
  have HN : Hid (Num w B v l) := h
  have HR : Hid (flipT u d l = (k, er)) := hr
  obtain ⟨e0, he0⟩ : ∃ e0, choE u d l = e0 := ⟨_, rfl⟩
  have HE0 : Hid (choE u d l = e0) := he0
  have km := fun W h2 hB2 => measured_any B u d v l W h2 hB2 e0 he0
  obtain ⟨a, c, rfl, hc, hl, _⟩ := h
  clear hr he0
  by_cases c0 : e0 = 0
  · subst c0
    obtain ⟨hright, hdu, hd1, l1, l8, hnum, h64⟩ := cho_ok HE0.out
    have hu2 := (Rt.right_bd hright).2.1
    have hu1 : 1 ≤ u := by omega
    obtain ⟨s, hs⟩ : ∃ s, belT l = s := ⟨_, rfl⟩
    have hsl : s.length = l.length := by rw [← hs, bel_len]
    have hfar : farI l = asI s := by rw [← hs]; exact farI_as l
    have hs64 : ∀ m ∈ s, m ≤ 64 := by
      rw [← hs]
      intro m hm
      obtain ⟨n, hn, rfl⟩ := List.mem_map.1 hm
      have := h64 n hn
      omega
    have hz : 0 ∈ s := hs ▸ bel_zero l1
    obtain ⟨be, hbe, hbe0⟩ := List.getElem_of_mem hz
    have HBe : Hid (s.getD be 0 = 0) := by show _ = _; simp [List.getD, List.getElem?_eq_getElem hbe, hbe0]
    have HS : Hid (belT l = s) := hs
    have HSl : Hid (s.length = l.length) := hsl
    have HFar : Hid (farI l = asI s) := hfar
    have HS64 : Hid (∀ m ∈ s, m ≤ 64) := hs64
    obtain ⟨z, hzz⟩ : ∃ z, lim (wayN u s s.length) = z := ⟨_, rfl⟩
    have HZ : Hid (lim (wayN u s s.length) = z) := hzz
    have hk := HR.out
    unfold flipT at hk
    rw [HE0.out, if_neg (by simp), hs] at hk
    have HK : Hid ((if 1073741824 < wayN u s s.length then (([] : List Pt), (4 : Int)) else makeT (numL l.length (Ps.flW u d s))) = (k, er)) := by
      show _ = _
      unfold wayN
      rw [hsl]
      exact hk
    clear hs hsl hfar hs64 hright hnum h64 hz hbe0 hk hzz
    go_enter Try.func10, Try.ntmps10
    go_wp2_with fail
    refine (km _ (HN.out.at hB (ba _ _)) (by simp; omega)).mono ?_
    rintro e w1 ⟨hP, hb1⟩
    clear km
    rcases hP with ⟨h, _⟩ | ⟨_, g, rfl, hg, hrow⟩
    · exact absurd rfl h
    have G1 := bt (ba _ _) hb1
    have HRow1 : Hid (RowI w1 g (farI l)) := hrow
    have glt := hrow.lt
    have hgn : w.heap.size < w1.heap.size := by have := hb1.size; simp at this; omega
    have hglo : w.heap.size ≤ g := by simp at hg; omega
    have HNf : Hid (∀ W, Below w1.heap.size w1 W → Num W W.heap.size (.slice (some ⟨g, 0, none⟩) l.length l.length) (asI s)) := by
      intro W hb
      have := (hrow.keep hb glt).num (by rw [farI_len]; omega) (B := W.heap.size) (by have := hb.size; omega)
      rw [farI_len, HFar.out] at this
      exact this
    have kw := fun W h => ways_any (W.heap.size) u d hu1 hu2 (.slice (some ⟨g, 0, none⟩) l.length l.length) s (by rw [HSl.out]; exact l8) HS64.out W h (Nat.le_refl _) z HZ.out
    have hmk := fun W => make_ints l.length (by omega) W
    have hmb := fun W => make_bools l.length (by omega) W
    clear hb1 hg hrow
    go_wp2_with fail
    refine (kw _ (HNf.out _ (ba _ _))).mono ?_
    rintro e w2 ⟨rfl, hb2⟩
    clear kw
    have hb3 := bt (ba w1 _) hb2
    obtain ⟨hc2, hf2⟩ := bcell hb2
    have k0 : w2.cell? ⟨w1.heap.size, 0, none⟩ = some (.int .i64 u) := by rw [hc2 _ _ (by simp)]; simp [go_sem]
    have k1 : w2.cell? ⟨w1.heap.size, 1, none⟩ = some (.int .i64 d) := by rw [hc2 _ _ (by simp)]; simp [go_sem]
    have k2 : w2.cell? ⟨w1.heap.size, 2, none⟩ = some (.slice (some ⟨g, 0, none⟩) l.length l.length) := by rw [hc2 _ _ (by simp)]; simp [go_sem]
    have klt : w1.heap.size < w2.heap.size := by have := hb2.size; simp at this; omega
    have G3 := bt G1 hb3
    have HRow2 : Hid (RowI w2 g (asI s)) := by show RowI _ _ _; rw [← HFar.out]; exact HRow1.out.keep hb3 glt
    clear hb2 hc2 hf2 hb3
    by_cases cz : 1073741824 < z
    · have h2 : 1073741824 < wayN u s s.length := by
        have := HZ.out
        rw [lim_min] at this
        omega
      have hk := HK.out
      rw [if_pos h2] at hk
      simp only [Prod.mk.injEq] at hk
      obtain ⟨rfl, rfl⟩ := hk
      clear HZ HK HR h2
      go_wp2
      exact bodyPost_ret (v := .tuple #[.slice none 0 0, .int .i64 4]) (by simp [results, Try.results10, go_sem]) rfl (ansNo G3)
    · have hzw : wayN u s s.length ≤ 1073741824 ∧ wayN u s s.length = z := by
        have := HZ.out
        rw [lim_min] at this
        omega
      have HMk : Hid (makeT (numL l.length (Ps.flW u d s)) = (k, er)) := by
        have hk := HK.out
        rw [if_neg (by omega)] at hk
        exact hk
      have kO : ∀ (W' : World) (ob gg gc : Nat), Ord W' ob g gg gc u d s (List.replicate s.length false) (List.replicate s.length 0) → Below w2.heap.size w2 W' → w2.heap.size ≤ gg → w2.heap.size ≤ gc →
          Calls Try.prog 32 #[.pointer (some ⟨ob, 0, none⟩), .int .i64 (l.length : Int), .int .i64 z] W' fun e w' => e = .returned (.tuple #[]) ∧ Ord w' ob g gg gc u d s (List.replicate s.length false) (adT (List.replicate s.length 0) (fun i => 1 * Ps.incI (upW u s) (upW d s) i (Ps.lefL (List.replicate s.length false) s.length)) s.length) ∧ Below w2.heap.size w2 w' := by
        intro W' ob gg gc ho hb h1 h2
        refine (next_any u d hd1 hdu hu2 s (by rw [HSl.out]; exact l8) HS64.out be HBe.out hbe w2.heap.size ob g gg gc h1 h2 s.length W' (List.replicate s.length false) (List.replicate s.length 0) 1 z (l.length : Int) (by rw [HSl.out]) (by rw [Ps.lef_all, List.length_range]) (by omega) ho (by simp [List.getD, hbe]) (fun i hi => by rw [wayL_all]; simp [List.getD, hi]; omega) (by rw [wayL_all, Int.one_mul]; exact hzw.2)).mono ?_
        rintro e w' ⟨h1, h2, h3⟩
        exact ⟨h1, h2, hb.trans h3⟩
      clear HZ HK HR hzw
      go_wp2
      have q0 : ∀ W, Below w2.heap.size w2 W → W.cell? ⟨w1.heap.size, 0, none⟩ = some (.int .i64 u) := fun W hb => (hb.cell (p := ⟨w1.heap.size, 0, none⟩) klt).trans k0
      have q1 : ∀ W, Below w2.heap.size w2 W → W.cell? ⟨w1.heap.size, 1, none⟩ = some (.int .i64 d) := fun W hb => (hb.cell (p := ⟨w1.heap.size, 1, none⟩) klt).trans k1
      have q2 : ∀ W, Below w2.heap.size w2 W → W.cell? ⟨w1.heap.size, 2, none⟩ = some (.slice (some ⟨g, 0, none⟩) l.length l.length) := fun W hb => (hb.cell (p := ⟨w1.heap.size, 2, none⟩) klt).trans k2
      go_region_held3 (fun w' => w'.cell? ⟨w1.heap.size, 0, none⟩ = some (.int .i64 u) ∧ w'.cell? ⟨w1.heap.size, 1, none⟩ = some (.int .i64 d) ∧ w'.cell? ⟨w1.heap.size, 2, none⟩ = some (.slice (some ⟨g, 0, none⟩) l.length l.length))
        ((go_split_ands; refine ⟨q0 _ ?_, q1 _ ?_, q2 _ ?_⟩ <;> (repeat (first | exact Below.refl _ _ | apply Below.drew | refine bal ?_ _ | refine bs ?_ (by simp <;> omega) _))))
        (fail)
      all_goals
        go_wp2_with fail
        first
        | with_reducible refine (kO _ (w2.heap.size + 1 + 1) w2.heap.size (w2.heap.size + 1) (ord_new0 HSl.out HRow2.out) (bal (bal (ba _ _) _) _).drew (by omega) (by omega)).mono ?_
        | with_reducible refine (kO _ (w2.heap.size + 1) w2.heap.size (w2.heap.size + 1 + 1) (ord_new1 HSl.out HRow2.out) (bal (bal (ba _ _) _) _).drew (by omega) (by omega)).mono ?_
        | with_reducible refine (kO _ (w2.heap.size + 1 + 1) (w2.heap.size + 1) w2.heap.size (ord_new2 HSl.out HRow2.out) (bal (bal (ba _ _) _) _).drew (by omega) (by omega)).mono ?_
        | with_reducible refine (kO _ (w2.heap.size + 1) (w2.heap.size + 1 + 1) w2.heap.size (ord_new3 HSl.out HRow2.out) (bal (bal (ba _ _) _) _).drew (by omega) (by omega)).mono ?_
        | with_reducible refine (kO _ w2.heap.size (w2.heap.size + 1) (w2.heap.size + 1 + 1) (ord_new4 HSl.out HRow2.out) (bal (bal (ba _ _) _) _).drew (by omega) (by omega)).mono ?_
        | with_reducible refine (kO _ w2.heap.size (w2.heap.size + 1 + 1) (w2.heap.size + 1) (ord_new5 HSl.out HRow2.out) (bal (bal (ba _ _) _) _).drew (by omega) (by omega)).mono ?_
        rintro e w8 ⟨rfl, ho8, hb8⟩
        clear q0 q1 q2
        have HRow8 := ho8.ri
        rw [chosen_all] at HRow8
        have z4 := ho8.c4
        have zlo := ho8.lo
        rw [HSl.out] at z4
        have hnum := HRow8.num (by rw [List.length_map, List.length_range, HSl.out]; omega) HRow8.lt
        simp only [List.length_map, List.length_range, HSl.out] at hnum
        have kn := numbered_fr w8.heap.size _ _ w8 hnum (Nat.le_refl _) (by rw [List.length_map, List.length_range]; exact l8) k er (by rw [numP_numL]; exact HMk.out)
        have G8 : Below w.heap.size w w8 := G3.trans (hb8.mono G3.size)
        have gs := G8.size
        clear ho8 hb8 HRow8 hnum kO
        go_wp2_with fail
        refine kn.mono ?_
        rintro e w9 ⟨v5, xs, rfl, p1, p2, p3, p4⟩
        obtain ⟨b5, d5, rfl⟩ := p2.slice
        clear kn
        go_wp2
        exact bodyPost_ret (v := .tuple #[.slice b5 xs.length d5, .int .i64 er]) (by simp [results, Try.results10, go_sem]) rfl ⟨_, xs, rfl, p1, p2.mono gs, bt G8 p3, p4.mono gs⟩
  · have c1 : (e0 == 0) = false := by simpa using c0
    have c2 : (e0 != 0) = true := by simpa using c0
    have hk := HR.out
    unfold flipT at hk
    rw [HE0.out, if_pos c0] at hk
    simp only [Prod.mk.injEq] at hk
    obtain ⟨rfl, rfl⟩ := hk
    clear HR HE0
    go_enter Try.func10, Try.ntmps10
    go_wp2_with fail
    refine (km _ (HN.out.at hB (ba _ _)) (by simp; omega)).mono ?_
    rintro e w1 ⟨hP, hb1⟩
    clear km
    rcases hP with ⟨_, rfl⟩ | ⟨h, _⟩
    · have G1 := bt (ba _ _) hb1
      unfold noBel
      go_wp2
      exact bodyPost_ret (v := .tuple #[.slice none 0 0, .int .i64 e0]) (by simp [results, Try.results10, go_sem]) rfl (ansNo (bal G1 _))
    · exact absurd h c0
end Go.Proofs.Ythmkbkombjhaeaa
