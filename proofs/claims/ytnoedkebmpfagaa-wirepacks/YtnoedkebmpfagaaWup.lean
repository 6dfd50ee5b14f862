import Derived.Test.YtnoedkebmpfagaaWrf
/-
  PACKAGE wire: Unpack.
-/
namespace Go.Proofs.Ytnoedkebmpfagaa
open Go.RowKit Wc

theorem rmessage_any {w : World} {R : Nat} {t : By} {b : Bool} (h : Rdm w R t b) (m : Msg) (r : By) (f : Bool) (hr : msgR t = (m, r, f)) : Calls Try.prog 25 #[ptR R] w (RmP w R b m r f) := by
  obtain ⟨c, t1, f1, h1⟩ : ∃ c q f, nxR t = (c, q, f) := ⟨_, _, _, rfl⟩
  obtain ⟨s, t2, f2, h2⟩ : ∃ c q f, tnR t1 = (c, q, f) := ⟨_, _, _, rfl⟩
  obtain ⟨n, t3, f3, h3⟩ : ∃ c q f, nmR t2 = (c, q, f) := ⟨_, _, _, rfl⟩
  simp only [msgR, bd, h1, h2, h3] at hr
  by_cases k1 : c.toNat = 1
  · obtain ⟨p, t4, f4, h4⟩ : ∃ c q f, tnR t3 = (c, q, f) := ⟨_, _, _, rfl⟩
    obtain ⟨x, t5, f5, h5⟩ : ∃ c q f, tnR t4 = (c, q, f) := ⟨_, _, _, rfl⟩
    obtain ⟨⟨ru, rd⟩, t6, f6, h6⟩ : ∃ c q f, rtR t5 = (c, q, f) := ⟨_, _, _, rfl⟩
    obtain ⟨lo, t7, f7, h7⟩ : ∃ c q f, nmR t6 = (c, q, f) := ⟨_, _, _, rfl⟩
    obtain ⟨hi, t8, f8, h8⟩ : ∃ c q f, nmR t7 = (c, q, f) := ⟨_, _, _, rfl⟩
    simp only [if_pos k1, askR, bd, mp, h4, h5, h6, h7, h8, Prod.mk.injEq] at hr
    obtain ⟨rfl, rfl, rfl⟩ := hr
    refine (rmessage_ask h 1 c t1 f1 h1 s t2 f2 h2 n t3 f3 h3 p t4 f4 h4 x t5 f5 h5 ru rd t6 f6 h6 lo t7 f7 h7 hi t8 f8 h8 rfl k1).mono ?_
    rintro e w' ⟨sv, rfl, q1, q0, q2, q3⟩
    refine ⟨sv, ?_, q1, q0, ?_, q3⟩
    · simp [msg0, k1]
    · simpa [Bool.or_assoc] using q2
  · by_cases k2 : c.toNat = 2
    · obtain ⟨er, t4, f4, h4⟩ : ∃ c q f, nmR t3 = (c, q, f) := ⟨_, _, _, rfl⟩
      obtain ⟨l, t5, f5, h5⟩ : ∃ c q f, vsR t4 = (c, q, f) := ⟨_, _, _, rfl⟩
      obtain ⟨⟨lu, ld⟩, t6, f6, h6⟩ : ∃ c q f, rtR t5 = (c, q, f) := ⟨_, _, _, rfl⟩
      simp only [if_neg k1, if_pos k2, rplR, bd, mp, h4, h5, h6, Prod.mk.injEq] at hr
      obtain ⟨rfl, rfl, rfl⟩ := hr
      refine (rmessage_rpl h 2 c t1 f1 h1 s t2 f2 h2 n t3 f3 h3 er t4 f4 h4 l t5 f5 h5 lu ld t6 f6 h6 rfl k2).mono ?_
      rintro e w' ⟨sv, rfl, q1, q0, q2, q3⟩
      refine ⟨sv, ?_, q1, q0, ?_, q3⟩
      · simp [msg0, k2]
      · simpa [Bool.or_assoc] using q2
    · simp only [if_neg k1, if_neg k2, Prod.mk.injEq] at hr
      obtain ⟨rfl, rfl, rfl⟩ := hr
      refine (rmessage_no h c.toNat c t1 f1 h1 s t2 f2 h2 n t3 f3 h3 k1 k2 rfl).mono ?_
      rintro e w' ⟨sv, rfl, q1, q0, q2, q3⟩
      exact ⟨sv, by simp [msg0], q1, q0, by simpa using q2, q3⟩
/-- the bytes of a text, as new memory -/
theorem bytes_of (w : World) (t : By) : ∃ cap V, (convert 9 47 (.string (tx t))).run Try.prog w = .ok (.slice (some ⟨w.heap.size, 0, none⟩) t.length cap) V ∧ Below w.heap.size w V ∧ V.heap.size = w.heap.size + 1 ∧ t.length ≤ cap ∧ (t.length ≤ 9223372036854775807 → cap ≤ 9223372036854775807) ∧
    ∀ (i : Nat) (x : UInt8), t[i]? = some x → V.cell? ⟨w.heap.size, i, none⟩ = some (.int .u8 (x.toNat : Int)) := by
  have h := run_bytes_of_string (P := Try.prog) w 9 47 5 (tx t) Try.underlying9 Try.underlying47 Try.underlying5
  rw [tx_size] at h
  refine ⟨_, _, h, (Below.refl _ _).drew.alloc (Nat.le_refl _) _, by simp, grownCap_ge _ _ _ _, fun hl => ?_, fun i x hx => ?_⟩
  · have hm : maxLen = 9223372036854775807 := by decide
    have := grownCap_le_maxLen w t.length 0 5 (by omega)
    omega
  · have h2 := World.cell?_alloc_mark w.drew (bytesRow (tx t) (grownCap w t.length 0 5)) 5 ((bytesRow (tx t) (grownCap w t.length 0 5)).size, (bytesRow (tx t) (grownCap w t.length 0 5)).size + 1) i
    have h3 : w.drew.heap.size = w.heap.size := rfl
    rw [h3] at h2
    rw [h2]
    have hi : i < (tx t).data.size := by have := (List.getElem?_eq_some_iff.1 hx).1; simpa using this
    rw [bytesRow_at _ _ i hi]
    congr 3
    have h4 : t[i]? = some t[i] := List.getElem?_eq_getElem (by simpa using hi)
    have h5 : t[i] = x := Option.some.inj (h4.symm.trans hx)
    simp [h5]
def msgZ : Msg := ⟨0, [], 0, [], [], 0, 0, 0, 0, 0, [], 0, 0⟩
def unpT (t : By) : Msg × Int := if 65536 < t.length then (msgZ, 4) else if (msgR t).2.2 = true ∨ (msgR t).2.1 ≠ [] then (msgZ, 2) else ((msgR t).1, 0)
set_option maxHeartbeats 400000 in
set_option maxRecDepth 100000 in
theorem unpack_any (t : By) (ht : t.length ≤ 9223372036854775807) (w : World) (m : Msg) (er' : Int) (hu : unpT t = (m, er')) :
    Calls Try.prog 9 #[.string (tx t)] w fun e w' => ∃ sv, e = .returned (.tuple #[mv m sv, .int .i64 er']) ∧ Num w' w'.heap.size sv m.vals ∧ Below w.heap.size w w' := by
  have hsz := tx_size t
  unfold unpT at hu
  have hZ := Bx.new w [.int .i64 0, .string ⟨#[]⟩, .int .i64 0, .string ⟨#[]⟩, .string ⟨#[]⟩, .int .i64 0, .int .i64 0, .int .i64 0, .int .i64 0, .int .i64 0, .slice none 0 0, .int .i64 0, .int .i64 0] 27 rfl
  have bZ : Below w.heap.size w (w.alloc (.cells #[.int .i64 0, .string ⟨#[]⟩, .int .i64 0, .string ⟨#[]⟩, .string ⟨#[]⟩, .int .i64 0, .int .i64 0, .int .i64 0, .int .i64 0, .int .i64 0, .slice none 0 0, .int .i64 0, .int .i64 0] 27)) := ba _ _
  have z0 := (hZ 0 _ rfl).c
  have z1 := (hZ 1 _ rfl).c
  have z2 := (hZ 2 _ rfl).c
  have z3 := (hZ 3 _ rfl).c
  have z4 := (hZ 4 _ rfl).c
  have z5 := (hZ 5 _ rfl).c
  have z6 := (hZ 6 _ rfl).c
  have z7 := (hZ 7 _ rfl).c
  have z8 := (hZ 8 _ rfl).c
  have z9 := (hZ 9 _ rfl).c
  have z10 := (hZ 10 _ rfl).c
  have z11 := (hZ 11 _ rfl).c
  have z12 := (hZ 12 _ rfl).c
  by_cases c1 : 65536 < t.length
  · have d1 : (65536 : Int) < (t.length : Int) := by omega
    rw [if_pos c1] at hu
    simp only [Prod.mk.injEq] at hu
    obtain ⟨rfl, rfl⟩ := hu
    have HF : Hid (Below w.heap.size w (w.alloc (.cells #[.int .i64 0, .string ⟨#[]⟩, .int .i64 0, .string ⟨#[]⟩, .string ⟨#[]⟩, .int .i64 0, .int .i64 0, .int .i64 0, .int .i64 0, .int .i64 0, .slice none 0 0, .int .i64 0, .int .i64 0] 27))) := bZ
    clear hZ bZ
    go_enter Try.func9, Try.ntmps9
    go_wp2
    (try simp only [Exit.inBlock, Exit.then])
    refine bodyPost_ret (v := .tuple #[mv msgZ (.slice none 0 0), .int .i64 4]) (by simp [results, Try.results9, go_sem, msgZ, z0, z1, z2, z3, z4, z5, z6, z7, z8, z9, z10, z11, z12]) rfl ?_
    exact ⟨_, rfl, num_nil _ _, HF.out⟩
  · have d1 : ¬ (65536 : Int) < (t.length : Int) := by omega
    rw [if_neg c1] at hu
    obtain ⟨W, hW⟩ : ∃ W, w.alloc (.cells #[.int .i64 0, .string ⟨#[]⟩, .int .i64 0, .string ⟨#[]⟩, .string ⟨#[]⟩, .int .i64 0, .int .i64 0, .int .i64 0, .int .i64 0, .int .i64 0, .slice none 0 0, .int .i64 0, .int .i64 0] 27) = W := ⟨_, rfl⟩
    have bZ : Below w.heap.size w W := by rw [← hW]; exact bZ
    have hZ : Bx W w.heap.size [.int .i64 0, .string ⟨#[]⟩, .int .i64 0, .string ⟨#[]⟩, .string ⟨#[]⟩, .int .i64 0, .int .i64 0, .int .i64 0, .int .i64 0, .int .i64 0, .slice none 0 0, .int .i64 0, .int .i64 0] := by rw [← hW]; exact hZ
    obtain ⟨cap, V, hcv, bV, hVs, hcap, hcap2, hcell⟩ := bytes_of W t
    have hcap3 := hcap2 ht
    have hWs : W.heap.size = w.heap.size + 1 := by rw [← hW]; simp
    -- the reader
    have bX : Below V.heap.size V (V.alloc (.cells #[.slice (some ⟨W.heap.size, 0, none⟩) t.length cap, .bool false] 59)) := ba _ _
    have TX : TwoB (V.alloc (.cells #[.slice (some ⟨W.heap.size, 0, none⟩) t.length cap, .bool false] 59)) V.heap.size (.slice (some ⟨W.heap.size, 0, none⟩) t.length cap) (.bool false) := TwoB.new V _ _ _ _ rfl
    have hD : Rdm (V.alloc (.cells #[.slice (some ⟨W.heap.size, 0, none⟩) t.length cap, .bool false] 59)) V.heap.size t false := by
      refine ⟨⟨_, ⟨TX.c0, TX.f0, TX.lt⟩, some ⟨W.heap.size, 0, none⟩, cap, rfl, hcap, hcap3, fun _ => ⟨W.heap.size, 0, rfl, by omega, by have := bX.size; omega, fun i x hx => ?_⟩⟩, ⟨TX.c1, TX.f1, TX.lt⟩, by omega⟩
      rw [Nat.zero_add]
      exact (bX.cell (p := ⟨W.heap.size, i, none⟩) (by dsimp only; omega)).trans (hcell i x hx)
    obtain ⟨mm, r, f, hm⟩ : ∃ m r f, msgR t = (m, r, f) := ⟨_, _, _, rfl⟩
    rw [hm] at hu
    have k := rmessage_any hD mm r f hm
    have HZ : Hid (Bx (V.alloc (.cells #[.slice (some ⟨W.heap.size, 0, none⟩) t.length cap, .bool false] 59)) w.heap.size [.int .i64 0, .string ⟨#[]⟩, .int .i64 0, .string ⟨#[]⟩, .string ⟨#[]⟩, .int .i64 0, .int .i64 0, .int .i64 0, .int .i64 0, .int .i64 0, .slice none 0 0, .int .i64 0, .int .i64 0]) := (hZ.at bV).at bX
    have HB : Hid (Below w.heap.size w (V.alloc (.cells #[.slice (some ⟨W.heap.size, 0, none⟩) t.length cap, .bool false] 59))) := bZ.trans ((bV.trans (bX.mono bV.size)).mono (by omega))
    have HU : Hid ((if f = true ∨ r ≠ [] then (msgZ, (2 : Int)) else (mm, 0)) = (m, er')) := hu
    have hrs : V.heap.size ≥ w.heap.size := by omega
    have hlX : (V.alloc (.cells #[.slice (some ⟨W.heap.size, 0, none⟩) t.length cap, .bool false] 59)).heap.size ≥ V.heap.size := bX.size
    have hge1 : w.heap.size < W.heap.size := by omega
    have hge2 : W.heap.size < V.heap.size := by omega
    clear hWs hVs
    clear hu hm hD TX hcell bV bX bZ hZ hcap hcap2 hcap3
    clear z0 z1 z2 z3 z4 z5 z6 z7 z8 z9 z10 z11 z12
    go_enter Try.func9, Try.ntmps9
    go_wp2_with fail
    refine k.mono ?_
    rintro e y ⟨sv, rfl, nm, hnw, dY, gY⟩
    clear k hW hcv
    obtain ⟨kd, ss, nu, pu, te, ru, rd, lo, hg, er, vs, lu, ld⟩ := mm
    obtain ⟨av, cv, rfl, -, -⟩ := nm.slice
    have hnew : ∀ a : Addr, av = some a → a.block ≠ w.heap.size := by
      intro a e
      have := hnw a vs.length cv (by rw [e])
      omega
    clear hnw
    have HNM : Hid (Num y y.heap.size (.slice av vs.length cv) vs) := nm
    have bY : Below y.heap.size y (y.alloc (.cells #[.int .i64 kd, .string (tx ss), .int .i64 nu, .string (tx pu), .string (tx te), .int .i64 ru, .int .i64 rd, .int .i64 lo, .int .i64 hg, .int .i64 er, .slice av vs.length cv, .int .i64 lu, .int .i64 ld] 27)) := ba _ _
    have hBM := Bx.new y [.int .i64 kd, .string (tx ss), .int .i64 nu, .string (tx pu), .string (tx te), .int .i64 ru, .int .i64 rd, .int .i64 lo, .int .i64 hg, .int .i64 er, .slice av vs.length cv, .int .i64 lu, .int .i64 ld] 27 rfl
    have hDZ : Bx (y.alloc (.cells #[.int .i64 kd, .string (tx ss), .int .i64 nu, .string (tx pu), .string (tx te), .int .i64 ru, .int .i64 rd, .int .i64 lo, .int .i64 hg, .int .i64 er, .slice av vs.length cv, .int .i64 lu, .int .i64 ld] 27)) w.heap.size [.int .i64 0, .string ⟨#[]⟩, .int .i64 0, .string ⟨#[]⟩, .string ⟨#[]⟩, .int .i64 0, .int .i64 0, .int .i64 0, .int .i64 0, .int .i64 0, .slice none 0 0, .int .i64 0, .int .i64 0] := (HZ.out.gb gY (by simp; omega)).at bY
    have HBW : Hid (Below w.heap.size w (y.alloc (.cells #[.int .i64 kd, .string (tx ss), .int .i64 nu, .string (tx pu), .string (tx te), .int .i64 ru, .int .i64 rd, .int .i64 lo, .int .i64 hg, .int .i64 er, .slice av vs.length cv, .int .i64 lu, .int .i64 ld] 27))) := (HB.out.trans (below_gb gY (by omega) (by omega))).trans (bY.mono (by have := gY.size; have := HB.out.size; omega))
    have hNY : Num (y.alloc (.cells #[.int .i64 kd, .string (tx ss), .int .i64 nu, .string (tx pu), .string (tx te), .int .i64 ru, .int .i64 rd, .int .i64 lo, .int .i64 hg, .int .i64 er, .slice av vs.length cv, .int .i64 lu, .int .i64 ld] 27)) (y.alloc (.cells #[.int .i64 kd, .string (tx ss), .int .i64 nu, .string (tx pu), .string (tx te), .int .i64 ru, .int .i64 rd, .int .i64 lo, .int .i64 hg, .int .i64 er, .slice av vs.length cv, .int .i64 lu, .int .i64 ld] 27)).heap.size (.slice av vs.length cv) vs := (HNM.out.keep bY).mono bY.size
    have HNY : Hid (Num (y.alloc (.cells #[.int .i64 kd, .string (tx ss), .int .i64 nu, .string (tx pu), .string (tx te), .int .i64 ru, .int .i64 rd, .int .i64 lo, .int .i64 hg, .int .i64 er, .slice av vs.length cv, .int .i64 lu, .int .i64 ld] 27)) (y.alloc (.cells #[.int .i64 kd, .string (tx ss), .int .i64 nu, .string (tx pu), .string (tx te), .int .i64 ru, .int .i64 rd, .int .i64 lo, .int .i64 hg, .int .i64 er, .slice av vs.length cv, .int .i64 lu, .int .i64 ld] 27)).heap.size (.slice av vs.length cv) vs) := hNY
    have dY2 := dY.gbn bY
    have rf := dY2.f.c
    obtain ⟨rv, hrv, hro⟩ := dY2.c
    obtain ⟨ra, rc, rfl, -, -, -⟩ := hro
    have rc0 := hrv.c
    have hrl := dY2.l
    clear hNY dY dY2 hrv nm bY
    rw [Bool.false_or] at rf
    cases f with
    | true =>
      have hu := HU.out
      rw [if_pos (.inl rfl)] at hu
      simp only [Prod.mk.injEq] at hu
      obtain ⟨rfl, rfl⟩ := hu
      have v0 := (hDZ 0 _ rfl).c
      have vf0 := (hDZ 0 _ rfl).f
      have v1 := (hDZ 1 _ rfl).c
      have vf1 := (hDZ 1 _ rfl).f
      have v2 := (hDZ 2 _ rfl).c
      have vf2 := (hDZ 2 _ rfl).f
      have v3 := (hDZ 3 _ rfl).c
      have vf3 := (hDZ 3 _ rfl).f
      have v4 := (hDZ 4 _ rfl).c
      have vf4 := (hDZ 4 _ rfl).f
      have v5 := (hDZ 5 _ rfl).c
      have vf5 := (hDZ 5 _ rfl).f
      have v6 := (hDZ 6 _ rfl).c
      have vf6 := (hDZ 6 _ rfl).f
      have v7 := (hDZ 7 _ rfl).c
      have vf7 := (hDZ 7 _ rfl).f
      have v8 := (hDZ 8 _ rfl).c
      have vf8 := (hDZ 8 _ rfl).f
      have v9 := (hDZ 9 _ rfl).c
      have vf9 := (hDZ 9 _ rfl).f
      have v10 := (hDZ 10 _ rfl).c
      have vf10 := (hDZ 10 _ rfl).f
      have v11 := (hDZ 11 _ rfl).c
      have vf11 := (hDZ 11 _ rfl).f
      have v12 := (hDZ 12 _ rfl).c
      have vf12 := (hDZ 12 _ rfl).f
      obtain ⟨Y, hY⟩ : ∃ Y, ((((((((((((((y.alloc (.cells #[.int .i64 kd, .string (tx ss), .int .i64 nu, .string (tx pu), .string (tx te), .int .i64 ru, .int .i64 rd, .int .i64 lo, .int .i64 hg, .int .i64 er, .slice av vs.length cv, .int .i64 lu, .int .i64 ld] 27)).setCell ⟨w.heap.size, 0, none⟩ (.int .i64 0)).setCell ⟨w.heap.size, 1, none⟩ (.string ⟨#[]⟩)).setCell ⟨w.heap.size, 2, none⟩ (.int .i64 0)).setCell ⟨w.heap.size, 3, none⟩ (.string ⟨#[]⟩)).setCell ⟨w.heap.size, 4, none⟩ (.string ⟨#[]⟩)).setCell ⟨w.heap.size, 5, none⟩ (.int .i64 0)).setCell ⟨w.heap.size, 6, none⟩ (.int .i64 0)).setCell ⟨w.heap.size, 7, none⟩ (.int .i64 0)).setCell ⟨w.heap.size, 8, none⟩ (.int .i64 0)).setCell ⟨w.heap.size, 9, none⟩ (.int .i64 0)).setCell ⟨w.heap.size, 10, none⟩ (.slice none 0 0)).setCell ⟨w.heap.size, 11, none⟩ (.int .i64 0)).setCell ⟨w.heap.size, 12, none⟩ (.int .i64 0)) = Y := ⟨_, rfl⟩
      have hYB : Bx Y w.heap.size [.int .i64 0, .string ⟨#[]⟩, .int .i64 0, .string ⟨#[]⟩, .string ⟨#[]⟩, .int .i64 0, .int .i64 0, .int .i64 0, .int .i64 0, .int .i64 0, .slice none 0 0, .int .i64 0, .int .i64 0] := by rw [← hY]; exact (((((((((((((hDZ.set (i := 0) (by simp) (.int .i64 0)).set (i := 1) (by simp) (.string ⟨#[]⟩)).set (i := 2) (by simp) (.int .i64 0)).set (i := 3) (by simp) (.string ⟨#[]⟩)).set (i := 4) (by simp) (.string ⟨#[]⟩)).set (i := 5) (by simp) (.int .i64 0)).set (i := 6) (by simp) (.int .i64 0)).set (i := 7) (by simp) (.int .i64 0)).set (i := 8) (by simp) (.int .i64 0)).set (i := 9) (by simp) (.int .i64 0)).set (i := 10) (by simp) (.slice none 0 0)).set (i := 11) (by simp) (.int .i64 0)).set (i := 12) (by simp) (.int .i64 0))
      have HYB : Hid (Below w.heap.size w Y) := by rw [Hid, ← hY]; exact (bs ((bs ((bs ((bs ((bs ((bs ((bs ((bs ((bs ((bs ((bs ((bs ((bs (HBW.out) (p := ⟨w.heap.size, 0, none⟩) (Nat.le_refl _) _)) (p := ⟨w.heap.size, 1, none⟩) (Nat.le_refl _) _)) (p := ⟨w.heap.size, 2, none⟩) (Nat.le_refl _) _)) (p := ⟨w.heap.size, 3, none⟩) (Nat.le_refl _) _)) (p := ⟨w.heap.size, 4, none⟩) (Nat.le_refl _) _)) (p := ⟨w.heap.size, 5, none⟩) (Nat.le_refl _) _)) (p := ⟨w.heap.size, 6, none⟩) (Nat.le_refl _) _)) (p := ⟨w.heap.size, 7, none⟩) (Nat.le_refl _) _)) (p := ⟨w.heap.size, 8, none⟩) (Nat.le_refl _) _)) (p := ⟨w.heap.size, 9, none⟩) (Nat.le_refl _) _)) (p := ⟨w.heap.size, 10, none⟩) (Nat.le_refl _) _)) (p := ⟨w.heap.size, 11, none⟩) (Nat.le_refl _) _)) (p := ⟨w.heap.size, 12, none⟩) (Nat.le_refl _) _)
      have p0 := (hYB 0 _ rfl).c
      have p1 := (hYB 1 _ rfl).c
      have p2 := (hYB 2 _ rfl).c
      have p3 := (hYB 3 _ rfl).c
      have p4 := (hYB 4 _ rfl).c
      have p5 := (hYB 5 _ rfl).c
      have p6 := (hYB 6 _ rfl).c
      have p7 := (hYB 7 _ rfl).c
      have p8 := (hYB 8 _ rfl).c
      have p9 := (hYB 9 _ rfl).c
      have p10 := (hYB 10 _ rfl).c
      have p11 := (hYB 11 _ rfl).c
      have p12 := (hYB 12 _ rfl).c
      clear hYB hDZ hBM
      go_wp2
      (try simp only [Exit.inBlock, Exit.then])
      refine bodyPost_ret (v := .tuple #[.agg #[.int .i64 0, .string ⟨#[]⟩, .int .i64 0, .string ⟨#[]⟩, .string ⟨#[]⟩, .int .i64 0, .int .i64 0, .int .i64 0, .int .i64 0, .int .i64 0, .slice none 0 0, .int .i64 0, .int .i64 0], .int .i64 2]) (by simp [results, Try.results9, go_sem, p0, p1, p2, p3, p4, p5, p6, p7, p8, p9, p10, p11, p12]) rfl ?_
      exact ⟨_, rfl, num_nil _ _, HYB.out⟩
    | false =>
      by_cases c2 : r = []
      · subst c2
        have hu := HU.out
        rw [if_neg (by simp)] at hu
        simp only [Prod.mk.injEq] at hu
        obtain ⟨rfl, rfl⟩ := hu
        simp only [List.length_nil] at rc0
        have v0 := (hDZ 0 _ rfl).c
        have vf0 := (hDZ 0 _ rfl).f
        have v1 := (hDZ 1 _ rfl).c
        have vf1 := (hDZ 1 _ rfl).f
        have v2 := (hDZ 2 _ rfl).c
        have vf2 := (hDZ 2 _ rfl).f
        have v3 := (hDZ 3 _ rfl).c
        have vf3 := (hDZ 3 _ rfl).f
        have v4 := (hDZ 4 _ rfl).c
        have vf4 := (hDZ 4 _ rfl).f
        have v5 := (hDZ 5 _ rfl).c
        have vf5 := (hDZ 5 _ rfl).f
        have v6 := (hDZ 6 _ rfl).c
        have vf6 := (hDZ 6 _ rfl).f
        have v7 := (hDZ 7 _ rfl).c
        have vf7 := (hDZ 7 _ rfl).f
        have v8 := (hDZ 8 _ rfl).c
        have vf8 := (hDZ 8 _ rfl).f
        have v9 := (hDZ 9 _ rfl).c
        have vf9 := (hDZ 9 _ rfl).f
        have v10 := (hDZ 10 _ rfl).c
        have vf10 := (hDZ 10 _ rfl).f
        have v11 := (hDZ 11 _ rfl).c
        have vf11 := (hDZ 11 _ rfl).f
        have v12 := (hDZ 12 _ rfl).c
        have vf12 := (hDZ 12 _ rfl).f
        have u0 := (hBM 0 _ rfl).c
        have u1 := (hBM 1 _ rfl).c
        have u2 := (hBM 2 _ rfl).c
        have u3 := (hBM 3 _ rfl).c
        have u4 := (hBM 4 _ rfl).c
        have u5 := (hBM 5 _ rfl).c
        have u6 := (hBM 6 _ rfl).c
        have u7 := (hBM 7 _ rfl).c
        have u8 := (hBM 8 _ rfl).c
        have u9 := (hBM 9 _ rfl).c
        have u10 := (hBM 10 _ rfl).c
        have u11 := (hBM 11 _ rfl).c
        have u12 := (hBM 12 _ rfl).c
        obtain ⟨Y, hY⟩ : ∃ Y, ((((((((((((((y.alloc (.cells #[.int .i64 kd, .string (tx ss), .int .i64 nu, .string (tx pu), .string (tx te), .int .i64 ru, .int .i64 rd, .int .i64 lo, .int .i64 hg, .int .i64 er, .slice av vs.length cv, .int .i64 lu, .int .i64 ld] 27)).setCell ⟨w.heap.size, 0, none⟩ (.int .i64 kd)).setCell ⟨w.heap.size, 1, none⟩ (.string (tx ss))).setCell ⟨w.heap.size, 2, none⟩ (.int .i64 nu)).setCell ⟨w.heap.size, 3, none⟩ (.string (tx pu))).setCell ⟨w.heap.size, 4, none⟩ (.string (tx te))).setCell ⟨w.heap.size, 5, none⟩ (.int .i64 ru)).setCell ⟨w.heap.size, 6, none⟩ (.int .i64 rd)).setCell ⟨w.heap.size, 7, none⟩ (.int .i64 lo)).setCell ⟨w.heap.size, 8, none⟩ (.int .i64 hg)).setCell ⟨w.heap.size, 9, none⟩ (.int .i64 er)).setCell ⟨w.heap.size, 10, none⟩ (.slice av vs.length cv)).setCell ⟨w.heap.size, 11, none⟩ (.int .i64 lu)).setCell ⟨w.heap.size, 12, none⟩ (.int .i64 ld)) = Y := ⟨_, rfl⟩
        have hYB : Bx Y w.heap.size [.int .i64 kd, .string (tx ss), .int .i64 nu, .string (tx pu), .string (tx te), .int .i64 ru, .int .i64 rd, .int .i64 lo, .int .i64 hg, .int .i64 er, .slice av vs.length cv, .int .i64 lu, .int .i64 ld] := by rw [← hY]; exact (((((((((((((hDZ.set (i := 0) (by simp) (.int .i64 kd)).set (i := 1) (by simp) (.string (tx ss))).set (i := 2) (by simp) (.int .i64 nu)).set (i := 3) (by simp) (.string (tx pu))).set (i := 4) (by simp) (.string (tx te))).set (i := 5) (by simp) (.int .i64 ru)).set (i := 6) (by simp) (.int .i64 rd)).set (i := 7) (by simp) (.int .i64 lo)).set (i := 8) (by simp) (.int .i64 hg)).set (i := 9) (by simp) (.int .i64 er)).set (i := 10) (by simp) (.slice av vs.length cv)).set (i := 11) (by simp) (.int .i64 lu)).set (i := 12) (by simp) (.int .i64 ld))
        have HYB : Hid (Below w.heap.size w Y) := by rw [Hid, ← hY]; exact (bs ((bs ((bs ((bs ((bs ((bs ((bs ((bs ((bs ((bs ((bs ((bs ((bs (HBW.out) (p := ⟨w.heap.size, 0, none⟩) (Nat.le_refl _) _)) (p := ⟨w.heap.size, 1, none⟩) (Nat.le_refl _) _)) (p := ⟨w.heap.size, 2, none⟩) (Nat.le_refl _) _)) (p := ⟨w.heap.size, 3, none⟩) (Nat.le_refl _) _)) (p := ⟨w.heap.size, 4, none⟩) (Nat.le_refl _) _)) (p := ⟨w.heap.size, 5, none⟩) (Nat.le_refl _) _)) (p := ⟨w.heap.size, 6, none⟩) (Nat.le_refl _) _)) (p := ⟨w.heap.size, 7, none⟩) (Nat.le_refl _) _)) (p := ⟨w.heap.size, 8, none⟩) (Nat.le_refl _) _)) (p := ⟨w.heap.size, 9, none⟩) (Nat.le_refl _) _)) (p := ⟨w.heap.size, 10, none⟩) (Nat.le_refl _) _)) (p := ⟨w.heap.size, 11, none⟩) (Nat.le_refl _) _)) (p := ⟨w.heap.size, 12, none⟩) (Nat.le_refl _) _)
        have HYN : Hid (Num Y Y.heap.size (.slice av vs.length cv) vs) := by
          have s2 := Num.gb (R := w.heap.size) HNY.out (gb_set (gb_set (gb_set (gb_set (gb_set (gb_set (gb_set (gb_set (gb_set (gb_set (gb_set (gb_set (gb_set (gb_refl _ _) 0 (.int .i64 kd)) 1 (.string (tx ss))) 2 (.int .i64 nu)) 3 (.string (tx pu))) 4 (.string (tx te))) 5 (.int .i64 ru)) 6 (.int .i64 rd)) 7 (.int .i64 lo)) 8 (.int .i64 hg)) 9 (.int .i64 er)) 10 (.slice av vs.length cv)) 11 (.int .i64 lu)) 12 (.int .i64 ld)) (by
            intro a n c e
            simp only [Value.slice.injEq] at e
            exact hnew a e.1)
          rw [hY] at s2
          have e6 : (y.alloc (.cells #[.int .i64 kd, .string (tx ss), .int .i64 nu, .string (tx pu), .string (tx te), .int .i64 ru, .int .i64 rd, .int .i64 lo, .int .i64 hg, .int .i64 er, .slice av vs.length cv, .int .i64 lu, .int .i64 ld] 27)).heap.size = Y.heap.size := by rw [← hY]; simp
          rw [e6] at s2
          exact s2
        have p0 := (hYB 0 _ rfl).c
        have p1 := (hYB 1 _ rfl).c
        have p2 := (hYB 2 _ rfl).c
        have p3 := (hYB 3 _ rfl).c
        have p4 := (hYB 4 _ rfl).c
        have p5 := (hYB 5 _ rfl).c
        have p6 := (hYB 6 _ rfl).c
        have p7 := (hYB 7 _ rfl).c
        have p8 := (hYB 8 _ rfl).c
        have p9 := (hYB 9 _ rfl).c
        have p10 := (hYB 10 _ rfl).c
        have p11 := (hYB 11 _ rfl).c
        have p12 := (hYB 12 _ rfl).c
        clear hYB hDZ hBM
        go_wp2
        (try simp only [Exit.inBlock, Exit.then])
        refine bodyPost_ret (v := .tuple #[.agg #[.int .i64 kd, .string (tx ss), .int .i64 nu, .string (tx pu), .string (tx te), .int .i64 ru, .int .i64 rd, .int .i64 lo, .int .i64 hg, .int .i64 er, .slice av vs.length cv, .int .i64 lu, .int .i64 ld], .int .i64 0]) (by simp [results, Try.results9, go_sem, p0, p1, p2, p3, p4, p5, p6, p7, p8, p9, p10, p11, p12]) rfl ?_
        exact ⟨_, rfl, HYN.out, HYB.out⟩
      · have hu := HU.out
        rw [if_pos (.inr c2)] at hu
        simp only [Prod.mk.injEq] at hu
        obtain ⟨rfl, rfl⟩ := hu
        have rl : 0 < r.length := by cases r with | nil => exact absurd rfl c2 | cons _ _ => simp
        have rl2 : (0 : Int) < (r.length : Int) := by omega
        have v0 := (hDZ 0 _ rfl).c
        have vf0 := (hDZ 0 _ rfl).f
        have v1 := (hDZ 1 _ rfl).c
        have vf1 := (hDZ 1 _ rfl).f
        have v2 := (hDZ 2 _ rfl).c
        have vf2 := (hDZ 2 _ rfl).f
        have v3 := (hDZ 3 _ rfl).c
        have vf3 := (hDZ 3 _ rfl).f
        have v4 := (hDZ 4 _ rfl).c
        have vf4 := (hDZ 4 _ rfl).f
        have v5 := (hDZ 5 _ rfl).c
        have vf5 := (hDZ 5 _ rfl).f
        have v6 := (hDZ 6 _ rfl).c
        have vf6 := (hDZ 6 _ rfl).f
        have v7 := (hDZ 7 _ rfl).c
        have vf7 := (hDZ 7 _ rfl).f
        have v8 := (hDZ 8 _ rfl).c
        have vf8 := (hDZ 8 _ rfl).f
        have v9 := (hDZ 9 _ rfl).c
        have vf9 := (hDZ 9 _ rfl).f
        have v10 := (hDZ 10 _ rfl).c
        have vf10 := (hDZ 10 _ rfl).f
        have v11 := (hDZ 11 _ rfl).c
        have vf11 := (hDZ 11 _ rfl).f
        have v12 := (hDZ 12 _ rfl).c
        have vf12 := (hDZ 12 _ rfl).f
        obtain ⟨Y, hY⟩ : ∃ Y, ((((((((((((((y.alloc (.cells #[.int .i64 kd, .string (tx ss), .int .i64 nu, .string (tx pu), .string (tx te), .int .i64 ru, .int .i64 rd, .int .i64 lo, .int .i64 hg, .int .i64 er, .slice av vs.length cv, .int .i64 lu, .int .i64 ld] 27)).setCell ⟨w.heap.size, 0, none⟩ (.int .i64 0)).setCell ⟨w.heap.size, 1, none⟩ (.string ⟨#[]⟩)).setCell ⟨w.heap.size, 2, none⟩ (.int .i64 0)).setCell ⟨w.heap.size, 3, none⟩ (.string ⟨#[]⟩)).setCell ⟨w.heap.size, 4, none⟩ (.string ⟨#[]⟩)).setCell ⟨w.heap.size, 5, none⟩ (.int .i64 0)).setCell ⟨w.heap.size, 6, none⟩ (.int .i64 0)).setCell ⟨w.heap.size, 7, none⟩ (.int .i64 0)).setCell ⟨w.heap.size, 8, none⟩ (.int .i64 0)).setCell ⟨w.heap.size, 9, none⟩ (.int .i64 0)).setCell ⟨w.heap.size, 10, none⟩ (.slice none 0 0)).setCell ⟨w.heap.size, 11, none⟩ (.int .i64 0)).setCell ⟨w.heap.size, 12, none⟩ (.int .i64 0)) = Y := ⟨_, rfl⟩
        have hYB : Bx Y w.heap.size [.int .i64 0, .string ⟨#[]⟩, .int .i64 0, .string ⟨#[]⟩, .string ⟨#[]⟩, .int .i64 0, .int .i64 0, .int .i64 0, .int .i64 0, .int .i64 0, .slice none 0 0, .int .i64 0, .int .i64 0] := by rw [← hY]; exact (((((((((((((hDZ.set (i := 0) (by simp) (.int .i64 0)).set (i := 1) (by simp) (.string ⟨#[]⟩)).set (i := 2) (by simp) (.int .i64 0)).set (i := 3) (by simp) (.string ⟨#[]⟩)).set (i := 4) (by simp) (.string ⟨#[]⟩)).set (i := 5) (by simp) (.int .i64 0)).set (i := 6) (by simp) (.int .i64 0)).set (i := 7) (by simp) (.int .i64 0)).set (i := 8) (by simp) (.int .i64 0)).set (i := 9) (by simp) (.int .i64 0)).set (i := 10) (by simp) (.slice none 0 0)).set (i := 11) (by simp) (.int .i64 0)).set (i := 12) (by simp) (.int .i64 0))
        have HYB : Hid (Below w.heap.size w Y) := by rw [Hid, ← hY]; exact (bs ((bs ((bs ((bs ((bs ((bs ((bs ((bs ((bs ((bs ((bs ((bs ((bs (HBW.out) (p := ⟨w.heap.size, 0, none⟩) (Nat.le_refl _) _)) (p := ⟨w.heap.size, 1, none⟩) (Nat.le_refl _) _)) (p := ⟨w.heap.size, 2, none⟩) (Nat.le_refl _) _)) (p := ⟨w.heap.size, 3, none⟩) (Nat.le_refl _) _)) (p := ⟨w.heap.size, 4, none⟩) (Nat.le_refl _) _)) (p := ⟨w.heap.size, 5, none⟩) (Nat.le_refl _) _)) (p := ⟨w.heap.size, 6, none⟩) (Nat.le_refl _) _)) (p := ⟨w.heap.size, 7, none⟩) (Nat.le_refl _) _)) (p := ⟨w.heap.size, 8, none⟩) (Nat.le_refl _) _)) (p := ⟨w.heap.size, 9, none⟩) (Nat.le_refl _) _)) (p := ⟨w.heap.size, 10, none⟩) (Nat.le_refl _) _)) (p := ⟨w.heap.size, 11, none⟩) (Nat.le_refl _) _)) (p := ⟨w.heap.size, 12, none⟩) (Nat.le_refl _) _)
        have p0 := (hYB 0 _ rfl).c
        have p1 := (hYB 1 _ rfl).c
        have p2 := (hYB 2 _ rfl).c
        have p3 := (hYB 3 _ rfl).c
        have p4 := (hYB 4 _ rfl).c
        have p5 := (hYB 5 _ rfl).c
        have p6 := (hYB 6 _ rfl).c
        have p7 := (hYB 7 _ rfl).c
        have p8 := (hYB 8 _ rfl).c
        have p9 := (hYB 9 _ rfl).c
        have p10 := (hYB 10 _ rfl).c
        have p11 := (hYB 11 _ rfl).c
        have p12 := (hYB 12 _ rfl).c
        clear hYB hDZ hBM
        go_wp2
        (try simp only [Exit.inBlock, Exit.then])
        refine bodyPost_ret (v := .tuple #[.agg #[.int .i64 0, .string ⟨#[]⟩, .int .i64 0, .string ⟨#[]⟩, .string ⟨#[]⟩, .int .i64 0, .int .i64 0, .int .i64 0, .int .i64 0, .int .i64 0, .slice none 0 0, .int .i64 0, .int .i64 0], .int .i64 2]) (by simp [results, Try.results9, go_sem, p0, p1, p2, p3, p4, p5, p6, p7, p8, p9, p10, p11, p12]) rfl ?_
        exact ⟨_, rfl, num_nil _ _, HYB.out⟩
end Go.Proofs.Ytnoedkebmpfagaa
