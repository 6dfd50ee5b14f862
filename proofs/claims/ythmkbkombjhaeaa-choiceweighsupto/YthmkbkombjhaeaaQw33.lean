import Derived.Test.YthmkbkombjhaeaaQw26
import Derived.Test.YthmkbkombjhaeaaQw32
namespace Go.Proofs.Ythmkbkombjhaeaa
open Go.RowKit Go.Proofs.Ythmkbkombjhaeaa.Ds

/-- all orders of so many -/
def psL (s : List Nat) : List (List Nat) := Ps.ordL (List.range s.length).reverse
theorem psL_mem {s p : List Nat} (h : p ∈ psL s) : p.Nodup ∧ p.length = s.length ∧ ∀ a ∈ p, a < s.length := by
  have h1 := (Ps.ord_perm h).trans (List.reverse_perm _)
  refine ⟨h1.nodup_iff.2 List.nodup_range, by rw [h1.length_eq, List.length_range], fun a ha => List.mem_range.1 (h1.subset ha)⟩
theorem RowI.oth {gw : Nat} {w : World} {xs : List Int} (h : RowI w gw xs) : RowI w.drew gw xs := ⟨h.cells, h.thaw, h.lt⟩

theorem pI_drop {U : Nat → Int} (h1 : ∀ a, 1 ≤ U a) : ∀ (q : List Nat) (t : Nat), Ps.pI U (q.drop t) ≤ Ps.pI U q
  | [], t => by simp
  | a :: q, 0 => by simp
  | a :: q, t + 1 => by
    have h2 := pI_drop h1 q t
    have h3 : 1 ≤ Ps.pI U q := Ps.pI_nn h1
    have h4 := Int.mul_le_mul_of_nonneg_right (h1 a) (show (0 : Int) ≤ Ps.pI U q by omega)
    rw [Int.one_mul] at h4
    show Ps.pI U (q.drop t) ≤ _
    exact Int.le_trans h2 (by rw [Ps.pI_cons]; exact h4)

set_option maxHeartbeats 8000000 in
set_option maxRecDepth 100000 in
theorem rflip_any (B : Nat) (u d : Int) (v : Value) (l : List Int) (w : World) (h : Num w B v l) (hB : B ≤ w.heap.size) (k : List Pt) (er : Int) (hr : flipT u d l = (k, er)) :
    Calls Try.prog 11 #[rv u d, v] w fun e w' => AnsR w k er e w' := by
  have HN : Hid (Num w B v l) := h
  have HR : Hid (flipT u d l = (k, er)) := hr
  obtain ⟨e0, he0⟩ : ∃ e0, choE u d l = e0 := ⟨_, rfl⟩
  have HE0 : Hid (choE u d l = e0) := he0
  obtain ⟨fs, hfs⟩ : ∃ fs, (if e0 = 0 then farI l else []) = fs := ⟨_, rfl⟩
  have HFS : Hid ((if e0 = 0 then farI l else []) = fs) := hfs
  have km := fun W h2 hB2 => rbelow_any B u d v l W h2 hB2 e0 he0 fs hfs
  obtain ⟨a, c, rfl, hc, hl, _⟩ := h
  clear hr he0 hfs
  by_cases c0 : e0 = 0
  · subst c0
    obtain ⟨hright, hdu, hd1, l1, l8, hnum, h64⟩ := cho_ok HE0.out
    have hu2 := (Rt.right_bd hright).2.1
    have hd2 : d ≤ 1073741824 := by omega
    have hu1 : 1 ≤ u := by omega
    obtain ⟨s, hs⟩ : ∃ s, belT l = s := ⟨_, rfl⟩
    have hsl : s.length = l.length := by rw [← hs, bel_len]
    have hfe : fs = asI s := by have := HFS.out; rw [if_pos rfl] at this; rw [← this, ← hs]; exact farI_as l
    have HFe : Hid (fs = asI s) := hfe
    have hfl : fs.length = l.length := by rw [hfe, asI_len, hsl]
    have hs64 : ∀ m ∈ s, m ≤ 64 := by
      rw [← hs]
      intro m hm
      obtain ⟨n, hn, rfl⟩ := List.mem_map.1 hm
      have := h64 n hn
      omega
    have HS64 : Hid (∀ m ∈ s, m ≤ 64) := hs64
    have HSl : Hid (s.length = l.length) := hsl
    have HFl : Hid (fs.length = l.length) := hfl
    have hk := HR.out
    unfold flipT at hk
    rw [HE0.out, if_neg (by simp), hs] at hk
    have HK : Hid ((if 1073741824 < wayN u s s.length then (([] : List Pt), (4 : Int)) else makeT (numL l.length (Ps.flW u d s))) = (k, er)) := by
      show _ = _
      unfold wayN
      rw [hsl]
      exact hk
    clear hs hsl hright hnum h64 HFS hfe hk hs64
    go_enter Try.func11, Try.ntmps11
    go_wp2_with fail
    refine (km _ (HN.out.at hB (ba _ _)) (by simp; omega)).mono ?_
    rintro e w1 ⟨v1, rfl, hn1, hb1⟩
    clear km
    have G1 := bt (ba _ _) hb1
    obtain ⟨hc1, hf1⟩ := bcell hb1
    have k0 : w1.cell? ⟨w.heap.size, 0, none⟩ = some (.int .i64 u) := by rw [hc1 _ _ (by simp)]; simp [go_sem]
    have k1 : w1.cell? ⟨w.heap.size, 1, none⟩ = some (.int .i64 d) := by rw [hc1 _ _ (by simp)]; simp [go_sem]
    have klt : w.heap.size < w1.heap.size := by have := hb1.size; simp at this; omega
    obtain ⟨b0, o0, fc, x0, hv1, hfc, hfb, _, _⟩ := hn1.get (i := 0) (by omega)
    subst hv1
    rw [hfl] at hfc ⊢
    have HN1 : Hid (Num w1 w1.heap.size (.slice (some ⟨b0, o0, none⟩) l.length fc) fs) := by have := hn1; rwa [hfl] at this
    have HC1 : Hid (∀ (a m : Nat), s[a]? = some m → w1.cell? ⟨b0, o0 + a, none⟩ = some (.int .i64 ((m : Nat) : Int))) := by
      intro a m ham
      have hal : a < fs.length := by rw [HFl.out, ← HSl.out]; exact (List.getElem?_eq_some_iff.1 ham).1
      obtain ⟨b, o, c', x, he, _, _, hx, hcx⟩ := HN1.out.get hal
      simp only [Value.slice.injEq, Option.some.injEq, Addr.mk.injEq] at he
      obtain ⟨⟨rfl, rfl, -⟩, -, rfl⟩ := he
      rw [HFe.out] at hx
      simp [asI, ham] at hx
      rw [hcx, ← hx]
    clear hc1 hf1 hb1 hn1 hfl
    go_wp2
    go_loopw [8, 32] (fun mv iv wr => ∃ (i : Nat) (z : Int), i ≤ l.length ∧ Hid (lim (wayN u s i) = z) ∧ mv = .int .i64 z ∧ iv = .int .i64 (i : Int) ∧ Below w1.heap.size w1 wr) (fun _ iv _ => l.length - (intOf iv).toNat)
    case atStart => exact ⟨0, 1, Nat.zero_le _, (by show _ = _; rw [way_zero]; rfl), rfl, rfl, Below.refl _ _⟩
    case round =>
      obtain ⟨i, z, hi, HZ, rfl, rfl, hbl⟩ := hrel
      by_cases h1 : i < l.length
      · obtain ⟨mk, hmk⟩ := get_lt (l := s) (i := i) (by rw [HSl.out]; exact h1)
        have hcx : wr.cell? ⟨b0, o0 + i, none⟩ = some (.int .i64 ((mk : Nat) : Int)) := (hbl.cell (p := ⟨b0, o0 + i, none⟩) hfb).trans (HC1.out i mk hmk)
        have egk : s.getD i 0 = mk := by simp [List.getD, hmk]
        have hmk64 := HS64.out mk (List.mem_of_getElem? hmk)
        have hzf : Fac z := by
          have := lim_bd (way_pos hu1 s i)
          rw [HZ.out] at this
          exact ⟨this.1, this.2.1⟩
        have f2 : Fac ((i : Int) + 1) := ⟨by omega, by omega⟩
        have f3 : Fac (lim (z * ((i : Int) + 1))) := by
          have := lim_bd (mul1 hzf.1 f2.1)
          exact ⟨this.1, this.2.1⟩
        have f4 : Fac (lim (u ^ (((mk : Nat) : Int)).toNat)) := pow_fac hu1 _
        have HS : Hid (lim (wayN u s (i + 1)) = lim (lim (z * ((i : Int) + 1)) * lim (u ^ (((mk : Nat) : Int)).toNat))) := by
          show _ = _
          rw [← way_step hu1, HZ.out, egk, Int.toNat_natCast]
        have j0 : wr.cell? ⟨w.heap.size, 0, none⟩ = some (.int .i64 u) := (hbl.cell (p := ⟨w.heap.size, 0, none⟩) klt).trans k0
        have hwr : IntKind.i64.wrap ((i : Int) + 1) = (i : Int) + 1 := by rw [IntKind.wrap_i64]; omega
        have HBr : Hid (Below w1.heap.size w1 wr.drew) := hbl.drew
        have HZF : Hid (Fac z) := hzf
        have HF2 : Hid (Fac ((i : Int) + 1)) := f2
        have HF3 : Hid (Fac (lim (z * ((i : Int) + 1)))) := f3
        have HF4 : Hid (Fac (lim (u ^ (((mk : Nat) : Int)).toNat))) := f4
        clear hmk egk HZ hzf f2 f3 f4
        go_wp2
        go_region_held3 (fun w' => w'.cell? ⟨w.heap.size, 0, none⟩ = some (.int .i64 u))
          ((first | assumption | (simp [go_sem, *]; done)))
          (first
            | (go_at_call 29; refine (rpowI_any _ _ _ ?_ ?_ ?_ ?_).mono ?_; (omega); (omega); (omega); (omega); rintro x5 w5 ⟨rfl, rfl⟩)
            | (go_at_call 28; refine (rprod_any _ _ ?_ ?_ _).mono ?_; (first | exact HF3.out | exact HZF.out); (first | exact HF4.out | exact HF2.out); rintro x6 w6 ⟨rfl, rfl⟩))
        all_goals
          go_wp2
          go_roundw
          case rel => exact ⟨i + 1, _, h1, HS, by first | rfl | (simp), by go_num, HBr.out⟩
          case measure => simp [intOf]; omega
      · have hii : i = l.length := by omega
        have hzw : lim (wayN u s s.length) = z := by rw [← HZ.out, hii, HSl.out]
        have G2 := bt G1 hbl
        by_cases cz : 1073741824 < z
        · have h2 : 1073741824 < wayN u s s.length := by
            rw [lim_min] at hzw
            omega
          have hk := HK.out
          rw [if_pos h2] at hk
          simp only [Prod.mk.injEq] at hk
          obtain ⟨rfl, rfl⟩ := hk
          clear HZ HK HR h2 hzw hii
          go_wp2
          exact bodyPost_ret (v := .tuple #[.slice none 0 0, .int .i64 4]) (by simp [results, Try.results11, go_sem]) rfl (ansRNo G2)
        · have hwy : wayN u s s.length ≤ 1073741824 := by
            rw [lim_min] at hzw
            omega
          have HWy : Hid (wayN u s s.length ≤ 1073741824) := hwy
          have HMk : Hid (makeT (numL l.length (Ps.flW u d s)) = (k, er)) := by
            have hk := HK.out
            rw [if_neg (by omega)] at hk
            exact hk
          obtain ⟨w2, hw2⟩ : ∃ w2 : World, w2 = wr := ⟨_, rfl⟩
          subst hw2
          have hmkI := make_ints l.length (by omega) w2
          have ko := fun W => orders_any l.length l8 (l.length : Int) W rfl
          clear HZ HK HR hzw hwy hii
          go_wp2_with fail
          refine (ko _).mono ?_
          rintro e w3 ⟨v3, os, rfl, hos, hl3, hfu, hb3⟩
          clear ko hmkI
          have hbw : Below w2.heap.size w2 w3 := bt (ba w2 _) hb3
          have hrow3 := (RowI.made w2 l.length).keep hb3 (by simp)
          obtain ⟨oa, oc, rfl⟩ := hl3.slice
          have HOs : Hid (os.map (·.2) = ordI l.length) := hos
          have hlt3 : w2.heap.size < w3.heap.size := hrow3.lt
          have hpsl : (psL s).map asI = os.map (·.2) := by rw [hos]; unfold psL ordI; rw [HSl.out]
          have hoslen : os.length = (psL s).length := by have := congrArg List.length hpsl; simpa using this.symm
          have hos40 : os.length ≤ 40320 := by rw [hoslen]; unfold psL; rw [Ps.ord_len, List.length_reverse, List.length_range, HSl.out]; exact fact_le _ l8
          have HLo : Hid (∀ j, j < os.length → ∃ b c g cap p, oa = some ⟨b, 0, none⟩ ∧ oc = c ∧ os.length ≤ c ∧ b ≠ w2.heap.size ∧ b < w3.heap.size ∧ (psL s)[j]? = some p ∧ w3.cell? ⟨b, j, none⟩ = some (.slice (some ⟨g, 0, none⟩) l.length cap) ∧ l.length ≤ cap ∧ g ≠ w2.heap.size ∧ g < w3.heap.size ∧ ∀ (t x : Nat), p[t]? = some x → w3.cell? ⟨g, t, none⟩ = some (.int .i64 (x : Int))) := by
            intro j hj
            obtain ⟨b, c, g, cap, xs, hv, hcc, hlb, hb, ht, hct, hxc, _, hg, hx⟩ := hl3.get hj
            simp only [Value.slice.injEq] at hv
            obtain ⟨p, hp⟩ := get_lt (l := psL s) (i := j) (by omega)
            have hxp : xs = asI p := by
              have h5 : (os.map (·.2))[j]? = some xs := by simp [ht]
              rw [← hpsl] at h5
              simp [hp] at h5
              exact h5.symm
            have hpl := (psL_mem (List.mem_of_getElem? hp)).2.1
            have hxl : xs.length = l.length := by rw [hxp, asI_len, hpl, HSl.out]
            have hgl := hfu _ (List.mem_of_getElem? ht) g _ _ rfl
            simp at hlb hgl
            rw [hxl] at hct hxc
            refine ⟨b, c, g, cap, p, hv.1, hv.2.2, hcc, by omega, hb, hp, hct, hxc, by omega, hg, fun t x htx => hx t _ ?_⟩
            rw [hxp]
            simp [asI, htx]
          have HRow3 : Hid (RowI w3 w2.heap.size (List.replicate l.length 0)) := hrow3
          have HW0 : Hid (Wts u d s (psL s) 0 (List.replicate l.length 0)) := by
            refine ⟨by rw [HSl.out]; simp, fun i hi => ?_⟩
            simp [List.getD, Ps.sumI, show i < l.length by rw [← HSl.out]; exact hi]
          have HSm : Hid (∀ (a m : Nat), s[a]? = some m → w3.cell? ⟨b0, o0 + a, none⟩ = some (.int .i64 ((m : Nat) : Int))) := fun a m ham => ((bt hbl hbw).cell (p := ⟨b0, o0 + a, none⟩) hfb).trans (HC1.out a m ham)
          have q0 : w3.cell? ⟨w.heap.size, 0, none⟩ = some (.int .i64 u) := ((bt hbl hbw).cell (p := ⟨w.heap.size, 0, none⟩) klt).trans k0
          have q1 : w3.cell? ⟨w.heap.size, 1, none⟩ = some (.int .i64 d) := ((bt hbl hbw).cell (p := ⟨w.heap.size, 1, none⟩) klt).trans k1
          have hsz := hbl.size
          have HOL : Hid (os.length = (psL s).length) := hoslen
          clear hos hl3 hfu hrow3 hpsl hb3 HOs hoslen
          go_wp2
          go_loopw [56] (fun iv wq => ∃ (j : Nat) (ws : List Int), j ≤ os.length ∧ iv = .int .i64 (j : Int) ∧ Hid (Wts u d s (psL s) j ws) ∧ Hid (RowI wq w2.heap.size ws) ∧ Hid (Oth w2.heap.size w3 wq) ∧ Below w2.heap.size w2 wq) (fun iv _ => os.length - (intOf iv).toNat)
          case atStart => exact ⟨0, _, Nat.zero_le _, rfl, HW0, HRow3, Oth.refl _ _, hbw⟩
          case round =>
            obtain ⟨j, ws, hj, rfl, HWt, HRw, HOt, hbq⟩ := hrel
            obtain ⟨wq, hwq⟩ : ∃ wq : World, wq = wr := ⟨_, rfl⟩
            subst hwq
            by_cases h2 : j < os.length
            · obtain ⟨b, cx, g, cap, p, rfl, rfl, hcc, hbne, hb, hp, hct, hcap, hgne, hg, hpc⟩ := HLo.out j h2
              have HP : Hid ((psL s)[j]? = some p) := hp
              have HPm : Hid (p.Nodup ∧ p.length = s.length ∧ ∀ a ∈ p, a < s.length) := psL_mem (List.mem_of_getElem? hp)
              have HPc : Hid (∀ (t x : Nat), p[t]? = some x → w3.cell? ⟨g, t, none⟩ = some (.int .i64 (x : Int))) := hpc
              have r0 : wq.cell? ⟨b, j, none⟩ = some (.slice (some ⟨g, 0, none⟩) l.length cap) := (HOt.out.cell b j hbne hb).trans hct
              have hlb := HOt.out.size
              have HSo : Hid (Sof (upW u s) (upW d s) p 0 1 ws (fun i => ws.getD i 0 + Ps.valI (upW u s) (upW d s) i p)) := Sof.start HPm.out.1
              have HTb : Hid (∀ i, i < ws.length → ws.getD i 0 + Ps.valI (upW u s) (upW d s) i p ≤ wayN u s s.length) := by
                intro i hi
                rw [HWt.out.1] at hi
                have h5 := (wts_bd hd1 hdu s (j + 1) i).2
                have h6 : Ps.sumI (Ps.valI (upW u s) (upW d s) i) ((Ps.ordL (List.range s.length).reverse).take (j + 1)) = ws.getD i 0 + Ps.valI (upW u s) (upW d s) i p := by
                  rw [HWt.out.2 i hi]
                  show Ps.sumI _ ((psL s).take (j + 1)) = _
                  rw [List.take_add_one, HP.out, Ps.sumI_append]
                  simp [Ps.sumI]
                rw [h6] at h5
                exact h5
              have HpA : Hid (Ps.pI (upW u s) p ≤ wayN u s s.length) := pI_le_way hu1 (List.mem_of_getElem? HP.out)
              obtain ⟨T, hT⟩ : ∃ T, (fun i => ws.getD i 0 + Ps.valI (upW u s) (upW d s) i p) = T := ⟨_, rfl⟩
              have HT : Hid (∀ i, T i = ws.getD i 0 + Ps.valI (upW u s) (upW d s) i p) := fun i => by rw [← hT]
              rw [hT] at HSo
              have HTb2 : Hid (∀ i, i < s.length → T i ≤ wayN u s s.length) := fun i hi => by rw [HT.out]; exact HTb.out i (by rw [HWt.out.1]; exact hi)
              have HNn : Hid (∀ x ∈ ws, (0 : Int) ≤ x) := by
                intro x hx
                obtain ⟨i, hi, rfl⟩ := List.getElem_of_mem hx
                have h5 := HWt.out.2 i (by rw [← HWt.out.1]; exact hi)
                have h6 := (wts_bd hd1 hdu s j i).1
                have h7 : ws.getD i 0 = ws[i] := by simp [List.getD, hi]
                rw [h7] at h5
                rw [h5]
                exact h6
              clear hp hpc hct hT HTb
              go_wp2
              go_loopw [14, 62] (fun sv kv wz => ∃ (kk : Nat) (cc : Int) (vs : List Int), kk ≤ l.length ∧ sv = .int .i64 cc ∧ kv = .int .i64 (kk : Int) ∧ vs.length = s.length ∧ Hid (∀ x ∈ vs, (0 : Int) ≤ x) ∧ Hid (Sof (upW u s) (upW d s) p kk cc vs T) ∧ Hid (RowI wz w2.heap.size vs) ∧ Hid (Oth w2.heap.size w3 wz) ∧ Below w2.heap.size w2 wz) (fun _ kv _ => l.length - (intOf kv).toNat)
              case atStart => exact ⟨0, 1, ws, Nat.zero_le _, rfl, rfl, HWt.out.1, HNn, HSo, HRw, HOt, hbq⟩
              case round =>
                obtain ⟨kk, cc, vs, hkk, rfl, rfl, hvs, HN2, HSo2, HRw2, HOt2, hbz⟩ := hrel
                obtain ⟨wz, hwz⟩ : ∃ wz : World, wz = wr := ⟨_, rfl⟩
                subst hwz
                have HVs : Hid (vs.length = s.length) := hvs
                clear hvs
                by_cases h3 : kk < l.length
                · obtain ⟨aa, haa⟩ := get_lt (l := p) (i := kk) (by rw [HPm.out.2.1, HSl.out]; exact h3)
                  have haln := HPm.out.2.2 aa (List.mem_of_getElem? haa)
                  obtain ⟨mk, hmk⟩ := get_lt haln
                  have hmk64 := HS64.out mk (List.mem_of_getElem? hmk)
                  have egk : s.getD aa 0 = mk := by simp [List.getD, hmk]
                  have hD : ∀ a, 0 ≤ upW d s a := fun a => by have := up_pos hd1 s a; omega
                  have hU1 : ∀ a, 1 ≤ upW u s a := fun a => up_pos hu1 s a
                  have hbds := HSo2.out.bds hD (up_le hd1 hdu s) hU1 haa (by rw [HVs.out]; exact haln) HpA.out (fun i hi => HTb2.out i (by rw [← HVs.out]; exact hi))
                  have hstep := HSo2.out.step hD (up_le hd1 hdu s) hU1 haa (by rw [HVs.out]; exact haln)
                  have r1 : wz.cell? ⟨g, kk, none⟩ = some (.int .i64 (aa : Int)) := (HOt2.out.cell g kk hgne hg).trans (HPc.out kk aa haa)
                  have r2 : wz.cell? ⟨w.heap.size, 1, none⟩ = some (.int .i64 d) := (HOt2.out.cell _ _ (by omega) (by omega)).trans q1
                  have r3 : wz.cell? ⟨w.heap.size, 0, none⟩ = some (.int .i64 u) := (HOt2.out.cell _ _ (by omega) (by omega)).trans q0
                  have r4 : wz.cell? ⟨b0, o0 + aa, none⟩ = some (.int .i64 ((mk : Nat) : Int)) := (HOt2.out.cell _ _ (by omega) (by omega)).trans (HSm.out aa mk hmk)
                  obtain ⟨Ua, hUa⟩ : ∃ x, upW u s aa = x := ⟨_, rfl⟩
                  obtain ⟨Da, hDa⟩ : ∃ x, upW d s aa = x := ⟨_, rfl⟩
                  have hUb : Ua ≤ 1073741824 := by
                    have h7 := (pI_take hU1 haa).2.2.2
                    have h8 := HpA.out
                    have h9 := HWy.out
                    rw [hUa] at h7
                    omega
                  have hDb : Da ≤ Ua := by rw [← hUa, ← hDa]; exact up_le hd1 hdu s aa
                  have kD : ∀ W, Calls Try.prog 29 #[.int .i64 d, .int .i64 ((mk : Nat) : Int)] W fun e w' => e = .returned (.int .i64 Da) ∧ w' = W := fun W => rpow_any d mk (by omega) hd1 hd2 Da (by rw [← hDa]; unfold upW; rw [egk]; refine lim_of ?_; rw [← egk]; show upW d s aa ≤ _; omega) W
                  have kU : ∀ W, Calls Try.prog 29 #[.int .i64 u, .int .i64 ((mk : Nat) : Int)] W fun e w' => e = .returned (.int .i64 Ua) ∧ w' = W := fun W => rpow_any u mk (by omega) hu1 hu2 Ua (by rw [← hUa]; unfold upW; rw [egk]; refine lim_of ?_; rw [← egk]; show upW u s aa ≤ _; omega) W
                  have ia : (aa : Int) < (l.length : Int) := by have := HSl.out; omega
                  have ia0 : (0 : Int) ≤ (aa : Int) := by omega
                  have HRq : Hid (Ps.pI (upW u s) (p.drop (kk + 1)) ≤ 1073741824) := by
                    have h7 := pI_drop hU1 p (kk + 1)
                    have h8 := HpA.out
                    have h9 := HWy.out
                    show _ ≤ _
                    omega
                  have HMk2 : Hid (s[aa]? = some mk) := hmk
                  clear hmk
                  go_wp2
                  go_region_held3 (fun w' => w'.cell? ⟨w.heap.size, 1, none⟩ = some (.int .i64 d) ∧ w'.cell? ⟨b0, o0 + aa, none⟩ = some (.int .i64 ((mk : Nat) : Int)))
                    ((go_split_ands; refine ⟨?_, ?_⟩ <;> first | assumption | (simp [go_sem, *]; done)))
                    ((go_at_call 29; refine (kD _).mono ?_; rintro x5 w5 ⟨rfl, rfl⟩))
                  obtain ⟨wa, hwa⟩ : ∃ wa, wz.drew = wa := ⟨_, rfl⟩
                  have HRwA : Hid (RowI wa w2.heap.size vs) := hwa ▸ HRw2.out.oth
                  have HOtA : Hid (Oth w2.heap.size w3 wa) := hwa ▸ HOt2.out.drew
                  have hba : Below w2.heap.size w2 wa := hwa ▸ hbz.drew
                  rw [hwa]
                  clear hwa kD
                  go_wp2
                  case inl =>
                    go_loopw [18, 79] (fun rv tv wy => ∃ (t : Nat) (R : Int), t ≤ l.length - (kk + 1) ∧ rv = .int .i64 R ∧ tv = .int .i64 (t : Int) ∧ Hid (Ps.pI (upW u s) ((p.drop (kk + 1)).take t) = R) ∧ Hid (RowI wy w2.heap.size vs) ∧ Hid (Oth w2.heap.size w3 wy) ∧ Below w2.heap.size w2 wy) (fun _ tv _ => l.length - (kk + 1) - (intOf tv).toNat)
                    case atStart => exact ⟨0, 1, Nat.zero_le _, rfl, rfl, rfl, HRwA, HOtA, hba⟩
                    case round =>
                      obtain ⟨t, R, ht, rfl, rfl, HR4, HRw4, HOt4, hb4⟩ := hrel
                      by_cases h4 : t < l.length - (kk + 1)
                      · exact absurd h (by omega)
                      · have hRR : Ps.pI (upW u s) (p.drop (kk + 1)) = R := by
                          have := HR4.out
                          rwa [List.take_of_length_le (by rw [List.length_drop, HPm.out.2.1, HSl.out]; omega)] at this
                        obtain ⟨wy, hwy⟩ : ∃ wy : World, wy = wr := ⟨_, rfl⟩
                        subst hwy
                        rw [hUa, hDa, hRR] at hbds hstep
                        obtain ⟨X, hX⟩ : ∃ X, vs.getD aa 0 = X := ⟨_, rfl⟩
                        obtain ⟨P1, hP1⟩ : ∃ x, cc * Da = x := ⟨_, rfl⟩
                        obtain ⟨P2, hP2⟩ : ∃ x, P1 * R = x := ⟨_, rfl⟩
                        obtain ⟨C2, hC2⟩ : ∃ x, cc * (Ua - Da) = x := ⟨_, rfl⟩
                        rw [hX, hP1, hP2, hC2] at hbds hstep
                        obtain ⟨v1, v2, v3, v4, v5, v6, v7, v8⟩ := hbds
                        have hWy := HWy.out
                        have x0 : wy.cell? ⟨w2.heap.size, aa, none⟩ = some (.int .i64 X) := HRw4.out.cells aa X (by rw [← hX]; simp [List.getD, List.getElem?_eq_getElem (show aa < vs.length by rw [HVs.out]; exact haln)])
                        have x1 := HRw4.out.thaw aa (by rw [HVs.out]; exact haln)
                        have x2 := HRw4.out.lt
                        have hX0 : 0 ≤ X := by
                          have hal9 : aa < vs.length := by rw [HVs.out]; exact haln
                          rw [← hX]
                          simp only [List.getD, List.getElem?_eq_getElem hal9, Option.getD_some]
                          exact HN2.out _ (List.getElem_mem hal9)
                        have HSt : Hid (Sof (upW u s) (upW d s) p (kk + 1) C2 (vs.set aa (X + P2)) T) := hstep
                        have HRw6 : Hid (RowI (wy.setCell ⟨w2.heap.size, aa, none⟩ (.int .i64 (X + P2))) w2.heap.size (vs.set aa (X + P2))) := HRw4.out.set aa (X + P2)
                        have HOt6 : Hid (Oth w2.heap.size w3 (wy.setCell ⟨w2.heap.size, aa, none⟩ (.int .i64 (X + P2)))) := HOt4.out.set aa _
                        have HB6 : Hid (Below w2.heap.size w2 (wy.setCell ⟨w2.heap.size, aa, none⟩ (.int .i64 (X + P2)))) := bs hb4 (Nat.le_refl _) _
                        have hal2 : aa < vs.length := by rw [HVs.out]; exact haln
                        have HN6 : Hid (∀ x ∈ vs.set aa (X + P2), (0 : Int) ≤ x) := by
                          intro x hx
                          rcases List.mem_or_eq_of_mem_set hx with h8 | h8
                          · exact HN2.out x h8
                          · omega
                        have HV6 : Hid ((vs.set aa (X + P2)).length = s.length) := by show _ = _; rw [List.length_set]; exact HVs.out
                        have y2 : (wy.setCell ⟨w2.heap.size, aa, none⟩ (.int .i64 (X + P2))).cell? ⟨w.heap.size, 0, none⟩ = some (.int .i64 u) := by
                          rw [sc_other (fun hh => by simp only [Addr.mk.injEq] at hh; omega)]
                          exact (HOt4.out.cell _ _ (by omega) (by omega)).trans q0
                        have y3 : (wy.setCell ⟨w2.heap.size, aa, none⟩ (.int .i64 (X + P2))).cell? ⟨b0, o0 + aa, none⟩ = some (.int .i64 ((mk : Nat) : Int)) := by
                          rw [sc_other (fun hh => by simp only [Addr.mk.injEq] at hh; omega)]
                          exact (HOt4.out.cell _ _ (by omega) (by omega)).trans (HSm.out aa mk HMk2.out)
                        have e1 : IntKind.i64.wrap P1 = P1 := by rw [IntKind.wrap_i64]; omega
                        have e2 : IntKind.i64.wrap P2 = P2 := by rw [IntKind.wrap_i64]; omega
                        have e3 : IntKind.i64.wrap (X + P2) = X + P2 := by rw [IntKind.wrap_i64]; omega
                        have hda1 : 1 ≤ Da := by rw [← hDa]; exact up_pos hd1 s aa
                        have e4 : IntKind.i64.wrap (Ua - Da) = Ua - Da := by rw [IntKind.wrap_i64]; omega
                        have e5 : IntKind.i64.wrap C2 = C2 := by rw [IntKind.wrap_i64]; omega
                        clear hstep hRR hX hUa hDa HR4 HRw4 HOt4 hb4 HRwA HOtA hba v1 v2 v3 v4 v5 v6 v7 v8
                        go_wp2
                        obtain ⟨wb, hwb⟩ : ∃ wb, wy.setCell ⟨w2.heap.size, aa, none⟩ (.int .i64 (X + P2)) = wb := ⟨_, rfl⟩
                        rw [hwb] at HRw6 HOt6 HB6 y2 y3 ⊢
                        clear hwb e1 e2 e3 hP1 hP2 hX0 x0 x1 x2 hal2 hWy
                        go_region_held3 (fun w' => w'.cell? ⟨w.heap.size, 0, none⟩ = some (.int .i64 u) ∧ w'.cell? ⟨b0, o0 + aa, none⟩ = some (.int .i64 ((mk : Nat) : Int)))
                          ((go_split_ands; refine ⟨?_, ?_⟩ <;> first | assumption | (simp [go_sem, *]; done)))
                          ((go_at_call 29; refine (kU _).mono ?_; rintro x5 w5 ⟨rfl, rfl⟩))
                        clear e4 hC2 HN2 HSo2 HRw2 HOt2 hbz HMk2 kU r0 r1 r2 r3 r4
                        go_wp2
                        rw [← h]
                        go_roundw
                        case rel => exact ⟨kk + 1, C2, vs.set aa (X + P2), h3, by first | rfl | (simp [e5]), by go_num, HV6.out, HN6, HSt, HRw6.out.oth, HOt6.out.drew, HB6.out.drew⟩
                        case measure => simp [intOf]; omega
                  case inr =>
                    go_loopw [18, 79] (fun rv tv wy => ∃ (t : Nat) (R : Int), t ≤ l.length - (kk + 1) ∧ rv = .int .i64 R ∧ tv = .int .i64 (t : Int) ∧ Hid (Ps.pI (upW u s) ((p.drop (kk + 1)).take t) = R) ∧ Hid (RowI wy w2.heap.size vs) ∧ Hid (Oth w2.heap.size w3 wy) ∧ Below w2.heap.size w2 wy) (fun _ tv _ => l.length - (kk + 1) - (intOf tv).toNat)
                    case atStart => exact ⟨0, 1, Nat.zero_le _, rfl, rfl, rfl, HRwA, HOtA, hba⟩
                    case round =>
                      obtain ⟨t, R, ht, rfl, rfl, HR4, HRw4, HOt4, hb4⟩ := hrel
                      by_cases h4 : t < l.length - (kk + 1)
                      · have hne : ¬ cap = kk + 1 := by omega
                        obtain ⟨bb, hbb⟩ := get_lt (l := p.drop (kk + 1)) (i := t) (by rw [List.length_drop, HPm.out.2.1, HSl.out]; exact h4)
                        have hbp : p[kk + 1 + t]? = some bb := by rw [List.getElem?_drop] at hbb; exact hbb
                        have hbln := HPm.out.2.2 bb (List.mem_of_getElem? hbp)
                        obtain ⟨mb, hmb⟩ := get_lt hbln
                        have hmb64 := HS64.out mb (List.mem_of_getElem? hmb)
                        have egb : s.getD bb 0 = mb := by simp [List.getD, hmb]
                        obtain ⟨Ub, hUb2⟩ : ∃ x, upW u s bb = x := ⟨_, rfl⟩
                        obtain ⟨p1, p2, p3, p4⟩ := pI_take (fun a => up_pos hu1 s a) hbb
                        rw [HR4.out, hUb2] at p1 p3
                        rw [HR4.out] at p2
                        rw [hUb2] at p4
                        have hRq : Ps.pI (upW u s) (p.drop (kk + 1)) ≤ 1073741824 := HRq.out
                        obtain ⟨R2, hR2⟩ : ∃ x, R * Ub = x := ⟨_, rfl⟩
                        rw [hR2] at p1 p3
                        have hub1 : 1 ≤ Ub := by rw [← hUb2]; exact up_pos hu1 s bb
                        have hr21 : 1 ≤ R2 := by rw [← hR2]; exact mul1 p2 hub1
                        have kB : ∀ W, Calls Try.prog 29 #[.int .i64 u, .int .i64 ((mb : Nat) : Int)] W fun e w' => e = .returned (.int .i64 Ub) ∧ w' = W := fun W => rpow_any u mb (by omega) hu1 hu2 Ub (by rw [← hUb2]; unfold upW; rw [egb]; refine lim_of ?_; rw [← egb]; show upW u s bb ≤ _; omega) W
                        have y1 : wr.cell? ⟨g, kk + 1 + t, none⟩ = some (.int .i64 (bb : Int)) := (HOt4.out.cell g _ hgne hg).trans (HPc.out _ bb hbp)
                        have y2 : wr.cell? ⟨w.heap.size, 0, none⟩ = some (.int .i64 u) := (HOt4.out.cell _ _ (by omega) (by omega)).trans q0
                        have y3 : wr.cell? ⟨b0, o0 + bb, none⟩ = some (.int .i64 ((mb : Nat) : Int)) := (HOt4.out.cell _ _ (by omega) (by omega)).trans (HSm.out bb mb hmb)
                        have ib : (bb : Int) < (l.length : Int) := by have := HSl.out; omega
                        have ib0 : (0 : Int) ≤ (bb : Int) := by omega
                        have hwr : IntKind.i64.wrap R2 = R2 := by rw [IntKind.wrap_i64]; omega
                        have HP1 : Hid (Ps.pI (upW u s) ((p.drop (kk + 1)).take (t + 1)) = R2) := p1
                        have HRw5 : Hid (RowI wr.drew w2.heap.size vs) := HRw4.out.oth
                        have HOt5 : Hid (Oth w2.heap.size w3 wr.drew) := HOt4.out.drew
                        have HB5 : Hid (Below w2.heap.size w2 wr.drew) := hb4.drew
                        clear hbb hbp hmb hUb2 p1 p4 hRq egb HR4
                        go_wp2
                        go_region_held3 (fun w' => w'.cell? ⟨w.heap.size, 0, none⟩ = some (.int .i64 u) ∧ w'.cell? ⟨b0, o0 + bb, none⟩ = some (.int .i64 ((mb : Nat) : Int)))
                          ((go_split_ands; refine ⟨?_, ?_⟩ <;> first | assumption | (simp [go_sem, *]; done)))
                          ((go_at_call 29; refine (kB _).mono ?_; rintro x5 w5 ⟨rfl, rfl⟩))
                        go_wp2
                        go_roundw
                        case rel => exact ⟨t + 1, R2, by omega, by first | rfl | (simp [hwr]), by go_num, HP1, HRw5, HOt5, HB5.out⟩
                        case measure => simp [intOf]; omega
                      · have hRR : Ps.pI (upW u s) (p.drop (kk + 1)) = R := by
                          have := HR4.out
                          rwa [List.take_of_length_le (by rw [List.length_drop, HPm.out.2.1, HSl.out]; omega)] at this
                        obtain ⟨wy, hwy⟩ : ∃ wy : World, wy = wr := ⟨_, rfl⟩
                        subst hwy
                        rw [hUa, hDa, hRR] at hbds hstep
                        obtain ⟨X, hX⟩ : ∃ X, vs.getD aa 0 = X := ⟨_, rfl⟩
                        obtain ⟨P1, hP1⟩ : ∃ x, cc * Da = x := ⟨_, rfl⟩
                        obtain ⟨P2, hP2⟩ : ∃ x, P1 * R = x := ⟨_, rfl⟩
                        obtain ⟨C2, hC2⟩ : ∃ x, cc * (Ua - Da) = x := ⟨_, rfl⟩
                        rw [hX, hP1, hP2, hC2] at hbds hstep
                        obtain ⟨v1, v2, v3, v4, v5, v6, v7, v8⟩ := hbds
                        have hWy := HWy.out
                        have x0 : wy.cell? ⟨w2.heap.size, aa, none⟩ = some (.int .i64 X) := HRw4.out.cells aa X (by rw [← hX]; simp [List.getD, List.getElem?_eq_getElem (show aa < vs.length by rw [HVs.out]; exact haln)])
                        have x1 := HRw4.out.thaw aa (by rw [HVs.out]; exact haln)
                        have x2 := HRw4.out.lt
                        have hX0 : 0 ≤ X := by
                          have hal9 : aa < vs.length := by rw [HVs.out]; exact haln
                          rw [← hX]
                          simp only [List.getD, List.getElem?_eq_getElem hal9, Option.getD_some]
                          exact HN2.out _ (List.getElem_mem hal9)
                        have HSt : Hid (Sof (upW u s) (upW d s) p (kk + 1) C2 (vs.set aa (X + P2)) T) := hstep
                        have HRw6 : Hid (RowI (wy.setCell ⟨w2.heap.size, aa, none⟩ (.int .i64 (X + P2))) w2.heap.size (vs.set aa (X + P2))) := HRw4.out.set aa (X + P2)
                        have HOt6 : Hid (Oth w2.heap.size w3 (wy.setCell ⟨w2.heap.size, aa, none⟩ (.int .i64 (X + P2)))) := HOt4.out.set aa _
                        have HB6 : Hid (Below w2.heap.size w2 (wy.setCell ⟨w2.heap.size, aa, none⟩ (.int .i64 (X + P2)))) := bs hb4 (Nat.le_refl _) _
                        have hal2 : aa < vs.length := by rw [HVs.out]; exact haln
                        have HN6 : Hid (∀ x ∈ vs.set aa (X + P2), (0 : Int) ≤ x) := by
                          intro x hx
                          rcases List.mem_or_eq_of_mem_set hx with h8 | h8
                          · exact HN2.out x h8
                          · omega
                        have HV6 : Hid ((vs.set aa (X + P2)).length = s.length) := by show _ = _; rw [List.length_set]; exact HVs.out
                        have y2 : (wy.setCell ⟨w2.heap.size, aa, none⟩ (.int .i64 (X + P2))).cell? ⟨w.heap.size, 0, none⟩ = some (.int .i64 u) := by
                          rw [sc_other (fun hh => by simp only [Addr.mk.injEq] at hh; omega)]
                          exact (HOt4.out.cell _ _ (by omega) (by omega)).trans q0
                        have y3 : (wy.setCell ⟨w2.heap.size, aa, none⟩ (.int .i64 (X + P2))).cell? ⟨b0, o0 + aa, none⟩ = some (.int .i64 ((mk : Nat) : Int)) := by
                          rw [sc_other (fun hh => by simp only [Addr.mk.injEq] at hh; omega)]
                          exact (HOt4.out.cell _ _ (by omega) (by omega)).trans (HSm.out aa mk HMk2.out)
                        have e1 : IntKind.i64.wrap P1 = P1 := by rw [IntKind.wrap_i64]; omega
                        have e2 : IntKind.i64.wrap P2 = P2 := by rw [IntKind.wrap_i64]; omega
                        have e3 : IntKind.i64.wrap (X + P2) = X + P2 := by rw [IntKind.wrap_i64]; omega
                        have hda1 : 1 ≤ Da := by rw [← hDa]; exact up_pos hd1 s aa
                        have e4 : IntKind.i64.wrap (Ua - Da) = Ua - Da := by rw [IntKind.wrap_i64]; omega
                        have e5 : IntKind.i64.wrap C2 = C2 := by rw [IntKind.wrap_i64]; omega
                        clear hstep hRR hX hUa hDa HR4 HRw4 HOt4 hb4 HRwA HOtA hba v1 v2 v3 v4 v5 v6 v7 v8
                        go_wp2
                        obtain ⟨wb, hwb⟩ : ∃ wb, wy.setCell ⟨w2.heap.size, aa, none⟩ (.int .i64 (X + P2)) = wb := ⟨_, rfl⟩
                        rw [hwb] at HRw6 HOt6 HB6 y2 y3 ⊢
                        clear hwb e1 e2 e3 hP1 hP2 hX0 x0 x1 x2 hal2 hWy
                        go_region_held3 (fun w' => w'.cell? ⟨w.heap.size, 0, none⟩ = some (.int .i64 u) ∧ w'.cell? ⟨b0, o0 + aa, none⟩ = some (.int .i64 ((mk : Nat) : Int)))
                          ((go_split_ands; refine ⟨?_, ?_⟩ <;> first | assumption | (simp [go_sem, *]; done)))
                          ((go_at_call 29; refine (kU _).mono ?_; rintro x5 w5 ⟨rfl, rfl⟩))
                        clear e4 hC2 HN2 HSo2 HRw2 HOt2 hbz HMk2 kU r0 r1 r2 r3 r4
                        go_wp2
                        go_roundw
                        case rel => exact ⟨kk + 1, C2, vs.set aa (X + P2), h3, by first | rfl | (simp [e5]), by go_num, HV6.out, HN6, HSt, HRw6.out.oth, HOt6.out.drew, HB6.out.drew⟩
                        case measure => simp [intOf]; omega
                · have hfin := HSo2.out.all (by rw [HPm.out.2.1, HSl.out]; omega)
                  have HW2 : Hid (Wts u d s (psL s) (j + 1) vs) := HWt.out.step HP.out HVs.out (fun i hi => by rw [hfin i (by rw [HVs.out]; exact hi), HT.out])
                  clear hfin
                  go_wp2
                  go_roundw
                  case rel => exact ⟨j + 1, vs, h2, by go_num, HW2, HRw2, HOt2, hbz⟩
                  case measure => simp [intOf]; omega
            · have hws := wts_all HWt.out (by show (psL s).length ≤ j; have := HOL.out; omega)
              have hwl : ws.length = l.length := by rw [HWt.out.1, HSl.out]
              have HNw : Hid (Num wq wq.heap.size (.slice (some ⟨w2.heap.size, 0, none⟩) l.length l.length) ws) := by
                have := HRw.out.num (by omega) HRw.out.lt
                rw [hwl] at this
                exact this
              have kn := rmade_any wq.heap.size _ _ wq HNw.out (Nat.le_refl _) (by omega) k er (by rw [hws, numP_numL, HSl.out]; exact HMk.out)
              have G9 := bt G2 hbq
              have gs := G9.size
              clear HWt HRw HOt hws HNw hwl
              go_wp2_with fail
              refine kn.mono ?_
              rintro e w5 ⟨v5, xs, rfl, q1, q2, q3⟩
              obtain ⟨b5, d5, rfl⟩ := q2.slice
              clear kn
              go_wp2
              exact bodyPost_ret (v := .tuple #[.slice b5 xs.length d5, .int .i64 er]) (by simp [results, Try.results11, go_sem]) rfl ⟨_, xs, rfl, q1, q2.mono gs, bt G9 q3⟩
  · have c1 : (e0 == 0) = false := by simpa using c0
    have c2 : (e0 != 0) = true := by simpa using c0
    have hk := HR.out
    unfold flipT at hk
    rw [HE0.out, if_pos c0] at hk
    simp only [Prod.mk.injEq] at hk
    obtain ⟨rfl, rfl⟩ := hk
    clear HR HE0
    go_enter Try.func11, Try.ntmps11
    go_wp2_with fail
    refine (km _ (HN.out.at hB (ba _ _)) (by simp; omega)).mono ?_
    rintro e w1 ⟨v1, rfl, hn1, hb1⟩
    clear km
    obtain ⟨fa, fc, rfl, _⟩ := hn1
    have G1 := bt (ba _ _) hb1
    go_wp2
    exact bodyPost_ret (v := .tuple #[.slice none 0 0, .int .i64 e0]) (by simp [results, Try.results11, go_sem]) rfl (ansRNo G1)
end Go.Proofs.Ythmkbkombjhaeaa
