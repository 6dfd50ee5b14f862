import Derived.Test.YtlndlpjadajelaaGreatQp21
import Derived.Test.YtlndlpjadajelaaGreatQp23
import Derived.Test.YtlndlpjadajelaaGreatQp17
namespace Go.Proofs.YtlndlpjadajelaaGreat
open Go.RowKit Go.Proofs.YtlndlpjadajelaaGreat.Ds

def HidsR (w : World) (l : List (List Pt)) (er : Int) (e : Ending) (w' : World) : Prop :=
  ∃ v zs, e = .returned (.tuple #[v, .int .i64 er]) ∧ rds zs = l ∧ DssA w' w.heap.size v zs ∧ Below w.heap.size w w'
theorem dss_nil (w : World) : Dss w w.heap.size (.slice none 0 0) [] := ⟨none, 0, rfl, Nat.le_refl _, by simp, by simp, fun h => absurd rfl h⟩
set_option maxHeartbeats 4000000 in
set_option maxRecDepth 100000 in
/-- the reference's HideAll -/
theorem rhideAll_any (B nb : Nat) (u d lo hi : Int) (v : Value) (ns : List Int) (w : World) (hB : B ≤ w.heap.size) (hx : Ints w B nb v ns) (hlen : ns.length ≤ 1048576) (l : List (List Pt)) (er : Int) (hr : hidsT u d lo hi ns = (l, er)) :
    Calls Tryz.prog 31 #[rv u d, .int .i64 lo, .int .i64 hi, v] w (HidsR w l er) := by
  have HX : Hid (Ints w B nb v ns) := hx
  have HR : Hid (hidsT u d lo hi ns = (l, er)) := hr
  obtain ⟨va, vc, rfl, _⟩ := hx
  obtain ⟨i0, hi0, hz0, hz1, hz2⟩ := info_parts info26
  clear hr
  obtain ⟨w0, hw0⟩ : ∃ w0, w.alloc (.cells #[.int .i64 u, .int .i64 d] 23) = w0 := ⟨_, rfl⟩
  have hb0 : Below w.heap.size w w0 := hw0 ▸ ba w _
  have hs0 : w.heap.size < w0.heap.size := by rw [← hw0]; simp
  have p1 : w0.cell? ⟨w.heap.size, 0, none⟩ = some (.int .i64 u) := by rw [← hw0]; simp [go_sem]
  have p2 : w0.cell? ⟨w.heap.size, 1, none⟩ = some (.int .i64 d) := by rw [← hw0]; simp [go_sem]
  go_enter Tryz.func31, Tryz.ntmps31
  go_wp2_with fail
  clear hw0
  go_loopw [10, 17] (fun pv s wr => ∃ (i : Nat) (zs : List Dz), s = .int .i64 (i : Int) ∧ i ≤ ns.length ∧ Hid (zs.length = i ∧ rds zs = (ns.take i).map (fun n => (hideT u d lo hi n).1) ∧ ∀ x ∈ ns.take i, (hideT u d lo hi x).2 = 0) ∧ Hid (Dsr wr w0.heap.size pv zs) ∧ Hid (∀ z ∈ zs, ∀ m, m < w.heap.size → PartsN wr wr.heap.size m z.1 z.2) ∧ Below w0.heap.size w0 wr) (fun _ s _ => ns.length - (intOf s).toNat)
  case atStart => exact ⟨0, [], rfl, Nat.zero_le _, ⟨rfl, by simp [rds], by simp⟩, Dsr.nil _ _, fun z hz => by (cases hz), Below.refl _ _⟩
  case round =>
    obtain ⟨i, zs, rfl, hit, HZ, HD, HAw, hbl⟩ := hrel
    have hbs := hbl.size
    have hpl := HD.out.lt
    obtain ⟨pa, pc, rfl⟩ := HD.out.slice
    have hbw : Below w.heap.size w wr := hb0.trans (hbl.mono hb0.size)
    have HDL : Hid (zs.length ≤ 1048576) := by have := HZ.out.1; show zs.length ≤ 1048576; omega
    by_cases h1 : i < ns.length
    · obtain ⟨b, o, x, rfl, hb, hxi, hcx⟩ := HX.out.get' hB hbw h1
      have HX1 : Hid (ns[i]? = some x) := hxi
      obtain ⟨⟨l1, e1⟩, hh⟩ : ∃ y, hideT u d lo hi x = y := ⟨_, rfl⟩
      have kh := rhide_any u d lo hi x l1 e1 hh
      have HH : Hid (hideT u d lo hi x = (l1, e1)) := hh
      have c1 : wr.cell? ⟨w.heap.size, 0, none⟩ = some (.int .i64 u) := (hbl.cell (p := ⟨w.heap.size, 0, none⟩) hs0).trans p1
      have c2 : wr.cell? ⟨w.heap.size, 1, none⟩ = some (.int .i64 d) := (hbl.cell (p := ⟨w.heap.size, 1, none⟩) hs0).trans p2
      obtain ⟨mo, hmo, hmg⟩ := own_or3 (n := wr.heap.size) (fun g e => (hpl g e).2) (by omega)
      have HO : Hid (∀ g, (Value.slice pa zs.length pc).ownBlock = some g → mo = g) := hmg
      clear hxi hh hmg
      go_wp2_with fail
      refine (kh _).mono ?_
      rintro e w2 ⟨v2, us, rfl, k1, k2, k3, k4⟩
      obtain ⟨a2, c2', hv2⟩ := k2.slice
      subst hv2
      by_cases he1 : e1 = 0
      · subst he1
        have HPN : Hid (PartsN w2 w2.heap.size mo (.slice a2 us.length c2') us ∧ rd us = l1) := ⟨own_away k2 k4 hmo, k1⟩
        have bw3 : Below wr.heap.size wr (w2.alloc (.cells #[.slice a2 us.length c2'] 44)) := bal k3 _
        have HFk : Hid (Dsr (w2.alloc (.cells #[.slice a2 us.length c2'] 44)) w0.heap.size (.slice pa zs.length pc) zs) := HD.out.keep bw3
        have BB : Hid (Below w0.heap.size w0 (w2.alloc (.cells #[.slice a2 us.length c2'] 44))) := bt hbl bw3
        have hw3 : w0.heap.size ≤ w2.heap.size := by have := k3.size; omega
        have hnl := HDL.out
        have HAW2 : Hid (∀ m, m < w.heap.size → PartsN w2 w2.heap.size m (.slice a2 us.length c2') us) := fun m hm => own_away k2 k4 (by omega)
        have bw3' : Hid (Below wr.heap.size wr (w2.alloc (.cells #[.slice a2 us.length c2'] 44))) := bw3
        clear k1 k2 k3 k4 bw3 kh
        go_wp2_with (at_builtin; refine wpList_append_lies _ rfl _ _ 32 rfl w0.heap.size 44 i0 (.slice none 0 0) 1 24 Tryz.underlying32 hi0 hz0 hz1 hz2 rfl (by decide) _ _ _ rfl HFk.out.1 ⟨w2.heap.size, 0, none⟩ 1 1 [.slice a2 us.length c2'] rfl ?q1 ?q2 ?q3 (by decide) ?q4 ?q5 ?q6 (w2.heap.size + 1) ?q7 ?_)
        case q1 => rfl
        case q2 =>
          intro j u hj
          match j, hj with
          | 0, hj => simp at hj; subst hj; simp [go_sem, Addr.add]
        case q3 => intro u hu; simp at hu; subst hu; rfl
        case q4 => simp [maxLen]; omega
        case q5 => omega
        case q6 => simp; omega
        case q7 => simp
        intro g cap w4 hown hgrow hat hlt
        have HFn : Hid (Dsr w4 w0.heap.size (.slice (some ⟨g, 0, none⟩) (zs.length + 1) cap) (zs ++ [(.slice a2 us.length c2', us)])) :=
          HFk.out.app (n := (.slice a2 us.length c2', us)) hown hgrow (hat.imp (fun e => by rw [e]; rfl) (fun e => by rw [e]; simp [Value.ownBlock])) (HPN.out.1.at2 (ba _ _)) HO.out
        have HAw4 : Hid (∀ z ∈ zs ++ [((.slice a2 us.length c2', us) : Dz)], ∀ m, m < w.heap.size → PartsN w4 w4.heap.size m z.1 z.2) := by
          intro z hz m hm
          rcases List.mem_append.1 hz with h | h
          · obtain ⟨m0, h1, h2⟩ := HFk.out.2 z h
            exact ((HAw.out z h m hm).at2 bw3'.out).grow2 h1 hgrow h2
          · obtain rfl : z = (.slice a2 us.length c2', us) := by simpa using h
            exact ((HAW2.out m hm).at2 (ba _ _)).grow2 (HPN.out.1.at2 (ba _ _)) hgrow HO.out
        have B4 : Below w0.heap.size w0 w4 := BB.out.grown hgrow (by simp; omega) (owns_block HFk.out.1)
        have HZ4 : Hid ((zs ++ [((.slice a2 us.length c2', us) : Dz)]).length = i + 1 ∧ rds (zs ++ [(.slice a2 us.length c2', us)]) = (ns.take (i + 1)).map (fun n => (hideT u d lo hi n).1) ∧ ∀ y ∈ ns.take (i + 1), (hideT u d lo hi y).2 = 0) := by
          refine ⟨by simp [HZ.out.1], ?_, ?_⟩
          · have h5 := HZ.out.2.1
            rw [List.take_add_one, HX1.out]
            simp only [rds, List.map_append] at h5 ⊢
            rw [h5]
            simp [HH.out, HPN.out.2]
          · intro y hy
            rw [List.take_add_one, HX1.out] at hy
            rcases List.mem_append.1 hy with h6 | h6
            · exact HZ.out.2.2 y h6
            · obtain rfl : y = x := by simpa using h6
              rw [HH.out]
        clear hown hgrow hat hlt HFk
        go_wp2
        go_roundw
        case rel => exact ⟨i + 1, _, by go_num, h1, HZ4, HFn, HAw4, B4⟩
        case measure => simp [intOf]; omega
      · have hne1 : (e1 == 0) = false := by simpa using he1
        have hne2 : (e1 != 0) = true := by simpa using he1
        have hE := hids_err HZ.out.2.2 HX1.out (e := e1) (by rw [HH.out]) he1
        rw [hE] at HR
        have hR' := HR.out
        simp only [Prod.mk.injEq] at hR'
        obtain ⟨rfl, rfl⟩ := hR'
        have hbw2 := bt hbw k3
        clear k1 k2 k4 kh hE HH HD
        go_wp2
        exact bodyPost_ret (v := .tuple #[.slice none 0 0, .int .i64 e1]) (by simp [results, Tryz.results31, go_sem]) rfl ⟨_, [], rfl, rfl, DssA.nil _ _, hbw2⟩
    · have hall : ∀ n ∈ ns, (hideT u d lo hi n).2 = 0 := by have := HZ.out.2.2; rwa [List.take_of_length_le (by omega)] at this
      have hE := hids_ok hall
      rw [hE] at HR
      have hR' := HR.out
      simp only [Prod.mk.injEq] at hR'
      obtain ⟨rfl, rfl⟩ := hR'
      have HZZ : Hid (HidsR w (ns.map fun n => (hideT u d lo hi n).1) 0 (.returned (.tuple #[.slice pa zs.length pc, .int .i64 0])) wr) := by
        refine ⟨_, zs, rfl, ?_, HD.out.dssA (by have := HDL.out; omega) (by omega) HAw.out, hbw⟩
        have h5 := HZ.out.2.1
        rwa [List.take_of_length_le (by omega)] at h5
      clear HD HR hE
      go_wp2
      exact bodyPost_ret (v := .tuple #[.slice pa zs.length pc, .int .i64 0]) (by simp [results, Tryz.results31, go_sem]) rfl HZZ.out

/-- as far as one has looked they are the same -/
theorem rds_len (zs : List Dz) : (rds zs).length = zs.length := by simp [rds]
theorem rds_get {zs : List Dz} {i : Nat} {z : Dz} (h : zs[i]? = some z) : (rds zs)[i]? = some (rd z.2) := by simp [rds, h]
theorem pfx_step {α : Type} {x y : List α} {i : Nat} {a : α} (h : x.take i = y.take i) (hx : x[i]? = some a) (hy : y[i]? = some a) : x.take (i + 1) = y.take (i + 1) := by
  rw [List.take_add_one, List.take_add_one, h, hx, hy]

set_option maxHeartbeats 2000000 in
/-- SameDists -/
theorem sameDists_any (B : Nat) (u v : Value) (zs ys : List Dz) (w : World) (hB : B ≤ w.heap.size) (hp : Dss w B u zs) (hq : Dss w B v ys) (hl1 : zs.length ≤ 1048576) (_hl2 : ys.length ≤ 1048576) (hr : rds zs = rds ys) :
    Calls Tryz.prog 10 #[u, v] w fun e w' => e = .returned (.bool true) ∧ Below w.heap.size w w' := by
  have HP : Hid (Dss w B u zs) := hp
  have HQ : Hid (Dss w B v ys) := hq
  have HR : Hid (rds zs = rds ys) := hr
  have hlen : zs.length = ys.length := by have := congrArg List.length hr; rwa [rds_len, rds_len] at this
  obtain ⟨a, c, rfl, hc, _⟩ := hp
  obtain ⟨a', c', rfl, hc', _⟩ := hq
  have hle : ((zs.length : Int) != (ys.length : Int)) = false := by simp [hlen]
  have HL : Hid (zs.length = ys.length) := hlen
  clear hr hlen
  go_enter Tryz.func10, Tryz.ntmps10
  go_wp2
  go_loopw [5, 13] (fun _ s wr => ∃ i : Nat, s = .int .i64 (i : Int) ∧ i ≤ zs.length ∧ Below w.heap.size w wr) (fun _ s _ => zs.length - (intOf s).toNat)
  case atStart => exact ⟨0, rfl, Nat.zero_le _, Below.refl _ _⟩
  case round =>
    obtain ⟨i, rfl, hit, hbl⟩ := hrel
    have hbs := hbl.size
    by_cases h1 : i < zs.length
    · have h2 : i < ys.length := by have := HL.out; omega
      obtain ⟨b, o, sa, sc, xs, rfl, hb, hs, c1, hI⟩ := HP.out.get hB hbl h1
      obtain ⟨b2, o2, sa2, sc2, xs2, rfl, hb2, hs2, c2, hI2⟩ := HQ.out.get hB hbl h2
      have he : rd xs = rd xs2 := by
        have e1 := rds_get hs
        have e2 := rds_get hs2
        rw [HR.out, e2] at e1
        simpa using e1.symm
      have ks := sameR_any B _ _ xs xs2 wr.drew (by show B ≤ wr.heap.size; omega) (hI.at (by omega) (Below.refl _ _).drew) (hI2.at (by omega) (Below.refl _ _).drew) true (by simp [he])
      have g1 : (0 : Int) ≤ (i : Int) := by omega
      have g2 : (i : Int) < (zs.length : Int) := by omega
      have g3 : (i : Int) < (ys.length : Int) := by omega
      have lw1 : b < wr.heap.size := by omega
      have lw2 : b2 < wr.heap.size := by omega
      clear hs hs2 hI hI2 he
      go_wp2_with fail
      go_region_held3 (fun w' => w'.cell? ⟨b, o + i, none⟩ = some (.slice sa xs.length sc) ∧ w'.cell? ⟨b2, o2 + i, none⟩ = some (.slice sa2 xs2.length sc2))
        ((go_split_ands; refine ⟨?_, ?_⟩ <;> first | assumption | (simp [go_sem, *]; done)))
        ((go_at_call 22; refine ks.mono ?_; rintro x3 w3 ⟨rfl, hb3⟩; obtain ⟨hc3, hf3⟩ := bcell hb3; have q1 : w3.cell? ⟨b, o + i, none⟩ = some (.slice sa xs.length sc) := (hc3 _ _ lw1).trans c1; have q2 : w3.cell? ⟨b2, o2 + i, none⟩ = some (.slice sa2 xs2.length sc2) := (hc3 _ _ lw2).trans c2; clear hc3 hf3))
      have HB3 : Hid (Below w.heap.size w w3) := bt hbl (bt (Below.refl _ _).drew hb3)
      clear hb3 ks
      go_wp2
      go_roundw
      case rel => exact ⟨i + 1, by go_num, h1, HB3.out⟩
      case measure => simp [intOf]; omega
    · go_wp2
      go_ret
      exact ⟨rfl, hbl⟩
end Go.Proofs.YtlndlpjadajelaaGreat

namespace Go.Proofs.YtlndlpjadajelaaGreat
open Go.RowKit Go.Proofs.YtlndlpjadajelaaGreat.Ds

/-! ### what the law reckons with -/
set_option maxHeartbeats 400000 in
theorem rrefMake_any (u d n m e : Int) (hu : u ≤ 9223372036854775807) (hd : d ≤ 9223372036854775807) (h : Rt.mkT u d = (n, m, e)) (w : World) :
    Calls Tryz.prog 43 #[.int .i64 u, .int .i64 d] w fun x w' => x = .returned (.tuple #[rv n m, .int .i64 e]) ∧ Below w.heap.size w w' := by
  have H : Hid (Rt.mkT u d = (n, m, e)) := h
  clear h
  by_cases c1 : u < 0
  · have hr : (0, 0, 3) = (n, m, e) := by rw [← H.out]; unfold Rt.mkT; rw [if_pos (.inl c1)]
    simp only [Prod.mk.injEq] at hr
    obtain ⟨rfl, rfl, rfl⟩ := hr
    go_enter Tryz.func43, Tryz.ntmps43
    go_wp2
    exact bodyPost_ret (v := .tuple #[rv 0 0, .int .i64 3]) (by simp [results, Tryz.results43, go_sem]) rfl ⟨rfl, ba _ _⟩
  by_cases c2 : d < 1
  · have hr : (0, 0, 3) = (n, m, e) := by rw [← H.out]; unfold Rt.mkT; rw [if_pos (.inr c2)]
    simp only [Prod.mk.injEq] at hr
    obtain ⟨rfl, rfl, rfl⟩ := hr
    go_enter Tryz.func43, Tryz.ntmps43
    go_wp2
    exact bodyPost_ret (v := .tuple #[rv 0 0, .int .i64 3]) (by simp [results, Tryz.results43, go_sem]) rfl ⟨rfl, ba _ _⟩
  have hm := Rt.mkT_of u d n m e (by omega) (by omega) H.out
  clear H
  obtain ⟨x, rfl⟩ := Int.eq_ofNat_of_zero_le (show 0 ≤ u by omega)
  obtain ⟨y, rfl⟩ := Int.eq_ofNat_of_zero_le (show 0 ≤ d by omega)
  rw [show Int.gcd (x : Int) (y : Int) = Nat.gcd x y from rfl] at hm
  have hg1 : 1 ≤ Nat.gcd x y := Nat.gcd_pos_of_pos_right _ (by omega)
  have hg2 : Nat.gcd x y ≤ y := Nat.gcd_le_right _ (by omega)
  have q1 : 0 ≤ (x : Int) / (Nat.gcd x y : Nat) := Int.ediv_nonneg (by omega) (by omega)
  have q2 : 0 ≤ (y : Int) / (Nat.gcd x y : Nat) := Int.ediv_nonneg (by omega) (by omega)
  have q3 : (x : Int) / (Nat.gcd x y : Nat) ≤ 9223372036854775807 := Int.le_trans (Int.ediv_le_self _ (by omega)) hu
  have q4 : (y : Int) / (Nat.gcd x y : Nat) ≤ 9223372036854775807 := Int.le_trans (Int.ediv_le_self _ (by omega)) hd
  rcases hm with ⟨hc, rfl, rfl, rfl⟩ | ⟨hc1, hc2, rfl, rfl, rfl⟩
  · have hc' : 1073741824 < (x : Int) / (Nat.gcd x y : Nat) ∨ ((x : Int) / (Nat.gcd x y : Nat) ≤ 1073741824 ∧ 1073741824 < (y : Int) / (Nat.gcd x y : Nat)) := by omega
    clear hc
    rcases hc' with hc1 | ⟨hc1, hc2⟩
    all_goals
      go_enter Tryz.func43, Tryz.ntmps43
      go_wp2_with (go_at_call 56; refine (refDivisor_any _ _ (by omega) (by omega) (by omega) _).mono ?_; rintro e w' ⟨rfl, rfl⟩)
      generalize Nat.gcd x y = g at *
      go_wp2
      exact bodyPost_ret (v := .tuple #[rv 0 0, .int .i64 4]) (by simp [results, Tryz.results43, go_sem]) rfl ⟨rfl, ba _ _⟩
  · go_enter Tryz.func43, Tryz.ntmps43
    go_wp2_with (go_at_call 56; refine (refDivisor_any _ _ (by omega) (by omega) (by omega) _).mono ?_; rintro e w' ⟨rfl, rfl⟩)
    go_wp2
    go_region
    all_goals go_wp2
    exact bodyPost_ret (v := .tuple #[rv (x / (Nat.gcd x y : Nat)) (y / (Nat.gcd x y : Nat)), .int .i64 0]) (by simp [results, Tryz.results43, go_sem]) rfl ⟨rfl, (ba _ _).drew⟩
set_option maxHeartbeats 400000 in
theorem refTimes_any (a b c d n m e : Int) (h : Rt.timesT a b c d = (n, m, e)) (w : World) :
    Calls Tryz.prog 14 #[rv a b, rv c d] w fun x w' => x = .returned (.tuple #[rv n m, .int .i64 e]) ∧ Below w.heap.size w w' := by
  have H : Hid (Rt.timesT a b c d = (n, m, e)) := h
  clear h
  by_cases r : Rt.rightB a b = true ∧ Rt.rightB c d = true
  · obtain ⟨r1, r2⟩ := r
    have hm : Rt.mkT (a * c) (b * d) = (n, m, e) := by rw [← H.out]; unfold Rt.timesT; rw [if_pos ⟨r1, r2⟩]
    have HM : Hid (Rt.mkT (a * c) (b * d) = (n, m, e)) := hm
    have R1 : Hid (Rt.rightB a b = true) := r1
    have R2 : Hid (Rt.rightB c d = true) := r2
    clear hm r1 r2 H
    obtain ⟨a1, a2, b1, b2⟩ := Rt.right_bd R1.out
    obtain ⟨c1, c2, d1, d2⟩ := Rt.right_bd R2.out
    obtain ⟨p1, p2⟩ := Rt.mul_bd a1 a2 c1 c2
    obtain ⟨p3, p4⟩ := Rt.mul_bd (a := b) (b := d) (by omega) b2 (by omega) d2
    obtain ⟨p5, p6⟩ := Rt.mul_bd (a := a) (b := d) (by omega) a2 (by omega) d2
    obtain ⟨p7, p8⟩ := Rt.mul_bd (a := c) (b := b) (by omega) c2 (by omega) b2
    obtain ⟨p9, p10⟩ := Rt.mul_bd (a := b) (b := c) (by omega) b2 (by omega) c2
    go_enter Tryz.func14, Tryz.ntmps14
    go_wp2_with fail
    refine (refRight_any a b true R1.out _).mono ?_
    rintro e1 w1 ⟨rfl, hb1⟩
    obtain ⟨hc1, hf1⟩ := bcell hb1
    go_wp2_with fail
    refine (refRight_any c d true R2.out _).mono ?_
    rintro e2 w2 ⟨rfl, hb2⟩
    have F2 := bt hb1 hb2
    clear hc1 hf1 hb1 hb2
    obtain ⟨hc2, hf2⟩ := bcell F2
    go_wp2_with fail
    refine (rrefMake_any (a * c) (b * d) n m e (by omega) (by omega) HM.out _).mono ?_
    rintro e4 w4 ⟨rfl, hb4⟩
    have F4 := bt F2 hb4
    have G4 := bt (bal (bal (ba _ _) _) _) F4
    clear F2 hb4 hc2 hf2
    obtain ⟨hc4, hf4⟩ := bcell F4
    go_wp2_with fail
    exact bodyPost_ret (v := .tuple #[rv n m, .int .i64 e]) (by simp [results, Tryz.results14, go_sem, hc4]) rfl ⟨rfl, bs (bs G4 (by simp; omega) _) (by simp; omega) _⟩
  · have hr : (0, 0, 2) = (n, m, e) := by rw [← H.out]; unfold Rt.timesT; rw [if_neg r]
    simp only [Prod.mk.injEq] at hr
    obtain ⟨rfl, rfl, rfl⟩ := hr
    have r' : Rt.rightB a b = false ∨ (Rt.rightB a b = true ∧ Rt.rightB c d = false) := by
      cases h1 : Rt.rightB a b <;> cases h2 : Rt.rightB c d <;> simp_all
    clear r H
    rcases r' with r1 | ⟨r1, r2⟩
    · have R1 : Hid (Rt.rightB a b = false) := r1
      clear r1
      go_enter Tryz.func14, Tryz.ntmps14
      go_wp2_with fail
      refine (refRight_any a b false R1.out _).mono ?_
      rintro e1 w1 ⟨rfl, hb1⟩
      have G1 := bt (bal (bal (ba _ _) _) _) hb1
      obtain ⟨hc1, hf1⟩ := bcell hb1
      go_wp2_with fail
      exact bodyPost_ret (v := .tuple #[rv 0 0, .int .i64 2]) (by simp [results, Tryz.results14, go_sem, hc1]) rfl ⟨rfl, bs (bs G1 (by simp; omega) _) (by simp; omega) _⟩
    · have R1 : Hid (Rt.rightB a b = true) := r1
      have R2 : Hid (Rt.rightB c d = false) := r2
      clear r1 r2
      go_enter Tryz.func14, Tryz.ntmps14
      go_wp2_with fail
      refine (refRight_any a b true R1.out _).mono ?_
      rintro e1 w1 ⟨rfl, hb1⟩
      obtain ⟨hc1, hf1⟩ := bcell hb1
      go_wp2_with fail
      refine (refRight_any c d false R2.out _).mono ?_
      rintro e2 w2 ⟨rfl, hb2⟩
      have F2 := bt hb1 hb2
      clear hc1 hf1 hb1 hb2
      have G1 := bt (bal (bal (ba _ _) _) _) F2
      obtain ⟨hc1, hf1⟩ := bcell F2
      go_wp2_with fail
      exact bodyPost_ret (v := .tuple #[rv 0 0, .int .i64 2]) (by simp [results, Tryz.results14, go_sem, hc1]) rfl ⟨rfl, bs (bs G1 (by simp; omega) _) (by simp; omega) _⟩

theorem refMost_any (a b c d : Int) (ha0 : 0 ≤ a) (ha : a ≤ 1073741824) (hb0 : 0 ≤ b) (hb : b ≤ 1073741824) (hc0 : 0 ≤ c) (hc : c ≤ 1073741824) (hd0 : 0 ≤ d) (hd : d ≤ 1073741824) (r : Bool) (hr : decide (a * d ≤ c * b) = r) (w : World) :
    Calls Tryz.prog 15 #[rv a b, rv c d] w fun e w' => e = .returned (.bool r) ∧ Below w.heap.size w w' := by
  have b1 := Rt.mul_bd ha0 ha hd0 hd
  have b2 := Rt.mul_bd hc0 hc hb0 hb
  obtain ⟨P, hP⟩ : ∃ P, a * d = P := ⟨_, rfl⟩
  obtain ⟨Q, hQ⟩ : ∃ Q, c * b = Q := ⟨_, rfl⟩
  rw [hP] at b1
  rw [hQ] at b2
  rw [hP, hQ] at hr
  by_cases h : P ≤ Q
  · have hh : decide (P ≤ Q) = true := decide_eq_true h
    obtain rfl : true = r := by rw [← hr, hh]
    clear hr
    go_enter Tryz.func15, Tryz.ntmps15
    go_wp2
    go_ret
    exact ⟨rfl, bal (ba _ _) _⟩
  · have hh : decide (P ≤ Q) = false := decide_eq_false h
    obtain rfl : false = r := by rw [← hr, hh]
    clear hr
    go_enter Tryz.func15, Tryz.ntmps15
    go_wp2
    go_ret
    exact ⟨rfl, bal (ba _ _) _⟩

end Go.Proofs.YtlndlpjadajelaaGreat
