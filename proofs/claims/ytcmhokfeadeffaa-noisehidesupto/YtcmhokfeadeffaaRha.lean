import Derived.Test.YtcmhokfeadeffaaRhe
import Derived.Test.YtcmhokfeadeffaaHal
import Derived.Test.YtcmhokfeadeffaaDsx
namespace Go.Proofs.Ytcmhokfeadeffaa
open Go.RowKit Go.Proofs.Ytcmhokfeadeffaa.Ds

def HidsR (w : World) (l : List (List Pt)) (er : Int) (e : Ending) (w' : World) : Prop :=
  ∃ v zs, e = .returned (.tuple #[v, .int .i64 er]) ∧ rds zs = l ∧ Dss w' w'.heap.size v zs ∧ Below w.heap.size w w'
theorem dss_nil (w : World) : Dss w w.heap.size (.slice none 0 0) [] := ⟨none, 0, rfl, Nat.le_refl _, by simp, by simp, fun h => absurd rfl h⟩
theorem DosN.dss {w : World} {v : Value} {zs : List Dz} (h : DosN w v zs) : Dss w w.heap.size v zs := by
  rcases h with ⟨rfl, rfl⟩ | ⟨g, cap, lo, rfl, h1, h2, hr⟩
  · exact dss_nil w
  · exact ⟨_, cap, rfl, h1, by omega, fun z hz => (hr.el z hz).1.parts, fun _ => ⟨g, 0, rfl, hr.lt, fun i z hz => by rw [Nat.zero_add]; exact hr.cell i z hz⟩⟩

set_option maxHeartbeats 4000000 in
set_option maxRecDepth 100000 in
/-- the reference's HideAll -/
theorem rhideAll_any (B nb : Nat) (u d lo hi : Int) (v : Value) (ns : List Int) (w : World) (hB : B ≤ w.heap.size) (hx : Ints w B nb v ns) (hlen : ns.length ≤ 1048576) (l : List (List Pt)) (er : Int) (hr : hidsT u d lo hi ns = (l, er)) :
    Calls Try.prog 10 #[rv u d, .int .i64 lo, .int .i64 hi, v] w (HidsR w l er) := by
  have HX : Hid (Ints w B nb v ns) := hx
  have HR : Hid (hidsT u d lo hi ns = (l, er)) := hr
  obtain ⟨va, vc, rfl, _⟩ := hx
  obtain ⟨i0, hi0, hz0, hz1, hz2⟩ := info_parts info26
  clear hr
  obtain ⟨w0, hw0⟩ : ∃ w0, w.alloc (.cells #[.int .i64 u, .int .i64 d] 23) = w0 := ⟨_, rfl⟩
  have hb0 : Below w.heap.size w w0 := hw0 ▸ ba w _
  have hs0 : w.heap.size < w0.heap.size := by rw [← hw0]; simp
  have p1 : w0.cell? ⟨w.heap.size, 0, none⟩ = some (.int .i64 u) := by rw [← hw0]; simp [go_sem]
  have p2 : w0.cell? ⟨w.heap.size, 1, none⟩ = some (.int .i64 d) := by rw [← hw0]; simp [go_sem]
  go_enter Try.func10, Try.ntmps10
  go_wp2_with fail
  clear hw0
  go_loopw [10, 17] (fun pv s wr => ∃ (i : Nat) (zs : List Dz), s = .int .i64 (i : Int) ∧ i ≤ ns.length ∧ Hid (zs.length = i ∧ rds zs = (ns.take i).map (fun n => (hideT u d lo hi n).1) ∧ ∀ x ∈ ns.take i, (hideT u d lo hi x).2 = 0) ∧ Hid (Dsr wr w0.heap.size pv zs) ∧ Below w0.heap.size w0 wr) (fun _ s _ => ns.length - (intOf s).toNat)
  case atStart => exact ⟨0, [], rfl, Nat.zero_le _, ⟨rfl, by simp [rds], by simp⟩, Dsr.nil _ _, Below.refl _ _⟩
  case round =>
    obtain ⟨i, zs, rfl, hit, HZ, HD, hbl⟩ := hrel
    have hbs := hbl.size
    have hpl := HD.out.lt
    obtain ⟨pa, pc, rfl⟩ := HD.out.slice
    have hbw : Below w.heap.size w wr := hb0.trans (hbl.mono hb0.size)
    have HDL : Hid (zs.length ≤ 1048576) := by have := HZ.out.1; show zs.length ≤ 1048576; omega
    by_cases h1 : i < ns.length
    · obtain ⟨b, o, x, rfl, hb, hxi, hcx⟩ := HX.out.get' hB hbw h1
      have HX1 : Hid (ns[i]? = some x) := hxi
      obtain ⟨⟨l1, e1⟩, hh⟩ : ∃ y, hideT u d lo hi x = y := ⟨_, rfl⟩
      have kh := rhide_any u d lo hi x l1 e1 hh
      have HH : Hid (hideT u d lo hi x = (l1, e1)) := hh
      have c1 : wr.cell? ⟨w.heap.size, 0, none⟩ = some (.int .i64 u) := (hbl.cell (p := ⟨w.heap.size, 0, none⟩) hs0).trans p1
      have c2 : wr.cell? ⟨w.heap.size, 1, none⟩ = some (.int .i64 d) := (hbl.cell (p := ⟨w.heap.size, 1, none⟩) hs0).trans p2
      obtain ⟨mo, hmo, hmg⟩ := own_or3 (n := wr.heap.size) (fun g e => (hpl g e).2) (by omega)
      have HO : Hid (∀ g, (Value.slice pa zs.length pc).ownBlock = some g → mo = g) := hmg
      clear hxi hh hmg
      go_wp2_with fail
      refine (kh _).mono ?_
      rintro e w2 ⟨v2, us, rfl, k1, k2, k3, k4⟩
      obtain ⟨a2, c2', hv2⟩ := k2.slice
      subst hv2
      by_cases he1 : e1 = 0
      · subst he1
        have HPN : Hid (PartsN w2 w2.heap.size mo (.slice a2 us.length c2') us ∧ rd us = l1) := ⟨own_away k2 k4 hmo, k1⟩
        have bw3 : Below wr.heap.size wr (w2.alloc (.cells #[.slice a2 us.length c2'] 26)) := bal k3 _
        have HFk : Hid (Dsr (w2.alloc (.cells #[.slice a2 us.length c2'] 26)) w0.heap.size (.slice pa zs.length pc) zs) := HD.out.keep bw3
        have BB : Hid (Below w0.heap.size w0 (w2.alloc (.cells #[.slice a2 us.length c2'] 26))) := bt hbl bw3
        have hw3 : w0.heap.size ≤ w2.heap.size := by have := k3.size; omega
        have hnl := HDL.out
        clear k1 k2 k3 k4 bw3 kh
        go_wp2_with (at_builtin; refine wpList_append_lies _ rfl _ _ 31 rfl w0.heap.size 26 i0 (.slice none 0 0) 1 24 Try.underlying31 hi0 hz0 hz1 hz2 rfl (by decide) _ _ _ rfl HFk.out.1 ⟨w2.heap.size, 0, none⟩ 1 1 [.slice a2 us.length c2'] rfl ?q1 ?q2 ?q3 (by decide) ?q4 ?q5 ?q6 (w2.heap.size + 1) ?q7 ?_)
        case q1 => rfl
        case q2 =>
          intro j u hj
          match j, hj with
          | 0, hj => simp at hj; subst hj; simp [go_sem, Addr.add]
        case q3 => intro u hu; simp at hu; subst hu; rfl
        case q4 => simp [maxLen]; omega
        case q5 => omega
        case q6 => simp; omega
        case q7 => simp
        intro g cap w4 hown hgrow hat hlt
        have HFn : Hid (Dsr w4 w0.heap.size (.slice (some ⟨g, 0, none⟩) (zs.length + 1) cap) (zs ++ [(.slice a2 us.length c2', us)])) :=
          HFk.out.app (n := (.slice a2 us.length c2', us)) hown hgrow (hat.imp (fun e => by rw [e]; rfl) (fun e => by rw [e]; simp [Value.ownBlock])) (HPN.out.1.at2 (ba _ _)) HO.out
        have B4 : Below w0.heap.size w0 w4 := BB.out.grown hgrow (by simp; omega) (owns_block HFk.out.1)
        have HZ4 : Hid ((zs ++ [((.slice a2 us.length c2', us) : Dz)]).length = i + 1 ∧ rds (zs ++ [(.slice a2 us.length c2', us)]) = (ns.take (i + 1)).map (fun n => (hideT u d lo hi n).1) ∧ ∀ y ∈ ns.take (i + 1), (hideT u d lo hi y).2 = 0) := by
          refine ⟨by simp [HZ.out.1], ?_, ?_⟩
          · have h5 := HZ.out.2.1
            rw [List.take_add_one, HX1.out]
            simp only [rds, List.map_append] at h5 ⊢
            rw [h5]
            simp [HH.out, HPN.out.2]
          · intro y hy
            rw [List.take_add_one, HX1.out] at hy
            rcases List.mem_append.1 hy with h6 | h6
            · exact HZ.out.2.2 y h6
            · obtain rfl : y = x := by simpa using h6
              rw [HH.out]
        clear hown hgrow hat hlt HFk
        go_wp2
        go_roundw
        case rel => exact ⟨i + 1, _, by go_num, h1, HZ4, HFn, B4⟩
        case measure => simp [intOf]; omega
      · have hne1 : (e1 == 0) = false := by simpa using he1
        have hne2 : (e1 != 0) = true := by simpa using he1
        have hE := hids_err HZ.out.2.2 HX1.out (e := e1) (by rw [HH.out]) he1
        rw [hE] at HR
        have hR' := HR.out
        simp only [Prod.mk.injEq] at hR'
        obtain ⟨rfl, rfl⟩ := hR'
        have hbw2 := bt hbw k3
        clear k1 k2 k4 kh hE HH HD
        go_wp2
        exact bodyPost_ret (v := .tuple #[.slice none 0 0, .int .i64 e1]) (by simp [results, Try.results10, go_sem]) rfl ⟨_, [], rfl, rfl, dss_nil _, hbw2⟩
    · have hall : ∀ n ∈ ns, (hideT u d lo hi n).2 = 0 := by have := HZ.out.2.2; rwa [List.take_of_length_le (by omega)] at this
      have hE := hids_ok hall
      rw [hE] at HR
      have hR' := HR.out
      simp only [Prod.mk.injEq] at hR'
      obtain ⟨rfl, rfl⟩ := hR'
      have HZZ : Hid (HidsR w (ns.map fun n => (hideT u d lo hi n).1) 0 (.returned (.tuple #[.slice pa zs.length pc, .int .i64 0])) wr) := by
        refine ⟨_, zs, rfl, ?_, HD.out.dss (by have := HDL.out; omega), hbw⟩
        have h5 := HZ.out.2.1
        rwa [List.take_of_length_le (by omega)] at h5
      clear HD HR hE
      go_wp2
      exact bodyPost_ret (v := .tuple #[.slice pa zs.length pc, .int .i64 0]) (by simp [results, Try.results10, go_sem]) rfl HZZ.out

/-- as far as one has looked they are the same -/
theorem rds_len (zs : List Dz) : (rds zs).length = zs.length := by simp [rds]
theorem rds_get {zs : List Dz} {i : Nat} {z : Dz} (h : zs[i]? = some z) : (rds zs)[i]? = some (rd z.2) := by simp [rds, h]
theorem pfx_step {α : Type} {x y : List α} {i : Nat} {a : α} (h : x.take i = y.take i) (hx : x[i]? = some a) (hy : y[i]? = some a) : x.take (i + 1) = y.take (i + 1) := by
  rw [List.take_add_one, List.take_add_one, h, hx, hy]

set_option maxHeartbeats 2000000 in
/-- SameDists -/
theorem sameDists_any (B : Nat) (u v : Value) (zs ys : List Dz) (w : World) (hB : B ≤ w.heap.size) (hp : Dss w B u zs) (hq : Dss w B v ys) (hl1 : zs.length ≤ 1048576) (_hl2 : ys.length ≤ 1048576) (hr : rds zs = rds ys) :
    Calls Try.prog 11 #[u, v] w fun e w' => e = .returned (.bool true) ∧ Below w.heap.size w w' := by
  have HP : Hid (Dss w B u zs) := hp
  have HQ : Hid (Dss w B v ys) := hq
  have HR : Hid (rds zs = rds ys) := hr
  have hlen : zs.length = ys.length := by have := congrArg List.length hr; rwa [rds_len, rds_len] at this
  obtain ⟨a, c, rfl, hc, _⟩ := hp
  obtain ⟨a', c', rfl, hc', _⟩ := hq
  have hle : ((zs.length : Int) != (ys.length : Int)) = false := by simp [hlen]
  have HL : Hid (zs.length = ys.length) := hlen
  clear hr hlen
  go_enter Try.func11, Try.ntmps11
  go_wp2
  go_loopw [5, 13] (fun _ s wr => ∃ i : Nat, s = .int .i64 (i : Int) ∧ i ≤ zs.length ∧ Below w.heap.size w wr) (fun _ s _ => zs.length - (intOf s).toNat)
  case atStart => exact ⟨0, rfl, Nat.zero_le _, Below.refl _ _⟩
  case round =>
    obtain ⟨i, rfl, hit, hbl⟩ := hrel
    have hbs := hbl.size
    by_cases h1 : i < zs.length
    · have h2 : i < ys.length := by have := HL.out; omega
      obtain ⟨b, o, sa, sc, xs, rfl, hb, hs, c1, hI⟩ := HP.out.get hB hbl h1
      obtain ⟨b2, o2, sa2, sc2, xs2, rfl, hb2, hs2, c2, hI2⟩ := HQ.out.get hB hbl h2
      have he : rd xs = rd xs2 := by
        have e1 := rds_get hs
        have e2 := rds_get hs2
        rw [HR.out, e2] at e1
        simpa using e1.symm
      have ks := sameR_any B _ _ xs xs2 wr.drew (by show B ≤ wr.heap.size; omega) (hI.at (by omega) (Below.refl _ _).drew) (hI2.at (by omega) (Below.refl _ _).drew) true (by simp [he])
      have g1 : (0 : Int) ≤ (i : Int) := by omega
      have g2 : (i : Int) < (zs.length : Int) := by omega
      have g3 : (i : Int) < (ys.length : Int) := by omega
      have lw1 : b < wr.heap.size := by omega
      have lw2 : b2 < wr.heap.size := by omega
      clear hs hs2 hI hI2 he
      go_wp2_with fail
      go_region_held3 (fun w' => w'.cell? ⟨b, o + i, none⟩ = some (.slice sa xs.length sc) ∧ w'.cell? ⟨b2, o2 + i, none⟩ = some (.slice sa2 xs2.length sc2))
        ((go_split_ands; refine ⟨?_, ?_⟩ <;> first | assumption | (simp [go_sem, *]; done)))
        ((go_at_call 8; refine ks.mono ?_; rintro x3 w3 ⟨rfl, hb3⟩; obtain ⟨hc3, hf3⟩ := bcell hb3; have q1 : w3.cell? ⟨b, o + i, none⟩ = some (.slice sa xs.length sc) := (hc3 _ _ lw1).trans c1; have q2 : w3.cell? ⟨b2, o2 + i, none⟩ = some (.slice sa2 xs2.length sc2) := (hc3 _ _ lw2).trans c2; clear hc3 hf3))
      have HB3 : Hid (Below w.heap.size w w3) := bt hbl (bt (Below.refl _ _).drew hb3)
      clear hb3 ks
      go_wp2
      go_roundw
      case rel => exact ⟨i + 1, by go_num, h1, HB3.out⟩
      case measure => simp [intOf]; omega
    · go_wp2
      go_ret
      exact ⟨rfl, hbl⟩
end Go.Proofs.Ytcmhokfeadeffaa
