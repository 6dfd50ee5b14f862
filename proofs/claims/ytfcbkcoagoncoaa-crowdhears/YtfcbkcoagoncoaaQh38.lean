import Derived.Test.YtfcbkcoagoncoaaQh30
import Derived.Test.YtfcbkcoagoncoaaQh34
import Derived.Test.YtfcbkcoagoncoaaQh35
import Derived.Test.YtfcbkcoagoncoaaQh37
namespace Go.Proofs.Ytfcbkcoagoncoaa
open Go.RowKit Go.Proofs.Ytfcbkcoagoncoaa.Ds Go.Proofs.Ytfcbkcoagoncoaa.Crd

theorem own_or4 {v : Value} {lo n : Nat} (h : ∀ g, v.ownBlock = some g → lo ≤ g ∧ g < n) : ∃ m, lo ≤ m ∧ ∀ g, v.ownBlock = some g → m = g := by
  cases e : v.ownBlock with
  | none => exact ⟨lo, Nat.le_refl _, fun g h => by cases h⟩
  | some g0 => exact ⟨g0, (h g0 e).1, fun g h => by simpa using h⟩
theorem exp_take {u d : Int} {k : Nat} {ts : List Nat} {i : Nat} {h : List Int} (hi : (cnts ts.length k)[i]? = some h) : (expL u d k ts).take (i + 1) = (expL u d k ts).take i ++ [(h, wgh u d k ts h)] := by
  rw [List.take_add_one]
  congr 1
  simp [expL, hi]

set_option maxHeartbeats 2000000 in
set_option maxRecDepth 100000 in
/-- the reference's Shuffled -/
theorem rshuffled_any (B : Nat) (u d K : Int) (v : Value) (ts : List Int) (w : World) (hB : B ≤ w.heap.size) (hx : Num w B v ts) (l : List Pt) (er : Int) (hr : shuT u d K ts = (l, er)) :
    Calls Try.prog 7 #[rv u d, .int .i64 K, v] w (DistQ' w l er) := by
  have HN : Hid (Num w B v ts) := hx
  obtain ⟨e0, he0⟩ : ∃ e0, peoE u d K ts = e0 := ⟨_, rfl⟩
  have hxa : Num (w.alloc (.cells #[.int .i64 u, .int .i64 d] 23)) B v ts := hx.at hB (ba _ _)
  have kc := people_any B u d K v ts (w.alloc (.cells #[.int .i64 u, .int .i64 d] 23)) (by simp; omega) hxa e0 he0
  obtain ⟨va, vc, rfl, hvc, hvl, _⟩ := hx
  by_cases c0 : e0 = 0
  · subst c0
    obtain ⟨k, rfl, hP⟩ := peo_ok he0
    rw [shu_of he0 rfl] at hr
    have HP : Hid (Peo u d k ts) := hP
    have HR : Hid (makeT (expL u d k (natsT ts)) = (l, er)) := hr
    have hd1 := hP.d1
    have hdu := hP.du
    have hu30 := hP.u30
    have hk7 := hP.k7
    have hl12 := hP.len
    obtain ⟨i0, hi0, hz0, hz1, hz2⟩ := info_parts info32
    have ko := counts_any k ts.length hk7 hl12
    clear hr he0 hP hxa
    go_enter Try.func7, Try.ntmps7
    go_wp2_with fail
    refine kc.mono ?_
    rintro x w1 ⟨rfl, hb1⟩
    have G1 := bt (ba _ _) hb1
    obtain ⟨hc1, hf1⟩ := bcell hb1
    have r1 : w1.cell? ⟨w.heap.size, 0, none⟩ = some (.int .i64 u) := by rw [hc1 _ _ (by simp)]; simp [go_sem]
    have r2 : w1.cell? ⟨w.heap.size, 1, none⟩ = some (.int .i64 d) := by rw [hc1 _ _ (by simp)]; simp [go_sem]
    have hz1' : w.heap.size < w1.heap.size := by have := hb1.size; simp at this; omega
    clear hc1 hf1 hb1 kc
    go_wp2_with fail
    refine (ko _).mono ?_
    rintro x w2 ⟨v2, os, rfl, ho2, hl2, _, hb2⟩
    obtain ⟨oa, oc, rfl⟩ := hl2.slice
    have hz2' := hb2.size
    have q1 : w2.cell? ⟨w.heap.size, 0, none⟩ = some (.int .i64 u) := (hb2.cell (p := ⟨w.heap.size, 0, none⟩) hz1').trans r1
    have q2 : w2.cell? ⟨w.heap.size, 1, none⟩ = some (.int .i64 d) := (hb2.cell (p := ⟨w.heap.size, 1, none⟩) hz1').trans r2
    have G2 : Below w.heap.size w w2 := bt G1 hb2
    have HOs : Hid (os.map (·.2) = cnts ts.length k) := ho2
    have HL2 : Hid (Lls w2 w1.heap.size (.slice oa os.length oc) os) := hl2
    have hmany : os.length ≤ 70000000 := by
      have h3 := congrArg List.length ho2
      rw [List.length_map] at h3
      have h4 := cnts_many hl12 k
      have h5 : 13 ^ k ≤ 13 ^ 7 := Nat.pow_le_pow_right (by omega) hk7
      have h6 : (13 : Nat) ^ 7 = 62748517 := by decide
      omega
    clear ko ho2 hl2 hb2 r1 r2
    go_wp2_with fail
    go_loopw [9, 24] (fun pv s wr => ∃ (i : Nat) (ds : List Tr), s = .int .i64 (i : Int) ∧ i ≤ os.length ∧ Hid (rd ds = (expL u d k (natsT ts)).take i ∧ ds.length = i) ∧ Hid (Rws wr w2.heap.size pv ds) ∧ Below w2.heap.size w2 wr) (fun _ s _ => os.length - (intOf s).toNat)
    case atStart => exact ⟨0, [], rfl, Nat.zero_le _, ⟨by simp [rd], rfl⟩, Rws.nil _ _, Below.refl _ _⟩
    case round =>
      obtain ⟨i, ds, rfl, hit, HD, HW, hbl⟩ := hrel
      have hbs := hbl.size
      have hpl := HW.out.lt
      obtain ⟨pa, pc, rfl⟩ := HW.out.slice
      have GB : Below w.heap.size w wr := bt G2 hbl
      by_cases h1 : i < os.length
      · obtain ⟨b, c, g, cap, xs, he, hc, hb0, hb2, ht, hct, hxc, hxl, hg, hx⟩ := HL2.out.get h1
        simp only [Value.slice.injEq, true_and] at he
        obtain ⟨rfl, rfl⟩ := he
        have hix : (cnts (natsT ts).length k)[i]? = some xs := by rw [nats_len, ← HOs.out]; simp [ht]
        have hmem : xs ∈ cnts ts.length k := by
          have := List.mem_of_getElem? hix
          rw [nats_len] at this
          exact this
        have HTk : Hid ((expL u d k (natsT ts)).take (i + 1) = (expL u d k (natsT ts)).take i ++ [(xs, wgh u d k (natsT ts) xs)]) := exp_take hix
        obtain ⟨W, hWW⟩ : ∃ W, wgh u d k (natsT ts) xs = W := ⟨_, rfl⟩
        have hct2 : wr.cell? ⟨b, i, none⟩ = some (.slice (some ⟨g, 0, none⟩) xs.length cap) := (hbl.cell (p := ⟨b, i, none⟩) hb2).trans hct
        have c1 : wr.cell? ⟨w.heap.size, 0, none⟩ = some (.int .i64 u) := (hbl.cell (p := ⟨w.heap.size, 0, none⟩) (by show w.heap.size < _; omega)).trans q1
        have c2 : wr.cell? ⟨w.heap.size, 1, none⟩ = some (.int .i64 d) := (hbl.cell (p := ⟨w.heap.size, 1, none⟩) (by show w.heap.size < _; omega)).trans q2
        have hxn : Num wr wr.heap.size (.slice (some ⟨g, 0, none⟩) xs.length cap) xs :=
          ⟨_, cap, rfl, hxc, by omega, fun _ => ⟨g, 0, rfl, by omega, fun q x hq => by rw [Nat.zero_add]; exact (hbl.cell (p := ⟨g, q, none⟩) hg).trans (hx q x hq)⟩⟩
        have kw := rweight_any hk7 hd1 hdu hu30 ts hl12 HP.out.mem HP.out.pow xs hmem wr.heap.size (.slice va ts.length vc) (.slice (some ⟨g, 0, none⟩) xs.length cap) wr (Nat.le_refl _) ((HN.out.at hB GB).mono (by omega)) hxn
        rw [hWW] at kw HTk
        obtain ⟨mo, hmo, hmg⟩ := own_or4 hpl
        have HMG : Hid (∀ g, (Value.slice pa ds.length pc).ownBlock = some g → mo = g) := hmg
        have HIx : Hid (Ints wr wr.heap.size mo (.slice (some ⟨g, 0, none⟩) xs.length cap) xs) :=
          ⟨_, cap, rfl, hxc, hxl, fun _ => ⟨g, 0, rfl, by omega, by omega, fun q x hq => by rw [Nat.zero_add]; exact (hbl.cell (p := ⟨g, q, none⟩) hg).trans (hx q x hq)⟩⟩
        clear ht hct hx hix hmem hWW hmg hxn hpl
        go_wp2_with fail
        refine kw.mono ?_
        rintro y w3 ⟨rfl, hb3⟩
        have hb3s := hb3.size
        have HO : Hid (Rws (w3.alloc (.cells #[.slice (some ⟨g, 0, none⟩) xs.length cap, .int .i64 W] 37)) w2.heap.size (.slice pa ds.length pc) ds) := HW.out.keep (bal hb3 _)
        have HI3 : Hid (Ints (w3.alloc (.cells #[.slice (some ⟨g, 0, none⟩) xs.length cap, .int .i64 W] 37)) (w3.alloc (.cells #[.slice (some ⟨g, 0, none⟩) xs.length cap, .int .i64 W] 37)).heap.size mo (.slice (some ⟨g, 0, none⟩) xs.length cap) xs) := HIx.out.at2 (bal hb3 _)
        have HDL : Hid (ds.length ≤ 70000000) := by have := HD.out.2; show ds.length ≤ 70000000; omega
        clear kw HW
        go_wp2_with (at_builtin; refine wpList_append_own_at _ rfl _ _ 25 rfl w2.heap.size 37 i0 (.agg #[.slice none 0 0, .int .i64 0]) 2 32 Try.underlying25 hi0 hz0 hz1 hz2 rfl (by decide) _ _ _ rfl HO.out.1 ⟨w3.heap.size, 0, none⟩ 1 1 [.slice (some ⟨g, 0, none⟩) xs.length cap, .int .i64 W] rfl ?q1 ?q2 ?q3 ?q4 ?q5 ?q6 ?_)
        case q1 => rfl
        case q2 =>
          intro j u hj
          match j, hj with
          | 0, hj => simp at hj; subst hj; simp [go_sem, Addr.add]
          | 1, hj => simp at hj; subst hj; simp [go_sem, Addr.add]
        case q3 => intro u hu; simp at hu; rcases hu with rfl | rfl <;> rfl
        case q4 => have := HDL.out; simp [maxLen]; omega
        case q5 => have := HDL.out; omega
        case q6 => simp; omega
        intro v4 w4 hown4 hgrow hnil hat
        have HW4 : Hid (Rws w4 w2.heap.size v4 (ds ++ [(.slice (some ⟨g, 0, none⟩) xs.length cap, xs, W)])) := HO.out.app hown4 hgrow (by simpa using hat) HI3.out HMG.out
        have hb4 : Below w2.heap.size w2 w4 := (bal (bt hbl hb3) _).grown hgrow (by simp; omega) (owns_block HO.out.1)
        obtain ⟨a4, c4, rfl⟩ := HW4.out.slice
        have HD4 : Hid (rd (ds ++ [((.slice (some ⟨g, 0, none⟩) xs.length cap, xs, W) : Tr)]) = (expL u d k (natsT ts)).take (i + 1) ∧ (ds ++ [((.slice (some ⟨g, 0, none⟩) xs.length cap, xs, W) : Tr)]).length = i + 1) := by
          refine ⟨?_, by simp [HD.out.2]⟩
          rw [HTk.out, ← HD.out.1]
          simp [rd]
        clear hown4 hgrow hnil hat HO
        go_wp2
        go_roundw
        case rel => exact ⟨i + 1, _, by go_num, by omega, HD4, HW4, hb4⟩
        case measure => simp [intOf]; omega
      · have hi : i = os.length := by omega
        have HF : Hid (rd ds = expL u d k (natsT ts)) := by
          rw [Hid, HD.out.1, List.take_of_length_le]
          have h3 := congrArg List.length HOs.out
          rw [List.length_map] at h3
          rw [hi, h3]
          simp [expL, nats_len]
        have HL : ds.length ≤ 1073741824 := by rw [HD.out.2]; omega
        have kc2 := makeR_any wr.heap.size (.slice pa ds.length pc) ds wr (Nat.le_refl _) (HW.out.parts HL) l er (by rw [HF.out]; exact HR.out)
        clear HW HD HF HR hi hpl
        go_wp2_with fail
        refine kc2.mono ?_
        rintro e w5 ⟨v5, xs, rfl, k1, k2, k3⟩
        obtain ⟨b5, d5, rfl⟩ := k2.slice
        have HZ : Hid (DistQ' w l er (.returned (.tuple #[.slice b5 xs.length d5, .int .i64 er])) w5) := ⟨_, xs, rfl, k1, k2.mono GB.size, bt GB k3⟩
        clear kc2 k1 k2 k3
        go_wp2
        exact bodyPost_ret (v := .tuple #[.slice b5 xs.length d5, .int .i64 er]) (by simp [results, Try.results7, go_sem]) rfl HZ.out
  · have c1 : (e0 != 0) = true := by simpa using c0
    unfold shuT at hr
    rw [he0, if_pos c0] at hr
    simp only [Prod.mk.injEq] at hr
    obtain ⟨rfl, rfl⟩ := hr
    clear HN he0 hxa
    go_enter Try.func7, Try.ntmps7
    go_wp2_with fail
    refine kc.mono ?_
    rintro x w1 ⟨rfl, hb1⟩
    have G1 := bt (ba _ _) hb1
    clear kc hb1
    go_wp2
    exact bodyPost_ret (v := .tuple #[.slice none 0 0, .int .i64 e0]) (by simp [results, Try.results7, go_sem]) rfl (DistQ'.err G1)
end Go.Proofs.Ytfcbkcoagoncoaa
