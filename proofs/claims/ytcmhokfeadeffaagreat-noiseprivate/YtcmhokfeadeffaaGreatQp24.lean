import Derived.Test.YtcmhokfeadeffaaGreatQp21
import Derived.Test.YtcmhokfeadeffaaGreatQp23
import Derived.Test.YtcmhokfeadeffaaGreatRows
import Derived.WalkKit
import Derived.WalkSpells
import Derived.Deep.QuietTactic
import Derived.BigQuiet
import Derived.WalkSmall
namespace Go.Proofs.YtcmhokfeadeffaaGreat
open Go.RowKit Go.Proofs.YtcmhokfeadeffaaGreat.Ds

def HidsR (w : World) (l : List (List Pt)) (er : Int) (e : Ending) (w' : World) : Prop :=
  ∃ v zs, e = .returned (.tuple #[v, .int .i64 er]) ∧ rds zs = l ∧ DssA w' w.heap.size v zs ∧ Below w.heap.size w w'
theorem dss_nil (w : World) : Dss w w.heap.size (.slice none 0 0) [] := ⟨none, 0, rfl, Nat.le_refl _, by simp, by simp, fun h => absurd rfl h⟩
set_option maxHeartbeats 4000000 in
set_option maxRecDepth 100000 in
/-- the reference's HideAll -/
theorem rhideAll_any (B nb : Nat) (u d lo hi : Int) (v : Value) (ns : List Int) (w : World) (hB : B ≤ w.heap.size) (hx : Ints w B nb v ns) (hlen : ns.length ≤ 1048576) (l : List (List Pt)) (er : Int) (hr : hidsT u d lo hi ns = (l, er)) :
    Calls Tryz.prog 18 #[rv u d, .int .i64 lo, .int .i64 hi, v] w (HidsR w l er) := by
  have HX : Hid (Ints w B nb v ns) := hx
  have HR : Hid (hidsT u d lo hi ns = (l, er)) := hr
  obtain ⟨va, vc, rfl, _⟩ := hx
  obtain ⟨i0, hi0, hz0, hz1, hz2⟩ := info_parts info26
  clear hr
  obtain ⟨w0, hw0⟩ : ∃ w0, w.alloc (.cells #[.int .i64 u, .int .i64 d] 23) = w0 := ⟨_, rfl⟩
  have hb0 : Below w.heap.size w w0 := hw0 ▸ ba w _
  have hs0 : w.heap.size < w0.heap.size := by rw [← hw0]; simp
  have p1 : w0.cell? ⟨w.heap.size, 0, none⟩ = some (.int .i64 u) := by rw [← hw0]; simp [go_sem]
  have p2 : w0.cell? ⟨w.heap.size, 1, none⟩ = some (.int .i64 d) := by rw [← hw0]; simp [go_sem]
  go_enter Tryz.func18, Tryz.ntmps18
  go_wp2_with fail
  clear hw0
  go_loopw [10, 17] (fun pv s wr => ∃ (i : Nat) (zs : List Dz), s = .int .i64 (i : Int) ∧ i ≤ ns.length ∧ Hid (zs.length = i ∧ rds zs = (ns.take i).map (fun n => (hideT u d lo hi n).1) ∧ ∀ x ∈ ns.take i, (hideT u d lo hi x).2 = 0) ∧ Hid (Dsr wr w0.heap.size pv zs) ∧ Hid (∀ z ∈ zs, ∀ m, m < w.heap.size → PartsN wr wr.heap.size m z.1 z.2) ∧ Below w0.heap.size w0 wr) (fun _ s _ => ns.length - (intOf s).toNat)
  case atStart => exact ⟨0, [], rfl, Nat.zero_le _, ⟨rfl, by simp [rds], by simp⟩, Dsr.nil _ _, fun z hz => by (cases hz), Below.refl _ _⟩
  case round =>
    obtain ⟨i, zs, rfl, hit, HZ, HD, HAw, hbl⟩ := hrel
    have hbs := hbl.size
    have hpl := HD.out.lt
    obtain ⟨pa, pc, rfl⟩ := HD.out.slice
    have hbw : Below w.heap.size w wr := hb0.trans (hbl.mono hb0.size)
    have HDL : Hid (zs.length ≤ 1048576) := by have := HZ.out.1; show zs.length ≤ 1048576; omega
    by_cases h1 : i < ns.length
    · obtain ⟨b, o, x, rfl, hb, hxi, hcx⟩ := HX.out.get' hB hbw h1
      have HX1 : Hid (ns[i]? = some x) := hxi
      obtain ⟨⟨l1, e1⟩, hh⟩ : ∃ y, hideT u d lo hi x = y := ⟨_, rfl⟩
      have kh := rhide_any u d lo hi x l1 e1 hh
      have HH : Hid (hideT u d lo hi x = (l1, e1)) := hh
      have c1 : wr.cell? ⟨w.heap.size, 0, none⟩ = some (.int .i64 u) := (hbl.cell (p := ⟨w.heap.size, 0, none⟩) hs0).trans p1
      have c2 : wr.cell? ⟨w.heap.size, 1, none⟩ = some (.int .i64 d) := (hbl.cell (p := ⟨w.heap.size, 1, none⟩) hs0).trans p2
      obtain ⟨mo, hmo, hmg⟩ := own_or3 (n := wr.heap.size) (fun g e => (hpl g e).2) (by omega)
      have HO : Hid (∀ g, (Value.slice pa zs.length pc).ownBlock = some g → mo = g) := hmg
      clear hxi hh hmg
      go_wp2_with fail
      refine (kh _).mono ?_
      rintro e w2 ⟨v2, us, rfl, k1, k2, k3, k4⟩
      obtain ⟨a2, c2', hv2⟩ := k2.slice
      subst hv2
      by_cases he1 : e1 = 0
      · subst he1
        have HPN : Hid (PartsN w2 w2.heap.size mo (.slice a2 us.length c2') us ∧ rd us = l1) := ⟨own_away k2 k4 hmo, k1⟩
        have bw3 : Below wr.heap.size wr (w2.alloc (.cells #[.slice a2 us.length c2'] 44)) := bal k3 _
        have HFk : Hid (Dsr (w2.alloc (.cells #[.slice a2 us.length c2'] 44)) w0.heap.size (.slice pa zs.length pc) zs) := HD.out.keep bw3
        have BB : Hid (Below w0.heap.size w0 (w2.alloc (.cells #[.slice a2 us.length c2'] 44))) := bt hbl bw3
        have hw3 : w0.heap.size ≤ w2.heap.size := by have := k3.size; omega
        have hnl := HDL.out
        have HAW2 : Hid (∀ m, m < w.heap.size → PartsN w2 w2.heap.size m (.slice a2 us.length c2') us) := fun m hm => own_away k2 k4 (by omega)
        have bw3' : Hid (Below wr.heap.size wr (w2.alloc (.cells #[.slice a2 us.length c2'] 44))) := bw3
        clear k1 k2 k3 k4 bw3 kh
        go_wp2_with (at_builtin; refine wpList_append_lies _ rfl _ _ 32 rfl w0.heap.size 44 i0 (.slice none 0 0) 1 24 Tryz.underlying32 hi0 hz0 hz1 hz2 rfl (by decide) _ _ _ rfl HFk.out.1 ⟨w2.heap.size, 0, none⟩ 1 1 [.slice a2 us.length c2'] rfl ?q1 ?q2 ?q3 (by decide) ?q4 ?q5 ?q6 (w2.heap.size + 1) ?q7 ?_)
        case q1 => rfl
        case q2 =>
          intro j u hj
          match j, hj with
          | 0, hj => simp at hj; subst hj; simp [go_sem, Addr.add]
        case q3 => intro u hu; simp at hu; subst hu; rfl
        case q4 => simp [maxLen]; omega
        case q5 => omega
        case q6 => simp; omega
        case q7 => simp
        intro g cap w4 hown hgrow hat hlt
        have HFn : Hid (Dsr w4 w0.heap.size (.slice (some ⟨g, 0, none⟩) (zs.length + 1) cap) (zs ++ [(.slice a2 us.length c2', us)])) :=
          HFk.out.app (n := (.slice a2 us.length c2', us)) hown hgrow (hat.imp (fun e => by rw [e]; rfl) (fun e => by rw [e]; simp [Value.ownBlock])) (HPN.out.1.at2 (ba _ _)) HO.out
        have HAw4 : Hid (∀ z ∈ zs ++ [((.slice a2 us.length c2', us) : Dz)], ∀ m, m < w.heap.size → PartsN w4 w4.heap.size m z.1 z.2) := by
          intro z hz m hm
          rcases List.mem_append.1 hz with h | h
          · obtain ⟨m0, h1, h2⟩ := HFk.out.2 z h
            exact ((HAw.out z h m hm).at2 bw3'.out).grow2 h1 hgrow h2
          · obtain rfl : z = (.slice a2 us.length c2', us) := by simpa using h
            exact ((HAW2.out m hm).at2 (ba _ _)).grow2 (HPN.out.1.at2 (ba _ _)) hgrow HO.out
        have B4 : Below w0.heap.size w0 w4 := BB.out.grown hgrow (by simp; omega) (owns_block HFk.out.1)
        have HZ4 : Hid ((zs ++ [((.slice a2 us.length c2', us) : Dz)]).length = i + 1 ∧ rds (zs ++ [(.slice a2 us.length c2', us)]) = (ns.take (i + 1)).map (fun n => (hideT u d lo hi n).1) ∧ ∀ y ∈ ns.take (i + 1), (hideT u d lo hi y).2 = 0) := by
          refine ⟨by simp [HZ.out.1], ?_, ?_⟩
          · have h5 := HZ.out.2.1
            rw [List.take_add_one, HX1.out]
            simp only [rds, List.map_append] at h5 ⊢
            rw [h5]
            simp [HH.out, HPN.out.2]
          · intro y hy
            rw [List.take_add_one, HX1.out] at hy
            rcases List.mem_append.1 hy with h6 | h6
            · exact HZ.out.2.2 y h6
            · obtain rfl : y = x := by simpa using h6
              rw [HH.out]
        clear hown hgrow hat hlt HFk
        go_wp2
        go_roundw
        case rel => exact ⟨i + 1, _, by go_num, h1, HZ4, HFn, HAw4, B4⟩
        case measure => simp [intOf]; omega
      · have hne1 : (e1 == 0) = false := by simpa using he1
        have hne2 : (e1 != 0) = true := by simpa using he1
        have hE := hids_err HZ.out.2.2 HX1.out (e := e1) (by rw [HH.out]) he1
        rw [hE] at HR
        have hR' := HR.out
        simp only [Prod.mk.injEq] at hR'
        obtain ⟨rfl, rfl⟩ := hR'
        have hbw2 := bt hbw k3
        clear k1 k2 k4 kh hE HH HD
        go_wp2
        exact bodyPost_ret (v := .tuple #[.slice none 0 0, .int .i64 e1]) (by simp [results, Tryz.results18, go_sem]) rfl ⟨_, [], rfl, rfl, DssA.nil _ _, hbw2⟩
    · have hall : ∀ n ∈ ns, (hideT u d lo hi n).2 = 0 := by have := HZ.out.2.2; rwa [List.take_of_length_le (by omega)] at this
      have hE := hids_ok hall
      rw [hE] at HR
      have hR' := HR.out
      simp only [Prod.mk.injEq] at hR'
      obtain ⟨rfl, rfl⟩ := hR'
      have HZZ : Hid (HidsR w (ns.map fun n => (hideT u d lo hi n).1) 0 (.returned (.tuple #[.slice pa zs.length pc, .int .i64 0])) wr) := by
        refine ⟨_, zs, rfl, ?_, HD.out.dssA (by have := HDL.out; omega) (by omega) HAw.out, hbw⟩
        have h5 := HZ.out.2.1
        rwa [List.take_of_length_le (by omega)] at h5
      clear HD HR hE
      go_wp2
      exact bodyPost_ret (v := .tuple #[.slice pa zs.length pc, .int .i64 0]) (by simp [results, Tryz.results18, go_sem]) rfl HZZ.out

/-- as far as one has looked they are the same -/
theorem rds_len (zs : List Dz) : (rds zs).length = zs.length := by simp [rds]
theorem rds_get {zs : List Dz} {i : Nat} {z : Dz} (h : zs[i]? = some z) : (rds zs)[i]? = some (rd z.2) := by simp [rds, h]
theorem pfx_step {α : Type} {x y : List α} {i : Nat} {a : α} (h : x.take i = y.take i) (hx : x[i]? = some a) (hy : y[i]? = some a) : x.take (i + 1) = y.take (i + 1) := by
  rw [List.take_add_one, List.take_add_one, h, hx, hy]

set_option maxHeartbeats 2000000 in
/-- SameDists -/
theorem sameDists_any (B : Nat) (u v : Value) (zs ys : List Dz) (w : World) (hB : B ≤ w.heap.size) (hp : Dss w B u zs) (hq : Dss w B v ys) (hl1 : zs.length ≤ 1048576) (_hl2 : ys.length ≤ 1048576) (hr : rds zs = rds ys) :
    Calls Tryz.prog 7 #[u, v] w fun e w' => e = .returned (.bool true) ∧ Below w.heap.size w w' := by
  have HP : Hid (Dss w B u zs) := hp
  have HQ : Hid (Dss w B v ys) := hq
  have HR : Hid (rds zs = rds ys) := hr
  have hlen : zs.length = ys.length := by have := congrArg List.length hr; rwa [rds_len, rds_len] at this
  obtain ⟨a, c, rfl, hc, _⟩ := hp
  obtain ⟨a', c', rfl, hc', _⟩ := hq
  have hle : ((zs.length : Int) != (ys.length : Int)) = false := by simp [hlen]
  have HL : Hid (zs.length = ys.length) := hlen
  clear hr hlen
  go_enter Tryz.func7, Tryz.ntmps7
  go_wp2
  go_loopw [5, 13] (fun _ s wr => ∃ i : Nat, s = .int .i64 (i : Int) ∧ i ≤ zs.length ∧ Below w.heap.size w wr) (fun _ s _ => zs.length - (intOf s).toNat)
  case atStart => exact ⟨0, rfl, Nat.zero_le _, Below.refl _ _⟩
  case round =>
    obtain ⟨i, rfl, hit, hbl⟩ := hrel
    have hbs := hbl.size
    by_cases h1 : i < zs.length
    · have h2 : i < ys.length := by have := HL.out; omega
      obtain ⟨b, o, sa, sc, xs, rfl, hb, hs, c1, hI⟩ := HP.out.get hB hbl h1
      obtain ⟨b2, o2, sa2, sc2, xs2, rfl, hb2, hs2, c2, hI2⟩ := HQ.out.get hB hbl h2
      have he : rd xs = rd xs2 := by
        have e1 := rds_get hs
        have e2 := rds_get hs2
        rw [HR.out, e2] at e1
        simpa using e1.symm
      have ks := sameR_any B _ _ xs xs2 wr.drew (by show B ≤ wr.heap.size; omega) (hI.at (by omega) (Below.refl _ _).drew) (hI2.at (by omega) (Below.refl _ _).drew) true (by simp [he])
      have g1 : (0 : Int) ≤ (i : Int) := by omega
      have g2 : (i : Int) < (zs.length : Int) := by omega
      have g3 : (i : Int) < (ys.length : Int) := by omega
      have lw1 : b < wr.heap.size := by omega
      have lw2 : b2 < wr.heap.size := by omega
      clear hs hs2 hI hI2 he
      go_wp2_with fail
      go_region_held3 (fun w' => w'.cell? ⟨b, o + i, none⟩ = some (.slice sa xs.length sc) ∧ w'.cell? ⟨b2, o2 + i, none⟩ = some (.slice sa2 xs2.length sc2))
        ((go_split_ands; refine ⟨?_, ?_⟩ <;> first | assumption | (simp [go_sem, *]; done)))
        ((go_at_call 21; refine ks.mono ?_; rintro x3 w3 ⟨rfl, hb3⟩; obtain ⟨hc3, hf3⟩ := bcell hb3; have q1 : w3.cell? ⟨b, o + i, none⟩ = some (.slice sa xs.length sc) := (hc3 _ _ lw1).trans c1; have q2 : w3.cell? ⟨b2, o2 + i, none⟩ = some (.slice sa2 xs2.length sc2) := (hc3 _ _ lw2).trans c2; clear hc3 hf3))
      have HB3 : Hid (Below w.heap.size w w3) := bt hbl (bt (Below.refl _ _).drew hb3)
      clear hb3 ks
      go_wp2
      go_roundw
      case rel => exact ⟨i + 1, by go_num, h1, HB3.out⟩
      case measure => simp [intOf]; omega
    · go_wp2
      go_ret
      exact ⟨rfl, hbl⟩
end Go.Proofs.YtcmhokfeadeffaaGreat

namespace Go.Proofs.YtcmhokfeadeffaaGreat.K.Ds

/-- the order of lists: -1, 0, 1 -/
def cmpT : List Int → List Int → Int
  | [], [] => 0
  | [], _ :: _ => -1
  | _ :: _, [] => 1
  | a :: x, b :: y => if a < b then -1 else if b < a then 1 else cmpT x y

theorem cmpT_cases (x y : List Int) : cmpT x y = -1 ∨ cmpT x y = 0 ∨ cmpT x y = 1 := by
  induction x generalizing y with
  | nil => cases y <;> simp [cmpT]
  | cons a x ih => cases y with
    | nil => simp [cmpT]
    | cons b y => simp only [cmpT]; split; · simp
                  · split; · simp
                    · exact ih y

theorem cmpT_swap (x y : List Int) : cmpT y x = - cmpT x y := by
  induction x generalizing y with
  | nil => cases y <;> simp [cmpT]
  | cons a x ih => cases y with
    | nil => simp [cmpT]
    | cons b y =>
      simp only [cmpT]
      by_cases h1 : a < b
      · simp [h1, Int.not_lt.2 (Int.le_of_lt h1)]
      · by_cases h2 : b < a
        · simp [h1, h2]
        · simp [h1, h2, ih y]

theorem cmpT_self (x : List Int) : cmpT x x = 0 := by
  have := cmpT_swap x x; omega

theorem cmpT_zero (x y : List Int) : cmpT x y = 0 ↔ x = y := by
  constructor
  · intro h
    induction x generalizing y with
    | nil => cases y with | nil => rfl | cons b y => simp [cmpT] at h
    | cons a x ih => cases y with
      | nil => simp [cmpT] at h
      | cons b y =>
        simp only [cmpT] at h
        by_cases h1 : a < b
        · simp [h1] at h
        · by_cases h2 : b < a
          · simp [h1, h2] at h
          · simp [h1, h2] at h
            rw [ih y h, show a = b by omega]
  · rintro rfl; exact cmpT_self x


end Go.Proofs.YtcmhokfeadeffaaGreat.K.Ds

namespace Go.Proofs.YtcmhokfeadeffaaGreat.K
open Go.RowKit Go.Proofs.YtcmhokfeadeffaaGreat.K.Ds

/-- THE NUMBERS BEHIND A SLICE, in a block below B that is not nb. -/
def Ints (w : World) (B nb : Nat) (v : Value) (xs : List Int) : Prop :=
  ∃ a c, v = .slice a xs.length c ∧ xs.length ≤ c ∧ xs.length ≤ 9223372036854775807 ∧
    (xs ≠ [] → ∃ b o, a = some ⟨b, o, none⟩ ∧ b < B ∧ b ≠ nb ∧ ∀ i x, xs[i]? = some x → w.cell? ⟨b, o + i, none⟩ = some (.int .i64 x))

theorem Ints.keep {w w' : World} {B nb : Nat} {v : Value} {xs : List Int} (h : Ints w B nb v xs) (hb : Below B w w') : Ints w' B nb v xs := by
  obtain ⟨a, c, hv, hc, hl, hx⟩ := h
  refine ⟨a, c, hv, hc, hl, fun hne => ?_⟩
  obtain ⟨b, o, ha, hB, hn, hcell⟩ := hx hne
  exact ⟨b, o, ha, hB, hn, fun i x hi => (hb.cell (p := ⟨b, o + i, none⟩) hB).trans (hcell i x hi)⟩

theorem Ints.mono {w : World} {B B' nb nb' : Nat} {v : Value} {xs : List Int} (h : Ints w B nb v xs) (hB : B ≤ B') (hn : nb' = nb ∨ B ≤ nb') : Ints w B' nb' v xs := by
  obtain ⟨a, c, hv, hc, hl, hx⟩ := h
  refine ⟨a, c, hv, hc, hl, fun hne => ?_⟩
  obtain ⟨b, o, ha, hb, hnb, hcell⟩ := hx hne
  exact ⟨b, o, ha, by omega, by rcases hn with h | h <;> omega, hcell⟩

theorem get_lt {α : Type} {l : List α} {i : Nat} (h : i < l.length) : ∃ x, l[i]? = some x := ⟨l[i], List.getElem?_eq_getElem h⟩
theorem ne_of_lt {α : Type} {l : List α} {i : Nat} (h : i < l.length) : l ≠ [] := by rintro rfl; simp at h
theorem ret_b {a b : Bool} (h : a = b) : Ending.returned (.bool a) = .returned (.bool b) := by rw [h]

theorem dr2 (w : World) (a b c : Nat) : ∃ q, ((w.drewN a).drewN b).drewN c = w.drewN q := by simp only [World.drewN_drewN]; exact ⟨_, rfl⟩
theorem dr1 (w : World) (a b : Nat) : ∃ q, (w.drewN a).drewN b = w.drewN q := by simp only [World.drewN_drewN]; exact ⟨_, rfl⟩

/-! ### comparing -/

theorem cmpT_step {x y : List Int} {i : Nat} {a b : Int} (hx : x[i]? = some a) (hy : y[i]? = some b) :
    cmpT (x.drop i) (y.drop i) = if a < b then -1 else if b < a then 1 else cmpT (x.drop (i + 1)) (y.drop (i + 1)) := by
  rw [List.drop_eq_getElem_cons (List.getElem?_eq_some_iff.1 hx).1, List.drop_eq_getElem_cons (List.getElem?_eq_some_iff.1 hy).1, (List.getElem?_eq_some_iff.1 hx).2, (List.getElem?_eq_some_iff.1 hy).2]
  rfl

set_option maxHeartbeats 400000 in
theorem refCompare_any (B n1 n2 : Nat) (u v : Value) (x y : List Int) (w : World) (hx : Ints w B n1 u x) (hy : Ints w B n2 v y) (r : Int) (hr : cmpT x y = r) :
    Calls Tryz.prog 52 #[u, v] w fun e w' => e = .returned (.int .i64 r) ∧ ∃ q, w' = w.drewN q := by
  obtain ⟨ax, cx, rfl, hcx, hlx, hxx⟩ := hx
  obtain ⟨ay, cy, rfl, hcy, hly, hyy⟩ := hy
  have HX : Hid (x ≠ [] → ∃ b o, ax = some ⟨b, o, none⟩ ∧ b < B ∧ b ≠ n1 ∧ ∀ i z, x[i]? = some z → w.cell? ⟨b, o + i, none⟩ = some (.int .i64 z)) := hxx
  have HY : Hid (y ≠ [] → ∃ b o, ay = some ⟨b, o, none⟩ ∧ b < B ∧ b ≠ n2 ∧ ∀ i z, y[i]? = some z → w.cell? ⟨b, o + i, none⟩ = some (.int .i64 z)) := hyy
  have HR : Hid (cmpT x y = r) := hr
  clear hxx hyy hr
  go_enter Tryz.func52, Tryz.ntmps52
  go_wp2
  go_loopw [8] (fun s wr => ∃ i : Nat, s = .int .i64 (i : Int) ∧ i ≤ x.length ∧ i ≤ y.length ∧ cmpT (x.drop i) (y.drop i) = r ∧ ∃ q, wr = w.drewN q) (fun s _ => x.length - (intOf s).toNat)
  case atStart => exact ⟨0, rfl, Nat.zero_le _, Nat.zero_le _, HR.out, 0, rfl⟩
  case round =>
    obtain ⟨i, rfl, hix, hiy, hc, q, rfl⟩ := hrel
    have HC : Hid (cmpT (x.drop i) (y.drop i) = r) := hc
    clear hc
    by_cases h1 : i < x.length
    · obtain ⟨bx, ox, rfl, hbx, hnx, hcx⟩ := HX.out (ne_of_lt h1)
      obtain ⟨zx, hzx⟩ := get_lt h1
      have cx1 := hcx i zx hzx
      by_cases h2 : i < y.length
      · obtain ⟨by', oy, rfl, hby, hny, hcy⟩ := HY.out (ne_of_lt h2)
        obtain ⟨zy, hzy⟩ := get_lt h2
        have cy1 := hcy i zy hzy
        have st := cmpT_step hzx hzy
        have ST : Hid (cmpT (x.drop i) (y.drop i) = if zx < zy then -1 else if zy < zx then 1 else cmpT (x.drop (i + 1)) (y.drop (i + 1))) := st
        clear st hcx hcy HX HY hzx hzy
        by_cases c1 : zx = zy
        · subst c1
          go_wp2
          go_quiet (fail)
          go_wp2
          go_roundw
          case rel => exact ⟨i + 1, by go_num, h1, h2, by rw [← HC.out, ST.out]; simp, _, rfl⟩
          case measure => simp [intOf]; omega
        · by_cases c2 : zx < zy
          · have hr1 : r = -1 := by rw [← HC.out, ST.out]; simp [c2]
            subst hr1
            go_wp2
            go_quiet (fail)
            go_wp2
            go_quiet (fail)
            go_wp2
            go_ret
            exact ⟨rfl, dr2 _ _ _ _⟩
          · have hr1 : r = 1 := by rw [← HC.out, ST.out]; simp [c2, show zy < zx by omega]
            subst hr1
            go_wp2
            go_quiet (fail)
            go_wp2
            go_quiet (fail)
            go_wp2
            go_ret
            exact ⟨rfl, dr2 _ _ _ _⟩
      · have hr1 : r = 1 := by
          rw [← HC.out, List.drop_eq_getElem_cons h1, List.drop_eq_nil_of_le (show y.length ≤ i by omega)]; rfl
        subst hr1
        clear hcx HX HY
        go_wp2
        go_ret
        exact ⟨rfl, _, rfl⟩
    · by_cases h2 : i < y.length
      · have hr1 : r = -1 := by
          rw [← HC.out, List.drop_eq_nil_of_le (show x.length ≤ i by omega), List.drop_eq_getElem_cons h2]; rfl
        subst hr1
        have h3 : x.length < y.length := by omega
        clear HX HY
        go_wp2
        go_ret
        exact ⟨rfl, _, rfl⟩
      · have hr1 : r = 0 := by
          rw [← HC.out, List.drop_eq_nil_of_le (show x.length ≤ i by omega), List.drop_eq_nil_of_le (show y.length ≤ i by omega)]; rfl
        subst hr1
        have h3 : ¬ x.length < y.length := by omega
        clear HX HY
        go_wp2
        go_ret
        exact ⟨rfl, _, rfl⟩
end Go.Proofs.YtcmhokfeadeffaaGreat.K
