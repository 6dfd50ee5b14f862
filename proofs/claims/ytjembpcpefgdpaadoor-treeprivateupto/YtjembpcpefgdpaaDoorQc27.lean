import Derived.Test.YtjembpcpefgdpaaDoorQc26
import Derived.Test.YtjembpcpefgdpaaDoorQc11
import Derived.RangeFuncNested
import Derived.RangeFuncBound
import Derived.RangeFuncCalls
import Derived.RangeFuncLeaves
import Derived.Shelf.Abstract
import Derived.Shelf.RegionOpen
import Derived.WalkKit
import Derived.OwnWalkIn
import Derived.TacticsInMore
import Derived.LoopNIn
import Derived.LoopIn
namespace Go.Proofs.YtjembpcpefgdpaaDoor
open Go.RowKit Go.Proofs.YtjembpcpefgdpaaDoor.Ds

/-- zeros into the first cells -/
theorem RowI.zeros {w : World} {g : Nat} {xs : List Int} (h : RowI w g xs) (n : Nat) (hn : n ≤ xs.length) (hl : (w.setCells g 0 (List.replicate n (.int .i64 0))).heap.size = w.heap.size) : RowI (w.setCells g 0 (List.replicate n (.int .i64 0))) g (List.replicate n 0 ++ xs.drop n) := by
  refine ⟨fun i x hi => ?_, fun i hi => ?_, by rw [hl]; exact h.lt⟩
  · by_cases c : i < n
    · rw [List.getElem?_append_left (by simpa using c)] at hi
      obtain rfl : x = 0 := by
        have := (List.getElem?_eq_some_iff.1 hi).2; simp at this; exact this.symm
      have := World.cell?_setCells_in g (List.replicate n (.int .i64 0)) 0 w (fun j hj => by
        obtain ⟨y, hy⟩ := get_lt (l := xs) (i := j) (by simp at hj; omega)
        rw [Nat.zero_add, h.cells j y hy]; rfl) i (by simpa using c)
      simpa using this
    · rw [List.getElem?_append_right (by simp; omega)] at hi
      rw [World.cell?_setCells_out g _ 0 w ⟨g, i, none⟩ (fun _ _ => .inr (by simp; omega))]
      refine h.cells i x ?_
      rw [List.getElem?_drop] at hi
      rw [← hi]
      congr 1
      simp
      omega
  · rw [World.frozen?_setCells]
    refine h.thaw i ?_
    simp at hi
    omega
theorem gb_setcs (g : Nat) : ∀ (vs : List Value) (o : Nat) (w : World), w.grownBy (w.setCells g o vs) (some g) ∧ (w.setCells g o vs).heap.size = w.heap.size
  | [], _, w => ⟨gb_some (gb_none (Below.refl _ _)), rfl⟩
  | v :: vs, o, w => by
    obtain ⟨h1, h2⟩ := gb_setcs g vs (o + 1) (w.setCell ⟨g, o, none⟩ v)
    exact ⟨gb_trans (gb_setc w g o v) h1, h2.trans (by simp)⟩
theorem DosN.slice {w : World} {h : Nat} {v : Value} {zs : List Dz} (D : DosN w h v zs) : ∃ a c, v = .slice a zs.length c := by
  rcases D with ⟨rfl, rfl⟩ | ⟨g, cap, lo, h1, _⟩
  · exact ⟨none, 0, rfl⟩
  · exact ⟨_, _, h1⟩

set_option maxHeartbeats 4000000 in
set_option maxRecDepth 100000 in
theorem stepGood_any (N R k : Nat) (u d lo hi : Int) (t g cap : Nat) (xs : List Int) (item : Int) (w : World) (C : Ctr w N R k u d lo hi t g cap xs) (hN : 2 ≤ N) (hT : TabAt 1 Lib.deBruijn64tab w) (hk : k ≤ 10) (ht : t < 2 ^ k) (hi0 : ¬ item < 0) (hi1 : ¬ 1048576 < item)
    (hxs : ∀ x ∈ xs, 0 ≤ x ∧ x ≤ 1099511627776) (hlo : I64 lo) (hhi : I64 hi) (l : List (List Pt)) (hr : hidsT u d lo hi ((xs.map (· + item)).take (enT t)) = (l, 0)) :
    Calls Tryd.prog 15 #[.pointer (some ⟨R, 0, none⟩), .int .i64 item] w (StepP w N R k u d lo hi g (t + 1) (List.replicate (enT t) 0 ++ (xs.map (· + item)).drop (enT t)) l 0) := by
  have HC : Hid (Ctr w N R k u d lo hi t g cap xs) := C
  have HXS : Hid (∀ x ∈ xs, 0 ≤ x ∧ x ≤ 1099511627776) := hxs
  have HLH : Hid (I64 lo ∧ I64 hi) := ⟨hlo, hhi⟩
  have HR : Hid (hidsT u d lo hi ((xs.map (· + item)).take (enT t)) = (l, 0)) := hr
  have HT : Hid (TabAt 1 Lib.deBruijn64tab w) := hT
  have kl := len_any k hk
  have c0 := C.box.c0
  have c5 := C.box.c5
  have c6 := C.box.c6
  have lR := C.box.lt
  have nR := C.nR
  have hlen : xs.length = k + 1 := C.len
  have HLN : Hid (xs.length = k + 1) := hlen
  have hen1 := enT_pos t
  have hen2 : enT t ≤ k + 1 := enT_le t k ht (by omega)
  have htt : t ≤ 1024 := by
    have : 2 ^ k ≤ 2 ^ 10 := Nat.pow_le_pow_right (by decide) hk
    omega
  obtain ⟨q, hq⟩ : ∃ q, 2 ^ k = q := ⟨_, rfl⟩
  rw [hq] at kl ht
  have ht' : ¬ (q : Int) ≤ (t : Int) := by omega
  have kc := fun n => cloneR_any g cap xs (w.drewN n) (C.row.keep (bdr _ _) C.row.lt) (by intro e; rw [e] at hlen; simp at hlen) (by omega)
  rw [hlen] at kc
  clear C hq ht hT hr hxs hlo hhi hlen
  go_enter Tryd.func15, Tryd.ntmps15
  go_wp2
  go_quiet ((go_at_call 32; refine Calls.quiet_of_same (kl _)))
  go_wp2_with fail
  refine (kc _).mono ?_
  rintro e1 w1 ⟨g1, cap1, rfl, hc1, hg1, hr1, hb1⟩
  have B1 : Below w.heap.size w w1 := bt (bdr _ _) hb1
  have hg1' : w.heap.size ≤ g1 := hg1
  have HR1 : Hid (RowI w1 g1 xs) := hr1
  have C1 : Hid (Ctr w1 N R k u d lo hi t g cap xs) := HC.out.keep B1
  have T1 : Hid (TabAt 1 Lib.deBruijn64tab w1) := tab_gb HT.out (gb_none B1) (by simp)
  have hs1 := B1.size
  clear hr1 hb1 hg1 kc kl
  go_wp2
  go_loopw [34] (fun s wr => ∃ i : Nat, s = .int .i64 (i : Int) ∧ i ≤ k + 1 ∧ Hid (RowI wr g1 (addI item i xs)) ∧ Hid (w1.grownBy wr (some g1))) (fun s _ => k + 1 - (intOf s).toNat)
  case atStart => exact ⟨0, rfl, Nat.zero_le _, by rw [Hid, addI_zero]; exact HR1.out, gb_some (gb_none (Below.refl _ _))⟩
  case round =>
    obtain ⟨i, rfl, hik, HRi, HGi⟩ := hrel
    by_cases h1 : i < k + 1
    · obtain ⟨x, hx⟩ := get_lt (l := xs) (i := i) (by rw [HLN.out]; exact h1)
      have HX : Hid (xs[i]? = some x) := hx
      have hbx := HXS.out x (List.mem_of_getElem? hx)
      have r1 : wr.cell? ⟨g1, i, none⟩ = some (.int .i64 x) := HRi.out.cells i x (addI_get item i xs hx)
      have r2 : wr.frozen? ⟨g1, i, none⟩ = false := HRi.out.thaw i (by rw [addI_len, HLN.out]; exact h1)
      have hw : IntKind.i64.wrap (x + item) = x + item := by rw [IntKind.wrap_i64]; omega
      have z1 : (i : Int) < (k : Int) + 1 := by omega
      have HR2 : Hid (RowI (wr.setCell ⟨g1, i, none⟩ (.int .i64 (x + item))) g1 (addI item (i + 1) xs)) := by
        have := HRi.out.set i (x + item)
        rw [addI_set item i xs hx] at this
        exact this
      have HG2 : Hid (w1.grownBy (wr.setCell ⟨g1, i, none⟩ (.int .i64 (x + item))) (some g1)) := gb_trans HGi.out (gb_setc _ _ _ _)
      clear hx
      go_wp2
      go_roundw
      case rel => exact ⟨i + 1, by go_num, h1, HR2, HG2⟩
      case measure => simp [intOf]; omega
    · obtain rfl : i = k + 1 := by omega
      have z1 : ¬ ((k + 1 : Nat) : Int) < (k : Int) + 1 := by omega
      have HRW : Hid (RowI wr g1 (xs.map (· + item))) := by
        have := HRi.out
        rw [addI_all item (k + 1) xs (by rw [HLN.out]; exact Nat.le_refl _)] at this
        exact this
      have neR : some R ≠ some g1 := by simp; omega
      have BX := C1.out.box.gb HGi.out neR
      have HBX : Hid (SevB wr R (.int .i64 (k : Int)) (.int .i64 u) (.int .i64 d) (.int .i64 lo) (.int .i64 hi) (.int .i64 (t : Int)) (.slice (some ⟨g, 0, none⟩) (k + 1) cap)) := BX
      have d1 := BX.c1
      have d2 := BX.c2
      have d3 := BX.c3
      have d4 := BX.c4
      have d5 := BX.c5
      have TX : Hid (TabAt 1 Lib.deBruijn64tab wr) := tab_gb T1.out HGi.out (by simp; omega)
      have ke := ending_any t (by omega) wr TX.out
      have hsr := HGi.out.size
      have lg1 := HRW.out.lt
      obtain ⟨n, hn⟩ : ∃ n, enT t = n := ⟨_, rfl⟩
      rw [hn] at ke hen1 hen2
      have HN : Hid (enT t = n) := hn
      have s1 : (n : Int) ≤ (cap1 : Int) := by omega
      have s2 : (0 : Int) ≤ (n : Int) := by omega
      have hty : (xs.map (· + item)).length = k + 1 := by simp [HLN.out]
      have htn : ((xs.map (· + item)).take n).length = n := by simp [HLN.out]; omega
      have hI : Ints wr.drew wr.heap.size 0 (.slice (some ⟨g1, 0, none⟩) n cap1) ((xs.map (· + item)).take n) := by
        refine ⟨_, cap1, by rw [htn], by rw [htn]; omega, by rw [htn]; omega, fun _ => ⟨g1, 0, rfl, lg1, by omega, fun i x hi => ?_⟩⟩
        rw [Nat.zero_add]
        have hin : i < n := by have := (List.getElem?_eq_some_iff.1 hi).1; rw [htn] at this; exact this
        rw [List.getElem?_take_of_lt hin] at hi
        exact HRW.out.cells i x hi
      have hns : ∀ y ∈ (xs.map (· + item)).take n, I64 y := by
        intro y hy
        obtain ⟨x, hx, rfl⟩ := List.mem_map.1 (List.mem_of_mem_take hy)
        have := HXS.out x hx
        unfold I64
        omega
      have kh := hideAll_any wr.heap.size 0 u d lo hi _ _ wr.drew (Nat.le_refl _) hI HLH.out.1 HLH.out.2 hns (by rw [htn]; omega) l 0 (by rw [← HN.out]; exact HR.out)
      have lRr : R < wr.heap.size := by omega
      clear BX hn hI hns htn hty
      go_wp2_with fail
      refine ke.mono ?_
      rintro e2 w2 ⟨rfl, hw2⟩
      have hw2' := hw2.symm
      subst hw2'
      clear ke hw2
      go_wp2_with fail
      go_region_held3 (fun w' => w'.cell? ⟨R, 1, none⟩ = some (.int .i64 u) ∧ w'.cell? ⟨R, 2, none⟩ = some (.int .i64 d) ∧ w'.cell? ⟨R, 3, none⟩ = some (.int .i64 lo) ∧ w'.cell? ⟨R, 4, none⟩ = some (.int .i64 hi))
        ((go_split_ands; refine ⟨?_, ?_, ?_, ?_⟩ <;> first | assumption | (simp [go_sem, *]; done)))
        ((go_at_call 35; refine kh.mono ?_; rintro x3 w3 ⟨v3, zs3, rfl, k1, k2, k3⟩; obtain ⟨hc3, hf3⟩ := bcell k3; have q1 : w3.cell? ⟨R, 1, none⟩ = some (.int .i64 u) := (hc3 _ _ lRr).trans d1; have q2 : w3.cell? ⟨R, 2, none⟩ = some (.int .i64 d) := (hc3 _ _ lRr).trans d2; have q3 : w3.cell? ⟨R, 3, none⟩ = some (.int .i64 lo) := (hc3 _ _ lRr).trans d3; have q4 : w3.cell? ⟨R, 4, none⟩ = some (.int .i64 hi) := (hc3 _ _ lRr).trans d4; clear hc3 hf3))
      obtain ⟨a3, c3, hv3⟩ := k2.slice
      subst hv3
      have K2 : Hid (DosN w3 wr.heap.size (.slice a3 zs3.length c3) zs3) := k2
      have B3 : Hid (Below wr.heap.size wr w3) := bt (Below.refl _ _).drew k3
      have R3 : Hid (RowI w3 g1 (xs.map (· + item))) := HRW.out.keep B3.out lg1
      have S3 := HBX.out.keep B3.out lRr
      have hty : (xs.map (· + item)).length = k + 1 := by simp [HLN.out]
      have hcl : ∀ ty, (Builtin.clear_ #[24] ty #[.slice (some ⟨g1, 0, none⟩) n cap1]).run Tryd.prog w3 = .ok (.tuple #[]) (w3.setCells g1 0 (List.replicate n (.int .i64 0))) := fun ty =>
        Lib.run_clear_slice w3 24 3 ty (.int .i64 0) Tryd.underlying24 Tryd.zeroValue3 rfl rfl g1 0 n cap1 (by omega)
          (fun j hj => by
            obtain ⟨y, hy⟩ := get_lt (l := xs.map (· + item)) (i := j) (by rw [hty]; omega)
            rw [Nat.zero_add, R3.out.cells j y hy]; rfl)
          (fun j hj => by rw [Nat.zero_add]; exact R3.out.thaw j (by rw [hty]; omega))
      obtain ⟨W4, hW4⟩ : ∃ W4, w3.setCells g1 0 (List.replicate n (.int .i64 0)) = W4 := ⟨_, rfl⟩
      obtain ⟨G4, z4⟩ := gb_setcs g1 (List.replicate n (.int .i64 0)) 0 w3
      have R4 := R3.out.zeros n (by rw [hty]; omega) z4
      rw [hW4] at hcl G4 z4 R4
      have HR4 : Hid (RowI W4 g1 (List.replicate n 0 ++ (xs.map (· + item)).drop n)) := R4
      have S4 := S3.gb G4 neR
      have HS4 : Hid (SevB W4 R (.int .i64 (k : Int)) (.int .i64 u) (.int .i64 d) (.int .i64 lo) (.int .i64 hi) (.int .i64 (t : Int)) (.slice (some ⟨g, 0, none⟩) (k + 1) cap)) := S4
      have p5 := S4.c5
      have p6 := S4.c6
      have f5 := S4.f5
      have f6 := S4.f6
      have neR' : R ≠ g1 := by omega
      have hwt : IntKind.i64.wrap ((t : Int) + 1) = (t : Int) + 1 := by rw [IntKind.wrap_i64]; omega
      have G0 : w.grownBy wr none := gb_new (gb_none B1) hg1' HGi.out
      have G3 : w.grownBy w3 none := gb_trans G0 (gb_none B3.out)
      have G5 : Hid (w.grownBy W4 (some R)) := gb_some (gb_new G3 hg1' G4)
      have K4 : Hid (DosN W4 wr.heap.size (.slice a3 zs3.length c3) zs3) := K2.out.beside G4 lg1
      clear hW4 z4 R4 S4 S3 k2 k3 G0 G3 G4 d1 d2 d3 d4 d5 q1 q2 q3 q4 kh
      go_wp2
      go_ret2
      rw [HN.out]
      refine ⟨_, zs3, g1, cap1, rfl, k1, ?_, gb_trans (gb_trans G5.out (gb_setc _ _ _ _)) (gb_setc _ _ _ _), ?_, .inr hg1'⟩
      · exact ((K4.out.beside (gb_setc _ _ _ _) lRr).beside (gb_setc _ _ _ _) lRr).mono (by omega)
      · exact ⟨(HS4.out.put6 _).put5 _, (HR4.out.gb (gb_setc _ _ _ _) (by simp; omega)).gb (gb_setc _ _ _ _) (by simp; omega), by simp [HLN.out]; omega, hc1, nR, by omega, neR'⟩
end Go.Proofs.YtjembpcpefgdpaaDoor

namespace Go.Proofs.YtjembpcpefgdpaaDoor
open Go.RowKit Go.Shelf Go.Proofs.YtjembpcpefgdpaaDoor.Ds

/-- whose first outcome comes first -/
def sideT : List Tr → List Tr → Int
  | [], _ => 1
  | _ :: _, [] => -1
  | a :: _, b :: _ => cmpT a.2.1 b.2.1

theorem Parts.nil_len {w : World} {B : Nat} {a : Option Addr} {c : Nat} {ts : List Tr} (h : Parts w B (.slice a 0 c) ts) : ts = [] := by
  obtain ⟨_, _, hv, _⟩ := h
  simp only [Value.slice.injEq] at hv
  exact List.length_eq_zero_iff.1 hv.2.1.symm

theorem Parts.len {w : World} {B : Nat} {a : Option Addr} {n c : Nat} {ts : List Tr} (h : Parts w B (.slice a n c) ts) : n = ts.length := by
  obtain ⟨_, _, hv, _⟩ := h
  simp only [Value.slice.injEq] at hv
  exact hv.2.1

set_option maxHeartbeats 1000000 in
theorem first_any (B : Nat) (u v : Value) (ts us : List Tr) (w : World) (hB : B ≤ w.heap.size) (hp : Parts w B u ts) (hq : Parts w B v us) (r : Int) (hr : sideT ts us = r) :
    Calls Tryd.prog 43 #[u, v] w fun e w' => e = .returned (.int .i64 r) ∧ Below w.heap.size w w' := by
  have HP : Hid (Parts w B u ts) := hp
  have HQ : Hid (Parts w B v us) := hq
  obtain ⟨a, c, rfl, hc, hl, _⟩ := hp
  obtain ⟨a2, c2, rfl, hc2, hl2, _⟩ := hq
  cases ts with
  | nil =>
    simp only [sideT] at hr
    subst hr
    go_enter Tryd.func43, Tryd.ntmps43
    go_wp2
    go_ret
    exact ⟨rfl, Below.refl _ _⟩
  | cons t ts =>
    have z0 : (((t :: ts).length : Int) == 0) = false := by simp; omega
    cases us with
    | nil =>
      simp only [sideT] at hr
      subst hr
      go_enter Tryd.func43, Tryd.ntmps43
      go_wp2
      go_ret
      exact ⟨rfl, Below.refl _ _⟩
    | cons s us =>
      have z1 : (((s :: us).length : Int) == 0) = false := by simp; omega
      obtain ⟨b, o, sa, sc, xs, k, rfl, hb, hs, c1, c2', hI⟩ := HP.out.get hB (Below.refl _ w) (i := 0) (by simp)
      obtain ⟨b2, o2, sa2, sc2, xs2, k2, rfl, hb2, hs2, d1, d2, hI2⟩ := HQ.out.get hB (Below.refl _ w) (i := 0) (by simp)
      simp at hs hs2
      subst hs hs2
      have HI : Hid (Ints w B B (.slice sa xs.length sc) xs) := hI
      have HI2 : Hid (Ints w B B (.slice sa2 xs2.length sc2) xs2) := hI2
      have HR : Hid (cmpT xs xs2 = r) := hr
      simp only [Nat.zero_mul, Nat.add_zero] at c1 c2' d1 d2
      have y0 : (0 : Int) < (((.slice sa xs.length sc, xs, k) :: ts : List Tr).length : Int) := by simp <;> omega
      have y1 : (0 : Int) < (((.slice sa2 xs2.length sc2, xs2, k2) :: us : List Tr).length : Int) := by simp <;> omega
      obtain ⟨n1, hn1⟩ : ∃ n, ((.slice sa xs.length sc, xs, k) :: ts : List Tr).length = n := ⟨_, rfl⟩
      obtain ⟨n2, hn2⟩ : ∃ n, ((.slice sa2 xs2.length sc2, xs2, k2) :: us : List Tr).length = n := ⟨_, rfl⟩
      rw [hn1] at z0 y0 ⊢
      rw [hn2] at z1 y1 ⊢
      have x0 : 0 < n1 := by omega
      have x1 : 0 < n2 := by omega
      clear hI hI2 hr HP HQ hc hl hc2 hl2 hn1 hn2
      go_enter Tryd.func43, Tryd.ntmps43
      go_wp2_with fail
      go_region_held3 (fun w' => Below w.heap.size w w' ∧ w'.cell? ⟨b, o, none⟩ = some (.slice sa xs.length sc) ∧ w'.cell? ⟨b, o + 1, none⟩ = some (.int .i64 k) ∧ w'.cell? ⟨b2, o2, none⟩ = some (.slice sa2 xs2.length sc2) ∧ w'.cell? ⟨b2, o2 + 1, none⟩ = some (.int .i64 k2))
        ((go_split_ands; refine ⟨?_, ?_, ?_, ?_, ?_⟩ <;> first | (simp [go_sem, *]; done) | (exact (Below.refl _ _).drew) | (exact bt (Below.refl _ _).drew hb1)))
        ((go_at_call 60; refine (order_b B B B _ _ _ _ xs xs2 _ ?_ ?_ ?_ r HR.out).mono ?_; (show B ≤ w.heap.size; omega); (exact HI.out.keep (Below.refl _ _).drew); (exact HI2.out.keep (Below.refl _ _).drew); rintro x1 w1 ⟨rfl, hb1⟩; obtain ⟨hc1, hf1⟩ := bcell hb1; have e1 : w1.cell? ⟨b, o, none⟩ = some (.slice sa xs.length sc) := (hc1 _ _ hb).trans c1; have e2 : w1.cell? ⟨b, o + 1, none⟩ = some (.int .i64 k) := (hc1 _ _ hb).trans c2'; have e3 : w1.cell? ⟨b2, o2, none⟩ = some (.slice sa2 xs2.length sc2) := (hc1 _ _ hb2).trans d1; have e4 : w1.cell? ⟨b2, o2 + 1, none⟩ = some (.int .i64 k2) := (hc1 _ _ hb2).trans d2; clear hc1 hf1))
      rename_i hHeld
      go_wp2
      go_ret
      exact ⟨rfl, hHeld.1⟩

/-- all that two may be, in order -/
def mrg : List Tr → List Tr → List (Tr × Tr)
  | [], [] => []
  | [], b :: bs => (no, b) :: mrg [] bs
  | a :: az, [] => (a, no) :: mrg az []
  | a :: az, b :: bs => if cmpT a.2.1 b.2.1 < 0 then (a, no) :: mrg az (b :: bs) else if 0 < cmpT a.2.1 b.2.1 then (no, b) :: mrg (a :: az) bs else (a, b) :: mrg az bs
termination_by az bs => az.length + bs.length

theorem Parts.tail {w : World} {B : Nat} {b o n c : Nat} {t : Tr} {ts : List Tr} (h : Parts w B (.slice (some ⟨b, o, none⟩) n c) (t :: ts)) (A : Option Addr) (hA : 1 < c → A = some ⟨b, o + 2, none⟩) : Parts w B (.slice A ts.length (c - 1)) ts := by
  obtain ⟨a', c', hv, hc, hl, hi, hx⟩ := h
  simp only [Value.slice.injEq] at hv
  obtain ⟨rfl, rfl, rfl⟩ := hv
  simp only [List.length_cons] at hc hl
  refine ⟨A, c - 1, rfl, by omega, by omega, fun u hu => hi u (by simp [hu]), fun hne => ?_⟩
  have hpos : 0 < ts.length := List.length_pos_iff.2 hne
  obtain ⟨b', o', he, hb, hcell⟩ := hx (by simp)
  simp only [Option.some.injEq, Addr.mk.injEq, and_true] at he
  obtain ⟨rfl, rfl⟩ := he
  refine ⟨b, o + 2, hA (by omega), hb, fun i u hu => ?_⟩
  have := hcell (i + 1) u (by simpa using hu)
  rw [show o + 2 + i * 2 = o + (i + 1) * 2 by omega]
  exact this
end Go.Proofs.YtjembpcpefgdpaaDoor
