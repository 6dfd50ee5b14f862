import Derived.Test.YtfibbjngllelbaaGreatCls
import Derived.Test.YtfibbjngllelbaaGreatNam
namespace Go.Proofs.YtfibbjngllelbaaGreat
open Go.RowKit Go.Proofs.YtfibbjngllelbaaGreat.Ds

theorem nc {w : World} {N : Nat} (cs : Array Value) (t : TypeId) (k : Nat) (x : Value) (hN : N = w.heap.size) (hx : cs[k]? = some x) : (w.alloc (.cells cs t)).cell? ⟨N, k, none⟩ = some x := by
  rw [World.cell?_alloc_at _ _ _ _ hN]; exact hx
theorem nf {w : World} {N : Nat} (cs : Array Value) (t : TypeId) (k : Nat) (hN : N = w.heap.size) : (w.alloc (.cells cs t)).frozen? ⟨N, k, none⟩ = false := World.frozen?_alloc_at _ _ _ _ hN

set_option maxHeartbeats 1000000 in
theorem columns_any (B : Nat) (v : Value) (l : List Col) (w : World) (hB : B ≤ w.heap.size) (hp : Cols w B v l) (er : Int) (hr : colE l = er) :
    Calls Tryz.prog 48 #[v] w fun e w' => e = .returned (.int .i64 er) ∧ Below w.heap.size w w' := by
  have HP : Hid (Cols w B v l) := hp
  have HR : Hid (colE l = er) := hr
  obtain ⟨a, c, rfl, hc, hl⟩ := hp.slice
  clear hr
  go_enter Tryz.func48, Tryz.ntmps48
  by_cases h0 : l.length = 0
  · have hq : ((l.length : Int) == 0) = true := by simp [h0]
    obtain rfl : 5 = er := by rw [← HR.out, colE, if_pos (by omega)]
    go_wp2
    go_ret
    exact ⟨rfl, Below.refl _ _⟩
  have hq : ((l.length : Int) == 0) = false := by rw [beq_eq_false_iff_ne]; omega
  have HQ0 : Hid (l.length ≠ 0) := h0
  clear h0
  by_cases h6 : 6 < l.length
  · obtain rfl : 5 = er := by rw [← HR.out, colE, if_pos (by omega)]
    go_wp2
    go_ret
    exact ⟨rfl, Below.refl _ _⟩
  have HE : Hid (colE l = if colL [] l = 0 then (if 4096 < prd l then 4 else 0) else colL [] l) := by show _ = _; rw [colE, if_neg (by have := HQ0.out; omega)]
  go_wp2
  go_loopw [15] (fun s wr => ∃ (i : Nat), s = .int .i64 (i : Int) ∧ i ≤ l.length ∧ Hid (colL (l.take i) (l.drop i) = colL [] l) ∧ Below w.heap.size w wr) (fun s _ => l.length - (intOf s).toNat)
  case atStart => exact ⟨0, rfl, Nat.zero_le _, by simp [Hid], Below.refl _ _⟩
  case round =>
    obtain ⟨i, rfl, hi, HI, hbl⟩ := hrel
    by_cases h1 : i < l.length
    · obtain ⟨b, o, nm, sz, rfl, hb, hgt, c1, c2, hn⟩ := HP.out.get hB hbl h1
      have ST : Hid (colL [] l = if namB nm.data.toList then (if (l.take i).any (fun d => decide (d.1 = nm)) then 7 else if sz < 1 ∨ 4096 < sz then 3 else colL (l.take (i + 1)) (l.drop (i + 1))) else 2) := HI.out.symm.trans (colL_step hgt)
      clear hgt HI
      have hsz := hbl.size
      cases hnm : namB nm.data.toList with
      | false =>
        have HN : Hid (namB nm.data.toList = false) := hnm
        clear hnm
        obtain rfl : 2 = er := by rw [← HR.out, HE.out, ST.out, HN.out]; simp
        go_wp2_with fail
        refine (named_any nm hn _ false HN.out).mono ?_
        rintro e w1 ⟨rfl, rfl⟩
        go_wp2
        go_ret
        exact ⟨rfl, bal hbl _⟩
      | true =>
        have HN : Hid (namB nm.data.toList = true) := hnm
        clear hnm
        cases han : (l.take i).any (fun d => decide (d.1 = nm)) with
        | true =>
          have HA : Hid ((l.take i).any (fun d => decide (d.1 = nm)) = true) := han
          clear han
          obtain rfl : 7 = er := by rw [← HR.out, HE.out, ST.out, HN.out, HA.out]; simp
          have kc := contains_any B wr.heap.size (.slice (some ⟨b, o, none⟩) i c) (l.take i) nm (wr.alloc (.cells #[.string nm, .int .i64 sz] 88)) (by simp; omega) (((HP.out.take i hi).at hB hbl).at (by omega) (ba _ _)) (by simp) (nc _ _ 0 _ rfl rfl) true HA.out
          go_wp2_with fail
          refine (named_any nm hn _ true HN.out).mono ?_
          rintro e w1 ⟨rfl, rfl⟩
          go_wp2_with fail
          refine kc.mono ?_
          rintro e w1 ⟨rfl, hb1⟩
          have hb2 : Below w.heap.size w w1 := bt (bal hbl _) hb1
          clear hb1 kc
          go_wp2
          go_ret
          exact ⟨rfl, hb2⟩
        | false =>
          have HA : Hid ((l.take i).any (fun d => decide (d.1 = nm)) = false) := han
          clear han
          have kc := contains_any B wr.heap.size (.slice (some ⟨b, o, none⟩) i c) (l.take i) nm (wr.alloc (.cells #[.string nm, .int .i64 sz] 88)) (by simp; omega) (((HP.out.take i hi).at hB hbl).at (by omega) (ba _ _)) (by simp) (nc _ _ 0 _ rfl rfl) false HA.out
          have hcell : (wr.alloc (.cells #[.string nm, .int .i64 sz] 88)).cell? ⟨wr.heap.size, 1, none⟩ = some (.int .i64 sz) := nc _ _ 1 _ rfl rfl
          by_cases hz : sz < 1 ∨ 4096 < sz
          · obtain rfl : 3 = er := by rw [← HR.out, HE.out, ST.out, HN.out, HA.out]; simp [hz]
            go_wp2_with fail
            refine (named_any nm hn _ true HN.out).mono ?_
            rintro e w1 ⟨rfl, rfl⟩
            go_wp2_with fail
            refine kc.mono ?_
            rintro e w1 ⟨rfl, hb1⟩
            have hb2 : Below w.heap.size w w1 := bt (bal hbl _) hb1
            have hc1 : w1.cell? ⟨wr.heap.size, 1, none⟩ = some (.int .i64 sz) := (hb1.cell (p := ⟨wr.heap.size, 1, none⟩) (by simp)).trans hcell
            clear hb1 kc hcell
            by_cases hz1 : sz < 1
            · clear hz
              go_wp2
              go_ret
              exact ⟨rfl, hb2⟩
            · have hz2 : 4096 < sz := by omega
              clear hz
              go_wp2
              go_ret
              exact ⟨rfl, hb2⟩
          · have HI2 : Hid (colL (l.take (i + 1)) (l.drop (i + 1)) = colL [] l) := by show _ = _; rw [ST.out, HN.out, HA.out]; simp [hz]
            have hz1 : ¬ sz < 1 := by omega
            have hz2 : ¬ 4096 < sz := by omega
            clear hz
            go_wp2_with fail
            refine (named_any nm hn _ true HN.out).mono ?_
            rintro e w1 ⟨rfl, rfl⟩
            go_wp2_with fail
            refine kc.mono ?_
            rintro e w1 ⟨rfl, hb1⟩
            have hb2 : Below w.heap.size w w1 := bt (bal hbl _) hb1
            have hc1 : w1.cell? ⟨wr.heap.size, 1, none⟩ = some (.int .i64 sz) := (hb1.cell (p := ⟨wr.heap.size, 1, none⟩) (by simp)).trans hcell
            clear hb1 kc hcell
            go_wp2
            go_roundw
            case rel => exact ⟨i + 1, by go_num, h1, HI2, hb2⟩
            case measure => simp [intOf]; omega
    · have HN : Hid (colL [] l = 0) := by have := HI.out; rw [List.drop_eq_nil_of_le (by omega)] at this; exact this.symm.trans rfl
      have HS : Hid (Szs l) := colL_szs HN.out
      have kc := size_any B _ l wr (Nat.le_trans hB hbl.size) (HP.out.at hB hbl) HS.out _ rfl
      by_cases hpz : 4096 < prd l
      · obtain rfl : 4 = er := by rw [← HR.out, HE.out, HN.out]; simp [hpz]
        have hm : min (prd l) 4097 = 4097 := by omega
        rw [hm] at kc
        go_wp2_with fail
        refine kc.mono ?_
        rintro e w1 ⟨rfl, hb1⟩
        go_wp2
        go_ret
        exact ⟨rfl, bt hbl hb1⟩
      · obtain rfl : 0 = er := by rw [← HR.out, HE.out, HN.out]; simp [hpz]
        have hm : min (prd l) 4097 = prd l := by omega
        rw [hm] at kc
        go_wp2_with fail
        refine kc.mono ?_
        rintro e w1 ⟨rfl, hb1⟩
        go_wp2
        go_ret
        exact ⟨rfl, bt hbl hb1⟩
end Go.Proofs.YtfibbjngllelbaaGreat
