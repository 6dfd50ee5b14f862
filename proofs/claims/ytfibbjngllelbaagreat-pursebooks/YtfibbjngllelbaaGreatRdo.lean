import Derived.Test.YtfibbjngllelbaaGreatRsn
import Derived.Maps.AppendAt
import Derived.Deep.AppendLies
import Derived.Test.YtfibbjngllelbaaGreatRnm
import Derived.Test.YtfibbjngllelbaaGreatNam
namespace Go.Proofs.YtfibbjngllelbaaGreat
open Go.RowKit Go.Proofs.YtfibbjngllelbaaGreat.Ds

theorem info3 : (Tryz.prog.info? 3).map (fun i => (i.zero, i.size, i.bytes)) = some (some (.int .i64 0), 1, 8) := by kernel_rfl
theorem owns_gb {w w' : World} {base n : Nat} {t : TypeId} {s : Nat} {v : Value} {xs : List Value} (h : w.ownsRow base t s v n xs) (hb : Below w.heap.size w w') : w'.ownsRow base t s v n xs := h.kept (gb_none hb) (by cases hv : v.ownBlock <;> simp)
theorem one_cell (w : World) (x : Value) (t : TypeId) (N : Nat) (hN : N = w.heap.size) : ∀ j u, [x][j]? = some u → (w.alloc (.cells #[x] t)).cell? ((⟨N, 0, none⟩ : Addr).add j) = some u := by
  subst hN
  exact fun j u hu => World.news_of_block (w := w.alloc (.cells #[x] t)) (B := w.heap.size) (cs := #[x]) (t := t) (fr := (0, 0)) (heap_alloc_new w _) j u (by simpa using hu)

theorem owns_get {w : World} {base : Nat} {a : Option Addr} {c : Nat} {os : List Int} (h : w.ownsRow base 3 1 (.slice a os.length c) os.length (os.map (.int .i64))) {j : Nat} (hj : j < os.length) : ∃ g x, a = some ⟨g, 0, none⟩ ∧ os[j]? = some x ∧ g < w.heap.size ∧ w.cell? ⟨g, j, none⟩ = some (.int .i64 x) := by
  obtain ⟨x, hx⟩ := get_lt hj
  rcases h.2 with ⟨hv, h0⟩ | ⟨g, cap, cur, hv, hb, hcur, hc, _, hsz, hxs⟩
  · omega
  · simp only [Value.slice.injEq] at hv
    refine ⟨g, x, hv.1, hx, (Array.getElem?_eq_some_iff.1 hcur).1, ?_⟩
    have h1 : (os.map (Value.int .i64))[j]? = some (.int .i64 x) := by simp [hx]
    rw [← hxs, List.getElem?_take_of_lt (by omega)] at h1
    have h2 : cur[j]? = some (.int .i64 x) := by simpa using h1
    simp [World.cell?, hcur, h2]
theorem row_ge {w : World} {base : Nat} {t : TypeId} {sz : Nat} {v : Value} {n : Nat} {xs : List Value} (h : w.ownsRow base t sz v n xs) {g : Nat} (hg : v.ownBlock = some g) : base ≤ g := by
  rcases h.2 with ⟨rfl, _⟩ | ⟨g', cap, cur, rfl, hb, hc, _⟩
  · cases hg
  · simp only [Value.ownBlock, Option.some.injEq] at hg
    omega
theorem own_slice {w : World} {base : Nat} {t : TypeId} {sz : Nat} {v : Value} {n : Nat} {xs : List Value} (h : w.ownsRow base t sz v n xs) : ∃ a c, v = .slice a n c := by
  rcases h.2 with ⟨rfl, rfl⟩ | ⟨g', cap, cur, rfl, _⟩
  · exact ⟨_, _, rfl⟩
  · exact ⟨_, _, rfl⟩
theorem any_next {os : List Int} {j : Nat} {x p : Int} (h : os[j]? = some x) (b : Bool) : (b || (os.take (j + 1)).any (fun y => y == p)) = ((b || (os.take j).any (fun y => y == p)) || (x == p)) := by
  rw [List.take_add_one, h]; simp [Bool.or_assoc]

set_option maxHeartbeats 2000000 in
set_option maxRecDepth 100000 in
/-- Parts -/
theorem parts_any (B : Nat) (v : Value) (l : List En) (n0 : ByteArray) (w : World) (hB : B ≤ w.heap.size) (hx : Ents w B v l) (hsm : l.length ≤ 4096) :
    Calls Tryz.prog 31 #[v, .string n0] w fun x w' => ∃ r, x = .returned r ∧ w'.ownsRow w.heap.size 3 1 r (parT l n0).length ((parT l n0).map (.int .i64)) ∧ Below w.heap.size w w' := by
  have HX : Hid (Ents w B v l) := hx
  obtain ⟨a, c, rfl, hc, hl⟩ := hx.slice
  obtain ⟨i0, hi0, hz0, hz1, hz2⟩ := info_parts info3
  go_enter Tryz.func31, Tryz.ntmps31
  go_wp2
  go_loopw [5, 13] (fun ov s wr => ∃ (i : Nat) (oa : Option Addr) (oc : Nat) (os : List Int), s = .int .i64 (i : Int) ∧ ov = .slice oa os.length oc ∧ i ≤ l.length ∧ Hid (parT (l.take i) n0 = os) ∧ os.length ≤ i ∧ Hid (wr.ownsRow w.heap.size 3 1 (.slice oa os.length oc) os.length (os.map (.int .i64))) ∧ Below w.heap.size w wr) (fun _ s _ => l.length - (intOf s).toNat)
  case atStart => exact ⟨0, none, 0, [], rfl, rfl, Nat.zero_le _, by simp [Hid, parT, prs, onceT], Nat.le_refl _, ⟨rfl, .inl ⟨rfl, rfl⟩⟩, Below.refl _ _⟩
  case round =>
    obtain ⟨i, oa, oc, os, rfl, rfl, hi, HO, hol, HW, hbl⟩ := hrel
    by_cases h1 : i < l.length
    · obtain ⟨b, o, d, nm, p, u, v, rfl, hb, hg, e0, e1, e2, e3, e4, _⟩ := HX.out.get hB hbl h1
      have HP : Hid (parT (l.take (i + 1)) n0 = if nm = n0 ∧ d = 3 ∧ p ∉ os then os ++ [p] else os) := by
        rw [Hid, List.take_add_one, hg]
        have := par_snoc (l.take i) (d, nm, p, u, v) n0
        rw [HO.out] at this
        exact this
      clear hg
      obtain ⟨in0, hin⟩ : ∃ b, (!decide (nm = n0 ∧ d = 3)) = b := ⟨_, rfl⟩
      have hcs : ((nm.toList == n0.toList) = false ∧ in0 = true) ∨ ((nm.toList == n0.toList) = true ∧ (d != 3) = in0) := by
        rw [str_eq, ← hin]
        by_cases h2 : nm = n0 <;> by_cases h3 : d = 3 <;> simp [h2, h3]
      have HIN : Hid ((!decide (nm = n0 ∧ d = 3)) = in0) := hin
      clear hin
      obtain ⟨W, hW⟩ : ∃ W, wr.alloc (.cells #[.int .i64 d, .string nm, .int .i64 p, .int .i64 u, .int .i64 v] 45) = W := ⟨_, rfl⟩
      have BW : Below wr.heap.size wr W := by rw [← hW]; exact ba _ _
      have hzW : W.heap.size = wr.heap.size + 1 := by rw [← hW]; simp
      have q2 : W.cell? ⟨wr.heap.size, 2, none⟩ = some (.int .i64 p) := by rw [← hW]; exact nc _ _ 2 _ rfl rfl
      have q0 : W.cell? ⟨wr.heap.size, 0, none⟩ = some (.int .i64 d) := by rw [← hW]; exact nc _ _ 0 _ rfl rfl
      have q1 : W.cell? ⟨wr.heap.size, 1, none⟩ = some (.string nm) := by rw [← hW]; exact nc _ _ 1 _ rfl rfl
      have HWW : Hid (W.ownsRow w.heap.size 3 1 (.slice oa os.length oc) os.length (os.map (.int .i64))) := owns_gb HW.out BW
      have hbW : Below w.heap.size w W := bt hbl BW
      have hrs : w.heap.size ≤ wr.heap.size := hbl.size
      have h2' : ∀ b, (nm.toList == n0.toList) = b → (nm.toList != n0.toList) = !b := fun b h => by rw [bne, h]
      rcases hcs with ⟨h2, rfl⟩ | ⟨h2, h3⟩
      · have h2n := h2' _ h2
        clear h2'
        go_wp2
        go_loopw [8, 28] (fun bv s wx => ∃ (j : Nat) (ib : Bool), bv = .bool ib ∧ s = .int .i64 (j : Int) ∧ j ≤ os.length ∧ Hid ((true || (os.take j).any (fun y => y == p)) = ib) ∧ wx = W) (fun _ s _ => os.length - (intOf s).toNat)
        case atStart => exact ⟨0, true, rfl, rfl, Nat.zero_le _, by simp [Hid], by first | rfl | trivial⟩
        case round =>
          obtain ⟨j, ib, rfl, rfl, hj, HB, hwx⟩ := hrel
          have hwy := hwx.symm
          subst hwy
          clear hwx
          by_cases hj1 : j < os.length
          · obtain ⟨g, x, rfl, hxj, hgl, hcx⟩ := owns_get HWW.out hj1
            have HN := any_next (p := p) hxj true
            rw [HB.out] at HN
            have HNN : Hid ((true || (os.take (j + 1)).any (fun y => y == p)) = (ib || (x == p))) := HN
            clear HN hxj
            cases ib with
            | true =>
              go_wp2
              go_roundw
              case rel => exact ⟨j + 1, true, rfl, by go_num, by omega, by rw [Hid, HNN.out]; rfl, by first | rfl | trivial⟩
              case measure => simp [intOf]; omega
            | false =>
              go_wp2
              go_roundw
              case rel => exact ⟨j + 1, (x == p), by simp, by go_num, by omega, by rw [Hid, HNN.out]; rfl, by first | rfl | trivial⟩
              case measure => simp [intOf]; omega
          · have hj' : j = os.length := by omega
            subst hj'
            have hib := HB.out
            rw [List.take_length] at hib
            have HIB : Hid ((true || os.any (fun y => y == p)) = ib) := hib
            clear hib
            cases ib with
            | true =>
              have HPO : Hid (parT (l.take (i + 1)) n0 = os) := by
                rw [Hid, HP.out, if_neg]
                rintro ⟨c1, c2, c3⟩
                have h4 := HIN.out
                have h5 := HIB.out
                rw [decide_eq_true ⟨c1, c2⟩] at h4
                simp at h4
              go_wp2
              go_roundw
              case rel => exact ⟨i + 1, oa, oc, os, by go_num, rfl, by omega, HPO, by omega, HWW, hbW⟩
              case measure => simp [intOf]; omega
            | false =>
              have h5 := HIB.out
              simp at h5
      · have h2n := h2' _ h2
        clear h2'
        go_wp2
        go_loopw [8, 28] (fun bv s wx => ∃ (j : Nat) (ib : Bool), bv = .bool ib ∧ s = .int .i64 (j : Int) ∧ j ≤ os.length ∧ Hid ((in0 || (os.take j).any (fun y => y == p)) = ib) ∧ wx = W) (fun _ s _ => os.length - (intOf s).toNat)
        case atStart => exact ⟨0, in0, rfl, rfl, Nat.zero_le _, by simp [Hid], by first | rfl | trivial⟩
        case round =>
          obtain ⟨j, ib, rfl, rfl, hj, HB, hwx⟩ := hrel
          have hwy := hwx.symm
          subst hwy
          clear hwx
          by_cases hj1 : j < os.length
          · obtain ⟨g, x, rfl, hxj, hgl, hcx⟩ := owns_get HWW.out hj1
            have HN := any_next (p := p) hxj in0
            rw [HB.out] at HN
            have HNN : Hid ((in0 || (os.take (j + 1)).any (fun y => y == p)) = (ib || (x == p))) := HN
            clear HN hxj
            cases ib with
            | true =>
              go_wp2
              go_roundw
              case rel => exact ⟨j + 1, true, rfl, by go_num, by omega, by rw [Hid, HNN.out]; rfl, by first | rfl | trivial⟩
              case measure => simp [intOf]; omega
            | false =>
              go_wp2
              go_roundw
              case rel => exact ⟨j + 1, (x == p), by simp, by go_num, by omega, by rw [Hid, HNN.out]; rfl, by first | rfl | trivial⟩
              case measure => simp [intOf]; omega
          · have hj' : j = os.length := by omega
            subst hj'
            have hib := HB.out
            rw [List.take_length] at hib
            have HIB : Hid ((in0 || os.any (fun y => y == p)) = ib) := hib
            clear hib
            cases ib with
            | true =>
              have HPO : Hid (parT (l.take (i + 1)) n0 = os) := by
                rw [Hid, HP.out, if_neg]
                rintro ⟨c1, c2, c3⟩
                have h4 := HIN.out
                have h5 := HIB.out
                rw [decide_eq_true ⟨c1, c2⟩] at h4
                rw [← h4] at h5
                simp at h5
                exact c3 h5
              go_wp2
              go_roundw
              case rel => exact ⟨i + 1, oa, oc, os, by go_num, rfl, by omega, HPO, by omega, HWW, hbW⟩
              case measure => simp [intOf]; omega
            | false =>
              have HPO : Hid (parT (l.take (i + 1)) n0 = os ++ [p]) := by
                have h4 := HIN.out
                have h5 := HIB.out
                simp at h5
                rw [Hid, HP.out, if_pos]
                rw [h5.1] at h4
                simp at h4
                exact ⟨h4.1, h4.2, fun hp => h5.2 p hp rfl⟩
              have HOW : Hid ((W.alloc (.cells #[.int .i64 p] 3)).ownsRow w.heap.size 3 1 (.slice oa os.length oc) os.length (os.map (.int .i64))) := owns_gb HWW.out (ba _ _)
              go_wp2_with (at_builtin; refine wpList_append_own_at _ rfl _ _ 73 rfl w.heap.size 3 i0 (.int .i64 0) 1 8 Tryz.underlying73 hi0 hz0 hz1 hz2 rfl (by decide) (.slice oa os.length oc) os.length (os.map (.int .i64)) rfl HOW.out ⟨wr.heap.size + 1, 0, none⟩ 1 1 [.int .i64 p] rfl ?q1 ?q2 ?q3 ?q4 ?q5 ?q6 ?_)
              case q1 => rfl
              case q2 => exact one_cell W _ _ _ hzW.symm
              case q3 => intro z hz; simp at hz; subst hz; rfl
              case q4 => unfold maxLen; omega
              case q5 => omega
              case q6 => simp; omega
              intro nv' w5 hown hgrow hnil hat
              have hlow : Below w.heap.size w w5 := by
                refine ⟨hgrow.os.trans hbW.os, hgrow.tape.trans hbW.tape, hgrow.output.trans hbW.output, by have := hgrow.size; simp at this; omega, fun k hk => ?_⟩
                refine (hgrow.block k (by simp; omega) (fun e => ?_)).trans ((Below.heap_alloc _ _ _ (by omega)).trans (hbW.block k hk))
                have := (row_ge HWW.out e.symm)
                omega
              obtain ⟨na, ncc, rfl⟩ := own_slice hown
              have HRW : Hid (w5.ownsRow w.heap.size 3 1 (.slice na (os ++ [p]).length ncc) (os ++ [p]).length ((os ++ [p]).map (.int .i64))) := by
                have h := hown
                rw [Hid]; simpa using h
              clear hown hgrow hnil hat
              go_wp2
              go_roundw
              case rel => exact ⟨i + 1, na, ncc, os ++ [p], by go_num, by simp, by omega, HPO, by simp; omega, HRW, hlow⟩
              case measure => simp [intOf]; omega
    · have hi' : i = l.length := by omega
      subst hi'
      have HZ : Hid (parT l n0 = os) := by have h := HO.out; rw [List.take_length] at h; exact h
      go_wp2
      go_ret
      exact ⟨_, rfl, by rw [HZ.out]; exact HW.out, hbl⟩
end Go.Proofs.YtfibbjngllelbaaGreat

namespace Go.Proofs.YtfibbjngllelbaaGreat
open Go.RowKit Go.Shelf Go.Proofs.YtfibbjngllelbaaGreat.Ds

theorem doT_of_bad {l : List En} {e : En} (h : badT e ≠ 0) : doT l e = badT e := by unfold doT; rw [if_pos h]
theorem doT_of_full {l : List En} {e : En} (h : badT e = 0) (hl : 4096 ≤ l.length) : doT l e = 4 := by unfold doT; rw [if_neg (by omega), if_pos hl]
theorem bad_1 {d : Int} {nm : ByteArray} {p u v : Int} (h : d < 1 ∨ 3 < d) : badT (d, nm, p, u, v) = 1 := by unfold badT; rw [if_pos h]
theorem bad_2 {d : Int} {nm : ByteArray} {p u v : Int} (h : ¬ (d < 1 ∨ 3 < d)) (h2 : ¬ (namB nm.data.toList = true ∧ Rt.rightB u v = true)) : badT (d, nm, p, u, v) = 2 := by unfold badT; rw [if_neg h, if_neg h2]
theorem bad_3 {d : Int} {nm : ByteArray} {p u v : Int} (h : ¬ (d < 1 ∨ 3 < d)) (h2 : namB nm.data.toList = true ∧ Rt.rightB u v = true) (h3 : u < v) : badT (d, nm, p, u, v) = 3 := by unfold badT; rw [if_neg h, if_pos h2, if_pos h3]
theorem bad_0 {d : Int} {nm : ByteArray} {p u v : Int} (h : ¬ (d < 1 ∨ 3 < d)) (h2 : namB nm.data.toList = true ∧ Rt.rightB u v = true) (h3 : ¬ u < v) : badT (d, nm, p, u, v) = 0 := by unfold badT; rw [if_neg h, if_pos h2, if_neg h3]

set_option maxHeartbeats 4000000 in
set_option maxRecDepth 100000 in
/-- Do, of what is wrong by itself or comes to a full book -/
theorem rdoBad_any (B : Nat) (dv : Value) (l : List En) (e : En) (w : World) (hx : Ents w B dv l) (hs : e.2.1.size ≤ 9223372036854775807) (hb : badT e ≠ 0 ∨ 4096 ≤ l.length) :
    Calls Tryz.prog 17 #[dv, ev e] w fun x w' => x = .returned (.int .i64 (doT l e)) ∧ Below w.heap.size w w' := by
  obtain ⟨er, her⟩ : ∃ er, doT l e = er := ⟨_, rfl⟩
  rw [her]
  obtain ⟨a, c, rfl, hc, hl⟩ := hx.slice
  obtain ⟨d, nm, p, u, v⟩ := e
  have hsz : nm.size ≤ 9223372036854775807 := hs
  have kn := fun W r (hr : namB nm.data.toList = r) => rnamed_any nm hsz W r hr
  have kr := fun W r (hr : Rt.rightB u v = r) => refRight_any u v r hr W
  have V0 := FivB.new w (.int .i64 d) (.string nm) (.int .i64 p) (.int .i64 u) (.int .i64 v) 45 _ rfl
  obtain ⟨X, hX⟩ : ∃ X, w.alloc (.cells #[.int .i64 d, .string nm, .int .i64 p, .int .i64 u, .int .i64 v] 45) = X := ⟨_, rfl⟩
  have hbX : Below w.heap.size w X := by rw [← hX]; exact ba _ _
  rw [hX] at V0
  have HV0 : Hid (FivB X w.heap.size (.int .i64 d) (.string nm) (.int .i64 p) (.int .i64 u) (.int .i64 v)) := V0
  obtain ⟨x0, x1, x2, x3, x4, _, _, _, _, _, hlx⟩ := V0
  by_cases h1 : d < 1
  · obtain rfl : 1 = er := by rw [← her, doT_of_bad (by rw [bad_1 (.inl h1)]; decide), bad_1 (.inl h1)]
    clear her hb
    go_enter Tryz.func17, Tryz.ntmps17
    go_wp2
    go_ret
    exact ⟨rfl, hbX⟩
  by_cases h3 : 3 < d
  · obtain rfl : 1 = er := by rw [← her, doT_of_bad (by rw [bad_1 (.inr h3)]; decide), bad_1 (.inr h3)]
    clear her hb
    go_enter Tryz.func17, Tryz.ntmps17
    go_wp2
    go_ret
    exact ⟨rfl, hbX⟩
  have hdd : ¬ (d < 1 ∨ 3 < d) := by omega
  have h3' : ¬ d > 3 := h3
  by_cases hn : namB nm.data.toList = true
  · by_cases hr : Rt.rightB u v = true
    · by_cases huv : u < v
      · obtain rfl : 3 = er := by rw [← her, doT_of_bad (by rw [bad_3 hdd ⟨hn, hr⟩ huv]; decide), bad_3 hdd ⟨hn, hr⟩ huv]
        clear her hb
        go_enter Tryz.func17, Tryz.ntmps17
        go_wp2_with fail
        refine (kn _ _ hn).mono ?_
        rintro e1 w1 ⟨rfl, rfl⟩
        go_wp2_with fail
        refine (kr _ _ hr).mono ?_
        rintro e2 w2 ⟨rfl, hb2⟩
        obtain ⟨y0, y1, y2, y3, y4, _, _, _, _, _, hly⟩ := HV0.out.below hb2
        go_wp2
        go_ret
        exact ⟨rfl, bt hbX hb2⟩
      · have h0 := bad_0 (p := p) hdd ⟨hn, hr⟩ huv
        have h4 : 4096 ≤ l.length := by rcases hb with h | h; exact absurd h0 h; exact h
        obtain rfl : 4 = er := by rw [← her, doT_of_full h0 h4]
        have hge : (l.length : Int) ≥ 4096 := by omega
        clear her hb
        go_enter Tryz.func17, Tryz.ntmps17
        go_wp2_with fail
        refine (kn _ _ hn).mono ?_
        rintro e1 w1 ⟨rfl, rfl⟩
        go_wp2_with fail
        refine (kr _ _ hr).mono ?_
        rintro e2 w2 ⟨rfl, hb2⟩
        obtain ⟨y0, y1, y2, y3, y4, _, _, _, _, _, hly⟩ := HV0.out.below hb2
        go_wp2
        go_ret
        exact ⟨rfl, bt hbX hb2⟩
    · have hr' : Rt.rightB u v = false := by simpa using hr
      have h2 := bad_2 (p := p) (nm := nm) hdd (fun h => hr h.2)
      obtain rfl : 2 = er := by rw [← her, doT_of_bad (by rw [h2]; decide), h2]
      clear her hb
      go_enter Tryz.func17, Tryz.ntmps17
      go_wp2_with fail
      refine (kn _ _ hn).mono ?_
      rintro e1 w1 ⟨rfl, rfl⟩
      go_wp2_with fail
      refine (kr _ _ hr').mono ?_
      rintro e2 w2 ⟨rfl, hb2⟩
      go_wp2
      go_ret
      exact ⟨rfl, bt hbX hb2⟩
  · have hn' : namB nm.data.toList = false := by simpa using hn
    have h2 := bad_2 (p := p) (u := u) (v := v) hdd (fun h => hn h.1)
    obtain rfl : 2 = er := by rw [← her, doT_of_bad (by rw [h2]; decide), h2]
    clear her hb
    go_enter Tryz.func17, Tryz.ntmps17
    go_wp2_with fail
    refine (kn _ _ hn').mono ?_
    rintro e1 w1 ⟨rfl, rfl⟩
    go_wp2
    go_ret
    exact ⟨rfl, hbX⟩
end Go.Proofs.YtfibbjngllelbaaGreat
