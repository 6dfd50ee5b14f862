import Derived.Test.YtjnclbhpdaonhaaCld
namespace Go.Proofs.Ytjnclbhpdaonhaa
open Go.RowKit Go.Proofs.Ytjnclbhpdaonhaa.Ds

/-- WHAT New ANSWERS -/
def NewP (l : List Pt) (er : Int) (w : World) (e : Ending) (w' : World) : Prop :=
  Below w.heap.size w w' ∧ ((er ≠ 0 ∧ e = .returned (.tuple #[.pointer none, .int .i64 er])) ∨
    (er = 0 ∧ ∃ E a c us, e = .returned (.tuple #[.pointer (some ⟨E, 0, none⟩), .int .i64 0]) ∧ rd us = l ∧ Rob w' E (.slice a us.length c) (tot l) 0 0 1 ∧ Rop w' w'.heap.size E a c us ∧ w.heap.size ≤ E))

theorem set_list {us : List Tr} {i : Nat} {s s' : Value} {xs : List Int} {k : Int} (h : us[i]? = some (s, xs, k)) : rd (us.set i (s', xs, k)) = rd us := by
  rw [rd_set]
  refine List.ext_getElem? fun j => ?_
  by_cases e : i = j
  · subst e
    have := rd_get h
    rw [List.getElem?_set_self (by have := (List.getElem?_eq_some_iff.1 this).1; exact this), this]
  · rw [List.getElem?_set_ne e]
/-- a list is stored -/
theorem Row.setL {w : World} {b : Nat} {us : List Tr} (h : Row w b 0 us) {i : Nat} {s : Value} {xs : List Int} {k : Int} (ht : us[i]? = some (s, xs, k)) (s' : Value) :
    Row (w.setCell ⟨b, i * 2, none⟩ s') b 0 (us.set i (s', xs, k)) := by
  have hi := (List.getElem?_eq_some_iff.1 ht).1
  refine ⟨fun j u hu => ?_, fun j hj => by rw [sc_frozen]; exact h.thaw j (by simpa using hj), by simpa using h.lt⟩
  simp only [Nat.zero_add]
  by_cases hj : i = j
  · subst hj
    rw [List.getElem?_set_self hi] at hu
    obtain rfl : (s', xs, k) = u := by simpa using hu
    have c := h.cells i _ ht
    simp only [Nat.zero_add] at c
    exact ⟨sc_same c.1, by rw [sc_other (by simp)]; exact c.2⟩
  · rw [List.getElem?_set_ne hj] at hu
    have c := h.cells j u hu
    simp only [Nat.zero_add] at c
    exact ⟨by rw [sc_other (by simp <;> omega)]; exact c.1, by rw [sc_other (by simp <;> omega)]; exact c.2⟩

/-- a store into a block where the list does not lie -/
theorem Ints.set2 {w : World} {B b m : Nat} {v : Value} {xs : List Int} (h : Ints w B b v xs) (hm : Ints w B m v xs) (k : Nat) (u : Value) : Ints (w.setCell ⟨b, k, none⟩ u) B m v xs := by
  obtain ⟨a, c, hv, hc, hl, hx⟩ := hm
  refine ⟨a, c, hv, hc, hl, fun hne => ?_⟩
  obtain ⟨b1, o1, ha, hb, hn, hcell⟩ := hx hne
  refine ⟨b1, o1, ha, hb, hn, fun i x hi => ?_⟩
  rw [sc_other]
  · exact hcell i x hi
  · obtain ⟨a2, c2, hv2, _, _, hx2⟩ := h
    obtain ⟨b2, o2, ha2, _, hn2, _⟩ := hx2 hne
    rw [hv, ha, ha2] at hv2
    simp only [Value.slice.injEq, Option.some.injEq, Addr.mk.injEq] at hv2
    intro e
    simp only [Addr.mk.injEq] at e
    omega

set_option maxHeartbeats 2000000 in
set_option maxRecDepth 100000 in
theorem new_any (B : Nat) (v : Value) (ts : List Tr) (w : World) (hB : B ≤ w.heap.size) (hp : Parts w B v ts) (l0 : List Pt) (er : Int) (hr : ownT (rd ts) = (l0, er)) :
    Calls Try.prog 18 #[v] w (NewP (rd ts) er w) := by
  have kw := wrong_any B v ts w hB hp er (by rw [hr])
  have HP : Hid (Parts w B v ts) := hp
  have HR : Hid (ownT (rd ts) = (l0, er)) := hr
  obtain ⟨a, c, rfl, hc, hl, _⟩ := hp
  clear hr
  go_enter Try.func18, Try.ntmps18
  go_wp2_with fail
  refine kw.mono ?_
  rintro e w1 ⟨rfl, hb1⟩
  clear kw
  by_cases h0 : er = 0
  · subst h0
    obtain ⟨_, hdis⟩ := ownT_ok HR.out
    have HD : Hid (Dis (rd ts)) := hdis
    have hne : Hid (ts ≠ []) := fun h => hdis.ne (by rw [h]; rfl)
    have hfw : ts.length ≤ 4096 := by have := hdis.few; rwa [rd_len] at this
    have hs1 := hb1.size
    have kc := cloneD_any B _ ts w1 (by omega) (HP.out.at hB hb1)
    clear hdis
    go_wp2_with fail
    refine kc.mono ?_
    rintro e w2 ⟨v2, rfl, hb2, h2⟩
    obtain ⟨g, cap, rfl, hcap, hg1, hrow⟩ : ∃ g cap, v2 = .slice (some ⟨g, 0, none⟩) ts.length cap ∧ ts.length ≤ cap ∧ w1.heap.size ≤ g ∧ Row w2 g 0 ts := by
      rcases h2 with ⟨h, _⟩ | h
      · exact absurd h hne.out
      · exact h
    have HW2 : Hid (Row w2 g 0 ts) := hrow
    have hg2 := hrow.lt
    have kb := begun_any w2
    clear kc h2 hrow
    go_wp2_with fail
    refine kb.mono ?_
    rintro e w3 ⟨rfl, hb3⟩
    have hs2 := hb2.size
    have hs3 := hb3.size
    clear kb
    go_wp2
    generalize hX : w3.alloc (.cells #[.slice (some ⟨g, 0, none⟩) ts.length cap, .int .i64 0, .int .i64 0, .int .i64 0, .int .i64 1] 66) = X
    have hbX : Below w.heap.size w X := hX ▸ bal (bt (bt hb1 hb2) hb3) _
    have HRX : Hid (Rob X w3.heap.size (.slice (some ⟨g, 0, none⟩) ts.length cap) 0 0 0 1) := hX ▸ ⟨nc _ _ 0 _ rfl rfl, nc _ _ 1 _ rfl rfl, nc _ _ 2 _ rfl rfl, nc _ _ 3 _ rfl rfl, nc _ _ 4 _ rfl rfl, fun j => nf _ _ j rfl, by simp⟩
    have HWX : Hid (Row X g 0 ts) := hX ▸ (HW2.out.keep hb3).keep (ba _ _)
    have hgE : g < w3.heap.size := by omega
    have hwE : w.heap.size ≤ w3.heap.size := by omega
    have hwg : w.heap.size ≤ g := by omega
    clear hX
    generalize hE : w3.heap.size = E at hgE hwE HRX ⊢
    clear hb1 hb2 hb3 HW2 hs1 hs2 hs3 hE hg1 hg2
    go_loopw [20] (fun iv wr => ∃ (i : Nat) (us : List Tr), iv = .int .i64 (i : Int) ∧ i ≤ ts.length ∧ us.length = ts.length ∧ Hid (rd us = rd ts) ∧ Hid (Row wr g 0 us) ∧ Hid (∀ t ∈ us, ∀ m, m = E ∨ m = g → Ints wr wr.heap.size m t.1 t.2.1) ∧ Hid (Rob wr E (.slice (some ⟨g, 0, none⟩) ts.length cap) (tot ((rd ts).take i)) 0 0 1) ∧ Below w.heap.size w wr) (fun iv _ => ts.length - (intOf iv).toNat)
    case atStart => 
      refine ⟨0, ts, rfl, Nat.zero_le _, rfl, rfl, HWX, fun t ht m hm => ?_, by simpa [tot] using HRX, hbX⟩
      obtain ⟨_, _, _, _, _, hI, _⟩ := HP.out.at hB hbX
      exact (hI t ht).mono (Nat.le_trans hB hbX.size) (.inr (by omega))
    case round =>
      obtain ⟨i, us, rfl, hit, hul, HU, HW, HI, HR1, hbl⟩ := hrel
      have hrl := HR1.out.lt
      have HUL : Hid (us.length = ts.length) := hul
      clear hul
      by_cases h1 : i < ts.length
      · obtain ⟨b, o, sa, sc, xs, k, rfl, hb, hs, c1, c2, hIx⟩ := HP.out.get hB hbl h1
        have HS : Hid (ts[i]? = some (.slice sa xs.length sc, xs, k)) := hs
        obtain ⟨⟨s0, xs0, k0⟩, hs0⟩ := get_lt (l := us) (i := i) (by have := HUL.out; omega)
        have hxk : xs0 = xs ∧ k0 = k := by
          have e1 := rd_get hs0
          rw [HU.out, rd_get hs] at e1
          simp only [Option.some.injEq, Prod.mk.injEq] at e1
          exact ⟨e1.1.symm, e1.2.symm⟩
        obtain ⟨rfl, rfl⟩ := hxk
        have HS0 : Hid (us[i]? = some (s0, xs0, k0)) := hs0
        have r1 := (HW.out.cells i _ hs0).1
        have r2 := HW.out.thaw (i * 2) (by have := HUL.out; omega)
        simp only [Nat.zero_add] at r1 r2
        have HIx : Hid (Ints wr B B (.slice sa xs0.length sc) xs0) := hIx
        clear hs hs0 hIx
        go_wp2_with fail
        generalize hO : Obj.cells #[Value.slice sa xs0.length sc, Value.int IntKind.i64 k0] 40 = O
        have HSW : Hid (Rv (wr.alloc O) wr.heap.size (.slice sa xs0.length sc) k0) := hO ▸ Rv.new _ _ _ _ _ rfl
        have HRW : Hid (Rob (wr.alloc O) E (.slice (some ⟨g, 0, none⟩) ts.length cap) (tot ((rd ts).take i)) 0 0 1) := HR1.out.alloc O
        have hgl := HW.out.lt
        have t1 : (wr.alloc O).cell? ⟨g, i * 2, none⟩ = some s0 := ((ba wr O).cell (p := ⟨g, i * 2, none⟩) hgl).trans r1
        have t2 : (wr.alloc O).frozen? ⟨g, i * 2, none⟩ = false := ((ba wr O).frozen (p := ⟨g, i * 2, none⟩) hgl).trans r2
        have g7 : (wr.alloc O).heap.size = wr.heap.size + 1 := by simp
        obtain ⟨W, hW⟩ : ∃ W, wr.alloc O = W := ⟨_, rfl⟩
        have HB : Hid (Below wr.heap.size wr W) := hW ▸ ba wr O
        rw [hW] at HSW HRW t1 t2 g7 ⊢
        clear hO hW r1 r2 c1 c2
        have s1 := HSW.out.c0
        have s2 := HRW.out.c0
        have ne1 : ¬ g = E := by omega
        have ne2 : ¬ E = g := by omega
        have ne3 : ¬ g = wr.heap.size := by omega
        have ne4 : ¬ wr.heap.size = g := by omega
        have lw1 : g < W.heap.size := by omega
        have lw2 : wr.heap.size < W.heap.size := by omega
        have lw3 : E < W.heap.size := by omega
        have y1 : (i : Int) < (ts.length : Int) := by omega
        go_region_held3 (fun w' => w'.cell? ⟨wr.heap.size, 0, none⟩ = some (.slice sa xs0.length sc) ∧ w'.cell? ⟨E, 0, none⟩ = some (.slice (some ⟨g, 0, none⟩) ts.length cap))
          ((go_split_ands; refine ⟨?_, ?_⟩ <;> first | assumption | (simp [go_sem, *]; done)))
          ((go_at_call 30; refine (cloneN_any B B _ xs0 _ ?_ ?_).mono ?_; (have := HB.out.size; have := hbl.size; show B ≤ W.heap.size; omega); (exact HIx.out.at (by have := hbl.size; omega) HB.out.drew); rintro x1 w4 ⟨v', rfl, hI4, hb4⟩; obtain ⟨av, cv, hv1, _⟩ := hI4 0 (by show 0 < W.heap.size; omega); subst hv1; obtain ⟨hc4, hf4⟩ := bcell hb4; have hs4 : W.heap.size ≤ w4.heap.size := hb4.size; have q1 : w4.cell? ⟨g, i * 2, none⟩ = some s0 := (hc4 _ _ lw1).trans t1; have q2 : w4.frozen? ⟨g, i * 2, none⟩ = false := (hf4 _ _ lw1).trans t2; have q3 : w4.cell? ⟨wr.heap.size, 0, none⟩ = some (.slice sa xs0.length sc) := (hc4 _ _ lw2).trans s1; have q4 : w4.cell? ⟨E, 0, none⟩ = some (.slice (some ⟨g, 0, none⟩) ts.length cap) := (hc4 _ _ lw3).trans s2; clear hc4 hf4))
        have hbW : Below wr.heap.size wr w4 := bt HB.out.drew hb4
        have HSY : Hid (Rv (w4.setCell ⟨g, i * 2, none⟩ (.slice av xs0.length cv)) wr.heap.size (.slice sa xs0.length sc) k0) := (HSW.out.below ((Below.refl _ W).drew.trans hb4)).other g (i * 2) (by omega) _
        have HRY : Hid (Rob (w4.setCell ⟨g, i * 2, none⟩ (.slice av xs0.length cv)) E (.slice (some ⟨g, 0, none⟩) ts.length cap) (tot ((rd ts).take i)) 0 0 1) := (HR1.out.at hbW).other g (i * 2) (by omega) _
        have HWY : Hid (Row (w4.setCell ⟨g, i * 2, none⟩ (.slice av xs0.length cv)) g 0 (us.set i (.slice av xs0.length cv, xs0, k0))) := (HW.out.keep hbW).setL HS0.out _
        have HUY : Hid (rd (us.set i (.slice av xs0.length cv, xs0, k0)) = rd ts) := by rw [Hid, set_list HS0.out]; exact HU.out
        have HIY : Hid (∀ t ∈ us.set i (.slice av xs0.length cv, xs0, k0), ∀ m, m = E ∨ m = g → Ints (w4.setCell ⟨g, i * 2, none⟩ (.slice av xs0.length cv)) (w4.setCell ⟨g, i * 2, none⟩ (.slice av xs0.length cv)).heap.size m t.1 t.2.1) := by
          intro t ht m hm
          have key : ∀ (s : Value) (x : List Int), Ints w4 w4.heap.size g s x → Ints w4 w4.heap.size m s x → Ints (w4.setCell ⟨g, i * 2, none⟩ (.slice av xs0.length cv)) (w4.setCell ⟨g, i * 2, none⟩ (.slice av xs0.length cv)).heap.size m s x := by
            intro s x hg hm2
            have h1 := Ints.set2 hg hm2 (i * 2) (.slice av xs0.length cv)
            simpa using h1
          rcases List.mem_or_eq_of_mem_set ht with h | rfl
          · exact key _ _ ((HI.out t h g (.inr rfl)).at2 hbW) ((HI.out t h m hm).at2 hbW)
          · exact key _ _ (hI4 g lw1) (hI4 m (by show m < W.heap.size; omega))
        have hbY : Below w.heap.size w (w4.setCell ⟨g, i * 2, none⟩ (.slice av xs0.length cv)) := bs (bt hbl hbW) (p := ⟨g, i * 2, none⟩) hwg _
        have HT : Hid (tot ((rd ts).take (i + 1)) = tot ((rd ts).take i) + k0) := tot_take (rd_get HS.out)
        have ht1 := (Nn.of_pos HD.out.pos).tot_take_le i
        have ht2 := (Nn.of_pos HD.out.pos).tot_take_le (i + 1)
        have ht3 := HD.out.le
        rw [HT.out] at ht2
        obtain ⟨tt, htt⟩ : ∃ tt, tot ((rd ts).take i) = tt := ⟨_, rfl⟩
        have HTT : Hid (tot ((rd ts).take i) = tt) := htt
        rw [htt] at HRY ht1 ht2
        have hbd : 0 ≤ tt ∧ tt ≤ 1073741824 ∧ 0 ≤ tt + k0 ∧ tt + k0 ≤ 1073741824 := by omega
        generalize hYY : w4.setCell ⟨g, i * 2, none⟩ (.slice av xs0.length cv) = Y at HSY HRY HWY HIY hbY ⊢
        clear hYY htt ht1 ht2 ht3 hb4 hI4 hbW q1 q2 q3 q4 s1 s2 t1 t2 HSW HRW HR1 HW HI HU HB
        have s1 := HSY.out.c1
        have s2 := HRY.out.c1
        have s3 := HRY.out.fz 1
        go_wp2
        go_region
        go_wp2
        go_roundw
        case rel =>
          refine ⟨i + 1, us.set i (.slice av xs0.length cv, xs0, k0), by go_num, h1, by simpa using HUL.out, HUY, ?_, ?_, ?_, (bs hbY (p := ⟨E, 1, none⟩) hwE _).drew⟩
          · have := HWY.out
            exact ⟨fun j u hu => by
              have c := this.cells j u hu
              exact ⟨by rw [show ((Y.setCell ⟨E, 1, none⟩ (.int .i64 (tt + k0))).drew).cell? ⟨g, 0 + j * 2, none⟩ = (Y.setCell ⟨E, 1, none⟩ (.int .i64 (tt + k0))).cell? ⟨g, 0 + j * 2, none⟩ from rfl, sc_other (fun e => ne2 (congrArg Addr.block e))]; exact c.1, by rw [show ((Y.setCell ⟨E, 1, none⟩ (.int .i64 (tt + k0))).drew).cell? ⟨g, 0 + j * 2 + 1, none⟩ = (Y.setCell ⟨E, 1, none⟩ (.int .i64 (tt + k0))).cell? ⟨g, 0 + j * 2 + 1, none⟩ from rfl, sc_other (fun e => ne2 (congrArg Addr.block e))]; exact c.2⟩,
              fun j hj => by
                have c := this.thaw j hj
                exact (sc_frozen (w := Y) (a := ⟨E, 1, none⟩) (b := ⟨g, 0 + j, none⟩) (v := .int .i64 (tt + k0))).trans c, by have := this.lt; simpa using this⟩
          · intro t ht m hm
            have h1 := Ints.set2 (HIY.out t ht E (.inl rfl)) (HIY.out t ht m hm) 1 (.int .i64 (tt + k0))
            have h2 : Ints (Y.setCell ⟨E, 1, none⟩ (.int .i64 (tt + k0))).drew Y.heap.size m t.1 t.2.1 := h1.keep (Below.refl _ _).drew
            simpa using h2
          · rw [HT.out, HTT.out]
            exact (HRY.out.s1 (tt + k0)).drew
        case measure => simp [intOf]; omega
      · have HT : Hid (tot ((rd ts).take i) = tot (rd ts)) := by rw [Hid, rd_take_all (by omega)]
        rw [HT.out] at HR1
        go_wp2
        refine bodyPost_ret (v := .tuple #[.pointer (some ⟨E, 0, none⟩), .int .i64 0]) (by simp [results, Try.results18, go_sem]) rfl ⟨hbl, .inr ⟨rfl, E, some ⟨g, 0, none⟩, cap, us, rfl, HU.out, by rw [HUL.out]; exact HR1.out, ⟨by rw [HUL.out]; exact hcap, by rw [HUL.out]; exact hfw, fun _ => ⟨g, 0, rfl, HW.out.lt, by omega, HW.out.cells⟩, fun t ht => HI.out t ht E (.inl rfl)⟩, hwE⟩⟩
  · have h0' : (er == 0) = false := by simpa using h0
    go_wp2
    exact bodyPost_ret (v := .tuple #[.pointer none, .int .i64 er]) (by simp [results, Try.results18, go_sem]) rfl ⟨hb1, .inl ⟨h0, rfl⟩⟩
end Go.Proofs.Ytjnclbhpdaonhaa
