import Derived.Test.YtlndlpjadajelaaGreatQt42
import Derived.Test.YtlndlpjadajelaaGreatQt38
import Derived.Test.YtlndlpjadajelaaGreatQt29
import Derived.Test.YtlndlpjadajelaaGreatQt36
import Derived.Test.YtlndlpjadajelaaGreatQt40
import Derived.Deep.RegionHeld3
import Derived.Test.YtlndlpjadajelaaGreatQt39
import Derived.Deep.RegionLaw
namespace Go.Proofs.YtlndlpjadajelaaGreat.K.Ds
end Go.Proofs.YtlndlpjadajelaaGreat.K.Ds
namespace Go.Proofs.YtlndlpjadajelaaGreat.K
open Go.RowKit Go.Proofs.YtlndlpjadajelaaGreat.K.Ds

set_option maxHeartbeats 1000000 in
set_option maxRecDepth 100000 in
theorem rtype_any (l : List Col) (q : Qu) (w : World) (B : Nat) (lv v0 v1 v2 v3 v4 v5 : Value) (b1 b2 b3 er : Int) (hB : B ≤ w.heap.size) (hp : Cols w B lv l) (hq : Qm w B q v0 v1 v2 v3 v4 v5) (hr : typV (typ l q) = ((b1, b2, b3), er)) :
    Calls Tryz.prog 32 #[lv, .agg #[v0, v1, v2, v3, v4, v5]] w fun e w' => e = .returned (.tuple #[.agg #[.int .i64 b1, .int .i64 b2, .int .i64 b3], .int .i64 er]) ∧ Below w.heap.size w w' := by
  have HP : Hid (Cols w B lv l) := hp
  have HQ : Hid (Qm w B q v0 v1 v2 v3 v4 v5) := hq
  have HR : Hid (typV (typ l q) = ((b1, b2, b3), er)) := hr
  obtain ⟨la, lc, rfl, _⟩ := hp.slice
  obtain ⟨kk, kc, kl, kh, ka, kn', kd, kb, km, kp, rfl, rfl, rfl, rfl, rfl, rfl⟩ := hq.shape
  obtain ⟨ec, hec⟩ : ∃ ec, colE l = ec := ⟨_, rfl⟩
  have bq := Bq.new w (.int .i64 kk) (.string kc) (.int .i64 kl) (.int .i64 kh) (.slice ka kn' kd) (.slice kb km kp)
  have hb0 : Below w.heap.size w ((w.alloc (.cells #[.int .i64 kk, .string kc, .int .i64 kl, .int .i64 kh, .slice ka kn' kd, .slice kb km kp] 31)).alloc (.cells #[.int .i64 0, .int .i64 0, .int .i64 0] 61)) := bal (ba _ _) _
  have k1 := rcolumns_any B _ l _ (Nat.le_trans hB hb0.size) (hp.at hB hb0) ec hec
  have HEC : Hid (colE l = ec) := hec
  clear hp hq hr hec
  go_enter Tryz.func32, Tryz.ntmps32
  go_wp2_with fail
  refine k1.mono ?_
  rintro e w1 ⟨rfl, hb1⟩
  clear k1
  have hbw : Below w.heap.size w w1 := bt hb0 hb1
  have HB1 : Hid (Bq w1 w.heap.size (.int .i64 kk) (.string kc) (.int .i64 kl) (.int .i64 kh) (.slice ka kn' kd) (.slice kb km kp)) := bq.at hb1
  clear bq hb0 hb1
  by_cases he : ec = 0
  · subst he
    have HT : Hid (typV (bnd l 1 q) = ((b1, b2, b3), er)) := by have := HR.out; rwa [typ, if_pos HEC.out] at this
    have hsz := hbw.size
    have k2 := rbound_any l (colE_ok HEC.out).2.2.1 q 1 w1 B (.slice la l.length lc) _ _ _ _ _ _ b1 b2 b3 er (by decide) (by omega) (HP.out.at hB hbw) (HQ.out.at hB hbw) HT.out
    have m0 := HB1.out.a0.c
    have m1 := HB1.out.a1.c
    have m2 := HB1.out.a2.c
    have m3 := HB1.out.a3.c
    have m4 := HB1.out.a4.c
    have m5 := HB1.out.a5.c
    go_wp2_with fail
    refine k2.mono ?_
    rintro e w3 ⟨rfl, hb3⟩
    clear k2 m0 m1 m2 m3 m4 m5
    have HB3 : Hid (Bq w3 w.heap.size (.int .i64 kk) (.string kc) (.int .i64 kl) (.int .i64 kh) (.slice ka kn' kd) (.slice kb km kp)) := HB1.out.at hb3
    have hbw3 : Below w.heap.size w w3 := bt hbw hb3
    clear HB1 hb3
    have s0 := HB3.out.e0.c
    have s1 := HB3.out.e1.c
    have s2 := HB3.out.e2.c
    have f0 := HB3.out.e0.f
    have f1 := HB3.out.e1.f
    have f2 := HB3.out.e2.f
    go_wp2
    exact bodyPost_ret (v := .tuple #[.agg #[.int .i64 b1, .int .i64 b2, .int .i64 b3], .int .i64 er]) (by simp [results, Tryz.results32, go_sem, s0, s1, s2]) rfl ⟨rfl, bs3 hbw3 (Nat.le_succ _) _ _ _⟩
  · have hv := HR.out
    rw [typ, HEC.out, if_neg he] at hv
    obtain ⟨rfl, rfl, rfl, rfl⟩ := typV_err hv
    clear hv
    have hne : (ec != 0) = true := by simpa using he
    have s0 := HB1.out.e0.c
    have s1 := HB1.out.e1.c
    have s2 := HB1.out.e2.c
    have f0 := HB1.out.e0.f
    have f1 := HB1.out.e1.f
    have f2 := HB1.out.e2.f
    go_wp2
    exact bodyPost_ret (v := .tuple #[.agg #[.int .i64 0, .int .i64 0, .int .i64 0], .int .i64 ec]) (by simp [results, Tryz.results32, go_sem, s0, s1, s2]) rfl ⟨rfl, bs3 hbw (Nat.le_succ _) _ _ _⟩

theorem typV_split {r : Except Int Bnd} {b1 b2 b3 er : Int} (h : typV r = ((b1, b2, b3), er)) (hne : ∀ e, r = .error e → e ≠ 0) : (er = 0 ∧ r = .ok (b1, b2, b3)) ∨ (er ≠ 0 ∧ r = .error er) := by
  cases r with
  | error e =>
    obtain ⟨_, _, _, rfl⟩ := typV_err h
    exact .inr ⟨hne _ rfl, rfl⟩
  | ok b =>
    obtain ⟨c1, c2, c3⟩ := b
    obtain ⟨rfl, rfl, rfl, rfl⟩ := typV_ok h
    exact .inl ⟨rfl, rfl⟩
theorem typ_ne {l : List Col} {q : Qu} {e : Int} (h : typ l q = .error e) : e ≠ 0 := by
  unfold typ at h
  split at h
  · exact bnd_ne q _ _ h
  · cases h; assumption

end Go.Proofs.YtlndlpjadajelaaGreat.K

namespace Go.Proofs.YtlndlpjadajelaaGreat.K
open Go.RowKit Go.Proofs.YtlndlpjadajelaaGreat.K.Ds

def liveL : List Col := [(⟨#[97]⟩, 2)]
def liveQ : Qu := .node 1 ⟨#[]⟩ 0 0 [] 0 .none .none
theorem live_typ : typV (typ liveL liveQ) = ((1, 1, 4096), 0) := by
  have h1 : colE liveL = 0 := by decide
  have h2 : bnd liveL 1 liveQ = .ok (1, 1, 4096) := by simp [bnd, liveQ, kidN, ifK, rec, ifW, whE, tsE, lim, limB]
  rw [typ, if_pos h1, h2]
  rfl
theorem runT_typ {l : List Col} {rs : List (List Int)} {q : Qu} (h : wroE l rs = 0) : runT l rs q = match typ l q with | .ok _ => .ok (ans l rs q) | .error e => .error e := by
  rw [runT, if_pos h, typ, if_pos (wroE_ok h).1]
  all_goals (cases bnd l 1 q <;> rfl)

end Go.Proofs.YtlndlpjadajelaaGreat.K

namespace Go.Proofs.YtlndlpjadajelaaGreat.K
open Go.RowKit Go.Proofs.YtlndlpjadajelaaGreat.K.Ds

theorem rinto_any (lo hi v : Int) (w : World) : Calls Tryz.prog 144 #[.int .i64 v, .int .i64 lo, .int .i64 hi] w fun e w' => e = .returned (.int .i64 (inT lo hi v)) ∧ w' = w := by
  go_enter Tryz.func144, Tryz.ntmps144
  by_cases c1 : v < lo
  · rw [inT, if_pos c1]
    go_wp2
    go_ret
    exact ⟨rfl, rfl⟩
  · by_cases c2 : hi < v
    · rw [inT, if_neg c1, if_pos c2]
      go_wp2
      go_ret
      exact ⟨rfl, rfl⟩
    · rw [inT, if_neg c1, if_neg c2]
      go_wp2
      go_ret
      exact ⟨rfl, rfl⟩
theorem pas_step {l : List Col} {wh : List Tst} {row : List Int} {i : Nat} {t : Tst} (h : wh[i]? = some t) : pasB ((wh.drop i).map (trp l)) row = (tstB t.2.1 t.2.2 (row.getD ((fnd l t.1).getD 0) 0) && pasB ((wh.drop (i + 1)).map (trp l)) row) := by
  rw [List.drop_eq_getElem_cons (List.getElem?_eq_some_iff.1 h).1, (List.getElem?_eq_some_iff.1 h).2]
  rfl

set_option maxHeartbeats 2000000 in
set_option maxRecDepth 100000 in
theorem rpasses_any (B nb : Nat) (lv v rv : Value) (l : List Col) (wh : List Tst) (row : List Int) (w : World) (hB : B ≤ w.heap.size) (hp : Cols w B lv l) (hq : Tss w B v wh) (hr : Ints w B nb rv row) (hwe : whE l wh = 0) (hok : RowOk l row) (r : Bool) (hpb : pasB (wh.map (trp l)) row = r) :
    Calls Tryz.prog 143 #[lv, v, rv] w fun e w' => e = .returned (.bool r) ∧ Below w.heap.size w w' := by
  have HP : Hid (Cols w B lv l) := hp
  have HQ : Hid (Tss w B v wh) := hq
  have HR : Hid (Ints w B nb rv row) := hr
  have HPB : Hid (pasB (wh.map (trp l)) row = r) := hpb
  have HT : Hid (∀ t ∈ wh, (fnd l t.1).isSome = true ∧ doB t.2.1 = true) := by
    unfold whE at hwe
    split at hwe
    · cases hwe
    · exact tsE_ok hwe
  have HRL : Hid (row.length = l.length) := hok.len
  obtain ⟨a, c, rfl, hc, hl⟩ := hq.slice
  obtain ⟨a', c', rfl, hc', hl'⟩ := hp.slice
  obtain ⟨a2, c2, rfl, hc2, hl2⟩ := hr.slice
  clear hp hq hr hwe hok hpb
  go_enter Tryz.func143, Tryz.ntmps143
  go_wp2
  go_loopw [12] (fun s wr => ∃ (i : Nat), s = .int .i64 (i : Int) ∧ i ≤ wh.length ∧ Hid (pasB ((wh.drop i).map (trp l)) row = r) ∧ Below w.heap.size w wr) (fun s _ => wh.length - (intOf s).toNat)
  case atStart => exact ⟨0, rfl, Nat.zero_le _, by simpa [Hid] using HPB.out, Below.refl _ _⟩
  case round =>
    obtain ⟨i, rfl, hi, HI, hbl⟩ := hrel
    have hsz := hbl.size
    by_cases h1 : i < wh.length
    · obtain ⟨b, o, nm, d, z, rfl, hb, hgt, e1, e2, e3, hn⟩ := HQ.out.get hB hbl h1
      have HST := pas_step (l := l) (row := row) hgt
      obtain ⟨hfs, hdo⟩ := HT.out _ (List.mem_of_getElem? hgt)
      obtain ⟨j, hj⟩ := Option.isSome_iff_exists.1 hfs
      simp only at hj hdo HST
      rw [hj, Option.getD_some, HI.out] at HST
      have HS : Hid (r = (tstB d z (row.getD j 0) && pasB ((wh.drop (i + 1)).map (trp l)) row)) := HST
      have hjl : j < row.length := by have := HRL.out; have := fnd_lt hj; omega
      have k1 := rcol_any B _ l nm (wr.alloc (.cells #[.string nm, .int .i64 d, .int .i64 z] 214)) (by simp; omega) ((HP.out.at hB hbl).at (by omega) (ba _ _)) (j : Int) (fnI_some hj)
      clear hgt HST hfs hj
      simp only [doB, decide_eq_true_eq] at hdo
      go_wp2_with fail
      refine k1.mono ?_
      rintro e w3 ⟨rfl, hb3⟩
      clear k1
      have hbw3 : Below w.heap.size w w3 := bt (bal hbl _) hb3
      obtain ⟨b2, o2, x, rfl, _, _, _, _, hgd, hcx⟩ := (HR.out.at hB hbw3).got hjl
      rw [hgd] at HS
      have t1 := ((Cl.new (w := wr) #[.string nm, .int .i64 d, .int .i64 z] 214 1 _ rfl rfl).at hb3).c
      have t2 := ((Cl.new (w := wr) #[.string nm, .int .i64 d, .int .i64 z] 214 2 _ rfl rfl).at hb3).c
      have hj1 : (0 : Int) ≤ (j : Int) := by omega
      have hj2 : (j : Int) < (row.length : Int) := by omega
      clear hgd hb3 e1 e2 e3
      rcases (show d = 1 ∨ d = 2 ∨ d = 3 ∨ d = 4 ∨ d = 5 ∨ d = 6 by omega) with rfl | rfl | rfl | rfl | rfl | rfl
      · by_cases ht : x = z
        · have HI2 : Hid (pasB ((wh.drop (i + 1)).map (trp l)) row = r) := by
            have := HS.out
            rw [show tstB 1 z x = true by simp [tstB]; omega, Bool.true_and] at this
            exact this.symm
          have g0 : (x == z) = true := by first | omega | (simp; omega)
          have g1 : (x != z) = false := by first | omega | (simp; omega)
          clear ht HS
          go_wp2
          go_roundw
          case rel => exact ⟨i + 1, by go_num, h1, HI2, hbw3⟩
          case measure => simp [intOf]; omega
        · obtain rfl : false = r := by
            have := HS.out
            rw [show tstB 1 z x = false by simp [tstB]; omega, Bool.false_and] at this
            exact this.symm
          have g0 : (x == z) = false := by first | omega | (simp; omega)
          have g1 : (x != z) = true := by first | omega | (simp; omega)
          clear ht HS
          go_wp2
          go_ret
          exact ⟨rfl, hbw3⟩
      · by_cases ht : x < z
        · have HI2 : Hid (pasB ((wh.drop (i + 1)).map (trp l)) row = r) := by
            have := HS.out
            rw [show tstB 2 z x = true by simp [tstB]; omega, Bool.true_and] at this
            exact this.symm
          have g0 : ¬ z ≤ x := by first | omega | (simp; omega)
          clear ht HS
          go_wp2
          go_roundw
          case rel => exact ⟨i + 1, by go_num, h1, HI2, hbw3⟩
          case measure => simp [intOf]; omega
        · obtain rfl : false = r := by
            have := HS.out
            rw [show tstB 2 z x = false by simp [tstB]; omega, Bool.false_and] at this
            exact this.symm
          have g0 : z ≤ x := by first | omega | (simp; omega)
          clear ht HS
          go_wp2
          go_ret
          exact ⟨rfl, hbw3⟩
      · by_cases ht : x ≤ z
        · have HI2 : Hid (pasB ((wh.drop (i + 1)).map (trp l)) row = r) := by
            have := HS.out
            rw [show tstB 3 z x = true by simp [tstB]; omega, Bool.true_and] at this
            exact this.symm
          have g0 : ¬ z < x := by first | omega | (simp; omega)
          clear ht HS
          go_wp2
          go_roundw
          case rel => exact ⟨i + 1, by go_num, h1, HI2, hbw3⟩
          case measure => simp [intOf]; omega
        · obtain rfl : false = r := by
            have := HS.out
            rw [show tstB 3 z x = false by simp [tstB]; omega, Bool.false_and] at this
            exact this.symm
          have g0 : z < x := by first | omega | (simp; omega)
          clear ht HS
          go_wp2
          go_ret
          exact ⟨rfl, hbw3⟩
      · by_cases ht : z < x
        · have HI2 : Hid (pasB ((wh.drop (i + 1)).map (trp l)) row = r) := by
            have := HS.out
            rw [show tstB 4 z x = true by simp [tstB]; omega, Bool.true_and] at this
            exact this.symm
          have g0 : ¬ x ≤ z := by first | omega | (simp; omega)
          clear ht HS
          go_wp2
          go_roundw
          case rel => exact ⟨i + 1, by go_num, h1, HI2, hbw3⟩
          case measure => simp [intOf]; omega
        · obtain rfl : false = r := by
            have := HS.out
            rw [show tstB 4 z x = false by simp [tstB]; omega, Bool.false_and] at this
            exact this.symm
          have g0 : x ≤ z := by first | omega | (simp; omega)
          clear ht HS
          go_wp2
          go_ret
          exact ⟨rfl, hbw3⟩
      · by_cases ht : z ≤ x
        · have HI2 : Hid (pasB ((wh.drop (i + 1)).map (trp l)) row = r) := by
            have := HS.out
            rw [show tstB 5 z x = true by simp [tstB]; omega, Bool.true_and] at this
            exact this.symm
          have g0 : ¬ x < z := by first | omega | (simp; omega)
          clear ht HS
          go_wp2
          go_roundw
          case rel => exact ⟨i + 1, by go_num, h1, HI2, hbw3⟩
          case measure => simp [intOf]; omega
        · obtain rfl : false = r := by
            have := HS.out
            rw [show tstB 5 z x = false by simp [tstB]; omega, Bool.false_and] at this
            exact this.symm
          have g0 : x < z := by first | omega | (simp; omega)
          clear ht HS
          go_wp2
          go_ret
          exact ⟨rfl, hbw3⟩
      · by_cases ht : ¬ x = z
        · have HI2 : Hid (pasB ((wh.drop (i + 1)).map (trp l)) row = r) := by
            have := HS.out
            rw [show tstB 6 z x = true by simp [tstB]; omega, Bool.true_and] at this
            exact this.symm
          have g0 : (x == z) = false := by first | omega | (simp; omega)
          clear ht HS
          go_wp2
          go_roundw
          case rel => exact ⟨i + 1, by go_num, h1, HI2, hbw3⟩
          case measure => simp [intOf]; omega
        · obtain rfl : false = r := by
            have := HS.out
            rw [show tstB 6 z x = false by simp [tstB]; omega, Bool.false_and] at this
            exact this.symm
          have g0 : (x == z) = true := by first | omega | (simp; omega)
          clear ht HS
          go_wp2
          go_ret
          exact ⟨rfl, hbw3⟩
    · obtain rfl : true = r := by have := HI.out; rw [List.drop_of_length_le (by omega)] at this; exact this
      go_wp2
      go_ret
      exact ⟨rfl, hbl⟩
end Go.Proofs.YtlndlpjadajelaaGreat.K

namespace Go.Proofs.YtlndlpjadajelaaGreat.K
open Go.RowKit Go.Proofs.YtlndlpjadajelaaGreat.K.Ds

/-- what the reference answers: numbers somewhere -/
def AnsR (w : World) (xs : List Int) (e : Ending) (w' : World) : Prop := ∃ a c, e = .returned (.slice a xs.length c) ∧ Ints w' w'.heap.size w'.heap.size (.slice a xs.length c) xs ∧ Below w.heap.size w w'
theorem AnsR.up {w W : World} {xs : List Int} {e : Ending} {w' : World} (h : AnsR W xs e w') (hb : Below w.heap.size w W) : AnsR w xs e w' := by
  obtain ⟨a, c, he, hi, hbw⟩ := h
  exact ⟨a, c, he, hi, bt hb hbw⟩
/-- the cells that the reference's answer makes -/
structure Rb (W : World) (N : Nat) (cv rv : Value) (k : Int) (c : ByteArray) (lo hi : Int) (wv kv : Value) : Prop where
  t0 : Cl W N 0 cv
  t1 : Cl W N 1 rv
  a0 : Cl W (N + 1) 0 (.int .i64 k)
  a1 : Cl W (N + 1) 1 (.string c)
  a2 : Cl W (N + 1) 2 (.int .i64 lo)
  a3 : Cl W (N + 1) 3 (.int .i64 hi)
  a4 : Cl W (N + 1) 4 wv
  a5 : Cl W (N + 1) 5 kv
theorem Rb.at {W W' : World} {N : Nat} {cv rv : Value} {k : Int} {c : ByteArray} {lo hi : Int} {wv kv : Value} (h : Rb W N cv rv k c lo hi wv kv) (hb : Below W.heap.size W W') : Rb W' N cv rv k c lo hi wv kv :=
  ⟨h.t0.at hb, h.t1.at hb, h.a0.at hb, h.a1.at hb, h.a2.at hb, h.a3.at hb, h.a4.at hb, h.a5.at hb⟩
theorem Rb.new (w : World) (cv rv : Value) (k : Int) (c : ByteArray) (lo hi : Int) (wv kv : Value) : Rb ((w.alloc (.cells #[cv, rv] 27)).alloc (.cells #[.int .i64 k, .string c, .int .i64 lo, .int .i64 hi, wv, kv] 31)) w.heap.size cv rv k c lo hi wv kv := by
  constructor
  all_goals first
    | exact (Cl.new _ 27 _ _ rfl rfl).at (ba _ _)
    | exact Cl.new _ 31 _ _ (by simp) rfl
theorem b2a (w : World) (o1 o2 : Obj) : Below w.heap.size w ((w.alloc o1).alloc o2) := bal (ba _ _) _

set_option maxHeartbeats 4000000 in
set_option maxRecDepth 100000 in
theorem ran1_any (c : ByteArray) (lo hi : Int) (cv rv wv kv : Value) (w : World) (B : Nat) (l : List Col) (ts : List Rw) (wh : List Tst) (hB : B ≤ w.heap.size) (hp : Cols w B cv l) (hr : Rws w B rv ts) (hw : Tss w B wv wh) (hlen : ts.length ≤ 4096) (hok : ∀ r ∈ rr ts, RowOk l r) (hkv : ∃ a n cc, kv = .slice a n cc) (hwe : whE l wh = 0) :
    Calls Tryz.prog 77 #[.agg #[cv, rv], .agg #[.int .i64 1, .string c, .int .i64 lo, .int .i64 hi, wv, kv]] w (AnsR w (gat 1 (wh.map (trp l)) (stp 1 0 0 0) (rr ts))) := by
  have ab := Rb.new w cv rv 1 c lo hi wv kv
  have hb0 := b2a w (.cells #[cv, rv] 27) (.cells #[.int .i64 1, .string c, .int .i64 lo, .int .i64 hi, wv, kv] 31)
  obtain ⟨W0, hW0⟩ : ∃ W0, ((w.alloc (.cells #[cv, rv] 27)).alloc (.cells #[.int .i64 1, .string c, .int .i64 lo, .int .i64 hi, wv, kv] 31)) = W0 := ⟨_, rfl⟩
  rw [hW0] at ab hb0
  have HW0 : Hid (((w.alloc (.cells #[cv, rv] 27)).alloc (.cells #[.int .i64 1, .string c, .int .i64 lo, .int .i64 hi, wv, kv] 31)) = W0) := hW0
  have HAB : Hid (Rb W0 w.heap.size cv rv 1 c lo hi wv kv) := ab
  have HP : Hid (Cols w B cv l) := hp
  have HQ : Hid (Rws w B rv ts) := hr
  have HW : Hid (Tss w B wv wh) := hw
  have HWE : Hid (whE l wh = 0) := hwe
  have HOKS : Hid (∀ r ∈ rr ts, RowOk l r) := hok
  obtain ⟨fi, hfi⟩ : ∃ fi, fnI l c = fi := ⟨_, rfl⟩
  have k1 := rkids_any 1 W0 0 rfl
  have k2 := rcol_any B cv l c W0 (Nat.le_trans hB hb0.size) (hp.at hB hb0) fi hfi
  obtain ⟨ca, ccp, rfl, _⟩ := hp.slice
  obtain ⟨ra, rc, rfl, _⟩ := hr.slice
  obtain ⟨wa, wc, rfl, _⟩ := hw.slice
  obtain ⟨ka, kn, kc', rfl⟩ := hkv
  have m0 := ab.a0.c
  have m1 := ab.t0.c
  have m2 := ab.a1.c
  have hm : ∀ u : World, (Instr.makeSlice 65 (.int .i64 1) (.int .i64 1)).run Tryz.prog u = .ok (.slice (some ⟨u.heap.size, 0, none⟩) 1 1) (u.alloc (.cells (madeCells #[.int .i64 0] 1) 3)) := fun u => make_ints 1 (by decide) u
  clear hp hr hw hok hwe ab hfi
  go_enter Tryz.func77, Tryz.ntmps77
  go_wp2_with fail
  refine k1.mono ?_
  rintro e w0 ⟨rfl, hw0⟩
  subst hw0
  clear k1
  go_wp2_with fail
  refine k2.mono ?_
  rintro e w1 ⟨rfl, hb1⟩
  clear k2 m0 m1 m2
  have hbw1 := bt hb0 hb1
  have HB1 : Hid (Rb w1 w.heap.size (.slice ca l.length ccp) (.slice ra ts.length rc) 1 c lo hi (.slice wa wh.length wc) (.slice ka kn kc')) := HAB.out.at hb1
  have hs1 : Hid (w.heap.size ≤ w1.heap.size) := hbw1.size
  have HA0 : Hid (Arw (w1.alloc (.cells (madeCells #[.int .i64 0] 1) 3)) w.heap.size w1.heap.size 1 (gat 1 (wh.map (trp l)) (stp 1 0 0 0) ((rr ts).take 0))) := by
    have := Arw.made w1 w.heap.size 1 hs1.out (by omega); simpa [Hid, gat] using this
  obtain ⟨g, hg⟩ : ∃ g, w1.heap.size = g := ⟨_, rfl⟩
  have hgw : Hid (w1.heap.size ≤ g) := by show _ ≤ _; omega
  have hgl : Hid (w.heap.size ≤ g) := by have := hs1.out; show _ ≤ _; omega
  have hm2 := hm w1
  rw [hg] at HA0
  have m0 := HB1.out.a0.c
  have m1 := (HB1.out.at (ba w1 (.cells (madeCells #[.int .i64 0] 1) 3))).t1.c
  go_wp2
  clear hg
  go_loopw [41] (fun s' wr => ∃ (i : Nat), s' = .int .i64 (i : Int) ∧ i ≤ ts.length ∧ Hid (Arw wr w.heap.size g 1 (gat 1 (wh.map (trp l)) (stp 1 0 0 0) ((rr ts).take i))) ∧ Below w1.heap.size w1 wr) (fun s' _ => ts.length - (intOf s').toNat)
  case atStart => exact ⟨0, rfl, Nat.zero_le _, HA0, ba _ _⟩
  case round =>
    obtain ⟨i, rfl, hin, HA, hbr⟩ := hrel
    clear hm2 hm m0 m1
    have hbwr : Below w.heap.size w wr := bt hbw1 hbr
    by_cases h1 : i < ts.length
    · have hsr := hbwr.size
      obtain ⟨b, o, sa, sc, row, rfl, hbB, hgt, hcell, hrow⟩ := HQ.out.get hB hbwr h1
      have HG : Hid ((rr ts)[i]? = some row) := rr_get hgt
      have HOK : Hid (RowOk l row) := HOKS.out _ (List.mem_of_getElem? HG.out)
      obtain ⟨pb, hpb⟩ : ∃ pb, pasB (wh.map (trp l)) row = pb := ⟨_, rfl⟩
      have k2 := rpasses_any B B _ _ _ l wh row wr (by omega) (HP.out.at hB hbwr) (HW.out.at hB hbwr) hrow HWE.out HOK.out pb hpb
      have HPB : Hid (pasB (wh.map (trp l)) row = pb) := hpb
      have HBr := HB1.out.at hbr
      have m0 := HBr.t0.c
      have m1 := HBr.a4.c
      clear hgt hrow hpb HBr
      go_wp2_with fail
      refine k2.mono ?_
      rintro e w5 ⟨rfl, hb5⟩
      clear k2 m0 m1
      have HA5 : Hid (Arw w5 w.heap.size g 1 (gat 1 (wh.map (trp l)) (stp 1 0 0 0) ((rr ts).take i))) := HA.out.at hb5
      have hbr5 : Below w1.heap.size w1 w5 := bt hbr hb5
      have HB5 := HB1.out.at hbr5
      have m0 := HB5.a0.c
      clear HB5
      cases pb with
      | false =>
        have HA6 : Hid (Arw w5 w.heap.size g 1 (gat 1 (wh.map (trp l)) (stp 1 0 0 0) ((rr ts).take (i + 1)))) := by rw [gat_step HG.out, gst, HPB.out]; exact HA5.out
        go_wp2
        go_roundw
        case rel => exact ⟨i + 1, by go_num, h1, HA6, hbr5⟩
        case measure => simp [intOf]; omega
      | true =>
        have hgbd : Bdd (4096 * 1) (gat 1 (wh.map (trp l)) (stp 1 0 0 0) ((rr ts).take i)) := gat_bd (by decide) (fun r _ => by simp [stp]) (by simp [rr]; omega)
        obtain ⟨x, hx0⟩ := get_lt (l := gat 1 (wh.map (trp l)) (stp 1 0 0 0) ((rr ts).take i)) (i := 0) (by rw [gat_len]; decide)
        have hxb : -4611686018427387904 ≤ x ∧ x ≤ 4611686018427387904 := by have := hgbd.get hx0; omega
        have HA6 : Hid (Arw (w5.setCell ⟨g, 0, none⟩ (.int .i64 (x + 1))) w.heap.size g 1 (gat 1 (wh.map (trp l)) (stp 1 0 0 0) ((rr ts).take (i + 1)))) := by
          have he : gat 1 (wh.map (trp l)) (stp 1 0 0 0) ((rr ts).take (i + 1)) = (gat 1 (wh.map (trp l)) (stp 1 0 0 0) ((rr ts).take i)).set 0 (x + 1) := by
            rw [gat_step HG.out, gst, HPB.out]
            show addAt _ _ = _
            unfold addAt
            rw [show stp 1 0 0 0 row = (0, 1) by simp [stp]]
            have hgd : (gat 1 (wh.map (trp l)) (stp 1 0 0 0) ((rr ts).take i)).getD 0 0 = x := by rw [List.getD, hx0]; rfl
            dsimp only
            rw [hgd]
          rw [he]
          exact HA5.out.set 0 _
        have hb6 : Below w1.heap.size w1 (w5.setCell ⟨g, 0, none⟩ (.int .i64 (x + 1))) := hbr5.setCell (by simpa using hgw.out) _
        have q0 := HA5.out.cell hx0
        have q1 := HA5.out.fz 0
        obtain ⟨x1, x2⟩ := hxb
        clear hx0 hgbd
        go_wp2
        go_roundw
        case rel => exact ⟨i + 1, by go_num, h1, HA6, hb6⟩
        case measure => simp [intOf]; omega
    · have HA6 : Hid (Arw wr w.heap.size g 1 (gat 1 (wh.map (trp l)) (stp 1 0 0 0) (rr ts))) := by have := HA.out; rwa [List.take_of_length_le (by rw [rr_len]; omega)] at this
      go_wp2
      go_ret
      refine ⟨some ⟨g, 0, none⟩, 1, by rw [gat_len]; rfl, ?_, hbwr⟩
      exact HA6.out.ints _ (Nat.ne_of_lt HA6.out.lt.2)
end Go.Proofs.YtlndlpjadajelaaGreat.K

namespace Go.Proofs.YtlndlpjadajelaaGreat.K
open Go.RowKit Go.Proofs.YtlndlpjadajelaaGreat.K.Ds

set_option maxHeartbeats 4000000 in
set_option maxRecDepth 100000 in
theorem ran2_any (c : ByteArray) (lo hi : Int) (cv rv wv kv : Value) (w : World) (B : Nat) (l : List Col) (ts : List Rw) (wh : List Tst) (hB : B ≤ w.heap.size) (hp : Cols w B cv l) (hr : Rws w B rv ts) (hw : Tss w B wv wh) (hlen : ts.length ≤ 4096) (hok : ∀ r ∈ rr ts, RowOk l r) (hkv : ∃ a n cc, kv = .slice a n cc) (hwe : whE l wh = 0) (at' : Nat) (hf : fnd l c = some at') (hwr : wrtB lo hi = true) :
    Calls Tryz.prog 77 #[.agg #[cv, rv], .agg #[.int .i64 2, .string c, .int .i64 lo, .int .i64 hi, wv, kv]] w (AnsR w (gat 1 (wh.map (trp l)) (stp 2 at' lo hi) (rr ts))) := by
  have ab := Rb.new w cv rv 2 c lo hi wv kv
  have hb0 := b2a w (.cells #[cv, rv] 27) (.cells #[.int .i64 2, .string c, .int .i64 lo, .int .i64 hi, wv, kv] 31)
  obtain ⟨W0, hW0⟩ : ∃ W0, ((w.alloc (.cells #[cv, rv] 27)).alloc (.cells #[.int .i64 2, .string c, .int .i64 lo, .int .i64 hi, wv, kv] 31)) = W0 := ⟨_, rfl⟩
  rw [hW0] at ab hb0
  have HW0 : Hid (((w.alloc (.cells #[cv, rv] 27)).alloc (.cells #[.int .i64 2, .string c, .int .i64 lo, .int .i64 hi, wv, kv] 31)) = W0) := hW0
  have HAB : Hid (Rb W0 w.heap.size cv rv 2 c lo hi wv kv) := ab
  have HP : Hid (Cols w B cv l) := hp
  have HQ : Hid (Rws w B rv ts) := hr
  have HW : Hid (Tss w B wv wh) := hw
  have HWE : Hid (whE l wh = 0) := hwe
  have HOKS : Hid (∀ r ∈ rr ts, RowOk l r) := hok
  have hal := fnd_lt hf
  have hspn := spn_bd hwr
  have k1 := rkids_any 2 W0 0 rfl
  have k2 := rcol_any B cv l c W0 (Nat.le_trans hB hb0.size) (hp.at hB hb0) (at' : Int) (fnI_some hf)
  obtain ⟨ca, ccp, rfl, _⟩ := hp.slice
  obtain ⟨ra, rc, rfl, _⟩ := hr.slice
  obtain ⟨wa, wc, rfl, _⟩ := hw.slice
  obtain ⟨ka, kn, kc', rfl⟩ := hkv
  have m0 := ab.a0.c
  have m1 := ab.t0.c
  have m2 := ab.a1.c
  have hm : ∀ u : World, (Instr.makeSlice 65 (.int .i64 1) (.int .i64 1)).run Tryz.prog u = .ok (.slice (some ⟨u.heap.size, 0, none⟩) 1 1) (u.alloc (.cells (madeCells #[.int .i64 0] 1) 3)) := fun u => make_ints 1 (by decide) u
  clear hp hr hw hok hwe ab hf
  go_enter Tryz.func77, Tryz.ntmps77
  go_wp2_with fail
  refine k1.mono ?_
  rintro e w0 ⟨rfl, hw0⟩
  subst hw0
  clear k1
  go_wp2_with fail
  refine k2.mono ?_
  rintro e w1 ⟨rfl, hb1⟩
  clear k2 m0 m1 m2
  have hbw1 := bt hb0 hb1
  have HB1 : Hid (Rb w1 w.heap.size (.slice ca l.length ccp) (.slice ra ts.length rc) 2 c lo hi (.slice wa wh.length wc) (.slice ka kn kc')) := HAB.out.at hb1
  have hs1 : Hid (w.heap.size ≤ w1.heap.size) := hbw1.size
  have HA0 : Hid (Arw (w1.alloc (.cells (madeCells #[.int .i64 0] 1) 3)) w.heap.size w1.heap.size 1 (gat 1 (wh.map (trp l)) (stp 2 at' lo hi) ((rr ts).take 0))) := by
    have := Arw.made w1 w.heap.size 1 hs1.out (by omega); simpa [Hid, gat] using this
  obtain ⟨g, hg⟩ : ∃ g, w1.heap.size = g := ⟨_, rfl⟩
  have hgw : Hid (w1.heap.size ≤ g) := by show _ ≤ _; omega
  have hgl : Hid (w.heap.size ≤ g) := by have := hs1.out; show _ ≤ _; omega
  have hm2 := hm w1
  rw [hg] at HA0
  have m0 := HB1.out.a0.c
  have m1 := (HB1.out.at (ba w1 (.cells (madeCells #[.int .i64 0] 1) 3))).t1.c
  go_wp2
  clear hg
  go_loopw [41] (fun s' wr => ∃ (i : Nat), s' = .int .i64 (i : Int) ∧ i ≤ ts.length ∧ Hid (Arw wr w.heap.size g 1 (gat 1 (wh.map (trp l)) (stp 2 at' lo hi) ((rr ts).take i))) ∧ Below w1.heap.size w1 wr) (fun s' _ => ts.length - (intOf s').toNat)
  case atStart => exact ⟨0, rfl, Nat.zero_le _, HA0, ba _ _⟩
  case round =>
    obtain ⟨i, rfl, hin, HA, hbr⟩ := hrel
    clear hm2 hm m0 m1
    have hbwr : Below w.heap.size w wr := bt hbw1 hbr
    by_cases h1 : i < ts.length
    · have hsr := hbwr.size
      obtain ⟨b, o, sa, sc, row, rfl, hbB, hgt, hcell, hrow⟩ := HQ.out.get hB hbwr h1
      have HG : Hid ((rr ts)[i]? = some row) := rr_get hgt
      have HRW : Hid (Ints wr B B (.slice sa row.length sc) row) := hrow
      have HOK : Hid (RowOk l row) := HOKS.out _ (List.mem_of_getElem? HG.out)
      obtain ⟨pb, hpb⟩ : ∃ pb, pasB (wh.map (trp l)) row = pb := ⟨_, rfl⟩
      have k2 := rpasses_any B B _ _ _ l wh row wr (by omega) (HP.out.at hB hbwr) (HW.out.at hB hbwr) hrow HWE.out HOK.out pb hpb
      have HPB : Hid (pasB (wh.map (trp l)) row = pb) := hpb
      have HBr := HB1.out.at hbr
      have m0 := HBr.t0.c
      have m1 := HBr.a4.c
      clear hgt hrow hpb HBr
      go_wp2_with fail
      refine k2.mono ?_
      rintro e w5 ⟨rfl, hb5⟩
      clear k2 m0 m1
      have HA5 : Hid (Arw w5 w.heap.size g 1 (gat 1 (wh.map (trp l)) (stp 2 at' lo hi) ((rr ts).take i))) := HA.out.at hb5
      have hbr5 : Below w1.heap.size w1 w5 := bt hbr hb5
      have HB5 := HB1.out.at hbr5
      have m0 := HB5.a0.c
      clear HB5
      cases pb with
      | false =>
        have HA6 : Hid (Arw w5 w.heap.size g 1 (gat 1 (wh.map (trp l)) (stp 2 at' lo hi) ((rr ts).take (i + 1)))) := by rw [gat_step HG.out, gst, HPB.out]; exact HA5.out
        go_wp2
        go_roundw
        case rel => exact ⟨i + 1, by go_num, h1, HA6, hbr5⟩
        case measure => simp [intOf]; omega
      | true =>
        have hgbd : Bdd (4096 * 1048576) (gat 1 (wh.map (trp l)) (stp 2 at' lo hi) ((rr ts).take i)) := gat_bd (by decide) (fun r _ => by have h1 := inT_bd (v := r.getD at' 0) hwr; have h2 := spn_bd hwr; rw [show (stp 2 at' lo hi r).2 = inT lo hi (r.getD at' 0) by simp [stp]]; omega) (by simp [rr]; omega)
        obtain ⟨x, hx0⟩ := get_lt (l := gat 1 (wh.map (trp l)) (stp 2 at' lo hi) ((rr ts).take i)) (i := 0) (by rw [gat_len]; decide)
        have hxb : -4611686018427387904 ≤ x ∧ x ≤ 4611686018427387904 := by have := hgbd.get hx0; omega
        obtain ⟨b2, o2, y, rfl, _, _, _, _, hgd, hcy⟩ := (HRW.out.at (by omega) hb5).got (i := at') (by have := HOK.out.len; omega)
        have hrl : at' < row.length := by have := HOK.out.len; omega
        have hin := inT_bd (v := y) hwr
        have kt := rinto_any lo hi y w5.drew
        obtain ⟨z, hz⟩ : ∃ z, inT lo hi y = z := ⟨_, rfl⟩
        have HA6 : Hid (Arw (w5.setCell ⟨g, 0, none⟩ (.int .i64 (x + z))).drew w.heap.size g 1 (gat 1 (wh.map (trp l)) (stp 2 at' lo hi) ((rr ts).take (i + 1)))) := by
          have he : gat 1 (wh.map (trp l)) (stp 2 at' lo hi) ((rr ts).take (i + 1)) = (gat 1 (wh.map (trp l)) (stp 2 at' lo hi) ((rr ts).take i)).set 0 (x + z) := by
            rw [gat_step HG.out, gst, HPB.out]
            show addAt _ _ = _
            unfold addAt
            rw [show stp 2 at' lo hi row = (0, z) by simp only [stp]; rw [hgd, hz]; simp]
            have hgd : (gat 1 (wh.map (trp l)) (stp 2 at' lo hi) ((rr ts).take i)).getD 0 0 = x := by rw [List.getD, hx0]; rfl
            dsimp only
            rw [hgd]
          rw [he]
          exact (HA5.out.set 0 _).at (Below.refl _ _).drew
        have hb6 : Below w1.heap.size w1 (w5.setCell ⟨g, 0, none⟩ (.int .i64 (x + z))).drew := (hbr5.setCell (by simpa using hgw.out) _).drew
        rw [hz] at kt hin
        have q0 := HA5.out.cell hx0
        have q1 := HA5.out.fz 0
        obtain ⟨x1, x2⟩ := hxb
        obtain ⟨y1, y2⟩ := hin
        have hw1 : IntKind.i64.wrap (x + z) = x + z := by rw [IntKind.wrap_i64]; have := wrap_id (a := x + z) (by omega); unfold wrap64 at this; omega
        have hj1 : (0 : Int) ≤ (at' : Int) := by omega
        have hj2 : (at' : Int) < (row.length : Int) := by omega
        have HB5 := HB1.out.at hbr5
        have m2 := HB5.a2.c
        have m3 := HB5.a3.c
        clear hx0 hgbd hgd hz HB5
        go_wp2
        go_region_law (first | (go_simp; go_at_call 144; refine kt.mono ?_; rintro x3 w3 ⟨rfl, hw3⟩; subst hw3; go_wp2_with fail))
        all_goals
          go_wp2
          go_roundw
          case rel => exact ⟨i + 1, by go_num, h1, HA6, hb6⟩
          case measure => simp [intOf]; omega
    · have HA6 : Hid (Arw wr w.heap.size g 1 (gat 1 (wh.map (trp l)) (stp 2 at' lo hi) (rr ts))) := by have := HA.out; rwa [List.take_of_length_le (by rw [rr_len]; omega)] at this
      go_wp2
      go_ret
      refine ⟨some ⟨g, 0, none⟩, 1, by rw [gat_len]; rfl, ?_, hbwr⟩
      exact HA6.out.ints _ (Nat.ne_of_lt HA6.out.lt.2)
end Go.Proofs.YtlndlpjadajelaaGreat.K
