import Derived.Test.YthmkbkombjhaeaaQw22
import Derived.Test.YthmkbkombjhaeaaQw18
import Derived.Deep.Upon
import Derived.Test.YthmkbkombjhaeaaQw04
import Derived.Deep.RegionHeld3
import Derived.Test.YthmkbkombjhaeaaQw09
import Derived.Test.YthmkbkombjhaeaaQw08
namespace Go.Proofs.Ythmkbkombjhaeaa
open Go.RowKit Go.Proofs.Ythmkbkombjhaeaa.Ds

/-- append of one part to parts of one's own -/
theorem wpList_rws {ops : Array Oper} {rest : List Oper} {o : Oper} {a : Act} {Q : Exit → Act → World → Prop} (w : World) (hgd : o.guard = none) (s x : Operand) (ho : o.op = .call { callee := .builtin .append, args := #[s, x], argTypes := #[25, 25] })
    (base n : Nat) (sa : Option Addr) (sc : Nat) (ds M : List Tr) (hs : a.eval s = .slice sa n sc) (hn : ds.length = n) (hown : Rws w base (.slice sa n sc) ds) (ad : Addr) (hx : a.eval x = .slice (some ad) 1 1) (t : Value) (xs : List Int) (k : Int)
    (hc : ∀ j u, [t, Value.int .i64 k][j]? = some u → w.cell? (ad.add j) = some u) (h1 : t.oneCell' = true) (tb : Nat) (hI : ∀ m, m < tb → Ints w w.heap.size m t xs) (had : ∀ g, (Value.slice sa n sc).ownBlock = some g → g < tb) (had0 : 0 < tb) (hM : ds ++ [(t, xs, k)] = M) (hb : n + 1 ≤ 1073741824) (hbase : base ≤ w.heap.size) (n' : Nat) (hn' : n + 1 = n')
    (h : ∀ a' c' w', Rws w' base (.slice a' n' c') M → Below base w w' → wpList Try.prog ops Q rest (a.put o.dst (.slice a' n' c')) w') :
    wpList Try.prog ops Q (o :: rest) a w := by
  subst hn hn'
  refine wpList_plain hgd fun K' hK' => ?_
  obtain ⟨i0, hi, hz0, hz1, hz2⟩ := info_parts info32
  obtain ⟨v', w', hr, h2, h3, _, h5⟩ := run_append_own_at (P := Try.prog) w base 25 o.type 55 i0 (.agg #[.slice none 0 0, .int .i64 0]) 2 32 Try.underlying25 hi hz0 hz1 hz2 rfl (by decide) (.slice sa ds.length sc) ds.length (flat ds) hown.1 ad 1 1 [t, .int .i64 k] (by simp) hc (by intro z hz; simp at hz; rcases hz with rfl | rfl; exact h1; rfl) (by unfold maxLen; omega) (by omega) hbase
  obtain ⟨a', c', rfl⟩ := owns_slice h2
  have key : Rws w' base (.slice a' (ds.length + 1) c') M := by
    rw [← hM]
    obtain ⟨m, hm1, hm2⟩ : ∃ m, m < tb ∧ ∀ g, (Value.slice sa ds.length sc).ownBlock = some g → m = g := by
      cases e : (Value.slice sa ds.length sc).ownBlock with
      | none => exact ⟨0, had0, fun g e => by cases e⟩
      | some g => exact ⟨g, had g e, fun g' e => by simpa using e⟩
    exact hown.app h2 h3 h5 (hI m hm1) hm2
  unfold Oper.wp execOp
  simp only [ho, resolve, invoke, builtin, Sem.run_bind, Sem.run_pure, Result.andThen_ok, List.map_toArray, List.map_cons, List.map_nil, hs, hx, hr]
  exact hK' _ _ (h a' c' w' key ((Below.refl _ _).grown h3 hbase (owns_block hown.1)))

set_option maxHeartbeats 1000000 in
set_option maxRecDepth 100000 in
theorem rmade_any (B : Nat) (v : Value) (ws : List Int) (w : World) (h : Num w B v ws) (hB : B ≤ w.heap.size) (hl8 : ws.length ≤ 8) (l : List Pt) (er : Int) (hr : makeT (numP ws) = (l, er)) :
    Calls Try.prog 30 #[v] w fun e w' => ∃ v' us, e = .returned (.tuple #[v', .int .i64 er]) ∧ rd us = l ∧ OwnN w' w.heap.size v' us ∧ Below w.heap.size w w' := by
  have HN : Hid (Num w B v ws) := h
  have HR : Hid (makeT (numP ws) = (l, er)) := hr
  obtain ⟨a, c, rfl, hc, hl, _⟩ := h
  clear hr
  go_enter Try.func30, Try.ntmps30
  go_wp2
  go_loopw [4, 9] (fun pv iv wr => ∃ (i : Nat) (ds : List Tr), i ≤ ws.length ∧ iv = .int .i64 (i : Int) ∧ ds.length = i ∧ Hid (rd ds = (numP ws).take i) ∧ Hid (Rws wr w.heap.size pv ds) ∧ Below w.heap.size w wr) (fun _ iv _ => ws.length - (intOf iv).toNat)
  case atStart => exact ⟨0, [], Nat.zero_le _, rfl, rfl, (by show _ = _; simp [rd]), Rws.nil _ _, Below.refl _ _⟩
  case round =>
    obtain ⟨i, ds, hi, rfl, hdl, HD, HW, hbl⟩ := hrel
    have HDL : Hid (ds.length = i) := hdl
    obtain ⟨pa, pc, hpv⟩ := HW.out.slice
    rw [hdl] at hpv
    subst hpv
    clear hdl
    by_cases h1 : i < ws.length
    · obtain ⟨b, o, c', x, he, _, hbB, hx, hcx⟩ := (HN.out.at hB hbl).get h1
      simp only [Value.slice.injEq] at he
      obtain ⟨rfl, -, rfl⟩ := he
      have HX : Hid (ws[i]? = some x) := hx
      obtain ⟨M, hM⟩ : ∃ M, ds ++ [((.slice (some ⟨wr.heap.size, 0, none⟩) 1 1, [(i : Int)], x) : Tr)] = M := ⟨_, rfl⟩
      have HM : Hid (M.length = i + 1 ∧ rd M = (numP ws).take (i + 1)) := by
        refine ⟨by rw [← hM, List.length_append, HDL.out]; rfl, ?_⟩
        rw [← hM, rd_append, HD.out, List.take_add_one, num_take HX.out]
        rfl
      have HMM : Hid (ds ++ [((.slice (some ⟨wr.heap.size, 0, none⟩) 1 1, [(i : Int)], x) : Tr)] = M) := hM
      have hbs := hbl.size
      have hpl := HW.out.lt
      have HPL : Hid (∀ g, (Value.slice pa i pc).ownBlock = some g → g < wr.heap.size) := fun g e => (hpl g e).2
      have HWA : Hid (∀ O O', Rws ((wr.alloc O).alloc O') w.heap.size (.slice pa i pc) ds) := fun O O' => HW.out.keep (bal (ba _ _) _)
      clear hx hM hpl
      go_wp2_with (at_builtin; refine wpList_rws _ rfl _ _ rfl w.heap.size i pa pc ds M rfl HDL.out (HWA.out _ _) ⟨wr.heap.size + 1, 0, none⟩ rfl (.slice (some ⟨wr.heap.size, 0, none⟩) 1 1) [(i : Int)] x ?q1 rfl wr.heap.size ?q2 HPL.out (by omega) HMM.out (by omega) (by simp; omega) (i + 1) rfl ?_)
      case q1 =>
        intro j u hj
        match j, hj with
        | 0, hj => simp at hj; subst hj; simp [go_sem, Addr.add]
        | 1, hj => simp at hj; subst hj; simp [go_sem, Addr.add]
      case q2 =>
        intro m hm
        refine ⟨_, 1, rfl, Nat.le_refl _, by simp, fun _ => ⟨wr.heap.size, 0, rfl, ?_, ?_, fun j z hj => ?_⟩⟩
        · first | (simp; done) | (simp; omega) | omega
        · omega
        · match j, hj with
          | 0, hj => simp at hj; subst hj; simp [go_sem]
      intro a2 c2 w2 hown hb2
      have HB2 : Hid (Below w.heap.size w w2) := (bal (bal hbl _) _).trans hb2
      have HO2 : Hid (Rws w2 w.heap.size (.slice a2 (i + 1) c2) M) := hown
      clear hown hb2 HWA HPL HMM HW
      go_wp2
      go_roundw
      case rel => exact ⟨i + 1, M, h1, by go_num, HM.out.1, HM.out.2, HO2, HB2.out⟩
      case measure => simp [intOf]; omega
    · have HP2 : Hid (Parts wr wr.heap.size (.slice pa i pc) ds) := HW.out.parts (by have := HDL.out; omega)
      have kc := makeR_any wr.heap.size (.slice pa i pc) ds wr (Nat.le_refl _) HP2.out l er (by rw [HD.out, List.take_of_length_le (by rw [num_plen]; omega)]; exact HR.out)
      have hbs := hbl.size
      clear HW HD HP2
      go_wp2_with fail
      refine kc.mono ?_
      rintro e w5 ⟨v5, us, rfl, k1, k2, k3⟩
      obtain ⟨b5, d5, rfl⟩ := k2.slice
      clear kc
      go_wp2
      exact bodyPost_ret (v := .tuple #[.slice b5 us.length d5, .int .i64 er]) (by simp [results, Try.results30, go_sem]) rfl ⟨_, us, rfl, k1, k2.mono hbs, bt hbl k3⟩
end Go.Proofs.Ythmkbkombjhaeaa

namespace Go.Proofs.Ythmkbkombjhaeaa
open Go.RowKit Go.Proofs.Ythmkbkombjhaeaa.Ds

set_option maxHeartbeats 400000 in
theorem right_any (u d : Int) (b : Bool) (hb : Rt.rightB u d = b) (w : World) :
    Calls Try.prog 43 #[rv u d] w fun e w' => e = .returned (.bool b) ∧ Below w.heap.size w w' := by
  have HB : Hid (Rt.rightB u d = b) := hb
  clear hb
  by_cases c : 0 ≤ u ∧ u ≤ 1073741824 ∧ 1 ≤ d ∧ d ≤ 1073741824
  · obtain ⟨c1, c2, c3, c4⟩ := c
    obtain ⟨x, rfl⟩ := Int.eq_ofNat_of_zero_le c1
    obtain ⟨y, rfl⟩ := Int.eq_ofNat_of_zero_le (show 0 ≤ d by omega)
    have hbb : b = (((Nat.gcd x y : Nat) : Int) == 1) := by
      rw [← HB.out]; unfold Rt.rightB; rw [Bool.eq_iff_iff]; simp [Rt.mx]; omega
    subst hbb
    clear HB
    go_enter Try.func43, Try.ntmps43
    go_wp2_with (go_at_call 51; refine (divisor_any _ _ (by omega) (by omega) _).mono ?_; rintro e w' ⟨rfl, hbl⟩)
    go_ret
    exact ⟨rfl, bt (ba _ _) hbl⟩
  · have hbb : b = false := by
      rw [← HB.out]; unfold Rt.rightB Rt.mx; exact decide_eq_false (fun h => c ⟨h.1, h.2.1, h.2.2.1, h.2.2.2.1⟩)
    subst hbb
    clear HB
    by_cases c1 : u < 0
    · clear c
      go_enter Try.func43, Try.ntmps43
      go_wp2
      go_ret
      exact ⟨rfl, ba _ _⟩
    by_cases c2 : 1073741824 < u
    · clear c
      go_enter Try.func43, Try.ntmps43
      go_wp2
      go_ret
      exact ⟨rfl, ba _ _⟩
    by_cases c3 : d < 1
    · clear c
      go_enter Try.func43, Try.ntmps43
      go_wp2
      go_ret
      exact ⟨rfl, ba _ _⟩
    · have c4 : 1073741824 < d := by omega
      clear c
      go_enter Try.func43, Try.ntmps43
      go_wp2
      go_ret
      exact ⟨rfl, ba _ _⟩

set_option maxHeartbeats 400000 in
theorem refRight_any (u d : Int) (b : Bool) (hb : Rt.rightB u d = b) (w : World) :
    Calls Try.prog 40 #[rv u d] w fun e w' => e = .returned (.bool b) ∧ Below w.heap.size w w' := by
  have HB : Hid (Rt.rightB u d = b) := hb
  clear hb
  by_cases c : 0 ≤ u ∧ u ≤ 1073741824 ∧ 1 ≤ d ∧ d ≤ 1073741824
  · obtain ⟨c1, c2, c3, c4⟩ := c
    obtain ⟨x, rfl⟩ := Int.eq_ofNat_of_zero_le c1
    obtain ⟨y, rfl⟩ := Int.eq_ofNat_of_zero_le (show 0 ≤ d by omega)
    have hbb : b = (((Nat.gcd x y : Nat) : Int) == 1) := by
      rw [← HB.out]; unfold Rt.rightB; rw [Bool.eq_iff_iff]; simp [Rt.mx]; omega
    subst hbb
    clear HB
    go_enter Try.func40, Try.ntmps40
    go_wp2_with (go_at_call 54; refine (refDivisor_any _ _ (by omega) (by omega) (by omega) _).mono ?_; rintro e w' ⟨rfl, rfl⟩)
    go_ret
    exact ⟨rfl, ba _ _⟩
  · have hbb : b = false := by
      rw [← HB.out]; unfold Rt.rightB Rt.mx; exact decide_eq_false (fun h => c ⟨h.1, h.2.1, h.2.2.1, h.2.2.2.1⟩)
    subst hbb
    clear HB
    by_cases c1 : u < 0
    · clear c
      go_enter Try.func40, Try.ntmps40
      go_wp2
      go_ret
      exact ⟨rfl, ba _ _⟩
    by_cases c3 : d < 1
    · clear c
      go_enter Try.func40, Try.ntmps40
      go_wp2
      go_ret
      exact ⟨rfl, ba _ _⟩
    by_cases c2 : 1073741824 < u
    · clear c
      go_enter Try.func40, Try.ntmps40
      go_wp2
      go_ret
      exact ⟨rfl, ba _ _⟩
    · have c4 : 1073741824 < d := by omega
      clear c
      go_enter Try.func40, Try.ntmps40
      go_wp2
      go_ret
      exact ⟨rfl, ba _ _⟩

end Go.Proofs.Ythmkbkombjhaeaa

namespace Go.Proofs.Ythmkbkombjhaeaa
open Go.RowKit Go.Proofs.Ythmkbkombjhaeaa.Ds

/-- what is wrong -/
def choE (u d : Int) (l : List Int) : Int :=
  if Rt.rightB u d = true then
    if u < d then 3 else if l.length < 1 ∨ 8 < l.length then 5
    else if l.all (fun n => decide (-1073741824 ≤ n ∧ n ≤ 1073741824)) = true then (if l.all (fun n => decide (mxI l - n ≤ 64)) = true then 0 else 3) else 3
  else 2
theorem cho_ok {u d : Int} {l : List Int} (h : choE u d l = 0) : Rt.rightB u d = true ∧ d ≤ u ∧ 1 ≤ d ∧ 1 ≤ l.length ∧ l.length ≤ 8 ∧ (∀ n ∈ l, -1073741824 ≤ n ∧ n ≤ 1073741824) ∧ ∀ n ∈ l, mxI l - n ≤ 64 := by
  unfold choE at h
  split at h
  · rename_i h1
    have hb := Rt.right_bd h1
    split at h
    · omega
    · split at h
      · omega
      · split at h
        · rename_i h4
          split at h
          · rename_i h5
            rw [List.all_eq_true] at h4 h5
            exact ⟨h1, by omega, by omega, by omega, by omega, fun n hn => of_decide_eq_true (h4 n hn), fun n hn => of_decide_eq_true (h5 n hn)⟩
          · omega
        · omega
  · omega
/-- numbers with their weights -/
def numL (n : Nat) (g : Nat → Int) : List Pt := (List.range n).map fun (i : Nat) => ([(i : Int)], g i)
/-- Weigh -/
def weighT (u d : Int) (l : List Int) : List Pt × Int :=
  if choE u d l ≠ 0 then ([], choE u d l) else if 1073741824 < Ps.sumI (wgW u d (belT l)) (List.range l.length) then ([], 4) else makeT (numL l.length (wgW u d (belT l)))
/-- Flip -/
def flipT (u d : Int) (l : List Int) : List Pt × Int :=
  if choE u d l ≠ 0 then ([], choE u d l) else if 1073741824 < (Ps.fact l.length : Int) * Ps.pI (fun j => u ^ (belT l).getD j 0) (List.range l.length) then ([], 4) else makeT (numL l.length (Ps.flW u d (belT l)))
theorem cho_bad {u d : Int} {l : List Int} (h1 : Rt.rightB u d = true) (h2 : ¬ u < d) (h3 : 1 ≤ l.length) (h4 : l.length ≤ 8) (h : l.any badB = true) : choE u d l = 3 := by
  unfold choE
  rw [if_pos h1, if_neg h2, if_neg (by omega), if_neg]
  intro ha
  rw [List.all_eq_true] at ha
  obtain ⟨n, hn, hb⟩ := List.any_eq_true.1 h
  have := of_decide_eq_true (ha n hn)
  have hb' := of_decide_eq_true hb
  omega
theorem cho_all {l : List Int} (h : l.any badB = false) : ∀ n ∈ l, -1073741824 ≤ n ∧ n ≤ 1073741824 := by
  intro n hn
  rw [List.any_eq_false] at h
  have := h n hn
  unfold badB at this
  simp at this
  omega
theorem cho_rest {u d : Int} {l : List Int} (h1 : Rt.rightB u d = true) (h2 : ¬ u < d) (h3 : 1 ≤ l.length) (h4 : l.length ≤ 8) (h : l.any badB = false) : choE u d l = if 64 < mxI (farI l) then 3 else 0 := by
  have ha := cho_all h
  have hne : l ≠ [] := by intro e; rw [e] at h3; simp at h3
  have hnf : farI l ≠ [] := by intro e; have := congrArg List.length e; rw [farI_len] at this; simp at this; exact hne this
  unfold choE
  rw [if_pos h1, if_neg h2, if_neg (by omega), if_pos (by rw [List.all_eq_true]; exact fun n hn => decide_eq_true (ha n hn))]
  have key : (l.all (fun n => decide (mxI l - n ≤ 64)) = true) ↔ ¬ 64 < mxI (farI l) := by
    rw [Int.not_lt, mxI_iff hnf, List.all_eq_true]
    constructor
    · intro h n hn
      obtain ⟨m, hm, rfl⟩ := List.mem_map.1 hn
      exact of_decide_eq_true (h m hm)
    · intro h n hn
      exact decide_eq_true (h _ (List.mem_map.2 ⟨n, hn, rfl⟩))
  by_cases c : 64 < mxI (farI l)
  · rw [if_pos c, if_neg fun h => key.1 h c]
  · rw [if_neg c, if_pos (key.2 c)]
end Go.Proofs.Ythmkbkombjhaeaa

namespace Go.Proofs.Ythmkbkombjhaeaa
open Go.RowKit Go.Proofs.Ythmkbkombjhaeaa.Ds

/-- none of those ahead of k is bad -/
def Non (xs : List Int) (k : Nat) : Prop := (xs.take k).any badB = false
theorem Non.step {xs : List Int} {k : Nat} {x : Int} (h : Non xs k) (hx : xs[k]? = some x) (hb : badB x = false) : Non xs (k + 1) := by
  unfold Non at *
  rw [List.take_add_one, hx, List.any_append, h]
  simp [hb]
theorem Non.hit {xs : List Int} {k : Nat} {x : Int} (hx : xs[k]? = some x) (hb : badB x = true) : xs.any badB = true :=
  List.any_eq_true.2 ⟨x, List.mem_of_getElem? hx, hb⟩
theorem Non.all {xs : List Int} {k : Nat} (h : Non xs k) (hk : xs.length ≤ k) : xs.any badB = false := by
  unfold Non at h
  rwa [List.take_of_length_le hk] at h

set_option maxHeartbeats 400000 in
theorem indexBad_any (B : Nat) (v : Value) (xs : List Int) (w : World) (h : Num w B v xs) (r : Bool) (hr : xs.any badB = r) :
    Calls Try.prog 60 #[v, .func (.func 45) #[] #[]] w fun e w' => ∃ k : Int, e = .returned (.int .i64 k) ∧ decide (0 ≤ k) = r ∧ k < 9223372036854775807 ∧ w' = w := by
  have HN : Hid (Num w B v xs) := h
  have HR : Hid (xs.any badB = r) := hr
  obtain ⟨a, c, rfl, hc, hl, _⟩ := h
  clear hr
  go_enter Try.func60, Try.ntmps60
  go_wp2
  go_loop [8] (fun i => ∃ k : Nat, k ≤ xs.length ∧ Hid (Non xs k) ∧ i = .int .i64 (k : Int)) (fun i => xs.length - (intOf i).toNat)
  case atStart => exact ⟨0, Nat.zero_le _, rfl, rfl⟩
  case round =>
    obtain ⟨k, hk, HK, rfl⟩ := hrel
    by_cases h1 : k < xs.length
    · obtain ⟨b, o, c', x, he, _, _, hx, hcx⟩ := HN.out.get h1
      simp only [Value.slice.injEq] at he
      obtain ⟨rfl, _, rfl⟩ := he
      obtain ⟨q, hq⟩ : ∃ q, badB x = q := ⟨_, rfl⟩
      have kc := noScore_any x q hq w
      cases q with
      | true =>
        have hr : r = true := by rw [← HR.out]; exact Non.hit hx hq
        subst hr
        clear hx hq HR HK
        go_wp2_with fail
        refine kc.mono ?_
        rintro e w1 ⟨rfl, rfl⟩
        clear kc
        go_wp2
        go_ret
        exact ⟨k, rfl, by simp, by omega, rfl⟩
      | false =>
        have HS : Hid (Non xs (k + 1)) := HK.out.step hx hq
        clear hx hq HK
        go_wp2_with fail
        refine kc.mono ?_
        rintro e w1 ⟨rfl, rfl⟩
        clear kc
        go_wp2
        go_round
        case rel => exact ⟨k + 1, h1, HS, by go_num⟩
        case measure => simp [intOf]; omega
    · have hr : r = false := by rw [← HR.out]; exact HK.out.all (by omega)
      subst hr
      clear HR HK
      go_wp2
      go_ret
      exact ⟨-1, rfl, by simp, by omega, rfl⟩
theorem containsBad_any (B : Nat) (v : Value) (xs : List Int) (w : World) (h : Num w B v xs) (r : Bool) (hr : xs.any badB = r) :
    Calls Try.prog 44 #[v, .func (.func 45) #[] #[]] w fun e w' => e = .returned (.bool r) ∧ w' = w := by
  have kc := indexBad_any B v xs w h r hr
  obtain ⟨a, c, rfl, hc, hl, _⟩ := h
  clear hr
  go_enter Try.func44, Try.ntmps44
  go_wp2_with fail
  refine kc.mono ?_
  rintro e w1 ⟨k, rfl, hk, hk2, rfl⟩
  clear kc
  subst hk
  by_cases c : 0 ≤ k
  · go_wp2
    go_ret
    exact ⟨ret_b (by simp [c]), rfl⟩
  · go_wp2
    go_ret
    exact ⟨ret_b (by simp), rfl⟩
end Go.Proofs.Ythmkbkombjhaeaa
