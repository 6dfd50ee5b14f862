import Derived.Test.YtcglfojbgdlbhaaRkp
import Derived.Lib.AppendZerosOnto
import Derived.Deep.Upon
namespace Go.Proofs.Ytcglfojbgdlbhaa
open Go.RowKit Go.Proofs.Ytcglfojbgdlbhaa.Ds

set_option maxHeartbeats 1000000 in
set_option maxRecDepth 100000 in
theorem grow_any (n : Nat) (hn : n ≤ 1073741824) (w : World) :
    Calls Try.prog 102 #[.slice none 0 0, .int .i64 (n : Int)] w fun e w' => ∃ v', e = .returned v' ∧ w'.ownsRow w.heap.size 3 1 v' 0 [] ∧ Below w.heap.size w w' := by
  obtain ⟨i0, hi, hz0, hz1, hz2⟩ := info_parts info3
  by_cases h0 : n = 0
  · subst h0
    go_enter Try.func102, Try.ntmps102
    go_wp2
    go_ret
    exact ⟨_, rfl, ⟨rfl, .inl ⟨rfl, rfl⟩⟩, Below.refl _ _⟩
  · have hrz := fun ty => Lib.run_append_nil_zeros (P := Try.prog) w 24 3 ty 3 i0 (.int .i64 0) .i64 .i64 Try.underlying24 Try.underlying3 hi hz0 n (by omega) (by omega) (by omega) (by rw [hz2]; omega)
    have hGn : n ≤ grownCap w n 0 3 := grownCap_ge w _ _ _
    have hGm : grownCap w n 0 3 ≤ maxLen := grownCap_le_maxLen w n 0 3 (by unfold maxLen; omega)
    obtain ⟨G, hG⟩ : ∃ G, grownCap w n 0 3 = G := ⟨_, rfl⟩
    rw [hG] at hrz hGn hGm
    obtain ⟨cur, hcur⟩ : ∃ cur, Builtin.zeroCells (Value.int .i64 0).cells n ++ Builtin.zeroCells (Value.int .i64 0).cells (G - n) = cur := ⟨_, rfl⟩
    rw [hcur] at hrz
    have hcs : cur.size = G * 1 := by rw [← hcur]; simp [Builtin.zeroCells, Value.cells]; omega
    have HO : Hid ((w.drew.alloc (.cells cur 3)).ownsRow w.heap.size 3 1 (.slice (some ⟨w.heap.size, 0, none⟩) 0 G) 0 []) :=
      ⟨rfl, .inr ⟨w.heap.size, G, cur, rfl, Nat.le_refl _, World.alloc_heap_new w.drew _, Nat.zero_le _, hGm, hcs, by simp⟩⟩
    have h1 : ¬ ((n : Int) < 0) := by omega
    have h4 : (0 : Int) < (n : Int) := by omega
    have hG63 : G ≤ 9223372036854775807 := by unfold maxLen at hGm; omega
    clear hG hcur
    go_enter Try.func102, Try.ntmps102
    go_wp2_with (at_builtin; refine Lib.wpList_append_run _ rfl _ _ _ _ rfl _ _ rfl rfl _ _ (hrz _) ?_)
    go_ret
    exact ⟨_, rfl, HO.out, bal (Below.refl _ _).drew _⟩

theorem app0 (w : World) (ty : TypeId) (base a : Option Addr) (sLen sCap c : Nat) (hle : sLen ≤ sCap) (i0 : TypeInfo) (hi : Try.prog.info? 3 = some i0) (hz1 : i0.size = 1) : (Builtin.append_ #[24, 24] ty #[.slice base sLen sCap, .slice a 0 c]).run Try.prog w = .ok (.slice base sLen sCap) w := by
  refine run_append_nothing (P := Try.prog) w 24 24 ty 3 i0 Try.underlying24 hi base sLen sCap hle (.slice a 0 c) ?_
  rw [hz1]
  have key : ∀ W : World, (Builtin.firstCells 1 0 (.slice a 0 c)).run Try.prog W = .ok ([] : List Value).toArray W := by
    intro W
    cases a with
    | none => exact run_firstCells_none W 1 0 0 c
    | some ad => exact run_firstCells_some W 1 0 ad 0 c [] rfl (by simp)
  exact ⟨.inl ⟨3, Try.underlying24⟩, fun w' => by simp [Builtin.lenOf], key w, key w.drew, rfl, by simp⟩
theorem owns_le {w : World} {base : Nat} {e : TypeId} {size : Nat} {a : Option Addr} {n c : Nat} {xs : List Value} (h : w.ownsRow base e size (.slice a n c) n xs) : n ≤ c := by
  rcases h.2 with ⟨h1, h2⟩ | ⟨g, cap, cur, h1, _, _, h2, _⟩
  · simp only [Value.slice.injEq] at h1; omega
  · simp only [Value.slice.injEq] at h1; omega

/-- all of them, one behind the other -/
def cat (zs : List Vl) : List Int := zs.flatMap (·.2)
theorem cat_take {zs : List Vl} {i : Nat} {z : Vl} (h : zs[i]? = some z) : cat (zs.take (i + 1)) = cat (zs.take i) ++ z.2 := by
  unfold cat
  rw [List.take_add_one, h]
  simp

set_option maxHeartbeats 2000000 in
set_option maxRecDepth 100000 in
theorem concat_any (C : Nat) (v : Value) (zs : List Vl) (w : World) (hC : C ≤ w.heap.size) (hp : Lsts w C v zs) (hz : zs.length ≤ 1073741824) (hs : (cat zs).length ≤ 1073741824) :
    Calls Try.prog 91 #[v] w fun e w' => ∃ v', e = .returned v' ∧ (∀ m, m < w.heap.size → Ints w' w'.heap.size m v' (cat zs)) ∧ Below w.heap.size w w' := by
  have HP : Hid (Lsts w C v zs) := hp
  obtain ⟨a, c, rfl, hcc, _, _⟩ := hp
  obtain ⟨i0, hi, hz0, hz1, hz2⟩ := info_parts info3
  have hlen : ∀ i, (cat (zs.take i)).length ≤ 1073741824 := by
    intro i
    have e : cat zs = cat (zs.take i) ++ cat (zs.drop i) := by unfold cat; rw [← List.flatMap_append, List.take_append_drop]
    rw [e, List.length_append] at hs
    omega
  have HLN : Hid (∀ i, (cat (zs.take i)).length ≤ 1073741824) := hlen
  clear hlen
  go_enter Try.func91, Try.ntmps91
  go_wp2
  go_loopw [3, 11] (fun s u wr => ∃ i n : Nat, u = .int .i64 (i : Int) ∧ s = .int .i64 (n : Int) ∧ i ≤ zs.length ∧ n ≤ 1073741824 ∧ Hid ((cat (zs.take i)).length = n) ∧ Below w.heap.size w wr) (fun _ u _ => zs.length - (intOf u).toNat)
  case atStart => exact ⟨0, 0, rfl, rfl, Nat.zero_le _, by omega, by simp [Hid, cat], Below.refl _ _⟩
  case round =>
    obtain ⟨i, n, rfl, rfl, hit, hn, HN, hbl⟩ := hrel
    by_cases h1 : i < zs.length
    · obtain ⟨b, o, sa, sc, xs, rfl, hb, hsg, d1, hI⟩ := HP.out.get hC hbl h1
      have hn2 : n + xs.length ≤ 1073741824 := by
        have h5 := HLN.out (i + 1)
        rw [cat_take hsg, List.length_append, HN.out] at h5
        exact h5
      have HN2 : Hid ((cat (zs.take (i + 1))).length = n + xs.length) := by rw [Hid, cat_take hsg, List.length_append, HN.out]
      have hneg : ¬ ((n : Int) + (xs.length : Int) < 0) := by omega
      clear hsg hI
      go_wp2
      go_roundw
      case rel => exact ⟨i + 1, n + xs.length, by go_num, by go_num, h1, hn2, HN2, hbl⟩
      case measure => simp [intOf]; omega
    · have kg := grow_any n hn wr
      go_wp2_with fail
      refine kg.mono ?_
      rintro e w1 ⟨v1, rfl, ho1, hb1⟩
      obtain ⟨va, vc, rfl⟩ := owns_slice ho1
      have b1 : Below w.heap.size w w1 := bt hbl hb1
      have HO1 : Hid (w1.ownsRow w.heap.size 3 1 (.slice va 0 vc) 0 []) := ⟨ho1.1, ho1.2.imp id fun ⟨g, cap, cur, h1, h2, h3⟩ => ⟨g, cap, cur, h1, Nat.le_trans hbl.size h2, h3⟩⟩
      clear kg ho1
      go_wp2
      go_loopw [6, 27] (fun pv u wq => ∃ (j : Nat), u = .int .i64 (j : Int) ∧ j ≤ zs.length ∧ Hid (wq.ownsRow w.heap.size 3 1 pv (cat (zs.take j)).length ((cat (zs.take j)).map (Value.int .i64))) ∧ Below w.heap.size w wq) (fun _ u _ => zs.length - (intOf u).toNat)
      case atStart => exact ⟨0, rfl, Nat.zero_le _, by simpa [Hid, cat] using HO1.out, b1⟩
      case round =>
        obtain ⟨j, rfl, hjt, HR, hbq⟩ := hrel
        have hqs := hbq.size
        obtain ⟨pa, pc, rfl⟩ := owns_slice HR.out
        obtain ⟨P, hP⟩ : ∃ P, (cat (zs.take j)).length = P := ⟨_, rfl⟩
        rw [hP] at HR ⊢
        have HPB : Hid (P ≤ 1073741824 ∧ (cat (zs.take j)).length = P) := ⟨by rw [← hP]; exact HLN.out j, hP⟩
        clear hP
        by_cases h2 : j < zs.length
        · obtain ⟨b, o, sa, sc, xs, rfl, hb, hsg, d1, hI⟩ := HP.out.get hC hbq h2
          have hn2 : P + xs.length ≤ 1073741824 := by
            have h5 := HLN.out (j + 1)
            rw [cat_take hsg, List.length_append, HPB.out.2] at h5
            exact h5
          have HCT : Hid (cat (zs.take (j + 1)) = cat (zs.take j) ++ xs) := cat_take hsg
          by_cases hx : xs = []
          · subst hx
            have hle := owns_le HR.out
            have hap := fun (W : World) ty => app0 W ty pa sa P pc sc hle i0 hi hz1
            have HR2 : Hid (wr.ownsRow w.heap.size 3 1 (.slice pa P pc) (cat (zs.take (j + 1))).length ((cat (zs.take (j + 1))).map (Value.int .i64))) := by rw [Hid, HCT.out, List.append_nil, HPB.out.2]; exact HR.out
            clear hsg hI HR hle
            go_wp2_with (at_builtin; refine Lib.wpList_append_run _ rfl _ _ _ _ rfl _ _ rfl rfl _ _ (hap _ _) ?_)
            go_roundw
            case rel => exact ⟨j + 1, by go_num, h2, HR2, hbq⟩
            case measure => simp [intOf]; omega
          · obtain ⟨sa', sc', hv, hscc, _, hxx⟩ := hI
            simp only [Value.slice.injEq] at hv
            obtain ⟨rfl, _, rfl⟩ := hv
            obtain ⟨b', o', rfl, hb', _, hcell⟩ := hxx hx
            have HCE : Hid (∀ m u, (xs.map (Value.int .i64))[m]? = some u → wr.cell? ((⟨b', o', none⟩ : Addr).add m) = some u) := by
              intro m u hm
              have hlt : m < xs.length := by have := (List.getElem?_eq_some_iff.1 hm).1; simpa using this
              obtain ⟨x, hx2⟩ := get_lt hlt
              rw [Addr.add_lit, hcell m x hx2]
              simpa [hx2] using hm
            clear hsg hxx hcell
            go_wp2_with (at_builtin; refine wpList_append_own _ rfl _ _ 24 rfl w.heap.size 3 i0 (.int .i64 0) 1 8 Try.underlying24 hi hz0 hz1 hz2 rfl (by decide) _ _ _ rfl HR.out ⟨b', o', none⟩ xs.length sc (xs.map (Value.int .i64)) rfl ?q1 ?q2 ?q3 ?q4 ?q5 ?q6 ?_)
            case q1 => simp
            case q2 => exact HCE.out
            case q3 => intro u hu; obtain ⟨x, _, rfl⟩ := List.mem_map.1 hu; rfl
            case q4 => unfold maxLen; omega
            case q5 => omega
            case q6 => omega
            intro v2 w2 hown hgrow _
            have HR2 : Hid (w2.ownsRow w.heap.size 3 1 v2 (cat (zs.take (j + 1))).length ((cat (zs.take (j + 1))).map (Value.int .i64))) := by
              rw [Hid, HCT.out, List.length_append, HPB.out.2, List.map_append]; exact hown
            have B2 : Below w.heap.size w w2 := hbq.grown hgrow hqs (owns_block HR.out)
            obtain ⟨a2, c2, hv2⟩ := owns_slice hown
            subst hv2
            clear hown hgrow HR
            go_wp2
            go_roundw
            case rel => exact ⟨j + 1, by go_num, h2, HR2, B2⟩
            case measure => simp [intOf]; omega
        · have htk : zs.take j = zs := List.take_of_length_le (by omega)
          have HF : Hid (∀ m, m < w.heap.size → Ints wr wr.heap.size m (.slice pa P pc) (cat zs)) := by
            intro m hm
            have h5 := HR.out
            rw [htk] at h5
            have h6 := HPB.out.2
            rw [htk] at h6
            exact ints_of_owns h6.symm hs h5 hm
          clear htk HR
          go_wp2
          go_ret
          exact ⟨_, rfl, HF.out, hbq⟩
end Go.Proofs.Ytcglfojbgdlbhaa
