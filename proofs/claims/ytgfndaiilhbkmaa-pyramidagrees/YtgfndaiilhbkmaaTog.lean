import Derived.Test.YtgfndaiilhbkmaaBel
namespace Go.Proofs.Ytgfndaiilhbkmaa
open Go.RowKit Go.Shelf Go.Proofs.Ytgfndaiilhbkmaa.Ds
attribute [local go_sem] Oper.semAt_some

theorem wrap_id {a : Int} (h : -9223372036854775808 ≤ a ∧ a ≤ 9223372036854775807) : IntKind.i64.wrap a = a := by
  rw [IntKind.wrap_i64]; omega
theorem wrap_add (a b : Int) : IntKind.i64.wrap (IntKind.i64.wrap a + b) = IntKind.i64.wrap (a + b) := by
  rw [IntKind.wrap_i64, IntKind.wrap_i64, IntKind.wrap_i64]; omega
theorem kdr (W : World) (q : Nat) : KeepsOthers W (W.drewN q) := ⟨Nat.le_refl _, fun _ _ h _ => h⟩
/-- the numbers of some, together -/
def smL (f : Nat → Int) (l : List Nat) : Int := (l.map f).foldl (· + ·) 0
theorem smL_snoc (f : Nat → Int) (l : List Nat) (x : Nat) : smL f (l ++ [x]) = smL f l + f x := by simp [smL]
theorem smL_kids (f : Nat → Int) (w m : Nat) : ∀ k, smL f (kids w m k) = sumN f (w * m + 1) k
  | 0 => rfl
  | k + 1 => by rw [kids_succ, smL_snoc, smL_kids f w m k, sumN]

set_option maxHeartbeats 4000000 in
set_option maxRecDepth 100000 in
theorem together_any (w H k l g n c m : Nat) (f : Nat → Int) (hw : w ≤ 16) (hm : m ≤ 1024) (hk : ∀ j, j < w → w * m + 1 + j < n) (W : World) (hA : Arr W g n f) (s : Int) (hs : sumN f (w * m + 1) w = s) (hs2 : -9223372036854775808 ≤ s ∧ s ≤ 9223372036854775807) :
    Calls Try.prog 36 #[shV w H k l, .slice (some ⟨g, 0, none⟩) n c, .int .i64 (m : Int)] W fun e W' => e = .returned (.int .i64 s) ∧ Below W.heap.size W W' := by
  have HA : Hid (Arr W g n f) := hA
  have HK : Hid (∀ j, j < w → w * m + 1 + j < n) := hk
  have HSM : Hid (sumN f (w * m + 1) w = s) := hs
  have hgW := hA.lt
  clear hA hk hs
  refine (callsIn_wide (n := 5)).1 ?_
  refine callsIn_of_wp_marks Try.func36 rfl trivial ?_ rfl
  simp only [Try.ntmps36, List.size_toArray, List.length_cons, List.length_nil, Nat.reduceAdd, Nat.reduceSub, Array.replicate_succ, Array.replicate_zero, List.push_toArray, List.append_toArray, List.nil_append, List.cons_append]
  gi_wp2_with fail
  refine ⟨trivial, ?_⟩
  refine (below_in _ _ _ _ _ _ _).mono ?_
  rintro e w4 ⟨rfl, hw4⟩
  gi_wp2_with fail
  clear hw4
  obtain ⟨W0, hW0⟩ : ∃ W0, ((((W.alloc (.cells #[.int .i64 (w : Int), .int .i64 (H : Int), .int .i64 (k : Int), .int .i64 (l : Int)] 35)).alloc (.cells #[.slice (some ⟨g, 0, none⟩) n c] 22)).alloc (.cells #[.int .i64 0] 3)).alloc (.cells #[.int .i64 (w : Int), .int .i64 (H : Int), .int .i64 (k : Int), .int .i64 (l : Int)] 35)).alloc (.cells #[.int .i64 (m : Int)] 3) = W0 := ⟨_, rfl⟩
  have hsz : W0.heap.size = W.heap.size + 5 := by rw [← hW0]; simp
  have g1 : Boxed W0 (W.heap.size + 1) 22 (.slice (some ⟨g, 0, none⟩) n c) := by
    rw [← hW0]
    have h := Boxed.new (W.alloc (.cells #[.int .i64 (w : Int), .int .i64 (H : Int), .int .i64 (k : Int), .int .i64 (l : Int)] 35)) 22 (.slice (some ⟨g, 0, none⟩) n c)
    rw [World.size_alloc] at h
    exact ((h.alloc _).alloc _).alloc _
  have g2 : Boxed W0 (W.heap.size + 1 + 1) 3 (.int .i64 0) := by
    rw [← hW0]
    have h := Boxed.new ((W.alloc (.cells #[.int .i64 (w : Int), .int .i64 (H : Int), .int .i64 (k : Int), .int .i64 (l : Int)] 35)).alloc (.cells #[.slice (some ⟨g, 0, none⟩) n c] 22)) 3 (.int .i64 0)
    rw [World.size_alloc, World.size_alloc] at h
    exact (h.alloc _).alloc _
  have g3 : ShB W0 (W.heap.size + 1 + 1 + 1) (.int .i64 (w : Int)) (.int .i64 (H : Int)) (.int .i64 (k : Int)) (.int .i64 (l : Int)) := by
    rw [← hW0]
    exact (ShB.new _ _ _ _ _ _ (by simp)).at (ba _ _)
  have g4 : Boxed W0 (W.heap.size + 1 + 1 + 1 + 1) 3 (.int .i64 (m : Int)) := by
    have h := Boxed.new (((((W.alloc (.cells #[.int .i64 (w : Int), .int .i64 (H : Int), .int .i64 (k : Int), .int .i64 (l : Int)] 35)).alloc (.cells #[.slice (some ⟨g, 0, none⟩) n c] 22)).alloc (.cells #[.int .i64 0] 3)).alloc (.cells #[.int .i64 (w : Int), .int .i64 (H : Int), .int .i64 (k : Int), .int .i64 (l : Int)] 35))) 3 (.int .i64 (m : Int))
    rw [hW0] at h
    simpa using h
  have hbW : Below W.heap.size W W0 := by rw [← hW0]; exact bal (bal (bal (bal (ba _ _) _) _) _) _
  have g5 : Arr W0 g n f := HA.out.at hbW
  rw [hW0]
  clear hW0
  refine wpIn_rangeFunc_ownH rfl (by decide) (gf := 41) (lb := #[.pointer (some ⟨W.heap.size + 1 + 1 + 1, 0, none⟩), .pointer (some ⟨W.heap.size + 1 + 1 + 1 + 1, 0, none⟩)]) rfl trivial (enters_of Try.func41 (by kernel_rfl) rfl)
    (below_stops 4 (by decide) (W.heap.size + 1 + 1 + 1) (W.heap.size + 1 + 1 + 1 + 1) w m _ _ _ hw hm W0 g3 g4) KpS.t ?kb (Below.refl _ _) (fun _ => rfl)
    (fun pre V => Boxed V (W.heap.size + 1 + 1) 3 (.int .i64 (IntKind.i64.wrap (smL f (pre.map (·.1))))) ∧ Boxed V (W.heap.size + 1) 22 (.slice (some ⟨g, 0, none⟩) n c) ∧ Arr V g n f ∧ Below W.heap.size W0 V)
    (fun _ _ _ => False)
    (OwnFrom.and (Own.from (boxed_own _ _ _) _) (OwnFrom.and (Own.from (boxed_own _ _ _) _) (OwnFrom.and (Own.from (arr_own _ _ _) _) (ownFrom_below (by omega) (by omega)))))
    (fun _ _ _ _ _ hs _ _ => hs)
    ⟨by simp [smL]; rw [wrap_id (by omega)]; exact g2, g1, g5, Below.refl _ _⟩
    (fun x act _ => act = { tmps := #[shV w H k l, .slice (some ⟨g, 0, none⟩) n c, .int .i64 (m : Int), .pointer (some ⟨W.heap.size, 0, none⟩), .pointer (some ⟨W.heap.size + 1, 0, none⟩), undef, .int .i64 0, .pointer (some ⟨W.heap.size + 1 + 1, 0, none⟩), .int .i64 (x.1 : Int), .agg #[.int .i64 (w : Int), .int .i64 (H : Int), .int .i64 (k : Int), .int .i64 (l : Int)], .int .i64 (m : Int), .func (.func 41) #[] #[.pointer (some ⟨W.heap.size + 1 + 1 + 1, 0, none⟩), .pointer (some ⟨W.heap.size + 1 + 1 + 1 + 1, 0, none⟩)], .int .i64 (x.1 : Int), undef, undef, undef, undef, undef, undef, undef], defers := [] })
    (fun _ _ _ _ _ _ hs _ _ => hs)
    ?assign ?body ?done ?stop
  case kb =>
    intro V l' o o' hl' h1 _ _
    have := (Array.getElem?_eq_some_iff.1 h1).1
    exact ⟨(grownBy_putObj' V l' o').block _ (by omega) (by simp; omega), (grownBy_putObj' V l' o').block _ (by omega) (by simp; omega)⟩
  case assign =>
    rintro l' pre x V K ⟨b1, b2, b3, hB1⟩ hK
    simp only [encK]
    gi_wp2
    exact hK _ _ ((kdr V 0).from _) ⟨rfl, rfl⟩ ⟨b1, b2, b3, hB1⟩ rfl
  case body =>
    rintro l' pre x act V hl' ⟨r', hr'⟩ ⟨b1, b2, b3, hB1⟩ rfl hlt
    have hs := hB1.size
    obtain ⟨x, hx⟩ := x
    obtain ⟨S, hS⟩ : ∃ S, IntKind.i64.wrap (smL f (pre.map (·.1))) = S := ⟨_, rfl⟩
    have hxn : x < n := by obtain ⟨j, hj, rfl⟩ := hx; exact HK.out j hj
    have HST : Hid (IntKind.i64.wrap (smL f ((pre ++ [(⟨x, hx⟩ : Kid w m)]).map (·.1))) = IntKind.i64.wrap (S + f x)) := by
      rw [Hid, List.map_append]
      simp only [List.map_cons, List.map_nil]
      rw [smL_snoc, ← hS, wrap_add]
    rw [hS] at b1
    obtain ⟨y, hy⟩ : ∃ y, f x = y := ⟨_, rfl⟩
    have cU := b1.cell
    have fU := b1.frozen
    have cT := b2.cell
    have cR := b3.cells x hxn
    rw [hy] at cR HST
    have z1 : (x : Int) < (n : Int) := by omega
    clear hS hy
    obtain ⟨V5, hV5⟩ : ∃ V5, (V.setCell ⟨W.heap.size + 1 + 1, 0, none⟩ (.int .i64 (IntKind.i64.wrap (S + y)))).drew = V5 := ⟨_, rfl⟩
    have g6 : V.grownBy V5 (some (W.heap.size + 1 + 1)) := by rw [← hV5]; exact gb_drew (gb_set (gb_refl _ _) 0 _)
    have k5 : KeepsOthers V V5 := by rw [← hV5]; exact (KeepsOthers.setCell _ _ _).trans (kdr _ 1)
    have b5 : Boxed V5 (W.heap.size + 1 + 1) 3 (.int .i64 (IntKind.i64.wrap (S + y))) := by rw [← hV5]; exact Boxed.set _ b1
    have hs5 := g6.size
    have hB5 : Below W.heap.size W0 V5 := hB1.grown g6 (by omega) (fun k e => by cases e; omega)
    have HV5 : Hid ((V.setCell ⟨W.heap.size + 1 + 1, 0, none⟩ (.int .i64 (IntKind.i64.wrap (S + y)))).drew = V5) := hV5
    clear hV5
    gi_wp2
    refine wpIn_mono (Q := fun e _ w' => e = .normal ∧ w' = (V.setCell ⟨W.heap.size + 1 + 1, 0, none⟩ (.int .i64 (IntKind.i64.wrap (S + y)))).drew) ?reg ?rest
    case reg =>
      gi_region
      all_goals exact ⟨rfl, rfl⟩
    case rest =>
      rintro e a' w' ⟨rfl, rfl⟩
      rw [HV5.out]
      gi_wp2
      exact ⟨k5.from _, ⟨g6.block _ (by omega) (by simp), g6.block _ (by omega) (by simp; omega)⟩, by rw [HST.out]; exact b5, b2.kept g6 (by simp), b3.gb g6 (by intro e; cases e; omega), hB5⟩
  case done =>
    rintro D ys V hD hS ⟨b1, b2, b3, hB1⟩ hK
    rw [hS, smL_kids, HSM.out, wrap_id hs2] at b1
    have cU := b1.cell
    have HK : Hid (V.heap[D]? = some (.deferred (some []))) := hK
    clear hS hK
    gi_wp2
    refine ⟨by simp, .inl ⟨_, _, rfl, run_takeDeferred HK.out, ?_⟩⟩
    exact ⟨.int .i64 s, by simp [results, Try.results36, go_sem], rfl, (hbW.trans hB1).trans (belowK_b (w := W) (Nat.le_refl _) V D _ _ (by omega) HK.out rfl rfl)⟩
  case stop =>
    rintro D c' pre V _ _ h _
    exact h.elim
end Go.Proofs.Ytgfndaiilhbkmaa
