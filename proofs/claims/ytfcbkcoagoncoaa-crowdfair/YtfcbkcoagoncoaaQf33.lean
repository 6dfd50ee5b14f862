import Derived.Test.YtfcbkcoagoncoaaQf30
import Derived.Test.YtfcbkcoagoncoaaQf32
namespace Go.Proofs.Ytfcbkcoagoncoaa
open Go.RowKit Go.Proofs.Ytfcbkcoagoncoaa.Ds

/-- one more number of one's own -/
theorem num_one (w : World) (x : Int) : Num (w.alloc (.cells #[.int .i64 x] 3)) (w.heap.size + 1) (.slice (some ⟨w.heap.size, 0, none⟩) 1 1) [x] := by
  refine ⟨_, 1, rfl, Nat.le_refl _, by simp, fun _ => ⟨w.heap.size, 0, rfl, by omega, fun i z hi => ?_⟩⟩
  match i, hi with
  | 0, hi => simp at hi; subst hi; simp [go_sem]
/-- numbers of one's own that grow -/
def Ow (w : World) (lo : Nat) (v : Value) (xs : List Int) : Prop := w.ownsRow lo 3 1 v xs.length (xs.map (Value.int .i64))
theorem Ow.nil (w : World) (lo : Nat) : Ow w lo (.slice none 0 0) [] := ⟨rfl, .inl ⟨rfl, rfl⟩⟩
theorem Ow.keep {w w' : World} {lo : Nat} {v : Value} {xs : List Int} (h : Ow w lo v xs) (hb : Below w.heap.size w w') : Ow w' lo v xs := owns_below h hb
theorem Ow.slice {w : World} {lo : Nat} {v : Value} {xs : List Int} (h : Ow w lo v xs) : ∃ a c, v = .slice a xs.length c := owns_slice h
theorem Ow.num {w : World} {lo : Nat} {v : Value} {xs : List Int} (h : Ow w lo v xs) (hl : xs.length ≤ 1073741824) : Num w w.heap.size v xs := by
  by_cases hv : v = .slice none 0 0
  · subst hv
    obtain ⟨a, c, e⟩ := h.slice
    simp only [Value.slice.injEq] at e
    obtain rfl := List.length_eq_zero_iff.1 e.2.1.symm
    exact ⟨none, 0, rfl, Nat.le_refl _, by simp, fun h => absurd rfl h⟩
  · obtain ⟨g, cap, rfl, hcap, _, hr⟩ := rowi_of_owns rfl h hv
    exact ⟨_, _, rfl, hcap, by omega, fun _ => ⟨g, 0, rfl, hr.lt, fun i x hi => by rw [Nat.zero_add]; exact hr.cells i x hi⟩⟩

/-- append to numbers of one's own -/
theorem wpList_ow {ops : Array Oper} {rest : List Oper} {o : Oper} {a : Act} {Q : Exit → Act → World → Prop} (w : World) (hgd : o.guard = none) (s x : Operand) (ho : o.op = .call { callee := .builtin .append, args := #[s, x], argTypes := #[24, 24] })
    (base B n : Nat) (sa : Option Addr) (sc : Nat) (L ys M : List Int) (hs : a.eval s = .slice sa n sc) (hn : L.length = n) (hown : Ow w base (.slice sa n sc) L) (u : Value) (hx : a.eval x = u) (hu : Num w B u ys) (hM : L ++ ys = M) (hb : n + ys.length ≤ 17592186044416) (hbase : base ≤ w.heap.size) (n' : Nat) (hn' : n + ys.length = n')
    (h : ∀ a' c' w', Ow w' base (.slice a' n' c') M → w.grownBy w' (Value.slice sa n sc).ownBlock → Below base w w' → wpList Try.prog ops Q rest (a.put o.dst (.slice a' n' c')) w') :
    wpList Try.prog ops Q (o :: rest) a w := by
  subst hn
  refine wpList_app_nums w hgd s x ho base B L.length sa sc L ys hs hown u hx hu hb hbase n' hn' fun a' c' w' h1 h2 _ => h a' c' w' ?_ h2 ?_
  · unfold Ow
    rw [← hM, List.length_append, hn']
    exact h1
  · exact (Below.refl _ _).grown h2 hbase (owns_block hown)
end Go.Proofs.Ytfcbkcoagoncoaa

namespace Go.Proofs.Ytfcbkcoagoncoaa
open Go.RowKit Go.Proofs.Ytfcbkcoagoncoaa.Ds Go.Proofs.Ytfcbkcoagoncoaa.Crd

theorem shu_alive : ∃ l, shuT 2 1 2 [0] = (l, 0) ∧ l.length = 2 := by
  have hp : peoE 2 1 2 [0] = 0 := by decide
  have h1 : shuT 2 1 2 [0] = (cut (dv (expL 2 1 1 (natsT [0]))) (expL 2 1 1 (natsT [0])), 0) := by
    rw [shu_of (k := 1) hp rfl, exp_make (by decide) (by decide) (by decide) (by decide) (by decide) (by decide), if_neg (by decide)]
  exact ⟨_, h1, by decide⟩
/-- alive -/
theorem alive_any (w : World) : Calls Try.prog 12 #[] w fun x w' => x = .returned (.bool true) ∧ Below w.heap.size w w' := by
  obtain ⟨l, hl, hl2⟩ := shu_alive
  have kc := shuffled_any (w.heap.size + 1) 2 1 2 (.slice (some ⟨w.heap.size, 0, none⟩) 1 1) [0] (w.alloc (.cells #[.int .i64 0] 3)) (by simp) (num_one w 0) l 0 hl
  have HL : Hid (l.length = 2) := hl2
  clear hl hl2
  go_enter Try.func12, Try.ntmps12
  go_wp2_with fail
  refine kc.mono ?_
  rintro x w1 ⟨v, us, rfl, hr, ho, hb⟩
  clear kc
  obtain ⟨a, c, rfl⟩ := ho.slice
  have hl : us.length = 2 := by rw [← HL.out, ← hr]; simp [rd]
  have hbw : Below w.heap.size w w1 := bt (ba _ _) hb
  rw [hl]
  clear hr ho hl
  go_wp2
  go_ret
  exact ⟨rfl, hbw⟩
end Go.Proofs.Ytfcbkcoagoncoaa
