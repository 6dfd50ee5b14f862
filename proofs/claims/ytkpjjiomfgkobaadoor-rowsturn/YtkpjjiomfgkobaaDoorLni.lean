import Derived.Test.YtkpjjiomfgkobaaDoorLin
namespace Go.Proofs.YtkpjjiomfgkobaaDoor
open Go.RowKit Go.Proofs.YtkpjjiomfgkobaaDoor.Ds

theorem itoas_len {l : List Int} (h : ∀ x ∈ l, 0 ≤ x ∧ x ≤ 4096) (h6 : l.length ≤ 6) : (Lib.join (l.map Lib.itoa) [32]).length ≤ 24589 := by
  have := lineT_len (ws := l.map Lib.itoa) (K := 4097) (by intro x hx; obtain ⟨v, hv, rfl⟩ := List.mem_map.1 hx; exact itoa_len (h v hv).1 (h v hv).2) (by simpa using h6)
  simp only [lineT, List.length_append] at this
  omega

set_option maxHeartbeats 1000000 in
theorem lineI_any (B C nb : Nat) (v : Value) (l : List Int) (w : World) (hB : B ≤ w.heap.size) (hC : C ≤ w.heap.size) (hp : Ints w C nb v l) (hpt : PT B w) (h6 : l.length ≤ 6) (hs : ∀ x ∈ l, 0 ≤ x ∧ x ≤ 4096) (t : List UInt8) (ht : lineR l = t) :
    Calls Tryd.prog 18 #[v, .func (.func 16) #[] #[]] w fun e w' => e = .returned (.string (tx t)) ∧ Below w.heap.size w w' := by
  have HP : Hid (Ints w C nb v l) := hp
  have HPT : Hid (PT B w) := hpt
  have HS : Hid (∀ x ∈ l, 0 ≤ x ∧ x ≤ 4096) := hs
  have HT : Hid (lineR l = t) := ht
  obtain ⟨a, c, rfl, hc, hl⟩ := hp.slice
  clear hpt hs ht
  have hmk := make_strs l.length (by omega)
  go_enter Tryd.func18, Tryd.ntmps18
  go_wp2
  go_loopw [13] (fun s wr => ∃ (i : Nat), s = .int .i64 (i : Int) ∧ i ≤ l.length ∧ Hid (RowS wr w.heap.size (wrS (l.map Lib.itoa) l.length i)) ∧ Below w.heap.size w wr) (fun s _ => l.length - (intOf s).toNat)
  case atStart => exact ⟨0, rfl, Nat.zero_le _, by show RowS _ _ _; rw [wrS_zero]; exact RowS.made _ _, ba _ _⟩
  case round =>
    obtain ⟨i, rfl, hi, HI, hbl⟩ := hrel
    by_cases hil : i < l.length
    · obtain ⟨b, o, x, rfl, hb, _, hg, c1⟩ := HP.out.get hC hbl hil
      have hsz := HS.out _ (List.mem_of_getElem? hg)
      have HG : Hid ((l.map Lib.itoa)[i]? = some (Lib.itoa x)) := by show _ = _; rw [List.getElem?_map, hg]; rfl
      have hz0 := hbl.size
      have hgz : w.heap.size < wr.heap.size := HI.out.lt
      clear hg
      go_wp2_with fail
      refine (itoa_any B x hsz.1 hsz.2 _ (HPT.out.at hB hbl)).mono ?_
      rintro e w1 ⟨rfl, hb2⟩
      have HR1 : Hid (RowS w1 w.heap.size (wrS (l.map Lib.itoa) l.length i)) := HI.out.keep hb2 hgz
      have hlw : (wrS (l.map Lib.itoa) l.length i).length = l.length := wrS_len (by simp) hi
      obtain ⟨y, hy⟩ := get_lt (l := wrS (l.map Lib.itoa) l.length i) (i := i) (by rw [hlw]; exact hil)
      have p1 := HR1.out.cells i y hy
      have p2 := HR1.out.thaw i (by rw [hlw]; exact hil)
      have zk : (i : Int) < (l.length : Int) := by omega
      have hbl1 : Below w.heap.size w w1 := bt hbl hb2
      clear hy hlw hb2
      go_wp2
      go_roundw
      case rel =>
        refine ⟨i + 1, by go_num, hil, ?_, bs hbl1 (p := ⟨w.heap.size, i, none⟩) (Nat.le_refl _) _⟩
        show RowS _ _ _
        rw [← wrS_set (by simp) HG.out]
        exact HR1.out.set i _
      case measure => simp [intOf]; omega
    · have HF : Hid (RowS wr w.heap.size ((l.map Lib.itoa).map tx)) := by
        have := HI.out
        rwa [show i = l.length by omega, wrS_all (by simp)] at this
      have hjl : Hid ((Lib.join (l.map Lib.itoa) [32]).length ≤ 24589) := itoas_len HS.out h6
      have hz : (tx (Lib.join (l.map Lib.itoa) [32])).size ≤ 24589 := by rw [tx_size]; exact hjl.out
      have z1 : ¬ (9223372036854775807 < (tx (Lib.join (l.map Lib.itoa) [32])).size + 1) := by omega
      have HE : Hid (tx (Lib.join (l.map Lib.itoa) [32]) ++ { data := #[10] } = tx t) := by
        show tx _ ++ tx [10] = _
        rw [tx_app, ← HT.out, lineR, lineT]
      have kj := Tryd.strings_Join w.heap.size 0 l.length ((l.map Lib.itoa).map tx) (tx [32]) wr (fun j x hj => by rw [Nat.zero_add]; exact HF.out.cells j x hj) HF.out.lt (by simp; omega) (by simp) (by rw [tx_lists, tx_list]; have := hjl.out; omega)
      rw [tx_lists, tx_list, List.length_map, List.length_map] at kj
      go_wp2_with fail
      refine kj.mono ?_
      rintro e w1 ⟨rfl, hb1⟩
      clear kj
      go_wp2
      go_ret
      exact ⟨by rw [← HE.out]; rfl, bt hbl hb1⟩
end Go.Proofs.YtkpjjiomfgkobaaDoor
