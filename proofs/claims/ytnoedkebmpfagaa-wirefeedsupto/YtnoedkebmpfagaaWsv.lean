import Derived.Test.YtnoedkebmpfagaaWsu
import Derived.BigRegion
/-
  PACKAGE wire, streams: Feed.
-/
namespace Go.Proofs.Ytnoedkebmpfagaa
open Go.RowKit Wc

def strs (l : List By) : List Value := l.map fun f => Value.string (tx f)
theorem strs_len (l : List By) : (strs l).length = l.length := by simp [strs]
theorem strs_snoc (l : List By) (f : By) : strs (l ++ [f]) = strs l ++ [.string (tx f)] := by simp [strs]
/-- what a stream holds, as a text -/
def Rel (h : By) (due : Nat) (X : By) : Prop := (due = 0 ∧ X = h) ∨ (0 < due ∧ due ≤ 65536 ∧ X = hd4 due ++ h)
theorem Rel.app {h : By} {due : Nat} {X : By} (r : Rel h due X) (b : By) : Rel (h ++ b) due (X ++ b) := by
  rcases r with ⟨h1, rfl⟩ | ⟨h1, h2, rfl⟩
  · exact .inl ⟨h1, rfl⟩
  · exact .inr ⟨h1, h2, by simp⟩
theorem Rel.len {h : By} {due : Nat} {X : By} (r : Rel h due X) : h.length ≤ X.length := by
  rcases r with ⟨h1, rfl⟩ | ⟨h1, h2, rfl⟩
  · exact Nat.le_refl _
  · simp
/-- a stream in memory; none: it is broken -/
def StS (w : World) (base R : Nat) : Option By → Prop
  | none => StM w base R [] 0 true
  | some X => ∃ h due, StM w base R h due false ∧ Rel h due X ∧ feedT X = ([], X, false)
/-- frames of one's own, apart from a stream -/
def FrM (w : World) (N R : Nat) (v : Value) (fs : List By) : Prop := w.ownsRow N 9 1 v fs.length (strs fs) ∧ ∀ k, v.ownBlock = some k → k ≠ R ∧ rowOf w R ≠ some k
theorem FrM.fw {w w' : World} {N R : Nat} {v : Value} {fs : List By} (h : FrM w N R v fs) (k : Fw R w w') : FrM w' N R v fs := by
  refine ⟨row_same h.1 fun g hg => ?_, fun g hg => ?_⟩
  · exact k.block g (row_lt h.1 hg).2 (h.2 g hg).1 (h.2 g hg).2
  · exact ⟨(h.2 g hg).1, k.rowne (row_lt h.1 hg).2 (h.2 g hg).2⟩
theorem Fw.grow {R : Nat} {w wr w1 : World} {o : Option Nat} (h : Fw R w wr) (hg : wr.grownBy w1 o) (ho : ∀ g, o = some g → w.heap.size ≤ g ∧ g ≠ R) (hR : R < wr.heap.size) : Fw R w w1 := by
  have hRb : w1.heap[R]? = wr.heap[R]? := hg.block R hR fun e => (ho R e.symm).2 rfl
  have e : rowOf w1 R = rowOf wr R := by unfold rowOf; rw [World.cell?_of_block (w := wr) (a := ⟨R, 0, none⟩) hRb]
  refine ⟨hg.os.trans h.os, hg.tape.trans h.tape, hg.output.trans h.output, Nat.le_trans h.size hg.size, fun g h1 h2 h3 => ?_, fun g hh => ?_⟩
  · refine (hg.block g (Nat.lt_of_lt_of_le h1 h.size) fun e2 => ?_).trans (h.block g h1 h2 h3)
    have := (ho g e2.symm).1
    omega
  · rw [e] at hh; exact h.row g hh
theorem StM.gb {w w' : World} {base R : Nat} {h : By} {due : Nat} {brk : Bool} {o : Option Nat} (s : StM w base R h due brk) (hg : w.grownBy w' o) (ho : ∀ g, o = some g → g ≠ R ∧ rowOf w R ≠ some g) : StM w' base R h due brk := by
  obtain ⟨v, hv, hO⟩ := s.c
  have hR : some R ≠ o := fun e => (ho R e.symm).1 rfl
  refine ⟨⟨v, hv.gb hg hR, hO.gb hg fun k hk e => ?_⟩, s.d.gb hg hR, s.k.gb hg hR, s.b⟩
  refine (ho k hk).2 ?_
  unfold rowOf
  rw [hv.c]
  exact e
theorem infoS : (Try.prog.info? 9).map (fun i => (i.zero, i.size, i.bytes)) = some (some (.string ⟨#[]⟩), 1, 16) := by kernel_rfl
def lenAt (w : World) (R : Nat) : Nat := match w.cell? ⟨R, 0, none⟩ with | some (.slice _ n _) => n | _ => 0
theorem StM.lenAt {w : World} {base R : Nat} {h : By} {due : Nat} {brk : Bool} (s : StM w base R h due brk) : lenAt w R = h.length := by
  obtain ⟨v, hv, ho⟩ := s.c
  obtain ⟨a, c, rfl, -, -⟩ := ho.sl
  unfold Proofs.Ytnoedkebmpfagaa.lenAt
  rw [hv.c]
theorem feed_broken {w : World} {base R : Nat} (s : StS w base R none) (b : By) :
    Calls Try.prog 32 #[ptR R, .string (tx b)] w fun e w' => e = .returned (.tuple #[.slice none 0 0, .int .i64 9]) ∧ w' = w := by
  have c2 := StM.k s |>.c
  clear s
  go_enter Try.func32, Try.ntmps32
  go_wp2
  go_ret2
  exact ⟨rfl, rfl⟩
/-- what Feed answers -/
def FdP (w : World) (base R : Nat) (p : (List By × Int) × Option By) (e : Ending) (w' : World) : Prop :=
  ∃ fa fc, e = .returned (.tuple #[.slice fa p.1.1.length fc, .int .i64 p.1.2]) ∧ FrM w' w.heap.size R (.slice fa p.1.1.length fc) p.1.1 ∧ StS w' base R p.2 ∧ Fw R w w'
set_option maxHeartbeats 2000000 in
set_option maxRecDepth 100000 in
theorem feed_any {w : World} {base R : Nat} {X : By} (s0 : StS w base R (some X)) (b : By) (hlen : X.length + b.length ≤ 1099511627776) (hbs : base ≤ w.heap.size) :
    Calls Try.prog 32 #[ptR R, .string (tx b)] w (FdP w base R (stpT (some X) b)) := by
  obtain ⟨i9, hi9, hz90, hz91, hz92⟩ := info_parts infoS
  obtain ⟨h0, due0, s1, rel0, -⟩ := s0
  obtain ⟨L, rest, kk, hF⟩ : ∃ L r k, feedT (X ++ b) = (L, r, k) := ⟨_, _, _, rfl⟩
  have est : stpT (some X) b = ((L, if kk then 2 else 0), if kk then none else some rest) := by simp only [stpT, hF]
  obtain ⟨PP, hPP⟩ : ∃ P, stpT (some X) b = P := ⟨_, rfl⟩
  rw [hPP] at est ⊢
  have HPP : Hid (PP = ((L, if kk then 2 else 0), if kk then none else some rest)) := est
  clear hPP
  have hR : R < w.heap.size := s1.d.lt
  obtain ⟨v, hv, ho⟩ := s1.c
  have hl0 := rel0.len
  obtain ⟨v', w1, hr, hO, hg, hn⟩ := run_app_str w base R v h0 ho 47 b (by omega) hbs hR
  obtain ⟨a', c', rfl, -, -⟩ := hO.sl
  have hv2 := hv.gb hg (by intro e; exact ((ho.own R e.symm).2.1) rfl)
  have hd2 := s1.d.gb hg (by intro e; exact ((ho.own R e.symm).2.1) rfl)
  have hk2 := s1.k.gb hg (by intro e; exact ((ho.own R e.symm).2.1) rfl)
  obtain ⟨LL, hLL⟩ : ∃ LL, (h0 ++ b).length = LL := ⟨_, rfl⟩
  have S2 : StM (w1.setCell ⟨R, 0, none⟩ (.slice a' (h0 ++ b).length c')) base R (h0 ++ b) due0 false := ⟨⟨_, hv2.set _, hO.setR 0 _⟩, hd2.oth (.inr (by decide)) _, hk2.oth (.inr (by decide)) _, s1.b⟩
  have F2 : Fw R w (w1.setCell ⟨R, 0, none⟩ (.slice a' (h0 ++ b).length c')) := Fw.app hv hv2 hg hn
  rw [hLL] at S2 F2 hr
  obtain ⟨W, hW⟩ : ∃ W, w1.setCell ⟨R, 0, none⟩ (.slice a' LL c') = W := ⟨_, rfl⟩
  rw [hW] at S2 F2
  have HS2 : Hid (StM W base R (h0 ++ b) due0 false) := S2
  have HF2 : Hid (Fw R w W) := F2
  have HR2 : Hid (Rel (h0 ++ b) due0 (X ++ b)) := rel0.app b
  have HFT : Hid (feedT (X ++ b) = (L, rest, kk)) := hF
  have HLE : Hid ((X ++ b).length ≤ 1099511627776) := by rw [Hid, List.length_append]; exact hlen
  have c0 := hv.c
  have f0 := hv.f
  have ck := s1.k.c
  have c2 := hv2.c
  have f2 := hv2.f
  clear hv hv2 hd2 hk2 ho hO hn hLL s1 S2 F2 rel0 hF est hg
  go_enter Try.func32, Try.ntmps32
  go_wp2_with (at_builtin; refine wpList_app rfl _ _ 47 9 rfl v (.string (tx b)) _ w1 rfl rfl hr ?_)
  go_wp2_with fail
  clear hW hr c0 f0 ck c2 f2
  go_loopw [6] (fun fv wr => ∃ (h : By) (due : Nat) (Z : By) (fs : List By) (fa : Option Addr) (fc : Nat), fv = .slice fa fs.length fc ∧ Hid (StM wr base R h due false) ∧ Hid (Rel h due Z) ∧ Hid ((fs ++ (feedT Z).1, (feedT Z).2) = (L, rest, kk)) ∧ Hid (FrM wr w.heap.size R (.slice fa fs.length fc) fs) ∧ Hid (Fw R w wr) ∧ Hid (fs.length + Z.length ≤ 1099511627776)) (fun _ wr => lenAt wr R)
  case atStart => exact ⟨h0 ++ b, due0, X ++ b, [], none, 0, rfl, HS2, HR2, by rw [Hid, List.nil_append]; exact HFT.out, ⟨⟨rfl, .inl ⟨rfl, rfl⟩⟩, by intro k hk; cases hk⟩, HF2, by rw [Hid, List.length_nil, Nat.zero_add]; exact HLE.out⟩
  case round =>
    obtain ⟨h, due, Z, fs, fa, fc, rfl, HS, HRl, HE, HFv, HG, HL⟩ := hrel
    have hszr := HG.out.size
    have hll := HL.out
    have hrl := HRl.out.len
    rcases HRl.out with ⟨rfl, hZh⟩ | ⟨hd1, hd2, hZ⟩
    · have hZh' := hZh.symm
      clear hZh
      subst hZh'
      by_cases h4 : 4 ≤ h.length
      · by_cases hok : 0 < be4 h ∧ be4 h ≤ 65536
        · have k := begin_go HS.out h4 true (by simpa using hok)
          have HOK : Hid (0 < be4 h ∧ be4 h ≤ 65536) := hok
          have HH : Hid (h = hd4 (be4 h) ++ h.drop 4) := (hd4_be4 h4 hok.2).symm
          go_wp2_with fail
          refine k.mono ?_
          rintro e wq ⟨rfl, sq, gq⟩
          clear k
          have GQ : Fw R w wq := HG.out.trans gq
          have FQ := HFv.out.fw gq
          obtain ⟨Z, hZZ⟩ : ∃ Z, h = Z := ⟨_, rfl⟩
          have eZ0 : Z = hd4 (be4 h) ++ h.drop 4 := by rw [← hZZ]; exact HH.out
          rw [show feedT h = feedT Z by rw [hZZ]] at HE
          have hll : fs.length + Z.length ≤ 1099511627776 := by rw [← hZZ]; exact hll
          have SD : StM wq.drew base R (h.drop 4) (be4 h) false := sq.at (Below.refl _ _).drew
          have GD : Fw R w wq.drew := GQ.trans (Fw.new sq.d.lt (Below.refl _ _).drew)
          have FD : FrM wq.drew w.heap.size R (.slice fa fs.length fc) fs := FQ.fw (Fw.new sq.d.lt (Below.refl _ _).drew)
          have cdue := sq.d.c
          have eZ : Z = hd4 (be4 h) ++ (h.drop 4) := eZ0
          clear eZ0 hZZ
          have hnn : 0 < (be4 h) ∧ (be4 h) ≤ 65536 := HOK.out
          have ebe : be4 Z = (be4 h) := by rw [eZ]; exact be4_hd4 hnn.2 _
          have elz : Z.length = 4 + (h.drop 4).length := by rw [eZ, List.length_append, hd4_len]
          have ed4 : Z.drop 4 = (h.drop 4) := by rw [eZ, List.drop_append_of_le_length (by rw [hd4_len]; exact Nat.le_refl _), List.drop_of_length_le (by rw [hd4_len]; exact Nat.le_refl _), List.nil_append]
          have HSD : Hid (StM wq.drew base R (h.drop 4) (be4 h) false) := SD
          have HGD : Hid (Fw R w wq.drew) := GD
          have HFD : Hid (FrM wq.drew w.heap.size R (.slice fa fs.length fc) fs) := FD
          by_cases htk : (be4 h) ≤ (h.drop 4).length
          · have kt := stake_yes SD (be4 h) htk
            have ed5 : Z.drop (4 + be4 Z) = (h.drop 4).drop (be4 h) := by rw [ebe, ← List.drop_drop, ed4]
            have HE2 : Hid (((fs ++ [(h.drop 4).take (be4 h)]) ++ (feedT ((h.drop 4).drop (be4 h))).1, (feedT ((h.drop 4).drop (be4 h))).2) = (L, rest, kk)) := by
              have hq := HE.out
              rw [feedT_next (by omega) (by rw [ebe]; omega) (by rw [ebe]; omega), ed5, ebe, ed4] at hq
              rw [Hid, ← hq, List.append_assoc]
              rfl
            have HL2 : Hid ((fs ++ [(h.drop 4).take (be4 h)]).length + ((h.drop 4).drop (be4 h)).length ≤ 1099511627776) := by
              rw [Hid, List.length_append, List.length_drop]; simp only [List.length_cons, List.length_nil]; omega
            have HMS : Hid (((h.drop 4).drop (be4 h)).length < h.length) := by simp only [Hid, List.length_drop]; have := HOK.out; omega
            have hfsl : fs.length ≤ 1099511627776 := by omega
            clear eZ ebe elz ed4 ed5 HE SD GD FD
            obtain ⟨F1, hF1⟩ : ∃ F1, (h.drop 4).take (be4 h) = F1 := ⟨_, rfl⟩
            rw [hF1] at kt HE2 HL2
            obtain ⟨h5, hh5⟩ : ∃ h5, (h.drop 4).drop (be4 h) = h5 := ⟨_, rfl⟩
            rw [hh5] at kt HE2 HL2 HMS
            clear hF1 hh5
            go_wp2_with fail
            go_region_with (go_at_call 44; refine kt.mono ?_; rintro e w3 ⟨rfl, s3, g3⟩)
            have G3 : Fw R w w3 := HGD.out.trans g3
            have F3 := HFD.out.fw g3
            have bA : Below w3.heap.size w3 (w3.alloc (.cells #[.string (tx F1)] 9)) := ba _ _
            have S4 := s3.at bA
            have G4 : Fw R w (w3.alloc (.cells #[.string (tx F1)] 9)) := G3.trans (Fw.new s3.d.lt bA)
            have F4 := F3.fw (Fw.new s3.d.lt bA)
            have HS4 : Hid (StM (w3.alloc (.cells #[.string (tx F1)] 9)) base R h5 (be4 h) false) := S4
            have HG4 : Hid (Fw R w (w3.alloc (.cells #[.string (tx F1)] 9))) := G4
            have HF4 : Hid (FrM (w3.alloc (.cells #[.string (tx F1)] 9)) w.heap.size R (.slice fa fs.length fc) fs) := F4
            have hw3 : w.heap.size ≤ w3.heap.size := G3.size
            have hR3 : R < w3.heap.size := s3.d.lt
            clear kt s3 g3 G3 F3 bA S4 G4 F4
            go_wp2_with (at_builtin; refine wpList_append_lies _ rfl _ _ 35 rfl w.heap.size 9 i9 (.string ⟨#[]⟩) 1 16 Try.underlying35 hi9 hz90 hz91 hz92 rfl (by decide) (.slice fa fs.length fc) fs.length (strs fs) rfl HF4.out.1 ⟨w3.heap.size, 0, none⟩ 1 1 [.string (tx F1)] rfl rfl (one_cells w3 _ _ _ rfl) (by intro z hz; simp at hz; subst hz; rfl) (by decide) (by unfold maxLen; omega) (by omega) (by simp; omega) _ rfl ?_)
            intro g cap w5 hown hgrow hat hlt
            have hog : ∀ k, (Value.slice fa fs.length fc).ownBlock = some k → w.heap.size ≤ k ∧ k ≠ R ∧ rowOf (w3.alloc (.cells #[.string (tx F1)] 9)) R ≠ some k := fun k hk => ⟨(row_lt HF4.out.1 hk).1, (HF4.out.2 k hk).1, (HF4.out.2 k hk).2⟩
            have s5 : StM w5 base R h5 (be4 h) false := HS4.out.gb hgrow fun k hk => (hog k hk).2
            have G5 : Fw R w w5 := HG4.out.grow hgrow (fun k hk => ⟨(hog k hk).1, (hog k hk).2.1⟩) HS4.out.d.lt
            have hrow5 : rowOf w5 R = rowOf (w3.alloc (.cells #[.string (tx F1)] 9)) R := by
              unfold rowOf
              rw [World.cell?_of_block (w := w3.alloc (.cells #[.string (tx F1)] 9)) (a := ⟨R, 0, none⟩) (hgrow.block R HS4.out.d.lt fun e => (hog R e.symm).2.1 rfl)]
            have hF5 : FrM w5 w.heap.size R (.slice (some ⟨g, 0, none⟩) (fs.length + 1) cap) (fs ++ [F1]) := by
              refine ⟨?_, fun k hk => ?_⟩
              · have hl : (fs ++ [F1]).length = fs.length + 1 := by simp
                rw [hl, strs_snoc]; exact hown
              · simp only [Value.ownBlock, Option.some.injEq] at hk
                subst hk
                rw [hrow5]
                rcases hat with hat | hat
                · exact (hog _ hat).2
                · have : g = w3.heap.size + 1 := by simpa using hat
                  refine ⟨by omega, fun e => ?_⟩
                  have := (HS4.out.row _ e).2.2
                  simp at this
                  omega
            have d5 := s5.d.c
            have d5f := s5.d.f
            have s6 := s5.setd 0
            have HS6 : Hid (StM (w5.setCell ⟨R, 1, none⟩ (.int .u64 0)) base R h5 0 false) := s6
            have HG6 : Hid (Fw R w (w5.setCell ⟨R, 1, none⟩ (.int .u64 0))) := G5.trans (Fw.setk R w5 1 (by decide) _)
            have HF6 : Hid (FrM (w5.setCell ⟨R, 1, none⟩ (.int .u64 0)) w.heap.size R (.slice (some ⟨g, 0, none⟩) (fs.length + 1) cap) (fs ++ [F1])) := hF5.fw (Fw.setk R w5 1 (by decide) _)
            clear hown hgrow hat hlt hog s5 G5 hrow5 hF5 s6 HF4 HS4 HG4
            go_wp2
            go_roundw
            case rel => exact ⟨h5, 0, h5, fs ++ [F1], some ⟨g, 0, none⟩, cap, by simp, HS6, .inl ⟨rfl, rfl⟩, HE2, by have := HF6.out; rw [Hid, List.length_append]; exact this, HG6, HL2⟩
            case measure => rw [HS6.out.lenAt, HS.out.lenAt]; exact HMS.out
          · have kt := stake_no SD (be4 h) htk
            have hfz : feedT Z = ([], Z, false) := feedT_wait (by omega) (by rw [ebe]; omega) (by rw [ebe]; omega)
            have hrl2 : Rel (h.drop 4) (be4 h) Z := .inr ⟨hnn.1, hnn.2, eZ⟩
            clear SD GD FD eZ ebe elz ed4
            go_wp2_with fail
            go_region_with (go_at_call 44; refine kt.mono ?_; rintro e w3 ⟨rfl, rfl⟩)
            clear kt
            have hkb := HSD.out.k.c
            have HQ : Hid (L = fs ∧ rest = Z ∧ kk = false) := by
              have hq := HE.out
              rw [hfz] at hq
              simp only [List.append_nil, Prod.mk.injEq] at hq
              exact ⟨hq.1.symm, hq.2.1.symm, hq.2.2.symm⟩
            have HZ : Hid (feedT (Z) = ([], Z, false)) := hfz
            have HRL : Hid (Rel (h.drop 4) (be4 h) (Z)) := hrl2
            have HST : Hid (StM wq.drew base R (h.drop 4) (be4 h) false) := HSD.out
            have HFW : Hid (Fw R w wq.drew) := HGD.out
            have HFM : Hid (FrM wq.drew w.heap.size R (.slice fa fs.length fc) fs) := HFD.out
            have hbw : base ≤ (wq.drew).heap.size := by have := HST.out.d.lt; have := HST.out.b; omega
            have hhl : (h.drop 4).length ≤ 1099511627776 := by have := HRL.out.len; omega
            clear HE
            by_cases hfl : fs.length = 0
            · have kse := settle_no (w := wq.drew) R
              have HFL : Hid (fs.length = 0) := hfl
              have hfl2 : (fs.length : Int) = 0 := by omega
              go_wp2_with fail
              refine kse.mono ?_
              rintro e wz ⟨rfl, rfl⟩
              clear kse
              go_wp2
              go_ret2
              obtain ⟨rfl, rfl, rfl⟩ := HQ.out
              rw [FdP, HPP.out]
              exact ⟨fa, fc, by rw [HFL.out]; rfl, HFM.out, ⟨_, _, HST.out, HRL.out, HZ.out⟩, HFW.out⟩
            · have kse := settle_yes HST.out hhl hbw fs.length (by omega)
              have hfl2 : ¬ (fs.length : Int) = 0 := by omega
              go_wp2_with fail
              refine kse.mono ?_
              rintro e wz ⟨rfl, sz, gz⟩
              clear kse
              go_wp2
              go_ret2
              obtain ⟨rfl, rfl, rfl⟩ := HQ.out
              rw [FdP, HPP.out]
              exact ⟨fa, fc, rfl, HFM.out.fw gz, ⟨_, _, sz, HRL.out, HZ.out⟩, HFW.out.trans gz⟩
        · have k := begin_go HS.out h4 false (by simpa using hok)
          have hfz : feedT h = ([], [], true) := feedT_bad h4 (by omega)
          go_wp2_with fail
          refine k.mono ?_
          rintro e wq ⟨rfl, sq, gq⟩
          clear k
          have HQ : Hid (L = fs ∧ rest = [] ∧ kk = true) := by
            have hq := HE.out
            rw [hfz] at hq
            simp only [List.append_nil, Prod.mk.injEq] at hq
            exact ⟨hq.1.symm, hq.2.1.symm, hq.2.2.symm⟩
          obtain ⟨vv, hvv, hoo⟩ := sq.c
          have m0 := hvv.c
          have m0f := hvv.f
          have m1 := sq.d.c
          have m1f := sq.d.f
          have m2 := sq.k.c
          have m2f := sq.k.f
          have FQ := HFv.out.fw gq
          have f3 : Fw R wq (((wq.setCell ⟨R, 0, none⟩ (.slice none 0 0)).setCell ⟨R, 1, none⟩ (.int .u64 0)).setCell ⟨R, 2, none⟩ (.bool true)) := ((Fw.set0 hvv (.inl rfl)).trans (Fw.setk R _ 1 (by decide) _)).trans (Fw.setk R _ 2 (by decide) _)
          have HFin : Hid (StM (((wq.setCell ⟨R, 0, none⟩ (.slice none 0 0)).setCell ⟨R, 1, none⟩ (.int .u64 0)).setCell ⟨R, 2, none⟩ (.bool true)) base R [] 0 true ∧ Fw R w (((wq.setCell ⟨R, 0, none⟩ (.slice none 0 0)).setCell ⟨R, 1, none⟩ (.int .u64 0)).setCell ⟨R, 2, none⟩ (.bool true)) ∧ FrM (((wq.setCell ⟨R, 0, none⟩ (.slice none 0 0)).setCell ⟨R, 1, none⟩ (.int .u64 0)).setCell ⟨R, 2, none⟩ (.bool true)) w.heap.size R (.slice fa fs.length fc) fs) :=
            ⟨⟨⟨_, ((hvv.set (.slice none 0 0)).oth (.inr (by decide)) _).oth (.inr (by decide)) _, .nil _ _ _⟩, ((sq.d.oth (.inr (by decide)) _).set _).oth (.inr (by decide)) _, ((sq.k.oth (.inr (by decide)) _).oth (.inr (by decide)) _).set _, sq.b⟩, (HG.out.trans gq).trans f3, FQ.fw f3⟩
          clear hvv hoo sq f3 FQ
          go_wp2
          go_ret2
          obtain ⟨rfl, rfl, rfl⟩ := HQ.out
          rw [FdP, HPP.out]
          exact ⟨fa, fc, rfl, HFin.out.2.2, HFin.out.1, HFin.out.2.1⟩
      · have k := begin_few HS.out h4
        have hfz : feedT h = ([], h, false) := feedT_few h4
        go_wp2_with fail
        refine k.mono ?_
        rintro e wq ⟨rfl, rfl⟩
        clear k
        have hkb := HS.out.k.c
        have HQ : Hid (L = fs ∧ rest = h ∧ kk = false) := by
          have hq := HE.out
          rw [hfz] at hq
          simp only [List.append_nil, Prod.mk.injEq] at hq
          exact ⟨hq.1.symm, hq.2.1.symm, hq.2.2.symm⟩
        have HZ : Hid (feedT (h) = ([], h, false)) := hfz
        have HRL : Hid (Rel (h) (0) (h)) := .inl ⟨rfl, rfl⟩
        have HST : Hid (StM wq base R (h) (0) false) := HS.out
        have HFW : Hid (Fw R w wq) := HG.out
        have HFM : Hid (FrM wq w.heap.size R (.slice fa fs.length fc) fs) := HFv.out
        have hbw : base ≤ (wq).heap.size := by have := HST.out.d.lt; have := HST.out.b; omega
        have hhl : (h).length ≤ 1099511627776 := by have := HRL.out.len; omega
        clear HE
        by_cases hfl : fs.length = 0
        · have kse := settle_no (w := wq) R
          have HFL : Hid (fs.length = 0) := hfl
          have hfl2 : (fs.length : Int) = 0 := by omega
          go_wp2_with fail
          refine kse.mono ?_
          rintro e wz ⟨rfl, rfl⟩
          clear kse
          go_wp2
          go_ret2
          obtain ⟨rfl, rfl, rfl⟩ := HQ.out
          rw [FdP, HPP.out]
          exact ⟨fa, fc, by rw [HFL.out]; rfl, HFM.out, ⟨_, _, HST.out, HRL.out, HZ.out⟩, HFW.out⟩
        · have kse := settle_yes HST.out hhl hbw fs.length (by omega)
          have hfl2 : ¬ (fs.length : Int) = 0 := by omega
          go_wp2_with fail
          refine kse.mono ?_
          rintro e wz ⟨rfl, sz, gz⟩
          clear kse
          go_wp2
          go_ret2
          obtain ⟨rfl, rfl, rfl⟩ := HQ.out
          rw [FdP, HPP.out]
          exact ⟨fa, fc, rfl, HFM.out.fw gz, ⟨_, _, sz, HRL.out, HZ.out⟩, HFW.out.trans gz⟩
    · have k := begin_due HS.out hd1
      go_wp2_with fail
      refine k.mono ?_
      rintro e wq ⟨rfl, rfl⟩
      clear k
      have SD : StM wq.drew base R (h) (due) false := HS.out.at (Below.refl _ _).drew
      have GD : Fw R w wq.drew := HG.out.trans (Fw.new HS.out.d.lt (Below.refl _ _).drew)
      have FD : FrM wq.drew w.heap.size R (.slice fa fs.length fc) fs := HFv.out.fw (Fw.new HS.out.d.lt (Below.refl _ _).drew)
      have cdue := HS.out.d.c
      have eZ : Z = hd4 (due) ++ (h) := hZ
      clear hZ
      have hnn : 0 < (due) ∧ (due) ≤ 65536 := ⟨hd1, hd2⟩
      have ebe : be4 Z = (due) := by rw [eZ]; exact be4_hd4 hnn.2 _
      have elz : Z.length = 4 + (h).length := by rw [eZ, List.length_append, hd4_len]
      have ed4 : Z.drop 4 = (h) := by rw [eZ, List.drop_append_of_le_length (by rw [hd4_len]; exact Nat.le_refl _), List.drop_of_length_le (by rw [hd4_len]; exact Nat.le_refl _), List.nil_append]
      have HSD : Hid (StM wq.drew base R (h) (due) false) := SD
      have HGD : Hid (Fw R w wq.drew) := GD
      have HFD : Hid (FrM wq.drew w.heap.size R (.slice fa fs.length fc) fs) := FD
      by_cases htk : (due) ≤ (h).length
      · have kt := stake_yes SD (due) htk
        have ed5 : Z.drop (4 + be4 Z) = (h).drop (due) := by rw [ebe, ← List.drop_drop, ed4]
        have HE2 : Hid (((fs ++ [(h).take (due)]) ++ (feedT ((h).drop (due))).1, (feedT ((h).drop (due))).2) = (L, rest, kk)) := by
          have hq := HE.out
          rw [feedT_next (by omega) (by rw [ebe]; omega) (by rw [ebe]; omega), ed5, ebe, ed4] at hq
          rw [Hid, ← hq, List.append_assoc]
          rfl
        have HL2 : Hid ((fs ++ [(h).take (due)]).length + ((h).drop (due)).length ≤ 1099511627776) := by
          rw [Hid, List.length_append, List.length_drop]; simp only [List.length_cons, List.length_nil]; omega
        have HMS : Hid (((h).drop (due)).length < h.length) := by simp only [Hid, List.length_drop]; omega
        have hfsl : fs.length ≤ 1099511627776 := by omega
        clear eZ ebe elz ed4 ed5 HE SD GD FD
        obtain ⟨F1, hF1⟩ : ∃ F1, (h).take (due) = F1 := ⟨_, rfl⟩
        rw [hF1] at kt HE2 HL2
        obtain ⟨h5, hh5⟩ : ∃ h5, (h).drop (due) = h5 := ⟨_, rfl⟩
        rw [hh5] at kt HE2 HL2 HMS
        clear hF1 hh5
        go_wp2_with fail
        go_region_with (go_at_call 44; refine kt.mono ?_; rintro e w3 ⟨rfl, s3, g3⟩)
        have G3 : Fw R w w3 := HGD.out.trans g3
        have F3 := HFD.out.fw g3
        have bA : Below w3.heap.size w3 (w3.alloc (.cells #[.string (tx F1)] 9)) := ba _ _
        have S4 := s3.at bA
        have G4 : Fw R w (w3.alloc (.cells #[.string (tx F1)] 9)) := G3.trans (Fw.new s3.d.lt bA)
        have F4 := F3.fw (Fw.new s3.d.lt bA)
        have HS4 : Hid (StM (w3.alloc (.cells #[.string (tx F1)] 9)) base R h5 (due) false) := S4
        have HG4 : Hid (Fw R w (w3.alloc (.cells #[.string (tx F1)] 9))) := G4
        have HF4 : Hid (FrM (w3.alloc (.cells #[.string (tx F1)] 9)) w.heap.size R (.slice fa fs.length fc) fs) := F4
        have hw3 : w.heap.size ≤ w3.heap.size := G3.size
        have hR3 : R < w3.heap.size := s3.d.lt
        clear kt s3 g3 G3 F3 bA S4 G4 F4
        go_wp2_with (at_builtin; refine wpList_append_lies _ rfl _ _ 35 rfl w.heap.size 9 i9 (.string ⟨#[]⟩) 1 16 Try.underlying35 hi9 hz90 hz91 hz92 rfl (by decide) (.slice fa fs.length fc) fs.length (strs fs) rfl HF4.out.1 ⟨w3.heap.size, 0, none⟩ 1 1 [.string (tx F1)] rfl rfl (one_cells w3 _ _ _ rfl) (by intro z hz; simp at hz; subst hz; rfl) (by decide) (by unfold maxLen; omega) (by omega) (by simp; omega) _ rfl ?_)
        intro g cap w5 hown hgrow hat hlt
        have hog : ∀ k, (Value.slice fa fs.length fc).ownBlock = some k → w.heap.size ≤ k ∧ k ≠ R ∧ rowOf (w3.alloc (.cells #[.string (tx F1)] 9)) R ≠ some k := fun k hk => ⟨(row_lt HF4.out.1 hk).1, (HF4.out.2 k hk).1, (HF4.out.2 k hk).2⟩
        have s5 : StM w5 base R h5 (due) false := HS4.out.gb hgrow fun k hk => (hog k hk).2
        have G5 : Fw R w w5 := HG4.out.grow hgrow (fun k hk => ⟨(hog k hk).1, (hog k hk).2.1⟩) HS4.out.d.lt
        have hrow5 : rowOf w5 R = rowOf (w3.alloc (.cells #[.string (tx F1)] 9)) R := by
          unfold rowOf
          rw [World.cell?_of_block (w := w3.alloc (.cells #[.string (tx F1)] 9)) (a := ⟨R, 0, none⟩) (hgrow.block R HS4.out.d.lt fun e => (hog R e.symm).2.1 rfl)]
        have hF5 : FrM w5 w.heap.size R (.slice (some ⟨g, 0, none⟩) (fs.length + 1) cap) (fs ++ [F1]) := by
          refine ⟨?_, fun k hk => ?_⟩
          · have hl : (fs ++ [F1]).length = fs.length + 1 := by simp
            rw [hl, strs_snoc]; exact hown
          · simp only [Value.ownBlock, Option.some.injEq] at hk
            subst hk
            rw [hrow5]
            rcases hat with hat | hat
            · exact (hog _ hat).2
            · have : g = w3.heap.size + 1 := by simpa using hat
              refine ⟨by omega, fun e => ?_⟩
              have := (HS4.out.row _ e).2.2
              simp at this
              omega
        have d5 := s5.d.c
        have d5f := s5.d.f
        have s6 := s5.setd 0
        have HS6 : Hid (StM (w5.setCell ⟨R, 1, none⟩ (.int .u64 0)) base R h5 0 false) := s6
        have HG6 : Hid (Fw R w (w5.setCell ⟨R, 1, none⟩ (.int .u64 0))) := G5.trans (Fw.setk R w5 1 (by decide) _)
        have HF6 : Hid (FrM (w5.setCell ⟨R, 1, none⟩ (.int .u64 0)) w.heap.size R (.slice (some ⟨g, 0, none⟩) (fs.length + 1) cap) (fs ++ [F1])) := hF5.fw (Fw.setk R w5 1 (by decide) _)
        clear hown hgrow hat hlt hog s5 G5 hrow5 hF5 s6 HF4 HS4 HG4
        go_wp2
        go_roundw
        case rel => exact ⟨h5, 0, h5, fs ++ [F1], some ⟨g, 0, none⟩, cap, by simp, HS6, .inl ⟨rfl, rfl⟩, HE2, by have := HF6.out; rw [Hid, List.length_append]; exact this, HG6, HL2⟩
        case measure => rw [HS6.out.lenAt, HS.out.lenAt]; exact HMS.out
      · have kt := stake_no SD (due) htk
        have hfz : feedT Z = ([], Z, false) := feedT_wait (by omega) (by rw [ebe]; omega) (by rw [ebe]; omega)
        have hrl2 : Rel (h) (due) Z := .inr ⟨hnn.1, hnn.2, eZ⟩
        clear SD GD FD eZ ebe elz ed4
        go_wp2_with fail
        go_region_with (go_at_call 44; refine kt.mono ?_; rintro e w3 ⟨rfl, rfl⟩)
        clear kt
        have hkb := HSD.out.k.c
        have HQ : Hid (L = fs ∧ rest = Z ∧ kk = false) := by
          have hq := HE.out
          rw [hfz] at hq
          simp only [List.append_nil, Prod.mk.injEq] at hq
          exact ⟨hq.1.symm, hq.2.1.symm, hq.2.2.symm⟩
        have HZ : Hid (feedT (Z) = ([], Z, false)) := hfz
        have HRL : Hid (Rel (h) (due) (Z)) := hrl2
        have HST : Hid (StM wq.drew base R (h) (due) false) := HSD.out
        have HFW : Hid (Fw R w wq.drew) := HGD.out
        have HFM : Hid (FrM wq.drew w.heap.size R (.slice fa fs.length fc) fs) := HFD.out
        have hbw : base ≤ (wq.drew).heap.size := by have := HST.out.d.lt; have := HST.out.b; omega
        have hhl : (h).length ≤ 1099511627776 := by have := HRL.out.len; omega
        clear HE
        by_cases hfl : fs.length = 0
        · have kse := settle_no (w := wq.drew) R
          have HFL : Hid (fs.length = 0) := hfl
          have hfl2 : (fs.length : Int) = 0 := by omega
          go_wp2_with fail
          refine kse.mono ?_
          rintro e wz ⟨rfl, rfl⟩
          clear kse
          go_wp2
          go_ret2
          obtain ⟨rfl, rfl, rfl⟩ := HQ.out
          rw [FdP, HPP.out]
          exact ⟨fa, fc, by rw [HFL.out]; rfl, HFM.out, ⟨_, _, HST.out, HRL.out, HZ.out⟩, HFW.out⟩
        · have kse := settle_yes HST.out hhl hbw fs.length (by omega)
          have hfl2 : ¬ (fs.length : Int) = 0 := by omega
          go_wp2_with fail
          refine kse.mono ?_
          rintro e wz ⟨rfl, sz, gz⟩
          clear kse
          go_wp2
          go_ret2
          obtain ⟨rfl, rfl, rfl⟩ := HQ.out
          rw [FdP, HPP.out]
          exact ⟨fa, fc, rfl, HFM.out.fw gz, ⟨_, _, sz, HRL.out, HZ.out⟩, HFW.out.trans gz⟩
end Go.Proofs.Ytnoedkebmpfagaa
