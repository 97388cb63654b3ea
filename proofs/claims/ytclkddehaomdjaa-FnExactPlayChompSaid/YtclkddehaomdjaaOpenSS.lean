/-
  Words and contracts: a slice of slices of numbers that came in, opened; the laws' size and copy of it.
-/
import Derived.Test.YtclkddehaomdjaaSS
import Derived.Test.YtclkddehaomdjaaMovesS
import Derived.Test.YtclkddehaomdjaaHeapW
namespace Go.Proofs.Ytclkddehaomdjaa
open Go.ChangeShapes Go.WideShapes Go.ChangeAt Go.RowKit Go.Joins Go.Deep
set_option linter.unusedVariables false

section
variable {H : Type} {enc : TypeId × Value → H} {P : Program} {w : World} {base : Nat} {held : Bool}
theorem open_intSS {t e q : TypeId} {A : Option Addr} {n c : Nat} {d : DataW H} {ps : List MemPlace} (ht : P.underlying t = some (.slice e)) (he : P.underlying e = some (.slice q)) (hq : P.underlying q = some (.int .i64)) (ce : P.cellsOf e = 1) (cq : P.cellsOf q = 1)
    (h : DataW.Trod enc P w base (fun _ => true) held t (.slice A n c) d ps) : ∃ R : Nat → List Int, RdSS w A n R ∧ n ≤ 9223372036854775807 ∧ ∀ i, i < n → (R i).length ≤ 9223372036854775807 := by
  obtain ⟨fuel, hf⟩ := h
  rcases open_int_rows ht he hq ce cq hf with ⟨hcs, _⟩ | ⟨a, len, cap, AA, LL, CC, ZZ, hcs, _, hl, hcm, _, hr⟩
  · simp [Value.cells] at hcs
    obtain ⟨rfl, rfl, rfl⟩ := hcs
    exact ⟨fun _ => [], ⟨fun _ => none, fun _ => 0, Rd.nil _ _, fun i hi => absurd hi (by omega)⟩, by omega, fun i hi => absurd hi (by omega)⟩
  · simp [Value.cells] at hcs
    obtain ⟨rfl, rfl, rfl⟩ := hcs
    have hlen : ∀ i, i < n → ((ZZ i).take (LL i)).length = LL i := fun i hi => by
      obtain ⟨_, h2, _, h4, _⟩ := hr i (by omega)
      rw [List.length_take]; omega
    refine ⟨fun i => (ZZ i).take (LL i), ⟨AA, CC, ⟨by rw [length_ssCells, Nat.mul_one], fun h0 => ?_⟩, fun i hi => ?_⟩, ?_, fun i hi => ?_⟩
    · have z0 := (hr 0 (by omega)).1
      have hs := World.cell?_spot z0
      obtain ⟨b, o, sp⟩ := a
      have hsp : sp = none := by simpa [Addr.add] using hs
      subst hsp
      refine ⟨b, o, rfl, World.block_lt_of_cell? w _ (by simpa [Addr.add] using z0), fun j u hu => ?_⟩
      have hj : j < n := by have := (List.getElem?_eq_some_iff.1 hu).1; rw [length_ssCells] at this; exact this
      have q := (hr j (by omega)).1
      rw [addr_add] at q
      rw [ssCells_at hj] at hu
      rw [q, ← hu, hlen j hj]
    · obtain ⟨h1, h2, h3, h4, _, h6, h7⟩ := hr i (by omega)
      rw [hlen i hi]
      cases hA : AA i with
      | none =>
        have := h6 hA
        have e0 : LL i = 0 := by omega
        simp only [e0, List.take_zero]
        exact Rd.nil _ _
      | some a' =>
        refine rd_ints (by omega) (fun c hc => ?_)
        exact (h7 a' hA).2 c (by omega)
    · unfold maxLen at hcm; omega
    · rw [hlen i hi]
      obtain ⟨_, h2, h3, _⟩ := hr i (by omega)
      unfold maxLen at h3; omega
end

set_option maxHeartbeats 400000 in
theorem szIntS1_any (A : Option Addr) (n c : Nat) (left : Int) (w : World) (hn : n ≤ 9223372036854775807) (h0 : 0 ≤ left) (h1 : left ≤ 1048576) :
    Calls Try.prog 60 #[.slice A n c, .int .i64 left] w fun e w' => e = .returned (.int .i64 (if (n : Int) ≤ left then left - n else -1)) ∧ w = w' := by
  by_cases h : (n : Int) ≤ left
  · rw [if_pos h]
    go_enter Try.func60, Try.ntmps60
    go_wp2
    go_ret
    exact ⟨rfl, rfl⟩
  · rw [if_neg h]
    go_enter Try.func60, Try.ntmps60
    go_wp2
    go_ret
    exact ⟨rfl, rfl⟩
set_option maxRecDepth 100000 in
set_option maxHeartbeats 1000000 in
theorem szIntSS_any (Ad : Option Addr) (n c : Nat) (R : Nat → List Int) (left : Int) (w : World) (hr : RdSS w Ad n R) (hn : n ≤ 9223372036854775807) (hR : ∀ i, i < n → (R i).length ≤ 9223372036854775807) (h0 : 0 ≤ left) (h1 : left ≤ 1048576) :
    Calls Try.prog 32 #[.slice Ad n c, .int .i64 left] w fun e w' => (∃ r : Int, e = .returned (.int .i64 r) ∧ (r = -1 ∨ (0 ≤ r ∧ (n : Int) + (pre R n : Nat) = left - r))) ∧ w = w' := by
  have HR := Lib.hid hR
  clear hR
  by_cases h : (n : Int) ≤ left
  · go_enter Try.func32, Try.ntmps32
    go_wp2
    go_loop [1, 5] (fun v i => ∃ k : Nat, k ≤ n ∧ i = .int .i64 k ∧ v = .int .i64 (left - n - (pre R k : Nat)) ∧ (n : Int) + (pre R k : Nat) ≤ left) (fun _ i => n - (intOf i).toNat)
    case atStart => exact ⟨0, Nat.zero_le _, rfl, by simp [pre], by simpa [pre] using h⟩
    case round =>
      obtain ⟨k, hk, rfl, rfl, hle⟩ := hrel
      by_cases hlt : k < n
      · obtain ⟨b, o, rfl, hbl, a, cc, p0, r0⟩ := hr.row hlt
        have hl := HR.out k hlt
        have HP : Hid (pre R (k + 1) = pre R k + (R k).length) := rfl
        generalize hq : R k = q at *
        generalize hpk : pre R k = pk at *
        have HSZ := Lib.hid (szIntS1_any a q.length cc (left - n - (pk : Nat)) w hl (by omega) (by omega))
        clear hq hpk r0
        by_cases hf : (q.length : Int) ≤ left - n - (pk : Nat)
        · rw [if_pos hf] at HSZ
          go_wp2_with fail
          refine (HSZ.out).mono ?_; rintro e wx ⟨rfl, rfl⟩
          go_wp2
          go_round
          case rel => exact ⟨k + 1, by omega, by go_num, by rw [HP.out]; congr 1; omega, by rw [HP.out]; omega⟩
          case measure => simp [intOf]; omega
        · rw [if_neg hf] at HSZ
          go_wp2_with fail
          refine (HSZ.out).mono ?_; rintro e wx ⟨rfl, rfl⟩
          go_wp2
          go_ret
          exact ⟨⟨-1, rfl, .inl rfl⟩, rfl⟩
      · have hkn : k = n := by omega
        subst hkn
        go_wp2
        go_ret
        exact ⟨⟨_, rfl, .inr ⟨by omega, by omega⟩⟩, rfl⟩
  · go_enter Try.func32, Try.ntmps32
    go_wp2
    go_ret
    exact ⟨⟨-1, rfl, .inl rfl⟩, rfl⟩

set_option maxRecDepth 100000 in
set_option maxHeartbeats 2000000 in
theorem toIntSS_any (Ad : Option Addr) (n c : Nat) (R : Nat → List Int) (w : World) (hr : RdSS w Ad n R) (hn : n ≤ 1048576) (hR : ∀ i, i < n → (R i).length ≤ 1048576) :
    Calls Try.prog 34 #[.slice Ad n c] w fun e w' => ∃ g, e = .returned (.slice (some ⟨g, 0, none⟩) n n) ∧ OwnSS w' w.heap.size (.slice (some ⟨g, 0, none⟩) n n) n R ∧ Below w.heap.size w w' := by
  obtain ⟨i0, hi, hz0, hz1, hz2⟩ := info_parts ints_info
  have HR := Lib.hid hR
  clear hR
  go_enter Try.func34, Try.ntmps34
  go_wp2_with (at_make; refine wpList_make_full _ rfl (.tmp 6) (.tmp 6) 34 rfl w.heap.size 22 i0 (.slice none 0 0) 1 Try.underlying34 hi hz0 hz1 .i64 .i64 _ _ n rfl rfl rfl rfl ?b2 ?b3 (Nat.le_refl _) ?_)
  case b2 => rw [hz2]; omega
  case b3 => simp only [maxLen]; omega
  intro w1 hownT hgrow
  have hb1 : Below w.heap.size w w1 := (Below.refl _ _).grown hgrow (Nat.le_refl _) (fun k hk => by cases hk)
  have hac0 : OwnAC w1 w.heap.size (.slice (some ⟨w.heap.size, 0, none⟩) n n) n (fun _ => none) (fun _ => 0) (fun i => if i < 0 then R i else []) := by
    refine ⟨?_, fun i hi => ?_, fun i j hi hj hij => .inl rfl⟩
    · have e : (madeCells #[Value.slice none 0 0] n).toList = ssCells (fun _ => none) (fun _ => 0) (fun i => if i < 0 then R i else []) n := by
        rw [toList_madeCells_one]
        simp only [ssCells, Nat.not_lt_zero, if_false, List.length_nil]
        rw [List.map_const', List.length_range]
      rw [← e]
      simpa using hownT
    · simp only [Nat.not_lt_zero, if_false]
      exact World.ownsRow_nil _ _ _ _
  have HAC := Lib.hid hac0
  have HB1 := Lib.hid hb1
  clear hownT hgrow hac0 hb1
  go_wp2
  go_loopw [4] (fun i wr => ∃ (k : Nat) (A : Nat → Option Addr) (C : Nat → Nat), k ≤ n ∧ i = .int .i64 k ∧ OwnAC wr w.heap.size (.slice (some ⟨w.heap.size, 0, none⟩) n n) n A C (fun i => if i < k then R i else []) ∧ Below w.heap.size w wr) (fun i _ => n - (intOf i).toNat)
  case atStart => exact ⟨0, _, _, Nat.zero_le _, rfl, HAC.out, HB1.out⟩
  case round =>
    clear HAC HB1
    obtain ⟨k, A, C, hk, rfl, hac, hB⟩ := hrel
    have sB := hB.size
    by_cases hlt : k < n
    · obtain ⟨b, o, rfl, hbl, a, cc, p0, r0⟩ := (hr.later hB (Nat.le_refl _)).row hlt
      have hl := HR.out k hlt
      have HRK : Hid (∀ i, i < n → (if i = k then R k else if i < k then R i else []) = if i < k + 1 then R i else []) := fun i hi => by
        by_cases e : i = k
        · subst e; simp
        · by_cases e2 : i < k
          · simp [e, e2, show i < k + 1 by omega]
          · simp [e, e2, show ¬ i < k + 1 by omega]
      have HTO := Lib.hid (toIntS_any a (R k).length cc (R k) wr r0 hl)
      have HAC := Lib.hid hac
      have HBB := Lib.hid hB
      have gl := (hac.top.lt w.heap.size rfl).2
      clear r0 hac hB
      generalize hq : R k = q at *
      clear hq
      go_wp2_with fail
      refine (HTO.out).mono ?_; rintro e w3 ⟨g3, rfl, o3, hb3⟩
      have htop3 := own_later HAC.out.top hb3 (Nat.le_refl _)
      have hcell := htop3.cellAt k (by omega)
      rw [ssCells_at hlt] at hcell
      have hfz := htop3.frozenAt k
      have st := htop3.stored k (.slice (some ⟨g3, 0, none⟩) q.length q.length)
      rw [ssCells_set] at st
      have o3b := o3.kept st.2 (own_types o3 htop3 (fun q => tt_ne q.symm))
      have hacN : OwnAC (w3.setCell ⟨w.heap.size, k, none⟩ (.slice (some ⟨g3, 0, none⟩) q.length q.length)) w.heap.size (.slice (some ⟨w.heap.size, 0, none⟩) n n) n (fun i => if i = k then some ⟨g3, 0, none⟩ else A i) (fun i => if i = k then q.length else C i) (fun i => if i = k then q else if i < k then R i else []) := by
        refine ⟨st.1, fun i hi => ?_, fun i j hi hj hij => ?_⟩
        · by_cases e : i = k
          · subst e
            simp only [if_true]
            exact own_base o3b sB
          · simp only [if_neg e]
            exact (own_later (HAC.out.row i hi) hb3 (Nat.le_refl _)).kept st.2 (own_types (own_later (HAC.out.row i hi) hb3 (Nat.le_refl _)) htop3 (fun q => tt_ne q.symm))
        · have far : ∀ i, i < n → (Value.slice (A i) ((if i < k then R i else []) : List Int).length (C i)).ownBlock = none ∨ (Value.slice (A i) ((if i < k then R i else []) : List Int).length (C i)).ownBlock ≠ some g3 := fun i hi => by
            rcases hv : (Value.slice (A i) ((if i < k then R i else []) : List Int).length (C i)).ownBlock with _ | g
            · exact .inl rfl
            · refine .inr fun e => ?_
              have x := (HAC.out.row i hi).lt g hv
              have y := o3.lt g3 rfl
              simp only [Option.some.injEq] at e
              omega
          by_cases e : i = k
          · subst e
            have e2 : ¬ j = i := fun q => hij q.symm
            simp only [if_true, if_neg e2]
            rcases far j hj with q1 | q1
            · exact .inr (by rw [q1]; simp [Value.ownBlock])
            · exact .inr (fun r => q1 r.symm)
          · by_cases e2 : j = k
            · subst e2
              simp only [if_true, if_neg e]
              exact far i hi
            · simp only [if_neg e, if_neg e2]
              exact HAC.out.apart i j hi hj hij
      have hB3 := (HBB.out.trans (hb3.mono sB)).setCell (p := ⟨w.heap.size, k, none⟩) (Nat.le_refl _) (.slice (some ⟨g3, 0, none⟩) q.length q.length)
      have hacM : OwnAC (w3.setCell ⟨w.heap.size, k, none⟩ (.slice (some ⟨g3, 0, none⟩) q.length q.length)) w.heap.size (.slice (some ⟨w.heap.size, 0, none⟩) n n) n (fun i => if i = k then some ⟨g3, 0, none⟩ else A i) (fun i => if i = k then q.length else C i) (fun i => if i < k + 1 then R i else []) :=
        ⟨by rw [← ssCells_congr (R := fun i => if i = k then q else if i < k then R i else []) (fun i hi => ⟨rfl, rfl, by rw [← HRK.out i hi]⟩)]; exact hacN.top, fun i hi => by rw [← HRK.out i hi]; exact hacN.row i hi, fun i j hi hj hij => by rw [← HRK.out i hi, ← HRK.out j hj]; exact hacN.apart i j hi hj hij⟩
      have P := Lib.hid (And.intro hacM hB3)
      have hgw := (htop3.lt w.heap.size rfl).2
      clear htop3 st o3 o3b hacN hacM hB3 hb3 HTO
      go_wp2
      go_roundw
      case rel => exact ⟨k + 1, _, _, by omega, by go_num, P.out⟩
      case measure => simp [intOf]; omega
    · have hkn : k = n := by omega
      have HSS : Hid (OwnSS wr w.heap.size (.slice (some ⟨w.heap.size, 0, none⟩) n n) n R) := OwnSS.congr ⟨A, C, hac⟩ (fun i hi => by simp [show i < k by omega])
      clear hkn hac
      go_wp2
      go_ret
      exact ⟨w.heap.size, rfl, HSS.out, hB⟩

/-- n rows in memory of their own, in older blocks than T -/
def OwnIn (w : World) (B T : Nat) (v : Value) (n : Nat) (R : Nat → List Int) : Prop := ∃ A C, OwnAC w B v n A C R ∧ ∀ i, i < n → ∀ g, (Value.slice (A i) (R i).length (C i)).ownBlock = some g → g < T
theorem OwnIn.of {w : World} {B n : Nat} {v : Value} {R : Nat → List Int} (h : OwnSS w B v n R) : OwnIn w B w.heap.size v n R := by
  obtain ⟨A, C, h⟩ := h
  exact ⟨A, C, h, fun i hi g hg => ((h.row i hi).lt g hg).2⟩
theorem OwnIn.ss {w : World} {B T n : Nat} {v : Value} {R : Nat → List Int} (h : OwnIn w B T v n R) : OwnSS w B v n R := by
  obtain ⟨A, C, h, _⟩ := h
  exact ⟨A, C, h⟩
theorem OwnIn.later {w w' : World} {B T n c : Nat} {Ad : Option Addr} {R : Nat → List Int} (h : OwnIn w B T (.slice Ad n c) n R) {B' : Nat} (hb : Below B' w w') (hB : w.heap.size ≤ B') : OwnIn w' B T (.slice Ad n c) n R := by
  obtain ⟨A, C, ⟨h1, h2, h3⟩, h4⟩ := h
  exact ⟨A, C, ⟨own_later h1 hb hB, fun i hi => own_later (h2 i hi) hb hB, h3⟩, h4⟩
theorem OwnIn.kept {w w' : World} {B T n : Nat} {v : Value} {R : Nat → List Int} (h : OwnIn w B T v n R) {q : Option Nat} (hg : w.grownBy w' q) (hq : ∀ g, q = some g → g < B ∨ w.heap.size ≤ g) : OwnIn w' B T v n R := by
  obtain ⟨A, C, ⟨h1, h2, h3⟩, h4⟩ := h
  have key : ∀ {e z m : Nat} {u : Value} {xs : List Value}, w.ownsRow B e z u m xs → u.ownBlock = none ∨ u.ownBlock ≠ q := fun {e z m u xs} k => by
    rcases hu : u.ownBlock with _ | g
    · exact .inl rfl
    · refine .inr fun e => ?_
      have a := k.lt g hu
      have b := hq g e.symm
      omega
  exact ⟨A, C, ⟨h1.kept hg (key h1), fun i hi => (h2 i hi).kept hg (key (h2 i hi)), h3⟩, h4⟩
theorem pre_row (R : Nat → List Int) {i n : Nat} (h : i < n) : (R i).length ≤ pre R n := by
  have := pre_mono R (show i + 1 ≤ n by omega)
  simp only [pre] at this
  omega

set_option maxRecDepth 100000 in
set_option maxHeartbeats 2000000 in
theorem markSSin_any (Ad : Option Addr) (n c B T : Nat) (k0 : Int) (R : Nat → List Int) (w : World) (ho : OwnIn w B T (.slice Ad n c) n R) (hn : n ≤ 2000000) (hR : pre R n ≤ 100000000) (h0 : 0 ≤ k0) (h1 : k0 ≤ 100000000) :
    Calls Try.prog 30 #[.slice Ad n c, .int .i64 k0] w fun e w' => e = .returned (.int .i64 (k0 + (pre R n : Nat))) ∧ OwnIn w' B T (.slice Ad n c) n (markR k0 R) ∧ Below B w w' ∧ Chg (fun q => B ≤ q ∧ q < T) w w' := by
  obtain ⟨A, C, ho, hT⟩ := ho
  have HO := Lib.hid ho
  have HT := Lib.hid hT
  clear ho hT
  go_enter Try.func30, Try.ntmps30
  go_wp2
  go_loopw [1, 5] (fun q i wr => ∃ (k : Nat), k ≤ n ∧ i = .int .i64 k ∧ q = .int .i64 (k0 + (pre R k : Nat)) ∧ OwnAC wr B (.slice Ad n c) n A C (fun i => if i < k then markR k0 R i else R i) ∧ Below B w wr ∧ Chg (fun q => B ≤ q ∧ q < T) w wr) (fun _ i _ => n - (intOf i).toNat)
  case atStart => exact ⟨0, Nat.zero_le _, rfl, by simp [pre], by simpa using HO.out, Below.refl _ _, Chg.refl _ _⟩
  case round =>
    clear HO
    obtain ⟨k, hk, rfl, rfl, hown, hB, hCH⟩ := hrel
    have HOW := Lib.hid hown
    have hpk := pre_mono R hk
    by_cases hlt : k < n
    · have hpk1 := pre_mono R (show k + 1 ≤ n by omega)
      have hps : Hid (pre R (k + 1) = pre R k + (R k).length) := rfl
      have hlen : (R k).length ≤ 100000000 := by have := hps.out; omega
      obtain ⟨g, rfl, hg1, hg2⟩ := own_at hown.top (by omega)
      have a0 := hown.top.cellAt k (by omega)
      rw [ssCells_at hlt] at a0
      have hrow := hown.row k hlt
      simp only [Nat.lt_irrefl, if_false] at a0 hrow
      have HRW := Lib.hid hrow
      have HM := Lib.hid (fun wx h => markIntS_any (A k) (R k).length (C k) B (k0 + (pre R k : Nat)) (R k) wx h (by omega) (by omega) (by omega))
      clear hrow hown
      go_wp2_with fail
      refine (HM.out _ HRW.out).mono ?_; rintro e w3 ⟨rfl, own3, hb3, hg3⟩
      have hown3 : OwnAC w3 B (.slice (some ⟨g, 0, none⟩) n c) n A C (fun i => if i < k + 1 then markR k0 R i else R i) := by
        have hle : ∀ i, (if i < k then markR k0 R i else R i).length = (if i < k + 1 then markR k0 R i else R i).length := fun i => by
          split <;> split <;> simp [markR, length_marks1]
        refine ⟨?_, fun i hi => ?_, fun i j hi hj hij => ?_⟩
        · rw [← ssCells_congr (fun i hi => ⟨rfl, rfl, hle i⟩)]
          exact HOW.out.top.kept hg3 (own_types HOW.out.top HRW.out tt_ne)
        · by_cases e : i = k
          · subst e
            simp only [Nat.lt_succ_self, if_true, markR, length_marks1]
            exact own3
          · have q := HOW.out.row i hi
            have q2 := HOW.out.apart i k hi hlt e
            simp only [Nat.lt_irrefl, if_false] at q2
            have q3 := q.kept hg3 q2
            have e2 : (if i < k + 1 then markR k0 R i else R i) = (if i < k then markR k0 R i else R i) := by
              by_cases e3 : i < k
              · rw [if_pos e3, if_pos (by omega)]
              · rw [if_neg e3, if_neg (by omega)]
            rw [e2]
            exact q3
        · have q := HOW.out.apart i j hi hj hij
          rw [ob_len _ _ (if i < k + 1 then markR k0 R i else R i).length _ (C i), ob_len (A j) _ (if j < k + 1 then markR k0 R j else R j).length _ (C j)] at q
          exact q
      have HO3 := Lib.hid hown3
      have HB3 := Lib.hid (hB.trans hb3)
      have HC3 : Hid (Chg (fun q => B ≤ q ∧ q < T) w w3) := hCH.trans (Chg.of_grown hg3 (fun q hq => ⟨(HRW.out.lt q hq).1, HT.out k hlt q hq⟩))
      clear hown3 own3 hg3 hb3 hB hCH HOW
      have hsum : k0 + ((pre R k : Nat) : Int) + ((R k).length : Int) = k0 + ((pre R (k + 1) : Nat) : Int) := by rw [hps.out]; simp; omega
      go_wp2
      go_roundw
      case rel => exact ⟨k + 1, by omega, by go_num, by rw [← hsum], HO3.out, HB3.out, HC3.out⟩
      case measure => simp [intOf]; omega
    · go_wp2
      go_ret
      have hkn : k = n := by omega
      subst hkn
      have hac2 : OwnAC wr B (.slice Ad k c) k A C (markR k0 R) := by
        refine ⟨?_, fun i hi => ?_, fun i j hi hj hij => ?_⟩
        · rw [← ssCells_congr (R := fun i => if i < k then markR k0 R i else R i) (fun i hi => ⟨rfl, rfl, by simp only [if_pos hi]⟩)]
          exact hown.top
        · have q := hown.row i hi
          simp only [if_pos hi] at q
          exact q
        · have q := hown.apart i j hi hj hij
          simp only [if_pos hi, if_pos hj] at q
          exact q
      exact ⟨rfl, ⟨A, C, hac2, fun i hi g hg => HT.out i hi g (by rw [ob_len _ _ (markR k0 R i).length _ (C i)]; exact hg)⟩, hB, hCH⟩


end Go.Proofs.Ytclkddehaomdjaa
