/-
  Contracts: all chomps that fit into a bar, of the model (l1Own, cmLook, cmAll).
-/
import Derived.Test.YtghlgmbekgfmnaaListW
import Derived.Test.YtghlgmbekgfmnaaSS
import Derived.Test.YtghlgmbekgfmnaaMoves
namespace Go.Proofs.Ytghlgmbekgfmnaa
open Go.RowKit
set_option linter.unusedVariables false

theorem rd_addI {w : World} {n b o : Nat} {xs : List Int} (hr : Rd w 1 (some ⟨b, o, none⟩) n (intCells xs)) : ∀ (j : Nat) (u : Value), (intCells xs)[j]? = some u → w.cell? ((⟨b, o, none⟩ : Addr).add j) = some u := by
  intro j u hu
  have hj : j < n := by have := (List.getElem?_eq_some_iff.1 hu).1; rw [length_intCells, hr.ilen] at this; exact this
  obtain ⟨b', o', e, _, hc⟩ := hr.2 (by omega)
  simp only [Option.some.injEq, Addr.mk.injEq, and_true] at e
  obtain ⟨rfl, rfl⟩ := e
  rw [addr_add]
  exact hc j u hu

set_option maxRecDepth 100000 in
set_option maxHeartbeats 1000000 in
theorem l1Own_any (A : Option Addr) (n c B : Nat) (b : List Int) (w : World) (ho : w.ownsRow B 3 1 (.slice A n c) n (intCells b)) (hn : n ≤ 1000) :
    Calls Try.prog 123 #[.slice A n c] w fun e w' => ∃ A' c', e = .returned (.slice A' n c') ∧ w'.ownsRow w.heap.size 3 1 (.slice A' n c') n (intCells b) ∧ Below w.heap.size w w' := by
  obtain ⟨i0, hi, hz0, hz1, hz2⟩ := info_parts int_info
  have hne := World.ownsRow_lit (base := w.heap.size) (e := 3) (size := 1) w #[] 0 (Nat.le_refl _) (by simp [maxLen]) rfl
  have hlen : b.length = n := by have := ho.1; rw [length_intCells] at this; omega
  rcases ho.2 with ⟨hv, h0⟩ | ⟨g, cap, cur, hv, hb, hg, _⟩
  · simp only [Value.slice.injEq] at hv
    obtain ⟨rfl, rfl, rfl⟩ := hv
    have hbn : b = [] := List.length_eq_zero_iff.1 hlen
    subst hbn
    go_enter Try.func123, Try.ntmps123
    go_wp2
    go_ret
    exact ⟨_, _, rfl, by simpa [intCells] using hne, by (repeat (first | (with_reducible exact Below.refl _ _) | (with_reducible assumption) | (with_reducible refine Below.drew ?_) | ((with_reducible refine balloc ?_ _ ?_); · (first | (simp; done) | (simp; omega) | omega)) | ((with_reducible refine bset ?_ _ ?_); · (first | (simp; done) | (simp; omega) | omega)) | (with_reducible refine bdrewN _ ?_) | ((with_reducible refine bcall ?_ (by assumption) ?_); · (first | (simp; done) | (simp; omega) | omega))))⟩
  · simp only [Value.slice.injEq] at hv
    obtain ⟨rfl, _, rfl⟩ := hv
    have hr2 := (Rd.of_own ho).alloc (.cells #[] 3)
    have hc0 : (intCells b).length = n * 1 := by rw [length_intCells, hlen, Nat.mul_one]
    have hc1 := rd_addI hr2
    have hc3 : 0 + n ≤ maxLen := by simp only [maxLen]; omega
    have hc4 : (0 + n) * 8 ≤ 140737488355328 := by omega
    have hc5 : w.heap.size ≤ (w.alloc (.cells #[] 3)).heap.size := by simp
    go_enter Try.func123, Try.ntmps123
    go_wp2_with (at_builtin; refine wpList_append_own _ rfl (.tmp 3) (.tmp 4) 39 rfl w.heap.size 3 i0 (.int .i64 0) 1 8 Try.underlying39 hi hz0 hz1 hz2 rfl (by decide) _ _ _ rfl hne ⟨g, 0, none⟩ n c (intCells b) rfl hc0 hc1 (int_oneCell b) hc3 hc4 hc5 ?_)
    intro v' w2 hown' hgrow _
    have hb2 := gb_new (Nat.le_refl _) ((Below.refl w.heap.size w).alloc (Nat.le_refl _) (.cells #[] 3)) hgrow (fun g hg => (hne.lt g hg).1)
    obtain ⟨A', c', rfl⟩ := own_slice hown'
    clear hc0 hc1 hc3 hc4 hc5
    go_wp2
    go_ret
    exact ⟨A', c', by simp, by simpa using hown', hb2⟩

/-- the rows of a list -/
def lsR (M : List (List Int)) : Nat → List Int := fun i => M.getD i []
theorem lsR_snoc {M : List (List Int)} {n : Nat} (hn : M.length = n) (l : List Int) (i : Nat) (hi : i < n + 1) : (if i = n then l else lsR M i) = lsR (M ++ [l]) i := by
  unfold lsR
  by_cases e : i = n
  · subst e; subst hn; simp
  · rw [if_neg e]
    simp [List.getD, List.getElem?_append_left (show i < M.length by omega)]
def pb (b : List Int) : List (List Int) := if b = [] then [] else [b]

/-- block q is a box of a slice of slices -/
def BoxS (w : World) (q : Nat) (v : Value) : Prop := w.ownsRow 0 45 1 (.slice (some ⟨q, 0, none⟩) 1 1) 1 [v]
theorem BoxS.cell {w : World} {q : Nat} {v : Value} (h : BoxS w q v) : w.cell? ⟨q, 0, none⟩ = some v := by rw [World.ownsRow.cellAt h 0 (by omega)]; rfl
theorem BoxS.frozen {w : World} {q : Nat} {v : Value} (h : BoxS w q v) : w.frozen? ⟨q, 0, none⟩ = false := World.ownsRow.frozenAt h 0
theorem BoxS.lt {w : World} {q : Nat} {v : Value} (h : BoxS w q v) : q < w.heap.size := (World.ownsRow.lt h q rfl).2
theorem BoxS.new (w : World) (v : Value) : BoxS (w.alloc (.cells #[v] 45)) w.heap.size v := own_new w 45 1 1 #[v] rfl (by omega) (Nat.zero_le _)
theorem BoxS.alloc {w : World} {q : Nat} {v : Value} (h : BoxS w q v) (o : Obj) : BoxS (w.alloc o) q v := own_alloc h o
theorem BoxS.below {w w' : World} {q B : Nat} {v : Value} (h : BoxS w q v) (hb : Below B w w') (hB : w.heap.size ≤ B) : BoxS w' q v := own_later h hb hB
theorem BoxS.grown {w w' : World} {q : Nat} {v : Value} {r : Option Nat} (h : BoxS w q v) (hg : w.grownBy w' r) (hq : r ≠ some q) : BoxS w' q v := World.ownsRow.kept h hg (.inr (by simp only [Value.ownBlock]; exact fun e => hq e.symm))
theorem BoxS.set {w : World} {q : Nat} {v : Value} (h : BoxS w q v) (u : Value) : BoxS (w.setCell ⟨q, 0, none⟩ u) q u ∧ w.grownBy (w.setCell ⟨q, 0, none⟩ u) (some q) := World.ownsRow.stored h 0 u

/-- whatever lies below B but the box is as before -/
structure Rel (B q : Nat) (w w' : World) : Prop where
  os : w'.os = w.os
  tape : w'.tape = w.tape
  output : w'.output = w.output
  size : w.heap.size ≤ w'.heap.size
  block : ∀ i, i < B → i ≠ q → w'.heap[i]? = w.heap[i]?
theorem Rel.refl (B q : Nat) (w : World) : Rel B q w w := ⟨rfl, rfl, rfl, Nat.le_refl _, fun _ _ _ => rfl⟩
theorem Rel.trans {B q : Nat} {a b c : World} (h : Rel B q a b) (k : Rel B q b c) : Rel B q a c :=
  ⟨k.os.trans h.os, k.tape.trans h.tape, k.output.trans h.output, Nat.le_trans h.size k.size, fun i hi hq => (k.block i hi hq).trans (h.block i hi hq)⟩
theorem Rel.of_below {B C q : Nat} {w w' : World} (h : Below C w w') (hB : B ≤ C) : Rel B q w w' := ⟨h.os, h.tape, h.output, h.size, fun i hi _ => h.block i (by omega)⟩
theorem Rel.of_grown {B q : Nat} {w w' : World} {r : Option Nat} (h : w.grownBy w' r) (hB : B ≤ w.heap.size) (hr : ∀ g, r = some g → B ≤ g ∨ g = q) : Rel B q w w' :=
  ⟨h.os, h.tape, h.output, h.size, fun i hi hq => h.block i (by omega) (fun e => by rcases hr i e.symm with x | x <;> omega)⟩
/-- rows of numbers stay -/
def KeepI (w w' : World) : Prop := ∀ (B n : Nat) (v : Value) (xs : List Value), w.ownsRow B 3 1 v n xs → w'.ownsRow B 3 1 v n xs
theorem KeepI.refl (w : World) : KeepI w w := fun _ _ _ _ h => h
theorem KeepI.trans {a b c : World} (h : KeepI a b) (k : KeepI b c) : KeepI a c := fun B n v xs x => k B n v xs (h B n v xs x)
theorem KeepI.of_below {w w' : World} (h : Below w.heap.size w w') : KeepI w w' := fun B n v xs x => x.kept (gb_below h none) (by
  rcases hv : v.ownBlock with _ | g
  · exact .inl rfl
  · exact .inr (by simp))
theorem KeepI.of_grown {w w' : World} {B e n z : Nat} {v : Value} {xs : List Value} (h : w.grownBy w' v.ownBlock) (hv : w.ownsRow B e z v n xs) (he : (3 : Nat) ≠ e) : KeepI w w' := fun _ _ _ _ x => x.kept h (own_types x hv he)
theorem t2_ne : (3 : Nat) ≠ 45 ∧ (3 : Nat) ≠ 39 ∧ (39 : Nat) ≠ 45 := by decide
theorem KeepI.of_set {w : World} {q : Nat} {v : Value} (h : BoxS w q v) (u : Value) : KeepI w (w.setCell ⟨q, 0, none⟩ u) := fun _ _ _ _ x => x.kept (h.set u).2 (own_types x h t2_ne.1)
theorem ints_info : (Try.prog.info? 39).map (fun i => (i.zero, i.size, i.bytes)) = some (some (.slice none 0 0), 1, 24) := by kernel_rfl

/-- what cmLook leaves -/
def LookPost (B q0 : Nat) (M : List (List Int)) (w w' : World) : Prop := ∃ A' n' c', BoxS w' q0 (.slice A' n' c') ∧ M.length = n' ∧ OwnSS w' B (.slice A' n' c') n' (lsR M) ∧ Rel B q0 w w' ∧ KeepI w w'

set_option maxRecDepth 100000 in
set_option maxHeartbeats 8000000 in
theorem cmLook_any : ∀ (h : Nat) (wd : Nat) (b : List Int) (nb : Nat) (Ab : Option Addr) (cb q0 B : Nat) (A : Option Addr) (n c : Nat) (AC : Nat → Option Addr) (CC : Nat → Nat) (M : List (List Int)) (w : World), wd ≤ 6 → q0 < B → B ≤ w.heap.size → b.length = nb → nb + h ≤ 1000 → M.length = n → n + 1 + cntC h wd ≤ 100000 → BoxS w q0 (.slice A n c) → OwnAC w B (.slice A n c) n AC CC (lsR M) → w.ownsRow B 3 1 (.slice Ab nb cb) nb (intCells b) → (∀ i, i < n → (Value.slice (AC i) (lsR M i).length (CC i)).ownBlock = none ∨ (Value.slice (AC i) (lsR M i).length (CC i)).ownBlock ≠ (Value.slice Ab nb cb).ownBlock) →
    Calls Try.prog 117 #[.int .i64 (wd : Int), .int .i64 (h : Int), .slice Ab nb cb, .pointer (some ⟨q0, 0, none⟩)] w fun e w' => e = .returned (.tuple #[]) ∧ LookPost B q0 (M ++ pb b ++ chs h wd b) w w' := by
  intro h
  induction h with
  | zero =>
    intro wd b nb Ab cb q0 B A n c AC CC M w hwd hqB hB hnb hbl hML hcnt hbx ho hbeg hfar
    obtain ⟨i0, hi, hz0, hz1, hz2⟩ := info_parts ints_info
    have HR : Hid (M ++ pb b ++ chs 0 wd b = M ++ pb b) := by simp [Hid, chs]
    rw [HR.out]
    have h1n : n + 1 ≤ 100000 := by omega
    by_cases hb0 : 0 < nb
    · have hpos : decide ((0 : Int) < (nb : Int)) = true := by simp; omega
      have hbs : b ≠ [] := fun e => by subst e; simp at hnb; omega
      have HPB : Hid (M ++ pb b = M ++ [b]) := by simp [Hid, pb, hbs]
      have hc3 : n + 1 ≤ maxLen := by simp only [maxLen]; omega
      have hq := hbx.lt
      have HTOP := Lib.hid (own_alloc ho.top (.cells #[.slice Ab nb cb] 39))
      have hcq := cell_alloc (o := .cells #[.slice Ab nb cb] 39) (show (⟨q0, 0, none⟩ : Addr).block < w.heap.size from hq) hbx.cell
      have hcq0 := hbx.cell
      have HBX := Lib.hid hbx
      have HO := Lib.hid ho
      have HBEG := Lib.hid hbeg
      have HFAR := Lib.hid hfar
      clear hbs hbx ho hbeg hfar
      go_enter Try.func117, Try.ntmps117
      go_wp2_with (at_builtin; refine wpList_append_own _ rfl (.tmp 15) (.tmp 17) 45 rfl B 39 i0 (.slice none 0 0) 1 24 Try.underlying45 hi hz0 hz1 hz2 rfl (by decide) _ _ _ rfl HTOP.out ⟨w.heap.size, 0, none⟩ 1 1 [.slice Ab nb cb] rfl rfl (new1 _ _ _) (by intro u hu; simp at hu; subst hu; rfl) hc3 (by omega) (by simp; omega) ?_)
      intro v' w1 hown' hgrow _
      obtain ⟨A2, c2', rfl⟩ := own_slice hown'
      have hts : (Value.slice A n c).ownBlock ≠ some q0 := fun e => by have := HO.out.top.lt q0 e; omega
      have hbx1 := (BoxS.alloc HBX.out (.cells #[.slice Ab nb cb] 39)).grown hgrow hts
      have hss : OwnSS w1 B (.slice A2 (n + 1) c2') (n + 1) (fun i => if i = n then b else lsR M i) := OwnAC.snoc (w := w.alloc (.cells #[.slice Ab nb cb] 39)) (a := Ab) (c := cb) (l := b) ⟨own_alloc HO.out.top _, fun i hi => own_alloc (HO.out.row i hi) _, HO.out.apart⟩ (by rw [hnb]; exact own_alloc HBEG.out _) (fun i hi => by rw [hnb]; exact HFAR.out i hi) hgrow (by rw [hnb]; exact hown')
      have hss1 : OwnSS w1 B (.slice A2 (n + 1) c2') (n + 1) (lsR (M ++ pb b)) := hss.congr fun i hi => by rw [HPB.out]; exact lsR_snoc hML b i hi
      have hki1 : KeepI w w1 := (KeepI.of_below ((Below.refl w.heap.size w).alloc (Nat.le_refl _) (.cells #[.slice Ab nb cb] 39))).trans (KeepI.of_grown hgrow HTOP.out t2_ne.2.1)
      have hrl1 : Rel B q0 w w1 := (Rel.of_below ((Below.refl w.heap.size w).alloc (Nat.le_refl _) (.cells #[.slice Ab nb cb] 39)) hB).trans (Rel.of_grown hgrow (by simp; omega) (fun g hg => .inl (HO.out.top.lt g hg).1))
      have hs1 := hbx1.set (.slice A2 (n + 1) c2')
      have hbx2 := hs1.1
      have hss2 := hss1.kept hs1.2 (fun g hg => by cases hg; exact .inl hqB)
      have hki2 := hki1.trans (KeepI.of_set hbx1 (.slice A2 (n + 1) c2'))
      have hrl2 := hrl1.trans (Rel.of_grown hs1.2 (by have := hrl1.size; omega) (fun g hg => by cases hg; exact .inr rfl))
      have hbg2 := hki2 B nb _ _ HBEG.out
      have hLN : (M ++ pb b).length = n + 1 := by rw [HPB.out, List.length_append, hML]; rfl
      have qc := hbx1.cell
      have qf := hbx1.frozen
      have BX2 := Lib.hid hbx2
      have SS2 := Lib.hid hss2
      have KI2 := Lib.hid hki2
      have RL2 := Lib.hid hrl2
      have BG2 := Lib.hid hbg2
      have LN2 := Lib.hid hLN
      clear hown' hgrow hts hbx1 hss hss1 hki1 hrl1 hs1 hbx2 hss2 hki2 hrl2 hbg2 hLN HTOP hcq HBX HO HBEG HFAR hc3 HPB hcq0
      go_wp2
      refine bodyPost_ret (v := .tuple #[]) (by simp [results, Try.results117, go_sem]) rfl ⟨rfl, A2, n + 1, c2', BX2.out, LN2.out, SS2.out, RL2.out, KI2.out⟩
    · have hpos : decide ((0 : Int) < (nb : Int)) = false := by simp; omega
      have hbs : b = [] := List.length_eq_zero_iff.1 (by omega)
      have HPB : Hid (M ++ pb b = M) := by simp [Hid, pb, hbs]
      have BX2 := Lib.hid hbx
      have SS2 : Hid (OwnSS w B (.slice A n c) n (lsR (M ++ pb b))) := by rw [HPB.out]; exact ⟨AC, CC, ho⟩
      have KI2 := Lib.hid (KeepI.refl w)
      have RL2 := Lib.hid (Rel.refl B q0 w)
      have BG2 := Lib.hid hbeg
      have LN2 : Hid ((M ++ pb b).length = n) := by rw [HPB.out]; exact hML
      clear hbs hbx ho hbeg hfar HPB
      go_enter Try.func117, Try.ntmps117
      go_wp2
      refine bodyPost_ret (v := .tuple #[]) (by simp [results, Try.results117, go_sem]) rfl ⟨rfl, A, n, c, BX2.out, LN2.out, SS2.out, RL2.out, KI2.out⟩
  | succ h ih =>
    intro wd b nb Ab cb q0 B A n c AC CC M w hwd hqB hB hnb hbl hML hcnt hbx ho hbeg hfar
    obtain ⟨i0, hi, hz0, hz1, hz2⟩ := info_parts ints_info
    obtain ⟨j0, hj, hy0, hy1, hy2⟩ := info_parts int_info
    rw [chs_succ]
    obtain ⟨z, hzz⟩ : ∃ z : Int, z = ((h + 1 : Nat) : Int) := ⟨_, rfl⟩
    rw [← hzz]
    have hh0 : (z == 0) = false := by simp; omega
    have hzl : 1 ≤ z := by omega
    have hzu : z ≤ 1000 := by omega
    have hzh : z - 1 = (h : Int) := by omega
    clear hzz
    by_cases hb0 : 0 < nb
    · have hpos : decide ((0 : Int) < (nb : Int)) = true := by simp; omega
      have hbs : b ≠ [] := fun e => by subst e; simp at hnb; omega
      have HPB : Hid (M ++ pb b = M ++ [b]) := by simp [Hid, pb, hbs]
      have hc3 : n + 1 ≤ maxLen := by simp only [maxLen]; omega
      have hq := hbx.lt
      have HTOP := Lib.hid (own_alloc ho.top (.cells #[.slice Ab nb cb] 39))
      have hcq := cell_alloc (o := .cells #[.slice Ab nb cb] 39) (show (⟨q0, 0, none⟩ : Addr).block < w.heap.size from hq) hbx.cell
      have hcq0 := hbx.cell
      have HBX := Lib.hid hbx
      have HO := Lib.hid ho
      have HBEG := Lib.hid hbeg
      have HFAR := Lib.hid hfar
      clear hbs hbx ho hbeg hfar
      go_enter Try.func117, Try.ntmps117
      go_wp2_with (at_builtin; refine wpList_append_own _ rfl (.tmp 15) (.tmp 17) 45 rfl B 39 i0 (.slice none 0 0) 1 24 Try.underlying45 hi hz0 hz1 hz2 rfl (by decide) _ _ _ rfl HTOP.out ⟨w.heap.size, 0, none⟩ 1 1 [.slice Ab nb cb] rfl rfl (new1 _ _ _) (by intro u hu; simp at hu; subst hu; rfl) hc3 (by omega) (by simp; omega) ?_)
      intro v' w1 hown' hgrow _
      obtain ⟨A2, c2', rfl⟩ := own_slice hown'
      have hts : (Value.slice A n c).ownBlock ≠ some q0 := fun e => by have := HO.out.top.lt q0 e; omega
      have hbx1 := (BoxS.alloc HBX.out (.cells #[.slice Ab nb cb] 39)).grown hgrow hts
      have hss : OwnSS w1 B (.slice A2 (n + 1) c2') (n + 1) (fun i => if i = n then b else lsR M i) := OwnAC.snoc (w := w.alloc (.cells #[.slice Ab nb cb] 39)) (a := Ab) (c := cb) (l := b) ⟨own_alloc HO.out.top _, fun i hi => own_alloc (HO.out.row i hi) _, HO.out.apart⟩ (by rw [hnb]; exact own_alloc HBEG.out _) (fun i hi => by rw [hnb]; exact HFAR.out i hi) hgrow (by rw [hnb]; exact hown')
      have hss1 : OwnSS w1 B (.slice A2 (n + 1) c2') (n + 1) (lsR (M ++ pb b)) := hss.congr fun i hi => by rw [HPB.out]; exact lsR_snoc hML b i hi
      have hki1 : KeepI w w1 := (KeepI.of_below ((Below.refl w.heap.size w).alloc (Nat.le_refl _) (.cells #[.slice Ab nb cb] 39))).trans (KeepI.of_grown hgrow HTOP.out t2_ne.2.1)
      have hrl1 : Rel B q0 w w1 := (Rel.of_below ((Below.refl w.heap.size w).alloc (Nat.le_refl _) (.cells #[.slice Ab nb cb] 39)) hB).trans (Rel.of_grown hgrow (by simp; omega) (fun g hg => .inl (HO.out.top.lt g hg).1))
      have hs1 := hbx1.set (.slice A2 (n + 1) c2')
      have hbx2 := hs1.1
      have hss2 := hss1.kept hs1.2 (fun g hg => by cases hg; exact .inl hqB)
      have hki2 := hki1.trans (KeepI.of_set hbx1 (.slice A2 (n + 1) c2'))
      have hrl2 := hrl1.trans (Rel.of_grown hs1.2 (by have := hrl1.size; omega) (fun g hg => by cases hg; exact .inr rfl))
      have hbg2 := hki2 B nb _ _ HBEG.out
      have hLN : (M ++ pb b).length = n + 1 := by rw [HPB.out, List.length_append, hML]; rfl
      have qc := hbx1.cell
      have qf := hbx1.frozen
      have BX2 := Lib.hid hbx2
      have SS2 := Lib.hid hss2
      have KI2 := Lib.hid hki2
      have RL2 := Lib.hid hrl2
      have BG2 := Lib.hid hbg2
      have LN2 := Lib.hid hLN
      clear hown' hgrow hts hbx1 hss hss1 hki1 hrl1 hs1 hbx2 hss2 hki2 hrl2 hbg2 hLN HTOP hcq HBX HO HBEG HFAR hc3 HPB hcq0
      go_wp2
      generalize w1.setCell ⟨q0, 0, none⟩ (.slice A2 (n + 1) c2') = w2 at *
      clear qc qf
      go_loopw [8] (fun i wr => ∃ (k n' c' : Nat) (A' : Option Addr), k ≤ wd ∧ i = .int .i64 ((k : Int) + 1) ∧ BoxS wr q0 (.slice A' n' c') ∧ Hid ((M ++ pb b ++ chsK h k b).length = n') ∧ OwnSS wr B (.slice A' n' c') n' (lsR (M ++ pb b ++ chsK h k b)) ∧ wr.ownsRow B 3 1 (.slice Ab nb cb) nb (intCells b) ∧ Rel B q0 w wr ∧ KeepI w wr) (fun i _ => wd + 1 - (intOf i).toNat)
      case atStart => exact ⟨0, _, _, _, Nat.zero_le _, rfl, BX2.out, by simpa [Hid, chsK_zero] using LN2.out, by simpa [chsK_zero] using SS2.out, BG2.out, RL2.out, KI2.out⟩
      case round =>
        clear BX2 SS2 KI2 RL2 BG2
        obtain ⟨k, n', c', A', hk, rfl, hbx, hLN, hss, hbg, hrl, hki⟩ := hrel
        have HBXr := Lib.hid hbx
        have HSSr := Lib.hid hss
        have HBGr := Lib.hid hbg
        have HRLr := Lib.hid hrl
        have HKIr := Lib.hid hki
        have sr := hrl.size
        by_cases hlt : k < wd
        · have hle : (k : Int) + 1 ≤ (wd : Int) := by omega
          have hcn2 : n' + 1 + cntC h (k + 1) ≤ 100000 := by
            have e1 := length_chsK_mono (h := h) b (show k + 1 ≤ wd by omega)
            rw [← chs_succ h wd, length_chs, chsK_succ, List.length_append, List.length_cons, length_chs] at e1
            have e2 := hLN.out
            have e3 := LN2.out
            rw [List.length_append, e3] at e2
            omega
          have HSN : Hid (M ++ pb b ++ chsK h (k + 1) b = (M ++ pb b ++ chsK h k b) ++ pb (b ++ [((k : Int) + 1)]) ++ chs h (k + 1) (b ++ [((k : Int) + 1)])) := by simp [Hid, chsK_succ, pb]
          have HL1 := Lib.hid (l1Own_any Ab nb cb B b wr hbg (by omega))
          clear hbx hss hbg hrl hki
          go_wp2_with fail
          refine (HL1.out).mono ?_; rintro e w3 ⟨A3, c3, rfl, own3, hb3⟩
          have s3 := hb3.size
          have OW3 := Lib.hid (own_alloc own3 (.cells #[.int .i64 ((k : Int) + 1)] 3))
          have hc3 : nb + 1 ≤ maxLen := by simp only [maxLen]; omega
          clear HL1
          go_wp2_with (at_builtin; refine wpList_append_own _ rfl (.tmp 31) (.tmp 33) 39 rfl wr.heap.size 3 j0 (.int .i64 0) 1 8 Try.underlying39 hj hy0 hy1 hy2 rfl (by decide) _ _ _ rfl OW3.out ⟨w3.heap.size, 0, none⟩ 1 1 [.int .i64 ((k : Int) + 1)] rfl rfl (new1 _ _ _) (int_oneCell [_]) hc3 (by omega) (by simp; omega) ?_)
          intro v' w4 hown' hgrow _
          obtain ⟨A4, c4, rfl⟩ := own_slice hown'
          have hb4 : Below wr.heap.size wr w4 := gb_new (Nat.le_refl _) (hb3.alloc (by omega) (.cells #[.int .i64 ((k : Int) + 1)] 3)) hgrow (fun g hg => (OW3.out.lt g hg).1)
          have s4 := hb4.size
          have HN4 : Hid (w4.ownsRow wr.heap.size 3 1 (.slice A4 (nb + 1) c4) (nb + 1) (intCells (b ++ [((k : Int) + 1)]))) := by simp only [Hid]; rw [intCells_append]; exact hown'
          have HB4 := Lib.hid hb4
          obtain ⟨AC4, CC4, hac⟩ := HSSr.out
          have HIH := Lib.hid (ih (k + 1) (b ++ [((k : Int) + 1)]) (nb + 1) A4 c4 q0 B A' n' c' AC4 CC4 (M ++ pb b ++ chsK h k b) w4 (by omega) hqB (by omega) (by rw [List.length_append, hnb]; rfl) (by omega) hLN.out hcn2 (HBXr.out.below hb4 (Nat.le_refl _)) ⟨own_later hac.top hb4 (Nat.le_refl _), fun i hi => own_later (hac.row i hi) hb4 (Nat.le_refl _), hac.apart⟩ (own_base HN4.out (by omega)) (fun i hi => by
            rcases hv : (Value.slice (AC4 i) (lsR (M ++ pb b ++ chsK h k b) i).length (CC4 i)).ownBlock with _ | g
            · exact .inl rfl
            · refine .inr fun e => ?_
              have x := (hac.row i hi).lt g hv
              have y := HN4.out.lt g e.symm
              omega))
          clear hown' hgrow hb3 hb4 own3 OW3 hc3 hac
          go_wp2_with fail
          refine (HIH.out).mono ?_; rintro e w5 ⟨rfl, A5, n5, c5, hbx5, hL5, hss5, hrl5, hki5⟩
          have HX5 := Lib.hid hbx5
          have HL5 : Hid ((M ++ pb b ++ chsK h (k + 1) b).length = n5) := by simp only [Hid]; rw [HSN.out]; exact hL5
          have HS5 : Hid (OwnSS w5 B (.slice A5 n5 c5) n5 (lsR (M ++ pb b ++ chsK h (k + 1) b))) := by simp only [Hid]; rw [HSN.out]; exact hss5
          have HK5 := Lib.hid (HKIr.out.trans ((KeepI.of_below HB4.out).trans hki5))
          have HR5 := Lib.hid (HRLr.out.trans ((Rel.of_below HB4.out (show B ≤ wr.heap.size by omega)).trans hrl5))
          have HG5 := Lib.hid (((KeepI.of_below HB4.out).trans hki5) B nb _ _ HBGr.out)
          clear hbx5 hL5 hss5 hrl5 hki5 HIH
          go_wp2
          go_roundw
          case rel => exact ⟨k + 1, n5, c5, A5, by omega, by go_num, HX5.out, HL5.out, HS5.out, HG5.out, HR5.out, HK5.out⟩
          case measure => simp [intOf]; omega
        · have hkw : k = wd := by omega
          rw [hkw] at hLN hss
          have HLE := Lib.hid hLN.out
          have HSE := Lib.hid hss
          clear hkw hbx hss hbg hrl hki HSSr
          go_wp2

          refine bodyPost_end (v := .tuple #[]) (by simp [results, Try.results117, go_sem]) rfl ⟨rfl, A', n', c', HBXr.out, HLE.out, HSE.out, HRLr.out, HKIr.out⟩
    · have hpos : decide ((0 : Int) < (nb : Int)) = false := by simp; omega
      have hbs : b = [] := List.length_eq_zero_iff.1 (by omega)
      have HPB : Hid (M ++ pb b = M) := by simp [Hid, pb, hbs]
      have BX2 := Lib.hid hbx
      have SS2 : Hid (OwnSS w B (.slice A n c) n (lsR (M ++ pb b))) := by rw [HPB.out]; exact ⟨AC, CC, ho⟩
      have KI2 := Lib.hid (KeepI.refl w)
      have RL2 := Lib.hid (Rel.refl B q0 w)
      have BG2 := Lib.hid hbeg
      have LN2 : Hid ((M ++ pb b).length = n) := by rw [HPB.out]; exact hML
      clear hbs hbx ho hbeg hfar HPB
      go_enter Try.func117, Try.ntmps117
      go_wp2
      go_loopw [8] (fun i wr => ∃ (k n' c' : Nat) (A' : Option Addr), k ≤ wd ∧ i = .int .i64 ((k : Int) + 1) ∧ BoxS wr q0 (.slice A' n' c') ∧ Hid ((M ++ pb b ++ chsK h k b).length = n') ∧ OwnSS wr B (.slice A' n' c') n' (lsR (M ++ pb b ++ chsK h k b)) ∧ wr.ownsRow B 3 1 (.slice Ab nb cb) nb (intCells b) ∧ Rel B q0 w wr ∧ KeepI w wr) (fun i _ => wd + 1 - (intOf i).toNat)
      case atStart => exact ⟨0, _, _, _, Nat.zero_le _, rfl, BX2.out, by simpa [Hid, chsK_zero] using LN2.out, by simpa [chsK_zero] using SS2.out, BG2.out, RL2.out, KI2.out⟩
      case round =>
        clear BX2 SS2 KI2 RL2 BG2
        obtain ⟨k, n', c', A', hk, rfl, hbx, hLN, hss, hbg, hrl, hki⟩ := hrel
        have HBXr := Lib.hid hbx
        have HSSr := Lib.hid hss
        have HBGr := Lib.hid hbg
        have HRLr := Lib.hid hrl
        have HKIr := Lib.hid hki
        have sr := hrl.size
        by_cases hlt : k < wd
        · have hle : (k : Int) + 1 ≤ (wd : Int) := by omega
          have hcn2 : n' + 1 + cntC h (k + 1) ≤ 100000 := by
            have e1 := length_chsK_mono (h := h) b (show k + 1 ≤ wd by omega)
            rw [← chs_succ h wd, length_chs, chsK_succ, List.length_append, List.length_cons, length_chs] at e1
            have e2 := hLN.out
            have e3 := LN2.out
            rw [List.length_append, e3] at e2
            omega
          have HSN : Hid (M ++ pb b ++ chsK h (k + 1) b = (M ++ pb b ++ chsK h k b) ++ pb (b ++ [((k : Int) + 1)]) ++ chs h (k + 1) (b ++ [((k : Int) + 1)])) := by simp [Hid, chsK_succ, pb]
          have HL1 := Lib.hid (l1Own_any Ab nb cb B b wr hbg (by omega))
          clear hbx hss hbg hrl hki
          go_wp2_with fail
          refine (HL1.out).mono ?_; rintro e w3 ⟨A3, c3, rfl, own3, hb3⟩
          have s3 := hb3.size
          have OW3 := Lib.hid (own_alloc own3 (.cells #[.int .i64 ((k : Int) + 1)] 3))
          have hc3 : nb + 1 ≤ maxLen := by simp only [maxLen]; omega
          clear HL1
          go_wp2_with (at_builtin; refine wpList_append_own _ rfl (.tmp 31) (.tmp 33) 39 rfl wr.heap.size 3 j0 (.int .i64 0) 1 8 Try.underlying39 hj hy0 hy1 hy2 rfl (by decide) _ _ _ rfl OW3.out ⟨w3.heap.size, 0, none⟩ 1 1 [.int .i64 ((k : Int) + 1)] rfl rfl (new1 _ _ _) (int_oneCell [_]) hc3 (by omega) (by simp; omega) ?_)
          intro v' w4 hown' hgrow _
          obtain ⟨A4, c4, rfl⟩ := own_slice hown'
          have hb4 : Below wr.heap.size wr w4 := gb_new (Nat.le_refl _) (hb3.alloc (by omega) (.cells #[.int .i64 ((k : Int) + 1)] 3)) hgrow (fun g hg => (OW3.out.lt g hg).1)
          have s4 := hb4.size
          have HN4 : Hid (w4.ownsRow wr.heap.size 3 1 (.slice A4 (nb + 1) c4) (nb + 1) (intCells (b ++ [((k : Int) + 1)]))) := by simp only [Hid]; rw [intCells_append]; exact hown'
          have HB4 := Lib.hid hb4
          obtain ⟨AC4, CC4, hac⟩ := HSSr.out
          have HIH := Lib.hid (ih (k + 1) (b ++ [((k : Int) + 1)]) (nb + 1) A4 c4 q0 B A' n' c' AC4 CC4 (M ++ pb b ++ chsK h k b) w4 (by omega) hqB (by omega) (by rw [List.length_append, hnb]; rfl) (by omega) hLN.out hcn2 (HBXr.out.below hb4 (Nat.le_refl _)) ⟨own_later hac.top hb4 (Nat.le_refl _), fun i hi => own_later (hac.row i hi) hb4 (Nat.le_refl _), hac.apart⟩ (own_base HN4.out (by omega)) (fun i hi => by
            rcases hv : (Value.slice (AC4 i) (lsR (M ++ pb b ++ chsK h k b) i).length (CC4 i)).ownBlock with _ | g
            · exact .inl rfl
            · refine .inr fun e => ?_
              have x := (hac.row i hi).lt g hv
              have y := HN4.out.lt g e.symm
              omega))
          clear hown' hgrow hb3 hb4 own3 OW3 hc3 hac
          go_wp2_with fail
          refine (HIH.out).mono ?_; rintro e w5 ⟨rfl, A5, n5, c5, hbx5, hL5, hss5, hrl5, hki5⟩
          have HX5 := Lib.hid hbx5
          have HL5 : Hid ((M ++ pb b ++ chsK h (k + 1) b).length = n5) := by simp only [Hid]; rw [HSN.out]; exact hL5
          have HS5 : Hid (OwnSS w5 B (.slice A5 n5 c5) n5 (lsR (M ++ pb b ++ chsK h (k + 1) b))) := by simp only [Hid]; rw [HSN.out]; exact hss5
          have HK5 := Lib.hid (HKIr.out.trans ((KeepI.of_below HB4.out).trans hki5))
          have HR5 := Lib.hid (HRLr.out.trans ((Rel.of_below HB4.out (show B ≤ wr.heap.size by omega)).trans hrl5))
          have HG5 := Lib.hid (((KeepI.of_below HB4.out).trans hki5) B nb _ _ HBGr.out)
          clear hbx5 hL5 hss5 hrl5 hki5 HIH
          go_wp2
          go_roundw
          case rel => exact ⟨k + 1, n5, c5, A5, by omega, by go_num, HX5.out, HL5.out, HS5.out, HG5.out, HR5.out, HK5.out⟩
          case measure => simp [intOf]; omega
        · have hkw : k = wd := by omega
          rw [hkw] at hLN hss
          have HLE := Lib.hid hLN.out
          have HSE := Lib.hid hss
          clear hkw hbx hss hbg hrl hki HSSr
          go_wp2

          refine bodyPost_end (v := .tuple #[]) (by simp [results, Try.results117, go_sem]) rfl ⟨rfl, A', n', c', HBXr.out, HLE.out, HSE.out, HRLr.out, HKIr.out⟩

set_option maxHeartbeats 1000000 in
theorem cmAll_any (wd H : Nat) (w : World) (hw : wd ≤ 6) (hH : H ≤ 6) :
    Calls Try.prog 106 #[.int .i64 (wd : Int), .int .i64 (H : Int)] w fun e w' => ∃ A' m' c', e = .returned (.slice A' m' c') ∧ (chs H wd []).length = m' ∧ OwnSS w' w.heap.size (.slice A' m' c') m' (lsR (chs H wd [])) ∧ Below w.heap.size w w' := by
  have hb := BoxS.new w (.slice none 0 0)
  have hbl := (Below.refl w.heap.size w).alloc (Nat.le_refl _) (.cells #[.slice none 0 0] 45)
  have HA := Lib.hid (cmLook_any H wd [] 0 none 0 w.heap.size (w.heap.size + 1) none 0 0 (fun _ => none) (fun _ => 0) [] (w.alloc (.cells #[.slice none 0 0] 45)) hw (by omega) (by simp) rfl (by omega) rfl (by have := cntC_le hH hw; omega) hb ⟨World.ownsRow_nil _ _ _ _, fun i hi => absurd hi (by omega), fun i j hi => absurd hi (by omega)⟩ (World.ownsRow_nil _ _ _ _) (fun i hi => absurd hi (by omega)))
  have HBL := Lib.hid hbl
  clear hb hbl
  go_enter Try.func106, Try.ntmps106
  go_wp2_with fail
  refine (HA.out).mono ?_; rintro e w1 ⟨rfl, A', n', c', hbx, hL, hss, hrl, hki⟩
  have hc := hbx.cell
  have HS : Hid (OwnSS w1 w.heap.size (.slice A' n' c') n' (lsR (chs H wd []))) := OwnSS.base (by simpa [pb] using hss) (by omega)
  have HL : Hid ((chs H wd []).length = n') := by simpa [pb, Hid] using hL
  have HB : Hid (Below w.heap.size w w1) := ⟨hrl.os.trans HBL.out.os, hrl.tape.trans HBL.out.tape, hrl.output.trans HBL.out.output, Nat.le_trans HBL.out.size hrl.size, fun i hi => (hrl.block i (by omega) (by omega)).trans (HBL.out.block i hi)⟩
  clear hbx hL hss hrl hki
  go_wp2
  go_ret
  exact ⟨A', n', c', rfl, HL.out, HS.out, HB.out⟩

end Go.Proofs.Ytghlgmbekgfmnaa
