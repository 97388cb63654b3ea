/-
  Contract: wrNest of the model. Conditions: a list of at most ten good boxes, rows of its indices.
-/
import Derived.Test.YthbbddgjphdgjabNestI
import Derived.Test.YthbbddgjphdgjabBoxK
import Derived.Test.YthbbddgjphdgjabChg
namespace Go.Proofs.Ythbbddgjphdgjab
open Go.RowKit
set_option linter.unusedVariables false
set_option linter.unusedSimpArgs false

set_option maxRecDepth 100000 in
set_option maxHeartbeats 1000000 in
theorem l1OwnN_any (A : Option Addr) (n c : Nat) (b : List Int) (w : World) (hr : Rd w 1 A n (intCells b)) (h0 : n = 0 → A = none ∧ c = 0) (hn : n ≤ 1000) :
    Calls Try.prog 42 #[.slice A n c] w fun e w' => ∃ A' c', e = .returned (.slice A' n c') ∧ w'.ownsRow w.heap.size 3 1 (.slice A' n c') n (intCells b) ∧ Below w.heap.size w w' := by
  obtain ⟨i0, hi, hz0, hz1, hz2⟩ := info_parts intN_info
  have hne := World.ownsRow_lit (base := w.heap.size) (e := 3) (size := 1) w #[] 0 (Nat.le_refl _) (by simp [maxLen]) rfl
  have hlen : b.length = n := hr.ilen
  by_cases hn0 : n = 0
  · obtain ⟨rfl, rfl⟩ := h0 hn0
    subst hn0
    obtain rfl : b = [] := List.eq_nil_of_length_eq_zero hlen
    have HNE := Lib.hid hne
    clear hlen h0 hr hn
    go_enter Try.func42, Try.ntmps42
    go_wp2_with (at_builtin; refine wpList_append_own_none rfl (.tmp 3) (.tmp 4) 31 rfl w.heap.size 3 i0 1 Try.underlying31 hi _ _ _ rfl HNE.out rfl ?_)
    go_ret
    exact ⟨some ⟨w.heap.size, 0, none⟩, 0, rfl, HNE.out, by (repeat (first | (with_reducible exact Below.refl _ _) | (with_reducible assumption) | (with_reducible refine Below.drew ?_) | ((with_reducible refine balloc ?_ _ ?_); · (first | (simp; done) | (simp; omega) | omega)) | ((with_reducible refine bset ?_ _ ?_); · (first | (simp; done) | (simp; omega) | omega)) | (with_reducible refine bdrewN _ ?_) | ((with_reducible refine bcall ?_ (by assumption) ?_); · (first | (simp; done) | (simp; omega) | omega))))⟩
  · obtain ⟨g, o, rfl, hgl, _⟩ := hr.2 (by omega)
    have hr2 := hr.alloc (.cells #[] 3)
    have hc0 : (intCells b).length = n * 1 := by rw [length_intCells, hlen, Nat.mul_one]
    have hc1 := rd_addN hr2
    have hc3 : 0 + n ≤ maxLen := by simp only [maxLen]; omega
    have hc4 : (0 + n) * 8 ≤ 140737488355328 := by omega
    have hc5 : w.heap.size ≤ (w.alloc (.cells #[] 3)).heap.size := by simp
    go_enter Try.func42, Try.ntmps42
    go_wp2_with (at_builtin; refine wpList_append_own _ rfl (.tmp 3) (.tmp 4) 31 rfl w.heap.size 3 i0 (.int .i64 0) 1 8 Try.underlying31 hi hz0 hz1 hz2 rfl (by decide) _ _ _ rfl hne ⟨g, o, none⟩ n c (intCells b) rfl hc0 hc1 (int_oneCell b) hc3 hc4 hc5 ?_)
    intro v' w2 hown' hgrow _
    have hb2 := gb_new (Nat.le_refl _) ((Below.refl w.heap.size w).alloc (Nat.le_refl _) (.cells #[] 3)) hgrow (fun g hg => (hne.lt g hg).1)
    obtain ⟨A', c', rfl⟩ := own_slice hown'
    clear hc0 hc1 hc3 hc4 hc5
    go_wp2
    go_ret
    exact ⟨A', c', by simp, by simpa using hown', hb2⟩

def NestPost (f : Nat) (L : List Bx) (beg best : List Int) (gb B : Nat) (w : World) (e : Ending) (w' : World) : Prop :=
  e = .returned (.tuple #[]) ∧ ∃ (A' : Option Addr) (n' c' : Nat), w'.cell? ⟨gb, 0, none⟩ = some (.slice A' n' c') ∧ w'.frozen? ⟨gb, 0, none⟩ = false ∧ (∀ g, (Value.slice A' n' c').ownBlock = some g → g ≠ gb) ∧ w'.ownsRow B 3 1 (.slice A' n' c') n' (intCells (nestM f L beg best)) ∧ Chg (· = gb) w w'

structure NestAt (A : Option Addr) (n : Nat) (L : List Bx) (f : Nat) (beg best : List Int) (Ag : Option Addr) (ng cg : Nat) (Ab : Option Addr) (nb cb gb B : Nat) (w : World) : Prop where
  fuel : 60 - (lastB L beg).1 < f
  few : f ≤ 1000
  last : 0 ≤ (lastB L beg).1 ∧ (lastB L beg).1 ≤ 60
  list : Rd w 3 A n (boxCells L)
  begO : w.ownsRow B 3 1 (.slice Ag ng cg) ng (intCells beg)
  begN : ng = 0 → Ag = none ∧ cg = 0
  begS : ng + f ≤ 500
  begI : ∀ i ∈ beg, 0 ≤ i ∧ i < (n : Int)
  bestO : w.ownsRow B 3 1 (.slice Ab nb cb) nb (intCells best)
  cell : w.cell? ⟨gb, 0, none⟩ = some (.slice Ab nb cb)
  free : w.frozen? ⟨gb, 0, none⟩ = false
  notA : 0 < n → ∀ b o, A = some ⟨b, o, none⟩ → b ≠ gb
  notG : ∀ g, (Value.slice Ag ng cg).ownBlock = some g → g ≠ gb
  notB : ∀ g, (Value.slice Ab nb cb).ownBlock = some g → g ≠ gb
  base : B ≤ w.heap.size

theorem chg_set (gb : Nat) (w : World) (v : Value) : Chg (· = gb) w (w.setCell ⟨gb, 0, none⟩ v) :=
  ⟨rfl, rfl, rfl, by simp, fun i hi hk => by
    simp only [World.setCell, Array.getElem?_modify]
    rw [if_neg (fun e => hk e.symm)]⟩
theorem chg_rdN {gb : Nat} {w w' : World} {z n : Nat} {A : Option Addr} {xs : List Value} (h : Chg (· = gb) w w') (hr : Rd w z A n xs) (hv : 0 < n → ∀ b o, A = some ⟨b, o, none⟩ → b ≠ gb) : Rd w' z A n xs := by
  by_cases hn : 0 < n
  · exact h.rd hr (hv hn)
  · exact ⟨hr.1, fun h0 => absurd h0 hn⟩
theorem chg_free {gb : Nat} {w w' : World} (h : Chg (· = gb) w w') {b o : Nat} (hb : b < w.heap.size) (hne : b ≠ gb) : w'.frozen? ⟨b, o, none⟩ = w.frozen? ⟨b, o, none⟩ := World.frozen?_of_block (h.block b hb hne)

set_option maxRecDepth 100000 in
set_option maxHeartbeats 16000000 in
theorem wrNest_any (A : Option Addr) (n c : Nat) (L : List Bx) (hg : goodL L = true) (hn : n ≤ 10) : ∀ (f : Nat) (beg best : List Int) (Ag : Option Addr) (ng cg : Nat) (Ab : Option Addr) (nb cb gb B : Nat) (w : World), NestAt A n L f beg best Ag ng cg Ab nb cb gb B w →
    Calls Try.prog 31 #[.slice A n c, .slice Ag ng cg, .pointer (some ⟨gb, 0, none⟩)] w fun e w' => NestPost f L beg best gb B w e w'
  | 0, beg, best, Ag, ng, cg, Ab, nb, cb, gb, B, w, hst => by have h1 := hst.fuel; have h2 := hst.last; omega
  | f + 1, beg, best, Ag, ng, cg, Ab, nb, cb, gb, B, w, hst => by
    have HIH : Hid (∀ (beg best : List Int) (Ag : Option Addr) (ng cg : Nat) (Ab : Option Addr) (nb cb gb B : Nat) (w : World), NestAt A n L f beg best Ag ng cg Ab nb cb gb B w → Calls Try.prog 31 #[.slice A n c, .slice Ag ng cg, .pointer (some ⟨gb, 0, none⟩)] w fun e w' => NestPost f L beg best gb B w e w') := wrNest_any A n c L hg hn f
    have hl : L.length = n := by have := hst.list.1; rw [length_boxCells] at this; omega
    have hlg : beg.length = ng := (Rd.of_own hst.begO).ilen
    have hlb : best.length = nb := (Rd.of_own hst.bestO).ilen
    have HL := Lib.hid hl
    have HLG := Lib.hid hlg
    have HG := Lib.hid hg
    have hng5 : ng ≤ 500 := by have := hst.begS; omega
    have hgb : gb < w.heap.size := World.block_lt_of_cell? w _ hst.cell
    have hBw0 := hst.base
    obtain ⟨i0, hi, hz0, hz1, hz2⟩ := info_parts intN_info
    have cc := hst.cell
    have cf := hst.free
    clear hl hg
    have HMID : Hid (betterL beg best = if nb < ng then beg else best) := by show betterL beg best = _; unfold betterL; rw [hlg, hlb]
    by_cases hcmp : nb < ng
    · go_enter Try.func31, Try.ntmps31
      have hci : (nb : Int) < ng := by omega
      have HST : Hid (betterL beg best = beg) := HMID.out.trans (if_pos hcmp)
      obtain ⟨W0, hW0⟩ : ∃ W0, W0 = w.setCell ⟨gb, 0, none⟩ (.slice Ag ng cg) := ⟨_, rfl⟩
      have k1 : W0.cell? ⟨gb, 0, none⟩ = some (.slice Ag ng cg) := by rw [hW0]; exact World.cell?_setCell_same _ _ _ cc
      have k2 : Chg (· = gb) w W0 := by rw [hW0]; exact chg_set gb w _
      have k3 : W0.frozen? ⟨gb, 0, none⟩ = false := by rw [hW0]; simp [go_sem, cf]
      have k4 : W0.ownsRow B 3 1 (.slice Ag ng cg) ng (intCells (betterL beg best)) := by rw [HST.out]; exact k2.own hst.begO hst.notG
      have k5 := hst.notG
      go_wp2
      rw [← hW0]
      clear hW0 hcmp hci cc cf
      have HK := Lib.hid (And.intro k1 (And.intro k3 (And.intro k5 (And.intro k4 k2))))
      clear k1 k2 k3 k4 k5
      go_loopw [20] (fun i wr => ∃ (k : Nat) (A1 : Option Addr) (n1 c1 : Nat), k ≤ n ∧ i = .int .i64 k ∧ wr.cell? ⟨gb, 0, none⟩ = some (.slice A1 n1 c1) ∧ wr.frozen? ⟨gb, 0, none⟩ = false ∧ (∀ g, (Value.slice A1 n1 c1).ownBlock = some g → g ≠ gb) ∧ wr.ownsRow B 3 1 (.slice A1 n1 c1) n1 (intCells (nestMK L beg (nestM f L) (betterL beg best) k)) ∧ Chg (· = gb) w wr) (fun i _ => n - (intOf i).toNat)
      case atStart => exact ⟨0, _, _, _, Nat.zero_le _, rfl, HK.out.1, HK.out.2.1, HK.out.2.2.1, HK.out.2.2.2.1, HK.out.2.2.2.2⟩
      case round =>
        clear HK
        obtain ⟨k, A1, n1, c1, hk, rfl, hce, hfr, hnb, hbs, hch⟩ := hrel
        have sB := hch.size
        have hgw : gb < wr.heap.size := by omega
        have hBw : B ≤ wr.heap.size := by omega
        by_cases hlt : k < n
        · have hrw : Rd wr 3 A n (boxCells L) := chg_rdN hch hst.list hst.notA
          obtain ⟨b, o, rfl, hbl, hx, p0, p1, p2⟩ := hrw.box hlt
          have hgd : L.getD k zBx = L[k] := by simp [List.getD, hx]
          have hgk := boxB_true (goodL_at HG.out hx)
          have hIZ : beg = [] → intoP (lastB L beg) L[k] = true := fun h => by rw [h]; exact into_zero (goodL_at HG.out hx)
          have HRW := Lib.hid hrw
          have HBS := Lib.hid hbs
          have HBG := Lib.hid (hch.own hst.begO hst.notG)
          have HCE := Lib.hid (And.intro hce hfr)
          have HCH := Lib.hid hch
          clear hrw hbs hch hce hfr
          by_cases hz : beg = []
          · have hin := hIZ hz
            have hng0 : ng = 0 := by rw [← HLG.out, hz]; rfl
            have hng0' : ((ng : Int) == 0) = true := by simp [hng0]
            have HNG := Lib.hid hng0
            have HZ := Lib.hid hz
            clear hng0 hz hIZ
            have hlast := into_long hin
            have hlr := hst.last
            have hfu := hst.fuel
            generalize hq : L[k] = q at *
            obtain ⟨qa, qb, qc⟩ := q
            simp only at p0 p1 p2 hgk hlast
            obtain ⟨wo, rfl⟩ : ∃ wo, wo = wr := ⟨_, rfl⟩
            go_wp2
            refine wp_region_held_drew (S := (fun w' => True)) (by kernel_rfl) ?_ (fun hHeld => ?_)
            · ((try dsimp only); (repeat' apply And.intro); all_goals ((repeat (first | (with_reducible refine cell_drew ?_) | (with_reducible refine cell_drewN _ ?_) | ((with_reducible refine cell_alloc ?_ ?_); · first | omega | (simp; done) | (simp; omega) | assumption) | ((with_reducible refine cell_set ?_ ?_); · first | (intro e; injection e; omega) | (intro e; simp at e; done) | (intro e; simp at e; omega)))); first | assumption | (simp; done)))
            refine reg_on (i := 0) (d := 25) (v := ?rv1) rfl rfl (by kernel_rfl) (by kernel_rfl) (by kernel_rfl) (fun _ _ _ h => h) (by rfl) ?ry1 (by assumption) ?rr1
            case ry1 => (intro wz hSw; (try dsimp only at hSw); go_simp; try with_reducible rfl)
            (try simp only [Act.put, List.setIfInBounds_toArray, List.set_cons_zero, List.set_cons_succ])
            refine reg_on (i := 1) (d := 26) (v := ?rv2) rfl rfl (by kernel_rfl) (by kernel_rfl) (by kernel_rfl) (fun _ _ _ h => h) (by rfl) ?ry2 (by assumption) ?rr2
            case ry2 => (intro wz hSw; (try dsimp only at hSw); go_simp; try with_reducible rfl)
            (try simp only [Act.put, List.setIfInBounds_toArray, List.set_cons_zero, List.set_cons_succ])
            refine reg_on (i := 2) (d := 27) (v := ?rv3) rfl rfl (by kernel_rfl) (by kernel_rfl) (by kernel_rfl) (fun _ _ _ h => h) (by rfl) ?ry3 (by assumption) ?rr3
            case ry3 => (intro wz hSw; (try dsimp only at hSw); go_simp; try with_reducible rfl)
            (try simp only [Act.put, List.setIfInBounds_toArray, List.set_cons_zero, List.set_cons_succ])
            refine reg_on (i := 3) (d := 28) (v := ?rv4) rfl rfl (by kernel_rfl) (by kernel_rfl) (by kernel_rfl) (fun _ _ _ h => h) (by rfl) ?ry4 (by assumption) ?rr4
            case ry4 => (intro wz hSw; (try dsimp only at hSw); go_simp; try with_reducible rfl)
            (try simp only [Act.put, List.setIfInBounds_toArray, List.set_cons_zero, List.set_cons_succ])
            refine reg_off (i := 4) (d := 29) rfl rfl (by kernel_rfl) (by kernel_rfl) (by kernel_rfl) (fun _ _ _ h => h) (by rfl) (by assumption) ?_; (try simp only [Act.put, List.setIfInBounds_toArray, List.set_cons_zero, List.set_cons_succ])
            refine reg_off (i := 5) (d := 30) rfl rfl (by kernel_rfl) (by kernel_rfl) (by kernel_rfl) (fun _ _ _ h => h) (by rfl) (by assumption) ?_; (try simp only [Act.put, List.setIfInBounds_toArray, List.set_cons_zero, List.set_cons_succ])
            refine reg_off (i := 6) (d := 31) rfl rfl (by kernel_rfl) (by kernel_rfl) (by kernel_rfl) (fun _ _ _ h => h) (by rfl) (by assumption) ?_; (try simp only [Act.put, List.setIfInBounds_toArray, List.set_cons_zero, List.set_cons_succ])
            refine reg_off (i := 7) (d := 32) rfl rfl (by kernel_rfl) (by kernel_rfl) (by kernel_rfl) (fun _ _ _ h => h) (by rfl) (by assumption) ?_; (try simp only [Act.put, List.setIfInBounds_toArray, List.set_cons_zero, List.set_cons_succ])
            refine reg_off (i := 8) (d := 33) rfl rfl (by kernel_rfl) (by kernel_rfl) (by kernel_rfl) (fun _ _ _ h => h) (by rfl) (by assumption) ?_; (try simp only [Act.put, List.setIfInBounds_toArray, List.set_cons_zero, List.set_cons_succ])
            refine reg_off (i := 9) (d := 34) rfl rfl (by kernel_rfl) (by kernel_rfl) (by kernel_rfl) (fun _ _ _ h => h) (by rfl) (by assumption) ?_; (try simp only [Act.put, List.setIfInBounds_toArray, List.set_cons_zero, List.set_cons_succ])
            refine reg_off (i := 10) (d := 35) rfl rfl (by kernel_rfl) (by kernel_rfl) (by kernel_rfl) (fun _ _ _ h => h) (by rfl) (by assumption) ?_; (try simp only [Act.put, List.setIfInBounds_toArray, List.set_cons_zero, List.set_cons_succ])
            refine reg_off (i := 11) (d := 36) rfl rfl (by kernel_rfl) (by kernel_rfl) (by kernel_rfl) (fun _ _ _ h => h) (by rfl) (by assumption) ?_; (try simp only [Act.put, List.setIfInBounds_toArray, List.set_cons_zero, List.set_cons_succ])
            refine reg_off (i := 12) (d := 37) rfl rfl (by kernel_rfl) (by kernel_rfl) (by kernel_rfl) (fun _ _ _ h => h) (by rfl) (by assumption) ?_; (try simp only [Act.put, List.setIfInBounds_toArray, List.set_cons_zero, List.set_cons_succ])
            refine reg_off (i := 13) (d := 38) rfl rfl (by kernel_rfl) (by kernel_rfl) (by kernel_rfl) (fun _ _ _ h => h) (by rfl) (by assumption) ?_; (try simp only [Act.put, List.setIfInBounds_toArray, List.set_cons_zero, List.set_cons_succ])
            refine reg_off (i := 14) (d := 39) rfl rfl (by kernel_rfl) (by kernel_rfl) (by kernel_rfl) (fun _ _ _ h => h) (by rfl) (by assumption) ?_; (try simp only [Act.put, List.setIfInBounds_toArray, List.set_cons_zero, List.set_cons_succ])
            refine reg_on (i := 15) (d := 40) (v := ?rv16) rfl rfl (by kernel_rfl) (by kernel_rfl) (by kernel_rfl) (fun _ _ _ h => h) (by rfl) ?ry16 (by assumption) ?rr16
            case ry16 => (intro wz hSw; (try dsimp only at hSw); go_simp; try with_reducible rfl)
            (try simp only [Act.put, List.setIfInBounds_toArray, List.set_cons_zero, List.set_cons_succ])
            refine wpAnyH_done (by kernel_rfl) ?_ _
            have B6 : Below wo.heap.size wo ((wo.alloc (.cells #[.int .i64 qa, .int .i64 qb, .int .i64 qc] 26)).drew) := by (repeat (first | (with_reducible exact Below.refl _ _) | (with_reducible assumption) | (with_reducible refine Below.drew ?_) | ((with_reducible refine balloc ?_ _ ?_); · (first | (simp; done) | (simp; omega) | omega)) | ((with_reducible refine bset ?_ _ ?_); · (first | (simp; done) | (simp; omega) | omega)) | (with_reducible refine bdrewN _ ?_) | ((with_reducible refine bcall ?_ (by assumption) ?_); · (first | (simp; done) | (simp; omega) | omega))))
            generalize ((wo.alloc (.cells #[.int .i64 qa, .int .i64 qb, .int .i64 qc] 26)).drew) = W6 at *
            have s6 := B6.size
            have HBG6 := Lib.hid (own_later HBG.out B6 (Nat.le_refl _))
            have HBS6 := Lib.hid (own_later HBS.out B6 (Nat.le_refl _))
            have HB6 := Lib.hid B6
            have HRG := Lib.hid (Rd.of_own HBG6.out)
            clear B6
            go_wp2_with fail
            refine (l1OwnN_any _ ng _ beg _ HRG.out hst.begN (by omega)).mono ?_; rintro e w7 ⟨A7, c7, rfl, own7, hb7⟩
            have s7 := hb7.size
            have hm7 := World.ownsRow.alloc (own_base own7 (B' := wo.heap.size) s6) (.cells #[.int .i64 (k : Int)] 3)
            have H7 := Lib.hid hm7
            have B7 : Below wo.heap.size wo w7 := HB6.out.trans (hb7.mono s6)
            have HB7 := Lib.hid (B7.alloc B7.size (.cells #[.int .i64 (k : Int)] 3))
            have hnw := new1 w7 3 (.int .i64 (k : Int))
            have hc3 : ng + 1 ≤ maxLen := by simp only [maxLen]; omega
            have hc4 : (ng + 1) * 8 ≤ 140737488355328 := by omega
            have hc5 : wo.heap.size ≤ (w7.alloc (.cells #[.int .i64 (k : Int)] 3)).heap.size := by simp; omega
            clear own7 hb7 hm7 B7
            go_wp2_with (at_builtin; refine wpList_append_own _ rfl (.tmp 43) (.tmp 45) 31 rfl wo.heap.size 3 i0 (.int .i64 0) 1 8 Try.underlying31 hi hz0 hz1 hz2 rfl (by decide) _ _ _ rfl H7.out ⟨w7.heap.size, 0, none⟩ 1 1 [.int .i64 (k : Int)] rfl rfl hnw (int_oneCell [_]) hc3 hc4 hc5 ?_)
            intro v' w9 hown' hgrow _
            have hb9 := gb_new (Nat.le_refl _) HB7.out hgrow (fun g hg => (H7.out.lt g hg).1)
            obtain ⟨A9, c9, rfl⟩ := own_slice hown'
            have s9 := hb9.size
            have hlt9 : ∀ g, (Value.slice A9 (ng + 1) c9).ownBlock = some g → g ≠ gb := fun g hg => by have h1 := (hown'.lt g hg).1; omega
            have HAT : Hid (NestAt (some ⟨b, o, none⟩) n L f (beg ++ [(k : Int)]) (nestMK L beg (nestM f L) (betterL beg best) k) A9 (ng + 1) c9 A1 n1 c1 gb B w9) := {
              fuel := by rw [lastB_snoc, hgd]; show 60 - qa < (f : Int); omega
              few := by have := hst.few; omega
              last := by rw [lastB_snoc, hgd]; show 0 ≤ qa ∧ qa ≤ 60; omega
              list := HRW.out.later hb9 (Nat.le_refl _)
              begO := by have h := own_base hown' (B' := B) hBw; rw [show intCells (beg ++ [(k : Int)]) = intCells beg ++ [.int .i64 (k : Int)] from intCells_append _ _]; exact h
              begN := fun h => by omega
              begS := by have := hst.begS; omega
              begI := fun i hi => by
                rcases List.mem_append.1 hi with h | h
                · exact hst.begI i h
                · simp at h; omega
              bestO := own_later HBS.out hb9 (Nat.le_refl _)
              cell := (hb9.cell (p := ⟨gb, 0, none⟩) hgw).trans HCE.out.1
              free := (hb9.frozen (p := ⟨gb, 0, none⟩) hgw).trans HCE.out.2
              notA := hst.notA
              notG := hlt9
              notB := hnb
              base := by omega }
            have HC9 := Lib.hid (Chg.trans HCH.out (Chg.of_below (K := (· = gb)) hb9 (Nat.le_refl _)))
            clear hown' hgrow hb9 hlt9 hnw hc3 hc4 hc5
            go_wp2_with fail
            refine (HIH.out _ _ _ _ _ _ _ _ _ _ _ HAT.out).mono ?_; rintro e w10 ⟨rfl, A10, n10, c10, e1, e2, e3, e4, e5⟩
            have HNX : Hid (nestMK L beg (nestM f L) (betterL beg best) (k + 1) = nestM f L (beg ++ [(k : Int)]) (nestMK L beg (nestM f L) (betterL beg best) k)) := by rw [Hid, nestMK, hgd, if_pos hin]
            have HE := Lib.hid (And.intro e1 (And.intro e2 (And.intro e3 (And.intro e4 (Chg.trans HC9.out e5)))))
            clear e1 e2 e3 e4 e5
            go_wp2
            go_roundw
            case rel => exact ⟨k + 1, A10, n10, c10, by omega, by go_num, HE.out.1, HE.out.2.1, HE.out.2.2.1, by rw [HNX.out]; exact HE.out.2.2.2.1, HE.out.2.2.2.2⟩
            case measure => simp [intOf]; omega
          · have hngp : ng ≠ 0 := fun e => hz (List.eq_nil_of_length_eq_zero (by rw [HLG.out]; exact e))
            obtain ⟨J, hJ⟩ : ∃ J, ng = J + 1 := ⟨ng - 1, by omega⟩
            have hng0' : ((ng : Int) == 0) = false := by simp; omega
            obtain ⟨b2, o2, hAg, hbl2, hx2, p3⟩ := (Rd.of_own HBG.out).num (k := J) (by omega)
            have hlast0 : lastB L beg = L.getD (beg[J]).toNat zBx := by
              have e1 : beg.getLast? = some beg[J] := by rw [List.getLast?_eq_getElem?, show beg.length - 1 = J by have := HLG.out; omega, List.getElem?_eq_getElem hx2]
              unfold lastB
              rw [e1]
            have hbi := hst.begI _ (List.getElem_mem hx2)
            generalize beg[J] = bi at *
            obtain ⟨I, rfl⟩ : ∃ I : Nat, bi = I := ⟨bi.toNat, by omega⟩
            obtain ⟨b', o', hbo, _, hx3, p4, p5, p6⟩ := HRW.out.box (k := I) (by omega)
            simp only [Option.some.injEq, Addr.mk.injEq, and_true] at hbo
            obtain ⟨rfl, rfl⟩ := hbo
            have hlast1 : lastB L beg = L[I] := by rw [hlast0]; simp [List.getD, hx3]
            have hlr := hst.last
            have hfu := hst.fuel
            generalize hq : L[k] = q at *
            generalize hq2 : L[I] = q2 at *
            obtain ⟨qa, qb, qc⟩ := q
            obtain ⟨la, lb, lc⟩ := q2
            simp only at p0 p1 p2 p4 p5 p6 hgk
            have hinB : intoP (lastB L beg) (qa, qb, qc) = intoB la lb lc qa qb qc := by rw [hlast1]; rfl
            have hwJ : IntKind.i64.wrap ((ng : Int) - 1) = (J : Int) := by rw [show (ng : Int) - 1 = J by omega]; exact IntWalk.i64_in _ (by omega)
            have y1 : (J : Int) < ng := by omega
            have y2 : (0 : Int) ≤ (J : Int) := by omega
            have y3 : J < ng := by omega
            have y4 : (I : Int) < n := by omega
            have y5 : (0 : Int) ≤ (I : Int) := by omega
            have y6 : I < n := by omega
            have HJ := Lib.hid hJ
            obtain ⟨wo, rfl⟩ : ∃ wo, wo = wr := ⟨_, rfl⟩
            obtain ⟨W5, hW5⟩ : ∃ W5, W5 = wo.alloc (.cells #[.int .i64 qa, .int .i64 qb, .int .i64 qc] 26) := ⟨_, rfl⟩
            have B5 : Below wo.heap.size wo W5 := by rw [hW5]; exact (Below.refl _ _).alloc (Nat.le_refl _) _
            have r3 := (B5.cell (p := ⟨b2, o2 + J, none⟩) hbl2).trans p3
            have r4 := (B5.cell (p := ⟨b, o + I * 3, none⟩) hbl).trans p4
            have r5 := (B5.cell (p := ⟨b, o + I * 3 + 1, none⟩) hbl).trans p5
            have r6 := (B5.cell (p := ⟨b, o + I * 3 + 2, none⟩) hbl).trans p6
            have r7 : W5.cell? ⟨wo.heap.size, 0, none⟩ = some (.int .i64 qa) := by rw [hW5]; simp [go_sem]
            have r8 : W5.cell? ⟨wo.heap.size, 1, none⟩ = some (.int .i64 qb) := by rw [hW5]; simp [go_sem]
            have r9 : W5.cell? ⟨wo.heap.size, 2, none⟩ = some (.int .i64 qc) := by rw [hW5]; simp [go_sem]
            have sz5 : wo.heap.size < W5.heap.size := by rw [hW5]; simp
            have hbx : b < W5.heap.size := by omega
            have hby : b2 < W5.heap.size := by omega
            subst hAg
            clear p3 p4 p5 p6 hlast0 hJ hz hIZ hngp
            go_wp2
            rw [← hW5]
            clear hW5
            refine wp_region_held_drew (S := (fun w' => w'.cell? ⟨b2, o2 + J, none⟩ = some (.int .i64 I) ∧ w'.cell? ⟨b, o + I * 3, none⟩ = some (.int .i64 la) ∧ w'.cell? ⟨b, o + I * 3 + 1, none⟩ = some (.int .i64 lb) ∧ w'.cell? ⟨b, o + I * 3 + 2, none⟩ = some (.int .i64 lc) ∧ w'.cell? ⟨wo.heap.size, 0, none⟩ = some (.int .i64 qa) ∧ w'.cell? ⟨wo.heap.size, 1, none⟩ = some (.int .i64 qb) ∧ w'.cell? ⟨wo.heap.size, 2, none⟩ = some (.int .i64 qc))) (by kernel_rfl) ?_ (fun hHeld => ?_)
            · ((try dsimp only); (repeat' apply And.intro); all_goals ((repeat (first | (with_reducible refine cell_drew ?_) | (with_reducible refine cell_drewN _ ?_) | ((with_reducible refine cell_alloc ?_ ?_); · first | omega | (simp; done) | (simp; omega) | assumption) | ((with_reducible refine cell_set ?_ ?_); · first | (intro e; injection e; omega) | (intro e; simp at e; done) | (intro e; simp at e; omega)))); first | assumption | (simp; done)))
            refine reg_on (i := 0) (d := 25) (v := ?rv17) rfl rfl (by kernel_rfl) (by kernel_rfl) (by kernel_rfl) (fun _ _ _ h => h) (by rfl) ?ry17 (by assumption) ?rr17
            case ry17 => (intro wz hSw; (try dsimp only at hSw); go_simp; try with_reducible rfl)
            (try simp only [Act.put, List.setIfInBounds_toArray, List.set_cons_zero, List.set_cons_succ])
            refine reg_on (i := 1) (d := 26) (v := ?rv18) rfl rfl (by kernel_rfl) (by kernel_rfl) (by kernel_rfl) (fun _ _ _ h => h) (by rfl) ?ry18 (by assumption) ?rr18
            case ry18 => (intro wz hSw; (try dsimp only at hSw); go_simp; try with_reducible rfl)
            (try simp only [Act.put, List.setIfInBounds_toArray, List.set_cons_zero, List.set_cons_succ])
            refine reg_on (i := 2) (d := 27) (v := ?rv19) rfl rfl (by kernel_rfl) (by kernel_rfl) (by kernel_rfl) (fun _ _ _ h => h) (by rfl) ?ry19 (by assumption) ?rr19
            case ry19 => (intro wz hSw; (try dsimp only at hSw); go_simp; try with_reducible rfl)
            (try simp only [Act.put, List.setIfInBounds_toArray, List.set_cons_zero, List.set_cons_succ])
            refine reg_on (i := 3) (d := 28) (v := ?rv20) rfl rfl (by kernel_rfl) (by kernel_rfl) (by kernel_rfl) (fun _ _ _ h => h) (by rfl) ?ry20 (by assumption) ?rr20
            case ry20 => (intro wz hSw; (try dsimp only at hSw); go_simp; try with_reducible rfl)
            (try simp only [Act.put, List.setIfInBounds_toArray, List.set_cons_zero, List.set_cons_succ])
            refine reg_on (i := 4) (d := 29) (v := ?rv21) rfl rfl (by kernel_rfl) (by kernel_rfl) (by kernel_rfl) (fun _ _ _ h => h) (by rfl) ?ry21 (by assumption) ?rr21
            case ry21 => (intro wz hSw; (try dsimp only at hSw); go_simp; try with_reducible rfl)
            (try simp only [Act.put, List.setIfInBounds_toArray, List.set_cons_zero, List.set_cons_succ])
            refine reg_on (i := 5) (d := 30) (v := ?rv22) rfl rfl (by kernel_rfl) (by kernel_rfl) (by kernel_rfl) (fun _ _ _ h => h) (by rfl) ?ry22 (by assumption) ?rr22
            case ry22 => (intro wz hSw; (try dsimp only at hSw); go_simp; try with_reducible rfl)
            (try simp only [Act.put, List.setIfInBounds_toArray, List.set_cons_zero, List.set_cons_succ])
            refine reg_on (i := 6) (d := 31) (v := ?rv23) rfl rfl (by kernel_rfl) (by kernel_rfl) (by kernel_rfl) (fun _ _ _ h => h) (by rfl) ?ry23 (by assumption) ?rr23
            case ry23 => (intro wz hSw; (try dsimp only at hSw); go_simp; try with_reducible rfl)
            (try simp only [Act.put, List.setIfInBounds_toArray, List.set_cons_zero, List.set_cons_succ])
            refine reg_on (i := 7) (d := 32) (v := ?rv24) rfl rfl (by kernel_rfl) (by kernel_rfl) (by kernel_rfl) (fun _ _ _ h => h) (by rfl) ?ry24 (by assumption) ?rr24
            case ry24 => (intro wz hSw; (try dsimp only at hSw); go_simp; try with_reducible rfl)
            (try simp only [Act.put, List.setIfInBounds_toArray, List.set_cons_zero, List.set_cons_succ])
            refine reg_on (i := 8) (d := 33) (v := ?rv25) rfl rfl (by kernel_rfl) (by kernel_rfl) (by kernel_rfl) (fun _ _ _ h => h) (by rfl) ?ry25 (by assumption) ?rr25
            case ry25 => (intro wz hSw; (try dsimp only at hSw); go_simp; try with_reducible rfl)
            (try simp only [Act.put, List.setIfInBounds_toArray, List.set_cons_zero, List.set_cons_succ])
            refine reg_on (i := 9) (d := 34) (v := ?rv26) rfl rfl (by kernel_rfl) (by kernel_rfl) (by kernel_rfl) (fun _ _ _ h => h) (by rfl) ?ry26 (by assumption) ?rr26
            case ry26 => (intro wz hSw; (try dsimp only at hSw); go_simp; try with_reducible rfl)
            (try simp only [Act.put, List.setIfInBounds_toArray, List.set_cons_zero, List.set_cons_succ])
            refine reg_on (i := 10) (d := 35) (v := ?rv27) rfl rfl (by kernel_rfl) (by kernel_rfl) (by kernel_rfl) (fun _ _ _ h => h) (by rfl) ?ry27 (by assumption) ?rr27
            case ry27 => (intro wz hSw; (try dsimp only at hSw); go_simp; try with_reducible rfl)
            (try simp only [Act.put, List.setIfInBounds_toArray, List.set_cons_zero, List.set_cons_succ])
            refine reg_on (i := 11) (d := 36) (v := ?rv28) rfl rfl (by kernel_rfl) (by kernel_rfl) (by kernel_rfl) (fun _ _ _ h => h) (by rfl) ?ry28 (by assumption) ?rr28
            case ry28 => (intro wz hSw; (try dsimp only at hSw); go_simp; try with_reducible rfl)
            (try simp only [Act.put, List.setIfInBounds_toArray, List.set_cons_zero, List.set_cons_succ])
            refine reg_on (i := 12) (d := 37) (v := ?rv29) rfl rfl (by kernel_rfl) (by kernel_rfl) (by kernel_rfl) (fun _ _ _ h => h) (by rfl) ?ry29 (by assumption) ?rr29
            case ry29 => (intro wz hSw; (try dsimp only at hSw); go_simp; try with_reducible rfl)
            (try simp only [Act.put, List.setIfInBounds_toArray, List.set_cons_zero, List.set_cons_succ])
            refine reg_on (i := 13) (d := 38) (v := ?rv30) rfl rfl (by kernel_rfl) (by kernel_rfl) (by kernel_rfl) (fun _ _ _ h => h) (by rfl) ?ry30 (by assumption) ?rr30
            case ry30 => (intro wz hSw; (try dsimp only at hSw); go_simp; try with_reducible rfl)
            (try simp only [Act.put, List.setIfInBounds_toArray, List.set_cons_zero, List.set_cons_succ])
            refine wpAnyH_ready (rs := [14]) (by kernel_rfl) (by simp) ?_
            refine AllReadyH.cons rfl (fun K hK => ?_) AllReadyH.nil
            go_simp
            go_at_call 28; refine (wrInto_any _ _ _ _ _ _ _).mono ?_; rintro e w6 ⟨rfl, hb6⟩; have s6 := hb6.size; (try simp at s6); have d6_0 : w6.cell? ⟨b2, o2 + J, none⟩ = some (.int .i64 I) := (hb6.cell (p := ⟨b2, o2 + J, none⟩) (by first | (simp; done) | (simp; omega) | omega)).trans (by first | assumption | (go_split_ands; assumption)); have d6_1 : w6.cell? ⟨b, o + I * 3, none⟩ = some (.int .i64 la) := (hb6.cell (p := ⟨b, o + I * 3, none⟩) (by first | (simp; done) | (simp; omega) | omega)).trans (by first | assumption | (go_split_ands; assumption)); have d6_2 : w6.cell? ⟨b, o + I * 3 + 1, none⟩ = some (.int .i64 lb) := (hb6.cell (p := ⟨b, o + I * 3 + 1, none⟩) (by first | (simp; done) | (simp; omega) | omega)).trans (by first | assumption | (go_split_ands; assumption)); have d6_3 : w6.cell? ⟨b, o + I * 3 + 2, none⟩ = some (.int .i64 lc) := (hb6.cell (p := ⟨b, o + I * 3 + 2, none⟩) (by first | (simp; done) | (simp; omega) | omega)).trans (by first | assumption | (go_split_ands; assumption)); have d6_4 : w6.cell? ⟨wo.heap.size, 0, none⟩ = some (.int .i64 qa) := (hb6.cell (p := ⟨wo.heap.size, 0, none⟩) (by first | (simp; done) | (simp; omega) | omega)).trans (by first | assumption | (go_split_ands; assumption)); have d6_5 : w6.cell? ⟨wo.heap.size, 1, none⟩ = some (.int .i64 qb) := (hb6.cell (p := ⟨wo.heap.size, 1, none⟩) (by first | (simp; done) | (simp; omega) | omega)).trans (by first | assumption | (go_split_ands; assumption)); have d6_6 : w6.cell? ⟨wo.heap.size, 2, none⟩ = some (.int .i64 qc) := (hb6.cell (p := ⟨wo.heap.size, 2, none⟩) (by first | (simp; done) | (simp; omega) | omega)).trans (by first | assumption | (go_split_ands; assumption))
            refine hK.out _ _ ?_ (fun hHeld => ?_)
            · ((try dsimp only); (repeat' apply And.intro); all_goals ((repeat (first | (with_reducible refine cell_drew ?_) | (with_reducible refine cell_drewN _ ?_) | ((with_reducible refine cell_alloc ?_ ?_); · first | omega | (simp; done) | (simp; omega) | assumption) | ((with_reducible refine cell_set ?_ ?_); · first | (intro e; injection e; omega) | (intro e; simp at e; done) | (intro e; simp at e; omega)))); first | assumption | (simp; done)))
            clear hK K
            (try simp only [Act.put, List.setIfInBounds_toArray, List.set_cons_zero, List.set_cons_succ])
            refine reg_on (i := 15) (d := 40) (v := ?rv32) rfl rfl (by kernel_rfl) (by kernel_rfl) (by kernel_rfl) (fun _ _ _ h => h) (by rfl) ?ry32 (by assumption) ?rr32
            case ry32 => (intro wz hSw; (try dsimp only at hSw); go_simp; try with_reducible rfl)
            (try simp only [Act.put, List.setIfInBounds_toArray, List.set_cons_zero, List.set_cons_succ])
            refine wpAnyH_done (by kernel_rfl) ?_ _
            have B6 : Below wo.heap.size wo w6 := bcall (by show wo.heap.size ≤ W5.heap.size; omega) hb6 B5.drew
            cases hv : intoB la lb lc qa qb qc
            · have HNX : Hid (nestMK L beg (nestM f L) (betterL beg best) (k + 1) = nestMK L beg (nestM f L) (betterL beg best) k) := by rw [Hid, nestMK, hgd, if_neg (by rw [hinB, hv]; simp)]
              have HE := Lib.hid (And.intro ((B6.cell (p := ⟨gb, 0, none⟩) hgw).trans HCE.out.1) (And.intro ((B6.frozen (p := ⟨gb, 0, none⟩) hgw).trans HCE.out.2) (And.intro (own_later HBS.out B6 (Nat.le_refl _)) (Chg.trans HCH.out (Chg.of_below (K := (· = gb)) B6 (Nat.le_refl _))))))
              clear B6 hHeld
              go_wp2
              go_roundw
              case rel => exact ⟨k + 1, A1, n1, c1, by omega, by go_num, HE.out.1, HE.out.2.1, hnb, by rw [HNX.out]; exact HE.out.2.2.1, HE.out.2.2.2⟩
              case measure => simp [intOf]; omega
            · have hin : intoP (lastB L beg) (qa, qb, qc) = true := by rw [hinB, hv]
              have hlast : (lastB L beg).1 < qa := into_long hin
              clear hHeld hv hinB hlast1
              have s6 := B6.size
              have HBG6 := Lib.hid (own_later HBG.out B6 (Nat.le_refl _))
              have HBS6 := Lib.hid (own_later HBS.out B6 (Nat.le_refl _))
              have HB6 := Lib.hid B6
              have HRG := Lib.hid (Rd.of_own HBG6.out)
              clear B6
              go_wp2_with fail
              refine (l1OwnN_any _ ng _ beg _ HRG.out hst.begN (by omega)).mono ?_; rintro e w7 ⟨A7, c7, rfl, own7, hb7⟩
              have s7 := hb7.size
              have hm7 := World.ownsRow.alloc (own_base own7 (B' := wo.heap.size) s6) (.cells #[.int .i64 (k : Int)] 3)
              have H7 := Lib.hid hm7
              have B7 : Below wo.heap.size wo w7 := HB6.out.trans (hb7.mono s6)
              have HB7 := Lib.hid (B7.alloc B7.size (.cells #[.int .i64 (k : Int)] 3))
              have hnw := new1 w7 3 (.int .i64 (k : Int))
              have hc3 : ng + 1 ≤ maxLen := by simp only [maxLen]; omega
              have hc4 : (ng + 1) * 8 ≤ 140737488355328 := by omega
              have hc5 : wo.heap.size ≤ (w7.alloc (.cells #[.int .i64 (k : Int)] 3)).heap.size := by simp; omega
              clear own7 hb7 hm7 B7
              go_wp2_with (at_builtin; refine wpList_append_own _ rfl (.tmp 43) (.tmp 45) 31 rfl wo.heap.size 3 i0 (.int .i64 0) 1 8 Try.underlying31 hi hz0 hz1 hz2 rfl (by decide) _ _ _ rfl H7.out ⟨w7.heap.size, 0, none⟩ 1 1 [.int .i64 (k : Int)] rfl rfl hnw (int_oneCell [_]) hc3 hc4 hc5 ?_)
              intro v' w9 hown' hgrow _
              have hb9 := gb_new (Nat.le_refl _) HB7.out hgrow (fun g hg => (H7.out.lt g hg).1)
              obtain ⟨A9, c9, rfl⟩ := own_slice hown'
              have s9 := hb9.size
              have hlt9 : ∀ g, (Value.slice A9 (ng + 1) c9).ownBlock = some g → g ≠ gb := fun g hg => by have h1 := (hown'.lt g hg).1; omega
              have HAT : Hid (NestAt (some ⟨b, o, none⟩) n L f (beg ++ [(k : Int)]) (nestMK L beg (nestM f L) (betterL beg best) k) A9 (ng + 1) c9 A1 n1 c1 gb B w9) := {
                fuel := by rw [lastB_snoc, hgd]; show 60 - qa < (f : Int); omega
                few := by have := hst.few; omega
                last := by rw [lastB_snoc, hgd]; show 0 ≤ qa ∧ qa ≤ 60; omega
                list := HRW.out.later hb9 (Nat.le_refl _)
                begO := by have h := own_base hown' (B' := B) hBw; rw [show intCells (beg ++ [(k : Int)]) = intCells beg ++ [.int .i64 (k : Int)] from intCells_append _ _]; exact h
                begN := fun h => by omega
                begS := by have := hst.begS; omega
                begI := fun i hi => by
                  rcases List.mem_append.1 hi with h | h
                  · exact hst.begI i h
                  · simp at h; omega
                bestO := own_later HBS.out hb9 (Nat.le_refl _)
                cell := (hb9.cell (p := ⟨gb, 0, none⟩) hgw).trans HCE.out.1
                free := (hb9.frozen (p := ⟨gb, 0, none⟩) hgw).trans HCE.out.2
                notA := hst.notA
                notG := hlt9
                notB := hnb
                base := by omega }
              have HC9 := Lib.hid (Chg.trans HCH.out (Chg.of_below (K := (· = gb)) hb9 (Nat.le_refl _)))
              clear hown' hgrow hb9 hlt9 hnw hc3 hc4 hc5
              go_wp2_with fail
              refine (HIH.out _ _ _ _ _ _ _ _ _ _ _ HAT.out).mono ?_; rintro e w10 ⟨rfl, A10, n10, c10, e1, e2, e3, e4, e5⟩
              have HNX : Hid (nestMK L beg (nestM f L) (betterL beg best) (k + 1) = nestM f L (beg ++ [(k : Int)]) (nestMK L beg (nestM f L) (betterL beg best) k)) := by rw [Hid, nestMK, hgd, if_pos hin]
              have HE := Lib.hid (And.intro e1 (And.intro e2 (And.intro e3 (And.intro e4 (Chg.trans HC9.out e5)))))
              clear e1 e2 e3 e4 e5
              go_wp2
              go_roundw
              case rel => exact ⟨k + 1, A10, n10, c10, by omega, by go_num, HE.out.1, HE.out.2.1, HE.out.2.2.1, by rw [HNX.out]; exact HE.out.2.2.2.1, HE.out.2.2.2.2⟩
              case measure => simp [intOf]; omega
        · obtain rfl : k = n := by omega
          have HEND : Hid (nestM (f + 1) L beg best = nestMK L beg (nestM f L) (betterL beg best) k) := by rw [Hid, nestM, HL.out]
          have HK := Lib.hid (And.intro hce (And.intro hfr (And.intro hnb (And.intro hbs hch))))
          clear hce hfr hnb hbs hch
          go_wp2
          refine bodyPost_end (v := .tuple #[]) (by simp [results, Try.results31, go_sem]) rfl ⟨rfl, A1, n1, c1, HK.out.1, HK.out.2.1, HK.out.2.2.1, by rw [HEND.out]; exact HK.out.2.2.2.1, HK.out.2.2.2.2⟩
    · go_enter Try.func31, Try.ntmps31
      have hci : ¬ (nb : Int) < ng := by omega
      have HST : Hid (betterL beg best = best) := HMID.out.trans (if_neg hcmp)
      obtain ⟨W0, hW0⟩ : ∃ W0, W0 = w := ⟨_, rfl⟩
      have k1 : W0.cell? ⟨gb, 0, none⟩ = some (.slice Ab nb cb) := by rw [hW0]; exact cc
      have k2 : Chg (· = gb) w W0 := by rw [hW0]; exact Chg.refl _ _
      have k3 : W0.frozen? ⟨gb, 0, none⟩ = false := by rw [hW0]; exact cf
      have k4 : W0.ownsRow B 3 1 (.slice Ab nb cb) nb (intCells (betterL beg best)) := by rw [hW0, HST.out]; exact hst.bestO
      have k5 := hst.notB
      go_wp2
      rw [← hW0]
      clear hW0 hcmp hci cc cf
      have HK := Lib.hid (And.intro k1 (And.intro k3 (And.intro k5 (And.intro k4 k2))))
      clear k1 k2 k3 k4 k5
      go_loopw [20] (fun i wr => ∃ (k : Nat) (A1 : Option Addr) (n1 c1 : Nat), k ≤ n ∧ i = .int .i64 k ∧ wr.cell? ⟨gb, 0, none⟩ = some (.slice A1 n1 c1) ∧ wr.frozen? ⟨gb, 0, none⟩ = false ∧ (∀ g, (Value.slice A1 n1 c1).ownBlock = some g → g ≠ gb) ∧ wr.ownsRow B 3 1 (.slice A1 n1 c1) n1 (intCells (nestMK L beg (nestM f L) (betterL beg best) k)) ∧ Chg (· = gb) w wr) (fun i _ => n - (intOf i).toNat)
      case atStart => exact ⟨0, _, _, _, Nat.zero_le _, rfl, HK.out.1, HK.out.2.1, HK.out.2.2.1, HK.out.2.2.2.1, HK.out.2.2.2.2⟩
      case round =>
        clear HK
        obtain ⟨k, A1, n1, c1, hk, rfl, hce, hfr, hnb, hbs, hch⟩ := hrel
        have sB := hch.size
        have hgw : gb < wr.heap.size := by omega
        have hBw : B ≤ wr.heap.size := by omega
        by_cases hlt : k < n
        · have hrw : Rd wr 3 A n (boxCells L) := chg_rdN hch hst.list hst.notA
          obtain ⟨b, o, rfl, hbl, hx, p0, p1, p2⟩ := hrw.box hlt
          have hgd : L.getD k zBx = L[k] := by simp [List.getD, hx]
          have hgk := boxB_true (goodL_at HG.out hx)
          have hIZ : beg = [] → intoP (lastB L beg) L[k] = true := fun h => by rw [h]; exact into_zero (goodL_at HG.out hx)
          have HRW := Lib.hid hrw
          have HBS := Lib.hid hbs
          have HBG := Lib.hid (hch.own hst.begO hst.notG)
          have HCE := Lib.hid (And.intro hce hfr)
          have HCH := Lib.hid hch
          clear hrw hbs hch hce hfr
          by_cases hz : beg = []
          · have hin := hIZ hz
            have hng0 : ng = 0 := by rw [← HLG.out, hz]; rfl
            have hng0' : ((ng : Int) == 0) = true := by simp [hng0]
            have HNG := Lib.hid hng0
            have HZ := Lib.hid hz
            clear hng0 hz hIZ
            have hlast := into_long hin
            have hlr := hst.last
            have hfu := hst.fuel
            generalize hq : L[k] = q at *
            obtain ⟨qa, qb, qc⟩ := q
            simp only at p0 p1 p2 hgk hlast
            obtain ⟨wo, rfl⟩ : ∃ wo, wo = wr := ⟨_, rfl⟩
            go_wp2
            refine wp_region_held_drew (S := (fun w' => True)) (by kernel_rfl) ?_ (fun hHeld => ?_)
            · ((try dsimp only); (repeat' apply And.intro); all_goals ((repeat (first | (with_reducible refine cell_drew ?_) | (with_reducible refine cell_drewN _ ?_) | ((with_reducible refine cell_alloc ?_ ?_); · first | omega | (simp; done) | (simp; omega) | assumption) | ((with_reducible refine cell_set ?_ ?_); · first | (intro e; injection e; omega) | (intro e; simp at e; done) | (intro e; simp at e; omega)))); first | assumption | (simp; done)))
            refine reg_on (i := 0) (d := 25) (v := ?rv33) rfl rfl (by kernel_rfl) (by kernel_rfl) (by kernel_rfl) (fun _ _ _ h => h) (by rfl) ?ry33 (by assumption) ?rr33
            case ry33 => (intro wz hSw; (try dsimp only at hSw); go_simp; try with_reducible rfl)
            (try simp only [Act.put, List.setIfInBounds_toArray, List.set_cons_zero, List.set_cons_succ])
            refine reg_on (i := 1) (d := 26) (v := ?rv34) rfl rfl (by kernel_rfl) (by kernel_rfl) (by kernel_rfl) (fun _ _ _ h => h) (by rfl) ?ry34 (by assumption) ?rr34
            case ry34 => (intro wz hSw; (try dsimp only at hSw); go_simp; try with_reducible rfl)
            (try simp only [Act.put, List.setIfInBounds_toArray, List.set_cons_zero, List.set_cons_succ])
            refine reg_on (i := 2) (d := 27) (v := ?rv35) rfl rfl (by kernel_rfl) (by kernel_rfl) (by kernel_rfl) (fun _ _ _ h => h) (by rfl) ?ry35 (by assumption) ?rr35
            case ry35 => (intro wz hSw; (try dsimp only at hSw); go_simp; try with_reducible rfl)
            (try simp only [Act.put, List.setIfInBounds_toArray, List.set_cons_zero, List.set_cons_succ])
            refine reg_on (i := 3) (d := 28) (v := ?rv36) rfl rfl (by kernel_rfl) (by kernel_rfl) (by kernel_rfl) (fun _ _ _ h => h) (by rfl) ?ry36 (by assumption) ?rr36
            case ry36 => (intro wz hSw; (try dsimp only at hSw); go_simp; try with_reducible rfl)
            (try simp only [Act.put, List.setIfInBounds_toArray, List.set_cons_zero, List.set_cons_succ])
            refine reg_off (i := 4) (d := 29) rfl rfl (by kernel_rfl) (by kernel_rfl) (by kernel_rfl) (fun _ _ _ h => h) (by rfl) (by assumption) ?_; (try simp only [Act.put, List.setIfInBounds_toArray, List.set_cons_zero, List.set_cons_succ])
            refine reg_off (i := 5) (d := 30) rfl rfl (by kernel_rfl) (by kernel_rfl) (by kernel_rfl) (fun _ _ _ h => h) (by rfl) (by assumption) ?_; (try simp only [Act.put, List.setIfInBounds_toArray, List.set_cons_zero, List.set_cons_succ])
            refine reg_off (i := 6) (d := 31) rfl rfl (by kernel_rfl) (by kernel_rfl) (by kernel_rfl) (fun _ _ _ h => h) (by rfl) (by assumption) ?_; (try simp only [Act.put, List.setIfInBounds_toArray, List.set_cons_zero, List.set_cons_succ])
            refine reg_off (i := 7) (d := 32) rfl rfl (by kernel_rfl) (by kernel_rfl) (by kernel_rfl) (fun _ _ _ h => h) (by rfl) (by assumption) ?_; (try simp only [Act.put, List.setIfInBounds_toArray, List.set_cons_zero, List.set_cons_succ])
            refine reg_off (i := 8) (d := 33) rfl rfl (by kernel_rfl) (by kernel_rfl) (by kernel_rfl) (fun _ _ _ h => h) (by rfl) (by assumption) ?_; (try simp only [Act.put, List.setIfInBounds_toArray, List.set_cons_zero, List.set_cons_succ])
            refine reg_off (i := 9) (d := 34) rfl rfl (by kernel_rfl) (by kernel_rfl) (by kernel_rfl) (fun _ _ _ h => h) (by rfl) (by assumption) ?_; (try simp only [Act.put, List.setIfInBounds_toArray, List.set_cons_zero, List.set_cons_succ])
            refine reg_off (i := 10) (d := 35) rfl rfl (by kernel_rfl) (by kernel_rfl) (by kernel_rfl) (fun _ _ _ h => h) (by rfl) (by assumption) ?_; (try simp only [Act.put, List.setIfInBounds_toArray, List.set_cons_zero, List.set_cons_succ])
            refine reg_off (i := 11) (d := 36) rfl rfl (by kernel_rfl) (by kernel_rfl) (by kernel_rfl) (fun _ _ _ h => h) (by rfl) (by assumption) ?_; (try simp only [Act.put, List.setIfInBounds_toArray, List.set_cons_zero, List.set_cons_succ])
            refine reg_off (i := 12) (d := 37) rfl rfl (by kernel_rfl) (by kernel_rfl) (by kernel_rfl) (fun _ _ _ h => h) (by rfl) (by assumption) ?_; (try simp only [Act.put, List.setIfInBounds_toArray, List.set_cons_zero, List.set_cons_succ])
            refine reg_off (i := 13) (d := 38) rfl rfl (by kernel_rfl) (by kernel_rfl) (by kernel_rfl) (fun _ _ _ h => h) (by rfl) (by assumption) ?_; (try simp only [Act.put, List.setIfInBounds_toArray, List.set_cons_zero, List.set_cons_succ])
            refine reg_off (i := 14) (d := 39) rfl rfl (by kernel_rfl) (by kernel_rfl) (by kernel_rfl) (fun _ _ _ h => h) (by rfl) (by assumption) ?_; (try simp only [Act.put, List.setIfInBounds_toArray, List.set_cons_zero, List.set_cons_succ])
            refine reg_on (i := 15) (d := 40) (v := ?rv48) rfl rfl (by kernel_rfl) (by kernel_rfl) (by kernel_rfl) (fun _ _ _ h => h) (by rfl) ?ry48 (by assumption) ?rr48
            case ry48 => (intro wz hSw; (try dsimp only at hSw); go_simp; try with_reducible rfl)
            (try simp only [Act.put, List.setIfInBounds_toArray, List.set_cons_zero, List.set_cons_succ])
            refine wpAnyH_done (by kernel_rfl) ?_ _
            have B6 : Below wo.heap.size wo ((wo.alloc (.cells #[.int .i64 qa, .int .i64 qb, .int .i64 qc] 26)).drew) := by (repeat (first | (with_reducible exact Below.refl _ _) | (with_reducible assumption) | (with_reducible refine Below.drew ?_) | ((with_reducible refine balloc ?_ _ ?_); · (first | (simp; done) | (simp; omega) | omega)) | ((with_reducible refine bset ?_ _ ?_); · (first | (simp; done) | (simp; omega) | omega)) | (with_reducible refine bdrewN _ ?_) | ((with_reducible refine bcall ?_ (by assumption) ?_); · (first | (simp; done) | (simp; omega) | omega))))
            generalize ((wo.alloc (.cells #[.int .i64 qa, .int .i64 qb, .int .i64 qc] 26)).drew) = W6 at *
            have s6 := B6.size
            have HBG6 := Lib.hid (own_later HBG.out B6 (Nat.le_refl _))
            have HBS6 := Lib.hid (own_later HBS.out B6 (Nat.le_refl _))
            have HB6 := Lib.hid B6
            have HRG := Lib.hid (Rd.of_own HBG6.out)
            clear B6
            go_wp2_with fail
            refine (l1OwnN_any _ ng _ beg _ HRG.out hst.begN (by omega)).mono ?_; rintro e w7 ⟨A7, c7, rfl, own7, hb7⟩
            have s7 := hb7.size
            have hm7 := World.ownsRow.alloc (own_base own7 (B' := wo.heap.size) s6) (.cells #[.int .i64 (k : Int)] 3)
            have H7 := Lib.hid hm7
            have B7 : Below wo.heap.size wo w7 := HB6.out.trans (hb7.mono s6)
            have HB7 := Lib.hid (B7.alloc B7.size (.cells #[.int .i64 (k : Int)] 3))
            have hnw := new1 w7 3 (.int .i64 (k : Int))
            have hc3 : ng + 1 ≤ maxLen := by simp only [maxLen]; omega
            have hc4 : (ng + 1) * 8 ≤ 140737488355328 := by omega
            have hc5 : wo.heap.size ≤ (w7.alloc (.cells #[.int .i64 (k : Int)] 3)).heap.size := by simp; omega
            clear own7 hb7 hm7 B7
            go_wp2_with (at_builtin; refine wpList_append_own _ rfl (.tmp 43) (.tmp 45) 31 rfl wo.heap.size 3 i0 (.int .i64 0) 1 8 Try.underlying31 hi hz0 hz1 hz2 rfl (by decide) _ _ _ rfl H7.out ⟨w7.heap.size, 0, none⟩ 1 1 [.int .i64 (k : Int)] rfl rfl hnw (int_oneCell [_]) hc3 hc4 hc5 ?_)
            intro v' w9 hown' hgrow _
            have hb9 := gb_new (Nat.le_refl _) HB7.out hgrow (fun g hg => (H7.out.lt g hg).1)
            obtain ⟨A9, c9, rfl⟩ := own_slice hown'
            have s9 := hb9.size
            have hlt9 : ∀ g, (Value.slice A9 (ng + 1) c9).ownBlock = some g → g ≠ gb := fun g hg => by have h1 := (hown'.lt g hg).1; omega
            have HAT : Hid (NestAt (some ⟨b, o, none⟩) n L f (beg ++ [(k : Int)]) (nestMK L beg (nestM f L) (betterL beg best) k) A9 (ng + 1) c9 A1 n1 c1 gb B w9) := {
              fuel := by rw [lastB_snoc, hgd]; show 60 - qa < (f : Int); omega
              few := by have := hst.few; omega
              last := by rw [lastB_snoc, hgd]; show 0 ≤ qa ∧ qa ≤ 60; omega
              list := HRW.out.later hb9 (Nat.le_refl _)
              begO := by have h := own_base hown' (B' := B) hBw; rw [show intCells (beg ++ [(k : Int)]) = intCells beg ++ [.int .i64 (k : Int)] from intCells_append _ _]; exact h
              begN := fun h => by omega
              begS := by have := hst.begS; omega
              begI := fun i hi => by
                rcases List.mem_append.1 hi with h | h
                · exact hst.begI i h
                · simp at h; omega
              bestO := own_later HBS.out hb9 (Nat.le_refl _)
              cell := (hb9.cell (p := ⟨gb, 0, none⟩) hgw).trans HCE.out.1
              free := (hb9.frozen (p := ⟨gb, 0, none⟩) hgw).trans HCE.out.2
              notA := hst.notA
              notG := hlt9
              notB := hnb
              base := by omega }
            have HC9 := Lib.hid (Chg.trans HCH.out (Chg.of_below (K := (· = gb)) hb9 (Nat.le_refl _)))
            clear hown' hgrow hb9 hlt9 hnw hc3 hc4 hc5
            go_wp2_with fail
            refine (HIH.out _ _ _ _ _ _ _ _ _ _ _ HAT.out).mono ?_; rintro e w10 ⟨rfl, A10, n10, c10, e1, e2, e3, e4, e5⟩
            have HNX : Hid (nestMK L beg (nestM f L) (betterL beg best) (k + 1) = nestM f L (beg ++ [(k : Int)]) (nestMK L beg (nestM f L) (betterL beg best) k)) := by rw [Hid, nestMK, hgd, if_pos hin]
            have HE := Lib.hid (And.intro e1 (And.intro e2 (And.intro e3 (And.intro e4 (Chg.trans HC9.out e5)))))
            clear e1 e2 e3 e4 e5
            go_wp2
            go_roundw
            case rel => exact ⟨k + 1, A10, n10, c10, by omega, by go_num, HE.out.1, HE.out.2.1, HE.out.2.2.1, by rw [HNX.out]; exact HE.out.2.2.2.1, HE.out.2.2.2.2⟩
            case measure => simp [intOf]; omega
          · have hngp : ng ≠ 0 := fun e => hz (List.eq_nil_of_length_eq_zero (by rw [HLG.out]; exact e))
            obtain ⟨J, hJ⟩ : ∃ J, ng = J + 1 := ⟨ng - 1, by omega⟩
            have hng0' : ((ng : Int) == 0) = false := by simp; omega
            obtain ⟨b2, o2, hAg, hbl2, hx2, p3⟩ := (Rd.of_own HBG.out).num (k := J) (by omega)
            have hlast0 : lastB L beg = L.getD (beg[J]).toNat zBx := by
              have e1 : beg.getLast? = some beg[J] := by rw [List.getLast?_eq_getElem?, show beg.length - 1 = J by have := HLG.out; omega, List.getElem?_eq_getElem hx2]
              unfold lastB
              rw [e1]
            have hbi := hst.begI _ (List.getElem_mem hx2)
            generalize beg[J] = bi at *
            obtain ⟨I, rfl⟩ : ∃ I : Nat, bi = I := ⟨bi.toNat, by omega⟩
            obtain ⟨b', o', hbo, _, hx3, p4, p5, p6⟩ := HRW.out.box (k := I) (by omega)
            simp only [Option.some.injEq, Addr.mk.injEq, and_true] at hbo
            obtain ⟨rfl, rfl⟩ := hbo
            have hlast1 : lastB L beg = L[I] := by rw [hlast0]; simp [List.getD, hx3]
            have hlr := hst.last
            have hfu := hst.fuel
            generalize hq : L[k] = q at *
            generalize hq2 : L[I] = q2 at *
            obtain ⟨qa, qb, qc⟩ := q
            obtain ⟨la, lb, lc⟩ := q2
            simp only at p0 p1 p2 p4 p5 p6 hgk
            have hinB : intoP (lastB L beg) (qa, qb, qc) = intoB la lb lc qa qb qc := by rw [hlast1]; rfl
            have hwJ : IntKind.i64.wrap ((ng : Int) - 1) = (J : Int) := by rw [show (ng : Int) - 1 = J by omega]; exact IntWalk.i64_in _ (by omega)
            have y1 : (J : Int) < ng := by omega
            have y2 : (0 : Int) ≤ (J : Int) := by omega
            have y3 : J < ng := by omega
            have y4 : (I : Int) < n := by omega
            have y5 : (0 : Int) ≤ (I : Int) := by omega
            have y6 : I < n := by omega
            have HJ := Lib.hid hJ
            obtain ⟨wo, rfl⟩ : ∃ wo, wo = wr := ⟨_, rfl⟩
            obtain ⟨W5, hW5⟩ : ∃ W5, W5 = wo.alloc (.cells #[.int .i64 qa, .int .i64 qb, .int .i64 qc] 26) := ⟨_, rfl⟩
            have B5 : Below wo.heap.size wo W5 := by rw [hW5]; exact (Below.refl _ _).alloc (Nat.le_refl _) _
            have r3 := (B5.cell (p := ⟨b2, o2 + J, none⟩) hbl2).trans p3
            have r4 := (B5.cell (p := ⟨b, o + I * 3, none⟩) hbl).trans p4
            have r5 := (B5.cell (p := ⟨b, o + I * 3 + 1, none⟩) hbl).trans p5
            have r6 := (B5.cell (p := ⟨b, o + I * 3 + 2, none⟩) hbl).trans p6
            have r7 : W5.cell? ⟨wo.heap.size, 0, none⟩ = some (.int .i64 qa) := by rw [hW5]; simp [go_sem]
            have r8 : W5.cell? ⟨wo.heap.size, 1, none⟩ = some (.int .i64 qb) := by rw [hW5]; simp [go_sem]
            have r9 : W5.cell? ⟨wo.heap.size, 2, none⟩ = some (.int .i64 qc) := by rw [hW5]; simp [go_sem]
            have sz5 : wo.heap.size < W5.heap.size := by rw [hW5]; simp
            have hbx : b < W5.heap.size := by omega
            have hby : b2 < W5.heap.size := by omega
            subst hAg
            clear p3 p4 p5 p6 hlast0 hJ hz hIZ hngp
            go_wp2
            rw [← hW5]
            clear hW5
            refine wp_region_held_drew (S := (fun w' => w'.cell? ⟨b2, o2 + J, none⟩ = some (.int .i64 I) ∧ w'.cell? ⟨b, o + I * 3, none⟩ = some (.int .i64 la) ∧ w'.cell? ⟨b, o + I * 3 + 1, none⟩ = some (.int .i64 lb) ∧ w'.cell? ⟨b, o + I * 3 + 2, none⟩ = some (.int .i64 lc) ∧ w'.cell? ⟨wo.heap.size, 0, none⟩ = some (.int .i64 qa) ∧ w'.cell? ⟨wo.heap.size, 1, none⟩ = some (.int .i64 qb) ∧ w'.cell? ⟨wo.heap.size, 2, none⟩ = some (.int .i64 qc))) (by kernel_rfl) ?_ (fun hHeld => ?_)
            · ((try dsimp only); (repeat' apply And.intro); all_goals ((repeat (first | (with_reducible refine cell_drew ?_) | (with_reducible refine cell_drewN _ ?_) | ((with_reducible refine cell_alloc ?_ ?_); · first | omega | (simp; done) | (simp; omega) | assumption) | ((with_reducible refine cell_set ?_ ?_); · first | (intro e; injection e; omega) | (intro e; simp at e; done) | (intro e; simp at e; omega)))); first | assumption | (simp; done)))
            refine reg_on (i := 0) (d := 25) (v := ?rv49) rfl rfl (by kernel_rfl) (by kernel_rfl) (by kernel_rfl) (fun _ _ _ h => h) (by rfl) ?ry49 (by assumption) ?rr49
            case ry49 => (intro wz hSw; (try dsimp only at hSw); go_simp; try with_reducible rfl)
            (try simp only [Act.put, List.setIfInBounds_toArray, List.set_cons_zero, List.set_cons_succ])
            refine reg_on (i := 1) (d := 26) (v := ?rv50) rfl rfl (by kernel_rfl) (by kernel_rfl) (by kernel_rfl) (fun _ _ _ h => h) (by rfl) ?ry50 (by assumption) ?rr50
            case ry50 => (intro wz hSw; (try dsimp only at hSw); go_simp; try with_reducible rfl)
            (try simp only [Act.put, List.setIfInBounds_toArray, List.set_cons_zero, List.set_cons_succ])
            refine reg_on (i := 2) (d := 27) (v := ?rv51) rfl rfl (by kernel_rfl) (by kernel_rfl) (by kernel_rfl) (fun _ _ _ h => h) (by rfl) ?ry51 (by assumption) ?rr51
            case ry51 => (intro wz hSw; (try dsimp only at hSw); go_simp; try with_reducible rfl)
            (try simp only [Act.put, List.setIfInBounds_toArray, List.set_cons_zero, List.set_cons_succ])
            refine reg_on (i := 3) (d := 28) (v := ?rv52) rfl rfl (by kernel_rfl) (by kernel_rfl) (by kernel_rfl) (fun _ _ _ h => h) (by rfl) ?ry52 (by assumption) ?rr52
            case ry52 => (intro wz hSw; (try dsimp only at hSw); go_simp; try with_reducible rfl)
            (try simp only [Act.put, List.setIfInBounds_toArray, List.set_cons_zero, List.set_cons_succ])
            refine reg_on (i := 4) (d := 29) (v := ?rv53) rfl rfl (by kernel_rfl) (by kernel_rfl) (by kernel_rfl) (fun _ _ _ h => h) (by rfl) ?ry53 (by assumption) ?rr53
            case ry53 => (intro wz hSw; (try dsimp only at hSw); go_simp; try with_reducible rfl)
            (try simp only [Act.put, List.setIfInBounds_toArray, List.set_cons_zero, List.set_cons_succ])
            refine reg_on (i := 5) (d := 30) (v := ?rv54) rfl rfl (by kernel_rfl) (by kernel_rfl) (by kernel_rfl) (fun _ _ _ h => h) (by rfl) ?ry54 (by assumption) ?rr54
            case ry54 => (intro wz hSw; (try dsimp only at hSw); go_simp; try with_reducible rfl)
            (try simp only [Act.put, List.setIfInBounds_toArray, List.set_cons_zero, List.set_cons_succ])
            refine reg_on (i := 6) (d := 31) (v := ?rv55) rfl rfl (by kernel_rfl) (by kernel_rfl) (by kernel_rfl) (fun _ _ _ h => h) (by rfl) ?ry55 (by assumption) ?rr55
            case ry55 => (intro wz hSw; (try dsimp only at hSw); go_simp; try with_reducible rfl)
            (try simp only [Act.put, List.setIfInBounds_toArray, List.set_cons_zero, List.set_cons_succ])
            refine reg_on (i := 7) (d := 32) (v := ?rv56) rfl rfl (by kernel_rfl) (by kernel_rfl) (by kernel_rfl) (fun _ _ _ h => h) (by rfl) ?ry56 (by assumption) ?rr56
            case ry56 => (intro wz hSw; (try dsimp only at hSw); go_simp; try with_reducible rfl)
            (try simp only [Act.put, List.setIfInBounds_toArray, List.set_cons_zero, List.set_cons_succ])
            refine reg_on (i := 8) (d := 33) (v := ?rv57) rfl rfl (by kernel_rfl) (by kernel_rfl) (by kernel_rfl) (fun _ _ _ h => h) (by rfl) ?ry57 (by assumption) ?rr57
            case ry57 => (intro wz hSw; (try dsimp only at hSw); go_simp; try with_reducible rfl)
            (try simp only [Act.put, List.setIfInBounds_toArray, List.set_cons_zero, List.set_cons_succ])
            refine reg_on (i := 9) (d := 34) (v := ?rv58) rfl rfl (by kernel_rfl) (by kernel_rfl) (by kernel_rfl) (fun _ _ _ h => h) (by rfl) ?ry58 (by assumption) ?rr58
            case ry58 => (intro wz hSw; (try dsimp only at hSw); go_simp; try with_reducible rfl)
            (try simp only [Act.put, List.setIfInBounds_toArray, List.set_cons_zero, List.set_cons_succ])
            refine reg_on (i := 10) (d := 35) (v := ?rv59) rfl rfl (by kernel_rfl) (by kernel_rfl) (by kernel_rfl) (fun _ _ _ h => h) (by rfl) ?ry59 (by assumption) ?rr59
            case ry59 => (intro wz hSw; (try dsimp only at hSw); go_simp; try with_reducible rfl)
            (try simp only [Act.put, List.setIfInBounds_toArray, List.set_cons_zero, List.set_cons_succ])
            refine reg_on (i := 11) (d := 36) (v := ?rv60) rfl rfl (by kernel_rfl) (by kernel_rfl) (by kernel_rfl) (fun _ _ _ h => h) (by rfl) ?ry60 (by assumption) ?rr60
            case ry60 => (intro wz hSw; (try dsimp only at hSw); go_simp; try with_reducible rfl)
            (try simp only [Act.put, List.setIfInBounds_toArray, List.set_cons_zero, List.set_cons_succ])
            refine reg_on (i := 12) (d := 37) (v := ?rv61) rfl rfl (by kernel_rfl) (by kernel_rfl) (by kernel_rfl) (fun _ _ _ h => h) (by rfl) ?ry61 (by assumption) ?rr61
            case ry61 => (intro wz hSw; (try dsimp only at hSw); go_simp; try with_reducible rfl)
            (try simp only [Act.put, List.setIfInBounds_toArray, List.set_cons_zero, List.set_cons_succ])
            refine reg_on (i := 13) (d := 38) (v := ?rv62) rfl rfl (by kernel_rfl) (by kernel_rfl) (by kernel_rfl) (fun _ _ _ h => h) (by rfl) ?ry62 (by assumption) ?rr62
            case ry62 => (intro wz hSw; (try dsimp only at hSw); go_simp; try with_reducible rfl)
            (try simp only [Act.put, List.setIfInBounds_toArray, List.set_cons_zero, List.set_cons_succ])
            refine wpAnyH_ready (rs := [14]) (by kernel_rfl) (by simp) ?_
            refine AllReadyH.cons rfl (fun K hK => ?_) AllReadyH.nil
            go_simp
            go_at_call 28; refine (wrInto_any _ _ _ _ _ _ _).mono ?_; rintro e w6 ⟨rfl, hb6⟩; have s6 := hb6.size; (try simp at s6); have d6_0 : w6.cell? ⟨b2, o2 + J, none⟩ = some (.int .i64 I) := (hb6.cell (p := ⟨b2, o2 + J, none⟩) (by first | (simp; done) | (simp; omega) | omega)).trans (by first | assumption | (go_split_ands; assumption)); have d6_1 : w6.cell? ⟨b, o + I * 3, none⟩ = some (.int .i64 la) := (hb6.cell (p := ⟨b, o + I * 3, none⟩) (by first | (simp; done) | (simp; omega) | omega)).trans (by first | assumption | (go_split_ands; assumption)); have d6_2 : w6.cell? ⟨b, o + I * 3 + 1, none⟩ = some (.int .i64 lb) := (hb6.cell (p := ⟨b, o + I * 3 + 1, none⟩) (by first | (simp; done) | (simp; omega) | omega)).trans (by first | assumption | (go_split_ands; assumption)); have d6_3 : w6.cell? ⟨b, o + I * 3 + 2, none⟩ = some (.int .i64 lc) := (hb6.cell (p := ⟨b, o + I * 3 + 2, none⟩) (by first | (simp; done) | (simp; omega) | omega)).trans (by first | assumption | (go_split_ands; assumption)); have d6_4 : w6.cell? ⟨wo.heap.size, 0, none⟩ = some (.int .i64 qa) := (hb6.cell (p := ⟨wo.heap.size, 0, none⟩) (by first | (simp; done) | (simp; omega) | omega)).trans (by first | assumption | (go_split_ands; assumption)); have d6_5 : w6.cell? ⟨wo.heap.size, 1, none⟩ = some (.int .i64 qb) := (hb6.cell (p := ⟨wo.heap.size, 1, none⟩) (by first | (simp; done) | (simp; omega) | omega)).trans (by first | assumption | (go_split_ands; assumption)); have d6_6 : w6.cell? ⟨wo.heap.size, 2, none⟩ = some (.int .i64 qc) := (hb6.cell (p := ⟨wo.heap.size, 2, none⟩) (by first | (simp; done) | (simp; omega) | omega)).trans (by first | assumption | (go_split_ands; assumption))
            refine hK.out _ _ ?_ (fun hHeld => ?_)
            · ((try dsimp only); (repeat' apply And.intro); all_goals ((repeat (first | (with_reducible refine cell_drew ?_) | (with_reducible refine cell_drewN _ ?_) | ((with_reducible refine cell_alloc ?_ ?_); · first | omega | (simp; done) | (simp; omega) | assumption) | ((with_reducible refine cell_set ?_ ?_); · first | (intro e; injection e; omega) | (intro e; simp at e; done) | (intro e; simp at e; omega)))); first | assumption | (simp; done)))
            clear hK K
            (try simp only [Act.put, List.setIfInBounds_toArray, List.set_cons_zero, List.set_cons_succ])
            refine reg_on (i := 15) (d := 40) (v := ?rv64) rfl rfl (by kernel_rfl) (by kernel_rfl) (by kernel_rfl) (fun _ _ _ h => h) (by rfl) ?ry64 (by assumption) ?rr64
            case ry64 => (intro wz hSw; (try dsimp only at hSw); go_simp; try with_reducible rfl)
            (try simp only [Act.put, List.setIfInBounds_toArray, List.set_cons_zero, List.set_cons_succ])
            refine wpAnyH_done (by kernel_rfl) ?_ _
            have B6 : Below wo.heap.size wo w6 := bcall (by show wo.heap.size ≤ W5.heap.size; omega) hb6 B5.drew
            cases hv : intoB la lb lc qa qb qc
            · have HNX : Hid (nestMK L beg (nestM f L) (betterL beg best) (k + 1) = nestMK L beg (nestM f L) (betterL beg best) k) := by rw [Hid, nestMK, hgd, if_neg (by rw [hinB, hv]; simp)]
              have HE := Lib.hid (And.intro ((B6.cell (p := ⟨gb, 0, none⟩) hgw).trans HCE.out.1) (And.intro ((B6.frozen (p := ⟨gb, 0, none⟩) hgw).trans HCE.out.2) (And.intro (own_later HBS.out B6 (Nat.le_refl _)) (Chg.trans HCH.out (Chg.of_below (K := (· = gb)) B6 (Nat.le_refl _))))))
              clear B6 hHeld
              go_wp2
              go_roundw
              case rel => exact ⟨k + 1, A1, n1, c1, by omega, by go_num, HE.out.1, HE.out.2.1, hnb, by rw [HNX.out]; exact HE.out.2.2.1, HE.out.2.2.2⟩
              case measure => simp [intOf]; omega
            · have hin : intoP (lastB L beg) (qa, qb, qc) = true := by rw [hinB, hv]
              have hlast : (lastB L beg).1 < qa := into_long hin
              clear hHeld hv hinB hlast1
              have s6 := B6.size
              have HBG6 := Lib.hid (own_later HBG.out B6 (Nat.le_refl _))
              have HBS6 := Lib.hid (own_later HBS.out B6 (Nat.le_refl _))
              have HB6 := Lib.hid B6
              have HRG := Lib.hid (Rd.of_own HBG6.out)
              clear B6
              go_wp2_with fail
              refine (l1OwnN_any _ ng _ beg _ HRG.out hst.begN (by omega)).mono ?_; rintro e w7 ⟨A7, c7, rfl, own7, hb7⟩
              have s7 := hb7.size
              have hm7 := World.ownsRow.alloc (own_base own7 (B' := wo.heap.size) s6) (.cells #[.int .i64 (k : Int)] 3)
              have H7 := Lib.hid hm7
              have B7 : Below wo.heap.size wo w7 := HB6.out.trans (hb7.mono s6)
              have HB7 := Lib.hid (B7.alloc B7.size (.cells #[.int .i64 (k : Int)] 3))
              have hnw := new1 w7 3 (.int .i64 (k : Int))
              have hc3 : ng + 1 ≤ maxLen := by simp only [maxLen]; omega
              have hc4 : (ng + 1) * 8 ≤ 140737488355328 := by omega
              have hc5 : wo.heap.size ≤ (w7.alloc (.cells #[.int .i64 (k : Int)] 3)).heap.size := by simp; omega
              clear own7 hb7 hm7 B7
              go_wp2_with (at_builtin; refine wpList_append_own _ rfl (.tmp 43) (.tmp 45) 31 rfl wo.heap.size 3 i0 (.int .i64 0) 1 8 Try.underlying31 hi hz0 hz1 hz2 rfl (by decide) _ _ _ rfl H7.out ⟨w7.heap.size, 0, none⟩ 1 1 [.int .i64 (k : Int)] rfl rfl hnw (int_oneCell [_]) hc3 hc4 hc5 ?_)
              intro v' w9 hown' hgrow _
              have hb9 := gb_new (Nat.le_refl _) HB7.out hgrow (fun g hg => (H7.out.lt g hg).1)
              obtain ⟨A9, c9, rfl⟩ := own_slice hown'
              have s9 := hb9.size
              have hlt9 : ∀ g, (Value.slice A9 (ng + 1) c9).ownBlock = some g → g ≠ gb := fun g hg => by have h1 := (hown'.lt g hg).1; omega
              have HAT : Hid (NestAt (some ⟨b, o, none⟩) n L f (beg ++ [(k : Int)]) (nestMK L beg (nestM f L) (betterL beg best) k) A9 (ng + 1) c9 A1 n1 c1 gb B w9) := {
                fuel := by rw [lastB_snoc, hgd]; show 60 - qa < (f : Int); omega
                few := by have := hst.few; omega
                last := by rw [lastB_snoc, hgd]; show 0 ≤ qa ∧ qa ≤ 60; omega
                list := HRW.out.later hb9 (Nat.le_refl _)
                begO := by have h := own_base hown' (B' := B) hBw; rw [show intCells (beg ++ [(k : Int)]) = intCells beg ++ [.int .i64 (k : Int)] from intCells_append _ _]; exact h
                begN := fun h => by omega
                begS := by have := hst.begS; omega
                begI := fun i hi => by
                  rcases List.mem_append.1 hi with h | h
                  · exact hst.begI i h
                  · simp at h; omega
                bestO := own_later HBS.out hb9 (Nat.le_refl _)
                cell := (hb9.cell (p := ⟨gb, 0, none⟩) hgw).trans HCE.out.1
                free := (hb9.frozen (p := ⟨gb, 0, none⟩) hgw).trans HCE.out.2
                notA := hst.notA
                notG := hlt9
                notB := hnb
                base := by omega }
              have HC9 := Lib.hid (Chg.trans HCH.out (Chg.of_below (K := (· = gb)) hb9 (Nat.le_refl _)))
              clear hown' hgrow hb9 hlt9 hnw hc3 hc4 hc5
              go_wp2_with fail
              refine (HIH.out _ _ _ _ _ _ _ _ _ _ _ HAT.out).mono ?_; rintro e w10 ⟨rfl, A10, n10, c10, e1, e2, e3, e4, e5⟩
              have HNX : Hid (nestMK L beg (nestM f L) (betterL beg best) (k + 1) = nestM f L (beg ++ [(k : Int)]) (nestMK L beg (nestM f L) (betterL beg best) k)) := by rw [Hid, nestMK, hgd, if_pos hin]
              have HE := Lib.hid (And.intro e1 (And.intro e2 (And.intro e3 (And.intro e4 (Chg.trans HC9.out e5)))))
              clear e1 e2 e3 e4 e5
              go_wp2
              go_roundw
              case rel => exact ⟨k + 1, A10, n10, c10, by omega, by go_num, HE.out.1, HE.out.2.1, HE.out.2.2.1, by rw [HNX.out]; exact HE.out.2.2.2.1, HE.out.2.2.2.2⟩
              case measure => simp [intOf]; omega
        · obtain rfl : k = n := by omega
          have HEND : Hid (nestM (f + 1) L beg best = nestMK L beg (nestM f L) (betterL beg best) k) := by rw [Hid, nestM, HL.out]
          have HK := Lib.hid (And.intro hce (And.intro hfr (And.intro hnb (And.intro hbs hch))))
          clear hce hfr hnb hbs hch
          go_wp2
          refine bodyPost_end (v := .tuple #[]) (by simp [results, Try.results31, go_sem]) rfl ⟨rfl, A1, n1, c1, HK.out.1, HK.out.2.1, HK.out.2.2.1, by rw [HEND.out]; exact HK.out.2.2.2.1, HK.out.2.2.2.2⟩

end Go.Proofs.Ythbbddgjphdgjab
