/-
  Contract: RichestPart of the program.
-/
import Derived.Test.YtbjjpndhfgfedaaRichS
import Derived.Test.YtbjjpndhfgfedaaRegR
namespace Go.Proofs.Ytbjjpndhfgfedaa
open Go.RowKit
set_option linter.unusedVariables false

/-- block g is the struct of a part -/
def QAt (w : World) (g : Nat) (p : Quad) : Prop := w.heap[g]? = some (.cells #[.int .i64 p.1, .int .i64 p.2.1, .int .i64 p.2.2.1, .int .i64 p.2.2.2] 62 (0, 0))
theorem QAt.lt {w : World} {g : Nat} {p : Quad} (h : QAt w g p) : g < w.heap.size := (Array.getElem?_eq_some_iff.1 h).1
theorem QAt.cells {w : World} {g : Nat} {p : Quad} (h : QAt w g p) : w.cell? ⟨g, 0, none⟩ = some (.int .i64 p.1) ∧ w.cell? ⟨g, 1, none⟩ = some (.int .i64 p.2.1) ∧ w.cell? ⟨g, 2, none⟩ = some (.int .i64 p.2.2.1) ∧ w.cell? ⟨g, 3, none⟩ = some (.int .i64 p.2.2.2) := by
  unfold QAt at h
  refine ⟨?_, ?_, ?_, ?_⟩ <;> simp [World.cell?, h]
theorem QAt.free {w : World} {g : Nat} {p : Quad} (h : QAt w g p) : w.frozen? ⟨g, 0, none⟩ = false ∧ w.frozen? ⟨g, 1, none⟩ = false ∧ w.frozen? ⟨g, 2, none⟩ = false ∧ w.frozen? ⟨g, 3, none⟩ = false := by
  unfold QAt at h
  refine ⟨?_, ?_, ?_, ?_⟩ <;> simp [World.frozen?, h]
theorem QAt.below {w w' : World} {B g : Nat} {p : Quad} (h : QAt w g p) (hb : Below B w w') (hg : g < B) : QAt w' g p := (hb.block g hg).trans h
theorem QAt.set {w : World} {g : Nat} {p q : Quad} (h : QAt w g p) : QAt ((((w.setCell ⟨g, 0, none⟩ (.int .i64 q.1)).setCell ⟨g, 1, none⟩ (.int .i64 q.2.1)).setCell ⟨g, 2, none⟩ (.int .i64 q.2.2.1)).setCell ⟨g, 3, none⟩ (.int .i64 q.2.2.2)) g q := by
  unfold QAt at h ⊢
  simp [World.setCell, Array.getElem?_modify, h]
theorem QAt.new (w : World) (p : Quad) : QAt (w.alloc (.cells #[.int .i64 p.1, .int .i64 p.2.1, .int .i64 p.2.2.1, .int .i64 p.2.2.2] 62)) w.heap.size p := by
  unfold QAt
  show (w.heap.push _)[w.heap.size]? = _
  simp
theorem QAt.alloc {w : World} {g : Nat} {p : Quad} (h : QAt w g p) (ob : Obj) : QAt (w.alloc ob) g p := by
  have hl := h.lt
  unfold QAt at h ⊢
  show (w.heap.push ob)[g]? = _
  rw [Array.getElem?_push, if_neg (by omega)]
  exact h

set_option maxRecDepth 100000 in
set_option maxHeartbeats 4000000 in
theorem rp0 (A : Option Addr) (n c : Nat) (ss : List ByteArray) (a b : Int) (w : World) (hr : Rd w 1 A n (strCells ss)) (hB : nutsB ss = false) :
    Calls Try.prog 34 #[.slice A n c, bar2 a b] w fun e w' => e = .returned (okT (0, 0, 0) false) ∧ Below w.heap.size w w' := by
  have hrd : Rd (w.alloc (.cells #[.int .i64 a, .int .i64 b] 37)) 1 _ n (strCells ss) := hr.alloc _
  have c0 : (w.alloc (.cells #[.int .i64 a, .int .i64 b] 37)).cell? ⟨w.heap.size, 0, none⟩ = some (.int .i64 a) := by simp [go_sem]
  have c1 : (w.alloc (.cells #[.int .i64 a, .int .i64 b] 37)).cell? ⟨w.heap.size, 1, none⟩ = some (.int .i64 b) := by simp [go_sem]
  have bw : Below w.heap.size w (w.alloc (.cells #[.int .i64 a, .int .i64 b] 37)) := by (repeat (first | (with_reducible exact Below.refl _ _) | (with_reducible assumption) | (with_reducible refine Below.drew ?_) | ((with_reducible refine balloc ?_ _ ?_); · (first | (simp; done) | (simp; omega) | omega)) | ((with_reducible refine bset ?_ _ ?_); · (first | (simp; done) | (simp; omega) | omega)) | (with_reducible refine bdrewN _ ?_) | ((with_reducible refine bcall ?_ (by assumption) ?_); · (first | (simp; done) | (simp; omega) | omega))))
  go_enter Try.func34, Try.ntmps34
  go_wp2_with fail
  go_quiet ((go_at_call 18; refine Calls.quiet_of_same (((areNuts_any _ _ _ ss _ (by exact hrd)).mono fun e w' h => And.intro (h.1.trans (by rw [hB])) h.2.symm))))
  go_wp2
  refine bodyPost_ret (v := okT (0, 0, 0) false) (by simp [results, Try.results34, go_sem]) rfl ⟨rfl, by (repeat (first | (with_reducible exact Below.refl _ _) | (with_reducible assumption) | (with_reducible refine Below.drew ?_) | ((with_reducible refine balloc ?_ _ ?_); · (first | (simp; done) | (simp; omega) | omega)) | ((with_reducible refine bset ?_ _ ?_); · (first | (simp; done) | (simp; omega) | omega)) | (with_reducible refine bdrewN _ ?_) | ((with_reducible refine bcall ?_ (by assumption) ?_); · (first | (simp; done) | (simp; omega) | omega))))⟩

set_option maxRecDepth 100000 in
set_option maxHeartbeats 4000000 in
theorem rp1 (A : Option Addr) (n c : Nat) (ss : List ByteArray) (a b : Int) (w : World) (hr : Rd w 1 A n (strCells ss)) (hB : nutsB ss = true) (hb : NB ss (nutW ss) n) (hP : partB (nutW ss) n 0 0 a b = false) :
    Calls Try.prog 34 #[.slice A n c, bar2 a b] w fun e w' => e = .returned (okT (0, 0, 0) false) ∧ Below w.heap.size w w' := by
  have hn8 := hb.h8
  have hz8 := hb.w8
  have hrd : Rd (w.alloc (.cells #[.int .i64 a, .int .i64 b] 37)) 1 _ n (strCells ss) := hr.alloc _
  have c0 : (w.alloc (.cells #[.int .i64 a, .int .i64 b] 37)).cell? ⟨w.heap.size, 0, none⟩ = some (.int .i64 a) := by simp [go_sem]
  have c1 : (w.alloc (.cells #[.int .i64 a, .int .i64 b] 37)).cell? ⟨w.heap.size, 1, none⟩ = some (.int .i64 b) := by simp [go_sem]
  have bw : Below w.heap.size w (w.alloc (.cells #[.int .i64 a, .int .i64 b] 37)) := by (repeat (first | (with_reducible exact Below.refl _ _) | (with_reducible assumption) | (with_reducible refine Below.drew ?_) | ((with_reducible refine balloc ?_ _ ?_); · (first | (simp; done) | (simp; omega) | omega)) | ((with_reducible refine bset ?_ _ ?_); · (first | (simp; done) | (simp; omega) | omega)) | (with_reducible refine bdrewN _ ?_) | ((with_reducible refine bcall ?_ (by assumption) ?_); · (first | (simp; done) | (simp; omega) | omega))))
  go_enter Try.func34, Try.ntmps34
  go_wp2_with fail
  refine wp_region_held_drew (S := (fun w' => w'.cell? ⟨w.heap.size, 0, none⟩ = some (.int .i64 a) ∧ w'.cell? ⟨w.heap.size, 1, none⟩ = some (.int .i64 b))) (by kernel_rfl) ?_ (fun hHeld => ?_)
  · ((try dsimp only); (repeat' apply And.intro); all_goals ((repeat (first | (with_reducible refine cell_drew ?_) | (with_reducible refine cell_drewN _ ?_) | ((with_reducible refine cell_alloc ?_ ?_); · first | omega | (simp; done) | (simp; omega) | assumption) | ((with_reducible refine cell_set ?_ ?_); · first | (intro e; injection e; omega) | (intro e; simp at e; done) | (intro e; simp at e; omega)))); first | assumption | (simp; done)))
  refine reg_on (i := 0) (d := 12) (v := ?rv1) rfl rfl (by kernel_rfl) (by kernel_rfl) (by kernel_rfl) (fun _ _ _ h => h) (by rfl) ?ry1 (by assumption) ?rr1
  case ry1 => (intro wz hSw; (try dsimp only at hSw); go_simp; try with_reducible rfl)
  (try simp only [Act.put, List.setIfInBounds_toArray, List.set_cons_zero, List.set_cons_succ])
  refine wpAnyH_ready (rs := [1]) (by kernel_rfl) (by simp) ?_
  refine AllReadyH.cons rfl (fun K hK => ?_) AllReadyH.nil
  go_simp
  go_at_call 18; refine (areNuts_any _ _ _ ss _ (by exact hrd)).mono ?_; rintro e wx ⟨rfl, rfl⟩; rw [hB]
  refine hK.out _ _ ?_ (fun hHeld => ?_)
  · ((try dsimp only); (repeat' apply And.intro); all_goals ((repeat (first | (with_reducible refine cell_drew ?_) | (with_reducible refine cell_drewN _ ?_) | ((with_reducible refine cell_alloc ?_ ?_); · first | omega | (simp; done) | (simp; omega) | assumption) | ((with_reducible refine cell_set ?_ ?_); · first | (intro e; injection e; omega) | (intro e; simp at e; done) | (intro e; simp at e; omega)))); first | assumption | (simp; done)))
  clear hK K
  (try simp only [Act.put, List.setIfInBounds_toArray, List.set_cons_zero, List.set_cons_succ])
  refine reg_on (i := 2) (d := 14) (v := ?rv3) rfl rfl (by kernel_rfl) (by kernel_rfl) (by kernel_rfl) (fun _ _ _ h => h) (by rfl) ?ry3 (by assumption) ?rr3
  case ry3 => (intro wz hSw; (try dsimp only at hSw); go_simp; try with_reducible rfl)
  (try simp only [Act.put, List.setIfInBounds_toArray, List.set_cons_zero, List.set_cons_succ])
  refine reg_on (i := 3) (d := 15) (v := ?rv4) rfl rfl (by kernel_rfl) (by kernel_rfl) (by kernel_rfl) (fun _ _ _ h => h) (by rfl) ?ry4 (by assumption) ?rr4
  case ry4 => (intro wz hSw; (try dsimp only at hSw); go_simp; try with_reducible rfl)
  (try simp only [Act.put, List.setIfInBounds_toArray, List.set_cons_zero, List.set_cons_succ])
  refine reg_on (i := 4) (d := 16) (v := ?rv5) rfl rfl (by kernel_rfl) (by kernel_rfl) (by kernel_rfl) (fun _ _ _ h => h) (by rfl) ?ry5 (by assumption) ?rr5
  case ry5 => (intro wz hSw; (try dsimp only at hSw); go_simp; try with_reducible rfl)
  (try simp only [Act.put, List.setIfInBounds_toArray, List.set_cons_zero, List.set_cons_succ])
  refine reg_on (i := 6) (d := 18) (v := ?rv6) rfl rfl (by kernel_rfl) (by kernel_rfl) (by kernel_rfl) (fun _ _ _ h => h) (by rfl) ?ry6 (by assumption) ?rr6
  case ry6 => (intro wz hSw; (try dsimp only at hSw); go_simp; try with_reducible rfl)
  (try simp only [Act.put, List.setIfInBounds_toArray, List.set_cons_zero, List.set_cons_succ])
  refine reg_on (i := 7) (d := 19) (v := ?rv7) rfl rfl (by kernel_rfl) (by kernel_rfl) (by kernel_rfl) (fun _ _ _ h => h) (by rfl) ?ry7 (by assumption) ?rr7
  case ry7 => (intro wz hSw; (try dsimp only at hSw); go_simp; try with_reducible rfl)
  (try simp only [Act.put, List.setIfInBounds_toArray, List.set_cons_zero, List.set_cons_succ])
  refine wpAnyH_ready (rs := [5]) (by kernel_rfl) (by simp) ?_
  refine AllReadyH.cons rfl (fun K hK => ?_) AllReadyH.nil
  go_simp
  go_at_call 58; refine (barOf_any _ _ _ (nutW ss) ss _ (by exact hrd) hb).mono ?_; rintro e w1 ⟨rfl, hb1⟩; have s1 := hb1.size; have z1 : w.heap.size < w1.heap.size := (by simp at s1; omega); have k0 : w1.cell? ⟨w.heap.size, 0, none⟩ = some (.int .i64 a) := (hb1.cell (p := ⟨w.heap.size, 0, none⟩) (by first | (simp; done) | (simp; omega) | omega)).trans (by first | assumption | (go_split_ands; assumption)); have k1 : w1.cell? ⟨w.heap.size, 1, none⟩ = some (.int .i64 b) := (hb1.cell (p := ⟨w.heap.size, 1, none⟩) (by first | (simp; done) | (simp; omega) | omega)).trans (by first | assumption | (go_split_ands; assumption))
  refine hK.out _ _ ?_ (fun hHeld => ?_)
  · ((try dsimp only); (repeat' apply And.intro); all_goals ((repeat (first | (with_reducible refine cell_drew ?_) | (with_reducible refine cell_drewN _ ?_) | ((with_reducible refine cell_alloc ?_ ?_); · first | omega | (simp; done) | (simp; omega) | assumption) | ((with_reducible refine cell_set ?_ ?_); · first | (intro e; injection e; omega) | (intro e; simp at e; done) | (intro e; simp at e; omega)))); first | assumption | (simp; done)))
  clear hK K
  (try simp only [Act.put, List.setIfInBounds_toArray, List.set_cons_zero, List.set_cons_succ])
  refine wpAnyH_ready (rs := [8]) (by kernel_rfl) (by simp) ?_
  refine AllReadyH.cons rfl (fun K hK => ?_) AllReadyH.nil
  go_simp
  go_at_call 57; refine (isPart_any _ _ _ _ _ _ _ (by omega) (by omega) (by omega) (by omega)).mono ?_; rintro e w2 ⟨rfl, hb2⟩; rw [hP]; have s2 := hb2.size; have z2 : w.heap.size < w2.heap.size := (by omega); have j0 : w2.cell? ⟨w.heap.size, 0, none⟩ = some (.int .i64 a) := (hb2.cell (p := ⟨w.heap.size, 0, none⟩) (by first | (simp; done) | (simp; omega) | omega)).trans (by first | assumption | (go_split_ands; assumption)); have j1 : w2.cell? ⟨w.heap.size, 1, none⟩ = some (.int .i64 b) := (hb2.cell (p := ⟨w.heap.size, 1, none⟩) (by first | (simp; done) | (simp; omega) | omega)).trans (by first | assumption | (go_split_ands; assumption))
  refine hK.out _ _ ?_ (fun hHeld => ?_)
  · ((try dsimp only); (repeat' apply And.intro); all_goals ((repeat (first | (with_reducible refine cell_drew ?_) | (with_reducible refine cell_drewN _ ?_) | ((with_reducible refine cell_alloc ?_ ?_); · first | omega | (simp; done) | (simp; omega) | assumption) | ((with_reducible refine cell_set ?_ ?_); · first | (intro e; injection e; omega) | (intro e; simp at e; done) | (intro e; simp at e; omega)))); first | assumption | (simp; done)))
  clear hK K
  (try simp only [Act.put, List.setIfInBounds_toArray, List.set_cons_zero, List.set_cons_succ])
  refine reg_on (i := 9) (d := 21) (v := ?rv10) rfl rfl (by kernel_rfl) (by kernel_rfl) (by kernel_rfl) (fun _ _ _ h => h) (by rfl) ?ry10 (by assumption) ?rr10
  case ry10 => (intro wz hSw; (try dsimp only at hSw); go_simp; try with_reducible rfl)
  (try simp only [Act.put, List.setIfInBounds_toArray, List.set_cons_zero, List.set_cons_succ])
  refine reg_on (i := 10) (d := 22) (v := ?rv11) rfl rfl (by kernel_rfl) (by kernel_rfl) (by kernel_rfl) (fun _ _ _ h => h) (by rfl) ?ry11 (by assumption) ?rr11
  case ry11 => (intro wz hSw; (try dsimp only at hSw); go_simp; try with_reducible rfl)
  (try simp only [Act.put, List.setIfInBounds_toArray, List.set_cons_zero, List.set_cons_succ])
  refine wpAnyH_done (by kernel_rfl) ?_ _
  go_wp2
  refine bodyPost_ret (v := okT (0, 0, 0) false) (by simp [results, Try.results34, go_sem]) rfl ⟨rfl, bcall (by omega) hb2 (bcall (by simp) hb1 bw.drew)⟩

theorem bcall' {W5 w6 w7 : World} {B : Nat} (hB : B ≤ W5.heap.size) (h7 : Below B w6 w7) (h6 : Below W5.drew.heap.size W5.drew w6) : Below B W5 w7 :=
  ((Below.refl B W5).drew.trans (h6.mono (by show B ≤ W5.heap.size; exact hB))).trans h7
theorem fold_in {ss : List ByteArray} {W H : Nat} : ∀ (L : List Quad) (s : Quad), QIn W H s → (∀ p ∈ L, QIn W H p) → QIn W H (L.foldl (stepR ss) s)
  | [], _, h, _ => h
  | p :: r, s, h, hL => by
    rw [List.foldl_cons]
    refine fold_in r _ ?_ (fun q hq => hL q (by simp [hq]))
    unfold stepR
    split
    · exact hL p (by simp)
    · exact h

set_option maxRecDepth 100000 in
set_option maxHeartbeats 4000000 in
theorem rp2 (A : Option Addr) (n c W : Nat) (ss : List ByteArray) (a b : Int) (w : World) (hr : Rd w 1 A n (strCells ss)) (hB : nutsB ss = true) (hb : NB ss W n) (a' b' : Nat) (ha : a = a') (hbb : b = b') (ha1 : 1 ≤ a') (hb1' : 1 ≤ b') (hxa : a' ≤ W) (hyb : b' ≤ n) (hP : partB W n 0 0 a b = true) :
    Calls Try.prog 34 #[.slice A n c, bar2 a b] w fun e w' => e = .returned (okT (outR ss (richQ ss W n a' b')) true) ∧ Below w.heap.size w w' := by
  have hn8 := hb.h8
  have hz8 := hb.w8
  have HIN := Lib.hid (sizeParts_in (W := W) (H := n) ha1 hxa hb1' (n + 1 - b') (by omega))
  have HQ0 : Hid (QIn W n ((0 : Int), (0 : Int), (a' : Int), (b' : Int))) := ⟨0, 0, a', b', rfl, ha1, hb1', by omega, by omega⟩
  have hLl : (sizeParts a' b' (W + 1 - a') (n + 1 - b')).length ≤ 64 := by
    rw [length_sizeParts]
    have : (W + 1 - a') * (n + 1 - b') ≤ 8 * 8 := Nat.mul_le_mul (by omega) (by omega)
    omega
  have HR : Hid (richQ ss W n a' b' = (sizeParts a' b' (W + 1 - a') (n + 1 - b')).foldl (stepR ss) ((0 : Int), (0 : Int), (a' : Int), (b' : Int))) := rfl
  have HAP : Hid (∀ (B : Nat) (wx : World), B ≤ wx.heap.size → Calls Try.prog 61 #[.slice none 0 0, bar2 W n, bar2 a b] wx fun e w' => ∃ A' n' c', e = .returned (.slice A' n' c') ∧ w'.ownsRow B 62 4 (.slice A' n' c') n' (quadCells (sizeParts a' b' (W + 1 - a') (n + 1 - b'))) ∧ Below B wx w') := by
    intro B wx hB
    subst ha hbb
    exact addParts_any B none 0 0 W n a' b' [] wx hz8 hn8 ha1 hxa hb1' hyb (by omega) hB (World.ownsRow_nil _ _ _ _)
  have HWP := Lib.hid (fun (X Y a b : Nat) h1 h2 (wx : World) => within_part hb X Y a b h1 h2 wx)
  have HEab := Lib.hid (And.intro ha hbb)
  clear ha hbb
  generalize sizeParts a' b' (W + 1 - a') (n + 1 - b') = L at *
  have hrd : Rd (w.alloc (.cells #[.int .i64 a, .int .i64 b] 37)) 1 _ n (strCells ss) := hr.alloc _
  have c0 : (w.alloc (.cells #[.int .i64 a, .int .i64 b] 37)).cell? ⟨w.heap.size, 0, none⟩ = some (.int .i64 a) := by simp [go_sem]
  have c1 : (w.alloc (.cells #[.int .i64 a, .int .i64 b] 37)).cell? ⟨w.heap.size, 1, none⟩ = some (.int .i64 b) := by simp [go_sem]
  have bw : Below w.heap.size w (w.alloc (.cells #[.int .i64 a, .int .i64 b] 37)) := by (repeat (first | (with_reducible exact Below.refl _ _) | (with_reducible assumption) | (with_reducible refine Below.drew ?_) | ((with_reducible refine balloc ?_ _ ?_); · (first | (simp; done) | (simp; omega) | omega)) | ((with_reducible refine bset ?_ _ ?_); · (first | (simp; done) | (simp; omega) | omega)) | (with_reducible refine bdrewN _ ?_) | ((with_reducible refine bcall ?_ (by assumption) ?_); · (first | (simp; done) | (simp; omega) | omega))))
  go_enter Try.func34, Try.ntmps34
  go_wp2_with fail
  refine wp_region_held_drew (S := (fun w' => w'.cell? ⟨w.heap.size, 0, none⟩ = some (.int .i64 a) ∧ w'.cell? ⟨w.heap.size, 1, none⟩ = some (.int .i64 b))) (by kernel_rfl) ?_ (fun hHeld => ?_)
  · ((try dsimp only); (repeat' apply And.intro); all_goals ((repeat (first | (with_reducible refine cell_drew ?_) | (with_reducible refine cell_drewN _ ?_) | ((with_reducible refine cell_alloc ?_ ?_); · first | omega | (simp; done) | (simp; omega) | assumption) | ((with_reducible refine cell_set ?_ ?_); · first | (intro e; injection e; omega) | (intro e; simp at e; done) | (intro e; simp at e; omega)))); first | assumption | (simp; done)))
  refine reg_on (i := 0) (d := 12) (v := ?rv12) rfl rfl (by kernel_rfl) (by kernel_rfl) (by kernel_rfl) (fun _ _ _ h => h) (by rfl) ?ry12 (by assumption) ?rr12
  case ry12 => (intro wz hSw; (try dsimp only at hSw); go_simp; try with_reducible rfl)
  (try simp only [Act.put, List.setIfInBounds_toArray, List.set_cons_zero, List.set_cons_succ])
  refine wpAnyH_ready (rs := [1]) (by kernel_rfl) (by simp) ?_
  refine AllReadyH.cons rfl (fun K hK => ?_) AllReadyH.nil
  go_simp
  go_at_call 18; refine (areNuts_any _ _ _ ss _ (by exact hrd)).mono ?_; rintro e wx ⟨rfl, rfl⟩; rw [hB]
  refine hK.out _ _ ?_ (fun hHeld => ?_)
  · ((try dsimp only); (repeat' apply And.intro); all_goals ((repeat (first | (with_reducible refine cell_drew ?_) | (with_reducible refine cell_drewN _ ?_) | ((with_reducible refine cell_alloc ?_ ?_); · first | omega | (simp; done) | (simp; omega) | assumption) | ((with_reducible refine cell_set ?_ ?_); · first | (intro e; injection e; omega) | (intro e; simp at e; done) | (intro e; simp at e; omega)))); first | assumption | (simp; done)))
  clear hK K
  (try simp only [Act.put, List.setIfInBounds_toArray, List.set_cons_zero, List.set_cons_succ])
  refine reg_on (i := 2) (d := 14) (v := ?rv14) rfl rfl (by kernel_rfl) (by kernel_rfl) (by kernel_rfl) (fun _ _ _ h => h) (by rfl) ?ry14 (by assumption) ?rr14
  case ry14 => (intro wz hSw; (try dsimp only at hSw); go_simp; try with_reducible rfl)
  (try simp only [Act.put, List.setIfInBounds_toArray, List.set_cons_zero, List.set_cons_succ])
  refine reg_on (i := 3) (d := 15) (v := ?rv15) rfl rfl (by kernel_rfl) (by kernel_rfl) (by kernel_rfl) (fun _ _ _ h => h) (by rfl) ?ry15 (by assumption) ?rr15
  case ry15 => (intro wz hSw; (try dsimp only at hSw); go_simp; try with_reducible rfl)
  (try simp only [Act.put, List.setIfInBounds_toArray, List.set_cons_zero, List.set_cons_succ])
  refine reg_on (i := 4) (d := 16) (v := ?rv16) rfl rfl (by kernel_rfl) (by kernel_rfl) (by kernel_rfl) (fun _ _ _ h => h) (by rfl) ?ry16 (by assumption) ?rr16
  case ry16 => (intro wz hSw; (try dsimp only at hSw); go_simp; try with_reducible rfl)
  (try simp only [Act.put, List.setIfInBounds_toArray, List.set_cons_zero, List.set_cons_succ])
  refine reg_on (i := 6) (d := 18) (v := ?rv17) rfl rfl (by kernel_rfl) (by kernel_rfl) (by kernel_rfl) (fun _ _ _ h => h) (by rfl) ?ry17 (by assumption) ?rr17
  case ry17 => (intro wz hSw; (try dsimp only at hSw); go_simp; try with_reducible rfl)
  (try simp only [Act.put, List.setIfInBounds_toArray, List.set_cons_zero, List.set_cons_succ])
  refine reg_on (i := 7) (d := 19) (v := ?rv18) rfl rfl (by kernel_rfl) (by kernel_rfl) (by kernel_rfl) (fun _ _ _ h => h) (by rfl) ?ry18 (by assumption) ?rr18
  case ry18 => (intro wz hSw; (try dsimp only at hSw); go_simp; try with_reducible rfl)
  (try simp only [Act.put, List.setIfInBounds_toArray, List.set_cons_zero, List.set_cons_succ])
  refine wpAnyH_ready (rs := [5]) (by kernel_rfl) (by simp) ?_
  refine AllReadyH.cons rfl (fun K hK => ?_) AllReadyH.nil
  go_simp
  go_at_call 58; refine (barOf_any _ _ _ W ss _ (by exact hrd) hb).mono ?_; rintro e w1 ⟨rfl, hb1⟩; have s1 := hb1.size; have z1 : w.heap.size < w1.heap.size := (by simp at s1; omega); have k0 : w1.cell? ⟨w.heap.size, 0, none⟩ = some (.int .i64 a) := (hb1.cell (p := ⟨w.heap.size, 0, none⟩) (by first | (simp; done) | (simp; omega) | omega)).trans (by first | assumption | (go_split_ands; assumption)); have k1 : w1.cell? ⟨w.heap.size, 1, none⟩ = some (.int .i64 b) := (hb1.cell (p := ⟨w.heap.size, 1, none⟩) (by first | (simp; done) | (simp; omega) | omega)).trans (by first | assumption | (go_split_ands; assumption))
  refine hK.out _ _ ?_ (fun hHeld => ?_)
  · ((try dsimp only); (repeat' apply And.intro); all_goals ((repeat (first | (with_reducible refine cell_drew ?_) | (with_reducible refine cell_drewN _ ?_) | ((with_reducible refine cell_alloc ?_ ?_); · first | omega | (simp; done) | (simp; omega) | assumption) | ((with_reducible refine cell_set ?_ ?_); · first | (intro e; injection e; omega) | (intro e; simp at e; done) | (intro e; simp at e; omega)))); first | assumption | (simp; done)))
  clear hK K
  (try simp only [Act.put, List.setIfInBounds_toArray, List.set_cons_zero, List.set_cons_succ])
  refine wpAnyH_ready (rs := [8]) (by kernel_rfl) (by simp) ?_
  refine AllReadyH.cons rfl (fun K hK => ?_) AllReadyH.nil
  go_simp
  go_at_call 57; refine (isPart_any _ _ _ _ _ _ _ (by omega) (by omega) (by omega) (by omega)).mono ?_; rintro e w2 ⟨rfl, hb2⟩; rw [hP]; have s2 := hb2.size; have z2 : w.heap.size < w2.heap.size := (by omega); have j0 : w2.cell? ⟨w.heap.size, 0, none⟩ = some (.int .i64 a) := (hb2.cell (p := ⟨w.heap.size, 0, none⟩) (by first | (simp; done) | (simp; omega) | omega)).trans (by first | assumption | (go_split_ands; assumption)); have j1 : w2.cell? ⟨w.heap.size, 1, none⟩ = some (.int .i64 b) := (hb2.cell (p := ⟨w.heap.size, 1, none⟩) (by first | (simp; done) | (simp; omega) | omega)).trans (by first | assumption | (go_split_ands; assumption))
  refine hK.out _ _ ?_ (fun hHeld => ?_)
  · ((try dsimp only); (repeat' apply And.intro); all_goals ((repeat (first | (with_reducible refine cell_drew ?_) | (with_reducible refine cell_drewN _ ?_) | ((with_reducible refine cell_alloc ?_ ?_); · first | omega | (simp; done) | (simp; omega) | assumption) | ((with_reducible refine cell_set ?_ ?_); · first | (intro e; injection e; omega) | (intro e; simp at e; done) | (intro e; simp at e; omega)))); first | assumption | (simp; done)))
  clear hK K
  (try simp only [Act.put, List.setIfInBounds_toArray, List.set_cons_zero, List.set_cons_succ])
  refine reg_on (i := 9) (d := 21) (v := ?rv21) rfl rfl (by kernel_rfl) (by kernel_rfl) (by kernel_rfl) (fun _ _ _ h => h) (by rfl) ?ry21 (by assumption) ?rr21
  case ry21 => (intro wz hSw; (try dsimp only at hSw); go_simp; try with_reducible rfl)
  (try simp only [Act.put, List.setIfInBounds_toArray, List.set_cons_zero, List.set_cons_succ])
  refine reg_on (i := 10) (d := 22) (v := ?rv22) rfl rfl (by kernel_rfl) (by kernel_rfl) (by kernel_rfl) (fun _ _ _ h => h) (by rfl) ?ry22 (by assumption) ?rr22
  case ry22 => (intro wz hSw; (try dsimp only at hSw); go_simp; try with_reducible rfl)
  (try simp only [Act.put, List.setIfInBounds_toArray, List.set_cons_zero, List.set_cons_succ])
  refine wpAnyH_done (by kernel_rfl) ?_ _
  have bw2 : Below w.heap.size w w2 := bcall (by omega) hb2 (bcall (by simp) hb1 bw.drew)
  have J0 := Lib.hid j0
  have J1 := Lib.hid j1
  clear hrd c0 c1 bw hb1 hb2 k0 k1 j0 j1 hP
  go_wp2_with fail
  refine (corners_any _ _ _ W ss _ (hr.later bw2 (Nat.le_refl _)) hb).mono ?_; rintro e w3 ⟨rfl, hb3⟩
  have hR0 := RowAt.new w3 Try.zeroCells68
  have hzs : (Try.zeroCells68).size = 81 := by kernel_rfl
  have hs3 := hb3.size
  have bW : Below (w.heap.size + 1) w2 ((w3.alloc (.cells Try.zeroCells68 68)).setRow w3.heap.size (cornA ss W n 0)) := below_setRowN ((hb3.mono (by omega)).alloc (by omega) _) (by omega) _
  have l0 := (bW.cell (p := ⟨w.heap.size, 0, none⟩) (by show w.heap.size < w.heap.size + 1; omega)).trans J0.out
  have l1 := (bW.cell (p := ⟨w.heap.size, 1, none⟩) (by show w.heap.size < w.heap.size + 1; omega)).trans J1.out
  have BW := Lib.hid bW
  clear bW
  have rw4 : RowAt ((w3.alloc (.cells Try.zeroCells68 68)).setRow w3.heap.size (cornA ss W n 0)) w3.heap.size (cornA ss W n 0) := setRow_heap _ w3.heap.size _ (cornA ss W n 0) _ _ hR0
  have sz4 : ((w3.alloc (.cells Try.zeroCells68 68)).setRow w3.heap.size (cornA ss W n 0)).heap.size = w3.heap.size + 1 := by simp [World.setRow]
  have RW4 := Lib.hid rw4
  have SZ4 := Lib.hid sz4
  clear rw4 sz4
  go_wp2_with (first | refine wpList_store_row rfl 68 _ _ rfl w3.heap.size (cornA ss W n 0) rfl rfl _ _ hR0 (by first | (rw [size_cornA]; kernel_rfl) | (rw [hzs]; kernel_rfl)) (by rw [size_cornA, hzs]) (oneCell_cornA _ _ _ _) ?_)
  clear hR0 hzs
  generalize (w3.alloc (.cells Try.zeroCells68 68)).setRow w3.heap.size (cornA ss W n 0) = W4 at *
  have sz4 := SZ4.out
  clear SZ4
  have bW5 : Below (w.heap.size + 1) w2 (W4.alloc (.cells #[.int .i64 0, .int .i64 0, .int .i64 a, .int .i64 b] 62)) := BW.out.alloc (by omega) _
  have sz5 : (W4.alloc (.cells #[.int .i64 0, .int .i64 0, .int .i64 a, .int .i64 b] 62)).heap.size = W4.heap.size + 1 := by simp
  have rw5 := RW4.out.alloc (.cells #[.int .i64 0, .int .i64 0, .int .i64 a, .int .i64 b] 62)
  have qa5 := QAt.new W4 (0, 0, a, b)
  replace qa5 : QAt (W4.alloc (.cells #[.int .i64 0, .int .i64 0, .int .i64 a, .int .i64 b] 62)) W4.heap.size (0, 0, a, b) := qa5
  generalize W4.alloc (.cells #[.int .i64 0, .int .i64 0, .int .i64 a, .int .i64 b] 62) = W5 at *
  rw [sz4] at qa5 sz5
  clear sz4
  have hlt45 : (w3.heap.size + 1) < W5.heap.size := by omega
  have m0 := (bW5.cell (p := ⟨w.heap.size, 0, none⟩) (by show w.heap.size < w.heap.size + 1; omega)).trans J0.out
  have m1 := (bW5.cell (p := ⟨w.heap.size, 1, none⟩) (by show w.heap.size < w.heap.size + 1; omega)).trans J1.out
  have bw5 : Below w.heap.size w W5 := bw2.trans (bW5.mono (by omega))
  have hr5 := hr.later bw5 (Nat.le_refl _)
  have QA5 := Lib.hid qa5
  have RW5 := Lib.hid rw5
  have BW5 := Lib.hid bw5
  clear qa5 rw5 l0 l1 bW5 bw5 RW4 BW J0 J1 bw2 hb3
  have hs0 : w.heap.size < W5.heap.size := by omega
  refine wp_region_held_drew (S := (fun w' => w'.cell? ⟨w.heap.size, 0, none⟩ = some (.int .i64 a) ∧ w'.cell? ⟨w.heap.size, 1, none⟩ = some (.int .i64 b))) (by kernel_rfl) ?_ (fun hHeld => ?_)
  · ((try dsimp only); (repeat' apply And.intro); all_goals ((repeat (first | (with_reducible refine cell_drew ?_) | (with_reducible refine cell_drewN _ ?_) | ((with_reducible refine cell_alloc ?_ ?_); · first | omega | (simp; done) | (simp; omega) | assumption) | ((with_reducible refine cell_set ?_ ?_); · first | (intro e; injection e; omega) | (intro e; simp at e; done) | (intro e; simp at e; omega)))); first | assumption | (simp; done)))
  refine reg_on (i := 0) (d := 27) (v := ?rv23) rfl rfl (by kernel_rfl) (by kernel_rfl) (by kernel_rfl) (fun _ _ _ h => h) (by rfl) ?ry23 (by assumption) ?rr23
  case ry23 => (intro wz hSw; (try dsimp only at hSw); go_simp; try with_reducible rfl)
  (try simp only [Act.put, List.setIfInBounds_toArray, List.set_cons_zero, List.set_cons_succ])
  refine reg_on (i := 2) (d := 29) (v := ?rv24) rfl rfl (by kernel_rfl) (by kernel_rfl) (by kernel_rfl) (fun _ _ _ h => h) (by rfl) ?ry24 (by assumption) ?rr24
  case ry24 => (intro wz hSw; (try dsimp only at hSw); go_simp; try with_reducible rfl)
  (try simp only [Act.put, List.setIfInBounds_toArray, List.set_cons_zero, List.set_cons_succ])
  refine reg_on (i := 5) (d := 32) (v := ?rv25) rfl rfl (by kernel_rfl) (by kernel_rfl) (by kernel_rfl) (fun _ _ _ h => h) (by rfl) ?ry25 (by assumption) ?rr25
  case ry25 => (intro wz hSw; (try dsimp only at hSw); go_simp; try with_reducible rfl)
  (try simp only [Act.put, List.setIfInBounds_toArray, List.set_cons_zero, List.set_cons_succ])
  refine wpAnyH_ready (rs := [1]) (by kernel_rfl) (by simp) ?_
  refine AllReadyH.cons rfl (fun K hK => ?_) AllReadyH.nil
  go_simp
  go_at_call 58; refine (barOf_any _ _ _ W ss _ (by exact hr5) hb).mono ?_; rintro e w6 ⟨rfl, hb6⟩; have s6 := hb6.size; have z6 : w.heap.size < w6.heap.size := (by simp at s6; omega); have p0 : w6.cell? ⟨w.heap.size, 0, none⟩ = some (.int .i64 a) := (hb6.cell (p := ⟨w.heap.size, 0, none⟩) (by first | (simp; done) | (simp; omega) | omega)).trans (by first | assumption | (go_split_ands; assumption)); have p1 : w6.cell? ⟨w.heap.size, 1, none⟩ = some (.int .i64 b) := (hb6.cell (p := ⟨w.heap.size, 1, none⟩) (by first | (simp; done) | (simp; omega) | omega)).trans (by first | assumption | (go_split_ands; assumption))
  refine hK.out _ _ ?_ (fun hHeld => ?_)
  · ((try dsimp only); (repeat' apply And.intro); all_goals ((repeat (first | (with_reducible refine cell_drew ?_) | (with_reducible refine cell_drewN _ ?_) | ((with_reducible refine cell_alloc ?_ ?_); · first | omega | (simp; done) | (simp; omega) | assumption) | ((with_reducible refine cell_set ?_ ?_); · first | (intro e; injection e; omega) | (intro e; simp at e; done) | (intro e; simp at e; omega)))); first | assumption | (simp; done)))
  clear hK K
  (try simp only [Act.put, List.setIfInBounds_toArray, List.set_cons_zero, List.set_cons_succ])
  refine wpAnyH_ready (rs := [3]) (by kernel_rfl) (by simp) ?_
  refine AllReadyH.cons rfl (fun K hK => ?_) AllReadyH.nil
  go_simp
  go_at_call 61; refine (HAP.out ((w3.heap.size + 1) + 1) _ (by first | omega | (simp at s6; omega))).mono ?_; rintro e w7 ⟨A7, N, c7, rfl, own7, hb7⟩; have s7 := hb7.size; have z7 : w.heap.size < w7.heap.size := (by omega); have q0 : w7.cell? ⟨w.heap.size, 0, none⟩ = some (.int .i64 a) := (hb7.cell (p := ⟨w.heap.size, 0, none⟩) (by first | (simp; done) | (simp; omega) | omega)).trans (by first | assumption | (go_split_ands; assumption)); have q1 : w7.cell? ⟨w.heap.size, 1, none⟩ = some (.int .i64 b) := (hb7.cell (p := ⟨w.heap.size, 1, none⟩) (by first | (simp; done) | (simp; omega) | omega)).trans (by first | assumption | (go_split_ands; assumption))
  refine hK.out _ _ ?_ (fun hHeld => ?_)
  · ((try dsimp only); (repeat' apply And.intro); all_goals ((repeat (first | (with_reducible refine cell_drew ?_) | (with_reducible refine cell_drewN _ ?_) | ((with_reducible refine cell_alloc ?_ ?_); · first | omega | (simp; done) | (simp; omega) | assumption) | ((with_reducible refine cell_set ?_ ?_); · first | (intro e; injection e; omega) | (intro e; simp at e; done) | (intro e; simp at e; omega)))); first | assumption | (simp; done)))
  clear hK K
  (try simp only [Act.put, List.setIfInBounds_toArray, List.set_cons_zero, List.set_cons_succ])
  refine reg_on (i := 4) (d := 31) (v := ?rv28) rfl rfl (by kernel_rfl) (by kernel_rfl) (by kernel_rfl) (fun _ _ _ h => h) (by rfl) ?ry28 (by assumption) ?rr28
  case ry28 => (intro wz hSw; (try dsimp only at hSw); go_simp; try with_reducible rfl)
  (try simp only [Act.put, List.setIfInBounds_toArray, List.set_cons_zero, List.set_cons_succ])
  refine wpAnyH_done (by kernel_rfl) ?_ _
  have s6' := s6
  simp at s6'
  have b67 : Below ((w3.heap.size + 1) + 1) W5 w7 := bcall' (by omega) hb7 hb6
  have bel7 : Below w.heap.size w w7 := BW5.out.trans (b67.mono (by omega))
  have qa7 : QAt w7 (w3.heap.size + 1) (0, 0, a, b) := QA5.out.below b67 (by omega)
  have rw7 : RowAt w7 w3.heap.size (cornA ss W n 0) := RW5.out.below b67 (by omega)
  have hN : L.length = N := by have := own7.1; rw [length_quadCells] at this; omega
  have hN64 : N ≤ 64 := by omega
  have hlt47 : (w3.heap.size + 1) < w7.heap.size := by omega
  obtain ⟨rfl, rfl⟩ := HEab.out
  have QA7 := Lib.hid qa7
  have RW7 := Lib.hid rw7
  have OW7 := Lib.hid own7
  have BL7 := Lib.hid bel7
  have HN := Lib.hid hN
  clear m0 m1 hr5 hb6 hb7 p0 p1 q0 q1 qa7 rw7 own7 bel7 b67 QA5 RW5 BW5 hN hLl HAP HEab s6 s6' s7 z6 z7
  go_wp2
  go_loopw [32] (fun i wr => ∃ k : Nat, k ≤ N ∧ i = .int .i64 k ∧ QAt wr (w3.heap.size + 1) ((L.take k).foldl (stepR ss) ((0 : Int), (0 : Int), (a' : Int), (b' : Int))) ∧ RowAt wr w3.heap.size (cornA ss W n 0) ∧ wr.ownsRow ((w3.heap.size + 1) + 1) 62 4 (.slice A7 N c7) N (quadCells L) ∧ Below w.heap.size w wr) (fun i _ => N - (intOf i).toNat)
  case atStart => exact ⟨0, Nat.zero_le _, rfl, QA7.out, RW7.out, OW7.out, BL7.out⟩
  case round =>
    clear QA7 RW7 OW7 BL7
    obtain ⟨k, hk, rfl, hQ, hRW, hown, hBl⟩ := hrel
    obtain ⟨X2, Y2, a2, b2, hq2, ha2, hbb2, hxa2, hyb2⟩ := fold_in (ss := ss) (L.take k) _ HQ0.out (fun p hp => HIN.out p (List.mem_of_mem_take hp))
    have HW2 := Lib.hid (HWP.out X2 Y2 a2 b2 hxa2 hyb2)
    have hlq := hQ.lt
    have hlr := hRW.lt
    have sB := hBl.size
    by_cases hlt : k < N
    · obtain ⟨b, o, rfl, hbl, hx, p0, p1, p2, p3⟩ := (Rd.of_own hown).quad hlt
      obtain ⟨X1, Y1, a1, b1, hq, ha1', hb1'', hxa1, hyb1⟩ := HIN.out _ (List.getElem_mem hx)
      have hstep : (L.take (k + 1)).foldl (stepR ss) ((0 : Int), (0 : Int), (a' : Int), (b' : Int)) = stepR ss ((L.take k).foldl (stepR ss) ((0 : Int), (0 : Int), (a' : Int), (b' : Int))) L[k] := by rw [List.take_succ_eq_append_getElem hx, List.foldl_append]; rfl
      rw [hq] at p0 p1 p2 p3 hstep
      rw [hq2] at hQ hstep
      have HW1 := Lib.hid (HWP.out X1 Y1 a1 b1 hxa1 hyb1)
      have HRQ : Hid (stepR ss ((X2 : Int), (Y2 : Int), (a2 : Int), (b2 : Int)) ((X1 : Int), (Y1 : Int), (a1 : Int), (b1 : Int)) = if rect ss X2 Y2 a2 b2 < rect ss X1 Y1 a1 b1 then ((X1 : Int), (Y1 : Int), (a1 : Int), (b1 : Int)) else ((X2 : Int), (Y2 : Int), (a2 : Int), (b2 : Int))) := rfl
      generalize rect ss X2 Y2 a2 b2 = r2 at *
      generalize rect ss X1 Y1 a1 b1 = r1 at *
      have hQ' := hQ.alloc (.cells #[.int .i64 X1, .int .i64 Y1, .int .i64 a1, .int .i64 b1] 62)
      have hR' := hRW.alloc (.cells #[.int .i64 X1, .int .i64 Y1, .int .i64 a1, .int .i64 b1] 62)
      have hO' := hown.alloc (.cells #[.int .i64 X1, .int .i64 Y1, .int .i64 a1, .int .i64 b1] 62)
      have hB' := hBl.alloc sB (.cells #[.int .i64 X1, .int .i64 Y1, .int .i64 a1, .int .i64 b1] 62)
      have bx : ∀ (i : Nat) (v : Value), #[Value.int .i64 X1, .int .i64 Y1, .int .i64 a1, .int .i64 b1][i]? = some v → (wr.alloc (.cells #[.int .i64 X1, .int .i64 Y1, .int .i64 a1, .int .i64 b1] 62)).cell? ⟨wr.heap.size, i, none⟩ = some v := by
        intro i v h
        simp only [World.cell?, World.alloc, Array.getElem?_push_size]
        exact h
      have szA : (wr.alloc (.cells #[.int .i64 X1, .int .i64 Y1, .int .i64 a1, .int .i64 b1] 62)).heap.size = wr.heap.size + 1 := by simp
      have t0 := bx 0 _ rfl
      have t1 := bx 1 _ rfl
      have t2 := bx 2 _ rfl
      have t3 := bx 3 _ rfl
      obtain ⟨u0, u1, u2, u3⟩ := hQ'.cells
      simp only at u0 u1 u2 u3
      have hrow := hR'
      unfold RowAt at hrow
      have HQ' := Lib.hid hQ'
      have HR' := Lib.hid hR'
      have HO' := Lib.hid hO'
      have HB' := Lib.hid hB'
      have HST := Lib.hid hstep
      clear bx hQ hRW hown hBl hQ' hR' hO' hB' hstep hq hq2 ha1' hb1'' hxa1 hyb1 ha2 hbb2 hxa2 hyb2
      go_wp2
      clear p0 p1 p2 p3
      generalize wr.alloc (.cells #[.int .i64 X1, .int .i64 Y1, .int .i64 a1, .int .i64 b1] 62) = wA at *
      have hg1 : (w3.heap.size + 1) < wA.heap.size := by omega
      have hg2 : w3.heap.size < wA.heap.size := by omega
      have hg3 : wr.heap.size < wA.heap.size := by omega
      by_cases hgt : r2 < r1
      · have hgt' : decide (r2 < r1) = true := decide_eq_true hgt
        have hgti : decide ((r2 : Int) < (r1 : Int)) = true := decide_eq_true (by omega)
        have HE : Hid (stepR ss ((X2 : Int), (Y2 : Int), (a2 : Int), (b2 : Int)) ((X1 : Int), (Y1 : Int), (a1 : Int), (b1 : Int)) = ((X1 : Int), (Y1 : Int), (a1 : Int), (b1 : Int))) := HRQ.out.trans (if_pos hgt)
        clear HRQ
        refine wp_region_held_drew (S := (fun w' => w'.heap[w3.heap.size]? = some (.cells (cornA ss W n 0) 68 (0, 0)) ∧ w'.cell? ⟨wr.heap.size, 0, none⟩ = some (.int .i64 X1) ∧ w'.cell? ⟨wr.heap.size, 1, none⟩ = some (.int .i64 Y1) ∧ w'.cell? ⟨wr.heap.size, 2, none⟩ = some (.int .i64 a1) ∧ w'.cell? ⟨wr.heap.size, 3, none⟩ = some (.int .i64 b1) ∧ w'.cell? ⟨w3.heap.size + 1, 0, none⟩ = some (.int .i64 X2) ∧ w'.cell? ⟨w3.heap.size + 1, 1, none⟩ = some (.int .i64 Y2) ∧ w'.cell? ⟨w3.heap.size + 1, 2, none⟩ = some (.int .i64 a2) ∧ w'.cell? ⟨w3.heap.size + 1, 3, none⟩ = some (.int .i64 b2))) (by kernel_rfl) ?_ (fun hHeld => ?_)
        · ((try dsimp only); (repeat' apply And.intro); all_goals ((repeat (first | (with_reducible refine cell_drew ?_) | (with_reducible refine cell_drewN _ ?_) | ((with_reducible refine cell_alloc ?_ ?_); · first | omega | (simp; done) | (simp; omega) | assumption) | ((with_reducible refine cell_set ?_ ?_); · first | (intro e; injection e; omega) | (intro e; simp at e; done) | (intro e; simp at e; omega)))); first | assumption | (simp; done)))
        refine reg_row (v := .agg (cornA ss W n 0)) (i := 0) (d := 36) rfl rfl (by kernel_rfl) (by kernel_rfl) (by kernel_rfl) (fun _ _ _ h => h) (by rfl) 68 _ rfl (w3.heap.size) rfl 68 (cornA ss W n 0) (0, 0) _ (fun wz hSw => by (try dsimp only at hSw); go_split_ands; assumption) Try.underlying68 rfl (by rw [size_cornA]; kernel_rfl) rfl (by assumption) ?_; (try simp only [Act.put, List.setIfInBounds_toArray, List.set_cons_zero, List.set_cons_succ])
        refine reg_on (i := 1) (d := 37) (v := ?rv30) rfl rfl (by kernel_rfl) (by kernel_rfl) (by kernel_rfl) (fun _ _ _ h => h) (by rfl) ?ry30 (by assumption) ?rr30
        case ry30 => (intro wz hSw; (try dsimp only at hSw); go_simp; try with_reducible rfl)
        (try simp only [Act.put, List.setIfInBounds_toArray, List.set_cons_zero, List.set_cons_succ])
        refine reg_row (v := .agg (cornA ss W n 0)) (i := 3) (d := 39) rfl rfl (by kernel_rfl) (by kernel_rfl) (by kernel_rfl) (fun _ _ _ h => h) (by rfl) 68 _ rfl (w3.heap.size) rfl 68 (cornA ss W n 0) (0, 0) _ (fun wz hSw => by (try dsimp only at hSw); go_split_ands; assumption) Try.underlying68 rfl (by rw [size_cornA]; kernel_rfl) rfl (by assumption) ?_; (try simp only [Act.put, List.setIfInBounds_toArray, List.set_cons_zero, List.set_cons_succ])
        refine reg_on (i := 4) (d := 40) (v := ?rv32) rfl rfl (by kernel_rfl) (by kernel_rfl) (by kernel_rfl) (fun _ _ _ h => h) (by rfl) ?ry32 (by assumption) ?rr32
        case ry32 => (intro wz hSw; (try dsimp only at hSw); go_simp; try with_reducible rfl)
        (try simp only [Act.put, List.setIfInBounds_toArray, List.set_cons_zero, List.set_cons_succ])
        refine wpAnyH_ready (rs := [2]) (by kernel_rfl) (by simp) ?_
        refine AllReadyH.cons rfl (fun K hK => ?_) AllReadyH.nil
        go_simp
        go_at_call 59; refine (HW1.out _).mono ?_; rintro e w8 ⟨rfl, hb8⟩; have s8 := hb8.size; (try simp at s8); have hh1 : (w3.heap.size + 1) < w8.heap.size := (by omega); have hh2 : w3.heap.size < w8.heap.size := (by omega); have hh3 : wr.heap.size < w8.heap.size := (by omega); have rr8 : w8.heap[w3.heap.size]? = some (.cells (cornA ss W n 0) 68 (0, 0)) := (hb8.block w3.heap.size (by first | omega | (simp; omega))).trans (by first | assumption | (go_split_ands; assumption)); have va0 : w8.cell? ⟨wr.heap.size, 0, none⟩ = some (.int .i64 X1) := (hb8.cell (p := ⟨wr.heap.size, 0, none⟩) (by first | (simp; done) | (simp; omega) | omega)).trans (by first | assumption | (go_split_ands; assumption)); have va1 : w8.cell? ⟨wr.heap.size, 1, none⟩ = some (.int .i64 Y1) := (hb8.cell (p := ⟨wr.heap.size, 1, none⟩) (by first | (simp; done) | (simp; omega) | omega)).trans (by first | assumption | (go_split_ands; assumption)); have va2 : w8.cell? ⟨wr.heap.size, 2, none⟩ = some (.int .i64 a1) := (hb8.cell (p := ⟨wr.heap.size, 2, none⟩) (by first | (simp; done) | (simp; omega) | omega)).trans (by first | assumption | (go_split_ands; assumption)); have va3 : w8.cell? ⟨wr.heap.size, 3, none⟩ = some (.int .i64 b1) := (hb8.cell (p := ⟨wr.heap.size, 3, none⟩) (by first | (simp; done) | (simp; omega) | omega)).trans (by first | assumption | (go_split_ands; assumption)); have vb0 : w8.cell? ⟨w3.heap.size + 1, 0, none⟩ = some (.int .i64 X2) := (hb8.cell (p := ⟨w3.heap.size + 1, 0, none⟩) (by first | (simp; done) | (simp; omega) | omega)).trans (by first | assumption | (go_split_ands; assumption)); have vb1 : w8.cell? ⟨w3.heap.size + 1, 1, none⟩ = some (.int .i64 Y2) := (hb8.cell (p := ⟨w3.heap.size + 1, 1, none⟩) (by first | (simp; done) | (simp; omega) | omega)).trans (by first | assumption | (go_split_ands; assumption)); have vb2 : w8.cell? ⟨w3.heap.size + 1, 2, none⟩ = some (.int .i64 a2) := (hb8.cell (p := ⟨w3.heap.size + 1, 2, none⟩) (by first | (simp; done) | (simp; omega) | omega)).trans (by first | assumption | (go_split_ands; assumption)); have vb3 : w8.cell? ⟨w3.heap.size + 1, 3, none⟩ = some (.int .i64 b2) := (hb8.cell (p := ⟨w3.heap.size + 1, 3, none⟩) (by first | (simp; done) | (simp; omega) | omega)).trans (by first | assumption | (go_split_ands; assumption))
        refine hK.out _ _ ?_ (fun hHeld => ?_)
        · ((try dsimp only); (repeat' apply And.intro); all_goals ((repeat (first | (with_reducible refine cell_drew ?_) | (with_reducible refine cell_drewN _ ?_) | ((with_reducible refine cell_alloc ?_ ?_); · first | omega | (simp; done) | (simp; omega) | assumption) | ((with_reducible refine cell_set ?_ ?_); · first | (intro e; injection e; omega) | (intro e; simp at e; done) | (intro e; simp at e; omega)))); first | assumption | (simp; done)))
        clear hK K
        (try simp only [Act.put, List.setIfInBounds_toArray, List.set_cons_zero, List.set_cons_succ])
        refine wpAnyH_ready (rs := [5]) (by kernel_rfl) (by simp) ?_
        refine AllReadyH.cons rfl (fun K hK => ?_) AllReadyH.nil
        go_simp
        go_at_call 59; refine (HW2.out _).mono ?_; rintro e w9 ⟨rfl, hb9⟩; have s9 := hb9.size; have gg1 : (w3.heap.size + 1) < w9.heap.size := (by omega); have gg2 : w3.heap.size < w9.heap.size := (by omega); have gg3 : wr.heap.size < w9.heap.size := (by omega); have rr9 : w9.heap[w3.heap.size]? = some (.cells (cornA ss W n 0) 68 (0, 0)) := (hb9.block w3.heap.size (by first | omega | (simp; omega))).trans (by first | assumption | (go_split_ands; assumption)); have vc0 : w9.cell? ⟨wr.heap.size, 0, none⟩ = some (.int .i64 X1) := (hb9.cell (p := ⟨wr.heap.size, 0, none⟩) (by first | (simp; done) | (simp; omega) | omega)).trans (by first | assumption | (go_split_ands; assumption)); have vc1 : w9.cell? ⟨wr.heap.size, 1, none⟩ = some (.int .i64 Y1) := (hb9.cell (p := ⟨wr.heap.size, 1, none⟩) (by first | (simp; done) | (simp; omega) | omega)).trans (by first | assumption | (go_split_ands; assumption)); have vc2 : w9.cell? ⟨wr.heap.size, 2, none⟩ = some (.int .i64 a1) := (hb9.cell (p := ⟨wr.heap.size, 2, none⟩) (by first | (simp; done) | (simp; omega) | omega)).trans (by first | assumption | (go_split_ands; assumption)); have vc3 : w9.cell? ⟨wr.heap.size, 3, none⟩ = some (.int .i64 b1) := (hb9.cell (p := ⟨wr.heap.size, 3, none⟩) (by first | (simp; done) | (simp; omega) | omega)).trans (by first | assumption | (go_split_ands; assumption)); have vd0 : w9.cell? ⟨w3.heap.size + 1, 0, none⟩ = some (.int .i64 X2) := (hb9.cell (p := ⟨w3.heap.size + 1, 0, none⟩) (by first | (simp; done) | (simp; omega) | omega)).trans (by first | assumption | (go_split_ands; assumption)); have vd1 : w9.cell? ⟨w3.heap.size + 1, 1, none⟩ = some (.int .i64 Y2) := (hb9.cell (p := ⟨w3.heap.size + 1, 1, none⟩) (by first | (simp; done) | (simp; omega) | omega)).trans (by first | assumption | (go_split_ands; assumption)); have vd2 : w9.cell? ⟨w3.heap.size + 1, 2, none⟩ = some (.int .i64 a2) := (hb9.cell (p := ⟨w3.heap.size + 1, 2, none⟩) (by first | (simp; done) | (simp; omega) | omega)).trans (by first | assumption | (go_split_ands; assumption)); have vd3 : w9.cell? ⟨w3.heap.size + 1, 3, none⟩ = some (.int .i64 b2) := (hb9.cell (p := ⟨w3.heap.size + 1, 3, none⟩) (by first | (simp; done) | (simp; omega) | omega)).trans (by first | assumption | (go_split_ands; assumption))
        refine hK.out _ _ ?_ (fun hHeld => ?_)
        · ((try dsimp only); (repeat' apply And.intro); all_goals ((repeat (first | (with_reducible refine cell_drew ?_) | (with_reducible refine cell_drewN _ ?_) | ((with_reducible refine cell_alloc ?_ ?_); · first | omega | (simp; done) | (simp; omega) | assumption) | ((with_reducible refine cell_set ?_ ?_); · first | (intro e; injection e; omega) | (intro e; simp at e; done) | (intro e; simp at e; omega)))); first | assumption | (simp; done)))
        clear hK K
        (try simp only [Act.put, List.setIfInBounds_toArray, List.set_cons_zero, List.set_cons_succ])
        refine reg_on (i := 6) (d := 42) (v := ?rv35) rfl rfl (by kernel_rfl) (by kernel_rfl) (by kernel_rfl) (fun _ _ _ h => h) (by rfl) ?ry35 (by assumption) ?rr35
        case ry35 => (intro wz hSw; (try dsimp only at hSw); go_simp; try with_reducible rfl)
        (try simp only [Act.put, List.setIfInBounds_toArray, List.set_cons_zero, List.set_cons_succ])
        refine wpAnyH_done (by kernel_rfl) ?_ _
        have hb89 : Below wA.heap.size wA w9 := bcall' (Nat.le_refl _) (hb9.mono (by omega)) hb8
        have hqa := HQ'.out.below hb89 hg1
        have hra := HR'.out.below hb89 hg2
        have hoa := own_later HO'.out hb89 (Nat.le_refl _)
        have hba : Below w.heap.size w w9 := HB'.out.trans (hb89.mono (by omega))
        obtain ⟨f0, f1, f2, f3⟩ := hqa.free
        have HQa := Lib.hid hqa
        have HRa := Lib.hid hra
        have HOa := Lib.hid hoa
        have HBa := Lib.hid hba
        clear hb8 hb9 hb89 hqa hra hoa hba rr9 HQ' HR' HO' HB' t0 t1 t2 t3 u0 u1 u2 u3 hrow HW1 HW2
        go_wp2
        go_roundw
        case rel => exact ⟨k + 1, by omega, by go_num, by rw [HST.out, HE.out]; exact HQa.out.set (q := ((X1 : Int), (Y1 : Int), (a1 : Int), (b1 : Int))), (((HRa.out.other (by omega)).other (by omega)).other (by omega)).other (by omega), ownsRow_setCell_below (ownsRow_setCell_below (ownsRow_setCell_below (ownsRow_setCell_below HOa.out (by show (w3.heap.size + 1) < (w3.heap.size + 1) + 1; omega) _) (by show (w3.heap.size + 1) < (w3.heap.size + 1) + 1; omega) _) (by show (w3.heap.size + 1) < (w3.heap.size + 1) + 1; omega) _) (by show (w3.heap.size + 1) < (w3.heap.size + 1) + 1; omega) _, (((HBa.out.setCell (p := ⟨w3.heap.size + 1, 0, none⟩) (by show w.heap.size ≤ (w3.heap.size + 1); omega) _).setCell (p := ⟨w3.heap.size + 1, 1, none⟩) (by show w.heap.size ≤ (w3.heap.size + 1); omega) _).setCell (p := ⟨w3.heap.size + 1, 2, none⟩) (by show w.heap.size ≤ (w3.heap.size + 1); omega) _).setCell (p := ⟨w3.heap.size + 1, 3, none⟩) (by show w.heap.size ≤ (w3.heap.size + 1); omega) _⟩
        case measure => simp [intOf]; omega
      · have hgt' : decide (r2 < r1) = false := decide_eq_false hgt
        have hgti : decide ((r2 : Int) < (r1 : Int)) = false := decide_eq_false (by omega)
        have HE : Hid (stepR ss ((X2 : Int), (Y2 : Int), (a2 : Int), (b2 : Int)) ((X1 : Int), (Y1 : Int), (a1 : Int), (b1 : Int)) = ((X2 : Int), (Y2 : Int), (a2 : Int), (b2 : Int))) := HRQ.out.trans (if_neg hgt)
        clear HRQ
        refine wp_region_held_drew (S := (fun w' => w'.heap[w3.heap.size]? = some (.cells (cornA ss W n 0) 68 (0, 0)) ∧ w'.cell? ⟨wr.heap.size, 0, none⟩ = some (.int .i64 X1) ∧ w'.cell? ⟨wr.heap.size, 1, none⟩ = some (.int .i64 Y1) ∧ w'.cell? ⟨wr.heap.size, 2, none⟩ = some (.int .i64 a1) ∧ w'.cell? ⟨wr.heap.size, 3, none⟩ = some (.int .i64 b1) ∧ w'.cell? ⟨w3.heap.size + 1, 0, none⟩ = some (.int .i64 X2) ∧ w'.cell? ⟨w3.heap.size + 1, 1, none⟩ = some (.int .i64 Y2) ∧ w'.cell? ⟨w3.heap.size + 1, 2, none⟩ = some (.int .i64 a2) ∧ w'.cell? ⟨w3.heap.size + 1, 3, none⟩ = some (.int .i64 b2))) (by kernel_rfl) ?_ (fun hHeld => ?_)
        · ((try dsimp only); (repeat' apply And.intro); all_goals ((repeat (first | (with_reducible refine cell_drew ?_) | (with_reducible refine cell_drewN _ ?_) | ((with_reducible refine cell_alloc ?_ ?_); · first | omega | (simp; done) | (simp; omega) | assumption) | ((with_reducible refine cell_set ?_ ?_); · first | (intro e; injection e; omega) | (intro e; simp at e; done) | (intro e; simp at e; omega)))); first | assumption | (simp; done)))
        refine reg_row (v := .agg (cornA ss W n 0)) (i := 0) (d := 36) rfl rfl (by kernel_rfl) (by kernel_rfl) (by kernel_rfl) (fun _ _ _ h => h) (by rfl) 68 _ rfl (w3.heap.size) rfl 68 (cornA ss W n 0) (0, 0) _ (fun wz hSw => by (try dsimp only at hSw); go_split_ands; assumption) Try.underlying68 rfl (by rw [size_cornA]; kernel_rfl) rfl (by assumption) ?_; (try simp only [Act.put, List.setIfInBounds_toArray, List.set_cons_zero, List.set_cons_succ])
        refine reg_on (i := 1) (d := 37) (v := ?rv37) rfl rfl (by kernel_rfl) (by kernel_rfl) (by kernel_rfl) (fun _ _ _ h => h) (by rfl) ?ry37 (by assumption) ?rr37
        case ry37 => (intro wz hSw; (try dsimp only at hSw); go_simp; try with_reducible rfl)
        (try simp only [Act.put, List.setIfInBounds_toArray, List.set_cons_zero, List.set_cons_succ])
        refine reg_row (v := .agg (cornA ss W n 0)) (i := 3) (d := 39) rfl rfl (by kernel_rfl) (by kernel_rfl) (by kernel_rfl) (fun _ _ _ h => h) (by rfl) 68 _ rfl (w3.heap.size) rfl 68 (cornA ss W n 0) (0, 0) _ (fun wz hSw => by (try dsimp only at hSw); go_split_ands; assumption) Try.underlying68 rfl (by rw [size_cornA]; kernel_rfl) rfl (by assumption) ?_; (try simp only [Act.put, List.setIfInBounds_toArray, List.set_cons_zero, List.set_cons_succ])
        refine reg_on (i := 4) (d := 40) (v := ?rv39) rfl rfl (by kernel_rfl) (by kernel_rfl) (by kernel_rfl) (fun _ _ _ h => h) (by rfl) ?ry39 (by assumption) ?rr39
        case ry39 => (intro wz hSw; (try dsimp only at hSw); go_simp; try with_reducible rfl)
        (try simp only [Act.put, List.setIfInBounds_toArray, List.set_cons_zero, List.set_cons_succ])
        refine wpAnyH_ready (rs := [2]) (by kernel_rfl) (by simp) ?_
        refine AllReadyH.cons rfl (fun K hK => ?_) AllReadyH.nil
        go_simp
        go_at_call 59; refine (HW1.out _).mono ?_; rintro e w8 ⟨rfl, hb8⟩; have s8 := hb8.size; (try simp at s8); have hh1 : (w3.heap.size + 1) < w8.heap.size := (by omega); have hh2 : w3.heap.size < w8.heap.size := (by omega); have hh3 : wr.heap.size < w8.heap.size := (by omega); have rr8 : w8.heap[w3.heap.size]? = some (.cells (cornA ss W n 0) 68 (0, 0)) := (hb8.block w3.heap.size (by first | omega | (simp; omega))).trans (by first | assumption | (go_split_ands; assumption)); have va0 : w8.cell? ⟨wr.heap.size, 0, none⟩ = some (.int .i64 X1) := (hb8.cell (p := ⟨wr.heap.size, 0, none⟩) (by first | (simp; done) | (simp; omega) | omega)).trans (by first | assumption | (go_split_ands; assumption)); have va1 : w8.cell? ⟨wr.heap.size, 1, none⟩ = some (.int .i64 Y1) := (hb8.cell (p := ⟨wr.heap.size, 1, none⟩) (by first | (simp; done) | (simp; omega) | omega)).trans (by first | assumption | (go_split_ands; assumption)); have va2 : w8.cell? ⟨wr.heap.size, 2, none⟩ = some (.int .i64 a1) := (hb8.cell (p := ⟨wr.heap.size, 2, none⟩) (by first | (simp; done) | (simp; omega) | omega)).trans (by first | assumption | (go_split_ands; assumption)); have va3 : w8.cell? ⟨wr.heap.size, 3, none⟩ = some (.int .i64 b1) := (hb8.cell (p := ⟨wr.heap.size, 3, none⟩) (by first | (simp; done) | (simp; omega) | omega)).trans (by first | assumption | (go_split_ands; assumption)); have vb0 : w8.cell? ⟨w3.heap.size + 1, 0, none⟩ = some (.int .i64 X2) := (hb8.cell (p := ⟨w3.heap.size + 1, 0, none⟩) (by first | (simp; done) | (simp; omega) | omega)).trans (by first | assumption | (go_split_ands; assumption)); have vb1 : w8.cell? ⟨w3.heap.size + 1, 1, none⟩ = some (.int .i64 Y2) := (hb8.cell (p := ⟨w3.heap.size + 1, 1, none⟩) (by first | (simp; done) | (simp; omega) | omega)).trans (by first | assumption | (go_split_ands; assumption)); have vb2 : w8.cell? ⟨w3.heap.size + 1, 2, none⟩ = some (.int .i64 a2) := (hb8.cell (p := ⟨w3.heap.size + 1, 2, none⟩) (by first | (simp; done) | (simp; omega) | omega)).trans (by first | assumption | (go_split_ands; assumption)); have vb3 : w8.cell? ⟨w3.heap.size + 1, 3, none⟩ = some (.int .i64 b2) := (hb8.cell (p := ⟨w3.heap.size + 1, 3, none⟩) (by first | (simp; done) | (simp; omega) | omega)).trans (by first | assumption | (go_split_ands; assumption))
        refine hK.out _ _ ?_ (fun hHeld => ?_)
        · ((try dsimp only); (repeat' apply And.intro); all_goals ((repeat (first | (with_reducible refine cell_drew ?_) | (with_reducible refine cell_drewN _ ?_) | ((with_reducible refine cell_alloc ?_ ?_); · first | omega | (simp; done) | (simp; omega) | assumption) | ((with_reducible refine cell_set ?_ ?_); · first | (intro e; injection e; omega) | (intro e; simp at e; done) | (intro e; simp at e; omega)))); first | assumption | (simp; done)))
        clear hK K
        (try simp only [Act.put, List.setIfInBounds_toArray, List.set_cons_zero, List.set_cons_succ])
        refine wpAnyH_ready (rs := [5]) (by kernel_rfl) (by simp) ?_
        refine AllReadyH.cons rfl (fun K hK => ?_) AllReadyH.nil
        go_simp
        go_at_call 59; refine (HW2.out _).mono ?_; rintro e w9 ⟨rfl, hb9⟩; have s9 := hb9.size; have gg1 : (w3.heap.size + 1) < w9.heap.size := (by omega); have gg2 : w3.heap.size < w9.heap.size := (by omega); have gg3 : wr.heap.size < w9.heap.size := (by omega); have rr9 : w9.heap[w3.heap.size]? = some (.cells (cornA ss W n 0) 68 (0, 0)) := (hb9.block w3.heap.size (by first | omega | (simp; omega))).trans (by first | assumption | (go_split_ands; assumption)); have vc0 : w9.cell? ⟨wr.heap.size, 0, none⟩ = some (.int .i64 X1) := (hb9.cell (p := ⟨wr.heap.size, 0, none⟩) (by first | (simp; done) | (simp; omega) | omega)).trans (by first | assumption | (go_split_ands; assumption)); have vc1 : w9.cell? ⟨wr.heap.size, 1, none⟩ = some (.int .i64 Y1) := (hb9.cell (p := ⟨wr.heap.size, 1, none⟩) (by first | (simp; done) | (simp; omega) | omega)).trans (by first | assumption | (go_split_ands; assumption)); have vc2 : w9.cell? ⟨wr.heap.size, 2, none⟩ = some (.int .i64 a1) := (hb9.cell (p := ⟨wr.heap.size, 2, none⟩) (by first | (simp; done) | (simp; omega) | omega)).trans (by first | assumption | (go_split_ands; assumption)); have vc3 : w9.cell? ⟨wr.heap.size, 3, none⟩ = some (.int .i64 b1) := (hb9.cell (p := ⟨wr.heap.size, 3, none⟩) (by first | (simp; done) | (simp; omega) | omega)).trans (by first | assumption | (go_split_ands; assumption)); have vd0 : w9.cell? ⟨w3.heap.size + 1, 0, none⟩ = some (.int .i64 X2) := (hb9.cell (p := ⟨w3.heap.size + 1, 0, none⟩) (by first | (simp; done) | (simp; omega) | omega)).trans (by first | assumption | (go_split_ands; assumption)); have vd1 : w9.cell? ⟨w3.heap.size + 1, 1, none⟩ = some (.int .i64 Y2) := (hb9.cell (p := ⟨w3.heap.size + 1, 1, none⟩) (by first | (simp; done) | (simp; omega) | omega)).trans (by first | assumption | (go_split_ands; assumption)); have vd2 : w9.cell? ⟨w3.heap.size + 1, 2, none⟩ = some (.int .i64 a2) := (hb9.cell (p := ⟨w3.heap.size + 1, 2, none⟩) (by first | (simp; done) | (simp; omega) | omega)).trans (by first | assumption | (go_split_ands; assumption)); have vd3 : w9.cell? ⟨w3.heap.size + 1, 3, none⟩ = some (.int .i64 b2) := (hb9.cell (p := ⟨w3.heap.size + 1, 3, none⟩) (by first | (simp; done) | (simp; omega) | omega)).trans (by first | assumption | (go_split_ands; assumption))
        refine hK.out _ _ ?_ (fun hHeld => ?_)
        · ((try dsimp only); (repeat' apply And.intro); all_goals ((repeat (first | (with_reducible refine cell_drew ?_) | (with_reducible refine cell_drewN _ ?_) | ((with_reducible refine cell_alloc ?_ ?_); · first | omega | (simp; done) | (simp; omega) | assumption) | ((with_reducible refine cell_set ?_ ?_); · first | (intro e; injection e; omega) | (intro e; simp at e; done) | (intro e; simp at e; omega)))); first | assumption | (simp; done)))
        clear hK K
        (try simp only [Act.put, List.setIfInBounds_toArray, List.set_cons_zero, List.set_cons_succ])
        refine reg_on (i := 6) (d := 42) (v := ?rv42) rfl rfl (by kernel_rfl) (by kernel_rfl) (by kernel_rfl) (fun _ _ _ h => h) (by rfl) ?ry42 (by assumption) ?rr42
        case ry42 => (intro wz hSw; (try dsimp only at hSw); go_simp; try with_reducible rfl)
        (try simp only [Act.put, List.setIfInBounds_toArray, List.set_cons_zero, List.set_cons_succ])
        refine wpAnyH_done (by kernel_rfl) ?_ _
        have hb89 : Below wA.heap.size wA w9 := bcall' (Nat.le_refl _) (hb9.mono (by omega)) hb8
        have hqa := HQ'.out.below hb89 hg1
        have hra := HR'.out.below hb89 hg2
        have hoa := own_later HO'.out hb89 (Nat.le_refl _)
        have hba : Below w.heap.size w w9 := HB'.out.trans (hb89.mono (by omega))
        have HQa := Lib.hid hqa
        have HRa := Lib.hid hra
        have HOa := Lib.hid hoa
        have HBa := Lib.hid hba
        clear hb8 hb9 hb89 hqa hra hoa hba rr9 HQ' HR' HO' HB' t0 t1 t2 t3 u0 u1 u2 u3 hrow HW1 HW2
        go_wp2
        go_roundw
        case rel => exact ⟨k + 1, by omega, by go_num, by rw [HST.out, HE.out]; exact HQa.out, HRa.out, HOa.out, HBa.out⟩
        case measure => simp [intOf]; omega
    · have hke : k = N := by omega
      subst hke
      have htk : L.take k = L := List.take_of_length_le (by rw [HN.out]; exact Nat.le_refl _)
      rw [htk] at hq2 hQ
      rw [hq2] at hQ
      have HRS := Lib.hid (HR.out.trans hq2)
      have HO2 : Hid (outR ss ((X2 : Int), (Y2 : Int), (a2 : Int), (b2 : Int)) = ((X2 : Int), (Y2 : Int), (rect ss X2 Y2 a2 b2 : Int))) := rfl
      generalize rect ss X2 Y2 a2 b2 = r2 at *
      obtain ⟨u0, u1, u2, u3⟩ := hQ.cells
      simp only at u0 u1 u2 u3
      have hrow := hRW
      unfold RowAt at hrow
      have HBl := Lib.hid hBl
      clear hQ hRW hown hBl hq2 htk ha2 hbb2 hxa2 hyb2
      go_wp2
      refine wp_region_held_drew (S := (fun w' => w'.heap[w3.heap.size]? = some (.cells (cornA ss W n 0) 68 (0, 0)) ∧ w'.cell? ⟨w3.heap.size + 1, 0, none⟩ = some (.int .i64 X2) ∧ w'.cell? ⟨w3.heap.size + 1, 1, none⟩ = some (.int .i64 Y2) ∧ w'.cell? ⟨w3.heap.size + 1, 2, none⟩ = some (.int .i64 a2) ∧ w'.cell? ⟨w3.heap.size + 1, 3, none⟩ = some (.int .i64 b2))) (by kernel_rfl) ?_ (fun hHeld => ?_)
      · ((try dsimp only); (repeat' apply And.intro); all_goals ((repeat (first | (with_reducible refine cell_drew ?_) | (with_reducible refine cell_drewN _ ?_) | ((with_reducible refine cell_alloc ?_ ?_); · first | omega | (simp; done) | (simp; omega) | assumption) | ((with_reducible refine cell_set ?_ ?_); · first | (intro e; injection e; omega) | (intro e; simp at e; done) | (intro e; simp at e; omega)))); first | assumption | (simp; done)))
      refine reg_on (i := 0) (d := 45) (v := ?rv43) rfl rfl (by kernel_rfl) (by kernel_rfl) (by kernel_rfl) (fun _ _ _ h => h) (by rfl) ?ry43 (by assumption) ?rr43
      case ry43 => (intro wz hSw; (try dsimp only at hSw); go_simp; try with_reducible rfl)
      (try simp only [Act.put, List.setIfInBounds_toArray, List.set_cons_zero, List.set_cons_succ])
      refine reg_on (i := 1) (d := 46) (v := ?rv44) rfl rfl (by kernel_rfl) (by kernel_rfl) (by kernel_rfl) (fun _ _ _ h => h) (by rfl) ?ry44 (by assumption) ?rr44
      case ry44 => (intro wz hSw; (try dsimp only at hSw); go_simp; try with_reducible rfl)
      (try simp only [Act.put, List.setIfInBounds_toArray, List.set_cons_zero, List.set_cons_succ])
      refine reg_on (i := 2) (d := 47) (v := ?rv45) rfl rfl (by kernel_rfl) (by kernel_rfl) (by kernel_rfl) (fun _ _ _ h => h) (by rfl) ?ry45 (by assumption) ?rr45
      case ry45 => (intro wz hSw; (try dsimp only at hSw); go_simp; try with_reducible rfl)
      (try simp only [Act.put, List.setIfInBounds_toArray, List.set_cons_zero, List.set_cons_succ])
      refine reg_on (i := 3) (d := 48) (v := ?rv46) rfl rfl (by kernel_rfl) (by kernel_rfl) (by kernel_rfl) (fun _ _ _ h => h) (by rfl) ?ry46 (by assumption) ?rr46
      case ry46 => (intro wz hSw; (try dsimp only at hSw); go_simp; try with_reducible rfl)
      (try simp only [Act.put, List.setIfInBounds_toArray, List.set_cons_zero, List.set_cons_succ])
      refine reg_row (v := .agg (cornA ss W n 0)) (i := 4) (d := 49) rfl rfl (by kernel_rfl) (by kernel_rfl) (by kernel_rfl) (fun _ _ _ h => h) (by rfl) 68 _ rfl (w3.heap.size) rfl 68 (cornA ss W n 0) (0, 0) _ (fun wz hSw => by (try dsimp only at hSw); go_split_ands; assumption) Try.underlying68 rfl (by rw [size_cornA]; kernel_rfl) rfl (by assumption) ?_; (try simp only [Act.put, List.setIfInBounds_toArray, List.set_cons_zero, List.set_cons_succ])
      refine reg_on (i := 5) (d := 50) (v := ?rv48) rfl rfl (by kernel_rfl) (by kernel_rfl) (by kernel_rfl) (fun _ _ _ h => h) (by rfl) ?ry48 (by assumption) ?rr48
      case ry48 => (intro wz hSw; (try dsimp only at hSw); go_simp; try with_reducible rfl)
      (try simp only [Act.put, List.setIfInBounds_toArray, List.set_cons_zero, List.set_cons_succ])
      refine wpAnyH_ready (rs := [6]) (by kernel_rfl) (by simp) ?_
      refine AllReadyH.cons rfl (fun K hK => ?_) AllReadyH.nil
      go_simp
      go_at_call 59; refine (HW2.out _).mono ?_; rintro e w9 ⟨rfl, hb9⟩; have s9 := hb9.size; (try simp at s9); have gg1 : (w3.heap.size + 1) < w9.heap.size := (by omega); have gg2 : w3.heap.size < w9.heap.size := (by omega); have rr9 : w9.heap[w3.heap.size]? = some (.cells (cornA ss W n 0) 68 (0, 0)) := (hb9.block w3.heap.size (by first | omega | (simp; omega))).trans (by first | assumption | (go_split_ands; assumption)); have vd0 : w9.cell? ⟨w3.heap.size + 1, 0, none⟩ = some (.int .i64 X2) := (hb9.cell (p := ⟨w3.heap.size + 1, 0, none⟩) (by first | (simp; done) | (simp; omega) | omega)).trans (by first | assumption | (go_split_ands; assumption)); have vd1 : w9.cell? ⟨w3.heap.size + 1, 1, none⟩ = some (.int .i64 Y2) := (hb9.cell (p := ⟨w3.heap.size + 1, 1, none⟩) (by first | (simp; done) | (simp; omega) | omega)).trans (by first | assumption | (go_split_ands; assumption)); have vd2 : w9.cell? ⟨w3.heap.size + 1, 2, none⟩ = some (.int .i64 a2) := (hb9.cell (p := ⟨w3.heap.size + 1, 2, none⟩) (by first | (simp; done) | (simp; omega) | omega)).trans (by first | assumption | (go_split_ands; assumption)); have vd3 : w9.cell? ⟨w3.heap.size + 1, 3, none⟩ = some (.int .i64 b2) := (hb9.cell (p := ⟨w3.heap.size + 1, 3, none⟩) (by first | (simp; done) | (simp; omega) | omega)).trans (by first | assumption | (go_split_ands; assumption))
      refine hK.out _ _ ?_ (fun hHeld => ?_)
      · ((try dsimp only); (repeat' apply And.intro); all_goals ((repeat (first | (with_reducible refine cell_drew ?_) | (with_reducible refine cell_drewN _ ?_) | ((with_reducible refine cell_alloc ?_ ?_); · first | omega | (simp; done) | (simp; omega) | assumption) | ((with_reducible refine cell_set ?_ ?_); · first | (intro e; injection e; omega) | (intro e; simp at e; done) | (intro e; simp at e; omega)))); first | assumption | (simp; done)))
      clear hK K
      (try simp only [Act.put, List.setIfInBounds_toArray, List.set_cons_zero, List.set_cons_succ])
      refine reg_on (i := 7) (d := 4) (v := ?rv50) rfl rfl (by kernel_rfl) (by kernel_rfl) (by kernel_rfl) (fun _ _ _ h => h) (by rfl) ?ry50 (by assumption) ?rr50
      case ry50 => (intro wz hSw; (try dsimp only at hSw); go_simp; try with_reducible rfl)
      (try simp only [Act.put, List.setIfInBounds_toArray, List.set_cons_zero, List.set_cons_succ])
      refine reg_on (i := 8) (d := 5) (v := ?rv51) rfl rfl (by kernel_rfl) (by kernel_rfl) (by kernel_rfl) (fun _ _ _ h => h) (by rfl) ?ry51 (by assumption) ?rr51
      case ry51 => (intro wz hSw; (try dsimp only at hSw); go_simp; try with_reducible rfl)
      (try simp only [Act.put, List.setIfInBounds_toArray, List.set_cons_zero, List.set_cons_succ])
      refine reg_on (i := 9) (d := 6) (v := ?rv52) rfl rfl (by kernel_rfl) (by kernel_rfl) (by kernel_rfl) (fun _ _ _ h => h) (by rfl) ?ry52 (by assumption) ?rr52
      case ry52 => (intro wz hSw; (try dsimp only at hSw); go_simp; try with_reducible rfl)
      (try simp only [Act.put, List.setIfInBounds_toArray, List.set_cons_zero, List.set_cons_succ])
      refine reg_on (i := 10) (d := 7) (v := ?rv53) rfl rfl (by kernel_rfl) (by kernel_rfl) (by kernel_rfl) (fun _ _ _ h => h) (by rfl) ?ry53 (by assumption) ?rr53
      case ry53 => (intro wz hSw; (try dsimp only at hSw); go_simp; try with_reducible rfl)
      (try simp only [Act.put, List.setIfInBounds_toArray, List.set_cons_zero, List.set_cons_succ])
      refine wpAnyH_done (by kernel_rfl) ?_ _
      go_wp2
      refine bodyPost_ret (v := okT ((X2 : Int), (Y2 : Int), (r2 : Int)) true) (by simp [results, Try.results34, go_sem]) rfl ⟨by rw [HRS.out, HO2.out], bcall HBl.out.drew.size hb9 HBl.out.drew⟩

theorem richestPart_any (A : Option Addr) (n c : Nat) (ss : List ByteArray) (a b : Int) (w : World) (hr : Rd w 1 A n (strCells ss)) :
    Calls Try.prog 34 #[.slice A n c, bar2 a b] w fun e w' => e = .returned (okT (richV ss a b) (partOk ss 0 0 a b)) ∧ Below w.heap.size w w' := by
  refine rich_cases ss n a b hr.slen ?_ ?_ ?_
  · intro hB hk hv
    rw [hk, hv]
    exact rp0 A n c ss a b w hr hB
  · intro hb hB hP hk hv
    rw [hk, hv]
    exact rp1 A n c ss a b w hr hB hb hP
  · rintro a' b' rfl rfl hb hB hP hxa hyb ha1 hb1' hk hv
    rw [hk, hv]
    exact rp2 A n c (nutW ss) ss _ _ w hr hB hb a' b' rfl rfl ha1 hb1' hxa hyb hP

end Go.Proofs.Ytbjjpndhfgfedaa
