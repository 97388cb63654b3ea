/-
  Contract: GreatestPart of the program.
-/
import Derived.Test.YtbjjpndhfgfedaaGreatS
import Derived.Test.YtbjjpndhfgfedaaReg
namespace Go.Proofs.Ytbjjpndhfgfedaa
open Go.RowKit

theorem bar_neqQ (a b c d : Int) (w : World) : (binOp .neq 37 (bar2 a b) (bar2 c d)).run Try.prog w = .ok (.bool (!(a == c && b == d))) w := by
  have ht : Try.prog.underlying 37 = some (.struct (Try.prog.fieldsOf 37)) := by kernel_rfl
  have hp : Try.prog.stoodInHeld 37 = false := by kernel_rfl
  rw [run_neq_struct, run_equalIn_agg _ _ _ _ _ ht hp]
  have hi := Try.underlying3
  by_cases h1 : (a == c) = true
  · by_cases h2 : (b == d) = true
    · simp [Program.fieldsOf, Try.underlying37, Op.eqFields, hi, h1, h2, go_sem]
    · have h2' : (b == d) = false := by simpa using h2
      simp [Program.fieldsOf, Try.underlying37, Op.eqFields, hi, h1, h2', go_sem]
  · have h1' : (a == c) = false := by simpa using h1
    simp [Program.fieldsOf, Try.underlying37, Op.eqFields, hi, h1', go_sem]

theorem withL_in (ss : List ByteArray) (W H : Nat) (many : Int) : ∀ p ∈ withL ss W H many, QIn W H p := fun p hp => barParts_in W (Nat.le_refl W) p (List.mem_filter.1 hp).1
theorem length_withL (ss : List ByteArray) (W H : Nat) (many : Int) (hW : W ≤ 8) (hH : H ≤ 8) : (withL ss W H many).length ≤ 4096 := by
  have h1 := List.length_filter_le (fun p => decide ((rectQ ss p : Int) = many)) (barParts W H W)
  have h2 := length_barParts W H W hW hH
  unfold withL
  omega

set_option maxRecDepth 100000 in
set_option maxHeartbeats 4000000 in
theorem greatestPart_any (A : Option Addr) (n c : Nat) (ss : List ByteArray) (many : Int) (w : World) (hr : Rd w 1 A n (strCells ss)) :
    Calls Try.prog 38 #[.slice A n c, .int .i64 many] w fun e w' => e = .returned (okB (greatV ss many) (greatOk ss many)) ∧ Below w.heap.size w w' := by
  have bw0 : Below w.heap.size w (w.alloc (.cells #[.int .i64 0, .int .i64 0] 37)) := by (repeat (first | (with_reducible exact Below.refl _ _) | (with_reducible assumption) | (with_reducible refine Below.drew ?_) | ((with_reducible refine balloc ?_ _ ?_); · (first | (simp; done) | (simp; omega) | omega)) | ((with_reducible refine bset ?_ _ ?_); · (first | (simp; done) | (simp; omega) | omega)) | (with_reducible refine bdrewN _ ?_) | ((with_reducible refine bcall ?_ (by assumption) ?_); · (first | (simp; done) | (simp; omega) | omega))))
  have hr0 := hr.alloc (.cells #[.int .i64 0, .int .i64 0] 37)
  refine cnt_cases ss n many hr.slen ?_ ?_ ?_
  · intro hB hk
    rw [show greatOk ss many = false by simp [greatOk, hk], show greatV ss many = (0, 0) by simp [greatV, hk]]
    clear hk
    go_enter Try.func38, Try.ntmps38
    go_wp2_with fail
    refine (areNuts_any _ _ _ _ _ hr0).mono ?_; rintro e w1 ⟨rfl, rfl⟩
    rw [hB]
    go_wp2
    refine bodyPost_ret (v := okB (0, 0) false) (by simp [results, Try.results38, go_sem, *]) rfl ⟨rfl, by (repeat (first | (with_reducible exact Below.refl _ _) | (with_reducible assumption) | (with_reducible refine Below.drew ?_) | ((with_reducible refine balloc ?_ _ ?_); · (first | (simp; done) | (simp; omega) | omega)) | ((with_reducible refine bset ?_ _ ?_); · (first | (simp; done) | (simp; omega) | omega)) | (with_reducible refine bdrewN _ ?_) | ((with_reducible refine bcall ?_ (by assumption) ?_); · (first | (simp; done) | (simp; omega) | omega))))⟩
  · intro hb hB hm hk
    rw [show greatOk ss many = false by simp [greatOk, hk], show greatV ss many = (0, 0) by simp [greatV, hk]]
    clear hk
    have hmm : decide (many < 0) = true := by simpa using hm
    go_enter Try.func38, Try.ntmps38
    go_wp2_with fail
    refine (areNuts_any _ _ _ _ _ hr0).mono ?_; rintro e w1 ⟨rfl, rfl⟩
    rw [hB]
    go_wp2
    refine bodyPost_ret (v := okB (0, 0) false) (by simp [results, Try.results38, go_sem, *]) rfl ⟨rfl, by (repeat (first | (with_reducible exact Below.refl _ _) | (with_reducible assumption) | (with_reducible refine Below.drew ?_) | ((with_reducible refine balloc ?_ _ ?_); · (first | (simp; done) | (simp; omega) | omega)) | ((with_reducible refine bset ?_ _ ?_); · (first | (simp; done) | (simp; omega) | omega)) | (with_reducible refine bdrewN _ ?_) | ((with_reducible refine bcall ?_ (by assumption) ?_); · (first | (simp; done) | (simp; omega) | omega))))⟩
  · intro hb hB hm hk
    have hl := hr.slen
    rw [show greatOk ss many = decide ((bestA ss many (barParts (nutW ss) n (nutW ss))).1 ≠ 0) by simp [greatOk, greatV, hk, hl], show greatV ss many = bestA ss many (barParts (nutW ss) n (nutW ss)) by simp [greatV, hk, hl]]
    clear hk hl
    generalize nutW ss = W at *
    have hn8 := hb.h8
    have hz8 := hb.w8
    have hmm : decide (many < 0) = false := by simpa using hm
    have hnew1 := (BarAt.new w 0 0).alloc (.cells #[.int .i64 0, .int .i64 0] 37)
    have hnew2 := BarAt.new (w.alloc (.cells #[.int .i64 0, .int .i64 0] 37)) 0 0
    rw [show (w.alloc (.cells #[.int .i64 0, .int .i64 0] 37)).heap.size = w.heap.size + 1 by simp] at hnew2
    have bw2 : Below w.heap.size w ((w.alloc (.cells #[.int .i64 0, .int .i64 0] 37)).alloc (.cells #[.int .i64 0, .int .i64 0] 37)) := by (repeat (first | (with_reducible exact Below.refl _ _) | (with_reducible assumption) | (with_reducible refine Below.drew ?_) | ((with_reducible refine balloc ?_ _ ?_); · (first | (simp; done) | (simp; omega) | omega)) | ((with_reducible refine bset ?_ _ ?_); · (first | (simp; done) | (simp; omega) | omega)) | (with_reducible refine bdrewN _ ?_) | ((with_reducible refine bcall ?_ (by assumption) ?_); · (first | (simp; done) | (simp; omega) | omega))))
    have sz2 : ((w.alloc (.cells #[.int .i64 0, .int .i64 0] 37)).alloc (.cells #[.int .i64 0, .int .i64 0] 37)).heap.size = w.heap.size + 2 := by simp
    have hr2 := hr0.alloc (.cells #[.int .i64 0, .int .i64 0] 37)
    have HB1 : Hid (bestA ss many (barParts W n W) = (withL ss W n many).foldl stepA (0, 0)) := rfl
    have HLI := Lib.hid (withL_in ss W n many)
    have hll := length_withL ss W n many hz8 hn8
    have hpw := partsWith_any A n c W ss many _ hr2 hb
    have HPW := Lib.hid hpw
    generalize withL ss W n many = L at *
    clear hpw
    go_enter Try.func38, Try.ntmps38
    go_wp2_with fail
    refine (areNuts_any _ _ _ _ _ hr0).mono ?_; rintro e w1 ⟨rfl, rfl⟩
    rw [hB]
    go_wp2_with fail
    refine HPW.out.mono ?_; rintro e w2 ⟨A2, n2, c2, rfl, own2, hb2⟩
    clear HPW
    rw [sz2] at own2
    have hA1 := hnew1.below hb2 (by rw [sz2]; omega)
    have hA2 := hnew2.below hb2 (by rw [sz2]; omega)
    have hs2 := hb2.size
    rw [sz2] at hs2
    have bel2 : Below w.heap.size w w2 := bw2.trans (hb2.mono (by rw [sz2]; omega))
    have hLn : L.length = n2 := by have := own2.1; rw [length_quadCells] at this; omega
    have hn2 : n2 ≤ 4096 := by omega
    have HLN := Lib.hid hLn
    have HA1 := Lib.hid hA1
    have HA2 := Lib.hid hA2
    have HO := Lib.hid own2
    have HBE := Lib.hid bel2
    clear hA1 hA2 own2 bel2 hb2 hnew1 hnew2 bw2 sz2 hr2 hr0 bw0 hll hLn hs2
    go_wp2
    go_loopw [21] (fun i wr => ∃ k : Nat, k ≤ n2 ∧ i = .int .i64 k ∧ BarAt wr w.heap.size 0 0 ∧ BarAt wr (w.heap.size + 1) ((L.take k).foldl stepA (0, 0)).1 ((L.take k).foldl stepA (0, 0)).2 ∧ wr.ownsRow (w.heap.size + 2) 62 4 (.slice A2 n2 c2) n2 (quadCells L) ∧ Below w.heap.size w wr) (fun i _ => n2 - (intOf i).toNat)
    case atStart => exact ⟨0, Nat.zero_le _, rfl, HA1.out, HA2.out, HO.out, HBE.out⟩
    case round =>
      clear HA1 HA2 HO HBE
      obtain ⟨k, hk, rfl, hA1, hA2, hown, hBl⟩ := hrel
      have hbd := fold_bnd hz8 hn8 (L.take k) (0, 0) (fun p hp => HLI.out p (List.mem_of_mem_take hp)) (.inl ⟨rfl, rfl⟩)
      by_cases hlt : k < n2
      · obtain ⟨b, o, rfl, hbl, hx, p0, p1, p2, p3⟩ := (Rd.of_own hown).quad hlt
        obtain ⟨X, Y, a, bb, hq, ha, hbb, hxa, hyb⟩ := HLI.out _ (List.getElem_mem hx)
        have hstep : (L.take (k + 1)).foldl stepA (0, 0) = stepA ((L.take k).foldl stepA (0, 0)) L[k] := by rw [List.take_succ_eq_append_getElem hx, List.foldl_append]; rfl
        rw [hq] at p0 p1 p2 p3 hstep
        generalize (L.take k).foldl stepA (0, 0) = s at *
        obtain ⟨u, v⟩ := s
        obtain ⟨m1, m2⟩ := hbd.mul
        obtain ⟨n1, n2'⟩ := mul_64 (a := (a : Int)) (b := (bb : Int)) (by omega) (by omega) (by omega) (by omega)
        simp only at m1 m2 hA2
        have e1 : IntKind.i64.wrap (u * v) = u * v := IntWalk.i64_in _ (by omega)
        have e2 : IntKind.i64.wrap ((a : Int) * (bb : Int)) = (a : Int) * (bb : Int) := IntWalk.i64_in _ (by omega)
        have sB := hBl.size
        have hA1' := hA1.alloc (.cells #[.int .i64 X, .int .i64 Y, .int .i64 a, .int .i64 bb] 62)
        have hA2' := hA2.alloc (.cells #[.int .i64 X, .int .i64 Y, .int .i64 a, .int .i64 bb] 62)
        have hown' := hown.alloc (.cells #[.int .i64 X, .int .i64 Y, .int .i64 a, .int .i64 bb] 62)
        have hbel' := hBl.alloc (by omega) (.cells #[.int .i64 X, .int .i64 Y, .int .i64 a, .int .i64 bb] 62)
        obtain ⟨c0, c1⟩ := hA2'.cells
        obtain ⟨f0, f1⟩ := hA2'.free
        have bx : ∀ (i : Nat) (v : Value), #[Value.int .i64 X, .int .i64 Y, .int .i64 a, .int .i64 bb][i]? = some v → (wr.alloc (.cells #[.int .i64 X, .int .i64 Y, .int .i64 a, .int .i64 bb] 62)).cell? ⟨wr.heap.size, i, none⟩ = some v := by
          intro i v h
          simp only [World.cell?, World.alloc, Array.getElem?_push_size]
          exact h
        have b2 := bx 2 _ rfl
        have b3 := bx 3 _ rfl
        clear bx
        have HA1 := Lib.hid hA1'
        have HA2 := Lib.hid hA2'
        have HO := Lib.hid hown'
        have HBE := Lib.hid hbel'
        have HST := Lib.hid hstep
        clear hA1 hA2 hown hBl hA1' hA2' hown' hbel' hbd hstep hq n1 n2' m1 m2 ha hbb hxa hyb
        by_cases hgt : u * v < (a : Int) * (bb : Int)
        · have hgt' : decide (u * v < (a : Int) * (bb : Int)) = true := decide_eq_true hgt
          have HE : Hid (stepA (u, v) ((X : Int), (Y : Int), (a : Int), (bb : Int)) = ((a : Int), (bb : Int))) := if_pos hgt
          clear hgt
          go_wp2
          go_roundw
          case rel => exact ⟨k + 1, by omega, by go_num, (HA1.out.other (by omega)).other (by omega), by rw [HST.out, HE.out]; exact HA2.out.set, ownsRow_setCell_below (ownsRow_setCell_below HO.out (by show w.heap.size + 1 < w.heap.size + 2; omega) _) (by show w.heap.size + 1 < w.heap.size + 2; omega) _, (HBE.out.setCell (p := ⟨w.heap.size + 1, 0, none⟩) (by show w.heap.size ≤ w.heap.size + 1; omega) _).setCell (p := ⟨w.heap.size + 1, 1, none⟩) (by show w.heap.size ≤ w.heap.size + 1; omega) _⟩
          case measure => simp [intOf]; omega
        · have hgt' : decide (u * v < (a : Int) * (bb : Int)) = false := decide_eq_false hgt
          have HE : Hid (stepA (u, v) ((X : Int), (Y : Int), (a : Int), (bb : Int)) = (u, v)) := if_neg hgt
          clear hgt
          go_wp2
          go_roundw
          case rel => exact ⟨k + 1, by omega, by go_num, HA1.out, by rw [HST.out, HE.out]; exact HA2.out, HO.out, HBE.out⟩
          case measure => simp [intOf]; omega
      · have hke : k = n2 := by omega
        subst hke
        have htk : L.take k = L := List.take_of_length_le (by rw [HLN.out]; exact Nat.le_refl _)
        rw [htk] at hA2 hbd
        generalize hsq : L.foldl stepA (0, 0) = s at *
        obtain ⟨u, v⟩ := s
        have HSE := Lib.hid hsq
        obtain ⟨c0, c1⟩ := hA2.cells
        obtain ⟨d0, d1⟩ := hA1.cells
        obtain ⟨f0, f1⟩ := hA1.free
        simp only at c0 c1
        have hne1 : w.heap.size + 1 ≠ w.heap.size := by omega
        rcases hbd with ⟨h1, h2⟩ | ⟨⟨h1, h2⟩, h3, h4⟩
        · simp only at h1 h2
          subst h1 h2
          have heq : ∀ wx, (binOp .neq 37 (bar2 0 0) (bar2 0 0)).run Try.prog wx = .ok (.bool false) wx := fun wx => by rw [bar_neqQ]; rfl
          clear hA2 hA1 hsq
          go_wp2
          refine wp_region_held_drew (S := (fun w' => w'.cell? ⟨w.heap.size + 1, 0, none⟩ = some (.int .i64 0) ∧ w'.cell? ⟨w.heap.size + 1, 1, none⟩ = some (.int .i64 0))) (by kernel_rfl) ?_ (fun hHeld => ?_)
          · ((try dsimp only); (repeat' apply And.intro); all_goals ((repeat (first | (with_reducible refine cell_drew ?_) | (with_reducible refine cell_drewN _ ?_) | ((with_reducible refine cell_alloc ?_ ?_); · first | omega | (simp; done) | (simp; omega) | assumption) | ((with_reducible refine cell_set ?_ ?_); · first | (intro e; injection e; omega) | (intro e; simp at e; done) | (intro e; simp at e; omega)))); first | assumption | (simp; done)))
          refine reg_on (i := 0) (d := 41) (v := ?rv1) rfl rfl (by kernel_rfl) (by kernel_rfl) (by kernel_rfl) (fun _ _ _ h => h) (by rfl) ?ry1 (by assumption) ?rr1
          case ry1 => (intro wz hSw; (try dsimp only at hSw); go_simp; try with_reducible rfl)
          (try simp only [Act.put, List.setIfInBounds_toArray, List.set_cons_zero, List.set_cons_succ])
          refine reg_on (i := 1) (d := 42) (v := ?rv2) rfl rfl (by kernel_rfl) (by kernel_rfl) (by kernel_rfl) (fun _ _ _ h => h) (by rfl) ?ry2 (by assumption) ?rr2
          case ry2 => (intro wz hSw; (try dsimp only at hSw); go_simp; try with_reducible rfl)
          (try simp only [Act.put, List.setIfInBounds_toArray, List.set_cons_zero, List.set_cons_succ])
          refine reg_on (i := 2) (d := 43) (v := ?rv3) rfl rfl (by kernel_rfl) (by kernel_rfl) (by kernel_rfl) (fun _ _ _ h => h) (by rfl) ?ry3 (by assumption) ?rr3
          case ry3 => (intro wz hSw; (try dsimp only at hSw); go_simp; try with_reducible rfl)
          (try simp only [Act.put, List.setIfInBounds_toArray, List.set_cons_zero, List.set_cons_succ])
          refine reg_on (i := 3) (d := 44) (v := ?rv4) rfl rfl (by kernel_rfl) (by kernel_rfl) (by kernel_rfl) (fun _ _ _ h => h) (by rfl) ?ry4 (by assumption) ?rr4
          case ry4 => (intro wz hSw; (try dsimp only at hSw); go_simp; try with_reducible rfl)
          (try simp only [Act.put, List.setIfInBounds_toArray, List.set_cons_zero, List.set_cons_succ])
          refine wpAnyH_ready (rs := [4]) (by kernel_rfl) (by simp) ?_
          refine AllReadyH.cons rfl (fun K hK => ?_) AllReadyH.nil
          go_simp
          refine hK.out _ _ ?_ (fun hHeld => ?_)
          · ((try dsimp only); (repeat' apply And.intro); all_goals ((repeat (first | (with_reducible refine cell_drew ?_) | (with_reducible refine cell_drewN _ ?_) | ((with_reducible refine cell_alloc ?_ ?_); · first | omega | (simp; done) | (simp; omega) | assumption) | ((with_reducible refine cell_set ?_ ?_); · first | (intro e; injection e; omega) | (intro e; simp at e; done) | (intro e; simp at e; omega)))); first | assumption | (simp; done)))
          clear hK K
          (try simp only [Act.put, List.setIfInBounds_toArray, List.set_cons_zero, List.set_cons_succ])
          refine reg_on (i := 5) (d := 5) (v := ?rv6) rfl rfl (by kernel_rfl) (by kernel_rfl) (by kernel_rfl) (fun _ _ _ h => h) (by rfl) ?ry6 (by assumption) ?rr6
          case ry6 => (intro wz hSw; (try dsimp only at hSw); go_simp; try with_reducible rfl)
          (try simp only [Act.put, List.setIfInBounds_toArray, List.set_cons_zero, List.set_cons_succ])
          refine wpAnyH_done (by kernel_rfl) ?_ _
          go_wp2
          refine bodyPost_ret (v := okB (0, 0) false) (by simp [results, Try.results38, go_sem, *]) rfl ⟨by rw [HB1.out]; rfl, by (repeat (first | (with_reducible exact Below.refl _ _) | (with_reducible assumption) | (with_reducible refine Below.drew ?_) | ((with_reducible refine balloc ?_ _ ?_); · (first | (simp; done) | (simp; omega) | omega)) | ((with_reducible refine bset ?_ _ ?_); · (first | (simp; done) | (simp; omega) | omega)) | (with_reducible refine bdrewN _ ?_) | ((with_reducible refine bcall ?_ (by assumption) ?_); · (first | (simp; done) | (simp; omega) | omega))))⟩
        · simp only at h1 h2 h3 h4
          have hu : (u == 0) = false := by simp; omega
          have heq : ∀ wx, (binOp .neq 37 (bar2 u v) (bar2 0 0)).run Try.prog wx = .ok (.bool true) wx := fun wx => by rw [bar_neqQ, hu]; rfl
          have hok : decide (u ≠ 0) = true := by simp; omega
          clear hA2 hA1 hsq hu h1 h2 h3 h4
          go_wp2
          refine wp_region_held_drew (S := (fun w' => w'.cell? ⟨w.heap.size + 1, 0, none⟩ = some (.int .i64 u) ∧ w'.cell? ⟨w.heap.size + 1, 1, none⟩ = some (.int .i64 v))) (by kernel_rfl) ?_ (fun hHeld => ?_)
          · ((try dsimp only); (repeat' apply And.intro); all_goals ((repeat (first | (with_reducible refine cell_drew ?_) | (with_reducible refine cell_drewN _ ?_) | ((with_reducible refine cell_alloc ?_ ?_); · first | omega | (simp; done) | (simp; omega) | assumption) | ((with_reducible refine cell_set ?_ ?_); · first | (intro e; injection e; omega) | (intro e; simp at e; done) | (intro e; simp at e; omega)))); first | assumption | (simp; done)))
          refine reg_on (i := 0) (d := 41) (v := ?rv7) rfl rfl (by kernel_rfl) (by kernel_rfl) (by kernel_rfl) (fun _ _ _ h => h) (by rfl) ?ry7 (by assumption) ?rr7
          case ry7 => (intro wz hSw; (try dsimp only at hSw); go_simp; try with_reducible rfl)
          (try simp only [Act.put, List.setIfInBounds_toArray, List.set_cons_zero, List.set_cons_succ])
          refine reg_on (i := 1) (d := 42) (v := ?rv8) rfl rfl (by kernel_rfl) (by kernel_rfl) (by kernel_rfl) (fun _ _ _ h => h) (by rfl) ?ry8 (by assumption) ?rr8
          case ry8 => (intro wz hSw; (try dsimp only at hSw); go_simp; try with_reducible rfl)
          (try simp only [Act.put, List.setIfInBounds_toArray, List.set_cons_zero, List.set_cons_succ])
          refine reg_on (i := 2) (d := 43) (v := ?rv9) rfl rfl (by kernel_rfl) (by kernel_rfl) (by kernel_rfl) (fun _ _ _ h => h) (by rfl) ?ry9 (by assumption) ?rr9
          case ry9 => (intro wz hSw; (try dsimp only at hSw); go_simp; try with_reducible rfl)
          (try simp only [Act.put, List.setIfInBounds_toArray, List.set_cons_zero, List.set_cons_succ])
          refine reg_on (i := 3) (d := 44) (v := ?rv10) rfl rfl (by kernel_rfl) (by kernel_rfl) (by kernel_rfl) (fun _ _ _ h => h) (by rfl) ?ry10 (by assumption) ?rr10
          case ry10 => (intro wz hSw; (try dsimp only at hSw); go_simp; try with_reducible rfl)
          (try simp only [Act.put, List.setIfInBounds_toArray, List.set_cons_zero, List.set_cons_succ])
          refine wpAnyH_ready (rs := [4]) (by kernel_rfl) (by simp) ?_
          refine AllReadyH.cons rfl (fun K hK => ?_) AllReadyH.nil
          go_simp
          refine hK.out _ _ ?_ (fun hHeld => ?_)
          · ((try dsimp only); (repeat' apply And.intro); all_goals ((repeat (first | (with_reducible refine cell_drew ?_) | (with_reducible refine cell_drewN _ ?_) | ((with_reducible refine cell_alloc ?_ ?_); · first | omega | (simp; done) | (simp; omega) | assumption) | ((with_reducible refine cell_set ?_ ?_); · first | (intro e; injection e; omega) | (intro e; simp at e; done) | (intro e; simp at e; omega)))); first | assumption | (simp; done)))
          clear hK K
          (try simp only [Act.put, List.setIfInBounds_toArray, List.set_cons_zero, List.set_cons_succ])
          refine reg_on (i := 5) (d := 5) (v := ?rv12) rfl rfl (by kernel_rfl) (by kernel_rfl) (by kernel_rfl) (fun _ _ _ h => h) (by rfl) ?ry12 (by assumption) ?rr12
          case ry12 => (intro wz hSw; (try dsimp only at hSw); go_simp; try with_reducible rfl)
          (try simp only [Act.put, List.setIfInBounds_toArray, List.set_cons_zero, List.set_cons_succ])
          refine wpAnyH_done (by kernel_rfl) ?_ _
          go_wp2
          refine bodyPost_ret (v := okB (u, v) true) (by simp [results, Try.results38, go_sem, *]) rfl ⟨by rw [HB1.out]; show _ = Ending.returned (okB (u, v) (decide (u ≠ 0))); rw [hok], by (repeat (first | (with_reducible exact Below.refl _ _) | (with_reducible assumption) | (with_reducible refine Below.drew ?_) | ((with_reducible refine balloc ?_ _ ?_); · (first | (simp; done) | (simp; omega) | omega)) | ((with_reducible refine bset ?_ _ ?_); · (first | (simp; done) | (simp; omega) | omega)) | (with_reducible refine bdrewN _ ?_) | ((with_reducible refine bcall ?_ (by assumption) ?_); · (first | (simp; done) | (simp; omega) | omega))))⟩

end Go.Proofs.Ytbjjpndhfgfedaa
