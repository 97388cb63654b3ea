/-
  Words and contracts: the places of a strip's moves; the move tried at one place.
-/
import Derived.Test.YtcocdidkkcjbgaaDoorAs
import Derived.Test.YtcocdidkkcjbgaaDoorTry
import Derived.Test.YtcocdidkkcjbgaaDoorReq
import Derived.Test.YtcocdidkkcjbgaaDoorStrs
namespace Go.Proofs.YtcocdidkkcjbgaaDoor
open Go.RowKit
set_option linter.unusedSimpArgs false
set_option linter.unusedVariables false

/-- whether a strip can be broken at a place -/
def canS (long t l : Int) (u : Bool) : Bool := decide (l ≤ t ∧ l ≤ long - t) && !(u && decide (t + t = long))
/-- the places up to k -/
def smT (long l : Int) (u : Bool) : Nat → List Int
  | 0 => []
  | k + 1 => smT long l u k ++ (if canS long ((k : Int) + 1) l u then [(k : Int) + 1] else [])
def smL (long l : Int) (u : Bool) : List Int := smT long l u (long / 2).toNat
theorem length_smT (long l : Int) (u : Bool) (k : Nat) : (smT long l u k).length ≤ k := by
  induction k with
  | zero => simp [smT]
  | succ k ih => simp only [smT, List.length_append]; split <;> simp <;> omega
theorem smT_low {long l : Int} {u : Bool} : ∀ {k : Nat}, (k : Int) < l → smT long l u k = []
  | 0, _ => rfl
  | k + 1, h => by
    rw [smT, smT_low (k := k) (by omega)]
    simp [canS]; omega
theorem smT_yes {long l : Int} {u : Bool} {k : Nat} (h : canS long ((k : Int) + 1) l u = true) : smT long l u (k + 1) = smT long l u k ++ [(k : Int) + 1] := by rw [smT, if_pos h]
theorem smT_no {long l : Int} {u : Bool} {k : Nat} (h : canS long ((k : Int) + 1) l u = false) : smT long l u (k + 1) = smT long l u k := by rw [smT, h]; simp
theorem mem_smT {long l : Int} {u : Bool} {t : Int} : ∀ {k : Nat}, t ∈ smT long l u k → 1 ≤ t ∧ t ≤ k ∧ canS long t l u = true
  | 0, h => by simp [smT] at h
  | k + 1, h => by
    simp only [smT, List.mem_append] at h
    rcases h with h | h
    · obtain ⟨a, b, c⟩ := mem_smT h
      exact ⟨a, by omega, c⟩
    · split at h
      · rename_i hc
        simp at h
        subst h
        exact ⟨by omega, by omega, hc⟩
      · simp at h
theorem length_smL (long l : Int) (u : Bool) (h : long ≤ 60) : (smL long l u).length ≤ 30 := Nat.le_trans (length_smT _ _ _ _) (by omega)

theorem isErrS : IsErr 82 := fun v w => run_typeAssert_hasB Tryd.underlying46 (by kernel_rfl) v _ w
theorem isErrE : IsErr 144 := fun v w => run_typeAssert_hasB Tryd.underlying46 (by kernel_rfl) v _ w

theorem as_hitB (n : Int) (b B : Nat) (old : Value) (w : World) (hg : w.cell? ⟨1, 0, none⟩ = some (rty 46)) (ht0 : w.cell? ⟨b, 0, none⟩ = some old) (hf0 : w.frozen? ⟨b, 0, none⟩ = false) (hB : B ≤ b) (hw : B ≤ w.heap.size) :
    Calls Tryd.prog 62 #[.iface 82 (.agg #[.int .i64 n]), .iface 84 (.pointer (some ⟨b, 0, none⟩))] w fun ev w' => ev = .returned (.bool true) ∧ w'.cell? ⟨b, 0, none⟩ = some (.int .i64 n) ∧ Below B w w' := by
  have hbl : b < w.heap.size := by
    rcases Nat.lt_or_ge b w.heap.size with h | h
    · exact h
    · simp [World.cell?, Array.getElem?_eq_none h] at ht0
  refine (as_hit n ⟨b, 0, none⟩ old w hg ht0 hf0).mono fun e w' ⟨he, hw'⟩ => ⟨he, ?_, ?_⟩
  · subst hw'
    have hh : ∀ o1 o2 o3 o4 : Obj, ((((w.alloc o1).alloc o2).alloc o3).alloc o4).cell? ⟨b, 0, none⟩ = some old := fun o1 o2 o3 o4 => by
      rw [World.cell?_alloc_lt _ _ ⟨b, 0, none⟩ (by simp; omega), World.cell?_alloc_lt _ _ ⟨b, 0, none⟩ (by simp; omega), World.cell?_alloc_lt _ _ ⟨b, 0, none⟩ (by simp; omega), World.cell?_alloc_lt _ _ ⟨b, 0, none⟩ hbl]
      exact ht0
    exact World.cell?_setCell_same _ _ _ (hh _ _ _ _)
  · subst hw'
    exact bset hB _ ((((((Below.refl B w).alloc hw _).alloc (by simp; omega) _).alloc (by simp; omega) _).alloc (by simp; omega) _))
theorem as_missB (a0 : Addr) (b : Nat) (old : Value) (w : World) (hg : w.cell? ⟨1, 0, none⟩ = some (rty 46)) (ht0 : w.cell? ⟨b, 0, none⟩ = some old) :
    Calls Tryd.prog 62 #[.iface 144 (.pointer (some a0)), .iface 84 (.pointer (some ⟨b, 0, none⟩))] w fun ev w' => ev = .returned (.bool false) ∧ Below w.heap.size w w' :=
  (as_miss a0 ⟨b, 0, none⟩ old w hg ht0).mono fun e w' ⟨he, hw'⟩ => ⟨he, by subst hw'; (repeat (first | (with_reducible exact Below.refl _ _) | (with_reducible assumption) | (with_reducible refine Below.drew ?_) | ((with_reducible refine balloc ?_ _ ?_); · (first | (simp; done) | (simp; omega) | omega)) | ((with_reducible refine bset ?_ _ ?_); · (first | (simp; done) | (simp; omega) | omega)) | (with_reducible refine bdrewN _ ?_) | ((with_reducible refine bcall ?_ (by assumption) ?_); · (first | (simp; done) | (simp; omega) | omega))))⟩

/-- the cells of what a move captures: the strip, the place, the rules -/
def SmAt (w : World) (bl bt br : Nat) (long t l : Int) (u : Bool) : Prop :=
  w.cell? ⟨bl, 0, none⟩ = some (.int .i64 long) ∧ w.cell? ⟨bt, 0, none⟩ = some (.int .i64 t) ∧ w.cell? ⟨br, 0, none⟩ = some (.int .i64 l) ∧ w.cell? ⟨br, 1, none⟩ = some (.bool u)
theorem SmAt.later {w w' : World} {bl bt br : Nat} {long t l : Int} {u : Bool} (h : SmAt w bl bt br long t l u) {B : Nat} (hb : Below B w w') (h1 : bl < B) (h2 : bt < B) (h3 : br < B) : SmAt w' bl bt br long t l u :=
  ⟨(hb.cell (p := ⟨bl, 0, none⟩) h1).trans h.1, (hb.cell (p := ⟨bt, 0, none⟩) h2).trans h.2.1, (hb.cell (p := ⟨br, 0, none⟩) h3).trans h.2.2.1, (hb.cell (p := ⟨br, 1, none⟩) h3).trans h.2.2.2⟩

set_option maxRecDepth 100000 in
set_option maxHeartbeats 1000000 in
theorem move_short (bl bt br : Nat) (long t l : Int) (u : Bool) (w : World) (hS : SmAt w bl bt br long t l u) (h1 : 1 ≤ long) (h2 : long ≤ 60) (h3 : 1 ≤ l) (h4 : l ≤ 60) (h : t < l ∨ long - l < t) :
    Calls Tryd.prog 60 #[.pointer (some ⟨bl, 0, none⟩), .pointer (some ⟨bt, 0, none⟩), .pointer (some ⟨br, 0, none⟩)] w fun e w' => e = .panicked [{ v := .iface 82 (.agg #[.int .i64 l]), recovered := false }] ∧ Below w.heap.size w w' := by
  obtain ⟨c1, c2, c3, c4⟩ := hS
  have HC := Lib.hid (fun wx => req_short long t l u wx h1 h2 h3 h4 h)
  clear h
  go_enter Tryd.func60, Tryd.ntmps60
  go_wp2_with fail
  refine (HC.out _).mono ?_; rintro e w1 ⟨rfl, hb1⟩
  go_wp2
  exact ⟨rfl, rfl, hb1⟩

set_option maxRecDepth 100000 in
set_option maxHeartbeats 1000000 in
theorem move_like (bl bt br : Nat) (long t l : Int) (a0 : Addr) (w : World) (hS : SmAt w bl bt br long t l true) (h1 : 1 ≤ long) (h2 : long ≤ 60) (h3 : 1 ≤ l) (h4 : l ≤ 60) (h5 : l ≤ t) (h6 : t ≤ long - l) (h7 : t + t = long) (hL : LikeAt w a0) :
    Calls Tryd.prog 60 #[.pointer (some ⟨bl, 0, none⟩), .pointer (some ⟨bt, 0, none⟩), .pointer (some ⟨br, 0, none⟩)] w fun e w' => e = .panicked [{ v := .iface 144 (.pointer (some a0)), recovered := false }] ∧ Below w.heap.size w w' := by
  obtain ⟨c1, c2, c3, c4⟩ := hS
  have HC := Lib.hid (req_like long t l a0 w h1 h2 h3 h4 h5 h6 h7 hL)
  clear h7
  go_enter Tryd.func60, Tryd.ntmps60
  go_wp2_with fail
  refine HC.out.mono ?_; rintro e w1 ⟨rfl, hb1⟩
  go_wp2
  exact ⟨rfl, rfl, hb1⟩

set_option maxRecDepth 100000 in
set_option maxHeartbeats 1000000 in
theorem move_ok (bl bt br : Nat) (long t l : Int) (u : Bool) (w : World) (hS : SmAt w bl bt br long t l u) (h1 : 1 ≤ long) (h2 : long ≤ 60) (h3 : 1 ≤ l) (h4 : l ≤ 60) (h5 : l ≤ t) (h6 : t ≤ long - l) (h7 : u = true → t + t ≠ long) :
    Calls Tryd.prog 60 #[.pointer (some ⟨bl, 0, none⟩), .pointer (some ⟨bt, 0, none⟩), .pointer (some ⟨br, 0, none⟩)] w fun e w' => e = .returned (.tuple #[]) ∧ Below w.heap.size w w' := by
  obtain ⟨c1, c2, c3, c4⟩ := hS
  have HC := Lib.hid (fun wx => req_ok long t l u wx h1 h2 h3 h4 h5 h6 h7)
  clear h7
  go_enter Tryd.func60, Tryd.ntmps60
  go_wp2_with fail
  refine (HC.out _).mono ?_; rintro e w1 ⟨rfl, hb1⟩
  go_wp2
  exact bodyPost_end (v := .tuple #[]) (by simp [results, Tryd.results60, go_sem]) rfl ⟨rfl, hb1⟩

theorem try_short (bl bt br : Nat) (long t l : Int) (u : Bool) (w : World) (hS : SmAt w bl bt br long t l u) (hl : bl < w.heap.size) (ht : bt < w.heap.size) (hr : br < w.heap.size) (h1 : 1 ≤ long) (h2 : long ≤ 60) (h3 : 1 ≤ l) (h4 : l ≤ 60) (h : t < l ∨ long - l < t) :
    Calls Tryd.prog 59 #[.func (.func 60) #[] #[.pointer (some ⟨bl, 0, none⟩), .pointer (some ⟨bt, 0, none⟩), .pointer (some ⟨br, 0, none⟩)]] w fun e w' => e = .returned (.iface 82 (.agg #[.int .i64 l])) ∧ Below w.heap.size w w' :=
  tryMove_errS _ _ _ w isErrS fun wx hb => move_short bl bt br long t l u wx (hS.later hb hl ht hr) h1 h2 h3 h4 h
theorem try_like (bl bt br : Nat) (long t l : Int) (a0 : Addr) (w : World) (hS : SmAt w bl bt br long t l true) (hl : bl < w.heap.size) (ht : bt < w.heap.size) (hr : br < w.heap.size) (h1 : 1 ≤ long) (h2 : long ≤ 60) (h3 : 1 ≤ l) (h4 : l ≤ 60) (h5 : l ≤ t) (h6 : t ≤ long - l) (h7 : t + t = long) (hL : LikeAt w a0) (hw : 2 ≤ w.heap.size) :
    Calls Tryd.prog 59 #[.func (.func 60) #[] #[.pointer (some ⟨bl, 0, none⟩), .pointer (some ⟨bt, 0, none⟩), .pointer (some ⟨br, 0, none⟩)]] w fun e w' => e = .returned (.iface 144 (.pointer (some a0))) ∧ Below w.heap.size w w' :=
  tryMove_errS _ _ _ w isErrE fun wx hb => move_like bl bt br long t l a0 wx (hS.later hb hl ht hr) h1 h2 h3 h4 h5 h6 h7 (hL.later hb hw)
theorem try_ok (bl bt br : Nat) (long t l : Int) (u : Bool) (w : World) (hS : SmAt w bl bt br long t l u) (hl : bl < w.heap.size) (ht : bt < w.heap.size) (hr : br < w.heap.size) (h1 : 1 ≤ long) (h2 : long ≤ 60) (h3 : 1 ≤ l) (h4 : l ≤ 60) (h5 : l ≤ t) (h6 : t ≤ long - l) (h7 : u = true → t + t ≠ long) :
    Calls Tryd.prog 59 #[.func (.func 60) #[] #[.pointer (some ⟨bl, 0, none⟩), .pointer (some ⟨bt, 0, none⟩), .pointer (some ⟨br, 0, none⟩)]] w fun e w' => e = .returned .nilIface ∧ Below w.heap.size w w' :=
  tryMove_okS _ w (fun wx w' => Below wx.heap.size wx w') (fun wx hz hb => (move_ok bl bt br long t l u wx (hS.later hb hl ht hr) h1 h2 h3 h4 h5 h6 h7).mono fun e w' ⟨he, hb'⟩ => ⟨he, hb', hb'.cell (p := ⟨w.heap.size, 0, none⟩) (by show w.heap.size < wx.heap.size; omega), hb'.frozen (p := ⟨w.heap.size, 0, none⟩) (by show w.heap.size < wx.heap.size; omega)⟩)
    (fun w' => Below w.heap.size w w') fun wx w' hz hb hs => bset (p := ⟨w.heap.size, 0, none⟩) (by simp) _ (hb.trans (hs.mono (by omega)))
end Go.Proofs.YtcocdidkkcjbgaaDoor
