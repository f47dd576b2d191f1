/-
  Walks over slices of values: the marks that the laws write into them and look for.
-/
import Derived.Test.YtkfkhfagehcmiaaVs
namespace Go.Proofs.Ytkfkhfagehcmiaa
open Go Go.RowKit
attribute [local go_sem ↓] Go.wp_at_zero Go.wp_at_succ

def mV (k0 i : Nat) : VV := (((k0 + i * 3 : Nat) : Int), ((k0 + i * 3 + 1 : Nat) : Int), mtext (k0 + i * 3 + 2))
def marksV (k0 n : Nat) : List VV := (List.range n).map (mV k0)
theorem marksV_len (k0 n : Nat) : (marksV k0 n).length = n := by simp [marksV]
theorem marksV_get (k0 n k : Nat) (h : k < n) : (marksV k0 n).getD k dV = mV k0 k := by
  unfold marksV; rw [List.getD_eq_getElem?_getD, List.getElem?_map, List.getElem?_range h]; rfl
def mixA {α : Type} (ys xs : List α) (k : Nat) : List α := ys.take k ++ xs.drop k
theorem mixA_zero {α : Type} (ys xs : List α) : mixA ys xs 0 = xs := by simp [mixA]
theorem mixA_len {α : Type} (ys xs : List α) (n k : Nat) (hx : xs.length = n) (hy : ys.length = n) (hk : k ≤ n) : (mixA ys xs k).length = n := by unfold mixA; simp; omega
theorem mixA_step {α : Type} (ys xs : List α) (n k : Nat) (d : α) (hx : xs.length = n) (hy : ys.length = n) (hk : k < n) : (mixA ys xs k).set k (ys.getD k d) = mixA ys xs (k + 1) := by
  unfold mixA
  have hl : (ys.take k).length = k := by simp; omega
  rw [List.set_append, if_neg (by omega), hl, Nat.sub_self, List.drop_eq_getElem_cons (show k < xs.length by omega), List.set_cons_zero, List.take_add_one, List.append_assoc, List.getD_eq_getElem?_getD, List.getElem?_eq_getElem (by omega)]
  rfl
theorem mixA_full {α : Type} (ys xs : List α) (n : Nat) (hx : xs.length = n) (hy : ys.length = n) : mixA ys xs n = ys := by
  unfold mixA; rw [List.take_of_length_le (by omega), List.drop_eq_nil_of_le (by omega)]; simp

set_option maxRecDepth 100000 in
set_option maxHeartbeats 2000000 in
theorem c_markV (base : Nat) (v : Value) (n k0 : Nat) (xs : List VV) (w : World) (hown : w.ownsRow base 25 3 v n (cellsV xs)) (h1 : 1 ≤ k0) (hn : n ≤ 1048576) (hk : k0 ≤ 1000) :
    Calls Try.prog 30 #[v, .int .i64 k0] w fun e w' => e = .returned (.int .i64 (k0 + n * 3 : Nat)) ∧ w'.ownsRow base 25 3 v n (cellsV (marksV k0 n)) ∧ w.grownBy w' v.ownBlock := by
  have hxl : xs.length = n := by have := hown.1; rw [cellsV_len] at this; omega
  rcases own_form hown with ⟨rfl, rfl⟩ | ⟨g, cap, rfl, hg1, hg2⟩
  · go_enter Try.func30, Try.ntmps30
    go_wp2
    refine wp_loop_rounds 1 ?_
    rw [rounds_succ]
    go_wp2
    go_ret
    exact ⟨by simp, by simpa [marksV, cellsV] using World.ownsRow_nil w base 25 3, World.grownBy.refl _ _⟩
  · go_enter Try.func30, Try.ntmps30
    go_wp2
    go_loopw [1, 5] (fun m i wr => ∃ k : Nat, k ≤ n ∧ i = .int .i64 k ∧ m = .int .i64 ((k0 + k * 3 : Nat) : Int) ∧ wr.ownsRow base 25 3 (.slice (some ⟨g, 0, none⟩) n cap) n (cellsV (mixA (marksV k0 n) xs k)) ∧ w.grownBy wr (some g)) (fun _ i _ => n - (intOf i).toNat)
    case atStart => exact ⟨0, by omega, rfl, by simp, by rw [mixA_zero]; exact hown, World.grownBy.refl _ _⟩
    case round =>
      obtain ⟨k, hk, rfl, rfl, hown, hgr⟩ := hrel
      by_cases hlt : k < n
      · have hml := mixA_len (marksV k0 n) xs n k hxl (marksV_len _ _) hk
        obtain ⟨o0, o1, o2⟩ := cellsV_get (mixA (marksV k0 n) xs k) k (by omega)
        have f0 := hown.cellAt (k * 3) (by omega)
        have f1 := hown.cellAt (k * 3 + 1) (by omega)
        rw [o0] at f0
        rw [o1] at f1
        have z0 := hown.frozenAt (k * 3)
        have z1 := hown.frozenAt (k * 3 + 1)
        obtain ⟨ha, ga⟩ := hown.stored (k * 3) (.int .i64 ((k0 : Int) + (k : Int) * 3))
        obtain ⟨hb, gb⟩ := ha.stored (k * 3 + 1) (.int .i64 ((k0 : Int) + (k : Int) * 3 + 1))
        have hgab := (hgr.trans ga).trans gb
        have HB : Hid (World.ownsRow _ base 25 3 (.slice (some ⟨g, 0, none⟩) n cap) n _) := hb
        have HGB : Hid (w.grownBy _ (some g)) := hgab
        have e2 : ((((cellsV (mixA (marksV k0 n) xs k)).set (k * 3) (.int .i64 ((k0 : Int) + (k : Int) * 3))).set (k * 3 + 1) (.int .i64 ((k0 : Int) + (k : Int) * 3 + 1)))[k * 3 + 2]?) = (cellsV (mixA (marksV k0 n) xs k))[k * 3 + 2]? := by
          rw [List.getElem?_set_ne (by omega), List.getElem?_set_ne (by omega)]
        rw [o2] at e2
        have HE2 : Hid (_ = _) := e2
        clear ha hb ga gb o0 o1 o2 e2 hgab
        go_wp2_with fail
        refine (c_mtextI _ (k0 + k * 3 + 2) _ (by omega) (by omega) (by omega)).mono ?_
        rintro e w3 ⟨rfl, hb3⟩
        have hown3 := own_below HB.out hb3
        have hgr3 := HGB.out.trans (grown_of_below hb3 (some g))
        have f2 := hown3.cellAt (k * 3 + 2) (by omega)
        rw [HE2.out] at f2
        have z2 := hown3.frozenAt (k * 3 + 2)
        obtain ⟨hc, gc⟩ := hown3.stored (k * 3 + 2) (.string (mtext (k0 + k * 3 + 2)))
        have hset := cellsV_set (mixA (marksV k0 n) xs k) k ((k0 : Int) + (k : Int) * 3, (k0 : Int) + (k : Int) * 3 + 1, mtext (k0 + k * 3 + 2)) (by omega)
        have hmv : (marksV k0 n).getD k dV = ((k0 : Int) + (k : Int) * 3, (k0 : Int) + (k : Int) * 3 + 1, mtext (k0 + k * 3 + 2)) := by rw [marksV_get _ _ _ hlt]; unfold mV; simp
        rw [← hmv, mixA_step _ _ n k dV hxl (marksV_len _ _) hlt] at hset
        simp only [hmv] at hset
        rw [hset] at hc
        have HC : Hid (_) := hc
        have HGC : Hid (_) := hgr3.trans gc
        clear hc gc hset hmv hown3 hgr3 hb3 HB HGB hown hgr f0 f1 z0 z1
        go_wp2
        go_roundw
        case rel => exact ⟨k + 1, by omega, by go_num, by go_num, HC.out, HGC.out⟩
        case measure => simp [intOf]; omega
      · have e : k = n := by omega
        subst e
        rw [mixA_full _ _ k hxl (marksV_len _ _)] at hown
        go_wp2
        go_ret
        exact ⟨rfl, hown, hgr⟩
end Go.Proofs.Ytkfkhfagehcmiaa
