/-
  Walks over slices of bytes and of strings: their sizes, and the marks that the laws write into them and look for.
-/
import Derived.Test.YthnggpjgajkaeaaSl
import Derived.Deep.RegionHeld3
import Derived.Deep.DrawnRows
namespace Go.Proofs.Ythnggpjgajkaeaa
open Go Go.RowKit
attribute [local go_sem ↓] Go.wp_at_zero Go.wp_at_succ

def mixV (ys xs : List Value) (k : Nat) : List Value := ys.take k ++ xs.drop k
theorem mixV_zero (ys xs : List Value) : mixV ys xs 0 = xs := by simp [mixV]
theorem mixV_step (ys xs : List Value) (n k : Nat) (v : Value) (hx : xs.length = n) (hy : ys.length = n) (hk : k < n) (hv : ys[k]? = some v) : (mixV ys xs k).set k v = mixV ys xs (k + 1) := by
  unfold mixV
  have hl : (ys.take k).length = k := by simp; omega
  rw [List.set_append, if_neg (by omega), hl, Nat.sub_self, List.drop_eq_getElem_cons (show k < xs.length by omega), List.set_cons_zero, List.take_add_one, hv, List.append_assoc]
  rfl
theorem mixV_full (ys xs : List Value) (n : Nat) (hx : xs.length = n) (hy : ys.length = n) : mixV ys xs n = ys := by
  unfold mixV; rw [List.take_of_length_le (by omega), List.drop_eq_nil_of_le (by omega)]; simp

/-- The marks of bytes: k0, k0 + 1, .. -/
def byteM (k : Nat) : Int := ((k % 256 : Nat) : Int)
def marksB (k0 n : Nat) : List Value := (List.range n).map fun i => Value.int .u8 (byteM (k0 + i))
theorem marksB_get (k0 n k : Nat) (h : k < n) : (marksB k0 n)[k]? = some (.int .u8 (byteM (k0 + k))) := by
  unfold marksB; rw [List.getElem?_map, List.getElem?_range h]; rfl
theorem marksB_len (k0 n : Nat) : (marksB k0 n).length = n := by simp [marksB]

def mt : Nat → Nat → List UInt8 → List UInt8
  | 0, _, out => out
  | f + 1, k, out => if k = 0 then out else mt f (k / 10) (UInt8.ofNat (48 + k % 10) :: out)
def mtext (k : Nat) : ByteArray := ⟨(109 :: mt k k []).toArray⟩

def digC (k : Nat) : UInt8 := UInt8.ofNat (48 + k % 10)
theorem digC_nat (k : Nat) : ((digC k).toNat : Int) = 48 + (k : Int) % 10 := by
  unfold digC
  rw [UInt8.toNat_ofNat']
  omega
theorem conv_dig (k : Nat) (w : World) : (convert 22 9 (.slice (some ⟨w.heap.size, 0, none⟩) 1 1)).run Try.prog (w.alloc (.cells #[.int .u8 (48 + (k : Int) % 10)] 5)) = .ok (.string ⟨#[digC k]⟩) (w.alloc (.cells #[.int .u8 (48 + (k : Int) % 10)] 5)) := by
  have := run_convert_bytes_back (P := Try.prog) (w.alloc (.cells #[.int .u8 (48 + (k : Int) % 10)] 5)) 22 9 5 ⟨w.heap.size, 0, none⟩ 1 [digC k] Try.underlying22 Try.underlying5 Try.underlying9 (fun j hj => by
    obtain rfl : j = 0 := by simpa using hj
    rw [cell_one_new w _ 5 0 (.int .u8 (48 + (k : Int) % 10)) rfl]
    simp only [List.getElem_cons_zero]
    rw [digC_nat])
  exact this
theorem mt_step {f k : Nat} {out : List UInt8} (h : 0 < k) (hf : k ≤ f) : ∃ f', k / 10 ≤ f' ∧ mt f k out = mt f' (k / 10) (digC k :: out) := by
  obtain ⟨f', rfl⟩ : ∃ f', f = f' + 1 := ⟨f - 1, by omega⟩
  refine ⟨f', by omega, ?_⟩
  rw [mt, if_neg (by omega)]
  rfl
theorem mt_end (f : Nat) (out : List UInt8) : mt f 0 out = out := by cases f <;> rfl
theorem cat_cons (c : UInt8) (out : List UInt8) : (⟨#[c]⟩ : ByteArray) ++ ⟨out.toArray⟩ = ⟨(c :: out).toArray⟩ := by
  apply ByteArray.ext
  simp
theorem str_val {a b : ByteArray} (h : a = b) : Value.string a = Value.string b := by rw [h]
theorem ret_str {a b : ByteArray} (h : a = b) : Ending.returned (.string a) = .returned (.string b) := by rw [h]

set_option maxHeartbeats 1000000 in
theorem c_mtext (k0 : Nat) (w : World) (h1 : 1 ≤ k0) (h2 : k0 ≤ 4194304) :
    Calls Try.prog 58 #[.int .i64 k0] w fun e w' => e = .returned (.string (mtext k0)) ∧ Below w.heap.size w w' := by
  have hk0 : ¬ (k0 : Int) ≤ 0 := by omega
  go_enter Try.func58, Try.ntmps58
  go_wp2
  go_loopw [0, 3] (fun x o wr => ∃ (k f : Nat) (out : List UInt8), k ≤ f ∧ out.length + k ≤ k0 ∧ x = .int .i64 k ∧ o = .string ⟨out.toArray⟩ ∧ Hid (mt f k out = mt k0 k0 []) ∧ Below w.heap.size w wr) (fun x _ _ => (intOf x).toNat)
  case atStart => exact ⟨k0, k0, [], Nat.le_refl _, by simp, rfl, rfl, rfl, Below.refl _ _⟩
  case round =>
    obtain ⟨k, f, out, hkf, hol, rfl, rfl, HM, hb⟩ := hrel
    have hsz : (⟨out.toArray⟩ : ByteArray).size = out.length := by simp [ByteArray.size]
    by_cases hlt : 0 < k
    · have hcv := conv_dig k wr
      obtain ⟨f', hf', hst⟩ := mt_step (out := out) hlt hkf
      have HS : Hid (_ = _) := hst
      have hs1 : (⟨#[digC k]⟩ : ByteArray).size = 1 := rfl
      clear hst
      go_wp2
      go_roundw
      case rel => exact ⟨k / 10, f', digC k :: out, hf', by simp; omega, by go_num, str_val (cat_cons _ _), HS.out.symm.trans HM.out, hb.alloc (hb.size) _⟩
      case measure => simp [intOf]; omega
    · have e : k = 0 := by omega
      subst e
      have hs1 : (⟨#[109]⟩ : ByteArray).size = 1 := rfl
      go_wp2
      go_ret
      exact ⟨ret_str (by rw [cat_cons]; unfold mtext; rw [← HM.out, mt_end]), hb⟩

theorem c_mtextI (x : Int) (k : Nat) (w : World) (hx : x = k) (h1 : 1 ≤ k) (h2 : k ≤ 4194304) :
    Calls Try.prog 58 #[.int .i64 x] w fun e w' => e = .returned (.string (mtext k)) ∧ Below w.heap.size w w' := by
  subst hx; exact c_mtext k w h1 h2
def marksS (k0 n : Nat) : List Value := (List.range n).map fun i => Value.string (mtext (k0 + i))
theorem marksS_get (k0 n k : Nat) (h : k < n) : (marksS k0 n)[k]? = some (.string (mtext (k0 + k))) := by
  unfold marksS; rw [List.getElem?_map, List.getElem?_range h]; rfl
theorem marksS_len (k0 n : Nat) : (marksS k0 n).length = n := by simp [marksS]
theorem grown_of_below {w w' : World} (h : Below w.heap.size w w') (row : Option Nat) : w.grownBy w' row := ⟨h.os, h.tape, h.output, h.size, fun k hk _ => h.block k hk⟩
theorem own_below {w w' : World} {base e size n : Nat} {v : Value} {xs : List Value} (h : w.ownsRow base e size v n xs) (hb : Below w.heap.size w w') : w'.ownsRow base e size v n xs :=
  h.kept (grown_of_below hb none) (by cases hv : v.ownBlock <;> simp)

set_option maxHeartbeats 1000000 in
theorem c_markS (base : Nat) (v : Value) (n k0 : Nat) (xs : List Value) (w : World) (hown : w.ownsRow base 9 1 v n xs) (h1 : 1 ≤ k0) (hn : n ≤ 2097152) (hk : k0 ≤ 1048576) :
    Calls Try.prog 34 #[v, .int .i64 k0] w fun e w' => e = .returned (.int .i64 (k0 + n : Nat)) ∧ w'.ownsRow base 9 1 v n (marksS k0 n) ∧ w.grownBy w' v.ownBlock := by
  have hxl : xs.length = n := by simpa using hown.1
  rcases own_form hown with ⟨rfl, rfl⟩ | ⟨g, cap, rfl, hg1, hg2⟩
  · go_enter Try.func34, Try.ntmps34
    go_wp2
    refine wp_loop_rounds 1 ?_
    rw [rounds_succ]
    go_wp2
    go_ret
    exact ⟨by simp, by simpa [marksS] using World.ownsRow_nil w base 9 1, World.grownBy.refl _ _⟩
  · go_enter Try.func34, Try.ntmps34
    go_wp2
    go_loopw [1, 5] (fun m i wr => ∃ k : Nat, k ≤ n ∧ i = .int .i64 k ∧ m = .int .i64 ((k0 + k : Nat) : Int) ∧ wr.ownsRow base 9 1 (.slice (some ⟨g, 0, none⟩) n cap) n (mixV (marksS k0 n) xs k) ∧ w.grownBy wr (some g)) (fun _ i _ => n - (intOf i).toNat)
    case atStart => exact ⟨0, by omega, rfl, rfl, by rw [mixV_zero]; exact hown, World.grownBy.refl _ _⟩
    case round =>
      obtain ⟨k, hk, rfl, rfl, hown, hgr⟩ := hrel
      by_cases hlt : k < n
      · go_wp2_with fail
        refine (c_mtextI _ (k0 + k) _ (by omega) (by omega) (by omega)).mono ?_
        rintro e w1 ⟨rfl, hb1⟩
        have hown1 := own_below hown hb1
        have hgr1 := hgr.trans (grown_of_below hb1 (some g))
        obtain ⟨old, hold⟩ : ∃ old, w1.cell? ⟨g, k, none⟩ = some old := by
          rw [hown1.cellAt k (by omega)]
          exact ⟨_, List.getElem?_eq_getElem (by rw [hown1.1]; omega)⟩
        have hfz := hown1.frozenAt k
        obtain ⟨hown2, hgr2⟩ := hown1.stored k (.string (mtext (k0 + k)))
        rw [mixV_step _ _ n k _ hxl (marksS_len _ _) hlt (marksS_get _ _ _ hlt)] at hown2
        have HO : Hid (_) := hown2
        have HG : Hid (_) := hgr1.trans hgr2
        clear hown2 hgr2 hown1 hgr1 hown hgr hb1
        go_wp2
        go_roundw
        case rel => exact ⟨k + 1, by omega, by go_num, by go_num, HO.out, HG.out⟩
        case measure => simp [intOf]; omega
      · have e : k = n := by omega
        subst e
        rw [mixV_full _ _ k hxl (marksS_len _ _)] at hown
        go_wp2
        go_ret
        exact ⟨rfl, hown, hgr⟩

set_option maxHeartbeats 1000000 in
theorem c_heldS (a : Option Addr) (n cap k0 : Nat) (w : World) (hr : RdV w a n (marksS k0 n)) (h1 : 1 ≤ k0) (hn : n ≤ 2097152) (hk : k0 ≤ 1048576) :
    Calls Try.prog 35 #[.slice a n cap, .int .i64 k0] w fun e w' => e = .returned (.int .i64 (k0 + n : Nat)) ∧ Below w.heap.size w w' := by
  obtain ⟨hl, hcs⟩ := hr
  go_enter Try.func35, Try.ntmps35
  go_wp2
  go_loopw [1, 5] (fun m i wr => ∃ k : Nat, k ≤ n ∧ i = .int .i64 k ∧ m = .int .i64 ((k0 + k : Nat) : Int) ∧ Below w.heap.size w wr) (fun _ i _ => n - (intOf i).toNat)
  case atStart => exact ⟨0, by omega, rfl, rfl, Below.refl _ _⟩
  case round =>
    obtain ⟨k, hk, rfl, rfl, hb⟩ := hrel
    by_cases hlt : k < n
    · obtain ⟨b, off, rfl, hbl, hc⟩ := hcs (by omega)
      have hck : wr.cell? ⟨b, off + k, none⟩ = some (.string (mtext (k0 + k))) := by
        rw [hb.cell (p := ⟨b, off + k, none⟩) hbl, hc k hlt, marksS_get _ _ _ hlt]
      have g1 : (0 : Int) ≤ (k : Int) := by omega
      have g2 : (k : Int) < (n : Int) := by omega
      clear hc hcs
      go_wp2_with fail
      go_region_held3 (fun x => x.cell? ⟨b, off + k, none⟩ = some (.string (mtext (k0 + k)))) (first | go_keep | (rw [hb3.cell (p := ⟨b, off + k, none⟩) (World.block_lt_of_cell? _ ⟨b, off + k, none⟩ (by assumption))]; assumption))
        (first | (go_at_call 58; refine (c_mtextI _ (k0 + k) _ (by omega) (by omega) (by omega)).mono ?_; rintro e w3 ⟨rfl, hb3⟩))
      have hb' : Below w.heap.size w w3 := hb.drew.trans (hb3.mono hb.size)
      clear hb3
      go_wp2
      go_roundw
      case rel => exact ⟨k + 1, by omega, by go_num, by go_num, hb'⟩
      case measure => simp [intOf]; omega
    · have e : k = n := by omega
      subst e
      go_wp2
      go_ret
      exact ⟨rfl, hb⟩

/-! ### The size of texts -/
def szL : Int → List ByteArray → Int
  | l, [] => l
  | l, s :: r => if l - s.size < 0 then -1 else szL (l - s.size) r
def sizeS (left : Int) (n : Nat) (ss : List ByteArray) : Int := if left - n < 0 then -1 else szL (left - n) ss
theorem szL_ok : ∀ (ss : List ByteArray) (l : Int), 0 ≤ l → 0 ≤ szL l ss → szL l ss ≤ l ∧ ∀ s ∈ ss, (s.size : Int) ≤ l
  | [], l, _, _ => ⟨Int.le_refl _, fun _ h => by cases h⟩
  | s :: r, l, h0, h => by
    unfold szL at h
    split at h
    · omega
    · rename_i hn
      have := szL_ok r (l - s.size) (by omega) h
      rw [show szL l (s :: r) = szL (l - s.size) r by rw [szL, if_neg hn]]
      refine ⟨by omega, fun x hx => ?_⟩
      rcases List.mem_cons.1 hx with rfl | hx
      · omega
      · have := this.2 x hx; omega
theorem szL_drop {ss : List ByteArray} {k : Nat} {l : Int} (h : k < ss.length) : szL l (ss.drop k) = if l - (ss.getD k ⟨#[]⟩).size < 0 then -1 else szL (l - (ss.getD k ⟨#[]⟩).size) (ss.drop (k + 1)) := by
  rw [List.drop_eq_getElem_cons h, szL, List.getD_eq_getElem?_getD, List.getElem?_eq_getElem h]
  rfl

set_option maxHeartbeats 1000000 in
theorem c_szS (a : Option Addr) (n cap : Nat) (ss : List ByteArray) (left : Int) (w : World) (hr : RdV w a n (ss.map Value.string)) (hm : n ≤ maxLen) (hs : ∀ s ∈ ss, s.size ≤ maxLen) (h0 : 0 ≤ left) (h1 : left ≤ 1048576) :
    Calls Try.prog 96 #[.slice a n cap, .int .i64 left] w fun e w' => e = .returned (.int .i64 (sizeS left n ss)) ∧ w' = w := by
  unfold maxLen at hm
  obtain ⟨hl, hcs⟩ := hr
  simp only [List.length_map] at hl
  by_cases hn : left - n < 0
  · have E : Hid (sizeS left n ss = -1) := by unfold Hid sizeS; rw [if_pos hn]
    go_enter Try.func96, Try.ntmps96
    go_wp2
    go_ret
    exact ⟨ret_int E.out.symm, rfl⟩
  · have E : Hid (sizeS left n ss = szL (left - n) ss) := by unfold Hid sizeS; rw [if_neg hn]
    go_enter Try.func96, Try.ntmps96
    go_wp2
    go_loop [1, 5] (fun m i => ∃ (k : Nat) (l : Int), k ≤ n ∧ 0 ≤ l ∧ l ≤ left ∧ i = .int .i64 k ∧ m = .int .i64 l ∧ Hid (szL l (ss.drop k) = szL (left - n) ss)) (fun _ i => n - (intOf i).toNat)
    case atStart => exact ⟨0, left - n, by omega, by omega, by omega, rfl, rfl, rfl⟩
    case round =>
      obtain ⟨k, l, hk, hl0, hl1, rfl, rfl, HL⟩ := hrel
      by_cases hlt : k < n
      · obtain ⟨b, off, rfl, _, hc⟩ := hcs (by omega)
        obtain ⟨x, hx⟩ : ∃ x, x = ss.getD k ⟨#[]⟩ := ⟨_, rfl⟩
        have hck : w.cell? ⟨b, off + k, none⟩ = some (Value.string x) := by rw [hx, hc k hlt]; exact map_get _ _ _ _ (by omega)
        have hxs : x.size ≤ 9223372036854775807 := by
          have hk' : k < ss.length := by omega
          have := hs (ss.getD k ⟨#[]⟩) (by rw [List.getD_eq_getElem?_getD, List.getElem?_eq_getElem hk']; exact List.getElem_mem hk')
          rw [← hx] at this
          unfold maxLen at this
          omega
        have HD : Hid (szL l (ss.drop k) = if l - x.size < 0 then -1 else szL (l - x.size) (ss.drop (k + 1))) := by rw [hx]; exact szL_drop (by omega)
        clear hc hcs hx hs
        by_cases hneg : l - x.size < 0
        · go_wp2
          go_ret
          exact ⟨ret_int (by rw [E.out, ← HL.out, HD.out, if_pos hneg]), rfl⟩
        · have HN : Hid (¬ l - x.size < 0) := hneg
          go_wp2
          go_round
          case rel => exact ⟨k + 1, l - x.size, by omega, by omega, by omega, by go_num, rfl, by rw [← HL.out, HD.out, if_neg HN.out]; rfl⟩
          case measure => simp [intOf]; omega
      · have e : k = n := by omega
        subst e
        go_wp2
        go_ret
        exact ⟨ret_int (by rw [E.out, ← HL.out, List.drop_eq_nil_of_le (by omega)]; rfl), rfl⟩
end Go.Proofs.Ythnggpjgajkaeaa
