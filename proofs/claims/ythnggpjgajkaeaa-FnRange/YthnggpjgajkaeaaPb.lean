/-
  Branches one by one as they lie in memory; a branch that is laid over others.
-/
import Derived.Test.YthnggpjgajkaeaaPa
import Derived.Test.YthnggpjgajkaeaaMf
import Derived.Test.YthnggpjgajkaeaaMh
namespace Go.Proofs.Ythnggpjgajkaeaa
open Go Go.RowKit
attribute [local go_sem ↓] Go.wp_at_zero Go.wp_at_succ

/-- A block that is no branch. -/
def NP (w : World) (b : Nat) : Prop := ∀ cs, ¬ Box w b 88 cs
theorem NP.same {w w' : World} {b : Nat} (h : NP w b) (e : w'.heap[b]? = w.heap[b]?) : NP w' b := fun cs hb => h cs (e.symm.trans hb)
theorem NP.keep {w w' : World} (hb : Below w.heap.size w w') : ∀ g, g < w.heap.size → NP w g → w'.heap[g]? = w.heap[g]? ∧ NP w' g := fun g hg h => ⟨hb.block g hg, h.same (hb.block g hg)⟩
theorem NP.own {w : World} {base e size n m c : Nat} {a : Option Addr} {xs : List Value} (h : w.ownsRow base e size (.slice a m c) n xs) (he : e ≠ 88) : ∀ g, ob a = some g → NP w g := by
  intro g hg cs hb
  rcases h.2 with ⟨h1, _⟩ | ⟨g', cp, cur, h1, _, h3, _⟩
  · cases h1; cases hg
  · cases h1; cases hg
    unfold Box at hb
    rw [h3] at hb
    simp only [Option.some.injEq, Obj.cells.injEq] at hb
    exact he hb.2.1
theorem NP.ne {w : World} {b g : Nat} {cs : Array Value} (h : NP w b) (hb : Box w g 88 cs) : b ≠ g := fun e => h cs (e ▸ hb)
/-- A block that is no branch, and is an old one or holds strings. -/
def AZ (z : Nat) (w : World) (b : Nat) : Prop := NP w b ∧ (b < z ∨ ∃ cs, Box w b 9 cs)
theorem AZ.same {z : Nat} {w w' : World} {b : Nat} (h : AZ z w b) (e : w'.heap[b]? = w.heap[b]?) : AZ z w' b := ⟨h.1.same e, h.2.imp id fun ⟨cs, x⟩ => ⟨cs, e.trans x⟩⟩
theorem AZ.keep {z : Nat} {w w' : World} (hb : Below w.heap.size w w') : ∀ g, g < w.heap.size → AZ z w g → w'.heap[g]? = w.heap[g]? ∧ AZ z w' g := fun g hg h => ⟨hb.block g hg, h.same (hb.block g hg)⟩
theorem AZ.own {z : Nat} {w : World} {base size n m c : Nat} {a : Option Addr} {xs : List Value} (h : w.ownsRow base 9 size (.slice a m c) n xs) : ∀ g, ob a = some g → AZ z w g := by
  intro g hg
  refine ⟨NP.own h (by decide) g hg, .inr ?_⟩
  rcases h.2 with ⟨h1, _⟩ | ⟨g', cp, cur, h1, _, h3, _⟩
  · cases h1; cases hg
  · cases h1; cases hg; exact ⟨cur, h3⟩
theorem AZ.ne {z : Nat} {w : World} {base size n m c b : Nat} {a : Option Addr} {xs : List Value} (h : AZ z w b) (ho : w.ownsRow base 57 size (.slice a m c) n xs) (hz : z ≤ base) : ob a ≠ some b := by
  intro e
  rcases ho.2 with ⟨h1, _⟩ | ⟨g', cp, cur, h1, h2, h3, _⟩
  · cases h1; cases e
  · cases h1; cases e
    rcases h.2 with h4 | ⟨cs, x⟩
    · change g' < z at h4; omega
    · unfold Box at x
      rw [h3] at x
      simp only [Option.some.injEq, Obj.cells.injEq] at x
      exact absurd x.2.1 (by decide)
theorem own_neP {w : World} {base e size n m c g : Nat} {a : Option Addr} {xs : List Value} {cs : Array Value} (h : w.ownsRow base e size (.slice a m c) n xs) (hb : Box w g 88 cs) (he : e ≠ 88 := by decide) : ob a ≠ some g := fun ex => NP.own h he g ex cs hb
/-- A branch with its keys and its kids' places in memory. -/
def FlB (w : World) (z p : Nat) (ks : List ByteArray) (us : List Nat) : Prop := ∃ ka kc ia ic pl, Box w p 88 #[.slice ka ks.length kc, .slice ia us.length ic, .int .i64 pl] ∧ RdS w (AZ z w) ka ks.length (ks.map Value.string) ∧ (ka = none → kc = 0) ∧ RdS w (AZ z w) ia us.length (us.map ptr)
theorem FlB.below {w w' : World} {z p : Nat} {ks : List ByteArray} {us : List Nat} (h : FlB w z p ks us) (hb : Below w.heap.size w w') : FlB w' z p ks us := by
  obtain ⟨ka, kc, ia, ic, pl, x, r1, e, r2⟩ := h
  exact ⟨ka, kc, ia, ic, pl, x.belowS hb, r1.keep hb.size (AZ.keep hb), e, r2.keep hb.size (AZ.keep hb)⟩
theorem FlB.lt {w : World} {z p : Nat} {ks : List ByteArray} {us : List Nat} (h : FlB w z p ks us) : p < w.heap.size := by
  obtain ⟨ka, kc, ia, ic, pl, x, _⟩ := h; exact x.lt
theorem RdS.up {w : World} {A A' : Nat → Prop} {a : Option Addr} {n : Nat} {xs : List Value} (h : RdS w A a n xs) (hA : ∀ g, A g → A' g) : RdS w A' a n xs := h.keep (Nat.le_refl _) fun g _ x => ⟨rfl, hA g x⟩
theorem FlB.up {w : World} {z z' p : Nat} {ks : List ByteArray} {us : List Nat} (h : FlB w z p ks us) (hz : z ≤ z') : FlB w z' p ks us := by
  obtain ⟨ka, kc, ia, ic, pl, x, r1, e, r2⟩ := h
  exact ⟨ka, kc, ia, ic, pl, x, r1.up fun g q => ⟨q.1, q.2.imp (fun l => Nat.lt_of_lt_of_le l hz) id⟩, e, r2.up fun g q => ⟨q.1, q.2.imp (fun l => Nat.lt_of_lt_of_le l hz) id⟩⟩
theorem FlB.grown {w w' : World} {z p base n m c : Nat} {a : Option Addr} {xs : List Value} {ks : List ByteArray} {us : List Nat} (h : FlB w z p ks us) (ho : w.ownsRow base 57 1 (.slice a m c) n xs) (hz : z ≤ base) (hg : w.grownBy w' (ob a)) : FlB w' z p ks us := by
  obtain ⟨ka, kc, ia, ic, pl, x, r1, e, r2⟩ := h
  have hk : ∀ g, g < w.heap.size → AZ z w g → w'.heap[g]? = w.heap[g]? ∧ AZ z w' g := fun g hl q => by
    have e := hg.block g hl (fun ex => q.ne ho hz ex.symm)
    exact ⟨e, q.same e⟩
  exact ⟨ka, kc, ia, ic, pl, x.grown hg (own_neP ho x), r1.keep hg.size hk, e, r2.keep hg.size hk⟩
theorem own_set {w : World} {base e n m c g : Nat} {a : Option Addr} {xs : List Value} {cs : Array Value} (h : w.ownsRow base e 1 (.slice a m c) n xs) (hb : Box w g 88 cs) (he : e ≠ 88 := by decide) {i : Nat} {v : Value} : (w.setCell ⟨g, i, none⟩ v).ownsRow base e 1 (.slice a m c) n xs := by
  refine ⟨h.1, ?_⟩
  rcases h.2 with h1 | ⟨g', cp, cur, h1, h2, h3, h4⟩
  · exact .inl h1
  · refine .inr ⟨g', cp, cur, h1, h2, ?_, h4⟩
    have hne : g' ≠ g := by
      rintro rfl
      unfold Box at hb
      rw [h3] at hb
      simp only [Option.some.injEq, Obj.cells.injEq] at hb
      exact he hb.2.1
    exact (Below.heap_setCell w ⟨g, i, none⟩ v g' hne).trans h3
theorem infoS1 : (Try.prog.info? 9).map (fun i => (i.zero, i.size, i.bytes)) = some (some (Value.string ⟨#[]⟩), 1, 16) := by kernel_rfl
set_option maxRecDepth 100000 in
set_option maxHeartbeats 8000000 in
theorem c_over (z b off s c : Nat) (hbz : b < z) (kp : List Nat) (M : List ByteArray) (w : World) (hs : 2 ≤ s) (hs5 : s ≤ 5) (hl : kp.length = s) (hM : M.length = s) (hb : b < w.heap.size) (hnp : NP w b) (hsc : s ≤ c) (hc9 : c ≤ 9223372036854775807)
    (hc : ∀ i, i < s → w.cell? ⟨b, off + i, none⟩ = (kp.map ptr)[i]?)
    (HL : ∀ i p W, kp[i]? = some p → Below w.heap.size w W → Calls Try.prog 93 #[.pointer (some ⟨p, 0, none⟩)] W fun e w' => e = .returned (.string (M.getD i ⟨#[]⟩)) ∧ w' = W) :
    Calls Try.prog 87 #[.slice (some ⟨b, off, none⟩) s c] w fun e w' => (∃ p, e = .returned (.pointer (some ⟨p, 0, none⟩)) ∧ w.heap.size ≤ p ∧ FlB w' z p (M.drop 1) kp) ∧ Below w.heap.size w w' := by
  obtain ⟨i0, hi, hz0, hz1, hz2⟩ := info_parts infoS1
  have HI : Hid (Try.prog.info? 9 = some i0) := hi
  have HZ0 : Hid (i0.zero = some (.string ⟨#[]⟩)) := hz0
  have HZ1 : Hid (i0.size = 1) := hz1
  have HZ2 : Hid (i0.bytes = 16) := hz2
  have HLL : Hid (∀ i p W, kp[i]? = some p → Below w.heap.size w W → Calls Try.prog 93 #[.pointer (some ⟨p, 0, none⟩)] W fun e w' => e = .returned (.string (M.getD i ⟨#[]⟩)) ∧ w' = W) := HL
  have HC : Hid (∀ i, i < s → w.cell? ⟨b, off + i, none⟩ = (kp.map ptr)[i]?) := hc
  have HNP : Hid (NP w b) := hnp
  have HKL : Hid (kp.length = s) := hl
  have HML : Hid (M.length = s) := hM
  obtain ⟨V, hV⟩ : ∃ V, w.alloc (.cells #[.slice none 0 0, .slice (some ⟨b, off, none⟩) s c, .int .i64 0] 88) = V := ⟨_, rfl⟩
  have BV : Hid (Below w.heap.size w V) := by unfold Hid; rw [← hV]; exact (Below.refl _ _).alloc (Nat.le_refl _) _
  have XV : Hid (Box V w.heap.size 88 #[.slice none 0 0, .slice (some ⟨b, off, none⟩) s c, .int .i64 0]) := by unfold Hid; rw [← hV]; exact Box.new _ _ _
  obtain ⟨r, rfl⟩ : ∃ r, s = r + 1 := ⟨s - 1, by omega⟩
  obtain ⟨d, rfl⟩ : ∃ d, c = d + 1 := ⟨c - 1, by omega⟩
  have hd0 : ¬ d = 0 := by omega
  clear hc hnp HL hl hM hi hz0 hz1 hz2
  go_enter Try.func87, Try.ntmps87
  go_wp2
  go_loopw [12] (fun i wr => ∃ (n : Nat) (ka : Option Addr) (kc : Nat), n ≤ r ∧ i = .int .i64 n ∧ Hid (Box wr w.heap.size 88 #[.slice ka n kc, .slice (some ⟨b, off, none⟩) (r + 1) (d + 1), .int .i64 0]) ∧ Hid (wr.ownsRow w.heap.size 9 1 (.slice ka n kc) n (((M.drop 1).take n).map Value.string)) ∧ Hid (Below w.heap.size w wr)) (fun i _ => r - (intOf i).toNat)
  case atStart => exact ⟨0, none, 0, by omega, rfl, XV.out, World.ownsRow_nil _ _ _ _, BV.out⟩
  case round =>
    obtain ⟨n, ka, kc, hn, rfl, XR, OR, BR⟩ := hrel
    by_cases hlt : n < r
    · obtain ⟨q, hq⟩ : ∃ q, kp[n + 1]? = some q := ⟨_, List.getElem?_eq_getElem (by have := HKL.out; omega)⟩
      have d0 : wr.cell? ⟨b, off + 1 + n, none⟩ = some (.pointer (some ⟨q, 0, none⟩)) := by
        rw [BR.out.cell (p := ⟨b, off + 1 + n, none⟩) hb, Nat.add_assoc, Nat.add_comm 1 n, HC.out (n + 1) (by omega)]; exact map_ptr hq
      obtain ⟨sv, hsv⟩ : ∃ sv, M.getD (n + 1) ⟨#[]⟩ = sv := ⟨_, rfl⟩
      have C1 : Hid (∀ W, Below w.heap.size w W → Calls Try.prog 93 #[.pointer (some ⟨q, 0, none⟩)] W fun e w' => e = .returned (.string sv) ∧ w' = W) := fun W hW => by rw [← hsv]; exact HLL.out (n + 1) q W hq hW
      have HSV : Hid ((M.drop 1).take n ++ [sv] = (M.drop 1).take (n + 1)) := by
        unfold Hid
        have h1 : (M.drop 1)[n]? = some sv := by
          rw [List.getElem?_drop, Nat.add_comm 1 n, ← hsv, List.getD_eq_getElem?_getD, List.getElem?_eq_getElem (by have := HML.out; omega)]; rfl
        rw [List.take_add_one, h1]; rfl
      have x0 : wr.cell? ⟨w.heap.size, 0, none⟩ = some (.slice ka n kc) := XR.out.cell 0
      have szr : w.heap.size < wr.heap.size := XR.out.lt
      obtain ⟨VA, hVA⟩ : ∃ VA, wr.drew.alloc (.cells #[.string sv] 9) = VA := ⟨_, rfl⟩
      have bA : Below wr.heap.size wr VA := by rw [← hVA]; exact (Below.refl _ _).drew.alloc (Nat.le_refl _) _
      have BA : Hid (Below w.heap.size w VA) := BR.out.trans (bA.mono BR.out.size)
      have XA : Hid (Box VA w.heap.size 88 #[.slice ka n kc, .slice (some ⟨b, off, none⟩) (r + 1) (d + 1), .int .i64 0]) := XR.out.belowS bA
      have OA : Hid (VA.ownsRow w.heap.size 9 1 (.slice ka n kc) n (((M.drop 1).take n).map Value.string)) := own_below OR.out bA
      have NA : Hid (VA.cell? ⟨wr.heap.size, 0, none⟩ = some (.string sv)) := by unfold Hid; rw [← hVA]; exact (Box.new wr.drew _ _).cell 0
      have a0 : VA.cell? ⟨w.heap.size, 0, none⟩ = some (.slice ka n kc) := XA.out.cell 0
      have sA : w.heap.size ≤ VA.heap.size := BA.out.size
      have KA : Hid (ob ka ≠ some w.heap.size) := fun e => (NP.own OR.out (by decide) _ e) _ XR.out
      have DR : Hid (Below w.heap.size w wr.drew) := BR.out.drew
      clear hq hsv bA XR OR
      go_wp2_with fail
      go_region_law (first
        | (rw [if_pos (by simp [Region.wanted])]
           go_simp
           go_at_call 93
           refine (C1.out _ DR.out).mono ?_
           rintro e w3 ⟨rfl, hq⟩; have hq' := hq.symm; subst hq'; clear hq
           go_simp)
        | (refine step_app_any _ (by rfl) (.tmp 20) (.tmp 23) 23 (by rfl) w.heap.size 9 i0 (.string ⟨#[]⟩) 1 16 Try.underlying23 HI.out HZ0.out HZ1.out HZ2.out rfl (by omega) (.slice ka n kc) n (((M.drop 1).take n).map Value.string) (by rfl) OA.out (some ⟨wr.heap.size, 0, none⟩) 1 1 [.string sv] (by rfl) (fun ex => by cases ex) rfl (fun ad e => by cases e; intro k u hu; cases k with | zero => (cases hu; exact NA.out) | succ k => simp at hu) (by intro u hu; simp at hu; subst hu; rfl) (by unfold maxLen; omega) (by omega) sA ?_
           intro l2 lc2 w5 ho hgx hax
           have HO5 : Hid (w5.ownsRow w.heap.size 9 1 (.slice l2 (n + 1) lc2) (n + 1) (((M.drop 1).take (n + 1)).map Value.string)) := by unfold Hid; rw [← HSV.out, List.map_append]; exact ho
           have X5 : Box w5 w.heap.size 88 #[.slice ka n kc, .slice (some ⟨b, off, none⟩) (r + 1) (d + 1), .int .i64 0] := XA.out.grown hgx (fun ex => KA.out (by rw [ob_slice] at ex; exact ex))
           have HX5 : Hid (Box w5 w.heap.size 88 #[.slice ka n kc, .slice (some ⟨b, off, none⟩) (r + 1) (d + 1), .int .i64 0]) := X5
           have HB5 : Hid (Below w.heap.size w w5) := BA.out.grown hgx BA.out.size (fun g hg => (own_blk OA.out g (by rw [ob_slice] at hg; exact hg)).1)
           have c50 : w5.cell? ⟨w.heap.size, 0, none⟩ = some (.slice ka n kc) := X5.cell 0
           have t50 := X5.thaw 0
           clear ho hgx hax X5))
      all_goals
        go_wp2
        go_roundw
        case rel => exact ⟨n + 1, l2, lc2, by omega, by go_num, HX5.out.set 0 _, own_set HO5.out HX5.out, HB5.out.setCell (Nat.le_refl _) _⟩
        case measure => simp [intOf]; omega
    · obtain rfl : n = r := by omega
      go_wp2
      go_ret
      refine ⟨⟨w.heap.size, rfl, Nat.le_refl _, ka, kc, some ⟨b, off, none⟩, d + 1, 0, ?_, ?_, own_src OR.out, ?_⟩, BR.out⟩
      · have := XR.out; rw [List.length_drop, HML.out, HKL.out, Nat.add_sub_cancel]; exact this
      · have o := OR.out
        rw [List.take_of_length_le (by rw [List.length_drop, HML.out]; omega)] at o
        rw [List.length_drop, HML.out, Nat.add_sub_cancel]
        exact RdS.own o (AZ.own o)
      · rw [HKL.out]
        have rk : RdS w (AZ z w) (some ⟨b, off, none⟩) (n + 1) (kp.map ptr) := ⟨by rw [List.length_map, HKL.out], fun _ => ⟨b, off, rfl, hb, ⟨HNP.out, .inl hbz⟩, HC.out⟩⟩
        exact RdS.keep rk BR.out.size (AZ.keep BR.out)

end Go.Proofs.Ythnggpjgajkaeaa
