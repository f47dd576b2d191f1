/-
  Lists that are shared out.
-/
import Derived.Test.YthnggpjgajkaeaaMn
import Derived.Test.YthnggpjgajkaeaaMb
namespace Go.Proofs.Ythnggpjgajkaeaa
open Go Go.RowKit
attribute [local go_sem ↓] Go.wp_at_zero Go.wp_at_succ

/-- How many of what is left are put together. -/
def part (most left : Nat) : Nat := if left = most + 1 then most - 1 else min most left
theorem part_pos {most left : Nat} (hm : 3 ≤ most) (h : 0 < left) : 0 < part most left ∧ part most left ≤ left ∧ part most left ≤ most := by
  unfold part; split <;> omega
def parts (most : Nat) : Nat → Nat → List Nat
  | 0, _ => []
  | _ + 1, 0 => []
  | f + 1, n + 1 => part most (n + 1) :: parts most f (n + 1 - part most (n + 1))
theorem parts_zero (most f : Nat) : parts most f 0 = [] := by cases f <;> rfl
theorem parts_step {most f n : Nat} (h : 0 < n) (hf : n ≤ f) : ∃ f', parts most f n = part most n :: parts most f' (n - part most n) ∧ f = f' + 1 := by
  obtain ⟨f', rfl⟩ : ∃ f', f = f' + 1 := ⟨f - 1, by omega⟩
  obtain ⟨m, rfl⟩ : ∃ m, n = m + 1 := ⟨n - 1, by omega⟩
  exact ⟨f', rfl, rfl⟩
theorem parts_len (most : Nat) : ∀ f n, (parts most f n).length ≤ f
  | 0, _ => Nat.le_refl _
  | f + 1, 0 => Nat.zero_le _
  | f + 1, n + 1 => by rw [parts, List.length_cons]; have := parts_len most f (n + 1 - part most (n + 1)); omega
/-- The slices of the shares. -/
def segV (b : Nat) : Nat → Nat → List Nat → List Value
  | _, _, [] => []
  | off, c, p :: r => .slice (some ⟨b, off, none⟩) p c :: segV b (off + p) (c - p) r
theorem segV_app (b : Nat) : ∀ (d : List Nat) (off c p : Nat), segV b off c (d ++ [p]) = segV b off c d ++ [.slice (some ⟨b, off + d.sum, none⟩) p (c - d.sum)]
  | [], off, c, p => by simp [segV]
  | q :: d, off, c, p => by
    rw [List.cons_append, segV, segV, segV_app b d, List.sum_cons, List.cons_append, Nat.add_assoc, Nat.sub_sub]
theorem infoSS : (Try.prog.info? 23).map (fun i => (i.zero, i.size, i.bytes)) = some (some (Value.slice none 0 0), 1, 24) := by kernel_rfl
set_option maxRecDepth 100000 in
set_option maxHeartbeats 8000000 in
theorem c_shareS (b off n c most : Nat) (w : World) (hm : 3 ≤ most) (hm2 : most ≤ 5) (hn : n ≤ c) (hc : c ≤ 9223372036854775807) (ho : 0 < n) (hn9 : n ≤ 4096) :
    Calls Try.prog 89 #[.slice (some ⟨b, off, none⟩) n c, .int .i64 most] w fun e w' => (∃ a' c', e = .returned (.slice a' (parts most n n).length c') ∧ w'.ownsRow w.heap.size 23 1 (.slice a' (parts most n n).length c') (parts most n n).length (segV b off c (parts most n n))) ∧ Below w.heap.size w w' := by
  obtain ⟨i0, hi, hz0, hz1, hz2⟩ := info_parts infoSS
  obtain ⟨P, hP⟩ : ∃ P, parts most n n = P := ⟨_, rfl⟩
  rw [hP]
  have hPl : P.length ≤ n := by rw [← hP]; exact parts_len most n n
  have HP : Hid (parts most n n = P) := hP
  clear hP
  go_enter Try.func89, Try.ntmps89
  go_wp2
  go_loopw [0, 5] (fun l o wr => ∃ (d : List Nat) (ad a1 : Option Addr) (m k0 cc c1 m1 f : Nat), l = .slice ad m cc ∧ Hid (cc = c - k0) ∧ Hid (0 < m → ad = some ⟨b, off + k0, none⟩) ∧ m + k0 = n ∧ o = .slice a1 m1 c1 ∧ Hid (d.length = m1) ∧ Hid (P = d ++ parts most f m) ∧ m ≤ f ∧ Hid (k0 = d.sum) ∧ Hid (wr.ownsRow w.heap.size 23 1 (.slice a1 m1 c1) m1 (segV b off c d)) ∧ Hid (Below w.heap.size w wr)) (fun l _ _ => match l with | .slice _ m _ => m | _ => 0)
  case atStart => exact ⟨[], some ⟨b, off, none⟩, none, n, 0, c, 0, 0, n, rfl, rfl, fun _ => rfl, by omega, rfl, rfl, HP.out.symm, Nat.le_refl _, rfl, World.ownsRow_nil w _ _ _, Below.refl _ _⟩
  case round =>
    obtain ⟨d, ad, a1, m, k0, cc, c1, m1, f, rfl, HCC, HAD, hmk, rfl, HD, HE, hmf, HK, OW, BW⟩ := hrel
    by_cases hpos : 0 < m
    · have had := HAD.out hpos
      subst had
      have hcc := HCC.out
      have hc0 : k0 + m ≤ c := by omega
      have hcm : m ≤ cc := by omega
      have hcc9 : cc ≤ 9223372036854775807 := by omega
      clear hcc
      obtain ⟨f', hst, hf'⟩ := parts_step (most := most) hpos hmf
      obtain ⟨p1, p2, p3⟩ := part_pos hm hpos
      obtain ⟨p, hp⟩ : ∃ p, part most m = p := ⟨_, rfl⟩
      have hpd : (m = most + 1 ∧ p = most - 1) ∨ (m ≠ most + 1 ∧ m < most ∧ p = m) ∨ (m ≠ most + 1 ∧ most ≤ m ∧ p = most) := by
        rw [← hp]; unfold part; split <;> omega
      rw [hp] at p1 p2 p3 hst
      have HE2 : Hid (P = (d ++ [p]) ++ parts most f' (m - p)) := by unfold Hid; rw [HE.out, hst, List.append_assoc]; rfl
      have hk0 : k0 + m ≤ c := by omega
      have hd1 : m1 ≤ 4096 := by have h1 := congrArg List.length HE.out; rw [List.length_append, HD.out] at h1; omega
      obtain ⟨V, hV⟩ : ∃ V, wr.alloc (.cells #[.slice (some ⟨b, off + k0, none⟩) p cc] 23) = V := ⟨_, rfl⟩
      have bV : Below wr.heap.size wr V := by rw [← hV]; exact (Below.refl _ _).alloc (Nat.le_refl _) _
      have OV : Hid (V.ownsRow w.heap.size 23 1 (.slice a1 m1 c1) m1 (segV b off c d)) := own_below OW.out bV
      have BV : Hid (Below w.heap.size w V) := BW.out.trans (bV.mono BW.out.size)
      have CV : Hid (V.cell? ⟨wr.heap.size, 0, none⟩ = some (.slice (some ⟨b, off + k0, none⟩) p cc)) := by unfold Hid; rw [← hV]; exact (Box.new _ _ _).cell 0
      have sV := BV.out.size
      have HPS : Hid (0 < p ∧ p ≤ m) := ⟨p1, p2⟩
      have hff : m - p ≤ f' := by omega
      clear bV hst hp hf' HAD
      rcases hpd with ⟨h1, h2⟩ | ⟨h1, h2, h3⟩ | ⟨h1, h2, h3⟩
      · have q1 : ((m : Int) == (most : Int) + 1) = true := by simp; omega
        have q2 : IntKind.i64.wrap ((most : Int) - 1) = (p : Int) := by rw [IntKind.wrap_i64]; omega
        clear h1 h2
        go_wp2_with (at_builtin; refine app_any _ rfl (.tmp 21) (.tmp 25) 114 rfl w.heap.size 23 i0 (.slice none 0 0) 1 24 Try.underlying114 hi hz0 hz1 hz2 rfl (by omega) (.slice a1 m1 c1) m1 (segV b off c d) rfl OV.out (some ⟨wr.heap.size, 0, none⟩) 1 1 [.slice (some ⟨b, off + k0, none⟩) p cc] rfl (fun h => by cases h) rfl (fun ad e => by cases e; intro k u hu; cases k with | zero => (cases hu; exact CV.out) | succ k => simp at hu) (by intro u hu; simp at hu; subst hu; rfl) (by unfold maxLen; omega) (by omega) sV ?_; intro a5 c5 w5 ho5 hg5 hx5)
        have O5 : Hid (w5.ownsRow w.heap.size 23 1 (.slice a5 (m1 + 1) c5) (m1 + 1) (segV b off c (d ++ [p]))) := by unfold Hid; rw [segV_app, ← HK.out, ← HCC.out]; exact ho5
        have B5 : Hid (Below w.heap.size w w5) := BV.out.grown hg5 BV.out.size (fun g hg => by
          rcases own_form OV.out with ⟨h1, _⟩ | ⟨g', cp, h1, h2, _⟩
          · rw [h1] at hg; cases hg
          · rw [h1] at hg; cases hg; exact h2)
        clear ho5 hg5 hx5 OV BV CV hV
        go_roundw
        case rel =>
          refine ⟨d ++ [p], _, a5, _, k0 + p, _, c5, m1 + 1, f', rfl, ?_, ?_, ?_, rfl, ?_, ?_, ?_, ?_, O5.out, B5.out⟩
          · unfold Hid; have := HCC.out; omega
          · intro h9
            have h8 : ¬ cc = p := by have := HPS.out; omega
            simp [h8, Nat.add_assoc]
          · have := HPS.out; omega
          · unfold Hid; rw [List.length_append, HD.out]; rfl
          · have := HE2.out; unfold Hid; first | exact this | simpa using this
          · have := HPS.out; omega
          · unfold Hid; rw [List.sum_append, HK.out]; simp
        case measure => simp; omega
      · have q1 : ((m : Int) == (most : Int) + 1) = false := by simp; omega
        subst h3
        clear h1
        go_wp2_with (at_builtin; refine app_any _ rfl (.tmp 21) (.tmp 25) 114 rfl w.heap.size 23 i0 (.slice none 0 0) 1 24 Try.underlying114 hi hz0 hz1 hz2 rfl (by omega) (.slice a1 m1 c1) m1 (segV b off c d) rfl OV.out (some ⟨wr.heap.size, 0, none⟩) 1 1 [.slice (some ⟨b, off + k0, none⟩) p cc] rfl (fun h => by cases h) rfl (fun ad e => by cases e; intro k u hu; cases k with | zero => (cases hu; exact CV.out) | succ k => simp at hu) (by intro u hu; simp at hu; subst hu; rfl) (by unfold maxLen; omega) (by omega) sV ?_; intro a5 c5 w5 ho5 hg5 hx5)
        have O5 : Hid (w5.ownsRow w.heap.size 23 1 (.slice a5 (m1 + 1) c5) (m1 + 1) (segV b off c (d ++ [p]))) := by unfold Hid; rw [segV_app, ← HK.out, ← HCC.out]; exact ho5
        have B5 : Hid (Below w.heap.size w w5) := BV.out.grown hg5 BV.out.size (fun g hg => by
          rcases own_form OV.out with ⟨h1, _⟩ | ⟨g', cp, h1, h2, _⟩
          · rw [h1] at hg; cases hg
          · rw [h1] at hg; cases hg; exact h2)
        clear ho5 hg5 hx5 OV BV CV hV
        go_roundw
        case rel =>
          refine ⟨d ++ [p], _, a5, _, k0 + p, _, c5, m1 + 1, f', rfl, ?_, ?_, ?_, rfl, ?_, ?_, ?_, ?_, O5.out, B5.out⟩
          · unfold Hid; have := HCC.out; omega
          · intro h9
            have h8 : ¬ cc = p := by have := HPS.out; omega
            simp [h8, Nat.add_assoc]
          · have := HPS.out; omega
          · unfold Hid; rw [List.length_append, HD.out]; rfl
          · have := HE2.out; unfold Hid; first | exact this | simpa using this
          · have := HPS.out; omega
          · unfold Hid; rw [List.sum_append, HK.out]; simp
        case measure => simp; omega
      · have q1 : ((m : Int) == (most : Int) + 1) = false := by simp; omega
        subst h3
        clear h1
        go_wp2_with (at_builtin; refine app_any _ rfl (.tmp 21) (.tmp 25) 114 rfl w.heap.size 23 i0 (.slice none 0 0) 1 24 Try.underlying114 hi hz0 hz1 hz2 rfl (by omega) (.slice a1 m1 c1) m1 (segV b off c d) rfl OV.out (some ⟨wr.heap.size, 0, none⟩) 1 1 [.slice (some ⟨b, off + k0, none⟩) p cc] rfl (fun h => by cases h) rfl (fun ad e => by cases e; intro k u hu; cases k with | zero => (cases hu; exact CV.out) | succ k => simp at hu) (by intro u hu; simp at hu; subst hu; rfl) (by unfold maxLen; omega) (by omega) sV ?_; intro a5 c5 w5 ho5 hg5 hx5)
        have O5 : Hid (w5.ownsRow w.heap.size 23 1 (.slice a5 (m1 + 1) c5) (m1 + 1) (segV b off c (d ++ [p]))) := by unfold Hid; rw [segV_app, ← HK.out, ← HCC.out]; exact ho5
        have B5 : Hid (Below w.heap.size w w5) := BV.out.grown hg5 BV.out.size (fun g hg => by
          rcases own_form OV.out with ⟨h1, _⟩ | ⟨g', cp, h1, h2, _⟩
          · rw [h1] at hg; cases hg
          · rw [h1] at hg; cases hg; exact h2)
        clear ho5 hg5 hx5 OV BV CV hV
        go_roundw
        case rel =>
          refine ⟨d ++ [p], _, a5, _, k0 + p, _, c5, m1 + 1, f', rfl, ?_, ?_, ?_, rfl, ?_, ?_, ?_, ?_, O5.out, B5.out⟩
          · unfold Hid; have := HCC.out; omega
          · intro h9
            have h8 : ¬ cc = p := by have := HPS.out; omega
            simp [h8, Nat.add_assoc]
          · have := HPS.out; omega
          · unfold Hid; rw [List.length_append, HD.out]; rfl
          · have := HE2.out; unfold Hid; first | exact this | simpa using this
          · have := HPS.out; omega
          · unfold Hid; rw [List.sum_append, HK.out]; simp
        case measure => simp; omega
    · obtain rfl : m = 0 := by omega
      have EP : Hid (P = d) := by unfold Hid; rw [HE.out, parts_zero, List.append_nil]
      go_wp2
      go_ret
      refine ⟨⟨a1, c1, ?_, ?_⟩, BW.out⟩
      · rw [EP.out, HD.out]; rfl
      · rw [EP.out, HD.out]; exact OW.out
theorem infoBB : (Try.prog.info? 84).map (fun i => (i.zero, i.size, i.bytes)) = some (some (Value.slice none 0 0), 1, 24) := by kernel_rfl
set_option maxRecDepth 100000 in
set_option maxHeartbeats 8000000 in
theorem c_shareB (b off n c most : Nat) (w : World) (hm : 3 ≤ most) (hm2 : most ≤ 5) (hn : n ≤ c) (hc : c ≤ 9223372036854775807) (ho : 0 < n) (hn9 : n ≤ 4096) :
    Calls Try.prog 86 #[.slice (some ⟨b, off, none⟩) n c, .int .i64 most] w fun e w' => (∃ a' c', e = .returned (.slice a' (parts most n n).length c') ∧ w'.ownsRow w.heap.size 84 1 (.slice a' (parts most n n).length c') (parts most n n).length (segV b off c (parts most n n))) ∧ Below w.heap.size w w' := by
  obtain ⟨i0, hi, hz0, hz1, hz2⟩ := info_parts infoBB
  obtain ⟨P, hP⟩ : ∃ P, parts most n n = P := ⟨_, rfl⟩
  rw [hP]
  have hPl : P.length ≤ n := by rw [← hP]; exact parts_len most n n
  have HP : Hid (parts most n n = P) := hP
  clear hP
  go_enter Try.func86, Try.ntmps86
  go_wp2
  go_loopw [0, 5] (fun l o wr => ∃ (d : List Nat) (ad a1 : Option Addr) (m k0 cc c1 m1 f : Nat), l = .slice ad m cc ∧ Hid (cc = c - k0) ∧ Hid (0 < m → ad = some ⟨b, off + k0, none⟩) ∧ m + k0 = n ∧ o = .slice a1 m1 c1 ∧ Hid (d.length = m1) ∧ Hid (P = d ++ parts most f m) ∧ m ≤ f ∧ Hid (k0 = d.sum) ∧ Hid (wr.ownsRow w.heap.size 84 1 (.slice a1 m1 c1) m1 (segV b off c d)) ∧ Hid (Below w.heap.size w wr)) (fun l _ _ => match l with | .slice _ m _ => m | _ => 0)
  case atStart => exact ⟨[], some ⟨b, off, none⟩, none, n, 0, c, 0, 0, n, rfl, rfl, fun _ => rfl, by omega, rfl, rfl, HP.out.symm, Nat.le_refl _, rfl, World.ownsRow_nil w _ _ _, Below.refl _ _⟩
  case round =>
    obtain ⟨d, ad, a1, m, k0, cc, c1, m1, f, rfl, HCC, HAD, hmk, rfl, HD, HE, hmf, HK, OW, BW⟩ := hrel
    by_cases hpos : 0 < m
    · have had := HAD.out hpos
      subst had
      have hcc := HCC.out
      have hc0 : k0 + m ≤ c := by omega
      have hcm : m ≤ cc := by omega
      have hcc9 : cc ≤ 9223372036854775807 := by omega
      clear hcc
      obtain ⟨f', hst, hf'⟩ := parts_step (most := most) hpos hmf
      obtain ⟨p1, p2, p3⟩ := part_pos hm hpos
      obtain ⟨p, hp⟩ : ∃ p, part most m = p := ⟨_, rfl⟩
      have hpd : (m = most + 1 ∧ p = most - 1) ∨ (m ≠ most + 1 ∧ m < most ∧ p = m) ∨ (m ≠ most + 1 ∧ most ≤ m ∧ p = most) := by
        rw [← hp]; unfold part; split <;> omega
      rw [hp] at p1 p2 p3 hst
      have HE2 : Hid (P = (d ++ [p]) ++ parts most f' (m - p)) := by unfold Hid; rw [HE.out, hst, List.append_assoc]; rfl
      have hk0 : k0 + m ≤ c := by omega
      have hd1 : m1 ≤ 4096 := by have h1 := congrArg List.length HE.out; rw [List.length_append, HD.out] at h1; omega
      obtain ⟨V, hV⟩ : ∃ V, wr.alloc (.cells #[.slice (some ⟨b, off + k0, none⟩) p cc] 84) = V := ⟨_, rfl⟩
      have bV : Below wr.heap.size wr V := by rw [← hV]; exact (Below.refl _ _).alloc (Nat.le_refl _) _
      have OV : Hid (V.ownsRow w.heap.size 84 1 (.slice a1 m1 c1) m1 (segV b off c d)) := own_below OW.out bV
      have BV : Hid (Below w.heap.size w V) := BW.out.trans (bV.mono BW.out.size)
      have CV : Hid (V.cell? ⟨wr.heap.size, 0, none⟩ = some (.slice (some ⟨b, off + k0, none⟩) p cc)) := by unfold Hid; rw [← hV]; exact (Box.new _ _ _).cell 0
      have sV := BV.out.size
      have HPS : Hid (0 < p ∧ p ≤ m) := ⟨p1, p2⟩
      have hff : m - p ≤ f' := by omega
      clear bV hst hp hf' HAD
      rcases hpd with ⟨h1, h2⟩ | ⟨h1, h2, h3⟩ | ⟨h1, h2, h3⟩
      · have q1 : ((m : Int) == (most : Int) + 1) = true := by simp; omega
        have q2 : IntKind.i64.wrap ((most : Int) - 1) = (p : Int) := by rw [IntKind.wrap_i64]; omega
        clear h1 h2
        go_wp2_with (at_builtin; refine app_any _ rfl (.tmp 21) (.tmp 25) 110 rfl w.heap.size 84 i0 (.slice none 0 0) 1 24 Try.underlying110 hi hz0 hz1 hz2 rfl (by omega) (.slice a1 m1 c1) m1 (segV b off c d) rfl OV.out (some ⟨wr.heap.size, 0, none⟩) 1 1 [.slice (some ⟨b, off + k0, none⟩) p cc] rfl (fun h => by cases h) rfl (fun ad e => by cases e; intro k u hu; cases k with | zero => (cases hu; exact CV.out) | succ k => simp at hu) (by intro u hu; simp at hu; subst hu; rfl) (by unfold maxLen; omega) (by omega) sV ?_; intro a5 c5 w5 ho5 hg5 hx5)
        have O5 : Hid (w5.ownsRow w.heap.size 84 1 (.slice a5 (m1 + 1) c5) (m1 + 1) (segV b off c (d ++ [p]))) := by unfold Hid; rw [segV_app, ← HK.out, ← HCC.out]; exact ho5
        have B5 : Hid (Below w.heap.size w w5) := BV.out.grown hg5 BV.out.size (fun g hg => by
          rcases own_form OV.out with ⟨h1, _⟩ | ⟨g', cp, h1, h2, _⟩
          · rw [h1] at hg; cases hg
          · rw [h1] at hg; cases hg; exact h2)
        clear ho5 hg5 hx5 OV BV CV hV
        go_roundw
        case rel =>
          refine ⟨d ++ [p], _, a5, _, k0 + p, _, c5, m1 + 1, f', rfl, ?_, ?_, ?_, rfl, ?_, ?_, ?_, ?_, O5.out, B5.out⟩
          · unfold Hid; have := HCC.out; omega
          · intro h9
            have h8 : ¬ cc = p := by have := HPS.out; omega
            simp [h8, Nat.add_assoc]
          · have := HPS.out; omega
          · unfold Hid; rw [List.length_append, HD.out]; rfl
          · have := HE2.out; unfold Hid; first | exact this | simpa using this
          · have := HPS.out; omega
          · unfold Hid; rw [List.sum_append, HK.out]; simp
        case measure => simp; omega
      · have q1 : ((m : Int) == (most : Int) + 1) = false := by simp; omega
        subst h3
        clear h1
        go_wp2_with (at_builtin; refine app_any _ rfl (.tmp 21) (.tmp 25) 110 rfl w.heap.size 84 i0 (.slice none 0 0) 1 24 Try.underlying110 hi hz0 hz1 hz2 rfl (by omega) (.slice a1 m1 c1) m1 (segV b off c d) rfl OV.out (some ⟨wr.heap.size, 0, none⟩) 1 1 [.slice (some ⟨b, off + k0, none⟩) p cc] rfl (fun h => by cases h) rfl (fun ad e => by cases e; intro k u hu; cases k with | zero => (cases hu; exact CV.out) | succ k => simp at hu) (by intro u hu; simp at hu; subst hu; rfl) (by unfold maxLen; omega) (by omega) sV ?_; intro a5 c5 w5 ho5 hg5 hx5)
        have O5 : Hid (w5.ownsRow w.heap.size 84 1 (.slice a5 (m1 + 1) c5) (m1 + 1) (segV b off c (d ++ [p]))) := by unfold Hid; rw [segV_app, ← HK.out, ← HCC.out]; exact ho5
        have B5 : Hid (Below w.heap.size w w5) := BV.out.grown hg5 BV.out.size (fun g hg => by
          rcases own_form OV.out with ⟨h1, _⟩ | ⟨g', cp, h1, h2, _⟩
          · rw [h1] at hg; cases hg
          · rw [h1] at hg; cases hg; exact h2)
        clear ho5 hg5 hx5 OV BV CV hV
        go_roundw
        case rel =>
          refine ⟨d ++ [p], _, a5, _, k0 + p, _, c5, m1 + 1, f', rfl, ?_, ?_, ?_, rfl, ?_, ?_, ?_, ?_, O5.out, B5.out⟩
          · unfold Hid; have := HCC.out; omega
          · intro h9
            have h8 : ¬ cc = p := by have := HPS.out; omega
            simp [h8, Nat.add_assoc]
          · have := HPS.out; omega
          · unfold Hid; rw [List.length_append, HD.out]; rfl
          · have := HE2.out; unfold Hid; first | exact this | simpa using this
          · have := HPS.out; omega
          · unfold Hid; rw [List.sum_append, HK.out]; simp
        case measure => simp; omega
      · have q1 : ((m : Int) == (most : Int) + 1) = false := by simp; omega
        subst h3
        clear h1
        go_wp2_with (at_builtin; refine app_any _ rfl (.tmp 21) (.tmp 25) 110 rfl w.heap.size 84 i0 (.slice none 0 0) 1 24 Try.underlying110 hi hz0 hz1 hz2 rfl (by omega) (.slice a1 m1 c1) m1 (segV b off c d) rfl OV.out (some ⟨wr.heap.size, 0, none⟩) 1 1 [.slice (some ⟨b, off + k0, none⟩) p cc] rfl (fun h => by cases h) rfl (fun ad e => by cases e; intro k u hu; cases k with | zero => (cases hu; exact CV.out) | succ k => simp at hu) (by intro u hu; simp at hu; subst hu; rfl) (by unfold maxLen; omega) (by omega) sV ?_; intro a5 c5 w5 ho5 hg5 hx5)
        have O5 : Hid (w5.ownsRow w.heap.size 84 1 (.slice a5 (m1 + 1) c5) (m1 + 1) (segV b off c (d ++ [p]))) := by unfold Hid; rw [segV_app, ← HK.out, ← HCC.out]; exact ho5
        have B5 : Hid (Below w.heap.size w w5) := BV.out.grown hg5 BV.out.size (fun g hg => by
          rcases own_form OV.out with ⟨h1, _⟩ | ⟨g', cp, h1, h2, _⟩
          · rw [h1] at hg; cases hg
          · rw [h1] at hg; cases hg; exact h2)
        clear ho5 hg5 hx5 OV BV CV hV
        go_roundw
        case rel =>
          refine ⟨d ++ [p], _, a5, _, k0 + p, _, c5, m1 + 1, f', rfl, ?_, ?_, ?_, rfl, ?_, ?_, ?_, ?_, O5.out, B5.out⟩
          · unfold Hid; have := HCC.out; omega
          · intro h9
            have h8 : ¬ cc = p := by have := HPS.out; omega
            simp [h8, Nat.add_assoc]
          · have := HPS.out; omega
          · unfold Hid; rw [List.length_append, HD.out]; rfl
          · have := HE2.out; unfold Hid; first | exact this | simpa using this
          · have := HPS.out; omega
          · unfold Hid; rw [List.sum_append, HK.out]; simp
        case measure => simp; omega
    · obtain rfl : m = 0 := by omega
      have EP : Hid (P = d) := by unfold Hid; rw [HE.out, parts_zero, List.append_nil]
      go_wp2
      go_ret
      refine ⟨⟨a1, c1, ?_, ?_⟩, BW.out⟩
      · rw [EP.out, HD.out]; rfl
      · rw [EP.out, HD.out]; exact OW.out

end Go.Proofs.Ythnggpjgajkaeaa
