/-
  Fields: written and read again.
-/
import Derived.Test.YtpomedfofnceeaaDoorFi
import Derived.Test.YtpomedfofnceeaaDoorRs
namespace Go.Proofs.YtpomedfofnceeaaDoor
open Go Go.RowKit
attribute [local go_sem ↓] Go.wp_at_zero Go.wp_at_succ

/-! ### Fields that are read are those that were written, and the other way round. -/
theorem strZ_back (s : ByteArray) : strOfNums (strZ s) = s := by
  unfold strOfNums strZ
  rw [List.map_map]
  have : s.data.toList.map ((fun n : Int => UInt8.ofNat n.toNat) ∘ fun b => (b.toNat : Int)) = s.data.toList := by
    conv => rhs; rw [← List.map_id s.data.toList]
    apply List.map_congr_left
    intro b _
    simp
  rw [this]
theorem strZ_of {xs : List Int} (h : ∀ z ∈ xs, 0 ≤ z ∧ z < 256) : strZ (strOfNums xs) = xs := by
  unfold strOfNums strZ
  rw [List.map_map]
  conv => rhs; rw [← List.map_id xs]
  apply List.map_congr_left
  intro z hz
  have := h z hz
  simp only [Function.comp_apply, UInt8.toNat_ofNat', id_eq]
  omega
def fl (ss : List ByteArray) : List Int := (ss.map fun s => (s.size : Int) :: strZ s).flatten
theorem fl_cons (s : ByteArray) (ss : List ByteArray) : fl (s :: ss) = (s.size : Int) :: (strZ s ++ fl ss) := by simp [fl]
theorem rd_fl : ∀ ss : List ByteArray, rd ss.length (fl ss) = some ss
  | [] => rfl
  | s :: ss => by
    rw [fl_cons, List.length_cons, rd_step (by rw [List.length_append, strZ_len]; simp)]
    have e : ((s.size : Int)).toNat = (strZ s).length := by rw [strZ_len]; simp
    rw [e, List.drop_left, List.take_left, rd_fl ss, strZ_back]
    rfl
theorem fl_rd : ∀ (c : Nat) (zs : List Int) (l : List ByteArray), (∀ z ∈ zs, 0 ≤ z ∧ z < 256) → rd c zs = some l → l.length = c ∧ fl l = zs ∧ ∀ s ∈ l, s.size ≤ 255
  | 0, [], l, _, h => by simp [rd] at h; subst h; exact ⟨rfl, rfl, fun _ h => by cases h⟩
  | 0, _ :: _, _, _, h => by simp [rd] at h
  | _ + 1, [], _, _, h => by simp [rd] at h
  | c + 1, z :: r, l, hz, h => by
    rw [rd] at h
    split at h
    · cases h
    · rename_i hlt
      obtain ⟨l', h1, rfl⟩ := Option.map_eq_some_iff.1 h
      have hz0 := hz z (List.mem_cons_self ..)
      have hr : ∀ y ∈ r, 0 ≤ y ∧ y < 256 := fun y hy => hz y (List.mem_cons_of_mem _ hy)
      obtain ⟨q1, q2, q3⟩ := fl_rd c _ l' (fun y hy => hr y (List.mem_of_mem_drop hy)) h1
      have hs : (strOfNums (r.take z.toNat)).size = z.toNat := by rw [strOfNums_size, List.length_take]; omega
      refine ⟨by simp [q1], ?_, fun s hs' => ?_⟩
      · rw [fl_cons, hs, strZ_of (fun y hy => hr y (List.mem_of_mem_take hy)), q2, List.take_append_drop]
        congr 1
        omega
      · rcases List.mem_cons.1 hs' with rfl | h'
        · rw [hs]; omega
        · exact q3 s h'
theorem fbZ_fl (ss : List ByteArray) (n : Nat) (hl : ss.length = n) : fbZ ss n n = (n : Int) :: fl ss := by unfold fbZ fl; rw [← hl, List.take_length]
theorem okF_of {ss : List ByteArray} (h : ∀ s ∈ ss, s.size ≤ 255) (n : Nat) : okF ss n = true := by
  unfold okF
  rw [List.all_eq_true]
  exact fun s hs => decide_eq_true (h s (List.mem_of_mem_take hs))
theorem bytes_fb {ss : List ByteArray} {n : Nat} (hn : n ≤ 100) (hs : ∀ s ∈ ss, s.size ≤ 255) : ∀ z ∈ fbZ ss n n, 0 ≤ z ∧ z < 256 := by
  intro z hz
  unfold fbZ at hz
  rcases List.mem_cons.1 hz with rfl | hz
  · omega
  · obtain ⟨l, hl, hzl⟩ := List.mem_flatten.1 hz
    obtain ⟨s, hs', rfl⟩ := List.mem_map.1 hl
    rcases List.mem_cons.1 hzl with rfl | hz'
    · have := hs s (List.mem_of_mem_take hs'); omega
    · obtain ⟨b, _, rfl⟩ := List.mem_map.1 hz'
      have := b.toNat_lt
      omega
/-- What is written is read back. -/
theorem write_read {ss : List ByteArray} {n : Nat} (hl : ss.length = n) (hn : n ≤ 100) (hs : ∀ s ∈ ss, s.size ≤ 255) : errF ss n = 0 ∧ resF ss n = fbZ ss n n ∧ errR (fbZ ss n n) = 0 ∧ resR (fbZ ss n n) = ss := by
  have h0 := err0 (show ¬ 100 < n by omega) (okF_of hs n)
  refine ⟨h0.1, h0.2, ?_⟩
  have hlen := fbZ_len (n := n) n (by omega) (okF_of hs n)
  refine ansR0 (by omega) ?_
  rw [fbZ_fl ss n hl]
  show (if 100 < (n : Int) then none else rd (n : Int).toNat (fl ss)) = some ss
  rw [if_neg (by omega), Int.toNat_natCast, ← hl, rd_fl]
/-- What is read is written back. -/
theorem read_write {zs : List Int} (hz : ∀ z ∈ zs, 0 ≤ z ∧ z < 256) (h : errR zs = 0) : errF (resR zs) (resR zs).length = 0 ∧ resF (resR zs) (resR zs).length = zs ∧ (resR zs).length ≤ 100 ∧ ∀ s ∈ resR zs, s.size ≤ 255 := by
  unfold errR at h
  by_cases h1 : 65536 < zs.length
  · rw [if_pos h1] at h; cases h
  rw [if_neg h1] at h
  have er : resR zs = (okR zs).getD [] := by unfold resR; rw [if_neg h1]
  cases ho : okR zs with
  | none => rw [ho] at h; cases h
  | some l =>
    rw [ho] at er
    simp only [Option.getD_some] at er
    rw [er]
    cases zs with
    | nil => cases ho
    | cons z r =>
      have ho' : (if 100 < z then none else rd z.toNat r) = some l := ho
      by_cases h100 : 100 < z
      · rw [if_pos h100] at ho'; cases ho'
      rw [if_neg h100] at ho'
      have hz0 := hz z (List.mem_cons_self ..)
      obtain ⟨q1, q2, q3⟩ := fl_rd _ _ _ (fun y hy => hz y (List.mem_cons_of_mem _ hy)) ho'
      have h0 := err0 (ss := l) (n := l.length) (by omega) (okF_of q3 _)
      refine ⟨h0.1, ?_, by omega, q3⟩
      rw [h0.2, fbZ_fl l _ rfl, q2]
      congr 1
      omega
theorem own_cap {w : World} {base e size n m cap : Nat} {a : Option Addr} {xs : List Value} (h : w.ownsRow base e size (.slice a m cap) n xs) : m ≤ cap ∧ cap ≤ maxLen := by
  rcases h.2 with ⟨hv, h0⟩ | ⟨g, cap', cur, hv, hb, hg, hnc, hcm, hcs, htake⟩
  · cases hv; exact ⟨Nat.le_refl _, Nat.zero_le _⟩
  · cases hv; exact ⟨hnc, hcm⟩

end Go.Proofs.YtpomedfofnceeaaDoor
