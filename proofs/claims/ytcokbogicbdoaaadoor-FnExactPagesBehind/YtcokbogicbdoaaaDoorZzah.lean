/-
  Headers: the walk of the specification's HeaderBytes.
-/
import Derived.Test.YtcokbogicbdoaaaDoorZzac
import Derived.Test.YtcokbogicbdoaaaDoorRsq
import Derived.Test.YtcokbogicbdoaaaDoorRuq
import Derived.Test.YtcokbogicbdoaaaDoorGkq
import Derived.Laws.StructEq
import Derived.Test.YtcokbogicbdoaaaDoorTbq
import Derived.Test.YtcokbogicbdoaaaDoorZzag
import Derived.Test.YtcokbogicbdoaaaDoorZzaf
namespace Go.Proofs.YtcokbogicbdoaaaDoor
open Go Go.RowKit
attribute [local go_sem ↓] Go.wp_at_zero Go.wp_at_succ

/-! ### Fields that are read are those that were written, and the other way round. -/
theorem strZ_back (s : ByteArray) : strOfNums (strZ s) = s := by
  unfold strOfNums strZ
  rw [List.map_map]
  have : s.data.toList.map ((fun n : Int => UInt8.ofNat n.toNat) ∘ fun b => (b.toNat : Int)) = s.data.toList := by
    conv => rhs; rw [← List.map_id s.data.toList]
    apply List.map_congr_left
    intro b _
    simp
  rw [this]
theorem strZ_of {xs : List Int} (h : ∀ z ∈ xs, 0 ≤ z ∧ z < 256) : strZ (strOfNums xs) = xs := by
  unfold strOfNums strZ
  rw [List.map_map]
  conv => rhs; rw [← List.map_id xs]
  apply List.map_congr_left
  intro z hz
  have := h z hz
  simp only [Function.comp_apply, UInt8.toNat_ofNat', id_eq]
  omega
def fl (ss : List ByteArray) : List Int := (ss.map fun s => (s.size : Int) :: strZ s).flatten
theorem fl_cons (s : ByteArray) (ss : List ByteArray) : fl (s :: ss) = (s.size : Int) :: (strZ s ++ fl ss) := by simp [fl]
theorem rd_fl : ∀ ss : List ByteArray, rd ss.length (fl ss) = some ss
  | [] => rfl
  | s :: ss => by
    rw [fl_cons, List.length_cons, rd_step (by rw [List.length_append, strZ_len]; simp)]
    have e : ((s.size : Int)).toNat = (strZ s).length := by rw [strZ_len]; simp
    rw [e, List.drop_left, List.take_left, rd_fl ss, strZ_back]
    rfl
theorem fl_rd : ∀ (c : Nat) (zs : List Int) (l : List ByteArray), (∀ z ∈ zs, 0 ≤ z ∧ z < 256) → rd c zs = some l → l.length = c ∧ fl l = zs ∧ ∀ s ∈ l, s.size ≤ 255
  | 0, [], l, _, h => by simp [rd] at h; subst h; exact ⟨rfl, rfl, fun _ h => by cases h⟩
  | 0, _ :: _, _, _, h => by simp [rd] at h
  | _ + 1, [], _, _, h => by simp [rd] at h
  | c + 1, z :: r, l, hz, h => by
    rw [rd] at h
    split at h
    · cases h
    · rename_i hlt
      obtain ⟨l', h1, rfl⟩ := Option.map_eq_some_iff.1 h
      have hz0 := hz z (List.mem_cons_self ..)
      have hr : ∀ y ∈ r, 0 ≤ y ∧ y < 256 := fun y hy => hz y (List.mem_cons_of_mem _ hy)
      obtain ⟨q1, q2, q3⟩ := fl_rd c _ l' (fun y hy => hr y (List.mem_of_mem_drop hy)) h1
      have hs : (strOfNums (r.take z.toNat)).size = z.toNat := by rw [strOfNums_size, List.length_take]; omega
      refine ⟨by simp [q1], ?_, fun s hs' => ?_⟩
      · rw [fl_cons, hs, strZ_of (fun y hy => hr y (List.mem_of_mem_take hy)), q2, List.take_append_drop]
        congr 1
        omega
      · rcases List.mem_cons.1 hs' with rfl | h'
        · rw [hs]; omega
        · exact q3 s h'
theorem fbZ_fl (ss : List ByteArray) (n : Nat) (hl : ss.length = n) : fbZ ss n n = (n : Int) :: fl ss := by unfold fbZ fl; rw [← hl, List.take_length]
theorem okF_of {ss : List ByteArray} (h : ∀ s ∈ ss, s.size ≤ 255) (n : Nat) : okF ss n = true := by
  unfold okF
  rw [List.all_eq_true]
  exact fun s hs => decide_eq_true (h s (List.mem_of_mem_take hs))
theorem bytes_fb {ss : List ByteArray} {n : Nat} (hn : n ≤ 100) (hs : ∀ s ∈ ss, s.size ≤ 255) : ∀ z ∈ fbZ ss n n, 0 ≤ z ∧ z < 256 := by
  intro z hz
  unfold fbZ at hz
  rcases List.mem_cons.1 hz with rfl | hz
  · omega
  · obtain ⟨l, hl, hzl⟩ := List.mem_flatten.1 hz
    obtain ⟨s, hs', rfl⟩ := List.mem_map.1 hl
    rcases List.mem_cons.1 hzl with rfl | hz'
    · have := hs s (List.mem_of_mem_take hs'); omega
    · obtain ⟨b, _, rfl⟩ := List.mem_map.1 hz'
      have := b.toNat_lt
      omega
/-- What is written is read back. -/
theorem write_read {ss : List ByteArray} {n : Nat} (hl : ss.length = n) (hn : n ≤ 100) (hs : ∀ s ∈ ss, s.size ≤ 255) : errF ss n = 0 ∧ resF ss n = fbZ ss n n ∧ errR (fbZ ss n n) = 0 ∧ resR (fbZ ss n n) = ss := by
  have h0 := err0 (show ¬ 100 < n by omega) (okF_of hs n)
  refine ⟨h0.1, h0.2, ?_⟩
  have hlen := fbZ_len (n := n) n (by omega) (okF_of hs n)
  refine ansR0 (by omega) ?_
  rw [fbZ_fl ss n hl]
  show (if 100 < (n : Int) then none else rd (n : Int).toNat (fl ss)) = some ss
  rw [if_neg (by omega), Int.toNat_natCast, ← hl, rd_fl]
/-- What is read is written back. -/
theorem read_write {zs : List Int} (hz : ∀ z ∈ zs, 0 ≤ z ∧ z < 256) (h : errR zs = 0) : errF (resR zs) (resR zs).length = 0 ∧ resF (resR zs) (resR zs).length = zs ∧ (resR zs).length ≤ 100 ∧ ∀ s ∈ resR zs, s.size ≤ 255 := by
  unfold errR at h
  by_cases h1 : 65536 < zs.length
  · rw [if_pos h1] at h; cases h
  rw [if_neg h1] at h
  have er : resR zs = (okR zs).getD [] := by unfold resR; rw [if_neg h1]
  cases ho : okR zs with
  | none => rw [ho] at h; cases h
  | some l =>
    rw [ho] at er
    simp only [Option.getD_some] at er
    rw [er]
    cases zs with
    | nil => cases ho
    | cons z r =>
      have ho' : (if 100 < z then none else rd z.toNat r) = some l := ho
      by_cases h100 : 100 < z
      · rw [if_pos h100] at ho'; cases ho'
      rw [if_neg h100] at ho'
      have hz0 := hz z (List.mem_cons_self ..)
      obtain ⟨q1, q2, q3⟩ := fl_rd _ _ _ (fun y hy => hz y (List.mem_cons_of_mem _ hy)) ho'
      have h0 := err0 (ss := l) (n := l.length) (by omega) (okF_of q3 _)
      refine ⟨h0.1, ?_, by omega, q3⟩
      rw [h0.2, fbZ_fl l _ rfl, q2]
      congr 1
      omega
theorem own_cap {w : World} {base e size n m cap : Nat} {a : Option Addr} {xs : List Value} (h : w.ownsRow base e size (.slice a m cap) n xs) : m ≤ cap ∧ cap ≤ maxLen := by
  rcases h.2 with ⟨hv, h0⟩ | ⟨g, cap', cur, hv, hb, hg, hnc, hcm, hcs, htake⟩
  · cases hv; exact ⟨Nat.le_refl _, Nat.zero_le _⟩
  · cases hv; exact ⟨hnc, hcm⟩

end Go.Proofs.YtcokbogicbdoaaaDoor
namespace Go.Proofs.YtcokbogicbdoaaaDoor.G
open Go Go.RowKit
attribute [local go_sem ↓] Go.wp_at_zero Go.wp_at_succ


def lsnZ (x : List Int) : Int := x.getD 2 0 * 256 + x.getD 3 0
def rpD (no : Int) (x : List Int) : Option DG :=
  if x.length < 4 then none else if x.getD 0 0 = 112 ∧ x.getD 1 0 = no then (match okR (x.drop 4) with
    | none => none
    | some l => if okG ⟨lsnZ x, l⟩ then some ⟨lsnZ x, l⟩ else none) else none
theorem rp_lo {no : Int} {x : List Int} (h : x.length < 4) : rpD no x = none := by unfold rpD; rw [if_pos h]
theorem rp_mark {no : Int} {x : List Int} (h : ¬ (x.getD 0 0 = 112 ∧ x.getD 1 0 = no)) : rpD no x = none := by unfold rpD; rw [if_neg h]; split <;> rfl
theorem rp_form {no : Int} {x : List Int} (h : okR (x.drop 4) = none) : rpD no x = none := by unfold rpD; rw [h]; split; rfl; split <;> rfl
theorem rp_bad {no : Int} {x : List Int} {l : List ByteArray} (h : okR (x.drop 4) = some l) (h1 : okG ⟨lsnZ x, l⟩ = false) : rpD no x = none := by
  unfold rpD; rw [h]; simp only [h1]; split; rfl; split <;> rfl
theorem rp_yes {no : Int} {x : List Int} {l : List ByteArray} (h0 : ¬ x.length < 4) (hm : x.getD 0 0 = 112 ∧ x.getD 1 0 = no) (h : okR (x.drop 4) = some l) (h1 : okG ⟨lsnZ x, l⟩ = true) : rpD no x = some ⟨lsnZ x, l⟩ := by
  unfold rpD; rw [if_neg h0, if_pos hm, h]; simp only [h1, if_true]
theorem okR_of {zs : List Int} (hl : ¬ 65536 < zs.length) : (errR zs = 0 ∧ okR zs = some (resR zs)) ∨ (errR zs = 3 ∧ okR zs = none ∧ resR zs = []) := by
  cases ho : okR zs with
  | none => exact .inr ⟨(ansR3 hl ho).1, rfl, (ansR3 hl ho).2⟩
  | some l => exact .inl ⟨(ansR0 hl ho).1, by rw [(ansR0 hl ho).2]⟩
theorem eqMark (W : World) (x0 x1 y0 y1 : Int) : (Op.equalIn 10000 135 (.agg #[.int .u8 x0, .int .i64 x1]) (.agg #[.int .u8 y0, .int .i64 y1])).run Tryd.prog W = .ok (x0 == y0 && x1 == y1) W := by
  rw [run_equalIn_agg W 9999 135 _ _ (by kernel_rfl) (by kernel_rfl)]
  have hf : (Tryd.prog.fieldsOf 135).toList.map (fun f => (f.name, f.type, f.offset)) = [("letter", 5, 0), ("no", 3, 1)] := by kernel_rfl
  generalize (Tryd.prog.fieldsOf 135).toList = fs at hf
  have hl : fs.length = 2 := by simpa using congrArg List.length hf
  obtain ⟨f0, f1, rfl⟩ : ∃ f0 f1, fs = [f0, f1] := by
    rcases fs with _ | ⟨f0, _ | ⟨f1, _ | ⟨f2, r⟩⟩⟩
    · simp at hl
    · simp at hl
    · exact ⟨f0, f1, rfl⟩
    · simp at hl
  simp only [List.map_cons, List.map_nil, List.cons.injEq, Prod.mk.injEq, and_true] at hf
  obtain ⟨⟨n0, e0, o0⟩, n1, e1, o1⟩ := hf
  cases h0 : (x0 == y0) <;> cases h1 : (x1 == y1)
  all_goals simp [Op.eqFields, part, go_sem, n0, e0, o0, n1, e1, o1, h0, h1]

end Go.Proofs.YtcokbogicbdoaaaDoor.G
namespace Go.Proofs.YtcokbogicbdoaaaDoor
open Go Go.RowKit
attribute [local go_sem ↓] Go.wp_at_zero Go.wp_at_succ


def rdC2 (zs : List Int) : Int := if 65536 < zs.length then 2 else if unsB zs then (if (rrD (headZ zs)).isSome then 0 else 3) else 8
def rdR2 (zs : List Int) : DR := if 65536 < zs.length then zeroR else if unsB zs then (rrD (headZ zs)).getD zeroR else zeroR
theorem rq2 {zs : List Int} (h : 65536 < zs.length) : rdC2 zs = 2 ∧ rdR2 zs = zeroR := by unfold rdC2 rdR2; rw [if_pos h, if_pos h]; exact ⟨rfl, rfl⟩
theorem rq8 {zs : List Int} (h : ¬ 65536 < zs.length) (h1 : unsB zs = false) : rdC2 zs = 8 ∧ rdR2 zs = zeroR := by unfold rdC2 rdR2; rw [if_neg h, if_neg h, h1]; exact ⟨rfl, rfl⟩
theorem rq3 {zs : List Int} (h : ¬ 65536 < zs.length) (h1 : unsB zs = true) (h2 : rrD (headZ zs) = none) : rdC2 zs = 3 ∧ rdR2 zs = zeroR := by unfold rdC2 rdR2; rw [if_neg h, if_neg h, h1, h2]; exact ⟨rfl, rfl⟩
theorem rq0 {zs : List Int} {D : DR} (h : ¬ 65536 < zs.length) (h1 : unsB zs = true) (h2 : rrD (headZ zs) = some D) : rdC2 zs = 0 ∧ rdR2 zs = D := by unfold rdC2 rdR2; rw [if_neg h, if_neg h, h1, h2]; exact ⟨rfl, rfl⟩

end Go.Proofs.YtcokbogicbdoaaaDoor
namespace Go.Proofs.YtcokbogicbdoaaaDoor
open Go Go.RowKit
attribute [local go_sem ↓] Go.wp_at_zero Go.wp_at_succ


theorem conv_rdV {W : World} {zs : List Int} {c : Nat} {fr : Nat × Nat} (hz : ∀ z ∈ zs, 0 ≤ z ∧ z < 256) : RdV (W.alloc (.cells (bytesRow (strOfNums zs) c) 5 fr)) (some ⟨W.heap.size, 0, none⟩) zs.length (zs.map (Value.int .u8)) := by
  refine ⟨by simp, fun h => ⟨W.heap.size, 0, rfl, by simp, fun i hi => ?_⟩⟩
  have hb : (W.alloc (.cells (bytesRow (strOfNums zs) c) 5 fr)).heap[W.heap.size]? = some (.cells (bytesRow (strOfNums zs) c) 5 fr) := by
    show (W.heap.push _)[W.heap.size]? = _
    simp
  have hsz : i < (strOfNums zs).data.size := by have := strOfNums_size zs; rw [ByteArray.size] at this; omega
  rw [Nat.zero_add, cell_of_row _ W.heap.size i _ 5 fr hb, bytesRow_at _ _ _ hsz]
  have hs2 : i < (strOfNums zs).size := by rw [strOfNums_size]; exact hi
  rw [map_get _ _ 0 _ hi]
  exact congrArg (fun z => some (Value.int .u8 z)) (son_get (p := i) hz hs2)

end Go.Proofs.YtcokbogicbdoaaaDoor
