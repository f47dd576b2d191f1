/-
  Headers: the walk of the specification's HeaderBytes.
-/
import Derived.Test.YtkpopingbbaomaaGreatDoorZzab
import Derived.Test.YtkpopingbbaomaaGreatDoorZzad
import Derived.Test.YtkpopingbbaomaaGreatDoorZzai
import Derived.Test.YtkpopingbbaomaaGreatDoorZzaf
import Derived.Laws.StructEq
import Derived.Laws.IdiomStrings
import Derived.Test.YtkpopingbbaomaaGreatDoorShq
namespace Go.Proofs.YtkpopingbbaomaaGreatDoor
open Go Go.RowKit
attribute [local go_sem ↓] Go.wp_at_zero Go.wp_at_succ


/-- What a record says. -/
structure DR where
  e : Int
  l : Int
  t : Int
  k : Int
  p : Int
  n : Int
  g : Int
  s : Int
  b : ByteArray
  a : ByteArray
def agR (D : DR) : Array Value := #[.int .i64 D.e, .int .i64 D.l, .int .i64 D.t, .int .i64 D.k, .int .i64 D.p, .int .i64 D.n, .int .i64 D.g, .int .i64 D.s, .string D.b, .string D.a]
def noT : ByteArray := ⟨#[]⟩
def zeroR : DR := ⟨0, 0, 0, 0, 0, 0, 0, 0, noT, noT⟩
def placeB (g s : Int) : Bool := inB g 0 7 && inB s 0 3
def endB (D : DR) : Bool := inB D.t 1 60 && decide (D.p = 0 ∧ D.n = 0 ∧ D.g = 0 ∧ D.s = 0 ∧ D.b.size = 0 ∧ D.a.size = 0)
def prevB (D : DR) : Bool := inB D.p 1 (D.l - 1) && endB { D with p := 0 }
def clrB (D : DR) : Bool := placeB D.g D.s && (decide (D.a.size ≤ 30) && (inB D.n 0 (D.l - 1) && prevB { D with g := 0, s := 0, a := noT, n := 0 }))
def updB (D : DR) : Bool := decide (D.n = 0) && (decide (D.b.size ≤ 30) && clrB { D with b := noT })
def stepB (D : DR) : Bool := if D.k = 2 then updB D else if D.k = 3 then clrB D else if D.k = 4 ∨ D.k = 5 then prevB D else if D.k = 1 then endB D else false
/-- The bytes of a text, as numbers. -/
def numsT (t : ByteArray) : List Int := t.toList.map fun b => (b.toNat : Int)
def prs (n : Nat) (r : List Int) : List (Int × Int) := (List.range n).map fun i => (r.getD (2 * i) 0, r.getD (2 * i + 1) 0)
def rc1 : List Int → Option (List (Int × Int) × List Int)
  | [] => none
  | z :: r => if r.length < 2 * z.toNat then none else some (prs z.toNat r, r.drop (2 * z.toNat))
def rg : List (Int × Int) → Int → Int → Int → Bool
  | [], _, _, _ => true
  | c :: r, lo, hi, l => inB c.1 lo hi && (inB c.2 1 (l - 1) && rg r (c.1 + 1) hi l)
def rc2 (t : List Int) : Option (List (Int × Int) × List (Int × Int)) :=
  match rc1 t with
  | none => none
  | some (ps, r) => match rc1 r with
    | none => none
    | some (ts, r') => if r' = [] then some (ps, ts) else none
def ckB (t : List Int) (l : Int) : Bool :=
  match rc2 t with
  | none => false
  | some (ps, ts) => decide (ts.length ≤ 10) && (rg ps 0 7 l && rg ts 1 60 l)
def plainB (D : DR) : Bool := decide (D.t = 0 ∧ D.k = 6 ∧ D.p = 0 ∧ D.n = 0 ∧ D.g = 0 ∧ D.s = 0 ∧ D.b.size = 0)
def checkB (D : DR) : Bool := plainB D && ckB (numsT D.a) D.l
def okLR (D : DR) : Bool := inB D.e 1 60 && (inB D.l 1 60 && (stepB D || checkB D))

/-! The specification's way. -/
def rgS : List (Int × Int) → Option Int → Int → Int → Int → Bool
  | [], _, _, _, _ => true
  | c :: r, q, lo, hi, l => inB c.1 lo hi && (inB c.2 1 (l - 1) && ((match q with | none => true | some q => decide (q < c.1)) && rgS r (some c.1) lo hi l))
theorem rgS_some : ∀ (ds : List (Int × Int)) (q lo hi l : Int), lo ≤ q + 1 → rgS ds (some q) lo hi l = rg ds (q + 1) hi l
  | [], _, _, _, _, _ => rfl
  | c :: r, q, lo, hi, l, h => by
    unfold rgS rg
    by_cases h1 : q + 1 ≤ c.1
    · rw [rgS_some r c.1 lo hi l (by omega)]
      have e1 : inB c.1 lo hi = inB c.1 (q + 1) hi := by unfold inB; exact decide_eq_decide.2 (by omega)
      have e2 : (q < c.1) := (by omega)
      rw [e1]
      simp [e2]
    · have e1 : inB c.1 (q + 1) hi = false := by unfold inB; exact decide_eq_false (by omega)
      have e2 : ¬ (q < c.1) := (by omega)
      rw [e1]
      simp [e2]
theorem rgS_none (ds : List (Int × Int)) (lo hi l : Int) : rgS ds none lo hi l = rg ds lo hi l := by
  cases ds with
  | nil => rfl
  | cons c r =>
    unfold rgS rg
    by_cases h1 : lo ≤ c.1
    · rw [rgS_some r c.1 lo hi l (by omega)]
      simp
    · have e1 : inB c.1 lo hi = false := by unfold inB; exact decide_eq_false (by omega)
      rw [e1]
      simp
theorem rg_len : ∀ (ds : List (Int × Int)) (lo hi l : Int), rg ds lo hi l = true → lo ≤ hi + 1 → (ds.length : Int) ≤ hi + 1 - lo
  | [], _, _, _, _, h => by simp; omega
  | c :: r, lo, hi, l, h, _ => by
    unfold rg at h
    simp only [Bool.and_eq_true] at h
    have h1 : lo ≤ c.1 ∧ c.1 ≤ hi := by simpa [inB] using h.1
    have := rg_len r (c.1 + 1) hi l h.2.2 (by omega)
    simp
    omega
def chgB (D : DR) : Bool := decide (D.k = 2 ∨ D.k = 3)
def okLS (D : DR) : Bool :=
  if inB D.e 1 60 && (inB D.l 1 60 && (inB D.k 1 6 && (inB D.p 0 (D.l - 1) && (inB D.n 0 (D.l - 1) && (inB D.g 0 7 && (inB D.s 0 3 && decide (D.b.size ≤ 30))))))) then
    (if D.k = 6 then decide (D.t = 0 ∧ D.p = 0 ∧ D.n = 0 ∧ D.g = 0 ∧ D.s = 0 ∧ D.b.size = 0) && ckB (numsT D.a) D.l
     else if inB D.t 1 60 && decide (D.a.size ≤ 30) then
       (if (¬ (D.k = 2 ∨ D.k = 3) ∧ (D.g ≠ 0 ∨ D.s ≠ 0 ∨ D.b.size ≠ 0 ∨ D.a.size ≠ 0)) ∨ (D.k ≠ 3 ∧ D.n ≠ 0) ∨ (D.k = 3 ∧ D.b.size ≠ 0) then false
        else decide ((D.k = 1) ↔ (D.p = 0)))
     else false)
  else false
theorem okLS_eq (D : DR) : okLS D = okLR D := by
  obtain ⟨e, l, t, k, p, n, g, s, b, a⟩ := D
  have hn : noT.size = 0 := rfl
  generalize hc : ckB (numsT a) l = c
  unfold okLS okLR checkB plainB stepB updB clrB prevB endB placeB inB
  simp only [hc]
  generalize hbs : b.size = bs
  generalize has : a.size = az
  clear hc hbs has
  simp only [hn]
  rw [Bool.eq_iff_iff]
  by_cases k6 : k = 6
  · subst k6
    cases c <;> simp <;> omega
  · by_cases k2 : k = 2
    · subst k2; simp; omega
    · by_cases k3 : k = 3
      · subst k3; simp; omega
      · by_cases k4 : k = 4
        · subst k4; simp; omega
        · by_cases k5 : k = 5
          · subst k5; simp; omega
          · by_cases k1 : k = 1
            · subst k1; simp; omega
            · simp [k1, k2, k3, k4, k5, k6]; omega

end Go.Proofs.YtkpopingbbaomaaGreatDoor
namespace Go.Proofs.YtkpopingbbaomaaGreatDoor
open Go Go.RowKit
attribute [local go_sem ↓] Go.wp_at_zero Go.wp_at_succ

/-! ### Fields that are read are those that were written, and the other way round. -/
theorem strZ_back (s : ByteArray) : strOfNums (strZ s) = s := by
  unfold strOfNums strZ
  rw [List.map_map]
  have : s.data.toList.map ((fun n : Int => UInt8.ofNat n.toNat) ∘ fun b => (b.toNat : Int)) = s.data.toList := by
    conv => rhs; rw [← List.map_id s.data.toList]
    apply List.map_congr_left
    intro b _
    simp
  rw [this]
theorem strZ_of {xs : List Int} (h : ∀ z ∈ xs, 0 ≤ z ∧ z < 256) : strZ (strOfNums xs) = xs := by
  unfold strOfNums strZ
  rw [List.map_map]
  conv => rhs; rw [← List.map_id xs]
  apply List.map_congr_left
  intro z hz
  have := h z hz
  simp only [Function.comp_apply, UInt8.toNat_ofNat', id_eq]
  omega
def fl (ss : List ByteArray) : List Int := (ss.map fun s => (s.size : Int) :: strZ s).flatten
theorem fl_cons (s : ByteArray) (ss : List ByteArray) : fl (s :: ss) = (s.size : Int) :: (strZ s ++ fl ss) := by simp [fl]
theorem rd_fl : ∀ ss : List ByteArray, rd ss.length (fl ss) = some ss
  | [] => rfl
  | s :: ss => by
    rw [fl_cons, List.length_cons, rd_step (by rw [List.length_append, strZ_len]; simp)]
    have e : ((s.size : Int)).toNat = (strZ s).length := by rw [strZ_len]; simp
    rw [e, List.drop_left, List.take_left, rd_fl ss, strZ_back]
    rfl
theorem fl_rd : ∀ (c : Nat) (zs : List Int) (l : List ByteArray), (∀ z ∈ zs, 0 ≤ z ∧ z < 256) → rd c zs = some l → l.length = c ∧ fl l = zs ∧ ∀ s ∈ l, s.size ≤ 255
  | 0, [], l, _, h => by simp [rd] at h; subst h; exact ⟨rfl, rfl, fun _ h => by cases h⟩
  | 0, _ :: _, _, _, h => by simp [rd] at h
  | _ + 1, [], _, _, h => by simp [rd] at h
  | c + 1, z :: r, l, hz, h => by
    rw [rd] at h
    split at h
    · cases h
    · rename_i hlt
      obtain ⟨l', h1, rfl⟩ := Option.map_eq_some_iff.1 h
      have hz0 := hz z (List.mem_cons_self ..)
      have hr : ∀ y ∈ r, 0 ≤ y ∧ y < 256 := fun y hy => hz y (List.mem_cons_of_mem _ hy)
      obtain ⟨q1, q2, q3⟩ := fl_rd c _ l' (fun y hy => hr y (List.mem_of_mem_drop hy)) h1
      have hs : (strOfNums (r.take z.toNat)).size = z.toNat := by rw [strOfNums_size, List.length_take]; omega
      refine ⟨by simp [q1], ?_, fun s hs' => ?_⟩
      · rw [fl_cons, hs, strZ_of (fun y hy => hr y (List.mem_of_mem_take hy)), q2, List.take_append_drop]
        congr 1
        omega
      · rcases List.mem_cons.1 hs' with rfl | h'
        · rw [hs]; omega
        · exact q3 s h'
theorem fbZ_fl (ss : List ByteArray) (n : Nat) (hl : ss.length = n) : fbZ ss n n = (n : Int) :: fl ss := by unfold fbZ fl; rw [← hl, List.take_length]
theorem okF_of {ss : List ByteArray} (h : ∀ s ∈ ss, s.size ≤ 255) (n : Nat) : okF ss n = true := by
  unfold okF
  rw [List.all_eq_true]
  exact fun s hs => decide_eq_true (h s (List.mem_of_mem_take hs))
theorem bytes_fb {ss : List ByteArray} {n : Nat} (hn : n ≤ 100) (hs : ∀ s ∈ ss, s.size ≤ 255) : ∀ z ∈ fbZ ss n n, 0 ≤ z ∧ z < 256 := by
  intro z hz
  unfold fbZ at hz
  rcases List.mem_cons.1 hz with rfl | hz
  · omega
  · obtain ⟨l, hl, hzl⟩ := List.mem_flatten.1 hz
    obtain ⟨s, hs', rfl⟩ := List.mem_map.1 hl
    rcases List.mem_cons.1 hzl with rfl | hz'
    · have := hs s (List.mem_of_mem_take hs'); omega
    · obtain ⟨b, _, rfl⟩ := List.mem_map.1 hz'
      have := b.toNat_lt
      omega
/-- What is written is read back. -/
theorem write_read {ss : List ByteArray} {n : Nat} (hl : ss.length = n) (hn : n ≤ 100) (hs : ∀ s ∈ ss, s.size ≤ 255) : errF ss n = 0 ∧ resF ss n = fbZ ss n n ∧ errR (fbZ ss n n) = 0 ∧ resR (fbZ ss n n) = ss := by
  have h0 := err0 (show ¬ 100 < n by omega) (okF_of hs n)
  refine ⟨h0.1, h0.2, ?_⟩
  have hlen := fbZ_len (n := n) n (by omega) (okF_of hs n)
  refine ansR0 (by omega) ?_
  rw [fbZ_fl ss n hl]
  show (if 100 < (n : Int) then none else rd (n : Int).toNat (fl ss)) = some ss
  rw [if_neg (by omega), Int.toNat_natCast, ← hl, rd_fl]
/-- What is read is written back. -/
theorem read_write {zs : List Int} (hz : ∀ z ∈ zs, 0 ≤ z ∧ z < 256) (h : errR zs = 0) : errF (resR zs) (resR zs).length = 0 ∧ resF (resR zs) (resR zs).length = zs ∧ (resR zs).length ≤ 100 ∧ ∀ s ∈ resR zs, s.size ≤ 255 := by
  unfold errR at h
  by_cases h1 : 65536 < zs.length
  · rw [if_pos h1] at h; cases h
  rw [if_neg h1] at h
  have er : resR zs = (okR zs).getD [] := by unfold resR; rw [if_neg h1]
  cases ho : okR zs with
  | none => rw [ho] at h; cases h
  | some l =>
    rw [ho] at er
    simp only [Option.getD_some] at er
    rw [er]
    cases zs with
    | nil => cases ho
    | cons z r =>
      have ho' : (if 100 < z then none else rd z.toNat r) = some l := ho
      by_cases h100 : 100 < z
      · rw [if_pos h100] at ho'; cases ho'
      rw [if_neg h100] at ho'
      have hz0 := hz z (List.mem_cons_self ..)
      obtain ⟨q1, q2, q3⟩ := fl_rd _ _ _ (fun y hy => hz y (List.mem_cons_of_mem _ hy)) ho'
      have h0 := err0 (ss := l) (n := l.length) (by omega) (okF_of q3 _)
      refine ⟨h0.1, ?_, by omega, q3⟩
      rw [h0.2, fbZ_fl l _ rfl, q2]
      congr 1
      omega
theorem own_cap {w : World} {base e size n m cap : Nat} {a : Option Addr} {xs : List Value} (h : w.ownsRow base e size (.slice a m cap) n xs) : m ≤ cap ∧ cap ≤ maxLen := by
  rcases h.2 with ⟨hv, h0⟩ | ⟨g, cap', cur, hv, hb, hg, hnc, hcm, hcs, htake⟩
  · cases hv; exact ⟨Nat.le_refl _, Nat.zero_le _⟩
  · cases hv; exact ⟨hnc, hcm⟩

end Go.Proofs.YtkpopingbbaomaaGreatDoor
namespace Go.Proofs.YtkpopingbbaomaaGreatDoor.G
open Go Go.RowKit
attribute [local go_sem ↓] Go.wp_at_zero Go.wp_at_succ


def lsnZ (x : List Int) : Int := x.getD 2 0 * 256 + x.getD 3 0
def rpD (no : Int) (x : List Int) : Option DG :=
  if x.length < 4 then none else if x.getD 0 0 = 112 ∧ x.getD 1 0 = no then (match okR (x.drop 4) with
    | none => none
    | some l => if okG ⟨lsnZ x, l⟩ then some ⟨lsnZ x, l⟩ else none) else none
theorem rp_lo {no : Int} {x : List Int} (h : x.length < 4) : rpD no x = none := by unfold rpD; rw [if_pos h]
theorem rp_mark {no : Int} {x : List Int} (h : ¬ (x.getD 0 0 = 112 ∧ x.getD 1 0 = no)) : rpD no x = none := by unfold rpD; rw [if_neg h]; split <;> rfl
theorem rp_form {no : Int} {x : List Int} (h : okR (x.drop 4) = none) : rpD no x = none := by unfold rpD; rw [h]; split; rfl; split <;> rfl
theorem rp_bad {no : Int} {x : List Int} {l : List ByteArray} (h : okR (x.drop 4) = some l) (h1 : okG ⟨lsnZ x, l⟩ = false) : rpD no x = none := by
  unfold rpD; rw [h]; simp only [h1]; split; rfl; split <;> rfl
theorem rp_yes {no : Int} {x : List Int} {l : List ByteArray} (h0 : ¬ x.length < 4) (hm : x.getD 0 0 = 112 ∧ x.getD 1 0 = no) (h : okR (x.drop 4) = some l) (h1 : okG ⟨lsnZ x, l⟩ = true) : rpD no x = some ⟨lsnZ x, l⟩ := by
  unfold rpD; rw [if_neg h0, if_pos hm, h]; simp only [h1, if_true]
theorem okR_of {zs : List Int} (hl : ¬ 65536 < zs.length) : (errR zs = 0 ∧ okR zs = some (resR zs)) ∨ (errR zs = 3 ∧ okR zs = none ∧ resR zs = []) := by
  cases ho : okR zs with
  | none => exact .inr ⟨(ansR3 hl ho).1, rfl, (ansR3 hl ho).2⟩
  | some l => exact .inl ⟨(ansR0 hl ho).1, by rw [(ansR0 hl ho).2]⟩
theorem eqMark (W : World) (x0 x1 y0 y1 : Int) : (Op.equalIn 10000 373 (.agg #[.int .u8 x0, .int .i64 x1]) (.agg #[.int .u8 y0, .int .i64 y1])).run Tryz.prog W = .ok (x0 == y0 && x1 == y1) W := by
  rw [run_equalIn_agg W 9999 373 _ _ (by kernel_rfl) (by kernel_rfl)]
  have hf : (Tryz.prog.fieldsOf 373).toList.map (fun f => (f.name, f.type, f.offset)) = [("letter", 5, 0), ("no", 3, 1)] := by kernel_rfl
  generalize (Tryz.prog.fieldsOf 373).toList = fs at hf
  have hl : fs.length = 2 := by simpa using congrArg List.length hf
  obtain ⟨f0, f1, rfl⟩ : ∃ f0 f1, fs = [f0, f1] := by
    rcases fs with _ | ⟨f0, _ | ⟨f1, _ | ⟨f2, r⟩⟩⟩
    · simp at hl
    · simp at hl
    · exact ⟨f0, f1, rfl⟩
    · simp at hl
  simp only [List.map_cons, List.map_nil, List.cons.injEq, Prod.mk.injEq, and_true] at hf
  obtain ⟨⟨n0, e0, o0⟩, n1, e1, o1⟩ := hf
  cases h0 : (x0 == y0) <;> cases h1 : (x1 == y1)
  all_goals simp [Op.eqFields, part, go_sem, n0, e0, o0, n1, e1, o1, h0, h1]

end Go.Proofs.YtkpopingbbaomaaGreatDoor.G
namespace Go.Proofs.YtkpopingbbaomaaGreatDoor
open Go Go.RowKit
attribute [local go_sem ↓] Go.wp_at_zero Go.wp_at_succ


def ofL (ts : List Int) : Int := ts.foldl (fun n z => n * 256 + z) 0
theorem ofL_take {ts : List Int} {k : Nat} (h : k < ts.length) : ofL (ts.take (k + 1)) = ofL (ts.take k) * 256 + ts.getD k 0 := by
  unfold ofL
  rw [List.take_succ_eq_append_getElem h, List.foldl_append, List.getD_eq_getElem?_getD, List.getElem?_eq_getElem h]
  rfl
theorem ofL_bd {ts : List Int} (hz : ∀ z ∈ ts, 0 ≤ z ∧ z < 256) : ∀ k, k ≤ ts.length → 0 ≤ ofL (ts.take k) ∧ ofL (ts.take k) < 256 ^ k
  | 0, _ => by simp [ofL]
  | k + 1, h => by
    have h1 := ofL_bd hz k (by omega)
    have h2 := hz (ts.getD k 0) (by rw [List.getD_eq_getElem?_getD, List.getElem?_eq_getElem (by omega)]; exact List.getElem_mem _)
    rw [ofL_take (by omega), Int.pow_succ]
    omega
set_option maxRecDepth 100000 in
set_option maxHeartbeats 2000000 in
theorem c_of (ts : List Int) (w : World) (hz : ∀ z ∈ ts, 0 ≤ z ∧ z < 256) (hn : ts.length ≤ 4) :
    Calls Tryz.prog 267 #[.string (strOfNums ts)] w fun e w' => e = .returned (.int .i64 (ofL ts)) ∧ w' = w := by
  obtain ⟨t, ht⟩ : ∃ t, t = strOfNums ts := ⟨_, rfl⟩
  rw [← ht]
  have hts : t.size = ts.length := by rw [ht, strOfNums_size]
  have HG : Hid (∀ p (h : p < t.size), ((t[p]'h).toNat : Int) = ts.getD p 0) := by
    intro p h; subst ht; exact son_get hz h
  have HZ : Hid (∀ z ∈ ts, 0 ≤ z ∧ z < 256) := hz
  have HTS : Hid (t.size = ts.length) := hts
  have hn4 : t.size ≤ 4 := by omega
  clear ht hz hts hn
  go_enter Tryz.func267, Tryz.ntmps267
  go_wp2
  go_loop [3, 4] (fun m i => ∃ k : Nat, k ≤ t.size ∧ i = .int .i64 k ∧ m = .int .i64 (ofL (ts.take k))) (fun _ i => t.size - (intOf i).toNat)
  case atStart => exact ⟨0, by omega, rfl, rfl⟩
  case round =>
    obtain ⟨k, hk, rfl, rfl⟩ := hrel
    obtain ⟨m, hm⟩ : ∃ m, m = ofL (ts.take k) := ⟨_, rfl⟩
    rw [← hm]
    have hmb : 0 ≤ m ∧ m < 4294967296 := by
      have h1 := ofL_bd HZ.out k (by have := HTS.out; omega)
      rw [← hm] at h1
      have hk4 : k = 0 ∨ k = 1 ∨ k = 2 ∨ k = 3 ∨ k = 4 := by omega
      rcases hk4 with rfl | rfl | rfl | rfl | rfl <;> simp at h1 <;> omega
    have HM : Hid (m = ofL (ts.take k)) := hm
    clear hm
    by_cases hlt : k < t.size
    · obtain ⟨z, hz⟩ : ∃ z : Int, z = ((t[k]'hlt).toNat : Int) := ⟨_, rfl⟩
      have hzb : 0 ≤ z ∧ z < 256 := by rw [hz]; have := (t[k]'hlt).toNat_lt; omega
      have HS : Hid (ofL (ts.take (k + 1)) = m * 256 + z) := by unfold Hid; rw [ofL_take (by have := HTS.out; omega), HM.out, ← HG.out k hlt, hz]
      have hix : ∀ wx : World, (Instr.index 9 (.string t) (.int .i64 (k : Int))).run Tryz.prog wx = .ok (.int .u8 z) wx := fun wx => by
        rw [run_index_string _ _ _ _ _ Tryz.underlying9, hz]
        simp [hlt]
      clear hz
      go_wp2
      go_round
      case rel => exact ⟨k + 1, by omega, by go_num, by rw [HS.out]⟩
      case measure => simp [intOf]; omega
    · have e : k = t.size := by omega
      have E : Hid (m = ofL ts) := by unfold Hid; rw [HM.out, List.take_of_length_le (by have := HTS.out; omega)]
      clear e
      go_wp2
      go_ret
      exact ⟨ret_int E.out, rfl⟩
theorem of_sum {zs : List Int} (h4 : 4 ≤ zs.length) (hz : ∀ z ∈ zs, 0 ≤ z ∧ z < 256) : (((Crc.crc (headZ zs) : Nat) : Int) != ofL (tailZ zs)) = !unsB zs := by
  obtain ⟨t0, t1, t2, t3, ht, e0, e1, e2, e3⟩ := tail4 h4
  have hb : ∀ z ∈ tailZ zs, 0 ≤ z ∧ z < 256 := fun z h => hz z (List.mem_of_mem_drop h)
  rw [ht] at hb
  have b0 := hb t0 (by simp)
  have b1 := hb t1 (by simp)
  have b2 := hb t2 (by simp)
  have b3 := hb t3 (by simp)
  have hc := crc_lt (headZ zs) (head_bytes hz)
  have hl : ofL (tailZ zs) = ((t0 * 256 + t1) * 256 + t2) * 256 + t3 := by rw [ht]; simp [ofL]
  generalize hC : Crc.crc (headZ zs) = C at hc
  by_cases h : ((C : Nat) : Int) = ofL (tailZ zs)
  · have : unsB zs = true := uns_yes h4 (by
      rw [hC, ht]
      rw [hl] at h
      unfold sumZ
      congr 1; omega
      congr 1; omega
      congr 1; omega
      congr 1; omega)
    rw [this]; simp [h]
  · have : unsB zs = false := uns_no (fun e => h (by
      rw [hC, ht] at e
      simp [sumZ] at e
      rw [hl]
      omega))
    rw [this]; simp [h]
def unsT (zs : List Int) (u : Bool) : ByteArray := if u then strOfNums (headZ zs) else ⟨#[]⟩
theorem conv_rd {W : World} {zs : List Int} {c : Nat} {fr : Nat × Nat} (hz : ∀ z ∈ zs, 0 ≤ z ∧ z < 256) : Rd (W.alloc (.cells (bytesRow (strOfNums zs) c) 5 fr)).drew.drew (some ⟨W.heap.size, 0, none⟩) zs.length zs := by
  refine ⟨rfl, hz, fun h => ⟨W.heap.size, 0, rfl, fun i hi => ?_⟩⟩
  have hb : (W.alloc (.cells (bytesRow (strOfNums zs) c) 5 fr)).drew.drew.heap[W.heap.size]? = some (.cells (bytesRow (strOfNums zs) c) 5 fr) := by
    show (W.heap.push _)[W.heap.size]? = _
    simp
  have hsz : i < (strOfNums zs).data.size := by have := strOfNums_size zs; rw [ByteArray.size] at this; omega
  rw [Nat.zero_add, cell_of_row _ W.heap.size i _ 5 fr hb, bytesRow_at _ _ _ hsz]
  have hs2 : i < (strOfNums zs).size := by rw [strOfNums_size]; exact hi
  exact congrArg (fun z => some (Value.int .u8 z)) (son_get (p := i) hz hs2)
theorem headZ_len {zs : List Int} : (headZ zs).length = zs.length - 4 := by unfold headZ; rw [List.length_take]; omega
theorem cut_head {zs : List Int} : (strOfNums zs).extract 0 (zs.length - 4) = strOfNums (headZ zs) := by rw [son_cut]; rfl
theorem cut_tail {zs : List Int} : (strOfNums zs).extract (zs.length - 4) zs.length = strOfNums (tailZ zs) := by
  rw [son_cut]
  unfold tailZ
  rw [List.take_of_length_le (by rw [List.length_drop]; omega)]
theorem c_unsealS_lo (zs : List Int) (w : World) (h4 : zs.length < 4) :
    Calls Tryz.prog 265 #[.string (strOfNums zs)] w fun e w' => e = .returned (.tuple #[.string ⟨#[]⟩, .bool false]) ∧ ∃ q, w' = w.drewN q := by
  obtain ⟨t, ht⟩ : ∃ t, t = strOfNums zs := ⟨_, rfl⟩
  rw [← ht]
  have hts : t.size = zs.length := by rw [ht, strOfNums_size]
  have z0 : (t.size : Int) - 4 < 0 := by omega
  have z1 : (t.size : Int) < 4 := by omega
  clear ht hts h4
  go_enter Tryz.func265, Tryz.ntmps265
  go_wp2_with fail
  go_quiet (fail)
  go_wp2
  go_ret2
  exact ⟨rfl, _, rfl⟩

end Go.Proofs.YtkpopingbbaomaaGreatDoor
namespace Go.Proofs.YtkpopingbbaomaaGreatDoor
open Go Go.RowKit
attribute [local go_sem ↓] Go.wp_at_zero Go.wp_at_succ


def hbZ (n : Int) : List Int := [104, n]
def hbR (n : Int) : List Int := if inB n 0 60 then hbZ n ++ sumZ (Crc.crc (hbZ n) : Nat) else []
def hbC (n : Int) : Int := if inB n 0 60 then 0 else 4
theorem hb4 {n : Int} (h : inB n 0 60 = false) : hbC n = 4 ∧ hbR n = [] := by unfold hbC hbR; rw [h]; exact ⟨rfl, rfl⟩
theorem hb0 {n : Int} (h : inB n 0 60 = true) : hbC n = 0 ∧ hbR n = hbZ n ++ sumZ (Crc.crc (hbZ n) : Nat) := by unfold hbC hbR; rw [h]; exact ⟨rfl, rfl⟩
theorem hb_bytes {n : Int} (h : inB n 0 60 = true) : ∀ z ∈ hbZ n, 0 ≤ z ∧ z < 256 := by
  have h1 : 0 ≤ n ∧ n ≤ 60 := by simpa [inB] using h
  intro z hz
  simp [hbZ] at hz
  rcases hz with rfl | rfl <;> omega
theorem hbR_fit (n : Int) : (hbR n).length ≤ 1048576 := by
  cases h : inB n 0 60
  · rw [(hb4 h).2]; simp
  · rw [(hb0 h).2]; simp [hbZ, sumZ]
theorem c_epoch (n : Int) (w : World) : Calls Tryz.prog 235 #[.int .i64 n] w fun e w' => e = .returned (.bool (inB n 0 60)) ∧ w' = w := by
  by_cases h1 : 0 ≤ n <;> by_cases h2 : n ≤ 60
  all_goals
    go_enter Tryz.func235, Tryz.ntmps235
    go_wp2
    go_ret
    exact ⟨ret_bool (by simp [inB, h1, h2]), rfl⟩
end Go.Proofs.YtkpopingbbaomaaGreatDoor
namespace Go.Proofs.YtkpopingbbaomaaGreatDoor
open Go Go.RowKit
attribute [local go_sem ↓] Go.wp_at_zero Go.wp_at_succ


theorem conv_rdV {W : World} {zs : List Int} {c : Nat} {fr : Nat × Nat} (hz : ∀ z ∈ zs, 0 ≤ z ∧ z < 256) : RdV (W.alloc (.cells (bytesRow (strOfNums zs) c) 5 fr)) (some ⟨W.heap.size, 0, none⟩) zs.length (zs.map (Value.int .u8)) := by
  refine ⟨by simp, fun h => ⟨W.heap.size, 0, rfl, by simp, fun i hi => ?_⟩⟩
  have hb : (W.alloc (.cells (bytesRow (strOfNums zs) c) 5 fr)).heap[W.heap.size]? = some (.cells (bytesRow (strOfNums zs) c) 5 fr) := by
    show (W.heap.push _)[W.heap.size]? = _
    simp
  have hsz : i < (strOfNums zs).data.size := by have := strOfNums_size zs; rw [ByteArray.size] at this; omega
  rw [Nat.zero_add, cell_of_row _ W.heap.size i _ 5 fr hb, bytesRow_at _ _ _ hsz]
  have hs2 : i < (strOfNums zs).size := by rw [strOfNums_size]; exact hi
  rw [map_get _ _ 0 _ hi]
  exact congrArg (fun z => some (Value.int .u8 z)) (son_get (p := i) hz hs2)

end Go.Proofs.YtkpopingbbaomaaGreatDoor
