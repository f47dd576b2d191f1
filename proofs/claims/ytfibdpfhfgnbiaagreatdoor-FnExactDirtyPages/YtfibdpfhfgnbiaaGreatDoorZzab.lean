/-
  Sums of bytes as four bytes, and bytes with their sum behind.
-/
import Derived.Test.YtfibdpfhfgnbiaaGreatDoorZzaa
import Derived.Laws.AppendOwn
import Derived.Laws.AppendOwnNone
import Derived.Maps.AppendAt
import Derived.Laws.BitsAllLaws
import Derived.Lib.AppendStr
import Derived.Deep.AppendLies
import Derived.Deep.RegionLawGrows
namespace Go.Proofs.YtfibdpfhfgnbiaaGreatDoor
open Go Go.RowKit
attribute [local go_sem ↓] Go.wp_at_zero Go.wp_at_succ

def ob (a : Option Addr) : Option Nat := a.map Addr.block
theorem ob_slice (a : Option Addr) (n c : Nat) : (Value.slice a n c).ownBlock = ob a := by cases a <;> rfl
theorem own_same {w w' : World} {base e size n : Nat} {v : Value} {xs : List Value} (h : w.ownsRow base e size v n xs) (hs : ∀ g, v.ownBlock = some g → w'.heap[g]? = w.heap[g]?) : w'.ownsRow base e size v n xs := by
  obtain ⟨h1, h2⟩ := h
  refine ⟨h1, ?_⟩
  rcases h2 with h0 | ⟨g, cap, cur, hv, hb, hg, hr⟩
  · exact .inl h0
  · exact .inr ⟨g, cap, cur, hv, hb, (hs g (by rw [hv]; rfl)).trans hg, hr⟩
theorem _root_.Go.World.ownsRow.down {w : World} {B B' e size n : Nat} {v : Value} {xs : List Value} (h : w.ownsRow B e size v n xs) (hb : B' ≤ B) : w.ownsRow B' e size v n xs := by
  obtain ⟨k1, k2⟩ := h
  rcases k2 with h0 | ⟨g, cap, cur, hv, hb', hr⟩
  · exact ⟨k1, .inl h0⟩
  · exact ⟨k1, .inr ⟨g, cap, cur, hv, by omega, hr⟩⟩
structure Inn (B E : Nat) (w w' : World) : Prop where
  os : w'.os = w.os
  tape : w'.tape = w.tape
  output : w'.output = w.output
  size : w.heap.size ≤ w'.heap.size
  block : ∀ k, k < w.heap.size → (k < B ∨ E ≤ k) → w'.heap[k]? = w.heap[k]?
theorem Inn.trans {B E : Nat} {a b c : World} (h : Inn B E a b) (k : Inn B E b c) : Inn B E a c :=
  ⟨k.os.trans h.os, k.tape.trans h.tape, k.output.trans h.output, Nat.le_trans h.size k.size, fun i hi ho => (k.block i (Nat.lt_of_lt_of_le hi h.size) ho).trans (h.block i hi ho)⟩
theorem Inn.of_below {B E : Nat} {w w' : World} (h : Below w.heap.size w w') : Inn B E w w' := ⟨h.os, h.tape, h.output, h.size, fun k hk _ => h.block k hk⟩
theorem Inn.of_grown {B E : Nat} {w w' : World} {row : Option Nat} (h : w.grownBy w' row) (hr : ∀ g, row = some g → B ≤ g ∧ g < E) : Inn B E w w' :=
  ⟨h.os, h.tape, h.output, h.size, fun k hk ho => h.block k hk (fun e => by have := hr k e.symm; omega)⟩
theorem Inn.below {B E b : Nat} {w w' : World} (h : Inn B E w w') (hb : b ≤ B) (hw : b ≤ w.heap.size) : Below b w w' := ⟨h.os, h.tape, h.output, h.size, fun k hk => h.block k (by omega) (.inl (by omega))⟩
def Box (w : World) (g : Nat) (t : TypeId) (c : Array Value) : Prop := w.heap[g]? = some (.cells c t)
theorem Box.new (w : World) (c : Array Value) (t : TypeId) : Box (w.alloc (.cells c t)) w.heap.size t c := by
  unfold Box; show (w.heap.push _)[w.heap.size]? = _; simp
theorem Box.new2 (w : World) (o : Obj) (c : Array Value) (t : TypeId) : Box ((w.alloc o).alloc (.cells c t)) (w.heap.size + 1) t c := by
  have e : (w.alloc o).heap.size = w.heap.size + 1 := by simp
  have := Box.new (w.alloc o) c t
  rwa [e] at this
theorem Box.lt {w : World} {g : Nat} {t : TypeId} {c : Array Value} (h : Box w g t c) : g < w.heap.size := by
  rcases Nat.lt_or_ge g w.heap.size with h1 | h1
  · exact h1
  · unfold Box at h; rw [Array.getElem?_eq_none h1] at h; cases h
theorem Box.below {w w' : World} {g B : Nat} {t : TypeId} {c : Array Value} (h : Box w g t c) (hb : Below B w w') (hg : g < B) : Box w' g t c := (hb.block g hg).trans h
theorem Box.belowS {w w' : World} {g : Nat} {t : TypeId} {c : Array Value} (h : Box w g t c) (hb : Below w.heap.size w w') : Box w' g t c := (hb.block g h.lt).trans h
theorem Box.alloc {w : World} {g : Nat} {t : TypeId} {c : Array Value} (h : Box w g t c) (o : Obj) : Box (w.alloc o) g t c := (Below.heap_alloc w o g h.lt).trans h
theorem Box.drewN {w : World} {g : Nat} {t : TypeId} {c : Array Value} (h : Box w g t c) (q : Nat) : Box (w.drewN q) g t c := h
theorem Box.cell {w : World} {g : Nat} {t : TypeId} {c : Array Value} (h : Box w g t c) (i : Nat) : w.cell? ⟨g, i, none⟩ = c[i]? := by unfold Box at h; simp [World.cell?, h]
theorem Box.thaw {w : World} {g : Nat} {t : TypeId} {c : Array Value} (h : Box w g t c) (i : Nat) : w.frozen? ⟨g, i, none⟩ = false := by unfold Box at h; simp [World.frozen?, h]
theorem Box.set {w : World} {g : Nat} {t : TypeId} {c : Array Value} (h : Box w g t c) (i : Nat) (v : Value) : Box (w.setCell ⟨g, i, none⟩ v) g t (c.setIfInBounds i v) := by
  unfold Box at *; simp [World.setCell, Array.getElem?_modify, h]
theorem Box.setOther {w : World} {g : Nat} {t : TypeId} {c : Array Value} (h : Box w g t c) (p : Addr) (v : Value) (hp : g ≠ p.block) : Box (w.setCell p v) g t c := (Below.heap_setCell w p v g hp).trans h
theorem Box.inn {w w' : World} {g B E : Nat} {t : TypeId} {c : Array Value} (h : Box w g t c) (hb : Inn B E w w') (hg : E ≤ g) : Box w' g t c := (hb.block g h.lt (.inr hg)).trans h
theorem addr_add (b off i : Nat) : (⟨b, off, none⟩ : Addr).add i = ⟨b, off + i, none⟩ := by unfold Addr.add; split <;> simp_all
theorem src1 {w : World} {ad : Addr} {n : Nat} {xs : List Value} (hr : RdV w (some ad) n xs) : ∀ j u, xs[j]? = some u → w.cell? (ad.add j) = some u := by
  intro j u hu
  have hj : j < n := by rw [← hr.1]; exact (List.getElem?_eq_some_iff.1 hu).1
  obtain ⟨b, off, e, _, hc⟩ := hr.2 (by omega)
  cases e
  rw [addr_add, hc j hj, hu]
theorem own_src {w : World} {base e size n m cap : Nat} {a : Option Addr} {xs : List Value} (h : w.ownsRow base e size (.slice a m cap) n xs) : a = none → cap = 0 := by
  rcases own_form h with ⟨hv, _⟩ | ⟨g, c, hv, _, _⟩
  · cases hv; exact fun _ => rfl
  · cases hv; exact fun h => by cases h
theorem own_slc {w : World} {base e size n : Nat} {v : Value} {xs : List Value} (h : w.ownsRow base e size v n xs) : ∃ a c, v = .slice a n c ∧ ∀ g, ob a = some g → base ≤ g ∧ g < w.heap.size := by
  rcases own_form h with ⟨rfl, rfl⟩ | ⟨g, cap, rfl, h1, h2⟩
  · exact ⟨none, 0, rfl, fun g e => by cases e⟩
  · exact ⟨some ⟨g, 0, none⟩, cap, rfl, fun g' e => by cases e; exact ⟨h1, h2⟩⟩
theorem app_any {P : Program} (w : World) {ops : Array Oper} {rest : List Oper} {o : Oper} {a : Act} {Q : Exit → Act → World → Prop} (hgd : o.guard = none) (s x : Operand) (t : TypeId)
    (ho : o.op = .call { callee := .builtin .append, args := #[s, x], argTypes := #[t, t] })
    (base : Nat) (e : TypeId) (i : TypeInfo) (z : Value) (size bytes : Nat) (ht : P.underlying t = some (.slice e)) (hi : P.info? e = some i) (hz : i.zero = some z)
    (hsize : i.size = size) (hby : i.bytes = bytes) (hzs : z.cells.size = size) (hsz : 0 < size)
    (v : Value) (n : Nat) (xs : List Value) (hs : a.eval s = v) (hown : w.ownsRow base e size v n xs)
    (ax : Option Addr) (m c : Nat) (news : List Value) (hx : a.eval x = .slice ax m c) (hnone : ax = none → m = 0 ∧ c = 0) (hl : news.length = m * size) (hnews : ∀ ad, ax = some ad → ∀ j u, news[j]? = some u → w.cell? (ad.add j) = some u) (h1 : ∀ u ∈ news, u.oneCell' = true)
    (h63 : n + m ≤ maxLen) (hbytes : (n + m) * bytes ≤ 140737488355328) (hbase : base ≤ w.heap.size)
    (h : ∀ a' c' w', w'.ownsRow base e size (.slice a' (n + m) c') (n + m) (xs ++ news) → w.grownBy w' v.ownBlock → (∀ g, ob a' = some g → v.ownBlock = some g ∨ g = w.heap.size) → wpList P ops Q rest (a.put o.dst (.slice a' (n + m) c')) w') : wpList P ops Q (o :: rest) a w := by
  cases ax with
  | none =>
    obtain ⟨rfl, rfl⟩ := hnone rfl
    have hn : news = [] := List.eq_nil_of_length_eq_zero (by simpa using hl)
    subst hn
    obtain ⟨a', c', rfl, _⟩ := own_slc hown
    refine wpList_append_own_none hgd s x t ho base e i size ht hi _ n xs hs hown hx ?_
    exact h a' c' w (by simpa using hown) (World.grownBy.refl _ _) (fun g e => .inl (by rw [ob_slice]; exact e))
  | some ad =>
    refine wpList_append_own_at w hgd s x t ho base e i z size bytes ht hi hz hsize hby hzs hsz v n xs hs hown ad m c news hx hl (hnews ad rfl) h1 h63 hbytes hbase ?_
    intro v' w' hown' hgr hnil hblk
    obtain ⟨a', c', rfl, _⟩ := own_slc hown'
    rw [ob_slice] at hblk
    exact h a' c' w' hown' hgr (fun g e => hblk.elim (fun k => .inl (k ▸ e)) (fun k => .inr (Option.some.inj (e.symm.trans k))))
theorem rdV_none {w : World} {a : Option Addr} {n c : Nat} {xs : List Value} (h : RdV w a n xs) (hs : a = none → c = 0) : a = none → n = 0 ∧ c = 0 := by
  intro e
  refine ⟨?_, hs e⟩
  rcases Nat.eq_zero_or_pos n with h0 | h0
  · exact h0
  · obtain ⟨b, off, e', _⟩ := h.2 h0; rw [e] at e'; cases e'
theorem map_one {α : Type} (f : α → Value) (hf : ∀ x, (f x).oneCell' = true) (l : List α) : ∀ u ∈ l.map f, u.oneCell' = true := by
  intro u hu; obtain ⟨x, _, rfl⟩ := List.mem_map.1 hu; exact hf x
theorem Box.grown {w w' : World} {g : Nat} {t : TypeId} {c : Array Value} {row : Option Nat} (h : Box w g t c) (hg : w.grownBy w' row) (hne : row ≠ some g) : Box w' g t c := (hg.block g h.lt (fun e => hne e.symm)).trans h
theorem Box.innO {w w' : World} {g B E : Nat} {t : TypeId} {c : Array Value} (h : Box w g t c) (hb : Inn B E w w') (hg : g < B ∨ E ≤ g) : Box w' g t c := (hb.block g h.lt hg).trans h
theorem far6 {w w' : World} {b o : Nat} {u : Value} (hb : Below w.heap.size w w') (h : w.cell? ⟨b, o, none⟩ = some u) : w'.cell? ⟨b, o, none⟩ = some u :=
  (hb.cell (p := ⟨b, o, none⟩) (World.block_lt_of_cell? w ⟨b, o, none⟩ h)).trans h

end Go.Proofs.YtfibdpfhfgnbiaaGreatDoor
namespace Go.Proofs.YtfibdpfhfgnbiaaGreatDoor
open Go Go.RowKit

/-- The slice at a, of n elements, reads as the bytes zs. -/
def Rd (w : World) (a : Option Addr) (n : Nat) (zs : List Int) : Prop :=
  zs.length = n ∧ (∀ z ∈ zs, 0 ≤ z ∧ z < 256) ∧ (0 < n → ∃ b off, a = some ⟨b, off, none⟩ ∧ ∀ i, i < n → w.cell? ⟨b, off + i, none⟩ = some (.int .u8 (zs.getD i 0)))
theorem Rd.below {w w' : World} {a : Option Addr} {n : Nat} {zs : List Int} (h : Rd w a n zs) (hb : Below w.heap.size w w') : Rd w' a n zs := by
  obtain ⟨h1, h2, h3⟩ := h
  refine ⟨h1, h2, fun hn => ?_⟩
  obtain ⟨b, off, e, hc⟩ := h3 hn
  exact ⟨b, off, e, fun i hi => (hb.cell (p := ⟨b, off + i, none⟩) (World.block_lt_of_cell? w ⟨b, off, none⟩ (by simpa using hc 0 hn))).trans (hc i hi)⟩
theorem Rd.bd {w : World} {a : Option Addr} {n : Nat} {zs : List Int} (h : Rd w a n zs) (i : Nat) : 0 ≤ zs.getD i 0 ∧ zs.getD i 0 < 256 := by
  by_cases hi : i < zs.length
  · rw [List.getD_eq_getElem?_getD, List.getElem?_eq_getElem hi]; exact h.2.1 _ (List.getElem_mem hi)
  · rw [List.getD_eq_getElem?_getD, List.getElem?_eq_none (by omega)]; simp
theorem rd_of_V {w : World} {a : Option Addr} {n : Nat} {zs : List Int} (h : RdV w a n (zs.map (Value.int .u8))) (hz : ∀ z ∈ zs, 0 ≤ z ∧ z < 256) : Rd w a n zs := by
  obtain ⟨hl, hc⟩ := h
  simp only [List.length_map] at hl
  refine ⟨hl, hz, fun hn => ?_⟩
  obtain ⟨b, off, e, _, hc⟩ := hc hn
  exact ⟨b, off, e, fun i hi => by rw [hc i hi]; exact map_get _ _ _ _ (by omega)⟩
theorem ret_i {a b : Int} (h : a = b) : Ending.returned (.int .i64 a) = .returned (.int .i64 b) := by rw [h]
theorem wrap_i64_small (n : Nat) (h : n < 9223372036854775808) : IntKind.i64.wrap (n : Int) = n := by rw [IntKind.wrap_i64]; omega
theorem xor_i64 (a b : Nat) (ha : a < 4294967296) (hb : b < 4294967296) : bits .xor .i64 (a : Int) (b : Int) = ((a ^^^ b : Nat) : Int) := by
  have hx : a ^^^ b < 2 ^ 32 := Nat.xor_lt_two_pow (by omega) (by omega)
  have h1 : (BitVec.ofInt 64 (a : Int)).toNat = a := by
    rw [BitVec.ofInt_natCast, BitVec.toNat_ofNat]; exact Nat.mod_eq_of_lt (by omega)
  have h2 : (BitVec.ofInt 64 (b : Int)).toNat = b := by
    rw [BitVec.ofInt_natCast, BitVec.toNat_ofNat]; exact Nat.mod_eq_of_lt (by omega)
  show IntKind.i64.wrap ((BitVec.ofInt 64 (a : Int) ^^^ BitVec.ofInt 64 (b : Int)).toNat : Int) = _
  rw [BitVec.toNat_xor, h1, h2]
  exact wrap_i64_small _ (by omega)
theorem and1_i64 (a : Nat) (ha : a < 4294967296) : bits .and .i64 (a : Int) 1 = ((a % 2 : Nat) : Int) := by
  have h1 : (BitVec.ofInt 64 (a : Int)).toNat = a := by
    rw [BitVec.ofInt_natCast, BitVec.toNat_ofNat]; exact Nat.mod_eq_of_lt (by omega)
  have h2 : (BitVec.ofInt 64 (1 : Int)).toNat = 1 := rfl
  show IntKind.i64.wrap ((BitVec.ofInt 64 (a : Int) &&& BitVec.ofInt 64 (1 : Int)).toNat : Int) = _
  rw [BitVec.toNat_and, h1, h2, Nat.and_one_is_mod]
  exact wrap_i64_small _ (by omega)
def it : Nat → Nat → Nat
  | 0, m => m
  | j + 1, m => Crc.st (it j m)
theorem it_lt {m : Nat} (h : m < 4294967296) : ∀ j, it j m < 4294967296
  | 0 => h
  | j + 1 => Crc.st_lt (it_lt h j)
theorem it_eight (r c : Nat) : it 8 (r ^^^ c) = Crc.stB r c := Crc.eight r c

theorem step_val {y i m : Nat} (hy : y = it i m) (hl : y < 4294967296) : Value.int .i64 (bits .xor .i64 ((y : Int) / 2) ((y : Int) % 2 * 3988292384)) = Value.int .i64 (it (i + 1) m : Nat) := by
  have e1 : ((y : Int) / 2) = ((y / 2 : Nat) : Int) := by omega
  have e2 : ((y : Int) % 2 * 3988292384) = ((y % 2 * 3988292384 : Nat) : Int) := by omega
  rw [e1, e2, xor_i64 _ _ (by omega) (by omega), hy]
  rfl
theorem run_take {zs : List Int} {k : Nat} (h : k < zs.length) : Crc.run (zs.take (k + 1)) = Crc.stB (Crc.run (zs.take k)) (zs.getD k 0).toNat := by
  rw [List.take_succ_eq_append_getElem h, Crc.run_snoc, List.getD_eq_getElem?_getD, List.getElem?_eq_getElem h]
  rfl
theorem round_val {zs : List Int} {n k r c m y : Nat} (hl : zs.length = n) (hk : k < n) (hr : r = Crc.run (zs.take k)) (hz : (c : Int) = zs.getD k 0) (hm : m = r ^^^ c) (hy : y = it 8 m) : Value.int .i64 (y : Int) = Value.int .i64 (Crc.run (zs.take (k + 1)) : Nat) := by
  rw [run_take (by omega), ← hz, ← hr, hy, hm, it_eight]
  rfl
theorem end_val {zs : List Int} {k r : Nat} (hl : zs.length = k) (hr : r = Crc.run (zs.take k)) (hrl : r < 4294967296) : bits .xor .i64 (r : Int) 4294967295 = (Crc.crc zs : Nat) := by
  have := xor_i64 r 4294967295 hrl (by omega)
  rw [List.take_of_length_le (by omega)] at hr
  unfold Crc.crc
  rw [← hr]
  exact this

set_option maxRecDepth 100000 in
set_option maxHeartbeats 1000000 in
theorem c14 (a : Option Addr) (n cap : Nat) (zs : List Int) (w : World) (hr : Rd w a n zs) (hn : n ≤ 1048576) :
    Calls Tryz.prog 296 #[.slice a n cap] w fun e w' => e = .returned (.int .i64 (Crc.crc zs)) ∧ w' = w := by
  have hbd := hr.bd
  obtain ⟨hl, hzb, hcs⟩ := hr
  go_enter Tryz.func296, Tryz.ntmps296
  go_wp2
  go_loop [3, 4] (fun r i => ∃ k : Nat, k ≤ n ∧ i = .int .i64 k ∧ r = .int .i64 (Crc.run (zs.take k))) (fun _ i => n - (intOf i).toNat)
  case atStart => exact ⟨0, by omega, rfl, rfl⟩
  case round =>
    obtain ⟨k, hk, rfl, rfl⟩ := hrel
    obtain ⟨r, hr⟩ : ∃ r, r = Crc.run (zs.take k) := ⟨_, rfl⟩
    rw [← hr]
    have hrl : r < 4294967296 := by rw [hr]; exact Crc.run_lt _ fun z hz => hzb z (List.mem_of_mem_take hz)
    have HR : Hid (r = _) := hr
    clear hr
    by_cases hlt : k < n
    · obtain ⟨b, off, rfl, hc⟩ := hcs (by omega)
      obtain ⟨z, hz⟩ : ∃ z, z = zs.getD k 0 := ⟨_, rfl⟩
      have hck : w.cell? ⟨b, off + k, none⟩ = some (.int .u8 z) := by rw [hz]; exact hc k hlt
      have hz0 : 0 ≤ z ∧ z < 256 := by rw [hz]; exact hbd k
      have HZ : Hid (z = _) := hz
      clear hc hcs hz hbd hzb
      obtain ⟨c, rfl⟩ := Int.eq_ofNat_of_zero_le hz0.1
      obtain ⟨m, hm, HM⟩ : ∃ m : Nat, bits .xor .i64 (r : Int) (c : Int) = (m : Int) ∧ Hid (m = r ^^^ c) := ⟨_, xor_i64 r c hrl (by omega), rfl⟩
      have hml : m < 4294967296 := by rw [HM.out]; exact Nat.xor_lt_two_pow (n := 32) hrl (by omega)
      go_wp2
      go_loop [3, 5] (fun x j => ∃ i : Nat, i ≤ 8 ∧ j = .int .i64 i ∧ x = .int .i64 (it i m)) (fun _ j => 8 - (intOf j).toNat)
      case atStart => exact ⟨0, by omega, rfl, rfl⟩
      case round =>
        obtain ⟨i, hi, rfl, rfl⟩ := hrel
        obtain ⟨y, hy⟩ : ∃ y, y = it i m := ⟨_, rfl⟩
        rw [← hy]
        have hyl : y < 4294967296 := by rw [hy]; exact it_lt hml i
        have HY : Hid (y = _) := hy
        clear hy
        by_cases hi8 : i < 8
        · have h1 := and1_i64 y hyl
          go_wp2
          go_round
          case rel =>
            exact ⟨i + 1, by omega, by go_num, step_val HY.out hyl⟩
          case measure => simp [intOf]; omega
        · have e8 : i = 8 := by omega
          subst e8
          go_wp2
          go_round
          case rel => exact ⟨k + 1, by omega, by go_num, round_val hl hlt HR.out HZ.out HM.out HY.out⟩
          case measure => simp [intOf]; omega
    · have ek : k = n := by omega
      subst ek
      go_wp2
      go_ret
      exact ⟨ret_i (end_val hl HR.out hrl), rfl⟩

/-- What both answer. -/
def sumI (zs : List Int) (n : Nat) : Int := if 65536 < n then 0 else (Crc.crc zs : Nat)
theorem sum_hi {zs : List Int} {n : Nat} (h : 65536 < n) : sumI zs n = 0 := by unfold sumI; rw [if_pos h]
theorem sum_lo {zs : List Int} {n : Nat} (h : ¬ 65536 < n) : sumI zs n = (Crc.crc zs : Nat) := by unfold sumI; rw [if_neg h]

/-- The program's table of half bytes, as the world holds it. -/
def TabH (w : World) : Prop := ∀ i, i < 16 → w.cell? ⟨7, i, none⟩ = some (.int .u32 (Crc.tabL.getD i 0 : Nat))

theorem and15_u32 (y : Nat) (h : y < 4294967296) : bits .and .u32 (y : Int) 15 = ((y % 16 : Nat) : Int) := by
  have := u32_and_nat y 15 h (by decide)
  rw [Nat.and_two_pow_sub_one_eq_mod y 4] at this
  exact this

theorem half_step {w : World} (ht : TabH w) (y : Nat) (hy : y < 4294967296) : ∃ t : Nat, w.cell? ⟨7, y % 16, none⟩ = some (.int .u32 (t : Int)) ∧ ∃ h : Nat, bits .xor .u32 ((y : Int) / 16) (t : Int) = (h : Int) ∧ h < 4294967296 ∧ Hid (h = Crc.half y) := by
  have hs : y % 16 < 16 := Nat.mod_lt _ (by omega)
  refine ⟨Crc.tabL.getD (y % 16) 0, ht _ hs, Crc.half y, ?_, Crc.half_lt hy, rfl⟩
  have e1 : ((y : Int) / 16) = ((y / 16 : Nat) : Int) := by omega
  rw [e1, u32_xor_nat _ _ (by omega) (Crc.tab_lt _ hs)]
  rfl
theorem round_val12 {zs : List Int} {n k r c m h1 h2 : Nat} (hl : zs.length = n) (hk : k < n) (hr : r = Crc.run (zs.take k)) (hz : (c : Int) = zs.getD k 0) (hm : m = r ^^^ c) (e1 : h1 = Crc.half m) (e2 : h2 = Crc.half h1) : Value.int .u32 (h2 : Int) = Value.int .u32 (Crc.run (zs.take (k + 1)) : Nat) := by
  rw [run_take (by omega), ← hz, ← hr, e2, e1, hm]
  rfl
theorem end_val12 {zs : List Int} {k r m : Nat} (hl : zs.length = k) (hr : r = Crc.run (zs.take k)) (hm : m = r ^^^ 4294967295) : (m : Int) = (Crc.crc zs : Nat) := by
  rw [List.take_of_length_le (by omega)] at hr
  unfold Crc.crc
  rw [← hr, hm]

set_option maxRecDepth 100000 in
set_option maxHeartbeats 1000000 in
theorem c12_lo (a : Option Addr) (n cap : Nat) (zs : List Int) (w : World) (hr : Rd w a n zs) (hn : ¬ 65536 < n) (ht : TabH w) :
    Calls Tryz.prog 312 #[.slice a n cap] w fun e w' => e = .returned (.int .i64 (Crc.crc zs : Nat)) ∧ w' = w := by
  have hbd := hr.bd
  obtain ⟨hl, hzb, hcs⟩ := hr
  go_enter Tryz.func312, Tryz.ntmps312
  go_wp2
  go_loop [3, 11] (fun r i => ∃ k : Nat, k ≤ n ∧ i = .int .i64 k ∧ r = .int .u32 (Crc.run (zs.take k))) (fun _ i => n - (intOf i).toNat)
  case atStart => exact ⟨0, by omega, rfl, rfl⟩
  case round =>
    obtain ⟨k, hk, rfl, rfl⟩ := hrel
    obtain ⟨r, hr⟩ : ∃ r, r = Crc.run (zs.take k) := ⟨_, rfl⟩
    rw [← hr]
    have hrl : r < 4294967296 := by rw [hr]; exact Crc.run_lt _ fun z hz => hzb z (List.mem_of_mem_take hz)
    have HR : Hid (r = _) := hr
    clear hr
    by_cases hlt : k < n
    · obtain ⟨b, off, rfl, hc⟩ := hcs (by omega)
      obtain ⟨z, hz⟩ : ∃ z, z = zs.getD k 0 := ⟨_, rfl⟩
      have hck : w.cell? ⟨b, off + k, none⟩ = some (.int .u8 z) := by rw [hz]; exact hc k hlt
      have hz0 : 0 ≤ z ∧ z < 256 := by rw [hz]; exact hbd k
      have HZ : Hid (z = _) := hz
      have HT : Hid (TabH w) := ht
      clear hc hcs hz hbd hzb ht
      obtain ⟨c, rfl⟩ := Int.eq_ofNat_of_zero_le hz0.1
      obtain ⟨m, hm, HM⟩ : ∃ m : Nat, bits .xor .u32 (r : Int) (c : Int) = (m : Int) ∧ Hid (m = r ^^^ c) := ⟨_, u32_xor_nat r c hrl (by omega), rfl⟩
      have hml : m < 4294967296 := by rw [HM.out]; exact Nat.xor_lt_two_pow (n := 32) hrl (by omega)
      obtain ⟨t1, hc1, h1, hx1, h1l, H1⟩ := half_step HT.out m hml
      obtain ⟨t2, hc2, h2, hx2, h2l, H2⟩ := half_step HT.out h1 h1l
      have h15 := and15_u32 m hml
      have h15' := and15_u32 h1 h1l
      go_wp2
      go_round
      case rel => exact ⟨k + 1, by omega, by go_num, round_val12 hl hlt HR.out HZ.out HM.out H1.out H2.out⟩
      case measure => simp [intOf]; omega
    · have ek : k = n := by omega
      subst ek
      obtain ⟨m, hm, HM⟩ : ∃ m : Nat, bits .xor .u32 (r : Int) 4294967295 = (m : Int) ∧ Hid (m = r ^^^ 4294967295) := ⟨_, u32_xor_nat r 4294967295 hrl (by decide), rfl⟩
      have hml : m < 4294967296 := by rw [HM.out]; exact Nat.xor_lt_two_pow (n := 32) hrl (by decide)
      go_wp2
      go_ret
      exact ⟨ret_i (end_val12 hl HR.out HM.out), rfl⟩

theorem c12 (a : Option Addr) (n cap : Nat) (zs : List Int) (w : World) (hr : Rd w a n zs) (hn : n ≤ 1048576) (ht : TabH w) :
    Calls Tryz.prog 312 #[.slice a n cap] w fun e w' => e = .returned (.int .i64 (sumI zs n)) ∧ w' = w := by
  by_cases h : 65536 < n
  · have e : Hid (_ = _) := sum_hi (zs := zs) h
    clear ht
    go_enter Tryz.func312, Tryz.ntmps312
    go_wp2
    go_ret
    exact ⟨ret_i e.out.symm, rfl⟩
  · rw [sum_lo h]
    exact c12_lo a n cap zs w hr h ht
theorem TabH.below {w w' : World} (h : TabH w) (hb : Below w.heap.size w w') : TabH w' := fun i hi =>
  (hb.cell (p := ⟨7, i, none⟩) (World.block_lt_of_cell? w ⟨7, i, none⟩ (h i hi))).trans (h i hi)
theorem TabH.lt {w : World} (h : TabH w) : 7 < w.heap.size := World.block_lt_of_cell? w ⟨7, 0, none⟩ (h 0 (by omega))
theorem TabH.belowB {w w' : World} {B : Nat} (h : TabH w) (hb : Below B w w') (hB : 7 < B) : TabH w' := fun i hi => (hb.cell (p := ⟨7, i, none⟩) hB).trans (h i hi)
end Go.Proofs.YtfibdpfhfgnbiaaGreatDoor
namespace Go.Proofs.YtfibdpfhfgnbiaaGreatDoor
open Go Go.RowKit
attribute [local go_sem ↓] Go.wp_at_zero Go.wp_at_succ

/-- append of a string's bytes, at a step of a region that draws its order. -/
theorem step_append_str {P : Program} (w : World) {ops : Array Oper} {o : Oper} {a : Act} {K : Act → World → Prop} {Q : Exit → Act → World → Prop} {E : Prop} (hgd : o.guard = none) (sl x : Operand) (t u : TypeId)
    (ho : o.op = .call { callee := .builtin .append, args := #[sl, x], argTypes := #[t, u] })
    (base : Nat) (e : TypeId) (i : TypeInfo) (ht : P.underlying t = some (.slice e)) (hu : P.underlying u = some .string) (hi : P.info? e = some i) (hz : i.zero = some (.int .u8 0))
    (hsize : i.size = 1) (hby : i.bytes = 1)
    (v : Value) (n : Nat) (xs : List Value) (hs : a.eval sl = v) (hown : w.ownsRow base e 1 v n xs) (s : ByteArray) (hx : a.eval x = .string s)
    (h63 : n + s.size ≤ maxLen) (hbytes : n + s.size ≤ 140737488355328) (hbase : base ≤ w.heap.size)
    (h : ∀ v' w', w'.ownsRow base e 1 v' (n + s.size) (xs ++ Lib.strCells s) → w.grownBy w' v.ownBlock → K (a.put o.dst v') w') :
    if Region.wanted o (yielded ops a.tmps) = true then Oper.wp P o a w K Q else E := by
  have hw : Region.wanted o (yielded ops a.tmps) = true := by simp [Region.wanted, hgd]
  rw [if_pos hw]
  obtain ⟨v', w', hr, h2, h3, h4⟩ := Lib.run_append_own_string (P := P) w base t u o.type e i ht hu hi hz hsize hby v n xs hown s h63 hbytes hbase
  unfold Oper.wp execOp
  simp only [ho, resolve, invoke, builtin, Sem.run_bind, Sem.run_pure, Result.andThen_ok, List.map_toArray, List.map_cons, List.map_nil, hs, hx, hr]
  exact h v' w' h2 h3

def strZ (s : ByteArray) : List Int := s.data.toList.map fun b => (b.toNat : Int)
theorem strZ_cells (s : ByteArray) : (strZ s).map (Value.int .u8) = Lib.strCells s := by
  simp [strZ, Lib.strCells, List.map_map, Function.comp_def]
theorem strZ_len (s : ByteArray) : (strZ s).length = s.size := by simp [strZ]
/-- The bytes of the first k of n fields. -/
def fbZ (ss : List ByteArray) (n k : Nat) : List Int := (n : Int) :: ((ss.take k).map fun s => (s.size : Int) :: strZ s).flatten
theorem fbZ_step {ss : List ByteArray} {n k : Nat} (h : k < ss.length) : fbZ ss n (k + 1) = fbZ ss n k ++ (((ss.getD k ⟨#[]⟩).size : Int) :: strZ (ss.getD k ⟨#[]⟩)) := by
  unfold fbZ
  rw [List.take_succ_eq_append_getElem h, List.map_append, List.flatten_append, List.getD_eq_getElem?_getD, List.getElem?_eq_getElem h]
  simp
def okF (ss : List ByteArray) (k : Nat) : Bool := (ss.take k).all fun s => decide (s.size ≤ 255)
theorem okF_step {ss : List ByteArray} {k : Nat} (h : k < ss.length) : okF ss (k + 1) = (okF ss k && decide ((ss.getD k ⟨#[]⟩).size ≤ 255)) := by
  unfold okF
  rw [List.take_succ_eq_append_getElem h, List.all_append, List.getD_eq_getElem?_getD, List.getElem?_eq_getElem h]
  simp
theorem okF_full {ss : List ByteArray} {k : Nat} (hf : okF ss k = false) : okF ss ss.length = false := by
  unfold okF at *
  rw [List.all_eq_false] at *
  obtain ⟨x, hx, hx2⟩ := hf
  exact ⟨x, by rw [List.take_length]; exact List.mem_of_mem_take hx, hx2⟩
theorem fbZ_len {ss : List ByteArray} {n : Nat} : ∀ k, k ≤ ss.length → okF ss k = true → (fbZ ss n k).length ≤ 1 + k * 256
  | 0, _, _ => by simp [fbZ]
  | k + 1, h, ho => by
    rw [okF_step (by omega)] at ho
    simp only [Bool.and_eq_true, decide_eq_true_eq] at ho
    have := fbZ_len (n := n) k (by omega) ho.1
    rw [fbZ_step (by omega), List.length_append, List.length_cons, strZ_len]
    omega
/-- The code, and the bytes. -/
def errF (ss : List ByteArray) (n : Nat) : Int := if 4096 < n then 2 else if 100 < n then 6 else if okF ss n then 0 else 4
def resF (ss : List ByteArray) (n : Nat) : List Int := if errF ss n = 0 then fbZ ss n n else []

theorem own_slice {w : World} {base e size n : Nat} {v : Value} {xs : List Value} (h : w.ownsRow base e size v n xs) : ∃ a cap, v = .slice a n cap := by
  rcases own_form h with ⟨rfl, rfl⟩ | ⟨g, cap, rfl, _, _⟩
  · exact ⟨none, 0, rfl⟩
  · exact ⟨_, cap, rfl⟩

theorem okF_mono {ss : List ByteArray} {n k : Nat} (hk : k ≤ n) (hf : okF ss n = true) : okF ss k = true := by
  unfold okF at *
  rw [List.all_eq_true] at *
  exact fun x hx => hf x (List.take_subset_take_left ss hk hx)
theorem okF_at {ss : List ByteArray} {n k : Nat} (hl : ss.length = n) (hk : k < n) (hf : okF ss n = true) : okF ss (k + 1) = true ∧ (ss.getD k ⟨#[]⟩).size ≤ 255 := by
  have h := okF_mono (show k + 1 ≤ n by omega) hf
  refine ⟨h, ?_⟩
  rw [okF_step (by omega)] at h
  simp only [Bool.and_eq_true, decide_eq_true_eq] at h
  exact h.2
theorem far {w w' : World} {base b o e n : Nat} {v u : Value} {xs : List Value} (hg : w.grownBy w' v.ownBlock) (hown : w.ownsRow base e 1 v n xs) (hb : b < base) (hbase : base ≤ w.heap.size) (h : w.cell? ⟨b, o, none⟩ = some u) : w'.cell? ⟨b, o, none⟩ = some u := by
  rw [hg.cell_far ⟨b, o, none⟩ (Nat.lt_of_lt_of_le hb hbase) (fun e => by have := (hown.lt b e.symm).1; omega)]
  exact h

set_option maxRecDepth 100000 in
set_option maxHeartbeats 2000000 in
theorem c_lF (a : Option Addr) (n cap : Nat) (ss : List ByteArray) (w : World) (hr : RdV w a n (ss.map Value.string)) (hn : n ≤ 100) (hok : okF ss n = true) :
    Calls Tryz.prog 263 #[.slice a n cap] w fun e w' => ∃ v, e = .returned v ∧ w'.ownsRow w.heap.size 5 1 v (fbZ ss n n).length ((fbZ ss n n).map (Value.int .u8)) ∧ Below w.heap.size w w' := by
  obtain ⟨hl, hcs⟩ := hr
  simp only [List.length_map] at hl
  obtain ⟨i0, hi, hz0, hz1, hz2⟩ := info_parts infoB
  have hown0 : (w.alloc (.cells #[.int .u8 (n : Int)] 5)).ownsRow w.heap.size 5 1 (.slice (some ⟨w.heap.size, 0, none⟩) 1 1) (fbZ ss n 0).length ((fbZ ss n 0).map (Value.int .u8)) := by
    have := World.ownsRow_lit (base := w.heap.size) (e := 5) (size := 1) w #[.int .u8 (n : Int)] 1 (Nat.le_refl _) (by unfold maxLen; omega) rfl
    simpa [fbZ] using this
  go_enter Tryz.func263, Tryz.ntmps263
  go_wp2
  go_loopw [3, 4] (fun v i wr => ∃ k : Nat, k ≤ n ∧ i = .int .i64 k ∧ Hid (okF ss k = true) ∧ wr.ownsRow w.heap.size 5 1 v (fbZ ss n k).length ((fbZ ss n k).map (Value.int .u8)) ∧ Below w.heap.size w wr) (fun _ i _ => n - (intOf i).toNat)
  case atStart => exact ⟨0, by omega, rfl, rfl, hown0, (Below.refl _ _).alloc (Nat.le_refl _) _⟩
  case round =>
    obtain ⟨k, hk, rfl, HO, hown, hb⟩ := hrel
    by_cases hlt : k < n
    · obtain ⟨b, off, rfl, hbl, hc⟩ := hcs (by omega)
      obtain ⟨x, hx⟩ : ∃ x, x = ss.getD k ⟨#[]⟩ := ⟨_, rfl⟩
      have hck : wr.cell? ⟨b, off + k, none⟩ = some (Value.string x) := by rw [hb.cell (p := ⟨b, off + k, none⟩) hbl, hx, hc k hlt]; exact map_get _ _ _ _ (by omega)
      obtain ⟨av, cv, hv⟩ := own_slice hown
      subst hv
      obtain ⟨hok1, hx255⟩ := okF_at hl hlt hok
      rw [← hx] at hx255
      have HX : Hid (fbZ ss n (k + 1) = fbZ ss n k ++ ((x.size : Int) :: strZ x)) := by rw [hx]; exact fbZ_step (by omega)
      have HK1 : Hid (okF ss (k + 1) = true) := hok1
      have hlen := fbZ_len (n := n) k (by omega) HO.out
      have hlen2 : (fbZ ss n k).length ≤ 30000 := by omega
      have hbs : w.heap.size ≤ wr.heap.size := hb.size
      have g1 : (0 : Int) ≤ (k : Int) := by omega
      have g2 : (k : Int) < (n : Int) := by omega
      have hw8 : IntKind.u8.wrap (x.size : Int) = (x.size : Int) := by rw [IntKind.wrap_u8']; omega
      clear hc hcs hok hok1 hx hlen
      go_wp2_with fail
      go_region_held3 (fun y => y.cell? ⟨b, off + k, none⟩ = some (.string x))
        (first | go_keep | (exact far hgr1 (by exact hown.alloc _) hbl (by simp; omega) (by assumption)) | (exact far hgr2 hown1 hbl (by have := hgr1.size; simp at this; omega) (by assumption)))
        (first
          | (refine step_append_lies _ (by rfl) (.tmp 15) (.tmp 22) 237 (by rfl) w.heap.size 5 i0 (.int .u8 0) 1 1 Tryz.underlying237 hi hz0 hz1 hz2 rfl (by omega) (.slice av (fbZ ss n k).length cv) (fbZ ss n k).length ((fbZ ss n k).map (Value.int .u8)) (by rfl) (by exact hown.alloc _) ⟨wr.heap.size, 0, none⟩ 1 1 [.int .u8 (x.size : Int)] (by rfl) (by rfl) (by exact cell_one_new wr _ _) (by intro u hu; simp at hu; subst hu; rfl) (by omega) (by unfold maxLen; omega) (by omega) (by simp; omega) (wr.heap.size + 1) (by simp) ?_; intro g cp w1 hown1 hgr1 hat1 hlt1)
          | (have _h1 := hown1; refine step_append_str _ (by rfl) (.tmp 23) (.tmp 27) 237 9 (by rfl) w.heap.size 5 i0 Tryz.underlying237 Tryz.underlying9 hi hz0 hz1 hz2 (.slice (some ⟨g, 0, none⟩) ((fbZ ss n k).length + 1) cp) ((fbZ ss n k).length + 1) ((fbZ ss n k).map (Value.int .u8) ++ [.int .u8 (x.size : Int)]) (by rfl) hown1 x (by rfl) (by unfold maxLen; omega) (by omega) (by have := hgr1.size; simp at this; omega) ?_; intro v2 w2 hown2 hgr2))
      have hb1 : Below w.heap.size w w1 := (hb.alloc hbs _).drew.grown hgr1 (by simp; omega) (fun j hj => (hown.lt j hj).1)
      have hb2 : Below w.heap.size w w2 := hb1.grown hgr2 hb1.size (fun j hj => (hown1.lt j hj).1)
      have hown3 : w2.ownsRow w.heap.size 5 1 v2 (fbZ ss n (k + 1)).length ((fbZ ss n (k + 1)).map (Value.int .u8)) := by
        have e1 : (fbZ ss n (k + 1)).length = (fbZ ss n k).length + 1 + x.size := by rw [HX.out, List.length_append, List.length_cons, strZ_len]; omega
        have e2 : (fbZ ss n (k + 1)).map (Value.int .u8) = (fbZ ss n k).map (Value.int .u8) ++ [.int .u8 (x.size : Int)] ++ Lib.strCells x := by
          rw [HX.out, List.map_append, List.map_cons, strZ_cells]; simp
        rw [e1, e2]; exact hown2
      clear hown2 hown1 hgr1 hgr2 hat1 hlt1 hb1 hown hck
      go_wp2
      go_roundw
      case rel => exact ⟨k + 1, by omega, by go_num, HK1, hown3, hb2⟩
      case measure => simp [intOf]; omega
    · have e : k = n := by omega
      subst e
      go_wp2
      go_ret
      exact ⟨_, rfl, hown, hb⟩

theorem err2 {ss : List ByteArray} {n : Nat} (h : 4096 < n) : errF ss n = 2 ∧ resF ss n = [] := by
  have e : errF ss n = 2 := by unfold errF; rw [if_pos h]
  exact ⟨e, by unfold resF; rw [e]; rfl⟩
theorem err6 {ss : List ByteArray} {n : Nat} (h0 : ¬ 4096 < n) (h : 100 < n) : errF ss n = 6 ∧ resF ss n = [] := by
  have e : errF ss n = 6 := by unfold errF; rw [if_neg h0, if_pos h]
  exact ⟨e, by unfold resF; rw [e]; rfl⟩
theorem err4 {ss : List ByteArray} {n : Nat} (h : ¬ 100 < n) (hf : okF ss n = false) : errF ss n = 4 ∧ resF ss n = [] := by
  have e : errF ss n = 4 := by unfold errF; rw [if_neg (by omega), if_neg h, hf]; rfl
  exact ⟨e, by unfold resF; rw [e]; rfl⟩
theorem err0 {ss : List ByteArray} {n : Nat} (h : ¬ 100 < n) (hf : okF ss n = true) : errF ss n = 0 ∧ resF ss n = fbZ ss n n := by
  have e : errF ss n = 0 := by unfold errF; rw [if_neg (by omega), if_neg h, hf]; rfl
  exact ⟨e, by unfold resF; rw [e]; rfl⟩
/-- What both answer: a slice of the call's own with the bytes, and the code. -/
def AnsF (w : World) (ss : List ByteArray) (n : Nat) (e : Ending) (w' : World) : Prop :=
  ∃ a cap, e = .returned (.tuple #[.slice a (resF ss n).length cap, .int .i64 (errF ss n)]) ∧ w'.ownsRow w.heap.size 5 1 (.slice a (resF ss n).length cap) (resF ss n).length ((resF ss n).map (Value.int .u8)) ∧ Below w.heap.size w w'
theorem ansF_nil {w : World} {ss : List ByteArray} {n : Nat} {c : Int} {w' : World} (h : errF ss n = c ∧ resF ss n = []) (hb : Below w.heap.size w w') : AnsF w ss n (.returned (.tuple #[.slice none 0 0, .int .i64 c])) w' := by
  unfold AnsF
  rw [h.1, h.2]
  exact ⟨none, 0, rfl, World.ownsRow_nil _ _ _ _, hb⟩
theorem ansF_empty {w w1 : World} {ss : List ByteArray} {n : Nat} {c : Int} (h : errF ss n = c ∧ resF ss n = []) (hb : Below w.heap.size w w1) : AnsF w ss n (.returned (.tuple #[.slice (some ⟨w1.heap.size, 0, none⟩) 0 0, .int .i64 c])) (w1.alloc (.cells #[] 5)) := by
  unfold AnsF
  rw [h.1, h.2]
  exact ⟨_, 0, rfl, World.ownsRow_lit w1 #[] 0 hb.size (Nat.zero_le _) rfl, hb.alloc hb.size _⟩
theorem ansF_own {w w' : World} {ss : List ByteArray} {n : Nat} {v : Value} (h : errF ss n = 0 ∧ resF ss n = fbZ ss n n) (ho : w'.ownsRow w.heap.size 5 1 v (fbZ ss n n).length ((fbZ ss n n).map (Value.int .u8))) (hb : Below w.heap.size w w') : AnsF w ss n (.returned (.tuple #[v, .int .i64 0])) w' := by
  unfold AnsF
  rw [h.1, h.2]
  obtain ⟨a, cap, rfl⟩ := own_slice ho
  exact ⟨a, cap, rfl, ho, hb⟩

end Go.Proofs.YtfibdpfhfgnbiaaGreatDoor
namespace Go.Proofs.YtfibdpfhfgnbiaaGreatDoor
open Go Go.RowKit

set_option maxRecDepth 100000 in
set_option maxHeartbeats 2000000 in
theorem c_implF (a : Option Addr) (n cap : Nat) (ss : List ByteArray) (w : World) (hr : RdV w a n (ss.map Value.string)) (hn : n ≤ 1048576) (hs : ∀ s ∈ ss, s.size ≤ 1048576) :
    Calls Tryz.prog 297 #[.slice a n cap] w (AnsF w ss n) := by
  obtain ⟨hl, hcs⟩ := hr
  simp only [List.length_map] at hl
  by_cases h1 : 4096 < n
  · have E : Hid (_ ∧ _) := err2 (ss := ss) h1
    go_enter Tryz.func297, Tryz.ntmps297
    go_wp2
    go_ret2
    exact ansF_nil E.out (Below.refl _ _)
  · by_cases h2 : 100 < n
    · have E : Hid (_ ∧ _) := err6 (ss := ss) h1 h2
      go_enter Tryz.func297, Tryz.ntmps297
      go_wp2
      go_ret2
      exact ansF_nil E.out (Below.refl _ _)
    · obtain ⟨i0, hi, hz0, hz1, hz2⟩ := info_parts infoB
      have hown0 : (w.alloc (.cells #[.int .u8 (n : Int)] 5)).ownsRow w.heap.size 5 1 (.slice (some ⟨w.heap.size, 0, none⟩) 1 1) (fbZ ss n 0).length ((fbZ ss n 0).map (Value.int .u8)) := by
        have := World.ownsRow_lit (base := w.heap.size) (e := 5) (size := 1) w #[.int .u8 (n : Int)] 1 (Nat.le_refl _) (by unfold maxLen; omega) rfl
        simpa [fbZ] using this
      go_enter Tryz.func297, Tryz.ntmps297
      go_wp2
      go_loopw [4, 19] (fun v i wr => ∃ k : Nat, k ≤ n ∧ i = .int .i64 k ∧ Hid (okF ss k = true) ∧ wr.ownsRow w.heap.size 5 1 v (fbZ ss n k).length ((fbZ ss n k).map (Value.int .u8)) ∧ Below w.heap.size w wr) (fun _ i _ => n - (intOf i).toNat)
      case atStart => exact ⟨0, by omega, rfl, rfl, hown0, (Below.refl _ _).alloc (Nat.le_refl _) _⟩
      case round =>
        obtain ⟨k, hk, rfl, HO, hown, hb⟩ := hrel
        by_cases hlt : k < n
        · obtain ⟨b, off, rfl, hbl, hc⟩ := hcs (by omega)
          obtain ⟨x, hx⟩ : ∃ x, x = ss.getD k ⟨#[]⟩ := ⟨_, rfl⟩
          have hck : wr.cell? ⟨b, off + k, none⟩ = some (Value.string x) := by rw [hb.cell (p := ⟨b, off + k, none⟩) hbl, hx, hc k hlt]; exact map_get _ _ _ _ (by omega)
          have HK : Hid (okF ss (k + 1) = (okF ss k && decide (x.size ≤ 255))) := by rw [hx]; exact okF_step (by omega)
          have HX : Hid (fbZ ss n (k + 1) = fbZ ss n k ++ ((x.size : Int) :: strZ x)) := by rw [hx]; exact fbZ_step (by omega)
          have hxs : x.size ≤ 1048576 := by
            have hk' : k < ss.length := by omega
            rw [hx, List.getD_eq_getElem?_getD, List.getElem?_eq_getElem hk']; exact hs _ (List.getElem_mem hk')
          have hlen := fbZ_len (n := n) k (by omega) HO.out
          have hlen2 : (fbZ ss n k).length ≤ 30000 := by omega
          have hbs : w.heap.size ≤ wr.heap.size := hb.size
          obtain ⟨av, cv, hv⟩ := own_slice hown
          subst hv
          clear hc hcs hx hs hlen hown0
          by_cases h255 : 255 < x.size
          · have E : Hid (_ ∧ _) := err4 (ss := ss) h2 (by have := okF_full (ss := ss) (k := k + 1) (by rw [HK.out, decide_eq_false (by omega)]; simp); rw [hl] at this; exact this)
            go_wp2
            go_ret2
            exact ansF_nil E.out hb
          · go_wp2_with (first
              | (at_builtin; refine wpList_append_lies _ rfl (.tmp 26) (.tmp 30) 237 rfl w.heap.size 5 i0 (.int .u8 0) 1 1 Tryz.underlying237 hi hz0 hz1 hz2 rfl (by omega) (.slice av (fbZ ss n k).length cv) (fbZ ss n k).length ((fbZ ss n k).map (Value.int .u8)) rfl (hown.alloc _) ⟨wr.heap.size, 0, none⟩ 1 1 [.int .u8 (x.size : Int)] rfl rfl (cell_one_new wr _ _) (by intro u hu; simp at hu; subst hu; rfl) (by omega) (by unfold maxLen; omega) (by omega) (by simp; omega) (wr.heap.size + 1) (by simp) ?_; intro g cp w1 hown1 hgr1 hat1 hlt1)
              | (at_builtin; refine Lib.wpList_append_own_string _ rfl (.tmp 32) (.tmp 33) 237 9 rfl w.heap.size 5 i0 Tryz.underlying237 Tryz.underlying9 hi hz0 hz1 hz2 (.slice (some ⟨g, 0, none⟩) ((fbZ ss n k).length + 1) cp) ((fbZ ss n k).length + 1) ((fbZ ss n k).map (Value.int .u8) ++ [.int .u8 (x.size : Int)]) rfl hown1 x rfl (by unfold maxLen; omega) (by omega) (by have := hgr1.size; simp at this; omega) ?_; intro v2 w2 hown2 hgr2 _))
            have hb1 : Below w.heap.size w w1 := (hb.alloc hbs _).grown hgr1 (by simp; omega) (fun j hj => (hown.lt j hj).1)
            have hb2 : Below w.heap.size w w2 := hb1.grown hgr2 hb1.size (fun j hj => (hown1.lt j hj).1)
            have hown3 : w2.ownsRow w.heap.size 5 1 v2 (fbZ ss n (k + 1)).length ((fbZ ss n (k + 1)).map (Value.int .u8)) := by
              have e1 : (fbZ ss n (k + 1)).length = (fbZ ss n k).length + 1 + x.size := by rw [HX.out, List.length_append, List.length_cons, strZ_len]; omega
              have e2 : (fbZ ss n (k + 1)).map (Value.int .u8) = (fbZ ss n k).map (Value.int .u8) ++ [.int .u8 (x.size : Int)] ++ Lib.strCells x := by
                rw [HX.out, List.map_append, List.map_cons, strZ_cells]; simp
              rw [e1, e2]; exact hown2
            clear hown2 hown1 hgr1 hgr2 hat1 hlt1 hb1 hown hck
            go_roundw
            case rel => exact ⟨k + 1, by omega, by go_num, by rw [HK.out, HO.out, decide_eq_true (by omega)]; rfl, hown3, hb2⟩
            case measure => simp [intOf]; omega
        · have e : k = n := by omega
          subst e
          have E : Hid (_ ∧ _) := err0 (ss := ss) h2 HO.out
          go_wp2
          go_ret2
          exact ansF_own E.out hown hb
end Go.Proofs.YtfibdpfhfgnbiaaGreatDoor
namespace Go.Proofs.YtfibdpfhfgnbiaaGreatDoor
open Go Go.RowKit
attribute [local go_sem ↓] Go.wp_at_zero Go.wp_at_succ


theorem box4 {w : World} {g : Nat} {t : TypeId} {v0 v1 v2 v3 : Value} (h : Box w g t #[v0, v1, v2, v3]) : w.cell? ⟨g, 0, none⟩ = some v0 ∧ w.cell? ⟨g, 1, none⟩ = some v1 ∧ w.cell? ⟨g, 2, none⟩ = some v2 ∧ w.cell? ⟨g, 3, none⟩ = some v3 := ⟨h.cell 0, h.cell 1, h.cell 2, h.cell 3⟩
theorem loadVar4 {w : World} {r : Nat} {v0 v1 v2 v3 : Value} (hb : Box w r 360 #[v0, v1, v2, v3]) : (loadVar 360 ⟨r, 0, none⟩).run Tryz.prog w = .ok (.agg #[v0, v1, v2, v3]) w := by
  have e0 : w.cell? ⟨r, 0, none⟩ = some v0 := hb.cell 0
  have e1 : w.cell? ⟨r, 1, none⟩ = some v1 := hb.cell 1
  have e2 : w.cell? ⟨r, 2, none⟩ = some v2 := hb.cell 2
  have e3 : w.cell? ⟨r, 3, none⟩ = some v3 := hb.cell 3
  simp [go_sem, e0, e1, e2, e3]
theorem ret4 {fn : Func} {p : Tmp} (h : fn.results = #[.cell p 360]) {R : Ending → World → Prop} {a : Act} {w : World} {r : Nat} {v0 v1 v2 v3 : Value} (hp : a.tmps.getD p undef = .pointer (some ⟨r, 0, none⟩)) (hd : a.defers = []) (hb : Box w r 360 #[v0, v1, v2, v3]) (hR : R (.returned (.agg #[v0, v1, v2, v3])) w) : bodyPost Tryz.prog fn R .ret a w := by
  refine bodyPost_ret ?_ hd hR
  have hp' : a.tmps[p]?.getD undef = .pointer (some ⟨r, 0, none⟩) := by simpa using hp
  simp only [results, h]
  simp [hp', asAddr, loadVar4 hb]
theorem put4_box {V : World} {r : Nat} {t : TypeId} {x0 x1 x2 x3 : Value} (h : Box V r t #[x0, x1, x2, x3]) (v0 v1 v2 v3 : Value) : Box ((((V.setCell ⟨r, 0, none⟩ v0).setCell ⟨r, 1, none⟩ v1).setCell ⟨r, 2, none⟩ v2).setCell ⟨r, 3, none⟩ v3) r t #[v0, v1, v2, v3] := by
  have := (((h.set 0 v0).set 1 v1).set 2 v2).set 3 v3
  simpa using this
theorem put4_below {B : Nat} {w V : World} (hb : Below B w V) {r : Nat} (hr : B ≤ r) (v0 v1 v2 v3 : Value) : Below B w ((((V.setCell ⟨r, 0, none⟩ v0).setCell ⟨r, 1, none⟩ v1).setCell ⟨r, 2, none⟩ v2).setCell ⟨r, 3, none⟩ v3) :=
  (((hb.setCell hr _).setCell hr _).setCell hr _).setCell hr _
theorem c_high (u : Int) (w : World) (h0 : 0 ≤ u) (h1 : u < 4294967296) :
    Calls Tryz.prog 311 #[.int .u32 u] w fun e w' => e = .returned (.agg #[.int .u8 (u / 16777216), .int .u8 (u / 65536 % 256), .int .u8 (u / 256 % 256), .int .u8 (u % 256)]) ∧ Below w.heap.size w w' := by
  go_enter Tryz.func311, Tryz.ntmps311
  go_wp2
  exact bodyPost_ret (v := .agg #[.int .u8 (u / 16777216), .int .u8 (u / 65536 % 256), .int .u8 (u / 256 % 256), .int .u8 (u % 256)]) (by simp [results, Tryz.results311, go_sem]) rfl ⟨rfl, (Below.refl _ _).alloc (Nat.le_refl _) _⟩
theorem crc_lt (zs : List Int) (hz : ∀ z ∈ zs, 0 ≤ z ∧ z < 256) : Crc.crc zs < 4294967296 := by
  unfold Crc.crc
  exact Nat.xor_lt_two_pow (n := 32) (Crc.run_lt _ hz) (by decide)
def sumZ (c : Int) : List Int := [c / 16777216, c / 65536 % 256, c / 256 % 256, c % 256]
set_option maxRecDepth 100000 in
set_option maxHeartbeats 2000000 in
theorem c_sumOf (a : Option Addr) (n cap : Nat) (zs : List Int) (w : World) (hr : RdV w a n (zs.map (Value.int .u8))) (hz : ∀ z ∈ zs, 0 ≤ z ∧ z < 256) (hn : n ≤ 65536) (ht : TabH w) (C : Int) (hC : C = (Crc.crc zs : Nat)) :
    Calls Tryz.prog 303 #[.slice a n cap] w fun e w' => e = .returned (.agg #[.int .u8 (C / 16777216), .int .u8 (C / 65536 % 256), .int .u8 (C / 256 % 256), .int .u8 (C % 256)]) ∧ Below w.heap.size w w' := by
  have hl := crc_lt zs hz
  have hC0 : 0 ≤ C := by omega
  have hC1 : C < 4294967296 := by omega
  have hw : IntKind.u32.wrap C = C := by rw [IntKind.wrap_u32']; omega
  have CK : Hid (∀ W, Below w.heap.size w W → Calls Tryz.prog 312 #[.slice a n cap] W fun e w' => e = .returned (.int .i64 C) ∧ w' = W) := fun W hW => by
    rw [hC]
    exact c12_lo a n cap zs W (rd_of_V (hr.below hW) hz) (by omega) (ht.below hW)
  clear hr hz ht hl hC
  obtain ⟨V, hV⟩ : ∃ V, w.alloc (.cells #[.int .u8 0, .int .u8 0, .int .u8 0, .int .u8 0] 360) = V := ⟨_, rfl⟩
  have HB : Hid (Below w.heap.size w V) := by unfold Hid; rw [← hV]; exact (Below.refl _ _).alloc (Nat.le_refl _) _
  have BR : Hid (Box V w.heap.size 360 #[.int .u8 0, .int .u8 0, .int .u8 0, .int .u8 0]) := by unfold Hid; rw [← hV]; exact Box.new _ _ _
  go_enter Tryz.func303, Tryz.ntmps303
  go_wp2_with fail
  refine (CK.out V HB.out).mono ?_
  rintro e w1 ⟨rfl, hq⟩
  have hq' := hq.symm
  subst hq'
  clear hq CK
  go_wp2_with fail
  refine (c_high C V hC0 hC1).mono ?_
  rintro e w2 ⟨rfl, hb⟩
  have B2 : Hid (Below w.heap.size w w2) := HB.out.trans (hb.mono HB.out.size)
  have BR2 : Hid (Box w2 w.heap.size 360 #[.int .u8 0, .int .u8 0, .int .u8 0, .int .u8 0]) := BR.out.belowS hb
  clear hb HB BR hV hw hC0 hC1
  obtain ⟨v0, v1, v2, v3⟩ := box4 BR2.out
  have t0 := BR2.out.thaw 0
  have t1 := BR2.out.thaw 1
  have t2 := BR2.out.thaw 2
  have t3 := BR2.out.thaw 3
  go_wp2
  exact ret4 Tryz.results303 rfl rfl (put4_box BR2.out _ _ _ _) ⟨rfl, put4_below B2.out (Nat.le_refl _) _ _ _ _⟩

theorem sumZ_map (C : Int) : (sumZ C).map (Value.int .u8) = (#[.int .u8 (C / 16777216), .int .u8 (C / 65536 % 256), .int .u8 (C / 256 % 256), .int .u8 (C % 256)] : Array Value).toList := rfl
theorem box_src {W : World} {g : Nat} {t : TypeId} {c : Array Value} (h : Box W g t c) : ∀ j u, c.toList[j]? = some u → W.cell? ((⟨g, 0, none⟩ : Addr).add j) = some u := by
  intro j u hj
  rw [addr_add, Nat.zero_add, h.cell j]
  simpa using hj

end Go.Proofs.YtfibdpfhfgnbiaaGreatDoor
