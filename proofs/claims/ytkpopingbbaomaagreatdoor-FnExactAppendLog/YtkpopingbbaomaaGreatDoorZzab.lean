/-
  The walk of the specification's ReadFields.
-/
import Derived.Test.YtkpopingbbaomaaGreatDoorMkq
import Derived.Laws.AppendOwn
import Derived.Laws.AppendOwnNone
import Derived.Maps.AppendAt
import Derived.Test.YtkpopingbbaomaaGreatDoorRfq
namespace Go.Proofs.YtkpopingbbaomaaGreatDoor
open Go Go.RowKit
attribute [local go_sem ↓] Go.wp_at_zero Go.wp_at_succ

def ob (a : Option Addr) : Option Nat := a.map Addr.block
theorem ob_slice (a : Option Addr) (n c : Nat) : (Value.slice a n c).ownBlock = ob a := by cases a <;> rfl
theorem own_same {w w' : World} {base e size n : Nat} {v : Value} {xs : List Value} (h : w.ownsRow base e size v n xs) (hs : ∀ g, v.ownBlock = some g → w'.heap[g]? = w.heap[g]?) : w'.ownsRow base e size v n xs := by
  obtain ⟨h1, h2⟩ := h
  refine ⟨h1, ?_⟩
  rcases h2 with h0 | ⟨g, cap, cur, hv, hb, hg, hr⟩
  · exact .inl h0
  · exact .inr ⟨g, cap, cur, hv, hb, (hs g (by rw [hv]; rfl)).trans hg, hr⟩
theorem _root_.Go.World.ownsRow.down {w : World} {B B' e size n : Nat} {v : Value} {xs : List Value} (h : w.ownsRow B e size v n xs) (hb : B' ≤ B) : w.ownsRow B' e size v n xs := by
  obtain ⟨k1, k2⟩ := h
  rcases k2 with h0 | ⟨g, cap, cur, hv, hb', hr⟩
  · exact ⟨k1, .inl h0⟩
  · exact ⟨k1, .inr ⟨g, cap, cur, hv, by omega, hr⟩⟩
structure Inn (B E : Nat) (w w' : World) : Prop where
  os : w'.os = w.os
  tape : w'.tape = w.tape
  output : w'.output = w.output
  size : w.heap.size ≤ w'.heap.size
  block : ∀ k, k < w.heap.size → (k < B ∨ E ≤ k) → w'.heap[k]? = w.heap[k]?
theorem Inn.trans {B E : Nat} {a b c : World} (h : Inn B E a b) (k : Inn B E b c) : Inn B E a c :=
  ⟨k.os.trans h.os, k.tape.trans h.tape, k.output.trans h.output, Nat.le_trans h.size k.size, fun i hi ho => (k.block i (Nat.lt_of_lt_of_le hi h.size) ho).trans (h.block i hi ho)⟩
theorem Inn.of_below {B E : Nat} {w w' : World} (h : Below w.heap.size w w') : Inn B E w w' := ⟨h.os, h.tape, h.output, h.size, fun k hk _ => h.block k hk⟩
theorem Inn.of_grown {B E : Nat} {w w' : World} {row : Option Nat} (h : w.grownBy w' row) (hr : ∀ g, row = some g → B ≤ g ∧ g < E) : Inn B E w w' :=
  ⟨h.os, h.tape, h.output, h.size, fun k hk ho => h.block k hk (fun e => by have := hr k e.symm; omega)⟩
theorem Inn.below {B E b : Nat} {w w' : World} (h : Inn B E w w') (hb : b ≤ B) (hw : b ≤ w.heap.size) : Below b w w' := ⟨h.os, h.tape, h.output, h.size, fun k hk => h.block k (by omega) (.inl (by omega))⟩
def Box (w : World) (g : Nat) (t : TypeId) (c : Array Value) : Prop := w.heap[g]? = some (.cells c t)
theorem Box.new (w : World) (c : Array Value) (t : TypeId) : Box (w.alloc (.cells c t)) w.heap.size t c := by
  unfold Box; show (w.heap.push _)[w.heap.size]? = _; simp
theorem Box.new2 (w : World) (o : Obj) (c : Array Value) (t : TypeId) : Box ((w.alloc o).alloc (.cells c t)) (w.heap.size + 1) t c := by
  have e : (w.alloc o).heap.size = w.heap.size + 1 := by simp
  have := Box.new (w.alloc o) c t
  rwa [e] at this
theorem Box.lt {w : World} {g : Nat} {t : TypeId} {c : Array Value} (h : Box w g t c) : g < w.heap.size := by
  rcases Nat.lt_or_ge g w.heap.size with h1 | h1
  · exact h1
  · unfold Box at h; rw [Array.getElem?_eq_none h1] at h; cases h
theorem Box.below {w w' : World} {g B : Nat} {t : TypeId} {c : Array Value} (h : Box w g t c) (hb : Below B w w') (hg : g < B) : Box w' g t c := (hb.block g hg).trans h
theorem Box.belowS {w w' : World} {g : Nat} {t : TypeId} {c : Array Value} (h : Box w g t c) (hb : Below w.heap.size w w') : Box w' g t c := (hb.block g h.lt).trans h
theorem Box.alloc {w : World} {g : Nat} {t : TypeId} {c : Array Value} (h : Box w g t c) (o : Obj) : Box (w.alloc o) g t c := (Below.heap_alloc w o g h.lt).trans h
theorem Box.drewN {w : World} {g : Nat} {t : TypeId} {c : Array Value} (h : Box w g t c) (q : Nat) : Box (w.drewN q) g t c := h
theorem Box.cell {w : World} {g : Nat} {t : TypeId} {c : Array Value} (h : Box w g t c) (i : Nat) : w.cell? ⟨g, i, none⟩ = c[i]? := by unfold Box at h; simp [World.cell?, h]
theorem Box.thaw {w : World} {g : Nat} {t : TypeId} {c : Array Value} (h : Box w g t c) (i : Nat) : w.frozen? ⟨g, i, none⟩ = false := by unfold Box at h; simp [World.frozen?, h]
theorem Box.set {w : World} {g : Nat} {t : TypeId} {c : Array Value} (h : Box w g t c) (i : Nat) (v : Value) : Box (w.setCell ⟨g, i, none⟩ v) g t (c.setIfInBounds i v) := by
  unfold Box at *; simp [World.setCell, Array.getElem?_modify, h]
theorem Box.setOther {w : World} {g : Nat} {t : TypeId} {c : Array Value} (h : Box w g t c) (p : Addr) (v : Value) (hp : g ≠ p.block) : Box (w.setCell p v) g t c := (Below.heap_setCell w p v g hp).trans h
theorem Box.inn {w w' : World} {g B E : Nat} {t : TypeId} {c : Array Value} (h : Box w g t c) (hb : Inn B E w w') (hg : E ≤ g) : Box w' g t c := (hb.block g h.lt (.inr hg)).trans h
theorem addr_add (b off i : Nat) : (⟨b, off, none⟩ : Addr).add i = ⟨b, off + i, none⟩ := by unfold Addr.add; split <;> simp_all
theorem src1 {w : World} {ad : Addr} {n : Nat} {xs : List Value} (hr : RdV w (some ad) n xs) : ∀ j u, xs[j]? = some u → w.cell? (ad.add j) = some u := by
  intro j u hu
  have hj : j < n := by rw [← hr.1]; exact (List.getElem?_eq_some_iff.1 hu).1
  obtain ⟨b, off, e, _, hc⟩ := hr.2 (by omega)
  cases e
  rw [addr_add, hc j hj, hu]
theorem own_src {w : World} {base e size n m cap : Nat} {a : Option Addr} {xs : List Value} (h : w.ownsRow base e size (.slice a m cap) n xs) : a = none → cap = 0 := by
  rcases own_form h with ⟨hv, _⟩ | ⟨g, c, hv, _, _⟩
  · cases hv; exact fun _ => rfl
  · cases hv; exact fun h => by cases h
theorem own_slc {w : World} {base e size n : Nat} {v : Value} {xs : List Value} (h : w.ownsRow base e size v n xs) : ∃ a c, v = .slice a n c ∧ ∀ g, ob a = some g → base ≤ g ∧ g < w.heap.size := by
  rcases own_form h with ⟨rfl, rfl⟩ | ⟨g, cap, rfl, h1, h2⟩
  · exact ⟨none, 0, rfl, fun g e => by cases e⟩
  · exact ⟨some ⟨g, 0, none⟩, cap, rfl, fun g' e => by cases e; exact ⟨h1, h2⟩⟩
theorem app_any {P : Program} (w : World) {ops : Array Oper} {rest : List Oper} {o : Oper} {a : Act} {Q : Exit → Act → World → Prop} (hgd : o.guard = none) (s x : Operand) (t : TypeId)
    (ho : o.op = .call { callee := .builtin .append, args := #[s, x], argTypes := #[t, t] })
    (base : Nat) (e : TypeId) (i : TypeInfo) (z : Value) (size bytes : Nat) (ht : P.underlying t = some (.slice e)) (hi : P.info? e = some i) (hz : i.zero = some z)
    (hsize : i.size = size) (hby : i.bytes = bytes) (hzs : z.cells.size = size) (hsz : 0 < size)
    (v : Value) (n : Nat) (xs : List Value) (hs : a.eval s = v) (hown : w.ownsRow base e size v n xs)
    (ax : Option Addr) (m c : Nat) (news : List Value) (hx : a.eval x = .slice ax m c) (hnone : ax = none → m = 0 ∧ c = 0) (hl : news.length = m * size) (hnews : ∀ ad, ax = some ad → ∀ j u, news[j]? = some u → w.cell? (ad.add j) = some u) (h1 : ∀ u ∈ news, u.oneCell' = true)
    (h63 : n + m ≤ maxLen) (hbytes : (n + m) * bytes ≤ 140737488355328) (hbase : base ≤ w.heap.size)
    (h : ∀ a' c' w', w'.ownsRow base e size (.slice a' (n + m) c') (n + m) (xs ++ news) → w.grownBy w' v.ownBlock → (∀ g, ob a' = some g → v.ownBlock = some g ∨ g = w.heap.size) → wpList P ops Q rest (a.put o.dst (.slice a' (n + m) c')) w') : wpList P ops Q (o :: rest) a w := by
  cases ax with
  | none =>
    obtain ⟨rfl, rfl⟩ := hnone rfl
    have hn : news = [] := List.eq_nil_of_length_eq_zero (by simpa using hl)
    subst hn
    obtain ⟨a', c', rfl, _⟩ := own_slc hown
    refine wpList_append_own_none hgd s x t ho base e i size ht hi _ n xs hs hown hx ?_
    exact h a' c' w (by simpa using hown) (World.grownBy.refl _ _) (fun g e => .inl (by rw [ob_slice]; exact e))
  | some ad =>
    refine wpList_append_own_at w hgd s x t ho base e i z size bytes ht hi hz hsize hby hzs hsz v n xs hs hown ad m c news hx hl (hnews ad rfl) h1 h63 hbytes hbase ?_
    intro v' w' hown' hgr hnil hblk
    obtain ⟨a', c', rfl, _⟩ := own_slc hown'
    rw [ob_slice] at hblk
    exact h a' c' w' hown' hgr (fun g e => hblk.elim (fun k => .inl (k ▸ e)) (fun k => .inr (Option.some.inj (e.symm.trans k))))
theorem rdV_none {w : World} {a : Option Addr} {n c : Nat} {xs : List Value} (h : RdV w a n xs) (hs : a = none → c = 0) : a = none → n = 0 ∧ c = 0 := by
  intro e
  refine ⟨?_, hs e⟩
  rcases Nat.eq_zero_or_pos n with h0 | h0
  · exact h0
  · obtain ⟨b, off, e', _⟩ := h.2 h0; rw [e] at e'; cases e'
theorem map_one {α : Type} (f : α → Value) (hf : ∀ x, (f x).oneCell' = true) (l : List α) : ∀ u ∈ l.map f, u.oneCell' = true := by
  intro u hu; obtain ⟨x, _, rfl⟩ := List.mem_map.1 hu; exact hf x
theorem Box.grown {w w' : World} {g : Nat} {t : TypeId} {c : Array Value} {row : Option Nat} (h : Box w g t c) (hg : w.grownBy w' row) (hne : row ≠ some g) : Box w' g t c := (hg.block g h.lt (fun e => hne e.symm)).trans h
theorem Box.innO {w w' : World} {g B E : Nat} {t : TypeId} {c : Array Value} (h : Box w g t c) (hb : Inn B E w w') (hg : g < B ∨ E ≤ g) : Box w' g t c := (hb.block g h.lt hg).trans h
theorem far6 {w w' : World} {b o : Nat} {u : Value} (hb : Below w.heap.size w w') (h : w.cell? ⟨b, o, none⟩ = some u) : w'.cell? ⟨b, o, none⟩ = some u :=
  (hb.cell (p := ⟨b, o, none⟩) (World.block_lt_of_cell? w ⟨b, o, none⟩ h)).trans h

end Go.Proofs.YtkpopingbbaomaaGreatDoor
namespace Go.Proofs.YtkpopingbbaomaaGreatDoor
open Go Go.RowKit

theorem son_get {zs : List Int} {p : Nat} (hz : ∀ z ∈ zs, 0 ≤ z ∧ z < 256) (h : p < (strOfNums zs).size) : (((strOfNums zs)[p]'h).toNat : Int) = zs.getD p 0 := by
  have hl : p < zs.length := by rwa [strOfNums_size] at h
  have e : (strOfNums zs)[p]'h = (zs.map fun n => UInt8.ofNat n.toNat)[p]'(by simpa using hl) := rfl
  rw [e, List.getElem_map, List.getD_eq_getElem?_getD, List.getElem?_eq_getElem hl]
  have := hz _ (List.getElem_mem hl)
  rw [UInt8.toNat_ofNat']
  simp
  omega
theorem son_cut (zs : List Int) (a b : Nat) : (strOfNums zs).extract a b = strOfNums ((zs.drop a).take (b - a)) := by
  have h := Lib.extract_data (strOfNums zs) a b
  rw [strOfNums_data] at h
  have h2 : ((strOfNums zs).extract a b).data.toList = (strOfNums ((zs.drop a).take (b - a))).data.toList := by
    rw [h, strOfNums_data, List.map_take, List.map_drop]
  have h3 : ((strOfNums zs).extract a b).data = (strOfNums ((zs.drop a).take (b - a))).data := by
    apply Array.ext'; exact h2
  cases hA : (strOfNums zs).extract a b with
  | mk d => rw [hA] at h3; cases hB : strOfNums ((zs.drop a).take (b - a)) with
    | mk d' => rw [hB] at h3; simp at h3; rw [h3]

/-- What the inner reader answers: the fields and true, or none and false. -/
def AnsI (w : World) (zs : List Int) (e : Ending) (w' : World) : Prop :=
  ∃ v, e = .returned (.tuple #[v, .bool (okR zs).isSome]) ∧ w'.ownsRow w.heap.size 9 1 v ((okR zs).getD []).length (((okR zs).getD []).map Value.string) ∧ Below w.heap.size w w'
theorem ansI_no {w w1 : World} {zs : List Int} (h : okR zs = none) (hb : Below w.heap.size w w1) : AnsI w zs (.returned (.tuple #[.slice (some ⟨w1.heap.size, 0, none⟩) 0 0, .bool false])) (w1.alloc (.cells #[] 9)) := by
  unfold AnsI
  rw [h]
  exact ⟨_, rfl, World.ownsRow_lit w1 #[] 0 hb.size (Nat.zero_le _) rfl, hb.alloc hb.size _⟩
theorem ansI_no' {w w1 : World} {zs : List Int} {v : Value} (h : okR zs = none) (ho : w1.ownsRow w.heap.size 9 1 v 0 []) (hb : Below w.heap.size w w1) : AnsI w zs (.returned (.tuple #[v, .bool false])) w1 := by
  unfold AnsI
  rw [h]
  exact ⟨_, rfl, ho, hb⟩
theorem ansI_yes {w w1 : World} {zs : List Int} {v : Value} {l : List ByteArray} (h : okR zs = some l) (ho : w1.ownsRow w.heap.size 9 1 v l.length (l.map Value.string)) (hb : Below w.heap.size w w1) : AnsI w zs (.returned (.tuple #[v, .bool true])) w1 := by
  unfold AnsI
  rw [h]
  exact ⟨_, rfl, ho, hb⟩

set_option maxRecDepth 100000 in
set_option maxHeartbeats 2000000 in
theorem c39 (zs : List Int) (w : World) (hz : ∀ z ∈ zs, 0 ≤ z ∧ z < 256) (hn : zs.length ≤ 65536) :
    Calls Tryz.prog 266 #[.string (strOfNums zs)] w (AnsI w zs) := by
  have hown0 : (w.alloc (.cells #[] 9)).ownsRow w.heap.size 9 1 (.slice (some ⟨w.heap.size, 0, none⟩) 0 0) 0 [] := World.ownsRow_lit w #[] 0 (Nat.le_refl _) (Nat.zero_le _) rfl
  have hb0 : Below w.heap.size w (w.alloc (.cells #[] 9)) := (Below.refl _ _).alloc (Nat.le_refl _) _
  obtain ⟨t, ht⟩ : ∃ t, t = strOfNums zs := ⟨_, rfl⟩
  rw [← ht]
  have hts : t.size = zs.length := by rw [ht, strOfNums_size]
  have HG : Hid (∀ p (h : p < t.size), ((t[p]'h).toNat : Int) = zs.getD p 0) := by
    intro p h; subst ht; exact son_get hz h
  have HC : Hid (∀ a b, t.extract a b = strOfNums ((zs.drop a).take (b - a))) := by
    intro a b; rw [ht]; exact son_cut zs a b
  clear ht
  cases zs with
  | nil =>
    have he : t.toList.isEmpty = true := by
      have : t.size = 0 := by simpa using hts
      rw [ByteArray.toList_eq]
      cases t with | mk d => simp [ByteArray.size] at this; simp [this]
    go_enter Tryz.func266, Tryz.ntmps266
    go_wp2
    go_ret2
    exact ansI_no' rfl hown0 hb0
  | cons z0 zt =>
    have hpos : 0 < t.size := by rw [hts]; simp
    have he : t.toList.isEmpty = false := by
      rw [ByteArray.toList_eq]
      cases t with | mk d => simp [ByteArray.size] at hpos; simp; intro h; simp [h] at hpos
    obtain ⟨h, hh⟩ := Int.eq_ofNat_of_zero_le (hz z0 (List.mem_cons_self ..)).1
    subst hh
    have h0 : ((t[0]'hpos).toNat : Int) = (h : Int) := by rw [HG.out 0 hpos]; rfl
    have hh256 := (hz (h : Int) (List.mem_cons_self ..)).2
    by_cases h100 : 100 < (h : Int)
    · have E : Hid (okR ((h : Int) :: zt) = none) := by show (if 100 < (h : Int) then none else _) = none; rw [if_pos h100]
      go_enter Tryz.func266, Tryz.ntmps266
      go_wp2
      go_ret2
      exact ansI_no' E.out hown0 hb0
    · have HOK : Hid (okR ((h : Int) :: zt) = rd h zt) := by show (if 100 < (h : Int) then none else rd (h : Int).toNat zt) = rd h zt; rw [if_neg h100]; simp
      obtain ⟨al, hal⟩ : ∃ al : List Int, al = (h : Int) :: zt := ⟨_, rfl⟩
      have HAL : Hid (al = (h : Int) :: zt) := hal
      have HTS : Hid (t.size = al.length) := by rw [hal]; exact hts
      have HGA : Hid (∀ p (h : p < t.size), ((t[p]'h).toNat : Int) = al.getD p 0) := by rw [hal]; exact HG.out
      have HCA : Hid (∀ a b, t.extract a b = strOfNums ((al.drop a).take (b - a))) := by rw [hal]; exact HC.out
      have HZA : Hid (∀ z ∈ al, 0 ≤ z ∧ z < 256) := by rw [hal]; exact hz
      have htn : t.size ≤ 65536 := by rw [hts]; exact hn
      have hh100 : h ≤ 100 := by omega
      obtain ⟨i0, hi, hz0, hz1, hz2⟩ := info_parts infoS9
      rw [← hal]
      have HOK : Hid (okR al = rd h zt) := by rw [hal]; exact HOK
      clear hal hts HG HC hz hn
      go_enter Tryz.func266, Tryz.ntmps266
      go_wp2
      go_loopw [4, 5, 6] (fun v x i wr => ∃ (c p : Nat) (done : List ByteArray), c ≤ h ∧ 1 ≤ p ∧ p ≤ t.size ∧ i = .int .i64 (c : Int) ∧ x = .int .i64 (p : Int) ∧ done.length + c = h ∧ Hid (onR done (rd c (al.drop p)) = rd h zt) ∧ wr.ownsRow w.heap.size 9 1 v done.length (done.map Value.string) ∧ Below w.heap.size w wr) (fun _ _ i _ => (intOf i).toNat)
      case atStart => exact ⟨h, 1, [], by omega, by omega, by omega, rfl, rfl, by simp, by rw [HAL.out]; exact onR_start _, hown0, hb0⟩
      case round =>
        obtain ⟨c, p, done, hc, hp1, hp2, rfl, rfl, hdl, HON, hown, hb⟩ := hrel
        have HDL : Hid (done.length + c = h) := hdl
        have hdl : done.length ≤ 100 := by omega
        clear hown0 hb0 h0 he hh256 h100
        by_cases hc0 : 0 < c
        · by_cases hp : t.size ≤ p
          · have E : Hid (okR al = none) := by rw [HOK.out, ← HON.out, rd_none hc0 (by rw [List.length_drop]; have := HTS.out; omega)]; rfl
            go_wp2
            go_ret2
            exact ansI_no E.out hb
          · have hpt : p < t.size := by omega
            obtain ⟨k, hk⟩ : ∃ k : Nat, (t[p]'hpt).toNat = k := ⟨_, rfl⟩
            have hk256 : k < 256 := by have := (t[p]'hpt).toNat_lt; omega
            have HK : Hid ((k : Int) = al.getD p 0) := by unfold Hid; rw [← HGA.out p hpt, hk]
            have HDR : Hid (al.drop p = (k : Int) :: al.drop (p + 1)) := by
              have hpl : p < al.length := by have := HTS.out; omega
              unfold Hid
              rw [List.drop_eq_getElem_cons hpl, HK.out, List.getD_eq_getElem?_getD, List.getElem?_eq_getElem hpl]
              rfl
            have hix : ∀ wx : World, (Instr.index 9 (.string t) (.int .i64 (p : Int))).run Tryz.prog wx = .ok (.int .u8 (k : Int)) wx := fun wx => by
              rw [run_index_string _ _ _ _ _ Tryz.underlying9, ← hk]
              simp [hpt]
            clear hp hk
            by_cases hsh : t.size < p + 1 + k
            · have E : Hid (okR al = none) := by rw [HOK.out, ← HON.out, HDR.out, rd_short hc0 (by rw [List.length_drop]; have := HTS.out; simp; omega)]; rfl
              go_wp2
              go_ret2
              exact ansI_no E.out hb
            · have HST : Hid (onR done (rd c (al.drop p)) = onR (done ++ [t.extract (p + 1) (p + 1 + k)]) (rd (c - 1) (al.drop (p + (1 + k))))) := by
                have := onR_step (done := done) (c := c - 1) (z := (k : Int)) (r := al.drop (p + 1)) (by rw [List.length_drop]; have := HTS.out; simp; omega)
                rw [show c - 1 + 1 = c by omega, ← HDR.out, List.drop_drop] at this
                rw [HCA.out, show p + 1 + k - (p + 1) = k by omega, show p + (1 + k) = p + 1 + k by omega]
                exact this
              obtain ⟨x, hx⟩ : ∃ x, x = t.extract (p + 1) (p + 1 + k) := ⟨_, rfl⟩
              have HX : Hid (x = t.extract (p + 1) (p + 1 + k)) := hx
              have hx2 : t.extract (p + 1) (p + 1 + k) = x := hx.symm
              obtain ⟨av, cv, hv⟩ := own_slice' hown
              subst hv
              have hbs : w.heap.size ≤ wr.heap.size := hb.size
              clear hx
              go_wp2_with (at_builtin; refine wpList_append_lies _ rfl (.tmp 45) (.tmp 54) 22 rfl w.heap.size 9 i0 (.string ⟨#[]⟩) 1 16 Tryz.underlying22 hi hz0 hz1 hz2 rfl (by omega) (.slice av done.length cv) done.length (done.map Value.string) rfl (hown.alloc _) ⟨wr.heap.size, 0, none⟩ 1 1 [.string x] rfl rfl (cell_one_new wr _ _) (by intro u hu; simp at hu; subst hu; rfl) (by omega) (by unfold maxLen; omega) (by omega) (by simp; omega) (wr.heap.size + 1) (by simp) ?_; intro g cp w1 hown1 hgr1 hat1 hlt1)
              have hb1 : Below w.heap.size w w1 := (hb.alloc hbs _).grown hgr1 (by simp; omega) (fun j hj => (hown.lt j hj).1)
              have hown2 : w1.ownsRow w.heap.size 9 1 (.slice (some ⟨g, 0, none⟩) (done.length + 1) cp) (done ++ [x]).length ((done ++ [x]).map Value.string) := by rw [List.map_append, List.length_append]; exact hown1
              go_roundw
              case rel => exact ⟨c - 1, p + (1 + k), done ++ [x], by omega, by omega, by omega, by go_num, by go_num, by have := HDL.out; simp; omega, by rw [HX.out, ← HST.out]; exact HON.out, hown2, hb1⟩
              case measure => simp [intOf]; omega
        · have hcz : c = 0 := by omega
          subst hcz
          by_cases hp : p = t.size
          · have E : Hid (okR al = some done) := by rw [HOK.out, ← HON.out, rd_done, if_pos (by rw [List.length_drop]; have := HTS.out; omega)]; exact onR_nil done
            have hp' : ((p : Int) != (t.size : Int)) = false := by simp [hp]
            clear hp
            go_wp2
            go_ret2
            exact ansI_yes E.out hown hb
          · have E : Hid (okR al = none) := by rw [HOK.out, ← HON.out, rd_done, if_neg (by rw [List.length_drop]; have := HTS.out; omega)]; rfl
            have hp' : ((p : Int) != (t.size : Int)) = true := by simp; omega
            clear hp
            go_wp2
            go_ret2
            exact ansI_no E.out hb

end Go.Proofs.YtkpopingbbaomaaGreatDoor
