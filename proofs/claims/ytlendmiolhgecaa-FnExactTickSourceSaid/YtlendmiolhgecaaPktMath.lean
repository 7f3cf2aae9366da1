/-
  Packets: what is valid, the octets, the check, the text of digits and back. No program.
-/
import Derived.Test.YtlendmiolhgecaaSer2
namespace Go.Proofs.Ytlendmiolhgecaa
open Go.RowKit Go.Lib
set_option linter.unusedVariables false

def letB (b : UInt8) : Bool := decide (97 ≤ b.toNat) && decide (b.toNat ≤ 122)
def ltrB (s : ByteArray) : Bool := s.data.toList.all letB
/-- Whether a packet with these fields is valid. -/
def pktOk (k n t l : Int) (d : ByteArray) : Bool :=
  inB k 1 5 && (serB n && (serB t && (serB l && (decide (gapI t l ≤ 32767) && (ltrB d && (decide (d.size ≤ 8) && (decide (d.size = 0) || inB k 1 2)))))))

theorem pktOk_bd {k n t l : Int} {d : ByteArray} (h : pktOk k n t l d = true) :
    (1 ≤ k ∧ k ≤ 5) ∧ (0 ≤ n ∧ n ≤ 65535) ∧ (0 ≤ t ∧ t ≤ 65535) ∧ (0 ≤ l ∧ l ≤ 65535) ∧ gapI t l ≤ 32767 ∧ ltrB d = true ∧ d.size ≤ 8 ∧ (d.size = 0 ∨ k ≤ 2) := by
  unfold pktOk at h
  simp only [Bool.and_eq_true, Bool.or_eq_true, decide_eq_true_eq] at h
  obtain ⟨h1, h2, h3, h4, h5, h6, h7, h8⟩ := h
  exact ⟨inB_bd h1, serB_bd h2, serB_bd h3, serB_bd h4, h5, h6, h7, h8.imp id (fun h => (inB_bd h).2)⟩

/-- The bytes of a text, as numbers. -/
def datI (d : ByteArray) : List Int := d.data.toList.map (fun b => (b.toNat : Int))
theorem datI_len (d : ByteArray) : (datI d).length = d.size := by unfold datI; rw [List.length_map]; rfl
theorem datI_at (d : ByteArray) (i : Nat) (h : i < d.size) : (datI d)[i]? = some (d[i].toNat : Int) := by
  unfold datI
  rw [List.getElem?_map, List.getElem?_eq_getElem (show i < d.data.toList.length from h)]
  rfl
theorem datI_take {d : ByteArray} {i : Nat} (h : i < d.size) : (datI d).take (i + 1) = (datI d).take i ++ [(d[i].toNat : Int)] := by
  have hl : i < (datI d).length := by rw [datI_len]; exact h
  rw [List.take_succ_eq_append_getElem hl]
  congr 2
  have := datI_at d i h
  rw [List.getElem?_eq_getElem hl] at this
  exact Option.some.inj this
theorem datI_bd (d : ByteArray) : ∀ x ∈ datI d, 0 ≤ x ∧ x ≤ 255 := by
  intro x hx
  obtain ⟨b, _, rfl⟩ := List.mem_map.1 hx
  have : b.toNat < 256 := b.toNat_lt
  omega
theorem datI_inj {d e : ByteArray} (h : datI d = datI e) : d = e := by
  have hf : Function.Injective (fun b : UInt8 => (b.toNat : Int)) := fun a b h => UInt8.toNat_inj.1 (by have h2 : (a.toNat : Int) = (b.toNat : Int) := h; omega)
  have := (List.map_inj_right (fun a b h => hf h)).1 h
  apply ByteArray.ext
  exact Array.toList_inj.1 this
/-- .. and back. -/
def bytI (xs : List Int) : ByteArray := ⟨(xs.map (fun x => UInt8.ofNat x.toNat)).toArray⟩
theorem bytI_dat (d : ByteArray) : bytI (datI d) = d := by
  apply ByteArray.ext
  unfold bytI datI
  rw [List.map_map]
  have : ((fun x : Int => UInt8.ofNat x.toNat) ∘ fun b : UInt8 => (b.toNat : Int)) = id := by
    funext b
    simp
  rw [this, List.map_id]

/-- The weighted sum of the first ones. -/
def wS (xs : List Int) : Nat → Int
  | 0 => 0
  | k + 1 => wS xs k + ((k : Int) + 1) * xs.getD k 0
def ckI (xs : List Int) : Int := wS xs xs.length % 65521
def bodyI (k n t l : Int) (d : ByteArray) : List Int := [k, n / 256, n % 256, t / 256, t % 256, l / 256, l % 256, (d.size : Int)] ++ datI d
def octI (k n t l : Int) (d : ByteArray) : List Int := bodyI k n t l d ++ [ckI (bodyI k n t l d) / 256, ckI (bodyI k n t l d) % 256]

theorem wS_bd {xs : List Int} (h : ∀ x ∈ xs, 0 ≤ x ∧ x ≤ 255) : ∀ k : Nat, k ≤ 1000 → 0 ≤ wS xs k ∧ wS xs k ≤ 255000 * (k : Int)
  | 0, _ => by simp [wS]
  | k + 1, hk => by
    have ih := wS_bd h k (by omega)
    have hx : 0 ≤ xs.getD k 0 ∧ xs.getD k 0 ≤ 255 := by
      rw [List.getD_eq_getElem?_getD]
      cases e : xs[k]? with
      | none => simp
      | some y => exact h y (List.mem_of_getElem? e)
    unfold wS
    have h1 : 0 ≤ ((k : Int) + 1) * xs.getD k 0 := Int.mul_nonneg (by omega) hx.1
    have h2 : ((k : Int) + 1) * xs.getD k 0 ≤ 1000 * 255 := Int.mul_le_mul (by omega) hx.2 hx.1 (by omega)
    omega
theorem wS_append (xs ys : List Int) : ∀ k : Nat, k ≤ xs.length → wS (xs ++ ys) k = wS xs k
  | 0, _ => rfl
  | k + 1, h => by
    unfold wS
    rw [wS_append xs ys k (by omega), List.getD_eq_getElem?_getD, List.getD_eq_getElem?_getD, List.getElem?_append_left (by omega)]
theorem ckI_bd (xs : List Int) : 0 ≤ ckI xs ∧ ckI xs ≤ 65520 := by unfold ckI; omega
theorem bodyI_len (k n t l : Int) (d : ByteArray) : (bodyI k n t l d).length = d.size + 8 := by unfold bodyI; rw [List.length_append, datI_len]; simp; omega
theorem octI_len (k n t l : Int) (d : ByteArray) : (octI k n t l d).length = d.size + 10 := by unfold octI; rw [List.length_append, bodyI_len]; rfl
theorem bodyI_bd {k n t l : Int} {d : ByteArray} (h : pktOk k n t l d = true) : ∀ x ∈ bodyI k n t l d, 0 ≤ x ∧ x ≤ 255 := by
  obtain ⟨hk, hn, ht, hl, _, _, hd, _⟩ := pktOk_bd h
  intro x hx
  unfold bodyI at hx
  rcases List.mem_append.1 hx with hx | hx
  · simp only [List.mem_cons, List.not_mem_nil, or_false] at hx
    omega
  · exact datI_bd d x hx
theorem octI_bd {k n t l : Int} {d : ByteArray} (h : pktOk k n t l d = true) : ∀ x ∈ octI k n t l d, 0 ≤ x ∧ x ≤ 255 := by
  intro x hx
  unfold octI at hx
  rcases List.mem_append.1 hx with hx | hx
  · exact bodyI_bd h x hx
  · have := ckI_bd (bodyI k n t l d)
    simp only [List.mem_cons, List.not_mem_nil, or_false] at hx
    omega

/-- A digit, and its value (or -1). -/
def hexC (v : Int) : UInt8 := if v < 10 then UInt8.ofNat (48 + v.toNat) else UInt8.ofNat (55 + v.toNat)
def hexV (b : UInt8) : Int := if 48 ≤ b.toNat ∧ b.toNat ≤ 57 then (b.toNat : Int) - 48 else if 65 ≤ b.toNat ∧ b.toNat ≤ 70 then (b.toNat : Int) - 55 else -1
theorem hexV_hexC {v : Int} (h0 : 0 ≤ v) (h1 : v < 16) : hexV (hexC v) = v := by
  obtain ⟨u, rfl⟩ : ∃ u : Nat, v = u := ⟨v.toNat, by omega⟩
  have hu : u < 16 := by omega
  have : ∀ i : Fin 16, hexV (hexC ((i.val : Nat) : Int)) = ((i.val : Nat) : Int) := by decide +kernel
  exact this ⟨u, hu⟩
theorem hexV_bd (b : UInt8) : -1 ≤ hexV b ∧ hexV b ≤ 15 := by unfold hexV; split <;> (try split) <;> omega
theorem hexC_hexV {b : UInt8} (h : 0 ≤ hexV b) : hexC (hexV b) = b := by
  have : ∀ i : Fin 256, 0 ≤ hexV (UInt8.ofNat i.val) → hexC (hexV (UInt8.ofNat i.val)) = UInt8.ofNat i.val := by decide +kernel
  have hb : UInt8.ofNat b.toNat = b := by simp
  have h2 := this ⟨b.toNat, b.toNat_lt⟩
  simp only [hb] at h2
  exact h2 h
def encL (xs : List Int) : List UInt8 := xs.flatMap (fun o => [hexC (o / 16), hexC (o % 16)])
def encB (k n t l : Int) (d : ByteArray) : ByteArray := ⟨(encL (octI k n t l d)).toArray⟩
theorem encL_snoc (xs : List Int) (x : Int) : encL (xs ++ [x]) = encL xs ++ [hexC (x / 16), hexC (x % 16)] := by simp [encL]
theorem encL_len (xs : List Int) : (encL xs).length = 2 * xs.length := by
  induction xs with
  | nil => rfl
  | cons x xs ih => simp only [encL, List.flatMap_cons, List.length_append, List.length_cons, List.length_nil] at ih ⊢; omega
theorem encL_at : ∀ (xs : List Int) (i : Nat) (h : i < xs.length), (encL xs)[2 * i]? = some (hexC (xs[i] / 16)) ∧ (encL xs)[2 * i + 1]? = some (hexC (xs[i] % 16))
  | [], i, h => by simp at h
  | x :: xs, 0, _ => by simp [encL]
  | x :: xs, i + 1, h => by
    have := encL_at xs i (by simpa using h)
    have e : encL (x :: xs) = hexC (x / 16) :: hexC (x % 16) :: encL xs := by simp [encL]
    rw [e, show 2 * (i + 1) = 2 * i + 1 + 1 by omega]
    simp only [List.getElem?_cons_succ, List.getElem_cons_succ]
    exact this
theorem encB_size (k n t l : Int) (d : ByteArray) : (encB k n t l d).size = 2 * d.size + 20 := by
  show (encL (octI k n t l d)).toArray.size = _
  rw [List.size_toArray, encL_len, octI_len]; omega

/-- The octets that a text spells. -/
def byteH (s : ByteArray) (i : Nat) : Int := if h : i < s.size then hexV s[i] else -1
def octT (s : ByteArray) (j : Nat) : Int := 16 * byteH s (2 * j) + byteH s (2 * j + 1)
def octsT (s : ByteArray) (m : Nat) : List Int := (List.range m).map (octT s)
def digsB (s : ByteArray) : Bool := s.data.toList.all (fun b => decide (0 ≤ hexV b))
def shpB (s : ByteArray) : Bool := decide (s.size % 2 = 0) && (decide (20 ≤ s.size) && (decide (s.size ≤ 36) && digsB s))
theorem octsT_len (s : ByteArray) (m : Nat) : (octsT s m).length = m := by simp [octsT]
theorem octsT_succ (s : ByteArray) (m : Nat) : octsT s (m + 1) = octsT s m ++ [octT s m] := by simp [octsT, List.range_succ]
theorem octsT_at (s : ByteArray) (m i : Nat) (h : i < m) : (octsT s m).getD i 0 = octT s i := by
  rw [List.getD_eq_getElem?_getD]
  simp [octsT, h]
theorem byteH_in {s : ByteArray} {i : Nat} (h : i < s.size) : byteH s i = hexV s[i] := dif_pos h
theorem digs_at {s : ByteArray} (h : digsB s = true) {i : Nat} (hi : i < s.size) : 0 ≤ hexV s[i] := by
  unfold digsB at h
  rw [List.all_eq_true] at h
  exact of_decide_eq_true (h s[i] (by
    have : s[i] = s.data.toList[i]'hi := rfl
    rw [this]; exact List.getElem_mem _))
theorem octT_bd {s : ByteArray} (h : digsB s = true) {j : Nat} (hj : 2 * j + 1 < s.size) : 0 ≤ octT s j ∧ octT s j ≤ 255 := by
  unfold octT
  rw [byteH_in (show 2 * j < s.size by omega), byteH_in hj]
  have h1 := digs_at h (show 2 * j < s.size by omega)
  have h2 := digs_at h hj
  have h3 := hexV_bd s[2 * j]
  have h4 := hexV_bd s[2 * j + 1]
  omega

/-- The fields that a text spells. -/
def dK (s : ByteArray) : Int := octT s 0
def dN (s : ByteArray) : Int := 256 * octT s 1 + octT s 2
def dT (s : ByteArray) : Int := 256 * octT s 3 + octT s 4
def dL (s : ByteArray) : Int := 256 * octT s 5 + octT s 6
def dD (s : ByteArray) : ByteArray := bytI (((octsT s (s.size / 2)).drop 8).take (s.size / 2 - 10))
def decOk (s : ByteArray) : Bool := shpB s && (pktOk (dK s) (dN s) (dT s) (dL s) (dD s) && decide (encB (dK s) (dN s) (dT s) (dL s) (dD s) = s))

theorem enc_at {k n t l : Int} {d : ByteArray} {i : Nat} (h : i < d.size + 10) :
    byteH (encB k n t l d) (2 * i) = hexV (hexC ((octI k n t l d).getD i 0 / 16)) ∧ byteH (encB k n t l d) (2 * i + 1) = hexV (hexC ((octI k n t l d).getD i 0 % 16)) := by
  have hl : i < (octI k n t l d).length := by rw [octI_len]; exact h
  obtain ⟨e1, e2⟩ := encL_at (octI k n t l d) i hl
  have hg : (octI k n t l d).getD i 0 = (octI k n t l d)[i] := by rw [List.getD_eq_getElem?_getD, List.getElem?_eq_getElem hl]; rfl
  have hs := encB_size k n t l d
  constructor
  · rw [byteH_in (by omega), hg]
    have : (encB k n t l d)[2 * i]'(by omega) = hexC ((octI k n t l d)[i] / 16) := by
      have h2 := (List.getElem?_eq_some_iff.1 e1).2
      rw [← h2]; rfl
    rw [this]
  · rw [byteH_in (by omega), hg]
    have : (encB k n t l d)[2 * i + 1]'(by omega) = hexC ((octI k n t l d)[i] % 16) := by
      have h2 := (List.getElem?_eq_some_iff.1 e2).2
      rw [← h2]; rfl
    rw [this]
theorem enc_oct {k n t l : Int} {d : ByteArray} (hp : pktOk k n t l d = true) {i : Nat} (h : i < d.size + 10) : octT (encB k n t l d) i = (octI k n t l d).getD i 0 := by
  obtain ⟨e1, e2⟩ := enc_at (k := k) (n := n) (t := t) (l := l) h
  have hl : i < (octI k n t l d).length := by rw [octI_len]; exact h
  have hb := octI_bd hp (octI k n t l d)[i] (List.getElem_mem hl)
  have hg : (octI k n t l d).getD i 0 = (octI k n t l d)[i] := by rw [List.getD_eq_getElem?_getD, List.getElem?_eq_getElem hl]; rfl
  unfold octT
  rw [e1, e2, hg, hexV_hexC (by omega) (by omega), hexV_hexC (by omega) (by omega)]
  omega
theorem enc_octs {k n t l : Int} {d : ByteArray} (hp : pktOk k n t l d = true) : octsT (encB k n t l d) (d.size + 10) = octI k n t l d := by
  apply List.ext_getElem?
  intro i
  unfold octsT
  rw [List.getElem?_map]
  by_cases h : i < d.size + 10
  · rw [List.getElem?_range h]
    have hl : i < (octI k n t l d).length := by rw [octI_len]; exact h
    rw [List.getElem?_eq_getElem hl]
    show some (octT _ i) = _
    rw [enc_oct hp h, List.getD_eq_getElem?_getD, List.getElem?_eq_getElem hl]; rfl
  · rw [List.getElem?_eq_none (by simp; omega), List.getElem?_eq_none (by rw [octI_len]; omega)]; rfl
theorem enc_digs {k n t l : Int} {d : ByteArray} (hp : pktOk k n t l d = true) : digsB (encB k n t l d) = true := by
  unfold digsB
  rw [List.all_eq_true]
  intro b hb
  have hb2 : b ∈ encL (octI k n t l d) := by simpa [encB] using hb
  unfold encL at hb2
  obtain ⟨o, ho, hb3⟩ := List.mem_flatMap.1 hb2
  have hbd := octI_bd hp o ho
  simp only [List.mem_cons, List.not_mem_nil, or_false] at hb3
  apply decide_eq_true
  rcases hb3 with rfl | rfl
  · rw [hexV_hexC (by omega) (by omega)]; omega
  · rw [hexV_hexC (by omega) (by omega)]; omega
theorem enc_shp {k n t l : Int} {d : ByteArray} (hp : pktOk k n t l d = true) : shpB (encB k n t l d) = true := by
  obtain ⟨_, _, _, _, _, _, hd, _⟩ := pktOk_bd hp
  have hs := encB_size k n t l d
  unfold shpB
  rw [decide_eq_true (by omega), decide_eq_true (by omega), decide_eq_true (by omega), enc_digs hp]; rfl
/-- The fields of the text of a valid packet. -/
theorem enc_fields {k n t l : Int} {d : ByteArray} (hp : pktOk k n t l d = true) : dK (encB k n t l d) = k ∧ dN (encB k n t l d) = n ∧ dT (encB k n t l d) = t ∧ dL (encB k n t l d) = l ∧ dD (encB k n t l d) = d := by
  obtain ⟨hk, hn, ht, hl, _, _, hd, _⟩ := pktOk_bd hp
  have hg : ∀ i, i < 8 → (octI k n t l d).getD i 0 = [k, n / 256, n % 256, t / 256, t % 256, l / 256, l % 256, (d.size : Int)].getD i 0 := by
    intro i hi
    unfold octI bodyI
    rw [List.getD_eq_getElem?_getD, List.getD_eq_getElem?_getD, List.append_assoc, List.getElem?_append_left (by simpa using hi)]
  have ho : ∀ i, i < 8 → octT (encB k n t l d) i = [k, n / 256, n % 256, t / 256, t % 256, l / 256, l % 256, (d.size : Int)].getD i 0 := fun i hi => by
    rw [enc_oct hp (by omega), hg i hi]
  refine ⟨?_, ?_, ?_, ?_, ?_⟩
  · unfold dK; rw [ho 0 (by omega)]; rfl
  · unfold dN; rw [ho 1 (by omega), ho 2 (by omega)]; show 256 * (n / 256) + n % 256 = n; omega
  · unfold dT; rw [ho 3 (by omega), ho 4 (by omega)]; show 256 * (t / 256) + t % 256 = t; omega
  · unfold dL; rw [ho 5 (by omega), ho 6 (by omega)]; show 256 * (l / 256) + l % 256 = l; omega
  · unfold dD
    rw [encB_size, show (2 * d.size + 20) / 2 = d.size + 10 by omega, enc_octs hp, show d.size + 10 - 10 = d.size by omega]
    have : ((octI k n t l d).drop 8).take d.size = datI d := by
      unfold octI bodyI
      rw [List.append_assoc, List.drop_append_of_le_length (by simp)]
      show (([] : List Int) ++ (datI d ++ _)).take d.size = _
      rw [List.nil_append, List.take_append_of_le_length (by rw [datI_len]; exact Nat.le_refl _), List.take_of_length_le (by rw [datI_len]; exact Nat.le_refl _)]
    rw [this, bytI_dat]
theorem dec_enc {k n t l : Int} {d : ByteArray} (hp : pktOk k n t l d = true) : decOk (encB k n t l d) = true := by
  obtain ⟨e1, e2, e3, e4, e5⟩ := enc_fields hp
  unfold decOk
  rw [e1, e2, e3, e4, e5, enc_shp hp, hp]
  simp
theorem decOk_shp {s : ByteArray} (h : decOk s = true) : shpB s = true := by unfold decOk at h; rw [Bool.and_eq_true] at h; exact h.1
theorem decOk_pkt {s : ByteArray} (h : decOk s = true) : pktOk (dK s) (dN s) (dT s) (dL s) (dD s) = true := by unfold decOk at h; simp only [Bool.and_eq_true] at h; exact h.2.1
theorem decOk_enc {s : ByteArray} (h : decOk s = true) : encB (dK s) (dN s) (dT s) (dL s) (dD s) = s := by unfold decOk at h; simp only [Bool.and_eq_true] at h; exact of_decide_eq_true h.2.2

/-! One digit changed. -/
theorem wS_diff {xs ys : List Int} {j : Nat} (he : ∀ i, i ≠ j → xs.getD i 0 = ys.getD i 0) : ∀ m : Nat, wS xs m - wS ys m = if j < m then ((j : Int) + 1) * (xs.getD j 0 - ys.getD j 0) else 0
  | 0 => by simp [wS]
  | m + 1 => by
    have ih := wS_diff he m
    unfold wS
    by_cases h : j < m
    · rw [if_pos h] at ih
      rw [if_pos (by omega), he m (by omega)]
      omega
    · rw [if_neg h] at ih
      by_cases h2 : j = m
      · subst h2
        rw [if_pos (by omega), Int.mul_sub]
        omega
      · rw [if_neg (by omega), he m (by omega)]
        omega
theorem oct_body (k n t l : Int) (d : ByteArray) (i : Nat) (h : i < d.size + 8) : (octI k n t l d).getD i 0 = (bodyI k n t l d).getD i 0 := by
  unfold octI
  rw [List.getD_eq_getElem?_getD, List.getD_eq_getElem?_getD, List.getElem?_append_left (by rw [bodyI_len]; exact h)]
theorem oct_hi (k n t l : Int) (d : ByteArray) : (octI k n t l d).getD (d.size + 8) 0 = ckI (bodyI k n t l d) / 256 := by
  unfold octI
  rw [List.getD_eq_getElem?_getD, List.getElem?_append_right (by rw [bodyI_len]; exact Nat.le_refl _), bodyI_len, Nat.sub_self]; rfl
theorem oct_lo (k n t l : Int) (d : ByteArray) : (octI k n t l d).getD (d.size + 9) 0 = ckI (bodyI k n t l d) % 256 := by
  unfold octI
  rw [List.getD_eq_getElem?_getD, List.getElem?_append_right (by rw [bodyI_len]; omega), bodyI_len, show d.size + 9 - (d.size + 8) = 1 by omega]; rfl
theorem mod_step {A B c x y : Int} (c0 : 1 ≤ c) (c1 : c ≤ 16) (hw : A - B = c * (x - y)) (hck : A % 65521 = B % 65521) (b1 : 0 ≤ x ∧ x ≤ 255) (b2 : 0 ≤ y ∧ y ≤ 255) : x = y := by
  have h1 : c * (x - y) ≤ 16 * 255 := by
    rcases (by omega : x - y ≤ 0 ∨ 0 ≤ x - y) with h | h
    · have : c * (x - y) ≤ 0 := Int.mul_nonpos_of_nonneg_of_nonpos (by omega) h
      omega
    · exact Int.mul_le_mul c1 (by omega) h (by omega)
  have h2 : -(16 * 255) ≤ c * (x - y) := by
    rcases (by omega : x - y ≤ 0 ∨ 0 ≤ x - y) with h | h
    · have : c * (y - x) ≤ 16 * 255 := Int.mul_le_mul c1 (by omega) (by omega) (by omega)
      have e : c * (y - x) = -(c * (x - y)) := by rw [← Int.mul_neg]; congr 1; omega
      omega
    · have : 0 ≤ c * (x - y) := Int.mul_nonneg (by omega) h
      omega
  have h3 : c * (x - y) = 0 := by omega
  rcases Int.mul_eq_zero.1 h3 with h | h <;> omega
/-- Two valid packets' octets that are the same but at one place are the same there. -/
theorem oct_one {k n t l k' n' t' l' : Int} {d d' : ByteArray} (hp : pktOk k n t l d = true) (hq : pktOk k' n' t' l' d' = true) (hs : d.size = d'.size) {j : Nat} (hj : j < d.size + 10)
    (he : ∀ i, i ≠ j → (octI k n t l d).getD i 0 = (octI k' n' t' l' d').getD i 0) : (octI k n t l d).getD j 0 = (octI k' n' t' l' d').getD j 0 := by
  obtain ⟨_, _, _, _, _, _, hd, _⟩ := pktOk_bd hp
  have hB : ∀ i, i ≠ j → (bodyI k n t l d).getD i 0 = (bodyI k' n' t' l' d').getD i 0 := by
    intro i hi
    by_cases hb : i < d.size + 8
    · rw [← oct_body k n t l d i hb, ← oct_body k' n' t' l' d' i (by omega)]; exact he i hi
    · rw [List.getD_eq_getElem?_getD, List.getD_eq_getElem?_getD, List.getElem?_eq_none (by rw [bodyI_len]; omega), List.getElem?_eq_none (by rw [bodyI_len]; omega)]
  have hw := wS_diff hB (d.size + 8)
  by_cases hjb : j < d.size + 8
  · rw [if_pos hjb] at hw
    have h1 := oct_hi k n t l d
    have h2 := oct_lo k n t l d
    have h3 := oct_hi k' n' t' l' d'
    have h4 := oct_lo k' n' t' l' d'
    rw [he _ (by omega), hs, h3] at h1
    rw [he _ (by omega), hs, h4] at h2
    have hck : ckI (bodyI k n t l d) = ckI (bodyI k' n' t' l' d') := by omega
    unfold ckI at hck
    rw [bodyI_len, bodyI_len, ← hs] at hck
    rw [oct_body k n t l d j hjb, oct_body k' n' t' l' d' j (by omega)]
    have hx : ∀ (xs : List Int), (∀ x ∈ xs, 0 ≤ x ∧ x ≤ 255) → 0 ≤ xs.getD j 0 ∧ xs.getD j 0 ≤ 255 := by
      intro xs h
      rw [List.getD_eq_getElem?_getD]
      cases e : xs[j]? with
      | none => simp
      | some y => exact h y (List.mem_of_getElem? e)
    have b1 := hx _ (bodyI_bd hp)
    have b2 := hx _ (bodyI_bd hq)
    generalize (bodyI k n t l d).getD j 0 = x at hw b1 ⊢
    generalize (bodyI k' n' t' l' d').getD j 0 = y at hw b2 ⊢
    generalize wS (bodyI k n t l d) (d.size + 8) = A at hw hck
    generalize wS (bodyI k' n' t' l' d') (d.size + 8) = B at hw hck
    have hj16 : j < 16 := by omega
    exact mod_step (by omega) (by omega) hw hck b1 b2
  · rw [if_neg hjb] at hw
    have hck : ckI (bodyI k n t l d) = ckI (bodyI k' n' t' l' d') := by
      unfold ckI
      rw [bodyI_len, bodyI_len, ← hs]
      congr 1
      omega
    rcases (by omega : j = d.size + 8 ∨ j = d.size + 9) with rfl | rfl
    · rw [oct_hi, hs, oct_hi, hck]
    · rw [oct_lo, hs, oct_lo, hck]
/-- Two texts of valid packets that are the same but at one byte are the same there. -/
theorem enc_one {k n t l k' n' t' l' : Int} {d d' : ByteArray} (hp : pktOk k n t l d = true) (hq : pktOk k' n' t' l' d' = true) (hs : d.size = d'.size) {i : Nat} (hi : i < 2 * d.size + 20)
    (he : ∀ q, q ≠ i → byteH (encB k n t l d) q = byteH (encB k' n' t' l' d') q) : byteH (encB k n t l d) i = byteH (encB k' n' t' l' d') i := by
  obtain ⟨j, hj⟩ : ∃ j, j = i / 2 := ⟨_, rfl⟩
  have hO : ∀ q, q ≠ j → (octI k n t l d).getD q 0 = (octI k' n' t' l' d').getD q 0 := by
    intro q hq'
    by_cases hb : q < d.size + 10
    · rw [← enc_oct hp hb, ← enc_oct hq (by omega)]
      unfold octT
      rw [he (2 * q) (by omega), he (2 * q + 1) (by omega)]
    · rw [List.getD_eq_getElem?_getD, List.getD_eq_getElem?_getD, List.getElem?_eq_none (by rw [octI_len]; omega), List.getElem?_eq_none (by rw [octI_len]; omega)]
  have hJ := oct_one hp hq hs (j := j) (by omega) hO
  obtain ⟨e1, e2⟩ := enc_at (k := k) (n := n) (t := t) (l := l) (d := d) (i := j) (by omega)
  obtain ⟨f1, f2⟩ := enc_at (k := k') (n := n') (t := t') (l := l') (d := d') (i := j) (by omega)
  rcases (by omega : i = 2 * j ∨ i = 2 * j + 1) with h | h
  · rw [h, e1, f1, hJ]
  · rw [h, e2, f2, hJ]
end Go.Proofs.Ytlendmiolhgecaa
