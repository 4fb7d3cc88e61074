/-
  The plain digest of a text (layer 6): words, rounds, blocks, padding, over numbers and lists. Each function takes the mask of a word, so that it may also be asked of many words that lie side by side in one number. Nothing of the program is here.
-/
import Derived.Test.YtcbakfnpbhgjoaaDoorSumWords
namespace Go.Proofs.YtcbakfnpbhgjoaaDoor
set_option linter.unusedVariables false

/-- The greatest word. -/
abbrev MW : Nat := 4294967295

def rot (m k x : Nat) : Nat := (x >>> k ||| x <<< (32 - k)) &&& m
def shd (m k x : Nat) : Nat := x >>> k &&& m
def sm0 (m x : Nat) : Nat := rot m 7 x ^^^ rot m 18 x ^^^ shd m 3 x
def sm1 (m x : Nat) : Nat := rot m 17 x ^^^ rot m 19 x ^^^ shd m 10 x
def bg0 (m x : Nat) : Nat := rot m 2 x ^^^ rot m 13 x ^^^ rot m 22 x
def bg1 (m x : Nat) : Nat := rot m 6 x ^^^ rot m 11 x ^^^ rot m 25 x
def chs (m e f g : Nat) : Nat := (e &&& f) ||| ((m ^^^ e) &&& g)
def mjs (a b c : Nat) : Nat := (a &&& b) ||| (a &&& c) ||| (b &&& c)
/-- A further word of a block: p, q, r, s are 16, 15, 7 and 2 ahead of it. -/
def nxt (m p q r s : Nat) : Nat := (p + sm0 m q + r + sm1 m s) &&& m

/-- Eight words. -/
structure Ws where
  a : Nat
  b : Nat
  c : Nat
  d : Nat
  e : Nat
  f : Nat
  g : Nat
  h : Nat
def Ws.up (m : Nat) (s : Ws) (x : Nat) : Nat := (s.h + bg1 m s.e + chs m s.e s.f s.g + x) &&& m
def Ws.vp (m : Nat) (s : Ws) : Nat := (bg0 m s.a + mjs s.a s.b s.c) &&& m
/-- One of the 64 rounds; x: the round's word and the block's. -/
def Ws.step (m : Nat) (s : Ws) (x : Nat) : Ws := ⟨(s.up m x + s.vp m) &&& m, s.a, s.b, s.c, (s.d + s.up m x) &&& m, s.e, s.f, s.g⟩
def Ws.plus (m : Nat) (r s : Ws) : Ws := ⟨(r.a + s.a) &&& m, (r.b + s.b) &&& m, (r.c + s.c) &&& m, (r.d + s.d) &&& m, (r.e + s.e) &&& m, (r.f + s.f) &&& m, (r.g + s.g) &&& m, (r.h + s.h) &&& m⟩
def Ws.list (s : Ws) : List Nat := [s.a, s.b, s.c, s.d, s.e, s.f, s.g, s.h]

/-- The words of the rounds. -/
def kws : List Nat := [
  0x428a2f98, 0x71374491, 0xb5c0fbcf, 0xe9b5dba5, 0x3956c25b, 0x59f111f1, 0x923f82a4, 0xab1c5ed5,
  0xd807aa98, 0x12835b01, 0x243185be, 0x550c7dc3, 0x72be5d74, 0x80deb1fe, 0x9bdc06a7, 0xc19bf174,
  0xe49b69c1, 0xefbe4786, 0x0fc19dc6, 0x240ca1cc, 0x2de92c6f, 0x4a7484aa, 0x5cb0a9dc, 0x76f988da,
  0x983e5152, 0xa831c66d, 0xb00327c8, 0xbf597fc7, 0xc6e00bf3, 0xd5a79147, 0x06ca6351, 0x14292967,
  0x27b70a85, 0x2e1b2138, 0x4d2c6dfc, 0x53380d13, 0x650a7354, 0x766a0abb, 0x81c2c92e, 0x92722c85,
  0xa2bfe8a1, 0xa81a664b, 0xc24b8b70, 0xc76c51a3, 0xd192e819, 0xd6990624, 0xf40e3585, 0x106aa070,
  0x19a4c116, 0x1e376c08, 0x2748774c, 0x34b0bcb5, 0x391c0cb3, 0x4ed8aa4a, 0x5b9cca4f, 0x682e6ff3,
  0x748f82ee, 0x78a5636f, 0x84c87814, 0x8cc70208, 0x90befffa, 0xa4506ceb, 0xbef9a3f7, 0xc67178f2]
/-- The initial words. -/
def ws0 : Ws := ⟨0x6a09e667, 0xbb67ae85, 0x3c6ef372, 0xa54ff53a, 0x510e527f, 0x9b05688c, 0x1f83d9ab, 0x5be0cd19⟩

/-- The t-th of the words that are a block's bytes. -/
def gvn (b : List Nat) (t : Nat) : Nat := ((b.getD (4 * t) 0 * 256 + b.getD (4 * t + 1) 0) * 256 + b.getD (4 * t + 2) 0) * 256 + b.getD (4 * t + 3) 0
/-- The t-th word of a block; l: the words ahead of it, the nearest one first. -/
def nwd (m : Nat) (b : List Nat) (t : Nat) (l : List Nat) : Nat := if t < 16 then gvn b t else nxt m (l.getD 15 0) (l.getD 14 0) (l.getD 6 0) (l.getD 1 0)
def wds (m : Nat) (b : List Nat) : Nat → List Nat
  | 0 => []
  | t + 1 => nwd m b t (wds m b t) :: wds m b t
/-- The t-th word. -/
def wrd (m : Nat) (b : List Nat) (t : Nat) : Nat := nwd m b t (wds m b t)
/-- The eight words behind t rounds. -/
def rds (m o : Nat) (b : List Nat) (s : Ws) : Nat → Ws
  | 0 => s
  | t + 1 => (rds m o b s t).step m ((kws.getD t 0 * o + wrd m b t) &&& m)
/-- The eight words behind a block. -/
def blk (m o : Nat) (s : Ws) (b : List Nat) : Ws := (rds m o b s 64).plus m s

/-- Bytes as numbers. -/
def nums (l : List UInt8) : List Nat := l.map (·.toNat)
def cmp (s : Ws) (l : List UInt8) : Ws := blk MW 1 s (nums l)
/-- The eight words behind n blocks of a text. -/
def blks : Nat → Ws → List UInt8 → Ws
  | 0, s, _ => s
  | n + 1, s, l => blks n (cmp s (l.take 64)) (l.drop 64)
/-- How many zeros are in the padding of a text of n bytes. -/
def zrs (n : Nat) : Nat := (119 - n % 64) % 64
def cnt (n : Nat) : List UInt8 := (List.range 8).map fun k => UInt8.ofNat (n >>> (8 * (7 - k)))
def pads (n : Nat) : List UInt8 := 128 :: (List.replicate (zrs n) 0 ++ cnt (8 * n))
def padded (l : List UInt8) : List UInt8 := l ++ pads l.length
/-- Eight words in bytes. -/
def dgb (s : Ws) : List UInt8 := (List.range 32).map fun k => UInt8.ofNat (s.list.getD (k / 4) 0 >>> (8 * (3 - k % 4)))
def hashed (l : List UInt8) : Ws := blks ((padded l).length / 64) ws0 (padded l)
def digest (l : List UInt8) : List UInt8 := dgb (hashed l)

/-! ### Bounds -/
theorem and_MW (x : Nat) : x &&& MW = x % 4294967296 := Nat.and_two_pow_sub_one_eq_mod x 32
theorem MW_le (x : Nat) : x &&& MW ≤ MW := Nat.and_le_right
structure Ws.Ok (s : Ws) : Prop where
  a : s.a ≤ MW
  b : s.b ≤ MW
  c : s.c ≤ MW
  d : s.d ≤ MW
  e : s.e ≤ MW
  f : s.f ≤ MW
  g : s.g ≤ MW
  h : s.h ≤ MW
theorem ws0_ok : ws0.Ok := ⟨by decide, by decide, by decide, by decide, by decide, by decide, by decide, by decide⟩
theorem Ws.Ok.step {s : Ws} (h : s.Ok) (x : Nat) : (s.step MW x).Ok := ⟨MW_le _, h.a, h.b, h.c, MW_le _, h.e, h.f, h.g⟩
theorem Ws.plus_ok (r s : Ws) : (r.plus MW s).Ok := ⟨MW_le _, MW_le _, MW_le _, MW_le _, MW_le _, MW_le _, MW_le _, MW_le _⟩
theorem rds_ok {s : Ws} (h : s.Ok) (o : Nat) (b : List Nat) : ∀ t, (rds MW o b s t).Ok
  | 0 => h
  | t + 1 => (rds_ok h o b t).step _
theorem cmp_ok (s : Ws) (l : List UInt8) : (cmp s l).Ok := Ws.plus_ok _ _
theorem blks_ok : ∀ (n : Nat) {s : Ws} (h : s.Ok) (l : List UInt8), (blks n s l).Ok
  | 0, _, h, _ => h
  | n + 1, s, h, l => blks_ok n (cmp_ok s _) _
def Bys (b : List Nat) : Prop := ∀ i, b.getD i 0 ≤ 255
theorem nums_bys (l : List UInt8) : Bys (nums l) := fun i => by
  unfold nums
  by_cases h : i < l.length
  · have := l[i].toNat_lt; simp [h]; omega
  · simp [List.getElem?_eq_none (Nat.le_of_not_lt h)]
theorem gvn_le {b : List Nat} (h : Bys b) (t : Nat) : gvn b t ≤ MW := by
  have h0 := h (4 * t); have h1 := h (4 * t + 1); have h2 := h (4 * t + 2); have h3 := h (4 * t + 3)
  unfold gvn MW; omega
theorem nwd_le {b : List Nat} (h : Bys b) (t : Nat) (l : List Nat) : nwd MW b t l ≤ MW := by
  unfold nwd; split
  · exact gvn_le h t
  · exact MW_le _
theorem wrd_le {b : List Nat} (h : Bys b) (t : Nat) : wrd MW b t ≤ MW := nwd_le h _ _
theorem wds_length (m : Nat) (b : List Nat) : ∀ t, (wds m b t).length = t
  | 0 => rfl
  | t + 1 => by rw [wds, List.length_cons, wds_length m b t]
theorem wds_get (m : Nat) (b : List Nat) : ∀ t j, j < t → (wds m b t).getD j 0 = wrd m b (t - 1 - j)
  | t + 1, 0, _ => rfl
  | t + 1, j + 1, h => by
    rw [wds, List.getD_cons_succ, wds_get m b t j (by omega)]; congr 1; omega
theorem wrd_first (m : Nat) (b : List Nat) (t : Nat) (h : t < 16) : wrd m b t = gvn b t := by unfold wrd nwd; rw [if_pos h]
theorem wrd_next (m : Nat) (b : List Nat) (t : Nat) (h : 16 ≤ t) : wrd m b t = nxt m (wrd m b (t - 16)) (wrd m b (t - 15)) (wrd m b (t - 7)) (wrd m b (t - 2)) := by
  conv => lhs; unfold wrd nwd
  rw [if_neg (by omega), wds_get m b t 15 (by omega), wds_get m b t 14 (by omega), wds_get m b t 6 (by omega), wds_get m b t 1 (by omega)]
  congr 2 <;> omega

/-! ### Blocks, one behind the other -/
theorem blks_snoc : ∀ (n : Nat) (s : Ws) (l : List UInt8), blks (n + 1) s l = cmp (blks n s l) ((l.drop (64 * n)).take 64)
  | 0, s, l => by simp [blks]
  | n + 1, s, l => by
    rw [blks, blks_snoc n, blks, List.drop_drop]
    congr 3; omega
theorem blks_app : ∀ (n : Nat) (s : Ws) (l k : List UInt8), 64 * n ≤ l.length → blks n s (l ++ k) = blks n s l
  | 0, _, _, _, _ => rfl
  | n + 1, s, l, k, h => by
    rw [blks, blks, List.take_append_of_le_length (by omega), List.drop_append_of_le_length (by omega), blks_app n _ _ _ (by simp; omega)]
theorem cnt_length (n : Nat) : (cnt n).length = 8 := by simp [cnt]
theorem pads_length (n : Nat) : (pads n).length = zrs n + 9 := by simp [pads, cnt_length]
theorem padded_length (l : List UInt8) : (padded l).length = l.length + zrs l.length + 9 := by simp [padded, pads_length]; omega
theorem padded_whole (l : List UInt8) : (padded l).length % 64 = 0 := by rw [padded_length]; unfold zrs; omega
theorem dgb_length (s : Ws) : (dgb s).length = 32 := by simp [dgb]
theorem digest_length (l : List UInt8) : (digest l).length = 32 := dgb_length _
theorem Ws.list_length (s : Ws) : s.list.length = 8 := rfl
end Go.Proofs.YtcbakfnpbhgjoaaDoor
