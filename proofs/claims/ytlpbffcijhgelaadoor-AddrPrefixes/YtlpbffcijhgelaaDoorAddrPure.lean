/-
  Package addr as plain functions on plain data: how its readers of texts go on letter by letter.
-/
import Derived.WalkKit
namespace Go.Proofs.YtlpbffcijhgelaaDoor
set_option linter.unusedVariables false
set_option linter.unusedSimpArgs false

/-- number: its value, and whether a digit stood there. -/
structure Num where
  value : Int
  begun : Bool
deriving DecidableEq

def Num.new : Num := ⟨0, false⟩

def Num.take (n : Num) (r most : Int) : Option Num :=
  if r < 48 ∨ 57 < r ∨ (n.begun = true ∧ n.value = 0) then none
  else if most < 10 * n.value + (r - 48) then none else some ⟨10 * n.value + (r - 48), true⟩

/-- A number that may have come of letters. -/
def Num.Ok (most : Int) (n : Num) : Prop := 0 ≤ n.value ∧ n.value ≤ most

theorem Num.take_ok {most r : Int} {n n' : Num} (h : n.take r most = some n') (hn : n.Ok most) : n'.Ok most := by
  unfold Num.take at h
  split at h
  · cases h
  · split at h
    · cases h
    · cases h
      unfold Num.Ok at *
      constructor <;> dsimp only <;> omega

theorem Num.take_high {most r : Int} {n : Num} (h : 128 ≤ r) : n.take r most = none := by
  unfold Num.take
  rw [if_pos (by omega)]

/-- dotted. -/
structure Dot where
  e0 : Int
  e1 : Int
  e2 : Int
  count : Int
  num : Num
deriving DecidableEq

def Dot.new : Dot := ⟨0, 0, 0, 0, .new⟩

def Dot.put (d : Dot) : Dot :=
  if d.count = 0 then { d with e0 := d.num.value, count := 1, num := .new }
  else if d.count = 1 then { d with e1 := d.num.value, count := 2, num := .new }
  else { d with e2 := d.num.value, count := 3, num := .new }

def Dot.take (d : Dot) (r : Int) : Option Dot :=
  if r ≠ 46 then (d.num.take r 255).map (fun n => { d with num := n })
  else if d.num.begun = false ∨ d.count = 3 then none else some d.put

def Dot.whole (d : Dot) : Bool := d.count = 3 && d.num.begun

def Dot.addr (d : Dot) : List Int := [d.e0, d.e1, d.e2, d.num.value]

def Byte (z : Int) : Prop := 0 ≤ z ∧ z < 256

structure Dot.Ok (d : Dot) : Prop where
  e0 : Byte d.e0
  e1 : Byte d.e1
  e2 : Byte d.e2
  count : 0 ≤ d.count ∧ d.count ≤ 3
  num : d.num.Ok 255

theorem Dot.ok_new : Dot.new.Ok := ⟨⟨by decide, by decide⟩, ⟨by decide, by decide⟩, ⟨by decide, by decide⟩, ⟨by decide, by decide⟩, ⟨by decide, by decide⟩⟩

theorem Dot.take_ok {d d' : Dot} {r : Int} (h : d.take r = some d') (hd : d.Ok) : d'.Ok := by
  obtain ⟨h0, h1, h2, hc, hn⟩ := hd
  unfold Dot.take at h
  split at h
  · cases hh : d.num.take r 255 with
    | none => simp [hh] at h
    | some n =>
      rw [hh] at h
      cases h
      exact ⟨h0, h1, h2, hc, Num.take_ok hh hn⟩
  · split at h
    · cases h
    · cases h
      have hv : Byte d.num.value := by unfold Num.Ok at hn; unfold Byte; omega
      unfold Dot.put
      have hz : Num.new.Ok 255 := ⟨by decide, by decide⟩
      split
      · exact ⟨hv, h1, h2, by dsimp only; omega, hz⟩
      · split
        · exact ⟨h0, hv, h2, by dsimp only; omega, hz⟩
        · exact ⟨h0, h1, hv, by dsimp only; omega, hz⟩

theorem Dot.take_high {r : Int} {d : Dot} (h : 128 ≤ r) : d.take r = none := by
  unfold Dot.take
  rw [if_pos (by omega), Num.take_high h]
  rfl

/-- What a hex digit counts. -/
def hexv (r : Int) : Option Int :=
  if 48 ≤ r ∧ r ≤ 57 then some (r - 48) else if 97 ≤ r ∧ r ≤ 102 then some (r - 97 + 10) else if 65 ≤ r ∧ r ≤ 70 then some (r - 65 + 10) else none

/-- grouped: the groups that are over, as bytes; the digits of the one that goes on. -/
structure Grp where
  ended : List Int
  part : List UInt8
  value : Int
  colons : Int
  gapped : Bool
  gap : Int
  dots : Bool
  tail : Dot
deriving DecidableEq

def Grp.new : Grp := ⟨[], [], 0, 0, false, 0, false, .new⟩

def Grp.room (g : Grp) : Int := if g.gapped then 14 - g.ended.length else 16 - g.ended.length

def Dot.takes (d : Dot) : List UInt8 → Option Dot
  | [] => some d
  | c :: l => (d.take c.toNat).bind (fun d' => d'.takes l)

def Grp.colon (g : Grp) : Option Grp :=
  if g.room ≤ 2 then none else some { g with ended := g.ended ++ [g.value / 256, g.value % 256], part := [], value := 0, colons := 1 }

def Grp.second (g : Grp) : Option Grp :=
  if g.gapped then none
  else if g.colons = 0 then some { g with colons := 1 }
  else some { g with colons := 2, gapped := true, gap := g.ended.length }

def Grp.lone (g : Grp) : Bool := g.colons = 1 && g.ended.length = 0 && !g.gapped

def Grp.digit (g : Grp) (r : Int) : Option Grp :=
  match hexv r with
  | none => none
  | some x =>
    if g.lone = true ∨ g.room = 0 ∨ g.part.length = 4 then none
    else some { g with part := g.part ++ [UInt8.ofNat r.toNat], value := g.value * 16 % 65536 + x, colons := 0 }

def Grp.dot (g : Grp) : Option Grp :=
  if g.room < 4 ∨ (g.gapped = false ∧ 4 < g.room) then none
  else (g.tail.takes g.part).bind (fun d => (d.take 46).map (fun d' => { g with dots := true, tail := d' }))

def Grp.take (g : Grp) (r : Int) : Option Grp :=
  if g.dots then (g.tail.take r).map (fun d => { g with tail := d })
  else if r = 58 then (if g.part = [] then g.second else g.colon)
  else if r = 46 then g.dot
  else g.digit r

def Grp.whole (g : Grp) : Bool :=
  if g.dots then g.tail.whole
  else if g.gapped then g.part ≠ [] || g.colons = 2
  else g.part ≠ [] && g.room = 2

def Grp.given (g : Grp) : List Int :=
  if g.dots then g.ended ++ g.tail.addr else if g.part ≠ [] then g.ended ++ [g.value / 256, g.value % 256] else g.ended

def Grp.addr (g : Grp) : List Int :=
  if g.gapped then g.given.take g.gap.toNat ++ List.replicate (16 - g.given.length) 0 ++ g.given.drop g.gap.toNat
  else g.given

/-- A reader of texts: how it takes a letter, and whether what was taken is whole. -/
structure Reader (σ : Type) where
  take : σ → Int → Option σ
  whole : σ → Bool
  high : ∀ s r, 128 ≤ r → take s r = none

inductive End (σ : Type) where
  | bad (at_ : Nat)
  | good (s : σ)

def Reader.read {σ : Type} (R : Reader σ) : List UInt8 → Nat → σ → End σ
  | [], pos, st => if R.whole st then .good st else .bad pos
  | c :: l, pos, st => match R.take st c.toNat with
    | none => .bad pos
    | some st' => R.read l (pos + 1) st'

theorem hexv_high {r : Int} (h : 128 ≤ r) : hexv r = none := by
  unfold hexv
  rw [if_neg (by omega), if_neg (by omega), if_neg (by omega)]

theorem Grp.take_high {r : Int} {g : Grp} (h : 128 ≤ r) : g.take r = none := by
  unfold Grp.take
  split
  · rw [Dot.take_high h]; rfl
  · rw [if_neg (by omega), if_neg (by omega)]
    unfold Grp.digit
    rw [hexv_high h]

def dotReader : Reader Dot := ⟨Dot.take, Dot.whole, fun _ _ h => Dot.take_high h⟩
def grpReader : Reader Grp := ⟨Grp.take, Grp.whole, fun _ _ h => Grp.take_high h⟩

/-- A prefix's text: the address's reader, and the number behind a slash. -/
structure Pre (σ : Type) where
  addr : σ
  slashed : Bool
  num : Num

def preTake {σ : Type} (R : Reader σ) (most : Int) (p : Pre σ) (r : Int) : Option (Pre σ) :=
  if p.slashed then (p.num.take r most).map (fun n => { p with num := n })
  else if r = 47 ∧ R.whole p.addr = true then some { p with slashed := true }
  else (R.take p.addr r).map (fun a => { p with addr := a })

def preReader {σ : Type} (R : Reader σ) (most : Int) : Reader (Pre σ) := ⟨preTake R most, fun p => p.num.begun, fun p r h => by
  unfold preTake
  split
  · rw [Num.take_high h]; rfl
  · rw [if_neg (by omega), R.high _ _ h]; rfl⟩

def parse4 (l : List UInt8) : List Int × Nat × Int :=
  match dotReader.read l 0 .new with
  | .bad n => ([0, 0, 0, 0], n, 20)
  | .good d => (d.addr, 0, 0)

def parse6 (l : List UInt8) : List Int × Nat × Int :=
  match grpReader.read l 0 .new with
  | .bad n => (List.replicate 16 0, n, 20)
  | .good g => (g.addr, 0, 0)

theorem known6 : parse6 [50, 48, 48, 49, 58, 68, 66, 56, 58, 58, 49] = ([32, 1, 13, 184, 0, 0, 0, 0, 0, 0, 0, 0, 0, 0, 0, 1], 0, 0) := by decide
theorem known4 : parse4 [49, 57, 50, 46, 48, 46, 50, 46, 49] = ([192, 0, 2, 1], 0, 0) := by decide

end Go.Proofs.YtlpbffcijhgelaaDoor
