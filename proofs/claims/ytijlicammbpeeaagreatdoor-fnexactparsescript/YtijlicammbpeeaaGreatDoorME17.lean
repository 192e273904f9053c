import Derived.Test.YtijlicammbpeeaaGreatDoorME16
/- Scripts as text: what the words of a line say, as the model has it. -/
namespace Go.Proofs.YtijlicammbpeeaaGreatDoor
open Go.RowKit
set_option linter.unusedVariables false
set_option linter.unusedSimpArgs false
structure Fl where
  key : List Int
  n : Int
  src : Sv
  data : List Int
  flag : Bool
  code : Int
  keyl : key.length = 32
def Fl.zero : Fl := ⟨zeroL 32, 0, Sv.zero, [], false, 0, by simp [zeroL]⟩
def flL (f : Fl) (d : Value) : List Value := u8s f.key ++ (.int .i64 f.n :: (srL f.src ++ [d, .bool f.flag, .int .i64 f.code]))
theorem flL_len (f : Fl) (d : Value) : (flL f d).length = 54 := by simp [flL, srL_len, f.keyl]
theorem flL_all (f : Fl) (d : Value) (h : d.oneCell' = true) : (flL f d).toArray.all (·.oneCell') = true := by
  have h1 := srL_one f.src
  have h2 := bytes_one f.key
  rw [List.all_toArray]
  simp only [flL, List.all_append, h1, h2, List.all_cons, List.all_nil, h, Bool.and_true]
  rfl
theorem set_at {α : Type} (A : List α) (x y : α) (C : List α) (i : Nat) (h : A.length = i) : (A ++ x :: C).set i y = A ++ y :: C := by
  subst h
  simp
theorem infoFl (f : Fl) (d : Value) : (Tryz.prog.info? 72).map (·.size) = some (flL f d).toArray.size := by rw [List.size_toArray, flL_len]; kernel_rfl
theorem zeroFl : ∀ W, (zeroValue 72).run Tryz.prog W = .ok (.agg (flL Fl.zero (.slice none 0 0)).toArray) W := fun W => by kernel_rfl
theorem built0Fl : Tryz.prog.built 72 [] = some (flL Fl.zero (.slice none 0 0)).toArray := by kernel_rfl
theorem flL_n (f : Fl) (d : Value) (v : Int) : (flL f d).set 32 (.int .i64 v) = flL { f with n := v } d := set_at (u8s f.key) _ _ _ 32 (by rw [u8s_len, f.keyl])
theorem flL_code (f : Fl) (d : Value) (v : Int) : (flL f d).set 53 (.int .i64 v) = flL { f with code := v } d := by
  have e : ∀ x, flL { f with code := x } d = (u8s f.key ++ (.int .i64 f.n :: (srL f.src ++ [d, .bool f.flag]))) ++ .int .i64 x :: [] := fun x => by simp [flL]
  rw [show flL f d = flL { f with code := f.code } d from rfl, e, e]
  exact set_at _ _ _ _ 53 (by simp [srL_len, f.keyl])
theorem flL_flag (f : Fl) (d : Value) (v : Bool) : (flL f d).set 52 (.bool v) = flL { f with flag := v } d := by
  have e : ∀ x, flL { f with flag := x } d = (u8s f.key ++ (.int .i64 f.n :: (srL f.src ++ [d]))) ++ .bool x :: [.int .i64 f.code] := fun x => by simp [flL]
  rw [show flL f d = flL { f with flag := f.flag } d from rfl, e, e]
  exact set_at _ _ _ _ 52 (by simp [srL_len, f.keyl])
theorem flL_data (f : Fl) (d d' : Value) (l : List Int) : (flL f d).set 51 d' = flL { f with data := l } d' := by
  have e : ∀ x g, flL { f with data := g } x = (u8s f.key ++ (.int .i64 f.n :: srL f.src)) ++ x :: [.bool f.flag, .int .i64 f.code] := fun x g => by simp [flL]
  rw [show flL f d = flL { f with data := f.data } d from rfl, e, e]
  exact set_at _ _ _ _ 51 (by simp [srL_len, f.keyl])
theorem flL_src (f : Fl) (d : Value) (s : Sv) : (flL f d).take 33 ++ srL s ++ (flL f d).drop (33 + (srL s).length) = flL { f with src := s } d := by
  have e : ∀ x, flL { f with src := x } d = (u8s f.key ++ [.int .i64 f.n]) ++ (srL x ++ [d, .bool f.flag, .int .i64 f.code]) := fun x => by simp [flL]
  rw [show flL f d = flL { f with src := f.src } d from rfl, e, e]
  exact put_at _ _ _ _ 33 (by simp [f.keyl]) (by rw [srL_len, srL_len])
theorem flL_key (f : Fl) (d : Value) (k : List Int) (hk : k.length = 32) : (flL f d).take 0 ++ u8s k ++ (flL f d).drop (0 + (u8s k).length) = flL { f with key := k, keyl := hk } d :=
  put_at [] (u8s f.key) (u8s k) _ 0 rfl (by rw [u8s_len, u8s_len, f.keyl, hk])
/-- Bytes of the call's own, or none. -/
def DV (base : Nat) (w : World) (d : Value) (l : List Int) : Prop := (d = .slice none 0 0 ∧ l = []) ∨ OwnM base w d l
theorem DV.by {base : Nat} {w w' : World} {d : Value} {l : List Int} {row : Option Nat} (h : DV base w d l) (hg : w.grownBy w' row) (hne : d.ownBlock = none ∨ d.ownBlock ≠ row) : DV base w' d l := by
  rcases h with h | h
  · exact .inl h
  · obtain ⟨g, hg'⟩ := h.some
    rcases hne with hn | hn
    · rw [hg'] at hn; cases hn
    · exact .inr (h.by hg hn)
theorem DV.later {base : Nat} {w w' : World} {d : Value} {l : List Int} (h : DV base w d l) (hb : Below w.heap.size w w') : DV base w' d l := h.imp id fun h => h.later hb
theorem DV.mono {base base' : Nat} {w : World} {d : Value} {l : List Int} (h : DV base w d l) (hb : base' ≤ base) : DV base' w d l := h.imp id fun h => h.mono hb
theorem DV.one {base : Nat} {w : World} {d : Value} {l : List Int} (h : DV base w d l) : d.oneCell' = true := by
  rcases h with ⟨rfl, _⟩ | h
  · rfl
  · obtain ⟨g, cap, _, _, rfl, _⟩ := h
    rfl
theorem DV.lt {base : Nat} {w : World} {d : Value} {l : List Int} (h : DV base w d l) : ∀ g, d.ownBlock = some g → base ≤ g ∧ g < w.heap.size := by
  rcases h with ⟨rfl, _⟩ | h
  · intro g hg; cases hg
  · exact h.lt
theorem DV.put {base : Nat} {w W : World} {d : Value} {l : List Int} {b : Nat} {cs : Array Value} {t : TypeId} (h : DV base w d l) (hp : Put w b cs t W) (hne : d.ownBlock ≠ some b) : DV base W d l := h.imp id fun h => h.put hp hne
theorem DV.rdb {base : Nat} {w : World} {d : Value} {l : List Int} (h : DV base w d l) : ∃ a c, d = .slice a l.length c ∧ RdB w a l := by
  rcases h with ⟨rfl, rfl⟩ | h
  · exact ⟨none, 0, rfl, fun i hi => by cases hi⟩
  · obtain ⟨g, cap, e, hb, hs, _⟩ := h.sl
    exact ⟨_, cap, e, fun i hi => ⟨g, 0, rfl, hs.1, hs.2 i hi⟩⟩
theorem DV.rd {base : Nat} {w : World} {a : Option Addr} {n c : Nat} {l : List Int} (h : DV base w (.slice a n c) l) : RdB w a l := by
  obtain ⟨a', c', e', hr⟩ := h.rdb
  obtain ⟨rfl, _⟩ : a = a' ∧ _ := by simpa using e'
  exact hr
def sKnown : List UInt8 := [107, 110, 111, 119, 110]
def sOther : List UInt8 := [111, 116, 104, 101, 114]
/-- A word read by its form: what it says then, or the fault's code. -/
noncomputable def wordE (c : Int) (w : List UInt8) (f : Fl) : Except Int Fl :=
  if c = 110 then (match numM (ub w) with | some v => .ok { f with n := v } | none => .error 4)
  else if c = 115 then (match srcM (ub w) with | some s => .ok { f with src := s } | none => .error 7)
  else if c = 102 then (if w = sKnown then .ok { f with flag := true } else if w = sOther then .ok { f with flag := false } else .error 6)
  else if c = 107 then (match pairsM (ub w) with | some b => if b.length = 32 then .ok { f with data := b, key := fitN 32 b, keyl := fitN_length _ _ } else .error 5 | none => .error 5)
  else (if w = [45] then .ok { f with data := [], key := fitN 32 [], keyl := fitN_length _ _ } else match pairsM (ub w) with | some b => .ok { f with data := b, key := fitN 32 b, keyl := fitN_length _ _ } | none => .error 5)
/-- What 'l8Word' answers. -/
def WordR (base : Nat) (w w' : World) (r : Except Int Fl) (e : Ending) : Prop :=
  Below w.heap.size w w' ∧ ∃ f' d', e = .returned (.agg (flL f' d').toArray) ∧ DV base w' d' f'.data ∧ (match r with | .ok g => f' = g | .error k => f'.code = k)
end Go.Proofs.YtijlicammbpeeaaGreatDoor
