/- Layer 8: what both read is the same. -/
import Derived.Test.YtbiimgfocgbdaaaG35MacOpens
import Derived.Test.YtbiimgfocgbdaaaG34MacOpens
import Derived.Test.YtbiimgfocgbdaaaG36MacOpens
import Derived.Test.YtbiimgfocgbdaaaG37MacOpens
import Derived.Test.YtbiimgfocgbdaaaG38MacOpens

namespace Go.Proofs.Ytbiimgfocgbdaaa
open Go.RowKit Go.ChangeShapes Go.WideShapes Go.ChangeAt
set_option linter.unusedVariables false
set_option linter.unusedSimpArgs false

def KeyR (kd : Nat) (lb : List Nat) (k t : Nat) (a : Bool) (ok : Bool) : Prop := (ok = true ∧ KeyIs kd lb k t a) ∨ (ok = false ∧ (k = 0 ∧ t = 0 ∧ a = false) ∧ ∀ (k t : Nat) (a : Bool), ¬ KeyIs kd lb k t a)
theorem KeyR.one {kd : Nat} {lb : List Nat} {k t : Nat} {a : Bool} {k' : _} {t' : _} {a' : _} {ok ok' : Bool} (h : KeyR kd lb k t a ok) (g : KeyR kd lb k' t' a' ok') : k = k' ∧ t = t' ∧ a = a' ∧ ok = ok' := by
  rcases h with ⟨rfl, h⟩ | ⟨rfl, h0, h⟩ <;> rcases g with ⟨rfl, g⟩ | ⟨rfl, g0, g⟩
  · obtain ⟨e0, e1, e2⟩ := h.one g
    exact ⟨e0, e1, e2, rfl⟩
  · exact absurd h (g _ _ _)
  · exact absurd g (h _ _ _)
  · obtain ⟨rfl, rfl, rfl⟩ := h0
    obtain ⟨rfl, rfl, rfl⟩ := g0
    exact ⟨rfl, rfl, rfl, rfl⟩
theorem keyPost_r {kd : Nat} {lb : List Nat} {e : Ending} (h : KeyPost kd lb e) : ∃ (k t : Nat) (a : Bool) (ok : Bool), e = .returned (.tuple #[.agg #[.int .u64 (k : Int), .bool a, .int .u64 (t : Int)], .bool ok]) ∧ KeyR kd lb k t a ok := by
  rcases h with ⟨k, t, a, rfl, h⟩ | ⟨rfl, h⟩
  · exact ⟨k, t, a, true, rfl, .inl ⟨rfl, h⟩⟩
  · exact ⟨0, 0, false, false, rfl, .inr ⟨rfl, ⟨rfl, rfl, rfl⟩, h⟩⟩
theorem rkeyPost_r {kd : Nat} {lb : List Nat} {e : Ending} (h : RKeyPost kd lb e) : ∃ (k t : Nat) (a : Bool) (ok : Bool), e = .returned (.tuple #[.int .u64 (k : Int), .int .u64 (t : Int), .bool a, .bool ok]) ∧ KeyR kd lb k t a ok := by
  rcases h with ⟨k, t, a, rfl, h⟩ | ⟨rfl, h⟩
  · exact ⟨k, t, a, true, rfl, .inl ⟨rfl, h⟩⟩
  · exact ⟨0, 0, false, false, rfl, .inr ⟨rfl, ⟨rfl, rfl, rfl⟩, h⟩⟩
def JoinR (kd : Nat) (lb : List Nat) (tk nc id : Nat) (bk a : Bool) (t : Nat) (ok : Bool) : Prop := (ok = true ∧ JoinIs kd lb tk nc id bk a t) ∨ (ok = false ∧ (tk = 0 ∧ nc = 0 ∧ id = 0 ∧ bk = false ∧ a = false ∧ t = 0) ∧ ∀ (tk nc id : Nat) (bk a : Bool) (t : Nat), ¬ JoinIs kd lb tk nc id bk a t)
theorem JoinR.one {kd : Nat} {lb : List Nat} {tk nc id : Nat} {bk a : Bool} {t : Nat} {tk' : _} {nc' : _} {id' : _} {bk' : _} {a' : _} {t' : _} {ok ok' : Bool} (h : JoinR kd lb tk nc id bk a t ok) (g : JoinR kd lb tk' nc' id' bk' a' t' ok') : tk = tk' ∧ nc = nc' ∧ id = id' ∧ bk = bk' ∧ a = a' ∧ t = t' ∧ ok = ok' := by
  rcases h with ⟨rfl, h⟩ | ⟨rfl, h0, h⟩ <;> rcases g with ⟨rfl, g⟩ | ⟨rfl, g0, g⟩
  · obtain ⟨e0, e1, e2, e3, e4, e5⟩ := h.one g
    exact ⟨e0, e1, e2, e3, e4, e5, rfl⟩
  · exact absurd h (g _ _ _ _ _ _)
  · exact absurd g (h _ _ _ _ _ _)
  · obtain ⟨rfl, rfl, rfl, rfl, rfl, rfl⟩ := h0
    obtain ⟨rfl, rfl, rfl, rfl, rfl, rfl⟩ := g0
    exact ⟨rfl, rfl, rfl, rfl, rfl, rfl, rfl⟩
theorem joinPost_r {kd : Nat} {lb : List Nat} {e : Ending} (h : JoinPost kd lb e) : ∃ (tk nc id : Nat) (bk a : Bool) (t : Nat) (ok : Bool), e = .returned (.tuple #[.agg #[.int .u32 (tk : Int), .int .u32 (nc : Int), .int .u8 (id : Int), .bool bk, .bool a, .int .u64 (t : Int)], .bool ok]) ∧ JoinR kd lb tk nc id bk a t ok := by
  rcases h with ⟨tk, nc, id, bk, a, t, rfl, h⟩ | ⟨rfl, h⟩
  · exact ⟨tk, nc, id, bk, a, t, true, rfl, .inl ⟨rfl, h⟩⟩
  · exact ⟨0, 0, 0, false, false, 0, false, rfl, .inr ⟨rfl, ⟨rfl, rfl, rfl, rfl, rfl, rfl⟩, h⟩⟩
theorem rjoinPost_r {kd : Nat} {lb : List Nat} {e : Ending} (h : RJoinPost kd lb e) : ∃ (tk nc id : Nat) (bk a : Bool) (t : Nat) (ok : Bool), e = .returned (.tuple #[.agg #[.int .u32 (tk : Int), .int .u32 (nc : Int), .int .u8 (id : Int), .bool bk, .bool a, .int .u64 (t : Int)], .bool ok]) ∧ JoinR kd lb tk nc id bk a t ok := by
  rcases h with ⟨tk, nc, id, bk, a, t, rfl, h⟩ | ⟨rfl, h⟩
  · exact ⟨tk, nc, id, bk, a, t, true, rfl, .inl ⟨rfl, h⟩⟩
  · exact ⟨0, 0, 0, false, false, 0, false, rfl, .inr ⟨rfl, ⟨rfl, rfl, rfl, rfl, rfl, rfl⟩, h⟩⟩
def DataR (kd : Nat) (lb : List Nat) (f p : Bool) (sq ak wn t : Nat) (ok : Bool) : Prop := (ok = true ∧ DataIs kd lb f p sq ak wn t) ∨ (ok = false ∧ (f = false ∧ p = false ∧ sq = 0 ∧ ak = 0 ∧ wn = 0 ∧ t = 0) ∧ ∀ (f p : Bool) (sq ak wn t : Nat), ¬ DataIs kd lb f p sq ak wn t)
theorem DataR.one {kd : Nat} {lb : List Nat} {f p : Bool} {sq ak wn t : Nat} {f' : _} {p' : _} {sq' : _} {ak' : _} {wn' : _} {t' : _} {ok ok' : Bool} (h : DataR kd lb f p sq ak wn t ok) (g : DataR kd lb f' p' sq' ak' wn' t' ok') : f = f' ∧ p = p' ∧ sq = sq' ∧ ak = ak' ∧ wn = wn' ∧ t = t' ∧ ok = ok' := by
  rcases h with ⟨rfl, h⟩ | ⟨rfl, h0, h⟩ <;> rcases g with ⟨rfl, g⟩ | ⟨rfl, g0, g⟩
  · obtain ⟨e0, e1, e2, e3, e4, e5⟩ := h.one g
    exact ⟨e0, e1, e2, e3, e4, e5, rfl⟩
  · exact absurd h (g _ _ _ _ _ _)
  · exact absurd g (h _ _ _ _ _ _)
  · obtain ⟨rfl, rfl, rfl, rfl, rfl, rfl⟩ := h0
    obtain ⟨rfl, rfl, rfl, rfl, rfl, rfl⟩ := g0
    exact ⟨rfl, rfl, rfl, rfl, rfl, rfl, rfl⟩
theorem dataPost_r {kd : Nat} {lb : List Nat} {e : Ending} (h : DataPost kd lb e) : ∃ (f p : Bool) (sq ak wn t : Nat) (ok : Bool), e = .returned (.tuple #[.agg #[.bool f, .bool p, .int .u64 (sq : Int), .int .u64 (ak : Int), .int .u32 (wn : Int), .int .u64 (t : Int)], .bool ok]) ∧ DataR kd lb f p sq ak wn t ok := by
  rcases h with ⟨f, p, sq, ak, wn, t, rfl, h⟩ | ⟨rfl, h⟩
  · exact ⟨f, p, sq, ak, wn, t, true, rfl, .inl ⟨rfl, h⟩⟩
  · exact ⟨false, false, 0, 0, 0, 0, false, rfl, .inr ⟨rfl, ⟨rfl, rfl, rfl, rfl, rfl, rfl⟩, h⟩⟩
theorem rdataPost_r {kd : Nat} {lb : List Nat} {e : Ending} (h : RDataPost kd lb e) : ∃ (f p : Bool) (sq ak wn t : Nat) (ok : Bool), e = .returned (.tuple #[.agg #[.bool f, .bool p, .int .u64 (sq : Int), .int .u64 (ak : Int), .int .u32 (wn : Int), .int .u64 (t : Int)], .bool ok]) ∧ DataR kd lb f p sq ak wn t ok := by
  rcases h with ⟨f, p, sq, ak, wn, t, rfl, h⟩ | ⟨rfl, h⟩
  · exact ⟨f, p, sq, ak, wn, t, true, rfl, .inl ⟨rfl, h⟩⟩
  · exact ⟨false, false, 0, 0, 0, 0, false, rfl, .inr ⟨rfl, ⟨rfl, rfl, rfl, rfl, rfl, rfl⟩, h⟩⟩
def WordR (kd : Nat) (lb : List Nat) (nm id pa : Nat) (bk : Bool) (t : Nat) (ok : Bool) : Prop := (ok = true ∧ WordIs kd lb nm id pa bk t) ∨ (ok = false ∧ (nm = 0 ∧ id = 0 ∧ pa = 0 ∧ bk = false ∧ t = 0) ∧ ∀ (nm id pa : Nat) (bk : Bool) (t : Nat), ¬ WordIs kd lb nm id pa bk t)
theorem WordR.one {kd : Nat} {lb : List Nat} {nm id pa : Nat} {bk : Bool} {t : Nat} {nm' : _} {id' : _} {pa' : _} {bk' : _} {t' : _} {ok ok' : Bool} (h : WordR kd lb nm id pa bk t ok) (g : WordR kd lb nm' id' pa' bk' t' ok') : nm = nm' ∧ id = id' ∧ pa = pa' ∧ bk = bk' ∧ t = t' ∧ ok = ok' := by
  rcases h with ⟨rfl, h⟩ | ⟨rfl, h0, h⟩ <;> rcases g with ⟨rfl, g⟩ | ⟨rfl, g0, g⟩
  · obtain ⟨e0, e1, e2, e3, e4⟩ := h.one g
    exact ⟨e0, e1, e2, e3, e4, rfl⟩
  · exact absurd h (g _ _ _ _ _)
  · exact absurd g (h _ _ _ _ _)
  · obtain ⟨rfl, rfl, rfl, rfl, rfl⟩ := h0
    obtain ⟨rfl, rfl, rfl, rfl, rfl⟩ := g0
    exact ⟨rfl, rfl, rfl, rfl, rfl, rfl⟩
theorem wordPost_r {kd : Nat} {lb : List Nat} {e : Ending} (h : WordPost kd lb e) : ∃ (kk nm id pa : Nat) (bk : Bool) (t : Nat) (ok : Bool), e = .returned (.tuple #[.agg #[.int .u8 (kk : Int), .int .u32 (nm : Int), .int .u8 (id : Int), .int .u8 (pa : Int), .bool bk, .int .u64 (t : Int)], .bool ok]) ∧ WordR kd lb nm id pa bk t ok ∧ kk = if ok then kd else 0 := by
  rcases h with ⟨nm, id, pa, bk, t, rfl, h⟩ | ⟨rfl, h⟩
  · exact ⟨kd, nm, id, pa, bk, t, true, rfl, .inl ⟨rfl, h⟩, rfl⟩
  · exact ⟨0, 0, 0, 0, false, 0, false, rfl, .inr ⟨rfl, ⟨rfl, rfl, rfl, rfl, rfl⟩, h⟩, rfl⟩
theorem rwordPost_r {kd : Nat} {lb : List Nat} {e : Ending} (h : RWordPost kd lb e) : ∃ (nm id pa : Nat) (bk : Bool) (t : Nat) (ok : Bool), e = .returned (.tuple #[.agg #[.int .u32 (nm : Int), .int .u8 (id : Int), .int .u8 (pa : Int), .bool bk, .int .u64 (t : Int)], .bool ok]) ∧ WordR kd lb nm id pa bk t ok := by
  rcases h with ⟨nm, id, pa, bk, t, rfl, h⟩ | ⟨rfl, h⟩
  · exact ⟨nm, id, pa, bk, t, true, rfl, .inl ⟨rfl, h⟩⟩
  · exact ⟨0, 0, 0, false, 0, false, rfl, .inr ⟨rfl, ⟨rfl, rfl, rfl, rfl, rfl⟩, h⟩⟩
end Go.Proofs.Ytbiimgfocgbdaaa
