import Derived.Test.YtocpmkpffhmlaaaOK
import Derived.Laws.IdiomStrings
import Derived.Test.YtocpmkpffhmlaaaEscImpl
import Derived.Test.YtocpmkpffhmlaaaLawTree
namespace Go.Proofs.Ytocpmkpffhmlaaa
open Go.ChangeShapes Go.WideShapes Go.ChangeAt Go.RowKit Go.Deep

theorem tx_ext {a b : ByteArray} (h : a.data.toList = b.data.toList) : a = b := by
  obtain ⟨⟨x⟩⟩ := a
  obtain ⟨⟨y⟩⟩ := b
  simp at h
  subst h
  rfl
/-- the text of attributes -/
def alText : List (ByteArray × ByteArray) → List UInt8
  | [] => []
  | x :: r => 32 :: (x.1.data.toList ++ (61 :: 34 :: (escL escV x.2.data.toList ++ (34 :: alText r))))
/-- the text of a start tag -/
def tagText (n : ByteArray) (al : List (ByteArray × ByteArray)) : List UInt8 := 60 :: (n.data.toList ++ (alText al ++ [62]))
theorem alText_snoc : ∀ (al : List (ByteArray × ByteArray)) (x : ByteArray × ByteArray), alText (al ++ [x]) = alText al ++ (32 :: (x.1.data.toList ++ (61 :: 34 :: (escL escV x.2.data.toList ++ [34]))))
  | [], x => by simp [alText]
  | y :: r, x => by simp [alText, alText_snoc r x]
theorem alText_app : ∀ (a b : List (ByteArray × ByteArray)), alText (a ++ b) = alText a ++ alText b
  | [], b => by simp [alText]
  | y :: r, b => by simp [alText, alText_app r b]
theorem baLen (s : ByteArray) : s.data.toList.length = s.size := Array.length_toList
theorem escV_le (s : ByteArray) : (escL escV s.data.toList).length ≤ 6 * s.size := by have := escL_len escV_len s.data.toList; rw [baLen] at this; exact this
theorem escT_le (s : ByteArray) : (escL escT s.data.toList).length ≤ 6 * s.size := by have := escL_len escT_len s.data.toList; rw [baLen] at this; exact this
theorem alText_len : ∀ al : List (ByteArray × ByteArray), (alText al).length ≤ 8 * (al.length + asSize al)
  | [] => by simp [alText]
  | x :: r => by
    have h1 := alText_len r
    have h2 := escV_le x.2
    have h3 := baLen x.1
    simp only [alText, List.length_cons, List.length_append, asSize] at *
    omega
theorem tagText_len (n : ByteArray) (al : List (ByteArray × ByteArray)) : (tagText n al).length ≤ 2 + n.size + 8 * (al.length + asSize al) := by
  have h1 := alText_len al
  have h3 := baLen n
  simp only [tagText, List.length_cons, List.length_append, List.length_nil]
  omega

/-- does an element's text hold its kids and an end -/
def hasEnd (sp : Int) (n : ByteArray) : Bool := !((sp == 0) && inL voidL n)
/-- are texts within it as they are -/
def asIs (sp : Int) (n : ByteArray) : Bool := (sp == 0) && inL rawL n
def endText (n : ByteArray) : List UInt8 := 60 :: 47 :: (n.data.toList ++ [62])
def wordsText (raw : Bool) (t : ByteArray) : List UInt8 := if raw then t.data.toList else escL escT t.data.toList
def noteText (t : ByteArray) : List UInt8 := 60 :: 33 :: 45 :: 45 :: (t.data.toList ++ [45, 45, 62])
/-- the text of a forest; raw: texts stand as they are -/
def Fo.ser : Bool → Fo → List UInt8
  | _, .nil => []
  | raw, .cons k sp n t al kids rest =>
    (if k = 2 then wordsText raw t else if k = 3 then noteText t else
      tagText n al ++ (if hasEnd sp n = true then kids.ser (asIs sp n) ++ endText n else [])) ++ rest.ser raw
theorem wordsText_len (raw : Bool) (t : ByteArray) : (wordsText raw t).length ≤ 6 * t.size := by
  unfold wordsText
  split
  · rw [baLen]; omega
  · exact escT_le t
theorem ser_len : ∀ (raw : Bool) (F : Fo), (F.ser raw).length ≤ 8 * (F.len + F.size)
  | _, .nil => by simp [Fo.ser]
  | raw, .cons k sp n t al kids rest => by
    have h1 := ser_len (asIs sp n) kids
    have h2 := ser_len raw rest
    have h3 := tagText_len n al
    have h4 := wordsText_len raw t
    have h5 := baLen t
    have h6 := baLen n
    simp only [Fo.ser, Fo.size, Fo.len, List.length_append] at *
    have : (if k = 2 then wordsText raw t else if k = 3 then noteText t else tagText n al ++ (if hasEnd sp n = true then kids.ser (asIs sp n) ++ endText n else [])).length ≤ 8 + 8 * (n.size + t.size + (al.length + asSize al) + (kids.len + kids.size)) := by
      split
      · omega
      · split
        · simp only [noteText, List.length_cons, List.length_append, List.length_nil]; omega
        · split
          · simp only [endText, List.length_cons, List.length_append, List.length_nil]; omega
          · simp only [List.length_append, List.length_nil]; omega
    omega
theorem add_tx (m : List UInt8) (s : ByteArray) (h : m.length + s.size ≤ 1048576 * 1024) (w : World) : (Op.stringOp .add ⟨m.toArray⟩ s).run Try.prog w = .ok (.string ⟨(m ++ s.data.toList).toArray⟩) w := by
  have e2 : (⟨m.toArray⟩ : ByteArray) ++ s = ⟨(m ++ s.data.toList).toArray⟩ := tx_ext (by simp [ByteArray.data_append])
  have n1 : (⟨m.toArray⟩ : ByteArray).size = m.length := by simp [ByteArray.size]
  rw [run_string_add_sum w _ _ (by omega), e2]
theorem add_ll (m l : List UInt8) (h : m.length + l.length ≤ 1048576 * 1024) (w : World) : (Op.stringOp .add ⟨m.toArray⟩ ⟨l.toArray⟩).run Try.prog w = .ok (.string ⟨(m ++ l).toArray⟩) w :=
  add_tx m ⟨l.toArray⟩ (by show m.length + l.toArray.size ≤ _; rw [List.size_toArray]; exact h) w
/-- the same, the sum under a name of its own -/
theorem add_lx (m : List UInt8) (s : ByteArray) (h : m.length + s.size ≤ 1048576 * 1024) : ∃ L : List UInt8, (L = m ++ s.data.toList ∧ L.length = m.length + s.size) ∧ ∀ w, (Op.stringOp .add ⟨m.toArray⟩ s).run Try.prog w = .ok (.string ⟨L.toArray⟩) w :=
  ⟨m ++ s.data.toList, ⟨rfl, by rw [List.length_append, baLen]⟩, fun w => add_tx m s h w⟩
theorem sizeL (l : List UInt8) : (⟨l.toArray⟩ : ByteArray).size = l.length := by simp [ByteArray.size]
end Go.Proofs.Ytocpmkpffhmlaaa
