/-
  READING, whatever the reader's error is: numbers, stamps, texts, values, the Path, On.
  No conditions but sizes.
  READING, whatever the reader's error is: values, On, the Path.
  No conditions but sizes.
  READING a Path: as many stamps as its count says, until an error.
  Conditions: at most 10^12 bytes are left, or the count is at most 10^12.
-/
import Derived.Test.YtfgnmnkihbgjnaaGreatHC
namespace Go.Proofs.YtfgnmnkihbgjnaaGreat
open Go.RowKit
def RdS (w:World) (B b:Nat) (s:RS):Prop:=Rdr w B b s.1 s.2
theorem RdS.kept {w w':World} {B b:Nat} {s:RS} (h:RdS w B b s) (hb:Below w.heap.size w w'):RdS w' B b s:=Rdr.kept h hb
theorem RdS.lt {w:World} {B b:Nat} {s:RS} (h:RdS w B b s):b<w.heap.size:=Rdr.lt h
theorem RdS.len {w:World} {B b:Nat} {s:RS} (h:RdS w B b s):s.1.length≤4611686018427387904:=h.2.2.2.2.2.1
open Go.RowKit
theorem Rdr.under {w w':World} {B b M:Nat} {l:List UInt8} {err:Nat} (h:Rdr w B b l err) (hb:Below M w w') (hM:b<M):Rdr w' B b l err:=by
 obtain ⟨h0,h1,h2,h3,h4,h5,p,c,h6,h7,h8,h9,h10⟩:=h
 exact ⟨h0,by rw [hb.cell (by simpa using hM)]; exact h1,by rw [hb.cell (by simpa using hM)]; exact h2,by rw [hb.frozen (by simpa using hM)]; exact h3,by rw [hb.frozen (by simpa using hM)]; exact h4,h5,p,c,by rw [hb.cell (by simpa using hM)]; exact h6,
  h7.below hb (fun a ha=>Nat.lt_trans (h10 a ha).1 hM),h8,h9,h10⟩
theorem RdS.under {w w':World} {B b M:Nat} {s:RS} (h:RdS w B b s) (hb:Below M w w') (hM:b<M):RdS w' B b s:=Rdr.under h hb hM
open Go.RowKit
section
variable {P:Program}
end
theorem oinfo_st:(Tryz.prog.info? 50).map (fun i=>(i.zero,i.size,i.bytes))=some (some (.agg #[.int .i64 0,.int .i64 0]),2,16):=by kernel_rfl
def OwnP (w:World) (B:Nat) (v:Value) (l:List Qm.St):Prop:=w.ownsRow B 50 2 v l.length (stCells l)
theorem OwnP.below {w w':World} {B:Nat} {v:Value} {l:List Qm.St} (h:OwnP w B v l) (hb:Below w.heap.size w w'):OwnP w' B v l:=World.ownsRow.kept (row:=none) h ⟨hb.os,hb.tape,hb.output,hb.size,fun k hk _=>hb.block k hk⟩ (by cases hv:v.ownBlock <;> simp)
theorem OwnP.only {w w':World} {B b:Nat} {v:Value} {l:List Qm.St} (h:OwnP w B v l) (ho:Only b w w') (hb:b<B):OwnP w' B v l :=
 World.ownsRow.kept (row:=some b) h ho (by
  cases hv:v.ownBlock with
  | none=>simp
  | some g=>have:=(World.ownsRow.lt h g hv).1; simp; omega)
theorem OwnP.grown {w w':World} {B:Nat} {v:Value} {l:List Qm.St} (h:OwnP w B v l) (hg:w.grownBy w' v.ownBlock) (hB:B≤w.heap.size):Below B w w' :=
 ⟨hg.os,hg.tape,hg.output,hg.size,fun k hk=>hg.block k (by omega) (by
  intro e
  have:=(World.ownsRow.lt h k e.symm).1
  omega)⟩
theorem OwnP.nil (w:World) (B:Nat):OwnP w B (.slice none 0 0) []:=World.ownsRow_nil w B 50 2
theorem Only.then_new {b:Nat} {w x y:World} (h:Only b w x) (k:Below w.heap.size x y):Only b w y :=
 ⟨k.os.trans h.os,k.tape.trans h.tape,k.output.trans h.output,Nat.le_trans h.size k.size,fun i hi hn=>(k.block i hi).trans (h.block i hi hn)⟩
end Go.Proofs.YtfgnmnkihbgjnaaGreat
