/-
  ROWS OF STRUCTS: cells of an element of an own row are written; a new row of one element.
  No conditions but sizes.
  WHOLE STRUCTS in memory; maps by the steps of a walk.
  No conditions.
  PLAIN MATHEMATICS of layer 3 (value): which values may be; sums, products, quotients.
  No conditions.
  VALUES: which may be: the program's Right and plain, the document's Right and good.
  No conditions.
  VALUES in memory; number and answer; numbers and both; sums.
  No conditions.
  HOW MANY BYTES A NUMBER TAKES: bits.Len64 and bits.Len of a number below 2^48.
  THE SUM: what wire.Sum and the reference's Sum answer of any slice of bytes: 'Wm.crc'; the world as it was.
  WRITING: addNum, Num, Text, sumBytes, Frame: new memory with the document's bytes.
  FRAMES: sumBytes, Frame, bytes.Clone, bytes.Equal.
  A NUMBER's FORM: what wire.number and the reference's number answer of any slice of bytes; the world as it was.
  UNFRAME: what wire.Unframe answers of any slice of bytes.
  PLAIN LAWS of numbers' forms and frames: what is read is what is written as the number, and only that; there and back; a frame of which one byte is another one.
  A READER that Open made: what Num, Upto, Text, Fail, Err, Left, Done do to it, of any bytes.
  A READER's Upto, Num and Text, of any bytes; Open.
  ROWS OF NUMBERS AND TEXTS, as bytes and read again: plain laws; how slices of integers and of strings lie.
  A VALUE's BYTES: folded, unfolded, Put, Take.
  No conditions.
  TAKE.
  No conditions.
  PUT.
  No conditions.
  Right8 of the program and of the document.
  No conditions.
  STAMPS: Right and Compare, the program's and the document's: what they answer, of any numbers; nothing below the call's own memory turns.
  No conditions.
  PUT and TAKE of stamps (without stage 2's texts of clocks and of reading texts).
  No conditions.
-/
import Derived.Test.YthfhefdfehlbkaaGreatSh
import Derived.Test.YthfhefdfehlbkaaGreatK01
import Derived.Deep.MidRow
import Derived.Deep.RegionHeld
import Derived.Deep.RegionHeld3
import Derived.Laws.Tables
import Derived.Laws.ResultCell
import Derived.Lib.SmallJoins
import Derived.Deep.RegionWith
import Derived.Maps.Views
import Derived.Maps.OwnOps
import Derived.DeepKeys4
import Derived.Lib.Bytes
import Derived.Deep.DeepCutAuto
import Derived.Lib.Tables
import Derived.Lib.BitFns
import Derived.Deep.DeepMust
set_option maxRecDepth 100000
set_option maxHeartbeats 4000000
namespace Go.Proofs.YthfhefdfehlbkaaGreat
open Go.RowKit
def setL (xs:List Value):Nat→List Value→List Value
 | _,[]=>xs
 | o,v :: vs=>setL (xs.set o v) (o+1) vs
theorem setL_length:∀ (vs xs:List Value) (o:Nat),(setL xs o vs).length=xs.length
 | [],_,_=>rfl
 | v :: vs,xs,o=>by rw [setL,setL_length vs]; simp
theorem setL_get:∀ (vs xs:List Value) (o:Nat),o+vs.length≤xs.length→∀ i,(setL xs o vs)[i]?=if o≤i∧i<o+vs.length then vs[i - o]? else xs[i]?
 | [],xs,o,_,i=>by rw [setL,if_neg (by simp)]
 | v :: vs,xs,o,h,i=>by
  rw [setL,setL_get vs _ _ (by simp at h ⊢; omega) i]
  simp only [List.length_cons] at h ⊢
  by_cases h1:o+1≤i∧i<o+1+vs.length
  ·rw [if_pos h1,if_pos (by omega)]
   obtain ⟨d,rfl⟩:∃ d,i=o+1+d:=⟨i - (o+1),by omega⟩
   rw [show o+1+d - (o+1)=d from by omega,show o+1+d - o=d+1 from by omega]
   rfl
  ·rw [if_neg h1]
   by_cases h2:i=o
   ·subst h2
    rw [if_pos (by omega),List.getElem?_set_self (by omega),Nat.sub_self]
    rfl
   ·rw [if_neg (by omega),List.getElem?_set_ne (fun e=>h2 e.symm)]
theorem own_setCells:∀ (vs:List Value) (w:World) {B k g n cap:Nat} {E:TypeId} {xs:List Value} (o:Nat),w.ownsRow B E k (.slice (some ⟨g,0,none⟩) n cap) n xs →
  (w.setCells g o vs).ownsRow B E k (.slice (some ⟨g,0,none⟩) n cap) n (setL xs o vs)∧w.grownBy (w.setCells g o vs) (some g)
 | [],w,_,_,_,_,_,_,_,_,h=>⟨h,⟨rfl,rfl,rfl,Nat.le_refl _,fun _ _ _=>rfl⟩⟩
 | v :: vs,w,_,_,_,_,_,_,_,o,h=>by
  obtain ⟨h1,g1⟩:=h.stored o v
  obtain ⟨h2,g2⟩:=own_setCells vs (w.setCell ⟨_,o,none⟩ v) (o+1) h1
  exact ⟨h2,⟨g2.os.trans g1.os,g2.tape.trans g1.tape,g2.output.trans g1.output,Nat.le_trans g1.size g2.size,fun k hk hn=>(g2.block k (Nat.lt_of_lt_of_le hk g1.size) hn).trans (g1.block k hk hn)⟩⟩
theorem own_there {w:World} {B k g n cap:Nat} {E:TypeId} {xs:List Value} (h:w.ownsRow B E k (.slice (some ⟨g,0,none⟩) n cap) n xs) (o m:Nat) (hm:o+m≤xs.length):w.there g o m:=fun j hj=>by
 refine ⟨?_,h.frozenAt _⟩
 rw [h.cellAt (o+j) (by have:=h.1; omega)]
 simp
 omega
section
variable {α:Type} {E SE:TypeId} {k by_:Nat} {ce:α→List Value}
end
open Go.RowKit
open Go.Maps (Keyed)
structure AgT (t:TypeId) (n:Nat):Prop where
 und:∃ d,Tryz.prog.underlying t=some (.struct d)
 size:(Tryz.prog.info? t).map (·.size)=some n
def AgAt (w:World) (b:Nat) (A:Array Value):Prop:=∃ T,w.heap[b]?=some (.cells A T (0,0))
section
variable {w w':World} {b:Nat} {A:Array Value} {t:TypeId} {n:Nat}
theorem AgAt.cell (h:AgAt w b A) (i:Nat):w.cell? ⟨b,i,none⟩=A[i]?:=by
 obtain ⟨T,h⟩:=h
 exact cell_of_row w b i _ T (0,0) h
theorem AgAt.free (h:AgAt w b A) (i:Nat):w.frozen? ⟨b,i,none⟩=false:=by
 obtain ⟨T,h⟩:=h
 exact frozen_of_row w b i _ T h
theorem AgAt.lt (h:AgAt w b A):b<w.heap.size:=by
 obtain ⟨T,h⟩:=h
 exact (Array.getElem?_eq_some_iff.1 h).1
theorem AgAt.block (h:AgAt w b A) (e:w'.heap[b]?=w.heap[b]?):AgAt w' b A:=by
 obtain ⟨T,h⟩:=h
 exact ⟨T,e.trans h⟩
theorem AgAt.below (h:AgAt w b A) {B:Nat} (hb:Below B w w') (hB:b<B):AgAt w' b A:=h.block (hb.block b hB)
theorem AgAt.kept (h:AgAt w b A) (hb:Below w.heap.size w w'):AgAt w' b A:=h.below hb h.lt
theorem AgAt.new (w:World) (A:Array Value) (T:TypeId):AgAt (w.alloc (.cells A T)) w.heap.size A:=⟨T,heap_alloc_new w _⟩
theorem AgAt.put (h:AgAt w b A) (i:Nat) (v:Value):AgAt (w.setCell ⟨b,i,none⟩ v) b (A.setIfInBounds i v):=by
 obtain ⟨T,h⟩:=h
 exact ⟨T,by rw [Go.Joins.block_setCell h]⟩
theorem AgT.load (V:AgT t n) (hn:A.size=n) (hv:AgAt w b A):(Instr.loadAt t (.pointer (some ⟨b,0,none⟩))).run Tryz.prog w=.ok (.agg A) w:=by
 obtain ⟨T,hv⟩:=hv
 obtain ⟨d,hu⟩:=V.und
 simp only [Instr.loadAt,Instr.sureAddr,Sem.run_bind,Sem.run_pure,Result.andThen_ok]
 exact run_loadVar_row w b T t _ (0,0) _ hv hu rfl (by rw [hn]; exact V.size)
theorem wpList_load_ag (V:AgT t n) {ops:Array Oper} {rest:List Oper} {o:Oper} {a:Act} {Q:Exit→Act→World→Prop} (hgd:Region.wanted o (yielded ops a.tmps)=true) (y:Operand) (ho:o.op=.load t y)
  (b:Nat) (hx:a.eval y=.pointer (some ⟨b,0,none⟩)) (hn:A.size=n) (hv:AgAt w b A)
  (h:wpList Tryz.prog ops Q rest (a.put o.dst (.agg A)) w):wpList Tryz.prog ops Q (o :: rest) a w:=by
 obtain ⟨T,hv⟩:=hv
 obtain ⟨d,hu⟩:=V.und
 rw [wpList,if_pos hgd]
 exact Or.inl (wp_load_row t y ho b hx T _ (0,0) _ hv hu rfl (by rw [hn]; exact V.size) h)
theorem exec_load_ag (V:AgT t n) {c:Act} {o:Oper} {x:Operand} (ho:o.op=.load t x) {b:Nat} (hx:c.eval x=.pointer (some ⟨b,0,none⟩)) (hn:A.size=n) (hv:AgAt w b A) :
  (execOp c.eval o).run Tryz.prog w=.ok (.value (.agg A)) w:=by
 unfold execOp
 simp only [ho,hx,Sem.run_bind,V.load hn hv,Result.andThen_ok,Sem.run_pure]
theorem results_ag (V:AgT t n) {fn:Func} {p:Tmp} (tmps:Array Value) {g:Nat} (h:fn.results=#[.cell p t]) (hn:A.size=n) (hv:AgAt w g A) (hp:tmps.getD p undef=.pointer (some ⟨g,0,none⟩)) :
  (results fn tmps).run Tryz.prog w=.ok (.agg A) w:=by
 obtain ⟨T,hv⟩:=hv
 obtain ⟨d,hu⟩:=V.und
 exact results_cell_row h tmps w g T _ (0,0) _ hp hv hu rfl (by rw [hn]; exact V.size)
theorem wpList_store_ag (V:AgT t n) {ops:Array Oper} {rest:List Oper} {o:Oper} {a:Act} {Q:Exit→Act→World→Prop} (hgd:o.guard=none) (x y:Operand) (ho:o.op=.store t x y)
  (b:Nat) (hx:a.eval x=.pointer (some ⟨b,0,none⟩)) (u:Array Value) (hv:AgAt w b u) (hy:a.eval y=.agg A) (hu:u.size=n) (hn:A.size=n) (h1:A.all (·.oneCell')=true)
  (h:∀ w':World,AgAt w' b A→(∀ k,k≠b→w'.heap[k]?=w.heap[k]?)→w'.heap.size=w.heap.size→(∀ B w0,Below B w0 w→B≤b→Below B w0 w')→wpList Tryz.prog ops Q rest (a.put o.dst undef) w'):wpList Tryz.prog ops Q (o :: rest) a w:=by
 obtain ⟨T,hv⟩:=hv
 refine wpList_plain hgd fun K hK=>?_
 have hr:(storeVar t ⟨b,0,none⟩ (.agg A)).run Tryz.prog w=.ok () (w.setRow b A):=run_storeVar_row w b T t u A hv (by rw [hn]; exact V.size) (by rw [hu,hn]) h1
 have hk:K (a.put o.dst undef) (w.setRow b A):=by
  refine hK _ _ (h _ ⟨T,setRow_heap w b _ _ T _ hv⟩ (fun k hk=>setRow_other w b k _ hk) (by simp) ?_)
  intro B w0 hb hB
  exact hb.trans ⟨rfl,rfl,rfl,by simp,fun k hk=>setRow_other w b k _ (by omega)⟩
 unfold Oper.wp execOp
 simp only [ho,hx,hy,Instr.storeAt,Instr.sureAddr,Sem.run_bind,Sem.run_pure,Result.andThen_ok,hr]
 exact hk
theorem wpList_store_newag (V:AgT t n) {T:TypeId} {ops:Array Oper} {rest:List Oper} {o:Oper} {a:Act} {Q:Exit→Act→World→Prop} (hgd:o.guard=none) (x y:Operand) (ho:o.op=.store t x y)
  (hx:a.eval x=.pointer (some ⟨w.heap.size,0,none⟩)) (u:Array Value) (hy:a.eval y=.agg A) (hu:u.size=n) (hn:A.size=n) (h1:A.all (·.oneCell')=true)
  (h:∀ w':World,AgAt w' w.heap.size A→Below w.heap.size w w'→wpList Tryz.prog ops Q rest (a.put o.dst undef) w'):wpList Tryz.prog ops Q (o :: rest) a (w.alloc (.cells u T)) :=
 wpList_store_ag V hgd x y ho w.heap.size hx u ⟨T,heap_alloc_new w _⟩ hy hu hn h1 fun w' hv _ _ hb=>h w' hv (hb _ _ ((Below.refl _ _).alloc (Nat.le_refl _) _) (Nat.le_refl _))
end
theorem stA_one (a b:Int):(#[Value.int .i64 a,.int .i64 b]:Array Value).all (·.oneCell')=true:=all_oneCell_toArray (cs:=[.int .i64 a,.int .i64 b]) (by
 intro v hv
 simp only [List.mem_cons,List.not_mem_nil,or_false] at hv
 rcases hv with rfl | rfl <;> rfl)
theorem stT:AgT 35 2:=⟨⟨_,Tryz.underlying35⟩,by kernel_rfl⟩
theorem step_of {P:Program} {w:World} {ops:Array Oper} {o:Oper} {a:Act} {K:Act→World→Prop} {Q:Exit→Act→World→Prop} {E:Prop} (hgd:o.guard=none) (h:Oper.wp P o a w K Q) :
  if Region.wanted o (yielded ops a.tmps)=true then Oper.wp P o a w K Q else E:=by
 have hw:Region.wanted o (yielded ops a.tmps)=true:=by simp [Region.wanted,hgd]
 rw [if_pos hw]
 exact h
theorem wp_mapUpdate {P:Program} {w:World} {o:Oper} {a:Act} {K:Act→World→Prop} {Q:Exit→Act→World→Prop} (t:TypeId) (x y z:Operand) (ho:o.op=.mapUpdate t x y z) (u v n:Value) (hx:a.eval x=u) (hy:a.eval y=v) (hz:a.eval z=n) (w':World)
  (hr:(Instr.mapUpdate t u v n).run P w=.ok () w') (h:K (a.put o.dst undef) w'):Oper.wp P o a w K Q:=by
 unfold Oper.wp execOp
 simp only [ho,hx,hy,hz,Sem.run_bind,Sem.run_pure,hr,Result.andThen_ok]
 exact h
theorem wp_delete {P:Program} {w:World} {o:Oper} {a:Act} {K:Act→World→Prop} {Q:Exit→Act→World→Prop} (x y:Operand) (t k:TypeId) (ho:o.op=.call { callee:=.builtin .delete,args:=#[x,y],argTypes:=#[t,k] }) (u v:Value) (hx:a.eval x=u) (hy:a.eval y=v) (w':World)
  (hr:(Builtin.delete_ #[t,k] o.type #[u,v]).run P w=.ok (.tuple #[]) w') (h:K (a.put o.dst (.tuple #[])) w'):Oper.wp P o a w K Q:=by
 unfold Oper.wp execOp
 simp only [ho,resolve,invoke,builtin,Sem.run_bind,Sem.run_pure,Result.andThen_ok,List.map_toArray,List.map_cons,List.map_nil,hx,hy,hr]
 exact h
theorem exec_lookup {P:Program} {c:Act} {w:World} {o:Oper} {t:TypeId} {x y:Operand} {ok:Bool} (ho:o.op=.lookup t x y ok) {u v z:Value} (hx:c.eval x=u) (hy:c.eval y=v) (hr:(Instr.lookup t u v ok).run P w=.ok z w) :
  (execOp c.eval o).run P w=.ok (.value z) w:=by
 unfold execOp
 simp only [ho,hx,hy,Sem.run_bind,hr,Result.andThen_ok,Sem.run_pure]
theorem wp_store_newag {t:TypeId} {n:Nat} {A:Array Value} {w:World} (V:AgT t n) {T:TypeId} {o:Oper} {a:Act} {K:Act→World→Prop} {Q:Exit→Act→World→Prop} (x y:Operand) (ho:o.op=.store t x y)
  (hx:a.eval x=.pointer (some ⟨w.heap.size,0,none⟩)) (u:Array Value) (hy:a.eval y=.agg A) (hu:u.size=n) (hn:A.size=n) (h1:A.all (·.oneCell')=true)
  (h:∀ w':World,AgAt w' w.heap.size A→Below w.heap.size w w'→K (a.put o.dst undef) w'):Oper.wp Tryz.prog o a (w.alloc (.cells u T)) K Q:=by
 have hv:=heap_alloc_new w (.cells u T)
 have hr:(storeVar t ⟨w.heap.size,0,none⟩ (.agg A)).run Tryz.prog (w.alloc (.cells u T))=.ok () ((w.alloc (.cells u T)).setRow w.heap.size A):=run_storeVar_row _ w.heap.size T t u A hv (by rw [hn]; exact V.size) (by rw [hu,hn]) h1
 have hk:K (a.put o.dst undef) ((w.alloc (.cells u T)).setRow w.heap.size A) :=
  h _ ⟨T,setRow_heap _ w.heap.size _ _ T _ hv⟩ (((Below.refl _ _).alloc (Nat.le_refl _) _).trans ⟨rfl,rfl,rfl,by simp,fun k hk=>setRow_other _ w.heap.size k _ (by omega)⟩)
 unfold Oper.wp execOp
 simp only [ho,hx,hy,Instr.storeAt,Instr.sureAddr,Sem.run_bind,Sem.run_pure,Result.andThen_ok,hr]
 exact hk
theorem set_turns (b:Nat) (w:World) (i:Nat) (v:Value):Turns (fun k=>k=b) w (w.setCell ⟨b,i,none⟩ v):=⟨rfl,rfl,rfl,by simp,fun k _ hk=>heap_setCell_other w ⟨b,i,none⟩ k v hk⟩
theorem stored_turns {w w':World} {b:Nat} (hko:∀ k,k≠b→w'.heap[k]?=w.heap[k]?) (hsz:w'.heap.size=w.heap.size) (hbn:∀ B w0,Below B w0 w→B≤b→Below B w0 w'):Turns (fun k=>k=b) w w' :=
 have h0:=hbn 0 _ (Below.refl 0 _) (Nat.zero_le _)
 ⟨h0.os,h0.tape,h0.output,by rw [hsz]; exact Nat.le_refl _,fun k _ hk=>hko k hk⟩
theorem setBlock_turns {w:World} {M clock:Nat} {es:Array MapEntry} (hb:w.heap[M]?=some (.map es clock)) (o:Obj):Turns (fun k=>k=M) w (Go.ChangeMaps.setBlock w M o) :=
 ⟨rfl,rfl,rfl,by simp [Go.ChangeMaps.setBlock],fun k _ hk=>Go.ChangeMaps.heap_setBlock_other hb _ (fun e=>hk e)⟩
theorem wp_store_ag {t:TypeId} {n:Nat} {A:Array Value} {w:World} (V:AgT t n) {o:Oper} {a:Act} {K:Act→World→Prop} {Q:Exit→Act→World→Prop} (x y:Operand) (ho:o.op=.store t x y)
  (b:Nat) (hx:a.eval x=.pointer (some ⟨b,0,none⟩)) (u:Array Value) (hv:AgAt w b u) (hy:a.eval y=.agg A) (hu:u.size=n) (hn:A.size=n) (h1:A.all (·.oneCell')=true)
  (h:∀ w':World,AgAt w' b A→(∀ k,k≠b→w'.heap[k]?=w.heap[k]?)→w'.heap.size=w.heap.size→(∀ B w0,Below B w0 w→B≤b→Below B w0 w')→K (a.put o.dst undef) w'):Oper.wp Tryz.prog o a w K Q:=by
 obtain ⟨T,hv⟩:=hv
 have hr:(storeVar t ⟨b,0,none⟩ (.agg A)).run Tryz.prog w=.ok () (w.setRow b A):=run_storeVar_row w b T t u A hv (by rw [hn]; exact V.size) (by rw [hu,hn]) h1
 have hk:K (a.put o.dst undef) (w.setRow b A):=by
  refine h _ ⟨T,setRow_heap w b _ _ T _ hv⟩ (fun k hk=>setRow_other w b k _ hk) (by simp) ?_
  intro B w0 hb hB
  exact hb.trans ⟨rfl,rfl,rfl,by simp,fun k hk=>setRow_other w b k _ (by omega)⟩
 unfold Oper.wp execOp
 simp only [ho,hx,hy,Instr.storeAt,Instr.sureAddr,Sem.run_bind,Sem.run_pure,Result.andThen_ok,hr]
 exact hk
theorem results_two {t:TypeId} {n:Nat} {A:Array Value} {w:World} (V:AgT t n) {fn:Func} {p u:Tmp} (tmps:Array Value) {g:Nat} {v:Value} (h:fn.results=#[.cell p t,.tmp u]) (hn:A.size=n) (hv:AgAt w g A) (hp:tmps.getD p undef=.pointer (some ⟨g,0,none⟩)) (hu:tmps.getD u undef=v) :
  (results fn tmps).run Tryz.prog w=.ok (.tuple #[.agg A,v]) w:=by
 obtain ⟨T,hv⟩:=hv
 obtain ⟨d,hd⟩:=V.und
 rw [results_cell_tmp h,hp,hu]
 simp [asAddr,Result.andThen,run_loadVar_row w g T t _ (0,0) _ hv hd rfl (by rw [hn]; exact V.size)]
theorem oinfo_st:(Tryz.prog.info? 35).map (fun i=>(i.zero,i.size,i.bytes))=some (some (.agg #[.int .i64 0,.int .i64 0]),2,16):=by kernel_rfl
theorem i64wf {n:Int} (h0:-9223372036854775808≤n) (h1:n≤9223372036854775807):(Lit.int .i64 n).wf=true:=by
 have e1:IntKind.i64.min = -9223372036854775808:=by decide
 have e2:IntKind.i64.max=9223372036854775807:=by decide
 simp [Lit.wf,e1,e2]
 omega
end Go.Proofs.YthfhefdfehlbkaaGreat
namespace Go.Proofs.YthfhefdfehlbkaaGreat.Vm
def okC (c:UInt8):Bool:=decide (32≤c.toNat∧c.toNat≤126)
def okT (l:List UInt8):Bool:=decide (l.length≤64) && l.all okC
def rightV (k n:Int) (t:List UInt8):Bool :=
 decide ((k=3∧n=0∧okT t=true)∨(k=0∧n=0∧t=[])∨(k=4∧(n=0∨n=1)∧t=[])∨((k=1∨k=2)∧(-1099511627776≤n∧n≤1099511627776)∧t=[]))
theorem rightV_text (n:Int) (t:List UInt8):rightV 3 n t=(decide (n=0) && okT t):=by simp [rightV]
theorem rightV_none (n:Int) (t:List UInt8):rightV 0 n t=(decide (n=0) && decide (t=[])):=by simp [rightV]
theorem rightV_flag (n:Int) (t:List UInt8):rightV 4 n t=(decide (n=0∨n=1) && decide (t=[])):=by simp [rightV]
theorem rightV_num (k n:Int) (t:List UInt8) (hk:k=1∨k=2):rightV k n t=(decide (-1099511627776≤n∧n≤1099511627776) && decide (t=[])):=by
 rcases hk with rfl | rfl <;> simp [rightV]
theorem rightV_other (k n:Int) (t:List UInt8) (h0:k≠0) (h1:k≠1) (h2:k≠2) (h3:k≠3) (h4:k≠4):rightV k n t=false:=by
 simp [rightV,h0,h1,h2,h3,h4]
end Go.Proofs.YthfhefdfehlbkaaGreat.Vm
namespace Go.Proofs.YthfhefdfehlbkaaGreat
open Go.RowKit
theorem str_len (s:ByteArray):s.data.toList.length=s.size:=by rw [Array.length_toList]; rfl
theorem str_snoc (s:ByteArray) (k:Nat) (h:k<s.size):s.data.toList.take (k+1)=s.data.toList.take k ++ [s[k]]:=by
 rw [List.take_succ_eq_append_getElem (by simpa using h)]; rfl
theorem str_mem (s:ByteArray) (k:Nat) (h:k<s.size):s[k] ∈ s.data.toList:=by
 have:s[k]=s.data.toList[k]'(by simpa using h):=rfl
 rw [this]; exact List.getElem_mem _
theorem okT_long (s:ByteArray) (h:64<s.size):Vm.okT s.data.toList=false:=by
 unfold Vm.okT; rw [str_len,decide_eq_false (by omega)]; rfl
theorem okT_bad (s:ByteArray) (k:Nat) (h:k<s.size) (hc:s[k].toNat<32∨126<s[k].toNat):Vm.okT s.data.toList=false:=by
 unfold Vm.okT
 rw [Bool.and_eq_false_iff]
 right
 rw [List.all_eq_false]
 exact ⟨s[k],str_mem s k h,by simp [Vm.okC]; omega⟩
theorem okT_all (s:ByteArray) (h:s.size≤64) (ha:(s.data.toList.take s.size).all Vm.okC=true):Vm.okT s.data.toList=true:=by
 rw [List.take_of_length_le (by rw [str_len]; omega)] at ha
 unfold Vm.okT
 rw [str_len,ha,decide_eq_true h]; rfl
theorem okC_snoc (s:ByteArray) (k:Nat) (h:k<s.size) (ha:(s.data.toList.take k).all Vm.okC=true) (h0:32≤s[k].toNat) (h1:s[k].toNat≤126):(s.data.toList.take (k+1)).all Vm.okC=true:=by
 rw [str_snoc s k h,List.all_append,ha]
 simp [Vm.okC,h0,h1]
theorem plain_any (s:ByteArray) (w:World) (hs:s.size≤4611686018427387904):Calls Tryz.prog 324 #[.string s] w fun e w'=>e=.returned (.bool (Vm.okT s.data.toList))∧w=w':=by
 by_cases h1:64<s.size
 ·have HR:=Hi (okT_long s h1)
  go_enter Tryz.func324,Tryz.ntmps324
  go_wp2
  go_ret
  rw [HR.out]
  exact ⟨rfl,rfl⟩
 ·have HB:=Hi (okT_bad s)
  have HA:=Hi (okT_all s (by omega))
  have HS:=Hi (okC_snoc s)
  go_enter Tryz.func324,Tryz.ntmps324
  go_wp2
  go_loop [9] (fun i=>∃ k:Nat,k≤s.size∧i=.int .i64 k∧(s.data.toList.take k).all Vm.okC=true) (fun i=>s.size - (RowKit.intOf i).toNat)
  case atStart=>exact ⟨0,Nat.zero_le _,rfl,rfl⟩
  case round =>
   obtain ⟨k,hk,rfl,hd⟩:=hrel
   have HD:=Hi hd
   clear hd
   by_cases hlt:k<s.size
   ·by_cases hc0:s[k].toNat<32
    ·have HR:=Hi (HB.out k hlt (Or.inl hc0))
     go_wp2
     go_ret
     rw [HR.out]
     exact ⟨rfl,rfl⟩
    ·by_cases hc1:126<s[k].toNat
     ·have HR:=Hi (HB.out k hlt (Or.inr hc1))
      go_wp2
      go_ret
      rw [HR.out]
      exact ⟨rfl,rfl⟩
     ·have HN:=Hi (HS.out k hlt HD.out (by omega) (by omega))
      go_wp2
      go_round
      case rel=>exact ⟨k+1,by omega,by go_num,HN.out⟩
      case measure=>simp [RowKit.intOf]; omega
   ·obtain rfl:k=s.size:=by omega
    have HR:=Hi (HA.out HD.out)
    go_wp2
    go_ret
    rw [HR.out]
    exact ⟨rfl,rfl⟩
def ThreeAt (w:World) (b:Nat) (k n:Int) (t:ByteArray):Prop:=w.heap[b]?=some (.cells #[.int .i64 k,.int .i64 n,.string t] 38 (0,0))
theorem str_empty (t:ByteArray):t.toList.isEmpty=decide (t.data.toList=[]):=by
 rw [ByteArray.toList_eq]
 cases t.data.toList <;> rfl
theorem ret_bool {a b:Bool} (h:a=b):Ending.returned (.bool a)=Ending.returned (.bool b):=by rw [h]
theorem vright_any (k n:Int) (t:ByteArray) (w:World) (ht:t.size≤4611686018427387904) :
  Calls Tryz.prog 302 #[.agg #[.int .i64 k,.int .i64 n,.string t]] w fun e w'=>e=.returned (.bool (Vm.rightV k n t.data.toList))∧Below w.heap.size w w':=by
 have HB:=Hi ((Below.refl w.heap.size w).alloc (Nat.le_refl _) (.cells #[.int .i64 k,.int .i64 n,.string t] 38))
 have HP:=Hi (fun W=>plain_any t W ht)
 have HE:=Hi (str_empty t)
 by_cases h3:k=3
 ·subst h3
  rw [Vm.rightV_text]
  cases ho:Vm.okT t.data.toList with
  | false =>
   have HO:=Hi ho
   clear ho
   go_enter Tryz.func302,Tryz.ntmps302
   go_wp2_with fail
   refine (HP.out _).mono ?_
   rw [HO.out]
   rintro e w' ⟨rfl,rfl⟩
   go_wp2
   go_ret
   exact ⟨ret_bool (by simp),HB.out⟩
  | true =>
   have HO:=Hi ho
   clear ho
   by_cases hn:n=0
   ·subst hn
    go_enter Tryz.func302,Tryz.ntmps302
    go_wp2_with fail
    refine (HP.out _).mono ?_
    rw [HO.out]
    rintro e w' ⟨rfl,rfl⟩
    go_wp2
    go_ret
    exact ⟨ret_bool (by simp),(Below.refl _ _).alloc (Nat.le_refl _) _⟩
   ·have hn':(n == 0)=false:=by simpa using hn
    have HR:=Hi (show decide (n=0)=false from decide_eq_false hn)
    clear hn
    go_enter Tryz.func302,Tryz.ntmps302
    go_wp2_with fail
    refine (HP.out _).mono ?_
    rw [HO.out]
    rintro e w' ⟨rfl,rfl⟩
    go_wp2
    go_ret
    exact ⟨ret_bool (by first | rfl | (rw [HR.out]; simp)),(Below.refl _ _).alloc (Nat.le_refl _) _⟩
 by_cases h0:k=0
 ·subst h0
  rw [Vm.rightV_none]
  by_cases hn:n=0
  ·subst hn
   go_enter Tryz.func302,Tryz.ntmps302
   go_wp2
   go_ret
   exact ⟨ret_bool (by rw [HE.out]; simp),HB.out⟩
  ·have hn':(n == 0)=false:=by simpa using hn
   have HR:=Hi (show decide (n=0)=false from decide_eq_false hn)
   clear hn
   go_enter Tryz.func302,Tryz.ntmps302
   go_wp2
   go_ret
   exact ⟨ret_bool (by first | rfl | (rw [HR.out]; simp)),HB.out⟩
 by_cases h4:k=4
 ·subst h4
  rw [Vm.rightV_flag]
  by_cases hn:n=0
  ·subst hn
   go_enter Tryz.func302,Tryz.ntmps302
   go_wp2
   go_ret
   exact ⟨ret_bool (by rw [HE.out]; simp),HB.out⟩
  ·have hn':(n == 0)=false:=by simpa using hn
   by_cases hm:n=1
   ·subst hm
    clear hn
    go_enter Tryz.func302,Tryz.ntmps302
    go_wp2
    go_ret
    exact ⟨ret_bool (by rw [HE.out]; simp),HB.out⟩
   ·have hm':(n == 1)=false:=by simpa using hm
    have HR:=Hi (show decide (n=0∨n=1)=false from decide_eq_false (by omega))
    clear hn hm
    go_enter Tryz.func302,Tryz.ntmps302
    go_wp2
    go_ret
    exact ⟨ret_bool (by first | rfl | (rw [HR.out]; simp)),HB.out⟩
 by_cases h1:k=1∨k=2
 ·rw [Vm.rightV_num _ _ _ h1]
  by_cases hn:-1099511627776≤n
  ·by_cases hm:n≤1099511627776
   ·have HR:=Hi (show decide (-1099511627776≤n∧n≤1099511627776)=true from decide_eq_true ⟨hn,hm⟩)
    rcases h1 with rfl | rfl
    all_goals
     go_enter Tryz.func302,Tryz.ntmps302
     go_wp2
     go_ret
     exact ⟨ret_bool (by rw [HE.out,HR.out]; simp),HB.out⟩
   ·have HR:=Hi (show decide (-1099511627776≤n∧n≤1099511627776)=false from decide_eq_false (by omega))
    have hd:decide (n≤1099511627776)=false:=decide_eq_false hm
    rcases h1 with rfl | rfl
    all_goals
     go_enter Tryz.func302,Tryz.ntmps302
     go_wp2
     go_ret
     exact ⟨ret_bool (by first | rfl | (rw [HR.out]; simp)),HB.out⟩
  ·have HR:=Hi (show decide (-1099511627776≤n∧n≤1099511627776)=false from decide_eq_false (by omega))
   have hd:decide (-1099511627776≤n)=false:=decide_eq_false hn
   rcases h1 with rfl | rfl
   all_goals
    go_enter Tryz.func302,Tryz.ntmps302
    go_wp2
    go_ret
    exact ⟨ret_bool (by first | rfl | (rw [HR.out]; simp)),HB.out⟩
 ·have e0:(k == 0)=false:=by simpa using h0
  have e1:(k == 1)=false:=by rw [beq_eq_false_iff_ne]; omega
  have e2:(k == 2)=false:=by rw [beq_eq_false_iff_ne]; omega
  have e3:(k == 3)=false:=by simpa using h3
  have e4:(k == 4)=false:=by simpa using h4
  have HR:=Hi (Vm.rightV_other k n t.data.toList h0 (by omega) (by omega) h3 h4)
  clear h0 h1 h3 h4
  go_enter Tryz.func302,Tryz.ntmps302
  go_wp2
  go_ret
  exact ⟨ret_bool (by rw [HR.out]),HB.out⟩
open Go.RowKit
theorem ThreeAt.size {w:World} {b:Nat} {k n:Int} {t:ByteArray} (h:ThreeAt w b k n t):b<w.heap.size:=(Array.getElem?_eq_some_iff.1 h).1
theorem ThreeAt.cell0 {w:World} {b:Nat} {k n:Int} {t:ByteArray} (h:ThreeAt w b k n t):w.cell? ⟨b,0,none⟩=some (.int .i64 k):=by rw [Go.Joins.cell_of_block h]; rfl
theorem ThreeAt.start (w:World) (k n:Int) (t:ByteArray):ThreeAt (w.alloc (.cells #[.int .i64 k,.int .i64 n,.string t] 38)) w.heap.size k n t:=by
 unfold ThreeAt
 show (w.heap.push _)[w.heap.size]?=_
 simp
theorem ThreeAt.kept {w w':World} {b:Nat} {k n:Int} {t:ByteArray} (h:ThreeAt w b k n t) (hb:Below w.heap.size w w'):ThreeAt w' b k n t:=(hb.block b h.size).trans h
open Go.RowKit
open Go.RowKit
open Go.RowKit
open Go.RowKit
open Go.RowKit
open Go.RowKit
open Go.RowKit
open Go.RowKit
theorem cell_same {w:World} {a:Addr} {u v:Value} (h:w.cell? a=some u):(w.setCell a v).cell? a=some v:=World.cell?_setCell_same' w a v (by rw [h]; rfl)
theorem cell_other {w:World} {a b:Addr} {v:Value} (h:a≠b):(w.setCell a v).cell? b=w.cell? b:=by
 apply World.cell?_setCell_other
 exact h
def Only (b:Nat) (w w':World):Prop:=w.grownBy w' (some b)
open Go.RowKit
open Go.RowKit
open Go.RowKit
open Go.RowKit
open Go.RowKit
open Go.RowKit
def kindOf (p:Int):Int:=if p=1∨p=2 then 4 else if p=3 then 3 else if p=4∨p=5∨p=6∨p=7 then 2 else if p=8 then 1 else -1
def right8V (p k n:Int) (t:List UInt8):Bool:=decide (1≤p∧p≤8) && (Vm.rightV k n t && decide (k=kindOf p∨k=0))
theorem vright8_any (p k n:Int) (t:ByteArray) (w:World) (ht:t.size≤4611686018427387904):Calls Tryz.prog 254 #[.int .i64 p,.agg #[.int .i64 k,.int .i64 n,.string t]] w fun e w'=>e=.returned (.bool (right8V p k n t.data.toList))∧Below w.heap.size w w':=by
 have hb:=(Below.refl w.heap.size w).alloc (Nat.le_refl _) (.cells #[.int .i64 k,.int .i64 n,.string t] 38)
 have HB:=Hi hb
 have HT:=Hi (ThreeAt.start w k n t)
 clear hb
 by_cases hp:1≤p∧p≤8
 ·have HR:=Hi (show right8V p k n t.data.toList=(Vm.rightV k n t.data.toList && decide (k=kindOf p∨k=0)) by unfold right8V; rw [decide_eq_true hp]; rfl)
  cases hr:Vm.rightV k n t.data.toList with
  | false =>
   have HRB:=Hi hr
   clear hr
   have hc:p=1∨p=2∨p=3∨p=4∨p=5∨p=6∨p=7∨p=8:=by omega
   clear hp
   rcases hc with rfl | rfl | rfl | rfl | rfl | rfl | rfl | rfl
   all_goals
    go_enter Tryz.func254,Tryz.ntmps254
    go_wp2_with fail
    refine (vright_any k n t _ ht).mono ?_
    rw [HRB.out]
    rintro e w1 ⟨rfl,hb1⟩
    have HB1:=Hi (HB.out.trans (hb1.mono HB.out.size))
    clear hb1
    go_wp2
    go_ret
    rw [HR.out,HRB.out]
    exact ⟨rfl,HB1.out⟩
  | true =>
   have HRB:=Hi hr
   clear hr
   by_cases h0:k=0
   ·have HD:=Hi (show decide (k=kindOf p∨k=0)=true from decide_eq_true (Or.inr h0))
    subst h0
    have hc:p=1∨p=2∨p=3∨p=4∨p=5∨p=6∨p=7∨p=8:=by omega
    clear hp
    rcases hc with rfl | rfl | rfl | rfl | rfl | rfl | rfl | rfl
    all_goals
     go_enter Tryz.func254,Tryz.ntmps254
     go_wp2_with fail
     refine (vright_any _ n t _ ht).mono ?_
     rw [HRB.out]
     rintro e w1 ⟨rfl,hb1⟩
     have HB1:=Hi (HB.out.trans (hb1.mono HB.out.size))
     have x0:=(HT.out.kept hb1).cell0
     clear hb1
     go_wp2
     go_ret
     rw [HR.out,HRB.out,HD.out]
     exact ⟨ret_bool (by simp),HB1.out⟩
   ·have e0:(k == 0)=false:=by simpa using h0
    have hc:p=1∨p=2∨p=3∨p=4∨p=5∨p=6∨p=7∨p=8:=by omega
    clear hp
    rcases hc with rfl | hc
    ·by_cases hk:k=4
     ·have HD:=Hi (show decide (k=kindOf 1∨k=0)=true from decide_eq_true (Or.inl hk))
      subst hk
      clear h0 e0
      go_enter Tryz.func254,Tryz.ntmps254
      go_wp2_with fail
      refine (vright_any _ n t _ ht).mono ?_
      rw [HRB.out]
      rintro e w1 ⟨rfl,hb1⟩
      have HB1:=Hi (HB.out.trans (hb1.mono HB.out.size))
      have x0:=(HT.out.kept hb1).cell0
      clear hb1
      go_wp2
      go_ret
      rw [HR.out,HRB.out,HD.out]
      exact ⟨ret_bool (by simp),HB1.out⟩
     ·have HD:=Hi (show decide (k=kindOf 1∨k=0)=false from decide_eq_false (by rw [show kindOf 1=4 from by decide]; omega))
      have e1:(k == 4)=false:=by simpa using hk
      clear h0 hk
      go_enter Tryz.func254,Tryz.ntmps254
      go_wp2_with fail
      refine (vright_any _ n t _ ht).mono ?_
      rw [HRB.out]
      rintro e w1 ⟨rfl,hb1⟩
      have HB1:=Hi (HB.out.trans (hb1.mono HB.out.size))
      have x0:=(HT.out.kept hb1).cell0
      clear hb1
      go_wp2
      go_ret
      rw [HR.out,HRB.out,HD.out]
      exact ⟨ret_bool (by simp),HB1.out⟩
    rcases hc with rfl | hc
    ·by_cases hk:k=4
     ·have HD:=Hi (show decide (k=kindOf 2∨k=0)=true from decide_eq_true (Or.inl hk))
      subst hk
      clear h0 e0
      go_enter Tryz.func254,Tryz.ntmps254
      go_wp2_with fail
      refine (vright_any _ n t _ ht).mono ?_
      rw [HRB.out]
      rintro e w1 ⟨rfl,hb1⟩
      have HB1:=Hi (HB.out.trans (hb1.mono HB.out.size))
      have x0:=(HT.out.kept hb1).cell0
      clear hb1
      go_wp2
      go_ret
      rw [HR.out,HRB.out,HD.out]
      exact ⟨ret_bool (by simp),HB1.out⟩
     ·have HD:=Hi (show decide (k=kindOf 2∨k=0)=false from decide_eq_false (by rw [show kindOf 2=4 from by decide]; omega))
      have e1:(k == 4)=false:=by simpa using hk
      clear h0 hk
      go_enter Tryz.func254,Tryz.ntmps254
      go_wp2_with fail
      refine (vright_any _ n t _ ht).mono ?_
      rw [HRB.out]
      rintro e w1 ⟨rfl,hb1⟩
      have HB1:=Hi (HB.out.trans (hb1.mono HB.out.size))
      have x0:=(HT.out.kept hb1).cell0
      clear hb1
      go_wp2
      go_ret
      rw [HR.out,HRB.out,HD.out]
      exact ⟨ret_bool (by simp),HB1.out⟩
    rcases hc with rfl | hc
    ·by_cases hk:k=3
     ·have HD:=Hi (show decide (k=kindOf 3∨k=0)=true from decide_eq_true (Or.inl hk))
      subst hk
      clear h0 e0
      go_enter Tryz.func254,Tryz.ntmps254
      go_wp2_with fail
      refine (vright_any _ n t _ ht).mono ?_
      rw [HRB.out]
      rintro e w1 ⟨rfl,hb1⟩
      have HB1:=Hi (HB.out.trans (hb1.mono HB.out.size))
      have x0:=(HT.out.kept hb1).cell0
      clear hb1
      go_wp2
      go_ret
      rw [HR.out,HRB.out,HD.out]
      exact ⟨ret_bool (by simp),HB1.out⟩
     ·have HD:=Hi (show decide (k=kindOf 3∨k=0)=false from decide_eq_false (by rw [show kindOf 3=3 from by decide]; omega))
      have e1:(k == 3)=false:=by simpa using hk
      clear h0 hk
      go_enter Tryz.func254,Tryz.ntmps254
      go_wp2_with fail
      refine (vright_any _ n t _ ht).mono ?_
      rw [HRB.out]
      rintro e w1 ⟨rfl,hb1⟩
      have HB1:=Hi (HB.out.trans (hb1.mono HB.out.size))
      have x0:=(HT.out.kept hb1).cell0
      clear hb1
      go_wp2
      go_ret
      rw [HR.out,HRB.out,HD.out]
      exact ⟨ret_bool (by simp),HB1.out⟩
    rcases hc with rfl | hc
    ·by_cases hk:k=2
     ·have HD:=Hi (show decide (k=kindOf 4∨k=0)=true from decide_eq_true (Or.inl hk))
      subst hk
      clear h0 e0
      go_enter Tryz.func254,Tryz.ntmps254
      go_wp2_with fail
      refine (vright_any _ n t _ ht).mono ?_
      rw [HRB.out]
      rintro e w1 ⟨rfl,hb1⟩
      have HB1:=Hi (HB.out.trans (hb1.mono HB.out.size))
      have x0:=(HT.out.kept hb1).cell0
      clear hb1
      go_wp2
      go_ret
      rw [HR.out,HRB.out,HD.out]
      exact ⟨ret_bool (by simp),HB1.out⟩
     ·have HD:=Hi (show decide (k=kindOf 4∨k=0)=false from decide_eq_false (by rw [show kindOf 4=2 from by decide]; omega))
      have e1:(k == 2)=false:=by simpa using hk
      clear h0 hk
      go_enter Tryz.func254,Tryz.ntmps254
      go_wp2_with fail
      refine (vright_any _ n t _ ht).mono ?_
      rw [HRB.out]
      rintro e w1 ⟨rfl,hb1⟩
      have HB1:=Hi (HB.out.trans (hb1.mono HB.out.size))
      have x0:=(HT.out.kept hb1).cell0
      clear hb1
      go_wp2
      go_ret
      rw [HR.out,HRB.out,HD.out]
      exact ⟨ret_bool (by simp),HB1.out⟩
    rcases hc with rfl | hc
    ·by_cases hk:k=2
     ·have HD:=Hi (show decide (k=kindOf 5∨k=0)=true from decide_eq_true (Or.inl hk))
      subst hk
      clear h0 e0
      go_enter Tryz.func254,Tryz.ntmps254
      go_wp2_with fail
      refine (vright_any _ n t _ ht).mono ?_
      rw [HRB.out]
      rintro e w1 ⟨rfl,hb1⟩
      have HB1:=Hi (HB.out.trans (hb1.mono HB.out.size))
      have x0:=(HT.out.kept hb1).cell0
      clear hb1
      go_wp2
      go_ret
      rw [HR.out,HRB.out,HD.out]
      exact ⟨ret_bool (by simp),HB1.out⟩
     ·have HD:=Hi (show decide (k=kindOf 5∨k=0)=false from decide_eq_false (by rw [show kindOf 5=2 from by decide]; omega))
      have e1:(k == 2)=false:=by simpa using hk
      clear h0 hk
      go_enter Tryz.func254,Tryz.ntmps254
      go_wp2_with fail
      refine (vright_any _ n t _ ht).mono ?_
      rw [HRB.out]
      rintro e w1 ⟨rfl,hb1⟩
      have HB1:=Hi (HB.out.trans (hb1.mono HB.out.size))
      have x0:=(HT.out.kept hb1).cell0
      clear hb1
      go_wp2
      go_ret
      rw [HR.out,HRB.out,HD.out]
      exact ⟨ret_bool (by simp),HB1.out⟩
    rcases hc with rfl | hc
    ·by_cases hk:k=2
     ·have HD:=Hi (show decide (k=kindOf 6∨k=0)=true from decide_eq_true (Or.inl hk))
      subst hk
      clear h0 e0
      go_enter Tryz.func254,Tryz.ntmps254
      go_wp2_with fail
      refine (vright_any _ n t _ ht).mono ?_
      rw [HRB.out]
      rintro e w1 ⟨rfl,hb1⟩
      have HB1:=Hi (HB.out.trans (hb1.mono HB.out.size))
      have x0:=(HT.out.kept hb1).cell0
      clear hb1
      go_wp2
      go_ret
      rw [HR.out,HRB.out,HD.out]
      exact ⟨ret_bool (by simp),HB1.out⟩
     ·have HD:=Hi (show decide (k=kindOf 6∨k=0)=false from decide_eq_false (by rw [show kindOf 6=2 from by decide]; omega))
      have e1:(k == 2)=false:=by simpa using hk
      clear h0 hk
      go_enter Tryz.func254,Tryz.ntmps254
      go_wp2_with fail
      refine (vright_any _ n t _ ht).mono ?_
      rw [HRB.out]
      rintro e w1 ⟨rfl,hb1⟩
      have HB1:=Hi (HB.out.trans (hb1.mono HB.out.size))
      have x0:=(HT.out.kept hb1).cell0
      clear hb1
      go_wp2
      go_ret
      rw [HR.out,HRB.out,HD.out]
      exact ⟨ret_bool (by simp),HB1.out⟩
    rcases hc with rfl | hc
    ·by_cases hk:k=2
     ·have HD:=Hi (show decide (k=kindOf 7∨k=0)=true from decide_eq_true (Or.inl hk))
      subst hk
      clear h0 e0
      go_enter Tryz.func254,Tryz.ntmps254
      go_wp2_with fail
      refine (vright_any _ n t _ ht).mono ?_
      rw [HRB.out]
      rintro e w1 ⟨rfl,hb1⟩
      have HB1:=Hi (HB.out.trans (hb1.mono HB.out.size))
      have x0:=(HT.out.kept hb1).cell0
      clear hb1
      go_wp2
      go_ret
      rw [HR.out,HRB.out,HD.out]
      exact ⟨ret_bool (by simp),HB1.out⟩
     ·have HD:=Hi (show decide (k=kindOf 7∨k=0)=false from decide_eq_false (by rw [show kindOf 7=2 from by decide]; omega))
      have e1:(k == 2)=false:=by simpa using hk
      clear h0 hk
      go_enter Tryz.func254,Tryz.ntmps254
      go_wp2_with fail
      refine (vright_any _ n t _ ht).mono ?_
      rw [HRB.out]
      rintro e w1 ⟨rfl,hb1⟩
      have HB1:=Hi (HB.out.trans (hb1.mono HB.out.size))
      have x0:=(HT.out.kept hb1).cell0
      clear hb1
      go_wp2
      go_ret
      rw [HR.out,HRB.out,HD.out]
      exact ⟨ret_bool (by simp),HB1.out⟩
    subst hc
    by_cases hk:k=1
    ·have HD:=Hi (show decide (k=kindOf 8∨k=0)=true from decide_eq_true (Or.inl hk))
     subst hk
     clear h0 e0
     go_enter Tryz.func254,Tryz.ntmps254
     go_wp2_with fail
     refine (vright_any _ n t _ ht).mono ?_
     rw [HRB.out]
     rintro e w1 ⟨rfl,hb1⟩
     have HB1:=Hi (HB.out.trans (hb1.mono HB.out.size))
     have x0:=(HT.out.kept hb1).cell0
     clear hb1
     go_wp2
     go_ret
     rw [HR.out,HRB.out,HD.out]
     exact ⟨ret_bool (by simp),HB1.out⟩
    ·have HD:=Hi (show decide (k=kindOf 8∨k=0)=false from decide_eq_false (by rw [show kindOf 8=1 from by decide]; omega))
     have e1:(k == 1)=false:=by simpa using hk
     clear h0 hk
     go_enter Tryz.func254,Tryz.ntmps254
     go_wp2_with fail
     refine (vright_any _ n t _ ht).mono ?_
     rw [HRB.out]
     rintro e w1 ⟨rfl,hb1⟩
     have HB1:=Hi (HB.out.trans (hb1.mono HB.out.size))
     have x0:=(HT.out.kept hb1).cell0
     clear hb1
     go_wp2
     go_ret
     rw [HR.out,HRB.out,HD.out]
     exact ⟨ret_bool (by simp),HB1.out⟩
 ·have HR:=Hi (show right8V p k n t.data.toList=false by unfold right8V; rw [decide_eq_false hp]; rfl)
  have e1:(p == 1)=false:=by rw [beq_eq_false_iff_ne]; omega
  have e2:(p == 2)=false:=by rw [beq_eq_false_iff_ne]; omega
  have e3:(p == 3)=false:=by rw [beq_eq_false_iff_ne]; omega
  have e4:(p == 4)=false:=by rw [beq_eq_false_iff_ne]; omega
  have e5:(p == 5)=false:=by rw [beq_eq_false_iff_ne]; omega
  have e6:(p == 6)=false:=by rw [beq_eq_false_iff_ne]; omega
  have e7:(p == 7)=false:=by rw [beq_eq_false_iff_ne]; omega
  have e8:(p == 8)=false:=by rw [beq_eq_false_iff_ne]; omega
  clear hp
  go_enter Tryz.func254,Tryz.ntmps254
  go_wp2
  go_ret
  rw [HR.out]
  exact ⟨rfl,HB.out⟩
open Go.RowKit
def rightB (t r:Int):Bool:=decide (0≤t∧t≤1099511627776∧0≤r∧r≤15)
theorem rightB_yes {t r:Int} (h:rightB t r=true):0≤t∧t≤1099511627776∧0≤r∧r≤15:=of_decide_eq_true h
def cmpS (t r t' r':Int):Int:=if t=t' then (if r=r' then 0 else if r<r' then -1 else 1) else if t<t' then -1 else 1
theorem right_any (t r:Int) (w:World) :
  Calls Tryz.prog 162 #[.agg #[.int .i64 t,.int .i64 r]] w fun e w'=>e=.returned (.bool (rightB t r))∧Below w.heap.size w w':=by
 have hb:=(Below.refl w.heap.size w).alloc (Nat.le_refl _) (.cells #[.int .i64 t,.int .i64 r] 35)
 have HB:=Hi hb
 clear hb
 by_cases h0:0≤t
 ·by_cases h1:t≤1099511627776
  ·by_cases h2:0≤r
   ·by_cases h3:r≤15
    ·have HR:=Hi (show rightB t r=true from decide_eq_true ⟨h0,h1,h2,h3⟩)
     go_enter Tryz.func162,Tryz.ntmps162
     go_wp2
     go_ret
     rw [HR.out]
     exact ⟨rfl,HB.out⟩
    ·have HR:=Hi (show rightB t r=false from decide_eq_false (fun h=>h3 h.2.2.2))
     have d3:decide (r≤15)=false:=decide_eq_false h3
     go_enter Tryz.func162,Tryz.ntmps162
     go_wp2
     go_ret
     rw [HR.out]
     exact ⟨rfl,HB.out⟩
   ·have HR:=Hi (show rightB t r=false from decide_eq_false (fun h=>h2 h.2.2.1))
    have d3:decide (0≤r)=false:=decide_eq_false h2
    go_enter Tryz.func162,Tryz.ntmps162
    go_wp2
    go_ret
    rw [HR.out]
    exact ⟨rfl,HB.out⟩
  ·have HR:=Hi (show rightB t r=false from decide_eq_false (fun h=>h1 h.2.1))
   have d3:decide (t≤1099511627776)=false:=decide_eq_false h1
   go_enter Tryz.func162,Tryz.ntmps162
   go_wp2
   go_ret
   rw [HR.out]
   exact ⟨rfl,HB.out⟩
 ·have HR:=Hi (show rightB t r=false from decide_eq_false (fun h=>h0 h.1))
  have d3:decide (0≤t)=false:=decide_eq_false h0
  go_enter Tryz.func162,Tryz.ntmps162
  go_wp2
  go_ret
  rw [HR.out]
  exact ⟨rfl,HB.out⟩
theorem compare_any (t r t' r':Int) (w:World) :
  Calls Tryz.prog 168 #[.agg #[.int .i64 t,.int .i64 r],.agg #[.int .i64 t',.int .i64 r']] w fun e w'=>e=.returned (.int .i64 (cmpS t r t' r'))∧Below w.heap.size w w':=by
 have hb:=((Below.refl w.heap.size w).alloc (Nat.le_refl _) (.cells #[.int .i64 t,.int .i64 r] 35)).alloc (by simp) (.cells #[.int .i64 t',.int .i64 r'] 35)
 have HB:=Hi hb
 clear hb
 by_cases h0:t=t'
 ·subst h0
  by_cases h1:r=r'
  ·subst h1
   have HR:=Hi (show cmpS t r t r=0 from by simp [cmpS])
   go_enter Tryz.func168,Tryz.ntmps168
   go_wp2
   go_ret
   rw [HR.out]
   exact ⟨rfl,HB.out⟩
  ·have e1:((r == r'):Bool)=false:=by simpa using h1
   by_cases h2:r<r'
   ·have HR:=Hi (show cmpS t r t r' = -1 from by simp [cmpS,h1,h2])
    go_enter Tryz.func168,Tryz.ntmps168
    go_wp2
    go_ret
    rw [HR.out]
    exact ⟨rfl,HB.out⟩
   ·have d2:decide (r<r')=false:=decide_eq_false h2
    have HR:=Hi (show cmpS t r t r'=1 from by simp [cmpS,h1,h2])
    go_enter Tryz.func168,Tryz.ntmps168
    go_wp2
    go_ret
    rw [HR.out]
    exact ⟨rfl,HB.out⟩
 ·have e1:((t == t'):Bool)=false:=by simpa using h0
  by_cases h2:t<t'
  ·have HR:=Hi (show cmpS t r t' r' = -1 from by simp [cmpS,h0,h2])
   go_enter Tryz.func168,Tryz.ntmps168
   go_wp2
   go_ret
   rw [HR.out]
   exact ⟨rfl,HB.out⟩
  ·have d2:decide (t<t')=false:=decide_eq_false h2
   have HR:=Hi (show cmpS t r t' r'=1 from by simp [cmpS,h0,h2])
   go_enter Tryz.func168,Tryz.ntmps168
   go_wp2
   go_ret
   rw [HR.out]
   exact ⟨rfl,HB.out⟩
open Go.RowKit
def TwoAt (w:World) (k:Nat) (x y:Int):Prop:=w.heap[k]?=some (.cells #[.int .i64 x,.int .i64 y] 35 (0,0))
theorem TwoAt.size {w:World} {k:Nat} {x y:Int} (h:TwoAt w k x y):k<w.heap.size:=(Array.getElem?_eq_some_iff.1 h).1
theorem TwoAt.cell0 {w:World} {k:Nat} {x y:Int} (h:TwoAt w k x y):w.cell? ⟨k,0,none⟩=some (.int .i64 x):=by rw [Go.Joins.cell_of_block h]; rfl
theorem TwoAt.cell1 {w:World} {k:Nat} {x y:Int} (h:TwoAt w k x y):w.cell? ⟨k,1,none⟩=some (.int .i64 y):=by rw [Go.Joins.cell_of_block h]; rfl
theorem TwoAt.start (w:World) (x y:Int):TwoAt (w.alloc (.cells #[.int .i64 x,.int .i64 y] 35)) w.heap.size x y:=by
 unfold TwoAt
 show (w.heap.push _)[w.heap.size]?=_
 simp
theorem TwoAt.kept {w w':World} {k:Nat} {x y:Int} (h:TwoAt w k x y) (hb:Below w.heap.size w w'):TwoAt w' k x y:=(hb.block k h.size).trans h
end Go.Proofs.YthfhefdfehlbkaaGreat
