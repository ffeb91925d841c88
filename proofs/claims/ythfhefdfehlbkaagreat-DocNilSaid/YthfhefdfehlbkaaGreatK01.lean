/-
  PLAIN MATHEMATICS of layer 1 (wire): numbers as bytes, the sum, frames: lists of bytes and natural numbers alone; no program, no world.
  No conditions.
  HOW BYTES LIE IN MEMORY: a slice that reads as a list of bytes ('Bs'), a row of the call's own that holds them ('vals' under 'ownsRow'), and what keeps them.
  No conditions.
  APPEND, of elements of one cell each, onto a row of the call's own, from whatever slice (nil, empty, or with its cells): up to 3 * 2^46 bytes in all.
  No other conditions.
  PLAIN MATHEMATICS of layer 5 (queue): the order of items, heaps in lists, rising rows: lists of integers alone; no program, no world.
  No conditions.
  MEMORY of layer 5: what a call turns ('Turns F': blocks of F, and new ones), rows of stamps and of items, the row under a heap.
  No conditions but sizes.
  THE ORDER of stamps and items: Compare and Before, the program's and the document's: what they answer, of any numbers; nothing below the call's own memory turns.
  No conditions.
  PLAIN MATHEMATICS of layer 4 (poskey): keys as fractions, the key between two, rows of keys: lists of bytes alone; no program, no world.
  No conditions.
  SIBLINGS, PLAINLY: which stands ahead, rows, what a place's key is, and that a sibling with it stands there.
  No conditions.
  MEMORY of layer 11: rows of siblings; a world that has only drawn and grown ('Gr').
  No conditions but sizes.
  ROWS OF STRUCTS, of whatever type: their cells, parts, loads, and appends inside a region that draws its order.
  No conditions but sizes.
-/
import Derived.Test.YthfhefdfehlbkaaGreatSh
import Derived.Lib.BitFns
import Derived.Lib.Bytes
import Derived.Laws.BitsAllLaws
import Derived.Test.YthfhefdfehlbkaaGreatRows
import Derived.WalkKit
import Derived.WalkSpells
import Derived.WalkLawsBesides
import Derived.Lib.Hide
import Derived.Deep.QuietTactic
import Derived.BigQuiet
import Derived.Deep.LoopGhost
import Derived.ScopeJumps
import Derived.WalkMore
import Derived.Laws.AppendOwn
import Derived.Laws.OwnMore
import Derived.Lib.AppendStr
import Init
import Derived.Deep.RegionWith
import Derived.Lib.Bytealg
import Derived.Lib.Small
import Derived.Sort.Grow
import Derived.Deep.Draws
import Derived.Lib.SmallJoins
import Derived.Deep.MidRow
set_option maxRecDepth 100000
set_option maxHeartbeats 1000000
namespace Go.Proofs.YthfhefdfehlbkaaGreat.Wm
end Go.Proofs.YthfhefdfehlbkaaGreat.Wm
namespace Go.Proofs.YthfhefdfehlbkaaGreat
open Go.RowKit
theorem ret_int {k:IntKind} {a b:Int} (h:a=b):Ending.returned (.int k a)=.returned (.int k b):=by rw [h]
theorem wraps_i64 (n:Int) (h0:0≤n) (h1:n<2 ^ 63):IntKind.i64.wrap n=n:=by rw [IntKind.wrap_i64]; omega
theorem cell_lt {w:World} {a:Addr} {v:Value} (h:w.cell? a=some v):a.block<w.heap.size:=World.block_lt_of_cell? w a h
open Go.RowKit
def Rd (w:World) (p:Option Addr) (us:List Value):Prop :=
 0<us.length→∃ b o,p=some ⟨b,o,none⟩∧∀ i u,us[i]?=some u→w.cell? ⟨b,o+i,none⟩=some u
theorem nextcap_le {need old:Nat} (h:old<need):Builtin.nextslicecap need old≤need+need / 4+512:=by
 unfold Builtin.nextslicecap
 split
 ·omega
 ·split
  ·omega
  ·rw [growBy_four]
   repeat' split
   all_goals omega
theorem grow_fits {need old bytes:Nat} (h:old<need) (hb:need * bytes≤211106232532992) (h1:bytes≤1000000000):Builtin.nextslicecap need old * bytes≤281474976710656:=by
 have h2:Builtin.nextslicecap need old * bytes≤(need+need / 4+512) * bytes:=Nat.mul_le_mul_right _ (nextcap_le h)
 have h3:need / 4 * bytes≤need * bytes / 4:=by
  rw [Nat.le_div_iff_mul_le (by decide),Nat.mul_assoc,Nat.mul_comm bytes 4,← Nat.mul_assoc]
  exact Nat.mul_le_mul_right _ (Nat.div_mul_le_self _ _)
 rw [Nat.add_mul,Nat.add_mul] at h2
 omega
section
variable {P:Program} (w:World)
end
end Go.Proofs.YthfhefdfehlbkaaGreat
namespace Go.Proofs.YthfhefdfehlbkaaGreat.Qm
abbrev St:=Int × Int
abbrev It:=(Int × Int) × Int
def ltS (a b:St):Prop:=a.1<b.1∨(a.1=b.1∧a.2<b.2)
instance (a b:St):Decidable (ltS a b):=by unfold ltS; exact inferInstance
def ltI (a b:It):Prop:=ltS a.1 b.1∨(a.1=b.1∧a.2<b.2)
instance (a b:It):Decidable (ltI a b):=by unfold ltI; exact inferInstance
theorem ltS_irrefl (a:St):¬ ltS a a:=by unfold ltS; omega
theorem ltS_trans {a b c:St} (h:ltS a b) (k:ltS b c):ltS a c:=by unfold ltS at *; omega
theorem ltS_tri (a b:St):ltS a b∨a=b∨ltS b a:=by
 obtain ⟨x,y⟩:=a
 obtain ⟨z,u⟩:=b
 simp only [ltS,Prod.mk.injEq]
 omega
theorem ltS_le {a b c:St} (h:¬ ltS b a) (k:¬ ltS c b):¬ ltS c a:=by unfold ltS at *; omega
theorem ltS_asymm {a b:St} (h:ltS a b):¬ ltS b a:=by unfold ltS at *; omega
def Rising (l:List St):Prop:=l.Pairwise ltS
def stOf (l:List St) (k:Nat):St:=l.getD k (0,0)
theorem stOf_lt {l:List St} {k:Nat} (h:k<l.length):stOf l k=l[k]:=by simp [stOf,List.getD,h]
end Go.Proofs.YthfhefdfehlbkaaGreat.Qm
namespace Go.Proofs.YthfhefdfehlbkaaGreat
open Go.RowKit
structure Turns (F:Nat→Prop) (w w':World):Prop where
 os:w'.os=w.os
 tape:w'.tape=w.tape
 output:w'.output=w.output
 size:w.heap.size≤w'.heap.size
 block:∀ k,k<w.heap.size→¬ F k→w'.heap[k]?=w.heap[k]?
theorem Turns.refl (F:Nat→Prop) (w:World):Turns F w w:=⟨rfl,rfl,rfl,Nat.le_refl _,fun _ _ _=>rfl⟩
theorem Turns.trans {F:Nat→Prop} {a b c:World} (h:Turns F a b) (k:Turns (fun i=>F i∨a.heap.size≤i) b c):Turns F a c :=
 ⟨k.os.trans h.os,k.tape.trans h.tape,k.output.trans h.output,Nat.le_trans h.size k.size,fun i hi hf=>(k.block i (Nat.lt_of_lt_of_le hi h.size) (fun x=>x.elim hf fun y=>by omega)).trans (h.block i hi hf)⟩
theorem Turns.mono {F G:Nat→Prop} {a b:World} (h:Turns F a b) (hm:∀ k,k<a.heap.size→F k→G k):Turns G a b:=⟨h.os,h.tape,h.output,h.size,fun k hk hg=>h.block k hk fun hf=>hg (hm k hk hf)⟩
theorem Turns.of_below {F:Nat→Prop} {w w':World} (h:Below w.heap.size w w'):Turns F w w':=⟨h.os,h.tape,h.output,h.size,fun k hk _=>h.block k hk⟩
theorem Turns.of_base {B:Nat} {w w':World} (h:Below B w w'):Turns (fun k=>B≤k) w w':=⟨h.os,h.tape,h.output,h.size,fun k _ hf=>h.block k (by omega)⟩
theorem Turns.below {F:Nat→Prop} {w w':World} (h:Turns F w w') {B:Nat} (hF:∀ k,k<w.heap.size→F k→B≤k) (hB:B≤w.heap.size):Below B w w' :=
 ⟨h.os,h.tape,h.output,h.size,fun k hk=>h.block k (by omega) fun hf=>by have:=hF k (by omega) hf; omega⟩
theorem Turns.of_grown {w w':World} {row:Option Nat} (h:w.grownBy w' row):Turns (fun k=>row=some k) w w':=⟨h.os,h.tape,h.output,h.size,fun k hk hf=>h.block k hk fun e=>hf e.symm⟩
theorem Turns.cell {F:Nat→Prop} {w w':World} (h:Turns F w w') {p:Addr} {v:Value} (hc:w.cell? p=some v) (hf:¬ F p.block):w'.cell? p=some v:=by
 rw [World.cell?_of_block (w:=w) (h.block p.block (cell_lt hc) hf)]; exact hc
theorem Turns.frozen {F:Nat→Prop} {w w':World} (h:Turns F w w') {p:Addr} (hl:p.block<w.heap.size) (hf:¬ F p.block):w'.frozen? p=w.frozen? p :=
 World.frozen?_of_block (w:=w) (h.block p.block hl hf)
theorem Turns.own {F:Nat→Prop} {w w':World} (h:Turns F w w') {B:Nat} {E:TypeId} {k:Nat} {v:Value} {n:Nat} {xs:List Value} (ho:w.ownsRow B E k v n xs) (hf:∀ g,v.ownBlock=some g→¬ F g):w'.ownsRow B E k v n xs:=by
 refine ⟨ho.1,?_⟩
 rcases ho.2 with h2 | ⟨g,cap,cur,hv,hg,hh,r⟩
 ·exact Or.inl h2
 ·refine Or.inr ⟨g,cap,cur,hv,hg,?_,r⟩
  rw [h.block g (Array.getElem?_eq_some_iff.1 hh).1 (hf g (by rw [hv]; rfl))]
  exact hh
theorem Turns.rd {F:Nat→Prop} {w w':World} (h:Turns F w w') {p:Option Addr} {us:List Value} (hr:Rd w p us) (hf:∀ a,p=some a→¬ F a.block):Rd w' p us:=by
 intro h0
 obtain ⟨b,o,rfl,hc⟩:=hr h0
 exact ⟨b,o,rfl,fun i u hu=>h.cell (hc i u hu) (hf ⟨b,o,none⟩ rfl)⟩
theorem Rd.below {w w':World} {p:Option Addr} {us:List Value} (h:Rd w p us) (hb:Below w.heap.size w w'):Rd w' p us :=
 (Turns.of_below (F:=fun _=>False) hb).rd h fun _ _ h=>h
theorem Rd.base {w w':World} {p:Option Addr} {us:List Value} {B:Nat} (h:Rd w p us) (hb:Below B w w') (hp:∀ a,p=some a→a.block<B):Rd w' p us :=
 (Turns.of_base hb).rd h fun a ha=>by have:=hp a ha; omega
theorem Rd.cell {w:World} {b o:Nat} {us:List Value} (h:Rd w (some ⟨b,o,none⟩) us) {i:Nat} {u:Value} (hi:us[i]?=some u):w.cell? ⟨b,o+i,none⟩=some u:=by
 obtain ⟨b',o',e,hc⟩:=h (Nat.lt_of_le_of_lt (Nat.zero_le _) (List.getElem?_eq_some_iff.1 hi).1)
 simp only [Option.some.injEq,Addr.mk.injEq] at e
 obtain ⟨rfl,rfl,-⟩:=e
 exact hc i u hi
theorem Rd.nil (w:World) (p:Option Addr):Rd w p []:=fun h=>absurd h (Nat.lt_irrefl 0)
theorem Rd.addr {w:World} {p:Option Addr} {us:List Value} (h:Rd w p us) (h0:0<us.length):∃ b o,p=some ⟨b,o,none⟩∧b<w.heap.size:=by
 obtain ⟨b,o,rfl,hc⟩:=h h0
 exact ⟨b,o,rfl,cell_lt (hc 0 _ (List.getElem?_eq_getElem h0))⟩
def stCells (l:List Qm.St):List Value:=l.flatMap fun x=>[.int .i64 x.1,.int .i64 x.2]
theorem stCells_length (l:List Qm.St):(stCells l).length=l.length * 2:=by
 induction l with
 | nil=>rfl
 | cons a l ih=>simp only [stCells,List.flatMap_cons,List.length_append,List.length_cons,List.length_nil] at ih ⊢; omega
theorem stCells_append (l m:List Qm.St):stCells (l ++ m)=stCells l ++ stCells m:=by simp [stCells]
theorem stCells_one:∀ {l:List Qm.St},∀ u ∈ stCells l,u.oneCell'=true:=by
 intro l u hu
 obtain ⟨x,_,hx⟩:=List.mem_flatMap.1 hu
 simp at hx
 rcases hx with rfl | rfl <;> rfl
theorem stCells_get (l:List Qm.St) (i:Nat) (h:i<l.length):(stCells l)[i * 2]?=some (.int .i64 (Qm.stOf l i).1)∧(stCells l)[i * 2+1]?=some (.int .i64 (Qm.stOf l i).2):=by
 induction l generalizing i with
 | nil=>simp at h
 | cons a l ih =>
  cases i with
  | zero=>simp [stCells,Qm.stOf]
  | succ i =>
   have:=ih i (by simpa using h)
   have e:(i+1) * 2=i * 2+1+1:=by omega
   rw [e]
   simpa [stCells,Qm.stOf] using this
theorem Rd.st {w:World} {b o:Nat} {l:List Qm.St} (h:Rd w (some ⟨b,o,none⟩) (stCells l)) (i:Nat) (hi:i<l.length) :
  w.cell? ⟨b,o+i * 2,none⟩=some (.int .i64 (Qm.stOf l i).1)∧w.cell? ⟨b,o+i * 2+1,none⟩=some (.int .i64 (Qm.stOf l i).2):=by
 obtain ⟨h0,h1⟩:=stCells_get l i hi
 exact ⟨h.cell h0,by rw [Nat.add_assoc]; exact h.cell h1⟩
theorem Rd.drop {w:World} {b o:Nat} {us:List Value} (h:Rd w (some ⟨b,o,none⟩) us) (n:Nat):Rd w (some ⟨b,o+n,none⟩) (us.drop n):=by
 intro _
 refine ⟨b,o+n,rfl,fun i u hu=>?_⟩
 rw [List.getElem?_drop] at hu
 rw [Nat.add_assoc]
 exact h.cell hu
theorem own_rd {w:World} {B:Nat} {E:TypeId} {k:Nat} {v:Value} {n:Nat} {xs:List Value} (h:w.ownsRow B E k v n xs) :
  ∃ p c,v=.slice p n c∧Rd w p xs∧n≤c∧c≤maxLen∧(p=none→c=0)∧(∀ a,p=some a→B≤a.block∧a.block<w.heap.size∧v.ownBlock=some a.block∧a=⟨a.block,0,none⟩):=by
 rcases h.2 with ⟨rfl,rfl⟩ | ⟨g,cap,cur,rfl,hg,hh,hnc,hcm,-,-⟩
 ·refine ⟨none,0,rfl,fun h0=>?_,by omega,by simp [maxLen],fun _=>rfl,fun a ha=>by cases ha⟩
  rw [h.1] at h0; omega
 ·refine ⟨_,cap,rfl,fun _=>⟨g,0,rfl,fun i u hu=>?_⟩,hnc,hcm,(fun e=>by cases e),fun a ha=>?_⟩
  ·rw [Nat.zero_add,h.cellAt i (by have:=(List.getElem?_eq_some_iff.1 hu).1; rw [h.1] at this; exact this)]
   exact hu
  ·cases ha
   exact ⟨hg,(Array.getElem?_eq_some_iff.1 hh).1,rfl,rfl⟩
section
variable {P:Program} (w:World)
theorem run_append_k (base:Nat) (t ty e:TypeId) (i:TypeInfo) (z:Value) (k bytes:Nat) (ht:P.underlying t=some (.slice e)) (hi:P.info? e=some i) (hz:i.zero=some z)
  (hsize:i.size=k) (hk0:0<k) (hby:i.bytes=bytes) (hb1:bytes≤1000000000) (hzs:z.cells.size=k)
  (v:Value) (n:Nat) (xs:List Value) (hown:w.ownsRow base e k v n xs)
  (p:Option Addr) (m c:Nat) (us:List Value) (hus:us.length=m * k) (hrd:Rd w p us) (hpn:p=none→c=0) (h1:∀ u ∈ us,u.oneCell'=true)
  (hbytes:(n+m) * bytes≤211106232532992) (h63:n+m≤maxLen) (hbase:base≤w.heap.size) :
  ∃ v' w',(Builtin.append_ #[t,t] ty #[v,.slice p m c]).run P w=.ok v' w'∧w'.ownsRow base e k v' (n+m) (xs ++ us)∧w.grownBy w' v.ownBlock∧(∀ g,v'.ownBlock=some g→v.ownBlock=some g∨w.heap.size≤g):=by
 rcases Nat.eq_zero_or_pos m with hm0 | hm0
 ·subst hm0
  obtain rfl:us=[]:=List.eq_nil_of_length_eq_zero (by simpa using hus)
  simp only [Nat.add_zero,List.append_nil]
  have hself:w.grownBy w v.ownBlock:=⟨rfl,rfl,rfl,Nat.le_refl _,fun _ _ _=>rfl⟩
  cases p with
  | none =>
   have hc:=hpn rfl
   subst hc
   exact ⟨v,w,run_append_owned_none (P:=P) (w:=w) base t ty e i k ht hi v n xs hown,hown,hself,fun g hg=>Or.inl hg⟩
  | some a =>
   refine ⟨v,w,?_,hown,hself,fun g hg=>Or.inl hg⟩
   rcases hown.2 with ⟨rfl,rfl⟩ | ⟨g,cap,cur,rfl,hbg,hg,hnc,hcm,hcs,htake⟩
   ·simp [Builtin.append_,run_underlying ht,sizeOf,typeInfo,hi,Builtin.lenOf,Builtin.firstCells,loadCells,loadCellsFrom]
   ·simp [Builtin.append_,run_underlying ht,sizeOf,typeInfo,hi,Builtin.lenOf,Builtin.firstCells,loadCells,loadCellsFrom,hnc,storeCells]
 ·have hmk:0<m * k:=Nat.mul_pos hm0 hk0
  obtain ⟨b,o,rfl,hcell⟩:=hrd (by omega)
  have hnews:∀ j u,us[j]?=some u→w.cell? ((⟨b,o,none⟩:Addr).add j)=some u:=by
   intro j u hu
   have hadd:(⟨b,o,none⟩:Addr).add j=⟨b,o+j,none⟩:=by unfold Addr.add; split <;> simp_all
   rw [hadd]
   exact hcell j u hu
  have hmax:(maxLen:Nat)=9223372036854775807:=by decide
  have h63m:((n+m:Nat):Int)≤9223372036854775807:=by omega
  have hxl:xs.length=n * k:=hown.1
  have hlen:(xs ++ us).length=(n+m) * k:=by rw [List.length_append,hxl,hus,Nat.add_mul]
  have grown:∀ (old:Nat),old<n+m→∀ (row:Option Nat),
    (w.drew.alloc (.cells (xs.toArray ++ us.toArray ++ Builtin.zeroCells z.cells (grownCap w (n+m) old e - (n+m))) e)).ownsRow base e k
     (.slice (some ⟨w.heap.size,0,none⟩) (n+m) (grownCap w (n+m) old e)) (n+m) (xs ++ us) ∧
    w.grownBy (w.drew.alloc (.cells (xs.toArray ++ us.toArray ++ Builtin.zeroCells z.cells (grownCap w (n+m) old e - (n+m))) e)) row:=by
   intro old ho row
   have hge:=grownCap_ge w (n+m) old e
   have hcm:grownCap w (n+m) old e≤maxLen:=grownCap_le_maxLen w (n+m) old e h63
   refine ⟨⟨hlen,.inr ⟨w.heap.size,_,_,rfl,hbase,heap_alloc_new w.drew _,hge,hcm,?_,?_⟩⟩,⟨rfl,rfl,rfl,by simp,fun k hk _=>Below.heap_alloc w.drew _ k hk⟩⟩
   ·simp only [Array.size_append,List.size_toArray,size_zeroCells,hzs]
    have e1:xs.length+us.length=(n+m) * k:=by rw [← List.length_append]; exact hlen
    rw [e1,← Nat.add_mul,Nat.add_sub_cancel' hge]
   ·simp only [Array.toList_append,List.append_assoc]
    rw [← List.append_assoc,← hlen]
    exact List.take_left
  rcases hown.2 with ⟨rfl,rfl⟩ | ⟨g,cap,cur,rfl,hbg,hg,hnc,hcm,hcs,htake⟩
  ·have hx:xs=[]:=List.eq_nil_of_length_eq_zero (by simpa using hxl)
   subst hx
   have hr:=run_append_nil (P:=P) w t ty e i z ht hi hz ⟨b,o,none⟩ m c us (by rw [hsize]; exact hus) hnews hm0 (by omega) (by rw [hby]; have hb:=hbytes; simp only [Nat.zero_add] at hb; omega)
   have hgr:=grown 0 (by omega) (Value.ownBlock (.slice none 0 0))
   simp only [Nat.zero_add,List.nil_append,Array.empty_append] at hgr ⊢
   exact ⟨_,_,hr,hgr.1,hgr.2,fun g hg=>Or.inr (by cases hg; exact Nat.le_refl _)⟩
  ·by_cases hroom:n+m≤cap
   ·obtain ⟨w',hr,ho,hgr⟩:=run_append_fits (P:=P) w base t ty e i k ht hi hsize g n cap xs hown ⟨b,o,none⟩ m c us hus hnews h1 hroom
    exact ⟨_,_,hr,ho,hgr,fun g hg=>Or.inl hg⟩
   ·have holds:∀ j u,xs[j]?=some u→w.cell? ((⟨g,0,none⟩:Addr).add j)=some u:=hown.cells (g:=g) rfl
    have hr:=run_append_grow (P:=P) w t ty e i z ht hi hz ⟨g,0,none⟩ n cap xs (by rw [hsize]; exact hxl) holds ⟨b,o,none⟩ m c us (by rw [hsize]; exact hus) hnews (by omega) h63m (by rw [hby]; exact grow_fits (by omega) hbytes hb1)
    have hgr:=grown cap (by omega) (Value.ownBlock (.slice (some ⟨g,0,none⟩) n cap))
    exact ⟨_,_,hr,hgr.1,hgr.2,fun g hg=>Or.inr (by cases hg; exact Nat.le_refl _)⟩
theorem wpList_append_k {w:World} {ops:Array Oper} {rest:List Oper} {o:Oper} {a:Act} {Q:Exit→Act→World→Prop} (hgd:o.guard=none) (s x:Operand) (t:TypeId)
  (ho:o.op=.call { callee:=.builtin .append,args:=#[s,x],argTypes:=#[t,t] })
  (base:Nat) (e:TypeId) (i:TypeInfo) (z:Value) (k bytes:Nat) (ht:P.underlying t=some (.slice e)) (hi:P.info? e=some i) (hz:i.zero=some z)
  (hsize:i.size=k) (hk0:0<k) (hby:i.bytes=bytes) (hb1:bytes≤1000) (hzs:z.cells.size=k)
  (v:Value) (n:Nat) (xs:List Value) (hs:a.eval s=v) (hown:w.ownsRow base e k v n xs)
  (p:Option Addr) (m c:Nat) (us:List Value) (hx:a.eval x=.slice p m c) (hus:us.length=m * k) (hrd:Rd w p us) (hpn:p=none→c=0) (h1:∀ u ∈ us,u.oneCell'=true)
  (hsz:n+m≤10000) (hbase:base≤w.heap.size)
  (h:∀ p' c' w',w'.ownsRow base e k (.slice p' (n+m) c') (n+m) (xs ++ us)→w.grownBy w' v.ownBlock→(∀ g,(Value.slice p' (n+m) c').ownBlock=some g→v.ownBlock=some g∨w.heap.size≤g)→wpList P ops Q rest (a.put o.dst (.slice p' (n+m) c')) w'):wpList P ops Q (o :: rest) a w:=by
 refine wpList_plain hgd fun K hK=>?_
 obtain ⟨v',w',hr,h2,h3,h4⟩:=run_append_k (P:=P) w base t o.type e i z k bytes ht hi hz hsize hk0 hby (by omega) hzs v n xs hown p m c us hus hrd hpn h1
  (Nat.le_trans (Nat.mul_le_mul hsz hb1) (by decide)) (by unfold maxLen; omega) hbase
 obtain ⟨p',c',rfl,-⟩:=own_rd h2
 unfold Oper.wp execOp
 simp only [ho,resolve,invoke,builtin,Sem.run_bind,Sem.run_pure,Result.andThen_ok,List.map_toArray,List.map_cons,List.map_nil,hs,hx,hr]
 exact hK _ _ (h p' c' w' h2 h3 h4)
end
open Go.RowKit
def qcmpS (t r t' r':Int):Int:=if t=t' then (if r=r' then 0 else if r<r' then -1 else 1) else if t<t' then -1 else 1
theorem qcompare_any (t r t' r':Int) (w:World) :
  Calls Tryz.prog 168 #[.agg #[.int .i64 t,.int .i64 r],.agg #[.int .i64 t',.int .i64 r']] w fun e w'=>e=.returned (.int .i64 (qcmpS t r t' r'))∧Below w.heap.size w w':=by
 have hb:=((Below.refl w.heap.size w).alloc (Nat.le_refl _) (.cells #[.int .i64 t,.int .i64 r] 35)).alloc (by simp) (.cells #[.int .i64 t',.int .i64 r'] 35)
 have HB:=Hi hb
 clear hb
 by_cases h0:t=t'
 ·subst h0
  by_cases h1:r=r'
  ·subst h1
   have HR:=Hi (show qcmpS t r t r=0 from by simp [qcmpS])
   go_enter Tryz.func168,Tryz.ntmps168
   go_wp2
   go_ret
   rw [HR.out]
   exact ⟨rfl,HB.out⟩
  ·have e1:((r == r'):Bool)=false:=by simpa using h1
   by_cases h2:r<r'
   ·have HR:=Hi (show qcmpS t r t r' = -1 from by simp [qcmpS,h1,h2])
    go_enter Tryz.func168,Tryz.ntmps168
    go_wp2
    go_ret
    rw [HR.out]
    exact ⟨rfl,HB.out⟩
   ·have d2:decide (r<r')=false:=decide_eq_false h2
    have HR:=Hi (show qcmpS t r t r'=1 from by simp [qcmpS,h1,h2])
    go_enter Tryz.func168,Tryz.ntmps168
    go_wp2
    go_ret
    rw [HR.out]
    exact ⟨rfl,HB.out⟩
 ·have e1:((t == t'):Bool)=false:=by simpa using h0
  by_cases h2:t<t'
  ·have HR:=Hi (show qcmpS t r t' r' = -1 from by simp [qcmpS,h0,h2])
   go_enter Tryz.func168,Tryz.ntmps168
   go_wp2
   go_ret
   rw [HR.out]
   exact ⟨rfl,HB.out⟩
  ·have d2:decide (t<t')=false:=decide_eq_false h2
   have HR:=Hi (show qcmpS t r t' r'=1 from by simp [qcmpS,h0,h2])
   go_enter Tryz.func168,Tryz.ntmps168
   go_wp2
   go_ret
   rw [HR.out]
   exact ⟨rfl,HB.out⟩
def cmpV (a b:Qm.St):Int:=qcmpS a.1 a.2 b.1 b.2
theorem cmpV_lt {a b:Qm.St} (h:Qm.ltS a b):cmpV a b = -1:=by
 obtain ⟨a,x⟩:=a
 obtain ⟨b,y⟩:=b
 unfold Qm.ltS at h
 dsimp only at h
 unfold cmpV qcmpS
 dsimp only
 repeat' split
 all_goals omega
theorem cmpV_gt {a b:Qm.St} (h:Qm.ltS b a):cmpV a b=1:=by
 obtain ⟨a,x⟩:=a
 obtain ⟨b,y⟩:=b
 unfold Qm.ltS at h
 dsimp only at h
 unfold cmpV qcmpS
 dsimp only
 repeat' split
 all_goals omega
theorem cmpV_eq (a:Qm.St):cmpV a a=0:=by simp [cmpV,qcmpS]
end Go.Proofs.YthfhefdfehlbkaaGreat
namespace Go.Proofs.YthfhefdfehlbkaaGreat.Km
def dg (l:List UInt8) (i:Nat):Nat:=(l.getD i 0).toNat
theorem dg_get (l:List UInt8) (i:Nat) (h:i<l.length):dg l i=l[i].toNat:=by simp [dg,List.getD,List.getElem?_eq_getElem h]
theorem dg_zero (c:UInt8) (l:List UInt8):dg (c :: l) 0=c.toNat:=by simp [dg]
theorem dg_succ (c:UInt8) (l:List UInt8) (i:Nat):dg (c :: l) (i+1)=dg l i:=by simp [dg]
theorem less_iff:∀ (a b:List UInt8),Op.bytesLess a b=true ↔ ∃ i,i<b.length∧i≤a.length∧(∀ k,k<i→dg a k=dg b k)∧(i=a.length∨dg a i<dg b i)
 | a,[]=>by simp [Op.bytesLess]
 | [],c :: b=>by
  simp only [Op.bytesLess,true_iff]
  exact ⟨0,by simp,by simp,fun k hk=>absurd hk (Nat.not_lt_zero _),Or.inl rfl⟩
 | d :: a,c :: b=>by
  have ih:=less_iff a b
  simp only [Op.bytesLess,Bool.or_eq_true,decide_eq_true_eq,Bool.and_eq_true,beq_iff_eq]
  constructor
  ·rintro (h | ⟨rfl,h⟩)
   ·refine ⟨0,by simp,by simp,fun k hk=>absurd hk (Nat.not_lt_zero _),Or.inr ?_⟩
    rw [dg_zero,dg_zero]; exact h
   ·obtain ⟨i,h1,h2,h3,h4⟩:=ih.1 h
    refine ⟨i+1,by simpa using h1,by simpa using h2,fun k hk=>?_,?_⟩
    ·cases k with
     | zero=>rw [dg_zero,dg_zero]
     | succ k=>rw [dg_succ,dg_succ]; exact h3 k (by omega)
    ·rw [dg_succ,dg_succ]; simpa using h4
  ·rintro ⟨i,h1,h2,h3,h4⟩
   cases i with
   | zero =>
    rw [dg_zero,dg_zero] at h4
    rcases h4 with h4 | h4
    ·simp at h4
    ·exact Or.inl h4
   | succ i =>
    have e:=h3 0 (by omega)
    rw [dg_zero,dg_zero] at e
    refine Or.inr ⟨UInt8.toNat_inj.1 e,ih.2 ⟨i,by simpa using h1,by simpa using h2,fun k hk=>?_,?_⟩⟩
    ·have:=h3 (k+1) (by omega)
     rwa [dg_succ,dg_succ] at this
    ·rw [dg_succ,dg_succ] at h4; simpa using h4
theorem compare_less:∀ (a b:List UInt8),Lib.compareBytes a b=if a=b then 0 else if Op.bytesLess a b=true then -1 else 1
 | [],[]=>by simp [Lib.compareBytes]
 | [],c :: b=>by simp [Lib.compareBytes,Op.bytesLess]
 | c :: a,[]=>by simp [Lib.compareBytes,Op.bytesLess]
 | c :: a,d :: b=>by
  have ih:=compare_less a b
  simp only [Lib.compareBytes,Op.bytesLess]
  by_cases h1:c<d
  ·rw [if_pos h1]
   have:¬ c=d:=by rintro rfl; exact absurd h1 (UInt8.lt_irrefl c)
   simp [h1,this]
  ·rw [if_neg h1]
   by_cases h2:d<c
   ·rw [if_pos h2]
    have:¬ c=d:=by rintro rfl; exact absurd h2 (UInt8.lt_irrefl c)
    simp [h1,this]
   ·rw [if_neg h2]
    have:c=d:=UInt8.le_antisymm (UInt8.not_lt.1 h2) (UInt8.not_lt.1 h1)
    subst this
    rw [ih]
    simp [h1]
theorem less_irrefl:∀ a:List UInt8,Op.bytesLess a a=false
 | []=>rfl
 | c :: a=>by simp [Op.bytesLess,less_irrefl a,UInt8.lt_irrefl]
theorem less_total:∀ a b:List UInt8,a≠b→Op.bytesLess a b=false→Op.bytesLess b a=true
 | [],[],h,_=>absurd rfl h
 | [],_ :: _,_,h=>by simp [Op.bytesLess] at h
 | _ :: _,[],_,_=>by simp [Op.bytesLess]
 | c :: a,d :: b,hne,h=>by
  simp only [Op.bytesLess,Bool.or_eq_false_iff,decide_eq_false_iff_not,Bool.and_eq_false_iff,beq_eq_false_iff_ne] at h
  simp only [Op.bytesLess,Bool.or_eq_true,decide_eq_true_eq,Bool.and_eq_true,beq_iff_eq]
  obtain ⟨h1,h2⟩:=h
  by_cases e:c=d
  ·subst e
   refine Or.inr ⟨rfl,less_total a b (fun e=>hne (by rw [e])) ?_⟩
   rcases h2 with h2 | h2
   ·exact absurd rfl h2
   ·exact h2
  ·exact Or.inl (Classical.byContradiction fun h3=>e (UInt8.le_antisymm (UInt8.not_lt.1 h3) (UInt8.not_lt.1 h1)))
theorem less_trans:∀ a b c:List UInt8,Op.bytesLess a b=true→Op.bytesLess b c=true→Op.bytesLess a c=true
 | _,[],_,h,_=>by simp [Op.bytesLess] at h
 | _,_ :: _,[],_,h=>by simp [Op.bytesLess] at h
 | [],_ :: _,_ :: _,_,_=>by simp [Op.bytesLess]
 | x :: a,y :: b,z :: c,h,k=>by
  have ih:=less_trans a b c
  simp only [Op.bytesLess,Bool.or_eq_true,decide_eq_true_eq,Bool.and_eq_true,beq_iff_eq] at *
  rcases h with h | ⟨rfl,h⟩ <;> rcases k with k | ⟨rfl,k⟩
  ·exact Or.inl (UInt8.lt_trans h k)
  ·exact Or.inl h
  ·exact Or.inl k
  ·exact Or.inr ⟨rfl,ih h k⟩
theorem less_asymm (a b:List UInt8) (h:Op.bytesLess a b=true):Op.bytesLess b a=false:=by
 cases k:Op.bytesLess b a
 ·rfl
 ·have:=less_trans a b a h k
  rw [less_irrefl] at this; cases this
theorem cmp_zero (a b:List UInt8):Lib.compareBytes a b=0↔a=b:=by
 rw [compare_less]
 by_cases h:a=b
 ·subst h; simp
 ·rw [if_neg h]
  cases k:Op.bytesLess a b <;> simp [h]
def rightB (k:List UInt8):Bool:=@decide (1≤k.length∧k.length≤24∧0<dg k (k.length - 1)) inferInstance
theorem rightB_iff (k:List UInt8):rightB k=true↔1≤k.length∧k.length≤24∧0<dg k (k.length - 1):=by simp [rightB]
end Go.Proofs.YthfhefdfehlbkaaGreat.Km
namespace Go.Proofs.YthfhefdfehlbkaaGreat.Sbm
abbrev Sib:=ByteArray × Qm.St
def ltB (a b:Sib):Prop:=Op.bytesLess a.1.data.toList b.1.data.toList=true∨(a.1=b.1∧Qm.ltS a.2 b.2)
instance (a b:Sib):Decidable (ltB a b):=by unfold ltB; exact inferInstance
theorem key_ext {a b:ByteArray} (h:a.data.toList=b.data.toList):a=b:=by
 cases a with
 | mk x =>
  cases b with
  | mk y=>rw [show x=y from Array.toList_inj.1 h]
theorem key_tri (a b:ByteArray):Op.bytesLess a.data.toList b.data.toList=true∨a=b∨Op.bytesLess b.data.toList a.data.toList=true:=by
 by_cases e:a=b
 ·exact Or.inr (Or.inl e)
 ·cases h:Op.bytesLess a.data.toList b.data.toList with
  | true=>exact Or.inl rfl
  | false=>exact Or.inr (Or.inr (Km.less_total _ _ (fun h=>e (key_ext h)) h))
theorem key_irrefl (a:ByteArray):¬ Op.bytesLess a.data.toList a.data.toList=true:=by rw [Km.less_irrefl]; simp
theorem key_asymm {a b:ByteArray} (h:Op.bytesLess a.data.toList b.data.toList=true):¬ Op.bytesLess b.data.toList a.data.toList=true:=by rw [Km.less_asymm _ _ h]; simp
theorem ltB_irrefl (a:Sib):¬ ltB a a:=by
 rintro (h | ⟨-,h⟩)
 ·exact key_irrefl _ h
 ·exact Qm.ltS_irrefl _ h
theorem ltB_trans {a b c:Sib} (h:ltB a b) (k:ltB b c):ltB a c:=by
 rcases h with h | ⟨e,h⟩
 ·rcases k with k | ⟨e2,-⟩
  ·exact Or.inl (Km.less_trans _ _ _ h k)
  ·exact Or.inl (by rw [← e2]; exact h)
 ·rcases k with k | ⟨e2,k⟩
  ·exact Or.inl (by rw [e]; exact k)
  ·exact Or.inr ⟨e.trans e2,Qm.ltS_trans h k⟩
theorem ltB_tri (a b:Sib):ltB a b∨a=b∨ltB b a:=by
 rcases key_tri a.1 b.1 with h | h | h
 ·exact Or.inl (Or.inl h)
 ·rcases Qm.ltS_tri a.2 b.2 with k | k | k
  ·exact Or.inl (Or.inr ⟨h,k⟩)
  ·exact Or.inr (Or.inl (Prod.ext h k))
  ·exact Or.inr (Or.inr (Or.inr ⟨h.symm,k⟩))
 ·exact Or.inr (Or.inr (Or.inl h))
theorem ltB_le {a b c:Sib} (h:¬ ltB b a) (k:¬ ltB c b):¬ ltB c a:=fun m=>by
 rcases ltB_tri a b with e | e | e
 ·exact k (ltB_trans m e)
 ·subst e; exact k m
 ·exact h e
def cmpB (a b:Sib):Int:=if ltB a b then -1 else if ltB b a then 1 else 0
theorem cmpB_lt (a b:Sib):cmpB a b<0↔ltB a b:=by
 unfold cmpB
 split
 ·simp_all
 ·split <;> simp_all
def Srt (l:List Sib):Prop:=l.Pairwise fun a b=>¬ ltB b a
def Row (l:List Sib):Prop:=l.Pairwise ltB
def sbOf (l:List Sib) (k:Nat):Sib:=l.getD k (⟨#[]⟩,(0,0))
theorem sbOf_lt {l:List Sib} {k:Nat} (h:k<l.length):sbOf l k=l[k]:=by simp [sbOf,List.getD,h]
theorem srt_of {l:List Sib} (h:∀ i j,i<j→j<l.length→¬ ltB (sbOf l j) (sbOf l i)):Srt l :=
 List.pairwise_iff_getElem.2 fun i j hi hj hij=>by have:=h i j hij hj; rwa [sbOf_lt hi,sbOf_lt hj] at this
instance (l:List Sib):Decidable (Row l):=by unfold Row; exact inferInstance
end Go.Proofs.YthfhefdfehlbkaaGreat.Sbm
namespace Go.Proofs.YthfhefdfehlbkaaGreat
open Go.RowKit
def Gr (w w':World):Prop:=∃ q os,w'=Go.Sort.grow (w.drewN q) os
theorem Gr.refl (w:World):Gr w w:=⟨0,#[],(Go.Sort.grow_empty _).symm⟩
theorem Gr.alloc {w w':World} (h:Gr w w') (o:Obj):Gr w (w'.alloc o):=by
 obtain ⟨q,os,rfl⟩:=h
 exact ⟨q,os ++ #[o],by rw [Go.Sort.alloc_eq_grow,Go.Sort.grow_grow]⟩
theorem Gr.trans {a b c:World} (h:Gr a b) (k:Gr b c):Gr a c:=by
 obtain ⟨q,os,rfl⟩:=h
 obtain ⟨q',os',rfl⟩:=k
 exact ⟨q+q',os ++ os',by rw [← Go.Sort.grow_grow]; unfold Go.Sort.grow World.drewN; simp [Nat.add_assoc]⟩
theorem Gr.below {w w':World} (h:Gr w w'):Below w.heap.size w w':=by
 obtain ⟨q,os,rfl⟩:=h
 refine ⟨rfl,rfl,rfl,?_,fun k hk=>?_⟩
 ·show w.heap.size≤(w.heap ++ os).size
  simp
 ·show (w.heap ++ os)[k]?=w.heap[k]?
  exact Array.getElem?_append_left hk
def sbC (x:Sbm.Sib):List Value:=[.string x.1,.int .i64 x.2.1,.int .i64 x.2.2]
def sbV (x:Sbm.Sib):Value:=.agg #[.string x.1,.int .i64 x.2.1,.int .i64 x.2.2]
def sbCells (l:List Sbm.Sib):List Value:=l.flatMap sbC
theorem sbCells_length (l:List Sbm.Sib):(sbCells l).length=l.length * 3:=by
 induction l with
 | nil=>rfl
 | cons a l ih=>simp only [sbCells,sbC,List.flatMap_cons,List.length_append,List.length_cons,List.length_nil] at ih ⊢; omega
theorem sbCells_append (l m:List Sbm.Sib):sbCells (l ++ m)=sbCells l ++ sbCells m:=by simp [sbCells]
theorem sbCells_one:∀ {l:List Sbm.Sib},∀ u ∈ sbCells l,u.oneCell'=true:=by
 intro l u hu
 obtain ⟨x,_,hx⟩:=List.mem_flatMap.1 hu
 simp [sbC] at hx
 rcases hx with rfl | rfl | rfl <;> rfl
theorem sbCells_get (l:List Sbm.Sib) (i:Nat) (h:i<l.length):(sbCells l)[i * 3]?=some (.string (Sbm.sbOf l i).1)∧(sbCells l)[i * 3+1]?=some (.int .i64 (Sbm.sbOf l i).2.1)∧(sbCells l)[i * 3+2]?=some (.int .i64 (Sbm.sbOf l i).2.2):=by
 induction l generalizing i with
 | nil=>simp at h
 | cons a l ih =>
  cases i with
  | zero=>simp [sbCells,sbC,Sbm.sbOf]
  | succ i =>
   have:=ih i (by simpa using h)
   have e:(i+1) * 3=i * 3+1+1+1:=by omega
   rw [e]
   simpa [sbCells,sbC,Sbm.sbOf] using this
theorem rd_sb1 (w:World) (x:Sbm.Sib) (E:TypeId):Rd (w.alloc (.cells #[.string x.1,.int .i64 x.2.1,.int .i64 x.2.2] E)) (some ⟨w.heap.size,0,none⟩) (sbCells [x]):=fun _=>⟨_,0,rfl,fun i u hu=>by
 rw [Nat.zero_add,World.cell?_alloc_at _ _ _ _ rfl]
 rw [← hu]
 simp [sbCells,sbC]⟩
theorem rd_empty {w:World} {p:Option Addr} {l:List Sbm.Sib} (h:Rd w p (sbCells l)) (hp:p=none):l=[]:=by
 cases l with
 | nil=>rfl
 | cons a l =>
  obtain ⟨b,o,e,-⟩:=h (by rw [sbCells_length]; simp)
  rw [hp] at e
  cases e
theorem info_split {i?:Option TypeInfo} {z:Option Value} {s b:Nat} (h:i?.map (fun i=>(i.zero,i.size,i.bytes))=some (z,s,b)):∃ i,i?=some i∧i.zero=z∧i.size=s∧i.bytes=b:=by
 cases i? with
 | none=>cases h
 | some i =>
  simp only [Option.map_some,Option.some.injEq,Prod.mk.injEq] at h
  exact ⟨i,rfl,h.1,h.2.1,h.2.2⟩
theorem info_sib:(Tryz.prog.info? 126).map (fun i=>(i.zero,i.size,i.bytes))=some (some (.agg #[.string ⟨#[]⟩,.int .i64 0,.int .i64 0]),3,32):=by kernel_rfl
theorem step_append_sb {P:Program} {w:World} {ops:Array Oper} {o:Oper} {a:Act} {K:Act→World→Prop} {Q:Exit→Act→World→Prop} {E:Prop} (hgd:o.guard=none) (s x:Operand) (t:TypeId)
  (ho:o.op=.call { callee:=.builtin .append,args:=#[s,x],argTypes:=#[t,t] })
  (base:Nat) (e:TypeId) (i:TypeInfo) (z:Value) (k bytes:Nat) (ht:P.underlying t=some (.slice e)) (hi:P.info? e=some i) (hz:i.zero=some z)
  (hsize:i.size=k) (hk0:0<k) (hby:i.bytes=bytes) (hb1:bytes≤1000) (hzs:z.cells.size=k)
  (v:Value) (n:Nat) (xs:List Value) (hs:a.eval s=v) (hown:w.ownsRow base e k v n xs)
  (p:Option Addr) (m c:Nat) (us:List Value) (hx:a.eval x=.slice p m c) (hus:us.length=m * k) (hrd:Rd w p us) (hpn:p=none→c=0) (h1:∀ u ∈ us,u.oneCell'=true)
  (hsz:n+m≤10000) (hbase:base≤w.heap.size)
  (h:∀ p' c' w',w'.ownsRow base e k (.slice p' (n+m) c') (n+m) (xs ++ us)→w.grownBy w' v.ownBlock→(∀ g,(Value.slice p' (n+m) c').ownBlock=some g→v.ownBlock=some g∨w.heap.size≤g)→K (a.put o.dst (.slice p' (n+m) c')) w') :
  if Region.wanted o (yielded ops a.tmps)=true then Oper.wp P o a w K Q else E:=by
 have hw:Region.wanted o (yielded ops a.tmps)=true:=by simp [Region.wanted,hgd]
 rw [if_pos hw]
 obtain ⟨v',w',hr,h2,h3,h4⟩:=run_append_k (P:=P) w base t o.type e i z k bytes ht hi hz hsize hk0 hby (by omega) hzs v n xs hown p m c us hus hrd hpn h1
  (Nat.le_trans (Nat.mul_le_mul hsz hb1) (by decide)) (by unfold maxLen; omega) hbase
 obtain ⟨p',c',rfl,-⟩:=own_rd h2
 unfold Oper.wp execOp
 simp only [ho,resolve,invoke,builtin,Sem.run_bind,Sem.run_pure,Result.andThen_ok,List.map_toArray,List.map_cons,List.map_nil,hs,hx,hr]
 exact h p' c' w' h2 h3 h4
def SbAt (w:World) (k:Nat) (x:Sbm.Sib):Prop:=∃ T,w.heap[k]?=some (.cells #[.string x.1,.int .i64 x.2.1,.int .i64 x.2.2] T (0,0))
theorem SbAt.size {w:World} {k:Nat} {x:Sbm.Sib} (h:SbAt w k x):k<w.heap.size:=by
 obtain ⟨T,h⟩:=h
 exact (Array.getElem?_eq_some_iff.1 h).1
theorem SbAt.cell0 {w:World} {k:Nat} {x:Sbm.Sib} (h:SbAt w k x):w.cell? ⟨k,0,none⟩=some (.string x.1):=by obtain ⟨T,h⟩:=h; rw [Go.Joins.cell_of_block h]; rfl
theorem SbAt.cell1 {w:World} {k:Nat} {x:Sbm.Sib} (h:SbAt w k x):w.cell? ⟨k,1,none⟩=some (.int .i64 x.2.1):=by obtain ⟨T,h⟩:=h; rw [Go.Joins.cell_of_block h]; rfl
theorem SbAt.cell2 {w:World} {k:Nat} {x:Sbm.Sib} (h:SbAt w k x):w.cell? ⟨k,2,none⟩=some (.int .i64 x.2.2):=by obtain ⟨T,h⟩:=h; rw [Go.Joins.cell_of_block h]; rfl
theorem SbAt.start (w:World) (x:Sbm.Sib) (T:TypeId):SbAt (w.alloc (.cells #[.string x.1,.int .i64 x.2.1,.int .i64 x.2.2] T)) w.heap.size x:=⟨T,heap_alloc_new w _⟩
theorem SbAt.kept {w w':World} {k:Nat} {x:Sbm.Sib} (h:SbAt w k x) (hb:Below w.heap.size w w'):SbAt w' k x:=by
 obtain ⟨T,h'⟩:=h
 exact ⟨T,(hb.block k (SbAt.size ⟨T,h'⟩)).trans h'⟩
theorem SbAt.alloc {w:World} {k:Nat} {x:Sbm.Sib} (h:SbAt w k x) (o:Obj):SbAt (w.alloc o) k x:=h.kept ((Below.refl _ _).alloc (Nat.le_refl _) _)
def SbOut (S:List Sbm.Sib→Prop) (w:World) (e:Ending) (w':World):Prop :=
 ∃ p c m,S m∧e=.returned (.slice p m.length c)∧w'.ownsRow w.heap.size 126 3 (.slice p m.length c) m.length (sbCells m)∧Below w.heap.size w w'
open Go.RowKit
structure RK {α:Type} (E SE:TypeId) (k by_:Nat) (ce:α→List Value):Prop where
 und:Tryz.prog.underlying SE=some (.slice E)
 elem:Tryz.prog.elem SE=E
 size:∀ W,(sizeOf E).run Tryz.prog W=.ok k W
 info:∃ i z,Tryz.prog.info? E=some i∧i.zero=some z∧i.size=k∧i.bytes=by_∧z.cells.size=k
 row:∃ d,Tryz.prog.underlying E=some (.struct d)
 len:∀ x,(ce x).length=k
 one:∀ x,∀ u ∈ ce x,u.oneCell'=true
 pos:0<k
 small:by_≤1000
section
variable {α:Type} {E SE:TypeId} {k by_:Nat} {ce:α→List Value}
theorem RK.get (V:RK E SE k by_ ce):∀ (l:List α) (i j:Nat) (x:α),l[i]?=some x→j<k→(l.flatMap ce)[i * k+j]?=(ce x)[j]?
 | [],i,j,x,h,_=>by simp at h
 | a :: l,0,j,x,h,hj=>by
  simp at h
  subst h
  rw [List.flatMap_cons,Nat.zero_mul,Nat.zero_add,List.getElem?_append_left (by rw [V.len]; exact hj)]
 | a :: l,i+1,j,x,h,hj=>by
  have h':l[i]?=some x:=by simpa using h
  rw [List.flatMap_cons,List.getElem?_append_right (by rw [V.len,Nat.add_mul]; omega),V.len,show (i+1) * k+j - k=i * k+j from by rw [Nat.add_mul]; omega]
  exact V.get l i j x h' hj
theorem RK.range (V:RK E SE k by_ ce) {w:World} {b s i:Nat} {l:List α} {x:α} (h:Rd w (some ⟨b,s,none⟩) (l.flatMap ce)) (hi:l[i]?=some x):w.rangeAt b (s+i * k) (ce x):=by
 intro j v hv
 have hj:j<k:=by have:=(List.getElem?_eq_some_iff.1 hv).1; rw [V.len] at this; exact this
 have:=V.get l i j x hi hj
 rw [hv] at this
 rw [Nat.add_assoc]
 exact h.cell this
theorem RK.isz (V:RK E SE k by_ ce) (x:α):(Tryz.prog.info? E).map (·.size)=some (ce x).length:=by
 obtain ⟨i,z,h1,-,h2,-⟩:=V.info
 rw [h1,V.len]
 exact congrArg some h2
theorem RK.load (V:RK E SE k by_ ce) {c:Act} {o:Oper} {x:Operand} {w:World} (ho:o.op=.load E x) {b s i:Nat} (hx:c.eval x=.pointer (some ⟨b,s+i * k,none⟩)) {l:List α} {y:α} (hrd:Rd w (some ⟨b,s,none⟩) (l.flatMap ce)) (hi:l[i]?=some y) :
  (execOp c.eval o).run Tryz.prog w=.ok (.value (.agg (ce y).toArray)) w:=by
 obtain ⟨d,hu⟩:=V.row
 unfold execOp
 simp only [ho,hx,Sem.run_bind,run_loadAt_mid w b (s+i * k) _ (ce y) _ (V.range hrd hi) hu rfl (V.isz y),Result.andThen_ok,Sem.run_pure]
def drA (k:Nat) (p:Option Addr) (c i:Nat):Option Addr:=if c=i then p else p.map (·.add (i * k))
theorem RK.take (V:RK E SE k by_ ce) {a:Act} {w:World} {o:Oper} {x y:Operand} (ho:o.op=.slice SE x none (some y) none) {p:Option Addr} {n c i:Nat} (hx:a.eval x=.slice p n c) (hy:a.eval y=.int .i64 (i:Int)) (hi:i≤c) :
  (execOp a.eval o).run Tryz.prog w=.ok (.value (.slice p i c)) w:=by
 have hu:Tryz.prog.underlying SE=some (.slice (Tryz.prog.elem SE)):=by rw [V.elem]; exact V.und
 have hr:(Instr.sliceAt SE (.slice p n c) none (some (.int .i64 (i:Int))) none).run Tryz.prog w=.ok (.slice p i c) w:=by
  rw [run_sliceAt_slice (h:=hu),run_slice_h (ht:=hu) (h0:=by omega) (h2:=by omega),V.elem,V.size]
  cases p <;> simp [Result.andThen_ok,sliced,Addr.add]
 unfold execOp
 simp only [ho,hx,hy,Option.map_some,Option.map_none,Sem.run_bind,hr,Result.andThen_ok,Sem.run_pure]
theorem own_rdK {w:World} {B:Nat} {p:Option Addr} {c:Nat} {l:List α} (h:w.ownsRow B E k (.slice p l.length c) l.length (l.flatMap ce)):Rd w p (l.flatMap ce)∧(p=none→c=0)∧l.length≤c∧(∀ a,p=some a→B≤a.block):=by
 obtain ⟨p2,c2,hv,hrd,hlc,-,hn,hb⟩:=own_rd h
 cases hv
 exact ⟨hrd,hn,hlc,fun a ha=>(hb a ha).1⟩
end
end Go.Proofs.YthfhefdfehlbkaaGreat
