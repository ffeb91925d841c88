/-
  PLAIN MATHEMATICS of layer 1 (wire): numbers as bytes, the sum, frames: lists of bytes and natural numbers alone; no program, no world.
  No conditions.
  HOW BYTES LIE IN MEMORY: a slice that reads as a list of bytes ('Bs'), a row of the call's own that holds them ('vals' under 'ownsRow'), and what keeps them.
  No conditions.
  APPEND, of elements of one cell each, onto a row of the call's own, from whatever slice (nil, empty, or with its cells): up to 3 * 2^46 bytes in all.
  No other conditions.
  HOW MANY BYTES A NUMBER TAKES: bits.Len64 and bits.Len of a number below 2^48.
  THE SUM: what wire.Sum and the reference's Sum answer of any slice of bytes: 'Wm.crc'; the world as it was.
  WRITING: addNum, Num, Text, sumBytes, Frame: new memory with the document's bytes.
  FRAMES: sumBytes, Frame, bytes.Clone, bytes.Equal.
-/
import Derived.Test.YtfgnmnkihbgjnaaGreatSh
import Derived.Lib.BitFns
import Derived.Lib.Bytes
import Derived.Laws.BitsAllLaws
import Derived.Test.YtfgnmnkihbgjnaaGreatRows
import Derived.WalkKit
import Derived.WalkSpells
import Derived.WalkLawsBesides
import Derived.Lib.Hide
import Derived.Deep.QuietTactic
import Derived.BigQuiet
import Derived.Deep.LoopGhost
import Derived.ScopeJumps
import Derived.WalkMore
import Derived.Laws.AppendOwn
import Derived.Laws.OwnMore
import Derived.Lib.AppendStr
import Derived.Lib.Tables
set_option maxRecDepth 100000
set_option maxHeartbeats 2000000
namespace Go.Proofs.YtfgnmnkihbgjnaaGreat.Wm
def be:Nat→Nat→List UInt8
 | 0,_=>[]
 | k+1,n=>be k (n / 256) ++ [UInt8.ofNat (n % 256)]
theorem be_length (k n:Nat):(be k n).length=k:=by
 induction k generalizing n with
 | zero=>rfl
 | succ k ih=>simp [be,ih]
def nlen (n:Nat):Nat :=
 if n=0 then 0 else if n<256 then 1 else if n<65536 then 2 else if n<16777216 then 3 else if n<4294967296 then 4 else if n<1099511627776 then 5 else 6
theorem nlen_le (n:Nat):nlen n≤6:=by
 unfold nlen
 repeat' split
 all_goals omega
theorem nlen_step (n:Nat) (h0:n≠0) (h:n<281474976710656):nlen n=nlen (n / 256)+1:=by
 unfold nlen
 repeat' split
 all_goals omega
def numB (n:Nat):List UInt8:=UInt8.ofNat (nlen n) :: be (nlen n) n
theorem numB_length (n:Nat):(numB n).length=nlen n+1:=by simp [numB,be_length]
theorem be_take (k n j:Nat) (h:j≤k):(be k n).take j=be j (n / 256 ^ (k - j)):=by
 induction k generalizing n with
 | zero =>
      have:j=0:=by omega
      subst this; simp [be]
 | succ k ih =>
  by_cases hj:j=k+1
  ·subst hj; rw [List.take_of_length_le (by simp [be_length])]; simp
  ·have hjk:j≤k:=by omega
   rw [be,List.take_append_of_le_length (by simp [be_length]; omega),ih _ hjk]
   congr 1
   rw [Nat.div_div_eq_div_mul]
   congr 1
   rw [show k+1 - j=(k - j)+1 from by omega,Nat.pow_succ,Nat.mul_comm]
def val (l:List UInt8):Nat:=l.foldl (fun n c=>n * 256+c.toNat) 0
def half (r:Nat):Nat:=if r % 2=1 then (r / 2) ^^^ 3988292384 else r / 2
theorem half_lt (r:Nat) (h:r<4294967296):half r<4294967296:=by
 unfold half
 split
 ·exact Nat.xor_lt_two_pow (n:=32) (by omega) (by decide)
 ·omega
def halves:Nat→Nat→Nat
 | 0,r=>r
 | k+1,r=>halves k (half r)
theorem halves_lt (k r:Nat) (h:r<4294967296):halves k r<4294967296:=by
 induction k generalizing r with
 | zero=>exact h
 | succ k ih=>exact ih _ (half_lt r h)
theorem halves_snoc (k r:Nat):halves (k+1) r=half (halves k r):=by
 induction k generalizing r with
 | zero=>rfl
 | succ k ih=>rw [halves,ih,halves]
def step (r:Nat) (c:UInt8):Nat:=halves 8 (r ^^^ c.toNat)
theorem xor_byte_lt (r:Nat) (c:UInt8) (h:r<4294967296):r ^^^ c.toNat<4294967296 :=
 Nat.xor_lt_two_pow (n:=32) (by omega) (by have:=c.toNat_lt; omega)
theorem step_lt (r:Nat) (c:UInt8) (h:r<4294967296):step r c<4294967296:=halves_lt _ _ (xor_byte_lt r c h)
def crcR (r:Nat) (l:List UInt8):Nat:=l.foldl step r
theorem crcR_lt (l:List UInt8) (r:Nat) (h:r<4294967296):crcR r l<4294967296:=by
 induction l generalizing r with
 | nil=>exact h
 | cons c l ih=>exact ih _ (step_lt r c h)
theorem crcR_snoc (l:List UInt8) (c:UInt8) (r:Nat):crcR r (l ++ [c])=step (crcR r l) c:=by simp [crcR]
def crc (l:List UInt8):Nat:=4294967295 - crcR 4294967295 l
end Go.Proofs.YtfgnmnkihbgjnaaGreat.Wm
namespace Go.Proofs.YtfgnmnkihbgjnaaGreat
open Go.RowKit
theorem ret_int {k:IntKind} {a b:Int} (h:a=b):Ending.returned (.int k a)=.returned (.int k b):=by rw [h]
theorem wraps_i64 (n:Int) (h0:0≤n) (h1:n<2 ^ 63):IntKind.i64.wrap n=n:=by rw [IntKind.wrap_i64]; omega
theorem i64_xor_nat (a b:Nat) (ha:a<2 ^ 63) (hb:b<2 ^ 63):bits BinOp.xor .i64 (a:Int) (b:Int)=((a ^^^ b:Nat):Int):=by
 have ha':a % 2 ^ IntKind.i64.bits=a:=Nat.mod_eq_of_lt (Nat.lt_of_lt_of_le ha (by decide))
 have hb':b % 2 ^ IntKind.i64.bits=b:=Nat.mod_eq_of_lt (Nat.lt_of_lt_of_le hb (by decide))
 have hx:a ^^^ b<2 ^ 63:=Nat.xor_lt_two_pow ha hb
 simp only [bits,BitVec.ofInt_natCast,BitVec.toNat_xor,BitVec.toNat_ofNat,ha',hb']
 exact wraps_i64 _ (Int.natCast_nonneg _) (by exact_mod_cast hx)
def by8 (l:List UInt8) (i:Nat):Nat:=(l.getD i 0).toNat
theorem by8_lt (l:List UInt8) (i:Nat):by8 l i<256:=(l.getD i 0).toNat_lt
theorem by8_get (l:List UInt8) (i:Nat) (h:i<l.length):by8 l i=l[i].toNat:=by simp [by8,List.getD,List.getElem?_eq_getElem h]
theorem take_snoc (l:List UInt8) (i:Nat) (h:i<l.length):l.take (i+1)=l.take i ++ [l[i]]:=by
 rw [List.take_succ_eq_append_getElem h]
def vals (l:List UInt8):List Value:=l.map fun c=>.int .u8 (c.toNat:Int)
theorem vals_length (l:List UInt8):(vals l).length=l.length:=by simp [vals]
theorem vals_append (l m:List UInt8):vals (l ++ m)=vals l ++ vals m:=by simp [vals]
theorem vals_get (l:List UInt8) (i:Nat) (h:i<l.length):(vals l)[i]?=some (.int .u8 (by8 l i)):=by
 simp [vals,by8,List.getElem?_eq_getElem h,List.getD]
theorem vals_one {l:List UInt8}:∀ u ∈ vals l,u.oneCell'=true:=by
 intro u hu
 obtain ⟨x,_,rfl⟩:=List.mem_map.1 hu
 rfl
def Bs (w:World) (p:Option Addr) (l:List UInt8):Prop :=
 0<l.length→∃ b o,p=some ⟨b,o,none⟩∧∀ i,i<l.length→w.cell? ⟨b,o+i,none⟩=some (.int .u8 (by8 l i))
theorem Bs.nil (w:World) (p:Option Addr):Bs w p []:=fun h=>absurd h (Nat.lt_irrefl 0)
theorem Bs.get {w:World} {b o:Nat} {l:List UInt8} (h:Bs w (some ⟨b,o,none⟩) l) (i:Nat) (hi:i<l.length):w.cell? ⟨b,o+i,none⟩=some (.int .u8 (by8 l i)):=by
 obtain ⟨b',o',e,hc⟩:=h (by omega)
 simp only [Option.some.injEq,Addr.mk.injEq] at e
 obtain ⟨rfl,rfl,-⟩:=e
 exact hc i hi
def strB (l:List UInt8):ByteArray:=⟨l.toArray⟩
theorem Bs.conv {P:Program} {w:World} {p:Option Addr} {l:List UInt8} (h:Bs w p l) (c:Nat) (src e dst:TypeId)
  (hs:P.underlying src=some (.slice e)) (he:P.underlying e=some (.int .u8)) (hd:P.underlying dst=some .string) :
  (convert src dst (.slice p l.length c)).run P w=.ok (.string (strB l)) w:=by
 rcases Nat.eq_zero_or_pos l.length with hn | hn
 ·obtain rfl:l=[]:=List.eq_nil_of_length_eq_zero hn
  rw [run_convert_bytes_string w src dst e _ _ c hs he hd]
  cases p <;> simp [Conv.bytesToString,loadCells]
  all_goals rfl
 ·obtain ⟨b,o,rfl,hc⟩:=h hn
  rw [run_convert_bytes_arg (P:=P) w src e hs he b o l.length c (l.map fun x=>(x.toNat:Int)) (by simp) (fun i hi=>by
   rw [hc i hi]
   simp [by8,List.getD,List.getElem?_eq_getElem hi]) dst hd]
  congr 2
  have hid:(fun n:Int=>UInt8.ofNat n.toNat) ∘ (fun x:UInt8=>(x.toNat:Int))=id:=by
   funext x
   simp
  simp [strOfNums,strB,hid]
theorem Bs.below {w w':World} {p:Option Addr} {l:List UInt8} {B:Nat} (h:Bs w p l) (hb:Below B w w') (hp:∀ a,p=some a→a.block<B):Bs w' p l:=by
 intro h0
 obtain ⟨b,o,rfl,hc⟩:=h h0
 have:=hp _ rfl
 exact ⟨b,o,rfl,fun i hi=>by rw [hb.cell (by simpa using this)]; exact hc i hi⟩
theorem cell_lt {w:World} {a:Addr} {v:Value} (h:w.cell? a=some v):a.block<w.heap.size:=World.block_lt_of_cell? w a h
theorem Bs.kept {w w':World} {p:Option Addr} {l:List UInt8} (h:Bs w p l) (hb:Below w.heap.size w w'):Bs w' p l:=by
 intro h0
 obtain ⟨b,o,rfl,hc⟩:=h h0
 have:=cell_lt (hc 0 h0)
 exact ⟨b,o,rfl,fun i hi=>by rw [hb.cell (by simpa using this)]; exact hc i hi⟩
theorem Bs.drew {w:World} {p:Option Addr} {l:List UInt8} (h:Bs w p l):Bs w.drew p l:=fun h0=>by
 obtain ⟨b,o,e,hc⟩:=h h0
 exact ⟨b,o,e,fun i hi=>hc i hi⟩
theorem Bs.of_own {w:World} {B:Nat} {v:Value} {l:List UInt8} {E:TypeId} (h:w.ownsRow B E 1 v l.length (vals l)):∃ p c,v=.slice p l.length c∧Bs w p l∧l.length≤c∧c≤maxLen∧(v.ownBlock=none ∨ ∃ g,p=some ⟨g,0,none⟩∧v.ownBlock=some g∧B≤g∧g<w.heap.size):=by
 have h0:=h
 rcases h.2 with ⟨rfl,hn⟩ | ⟨g,cap,cur,rfl,hg,hh,hnc,hcm,-,-⟩
 ·exact ⟨none,0,by rw [hn],fun h=>by omega,by omega,by simp [maxLen],Or.inl rfl⟩
 ·refine ⟨_,cap,rfl,fun _=>⟨g,0,rfl,fun i hi=>?_⟩,hnc,hcm,Or.inr ⟨g,rfl,rfl,hg,?_⟩⟩
  ·rw [Nat.zero_add,h0.cellAt i (by simpa using hi),vals_get l i hi]
  ·exact (Array.getElem?_eq_some_iff.1 hh).1
def Own (E:TypeId) (w:World) (B:Nat) (v:Value) (l:List UInt8):Prop:=w.ownsRow B E 1 v l.length (vals l)
theorem own_below {w w':World} {B:Nat} {v:Value} {n:Nat} {xs:List Value} {E:TypeId} (h:w.ownsRow B E 1 v n xs) (hb:Below w.heap.size w w'):w'.ownsRow B E 1 v n xs :=
 h.kept (row:=none) ⟨hb.os,hb.tape,hb.output,hb.size,fun k hk _=>hb.block k hk⟩ (by cases hv:v.ownBlock <;> simp)
theorem Own.below {E:TypeId} {w w':World} {B:Nat} {v:Value} {l:List UInt8} (h:Own E w B v l) (hb:Below w.heap.size w w'):Own E w' B v l:=own_below h hb
theorem Own.alloc {E:TypeId} {w:World} {B:Nat} {v:Value} {l:List UInt8} (h:Own E w B v l) (o:Obj):Own E (w.alloc o) B v l:=World.ownsRow.alloc h o
theorem Own.drew {E:TypeId} {w:World} {B:Nat} {v:Value} {l:List UInt8} (h:Own E w B v l):Own E w.drew B v l:=World.ownsRow.kept (row:=none) h ⟨rfl,rfl,rfl,Nat.le_refl _,fun _ _ _=>rfl⟩ (by cases hv:v.ownBlock <;> simp)
theorem Own.base {E:TypeId} {w:World} {B B':Nat} {v:Value} {l:List UInt8} (h:Own E w B v l) (hB:B'≤B):Own E w B' v l:=by
 have h0:w.ownsRow B E 1 v l.length (vals l):=h
 refine ⟨h0.1,?_⟩
 rcases h0.2 with h2 | ⟨g,cap,cur,hv,hg,r⟩
 ·exact Or.inl h2
 ·exact Or.inr ⟨g,cap,cur,hv,by omega,r⟩
theorem Own.nil (E:TypeId) (w:World) (B:Nat):Own E w B (.slice none 0 0) []:=World.ownsRow_nil w B E 1
theorem Own.bs {E:TypeId} {w:World} {B:Nat} {v:Value} {l:List UInt8} (h:Own E w B v l):∃ p c,v=.slice p l.length c∧Bs w p l∧l.length≤c∧c≤maxLen∧(p=none→c=0)∧(∀ a,p=some a→B≤a.block∧a.block<w.heap.size):=by
 have h0:w.ownsRow B E 1 v l.length (vals l):=h
 obtain ⟨p,c,hv,hbs,h1,h2,h3⟩:=Bs.of_own h0
 refine ⟨p,c,hv,hbs,h1,h2,fun hp=>?_,fun a ha=>?_⟩
 ·subst hp
  rcases h0.2 with ⟨e,-⟩ | ⟨g,cap,cur,e,-⟩
  ·rw [hv] at e; simp at e; exact e.2
  ·rw [hv] at e; simp at e
 ·subst ha
  rcases h3 with h3 | ⟨g,e,-,h4,h5⟩
  ·rw [hv] at h3; simp [Value.ownBlock] at h3
  ·simp only [Option.some.injEq] at e; subst e; exact ⟨h4,h5⟩
open Go.RowKit
def Rd (w:World) (p:Option Addr) (us:List Value):Prop :=
 0<us.length→∃ b o,p=some ⟨b,o,none⟩∧∀ i u,us[i]?=some u→w.cell? ⟨b,o+i,none⟩=some u
theorem Bs.rd {w:World} {p:Option Addr} {l:List UInt8} (h:Bs w p l):Rd w p (vals l):=by
 intro h0
 rw [vals_length] at h0
 obtain ⟨b,o,e,hc⟩:=h h0
 refine ⟨b,o,e,fun i u hu=>?_⟩
 have hi:i<l.length:=by
  have:=(List.getElem?_eq_some_iff.1 hu).1
  rwa [vals_length] at this
 rw [vals_get l i hi] at hu
 rw [hc i hi,hu]
theorem nextcap_le {need old:Nat} (h:old<need):Builtin.nextslicecap need old≤need+need / 4+512:=by
 unfold Builtin.nextslicecap
 split
 ·omega
 ·split
  ·omega
  ·rw [growBy_four]
   repeat' split
   all_goals omega
theorem grow_fits {need old bytes:Nat} (h:old<need) (hb:need * bytes≤211106232532992) (h1:bytes≤1000000000):Builtin.nextslicecap need old * bytes≤281474976710656:=by
 have h2:Builtin.nextslicecap need old * bytes≤(need+need / 4+512) * bytes:=Nat.mul_le_mul_right _ (nextcap_le h)
 have h3:need / 4 * bytes≤need * bytes / 4:=by
  rw [Nat.le_div_iff_mul_le (by decide),Nat.mul_assoc,Nat.mul_comm bytes 4,← Nat.mul_assoc]
  exact Nat.mul_le_mul_right _ (Nat.div_mul_le_self _ _)
 rw [Nat.add_mul,Nat.add_mul] at h2
 omega
section
variable {P:Program} (w:World)
theorem run_append_rd (base:Nat) (t ty e:TypeId) (i:TypeInfo) (z:Value) (bytes:Nat) (ht:P.underlying t=some (.slice e)) (hi:P.info? e=some i) (hz:i.zero=some z)
  (hsize:i.size=1) (hby:i.bytes=bytes) (hb1:bytes≤1000000000) (hzs:z.cells.size=1)
  (v:Value) (n:Nat) (xs:List Value) (hown:w.ownsRow base e 1 v n xs)
  (p:Option Addr) (c:Nat) (us:List Value) (hrd:Rd w p us) (hpn:p=none→c=0) (h1:∀ u ∈ us,u.oneCell'=true)
  (hbytes:(n+us.length) * bytes≤211106232532992) (h63:n+us.length≤maxLen) (hbase:base≤w.heap.size) :
  ∃ v' w',(Builtin.append_ #[t,t] ty #[v,.slice p us.length c]).run P w=.ok v' w'∧w'.ownsRow base e 1 v' (n+us.length) (xs ++ us)∧w.grownBy w' v.ownBlock ∧
   (v'=.slice none 0 0↔v=.slice none 0 0∧us.length=0):=by
 rcases Nat.eq_zero_or_pos us.length with hm0 | hm0
 ·obtain rfl:us=[]:=List.eq_nil_of_length_eq_zero hm0
  simp only [List.length_nil,Nat.add_zero,List.append_nil]
  have hself:w.grownBy w v.ownBlock:=⟨rfl,rfl,rfl,Nat.le_refl _,fun _ _ _=>rfl⟩
  cases p with
  | none =>
   have hc:=hpn rfl
   subst hc
   exact ⟨v,w,run_append_owned_none (P:=P) (w:=w) base t ty e i 1 ht hi v n xs hown,hown,hself,by simp⟩
  | some a =>
   refine ⟨v,w,?_,hown,hself,by simp⟩
   rcases hown.2 with ⟨rfl,rfl⟩ | ⟨g,cap,cur,rfl,hbg,hg,hnc,hcm,hcs,htake⟩
   ·simp [Builtin.append_,run_underlying ht,sizeOf,typeInfo,hi,Builtin.lenOf,Builtin.firstCells,loadCells,loadCellsFrom]
   ·simp [Builtin.append_,run_underlying ht,sizeOf,typeInfo,hi,Builtin.lenOf,Builtin.firstCells,loadCells,loadCellsFrom,hnc,storeCells]
 ·obtain ⟨b,o,rfl,hcell⟩:=hrd hm0
  have hnews:∀ j u,us[j]?=some u→w.cell? ((⟨b,o,none⟩:Addr).add j)=some u:=by
   intro j u hu
   have hadd:(⟨b,o,none⟩:Addr).add j=⟨b,o+j,none⟩:=by unfold Addr.add; split <;> simp_all
   rw [hadd]
   exact hcell j u hu
  have hmax:(maxLen:Nat)=9223372036854775807:=by decide
  have hxl:xs.length=n:=by simpa using hown.1
  have grown:∀ (old:Nat),old<n+us.length→∀ (row:Option Nat),
    (w.drew.alloc (.cells (xs.toArray ++ us.toArray ++ Builtin.zeroCells z.cells (grownCap w (n+us.length) old e - (n+us.length))) e)).ownsRow base e 1
     (.slice (some ⟨w.heap.size,0,none⟩) (n+us.length) (grownCap w (n+us.length) old e)) (n+us.length) (xs ++ us) ∧
    w.grownBy (w.drew.alloc (.cells (xs.toArray ++ us.toArray ++ Builtin.zeroCells z.cells (grownCap w (n+us.length) old e - (n+us.length))) e)) row:=by
   intro old ho row
   have hge:=grownCap_ge w (n+us.length) old e
   have hcm:grownCap w (n+us.length) old e≤maxLen:=grownCap_le_maxLen w (n+us.length) old e h63
   refine ⟨⟨by simp [hxl],.inr ⟨w.heap.size,_,_,rfl,hbase,heap_alloc_new w.drew _,hge,hcm,?_,?_⟩⟩,⟨rfl,rfl,rfl,by simp,fun k hk _=>Below.heap_alloc w.drew _ k hk⟩⟩
   ·simp only [Array.size_append,List.size_toArray,size_zeroCells,hzs,hxl]
    omega
   ·simp only [Array.toList_append,List.append_assoc]
    rw [← List.append_assoc,show (n+us.length) * 1=(xs ++ us).length from by simp [hxl]]
    exact List.take_left
  rcases hown.2 with ⟨rfl,rfl⟩ | ⟨g,cap,cur,rfl,hbg,hg,hnc,hcm,hcs,htake⟩
  ·have hx:xs=[]:=List.eq_nil_of_length_eq_zero hxl
   subst hx
   have hr:=run_append_nil (P:=P) w t ty e i z ht hi hz ⟨b,o,none⟩ us.length c us (by rw [hsize]; omega) hnews hm0 (by omega) (by rw [hby]; have hb:=hbytes; simp only [Nat.zero_add] at hb; omega)
   have hgr:=grown 0 (by omega) (Value.ownBlock (.slice none 0 0))
   simp only [Nat.zero_add,List.nil_append,Array.empty_append] at hgr ⊢
   exact ⟨_,_,hr,hgr.1,hgr.2,⟨fun h=>by simp at h,fun h=>by omega⟩⟩
  ·by_cases hroom:n+us.length≤cap
   ·have hfit:n * i.size+us.length≤cur.size:=by rw [hcs,hsize]; omega
    have hr:=run_append_room (P:=P) w t ty e i ht hi g n cap cur hg ⟨b,o,none⟩ us.length c us (by rw [hsize]; omega) hnews h1 hroom hfit
    rw [hsize] at hr
    refine ⟨_,_,hr,⟨by simp [hxl],.inr ⟨g,cap,_,rfl,hbg,setRow_heap w g cur _ e _ hg,hroom,hcm,?_,?_⟩⟩,⟨rfl,rfl,rfl,by simp,fun k _ hk=>setRow_other w g k _ (fun e=>hk (by simp [Value.ownBlock,e]))⟩,by simp⟩
    ·simp only [List.size_toArray,List.length_append,List.length_take,List.length_drop,Array.length_toList]
     rw [hsize] at hfit
     omega
    ·rw [htake,show (n+us.length) * 1=(xs ++ us).length from by simp [hxl]]
     exact List.take_left
   ·have holds:∀ j u,xs[j]?=some u→w.cell? ((⟨g,0,none⟩:Addr).add j)=some u:=hown.cells (g:=g) rfl
    have hr:=run_append_grow (P:=P) w t ty e i z ht hi hz ⟨g,0,none⟩ n cap xs (by rw [hsize]; omega) holds ⟨b,o,none⟩ us.length c us (by rw [hsize]; omega) hnews (by omega) (by omega) (by rw [hby]; exact grow_fits (by omega) hbytes hb1)
    have hgr:=grown cap (by omega) (Value.ownBlock (.slice (some ⟨g,0,none⟩) n cap))
    exact ⟨_,_,hr,hgr.1,hgr.2,by simp⟩
theorem wpList_append_bs {w:World} {ops:Array Oper} {rest:List Oper} {o:Oper} {a:Act} {Q:Exit→Act→World→Prop} (hgd:o.guard=none) (s x:Operand) (t:TypeId)
  (ho:o.op=.call { callee:=.builtin .append,args:=#[s,x],argTypes:=#[t,t] })
  (base:Nat) (e:TypeId) (i:TypeInfo) (ht:P.underlying t=some (.slice e)) (hi:P.info? e=some i) (hz:i.zero=some (.int .u8 0))
  (hsize:i.size=1) (hby:i.bytes=1)
  (v:Value) (xs:List UInt8) (hs:a.eval s=v) (hown:Own e w base v xs)
  (p:Option Addr) (c:Nat) (l:List UInt8) (hx:a.eval x=.slice p l.length c) (hbs:Bs w p l) (hpn:p=none→c=0)
  (hbytes:xs.length+l.length≤211106232532992) (hbase:base≤w.heap.size)
  (h:∀ v' w',Own e w' base v' (xs ++ l)→Below base w w'→w.grownBy w' v.ownBlock→(v'=.slice none 0 0↔v=.slice none 0 0∧l.length=0)→wpList P ops Q rest (a.put o.dst v') w'):wpList P ops Q (o :: rest) a w:=by
 refine wpList_plain hgd fun K hK=>?_
 obtain ⟨v',w',hr,h2,h3,h4⟩:=run_append_rd (P:=P) w base t o.type e i (.int .u8 0) 1 ht hi hz hsize hby (by decide) rfl v xs.length (vals xs) hown p c (vals l) hbs.rd hpn vals_one
  (by rw [vals_length]; omega) (by rw [vals_length]; unfold maxLen; omega) hbase
 rw [vals_length] at hr h2 h4
 unfold Oper.wp execOp
 simp only [ho,resolve,invoke,builtin,Sem.run_bind,Sem.run_pure,Result.andThen_ok,List.map_toArray,List.map_cons,List.map_nil,hs,hx,hr]
 refine hK _ _ (h v' w' ?_ ?_ h3 h4)
 ·unfold Own; rw [vals_append,List.length_append]; exact h2
 ·exact (Below.refl _ _).grown h3 hbase fun k hk=>(World.ownsRow.lt hown k hk).1
theorem wpList_append_str {w:World} {ops:Array Oper} {rest:List Oper} {o:Oper} {a:Act} {Q:Exit→Act→World→Prop} (hgd:o.guard=none) (sl x:Operand) (t u:TypeId)
  (ho:o.op=.call { callee:=.builtin .append,args:=#[sl,x],argTypes:=#[t,u] })
  (base:Nat) (e:TypeId) (i:TypeInfo) (ht:P.underlying t=some (.slice e)) (hu:P.underlying u=some .string) (hi:P.info? e=some i) (hz:i.zero=some (.int .u8 0))
  (hsize:i.size=1) (hby:i.bytes=1)
  (v:Value) (xs:List UInt8) (hs:a.eval sl=v) (hown:Own e w base v xs) (s:ByteArray) (hx:a.eval x=.string s)
  (hbytes:xs.length+s.size≤140737488355328) (hbase:base≤w.heap.size)
  (h:∀ v' w',Own e w' base v' (xs ++ s.data.toList)→Below base w w'→(v'=.slice none 0 0↔v=.slice none 0 0∧s.size=0)→wpList P ops Q rest (a.put o.dst v') w'):wpList P ops Q (o :: rest) a w:=by
 refine Lib.wpList_append_own_string w hgd sl x t u ho base e i ht hu hi hz hsize hby v xs.length (vals xs) hs hown s hx (by unfold maxLen; omega) hbytes hbase ?_
 intro v' w' h2 h3 h4
 refine h v' w' ?_ ((Below.refl _ _).grown h3 hbase fun k hk=>(World.ownsRow.lt hown k hk).1) h4
 have e1:Lib.strCells s=vals s.data.toList:=rfl
 have e2:s.size=s.data.toList.length:=by rw [Array.length_toList]; rfl
 rw [e1,e2] at h2
 unfold Own
 rw [vals_append,List.length_append]
 exact h2
end
open Go.RowKit
theorem info_u8:(Tryz.prog.info? 5).map (fun i=>(i.zero,i.size,i.bytes))=some (some (.int .u8 0),1,1):=by kernel_rfl
theorem len_fit (k b n:Nat) (l:Int) (h:l=(b:Int)) (hb:b≤8) (hk:k≤40) (hn:n=k+b):wrap64 ((k:Int)+wrap64 l)=(n:Int):=by
 subst h hn
 rw [IntWalk.wrap64_in (b:Int) (by omega),IntWalk.wrap64_in _ (by omega)]
 omega
theorem len_fit0 (b n:Nat) (l:Int) (h:l=(b:Int)) (hb:b≤8) (hn:n=b):wrap64 (wrap64 l)=(n:Int):=by
 subst h hn
 rw [IntWalk.wrap64_in (n:Int) (by omega),IntWalk.wrap64_in _ (by omega)]
theorem len64_any (x:Int) (w:World) (h0:0≤x) (h1:x≤281474976710655) :
  Calls Tryz.prog 126 #[.int .u64 x] w fun e w'=>e=.returned (.int .i64 (Lib.bitLen x.toNat))∧w=w':=by
 have t9:=Tryz.underlying9
 by_cases a1:x≤255
 ·have HF:=Hi (len_fit0 (Lib.bitLen x.toNat) (Lib.bitLen x.toNat) _ (Lib.len8_of x h0 a1) (Lib.bitLen_le8' x h0 a1) rfl)
  go_enter Tryz.func126,Tryz.ntmps126
  go_wp2
  go_ret
  exact ⟨ret_int HF.out,rfl⟩
 by_cases a2:x≤65535
 ·have e:(x / 256).toNat=x.toNat / 256:=by omega
  have b0:0≤x / 256:=by omega
  have b1:x / 256≤255:=by omega
  have HF:=Hi (len_fit 8 (Lib.bitLen (x / 256).toNat) (Lib.bitLen x.toNat) _ (Lib.len8_of _ b0 b1) (Lib.bitLen_le8' _ b0 b1) (by decide) (by rw [e]; exact Lib.bitLen_shift8 _ (by omega) (by omega)))
  clear e
  go_enter Tryz.func126,Tryz.ntmps126
  go_wp2
  go_ret
  exact ⟨ret_int HF.out,rfl⟩
 by_cases a3:x≤16777215
 ·have e:(x / 65536).toNat=x.toNat / 65536:=by omega
  have b0:0≤x / 65536:=by omega
  have b1:x / 65536≤255:=by omega
  have HF:=Hi (len_fit 16 (Lib.bitLen (x / 65536).toNat) (Lib.bitLen x.toNat) _ (Lib.len8_of _ b0 b1) (Lib.bitLen_le8' _ b0 b1) (by decide) (by rw [e]; exact Lib.bitLen_shift16 _ (by omega) (by omega)))
  clear e
  go_enter Tryz.func126,Tryz.ntmps126
  go_wp2
  go_ret
  exact ⟨ret_int HF.out,rfl⟩
 by_cases a4:x≤4294967295
 ·have e:(x / 65536 / 256).toNat=x.toNat / 16777216:=by omega
  have b0:0≤x / 65536 / 256:=by omega
  have b1:x / 65536 / 256≤255:=by omega
  have HF:=Hi (len_fit 24 (Lib.bitLen (x / 65536 / 256).toNat) (Lib.bitLen x.toNat) _ (Lib.len8_of _ b0 b1) (Lib.bitLen_le8' _ b0 b1) (by decide) (by rw [e]; exact Lib.bitLen_shift24 _ (by omega) (by omega)))
  clear e
  go_enter Tryz.func126,Tryz.ntmps126
  go_wp2
  go_ret
  exact ⟨ret_int HF.out,rfl⟩
 by_cases a5:x≤1099511627775
 ·have e:(x / 4294967296).toNat=x.toNat / 4294967296:=by omega
  have b0:0≤x / 4294967296:=by omega
  have b1:x / 4294967296≤255:=by omega
  have HF:=Hi (len_fit 32 (Lib.bitLen (x / 4294967296).toNat) (Lib.bitLen x.toNat) _ (Lib.len8_of _ b0 b1) (Lib.bitLen_le8' _ b0 b1) (by decide) (by rw [e]; exact Lib.bitLen_shift32 _ (by omega) (by omega)))
  clear e
  go_enter Tryz.func126,Tryz.ntmps126
  go_wp2
  go_ret
  exact ⟨ret_int HF.out,rfl⟩
 ·have e:(x / 4294967296 / 256).toNat=x.toNat / 1099511627776:=by omega
  have b0:0≤x / 4294967296 / 256:=by omega
  have b1:x / 4294967296 / 256≤255:=by omega
  have HF:=Hi (len_fit 40 (Lib.bitLen (x / 4294967296 / 256).toNat) (Lib.bitLen x.toNat) _ (Lib.len8_of _ b0 b1) (Lib.bitLen_le8' _ b0 b1) (by decide) (by rw [e]; exact Lib.bitLen_shift40 _ (by omega) (by omega)))
  clear e
  go_enter Tryz.func126,Tryz.ntmps126
  go_wp2
  go_ret
  exact ⟨ret_int HF.out,rfl⟩
open Go.RowKit
theorem half_bits (S:Nat) (h:S<4294967296):bits BinOp.xor IntKind.u32 ((S:Int) / 2) (bits BinOp.and IntKind.u32 3988292384 (-bits BinOp.and IntKind.u32 (S:Int) 1 % 4294967296))=((Wm.half S:Nat):Int):=by
 have h1:bits BinOp.and IntKind.u32 (S:Int) 1=((S % 2:Nat):Int):=by
  have:=Go.u32_and_nat S 1 h (by decide)
  rw [Go.nat_mask1] at this
  exact this
 have h2:((S:Int) / 2)=((S / 2:Nat):Int):=by omega
 rw [h1,h2]
 unfold Wm.half
 rcases Nat.mod_two_eq_zero_or_one S with e | e
 ·rw [e]
  have h3:bits BinOp.and IntKind.u32 3988292384 (-((0:Nat):Int) % 4294967296)=((0:Nat):Int):=by
   have:=Go.u32_and_nat 3988292384 0 (by decide) (by decide)
   simpa using this
  rw [h3,Go.u32_xor_nat _ _ (by omega) (by decide)]
  simp
 ·rw [e]
  have h3:bits BinOp.and IntKind.u32 3988292384 (-((1:Nat):Int) % 4294967296)=((3988292384:Nat):Int):=by
   have:=Go.u32_and_nat 3988292384 4294967295 (by decide) (by decide)
   have e2:(3988292384 &&& 4294967295:Nat)=3988292384:=by decide
   rw [e2] at this
   exact this
  rw [h3,Go.u32_xor_nat _ _ (by omega) (by decide)]
  simp
theorem not_nat (R:Nat) (h:R<4294967296):4294967295 ^^^ R=4294967295 - R:=by
 apply Nat.eq_of_testBit_eq
 intro i
 have a:=Nat.testBit_two_pow_sub_succ (n:=32) (x:=R) (by omega) i
 have e:2 ^ 32 - (R+1)=4294967295 - R:=by omega
 rw [e] at a
 rw [a,Nat.testBit_xor]
 have b:=Nat.testBit_two_pow_sub_one 32 i
 have e2:(2 ^ 32 - 1:Nat)=4294967295:=by decide
 rw [e2] at b
 rw [b]
 by_cases hi:i<32
 ·simp [hi]
 ·have:R.testBit i=false:=Nat.testBit_lt_two_pow (Nat.lt_of_lt_of_le h (by have:=Nat.pow_le_pow_right (n:=2) (by decide) (Nat.le_of_not_lt hi); omega))
  simp [hi,this]
theorem not_bits (R:Nat) (h:R<4294967296):wrap64 (bits BinOp.xor IntKind.u32 IntKind.u32.max (R:Int))=((4294967295 - R:Nat):Int):=by
 have:=Go.u32_xor_nat 4294967295 R (by decide) h
 rw [not_nat R h] at this
 rw [show (IntKind.u32.max)=((4294967295:Nat):Int) from by decide,this]
 exact IntWalk.wrap64_in _ (by omega)
theorem sum_any (p:Option Addr) (c:Nat) (l:List UInt8) (w:World) (h:Bs w p l) (hl:l.length≤maxLen) :
  Calls Tryz.prog 55 #[.slice p l.length c] w fun e w'=>e=.returned (.int .i64 (Wm.crc l))∧w=w':=by
 unfold maxLen at hl
 go_enter Tryz.func55,Tryz.ntmps55
 go_wp2
 go_loop [3,5,8] (fun s _ i=>∃ k:Nat,k≤l.length∧i=.int .i64 k∧s=.int .u32 (Wm.crcR 4294967295 (l.take k))) (fun _ _ i=>l.length - (intOf i).toNat)
 case atStart=>exact ⟨0,Nat.zero_le _,rfl,rfl⟩
 case round =>
  obtain ⟨k,hk,rfl,rfl⟩:=hrel
  by_cases hlt:k<l.length
  ·obtain ⟨b,o,rfl,hc⟩:=h (by omega)
   have hcell:=hc k hlt
   clear hc
   have hRl:=Wm.crcR_lt (l.take k) 4294967295 (by decide)
   have hxl:=by8_lt l k
   have HS:Hid (Wm.crcR 4294967295 (l.take (k+1))=Wm.halves 8 (Wm.crcR 4294967295 (l.take k) ^^^ by8 l k)):=by
    rw [take_snoc l k hlt,Wm.crcR_snoc,by8_get l k hlt]; rfl
   generalize Wm.crcR 4294967295 (l.take k)=R at *
   generalize by8 l k=x at *
   have hX:=Go.u32_xor_nat R x hRl (by omega)
   go_wp2
   have hXl:R ^^^ x<4294967296:=Nat.xor_lt_two_pow (n:=32) (by omega) (by omega)
   clear hX
   generalize R ^^^ x=Y at *
   go_loop [3,16] (fun s j=>∃ m:Nat,m≤8∧j=.int .i64 m∧s=.int .u32 (Wm.halves m Y)) (fun _ j=>8 - (intOf j).toNat)
   case atStart=>exact ⟨0,Nat.zero_le _,rfl,rfl⟩
   case round =>
    obtain ⟨m,hm,rfl,rfl⟩:=hrel
    have hSl:=Wm.halves_lt m Y hXl
    have HT:=Hi (Wm.halves_snoc m Y)
    generalize hS:Wm.halves m Y=S at *
    have HE:=Hi hS
    clear hS
    by_cases h8:m<8
    ·go_wp2
     go_round
     case rel=>exact ⟨m+1,by omega,by go_num,by rw [half_bits S hSl,HT.out]⟩
     case measure=>simp [intOf]; omega
    ·obtain rfl:m=8:=by omega
     go_wp2
     go_round
     case rel=>exact ⟨k+1,by omega,by go_num,by rw [HS.out,HE.out]⟩
     case measure=>simp [intOf]; omega
  ·go_wp2
   go_ret
   obtain rfl:k=l.length:=by omega
   refine ⟨ret_int ?_,rfl⟩
   rw [List.take_length,not_bits _ (Wm.crcR_lt l _ (by decide))]
   rfl
theorem refSum_any (p:Option Addr) (c:Nat) (l:List UInt8) (w:World) (h:Bs w p l) (hl:l.length≤maxLen) :
  Calls Tryz.prog 68 #[.slice p l.length c] w fun e w'=>e=.returned (.int .i64 (Wm.crc l))∧w=w':=by
 unfold maxLen at hl
 go_enter Tryz.func68,Tryz.ntmps68
 go_wp2
 go_loop [3,4,5] (fun s i _=>∃ k:Nat,k≤l.length∧i=.int .i64 k∧s=.int .i64 (Wm.crcR 4294967295 (l.take k))) (fun _ i _=>l.length - (intOf i).toNat)
 case atStart=>exact ⟨0,Nat.zero_le _,rfl,rfl⟩
 case round =>
  obtain ⟨k,hk,rfl,rfl⟩:=hrel
  have hRl:=Wm.crcR_lt (l.take k) 4294967295 (by decide)
  by_cases hlt:k<l.length
  ·obtain ⟨b,o,rfl,hc⟩:=h (by omega)
   have hcell:=hc k hlt
   clear hc
   have hxl:=by8_lt l k
   have HS:Hid (Wm.crcR 4294967295 (l.take (k+1))=Wm.halves 8 (Wm.crcR 4294967295 (l.take k) ^^^ by8 l k)):=by
    rw [take_snoc l k hlt,Wm.crcR_snoc,by8_get l k hlt]; rfl
   generalize Wm.crcR 4294967295 (l.take k)=R at *
   generalize by8 l k=x at *
   have hX:=i64_xor_nat R x (by omega) (by omega)
   go_wp2
   have hXl:R ^^^ x<4294967296:=Nat.xor_lt_two_pow (n:=32) (by omega) (by omega)
   clear hX
   generalize R ^^^ x=Y at *
   go_loop [3,5] (fun s j=>∃ m:Nat,m≤8∧j=.int .i64 m∧s=.int .i64 (Wm.halves m Y)) (fun _ j=>8 - (intOf j).toNat)
   case atStart=>exact ⟨0,Nat.zero_le _,rfl,rfl⟩
   case round =>
    obtain ⟨m,hm,rfl,rfl⟩:=hrel
    have hSl:=Wm.halves_lt m Y hXl
    have HT:=Hi (Wm.halves_snoc m Y)
    generalize hS:Wm.halves m Y=S at *
    have HE:=Hi hS
    clear hS
    by_cases h8:m<8
    ·rcases Nat.mod_two_eq_zero_or_one S with e | e
     ·have HH:Hid (Wm.half S=S / 2):=by show Wm.half S=S / 2; unfold Wm.half; rw [e]; rfl
      have ht:((S:Int) % 2 == 1)=false:=by rw [beq_eq_false_iff_ne]; omega
      clear e
      go_wp2
      go_round
      case rel=>exact ⟨m+1,by omega,by go_num,by rw [HT.out,HH.out]; go_num⟩
      case measure=>simp [intOf]; omega
     ·have HH:Hid (Wm.half S=(S / 2) ^^^ 3988292384):=by show Wm.half S=(S / 2) ^^^ 3988292384; unfold Wm.half; rw [e]; rfl
      have ht:((S:Int) % 2 == 1)=true:=by rw [beq_iff_eq]; omega
      have hy:bits BinOp.xor .i64 ((S:Int) / 2) 3988292384=(((S / 2) ^^^ 3988292384:Nat):Int):=by
       have:=i64_xor_nat (S / 2) 3988292384 (by omega) (by decide)
       rw [← this]; rfl
      clear e
      go_wp2
      go_round
      case rel=>exact ⟨m+1,by omega,by go_num,by rw [HT.out,HH.out]⟩
      case measure=>simp [intOf]; omega
    ·obtain rfl:m=8:=by omega
     go_wp2
     go_round
     case rel=>exact ⟨k+1,by omega,by go_num,by rw [HS.out,HE.out]⟩
     case measure=>simp [intOf]; omega
  ·obtain rfl:k=l.length:=by omega
   go_wp2
   go_ret
   refine ⟨ret_int ?_,rfl⟩
   unfold Wm.crc
   have:=Wm.crcR_lt l 4294967295 (by decide)
   rw [IntWalk.wrap64_in _ (by omega)]
   omega
open Go.RowKit
theorem bitLen_pos (n:Nat) (h0:n≠0) (h:n<18446744073709551616):1≤Lib.bitLen n:=by
 rw [Lib.bitLen_half n h0 h]; omega
theorem nlen_bits (n:Nat) (h:n<281474976710656):(Lib.bitLen n+7) / 8=Wm.nlen n:=by
 unfold Wm.nlen
 split
 ·subst_vars; decide
 split
 ·have a:=bitLen_pos n (by omega) (by omega)
  have b:=Lib.bitLen_le n 8 (by decide) (by omega)
  omega
 split
 ·have a:=bitLen_pos (n / 256) (by omega) (by omega)
  have b:=Lib.bitLen_le (n / 256) 8 (by decide) (by omega)
  have c:=Lib.bitLen_shift8 n (by omega) (by omega)
  omega
 split
 ·have a:=bitLen_pos (n / 65536) (by omega) (by omega)
  have b:=Lib.bitLen_le (n / 65536) 8 (by decide) (by omega)
  have c:=Lib.bitLen_shift16 n (by omega) (by omega)
  omega
 split
 ·have a:=bitLen_pos (n / 16777216) (by omega) (by omega)
  have b:=Lib.bitLen_le (n / 16777216) 8 (by decide) (by omega)
  have c:=Lib.bitLen_shift24 n (by omega) (by omega)
  omega
 split
 ·have a:=bitLen_pos (n / 4294967296) (by omega) (by omega)
  have b:=Lib.bitLen_le (n / 4294967296) 8 (by decide) (by omega)
  have c:=Lib.bitLen_shift32 n (by omega) (by omega)
  omega
 ·have a:=bitLen_pos (n / 1099511627776) (by omega) (by omega)
  have b:=Lib.bitLen_le (n / 1099511627776) 8 (by decide) (by omega)
  have c:=Lib.bitLen_shift40 n (by omega) (by omega)
  omega
theorem len_any (x:Int) (w:World) (h0:0≤x) (h1:x≤281474976710655) :
  Calls Tryz.prog 114 #[.int .u64 x] w fun e w'=>e=.returned (.int .i64 (Lib.bitLen x.toNat))∧w=w':=by
 go_enter Tryz.func114,Tryz.ntmps114
 go_wp2_with (go_at_call 126; refine (len64_any _ _ h0 h1).mono ?_; rintro e w' ⟨rfl,rfl⟩)
 go_ret
 exact ⟨rfl,rfl⟩
theorem Bs.new1 (w:World) (x:Int) (c:UInt8) (E:TypeId) (h:x=(c.toNat:Int)):Bs (w.alloc (.cells #[.int .u8 x] E)) (some ⟨w.heap.size,0,none⟩) [c]:=by
 intro _
 refine ⟨_,_,rfl,fun i hi=>?_⟩
 have:i=0:=by simpa using hi
 subst this
 rw [World.cell?_alloc_at _ _ _ _ rfl,h]
 rfl
theorem low_byte (n:Nat):((UInt8.ofNat (n % 256)).toNat:Int)=(n:Int) % 256:=by simp
theorem be_at (k n j:Nat) (h:j<k):(Wm.be k n)[j]'(by rw [Wm.be_length]; exact h)=UInt8.ofNat (n / 256 ^ (k - 1 - j) % 256):=by
 have a:=Wm.be_take k n (j+1) (by omega)
 have b:=Wm.be_take k n j (by omega)
 rw [take_snoc _ j (by rw [Wm.be_length]; exact h),b,Wm.be] at a
 have c:=List.append_inj_right' a rfl
 simp only [List.cons.injEq,and_true] at c
 rw [c,show k - (j+1)=k - 1 - j from by omega]
theorem shr_pow (n e:Nat):(n:Int) / 2 ^ (8 * e)=((n / 256 ^ e:Nat):Int):=by
 rw [show (2:Int) ^ (8 * e)=((256 ^ e:Nat):Int) from by rw [show (256:Nat)=2 ^ 8 from rfl,← Nat.pow_mul]; exact_mod_cast rfl]
 exact_mod_cast rfl
theorem addNum_any (B:Nat) (v:Value) (xs:List UInt8) (n:Nat) (w:World) (hn:n<281474976710656) (hown:Own 5 w B v xs) (hB:B≤w.heap.size) (hx:xs.length≤1000000) :
  Calls Tryz.prog 94 #[v,.int .i64 n] w fun e w'=>∃ v',e=.returned v'∧Own 5 w' B v' (xs ++ Wm.numB n)∧Below B w w'∧v' ≠ .slice none 0 0:=by
 obtain ⟨i0,hi,hz0,hz1,hz2⟩:=info_parts info_u8
 have hk6:=Wm.nlen_le n
 have hb:=Lib.bitLen_le n 48 (by decide) hn
 have hnl:=nlen_bits n hn
 generalize hKe:Wm.nlen n=K at *
 have HK:=Hi hKe
 clear hKe
 go_enter Tryz.func94,Tryz.ntmps94
 go_wp2_with fail
 refine (len_any _ _ (by omega) (by omega)).mono ?_
 rintro e w' ⟨rfl,rfl⟩
 rw [Int.toNat_natCast]
 generalize Lib.bitLen n=bl at *
 have hK:((bl:Int)+7) / 8=(K:Int):=by omega
 clear hnl
 have hbs:=Bs.new1 w (K:Int) (UInt8.ofNat K) 5 (by simp; omega)
 have hown1:=hown.alloc (.cells #[.int .u8 (K:Int)] 5)
 go_wp2_with (at_builtin; refine wpList_append_bs rfl _ _ 103 rfl B 5 i0 Tryz.underlying103 hi hz0 hz1 hz2 _ xs rfl hown1 (some ⟨w.heap.size,0,none⟩) 1 [UInt8.ofNat K] rfl hbs ?b0 ?b1 ?b2 ?_)
 case b0=>simp
 case b1=>simp; omega
 case b2=>simp; omega
 intro v1 w1 hown2 hbel hgrow hnil
 have HV1:=Hi hnil
 have hbw:Below B w w1:=((Below.refl B w).alloc hB _).trans hbel
 clear hbs hown1 hgrow hnil hbel hown hK
 go_wp2
 go_loopw [0,6] (fun v i wr=>∃ j:Nat,j≤K∧i=.int .i64 ((K:Int) - 1 - j)∧Own 5 wr B v (xs ++ UInt8.ofNat K :: (Wm.be K n).take j)∧Below B w wr∧v ≠ .slice none 0 0) (fun _ i _=>(intOf i+1).toNat)
 case atStart=>exact ⟨0,Nat.zero_le _,by simp,hown2,hbw,HV1.out⟩
 case round =>
  obtain ⟨j,hj,rfl,hown3,hbw3,hv3⟩:=hrel
  have HV3:=Hi hv3
  clear hv3
  have hB3:B≤wr.heap.size:=Nat.le_trans hB hbw3.size
  by_cases hlt:j<K
  ·obtain ⟨r,hr⟩:∃ r,K=r+1+j:=⟨K - 1 - j,by omega⟩
   rw [show (((K:Nat):Int) - 1 - (j:Int))=(r:Int) from by omega]
   have hr6:r≤5:=by omega
   have HS:Hid ((Wm.be K n).take (j+1)=(Wm.be K n).take j ++ [UInt8.ofNat (n / 256 ^ r % 256)]):=by
    show (Wm.be K n).take (j+1)=(Wm.be K n).take j ++ [UInt8.ofNat (n / 256 ^ r % 256)]
    rw [take_snoc _ j (by rw [Wm.be_length]; exact hlt),be_at K n j hlt,show K - 1 - j=r from by omega]
   have HR:=Hi hr
   clear hr
   have hbs:=Bs.new1 wr ((n:Int) / 2 ^ (8 * r) % 256) (UInt8.ofNat (n / 256 ^ r % 256)) 5 (by rw [shr_pow,low_byte])
   have hown4:=hown3.alloc (.cells #[.int .u8 ((n:Int) / 2 ^ (8 * r) % 256)] 5)
   have hlen:(xs ++ UInt8.ofNat K :: (Wm.be K n).take j).length≤1000007:=by simp; omega
   generalize hys:xs ++ UInt8.ofNat K :: (Wm.be K n).take j=ys at *
   have HYS:=Hi hys
   clear hys
   go_wp2_with (at_builtin; refine wpList_append_bs rfl _ _ 103 rfl B 5 i0 Tryz.underlying103 hi hz0 hz1 hz2 _ ys rfl hown4 (some ⟨wr.heap.size,0,none⟩) 1 [UInt8.ofNat (n / 256 ^ r % 256)] rfl hbs ?c0 ?c1 ?c2 ?_)
   case c0=>simp
   case c1=>simp; omega
   case c2=>simp; omega
   intro v5 w5 hown5 hbel5 hgrow5 hnil5
   have HV5:=Hi hnil5
   have hbw5:Below B w w5:=(hbw3.alloc hB3 _).trans hbel5
   have hown6:Own 5 w5 B v5 (xs ++ UInt8.ofNat K :: (Wm.be K n).take (j+1)):=by
    rw [HS.out]
    rw [← HYS.out] at hown5
    simpa using hown5
   clear hbs hown3 hown4 hown5 hbel5 hgrow5 hnil5 hbw3 hbw
   go_wp2
   go_roundw
   case rel=>exact ⟨j+1,by omega,by rw [show ((K:Int) - 1 - ((j+1:Nat):Int))=(r:Int) - 1 from by have:=HR.out; omega],hown6,hbw5,HV5.out⟩
   case measure=>simp [intOf]
  ·obtain rfl:j=K:=by omega
   have e:(Wm.be j n).take j=Wm.be j n:=List.take_of_length_le (by rw [Wm.be_length]; omega)
   rw [e] at hown3
   have hfin:Hid (UInt8.ofNat j :: Wm.be j n=Wm.numB n):=by show UInt8.ofNat j :: Wm.be j n=Wm.numB n; unfold Wm.numB; rw [HK.out]
   clear e
   go_wp2
   go_ret
   rw [hfin.out] at hown3
   exact ⟨_,rfl,hown3,hbw3,HV3.out⟩
def numW (n:Int):List UInt8 × Nat:=if 0≤n∧n≤281474976710655 then (Wm.numB n.toNat,0) else ([],30)
def Wrote (E:TypeId) (w:World) (r:List UInt8 × Nat) (e:Ending) (w':World):Prop :=
 ∃ v,e=.returned (.tuple #[v,.int .i64 (r.2:Int)])∧Own E w' w.heap.size v r.1∧Below w.heap.size w w'
theorem num_any (n:Int) (w:World):Calls Tryz.prog 73 #[.int .i64 n] w (Wrote 5 w (numW n)):=by
 by_cases h0:n<0
 ·have hf:=Hi (show numW n=([],30) by unfold numW; rw [if_neg (by omega)])
  go_enter Tryz.func73,Tryz.ntmps73
  go_wp2
  go_ret2
  rw [hf.out]
  exact ⟨_,rfl,Own.nil _ _ _,Below.refl _ _⟩
 ·by_cases h1:281474976710655<n
  ·have hf:=Hi (show numW n=([],30) by unfold numW; rw [if_neg (by omega)])
   go_enter Tryz.func73,Tryz.ntmps73
   go_wp2
   go_ret2
   rw [hf.out]
   exact ⟨_,rfl,Own.nil _ _ _,Below.refl _ _⟩
  ·obtain ⟨m,rfl⟩:=Int.eq_ofNat_of_zero_le (show 0≤n by omega)
   have hf:=Hi (show numW (m:Int)=(Wm.numB m,0) by unfold numW; rw [if_pos (by omega),Int.toNat_natCast])
   go_enter Tryz.func73,Tryz.ntmps73
   go_wp2_with fail
   refine (addNum_any w.heap.size _ [] m w (by omega) (Own.nil _ _ _) (Nat.le_refl _) (by simp)).mono ?_
   rintro e w1 ⟨v1,rfl,hown,hbw,hv⟩
   clear hv
   go_wp2
   go_ret2
   rw [hf.out]
   exact ⟨_,rfl,hown,hbw⟩
def textW (s:List UInt8):List UInt8 × Nat:=if s.length≤1048576 then (Wm.numB s.length ++ s,0) else ([],6)
theorem numB_small (n:Nat):(Wm.numB n).length≤7:=by rw [Wm.numB_length]; have:=Wm.nlen_le n; omega
theorem text_any (s:ByteArray) (w:World) (hs:s.size≤maxLen):Calls Tryz.prog 98 #[.string s] w (Wrote 5 w (textW s.data.toList)):=by
 unfold maxLen at hs
 have hsl:s.data.toList.length=s.size:=by rw [Array.length_toList]; rfl
 obtain ⟨i0,hi,hz0,hz1,hz2⟩:=info_parts info_u8
 by_cases h1:1048576<s.size
 ·have hf:=Hi (show textW s.data.toList=([],6) by unfold textW; rw [if_neg (by omega)])
  clear hsl
  go_enter Tryz.func98,Tryz.ntmps98
  go_wp2
  go_ret2
  rw [hf.out]
  exact ⟨_,rfl,Own.nil _ _ _,Below.refl _ _⟩
 ·have hf:=Hi (show textW s.data.toList=(Wm.numB s.size ++ s.data.toList,0) by unfold textW; rw [if_pos (by omega),hsl])
  clear hsl
  go_enter Tryz.func98,Tryz.ntmps98
  go_wp2_with fail
  refine (addNum_any w.heap.size _ [] s.size w (by omega) (Own.nil _ _ _) (Nat.le_refl _) (by simp)).mono ?_
  rintro e w1 ⟨v1,rfl,hown,hbw,hv⟩
  clear hv
  have hsz:=hbw.size
  go_wp2_with (at_builtin; refine wpList_append_str rfl _ _ 103 9 rfl w.heap.size 5 i0 Tryz.underlying103 Tryz.underlying9 hi hz0 hz1 hz2 _ ([] ++ Wm.numB s.size) rfl hown s rfl ?c1 ?c2 ?_)
  case c1=>have:=numB_small s.size; simp; omega
  case c2=>exact hsz
  intro v2 w2 hown2 hbel2 hnil2
  clear hnil2
  go_wp2
  go_ret2
  rw [hf.out]
  exact ⟨_,rfl,hown2,hbw.trans hbel2⟩
open Go.RowKit
theorem Own.lit {E:TypeId} (w:World) (cs:Array Value) (l:List UInt8) (h:cs.toList=vals l) (hm:l.length≤maxLen):Own E (w.alloc (.cells cs E)) w.heap.size (.slice (some ⟨w.heap.size,0,none⟩) l.length l.length) l:=by
 unfold Own
 rw [← h]
 refine World.ownsRow_lit w cs l.length (Nat.le_refl _) hm ?_
 rw [← Array.length_toList,h,vals_length,Nat.mul_one]
end Go.Proofs.YtfgnmnkihbgjnaaGreat
