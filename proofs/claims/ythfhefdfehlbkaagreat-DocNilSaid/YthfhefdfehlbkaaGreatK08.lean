/-
  A LOG'S STATE IN MEMORY ('St'): its block, its rows, its map, what it all lies in; what keeps it; next, vector, full.
  No conditions but sizes.
  A LOG'S STATE TURNED: end, fits; a batch enters its row; one is laid among those that wait.
  No conditions but sizes.
  WHAT WAITS FOR A REPLICA'S LAST BATCH COMES IN: follow.
  No conditions but sizes.
  A LOG IN MEMORY ('Lo'), and what is none ('NoL'); ours.
  No conditions.
  NO LOG, AND ONE THAT NOBODY MADE: what each call answers.
  No conditions.
-/
import Derived.Test.YthfhefdfehlbkaaGreatSh
import Derived.Test.YthfhefdfehlbkaaGreatK07
import Derived.Deep.DeepCutAuto
set_option maxRecDepth 100000
set_option maxHeartbeats 16000000
namespace Go.Proofs.YthfhefdfehlbkaaGreat
open Go.RowKit
structure Sm where
 q:Nat→Option Addr
 c:Nat→Nat
 el:Nat→List Be
 we:List Be
def Sm.v (m:Sm) (r:Nat):Value:=.slice (m.q r) (m.el r).length (m.c r)
def Sm.lg (m:Sm):Lg:=⟨fun r=>(m.el r).map (·.x),m.we.map (·.x)⟩
def slL (v:Nat→Value):List Value:=(List.range 16).map v
def slA (v:Nat→Value):Array Value:=(slL v).toArray
def stL (v:Nat→Value) (M:Nat):List Value:=slL v ++ [.map (some M)]
def lsA (v:Nat→Value) (M:Nat):Array Value:=(stL v M).toArray
theorem slL_length (v:Nat→Value):(slL v).length=16:=by simp [slL]
theorem slL_get (v:Nat→Value) (i:Nat) (h:i<16):(slL v)[i]?=some (v i):=by simp [slL,h]
theorem slA_get (v:Nat→Value) (i:Nat) (h:i<16):(slA v)[i]?=some (v i):=by simp [slA,slL_get v i h]
theorem stL_get (v:Nat→Value) (M i:Nat) (h:i<16):(stL v M)[i]?=some (v i):=by
 unfold stL
 rw [List.getElem?_append_left (by rw [slL_length]; exact h),slL_get v i h]
theorem stL_map (v:Nat→Value) (M:Nat):(stL v M)[16]?=some (.map (some M)):=by
 unfold stL
 rw [List.getElem?_append_right (by rw [slL_length]; exact Nat.le_refl _),slL_length]
 rfl
theorem stA_size (v:Nat→Value) (M:Nat):(lsA v M).size=17:=by simp [lsA,stL,slL_length]
theorem stA_set (v:Nat→Value) (M i:Nat) (u:Value) (h:i<16):(lsA v M).setIfInBounds i u=lsA (fun k=>if k=i then u else v k) M:=by
 apply Array.ext_getElem?
 intro j
 rw [Array.getElem?_setIfInBounds,stA_size]
 unfold lsA
 rw [List.getElem?_toArray,List.getElem?_toArray]
 by_cases hj:j<16
 ·rw [stL_get _ _ j hj,stL_get _ _ j hj]
  by_cases e:i=j
  ·subst e; simp; omega
  ·rw [if_neg e,if_neg (fun h=>e h.symm)]
 ·rw [if_neg (by omega)]
  unfold stL
  rw [List.getElem?_append_right (by rw [slL_length]; omega),List.getElem?_append_right (by rw [slL_length]; omega),slL_length,slL_length]
def Ro (F:Nat→Prop) (S M:Nat) (m:Sm) (k:Nat):Prop:=F k∧k≠S∧k≠M∧∀ r,r<16→(m.v r).ownBlock≠some k
structure St (w:World) (S M:Nat) (m:Sm) (F:Nat→Prop):Prop where
 st:AgAt w S (lsA m.v M)
 map:WMap w M m.we
 row:∀ r,r<16→w.ownsRow 0 81 4 (m.v r) (m.el r).length (beCells (m.el r))
 ops:∀ r,r<16→∀ e,e ∈ m.el r→BopsF (Ro F S M m) w e.x e.p e.c
 wops:∀ e,e ∈ m.we→BopsF (Ro F S M m) w e.x e.p e.c
 apart:∀ r r' b,r<16→r'<16→(m.v r).ownBlock=some b→(m.v r').ownBlock=some b→r=r'
 own:∀ r b,r<16→(m.v r).ownBlock=some b→F b∧b≠S∧b≠M
 fS:F S
 fM:F M
 ne:S≠M
 lt:∀ k,F k→k<w.heap.size
section
variable {w w':World} {S M:Nat} {m:Sm} {F G:Nat→Prop}
theorem St.turns (h:St w S M m F) (ht:Turns G w w') (hd:∀ k,F k→¬ G k):St w' S M m F :=
 ⟨h.st.block (ht.block _ (AgAt.lt h.st) (hd _ h.fS)),h.map.turns ht (hd _ h.fM),fun r hr=>ht.own (h.row r hr) fun g hg=>hd _ (h.own r g hr hg).1,
  fun r hr e he=>(h.ops r hr e he).turns ht fun _ hk=>hd _ hk.1,fun e he=>(h.wops e he).turns ht fun _ hk=>hd _ hk.1,h.apart,h.own,h.fS,h.fM,h.ne,fun k hk=>Nat.lt_of_lt_of_le (h.lt k hk) ht.size⟩
theorem St.kept (h:St w S M m F) (hb:Below w.heap.size w w'):St w' S M m F:=h.turns (G:=fun _=>False) (Turns.of_below hb) fun _ _ h=>h
theorem St.more (h:St w S M m F) (hm:∀ k,F k→G k) (hl:∀ k,G k→k<w.heap.size):St w S M m G :=
 ⟨h.st,h.map,h.row,fun r hr e he=>(h.ops r hr e he).mono fun _ _ hk=>⟨hm _ hk.1,hk.2⟩,fun e he=>(h.wops e he).mono fun _ _ hk=>⟨hm _ hk.1,hk.2⟩,h.apart,fun r b hr hb=>⟨hm _ (h.own r b hr hb).1,(h.own r b hr hb).2⟩,hm _ h.fS,hm _ h.fM,h.ne,hl⟩
theorem St.cell (h:St w S M m F) {r:Nat} (hr:r<16):w.cell? ⟨S,r,none⟩=some (.slice (m.q r) (m.el r).length (m.c r)):=by
 rw [AgAt.cell h.st r]
 unfold lsA
 rw [List.getElem?_toArray,stL_get _ _ r hr]
 rfl
theorem St.mcell (h:St w S M m F):w.cell? ⟨S,16,none⟩=some (.map (some M)):=by
 rw [AgAt.cell h.st 16]
 unfold lsA
 rw [List.getElem?_toArray,stL_map]
theorem St.slt (h:St w S M m F):S<w.heap.size:=AgAt.lt h.st
theorem St.range (h:St w S M m F):w.rangeAt S 0 (slL m.v):=fun j v hv=>by
 have hj:j<16:=by have:=(List.getElem?_eq_some_iff.1 hv).1; rw [slL_length] at this; exact this
 rw [slL_get _ _ hj] at hv
 cases hv
 rw [Nat.zero_add]
 exact h.cell hj
theorem St.rd (h:St w S M m F) {r:Nat} (hr:r<16):Rd w (m.q r) (beCells (m.el r))∧(m.el r).length≤m.c r∧(m.q r=none→m.c r=0)∧(∀ a,m.q r=some a→a.block<w.heap.size∧a=⟨a.block,0,none⟩):=by
 obtain ⟨p2,c2,e,h1,h2,-,h3,h4⟩:=own_rd (h.row r hr)
 unfold Sm.v at e
 obtain ⟨e1,e2⟩:m.q r=p2∧m.c r=c2:=by cases e; exact ⟨rfl,rfl⟩
 rw [e1,e2]
 exact ⟨h1,h2,h3,fun a ha=>⟨(h4 a ha).2.1,(h4 a ha).2.2.2⟩⟩
theorem Sm.vec (m:Sm):vecL9 m.lg=fun r=>((m.el r).length:Int):=by funext r; simp [vecL9,Sm.lg]
theorem Sm.okB (h:LgOk m.lg) {r:Nat} (hr:r<16) {e:Be} (he:e ∈ m.el r):OkB e.x:=h.right r hr _ (List.mem_map.2 ⟨e,he,rfl⟩)
theorem Sm.okW (h:LgOk m.lg) {e:Be} (he:e ∈ m.we):OkB e.x:=h.wright _ (List.mem_map.2 ⟨e,he,rfl⟩)
theorem Sm.len (h:LgOk m.lg) {r:Nat} (hr:r<16):(m.el r).length≤512:=by
 have:=h.len hr
 simpa [Sm.lg] using this
theorem Sm.wlen (h:LgOk m.lg):m.we.length≤64:=by
 have:=h.wlen
 simpa [Sm.lg] using this
end
theorem plT:AgT 281 2:=⟨⟨_,Tryz.underlying281⟩,by kernel_rfl⟩
theorem next_any {S M:Nat} {m:Sm} {F:Nat→Prop} (r:Nat) (w:World) (h:St w S M m F) (hr:r<16) (hl:(m.el r).length≤512) :
  Calls Tryz.prog 199 #[.pointer (some ⟨S,0,none⟩),.int .i64 (r:Int)] w fun e w'=>e=.returned (.agg #[.int .i64 (r:Int),.int .i64 (((m.el r).length:Int)+1)])∧Below w.heap.size w w':=by
 have hb:=(Below.refl w.heap.size w).alloc (Nat.le_refl _) (.cells #[.int .i64 0,.int .i64 0] 281)
 have hc:=(h.kept hb).cell hr
 have HB:=Hi hb
 have hS:=h.slt
 clear h hb
 generalize (m.el r).length=n at *
 go_enter Tryz.func199,Tryz.ntmps199
 go_wp2
 exact bodyPost_ret (v:=.agg #[.int .i64 (r:Int),.int .i64 ((n:Int)+1)]) (by simp [results,Tryz.results199,go_sem]) rfl ⟨rfl,(Below.refl _ _).alloc (Nat.le_refl _) _⟩
theorem slT:Tryz.prog.underlying 215=some (.array 16 103):=by kernel_rfl
theorem slI:(Tryz.prog.info? 215).map (·.size)=some 16:=by kernel_rfl
theorem run_index_sl (w:World) (m:Sm) (i:Nat) (hi:i<16):(Instr.index 215 (.agg (slA m.v)) (.int .i64 (i:Int))).run Tryz.prog w=.ok (.slice (m.q i) (m.el i).length (m.c i)) w:=by
 have h:(0:Int)≤(i:Int)∧(i:Int)<16:=⟨by omega,by omega⟩
 have hp:(part 103 (slA m.v) i).run Tryz.prog w=.ok (.slice (m.q i) (m.el i).length (m.c i)) w:=by
  simp [part,isAgg,run_underlying Tryz.underlying103,slA_get m.v i hi,Sm.v]
 simp [Instr.index,run_underlying slT,asIntOf,h,hp]
 omega
theorem wpList_load_sl {w:World} {S M:Nat} {m:Sm} {F:Nat→Prop} (hs:St w S M m F) {ops:Array Oper} {rest:List Oper} {o:Oper} {a:Act} {Q:Exit→Act→World→Prop} (hgd:o.guard=none) (y:Operand) (ho:o.op=.load 215 y)
  (hx:a.eval y=.pointer (some ⟨S,0,none⟩)) (h:wpList Tryz.prog ops Q rest (a.put o.dst (.agg (slA m.v))) w):wpList Tryz.prog ops Q (o :: rest) a w :=
 wpList_load_mid hgd _ y ho S 0 hx (slL m.v) _ hs.range slT rfl (by rw [slL_length]; exact slI) h
theorem svec_any {S M:Nat} {m:Sm} {F:Nat→Prop} (w:World) (h:St w S M m F) (hl:∀ r,r<16→(m.el r).length≤512) :
  Calls Tryz.prog 221 #[.pointer (some ⟨S,0,none⟩)] w fun e w'=>e=.returned (.agg (vecA fun r=>((m.el r).length:Int)))∧Below w.heap.size w w':=by
 have HR:=Hi (VAt.new w (fun _=>0) 93)
 have hb:=(Below.refl w.heap.size w).alloc (Nat.le_refl _) (.cells (vecA fun _=>0) 93)
 have HB:=Hi hb
 have HS:=Hi (h.kept hb)
 have hS:=h.slt
 clear h hb
 go_enter Tryz.func221,Tryz.ntmps221
 go_wp2_with (refine wpList_load_sl HS.out rfl _ rfl rfl ?_)
 go_loopw [9] (fun i wr=>∃ k:Nat,k≤16∧i=.int .i64 (k:Int)∧VAt wr w.heap.size (upTo k (fun r=>((m.el r).length:Int)) (fun _=>0))∧Below w.heap.size w wr) (fun i _=>16 - (intOf i).toNat)
 case atStart=>exact ⟨0,by omega,rfl,by rw [upTo_zero]; exact HR.out,HB.out⟩
 case round =>
  clear HS HR HB
  obtain ⟨k,hk,rfl,hv,hbw⟩:=hrel
  have HV:=Hi hv
  have HBW:=Hi hbw
  clear hv hbw
  by_cases hlt:k<16
  ·have ix:=fun (W:World)=>run_index_sl W m k hlt
   have hc:=HV.out.cell k hlt
   have hf:=HV.out.free k
   have hln:=hl k hlt
   have HN:=Hi (show VAt (wr.setCell ⟨w.heap.size,k,none⟩ (.int .i64 ((m.el k).length:Int))) w.heap.size (upTo (k+1) (fun r=>((m.el r).length:Int)) (fun _=>0)) from by
    have:=HV.out.set k ((m.el k).length:Int)
    rw [upTo_step (fun r=>((m.el r).length:Int))] at this
    exact this)
   have HBN:=Hi (HBW.out.setCell (p:=⟨w.heap.size,k,none⟩) (Nat.le_refl _) (.int .i64 ((m.el k).length:Int)))
   generalize (m.el k).length=n at *
   go_wp2
   go_roundw
   case rel=>exact ⟨k+1,by omega,by go_num,HN.out,HBN.out⟩
   case measure=>simp [intOf]; omega
  ·obtain rfl:k=16:=by omega
   have HF:=Hi (HV.out.congr (c:=fun r=>((m.el r).length:Int)) (upTo_all _ _))
   go_wp2_with (first | (refine wpList_load_vec vtP rfl _ rfl _ rfl _ HF.out ?_) | (refine wpList_store_vec vtP rfl _ _ rfl _ rfl _ _ HF.out rfl ?_; intro w2 hv2 _ _ hb2))
   exact bodyPost_ret (results_vec vtP _ rfl hv2 rfl) rfl ⟨rfl,hb2 _ _ HBW.out (Nat.le_refl _)⟩
theorem full_any {S M:Nat} {m:Sm} {F:Nat→Prop} (w:World) (h:St w S M m F) (ho:LgOk m.lg) :
  Calls Tryz.prog 201 #[.pointer (some ⟨S,0,none⟩)] w fun e w'=>e=.returned (.bool (decide (512≤totL m.lg)))∧Below w.heap.size w w':=by
 have HV:=Hi (svec_any w h fun r hr=>Sm.len ho hr)
 have HT:=Hi (fun W=>total_any (fun r=>((m.el r).length:Int)) W)
 have HE:=Hi (show totalF (fun r=>((m.el r).length:Int))=totL m.lg from by rw [totL,Sm.vec])
 have HBD:=Hi (show 0≤totL m.lg∧totL m.lg≤512 from by rw [ho.totL]; exact ⟨(sumTo_bd ho.vr 16 (Nat.le_refl _)).1,ho.tot⟩)
 rw [HE.out] at HT
 clear h ho HE
 go_enter Tryz.func201,Tryz.ntmps201
 go_wp2_with fail
 refine HV.out.mono ?_
 rintro e w1 ⟨rfl,hb1⟩
 have HB1:=Hi hb1
 clear hb1
 go_wp2_with fail
 refine (HT.out _).mono ?_
 rintro e w2 ⟨rfl,hb2⟩
 have HB2:=Hi (HB1.out.trans (hb2.mono HB1.out.size))
 clear hb2
 go_wp2
 go_ret
 exact ⟨rfl,HB2.out⟩
open Go.RowKit
theorem wpList_load_be0 {w:World} {t:TypeId} (V:AgT t 4) {ops:Array Oper} {rest:List Oper} {o:Oper} {a:Act} {Q:Exit→Act→World→Prop} (hgd:o.guard=none) (y:Operand) (ho:o.op=.load t y)
  (b i:Nat) (hx:a.eval y=.pointer (some ⟨b,i * 4,none⟩)) (l:List Be) (hrd:Rd w (some ⟨b,0,none⟩) (beCells l)) (hi:i<l.length)
  (h:wpList Tryz.prog ops Q rest (a.put o.dst (.agg (btA (beOf l i).x (beOf l i).p (beOf l i).c))) w):wpList Tryz.prog ops Q (o :: rest) a w :=
 wpList_load_be V hgd y ho b 0 i (by rw [Nat.zero_add]; exact hx) l hrd hi h
theorem lastR_nil {m:Sm} {r:Nat} (h:(m.el r).length=0):lastR m.lg r=(0,0):=by
 have:m.el r=[]:=List.eq_nil_of_length_eq_zero h
 simp [lastR,Sm.lg,this]
theorem lastR_at {m:Sm} {r k:Nat} (h:(m.el r).length=k+1):lastR m.lg r=endT (beOf (m.el r) k).x:=by
 have h1:((m.el r).map (·.x)).getLast?=some (beOf (m.el r) k).x:=by
  rw [List.getLast?_eq_getElem?]
  simp [h,beOf]
 unfold lastR Sm.lg
 dsimp only
 rw [h1]
theorem end_any {S M:Nat} {m:Sm} {F:Nat→Prop} (r:Nat) (w:World) (h:St w S M m F) (ho:LgOk m.lg) (hr:r<16) :
  Calls Tryz.prog 223 #[.pointer (some ⟨S,0,none⟩),.int .i64 (r:Int)] w fun e w'=>e=.returned (.agg #[.int .i64 (lastR m.lg r).1,.int .i64 (lastR m.lg r).2])∧Below w.heap.size w w':=by
 have hb:=(Below.refl w.heap.size w).alloc (Nat.le_refl _) (.cells #[.int .i64 0,.int .i64 0] 35)
 have hc:=(h.kept hb).cell hr
 have HB:=Hi hb
 have HZ:=Hi (AgAt.new w #[.int .i64 0,.int .i64 0] 35)
 have hl:=Sm.len ho hr
 have hS:=h.slt
 by_cases h0:(m.el r).length=0
 ·have HR:=Hi (lastR_nil h0)
  rw [h0] at hc
  clear h hb ho hl h0
  go_enter Tryz.func223,Tryz.ntmps223
  go_wp2
  refine bodyPost_ret (v:=.agg #[.int .i64 0,.int .i64 0]) (by simp [results,Tryz.results223,go_sem]) rfl ?_
  rw [HR.out]
  exact ⟨rfl,HB.out⟩
 ·obtain ⟨k,hk⟩:∃ k,(m.el r).length=k+1:=⟨(m.el r).length - 1,by omega⟩
  have HR:=Hi (lastR_at hk)
  have hkl:k<(m.el r).length:=by omega
  have hmem:=beOf_mem hkl
  have HEN:=Hi (bend_any (beOf (m.el r) k).x (beOf (m.el r) k).p (beOf (m.el r) k).c _ (Sm.okB ho hr hmem).szs ((h.ops r hr _ hmem).bops.kept hb))
  obtain ⟨hrd,-,-,hq⟩:=(h.kept hb).rd hr
  obtain ⟨g,o,eg,hg⟩:=hrd.addr (by rw [beCells_length]; omega)
  have eo:=(hq _ eg).2
  simp only [Addr.mk.injEq,and_true,true_and] at eo
  subst eo
  rw [eg] at hc hrd
  rw [hk] at hc
  have HRD:=Hi hrd
  have HKL:=Hi hkl
  have e1:((k+1:Nat):Int) - 1=(k:Int):=by omega
  have t0:(((k+1:Nat):Int) == 0)=false:=by rw [beq_eq_false_iff_ne]; omega
  have hk2:k+1≤512:=by omega
  clear h hb ho hl h0 hk hkl hmem hrd hq eg
  go_enter Tryz.func223,Tryz.ntmps223
  go_wp2_with (refine wpList_load_be0 btP rfl _ rfl g k rfl _ HRD.out HKL.out ?_)
  refine HEN.out.mono ?_
  rintro e w1 ⟨rfl,hb1⟩
  have HZ1:=Hi (AgAt.kept HZ.out hb1)
  have HB1:=Hi (HB.out.trans (hb1.mono HB.out.size))
  clear hb1
  go_wp2_with (refine wpList_store_ag stT rfl _ _ rfl _ rfl _ HZ1.out rfl rfl rfl (stA_one _ _) ?_; intro wz hvz hko hsz hbn)
  refine bodyPost_ret (results_ag stT _ rfl rfl hvz rfl) rfl ?_
  rw [HR.out]
  exact ⟨rfl,hbn _ _ HB1.out (Nat.le_refl _)⟩
theorem run_field_st (a b:Int) (W:World):(Instr.field 35 (.agg #[.int .i64 a,.int .i64 b]) 0).run Tryz.prog W=.ok (.int .i64 a) W:=by kernel_rfl
theorem fits_any {S M:Nat} {m:Sm} {F:Nat→Prop} (x:Bat) (p:Option Addr) (c:Nat) (w:World) (h:St w S M m F) (ho:LgOk m.lg) (hx:rightT x=true) :
  Calls Tryz.prog 202 #[.pointer (some ⟨S,0,none⟩),.agg (btA x p c)] w fun e w'=>e=.returned (.bool (fitsL m.lg x))∧Below w.heap.size w w':=by
 obtain ⟨hr,hxr⟩:=right_r hx
 have HE:=Hi (show fitsL m.lg x=decide ((lastR m.lg x.r.toNat).1<x.t) from rfl)
 generalize x.r.toNat=r at *
 replace hxr:x.r=(r:Int):=hxr.symm
 have hb:=(Below.refl w.heap.size w).alloc (Nat.le_refl _) (.cells (btA x p c) 81)
 have HX:=Hi (AgAt.new w (btA x p c) 81)
 have HB:=Hi hb
 have HEND:=Hi (fun W (hW:Below (w.alloc (.cells (btA x p c) 81)).heap.size (w.alloc (.cells (btA x p c) 81)) W)=>end_any r W ((h.kept hb).kept hW) ho hr)
 have HFD:=Hi (fun W=>run_field_st (lastR m.lg r).1 (lastR m.lg r).2 W)
 rw [HE.out]
 generalize (lastR m.lg r).1=lt at *
 clear h hb ho hx HE
 go_enter Tryz.func202,Tryz.ntmps202
 go_upto_region 1 with fail
 generalize w.alloc (.cells (btA x p c) 81)=w1 at *
 refine wp_region_held_drew (S:=fun W=>BtAt W w.heap.size x p c∧Below w1.heap.size w1 W) (by kernel_rfl) ⟨HX.out,(Below.refl _ _).drew⟩ (fun hS=>?_)
 generalize w1.drew=wd at *
 refine tX 0 rfl hS ?_
 refine tK 1 (v:=?_) rfl ?_ hS ?_
 rotate_left
 ·intro W hSW
  obtain ⟨x0,x1,x2,x3⟩:=BtAt.cells hSW.1
  rw [hxr] at x0
  go_simp
  all_goals with_reducible rfl
 refine tX 2 rfl hS ?_
 refine tX 3 rfl hS ?_
 go_simp
 refine tK 4 (v:=?_) rfl ?_ hS ?_
 rotate_left
 ·intro W hSW
  obtain ⟨x0,x1,x2,x3⟩:=BtAt.cells hSW.1
  rw [hxr] at x0
  go_simp
  all_goals with_reducible rfl
 go_simp
 refine rD 5 rfl (fun K hK=>?_)
 go_simp
 go_wp2_with ((go_at_call 223; refine (HEND.out _ hS.2).mono ?_; rintro e wn ⟨rfl,hbn⟩))
 refine hK.out _ _ ⟨AgAt.kept hS.1 hbn,hS.2.trans (hbn.mono hS.2.size)⟩ (fun hS=>?_)
 clear hK K hbn
 refine tK 6 (v:=?_) rfl ?_ hS ?_
 rotate_left
 ·intro W hSW
  have hf:=HFD.out W
  go_simp
  all_goals with_reducible rfl
 refine tX 7 rfl hS ?_
 refine tX 8 rfl hS ?_
 go_simp
 refine wpAnyH_done (by kernel_rfl) ?_ _
 go_simp
 clear HEND HFD
 go_wp2
 go_ret
 exact ⟨rfl,HB.out.trans (hS.2.mono HB.out.size)⟩
def Sm.more (m:Sm) (r:Nat) (e:Be) (p:Option Addr) (c:Nat):Sm :=
 {m with q:=fun k=>if k=r then p else m.q k,c:=fun k=>if k=r then c else m.c k,el:=fun k=>if k=r then m.el k ++ [e] else m.el k }
theorem Sm.more_same (m:Sm) (r:Nat) (e:Be) (p:Option Addr) (c:Nat):(m.more r e p c).v r=.slice p ((m.el r).length+1) c∧(m.more r e p c).el r=m.el r ++ [e]:=by simp [Sm.more,Sm.v]
theorem Sm.more_other (m:Sm) {r k:Nat} (e:Be) (p:Option Addr) (c:Nat) (h:k≠r):(m.more r e p c).v k=m.v k∧(m.more r e p c).el k=m.el k:=by simp [Sm.more,Sm.v,h]
theorem Sm.more_v (m:Sm) (r:Nat) (e:Be) (p:Option Addr) (c:Nat):(m.more r e p c).v=fun k=>if k=r then .slice p ((m.el r).length+1) c else m.v k:=by
 funext k
 by_cases h:k=r
 ·subst h; rw [if_pos rfl]; exact (m.more_same k e p c).1
 ·rw [if_neg h]; exact (m.more_other e p c h).1
section
variable {w w':World} {S M:Nat} {m:Sm} {F:Nat→Prop}
theorem St.stay (h:St w S M m F) {r:Nat} (hr:r<16) (hg:w.grownBy w' (Value.slice (m.q r) (m.el r).length (m.c r)).ownBlock):w'.cell? ⟨S,r,none⟩=some (.slice (m.q r) (m.el r).length (m.c r))∧w'.frozen? ⟨S,r,none⟩=false:=by
 have hS:AgAt w' S (lsA m.v M):=h.st.block (hg.block S h.slt fun e=>(h.own r S hr e.symm).2.1 rfl)
 refine ⟨?_,AgAt.free hS r⟩
 rw [AgAt.cell hS r]
 unfold lsA
 rw [List.getElem?_toArray,stL_get _ _ r hr]
 rfl
theorem St.boxNe (h:St w S M m F) {r X:Nat} (hr:r<16) (hX:¬ F X):some X≠(Value.slice (m.q r) (m.el r).length (m.c r)).ownBlock:=fun e=>hX (h.own r X hr e.symm).1
theorem St.entered (h:St w S M m F) {r:Nat} (hr:r<16) {e:Be} {p':Option Addr} {c':Nat} (he:BopsF (Ro F S M m) w e.x e.p e.c)
  (ho:w'.ownsRow 0 81 4 (.slice p' ((m.el r).length+1) c') ((m.el r).length+1) (beCells (m.el r) ++ beL e)) (hg:w.grownBy w' (Value.slice (m.q r) (m.el r).length (m.c r)).ownBlock)
  (hw:∀ g,(Value.slice p' ((m.el r).length+1) c').ownBlock=some g→(Value.slice (m.q r) (m.el r).length (m.c r)).ownBlock=some g∨w.heap.size≤g) :
  St (w'.setCell ⟨S,r,none⟩ (.slice p' ((m.el r).length+1) c')) S M (m.more r e p' c') (fun k=>F k∨(w.heap.size≤k∧k<(w'.setCell ⟨S,r,none⟩ (.slice p' ((m.el r).length+1) c')).heap.size)):=by
 have t1:Turns (fun k=>(m.v r).ownBlock=some k) w w':=(Turns.of_grown hg)
 have t2:=set_turns S w' r (.slice p' ((m.el r).length+1) c')
 have tt:Turns (fun k=>(m.v r).ownBlock=some k∨k=S) w (w'.setCell ⟨S,r,none⟩ (.slice p' ((m.el r).length+1) c')):=(t1.mono fun _ _ h=>Or.inl h).trans (t2.mono fun _ _ h=>Or.inl (Or.inr h))
 have hnew:∀ g,((m.more r e p' c').v r).ownBlock=some g→(m.v r).ownBlock=some g∨w.heap.size≤g:=fun g hh=>by rw [(m.more_same r e p' c').1] at hh; exact hw g hh
 have hlt:∀ g,((m.more r e p' c').v r).ownBlock=some g→g<w'.heap.size:=fun g hh=>by rw [(m.more_same r e p' c').1] at hh; exact (World.ownsRow.lt ho g hh).2
 have hro:∀ k,k<w.heap.size→Ro F S M m k→Ro (fun k=>F k∨(w.heap.size≤k∧k<(w'.setCell ⟨S,r,none⟩ (.slice p' ((m.el r).length+1) c')).heap.size)) S M (m.more r e p' c') k:=fun k hk h1=>by
  refine ⟨Or.inl h1.1,h1.2.1,h1.2.2.1,fun i hi hh=>?_⟩
  by_cases hir:i=r
  ·subst hir
   rcases hnew k hh with h2 | h2
   ·exact h1.2.2.2 i hi h2
   ·omega
  ·rw [(m.more_other e p' c' hir).1] at hh
   exact h1.2.2.2 i hi hh
 have hops:∀ b:Be,BopsF (Ro F S M m) w b.x b.p b.c→BopsF (Ro (fun k=>F k∨(w.heap.size≤k∧k<(w'.setCell ⟨S,r,none⟩ (.slice p' ((m.el r).length+1) c')).heap.size)) S M (m.more r e p' c')) (w'.setCell ⟨S,r,none⟩ (.slice p' ((m.el r).length+1) c')) b.x b.p b.c:=fun b hb=>by
  have h1:=hb.mono (G:=fun k=>Ro F S M m k∧k<w.heap.size) fun k hk h1=>⟨h1,hk⟩
  have h2:=h1.turns tt fun k hk hh=>by
   rcases hh with hh | hh
   ·exact hk.1.2.2.2 r hr hh
   ·exact hk.1.2.1 hh
  exact h2.mono fun k _ hk=>hro k hk.2 hk.1
 have hS:AgAt w' S (lsA m.v M):=h.st.block (hg.block S h.slt fun e=>(h.own r S hr e.symm).2.1 rfl)
 refine ⟨?_,h.map.turns tt (fun hh=>?_),fun i hi=>?_,fun i hi b hb=>?_,fun b hb=>hops b (h.wops b hb),fun i j b hi hj h1 h2=>?_,fun i b hi hb=>?_,Or.inl h.fS,Or.inl h.fM,h.ne,fun k hk=>?_⟩
 ·have:=AgAt.put hS r (.slice p' ((m.el r).length+1) c')
  rw [stA_set _ _ _ _ hr,← m.more_v r e p' c'] at this
  exact this
 ·rcases hh with hh | hh
  ·exact (h.own r M hr hh).2.2 rfl
  ·exact h.ne hh.symm
 ·by_cases hir:i=r
  ·subst hir
   rw [(m.more_same i e p' c').1,(m.more_same i e p' c').2]
   simp only [List.length_append,List.length_cons,List.length_nil,beCells_append,beCells_sing]
   refine t2.own ho fun g hg' hh=>?_
   rcases hw g hg' with h2 | h2
   ·exact (h.own i g hi h2).2.1 hh
   ·have:=h.slt; omega
  ·rw [(m.more_other e p' c' hir).1,(m.more_other e p' c' hir).2]
   refine tt.own (h.row i hi) fun g hg' hh=>?_
   rcases hh with hh | hh
   ·exact hir (h.apart i r g hi hr hg' hh)
   ·exact (h.own i g hi hg').2.1 hh
 ·by_cases hir:i=r
  ·subst hir
   rw [(m.more_same i e p' c').2] at hb
   rcases List.mem_append.1 hb with hb | hb
   ·exact hops b (h.ops i hi b hb)
   ·obtain rfl:b=e:=by simpa using hb
    exact hops b he
  ·rw [(m.more_other e p' c' hir).2] at hb
   exact hops b (h.ops i hi b hb)
 ·by_cases hir:i=r <;> by_cases hjr:j=r
  ·rw [hir,hjr]
  ·subst hir
   rw [(m.more_other e p' c' hjr).1] at h2
   rcases hnew b h1 with h3 | h3
   ·exact absurd (h.apart i j b hi hj h3 h2).symm hjr
   ·have:=h.lt b (h.own j b hj h2).1; omega
  ·subst hjr
   rw [(m.more_other e p' c' hir).1] at h1
   rcases hnew b h2 with h3 | h3
   ·exact absurd (h.apart i j b hi hj h1 h3) hir
   ·have:=h.lt b (h.own i b hi h1).1; omega
  ·rw [(m.more_other e p' c' hir).1] at h1
   rw [(m.more_other e p' c' hjr).1] at h2
   exact h.apart i j b hi hj h1 h2
 ·by_cases hir:i=r
  ·subst hir
   rcases hnew b hb with h3 | h3
   ·exact ⟨Or.inl (h.own i b hi h3).1,(h.own i b hi h3).2⟩
   ·have h4:=hlt b hb
    have h5:=h.slt
    have h6:=h.map.lt
    refine ⟨Or.inr ⟨h3,by simpa using h4⟩,?_,?_⟩ <;> omega
  ·rw [(m.more_other e p' c' hir).1] at hb
   exact ⟨Or.inl (h.own i b hi hb).1,(h.own i b hi hb).2⟩
 ·rcases hk with hk | hk
  ·exact Nat.lt_of_lt_of_le (h.lt k hk) tt.size
  ·exact hk.2
end
def Entered (S M:Nat) (m:Sm) (F:Nat→Prop) (r:Nat) (b:Be) (w:World) (e:Ending) (w':World):Prop :=
 e=.returned (.tuple #[])∧∃ p' c',St w' S M (m.more r b p' c') (fun k=>F k∨(w.heap.size≤k∧k<w'.heap.size))∧Turns (fun k=>k=S∨(m.v r).ownBlock=some k) w w'
theorem enter_any {S M:Nat} {m:Sm} {F:Nat→Prop} (x:Bat) (p:Option Addr) (c:Nat) (w:World) (h:St w S M m F) (hl:(m.el x.r.toNat).length≤5000) (hx:rightT x=true) (hp:BopsF (Ro F S M m) w x p c) :
  Calls Tryz.prog 203 #[.pointer (some ⟨S,0,none⟩),.agg (btA x p c)] w (Entered S M m F x.r.toNat ⟨x,p,c⟩ w):=by
 obtain ⟨i0,hi,hz0,hz1,hz2⟩:=info_parts oinfo_bt
 obtain ⟨hr,hxr⟩:=right_r hx
 generalize x.r.toNat=r at *
 replace hxr:x.r=(r:Int):=hxr.symm
 have hb:=(Below.refl w.heap.size w).alloc (Nat.le_refl _) (.cells (btA x p c) 81)
 have hbd:=hb.trans (Below.drew (Below.refl (w.alloc (.cells (btA x p c) 81)).heap.size _) |>.mono hb.size)
 have HX:=Hi (AgAt.new w (btA x p c) 81)
 have T:=Hi (h.kept hbd)
 have HP:=Hi (hp.below hbd)
 have HT:=Hi (Turns.of_below (F:=fun k=>k=S∨(m.v r).ownBlock=some k) hbd)
 have HX9:=Hi (show ¬ F w.heap.size from fun hh=>by have:=h.lt _ hh; omega)
 have HSLT:=Hi h.slt
 clear h hb hbd hp hx
 go_enter Tryz.func203,Tryz.ntmps203
 go_upto_region 1 with fail
 refine wp_region_held_drew (S:=fun W=>BtAt W w.heap.size x p c) (by kernel_rfl) HX.out (fun hS=>?_)
 generalize (w.alloc (.cells (btA x p c) 81)).drew=wd at *
 refine tX 0 rfl hS ?_
 refine tX 1 rfl hS ?_
 refine tK 2 (v:=?_) rfl ?_ hS ?_
 rotate_left
 ·intro W hSW
  obtain ⟨x0,x1,x2,x3⟩:=BtAt.cells hSW
  rw [hxr] at x0
  go_simp
  all_goals with_reducible rfl
 refine tX 3 rfl hS ?_
 go_simp
 refine tX 4 rfl hS ?_
 refine tK 5 (v:=?_) rfl ?_ hS ?_
 rotate_left
 ·intro W hSW
  obtain ⟨x0,x1,x2,x3⟩:=BtAt.cells hSW
  rw [hxr] at x0
  go_simp
  all_goals with_reducible rfl
 refine tX 6 rfl hS ?_
 refine tX 7 rfl hS ?_
 go_simp
 refine tK 8 (v:=?_) rfl ?_ hS ?_
 rotate_left
 ·intro W hSW
  have hri:(r:Int)<16:=by omega
  go_simp
  all_goals with_reducible rfl
 go_simp
 refine tK 10 (v:=.agg (btA x p c)) rfl (fun W hSW=>exec_load_ag btP rfl rfl rfl hSW) hS ?_
 refine tX 13 rfl hS ?_
 refine tX 14 rfl hS ?_
 go_simp
 refine wpAnyH_ready (rs:=[9,11]) (by kernel_rfl) (by simp) ?_
 refine AllReadyH.cons rfl (fun K hK=>?_) (AllReadyH.cons rfl (fun K hK=>?_) AllReadyH.nil)
 ·have yc:=T.out.cell hr
  go_simp
  refine hK.out _ _ hS (fun hS=>?_)
  clear hK K yc
  refine rD 11 rfl (fun K hK=>?_)
  have hb3:=(Below.refl wd.heap.size wd).alloc (Nat.le_refl _) (.cells (btA x p c) 81)
  replace T:=Hi (T.out.kept hb3)
  have HP3:=Hi (HP.out.below hb3)
  have HT3:=Hi (HT.out.trans (Turns.of_below hb3))
  have HZ3:=Hi HT3.out.size
  have HRW:=Hi (rd_bt_one wd ⟨x,p,c⟩ 81)
  refine step_of (by kernel_rfl) ?_
  refine wp_build_bt _ rfl x p c rfl ?_
  refine hK.out _ _ (AgAt.kept hS hb3) (fun hS=>?_)
  clear hK K hb3
  generalize wd.alloc (.cells (btA x p c) 81)=w3 at *
  refine rD 12 rfl (fun K hK=>?_)
  refine step_append_kN (by kernel_rfl) _ _ 103 rfl 0 81 i0 _ 4 48 Tryz.underlying103 hi hz0 hz1 (by decide) hz2 (by decide) rfl (.slice (m.q r) (m.el r).length (m.c r)) (m.el r).length (beCells (m.el r)) rfl (T.out.row r hr) _ 1 1 (beL ⟨x,p,c⟩) rfl rfl HRW.out (fun h=>by cases h) (beL_one _) (by omega) (Nat.zero_le _) ?_
  intro p4 c4 w4 ho4 hg4 hw4
  have HG:=Hi (T.out.entered hr HP3.out ho4 hg4 hw4)
  have HY:=Hi (T.out.stay hr hg4)
  have hXne:=T.out.boxNe hr (HX9.out)
  have HT4:=Hi (HT3.out.trans ((Turns.of_grown hg4).mono fun k _ hk=>Or.inl (Or.inr hk)))
  refine hK.out _ _ (AgAt.block hS (hg4.block _ (AgAt.lt hS) hXne)) (fun hS=>?_)
  clear hK K ho4 hg4 hw4 hXne
  refine tK 15 (v:=?_) rfl ?_ hS ?_
  rotate_left
  ·intro W hSW
   have hri:(r:Int)<16:=by omega
   go_simp
   all_goals with_reducible rfl
  go_simp
  refine rD 16 rfl (fun K hK=>?_)
  have yc:=HY.out.1
  have yf:=HY.out.2
  go_simp
  refine hK.out _ _ (AgAt.block hS (heap_setCell_other _ _ _ _ (by simp; have:=HX9.out; have:=HSLT.out; omega))) (fun hS=>?_)
  clear hK K yc yf
  refine wpAnyH_done (by kernel_rfl) ?_ _
  go_simp
  have HT5:=Hi (HT4.out.trans ((set_turns S w4 r (.slice p4 ((m.el r).length+1) c4)).mono fun k _ hk=>Or.inl (Or.inl hk)))
  generalize w4.setCell ⟨S,r,none⟩ (.slice p4 ((m.el r).length+1) c4)=w5 at *
  have HE:=Hi (show Entered S M m F r ⟨x,p,c⟩ w (.returned (.tuple #[])) w5 from ⟨rfl,p4,c4,HG.out.more (fun k hk=>hk.imp id fun h=>⟨by have:=HZ3.out; omega,h.2⟩) (fun k hk=>by
   rcases hk with hk | hk
   ·exact HG.out.lt k (Or.inl hk)
   ·exact hk.2),HT5.out⟩)
  clear hS HG HT4 HT5
  go_wp2
  go_end0
  exact HE.out
 ·have hb3:=(Below.refl wd.heap.size wd).alloc (Nat.le_refl _) (.cells (btA x p c) 81)
  replace T:=Hi (T.out.kept hb3)
  have HP3:=Hi (HP.out.below hb3)
  have HT3:=Hi (HT.out.trans (Turns.of_below hb3))
  have HZ3:=Hi HT3.out.size
  have HRW:=Hi (rd_bt_one wd ⟨x,p,c⟩ 81)
  refine step_of (by kernel_rfl) ?_
  refine wp_build_bt _ rfl x p c rfl ?_
  refine hK.out _ _ (AgAt.kept hS hb3) (fun hS=>?_)
  clear hK K hb3
  generalize wd.alloc (.cells (btA x p c) 81)=w3 at *
  refine rD 9 rfl (fun K hK=>?_)
  have yc:=T.out.cell hr
  go_simp
  refine hK.out _ _ hS (fun hS=>?_)
  clear hK K yc
  refine rD 12 rfl (fun K hK=>?_)
  refine step_append_kN (by kernel_rfl) _ _ 103 rfl 0 81 i0 _ 4 48 Tryz.underlying103 hi hz0 hz1 (by decide) hz2 (by decide) rfl (.slice (m.q r) (m.el r).length (m.c r)) (m.el r).length (beCells (m.el r)) rfl (T.out.row r hr) _ 1 1 (beL ⟨x,p,c⟩) rfl rfl HRW.out (fun h=>by cases h) (beL_one _) (by omega) (Nat.zero_le _) ?_
  intro p4 c4 w4 ho4 hg4 hw4
  have HG:=Hi (T.out.entered hr HP3.out ho4 hg4 hw4)
  have HY:=Hi (T.out.stay hr hg4)
  have hXne:=T.out.boxNe hr (HX9.out)
  have HT4:=Hi (HT3.out.trans ((Turns.of_grown hg4).mono fun k _ hk=>Or.inl (Or.inr hk)))
  refine hK.out _ _ (AgAt.block hS (hg4.block _ (AgAt.lt hS) hXne)) (fun hS=>?_)
  clear hK K ho4 hg4 hw4 hXne
  refine tK 15 (v:=?_) rfl ?_ hS ?_
  rotate_left
  ·intro W hSW
   have hri:(r:Int)<16:=by omega
   go_simp
   all_goals with_reducible rfl
  go_simp
  refine rD 16 rfl (fun K hK=>?_)
  have yc:=HY.out.1
  have yf:=HY.out.2
  go_simp
  refine hK.out _ _ (AgAt.block hS (heap_setCell_other _ _ _ _ (by simp; have:=HX9.out; have:=HSLT.out; omega))) (fun hS=>?_)
  clear hK K yc yf
  refine wpAnyH_done (by kernel_rfl) ?_ _
  go_simp
  have HT5:=Hi (HT4.out.trans ((set_turns S w4 r (.slice p4 ((m.el r).length+1) c4)).mono fun k _ hk=>Or.inl (Or.inl hk)))
  generalize w4.setCell ⟨S,r,none⟩ (.slice p4 ((m.el r).length+1) c4)=w5 at *
  have HE:=Hi (show Entered S M m F r ⟨x,p,c⟩ w (.returned (.tuple #[])) w5 from ⟨rfl,p4,c4,HG.out.more (fun k hk=>hk.imp id fun h=>⟨by have:=HZ3.out; omega,h.2⟩) (fun k hk=>by
   rcases hk with hk | hk
   ·exact HG.out.lt k (Or.inl hk)
   ·exact hk.2),HT5.out⟩)
  clear hS HG HT4 HT5
  go_wp2
  go_end0
  exact HE.out
theorem mcell_of {w:World} {S M:Nat} {v:Nat→Value} (h:AgAt w S (lsA v M)):w.cell? ⟨S,16,none⟩=some (.map (some M)):=by
 rw [AgAt.cell h 16]
 unfold lsA
 rw [List.getElem?_toArray,stL_map]
section
variable {w w':World} {S M:Nat} {m:Sm} {F:Nat→Prop}
theorem St.newRo (h:St w S M m F) {B k:Nat} (hB:∀ k,F k→k<B) (hk:B≤k) (hk2:k<w.heap.size):Ro (fun k=>F k∨(B≤k∧k<w.heap.size)) S M m k:=by
 have h1:=hB S h.fS
 have h2:=hB M h.fM
 exact ⟨Or.inr ⟨hk,hk2⟩,by omega,by omega,fun r hr hh=>by have:=hB k (h.own r k hr hh).1; omega⟩
theorem St.waited {G:Nat→Prop} {e:Be} (h:St w S M m F) (hm:WMap w' M (m.we ++ [e])) (ht:Turns (fun k=>k=M) w w') (hz:w'.heap.size=w.heap.size) (he:BopsF (Ro G S M m) w e.x e.p e.c) (hG:∀ k,F k→G k) (hl:∀ k,G k→k<w.heap.size) :
  St w' S M { m with we:=m.we ++ [e] } G:=by
 have hro:∀ k,Ro F S M m k→Ro G S M { m with we:=m.we ++ [e] } k:=fun k hk=>⟨hG k hk.1,hk.2⟩
 have hops:∀ {K:Nat→Prop} (b:Be),(∀ k,K k→Ro G S M { m with we:=m.we ++ [e] } k)→BopsF K w b.x b.p b.c→BopsF (Ro G S M { m with we:=m.we ++ [e] }) w' b.x b.p b.c:=fun b hk hb =>
  (hb.mono fun k _ h1=>hk k h1).turns ht fun k h1 hh=>h1.2.2.1 hh
 refine ⟨h.st.block (ht.block S h.slt h.ne),hm,fun r hr=>ht.own (h.row r hr) fun g hg hh=>(h.own r g hr hg).2.2 hh,fun r hr b hb=>hops b hro (h.ops r hr b hb),fun b hb=>?_,h.apart,fun r b hr hb=>⟨hG _ (h.own r b hr hb).1,(h.own r b hr hb).2⟩,hG _ h.fS,hG _ h.fM,h.ne,fun k hk=>by rw [hz]; exact hl k hk⟩
 rcases List.mem_append.1 hb with hb | hb
 ·exact hops b hro (h.wops b hb)
 ·obtain rfl:b=e:=by simpa using hb
  exact hops b (fun k hk=>hk) he
end
def Waited (S M:Nat) (m:Sm) (F:Nat→Prop) (x:Bat) (w:World) (e:Ending) (w':World):Prop :=
 e=.returned (.int .i64 33)∧∃ p c,St w' S M { m with we:=m.we ++ [⟨x,p,c⟩] } (fun k=>F k∨(w.heap.size≤k∧k<w'.heap.size))∧Turns (fun k=>k=M) w w'
theorem wait_any {S M:Nat} {m:Sm} {F:Nat→Prop} (x:Bat) (p:Option Addr) (c:Nat) (w:World) (h:St w S M m F) (hl:m.we.length<64) (hx:OkB x) (hp:Bops w x p c) (hn:∀ a ∈ m.we,atPl x.r x.s a.x=false) :
  Calls Tryz.prog 200 #[.pointer (some ⟨S,0,none⟩),plA x.r x.s,.agg (btA x p c)] w (Waited S M m F x w):=by
 have h1:∀ (w:World) (o:Obj),Below w.heap.size w (w.alloc o):=fun w o=>(Below.refl _ _).alloc (Nat.le_refl _) _
 have hb:=(h1 w (.cells #[.int .i64 x.r,.int .i64 x.s] 281)).trans ((h1 (w.alloc (.cells #[.int .i64 x.r,.int .i64 x.s] 281)) (.cells (btA x p c) 81)).mono (by simp))
 have HX0:=Hi ((AgAt.new w #[.int .i64 x.r,.int .i64 x.s] 281).kept (h1 _ (.cells (btA x p c) 81)))
 have HX1:=Hi (show AgAt ((w.alloc (.cells #[.int .i64 x.r,.int .i64 x.s] 281)).alloc (.cells (btA x p c) 81)) (w.heap.size+1) (btA x p c) from by
  have:=AgAt.new (w.alloc (.cells #[.int .i64 x.r,.int .i64 x.s] 281)) (btA x p c) 81
  rw [show (w.alloc (.cells #[.int .i64 x.r,.int .i64 x.s] 281)).heap.size=w.heap.size+1 from by simp] at this
  exact this)
 have T:=Hi (h.kept hb)
 have HT:=Hi (Turns.of_below (F:=fun k=>k=M) hb)
 have HP:=Hi (hp.kept hb)
 have HZ0:=Hi (fun k hk=>h.lt k hk)
 have HML:=Hi (h.map.lt)
 have HWF:=Hi (plWf_of hx.right)
 have HNO:=Hi hn
 have y16:=T.out.mcell
 have hln:=T.out.map.len 3
 have hd0:decide (64≤(m.we.length:Int))=false:=decide_eq_false (by omega)
 clear h hb hp hn h1
 go_enter Tryz.func200,Tryz.ntmps200
 go_upto_region 3 with fail
 replace T:=Hi (T.out.kept (Below.drew (Below.refl _ _)))
 replace HP:=Hi (HP.out.kept (Below.drew (Below.refl _ _)))
 have HT:=Hi (HT.out.trans (Turns.of_below (Below.drew (Below.refl _ _))))
 refine wp_region_held_drew (S:=fun W=>AgAt W w.heap.size #[.int .i64 x.r,.int .i64 x.s]∧AgAt W (w.heap.size+1) (btA x p c)∧AgAt W S (lsA m.v M)) (by kernel_rfl) ⟨HX0.out,HX1.out,T.out.st⟩ (fun hS=>?_)
 clear y16 hln HX0 HX1
 generalize ((w.alloc (.cells #[.int .i64 x.r,.int .i64 x.s] 281)).alloc (.cells (btA x p c) 81)).drew=wd at *
 have HZD:=Hi HT.out.size
 have HCP:=Hi (bcopy_any x p c wd HP.out hx.cp.1 hx.cp.2)
 refine tX 0 rfl hS ?_
 refine tX 1 rfl hS ?_
 refine tX 2 rfl hS ?_
 refine tK 3 (v:=?_) rfl ?_ hS ?_
 rotate_left
 ·intro W hSW
  have y16:=mcell_of hSW.2.2
  go_simp
  all_goals with_reducible rfl
 go_simp
 refine tK 4 (v:=.agg #[.int .i64 x.r,.int .i64 x.s]) rfl (fun W hSW=>exec_load_ag plT rfl rfl rfl hSW.1) hS ?_
 go_simp
 refine tK 5 (v:=.agg (btA x p c)) rfl (fun W hSW=>exec_load_ag btP rfl rfl rfl hSW.2.1) hS ?_
 go_simp
 refine rD 6 rfl (fun K hK=>?_)
 go_simp
 go_wp2_with ((go_at_call 142; refine (HCP.out).mono ?_; rintro e w5 ⟨p5,c5,rfl,hp5,hb5⟩))
 replace T:=Hi (T.out.kept hb5)
 have HP5:=Hi hp5
 have HT5:=Hi (HT.out.trans (Turns.of_below hb5))
 have HZ5:=Hi hb5.size
 refine hK.out _ _ ⟨AgAt.kept hS.1 hb5,AgAt.kept hS.2.1 hb5,AgAt.kept hS.2.2 hb5⟩ (fun hS=>?_)
 clear hK K hb5 hp5
 refine rD 7 rfl (fun K hK=>?_)
 obtain ⟨w6,hrun,hm6,ht6,hz6⟩:=T.out.map.upd ⟨x,p5,c5⟩ HWF.out HNO.out
 dsimp only at hrun
 have HG:=Hi (T.out.waited (e:=⟨x,p5,c5⟩) hm6 ht6 hz6 ((BopsF.ofN HP5.out).mono (G:=Ro (fun k=>F k∨(w.heap.size≤k∧k<w5.heap.size)) S M m) fun k hk h1=>T.out.newRo HZ0.out (Nat.le_trans HZD.out h1) hk) (fun k h=>Or.inl h) fun k hk=>hk.elim (fun h=>T.out.lt k h) fun h=>h.2)
 have HW6:=Hi hz6
 have HT6:=Hi (HT5.out.trans (ht6.mono fun k _ hk=>Or.inl hk))
 have HN6:=Hi (show S≠M∧w.heap.size≠M∧w.heap.size+1≠M from by have h1:=T.out.ne; have h2:=HML.out; refine ⟨h1,?_,?_⟩ <;> omega)
 refine step_of (by kernel_rfl) ?_
 refine wp_mapUpdate _ _ _ _ rfl (.map (some M)) (plA x.r x.s) (.agg (btA x p5 c5)) rfl rfl rfl w6 hrun ?_
 refine hK.out _ _ ⟨AgAt.block hS.1 (ht6.block _ (AgAt.lt hS.1) HN6.out.2.1),AgAt.block hS.2.1 (ht6.block _ (AgAt.lt hS.2.1) HN6.out.2.2),AgAt.block hS.2.2 (ht6.block _ (AgAt.lt hS.2.2) HN6.out.1)⟩ (fun hS=>?_)
 clear hK K hrun hm6 ht6 hz6 HN6
 refine wpAnyH_done (by kernel_rfl) ?_ _
 go_simp
 have HE:=Hi (show Waited S M m F x w (.returned (.int .i64 33)) w6 from ⟨rfl,p5,c5,by rw [HW6.out]; exact HG.out,HT6.out⟩)
 clear hS HG HT6
 go_wp2
 go_ret
 exact HE.out
open Go.RowKit
theorem followL_full {g:Nat} {L:Lg} {r:Nat} (h:512≤totL L):followL (g+1) L r=L:=by rw [followL,if_pos h]
theorem followL_none {g:Nat} {L:Lg} {r:Nat} (h0:¬ 512≤totL L) (h:L.wait.find? (atPl (r:Int) (nextS L r))=none):followL (g+1) L r=L:=by rw [followL,if_neg h0,h]
theorem followL_some {g:Nat} {L:Lg} {r:Nat} {x:Bat} (h0:¬ 512≤totL L) (h:L.wait.find? (atPl (r:Int) (nextS L r))=some x) :
  followL (g+1) L r=if fitsL (dropL L (r:Int) (nextS L r)) x=true then followL g (enterL (dropL L (r:Int) (nextS L r)) x) r else dropL L (r:Int) (nextS L r):=by rw [followL,if_neg h0,h]
def Sm.cut (m:Sm) (r s:Int):Sm:={ m with we:=m.we.filter fun a=>!atPl r s a.x }
theorem Sm.cut_lg (m:Sm) (r s:Int):(m.cut r s).lg=dropL m.lg r s:=by
 unfold Sm.cut Sm.lg dropL
 dsimp only
 rw [List.filter_map]
 rfl
theorem Sm.more_lg (m:Sm) (r:Nat) (e:Be) (p:Option Addr) (c:Nat) (h:e.x.r.toNat=r):(m.more r e p c).lg=enterL m.lg e.x:=by
 unfold Sm.lg enterL Sm.more
 dsimp only
 congr 1
 funext k
 rw [h]
 by_cases hk:k=r
 ·simp [hk]
 ·simp [hk]
theorem Sm.find_no {m:Sm} {r s:Int} (h:m.lg.wait.find? (atPl r s)=none):∀ b ∈ m.we,atPl r s b.x=false:=fun b hb=>by
 have:=List.find?_eq_none.1 h b.x (List.mem_map.2 ⟨b,hb,rfl⟩)
 simpa using this
theorem Sm.find_yes {m:Sm} {r s:Int} {x:Bat} (h:m.lg.wait.find? (atPl r s)=some x):∃ b ∈ m.we,b.x=x∧atPl r s b.x=true:=by
 obtain ⟨b,hb,e⟩:=List.mem_map.1 (List.mem_of_find?_eq_some h)
 exact ⟨b,hb,e,by rw [e]; exact List.find?_some h⟩
theorem St.cut {w w':World} {S M:Nat} {m:Sm} {G:Nat→Prop} {r s:Int} (h:St w S M m G) (hm:WMap w' M (m.we.filter fun a=>!atPl r s a.x)) (ht:Turns (fun k=>k=M) w w') (hz:w'.heap.size=w.heap.size):St w' S M (m.cut r s) G :=
 ⟨h.st.block (ht.block S h.slt h.ne),hm,fun r hr=>ht.own (h.row r hr) fun g hg hh=>(h.own r g hr hg).2.2 hh,fun r hr b hb=>(h.ops r hr b hb).turns ht fun _ h1 hh=>h1.2.2.1 hh,
  fun b hb=>(h.wops b (List.mem_filter.1 hb).1).turns ht fun _ h1 hh=>h1.2.2.1 hh,h.apart,h.own,h.fS,h.fM,h.ne,fun k hk=>by rw [hz]; exact h.lt k hk⟩
theorem i64wf0 {n:Int} (h0:0≤n) (h1:n≤9223372036854775807):(Lit.int .i64 n).wf=true:=by
 have e1:IntKind.i64.min = -9223372036854775808:=by decide
 have e2:IntKind.i64.max=9223372036854775807:=by decide
 simp [Lit.wf,e1,e2]
 omega
structure FoI (S M r:Nat) (F:Nat→Prop) (w:World) (L1:Lg) (g:Nat) (m:Sm) (wr:World):Prop where
 st:St wr S M m (fun k=>F k∨(w.heap.size≤k∧k<wr.heap.size))
 ok:LgOk m.lg
 eq:followL g m.lg r=L1
 fuel:m.we.length<g
 turns:Turns F w wr
structure FoD (S M r:Nat) (F:Nat→Prop) (w:World) (L1:Lg) (g:Nat) (m:Sm) (wr:World):Prop where
 st:St wr S M m (fun k=>F k∨(w.heap.size≤k∧k<wr.heap.size))
 ok:LgOk m.lg
 fuel:m.we.length<g
 turns:Turns F w wr
def Followed (S M:Nat) (F:Nat→Prop) (L1:Lg) (w:World) (e:Ending) (w':World):Prop :=
 e=.returned (.tuple #[])∧∃ m,St w' S M m (fun k=>F k∨(w.heap.size≤k∧k<w'.heap.size))∧m.lg=L1∧LgOk m.lg∧Turns F w w'
section
variable {S M r:Nat} {F:Nat→Prop} {w wr w':World} {L1:Lg} {g:Nat} {m:Sm}
theorem st_kept (h:St wr S M m (fun k=>F k∨(w.heap.size≤k∧k<wr.heap.size))) (hb:Below wr.heap.size wr w'):St w' S M m (fun k=>F k∨(w.heap.size≤k∧k<w'.heap.size)) :=
 (h.kept hb).more (fun k hk=>hk.imp id fun h=>⟨h.1,Nat.lt_of_lt_of_le h.2 hb.size⟩) fun k hk=>by
  rcases hk with hk | hk
  ·exact Nat.lt_of_lt_of_le (h.lt k (Or.inl hk)) hb.size
  ·exact hk.2
theorem FoI.kept (h:FoI S M r F w L1 g m wr) (hb:Below wr.heap.size wr w'):FoI S M r F w L1 g m w':=⟨st_kept h.st hb,h.ok,h.eq,h.fuel,h.turns.trans (Turns.of_below hb)⟩
theorem FoD.kept (h:FoD S M r F w L1 g m wr) (hb:Below wr.heap.size wr w'):FoD S M r F w L1 g m w':=⟨st_kept h.st hb,h.ok,h.fuel,h.turns.trans (Turns.of_below hb)⟩
theorem FoI.stop (h:FoI S M r F w L1 g m wr) (he:followL g m.lg r=m.lg):Followed S M F L1 w (.returned (.tuple #[])) wr:=⟨rfl,m,h.st,he.symm.trans h.eq,h.ok,h.turns⟩
theorem FoI.dropped {s:Int} {b:Be} (h:FoI S M r F w L1 (g+1) m wr) (hb:b ∈ m.we) (hat:atPl (r:Int) s b.x=true) (hm:WMap w' M (m.we.filter fun a=>!atPl (r:Int) s a.x)) (ht:Turns (fun k=>k=M) wr w') (hz:w'.heap.size=wr.heap.size) :
  FoD S M r F w L1 g (m.cut (r:Int) s) w':=by
 refine ⟨?_,?_,?_,h.turns.trans (ht.mono fun k _ hk=>?_)⟩
 ·rw [hz]
  exact h.st.cut hm ht hz
 ·rw [m.cut_lg]
  exact h.ok.drop _ _
 ·have h1:=h.fuel
  have h2:(m.we.filter fun a=>!atPl (r:Int) s a.x).length<m.we.length:=by
   rw [List.length_filter_lt_length_iff_exists]
   exact ⟨b,hb,by simp [hat]⟩
  show (m.we.filter fun a=>!atPl (r:Int) s a.x).length<g
  omega
 ·subst hk
  exact (h.st.fM).imp id fun h=>h.1
theorem FoD.stopFit {x:Bat} (h:FoD S M r F w L1 g m wr) (hL:L1=if fitsL m.lg x=true then followL g (enterL m.lg x) r else m.lg) (hf:fitsL m.lg x=false):Followed S M F L1 w (.returned (.tuple #[])) wr :=
 ⟨rfl,m,h.st,by rw [hL,if_neg (by rw [hf]; simp)],h.ok,h.turns⟩
theorem FoD.step {x:Bat} {p:Option Addr} {c:Nat} {e:Ending} {w2:World} (h:FoD S M r F w L1 g m wr) (hL:L1=if fitsL m.lg x=true then followL g (enterL m.lg x) r else m.lg) (hf:fitsL m.lg x=true) (hx:OkB x) (ht:¬ 512≤totL m.lg)
  (he:Entered S M m (fun k=>F k∨(w.heap.size≤k∧k<wr.heap.size)) x.r.toNat ⟨x,p,c⟩ wr e w2):∃ m3,FoI S M r F w L1 g m3 w2:=by
 obtain ⟨-,p',c',hs,htu⟩:=he
 have hsz:=htu.size
 have hw:=h.turns.size
 have hlg:=m.more_lg x.r.toNat ⟨x,p,c⟩ p' c' rfl
 refine ⟨_,hs.more (fun k hk=>?_) (fun k hk=>?_),?_,?_,h.fuel,h.turns.trans (htu.mono fun k _ hk=>?_)⟩
 ·rcases hk with (hk | hk) | hk
  ·exact Or.inl hk
  ·exact Or.inr ⟨hk.1,by omega⟩
  ·exact Or.inr ⟨by omega,hk.2⟩
 ·rcases hk with hk | hk
  ·exact hs.lt k (Or.inl (Or.inl hk))
  ·exact hk.2
 ·rw [hlg]; exact h.ok.enter hx ht
 ·rw [hlg,hL,if_pos hf]
 ·rcases hk with rfl | hk
  ·exact h.st.fS.imp id fun h=>h.1
  ·exact (h.st.own _ k (right_r hx.right).1 hk).1.imp id fun h=>h.1
end
theorem follow_any {S M:Nat} {m:Sm} {F:Nat→Prop} (r:Nat) (w:World) (n0:Nat) (h:St w S M m F) (ho:LgOk m.lg) (hr:r<16) (hn:m.we.length<n0) :
  Calls Tryz.prog 204 #[.pointer (some ⟨S,0,none⟩),.int .i64 (r:Int)] w (Followed S M F (followL n0 m.lg r) w):=by
 have T0:=Hi (show FoI S M r F w (followL n0 m.lg r) n0 m w from ⟨h.more (fun _ hk=>Or.inl hk) (fun k hk=>hk.elim (fun h1=>h.lt k h1) fun h1=>h1.2),ho,rfl,hn,Turns.refl _ _⟩)
 generalize followL n0 m.lg r=L1 at *
 clear h ho hn
 go_enter Tryz.func204,Tryz.ntmps204
 go_wp2_with fail
 go_loopg [6] n0 (fun g (_:Value) wr=>∃ m1,FoI S M r F w L1 g m1 wr)
 case atStart=>exact ⟨_,T0.out⟩
 case round =>
  clear T0
  obtain ⟨m1,hI⟩:=hrel
  obtain ⟨g1,rfl⟩:∃ g1,gk=g1+1:=⟨gk - 1,by have:=hI.fuel; omega⟩
  have T:=Hi hI
  have HFU:=Hi (full_any wr hI.st hI.ok)
  clear hI
  by_cases hfull:512≤totL m1.lg
  ·have HE:=Hi (fun W (hW:Below wr.heap.size wr W)=>(T.out.kept hW).stop (followL_full hfull))
   rw [decide_eq_true hfull] at HFU
   clear hfull T
   go_wp2_with fail
   refine HFU.out.mono ?_
   rintro e w1 ⟨rfl,hb1⟩
   have HE1:=Hi (HE.out _ hb1)
   clear hb1
   go_wp2
   go_end0
   exact HE1.out
  ·rw [decide_eq_false hfull] at HFU
   have HFL:=Hi hfull
   clear hfull
   have HNX:=Hi (fun W (hW:Below wr.heap.size wr W)=>next_any r W (T.out.kept hW).st hr (Sm.len T.out.ok hr))
   have HNS:=Hi (show nextS m1.lg r=((m1.el r).length:Int)+1 from by simp [nextS,Sm.lg])
   have HLN:=Hi (Sm.len T.out.ok hr)
   have HWR:=Hi (i64wf0 (n:=(r:Int)) (by omega) (by omega))
   have HWS:=Hi (i64wf0 (n:=((m1.el r).length:Int)+1) (by have:=HLN.out; omega) (by have:=HLN.out; omega))
   go_wp2_with fail
   refine HFU.out.mono ?_
   rintro e w1 ⟨rfl,hb1⟩
   have HB1:=Hi hb1
   replace T:=Hi (T.out.kept hb1)
   clear hb1 HFU
   go_wp2_with fail
   refine (HNX.out _ HB1.out).mono ?_
   rintro e w2 ⟨rfl,hb2⟩
   have hb3:=(Below.refl w2.heap.size w2).alloc (Nat.le_refl _) (.cells #[.int .i64 (r:Int),.int .i64 (((m1.el r).length:Int)+1)] 281)
   have HML:=Hi (show M<w2.heap.size from (T.out.kept hb2).st.map.lt)
   replace T:=Hi ((T.out.kept hb2).kept hb3)
   have HPL:=Hi (AgAt.new w2 #[.int .i64 (r:Int),.int .i64 (((m1.el r).length:Int)+1)] 281)
   clear hb2 hb3 HNX HB1
   have HW3:=Hi (show w2.heap.size<(w2.alloc (.cells #[.int .i64 (r:Int),.int .i64 (((m1.el r).length:Int)+1)] 281)).heap.size from by simp)
   cases hfd:m1.lg.wait.find? (atPl (r:Int) (nextS m1.lg r)) with
   | none =>
    have HNO:=Hi (Sm.find_no (m:=m1) (r:=(r:Int)) (s:=((m1.el r).length:Int)+1) (by rw [← HNS.out]; exact hfd))
    have HSTOP:=Hi (fun W (hW:Below (w2.alloc (.cells #[.int .i64 (r:Int),.int .i64 (((m1.el r).length:Int)+1)] 281)).heap.size (w2.alloc (.cells #[.int .i64 (r:Int),.int .i64 (((m1.el r).length:Int)+1)] 281)) W)=>(T.out.kept hW).stop (followL_none (by have:=HFL.out; omega) hfd))
    clear hfd
    go_upto_region 2 with fail
    generalize w2.alloc (.cells #[.int .i64 (r:Int),.int .i64 (((m1.el r).length:Int)+1)] 281)=w3 at *
    refine wp_region_held_drew (S:=fun W=>Below w3.heap.size w3 W) (by kernel_rfl) (Below.refl _ _).drew (fun hS=>?_)
    generalize w3.drew=wd at *
    refine tX 0 rfl hS ?_
    refine tX 1 rfl hS ?_
    refine tX 2 rfl hS ?_
    refine tK 3 (v:=?_) rfl ?_ hS ?_
    rotate_left
    ·intro W hSW
     have y16:=((T.out.st.kept hSW)).mcell
     go_simp
     all_goals with_reducible rfl
    go_simp
    refine tK 4 (v:=.agg #[.int .i64 (r:Int),.int .i64 (((m1.el r).length:Int)+1)]) rfl (fun W hSW=>exec_load_ag plT rfl rfl rfl (AgAt.kept HPL.out hSW)) hS ?_
    go_simp
    refine tK 5 (v:=.tuple #[.agg (btA Bat.zero none 0),.bool false]) rfl (fun W hSW=>exec_lookup rfl rfl rfl ((T.out.st.kept hSW).map.look_no _ _ HWR.out HWS.out HNO.out)) hS ?_
    refine tX 6 rfl hS ?_
    refine tX 7 rfl hS ?_
    refine tX 8 rfl hS ?_
    go_simp
    refine rD 9 rfl (fun K hK=>?_)
    have HS0:=Hi hS
    go_simp
    have hba:=(Below.refl wd.heap.size wd).alloc (Nat.le_refl _) (.cells #[.int .i64 0,.int .i64 0,.int .i64 0,.slice none 0 0] 81)
    refine hK.out _ _ (hS.trans (hba.mono hS.size)) (fun hS=>?_)
    clear hK K hba
    refine rD 10 rfl (fun K hK=>?_)
    refine step_of (by kernel_rfl) ?_
    refine wp_store_newag btP _ _ rfl rfl _ (A:=btA Bat.zero none 0) rfl rfl rfl (btA_one _ _ _) ?_
    intro w5 hv5 hb5
    have HV5:=Hi hv5
    have HB5:=Hi hb5
    refine hK.out _ _ (HS0.out.trans (hb5.mono HS0.out.size)) (fun hS=>?_)
    clear hK K hv5 hb5
    refine tX 11 rfl hS ?_
    go_simp
    refine wpAnyH_done (by kernel_rfl) ?_ _
    go_simp
    have HE:=Hi (HSTOP.out _ hS)
    clear hS
    go_wp2
    go_end0
    exact HE.out
   | some x =>
    obtain ⟨eb,hem,rfl,hat⟩:=Sm.find_yes (m:=m1) (r:=(r:Int)) (s:=((m1.el r).length:Int)+1) (by rw [← HNS.out]; exact hfd)
    have HEM:=Hi hem
    have HAT:=Hi hat
    have HOK:=Hi (Sm.okW T.out.ok hem)
    have HXR:=Hi (show eb.x.r.toNat=r from by rw [(atPl_iff.1 hat).1]; simp)
    have HLK:=Hi (show L1=if fitsL (m1.cut (r:Int) (((m1.el r).length:Int)+1)).lg eb.x=true then followL g1 (enterL (m1.cut (r:Int) (((m1.el r).length:Int)+1)).lg eb.x) r else (m1.cut (r:Int) (((m1.el r).length:Int)+1)).lg from by
     rw [← T.out.eq,followL_some (by have:=HFL.out; omega) hfd,HNS.out,m1.cut_lg])
    have HTO:=Hi (show totL (m1.cut (r:Int) (((m1.el r).length:Int)+1)).lg<512 from by have h1:=HFL.out; have h2:totL (m1.cut (r:Int) (((m1.el r).length:Int)+1)).lg=totL m1.lg:=rfl; omega)
    clear hfd hem hat
    go_upto_region 2 with fail
    generalize w2.alloc (.cells #[.int .i64 (r:Int),.int .i64 (((m1.el r).length:Int)+1)] 281)=w3 at *
    refine wp_region_held_drew (S:=fun W=>Below w3.heap.size w3 W) (by kernel_rfl) (Below.refl _ _).drew (fun hS=>?_)
    have HWD:=Hi (show w2.heap.size<w3.drew.heap.size from HW3.out)
    generalize w3.drew=wd at *
    refine tX 0 rfl hS ?_
    refine tX 1 rfl hS ?_
    refine tX 2 rfl hS ?_
    refine tK 3 (v:=?_) rfl ?_ hS ?_
    rotate_left
    ·intro W hSW
     have y16:=((T.out.st.kept hSW)).mcell
     go_simp
     all_goals with_reducible rfl
    go_simp
    refine tK 4 (v:=.agg #[.int .i64 (r:Int),.int .i64 (((m1.el r).length:Int)+1)]) rfl (fun W hSW=>exec_load_ag plT rfl rfl rfl (AgAt.kept HPL.out hSW)) hS ?_
    go_simp
    refine tK 5 (v:=.tuple #[.agg (btA eb.x eb.p eb.c),.bool true]) rfl (fun W hSW=>exec_lookup rfl rfl rfl ((T.out.st.kept hSW).map.look_yes HEM.out _ _ HAT.out)) hS ?_
    refine tX 6 rfl hS ?_
    refine tX 7 rfl hS ?_
    refine tX 8 rfl hS ?_
    go_simp
    refine rD 9 rfl (fun K hK=>?_)
    have HS0:=Hi hS
    go_simp
    have hba:=(Below.refl wd.heap.size wd).alloc (Nat.le_refl _) (.cells #[.int .i64 0,.int .i64 0,.int .i64 0,.slice none 0 0] 81)
    refine hK.out _ _ (hS.trans (hba.mono hS.size)) (fun hS=>?_)
    clear hK K hba
    refine rD 10 rfl (fun K hK=>?_)
    refine step_of (by kernel_rfl) ?_
    refine wp_store_newag btP _ _ rfl rfl _ (A:=btA eb.x eb.p eb.c) rfl rfl rfl (btA_one _ _ _) ?_
    intro w5 hv5 hb5
    have HV5:=Hi hv5
    have HB5:=Hi hb5
    refine hK.out _ _ (HS0.out.trans (hb5.mono HS0.out.size)) (fun hS=>?_)
    clear hK K hv5 hb5
    refine tX 11 rfl hS ?_
    go_simp
    refine wpAnyH_done (by kernel_rfl) ?_ _
    go_simp
    replace T:=Hi (T.out.kept hS)
    have HPL5:=Hi (AgAt.kept HPL.out hS)
    have HYB:=HV5
    clear hS
    go_upto_region 4 with fail
    replace T:=Hi (T.out.kept (Below.drew (Below.refl _ _)))
    refine wp_region_held_drew (S:=fun W=>AgAt W w2.heap.size #[.int .i64 (r:Int),.int .i64 (((m1.el r).length:Int)+1)]∧AgAt W S (lsA m1.v M)) (by kernel_rfl) ⟨HPL5.out,T.out.st.st⟩ (fun hS=>?_)
    have HYB:=Hi (show AgAt w5.drew wd.heap.size (btA eb.x eb.p eb.c) from HYB.out)
    generalize w5.drew=w5 at *
    refine tX 0 rfl hS ?_
    refine tX 1 rfl hS ?_
    refine tX 2 rfl hS ?_
    refine tK 3 (v:=?_) rfl ?_ hS ?_
    rotate_left
    ·intro W hSW
     have y16:=mcell_of hSW.2
     go_simp
     all_goals with_reducible rfl
    go_simp
    refine tK 4 (v:=.agg #[.int .i64 (r:Int),.int .i64 (((m1.el r).length:Int)+1)]) rfl (fun W hSW=>exec_load_ag plT rfl rfl rfl hSW.1) hS ?_
    go_simp
    refine rD 5 rfl (fun K hK=>?_)
    obtain ⟨w6,hrun,hm6,ht6,hz6⟩:=T.out.st.map.del HEM.out (r:Int) (((m1.el r).length:Int)+1) HAT.out
    have HG:=Hi (T.out.dropped HEM.out HAT.out hm6 ht6 hz6)
    have HN6:=Hi (show S≠M∧w2.heap.size≠M∧wd.heap.size≠M from ⟨T.out.st.ne,by have:=HML.out; omega,by have:=HML.out; have:=HWD.out; omega⟩)
    have HY6:=Hi (AgAt.block HYB.out (ht6.block _ (AgAt.lt HYB.out) HN6.out.2.2))
    have HBT:=Hi ((T.out.st.wops _ HEM.out).turns ht6 fun k hk hh=>hk.2.2.1 hh)
    have HZ6:=Hi hz6
    refine step_of (by kernel_rfl) ?_
    refine wp_delete _ _ 216 281 rfl (.map (some M)) (plA (r:Int) (((m1.el r).length:Int)+1)) rfl rfl w6 (hrun _) ?_
    refine hK.out _ _ ⟨AgAt.block hS.1 (ht6.block _ (AgAt.lt hS.1) HN6.out.2.1),AgAt.block hS.2 (ht6.block _ (AgAt.lt hS.2) HN6.out.1)⟩ (fun hS=>?_)
    clear hK K hrun hm6 ht6 hz6 HN6 T
    refine wpAnyH_done (by kernel_rfl) ?_ _
    go_simp
    clear hS
    have HFI:=Hi (fits_any eb.x eb.p eb.c w6 HG.out.st HG.out.ok HOK.out.right)
    cases hfit:fitsL (m1.cut (r:Int) (((m1.el r).length:Int)+1)).lg eb.x with
    | false =>
     rw [hfit] at HFI
     have HE:=Hi (fun W (hW:Below w6.heap.size w6 W)=>(HG.out.kept hW).stopFit HLK.out hfit)
     clear hfit
     go_wp2_with (refine wpList_load_ag btP (by kernel_rfl) _ rfl _ rfl (A:=btA eb.x eb.p eb.c) rfl HY6.out ?_)
     refine HFI.out.mono ?_
     rintro e w7 ⟨rfl,hb7⟩
     have HE7:=Hi (HE.out _ hb7)
     clear hb7
     go_wp2
     go_end0
     exact HE7.out
    | true =>
     rw [hfit] at HFI
     have HEN:=Hi (fun W (hW:Below w6.heap.size w6 W)=>enter_any eb.x eb.p eb.c W (HG.out.kept hW).st (Nat.le_trans (Sm.len HG.out.ok (by rw [HXR.out]; exact hr)) (by decide)) HOK.out.right ((HBT.out.below hW).mono fun k _ hk=>⟨hk.1.imp id fun h=>⟨h.1,by have:=h.2; have:=hW.size; have:=HZ6.out; omega⟩,hk.2⟩))
     have HSTEP:=Hi (fun W (hW:Below w6.heap.size w6 W) e W2 h2=>(HG.out.kept hW).step HLK.out hfit HOK.out (by have:=HTO.out; omega) (p:=eb.p) (c:=eb.c) (e:=e) (w2:=W2) h2)
     clear hfit
     go_wp2_with (refine wpList_load_ag btP (by kernel_rfl) _ rfl _ rfl (A:=btA eb.x eb.p eb.c) rfl HY6.out ?_)
     refine HFI.out.mono ?_
     rintro e w7 ⟨rfl,hb7⟩
     have HY7:=Hi (AgAt.kept HY6.out hb7)
     have HB7:=Hi hb7
     clear hb7
     go_wp2_with (refine wpList_load_ag btP (by kernel_rfl) _ rfl _ rfl (A:=btA eb.x eb.p eb.c) rfl HY7.out ?_)
     refine (HEN.out _ HB7.out).mono ?_
     intro e w8 h8
     have HNX:=Hi (HSTEP.out _ HB7.out _ _ h8)
     obtain ⟨rfl,-⟩:=h8
     clear HSTEP HEN
     go_wp2
     go_roundg g1
     case rel=>exact HNX.out
     case measure=>omega
open Go.RowKit
structure Lo (w:World) (l S M:Nat) (m:Sm) (F:Nat→Prop):Prop where
 st:St w S M m F
 ok:LgOk m.lg
 lg:AgAt w l #[.pointer (some ⟨S,0,none⟩)]
 nl:¬ F l
section
variable {w w':World} {l S M:Nat} {m:Sm} {F G:Nat→Prop}
theorem Lo.turns (h:Lo w l S M m F) (ht:Turns G w w') (hd:∀ k,F k→¬ G k) (hl:¬ G l):Lo w' l S M m F:=⟨h.st.turns ht hd,h.ok,h.lg.block (ht.block _ (AgAt.lt h.lg) hl),h.nl⟩
theorem Lo.kept (h:Lo w l S M m F) (hb:Below w.heap.size w w'):Lo w' l S M m F:=h.turns (G:=fun _=>False) (Turns.of_below hb) (fun _ _ h=>h) fun h=>h
theorem Lo.more (h:Lo w l S M m F) (hm:∀ k,F k→G k) (hl:∀ k,G k→k<w.heap.size) (hn:¬ G l):Lo w l S M m G:=⟨h.st.more hm hl,h.ok,h.lg,hn⟩
theorem Lo.cell (h:Lo w l S M m F):w.cell? ⟨l,0,none⟩=some (.pointer (some ⟨S,0,none⟩)):=AgAt.cell h.lg 0
end
def NoL (w:World) (v:Value):Prop:=v=.pointer none ∨ ∃ b,v=.pointer (some ⟨b,0,none⟩)∧w.cell? ⟨b,0,none⟩=some (.pointer none)
theorem NoL.kept {w w':World} {v:Value} (h:NoL w v) (hb:Below w.heap.size w w'):NoL w' v:=by
 rcases h with h | ⟨b,h,hc⟩
 ·exact Or.inl h
 ·exact Or.inr ⟨b,h,by rw [hb.cell (cell_lt hc)]; exact hc⟩
theorem lours_yes {l S:Nat} {w:World} (h:w.cell? ⟨l,0,none⟩=some (.pointer (some ⟨S,0,none⟩))):Calls Tryz.prog 130 #[.pointer (some ⟨l,0,none⟩)] w fun e w'=>e=.returned (.bool true)∧w=w':=by
 go_enter Tryz.func130,Tryz.ntmps130
 go_wp2
 go_ret
 exact ⟨rfl,rfl⟩
theorem lours_no (v:Value) (w:World) (h:NoL w v):Calls Tryz.prog 130 #[v] w fun e w'=>e=.returned (.bool false)∧w=w':=by
 rcases h with rfl | ⟨b,rfl,hc⟩
 ·go_enter Tryz.func130,Tryz.ntmps130
  go_wp2
  go_ret
  exact ⟨rfl,rfl⟩
 ·go_enter Tryz.func130,Tryz.ntmps130
  go_wp2
  go_ret
  exact ⟨rfl,rfl⟩
def noB (n:Int):Value:=.tuple #[.slice none 0 0,.int .i64 n]
open Go.RowKit
theorem ltime_no (v:Value) (w:World) (h:NoL w v):Calls Tryz.prog 128 #[v] w fun e w'=>e=.returned (.int .i64 0)∧Below w.heap.size w w':=by
 have hb:=Below.refl w.heap.size w
 have HO:=Hi (lours_no v _ (h.kept hb))
 have HB:=Hi hb
 clear h hb
 go_enter Tryz.func128,Tryz.ntmps128
 go_wp2_with fail
 refine HO.out.mono ?_
 rintro e w1 ⟨rfl,rfl⟩
 go_wp2
 go_ret
 exact ⟨rfl,HB.out⟩
theorem lclone_no (v:Value) (w:World) (h:NoL w v):Calls Tryz.prog 116 #[v] w fun e w'=>e=.returned (.pointer none)∧Below w.heap.size w w':=by
 have hb:=Below.refl w.heap.size w
 have HO:=Hi (lours_no v _ (h.kept hb))
 have HB:=Hi hb
 clear h hb
 go_enter Tryz.func116,Tryz.ntmps116
 go_wp2_with fail
 refine HO.out.mono ?_
 rintro e w1 ⟨rfl,rfl⟩
 go_wp2
 go_ret
 exact ⟨rfl,HB.out⟩
theorem lvector_no (v:Value) (w:World) (h:NoL w v):Calls Tryz.prog 127 #[v] w fun e w'=>e=.returned (.agg (vecA fun _=>0))∧Below w.heap.size w w':=by
 have hb:=(Below.refl w.heap.size w).alloc (Nat.le_refl _) (.cells (vecA fun _=>0) 93)
 have HO:=Hi (lours_no v _ (h.kept hb))
 have HB:=Hi hb
 clear h hb
 go_enter Tryz.func127,Tryz.ntmps127
 go_wp2_with fail
 refine HO.out.mono ?_
 rintro e w1 ⟨rfl,rfl⟩
 have HV:=Hi (VAt.new w (fun _=>0) 93)
 go_wp2_with (refine wpList_store_vec vtP rfl _ _ rfl _ rfl _ (fun _=>0) HV.out rfl ?_; intro w2 hv2 _ _ hb2)
 exact bodyPost_ret (results_vec vtP _ rfl hv2 rfl) rfl ⟨rfl,hb2 _ _ HB.out (Nat.le_refl _)⟩
end Go.Proofs.YthfhefdfehlbkaaGreat
