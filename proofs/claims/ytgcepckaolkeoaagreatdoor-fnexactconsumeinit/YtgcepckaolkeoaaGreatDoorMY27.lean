import Derived.Lib.BytesEntry
import Derived.Laws.IdiomStrings
import Derived.Test.YtgcepckaolkeoaaGreatDoorMY26
namespace Go.Proofs.YtgcepckaolkeoaaGreatDoor
open Go.RowKit
open Go.Proofs.Tryz
open Go renaming heap_alloc_new → hAN, wpList_load_row → wpLr, wpQuiet_nil → wqN
open List renaming drop_succ_cons → dJ, drop_zero → dY, not_mem_nil → nY, take_succ_cons → tU, take_zero → tJ
open Nat renaming le_refl → nQ
set_option linter.unusedVariables false
theorem CW {P:Program} {w:World} {g o:Nat} {l:List Int} (h:Sl w g o l) (hb:aE l) (src dst e:TypeId) (cap:Nat)
 (hs:P.underlying src=some (.slice e)) (he:P.underlying e=some (.int .u8)) (hd:P.underlying dst=some .string):
 (convert src dst (.slice (some ⟨g,o,none⟩) l.length cap)).run P w=.ok (.string ⟨(Lib.bytesOf l).toArray⟩) w:=by
 have:=run_convert_bytes_back (P:=P) w src dst e ⟨g,o,none⟩ cap (Lib.bytesOf l) hs he hd (by
  intro j hj
  have hj':j<l.length:=by simpa[Lib.bytesOf]using hj
  have hl:=hb j
  have hadd:(⟨g,o,none⟩:Addr).add j=⟨g,o+j,none⟩:=by unfold Addr.add;split<;>simp_all
  rw[hadd,h.2 j hj']
  simp only[List.getD_eq_getElem?_getD,List.getElem?_eq_getElem hj',Option.getD_some]at hl⊢
  simp[Lib.bytesOf]
  omega)
 simpa[Lib.bytesOf]using this
theorem SS (A M:List Int) (hA:aE A) (hM:aE M) (hl:A.length=M.length) (h:(⟨(Lib.bytesOf A).toArray⟩:ByteArray)=⟨(Lib.bytesOf M).toArray⟩):A=M:=by
 have h1:Lib.bytesOf A=Lib.bytesOf M:=by
  have:=congrArg (fun b:ByteArray=>b.data.toList) h
  simpa using this
 apply List.ext_getElem hl
 intro i h2 h3
 have a1:=hA i
 have a2:=hM i
 simp only[List.getD_eq_getElem?_getD,List.getElem?_eq_getElem h2,List.getElem?_eq_getElem h3,Option.getD_some]at a1 a2
 have e:(Lib.bytesOf A)[i]? =(Lib.bytesOf M)[i]? :=by rw[h1]
 simp[Lib.bytesOf,h2,h3]at e
 have e2:=congrArg UInt8.toNat e
 simp at e2
 omega
theorem OB (K zs:List Int):aE (gR K zs):=by
 unfold gR gI
 exact vP _ _ (fun i=>by omega)
def JA:Oper:={ dst:=some 26,op:=Op.load 22 (Operand.tmp 4),type:=22,pos:= "l2_aead.go:213",after:=#[],guard:=none }
def JC:Oper:={ dst:=some 27,op:=Op.load 24 (Operand.tmp 5),type:=24,pos:= "l2_aead.go:213",after:=#[],guard:=none }
def JD:Oper:={ dst:=some 28,op:=Op.move (Operand.tmp 2),type:=48,pos:= "l2_aead.go:213",after:=#[],guard:=none }
def JE:Oper:={ dst:=some 29,op:=Op.move (Operand.tmp 10),type:=3,pos:= "l2_aead.go:213",after:=#[],guard:=none }
def A8:Oper:={ dst:=some 30,op:=Op.slice 48 (Operand.tmp 28) none (some (Operand.tmp 29)) none,type:=48,pos:= "l2_aead.go:213",after:=#[{ on:=2,ground:=Ground.data },{ on:=3,ground:=Ground.data }],guard:=none }
def JF:Oper:={ dst:=some 31,op:=Op.move (Operand.tmp 3),type:=48,pos:= "l2_aead.go:213",after:=#[],guard:=none }
def wZ:Oper:={ dst:=some 32,op:=Op.call { callee:=Callee.value (Operand.func 60),args:=#[Operand.tmp 26,Operand.tmp 27,Operand.tmp 30,Operand.tmp 31],argTypes:=#[22,24,48,48] },type:=27,pos:= "l2_aead.go:213",after:=#[{ on:=0,ground:=Ground.data },{ on:=1,ground:=Ground.data },{ on:=4,ground:=Ground.data },{ on:=5,ground:=Ground.data }],guard:=none }
def JG:Oper:={ dst:=some 11,op:=Op.alloc 27,type:=0,pos:= "l2_aead.go:213",after:=#[],guard:=none }
def oQ:Oper:={ dst:=none,op:=Op.store 27 (Operand.tmp 11) (Operand.tmp 32),type:=0,pos:= "l2_aead.go:213",after:=#[{ on:=7,ground:=Ground.data },{ on:=6,ground:=Ground.data },{ on:=6,ground:=Ground.chain },{ on:=0,ground:=Ground.phase },{ on:=1,ground:=Ground.phase },{ on:=2,ground:=Ground.phase },{ on:=3,ground:=Ground.phase },{ on:=4,ground:=Ground.phase },{ on:=5,ground:=Ground.phase },{ on:=6,ground:=Ground.phase },{ on:=7,ground:=Ground.phase }],guard:=none }
def fJ:Array Oper:=#[JA,JC,JD,JE,A8,JF,wZ,JG,oQ]
def lG (key nonce T:List Int) (n m tg to_ tc eg eo ec b0:Nat) (y11 y26 y27 y28 y29 y30 y31 y32:Value):Act:={ tmps:=#[.agg (Iv .u8 key),.agg (Iv .u8 nonce),.slice (some ⟨tg,to_,none⟩) (n+16) tc,.slice (some ⟨eg,eo,none⟩) m ec,.pointer (some ⟨b0,0,none⟩),.pointer (some ⟨b0+1,0,none⟩),undef,undef,.slice none 0 0,.bool false,.int .i64 n,y11,.slice (some ⟨tg,to_,none⟩) (n+16) tc,.int .i64 ((n:Int)+16),.int .i64 n,.int .i64 n,.bool false,.bool false,.int .i64 n,.bool false,.bool false,.bool false,.slice (some ⟨eg,eo,none⟩) m ec,.int .i64 m,.bool false,.bool false,y26,y27,y28,y29,y30,y31,y32,undef,undef,undef,undef,undef,undef,undef,undef,undef,undef,undef,undef,undef],defers:=[] }
structure wY (key nonce T:List Int) (n m tg to_ tc eg eo ec b0:Nat) (W:World) (listed:Array Bool) (w:World) (y11 y26 y27 y28 y29 y30 y31 y32:Value):Prop where
 size:listed.size=9
 bel:Below W.heap.size W w
 p0:Lb listed 0=true→y26=.agg (Iv .u8 key)
 p1:Lb listed 1=true→y27=.agg (Iv .u8 nonce)
 p2:Lb listed 2=true→y28=.slice (some ⟨tg,to_,none⟩) (n+16) tc
 p3:Lb listed 3=true→y29=.int .i64 n
 p4:Lb listed 4=true→y30=.slice (some ⟨tg,to_,none⟩) n tc
 p5:Lb listed 5=true→y31=.slice (some ⟨eg,eo,none⟩) m ec
 p6:Lb listed 6=true→y32=.agg (Iv .u8 T)
 p8:Lb listed 8=true→∀j,j∈([0,1,2,3,4,5,6,7]:List Nat)→Lb listed j=true
 p7:Lb listed 7=true→∃g,y11=.pointer (some ⟨g,0,none⟩)∧W.heap.size≤g∧w.heap[g]? =some (.cells (if Lb listed 8 then(Iv .u8 T)else(Iv .u8 (aA 16))) 27)
def rK (key nonce T:List Int) (n m tg to_ tc eg eo ec b0:Nat) (W:World) (listed:Array Bool) (a:Act) (w:World):Prop:=∃y11 y26 y27 y28 y29 y30 y31 y32,a=lG key nonce T n m tg to_ tc eg eo ec b0 y11 y26 y27 y28 y29 y30 y31 y32∧wY key nonce T n m tg to_ tc eg eo ec b0 W listed w y11 y26 y27 y28 y29 y30 y31 y32
theorem mF {listed:Array Bool} (hs:listed.size=9) (hr:Region.ready .any fJ listed=[]) {i:Nat} (o:Oper) (ho:fJ[i]? =some o) (hi:i<9) (hdep:∀e∈o.after,Region.binds .any e=true→Lb listed e.on=true):Lb listed i=true:=by
 cases hb:Lb listed i with
 | true=>rfl
 | false=>
   have h1:listed.getD i true=false:=by
    have hlt:i<listed.size:=by omega
    simp only[Lb,Array.getD,hlt,dif_pos]at hb⊢
    exact hb
   have:i∈Region.ready .any fJ listed:=mem_ready.2 ⟨h1,o,ho,fun e he hbd=>hdep e he hbd⟩
   rw[hr]at this
   cases this
theorem acZ {listed:Array Bool} (hs:listed.size=9) (hr:Region.ready .any fJ listed=[]):Lb listed 0=true∧Lb listed 1=true∧Lb listed 2=true∧Lb listed 3=true∧Lb listed 4=true∧Lb listed 5=true∧Lb listed 6=true∧Lb listed 7=true∧Lb listed 8=true:=by
 have l0:=mF hs hr (i:=0) JA rfl (by omega) (by unfold JA;simp only[List.mem_toArray,nY,false_implies,implies_true])
 have l1:=mF hs hr (i:=1) JC rfl (by omega) (by unfold JC;simp only[List.mem_toArray,nY,false_implies,implies_true])
 have l2:=mF hs hr (i:=2) JD rfl (by omega) (by unfold JD;simp only[List.mem_toArray,nY,false_implies,implies_true])
 have l3:=mF hs hr (i:=3) JE rfl (by omega) (by unfold JE;simp only[List.mem_toArray,nY,false_implies,implies_true])
 have l4:=mF hs hr (i:=4) A8 rfl (by omega) (by unfold A8;simp only[List.mem_toArray,List.mem_cons,nY,or_false,forall_eq_or_imp,forall_eq,l2,l3,implies_true,and_self])
 have l5:=mF hs hr (i:=5) JF rfl (by omega) (by unfold JF;simp only[List.mem_toArray,nY,false_implies,implies_true])
 have l6:=mF hs hr (i:=6) wZ rfl (by omega) (by unfold wZ;simp only[List.mem_toArray,List.mem_cons,nY,or_false,forall_eq_or_imp,forall_eq,l0,l1,l4,l5,implies_true,and_self])
 have l7:=mF hs hr (i:=7) JG rfl (by omega) (by unfold JG;simp only[List.mem_toArray,nY,false_implies,implies_true])
 have l8:=mF hs hr (i:=8) oQ rfl (by omega) (by unfold oQ;simp only[List.mem_toArray,List.mem_cons,nY,or_false,forall_eq_or_imp,forall_eq,l0,l1,l2,l3,l4,l5,l6,l7,implies_true,and_self])
 exact⟨l0,l1,l2,l3,l4,l5,l6,l7,l8⟩
theorem tB {listed:Array Bool} {i:Nat} (h:i∈Region.ready .any fJ listed) (o:Oper) (ho:fJ[i]? =some o):listed.getD i true=false∧∀e∈o.after,Region.binds .any e=true→Lb listed e.on=true:=by
 obtain⟨h1,o',ho',hd⟩:=mem_ready.1 h
 rw[ho]at ho'
 cases ho'
 exact⟨h1,hd⟩
set_option maxRecDepth 10000 in
set_option maxHeartbeats 2000000 in
theorem aeW {key nonce T:List Int} {n m tg to_ tc eg eo ec b0:Nat} {W:World} {listed:Array Bool} {w:World} {y11 y26 y27 y28 y29 y30 y31 y32:Value} {Q:Exit→Act→World→Prop} (h:wY key nonce T n m tg to_ tc eg eo ec b0 W listed w y11 y26 y27 y28 y29 y30 y31 y32) (hi:0∈Region.ready .any fJ listed) (hrow:W.heap[b0]? =some (.cells (Iv .u8 key) 22)) (hblt:b0<W.heap.size) (hinf:(prog.info? 22).map (·.size)=some ((Iv .u8 key)).size):
 wpList prog fJ (cJ (rK key nonce T n m tg to_ tc eg eo ec b0 W (listed.setIfInBounds 0 true)) Q) [JA] (lG key nonce T n m tg to_ tc eg eo ec b0 y11 y26 y27 y28 y29 y30 y31 y32) w:=by
 obtain⟨hn1,hdep⟩:=tB hi JA rfl
 obtain⟨hlt,hno⟩:=jD hn1
 have G0:Hid _:=(h.bel.block _ hblt).trans hrow
 have hik:Hid _:=hinf
 have HH:Hid _:=h
 clear h hdep hn1 hrow hinf
 unfold lG JA
 go_wp2_with(refine wpLr rfl 22 _ rfl (b0) rfl _ (Iv .u8 key) _ _ G0.out underlying22 rfl hik.out ?_)
 have h:=HH.out
 have hb:=Below.refl w.heap.size w
 refine⟨_,_,_,_,_,_,_,_,rfl,{
  size:=by simpa using h.size
  bel:=h.bel.trans (hb.mono h.bel.size)
  p0:=fun _=>rfl
  p1:=fun hl=>h.p1 (by rwa[aI (by omega)]at hl)
  p2:=fun hl=>h.p2 (by rwa[aI (by omega)]at hl)
  p3:=fun hl=>h.p3 (by rwa[aI (by omega)]at hl)
  p4:=fun hl=>h.p4 (by rwa[aI (by omega)]at hl)
  p5:=fun hl=>h.p5 (by rwa[aI (by omega)]at hl)
  p6:=fun hl=>h.p6 (by rwa[aI (by omega)]at hl)
  p8:=fun hl=>absurd (h.p8 (by rwa[aI (by omega)]at hl) 0 (by decide)) (by rw[hno];simp)
  p7:=fun hl=>by
   obtain⟨g,e1,e2,e3⟩:=h.p7 (by rwa[aI (by omega)]at hl)
   refine⟨g,e1,e2,?_⟩
   rw[aI (by omega),hb.block g (Array.getElem?_eq_some_iff.1 e3).1]
   exact e3 }⟩
set_option maxRecDepth 10000 in
set_option maxHeartbeats 2000000 in
theorem aeX {key nonce T:List Int} {n m tg to_ tc eg eo ec b0:Nat} {W:World} {listed:Array Bool} {w:World} {y11 y26 y27 y28 y29 y30 y31 y32:Value} {Q:Exit→Act→World→Prop} (h:wY key nonce T n m tg to_ tc eg eo ec b0 W listed w y11 y26 y27 y28 y29 y30 y31 y32) (hi:1∈Region.ready .any fJ listed) (hrow:W.heap[b0+1]? =some (.cells (Iv .u8 nonce) 24)) (hblt:b0+1<W.heap.size) (hinf:(prog.info? 24).map (·.size)=some ((Iv .u8 nonce)).size):
 wpList prog fJ (cJ (rK key nonce T n m tg to_ tc eg eo ec b0 W (listed.setIfInBounds 1 true)) Q) [JC] (lG key nonce T n m tg to_ tc eg eo ec b0 y11 y26 y27 y28 y29 y30 y31 y32) w:=by
 obtain⟨hn1,hdep⟩:=tB hi JC rfl
 obtain⟨hlt,hno⟩:=jD hn1
 have G0:Hid _:=(h.bel.block _ hblt).trans hrow
 have hik:Hid _:=hinf
 have HH:Hid _:=h
 clear h hdep hn1 hrow hinf
 unfold lG JC
 go_wp2_with(refine wpLr rfl 24 _ rfl (b0+1) rfl _ (Iv .u8 nonce) _ _ G0.out underlying24 rfl hik.out ?_)
 have h:=HH.out
 have hb:=Below.refl w.heap.size w
 refine⟨_,_,_,_,_,_,_,_,rfl,{
  size:=by simpa using h.size
  bel:=h.bel.trans (hb.mono h.bel.size)
  p0:=fun hl=>h.p0 (by rwa[aI (by omega)]at hl)
  p1:=fun _=>rfl
  p2:=fun hl=>h.p2 (by rwa[aI (by omega)]at hl)
  p3:=fun hl=>h.p3 (by rwa[aI (by omega)]at hl)
  p4:=fun hl=>h.p4 (by rwa[aI (by omega)]at hl)
  p5:=fun hl=>h.p5 (by rwa[aI (by omega)]at hl)
  p6:=fun hl=>h.p6 (by rwa[aI (by omega)]at hl)
  p8:=fun hl=>absurd (h.p8 (by rwa[aI (by omega)]at hl) 1 (by decide)) (by rw[hno];simp)
  p7:=fun hl=>by
   obtain⟨g,e1,e2,e3⟩:=h.p7 (by rwa[aI (by omega)]at hl)
   refine⟨g,e1,e2,?_⟩
   rw[aI (by omega),hb.block g (Array.getElem?_eq_some_iff.1 e3).1]
   exact e3 }⟩
set_option maxRecDepth 10000 in
set_option maxHeartbeats 2000000 in
theorem aeY {key nonce T:List Int} {n m tg to_ tc eg eo ec b0:Nat} {W:World} {listed:Array Bool} {w:World} {y11 y26 y27 y28 y29 y30 y31 y32:Value} {Q:Exit→Act→World→Prop} (h:wY key nonce T n m tg to_ tc eg eo ec b0 W listed w y11 y26 y27 y28 y29 y30 y31 y32) (hi:2∈Region.ready .any fJ listed):
 wpList prog fJ (cJ (rK key nonce T n m tg to_ tc eg eo ec b0 W (listed.setIfInBounds 2 true)) Q) [JD] (lG key nonce T n m tg to_ tc eg eo ec b0 y11 y26 y27 y28 y29 y30 y31 y32) w:=by
 obtain⟨hn1,hdep⟩:=tB hi JD rfl
 obtain⟨hlt,hno⟩:=jD hn1
 have HH:Hid _:=h
 clear h hdep hn1
 unfold lG JD
 go_wp2_with fail
 have h:=HH.out
 have hb:=Below.refl w.heap.size w
 refine⟨_,_,_,_,_,_,_,_,rfl,{
  size:=by simpa using h.size
  bel:=h.bel.trans (hb.mono h.bel.size)
  p0:=fun hl=>h.p0 (by rwa[aI (by omega)]at hl)
  p1:=fun hl=>h.p1 (by rwa[aI (by omega)]at hl)
  p2:=fun _=>rfl
  p3:=fun hl=>h.p3 (by rwa[aI (by omega)]at hl)
  p4:=fun hl=>h.p4 (by rwa[aI (by omega)]at hl)
  p5:=fun hl=>h.p5 (by rwa[aI (by omega)]at hl)
  p6:=fun hl=>h.p6 (by rwa[aI (by omega)]at hl)
  p8:=fun hl=>absurd (h.p8 (by rwa[aI (by omega)]at hl) 2 (by decide)) (by rw[hno];simp)
  p7:=fun hl=>by
   obtain⟨g,e1,e2,e3⟩:=h.p7 (by rwa[aI (by omega)]at hl)
   refine⟨g,e1,e2,?_⟩
   rw[aI (by omega),hb.block g (Array.getElem?_eq_some_iff.1 e3).1]
   exact e3 }⟩
set_option maxRecDepth 10000 in
set_option maxHeartbeats 2000000 in
theorem aeZ {key nonce T:List Int} {n m tg to_ tc eg eo ec b0:Nat} {W:World} {listed:Array Bool} {w:World} {y11 y26 y27 y28 y29 y30 y31 y32:Value} {Q:Exit→Act→World→Prop} (h:wY key nonce T n m tg to_ tc eg eo ec b0 W listed w y11 y26 y27 y28 y29 y30 y31 y32) (hi:3∈Region.ready .any fJ listed):
 wpList prog fJ (cJ (rK key nonce T n m tg to_ tc eg eo ec b0 W (listed.setIfInBounds 3 true)) Q) [JE] (lG key nonce T n m tg to_ tc eg eo ec b0 y11 y26 y27 y28 y29 y30 y31 y32) w:=by
 obtain⟨hn1,hdep⟩:=tB hi JE rfl
 obtain⟨hlt,hno⟩:=jD hn1
 have HH:Hid _:=h
 clear h hdep hn1
 unfold lG JE
 go_wp2_with fail
 have h:=HH.out
 have hb:=Below.refl w.heap.size w
 refine⟨_,_,_,_,_,_,_,_,rfl,{
  size:=by simpa using h.size
  bel:=h.bel.trans (hb.mono h.bel.size)
  p0:=fun hl=>h.p0 (by rwa[aI (by omega)]at hl)
  p1:=fun hl=>h.p1 (by rwa[aI (by omega)]at hl)
  p2:=fun hl=>h.p2 (by rwa[aI (by omega)]at hl)
  p3:=fun _=>rfl
  p4:=fun hl=>h.p4 (by rwa[aI (by omega)]at hl)
  p5:=fun hl=>h.p5 (by rwa[aI (by omega)]at hl)
  p6:=fun hl=>h.p6 (by rwa[aI (by omega)]at hl)
  p8:=fun hl=>absurd (h.p8 (by rwa[aI (by omega)]at hl) 3 (by decide)) (by rw[hno];simp)
  p7:=fun hl=>by
   obtain⟨g,e1,e2,e3⟩:=h.p7 (by rwa[aI (by omega)]at hl)
   refine⟨g,e1,e2,?_⟩
   rw[aI (by omega),hb.block g (Array.getElem?_eq_some_iff.1 e3).1]
   exact e3 }⟩
set_option maxRecDepth 10000 in
set_option maxHeartbeats 2000000 in
theorem ae0 {key nonce T:List Int} {n m tg to_ tc eg eo ec b0:Nat} {W:World} {listed:Array Bool} {w:World} {y11 y26 y27 y28 y29 y30 y31 y32:Value} {Q:Exit→Act→World→Prop} (h:wY key nonce T n m tg to_ tc eg eo ec b0 W listed w y11 y26 y27 y28 y29 y30 y31 y32) (hi:4∈Region.ready .any fJ listed) (hsl:n+16≤tc) (hsl2:tc≤9223372036854775807):
 wpList prog fJ (cJ (rK key nonce T n m tg to_ tc eg eo ec b0 W (listed.setIfInBounds 4 true)) Q) [A8] (lG key nonce T n m tg to_ tc eg eo ec b0 y11 y26 y27 y28 y29 y30 y31 y32) w:=by
 obtain⟨hn1,hdep⟩:=tB hi A8 rfl
 obtain⟨hlt,hno⟩:=jD hn1
 have l2:Lb listed 2=true:=hdep { on:=2,ground:=Ground.data } (by unfold A8;simp) rfl
 obtain rfl:=h.p2 l2
 have l3:Lb listed 3=true:=hdep { on:=3,ground:=Ground.data } (by unfold A8;simp) rfl
 obtain rfl:=h.p3 l3
 have HH:Hid _:=h
 clear h hdep hn1
 unfold lG A8
 go_wp2_with fail
 have h:=HH.out
 have hb:=Below.refl w.heap.size w
 refine⟨_,_,_,_,_,_,_,_,rfl,{
  size:=by simpa using h.size
  bel:=h.bel.trans (hb.mono h.bel.size)
  p0:=fun hl=>h.p0 (by rwa[aI (by omega)]at hl)
  p1:=fun hl=>h.p1 (by rwa[aI (by omega)]at hl)
  p2:=fun hl=>h.p2 (by rwa[aI (by omega)]at hl)
  p3:=fun hl=>h.p3 (by rwa[aI (by omega)]at hl)
  p4:=fun _=>rfl
  p5:=fun hl=>h.p5 (by rwa[aI (by omega)]at hl)
  p6:=fun hl=>h.p6 (by rwa[aI (by omega)]at hl)
  p8:=fun hl=>absurd (h.p8 (by rwa[aI (by omega)]at hl) 4 (by decide)) (by rw[hno];simp)
  p7:=fun hl=>by
   obtain⟨g,e1,e2,e3⟩:=h.p7 (by rwa[aI (by omega)]at hl)
   refine⟨g,e1,e2,?_⟩
   rw[aI (by omega),hb.block g (Array.getElem?_eq_some_iff.1 e3).1]
   exact e3 }⟩
set_option maxRecDepth 10000 in
set_option maxHeartbeats 2000000 in
theorem ae1 {key nonce T:List Int} {n m tg to_ tc eg eo ec b0:Nat} {W:World} {listed:Array Bool} {w:World} {y11 y26 y27 y28 y29 y30 y31 y32:Value} {Q:Exit→Act→World→Prop} (h:wY key nonce T n m tg to_ tc eg eo ec b0 W listed w y11 y26 y27 y28 y29 y30 y31 y32) (hi:5∈Region.ready .any fJ listed):
 wpList prog fJ (cJ (rK key nonce T n m tg to_ tc eg eo ec b0 W (listed.setIfInBounds 5 true)) Q) [JF] (lG key nonce T n m tg to_ tc eg eo ec b0 y11 y26 y27 y28 y29 y30 y31 y32) w:=by
 obtain⟨hn1,hdep⟩:=tB hi JF rfl
 obtain⟨hlt,hno⟩:=jD hn1
 have HH:Hid _:=h
 clear h hdep hn1
 unfold lG JF
 go_wp2_with fail
 have h:=HH.out
 have hb:=Below.refl w.heap.size w
 refine⟨_,_,_,_,_,_,_,_,rfl,{
  size:=by simpa using h.size
  bel:=h.bel.trans (hb.mono h.bel.size)
  p0:=fun hl=>h.p0 (by rwa[aI (by omega)]at hl)
  p1:=fun hl=>h.p1 (by rwa[aI (by omega)]at hl)
  p2:=fun hl=>h.p2 (by rwa[aI (by omega)]at hl)
  p3:=fun hl=>h.p3 (by rwa[aI (by omega)]at hl)
  p4:=fun hl=>h.p4 (by rwa[aI (by omega)]at hl)
  p5:=fun _=>rfl
  p6:=fun hl=>h.p6 (by rwa[aI (by omega)]at hl)
  p8:=fun hl=>absurd (h.p8 (by rwa[aI (by omega)]at hl) 5 (by decide)) (by rw[hno];simp)
  p7:=fun hl=>by
   obtain⟨g,e1,e2,e3⟩:=h.p7 (by rwa[aI (by omega)]at hl)
   refine⟨g,e1,e2,?_⟩
   rw[aI (by omega),hb.block g (Array.getElem?_eq_some_iff.1 e3).1]
   exact e3 }⟩
set_option maxRecDepth 10000 in
set_option maxHeartbeats 2000000 in
theorem ae2 {key nonce T:List Int} {n m tg to_ tc eg eo ec b0:Nat} {W:World} {listed:Array Bool} {w:World} {y11 y26 y27 y28 y29 y30 y31 y32:Value} {Q:Exit→Act→World→Prop} (h:wY key nonce T n m tg to_ tc eg eo ec b0 W listed w y11 y26 y27 y28 y29 y30 y31 y32) (hi:6∈Region.ready .any fJ listed) (hcon:∀w,Below W.heap.size W w→Calls prog 60 #[.agg (Iv .u8 key),.agg (Iv .u8 nonce),.slice (some ⟨tg,to_,none⟩) n tc,.slice (some ⟨eg,eo,none⟩) m ec] w fun e w'=>e=.returned (.agg (Iv .u8 T))∧Below w.heap.size w w'):
 wpList prog fJ (cJ (rK key nonce T n m tg to_ tc eg eo ec b0 W (listed.setIfInBounds 6 true)) Q) [wZ] (lG key nonce T n m tg to_ tc eg eo ec b0 y11 y26 y27 y28 y29 y30 y31 y32) w:=by
 obtain⟨hn1,hdep⟩:=tB hi wZ rfl
 obtain⟨hlt,hno⟩:=jD hn1
 have l0:Lb listed 0=true:=hdep { on:=0,ground:=Ground.data } (by unfold wZ;simp) rfl
 obtain rfl:=h.p0 l0
 have l1:Lb listed 1=true:=hdep { on:=1,ground:=Ground.data } (by unfold wZ;simp) rfl
 obtain rfl:=h.p1 l1
 have l4:Lb listed 4=true:=hdep { on:=4,ground:=Ground.data } (by unfold wZ;simp) rfl
 obtain rfl:=h.p4 l4
 have l5:Lb listed 5=true:=hdep { on:=5,ground:=Ground.data } (by unfold wZ;simp) rfl
 obtain rfl:=h.p5 l5
 have HC:Hid _:=hcon w  h.bel 
 have HH:Hid _:=h
 clear h hdep hn1 hcon
 unfold lG wZ
 go_wp2_with fail
 refine Calls.mono HC.out ?_
 rintro e w' ⟨rfl,hb⟩
 go_wp2_with fail
 have h:=HH.out
 refine⟨_,_,_,_,_,_,_,_,rfl,{
  size:=by simpa using h.size
  bel:=h.bel.trans (hb.mono h.bel.size)
  p0:=fun hl=>h.p0 (by rwa[aI (by omega)]at hl)
  p1:=fun hl=>h.p1 (by rwa[aI (by omega)]at hl)
  p2:=fun hl=>h.p2 (by rwa[aI (by omega)]at hl)
  p3:=fun hl=>h.p3 (by rwa[aI (by omega)]at hl)
  p4:=fun hl=>h.p4 (by rwa[aI (by omega)]at hl)
  p5:=fun hl=>h.p5 (by rwa[aI (by omega)]at hl)
  p6:=fun _=>rfl
  p8:=fun hl=>absurd (h.p8 (by rwa[aI (by omega)]at hl) 6 (by decide)) (by rw[hno];simp)
  p7:=fun hl=>by
   obtain⟨g,e1,e2,e3⟩:=h.p7 (by rwa[aI (by omega)]at hl)
   refine⟨g,e1,e2,?_⟩
   rw[aI (by omega),hb.block g (Array.getElem?_eq_some_iff.1 e3).1]
   exact e3 }⟩
set_option maxRecDepth 10000 in
set_option maxHeartbeats 2000000 in
theorem ae3 {key nonce T:List Int} {n m tg to_ tc eg eo ec b0:Nat} {W:World} {listed:Array Bool} {w:World} {y11 y26 y27 y28 y29 y30 y31 y32:Value} {Q:Exit→Act→World→Prop} (h:wY key nonce T n m tg to_ tc eg eo ec b0 W listed w y11 y26 y27 y28 y29 y30 y31 y32) (hi:7∈Region.ready .any fJ listed) (hzv:∀W,(zeroValue 27).run prog W=.ok (.agg (Iv .u8 (aA 16))) W):
 wpList prog fJ (cJ (rK key nonce T n m tg to_ tc eg eo ec b0 W (listed.setIfInBounds 7 true)) Q) [JG] (lG key nonce T n m tg to_ tc eg eo ec b0 y11 y26 y27 y28 y29 y30 y31 y32) w:=by
 obtain⟨hn1,hdep⟩:=tB hi JG rfl
 obtain⟨hlt,hno⟩:=jD hn1
 have hnos:Lb listed 8=false:=by
  cases h8:Lb listed 8 with
  | false=>rfl
  | true=>exact absurd (h.p8 h8 7 (by decide)) (by rw[hno];simp)
 have HH:Hid _:=h
 clear h hdep hn1
 unfold lG JG
 go_wp2_with fail
 have h:=HH.out
 have hb:Below w.heap.size w (w.alloc (.cells (Iv .u8 (aA 16)) 27)):=(Below.refl _ _).alloc (nQ _) _
 refine⟨_,_,_,_,_,_,_,_,rfl,{
  size:=by simpa using h.size
  bel:=h.bel.trans (hb.mono h.bel.size)
  p0:=fun hl=>h.p0 (by rwa[aI (by omega)]at hl)
  p1:=fun hl=>h.p1 (by rwa[aI (by omega)]at hl)
  p2:=fun hl=>h.p2 (by rwa[aI (by omega)]at hl)
  p3:=fun hl=>h.p3 (by rwa[aI (by omega)]at hl)
  p4:=fun hl=>h.p4 (by rwa[aI (by omega)]at hl)
  p5:=fun hl=>h.p5 (by rwa[aI (by omega)]at hl)
  p6:=fun hl=>h.p6 (by rwa[aI (by omega)]at hl)
  p8:=fun hl=>absurd (h.p8 (by rwa[aI (by omega)]at hl) 7 (by decide)) (by rw[hno];simp)
  p7:=fun _=>by
   refine⟨w.heap.size,rfl,h.bel.size,?_⟩
   rw[aI (by omega),hnos]
   exact hAN _ _ }⟩
set_option maxRecDepth 10000 in
set_option maxHeartbeats 2000000 in
theorem ae4 {key nonce T:List Int} {n m tg to_ tc eg eo ec b0:Nat} {W:World} {listed:Array Bool} {w:World} {y11 y26 y27 y28 y29 y30 y31 y32:Value} {Q:Exit→Act→World→Prop} (h:wY key nonce T n m tg to_ tc eg eo ec b0 W listed w y11 y26 y27 y28 y29 y30 y31 y32) (hi:8∈Region.ready .any fJ listed) (hinf:(prog.info? 27).map (·.size)=some (Iv .u8 T).size) (hzs:(Iv .u8 (aA 16)).size=(Iv .u8 T).size):
 wpList prog fJ (cJ (rK key nonce T n m tg to_ tc eg eo ec b0 W (listed.setIfInBounds 8 true)) Q) [oQ] (lG key nonce T n m tg to_ tc eg eo ec b0 y11 y26 y27 y28 y29 y30 y31 y32) w:=by
 obtain⟨hn1,hdep⟩:=tB hi oQ rfl
 obtain⟨hlt,hno⟩:=jD hn1
 have hd0:Lb listed 0=true:=hdep { on:=0,ground:=Ground.phase } (by unfold oQ;simp) rfl
 have hd1:Lb listed 1=true:=hdep { on:=1,ground:=Ground.phase } (by unfold oQ;simp) rfl
 have hd2:Lb listed 2=true:=hdep { on:=2,ground:=Ground.phase } (by unfold oQ;simp) rfl
 have hd3:Lb listed 3=true:=hdep { on:=3,ground:=Ground.phase } (by unfold oQ;simp) rfl
 have hd4:Lb listed 4=true:=hdep { on:=4,ground:=Ground.phase } (by unfold oQ;simp) rfl
 have hd5:Lb listed 5=true:=hdep { on:=5,ground:=Ground.phase } (by unfold oQ;simp) rfl
 have hd6:Lb listed 6=true:=hdep { on:=6,ground:=Ground.data } (by unfold oQ;simp) rfl
 have hd7:Lb listed 7=true:=hdep { on:=7,ground:=Ground.data } (by unfold oQ;simp) rfl
 have l6:Lb listed 6=true:=hdep { on:=6,ground:=Ground.data } (by unfold oQ;simp) rfl
 obtain rfl:=h.p6 l6
 have la:Lb listed 7=true:=hdep { on:=7,ground:=Ground.data } (by unfold oQ;simp) rfl
 obtain⟨g,rfl,hg,hrow⟩:=h.p7 la
 rw[hno,if_neg (by simp)]at hrow
 have HR:Hid _:=hrow
 have hik:Hid _:=hinf
 have hiz:Hid _:=hzs
 have HH:Hid _:=h
 clear h hdep hn1 hrow hinf hzs
 unfold lG oQ
 refine wpPr rfl 27 (.tmp 11) (.tmp 32) rfl g (Iv .u8 T) rfl rfl _ _ HR.out hik.out hiz.out (aG _ _) ?_
 intro w' hP
 simp only[Act.put]
 go_wp2_with fail
 have h:=HH.out
 refine⟨_,_,_,_,_,_,_,_,rfl,{
  size:=by simpa using h.size
  bel:=hP.below _ _ h.bel hg
  p0:=fun hl=>h.p0 (by rwa[aI (by omega)]at hl)
  p1:=fun hl=>h.p1 (by rwa[aI (by omega)]at hl)
  p2:=fun hl=>h.p2 (by rwa[aI (by omega)]at hl)
  p3:=fun hl=>h.p3 (by rwa[aI (by omega)]at hl)
  p4:=fun hl=>h.p4 (by rwa[aI (by omega)]at hl)
  p5:=fun hl=>h.p5 (by rwa[aI (by omega)]at hl)
  p6:=fun hl=>h.p6 (by rwa[aI (by omega)]at hl)
  p8:=fun _ j hj=>by
   simp only[List.mem_cons,nY,or_false]at hj
   rcases hj with rfl|rfl|rfl|rfl|rfl|rfl|rfl|rfl
   ·rw[aI (by omega)];exact hd0
   ·rw[aI (by omega)];exact hd1
   ·rw[aI (by omega)];exact hd2
   ·rw[aI (by omega)];exact hd3
   ·rw[aI (by omega)];exact hd4
   ·rw[aI (by omega)];exact hd5
   ·rw[aI (by omega)];exact hd6
   ·rw[aI (by omega)];exact hd7
  p7:=fun _=>by
   refine⟨g,rfl,hg,?_⟩
   rw[jG hlt,if_pos rfl]
   exact hP.here }⟩
set_option maxRecDepth 10000 in
set_option maxHeartbeats 4000000 in
theorem H7 (HPO:Hid (IG 84)) (key nonce:List Int) (hk:key.length=32) (hr:nonce.length=12) (B:Nat→List Int) (hB:∀i,(B i).length=64) (HC:Hid (AN 81 key nonce B (fun _=>True))) (hBb:∀i,aE (B i))
 (box E H G:List Int) (n m:Nat) (hH:H=box.take n) (hG:G=box.drop n) (hbl:box.length=n+16) (hm:E.length=m) (hn2:n≤65536) (hm2:m≤65536) (hbb:aE box) (hEb:aE E) (tg to_ tc eg eo ec:Nat) (w:World) (HST:Hid (Sl w tg to_ box)) (HSE:Hid (Sl w eg eo E)) (htc:n+16≤tc) (htc2:tc≤9223372036854775807)
 (T:List Int) (hT:Hid (OA B E H=T)):
 Calls prog 37 #[.agg (Iv .u8 key),.agg (Iv .u8 nonce),.slice (some ⟨tg,to_,none⟩) (n+16) tc,.slice (some ⟨eg,eo,none⟩) m ec] w fun e w'=>
  (T=G→∃v,e=.returned (.tuple #[v,.bool true])∧cC .u8 5 w.heap.size w' v (kK B H n)∧v.ownBlock≠none)∧(T≠G→e=.returned (.tuple #[.slice none 0 0,.bool false]))∧Below w.heap.size w w':=by
 have hHl:H.length=n:=by rw[hH,List.length_take];omega
 have hGl:G.length=16:=by rw[hG,List.length_drop];omega
 have hHb:aE H:=by rw[hH];exact dB hbb n
 have hTl:T.length=16:=by rw[←hT.out];exact vY _ _
 have hi32:Hid ((prog.info? 22).map (·.size)=some (Iv .u8 key).size):=by show _=_;rw[aD,hk];exact sZ
 have hi12:Hid ((prog.info? 24).map (·.size)=some (Iv .u8 nonce).size):=by show _=_;rw[aD,hr];exact vN
 have hzv:=LW
 have hi16:Hid (∀l:List Int,l.length=16→(prog.info? 27).map (·.size)=some (Iv .u8 l).size):=fun l hl=>by rw[aD,hl];exact DC
 have hz16:Hid (∀l:List Int,l.length=16→(Iv .u8 (aA 16)).size=(Iv .u8 l).size):=fun l hl=>by rw[aD,aD,hl];simp[aA]
 have hTb:aE T:=by rw[←hT.out];exact OB _ _
 have hGb:aE G:=by rw[hG];exact cE hbb n
 obtain⟨W,hW,g0,g1,hs,hBW⟩:=kX w (.cells (Iv .u8 key) 22) (.cells (Iv .u8 nonce) 24)
 have HW:Hid _:=hW
 have G0:Hid _:=g0
 have G1:Hid _:=g1
 have GB:Hid _:=hBW
 have SB:Hid _:=Sl.later HST.out hBW HST.out.1
 have SH:Hid (Sl W tg to_ H):=by show Sl _ _ _ _;rw[hH];exact Sl.take SB.out n
 have SG:Hid (Sl W tg (to_+n) G):=by show Sl _ _ _ _;rw[hG];exact Sl.drop SB.out n
 have SE:Hid _:=Sl.later HSE.out hBW HSE.out.1
 clear hW g0 g1 hBW hH hG
 have hx0:((n:Int)+16 - 16)=n:=by omega
 have hx1:((n:Int)<0)=False:=eq_false (by omega)
 have hx2:((65536:Int)<n)=False:=by simp;omega
 have hx3:((65536:Int)<m)=False:=by simp;omega
 go_enter func37,ntmps37
 go_wp2_with(first
  | (rw[HW.out];refine sH ?_))
 refine aH ?_
 have hBW:Below W.heap.size W W:=Below.refl _ _
 go_wp2_with fail
 refine rN (ops:=fJ) (rK key nonce T n m tg to_ tc eg eo ec w.heap.size W) (by kernel_rfl) ?_ ?_ ?_
 ·exact⟨undef,undef,undef,undef,undef,undef,undef,undef,rfl,{ size:=rfl,bel:=bDr hBW 1,p0:=fun h=>(by cases h),p1:=fun h=>(by cases h),p2:=fun h=>(by cases h),p3:=fun h=>(by cases h),p4:=fun h=>(by cases h),p5:=fun h=>(by cases h),p6:=fun h=>(by cases h),p7:=fun h=>(by cases h),p8:=fun h=>(by cases h) }⟩
 ·rintro listed a w1 ⟨y11,y26,y27,y28,y29,y30,y31,y32,rfl,h⟩ hready
  obtain⟨l0,l1,l2,l3,l4,l5,l6,l7,l8⟩:=acZ h.size hready
  obtain rfl:=h.p0 l0
  obtain rfl:=h.p1 l1
  obtain rfl:=h.p2 l2
  obtain rfl:=h.p3 l3
  obtain rfl:=h.p4 l4
  obtain rfl:=h.p5 l5
  obtain rfl:=h.p6 l6
  obtain⟨g,rfl,hg,hrow⟩:=h.p7 l7
  rw[l8,if_pos rfl]at hrow
  have hbel:=h.bel
  clear h hready l0 l1 l2 l3 l4 l5 l6 l7 l8
  unfold lG
  obtain⟨V,eV⟩:∃x,x=w1:=⟨_,rfl⟩
  rw[←eV]at hbel hrow⊢
  clear eV
  have hvs:=hbel.size
  have hgl:g<V.heap.size:=(Array.getElem?_eq_some_iff.1 hrow).1
  have VT:Hid (V.heap[g]? =some (.cells (Iv .u8 T) 27)):=hrow
  have V0:Hid _:=(hbel.block w.heap.size (by omega)).trans G0.out
  have V1:Hid _:=(hbel.block (w.heap.size+1) (by omega)).trans G1.out
  have VH:Hid _:=Sl.later SH.out hbel SH.out.1
  have VG:Hid _:=Sl.later SG.out hbel SG.out.1
  have VB:Hid (Below w.heap.size w V):=GB.out.trans (hbel.mono (by omega))
  clear hrow hbel G0 G1 SB SH SG SE hzv
  have c0:(convert 48 9 (.slice (some ⟨g,0,none⟩) 16 16)).run prog V.drew=.ok (.string ⟨(Lib.bytesOf T).toArray⟩) V.drew:=by
   have h:=CW (P:=prog) (w:=V.drew) (Sl.of_row (show V.drew.heap[g]? =_ from VT.out)) hTb 48 9 5 16 underlying48 underlying5 underlying9
   rw[hTl]at h
   exact h
  have c1:(convert 48 9 (.slice (some ⟨tg,to_+n,none⟩) 16 (tc - n))).run prog V.drew=.ok (.string ⟨(Lib.bytesOf G).toArray⟩) V.drew:=by
   have h:=CW (P:=prog) (w:=V.drew) (show Sl V.drew tg (to_+n) G from VG.out) hGb 48 9 5 (tc - n) underlying48 underlying5 underlying9
   rw[hGl]at h
   exact h
  go_wp2_with fail
  refine wRh 6 KW (by kernel_rfl) ?_
  simp only[tU,tJ,dJ,dY]
  go_big_quiet_step (fail)
  go_big_quiet_step (fail)
  go_big_quiet_step (fail)
  go_big_quiet_step (fail)
  refine aB rfl (.slice (some ⟨tg,to_+n,none⟩) 16 (tc - n)) (fun w=>by
   have h:=N6 (P:=prog) (o:={ dst:=some 37,op:=Op.slice 48 (Operand.tmp 35) (some (Operand.tmp 36)) none none,type:=48,pos:= "l2_aead.go:214",after:=#[{ on:=2,ground:=Ground.data },{ on:=3,ground:=Ground.data }],guard:=none }) (ρ:=fun x=>match x with| .tmp 35=>.slice (some ⟨tg,to_,none⟩) (n+16) tc|_=>.int .i64 n) 48 (.tmp 35) (.tmp 36) rfl tg to_ (n+16) tc n rfl rfl underlying48 O5 (by omega) (by omega) w
   rw[show n+16 - n=16 by omega]at h
   exact h) ?_
  simp only[pS]
  go_big_quiet_step (fail)
  refine wqN ?_
  clear c0 c1
  by_cases hTG:T=G
  ·have HTG:Hid _:=hTG
   subst hTG
   have K0:Hid (V.drew.heap[w.heap.size]? =_):=V0.out
   go_wp2_with fail
   refine wRh 5 KW (by kernel_rfl) ?_
   simp only[tU,tJ,dJ,dY]
   refine wqLr rfl 22 _ rfl w.heap.size rfl _ (Iv .u8 key) _ _ (fun W hW=>by rw[hW];exact V0.out) underlying22 rfl hi32.out ?_
   simp only[pS]
   refine wqLr rfl 24 _ rfl (w.heap.size+1) rfl _ (Iv .u8 nonce) _ _ (fun W hW=>by rw[hW];exact V1.out) underlying24 rfl hi12.out ?_
   simp only[pS]
   go_big_quiet_step (fail)
   go_big_quiet_step (fail)
   refine aB rfl (.slice (some ⟨tg,to_,none⟩) n tc) (fun w=>by
    exact adE (P:=prog) (o:={ dst:=some 44,op:=Op.slice 48 (Operand.tmp 42) none (some (Operand.tmp 43)) none,type:=48,pos:= "l2_aead.go:217",after:=#[{ on:=2,ground:=Ground.data },{ on:=3,ground:=Ground.data }],guard:=none }) (ρ:=fun x=>match x with| .tmp 42=>.slice (some ⟨tg,to_,none⟩) (n+16) tc|_=>.int .i64 n) 48 (.tmp 42) (.tmp 43) rfl tg to_ (n+16) tc n rfl rfl underlying48 O5 (by omega) w) ?_
   simp only[pS]
   refine wqN ?_
   have VB2:Hid (Below w.heap.size w V.drew.drew):=bDr VB.out 2
   have VH2:Hid (Sl V.drew.drew tg to_ H):=VH.out
   have hvs2:w.heap.size≤V.drew.drew.heap.size:=VB2.out.size
   go_wp2_with fail
   refine(KV key nonce hk hr B hB HC hBb H n hHl hn2 hHb tg to_ tc V.drew.drew VH2 (by omega) htc2).mono ?_
   rintro e w4 ⟨v4,rfl,o4,n4,b4⟩
   have O4:Hid (cC .u8 5 w.heap.size w4 v4 (kK B H n)):=cC.mono o4 hvs2
   have N4:Hid _:=n4
   have B4:Hid (Below w.heap.size w w4):=VB2.out.trans (b4.mono hvs2)
   clear o4 b4 n4
   go_wp2
   exact bodyPost_ret (v:=.tuple #[v4,.bool true]) (by rw[results_tmp2 rfl];rfl) rfl (by first|exact⟨fun _=>⟨_,rfl,O4.out,N4.out⟩,fun h=>absurd rfl h,B4.out⟩|exact⟨⟨_,rfl,O4.out,N4.out⟩,B4.out⟩)
  ·have HTG:Hid _:=hTG
   have hne:((⟨(Lib.bytesOf T).toArray⟩:ByteArray).toList==(⟨(Lib.bytesOf G).toArray⟩:ByteArray).toList)=false:=by
    rw[Go.ByteArray.toList_mk,Go.ByteArray.toList_mk,beq_eq_false_iff_ne]
    exact fun h=>hTG (SS T G hTb hGb (by rw[hTl,hGl]) (by rw[h]))
   clear hTG
   generalize(⟨(Lib.bytesOf T).toArray⟩:ByteArray)=s1 at*
   generalize(⟨(Lib.bytesOf G).toArray⟩:ByteArray)=s2 at*
   go_wp2
   exact bodyPost_ret (v:=.tuple #[.slice none 0 0,.bool false]) (by rw[results_tmp2 rfl];rfl) rfl ⟨fun h=>absurd h HTG.out,fun _=>rfl,bDr VB.out 1⟩
 ·rintro listed i a w1 ⟨y11,y26,y27,y28,y29,y30,y31,y32,rfl,h⟩ hi
  match i,hi with
  | 0,hi=>exact aO rfl (aeW h hi G0.out (by omega) hi32.out)
  | 1,hi=>exact aO rfl (aeX h hi G1.out (by omega) hi12.out)
  | 2,hi=>exact aO rfl (aeY h hi)
  | 3,hi=>exact aO rfl (aeZ h hi)
  | 4,hi=>exact aO rfl (ae0 h hi htc htc2)
  | 5,hi=>exact aO rfl (ae1 h hi)
  | 6,hi=>exact aO rfl (ae2 h hi (fun w' hw'=>UH HPO key nonce hk hr B hB HC hBb H E n m hHl hm hn2 hm2 hHb hEb tg to_ tc eg eo ec w' (Sl.later SH.out hw' SH.out.1) (Sl.later SE.out hw' SE.out.1) T hT))
  | 7,hi=>exact aO rfl (ae3 h hi hzv)
  | 8,hi=>exact aO rfl (ae4 h hi (hi16.out T hTl) (hz16.out T hTl))
  | n+9,hi=>
    obtain⟨_,o,ho,_⟩:=mem_ready.1 hi
    exact absurd (Array.getElem?_eq_some_iff.1 ho).1 (by show¬n+9<9;omega)
theorem JL {P:Program} {o:Oper} {ρ:Operand→Value} (t u:TypeId) (x:Operand) (ho:o.op=.convert t u x) (v:Value) (hx:ρ x=v) (r:Value) (w:World) (h:(convert t u v).run P w=.ok r w):(execOp ρ o).run P w=.ok (.value r) w:=by
 unfold execOp
 simp only[ho,hx,Sem.run_bind,h,Result.andThen_ok,Sem.run_pure]
theorem YQ {P:Program} {o:Oper} {ρ:Operand→Value} (t:TypeId) (x y:Operand) (u:TypeId) (ho:o.op=.binOp .eql t x y u) (S T:ByteArray) (hx:ρ x=.string S) (hy:ρ y=.string T) (w:World):(execOp ρ o).run P w=.ok (.value (.bool (S.toList==T.toList))) w:=by
 unfold execOp
 simp[ho,hx,hy,go_sem]
theorem ab1 (A M:List Int) (hA:aE A) (hM:aE M) (hl:A.length=M.length):((⟨(Lib.bytesOf A).toArray⟩:ByteArray).toList==(⟨(Lib.bytesOf M).toArray⟩:ByteArray).toList)=decide (A=M):=by
 by_cases h:A=M
 ·subst h
  simp
 ·rw[decide_eq_false h,Go.ByteArray.toList_mk,Go.ByteArray.toList_mk,beq_eq_false_iff_ne]
  exact fun q=>h (SS A M hA hM hl (by rw[q]))
def acP:Option Nat→Int
 | some k=>(k:Int)+1
 | none=>0
set_option maxRecDepth 10000 in
set_option maxHeartbeats 2000000 in
theorem PW (L s:List Int) (n:Nat) (hL:L.length=n*32) (hLb:aE L) (hs:s.length=32) (hsb:aE s) (hn:n≤1048576) (kg kc g cap:Nat) (w:World) (hS:Sl w kg 0 L) (hK:Sl w g 0 s):
 Calls prog 38 #[.slice (some ⟨kg,0,none⟩) n kc,.slice (some ⟨g,0,none⟩) 32 cap] w fun e w'=>e=.returned (.int .i64 (acP (pQ L s n)))∧Below w.heap.size w w':=by
 have HL:Hid _:=hL
 have HLB:Hid _:=hLb
 have H32:Hid _:=hs
 have HSB:Hid _:=hsb
 have HS:Hid _:=hS
 have HK:Hid _:=hK
 have hz:=fT
 clear hL hLb hs hsb hS hK
 go_enter func38,ntmps38
 go_wp2_with fail
 go_loopw [9] (fun i wr=>∃k:Nat,k≤n∧i=.int .i64 k∧(∀j,j<k→iO L j≠s)∧Below w.heap.size w wr) (fun i _=>n - (intOf i).toNat)
 case atStart=>exact⟨0,Nat.zero_le _,rfl,fun j hj=>absurd hj (Nat.not_lt_zero _),Below.refl _ _⟩
 case round=>
  obtain⟨k,hk,rfl,hb,hbr⟩:=hrel
  by_cases hlt:k<n
  ·have HBR:Hid _:=hbr
   have HBJ:Hid _:=hb
   have KL:Hid ((iO L k).length=32):=pT HL.out hlt
   have KB:Hid (aE (iO L k)):=dB (cE HLB.out _) _
   have SK:Hid (wr.rangeAt kg (k*32) (fK (iO L k))):=by have q:=(Sl.later HS.out HBR.out HS.out.1).key HL.out hlt;rwa[Nat.zero_add]at q
   have hx:∀W,(Instr.indexAt 37 (.slice (some ⟨kg,0,none⟩) n kc) (.int .i64 (k:Int))).run prog W=.ok (.pointer (some ⟨kg,k*32,none⟩)) W:=fun W=>by have q:=vX kg 0 n kc k hlt W;rwa[Nat.zero_add]at q
   obtain⟨g6,e6⟩:∃n,wr.heap.size=n:=⟨_,rfl⟩
   have A0:Hid ((wr.alloc (.cells (Iv .u8 (aA 32)) 22)).heap[g6]? =some (.cells (Iv .u8 (aA 32)) 22)):=by show _=_;rw[←e6];exact hAN _ _
   have HA:Hid (Below w.heap.size w (wr.alloc (.cells (Iv .u8 (aA 32)) 22))∧w.heap.size≤g6):=⟨HBR.out.alloc HBR.out.size _,by rw[←e6];exact HBR.out.size⟩
   clear hbr hb
   go_wp2_with(first
    | refine wpList_load_mid rfl 22 _ rfl kg (k*32) rfl (fK (iO L k)) _ SK.out underlying22 rfl (sA HL.out hlt) ?_
    | refine wpPr rfl 22 _ _ rfl g6 (Iv .u8 (iO L k)) rfl rfl _ _ A0.out (aS KL.out) (vK KL.out) (aG _ _) ?_)
   intro w1 hP
   have R1:Hid _:=hP.here
   have HB1:Hid _:=hP.below _ _ HA.out.1 HA.out.2
   have hl1:Hid (g6<w1.heap.size):=(Array.getElem?_eq_some_iff.1 R1.out).1
   clear hP A0 HA e6 SK HBR
   go_wp2_with fail
   refine nM w1.heap.size w1 uO (by kernel_rfl) (Below.refl _ _) ?_
   have V0:Hid (∀w',Below w1.heap.size w1 w'→(convert 48 9 (.slice (some ⟨g6,0,none⟩) 32 32)).run prog w'=.ok (.string ⟨(Lib.bytesOf (iO L k)).toArray⟩) w'):=fun w' hw'=>by
    have h9:=CW (P:=prog) (w:=w') (Sl.of_row ((hw'.block _ hl1.out).trans R1.out)) KB.out 48 9 5 32 underlying48 underlying5 underlying9
    rw[KL.out]at h9
    exact h9
   have V1:Hid (∀w',Below w1.heap.size w1 w'→(convert 48 9 (.slice (some ⟨g,0,none⟩) 32 cap)).run prog w'=.ok (.string ⟨(Lib.bytesOf s).toArray⟩) w'):=fun w' hw'=>by
    have h9:=CW (P:=prog) (w:=w') (Sl.later (Sl.later HK.out HB1.out HK.out.1) hw' (Sl.later HK.out HB1.out HK.out.1).1) HSB.out 48 9 5 cap underlying48 underlying5 underlying9
    rw[H32.out]at h9
    exact h9
   have hq:=ab1 (iO L k) s KB.out HSB.out (by rw[KL.out,H32.out])
   refine aB rfl (.slice (some ⟨g6,0,none⟩) 32 32) (fun w'=>by kernel_rfl) ?_
   simp only[pS]
   refine eQ rfl (.string ⟨(Lib.bytesOf (iO L k)).toArray⟩) (fun w' hw'=>by obtain⟨y,rfl⟩:=hw';exact JL 48 9 _ rfl (.slice (some ⟨g6,0,none⟩) 32 32) rfl _ _ (V0.out _ y.bel)) ?_
   simp only[pS]
   refine aB rfl (.slice (some ⟨g,0,none⟩) 32 cap) (fun w'=>by kernel_rfl) ?_
   simp only[pS]
   refine eQ rfl (.string ⟨(Lib.bytesOf s).toArray⟩) (fun w' hw'=>by obtain⟨y,rfl⟩:=hw';exact JL 48 9 _ rfl (.slice (some ⟨g,0,none⟩) 32 cap) rfl _ _ (V1.out _ y.bel)) ?_
   simp only[pS]
   refine aB rfl (.bool (decide (iO L k=s))) (fun w'=>by rw[←hq];exact YQ _ _ _ _ rfl _ _ rfl rfl w') ?_
   simp only[pS]
   refine wqN ?_
   intro w2 hw2
   have HB2:Hid (Below w.heap.size w w2):=HB1.out.trans (hw2.mono HB1.out.size)
   clear hw2 HB1 V0 V1 hq
   by_cases he:iO L k=s
   ·have hd:=decide_eq_true he
    have HF:Hid _:=EL hlt he HBJ.out
    rw[hd]
    have hkw:IntKind.i64.wrap ((k:Int)+1)=(k:Int)+1:=IntWalk.i64_in _ (by omega)
    clear hd he HBJ
    go_wp2_with fail
    exact bodyPost_ret (v:=.int .i64 ((k:Int)+1)) (by kernel_rfl) rfl ⟨by rw[HF.out];rfl,HB2.out⟩
   ·have hd:=decide_eq_false he
    rw[hd]
    clear hd
    have HE:Hid (iO L k≠s):=he
    clear he
    go_wp2_with fail
    go_roundw
    case rel=>exact⟨k+1,by omega,by go_num,fun j hj=>if h:j=k then h▸HE.out else HBJ.out j (by omega),HB2.out⟩
    case measure=>simp[intOf];omega
  ·have hkn:k=n:=by omega
   subst hkn
   have HF:Hid _:=EJ hb
   have HBR:Hid _:=hbr
   clear hbr hb
   go_wp2_with fail
   exact bodyPost_ret (v:=.int .i64 0) (by kernel_rfl) rfl ⟨by rw[HF.out];rfl,HBR.out⟩
end Go.Proofs.YtgcepckaolkeoaaGreatDoor
