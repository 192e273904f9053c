import Derived.Test.YtgcepckaolkeoaaGreatDoorMY09
namespace Go.Proofs.YtgcepckaolkeoaaGreatDoor
open Go.RowKit
open Go.Proofs.Tryz
open Go renaming heap_alloc_new → hAN, heap_alloc_old → hAO, wpList_load_row → wpLr, wpQuiet_nil → wqN
open List renaming drop_succ_cons → dJ, drop_zero → dY, length_replicate → rJ, replicate → rQ, take_succ_cons → tU, take_zero → tJ
open Nat renaming le_refl → nQ, lt_of_lt_of_le → nJ
set_option linter.unusedVariables false
def jA (first eN:List Int) (i:Nat):Int:=(eN.getD (i / 4) 0+first.getD (i / 4) 0)%4294967296 / 256^(i%4)%256
def iA (first eN:List Int):List Int:=pF9 (rQ 64 0) 0 (jA first eN) 64
def LY (x:Int):List Int:=(List.range 4).map (fun i=>x / 256^i%256)
theorem aaE:(prog.info? 22).map (·.size)=some 32:=by kernel_rfl
theorem aaD:(prog.info? 27).map (·.size)=some 16:=by kernel_rfl
theorem RP:(prog.info? 147).map (·.size)=some 64:=by kernel_rfl
theorem AA (x:Int):aE (LY x):=by
 intro i
 match i with
 | 0=>simp only[LY];simp;omega
 | 1=>simp only[LY];simp;omega
 | 2=>simp only[LY];simp;omega
 | 3=>simp only[LY];simp;omega
 | i+4=>simp[LY]
def fR (counter:Int) (nonce:List Int):List Int:=LY counter++nonce
set_option maxRecDepth 10000 in
set_option maxHeartbeats 1000000 in
theorem KE (key nonce:List Int) (counter:Int) (w:World) (hk:key.length=32) (hr:nonce.length=12) (hkb:aE key) (hrb:aE nonce) (hc0:0≤counter) (hc1:counter<4294967296) (ht:jO w):
 Calls prog 139 #[.agg (Iv .u8 key),.int .u32 counter,.agg (Iv .u8 nonce)] w fun e w'=>e=.returned (.agg (Iv .u8 (iA (i5 key (fR counter nonce)) (bK (i5 key (fR counter nonce)) 10))))∧Below w.heap.size w w':=by
 go_enter func139,ntmps139
 go_wp2_with fail
 obtain⟨W,hW,h0,h1,h2,h3,hs,hb⟩:=qZ w (.cells (Iv .u8 key) 22) (.cells (Iv .u8 nonce) 24) (.cells (Iv .u8 (rQ 64 0)) 147) (.cells (Iv .u8 (rQ 16 0)) 27)
 have hW':=hW
 simp only[Iv,rQ,List.map_cons,List.map_nil]at hW'
 simp only[Iv,hW']
 clear hW hW'
 have H0:aC W w.heap.size .u8 key 22:=h0
 have H1:aC W (w.heap.size+1) .u8 nonce 24:=h1
 have H2:aC W (w.heap.size+1+1) .u8 (rQ 64 0) 147:=h2
 have H3:aC W (w.heap.size+1+1+1) .u8 (rQ 16 0) 27:=h3
 clear h0 h1 h2 h3
 refine(oI (w.heap.size+1+1+1) 0 4 16 27 (rQ 16 0) counter W H3 (by decide) (by decide) hc0).mono ?_
 rintro e w1 ⟨rfl,hw1⟩
 have K0:aC w1 w.heap.size .u8 key 22:=by rw[hw1];exact H0.far _ _ (by omega) 0
 have K1:aC w1 (w.heap.size+1) .u8 nonce 24:=by rw[hw1];exact H1.far _ _ (by omega) 0
 have K2:aC w1 (w.heap.size+1+1) .u8 (rQ 64 0) 147:=by rw[hw1];exact H2.far _ _ (by omega) 0
 have K3:aC w1 (w.heap.size+1+1+1) .u8 (LY counter++rQ 12 0) 27:=by rw[hw1];exact H3.put _ 0
 have hb1:Below w.heap.size w w1:=by rw[hw1];exact aM hb _ (by omega) _
 have hs1:w1.heap.size=w.heap.size+1+1+1+1:=by rw[hw1];simpa using hs
 clear hw1 H0 H1 H2 H3 hb hs
 go_wp2_with fail
 refine wRh 2 FF (by kernel_rfl) ?_
 simp only[tU,tJ,dJ,dY]
 repeat(go_big_quiet_step (fail))
 refine wqN ?_
 refine IP .u8 rfl (.tmp 15) (.tmp 16) 48 48 rfl 5 underlying48 (by kernel_rfl) (w.heap.size+1+1+1) 4 12 12 (w.heap.size+1) 0 12 12 rfl rfl (LY counter++rQ 12 0) nonce 27 K3 (by rw[hr];rfl) (by intro j hj;rw[Nat.zero_add];exact K1.cell j hj) (by rw[hr];simp[LY]) ?_
 have hrest:(LY counter++rQ 12 0).take 4++(nonce++(LY counter++rQ 12 0).drop (4+nonce.length))=fR counter nonce:=by
  rw[hr]
  simp[LY,fR]
 rw[hrest]
 clear hrest
 obtain⟨w2,hw2⟩:∃X,X=w1.drew.setRow (w.heap.size+1+1+1) (Iv .u8 (fR counter nonce)):=⟨_,rfl⟩
 rw[←hw2]
 have L0:aC w2 w.heap.size .u8 key 22:=by rw[hw2];exact aC.far (w:=w1.drew) K0 _ _ (by omega) 0
 have L2:aC w2 (w.heap.size+1+1) .u8 (rQ 64 0) 147:=by rw[hw2];exact aC.far (w:=w1.drew) K2 _ _ (by omega) 0
 have L3:aC w2 (w.heap.size+1+1+1) .u8 (fR counter nonce) 27:=by rw[hw2];exact aC.put (w:=w1.drew) K3 _ 0
 have hb2:Below w.heap.size w w2:=by rw[hw2];exact aM (bDr hb1 1) _ (by omega) _
 have hs2:w2.heap.size=w.heap.size+1+1+1+1:=by rw[hw2];simpa using hs1
 clear hw2 K0 K1 K2 K3 hb1 hs1
 have hrl:(fR counter nonce).length=16:=by simp[fR,LY,hr]
 have hik:(prog.info? 22).map (·.size)=some (Iv .u8 key).size:=by rw[aD,hk];exact aaE
 have hir:(prog.info? 27).map (·.size)=some (Iv .u8 (fR counter nonce)).size:=by rw[aD,hrl];exact aaD
 go_wp2_with(first|refine wpLr rfl 22 _ rfl w.heap.size rfl _ (Iv .u8 key) _ _ L0 underlying22 rfl hik ?_ |refine wpLr rfl 27 _ rfl (w.heap.size+1+1+1) rfl _ (Iv .u8 (fR counter nonce)) _ _ L3 underlying27 rfl hir ?_)
 refine(KF key (fR counter nonce) w2 hk hrl hkb (aY (AA _) hrb)).mono ?_
 have hF:Hid ((i5 key (fR counter nonce)).length=16∧bF (i5 key (fR counter nonce))):=⟨by rw[JO];rfl,AP hkb (aY (AA _) hrb)⟩
 generalize hFe:i5 key (fR counter nonce)=F at*
 have HFe:Hid (i5 key (fR counter nonce)=F):=hFe
 clear hFe
 rintro e w3 ⟨rfl,hb3⟩
 have M2:aC w3 (w.heap.size+1+1) .u8 (rQ 64 0) 147:=L2.below hb3 (by omega)
 have hb4:Below w.heap.size w w3:=hb2.trans (hb3.mono (by omega))
 have hs3:w.heap.size+1+1+1+1≤w3.heap.size:=by have:=hb3.size;omega
 clear L0 L2 L3 hb2 hb3 hs2 hik hir
 have hiF:(prog.info? 177).map (·.size)=some (Iv .u32 F).size:=by rw[aD,hF.out.1];exact yZ
 have HT:Hid ((w3.alloc (.cells (Iv .u32 (rQ 16 0)) 177)).heap[w3.heap.size]? =some (.cells (Iv .u32 (rQ 16 0)) 177)):=hAN _ _
 have HZ:Hid ((Iv .u32 (rQ 16 0)).size=(Iv .u32 F).size):=by show _=_;rw[aD,aD,hF.out.1,rJ]
 have HG:Hid ((((w3.alloc (.cells (Iv .u32 (rQ 16 0)) 177)).setRow w3.heap.size (Iv .u32 F)).alloc (.cells (Iv .u8 (rQ 64 0)) 147)).heap[w3.heap.size]? =some (.cells (Iv .u32 F) 177)):=by
  show _=_
  rw[hAO _ _ (by simp),setRow_heap _ _ _ _ _ _ HT.out]
 go_wp2_with(first|refine wpList_store_row rfl 177 _ _ rfl w3.heap.size (Iv .u32 F) rfl rfl _ _ HT.out hiF HZ.out (aG _ _) ?_ |refine wpLr rfl 177 _ rfl w3.heap.size rfl _ (Iv .u32 F) _ _ HG.out underlying177 rfl hiF ?_)
 obtain⟨W4,hW4⟩:∃X,X=((w3.alloc (.cells (Iv .u32 (rQ 16 0)) 177)).setRow w3.heap.size (Iv .u32 F)).alloc (.cells (Iv .u8 (rQ 64 0)) 147):=⟨_,rfl⟩
 have X1:aC W4 w3.heap.size .u32 F 177:=by rw[hW4];exact HG.out
 have X2:aC W4 (w3.heap.size+1) .u8 (rQ 64 0) 147:=by
  rw[hW4]
  show _=_
  rw[bO,if_pos (by simp)]
 have X3:aC W4 (w.heap.size+1+1) .u8 (rQ 64 0) 147:=by
  rw[hW4]
  show _=_
  rw[hAO _ _ (by simp;omega),cG _ _ _ _ (by omega),hAO _ _ (by omega)]
  exact M2
 have X4:Below w.heap.size w W4:=by
  rw[hW4]
  exact(aM (hb4.alloc (by omega) _) _ (by omega) _).alloc (by simp;omega) _
 have X5:w3.heap.size+1<W4.heap.size:=X2.lt
 refine(show Calls prog 149 #[.agg (Iv .u32 F)] W4 _ from(GJ F W4 hF.out.1 hF.out.2 (ht.later X4 (nQ _))).mono ?_)|>(hW4▸ ·)
 rintro e w5 ⟨rfl,hb5⟩
 have hR:Hid ((bK F 10).length=16∧bF (bK F 10)):=⟨by rw[gH,hF.out.1],pZ hF.out.2 10⟩
 generalize hRe:bK F 10=R at*
 have HRe:Hid (bK F 10=R):=hRe
 clear hRe
 have Y1:aC w5 w3.heap.size .u32 F 177:=X1.below hb5 (by omega)
 have Y2:aC w5 (w3.heap.size+1) .u8 (rQ 64 0) 147:=X2.below hb5 (by omega)
 have Y3:aC w5 (w.heap.size+1+1) .u8 (rQ 64 0) 147:=X3.below hb5 X3.lt
 have Y4:Below w.heap.size w w5:=X4.trans (hb5.mono (by omega))
 have hgt:w.heap.size+1+1<w3.heap.size:=by omega
 clear X1 X2 X3 X4 X5 hb5 hW4 HG HT HZ M2 hb4 hs3 hiF
 generalize w3.heap.size=gf at*
 have hib:(prog.info? 147).map (·.size)=some (Iv .u8 (iA F R)).size:=by rw[aD,iA,aP _ _ _ _ (by simp)];exact RP
 have HIB:Hid ((Iv .u8 (rQ 64 0)).size=(Iv .u8 (iA F R)).size):=by show _=_;rw[aD,aD,iA,aP _ _ _ _ (by simp)]
 have hib':Hid ((prog.info? 147).map (·.size)=some (Iv .u8 (iA F R)).size):=hib
 clear hib
 go_wp2_with fail
 go_loopw [23] (fun i wr=>∃k:Nat,k≤16∧i=.int .i64 k∧aC wr gf .u32 F 177∧aC wr (gf+1) .u8 (pF9 (rQ 64 0) 0 (jA F R) (4*k)) 147∧aC wr (w.heap.size+1+1) .u8 (rQ 64 0) 147∧Below w.heap.size w wr) (fun i _=>16 - (intOf i).toNat)
 case atStart=>exact⟨0,by omega,rfl,Y1,by rw[Nat.mul_zero,bZ];exact Y2,Y3,Y4⟩
 case round=>
  obtain⟨k,hk,rfl,Z1,Z2,Z3,Z4⟩:=hrel
  clear Y1 Y2 Y3 Y4
  by_cases hlt:k<16
  ·have hRk:∀wx,(Instr.index 177 (.agg (Iv .u32 R)) (.int .i64 (k:Int))).run prog wx=.ok (.int .u32 (R.getD k 0)) wx:=kZ 177 23 16 .u32 R k underlying177 underlying23 (by kernel_rfl) hR.out.1 hlt
   have hFk:wr.cell? ⟨gf,k,none⟩=some (.int .u32 (F.getD k 0)):=Z1.cell k (by rw[hF.out.1];exact hlt)
   have wR:=hR.out.2 k
   have wF:=hF.out.2 k
   have HS:Hid (pF9 (pF9 (rQ 64 0) 0 (jA F R) (4*k)) (4*k) (fun i=>(R.getD k 0+F.getD k 0)%4294967296 / 256^i%256) 4=pF9 (rQ 64 0) 0 (jA F R) (4*(k+1))):=by
    show _=_
    rw[zL _ _ _ _ _ (by simp;omega),Nat.mul_add]
    intro i hi
    rw[jA,show(4*k+i) / 4=k by omega,show(4*k+i)%4=i by omega]
   generalize R.getD k 0=x at*
   generalize F.getD k 0=y at*
   obtain⟨x0,x1⟩:=wR
   obtain⟨y0,y1⟩:=wF
   have hk0:(0:Int)≤(k:Int):=by omega
   have hk1:(k:Int)<16:=by omega
   have s1:(0:Int)≤4*(k:Int):=by omega
   have s2:4*(k:Int)≤4*(k:Int)+4:=by omega
   have s3:4*(k:Int)+4≤64:=by omega
   have s4:(0:Int)≤4*(k:Int)+4:=by omega
   go_wp2_with fail
   refine wRh 11 FF (by kernel_rfl) ?_
   simp only[tU,tJ,dJ,dY]
   repeat(go_big_quiet_step (fail))
   refine wqN ?_
   go_wp2_with fail
   rw[show 4*k+4 - 4*k=4 by omega]
   refine(oI (gf+1) (4*k) 4 _ 147 (pF9 (rQ 64 0) 0 (jA F R) (4*k)) ((x+y)%4294967296) wr.drew Z2 (by rw[aP _ _ _ _ (by simp;omega)];simp;omega) (by omega) (by omega)).mono ?_
   rintro e w6 ⟨rfl,hw6⟩
   rw[HS.out]at hw6
   have V1:aC w6 gf .u32 F 177:=by rw[hw6];exact aC.far (w:=wr.drew) Z1 _ _ (by omega) 0
   have V2:aC w6 (gf+1) .u8 (pF9 (rQ 64 0) 0 (jA F R) (4*(k+1))) 147:=by rw[hw6];exact aC.put (w:=wr.drew) Z2 _ 0
   have V3:aC w6 (w.heap.size+1+1) .u8 (rQ 64 0) 147:=by rw[hw6];exact aC.far (w:=wr.drew) Z3 _ _ (by omega) 0
   have V4:Below w.heap.size w w6:=by rw[hw6];exact aM (bDr Z4 1) _ (by omega) _
   clear hw6 Z1 Z2 Z3 Z4 HS
   go_wp2_with fail
   go_roundw
   case rel=>exact⟨k+1,by omega,by go_num,V1,V2,V3,V4⟩
   case measure=>simp[intOf];omega
  ·obtain rfl:k=16:=by omega
   have Z2':aC wr (gf+1) .u8 (iA F R) 147:=Z2
   clear Z2
   go_wp2_with(first|refine wpLr rfl 147 _ rfl _ rfl _ _ _ _ Z2' underlying147 rfl hib'.out ?_ |refine wpList_store_row rfl 147 _ _ rfl _ (Iv .u8 (iA F R)) rfl rfl _ _ Z3 hib'.out HIB.out (aG _ _) ?_)
   refine oT (cs:=Iv .u8 (iA F R)) results139 ?_ (setRow_heap _ _ _ _ _ _ Z3) underlying147 hib'.out ?_
   ·rfl
   ·exact⟨by rw[HFe.out,HRe.out],aM Z4 _ (by omega) _⟩
theorem xE (key:List Int) (counter:Int) (ws:List Int):(k9 key counter ws).length=16:=by
 have h1:(pF9 kM 4 (aF key) 8).length=16:=by rw[aP _ _ _ _ (by decide)];rfl
 unfold k9
 rw[aP _ _ _ _ (by rw[h1];decide)]
 exact h1
def vA (st mx:List Int) (k:Nat):List Int:=(List.range k).map fun i=>(aK mx i+aK st i)%4294967296
theorem BK (st mx:List Int) (k:Nat):(vA st mx k).length=k:=by simp[vA]
theorem V6 (st mx:List Int) (k:Nat):vA st mx (k+1)=vA st mx k++[(aK mx k+aK st k)%4294967296]:=by simp[vA,List.range_succ]
theorem YZ (st mx:List Int) (k:Nat):bF (vA st mx k):=by
 intro i
 unfold vA fU
 rw[List.getD_eq_getElem?_getD,List.getElem?_map]
 cases (List.range k)[i]? with
 | none=>simp
 | some j=>simp only[Option.map_some,Option.getD_some];omega
theorem WV (st mx:List Int):bytesOf (vA st mx 16) (4*16)=iA st mx:=by
 have h:iA st mx=(List.range 64).map (jA st mx):=by simp[iA,pF9]
 rw[h]
 unfold bytesOf
 refine List.map_congr_left fun i hi=>?_
 have hi':i<64:=List.mem_range.1 hi
 unfold iN jA
 have e:aK (vA st mx 16) (i / 4)=(mx.getD (i / 4) 0+st.getD (i / 4) 0)%4294967296:=by
  unfold aK vA
  rw[List.getD_eq_getElem?_getD,List.getElem?_map,List.getElem?_range (by omega)]
  rfl
 rw[e]
theorem GX (l:List Int) (off k:Nat) (f g:Nat→Int) (h:∀i,i<k→f i=g i):pF9 l off f k=pF9 l off g k:=by
 unfold pF9
 rw[List.map_congr_left (fun i hi=>h i (List.mem_range.1 hi))]
theorem JN (key nonce:List Int) (counter:Int) (hc0:0≤counter) (hc1:counter<4294967296):k9 key counter (bG nonce 3)=i5 key (fR counter nonce):=by
 unfold k9 i5
 refine GX _ _ _ _ _ fun i hi=>?_
 match i,hi with
 | 0,_=>
   simp[aK,aF,fR,LY,List.range_succ]
   omega
 | 1,_=>simp[aK,aF,fR,LY,bG,List.range_succ]
 | 2,_=>simp[aK,aF,fR,LY,bG,List.range_succ]
 | 3,_=>simp[aK,aF,fR,LY,bG,List.range_succ]
theorem QM (key nonce:List Int) (counter:Int) (hkb:aE key) (hrb:aE nonce) (hc0:0≤counter) (hc1:counter<4294967296):bF (k9 key counter (bG nonce 3)):=by
 rw[JN key nonce counter hc0 hc1]
 exact AP hkb (aY (AA _) hrb)
set_option maxRecDepth 10000 in
set_option maxHeartbeats 2000000 in
theorem AH (key nonce:List Int) (counter:Int) (w:World) (hk:key.length=32) (hr:nonce.length=12) (hkb:aE key) (hrb:aE nonce) (hc0:0≤counter) (hc1:counter<4294967296)
 (Bf:List Int) (HBF:Hid (iA (k9 key counter (bG nonce 3)) (bK (k9 key counter (bG nonce 3)) 10)=Bf)):
 Calls prog 81 #[.agg (Iv .u8 key),.int .u32 counter,.agg (Iv .u8 nonce)] w fun e w'=>e=.returned (.agg (Iv .u8 Bf))∧Below w.heap.size w w':=by
 have hzv:∀W,(zeroValue 147).run prog W=.ok (.agg (Iv .u8 (aA 64))) W:=(zero_of_info (n:=64) (by kernel_rfl)).1
 go_enter func81,ntmps81
 go_wp2_with fail
 obtain⟨W,hW,g0,g1,g2,hs,hb⟩:=oF w (.cells (Iv .u8 key) 22) (.cells (Iv .u8 nonce) 24) (.cells (Iv .u8 (aA 64)) 147)
 rw[hW]
 clear hW
 refine rN (ops:=oH) (qY key nonce counter w.heap.size W (bG nonce 3)) (by kernel_rfl) ?_ ?_ ?_
 ·exact⟨undef,undef,undef,undef,undef,undef,undef,undef,rfl,{ size:=rfl,bel:=bDr (Below.refl _ _) 1,p0:=fun h=>(by cases h),p1:=fun h=>(by cases h),p3:=fun h=>(by cases h),p2:=fun h=>(by cases h),p4:=fun h=>(by cases h),p5:=fun h=>(by cases h),p6:=fun h=>(by cases h),p8:=fun h=>(by cases h),p7:=fun h=>(by cases h) }⟩
 ·rintro listed a w1 ⟨x7,x14,x15,x16,x17,x18,x19,x20,rfl,h⟩ hready
  obtain⟨l7,l8⟩:=ZW h.size hready
  obtain⟨g7,rfl,hg7,hrow,hdis⟩:=h.p7 l7
  rw[l8,if_pos rfl]at hrow
  have hbel:=h.bel
  clear h hready l7 l8 hdis listed
  have hst:=xE key counter (bG nonce 3)
  have h32:bF (k9 key counter (bG nonce 3)):=QM key nonce counter hkb hrb hc0 hc1
  generalize k9 key counter (bG nonce 3)=st at*
  have hzt:∀W,(zeroValue 177).run prog W=.ok (.agg (Iv .u32 (aA 16))) W:=(zero_of_info (n:=16) (by kernel_rfl)).1
  have hik:∀l:List Int,l.length=16→(prog.info? 177).map (·.size)=some (Iv .u32 l).size:=fun l hl=>by rw[aD,hl];exact RT
  have HIK:Hid _:=hik
  have HR7:Hid _:=hrow
  have HZ64:=(hbel.block _ (show w.heap.size+1+1<W.heap.size by omega)).trans g2
  have HOUT:Hid _:=HZ64
  have HBW:Hid (Below w.heap.size w w1):=hb.trans (hbel.mono (by omega))
  have hsz1:=hbel.size
  have hlt7:g7<w1.heap.size:=(Array.getElem?_eq_some_iff.1 hrow).1
  clear hik hrow HZ64 g0 g1 g2
  unfold IT
  go_wp2_with(refine wpLr rfl 177 _ rfl g7 rfl _ (Iv .u32 st) _ _ HR7.out underlying177 rfl (HIK.out st hst) ?_)
  refine(KU st w1 hst h32).mono ?_
  rintro e w2 ⟨rfl,hb2⟩
  have hmx:(bK st 10).length=16:=(gH st 10).trans hst
  have hm32:bF (bK st 10):=pZ h32 10
  generalize bK st 10=mx at*
  have HR7b:Hid _:=(hb2.block _ hlt7).trans HR7.out
  have HOUTb:Hid _:=(hb2.block _ (show w.heap.size+1+1<w1.heap.size by omega)).trans HOUT.out
  have HBWb:Hid _:=HBW.out.trans (hb2.mono HBW.out.size)
  have hlt2:g7<w2.heap.size:=nJ hlt7 hb2.size
  have hlo2:w.heap.size+1+1<w2.heap.size:=by have:=hb2.size;omega
  clear hb2 HR7 HOUT HBW hbel hsz1 hlt7
  have HT:Hid ((w2.alloc (.cells (Iv .u32 (aA 16)) 177)).heap[w2.heap.size]? =some (.cells (Iv .u32 (aA 16)) 177)):=hAN _ _
  have HS:Hid ((Iv .u32 (aA 16)).size=(Iv .u32 mx).size):=by show _=_;rw[aD,aD,hmx];rfl
  go_wp2_with(refine wpPr rfl 177 _ _ rfl w2.heap.size (Iv .u32 mx) rfl rfl _ _ HT.out (HIK.out mx hmx) HS.out (aG _ _) ?_)
  intro w3 hP3
  have R8:=hP3.here
  have R7:=(hP3.far g7 (by omega)).trans ((hAO _ _ hlt2).trans HR7b.out)
  have RO:=(hP3.far (w.heap.size+1+1) (by omega)).trans ((hAO _ _ hlo2).trans HOUTb.out)
  have RB:Below w.heap.size w w3:=hP3.below _ _ (HBWb.out.alloc HBWb.out.size _) HBWb.out.size
  have hs3:w3.heap.size=w2.heap.size+1:=by rw[hP3.size];simp
  obtain⟨g8,hg8⟩:∃g,g=w2.heap.size:=⟨_,rfl⟩
  rw[←hg8]at R8 hs3 hlt2 hlo2⊢
  clear hP3 HT HS HR7b HOUTb HBWb hg8
  have K8:Hid _:=R8
  have K7:Hid _:=R7
  have KO:Hid _:=RO
  have KB:Hid _:=RB
  clear R8 R7 RO RB
  go_wp2_with fail
  have hs3g:w3.heap.size=g8+1:=hs3
  go_loopw [9,24] (fun x i wr=>∃k:Nat,k≤16∧i=.int .i64 k∧cC .u32 23 w3.heap.size wr x (vA st mx k)∧Below w3.heap.size w3 wr) (fun _ i _=>16 - (intOf i).toNat)
  case atStart=>
   refine⟨0,Nat.zero_le _,rfl,?_,(Below.refl _ _).alloc (nQ _) _⟩
   have:=cC.nil (k:=.u32) (e:=23) (base:=w3.heap.size) w3 (nQ _)
   rw[hs3g]at this⊢
   exact this
  case round=>
   obtain⟨k,hk,rfl,hown,hbel⟩:=hrel
   have hszr:=hbel.size
   by_cases hlt:k<16
   ·have c8:wr.cell? ⟨g8,k,none⟩=some (.int .u32 (aK mx k)):=by
     rw[cell_of_row _ _ _ _ _ _ ((hbel.block g8 (by omega)).trans K8.out),cN .u32 _ k (by omega)]
     simp[aK,hmx,hlt]
    have c7:wr.cell? ⟨g7,k,none⟩=some (.int .u32 (aK st k)):=by
     rw[cell_of_row _ _ _ _ _ _ ((hbel.block g7 (by omega)).trans K7.out),cN .u32 _ k (by omega)]
     simp[aK,hst,hlt]
    have hlS:(vA st mx k).length=k:=BK st mx k
    have HSS:Hid _:=V6 st mx k
    have b8:=hm32 k
    have b7:=h32 k
    have b8':0≤aK mx k∧aK mx k<4294967296:=b8
    have b7':0≤aK st k∧aK st k<4294967296:=b7
    clear b8 b7
    generalize aK mx k=y8 at*
    generalize aK st k=y7 at*
    obtain⟨b80,b81⟩:=b8'
    obtain⟨b70,b71⟩:=b7'
    have HOW:Hid _:=hown
    have HBE:Hid _:=hbel
    clear hown hbel
    obtain⟨WX,hWX⟩:∃X,X=wr:=⟨_,rfl⟩
    rw[←hWX]at c8 c7 HOW HBE hszr⊢
    clear hWX
    go_wp2_with fail
    refine wRl 8 (fun _=>True) [(.held,[0,1,2,4,5]),(.exact,[3,6]),(.held,[7]),(.tail,[8]),(.tail,[9]),(.tail,[10])] (by kernel_rfl) (by kernel_rfl) trivial ?_
    simp only[iQ,oS]
    repeat(go_big_quiet_step (fail))
    refine wqN ?_
    repeat(go_big_quiet_step (fail))
    refine wqN ?_
    repeat(go_big_quiet_step (fail))
    refine wqN ?_
    go_wp2_with fail
    refine⟨trivial,?_⟩
    refine cM .u32 102 23 4 underlying102 s7 (by decide) rfl (.tmp 27) (.tmp 35) rfl w3.heap.size w3 WX.drew _ (vA st mx k) _ rfl rfl HOW.out (bDr HBE.out 1) hszr (by rw[hlS];omega) ?_
    intro v' w' ho hb' _ _
    simp only[pS]
    go_wp2_with fail
    refine⟨trivial,?_⟩
    go_wp2_with fail
    refine⟨trivial,dI ?_⟩
    go_wp2
    go_roundw
    case rel=>
     refine⟨k+1,by omega,by go_num,?_,hb'⟩
     rw[HSS.out]
     exact mG ho rfl
    case measure=>simp[intOf];omega
   ·obtain rfl:k=16:=by omega
    have hSl:(vA st mx 16).length=16:=BK st mx 16
    have hS32:bF (vA st mx 16):=YZ st mx 16
    have HFIN:Hid (bytesOf (vA st mx 16) (4*16)=Bf):=(WV st mx).trans HBF.out
    clear HBF
    generalize vA st mx 16=S at*
    have HOW:Hid _:=hown
    have HBW:Hid (Below w.heap.size w wr):=KB.out.trans (hbel.mono (by omega))
    have HRES:Hid _:=(hbel.block (w.heap.size+1+1) (by omega)).trans KO.out
    have hsr:w.heap.size+1+1<wr.heap.size:=by omega
    clear hown hbel K8 K7 KO KB hszr hzt HIK
    have HT:Hid ((wr.alloc (.cells (Iv .u8 (aA 64)) 147)).heap[wr.heap.size]? =some (.cells (Iv .u8 (aA 64)) 147)):=hAN _ _
    have hi64:Hid (∀l:List Int,l.length=64→(prog.info? 147).map (·.size)=some (Iv .u8 l).size):=fun l hl=>by rw[aD,hl];exact RP
    go_wp2_with(refine wpPr rfl 147 _ _ rfl wr.heap.size (Iv .u8 (aA 64)) rfl rfl _ _ HT.out (hi64.out _ (by simp[aA])) rfl (aG _ _) ?_)
    intro w4 hP4
    have hb4:Below wr.heap.size wr w4:=hP4.below _ _ ((Below.refl _ _).alloc (nQ _) _) (nQ _)
    have o4:=cC.later HOW.out hb4
    obtain⟨a9,n9,c9,rfl,hn9,hrd9⟩:=o4.rdk
    rw[hSl]at hn9
    subst hn9
    have RO:=hP4.here
    have hs4:wr.heap.size<w4.heap.size:=by rw[hP4.size];simp
    have RB:=HBW.out.trans (hb4.mono HBW.out.size)
    have RR:=(hb4.block (w.heap.size+1+1) (by omega)).trans HRES.out
    obtain⟨gO,hgO⟩:∃g,g=wr.heap.size:=⟨_,rfl⟩
    rw[←hgO]at RO hs4 hsr⊢
    have HC:Hid _:=zX S 16 hSl hS32 (by omega) a9 c9 w4 hrd9
    have MO:Hid _:=RO
    have MB:Hid _:=RB
    have MR:Hid _:=RR
    clear RO RB RR hP4 hb4 o4 hrd9 HOW HBW HRES HT hgO
    go_wp2_with fail
    refine Calls.mono HC.out ?_
    rintro e w5 ⟨v5,rfl,o5,b5⟩
    have hBl:(bytesOf S (4*16)).length=64:=jR _ _
    obtain⟨_,hbad⟩|⟨a3,c3,rfl,ha3,hb3,_,_,hcv,_⟩:=o5.at
    ·exact absurd (congrArg List.length hbad) (by rw[hBl];simp)
    rw[hBl]at hcv⊢
    generalize bytesOf S (4*16)=B at*
    have r1:=(b5.block gO hs4).trans MO.out
    have r0:=(b5.block (w.heap.size+1+1) (by omega)).trans MR.out
    have hbw:=MB.out.trans (b5.mono MB.out.size)
    have y3:∀j,j<64→w5.cell? ⟨a3,j,none⟩=some (.int .u8 (B.getD j 0)):=hcv
    have hn3:a3≠gO:=by omega
    clear o5 b5 MO MB MR hcv HC ha3 hb3
    go_wp2_with fail
    have hlen:=hBl
    go_loopw [42] (fun i wr=>∃k:Nat,k≤64∧i=.int .i64 k∧wr.heap[gO]? =some (.cells (Iv .u8 (aX B 64 k)) 147)∧wr.heap[w.heap.size+1+1]? =some (.cells (Iv .u8 (aA 64)) 147)∧(∀j,j<64→wr.cell? ⟨a3,j,none⟩=some (.int .u8 (B.getD j 0)))∧Below w.heap.size w wr) (fun i _=>64 - (intOf i).toNat)
    case atStart=>exact⟨0,Nat.zero_le _,rfl,r1,r0,y3,hbw⟩
    case round=>
     obtain⟨k,hk,rfl,q1,q0,qL,qB⟩:=hrel
     by_cases hlt:k<64
     ·have cB:=qL k hlt
      have cO:∃v,wr.cell? ⟨gO,k,none⟩=some v:=by
       rw[cell_of_row _ _ _ _ _ _ q1]
       exact jW _ _ _ (by rw[iW _ _ _ hlen (by omega)];omega)
      obtain⟨v,hv⟩:=cO
      have fO:wr.frozen? ⟨gO,k,none⟩=false:=frozen_of_row _ _ _ _ _ q1
      have hgd:B.getD k 0=B[k]:=by rw[List.getD_eq_getElem?_getD,List.getElem?_eq_getElem (by omega)];rfl
      rw[hgd]at cB
      clear hgd
      have Q1:Hid _:=q1
      have Q0:Hid _:=q0
      have QL:Hid _:=qL
      have QB:Hid _:=qB
      clear q1 q0 qL qB r1 r0 y3 hbw
      go_wp2
      go_roundw
      case rel=>
       refine⟨k+1,by omega,by go_num,?_,?_,?_,?_⟩
       ·rw[heap_setCell_same _ _ _ _ _ _ Q1.out,bN]
        unfold aX
        exact congrArg (fun z=>some (Obj.cells (Iv .u8 z) 147)) (qF B 64 k hlen hlt 0)
       ·rw[heap_setCell_other _ _ _ _ (by show w.heap.size+1+1≠gO;omega)]
        exact Q0.out
       ·intro j hj
        rw[World.cell?_setCell_other _ _ _ _ (by intro e;cases e;exact hn3 rfl)]
        exact QL.out j hj
       ·exact QB.out.setCell (p:=⟨gO,k,none⟩) (by show w.heap.size≤gO;omega) _
      case measure=>simp[intOf];omega
     ·obtain rfl:k=64:=by omega
      rw[zY B 64 hlen]at q1
      have G2:Hid _:=q1
      have G1:Hid _:=q0
      have GB:Hid _:=qB
      clear q1 q0 qL qB r1 r0 y3 hbw
      go_wp2_with(first
       | refine wpLr rfl 147 _ rfl gO rfl _ (Iv .u8 B) _ _ G2.out underlying147 rfl (hi64.out B hlen) ?_
       | refine wpPr rfl 147 _ _ rfl (w.heap.size+1+1) (Iv .u8 B) rfl rfl _ _ G1.out (hi64.out B hlen) ?hs (aG _ _) ?_)
      case hs=>rw[aD,aD,hlen];rfl
      intro W9 hP9
      go_wp2
      exact bodyPost_ret (v:=.agg (Iv .u8 B)) (results_cell_row rfl _ _ _ _ (Iv .u8 B) _ _ rfl hP9.here underlying147 rfl (hi64.out B hlen)) rfl ⟨by rw[HFIN.out],hP9.below _ _ GB.out (by omega)⟩
 ·rintro listed i a w1 ⟨x7,x14,x15,x16,x17,x18,x19,x20,rfl,h⟩ hi
  have hwl:(bG nonce 3).length=3:=by simp[bG]
  match i,hi with
  | 0,hi=>exact aO rfl (ab4 h hi hk g0 (by omega))
  | 1,hi=>exact aO rfl (ab5 h hi)
  | 2,hi=>exact aO rfl (ab6 h hi)
  | 3,hi=>exact aO rfl (ab7 h hi)
  | 4,hi=>exact aO rfl (ab8 h hi hr hrb g1 (by omega) rfl)
  | 5,hi=>exact aO rfl (ab9 h hi hwl)
  | 6,hi=>exact aO rfl (acA h hi hk hkb hwl)
  | 7,hi=>exact aO rfl (acB h hi)
  | 8,hi=>exact aO rfl (acC h hi (xE _ _ _))
  | n+9,hi=>
    obtain⟨_,o,ho,_⟩:=mem_ready.1 hi
    exact absurd (Array.getElem?_eq_some_iff.1 ho).1 (by show¬n+9<9;omega)
theorem AG (key nonce:List Int) (counter:Int) (w:World) (hk:key.length=32) (hr:nonce.length=12) (hkb:aE key) (hrb:aE nonce) (hc0:0≤counter) (hc1:counter<4294967296):
 Calls prog 81 #[.agg (Iv .u8 key),.int .u32 counter,.agg (Iv .u8 nonce)] w fun e w'=>e=.returned (.agg (Iv .u8 (iA (i5 key (fR counter nonce)) (bK (i5 key (fR counter nonce)) 10))))∧Below w.heap.size w w':=by
 rw[←JN key nonce counter hc0 hc1]
 exact AH key nonce counter w hk hr hkb hrb hc0 hc1 _ rfl
def aR:List Int→Int
 | []=>0
 | x::r=>x+256*aR r
def cW (zs:List Int):List Int:=([aF zs 0,aF zs 1,aF zs 2,aF zs 3,aF zs 4]).set (zs.length / 4) (bits .or .u32 (aF zs (zs.length / 4)) (2^(8*(zs.length%4))))
def hU (zs:List Int):Prop:=
 ∃v0 v1 v2 v3 v4:Int,cW zs=[v0,v1,v2,v3,v4]∧0≤v0∧v0<4294967296∧0≤v1∧v1<4294967296∧0≤v2∧v2<4294967296∧0≤v3∧v3<4294967296∧0≤v4∧v4≤1∧
  v0+4294967296*v1+18446744073709551616*v2+79228162514264337593543950336*v3+340282366920938463463374607431768211456*v4=aR zs+256^zs.length
theorem ac3 (z0:Int) (h0:0≤z0∧z0≤255):hU [z0]:=by
 have e:bits .or .u32 (z0) 256=(z0)+256:=qQ 8 _ _ (by decide) (by omega) (by decide) (by omega) (by omega) (by omega)
 refine⟨(z0)+256,0,0,0,0,?_,?_⟩
 ·simp[cW,aF]
  rw[←e]
 ·simp only[aR,List.length_cons,List.length_nil]
  omega
theorem ac4 (z0 z1:Int) (h0:0≤z0∧z0≤255) (h1:0≤z1∧z1≤255):hU [z0,z1]:=by
 have e:bits .or .u32 (z0+256*z1) 65536=(z0+256*z1)+65536:=qQ 16 _ _ (by decide) (by omega) (by decide) (by omega) (by omega) (by omega)
 refine⟨(z0+256*z1)+65536,0,0,0,0,?_,?_⟩
 ·simp[cW,aF]
  rw[←e]
 ·simp only[aR,List.length_cons,List.length_nil]
  omega
theorem ac5 (z0 z1 z2:Int) (h0:0≤z0∧z0≤255) (h1:0≤z1∧z1≤255) (h2:0≤z2∧z2≤255):hU [z0,z1,z2]:=by
 have e:bits .or .u32 (z0+256*z1+65536*z2) 16777216=(z0+256*z1+65536*z2)+16777216:=qQ 24 _ _ (by decide) (by omega) (by decide) (by omega) (by omega) (by omega)
 refine⟨(z0+256*z1+65536*z2)+16777216,0,0,0,0,?_,?_⟩
 ·simp[cW,aF]
  rw[←e]
 ·simp only[aR,List.length_cons,List.length_nil]
  omega
theorem ac6 (z0 z1 z2 z3:Int) (h0:0≤z0∧z0≤255) (h1:0≤z1∧z1≤255) (h2:0≤z2∧z2≤255) (h3:0≤z3∧z3≤255):hU [z0,z1,z2,z3]:=by
 have e:bits .or .u32 (0) 1=(0)+1:=qQ 0 _ _ (by decide) (by omega) (by decide) (by omega) (by omega) (by omega)
 refine⟨z0+256*z1+65536*z2+16777216*z3,1,0,0,0,?_,?_⟩
 ·simp[cW,aF]
  exact e.trans (by omega)
 ·simp only[aR,List.length_cons,List.length_nil]
  omega
theorem ac7 (z0 z1 z2 z3 z4:Int) (h0:0≤z0∧z0≤255) (h1:0≤z1∧z1≤255) (h2:0≤z2∧z2≤255) (h3:0≤z3∧z3≤255) (h4:0≤z4∧z4≤255):hU [z0,z1,z2,z3,z4]:=by
 have e:bits .or .u32 (z4) 256=(z4)+256:=qQ 8 _ _ (by decide) (by omega) (by decide) (by omega) (by omega) (by omega)
 refine⟨z0+256*z1+65536*z2+16777216*z3,(z4)+256,0,0,0,?_,?_⟩
 ·simp[cW,aF]
  rw[←e]
 ·simp only[aR,List.length_cons,List.length_nil]
  omega
theorem ac8 (z0 z1 z2 z3 z4 z5:Int) (h0:0≤z0∧z0≤255) (h1:0≤z1∧z1≤255) (h2:0≤z2∧z2≤255) (h3:0≤z3∧z3≤255) (h4:0≤z4∧z4≤255) (h5:0≤z5∧z5≤255):hU [z0,z1,z2,z3,z4,z5]:=by
 have e:bits .or .u32 (z4+256*z5) 65536=(z4+256*z5)+65536:=qQ 16 _ _ (by decide) (by omega) (by decide) (by omega) (by omega) (by omega)
 refine⟨z0+256*z1+65536*z2+16777216*z3,(z4+256*z5)+65536,0,0,0,?_,?_⟩
 ·simp[cW,aF]
  rw[←e]
 ·simp only[aR,List.length_cons,List.length_nil]
  omega
theorem ac9 (z0 z1 z2 z3 z4 z5 z6:Int) (h0:0≤z0∧z0≤255) (h1:0≤z1∧z1≤255) (h2:0≤z2∧z2≤255) (h3:0≤z3∧z3≤255) (h4:0≤z4∧z4≤255) (h5:0≤z5∧z5≤255) (h6:0≤z6∧z6≤255):hU [z0,z1,z2,z3,z4,z5,z6]:=by
 have e:bits .or .u32 (z4+256*z5+65536*z6) 16777216=(z4+256*z5+65536*z6)+16777216:=qQ 24 _ _ (by decide) (by omega) (by decide) (by omega) (by omega) (by omega)
 refine⟨z0+256*z1+65536*z2+16777216*z3,(z4+256*z5+65536*z6)+16777216,0,0,0,?_,?_⟩
 ·simp[cW,aF]
  rw[←e]
 ·simp only[aR,List.length_cons,List.length_nil]
  omega
theorem adA (z0 z1 z2 z3 z4 z5 z6 z7:Int) (h0:0≤z0∧z0≤255) (h1:0≤z1∧z1≤255) (h2:0≤z2∧z2≤255) (h3:0≤z3∧z3≤255) (h4:0≤z4∧z4≤255) (h5:0≤z5∧z5≤255) (h6:0≤z6∧z6≤255) (h7:0≤z7∧z7≤255):hU [z0,z1,z2,z3,z4,z5,z6,z7]:=by
 have e:bits .or .u32 (0) 1=(0)+1:=qQ 0 _ _ (by decide) (by omega) (by decide) (by omega) (by omega) (by omega)
 refine⟨z0+256*z1+65536*z2+16777216*z3,z4+256*z5+65536*z6+16777216*z7,1,0,0,?_,?_⟩
 ·simp[cW,aF]
  exact e.trans (by omega)
 ·simp only[aR,List.length_cons,List.length_nil]
  omega
theorem adB (z0 z1 z2 z3 z4 z5 z6 z7 z8:Int) (h0:0≤z0∧z0≤255) (h1:0≤z1∧z1≤255) (h2:0≤z2∧z2≤255) (h3:0≤z3∧z3≤255) (h4:0≤z4∧z4≤255) (h5:0≤z5∧z5≤255) (h6:0≤z6∧z6≤255) (h7:0≤z7∧z7≤255) (h8:0≤z8∧z8≤255):hU [z0,z1,z2,z3,z4,z5,z6,z7,z8]:=by
 have e:bits .or .u32 (z8) 256=(z8)+256:=qQ 8 _ _ (by decide) (by omega) (by decide) (by omega) (by omega) (by omega)
 refine⟨z0+256*z1+65536*z2+16777216*z3,z4+256*z5+65536*z6+16777216*z7,(z8)+256,0,0,?_,?_⟩
 ·simp[cW,aF]
  rw[←e]
 ·simp only[aR,List.length_cons,List.length_nil]
  omega
theorem aaT (z0 z1 z2 z3 z4 z5 z6 z7 z8 z9:Int) (h0:0≤z0∧z0≤255) (h1:0≤z1∧z1≤255) (h2:0≤z2∧z2≤255) (h3:0≤z3∧z3≤255) (h4:0≤z4∧z4≤255) (h5:0≤z5∧z5≤255) (h6:0≤z6∧z6≤255) (h7:0≤z7∧z7≤255) (h8:0≤z8∧z8≤255) (h9:0≤z9∧z9≤255):hU [z0,z1,z2,z3,z4,z5,z6,z7,z8,z9]:=by
 have e:bits .or .u32 (z8+256*z9) 65536=(z8+256*z9)+65536:=qQ 16 _ _ (by decide) (by omega) (by decide) (by omega) (by omega) (by omega)
 refine⟨z0+256*z1+65536*z2+16777216*z3,z4+256*z5+65536*z6+16777216*z7,(z8+256*z9)+65536,0,0,?_,?_⟩
 ·simp[cW,aF]
  rw[←e]
 ·simp only[aR,List.length_cons,List.length_nil]
  omega
theorem aaU (z0 z1 z2 z3 z4 z5 z6 z7 z8 z9 z10:Int) (h0:0≤z0∧z0≤255) (h1:0≤z1∧z1≤255) (h2:0≤z2∧z2≤255) (h3:0≤z3∧z3≤255) (h4:0≤z4∧z4≤255) (h5:0≤z5∧z5≤255) (h6:0≤z6∧z6≤255) (h7:0≤z7∧z7≤255) (h8:0≤z8∧z8≤255) (h9:0≤z9∧z9≤255) (h10:0≤z10∧z10≤255):hU [z0,z1,z2,z3,z4,z5,z6,z7,z8,z9,z10]:=by
 have e:bits .or .u32 (z8+256*z9+65536*z10) 16777216=(z8+256*z9+65536*z10)+16777216:=qQ 24 _ _ (by decide) (by omega) (by decide) (by omega) (by omega) (by omega)
 refine⟨z0+256*z1+65536*z2+16777216*z3,z4+256*z5+65536*z6+16777216*z7,(z8+256*z9+65536*z10)+16777216,0,0,?_,?_⟩
 ·simp[cW,aF]
  rw[←e]
 ·simp only[aR,List.length_cons,List.length_nil]
  omega
theorem aaV (z0 z1 z2 z3 z4 z5 z6 z7 z8 z9 z10 z11:Int) (h0:0≤z0∧z0≤255) (h1:0≤z1∧z1≤255) (h2:0≤z2∧z2≤255) (h3:0≤z3∧z3≤255) (h4:0≤z4∧z4≤255) (h5:0≤z5∧z5≤255) (h6:0≤z6∧z6≤255) (h7:0≤z7∧z7≤255) (h8:0≤z8∧z8≤255) (h9:0≤z9∧z9≤255) (h10:0≤z10∧z10≤255) (h11:0≤z11∧z11≤255):hU [z0,z1,z2,z3,z4,z5,z6,z7,z8,z9,z10,z11]:=by
 have e:bits .or .u32 (0) 1=(0)+1:=qQ 0 _ _ (by decide) (by omega) (by decide) (by omega) (by omega) (by omega)
 refine⟨z0+256*z1+65536*z2+16777216*z3,z4+256*z5+65536*z6+16777216*z7,z8+256*z9+65536*z10+16777216*z11,1,0,?_,?_⟩
 ·simp[cW,aF]
  exact e.trans (by omega)
 ·simp only[aR,List.length_cons,List.length_nil]
  omega
theorem aaW (z0 z1 z2 z3 z4 z5 z6 z7 z8 z9 z10 z11 z12:Int) (h0:0≤z0∧z0≤255) (h1:0≤z1∧z1≤255) (h2:0≤z2∧z2≤255) (h3:0≤z3∧z3≤255) (h4:0≤z4∧z4≤255) (h5:0≤z5∧z5≤255) (h6:0≤z6∧z6≤255) (h7:0≤z7∧z7≤255) (h8:0≤z8∧z8≤255) (h9:0≤z9∧z9≤255) (h10:0≤z10∧z10≤255) (h11:0≤z11∧z11≤255) (h12:0≤z12∧z12≤255):hU [z0,z1,z2,z3,z4,z5,z6,z7,z8,z9,z10,z11,z12]:=by
 have e:bits .or .u32 (z12) 256=(z12)+256:=qQ 8 _ _ (by decide) (by omega) (by decide) (by omega) (by omega) (by omega)
 refine⟨z0+256*z1+65536*z2+16777216*z3,z4+256*z5+65536*z6+16777216*z7,z8+256*z9+65536*z10+16777216*z11,(z12)+256,0,?_,?_⟩
 ·simp[cW,aF]
  rw[←e]
 ·simp only[aR,List.length_cons,List.length_nil]
  omega
theorem aaX (z0 z1 z2 z3 z4 z5 z6 z7 z8 z9 z10 z11 z12 z13:Int) (h0:0≤z0∧z0≤255) (h1:0≤z1∧z1≤255) (h2:0≤z2∧z2≤255) (h3:0≤z3∧z3≤255) (h4:0≤z4∧z4≤255) (h5:0≤z5∧z5≤255) (h6:0≤z6∧z6≤255) (h7:0≤z7∧z7≤255) (h8:0≤z8∧z8≤255) (h9:0≤z9∧z9≤255) (h10:0≤z10∧z10≤255) (h11:0≤z11∧z11≤255) (h12:0≤z12∧z12≤255) (h13:0≤z13∧z13≤255):hU [z0,z1,z2,z3,z4,z5,z6,z7,z8,z9,z10,z11,z12,z13]:=by
 have e:bits .or .u32 (z12+256*z13) 65536=(z12+256*z13)+65536:=qQ 16 _ _ (by decide) (by omega) (by decide) (by omega) (by omega) (by omega)
 refine⟨z0+256*z1+65536*z2+16777216*z3,z4+256*z5+65536*z6+16777216*z7,z8+256*z9+65536*z10+16777216*z11,(z12+256*z13)+65536,0,?_,?_⟩
 ·simp[cW,aF]
  rw[←e]
 ·simp only[aR,List.length_cons,List.length_nil]
  omega
theorem aaY (z0 z1 z2 z3 z4 z5 z6 z7 z8 z9 z10 z11 z12 z13 z14:Int) (h0:0≤z0∧z0≤255) (h1:0≤z1∧z1≤255) (h2:0≤z2∧z2≤255) (h3:0≤z3∧z3≤255) (h4:0≤z4∧z4≤255) (h5:0≤z5∧z5≤255) (h6:0≤z6∧z6≤255) (h7:0≤z7∧z7≤255) (h8:0≤z8∧z8≤255) (h9:0≤z9∧z9≤255) (h10:0≤z10∧z10≤255) (h11:0≤z11∧z11≤255) (h12:0≤z12∧z12≤255) (h13:0≤z13∧z13≤255) (h14:0≤z14∧z14≤255):hU [z0,z1,z2,z3,z4,z5,z6,z7,z8,z9,z10,z11,z12,z13,z14]:=by
 have e:bits .or .u32 (z12+256*z13+65536*z14) 16777216=(z12+256*z13+65536*z14)+16777216:=qQ 24 _ _ (by decide) (by omega) (by decide) (by omega) (by omega) (by omega)
 refine⟨z0+256*z1+65536*z2+16777216*z3,z4+256*z5+65536*z6+16777216*z7,z8+256*z9+65536*z10+16777216*z11,(z12+256*z13+65536*z14)+16777216,0,?_,?_⟩
 ·simp[cW,aF]
  rw[←e]
 ·simp only[aR,List.length_cons,List.length_nil]
  omega
theorem aaZ (z0 z1 z2 z3 z4 z5 z6 z7 z8 z9 z10 z11 z12 z13 z14 z15:Int) (h0:0≤z0∧z0≤255) (h1:0≤z1∧z1≤255) (h2:0≤z2∧z2≤255) (h3:0≤z3∧z3≤255) (h4:0≤z4∧z4≤255) (h5:0≤z5∧z5≤255) (h6:0≤z6∧z6≤255) (h7:0≤z7∧z7≤255) (h8:0≤z8∧z8≤255) (h9:0≤z9∧z9≤255) (h10:0≤z10∧z10≤255) (h11:0≤z11∧z11≤255) (h12:0≤z12∧z12≤255) (h13:0≤z13∧z13≤255) (h14:0≤z14∧z14≤255) (h15:0≤z15∧z15≤255):hU [z0,z1,z2,z3,z4,z5,z6,z7,z8,z9,z10,z11,z12,z13,z14,z15]:=by
 have e:bits .or .u32 (0) 1=(0)+1:=qQ 0 _ _ (by decide) (by omega) (by decide) (by omega) (by omega) (by omega)
 refine⟨z0+256*z1+65536*z2+16777216*z3,z4+256*z5+65536*z6+16777216*z7,z8+256*z9+65536*z10+16777216*z11,z12+256*z13+65536*z14+16777216*z15,1,?_,?_⟩
 ·simp[cW,aF]
  exact e.trans (by omega)
 ·simp only[aR,List.length_cons,List.length_nil]
  omega
theorem YI (zs:List Int) (h:aE zs) (h1:1≤zs.length) (h16:zs.length≤16):hU zs:=by
 have b0:=h 0
 have b1:=h 1
 have b2:=h 2
 have b3:=h 3
 have b4:=h 4
 have b5:=h 5
 have b6:=h 6
 have b7:=h 7
 have b8:=h 8
 have b9:=h 9
 have b10:=h 10
 have b11:=h 11
 have b12:=h 12
 have b13:=h 13
 have b14:=h 14
 have b15:=h 15
 match zs,h1,h16 with
 | [z0],_,_=>exact ac3 z0 b0
 | [z0,z1],_,_=>exact ac4 z0 z1 b0 b1
 | [z0,z1,z2],_,_=>exact ac5 z0 z1 z2 b0 b1 b2
 | [z0,z1,z2,z3],_,_=>exact ac6 z0 z1 z2 z3 b0 b1 b2 b3
 | [z0,z1,z2,z3,z4],_,_=>exact ac7 z0 z1 z2 z3 z4 b0 b1 b2 b3 b4
 | [z0,z1,z2,z3,z4,z5],_,_=>exact ac8 z0 z1 z2 z3 z4 z5 b0 b1 b2 b3 b4 b5
 | [z0,z1,z2,z3,z4,z5,z6],_,_=>exact ac9 z0 z1 z2 z3 z4 z5 z6 b0 b1 b2 b3 b4 b5 b6
 | [z0,z1,z2,z3,z4,z5,z6,z7],_,_=>exact adA z0 z1 z2 z3 z4 z5 z6 z7 b0 b1 b2 b3 b4 b5 b6 b7
 | [z0,z1,z2,z3,z4,z5,z6,z7,z8],_,_=>exact adB z0 z1 z2 z3 z4 z5 z6 z7 z8 b0 b1 b2 b3 b4 b5 b6 b7 b8
 | [z0,z1,z2,z3,z4,z5,z6,z7,z8,z9],_,_=>exact aaT z0 z1 z2 z3 z4 z5 z6 z7 z8 z9 b0 b1 b2 b3 b4 b5 b6 b7 b8 b9
 | [z0,z1,z2,z3,z4,z5,z6,z7,z8,z9,z10],_,_=>exact aaU z0 z1 z2 z3 z4 z5 z6 z7 z8 z9 z10 b0 b1 b2 b3 b4 b5 b6 b7 b8 b9 b10
 | [z0,z1,z2,z3,z4,z5,z6,z7,z8,z9,z10,z11],_,_=>exact aaV z0 z1 z2 z3 z4 z5 z6 z7 z8 z9 z10 z11 b0 b1 b2 b3 b4 b5 b6 b7 b8 b9 b10 b11
 | [z0,z1,z2,z3,z4,z5,z6,z7,z8,z9,z10,z11,z12],_,_=>exact aaW z0 z1 z2 z3 z4 z5 z6 z7 z8 z9 z10 z11 z12 b0 b1 b2 b3 b4 b5 b6 b7 b8 b9 b10 b11 b12
 | [z0,z1,z2,z3,z4,z5,z6,z7,z8,z9,z10,z11,z12,z13],_,_=>exact aaX z0 z1 z2 z3 z4 z5 z6 z7 z8 z9 z10 z11 z12 z13 b0 b1 b2 b3 b4 b5 b6 b7 b8 b9 b10 b11 b12 b13
 | [z0,z1,z2,z3,z4,z5,z6,z7,z8,z9,z10,z11,z12,z13,z14],_,_=>exact aaY z0 z1 z2 z3 z4 z5 z6 z7 z8 z9 z10 z11 z12 z13 z14 b0 b1 b2 b3 b4 b5 b6 b7 b8 b9 b10 b11 b12 b13 b14
 | [z0,z1,z2,z3,z4,z5,z6,z7,z8,z9,z10,z11,z12,z13,z14,z15],_,_=>exact aaZ z0 z1 z2 z3 z4 z5 z6 z7 z8 z9 z10 z11 z12 z13 z14 z15 b0 b1 b2 b3 b4 b5 b6 b7 b8 b9 b10 b11 b12 b13 b14 b15
 | _::_::_::_::_::_::_::_::_::_::_::_::_::_::_::_::_::_,_,h16=>simp at h16
theorem iM (c d a b e:Int) (h:c*d=e):(c*a)*(d*b)=e*(a*b):=by rw[←h,Int.mul_assoc,Int.mul_left_comm a d b,←Int.mul_assoc]
theorem pC (d a b:Int):a*(d*b)=d*(a*b):=Int.mul_left_comm a d b
theorem nI (c a b:Int):(c*a)*b=c*(a*b):=Int.mul_assoc c a b
set_option maxHeartbeats 1000000 in
theorem QS (a0 a1 a2 a3 a4 b0 b1 b2 b3 b4:Int):V5 a0 a1 a2 a3 a4*V5 b0 b1 b2 b3 b4=a0*b0+67108864*(a1*b0)+4503599627370496*(a2*b0)+302231454903657293676544*(a3*b0)+20282409603651670423947251286016*(a4*b0)+67108864*(a0*b1)+4503599627370496*(a1*b1)+302231454903657293676544*(a2*b1)+20282409603651670423947251286016*(a3*b1)+1361129467683753853853498429727072845824*(a4*b1)+4503599627370496*(a0*b2)+302231454903657293676544*(a1*b2)+20282409603651670423947251286016*(a2*b2)+1361129467683753853853498429727072845824*(a3*b2)+91343852333181432387730302044767688728495783936*(a4*b2)+302231454903657293676544*(a0*b3)+20282409603651670423947251286016*(a1*b3)+1361129467683753853853498429727072845824*(a2*b3)+91343852333181432387730302044767688728495783936*(a3*b3)+6129982163463555433433388108601236734474956488734408704*(a4*b3)+20282409603651670423947251286016*(a0*b4)+1361129467683753853853498429727072845824*(a1*b4)+91343852333181432387730302044767688728495783936*(a2*b4)+6129982163463555433433388108601236734474956488734408704*(a3*b4)+411376139330301510538742295639337626245683966408394965837152256*(a4*b4):=by
 have e01:(a0)*(67108864*b1)=67108864*(a0*b1):=pC 67108864 a0 b1
 have e02:(a0)*(4503599627370496*b2)=4503599627370496*(a0*b2):=pC 4503599627370496 a0 b2
 have e03:(a0)*(302231454903657293676544*b3)=302231454903657293676544*(a0*b3):=pC 302231454903657293676544 a0 b3
 have e04:(a0)*(20282409603651670423947251286016*b4)=20282409603651670423947251286016*(a0*b4):=pC 20282409603651670423947251286016 a0 b4
 have e10:(67108864*a1)*(b0)=67108864*(a1*b0):=nI 67108864 a1 b0
 have e11:(67108864*a1)*(67108864*b1)=4503599627370496*(a1*b1):=iM 67108864 67108864 a1 b1 4503599627370496 (by decide)
 have e12:(67108864*a1)*(4503599627370496*b2)=302231454903657293676544*(a1*b2):=iM 67108864 4503599627370496 a1 b2 302231454903657293676544 (by decide)
 have e13:(67108864*a1)*(302231454903657293676544*b3)=20282409603651670423947251286016*(a1*b3):=iM 67108864 302231454903657293676544 a1 b3 20282409603651670423947251286016 (by decide)
 have e14:(67108864*a1)*(20282409603651670423947251286016*b4)=1361129467683753853853498429727072845824*(a1*b4):=iM 67108864 20282409603651670423947251286016 a1 b4 1361129467683753853853498429727072845824 (by decide)
 have e20:(4503599627370496*a2)*(b0)=4503599627370496*(a2*b0):=nI 4503599627370496 a2 b0
 have e21:(4503599627370496*a2)*(67108864*b1)=302231454903657293676544*(a2*b1):=iM 4503599627370496 67108864 a2 b1 302231454903657293676544 (by decide)
 have e22:(4503599627370496*a2)*(4503599627370496*b2)=20282409603651670423947251286016*(a2*b2):=iM 4503599627370496 4503599627370496 a2 b2 20282409603651670423947251286016 (by decide)
 have e23:(4503599627370496*a2)*(302231454903657293676544*b3)=1361129467683753853853498429727072845824*(a2*b3):=iM 4503599627370496 302231454903657293676544 a2 b3 1361129467683753853853498429727072845824 (by decide)
 have e24:(4503599627370496*a2)*(20282409603651670423947251286016*b4)=91343852333181432387730302044767688728495783936*(a2*b4):=iM 4503599627370496 20282409603651670423947251286016 a2 b4 91343852333181432387730302044767688728495783936 (by decide)
 have e30:(302231454903657293676544*a3)*(b0)=302231454903657293676544*(a3*b0):=nI 302231454903657293676544 a3 b0
 have e31:(302231454903657293676544*a3)*(67108864*b1)=20282409603651670423947251286016*(a3*b1):=iM 302231454903657293676544 67108864 a3 b1 20282409603651670423947251286016 (by decide)
 have e32:(302231454903657293676544*a3)*(4503599627370496*b2)=1361129467683753853853498429727072845824*(a3*b2):=iM 302231454903657293676544 4503599627370496 a3 b2 1361129467683753853853498429727072845824 (by decide)
 have e33:(302231454903657293676544*a3)*(302231454903657293676544*b3)=91343852333181432387730302044767688728495783936*(a3*b3):=iM 302231454903657293676544 302231454903657293676544 a3 b3 91343852333181432387730302044767688728495783936 (by decide)
 have e34:(302231454903657293676544*a3)*(20282409603651670423947251286016*b4)=6129982163463555433433388108601236734474956488734408704*(a3*b4):=iM 302231454903657293676544 20282409603651670423947251286016 a3 b4 6129982163463555433433388108601236734474956488734408704 (by decide)
 have e40:(20282409603651670423947251286016*a4)*(b0)=20282409603651670423947251286016*(a4*b0):=nI 20282409603651670423947251286016 a4 b0
 have e41:(20282409603651670423947251286016*a4)*(67108864*b1)=1361129467683753853853498429727072845824*(a4*b1):=iM 20282409603651670423947251286016 67108864 a4 b1 1361129467683753853853498429727072845824 (by decide)
 have e42:(20282409603651670423947251286016*a4)*(4503599627370496*b2)=91343852333181432387730302044767688728495783936*(a4*b2):=iM 20282409603651670423947251286016 4503599627370496 a4 b2 91343852333181432387730302044767688728495783936 (by decide)
 have e43:(20282409603651670423947251286016*a4)*(302231454903657293676544*b3)=6129982163463555433433388108601236734474956488734408704*(a4*b3):=iM 20282409603651670423947251286016 302231454903657293676544 a4 b3 6129982163463555433433388108601236734474956488734408704 (by decide)
 have e44:(20282409603651670423947251286016*a4)*(20282409603651670423947251286016*b4)=411376139330301510538742295639337626245683966408394965837152256*(a4*b4):=iM 20282409603651670423947251286016 20282409603651670423947251286016 a4 b4 411376139330301510538742295639337626245683966408394965837152256 (by decide)
 unfold V5
 simp only[Int.add_mul,Int.mul_add,e01,e02,e03,e04,e10,e11,e12,e13,e14,e20,e21,e22,e23,e24,e30,e31,e32,e33,e34,e40,e41,e42,e43,e44]
 generalize a0*b0=p00
 generalize a0*b1=p01
 generalize a0*b2=p02
 generalize a0*b3=p03
 generalize a0*b4=p04
 generalize a1*b0=p10
 generalize a1*b1=p11
 generalize a1*b2=p12
 generalize a1*b3=p13
 generalize a1*b4=p14
 generalize a2*b0=p20
 generalize a2*b1=p21
 generalize a2*b2=p22
 generalize a2*b3=p23
 generalize a2*b4=p24
 generalize a3*b0=p30
 generalize a3*b1=p31
 generalize a3*b2=p32
 generalize a3*b3=p33
 generalize a3*b4=p34
 generalize a4*b0=p40
 generalize a4*b1=p41
 generalize a4*b2=p42
 generalize a4*b3=p43
 generalize a4*b4=p44
 omega
set_option maxHeartbeats 1000000 in
theorem OE (a0 a1 a2 a3 a4 b0 b1 b2 b3 b4:Int):
 V5 (a0*b0+5*a1*b4+5*a2*b3+5*a3*b2+5*a4*b1) (a0*b1+a1*b0+5*a2*b4+5*a3*b3+5*a4*b2) (a0*b2+a1*b1+a2*b0+5*a3*b4+5*a4*b3) (a0*b3+a1*b2+a2*b1+a3*b0+5*a4*b4) (a0*b4+a1*b3+a2*b2+a3*b1+a4*b0)=V5 a0 a1 a2 a3 a4*V5 b0 b1 b2 b3 b4 - gS*(a1*b4+a2*b3+67108864*(a2*b4)+a3*b2+67108864*(a3*b3)+4503599627370496*(a3*b4)+a4*b1+67108864*(a4*b2)+4503599627370496*(a4*b3)+302231454903657293676544*(a4*b4)):=by
 rw[QS]
 rw[Int.mul_assoc 5 a1 b4]
 rw[Int.mul_assoc 5 a2 b3]
 rw[Int.mul_assoc 5 a2 b4]
 rw[Int.mul_assoc 5 a3 b2]
 rw[Int.mul_assoc 5 a3 b3]
 rw[Int.mul_assoc 5 a3 b4]
 rw[Int.mul_assoc 5 a4 b1]
 rw[Int.mul_assoc 5 a4 b2]
 rw[Int.mul_assoc 5 a4 b3]
 rw[Int.mul_assoc 5 a4 b4]
 generalize a0*b0=p00
 generalize a0*b1=p01
 generalize a0*b2=p02
 generalize a0*b3=p03
 generalize a0*b4=p04
 generalize a1*b0=p10
 generalize a1*b1=p11
 generalize a1*b2=p12
 generalize a1*b3=p13
 generalize a1*b4=p14
 generalize a2*b0=p20
 generalize a2*b1=p21
 generalize a2*b2=p22
 generalize a2*b3=p23
 generalize a2*b4=p24
 generalize a3*b0=p30
 generalize a3*b1=p31
 generalize a3*b2=p32
 generalize a3*b3=p33
 generalize a3*b4=p34
 generalize a4*b0=p40
 generalize a4*b1=p41
 generalize a4*b2=p42
 generalize a4*b3=p43
 generalize a4*b4=p44
 unfold V5 gS
 omega
def iS (r:Int) (zs:List Int):Nat→Int
 | 0=>0
 | k+1=>(iS r zs k+(aR ((zs.drop (16*k)).take 16)+256^((zs.drop (16*k)).take 16).length))*r%gS
theorem WM (A pc R qa q s:Int) (h:s=(A+gS*qa+pc)*R - gS*q):∃t,s=(A+pc)*R%gS+gS*t:=by
 refine⟨(A+pc)*R / gS+qa*R - q,?_⟩
 have e:(A+gS*qa+pc)*R=(A+pc)*R+gS*(qa*R):=by
  rw[show A+gS*qa+pc=(A+pc)+gS*qa by omega,Int.add_mul,Int.mul_assoc]
 rw[h,e]
 have:=Int.mul_ediv_add_emod ((A+pc)*R) gS
 rw[Int.mul_sub,Int.mul_add]
 omega
def kR (l:List Int):Int:=aF l 0%268435456+4294967296*(4*(aF l 1 / 4%67108864))+18446744073709551616*(4*(aF l 2 / 4%67108864))+79228162514264337593543950336*(4*(aF l 3 / 4%67108864))
def aa7 (l:List Int):Int:=aF (l.drop 16) 0+4294967296*aF (l.drop 16) 1+18446744073709551616*(aF (l.drop 16) 2+4294967296*aF (l.drop 16) 3)
def gI (N:Int):List Int:=(List.range 16).map fun i=>N / 256^i%256
def gR (key zs:List Int):List Int:=gI (iS (kR key) zs ((zs.length+15) / 16)+aa7 key)
theorem X7 (N:Int) (i:Nat) (hi:i<8):N%18446744073709551616 / 256^i%256=N / 256^i%256:=by
 match i,hi with
 | 0,_=>simp
 | 1,_=>simp;omega
 | 2,_=>simp;omega
 | 3,_=>simp;omega
 | 4,_=>simp;omega
 | 5,_=>simp;omega
 | 6,_=>simp;omega
 | 7,_=>simp;omega
theorem TW (N:Int) (i:Nat) (hi:i<8):N / 18446744073709551616%18446744073709551616 / 256^i%256=N / 256^(8+i)%256:=by
 match i,hi with
 | 0,_=>simp
 | 1,_=>simp;omega
 | 2,_=>simp;omega
 | 3,_=>simp;omega
 | 4,_=>simp;omega
 | 5,_=>simp;omega
 | 6,_=>simp;omega
 | 7,_=>simp;omega
theorem aa0 (N lo hi:Int) (hlo:lo=N%18446744073709551616) (hhi:hi=N / 18446744073709551616%18446744073709551616) (z:List Int) (hz:z.length=16):
 pF9 (pF9 z 0 (fun i=>lo / 256^i%256) 8) 8 (fun i=>hi / 256^i%256) 8=gI N:=by
 apply List.ext_getElem?
 intro i
 rw[cV _ _ _ _ _ (by rw[aP _ _ _ _ (by omega)];omega),cV _ _ _ _ _ (by omega)]
 simp only[gI,List.getElem?_map]
 by_cases h:i<16
 ·rw[List.getElem?_range h]
  by_cases h8:i<8
  ·rw[if_neg (by omega),if_pos (by omega),hlo,Nat.sub_zero,X7 N i h8]
   rfl
  ·rw[if_pos (by omega),hhi,TW N (i - 8) (by omega),show 8+(i - 8)=i by omega]
   rfl
 ·rw[if_neg (by omega),if_neg (by omega),List.getElem?_eq_none (by omega),List.getElem?_eq_none (by simp;omega)]
  rfl
theorem OL (r:Int) (zs:List Int) (k:Nat):0≤iS r zs k∧iS r zs k<gS:=by
 cases k with
 | zero=>simp[iS,gS]
 | succ k=>
   unfold iS
   exact⟨Int.emod_nonneg _ (by decide),Int.emod_lt_of_pos _ (by decide)⟩
theorem WK {a b q:Int} (h:a=b+gS*q) (ha:0≤a) (ha2:a<gS) (hb:0≤b) (hb2:b<gS):a=b:=by
 unfold gS at*
 omega
theorem RW (x y:Int) (hx:0≤x) (hx2:x<4294967296) (hy:0≤y) (hy2:y<4294967296):bits .or .u64 x (y*4294967296)=x+4294967296*y:=by
 rw[zG 32 x (y*4294967296) (by decide) (by omega) (by omega) (by omega) (by omega) (by omega)]
 omega
theorem OU (n:Nat):aE (rQ n 0):=fun i=>by simp[List.getD_eq_getElem?_getD,List.getElem?_replicate];split<;>simp
def Sl (w:World) (g o:Nat) (l:List Int):Prop:=g<w.heap.size∧∀i,i<l.length→w.cell? ⟨g,o+i,none⟩=some (.int .u8 (l.getD i 0))
theorem Sl.later {w w':World} {B g o:Nat} {l:List Int} (h:Sl w g o l) (hb:Below B w w') (hB:g<B):Sl w' g o l:=
 ⟨nJ h.1 hb.size,fun i hi=>(hb.cell (p:=⟨g,o+i,none⟩) hB).trans (h.2 i hi)⟩
theorem Sl.of_row {w:World} {g:Nat} {l:List Int} {t:TypeId} (h:w.heap[g]? =some (.cells (Iv .u8 l) t)):Sl w g 0 l:=
 ⟨(Array.getElem?_eq_some_iff.1 h).1,fun i hi=>by rw[Nat.zero_add,cell_of_row _ _ _ _ _ _ h];simp[Iv,hi]⟩
theorem Sl.take {w:World} {g o:Nat} {l:List Int} (h:Sl w g o l) (n:Nat):Sl w g o (l.take n):=
 ⟨h.1,fun i hi=>by rw[List.length_take]at hi;rw[h.2 i (by omega)];simp[List.getD_eq_getElem?_getD,show i<n by omega]⟩
theorem Sl.drop {w:World} {g o:Nat} {l:List Int} (h:Sl w g o l) (n:Nat):Sl w g (o+n) (l.drop n):=
 ⟨h.1,fun i hi=>by rw[List.length_drop]at hi;rw[Nat.add_assoc,h.2 (n+i) (by omega)];simp[List.getD_eq_getElem?_getD]⟩
theorem Sl.of_own {w:World} {base:Nat} {g n cap:Nat} {e:TypeId} {l:List Int} (h:cC .u8 e base w (.slice (some ⟨g,0,none⟩) n cap) l):Sl w g 0 l:=by
 obtain⟨h1,⟨hv,_⟩|⟨g',cap',cur,hv,hg,hh,hc,hmx,hs,ht⟩⟩:=h
 ·cases hv
 ·simp at hv
  obtain⟨rfl,rfl,rfl⟩:=hv
  refine⟨(Array.getElem?_eq_some_iff.1 hh).1,fun i hi=>?_⟩
  have:=World.ownsRow.cells (w:=w) (base:=base) (e:=e) (size:=1) (v:=.slice (some ⟨g,0,none⟩) l.length cap) (n:=l.length) (xs:=iv .u8 l) (g:=g) ⟨by simp[fW],.inr ⟨g,cap,cur,rfl,hg,hh,hc,hmx,hs,ht⟩⟩ rfl i (.int .u8 (l.getD i 0)) (by rw[EI];simp[hi])
  have e2:(⟨g,0,none⟩:Addr).add i=⟨g,0+i,none⟩:=by unfold Addr.add;split<;>simp_all
  rw[e2]at this
  exact this
theorem pP:(prog.info? 5).map (fun i=>(i.zero,i.size,i.bytes))=some (some (.int .u8 0),1,1):=by kernel_rfl
theorem NM {k:IntKind} {e:TypeId} {base:Nat} {w:World} {g n cap:Nat} {l:List Int} (h:cC k e base w (.slice (some ⟨g,0,none⟩) n cap) l) (j:Nat):w.frozen? ⟨g,j,none⟩=false:=by
 obtain⟨h1,⟨hv,_⟩|⟨g',cap',cur,hv,hg,hh,hc,hmx,hs,ht⟩⟩:=h
 ·cases hv
 ·simp at hv
  obtain⟨rfl,rfl,rfl⟩:=hv
  exact frozen_of_row _ _ _ _ _ hh
theorem SA {k:IntKind} {e:TypeId} {base:Nat} {w W:World} {g n cap b:Nat} {l:List Int} {cs:Array Value} {t:TypeId} (h:cC k e base w (.slice (some ⟨g,0,none⟩) n cap) l) (hp:wH w b cs t W) (hne:g≠b):cC k e base W (.slice (some ⟨g,0,none⟩) n cap) l:=by
 obtain⟨h1,⟨hv,_⟩|⟨g',cap',cur,hv,hg,hh,hc,hmx,hs,ht⟩⟩:=h
 ·cases hv
 ·simp at hv
  obtain⟨rfl,rfl,rfl⟩:=hv
  exact⟨h1,.inr ⟨g,cap,cur,rfl,hg,(hp.far _ hne).trans hh,hc,hmx,hs,ht⟩⟩
theorem sE {k:IntKind} {e:TypeId} {base:Nat} {w:World} {v:Value} {l:List Int} (h:cC k e base w v l) (hv:v.ownBlock≠none):∃g cap,v=.slice (some ⟨g,0,none⟩) l.length cap∧base≤g∧l.length≤cap∧cap≤9223372036854775807∧g<w.heap.size∧v.ownBlock=some g:=by
 obtain⟨_,⟨rfl,_⟩|⟨g,cap,cur,rfl,hg,hh,hc,hmx,hs,ht⟩⟩:=h
 ·exact absurd rfl hv
 ·exact⟨g,cap,rfl,hg,hc,by unfold maxLen at hmx;omega,(Array.getElem?_eq_some_iff.1 hh).1,rfl⟩
theorem EB {v v':Value} {n:Nat} (hv:v.ownBlock≠none) (h:v'.ownBlock=v.ownBlock∨v'.ownBlock=some n):v'.ownBlock≠none:=by
 rcases h with h|h
 ·rw[h];exact hv
 ·rw[h];simp
theorem FI {e:TypeId} {base:Nat} {w:World} {v:Value} {l:List Int} (h:cC .u8 e base w v l) (hl:0<l.length):∃g cap,v=.slice (some ⟨g,0,none⟩) l.length cap∧base≤g∧l.length≤cap∧cap≤9223372036854775807∧g<w.heap.size∧v.ownBlock=some g:=by
 obtain⟨_,⟨_,h0⟩|⟨g,cap,cur,rfl,hg,hh,hc,hmx,hs,ht⟩⟩:=h
 ·omega
 ·exact⟨g,cap,rfl,hg,hc,by unfold maxLen at hmx;omega,(Array.getElem?_eq_some_iff.1 hh).1,rfl⟩
def GE (k:IntKind) (e:TypeId) (base:Nat) (w:World) (v:Value) (l:List Int):Prop:=cC k e base w v l∧v.ownBlock≠none
theorem GE.later {k:IntKind} {e:TypeId} {base:Nat} {w w':World} {v:Value} {l:List Int} (h:GE k e base w v l) (hb:Below w.heap.size w w'):GE k e base w' v l:=⟨cC.later h.1 hb,h.2⟩
theorem GE.mono {k:IntKind} {e:TypeId} {base base':Nat} {w:World} {v:Value} {l:List Int} (h:GE k e base w v l) (hb:base'≤base):GE k e base' w v l:=⟨cC.mono h.1 hb,h.2⟩
theorem GE.sl {e:TypeId} {base:Nat} {w:World} {v:Value} {l:List Int} (h:GE .u8 e base w v l):∃g cap,v=.slice (some ⟨g,0,none⟩) l.length cap∧base≤g∧Sl w g 0 l∧l.length≤cap∧cap≤9223372036854775807:=by
 obtain⟨g,cap,rfl,h1,h2,h3,h4,_⟩:=sE h.1 h.2
 exact⟨g,cap,rfl,h1,Sl.of_own h.1,h2,h3⟩
theorem GE.row {e:TypeId} {base:Nat} {w:World} {v:Value} {l:List Int} (h:GE .u8 e base w v l):∃g cap cur,v=.slice (some ⟨g,0,none⟩) l.length cap∧base≤g∧w.heap[g]? =some (.cells cur e)∧(∀i,i<l.length→cur[i]? =some (.int .u8 (l.getD i 0))):=by
 obtain⟨⟨h1,⟨rfl,_⟩|⟨g,cap,cur,rfl,hg,hh,hc,hmx,hs,ht⟩⟩,hne⟩:=h
 ·exact absurd rfl hne
 ·refine⟨g,cap,cur,rfl,hg,hh,fun i hi=>?_⟩
  have e1:(cur.toList.take (l.length*1))[i]? =(iv .u8 l)[i]? :=by rw[ht]
  rw[List.getElem?_take,if_pos (by omega),Array.getElem?_toList]at e1
  rw[e1,EI]
  simp[hi]
def xb (a b:Int):Int:=bits .xor .u8 a b
theorem afR (a b:Int):0≤xb a b∧xb a b≤255:=by
 unfold xb
 rw[bits.eq_3,IntKind.wrap_u8]
 omega
def blk (key nonce:List Int) (i:Nat):List Int:=iA (i5 key (fR i nonce)) (bK (i5 key (fR i nonce)) 10)
def kK (B:Nat→List Int) (text:List Int) (k:Nat):List Int:=(List.range k).map fun i=>xb (text.getD i 0) ((B (1+i / 64)).getD (i%64) 0)
theorem JP (B:Nat→List Int) (text:List Int) (k:Nat):kK B text (k+1)=kK B text k++[xb (text.getD k 0) ((B (1+k / 64)).getD (k%64) 0)]:=by simp[kK,List.range_succ]
theorem oB (B:Nat→List Int) (text:List Int) (k:Nat):(kK B text k).length=k:=by simp[kK]
theorem vP (f:Nat→Int) (n:Nat) (h:∀i,0≤f i∧f i≤255):aE ((List.range n).map f):=by
 intro i
 simp only[List.getD_eq_getElem?_getD,List.getElem?_map]
 by_cases h1:i<n
 ·rw[List.getElem?_range h1]
  exact h i
 ·rw[List.getElem?_eq_none (by simp;omega)]
  exact(show(0:Int)≤0∧(0:Int)≤255 from⟨by decide,by decide⟩)
theorem QN (B:Nat→List Int) (text:List Int) (k:Nat):aE (kK B text k):=vP _ _ (fun i=>afR _ _)
def mR (n:Nat):Nat:=(16 - n%16)%16
def gQ (l:List Int):List Int:=l++rQ (mR l.length) 0
def BZ (n:Nat):List Int:=(List.range 8).map fun i=>(n:Int) / 256^i%256
theorem fG (n:Nat):(BZ n).length=8:=by simp[BZ]
theorem IY (n:Nat):aE (BZ n):=vP _ _ (fun i=>by omega)
def uL (E H:List Int):List Int:=gQ E++(gQ H++(BZ E.length++BZ H.length))
def OA (B:Nat→List Int) (E H:List Int):List Int:=gR ((B 0).take 32) (uL E H)
def agW (B:Nat→List Int) (E text:List Int):List Int:=kK B text text.length++OA B E (kK B text text.length)
theorem nV (n:Nat):mR n<16:=Nat.mod_lt _ (by decide)
theorem iV (l:List Int):(gQ l).length=l.length+mR l.length:=by simp[gQ]
theorem AS {l:List Int} (h:aE l):aE (gQ l):=aY h (OU _)
theorem E9 {E H:List Int} (hE:aE E) (hH:aE H):aE (uL E H):=aY (AS hE) (aY (AS hH) (aY (IY _) (IY _)))
theorem qV (E H:List Int):(uL E H).length=E.length+mR E.length+(H.length+mR H.length+16):=by simp[uL,iV,fG]
def AN (f:Nat) (key nonce:List Int) (B:Nat→List Int) (C:World→Prop):Prop:=
 ∀(i:Nat) (W:World),i≤2000→C W→Calls prog f #[.agg (Iv .u8 key),.int .u32 (i:Int),.agg (Iv .u8 nonce)] W fun e w'=>e=.returned (.agg (Iv .u8 (B i)))∧Below W.heap.size W w'
theorem OX (key nonce:List Int) (hk:key.length=32) (hr:nonce.length=12) (hkb:aE key) (hrb:aE nonce):AN 139 key nonce (blk key nonce) jO:=
 fun i W hi hW=>KE key nonce i W hk hr hkb hrb (by omega) (by omega) hW
theorem OY (key nonce:List Int) (hk:key.length=32) (hr:nonce.length=12) (hkb:aE key) (hrb:aE nonce):AN 81 key nonce (blk key nonce) (fun _=>True):=
 fun i W hi _=>AG key nonce i W hk hr hkb hrb (by omega) (by omega)
end Go.Proofs.YtgcepckaolkeoaaGreatDoor
