import Derived.Test.YtgcepckaolkeoaaGreatDoorMY07
import Derived.Laws.MakeOwn
namespace Go.Proofs.YtgcepckaolkeoaaGreatDoor
open Go.RowKit
open Go.Proofs.Tryz
open Go renaming heap_alloc_new → hAN, wpList_load_row → wpLr, wpQuiet_nil → wqN
open Go.World renaming block_lt_of_cell? → wJ, size_alloc → wU
open List renaming drop_succ_cons → dJ, drop_zero → dY, length_append → lQ, length_map → lU, length_replicate → rJ, mem_append → mY, nil_append → nA, replicate → rQ, take_succ_cons → tU, take_zero → tJ
open Nat renaming le_refl → nQ, lt_of_lt_of_le → nJ
set_option linter.unusedVariables false
theorem pY {P:Program} {ops:Array Oper} {C:World→Prop} {Q:Act→Prop} {a:Act} {o:Oper} {rest:List Oper} (hgd:o.guard=none) (v:Value) (he:∀w,(execOp a.eval o).run P w=.ok (.value v) w) (h:wpQuiet P ops C Q rest (a.put o.dst v)):wpQuiet P ops C Q (o::rest) a:=by
 refine jV hgd (v:=v) (fun w hw=>?_) h
 unfold Oper.quietAt
 rw[he w]
 exact⟨rfl,rfl⟩
def fB (R:List Int):Nat→List Int
 | 0=>gF R [1]
 | j+1=>gF R (fB R j++[(j:Int)+2])
theorem bA (R:List Int) (j:Nat):(fB R j).length=32:=by cases j<;>exact lT _ _
def tZ (R:List Int):Nat→List Int
 | 0=>[]
 | k+1=>tZ R k++fB R k
theorem jS (R:List Int):∀k,(tZ R k).length=32*k
 | 0=>rfl
 | k+1=>by rw[tZ,lQ,jS R k,bA];omega
def dH (R:List Int) (n k:Nat):List Int:=tZ R k++aA (32*(n - k))
theorem wV (R:List Int) (n k:Nat) (h:k≤n):(dH R n k).length=32*n:=by rw[dH,lQ,jS];simp[aA];omega
theorem PU (R:List Int) (n k:Nat) (h:k<n):(dH R n k).take (32*k)++fB R k++(dH R n k).drop (32*k+32)=dH R n (k+1):=by
 have e1:(dH R n k).take (32*k)=tZ R k:=by
  unfold dH
  rw[List.take_append_of_le_length (by rw[jS];omega),List.take_of_length_le (by rw[jS];omega)]
 have e2:(dH R n k).drop (32*k+32)=aA (32*(n - (k+1))):=by
  unfold dH aA
  rw[List.drop_append,List.drop_eq_nil_of_le (by rw[jS];omega),nA,List.drop_replicate,jS]
  congr 1
  omega
 rw[e1,e2]
 rfl
theorem AY (R:List Int) (n k:Nat) (h:k<n):((dH R n k).map (Value.int .u8)).take (32*k)++(fB R k).map (Value.int .u8)++((dH R n k).map (Value.int .u8)).drop (32*k+((fB R k).map (Value.int .u8)).length)=(dH R n (k+1)).map (Value.int .u8):=by
 rw[lU,bA,←PU R n k h,List.map_append,List.map_append,List.map_take,List.map_drop]
theorem MW (R:List Int) (n k:Nat) (h:k<n) (j:Nat) (hj:j<32):(dH R n (k+1)).getD (32*k+j) 0=(fB R k).getD j 0:=by
 have hl:=jS R k
 have hk:=bA R k
 unfold dH tZ
 simp only[List.getD_eq_getElem?_getD]
 rw[List.append_assoc,List.getElem?_append_right (by omega),List.getElem?_append_left (by omega)]
 congr 2
 omega
theorem k7 (R:List Int) (k:Nat):aE (fB R k):=by cases k<;>exact dK _
theorem PV {w:World} {g:Nat} {R:List Int} {n k:Nat} {t:TypeId} (h:w.heap[g]? =some (.cells (Iv .u8 (dH R n (k+1))) t)) (hk:k<n):eF w (.slice (some ⟨g,32*k,none⟩) 32 32) (fB R k):=
 ⟨_,_,_,rfl,bA R k,nQ _,by decide,k7 R k,.inr ⟨g,32*k,rfl,fun j hj=>by
  rw[←MW R n k hk j hj]
  exact aC.cell (show aC w g .u8 _ t from h) (32*k+j) (by rw[wV R n (k+1) (by omega)];omega)⟩⟩
theorem I4 (m:Nat):madeCells (Iv .u8 (aA 32)) m=Iv .u8 (aA m):=by
 have hs:(Iv .u8 (aA 32)).size=32:=by rw[aD];rfl
 apply Array.ext
 ·rw[size_madeCells,aD];simp[aA]
 ·intro i h1 h2
  have hi:i<m:=by rw[size_madeCells]at h1;exact h1
  have e2:=cN .u8 (aA m) i (by simp[aA];exact hi)
  rw[Array.getElem?_eq_getElem h2,Option.some.injEq]at e2
  rw[e2]
  simp only[madeCells,Array.getElem_map,Array.getElem_range]
  have hj:i%(Iv .u8 (aA 32)).size<(Iv .u8 (aA 32)).size:=Nat.mod_lt _ (by rw[hs];decide)
  rw[getElem!_pos (Iv .u8 (aA 32)) _ hj]
  have hz:∀j (h:j<(aA 32).length),(aA 32)[j]=0:=fun j h=>by unfold aA;exact List.getElem_replicate _
  have hz2:∀(h:i<(aA m).length),(aA m)[i]=0:=fun h=>by unfold aA;exact List.getElem_replicate _
  obtain⟨j,hjd⟩:∃j,j=i%(Iv .u8 (aA 32)).size:=⟨_,rfl⟩
  have hj':j<(aA 32).length:=by rw[hjd];rw[aD]at hj⊢;exact hj
  have e3:=cN .u8 (aA 32) j hj'
  simp only[←hjd]at hj⊢
  rw[Array.getElem?_eq_getElem hj,Option.some.injEq]at e3
  rw[e3,hz,hz2]
theorem acW (n:Nat) (h:n≤3) (w:World):(Instr.makeSlice 37 (.int .i64 n) (.int .i64 n)).run prog w=.ok (.slice (some ⟨w.heap.size,0,none⟩) n n) (w.alloc (.cells (Iv .u8 (aA (32*n))) 22)):=by
 obtain⟨i,hi⟩:=info_of_underlying underlying22
 have h2:(prog.info? 22).map (fun i=>(i.zero,i.size,i.bytes))=some (some (.agg (Iv .u8 (aA 32))),32,32):=by kernel_rfl
 rw[hi]at h2
 simp only[Option.map_some,Option.some.injEq,Prod.mk.injEq]at h2
 rw[run_makeSlice (P:=prog) w _ _ i _ underlying37 hi h2.1 .i64 .i64 n n (by omega) (by omega) (by rw[h2.2.1];simp;omega) (by rw[h2.2.2];omega) (by omega),h2.2.1]
 show Result.ok _ (w.alloc (.cells (madeCells (Iv .u8 (aA 32)) _) _))=_
 rw[I4,Int.toNat_natCast,Nat.mul_comm]
set_option maxRecDepth 10000 in
set_option maxHeartbeats 2000000 in
theorem MQ (K D:List Int) (kl:Nat) (hk64:¬64<kl) (hK:K.length=kl) (hKb:aE K) (hkl:kl≤5000000) (kb ko kcap:Nat) (hkcap:kl≤kcap) (hkcap2:kcap≤9223372036854775807) (a:Option Addr) (dl dcap:Nat) (w:World) (hkc:∀j,j<kl→w.cell? ⟨kb,ko+j,none⟩=some (.int .u8 (K.getD j 0))) (hkbs:kb<w.heap.size) (hv:eF w (.slice a dl dcap) D) (hlen:D.length≤5000000) (ht:dR w) (n:Nat) (hn1:1≤n) (hn3:n≤2) (R:List Int) (HR:Hid (∀x,gF K D=x→x=R)):
 Calls prog 87 #[.int .i64 n,.slice (some ⟨kb,ko,none⟩) kl kcap,.slice a dl dcap] w fun e w'=>∃g,e=.returned (.slice (some ⟨g,0,none⟩) n n)∧w.heap.size≤g∧w'.heap[g]? =some (.cells (Iv .u8 (dH R n n)) 22)∧Below w.heap.size w w':=by
 have hzb:=fT
 have hmk:=acW n (by omega)
 have HT:Hid _:=ht
 have HKC:Hid _:=hkc
 have HV:Hid _:=hv
 clear hkc hv ht
 have h1:((n:Int)<1)=False:=by simp;omega
 have h2:(3<(n:Int))=False:=by simp;omega
 have hRl:R.length=32:=by rw[←HR.out _ rfl];exact lT _ _
 have hRb:aE R:=by rw[←HR.out _ rfl];exact dK _
 have hi32:Hid (∀X:List Int,X.length=32→(prog.info? 22).map (·.size)=some (Iv .u8 X).size):=fun X hX=>by rw[aD,hX];exact iB
 have hz32:Hid (∀X:List Int,X.length=32→(Iv .u8 (aA 32)).size=(Iv .u8 X).size):=fun X hX=>by rw[aD,aD,hX];rfl
 go_enter func87,ntmps87
 go_wp2_with fail
 have HPP:dZ (w.alloc (.cells #[.slice a dl dcap] 48)) w.heap.size 0 1 [.slice a dl dcap] [D]:=dZ.one HV.out
 obtain⟨W,hW⟩:∃X,X=w.alloc (.cells #[.slice a dl dcap] 48):=⟨_,rfl⟩
 have HB:Hid (Below w.heap.size w W):=by show Below _ _ _;rw[hW];exact(Below.refl _ _).alloc (nQ _) _
 rw[←hW]at HPP⊢
 clear hW
 refine(sX K kl hk64 hK hKb hkl kb ko kcap hkcap hkcap2 [D] [.slice a dl dcap] 1 1 w.heap.size 0 W (fun j hj=>(HB.out.cell (p:=⟨kb,ko+j,none⟩) (wJ _ _ (HKC.out j hj))).trans (HKC.out j hj)) (by have:=HB.out.size;omega) HPP (by simp;omega) (HT.out.later HB.out (nQ _)) R (by rw[show[D].flatten=D by simp];exact HR)).mono ?_
 rintro e w1 ⟨rfl,hb1⟩
 have B1:Hid (Below w.heap.size w w1):=HB.out.trans (hb1.mono HB.out.size)
 have HN1:Hid ((w1.alloc (.cells (Iv .u8 (aA 32)) 22)).heap[w1.heap.size]? =some (.cells (Iv .u8 (aA 32)) 22)):=hAN _ _
 clear hb1 HB HPP HV HKC
 go_wp2_with(refine wpPr rfl 22 _ _ rfl w1.heap.size (Iv .u8 R) rfl rfl _ _ HN1.out (hi32.out R hRl) (hz32.out R hRl) (aG _ _) ?_)
 intro w2 hP2
 have B2:Hid (Below w.heap.size w w2):=hP2.below _ _ (B1.out.alloc B1.out.size _) B1.out.size
 have A1:Hid (w2.heap[w1.heap.size]? =some (.cells (Iv .u8 R) 22)):=hP2.here
 have hs2:w1.heap.size<w2.heap.size:=by rw[hP2.size];simp
 have hg1:=B1.out.size
 obtain⟨gr,hgr⟩:∃x,x=w1.heap.size:=⟨_,rfl⟩
 rw[←hgr]at A1 hs2 hg1⊢
 clear hP2 HN1 B1 hgr
 go_wp2_with fail
 obtain⟨W3,hW3,g0,g1,g2,hs3,hB3⟩:=oF w2 (.cells (Iv .u8 (aA (32*n))) 22) (.cells #[.int .u8 1] 5) (.cells #[.slice (some ⟨w2.heap.size+1,0,none⟩) 1 1] 48)
 rw[hW3]
 clear hW3
 have B3:Hid (Below w.heap.size w W3):=B2.out.trans (hB3.mono B2.out.size)
 have C1:Hid _:=(hB3.block gr (by omega)).trans A1.out
 have hg2:=B2.out.size
 obtain⟨gk,hgk⟩:∃x,x=w2.heap.size:=⟨_,rfl⟩
 rw[←hgk]at g0 g1 g2 hs3 hs2 hg2⊢
 have G0:Hid _:=g0
 have HPP:dZ W3 (gk+1+1) 0 1 [.slice (some ⟨gk+1,0,none⟩) 1 1] [[1]]:=dZ.row1 g2 (pW (zs:=[1]) g1 (by intro i;match i with|0=>exact⟨by decide,by decide⟩|i+1=>simp) (by decide))
 clear hgk g0 g1 g2 hB3 B2 A1
 refine(sX R 32 (by decide) hRl hRb (by decide) gr 0 32 (nQ _) (by decide) [[1]] _ 1 1 (gk+1+1) 0 W3 (fun j hj=>by rw[Nat.zero_add];exact aC.cell (show aC W3 _ .u8 R _ from C1.out) j (by omega)) (by omega) HPP (by simp) (HT.out.later B3.out (nQ _)) (fB R 0) (fun x hx=>by rw[←hx];rfl)).mono ?_
 rintro e w4 ⟨rfl,hb4⟩
 have B4:Hid (Below w.heap.size w w4):=B3.out.trans (hb4.mono B3.out.size)
 have D0:Hid (w4.heap[gk]? =some (.cells ((dH R n 0).map (Value.int .u8)).toArray 22)):=(hb4.block gk (by omega)).trans G0.out
 have D1:Hid _:=(hb4.block gr (by omega)).trans C1.out
 have hs4:gk<w4.heap.size:=by have:=hb4.size;omega
 clear hb4 HPP B3 C1 G0
 have hiK:Hid (∀k,(prog.info? 22).map (·.size)=some ((fB R k).map (Value.int .u8)).length):=fun k=>by rw[lU,bA];exact iB
 have hfK:Hid (∀k,k<n→32*k+((fB R k).map (Value.int .u8)).length≤((dH R n k).map (Value.int .u8)).length):=fun k hk=>by rw[lU,bA,lU,wV R n k (by omega)];omega
 have hp0:(0<n)=True:=by simp;omega
 go_wp2_with(refine wpPp rfl 22 _ _ rfl gk 0 ((fB R 0).map (Value.int .u8)) rfl rfl ((dH R n 0).map (Value.int .u8)) 22 D0.out ((dH R n 1).map (Value.int .u8)) (hiK.out 0) (hfK.out 0 (by omega)) (by simp[Value.oneCell']) (AY R n 0 (by omega)) ?_)
 intro w5 hP5
 have B5:Hid (Below w.heap.size w w5):=hP5.below _ _ B4.out (by omega)
 have E0:Hid (w5.heap[gk]? =some (.cells (Iv .u8 (dH R n 1)) 22)):=hP5.here
 have E1:Hid (w5.heap[gr]? =some (.cells (Iv .u8 R) 22)):=(hP5.far gr (by omega)).trans D1.out
 have hs5:gk<w5.heap.size:=by rw[hP5.size];exact hs4
 clear hP5 B4 D0 D1
 go_wp2_with fail
 go_loopw [9] (fun i wr=>∃k:Nat,1≤k∧k≤n∧i=.int .i64 k∧Below w.heap.size w wr∧wr.heap[gr]? =some (.cells (Iv .u8 R) 22)∧wr.heap[gk]? =some (.cells (Iv .u8 (dH R n k)) 22)) (fun i _=>3 - (intOf i).toNat)
 case atStart=>exact⟨1,nQ _,hn1,rfl,B5.out,E1.out,E0.out⟩
 case round=>
  obtain⟨k,hk1,hk2,rfl,hbr,hr1,hr0⟩:=hrel
  clear B5 E0 E1
  by_cases hlt:k<n
  ·obtain⟨rfl,rfl⟩:k=1∧n=2:=by omega
   ·have RB:Hid _:=hbr
    have R1:Hid _:=hr1
    have R0:Hid (wr.heap[gk]? =some (.cells ((dH R 2 1).map (Value.int .u8)).toArray 22)):=hr0
    have hsr:gk<wr.heap.size:=(Array.getElem?_eq_some_iff.1 hr0).1
    clear hbr hr1 hr0
    go_wp2_with fail
    have S0:∃x:yG wr.heap.size wr,wr.drew=x.w:=⟨⟨wr.drew,bDr (Below.refl _ _) 1⟩,rfl⟩
    refine wRl2 11 15 (fun w'=>∃x:yG wr.heap.size wr,w'=x.w) [(.held,[0,1,2,3,4,5,6,7,8,9,10]),(.tail,[11]),(.tail,[12]),(.tail,[13]),(.tail,[14]),(.last,[15])] uO (by kernel_rfl) S0 ?_
    simp only[jM,oS]
    refine pY rfl (.slice (some ⟨gk,0,none⟩) 2 2) (fun W'=>by kernel_rfl) ?_
    simp only[pS]
    refine pY rfl (.int .i64 ((1:Nat):Int)) (fun W'=>by kernel_rfl) ?_
    simp only[pS]
    refine pY rfl (.slice (some ⟨gr,0,none⟩) 32 32) (fun W'=>by kernel_rfl) ?_
    simp only[pS]
    refine pY rfl (.slice (some ⟨gk,0,none⟩) 2 2) (fun W'=>by kernel_rfl) ?_
    simp only[pS]
    refine pY rfl (.int .i64 ((1:Nat):Int)) (fun W'=>by kernel_rfl) ?_
    simp only[pS]
    refine pY rfl (.int .i64 0) (fun W'=>by kernel_rfl) ?_
    simp only[pS]
    refine pY rfl (.pointer (some ⟨gk,0,none⟩)) (fun W'=>by kernel_rfl) ?_
    simp only[pS]
    refine pY rfl (.slice (some ⟨gk,0,none⟩) 32 32) (fun W'=>by kernel_rfl) ?_
    simp only[pS]
    refine pY rfl (.int .i64 ((1:Nat):Int)) (fun W'=>by kernel_rfl) ?_
    simp only[pS]
    refine pY rfl (.int .i64 2) (fun W'=>by kernel_rfl) ?_
    simp only[pS]
    refine pY rfl (.int .u8 2) (fun W'=>by kernel_rfl) ?_
    simp only[pS]
    refine wqN ?_
    go_wp2_with fail
    refine⟨⟨⟨_,bDr ((Below.refl _ _).alloc (nQ _) _) 1⟩,rfl⟩,?_⟩
    go_wp2_with fail
    refine⟨⟨⟨_,bDr (((Below.refl _ _).alloc (nQ _) _).alloc (by simp) _) 1⟩,rfl⟩,?_⟩
    go_wp2_with fail
    have HP2:dZ ((wr.drew.alloc (.cells #[.int .u8 2] 5)).alloc (.cells #[.slice (some ⟨gk,0,none⟩) 32 32,.slice (some ⟨wr.heap.size,0,none⟩) 1 1] 48)) (wr.drew.alloc (.cells #[.int .u8 2] 5)).heap.size 0 2 [.slice (some ⟨gk,0,none⟩) 32 32,.slice (some ⟨wr.heap.size,0,none⟩) 1 1] [fB R 0,[2]]:=
     dZ.two (eF.later (PV (k:=0) (show wr.drew.heap[gk]? =_ from R0.out) (by decide)) ((Below.refl wr.drew.heap.size wr.drew).alloc (nQ _) _) (nQ _)) (pW (zs:=[2]) (hAN wr.drew _) (by intro i;match i with|0=>exact⟨by decide,by decide⟩|i+1=>simp) (by decide))
    rw[wU]at HP2
    obtain⟨V,hV⟩:∃x,x=((wr.alloc (.cells #[.int .u8 2] 5)).alloc (.cells #[.slice (some ⟨gk,0,none⟩) 32 32,.slice (some ⟨wr.heap.size,0,none⟩) 1 1] 48)).drew:=⟨_,rfl⟩
    have HP3:Hid (dZ V (wr.heap.size+1) 0 2 [.slice (some ⟨gk,0,none⟩) 32 32,.slice (some ⟨wr.heap.size,0,none⟩) 1 1] [fB R 0,[2]]):=by show dZ _ _ _ _ _ _;rw[hV];exact HP2
    have VB:Hid (Below wr.heap.size wr V):=by show Below _ _ _;rw[hV];exact bDr (((Below.refl _ _).alloc (nQ _) _).alloc (by simp) _) 1
    rw[←hV]
    clear hV HP2
    have V0:Hid _:=(VB.out.block gk hsr).trans R0.out
    have V1:Hid (V.heap[gr]? =some (.cells (Iv .u8 R) 22)):=(VB.out.block gr (by omega)).trans R1.out
    have VW:Hid (Below w.heap.size w V):=RB.out.trans (VB.out.mono RB.out.size)
    have hsV:gk<V.heap.size:=by have:=VB.out.size;omega
    have HVB:Hid _:=VB.out
    clear VB RB R1 R0 S0
    refine(sX R 32 (by decide) hRl hRb (by decide) gr 0 32 (nQ _) (by decide) [fB R 0,[2]] _ 2 2 (wr.heap.size+1) 0 V (fun j hj=>by rw[Nat.zero_add];exact aC.cell (show aC V _ .u8 R _ from V1.out) j (by omega)) (by omega) HP3.out (by simp[bA]) (HT.out.later VW.out (nQ _)) (fB R 1) (fun x hx=>by rw[←hx];simp[fB])).mono ?_
    rintro e w6 ⟨rfl,hb6⟩
    have X0:Hid _:=(hb6.block gk hsV).trans V0.out
    have X1:Hid _:=(hb6.block gr (by omega)).trans V1.out
    have XB:Hid (Below w.heap.size w w6):=VW.out.trans (hb6.mono VW.out.size)
    have HBB:Hid (Below wr.heap.size wr w6):=HVB.out.trans (hb6.mono HVB.out.size)
    clear hb6 HP3 V0 V1 VW HVB
    go_wp2_with fail
    refine⟨⟨⟨_,HBB.out⟩,rfl⟩,?_⟩
    go_wp2_with fail
    refine⟨⟨⟨_,HBB.out⟩,rfl⟩,?_⟩
    refine wpPp rfl 22 (.tmp 47) (.tmp 46) rfl gk 32 ((fB R 1).map (Value.int .u8)) rfl rfl ((dH R 2 1).map (Value.int .u8)) 22 X0.out ((dH R 2 2).map (Value.int .u8)) (hiK.out 1) (hfK.out 1 (by decide)) (by simp[Value.oneCell']) (AY R 2 1 (by decide)) ?_
    intro w7 hP7
    simp only[Act.put]
    have Y0:Hid (w7.heap[gk]? =some (.cells (Iv .u8 (dH R 2 2)) 22)):=hP7.here
    have Y1:Hid (w7.heap[gr]? =some (.cells (Iv .u8 R) 22)):=(hP7.far gr (by omega)).trans X1.out
    have YB:Hid (Below w.heap.size w w7):=hP7.below _ _ XB.out (by omega)
    clear hP7 X0 X1 XB HBB
    go_wp2_with fail
    refine A4 ?_
    go_wp2_with fail
    go_roundw
    case rel=>exact⟨_,_,_,_,_,_,_,_,_,_,_,_,_,_,_,_,_,_,_,_,_,⟨2,by decide,by decide,rfl,YB.out,Y1.out,Y0.out⟩,rfl⟩
    case measure=>simp[intOf]
  ·have hkn:k=n:=by omega
   subst hkn
   have RB:Hid _:=hbr
   have R0:Hid _:=hr0
   clear hbr hr1 hr0
   go_wp2
   go_ret
   exact⟨gk,rfl,by omega,R0.out,RB.out⟩
theorem fH:prog.follows .mixedOrders=true:=by kernel_rfl
theorem sB {W:World} {b:Nat} {l:List Int} {t:TypeId} {fr:Nat×Nat} (h:W.heap[b]? =some (.cells (Iv .u8 l) t fr)):W.rangeAt b 0 (l.map (Value.int .u8)):=by
 have:=fE (l:=l.map (Value.int .u8)) h 0 l.length
 rwa[dY,List.take_of_length_le (by rw[lU];exact nQ _)]at this
theorem aaL (R:List Int):dH R 1 1=fB R 0:=by simp[dH,tZ,aA]
theorem aaM (R:List Int):dH R 2 2=fB R 0++fB R 1:=by simp[dH,tZ,aA]
theorem Rn.turnK {w0 W W':World} {R1 R2:List (Nat×Array Value×TypeId)} {b:Nat} {cs:Array Value} {cs':List Value} {t:TypeId} (h:Rn w0 (R1++(b,cs,t)::R2) W) (hT:Tn W b cs' t W'):Rn w0 (R1++(b,cs'.toArray,t)::R2) W':=by
 have hb:=(h.rw.row (b,cs,t) (by simp)).1
 have hnd:=h.nd
 simp only[List.map_append,List.map_cons]at hnd
 have hnb:=List.nodup_append.1 hnd
 refine⟨⟨hT.below h.bel h.bel.size hb,fun r hr=>?_⟩,by simp only[List.map_append,List.map_cons];exact hnd⟩
 simp only[mY,List.mem_cons]at hr
 rcases hr with hr|rfl|hr
 ·have h1:=h.rw.row r (by simp[hr])
  refine⟨h1.1,nJ h1.2.1 hT.size,(hT.far r.1 h1.2.1 (fun e=>?_)).trans h1.2.2⟩
  exact hnb.2.2 r.1 (List.mem_map_of_mem hr) b (by simp) e
 ·exact⟨hb,(Array.getElem?_eq_some_iff.1 hT.here).1,hT.here⟩
 ·have h1:=h.rw.row r (by simp[hr])
  refine⟨h1.1,nJ h1.2.1 hT.size,(hT.far r.1 h1.2.1 (fun e=>?_)).trans h1.2.2⟩
  exact(List.nodup_cons.1 hnb.2.1).1 (by rw[←e];exact List.mem_map_of_mem hr)
theorem dR.low {w w':World} (h:dR w) (hb:Below 4 w w'):dR w':=by
 refine⟨fun i hi=>?_,fun i hi=>?_,fun r i hr hi=>?_⟩
 ·obtain⟨t0,t1,t2,t3⟩:=h.mix i hi
  exact⟨(hb.cell (p:=⟨2,_,none⟩) (by simp)).trans t0,(hb.cell (p:=⟨2,_,none⟩) (by simp)).trans t1,(hb.cell (p:=⟨2,_,none⟩) (by simp)).trans t2,(hb.cell (p:=⟨2,_,none⟩) (by simp)).trans t3⟩
 ·exact(hb.cell (p:=⟨1,_,none⟩) (by simp)).trans (h.iv i hi)
 ·exact(hb.cell (p:=⟨3,_,none⟩) (by simp)).trans (h.order r i hr hi)
theorem dR.turn {w w':World} {b:Nat} {cs:List Value} {t:TypeId} (h:dR w) (hT:Tn w b cs t w') (hb:3<b) (hw:3<w.heap.size):dR w':=h.low (hT.below (Below.refl 4 w) hw hb)
theorem MX (K D:List Int) (hK:K.length=32) (hKb:aE K) (hD:D.length=32) (hDb:aE D) (n:Nat) (hn1:1≤n) (hn2:n≤2) (kb ko db dO:Nat) (w:World) (hk:w.rangeAt kb ko (K.map (Value.int .u8))) (hkb:kb<w.heap.size) (hd:w.rangeAt db dO (D.map (Value.int .u8))) (ht:dR w):
 Calls prog 87 #[.int .i64 n,.slice (some ⟨kb,ko,none⟩) 32 32,.slice (some ⟨db,dO,none⟩) 32 32] w fun e w'=>∃g,e=.returned (.slice (some ⟨g,0,none⟩) n n)∧w.heap.size≤g∧w'.heap[g]? =some (.cells (Iv .u8 (dH (gF K D) n n)) 22)∧Below w.heap.size w w':=
 MQ K D 32 (by decide) hK hKb (by decide) kb ko 32 (nQ _) (by decide) (some ⟨db,dO,none⟩) 32 32 w (fun j hj=>slR hk j (by omega)) hkb (AC hd hD hDb) (by omega) ht n hn1 hn2 (gF K D) (fun x hx=>hx.symm)
set_option maxRecDepth 10000 in
set_option maxHeartbeats 2000000 in
theorem AB (c h e:List Int) (r:List Value) (hc:c.length=32) (hh:h.length=32) (he:e.length=32) (hcb:aE c) (hhb:aE h) (heb:aE e) (b:Nat) (hb3:3<b) (t:TypeId) (w:World) (hr:w.heap[b]? =some (.cells (fA c h r).toArray t)) (ht:dR w):
 Calls prog 64 #[.pointer (some ⟨b,0,none⟩),.agg (Iv .u8 e)] w fun x w'=>x=.returned (.tuple #[])∧Tn w b (fA (fB (gF c e) 0) (dM (h++e)) r) t w':=by
 obtain⟨C,eC⟩:∃C,fB (gF c e) 0=C:=⟨_,rfl⟩
 have hCl:C.length=32:=by rw[←eC];exact bA _ _
 rw[eC]
 have EC:Hid _:=eC
 have HC:Hid _:=hc
 have H32:Hid _:=hh
 have HE:Hid _:=he
 have HCB:Hid _:=hcb
 have HHB:Hid _:=hhb
 have HEB:Hid _:=heb
 have HT:Hid (dR w):=ht
 have HR:Hid _:=hr
 clear eC hc hh he hcb hhb heb ht hr
 go_enter func64,ntmps64
 go_wp2_with fail
 obtain⟨W,hW⟩:∃W,w.alloc (.cells (Iv .u8 e) 22)=W:=⟨_,rfl⟩
 have hbW:Below w.heap.size w W:=by rw[←hW];exact(Below.refl _ _).alloc (nQ _) _
 have hRe:W.heap[w.heap.size]? =some (.cells (Iv .u8 e) 22):=by rw[←hW];exact hAN _ _
 rw[hW]
 clear hW
 have lb:b<w.heap.size:=(Array.getElem?_eq_some_iff.1 HR.out).1
 have le_:w.heap.size<W.heap.size:=(Array.getElem?_eq_some_iff.1 hRe).1
 have HBW:Hid _:=hbW
 have BR:Hid (∀y,Below W.heap.size W y→y.heap[b]? =some (.cells (fA c h r).toArray t)):=fun y hy=>(hy.block b (by omega)).trans ((hbW.block b lb).trans HR.out)
 have BE:Hid (∀y,Below W.heap.size W y→y.heap[w.heap.size]? =some (.cells (Iv .u8 e) 22)):=fun y hy=>(hy.block _ le_).trans hRe
 have BT:Hid (∀y,Below W.heap.size W y→dR y):=fun y hy=>(HT.out.later hbW (nQ _)).later hy (nQ _)
 clear hbW hRe
 have hb0:Below W.heap.size W W.drew:=bDr (Below.refl _ _) 1
 have Hy0:Hid _:=hb0
 refine wRt 11 (fun w'=>∃x:yG W.heap.size W,w'=x.w) (.held [0,1,5] (.tail 2 (.held [3,4] (.tail 6 (.tail 7 (.tail 8 (.tail 9 (.tail 10 (.last 11 .done))))))))) fH (by kernel_rfl) ⟨⟨_,hb0⟩,rfl⟩ ?_
 clear hb0
 obtain⟨y0,ey⟩:∃y,y=W.drew:=⟨_,rfl⟩
 rw[←ey]at Hy0⊢
 clear ey
 refine wTh ?_
 simp only[oS]
 refine aB rfl (.pointer (some ⟨b,0,none⟩)) (fun w'=>by kernel_rfl) ?_
 simp only[pS]
 refine aB rfl (.pointer (some ⟨b,0,none⟩)) (fun w'=>by kernel_rfl) ?_
 simp only[pS]
 refine aB rfl (.slice (some ⟨w.heap.size,0,none⟩) 32 32) (fun w'=>by kernel_rfl) ?_
 simp only[pS]
 refine wqN ?_
 refine wTt ?_
 simp only[oS]
 go_wp2_with fail
 refine⟨⟨⟨_,Hy0.out⟩,rfl⟩,?_⟩
 refine wTh ?_
 simp only[oS]
 refine aB rfl (.pointer (some ⟨b,0,none⟩)) (fun w'=>by kernel_rfl) ?_
 simp only[pS]
 refine aB rfl (.slice (some ⟨b,0,none⟩) 32 32) (fun w'=>by kernel_rfl) ?_
 simp only[pS]
 refine wqN ?_
 refine wTt ?_
 simp only[oS]
 go_wp2_with fail
 refine(MX c e HC.out HCB.out HE.out HEB.out 1 (by decide) (by decide) b 0 w.heap.size 0 y0 (adT (BR.out _ Hy0.out) HC.out) (by have:=Hy0.out.size;omega) (sB (BE.out _ Hy0.out)) (BT.out _ Hy0.out)).mono ?_
 rintro x y1 ⟨g,rfl,hg,hrow,hb1⟩
 rw[aaL,EC.out]at hrow
 have Hy1:Hid (Below W.heap.size W y1):=Hy0.out.trans (hb1.mono Hy0.out.size)
 have HG:Hid _:=hrow
 clear hb1 hrow
 go_wp2_with fail
 refine⟨⟨⟨_,Hy1.out⟩,rfl⟩,?_⟩
 refine wTt ?_
 simp only[oS]
 go_wp2_with fail
 refine⟨⟨⟨_,Hy1.out⟩,rfl⟩,?_⟩
 refine wTt ?_
 simp only[oS]
 go_wp2_with(refine wpLr rfl 22 _ rfl g rfl _ (Iv .u8 C) _ _ HG.out underlying22 rfl (by rw[aD,hCl];exact iB) ?_)
 refine⟨⟨⟨_,Hy1.out⟩,rfl⟩,?_⟩
 refine wTt ?_
 simp only[oS]
 go_wp2_with fail
 refine⟨⟨⟨_,Hy1.out⟩,rfl⟩,?_⟩
 refine wTt ?_
 simp only[oS]
 go_wp2_with fail
 refine⟨⟨⟨_,Hy1.out⟩,rfl⟩,?_⟩
 refine wTl ?_
 simp only[oS]
 have hfit:Hid (0+(C.map (Value.int .u8)).length≤(fA c h r).length):=by show _≤_;rw[lU,hCl,jU _ _ _ HC.out H32.out];omega
 have HRb:Hid _:=BR.out _ Hy1.out
 go_wp2_with(refine wpPp rfl 22 _ _ rfl b 0 (C.map (Value.int .u8)) rfl rfl (fA c h r) t HRb.out (fA C h r) (eM hCl) hfit.out (LS _) (N9 c C h r HC.out hCl) ?_)
 intro y2 hP
 have T2:Hid (Tn w b (fA C h r) t y2):=Tn.of (HBW.out.trans (Hy1.out.mono HBW.out.size)) hP
 have HE2:Hid _:=(hP.far w.heap.size (by omega)).trans (BE.out _ Hy1.out)
 have HT2:Hid (dR y2):=HT.out.turn T2.out hb3 (by omega)
 clear hP
 refine bE ?_
 go_wp2_with fail
 refine(uM C h e r hCl H32.out HHB.out (some ⟨w.heap.size,0,none⟩) 32 32 (by have:=HE.out;omega) b t y2 (AC (sB HE2.out) HE.out HEB.out) T2.out.here HT2.out).mono ?_
 rintro x y3 ⟨rfl,hT⟩
 have T3:Hid _:=T2.out.then hT
 clear hT
 go_wp2_with fail
 exact bodyPost_end (results_none rfl _ _ _) rfl ⟨rfl,T3.out⟩
theorem uP:prog.follows .mixedOrders=true:=by kernel_rfl
theorem KN:(prog.info? 177).map (·.size)=some 16:=by kernel_rfl
theorem acR (x:Int) (w:World) (h:fU x):Calls prog 129 #[.int .u32 x,.int .i64 16] w fun e w'=>e=.returned (.int .u32 (rl 16 x))∧∃d,w'=w.drewN d:=by
 have hr:rl 16 x=x / 65536+x%65536*65536:=rfl
 have HR:Hid (rl 16 x=x / 65536+x%65536*65536):=hr
 clear hr
 obtain⟨h0,h1⟩:=h
 have hx:(0:Int)≤x%65536:=by omega
 have hx1:x%65536<65536:=by omega
 go_enter func129,ntmps129
 go_wp2_with go_in
 go_quiet (fail)
 go_wp2
 go_ret
 refine⟨?_,nq,rfl⟩
 rw[HR.out]
 rfl
theorem acQ (x:Int) (w:World) (h:fU x):Calls prog 129 #[.int .u32 x,.int .i64 12] w fun e w'=>e=.returned (.int .u32 (rl 12 x))∧∃d,w'=w.drewN d:=by
 have hr:rl 12 x=x / 1048576+x%1048576*4096:=rfl
 have HR:Hid (rl 12 x=x / 1048576+x%1048576*4096):=hr
 clear hr
 obtain⟨h0,h1⟩:=h
 have hx:(0:Int)≤x%1048576:=by omega
 have hx1:x%1048576<1048576:=by omega
 go_enter func129,ntmps129
 go_wp2_with go_in
 go_quiet (fail)
 go_wp2
 go_ret
 refine⟨?_,nq,rfl⟩
 rw[HR.out]
 rfl
theorem aeO (x:Int) (w:World) (h:fU x):Calls prog 129 #[.int .u32 x,.int .i64 8] w fun e w'=>e=.returned (.int .u32 (rl 8 x))∧∃d,w'=w.drewN d:=by
 have hr:rl 8 x=x / 16777216+x%16777216*256:=rfl
 have HR:Hid (rl 8 x=x / 16777216+x%16777216*256):=hr
 clear hr
 obtain⟨h0,h1⟩:=h
 have hx:(0:Int)≤x%16777216:=by omega
 have hx1:x%16777216<16777216:=by omega
 go_enter func129,ntmps129
 go_wp2_with go_in
 go_quiet (fail)
 go_wp2
 go_ret
 refine⟨?_,nq,rfl⟩
 rw[HR.out]
 rfl
theorem aeN (x:Int) (w:World) (h:fU x):Calls prog 129 #[.int .u32 x,.int .i64 7] w fun e w'=>e=.returned (.int .u32 (rl 7 x))∧∃d,w'=w.drewN d:=by
 have hr:rl 7 x=x / 33554432+x%33554432*128:=rfl
 have HR:Hid (rl 7 x=x / 33554432+x%33554432*128):=hr
 clear hr
 obtain⟨h0,h1⟩:=h
 have hx:(0:Int)≤x%33554432:=by omega
 have hx1:x%33554432<33554432:=by omega
 go_enter func129,ntmps129
 go_wp2_with go_in
 go_quiet (fail)
 go_wp2
 go_ret
 refine⟨?_,nq,rfl⟩
 rw[HR.out]
 rfl
theorem VQ (i:Nat) (h:i<8) (w:World):Calls prog 116 #[.int .i64 i] w fun e w'=>e=.returned (.tuple #[.int .i64 (q0 i),.int .i64 (q1 i),.int .i64 (q2 i),.int .i64 (q3 i)])∧w'=w:=by
 have hc:i=0∨i=1∨i=2∨i=3∨i=4∨i=5∨i=6∨i=7:=by omega
 rcases hc with rfl|rfl|rfl|rfl|rfl|rfl|rfl|rfl
 all_goals
  go_enter func116,ntmps116
  go_wp2
  exact bodyPost_ret (v:=.tuple #[.int .i64 _,.int .i64 _,.int .i64 _,.int .i64 _]) (by simp[results,results116,go_sem];exact⟨rfl,rfl,rfl,rfl⟩) rfl ⟨rfl,rfl⟩
theorem BD {w:World} {g:Nat} {t:TypeId} {l:List Int} (h:aC w g .u32 l t) (off k:Nat) (f:Nat→Int) (hk:off+k<l.length):
 (w.setRow g (Iv .u32 (pF9 l off f k))).setCell ⟨g,off+k,none⟩ (.int .u32 (f k))=w.setRow g (Iv .u32 (pF9 l off f (k+1))):=by
 rw[aL,bN,bJ _ _ _ _ hk]
set_option maxRecDepth 10000 in
set_option maxHeartbeats 4000000 in
theorem M6 (key ws:List Int) (n:Nat) (w:World) (hk:key.length=32) (hkb:aE key) (hn:ws.length=n) (hn4:n≤4) (a:Option Addr) (cap:Nat) (hr:ZK .u32 w a ws):
 Calls prog 101 #[.agg (Iv .u8 key),.slice a n cap] w fun e w'=>e=.returned (.agg (Iv .u32 (pF9 (pF9 kM 4 (aF key) 8) 12 (aK ws) n)))∧Below w.heap.size w w':=by
 go_enter func101,ntmps101
 go_wp2_with fail
 obtain⟨W,hW,h0,h1,h2,hs,hb⟩:=oF w (.cells (Iv .u8 key) 22) (.cells (Iv .u32 (rQ 16 0)) 177) (.cells (Iv .u32 kM) 177)
 have hW':=hW
 simp only[Iv,kM,rQ,List.map_cons,List.map_nil]at hW'
 simp only[Iv,hW']
 clear hW hW'
 have H0:aC W w.heap.size .u8 key 22:=h0
 have H1:aC W (w.heap.size+1) .u32 (rQ 16 0) 177:=h1
 have H2:aC W (w.heap.size+1+1) .u32 kM 177:=h2
 clear h0 h1 h2
 refine(AL key 32 8 hk hkb (by decide) (by decide) (some ⟨w.heap.size,0,none⟩) 32 W (fun i hi=>⟨w.heap.size,0,rfl,by rw[Nat.zero_add];exact H0.cell i hi⟩)).mono ?_
 rintro e W1 ⟨v,rfl,hown,hb1⟩
 have K1:=H1.below hb1 H1.lt
 have K2:=H2.below hb1 H2.lt
 have hbw:Below w.heap.size w W1:=hb.trans (hb1.mono (by omega))
 obtain⟨rfl,hnil⟩|⟨g,cp,rfl,hgb,hgl,hlc,hcm,hcell,_⟩:=hown.at
 ·exact absurd hnil (by simp[bG])
 have hwl:(bG key 8).length=8:=qK _ _
 have HC:Hid (∀i,i<8→W1.cell? ⟨g,i,none⟩=some (.int .u32 (aF key i))):=by
  intro i hi
  have:=hcell i (by omega)
  rw[this]
  simp[bG,hi]
 have HR:Hid (∀i,i<n→∃b o,a=some ⟨b,o,none⟩∧b<w.heap.size∧W1.cell? ⟨b,o+i,none⟩=some (.int .u32 (aK ws i))):=by
  intro i hi
  obtain⟨b,o,e1,e2⟩:=hr i (by omega)
  have hl:=wJ _ _ e2
  exact⟨b,o,e1,hl,(hbw.cell (p:=⟨b,o+i,none⟩) hl).trans e2⟩
 rw[hwl]at*
 have hgne:g≠w.heap.size+1+1:=by omega
 clear hcell hown hr H0 H1 H2 hb hb1 hs hgb hgl hwl hlc hcm
 go_wp2_with fail
 go_loopw [14] (fun i wr=>∃k:Nat,k≤8∧i=.int .i64 k∧wr=W1.setRow (w.heap.size+1+1) (Iv .u32 (pF9 kM 4 (aF key) k))) (fun i _=>8 - (intOf i).toNat)
 case atStart=>exact⟨0,by omega,rfl,by rw[bZ,iD _ _ _ _ _ K2]⟩
 case round=>
  obtain⟨k,hk8,rfl,rfl⟩:=hrel
  by_cases hlt:k<8
  ·have c1:(W1.setRow (w.heap.size+1+1) (Iv .u32 (pF9 kM 4 (aF key) k))).cell? ⟨g,k,none⟩=some (.int .u32 (aF key k)):=by rw[aZ _ _ _ _ hgne];exact HC.out k hlt
   have c2:∃v,(W1.setRow (w.heap.size+1+1) (Iv .u32 (pF9 kM 4 (aF key) k))).cell? ⟨w.heap.size+1+1,4+k,none⟩=some v:=by
    rw[eO _ _ _ _ _ _ _ K2]
    exact jW _ _ _ (by rw[aP _ _ _ _ (by simp[kM];omega)];simp[kM];omega)
   obtain⟨v2,c2⟩:=c2
   have c3:(W1.setRow (w.heap.size+1+1) (Iv .u32 (pF9 kM 4 (aF key) k))).frozen? ⟨w.heap.size+1+1,4+k,none⟩=false:=by rw[iF];exact frozen_of_row _ _ _ _ _ K2
   have HS:Hid ((W1.setRow (w.heap.size+1+1) (Iv .u32 (pF9 kM 4 (aF key) k))).setCell ⟨w.heap.size+1+1,4+k,none⟩ (.int .u32 (aF key k))=W1.setRow (w.heap.size+1+1) (Iv .u32 (pF9 kM 4 (aF key) (k+1)))):=BD K2 4 k _ (by simp[kM];omega)
   go_wp2
   go_roundw
   case rel=>exact⟨k+1,by omega,by go_num,HS.out⟩
   case measure=>simp[intOf];omega
  ·obtain rfl:k=8:=by omega
   have J1:aC (W1.setRow (w.heap.size+1+1) (Iv .u32 (pF9 kM 4 (aF key) 8))) (w.heap.size+1) .u32 (rQ 16 0) 177:=K1.far _ _ (by omega) 0
   have J2:aC (W1.setRow (w.heap.size+1+1) (Iv .u32 (pF9 kM 4 (aF key) 8))) (w.heap.size+1+1) .u32 (pF9 kM 4 (aF key) 8) 177:=K2.put _ 0
   have J3:Below w.heap.size w (W1.setRow (w.heap.size+1+1) (Iv .u32 (pF9 kM 4 (aF key) 8))):=aM hbw _ (by omega) _
   have HR2:Hid (∀i,i<n→∃b o,a=some ⟨b,o,none⟩∧b<w.heap.size∧(W1.setRow (w.heap.size+1+1) (Iv .u32 (pF9 kM 4 (aF key) 8))).cell? ⟨b,o+i,none⟩=some (.int .u32 (aK ws i))):=by
    intro i hi
    obtain⟨b,o,e1,e2,e3⟩:=HR.out i hi
    exact⟨b,o,e1,e2,by rw[aZ _ _ _ _ (by show b≠_;omega)];exact e3⟩
   generalize W1.setRow (w.heap.size+1+1) (Iv .u32 (pF9 kM 4 (aF key) 8))=W2 at*
   clear HR HC K1 K2 hbw
   have hlen:(pF9 kM 4 (aF key) 8).length=16:=by rw[aP _ _ _ _ (by simp[kM])];rfl
   generalize hLe:pF9 kM 4 (aF key) 8=L at*
   have HLe:Hid (pF9 kM 4 (aF key) 8=L):=hLe
   clear hLe
   go_wp2_with fail
   go_loopw [26] (fun i wr=>∃k:Nat,k≤n∧i=.int .i64 k∧wr=W2.setRow (w.heap.size+1+1) (Iv .u32 (pF9 L 12 (aK ws) k))) (fun i _=>n - (intOf i).toNat)
   case atStart=>exact⟨0,by omega,rfl,by rw[bZ,iD _ _ _ _ _ J2]⟩
   case round=>
    obtain⟨k,hkn,rfl,rfl⟩:=hrel
    by_cases hlt2:k<n
    ·obtain⟨b,o,rfl,hbl,d1⟩:=HR2.out k hlt2
     have c1:(W2.setRow (w.heap.size+1+1) (Iv .u32 (pF9 L 12 (aK ws) k))).cell? ⟨b,o+k,none⟩=some (.int .u32 (aK ws k)):=by rw[aZ _ _ _ _ (by show b≠_;omega)];exact d1
     have c2:∃v,(W2.setRow (w.heap.size+1+1) (Iv .u32 (pF9 L 12 (aK ws) k))).cell? ⟨w.heap.size+1+1,12+k,none⟩=some v:=by
      rw[eO _ _ _ _ _ _ _ J2]
      exact jW _ _ _ (by rw[aP _ _ _ _ (by omega)];omega)
     obtain⟨v2,c2⟩:=c2
     have c3:(W2.setRow (w.heap.size+1+1) (Iv .u32 (pF9 L 12 (aK ws) k))).frozen? ⟨w.heap.size+1+1,12+k,none⟩=false:=by rw[iF];exact frozen_of_row _ _ _ _ _ J2
     have HS:Hid ((W2.setRow (w.heap.size+1+1) (Iv .u32 (pF9 L 12 (aK ws) k))).setCell ⟨w.heap.size+1+1,12+k,none⟩ (.int .u32 (aK ws k))=W2.setRow (w.heap.size+1+1) (Iv .u32 (pF9 L 12 (aK ws) (k+1)))):=BD J2 12 k (aK ws) (by omega)
     have h16:(12:Int)+k<16:=by omega
     clear HR2 d1
     generalize aK ws k=x at*
     go_wp2
     go_roundw
     case rel=>exact⟨k+1,by omega,by go_num,HS.out⟩
     case measure=>simp[intOf];omega
    ·obtain rfl:k=n:=by omega
     have hL:(pF9 L 12 (aK ws) k).length=16:=by rw[aP _ _ _ _ (by omega),hlen]
     have HI:Hid ((prog.info? 177).map (·.size)=some (Iv .u32 (pF9 L 12 (aK ws) k)).size):=by show _=_;rw[aD,hL];exact KN
     have HZ:Hid ((Iv .u32 (rQ 16 0)).size=(Iv .u32 (pF9 L 12 (aK ws) k)).size):=by show _=_;rw[aD,aD,hL,rJ]
     have M1:aC (W2.setRow (w.heap.size+1+1) (Iv .u32 (pF9 L 12 (aK ws) k))) (w.heap.size+1) .u32 (rQ 16 0) 177:=J1.far _ _ (by omega) 0
     have M2:aC (W2.setRow (w.heap.size+1+1) (Iv .u32 (pF9 L 12 (aK ws) k))) (w.heap.size+1+1) .u32 (pF9 L 12 (aK ws) k) 177:=J2.put _ 0
     have M3:Below w.heap.size w (W2.setRow (w.heap.size+1+1) (Iv .u32 (pF9 L 12 (aK ws) k))):=aM J3 _ (by omega) _
     generalize hFe:pF9 L 12 (aK ws) k=F at*
     have HFe:Hid (pF9 L 12 (aK ws) k=F):=hFe
     clear hFe HR2
     generalize W2.setRow (w.heap.size+1+1) (Iv .u32 F)=W3 at*
     go_wp2_with(first|refine wpLr rfl 177 _ rfl (w.heap.size+1+1) rfl _ (Iv .u32 F) _ _ M2 underlying177 rfl HI.out ?_ |refine wpList_store_row rfl 177 _ _ rfl (w.heap.size+1) (Iv .u32 F) rfl rfl _ _ M1 HI.out HZ.out (aG _ _) ?_)
     refine oT (cs:=Iv .u32 F) results101 ?_ (setRow_heap _ _ _ _ _ _ M1) underlying177 HI.out ?_
     ·rfl
     ·exact⟨by rw[HLe.out,HFe.out],aM M3 _ (by omega) _⟩
set_option maxRecDepth 10000 in
set_option maxHeartbeats 4000000 in
theorem GT (l:List Int) (a b c d:Nat) (w:World) (hl:l.length=16) (h:bF l) (ha:a<16) (hb:b<16) (hc:c<16) (hd:d<16) (ab:a≠b) (ac:a≠c) (had:a≠d) (bc:b≠c) (bd:b≠d) (cd:c≠d):
 Calls prog 118 #[.agg (Iv .u32 l),.int .i64 a,.int .i64 b,.int .i64 c,.int .i64 d] w fun e w'=>e=.returned (.agg (Iv .u32 (iC l a b c d)))∧Below w.heap.size w w':=by
 have hwa:=h a
 have hwb:=h b
 have hwc:=h c
 have hwd:=h d
 have HM:Hid (iC l a b c d=put4 l a b c d (qA (l.getD a 0) (l.getD b 0) (l.getD c 0) (l.getD d 0)) (qB (l.getD a 0) (l.getD b 0) (l.getD c 0) (l.getD d 0)) (qC (l.getD a 0) (l.getD b 0) (l.getD c 0) (l.getD d 0)) (qD (l.getD a 0) (l.getD b 0) (l.getD c 0) (l.getD d 0))):=PZ l a b c d
 have HS:Hid (put4 l a b c d (l.getD a 0) (l.getD b 0) (l.getD c 0) (l.getD d 0)=l):=JJ l a b c d
 have HAT:Hid (∀A B C D:Int,(put4 l a b c d A B C D).getD a 0=A∧(put4 l a b c d A B C D).getD b 0=B∧(put4 l a b c d A B C D).getD c 0=C∧(put4 l a b c d A B C D).getD d 0=D):=fun A B C D=>SI l A B C D (by omega) (by omega) (by omega) (by omega) ab ac had bc bd cd
 have HLEN:Hid (∀A B C D:Int,(put4 l a b c d A B C D).length=16):=fun A B C D=>by rw[uV,hl]
 generalize l.getD a 0=A0 at*
 generalize l.getD b 0=B0 at*
 generalize l.getD c 0=C0 at*
 generalize l.getD d 0=D0 at*
 have hai:(a:Int)<16:=by omega
 have hbi:(b:Int)<16:=by omega
 have hci:(c:Int)<16:=by omega
 have hdi:(d:Int)<16:=by omega
 go_enter func118,ntmps118
 go_wp2_with fail
 obtain⟨W0,hW,R00,Z00,hs0,hb0⟩:=kX w (.cells (Iv .u32 l) 177) (.cells (Iv .u32 (rQ 16 0)) 177)
 have R0:aC W0 w.heap.size .u32 (put4 l a b c d A0 B0 C0 D0) 177:=by rw[HS.out];exact R00
 have Z0:aC W0 (w.heap.size+1) .u32 (rQ 16 0) 177:=Z00
 clear R00 Z00 hs0
 have hW':=hW
 simp only[Iv,rQ,List.map_cons,List.map_nil]at hW'
 simp only[Iv,hW']
 clear hW hW'
 have ca0:W0.cell? ⟨w.heap.size,a,none⟩=some (.int .u32 A0):=by have:=R0.cell a (by rw[HLEN.out];omega);rw[(HAT.out _ _ _ _).1]at this;exact this
 have fa0:W0.frozen? ⟨w.heap.size,a,none⟩=false:=R0.frozen a
 have cb0:W0.cell? ⟨w.heap.size,b,none⟩=some (.int .u32 B0):=by have:=R0.cell b (by rw[HLEN.out];omega);rw[(HAT.out _ _ _ _).2.1]at this;exact this
 have fb0:W0.frozen? ⟨w.heap.size,b,none⟩=false:=R0.frozen b
 have cc0:W0.cell? ⟨w.heap.size,c,none⟩=some (.int .u32 C0):=by have:=R0.cell c (by rw[HLEN.out];omega);rw[(HAT.out _ _ _ _).2.2.1]at this;exact this
 have fc0:W0.frozen? ⟨w.heap.size,c,none⟩=false:=R0.frozen c
 have cd0:W0.cell? ⟨w.heap.size,d,none⟩=some (.int .u32 D0):=by have:=R0.cell d (by rw[HLEN.out];omega);rw[(HAT.out _ _ _ _).2.2.2]at this;exact this
 have fd0:W0.frozen? ⟨w.heap.size,d,none⟩=false:=R0.frozen d
 go_wp2_with fail
 refine wRh 8 uP (by kernel_rfl) ?_
 simp only[tU,tJ,dJ,dY]
 repeat(go_big_quiet_step (fail))
 refine wqN ?_
 go_wp2_with fail
 obtain⟨W1,hWn⟩:∃X,X=(W0.setCell ⟨w.heap.size,a,none⟩ (.int .u32 ((A0+B0)%4294967296))).drew:=⟨_,rfl⟩
 rw[←hWn]
 have R1:aC W1 w.heap.size .u32 ((put4 l a b c d A0 B0 C0 D0).set a ((A0+B0)%4294967296)) 177:=by rw[hWn];exact R0.setCell a _
 have Z1:aC W1 (w.heap.size+1) .u32 (rQ 16 0) 177:=by rw[hWn];exact Z0.setFar _ _ (by show w.heap.size≠_;omega)
 have hb1:Below w.heap.size w W1:=by rw[hWn];exact bDr (hb0.setCell (by simp) _) 1
 rw[LG l _ _ _ _ _ ab ac had]at R1
 obtain⟨A1,hA1⟩:∃X,X=((A0+B0)%4294967296):=⟨_,rfl⟩
 rw[←hA1]at R1
 simp only[←hA1]
 have E1:Hid (A1=ad A0 B0):=hA1
 clear hA1 hWn R0 Z0 hb0 ca0 cb0 cc0 cd0 fa0 fb0 fc0 fd0
 have ca1:W1.cell? ⟨w.heap.size,a,none⟩=some (.int .u32 A1):=by have:=R1.cell a (by rw[HLEN.out];omega);rw[(HAT.out _ _ _ _).1]at this;exact this
 have fa1:W1.frozen? ⟨w.heap.size,a,none⟩=false:=R1.frozen a
 have cb1:W1.cell? ⟨w.heap.size,b,none⟩=some (.int .u32 B0):=by have:=R1.cell b (by rw[HLEN.out];omega);rw[(HAT.out _ _ _ _).2.1]at this;exact this
 have fb1:W1.frozen? ⟨w.heap.size,b,none⟩=false:=R1.frozen b
 have cc1:W1.cell? ⟨w.heap.size,c,none⟩=some (.int .u32 C0):=by have:=R1.cell c (by rw[HLEN.out];omega);rw[(HAT.out _ _ _ _).2.2.1]at this;exact this
 have fc1:W1.frozen? ⟨w.heap.size,c,none⟩=false:=R1.frozen c
 have cd1:W1.cell? ⟨w.heap.size,d,none⟩=some (.int .u32 D0):=by have:=R1.cell d (by rw[HLEN.out];omega);rw[(HAT.out _ _ _ _).2.2.2]at this;exact this
 have fd1:W1.frozen? ⟨w.heap.size,d,none⟩=false:=R1.frozen d
 go_wp2_with fail
 refine wRl 8 (fun _=>True) [(.held,[0]),(.exact,[1,2,3,4,5,6,7]),(.tail,[8]),(.held,[9]),(.tail,[10])] uP (by kernel_rfl) trivial ?_
 simp only[iQ,oS]
 repeat(go_big_quiet_step (fail))
 refine wqN ?_
 repeat(go_big_quiet_step (fail))
 refine wqN ?_
 go_wp2_with fail
 refine(acR _ _ (iR _ _)).mono ?_
 rintro e W1x ⟨rfl,d1,hWx⟩
 have R1x:aC W1x w.heap.size .u32 (put4 l a b c d A1 B0 C0 D0) 177:=by rw[hWx];exact R1
 have Z1x:aC W1x (w.heap.size+1) .u32 (rQ 16 0) 177:=by rw[hWx];exact Z1
 have hb1x:Below w.heap.size w W1x:=by rw[hWx];exact bDr (bDr hb1 1) d1
 have hy1:∃v,W1x.cell? ⟨w.heap.size,d,none⟩=some v:=⟨_,R1x.cell d (by rw[HLEN.out];omega)⟩
 obtain⟨v1,hv1⟩:=hy1
 have fx1:W1x.frozen? ⟨w.heap.size,d,none⟩=false:=R1x.frozen d
 clear hWx
 go_wp2_with fail
 refine⟨trivial,?_⟩
 repeat(go_big_quiet_step (fail))
 refine wqN ?_
 go_wp2_with fail
 refine⟨trivial,dI ?_⟩
 obtain⟨W2,hWn⟩:∃X,X=W1x.setCell ⟨w.heap.size,d,none⟩ (.int .u32 (rl 16 (xr D0 A1))):=⟨_,rfl⟩
 rw[←hWn]
 have R2:aC W2 w.heap.size .u32 ((put4 l a b c d A1 B0 C0 D0).set d (rl 16 (xr D0 A1))) 177:=by rw[hWn];exact R1x.setCell d _
 have Z2:aC W2 (w.heap.size+1) .u32 (rQ 16 0) 177:=by rw[hWn];exact Z1x.setFar _ _ (by show w.heap.size≠_;omega)
 have hb2:Below w.heap.size w W2:=by rw[hWn];exact hb1x.setCell (by simp) _
 clear R1x Z1x hb1x hv1 fx1
 rw[LJ l _ _ _ _ _]at R2
 obtain⟨D2,hD2⟩:∃X,X=(rl 16 (xr D0 A1)):=⟨_,rfl⟩
 rw[←hD2]at R2
 simp only[←hD2]
 have E2:Hid (D2=rl 16 (xr D0 A1)):=hD2
 clear hD2 hWn R1 Z1 hb1 ca1 cb1 cc1 cd1 fa1 fb1 fc1 fd1
 have ca2:W2.cell? ⟨w.heap.size,a,none⟩=some (.int .u32 A1):=by have:=R2.cell a (by rw[HLEN.out];omega);rw[(HAT.out _ _ _ _).1]at this;exact this
 have fa2:W2.frozen? ⟨w.heap.size,a,none⟩=false:=R2.frozen a
 have cb2:W2.cell? ⟨w.heap.size,b,none⟩=some (.int .u32 B0):=by have:=R2.cell b (by rw[HLEN.out];omega);rw[(HAT.out _ _ _ _).2.1]at this;exact this
 have fb2:W2.frozen? ⟨w.heap.size,b,none⟩=false:=R2.frozen b
 have cc2:W2.cell? ⟨w.heap.size,c,none⟩=some (.int .u32 C0):=by have:=R2.cell c (by rw[HLEN.out];omega);rw[(HAT.out _ _ _ _).2.2.1]at this;exact this
 have fc2:W2.frozen? ⟨w.heap.size,c,none⟩=false:=R2.frozen c
 have cd2:W2.cell? ⟨w.heap.size,d,none⟩=some (.int .u32 D2):=by have:=R2.cell d (by rw[HLEN.out];omega);rw[(HAT.out _ _ _ _).2.2.2]at this;exact this
 have fd2:W2.frozen? ⟨w.heap.size,d,none⟩=false:=R2.frozen d
 go_wp2_with fail
 refine wRh 8 uP (by kernel_rfl) ?_
 simp only[tU,tJ,dJ,dY]
 repeat(go_big_quiet_step (fail))
 refine wqN ?_
 go_wp2_with fail
 obtain⟨W3,hWn⟩:∃X,X=(W2.setCell ⟨w.heap.size,c,none⟩ (.int .u32 ((C0+D2)%4294967296))).drew:=⟨_,rfl⟩
 rw[←hWn]
 have R3:aC W3 w.heap.size .u32 ((put4 l a b c d A1 B0 C0 D2).set c ((C0+D2)%4294967296)) 177:=by rw[hWn];exact R2.setCell c _
 have Z3:aC W3 (w.heap.size+1) .u32 (rQ 16 0) 177:=by rw[hWn];exact Z2.setFar _ _ (by show w.heap.size≠_;omega)
 have hb3:Below w.heap.size w W3:=by rw[hWn];exact bDr (hb2.setCell (by simp) _) 1
 rw[LI l _ _ _ _ _ cd]at R3
 obtain⟨C3,hC3⟩:∃X,X=((C0+D2)%4294967296):=⟨_,rfl⟩
 rw[←hC3]at R3
 simp only[←hC3]
 have E3:Hid (C3=ad C0 D2):=hC3
 clear hC3 hWn R2 Z2 hb2 ca2 cb2 cc2 cd2 fa2 fb2 fc2 fd2
 have ca3:W3.cell? ⟨w.heap.size,a,none⟩=some (.int .u32 A1):=by have:=R3.cell a (by rw[HLEN.out];omega);rw[(HAT.out _ _ _ _).1]at this;exact this
 have fa3:W3.frozen? ⟨w.heap.size,a,none⟩=false:=R3.frozen a
 have cb3:W3.cell? ⟨w.heap.size,b,none⟩=some (.int .u32 B0):=by have:=R3.cell b (by rw[HLEN.out];omega);rw[(HAT.out _ _ _ _).2.1]at this;exact this
 have fb3:W3.frozen? ⟨w.heap.size,b,none⟩=false:=R3.frozen b
 have cc3:W3.cell? ⟨w.heap.size,c,none⟩=some (.int .u32 C3):=by have:=R3.cell c (by rw[HLEN.out];omega);rw[(HAT.out _ _ _ _).2.2.1]at this;exact this
 have fc3:W3.frozen? ⟨w.heap.size,c,none⟩=false:=R3.frozen c
 have cd3:W3.cell? ⟨w.heap.size,d,none⟩=some (.int .u32 D2):=by have:=R3.cell d (by rw[HLEN.out];omega);rw[(HAT.out _ _ _ _).2.2.2]at this;exact this
 have fd3:W3.frozen? ⟨w.heap.size,d,none⟩=false:=R3.frozen d
 go_wp2_with fail
 refine wRl 8 (fun _=>True) [(.held,[0]),(.exact,[1,2,3,4,5,6,7]),(.tail,[8]),(.held,[9]),(.tail,[10])] uP (by kernel_rfl) trivial ?_
 simp only[iQ,oS]
 repeat(go_big_quiet_step (fail))
 refine wqN ?_
 repeat(go_big_quiet_step (fail))
 refine wqN ?_
 go_wp2_with fail
 refine(acQ _ _ (iR _ _)).mono ?_
 rintro e W3x ⟨rfl,d3,hWx⟩
 have R3x:aC W3x w.heap.size .u32 (put4 l a b c d A1 B0 C3 D2) 177:=by rw[hWx];exact R3
 have Z3x:aC W3x (w.heap.size+1) .u32 (rQ 16 0) 177:=by rw[hWx];exact Z3
 have hb3x:Below w.heap.size w W3x:=by rw[hWx];exact bDr (bDr hb3 1) d3
 have hy3:∃v,W3x.cell? ⟨w.heap.size,b,none⟩=some v:=⟨_,R3x.cell b (by rw[HLEN.out];omega)⟩
 obtain⟨v3,hv3⟩:=hy3
 have fx3:W3x.frozen? ⟨w.heap.size,b,none⟩=false:=R3x.frozen b
 clear hWx
 go_wp2_with fail
 refine⟨trivial,?_⟩
 repeat(go_big_quiet_step (fail))
 refine wqN ?_
 go_wp2_with fail
 refine⟨trivial,dI ?_⟩
 obtain⟨W4,hWn⟩:∃X,X=W3x.setCell ⟨w.heap.size,b,none⟩ (.int .u32 (rl 12 (xr B0 C3))):=⟨_,rfl⟩
 rw[←hWn]
 have R4:aC W4 w.heap.size .u32 ((put4 l a b c d A1 B0 C3 D2).set b (rl 12 (xr B0 C3))) 177:=by rw[hWn];exact R3x.setCell b _
 have Z4:aC W4 (w.heap.size+1) .u32 (rQ 16 0) 177:=by rw[hWn];exact Z3x.setFar _ _ (by show w.heap.size≠_;omega)
 have hb4:Below w.heap.size w W4:=by rw[hWn];exact hb3x.setCell (by simp) _
 clear R3x Z3x hb3x hv3 fx3
 rw[LH l _ _ _ _ _ bc bd]at R4
 obtain⟨B4,hB4⟩:∃X,X=(rl 12 (xr B0 C3)):=⟨_,rfl⟩
 rw[←hB4]at R4
 simp only[←hB4]
 have E4:Hid (B4=rl 12 (xr B0 C3)):=hB4
 clear hB4 hWn R3 Z3 hb3 ca3 cb3 cc3 cd3 fa3 fb3 fc3 fd3
 have ca4:W4.cell? ⟨w.heap.size,a,none⟩=some (.int .u32 A1):=by have:=R4.cell a (by rw[HLEN.out];omega);rw[(HAT.out _ _ _ _).1]at this;exact this
 have fa4:W4.frozen? ⟨w.heap.size,a,none⟩=false:=R4.frozen a
 have cb4:W4.cell? ⟨w.heap.size,b,none⟩=some (.int .u32 B4):=by have:=R4.cell b (by rw[HLEN.out];omega);rw[(HAT.out _ _ _ _).2.1]at this;exact this
 have fb4:W4.frozen? ⟨w.heap.size,b,none⟩=false:=R4.frozen b
 have cc4:W4.cell? ⟨w.heap.size,c,none⟩=some (.int .u32 C3):=by have:=R4.cell c (by rw[HLEN.out];omega);rw[(HAT.out _ _ _ _).2.2.1]at this;exact this
 have fc4:W4.frozen? ⟨w.heap.size,c,none⟩=false:=R4.frozen c
 have cd4:W4.cell? ⟨w.heap.size,d,none⟩=some (.int .u32 D2):=by have:=R4.cell d (by rw[HLEN.out];omega);rw[(HAT.out _ _ _ _).2.2.2]at this;exact this
 have fd4:W4.frozen? ⟨w.heap.size,d,none⟩=false:=R4.frozen d
 go_wp2_with fail
 refine wRh 8 uP (by kernel_rfl) ?_
 simp only[tU,tJ,dJ,dY]
 repeat(go_big_quiet_step (fail))
 refine wqN ?_
 go_wp2_with fail
 obtain⟨W5,hWn⟩:∃X,X=(W4.setCell ⟨w.heap.size,a,none⟩ (.int .u32 ((A1+B4)%4294967296))).drew:=⟨_,rfl⟩
 rw[←hWn]
 have R5:aC W5 w.heap.size .u32 ((put4 l a b c d A1 B4 C3 D2).set a ((A1+B4)%4294967296)) 177:=by rw[hWn];exact R4.setCell a _
 have Z5:aC W5 (w.heap.size+1) .u32 (rQ 16 0) 177:=by rw[hWn];exact Z4.setFar _ _ (by show w.heap.size≠_;omega)
 have hb5:Below w.heap.size w W5:=by rw[hWn];exact bDr (hb4.setCell (by simp) _) 1
 rw[LG l _ _ _ _ _ ab ac had]at R5
 obtain⟨A5,hA5⟩:∃X,X=((A1+B4)%4294967296):=⟨_,rfl⟩
 rw[←hA5]at R5
 simp only[←hA5]
 have E5:Hid (A5=ad A1 B4):=hA5
 clear hA5 hWn R4 Z4 hb4 ca4 cb4 cc4 cd4 fa4 fb4 fc4 fd4
 have ca5:W5.cell? ⟨w.heap.size,a,none⟩=some (.int .u32 A5):=by have:=R5.cell a (by rw[HLEN.out];omega);rw[(HAT.out _ _ _ _).1]at this;exact this
 have fa5:W5.frozen? ⟨w.heap.size,a,none⟩=false:=R5.frozen a
 have cb5:W5.cell? ⟨w.heap.size,b,none⟩=some (.int .u32 B4):=by have:=R5.cell b (by rw[HLEN.out];omega);rw[(HAT.out _ _ _ _).2.1]at this;exact this
 have fb5:W5.frozen? ⟨w.heap.size,b,none⟩=false:=R5.frozen b
 have cc5:W5.cell? ⟨w.heap.size,c,none⟩=some (.int .u32 C3):=by have:=R5.cell c (by rw[HLEN.out];omega);rw[(HAT.out _ _ _ _).2.2.1]at this;exact this
 have fc5:W5.frozen? ⟨w.heap.size,c,none⟩=false:=R5.frozen c
 have cd5:W5.cell? ⟨w.heap.size,d,none⟩=some (.int .u32 D2):=by have:=R5.cell d (by rw[HLEN.out];omega);rw[(HAT.out _ _ _ _).2.2.2]at this;exact this
 have fd5:W5.frozen? ⟨w.heap.size,d,none⟩=false:=R5.frozen d
 go_wp2_with fail
 refine wRl 8 (fun _=>True) [(.held,[0]),(.exact,[1,2,3,4,5,6,7]),(.tail,[8]),(.held,[9]),(.tail,[10])] uP (by kernel_rfl) trivial ?_
 simp only[iQ,oS]
 repeat(go_big_quiet_step (fail))
 refine wqN ?_
 repeat(go_big_quiet_step (fail))
 refine wqN ?_
 go_wp2_with fail
 refine(aeO _ _ (iR _ _)).mono ?_
 rintro e W5x ⟨rfl,d5,hWx⟩
 have R5x:aC W5x w.heap.size .u32 (put4 l a b c d A5 B4 C3 D2) 177:=by rw[hWx];exact R5
 have Z5x:aC W5x (w.heap.size+1) .u32 (rQ 16 0) 177:=by rw[hWx];exact Z5
 have hb5x:Below w.heap.size w W5x:=by rw[hWx];exact bDr (bDr hb5 1) d5
 have hy5:∃v,W5x.cell? ⟨w.heap.size,d,none⟩=some v:=⟨_,R5x.cell d (by rw[HLEN.out];omega)⟩
 obtain⟨v5,hv5⟩:=hy5
 have fx5:W5x.frozen? ⟨w.heap.size,d,none⟩=false:=R5x.frozen d
 clear hWx
 go_wp2_with fail
 refine⟨trivial,?_⟩
 repeat(go_big_quiet_step (fail))
 refine wqN ?_
 go_wp2_with fail
 refine⟨trivial,dI ?_⟩
 obtain⟨W6,hWn⟩:∃X,X=W5x.setCell ⟨w.heap.size,d,none⟩ (.int .u32 (rl 8 (xr D2 A5))):=⟨_,rfl⟩
 rw[←hWn]
 have R6:aC W6 w.heap.size .u32 ((put4 l a b c d A5 B4 C3 D2).set d (rl 8 (xr D2 A5))) 177:=by rw[hWn];exact R5x.setCell d _
 have Z6:aC W6 (w.heap.size+1) .u32 (rQ 16 0) 177:=by rw[hWn];exact Z5x.setFar _ _ (by show w.heap.size≠_;omega)
 have hb6:Below w.heap.size w W6:=by rw[hWn];exact hb5x.setCell (by simp) _
 clear R5x Z5x hb5x hv5 fx5
 rw[LJ l _ _ _ _ _]at R6
 obtain⟨D6,hD6⟩:∃X,X=(rl 8 (xr D2 A5)):=⟨_,rfl⟩
 rw[←hD6]at R6
 simp only[←hD6]
 have E6:Hid (D6=rl 8 (xr D2 A5)):=hD6
 clear hD6 hWn R5 Z5 hb5 ca5 cb5 cc5 cd5 fa5 fb5 fc5 fd5
 have ca6:W6.cell? ⟨w.heap.size,a,none⟩=some (.int .u32 A5):=by have:=R6.cell a (by rw[HLEN.out];omega);rw[(HAT.out _ _ _ _).1]at this;exact this
 have fa6:W6.frozen? ⟨w.heap.size,a,none⟩=false:=R6.frozen a
 have cb6:W6.cell? ⟨w.heap.size,b,none⟩=some (.int .u32 B4):=by have:=R6.cell b (by rw[HLEN.out];omega);rw[(HAT.out _ _ _ _).2.1]at this;exact this
 have fb6:W6.frozen? ⟨w.heap.size,b,none⟩=false:=R6.frozen b
 have cc6:W6.cell? ⟨w.heap.size,c,none⟩=some (.int .u32 C3):=by have:=R6.cell c (by rw[HLEN.out];omega);rw[(HAT.out _ _ _ _).2.2.1]at this;exact this
 have fc6:W6.frozen? ⟨w.heap.size,c,none⟩=false:=R6.frozen c
 have cd6:W6.cell? ⟨w.heap.size,d,none⟩=some (.int .u32 D6):=by have:=R6.cell d (by rw[HLEN.out];omega);rw[(HAT.out _ _ _ _).2.2.2]at this;exact this
 have fd6:W6.frozen? ⟨w.heap.size,d,none⟩=false:=R6.frozen d
 go_wp2_with fail
 refine wRh 8 uP (by kernel_rfl) ?_
 simp only[tU,tJ,dJ,dY]
 repeat(go_big_quiet_step (fail))
 refine wqN ?_
 go_wp2_with fail
 obtain⟨W7,hWn⟩:∃X,X=(W6.setCell ⟨w.heap.size,c,none⟩ (.int .u32 ((C3+D6)%4294967296))).drew:=⟨_,rfl⟩
 rw[←hWn]
 have R7:aC W7 w.heap.size .u32 ((put4 l a b c d A5 B4 C3 D6).set c ((C3+D6)%4294967296)) 177:=by rw[hWn];exact R6.setCell c _
 have Z7:aC W7 (w.heap.size+1) .u32 (rQ 16 0) 177:=by rw[hWn];exact Z6.setFar _ _ (by show w.heap.size≠_;omega)
 have hb7:Below w.heap.size w W7:=by rw[hWn];exact bDr (hb6.setCell (by simp) _) 1
 rw[LI l _ _ _ _ _ cd]at R7
 obtain⟨C7,hC7⟩:∃X,X=((C3+D6)%4294967296):=⟨_,rfl⟩
 rw[←hC7]at R7
 simp only[←hC7]
 have E7:Hid (C7=ad C3 D6):=hC7
 clear hC7 hWn R6 Z6 hb6 ca6 cb6 cc6 cd6 fa6 fb6 fc6 fd6
 have ca7:W7.cell? ⟨w.heap.size,a,none⟩=some (.int .u32 A5):=by have:=R7.cell a (by rw[HLEN.out];omega);rw[(HAT.out _ _ _ _).1]at this;exact this
 have fa7:W7.frozen? ⟨w.heap.size,a,none⟩=false:=R7.frozen a
 have cb7:W7.cell? ⟨w.heap.size,b,none⟩=some (.int .u32 B4):=by have:=R7.cell b (by rw[HLEN.out];omega);rw[(HAT.out _ _ _ _).2.1]at this;exact this
 have fb7:W7.frozen? ⟨w.heap.size,b,none⟩=false:=R7.frozen b
 have cc7:W7.cell? ⟨w.heap.size,c,none⟩=some (.int .u32 C7):=by have:=R7.cell c (by rw[HLEN.out];omega);rw[(HAT.out _ _ _ _).2.2.1]at this;exact this
 have fc7:W7.frozen? ⟨w.heap.size,c,none⟩=false:=R7.frozen c
 have cd7:W7.cell? ⟨w.heap.size,d,none⟩=some (.int .u32 D6):=by have:=R7.cell d (by rw[HLEN.out];omega);rw[(HAT.out _ _ _ _).2.2.2]at this;exact this
 have fd7:W7.frozen? ⟨w.heap.size,d,none⟩=false:=R7.frozen d
 go_wp2_with fail
 refine wRl 8 (fun _=>True) [(.held,[0]),(.exact,[1,2,3,4,5,6,7]),(.tail,[8]),(.held,[9]),(.tail,[10])] uP (by kernel_rfl) trivial ?_
 simp only[iQ,oS]
 repeat(go_big_quiet_step (fail))
 refine wqN ?_
 repeat(go_big_quiet_step (fail))
 refine wqN ?_
 go_wp2_with fail
 refine(aeN _ _ (iR _ _)).mono ?_
 rintro e W7x ⟨rfl,d7,hWx⟩
 have R7x:aC W7x w.heap.size .u32 (put4 l a b c d A5 B4 C7 D6) 177:=by rw[hWx];exact R7
 have Z7x:aC W7x (w.heap.size+1) .u32 (rQ 16 0) 177:=by rw[hWx];exact Z7
 have hb7x:Below w.heap.size w W7x:=by rw[hWx];exact bDr (bDr hb7 1) d7
 have hy7:∃v,W7x.cell? ⟨w.heap.size,b,none⟩=some v:=⟨_,R7x.cell b (by rw[HLEN.out];omega)⟩
 obtain⟨v7,hv7⟩:=hy7
 have fx7:W7x.frozen? ⟨w.heap.size,b,none⟩=false:=R7x.frozen b
 clear hWx
 go_wp2_with fail
 refine⟨trivial,?_⟩
 repeat(go_big_quiet_step (fail))
 refine wqN ?_
 go_wp2_with fail
 refine⟨trivial,dI ?_⟩
 have R8:=R7x.setCell b (rl 7 (xr B4 C7))
 have Z8:aC (W7x.setCell ⟨w.heap.size,b,none⟩ (.int .u32 (rl 7 (xr B4 C7)))) (w.heap.size+1) .u32 (rQ 16 0) 177:=Z7x.setFar _ _ (by show w.heap.size≠_;omega)
 have hb8:Below w.heap.size w (W7x.setCell ⟨w.heap.size,b,none⟩ (.int .u32 (rl 7 (xr B4 C7)))):=hb7x.setCell (by simp) _
 rw[LH l _ _ _ _ _ bc bd]at R8
 have hfin:put4 l a b c d A5 (rl 7 (xr B4 C7)) C7 D6=iC l a b c d:=by
  rw[HM.out]
  have e1:=E1.out
  have e2:=E2.out
  have e3:=E3.out
  have e4:=E4.out
  have e5:=E5.out
  have e6:=E6.out
  have e7:=E7.out
  subst e1 e2 e3 e4 e5 e6 e7
  rfl
 rw[hfin]at R8
 clear hfin
 have HR8:Hid (aC (W7x.setCell ⟨w.heap.size,b,none⟩ (.int .u32 (rl 7 (xr B4 C7)))) w.heap.size .u32 (iC l a b c d) 177):=R8
 have HZ8:Hid (aC (W7x.setCell ⟨w.heap.size,b,none⟩ (.int .u32 (rl 7 (xr B4 C7)))) (w.heap.size+1) .u32 (rQ 16 0) 177):=Z8
 have HB8:Hid (Below w.heap.size w (W7x.setCell ⟨w.heap.size,b,none⟩ (.int .u32 (rl 7 (xr B4 C7))))):=hb8
 clear R8 Z8 hb8 R7x Z7x hb7x
 have hL:(iC l a b c d).length=16:=by rw[tA,hl]
 have hi:(prog.info? 177).map (·.size)=some (Iv .u32 (iC l a b c d)).size:=by rw[aD,hL];exact KN
 have hz:(Iv .u32 (rQ 16 0)).size=(Iv .u32 (iC l a b c d)).size:=by rw[aD,aD,hL,rJ]
 have HI:Hid ((prog.info? 177).map (·.size)=some (Iv .u32 (iC l a b c d)).size):=hi
 have HZ:Hid ((Iv .u32 (rQ 16 0)).size=(Iv .u32 (iC l a b c d)).size):=hz
 clear hi hz
 go_wp2_with(first|refine wpLr rfl 177 _ rfl w.heap.size rfl _ (Iv .u32 (iC l a b c d)) _ _ HR8.out underlying177 rfl HI.out ?_ |refine wpList_store_row rfl 177 _ _ rfl (w.heap.size+1) (Iv .u32 (iC l a b c d)) rfl rfl _ _ HZ8.out HI.out HZ.out (aG _ _) ?_)
 refine oT (cs:=Iv .u32 (iC l a b c d)) results118 ?_ (setRow_heap _ _ _ _ _ _ HZ8.out) underlying177 HI.out ?_
 ·rfl
 ·exact⟨rfl,aM HB8.out _ (by omega) _⟩
end Go.Proofs.YtgcepckaolkeoaaGreatDoor
